/- Layer 8: what a light function is; the reference's answers and the laws' own helpers, as properties that stay. Layer 8: the law GraphReaches. Bytes that come in, opened. What each row of this seat is given: where the table of the operations reads as the program's text lays it, its cells are the plain table's; the heap that the program's own start leaves is one such. -/
import Derived.Test.YtfmeadbiokcboaaDoorMrAH
import Derived.Test.YtfmeadbiokcboaaDoorMrAW
import Derived.Deep.AppendLies
import Derived.Deep.RegionLaw
import Derived.Test.YtfmeadbiokcboaaDoorRows
import Derived.ProofKit
import Derived.LaidMore
import Derived.OpenShut
import Derived.Stop.Joined
import Derived.ShutString
import Derived.ChangeOld
import Derived.Below
import Derived.Lib.LaidTab
import Derived.Lib.SmallJoins
import Derived.WideKeyPair
namespace Go.Proofs.YtfmeadbiokcboaaDoor
open Go Go.RowKit
open G (Tok Er Ins Fun)
open Mix (Up)
theorem shapedGo_zero (N : Nat) : ∀ (l : List (List Ins)) (k : Nat), (shapedGo N k l).1 = 0 → ∀ b ∈ l, blkE N b = 0 := by
  intro l
  induction l with
  | nil => intro k _ b hb; cases hb
  | cons c l ih =>
    intro k h b hb
    by_cases e : blkE N c = 0
    · rw [shapedGo_next e] at h
      rcases List.mem_cons.1 hb with rfl | hb
      · exact e
      · exact ih _ h b hb
    · rw [shapedGo_hit rfl e] at h
      exact absurd h e
theorem blkGo_zero (N n : Nat) : ∀ (l : List Ins) (i : Nat), blkGo N n i l = 0 → ∀ (j : Nat) (x : Ins), l[j]? = some x → endsB x.1 = decide (i + j + 1 = n) ∧ badI N x = false := by
  intro l
  induction l with
  | nil => intro i _ j x hx; simp at hx
  | cons y l ih =>
    intro i h j x hx
    by_cases e : endsB y.1 = decide (i + 1 = n)
    · cases hb : badI N y with
      | true => rw [blkGo_bad e hb] at h; cases h
      | false =>
        rw [blkGo_next e hb] at h
        cases j with
        | zero => simp at hx; subst hx; exact ⟨e, hb⟩
        | succ j =>
          have := ih (i + 1) h j x (by simpa using hx)
          rw [show i + 1 + j + 1 = i + (j + 1) + 1 by omega] at this
          exact this
    · rw [blkGo_end e] at h; cases h
theorem lgt_pos {f : Fun} (h : Lgt f) : 0 < f.2.2.2.1.length := by
  have h3 := h.2.2
  unfold shapedF at h3
  split at h3
  · cases h3
  · omega
theorem lgt_blk {f : Fun} (h : Lgt f) : ∀ b ∈ f.2.2.2.1, b.length ≠ 0 ∧ blkGo f.2.2.2.1.length b.length 0 b = 0 := by
  have h0 := lgt_pos h
  have h3 := h.2.2
  unfold shapedF at h3
  rw [if_neg (by omega)] at h3
  intro b hb
  have := shapedGo_zero _ _ _ h3 b hb
  unfold blkE at this
  split at this
  · cases this
  · exact ⟨by assumption, this⟩
theorem lgt_ful {f : Fun} (h : Lgt f) : Ful f := by
  refine ⟨Nat.le_trans h.1 (by omega), fun b hb => ⟨fun e => (lgt_blk h b hb).1 (by rw [e]; rfl), fun x hx => ?_⟩⟩
  exact Nat.le_trans ((h.2.1 b hb).2 x hx).1 (by omega)
theorem lgt_tos {f : Fun} (h : Lgt f) : Tos f := by
  intro j
  by_cases hj : j < f.2.2.2.1.length
  · have hb : f.2.2.2.1[j]? = some f.2.2.2.1[j] := List.getElem?_eq_getElem hj
    obtain ⟨h1, h2⟩ := lgt_blk h _ (List.mem_of_getElem? hb)
    obtain ⟨x, hx, hl, _⟩ := (lgt_ful h).last (List.mem_of_getElem? hb)
    rw [nextF_at hb, hl]
    obtain ⟨k1, k2⟩ := blkGo_zero _ _ _ _ h2 _ x hx
    have hend : endsB x.1 = true := by rw [k1]; simp; omega
    have hop : x.1 ≠ 20 := by
      intro e
      rw [e] at hend
      simp [endsB] at hend
    have hbt : badT f.2.2.2.1.length x.2.2.2.2.2.1 = false := by
      unfold badI at k2
      simpa [hop] using k2
    intro m hm
    have hm2 : m ∈ x.2.2.2.2.2.1 := by rw [← hasL_mem, hasL_once, hasL_mem] at hm; exact hm
    unfold badT at hbt
    have := List.any_eq_false.1 hbt m hm2
    simp at this
    omega
  · have e : nextF f j = [] := by
      unfold nextF
      rw [List.getD_eq_getElem?_getD, List.getElem?_eq_none (by omega)]; rfl
    rw [e]
    intro m hm
    cases hm
theorem light_any (f : Fun) (v : Value) (w : World) (hv : FunV w f v) (hg : GyF f) :
    Calls Tryd.prog 11 #[v] w fun e w' => (e = .returned (.int .i64 1) ∨ (e = .returned (.int .i64 0) ∧ Lgt f)) ∧ Below w.heap.size w w' := by
  have hl := hg.light
  obtain ⟨nm, ps, rt, bl, pl⟩ := f
  have hv2 := hv
  obtain ⟨vp, vb, rfl, ⟨ao, c, rfl, h1, _⟩, h2⟩ := hv
  obtain ⟨bo, cb, rfl, _⟩ := h2
  exact light_try nm ps rt pl bl ao bo c cb w hv2 hl
theorem rsuccs_any (f : Fun) (v : Value) (w : World) (hv : FunV w f v) (hF : Ful f) :
    Calls Tryd.prog 14 #[v] w fun e w' => ∃ u, e = .returned u ∧ Below w.heap.size w w' ∧ RowsV w' (succsF f) u := by
  obtain ⟨nm, ps, rt, bl, pl⟩ := f
  have hv2 := hv
  obtain ⟨vp, vb, rfl, ⟨ao, c, rfl, h1, _⟩, h2⟩ := hv
  obtain ⟨bo, cb, rfl, _⟩ := h2
  exact (rsuccs_try nm ps rt pl bl ao bo c cb w hv2 hF).mono fun e w' ⟨u, he, h, b⟩ => ⟨u, he, b, h.read⟩
end Go.Proofs.YtfmeadbiokcboaaDoor
namespace Go.Proofs.YtfmeadbiokcboaaDoor
open Go Go.RowKit
open G (Tok Er Ins Fun)
open Mix (Up)
/-- Bytes that lie one by one. -/
def BytesV (w : World) (l : List Int) (v : Value) : Prop := ∃ ao c, v = .slice ao l.length c ∧ (l = [] ∨ ∃ b o, ao = some ⟨b, o, none⟩ ∧ b < w.heap.size ∧ ∀ (i : Nat) (n : Int), l[i]? = some n → w.cell? ⟨b, o + i, none⟩ = some (.int .u8 n)) ∧ l.length ≤ maxLen
theorem BytesV.below {w w' : World} {l : List Int} {v : Value} (h : BytesV w l v) (hb : Below w.heap.size w w') : BytesV w' l v := by
  obtain ⟨ao, c, e, h1, h2⟩ := h
  refine ⟨ao, c, e, ?_, h2⟩
  rcases h1 with h1 | ⟨b, o, e2, hl, hc⟩
  · exact .inl h1
  · exact .inr ⟨b, o, e2, Nat.lt_of_lt_of_le hl hb.size, fun i n hi => (hb.cell (p := ⟨b, o + i, none⟩) hl).trans (hc i n hi)⟩
/-- The blocks that bytes tell, of so many. -/
def fromL (b : List Int) (n : Nat) : List Int := b.map fun x => x.tmod (n : Int)
theorem fromL_len (b : List Int) (n : Nat) : (fromL b n).length = b.length := by simp [fromL]
theorem fromL_take {b : List Int} {n i : Nat} {x : Int} (h : b[i]? = some x) : fromL (b.take (i + 1)) n = fromL (b.take i) n ++ [x.tmod (n : Int)] := by
  unfold fromL; rw [take_more h, List.map_append]; rfl
theorem fromL_num {b : List Int} {n : Nat} (hn : 0 < n) (hb : ∀ x ∈ b, 0 ≤ x ∧ x < 256) : Num n (fromL b n) := by
  intro m hm
  obtain ⟨x, hx, rfl⟩ := List.mem_map.1 hm
  have h0 := (hb x hx).1
  rw [Int.tmod_eq_emod_of_nonneg h0]
  exact ⟨Int.emod_nonneg _ (by omega), Int.emod_lt_of_pos _ (by omega)⟩
def reachesF (fv : Value) (f : Fun) (g n K : Nat) (lv : Value) (c : Int) (bit : Bool) (t : Tmp) : Up := match t with
  | 55 => Up.eq (.slice (some ⟨g, 0, none⟩) n n)
  | 56 | 62 => Up.eq (.int .i64 K)
  | 57 => Up.eq (.pointer (some ⟨g, K, none⟩))
  | 58 | 64 => Up.eq (.bool bit)
  | 59 => Up.eq fv
  | 60 => Up.rows (succsF f)
  | 61 => Up.eq lv
  | 63 => Up.eq (.int .i64 c)
  | 65 => Up.eq (.bool false)
  | _ => Up.any
theorem succs_num {f : Fun} (hT : Tos f) : ∀ l ∈ succsF f, Num (succsF f).length l := by
  intro l hl
  obtain ⟨j, hj, rfl⟩ := List.mem_iff_getElem.1 hl
  have hj' : j < f.2.2.2.1.length := by rw [succsF_len] at hj; exact hj
  have e := List.getElem?_eq_getElem hj
  rw [succsF_at hj'] at e
  injection e with e
  rw [← e, succsF_len]
  exact hT j
theorem succs_long {f : Fun} (hF : Ful f) : ∀ l ∈ succsF f, l.length ≤ 1000000 := by
  intro l hl
  obtain ⟨j, hj, rfl⟩ := List.mem_iff_getElem.1 hl
  have hj' : j < f.2.2.2.1.length := by rw [succsF_len] at hj; exact hj
  have e := List.getElem?_eq_getElem hj
  rw [succsF_at hj'] at e
  injection e with e
  rw [← e]
  exact nextF_len hF hj'
set_option maxHeartbeats 4000000 in
set_option maxRecDepth 20000 in
theorem lawReaches (f : Fun) (b : List Int) (c : Int) (v v1 : Value) (w : World) (hv : FunV w f v) (hg : GyF f) (hb : BytesV w b v1) (gb : ∀ x ∈ b, 0 ≤ x ∧ x < 256) (ht : Tab w) :
    Calls Tryd.prog 5 #[v, v1, .int .i64 c] w fun e w' => e = .returned (.bool true) ∧ Below w.heap.size w w' := by
  obtain ⟨i3, hi3, hz3, hz4, hz5⟩ := info_parts Tryd.info3
  have HB0 := hide (hb.below (below_box w (.cells #[] 25)))
  obtain ⟨bo, bc, rfl, hbr, hbm⟩ := hb
  have HBr := hide hbr
  have HGb := hide gb
  unfold maxLen at hbm
  clear HB0 hbr gb
  have hv2 := hv
  obtain ⟨vp, vb, rfl, _, _⟩ := hv2
  have b0 := below_box w (.cells #[.string (bs f.1), vp, .int .i64 f.2.2.1, vb, .int .i64 f.2.2.2.2] 25)
  have X0 := hide (L5.Box.new w [.string (bs f.1), vp, .int .i64 f.2.2.1, vb, .int .i64 f.2.2.2.2] 25)
  have HV := hide (hv.below b0)
  have HT := hide (ht.below b0)
  have B0 := hide b0
  have HLt := hide (light_any f _ _ (hv.below b0) hg)
  have HWk := hide works_any
  clear b0 hv hg ht
  obtain ⟨lp, cp, rfl⟩ : ∃ ao c, vp = .slice ao f.2.1.length c := by
    obtain ⟨vp', vb', e, ⟨ao, c, e2, _⟩, _⟩ := HV.out
    injection e with e
    have e1 := congrArg (fun a => a[1]?) e
    simp at e1
    exact ⟨ao, c, by rw [e1, e2]⟩
  obtain ⟨lb, cb, rfl⟩ : ∃ ao c, vb = .slice ao f.2.2.2.1.length c := by
    obtain ⟨vp', vb', e, _, ⟨ao, c, e2, _⟩⟩ := HV.out
    injection e with e
    have e1 := congrArg (fun a => a[3]?) e
    simp at e1
    exact ⟨ao, c, by rw [e1, e2]⟩
  generalize bs f.1 = nm at *
  generalize f.2.1.length = lps at *
  generalize f.2.2.1 = rt at *
  obtain ⟨lbs, hlbs⟩ : ∃ n, n = f.2.2.2.1.length := ⟨_, rfl⟩
  rw [← hlbs] at X0 HV HT B0 HLt ⊢
  have HLB := hide hlbs
  clear hlbs
  generalize f.2.2.2.2 = pl at *
  go_enter Tryd.func5, Tryd.ntmps5
  go_upto_region 1 with fail
  show Code.wp _ _ _ _ (w.alloc (.cells #[.string nm, .slice lp lps cp, .int .i64 rt, .slice lb lbs cb, .int .i64 pl] 25))
  replace X0 : Hid (L5.Box (w.alloc (.cells #[.string nm, .slice lp lps cp, .int .i64 rt, .slice lb lbs cb, .int .i64 pl] 25)) w.heap.size [.string nm, .slice lp lps cp, .int .i64 rt, .slice lb lbs cb, .int .i64 pl]) := X0
  generalize w.alloc (.cells #[.string nm, .slice lp lps cp, .int .i64 rt, .slice lb lbs cb, .int .i64 pl] 25) = W at *
  obtain ⟨x0, x1, x2, x3, x4⟩ : _ ∧ _ ∧ _ ∧ _ ∧ _ := ⟨X0.out.2 0 _ rfl, X0.out.2 1 _ rfl, X0.out.2 2 _ rfl, X0.out.2 3 _ rfl, X0.out.2 4 _ rfl⟩
  go_wp2_with fail
  refine HLt.out.mono ?_; rintro e w2 ⟨he, b2⟩
  have B2 := hide b2
  have HBB := hide (below_step B0.out b2)
  clear x0 x1 x2 x3 x4 b2 HLt
  have HW2 := hide (HWk.out w2 (HT.out.below B2.out))
  rcases he with rfl | ⟨rfl, hlg⟩
  · go_wp2_with fail
    refine HW2.out.mono ?_; rintro e w3 ⟨rfl, b3⟩
    have HE := hide (below_step HBB.out b3)
    clear b3
    go_wp2_with fail
    go_ret
    exact ⟨rfl, HE.out⟩
  · by_cases h20 : b.length ≤ 20
    · have h20' : ¬ (20 : Int) < b.length := by omega
      have X2 := hide (X0.out.below B2.out)
      have HV2 := hide (HV.out.below B2.out)
      have HT2 := hide (HT.out.below B2.out)
      have HF := hide (lgt_ful hlg)
      have HTo := hide (lgt_tos hlg)
      have h0 := lgt_pos hlg
      have hbl : lbs ≤ 24 := by rw [HLB.out]; exact hlg.1
      have hl0 : 0 < lbs := by rw [HLB.out]; exact h0
      clear hlg
      go_wp2_with fail
      go_loopw [7, 8] (fun lv i wr => ∃ I : Nat, I ≤ b.length ∧ i = .int .i64 I ∧ Hid (Grw w2 (fromL (b.take I) lbs) lv wr)) (fun _ i _ => b.length - (intOf i).toNat)
      case atStart => exact ⟨0, Nat.zero_le _, rfl, hide (Grw.start _)⟩
      case round =>
        obtain ⟨I, hI, rfl, HG⟩ := hrel
        by_cases hit : I < b.length
        · have hiI : (I : Int) < b.length := by omega
          obtain ⟨x, hx⟩ : ∃ x, b[I]? = some x := ⟨_, List.getElem?_eq_getElem hit⟩
          obtain ⟨hx0, hx1⟩ := HGb.out x (List.mem_of_getElem? hx)
          have HTk := hide (fromL_take (n := lbs) hx)
          have hfl : (fromL (b.take I) lbs).length = I := by rw [fromL_len, List.length_take]; omega
          rcases HBr.out with e0 | ⟨gf, of, rfl, gfl, q⟩
          · subst e0; simp at hit
          have gfw : gf < w2.heap.size := Nat.lt_of_lt_of_le gfl HBB.out.size
          have c1 := (HG.out.2.cell (p := ⟨gf, of + I, none⟩) gfw).trans ((HBB.out.cell (p := ⟨gf, of + I, none⟩) gfl).trans (q I x hx))
          have c2 := (X2.out.below HG.out.2).2 3 _ rfl
          have hws := HG.out.2.size
          have hrem : ¬ lbs = 0 := by omega
          have hwx : IntKind.i64.wrap x = x := IntWalk.i64_in _ ⟨by omega, by omega⟩
          have own0 := own_below (L5.below_drew1 wr) _ _ _ _ _ _ HG.out.1
          rw [hfl] at own0
          have hsd : wr.drew.heap.size = wr.heap.size := rfl
          obtain ⟨vo, vc, rfl⟩ := own_len own0
          clear q hx
          go_wp2_with fail
          go_region_law ((first
            | (refine step_append_lies _ (by rfl) _ _ _ (by rfl) w2.heap.size 3 i3 _ 1 8 Tryd.underlying22 hi3 hz3 hz4 hz5 rfl (by omega) (.slice vo I vc) I (ints (fromL (b.take I) lbs)) (by rfl) (own0.alloc _) ⟨wr.heap.size, 0, none⟩ 1 1 [.int .i64 (x.tmod (lbs : Int))] (by rfl) (by rfl) one_cell one_one (by omega) (by unfold maxLen; omega) (by omega) (by simp; omega) (wr.heap.size + 1) (by simp) ?_; intro gg cap w3 hown hgrow hat hlt)))
          all_goals
            have HE : Hid (Grw w2 (fromL (b.take (I + 1)) lbs) (.slice (some ⟨gg, 0, none⟩) (I + 1) cap) w3) := hide (by
              rw [HTk.out]
              refine ⟨?_, ?_⟩
              · have e : (fromL (b.take I) lbs ++ [x.tmod (lbs : Int)]).length = I + 1 := by rw [List.length_append, hfl]; rfl
                rw [e]
                simpa [ints] using hown
              · exact Below.grown ((below_step HG.out.2 (L5.below_drew1 wr)).alloc hws _) hgrow (by simp; omega) (fun k hk => (own0.lt k hk).1))
            clear hown hgrow hat hlt
            go_wp2_with fail
            go_roundw
            case rel => exact ⟨I + 1, by omega, by go_num, HE⟩
            case measure => simp [intOf]; omega
        · obtain rfl : I = b.length := by omega
          have hfl : (fromL b lbs).length = b.length := fromL_len _ _
          have HG2 : Hid (Grw w2 (fromL b lbs) _ wr) := hide (by have := HG.out; rwa [List.take_length] at this)
          clear HG
          obtain ⟨fo, fc, rfl, hfs, _⟩ := HG2.out.slice
          have HFs := hide hfs
          have HFn := hide (fromL_num hl0 HGb.out)
          have X4 := hide (X2.out.below HG2.out.2)
          have HV4 := hide (HV2.out.below HG2.out.2)
          have HT4 := hide (HT2.out.below HG2.out.2)
          have HB4 := hide (below_step HBB.out HG2.out.2)
          obtain ⟨x0, x1, x2, x3, x4⟩ : _ ∧ _ ∧ _ ∧ _ ∧ _ := ⟨X4.out.2 0 _ rfl, X4.out.2 1 _ rfl, X4.out.2 2 _ rfl, X4.out.2 3 _ rfl, X4.out.2 4 _ rfl⟩
          have HS := hide (succs_any f _ wr HV4.out HF.out HTo.out)
          have hfl2 : (fromL b lbs).length ≤ 1000000 := by rw [hfl]; omega
          replace hfl := hide hfl
          clear hfs X2 HV2 HT2 HBB HG2
          go_wp2_with fail
          refine HS.out.mono ?_; rintro e w5 ⟨sv, rfl, hs5, b5⟩
          obtain ⟨so, sc, rfl, hsr⟩ := succs_read hs5
          rw [← HLB.out]
          have HRe : Hid (Calls Tryd.prog 24 #[.slice so lbs sc, .slice fo (fromL b lbs).length fc, .int .i64 c] w5 fun e w' => ∃ g, e = .returned (.slice (some ⟨g, 0, none⟩) lbs lbs) ∧ RowAt w' w5.heap.size 4 g lbs (bools (bitsOf lbs (metE (succsF f) (fromL b lbs) c))) ∧ Below w5.heap.size w5 w') := hide (by
            have el : (succsF f).length = lbs := by rw [succsF_len, ← HLB.out]
            have h := reached_any (succsF f) (fromL b lbs) c so fo sc fc w5 hsr (HFs.out.below b5) (by rw [el]; omega) hfl2 (by rw [el]; exact HFn.out) (succs_num HTo.out) (succs_long HF.out)
            rwa [el] at h)
          have B5 := hide b5
          clear hs5 hsr b5 HS x0 x1 x2 x3 x4
          go_wp2_with fail
          refine HRe.out.mono ?_; rintro e w6 ⟨g, rfl, hr6, b6⟩
          have B46 := hide (below_step B5.out b6)
          have HR6 := hide hr6
          have X6 := hide (X4.out.below B46.out)
          have HV6 := hide (HV4.out.below B46.out)
          have HT6 := hide (HT4.out.below B46.out)
          have HB6 := hide (below_step HB4.out B46.out)
          have HF6 := hide (HFs.out.below B46.out)
          have x3 := X6.out.2 3 _ rfl
          clear hr6 b6 HRe B5 B46 X4 HV4 HT4 HB4 HFs
          go_wp2_with fail
          clear x3
          go_loopw [10] (fun i wr => ∃ K : Nat, K ≤ lbs ∧ i = .int .i64 K ∧ Hid (Below w6.heap.size w6 wr)) (fun i _ => lbs - (intOf i).toNat)
          case atStart => exact ⟨0, Nat.zero_le _, rfl, hide (Below.refl _ _)⟩
          case round =>
            obtain ⟨K, hK, rfl, HW⟩ := hrel
            by_cases hkt : K < lbs
            · have hkI : (K : Int) < lbs := by omega
              have hk0 : ¬ (K : Int) < 0 := by omega
              obtain ⟨bit, hbt⟩ : ∃ bit, bit = hasL (metE (succsF f) (fromL b lbs) c) K := ⟨_, rfl⟩
              have hbit : ∀ w, Below wr.heap.size wr w → w.cell? ⟨g, K, none⟩ = some (.bool bit) := fun w bb => by
                rw [hbt]
                exact ((HR6.out.below HW.out).below bb).cell (bools_at (bitsOf_at hkt))
              have HPt : Hid (∀ w, Below wr.heap.size wr w → ∀ p, RowsV w (succsF f) p → Calls Tryd.prog 25 #[p, .slice fo (fromL b lbs).length fc, .int .i64 K, .int .i64 c] w fun e w' => e = .returned (.bool bit) ∧ Below w.heap.size w w') := hide (fun w bb p ⟨po, pc, e, hpr, _⟩ => by
                rw [e, hbt]
                have el : (succsF f).length = lbs := by rw [succsF_len, ← HLB.out]
                exact rpath_any (succsF f) (fromL b lbs) K c po fo pc fc w hpr (HF6.out.below (below_step HW.out bb)) (by rw [el]; omega) hfl2 (by rw [el]; exact HFn.out) (succs_num HTo.out) (succs_long HF.out))
              have X7 := hide (X6.out.below HW.out)
              have xs := fun (w : World) (b : Below wr.heap.size wr w) => And.intro ((X7.out.below b).2 0 _ rfl) (And.intro ((X7.out.below b).2 1 _ rfl) (And.intro ((X7.out.below b).2 2 _ rfl) (And.intro ((X7.out.below b).2 3 _ rfl) ((X7.out.below b).2 4 _ rfl))))
              have CSr : ∀ w, Below wr.heap.size wr w → Calls Tryd.prog 14 #[(.agg #[.string nm, .slice lp lps cp, .int .i64 rt, .slice lb lbs cb, .int .i64 pl])] w fun e w' => ∃ v, e = .returned v ∧ Below w.heap.size w w' ∧ RowsV w' (succsF f) v := fun w bb => rsuccs_any f _ w ((HV6.out.below HW.out).below bb) HF.out
              clear hbt
              go_wp2_with fail
              refine Mix.wp_region_mix (reachesF (.agg #[.string nm, .slice lp lps cp, .int .i64 rt, .slice lb lbs cb, .int .i64 pl]) f g lbs K (.slice fo (fromL b lbs).length fc) c bit) (by kernel_rfl) (by kernel_rfl) ?_
              refine Mix.mix_step rfl (valid_eq (.slice (some ⟨g, 0, none⟩) lbs lbs) rfl) ?_ ?_
              · intro w b k
                clear k
                simp [go_sem]
                exact ⟨Below.refl _ _, fun d hd => by cases hd; rfl⟩
              rintro v ⟨_, _, h⟩
              obtain rfl : v = (.slice (some ⟨g, 0, none⟩) lbs lbs) := h _ rfl
              clear h
              simp only [Act.put, List.setIfInBounds_toArray, List.set_cons_succ, List.set_cons_zero]
              refine Mix.mix_step rfl (valid_eq (.int .i64 K) rfl) ?_ ?_
              · intro w b k
                clear k
                simp [go_sem]
                exact ⟨Below.refl _ _, fun d hd => by cases hd; rfl⟩
              rintro v ⟨_, _, h⟩
              obtain rfl : v = (.int .i64 K) := h _ rfl
              clear h
              simp only [Act.put, List.setIfInBounds_toArray, List.set_cons_succ, List.set_cons_zero]
              refine Mix.mix_step rfl (valid_eq (.pointer (some ⟨g, K, none⟩)) rfl) ?_ ?_
              · intro w b k
                clear k
                simp [go_sem, hkI, hk0]
                exact ⟨Below.refl _ _, fun d hd => by cases hd; rfl⟩
              rintro v ⟨_, _, h⟩
              obtain rfl : v = (.pointer (some ⟨g, K, none⟩)) := h _ rfl
              clear h
              simp only [Act.put, List.setIfInBounds_toArray, List.set_cons_succ, List.set_cons_zero]
              refine Mix.mix_step rfl (valid_eq (.bool bit) rfl) ?_ ?_
              · intro w b k
                clear k
                simp [go_sem, hbit w b]
                exact ⟨Below.refl _ _, fun d hd => by cases hd; rfl⟩
              rintro v ⟨_, _, h⟩
              obtain rfl : v = (.bool bit) := h _ rfl
              clear h
              simp only [Act.put, List.setIfInBounds_toArray, List.set_cons_succ, List.set_cons_zero]
              refine Mix.mix_step rfl (valid_eq (.agg #[.string nm, .slice lp lps cp, .int .i64 rt, .slice lb lbs cb, .int .i64 pl]) rfl) ?_ ?_
              · intro w b k
                obtain ⟨x0, x1, x2, x3, x4⟩ := xs w b
                clear k
                simp [go_sem, x0, x1, x2, x3, x4]
                exact ⟨Below.refl _ _, fun d hd => by cases hd; rfl⟩
              rintro v ⟨_, _, h⟩
              obtain rfl : v = (.agg #[.string nm, .slice lp lps cp, .int .i64 rt, .slice lb lbs cb, .int .i64 pl]) := h _ rfl
              clear h
              simp only [Act.put, List.setIfInBounds_toArray, List.set_cons_succ, List.set_cons_zero]
              refine Mix.mix_step rfl (valid_of (CSr wr (Below.refl _ _))) ?_ ?_
              · intro w b k
                clear k
                simp [go_sem]
                exact Calls.mono (CSr w b) fun e w' ⟨v, he, hb, hf⟩ => ⟨v, he, hb, fun d hd => by cases hd; exact hf⟩
              rintro p60 -
              simp only [Act.put, List.setIfInBounds_toArray, List.set_cons_succ, List.set_cons_zero]
              refine Mix.mix_step rfl (valid_eq (.slice fo (fromL b lbs).length fc) rfl) ?_ ?_
              · intro w b k
                clear k
                simp [go_sem]
                exact ⟨Below.refl _ _, fun d hd => by cases hd; rfl⟩
              rintro v ⟨_, _, h⟩
              obtain rfl : v = (.slice fo (fromL b lbs).length fc) := h _ rfl
              clear h
              simp only [Act.put, List.setIfInBounds_toArray, List.set_cons_succ, List.set_cons_zero]
              refine Mix.mix_step rfl (valid_eq (.int .i64 K) rfl) ?_ ?_
              · intro w b k
                clear k
                simp [go_sem]
                exact ⟨Below.refl _ _, fun d hd => by cases hd; rfl⟩
              rintro v ⟨_, _, h⟩
              obtain rfl : v = (.int .i64 K) := h _ rfl
              clear h
              simp only [Act.put, List.setIfInBounds_toArray, List.set_cons_succ, List.set_cons_zero]
              refine Mix.mix_step rfl (valid_eq (.int .i64 c) rfl) ?_ ?_
              · intro w b k
                clear k
                simp [go_sem]
                exact ⟨Below.refl _ _, fun d hd => by cases hd; rfl⟩
              rintro v ⟨_, _, h⟩
              obtain rfl : v = (.int .i64 c) := h _ rfl
              clear h
              simp only [Act.put, List.setIfInBounds_toArray, List.set_cons_succ, List.set_cons_zero]
              refine Mix.mix_step rfl (valid_eq (.bool bit) rfl) ?_ ?_
              · intro w b k
                have f1 : RowsV w (succsF f) p60 := k 60 (by decide +kernel) (by simp [Mix.add]) p60 rfl
                clear k
                simp [go_sem]
                exact Calls.mono (HPt.out w b p60 f1) fun e w' ⟨he, hb⟩ => ⟨_, he, hb, fun d hd => by cases hd; rfl⟩
              rintro v ⟨_, _, h⟩
              obtain rfl : v = (.bool bit) := h _ rfl
              clear h
              simp only [Act.put, List.setIfInBounds_toArray, List.set_cons_succ, List.set_cons_zero]
              refine Mix.mix_step rfl (valid_eq (.bool false) rfl) ?_ ?_
              · intro w b k
                clear k
                simp [go_sem]
                exact ⟨Below.refl _ _, fun d hd => by cases hd; rfl⟩
              rintro v ⟨_, _, h⟩
              obtain rfl : v = (.bool false) := h _ rfl
              clear h
              simp only [Act.put, List.setIfInBounds_toArray, List.set_cons_succ, List.set_cons_zero]
              refine Mix.mix_nil ?_
              intro w7 b7 _
              have HX := hide (below_step HW.out b7)
              clear b7 xs CSr hbit
              go_wp2_with fail
              go_roundw
              case rel => exact ⟨K + 1, by omega, by go_num, HX⟩
              case measure => simp [intOf]; omega
            · obtain rfl : K = lbs := by omega
              have HW7 := hide (HWk.out wr (HT6.out.below HW.out))
              go_wp2_with fail
              refine HW7.out.mono ?_; rintro e w8 ⟨rfl, b8⟩
              have HE := hide (below_step HB6.out (below_step HW.out b8))
              clear b8
              go_wp2_with fail
              go_ret
              exact ⟨rfl, HE.out⟩
    · have h20' : (20 : Int) < b.length := by omega
      go_wp2_with fail
      refine HW2.out.mono ?_; rintro e w3 ⟨rfl, b3⟩
      have HE := hide (below_step HBB.out b3)
      clear b3
      go_wp2_with fail
      go_ret
      exact ⟨rfl, HE.out⟩
end Go.Proofs.YtfmeadbiokcboaaDoor
namespace Go.Proofs.YtfmeadbiokcboaaDoor
open Go Go.RowKit
open Go.ChangeShapes Go.WideShapes Go.ChangeAt
theorem oc5 : Tryd.prog.cellsOf 5 = 1 := by kernel_rfl
theorem u8_wf {n : Int} (h : (Lit.int .u8 n).wf = true) : 0 ≤ n ∧ n < 256 := by
  simp [Lit.wf, IntKind.min, IntKind.max, IntKind.bits, IntKind.signed] at h
  omega
set_option maxRecDepth 20000 in
theorem opn_bytes {H : Type} {enc : TypeId × Value → H} {W : World} {r : Reach} {b0 : Nat} {v : Value} {d : DataW H} {ps : List MemPlace} (hv : Value.okWide Tryd.prog W r b0 45 v) (h : DataW.Trod enc Tryd.prog W 0 (fun _ => true) true 45 v d ps) (_hz : Sz 45 d) :
    ∃ b : List Int, BytesV W b v ∧ ∀ x ∈ b, 0 ≤ x ∧ x < 256 := by
  obtain ⟨a0, len0, cap0, rfl⟩ := okWide_slice Tryd.underlying45 hv
  obtain ⟨fuel, hf⟩ := h
  rcases open_ints Tryd.underlying45 Tryd.underlying5 oc5 hf with ⟨e, _⟩ | ⟨a, len, cap, zs, e, _, hl, hm, hzl, hx, hc, hw⟩
  · have e' : Value.slice a0 len0 cap0 = .slice none 0 0 := by simpa [Value.cells] using e
    exact ⟨[], ⟨none, 0, e', .inl rfl, Nat.zero_le _⟩, fun _ h => (by cases h)⟩
  · have e' : Value.slice a0 len0 cap0 = .slice (some a) len cap := by simpa [Value.cells] using e
    rw [if_pos rfl] at hzl
    have hlen : (zs.take len).length = len := by simp; omega
    refine ⟨zs.take len, ⟨some a, cap, by rw [hlen]; exact e', ?_, by omega⟩, fun n hn => u8_wf (hw n (List.mem_of_mem_take hn))⟩
    by_cases h0 : len = 0
    · exact .inl (by rw [h0]; rfl)
    · obtain ⟨b, o, rfl, hb⟩ := spot_none (hc 0 (by omega))
      refine .inr ⟨b, o, rfl, hb, fun i n hi => ?_⟩
      obtain ⟨h1, h2⟩ := List.getElem?_eq_some_iff.1 hi
      have := hc i (by omega)
      rw [add_plain] at this
      rw [this, List.getD_eq_getElem?_getD, List.getElem?_eq_getElem (by omega)]
      rw [List.getElem_take] at h2
      rw [← h2]; rfl
end Go.Proofs.YtfmeadbiokcboaaDoor
namespace Go.Proofs.YtfmeadbiokcboaaDoor
open Go.ChangeShapes Go.WideShapes Go.ChangeAt Go.RowKit
open L5 (word tk0 tk1 mk ds num beside letters)
theorem own : ownKnob Tryd.prog.godebug = none := by kernel_rfl
theorem laidOut : laidOutB Tryd.prog = true := by kernel_rfl
def laid1 : List (String × DataW Unit) := [("turntable/ops.rows", Rows.laid_turntable_ops_rows)]
theorem rowsNamed : Tryd.prog.globalNamed "turntable/ops.rows" = some 0 := by kernel_rfl
theorem rowsType : (Tryd.prog.globals[0]?).map (·.type) = some 90 := by kernel_rfl
theorem cq3 : Tryd.prog.cellsOf 3 = 1 := by kernel_rfl
theorem cq9 : Tryd.prog.cellsOf 9 = 1 := by kernel_rfl
theorem cq44 : Tryd.prog.cellsOf 44 = 2 := by kernel_rfl
theorem cq85 : Tryd.prog.cellsOf 85 = 5 := by kernel_rfl
/-- A row as the laid datum has it. -/
def rowD {H : Type} (k : Nat) : DataW H := .agg [.lit (.string (letters k)), .agg [.lit (.int .i64 (tk0 k)), .lit (.int .i64 (tk1 k))], .lit (.int .i64 (mk k)), .lit (.int .i64 (ds k))]
theorem laid_rows {H : Type} : (Rows.laid_turntable_ops_rows : DataW H) = .agg ((List.range 30).map rowD) := by rfl
section
variable {H : Type} {enc : TypeId × Value → H} {W : World} {base : Nat} {sp : Nat → Bool} {held : Bool}
theorem five {cs : List Value} (h : cs.length = 5) : ∃ a b c d e, cs = [a, b, c, d, e] := by
  match cs, h with
  | [a, b, c, d, e], _ => exact ⟨a, b, c, d, e, rfl⟩
theorem str_of {s : ByteArray} {bs : List UInt8} (h : s.data.toList = bs) : s = ⟨bs.toArray⟩ := by
  subst h; rfl
theorem row_cells {fuel k : Nat} {cs : List Value} {p : List MemPlace} (h : DataW.trod enc Tryd.prog W base sp held fuel 85 cs = some (rowD k, p)) :
    cs = [.string (word k), .int .i64 (tk0 k), .int .i64 (tk1 k), .int .i64 (mk k), .int .i64 (ds k)] := by
  obtain ⟨xs, n, _, hx, hl, hlen, hf⟩ := DataW.trod_struct Tryd.underlying85 h
  obtain ⟨v0, v1, v2, v3, v4, rfl⟩ := five (hl.trans cq85)
  match xs, hlen with
  | [y0, y1, y2, y3], _ =>
    have h0 : DataW.trod enc Tryd.prog W base sp held n 9 ([v0, v1, v2, v3, v4].take (Tryd.prog.cellsOf 9)) = some y0 := hf 0 _ rfl
    have h1 : DataW.trod enc Tryd.prog W base sp held n 44 ([v1, v2, v3, v4].take (Tryd.prog.cellsOf 44)) = some y1 := hf 1 _ rfl
    have h2 : DataW.trod enc Tryd.prog W base sp held n 3 ([v3, v4].take (Tryd.prog.cellsOf 3)) = some y2 := hf 2 _ rfl
    have h3 : DataW.trod enc Tryd.prog W base sp held n 3 ([v4].take (Tryd.prog.cellsOf 3)) = some y3 := hf 3 _ rfl
    rw [cq9] at h0
    rw [cq44] at h1
    rw [cq3] at h2 h3
    obtain ⟨s, e0, rfl, _⟩ := DataW.trod_string Tryd.underlying9 h0
    obtain ⟨x2, e2, rfl, _⟩ := DataW.trod_int Tryd.underlying3 h2
    obtain ⟨x3, e3, rfl, _⟩ := DataW.trod_int Tryd.underlying3 h3
    obtain ⟨zs, m, _, hz, _, hzl, each⟩ := DataW.trod_array Tryd.underlying44 h1
    match zs, hzl with
    | [z0, z1], _ =>
      have g0 := each 0 (by decide)
      have g1 := each 1 (by decide)
      simp only [cq3] at g0 g1
      simp at g0 g1
      obtain ⟨u0, f0, rfl, _⟩ := DataW.trod_int Tryd.underlying3 g0
      obtain ⟨u1, f1, rfl, _⟩ := DataW.trod_int Tryd.underlying3 g1
      subst hz
      simp [rowD] at hx e0 e2 e3 f0 f1
      obtain ⟨⟨q0, ⟨q1, q2⟩, q3, q4⟩, _⟩ := hx
      subst e0 e2 e3 f0 f1 q1 q2 q3 q4
      rw [str_of q0.symm]
      rfl
end
theorem tab_of_laid {W : World} (h : laidMetH Tryd.prog laid1 W) : Tab W := by
  rw [MakeChecks.laidMetH_plain _ _ _ (by kernel_rfl)] at h
  obtain ⟨ps, ⟨g, t, cs, fuel, p, q, hg, ht, hvar, hd, _, _⟩, _⟩ := h
  obtain rfl := Option.some.inj (rowsNamed.symm.trans hg)
  obtain rfl := Option.some.inj (rowsType.symm.trans ht)
  rw [laid_rows] at hd
  obtain ⟨xs, n, _, hx, hl, hlen, each⟩ := DataW.trod_array Tryd.underlying90 hd
  have hxs : xs.map (·.1) = (List.range 30).map rowD := by
    have := congrArg Prod.fst hx
    simpa using this.symm
  have key : ∀ k, k < 30 → (cs.toList.drop (k * 5)).take 5 = [.string (word k), .int .i64 (tk0 k), .int .i64 (tk1 k), .int .i64 (mk k), .int .i64 (ds k)] := by
    intro k hk
    have h1 := each k hk
    rw [cq85] at h1
    obtain ⟨y, hy⟩ : ∃ y, xs[k]? = some y := ⟨_, List.getElem?_eq_getElem (by omega)⟩
    have h2 := congrArg (·[k]?) hxs
    simp [hy, hk] at h2
    rw [hy] at h1
    obtain ⟨d, pl⟩ := y
    simp at h2
    subst h2
    exact row_cells h1
  have cell : ∀ k j v, k < 30 → j < 5 → ((cs.toList.drop (k * 5)).take 5)[j]? = some v → W.cell? ⟨0, k * 5 + j, none⟩ = some v := by
    intro k j v hk hj hv
    have := World.var?_cell hg hvar (k * 5 + j)
    rw [this]
    simpa [List.getElem?_take, List.getElem?_drop, hj] using hv
  refine ⟨World.block_lt_of_cell? W _ (cell 0 0 (.string (word 0)) (by omega) (by omega) (by rw [key 0 (by omega)]; rfl)), fun k hk => ?_⟩
  exact ⟨cell k 0 _ hk (by omega) (by rw [key k hk]; rfl), cell k 1 _ hk (by omega) (by rw [key k hk]; rfl), cell k 2 _ hk (by omega) (by rw [key k hk]; rfl), cell k 3 _ hk (by omega) (by rw [key k hk]; rfl), cell k 4 _ hk (by omega) (by rw [key k hk]; rfl)⟩
theorem door_met (os : Os) (args : Array Value) : laidMetH Tryd.prog laid1 ((World.doorLaid Tryd.prog 400 os).forCall (fun _ _ => 0) ⟨#[], args, []⟩).memory :=
  laidMetH_of_parts3 (fuel := 8) (laidMet_of_run' 8 (by kernel_rfl) (by kernel_rfl)) (by kernel_rfl) (by kernel_rfl)
end Go.Proofs.YtfmeadbiokcboaaDoor
