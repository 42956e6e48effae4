/- Layer 8: what a light function is; the reference's answers and the laws' own helpers, as properties that stay. Layer 8: the law GraphRounds. What each row of this seat is given: where the table of the operations reads as the program's text lays it, its cells are the plain table's; the heap that the program's own start leaves is one such. -/
import Derived.Test.YtfmeadbiokcboaaDoorMoAH
import Derived.Test.YtfmeadbiokcboaaDoorMoAW
import Derived.Test.YtfmeadbiokcboaaDoorRows
import Derived.ProofKit
import Derived.LaidMore
import Derived.OpenShut
import Derived.Stop.Joined
import Derived.ShutString
import Derived.ChangeOld
import Derived.Below
import Derived.Lib.LaidTab
import Derived.Lib.SmallJoins
import Derived.WideKeyPair
namespace Go.Proofs.YtfmeadbiokcboaaDoor
open Go Go.RowKit
open G (Tok Er Ins Fun)
open Mix (Up)
theorem shapedGo_zero (N : Nat) : ∀ (l : List (List Ins)) (k : Nat), (shapedGo N k l).1 = 0 → ∀ b ∈ l, blkE N b = 0 := by
  intro l
  induction l with
  | nil => intro k _ b hb; cases hb
  | cons c l ih =>
    intro k h b hb
    by_cases e : blkE N c = 0
    · rw [shapedGo_next e] at h
      rcases List.mem_cons.1 hb with rfl | hb
      · exact e
      · exact ih _ h b hb
    · rw [shapedGo_hit rfl e] at h
      exact absurd h e
theorem blkGo_zero (N n : Nat) : ∀ (l : List Ins) (i : Nat), blkGo N n i l = 0 → ∀ (j : Nat) (x : Ins), l[j]? = some x → endsB x.1 = decide (i + j + 1 = n) ∧ badI N x = false := by
  intro l
  induction l with
  | nil => intro i _ j x hx; simp at hx
  | cons y l ih =>
    intro i h j x hx
    by_cases e : endsB y.1 = decide (i + 1 = n)
    · cases hb : badI N y with
      | true => rw [blkGo_bad e hb] at h; cases h
      | false =>
        rw [blkGo_next e hb] at h
        cases j with
        | zero => simp at hx; subst hx; exact ⟨e, hb⟩
        | succ j =>
          have := ih (i + 1) h j x (by simpa using hx)
          rw [show i + 1 + j + 1 = i + (j + 1) + 1 by omega] at this
          exact this
    · rw [blkGo_end e] at h; cases h
theorem lgt_pos {f : Fun} (h : Lgt f) : 0 < f.2.2.2.1.length := by
  have h3 := h.2.2
  unfold shapedF at h3
  split at h3
  · cases h3
  · omega
theorem lgt_blk {f : Fun} (h : Lgt f) : ∀ b ∈ f.2.2.2.1, b.length ≠ 0 ∧ blkGo f.2.2.2.1.length b.length 0 b = 0 := by
  have h0 := lgt_pos h
  have h3 := h.2.2
  unfold shapedF at h3
  rw [if_neg (by omega)] at h3
  intro b hb
  have := shapedGo_zero _ _ _ h3 b hb
  unfold blkE at this
  split at this
  · cases this
  · exact ⟨by assumption, this⟩
theorem lgt_ful {f : Fun} (h : Lgt f) : Ful f := by
  refine ⟨Nat.le_trans h.1 (by omega), fun b hb => ⟨fun e => (lgt_blk h b hb).1 (by rw [e]; rfl), fun x hx => ?_⟩⟩
  exact Nat.le_trans ((h.2.1 b hb).2 x hx).1 (by omega)
theorem lgt_tos {f : Fun} (h : Lgt f) : Tos f := by
  intro j
  by_cases hj : j < f.2.2.2.1.length
  · have hb : f.2.2.2.1[j]? = some f.2.2.2.1[j] := List.getElem?_eq_getElem hj
    obtain ⟨h1, h2⟩ := lgt_blk h _ (List.mem_of_getElem? hb)
    obtain ⟨x, hx, hl, _⟩ := (lgt_ful h).last (List.mem_of_getElem? hb)
    rw [nextF_at hb, hl]
    obtain ⟨k1, k2⟩ := blkGo_zero _ _ _ _ h2 _ x hx
    have hend : endsB x.1 = true := by rw [k1]; simp; omega
    have hop : x.1 ≠ 20 := by
      intro e
      rw [e] at hend
      simp [endsB] at hend
    have hbt : badT f.2.2.2.1.length x.2.2.2.2.2.1 = false := by
      unfold badI at k2
      simpa [hop] using k2
    intro m hm
    have hm2 : m ∈ x.2.2.2.2.2.1 := by rw [← hasL_mem, hasL_once, hasL_mem] at hm; exact hm
    unfold badT at hbt
    have := List.any_eq_false.1 hbt m hm2
    simp at this
    omega
  · have e : nextF f j = [] := by
      unfold nextF
      rw [List.getD_eq_getElem?_getD, List.getElem?_eq_none (by omega)]; rfl
    rw [e]
    intro m hm
    cases hm
theorem light_any (f : Fun) (v : Value) (w : World) (hv : FunV w f v) (hg : GyF f) :
    Calls Tryd.prog 11 #[v] w fun e w' => (e = .returned (.int .i64 1) ∨ (e = .returned (.int .i64 0) ∧ Lgt f)) ∧ Below w.heap.size w w' := by
  have hl := hg.light
  obtain ⟨nm, ps, rt, bl, pl⟩ := f
  have hv2 := hv
  obtain ⟨vp, vb, rfl, ⟨ao, c, rfl, h1, _⟩, h2⟩ := hv
  obtain ⟨bo, cb, rfl, _⟩ := h2
  exact light_try nm ps rt pl bl ao bo c cb w hv2 hl
theorem places_read {w : World} {B g : Nat} {f : Fun} (h : RowAt w B 3 g f.2.2.2.1.length (ints (placesF f))) : IntsV w (placesF f) (.slice (some ⟨g, 0, none⟩) f.2.2.2.1.length f.2.2.2.1.length) := by
  have e := placesF_len f
  rw [← e] at h ⊢
  exact ints_of h
end Go.Proofs.YtfmeadbiokcboaaDoor
namespace Go.Proofs.YtfmeadbiokcboaaDoor
open Go Go.RowKit
open G (Tok Er Ins Fun)
open Mix (Up)
def roundsF (fv : Value) (f : Fun) (t : Tmp) : Up := match t with
  | 14 | 16 => Up.eq fv
  | 15 | 3 => Up.ints (placesF f)
  | 17 | 4 => Up.pairs (backsF f)
  | _ => Up.any
/-- Is a pair one of some? -/
def hasP (l : List (Int × Int)) (a b : Int) : Bool := l.any fun q => (q.1 == a) && (q.2 == b)
theorem hasP_snoc (l : List (Int × Int)) (x y a b : Int) : hasP (l ++ [(x, y)]) a b = (hasP l a b || ((x == a) && (y == b))) := by simp [hasP]
theorem hasP_back {f : Fun} {K : Nat} {m : Int} (hK : K < f.2.2.2.1.length) (hm : m ∈ nextF f K) (h0 : 0 ≤ atF f K) (hb : hasP (backsF f) K m = false) : ¬ atF f m ≤ atF f K := by
  intro h
  have h1 : ((K : Int), m) ∈ backOf f K (nextF f K) := by
    unfold backOf
    rw [if_pos h0]
    exact List.mem_map.2 ⟨m, List.mem_filter.2 ⟨hm, by simpa using h⟩, rfl⟩
  have h2 : ((K : Int), m) ∈ backsF f := List.mem_flatMap.2 ⟨K, List.mem_range.2 hK, h1⟩
  have h3 : hasP (backsF f) K m = true := List.any_eq_true.2 ⟨_, h2, by simp⟩
  rw [h3] at hb
  cases hb
theorem at_first {f : Fun} (h0 : 0 < f.2.2.2.1.length) : atF f 0 = 0 := by
  unfold atF orderF
  obtain ⟨M, hM⟩ : ∃ M, f.2.2.2.1.length = M + 1 := ⟨f.2.2.2.1.length - 1, by omega⟩
  rw [hM, postF_succ, List.reverse_append]
  rfl
set_option maxHeartbeats 4000000 in
set_option maxRecDepth 20000 in
theorem lawRounds (f : Fun) (v : Value) (w : World) (hv : FunV w f v) (hg : GyF f) (ht : Tab w) :
    Calls Tryd.prog 6 #[v] w fun e w' => e = .returned (.bool true) ∧ Below w.heap.size w w' := by
  have hv2 := hv
  obtain ⟨vp, vb, rfl, _, _⟩ := hv2
  have b0 := below_box w (.cells #[.string (bs f.1), vp, .int .i64 f.2.2.1, vb, .int .i64 f.2.2.2.2] 25)
  have X0 := hide (L5.Box.new w [.string (bs f.1), vp, .int .i64 f.2.2.1, vb, .int .i64 f.2.2.2.2] 25)
  have HV := hide (hv.below b0)
  have HT := hide (ht.below b0)
  have B0 := hide b0
  have HLt := hide (light_any f _ _ (hv.below b0) hg)
  have HWk := hide works_any
  clear b0 hv hg ht
  obtain ⟨lp, cp, rfl⟩ : ∃ ao c, vp = .slice ao f.2.1.length c := by
    obtain ⟨vp', vb', e, ⟨ao, c, e2, _⟩, _⟩ := HV.out
    injection e with e
    have e1 := congrArg (fun a => a[1]?) e
    simp at e1
    exact ⟨ao, c, by rw [e1, e2]⟩
  obtain ⟨lb, cb, rfl⟩ : ∃ ao c, vb = .slice ao f.2.2.2.1.length c := by
    obtain ⟨vp', vb', e, _, ⟨ao, c, e2, _⟩⟩ := HV.out
    injection e with e
    have e1 := congrArg (fun a => a[3]?) e
    simp at e1
    exact ⟨ao, c, by rw [e1, e2]⟩
  generalize bs f.1 = nm at *
  generalize f.2.1.length = lps at *
  generalize f.2.2.1 = rt at *
  obtain ⟨lbs, hlbs⟩ : ∃ n, n = f.2.2.2.1.length := ⟨_, rfl⟩
  rw [← hlbs] at X0 HV HT B0 HLt ⊢
  have HLB := hide hlbs
  clear hlbs
  generalize f.2.2.2.2 = pl at *
  go_enter Tryd.func6, Tryd.ntmps6
  go_upto_region 1 with fail
  show Code.wp _ _ _ _ (w.alloc (.cells #[.string nm, .slice lp lps cp, .int .i64 rt, .slice lb lbs cb, .int .i64 pl] 25))
  replace X0 : Hid (L5.Box (w.alloc (.cells #[.string nm, .slice lp lps cp, .int .i64 rt, .slice lb lbs cb, .int .i64 pl] 25)) w.heap.size [.string nm, .slice lp lps cp, .int .i64 rt, .slice lb lbs cb, .int .i64 pl]) := X0
  generalize w.alloc (.cells #[.string nm, .slice lp lps cp, .int .i64 rt, .slice lb lbs cb, .int .i64 pl] 25) = W at *
  obtain ⟨x0, x1, x2, x3, x4⟩ : _ ∧ _ ∧ _ ∧ _ ∧ _ := ⟨X0.out.2 0 _ rfl, X0.out.2 1 _ rfl, X0.out.2 2 _ rfl, X0.out.2 3 _ rfl, X0.out.2 4 _ rfl⟩
  go_wp2_with fail
  refine HLt.out.mono ?_; rintro e w2 ⟨he, b2⟩
  have B2 := hide b2
  have HBB := hide (below_step B0.out b2)
  clear x0 x1 x2 x3 x4 b2 HLt
  rcases he with rfl | ⟨rfl, hlg⟩
  · skip
    have HW2 := hide (HWk.out w2 (HT.out.below B2.out))
    go_wp2_with fail
    refine HW2.out.mono ?_; rintro e w3 ⟨rfl, b3⟩
    have HE := hide (below_step HBB.out b3)
    clear b3
    go_wp2_with fail
    go_ret
    exact ⟨rfl, HE.out⟩
  · skip
    have X2 := hide (X0.out.below B2.out)
    have HV2 := hide (HV.out.below B2.out)
    have HT2 := hide (HT.out.below B2.out)
    have HF := hide (lgt_ful hlg)
    have HTo := hide (lgt_tos hlg)
    have h0 := lgt_pos hlg
    have hbl : lbs ≤ 24 := by rw [HLB.out]; exact hlg.1
    clear hlg
    have CL : ∀ w, Below w2.heap.size w2 w → Calls Tryd.prog 20 #[(.agg #[.string nm, .slice lp lps cp, .int .i64 rt, .slice lb lbs cb, .int .i64 pl])] w fun e w' => ∃ v, e = .returned v ∧ Below w.heap.size w w' ∧ IntsV w' (placesF f) v := fun w b => (placesP_any f _ w (HV2.out.below b) HF.out HTo.out h0).mono fun e w' ⟨g, he, h, b'⟩ => ⟨_, he, b', places_read h⟩
    have CB : ∀ w, Below w2.heap.size w2 w → Calls Tryd.prog 22 #[(.agg #[.string nm, .slice lp lps cp, .int .i64 rt, .slice lb lbs cb, .int .i64 pl])] w fun e w' => ∃ v, e = .returned v ∧ Below w.heap.size w w' ∧ PairsV w' (backsF f) v := fun w b => (backsP_any f _ w (HV2.out.below b) HF.out HTo.out h0).mono fun e w' ⟨v, he, h, b'⟩ => ⟨v, he, b', pairs_read h⟩
    have xs := fun (w : World) (b : Below w2.heap.size w2 w) => And.intro ((X2.out.below b).2 0 _ rfl) (And.intro ((X2.out.below b).2 1 _ rfl) (And.intro ((X2.out.below b).2 2 _ rfl) (And.intro ((X2.out.below b).2 3 _ rfl) ((X2.out.below b).2 4 _ rfl))))
    go_upto_region 3 with fail
    refine Mix.wp_region_mix (roundsF (.agg #[.string nm, .slice lp lps cp, .int .i64 rt, .slice lb lbs cb, .int .i64 pl]) f) (by kernel_rfl) (by kernel_rfl) ?_
    refine Mix.mix_step rfl (valid_eq (.agg #[.string nm, .slice lp lps cp, .int .i64 rt, .slice lb lbs cb, .int .i64 pl]) rfl) ?_ ?_
    · intro w b k
      obtain ⟨x0, x1, x2, x3, x4⟩ := xs w b
      clear k
      simp [go_sem, x0, x1, x2, x3, x4]
      exact ⟨Below.refl _ _, fun d hd => by cases hd; rfl⟩
    rintro v ⟨_, _, h⟩
    obtain rfl : v = (.agg #[.string nm, .slice lp lps cp, .int .i64 rt, .slice lb lbs cb, .int .i64 pl]) := h _ rfl
    clear h
    simp only [Act.put, List.setIfInBounds_toArray, List.set_cons_succ, List.set_cons_zero]
    refine Mix.mix_step rfl (valid_of (CL w2 (Below.refl _ _))) ?_ ?_
    · intro w b k
      clear k
      simp [go_sem]
      exact Calls.mono (CL w b) fun e w' ⟨v, he, hb, hf⟩ => ⟨v, he, hb, fun d hd => by cases hd; exact hf⟩
    rintro p15 -
    simp only [Act.put, List.setIfInBounds_toArray, List.set_cons_succ, List.set_cons_zero]
    refine Mix.mix_step rfl (valid_eq (.agg #[.string nm, .slice lp lps cp, .int .i64 rt, .slice lb lbs cb, .int .i64 pl]) rfl) ?_ ?_
    · intro w b k
      obtain ⟨x0, x1, x2, x3, x4⟩ := xs w b
      clear k
      simp [go_sem, x0, x1, x2, x3, x4]
      exact ⟨Below.refl _ _, fun d hd => by cases hd; rfl⟩
    rintro v ⟨_, _, h⟩
    obtain rfl : v = (.agg #[.string nm, .slice lp lps cp, .int .i64 rt, .slice lb lbs cb, .int .i64 pl]) := h _ rfl
    clear h
    simp only [Act.put, List.setIfInBounds_toArray, List.set_cons_succ, List.set_cons_zero]
    refine Mix.mix_step rfl (valid_of (CB w2 (Below.refl _ _))) ?_ ?_
    · intro w b k
      clear k
      simp [go_sem]
      exact Calls.mono (CB w b) fun e w' ⟨v, he, hb, hf⟩ => ⟨v, he, hb, fun d hd => by cases hd; exact hf⟩
    rintro p17 -
    simp only [Act.put, List.setIfInBounds_toArray, List.set_cons_succ, List.set_cons_zero]
    refine Mix.mix_step rfl (valid_of (CL w2 (Below.refl _ _))) ?_ ?_
    · intro w b k
      have f : IntsV w (placesF f) p15 := k 15 (by decide +kernel) (by simp [Mix.add]) p15 rfl
      clear k
      simp [go_sem]
      exact ⟨Below.refl _ _, fun d hd => by cases hd; exact f⟩
    rintro p3 -
    simp only [Act.put, List.setIfInBounds_toArray, List.set_cons_succ, List.set_cons_zero]
    refine Mix.mix_step rfl (valid_of (CB w2 (Below.refl _ _))) ?_ ?_
    · intro w b k
      have f : PairsV w (backsF f) p17 := k 17 (by decide +kernel) (by simp [Mix.add]) p17 rfl
      clear k
      simp [go_sem]
      exact ⟨Below.refl _ _, fun d hd => by cases hd; exact f⟩
    rintro p4 -
    simp only [Act.put, List.setIfInBounds_toArray, List.set_cons_succ, List.set_cons_zero]
    refine Mix.mix_nil ?_
    intro w3 b3 hk
    have f3 : IntsV w3 (placesF f) p3 := hk 3 (by simp [Mix.add]) p3 rfl
    have f4 : PairsV w3 (backsF f) p4 := hk 4 (by simp [Mix.add]) p4 rfl
    have X3 := hide (X2.out.below b3)
    have HV3 := hide (HV2.out.below b3)
    have HT3 := hide (HT2.out.below b3)
    have HB3 := hide (below_step HBB.out b3)
    clear CL CB xs b3 hk X2 HV2 HT2 HBB
    obtain ⟨ao3, c3, rfl, hA⟩ : ∃ ao c, p3 = .slice ao lbs c ∧ ∃ g o, ao = some ⟨g, o, none⟩ ∧ g < w3.heap.size ∧ ∀ k : Nat, k < lbs → w3.cell? ⟨g, o + k, none⟩ = some (.int .i64 (atF f k)) := by
      obtain ⟨ao, c, e, h1, _⟩ := f3
      have el := placesF_len f
      rw [← HLB.out] at el
      refine ⟨ao, c, by rw [e, el], ?_⟩
      rcases h1 with h1 | ⟨g, o, e2, hg, h1⟩
      · rw [h1] at el
        have := HLB.out
        simp at el
        omega
      · exact ⟨g, o, e2, hg, fun k hk => h1 k _ (placesF_at (by rw [← HLB.out]; exact hk))⟩
    obtain ⟨ga, oa, rfl, gal, hat⟩ := hA
    have HAt := hide hat
    obtain ⟨ao4, c4, rfl, h4, hl4⟩ := f4
    have H4 := hide h4
    unfold maxLen at hl4
    have HBk := hide (fun K hK m hm h0 hb => @hasP_back f K m hK hm h0 hb)
    have HA0 := hide (at_first h0)
    have h0' : 0 < lbs := by rw [HLB.out]; exact h0
    generalize backsF f = bs2 at *
    clear h4 hat f3
    have x3 := X3.out.2 3 _ rfl
    go_wp2_with fail
    clear x3
    go_loopw [5] (fun i wr => ∃ K : Nat, K ≤ lbs ∧ i = .int .i64 K ∧ Hid (Below w3.heap.size w3 wr)) (fun i _ => lbs - (intOf i).toNat)
    case atStart => exact ⟨0, Nat.zero_le _, rfl, hide (Below.refl _ _)⟩
    case round =>
      obtain ⟨K, hK, rfl, HW⟩ := hrel
      obtain ⟨x0, x1, x2, x3, x4⟩ : _ ∧ _ ∧ _ ∧ _ ∧ _ := ⟨(X3.out.below HW.out).2 0 _ rfl, (X3.out.below HW.out).2 1 _ rfl, (X3.out.below HW.out).2 2 _ rfl, (X3.out.below HW.out).2 3 _ rfl, (X3.out.below HW.out).2 4 _ rfl⟩
      by_cases hkt : K < lbs
      · have hkI : (K : Int) < lbs := by omega
        have hkf : K < f.2.2.2.1.length := by rw [← HLB.out]; exact hkt
        have HN := hide (next_any f K _ wr (HV3.out.below HW.out) HF.out hkf)
        have HNu : Hid (Num lbs (nextF f K)) := hide (by have := HTo.out K; rwa [← HLB.out] at this)
        have hll : (nextF f K).length ≤ 1000000 := nextF_len HF.out hkf
        have HBm := hide (fun m (hm : m ∈ nextF f K) h0 hb => HBk.out K hkf m hm h0 hb)
        have aK := HAt.out K hkt
        generalize nextF f K = l at *
        go_wp2_with fail
        refine HN.out.mono ?_; rintro e w5 ⟨u, rfl, hu, b5⟩
        obtain ⟨lo, lc, rfl, hsl, _⟩ := ints_of hu
        have HSl := hide hsl
        have HW5 := hide (below_step HW.out b5)
        clear x0 x1 x2 x3 x4 hu b5 HN hsl HW
        go_wp2_with fail
        go_loopw [7] (fun i wq => ∃ I : Nat, I ≤ l.length ∧ i = .int .i64 I ∧ Hid (Below w5.heap.size w5 wq)) (fun i _ => l.length - (intOf i).toNat)
        case atStart => exact ⟨0, Nat.zero_le _, rfl, hide (Below.refl _ _)⟩
        case round =>
          obtain ⟨I, hI, rfl, HQ⟩ := hrel
          by_cases hit : I < l.length
          · have hiI : (I : Int) < l.length := by omega
            obtain ⟨m, hm⟩ : ∃ m, l[I]? = some m := ⟨_, List.getElem?_eq_getElem hit⟩
            obtain ⟨hm0, hm1⟩ := HNu.out m (List.mem_of_getElem? hm)
            have HBM := hide (HBm.out m (List.mem_of_getElem? hm))
            obtain ⟨M, rfl⟩ : ∃ M : Nat, m = (M : Int) := ⟨m.toNat, by omega⟩
            have hMl : M < lbs := by omega
            rcases HSl.out with e0 | ⟨tb, to2, rfl, t1, t2⟩
            · subst e0; simp at hit
            have cm := hide (t2 I _ hm)
            have aM := HAt.out M hMl
            clear t2 hm
            go_wp2_with fail
            have HP0 : Hid (Below w5.heap.size w5 wr ∧ hasP (bs2.take 0) K M = false) := hide ⟨HQ.out, rfl⟩
            go_loopw [8, 9] (fun bk j wz => ∃ J : Nat, J ≤ bs2.length ∧ j = .int .i64 J ∧ bk = .bool (hasP (bs2.take J) K M) ∧ Hid (Below w5.heap.size w5 wz)) (fun _ j _ => bs2.length - (intOf j).toNat)
            case atStart => exact ⟨0, Nat.zero_le _, rfl, by rw [HP0.out.2], hide HP0.out.1⟩
            case round =>
              clear HP0 HQ
              obtain ⟨J, hJ, rfl, rfl, HZ⟩ := hrel
              have HZ3 := hide (below_step HW5.out HZ.out)
              have tbw : tb < wr.heap.size := Nat.lt_of_lt_of_le t1 HZ.out.size
              have gaw : ga < wr.heap.size := Nat.lt_of_lt_of_le gal HZ3.out.size
              by_cases hjt : J < bs2.length
              · have hjI : (J : Int) < bs2.length := by omega
                obtain ⟨⟨x, y⟩, hp⟩ : ∃ p, bs2[J]? = some p := ⟨_, List.getElem?_eq_getElem hjt⟩
                have HSn : Hid (hasP (bs2.take (J + 1)) K M = (hasP (bs2.take J) K M || ((x == (K : Int)) && (y == (M : Int))))) := hide (by rw [take_more hp, hasP_snoc])
                rcases H4.out with e0 | ⟨g4, rfl, g4l, q4⟩
                · subst e0; simp at hjt
                obtain ⟨s1, s2⟩ := q4 J (x, y) hp
                have g4w : g4 < wr.heap.size := Nat.lt_of_lt_of_le g4l HZ3.out.size
                have f1 := fun z => ((L5.grewTo_below wr z).cell (p := ⟨g4, J * 2, none⟩) g4w).trans ((HZ3.out.cell (p := ⟨g4, J * 2, none⟩) g4l).trans s1)
                have f2 := fun z => ((L5.grewTo_below wr z).cell (p := ⟨g4, J * 2 + 1, none⟩) g4w).trans ((HZ3.out.cell (p := ⟨g4, J * 2 + 1, none⟩) g4l).trans s2)
                have f3 := fun z => ((L5.grewTo_below wr z).cell (p := ⟨tb, to2 + I, none⟩) tbw).trans ((HZ.out.cell (p := ⟨tb, to2 + I, none⟩) t1).trans cm.out)
                dsimp only at f1 f2
                have hq := eq_pair x y K M
                clear q4 s1 s2 hp
                cases hb : hasP (bs2.take J) K M with
                | true =>
                  have HE : Hid (true = hasP (bs2.take (J + 1)) K M) := hide (by rw [HSn.out, hb]; rfl)
                  replace hb := hide hb
                  go_wp2_with fail
                  refine L5.region_grew (by kernel_rfl) (by kernel_rfl) ?_
                  repeat (go_big_quiet_step (fail))
                  refine wpQuiet_nil ?_
                  rintro _ ⟨z, rfl⟩
                  have HX := hide (below_step HZ.out (L5.grewTo_below wr z))
                  clear f1 f2 f3
                  go_wp2_with fail
                  go_roundw
                  case rel => exact ⟨J + 1, by omega, by go_num, by rw [← HE.out], HX⟩
                  case measure => simp [intOf]; omega
                | false =>
                  have HE : Hid (((x == (K : Int)) && (y == (M : Int))) = hasP (bs2.take (J + 1)) K M) := hide (by rw [HSn.out, hb]; rfl)
                  replace hb := hide hb
                  generalize ((x == (K : Int)) && (y == (M : Int))) = eqb at *
                  go_wp2_with fail
                  refine L5.region_grew (by kernel_rfl) (by kernel_rfl) ?_
                  repeat (go_big_quiet_step (fail))
                  refine wpQuiet_nil ?_
                  rintro _ ⟨z, rfl⟩
                  have HX := hide (below_step HZ.out (L5.grewTo_below wr z))
                  clear f1 f2 f3
                  go_wp2_with fail
                  go_roundw
                  case rel => exact ⟨J + 1, by omega, by go_num, by rw [← HE.out], HX⟩
                  case measure => simp [intOf]; omega
              · obtain rfl : J = bs2.length := by omega
                rw [List.take_length]
                have f1 := fun z => ((L5.grewTo_below wr z).cell (p := ⟨ga, oa + K, none⟩) gaw).trans ((HZ3.out.cell (p := ⟨ga, oa + K, none⟩) gal).trans aK)
                have f2 := fun z => ((L5.grewTo_below wr z).cell (p := ⟨ga, oa + M, none⟩) gaw).trans ((HZ3.out.cell (p := ⟨ga, oa + M, none⟩) gal).trans aM)
                have f3 := fun z => ((L5.grewTo_below wr z).cell (p := ⟨tb, to2 + I, none⟩) tbw).trans ((HZ.out.cell (p := ⟨tb, to2 + I, none⟩) t1).trans cm.out)
                generalize atF f (K : Int) = vK at *
                generalize atF f (M : Int) = vM at *
                have HMI : (M : Int) < lbs := by omega
                by_cases hpos : 0 ≤ vK
                · have hd : decide (0 ≤ vK) = true := by simpa using hpos
                  cases hb : hasP bs2 K M with
                  | true =>
                    replace hb := hide hb
                    go_wp2_with fail
                    refine L5.region_grew (by kernel_rfl) (by kernel_rfl) ?_
                    repeat (go_big_quiet_step (fail))
                    refine wpQuiet_nil ?_
                    rintro _ ⟨z, rfl⟩
                    have HX := hide (below_step HZ.out (L5.grewTo_below wr z))
                    clear f1 f2 f3
                    go_wp2_with fail
                    go_roundw
                    case rel => exact ⟨I + 1, by omega, by go_num, HX⟩
                    case measure => simp [intOf]; omega
                  | false =>
                    have hle := HBM.out hpos hb
                    have hd2 : decide (vM ≤ vK) = false := by simpa using hle
                    replace hb := hide hb
                    go_wp2_with fail
                    refine L5.region_grew (by kernel_rfl) (by kernel_rfl) ?_
                    repeat (go_big_quiet_step (fail))
                    refine wpQuiet_nil ?_
                    rintro _ ⟨z, rfl⟩
                    have HX := hide (below_step HZ.out (L5.grewTo_below wr z))
                    clear f1 f2 f3
                    go_wp2_with fail
                    go_roundw
                    case rel => exact ⟨I + 1, by omega, by go_num, HX⟩
                    case measure => simp [intOf]; omega
                · have hd : decide (0 ≤ vK) = false := by simpa using hpos
                  generalize hasP bs2 K M = bk at *
                  go_wp2_with fail
                  refine L5.region_grew (by kernel_rfl) (by kernel_rfl) ?_
                  repeat (go_big_quiet_step (fail))
                  refine wpQuiet_nil ?_
                  rintro _ ⟨z, rfl⟩
                  have HX := hide (below_step HZ.out (L5.grewTo_below wr z))
                  clear f1 f2 f3
                  go_wp2_with fail
                  go_roundw
                  case rel => exact ⟨I + 1, by omega, by go_num, HX⟩
                  case measure => simp [intOf]; omega
          · obtain rfl : I = l.length := by omega
            have HX := hide (below_step HW5.out HQ.out)
            go_wp2_with fail
            go_roundw
            case rel => exact ⟨K + 1, by omega, by go_num, HX⟩
            case measure => simp [intOf]; omega
      · obtain rfl : K = lbs := by omega
        have a0 := (HW.out.cell (p := ⟨ga, oa + 0, none⟩) gal).trans (HAt.out 0 h0')
        have ez : atF f ((0 : Nat) : Int) = 0 := HA0.out
        rw [ez, Nat.add_zero] at a0
        have hlz : (0 : Int) < K := by omega
        have HW5 := hide (HWk.out wr (HT3.out.below HW.out))
        clear ez
        go_wp2_with fail
        refine HW5.out.mono ?_; rintro e w6 ⟨rfl, b6⟩
        have HE := hide (below_step HB3.out (below_step HW.out b6))
        clear b6
        go_wp2_with fail
        go_ret
        exact ⟨rfl, HE.out⟩
end Go.Proofs.YtfmeadbiokcboaaDoor
namespace Go.Proofs.YtfmeadbiokcboaaDoor
open Go.ChangeShapes Go.WideShapes Go.ChangeAt Go.RowKit
open L5 (word tk0 tk1 mk ds num beside letters)
theorem own : ownKnob Tryd.prog.godebug = none := by kernel_rfl
theorem laidOut : laidOutB Tryd.prog = true := by kernel_rfl
def laid1 : List (String × DataW Unit) := [("turntable/ops.rows", Rows.laid_turntable_ops_rows)]
theorem rowsNamed : Tryd.prog.globalNamed "turntable/ops.rows" = some 0 := by kernel_rfl
theorem rowsType : (Tryd.prog.globals[0]?).map (·.type) = some 90 := by kernel_rfl
theorem cq3 : Tryd.prog.cellsOf 3 = 1 := by kernel_rfl
theorem cq9 : Tryd.prog.cellsOf 9 = 1 := by kernel_rfl
theorem cq44 : Tryd.prog.cellsOf 44 = 2 := by kernel_rfl
theorem cq85 : Tryd.prog.cellsOf 85 = 5 := by kernel_rfl
/-- A row as the laid datum has it. -/
def rowD {H : Type} (k : Nat) : DataW H := .agg [.lit (.string (letters k)), .agg [.lit (.int .i64 (tk0 k)), .lit (.int .i64 (tk1 k))], .lit (.int .i64 (mk k)), .lit (.int .i64 (ds k))]
theorem laid_rows {H : Type} : (Rows.laid_turntable_ops_rows : DataW H) = .agg ((List.range 30).map rowD) := by rfl
section
variable {H : Type} {enc : TypeId × Value → H} {W : World} {base : Nat} {sp : Nat → Bool} {held : Bool}
theorem five {cs : List Value} (h : cs.length = 5) : ∃ a b c d e, cs = [a, b, c, d, e] := by
  match cs, h with
  | [a, b, c, d, e], _ => exact ⟨a, b, c, d, e, rfl⟩
theorem str_of {s : ByteArray} {bs : List UInt8} (h : s.data.toList = bs) : s = ⟨bs.toArray⟩ := by
  subst h; rfl
theorem row_cells {fuel k : Nat} {cs : List Value} {p : List MemPlace} (h : DataW.trod enc Tryd.prog W base sp held fuel 85 cs = some (rowD k, p)) :
    cs = [.string (word k), .int .i64 (tk0 k), .int .i64 (tk1 k), .int .i64 (mk k), .int .i64 (ds k)] := by
  obtain ⟨xs, n, _, hx, hl, hlen, hf⟩ := DataW.trod_struct Tryd.underlying85 h
  obtain ⟨v0, v1, v2, v3, v4, rfl⟩ := five (hl.trans cq85)
  match xs, hlen with
  | [y0, y1, y2, y3], _ =>
    have h0 : DataW.trod enc Tryd.prog W base sp held n 9 ([v0, v1, v2, v3, v4].take (Tryd.prog.cellsOf 9)) = some y0 := hf 0 _ rfl
    have h1 : DataW.trod enc Tryd.prog W base sp held n 44 ([v1, v2, v3, v4].take (Tryd.prog.cellsOf 44)) = some y1 := hf 1 _ rfl
    have h2 : DataW.trod enc Tryd.prog W base sp held n 3 ([v3, v4].take (Tryd.prog.cellsOf 3)) = some y2 := hf 2 _ rfl
    have h3 : DataW.trod enc Tryd.prog W base sp held n 3 ([v4].take (Tryd.prog.cellsOf 3)) = some y3 := hf 3 _ rfl
    rw [cq9] at h0
    rw [cq44] at h1
    rw [cq3] at h2 h3
    obtain ⟨s, e0, rfl, _⟩ := DataW.trod_string Tryd.underlying9 h0
    obtain ⟨x2, e2, rfl, _⟩ := DataW.trod_int Tryd.underlying3 h2
    obtain ⟨x3, e3, rfl, _⟩ := DataW.trod_int Tryd.underlying3 h3
    obtain ⟨zs, m, _, hz, _, hzl, each⟩ := DataW.trod_array Tryd.underlying44 h1
    match zs, hzl with
    | [z0, z1], _ =>
      have g0 := each 0 (by decide)
      have g1 := each 1 (by decide)
      simp only [cq3] at g0 g1
      simp at g0 g1
      obtain ⟨u0, f0, rfl, _⟩ := DataW.trod_int Tryd.underlying3 g0
      obtain ⟨u1, f1, rfl, _⟩ := DataW.trod_int Tryd.underlying3 g1
      subst hz
      simp [rowD] at hx e0 e2 e3 f0 f1
      obtain ⟨⟨q0, ⟨q1, q2⟩, q3, q4⟩, _⟩ := hx
      subst e0 e2 e3 f0 f1 q1 q2 q3 q4
      rw [str_of q0.symm]
      rfl
end
theorem tab_of_laid {W : World} (h : laidMetH Tryd.prog laid1 W) : Tab W := by
  rw [MakeChecks.laidMetH_plain _ _ _ (by kernel_rfl)] at h
  obtain ⟨ps, ⟨g, t, cs, fuel, p, q, hg, ht, hvar, hd, _, _⟩, _⟩ := h
  obtain rfl := Option.some.inj (rowsNamed.symm.trans hg)
  obtain rfl := Option.some.inj (rowsType.symm.trans ht)
  rw [laid_rows] at hd
  obtain ⟨xs, n, _, hx, hl, hlen, each⟩ := DataW.trod_array Tryd.underlying90 hd
  have hxs : xs.map (·.1) = (List.range 30).map rowD := by
    have := congrArg Prod.fst hx
    simpa using this.symm
  have key : ∀ k, k < 30 → (cs.toList.drop (k * 5)).take 5 = [.string (word k), .int .i64 (tk0 k), .int .i64 (tk1 k), .int .i64 (mk k), .int .i64 (ds k)] := by
    intro k hk
    have h1 := each k hk
    rw [cq85] at h1
    obtain ⟨y, hy⟩ : ∃ y, xs[k]? = some y := ⟨_, List.getElem?_eq_getElem (by omega)⟩
    have h2 := congrArg (·[k]?) hxs
    simp [hy, hk] at h2
    rw [hy] at h1
    obtain ⟨d, pl⟩ := y
    simp at h2
    subst h2
    exact row_cells h1
  have cell : ∀ k j v, k < 30 → j < 5 → ((cs.toList.drop (k * 5)).take 5)[j]? = some v → W.cell? ⟨0, k * 5 + j, none⟩ = some v := by
    intro k j v hk hj hv
    have := World.var?_cell hg hvar (k * 5 + j)
    rw [this]
    simpa [List.getElem?_take, List.getElem?_drop, hj] using hv
  refine ⟨World.block_lt_of_cell? W _ (cell 0 0 (.string (word 0)) (by omega) (by omega) (by rw [key 0 (by omega)]; rfl)), fun k hk => ?_⟩
  exact ⟨cell k 0 _ hk (by omega) (by rw [key k hk]; rfl), cell k 1 _ hk (by omega) (by rw [key k hk]; rfl), cell k 2 _ hk (by omega) (by rw [key k hk]; rfl), cell k 3 _ hk (by omega) (by rw [key k hk]; rfl), cell k 4 _ hk (by omega) (by rw [key k hk]; rfl)⟩
theorem door_met (os : Os) (args : Array Value) : laidMetH Tryd.prog laid1 ((World.doorLaid Tryd.prog 400 os).forCall (fun _ _ => 0) ⟨#[], args, []⟩).memory :=
  laidMetH_of_parts3 (fuel := 8) (laidMet_of_run' 8 (by kernel_rfl) (by kernel_rfl)) (by kernel_rfl) (by kernel_rfl)
end Go.Proofs.YtfmeadbiokcboaaDoor
