/- Layer 9, the program: the tree of a function. Layer 9, the program: what the tree answers: whether a number is a block's, the last one ahead, how many stand ahead, whether one stands ahead of another. Layer 9, the program: whether a block stands ahead of another one; the blocks of which one is the last one ahead. -/
import Derived.Test.YtmiplohoclckcaaGreatLtBA
import Derived.Test.YtmiplohoclckcaaGreatLtBH
namespace Go.Proofs.YtmiplohoclckcaaGreat
open Go Go.RowKit
open G (Tok Er Ins Fun)
open Mix (Up)
/-- The tree, as it is read. -/
def TreeV (w : World) (f : Fun) (v : Value) : Prop := ∃ (t : Nat) (uo dd : Option Addr) (uc dc : Nat), v = .pointer (some ⟨t, 0, none⟩) ∧ L5.Box w t [.slice uo f.2.2.2.1.length uc, .slice dd f.2.2.2.1.length dc] ∧ Sl w uo (upsL (succsF f)) ∧ Sl w dd (dpsL (succsF f))
theorem TreeV.below {w w' : World} {f : Fun} {v : Value} (h : TreeV w f v) (b : Below w.heap.size w w') : TreeV w' f v := by
  obtain ⟨t, uo, dd, uc, dc, e, h1, h2, h3⟩ := h
  exact ⟨t, uo, dd, uc, dc, e, h1.below b, h2.below b, h3.below b⟩
theorem upIn_of {f : Fun} (hF : Ful f) (hT : Tos f) (h0 : 0 < f.2.2.2.1.length) : UpIn (succsF f) (atF f) (orderF f) (placesF f) (predsF f) := by
  have hg := gr_succs hT h0
  have hn := succsF_len f
  refine ⟨hg, ord_of hT h0, ⟨by rw [placesF_len, hn], fun k hk => placesF_at (by rw [← hn]; exact hk)⟩, ⟨fun i b hb => ⟨(mem_order hT h0 b).1 (List.mem_of_getElem? hb), at_order hT h0 hb⟩, fun x hx => ?_⟩, by rw [predsF_len, hn], fun b l hl => ?_, by rw [hn]; exact hF.1, Nat.le_trans (orderF_len hT h0) hF.1⟩
  · obtain ⟨i, hi, e⟩ := List.mem_iff_getElem.1 ((mem_order hT h0 x).2 hx)
    have : (orderF f)[i]? = some x := by rw [List.getElem?_eq_getElem hi, e]
    rw [at_order hT h0 this]
    omega
  · have hb : b < f.2.2.2.1.length := by have := (List.getElem?_eq_some_iff.1 hl).1; rw [predsF_len] at this; exact this
    have e : (predsF f)[b]? = some (predTo f b f.2.2.2.1.length) := by
      unfold predsF; rw [List.getElem?_map, List.getElem?_range hb]; rfl
    rw [e] at hl
    injection hl with hl
    subst hl
    refine ⟨fun p => ?_, Nat.le_trans (predTo_len f b _) hF.1⟩
    rw [hn]
    unfold predTo
    rw [List.mem_map]
    constructor
    · rintro ⟨j, hj, rfl⟩
      obtain ⟨j1, j2⟩ := List.mem_filter.1 hj
      have j3 : j < f.2.2.2.1.length := by simpa using j1
      refine ⟨by simp, by simp; omega, ?_⟩
      have e2 : (Int.ofNat j).toNat = j := rfl
      rw [next_getD (by rw [e2]; exact j3), e2]
      exact hasL_mem.1 j2
    · rintro ⟨q1, q2, q3⟩
      refine ⟨p.toNat, List.mem_filter.2 ⟨by simp; omega, ?_⟩, by simp; omega⟩
      rw [next_getD (by omega)] at q3
      exact hasL_mem.2 q3
def ofUp (fv ov : Value) (f : Fun) (t : Tmp) : Up := match t with
  | 7 => Up.eq ov
  | 8 | 10 => Up.eq fv
  | 9 => Up.ints (placesF f)
  | 11 => Up.rows (predsF f)
  | 12 | 4 => Up.ints (upsL (succsF f))
  | _ => Up.any
set_option maxHeartbeats 2000000 in
set_option maxRecDepth 20000 in
theorem of_any (f : Fun) (v : Value) (w : World) (hv : FunV w f v) (hF : Ful f) (hT : Tos f) (h0 : 0 < f.2.2.2.1.length) :
    Calls Tryz.prog 24 #[v] w fun e w' => ∃ a, e = .returned (.pointer (some a)) ∧ TreeV w' f (.pointer (some a)) ∧ Below w.heap.size w w' := by
  have hv2 := hv
  obtain ⟨vp, vb, rfl, _, _⟩ := hv2
  have b0 := below_box w (.cells #[.string (bs f.1), vp, .int .i64 f.2.2.1, vb, .int .i64 f.2.2.2.2] 25)
  have X0 := hide (L5.Box.new w [.string (bs f.1), vp, .int .i64 f.2.2.1, vb, .int .i64 f.2.2.2.2] 25)
  have HV := hide (hv.below b0)
  have B0 := hide b0
  have HIn := hide (upIn_of hF hT h0)
  have HGr := hide (gr_succs hT h0)
  have HOu := hide (ordU_of hT h0)
  have hN : f.2.2.2.1.length ≤ 1000000 := hF.1
  have hol : (orderF f).length ≤ 1000000 := Nat.le_trans (orderF_len hT h0) hF.1
  have HCo := hide (fun v w hv => orderP_any f v w hv hF hT h0)
  have HCp := hide (fun v w hv => placesP_any f v w hv hF hT h0)
  have HCr := hide (fun v w hv => preds_any f v w hv hF hT)
  have HSl := hide (succsF_len f)
  have HPl := hide (placesF_len f)
  clear b0 hv hF hT
  obtain ⟨lp, cp, rfl⟩ : ∃ ao c, vp = .slice ao f.2.1.length c := by
    obtain ⟨vp', vb', e, ⟨ao, c, e2, _⟩, _⟩ := HV.out
    injection e with e
    have e1 := congrArg (fun a => a[1]?) e
    simp at e1
    exact ⟨ao, c, by rw [e1, e2]⟩
  obtain ⟨lb, cb, rfl⟩ : ∃ ao c, vb = .slice ao f.2.2.2.1.length c := by
    obtain ⟨vp', vb', e, _, ⟨ao, c, e2, _⟩⟩ := HV.out
    injection e with e
    have e1 := congrArg (fun a => a[3]?) e
    simp at e1
    exact ⟨ao, c, by rw [e1, e2]⟩
  generalize bs f.1 = nm at *
  generalize f.2.1.length = lps at *
  generalize f.2.2.1 = rt at *
  obtain ⟨lbs, hlbs⟩ : ∃ n, n = f.2.2.2.1.length := ⟨_, rfl⟩
  rw [← hlbs] at X0 HV B0 h0 hN ⊢
  have HLB := hide hlbs
  clear hlbs
  generalize f.2.2.2.2 = pl at *
  go_enter Tryz.func24, Tryz.ntmps24
  go_upto_region 1 with fail
  show Code.wp _ _ _ _ (w.alloc (.cells #[.string nm, .slice lp lps cp, .int .i64 rt, .slice lb lbs cb, .int .i64 pl] 25))
  replace X0 : Hid (L5.Box (w.alloc (.cells #[.string nm, .slice lp lps cp, .int .i64 rt, .slice lb lbs cb, .int .i64 pl] 25)) w.heap.size [.string nm, .slice lp lps cp, .int .i64 rt, .slice lb lbs cb, .int .i64 pl]) := X0
  generalize w.alloc (.cells #[.string nm, .slice lp lps cp, .int .i64 rt, .slice lb lbs cb, .int .i64 pl] 25) = W at *
  generalize hq : w.heap.size = q at *
  obtain ⟨x0, x1, x2, x3, x4⟩ : _ ∧ _ ∧ _ ∧ _ ∧ _ := ⟨X0.out.2 0 _ rfl, X0.out.2 1 _ rfl, X0.out.2 2 _ rfl, X0.out.2 3 _ rfl, X0.out.2 4 _ rfl⟩
  have HO := hide (HCo.out _ W HV.out)
  go_wp2_with fail
  refine HO.out.mono ?_; rintro e w2 ⟨u, rfl, hu, b2⟩
  have HOi := hide (ints_of hu)
  obtain ⟨oo, oc, rfl⟩ := own_len hu
  have X2 := hide (X0.out.below b2)
  have HV2 := hide (HV.out.below b2)
  have B2 : Hid (Below w.heap.size w w2) := hide (by have h := B0.out; rw [← hq] at h; exact below_step h b2)
  clear x0 x1 x2 x3 x4 HO hu b2 X0 HV HCo
  have CP : ∀ w, Below w2.heap.size w2 w → Calls Tryz.prog 45 #[(.agg #[.string nm, .slice lp lps cp, .int .i64 rt, .slice lb lbs cb, .int .i64 pl])] w fun e w' => ∃ v, e = .returned v ∧ Below w.heap.size w w' ∧ IntsV w' (placesF f) v := fun w b => (HCp.out _ w (HV2.out.below b)).mono fun e w' ⟨g, he, h, b'⟩ => ⟨_, he, b', places_read h⟩
  have CR : ∀ w, Below w2.heap.size w2 w → Calls Tryz.prog 25 #[(.agg #[.string nm, .slice lp lps cp, .int .i64 rt, .slice lb lbs cb, .int .i64 pl])] w fun e w' => ∃ v, e = .returned v ∧ Below w.heap.size w w' ∧ RowsV w' (predsF f) v := fun w b => (HCr.out _ w (HV2.out.below b)).mono fun e w' ⟨v, he, h, b'⟩ => ⟨_, he, b', h.read⟩
  have CV : ∀ w, Below w2.heap.size w2 w → ∀ (p9 p11 : Value), IntsV w (placesF f) p9 → RowsV w (predsF f) p11 → Calls Tryz.prog 44 #[(.slice oo (orderF f).length oc), p9, p11] w fun e w' => ∃ v, e = .returned v ∧ Below w.heap.size w w' ∧ IntsV w' (upsL (succsF f)) v := by
    rintro w b p9 p11 ⟨po, pc, rfl, hps, _, _⟩ ⟨ro, rc, rfl, hrs, _, _⟩
    obtain ⟨oo', oc', e, hos, _, _⟩ := HOi.out.below b
    injection e with e1 e2 e3
    subst e1 e3
    refine (ups_any (succsF f) (atF f) (orderF f) (placesF f) (predsF f) HIn.out oo po ro oc pc rc w hos hps hrs).mono ?_
    rintro e w' ⟨g, rfl, hr, hb⟩
    refine ⟨_, rfl, hb, ?_⟩
    have h1 : (upsL (succsF f)).length = (succsF f).length := upsL_len _
    unfold RowAt at hr
    rw [← h1] at hr ⊢
    exact ints_of hr
  have CX : ∃ v w', Below w2.heap.size w2 w' ∧ IntsV w' (upsL (succsF f)) v := by
    obtain ⟨_, w3, v3, _, b3, h3⟩ := calls_exist (CP w2 (Below.refl _ _))
    obtain ⟨_, w4, v4, _, b4, h4⟩ := calls_exist (CR w3 b3)
    obtain ⟨_, w5, v5, _, b5, h5⟩ := calls_exist (CV w4 (below_step b3 b4) v3 v4 (h3.below b4) h4)
    exact ⟨v5, w5, below_step (below_step b3 b4) b5, h5⟩
  have xs := fun (w : World) (b : Below w2.heap.size w2 w) => And.intro ((X2.out.below b).2 0 _ rfl) (And.intro ((X2.out.below b).2 1 _ rfl) (And.intro ((X2.out.below b).2 2 _ rfl) (And.intro ((X2.out.below b).2 3 _ rfl) ((X2.out.below b).2 4 _ rfl))))
  go_upto_region 2 with fail
  refine Mix.wp_region_mix (ofUp (.agg #[.string nm, .slice lp lps cp, .int .i64 rt, .slice lb lbs cb, .int .i64 pl]) (.slice oo (orderF f).length oc) f) (by kernel_rfl) (by kernel_rfl) ?_
  refine Mix.mix_step rfl (valid_eq (.slice oo (orderF f).length oc) rfl) ?_ ?_
  · intro w b k
    clear k
    simp [go_sem]
    exact ⟨Below.refl _ _, fun d hd => by cases hd; rfl⟩
  rintro v ⟨_, _, h⟩
  obtain rfl : v = (.slice oo (orderF f).length oc) := h _ rfl
  clear h
  simp only [Act.put, List.setIfInBounds_toArray, List.set_cons_succ, List.set_cons_zero]
  refine Mix.mix_step rfl (valid_eq (.agg #[.string nm, .slice lp lps cp, .int .i64 rt, .slice lb lbs cb, .int .i64 pl]) rfl) ?_ ?_
  · intro w b k
    obtain ⟨x0, x1, x2, x3, x4⟩ := xs w b
    clear k
    simp [go_sem, x0, x1, x2, x3, x4]
    exact ⟨Below.refl _ _, fun d hd => by cases hd; rfl⟩
  rintro v ⟨_, _, h⟩
  obtain rfl : v = (.agg #[.string nm, .slice lp lps cp, .int .i64 rt, .slice lb lbs cb, .int .i64 pl]) := h _ rfl
  clear h
  simp only [Act.put, List.setIfInBounds_toArray, List.set_cons_succ, List.set_cons_zero]
  refine Mix.mix_step rfl (valid_of (CP w2 (Below.refl _ _))) ?_ ?_
  · intro w b k
    clear k
    simp [go_sem]
    exact Calls.mono (CP w b) fun e w' ⟨v, he, hb, hf⟩ => ⟨v, he, hb, fun d hd => by cases hd; exact hf⟩
  rintro p9 -
  simp only [Act.put, List.setIfInBounds_toArray, List.set_cons_succ, List.set_cons_zero]
  refine Mix.mix_step rfl (valid_eq (.agg #[.string nm, .slice lp lps cp, .int .i64 rt, .slice lb lbs cb, .int .i64 pl]) rfl) ?_ ?_
  · intro w b k
    obtain ⟨x0, x1, x2, x3, x4⟩ := xs w b
    clear k
    simp [go_sem, x0, x1, x2, x3, x4]
    exact ⟨Below.refl _ _, fun d hd => by cases hd; rfl⟩
  rintro v ⟨_, _, h⟩
  obtain rfl : v = (.agg #[.string nm, .slice lp lps cp, .int .i64 rt, .slice lb lbs cb, .int .i64 pl]) := h _ rfl
  clear h
  simp only [Act.put, List.setIfInBounds_toArray, List.set_cons_succ, List.set_cons_zero]
  refine Mix.mix_step rfl (valid_of (CR w2 (Below.refl _ _))) ?_ ?_
  · intro w b k
    clear k
    simp [go_sem]
    exact Calls.mono (CR w b) fun e w' ⟨v, he, hb, hf⟩ => ⟨v, he, hb, fun d hd => by cases hd; exact hf⟩
  rintro p11 -
  simp only [Act.put, List.setIfInBounds_toArray, List.set_cons_succ, List.set_cons_zero]
  refine Mix.mix_step rfl (by obtain ⟨v, w', b, h⟩ := CX; exact ⟨v, w', b, fun d hd => by cases hd; exact h⟩) ?_ ?_
  · intro w b k
    have f1 : IntsV w (placesF f) p9 := k 9 (by decide +kernel) (by simp [Mix.add]) p9 rfl
    have f2 : RowsV w (predsF f) p11 := k 11 (by decide +kernel) (by simp [Mix.add]) p11 rfl
    clear k
    simp [go_sem]
    exact Calls.mono (CV w b p9 p11 f1 f2) fun e w' ⟨v, he, hb, hf⟩ => ⟨v, he, hb, fun d hd => by cases hd; exact hf⟩
  rintro p12 -
  simp only [Act.put, List.setIfInBounds_toArray, List.set_cons_succ, List.set_cons_zero]
  refine Mix.mix_step rfl (by obtain ⟨v, w', b, h⟩ := CX; exact ⟨v, w', b, fun d hd => by cases hd; exact h⟩) ?_ ?_
  · intro w b k
    have f1 : IntsV w (upsL (succsF f)) p12 := k 12 (by decide +kernel) (by simp [Mix.add]) p12 rfl
    clear k
    simp [go_sem]
    exact ⟨Below.refl _ _, fun d hd => by cases hd; exact f1⟩
  rintro p4 -
  simp only [Act.put, List.setIfInBounds_toArray, List.set_cons_succ, List.set_cons_zero]
  refine Mix.mix_nil ?_
  intro w4 b4 hk
  have f4 : IntsV w4 (upsL (succsF f)) p4 := hk 4 (by simp [Mix.add]) p4 rfl
  clear CP CR CV CX xs hk HCp HCr HIn X2 HV2
  obtain ⟨uo, uc, rfl, hus, _, _⟩ := f4
  have e4 : (upsL (succsF f)).length = lbs := by rw [upsL_len, HSl.out, HLB.out]
  rw [e4]
  have HUs := hide hus
  have HD : Hid (Calls Tryz.prog 46 #[.slice oo (orderF f).length oc, .slice uo lbs uc] w4 fun e w' => ∃ g, e = .returned (.slice (some ⟨g, 0, none⟩) lbs lbs) ∧ RowAt w' w4.heap.size 3 g lbs (ints (dpsL (succsF f))) ∧ Below w4.heap.size w4 w') := hide (by
    obtain ⟨oo', oc', e, hos, _, _⟩ := HOi.out.below b4
    injection e with e1 e2 e3
    subst e1 e3
    have e5 : (succsF f).length = lbs := by rw [HSl.out, HLB.out]
    have := depths_any (succsF f) HGr.out (orderF f) HOu.out (by rw [e5]; exact hN) hol oo uo oc uc w4 hos hus
    rw [e5] at this
    exact this)
  have B4 : Hid (Below w.heap.size w w4) := hide (below_step B2.out b4)
  clear hus e4 b4 B2 HOi
  go_wp2_with fail
  refine HD.out.mono ?_; rintro e w5 ⟨g, rfl, hr5, b5⟩
  have HE : Hid (TreeV (w5.alloc (.cells #[.slice uo lbs uc, .slice (some ⟨g, 0, none⟩) lbs lbs] 82)) f (.pointer (some ⟨w5.heap.size, 0, none⟩)) ∧ Below w.heap.size w (w5.alloc (.cells #[.slice uo lbs uc, .slice (some ⟨g, 0, none⟩) lbs lbs] 82))) := hide (by
    have b6 := below_box w5 (.cells #[.slice uo lbs uc, .slice (some ⟨g, 0, none⟩) lbs lbs] 82)
    refine ⟨⟨w5.heap.size, uo, some ⟨g, 0, none⟩, uc, lbs, rfl, ?_, (HUs.out.below b5).below b6, (Sl.of_row hr5).below b6⟩, below_step (below_step B4.out b5) b6⟩
    rw [← HLB.out]
    exact L5.Box.new w5 [.slice uo lbs uc, .slice (some ⟨g, 0, none⟩) lbs lbs] 82)
  clear HD hr5 b5 HUs B4
  go_wp2_with fail
  go_ret
  exact ⟨_, rfl, HE.out.1, HE.out.2⟩
end Go.Proofs.YtmiplohoclckcaaGreat
namespace Go.Proofs.YtmiplohoclckcaaGreat
open Go Go.RowKit
open G (Tok Er Ins Fun)
/-- The tree's two lists, by their cells. -/
def TreeC (w : World) (ll : List (List Int)) (N t ub uo db dd uc dc : Nat) : Prop := t < w.heap.size ∧ ub < w.heap.size ∧ db < w.heap.size ∧ w.cell? ⟨t, 0, none⟩ = some (.slice (some ⟨ub, uo, none⟩) N uc) ∧ w.cell? ⟨t, 1, none⟩ = some (.slice (some ⟨db, dd, none⟩) N dc) ∧
  (∀ k : Nat, k < N → w.cell? ⟨ub, uo + k, none⟩ = some (.int .i64 (upB ll k))) ∧ ∀ k : Nat, k < N → w.cell? ⟨db, dd + k, none⟩ = some (.int .i64 ((depthB ll k : Nat) : Int))
theorem TreeC.below {w w' : World} {ll : List (List Int)} {N t ub uo db dd uc dc : Nat} (h : TreeC w ll N t ub uo db dd uc dc) (b : Below w.heap.size w w') : TreeC w' ll N t ub uo db dd uc dc := by
  obtain ⟨h1, h2, h3, h4, h5, h6, h7⟩ := h
  have hs := b.size
  exact ⟨by omega, by omega, by omega, (b.cell (p := ⟨t, 0, none⟩) h1).trans h4, (b.cell (p := ⟨t, 1, none⟩) h1).trans h5, fun k hk => (b.cell (p := ⟨ub, uo + k, none⟩) h2).trans (h6 k hk), fun k hk => (b.cell (p := ⟨db, dd + k, none⟩) h3).trans (h7 k hk)⟩
theorem TreeV.cells {w : World} {f : Fun} {v : Value} (h : TreeV w f v) (h0 : 0 < f.2.2.2.1.length) : ∃ t ub uo db dd uc dc, v = .pointer (some ⟨t, 0, none⟩) ∧ TreeC w (succsF f) f.2.2.2.1.length t ub uo db dd uc dc := by
  obtain ⟨t, uo, dd, uc, dc, rfl, h1, h2, h3⟩ := h
  have hn := succsF_len f
  rcases h2 with e | ⟨ub, o1, rfl, l1, c1⟩
  · have := upsL_len (succsF f); rw [e, hn] at this; simp at this; omega
  rcases h3 with e | ⟨db, o2, rfl, l2, c2⟩
  · have := dpsL_len (succsF f); rw [e, hn] at this; simp at this; omega
  exact ⟨t, ub, o1, db, o2, uc, dc, rfl, h1.1, l1, l2, h1.2 0 _ rfl, h1.2 1 _ rfl, fun k hk => c1 k _ (upsL_at (by omega)), fun k hk => c2 k _ (dpsL_at (by omega))⟩
set_option maxHeartbeats 4000000 in
set_option maxRecDepth 20000 in
theorem there_tree {ll : List (List Int)} {N t ub uo db dd uc dc : Nat} (k : Int) (w : World) (h : TreeC w ll N t ub uo db dd uc dc) :
    Calls Tryz.prog 84 #[.pointer (some ⟨t, 0, none⟩), .int .i64 k] w fun e w' => e = .returned (.bool (decide (0 ≤ k ∧ k < N))) ∧ w' = w := by
  obtain ⟨_, _, _, c1, _, _, _⟩ := h
  by_cases h0 : 0 ≤ k
  · have hd : decide (0 ≤ k ∧ k < N) = decide (k < (N : Int)) := by simp [h0]
    rw [hd]
    clear hd
    go_enter Tryz.func84, Tryz.ntmps84
    go_wp2_with fail
    go_ret
    exact ⟨rfl, rfl⟩
  · have hd : decide (0 ≤ k ∧ k < N) = false := by simp [h0]
    rw [hd]
    clear hd
    go_enter Tryz.func84, Tryz.ntmps84
    go_wp2_with fail
    go_ret
    exact ⟨rfl, rfl⟩
theorem all_up {ll : List (List Int)} (hg : Gr ll) (b : Int) : All ll b ↔ (b = 0 ∨ upB ll b ≠ -1) := by
  constructor
  · intro h
    by_cases h0 : b = 0
    · exact .inl h0
    · right
      obtain ⟨a, ha⟩ := IsUp.ex hg h h0
      rw [upB_eq hg ha]
      have := ha.2.1.1.num hg
      omega
  · rintro (rfl | h)
    · exact All.first _
    · refine Classical.byContradiction fun e => h ?_
      exact upB_no hg fun a ha => e ha.2.1.2.1
open Classical in
/-- Is a number that of a block that is reached? -/
noncomputable def standB (ll : List (List Int)) (b : Int) : Bool := decide (All ll b)
set_option maxHeartbeats 4000000 in
set_option maxRecDepth 20000 in
theorem stands_any {ll : List (List Int)} {t ub uo db dd uc dc : Nat} (hg : Gr ll) (k : Int) (w : World) (h : TreeC w ll ll.length t ub uo db dd uc dc) :
    Calls Tryz.prog 66 #[.pointer (some ⟨t, 0, none⟩), .int .i64 k] w fun e w' => e = .returned (.bool (standB ll k)) ∧ w' = w := by
  have HC := hide (there_tree k w h)
  obtain ⟨_, ul, _, c1, _, c2, _⟩ := h
  by_cases hk : 0 ≤ k ∧ k < ll.length
  · rw [decide_eq_true hk] at HC
    obtain ⟨K, rfl⟩ : ∃ K : Nat, k = (K : Int) := ⟨k.toNat, by omega⟩
    have hKl : K < ll.length := by omega
    have hs : Sl w (some ⟨ub, uo, none⟩) (upsL ll) := .inr ⟨ub, uo, rfl, ul, fun i x hx => by
      have hi : i < ll.length := by have := (List.getElem?_eq_some_iff.1 hx).1; rw [upsL_len] at this; exact this
      rw [upsL_at hi] at hx
      injection hx with hx
      subst hx
      exact c2 i hi⟩
    have HR : Hid (Calls Tryz.prog 82 #[.slice (some ⟨ub, uo, none⟩) ll.length uc, .int .i64 K] w fun e w' => e = .returned (.bool (standB ll K)) ∧ w' = w) := hide (by
      have := reached_any (upsL ll) K (by rw [upsL_len]; exact hKl) (some ⟨ub, uo, none⟩) uc w hs
      have e : gU (upsL ll) (K : Int) = upB ll K := by
        have := gU_at (u := upsL ll) (A := K) (by rw [upsL_len]; exact hKl)
        rw [upsL_at hKl] at this
        injection this with this
        exact this.symm
      rw [e, upsL_len] at this
      have e2 : standB ll K = decide ((K : Int) = 0 ∨ upB ll K ≠ -1) := by
        unfold standB
        rw [Bool.eq_iff_iff]
        simp only [decide_eq_true_eq]
        exact all_up hg K
      rw [e2]
      exact this)
    clear c2 hg hk hs
    go_enter Tryz.func66, Tryz.ntmps66
    go_wp2_with fail
    refine HC.out.mono ?_; rintro e w1 ⟨rfl, rfl⟩
    clear HC
    go_wp2_with fail
    refine HR.out.mono ?_; rintro e w2 ⟨rfl, rfl⟩
    clear HR
    go_wp2_with fail
    go_ret
    exact ⟨rfl, rfl⟩
  · rw [decide_eq_false hk] at HC
    have e : standB ll k = false := by
      unfold standB
      rw [decide_eq_false_iff_not]
      exact fun h => hk (h.num hg)
    rw [e]
    clear c2 hg hk e
    go_enter Tryz.func66, Tryz.ntmps66
    go_wp2_with fail
    refine HC.out.mono ?_; rintro e w1 ⟨rfl, rfl⟩
    clear HC
    go_wp2_with fail
    go_ret
    exact ⟨rfl, rfl⟩
end Go.Proofs.YtmiplohoclckcaaGreat
namespace Go.Proofs.YtmiplohoclckcaaGreat
open Go Go.RowKit
open G (Tok Er Ins Fun)
theorem stand_yes {ll : List (List Int)} {b : Int} (h : All ll b) : standB ll b = true := by unfold standB; simp [h]
theorem stand_no {ll : List (List Int)} {b : Int} (h : ¬ All ll b) : standB ll b = false := by unfold standB; simp [h]
theorem ahd_up {ll : List (List Int)} (hg : Gr ll) {a b : Int} (hb : All ll b) (hd : depthB ll a < depthB ll b) : 0 ≤ upB ll b ∧ upB ll b < ll.length ∧ All ll (upB ll b) ∧ depthB ll (upB ll b) + 1 = depthB ll b ∧ (Ahd ll a (upB ll b) ↔ Ahd ll a b) := by
  have h0 : b ≠ 0 := by rintro rfl; rw [depth_first hg] at hd; omega
  obtain ⟨c, hc⟩ := IsUp.ex hg hb h0
  rw [upB_eq hg hc]
  have hn := hc.2.1.1.num hg
  refine ⟨hn.1, hn.2, hc.2.1.1, hc.2.2, fun h => h.trans hc.2.1, fun h => hc.last hg h ?_⟩
  rintro rfl
  omega
theorem ahd_eq {ll : List (List Int)} (hg : Gr ll) {a b : Int} (hb : All ll b) (hd : ¬ depthB ll a < depthB ll b) : Ahd ll a b ↔ a = b := by
  constructor
  · intro h
    refine Classical.byContradiction fun e => hd (depth_lt hg h e)
  · rintro rfl
    exact Ahd.refl hb
set_option maxHeartbeats 4000000 in
set_option maxRecDepth 20000 in
theorem aheadT_any {ll : List (List Int)} {t ub uo db dd uc dc : Nat} (hg : Gr ll) (a b : Int) (w : World) (h : TreeC w ll ll.length t ub uo db dd uc dc) :
    Calls Tryz.prog 48 #[.pointer (some ⟨t, 0, none⟩), .int .i64 a, .int .i64 b] w fun e w' => e = .returned (.bool (aheadB ll a b)) ∧ Below w.heap.size w w' := by
  have HA := hide (stands_any hg a w h)
  have HB := hide (stands_any hg b w h)
  obtain ⟨r, HR⟩ : ∃ r, Hid (aheadB ll a b = r) := ⟨_, hide rfl⟩
  rw [HR.out]
  by_cases ha : All ll a
  · have e1 : standB ll a = true := stand_yes ha
    rw [e1] at HA
    by_cases hb : All ll b
    · have e2 : standB ll b = true := stand_yes hb
      rw [e2] at HB
      obtain ⟨tl, ul, dl, c1, c2, c3, c4⟩ := h
      obtain ⟨a0, a1⟩ := ha.num hg
      obtain ⟨A, rfl⟩ : ∃ A : Nat, a = (A : Int) := ⟨a.toNat, by omega⟩
      have hAl : A < ll.length := by omega
      have hAI : (A : Int) < ll.length := by omega
      have HU := hide (fun (x : Int) (hx : All ll x) (hd : depthB ll (A : Int) < depthB ll x) => ahd_up hg hx hd)
      have HQ := hide (fun (x : Int) (hx : All ll x) (hd : ¬ depthB ll (A : Int) < depthB ll x) => ahd_eq hg hx hd)
      have HNum := hide (fun (x : Int) (hx : All ll x) => hx.num hg)
      have HRi : Hid (r = true ↔ Ahd ll A b) := hide (by rw [← HR.out]; exact ahead_iff hg _ _)
      have HMx := hide (fun x => depth_max ll x)
      have KB := hide hb
      have C3 := hide c3
      have C4 := hide c4
      clear hg ha hb e1 e2 a0 a1 HR c3 c4
      go_enter Tryz.func48, Tryz.ntmps48
      go_wp2_with fail
      refine HA.out.mono ?_; rintro e w1 ⟨rfl, rfl⟩
      clear HA
      go_wp2_with fail
      refine HB.out.mono ?_; rintro e w2 ⟨rfl, rfl⟩
      clear HB
      go_wp2_with fail
      go_loopw [2] (fun bv wr => ∃ B : Nat, bv = .int .i64 B ∧ Hid (All ll B) ∧ Hid (Ahd ll A B ↔ Ahd ll A b) ∧ Hid (Below w2.heap.size w2 wr)) (fun bv _ => depthB ll (intOf bv))
      case atStart =>
        obtain ⟨b0, b1⟩ := HNum.out b KB.out
        refine ⟨b.toNat, by simp; omega, ?_, ?_, hide (Below.refl _ _)⟩
        · have e : ((b.toNat : Nat) : Int) = b := by omega
          rw [e]; exact KB
        · have e : ((b.toNat : Nat) : Int) = b := by omega
          rw [e]; exact hide Iff.rfl
      case round =>
        clear KB
        obtain ⟨B, rfl, KB, HI, HW⟩ := hrel
        have hBl : B < ll.length := by have := HNum.out _ KB.out; omega
        have hBI : (B : Int) < ll.length := by omega
        have hB2 := fun x => below_step HW.out (L5.grewTo_below wr x)
        have k1 := fun x => ((hB2 x).cell (p := ⟨t, 1, none⟩) tl).trans c2
        have k0 := fun x => ((hB2 x).cell (p := ⟨t, 0, none⟩) tl).trans c1
        have k2 := fun x => ((hB2 x).cell (p := ⟨db, dd + B, none⟩) dl).trans (C4.out B hBl)
        have k3 := fun x => ((hB2 x).cell (p := ⟨db, dd + A, none⟩) dl).trans (C4.out A hAl)
        have k4 := fun x => ((hB2 x).cell (p := ⟨ub, uo + B, none⟩) ul).trans (C3.out B hBl)
        replace hB2 := hide hB2
        by_cases hd : depthB ll (A : Int) < depthB ll (B : Int)
        · have hdI : ((depthB ll (A : Int) : Nat) : Int) < ((depthB ll (B : Int) : Nat) : Int) := by omega
          obtain ⟨u0, u1, u2, u3, u4⟩ := HU.out _ KB.out hd
          obtain ⟨U, hU⟩ : ∃ U : Nat, upB ll (B : Int) = (U : Int) := ⟨(upB ll (B : Int)).toNat, by omega⟩
          simp only [hU] at k4 u0 u1 u2 u3 u4
          have KU := hide u2
          have HU4 := hide (u4.trans HI.out)
          obtain ⟨dA, HdA⟩ : ∃ d, Hid (depthB ll (A : Int) = d) := ⟨_, hide rfl⟩
          obtain ⟨dB, HdB⟩ : ∃ d, Hid (depthB ll (B : Int) = d) := ⟨_, hide rfl⟩
          have hu3 := hide u3
          simp only [HdA.out] at k3 hdI
          simp only [HdB.out] at k2 hdI
          clear hd u0 u1 u2 u3 u4 hU
          go_wp2_with fail
          refine L5.region_grew (by kernel_rfl) (by kernel_rfl) ?_
          repeat (go_big_quiet_step (fail))
          refine wpQuiet_nil ?_
          rintro _ ⟨x, rfl⟩
          go_wp2_with fail
          go_roundw
          case rel => exact ⟨U, rfl, KU, HU4, hide (hB2.out x)⟩
          case measure => have e1 := HdB.out; have e2 := hu3.out; simp [intOf]; omega
        · have hdI : ¬ ((depthB ll (A : Int) : Nat) : Int) < ((depthB ll (B : Int) : Nat) : Int) := by omega
          have hq := HQ.out _ KB.out hd
          have HE : Hid (decide ((A : Int) = (B : Int)) = r) := hide (by
            rw [Bool.eq_iff_iff, decide_eq_true_eq, HRi.out, ← HI.out]
            exact hq.symm)
          obtain ⟨dA, HdA⟩ : ∃ d, Hid (depthB ll (A : Int) = d) := ⟨_, hide rfl⟩
          obtain ⟨dB, HdB⟩ : ∃ d, Hid (depthB ll (B : Int) = d) := ⟨_, hide rfl⟩
          simp only [HdA.out] at k3 hdI
          simp only [HdB.out] at k2 hdI
          clear hd hq
          go_wp2_with fail
          refine L5.region_grew (by kernel_rfl) (by kernel_rfl) ?_
          repeat (go_big_quiet_step (fail))
          refine wpQuiet_nil ?_
          rintro _ ⟨x, rfl⟩
          go_wp2_with fail
          go_ret
          refine ⟨?_, hB2.out x⟩
          rw [← HE.out]
          show Ending.returned (.bool ((A : Int) == (B : Int))) = _
          rfl
    · have e2 : standB ll b = false := stand_no hb
      rw [e2] at HB
      have HE : Hid (r = false) := hide (by rw [← HR.out, ahead_no hg]; exact fun h => hb h.2.1)
      rw [HE.out]
      clear hg ha hb e1 e2 h HR
      go_enter Tryz.func48, Tryz.ntmps48
      go_wp2_with fail
      refine HA.out.mono ?_; rintro e w1 ⟨rfl, rfl⟩
      clear HA
      go_wp2_with fail
      refine HB.out.mono ?_; rintro e w2 ⟨rfl, rfl⟩
      clear HB
      go_wp2_with fail
      go_ret
      exact ⟨rfl, Below.refl _ _⟩
  · have e1 : standB ll a = false := stand_no ha
    rw [e1] at HA
    have HE : Hid (r = false) := hide (by rw [← HR.out, ahead_no hg]; exact fun h => ha h.1)
    rw [HE.out]
    clear hg ha e1 h HR HB
    go_enter Tryz.func48, Tryz.ntmps48
    go_wp2_with fail
    refine HA.out.mono ?_; rintro e w1 ⟨rfl, rfl⟩
    clear HA
    go_wp2_with fail
    go_ret
    exact ⟨rfl, Below.refl _ _⟩
end Go.Proofs.YtmiplohoclckcaaGreat
