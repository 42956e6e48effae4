/- Layer 8: the small check answers true. Layer 8: how great a program is, counted further. -/
import Derived.Test.YtfmeadbiokcboaaDoorMsAG
import Derived.Test.YtfmeadbiokcboaaDoorMsAV
namespace Go.Proofs.YtfmeadbiokcboaaDoor
open Go Go.RowKit
open G (Tok Er Ins Fun)
open Mix (Up)
theorem new_sl (w : World) (l : List Int) (t : TypeId) : Sl (w.alloc (.cells (ints l).toArray t)) (some ⟨w.heap.size, 0, none⟩) l := by
  refine .inr ⟨w.heap.size, 0, rfl, by simp, fun i n hi => ?_⟩
  have h := heap_alloc_new w (.cells (ints l).toArray t)
  have h2 := ints_at hi
  rw [Nat.zero_add]
  simp only [World.cell?, h]
  simpa using h2
def worksF (fv : Value) (t : Tmp) : Up := match t with
  | 23 => Up.eq fv | 25 => Up.eq fv | 27 => Up.eq fv
  | 24 => Up.rows (predsF fFork) | 2 => Up.rows (predsF fFork)
  | 26 => Up.ints (orderF fFork) | 3 => Up.ints (orderF fFork)
  | 28 => Up.pairs (backsF fFork) | 4 => Up.pairs (backsF fFork)
  | _ => Up.any
set_option maxHeartbeats 8000000 in
set_option maxRecDepth 20000 in
theorem works_any (w : World) (ht : Tab w) : Calls Tryd.prog 8 #[] w fun e w' => e = .returned (.bool true) ∧ Below w.heap.size w w' := by
  have hfl : ∀ (a b : Value) (w : World), (Instr.field 33 (.agg #[a, b]) 0).run Tryd.prog w = .ok a w := fun _ _ _ => rfl
  have HT := hide ht
  clear ht
  go_enter Tryd.func8, Tryd.ntmps8
  go_wp2_with fail
  refine (fork_any w).mono ?_; rintro e w1 ⟨v, rfl, hv, b1⟩
  obtain ⟨vp, vb, rfl, ⟨ao, c, rfl, _⟩, ⟨bo, cb, rfl, _⟩⟩ := id hv
  have b2 := below_box w1 (.cells #[.string (bs fFork.1), .slice ao fFork.2.1.length c, .int .i64 fFork.2.2.1, .slice bo fFork.2.2.2.1.length cb, .int .i64 fFork.2.2.2.2] 25)
  have X0 := hide (L5.Box.new w1 [.string (bs [102]), .slice ao 1 c, .int .i64 0, .slice bo 7 cb, .int .i64 0] 25)
  have HV := hide (hv.below b2)
  have HT2 := hide (HT.out.below (below_step b1 b2))
  have HB := hide (below_step b1 b2)
  clear hv b1 b2
  go_upto_region 2 with fail
  show Code.wp _ _ _ _ (w1.alloc (.cells #[.string (bs [102]), .slice ao 1 c, .int .i64 0, .slice bo 7 cb, .int .i64 0] 25))
  replace X0 : Hid (L5.Box (w1.alloc (.cells #[.string (bs [102]), .slice ao 1 c, .int .i64 0, .slice bo 7 cb, .int .i64 0] 25)) w1.heap.size [.string (bs [102]), .slice ao 1 c, .int .i64 0, .slice bo 7 cb, .int .i64 0]) := X0
  replace HV : Hid (FunV (w1.alloc (.cells #[.string (bs [102]), .slice ao 1 c, .int .i64 0, .slice bo 7 cb, .int .i64 0] 25)) fFork (.agg #[.string (bs [102]), .slice ao 1 c, .int .i64 0, .slice bo 7 cb, .int .i64 0])) := HV
  replace HB : Hid (Below w.heap.size w (w1.alloc (.cells #[.string (bs [102]), .slice ao 1 c, .int .i64 0, .slice bo 7 cb, .int .i64 0] 25))) := HB
  replace HT2 : Hid (Tab (w1.alloc (.cells #[.string (bs [102]), .slice ao 1 c, .int .i64 0, .slice bo 7 cb, .int .i64 0] 25))) := HT2
  generalize w1.alloc (.cells #[.string (bs [102]), .slice ao 1 c, .int .i64 0, .slice bo 7 cb, .int .i64 0] 25) = W at *
  generalize w1.heap.size = q at *
  obtain ⟨x0, x1, x2, x3, x4⟩ : _ ∧ _ ∧ _ ∧ _ ∧ _ := ⟨X0.out.2 0 _ rfl, X0.out.2 1 _ rfl, X0.out.2 2 _ rfl, X0.out.2 3 _ rfl, X0.out.2 4 _ rfl⟩
  have HS1 := hide (shaped_any fFork _ W HV.out HT2.out)
  rw [fork_shape] at HS1
  go_wp2_with fail
  refine HS1.out.mono ?_; rintro e w2 ⟨rfl, b2⟩
  have HS2 := hide (shaped_any _ _ w2 (none_val w2) (HT2.out.below b2))
  rw [none_shape] at HS2
  have BW2 := hide b2
  clear x0 x1 x2 x3 x4 b2 HS1
  dsimp only
  go_wp2_with fail
  refine HS2.out.mono ?_; rintro e w3 ⟨rfl, b3⟩
  have BW3 := hide (below_step BW2.out b3)
  clear b3 HS2
  dsimp only
  go_upto_region 4 with fail
  have X3 := hide (X0.out.below BW3.out)
  replace HV := hide (HV.out.below BW3.out)
  replace HT2 := hide (HT2.out.below BW3.out)
  replace HB := hide (below_step HB.out BW3.out)
  clear X0 BW2 BW3
  refine Mix.wp_region_mix (worksF (.agg #[.string (bs [102]), .slice ao 1 c, .int .i64 0, .slice bo 7 cb, .int .i64 0])) (by kernel_rfl) (by kernel_rfl) ?_
  have xs := fun (w : World) (b : Below w3.heap.size w3 w) => And.intro ((X3.out.below b).2 0 _ rfl) (And.intro ((X3.out.below b).2 1 _ rfl) (And.intro ((X3.out.below b).2 2 _ rfl) (And.intro ((X3.out.below b).2 3 _ rfl) ((X3.out.below b).2 4 _ rfl))))
  have CP : ∀ w, Below w3.heap.size w3 w → Calls Tryd.prog 15 #[(.agg #[.string (bs [102]), .slice ao 1 c, .int .i64 0, .slice bo 7 cb, .int .i64 0])] w fun e w' => ∃ v, e = .returned v ∧ Below w.heap.size w w' ∧ RowsV w' (predsF fFork) v := fun w b => (preds_any fFork _ w (HV.out.below b) fork_ful fork_tos).mono fun e w' ⟨v, he, h, b'⟩ => ⟨v, he, b', h.read⟩
  have CO : ∀ w, Below w3.heap.size w3 w → Calls Tryd.prog 18 #[(.agg #[.string (bs [102]), .slice ao 1 c, .int .i64 0, .slice bo 7 cb, .int .i64 0])] w fun e w' => ∃ v, e = .returned v ∧ Below w.heap.size w w' ∧ IntsV w' (orderF fFork) v := fun w b => (orderP_any fFork _ w (HV.out.below b) fork_ful fork_tos (by decide)).mono fun e w' ⟨v, he, h, b'⟩ => ⟨v, he, b', ints_of h⟩
  have CB : ∀ w, Below w3.heap.size w3 w → Calls Tryd.prog 22 #[(.agg #[.string (bs [102]), .slice ao 1 c, .int .i64 0, .slice bo 7 cb, .int .i64 0])] w fun e w' => ∃ v, e = .returned v ∧ Below w.heap.size w w' ∧ PairsV w' (backsF fFork) v := fun w b => (backsP_any fFork _ w (HV.out.below b) fork_ful fork_tos (by decide)).mono fun e w' ⟨v, he, h, b'⟩ => ⟨v, he, b', pairs_read h⟩
  refine Mix.mix_step rfl (valid_eq (.agg #[.string (bs [102]), .slice ao 1 c, .int .i64 0, .slice bo 7 cb, .int .i64 0]) rfl) ?_ ?_
  · intro w b k
    obtain ⟨x0, x1, x2, x3, x4⟩ := xs w b
    clear k
    simp [go_sem, x0, x1, x2, x3, x4]
    exact ⟨Below.refl _ _, fun d hd => by cases hd; rfl⟩
  rintro v ⟨_, _, h⟩
  obtain rfl : v = (.agg #[.string (bs [102]), .slice ao 1 c, .int .i64 0, .slice bo 7 cb, .int .i64 0]) := h _ rfl
  clear h
  simp only [Act.put, List.setIfInBounds_toArray, List.set_cons_succ, List.set_cons_zero]
  refine Mix.mix_step rfl (valid_of (CP w3 (Below.refl _ _))) ?_ ?_
  · intro w b k
    clear k
    simp [go_sem]
    exact Calls.mono (CP w b) fun e w' ⟨v, he, hb, hf⟩ => ⟨v, he, hb, fun d hd => by cases hd; exact hf⟩
  rintro p24 -
  simp only [Act.put, List.setIfInBounds_toArray, List.set_cons_succ, List.set_cons_zero]
  refine Mix.mix_step rfl (valid_eq (.agg #[.string (bs [102]), .slice ao 1 c, .int .i64 0, .slice bo 7 cb, .int .i64 0]) rfl) ?_ ?_
  · intro w b k
    obtain ⟨x0, x1, x2, x3, x4⟩ := xs w b
    clear k
    simp [go_sem, x0, x1, x2, x3, x4]
    exact ⟨Below.refl _ _, fun d hd => by cases hd; rfl⟩
  rintro v ⟨_, _, h⟩
  obtain rfl : v = (.agg #[.string (bs [102]), .slice ao 1 c, .int .i64 0, .slice bo 7 cb, .int .i64 0]) := h _ rfl
  clear h
  simp only [Act.put, List.setIfInBounds_toArray, List.set_cons_succ, List.set_cons_zero]
  refine Mix.mix_step rfl (valid_of (CO w3 (Below.refl _ _))) ?_ ?_
  · intro w b k
    clear k
    simp [go_sem]
    exact Calls.mono (CO w b) fun e w' ⟨v, he, hb, hf⟩ => ⟨v, he, hb, fun d hd => by cases hd; exact hf⟩
  rintro p26 -
  simp only [Act.put, List.setIfInBounds_toArray, List.set_cons_succ, List.set_cons_zero]
  refine Mix.mix_step rfl (valid_eq (.agg #[.string (bs [102]), .slice ao 1 c, .int .i64 0, .slice bo 7 cb, .int .i64 0]) rfl) ?_ ?_
  · intro w b k
    obtain ⟨x0, x1, x2, x3, x4⟩ := xs w b
    clear k
    simp [go_sem, x0, x1, x2, x3, x4]
    exact ⟨Below.refl _ _, fun d hd => by cases hd; rfl⟩
  rintro v ⟨_, _, h⟩
  obtain rfl : v = (.agg #[.string (bs [102]), .slice ao 1 c, .int .i64 0, .slice bo 7 cb, .int .i64 0]) := h _ rfl
  clear h
  simp only [Act.put, List.setIfInBounds_toArray, List.set_cons_succ, List.set_cons_zero]
  refine Mix.mix_step rfl (valid_of (CB w3 (Below.refl _ _))) ?_ ?_
  · intro w b k
    clear k
    simp [go_sem]
    exact Calls.mono (CB w b) fun e w' ⟨v, he, hb, hf⟩ => ⟨v, he, hb, fun d hd => by cases hd; exact hf⟩
  rintro p28 -
  simp only [Act.put, List.setIfInBounds_toArray, List.set_cons_succ, List.set_cons_zero]
  refine Mix.mix_step rfl (valid_of (CP w3 (Below.refl _ _))) ?_ ?_
  · intro w b k
    have f : RowsV w (predsF fFork) p24 := k 24 (by simp [Oper.looksAt, Op.operands]) (by simp [Mix.add]) p24 rfl
    clear k
    simp [go_sem]
    exact ⟨Below.refl _ _, fun d hd => by cases hd; exact f⟩
  rintro p2 -
  simp only [Act.put, List.setIfInBounds_toArray, List.set_cons_succ, List.set_cons_zero]
  refine Mix.mix_step rfl (valid_of (CO w3 (Below.refl _ _))) ?_ ?_
  · intro w b k
    have f : IntsV w (orderF fFork) p26 := k 26 (by simp [Oper.looksAt, Op.operands]) (by simp [Mix.add]) p26 rfl
    clear k
    simp [go_sem]
    exact ⟨Below.refl _ _, fun d hd => by cases hd; exact f⟩
  rintro p3 -
  simp only [Act.put, List.setIfInBounds_toArray, List.set_cons_succ, List.set_cons_zero]
  refine Mix.mix_step rfl (valid_of (CB w3 (Below.refl _ _))) ?_ ?_
  · intro w b k
    have f : PairsV w (backsF fFork) p28 := k 28 (by simp [Oper.looksAt, Op.operands]) (by simp [Mix.add]) p28 rfl
    clear k
    simp [go_sem]
    exact ⟨Below.refl _ _, fun d hd => by cases hd; exact f⟩
  rintro p4 -
  simp only [Act.put, List.setIfInBounds_toArray, List.set_cons_succ, List.set_cons_zero]
  refine Mix.mix_nil ?_
  intro w4 b4 hk
  have f2 : RowsV w4 (predsF fFork) p2 := hk 2 (by simp [Mix.add]) p2 rfl
  have f3 : IntsV w4 (orderF fFork) p3 := hk 3 (by simp [Mix.add]) p3 rfl
  have f4 : PairsV w4 (backsF fFork) p4 := hk 4 (by simp [Mix.add]) p4 rfl
  clear hk
  rw [fork_preds] at f2
  rw [fork_order] at f3
  rw [fork_backs] at f4
  obtain ⟨po, pc, rfl, pr, _⟩ := f2
  obtain ⟨oo, oc, rfl, os, _⟩ := f3
  obtain ⟨bo4, bc4, rfl, br, _⟩ := f4
  rcases pr with pr | ⟨pb, po2, rfl, pl, pr⟩
  · cases pr
  obtain ⟨u1, pu, lo1, lc1, rfl, ls1, _⟩ := pr 1 [0, 4] rfl
  rcases br with br | ⟨bb, rfl, bl, br⟩
  · cases br
  obtain ⟨y0, y1⟩ := br 0 (4, 1) rfl
  obtain ⟨x0, x1, x2, x3, x4⟩ := xs w4 b4
  have HC := hide (succs_any fFork _ w4 (HV.out.below b4) fork_ful fork_tos)
  have HOs := hide os
  have HL1 := hide ls1
  have HPu := hide pu
  have HY := hide (And.intro y0 y1)
  have HB4 := hide (below_step HB.out b4)
  have HV4 := hide (HV.out.below b4)
  have hpl := pl
  have hbl := bl
  have X4 := hide (X3.out.below b4)
  clear pr br os ls1 pu y0 y1 CP CO CB xs HV HT2 HB b4 X3 pl bl
  go_wp2_with fail
  refine HC.out.mono ?_; rintro e w5 ⟨sv, rfl, hs5, b5⟩
  obtain ⟨so, sc, rfl, hsr⟩ := succs_read hs5
  rw [fork_succs] at hsr
  have HSR := hide hsr
  have B5 := hide b5
  have hbx := below_box w5 (.cells #[.int .i64 0] 3)
  have HRe : Hid (Calls Tryd.prog 24 #[.slice so 7 sc, .slice (some ⟨w5.heap.size, 0, none⟩) 1 1, .int .i64 1] (w5.alloc (.cells #[.int .i64 0] 3)) fun e w' => ∃ g, e = .returned (.slice (some ⟨g, 0, none⟩) 7 7) ∧ RowAt w' (w5.alloc (.cells #[.int .i64 0] 3)).heap.size 4 g 7 (bools [true, false, false, false, false, false, false]) ∧ Below (w5.alloc (.cells #[.int .i64 0] 3)).heap.size (w5.alloc (.cells #[.int .i64 0] 3)) w') := hide (by
    have h := reached_any [[1], [2, 3], [4], [4], [1, 5], [], []] [0] 1 so (some ⟨w5.heap.size, 0, none⟩) sc 1 (w5.alloc (.cells #[.int .i64 0] 3)) (hsr.below hbx) (.inr ⟨w5.heap.size, 0, rfl, by simp, fun i n hi => by
      match i, hi with
      | 0, hi => simp at hi; subst hi; simp⟩) (by decide) (by decide) (by unfold Num; decide) (by unfold Num; decide) (by decide)
    have e : bitsOf ([[1], [2, 3], [4], [4], [1, 5], [], []] : List (List Int)).length (metE [[1], [2, 3], [4], [4], [1, 5], [], []] [0] 1) = [true, false, false, false, false, false, false] := fork_reached
    rw [e] at h
    exact h)
  have HB5 := hide (below_step b5 hbx)
  clear hsr hs5 HC hbx b5 x0 x1 x2 x3 x4
  go_wp2_with fail
  refine HRe.out.mono ?_; rintro e w6 ⟨g, rfl, hr6, b6⟩
  have B6 := hide (below_step HB5.out b6)
  have HR6 := hide hr6
  have HI1 : Hid (Calls Tryd.prog 17 #[.slice lo1 2 lc1, .slice (some ⟨w6.heap.size, 0, none⟩) 2 2] (w6.alloc (.cells #[.int .i64 0, .int .i64 4] 3)) fun e w' => e = .returned (.bool true) ∧ Below (w6.alloc (.cells #[.int .i64 0, .int .i64 4] 3)).heap.size (w6.alloc (.cells #[.int .i64 0, .int .i64 4] 3)) w') := hide (rints_same [0, 4] lo1 _ lc1 2 _ (by decide) (HL1.out.below (below_step B6.out (below_box _ _))) (new_sl w6 [0, 4] 3))
  have p1 := (B6.out.cell (p := ⟨pb, po2 + 1, none⟩) hpl).trans HPu.out
  clear hr6 b6 HRe HB5 HL1 HPu
  go_wp2_with fail
  refine HI1.out.mono ?_; rintro e w7 ⟨rfl, b7⟩
  have B7 := hide (below_step (below_box w6 (.cells #[.int .i64 0, .int .i64 4] 3)) b7)
  have HI2 : Hid (Calls Tryd.prog 17 #[.slice oo 6 oc, .slice (some ⟨w7.heap.size, 0, none⟩) 6 6] (w7.alloc (.cells #[.int .i64 0, .int .i64 1, .int .i64 3, .int .i64 2, .int .i64 4, .int .i64 5] 3)) fun e w' => e = .returned (.bool true) ∧ Below (w7.alloc (.cells #[.int .i64 0, .int .i64 1, .int .i64 3, .int .i64 2, .int .i64 4, .int .i64 5] 3)).heap.size (w7.alloc (.cells #[.int .i64 0, .int .i64 1, .int .i64 3, .int .i64 2, .int .i64 4, .int .i64 5] 3)) w') := hide (rints_same [0, 1, 3, 2, 4, 5] oo _ oc 6 _ (by decide) (HOs.out.below (below_step (below_step B6.out B7.out) (below_box _ _))) (new_sl w7 [0, 1, 3, 2, 4, 5] 3))
  clear b7 HI1 p1
  go_wp2_with fail
  refine HI2.out.mono ?_; rintro e w8 ⟨rfl, b8⟩
  have B8 := hide (below_step B7.out (below_step (below_box w7 (.cells #[.int .i64 0, .int .i64 1, .int .i64 3, .int .i64 2, .int .i64 4, .int .i64 5] 3)) b8))
  have B48 := hide (below_step B6.out B8.out)
  have y0 := (B48.out.cell (p := ⟨bb, 0 * 2, none⟩) hbl).trans HY.out.1
  have y1 := (B48.out.cell (p := ⟨bb, 0 * 2 + 1, none⟩) hbl).trans HY.out.2
  simp only [Nat.zero_mul, Nat.zero_add] at y0 y1
  have r0 := (HR6.out.below B8.out).cell (j := 0) (u := .bool true) rfl
  have r4 := (HR6.out.below B8.out).cell (j := 4) (u := .bool false) rfl
  obtain ⟨x0, x1, x2, x3, x4⟩ : _ ∧ _ ∧ _ ∧ _ ∧ _ := ⟨(X4.out.below B48.out).2 0 _ rfl, (X4.out.below B48.out).2 1 _ rfl, (X4.out.below B48.out).2 2 _ rfl, (X4.out.below B48.out).2 3 _ rfl, (X4.out.below B48.out).2 4 _ rfl⟩
  have HP := hide (placesP_any fFork _ w8 (HV4.out.below B48.out) fork_ful fork_tos (by decide))
  rw [fork_places] at HP
  have hq := eq_pair 4 1 4 1
  clear b8 HI2 HR6 HY
  go_wp2_with fail
  refine HP.out.mono ?_; rintro e w9 ⟨gp, rfl, hp9, b9⟩
  have HI3 : Hid (Calls Tryd.prog 17 #[.slice (some ⟨gp, 0, none⟩) 7 7, .slice (some ⟨w9.heap.size, 0, none⟩) 7 7] (w9.alloc (.cells #[.int .i64 0, .int .i64 1, .int .i64 3, .int .i64 2, .int .i64 4, .int .i64 5, .int .i64 (-1)] 3)) fun e w' => e = .returned (.bool true) ∧ Below (w9.alloc (.cells #[.int .i64 0, .int .i64 1, .int .i64 3, .int .i64 2, .int .i64 4, .int .i64 5, .int .i64 (-1)] 3)).heap.size (w9.alloc (.cells #[.int .i64 0, .int .i64 1, .int .i64 3, .int .i64 2, .int .i64 4, .int .i64 5, .int .i64 (-1)] 3)) w') := hide (by
    obtain ⟨ao', c', e', s1, _⟩ := ints_of (l := [0, 1, 3, 2, 4, 5, -1]) (hp9.below (below_box w9 (.cells #[.int .i64 0, .int .i64 1, .int .i64 3, .int .i64 2, .int .i64 4, .int .i64 5, .int .i64 (-1)] 3)))
    injection e' with e1 e2 e3
    subst e1 e3
    exact rints_same [0, 1, 3, 2, 4, 5, -1] _ _ 7 7 _ (by decide) s1 (new_sl w9 [0, 1, 3, 2, 4, 5, -1] 3))
  have B9 := hide (below_step HB4.out (below_step B48.out (below_step b9 (below_box w9 (.cells #[.int .i64 0, .int .i64 1, .int .i64 3, .int .i64 2, .int .i64 4, .int .i64 5, .int .i64 (-1)] 3)))))
  clear hp9 b9 HP x0 x1 x2 x3 x4 y0 y1 r0 r4
  go_wp2_with fail
  refine HI3.out.mono ?_; rintro e wA ⟨rfl, bA⟩
  have HE := hide (below_step B9.out bA)
  clear bA HI3
  go_wp2_with fail
  go_ret
  exact ⟨rfl, HE.out⟩
end Go.Proofs.YtfmeadbiokcboaaDoor
namespace Go.Proofs.YtfmeadbiokcboaaDoor
open Go Go.RowKit
open G (Tok Er Ins Fun)
/-- A count is what is told so far, or it is too great, and so is the whole. -/
def Cnt3 (p : List Fun) (n a : Nat) : Prop := n = a ∨ (300 < n ∧ 300 < total p)
set_option maxHeartbeats 8000000 in
set_option maxRecDepth 20000 in
theorem size3_try (p : List Fun) (ao : Option Addr) (c : Nat) (w : World) (hp : ProgR w p (.slice ao p.length c)) (h0 : p.length ≤ 140737488355328) (hS : ∀ f ∈ p, ShF f) :
    Calls Tryd.prog 7 #[.agg #[.slice ao p.length c], .int .i64 300] w fun e w' => (∃ n : Nat, e = .returned (.int .i64 n) ∧ Cnt3 p n (total p)) ∧ Below w.heap.size w w' := by
  have b0 := below_box w (.cells #[.slice ao p.length c] 29)
  have H0 := hide (heap_alloc_new w (.cells #[.slice ao p.length c] 29))
  have hz0 : (w.alloc (.cells #[.slice ao p.length c] 29)).heap.size > w.heap.size := by simp
  have B0 := hide b0
  have HP := hide (hp.below b0)
  have HS := hide hS
  clear b0 hp hS
  go_enter Tryd.func7, Tryd.ntmps7
  go_upto_region 1 with fail
  show Code.wp _ _ _ _ (w.alloc (.cells #[.slice ao p.length c] 29))
  generalize w.alloc (.cells #[.slice ao p.length c] 29) = W at *
  have c0 := cell9 H0.out
  go_wp2_with fail
  clear c0
  go_loopw [5, 6] (fun nv i wr => ∃ (n K : Nat), n ≤ 1000000000000000 ∧ nv = .int .i64 n ∧ K ≤ p.length ∧ i = .int .i64 K ∧ Hid (Cnt3 p n (p.length + wFs (p.take K))) ∧ Hid (Below W.heap.size W wr)) (fun _ i _ => p.length - (intOf i).toNat)
  case atStart => exact ⟨p.length, 0, by omega, rfl, Nat.zero_le _, rfl, hide (.inl (by simp [wFs])), hide (Below.refl _ _)⟩
  case round =>
    obtain ⟨n, K, hn, rfl, hK, rfl, HC, HW⟩ := hrel
    have c0 := cell9 ((HW.out.block _ hz0).trans H0.out)
    by_cases hkt : K < p.length
    · have hkI : (K : Int) < p.length := by omega
      by_cases h300 : n ≤ 300
      · obtain ⟨f, hfK⟩ : ∃ f, p[K]? = some f := ⟨p[K], List.getElem?_eq_some_iff.2 ⟨hkt, rfl⟩⟩
        have h300' : (n : Int) ≤ 300 := by omega
        have HN : Hid (n = p.length + wFs (p.take K)) := hide (by rcases HC.out with h | h; exact h; omega)
        have HT := hide (sum_take wF p K f hfK)
        have HTL := hide (sum_le wF p (K + 1))
        obtain ⟨ao', c', eq', hh1, hh2, hh3⟩ := HP.out
        injection eq' with e1 e2 e3
        subst e1 e3
        rcases hh3 with hh3 | ⟨gb, ob, rfl, hin⟩
        · subst hh3; simp at hkt
        obtain ⟨aoy, boy, cy, cby, hv, q0, q1, q2, q3, q4⟩ := ((hin K f hfK).below HW.out).val
        have HV := hide hv
        obtain ⟨s1, s2, s3, s4⟩ := HS.out f (List.mem_of_getElem? hfK)
        have HSf := hide s4
        obtain ⟨nm, ps, rt, bl, pl⟩ := f
        dsimp only at HV q0 q1 q2 q3 q4 s1 s2 s3 HSf
        have HBL : Hid (BlksR wr bl (.slice boy bl.length cby)) := hide (by
          obtain ⟨vp, vb, e, _, h2⟩ := HV.out
          injection e with e
          have e2 := congrArg (fun a => a[3]?) e
          simp at e2
          rw [e2]; exact h2)
        have hnz : (bs nm).size = nm.length := bs_size nm
        have HNZ := hide hnz
        clear hin hfK hv hnz s4
        have B7 := hide (below_box wr (.cells #[.string (bs nm), .slice aoy ps.length cy, .int .i64 rt, .slice boy bl.length cby, .int .i64 pl] 25))
        have H7 := hide (heap_alloc_new wr (.cells #[.string (bs nm), .slice aoy ps.length cy, .int .i64 rt, .slice boy bl.length cby, .int .i64 pl] 25))
        have hl7 := hide (Array.getElem?_eq_some_iff.1 H7.out).1
        obtain ⟨t0, t1, t2, t3, t4⟩ := box5 H7.out
        have hnb : (bs nm).size ≤ 140737488355328 := by rw [HNZ.out]; exact s1
        have HW7 := hide (below_step HW.out B7.out)
        have HBL7 := hide (HBL.out.below B7.out)
        have HQ : Hid (((n : Int) + (bl.length : Int) + (ps.length : Int) + ((bs nm).size : Int) / 30) = ((n + bl.length + ps.length + nm.length / 30 : Nat) : Int)) := hide (by rw [HNZ.out]; omega)
        have HCF : Hid (Cnt3 p (n + bl.length + ps.length + nm.length / 30) (p.length + wFs (p.take K) + wF0 (nm, ps, rt, bl, pl) + wBs (bl.take 0))) := hide (.inl (by have := HN.out; simp only [wF0, wBs, List.take_zero, List.map_nil, List.sum_nil]; omega))
        have hnn : n + bl.length + ps.length + nm.length / 30 ≤ 1000000000000000 := by omega
        clear HBL
        go_wp2_with fail
        clear t0 t1 t2 t3 t4 q0 q1 q2 q3 q4 c0 hnb
        obtain ⟨w0, hw0⟩ : ∃ w0, w0 = wr.alloc (.cells #[.string (bs nm), .slice aoy ps.length cy, .int .i64 rt, .slice boy bl.length cby, .int .i64 pl] 25) := ⟨_, rfl⟩
        rw [← hw0] at H7 HW7 HBL7 hl7 ⊢
        clear hw0 B7
        obtain ⟨n1, hn1⟩ : ∃ n1, n1 = n + bl.length + ps.length + nm.length / 30 := ⟨_, rfl⟩
        rw [← hn1] at HQ HCF hnn
        clear hn1
        go_loopw [5, 8] (fun nv i wr' => ∃ (n A : Nat), n ≤ 1000000000000000 ∧ nv = .int .i64 n ∧ A ≤ bl.length ∧ i = .int .i64 A ∧ Hid (Cnt3 p n (p.length + wFs (p.take K) + wF0 (nm, ps, rt, bl, pl) + wBs (bl.take A))) ∧ Hid (Below w0.heap.size w0 wr')) (fun _ i _ => bl.length - (intOf i).toNat)
        case atStart => exact ⟨n1, 0, hnn, by rw [HQ.out], Nat.zero_le _, rfl, HCF, hide (Below.refl _ _)⟩
        case round =>
          obtain ⟨n2, A, hn2, rfl, hA, rfl, HCA, HWA⟩ := hrel
          obtain ⟨t0, t1, t2, t3, t4⟩ := box5 ((HWA.out.block _ hl7.out).trans H7.out)
          clear t0 t1 t2 t4
          obtain ⟨ao2, c2', eq2, hh1, hh2, hh3⟩ := HBL7.out
          injection eq2 with e1 e2 e3
          subst e1 e3
          unfold maxLen at hh2
          by_cases hat : A < bl.length
          · have haI : (A : Int) < bl.length := by omega
            by_cases h300a : n2 ≤ 300
            · have h300a' : (n2 : Int) ≤ 300 := by omega
              have HN2 : Hid (n2 = p.length + wFs (p.take K) + wF0 (nm, ps, rt, bl, pl) + wBs (bl.take A)) := hide (by rcases HCA.out with h | h; exact h; omega)
              obtain ⟨b, hbA⟩ : ∃ b, bl[A]? = some b := ⟨bl[A], List.getElem?_eq_some_iff.2 ⟨hat, rfl⟩⟩
              have HTA := hide (sum_take wB bl A b hbA)
              have HTLA := hide (sum_le wB bl (A + 1))
              rcases hh3 with hh3 | ⟨gc, oc, rfl, hgc, hbl⟩
              · subst hh3; simp at hat
              obtain ⟨vk, kd, kk⟩ := hbl A b hbA
              have KD := hide kd
              obtain ⟨aok, capk, rfl, lk1, lk2, kins⟩ := kk
              have HSb := hide (HSf.out b (List.mem_of_getElem? hbA))
              have KI := hide kins
              have HCB : Hid (Cnt3 p n2 (p.length + wFs (p.take K) + wF0 (nm, ps, rt, bl, pl) + wBs (bl.take A) + wB (b.take 0))) := hide (.inl (by have := HN2.out; simp only [wB, List.take_zero, List.map_nil, List.sum_nil]; omega))
              unfold maxLen at lk2
              clear kins kd hbl hbA HCA
              go_wp2_with fail
              clear t3
              go_loopw [5, 9] (fun nv i wr'' => ∃ (n J : Nat), n ≤ 1000000000000000 ∧ nv = .int .i64 n ∧ J ≤ b.length ∧ i = .int .i64 J ∧ Hid (Cnt3 p n (p.length + wFs (p.take K) + wF0 (nm, ps, rt, bl, pl) + wBs (bl.take A) + wB (b.take J))) ∧ Hid (Below w0.heap.size w0 wr'')) (fun _ i _ => b.length - (intOf i).toNat)
              case atStart => exact ⟨n2, 0, hn2, rfl, Nat.zero_le _, rfl, HCB, HWA⟩
              case round =>
                obtain ⟨n3, J, hn3, rfl, hJ, rfl, HCJ, HWJ⟩ := hrel
                obtain ⟨t0, t1, t2, t3, t4⟩ := box5 ((HWJ.out.block _ hl7.out).trans H7.out)
                clear t0 t1 t2 t4
                have kd' := (HWJ.out.cell (p := ⟨gc, oc + A, none⟩) hgc).trans KD.out
                have GREAT : Hid (300 < n3 → Cnt3 p n3 (p.length + wFs (p.take K) + wF0 (nm, ps, rt, bl, pl) + wBs (bl.take (A + 1)))) := hide fun h => by
                  rcases HCJ.out with h2 | h2
                  · have g1 := HT.out
                    have g2 := HTL.out
                    have g3 := HTA.out
                    have g4 := sum_le wI b J
                    have g5 := HTLA.out
                    refine .inr ⟨h, ?_⟩
                    unfold total wFs at *
                    unfold wF wBs wB at *
                    dsimp only at g1
                    omega
                  · exact .inr h2
                by_cases hjt : J < b.length
                · have hjI : (J : Int) < b.length := by omega
                  by_cases h300b : n3 ≤ 300
                  · have h300b' : (n3 : Int) ≤ 300 := by omega
                    have HN3 : Hid (n3 = p.length + wFs (p.take K) + wF0 (nm, ps, rt, bl, pl) + wBs (bl.take A) + wB (b.take J)) := hide (by rcases HCJ.out with h | h; exact h; omega)
                    obtain ⟨y, hyJ⟩ : ∃ y, b[J]? = some y := ⟨b[J], List.getElem?_eq_some_iff.2 ⟨hjt, rfl⟩⟩
                    have HTJ := hide (sum_take wI b J y hyJ)
                    rcases KI.out with hh | ⟨gi, oi, rfl, hin⟩
                    · subst hh; simp at hjt
                    obtain ⟨aoz, toz, caz, ctz, hv, r0, r1, r2, r3, r4, r5, r6, r7⟩ := ((hin J y hyJ).below HWJ.out).val
                    obtain ⟨v1, v2, v3⟩ := HSb.out y (List.mem_of_getElem? hyJ)
                    obtain ⟨op, id, nn, ty, ar, tt, na, pp⟩ := y
                    dsimp only at v1 v2 v3 r0 r1 r2 r3 r4 r5 r6 r7
                    have HNA := hide (bs_size na)
                    have hnab : (bs na).size ≤ 140737488355328 := by rw [HNA.out]; exact v3
                    have HQ3 : Hid (((n3 : Int) + 1 + (ar.length : Int) / 4 + (tt.length : Int) / 4 + ((bs na).size : Int) / 30) = ((n3 + 1 + ar.length / 4 + tt.length / 4 + na.length / 30 : Nat) : Int)) := hide (by rw [HNA.out]; omega)
                    have HC3 : Hid (Cnt3 p (n3 + 1 + ar.length / 4 + tt.length / 4 + na.length / 30) (p.length + wFs (p.take K) + wF0 (nm, ps, rt, bl, pl) + wBs (bl.take A) + wB (b.take (J + 1)))) := hide (.inl (by
                      have g1 := HN3.out
                      have g2 := HTJ.out
                      have g3 : wI (op, id, nn, ty, ar, tt, na, pp) = 1 + ar.length / 4 + tt.length / 4 + na.length / 30 := rfl
                      rw [g3] at g2
                      unfold wB at *
                      omega))
                    have hn4 : n3 + 1 + ar.length / 4 + tt.length / 4 + na.length / 30 ≤ 1000000000000000 := by omega
                    obtain ⟨x0, x1, x2, x3, x4, x5, x6, x7⟩ := box8 (heap_alloc_new wr (.cells #[.int .i64 op, .int .i64 id, .int .i64 nn, .int .i64 ty, .slice aoz ar.length caz, .slice toz tt.length ctz, .string (bs na), .int .i64 pp] 53))
                    have HW9 := hide (below_step HWJ.out (below_box wr (.cells #[.int .i64 op, .int .i64 id, .int .i64 nn, .int .i64 ty, .slice aoz ar.length caz, .slice toz tt.length ctz, .string (bs na), .int .i64 pp] 53)))
                    clear hin hyJ hv
                    go_wp2_with fail
                    go_roundw
                    case rel => exact ⟨_, J + 1, hn4, by rw [HQ3.out], by omega, by go_num, HC3, HW9⟩
                    case measure => simp [intOf]; omega
                  · have h300b' : ¬ (n3 : Int) ≤ 300 := by omega
                    have HE := hide (GREAT.out (by omega))
                    go_wp2_with fail
                    go_roundw
                    case rel => exact ⟨n3, A + 1, hn3, rfl, by omega, by go_num, HE, HWJ⟩
                    case measure => simp [intOf]; omega
                · obtain rfl : J = b.length := by omega
                  have HE : Hid (Cnt3 p n3 (p.length + wFs (p.take K) + wF0 (nm, ps, rt, bl, pl) + wBs (bl.take (A + 1)))) := hide (by
                    have h2 := HCJ.out
                    rw [List.take_length] at h2
                    have g3 := HTA.out
                    have e : wBs (bl.take (A + 1)) = wBs (bl.take A) + wB b := g3
                    rw [e, ← Nat.add_assoc]
                    exact h2)
                  go_wp2_with fail
                  go_roundw
                  case rel => exact ⟨n3, A + 1, hn3, rfl, by omega, by go_num, HE, HWJ⟩
                  case measure => simp [intOf]; omega
            · have h300a' : ¬ (n2 : Int) ≤ 300 := by omega
              have HE : Hid (Cnt3 p n2 (p.length + wFs (p.take (K + 1)))) := hide (by
                rcases HCA.out with h2 | h2
                · have g1 := HT.out
                  have g2 := HTL.out
                  have g3 := sum_le wB bl A
                  refine .inr ⟨by omega, ?_⟩
                  unfold total wFs at *
                  unfold wF wBs at *
                  dsimp only at g1
                  omega
                · exact .inr h2)
              have HWF := hide (below_step HW7.out HWA.out)
              go_wp2_with fail
              go_roundw
              case rel => exact ⟨n2, K + 1, hn2, rfl, by omega, by go_num, HE, HWF⟩
              case measure => simp [intOf]; omega
          · obtain rfl : A = bl.length := by omega
            have HE : Hid (Cnt3 p n2 (p.length + wFs (p.take (K + 1)))) := hide (by
              have h2 := HCA.out
              rw [List.take_length] at h2
              have g1 := HT.out
              have e : wFs (p.take (K + 1)) = wFs (p.take K) + (wF0 (nm, ps, rt, bl, pl) + wBs bl) := g1
              rw [e, ← Nat.add_assoc, ← Nat.add_assoc]
              exact h2)
            have HWF := hide (below_step HW7.out HWA.out)
            go_wp2_with fail
            go_roundw
            case rel => exact ⟨n2, K + 1, hn2, rfl, by omega, by go_num, HE, HWF⟩
            case measure => simp [intOf]; omega
      · have h300' : ¬ (n : Int) ≤ 300 := by omega
        have HE : Hid (Cnt3 p n (total p)) := hide (by
          rcases HC.out with h | h
          · have := sum_le wF p K
            exact .inr ⟨by omega, by unfold total wFs at *; omega⟩
          · exact .inr h)
        go_wp2_with fail
        go_ret
        exact ⟨⟨n, rfl, HE.out⟩, below_step B0.out HW.out⟩
    · obtain rfl : K = p.length := by omega
      have HE : Hid (Cnt3 p n (total p)) := hide (by have := HC.out; rwa [List.take_length] at this)
      go_wp2_with fail
      go_ret
      exact ⟨⟨n, rfl, HE.out⟩, below_step B0.out HW.out⟩
end Go.Proofs.YtfmeadbiokcboaaDoor
