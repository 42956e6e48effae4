/- Layer 8: the small check. Layer 8: pairs and errors, one held against another. Layer 8: the small check answers true. A program, and an instruction, that came in: which functions, blocks and instructions they hold. A function that comes in, opened, with its blocks' lengths. -/
import Derived.Test.YtfmeadbiokcboaaDoorMoAG
import Derived.Test.YtfmeadbiokcboaaDoorMoAH
import Derived.Test.YtfmeadbiokcboaaDoorMoAO
import Derived.Test.YtfmeadbiokcboaaDoorMoAV
import Derived.ChangeKeysEq
import Derived.Deep.Slices
import Derived.SizedLaws
import Derived.KernelRfl
namespace Go.Proofs.YtfmeadbiokcboaaDoor
open Go Go.RowKit
open G (Tok Er Ins Fun)
open Mix (Up)
theorem fork_shape : shapedF fFork = (0, 0) := by decide +kernel
theorem none_shape : shapedF ([], [], 0, [], 0) = (15, 0) := by decide +kernel
theorem fork_ful : Ful fFork := by
  refine ⟨by decide, ?_⟩
  have h : ∀ b ∈ fFork.2.2.2.1, b ≠ [] ∧ ∀ x ∈ b, x.2.2.2.2.2.1.length ≤ 2 := by decide +kernel
  exact fun b hb => ⟨(h b hb).1, fun x hx => Nat.le_trans ((h b hb).2 x hx) (by omega)⟩
theorem fork_tos : Tos fFork := by
  intro j
  by_cases hj : j < 7
  · have h : ∀ j, j < 7 → ∀ m ∈ nextF fFork j, 0 ≤ m ∧ m < (7 : Int) := by decide +kernel
    exact h j hj
  · have e : nextF fFork j = [] := by
      unfold nextF
      rw [List.getD_eq_getElem?_getD, List.getElem?_eq_none (by show bFork.length ≤ j; simp only [bFork, List.length_cons, List.length_nil]; omega)]; rfl
    rw [e]
    intro m hm
    cases hm
theorem fork_preds : predsF fFork = [[], [0, 4], [1], [1], [2, 3], [4], []] := by decide +kernel
theorem fork_order : orderF fFork = [0, 1, 3, 2, 4, 5] := by decide +kernel
theorem fork_backs : backsF fFork = [(4, 1)] := by decide +kernel
theorem fork_places : placesF fFork = [0, 1, 3, 2, 4, 5, -1] := by decide +kernel
theorem fork_succs : succsF fFork = [[1], [2, 3], [4], [4], [1, 5], [], []] := by decide +kernel
theorem fork_reached : bitsOf 7 (metE [[1], [2, 3], [4], [4], [1, 5], [], []] [0] 1) = [true, false, false, false, false, false, false] := by decide +kernel
theorem none_val (w : World) : FunV w ([], [], 0, [], 0) (.agg #[.string ⟨#[]⟩, .slice none 0 0, .int .i64 0, .slice none 0 0, .int .i64 0]) :=
  ⟨.slice none 0 0, .slice none 0 0, rfl, ⟨none, 0, rfl, .inl rfl, Nat.le_refl _, Nat.zero_le _⟩, ⟨none, 0, rfl, Nat.le_refl _, Nat.zero_le _, .inl rfl⟩⟩
end Go.Proofs.YtfmeadbiokcboaaDoor
namespace Go.Proofs.YtfmeadbiokcboaaDoor
open Go Go.RowKit
set_option maxRecDepth 20000 in
theorem eq_num (n : Nat) (x y : Int) (w : World) : (Op.equalIn (n + 1) 3 (.int .i64 x) (.int .i64 y)).run Tryd.prog w = .ok (x == y) w := by
  simp only [Op.equalIn, Sem.run_bind, run_underlying Tryd.underlying3, Result.andThen_ok]
  rfl
set_option maxRecDepth 20000 in
theorem eq_pair (a b c d : Int) (w : World) : (Op.equalIn 10000 44 (.agg #[.int .i64 a, .int .i64 b]) (.agg #[.int .i64 c, .int .i64 d])).run Tryd.prog w = .ok ((a == c) && (b == d)) w := by
  obtain ⟨i, hi⟩ : ∃ i, Tryd.prog.info? 3 = some i := ⟨_, rfl⟩
  have hc : Tryd.prog.cellsOf 3 = 1 := by kernel_rfl
  rw [show (10000 : Nat) = 9999 + 1 from rfl, run_equalIn_array (P := Tryd.prog) (w := w) 9999 _ _ Tryd.underlying44 hi, hc]
  have p0 : ∀ (x y : Value), (part 3 #[x, y] (0 * 1)).run Tryd.prog w = .ok x w := fun _ _ => rfl
  have e := eq_num 9998
  rw [show List.range 2 = [0, 1] from rfl]
  simp only [Op.eqItems, Sem.run_bind, p0, Result.andThen_ok, e]
  have p2 : ∀ (x y : Value), (part 3 #[x, y] 1).run Tryd.prog w = .ok y w := fun _ _ => rfl
  have e2 : ∀ (x y : Int) (w : World), (Op.equalIn 9999 3 (.int .i64 x) (.int .i64 y)).run Tryd.prog w = .ok (x == y) w := eq_num 9998
  cases h1 : (a == c) <;> cases h2 : (b == d) <;> simp [h2, p2, e2]
end Go.Proofs.YtfmeadbiokcboaaDoor
namespace Go.Proofs.YtfmeadbiokcboaaDoor
open Go Go.RowKit
open G (Tok Er Ins Fun)
open Mix (Up)
theorem new_sl (w : World) (l : List Int) (t : TypeId) : Sl (w.alloc (.cells (ints l).toArray t)) (some ⟨w.heap.size, 0, none⟩) l := by
  refine .inr ⟨w.heap.size, 0, rfl, by simp, fun i n hi => ?_⟩
  have h := heap_alloc_new w (.cells (ints l).toArray t)
  have h2 := ints_at hi
  rw [Nat.zero_add]
  simp only [World.cell?, h]
  simpa using h2
def worksF (fv : Value) (t : Tmp) : Up := match t with
  | 23 => Up.eq fv | 25 => Up.eq fv | 27 => Up.eq fv
  | 24 => Up.rows (predsF fFork) | 2 => Up.rows (predsF fFork)
  | 26 => Up.ints (orderF fFork) | 3 => Up.ints (orderF fFork)
  | 28 => Up.pairs (backsF fFork) | 4 => Up.pairs (backsF fFork)
  | _ => Up.any
set_option maxHeartbeats 8000000 in
set_option maxRecDepth 20000 in
theorem works_any (w : World) (ht : Tab w) : Calls Tryd.prog 8 #[] w fun e w' => e = .returned (.bool true) ∧ Below w.heap.size w w' := by
  have hfl : ∀ (a b : Value) (w : World), (Instr.field 33 (.agg #[a, b]) 0).run Tryd.prog w = .ok a w := fun _ _ _ => rfl
  have HT := hide ht
  clear ht
  go_enter Tryd.func8, Tryd.ntmps8
  go_wp2_with fail
  refine (fork_any w).mono ?_; rintro e w1 ⟨v, rfl, hv, b1⟩
  obtain ⟨vp, vb, rfl, ⟨ao, c, rfl, _⟩, ⟨bo, cb, rfl, _⟩⟩ := id hv
  have b2 := below_box w1 (.cells #[.string (bs fFork.1), .slice ao fFork.2.1.length c, .int .i64 fFork.2.2.1, .slice bo fFork.2.2.2.1.length cb, .int .i64 fFork.2.2.2.2] 25)
  have X0 := hide (L5.Box.new w1 [.string (bs [102]), .slice ao 1 c, .int .i64 0, .slice bo 7 cb, .int .i64 0] 25)
  have HV := hide (hv.below b2)
  have HT2 := hide (HT.out.below (below_step b1 b2))
  have HB := hide (below_step b1 b2)
  clear hv b1 b2
  go_upto_region 2 with fail
  show Code.wp _ _ _ _ (w1.alloc (.cells #[.string (bs [102]), .slice ao 1 c, .int .i64 0, .slice bo 7 cb, .int .i64 0] 25))
  replace X0 : Hid (L5.Box (w1.alloc (.cells #[.string (bs [102]), .slice ao 1 c, .int .i64 0, .slice bo 7 cb, .int .i64 0] 25)) w1.heap.size [.string (bs [102]), .slice ao 1 c, .int .i64 0, .slice bo 7 cb, .int .i64 0]) := X0
  replace HV : Hid (FunV (w1.alloc (.cells #[.string (bs [102]), .slice ao 1 c, .int .i64 0, .slice bo 7 cb, .int .i64 0] 25)) fFork (.agg #[.string (bs [102]), .slice ao 1 c, .int .i64 0, .slice bo 7 cb, .int .i64 0])) := HV
  replace HB : Hid (Below w.heap.size w (w1.alloc (.cells #[.string (bs [102]), .slice ao 1 c, .int .i64 0, .slice bo 7 cb, .int .i64 0] 25))) := HB
  replace HT2 : Hid (Tab (w1.alloc (.cells #[.string (bs [102]), .slice ao 1 c, .int .i64 0, .slice bo 7 cb, .int .i64 0] 25))) := HT2
  generalize w1.alloc (.cells #[.string (bs [102]), .slice ao 1 c, .int .i64 0, .slice bo 7 cb, .int .i64 0] 25) = W at *
  generalize w1.heap.size = q at *
  obtain ⟨x0, x1, x2, x3, x4⟩ : _ ∧ _ ∧ _ ∧ _ ∧ _ := ⟨X0.out.2 0 _ rfl, X0.out.2 1 _ rfl, X0.out.2 2 _ rfl, X0.out.2 3 _ rfl, X0.out.2 4 _ rfl⟩
  have HS1 := hide (shaped_any fFork _ W HV.out HT2.out)
  rw [fork_shape] at HS1
  go_wp2_with fail
  refine HS1.out.mono ?_; rintro e w2 ⟨rfl, b2⟩
  have HS2 := hide (shaped_any _ _ w2 (none_val w2) (HT2.out.below b2))
  rw [none_shape] at HS2
  have BW2 := hide b2
  clear x0 x1 x2 x3 x4 b2 HS1
  dsimp only
  go_wp2_with fail
  refine HS2.out.mono ?_; rintro e w3 ⟨rfl, b3⟩
  have BW3 := hide (below_step BW2.out b3)
  clear b3 HS2
  dsimp only
  go_upto_region 4 with fail
  have X3 := hide (X0.out.below BW3.out)
  replace HV := hide (HV.out.below BW3.out)
  replace HT2 := hide (HT2.out.below BW3.out)
  replace HB := hide (below_step HB.out BW3.out)
  clear X0 BW2 BW3
  refine Mix.wp_region_mix (worksF (.agg #[.string (bs [102]), .slice ao 1 c, .int .i64 0, .slice bo 7 cb, .int .i64 0])) (by kernel_rfl) (by kernel_rfl) ?_
  have xs := fun (w : World) (b : Below w3.heap.size w3 w) => And.intro ((X3.out.below b).2 0 _ rfl) (And.intro ((X3.out.below b).2 1 _ rfl) (And.intro ((X3.out.below b).2 2 _ rfl) (And.intro ((X3.out.below b).2 3 _ rfl) ((X3.out.below b).2 4 _ rfl))))
  have CP : ∀ w, Below w3.heap.size w3 w → Calls Tryd.prog 15 #[(.agg #[.string (bs [102]), .slice ao 1 c, .int .i64 0, .slice bo 7 cb, .int .i64 0])] w fun e w' => ∃ v, e = .returned v ∧ Below w.heap.size w w' ∧ RowsV w' (predsF fFork) v := fun w b => (preds_any fFork _ w (HV.out.below b) fork_ful fork_tos).mono fun e w' ⟨v, he, h, b'⟩ => ⟨v, he, b', h.read⟩
  have CO : ∀ w, Below w3.heap.size w3 w → Calls Tryd.prog 18 #[(.agg #[.string (bs [102]), .slice ao 1 c, .int .i64 0, .slice bo 7 cb, .int .i64 0])] w fun e w' => ∃ v, e = .returned v ∧ Below w.heap.size w w' ∧ IntsV w' (orderF fFork) v := fun w b => (orderP_any fFork _ w (HV.out.below b) fork_ful fork_tos (by decide)).mono fun e w' ⟨v, he, h, b'⟩ => ⟨v, he, b', ints_of h⟩
  have CB : ∀ w, Below w3.heap.size w3 w → Calls Tryd.prog 22 #[(.agg #[.string (bs [102]), .slice ao 1 c, .int .i64 0, .slice bo 7 cb, .int .i64 0])] w fun e w' => ∃ v, e = .returned v ∧ Below w.heap.size w w' ∧ PairsV w' (backsF fFork) v := fun w b => (backsP_any fFork _ w (HV.out.below b) fork_ful fork_tos (by decide)).mono fun e w' ⟨v, he, h, b'⟩ => ⟨v, he, b', pairs_read h⟩
  refine Mix.mix_step rfl (valid_eq (.agg #[.string (bs [102]), .slice ao 1 c, .int .i64 0, .slice bo 7 cb, .int .i64 0]) rfl) ?_ ?_
  · intro w b k
    obtain ⟨x0, x1, x2, x3, x4⟩ := xs w b
    clear k
    simp [go_sem, x0, x1, x2, x3, x4]
    exact ⟨Below.refl _ _, fun d hd => by cases hd; rfl⟩
  rintro v ⟨_, _, h⟩
  obtain rfl : v = (.agg #[.string (bs [102]), .slice ao 1 c, .int .i64 0, .slice bo 7 cb, .int .i64 0]) := h _ rfl
  clear h
  simp only [Act.put, List.setIfInBounds_toArray, List.set_cons_succ, List.set_cons_zero]
  refine Mix.mix_step rfl (valid_of (CP w3 (Below.refl _ _))) ?_ ?_
  · intro w b k
    clear k
    simp [go_sem]
    exact Calls.mono (CP w b) fun e w' ⟨v, he, hb, hf⟩ => ⟨v, he, hb, fun d hd => by cases hd; exact hf⟩
  rintro p24 -
  simp only [Act.put, List.setIfInBounds_toArray, List.set_cons_succ, List.set_cons_zero]
  refine Mix.mix_step rfl (valid_eq (.agg #[.string (bs [102]), .slice ao 1 c, .int .i64 0, .slice bo 7 cb, .int .i64 0]) rfl) ?_ ?_
  · intro w b k
    obtain ⟨x0, x1, x2, x3, x4⟩ := xs w b
    clear k
    simp [go_sem, x0, x1, x2, x3, x4]
    exact ⟨Below.refl _ _, fun d hd => by cases hd; rfl⟩
  rintro v ⟨_, _, h⟩
  obtain rfl : v = (.agg #[.string (bs [102]), .slice ao 1 c, .int .i64 0, .slice bo 7 cb, .int .i64 0]) := h _ rfl
  clear h
  simp only [Act.put, List.setIfInBounds_toArray, List.set_cons_succ, List.set_cons_zero]
  refine Mix.mix_step rfl (valid_of (CO w3 (Below.refl _ _))) ?_ ?_
  · intro w b k
    clear k
    simp [go_sem]
    exact Calls.mono (CO w b) fun e w' ⟨v, he, hb, hf⟩ => ⟨v, he, hb, fun d hd => by cases hd; exact hf⟩
  rintro p26 -
  simp only [Act.put, List.setIfInBounds_toArray, List.set_cons_succ, List.set_cons_zero]
  refine Mix.mix_step rfl (valid_eq (.agg #[.string (bs [102]), .slice ao 1 c, .int .i64 0, .slice bo 7 cb, .int .i64 0]) rfl) ?_ ?_
  · intro w b k
    obtain ⟨x0, x1, x2, x3, x4⟩ := xs w b
    clear k
    simp [go_sem, x0, x1, x2, x3, x4]
    exact ⟨Below.refl _ _, fun d hd => by cases hd; rfl⟩
  rintro v ⟨_, _, h⟩
  obtain rfl : v = (.agg #[.string (bs [102]), .slice ao 1 c, .int .i64 0, .slice bo 7 cb, .int .i64 0]) := h _ rfl
  clear h
  simp only [Act.put, List.setIfInBounds_toArray, List.set_cons_succ, List.set_cons_zero]
  refine Mix.mix_step rfl (valid_of (CB w3 (Below.refl _ _))) ?_ ?_
  · intro w b k
    clear k
    simp [go_sem]
    exact Calls.mono (CB w b) fun e w' ⟨v, he, hb, hf⟩ => ⟨v, he, hb, fun d hd => by cases hd; exact hf⟩
  rintro p28 -
  simp only [Act.put, List.setIfInBounds_toArray, List.set_cons_succ, List.set_cons_zero]
  refine Mix.mix_step rfl (valid_of (CP w3 (Below.refl _ _))) ?_ ?_
  · intro w b k
    have f : RowsV w (predsF fFork) p24 := k 24 (by simp [Oper.looksAt, Op.operands]) (by simp [Mix.add]) p24 rfl
    clear k
    simp [go_sem]
    exact ⟨Below.refl _ _, fun d hd => by cases hd; exact f⟩
  rintro p2 -
  simp only [Act.put, List.setIfInBounds_toArray, List.set_cons_succ, List.set_cons_zero]
  refine Mix.mix_step rfl (valid_of (CO w3 (Below.refl _ _))) ?_ ?_
  · intro w b k
    have f : IntsV w (orderF fFork) p26 := k 26 (by simp [Oper.looksAt, Op.operands]) (by simp [Mix.add]) p26 rfl
    clear k
    simp [go_sem]
    exact ⟨Below.refl _ _, fun d hd => by cases hd; exact f⟩
  rintro p3 -
  simp only [Act.put, List.setIfInBounds_toArray, List.set_cons_succ, List.set_cons_zero]
  refine Mix.mix_step rfl (valid_of (CB w3 (Below.refl _ _))) ?_ ?_
  · intro w b k
    have f : PairsV w (backsF fFork) p28 := k 28 (by simp [Oper.looksAt, Op.operands]) (by simp [Mix.add]) p28 rfl
    clear k
    simp [go_sem]
    exact ⟨Below.refl _ _, fun d hd => by cases hd; exact f⟩
  rintro p4 -
  simp only [Act.put, List.setIfInBounds_toArray, List.set_cons_succ, List.set_cons_zero]
  refine Mix.mix_nil ?_
  intro w4 b4 hk
  have f2 : RowsV w4 (predsF fFork) p2 := hk 2 (by simp [Mix.add]) p2 rfl
  have f3 : IntsV w4 (orderF fFork) p3 := hk 3 (by simp [Mix.add]) p3 rfl
  have f4 : PairsV w4 (backsF fFork) p4 := hk 4 (by simp [Mix.add]) p4 rfl
  clear hk
  rw [fork_preds] at f2
  rw [fork_order] at f3
  rw [fork_backs] at f4
  obtain ⟨po, pc, rfl, pr, _⟩ := f2
  obtain ⟨oo, oc, rfl, os, _⟩ := f3
  obtain ⟨bo4, bc4, rfl, br, _⟩ := f4
  rcases pr with pr | ⟨pb, po2, rfl, pl, pr⟩
  · cases pr
  obtain ⟨u1, pu, lo1, lc1, rfl, ls1, _⟩ := pr 1 [0, 4] rfl
  rcases br with br | ⟨bb, rfl, bl, br⟩
  · cases br
  obtain ⟨y0, y1⟩ := br 0 (4, 1) rfl
  obtain ⟨x0, x1, x2, x3, x4⟩ := xs w4 b4
  have HC := hide (succs_any fFork _ w4 (HV.out.below b4) fork_ful fork_tos)
  have HOs := hide os
  have HL1 := hide ls1
  have HPu := hide pu
  have HY := hide (And.intro y0 y1)
  have HB4 := hide (below_step HB.out b4)
  have HV4 := hide (HV.out.below b4)
  have hpl := pl
  have hbl := bl
  have X4 := hide (X3.out.below b4)
  clear pr br os ls1 pu y0 y1 CP CO CB xs HV HT2 HB b4 X3 pl bl
  go_wp2_with fail
  refine HC.out.mono ?_; rintro e w5 ⟨sv, rfl, hs5, b5⟩
  obtain ⟨so, sc, rfl, hsr⟩ := succs_read hs5
  rw [fork_succs] at hsr
  have HSR := hide hsr
  have B5 := hide b5
  have hbx := below_box w5 (.cells #[.int .i64 0] 3)
  have HRe : Hid (Calls Tryd.prog 24 #[.slice so 7 sc, .slice (some ⟨w5.heap.size, 0, none⟩) 1 1, .int .i64 1] (w5.alloc (.cells #[.int .i64 0] 3)) fun e w' => ∃ g, e = .returned (.slice (some ⟨g, 0, none⟩) 7 7) ∧ RowAt w' (w5.alloc (.cells #[.int .i64 0] 3)).heap.size 4 g 7 (bools [true, false, false, false, false, false, false]) ∧ Below (w5.alloc (.cells #[.int .i64 0] 3)).heap.size (w5.alloc (.cells #[.int .i64 0] 3)) w') := hide (by
    have h := reached_any [[1], [2, 3], [4], [4], [1, 5], [], []] [0] 1 so (some ⟨w5.heap.size, 0, none⟩) sc 1 (w5.alloc (.cells #[.int .i64 0] 3)) (hsr.below hbx) (.inr ⟨w5.heap.size, 0, rfl, by simp, fun i n hi => by
      match i, hi with
      | 0, hi => simp at hi; subst hi; simp⟩) (by decide) (by decide) (by unfold Num; decide) (by unfold Num; decide) (by decide)
    have e : bitsOf ([[1], [2, 3], [4], [4], [1, 5], [], []] : List (List Int)).length (metE [[1], [2, 3], [4], [4], [1, 5], [], []] [0] 1) = [true, false, false, false, false, false, false] := fork_reached
    rw [e] at h
    exact h)
  have HB5 := hide (below_step b5 hbx)
  clear hsr hs5 HC hbx b5 x0 x1 x2 x3 x4
  go_wp2_with fail
  refine HRe.out.mono ?_; rintro e w6 ⟨g, rfl, hr6, b6⟩
  have B6 := hide (below_step HB5.out b6)
  have HR6 := hide hr6
  have HI1 : Hid (Calls Tryd.prog 17 #[.slice lo1 2 lc1, .slice (some ⟨w6.heap.size, 0, none⟩) 2 2] (w6.alloc (.cells #[.int .i64 0, .int .i64 4] 3)) fun e w' => e = .returned (.bool true) ∧ Below (w6.alloc (.cells #[.int .i64 0, .int .i64 4] 3)).heap.size (w6.alloc (.cells #[.int .i64 0, .int .i64 4] 3)) w') := hide (rints_same [0, 4] lo1 _ lc1 2 _ (by decide) (HL1.out.below (below_step B6.out (below_box _ _))) (new_sl w6 [0, 4] 3))
  have p1 := (B6.out.cell (p := ⟨pb, po2 + 1, none⟩) hpl).trans HPu.out
  clear hr6 b6 HRe HB5 HL1 HPu
  go_wp2_with fail
  refine HI1.out.mono ?_; rintro e w7 ⟨rfl, b7⟩
  have B7 := hide (below_step (below_box w6 (.cells #[.int .i64 0, .int .i64 4] 3)) b7)
  have HI2 : Hid (Calls Tryd.prog 17 #[.slice oo 6 oc, .slice (some ⟨w7.heap.size, 0, none⟩) 6 6] (w7.alloc (.cells #[.int .i64 0, .int .i64 1, .int .i64 3, .int .i64 2, .int .i64 4, .int .i64 5] 3)) fun e w' => e = .returned (.bool true) ∧ Below (w7.alloc (.cells #[.int .i64 0, .int .i64 1, .int .i64 3, .int .i64 2, .int .i64 4, .int .i64 5] 3)).heap.size (w7.alloc (.cells #[.int .i64 0, .int .i64 1, .int .i64 3, .int .i64 2, .int .i64 4, .int .i64 5] 3)) w') := hide (rints_same [0, 1, 3, 2, 4, 5] oo _ oc 6 _ (by decide) (HOs.out.below (below_step (below_step B6.out B7.out) (below_box _ _))) (new_sl w7 [0, 1, 3, 2, 4, 5] 3))
  clear b7 HI1 p1
  go_wp2_with fail
  refine HI2.out.mono ?_; rintro e w8 ⟨rfl, b8⟩
  have B8 := hide (below_step B7.out (below_step (below_box w7 (.cells #[.int .i64 0, .int .i64 1, .int .i64 3, .int .i64 2, .int .i64 4, .int .i64 5] 3)) b8))
  have B48 := hide (below_step B6.out B8.out)
  have y0 := (B48.out.cell (p := ⟨bb, 0 * 2, none⟩) hbl).trans HY.out.1
  have y1 := (B48.out.cell (p := ⟨bb, 0 * 2 + 1, none⟩) hbl).trans HY.out.2
  simp only [Nat.zero_mul, Nat.zero_add] at y0 y1
  have r0 := (HR6.out.below B8.out).cell (j := 0) (u := .bool true) rfl
  have r4 := (HR6.out.below B8.out).cell (j := 4) (u := .bool false) rfl
  obtain ⟨x0, x1, x2, x3, x4⟩ : _ ∧ _ ∧ _ ∧ _ ∧ _ := ⟨(X4.out.below B48.out).2 0 _ rfl, (X4.out.below B48.out).2 1 _ rfl, (X4.out.below B48.out).2 2 _ rfl, (X4.out.below B48.out).2 3 _ rfl, (X4.out.below B48.out).2 4 _ rfl⟩
  have HP := hide (placesP_any fFork _ w8 (HV4.out.below B48.out) fork_ful fork_tos (by decide))
  rw [fork_places] at HP
  have hq := eq_pair 4 1 4 1
  clear b8 HI2 HR6 HY
  go_wp2_with fail
  refine HP.out.mono ?_; rintro e w9 ⟨gp, rfl, hp9, b9⟩
  have HI3 : Hid (Calls Tryd.prog 17 #[.slice (some ⟨gp, 0, none⟩) 7 7, .slice (some ⟨w9.heap.size, 0, none⟩) 7 7] (w9.alloc (.cells #[.int .i64 0, .int .i64 1, .int .i64 3, .int .i64 2, .int .i64 4, .int .i64 5, .int .i64 (-1)] 3)) fun e w' => e = .returned (.bool true) ∧ Below (w9.alloc (.cells #[.int .i64 0, .int .i64 1, .int .i64 3, .int .i64 2, .int .i64 4, .int .i64 5, .int .i64 (-1)] 3)).heap.size (w9.alloc (.cells #[.int .i64 0, .int .i64 1, .int .i64 3, .int .i64 2, .int .i64 4, .int .i64 5, .int .i64 (-1)] 3)) w') := hide (by
    obtain ⟨ao', c', e', s1, _⟩ := ints_of (l := [0, 1, 3, 2, 4, 5, -1]) (hp9.below (below_box w9 (.cells #[.int .i64 0, .int .i64 1, .int .i64 3, .int .i64 2, .int .i64 4, .int .i64 5, .int .i64 (-1)] 3)))
    injection e' with e1 e2 e3
    subst e1 e3
    exact rints_same [0, 1, 3, 2, 4, 5, -1] _ _ 7 7 _ (by decide) s1 (new_sl w9 [0, 1, 3, 2, 4, 5, -1] 3))
  have B9 := hide (below_step HB4.out (below_step B48.out (below_step b9 (below_box w9 (.cells #[.int .i64 0, .int .i64 1, .int .i64 3, .int .i64 2, .int .i64 4, .int .i64 5, .int .i64 (-1)] 3)))))
  clear hp9 b9 HP x0 x1 x2 x3 x4 y0 y1 r0 r4
  go_wp2_with fail
  refine HI3.out.mono ?_; rintro e wA ⟨rfl, bA⟩
  have HE := hide (below_step B9.out bA)
  clear bA HI3
  go_wp2_with fail
  go_ret
  exact ⟨rfl, HE.out⟩
end Go.Proofs.YtfmeadbiokcboaaDoor
namespace Go.Proofs.YtfmeadbiokcboaaDoor
open Go Go.RowKit Go.ChangeShapes Go.WideShapes
open G (Tok Er Ins Fun)
theorem oc2 : Tryd.prog.cellsOf 2 = 1 := by kernel_rfl
theorem oc3 : Tryd.prog.cellsOf 3 = 1 := by kernel_rfl
theorem oc9 : Tryd.prog.cellsOf 9 = 1 := by kernel_rfl
theorem oc31 : Tryd.prog.cellsOf 22 = 1 := by kernel_rfl
theorem oc32 : Tryd.prog.cellsOf 23 = 1 := by kernel_rfl
theorem oc34 : Tryd.prog.cellsOf 25 = 5 := by kernel_rfl
theorem oc36 : Tryd.prog.cellsOf 51 = 1 := by kernel_rfl
theorem oc39 : Tryd.prog.cellsOf 53 = 8 := by kernel_rfl
theorem ob3 : Tryd.prog.bytesOf 3 = 8 := by kernel_rfl
theorem ob36 : Tryd.prog.bytesOf 51 = 24 := by kernel_rfl
theorem ob39 : Tryd.prog.bytesOf 53 = 104 := by kernel_rfl
/-- No part of a datum is longer than a process can hold. -/
def Sz {H : Type} (t : TypeId) (d : DataW H) : Prop := ∀ n ∈ d.weights Tryd.prog t, n ≤ reachBytes
section
variable {H : Type}
theorem Sz.field {t : TypeId} {fs : Array Field} {parts : List (DataW H)} (hu : Tryd.prog.underlying t = some (.struct fs)) (h : Sz t (.agg parts)) {i : Nat} {ti : TypeId} {di : DataW H} (ht : (fs.toList.map (·.type))[i]? = some ti) (hd : parts[i]? = some di) : Sz ti di := by
  intro n hn
  refine h n ?_
  simp only [DataW.weights, hu]
  exact DataW.weights_mem_each ht hd n hn
theorem weightsAll_mem {e : TypeId} {d : DataW H} : ∀ {l : List (DataW H)}, d ∈ l → ∀ n ∈ d.weights Tryd.prog e, n ∈ DataW.weightsAll Tryd.prog e l
  | x :: l, hd, n, hn => by
    simp only [DataW.weightsAll, List.mem_append]
    rcases List.mem_cons.1 hd with rfl | hd
    · exact .inl hn
    · exact .inr (weightsAll_mem hd n hn)
theorem Sz.elem {t e : TypeId} {elems spare : List (DataW H)} (hu : Tryd.prog.underlying t = some (.slice e)) (h : Sz t (.slice elems spare)) {d : DataW H} (hd : d ∈ elems) : Sz e d := by
  intro n hn
  refine h n ?_
  simp only [DataW.weights, hu, List.mem_cons, List.mem_append]
  exact .inr (.inl (weightsAll_mem hd n hn))
theorem Sz.len {t e : TypeId} {elems spare : List (DataW H)} (hu : Tryd.prog.underlying t = some (.slice e)) (h : Sz t (.slice elems spare)) : (elems.length + spare.length) * Tryd.prog.bytesOf e ≤ reachBytes :=
  h _ (by simp [DataW.weights, hu])
end
/-- How great a part is. -/
def Few (n : Nat) : Prop := n ≤ 140737488355328
theorem few_of {n b m : Nat} (hb : 1 ≤ b) (h : (n + m) * b ≤ reachBytes) : Few n := by
  have h1 : (n + m) * 1 ≤ (n + m) * b := Nat.mul_le_mul_left _ hb
  have h2 : reachBytes = 140737488351232 := rfl
  unfold Few; omega
/-- What an instruction, and a function, that came in keep to. -/
def GxI (x : Ins) : Prop := I64 x.2.1 ∧ I64 x.2.2.1 ∧ (∀ i ∈ x.2.2.2.2.1, I64 i) ∧ (∀ i ∈ x.2.2.2.2.2.1, I64 i) ∧ Few x.2.2.2.2.1.length ∧ Few x.2.2.2.2.2.1.length ∧ Few x.2.2.2.2.2.2.1.length
section
variable {H : Type} {enc : TypeId × Value → H} {W : World}
theorem i64_wf {n : Int} (h : (Lit.int .i64 n).wf = true) : I64 n := by
  simp [Lit.wf, IntKind.min, IntKind.max, IntKind.bits, IntKind.signed] at h
  unfold I64; omega
theorem opn_int {fuel : Nat} {v : Value} {x : DataW H × List MemPlace} (h : DataW.trod enc Tryd.prog W 0 (fun _ => true) true fuel 3 [v] = some x) : ∃ n, v = .int .i64 n ∧ I64 n := by
  obtain ⟨n, e, _, hw⟩ := DataW.trod_int Tryd.underlying3 h
  simp only [List.cons.injEq, and_true] at e
  exact ⟨n, e, i64_wf hw⟩
theorem opn_int2 {fuel : Nat} {v : Value} {x : DataW H × List MemPlace} (h : DataW.trod enc Tryd.prog W 0 (fun _ => true) true fuel 2 [v] = some x) : ∃ n, v = .int .i64 n ∧ I64 n := by
  obtain ⟨n, e, _, hw⟩ := DataW.trod_int Tryd.underlying2 h
  simp only [List.cons.injEq, and_true] at e
  exact ⟨n, e, i64_wf hw⟩
theorem opn_str {fuel : Nat} {v : Value} {x : DataW H × List MemPlace} (h : DataW.trod enc Tryd.prog W 0 (fun _ => true) true fuel 9 [v] = some x) (hz : Sz 9 x.1) : ∃ s : List UInt8, v = .string (bs s) ∧ Few s.length := by
  obtain ⟨s, e, rfl, _⟩ := DataW.trod_string Tryd.underlying9 h
  simp only [List.cons.injEq, and_true] at e
  refine ⟨s.data.toList, by rw [e, bs_of], ?_⟩
  have h1 := hz s.data.toList.length (by simp [DataW.weights])
  have h2 : reachBytes = 140737488351232 := rfl
  unfold Few; omega
theorem spot_none {W : World} {a : Addr} {v : Value} (h : W.cell? (a.add 0) = some v) : ∃ b o, a = ⟨b, o, none⟩ ∧ b < W.heap.size := by
  obtain ⟨b, o, s⟩ := a
  have hs : s = none := by simpa [Addr.add] using World.cell?_spot h
  subst hs
  have hb := World.block_lt_of_cell? W _ h
  exact ⟨b, o, rfl, by simpa [Addr.add] using hb⟩
theorem opn_ints {fuel : Nat} {v : Value} {x : DataW H × List MemPlace} (h : DataW.trod enc Tryd.prog W 0 (fun _ => true) true fuel 22 [v] = some x) (hz : Sz 22 x.1) : ∃ l : List Int, IntsV W l v ∧ (∀ n ∈ l, I64 n) ∧ Few l.length := by
  rcases open_ints Tryd.underlying22 Tryd.underlying3 oc3 h with ⟨e, _⟩ | ⟨a, len, cap, zs, e, _, hl, hm, hzl, rfl, hc, hw⟩
  · simp only [List.cons.injEq, and_true] at e
    exact ⟨[], ⟨none, 0, e, .inl rfl, Nat.le_refl _, Nat.zero_le _⟩, fun _ h => (by cases h), by unfold Few; simp⟩
  · simp only [List.cons.injEq, and_true] at e
    rw [if_pos rfl] at hzl
    have hlen : (zs.take len).length = len := by simp; omega
    have hsl := Sz.len Tryd.underlying22 hz
    refine ⟨zs.take len, ⟨some a, cap, by rw [hlen]; exact e, ?_, by omega, hm⟩, fun n hn => i64_wf (hw n (List.mem_of_mem_take hn)), ?_⟩
    · by_cases h0 : len = 0
      · exact .inl (by rw [h0]; rfl)
      · obtain ⟨b, o, rfl, hb⟩ := spot_none (hc 0 (by omega))
        refine .inr ⟨b, o, rfl, hb, fun i n hi => ?_⟩
        obtain ⟨h1, h2⟩ := List.getElem?_eq_some_iff.1 hi
        have := hc i (by omega)
        rw [add_plain] at this
        rw [this, List.getD_eq_getElem?_getD, List.getElem?_eq_getElem (by omega)]
        rw [List.getElem_take] at h2
        rw [← h2]; rfl
    · rw [ob3] at hsl
      simp only [lits, List.length_map] at hsl
      exact few_of (b := 8) (by omega) hsl
theorem xs_at {xs : List (DataW H × List MemPlace)} {n i : Nat} (h : xs.length = n) (hi : i < n) : ∃ y, xs[i]? = some y := ⟨xs[i]'(by omega), List.getElem?_eq_getElem (by omega)⟩
theorem eight_l {cs : List Value} (h : cs.length = 8) : ∃ a b c d e f g i, cs = [a, b, c, d, e, f, g, i] := by
  match cs, h with
  | [a, b, c, d, e, f, g, i], _ => exact ⟨a, b, c, d, e, f, g, i, rfl⟩
theorem five_l {cs : List Value} (h : cs.length = 5) : ∃ a b c d e, cs = [a, b, c, d, e] := by
  match cs, h with
  | [a, b, c, d, e], _ => exact ⟨a, b, c, d, e, rfl⟩
/-- The cells of an instruction. -/
theorem opn_ins {fuel : Nat} {cs : List Value} {x : DataW H × List MemPlace} (h : DataW.trod enc Tryd.prog W 0 (fun _ => true) true fuel 53 cs = some x) (hz : Sz 53 x.1) :
    ∃ (y : Ins) (va vt : Value), cs = insC y va vt ∧ IntsV W y.2.2.2.2.1 va ∧ IntsV W y.2.2.2.2.2.1 vt ∧ GxI y := by
  obtain ⟨xs, n, _, rfl, hl, hlen, hf⟩ := DataW.trod_struct Tryd.underlying53 h
  obtain ⟨v0, v1, v2, v3, v4, v5, v6, v7, rfl⟩ := eight_l (hl.trans oc39)
  have fld : ∀ (i : Nat) (ti : TypeId) (y : DataW H × List MemPlace), ((#[_, _, _, _, _, _, _, _] : Array Field).toList.map (·.type))[i]? = some ti → xs[i]? = some y → Sz ti y.1 := fun i ti y ht hy => Sz.field Tryd.underlying53 hz ht (by rw [List.getElem?_map, hy]; rfl)
  obtain ⟨y0, g0⟩ := xs_at hlen (i := 0) (by decide)
  obtain ⟨y1, g1⟩ := xs_at hlen (i := 1) (by decide)
  obtain ⟨y2, g2⟩ := xs_at hlen (i := 2) (by decide)
  obtain ⟨y3, g3⟩ := xs_at hlen (i := 3) (by decide)
  obtain ⟨y4, g4⟩ := xs_at hlen (i := 4) (by decide)
  obtain ⟨y5, g5⟩ := xs_at hlen (i := 5) (by decide)
  obtain ⟨y6, g6⟩ := xs_at hlen (i := 6) (by decide)
  obtain ⟨y7, g7⟩ := xs_at hlen (i := 7) (by decide)
  have f0 : DataW.trod enc Tryd.prog W 0 (fun _ => true) true n 3 ([v0, v1, v2, v3, v4, v5, v6, v7].take (Tryd.prog.cellsOf 3)) = some y0 := (hf 0 _ rfl).trans g0
  have f1 : DataW.trod enc Tryd.prog W 0 (fun _ => true) true n 3 ([v1, v2, v3, v4, v5, v6, v7].take (Tryd.prog.cellsOf 3)) = some y1 := (hf 1 _ rfl).trans g1
  have f2 : DataW.trod enc Tryd.prog W 0 (fun _ => true) true n 2 ([v2, v3, v4, v5, v6, v7].take (Tryd.prog.cellsOf 2)) = some y2 := (hf 2 _ rfl).trans g2
  have f3 : DataW.trod enc Tryd.prog W 0 (fun _ => true) true n 3 ([v3, v4, v5, v6, v7].take (Tryd.prog.cellsOf 3)) = some y3 := (hf 3 _ rfl).trans g3
  have f4 : DataW.trod enc Tryd.prog W 0 (fun _ => true) true n 22 ([v4, v5, v6, v7].take (Tryd.prog.cellsOf 22)) = some y4 := (hf 4 _ rfl).trans g4
  have f5 : DataW.trod enc Tryd.prog W 0 (fun _ => true) true n 22 ([v5, v6, v7].take (Tryd.prog.cellsOf 22)) = some y5 := (hf 5 _ rfl).trans g5
  have f6 : DataW.trod enc Tryd.prog W 0 (fun _ => true) true n 9 ([v6, v7].take (Tryd.prog.cellsOf 9)) = some y6 := (hf 6 _ rfl).trans g6
  have f7 : DataW.trod enc Tryd.prog W 0 (fun _ => true) true n 3 ([v7].take (Tryd.prog.cellsOf 3)) = some y7 := (hf 7 _ rfl).trans g7
  rw [oc3] at f0 f1 f3 f7
  rw [oc2] at f2
  rw [oc31] at f4 f5
  rw [oc9] at f6
  obtain ⟨k, rfl, _⟩ := opn_int f0
  obtain ⟨id, rfl, hid⟩ := opn_int f1
  obtain ⟨nn, rfl, hn⟩ := opn_int2 f2
  obtain ⟨ty, rfl, _⟩ := opn_int f3
  obtain ⟨ar, ha, hai, hal⟩ := opn_ints f4 (Sz.field Tryd.underlying53 hz (i := 4) rfl (by rw [List.getElem?_map, g4]; rfl))
  obtain ⟨tt, ht, hti, htl⟩ := opn_ints f5 (Sz.field Tryd.underlying53 hz (i := 5) rfl (by rw [List.getElem?_map, g5]; rfl))
  obtain ⟨nm, rfl, hnm⟩ := opn_str f6 (Sz.field Tryd.underlying53 hz (i := 6) rfl (by rw [List.getElem?_map, g6]; rfl))
  obtain ⟨pl, rfl, _⟩ := opn_int f7
  exact ⟨(k, id, nn, ty, ar, tt, nm, pl), v4, v5, rfl, ha, ht, hid, hn, hai, hti, hal, htl, hnm⟩
theorem add2 (b o i j : Nat) : ((⟨b, o, none⟩ : Addr).add i).add j = ⟨b, o + i + j, none⟩ := by rw [Deep.add_add, add_plain, Nat.add_assoc]
/-- A block's instructions. -/
theorem opn_blk {fuel : Nat} {v : Value} {x : DataW H × List MemPlace} (h : DataW.trod enc Tryd.prog W 0 (fun _ => true) true fuel 51 [v] = some x) (hz : Sz 51 x.1) : ∃ l : List Ins, BlkR W l v ∧ (∀ y ∈ l, GxI y) ∧ Few l.length := by
  rcases Deep.open_slice Tryd.underlying51 h with ⟨e, _⟩ | ⟨a, len, cap, m, n, D, Pl, e, _, hl, hm, hmm, rfl, hx⟩
  · simp only [List.cons.injEq, and_true] at e
    exact ⟨[], ⟨none, 0, e, Nat.le_refl _, Nat.zero_le _, .inl rfl⟩, fun _ h => (by cases h), by unfold Few; simp⟩
  · simp only [List.cons.injEq, and_true] at e
    rw [if_pos rfl] at hmm
    subst hmm
    have hsl := Sz.len Tryd.underlying51 hz
    rw [ob39] at hsl
    simp only [List.length_map, List.length_range] at hsl
    have each : ∀ i, i < len → ∃ q : Ins, (∃ va vt, (∃ cs, W.cells? 0 (a.add (i * 8)) 8 = some cs ∧ cs = insC q va vt) ∧ IntsV W q.2.2.2.2.1 va ∧ IntsV W q.2.2.2.2.2.1 vt) ∧ GxI q := by
      intro i hi
      obtain ⟨cs, h1, h2⟩ := hx i (by omega)
      rw [oc39] at h1
      obtain ⟨y, va, vt, ec, k1, k2, k3⟩ := opn_ins h2 (Sz.elem Tryd.underlying51 hz (List.mem_map.2 ⟨i, by simpa using hi, rfl⟩))
      exact ⟨y, ⟨va, vt, ⟨cs, h1, ec⟩, k1, k2⟩, k3⟩
    obtain ⟨q, hq⟩ := Deep.choose_lt each
    refine ⟨(List.range len).map q, ⟨some a, m, by rw [e]; simp, by simpa using hl, hm, ?_⟩, fun y hy => ?_, by simpa using few_of (b := 104) (by omega) hsl⟩
    · by_cases h0 : len = 0
      · exact .inl (by rw [h0]; rfl)
      · obtain ⟨⟨va, vt, ⟨cs, h1, h2⟩, _⟩, _⟩ := hq 0 (by omega)
        obtain ⟨_, hcl, hcc⟩ := World.cells?_some h1
        have hc0 := (hcc 0 (by omega)).trans (List.getElem?_eq_getElem (by omega))
        rw [Deep.add_add, Nat.zero_mul] at hc0
        obtain ⟨b, o, rfl, hb⟩ := spot_none hc0
        refine .inr ⟨b, o, rfl, fun i y hi => ?_⟩
        have hi' : i < len := by
          have := (List.getElem?_eq_some_iff.1 hi).1
          simpa using this
        have hy : q i = y := by
          rw [List.getElem?_map, List.getElem?_range hi'] at hi
          exact Option.some.inj hi
        subst hy
        obtain ⟨⟨va, vt, ⟨cs, h1, h2⟩, k1, k2⟩, _⟩ := hq i hi'
        obtain ⟨_, hcl, hcc⟩ := World.cells?_some h1
        refine ⟨hb, va, vt, fun j t hj => ?_, k1, k2⟩
        have hj8 : j < 8 := (List.getElem?_eq_some_iff.1 hj).1
        have := hcc j hj8
        rw [add2] at this
        rw [this, h2]
        exact hj
    · obtain ⟨i, hi, rfl⟩ := List.mem_map.1 hy
      exact (hq i (by simpa using hi)).2
end
end Go.Proofs.YtfmeadbiokcboaaDoor
namespace Go.Proofs.YtfmeadbiokcboaaDoor
open Go Go.RowKit
open G (Tok Er Ins Fun)
open Go.ChangeShapes Go.WideShapes Go.ChangeAt
/-- No list of a function is longer than memory can hold. -/
def GyF (f : Fun) : Prop := Few f.1.length ∧ Few f.2.1.length ∧ Few f.2.2.2.1.length ∧ ∀ b ∈ f.2.2.2.1, Few b.length ∧ ∀ x ∈ b, GxI x
theorem GyF.sh {f : Fun} (h : GyF f) : ShF f := ⟨h.1, h.2.1, h.2.2.1, fun b hb x hx => by
  obtain ⟨_, _, _, _, h5, h6, h7⟩ := (h.2.2.2 b hb).2 x hx
  exact ⟨h5, h6, h7⟩⟩
theorem GyF.light {f : Fun} (h : GyF f) : ∀ b ∈ f.2.2.2.1, b.length ≤ 281474976710656 ∧ ∀ x ∈ b, x.2.2.2.2.2.2.1.length ≤ maxLen := fun b hb => by
  obtain ⟨h1, h2⟩ := h.2.2.2 b hb
  unfold Few at h1
  refine ⟨by omega, fun x hx => ?_⟩
  obtain ⟨_, _, _, _, _, _, h7⟩ := h2 x hx
  unfold Few at h7
  unfold maxLen
  omega
section
variable {H : Type} {enc : TypeId × Value → H} {W : World}
theorem opn_blks2 {fuel : Nat} {v : Value} {x : DataW H × List MemPlace} (h : DataW.trod enc Tryd.prog W 0 (fun _ => true) true fuel 23 [v] = some x) (hz : Sz 23 x.1) : ∃ l : List (List Ins), BlksR W l v ∧ (∀ b ∈ l, Few b.length ∧ ∀ y ∈ b, GxI y) ∧ Few l.length := by
  rcases Deep.open_slice1 Tryd.underlying23 oc36 h with ⟨e, _⟩ | ⟨a, len, cap, m, n, V, D, Pl, e, _, hl, hm, hmm, rfl, hx⟩
  · simp only [List.cons.injEq, and_true] at e
    exact ⟨[], ⟨none, 0, e, Nat.le_refl _, Nat.zero_le _, .inl rfl⟩, fun _ h => (by cases h), by unfold Few; simp⟩
  · simp only [List.cons.injEq, and_true] at e
    rw [if_pos rfl] at hmm
    subst hmm
    have hsl := Sz.len Tryd.underlying23 hz
    rw [ob36] at hsl
    simp only [List.length_map, List.length_range] at hsl
    have each : ∀ i, i < len → ∃ q : List Ins, (W.cell? (a.add i) = some (V i) ∧ BlkR W q (V i)) ∧ Few q.length ∧ ∀ y ∈ q, GxI y := by
      intro i hi
      obtain ⟨h1, h2⟩ := hx i (by omega)
      obtain ⟨q, k1, k2, k3⟩ := opn_blk h2 (Sz.elem Tryd.underlying23 hz (List.mem_map.2 ⟨i, by simpa using hi, rfl⟩))
      exact ⟨q, ⟨h1, k1⟩, k3, k2⟩
    obtain ⟨q, hq⟩ := Deep.choose_lt each
    refine ⟨(List.range len).map q, ⟨some a, m, by rw [e]; simp, by simpa using hl, hm, ?_⟩, fun y hy => ?_, by simpa using few_of (b := 24) (by omega) hsl⟩
    · by_cases h0 : len = 0
      · exact .inl (by rw [h0]; rfl)
      · obtain ⟨b, o, rfl, hb⟩ := spot_none (hq 0 (by omega)).1.1
        refine .inr ⟨b, o, rfl, hb, fun i y hi => ?_⟩
        have hi' : i < len := by
          have := (List.getElem?_eq_some_iff.1 hi).1
          simpa using this
        have hy : q i = y := by
          rw [List.getElem?_map, List.getElem?_range hi'] at hi
          exact Option.some.inj hi
        subst hy
        obtain ⟨k1, k2⟩ := (hq i hi').1
        rw [add_plain] at k1
        exact ⟨V i, k1, k2⟩
    · obtain ⟨i, hi, rfl⟩ := List.mem_map.1 hy
      exact (hq i (by simpa using hi)).2
/-- The cells of a function. -/
theorem opn_fun2 {fuel : Nat} {cs : List Value} {x : DataW H × List MemPlace} (h : DataW.trod enc Tryd.prog W 0 (fun _ => true) true fuel 25 cs = some x) (hz : Sz 25 x.1) :
    ∃ (y : Fun) (vp vb : Value), cs = funC y vp vb ∧ IntsV W y.2.1 vp ∧ BlksR W y.2.2.2.1 vb ∧ GyF y := by
  obtain ⟨xs, n, _, rfl, hl, hlen, hf⟩ := DataW.trod_struct Tryd.underlying25 h
  obtain ⟨v0, v1, v2, v3, v4, rfl⟩ := five_l (hl.trans oc34)
  obtain ⟨y0, g0⟩ := xs_at hlen (i := 0) (by decide)
  obtain ⟨y1, g1⟩ := xs_at hlen (i := 1) (by decide)
  obtain ⟨y2, g2⟩ := xs_at hlen (i := 2) (by decide)
  obtain ⟨y3, g3⟩ := xs_at hlen (i := 3) (by decide)
  obtain ⟨y4, g4⟩ := xs_at hlen (i := 4) (by decide)
  have f0 : DataW.trod enc Tryd.prog W 0 (fun _ => true) true n 9 ([v0, v1, v2, v3, v4].take (Tryd.prog.cellsOf 9)) = some y0 := (hf 0 _ rfl).trans g0
  have f1 : DataW.trod enc Tryd.prog W 0 (fun _ => true) true n 22 ([v1, v2, v3, v4].take (Tryd.prog.cellsOf 22)) = some y1 := (hf 1 _ rfl).trans g1
  have f2 : DataW.trod enc Tryd.prog W 0 (fun _ => true) true n 3 ([v2, v3, v4].take (Tryd.prog.cellsOf 3)) = some y2 := (hf 2 _ rfl).trans g2
  have f3 : DataW.trod enc Tryd.prog W 0 (fun _ => true) true n 23 ([v3, v4].take (Tryd.prog.cellsOf 23)) = some y3 := (hf 3 _ rfl).trans g3
  have f4 : DataW.trod enc Tryd.prog W 0 (fun _ => true) true n 3 ([v4].take (Tryd.prog.cellsOf 3)) = some y4 := (hf 4 _ rfl).trans g4
  rw [oc9] at f0
  rw [oc31] at f1
  rw [oc3] at f2 f4
  rw [oc32] at f3
  obtain ⟨nm, rfl, hnm⟩ := opn_str f0 (Sz.field Tryd.underlying25 hz (i := 0) rfl (by rw [List.getElem?_map, g0]; rfl))
  obtain ⟨ps, hp, _, hpl⟩ := opn_ints f1 (Sz.field Tryd.underlying25 hz (i := 1) rfl (by rw [List.getElem?_map, g1]; rfl))
  obtain ⟨rt, rfl, _⟩ := opn_int f2
  obtain ⟨bl, hb, hbg, hbl⟩ := opn_blks2 f3 (Sz.field Tryd.underlying25 hz (i := 3) rfl (by rw [List.getElem?_map, g3]; rfl))
  obtain ⟨pl, rfl, _⟩ := opn_int f4
  exact ⟨(nm, ps, rt, bl, pl), v1, v3, rfl, hp, hb, hnm, hpl, hbl, hbg⟩
set_option maxRecDepth 20000 in
/-- A function that came in. -/
theorem opn_func {r : Reach} {b0 : Nat} {v : Value} {d : DataW H} {ps : List MemPlace} (hv : Value.okWide Tryd.prog W r b0 25 v) (h : DataW.Trod enc Tryd.prog W 0 (fun _ => true) true 25 v d ps) (hz : Sz 25 d) :
    ∃ x : Fun, FunV W x v ∧ GyF x := by
  obtain ⟨cs, rfl, hsz⟩ := okWide_struct Tryd.underlying25 hv
  obtain ⟨fuel, hf⟩ := h
  obtain ⟨y, vp, vb, ec, k1, k2, k3⟩ := opn_fun2 hf hz
  refine ⟨y, ⟨vp, vb, ?_, k1, k2⟩, k3⟩
  have : cs = (funC y vp vb).toArray := by
    rw [← ec]; simp [Value.cells]
  rw [this]; rfl
end
end Go.Proofs.YtfmeadbiokcboaaDoor
