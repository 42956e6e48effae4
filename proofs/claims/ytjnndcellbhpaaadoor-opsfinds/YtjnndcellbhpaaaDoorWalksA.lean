/- The program's rows by an operation's number, and what an operation does beside. -/
import Derived.Test.YtjnndcellbhpaaaDoorProg
import Derived.Test.YtjnndcellbhpaaaDoorMath
import Derived.WalkKit
import Derived.WalkSpells
import Derived.WalkSmall
import Derived.WalkLawsBesides
import Derived.KernelRfl
import Derived.Below
import Derived.Deep.QuietTactic
import Derived.BigQuiet
namespace Go.Proofs.YtjnndcellbhpaaaDoor
open Go Go.RowKit

theorem hide {p : Prop} (h : p) : Hid p := h
theorem ret_bool {x y : Bool} (h : x = y) : Ending.returned (.bool x) = .returned (.bool y) := by rw [h]
theorem ret_int {x y : Int} (h : x = y) : Ending.returned (.int .i64 x) = .returned (.int .i64 y) := by rw [h]
theorem ret_str {x y : ByteArray} (h : x = y) : Ending.returned (.string x) = .returned (.string y) := by rw [h]
theorem below_box (w : World) (o : Obj) : Below w.heap.size w (w.alloc o) := (Below.refl _ _).alloc (Nat.le_refl _) _
theorem below_new {w w1 : World} {o : Obj} (h : Below (w.alloc o).heap.size (w.alloc o) w1) : Below w.heap.size w w1 := (below_box w o).trans (h.mono (by simp))
theorem below_step {a b c : World} (h : Below a.heap.size a b) (k : Below b.heap.size b c) : Below a.heap.size a c := h.trans (k.mono h.size)

/-- The table of the operations reads as it was laid. -/
def Tab (w : World) : Prop := 0 < w.heap.size ∧ ∀ k, k < 30 →
  w.cell? ⟨0, k * 5, none⟩ = some (.string (word k)) ∧ w.cell? ⟨0, k * 5 + 1, none⟩ = some (.int .i64 (tk0 k)) ∧ w.cell? ⟨0, k * 5 + 2, none⟩ = some (.int .i64 (tk1 k)) ∧ w.cell? ⟨0, k * 5 + 3, none⟩ = some (.int .i64 (mk k)) ∧ w.cell? ⟨0, k * 5 + 4, none⟩ = some (.int .i64 (ds k))
theorem Tab.below {w w' : World} (h : Tab w) (b : Below w.heap.size w w') : Tab w' :=
  ⟨Nat.lt_of_lt_of_le h.1 b.size, fun k hk => by
    obtain ⟨h0, h1, h2, h3, h4⟩ := h.2 k hk
    exact ⟨(b.cell h.1).trans h0, (b.cell h.1).trans h1, (b.cell h.1).trans h2, (b.cell h.1).trans h3, (b.cell h.1).trans h4⟩⟩

theorem of_in (k : Nat) (w : World) (h0 : 1 ≤ k) (h1 : k ≤ 29) (ht : Tab w) :
    Calls Tryd.prog 36 #[.int .i64 k] w fun e w' => e = .returned (rowVal k) ∧ Below w.heap.size w w' := by
  have T := ht.below (below_box w (.cells #[.string ⟨#[]⟩, .int .i64 0, .int .i64 0, .int .i64 0, .int .i64 0] 39))
  obtain ⟨c0, c1, c2, c3, c4⟩ := T.2 k (by omega)
  clear T ht
  go_enter Tryd.func36, Tryd.ntmps36
  go_wp2_with fail
  exact bodyPost_ret (v := rowVal k) (by simp [results, Tryd.results36, go_sem, rowVal]) rfl ⟨rfl, below_box _ _⟩
theorem of_out (op : Int) (w : World) (h : ¬ (1 ≤ op ∧ op ≤ 29)) (ht : Tab w) :
    Calls Tryd.prog 36 #[.int .i64 op] w fun e w' => e = .returned (rowVal 0) ∧ Below w.heap.size w w' := by
  have T := ht.below (below_box w (.cells #[.string ⟨#[]⟩, .int .i64 0, .int .i64 0, .int .i64 0, .int .i64 0] 39))
  obtain ⟨c0, c1, c2, c3, c4⟩ := T.2 0 (by omega)
  simp only [Nat.zero_mul, Nat.zero_add] at c0 c1 c2 c3 c4
  clear T ht
  by_cases h1 : op < 1
  all_goals
    go_enter Tryd.func36, Tryd.ntmps36
    go_wp2_with fail
    exact bodyPost_ret (v := rowVal 0) (by simp [results, Tryd.results36, go_sem, rowVal]) rfl ⟨rfl, below_box _ _⟩
theorem of_any (op : Int) (w : World) (ht : Tab w) :
    Calls Tryd.prog 36 #[.int .i64 op] w fun e w' => e = .returned (rowVal (num op)) ∧ Below w.heap.size w w' := by
  by_cases h : 1 ≤ op ∧ op ≤ 29
  · have e : op = (op.toNat : Int) := by omega
    have := of_in op.toNat w (by omega) (by omega) ht
    rw [← e] at this
    rwa [show num op = op.toNat from if_pos h]
  · rw [num_out h]; exact of_out op w h ht

theorem field_word (a b c d e : Value) (w : World) : Sem.run Tryd.prog (Instr.field 39 (.agg #[a, b, c, d, e]) 0) w = .ok a w := rfl
theorem field_takes (a b c d e : Value) (w : World) : Sem.run Tryd.prog (Instr.field 39 (.agg #[a, b, c, d, e]) 1) w = .ok (.agg #[b, c]) w := rfl
theorem field_makes (a b c d e : Value) (w : World) : Sem.run Tryd.prog (Instr.field 39 (.agg #[a, b, c, d, e]) 2) w = .ok d w := rfl
theorem field_does (a b c d e : Value) (w : World) : Sem.run Tryd.prog (Instr.field 39 (.agg #[a, b, c, d, e]) 3) w = .ok e w := rfl

theorem does_any (op things : Int) (w : World) (ht : Tab w) :
    Calls Tryd.prog 35 #[.int .i64 op, .int .i64 things] w fun e w' => e = .returned (.bool (beside (num op) things)) ∧ Below w.heap.size w w' := by
  have hf := field_does
  go_enter Tryd.func35, Tryd.ntmps35
  go_wp2_with fail
  refine (of_any op _ ht).mono ?_; rintro e w1 ⟨rfl, b1⟩
  unfold rowVal
  go_wp2_with fail
  go_ret
  exact ⟨rfl, b1⟩
theorem traps_any (op : Int) (w : World) (ht : Tab w) : Calls Tryd.prog 18 #[.int .i64 op] w fun e w' => e = .returned (.bool (beside (num op) 1)) ∧ Below w.heap.size w w' := by
  go_enter Tryd.func18, Tryd.ntmps18
  go_wp2_with fail
  refine (does_any op 1 _ ht).mono ?_; rintro e w1 ⟨rfl, b1⟩
  go_wp2_with fail
  go_ret
  exact ⟨rfl, b1⟩
theorem reads_any (op : Int) (w : World) (ht : Tab w) : Calls Tryd.prog 20 #[.int .i64 op] w fun e w' => e = .returned (.bool (beside (num op) 2)) ∧ Below w.heap.size w w' := by
  go_enter Tryd.func20, Tryd.ntmps20
  go_wp2_with fail
  refine (does_any op 2 _ ht).mono ?_; rintro e w1 ⟨rfl, b1⟩
  go_wp2_with fail
  go_ret
  exact ⟨rfl, b1⟩
theorem writes_any (op : Int) (w : World) (ht : Tab w) : Calls Tryd.prog 22 #[.int .i64 op] w fun e w' => e = .returned (.bool (beside (num op) 4)) ∧ Below w.heap.size w w' := by
  go_enter Tryd.func22, Tryd.ntmps22
  go_wp2_with fail
  refine (does_any op 4 _ ht).mono ?_; rintro e w1 ⟨rfl, b1⟩
  go_wp2_with fail
  go_ret
  exact ⟨rfl, b1⟩
theorem seen_any (op : Int) (w : World) (ht : Tab w) : Calls Tryd.prog 24 #[.int .i64 op] w fun e w' => e = .returned (.bool (beside (num op) 28)) ∧ Below w.heap.size w w' := by
  go_enter Tryd.func24, Tryd.ntmps24
  go_wp2_with fail
  refine (does_any op 28 _ ht).mono ?_; rintro e w1 ⟨rfl, b1⟩
  go_wp2_with fail
  go_ret
  exact ⟨rfl, b1⟩
theorem ends_any (op : Int) (w : World) (ht : Tab w) : Calls Tryd.prog 26 #[.int .i64 op] w fun e w' => e = .returned (.bool (beside (num op) 8)) ∧ Below w.heap.size w w' := by
  go_enter Tryd.func26, Tryd.ntmps26
  go_wp2_with fail
  refine (does_any op 8 _ ht).mono ?_; rintro e w1 ⟨rfl, b1⟩
  go_wp2_with fail
  go_ret
  exact ⟨rfl, b1⟩
theorem pure_any (op : Int) (w : World) (ht : Tab w) : Calls Tryd.prog 28 #[.int .i64 op] w fun e w' => e = .returned (.bool (beside (num op) 32)) ∧ Below w.heap.size w w' := by
  go_enter Tryd.func28, Tryd.ntmps28
  go_wp2_with fail
  refine (does_any op 32 _ ht).mono ?_; rintro e w1 ⟨rfl, b1⟩
  go_wp2_with fail
  go_ret
  exact ⟨rfl, b1⟩
theorem safe_any (op : Int) (w : World) (ht : Tab w) : Calls Tryd.prog 30 #[.int .i64 op] w fun e w' => e = .returned (.bool (beside (num op) 64)) ∧ Below w.heap.size w w' := by
  go_enter Tryd.func30, Tryd.ntmps30
  go_wp2_with fail
  refine (does_any op 64 _ ht).mono ?_; rintro e w1 ⟨rfl, b1⟩
  go_wp2_with fail
  go_ret
  exact ⟨rfl, b1⟩
theorem letter_any (t : Int) (w : World) : Calls Tryd.prog 11 #[.int .i64 t] w fun e w' => e = .returned (.string (letter t)) ∧ w' = w := by
  by_cases h1 : t = 1
  · subst h1; go_enter Tryd.func11, Tryd.ntmps11; go_wp2; go_ret; exact ⟨rfl, rfl⟩
  by_cases h2 : t = 2
  · subst h2; go_enter Tryd.func11, Tryd.ntmps11; go_wp2; go_ret; exact ⟨rfl, rfl⟩
  by_cases h3 : t = 3
  · subst h3; go_enter Tryd.func11, Tryd.ntmps11; go_wp2; go_ret; exact ⟨rfl, rfl⟩
  have HL : Hid (letter t = ⟨#[110]⟩) := hide (by simp [letter, h1, h2, h3])
  go_enter Tryd.func11, Tryd.ntmps11
  go_wp2
  go_ret
  exact ⟨ret_str HL.out.symm, rfl⟩
theorem refLetter_any (t : Int) (w : World) : Calls Tryd.prog 12 #[.int .i64 t] w fun e w' => e = .returned (.string (letter t)) ∧ w' = w := by
  by_cases h1 : t = 1
  · subst h1; go_enter Tryd.func12, Tryd.ntmps12; go_wp2; go_ret; exact ⟨rfl, rfl⟩
  by_cases h2 : t = 2
  · subst h2; go_enter Tryd.func12, Tryd.ntmps12; go_wp2; go_ret; exact ⟨rfl, rfl⟩
  by_cases h3 : t = 3
  · subst h3; go_enter Tryd.func12, Tryd.ntmps12; go_wp2; go_ret; exact ⟨rfl, rfl⟩
  have HL : Hid (letter t = ⟨#[110]⟩) := hide (by simp [letter, h1, h2, h3])
  go_enter Tryd.func12, Tryd.ntmps12
  go_wp2
  go_ret
  exact ⟨ret_str HL.out.symm, rfl⟩
theorem may_any (op t : Int) (w : World) : Calls Tryd.prog 13 #[.int .i64 op, .int .i64 t] w fun e w' => e = .returned (.bool (may op t)) ∧ w' = w := by
  by_cases h1 : op = 20
  · subst h1
    have HL : Hid (may 20 t = decide (t = 1 ∨ t = 2 ∨ t = 3)) := hide rfl
    go_enter Tryd.func13, Tryd.ntmps13
    go_wp2
    all_goals (go_ret; refine ⟨ret_bool ?_, rfl⟩; rw [HL.out, Bool.eq_iff_iff]; simp; try omega)
  by_cases h2 : op = 21
  · subst h2
    have HL : Hid (may 21 t = decide (t = 0 ∨ t = 1 ∨ t = 2)) := hide rfl
    go_enter Tryd.func13, Tryd.ntmps13
    go_wp2
    all_goals (go_ret; refine ⟨ret_bool ?_, rfl⟩; rw [HL.out, Bool.eq_iff_iff]; simp; try omega)
  by_cases h3 : op = 24
  · subst h3
    have HL : Hid (may 24 t = decide (t = 2 ∨ t = 3)) := hide rfl
    go_enter Tryd.func13, Tryd.ntmps13
    go_wp2
    all_goals (go_ret; refine ⟨ret_bool ?_, rfl⟩; rw [HL.out, Bool.eq_iff_iff]; simp; try omega)
  have HL : Hid (may op t = decide (t = 0)) := hide (by simp [may, h1, h2, h3])
  go_enter Tryd.func13, Tryd.ntmps13
  go_wp2
  all_goals (go_ret; refine ⟨ret_bool ?_, rfl⟩; rw [HL.out, Bool.eq_iff_iff]; simp; try omega)
theorem refMay_any (op t : Int) (w : World) : Calls Tryd.prog 14 #[.int .i64 op, .int .i64 t] w fun e w' => e = .returned (.bool (may op t)) ∧ w' = w := by
  by_cases h1 : op = 20
  · subst h1
    have HL : Hid (may 20 t = decide (t = 1 ∨ t = 2 ∨ t = 3)) := hide rfl
    go_enter Tryd.func14, Tryd.ntmps14
    go_wp2
    all_goals (go_ret; refine ⟨ret_bool ?_, rfl⟩; rw [HL.out, Bool.eq_iff_iff]; simp; try omega)
  by_cases h2 : op = 21
  · subst h2
    have HL : Hid (may 21 t = decide (t = 0 ∨ t = 1 ∨ t = 2)) := hide rfl
    go_enter Tryd.func14, Tryd.ntmps14
    go_wp2
    all_goals (go_ret; refine ⟨ret_bool ?_, rfl⟩; rw [HL.out, Bool.eq_iff_iff]; simp; try omega)
  by_cases h3 : op = 24
  · subst h3
    have HL : Hid (may 24 t = decide (t = 2 ∨ t = 3)) := hide rfl
    go_enter Tryd.func14, Tryd.ntmps14
    go_wp2
    all_goals (go_ret; refine ⟨ret_bool ?_, rfl⟩; rw [HL.out, Bool.eq_iff_iff]; simp; try omega)
  have HL : Hid (may op t = decide (t = 0)) := hide (by simp [may, h1, h2, h3])
  go_enter Tryd.func14, Tryd.ntmps14
  go_wp2
  all_goals (go_ret; refine ⟨ret_bool ?_, rfl⟩; rw [HL.out, Bool.eq_iff_iff]; simp; try omega)
theorem typed_any (op : Int) (w : World) : Calls Tryd.prog 37 #[.int .i64 op] w fun e w' => e = .returned (.bool (beside (num op) 128)) ∧ w' = w := by
  have HL := hide (typed_l op)
  go_enter Tryd.func37, Tryd.ntmps37
  go_wp2
  all_goals (go_ret; refine ⟨ret_bool ?_, rfl⟩; rw [← HL.out, Bool.eq_iff_iff]; simp [typedL]; try omega)
theorem refEnds_any (op : Int) (w : World) : Calls Tryd.prog 27 #[.int .i64 op] w fun e w' => e = .returned (.bool (beside (num op) 8)) ∧ w' = w := by
  have HL := hide (ends_l op)
  go_enter Tryd.func27, Tryd.ntmps27
  go_wp2
  all_goals (go_ret; refine ⟨ret_bool ?_, rfl⟩; rw [← HL.out, Bool.eq_iff_iff]; simp [endsL]; try omega)
theorem refSafe_any (op : Int) (w : World) : Calls Tryd.prog 31 #[.int .i64 op] w fun e w' => e = .returned (.bool (beside (num op) 64)) ∧ w' = w := by
  have HL := hide (safe_l op)
  go_enter Tryd.func31, Tryd.ntmps31
  go_wp2
  all_goals (go_ret; refine ⟨ret_bool ?_, rfl⟩; rw [← HL.out, Bool.eq_iff_iff]; simp [safeL]; try omega)
end Go.Proofs.YtjnndcellbhpaaaDoor
