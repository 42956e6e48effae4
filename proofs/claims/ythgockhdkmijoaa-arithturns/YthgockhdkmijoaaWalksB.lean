/- The literal inside Simple, and what Simple answers where both numbers are known. -/
import Derived.Test.YthgockhdkmijoaaWalksA
namespace Go.Proofs.Ythgockhdkmijoaa
open Go Go.RowKit

theorem do_two (op a b : Int) (w : World) : Calls Try.prog 7 #[.int .i64 op, .int .i64 a, .int .i64 b] w fun e w' => e = .returned (.tuple #[.int .i64 (makes op a b), .int .i64 (traps op b)]) ∧ w' = w := do_any op a b w
theorem refDo_two (op a b : Int) (w : World) : Calls Try.prog 8 #[.int .i64 op, .int .i64 a, .int .i64 b] w fun e w' => e = .returned (.tuple #[.int .i64 (makes op a b), .int .i64 (traps op b)]) ∧ w' = w := refDo_any op a b w

theorem below_box (w : World) (o : Obj) : Below w.heap.size w (w.alloc o) := (Below.refl _ _).alloc (Nat.le_refl _) _
theorem below_box2 (w : World) (o p : Obj) : Below w.heap.size w ((w.alloc o).alloc p) := (below_box w o).alloc (by simp) _
theorem below_new {w w1 : World} {o : Obj} (h : Below (w.alloc o).heap.size (w.alloc o) w1) : Below w.heap.size w w1 := (below_box w o).trans (h.mono (by simp))
theorem below_step {a b c : World} (h : Below a.heap.size a b) (k : Below b.heap.size b c) : Below a.heap.size a c := h.trans (k.mono h.size)

/-- Two cells of a block, which may be written. -/
def Pair (w : World) (g : Nat) (a b : Value) : Prop :=
  w.cell? ⟨g, 0, none⟩ = some a ∧ w.cell? ⟨g, 1, none⟩ = some b ∧ w.frozen? ⟨g, 0, none⟩ = false ∧ w.frozen? ⟨g, 1, none⟩ = false ∧ g < w.heap.size
theorem Pair.new (w : World) (t : TypeId) {a b : Value} : Pair (w.alloc (.cells #[a, b] t)) w.heap.size a b := by
  refine ⟨?_, ?_, ?_, ?_, by simp⟩ <;> simp [go_sem]
theorem Pair.below {w w1 : World} {g : Nat} {a b : Value} (h : Pair w g a b) (hb : Below w.heap.size w w1) : Pair w1 g a b := by
  obtain ⟨c0, c1, f0, f1, z⟩ := h
  exact ⟨(hb.cell z).trans c0, (hb.cell z).trans c1, (hb.frozen z).trans f0, (hb.frozen z).trans f1, Nat.lt_of_lt_of_le z hb.size⟩
theorem Pair.alloc {w : World} {g : Nat} {a b : Value} (h : Pair w g a b) (o : Obj) : Pair (w.alloc o) g a b := h.below (below_box w o)

theorem surely0 {k0 : Bool} {x : Value} {n0 : Int} {y : Value} {g h : Nat} {w : World} (m : Int) (r : Bool) (P : Pair w g (.bool k0) x) (Q : Pair w h (.int .i64 n0) y) (hr : (k0 && n0 == m) = r) :
    Calls Try.prog 19 #[.int .i64 0, .int .i64 m, .pointer (some ⟨g, 0, none⟩), .pointer (some ⟨h, 0, none⟩)] w fun e w' => e = .returned (.bool r) ∧ w' = w := by
  obtain ⟨c0, _, _, _, _⟩ := P
  obtain ⟨d0, _, _, _, _⟩ := Q
  have hH := hide hr
  clear hr
  cases k0
  all_goals
    go_enter Try.func19, Try.ntmps19
    go_wp2
    go_ret
    refine ⟨ret_bool ?_, rfl⟩
    simpa using hH.out
theorem surely1 {k1 : Bool} {x : Value} {n1 : Int} {y : Value} {g h : Nat} {w : World} (m : Int) (r : Bool) (P : Pair w g x (.bool k1)) (Q : Pair w h y (.int .i64 n1)) (hr : (k1 && n1 == m) = r) :
    Calls Try.prog 19 #[.int .i64 1, .int .i64 m, .pointer (some ⟨g, 0, none⟩), .pointer (some ⟨h, 0, none⟩)] w fun e w' => e = .returned (.bool r) ∧ w' = w := by
  obtain ⟨_, c0, _, _, _⟩ := P
  obtain ⟨_, d0, _, _, _⟩ := Q
  have hH := hide hr
  clear hr
  cases k1
  all_goals
    go_enter Try.func19, Try.ntmps19
    go_wp2
    go_ret
    refine ⟨ret_bool ?_, rfl⟩
    simpa using hH.out

theorem whole_any (op n0 n1 : Int) (w : World) : Calls Try.prog 18 #[.int .i64 op, .agg #[.int .i64 n0, .int .i64 n1]] w fun e w' =>
    e = .returned (.tuple #[.int .i64 (whole op n0 n1).1, .int .i64 (whole op n0 n1).2]) ∧ Below w.heap.size w w' := by
  by_cases ht : op = 5 ∧ n1 = 0
  · have h3 : traps op n1 = 3 := by simp [traps, ht]
    have HQ := hide h3
    have HW : Hid (whole op n0 n1 = (-1, 0)) := hide (by unfold whole; rw [h3]; rfl)
    clear h3 ht
    go_enter Try.func18, Try.ntmps18
    go_wp2_with fail
    refine (do_two _ _ _ _).mono ?_; rintro e w1 ⟨rfl, rfl⟩
    rw [HQ.out]
    go_wp2_with fail
    go_ret2
    exact ⟨by rw [HW.out]; rfl, below_box _ _⟩
  · have h3 : traps op n1 = 0 := by simp only [traps, if_neg ht]
    have HQ := hide h3
    have HW : Hid (whole op n0 n1 = (2, makes op n0 n1)) := hide (by unfold whole; rw [h3]; rfl)
    clear h3 ht
    go_enter Try.func18, Try.ntmps18
    go_wp2_with fail
    refine (do_two _ _ _ _).mono ?_; rintro e w1 ⟨rfl, rfl⟩
    rw [HQ.out]
    go_wp2_with fail
    go_ret2
    exact ⟨by rw [HW.out]; rfl, below_box _ _⟩
end Go.Proofs.Ythgockhdkmijoaa
