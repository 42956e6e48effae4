/- The laws ArithDoes and ArithTurns, whatever they are given. -/
import Derived.Test.YthgockhdkmijoaaWalksF
namespace Go.Proofs.Ythgockhdkmijoaa
open Go Go.RowKit

theorem does_any (op a b : Int) (w : World) : Calls Try.prog 3 #[.int .i64 op, .int .i64 a, .int .i64 b] w fun e w' => e = .returned (.bool true) ∧ Below w.heap.size w w' := by
  go_enter Try.func3, Try.ntmps3
  go_wp2_with fail
  refine (do_two _ _ _ _).mono ?_; rintro e w1 ⟨rfl, rfl⟩
  go_wp2_with fail
  refine (refDo_two _ _ _ _).mono ?_; rintro e w1 ⟨rfl, rfl⟩
  go_wp2_with fail
  refine (is_any _ _).mono ?_; rintro e w1 ⟨rfl, rfl⟩
  go_wp2_with fail
  refine (refIs_any _ _).mono ?_; rintro e w1 ⟨rfl, rfl⟩
  go_wp2_with fail
  refine (turns_any _ _).mono ?_; rintro e w1 ⟨rfl, rfl⟩
  go_wp2_with fail
  refine (refTurns_any _ _).mono ?_; rintro e w1 ⟨rfl, rfl⟩
  go_wp2_with fail
  refine (works_any _).mono ?_; rintro e w1 ⟨rfl, b1⟩
  go_wp2_with fail
  go_ret
  exact ⟨rfl, b1⟩

theorem turn_makes {op : Int} (h : turnsOp op = true) (a b : Int) : makes op a b = makes op b a := by
  have h' : op = 2 ∨ op = 4 ∨ op = 7 ∨ op = 9 := by simpa [turnsOp] using h
  rcases h' with rfl | rfl | rfl | rfl
  · simp [makes, Int.add_comm]
  · simp [makes, Int.mul_comm]
  · simp [makes, eq_comm]
  · simp [makes]
theorem turn_traps {op : Int} (h : turnsOp op = true) (a : Int) : traps op a = 0 := by
  refine traps_other ?_ a
  rintro rfl
  cases h

theorem turns_yes {op : Int} (h : turnsOp op = true) (a b : Int) (w : World) : Calls Try.prog 6 #[.int .i64 op, .int .i64 a, .int .i64 b] w fun e w' => e = .returned (.bool true) ∧ Below w.heap.size w w' := by
  have H := hide h
  clear h
  go_enter Try.func6, Try.ntmps6
  go_wp2_with fail
  refine (turns_as H.out _).mono ?_; rintro e w1 ⟨rfl, rfl⟩
  go_wp2_with fail
  refine (do_as rfl (turn_traps H.out b) _).mono ?_; rintro e w1 ⟨rfl, rfl⟩
  go_wp2_with fail
  refine (do_as (turn_makes H.out b a) (turn_traps H.out a) _).mono ?_; rintro e w1 ⟨rfl, rfl⟩
  go_wp2_with fail
  refine (works_any _).mono ?_; rintro e w1 ⟨rfl, b1⟩
  go_wp2_with fail
  go_ret
  exact ⟨rfl, b1⟩
theorem turns_none {op : Int} (h : turnsOp op = false) (hI : isOp op = false) (a b : Int) (w : World) : Calls Try.prog 6 #[.int .i64 op, .int .i64 a, .int .i64 b] w fun e w' => e = .returned (.bool true) ∧ Below w.heap.size w w' := by
  have H := hide h
  have HI := hide hI
  clear h hI
  go_enter Try.func6, Try.ntmps6
  go_wp2_with fail
  refine (turns_as H.out _).mono ?_; rintro e w1 ⟨rfl, rfl⟩
  go_wp2_with fail
  refine (is_as HI.out _).mono ?_; rintro e w1 ⟨rfl, rfl⟩
  go_wp2_with fail
  refine (works_any _).mono ?_; rintro e w1 ⟨rfl, b1⟩
  go_wp2_with fail
  go_ret
  exact ⟨rfl, b1⟩
theorem turns_not {op x y : Int} (h : turnsOp op = false) (hI : isOp op = true) (hx : makes op 7 2 = x) (hy : makes op 2 7 = y) (hne : (x == y) = false) (a b : Int) (w : World) : Calls Try.prog 6 #[.int .i64 op, .int .i64 a, .int .i64 b] w fun e w' => e = .returned (.bool true) ∧ Below w.heap.size w w' := by
  have H := hide h
  have HI := hide hI
  have HX := hide hx
  have HY := hide hy
  have hne' : (x != y) = true := by simpa using hne
  clear h hI hx hy
  go_enter Try.func6, Try.ntmps6
  go_wp2_with fail
  refine (turns_as H.out _).mono ?_; rintro e w1 ⟨rfl, rfl⟩
  go_wp2_with fail
  refine (is_as HI.out _).mono ?_; rintro e w1 ⟨rfl, rfl⟩
  go_wp2_with fail
  refine (do_as HX.out rfl _).mono ?_; rintro e w1 ⟨rfl, rfl⟩
  go_wp2_with fail
  refine (do_as HY.out rfl _).mono ?_; rintro e w1 ⟨rfl, rfl⟩
  go_wp2_with fail
  refine (works_any _).mono ?_; rintro e w1 ⟨rfl, b1⟩
  go_wp2_with fail
  go_ret
  exact ⟨rfl, b1⟩
theorem turns_all (op a b : Int) (w : World) : Calls Try.prog 6 #[.int .i64 op, .int .i64 a, .int .i64 b] w fun e w' => e = .returned (.bool true) ∧ Below w.heap.size w w' := by
  by_cases h : turnsOp op = true
  · exact turns_yes h a b w
  · have h' : turnsOp op = false := by simpa using h
    by_cases hI : isOp op = true
    · have hc : op = 3 ∨ op = 5 ∨ op = 6 := by simp [turnsOp] at h'; simp [isOp] at hI; omega
      rcases hc with rfl | rfl | rfl
      · exact turns_not (x := 5) (y := -5) h' hI (by decide +kernel) (by decide +kernel) rfl a b w
      · exact turns_not (x := 3) (y := 0) h' hI (by decide +kernel) (by decide +kernel) rfl a b w
      · exact turns_not (x := 0) (y := 1) h' hI (by decide +kernel) (by decide +kernel) rfl a b w
    · exact turns_none h' (by simpa using hI) a b w
end Go.Proofs.Ythgockhdkmijoaa
