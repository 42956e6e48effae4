/- The small check that each law ends with. -/
import Derived.Test.YthgockhdkmijoaaWalksC
namespace Go.Proofs.Ythgockhdkmijoaa
open Go Go.RowKit

theorem do_as {op a b x t : Int} (hx : makes op a b = x) (ht : traps op b = t) (w : World) : Calls Try.prog 7 #[.int .i64 op, .int .i64 a, .int .i64 b] w fun e w' => e = .returned (.tuple #[.int .i64 x, .int .i64 t]) ∧ w' = w := by
  subst hx ht; exact do_two op a b w
theorem turns_as {op : Int} {r : Bool} (h : turnsOp op = r) (w : World) : Calls Try.prog 11 #[.int .i64 op] w fun e w' => e = .returned (.bool r) ∧ w' = w := h ▸ turns_any op w
theorem times_zero (w : World) : Calls Try.prog 14 #[.int .i64 4, .agg #[.bool false, .bool true], .agg #[.int .i64 0, .int .i64 0]] w fun e w' => e = .returned (.tuple #[.int .i64 2, .int .i64 0]) ∧ Below w.heap.size w w' := by
  have h : simple 4 false true 0 0 = (2, 0) := by decide
  have := s_4_nk0 0 w
  unfold SimpleAt at this
  rw [h] at this
  exact this

theorem works_any (w : World) : Calls Try.prog 13 #[] w fun e w' => e = .returned (.bool true) ∧ Below w.heap.size w w' := by
  go_enter Try.func13, Try.ntmps13
  go_wp2_with fail
  refine (do_as (x := -9223372036854775808) (t := 0) (by decide +kernel) (by decide) _).mono ?_; rintro e w1 ⟨rfl, rfl⟩
  go_wp2_with fail
  refine (do_as (x := 0) (t := 3) (by decide) (by decide) _).mono ?_; rintro e w1 ⟨rfl, rfl⟩
  go_wp2_with fail
  refine (do_as (x := -9223372036854775808) (t := 0) (by decide +kernel) (by decide) _).mono ?_; rintro e w1 ⟨rfl, rfl⟩
  go_wp2_with fail
  refine (times_zero _).mono ?_; rintro e w1 ⟨rfl, b1⟩
  go_wp2_with fail
  refine (is_as (r := true) rfl _).mono ?_; rintro e w1 ⟨rfl, rfl⟩
  go_wp2_with fail
  refine (is_as (r := false) rfl _).mono ?_; rintro e w1 ⟨rfl, rfl⟩
  go_wp2_with fail
  refine (turns_as (r := true) rfl _).mono ?_; rintro e w1 ⟨rfl, rfl⟩
  go_wp2_with fail
  refine (turns_as (r := false) rfl _).mono ?_; rintro e w1 ⟨rfl, rfl⟩
  go_wp2_with fail
  go_ret
  exact ⟨rfl, b1⟩
end Go.Proofs.Ythgockhdkmijoaa
