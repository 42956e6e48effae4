/- The functions of numbers alone: Is, Turns, Do, of the program and of the reference. -/
import Derived.Test.YthgockhdkmijoaaProg
import Derived.Test.YthgockhdkmijoaaMath
import Derived.WalkKit
import Derived.WalkSpells
import Derived.WalkSmall
import Derived.WalkLawsBesides
import Derived.KernelRfl
import Derived.Below
import Derived.Deep.QuietTactic
import Derived.BigQuiet
namespace Go.Proofs.Ythgockhdkmijoaa
open Go Go.RowKit

theorem hide {p : Prop} (h : p) : Hid p := h
theorem ret_bool {x y : Bool} (h : x = y) : Ending.returned (.bool x) = .returned (.bool y) := by rw [h]
theorem ret_int {x y : Int} (h : x = y) : Ending.returned (.int .i64 x) = .returned (.int .i64 y) := by rw [h]
theorem ret_two {x y u v : Int} (h : x = y) (k : u = v) : Ending.returned (.tuple #[.int .i64 x, .int .i64 u]) = .returned (.tuple #[.int .i64 y, .int .i64 v]) := by rw [h, k]

theorem is_any (op : Int) (w : World) : Calls Try.prog 9 #[.int .i64 op] w fun e w' => e = .returned (.bool (isOp op)) ∧ w' = w := by
  rcases op_cases op with rfl | rfl | rfl | rfl | rfl | rfl | h
  case inr.inr.inr.inr.inr.inr =>
    have hI := hide (isOp_other h)
    obtain ⟨h2, h3, h4, h5, h6, h7⟩ := h
    go_enter Try.func9, Try.ntmps9
    go_wp2
    go_ret
    exact ⟨ret_bool hI.out.symm, rfl⟩
  all_goals
    go_enter Try.func9, Try.ntmps9
    go_wp2
    go_ret
    exact ⟨rfl, rfl⟩

theorem refIs_any (op : Int) (w : World) : Calls Try.prog 10 #[.int .i64 op] w fun e w' => e = .returned (.bool (isOp op)) ∧ w' = w := by
  by_cases h1 : 2 ≤ op
  · by_cases h2 : op ≤ 7
    · go_enter Try.func10, Try.ntmps10
      go_wp2
      go_ret
      exact ⟨ret_bool (by unfold isOp; simp; omega), rfl⟩
    · go_enter Try.func10, Try.ntmps10
      go_wp2
      go_ret
      exact ⟨ret_bool (by unfold isOp; simp; omega), rfl⟩
  · go_enter Try.func10, Try.ntmps10
    go_wp2
    go_ret
    exact ⟨ret_bool (by unfold isOp; simp; omega), rfl⟩

theorem turns_cases (op : Int) : op = 2 ∨ op = 4 ∨ op = 7 ∨ op = 9 ∨ (op ≠ 2 ∧ op ≠ 4 ∧ op ≠ 7 ∧ op ≠ 9) := by omega
theorem turns_any (op : Int) (w : World) : Calls Try.prog 11 #[.int .i64 op] w fun e w' => e = .returned (.bool (turnsOp op)) ∧ w' = w := by
  rcases turns_cases op with rfl | rfl | rfl | rfl | h
  case inr.inr.inr.inr =>
    have hI : Hid (turnsOp op = false) := hide (by unfold turnsOp; simp; omega)
    obtain ⟨h2, h3, h4, h5⟩ := h
    go_enter Try.func11, Try.ntmps11
    go_wp2
    go_ret
    exact ⟨ret_bool hI.out.symm, rfl⟩
  all_goals
    go_enter Try.func11, Try.ntmps11
    go_wp2
    go_ret
    exact ⟨rfl, rfl⟩
theorem refTurns_any (op : Int) (w : World) : Calls Try.prog 12 #[.int .i64 op] w fun e w' => e = .returned (.bool (turnsOp op)) ∧ w' = w := by
  go_enter Try.func12, Try.ntmps12
  go_wp2
  all_goals
    go_ret
    exact ⟨ret_bool (by unfold turnsOp; grind), rfl⟩

theorem truth_any (b : Bool) (w : World) : Calls Try.prog 16 #[.bool b] w fun e w' => e = .returned (.int .i64 (one b)) ∧ w' = w := by
  cases b
  all_goals
    go_enter Try.func16, Try.ntmps16
    go_wp2
    go_ret
    exact ⟨rfl, rfl⟩
theorem quotient_any (a b : Int) (w : World) (hb : b ≠ 0) : Calls Try.prog 17 #[.int .i64 a, .int .i64 b] w fun e w' => e = .returned (.int .i64 (wrap64 (a.tdiv b))) ∧ w' = w := by
  by_cases h : b = -1
  · have hQ := hide (tdiv_minus a)
    subst h
    go_enter Try.func17, Try.ntmps17
    go_wp2
    go_ret
    exact ⟨ret_int (by rw [hQ.out, Int.zero_sub]), rfl⟩
  · go_enter Try.func17, Try.ntmps17
    go_wp2
    go_ret
    exact ⟨ret_int rfl, rfl⟩

/-- What Do makes, and by which trap it ends. -/
def doesV (op a b : Int) : Value := .tuple #[.int .i64 (makes op a b), .int .i64 (traps op b)]
theorem ret_does {op a b x y : Int} (h : x = makes op a b) (k : y = traps op b) : Ending.returned (.tuple #[.int .i64 x, .int .i64 y]) = .returned (doesV op a b) := by rw [h, k]; rfl

theorem do_any (op a b : Int) (w : World) : Calls Try.prog 7 #[.int .i64 op, .int .i64 a, .int .i64 b] w fun e w' => e = .returned (doesV op a b) ∧ w' = w := by
  rcases op_cases op with rfl | rfl | rfl | rfl | rfl | rfl | h
  · go_enter Try.func7, Try.ntmps7
    go_wp2
    go_ret2
    exact ⟨ret_does rfl rfl, rfl⟩
  · have hQ := hide (wrap_neg a b)
    go_enter Try.func7, Try.ntmps7
    go_wp2
    go_ret2
    exact ⟨ret_does hQ.out rfl, rfl⟩
  · go_enter Try.func7, Try.ntmps7
    go_wp2
    go_ret2
    exact ⟨ret_does rfl rfl, rfl⟩
  · by_cases hb : b = 0
    · have hQ : Hid (0 = makes 5 a b) := hide (by simp [makes, hb])
      have hR : Hid (3 = traps 5 b) := hide (by simp [traps, hb])
      go_enter Try.func7, Try.ntmps7
      go_wp2
      go_ret2
      exact ⟨ret_does hQ.out hR.out, rfl⟩
    · have hQ : Hid (wrap64 (a.tdiv b) = makes 5 a b) := hide (by simp [makes, hb])
      have hR : Hid (0 = traps 5 b) := hide (by simp [traps, hb])
      go_enter Try.func7, Try.ntmps7
      go_wp2
      go_ret2
      exact ⟨ret_does hQ.out hR.out, rfl⟩
  · go_enter Try.func7, Try.ntmps7
    go_wp2_with fail
    refine (truth_any _ _).mono ?_
    rintro e w1 ⟨rfl, rfl⟩
    go_wp2
    go_ret2
    exact ⟨ret_does rfl rfl, rfl⟩
  · go_enter Try.func7, Try.ntmps7
    go_wp2_with fail
    refine (truth_any _ _).mono ?_
    rintro e w1 ⟨rfl, rfl⟩
    go_wp2
    go_ret2
    exact ⟨ret_does rfl rfl, rfl⟩
  · have hQ := hide (makes_other h a b)
    have hR := hide (traps_other h.2.2.2.1 b)
    obtain ⟨h2, h3, h4, h5, h6, h7⟩ := h
    go_enter Try.func7, Try.ntmps7
    go_wp2
    go_ret2
    exact ⟨ret_does hQ.out.symm hR.out.symm, rfl⟩

theorem refDo_any (op a b : Int) (w : World) : Calls Try.prog 8 #[.int .i64 op, .int .i64 a, .int .i64 b] w fun e w' => e = .returned (doesV op a b) ∧ w' = w := by
  rcases op_cases op with rfl | rfl | rfl | rfl | rfl | rfl | h
  · go_enter Try.func8, Try.ntmps8
    go_wp2
    go_ret2
    exact ⟨ret_does rfl rfl, rfl⟩
  · go_enter Try.func8, Try.ntmps8
    go_wp2
    go_ret2
    exact ⟨ret_does rfl rfl, rfl⟩
  · go_enter Try.func8, Try.ntmps8
    go_wp2
    go_ret2
    exact ⟨ret_does rfl rfl, rfl⟩
  · by_cases hb : b = 0
    · have hQ : Hid (0 = makes 5 a b) := hide (by simp [makes, hb])
      have hR : Hid (3 = traps 5 b) := hide (by simp [traps, hb])
      go_enter Try.func8, Try.ntmps8
      go_wp2
      go_ret2
      exact ⟨ret_does hQ.out hR.out, rfl⟩
    · have hQ : Hid (wrap64 (a.tdiv b) = makes 5 a b) := hide (by simp [makes, hb])
      have hR : Hid (0 = traps 5 b) := hide (by simp [traps, hb])
      go_enter Try.func8, Try.ntmps8
      go_wp2_with fail
      refine (quotient_any _ _ _ hb).mono ?_
      rintro e w1 ⟨rfl, rfl⟩
      go_wp2
      go_ret2
      exact ⟨ret_does hQ.out hR.out, rfl⟩
  · by_cases hb : a < b
    · have hQ : Hid (1 = makes 6 a b) := hide (by simp [makes, one, hb])
      go_enter Try.func8, Try.ntmps8
      go_wp2
      go_ret2
      exact ⟨ret_does hQ.out rfl, rfl⟩
    · have hQ : Hid (0 = makes 6 a b) := hide (by simp [makes, one]; omega)
      go_enter Try.func8, Try.ntmps8
      go_wp2
      go_ret2
      exact ⟨ret_does hQ.out rfl, rfl⟩
  · by_cases hb : a = b
    · have hQ : Hid (1 = makes 7 a b) := hide (by simp [makes, one, hb])
      go_enter Try.func8, Try.ntmps8
      go_wp2
      go_ret2
      exact ⟨ret_does hQ.out rfl, rfl⟩
    · have hQ : Hid (0 = makes 7 a b) := hide (by simp [makes, one, hb])
      go_enter Try.func8, Try.ntmps8
      go_wp2
      go_ret2
      exact ⟨ret_does hQ.out rfl, rfl⟩
  · have hQ := hide (makes_other h a b)
    have hR := hide (traps_other h.2.2.2.1 b)
    obtain ⟨h2, h3, h4, h5, h6, h7⟩ := h
    go_enter Try.func8, Try.ntmps8
    go_wp2
    go_ret2
    exact ⟨ret_does hQ.out.symm hR.out.symm, rfl⟩
end Go.Proofs.Ythgockhdkmijoaa
