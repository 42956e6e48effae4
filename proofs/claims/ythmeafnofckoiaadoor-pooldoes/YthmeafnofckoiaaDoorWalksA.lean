/- The small functions of numbers: two to a number, the greatest mask, and the word ahead of an object. -/
import Derived.Test.YthmeafnofckoiaaDoorProg
import Derived.Test.YthmeafnofckoiaaDoorMath
import Derived.WalkKit
import Derived.WalkSpells
import Derived.WalkSmall
import Derived.WalkLawsBesides
import Derived.KernelRfl
import Derived.Below
import Derived.Deep.QuietTactic
import Derived.BigQuiet
namespace Go.Proofs.YthmeafnofckoiaaDoor
open Go Go.RowKit

theorem hide {p : Prop} (h : p) : Hid p := h
theorem int_val {k : IntKind} {a b : Int} (h : a = b) : Value.int k a = .int k b := congrArg (Value.int k) h
theorem ret_int {k : IntKind} {x y : Int} (h : x = y) : Ending.returned (.int k x) = .returned (.int k y) := congrArg Ending.returned (int_val h)

theorem power_any (n : Nat) (w : World) (hn : n ≤ 16) :
    Calls Tryd.prog 34 #[.int .i64 n] w fun e w' => e = .returned (.int .i64 (pw n)) ∧ w' = w := by
  go_enter Tryd.func34, Tryd.ntmps34
  go_wp2
  go_loop [3, 4] (fun o i => ∃ k : Nat, k ≤ n ∧ i = .int .i64 k ∧ o = .int .i64 (pw k)) (fun _ i => n - (intOf i).toNat)
  case atStart => exact ⟨0, Nat.zero_le _, rfl, rfl⟩
  case round =>
    obtain ⟨k, hk, rfl, rfl⟩ := hrel
    have h1 := pw_pos k
    have h2 := pw_le (k := k) (by omega)
    by_cases hlt : k < n
    · go_wp2
      go_round
      case rel => exact ⟨k + 1, by omega, by go_num, int_val (pw_succ k).symm⟩
      case measure => simp [intOf]; omega
    · go_wp2
      go_ret
      have : k = n := by omega
      subst this
      exact ⟨rfl, rfl⟩

theorem all_any (n : Nat) (w : World) (hn : n ≤ 16) :
    Calls Tryd.prog 35 #[.int .i64 n] w fun e w' => e = .returned (.int .i64 (pw n - 1)) ∧ w' = w := by
  have h1 := pw_pos n
  have h2 := pw_le hn
  have HE : Hid ((2 : Int) ^ n = pw n) := hide (by unfold pw; simp)
  go_enter Tryd.func35, Tryd.ntmps35
  go_wp2
  go_ret
  refine ⟨ret_int ?_, rfl⟩
  rw [HE.out, IntWalk.wrap64_in (pw n) ⟨by omega, by omega⟩, IntWalk.wrap64_in (pw n - 1) ⟨by omega, by omega⟩]

theorem below_drew {B : Nat} {a w : World} (h : Below B a w) (n : Nat) : Below B a (w.drewN n) := ⟨h.1, h.2, h.3, h.4, h.5⟩
theorem below_box (w : World) (o : Obj) : Below w.heap.size w (w.alloc o) := (Below.refl _ _).alloc (Nat.le_refl _) _



theorem check_no0 (s m : Int) (w : World) (h : s < 0) :
    Calls Tryd.prog 27 #[.agg #[.int .i64 s, .int .i64 m]] w fun e w' => e = .returned (.int .i64 16) ∧ Below w.heap.size w w' := by
  go_enter Tryd.func27, Tryd.ntmps27
  go_wp2_with fail
  go_quiet (fail)
  go_wp2
  go_ret
  exact ⟨rfl, below_drew (below_box _ _) _⟩
theorem check_no1 (s m : Int) (w : World) (h : 16 < s) :
    Calls Tryd.prog 27 #[.agg #[.int .i64 s, .int .i64 m]] w fun e w' => e = .returned (.int .i64 16) ∧ Below w.heap.size w w' := by
  have d0 : decide (s < 0) = false := by simp; omega
  go_enter Tryd.func27, Tryd.ntmps27
  go_wp2_with fail
  go_quiet (fail)
  go_wp2
  go_ret
  exact ⟨rfl, below_drew (below_box _ _) _⟩
theorem check_no2 (s m : Int) (w : World) (h0 : 0 ≤ s) (h1 : s ≤ 16) (h : m < 0) :
    Calls Tryd.prog 27 #[.agg #[.int .i64 s, .int .i64 m]] w fun e w' => e = .returned (.int .i64 16) ∧ Below w.heap.size w w' := by
  have d0 : decide (s < 0) = false := by simp; omega
  have d1 : decide (16 < s) = false := by simp; omega
  go_enter Tryd.func27, Tryd.ntmps27
  go_wp2_with fail
  go_quiet (fail)
  go_wp2
  go_ret
  exact ⟨rfl, below_drew (below_box _ _) _⟩
theorem check_no3 (n : Nat) (m : Int) (w : World) (h1 : n ≤ 16) (h2 : 0 ≤ m) (h : pw n ≤ m) :
    Calls Tryd.prog 27 #[.agg #[.int .i64 n, .int .i64 m]] w fun e w' => e = .returned (.int .i64 16) ∧ Below w.heap.size w w' := by
  have d0 : decide ((n : Int) < 0) = false := decide_eq_false (by omega)
  have d1 : decide (16 < (n : Int)) = false := by simp; omega
  have d2 : decide (m < 0) = false := by simp; omega
  have d3 : decide (pw n - 1 < m) = true := by simp; omega
  go_enter Tryd.func27, Tryd.ntmps27
  go_wp2_with fail
  go_quiet ((go_at_call 35; exact Calls.quiet_of_same (all_any _ _ h1)))
  go_wp2
  go_ret
  exact ⟨rfl, below_drew (below_box _ _) _⟩
theorem check_yes (n m : Nat) (w : World) (h1 : n ≤ 16) (h : m < 2 ^ n) :
    Calls Tryd.prog 27 #[.agg #[.int .i64 n, .int .i64 m]] w fun e w' => e = .returned (.int .i64 0) ∧ Below w.heap.size w w' := by
  have d0 : decide ((n : Int) < 0) = false := decide_eq_false (by omega)
  have d1 : decide (16 < (n : Int)) = false := by simp; omega
  have d2 : decide ((m : Int) < 0) = false := decide_eq_false (by omega)
  have d3 : decide (pw n - 1 < (m : Int)) = false := decide_eq_false (by unfold pw; omega)
  clear h
  go_enter Tryd.func27, Tryd.ntmps27
  go_wp2_with fail
  go_quiet ((go_at_call 35; exact Calls.quiet_of_same (all_any _ _ h1)))
  go_wp2
  go_ret
  exact ⟨rfl, below_drew (below_box _ _) _⟩

/-- The code of a shape. -/
def code (s m : Int) : Int := if may s m then 0 else 16
theorem code_yes {n m : Nat} (h1 : n ≤ 16) (h : m < 2 ^ n) : code n m = 0 := by unfold code; rw [may_nat h1 h]; rfl
theorem code_no {s m : Int} (h : ¬ (0 ≤ s ∧ s ≤ 16 ∧ 0 ≤ m ∧ m < pw s.toNat)) : code s m = 16 := by
  unfold code may; rw [decide_eq_false h]; rfl
theorem code_cases (s m : Int) : (code s m = 0 ∧ ∃ n k : Nat, s = n ∧ m = k ∧ n ≤ 16 ∧ k < 2 ^ n) ∨ code s m = 16 := by
  by_cases h : may s m = true
  · left; exact ⟨by unfold code; rw [h]; rfl, may_true h⟩
  · right; unfold code; rw [if_neg h]

theorem check_all (s m : Int) (w : World) :
    Calls Tryd.prog 27 #[.agg #[.int .i64 s, .int .i64 m]] w fun e w' => e = .returned (.int .i64 (code s m)) ∧ Below w.heap.size w w' := by
  by_cases h0 : s < 0
  · rw [code_no (by omega)]; exact check_no0 s m w h0
  by_cases h1 : 16 < s
  · rw [code_no (by omega)]; exact check_no1 s m w h1
  by_cases h2 : m < 0
  · rw [code_no (by omega)]; exact check_no2 s m w (by omega) (by omega) h2
  obtain ⟨n, rfl⟩ : ∃ n : Nat, s = n := ⟨s.toNat, by omega⟩
  obtain ⟨k, rfl⟩ : ∃ k : Nat, m = k := ⟨m.toNat, by omega⟩
  by_cases h3 : k < 2 ^ n
  · rw [code_yes (by omega) h3]; exact check_yes n k w (by omega) h3
  · have : pw n ≤ (k : Int) := by unfold pw; omega
    rw [code_no (by rw [Int.toNat_natCast]; omega)]; exact check_no3 n k w (by omega) (by omega) this

end Go.Proofs.YthmeafnofckoiaaDoor
