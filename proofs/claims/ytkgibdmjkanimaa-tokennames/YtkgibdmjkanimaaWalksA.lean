/- What the small functions of layer 2 (small, digit, endsLine, blank, alone, together, word) return, for every letter; of word: where begin and end stand within the text. -/
import Derived.Test.YtkgibdmjkanimaaMath
import Derived.Test.YtkgibdmjkanimaaProg
import Derived.WalkKit
import Derived.WalkSpells
import Derived.WalkSmall
import Derived.WalkLawsBesides
namespace Go.Proofs.Ytkgibdmjkanimaa
open Go.RowKit

theorem ret_bool {a b : Bool} (h : a = b) : Ending.returned (.bool a) = .returned (.bool b) := by rw [h]

set_option maxHeartbeats 400000 in
theorem small_any (c : Int) (w : World) : Calls Try.prog 22 #[.int .i32 c] w fun e w' => e = .returned (.bool (smaB c)) ∧ w' = w := by
  by_cases h1 : 97 ≤ c <;> by_cases h2 : c ≤ 122
  all_goals
    go_enter Try.func22, Try.ntmps22
    go_wp2
    go_ret
    exact ⟨ret_bool (by simp [smaB, h1, h2]), rfl⟩

set_option maxHeartbeats 400000 in
theorem digit_any (c : Int) (w : World) : Calls Try.prog 23 #[.int .i32 c] w fun e w' => e = .returned (.bool (digB c)) ∧ w' = w := by
  by_cases h1 : 48 ≤ c <;> by_cases h2 : c ≤ 57
  all_goals
    go_enter Try.func23, Try.ntmps23
    go_wp2
    go_ret
    exact ⟨ret_bool (by simp [digB, h1, h2]), rfl⟩

set_option maxHeartbeats 400000 in
theorem eol_any (c : Int) (w : World) : Calls Try.prog 15 #[.int .i32 c] w fun e w' => e = .returned (.bool (eolB c)) ∧ w' = w := by
  go_enter Try.func15, Try.ntmps15
  go_wp2
  all_goals
    go_ret
    exact ⟨ret_bool (by grind [eolB]), rfl⟩

set_option maxHeartbeats 400000 in
theorem blank_any (c : Int) (w : World) : Calls Try.prog 19 #[.int .i32 c] w fun e w' => e = .returned (.bool (blaB c)) ∧ w' = w := by
  go_enter Try.func19, Try.ntmps19
  go_wp2_with (go_at_call 15; refine (eol_any _ _).mono ?_; rintro e w' ⟨rfl, rfl⟩)
  all_goals
    go_ret
    exact ⟨ret_bool (by grind [eolB, blaB]), rfl⟩

set_option maxHeartbeats 400000 in
theorem alone_any (c : Int) (w : World) : Calls Try.prog 18 #[.int .i32 c] w fun e w' => e = .returned (.bool (aloB c)) ∧ w' = w := by
  go_enter Try.func18, Try.ntmps18
  go_wp2
  all_goals
    go_ret
    exact ⟨ret_bool (by grind [aloB]), rfl⟩

set_option maxHeartbeats 800000 in
theorem together_any (c : Int) (w : World) : Calls Try.prog 16 #[.int .i32 c] w fun e w' => e = .returned (.bool (togB c)) ∧ w' = w := by
  go_enter Try.func16, Try.ntmps16
  go_wp2_with (first | (go_at_call 22; refine (small_any _ _).mono ?_; rintro e w' ⟨rfl, rfl⟩) | (go_at_call 23; refine (digit_any _ _).mono ?_; rintro e w' ⟨rfl, rfl⟩))
  all_goals
    go_ret
    exact ⟨ret_bool (by grind [togB, smaB, digB, greB]), rfl⟩

set_option maxHeartbeats 400000 in
theorem word_any (s : ByteArray) (a b : Nat) (w : World) (_hs : s.size ≤ 65536) (h1 : a ≤ b) (h2 : b ≤ s.size) :
    Calls Try.prog 17 #[.string s, .int .i64 a, .int .i64 b] w fun e w' => e = .returned (.agg #[.string (s.extract a b), .int .i64 a]) ∧ Below w.heap.size w w' := by
  go_enter Try.func17, Try.ntmps17
  go_wp2
  exact bodyPost_ret (v := .agg #[.string (s.extract a b), .int .i64 a]) (by simp [results, Try.results17, go_sem]) rfl ⟨rfl, (Below.refl _ _).alloc (Nat.le_refl _) _⟩
end Go.Proofs.Ytkgibdmjkanimaa
