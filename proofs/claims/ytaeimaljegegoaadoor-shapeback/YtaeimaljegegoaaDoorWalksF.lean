/- What the chapter's examples, which each statement looks at, answer: true. -/
import Derived.Test.YtaeimaljegegoaaDoorWalksE
namespace Go.Proofs.YtaeimaljegegoaaDoor
open Go Go.RowKit

theorem letters63 : letters 6 3 = [105, 112, 112] := by decide
theorem cnt63 : cnt 6 3 = 2 := by decide
theorem parse_ipp (w : World) (ht : Tab w) :
    Calls Tryd.prog 7 #[.string ⟨#[105, 112, 112]⟩] w fun e w' => e = .returned (.tuple #[.agg #[.int .i64 3, .int .i64 6], .int .i64 0]) ∧ Below w.heap.size w w' := by
  have h := parse_all ⟨(letters 6 3).toArray⟩ w ht
  rw [readS_letters (by omega) (by omega) (by decide), letters63] at h
  exact h
theorem of_195 (w : World) :
    Calls Tryd.prog 9 #[.int .i64 195] w fun e w' => e = .returned (.tuple #[.agg #[.int .i64 3, .int .i64 6], .int .i64 0]) ∧ Below w.heap.size w w' :=
  of_some 3 6 w (by omega) (by decide)
theorem word_259 : ¬ Word 259 := by
  rintro ⟨n, m, h, hn, hm⟩
  have h1 : n = 3 := by omega
  have h2 : m = 8 := by omega
  subst h1 h2
  exact absurd hm (by decide)
theorem print_36 (w : World) (ht : Tab w) :
    Calls Tryd.prog 17 #[.agg #[.int .i64 3, .int .i64 6]] w fun e w' => e = .returned (.string ⟨#[105, 112, 112]⟩) ∧ Below w.heap.size w w' := by
  have h := print_any 3 6 w (by omega) (by decide) ht
  rw [printed_pos 6 (by omega), letters63] at h
  exact h
theorem pointers_36 (w : World) (ht : Tab w) :
    Calls Tryd.prog 15 #[.agg #[.int .i64 3, .int .i64 6]] w fun e w' => e = .returned (.int .i64 2) ∧ Below w.heap.size w w' := by
  have h := pointers_any 3 6 w (by omega) (by decide) ht
  rw [cnt63] at h
  exact h
theorem head_36 (w : World) :
    Calls Tryd.prog 19 #[.agg #[.int .i64 3, .int .i64 6]] w fun e w' => e = .returned (.int .i64 195) ∧ Below w.heap.size w w' :=
  head_any 3 6 w (by omega) (by omega)
theorem check_36 (w : World) :
    Calls Tryd.prog 11 #[.agg #[.int .i64 3, .int .i64 6]] w fun e w' => e = .returned (.int .i64 0) ∧ Below w.heap.size w w' :=
  check_yes 3 6 w (by omega) (by decide)

set_option maxHeartbeats 400000 in
theorem works_any (w : World) (ht : Tab w) :
    Calls Tryd.prog 6 #[] w fun e w' => e = .returned (.bool true) ∧ Below w.heap.size w w' := by
  have HT := hide ht
  clear ht
  go_enter Tryd.func6, Tryd.ntmps6
  go_wp2_with fail
  refine (parse_ipp _ HT.out).mono ?_; rintro e w1 ⟨rfl, b1⟩
  have T1 := hide ((HT.out.below b1).below (below_box w1 (.cells #[.int .i64 3, .int .i64 6] 23)))
  have X1 := hide (Pair.new w1 23 (a := .int .i64 3) (b := .int .i64 6))
  go_wp2_with fail
  refine (parse_empty _ _ rfl).mono ?_; rintro e w2 ⟨rfl, b2⟩
  have T2 := hide ((T1.out.below b2).below (below_box w2 (.cells #[.int .i64 0, .int .i64 0] 23)))
  have X2 := hide ((X1.out.below b2).below (below_box w2 (.cells #[.int .i64 0, .int .i64 0] 23)))
  go_wp2_with fail
  refine (of_195 _).mono ?_; rintro e w3 ⟨rfl, b3⟩
  have T3 := hide ((T2.out.below b3).below (below_box w3 (.cells #[.int .i64 3, .int .i64 6] 23)))
  have X3 := hide ((X2.out.below b3).below (below_box w3 (.cells #[.int .i64 3, .int .i64 6] 23)))
  have Y3 := hide (Pair.new w3 23 (a := .int .i64 3) (b := .int .i64 6))
  go_wp2_with fail
  refine (of_no 259 _ word_259).mono ?_; rintro e w4 ⟨rfl, b4⟩
  have T4 := hide ((T3.out.below b4).below (below_box w4 (.cells #[.int .i64 0, .int .i64 0] 23)))
  have X4 := hide ((X3.out.below b4).below (below_box w4 (.cells #[.int .i64 0, .int .i64 0] 23)))
  have Y4 := hide ((Y3.out.below b4).below (below_box w4 (.cells #[.int .i64 0, .int .i64 0] 23)))
  obtain ⟨x0, x1, _, _, xz⟩ := X4.out
  obtain ⟨y0, y1, _, _, yz⟩ := Y4.out
  go_wp2_with fail
  refine (print_36 _ T4.out).mono ?_; rintro e w5 ⟨rfl, b5⟩
  have T5 := hide (T4.out.below b5)
  obtain ⟨x50, x51, _, _, _⟩ := X4.out.below b5
  have X5 := hide (X4.out.below b5)
  go_wp2_with fail
  refine (head_36 _).mono ?_; rintro e w6 ⟨rfl, b6⟩
  have T6 := hide (T5.out.below b6)
  obtain ⟨x60, x61, _, _, _⟩ := X5.out.below b6
  have X6 := hide (X5.out.below b6)
  go_wp2_with fail
  refine (pointers_36 _ T6.out).mono ?_; rintro e w7 ⟨rfl, b7⟩
  obtain ⟨x70, x71, _, _, _⟩ := X6.out.below b7
  go_wp2_with fail
  refine (check_36 _).mono ?_; rintro e w8 ⟨rfl, b8⟩
  go_wp2_with fail
  go_ret
  exact ⟨rfl, below_on (below_on (below_on (below_on (below_on b1 (below_new b2)) (below_new b3)) (below_new b4)) (below_new b5)) (below_step (below_step b6 b7) b8)⟩
end Go.Proofs.YtaeimaljegegoaaDoor
