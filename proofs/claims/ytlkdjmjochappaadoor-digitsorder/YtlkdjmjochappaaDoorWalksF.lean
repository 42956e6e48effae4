/- That the small check of the statements of layer 1 answers true, where the table of powers of ten reads as it was laid; nothing that was there is written. -/
import Derived.Test.YtlkdjmjochappaaDoorWalksE
import Derived.Test.YtlkdjmjochappaaDoorWalksR
namespace Go.Proofs.YtlkdjmjochappaaDoor
open Go.RowKit
theorem rd1 : readNum [45, 57, 50, 50, 51, 51, 55, 50, 48, 51, 54, 56, 53, 52, 55, 55, 53, 56, 48, 56] = (-9223372036854775808, 0) := by decide +kernel
theorem rd2 : readNum [57, 50, 50, 51, 51, 55, 50, 48, 51, 54, 56, 53, 52, 55, 55, 53, 56, 48, 56] = (0, 18) := by decide +kernel
theorem rd3 : readNum [48, 49] = (0, 3) := by decide +kernel
theorem rd4 : indexNum [57] 8 = (0, 18) := by decide +kernel
theorem rd5 : indexNum [56] 8 = (8, 0) := by decide +kernel
theorem rd6 : readNum [55, 48] = (70, 0) := by decide +kernel
theorem it1 : Lib.itoa (-9223372036854775808) = [45, 57, 50, 50, 51, 51, 55, 50, 48, 51, 54, 56, 53, 52, 55, 55, 53, 56, 48, 56] := by
  have := itoa_read _ (show (readNum [45, 57, 50, 50, 51, 51, 55, 50, 48, 51, 54, 56, 53, 52, 55, 55, 53, 56, 48, 56]).2 = 0 by rw [rd1])
  rwa [rd1] at this
theorem it2 : Lib.itoa 70 = [55, 48] := by
  have := itoa_read _ (show (readNum [55, 48]).2 = 0 by rw [rd6])
  rwa [rd6] at this
theorem call1 (w : World) : Calls Tryd.prog 11 #[.string ⟨#[45, 57, 50, 50, 51, 51, 55, 50, 48, 51, 54, 56, 53, 52, 55, 55, 53, 56, 48, 56]⟩] w fun e w' => e = .returned (.tuple #[.int .i64 (-9223372036854775808), .int .i64 0]) ∧ w' = w := by
  refine (parse_any _ w (by decide)).mono ?_
  rintro e w' ⟨rfl, rfl⟩
  exact ⟨ret_two (congrArg Prod.fst rd1) (congrArg Prod.snd rd1), rfl⟩
theorem call2 (w : World) : Calls Tryd.prog 11 #[.string ⟨#[57, 50, 50, 51, 51, 55, 50, 48, 51, 54, 56, 53, 52, 55, 55, 53, 56, 48, 56]⟩] w fun e w' => e = .returned (.tuple #[.int .i64 0, .int .i64 18]) ∧ w' = w := by
  refine (parse_any _ w (by decide)).mono ?_
  rintro e w' ⟨rfl, rfl⟩
  exact ⟨ret_two (congrArg Prod.fst rd2) (congrArg Prod.snd rd2), rfl⟩
theorem call3 (w : World) : Calls Tryd.prog 11 #[.string ⟨#[48, 49]⟩] w fun e w' => e = .returned (.tuple #[.int .i64 0, .int .i64 3]) ∧ w' = w := by
  refine (parse_any _ w (by decide)).mono ?_
  rintro e w' ⟨rfl, rfl⟩
  exact ⟨ret_two (congrArg Prod.fst rd3) (congrArg Prod.snd rd3), rfl⟩
theorem call4 (w : World) : Calls Tryd.prog 13 #[.string ⟨#[57]⟩, .int .i64 8] w fun e w' => e = .returned (.tuple #[.int .i64 0, .int .i64 18]) ∧ w' = w := by
  refine (index_any _ 8 w (by decide)).mono ?_
  rintro e w' ⟨rfl, rfl⟩
  exact ⟨ret_two (congrArg Prod.fst rd4) (congrArg Prod.snd rd4), rfl⟩
theorem call5 (w : World) : Calls Tryd.prog 13 #[.string ⟨#[56]⟩, .int .i64 8] w fun e w' => e = .returned (.tuple #[.int .i64 8, .int .i64 0]) ∧ w' = w := by
  refine (index_any _ 8 w (by decide)).mono ?_
  rintro e w' ⟨rfl, rfl⟩
  exact ⟨ret_two (congrArg Prod.fst rd5) (congrArg Prod.snd rd5), rfl⟩
theorem call6 (w : World) (ht : Tab w) : Calls Tryd.prog 7 #[.int .i64 (-9223372036854775808)] w fun e w' => e = .returned (.string ⟨#[45, 57, 50, 50, 51, 51, 55, 50, 48, 51, 54, 56, 53, 52, 55, 55, 53, 56, 48, 56]⟩) ∧ Below w.heap.size w w' := by
  refine (print_any _ w (by omega) (by omega) ht).mono ?_
  rintro e w' ⟨rfl, hb⟩
  exact ⟨by rw [it1], hb⟩
theorem call7 (w : World) (ht : Tab w) : Calls Tryd.prog 9 #[.int .i64 70] w fun e w' => e = .returned (.string ⟨#[55, 48]⟩) ∧ Below w.heap.size w w' := by
  refine (small_any _ w (by omega) (by omega) ht).mono ?_
  rintro e w' ⟨rfl, hb⟩
  exact ⟨by rw [it2], hb⟩
set_option maxHeartbeats 400000 in
theorem works_any (w : World) (ht : Tab w) : Calls Tryd.prog 10 #[] w fun e w' => e = .returned (.bool true) ∧ Below w.heap.size w w' := by
  go_enter Tryd.func10, Tryd.ntmps10
  go_wp2_with fail
  refine (call1 _).mono ?_; rintro e w1 ⟨rfl, rfl⟩
  go_wp2_with fail
  refine (call2 _).mono ?_; rintro e w1 ⟨rfl, rfl⟩
  go_wp2_with fail
  refine (call3 _).mono ?_; rintro e w1 ⟨rfl, rfl⟩
  go_wp2_with fail
  refine (call4 _).mono ?_; rintro e w1 ⟨rfl, rfl⟩
  go_wp2_with fail
  refine (call5 _).mono ?_; rintro e w1 ⟨rfl, rfl⟩
  go_wp2_with fail
  refine (call6 _ ht).mono ?_; rintro e w2 ⟨rfl, hb⟩
  go_wp2_with fail
  refine (call7 _ (ht.below hb)).mono ?_; rintro e w3 ⟨rfl, hb2⟩
  go_wp2_with fail
  go_ret
  exact ⟨rfl, below_step hb hb2⟩
end Go.Proofs.YtlkdjmjochappaaDoor
