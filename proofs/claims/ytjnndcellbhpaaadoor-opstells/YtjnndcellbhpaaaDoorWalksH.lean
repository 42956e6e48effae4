/- What the statements' own small check (works) returns: true. -/
import Derived.Test.YtjnndcellbhpaaaDoorWalksG
namespace Go.Proofs.YtjnndcellbhpaaaDoor
open Go Go.RowKit

theorem find_as (s : ByteArray) (a b : Int) (w : World) (ht : Tab w) (h : find s = (a, b)) :
    Calls Tryd.prog 33 #[.string s] w fun e w' => e = .returned (.tuple #[.int .i64 a, .int .i64 b]) ∧ Below w.heap.size w w' := by
  have := find_any s w ht
  rwa [h] at this
theorem word_as (op t : Int) (r : ByteArray) (a b c d e f : Value) (w : World) (ht : Tab w) (h : iword op t = r) : Calls Tryd.prog 7 #[.agg #[.int .i64 op, a, b, .int .i64 t, c, d, e, f]] w fun e w' => e = .returned (.string r) ∧ Below w.heap.size w w' := by
  have := word_any op t a b c d e f w ht
  rwa [h] at this
theorem makes_as (op t r : Int) (a b c d e f : Value) (w : World) (ht : Tab w) (h : imakes op t = r) : Calls Tryd.prog 9 #[.agg #[.int .i64 op, a, b, .int .i64 t, c, d, e, f]] w fun e w' => e = .returned (.int .i64 r) ∧ Below w.heap.size w w' := by
  have := makes_any op t a b c d e f w ht
  rwa [h] at this
theorem takes_as (op : Int) (l : List Int) (w : World) (ht : Tab w) (h : takes (num op) = l) : Calls Tryd.prog 16 #[.int .i64 op] w (Lists l w) := by
  have := takes_any op w ht
  rwa [h] at this
theorem letter_as (t : Int) (r : ByteArray) (w : World) (h : letter t = r) : Calls Tryd.prog 11 #[.int .i64 t] w fun e w' => e = .returned (.string r) ∧ w' = w := by
  have := letter_any t w
  rwa [h] at this
theorem may_as (op t : Int) (r : Bool) (w : World) (h : may op t = r) : Calls Tryd.prog 13 #[.int .i64 op, .int .i64 t] w fun e w' => e = .returned (.bool r) ∧ w' = w := by
  have := may_any op t w
  rwa [h] at this
theorem traps_as (op : Int) (r : Bool) (w : World) (ht : Tab w) (h : beside (num op) 1 = r) : Calls Tryd.prog 18 #[.int .i64 op] w fun e w' => e = .returned (.bool r) ∧ Below w.heap.size w w' := by
  have := traps_any op w ht
  rwa [h] at this
theorem reads_as (op : Int) (r : Bool) (w : World) (ht : Tab w) (h : beside (num op) 2 = r) : Calls Tryd.prog 20 #[.int .i64 op] w fun e w' => e = .returned (.bool r) ∧ Below w.heap.size w w' := by
  have := reads_any op w ht
  rwa [h] at this
theorem writes_as (op : Int) (r : Bool) (w : World) (ht : Tab w) (h : beside (num op) 4 = r) : Calls Tryd.prog 22 #[.int .i64 op] w fun e w' => e = .returned (.bool r) ∧ Below w.heap.size w w' := by
  have := writes_any op w ht
  rwa [h] at this
theorem seen_as (op : Int) (r : Bool) (w : World) (ht : Tab w) (h : beside (num op) 28 = r) : Calls Tryd.prog 24 #[.int .i64 op] w fun e w' => e = .returned (.bool r) ∧ Below w.heap.size w w' := by
  have := seen_any op w ht
  rwa [h] at this
theorem ends_as (op : Int) (r : Bool) (w : World) (ht : Tab w) (h : beside (num op) 8 = r) : Calls Tryd.prog 26 #[.int .i64 op] w fun e w' => e = .returned (.bool r) ∧ Below w.heap.size w w' := by
  have := ends_any op w ht
  rwa [h] at this
theorem pure_as (op : Int) (r : Bool) (w : World) (ht : Tab w) (h : beside (num op) 32 = r) : Calls Tryd.prog 28 #[.int .i64 op] w fun e w' => e = .returned (.bool r) ∧ Below w.heap.size w w' := by
  have := pure_any op w ht
  rwa [h] at this
theorem safe_as (op : Int) (r : Bool) (w : World) (ht : Tab w) (h : beside (num op) 64 = r) : Calls Tryd.prog 30 #[.int .i64 op] w fun e w' => e = .returned (.bool r) ∧ Below w.heap.size w w' := by
  have := safe_any op w ht
  rwa [h] at this

set_option maxHeartbeats 1000000 in
theorem works_any (w : World) (ht : Tab w) : Calls Tryd.prog 32 #[] w fun e w' => e = .returned (.bool true) ∧ Below w.heap.size w w' := by
  replace ht := hide ht
  go_enter Tryd.func32, Tryd.ntmps32
  go_wp2_with fail
  refine (find_as _ 20 3 _ ht.out (by decide +kernel)).mono ?_; rintro e w1 ⟨rfl, b1⟩
  replace b1 := hide b1
  go_wp2_with fail
  refine (find_as _ 0 0 _ (ht.out.below b1.out) (by decide +kernel)).mono ?_; rintro e w2 ⟨rfl, b2⟩
  replace b2 := hide (below_step b1.out b2)
  go_wp2_with fail
  refine (word_as 21 0 ⟨#[99, 97, 108, 108, 46, 110]⟩ _ _ _ _ _ _ _ (ht.out.below b2.out) (by decide +kernel)).mono ?_; rintro e w3 ⟨rfl, b3⟩
  replace b3 := hide (below_step b2.out b3)
  go_wp2_with fail
  refine (takes_as 19 [3, 2] _ (ht.out.below b3.out) (by decide +kernel)).mono ?_; rintro e w4 ⟨ao, cap, rfl, hS, b4⟩
  replace b4 := hide (below_step b3.out b4)
  replace hS := hide hS
  go_wp2_with fail
  refine (ints_same [3, 2] ao _ cap _ _ (by decide) (hS.out.below (below_box w4 _)) (.inr ⟨_, rfl, by simp, new_list [3, 2] w4 3⟩)).mono ?_; rintro e w5 ⟨rfl, b5⟩
  replace b5 := hide (below_step b4.out (below_new b5))
  go_wp2_with fail
  refine (makes_as 15 0 3 _ _ _ _ _ _ _ (ht.out.below b5.out) (by decide +kernel)).mono ?_; rintro e w6 ⟨rfl, b6⟩
  replace b6 := hide (below_step b5.out b6)
  go_wp2_with fail
  refine (traps_as 5 true _ (ht.out.below b6.out) (by decide +kernel)).mono ?_; rintro e w7 ⟨rfl, b7⟩
  replace b7 := hide (below_step b6.out b7)
  go_wp2_with fail
  refine (reads_as 16 true _ (ht.out.below b7.out) (by decide +kernel)).mono ?_; rintro e w8 ⟨rfl, b8⟩
  replace b8 := hide (below_step b7.out b8)
  go_wp2_with fail
  refine (writes_as 21 true _ (ht.out.below b8.out) (by decide +kernel)).mono ?_; rintro e w9 ⟨rfl, b9⟩
  replace b9 := hide (below_step b8.out b9)
  go_wp2_with fail
  refine (seen_as 22 true _ (ht.out.below b9.out) (by decide +kernel)).mono ?_; rintro e w10 ⟨rfl, b10⟩
  replace b10 := hide (below_step b9.out b10)
  go_wp2_with fail
  refine (ends_as 28 true _ (ht.out.below b10.out) (by decide +kernel)).mono ?_; rintro e w11 ⟨rfl, b11⟩
  replace b11 := hide (below_step b10.out b11)
  go_wp2_with fail
  refine (pure_as 9 true _ (ht.out.below b11.out) (by decide +kernel)).mono ?_; rintro e w12 ⟨rfl, b12⟩
  replace b12 := hide (below_step b11.out b12)
  go_wp2_with fail
  refine (pure_as 10 false _ (ht.out.below b12.out) (by decide +kernel)).mono ?_; rintro e w13 ⟨rfl, b13⟩
  replace b13 := hide (below_step b12.out b13)
  go_wp2_with fail
  refine (safe_as 23 true _ (ht.out.below b13.out) (by decide +kernel)).mono ?_; rintro e w14 ⟨rfl, b14⟩
  replace b14 := hide (below_step b13.out b14)
  go_wp2_with fail
  refine (letter_as 0 ⟨#[110]⟩ _ rfl).mono ?_; rintro e w15 ⟨rfl, rfl⟩
  go_wp2_with fail
  refine (may_as 20 1 true _ rfl).mono ?_; rintro e w16 ⟨rfl, rfl⟩
  go_wp2_with fail
  go_ret
  exact ⟨rfl, b14.out⟩
end Go.Proofs.YtjnndcellbhpaaaDoor
