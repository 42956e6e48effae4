/- What Pointer and Pointers of layer 3, and the document's, return for every shape that may be and every slot. -/
import Derived.Test.YthmeafnofckoiaaDoorGrew
namespace Go.Proofs.YthmeafnofckoiaaDoor
open Go Go.RowKit

set_option maxHeartbeats 400000 in
theorem pointer_low (n m : Nat) (i : Int) (w : World) (hn : n ≤ 16) (hm : m < 2 ^ n) (hi : i < 0) :
    Calls Tryd.prog 32 #[.agg #[.int .i64 n, .int .i64 m], .int .i64 i] w fun e w' => e = .returned (.bool false) ∧ Below w.heap.size w w' := by
  have d1 : decide (0 ≤ i) = false := decide_eq_false (by omega)
  have c0 := fun x => (grew_pair (Pair.new w 31 (a := .int .i64 n) (b := .int .i64 m)) x).1
  have c1 := fun x => (grew_pair (Pair.new w 31 (a := .int .i64 n) (b := .int .i64 m)) x).2.1
  go_enter Tryd.func32, Tryd.ntmps32
  go_wp2_with fail
  refine region_grew (by kernel_rfl) (by kernel_rfl) ?_
  repeat (go_big_quiet_step ((go_at_call 27; exact calls_grew (check_yes n m _ hn hm))))
  refine wpQuiet_nil ?_
  rintro _ ⟨x, rfl⟩
  go_wp2_with fail
  go_ret
  exact ⟨rfl, below_new (grewTo_below _ x)⟩

set_option maxHeartbeats 400000 in
theorem pointer_high (n m : Nat) (i : Int) (w : World) (hn : n ≤ 16) (hm : m < 2 ^ n) (hi : n ≤ i) :
    Calls Tryd.prog 32 #[.agg #[.int .i64 n, .int .i64 m], .int .i64 i] w fun e w' => e = .returned (.bool false) ∧ Below w.heap.size w w' := by
  have d1 : decide (0 ≤ i) = true := decide_eq_true (by omega)
  have d2 : decide (i < n) = false := decide_eq_false (by omega)
  have c0 := fun x => (grew_pair (Pair.new w 31 (a := .int .i64 n) (b := .int .i64 m)) x).1
  have c1 := fun x => (grew_pair (Pair.new w 31 (a := .int .i64 n) (b := .int .i64 m)) x).2.1
  go_enter Tryd.func32, Tryd.ntmps32
  go_wp2_with fail
  refine region_grew (by kernel_rfl) (by kernel_rfl) ?_
  repeat (go_big_quiet_step ((go_at_call 27; exact calls_grew (check_yes n m _ hn hm))))
  refine wpQuiet_nil ?_
  rintro _ ⟨x, rfl⟩
  go_wp2_with fail
  go_ret
  exact ⟨rfl, below_new (grewTo_below _ x)⟩

theorem ret_bool {a b : Bool} (h : a = b) : Ending.returned (.bool a) = .returned (.bool b) := by rw [h]
theorem and_bool {n m k : Nat} (hn : n ≤ 16) (hm : m < 2 ^ n) (hk : k < 16) : (bits .and .i64 (m : Int) (pw k) != 0) = bit m k := by
  have h16 : 2 ^ n ≤ 2 ^ 16 := Nat.pow_le_pow_right (by decide) hn
  have := and_bits hk (Nat.lt_of_lt_of_le hm h16)
  cases hb : bit m k with
  | false => rw [this.2 hb]; rfl
  | true =>
    rw [bne_iff_ne]
    intro h
    rw [this.1 h] at hb
    exact absurd hb (by decide)

set_option maxHeartbeats 400000 in
theorem pointer_in (n m k : Nat) (w : World) (hn : n ≤ 16) (hm : m < 2 ^ n) (hi : k < n) (ht : Tab w) :
    Calls Tryd.prog 32 #[.agg #[.int .i64 n, .int .i64 m], .int .i64 k] w fun e w' => e = .returned (.bool (bit m k)) ∧ Below w.heap.size w w' := by
  have d0 : (0 : Int) ≤ (k : Int) := by omega
  have d1 : decide ((0 : Int) ≤ k) = true := decide_eq_true (by omega)
  have d2 : decide ((k : Int) < n) = true := decide_eq_true (by omega)
  have d3 : (k : Int) < 16 := by omega
  have HE := hide (and_bool hn hm (k := k) (by omega))
  have c0 := fun x => (grew_pair (Pair.new w 31 (a := .int .i64 n) (b := .int .i64 m)) x).1
  have c1 := fun x => (grew_pair (Pair.new w 31 (a := .int .i64 n) (b := .int .i64 m)) x).2.1
  have c2 := fun x => (grew_tab (ht.below (below_box w (.cells #[.int .i64 n, .int .i64 m] 31))) x).2 k (by omega)
  clear ht
  go_enter Tryd.func32, Tryd.ntmps32
  go_wp2_with fail
  refine region_grew (by kernel_rfl) (by kernel_rfl) ?_
  repeat (go_big_quiet_step ((go_at_call 27; exact calls_grew (check_yes n m _ hn hm))))
  refine wpQuiet_nil ?_
  rintro _ ⟨x, rfl⟩
  go_wp2_with fail
  go_ret
  exact ⟨ret_bool HE.out, below_new (grewTo_below _ x)⟩

theorem refPointer_out (n m : Nat) (i : Int) (w : World) (hi : i < 0 ∨ n ≤ i) :
    Calls Tryd.prog 26 #[.agg #[.int .i64 n, .int .i64 m], .int .i64 i] w fun e w' => e = .returned (.bool false) ∧ Below w.heap.size w w' := by
  rcases hi with hi | hi
  all_goals
    go_enter Tryd.func26, Tryd.ntmps26
    go_wp2_with fail
    go_ret
    exact ⟨rfl, below_box _ _⟩

theorem div_bool (m k : Nat) : ((m : Int) / pw k % 2 == 1) = bit m k := by
  have := div_bit m k
  cases hb : bit m k with
  | false =>
    rw [beq_eq_false_iff_ne]
    intro h
    rw [this.1 h] at hb
    exact absurd hb (by decide)
  | true => rw [this.2 hb]; rfl
theorem quo_wrap {n m : Nat} (k : Nat) (hn : n ≤ 16) (hm : m < 2 ^ n) : (wrap64 ((m : Int) / pw k)).tmod 2 = (m : Int) / pw k % 2 := by
  have h16 : 2 ^ n ≤ 2 ^ 16 := Nat.pow_le_pow_right (by decide) hn
  have h17 : (2 : Nat) ^ 16 = 65536 := by decide
  have e : (m : Int) / pw k = ((m / 2 ^ k : Nat) : Int) := by unfold pw; simp
  have hle : m / 2 ^ k ≤ m := Nat.div_le_self _ _
  rw [e]
  generalize m / 2 ^ k = q at hle
  rw [IntWalk.wrap64_in _ ⟨by omega, by omega⟩, Int.tmod_eq_emod_of_nonneg (by omega)]
/-- Is there such a slot, and does it hold a pointer? -/
def has (n m : Nat) (i : Int) : Bool := decide (0 ≤ i ∧ i < n) && bit m i.toNat
theorem has_out {n m : Nat} {i : Int} (h : i < 0 ∨ n ≤ i) : has n m i = false := by
  unfold has; rw [decide_eq_false (by omega)]; rfl
theorem has_in {n m k : Nat} (h : k < n) : has n m k = bit m k := by
  unfold has; rw [decide_eq_true ⟨by omega, by omega⟩, Int.toNat_natCast, Bool.true_and]
theorem has_bit {n m k : Nat} (hm : m < 2 ^ n) : has n m k = bit m k := by
  by_cases h : k < n
  · exact has_in h
  · rw [has_out (.inr (by omega)), bit_high hm (by omega)]
theorem cnt_high {n m : Nat} (hm : m < 2 ^ n) (hn : n ≤ 16) : cnt m 16 = cnt m n := by
  have : ∀ j, cnt m (n + j) = cnt m n := by
    intro j
    induction j with
    | zero => rfl
    | succ j ih => rw [← Nat.add_assoc, cnt, ih, bit_high hm (by omega)]; rfl
  have h := this (16 - n)
  rwa [show n + (16 - n) = 16 by omega] at h
theorem below_on {w w1 w2 : World} (h : Below w.heap.size w w1) (k : Below w1.heap.size w1 w2) : Below w.heap.size w w2 := below_step h k
set_option maxHeartbeats 400000 in
theorem refPointer_in (n m k : Nat) (w : World) (hn : n ≤ 16) (hm : m < 2 ^ n) (hi : k < n) :
    Calls Tryd.prog 26 #[.agg #[.int .i64 n, .int .i64 m], .int .i64 k] w fun e w' => e = .returned (.bool (bit m k)) ∧ Below w.heap.size w w' := by
  have d2 : (k : Int) < n := by omega
  have d3 : (0 : Int) ≤ m := by omega
  have hp := pw_pos k
  have hp' : ¬ pw k = 0 := by omega
  have HE := hide (div_bool m k)
  go_enter Tryd.func26, Tryd.ntmps26
  go_wp2_with fail
  go_quiet ((go_at_call 34; exact Calls.quiet_of_same (power_any _ _ (by omega))))
  go_wp2_with fail
  go_ret
  exact ⟨ret_bool (by rw [quo_wrap k hn hm]; exact HE.out), below_drew (below_box _ _) _⟩

theorem refPointer_any (n m : Nat) (i : Int) (w : World) (hn : n ≤ 16) (hm : m < 2 ^ n) :
    Calls Tryd.prog 26 #[.agg #[.int .i64 n, .int .i64 m], .int .i64 i] w fun e w' => e = .returned (.bool (has n m i)) ∧ Below w.heap.size w w' := by
  by_cases h : i < 0 ∨ n ≤ i
  · rw [has_out h]; exact refPointer_out n m i w h
  · obtain ⟨k, rfl⟩ : ∃ k : Nat, i = k := ⟨i.toNat, by omega⟩
    rw [has_in (by omega)]; exact refPointer_in n m k w hn hm (by omega)
theorem pointer_any (n m : Nat) (i : Int) (w : World) (hn : n ≤ 16) (hm : m < 2 ^ n) (ht : Tab w) :
    Calls Tryd.prog 32 #[.agg #[.int .i64 n, .int .i64 m], .int .i64 i] w fun e w' => e = .returned (.bool (has n m i)) ∧ Below w.heap.size w w' := by
  by_cases h0 : i < 0
  · rw [has_out (.inl h0)]; exact pointer_low n m i w hn hm h0
  by_cases h : n ≤ i
  · rw [has_out (.inr h)]; exact pointer_high n m i w hn hm h
  · obtain ⟨k, rfl⟩ : ∃ k : Nat, i = k := ⟨i.toNat, by omega⟩
    rw [has_in (by omega)]; exact pointer_in n m k w hn hm (by omega) ht

theorem cnt_le (m : Nat) : ∀ k, cnt m k ≤ k
  | 0 => Nat.le_refl _
  | k + 1 => by have := cnt_le m k; rw [cnt]; split <;> omega


end Go.Proofs.YthmeafnofckoiaaDoor
