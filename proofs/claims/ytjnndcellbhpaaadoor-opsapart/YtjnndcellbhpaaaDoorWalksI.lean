/- What the statements OpsApart, OpsBack and OpsFinds return, for every input: true. -/
import Derived.Test.YtjnndcellbhpaaaDoorWalksH
namespace Go.Proofs.YtjnndcellbhpaaaDoor
open Go Go.RowKit

theorem pure_apart {k : Nat} (hk : k ≤ 29) (h : beside k 32 = true) : beside k 1 = false ∧ beside k 2 = false ∧ beside k 4 = false ∧ beside k 28 = false := by
  have : ∀ k, k ≤ 29 → beside k 32 = true → beside k 1 = false ∧ beside k 2 = false ∧ beside k 4 = false ∧ beside k 28 = false := by decide +kernel
  exact this k hk h
theorem ends_seen {k : Nat} (hk : k ≤ 29) (h : beside k 8 = true) : beside k 28 = true := by
  have : ∀ k, k ≤ 29 → beside k 8 = true → beside k 28 = true := by decide +kernel
  exact this k hk h
theorem writes_seen {k : Nat} (hk : k ≤ 29) (h : beside k 4 = true) : beside k 28 = true := by
  have : ∀ k, k ≤ 29 → beside k 4 = true → beside k 28 = true := by decide +kernel
  exact this k hk h
theorem safe_seen {k : Nat} (hk : k ≤ 29) (h : beside k 64 = true) : beside k 28 = true := by
  have : ∀ k, k ≤ 29 → beside k 64 = true → beside k 28 = true := by decide +kernel
  exact this k hk h
theorem apart_true_ends (op : Int) (w : World) (ht : Tab w) (hp : beside (num op) 32 = true) (hends : beside (num op) 8 = true) : Calls Tryd.prog 6 #[.int .i64 op] w fun e w' => e = .returned (.bool true) ∧ Below w.heap.size w w' := by
  replace ht := hide ht
  obtain ⟨g1, g2, g4, g28⟩ := pure_apart (num_le op) hp
  replace g1 := hide g1
  replace g2 := hide g2
  replace g4 := hide g4
  replace g28 := hide g28
  have s28 := hide (ends_seen (num_le op) hends)
  replace hp := hide hp
  replace hends := hide hends
  have b0 : Hid (Below w.heap.size w w) := hide (Below.refl _ _)
  go_enter Tryd.func6, Tryd.ntmps6
  go_wp2_with fail
  refine (pure_as op true _ (ht.out.below b0.out) hp.out).mono ?_; rintro e w1 ⟨rfl, b1⟩
  replace b1 := hide (below_step b0.out b1)
  go_wp2_with fail
  refine (traps_as op false _ (ht.out.below b1.out) g1.out).mono ?_; rintro e w2 ⟨rfl, b2⟩
  replace b2 := hide (below_step b1.out b2)
  go_wp2_with fail
  refine (reads_as op false _ (ht.out.below b2.out) g2.out).mono ?_; rintro e w3 ⟨rfl, b3⟩
  replace b3 := hide (below_step b2.out b3)
  go_wp2_with fail
  refine (writes_as op false _ (ht.out.below b3.out) g4.out).mono ?_; rintro e w4 ⟨rfl, b4⟩
  replace b4 := hide (below_step b3.out b4)
  go_wp2_with fail
  refine (seen_as op false _ (ht.out.below b4.out) g28.out).mono ?_; rintro e w5 ⟨rfl, b5⟩
  replace b5 := hide (below_step b4.out b5)
  go_wp2_with fail
  refine (ends_as op true _ (ht.out.below b5.out) hends.out).mono ?_; rintro e w6 ⟨rfl, b6⟩
  replace b6 := hide (below_step b5.out b6)
  go_wp2_with fail
  refine (seen_as op true _ (ht.out.below b6.out) s28.out).mono ?_; rintro e w7 ⟨rfl, b7⟩
  replace b7 := hide (below_step b6.out b7)
  go_wp2_with fail
  refine (works_any _ (ht.out.below b7.out)).mono ?_; rintro e w8 ⟨rfl, b8⟩
  go_wp2_with fail
  go_ret
  exact ⟨rfl, below_step b7.out b8⟩
theorem apart_true_writes (op : Int) (w : World) (ht : Tab w) (hp : beside (num op) 32 = true) (hends : beside (num op) 8 = false) (hwrites : beside (num op) 4 = true) : Calls Tryd.prog 6 #[.int .i64 op] w fun e w' => e = .returned (.bool true) ∧ Below w.heap.size w w' := by
  replace ht := hide ht
  obtain ⟨g1, g2, g4, g28⟩ := pure_apart (num_le op) hp
  replace g1 := hide g1
  replace g2 := hide g2
  replace g4 := hide g4
  replace g28 := hide g28
  have s28 := hide (writes_seen (num_le op) hwrites)
  replace hp := hide hp
  replace hends := hide hends
  replace hwrites := hide hwrites
  have b0 : Hid (Below w.heap.size w w) := hide (Below.refl _ _)
  go_enter Tryd.func6, Tryd.ntmps6
  go_wp2_with fail
  refine (pure_as op true _ (ht.out.below b0.out) hp.out).mono ?_; rintro e w1 ⟨rfl, b1⟩
  replace b1 := hide (below_step b0.out b1)
  go_wp2_with fail
  refine (traps_as op false _ (ht.out.below b1.out) g1.out).mono ?_; rintro e w2 ⟨rfl, b2⟩
  replace b2 := hide (below_step b1.out b2)
  go_wp2_with fail
  refine (reads_as op false _ (ht.out.below b2.out) g2.out).mono ?_; rintro e w3 ⟨rfl, b3⟩
  replace b3 := hide (below_step b2.out b3)
  go_wp2_with fail
  refine (writes_as op false _ (ht.out.below b3.out) g4.out).mono ?_; rintro e w4 ⟨rfl, b4⟩
  replace b4 := hide (below_step b3.out b4)
  go_wp2_with fail
  refine (seen_as op false _ (ht.out.below b4.out) g28.out).mono ?_; rintro e w5 ⟨rfl, b5⟩
  replace b5 := hide (below_step b4.out b5)
  go_wp2_with fail
  refine (ends_as op false _ (ht.out.below b5.out) hends.out).mono ?_; rintro e w6 ⟨rfl, b6⟩
  replace b6 := hide (below_step b5.out b6)
  go_wp2_with fail
  refine (writes_as op true _ (ht.out.below b6.out) hwrites.out).mono ?_; rintro e w7 ⟨rfl, b7⟩
  replace b7 := hide (below_step b6.out b7)
  go_wp2_with fail
  refine (seen_as op true _ (ht.out.below b7.out) s28.out).mono ?_; rintro e w8 ⟨rfl, b8⟩
  replace b8 := hide (below_step b7.out b8)
  go_wp2_with fail
  refine (works_any _ (ht.out.below b8.out)).mono ?_; rintro e w9 ⟨rfl, b9⟩
  go_wp2_with fail
  go_ret
  exact ⟨rfl, below_step b8.out b9⟩
theorem apart_true_safe (op : Int) (w : World) (ht : Tab w) (hp : beside (num op) 32 = true) (hends : beside (num op) 8 = false) (hwrites : beside (num op) 4 = false) (hsafe : beside (num op) 64 = true) : Calls Tryd.prog 6 #[.int .i64 op] w fun e w' => e = .returned (.bool true) ∧ Below w.heap.size w w' := by
  replace ht := hide ht
  obtain ⟨g1, g2, g4, g28⟩ := pure_apart (num_le op) hp
  replace g1 := hide g1
  replace g2 := hide g2
  replace g4 := hide g4
  replace g28 := hide g28
  have s28 := hide (safe_seen (num_le op) hsafe)
  replace hp := hide hp
  replace hends := hide hends
  replace hwrites := hide hwrites
  replace hsafe := hide hsafe
  have b0 : Hid (Below w.heap.size w w) := hide (Below.refl _ _)
  go_enter Tryd.func6, Tryd.ntmps6
  go_wp2_with fail
  refine (pure_as op true _ (ht.out.below b0.out) hp.out).mono ?_; rintro e w1 ⟨rfl, b1⟩
  replace b1 := hide (below_step b0.out b1)
  go_wp2_with fail
  refine (traps_as op false _ (ht.out.below b1.out) g1.out).mono ?_; rintro e w2 ⟨rfl, b2⟩
  replace b2 := hide (below_step b1.out b2)
  go_wp2_with fail
  refine (reads_as op false _ (ht.out.below b2.out) g2.out).mono ?_; rintro e w3 ⟨rfl, b3⟩
  replace b3 := hide (below_step b2.out b3)
  go_wp2_with fail
  refine (writes_as op false _ (ht.out.below b3.out) g4.out).mono ?_; rintro e w4 ⟨rfl, b4⟩
  replace b4 := hide (below_step b3.out b4)
  go_wp2_with fail
  refine (seen_as op false _ (ht.out.below b4.out) g28.out).mono ?_; rintro e w5 ⟨rfl, b5⟩
  replace b5 := hide (below_step b4.out b5)
  go_wp2_with fail
  refine (ends_as op false _ (ht.out.below b5.out) hends.out).mono ?_; rintro e w6 ⟨rfl, b6⟩
  replace b6 := hide (below_step b5.out b6)
  go_wp2_with fail
  refine (writes_as op false _ (ht.out.below b6.out) hwrites.out).mono ?_; rintro e w7 ⟨rfl, b7⟩
  replace b7 := hide (below_step b6.out b7)
  go_wp2_with fail
  refine (safe_as op true _ (ht.out.below b7.out) hsafe.out).mono ?_; rintro e w8 ⟨rfl, b8⟩
  replace b8 := hide (below_step b7.out b8)
  go_wp2_with fail
  refine (seen_as op true _ (ht.out.below b8.out) s28.out).mono ?_; rintro e w9 ⟨rfl, b9⟩
  replace b9 := hide (below_step b8.out b9)
  go_wp2_with fail
  refine (works_any _ (ht.out.below b9.out)).mono ?_; rintro e w10 ⟨rfl, b10⟩
  go_wp2_with fail
  go_ret
  exact ⟨rfl, below_step b9.out b10⟩
theorem apart_true_none (op : Int) (w : World) (ht : Tab w) (hp : beside (num op) 32 = true) (hends : beside (num op) 8 = false) (hwrites : beside (num op) 4 = false) (hsafe : beside (num op) 64 = false) : Calls Tryd.prog 6 #[.int .i64 op] w fun e w' => e = .returned (.bool true) ∧ Below w.heap.size w w' := by
  replace ht := hide ht
  obtain ⟨g1, g2, g4, g28⟩ := pure_apart (num_le op) hp
  replace g1 := hide g1
  replace g2 := hide g2
  replace g4 := hide g4
  replace g28 := hide g28
  replace hp := hide hp
  replace hends := hide hends
  replace hwrites := hide hwrites
  replace hsafe := hide hsafe
  have b0 : Hid (Below w.heap.size w w) := hide (Below.refl _ _)
  go_enter Tryd.func6, Tryd.ntmps6
  go_wp2_with fail
  refine (pure_as op true _ (ht.out.below b0.out) hp.out).mono ?_; rintro e w1 ⟨rfl, b1⟩
  replace b1 := hide (below_step b0.out b1)
  go_wp2_with fail
  refine (traps_as op false _ (ht.out.below b1.out) g1.out).mono ?_; rintro e w2 ⟨rfl, b2⟩
  replace b2 := hide (below_step b1.out b2)
  go_wp2_with fail
  refine (reads_as op false _ (ht.out.below b2.out) g2.out).mono ?_; rintro e w3 ⟨rfl, b3⟩
  replace b3 := hide (below_step b2.out b3)
  go_wp2_with fail
  refine (writes_as op false _ (ht.out.below b3.out) g4.out).mono ?_; rintro e w4 ⟨rfl, b4⟩
  replace b4 := hide (below_step b3.out b4)
  go_wp2_with fail
  refine (seen_as op false _ (ht.out.below b4.out) g28.out).mono ?_; rintro e w5 ⟨rfl, b5⟩
  replace b5 := hide (below_step b4.out b5)
  go_wp2_with fail
  refine (ends_as op false _ (ht.out.below b5.out) hends.out).mono ?_; rintro e w6 ⟨rfl, b6⟩
  replace b6 := hide (below_step b5.out b6)
  go_wp2_with fail
  refine (writes_as op false _ (ht.out.below b6.out) hwrites.out).mono ?_; rintro e w7 ⟨rfl, b7⟩
  replace b7 := hide (below_step b6.out b7)
  go_wp2_with fail
  refine (safe_as op false _ (ht.out.below b7.out) hsafe.out).mono ?_; rintro e w8 ⟨rfl, b8⟩
  replace b8 := hide (below_step b7.out b8)
  go_wp2_with fail
  refine (works_any _ (ht.out.below b8.out)).mono ?_; rintro e w9 ⟨rfl, b9⟩
  go_wp2_with fail
  go_ret
  exact ⟨rfl, below_step b8.out b9⟩
theorem apart_false_ends (op : Int) (w : World) (ht : Tab w) (hp : beside (num op) 32 = false) (hends : beside (num op) 8 = true) : Calls Tryd.prog 6 #[.int .i64 op] w fun e w' => e = .returned (.bool true) ∧ Below w.heap.size w w' := by
  replace ht := hide ht
  have s28 := hide (ends_seen (num_le op) hends)
  replace hp := hide hp
  replace hends := hide hends
  have b0 : Hid (Below w.heap.size w w) := hide (Below.refl _ _)
  go_enter Tryd.func6, Tryd.ntmps6
  go_wp2_with fail
  refine (pure_as op false _ (ht.out.below b0.out) hp.out).mono ?_; rintro e w1 ⟨rfl, b1⟩
  replace b1 := hide (below_step b0.out b1)
  go_wp2_with fail
  refine (ends_as op true _ (ht.out.below b1.out) hends.out).mono ?_; rintro e w2 ⟨rfl, b2⟩
  replace b2 := hide (below_step b1.out b2)
  go_wp2_with fail
  refine (seen_as op true _ (ht.out.below b2.out) s28.out).mono ?_; rintro e w3 ⟨rfl, b3⟩
  replace b3 := hide (below_step b2.out b3)
  go_wp2_with fail
  refine (works_any _ (ht.out.below b3.out)).mono ?_; rintro e w4 ⟨rfl, b4⟩
  go_wp2_with fail
  go_ret
  exact ⟨rfl, below_step b3.out b4⟩
theorem apart_false_writes (op : Int) (w : World) (ht : Tab w) (hp : beside (num op) 32 = false) (hends : beside (num op) 8 = false) (hwrites : beside (num op) 4 = true) : Calls Tryd.prog 6 #[.int .i64 op] w fun e w' => e = .returned (.bool true) ∧ Below w.heap.size w w' := by
  replace ht := hide ht
  have s28 := hide (writes_seen (num_le op) hwrites)
  replace hp := hide hp
  replace hends := hide hends
  replace hwrites := hide hwrites
  have b0 : Hid (Below w.heap.size w w) := hide (Below.refl _ _)
  go_enter Tryd.func6, Tryd.ntmps6
  go_wp2_with fail
  refine (pure_as op false _ (ht.out.below b0.out) hp.out).mono ?_; rintro e w1 ⟨rfl, b1⟩
  replace b1 := hide (below_step b0.out b1)
  go_wp2_with fail
  refine (ends_as op false _ (ht.out.below b1.out) hends.out).mono ?_; rintro e w2 ⟨rfl, b2⟩
  replace b2 := hide (below_step b1.out b2)
  go_wp2_with fail
  refine (writes_as op true _ (ht.out.below b2.out) hwrites.out).mono ?_; rintro e w3 ⟨rfl, b3⟩
  replace b3 := hide (below_step b2.out b3)
  go_wp2_with fail
  refine (seen_as op true _ (ht.out.below b3.out) s28.out).mono ?_; rintro e w4 ⟨rfl, b4⟩
  replace b4 := hide (below_step b3.out b4)
  go_wp2_with fail
  refine (works_any _ (ht.out.below b4.out)).mono ?_; rintro e w5 ⟨rfl, b5⟩
  go_wp2_with fail
  go_ret
  exact ⟨rfl, below_step b4.out b5⟩
theorem apart_false_safe (op : Int) (w : World) (ht : Tab w) (hp : beside (num op) 32 = false) (hends : beside (num op) 8 = false) (hwrites : beside (num op) 4 = false) (hsafe : beside (num op) 64 = true) : Calls Tryd.prog 6 #[.int .i64 op] w fun e w' => e = .returned (.bool true) ∧ Below w.heap.size w w' := by
  replace ht := hide ht
  have s28 := hide (safe_seen (num_le op) hsafe)
  replace hp := hide hp
  replace hends := hide hends
  replace hwrites := hide hwrites
  replace hsafe := hide hsafe
  have b0 : Hid (Below w.heap.size w w) := hide (Below.refl _ _)
  go_enter Tryd.func6, Tryd.ntmps6
  go_wp2_with fail
  refine (pure_as op false _ (ht.out.below b0.out) hp.out).mono ?_; rintro e w1 ⟨rfl, b1⟩
  replace b1 := hide (below_step b0.out b1)
  go_wp2_with fail
  refine (ends_as op false _ (ht.out.below b1.out) hends.out).mono ?_; rintro e w2 ⟨rfl, b2⟩
  replace b2 := hide (below_step b1.out b2)
  go_wp2_with fail
  refine (writes_as op false _ (ht.out.below b2.out) hwrites.out).mono ?_; rintro e w3 ⟨rfl, b3⟩
  replace b3 := hide (below_step b2.out b3)
  go_wp2_with fail
  refine (safe_as op true _ (ht.out.below b3.out) hsafe.out).mono ?_; rintro e w4 ⟨rfl, b4⟩
  replace b4 := hide (below_step b3.out b4)
  go_wp2_with fail
  refine (seen_as op true _ (ht.out.below b4.out) s28.out).mono ?_; rintro e w5 ⟨rfl, b5⟩
  replace b5 := hide (below_step b4.out b5)
  go_wp2_with fail
  refine (works_any _ (ht.out.below b5.out)).mono ?_; rintro e w6 ⟨rfl, b6⟩
  go_wp2_with fail
  go_ret
  exact ⟨rfl, below_step b5.out b6⟩
theorem apart_false_none (op : Int) (w : World) (ht : Tab w) (hp : beside (num op) 32 = false) (hends : beside (num op) 8 = false) (hwrites : beside (num op) 4 = false) (hsafe : beside (num op) 64 = false) : Calls Tryd.prog 6 #[.int .i64 op] w fun e w' => e = .returned (.bool true) ∧ Below w.heap.size w w' := by
  replace ht := hide ht
  replace hp := hide hp
  replace hends := hide hends
  replace hwrites := hide hwrites
  replace hsafe := hide hsafe
  have b0 : Hid (Below w.heap.size w w) := hide (Below.refl _ _)
  go_enter Tryd.func6, Tryd.ntmps6
  go_wp2_with fail
  refine (pure_as op false _ (ht.out.below b0.out) hp.out).mono ?_; rintro e w1 ⟨rfl, b1⟩
  replace b1 := hide (below_step b0.out b1)
  go_wp2_with fail
  refine (ends_as op false _ (ht.out.below b1.out) hends.out).mono ?_; rintro e w2 ⟨rfl, b2⟩
  replace b2 := hide (below_step b1.out b2)
  go_wp2_with fail
  refine (writes_as op false _ (ht.out.below b2.out) hwrites.out).mono ?_; rintro e w3 ⟨rfl, b3⟩
  replace b3 := hide (below_step b2.out b3)
  go_wp2_with fail
  refine (safe_as op false _ (ht.out.below b3.out) hsafe.out).mono ?_; rintro e w4 ⟨rfl, b4⟩
  replace b4 := hide (below_step b3.out b4)
  go_wp2_with fail
  refine (works_any _ (ht.out.below b4.out)).mono ?_; rintro e w5 ⟨rfl, b5⟩
  go_wp2_with fail
  go_ret
  exact ⟨rfl, below_step b4.out b5⟩
theorem lawApart (op : Int) (w : World) (ht : Tab w) : Calls Tryd.prog 6 #[.int .i64 op] w fun e w' => e = .returned (.bool true) ∧ Below w.heap.size w w' := by
  cases hp : beside (num op) 32 <;> cases he : beside (num op) 8 <;> cases hw : beside (num op) 4 <;> cases hs : beside (num op) 64
  · exact apart_false_none op w ht hp he hw hs
  · exact apart_false_safe op w ht hp he hw hs
  · exact apart_false_writes op w ht hp he hw
  · exact apart_false_writes op w ht hp he hw
  · exact apart_false_ends op w ht hp he
  · exact apart_false_ends op w ht hp he
  · exact apart_false_ends op w ht hp he
  · exact apart_false_ends op w ht hp he
  · exact apart_true_none op w ht hp he hw hs
  · exact apart_true_safe op w ht hp he hw hs
  · exact apart_true_writes op w ht hp he hw
  · exact apart_true_writes op w ht hp he hw
  · exact apart_true_ends op w ht hp he
  · exact apart_true_ends op w ht hp he
  · exact apart_true_ends op w ht hp he
  · exact apart_true_ends op w ht hp he

theorem finds_long (s : ByteArray) (w : World) (ht : Tab w) (hs : s.size ≤ maxLen) (hl : 300 < s.size) : Calls Tryd.prog 4 #[.string s] w fun e w' => e = .returned (.bool true) ∧ Below w.heap.size w w' := by
  unfold maxLen at hs
  replace ht := hide ht
  go_enter Tryd.func4, Tryd.ntmps4
  go_wp2_with fail
  refine (works_any _ ht.out).mono ?_; rintro e w1 ⟨rfl, b1⟩
  go_wp2_with fail
  go_ret
  exact ⟨rfl, b1⟩
theorem finds_fit (s : ByteArray) (w : World) (ht : Tab w) (hl : s.size ≤ 300) : Calls Tryd.prog 4 #[.string s] w fun e w' => e = .returned (.bool true) ∧ Below w.heap.size w w' := by
  replace ht := hide ht
  go_enter Tryd.func4, Tryd.ntmps4
  go_wp2_with fail
  refine (find_any s _ ht.out).mono ?_; rintro e w1 ⟨rfl, b1⟩
  replace b1 := hide b1
  go_wp2_with fail
  refine (refFind_any s _).mono ?_; rintro e w2 ⟨rfl, b2⟩
  replace b2 := hide (below_step b1.out b2)
  go_wp2_with fail
  refine (works_any _ (ht.out.below b2.out)).mono ?_; rintro e w3 ⟨rfl, b3⟩
  go_wp2_with fail
  go_ret
  exact ⟨rfl, below_step b2.out b3⟩
theorem lawFinds (s : ByteArray) (w : World) (hs : s.size ≤ maxLen) (ht : Tab w) : Calls Tryd.prog 4 #[.string s] w fun e w' => e = .returned (.bool true) ∧ Below w.heap.size w w' := by
  by_cases hl : 300 < s.size
  · exact finds_long s w ht hs hl
  · exact finds_fit s w ht (by omega)

theorem back_math {op t : Int} (h1 : 1 ≤ op) (h2 : op ≤ 29) (hm : may op t = true) : find (iword op t) = (op, t) := by
  have ht : 0 ≤ t ∧ t ≤ 3 := by
    unfold may at hm
    split at hm
    · simp at hm; omega
    split at hm
    · simp at hm; omega
    split at hm
    · simp at hm; omega
    · simp at hm; omega
  have := find_back ((op.toNat - 1) * 4 + t.toNat) (by omega)
  have e1 : (((((op.toNat - 1) * 4 + t.toNat) / 4 + 1 : Nat)) : Int) = op := by omega
  have e2 : (((((op.toNat - 1) * 4 + t.toNat) % 4 : Nat)) : Int) = t := by omega
  rw [e1, e2] at this
  exact this hm
theorem refMay_as (op t : Int) (r : Bool) (w : World) (h : may op t = r) : Calls Tryd.prog 14 #[.int .i64 op, .int .i64 t] w fun e w' => e = .returned (.bool r) ∧ w' = w := by
  have := refMay_any op t w
  rwa [h] at this
theorem back_out (op t : Int) (w : World) (ht : Tab w) (h : ¬ (1 ≤ op ∧ op ≤ 29)) : Calls Tryd.prog 5 #[.int .i64 op, .int .i64 t] w fun e w' => e = .returned (.bool true) ∧ Below w.heap.size w w' := by
  replace ht := hide ht
  by_cases h1 : op < 1
  all_goals
    go_enter Tryd.func5, Tryd.ntmps5
    go_wp2_with fail
    refine (works_any _ ht.out).mono ?_; rintro e w1 ⟨rfl, b1⟩
    go_wp2_with fail
    go_ret
    exact ⟨rfl, b1⟩
theorem back_not (op t : Int) (w : World) (ht : Tab w) (h1 : 1 ≤ op) (h2 : op ≤ 29) (hm : may op t = false) : Calls Tryd.prog 5 #[.int .i64 op, .int .i64 t] w fun e w' => e = .returned (.bool true) ∧ Below w.heap.size w w' := by
  replace ht := hide ht
  replace hm := hide hm
  go_enter Tryd.func5, Tryd.ntmps5
  go_wp2_with fail
  refine (refMay_as op t false _ hm.out).mono ?_; rintro e w1 ⟨rfl, rfl⟩
  go_wp2_with fail
  refine (works_any _ ht.out).mono ?_; rintro e w1 ⟨rfl, b1⟩
  go_wp2_with fail
  go_ret
  exact ⟨rfl, b1⟩
theorem back_yes (op t : Int) (w : World) (ht : Tab w) (h1 : 1 ≤ op) (h2 : op ≤ 29) (hm : may op t = true) : Calls Tryd.prog 5 #[.int .i64 op, .int .i64 t] w fun e w' => e = .returned (.bool true) ∧ Below w.heap.size w w' := by
  replace ht := hide ht
  have HF := hide (back_math h1 h2 hm)
  replace hm := hide hm
  go_enter Tryd.func5, Tryd.ntmps5
  go_wp2_with fail
  refine (refMay_as op t true _ hm.out).mono ?_; rintro e w1 ⟨rfl, rfl⟩
  go_wp2_with fail
  refine (word_any op t _ _ _ _ _ _ _ ht.out).mono ?_; rintro e w1 ⟨rfl, b1⟩
  replace b1 := hide b1
  go_wp2_with fail
  refine (find_as _ op t _ (ht.out.below b1.out) HF.out).mono ?_; rintro e w2 ⟨rfl, b2⟩
  replace b2 := hide (below_step b1.out b2)
  go_wp2_with fail
  refine (works_any _ (ht.out.below b2.out)).mono ?_; rintro e w3 ⟨rfl, b3⟩
  go_wp2_with fail
  go_ret
  exact ⟨rfl, below_step b2.out b3⟩
theorem lawBack (op t : Int) (w : World) (ht : Tab w) : Calls Tryd.prog 5 #[.int .i64 op, .int .i64 t] w fun e w' => e = .returned (.bool true) ∧ Below w.heap.size w w' := by
  by_cases h : 1 ≤ op ∧ op ≤ 29
  · cases hm : may op t
    · exact back_not op t w ht h.1 h.2 hm
    · exact back_yes op t w ht h.1 h.2 hm
  · exact back_out op t w ht h
end Go.Proofs.YtjnndcellbhpaaaDoor
