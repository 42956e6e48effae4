/- What the statement ShapeBack returns, for every input: true. -/
import Derived.Test.YtaeimaljegegoaaDoorWalksG
namespace Go.Proofs.YtaeimaljegegoaaDoor
open Go Go.RowKit

theorem le_mask {n m : Nat} (hn : n ≤ 16) (hm : m < 2 ^ n) : m ≤ 65535 := by
  have : 2 ^ n ≤ 2 ^ 16 := Nat.pow_le_pow_right (by decide) hn
  have : (2 : Nat) ^ 16 = 65536 := by decide
  omega

set_option maxHeartbeats 400000 in
theorem back_long (x y : Int) (s : ByteArray) (head : Int) (w : World) (hs : s.size ≤ maxLen) (hl : 500 < s.size) (ht : Tab w) :
    Calls Tryd.prog 5 #[.agg #[.int .i64 x, .int .i64 y], .string s, .int .i64 head] w fun e w' => e = .returned (.bool true) ∧ Below w.heap.size w w' := by
  unfold maxLen at hs
  have HT := hide (ht.below (below_box w (.cells #[.int .i64 x, .int .i64 y] 23)))
  clear ht
  go_enter Tryd.func5, Tryd.ntmps5
  go_wp2_with fail
  refine (works_any _ HT.out).mono ?_; rintro e w1 ⟨rfl, b1⟩
  go_wp2_with fail
  go_ret
  exact ⟨rfl, below_new b1⟩


set_option maxHeartbeats 800000 in
theorem back_111 (n m : Nat) (hn : n ≤ 16) (hm : m < 2 ^ n) (s : ByteArray) (a b : Nat) (ha : a ≤ 16) (hb : b < 2 ^ a) (h1 : Answers 7 (.string s) a b 0) (hp : printed a b = s) (head : Int) (p q : Nat) (hh : head = ((q * 32 + p : Nat) : Int)) (hp2 : p ≤ 16) (hq : q < 2 ^ p) (w : World) (hl : ¬ 500 < s.size) (ht : Tab w) :
    Calls Tryd.prog 5 #[.agg #[.int .i64 n, .int .i64 m], .string s, .int .i64 head] w fun e w' => e = .returned (.bool true) ∧ Below w.heap.size w w' := by
  have T0 := hide (ht.below (below_box w (.cells #[.int .i64 n, .int .i64 m] 23)))
  replace h1 := hide h1
  clear ht
  have X0 := hide (Pair.new w 23 (a := .int .i64 n) (b := .int .i64 m))
  have HC := hide (code_yes hn hm)
  have hr : Answers 7 (.string (printed n m)) n m 0 := fun W hW => by rw [← read_printed hn hm]; exact parse_all _ W hW
  replace hr := hide hr
  have hm16 := le_mask hn hm
  have hb16 := le_mask ha hb
  have hpr : ∀ W, Tab W → Calls Tryd.prog 17 #[.agg #[.int .i64 a, .int .i64 b]] W fun e w' => e = .returned (.string s) ∧ Below W.heap.size W w' := fun W hW => by rw [← hp]; exact print_any a b W ha hb hW
  replace hpr := hide hpr
  clear hp
  have hq16 := le_mask hp2 hq
  have hof : ∀ W, Calls Tryd.prog 9 #[.int .i64 head] W fun e w' => e = .returned (.tuple #[.agg #[.int .i64 p, .int .i64 q], .int .i64 0]) ∧ Below W.heap.size W w' := fun W => by rw [hh]; exact of_some p q W hp2 hq
  have hhd : ∀ W, Calls Tryd.prog 19 #[.agg #[.int .i64 p, .int .i64 q]] W fun e w' => e = .returned (.int .i64 head) ∧ Below W.heap.size W w' := fun W => by rw [hh]; exact head_any p q W hp2 hq16
  replace hof := hide hof
  replace hhd := hide hhd
  clear hh
  go_enter Tryd.func5, Tryd.ntmps5
  go_wp2_with fail
  refine (refCheck_all n m _).mono ?_; rintro e w1 ⟨rfl, b1⟩
  rw [HC.out]
  have T1 := hide (T0.out.below b1)
  have X1 := hide (X0.out.below b1)
  have B1 := hide (below_new b1)
  clear b1
  obtain ⟨x10, x11, _, _, _⟩ := X1.out
  go_wp2_with fail
  refine (print_any n m _ hn hm T1.out).mono ?_; rintro e w2 ⟨rfl, b2⟩
  have T2 := hide (T1.out.below b2)
  have X2 := hide (X1.out.below b2)
  have B2 := hide (below_on B1.out b2)
  clear b2
  go_wp2_with fail
  refine (hr.out _ T2.out).mono ?_; rintro e w3 ⟨rfl, b3⟩
  have T3 := hide ((T2.out.below b3).below (below_box w3 (.cells #[.int .i64 n, .int .i64 m] 23)))
  have X3 := hide ((X2.out.below b3).below (below_box w3 (.cells #[.int .i64 n, .int .i64 m] 23)))
  have Y3 := hide (Pair.new w3 23 (a := .int .i64 n) (b := .int .i64 m))
  have B3 := hide (below_on B2.out b3)
  clear b3
  obtain ⟨x30, x31, _, _, _⟩ := X3.out
  go_wp2_with fail
  refine (head_any n m _ hn hm16).mono ?_; rintro e w4 ⟨rfl, b4⟩
  have T4 := hide (T3.out.below b4)
  have X4 := hide (X3.out.below b4)
  have Y4 := hide (Y3.out.below b4)
  have B4 := hide (below_on B3.out (below_new b4))
  clear b4
  go_wp2_with fail
  refine (of_some n m _ hn hm).mono ?_; rintro e w5 ⟨rfl, b5⟩
  have T5 := hide ((T4.out.below b5).below (below_box w5 (.cells #[.int .i64 n, .int .i64 m] 23)))
  have B5 := hide (below_on (below_on B4.out b5) (below_box w5 (.cells #[.int .i64 n, .int .i64 m] 23)))
  obtain ⟨x50, x51, _, _, _⟩ := (X4.out.below b5).below (below_box w5 (.cells #[.int .i64 n, .int .i64 m] 23))
  obtain ⟨y50, y51, _, _, _⟩ := (Y4.out.below b5).below (below_box w5 (.cells #[.int .i64 n, .int .i64 m] 23))
  clear b5
  go_wp2_with fail
  refine (h1.out _ T5.out).mono ?_; rintro e w6 ⟨rfl, b6⟩
  have T6 := hide ((T5.out.below b6).below (below_box w6 (.cells #[.int .i64 a, .int .i64 b] 23)))
  have B6 := hide (below_on (below_on B5.out b6) (below_box w6 (.cells #[.int .i64 a, .int .i64 b] 23)))
  clear b6
  go_wp2_with fail
  refine (hpr.out _ T6.out).mono ?_; rintro e w7 ⟨rfl, b7⟩
  have T7 := hide (T6.out.below b7)
  have B7 := hide (below_on B6.out b7)
  clear b7
  go_wp2_with fail
  refine (hof.out _).mono ?_; rintro e w8 ⟨rfl, b8⟩
  have T8 := hide ((T7.out.below b8).below (below_box w8 (.cells #[.int .i64 p, .int .i64 q] 23)))
  have B8 := hide (below_on (below_on B7.out b8) (below_box w8 (.cells #[.int .i64 p, .int .i64 q] 23)))
  clear b8
  go_wp2_with fail
  refine (hhd.out _).mono ?_; rintro e w9 ⟨rfl, b9⟩
  have T9 := hide (T8.out.below b9)
  have B9 := hide (below_on B8.out b9)
  clear b9
  go_wp2_with fail
  refine (works_any _ T9.out).mono ?_; rintro e w10 ⟨rfl, b10⟩
  go_wp2_with fail
  go_ret
  exact ⟨rfl, below_on B9.out b10⟩

set_option maxHeartbeats 800000 in
theorem back_110 (n m : Nat) (hn : n ≤ 16) (hm : m < 2 ^ n) (s : ByteArray) (a b : Nat) (ha : a ≤ 16) (hb : b < 2 ^ a) (h1 : Answers 7 (.string s) a b 0) (hp : printed a b = s) (head : Int) (hw : ¬ Word head) (w : World) (hl : ¬ 500 < s.size) (ht : Tab w) :
    Calls Tryd.prog 5 #[.agg #[.int .i64 n, .int .i64 m], .string s, .int .i64 head] w fun e w' => e = .returned (.bool true) ∧ Below w.heap.size w w' := by
  have T0 := hide (ht.below (below_box w (.cells #[.int .i64 n, .int .i64 m] 23)))
  replace h1 := hide h1
  clear ht
  have X0 := hide (Pair.new w 23 (a := .int .i64 n) (b := .int .i64 m))
  have HC := hide (code_yes hn hm)
  have hr : Answers 7 (.string (printed n m)) n m 0 := fun W hW => by rw [← read_printed hn hm]; exact parse_all _ W hW
  replace hr := hide hr
  have hm16 := le_mask hn hm
  have hb16 := le_mask ha hb
  have hpr : ∀ W, Tab W → Calls Tryd.prog 17 #[.agg #[.int .i64 a, .int .i64 b]] W fun e w' => e = .returned (.string s) ∧ Below W.heap.size W w' := fun W hW => by rw [← hp]; exact print_any a b W ha hb hW
  replace hpr := hide hpr
  clear hp
  go_enter Tryd.func5, Tryd.ntmps5
  go_wp2_with fail
  refine (refCheck_all n m _).mono ?_; rintro e w1 ⟨rfl, b1⟩
  rw [HC.out]
  have T1 := hide (T0.out.below b1)
  have X1 := hide (X0.out.below b1)
  have B1 := hide (below_new b1)
  clear b1
  obtain ⟨x10, x11, _, _, _⟩ := X1.out
  go_wp2_with fail
  refine (print_any n m _ hn hm T1.out).mono ?_; rintro e w2 ⟨rfl, b2⟩
  have T2 := hide (T1.out.below b2)
  have X2 := hide (X1.out.below b2)
  have B2 := hide (below_on B1.out b2)
  clear b2
  go_wp2_with fail
  refine (hr.out _ T2.out).mono ?_; rintro e w3 ⟨rfl, b3⟩
  have T3 := hide ((T2.out.below b3).below (below_box w3 (.cells #[.int .i64 n, .int .i64 m] 23)))
  have X3 := hide ((X2.out.below b3).below (below_box w3 (.cells #[.int .i64 n, .int .i64 m] 23)))
  have Y3 := hide (Pair.new w3 23 (a := .int .i64 n) (b := .int .i64 m))
  have B3 := hide (below_on B2.out b3)
  clear b3
  obtain ⟨x30, x31, _, _, _⟩ := X3.out
  go_wp2_with fail
  refine (head_any n m _ hn hm16).mono ?_; rintro e w4 ⟨rfl, b4⟩
  have T4 := hide (T3.out.below b4)
  have X4 := hide (X3.out.below b4)
  have Y4 := hide (Y3.out.below b4)
  have B4 := hide (below_on B3.out (below_new b4))
  clear b4
  go_wp2_with fail
  refine (of_some n m _ hn hm).mono ?_; rintro e w5 ⟨rfl, b5⟩
  have T5 := hide ((T4.out.below b5).below (below_box w5 (.cells #[.int .i64 n, .int .i64 m] 23)))
  have B5 := hide (below_on (below_on B4.out b5) (below_box w5 (.cells #[.int .i64 n, .int .i64 m] 23)))
  obtain ⟨x50, x51, _, _, _⟩ := (X4.out.below b5).below (below_box w5 (.cells #[.int .i64 n, .int .i64 m] 23))
  obtain ⟨y50, y51, _, _, _⟩ := (Y4.out.below b5).below (below_box w5 (.cells #[.int .i64 n, .int .i64 m] 23))
  clear b5
  go_wp2_with fail
  refine (h1.out _ T5.out).mono ?_; rintro e w6 ⟨rfl, b6⟩
  have T6 := hide ((T5.out.below b6).below (below_box w6 (.cells #[.int .i64 a, .int .i64 b] 23)))
  have B6 := hide (below_on (below_on B5.out b6) (below_box w6 (.cells #[.int .i64 a, .int .i64 b] 23)))
  clear b6
  go_wp2_with fail
  refine (hpr.out _ T6.out).mono ?_; rintro e w7 ⟨rfl, b7⟩
  have T7 := hide (T6.out.below b7)
  have B7 := hide (below_on B6.out b7)
  clear b7
  go_wp2_with fail
  refine (of_no head _ hw).mono ?_; rintro e w8 ⟨rfl, b8⟩
  have T8 := hide ((T7.out.below b8).below (below_box w8 (.cells #[.int .i64 0, .int .i64 0] 23)))
  have B8 := hide (below_on (below_on B7.out b8) (below_box w8 (.cells #[.int .i64 0, .int .i64 0] 23)))
  clear b8
  go_wp2_with fail
  refine (works_any _ T8.out).mono ?_; rintro e w10 ⟨rfl, b10⟩
  go_wp2_with fail
  go_ret
  exact ⟨rfl, below_on B8.out b10⟩

set_option maxHeartbeats 800000 in
theorem back_101 (n m : Nat) (hn : n ≤ 16) (hm : m < 2 ^ n) (s : ByteArray) (h1 : Answers 7 (.string s) 0 0 16) (head : Int) (p q : Nat) (hh : head = ((q * 32 + p : Nat) : Int)) (hp2 : p ≤ 16) (hq : q < 2 ^ p) (w : World) (hl : ¬ 500 < s.size) (ht : Tab w) :
    Calls Tryd.prog 5 #[.agg #[.int .i64 n, .int .i64 m], .string s, .int .i64 head] w fun e w' => e = .returned (.bool true) ∧ Below w.heap.size w w' := by
  have T0 := hide (ht.below (below_box w (.cells #[.int .i64 n, .int .i64 m] 23)))
  replace h1 := hide h1
  clear ht
  have X0 := hide (Pair.new w 23 (a := .int .i64 n) (b := .int .i64 m))
  have HC := hide (code_yes hn hm)
  have hr : Answers 7 (.string (printed n m)) n m 0 := fun W hW => by rw [← read_printed hn hm]; exact parse_all _ W hW
  replace hr := hide hr
  have hm16 := le_mask hn hm
  have hq16 := le_mask hp2 hq
  have hof : ∀ W, Calls Tryd.prog 9 #[.int .i64 head] W fun e w' => e = .returned (.tuple #[.agg #[.int .i64 p, .int .i64 q], .int .i64 0]) ∧ Below W.heap.size W w' := fun W => by rw [hh]; exact of_some p q W hp2 hq
  have hhd : ∀ W, Calls Tryd.prog 19 #[.agg #[.int .i64 p, .int .i64 q]] W fun e w' => e = .returned (.int .i64 head) ∧ Below W.heap.size W w' := fun W => by rw [hh]; exact head_any p q W hp2 hq16
  replace hof := hide hof
  replace hhd := hide hhd
  clear hh
  go_enter Tryd.func5, Tryd.ntmps5
  go_wp2_with fail
  refine (refCheck_all n m _).mono ?_; rintro e w1 ⟨rfl, b1⟩
  rw [HC.out]
  have T1 := hide (T0.out.below b1)
  have X1 := hide (X0.out.below b1)
  have B1 := hide (below_new b1)
  clear b1
  obtain ⟨x10, x11, _, _, _⟩ := X1.out
  go_wp2_with fail
  refine (print_any n m _ hn hm T1.out).mono ?_; rintro e w2 ⟨rfl, b2⟩
  have T2 := hide (T1.out.below b2)
  have X2 := hide (X1.out.below b2)
  have B2 := hide (below_on B1.out b2)
  clear b2
  go_wp2_with fail
  refine (hr.out _ T2.out).mono ?_; rintro e w3 ⟨rfl, b3⟩
  have T3 := hide ((T2.out.below b3).below (below_box w3 (.cells #[.int .i64 n, .int .i64 m] 23)))
  have X3 := hide ((X2.out.below b3).below (below_box w3 (.cells #[.int .i64 n, .int .i64 m] 23)))
  have Y3 := hide (Pair.new w3 23 (a := .int .i64 n) (b := .int .i64 m))
  have B3 := hide (below_on B2.out b3)
  clear b3
  obtain ⟨x30, x31, _, _, _⟩ := X3.out
  go_wp2_with fail
  refine (head_any n m _ hn hm16).mono ?_; rintro e w4 ⟨rfl, b4⟩
  have T4 := hide (T3.out.below b4)
  have X4 := hide (X3.out.below b4)
  have Y4 := hide (Y3.out.below b4)
  have B4 := hide (below_on B3.out (below_new b4))
  clear b4
  go_wp2_with fail
  refine (of_some n m _ hn hm).mono ?_; rintro e w5 ⟨rfl, b5⟩
  have T5 := hide ((T4.out.below b5).below (below_box w5 (.cells #[.int .i64 n, .int .i64 m] 23)))
  have B5 := hide (below_on (below_on B4.out b5) (below_box w5 (.cells #[.int .i64 n, .int .i64 m] 23)))
  obtain ⟨x50, x51, _, _, _⟩ := (X4.out.below b5).below (below_box w5 (.cells #[.int .i64 n, .int .i64 m] 23))
  obtain ⟨y50, y51, _, _, _⟩ := (Y4.out.below b5).below (below_box w5 (.cells #[.int .i64 n, .int .i64 m] 23))
  clear b5
  go_wp2_with fail
  refine (h1.out _ T5.out).mono ?_; rintro e w6 ⟨rfl, b6⟩
  have T6 := hide ((T5.out.below b6).below (below_box w6 (.cells #[.int .i64 0, .int .i64 0] 23)))
  have B6 := hide (below_on (below_on B5.out b6) (below_box w6 (.cells #[.int .i64 0, .int .i64 0] 23)))
  clear b6
  go_wp2_with fail
  refine (hof.out _).mono ?_; rintro e w8 ⟨rfl, b8⟩
  have T8 := hide ((T6.out.below b8).below (below_box w8 (.cells #[.int .i64 p, .int .i64 q] 23)))
  have B8 := hide (below_on (below_on B6.out b8) (below_box w8 (.cells #[.int .i64 p, .int .i64 q] 23)))
  clear b8
  go_wp2_with fail
  refine (hhd.out _).mono ?_; rintro e w9 ⟨rfl, b9⟩
  have T9 := hide (T8.out.below b9)
  have B9 := hide (below_on B8.out b9)
  clear b9
  go_wp2_with fail
  refine (works_any _ T9.out).mono ?_; rintro e w10 ⟨rfl, b10⟩
  go_wp2_with fail
  go_ret
  exact ⟨rfl, below_on B9.out b10⟩

set_option maxHeartbeats 800000 in
theorem back_100 (n m : Nat) (hn : n ≤ 16) (hm : m < 2 ^ n) (s : ByteArray) (h1 : Answers 7 (.string s) 0 0 16) (head : Int) (hw : ¬ Word head) (w : World) (hl : ¬ 500 < s.size) (ht : Tab w) :
    Calls Tryd.prog 5 #[.agg #[.int .i64 n, .int .i64 m], .string s, .int .i64 head] w fun e w' => e = .returned (.bool true) ∧ Below w.heap.size w w' := by
  have T0 := hide (ht.below (below_box w (.cells #[.int .i64 n, .int .i64 m] 23)))
  replace h1 := hide h1
  clear ht
  have X0 := hide (Pair.new w 23 (a := .int .i64 n) (b := .int .i64 m))
  have HC := hide (code_yes hn hm)
  have hr : Answers 7 (.string (printed n m)) n m 0 := fun W hW => by rw [← read_printed hn hm]; exact parse_all _ W hW
  replace hr := hide hr
  have hm16 := le_mask hn hm
  go_enter Tryd.func5, Tryd.ntmps5
  go_wp2_with fail
  refine (refCheck_all n m _).mono ?_; rintro e w1 ⟨rfl, b1⟩
  rw [HC.out]
  have T1 := hide (T0.out.below b1)
  have X1 := hide (X0.out.below b1)
  have B1 := hide (below_new b1)
  clear b1
  obtain ⟨x10, x11, _, _, _⟩ := X1.out
  go_wp2_with fail
  refine (print_any n m _ hn hm T1.out).mono ?_; rintro e w2 ⟨rfl, b2⟩
  have T2 := hide (T1.out.below b2)
  have X2 := hide (X1.out.below b2)
  have B2 := hide (below_on B1.out b2)
  clear b2
  go_wp2_with fail
  refine (hr.out _ T2.out).mono ?_; rintro e w3 ⟨rfl, b3⟩
  have T3 := hide ((T2.out.below b3).below (below_box w3 (.cells #[.int .i64 n, .int .i64 m] 23)))
  have X3 := hide ((X2.out.below b3).below (below_box w3 (.cells #[.int .i64 n, .int .i64 m] 23)))
  have Y3 := hide (Pair.new w3 23 (a := .int .i64 n) (b := .int .i64 m))
  have B3 := hide (below_on B2.out b3)
  clear b3
  obtain ⟨x30, x31, _, _, _⟩ := X3.out
  go_wp2_with fail
  refine (head_any n m _ hn hm16).mono ?_; rintro e w4 ⟨rfl, b4⟩
  have T4 := hide (T3.out.below b4)
  have X4 := hide (X3.out.below b4)
  have Y4 := hide (Y3.out.below b4)
  have B4 := hide (below_on B3.out (below_new b4))
  clear b4
  go_wp2_with fail
  refine (of_some n m _ hn hm).mono ?_; rintro e w5 ⟨rfl, b5⟩
  have T5 := hide ((T4.out.below b5).below (below_box w5 (.cells #[.int .i64 n, .int .i64 m] 23)))
  have B5 := hide (below_on (below_on B4.out b5) (below_box w5 (.cells #[.int .i64 n, .int .i64 m] 23)))
  obtain ⟨x50, x51, _, _, _⟩ := (X4.out.below b5).below (below_box w5 (.cells #[.int .i64 n, .int .i64 m] 23))
  obtain ⟨y50, y51, _, _, _⟩ := (Y4.out.below b5).below (below_box w5 (.cells #[.int .i64 n, .int .i64 m] 23))
  clear b5
  go_wp2_with fail
  refine (h1.out _ T5.out).mono ?_; rintro e w6 ⟨rfl, b6⟩
  have T6 := hide ((T5.out.below b6).below (below_box w6 (.cells #[.int .i64 0, .int .i64 0] 23)))
  have B6 := hide (below_on (below_on B5.out b6) (below_box w6 (.cells #[.int .i64 0, .int .i64 0] 23)))
  clear b6
  go_wp2_with fail
  refine (of_no head _ hw).mono ?_; rintro e w8 ⟨rfl, b8⟩
  have T8 := hide ((T6.out.below b8).below (below_box w8 (.cells #[.int .i64 0, .int .i64 0] 23)))
  have B8 := hide (below_on (below_on B6.out b8) (below_box w8 (.cells #[.int .i64 0, .int .i64 0] 23)))
  clear b8
  go_wp2_with fail
  refine (works_any _ T8.out).mono ?_; rintro e w10 ⟨rfl, b10⟩
  go_wp2_with fail
  go_ret
  exact ⟨rfl, below_on B8.out b10⟩

set_option maxHeartbeats 800000 in
theorem back_011 (x y : Int) (hc : code x y = 16) (s : ByteArray) (a b : Nat) (ha : a ≤ 16) (hb : b < 2 ^ a) (h1 : Answers 7 (.string s) a b 0) (hp : printed a b = s) (head : Int) (p q : Nat) (hh : head = ((q * 32 + p : Nat) : Int)) (hp2 : p ≤ 16) (hq : q < 2 ^ p) (w : World) (hl : ¬ 500 < s.size) (ht : Tab w) :
    Calls Tryd.prog 5 #[.agg #[.int .i64 x, .int .i64 y], .string s, .int .i64 head] w fun e w' => e = .returned (.bool true) ∧ Below w.heap.size w w' := by
  have T0 := hide (ht.below (below_box w (.cells #[.int .i64 x, .int .i64 y] 23)))
  replace h1 := hide h1
  clear ht
  have HC := hide hc
  clear hc
  have hb16 := le_mask ha hb
  have hpr : ∀ W, Tab W → Calls Tryd.prog 17 #[.agg #[.int .i64 a, .int .i64 b]] W fun e w' => e = .returned (.string s) ∧ Below W.heap.size W w' := fun W hW => by rw [← hp]; exact print_any a b W ha hb hW
  replace hpr := hide hpr
  clear hp
  have hq16 := le_mask hp2 hq
  have hof : ∀ W, Calls Tryd.prog 9 #[.int .i64 head] W fun e w' => e = .returned (.tuple #[.agg #[.int .i64 p, .int .i64 q], .int .i64 0]) ∧ Below W.heap.size W w' := fun W => by rw [hh]; exact of_some p q W hp2 hq
  have hhd : ∀ W, Calls Tryd.prog 19 #[.agg #[.int .i64 p, .int .i64 q]] W fun e w' => e = .returned (.int .i64 head) ∧ Below W.heap.size W w' := fun W => by rw [hh]; exact head_any p q W hp2 hq16
  replace hof := hide hof
  replace hhd := hide hhd
  clear hh
  go_enter Tryd.func5, Tryd.ntmps5
  go_wp2_with fail
  refine (refCheck_all x y _).mono ?_; rintro e w1 ⟨rfl, b1⟩
  rw [HC.out]
  have T1 := hide (T0.out.below b1)
  have B1 := hide (below_new b1)
  clear b1
  go_wp2_with fail
  refine (h1.out _ T1.out).mono ?_; rintro e w6 ⟨rfl, b6⟩
  have T6 := hide ((T1.out.below b6).below (below_box w6 (.cells #[.int .i64 a, .int .i64 b] 23)))
  have B6 := hide (below_on (below_on B1.out b6) (below_box w6 (.cells #[.int .i64 a, .int .i64 b] 23)))
  clear b6
  go_wp2_with fail
  refine (hpr.out _ T6.out).mono ?_; rintro e w7 ⟨rfl, b7⟩
  have T7 := hide (T6.out.below b7)
  have B7 := hide (below_on B6.out b7)
  clear b7
  go_wp2_with fail
  refine (hof.out _).mono ?_; rintro e w8 ⟨rfl, b8⟩
  have T8 := hide ((T7.out.below b8).below (below_box w8 (.cells #[.int .i64 p, .int .i64 q] 23)))
  have B8 := hide (below_on (below_on B7.out b8) (below_box w8 (.cells #[.int .i64 p, .int .i64 q] 23)))
  clear b8
  go_wp2_with fail
  refine (hhd.out _).mono ?_; rintro e w9 ⟨rfl, b9⟩
  have T9 := hide (T8.out.below b9)
  have B9 := hide (below_on B8.out b9)
  clear b9
  go_wp2_with fail
  refine (works_any _ T9.out).mono ?_; rintro e w10 ⟨rfl, b10⟩
  go_wp2_with fail
  go_ret
  exact ⟨rfl, below_on B9.out b10⟩

set_option maxHeartbeats 800000 in
theorem back_010 (x y : Int) (hc : code x y = 16) (s : ByteArray) (a b : Nat) (ha : a ≤ 16) (hb : b < 2 ^ a) (h1 : Answers 7 (.string s) a b 0) (hp : printed a b = s) (head : Int) (hw : ¬ Word head) (w : World) (hl : ¬ 500 < s.size) (ht : Tab w) :
    Calls Tryd.prog 5 #[.agg #[.int .i64 x, .int .i64 y], .string s, .int .i64 head] w fun e w' => e = .returned (.bool true) ∧ Below w.heap.size w w' := by
  have T0 := hide (ht.below (below_box w (.cells #[.int .i64 x, .int .i64 y] 23)))
  replace h1 := hide h1
  clear ht
  have HC := hide hc
  clear hc
  have hb16 := le_mask ha hb
  have hpr : ∀ W, Tab W → Calls Tryd.prog 17 #[.agg #[.int .i64 a, .int .i64 b]] W fun e w' => e = .returned (.string s) ∧ Below W.heap.size W w' := fun W hW => by rw [← hp]; exact print_any a b W ha hb hW
  replace hpr := hide hpr
  clear hp
  go_enter Tryd.func5, Tryd.ntmps5
  go_wp2_with fail
  refine (refCheck_all x y _).mono ?_; rintro e w1 ⟨rfl, b1⟩
  rw [HC.out]
  have T1 := hide (T0.out.below b1)
  have B1 := hide (below_new b1)
  clear b1
  go_wp2_with fail
  refine (h1.out _ T1.out).mono ?_; rintro e w6 ⟨rfl, b6⟩
  have T6 := hide ((T1.out.below b6).below (below_box w6 (.cells #[.int .i64 a, .int .i64 b] 23)))
  have B6 := hide (below_on (below_on B1.out b6) (below_box w6 (.cells #[.int .i64 a, .int .i64 b] 23)))
  clear b6
  go_wp2_with fail
  refine (hpr.out _ T6.out).mono ?_; rintro e w7 ⟨rfl, b7⟩
  have T7 := hide (T6.out.below b7)
  have B7 := hide (below_on B6.out b7)
  clear b7
  go_wp2_with fail
  refine (of_no head _ hw).mono ?_; rintro e w8 ⟨rfl, b8⟩
  have T8 := hide ((T7.out.below b8).below (below_box w8 (.cells #[.int .i64 0, .int .i64 0] 23)))
  have B8 := hide (below_on (below_on B7.out b8) (below_box w8 (.cells #[.int .i64 0, .int .i64 0] 23)))
  clear b8
  go_wp2_with fail
  refine (works_any _ T8.out).mono ?_; rintro e w10 ⟨rfl, b10⟩
  go_wp2_with fail
  go_ret
  exact ⟨rfl, below_on B8.out b10⟩

set_option maxHeartbeats 800000 in
theorem back_001 (x y : Int) (hc : code x y = 16) (s : ByteArray) (h1 : Answers 7 (.string s) 0 0 16) (head : Int) (p q : Nat) (hh : head = ((q * 32 + p : Nat) : Int)) (hp2 : p ≤ 16) (hq : q < 2 ^ p) (w : World) (hl : ¬ 500 < s.size) (ht : Tab w) :
    Calls Tryd.prog 5 #[.agg #[.int .i64 x, .int .i64 y], .string s, .int .i64 head] w fun e w' => e = .returned (.bool true) ∧ Below w.heap.size w w' := by
  have T0 := hide (ht.below (below_box w (.cells #[.int .i64 x, .int .i64 y] 23)))
  replace h1 := hide h1
  clear ht
  have HC := hide hc
  clear hc
  have hq16 := le_mask hp2 hq
  have hof : ∀ W, Calls Tryd.prog 9 #[.int .i64 head] W fun e w' => e = .returned (.tuple #[.agg #[.int .i64 p, .int .i64 q], .int .i64 0]) ∧ Below W.heap.size W w' := fun W => by rw [hh]; exact of_some p q W hp2 hq
  have hhd : ∀ W, Calls Tryd.prog 19 #[.agg #[.int .i64 p, .int .i64 q]] W fun e w' => e = .returned (.int .i64 head) ∧ Below W.heap.size W w' := fun W => by rw [hh]; exact head_any p q W hp2 hq16
  replace hof := hide hof
  replace hhd := hide hhd
  clear hh
  go_enter Tryd.func5, Tryd.ntmps5
  go_wp2_with fail
  refine (refCheck_all x y _).mono ?_; rintro e w1 ⟨rfl, b1⟩
  rw [HC.out]
  have T1 := hide (T0.out.below b1)
  have B1 := hide (below_new b1)
  clear b1
  go_wp2_with fail
  refine (h1.out _ T1.out).mono ?_; rintro e w6 ⟨rfl, b6⟩
  have T6 := hide ((T1.out.below b6).below (below_box w6 (.cells #[.int .i64 0, .int .i64 0] 23)))
  have B6 := hide (below_on (below_on B1.out b6) (below_box w6 (.cells #[.int .i64 0, .int .i64 0] 23)))
  clear b6
  go_wp2_with fail
  refine (hof.out _).mono ?_; rintro e w8 ⟨rfl, b8⟩
  have T8 := hide ((T6.out.below b8).below (below_box w8 (.cells #[.int .i64 p, .int .i64 q] 23)))
  have B8 := hide (below_on (below_on B6.out b8) (below_box w8 (.cells #[.int .i64 p, .int .i64 q] 23)))
  clear b8
  go_wp2_with fail
  refine (hhd.out _).mono ?_; rintro e w9 ⟨rfl, b9⟩
  have T9 := hide (T8.out.below b9)
  have B9 := hide (below_on B8.out b9)
  clear b9
  go_wp2_with fail
  refine (works_any _ T9.out).mono ?_; rintro e w10 ⟨rfl, b10⟩
  go_wp2_with fail
  go_ret
  exact ⟨rfl, below_on B9.out b10⟩

set_option maxHeartbeats 800000 in
theorem back_000 (x y : Int) (hc : code x y = 16) (s : ByteArray) (h1 : Answers 7 (.string s) 0 0 16) (head : Int) (hw : ¬ Word head) (w : World) (hl : ¬ 500 < s.size) (ht : Tab w) :
    Calls Tryd.prog 5 #[.agg #[.int .i64 x, .int .i64 y], .string s, .int .i64 head] w fun e w' => e = .returned (.bool true) ∧ Below w.heap.size w w' := by
  have T0 := hide (ht.below (below_box w (.cells #[.int .i64 x, .int .i64 y] 23)))
  replace h1 := hide h1
  clear ht
  have HC := hide hc
  clear hc
  go_enter Tryd.func5, Tryd.ntmps5
  go_wp2_with fail
  refine (refCheck_all x y _).mono ?_; rintro e w1 ⟨rfl, b1⟩
  rw [HC.out]
  have T1 := hide (T0.out.below b1)
  have B1 := hide (below_new b1)
  clear b1
  go_wp2_with fail
  refine (h1.out _ T1.out).mono ?_; rintro e w6 ⟨rfl, b6⟩
  have T6 := hide ((T1.out.below b6).below (below_box w6 (.cells #[.int .i64 0, .int .i64 0] 23)))
  have B6 := hide (below_on (below_on B1.out b6) (below_box w6 (.cells #[.int .i64 0, .int .i64 0] 23)))
  clear b6
  go_wp2_with fail
  refine (of_no head _ hw).mono ?_; rintro e w8 ⟨rfl, b8⟩
  have T8 := hide ((T6.out.below b8).below (below_box w8 (.cells #[.int .i64 0, .int .i64 0] 23)))
  have B8 := hide (below_on (below_on B6.out b8) (below_box w8 (.cells #[.int .i64 0, .int .i64 0] 23)))
  clear b8
  go_wp2_with fail
  refine (works_any _ T8.out).mono ?_; rintro e w10 ⟨rfl, b10⟩
  go_wp2_with fail
  go_ret
  exact ⟨rfl, below_on B8.out b10⟩

theorem lawBack (x y : Int) (s : ByteArray) (head : Int) (w : World) (hs : s.size ≤ maxLen) (ht : Tab w) :
    Calls Tryd.prog 5 #[.agg #[.int .i64 x, .int .i64 y], .string s, .int .i64 head] w fun e w' => e = .returned (.bool true) ∧ Below w.heap.size w w' := by
  by_cases hl : 500 < s.size
  · exact back_long x y s head w hs hl ht
  rcases code_cases x y with ⟨_, n, m, rfl, rfl, hn, hm⟩ | hc
  · rcases read_back s with ⟨a, b, hr, ha, hb, hp⟩ | hr
    · have h1 : Answers 7 (.string s) a b 0 := fun W hW => by rw [← hr]; exact parse_all s W hW
      by_cases hw : Word head
      · obtain ⟨p, q, hh, hp2, hq⟩ := hw
        exact back_111 n m hn hm s a b ha hb h1 hp head p q hh hp2 hq w hl ht
      · exact back_110 n m hn hm s a b ha hb h1 hp head hw w hl ht
    · have h1 : Answers 7 (.string s) 0 0 16 := fun W hW => by rw [← hr]; exact parse_all s W hW
      by_cases hw : Word head
      · obtain ⟨p, q, hh, hp2, hq⟩ := hw
        exact back_101 n m hn hm s h1 head p q hh hp2 hq w hl ht
      · exact back_100 n m hn hm s h1 head hw w hl ht
  · rcases read_back s with ⟨a, b, hr, ha, hb, hp⟩ | hr
    · have h1 : Answers 7 (.string s) a b 0 := fun W hW => by rw [← hr]; exact parse_all s W hW
      by_cases hw : Word head
      · obtain ⟨p, q, hh, hp2, hq⟩ := hw
        exact back_011 x y hc s a b ha hb h1 hp head p q hh hp2 hq w hl ht
      · exact back_010 x y hc s a b ha hb h1 hp head hw w hl ht
    · have h1 : Answers 7 (.string s) 0 0 16 := fun W hW => by rw [← hr]; exact parse_all s W hW
      by_cases hw : Word head
      · obtain ⟨p, q, hh, hp2, hq⟩ := hw
        exact back_001 x y hc s h1 head p q hh hp2 hq w hl ht
      · exact back_000 x y hc s h1 head hw w hl ht
end Go.Proofs.YtaeimaljegegoaaDoor
