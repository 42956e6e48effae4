/- What the statements ShapeTells and ShapeReads return, for every input: true. -/
import Derived.Test.YtaeimaljegegoaaDoorWalksF
namespace Go.Proofs.YtaeimaljegegoaaDoor
open Go Go.RowKit

set_option maxHeartbeats 800000 in
theorem tells_yes (n m : Nat) (i : Int) (w : World) (hn : n ≤ 16) (hm : m < 2 ^ n) (ht : Tab w) :
    Calls Tryd.prog 4 #[.agg #[.int .i64 n, .int .i64 m], .int .i64 i] w fun e w' => e = .returned (.bool true) ∧ Below w.heap.size w w' := by
  have HT := hide (ht.below (below_box w (.cells #[.int .i64 n, .int .i64 m] 23)))
  have HC := hide (code_yes hn hm)
  have h16 : m ≤ 65535 := by
    have : 2 ^ n ≤ 2 ^ 16 := Nat.pow_le_pow_right (by decide) hn
    have : (2 : Nat) ^ 16 = 65536 := by decide
    omega
  clear ht
  go_enter Tryd.func4, Tryd.ntmps4
  go_wp2_with fail
  refine (refCheck_all n m _).mono ?_; rintro e w1 ⟨rfl, b1⟩
  rw [HC.out]
  have T1 := hide (HT.out.below b1)
  have P1 := hide ((Pair.new w 23 (a := .int .i64 n) (b := .int .i64 m)).below b1)
  have c0 := fun x => (grew_pair P1.out x).1
  have c1 := fun x => (grew_pair P1.out x).2.1
  go_wp2_with fail
  refine region_grew (by kernel_rfl) (by kernel_rfl) ?_
  repeat (go_big_quiet_step ((first
    | (go_at_call 13; exact calls_grew (pointer_any n m i _ hn hm (grew_tab T1.out _)))
    | (go_at_call 14; exact calls_grew (refPointer_any n m i _ hn hm))
    | (go_at_call 15; exact calls_grew (pointers_any n m _ hn hm (grew_tab T1.out _)))
    | (go_at_call 16; exact calls_grew (refPointers_any n m _ hn hm))
    | (go_at_call 17; exact calls_grew (print_any n m _ hn hm (grew_tab T1.out _)))
    | (go_at_call 18; exact calls_grew (refPrint_any n m _ hn hm))
    | (go_at_call 19; exact calls_grew (head_any n m _ hn h16))
    | (go_at_call 20; exact calls_grew (refHead_any n m _ hn h16))
    | (go_at_call 6; exact calls_grew (works_any _ (grew_tab T1.out _))))))
  refine wpQuiet_nil ?_
  rintro _ ⟨x, rfl⟩
  go_wp2_with fail
  go_ret
  exact ⟨rfl, below_on (below_new b1) (grewTo_below _ x)⟩

set_option maxHeartbeats 400000 in
theorem tells_no (s m i : Int) (w : World) (hc : code s m = 16) (ht : Tab w) :
    Calls Tryd.prog 4 #[.agg #[.int .i64 s, .int .i64 m], .int .i64 i] w fun e w' => e = .returned (.bool true) ∧ Below w.heap.size w w' := by
  have HT := hide (ht.below (below_box w (.cells #[.int .i64 s, .int .i64 m] 23)))
  have HC := hide hc
  clear ht hc
  go_enter Tryd.func4, Tryd.ntmps4
  go_wp2_with fail
  refine (refCheck_all s m _).mono ?_; rintro e w1 ⟨rfl, b1⟩
  rw [HC.out]
  have T1 := hide (HT.out.below b1)
  go_wp2_with fail
  refine (works_any _ T1.out).mono ?_; rintro e w2 ⟨rfl, b2⟩
  go_wp2_with fail
  go_ret
  exact ⟨rfl, below_on (below_new b1) b2⟩
theorem lawTells (s m i : Int) (w : World) (ht : Tab w) :
    Calls Tryd.prog 4 #[.agg #[.int .i64 s, .int .i64 m], .int .i64 i] w fun e w' => e = .returned (.bool true) ∧ Below w.heap.size w w' := by
  rcases code_cases s m with ⟨_, n, k, rfl, rfl, hn, hm⟩ | h
  · exact tells_yes n k i w hn hm ht
  · exact tells_no s m i w h ht

/-- A call that answers a shape and a code, wherever the table reads as it was laid. -/
def Answers (f : FuncId) (arg : Value) (a b c : Int) : Prop :=
  ∀ W, Tab W → Calls Tryd.prog f #[arg] W fun e w' => e = .returned (.tuple #[.agg #[.int .i64 a, .int .i64 b], .int .i64 c]) ∧ Below W.heap.size W w'

set_option maxHeartbeats 400000 in
theorem reads_long (s : ByteArray) (x y head : Int) (w : World) (hs : s.size ≤ maxLen) (hl : 500 < s.size) (ht : Tab w) :
    Calls Tryd.prog 3 #[.string s, .agg #[.int .i64 x, .int .i64 y], .int .i64 head] w fun e w' => e = .returned (.bool true) ∧ Below w.heap.size w w' := by
  unfold maxLen at hs
  have HT := hide (ht.below (below_box w (.cells #[.int .i64 x, .int .i64 y] 23)))
  clear ht
  go_enter Tryd.func3, Tryd.ntmps3
  go_wp2_with fail
  refine (works_any _ HT.out).mono ?_; rintro e w1 ⟨rfl, b1⟩
  go_wp2_with fail
  go_ret
  exact ⟨rfl, below_new b1⟩

set_option maxHeartbeats 800000 in
theorem reads_short (s : ByteArray) (x y head a b c p q r : Int) (w : World) (hl : ¬ 500 < s.size) (ht : Tab w)
    (h1 : Answers 7 (.string s) a b c) (h2 : Answers 8 (.string s) a b c) (h3 : Answers 9 (.int .i64 head) p q r) (h4 : Answers 10 (.int .i64 head) p q r) :
    Calls Tryd.prog 3 #[.string s, .agg #[.int .i64 x, .int .i64 y], .int .i64 head] w fun e w' => e = .returned (.bool true) ∧ Below w.heap.size w w' := by
  have HT := hide (ht.below (below_box w (.cells #[.int .i64 x, .int .i64 y] 23)))
  have X0 := hide (Pair.new w 23 (a := .int .i64 x) (b := .int .i64 y))
  replace h1 := hide h1
  replace h2 := hide h2
  replace h3 := hide h3
  replace h4 := hide h4
  clear ht
  go_enter Tryd.func3, Tryd.ntmps3
  go_wp2_with fail
  refine (h1.out _ HT.out).mono ?_; rintro e w1 ⟨rfl, b1⟩
  have T1 := hide ((HT.out.below b1).below (below_box w1 (.cells #[.int .i64 a, .int .i64 b] 23)))
  have X1 := hide ((X0.out.below b1).below (below_box w1 (.cells #[.int .i64 a, .int .i64 b] 23)))
  have A1 := hide (Pair.new w1 23 (a := .int .i64 a) (b := .int .i64 b))
  go_wp2_with fail
  refine (h2.out _ T1.out).mono ?_; rintro e w2 ⟨rfl, b2⟩
  have T2 := hide ((T1.out.below b2).below (below_box w2 (.cells #[.int .i64 a, .int .i64 b] 23)))
  have X2 := hide ((X1.out.below b2).below (below_box w2 (.cells #[.int .i64 a, .int .i64 b] 23)))
  have A2 := hide ((A1.out.below b2).below (below_box w2 (.cells #[.int .i64 a, .int .i64 b] 23)))
  have B2 := hide (Pair.new w2 23 (a := .int .i64 a) (b := .int .i64 b))
  go_wp2_with fail
  refine (h3.out _ T2.out).mono ?_; rintro e w3 ⟨rfl, b3⟩
  have T3 := hide ((T2.out.below b3).below (below_box w3 (.cells #[.int .i64 p, .int .i64 q] 23)))
  have X3 := hide ((X2.out.below b3).below (below_box w3 (.cells #[.int .i64 p, .int .i64 q] 23)))
  have A3 := hide ((A2.out.below b3).below (below_box w3 (.cells #[.int .i64 p, .int .i64 q] 23)))
  have B3 := hide ((B2.out.below b3).below (below_box w3 (.cells #[.int .i64 p, .int .i64 q] 23)))
  have P3 := hide (Pair.new w3 23 (a := .int .i64 p) (b := .int .i64 q))
  go_wp2_with fail
  refine (h4.out _ T3.out).mono ?_; rintro e w4 ⟨rfl, b4⟩
  have T4 := hide ((T3.out.below b4).below (below_box w4 (.cells #[.int .i64 p, .int .i64 q] 23)))
  have X4 := hide ((X3.out.below b4).below (below_box w4 (.cells #[.int .i64 p, .int .i64 q] 23)))
  have A4 := hide ((A3.out.below b4).below (below_box w4 (.cells #[.int .i64 p, .int .i64 q] 23)))
  have B4 := hide ((B3.out.below b4).below (below_box w4 (.cells #[.int .i64 p, .int .i64 q] 23)))
  have P4 := hide ((P3.out.below b4).below (below_box w4 (.cells #[.int .i64 p, .int .i64 q] 23)))
  have Q4 := hide (Pair.new w4 23 (a := .int .i64 p) (b := .int .i64 q))
  have x0 := fun z => (grew_pair X4.out z).1
  have x1 := fun z => (grew_pair X4.out z).2.1
  have a0 := fun z => (grew_pair A4.out z).1
  have a1 := fun z => (grew_pair A4.out z).2.1
  have d0 := fun z => (grew_pair B4.out z).1
  have d1 := fun z => (grew_pair B4.out z).2.1
  have p0 := fun z => (grew_pair P4.out z).1
  have p1 := fun z => (grew_pair P4.out z).2.1
  have q0 := fun z => (grew_pair Q4.out z).1
  have q1 := fun z => (grew_pair Q4.out z).2.1
  go_wp2_with fail
  refine region_grew (by kernel_rfl) (by kernel_rfl) ?_
  repeat (go_big_quiet_step ((first
    | (go_at_call 11; exact calls_grew (check_all x y _))
    | (go_at_call 12; exact calls_grew (refCheck_all x y _))
    | (go_at_call 6; exact calls_grew (works_any _ (grew_tab T4.out _))))))
  refine wpQuiet_nil ?_
  rintro _ ⟨z, rfl⟩
  go_wp2_with fail
  go_ret
  exact ⟨rfl, below_on (below_on (below_on (below_on (below_new b1) (below_new b2)) (below_new b3)) (below_new b4)) (below_new (grewTo_below _ z))⟩

theorem lawReads (s : ByteArray) (x y head : Int) (w : World) (hs : s.size ≤ maxLen) (ht : Tab w) :
    Calls Tryd.prog 3 #[.string s, .agg #[.int .i64 x, .int .i64 y], .int .i64 head] w fun e w' => e = .returned (.bool true) ∧ Below w.heap.size w w' := by
  by_cases hl : 500 < s.size
  · exact reads_long s x y head w hs hl ht
  obtain ⟨a, b, c, hr⟩ : ∃ a b c : Int, readS s = .tuple #[.agg #[.int .i64 a, .int .i64 b], .int .i64 c] := by
    rcases readS_cases s with ⟨n, m, h, _⟩ | h
    · exact ⟨n, m, 0, h⟩
    · exact ⟨0, 0, 16, h⟩
  have h1 : Answers 7 (.string s) a b c := fun W hW => by rw [← hr]; exact parse_all s W hW
  have h2 : Answers 8 (.string s) a b c := fun W _ => by rw [← hr]; exact refParse_all s W
  by_cases hw : Word head
  · obtain ⟨n, m, rfl, hn, hm⟩ := hw
    exact reads_short s x y _ a b c n m 0 w hl ht h1 h2 (fun W _ => of_some n m W hn hm) (fun W _ => refOf_some n m W hn hm)
  · exact reads_short s x y _ a b c 0 0 16 w hl ht h1 h2 (fun W _ => of_no head W hw) (fun W _ => refOf_no head W hw)
end Go.Proofs.YtaeimaljegegoaaDoor
