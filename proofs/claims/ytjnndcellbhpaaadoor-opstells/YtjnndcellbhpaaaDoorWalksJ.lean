/- What the statement OpsTells returns, for every input: true. -/
import Derived.Test.YtjnndcellbhpaaaDoorWalksI
namespace Go.Proofs.YtjnndcellbhpaaaDoor
open Go Go.RowKit

theorem takes_len (k : Nat) : (takes k).length ≤ 1000 := Nat.le_trans (List.length_filter_le _ _) (by simp)
set_option maxHeartbeats 1000000 in
theorem lawTells (op t u : Int) (a b c d e f : Value) (w : World) (ht : Tab w) : Calls Tryd.prog 3 #[.agg #[.int .i64 op, a, b, .int .i64 t, c, d, e, f], .int .i64 u] w fun e w' => e = .returned (.bool true) ∧ Below w.heap.size w w' := by
  have HB := hide (Box.new w [.int .i64 op, a, b, .int .i64 t, c, d, e, f] 24)
  have HT := hide (ht.below (below_box w (.cells #[.int .i64 op, a, b, .int .i64 t, c, d, e, f] 24)))
  have Hb := hide (below_box w (.cells #[.int .i64 op, a, b, .int .i64 t, c, d, e, f] 24))
  clear ht
  have c0 := fun x => (grew_box HB.out x).2 0 _ rfl
  have c1 := fun x => (grew_box HB.out x).2 1 _ rfl
  have c2 := fun x => (grew_box HB.out x).2 2 _ rfl
  have c3 := fun x => (grew_box HB.out x).2 3 _ rfl
  have c4 := fun x => (grew_box HB.out x).2 4 _ rfl
  have c5 := fun x => (grew_box HB.out x).2 5 _ rfl
  have c6 := fun x => (grew_box HB.out x).2 6 _ rfl
  have c7 := fun x => (grew_box HB.out x).2 7 _ rfl
  go_enter Tryd.func3, Tryd.ntmps3
  go_wp2_with fail
  refine region_grew (by kernel_rfl) (by kernel_rfl) ?_
  repeat (go_big_quiet_step ((first
    | (go_at_call 7; exact calls_grew (word_any op t _ _ _ _ _ _ _ (grew_tab HT.out _)))
    | (go_at_call 8; exact calls_grew (refWordI_any op t _ _ _ _ _ _ _))
    | (go_at_call 9; exact calls_grew (makes_any op t _ _ _ _ _ _ _ (grew_tab HT.out _)))
    | (go_at_call 10; exact calls_grew (refMakes_any op t _ _ _ _ _ _ _))
    | (go_at_call 11; exact calls_grew_same (letter_any u _))
    | (go_at_call 12; exact calls_grew_same (refLetter_any u _))
    | (go_at_call 13; exact calls_grew_same (may_any op u _))
    | (go_at_call 14; exact calls_grew_same (refMay_any op u _)))))
  refine wpQuiet_nil ?_
  rintro _ ⟨x, rfl⟩
  clear c0
  clear c1
  clear c2
  clear c3
  clear c4
  clear c5
  clear c6
  clear c7
  have T0 := hide (grew_tab HT.out x)
  have b0 := hide (below_step Hb.out (grewTo_below _ x))
  clear HB HT Hb
  generalize grewTo _ x = w0 at *
  go_wp2_with fail
  refine (takes_any op _ T0.out).mono ?_; rintro e w1 ⟨ao, ca, rfl, S1, b1⟩
  have T1 := hide (T0.out.below b1)
  replace b1 := hide (below_step b0.out b1)
  replace S1 := hide S1
  go_wp2_with fail
  refine (refTakes_any op _).mono ?_; rintro e w2 ⟨bo, cb, rfl, S2, b2⟩
  replace S1 := hide (S1.out.below b2)
  have T2 := hide (T1.out.below b2)
  replace b2 := hide (below_step b1.out b2)
  replace S2 := hide S2
  go_wp2_with fail
  refine (ints_same _ ao bo ca cb _ (takes_len _) S1.out S2.out).mono ?_; rintro e w3 ⟨rfl, b3⟩
  have T3 := hide (T2.out.below b3)
  replace b3 := hide (below_step b2.out b3)
  go_wp2_with fail
  refine (traps_any op _ T3.out).mono ?_; rintro e w4 ⟨rfl, b4⟩
  have T4 := hide (T3.out.below b4)
  replace b4 := hide (below_step b3.out b4)
  go_wp2_with fail
  refine (refTraps_any op _).mono ?_; rintro e w5 ⟨rfl, b5⟩
  have T5 := hide (T4.out.below b5)
  replace b5 := hide (below_step b4.out b5)
  go_wp2_with fail
  refine (reads_any op _ T5.out).mono ?_; rintro e w6 ⟨rfl, b6⟩
  have T6 := hide (T5.out.below b6)
  replace b6 := hide (below_step b5.out b6)
  go_wp2_with fail
  refine (refReads_any op _).mono ?_; rintro e w7 ⟨rfl, b7⟩
  have T7 := hide (T6.out.below b7)
  replace b7 := hide (below_step b6.out b7)
  go_wp2_with fail
  refine (writes_any op _ T7.out).mono ?_; rintro e w8 ⟨rfl, b8⟩
  have T8 := hide (T7.out.below b8)
  replace b8 := hide (below_step b7.out b8)
  go_wp2_with fail
  refine (refWrites_any op _).mono ?_; rintro e w9 ⟨rfl, b9⟩
  have T9 := hide (T8.out.below b9)
  replace b9 := hide (below_step b8.out b9)
  go_wp2_with fail
  refine (seen_any op _ T9.out).mono ?_; rintro e w10 ⟨rfl, b10⟩
  have T10 := hide (T9.out.below b10)
  replace b10 := hide (below_step b9.out b10)
  go_wp2_with fail
  refine (refSeen_any op _).mono ?_; rintro e w11 ⟨rfl, b11⟩
  have T11 := hide (T10.out.below b11)
  replace b11 := hide (below_step b10.out b11)
  go_wp2_with fail
  refine (ends_any op _ T11.out).mono ?_; rintro e w12 ⟨rfl, b12⟩
  have T12 := hide (T11.out.below b12)
  replace b12 := hide (below_step b11.out b12)
  go_wp2_with fail
  refine (refEnds_any op _).mono ?_; rintro e w13 ⟨rfl, rfl⟩
  have T13 := T12
  have b13 := b12
  go_wp2_with fail
  refine (pure_any op _ T13.out).mono ?_; rintro e w14 ⟨rfl, b14⟩
  have T14 := hide (T13.out.below b14)
  replace b14 := hide (below_step b13.out b14)
  go_wp2_with fail
  refine (refPure_any op _).mono ?_; rintro e w15 ⟨rfl, b15⟩
  have T15 := hide (T14.out.below b15)
  replace b15 := hide (below_step b14.out b15)
  go_wp2_with fail
  refine (safe_any op _ T15.out).mono ?_; rintro e w16 ⟨rfl, b16⟩
  have T16 := hide (T15.out.below b16)
  replace b16 := hide (below_step b15.out b16)
  go_wp2_with fail
  refine (refSafe_any op _).mono ?_; rintro e w17 ⟨rfl, rfl⟩
  have T17 := T16
  have b17 := b16
  go_wp2_with fail
  refine (works_any _ T17.out).mono ?_; rintro e w18 ⟨rfl, b18⟩
  go_wp2_with fail
  go_ret
  exact ⟨rfl, below_step b17.out b18⟩
end Go.Proofs.YtjnndcellbhpaaaDoor
