/- The word of an instruction, of the program and of the document; what the document says that it makes. -/
import Derived.Test.YtjnndcellbhpaaaDoorWalksC
namespace Go.Proofs.YtjnndcellbhpaaaDoor
open Go Go.RowKit

theorem row_word (k : Nat) (w : World) : Sem.run Tryd.prog (Instr.field 39 (rowVal k) 0) w = .ok (.string (word k)) w := rfl
theorem word_size (op : Int) : (word (num op)).size ≤ 7 := by
  have : ∀ k, k ≤ 29 → (word k).size ≤ 7 := by decide
  exact this _ (num_le op)
theorem letter_size (t : Int) : (letter t).size = 1 := by unfold letter; split <;> (try split) <;> (try split) <;> rfl
theorem word_any (op t : Int) (a b c d e f : Value) (w : World) (ht : Tab w) : Calls Tryd.prog 7 #[.agg #[.int .i64 op, a, b, .int .i64 t, c, d, e, f]] w fun e w' => e = .returned (.string (iword op t)) ∧ Below w.heap.size w w' := by
  have hf := field_word
  have HB := hide (Box.new w [.int .i64 op, a, b, .int .i64 t, c, d, e, f] 24)
  have HT := hide (ht.below (below_box w (.cells #[.int .i64 op, a, b, .int .i64 t, c, d, e, f] 24)))
  clear ht
  cases h : beside (num op) 128
  · have HM := hide (iword_plain (t := t) h)
    replace h := hide h
    go_enter Tryd.func7, Tryd.ntmps7
    go_wp2_with fail
    refine (does_any op 128 _ HT.out).mono ?_; rintro e w1 ⟨rfl, b1⟩
    rw [h.out]
    have c0 := (HB.out.below b1).2 0 _ rfl
    go_wp2_with fail
    refine (of_any op _ (HT.out.below b1)).mono ?_; rintro e w2 ⟨rfl, b2⟩
    unfold rowVal
    go_wp2_with fail
    go_ret
    exact ⟨ret_str HM.out, below_step (below_new b1) b2⟩
  · have HM := hide (iword_typed (t := t) h)
    replace h := hide h
    go_enter Tryd.func7, Tryd.ntmps7
    go_wp2_with fail
    refine (does_any op 128 _ HT.out).mono ?_; rintro e w1 ⟨rfl, b1⟩
    rw [h.out]
    have B1 := hide (HB.out.below b1)
    have T1 := hide (HT.out.below b1)
    have hr := row_word
    have hz := word_size op
    have hl := letter_size t
    have c0 := fun x => (grew_box B1.out x).2 0 _ rfl
    have c3 := fun x => (grew_box B1.out x).2 3 _ rfl
    go_wp2_with fail
    refine region_grew (by kernel_rfl) (by kernel_rfl) ?_
    repeat (go_big_quiet_step ((first
      | (go_at_call 36; exact calls_grew (of_any op _ (grew_tab T1.out _)))
      | (go_at_call 11; exact calls_grew_same (letter_any t _)))))
    refine wpQuiet_nil ?_
    rintro _ ⟨x, rfl⟩
    go_wp2_with fail
    go_ret
    exact ⟨ret_str HM.out, below_step (below_new b1) (grewTo_below _ x)⟩

theorem refWordI_any (op t : Int) (a b c d e f : Value) (w : World) : Calls Tryd.prog 8 #[.agg #[.int .i64 op, a, b, .int .i64 t, c, d, e, f]] w fun e w' => e = .returned (.string (iword op t)) ∧ Below w.heap.size w w' := by
  have HB := hide (Box.new w [.int .i64 op, a, b, .int .i64 t, c, d, e, f] 24)
  have Hb := hide (below_box w (.cells #[.int .i64 op, a, b, .int .i64 t, c, d, e, f] 24))
  cases h : beside (num op) 128
  · have HM := hide (iword_plain (t := t) h)
    replace h := hide h
    go_enter Tryd.func8, Tryd.ntmps8
    go_wp2_with fail
    refine (typed_any op _).mono ?_; rintro e w1 ⟨rfl, rfl⟩
    rw [h.out]
    go_wp2_with fail
    refine (refWord_any op _).mono ?_; rintro e w2 ⟨rfl, b2⟩
    go_wp2_with fail
    go_ret
    exact ⟨ret_str HM.out, below_step Hb.out b2⟩
  · have HM := hide (iword_typed (t := t) h)
    replace h := hide h
    go_enter Tryd.func8, Tryd.ntmps8
    go_wp2_with fail
    refine (typed_any op _).mono ?_; rintro e w1 ⟨rfl, rfl⟩
    rw [h.out]
    have hz := word_size op
    have hl := letter_size t
    have c0 := fun x => (grew_box HB.out x).2 0 _ rfl
    have c3 := fun x => (grew_box HB.out x).2 3 _ rfl
    go_wp2_with fail
    refine region_grew (by kernel_rfl) (by kernel_rfl) ?_
    repeat (go_big_quiet_step ((first
      | (go_at_call 38; exact calls_grew (refWord_any op _))
      | (go_at_call 12; exact calls_grew_same (refLetter_any t _)))))
    refine wpQuiet_nil ?_
    rintro _ ⟨x, rfl⟩
    go_wp2_with fail
    go_ret
    exact ⟨ret_str HM.out, below_step Hb.out (grewTo_below _ x)⟩

/-- The numbers of the operations that make something of a type of their own. -/
theorem mk_else {op : Int} (h : [1, 2, 3, 4, 5, 6, 7, 9, 11, 16, 8, 10, 12, 17, 15].contains op = false) : mk (num op) = 0 := by
  by_cases ho : 1 ≤ op ∧ op ≤ 29
  · have e : op = ((op.toNat : Nat) : Int) := by omega
    have hk : ∀ k, k ≤ 29 → [1, 2, 3, 4, 5, 6, 7, 9, 11, 16, 8, 10, 12, 17, 15].contains ((k : Nat) : Int) = false → mk k = 0 := by decide +kernel
    rw [show num op = op.toNat from if_pos ho]
    exact hk op.toNat (by omega) (by rw [← e]; exact h)
  · rw [num_out ho]; rfl
theorem mk_at {op : Int} (k v : Int) (h : (op == k) = true) (hv : mk (num k) = v) : v = mk (num op) := by
  rw [← hv, show op = k by simpa using h]
theorem mk_not {op : Int} (h1 : (op == 1) = false) (h2 : (op == 2) = false) (h3 : (op == 3) = false) (h4 : (op == 4) = false) (h5 : (op == 5) = false) (h6 : (op == 6) = false) (h7 : (op == 7) = false) (h9 : (op == 9) = false) (h11 : (op == 11) = false) (h16 : (op == 16) = false)
    (h8 : (op == 8) = false) (h10 : (op == 10) = false) (h12 : (op == 12) = false) (h17 : (op == 17) = false) (h15 : (op == 15) = false) : 0 = mk (num op) := by
  refine (mk_else ?_).symm
  simp only [List.contains_cons, List.contains_nil, h1, h2, h3, h4, h5, h6, h7, h8, h9, h10, h11, h12, h15, h16, h17]
  rfl
theorem refMakes_any (op t : Int) (a b c d e f : Value) (w : World) : Calls Tryd.prog 10 #[.agg #[.int .i64 op, a, b, .int .i64 t, c, d, e, f]] w fun e w' => e = .returned (.int .i64 (imakes op t)) ∧ Below w.heap.size w w' := by
  have Hb := hide (below_box w (.cells #[.int .i64 op, a, b, .int .i64 t, c, d, e, f] 24))
  cases h : beside (num op) 128
  · have HM := hide (imakes_plain (t := t) h)
    replace h := hide h
    go_enter Tryd.func10, Tryd.ntmps10
    go_wp2_with fail
    refine (typed_any op _).mono ?_; rintro e w1 ⟨rfl, rfl⟩
    rw [h.out]
    go_wp2_with fail
    all_goals (go_ret; refine ⟨ret_int ?_, Hb.out⟩; rw [← HM.out])
    all_goals first
      | exact mk_at 1 1 (by assumption) rfl
      | exact mk_at 2 1 (by assumption) rfl
      | exact mk_at 3 1 (by assumption) rfl
      | exact mk_at 4 1 (by assumption) rfl
      | exact mk_at 5 1 (by assumption) rfl
      | exact mk_at 6 1 (by assumption) rfl
      | exact mk_at 7 1 (by assumption) rfl
      | exact mk_at 9 1 (by assumption) rfl
      | exact mk_at 11 1 (by assumption) rfl
      | exact mk_at 16 1 (by assumption) rfl
      | exact mk_at 8 2 (by assumption) rfl
      | exact mk_at 10 2 (by assumption) rfl
      | exact mk_at 12 2 (by assumption) rfl
      | exact mk_at 17 2 (by assumption) rfl
      | exact mk_at 15 3 (by assumption) rfl
      | exact mk_not (by assumption) (by assumption) (by assumption) (by assumption) (by assumption) (by assumption) (by assumption) (by assumption) (by assumption) (by assumption) (by assumption) (by assumption) (by assumption) (by assumption) (by assumption)
  · have HM := hide (imakes_typed (t := t) h)
    replace h := hide h
    go_enter Tryd.func10, Tryd.ntmps10
    go_wp2_with fail
    refine (typed_any op _).mono ?_; rintro e w1 ⟨rfl, rfl⟩
    rw [h.out]
    go_wp2_with fail
    go_ret
    exact ⟨ret_int HM.out, Hb.out⟩
end Go.Proofs.YtjnndcellbhpaaaDoor
