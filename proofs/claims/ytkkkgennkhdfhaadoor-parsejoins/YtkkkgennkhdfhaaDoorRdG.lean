/- Names; values and pairs, as long as there are. -/
import Derived.Test.YtkkkgennkhdfhaaDoorRdF
namespace Go.Proofs.YtkkkgennkhdfhaaDoor
open Go Go.RowKit
open G (Tok Er Ins Fun peek0 peek1 atOf)

theorem Below.undrew {B : Nat} {w w' : World} (h : Below B w.drew w') : Below B w w' := ⟨h.1, h.2, h.3, h.4, h.5⟩
theorem name_of (E : Int) (l : List Tok) : G.name namF E l = if namF (peek0 l) = true then .ok (peek0 l, l.tail) else .error (4, atOf E l) := by
  by_cases h : namF (peek0 l) = true
  · rw [if_pos h]; exact one_some (if_pos h)
  · rw [if_neg h]; exact one_none (if_neg h)
theorem nam_ne (l : List Tok) (h : namF (peek0 l) = true) : l ≠ [] := fun e => by subst e; exact absurd (nam_nil.symm.trans h) (by simp)
theorem nameB_any (s : List UInt8) (b : Bool) (w : World) (hs : s.length ≤ 65536) (hb : namF s = b) : Calls Tryd.prog 40 #[.string (bs s)] w fun e w' => e = .returned (.bool b) ∧ Below w.heap.size w w' := by
  have := L2.name_any (bs s) w (by rw [bs_size]; unfold maxLen; omega)
  rw [bs_data] at this
  subst hb
  exact this
set_option maxHeartbeats 1000000 in
set_option maxRecDepth 20000 in
theorem name_any {B a : Nat} {L : List Tok} {E : Int} {n : Nat} {l : List Tok} (w : World) (h : Rdr B a L E n l w) :
    Calls Tryd.prog 35 #[.pointer (some ⟨a, 0, none⟩)] w (Out B a L E n (G.name namF E l) (fun s => .string (bs s)) w) := by
  have HW := hide (name_of E l)
  have hN := nam_ne l
  have hsh := h.short
  have H := hide h
  clear h
  go_enter Tryd.func35, Tryd.ntmps35
  go_wp2_with fail
  refine (take_any _ H.out).mono ?_; rintro e w1 ⟨rfl, k1, r1⟩
  have P1 := hide (Pair.new w1 53 (a := .string (bs (peek0 l))) (b := .int .i64 (atOf E l)))
  have K1 := hide (k1.andBelow (below_box w1 (.cells #[.string (bs (peek0 l)), .int .i64 (atOf E l)] 53)))
  have R1 := hide (fun hl => (r1 hl).step (below_box w1 (.cells #[.string (bs (peek0 l)), .int .i64 (atOf E l)] 53)))
  clear k1 r1
  go_upto_region 2 with fail
  show Code.wp _ _ _ _ (w1.alloc (.cells #[.string (bs (peek0 l)), .int .i64 (atOf E l)] 53))
  generalize w1.alloc (.cells #[.string (bs (peek0 l)), .int .i64 (atOf E l)] 53) = W1 at *
  generalize w1.heap.size = g at *
  obtain ⟨p0, p1, p2, p3, p4⟩ := P1.out
  cases hb : namF (peek0 l) with
  | true =>
    have HW2 := hide (HW.out.trans (if_pos hb))
    have hl := hN hb
    clear HW hN
    go_region_with ((first
      | (go_at_call 40; refine (nameB_any (peek0 l) true _ hsh hb).mono ?_; rintro e w2 ⟨rfl, b2⟩; obtain ⟨q0, q1, q2, q3, q4⟩ := P1.out.below (Below.undrew b2))
      | (go_at_call 31; refine (need_ok _ _ _ _).mono ?_; rintro e w3 ⟨rfl, b3⟩; obtain ⟨t0, t1, t2, t3, t4⟩ := (P1.out.below (Below.undrew b2)).below b3)))
    all_goals
      go_wp2_with fail
      go_ret
      exact ⟨(K1.out.andBelow (Below.undrew b2)).andBelow b3, .inl ⟨_, _, HW2.out, rfl, ((R1.out hl).step (Below.undrew b2)).step b3⟩⟩
  | false =>
    have HW2 := hide (HW.out.trans (if_neg (by simp [hb])))
    clear HW hN
    go_region_with ((first
      | (go_at_call 40; refine (nameB_any (peek0 l) false _ hsh hb).mono ?_; rintro e w2 ⟨rfl, b2⟩; obtain ⟨q0, q1, q2, q3, q4⟩ := P1.out.below (Below.undrew b2))
      | (go_at_call 31; refine (need_no _ _ _ _).mono ?_; rintro e w3 ⟨rfl, b3⟩; refine step_done (P := Tryd.prog) (by exact bodyPost_thrown ⟨(K1.out.andBelow (Below.undrew b2)).andBelow b3, .inr ⟨_, HW2.out, rfl⟩⟩) ?_)))
    all_goals trivial
theorem callee_step {B a c : Nat} {L : List Tok} {E : Int} {n : Nat} {l : List Tok} {x : Ins} (w : World) (h : Rdr B a L E n l w) (hi : InsAt B c x w) :
    Calls Tryd.prog 64 #[.pointer (some ⟨a, 0, none⟩), .pointer (some ⟨c, 0, none⟩)] w (Step B a c L E n (byWord x setName (G.name namF E l)) w) := by
  have H := hide h
  have I := hide hi
  have ha := h.suffix.2.2.2
  have hBw := h.size
  have hBc := hi.lt.2
  clear h hi
  go_enter Tryd.func64, Tryd.ntmps64
  go_wp2_with fail
  refine (name_any _ H.out).mono ?_; rintro e w1 ⟨k1, ⟨v, l', hx, rfl, r1⟩ | ⟨er, hx, rfl⟩⟩ <;> replace hx := hide hx
  · have I2 := I.out.kp k1 ha
    obtain ⟨_, _, c2, z2⟩ := I2.cel
    have I2 := hide I2
    go_wp2_with fail
    go_end0
    exact ⟨(k1.mono hBw).setCell (.inr ⟨hBc, by show c ≠ a; omega⟩) I2.out.not80 _, .inl ⟨_, l', by unfold byWord; rw [hx.out]; rfl, rfl, r1.set hBc _, I2.out.setName v⟩⟩
  · unfold thrown
    go_wp2_with fail
    exact bodyPost_thrown ⟨k1.mono hBw, .inr ⟨er, by unfold byWord; rw [hx.out]; rfl, rfl⟩⟩
theorem ne_text (s t : List UInt8) : ((bs s).toList != t) = decide (s ≠ t) := by
  rw [ByteArray.toList_eq, bs_data]
  by_cases h : s = t
  · subst h; simp
  · simp [h]
set_option maxRecDepth 20000 in
theorem field_tok (t a : Value) (w : World) : Sem.run Tryd.prog (Instr.field 53 (.agg #[t, a]) 0) w = .ok t w := rfl
theorem taken_no {l : List Tok} (h : begins 37 (peek0 l) = false) : G.taken l = false := by
  unfold G.taken
  unfold begins at h
  rw [h]; rfl
theorem taken_yes {l : List Tok} (h : begins 37 (peek0 l) = true) : G.taken l = decide (peek1 l ≠ [61]) := by
  unfold G.taken
  unfold begins at h
  rw [h, Bool.true_and]
  by_cases h : peek1 l = [61]
  · rw [h]; rfl
  · simp [h]
theorem next_any {B a : Nat} {L : List Tok} {E : Int} {n : Nat} {l : List Tok} (w : World) (h : Rdr B a L E n l w) :
    Calls Tryd.prog 76 #[.pointer (some ⟨a, 0, none⟩)] w fun e w' => e = .returned (.bool (G.taken l)) ∧ Below w.heap.size w w' := by
  have H := hide h
  have hf := field_tok
  have HN := hide (ne_text (peek1 l) [61])
  clear h
  go_enter Tryd.func76, Tryd.ntmps76
  go_wp2_with fail
  refine (peek0_any _ H.out).mono ?_; rintro e w1 ⟨rfl, b1⟩
  go_wp2_with fail
  refine (prefix_any 37 _ _).mono ?_; rintro e w2 ⟨rfl, rfl⟩
  rw [bs_data]
  cases hb : begins 37 (peek0 l) with
  | false =>
    have HT := hide (taken_no hb)
    go_wp2_with fail
    go_ret
    exact ⟨ret_bool HT.out.symm, b1⟩
  | true =>
    have HT := hide (taken_yes hb)
    go_wp2_with fail
    refine (peek1_any _ (H.out.step b1)).mono ?_; rintro e w2 ⟨z, rfl, b2⟩
    go_wp2_with fail
    go_ret
    exact ⟨ret_bool (HN.out.trans HT.out.symm), below_step b1 b2⟩
end Go.Proofs.YtkkkgennkhdfhaaDoor
