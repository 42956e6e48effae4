/- Values, and pairs of a label and a value, as long as there are. -/
import Derived.Test.YtkkkgennkhdfhaaDoorRdG
namespace Go.Proofs.YtkkkgennkhdfhaaDoor
open Go Go.RowKit
open G (Tok Er Ins Fun peek0 peek1 atOf)

/-- How an instruction and the words go on. -/
abbrev Way := Ins → List Tok → Except Er (Ins × List Tok)
def valueW (E : Int) : Way := fun x l => byWord x addArg (G.value idxF E l)
def labelW (E : Int) : Way := fun x l => byWord x addTo (G.label idxF E l)
/-- How many numbers and words there are. -/
def bulk (x : Ins) (l : List Tok) : Nat := x.2.2.2.2.1.length + x.2.2.2.2.2.1.length + l.length
theorem byWord_ok {α : Type} {x x' : Ins} {f : Ins → α → Ins} {r : Except Er (α × List Tok)} {l' : List Tok} (h : byWord x f r = .ok (x', l')) : ∃ v, r = .ok (v, l') ∧ x' = f x v := by
  unfold byWord at h
  obtain ⟨v, q, h1, h2⟩ : ∃ v q, r = .ok (v, q) ∧ (Except.ok (f x v, q) : Except Er (Ins × List Tok)) = .ok (x', l') := by
    cases r with
    | error e => cases h
    | ok p => exact ⟨p.1, p.2, rfl, h⟩
  cases h2
  exact ⟨v, h1, rfl⟩
theorem tail_bulk {l : List Tok} (h : l ≠ []) : l.tail.length + 1 = l.length := by
  cases l with
  | nil => exact absurd rfl h
  | cons t r => simp
theorem valueW_bulk {E : Int} {x x' : Ins} {l l' : List Tok} (h : valueW E x l = .ok (x', l')) : bulk x' l' = bulk x l ∧ l'.length < l.length := by
  obtain ⟨v, h1, rfl⟩ := byWord_ok h
  obtain ⟨h2, rfl, _⟩ := G.value_ok h1
  have := tail_bulk h2
  unfold bulk addArg
  simp only [List.length_append, List.length_cons, List.length_nil]
  omega
theorem labelW_bulk {E : Int} {x x' : Ins} {l l' : List Tok} (h : labelW E x l = .ok (x', l')) : bulk x' l' = bulk x l ∧ l'.length < l.length := by
  obtain ⟨v, h1, rfl⟩ := byWord_ok h
  obtain ⟨h2, rfl, _⟩ := G.label_ok h1
  have := tail_bulk h2
  unfold bulk addTo
  simp only [List.length_append, List.length_cons, List.length_nil]
  omega
/-- How many words are read. -/
def readAt (a : Nat) (w : World) : Nat := (intOf ((w.cell? ⟨a, 1, none⟩).getD (.int .i64 0))).toNat
theorem Rdr.readAt {B a : Nat} {L : List Tok} {E : Int} {n : Nat} {l : List Tok} {w : World} (h : Rdr B a L E n l w) : YtkkkgennkhdfhaaDoor.readAt a w = L.length - l.length := by
  obtain ⟨_, v, _, c1, _⟩ := h.cells
  unfold YtkkkgennkhdfhaaDoor.readAt
  rw [c1]
  simp [intOf]
def perhapsValueW (E : Int) : Way := fun x l => if G.taken l then valueW E x l else .ok (x, l)
theorem perhapsValue_step {B a c : Nat} {L : List Tok} {E : Int} {n : Nat} {l : List Tok} {x : Ins} (w : World) (h : Rdr B a L E n l w) (hi : InsAt B c x w) (hf : bulk x l ≤ L.length) :
    Calls Tryd.prog 67 #[.pointer (some ⟨a, 0, none⟩), .pointer (some ⟨c, 0, none⟩)] w (Step B a c L E n (perhapsValueW E x l) w) := by
  have H := hide h
  have I := hide hi
  have hL := h.suffix.2.1
  have hBw := h.size
  have hlen : x.2.2.2.2.1.length ≤ 131072 := by unfold bulk at hf; omega
  clear h hi
  go_enter Tryd.func67, Tryd.ntmps67
  go_wp2_with fail
  refine (next_any _ H.out).mono ?_; rintro e w1 ⟨rfl, b1⟩
  cases ht : G.taken l with
  | false =>
    have HW : Hid (perhapsValueW E x l = .ok (x, l)) := hide (by unfold perhapsValueW; rw [ht]; rfl)
    go_wp2_with fail
    go_end0
    exact ⟨Kp.of_belowW b1 hBw, .inl ⟨x, l, HW.out, rfl, H.out.step b1, I.out.step b1⟩⟩
  | true =>
    have HW : Hid (perhapsValueW E x l = valueW E x l) := hide (by unfold perhapsValueW; rw [ht]; rfl)
    go_wp2_with fail
    refine (value_step _ (H.out.step b1) (I.out.step b1) hlen).mono ?_; rintro e w2 ⟨k2, ⟨x', l', hx, rfl, r2, i2⟩ | ⟨er, hx, rfl⟩⟩ <;> replace hx := hide hx
    · go_wp2_with fail
      go_end0
      exact ⟨(Kp.of_belowW b1 hBw).trans k2, .inl ⟨x', l', HW.out.trans hx.out, rfl, r2, i2⟩⟩
    · unfold thrown
      go_wp2_with fail
      exact bodyPost_thrown ⟨(Kp.of_belowW b1 hBw).trans k2, .inr ⟨er, HW.out.trans hx.out, rfl⟩⟩
def moreV (E : Int) : Nat → Way
  | 0 => fun x l => .ok (x, l)
  | f + 1 => fun x l => if G.taken l then G.andThen (valueW E x l) fun x' l' => moreV E f x' l' else .ok (x, l)
def moreValuesW (E : Int) : Way := fun x l => moreV E (l.length + 1) x l
theorem moreV_stop {E : Int} {f : Nat} {x : Ins} {l : List Tok} (h : G.taken l = false) : moreV E (f + 1) x l = .ok (x, l) := by
  unfold moreV; rw [h]; rfl
theorem moreV_go {E : Int} {f : Nat} {x x' : Ins} {l l' : List Tok} (h : G.taken l = true) (hv : valueW E x l = .ok (x', l')) : moreV E (f + 1) x l = moreV E f x' l' := by
  conv => lhs; unfold moreV
  rw [h, hv]; rfl
theorem moreV_bad {E : Int} {f : Nat} {x : Ins} {l : List Tok} {er : Er} (h : G.taken l = true) (hv : valueW E x l = .error er) : moreV E (f + 1) x l = .error er := by
  conv => lhs; unfold moreV
  rw [h, hv]; rfl
theorem moreValues_step {B a c : Nat} {L : List Tok} {E : Int} {n : Nat} {l : List Tok} {x : Ins} (w : World) (h : Rdr B a L E n l w) (hi : InsAt B c x w) (hf : bulk x l ≤ L.length) :
    Calls Tryd.prog 65 #[.pointer (some ⟨a, 0, none⟩), .pointer (some ⟨c, 0, none⟩)] w (Step B a c L E n (moreValuesW E x l) w) := by
  have H := hide h
  have I := hide hi
  have hL := h.suffix.2.1
  have hBw := h.size
  clear h hi
  go_enter Tryd.func65, Tryd.ntmps65
  go_wp2_with fail
  go_loopw [] (fun wr => ∃ (f : Nat) (x' : Ins) (l' : List Tok), Rdr B a L E n l' wr ∧ InsAt B c x' wr ∧ Kp B a w wr ∧ bulk x' l' ≤ L.length ∧ l'.length < f ∧ Hid (moreValuesW E x l = moreV E f x' l')) (fun wr => L.length - readAt a wr)
  case atStart => exact ⟨l.length + 1, x, l, H.out, I.out, Kp.refl _ _ _, hf, by omega, rfl⟩
  case round =>
    obtain ⟨f, x', l', H1, I1, K1, hf1, hlf, HM⟩ := hrel
    have hra := H1.readAt
    have hll := H1.suffix.1.length_le
    have hBr := H1.size
    have H1 := hide H1
    have I1 := hide I1
    have K1 := hide K1
    obtain ⟨f, rfl⟩ : ∃ q, f = q + 1 := ⟨f - 1, by omega⟩
    have hlen : x'.2.2.2.2.1.length ≤ 131072 := by unfold bulk at hf1; omega
    go_wp2_with fail
    refine (next_any _ H1.out).mono ?_; rintro e w1 ⟨rfl, b1⟩
    cases ht : G.taken l' with
    | false =>
      have HW := hide (HM.out.trans (moreV_stop ht))
      go_wp2_with fail
      go_end0
      exact ⟨K1.out.trans (Kp.of_belowW b1 hBr), .inl ⟨x', l', HW.out, rfl, H1.out.step b1, I1.out.step b1⟩⟩
    | true =>
      have HT := hide ht
      go_wp2_with fail
      refine (value_step _ (H1.out.step b1) (I1.out.step b1) hlen).mono ?_; rintro e w2 ⟨k2, ⟨x2, l2, hx, rfl, r2, i2⟩ | ⟨er, hx, rfl⟩⟩ <;> replace hx := hide hx
      · have hb := valueW_bulk hx.out
        have hra2 := r2.readAt
        have hll2 := r2.suffix.1.length_le
        have r2 := hide r2
        have i2 := hide i2
        go_wp2_with fail
        go_roundw
        case rel => exact ⟨f, x2, l2, r2.out, i2.out, (K1.out.trans (Kp.of_belowW b1 hBr)).trans k2, by omega, by omega, hide (HM.out.trans (moreV_go HT.out hx.out))⟩
        case measure => rw [hra, hra2]; omega
      · have HW := hide (HM.out.trans (moreV_bad HT.out hx.out))
        unfold thrown
        go_wp2_with fail
        exact bodyPost_thrown ⟨(K1.out.trans (Kp.of_belowW b1 hBr)).trans k2, .inr ⟨er, HW.out, rfl⟩⟩

theorem is_text (s t : List UInt8) : ((bs s).toList == t) = decide (s = t) := by
  rw [ByteArray.toList_eq, bs_data]
  by_cases h : s = t
  · subst h; simp
  · simp [h]
theorem paired_no {l : List Tok} (h : begins 98 (peek0 l) = false) : G.paired l = false := by
  unfold G.paired
  unfold begins at h
  rw [h]; rfl
theorem paired_br {l : List Tok} (h : peek0 l = [98, 114]) : G.paired l = false := by
  unfold G.paired
  rw [h]; rfl
theorem paired_yes {l : List Tok} (h : begins 98 (peek0 l) = true) (h2 : ¬ peek0 l = [98, 114]) : G.paired l = decide (peek1 l ≠ [58]) := by
  unfold G.paired
  unfold begins at h
  have h3 : (peek0 l != [98, 114]) = true := by simpa using h2
  rw [h, h3, Bool.true_and, Bool.true_and]
  by_cases h : peek1 l = [58]
  · rw [h]; rfl
  · simp [h]
def pairV (E : Int) : Nat → Way
  | 0 => fun x l => .ok (x, l)
  | f + 1 => fun x l => if G.paired l then G.andThen (labelW E x l) fun x' l' => G.andThen (valueW E x' l') fun x'' l'' => pairV E f x'' l'' else .ok (x, l)
def morePairsW (E : Int) : Way := fun x l => pairV E (l.length + 1) x l
theorem pairV_stop {E : Int} {f : Nat} {x : Ins} {l : List Tok} (h : G.paired l = false) : pairV E (f + 1) x l = .ok (x, l) := by
  unfold pairV; rw [h]; rfl
theorem pairV_go {E : Int} {f : Nat} {x x' x2 : Ins} {l l' l2 : List Tok} (h : G.paired l = true) (hb : labelW E x l = .ok (x', l')) (hv : valueW E x' l' = .ok (x2, l2)) : pairV E (f + 1) x l = pairV E f x2 l2 := by
  conv => lhs; unfold pairV
  rw [h, hb]
  show (G.andThen (valueW E x' l') fun x'' l'' => pairV E f x'' l'') = _
  rw [hv]; rfl
theorem pairV_badL {E : Int} {f : Nat} {x : Ins} {l : List Tok} {er : Er} (h : G.paired l = true) (hb : labelW E x l = .error er) : pairV E (f + 1) x l = .error er := by
  conv => lhs; unfold pairV
  rw [h, hb]; rfl
theorem pairV_badV {E : Int} {f : Nat} {x x' : Ins} {l l' : List Tok} {er : Er} (h : G.paired l = true) (hb : labelW E x l = .ok (x', l')) (hv : valueW E x' l' = .error er) : pairV E (f + 1) x l = .error er := by
  conv => lhs; unfold pairV
  rw [h, hb]
  show (G.andThen (valueW E x' l') fun x'' l'' => pairV E f x'' l'') = _
  rw [hv]; rfl
set_option maxHeartbeats 1000000 in
theorem morePairs_step {B a c : Nat} {L : List Tok} {E : Int} {n : Nat} {l : List Tok} {x : Ins} (w : World) (h : Rdr B a L E n l w) (hi : InsAt B c x w) (hf : bulk x l ≤ L.length) :
    Calls Tryd.prog 62 #[.pointer (some ⟨a, 0, none⟩), .pointer (some ⟨c, 0, none⟩)] w (Step B a c L E n (morePairsW E x l) w) := by
  have H := hide h
  have I := hide hi
  have hfd := field_tok
  have hL := h.suffix.2.1
  have hBw := h.size
  clear h hi
  go_enter Tryd.func62, Tryd.ntmps62
  go_wp2_with fail
  go_loopw [] (fun wr => ∃ (f : Nat) (x' : Ins) (l' : List Tok), Rdr B a L E n l' wr ∧ InsAt B c x' wr ∧ Kp B a w wr ∧ bulk x' l' ≤ L.length ∧ l'.length < f ∧ Hid (morePairsW E x l = pairV E f x' l')) (fun wr => L.length - readAt a wr)
  case atStart => exact ⟨l.length + 1, x, l, H.out, I.out, Kp.refl _ _ _, hf, by omega, rfl⟩
  case round =>
    obtain ⟨f, x', l', H1, I1, K1, hf1, hlf, HM⟩ := hrel
    have hra := H1.readAt
    have hll := H1.suffix.1.length_le
    have hBr := H1.size
    have H1 := hide H1
    have I1 := hide I1
    have K1 := hide K1
    obtain ⟨f, rfl⟩ : ∃ q, f = q + 1 := ⟨f - 1, by omega⟩
    have hlen : x'.2.2.2.2.1.length ≤ 131072 ∧ x'.2.2.2.2.2.1.length ≤ 131072 := by unfold bulk at hf1; omega
    have HN1 := hide (is_text (peek0 l') [98, 114])
    have HN2 := hide (is_text (peek1 l') [58])
    go_wp2_with fail
    refine (peek0_any _ H1.out).mono ?_; rintro e w1 ⟨rfl, b1⟩
    go_wp2_with fail
    refine (prefix_any 98 _ _).mono ?_; rintro e w2 ⟨rfl, rfl⟩
    rw [bs_data]
    cases hb : begins 98 (peek0 l') with
    | false =>
      have HW := hide (HM.out.trans (pairV_stop (paired_no hb)))
      go_wp2_with fail
      go_end0
      exact ⟨K1.out.trans (Kp.of_belowW b1 hBr), .inl ⟨x', l', HW.out, rfl, H1.out.step b1, I1.out.step b1⟩⟩
    | true =>
      have HB := hide hb
      go_wp2_with fail
      refine (peek0_any _ (H1.out.step b1)).mono ?_; rintro e w2 ⟨rfl, b2⟩
      by_cases hbr : peek0 l' = [98, 114]
      · have HW := hide (HM.out.trans (pairV_stop (paired_br hbr)))
        have hne : ((bs (peek0 l')).toList == [98, 114]) = true := HN1.out.trans (decide_eq_true hbr)
        clear hbr
        go_wp2_with fail
        go_end0
        exact ⟨K1.out.trans (Kp.of_belowW (below_step b1 b2) hBr), .inl ⟨x', l', HW.out, rfl, H1.out.step (below_step b1 b2), I1.out.step (below_step b1 b2)⟩⟩
      · have hne : ((bs (peek0 l')).toList == [98, 114]) = false := HN1.out.trans (decide_eq_false hbr)
        have HP := hide (paired_yes hb hbr)
        clear hbr
        go_wp2_with fail
        refine (peek1_any _ ((H1.out.step b1).step b2)).mono ?_; rintro e w3 ⟨z, rfl, b3⟩
        have B3 := hide (below_step (below_step b1 b2) b3)
        clear b1 b2 b3
        by_cases hcl : peek1 l' = [58]
        · have HW := hide (HM.out.trans (pairV_stop (HP.out.trans (decide_eq_false (by simpa using hcl)))))
          have hne2 : ((bs (peek1 l')).toList == [58]) = true := HN2.out.trans (decide_eq_true hcl)
          clear hcl
          go_wp2_with fail
          go_end0
          exact ⟨K1.out.trans (Kp.of_belowW B3.out hBr), .inl ⟨x', l', HW.out, rfl, H1.out.step B3.out, I1.out.step B3.out⟩⟩
        · have hne2 : ((bs (peek1 l')).toList == [58]) = false := HN2.out.trans (decide_eq_false hcl)
          have HT := hide (HP.out.trans (decide_eq_true hcl))
          clear hcl
          go_wp2_with fail
          refine (label_step _ (H1.out.step B3.out) (I1.out.step B3.out) hlen.2).mono ?_; rintro e w4 ⟨k4, ⟨x4, l4, hx, rfl, r4, i4⟩ | ⟨er, hx, rfl⟩⟩ <;> replace hx := hide hx
          · have hb4 := labelW_bulk hx.out
            have hlen4 : x4.2.2.2.2.1.length ≤ 131072 := by unfold bulk at *; omega
            have r4 := hide r4
            have i4 := hide i4
            go_wp2_with fail
            refine (value_step _ r4.out i4.out hlen4).mono ?_; rintro e w5 ⟨k5, ⟨x5, l5, hx5, rfl, r5, i5⟩ | ⟨er, hx5, rfl⟩⟩ <;> replace hx5 := hide hx5
            · have hb5 := valueW_bulk hx5.out
              have hra2 := r5.readAt
              have hll2 := r5.suffix.1.length_le
              have r5 := hide r5
              have i5 := hide i5
              go_wp2_with fail
              go_roundw
              case rel => exact ⟨f, x5, l5, r5.out, i5.out, ((K1.out.trans (Kp.of_belowW B3.out hBr)).trans k4).trans k5, by omega, by omega, hide (HM.out.trans (pairV_go HT.out hx.out hx5.out))⟩
              case measure => rw [hra, hra2]; omega
            · have HW := hide (HM.out.trans (pairV_badV HT.out hx.out hx5.out))
              unfold thrown
              go_wp2_with fail
              exact bodyPost_thrown ⟨((K1.out.trans (Kp.of_belowW B3.out hBr)).trans k4).trans k5, .inr ⟨er, HW.out, rfl⟩⟩
          · have HW := hide (HM.out.trans (pairV_badL HT.out hx.out))
            unfold thrown
            go_wp2_with fail
            exact bodyPost_thrown ⟨(K1.out.trans (Kp.of_belowW B3.out hBr)).trans k4, .inr ⟨er, HW.out, rfl⟩⟩
def perhapsPointW (E : Int) : Way := fun x l => if begins 64 (peek0 l) then byWord x setN (G.index idxF 64 1048576 3 E l) else .ok (x, l)
theorem point_ok {E : Int} {x : Ins} {l : List Tok} (h : begins 64 (peek0 l) = true) (hz : (L1.indexNum (behindOf 64 (peek0 l)) 1048576).2 = 0) : perhapsPointW E x l = .ok (setN x (L1.indexNum (behindOf 64 (peek0 l)) 1048576).1, l.tail) := by
  unfold perhapsPointW
  rw [if_pos h]
  have e : G.mark idxF 64 1048576 (peek0 l) = some (L1.indexNum (behindOf 64 (peek0 l)) 1048576).1 := by rw [mark_of, if_pos ⟨h, hz⟩]
  have e2 : G.index idxF 64 1048576 3 E l = .ok ((L1.indexNum (behindOf 64 (peek0 l)) 1048576).1, l.tail) := one_some e
  rw [e2]; rfl
theorem point_bad {E : Int} {x : Ins} {l : List Tok} (h : begins 64 (peek0 l) = true) (hz : ¬ (L1.indexNum (behindOf 64 (peek0 l)) 1048576).2 = 0) : perhapsPointW E x l = .error (3, atOf E l) := by
  unfold perhapsPointW
  rw [if_pos h]
  have e : G.mark idxF 64 1048576 (peek0 l) = none := by rw [mark_of, if_neg (fun k => hz k.2)]
  have e2 : G.index idxF 64 1048576 3 E l = .error (3, atOf E l) := one_none e
  rw [e2]; rfl
theorem perhapsPoint_step {B a c : Nat} {L : List Tok} {E : Int} {n : Nat} {l : List Tok} {x : Ins} (w : World) (h : Rdr B a L E n l w) (hi : InsAt B c x w) :
    Calls Tryd.prog 63 #[.pointer (some ⟨a, 0, none⟩), .pointer (some ⟨c, 0, none⟩)] w (Step B a c L E n (perhapsPointW E x l) w) := by
  have hsh : (bs (behindOf 64 (peek0 l))).size ≤ maxLen := by
    rw [bs_size]
    have := h.short
    have : (behindOf 64 (peek0 l)).length ≤ (peek0 l).length := by unfold behindOf; split <;> simp
    unfold maxLen; omega
  have H := hide h
  have I := hide hi
  have hfd := field_tok
  have hBw := h.size
  have ha := h.suffix.2.2.2
  have hBc := hi.lt.2
  clear h hi
  go_enter Tryd.func63, Tryd.ntmps63
  go_wp2_with fail
  refine (peek0_any _ H.out).mono ?_; rintro e w1 ⟨rfl, b1⟩
  go_wp2_with fail
  refine (cut_any 64 _ _).mono ?_; rintro e w2 ⟨rfl, rfl⟩
  rw [bs_data]
  cases hb : begins 64 (peek0 l) with
  | false =>
    have HW : Hid (perhapsPointW E x l = .ok (x, l)) := hide (by unfold perhapsPointW; rw [hb]; rfl)
    go_wp2_with fail
    refine bodyPost_ret (results_none rfl _ _ _) rfl ?_
    exact ⟨Kp.of_belowW b1 hBw, .inl ⟨x, l, HW.out, rfl, H.out.step b1, I.out.step b1⟩⟩
  | true =>
    have hl : l ≠ [] := fun e => by subst e; cases hb
    have HG := hide (point_ok (E := E) (x := x) hb)
    have HX := hide (point_bad (E := E) (x := x) hb)
    go_wp2_with fail
    refine (L1.index_any _ 1048576 _ hsh).mono ?_; rintro e w2 ⟨rfl, rfl⟩
    rw [bs_data]
    generalize L1.indexNum (behindOf 64 (peek0 l)) 1048576 = r at *
    obtain ⟨v, z⟩ := r
    by_cases hz : z = 0
    · have HW := hide (HG.out hz)
      subst hz
      clear HG HX
      go_wp2_with fail
      refine (take_any _ (H.out.step b1)).mono ?_; rintro e w2 ⟨rfl, k2, r2⟩
      go_wp2_with fail
      refine (need_ok _ _ _ _).mono ?_; rintro e w3 ⟨rfl, b3⟩
      have I2 := ((I.out.step b1).kp k2 ha).step b3
      obtain ⟨c2, z2, _, _⟩ := I2.cel
      have I2 := hide I2
      go_wp2_with fail
      go_end0
      exact ⟨((Kp.of_belowW b1 hBw).trans ((k2.andBelow b3).mono (Nat.le_trans hBw b1.size))).setCell (.inr ⟨hBc, by show c ≠ a; omega⟩) I2.out.not80 _, .inl ⟨_, l.tail, HW.out, rfl, ((r2 hl).step b3).set hBc _, I2.out.setN v⟩⟩
    · have HW := hide (HX.out hz)
      have hz' : (z == 0) = false := by simpa using hz
      clear HG HX
      go_wp2_with fail
      refine (take_any _ (H.out.step b1)).mono ?_; rintro e w2 ⟨rfl, k2, r2⟩
      go_wp2_with fail
      refine (need_no _ _ _ _).mono ?_; rintro e w3 ⟨rfl, b3⟩
      unfold thrown
      go_wp2_with fail
      exact bodyPost_thrown ⟨(Kp.of_belowW b1 hBw).trans ((k2.andBelow b3).mono (Nat.le_trans hBw b1.size)), .inr ⟨_, HW.out, rfl⟩⟩
end Go.Proofs.YtkkkgennkhdfhaaDoor
