/- Plain facts on decimal digits: what a text of digits is worth, that a number's digits are worth it, and that no other text without noughts ahead is. No condition; no program in this text. -/
import Derived.Lib.ItoaNum
namespace Go.Proofs.YtlkdjmjochappaaDoor
open Go.Lib (decDigits itoa)

/-- A byte that is a digit. -/
def isDig (c : UInt8) : Bool := decide (48 ≤ c.toNat) && decide (c.toNat ≤ 57)
/-- What digits are worth. -/
def worth (l : List UInt8) : Nat := l.foldl (fun a c => a * 10 + (c.toNat - 48)) 0
/-- Digits alone, one at least, no nought ahead of others. -/
def isNum (l : List UInt8) : Bool := !l.isEmpty && l.all isDig && (l.head? != some 48 || l.length == 1)

theorem isDig_iff (c : UInt8) : isDig c = true ↔ 48 ≤ c.toNat ∧ c.toNat ≤ 57 := by simp [isDig]

theorem foldl_worth (l : List UInt8) (a : Nat) : l.foldl (fun a c => a * 10 + (c.toNat - 48)) a = a * 10 ^ l.length + worth l := by
  unfold worth
  induction l generalizing a with
  | nil => simp
  | cons c l ih =>
    simp only [List.foldl_cons, List.length_cons]
    rw [ih (a * 10 + (c.toNat - 48)), ih (0 * 10 + (c.toNat - 48))]
    rw [Nat.pow_succ, Nat.add_mul, Nat.zero_mul, Nat.zero_add, Nat.mul_assoc, Nat.mul_comm 10 (10 ^ l.length)]
    omega
theorem worth_append (a b : List UInt8) : worth (a ++ b) = worth a * 10 ^ b.length + worth b := by
  show (a ++ b).foldl _ 0 = _
  rw [List.foldl_append, foldl_worth b]
  rfl
theorem worth_nil : worth [] = 0 := rfl
theorem worth_one (c : UInt8) : worth [c] = c.toNat - 48 := by simp [worth]
theorem worth_snoc (l : List UInt8) (c : UInt8) : worth (l ++ [c]) = worth l * 10 + (c.toNat - 48) := by
  rw [worth_append, worth_one]; simp

theorem worth_lt : ∀ (l : List UInt8), l.all isDig = true → worth l < 10 ^ l.length
  | [], _ => by simp [worth]
  | c :: l, h => by
    simp only [List.all_cons, Bool.and_eq_true] at h
    have h1 := (isDig_iff c).1 h.1
    have ih := worth_lt l h.2
    have e : worth (c :: l) = (c.toNat - 48) * 10 ^ l.length + worth l := by
      have := worth_append [c] l
      rwa [worth_one] at this
    rw [e, List.length_cons, Nat.pow_succ]
    have : (c.toNat - 48) * 10 ^ l.length ≤ 9 * 10 ^ l.length := Nat.mul_le_mul_right _ (by omega)
    omega
theorem worth_ge (c : UInt8) (l : List UInt8) (h : isDig c = true) (h0 : c ≠ 48) : 10 ^ l.length ≤ worth (c :: l) := by
  have h1 := (isDig_iff c).1 h
  have e : worth (c :: l) = (c.toNat - 48) * 10 ^ l.length + worth l := by
    have := worth_append [c] l
    rwa [worth_one] at this
  have h2 : c.toNat ≠ 48 := fun e => h0 (UInt8.toNat_inj.1 (by rw [e]; rfl))
  have : 1 * 10 ^ l.length ≤ (c.toNat - 48) * 10 ^ l.length := Nat.mul_le_mul_right _ (by omega)
  omega

/-! ### A number's digits -/
theorem dec_small {u : Nat} (h : u < 10) : decDigits u = [UInt8.ofNat (48 + u)] := by rw [decDigits, dif_pos h]
theorem dec_big {u : Nat} (h : ¬ u < 10) : decDigits u = decDigits (u / 10) ++ [UInt8.ofNat (48 + u % 10)] := by rw [decDigits, dif_neg h]
theorem digit_toNat {d : Nat} (h : d < 10) : (UInt8.ofNat (48 + d)).toNat = 48 + d := by
  simp [UInt8.toNat_ofNat']; omega
theorem worth_dec (u : Nat) : worth (decDigits u) = u := by
  induction u using Nat.strongRecOn with
  | _ u ih =>
    by_cases h : u < 10
    · rw [dec_small h, worth_one, digit_toNat h]; omega
    · rw [dec_big h, worth_snoc, ih (u / 10) (by omega), digit_toNat (Nat.mod_lt _ (by decide))]; omega
theorem dec_all (u : Nat) : (decDigits u).all isDig = true := by
  induction u using Nat.strongRecOn with
  | _ u ih =>
    have hd : ∀ d, d < 10 → isDig (UInt8.ofNat (48 + d)) = true := fun d hd => (isDig_iff _).2 (by rw [digit_toNat hd]; omega)
    by_cases h : u < 10
    · rw [dec_small h, List.all_cons, hd u h]; rfl
    · rw [dec_big h, List.all_append, ih (u / 10) (by omega), List.all_cons, hd _ (Nat.mod_lt u (by decide : 0 < 10))]; rfl
theorem dec_ne_nil (u : Nat) : decDigits u ≠ [] := by
  by_cases h : u < 10
  · rw [dec_small h]; simp
  · rw [dec_big h]; simp
theorem dec_head (u : Nat) (h0 : 0 < u) : (decDigits u).head? ≠ some 48 := by
  induction u using Nat.strongRecOn with
  | _ u ih =>
    by_cases h : u < 10
    · rw [dec_small h]
      simp only [List.head?_cons, ne_eq, Option.some.injEq]
      intro e
      have := congrArg UInt8.toNat e
      rw [digit_toNat h] at this
      simp at this; omega
    · rw [dec_big h, List.head?_append]
      have := ih (u / 10) (by omega) (by omega)
      cases hd : (decDigits (u / 10)).head? with
      | none => exact absurd (List.head?_eq_none_iff.1 hd) (dec_ne_nil _)
      | some c => rw [hd] at this; simpa using this
theorem dec_isNum (u : Nat) : isNum (decDigits u) = true := by
  unfold isNum
  rw [dec_all]
  have h1 : (decDigits u).isEmpty = false := by
    cases h : decDigits u with
    | nil => exact absurd h (dec_ne_nil u)
    | cons => rfl
  rw [h1]
  by_cases h0 : u = 0
  · subst h0
    rw [dec_small (by decide)]
    rfl
  · have := dec_head u (by omega)
    simp [this]

theorem snoc_cases (l : List UInt8) (h : l ≠ []) : ∃ a c, l = a ++ [c] := ⟨l.dropLast, l.getLast h, (List.dropLast_concat_getLast h).symm⟩

theorem dec_worth_aux (n : Nat) : ∀ (l : List UInt8), l.length = n → isNum l = true → decDigits (worth l) = l := by
  induction n using Nat.strongRecOn with
  | _ n IH =>
    intro l hn h
    have hs : l.isEmpty = false ∧ l.all isDig = true ∧ (l.head? ≠ some 48 ∨ l.length = 1) := by
      simp only [isNum, Bool.and_eq_true, Bool.or_eq_true, bne_iff_ne, beq_iff_eq, Bool.not_eq_true'] at h
      exact ⟨h.1.1, h.1.2, h.2⟩
    obtain ⟨h1, h2, h3⟩ := hs
    have hne : l ≠ [] := by rintro rfl; simp at h1
    obtain ⟨a, c, rfl⟩ := snoc_cases l hne
    rw [List.all_append, Bool.and_eq_true] at h2
    have hc : isDig c = true := by simpa using h2.2
    have hc' := (isDig_iff c).1 hc
    have ec : UInt8.ofNat (48 + (c.toNat - 48)) = c := by
      rw [show 48 + (c.toNat - 48) = c.toNat by omega]; simp
    cases ha : a with
    | nil =>
      rw [List.nil_append, worth_one, dec_small (by omega), ec]
    | cons b r =>
      rw [← ha]
      have hlen : a.length + 1 = n := by simpa using hn
      have ha0 : a.length ≠ 0 := by rw [ha]; simp
      have hhead : a.head? ≠ some 48 := by
        rcases h3 with h3 | h3
        · rw [List.head?_append] at h3
          rw [ha] at h3 ⊢
          simpa using h3
        · exact absurd h3 (by simp [ha])
      have hb : isDig b = true := by
        have := h2.1
        rw [ha] at this
        simp only [List.all_cons, Bool.and_eq_true] at this
        exact this.1
      have hge := worth_ge b r hb (by rw [ha] at hhead; simpa using hhead)
      rw [← ha] at hge
      have hpos : 1 ≤ worth a := Nat.le_trans (Nat.one_le_pow _ _ (by decide)) hge
      have ih := IH a.length (by omega) a rfl (by
        simp only [isNum, Bool.and_eq_true, Bool.or_eq_true, bne_iff_ne, beq_iff_eq, Bool.not_eq_true']
        exact ⟨⟨by rw [ha]; rfl, h2.1⟩, .inl hhead⟩)
      rw [worth_snoc, dec_big (by omega), show (worth a * 10 + (c.toNat - 48)) / 10 = worth a by omega, ih,
        show (worth a * 10 + (c.toNat - 48)) % 10 = c.toNat - 48 by omega, ec]
theorem dec_worth (l : List UInt8) (h : isNum l = true) : decDigits (worth l) = l := dec_worth_aux l.length l rfl h

/-! ### Which number a text is: its value, and its code (0; 3: no number; 18: out of range) -/
def lowOf (l : List UInt8) : Bool := l.head? == some 45
def restOf (l : List UInt8) : List UInt8 := if lowOf l then l.tail else l
def readNum (l : List UInt8) : Int × Int :=
  if isNum (restOf l) = true ∧ ¬ (lowOf l = true ∧ restOf l = [48]) then
    if lowOf l = true then (if worth (restOf l) ≤ 9223372036854775808 then (- (worth (restOf l) : Int), 0) else (0, 18))
    else (if worth (restOf l) ≤ 9223372036854775807 then ((worth (restOf l) : Int), 0) else (0, 18))
  else (0, 3)
def indexNum (l : List UInt8) (most : Int) : Int × Int :=
  if (readNum l).2 ≠ 0 then (0, (readNum l).2) else if (readNum l).1 < 0 ∨ most < (readNum l).1 then (0, 18) else ((readNum l).1, 0)

theorem readNum_range (l : List UInt8) : -9223372036854775808 ≤ (readNum l).1 ∧ (readNum l).1 ≤ 9223372036854775807 := by
  unfold readNum
  split
  · split
    · split
      · simp only; omega
      · simp
    · split
      · simp only; omega
      · simp
  · simp
theorem readNum_code (l : List UInt8) : (readNum l).2 = 0 ∨ (readNum l).2 = 3 ∨ (readNum l).2 = 18 := by
  unfold readNum
  split
  · split
    · split <;> simp
    · split <;> simp
  · simp

/-- There: a number's digits are read as it. -/
theorem read_itoa (n : Int) (h0 : -9223372036854775808 ≤ n) (h1 : n ≤ 9223372036854775807) : readNum (itoa n) = (n, 0) := by
  by_cases hn : n < 0
  · have e : itoa n = 45 :: decDigits n.natAbs := by rw [itoa, if_pos hn]
    have hl : lowOf (itoa n) = true := by rw [e]; rfl
    have hr : restOf (itoa n) = decDigits n.natAbs := by unfold restOf; rw [if_pos hl, e]; rfl
    have hz : ¬ decDigits n.natAbs = [48] := by
      intro he
      have := congrArg List.head? he
      exact dec_head n.natAbs (by omega) this
    unfold readNum
    rw [hr, if_pos ⟨dec_isNum _, fun h => hz h.2⟩, if_pos hl, worth_dec, if_pos (by omega)]
    simp only [Prod.mk.injEq, and_true]; omega
  · have e : itoa n = decDigits n.toNat := by rw [itoa, if_neg hn]
    have hl : lowOf (itoa n) = false := by
      rw [e]
      unfold lowOf
      cases hd : decDigits n.toNat with
      | nil => rfl
      | cons c r =>
        have := dec_all n.toNat
        rw [hd] at this
        simp only [List.all_cons, Bool.and_eq_true] at this
        have := (isDig_iff c).1 this.1
        simp only [List.head?_cons, beq_eq_false_iff_ne, ne_eq, Option.some.injEq]
        rintro rfl
        simp at this
    have hr : restOf (itoa n) = decDigits n.toNat := by unfold restOf; rw [hl, e]; rfl
    unfold readNum
    rw [hr, hl, if_pos ⟨dec_isNum _, fun h => by simp at h⟩, if_neg (by simp), worth_dec, if_pos (by omega)]
    simp only [Prod.mk.injEq, and_true]; omega
/-- And back: what is read has just these digits. -/
theorem itoa_read (l : List UInt8) (h : (readNum l).2 = 0) : itoa (readNum l).1 = l := by
  unfold readNum at h ⊢
  split at h
  case isFalse => simp at h
  case isTrue hc =>
    obtain ⟨hn, hz⟩ := hc
    rw [if_pos ⟨hn, hz⟩]
    split at h
    case isTrue hl =>
      rw [if_pos hl]
      split at h
      case isFalse => simp at h
      case isTrue hw =>
        rw [if_pos hw]
        have hr : restOf l = l.tail := by unfold restOf; rw [if_pos hl]
        have hd := dec_worth _ hn
        have hpos : 0 < worth (restOf l) := by
          rcases Nat.eq_zero_or_pos (worth (restOf l)) with e | e
          · rw [e, dec_small (by decide)] at hd
            exact absurd ⟨hl, hd.symm⟩ hz
          · exact e
        have hlt : (- (worth (restOf l) : Int)) < 0 := by omega
        show itoa (- (worth (restOf l) : Int)) = l
        rw [itoa, if_pos hlt, show (- (worth (restOf l) : Int)).natAbs = worth (restOf l) by omega, hd, hr]
        unfold lowOf at hl
        cases l with
        | nil => simp at hl
        | cons c r => simp at hl; subst hl; rfl
    case isFalse hl =>
      rw [if_neg hl]
      split at h
      case isFalse => simp at h
      case isTrue hw =>
        rw [if_pos hw]
        have hr : restOf l = l := by unfold restOf; rw [if_neg hl]
        show itoa ((worth (restOf l) : Int)) = l
        rw [itoa, if_neg (by omega), Int.toNat_natCast, dec_worth _ hn, hr]

/-! ### Which of two texts of digits, as long as each other, is worth more -/
theorem worth_first {s t : List UInt8} (hs : s.all isDig = true) (ht : t.all isDig = true) (hl : s.length = t.length) (i : Nat) (hi : i < s.length) (hi' : i < t.length)
    (hp : s.take i = t.take i) (hlt : s[i].toNat < t[i].toNat) : worth s < worth t := by
  have es : s = s.take i ++ s[i] :: s.drop (i + 1) := by rw [← List.drop_eq_getElem_cons hi, List.take_append_drop]
  have et : t = t.take i ++ t[i] :: t.drop (i + 1) := by rw [← List.drop_eq_getElem_cons hi', List.take_append_drop]
  have ks : worth s = (worth (t.take i) * 10 + (s[i].toNat - 48)) * 10 ^ (s.length - (i + 1)) + worth (s.drop (i + 1)) := by
    conv => lhs; rw [es, ← List.singleton_append, ← List.append_assoc, worth_append, worth_snoc, hp]
    simp
  have kt : worth t = (worth (t.take i) * 10 + (t[i].toNat - 48)) * 10 ^ (s.length - (i + 1)) + worth (t.drop (i + 1)) := by
    conv => lhs; rw [et, ← List.singleton_append, ← List.append_assoc, worth_append, worth_snoc]
    simp [hl]
  have dgs : ∀ j (h : j < s.length), 48 ≤ s[j].toNat := fun j h => ((isDig_iff _).1 (List.all_eq_true.1 hs _ (List.getElem_mem h))).1
  have dgt : ∀ j (h : j < t.length), 48 ≤ t[j].toNat := fun j h => ((isDig_iff _).1 (List.all_eq_true.1 ht _ (List.getElem_mem h))).1
  have hd : worth (s.drop (i + 1)) < 10 ^ (s.length - (i + 1)) := by
    have := worth_lt (s.drop (i + 1)) (List.all_eq_true.2 fun c hc => List.all_eq_true.1 hs c (List.mem_of_mem_drop hc))
    simpa using this
  have h1 := dgs i hi
  have h2 := dgt i hi'
  have hm : (worth (t.take i) * 10 + (s[i].toNat - 48) + 1) * 10 ^ (s.length - (i + 1)) ≤ (worth (t.take i) * 10 + (t[i].toNat - 48)) * 10 ^ (s.length - (i + 1)) := Nat.mul_le_mul_right _ (by omega)
  rw [Nat.add_mul, Nat.one_mul] at hm
  omega
/-- Digits are no less than what their first ones are worth. -/
theorem worth_take_le (l : List UInt8) (k : Nat) : worth (l.take k) ≤ worth l := by
  have : worth l = worth (l.take k) * 10 ^ (l.drop k).length + worth (l.drop k) := by rw [← worth_append, List.take_append_drop]
  have hp : 1 ≤ 10 ^ (l.drop k).length := Nat.one_le_pow _ _ (by decide)
  have := Nat.mul_le_mul_left (worth (l.take k)) hp
  omega
#print axioms read_itoa
#print axioms itoa_read
#print axioms worth_first
end Go.Proofs.YtlkdjmjochappaaDoor
