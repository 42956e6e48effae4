/- What Parse and Index of layer 1 return, for every text (and every greatest number): the plain functions readNum and indexNum of its bytes; the world is as it was. -/
import Derived.Test.YtlkdjmjochappaaDoorWalksB
namespace Go.Proofs.YtlkdjmjochappaaDoor
open Go.RowKit
theorem low_prefix (l : List UInt8) : Lib.hasPrefix l [45] = lowOf l := by
  unfold Lib.hasPrefix lowOf
  cases l with
  | nil => rfl
  | cons c r =>
    by_cases h : c = 45
    · subst h; simp [List.isPrefixOf]
    · have h' : ¬ (45 : UInt8) = c := fun e => h e.symm
      simp only [List.isPrefixOf, List.head?_cons, Bool.and_true]
      rw [beq_eq_false_iff_ne.2 h', beq_eq_false_iff_ne.2 (by simpa using h)]
theorem rest_prefix (l : List UInt8) : Lib.trimPrefix l [45] = restOf l := by
  unfold Lib.trimPrefix restOf
  rw [low_prefix]
  cases l <;> simp
theorem rest_len (l : List UInt8) : (restOf l).length ≤ l.length := by
  unfold restOf
  split
  · simp
  · exact Nat.le_refl _
theorem isNum_iff (l : List UInt8) : isNum l = true ↔ l.isEmpty = false ∧ l.all isDig = true ∧ (l.head? ≠ some 48 ∨ l.length = 1) := by
  simp only [isNum, Bool.and_eq_true, Bool.or_eq_true, bne_iff_ne, beq_iff_eq, Bool.not_eq_true']
  exact ⟨fun h => ⟨h.1.1, h.1.2, h.2⟩, fun h => ⟨⟨h.1, h.2.1⟩, h.2.2⟩⟩
theorem fewB_iff (l : List UInt8) (b : Bool) : fewB l b = true ↔ l.isEmpty = false ∧ (l.head? ≠ some 48 ∨ l.length = 1 ∧ b = false) := by
  simp only [fewB, Bool.and_eq_true, Bool.or_eq_true, bne_iff_ne, beq_iff_eq, Bool.not_eq_true']
theorem one_head (l : List UInt8) (h : l.length = 1) (h0 : l.head? = some 48) : l = [48] := by
  match l, h with
  | [c], _ => simpa using h0
theorem readNum_none (l : List UInt8) (h : fewB (restOf l) (lowOf l) = false) : readNum l = (0, 3) := by
  unfold readNum
  rw [if_neg]
  rintro ⟨h1, h2⟩
  obtain ⟨a, b, c⟩ := (isNum_iff _).1 h1
  have : fewB (restOf l) (lowOf l) = true := (fewB_iff _ _).2 ⟨a, by
    rcases c with c | c
    · exact .inl c
    · by_cases h0 : (restOf l).head? = some 48
      · refine .inr ⟨c, ?_⟩
        cases hl : lowOf l with
        | false => rfl
        | true => exact absurd ⟨hl, one_head _ c h0⟩ h2
      · exact .inl h0⟩
  rw [h] at this
  cases this
theorem readNum_some (l : List UInt8) (h : fewB (restOf l) (lowOf l) = true) (ha : (restOf l).all isDig = true) : isNum (restOf l) = true ∧ ¬ (lowOf l = true ∧ restOf l = [48]) := by
  obtain ⟨a, b⟩ := (fewB_iff _ _).1 h
  refine ⟨(isNum_iff _).2 ⟨a, ha, b.elim .inl (fun k => .inr k.1)⟩, ?_⟩
  rintro ⟨h1, h2⟩
  rcases b with b | b
  · rw [h2] at b; exact b rfl
  · rw [h1] at b; cases b.2
theorem readNum_low (l : List UInt8) (h : fewB (restOf l) (lowOf l) = true) (hl : lowOf l = true) : readNum l = (-(distR 9223372036854775808 (restOf l)).1, (distR 9223372036854775808 (restOf l)).2) := by
  unfold distR
  by_cases ha : (restOf l).all isDig = true
  · rw [if_pos ha]
    unfold readNum
    rw [if_pos (readNum_some l h ha), if_pos hl]
    by_cases hw : worth (restOf l) ≤ 9223372036854775808
    · rw [if_pos hw, if_pos (by omega)]
    · rw [if_neg hw, if_neg (by omega)]; rfl
  · rw [if_neg ha]
    unfold readNum
    rw [if_neg (fun h => ha ((isNum_iff _).1 h.1).2.1)]
    rfl
theorem readNum_high (l : List UInt8) (h : fewB (restOf l) (lowOf l) = true) (hl : lowOf l = false) : readNum l = distR 9223372036854775807 (restOf l) := by
  unfold distR
  by_cases ha : (restOf l).all isDig = true
  · rw [if_pos ha]
    unfold readNum
    rw [if_pos (readNum_some l h ha), if_neg (by rw [hl]; decide)]
    by_cases hw : worth (restOf l) ≤ 9223372036854775807
    · rw [if_pos hw, if_pos (by omega)]
    · rw [if_neg hw, if_neg (by omega)]
  · rw [if_neg ha]
    unfold readNum
    rw [if_neg (fun h => ha ((isNum_iff _).1 h.1).2.1)]
theorem distR_range (m : Int) (l : List UInt8) (h : 0 ≤ m) : 0 ≤ (distR m l).1 ∧ (distR m l).1 ≤ m := by
  unfold distR
  split
  · split
    · exact ⟨by simp only; omega, by simpa using ‹_›⟩
    · exact ⟨by simp, by simpa using h⟩
  · exact ⟨by simp, by simpa using h⟩
theorem wrap_neg (n : Int) (h0 : 0 ≤ n) (h1 : n ≤ 9223372036854775808) : wrap64 (IntKind.u64.wrap (-n)) = -n := by
  simp only [IntKind.wrap, wrap64, IntKind.bits, IntKind.signed]
  omega
set_option maxHeartbeats 400000 in
theorem parse_any (s : ByteArray) (w : World) (hmax : s.size ≤ maxLen) :
    Calls Tryd.prog 11 #[.string s] w fun e w' => e = .returned (.tuple #[.int .i64 (readNum s.data.toList).1, .int .i64 (readNum s.data.toList).2]) ∧ w' = w := by
  have hl : (restOf s.data.toList).length ≤ maxLen := Nat.le_trans (rest_len _) (by rw [size_len]; exact hmax)
  have HR := hide (readNum_none s.data.toList)
  have HL := hide (readNum_low s.data.toList)
  have HH := hide (readNum_high s.data.toList)
  go_enter Tryd.func11, Tryd.ntmps11
  go_wp2_with (go_at_call 16; refine (Tryd.strings_CutPrefix _ _ _).mono ?_; rintro e w' ⟨rfl, rfl⟩; rw [show (⟨#[45]⟩ : ByteArray).data.toList = [45] from rfl, rest_prefix, low_prefix]; generalize restOf s.data.toList = r at *; generalize lowOf s.data.toList = b at *)
  refine (few_any ⟨r.toArray⟩ b _ (by simpa [ByteArray.size] using hl)).mono ?_
  rintro e w2 ⟨rfl, rfl⟩
  rw [show (⟨r.toArray⟩ : ByteArray).data.toList = r from rfl]
  have d1 := distR_range 9223372036854775808 r (by omega)
  have d2 := distR_range 9223372036854775807 r (by omega)
  have hsz : (⟨r.toArray⟩ : ByteArray).size ≤ maxLen := by simpa [ByteArray.size] using hl
  cases hf : fewB r b with
  | false =>
    have HE := hide (unhide HR hf)
    clear hf
    go_wp2
    go_ret2
    refine ⟨?_, rfl⟩
    rw [unhide HE]
    rfl
  | true =>
    cases b with
    | true =>
      have HE := hide (unhide HL hf rfl)
      clear hf HH
      go_wp2_with fail
      refine (dist_any ⟨r.toArray⟩ 9223372036854775808 _ hsz (by omega) (by omega)).mono ?_
      rintro e w2 ⟨rfl, rfl⟩
      rw [show (⟨r.toArray⟩ : ByteArray).data.toList = r from rfl]
      generalize (distR 9223372036854775808 r).1 = n at *
      generalize (distR 9223372036854775808 r).2 = c at *
      clear d2
      have HW := hide (wrap_neg n d1.1 d1.2)
      go_wp2
      go_ret2
      refine ⟨ret_two ?_ ?_, rfl⟩
      · rw [unhide HE]; exact unhide HW
      · rw [unhide HE]
    | false =>
      have HE := hide (unhide HH hf rfl)
      clear hf HL
      go_wp2_with fail
      refine (dist_any ⟨r.toArray⟩ 9223372036854775807 _ hsz (by omega) (by omega)).mono ?_
      rintro e w2 ⟨rfl, rfl⟩
      rw [show (⟨r.toArray⟩ : ByteArray).data.toList = r from rfl]
      go_wp2
      go_ret2
      refine ⟨ret_two ?_ ?_, rfl⟩
      · rw [unhide HE]
      · rw [unhide HE]

theorem indexNum_bad (l : List UInt8) (m : Int) (h : (readNum l).2 ≠ 0) : indexNum l m = (0, (readNum l).2) := by unfold indexNum; rw [if_pos h]
theorem indexNum_out (l : List UInt8) (m : Int) (h : (readNum l).2 = 0) (h1 : (readNum l).1 < 0 ∨ m < (readNum l).1) : indexNum l m = (0, 18) := by unfold indexNum; rw [if_neg (by simpa using h), if_pos h1]
theorem indexNum_in (l : List UInt8) (m : Int) (h : (readNum l).2 = 0) (h1 : ¬ ((readNum l).1 < 0 ∨ m < (readNum l).1)) : indexNum l m = ((readNum l).1, 0) := by unfold indexNum; rw [if_neg (by simpa using h), if_neg h1]
set_option maxHeartbeats 400000 in
theorem index_any (s : ByteArray) (m : Int) (w : World) (hmax : s.size ≤ maxLen) :
    Calls Tryd.prog 13 #[.string s, .int .i64 m] w fun e w' => e = .returned (.tuple #[.int .i64 (indexNum s.data.toList m).1, .int .i64 (indexNum s.data.toList m).2]) ∧ w' = w := by
  have H1 := hide (indexNum_bad s.data.toList m)
  have H2 := hide (indexNum_out s.data.toList m)
  have H3 := hide (indexNum_in s.data.toList m)
  have hr := readNum_range s.data.toList
  go_enter Tryd.func13, Tryd.ntmps13
  go_wp2_with fail
  refine (parse_any s _ hmax).mono ?_
  rintro e w2 ⟨rfl, rfl⟩
  generalize (readNum s.data.toList).1 = n at *
  generalize (readNum s.data.toList).2 = c at *
  by_cases hc : c = 0
  · have hc' : (c != 0) = false := by rw [hc]; rfl
    by_cases h1 : n < 0
    · have HE := hide (unhide H2 hc (.inl h1))
      clear hc
      go_wp2
      go_ret2
      refine ⟨?_, rfl⟩
      rw [unhide HE]; rfl
    · by_cases h2 : m < n
      · have HE := hide (unhide H2 hc (.inr h2))
        clear hc
        go_wp2
        go_ret2
        refine ⟨?_, rfl⟩
        rw [unhide HE]; rfl
      · have HE := hide (unhide H3 hc (by omega))
        clear hc
        go_wp2
        go_ret2
        refine ⟨?_, rfl⟩
        rw [unhide HE]; rfl
  · have hc' : (c != 0) = true := by rw [bne_iff_ne]; exact hc
    have HE := hide (unhide H1 hc)
    go_wp2
    go_ret2
    refine ⟨?_, rfl⟩
    rw [unhide HE]; rfl
end Go.Proofs.YtlkdjmjochappaaDoor
