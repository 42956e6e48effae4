/- What Parse and Index of the reference of layer 1 return, for every text (and every greatest number): the same plain functions readNum and indexNum; nothing is written. -/
import Derived.Test.YtlkdjmjochappaaDoorWalksD
namespace Go.Proofs.YtlkdjmjochappaaDoor
open Go.RowKit
theorem read_no (l : List UInt8) (h : isNum (restOf l) = false) : readNum l = (0, 3) := by
  unfold readNum
  rw [if_neg (by rw [h]; simp)]
theorem read_minus0 (l : List UInt8) (hl : lowOf l = true) (h : restOf l = [48]) : readNum l = (0, 3) := by
  unfold readNum
  rw [if_neg (fun k => k.2 ⟨hl, h⟩)]
theorem read_low (l : List UInt8) (hl : lowOf l = true) (hn : isNum (restOf l) = true) (hz : restOf l ≠ [48]) :
    readNum l = if worth (restOf l) ≤ 9223372036854775808 then (-(worth (restOf l) : Int), 0) else (0, 18) := by
  unfold readNum
  rw [if_pos ⟨hn, fun k => hz k.2⟩, if_pos hl]
theorem read_high (l : List UInt8) (hl : lowOf l = false) (hn : isNum (restOf l) = true) :
    readNum l = if worth (restOf l) ≤ 9223372036854775807 then ((worth (restOf l) : Int), 0) else (0, 18) := by
  unfold readNum
  rw [if_pos ⟨hn, fun k => by rw [hl] at k; cases k.1⟩, if_neg (by rw [hl]; decide)]
theorem extract_tail (s : ByteArray) : (s.extract 1 s.size).data.toList = s.data.toList.tail := by
  rw [Lib.extract_data, List.drop_one, List.take_of_length_le (by simp)]
theorem low_at (s : ByteArray) (h : 0 < s.size) : lowOf s.data.toList = decide ((s[0].toNat : Int) = 45) := by
  unfold lowOf
  rw [head_at s h]
  by_cases e : s[0] = 45
  · rw [e]; rfl
  · have : ¬ ((s[0].toNat : Int) = 45) := fun k => e ((toNat_eq_iff s[0] 45 (by decide)).1 (by omega))
    simp only [this, decide_false]
    rw [beq_eq_false_iff_ne]; simpa using e
theorem most8 : worth (⟨#[57, 50, 50, 51, 51, 55, 50, 48, 51, 54, 56, 53, 52, 55, 55, 53, 56, 48, 56]⟩ : ByteArray).data.toList = 9223372036854775808 := by decide +kernel
theorem most7 : worth (⟨#[57, 50, 50, 51, 51, 55, 50, 48, 51, 54, 56, 53, 52, 55, 55, 53, 56, 48, 55]⟩ : ByteArray).data.toList = 9223372036854775807 := by decide +kernel
theorem isn8 : isNum (⟨#[57, 50, 50, 51, 51, 55, 50, 48, 51, 54, 56, 53, 52, 55, 55, 53, 56, 48, 56]⟩ : ByteArray).data.toList = true := by decide +kernel
theorem isn7 : isNum (⟨#[57, 50, 50, 51, 51, 55, 50, 48, 51, 54, 56, 53, 52, 55, 55, 53, 56, 48, 55]⟩ : ByteArray).data.toList = true := by decide +kernel
/-- One digit more: what they are worth, and no more than all of them. -/
theorem digit_more (t : ByteArray) (k : Nat) (hk : k < t.size) (hn : isNum t.data.toList = true) : 48 ≤ t[k].toNat ∧ t[k].toNat ≤ 57 ∧ worth (t.data.toList.take (k + 1)) = worth (t.data.toList.take k) * 10 + (t[k].toNat - 48) ∧ worth (t.data.toList.take (k + 1)) ≤ worth t.data.toList := by
  have hd := (isDig_iff t[k]).1 (List.all_eq_true.1 ((isNum_iff _).1 hn).2.1 t[k] (by
    have : t.data.toList[k]? = some t[k] := by rw [List.getElem?_eq_getElem (by simpa using hk)]; rfl
    exact List.mem_of_getElem? this))
  exact ⟨hd.1, hd.2, by rw [take_one_more t k hk, worth_snoc], worth_take_le _ _⟩
set_option maxHeartbeats 400000 in
theorem refParse_low (s : ByteArray) (w : World) (hmax : s.size ≤ maxLen) (hp : 0 < s.size) (hc : (s[0].toNat : Int) = 45) :
    Calls Tryd.prog 12 #[.string s] w fun e w' => e = .returned (.tuple #[.int .i64 (readNum s.data.toList).1, .int .i64 (readNum s.data.toList).2]) ∧ ∃ n, w' = w.drewN n := by
  have hlow : lowOf s.data.toList = true := by rw [low_at s hp]; simpa using hc
  have hrest : restOf s.data.toList = (s.extract 1 s.size).data.toList := by unfold restOf; rw [if_pos hlow, extract_tail]
  have htz : (s.extract 1 s.size).size ≤ maxLen := by rw [← size_len, extract_tail, List.length_tail, size_len]; omega
  have R1 := read_no s.data.toList
  have R2 := read_minus0 s.data.toList hlow
  have R3 := read_low s.data.toList hlow
  rw [hrest] at R1 R2 R3
  have Q1 := hide R1
  have Q2 := hide R2
  have Q3 := hide R3
  clear R1 R2 R3 hrest hlow
  unfold maxLen at hmax
  have he := (empty_false s hp).1
  go_enter Tryd.func12, Tryd.ntmps12
  go_wp2_with fail
  generalize s.extract 1 s.size = t at *
  refine (refDigits_any t _ htz).mono ?_
  rintro e w2 ⟨rfl, rfl⟩
  cases hn : isNum t.data.toList with
  | false =>
    have HE := hide (unhide Q1 hn)
    clear hn
    go_wp2
    go_ret2
    refine ⟨?_, 0, rfl⟩
    rw [unhide HE]; rfl
  | true =>
    by_cases hz : t.data.toList = [48]
    · have hz' : (t.toList == [48]) = true := by rw [ByteArray.toList_eq, hz]; rfl
      have HE := hide (unhide Q2 hz)
      clear hn hz
      go_wp2
      go_ret2
      refine ⟨?_, 0, rfl⟩
      rw [unhide HE]; rfl
    · have hz' : (t.toList == [48]) = false := by rw [ByteArray.toList_eq, beq_eq_false_iff_ne]; exact hz
      have HE := hide (unhide Q3 hn hz)
      have HN := hide hn
      clear hn hz
      go_wp2_with fail
      refine (fits_any t _ _ htz (unhide HN) isn8).mono ?_
      rintro e w3 ⟨rfl, n3, rfl⟩
      rw [most8]
      by_cases hw : worth t.data.toList ≤ 9223372036854775808
      · have hE := unhide HE
        rw [if_pos hw] at hE
        have HE2 := hide hE
        have HW := hide hw
        rw [show decide (worth t.data.toList ≤ 9223372036854775808) = true by simpa using hw]
        clear hE hw HE Q1 Q2 Q3
        have htz' := htz
        unfold maxLen at htz'
        go_wp2
        go_loop [6, 7] (fun n i => ∃ (k : Nat) (nn : Int), k ≤ t.size ∧ i = .int .i64 k ∧ n = .int .i64 nn ∧ Hid (nn = -(worth (t.data.toList.take k) : Int))) (fun _ i => t.size - (intOf i).toNat)
        case atStart => exact ⟨0, 0, Nat.zero_le _, rfl, rfl, rfl⟩
        case round =>
          obtain ⟨k, nn, hk, rfl, rfl, HI⟩ := hrel
          by_cases hlt : k < t.size
          · obtain ⟨g1, g2, g3, g4⟩ := digit_more t k hlt (unhide HN)
            have hb1 : -9223372036854775808 ≤ nn * 10 - ((t[k].toNat : Int) - 48) := by have := unhide HI; have := unhide HW; omega
            have hb2 : nn ≤ 0 := by have := unhide HI; omega
            have G := hide (show nn * 10 - ((t[k].toNat : Int) - 48) = -(worth (t.data.toList.take (k + 1)) : Int) by have := unhide HI; omega)
            have g1' : 48 ≤ (t[k].toNat : Int) := by omega
            have g2' : (t[k].toNat : Int) ≤ 57 := by omega
            clear g1 g2 g3 g4
            go_wp2
            exact ⟨⟨k + 1, _, by omega, by go_num, rfl, hide (unhide G)⟩, by simp [intOf]; omega⟩
          · have HA := hide (show nn = -(worth t.data.toList : Int) by have := unhide HI; rwa [take_all t k hlt] at this)
            go_wp2
            go_ret2
            exact ⟨ret_two (by rw [unhide HE2]; exact unhide HA) (by rw [unhide HE2]), n3, rfl⟩
      · have hE := unhide HE
        rw [if_neg hw] at hE
        have HE2 := hide hE
        rw [show decide (worth t.data.toList ≤ 9223372036854775808) = false by simpa using hw]
        clear hE hw HE Q1 Q2 Q3
        go_wp2
        go_ret2
        refine ⟨?_, n3, rfl⟩
        rw [unhide HE2]; rfl

set_option maxHeartbeats 400000 in
theorem refParse_high (t : ByteArray) (w : World) (hmax : t.size ≤ maxLen) (hp : 0 < t.size) (hc : ((t[0].toNat : Int) == 45) = false) :
    Calls Tryd.prog 12 #[.string t] w fun e w' => e = .returned (.tuple #[.int .i64 (readNum t.data.toList).1, .int .i64 (readNum t.data.toList).2]) ∧ ∃ n, w' = w.drewN n := by
  have hlow : lowOf t.data.toList = false := by rw [low_at t hp]; simpa using hc
  have hrest : restOf t.data.toList = t.data.toList := by unfold restOf; rw [if_neg (by rw [hlow]; decide)]
  have R1 := read_no t.data.toList
  have R3 := read_high t.data.toList hlow
  rw [hrest] at R1 R3
  have Q1 := hide R1
  have Q3 := hide R3
  clear R1 R3 hrest hlow
  have htz := hmax
  unfold maxLen at hmax
  have he := (empty_false t hp).1
  go_enter Tryd.func12, Tryd.ntmps12
  go_wp2_with fail
  refine (refDigits_any t _ htz).mono ?_
  rintro e w2 ⟨rfl, rfl⟩
  cases hn : isNum t.data.toList with
  | false =>
    have HE := hide (unhide Q1 hn)
    clear hn
    go_wp2
    go_ret2
    refine ⟨?_, 0, rfl⟩
    rw [unhide HE]; rfl
  | true =>
      have HE := hide (unhide Q3 hn)
      have HN := hide hn
      clear hn
      go_wp2_with fail
      refine (fits_any t _ _ htz (unhide HN) isn7).mono ?_
      rintro e w3 ⟨rfl, n3, rfl⟩
      rw [most7]
      by_cases hw : worth t.data.toList ≤ 9223372036854775807
      · have hE := unhide HE
        rw [if_pos hw] at hE
        have HE2 := hide hE
        have HW := hide hw
        rw [show decide (worth t.data.toList ≤ 9223372036854775807) = true by simpa using hw]
        clear hE hw HE Q1 Q3
        go_wp2
        go_loop [6, 7] (fun n i => ∃ (k : Nat) (nn : Int), k ≤ t.size ∧ i = .int .i64 k ∧ n = .int .i64 nn ∧ Hid (nn = (worth (t.data.toList.take k) : Int))) (fun _ i => t.size - (intOf i).toNat)
        case atStart => exact ⟨0, 0, Nat.zero_le _, rfl, rfl, rfl⟩
        case round =>
          obtain ⟨k, nn, hk, rfl, rfl, HI⟩ := hrel
          by_cases hlt : k < t.size
          · obtain ⟨g1, g2, g3, g4⟩ := digit_more t k hlt (unhide HN)
            have hb1 : nn * 10 + ((t[k].toNat : Int) - 48) ≤ 9223372036854775807 := by have := unhide HI; have := unhide HW; omega
            have hb2 : 0 ≤ nn := by have := unhide HI; omega
            have G := hide (show nn * 10 + ((t[k].toNat : Int) - 48) = (worth (t.data.toList.take (k + 1)) : Int) by have := unhide HI; omega)
            have g1' : 48 ≤ (t[k].toNat : Int) := by omega
            have g2' : (t[k].toNat : Int) ≤ 57 := by omega
            clear g1 g2 g3 g4
            go_wp2
            exact ⟨⟨k + 1, _, by omega, by go_num, rfl, hide (unhide G)⟩, by simp [intOf]; omega⟩
          · have HA := hide (show nn = (worth t.data.toList : Int) by have := unhide HI; rwa [take_all t k hlt] at this)
            go_wp2
            go_ret2
            exact ⟨ret_two (by rw [unhide HE2]; exact unhide HA) (by rw [unhide HE2]), n3, rfl⟩
      · have hE := unhide HE
        rw [if_neg hw] at hE
        have HE2 := hide hE
        rw [show decide (worth t.data.toList ≤ 9223372036854775807) = false by simpa using hw]
        clear hE hw HE Q1 Q3
        go_wp2
        go_ret2
        refine ⟨?_, n3, rfl⟩
        rw [unhide HE2]; rfl
set_option maxHeartbeats 400000 in
theorem refParse_empty (t : ByteArray) (w : World) (hp : t.size = 0) :
    Calls Tryd.prog 12 #[.string t] w fun e w' => e = .returned (.tuple #[.int .i64 (readNum t.data.toList).1, .int .i64 (readNum t.data.toList).2]) ∧ ∃ n, w' = w.drewN n := by
  have he := (empty_true t hp).1
  have hnil := (empty_true t hp).2
  have HE := hide (show readNum t.data.toList = (0, 3) by rw [hnil]; rfl)
  have HN := hide (show isNum t.data.toList = false by rw [hnil]; rfl)
  clear hnil
  go_enter Tryd.func12, Tryd.ntmps12
  go_wp2_with fail
  refine (refDigits_any t _ (by rw [hp]; exact Nat.zero_le _)).mono ?_
  rintro e w2 ⟨rfl, rfl⟩
  rw [unhide HN]
  go_wp2
  go_ret2
  refine ⟨?_, 0, rfl⟩
  rw [unhide HE]; rfl
theorem refParse_any (s : ByteArray) (w : World) (hmax : s.size ≤ maxLen) :
    Calls Tryd.prog 12 #[.string s] w fun e w' => e = .returned (.tuple #[.int .i64 (readNum s.data.toList).1, .int .i64 (readNum s.data.toList).2]) ∧ ∃ n, w' = w.drewN n := by
  by_cases hp : s.size = 0
  · exact refParse_empty s w hp
  · by_cases hc : (s[0]'(by omega) |>.toNat : Int) = 45
    · exact refParse_low s w hmax (by omega) hc
    · exact refParse_high s w hmax (by omega) (by simpa using hc)
set_option maxHeartbeats 400000 in
theorem refIndex_any (s : ByteArray) (m : Int) (w : World) (hmax : s.size ≤ maxLen) :
    Calls Tryd.prog 14 #[.string s, .int .i64 m] w fun e w' => e = .returned (.tuple #[.int .i64 (indexNum s.data.toList m).1, .int .i64 (indexNum s.data.toList m).2]) ∧ ∃ n, w' = w.drewN n := by
  have H1 := hide (indexNum_bad s.data.toList m)
  have H2 := hide (indexNum_out s.data.toList m)
  have H3 := hide (indexNum_in s.data.toList m)
  have hr := readNum_range s.data.toList
  go_enter Tryd.func14, Tryd.ntmps14
  go_wp2_with fail
  refine (refParse_any s _ hmax).mono ?_
  rintro e w2 ⟨rfl, n2, rfl⟩
  generalize (readNum s.data.toList).1 = n at *
  generalize (readNum s.data.toList).2 = c at *
  by_cases hc : c = 0
  · have hc' : (c != 0) = false := by rw [hc]; rfl
    by_cases h1 : n < 0
    · have HE := hide (unhide H2 hc (.inl h1))
      clear hc
      go_wp2
      go_ret2
      refine ⟨?_, n2, rfl⟩
      rw [unhide HE]; rfl
    · by_cases h2 : m < n
      · have HE := hide (unhide H2 hc (.inr h2))
        clear hc
        go_wp2
        go_ret2
        refine ⟨?_, n2, rfl⟩
        rw [unhide HE]; rfl
      · have HE := hide (unhide H3 hc (by omega))
        clear hc
        go_wp2
        go_ret2
        refine ⟨?_, n2, rfl⟩
        rw [unhide HE]; rfl
  · have hc' : (c != 0) = true := by rw [bne_iff_ne]; exact hc
    have HE := hide (unhide H1 hc)
    go_wp2
    go_ret2
    refine ⟨?_, n2, rfl⟩
    rw [unhide HE]; rfl
end Go.Proofs.YtlkdjmjochappaaDoor
