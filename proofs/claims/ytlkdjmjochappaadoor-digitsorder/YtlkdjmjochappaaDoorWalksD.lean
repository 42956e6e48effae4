/- What the functions digits, above and fits of the reference of layer 1 return, for every text (above: for two texts of digits of one length; fits: for two numbers in digits without noughts ahead); nothing is written. -/
import Derived.Test.YtlkdjmjochappaaDoorWalksC
import Derived.Deep.QuietTactic
import Derived.BigQuiet
namespace Go.Proofs.YtlkdjmjochappaaDoor
open Go.RowKit
/-- Two answers. -/
theorem ret_bool {a b : Bool} (h : a = b) : Ending.returned (.bool a) = .returned (.bool b) := by rw [h]
theorem isNum_at (s : ByteArray) (h : 0 < s.size) : isNum s.data.toList = (s.data.toList.all isDig && (s[0] != 48 || s.size == 1)) := by
  unfold isNum
  rw [(empty_false s h).2, head_at s h, size_len]
  simp [bne]
theorem all_take_next (s : ByteArray) (k : Nat) (hk : k < s.size) (h : (s.data.toList.take k).all isDig = true) (h1 : 48 ≤ (s[k].toNat : Int)) (h2 : (s[k].toNat : Int) ≤ 57) : (s.data.toList.take (k + 1)).all isDig = true := by
  have hd : isDig s[k] = true := (isDig_iff _).2 (by omega)
  rw [take_one_more s k hk, List.all_append, h]; simp [hd]
theorem all_bad (s : ByteArray) (k : Nat) (hk : k < s.size) (hd : ¬ (48 ≤ (s[k].toNat : Int) ∧ (s[k].toNat : Int) ≤ 57)) : s.data.toList.all isDig = false := by
  have := distR_bad (m := 0) s k hk hd
  unfold distR at this
  cases h : s.data.toList.all isDig with
  | false => rfl
  | true =>
    rw [if_pos h] at this
    split at this <;> simp at this
set_option maxHeartbeats 400000 in
theorem refDigits_any (s : ByteArray) (w : World) (hmax : s.size ≤ maxLen) :
    Calls Tryd.prog 19 #[.string s] w fun e w' => e = .returned (.bool (isNum s.data.toList)) ∧ w' = w := by
  unfold maxLen at hmax
  by_cases hp : s.size = 0
  · have he := (empty_true s hp).1
    go_enter Tryd.func19, Tryd.ntmps19
    go_wp2
    go_ret
    exact ⟨by rw [(empty_true s hp).2]; rfl, rfl⟩
  · have hp : 0 < s.size := by omega
    have he := (empty_false s hp).1
    have HN := hide (isNum_at s hp)
    by_cases hz : (s[0].toNat : Int) = 48 ∧ 1 < s.size
    · obtain ⟨hz1, hz2⟩ := hz
      have HC := hide ((toNat_eq_iff s[0] 48 (by decide)).1 (by omega))
      go_enter Tryd.func19, Tryd.ntmps19
      go_wp2
      go_ret
      refine ⟨ret_bool ?_, rfl⟩
      rw [unhide HN, unhide HC, show (s.size == 1) = false by simp; omega]
      simp
    · have HC : Hid ((s[0] != 48 || s.size == 1) = true) := by
        show _ = true
        by_cases h1 : s.size = 1
        · simp [h1]
        · have h48 : s[0] ≠ 48 := fun h => hz ⟨by rw [h]; rfl, by omega⟩
          simp [h48]
      have hfin : ∀ b, s.data.toList.all isDig = b → isNum s.data.toList = b := fun b hb => by rw [unhide HN, hb, unhide HC]; simp
      have HF := hide hfin
      clear hfin
      by_cases h1 : 1 < s.size
      · have hne : ((s[0].toNat : Int) == 48) = false := by
          rw [beq_eq_false_iff_ne]; exact fun h => hz ⟨h, h1⟩
        have hs1 : decide (1 < (s.size : Int)) = true := by simp; omega
        clear hz
        go_enter Tryd.func19, Tryd.ntmps19
        go_wp2
        go_loop [3] (fun i => ∃ k : Nat, k ≤ s.size ∧ i = .int .i64 k ∧ (s.data.toList.take k).all isDig = true) (fun i => s.size - (intOf i).toNat)
        case atStart => exact ⟨0, Nat.zero_le _, rfl, rfl⟩
        case round =>
          obtain ⟨k, hk, rfl, HI⟩ := hrel
          have HIh := hide HI
          clear HI
          by_cases hlt : k < s.size
          · by_cases hd : 48 ≤ (s[k].toNat : Int) ∧ (s[k].toNat : Int) ≤ 57
            · obtain ⟨hd1, hd2⟩ := hd
              go_wp2
              exact ⟨⟨k + 1, by omega, by go_num, all_take_next s k hlt (unhide HIh) hd1 hd2⟩, by simp [intOf]; omega⟩
            · have HB := hide (all_bad s k hlt hd)
              by_cases hd1 : (s[k].toNat : Int) < 48
              · go_wp2
                go_ret
                exact ⟨ret_bool (unhide HF _ (unhide HB)).symm, rfl⟩
              · have hd2 : 57 < (s[k].toNat : Int) := by omega
                go_wp2
                go_ret
                exact ⟨ret_bool (unhide HF _ (unhide HB)).symm, rfl⟩
          · have HA := hide (show s.data.toList.all isDig = true by have := unhide HIh; rwa [take_all s k hlt] at this)
            go_wp2
            go_ret
            exact ⟨ret_bool (unhide HF _ (unhide HA)).symm, rfl⟩
      · have hs1 : decide (1 < (s.size : Int)) = false := by simp; omega
        clear hz
        go_enter Tryd.func19, Tryd.ntmps19
        go_wp2
        go_loop [3] (fun i => ∃ k : Nat, k ≤ s.size ∧ i = .int .i64 k ∧ (s.data.toList.take k).all isDig = true) (fun i => s.size - (intOf i).toNat)
        case atStart => exact ⟨0, Nat.zero_le _, rfl, rfl⟩
        case round =>
          obtain ⟨k, hk, rfl, HI⟩ := hrel
          have HIh := hide HI
          clear HI
          by_cases hlt : k < s.size
          · by_cases hd : 48 ≤ (s[k].toNat : Int) ∧ (s[k].toNat : Int) ≤ 57
            · obtain ⟨hd1, hd2⟩ := hd
              go_wp2
              exact ⟨⟨k + 1, by omega, by go_num, all_take_next s k hlt (unhide HIh) hd1 hd2⟩, by simp [intOf]; omega⟩
            · have HB := hide (all_bad s k hlt hd)
              by_cases hd1 : (s[k].toNat : Int) < 48
              · go_wp2
                go_ret
                exact ⟨ret_bool (unhide HF _ (unhide HB)).symm, rfl⟩
              · have hd2 : 57 < (s[k].toNat : Int) := by omega
                go_wp2
                go_ret
                exact ⟨ret_bool (unhide HF _ (unhide HB)).symm, rfl⟩
          · have HA := hide (show s.data.toList.all isDig = true by have := unhide HIh; rwa [take_all s k hlt] at this)
            go_wp2
            go_ret
            exact ⟨ret_bool (unhide HF _ (unhide HA)).symm, rfl⟩

/-- The first place where two texts part. -/
theorem take_eq_next (s t : ByteArray) (k : Nat) (h1 : k < s.size) (h2 : k < t.size) (h : s.data.toList.take k = t.data.toList.take k) (e : (s[k].toNat : Int) = (t[k].toNat : Int)) : s.data.toList.take (k + 1) = t.data.toList.take (k + 1) := by
  rw [take_one_more s k h1, take_one_more t k h2, h, UInt8.toNat_inj.1 (by omega : s[k].toNat = t[k].toNat)]
theorem above_at (s t : ByteArray) (hs : s.data.toList.all isDig = true) (ht : t.data.toList.all isDig = true) (hl : s.size = t.size) (k : Nat) (h1 : k < s.size) (h2 : k < t.size) (h : s.data.toList.take k = t.data.toList.take k) (hne : ¬ (s[k].toNat : Int) = (t[k].toNat : Int)) :
    decide (t[k].toNat < s[k].toNat) = decide (worth t.data.toList < worth s.data.toList) := by
  have l1 : k < s.data.toList.length := by rw [size_len]; exact h1
  have l2 : k < t.data.toList.length := by rw [size_len]; exact h2
  have hl' : s.data.toList.length = t.data.toList.length := by rw [size_len, size_len]; exact hl
  have es : s.data.toList[k] = s[k] := rfl
  have et : t.data.toList[k] = t[k] := rfl
  by_cases hlt : t[k].toNat < s[k].toNat
  · have := worth_first ht hs hl'.symm k l2 l1 h.symm (by rw [es, et]; omega)
    simp [hlt, this]
  · have := worth_first hs ht hl' k l1 l2 h (by rw [es, et]; omega)
    have h' : ¬ worth t.data.toList < worth s.data.toList := by omega
    simp only [hlt, h', decide_false]
set_option maxHeartbeats 400000 in
theorem above_any (s t : ByteArray) (w : World) (hmax : s.size ≤ maxLen) (hl : s.size = t.size) (hs : s.data.toList.all isDig = true) (ht : t.data.toList.all isDig = true) :
    Calls Tryd.prog 23 #[.string s, .string t] w fun e w' => e = .returned (.bool (decide (worth t.data.toList < worth s.data.toList))) ∧ ∃ n, w' = w.drewN n := by
  unfold maxLen at hmax
  have HA := hide (above_at s t hs ht hl)
  clear hs ht
  go_enter Tryd.func23, Tryd.ntmps23
  go_wp2
  go_loopw [5] (fun i wr => ∃ k : Nat, k ≤ s.size ∧ i = .int .i64 k ∧ s.data.toList.take k = t.data.toList.take k ∧ ∃ n, wr = w.drewN n) (fun i _ => s.size - (intOf i).toNat)
  case atStart => exact ⟨0, Nat.zero_le _, rfl, rfl, 0, rfl⟩
  case round =>
    obtain ⟨k, hk, rfl, HI, n, rfl⟩ := hrel
    have HIh := hide HI
    clear HI
    by_cases hlt : k < s.size
    · have hlt2 : k < t.size := by omega
      by_cases he : (s[k].toNat : Int) = (t[k].toNat : Int)
      · have he' : ((s[k].toNat : Int) != (t[k].toNat : Int)) = false := by rw [he]; simp
        have HE := hide he
        clear he
        go_wp2
        go_quiet (fail)
        go_wp2
        exact ⟨⟨k + 1, by omega, by go_num, take_eq_next s t k hlt hlt2 (unhide HIh) (unhide HE), _, rfl⟩, by simp [intOf]; omega⟩
      · have he' : ((s[k].toNat : Int) != (t[k].toNat : Int)) = true := by rw [bne_iff_ne]; exact he
        have HE := hide he
        clear he
        go_wp2
        go_quiet (fail)
        go_wp2
        go_quiet (fail)
        go_wp2
        go_ret
        exact ⟨ret_bool (unhide HA k hlt hlt2 (unhide HIh) (unhide HE)), _, by rw [World.drewN_drewN, World.drewN_drewN]⟩
    · have HZ : Hid (decide (worth t.data.toList < worth s.data.toList) = false) := by
        have := unhide HIh
        rw [take_all s k hlt, take_all t k (by omega)] at this
        show _ = false
        rw [this]; simp
      go_wp2
      go_ret
      exact ⟨ret_bool (unhide HZ).symm, _, rfl⟩

/-- How long a number is. -/
theorem num_len (l : List UInt8) (h : isNum l = true) : 0 < l.length ∧ worth l < 10 ^ l.length ∧ (l.length = 1 ∨ 10 ^ (l.length - 1) ≤ worth l) := by
  obtain ⟨a, b, c⟩ := (isNum_iff l).1 h
  refine ⟨?_, worth_lt l b, ?_⟩
  · cases l with
    | nil => cases a
    | cons => simp
  · rcases c with c | c
    · right
      cases l with
      | nil => cases a
      | cons x r =>
        simp only [List.all_cons, Bool.and_eq_true] at b
        have := worth_ge x r b.1 (by simpa using c)
        simpa using this
    · exact .inl c
theorem num_short (s t : List UInt8) (hs : isNum s = true) (ht : isNum t = true) (h : s.length < t.length) : worth s < worth t := by
  have h1 := num_len s hs
  have h2 := num_len t ht
  have : 10 ^ s.length ≤ 10 ^ (t.length - 1) := Nat.pow_le_pow_right (by decide) (by omega)
  have := h2.2.2
  omega
theorem fits_ne (s t : List UInt8) (hs : isNum s = true) (ht : isNum t = true) (h : s.length ≠ t.length) : decide (s.length < t.length) = decide (worth s ≤ worth t) := by
  by_cases h1 : s.length < t.length
  · have := num_short s t hs ht h1
    have h2 : worth s ≤ worth t := by omega
    simp only [h1, h2]
  · have := num_short t s ht hs (by omega)
    have h2 : ¬ worth s ≤ worth t := by omega
    simp only [h1, h2]
set_option maxHeartbeats 400000 in
theorem fits_any (s t : ByteArray) (w : World) (hmax : s.size ≤ maxLen) (hs : isNum s.data.toList = true) (ht : isNum t.data.toList = true) :
    Calls Tryd.prog 20 #[.string s, .string t] w fun e w' => e = .returned (.bool (decide (worth s.data.toList ≤ worth t.data.toList))) ∧ ∃ n, w' = w.drewN n := by
  by_cases hl : s.size = t.size
  · have hcall := above_any s t w hmax hl ((isNum_iff _).1 hs).2.1 ((isNum_iff _).1 ht).2.1
    have HC := hide hcall
    clear hcall
    have hq : ((s.size : Int) != (t.size : Int)) = false := by rw [hl]; simp
    unfold maxLen at hmax
    have HL := hide hl
    clear hl hs ht
    go_enter Tryd.func20, Tryd.ntmps20
    go_wp2_with fail
    refine (unhide HC).mono ?_
    rintro e w' ⟨rfl, n, rfl⟩
    go_wp2
    go_ret
    refine ⟨ret_bool ?_, n, rfl⟩
    by_cases h : worth t.data.toList < worth s.data.toList
    · have h2 : ¬ worth s.data.toList ≤ worth t.data.toList := by omega
      simp only [h, h2]; rfl
    · have h2 : worth s.data.toList ≤ worth t.data.toList := by omega
      simp only [h, h2]; rfl
  · have HF := hide (fits_ne s.data.toList t.data.toList hs ht (by rw [size_len, size_len]; exact hl))
    have hq : ((s.size : Int) != (t.size : Int)) = true := by rw [bne_iff_ne]; omega
    unfold maxLen at hmax
    clear hs ht
    go_enter Tryd.func20, Tryd.ntmps20
    go_wp2
    go_ret
    refine ⟨ret_bool ?_, 0, rfl⟩
    rw [← unhide HF, size_len, size_len]
end Go.Proofs.YtlkdjmjochappaaDoor
