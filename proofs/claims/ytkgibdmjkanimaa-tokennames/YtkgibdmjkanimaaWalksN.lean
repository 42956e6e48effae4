/- What Name of layer 2 and the document's own Name return, for every text. -/
import Derived.Test.YtkgibdmjkanimaaWalksA
import Derived.Lib.OthersKept
namespace Go.Proofs.Ytkgibdmjkanimaa
open Go.RowKit

theorem hide {p : Prop} (h : p) : Hid p := h
theorem unhide {p : Prop} (h : Hid p) : p := h
theorem nameFrom_end (s : ByteArray) (p q : Nat) (h : ¬ p < s.size) : nameFrom (s.data.toList.drop p) q = true := by
  rw [List.drop_of_length_le (by rw [blen]; omega)]; rfl
theorem nameFrom_step (s : ByteArray) (p : Nat) (h : p < s.size) : nameFrom (s.data.toList.drop p) p = ((smaB (s[p]'h).toNat || (decide (0 < p) && (digB (s[p]'h).toNat || decide (((s[p]'h).toNat : Int) = 95)))) && nameFrom (s.data.toList.drop (p + 1)) (p + 1)) := by
  rw [drop_cons s p h]; rfl
theorem name_long {s : ByteArray} (h : 24 < s.size) : nameB s.data.toList = false := by
  have : ¬ s.data.toList.length ≤ 24 := by rw [blen]; omega
  simp only [nameB, this, decide_false, Bool.false_and]
theorem name_fit {s : ByteArray} (h : ¬ 24 < s.size) : nameB s.data.toList = (nameFrom s.data.toList 0 && !s.data.toList.isEmpty) := by
  have : s.data.toList.length ≤ 24 := by rw [blen]; omega
  simp only [nameB, this, decide_true, Bool.true_and]

set_option maxHeartbeats 1000000 in
theorem name_any (s : ByteArray) (w : World) (hs : s.size ≤ maxLen) :
    Calls Try.prog 11 #[.string s] w fun e w' => e = .returned (.bool (nameB s.data.toList)) ∧ Below w.heap.size w w' := by
  unfold maxLen at hs
  by_cases hl : 24 < s.size
  · go_enter Try.func11, Try.ntmps11
    go_wp2
    go_ret
    exact ⟨ret_bool (name_long hl).symm, Below.refl _ _⟩
  · have hz : ∀ ty, (Instr.next (.pointer (some ⟨w.heap.size, 0, none⟩)) true ty).run Try.prog (w.iter s s.size) = _ := fun ty => run_next_end (P := Try.prog) w s s.size ty (Nat.lt_irrefl _)
    have HF := hide (name_fit hl)
    go_enter Try.func11, Try.ntmps11
    go_wp2
    go_loopw [] (fun wr => ∃ pos : Nat, wr = w.iter s pos ∧ pos ≤ s.size ∧ Hid (nameFrom (s.data.toList.drop pos) pos = nameFrom s.data.toList 0)) (fun wr => s.size - wr.iterPos w.heap.size)
    case atStart => exact ⟨0, rfl, Nat.zero_le _, rfl⟩
    case round =>
      obtain ⟨pos, rfl, hp, HN⟩ := hrel
      have hbel : Below w.heap.size w (w.iter s pos) := (Below.refl _ _).alloc (Nat.le_refl _) _
      by_cases hlt : pos < s.size
      · by_cases ha : (s[pos]'hlt).toNat < 128
        · have hnx := fun ty => run_next_ascii (P := Try.prog) w s pos ty hlt ha
          have HS := hide (nameFrom_step s pos hlt)
          cases hsm : smaB (s[pos]'hlt).toNat with
          | true =>
            go_wp2_with (first | (go_at_call 22; refine (small_any _ _).mono ?_; rintro e w' ⟨rfl, rfl⟩) | (go_at_call 23; refine (digit_any _ _).mono ?_; rintro e w' ⟨rfl, rfl⟩))
            go_roundw
            case rel => exact ⟨pos + 1, rfl, by omega, hide (by rw [← unhide HN, unhide HS, hsm]; simp)⟩
            case measure => simp; omega
          | false =>
            by_cases h0 : 0 < pos
            · cases hdg : digB (s[pos]'hlt).toNat with
              | true =>
                go_wp2_with (first | (go_at_call 22; refine (small_any _ _).mono ?_; rintro e w' ⟨rfl, rfl⟩) | (go_at_call 23; refine (digit_any _ _).mono ?_; rintro e w' ⟨rfl, rfl⟩))
                go_roundw
                case rel => exact ⟨pos + 1, rfl, by omega, hide (by rw [← unhide HN, unhide HS, hsm, hdg]; simp [h0])⟩
                case measure => simp; omega
              | false =>
                by_cases h95 : ((s[pos]'hlt).toNat : Int) = 95
                · have h95b : (((s[pos]'hlt).toNat : Int) == 95) = true := by rw [h95]; rfl
                  have H95 := hide h95
                  clear h95
                  go_wp2_with (first | (go_at_call 22; refine (small_any _ _).mono ?_; rintro e w' ⟨rfl, rfl⟩) | (go_at_call 23; refine (digit_any _ _).mono ?_; rintro e w' ⟨rfl, rfl⟩))
                  go_roundw
                  case rel => exact ⟨pos + 1, rfl, by omega, hide (by rw [← unhide HN, unhide HS, hsm, hdg, unhide H95]; simp [h0])⟩
                  case measure => simp; omega
                · go_wp2_with (first | (go_at_call 22; refine (small_any _ _).mono ?_; rintro e w' ⟨rfl, rfl⟩) | (go_at_call 23; refine (digit_any _ _).mono ?_; rintro e w' ⟨rfl, rfl⟩))
                  go_ret
                  exact ⟨ret_bool (by rw [unhide HF, ← unhide HN, unhide HS, hsm, hdg]; simp [h95]), (Below.refl _ _).alloc (Nat.le_refl _) _⟩
            · go_wp2_with (first | (go_at_call 22; refine (small_any _ _).mono ?_; rintro e w' ⟨rfl, rfl⟩) | (go_at_call 23; refine (digit_any _ _).mono ?_; rintro e w' ⟨rfl, rfl⟩))
              go_ret
              exact ⟨ret_bool (by rw [unhide HF, ← unhide HN, unhide HS, hsm]; simp [h0]), (Below.refl _ _).alloc (Nat.le_refl _) _⟩
        · have hnx := fun ty => run_next_any (P := Try.prog) w s pos ty hlt
          have hh := (decode_high s pos hlt (by omega)).1
          have hk := high_kinds (c := ((Utf8.decode s pos).1 : Int)) (by omega)
          have hk2 := high_kinds (c := ((s[pos]'hlt).toNat : Int)) (by omega)
          obtain ⟨_, _, _, _, _, k1, k2, k3⟩ := hk
          obtain ⟨_, _, _, _, _, j1, j2, j3⟩ := hk2
          have HS := hide (nameFrom_step s pos hlt)
          by_cases h0 : 0 < pos
          all_goals
            go_wp2_with (first | (go_at_call 22; refine (small_any _ _).mono ?_; rintro e w' ⟨rfl, rfl⟩) | (go_at_call 23; refine (digit_any _ _).mono ?_; rintro e w' ⟨rfl, rfl⟩))
            go_ret
            exact ⟨ret_bool (by rw [unhide HF, ← unhide HN, unhide HS, j1, j2]; simp [j3]), (Below.refl _ _).alloc (Nat.le_refl _) _⟩
      · obtain rfl : pos = s.size := by omega
        have HE := hide (nameFrom_end s s.size s.size (Nat.lt_irrefl _))
        go_wp2
        go_ret
        exact ⟨ret_bool (by rw [unhide HF, ← unhide HN, unhide HE, ByteArray.toList_eq]; simp), hbel⟩

theorem name_none {s : ByteArray} (h : s.size < 1) : nameB s.data.toList = false := by
  have : s.data.toList = [] := List.length_eq_zero_iff.1 (by rw [blen]; omega)
  rw [this]; rfl
theorem name_some {s : ByteArray} (h : ¬ s.size < 1) (h2 : ¬ 24 < s.size) : nameB s.data.toList = nameFrom s.data.toList 0 := by
  rw [name_fit h2]
  have : s.data.toList.isEmpty = false := by
    cases e : s.data.toList with
    | nil => have := blen s; rw [e] at this; simp at this; omega
    | cons => rfl
  rw [this, Bool.not_false, Bool.and_true]

set_option maxHeartbeats 1000000 in
theorem rname_any (s : ByteArray) (w : World) (hs : s.size ≤ maxLen) :
    Calls Try.prog 12 #[.string s] w fun e w' => e = .returned (.bool (nameB s.data.toList)) ∧ w' = w := by
  unfold maxLen at hs
  by_cases hl : s.size < 1
  · go_enter Try.func12, Try.ntmps12
    go_wp2
    go_ret
    exact ⟨ret_bool (name_none hl).symm, rfl⟩
  · by_cases hl2 : 24 < s.size
    · go_enter Try.func12, Try.ntmps12
      go_wp2
      go_ret
      exact ⟨ret_bool (name_long hl2).symm, rfl⟩
    · have HF := hide (name_some hl hl2)
      go_enter Try.func12, Try.ntmps12
      go_wp2
      go_loop [3] (fun i => ∃ pos : Nat, i = .int .i64 pos ∧ pos ≤ s.size ∧ Hid (nameFrom (s.data.toList.drop pos) pos = nameFrom s.data.toList 0)) (fun i => s.size - (intOf i).toNat)
      case atStart => exact ⟨0, rfl, Nat.zero_le _, rfl⟩
      case round =>
        obtain ⟨pos, rfl, hp, HN⟩ := hrel
        by_cases hlt : pos < s.size
        · have HS := hide (nameFrom_step s pos hlt)
          have hc : ((s[pos]'hlt).toNat : Int) ≤ 255 := by have := (s[pos]'hlt).toNat_lt; omega
          by_cases a0 : pos = 0 <;> by_cases a1 : 97 ≤ ((s[pos]'hlt).toNat : Int) <;> by_cases a2 : ((s[pos]'hlt).toNat : Int) ≤ 122 <;> by_cases a3 : 48 ≤ ((s[pos]'hlt).toNat : Int) <;> by_cases a4 : ((s[pos]'hlt).toNat : Int) ≤ 57
          all_goals try (exfalso; omega)
          all_goals
            have HK : Hid (nameFrom s.data.toList 0 = (_ && _)) := hide ((unhide HN).symm.trans (unhide HS))
            have HA := hide a0
            clear HN HS a0
            go_wp2
          all_goals first
            | (go_round
               case rel => exact ⟨pos + 1, by go_num, by omega, hide (by rw [unhide HK]; grind [smaB, digB])⟩
               case measure => simp [intOf]; omega)
            | (go_ret
               exact ⟨ret_bool (by rw [unhide HF, unhide HK]; grind [smaB, digB]), rfl⟩)
        · go_wp2
          go_ret
          obtain rfl : pos = s.size := by omega
          exact ⟨ret_bool (by rw [unhide HF, ← unhide HN, nameFrom_end s s.size s.size (Nat.lt_irrefl _)]), rfl⟩
end Go.Proofs.Ytkgibdmjkanimaa
