/- Which operation, and which type, a word tells: of the program and of the document, for every text. -/
import Derived.Test.YtjnndcellbhpaaaDoorWalksF
namespace Go.Proofs.YtjnndcellbhpaaaDoor
open Go Go.RowKit

/-- What is still to be gone through from here on tells what the whole tells. -/
def Rest (s : ByteArray) (k j : Nat) : Prop := findN s (116 - (4 * (k - 1) + j)) (4 * (k - 1) + j) = find s
theorem rest_start (s : ByteArray) : Rest s 1 0 := rfl
theorem rest_line {s : ByteArray} {k : Nat} (h : Rest s k 4) (hk : 1 ≤ k) : Rest s (k + 1) 0 := by
  unfold Rest at *
  rw [show 4 * (k + 1 - 1) + 0 = 4 * (k - 1) + 4 by omega]; exact h
theorem hit_at (s : ByteArray) {k j : Nat} (h1 : 1 ≤ k) (hj : j < 4) : hit s (4 * (k - 1) + j) = (may (k : Int) (j : Int) && (iword (k : Int) (j : Int)).toList == s.toList) := by
  unfold hit
  rw [show (4 * (k - 1) + j) / 4 + 1 = k by omega, show (4 * (k - 1) + j) % 4 = j by omega]
theorem rest_step {s : ByteArray} {k j : Nat} (h : Rest s k j) (h1 : 1 ≤ k) (h2 : k ≤ 29) (hj : j < 4) :
    find s = if (may (k : Int) (j : Int) && (iword (k : Int) (j : Int)).toList == s.toList) then ((k : Int), (j : Int)) else findN s (116 - (4 * (k - 1) + (j + 1))) (4 * (k - 1) + (j + 1)) := by
  unfold Rest at h
  rw [← h, show 116 - (4 * (k - 1) + j) = (116 - (4 * (k - 1) + (j + 1))) + 1 by omega, findN, hit_at s h1 hj, show (4 * (k - 1) + j) / 4 + 1 = k by omega, show (4 * (k - 1) + j) % 4 = j by omega]
  rfl
theorem rest_miss {s : ByteArray} {k j : Nat} (h : Rest s k j) (h1 : 1 ≤ k) (h2 : k ≤ 29) (hj : j < 4) (hm : (may (k : Int) (j : Int) && (iword (k : Int) (j : Int)).toList == s.toList) = false) : Rest s k (j + 1) := by
  have := rest_step h h1 h2 hj
  rw [hm] at this
  exact this.symm
theorem rest_hit {s : ByteArray} {k j : Nat} (h : Rest s k j) (h1 : 1 ≤ k) (h2 : k ≤ 29) (hj : j < 4) (hm : may (k : Int) (j : Int) = true) (he : ((iword (k : Int) (j : Int)).toList == s.toList) = true) : find s = ((k : Int), (j : Int)) := by
  have := rest_step h h1 h2 hj
  rw [hm, he] at this
  exact this
theorem rest_end {s : ByteArray} {k : Nat} (h : Rest s k 0) (hk : k = 30) : find s = (0, 0) := by
  subst hk
  exact h.symm
theorem ret_pair {a b c d : Int} {p : Int × Int} (h : p = (c, d)) (ha : a = c) (hb : b = d) : Ending.returned (.tuple #[.int .i64 a, .int .i64 b]) = .returned (.tuple #[.int .i64 p.1, .int .i64 p.2]) := by
  subst h ha hb; rfl

set_option maxHeartbeats 400000 in
theorem find_any (s : ByteArray) (w : World) (ht : Tab w) :
    Calls Tryd.prog 33 #[.string s] w fun e w' => e = .returned (.tuple #[.int .i64 (find s).1, .int .i64 (find s).2]) ∧ Below w.heap.size w w' := by
  have HT := hide ht
  clear ht
  go_enter Tryd.func33, Tryd.ntmps33
  go_wp2_with fail
  go_loopw [4] (fun o wr => ∃ k : Nat, 1 ≤ k ∧ k ≤ 30 ∧ o = .int .i64 k ∧ Below w.heap.size w wr ∧ Hid (Rest s k 0)) (fun o _ => 30 - (intOf o).toNat)
  case atStart => exact ⟨1, by omega, by omega, rfl, Below.refl _ _, rest_start s⟩
  case round =>
    obtain ⟨k, hk1, hk2, rfl, hB, HR⟩ := hrel
    replace hB := hide hB
    by_cases hlt : k < 30
    · have hd : decide ((k : Int) ≤ 29) = true := by simp; omega
      go_wp2_with fail
      go_loopw [5] (fun o wr => ∃ j : Nat, j ≤ 4 ∧ o = .int .i64 j ∧ Below w.heap.size w wr ∧ Hid (Rest s k j)) (fun o _ => 4 - (intOf o).toNat)
      case atStart => exact ⟨0, by omega, rfl, hB.out, HR⟩
      case round =>
        obtain ⟨j, hj, rfl, hB2, HR2⟩ := hrel
        replace hB2 := hide hB2
        by_cases hjt : j < 4
        · cases hm : may (k : Int) (j : Int)
          · have HN := hide (rest_miss HR2.out hk1 (by omega) hjt (by rw [hm]; rfl))
            replace hm := hide hm
            go_wp2_with fail
            refine (may_any _ _ _).mono ?_; rintro e w1 ⟨rfl, rfl⟩
            rw [hm.out]
            go_wp2_with fail
            go_roundw
            case rel => exact ⟨j + 1, by omega, by go_num, hB2.out, HN⟩
            case measure => simp [intOf]; omega
          · cases he : (iword (k : Int) (j : Int)).toList == s.toList
            · have HN := hide (rest_miss HR2.out hk1 (by omega) hjt (by rw [hm, he]; rfl))
              replace hm := hide hm
              go_wp2_with fail
              refine (may_any _ _ _).mono ?_; rintro e w1 ⟨rfl, rfl⟩
              rw [hm.out]
              go_wp2_with fail
              refine (word_any _ _ _ _ _ _ _ _ _ (HT.out.below hB2.out)).mono ?_; rintro e w2 ⟨rfl, b2⟩
              go_wp2_with fail
              go_roundw
              case rel => exact ⟨j + 1, by omega, by go_num, below_step hB2.out b2, HN⟩
              case measure => simp [intOf]; omega
            · have HN := hide (rest_hit HR2.out hk1 (by omega) hjt hm he)
              replace hm := hide hm
              go_wp2_with fail
              refine (may_any _ _ _).mono ?_; rintro e w1 ⟨rfl, rfl⟩
              rw [hm.out]
              go_wp2_with fail
              refine (word_any _ _ _ _ _ _ _ _ _ (HT.out.below hB2.out)).mono ?_; rintro e w2 ⟨rfl, b2⟩
              go_wp2_with fail
              go_ret2
              exact ⟨ret_pair HN.out rfl rfl, below_step hB2.out b2⟩
        · have : j = 4 := by omega
          subst this
          go_wp2_with fail
          go_roundw
          case rel => exact ⟨k + 1, by omega, by omega, by go_num, hB2.out, hide (rest_line HR2.out hk1)⟩
          case measure => simp [intOf]; omega
    · go_wp2_with fail
      go_ret2
      exact ⟨ret_pair (rest_end HR.out (by omega)) rfl rfl, hB.out⟩
theorem size_len (s : ByteArray) : s.data.toList.length = s.size := by simp
theorem empty_true (s : ByteArray) (h : s.size = 0) : s.toList.isEmpty = true := by
  have : s.data.toList = [] := List.length_eq_zero_iff.1 (by rw [size_len]; exact h)
  rw [ByteArray.toList_eq, this]; rfl
theorem empty_false (s : ByteArray) (h : 0 < s.size) : s.toList.isEmpty = false := by
  rw [ByteArray.toList_eq]
  cases e : s.data.toList with
  | nil => have := size_len s; rw [e] at this; simp at this; omega
  | cons => rfl
theorem find_empty {s : ByteArray} (h : s.size = 0) : find s = (0, 0) := by
  have : s = ⟨#[]⟩ := by
    cases s with
    | mk d =>
      have : d = #[] := Array.eq_empty_of_size_eq_zero h
      rw [this]
  rw [this]
  decide +kernel
set_option maxHeartbeats 400000 in
theorem refFind_full (s : ByteArray) (w : World) (hs : 0 < s.size) :
    Calls Tryd.prog 34 #[.string s] w fun e w' => e = .returned (.tuple #[.int .i64 (find s).1, .int .i64 (find s).2]) ∧ Below w.heap.size w w' := by
  have hz := empty_false s hs
  go_enter Tryd.func34, Tryd.ntmps34
  go_wp2_with fail
  go_loopw [4] (fun o wr => ∃ k : Nat, 1 ≤ k ∧ k ≤ 30 ∧ o = .int .i64 k ∧ Below w.heap.size w wr ∧ Hid (Rest s k 0)) (fun o _ => 30 - (intOf o).toNat)
  case atStart => exact ⟨1, by omega, by omega, rfl, Below.refl _ _, rest_start s⟩
  case round =>
    obtain ⟨k, hk1, hk2, rfl, hB, HR⟩ := hrel
    replace hB := hide hB
    by_cases hlt : k < 30
    · have hd : decide ((k : Int) ≤ 29) = true := by simp; omega
      go_wp2_with fail
      go_loopw [5] (fun o wr => ∃ j : Nat, j ≤ 4 ∧ o = .int .i64 j ∧ Below w.heap.size w wr ∧ Hid (Rest s k j)) (fun o _ => 4 - (intOf o).toNat)
      case atStart => exact ⟨0, by omega, rfl, hB.out, HR⟩
      case round =>
        obtain ⟨j, hj, rfl, hB2, HR2⟩ := hrel
        replace hB2 := hide hB2
        by_cases hjt : j < 4
        · cases hm : may (k : Int) (j : Int)
          · have HN := hide (rest_miss HR2.out hk1 (by omega) hjt (by rw [hm]; rfl))
            replace hm := hide hm
            go_wp2_with fail
            refine (refMay_any _ _ _).mono ?_; rintro e w1 ⟨rfl, rfl⟩
            rw [hm.out]
            go_wp2_with fail
            go_roundw
            case rel => exact ⟨j + 1, by omega, by go_num, hB2.out, HN⟩
            case measure => simp [intOf]; omega
          · cases he : (iword (k : Int) (j : Int)).toList == s.toList
            · have HN := hide (rest_miss HR2.out hk1 (by omega) hjt (by rw [hm, he]; rfl))
              replace hm := hide hm
              go_wp2_with fail
              refine (refMay_any _ _ _).mono ?_; rintro e w1 ⟨rfl, rfl⟩
              rw [hm.out]
              go_wp2_with fail
              refine (refWordI_any _ _ _ _ _ _ _ _ _).mono ?_; rintro e w2 ⟨rfl, b2⟩
              go_wp2_with fail
              go_roundw
              case rel => exact ⟨j + 1, by omega, by go_num, below_step hB2.out b2, HN⟩
              case measure => simp [intOf]; omega
            · have HN := hide (rest_hit HR2.out hk1 (by omega) hjt hm he)
              replace hm := hide hm
              go_wp2_with fail
              refine (refMay_any _ _ _).mono ?_; rintro e w1 ⟨rfl, rfl⟩
              rw [hm.out]
              go_wp2_with fail
              refine (refWordI_any _ _ _ _ _ _ _ _ _).mono ?_; rintro e w2 ⟨rfl, b2⟩
              go_wp2_with fail
              go_ret2
              exact ⟨ret_pair HN.out rfl rfl, below_step hB2.out b2⟩
        · have : j = 4 := by omega
          subst this
          go_wp2_with fail
          go_roundw
          case rel => exact ⟨k + 1, by omega, by omega, by go_num, hB2.out, hide (rest_line HR2.out hk1)⟩
          case measure => simp [intOf]; omega
    · go_wp2_with fail
      go_ret2
      exact ⟨ret_pair (rest_end HR.out (by omega)) rfl rfl, hB.out⟩
theorem refFind_any (s : ByteArray) (w : World) :
    Calls Tryd.prog 34 #[.string s] w fun e w' => e = .returned (.tuple #[.int .i64 (find s).1, .int .i64 (find s).2]) ∧ Below w.heap.size w w' := by
  by_cases h : 0 < s.size
  · exact refFind_full s w h
  · have hz := empty_true s (by omega)
    have HF := hide (find_empty (s := s) (by omega))
    go_enter Tryd.func34, Tryd.ntmps34
    go_wp2_with fail
    go_ret2
    exact ⟨ret_pair HF.out rfl rfl, Below.refl _ _⟩
end Go.Proofs.YtjnndcellbhpaaaDoor
