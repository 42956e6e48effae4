/- strings.CutPrefix and strings.HasPrefix, where the letters ahead are one. -/
import Derived.Test.YtkkkgennkhdfhaaDoorMem
import Derived.Test.YtkkkgennkhdfhaaDoorProg
import Derived.WalkKit
import Derived.WalkSpells
import Derived.WalkSmall
import Derived.WalkLawsBesides
import Derived.KernelRfl
namespace Go.Proofs.YtkkkgennkhdfhaaDoor
open Go Go.RowKit

/-- Does a text begin with a letter? -/
def begins (c : UInt8) (l : List UInt8) : Bool := l.head? == some c
/-- What stands behind that letter, where it does; else all. -/
def behindOf (c : UInt8) (l : List UInt8) : List UInt8 := if begins c l then l.tail else l
theorem ret_bool {a b : Bool} (h : a = b) : Ending.returned (.bool a) = .returned (.bool b) := by rw [h]
theorem ext_list (s : ByteArray) (a b : Nat) : (s.extract a b).data.toList = (s.data.toList.drop a).take (b - a) := by
  simp [ByteArray.data_extract, Array.toList_extract]
theorem begins_cut (c : UInt8) (s : ByteArray) : ((s.extract 0 1).toList == [c]) = begins c s.data.toList := by
  rw [ByteArray.toList_eq, ext_list]
  unfold begins
  cases s.data.toList with
  | nil => rfl
  | cons x r => simp
theorem begins_none (c : UInt8) (s : ByteArray) (h : ¬ 1 ≤ s.size) : begins c s.data.toList = false := by
  have hl : s.data.toList.length = s.size := by simp
  have : s.data.toList = [] := List.length_eq_zero_iff.1 (by omega)
  rw [this]; rfl
theorem has_any (c : UInt8) (s : ByteArray) (w : World) : Calls Tryd.prog 78 #[.string s, .string ⟨#[c]⟩] w fun e w' => e = .returned (.bool (begins c s.data.toList)) ∧ w' = w := by
  have HB := hide (begins_cut c s)
  by_cases h : 1 ≤ s.size
  · go_enter Tryd.func78, Tryd.ntmps78
    go_wp2
    go_ret
    exact ⟨ret_bool HB.out, rfl⟩
  · have HN := hide (begins_none c s h)
    go_enter Tryd.func78, Tryd.ntmps78
    go_wp2
    go_ret
    exact ⟨ret_bool HN.out.symm, rfl⟩
theorem prefix_any (c : UInt8) (s : ByteArray) (w : World) : Calls Tryd.prog 75 #[.string s, .string ⟨#[c]⟩] w fun e w' => e = .returned (.bool (begins c s.data.toList)) ∧ w' = w := by
  go_enter Tryd.func75, Tryd.ntmps75
  go_wp2_with fail
  refine (has_any c s _).mono ?_; rintro e w1 ⟨rfl, rfl⟩
  go_wp2_with fail
  go_ret
  exact ⟨rfl, rfl⟩
theorem tail_cut (c : UInt8) (s : ByteArray) (h : begins c s.data.toList = true) : s.extract 1 s.size = bs (behindOf c s.data.toList) := by
  have e : (s.extract 1 s.size).data.toList = s.data.toList.tail := by
    rw [ext_list]
    have hl : s.data.toList.length = s.size := by simp
    rw [List.take_of_length_le (by simp)]
    simp
  rw [← bs_of (s.extract 1 s.size), e]
  unfold behindOf; rw [if_pos h]
theorem cut_lite (c : UInt8) (s : ByteArray) (w : World) : Calls Tryd.prog 71 #[.string s, .string ⟨#[c]⟩] w fun e w' => e = .returned (.tuple #[.string (bs (behindOf c s.data.toList)), .bool (begins c s.data.toList)]) ∧ w' = w := by
  have HT := hide (tail_cut c s)
  have HN := hide (begins_none c s)
  have HO : Hid (begins c s.data.toList = false → bs (behindOf c s.data.toList) = s) := hide (fun h => by unfold behindOf; rw [if_neg (by simp [h]), bs_of])
  go_enter Tryd.func71, Tryd.ntmps71
  go_wp2_with fail
  refine (has_any c s _).mono ?_; rintro e w1 ⟨rfl, rfl⟩
  cases hb : begins c s.data.toList with
  | true =>
    have HC := hide hb
    have h1 : 1 ≤ s.size := by
      by_cases h : 1 ≤ s.size
      · exact h
      · rw [HN.out h] at hb; cases hb
    have HT := hide (HT.out hb)
    go_wp2_with fail
    go_ret2
    rw [HT.out, HC.out]
    exact ⟨rfl, rfl⟩
  | false =>
    have HC := hide hb
    have HO := hide (HO.out hb)
    go_wp2_with fail
    go_ret2
    rw [HO.out, HC.out]
    exact ⟨rfl, rfl⟩
theorem cut_any (c : UInt8) (s : ByteArray) (w : World) : Calls Tryd.prog 51 #[.string s, .string ⟨#[c]⟩] w fun e w' => e = .returned (.tuple #[.string (bs (behindOf c s.data.toList)), .bool (begins c s.data.toList)]) ∧ w' = w := by
  go_enter Tryd.func51, Tryd.ntmps51
  go_wp2_with fail
  refine (cut_lite c s _).mono ?_; rintro e w1 ⟨rfl, rfl⟩
  go_wp2_with fail
  go_ret2
  exact ⟨rfl, rfl⟩
end Go.Proofs.YtkkkgennkhdfhaaDoor
