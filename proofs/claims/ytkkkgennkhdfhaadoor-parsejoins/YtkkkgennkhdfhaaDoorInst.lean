/- The words' own functions (numbers, names, shapes, operations), and what a reader of words answers. -/
import Derived.Test.YtkkkgennkhdfhaaDoorRdB
import Derived.Test.YtkkkgennkhdfhaaDoorL1
import Derived.Test.YtkkkgennkhdfhaaDoorL2
import Derived.Test.YtkkkgennkhdfhaaDoorL3
import Derived.Test.YtkkkgennkhdfhaaDoorL5
namespace Go.Proofs.YtkkkgennkhdfhaaDoor
open Go Go.RowKit
open G (Tok Er Ins Fun peek0 peek1 atOf)

def numF (s : List UInt8) : Int × Int := L1.readNum s
def idxF (s : List UInt8) (most : Int) : Option Int := if (L1.indexNum s most).2 = 0 then some (L1.indexNum s most).1 else none
def namF (s : List UInt8) : Bool := L2.nameB s
def shpF (s : List UInt8) : Int := match L3.readS (bs s) with
  | .tuple #[_, .int .i64 c] => c
  | _ => 0
def tksF (op : Int) : Nat := (L5.takes (L5.num op)).length
def fndF (s : List UInt8) : Int × Int := L5.find (bs s)
def mksF (op t : Int) : Int := L5.imakes op t
def prtF (k : Nat) (s : List UInt8) : Bool := decide (G.mark idxF 98 255 s = some (k : Int))
theorem nam_nil : namF [] = false := rfl
theorem num_nil : (numF []).2 ≠ 0 := by decide
theorem shp_nil : shpF [] ≠ 0 := by decide
theorem fnd_nil : (fndF []).1 = 0 := congrArg Prod.fst (L5.find_empty (s := bs []) (by rw [bs_size]; rfl))
theorem idx_le (s : List UInt8) (most n : Int) (h : idxF s most = some n) : n ≤ most := by
  unfold idxF at h
  by_cases h1 : (L1.readNum s).2 = 0
  · by_cases h2 : (L1.readNum s).1 < 0 ∨ most < (L1.readNum s).1
    · rw [L1.indexNum_out s most h1 h2, if_neg (by simp)] at h
      cases h
    · rw [L1.indexNum_in s most h1 h2, if_pos rfl] at h
      cases h
      show (L1.readNum s).1 ≤ most
      omega
  · rw [L1.indexNum_bad s most h1, if_neg h1] at h
    cases h

/-- What a reader of words answers: the value and the words that are left, or what is thrown. -/
def Out {α : Type} (B a : Nat) (L : List Tok) (E : Int) (n : Nat) (r : Except Er (α × List Tok)) (V : α → Value) (w : World) (e : Ending) (w' : World) : Prop :=
  Kp w.heap.size a w w' ∧ ((∃ x l', r = .ok (x, l') ∧ e = .returned (V x) ∧ Rdr B a L E n l' w') ∨ ∃ er : Er, r = .error er ∧ e = thrown er.1 er.2)
/-- What becomes of a word by itself. -/
def Of (r : Option Int) (c p : Int) (w : World) (e : Ending) (w' : World) : Prop :=
  Below w.heap.size w w' ∧ ((∃ x, r = some x ∧ e = .returned (.int .i64 x)) ∨ (r = none ∧ e = thrown c p))

theorem mark_of (c : UInt8) (most : Int) (s : List UInt8) : G.mark idxF c most s = if begins c s = true ∧ (L1.indexNum (behindOf c s) most).2 = 0 then some (L1.indexNum (behindOf c s) most).1 else none := by
  have h0 : (L1.indexNum [] most).2 ≠ 0 := by
    unfold L1.indexNum
    rw [if_pos (by decide)]
    decide
  match s with
  | [] => rw [if_neg (by simp [begins])]; rfl
  | [x] =>
    by_cases h : x = c
    · subst h
      rw [if_neg (by simp [behindOf, begins, h0])]; rfl
    · rw [if_neg (by simp [begins, h])]; rfl
  | x :: y :: r =>
    show (if x = c then idxF (y :: r) most else none) = _
    by_cases h : x = c
    · subst h
      have e1 : begins x (x :: y :: r) = true := by simp [begins]
      have e2 : behindOf x (x :: y :: r) = y :: r := by simp [behindOf, e1]
      rw [if_pos rfl, e1, e2]
      unfold idxF
      simp
    · rw [if_neg h, if_neg (by simp [begins, h])]
theorem behind_any (c : UInt8) (s : List UInt8) (p most k : Int) (w : World) (hs : s.length ≤ 65536) :
    Calls Tryd.prog 46 #[.string ⟨#[c]⟩, .agg #[.string (bs s), .int .i64 p], .int .i64 most, .int .i64 k] w (Of (G.mark idxF c most s) k p w) := by
  have HM := hide (mark_of c most s)
  have hb0 := hide (below_box w (.cells #[.string (bs s), .int .i64 p] 53))
  have hlen : (bs (behindOf c s)).size ≤ maxLen := by
    rw [bs_size]
    have : (behindOf c s).length ≤ s.length := by unfold behindOf; split <;> simp
    unfold maxLen; omega
  go_enter Tryd.func46, Tryd.ntmps46
  go_wp2_with fail
  refine (cut_any c (bs s) _).mono ?_; rintro e w1 ⟨rfl, rfl⟩
  rw [bs_data]
  go_wp2_with fail
  refine (L1.index_any _ most _ hlen).mono ?_; rintro e w1 ⟨rfl, rfl⟩
  rw [bs_data]
  generalize (L1.indexNum (behindOf c s) most).1 = v at *
  generalize (L1.indexNum (behindOf c s) most).2 = z at *
  cases hb : begins c s with
  | false =>
    have HM := hide (HM.out.trans (if_neg (by simp [hb])))
    go_wp2_with fail
    refine (need_no _ _ _ _).mono ?_; rintro e w1 ⟨rfl, b1⟩
    unfold thrown
    go_wp2_with fail
    exact bodyPost_thrown ⟨below_step hb0.out b1, .inr ⟨HM.out, rfl⟩⟩
  | true =>
    by_cases hz : z = 0
    · have HM2 := hide (HM.out.trans (if_pos ⟨hb, hz⟩))
      clear HM
      subst hz
      go_wp2_with fail
      refine (need_ok _ _ _ _).mono ?_; rintro e w1 ⟨rfl, b1⟩
      go_wp2_with fail
      go_ret
      exact ⟨below_step hb0.out b1, .inl ⟨v, HM2.out, rfl⟩⟩
    · have HM := hide (HM.out.trans (if_neg (fun h => hz h.2)))
      have hz' : (z == 0) = false := by simpa using hz
      go_wp2_with fail
      refine (need_no _ _ _ _).mono ?_; rintro e w1 ⟨rfl, b1⟩
      unfold thrown
      go_wp2_with fail
      exact bodyPost_thrown ⟨below_step hb0.out b1, .inr ⟨HM.out, rfl⟩⟩
theorem valueOf_any (s : List UInt8) (p : Int) (w : World) (hs : s.length ≤ 65536) : Calls Tryd.prog 47 #[.agg #[.string (bs s), .int .i64 p]] w (Of (G.mark idxF 37 1048576 s) 8 p w) := by
  have hb0 := hide (below_box w (.cells #[.string (bs s), .int .i64 p] 53))
  go_enter Tryd.func47, Tryd.ntmps47
  go_wp2_with fail
  refine (behind_any 37 s p 1048576 8 _ hs).mono ?_; rintro e w1 ⟨b1, ⟨x, hx, rfl⟩ | ⟨hx, rfl⟩⟩ <;> replace hx := hide hx
  · go_wp2_with fail
    go_ret
    exact ⟨below_step hb0.out b1, .inl ⟨x, hx.out, rfl⟩⟩
  · unfold thrown
    go_wp2_with fail
    exact bodyPost_thrown ⟨below_step hb0.out b1, .inr ⟨hx.out, rfl⟩⟩
theorem labelOf_any (s : List UInt8) (p : Int) (w : World) (hs : s.length ≤ 65536) : Calls Tryd.prog 44 #[.agg #[.string (bs s), .int .i64 p]] w (Of (G.mark idxF 98 255 s) 7 p w) := by
  have hb0 := hide (below_box w (.cells #[.string (bs s), .int .i64 p] 53))
  go_enter Tryd.func44, Tryd.ntmps44
  go_wp2_with fail
  refine (behind_any 98 s p 255 7 _ hs).mono ?_; rintro e w1 ⟨b1, ⟨x, hx, rfl⟩ | ⟨hx, rfl⟩⟩ <;> replace hx := hide hx
  · go_wp2_with fail
    go_ret
    exact ⟨below_step hb0.out b1, .inl ⟨x, hx.out, rfl⟩⟩
  · unfold thrown
    go_wp2_with fail
    exact bodyPost_thrown ⟨below_step hb0.out b1, .inr ⟨hx.out, rfl⟩⟩
end Go.Proofs.YtkkkgennkhdfhaaDoor
