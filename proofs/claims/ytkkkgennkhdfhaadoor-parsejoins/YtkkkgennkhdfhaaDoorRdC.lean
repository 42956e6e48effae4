/- The type that a letter tells: typeOf, of two types or of three. -/
import Derived.Test.YtkkkgennkhdfhaaDoorInst
namespace Go.Proofs.YtkkkgennkhdfhaaDoor
open Go Go.RowKit
open G (Tok Er Ins Fun peek0 peek1 atOf)

theorem below_drewN {B : Nat} {a w : World} (h : Below B a w) (n : Nat) : Below B a (w.drewN n) := ⟨h.1, h.2, h.3, h.4, h.5⟩
/-- Is a type told by a text? -/
def tells (s : List UInt8) (t : Int) : Bool := (L5.letter t).toList == s
theorem tells_of (s : List UInt8) (t : Int) : ((L5.letter t).toList == (bs s).toList) = tells s t := by
  unfold tells; rw [ByteArray.toList_eq (bs s), bs_data]
theorem lit_any (t : Int) (s : List UInt8) (p : Value) (g : Nat) (w : World) (h : Pair w g (.string (bs s)) p) :
    Calls Tryd.prog 42 #[.int .i64 t, .pointer (some ⟨g, 0, none⟩)] w fun e w' => e = .returned (.bool (tells s t)) ∧ Below w.heap.size w w' := by
  obtain ⟨p0, p1, p2, p3, p4⟩ := h
  have HT := hide (tells_of s t)
  go_enter Tryd.func42, Tryd.ntmps42
  go_wp2_with fail
  go_quiet ((go_at_call 43; exact Calls.quiet_of_same (L5.letter_any t _)))
  go_wp2_with fail
  go_ret
  exact ⟨ret_bool HT.out, below_drewN (Below.refl _ _) _⟩
/-- The place of the first type that a text tells; -1: none is told. -/
def firstAt (s : List UInt8) : List Int → Int → Int
  | [], _ => -1
  | t :: r, k => if tells s t then k else firstAt s r (k + 1)
theorem first_drop (s : List UInt8) (xs : List Int) (k : Nat) (t : Int) (h : xs[k]? = some t) : firstAt s (xs.drop k) k = if tells s t then (k : Int) else firstAt s (xs.drop (k + 1)) ((k + 1 : Nat) : Int) := by
  have : xs.drop k = t :: xs.drop (k + 1) := by
    obtain ⟨h1, h2⟩ := List.getElem?_eq_some_iff.1 h
    rw [List.drop_eq_getElem_cons h1, h2]
  rw [this]; rfl
theorem idx_any (s : List UInt8) (p : Value) (g : Nat) (xs : List Int) (x : Nat) (w : World) (h : Pair w g (.string (bs s)) p) (hx : x < w.heap.size ∧ ∀ k t, xs[k]? = some t → w.cell? ⟨x, k, none⟩ = some (.int .i64 t)) (hm : xs.length ≤ 3) :
    Calls Tryd.prog 41 #[.slice (some ⟨x, 0, none⟩) xs.length xs.length, .func (Fn.func 42) #[] #[.pointer (some ⟨g, 0, none⟩)]] w fun e w' => e = .returned (.int .i64 (firstAt s xs 0)) ∧ Below w.heap.size w w' := by
  have H := hide h
  have X := hide hx
  clear h hx
  go_enter Tryd.func41, Tryd.ntmps41
  go_wp2_with fail
  go_loopw [8] (fun i wr => ∃ k : Nat, i = .int .i64 k ∧ k ≤ xs.length ∧ Below w.heap.size w wr ∧ Hid (firstAt s xs 0 = firstAt s (xs.drop k) k)) (fun i _ => xs.length - (intOf i).toNat)
  case atStart => exact ⟨0, rfl, Nat.zero_le _, Below.refl _ _, rfl⟩
  case round =>
    obtain ⟨k, rfl, hk, HB, HF⟩ := hrel
    have HB := hide HB
    by_cases hlt : k < xs.length
    · obtain ⟨t, ht⟩ : ∃ t, xs[k]? = some t := ⟨xs[k], List.getElem?_eq_getElem hlt⟩
      have HS := hide (HF.out.trans (first_drop s xs k t ht))
      have hc : wr.cell? ⟨x, k, none⟩ = some (.int .i64 t) := (HB.out.cell (p := ⟨x, k, none⟩) X.out.1).trans (X.out.2 k t ht)
      have hlt' : (k : Int) < xs.length := by omega
      go_wp2_with fail
      refine (lit_any t s p g _ (H.out.below HB.out)).mono ?_; rintro e w1 ⟨rfl, b1⟩
      cases hb : tells s t with
      | true =>
        have HE := hide (HS.out.trans (if_pos hb))
        go_wp2_with fail
        go_ret
        exact ⟨by rw [HE.out]; rfl, below_step HB.out b1⟩
      | false =>
        have HE := hide (HS.out.trans (if_neg (by simp [hb])))
        go_wp2_with fail
        go_roundw
        case rel => exact ⟨k + 1, by go_num, by omega, below_step HB.out b1, HE.out⟩
        case measure => simp [intOf]; omega
    · have hk2 : k = xs.length := by omega
      subst hk2
      have HE := hide (HF.out.trans (by rw [List.drop_length]; rfl : _ = (-1 : Int)))
      go_wp2_with fail
      go_ret
      exact ⟨by rw [HE.out]; rfl, HB.out⟩
theorem tells_n (s : List UInt8) : tells s 0 = (s == [110]) := by
  unfold tells
  rw [ByteArray.toList_eq]
  show ([110] == s) = (s == [110])
  rw [Bool.eq_iff_iff, beq_iff_eq, beq_iff_eq]; exact eq_comm
theorem tells_i (s : List UInt8) : tells s 1 = (s == [105]) := by
  unfold tells
  rw [ByteArray.toList_eq]
  show ([105] == s) = (s == [105])
  rw [Bool.eq_iff_iff, beq_iff_eq, beq_iff_eq]; exact eq_comm
theorem tells_p (s : List UInt8) : tells s 2 = (s == [112]) := by
  unfold tells
  rw [ByteArray.toList_eq]
  show ([112] == s) = (s == [112])
  rw [Bool.eq_iff_iff, beq_iff_eq, beq_iff_eq]; exact eq_comm
theorem first_two (s : List UInt8) : firstAt s [1, 2] 0 = if G.kind s < 1 then -1 else G.kind s - 1 := by
  unfold firstAt firstAt firstAt
  rw [tells_i, tells_p]
  unfold G.kind
  by_cases h1 : s = [105]
  · subst h1; rfl
  by_cases h2 : s = [112]
  · subst h2; rfl
  by_cases h0 : s = [110]
  · subst h0; rfl
  simp [h0, h1, h2]
theorem first_three (s : List UInt8) : firstAt s [0, 1, 2] 0 = if G.kind s < 0 then -1 else G.kind s := by
  unfold firstAt firstAt firstAt firstAt
  rw [tells_n, tells_i, tells_p]
  unfold G.kind
  by_cases h1 : s = [105]
  · subst h1; rfl
  by_cases h2 : s = [112]
  · subst h2; rfl
  by_cases h0 : s = [110]
  · subst h0; rfl
  simp [h0, h1, h2]
theorem kind_cases (s : List UInt8) : G.kind s = -1 ∨ G.kind s = 0 ∨ G.kind s = 1 ∨ G.kind s = 2 := by
  unfold G.kind
  split
  · simp
  · split
    · simp
    · split <;> simp
/-- The type of a parameter that a text tells, of what is answered. -/
def twoKind (s : List UInt8) : Option Int := if G.kind s < 1 then none else some (G.kind s)
def threeKind (s : List UInt8) : Option Int := if G.kind s < 0 then none else some (G.kind s)
theorem typeOf_two (s : List UInt8) (p : Int) (x : Nat) (w : World) (hx : x < w.heap.size ∧ ∀ k t, [(1 : Int), 2][k]? = some t → w.cell? ⟨x, k, none⟩ = some (.int .i64 t)) :
    Calls Tryd.prog 37 #[.agg #[.string (bs s), .int .i64 p], .slice (some ⟨x, 0, none⟩) 2 2] w (Of (twoKind s) 9 p w) := by
  have hmf : ∀ (fn : Fn) (first cap : Array Value) (w : World), (Instr.makeFunc fn first cap).run Tryd.prog w = .ok (.func fn first cap) w := fun _ _ _ _ => rfl
  have hb := below_box w (.cells #[.string (bs s), .int .i64 p] 53)
  have H := hide (Pair.new w 53 (a := .string (bs s)) (b := .int .i64 p))
  have X : Hid (x < (w.alloc (.cells #[.string (bs s), .int .i64 p] 53)).heap.size ∧ ∀ k t, [(1 : Int), 2][k]? = some t → (w.alloc (.cells #[.string (bs s), .int .i64 p] 53)).cell? ⟨x, k, none⟩ = some (.int .i64 t)) := hide ⟨Nat.lt_of_lt_of_le hx.1 hb.size, fun k t h => (hb.cell (p := ⟨x, k, none⟩) hx.1).trans (hx.2 k t h)⟩
  have HB := hide hb
  have HF := hide (first_two s)
  have hk := kind_cases s
  clear hx hb
  go_enter Tryd.func37, Tryd.ntmps37
  go_upto_region 1 with fail
  show Code.wp _ _ _ _ (w.alloc (.cells #[.string (bs s), .int .i64 p] 53))
  generalize w.alloc (.cells #[.string (bs s), .int .i64 p] 53) = W at *
  go_wp2_with fail
  refine (idx_any s _ _ [1, 2] x _ H.out X.out (by simp)).mono ?_; rintro e w1 ⟨rfl, b1⟩
  rw [HF.out]
  obtain ⟨p0, p1, p2, p3, p4⟩ := H.out.below b1
  by_cases hs : G.kind s < 1
  · have HK : Hid (twoKind s = none) := hide (if_pos hs)
    rw [if_pos hs]
    go_wp2_with fail
    refine (need_no _ _ _ _).mono ?_; rintro e w2 ⟨rfl, b2⟩
    unfold thrown
    go_wp2_with fail
    exact bodyPost_thrown ⟨below_step HB.out (below_step b1 b2), .inr ⟨HK.out, rfl⟩⟩
  · have HK : Hid (twoKind s = some (G.kind s)) := hide (if_neg hs)
    rw [if_neg hs]
    have c1 := fun k t h => (b1.cell (p := ⟨x, k, none⟩) X.out.1).trans (X.out.2 k t h)
    have hk2 : G.kind s = 1 ∨ G.kind s = 2 := by omega
    have X1 : x < w1.heap.size := Nat.lt_of_lt_of_le X.out.1 b1.size
    clear hk hs
    generalize G.kind s = q at *
    rcases hk2 with rfl | rfl
    · have c2 := hide (c1 0 1 rfl)
      clear c1
      go_wp2_with fail
      refine (need_ok _ _ _ _).mono ?_; rintro e w2 ⟨rfl, b2⟩
      have c3 := (b2.cell (p := ⟨x, 0, none⟩) X1).trans c2.out
      go_wp2_with fail
      go_ret
      exact ⟨below_step HB.out (below_step b1 b2), .inl ⟨1, HK.out, rfl⟩⟩
    · have c2 := hide (c1 1 2 rfl)
      clear c1
      go_wp2_with fail
      refine (need_ok _ _ _ _).mono ?_; rintro e w2 ⟨rfl, b2⟩
      have c3 := (b2.cell (p := ⟨x, 1, none⟩) X1).trans c2.out
      go_wp2_with fail
      go_ret
      exact ⟨below_step HB.out (below_step b1 b2), .inl ⟨2, HK.out, rfl⟩⟩
theorem typeOf_three (s : List UInt8) (p : Int) (x : Nat) (w : World) (hx : x < w.heap.size ∧ ∀ k t, [(0 : Int), 1, 2][k]? = some t → w.cell? ⟨x, k, none⟩ = some (.int .i64 t)) :
    Calls Tryd.prog 37 #[.agg #[.string (bs s), .int .i64 p], .slice (some ⟨x, 0, none⟩) 3 3] w (Of (threeKind s) 9 p w) := by
  have hmf : ∀ (fn : Fn) (first cap : Array Value) (w : World), (Instr.makeFunc fn first cap).run Tryd.prog w = .ok (.func fn first cap) w := fun _ _ _ _ => rfl
  have hb := below_box w (.cells #[.string (bs s), .int .i64 p] 53)
  have H := hide (Pair.new w 53 (a := .string (bs s)) (b := .int .i64 p))
  have X : Hid (x < (w.alloc (.cells #[.string (bs s), .int .i64 p] 53)).heap.size ∧ ∀ k t, [(0 : Int), 1, 2][k]? = some t → (w.alloc (.cells #[.string (bs s), .int .i64 p] 53)).cell? ⟨x, k, none⟩ = some (.int .i64 t)) := hide ⟨Nat.lt_of_lt_of_le hx.1 hb.size, fun k t h => (hb.cell (p := ⟨x, k, none⟩) hx.1).trans (hx.2 k t h)⟩
  have HB := hide hb
  have HF := hide (first_three s)
  have hk := kind_cases s
  clear hx hb
  go_enter Tryd.func37, Tryd.ntmps37
  go_upto_region 1 with fail
  show Code.wp _ _ _ _ (w.alloc (.cells #[.string (bs s), .int .i64 p] 53))
  generalize w.alloc (.cells #[.string (bs s), .int .i64 p] 53) = W at *
  go_wp2_with fail
  refine (idx_any s _ _ [0, 1, 2] x _ H.out X.out (by simp)).mono ?_; rintro e w1 ⟨rfl, b1⟩
  rw [HF.out]
  obtain ⟨p0, p1, p2, p3, p4⟩ := H.out.below b1
  by_cases hs : G.kind s < 0
  · have HK : Hid (threeKind s = none) := hide (if_pos hs)
    rw [if_pos hs]
    go_wp2_with fail
    refine (need_no _ _ _ _).mono ?_; rintro e w2 ⟨rfl, b2⟩
    unfold thrown
    go_wp2_with fail
    exact bodyPost_thrown ⟨below_step HB.out (below_step b1 b2), .inr ⟨HK.out, rfl⟩⟩
  · have HK : Hid (threeKind s = some (G.kind s)) := hide (if_neg hs)
    rw [if_neg hs]
    have c1 := fun k t h => (b1.cell (p := ⟨x, k, none⟩) X.out.1).trans (X.out.2 k t h)
    have hk2 : G.kind s = 0 ∨ G.kind s = 1 ∨ G.kind s = 2 := by omega
    have X1 : x < w1.heap.size := Nat.lt_of_lt_of_le X.out.1 b1.size
    clear hk hs
    generalize G.kind s = q at *
    rcases hk2 with rfl | rfl | rfl
    · have c2 := hide (c1 0 0 rfl)
      clear c1
      go_wp2_with fail
      refine (need_ok _ _ _ _).mono ?_; rintro e w2 ⟨rfl, b2⟩
      have c3 := (b2.cell (p := ⟨x, 0, none⟩) X1).trans c2.out
      go_wp2_with fail
      go_ret
      exact ⟨below_step HB.out (below_step b1 b2), .inl ⟨0, HK.out, rfl⟩⟩
    · have c2 := hide (c1 1 1 rfl)
      clear c1
      go_wp2_with fail
      refine (need_ok _ _ _ _).mono ?_; rintro e w2 ⟨rfl, b2⟩
      have c3 := (b2.cell (p := ⟨x, 1, none⟩) X1).trans c2.out
      go_wp2_with fail
      go_ret
      exact ⟨below_step HB.out (below_step b1 b2), .inl ⟨1, HK.out, rfl⟩⟩
    · have c2 := hide (c1 2 2 rfl)
      clear c1
      go_wp2_with fail
      refine (need_ok _ _ _ _).mono ?_; rintro e w2 ⟨rfl, b2⟩
      have c3 := (b2.cell (p := ⟨x, 2, none⟩) X1).trans c2.out
      go_wp2_with fail
      go_ret
      exact ⟨below_step HB.out (below_step b1 b2), .inl ⟨2, HK.out, rfl⟩⟩
end Go.Proofs.YtkkkgennkhdfhaaDoor
