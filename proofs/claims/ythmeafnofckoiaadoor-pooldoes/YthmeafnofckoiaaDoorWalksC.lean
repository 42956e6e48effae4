/- What Parse of layer 3, and the document's, return for every text, where the table of bits reads as it was laid. -/
import Derived.Test.YthmeafnofckoiaaDoorWalksB
import Derived.RegionTactic
import Derived.BigRegion
namespace Go.Proofs.YthmeafnofckoiaaDoor
open Go Go.RowKit

/-- The table of the slots' bits reads as it was laid. -/
def Tab (w : World) : Prop := 0 < w.heap.size ∧ ∀ k, k < 16 → w.cell? ⟨0, k, none⟩ = some (.int .i64 (pw k))
theorem Tab.below {w w' : World} (h : Tab w) (b : Below w.heap.size w w') : Tab w' :=
  ⟨Nat.lt_of_lt_of_le h.1 b.size, fun k hk => (b.cell h.1).trans (h.2 k hk)⟩

theorem Pair.put1 {w : World} {g : Nat} {a b : Value} (h : Pair w g a b) (u : Value) : Pair (w.setCell ⟨g, 1, none⟩ u).drew g a u := by
  obtain ⟨c0, c1, f0, f1, z⟩ := h
  refine ⟨?_, ?_, ?_, ?_, ?_⟩
  · show (w.setCell ⟨g, 1, none⟩ u).cell? ⟨g, 0, none⟩ = _
    rw [World.cell?_setCell_other _ _ _ _ (by simp)]; exact c0
  · exact World.cell?_setCell_same _ _ _ c1
  · show (w.setCell ⟨g, 1, none⟩ u).frozen? ⟨g, 0, none⟩ = _
    rw [World.frozen?_setCell]; exact f0
  · show (w.setCell ⟨g, 1, none⟩ u).frozen? ⟨g, 1, none⟩ = _
    rw [World.frozen?_setCell]; exact f1
  · show g < (w.setCell ⟨g, 1, none⟩ u).heap.size
    simpa using z
theorem Pair.other {w : World} {g h : Nat} {a b : Value} (p : Pair w g a b) (hg : g ≠ h) (j : Nat) (u : Value) : Pair (w.setCell ⟨h, j, none⟩ u).drew g a b := by
  obtain ⟨c0, c1, f0, f1, z⟩ := p
  refine ⟨?_, ?_, ?_, ?_, ?_⟩
  · show (w.setCell ⟨h, j, none⟩ u).cell? ⟨g, 0, none⟩ = _
    rw [World.cell?_setCell_other _ _ _ _ (fun e => hg (congrArg Addr.block e).symm)]; exact c0
  · show (w.setCell ⟨h, j, none⟩ u).cell? ⟨g, 1, none⟩ = _
    rw [World.cell?_setCell_other _ _ _ _ (fun e => hg (congrArg Addr.block e).symm)]; exact c1
  · show (w.setCell ⟨h, j, none⟩ u).frozen? ⟨g, 0, none⟩ = _
    rw [World.frozen?_setCell]; exact f0
  · show (w.setCell ⟨h, j, none⟩ u).frozen? ⟨g, 1, none⟩ = _
    rw [World.frozen?_setCell]; exact f1
  · show g < (w.setCell ⟨h, j, none⟩ u).heap.size
    simpa using z

theorem size_len (s : ByteArray) : s.data.toList.length = s.size := by simp
theorem empty_true (s : ByteArray) (h : s.size = 0) : s.toList.isEmpty = true := by
  have : s.data.toList = [] := List.length_eq_zero_iff.1 (by rw [size_len]; exact h)
  rw [ByteArray.toList_eq, this]; rfl
theorem empty_false (s : ByteArray) (h : 0 < s.size) : s.toList.isEmpty = false := by
  rw [ByteArray.toList_eq]
  cases e : s.data.toList with
  | nil => have := size_len s; rw [e] at this; simp at this; omega
  | cons => rfl
theorem point_true (s : ByteArray) (h : s.data.toList = [46]) : (s.toList == [46]) = true := by
  rw [ByteArray.toList_eq, h]; rfl
theorem point_false (s : ByteArray) (h : s.data.toList ≠ [46]) : (s.toList == [46]) = false := by
  rw [ByteArray.toList_eq]; simpa using h

theorem at_list (s : ByteArray) (k : Nat) (h : k < s.size) : s.data.toList[k]? = some s[k] := by
  rw [List.getElem?_eq_getElem (by simpa using h)]; rfl
theorem toNat_eq_iff (c : UInt8) (k : Nat) (hk : k < 256) : c.toNat = k ↔ c = UInt8.ofNat k := by
  constructor
  · intro h; apply UInt8.toNat_inj.1; rw [h]; simp [UInt8.toNat_ofNat']; omega
  · rintro rfl; simp [UInt8.toNat_ofNat']; omega
theorem mask_i (s : ByteArray) (k : Nat) (h : k < s.size) (hc : ¬ (s[k].toNat : Int) = 112) : mask s.data.toList (k + 1) = mask s.data.toList k := by
  rw [mask, at_list s k h, if_neg, Nat.add_zero]
  intro e
  have : s[k] = 112 := Option.some.inj e
  exact hc (by rw [this]; rfl)
theorem mask_p (s : ByteArray) (k : Nat) (h : k < s.size) (hc : (s[k].toNat : Int) = 112) : mask s.data.toList (k + 1) = mask s.data.toList k + 2 ^ k := by
  rw [mask, at_list s k h, if_pos]
  rw [(toNat_eq_iff s[k] 112 (by decide)).1 (by omega)]; rfl
theorem mask_le (s : ByteArray) (k : Nat) (h : k < 16) : mask s.data.toList k ≤ 65535 := by
  have := mask_lt s.data.toList k
  have h2 : 2 ^ k ≤ 2 ^ 16 := Nat.pow_le_pow_right (by decide) (by omega)
  have : (2 : Nat) ^ 16 = 65536 := by decide
  omega
/-- The first letters are letters of a shape. -/
def Upto (s : ByteArray) (k : Nat) : Prop := ∀ j, j < k → ∀ h : j < s.size, isL s[j] = true
theorem upto_zero (s : ByteArray) : Upto s 0 := fun j h => by omega
theorem upto_succ {s : ByteArray} {k : Nat} (h : Upto s k) (hk : k < s.size) (hc : (s[k].toNat : Int) = 105 ∨ (s[k].toNat : Int) = 112) : Upto s (k + 1) := by
  intro j hj hs
  by_cases e : j < k
  · exact h j e hs
  · have : j = k := by omega
    subst this
    rcases hc with hc | hc
    · rw [(toNat_eq_iff s[j] 105 (by decide)).1 (by omega)]; rfl
    · rw [(toNat_eq_iff s[j] 112 (by decide)).1 (by omega)]; rfl
theorem upto_all {s : ByteArray} (h : Upto s s.size) : allL s.data.toList = true := by
  unfold allL
  rw [List.all_eq_true]
  intro c hc
  obtain ⟨j, hj, rfl⟩ := List.mem_iff_getElem.1 hc
  have hj' : j < s.size := by simpa using hj
  exact h j hj' hj'
theorem all_no {s : ByteArray} {k : Nat} (hk : k < s.size) (h1 : ¬ (s[k].toNat : Int) = 105) (h2 : ¬ (s[k].toNat : Int) = 112) : allL s.data.toList = false := by
  rw [Bool.eq_false_iff]
  intro h
  have := List.all_eq_true.1 h s[k] (List.mem_of_getElem? (at_list s k hk))
  unfold isL at this
  simp only [Bool.or_eq_true, beq_iff_eq] at this
  rcases this with e | e
  · exact h1 (by rw [e]; rfl)
  · exact h2 (by rw [e]; rfl)

/-- What letters, neither a point nor too few nor too many, are read as. -/
def readL (l : List UInt8) : Value :=
  if allL l then .tuple #[.agg #[.int .i64 l.length, .int .i64 (mask l l.length)], .int .i64 0] else .tuple #[.agg #[.int .i64 0, .int .i64 0], .int .i64 16]
theorem readL_yes {s : ByteArray} (h : Upto s s.size) : readL s.data.toList = .tuple #[.agg #[.int .i64 s.size, .int .i64 (mask s.data.toList s.size)], .int .i64 0] := by
  unfold readL; rw [upto_all h, size_len]; rfl
theorem readL_no {s : ByteArray} {k : Nat} (hk : k < s.size) (h1 : ¬ (s[k].toNat : Int) = 105) (h2 : ¬ (s[k].toNat : Int) = 112) : readL s.data.toList = .tuple #[.agg #[.int .i64 0, .int .i64 0], .int .i64 16] := by
  unfold readL; rw [all_no hk h1 h2]; rfl

theorem pair_start (w : World) (s : ByteArray) : Pair ((w.alloc (.cells #[.int .i64 0, .int .i64 0] 31)).alloc (.cells #[.int .i64 s.size, .int .i64 0] 31)) (w.heap.size + 1) (.int .i64 s.size) (.int .i64 (mask s.data.toList 0)) := by
  have h := Pair.new (w.alloc (.cells #[.int .i64 0, .int .i64 0] 31)) 31 (a := .int .i64 s.size) (b := .int .i64 0)
  rw [show (w.alloc (.cells #[.int .i64 0, .int .i64 0] 31)).heap.size = w.heap.size + 1 from by simp] at h
  exact h




/-- What a text is read as. -/
def readS (s : ByteArray) : Value :=
  if s.data.toList = [46] then .tuple #[.agg #[.int .i64 0, .int .i64 0], .int .i64 0]
  else if s.size = 0 ∨ 16 < s.size then .tuple #[.agg #[.int .i64 0, .int .i64 0], .int .i64 16]
  else readL s.data.toList
/-- What is read is a shape that may be, or none. -/
theorem readS_cases (s : ByteArray) : (∃ n m : Nat, readS s = .tuple #[.agg #[.int .i64 n, .int .i64 m], .int .i64 0] ∧ n ≤ 16 ∧ m < 2 ^ n ∧ ((n = 0 ∧ s.data.toList = [46]) ∨ (0 < n ∧ letters m n = s.data.toList))) ∨ readS s = .tuple #[.agg #[.int .i64 0, .int .i64 0], .int .i64 16] := by
  unfold readS
  by_cases hp : s.data.toList = [46]
  · rw [if_pos hp]; exact .inl ⟨0, 0, rfl, by omega, by decide, .inl ⟨rfl, hp⟩⟩
  rw [if_neg hp]
  by_cases h0 : s.size = 0 ∨ 16 < s.size
  · rw [if_pos h0]; exact .inr rfl
  rw [if_neg h0]
  unfold readL
  by_cases ha : allL s.data.toList = true
  · rw [if_pos ha]
    exact .inl ⟨_, _, rfl, by rw [size_len]; omega, mask_lt _ _, .inr ⟨by rw [size_len]; omega, letters_of_mask ha⟩⟩
  · rw [if_neg ha]; exact .inr rfl
/-- The letters of a shape that may be are read as it. -/
theorem readS_letters {n m : Nat} (h0 : 0 < n) (hn : n ≤ 16) (hm : m < 2 ^ n) : readS ⟨(letters m n).toArray⟩ = .tuple #[.agg #[.int .i64 n, .int .i64 m], .int .i64 0] := by
  have hl := letters_length m n
  have hs : (ByteArray.mk (letters m n).toArray).size = n := by show (letters m n).toArray.size = n; simp [hl]
  unfold readS
  rw [if_neg, if_neg (by omega)]
  · unfold readL
    show (if allL (letters m n) = true then _ else _) = _
    rw [if_pos (allL_letters m n), hl, mask_of_letters hm]
  · intro e
    have e' : letters m n = [46] := e
    have := allL_letters m n
    rw [e'] at this
    exact absurd this (by decide)
end Go.Proofs.YthmeafnofckoiaaDoor
