/- Plain numbers and letters of shapes: the bit of a slot, the letters of a mask, the mask of letters, and that they are there and back the same. -/
import Derived.Laws.BitsLemmas
import Derived.Laws.BitsAllLaws
import Derived.RowKit
namespace Go.Proofs.YthmeafnofckoiaaDoor
open Go

def pw (k : Nat) : Int := ((2 ^ k : Nat) : Int)
def bit (m k : Nat) : Bool := m.testBit k
def letter (m k : Nat) : UInt8 := if bit m k then 112 else 105
def letters (m n : Nat) : List UInt8 := (List.range n).map (letter m)
def cnt (m : Nat) : Nat → Nat
  | 0 => 0
  | k + 1 => cnt m k + if bit m k then 1 else 0
def isL (c : UInt8) : Bool := c == 105 || c == 112
def allL (l : List UInt8) : Bool := l.all isL
def mask (l : List UInt8) : Nat → Nat
  | 0 => 0
  | k + 1 => mask l k + if l[k]? = some 112 then 2 ^ k else 0
/-- May a shape of these slots and this mask be? -/
def may (s m : Int) : Bool := decide (0 ≤ s ∧ s ≤ 16 ∧ 0 ≤ m ∧ m < pw s.toNat)

theorem pw_nat (k : Nat) : pw k = ((2 ^ k : Nat) : Int) := rfl
theorem pw_zero : pw 0 = 1 := rfl
theorem pw_succ (k : Nat) : pw (k + 1) = pw k * 2 := by
  unfold pw; rw [Nat.pow_succ]; simp
theorem pw_pos (k : Nat) : 1 ≤ pw k := by
  have : 0 < 2 ^ k := Nat.two_pow_pos k
  unfold pw; omega
theorem pw_mono {i j : Nat} (h : i ≤ j) : pw i ≤ pw j := by
  have : 2 ^ i ≤ 2 ^ j := Nat.pow_le_pow_right (by decide) h
  unfold pw; omega
theorem pw_le {k : Nat} (h : k ≤ 16) : pw k ≤ 65536 := pw_mono (j := 16) h

theorem may_true {s m : Int} (h : may s m = true) : ∃ n k : Nat, s = n ∧ m = k ∧ n ≤ 16 ∧ k < 2 ^ n := by
  obtain ⟨h0, h1, h2, h3⟩ := of_decide_eq_true h
  refine ⟨s.toNat, m.toNat, by omega, by omega, by omega, ?_⟩
  unfold pw at h3; omega
theorem may_nat {n k : Nat} (hn : n ≤ 16) (hk : k < 2 ^ n) : may n k = true := by
  refine decide_eq_true ⟨by omega, by omega, by omega, ?_⟩
  rw [Int.toNat_natCast]; unfold pw; omega

theorem mask_lt (l : List UInt8) : ∀ k, mask l k < 2 ^ k
  | 0 => by simp [mask]
  | k + 1 => by
    have := mask_lt l k
    rw [mask, Nat.pow_succ]; split <;> omega

theorem or_pow {m k : Nat} (h : m < 2 ^ k) : m ||| 2 ^ k = m + 2 ^ k := by
  rw [Nat.or_comm, nat_join k (2 ^ k) m (Nat.mod_self _) h, Nat.add_comm]

theorem bit_add_low {m k j : Nat} (h : m < 2 ^ k) (hj : j < k) : bit (m + 2 ^ k) j = bit m j := by
  unfold bit
  rw [← or_pow h, Nat.testBit_or, Nat.testBit_two_pow]
  have : ¬ k = j := by omega
  simp [this]
theorem bit_add_top {m k : Nat} (h : m < 2 ^ k) : bit (m + 2 ^ k) k = true := by
  unfold bit
  rw [← or_pow h, Nat.testBit_or, Nat.testBit_two_pow]; simp
theorem bit_high {m k j : Nat} (h : m < 2 ^ k) (hj : k ≤ j) : bit m j = false := by
  unfold bit
  exact Nat.testBit_lt_two_pow (Nat.lt_of_lt_of_le h (Nat.pow_le_pow_right (by decide) hj))

theorem bit_mask (l : List UInt8) : ∀ n k, k < n → bit (mask l n) k = decide (l[k]? = some 112)
  | 0, k, h => by omega
  | n + 1, k, h => by
    rw [mask]
    have hlt := mask_lt l n
    by_cases hk : k < n
    · split
      · rw [bit_add_low hlt hk]; exact bit_mask l n k hk
      · exact bit_mask l n k hk
    · have : k = n := by omega
      subst this
      split
      · rename_i h'; rw [bit_add_top hlt]; simp [h']
      · rename_i h'; rw [Nat.add_zero, bit_high hlt (Nat.le_refl _)]; simp [h']

theorem letters_length (m n : Nat) : (letters m n).length = n := by simp [letters]
theorem letters_get {m n k : Nat} (h : k < n) : (letters m n)[k]? = some (letter m k) := by
  simp [letters, h]
theorem letters_succ (m n : Nat) : letters m (n + 1) = letters m n ++ [letter m n] := by
  simp [letters, List.range_succ]
theorem letter_cases (m k : Nat) : letter m k = 105 ∨ letter m k = 112 := by
  unfold letter; split <;> simp
theorem isL_letter (m k : Nat) : isL (letter m k) = true := by
  rcases letter_cases m k with h | h <;> rw [h] <;> rfl
theorem allL_letters (m n : Nat) : allL (letters m n) = true := by
  unfold allL letters
  simp [List.all_eq_true, isL_letter]

theorem letter_112 (m k : Nat) : (letter m k = 112) ↔ bit m k = true := by
  unfold letter; cases bit m k <;> simp

/-- The letters of a mask are read as the mask. -/
theorem mask_letters (m n : Nat) : ∀ k, k ≤ n → mask (letters m n) k = m % 2 ^ k
  | 0, _ => by simp [mask, Nat.mod_one]
  | k + 1, h => by
    rw [mask, mask_letters m n k (by omega), letters_get (by omega), Nat.pow_succ, Nat.mod_mul]
    have e := Nat.testBit_eq_decide_div_mod_eq (x := m) (i := k)
    by_cases hb : bit m k = true
    · rw [if_pos (by rw [(letter_112 m k).2 hb])]
      unfold bit at hb
      rw [hb] at e
      have := of_decide_eq_true e.symm
      rw [this, Nat.mul_one]
    · rw [if_neg (by intro h'; exact hb ((letter_112 m k).1 (Option.some.inj h')))]
      unfold bit at hb
      have hb' : m.testBit k = false := by simpa using hb
      rw [hb'] at e
      have h1 := of_decide_eq_false e.symm
      have h2 : m / 2 ^ k % 2 = 0 := by omega
      rw [h2, Nat.mul_zero]

theorem mask_of_letters {m n : Nat} (h : m < 2 ^ n) : mask (letters m n) n = m := by
  rw [mask_letters m n n (Nat.le_refl _), Nat.mod_eq_of_lt h]

/-- Letters are the letters of their mask. -/
theorem letters_of_mask {l : List UInt8} (h : allL l = true) : letters (mask l l.length) l.length = l := by
  apply List.ext_getElem?
  intro k
  by_cases hk : k < l.length
  · rw [letters_get hk, List.getElem?_eq_getElem hk]
    have hb := bit_mask l l.length k hk
    rw [List.getElem?_eq_getElem hk] at hb
    have hl : isL l[k] = true := List.all_eq_true.1 h _ (List.getElem_mem hk)
    congr 1
    unfold letter
    rw [hb]
    unfold isL at hl
    by_cases h1 : l[k] = 112
    · simp [h1]
    · simp [h1] at hl ⊢
      exact hl.symm
  · rw [List.getElem?_eq_none (by rw [letters_length]; omega), List.getElem?_eq_none (by omega)]

/-- Of two shapes that may be the words tell which they are. -/
theorem head_slots {n m : Nat} (hn : n ≤ 16) : (m * 32 + n) % 32 = n ∧ (m * 32 + n) / 32 = m := by omega

theorem wraps_i64 : ∀ n : Int, 0 ≤ n → n < 2 ^ 17 → IntKind.i64.wrap n = n := by
  intro n h0 h1
  have : (2 : Int) ^ 17 = 131072 := by decide
  simp [IntKind.wrap, IntKind.bits, IntKind.signed]
  omega

theorem or_bits {m k : Nat} (hk : k < 16) (h : m < 2 ^ k) : bits .or .i64 (m : Int) (pw k) = ((m + 2 ^ k : Nat) : Int) := by
  have h16 : 2 ^ k ≤ 2 ^ 16 := Nat.pow_le_pow_right (by decide) (by omega)
  have : (2 : Nat) ^ 16 < 2 ^ 17 := by decide
  rw [pw_nat, (bits_nat .i64 17 (by decide) wraps_i64 m (2 ^ k) (by omega) (by omega)).2, or_pow h]

theorem and_bits {m k : Nat} (hk : k < 16) (h : m < 2 ^ 16) : (bits .and .i64 (m : Int) (pw k) = 0) ↔ bit m k = false := by
  have h16 : 2 ^ k ≤ 2 ^ 16 := Nat.pow_le_pow_right (by decide) (by omega)
  have : (2 : Nat) ^ 16 < 2 ^ 17 := by decide
  rw [pw_nat, (bits_nat .i64 17 (by decide) wraps_i64 m (2 ^ k) (by omega) (by omega)).1, nat_bit]
  unfold bit
  rw [Nat.testBit_eq_decide_div_mod_eq]
  have hp : 0 < 2 ^ k := Nat.two_pow_pos k
  have h2 : m / 2 ^ k % 2 = 0 ∨ m / 2 ^ k % 2 = 1 := by omega
  rcases h2 with h2 | h2
  · rw [h2]; simp
  · rw [h2, Nat.one_mul]
    constructor
    · intro hh; omega
    · intro hh; simp at hh

theorem div_bit (m k : Nat) : ((m : Int) / pw k % 2 = 1) ↔ bit m k = true := by
  unfold bit
  rw [Nat.testBit_eq_decide_div_mod_eq, pw_nat, decide_eq_true_iff]
  omega
end Go.Proofs.YthmeafnofckoiaaDoor
