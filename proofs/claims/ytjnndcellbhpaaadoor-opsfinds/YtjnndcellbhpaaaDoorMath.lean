/- The operations' table as plain data: for each number its word, the two types that it takes, the type that it makes, and what it does beside as bits; and the questions of the layer over it. -/
import Derived.WalkKit
namespace Go.Proofs.YtjnndcellbhpaaaDoor
open Go

def tab : List (List UInt8 × Int × Int × Int × Int) := [
  ([], 0, 0, 0, 0),
  ([99, 111, 110, 115, 116], 0, 0, 1, 32),
  ([97, 100, 100], 1, 1, 1, 32),
  ([115, 117, 98], 1, 1, 1, 32),
  ([109, 117, 108], 1, 1, 1, 32),
  ([100, 105, 118], 1, 1, 1, 1),
  ([108, 116], 1, 1, 1, 32),
  ([101, 113], 1, 1, 1, 32),
  ([110, 105, 108], 0, 0, 2, 32),
  ([115, 97, 109, 101], 2, 2, 1, 32),
  ([110, 101, 119], 0, 0, 2, 0),
  ([108, 111, 97, 100, 46, 105], 2, 0, 1, 3),
  ([108, 111, 97, 100, 46, 112], 2, 0, 2, 3),
  ([115, 116, 111, 114, 101, 46, 105], 2, 1, 0, 5),
  ([115, 116, 111, 114, 101, 46, 112], 2, 2, 0, 5),
  ([115, 108, 111, 116], 2, 0, 3, 1),
  ([103, 101, 116, 46, 105], 3, 0, 1, 3),
  ([103, 101, 116, 46, 112], 3, 0, 2, 3),
  ([112, 117, 116, 46, 105], 3, 1, 0, 5),
  ([112, 117, 116, 46, 112], 3, 2, 0, 5),
  ([112, 104, 105], 0, 0, 0, 128),
  ([99, 97, 108, 108], 0, 0, 0, 199),
  ([111, 117, 116], 1, 0, 0, 16),
  ([112, 111, 108, 108], 0, 0, 0, 80),
  ([114, 101, 108, 111, 99], 0, 0, 0, 128),
  ([109, 97, 114, 107], 2, 0, 0, 16),
  ([98, 114], 0, 0, 0, 8),
  ([105, 102], 1, 0, 0, 8),
  ([114, 101, 116], 0, 0, 0, 8),
  ([102, 97, 105, 108], 0, 0, 0, 9)]
/-- Which row is an operation's: its number, or 0 where there is none. -/
def num (op : Int) : Nat := if 1 ≤ op ∧ op ≤ 29 then op.toNat else 0
def rowAt (k : Nat) : List UInt8 × Int × Int × Int × Int := tab.getD k ([], 0, 0, 0, 0)
def letters (k : Nat) : List UInt8 := (rowAt k).1
def tk0 (k : Nat) : Int := (rowAt k).2.1
def tk1 (k : Nat) : Int := (rowAt k).2.2.1
def mk (k : Nat) : Int := (rowAt k).2.2.2.1
def ds (k : Nat) : Int := (rowAt k).2.2.2.2
def word (k : Nat) : ByteArray := ⟨(letters k).toArray⟩
theorem num_le (op : Int) : num op ≤ 29 := by unfold num; split <;> omega
theorem num_out {op : Int} (h : ¬ (1 ≤ op ∧ op ≤ 29)) : num op = 0 := by unfold num; rw [if_neg h]
theorem num_in {k : Nat} (h : 1 ≤ k) (h' : k ≤ 29) : num (k : Int) = k := by unfold num; rw [if_pos (by omega)]; omega
/-- What the table's row holds, as a value. -/
def rowVal (k : Nat) : Value := .agg #[.string (word k), .int .i64 (tk0 k), .int .i64 (tk1 k), .int .i64 (mk k), .int .i64 (ds k)]

/-- Does a row do one of some things beside? -/
def beside (k : Nat) (things : Int) : Bool := bits BinOp.and .i64 (ds k) things != 0
/-- A list of operations that is just those whose row does one of some things beside, asked for every number. -/
theorem beside_list {l : List Int} {things : Int} (h : ∀ k, k < 30 → l.contains ((k : Nat) : Int) = beside k things) (hl : l.all (fun x => decide (1 ≤ x) && decide (x ≤ 29)) = true) (op : Int) : l.contains op = beside (num op) things := by
  by_cases ho : 1 ≤ op ∧ op ≤ 29
  · have e : op = ((op.toNat : Nat) : Int) := by omega
    have := h op.toNat (by omega)
    rw [← e] at this
    rw [this, show num op = op.toNat from if_pos ho]
  · have h0 := h 0 (by omega)
    rw [num_out ho, ← h0]
    have no : ∀ x : Int, ¬ (1 ≤ x ∧ x ≤ 29) → l.contains x = false := by
      intro x hx
      rw [Bool.eq_false_iff]
      intro hc
      have := List.all_eq_true.1 hl x (by simpa using hc)
      simp only [Bool.and_eq_true, decide_eq_true_eq] at this
      exact hx this
    rw [no op ho, no ((0 : Nat) : Int) (by omega)]
def trapsL : List Int := [5, 11, 12, 13, 14, 15, 16, 17, 18, 19, 21, 29]
def readsL : List Int := [11, 12, 16, 17, 21]
def writesL : List Int := [13, 14, 18, 19, 21]
def endsL : List Int := [26, 27, 28, 29]
def seenL : List Int := [13, 14, 18, 19, 21, 26, 27, 28, 29, 22, 23, 25]
def pureL : List Int := [1, 2, 3, 4, 6, 7, 8, 9]
def safeL : List Int := [23, 21]
def typedL : List Int := [20, 21, 24]
theorem traps_l (op : Int) : trapsL.contains op = beside (num op) 1 := beside_list (by decide +kernel) (by decide) op
theorem reads_l (op : Int) : readsL.contains op = beside (num op) 2 := beside_list (by decide +kernel) (by decide) op
theorem writes_l (op : Int) : writesL.contains op = beside (num op) 4 := beside_list (by decide +kernel) (by decide) op
theorem ends_l (op : Int) : endsL.contains op = beside (num op) 8 := beside_list (by decide +kernel) (by decide) op
theorem seen_l (op : Int) : seenL.contains op = beside (num op) 28 := beside_list (by decide +kernel) (by decide) op
theorem pure_l (op : Int) : pureL.contains op = beside (num op) 32 := beside_list (by decide +kernel) (by decide) op
theorem safe_l (op : Int) : safeL.contains op = beside (num op) 64 := beside_list (by decide +kernel) (by decide) op
theorem typed_l (op : Int) : typedL.contains op = beside (num op) 128 := beside_list (by decide +kernel) (by decide) op

/-- A type as a letter. -/
def letter (t : Int) : ByteArray := if t = 1 then ⟨#[105]⟩ else if t = 2 then ⟨#[112]⟩ else if t = 3 then ⟨#[100]⟩ else ⟨#[110]⟩
/-- May an operation be of a type? -/
def may (op t : Int) : Bool :=
  if op = 20 then decide (t = 1 ∨ t = 2 ∨ t = 3) else if op = 21 then decide (t = 0 ∨ t = 1 ∨ t = 2) else if op = 24 then decide (t = 2 ∨ t = 3) else decide (t = 0)
/-- The word of an instruction. -/
def iword (op t : Int) : ByteArray := if beside (num op) 128 then word (num op) ++ ⟨#[46]⟩ ++ letter t else word (num op)
/-- What an instruction makes. -/
def imakes (op t : Int) : Int := if beside (num op) 128 then t else mk (num op)
/-- The types that an operation takes, those that are none left out. -/
def takes (k : Nat) : List Int := [tk0 k, tk1 k].filter (fun x => x != 0)
/-- The pairs of an operation and a type, one behind the other: is it this one's word? -/
def hit (s : ByteArray) (i : Nat) : Bool := may ((i / 4 + 1 : Nat) : Int) ((i % 4 : Nat) : Int) && (iword ((i / 4 + 1 : Nat) : Int) ((i % 4 : Nat) : Int)).toList == s.toList
def findN (s : ByteArray) : Nat → Nat → Int × Int
  | 0, _ => (0, 0)
  | n + 1, i => if hit s i then (((i / 4 + 1 : Nat) : Int), ((i % 4 : Nat) : Int)) else findN s n (i + 1)
def find (s : ByteArray) : Int × Int := findN s 116 0
theorem find_back : ∀ k, k < 116 → may ((k / 4 + 1 : Nat) : Int) ((k % 4 : Nat) : Int) = true → find (iword ((k / 4 + 1 : Nat) : Int) ((k % 4 : Nat) : Int)) = (((k / 4 + 1 : Nat) : Int), ((k % 4 : Nat) : Int)) := by decide +kernel
end Go.Proofs.YtjnndcellbhpaaaDoor
