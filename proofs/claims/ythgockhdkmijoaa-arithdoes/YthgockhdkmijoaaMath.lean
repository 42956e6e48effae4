/- What the operations on two numbers make, as plain functions of whole numbers: the names that the walks answer by. -/
import Derived.WalkKit
namespace Go.Proofs.Ythgockhdkmijoaa
open Go Go.RowKit

/-- A number of 64 bits, with a sign. -/
def In64 (n : Int) : Prop := -9223372036854775808 ≤ n ∧ n ≤ 9223372036854775807

def isOp (op : Int) : Bool := decide (2 ≤ op ∧ op ≤ 7)
def turnsOp (op : Int) : Bool := decide (op = 2 ∨ op = 4 ∨ op = 7 ∨ op = 9)
def one (b : Bool) : Int := if b then 1 else 0
def makes (op a b : Int) : Int :=
  if op = 2 then wrap64 (a + b) else if op = 3 then wrap64 (a - b) else if op = 4 then wrap64 (a * b)
  else if op = 5 then (if b = 0 then 0 else wrap64 (a.tdiv b)) else if op = 6 then one (decide (a < b)) else if op = 7 then one (decide (a = b)) else 0
def traps (op b : Int) : Int := if op = 5 ∧ b = 0 then 3 else 0

theorem op_cases (op : Int) : op = 2 ∨ op = 3 ∨ op = 4 ∨ op = 5 ∨ op = 6 ∨ op = 7 ∨ (op ≠ 2 ∧ op ≠ 3 ∧ op ≠ 4 ∧ op ≠ 5 ∧ op ≠ 6 ∧ op ≠ 7) := by omega
theorem wrap_neg (a b : Int) : wrap64 (a + wrap64 (-b)) = wrap64 (a - b) := by unfold wrap64; omega
theorem tdiv_minus (a : Int) : a.tdiv (-1) = 0 - a := by rw [Int.tdiv_neg, Int.tdiv_one]; omega

theorem makes_other {op : Int} (h : op ≠ 2 ∧ op ≠ 3 ∧ op ≠ 4 ∧ op ≠ 5 ∧ op ≠ 6 ∧ op ≠ 7) (a b : Int) : makes op a b = 0 := by
  obtain ⟨h2, h3, h4, h5, h6, h7⟩ := h
  simp [makes, h2, h3, h4, h5, h6, h7]
theorem isOp_other {op : Int} (h : op ≠ 2 ∧ op ≠ 3 ∧ op ≠ 4 ∧ op ≠ 5 ∧ op ≠ 6 ∧ op ≠ 7) : isOp op = false := by
  unfold isOp; simp; omega
theorem traps_other {op : Int} (h : op ≠ 5) (b : Int) : traps op b = 0 := by simp [traps, h]

/-- What Simple answers where both numbers are known. -/
def whole (op n0 n1 : Int) : Int × Int := if traps op n1 = 0 then (2, makes op n0 n1) else (-1, 0)
/-- What Simple answers. -/
def simple (op : Int) (k0 k1 : Bool) (n0 n1 : Int) : Int × Int :=
  if isOp op = false then (-1, 0)
  else if k0 && k1 then whole op n0 n1
  else if k0 && (op == 2 && n0 == 0 || op == 4 && n0 == 1) then (1, 0)
  else if k1 && ((op == 2 || op == 3) && n1 == 0 || (op == 4 || op == 5) && n1 == 1) then (0, 0)
  else if op == 4 && (k0 && n0 == 0 || k1 && n1 == 0) then (2, 0)
  else (-1, 0)
end Go.Proofs.Ythgockhdkmijoaa
