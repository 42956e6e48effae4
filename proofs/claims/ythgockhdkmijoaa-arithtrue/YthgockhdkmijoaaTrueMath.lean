/- What is known is true: whatever the other number is, an operation of which Simple tells something makes that. -/
import Derived.Test.YthgockhdkmijoaaWalksA
namespace Go.Proofs.Ythgockhdkmijoaa
open Go Go.RowKit

/-- The number that is known, or another one. -/
def told (k : Bool) (n a : Int) : Int := if k then n else a
theorem wrap_in {n : Int} (h : In64 n) : wrap64 n = n := IntWalk.wrap64_in n h

theorem known_ways (op : Int) (k0 k1 : Bool) (n0 n1 a b : Int) (ha : In64 a) (hb : In64 b) :
    simple op k0 k1 n0 n1 = (-1, 0) ∨
    (simple op k0 k1 n0 n1 = (0, 0) ∧ traps op (told k1 n1 b) = 0 ∧ makes op (told k0 n0 a) (told k1 n1 b) = told k0 n0 a) ∨
    (simple op k0 k1 n0 n1 = (1, 0) ∧ traps op (told k1 n1 b) = 0 ∧ makes op (told k0 n0 a) (told k1 n1 b) = told k1 n1 b) ∨
    (∃ y, simple op k0 k1 n0 n1 = (2, y) ∧ traps op (told k1 n1 b) = 0 ∧ makes op (told k0 n0 a) (told k1 n1 b) = y) := by
  by_cases hI : isOp op = true
  · cases k0
    · cases k1
      · exact .inl (by simp [simple])
      · have ea := wrap_in ha
        have t1 : told true n1 b = n1 := rfl
        have t0 : told false n0 a = a := rfl
        rw [t0, t1]
        rcases op_cases op with rfl | rfl | rfl | rfl | rfl | rfl | h
        · by_cases e : n1 = 0
          · subst e; exact .inr (.inl ⟨by simp [simple, isOp], rfl, by simp [makes, ea]⟩)
          · exact .inl (by simp [simple, isOp, e])
        · by_cases e : n1 = 0
          · subst e; exact .inr (.inl ⟨by simp [simple, isOp], rfl, by simp [makes, ea]⟩)
          · exact .inl (by simp [simple, isOp, e])
        · by_cases e : n1 = 1
          · subst e; exact .inr (.inl ⟨by simp [simple, isOp], rfl, by simp [makes, ea]⟩)
          · by_cases e' : n1 = 0
            · subst e'; exact .inr (.inr (.inr ⟨0, by simp [simple, isOp], rfl, by simp [makes, wrap64]⟩))
            · exact .inl (by simp [simple, isOp, e, e'])
        · by_cases e : n1 = 1
          · subst e; exact .inr (.inl ⟨by simp [simple, isOp], rfl, by simp [makes, ea]⟩)
          · exact .inl (by simp [simple, isOp, e])
        · exact .inl (by simp [simple, isOp])
        · exact .inl (by simp [simple, isOp])
        · rw [isOp_other h] at hI; cases hI
    · cases k1
      · have eb := wrap_in hb
        have t1 : told false n1 b = b := rfl
        have t0 : told true n0 a = n0 := rfl
        rw [t0, t1]
        rcases op_cases op with rfl | rfl | rfl | rfl | rfl | rfl | h
        · by_cases e : n0 = 0
          · subst e; exact .inr (.inr (.inl ⟨by simp [simple, isOp], rfl, by simp [makes, eb]⟩))
          · exact .inl (by simp [simple, isOp, e])
        · exact .inl (by simp [simple, isOp])
        · by_cases e : n0 = 1
          · subst e; exact .inr (.inr (.inl ⟨by simp [simple, isOp], rfl, by simp [makes, eb]⟩))
          · by_cases e' : n0 = 0
            · subst e'; exact .inr (.inr (.inr ⟨0, by simp [simple, isOp], rfl, by simp [makes, wrap64]⟩))
            · exact .inl (by simp [simple, isOp, e, e'])
        · exact .inl (by simp [simple, isOp])
        · exact .inl (by simp [simple, isOp])
        · exact .inl (by simp [simple, isOp])
        · rw [isOp_other h] at hI; cases hI
      · have t1 : told true n1 b = n1 := rfl
        have t0 : told true n0 a = n0 := rfl
        rw [t0, t1]
        by_cases ht : traps op n1 = 0
        · exact .inr (.inr (.inr ⟨_, by simp [simple, hI, whole, ht], ht, rfl⟩))
        · exact .inl (by simp [simple, hI, whole, ht])
  · exact .inl (by simp [simple, hI])
end Go.Proofs.Ythgockhdkmijoaa
