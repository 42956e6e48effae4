/- Layer 12, the statements' shape from two numbers. -/
import Derived.Test.YthmeafnofckoiaaDoorPmL
namespace Go.Proofs.YthmeafnofckoiaaDoor
open Go Go.RowKit

def shN (s : Int) : Nat := ((IntKind.u64.wrap s) % 17).toNat
theorem u64_pos (s : Int) : 0 ≤ IntKind.u64.wrap s := by
  simp only [IntKind.wrap]
  first | omega | (split <;> omega) | exact Int.emod_nonneg _ (by decide)
theorem shN_le (s : Int) : shN s ≤ 16 := by unfold shN; omega
theorem shN_mod (s : Int) : (IntKind.u64.wrap s).tmod 17 = (shN s : Int) := by
  have := u64_pos s
  rw [Int.tmod_eq_emod_of_nonneg this]; unfold shN; omega
theorem mask_step (m i : Nat) : m % 2 ^ (i + 1) = if 2 ^ i ≤ m % 2 ^ (i + 1) then m % 2 ^ i + 2 ^ i else m % 2 ^ i := by
  have h : 2 ^ (i + 1) = 2 ^ i * 2 := Nat.pow_succ 2 i
  have h1 : m % (2 ^ i * 2) = m % 2 ^ i + 2 ^ i * (m / 2 ^ i % 2) := Nat.mod_mul
  have h2 : m % 2 ^ i < 2 ^ i := Nat.mod_lt _ (Nat.two_pow_pos i)
  rw [h, h1]
  rcases Nat.mod_two_eq_zero_or_one (m / 2 ^ i) with e | e
  · rw [e, if_neg (by omega)]; omega
  · rw [e, if_pos (by omega)]; omega
theorem sub_in {c p d : Nat} (h : c = d + p) (hd : d < p) (hp : p ≤ 32768) : wrap64 ((c : Int) - (p : Int)) = (d : Int) := by
  have e : (c : Int) - (p : Int) = (d : Int) := by omega
  rw [e]
  exact IntWalk.wrap64_in _ ⟨by omega, by omega⟩
theorem pow_in {j : Nat} (h : j ≤ 15) : wrap64 ((2 : Int) ^ j) = ((2 ^ j : Nat) : Int) := by
  have hpl : 2 ^ j ≤ 32768 := Nat.le_trans (Nat.pow_le_pow_right (by omega) h) (by decide)
  have e : (2 : Int) ^ j = ((2 ^ j : Nat) : Int) := by simp
  rw [e]
  generalize 2 ^ j = p at hpl
  exact IntWalk.wrap64_in _ ⟨by omega, by omega⟩
set_option maxHeartbeats 1000000 in
set_option maxRecDepth 20000 in
theorem lshape_any (s : Int) (m : Nat) (w : World) (hm : m < 65536) :
    Calls Tryd.prog 8 #[.int .i64 s, .int .u16 (m : Int)] w fun e w' => e = .returned (.agg #[.int .i64 (shN s : Int), .int .i64 ((m % 2 ^ shN s : Nat) : Int)]) ∧ Below w.heap.size w w' := by
  have hN := shN_mod s
  have hle := shN_le s
  generalize shN s = N at *
  obtain ⟨b0, z0, z1, fz⟩ := two_new w
  have f0 := fz 0
  have f1 := fz 1
  have HB := hide (fun a b => (b0.setCell (p := ⟨w.heap.size, 0, none⟩) (Nat.le_refl _) (.int .i64 a)).setCell (p := ⟨w.heap.size, 1, none⟩) (Nat.le_refl _) (.int .i64 b))
  clear fz b0
  have hw1 : IntKind.u64.wrap (N : Int) = (N : Int) := by
    have hb : (2 : Int) ^ IntKind.u64.bits = 18446744073709551616 := by decide
    have hu : IntKind.u64.signed = false := rfl
    simp only [IntKind.wrap, hb, hu]; simp; omega
  have hw2 : IntKind.i64.wrap (N : Int) = (N : Int) := IntWalk.i64_in _ ⟨by omega, by omega⟩
  have hw3 : IntKind.i64.wrap (m : Int) = (m : Int) := IntWalk.i64_in _ ⟨by omega, by omega⟩
  go_enter Tryd.func8, Tryd.ntmps8
  go_upto_region 1 with fail
  show Code.wp _ _ _ _ (w.alloc (.cells #[.int .i64 0, .int .i64 0] 31))
  generalize w.alloc (.cells #[.int .i64 0, .int .i64 0] 31) = W at *
  go_wp2_with fail
  go_loopw [6, 7] (fun mv iv wr => ∃ i : Nat, N ≤ i ∧ i ≤ 16 ∧ iv = .int .i64 i ∧ mv = .int .i64 ((m % 2 ^ i : Nat) : Int) ∧ wr = W) (fun _ iv _ => (intOf iv).toNat)
  case atStart => exact ⟨16, hle, by omega, rfl, by rw [Nat.mod_eq_of_lt (by omega)], rfl⟩
  case round =>
    obtain ⟨i, h1, h2, rfl, rfl, rfl⟩ := hrel
    by_cases hlt : N < i
    · obtain ⟨j, rfl⟩ : ∃ j, i = j + 1 := ⟨i - 1, by omega⟩
      have hj : IntKind.i64.wrap ((j : Int) + 1 - 1) = (j : Int) := by rw [IntWalk.i64_in _ ⟨by omega, by omega⟩]; omega
      have hst := mask_step m j
      have hpl : 2 ^ j ≤ 32768 := Nat.le_trans (Nat.pow_le_pow_right (by omega) (show j ≤ 15 by omega)) (by decide)
      have hml : m % 2 ^ j < 2 ^ j := Nat.mod_lt _ (Nat.two_pow_pos j)
      have hsh := pow_in (j := j) (by omega)
      obtain ⟨d, hd⟩ : ∃ d, d = m % 2 ^ j := ⟨_, rfl⟩
      rw [← hd] at hst hml
      have HD := hide hd
      clear hd
      generalize m % 2 ^ (j + 1) = c at *
      generalize 2 ^ j = p at hst hpl hml hsh
      by_cases hge : p ≤ c
      · rw [if_pos hge] at hst
        have hcd := sub_in hst hml hpl
        clear hst
        go_wp2_with fail
        go_roundw
        case rel => exact ⟨j, by omega, by omega, rfl, by rw [← HD.out, hcd], by simp⟩
        case measure => simp [intOf]
      · rw [if_neg hge] at hst
        subst hst
        go_wp2_with fail
        go_roundw
        case rel => exact ⟨j, by omega, by omega, rfl, by rw [← HD.out], by simp⟩
        case measure => simp [intOf]
    · obtain rfl : i = N := by omega
      go_wp2_with fail
      exact bodyPost_ret (v := .agg #[.int .i64 (i : Int), .int .i64 ((m % 2 ^ i : Nat) : Int)]) (by simp [results, Tryd.results8, go_sem, z0, z1]) rfl ⟨rfl, HB.out _ _⟩
end Go.Proofs.YthmeafnofckoiaaDoor
