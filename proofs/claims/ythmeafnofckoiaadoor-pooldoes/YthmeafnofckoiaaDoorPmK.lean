/- Layer 12, the statement's own look at two rows of numbers that are alike. -/
import Derived.Test.YthmeafnofckoiaaDoorPmJ
namespace Go.Proofs.YthmeafnofckoiaaDoor
open Go Go.RowKit

set_option maxHeartbeats 1000000 in
set_option maxRecDepth 20000 in
theorem ints_same (l : List Int) (ao bo : Option Addr) (ca cb : Nat) (w : World) (ha : IntsR w l ao) (hb : IntsR w l bo) (hl : l.length ≤ 1000000) :
    Calls Tryd.prog 23 #[.slice ao l.length ca, .slice bo l.length cb] w fun e w' => e = .returned (.bool true) ∧ Below w.heap.size w w' := by
  have HV : ∀ {q : Option Addr}, IntsR w l q → Hid (∀ i, i < l.length → ∃ b o, q = some ⟨b, o, none⟩ ∧ ∀ w', Below w.heap.size w w' → w'.cell? ⟨b, o + i, none⟩ = some (.int .i64 (l.getD i 0))) := fun {q} h => hide (fun i hi => by
    rcases h with h | ⟨b, o, e, hbz, h⟩
    · subst h; simp at hi
    · exact ⟨b, o, e, fun w' bl => (bl.cell (p := ⟨b, o + i, none⟩) hbz).trans (h i _ (by rw [List.getD_eq_getElem?_getD, List.getElem?_eq_getElem hi]; rfl))⟩)
  have HA := HV ha
  have HB := HV hb
  clear HV ha hb
  obtain ⟨ln, hln⟩ : ∃ n, n = l.length := ⟨_, rfl⟩
  rw [← hln] at HA HB hl ⊢
  clear hln
  go_enter Tryd.func23, Tryd.ntmps23
  go_wp2_with fail
  go_loopw [5] (fun iv wr => ∃ i : Nat, i ≤ ln ∧ iv = .int .i64 i ∧ Hid (Below w.heap.size w wr)) (fun iv _ => ln - (intOf iv).toNat)
  case atStart => exact ⟨0, Nat.zero_le _, rfl, hide (Below.refl _ _)⟩
  case round =>
    obtain ⟨i, hi, rfl, HW⟩ := hrel
    by_cases hit : i < ln
    · have hiI : (i : Int) < ln := by omega
      obtain ⟨b, o, rfl, d⟩ := HA.out i hit
      obtain ⟨b2, o2, rfl, d2⟩ := HB.out i hit
      have e1 := d wr HW.out
      have e2 := d2 wr HW.out
      clear d d2
      generalize l.getD i 0 = y at *
      have k : (y != y) = false := by simp
      have k2 : (y == y) = true := by simp
      go_upto_region 6 with fail
      go_quiet (fail)
      go_wp2_with fail
      go_roundw
      case rel => exact ⟨i + 1, by omega, by go_num, hide (below_drew HW.out _)⟩
      case measure => simp [intOf]; omega
    · obtain rfl : i = ln := by omega
      go_wp2_with fail
      go_ret
      exact ⟨rfl, HW.out⟩
end Go.Proofs.YthmeafnofckoiaaDoor
