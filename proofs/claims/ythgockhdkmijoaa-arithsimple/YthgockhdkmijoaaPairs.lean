/- Arrays of two that come in by value: what they hold, and that they read as before. -/
import Derived.Test.YthgockhdkmijoaaRows
import Derived.ProofKit
import Derived.WideKeyPair
import Derived.OpenShut
namespace Go.Proofs.Ythgockhdkmijoaa
open Go.ChangeShapes Go.WideShapes Go.ChangeAt Go.RowKit

theorem arr27 : WideMaps.ArrKey Try.prog 27 4 2 := ⟨Try.underlying27, by kernel_rfl, by kernel_rfl, by kernel_rfl⟩
theorem arr28 : WideMaps.ArrKey Try.prog 28 2 2 := ⟨Try.underlying28, by kernel_rfl, by kernel_rfl, by kernel_rfl⟩

section
variable {H : Type} {enc : TypeId × Value → H} {W : World} {base : Nat} {sp : Nat → Bool} {held : Bool}
theorem shut_known (a b : Bool) : DataW.Trod enc Try.prog W base sp held 27 (.agg #[.bool a, .bool b]) (.agg [.lit (.bool a), .lit (.bool b)]) [] := by
  refine ⟨2, ?_⟩
  have c27 : Try.prog.cellsOf 27 = 2 := arr27.size
  have c4 : Try.prog.cellsOf 4 = 1 := arr27.one
  have r2 : List.range 2 = [0, 1] := rfl
  simp [DataW.trod, Try.underlying27, Try.underlying4, Value.cells, c27, c4, r2]
theorem open_known {r : Reach} {b0 : Nat} {v : Value} {d : DataW H} {ps : List MemPlace} (hval : Value.okWide Try.prog W r b0 27 v) (hd : DataW.Trod enc Try.prog W base sp held 27 v d ps) :
    ∃ a b : Bool, v = .agg #[.bool a, .bool b] ∧ d = .agg [.lit (.bool a), .lit (.bool b)] ∧ ps = [] := by
  obtain ⟨c0, c1, rfl⟩ := WideMaps.okWide_pair arr27 hval
  obtain ⟨fuel, hf⟩ := hd
  obtain ⟨xs, m, _, hx, _, hl, each⟩ := DataW.trod_array Try.underlying27 hf
  match xs, hl with
  | [x0, x1], _ =>
    have h0 := each 0 (by decide)
    have h1 := each 1 (by decide)
    rw [arr27.one] at h0 h1
    simp [Value.cells] at h0 h1
    obtain ⟨a, ea, rfl⟩ := DataW.trod_bool Try.underlying4 h0
    obtain ⟨b, eb, rfl⟩ := DataW.trod_bool Try.underlying4 h1
    simp at ea eb
    subst ea eb
    simp at hx
    exact ⟨a, b, rfl, hx.1, hx.2⟩
end
end Go.Proofs.Ythgockhdkmijoaa
