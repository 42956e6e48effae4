/- What each row of this seat is given: where the table of bits reads as the program's text lays it, each bit is two to its number; the heap that the program's own start leaves is one such; a shape that came in is two numbers. -/
import Derived.Test.YtaeimaljegegoaaDoorRows
import Derived.Test.YtaeimaljegegoaaDoorWalksH
import Derived.ProofKit
import Derived.LaidMore
import Derived.OpenShut
import Derived.Stop.Joined
import Derived.ShutString
import Derived.ChangeOld
import Derived.Below
import Derived.Lib.LaidTab
import Derived.Lib.SmallJoins
namespace Go.Proofs.YtaeimaljegegoaaDoor
open Go.ChangeShapes Go.WideShapes Go.ChangeAt Go.RowKit

theorem own : ownKnob Tryd.prog.godebug = none := by kernel_rfl
def laid1 : List (String × DataW Unit) := [("turntable/shape.slotBits", Rows.laid_turntable_shape_slotBits)]
def bitsTab : List Int := [1, 2, 4, 8, 16, 32, 64, 128, 256, 512, 1024, 2048, 4096, 8192, 16384, 32768]
theorem bitsNamed : Tryd.prog.globalNamed "turntable/shape.slotBits" = some 0 := by kernel_rfl
theorem bitsType : (Tryd.prog.globals[0]?).map (·.type) = some 36 := by kernel_rfl
theorem c3 : Tryd.prog.cellsOf 3 = 1 := by kernel_rfl
theorem c23 : Tryd.prog.cellsOf 23 = 2 := by kernel_rfl
theorem c36 : Tryd.prog.cellsOf 36 = 16 := by kernel_rfl
theorem bits_pw : ∀ k, k < 16 → bitsTab.getD k 0 = pw k := by decide

theorem tab_of_laid {W : World} (h : laidMetH Tryd.prog laid1 W) : Tab W := by
  rw [MakeChecks.laidMetH_plain _ _ _ (by kernel_rfl)] at h
  have ht : Lib.TabIs Tryd.prog W "turntable/shape.slotBits" .i64 bitsTab :=
    Lib.tabIs_of_head bitsNamed bitsType Tryd.underlying36 Tryd.underlying3 c3 c36 (rest := []) h
  have hc : ∀ k, k < 16 → W.cell? ⟨0, k, none⟩ = some (.int .i64 (pw k)) := fun k hk => by
    rw [← bits_pw k hk]; exact ht.cell bitsNamed k hk
  exact ⟨World.block_lt_of_cell? W _ (hc 0 (by omega)), hc⟩

theorem door_met (os : Os) (args : Array Value) : laidMetH Tryd.prog laid1 ((World.doorLaid Tryd.prog 400 os).forCall (fun _ _ => 0) ⟨#[], args, []⟩).memory :=
  laidMetH_of_parts3 (fuel := 8) (laidMet_of_run' 8 (by kernel_rfl) (by kernel_rfl)) (by kernel_rfl) (by kernel_rfl)

/-- A shape that came in: two numbers. -/
theorem open_shape {H : Type} {enc : TypeId × Value → H} {W : World} {r : Reach} {b0 : Nat} {v : Value} {d : DataW H} {p : List MemPlace} (hv : Value.okWide Tryd.prog W r b0 23 v) (h : DataW.Trod enc Tryd.prog W 0 (fun _ => true) true 23 v d p) :
    ∃ x y : Int, v = .agg #[.int .i64 x, .int .i64 y] ∧ d = .agg [.lit (.int .i64 x), .lit (.int .i64 y)] ∧ p = [] ∧ (Lit.int .i64 x).wf = true ∧ (Lit.int .i64 y).wf = true := by
  obtain ⟨v0, v1, y0, y1, n, rfl, rfl, rfl, h0, h1⟩ := Joins.open_agg2 Tryd.underlying23 (by kernel_rfl) c23 hv h
  obtain ⟨x, e0, rfl, w0⟩ := DataW.trod_int Tryd.underlying3 h0
  obtain ⟨y, e1, rfl, w1⟩ := DataW.trod_int Tryd.underlying3 h1
  simp only [List.cons.injEq, and_true] at e0 e1
  subst e0 e1
  exact ⟨x, y, rfl, rfl, rfl, w0, w1⟩
theorem shut_shape {H : Type} {enc : TypeId × Value → H} {W : World} {sp : Nat → Bool} {x y : Int} (w0 : (Lit.int .i64 x).wf = true) (w1 : (Lit.int .i64 y).wf = true) :
    DataW.Trod enc Tryd.prog W 0 sp true 23 (.agg #[.int .i64 x, .int .i64 y]) (.agg [.lit (.int .i64 x), .lit (.int .i64 y)]) [] :=
  Joins.shut_agg2 (y0 := (.lit (.int .i64 x), [])) (y1 := (.lit (.int .i64 y), [])) Tryd.underlying23 (by kernel_rfl) c23 (shut_int Tryd.underlying3 w0) (shut_int Tryd.underlying3 w1)
end Go.Proofs.YtaeimaljegegoaaDoor
