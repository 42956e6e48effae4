/- What each row of this seat is given: where the table of bits reads as the program's text lays it, each bit is two to its number; the heap that the program's own start leaves is one such. -/
import Derived.Test.YthmeafnofckoiaaDoorRows
import Derived.Test.YthmeafnofckoiaaDoorWalksD
import Derived.ProofKit
import Derived.LaidMore
import Derived.OpenShut
import Derived.Stop.Joined
import Derived.ShutString
import Derived.ChangeOld
import Derived.Below
import Derived.Lib.LaidTab
import Derived.Lib.SmallJoins
namespace Go.Proofs.YthmeafnofckoiaaDoor
open Go.ChangeShapes Go.WideShapes Go.ChangeAt Go.RowKit

theorem laidOut : laidOutB Tryd.prog = true := by kernel_rfl
theorem own : ownKnob Tryd.prog.godebug = none := by kernel_rfl
def laid1 : List (String × DataW Unit) := [("turntable/shape.slotBits", Rows.laid_turntable_shape_slotBits)]
def bitsTab : List Int := [1, 2, 4, 8, 16, 32, 64, 128, 256, 512, 1024, 2048, 4096, 8192, 16384, 32768]
theorem bitsNamed : Tryd.prog.globalNamed "turntable/shape.slotBits" = some 0 := by kernel_rfl
theorem bitsType : (Tryd.prog.globals[0]?).map (·.type) = some 77 := by kernel_rfl
theorem c3 : Tryd.prog.cellsOf 3 = 1 := by kernel_rfl
theorem c23 : Tryd.prog.cellsOf 31 = 2 := by kernel_rfl
theorem c36 : Tryd.prog.cellsOf 77 = 16 := by kernel_rfl
theorem bits_pw : ∀ k, k < 16 → bitsTab.getD k 0 = pw k := by decide

theorem tab_of_laid {W : World} (h : laidMetH Tryd.prog laid1 W) : Tab W := by
  rw [MakeChecks.laidMetH_plain _ _ _ (by kernel_rfl)] at h
  have ht : Lib.TabIs Tryd.prog W "turntable/shape.slotBits" .i64 bitsTab :=
    Lib.tabIs_of_head bitsNamed bitsType Tryd.underlying77 Tryd.underlying3 c3 c36 (rest := []) h
  have hc : ∀ k, k < 16 → W.cell? ⟨0, k, none⟩ = some (.int .i64 (pw k)) := fun k hk => by
    rw [← bits_pw k hk]; exact ht.cell bitsNamed k hk
  exact ⟨World.block_lt_of_cell? W _ (hc 0 (by omega)), hc⟩

theorem door_met (os : Os) (args : Array Value) : laidMetH Tryd.prog laid1 ((World.doorLaid Tryd.prog 400 os).forCall (fun _ _ => 0) ⟨#[], args, []⟩).memory :=
  laidMetH_of_parts3 (fuel := 8) (laidMet_of_run' 8 (by kernel_rfl) (by kernel_rfl)) (by kernel_rfl) (by kernel_rfl)

end Go.Proofs.YthmeafnofckoiaaDoor
