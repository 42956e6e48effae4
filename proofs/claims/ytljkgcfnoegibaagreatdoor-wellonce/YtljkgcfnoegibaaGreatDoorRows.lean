/-
  NARROWER THAN 'FOR EVERY INPUT', by the rows' own cells (each row's printed sentence says how): WellChecks: laid · WellTypes: laid · WellWays: laid · WellOnce: laid.
  DERIVED. THE GIVEN ROWS OF THIS SEAT. 4 by the template 'for every input the law returns true; each argument reads behind the call as it read before'; 0 by the template 'total and deterministic' (their statements: YtljkgcfnoegibaaGreatDoorTotals.lean).
  GIVEN WITH THE SEED: the statements are not yours to turn. If you find one false, say at which input.
  Laid BY PROGRAM, IN A SANDBOX (cutbox-rows.mjs): the forced cells as the released guide's own fill.sh prints them over the translation 34c561f458f1f5bc… (all of the seat's roots in one cut). By AI agents, Wed Nov 11 2026. No macro, syntax, notation, axiom, sorry.
-/
import Derived.Test.YtljkgcfnoegibaaGreatDoorChecked
import GoSem.Claim
import GoSem.ClaimJoined
import GoSem.ClaimMapViews
import Derived.JoinedTies
import Derived.KernelRfl
namespace Go.Proofs.YtljkgcfnoegibaaGreatDoor
/- THE CELL 'sum', in the pinned program and in every row, IS THE sha256 OF THE DUMP (.gsa) THAT YtljkgcfnoegibaaGreatDoorProg.lean LOADS. Nothing in Lean hashes anything: it is a label: what it is worth is what the hold of that sum in a sandbox is worth. -/
noncomputable def Tryz.pinned : Pinned := { name := "ytljkgcfnoegibaagreatdoor", sum := "34c561f458f1f5bcca1b0a8389a4e585aca0f965140d34a6d6135188a2eb44e9", checked := Tryz.checked }
namespace Rows
def none {H : Type} : Left H := { results := [], args := [] }

/- WHAT THE LISTED PACKAGE-LEVEL VARIABLES READ AS WHEN THE CALL BEGINS. Each datum BY PROGRAM (the guide's laid-datum.mjs) off the statement by which the dump's own 'gosem.cut.vars' lays the variable. In a bare row this is a premise. The card (YtljkgcfnoegibaaGreatDoorCards.lean) ties it to the program's text. -/
def laid_turntable_ops_rows {H : Type} : DataW H := .agg [.agg [.lit (.string []), .agg [.lit (.int .i64 0), .lit (.int .i64 0)], .lit (.int .i64 0), .lit (.int .i64 0)], .agg [.lit (.string [99, 111, 110, 115, 116]), .agg [.lit (.int .i64 0), .lit (.int .i64 0)], .lit (.int .i64 1), .lit (.int .i64 32)], .agg [.lit (.string [97, 100, 100]), .agg [.lit (.int .i64 1), .lit (.int .i64 1)], .lit (.int .i64 1), .lit (.int .i64 32)], .agg [.lit (.string [115, 117, 98]), .agg [.lit (.int .i64 1), .lit (.int .i64 1)], .lit (.int .i64 1), .lit (.int .i64 32)], .agg [.lit (.string [109, 117, 108]), .agg [.lit (.int .i64 1), .lit (.int .i64 1)], .lit (.int .i64 1), .lit (.int .i64 32)], .agg [.lit (.string [100, 105, 118]), .agg [.lit (.int .i64 1), .lit (.int .i64 1)], .lit (.int .i64 1), .lit (.int .i64 1)], .agg [.lit (.string [108, 116]), .agg [.lit (.int .i64 1), .lit (.int .i64 1)], .lit (.int .i64 1), .lit (.int .i64 32)], .agg [.lit (.string [101, 113]), .agg [.lit (.int .i64 1), .lit (.int .i64 1)], .lit (.int .i64 1), .lit (.int .i64 32)], .agg [.lit (.string [110, 105, 108]), .agg [.lit (.int .i64 0), .lit (.int .i64 0)], .lit (.int .i64 2), .lit (.int .i64 32)], .agg [.lit (.string [115, 97, 109, 101]), .agg [.lit (.int .i64 2), .lit (.int .i64 2)], .lit (.int .i64 1), .lit (.int .i64 32)], .agg [.lit (.string [110, 101, 119]), .agg [.lit (.int .i64 0), .lit (.int .i64 0)], .lit (.int .i64 2), .lit (.int .i64 0)], .agg [.lit (.string [108, 111, 97, 100, 46, 105]), .agg [.lit (.int .i64 2), .lit (.int .i64 0)], .lit (.int .i64 1), .lit (.int .i64 3)], .agg [.lit (.string [108, 111, 97, 100, 46, 112]), .agg [.lit (.int .i64 2), .lit (.int .i64 0)], .lit (.int .i64 2), .lit (.int .i64 3)], .agg [.lit (.string [115, 116, 111, 114, 101, 46, 105]), .agg [.lit (.int .i64 2), .lit (.int .i64 1)], .lit (.int .i64 0), .lit (.int .i64 5)], .agg [.lit (.string [115, 116, 111, 114, 101, 46, 112]), .agg [.lit (.int .i64 2), .lit (.int .i64 2)], .lit (.int .i64 0), .lit (.int .i64 5)], .agg [.lit (.string [115, 108, 111, 116]), .agg [.lit (.int .i64 2), .lit (.int .i64 0)], .lit (.int .i64 3), .lit (.int .i64 1)], .agg [.lit (.string [103, 101, 116, 46, 105]), .agg [.lit (.int .i64 3), .lit (.int .i64 0)], .lit (.int .i64 1), .lit (.int .i64 3)], .agg [.lit (.string [103, 101, 116, 46, 112]), .agg [.lit (.int .i64 3), .lit (.int .i64 0)], .lit (.int .i64 2), .lit (.int .i64 3)], .agg [.lit (.string [112, 117, 116, 46, 105]), .agg [.lit (.int .i64 3), .lit (.int .i64 1)], .lit (.int .i64 0), .lit (.int .i64 5)], .agg [.lit (.string [112, 117, 116, 46, 112]), .agg [.lit (.int .i64 3), .lit (.int .i64 2)], .lit (.int .i64 0), .lit (.int .i64 5)], .agg [.lit (.string [112, 104, 105]), .agg [.lit (.int .i64 0), .lit (.int .i64 0)], .lit (.int .i64 0), .lit (.int .i64 128)], .agg [.lit (.string [99, 97, 108, 108]), .agg [.lit (.int .i64 0), .lit (.int .i64 0)], .lit (.int .i64 0), .lit (.int .i64 199)], .agg [.lit (.string [111, 117, 116]), .agg [.lit (.int .i64 1), .lit (.int .i64 0)], .lit (.int .i64 0), .lit (.int .i64 16)], .agg [.lit (.string [112, 111, 108, 108]), .agg [.lit (.int .i64 0), .lit (.int .i64 0)], .lit (.int .i64 0), .lit (.int .i64 80)], .agg [.lit (.string [114, 101, 108, 111, 99]), .agg [.lit (.int .i64 0), .lit (.int .i64 0)], .lit (.int .i64 0), .lit (.int .i64 128)], .agg [.lit (.string [109, 97, 114, 107]), .agg [.lit (.int .i64 2), .lit (.int .i64 0)], .lit (.int .i64 0), .lit (.int .i64 16)], .agg [.lit (.string [98, 114]), .agg [.lit (.int .i64 0), .lit (.int .i64 0)], .lit (.int .i64 0), .lit (.int .i64 8)], .agg [.lit (.string [105, 102]), .agg [.lit (.int .i64 1), .lit (.int .i64 0)], .lit (.int .i64 0), .lit (.int .i64 8)], .agg [.lit (.string [114, 101, 116]), .agg [.lit (.int .i64 0), .lit (.int .i64 0)], .lit (.int .i64 0), .lit (.int .i64 8)], .agg [.lit (.string [102, 97, 105, 108]), .agg [.lit (.int .i64 0), .lit (.int .i64 0)], .lit (.int .i64 0), .lit (.int .i64 9)]]
def laid_turntable_shape_slotBits {H : Type} : DataW H := .agg [.lit (.int .i64 1), .lit (.int .i64 2), .lit (.int .i64 4), .lit (.int .i64 8), .lit (.int .i64 16), .lit (.int .i64 32), .lit (.int .i64 64), .lit (.int .i64 128), .lit (.int .i64 256), .lit (.int .i64 512), .lit (.int .i64 1024), .lit (.int .i64 2048), .lit (.int .i64 4096), .lit (.int .i64 8192), .lit (.int .i64 16384), .lit (.int .i64 32768)]

/-- 'turntablelaw11.WellChecks': WHATEVER THE INPUT: true; the input reads as it did. -/
def wellChecksSpec : ChangeSpec := { name := "wellChecks", fn := fun _ => fun
  | [d] => { results := [.lit (.bool true)], args := [d] }
  | _ => none }
def wellChecksRow : OpenClaim := { program := "ytljkgcfnoegibaagreatdoor", sum := "34c561f458f1f5bcca1b0a8389a4e585aca0f965140d34a6d6135188a2eb44e9", func := "turntable/turntablelaw11.WellChecks", spec := "wellChecks", unfollowed := true, recurses := true, named := ["turntable/ops.rows", "turntable/shape.slotBits"], apart := false, laid := [("turntable/ops.rows", laid_turntable_ops_rows), ("turntable/shape.slotBits", laid_turntable_shape_slotBits)] }
def WellChecksSaid : Prop := wellChecksRow.holds Tryz.pinned (OpenSpec.ofChange wellChecksSpec)

/-- ITS FALSE NEIGHBOUR: 'it returns false'. Refute it at one input. -/
def wellChecksWrong : ChangeSpec := { name := "wellChecks", fn := fun _ => fun
  | [d] => { results := [.lit (.bool false)], args := [d] }
  | _ => none }
def WellChecksWrongFalsely : Prop := wellChecksRow.holds Tryz.pinned (OpenSpec.ofChange wellChecksWrong)

/-- 'turntablelaw11.WellTypes': WHATEVER THE INPUT: true; the input reads as it did. -/
def wellTypesSpec : ChangeSpec := { name := "wellTypes", fn := fun _ => fun
  | [d1, d2, d3] => { results := [.lit (.bool true)], args := [d1, d2, d3] }
  | _ => none }
def wellTypesRow : OpenClaim := { program := "ytljkgcfnoegibaagreatdoor", sum := "34c561f458f1f5bcca1b0a8389a4e585aca0f965140d34a6d6135188a2eb44e9", func := "turntable/turntablelaw11.WellTypes", spec := "wellTypes", unfollowed := true, recurses := true, named := ["turntable/ops.rows", "turntable/shape.slotBits"], apart := false, laid := [("turntable/ops.rows", laid_turntable_ops_rows), ("turntable/shape.slotBits", laid_turntable_shape_slotBits)] }
def WellTypesSaid : Prop := wellTypesRow.holds Tryz.pinned (OpenSpec.ofChange wellTypesSpec)

/-- ITS FALSE NEIGHBOUR: 'it returns false'. Refute it at one input. -/
def wellTypesWrong : ChangeSpec := { name := "wellTypes", fn := fun _ => fun
  | [d1, d2, d3] => { results := [.lit (.bool false)], args := [d1, d2, d3] }
  | _ => none }
def WellTypesWrongFalsely : Prop := wellTypesRow.holds Tryz.pinned (OpenSpec.ofChange wellTypesWrong)

/-- 'turntablelaw11.WellWays': WHATEVER THE INPUT: true; the input reads as it did. -/
def wellWaysSpec : ChangeSpec := { name := "wellWays", fn := fun _ => fun
  | [d1, d2, d3] => { results := [.lit (.bool true)], args := [d1, d2, d3] }
  | _ => none }
def wellWaysRow : OpenClaim := { program := "ytljkgcfnoegibaagreatdoor", sum := "34c561f458f1f5bcca1b0a8389a4e585aca0f965140d34a6d6135188a2eb44e9", func := "turntable/turntablelaw11.WellWays", spec := "wellWays", unfollowed := true, recurses := true, named := ["turntable/ops.rows", "turntable/shape.slotBits"], apart := false, laid := [("turntable/ops.rows", laid_turntable_ops_rows), ("turntable/shape.slotBits", laid_turntable_shape_slotBits)] }
def WellWaysSaid : Prop := wellWaysRow.holds Tryz.pinned (OpenSpec.ofChange wellWaysSpec)

/-- ITS FALSE NEIGHBOUR: 'it returns false'. Refute it at one input. -/
def wellWaysWrong : ChangeSpec := { name := "wellWays", fn := fun _ => fun
  | [d1, d2, d3] => { results := [.lit (.bool false)], args := [d1, d2, d3] }
  | _ => none }
def WellWaysWrongFalsely : Prop := wellWaysRow.holds Tryz.pinned (OpenSpec.ofChange wellWaysWrong)

/-- 'turntablelaw11.WellOnce': WHATEVER THE INPUT: true; the input reads as it did. -/
def wellOnceSpec : ChangeSpec := { name := "wellOnce", fn := fun _ => fun
  | [d] => { results := [.lit (.bool true)], args := [d] }
  | _ => none }
def wellOnceRow : OpenClaim := { program := "ytljkgcfnoegibaagreatdoor", sum := "34c561f458f1f5bcca1b0a8389a4e585aca0f965140d34a6d6135188a2eb44e9", func := "turntable/turntablelaw11.WellOnce", spec := "wellOnce", unfollowed := true, recurses := true, named := ["turntable/ops.rows", "turntable/shape.slotBits"], apart := false, laid := [("turntable/ops.rows", laid_turntable_ops_rows), ("turntable/shape.slotBits", laid_turntable_shape_slotBits)] }
def WellOnceSaid : Prop := wellOnceRow.holds Tryz.pinned (OpenSpec.ofChange wellOnceSpec)

/-- ITS FALSE NEIGHBOUR: 'it returns false'. Refute it at one input. -/
def wellOnceWrong : ChangeSpec := { name := "wellOnce", fn := fun _ => fun
  | [d] => { results := [.lit (.bool false)], args := [d] }
  | _ => none }
def WellOnceWrongFalsely : Prop := wellOnceRow.holds Tryz.pinned (OpenSpec.ofChange wellOnceWrong)

/- THE SECOND FORM. 'bulk': how many values and letters a reading holds, each counted each time it is reached (what is shared counts as often as it is met; a slice's spare places count too). A statement '..UptoSaid' is the law's where the arguments, and the package variables that the reading takes, are together of bulk at most 1048576: NARROWER than '..Said'. Prove '..Said' where nothing that the law and all that it calls make is longer than what came in: it says more and counts as full. Else prove '..UptoSaid'. A law counts once. -/
mutual
def uptoBulk {H : Type} : DataW H → Nat
  | .lit (.string bytes) => bytes.length + 1
  | .lit _ => 1
  | .nil => 1
  | .ptr d => uptoBulk d + 1
  | .slice elems spare => uptoBulkAll elems + uptoBulkAll spare + 1
  | .agg parts => uptoBulkAll parts + 1
  | .iface _ d => uptoBulk d + 1
  | .map entries => uptoBulkEntries entries + 1
  | .held _ => 1
def uptoBulkAll {H : Type} : List (DataW H) → Nat
  | [] => 0
  | d :: r => uptoBulk d + uptoBulkAll r
def uptoBulkEntries {H : Type} : List (Lit × DataW H) → Nat
  | [] => 0
  | x :: r => uptoBulkEntry x + uptoBulkEntries r
def uptoBulkEntry {H : Type} : Lit × DataW H → Nat
  | (.string bytes, d) => bytes.length + uptoBulk d + 1
  | (_, d) => uptoBulk d + 1
 end
def uptoSmall : (H : Type) → List (DataW H) → Bool := fun _ ds => decide (uptoBulkAll ds ≤ 1048576)
def OpenSpec.upto (s : _root_.Go.ChangeSpec) : _root_.Go.OpenSpec := { _root_.Go.OpenSpec.ofChange s with cond := some uptoSmall }

/-- 'turntablelaw11.WellChecks', WHERE WHAT IT READS IS OF BULK AT MOST 1048576: true; the input reads as it did. -/
def wellChecksUptoRow : OpenClaim := { program := "ytljkgcfnoegibaagreatdoor", sum := "34c561f458f1f5bcca1b0a8389a4e585aca0f965140d34a6d6135188a2eb44e9", func := "turntable/turntablelaw11.WellChecks", spec := "wellChecks", unfollowed := true, recurses := true, named := ["turntable/ops.rows", "turntable/shape.slotBits"], apart := false, laid := [("turntable/ops.rows", laid_turntable_ops_rows), ("turntable/shape.slotBits", laid_turntable_shape_slotBits)], narrowed := true }
def WellChecksUptoSaid : Prop := wellChecksUptoRow.holds Tryz.pinned (OpenSpec.upto wellChecksSpec)

/-- 'turntablelaw11.WellTypes', WHERE WHAT IT READS IS OF BULK AT MOST 1048576: true; the input reads as it did. -/
def wellTypesUptoRow : OpenClaim := { program := "ytljkgcfnoegibaagreatdoor", sum := "34c561f458f1f5bcca1b0a8389a4e585aca0f965140d34a6d6135188a2eb44e9", func := "turntable/turntablelaw11.WellTypes", spec := "wellTypes", unfollowed := true, recurses := true, named := ["turntable/ops.rows", "turntable/shape.slotBits"], apart := false, laid := [("turntable/ops.rows", laid_turntable_ops_rows), ("turntable/shape.slotBits", laid_turntable_shape_slotBits)], narrowed := true }
def WellTypesUptoSaid : Prop := wellTypesUptoRow.holds Tryz.pinned (OpenSpec.upto wellTypesSpec)

/-- 'turntablelaw11.WellWays', WHERE WHAT IT READS IS OF BULK AT MOST 1048576: true; the input reads as it did. -/
def wellWaysUptoRow : OpenClaim := { program := "ytljkgcfnoegibaagreatdoor", sum := "34c561f458f1f5bcca1b0a8389a4e585aca0f965140d34a6d6135188a2eb44e9", func := "turntable/turntablelaw11.WellWays", spec := "wellWays", unfollowed := true, recurses := true, named := ["turntable/ops.rows", "turntable/shape.slotBits"], apart := false, laid := [("turntable/ops.rows", laid_turntable_ops_rows), ("turntable/shape.slotBits", laid_turntable_shape_slotBits)], narrowed := true }
def WellWaysUptoSaid : Prop := wellWaysUptoRow.holds Tryz.pinned (OpenSpec.upto wellWaysSpec)

/-- 'turntablelaw11.WellOnce', WHERE WHAT IT READS IS OF BULK AT MOST 1048576: true; the input reads as it did. -/
def wellOnceUptoRow : OpenClaim := { program := "ytljkgcfnoegibaagreatdoor", sum := "34c561f458f1f5bcca1b0a8389a4e585aca0f965140d34a6d6135188a2eb44e9", func := "turntable/turntablelaw11.WellOnce", spec := "wellOnce", unfollowed := true, recurses := true, named := ["turntable/ops.rows", "turntable/shape.slotBits"], apart := false, laid := [("turntable/ops.rows", laid_turntable_ops_rows), ("turntable/shape.slotBits", laid_turntable_shape_slotBits)], narrowed := true }
def WellOnceUptoSaid : Prop := wellOnceUptoRow.holds Tryz.pinned (OpenSpec.upto wellOnceSpec)

end Rows
end Go.Proofs.YtljkgcfnoegibaaGreatDoor
