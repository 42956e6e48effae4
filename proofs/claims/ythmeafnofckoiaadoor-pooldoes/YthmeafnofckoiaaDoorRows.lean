/-
  NARROWER THAN 'FOR EVERY INPUT', by the rows' own cells (each row's printed sentence says how): PoolDoes: laid · PoolKeeps: laid · PoolReaches: laid.
  DERIVED. THE GIVEN ROWS OF THIS SEAT. 3 by the template 'for every input the law returns true; each argument reads behind the call as it read before'; 0 by the template 'total and deterministic' (their statements: YthmeafnofckoiaaDoorTotals.lean).
  GIVEN WITH THE SEED: the statements are not yours to turn. If you find one false, say at which input.
  Laid BY PROGRAM, IN A SANDBOX (cutbox-rows.mjs): the forced cells as the released guide's own fill.sh prints them over the translation f4067be5493a2462… (all of the seat's roots in one cut). By AI agents, Wed Nov 11 2026. No macro, syntax, notation, axiom, sorry.
-/
import Derived.Test.YthmeafnofckoiaaDoorChecked
import GoSem.Claim
import GoSem.ClaimJoined
import GoSem.ClaimMapViews
import Derived.JoinedTies
import Derived.KernelRfl
namespace Go.Proofs.YthmeafnofckoiaaDoor
/- THE CELL 'sum', in the pinned program and in every row, IS THE sha256 OF THE DUMP (.gsa) THAT YthmeafnofckoiaaDoorProg.lean LOADS. Nothing in Lean hashes anything: it is a label: what it is worth is what the hold of that sum in a sandbox is worth. -/
noncomputable def Tryd.pinned : Pinned := { name := "ythmeafnofckoiaadoor", sum := "f4067be5493a246297474668bdc4145343d8289affad543eb9cec942844489c1", checked := Tryd.checked }
namespace Rows
def none {H : Type} : Left H := { results := [], args := [] }

/- WHAT THE LISTED PACKAGE-LEVEL VARIABLES READ AS WHEN THE CALL BEGINS. Each datum BY PROGRAM (the guide's laid-datum.mjs) off the statement by which the dump's own 'gosem.cut.vars' lays the variable. In a bare row this is a premise. The card (YthmeafnofckoiaaDoorCards.lean) ties it to the program's text. -/
def laid_turntable_shape_slotBits {H : Type} : DataW H := .agg [.lit (.int .i64 1), .lit (.int .i64 2), .lit (.int .i64 4), .lit (.int .i64 8), .lit (.int .i64 16), .lit (.int .i64 32), .lit (.int .i64 64), .lit (.int .i64 128), .lit (.int .i64 256), .lit (.int .i64 512), .lit (.int .i64 1024), .lit (.int .i64 2048), .lit (.int .i64 4096), .lit (.int .i64 8192), .lit (.int .i64 16384), .lit (.int .i64 32768)]

/-- 'turntablelaw12.PoolDoes': WHATEVER THE INPUT: true; the input reads as it did. -/
def poolDoesSpec : ChangeSpec := { name := "poolDoes", fn := fun _ => fun
  | [d1, d2, d3] => { results := [.lit (.bool true)], args := [d1, d2, d3] }
  | _ => none }
def poolDoesRow : OpenClaim := { program := "ythmeafnofckoiaadoor", sum := "f4067be5493a246297474668bdc4145343d8289affad543eb9cec942844489c1", func := "turntable/turntablelaw12.PoolDoes", spec := "poolDoes", unfollowed := true, recurses := true, named := ["turntable/shape.slotBits"], apart := false, laid := [("turntable/shape.slotBits", laid_turntable_shape_slotBits)] }
def PoolDoesSaid : Prop := poolDoesRow.holds Tryd.pinned (OpenSpec.ofChange poolDoesSpec)

/-- ITS FALSE NEIGHBOUR: 'it returns false'. Refute it at one input. -/
def poolDoesWrong : ChangeSpec := { name := "poolDoes", fn := fun _ => fun
  | [d1, d2, d3] => { results := [.lit (.bool false)], args := [d1, d2, d3] }
  | _ => none }
def PoolDoesWrongFalsely : Prop := poolDoesRow.holds Tryd.pinned (OpenSpec.ofChange poolDoesWrong)

/-- 'turntablelaw12.PoolKeeps': WHATEVER THE INPUT: true; the input reads as it did. -/
def poolKeepsSpec : ChangeSpec := { name := "poolKeeps", fn := fun _ => fun
  | [d1, d2, d3, d4] => { results := [.lit (.bool true)], args := [d1, d2, d3, d4] }
  | _ => none }
def poolKeepsRow : OpenClaim := { program := "ythmeafnofckoiaadoor", sum := "f4067be5493a246297474668bdc4145343d8289affad543eb9cec942844489c1", func := "turntable/turntablelaw12.PoolKeeps", spec := "poolKeeps", unfollowed := true, recurses := true, named := ["turntable/shape.slotBits"], apart := false, laid := [("turntable/shape.slotBits", laid_turntable_shape_slotBits)] }
def PoolKeepsSaid : Prop := poolKeepsRow.holds Tryd.pinned (OpenSpec.ofChange poolKeepsSpec)

/-- ITS FALSE NEIGHBOUR: 'it returns false'. Refute it at one input. -/
def poolKeepsWrong : ChangeSpec := { name := "poolKeeps", fn := fun _ => fun
  | [d1, d2, d3, d4] => { results := [.lit (.bool false)], args := [d1, d2, d3, d4] }
  | _ => none }
def PoolKeepsWrongFalsely : Prop := poolKeepsRow.holds Tryd.pinned (OpenSpec.ofChange poolKeepsWrong)

/-- 'turntablelaw12.PoolReaches': WHATEVER THE INPUT: true; the input reads as it did. -/
def poolReachesSpec : ChangeSpec := { name := "poolReaches", fn := fun _ => fun
  | [d1, d2] => { results := [.lit (.bool true)], args := [d1, d2] }
  | _ => none }
def poolReachesRow : OpenClaim := { program := "ythmeafnofckoiaadoor", sum := "f4067be5493a246297474668bdc4145343d8289affad543eb9cec942844489c1", func := "turntable/turntablelaw12.PoolReaches", spec := "poolReaches", unfollowed := true, recurses := true, named := ["turntable/shape.slotBits"], apart := false, laid := [("turntable/shape.slotBits", laid_turntable_shape_slotBits)] }
def PoolReachesSaid : Prop := poolReachesRow.holds Tryd.pinned (OpenSpec.ofChange poolReachesSpec)

/-- ITS FALSE NEIGHBOUR: 'it returns false'. Refute it at one input. -/
def poolReachesWrong : ChangeSpec := { name := "poolReaches", fn := fun _ => fun
  | [d1, d2] => { results := [.lit (.bool false)], args := [d1, d2] }
  | _ => none }
def PoolReachesWrongFalsely : Prop := poolReachesRow.holds Tryd.pinned (OpenSpec.ofChange poolReachesWrong)

/- THE SECOND FORM. 'bulk': how many values and letters a reading holds, each counted each time it is reached (what is shared counts as often as it is met; a slice's spare places count too). A statement '..UptoSaid' is the law's where the arguments, and the package variables that the reading takes, are together of bulk at most 1048576: NARROWER than '..Said'. Prove '..Said' where nothing that the law and all that it calls make is longer than what came in: it says more and counts as full. Else prove '..UptoSaid'. A law counts once. -/
mutual
def uptoBulk {H : Type} : DataW H → Nat
  | .lit (.string bytes) => bytes.length + 1
  | .lit _ => 1
  | .nil => 1
  | .ptr d => uptoBulk d + 1
  | .slice elems spare => uptoBulkAll elems + uptoBulkAll spare + 1
  | .agg parts => uptoBulkAll parts + 1
  | .iface _ d => uptoBulk d + 1
  | .map entries => uptoBulkEntries entries + 1
  | .held _ => 1
def uptoBulkAll {H : Type} : List (DataW H) → Nat
  | [] => 0
  | d :: r => uptoBulk d + uptoBulkAll r
def uptoBulkEntries {H : Type} : List (Lit × DataW H) → Nat
  | [] => 0
  | x :: r => uptoBulkEntry x + uptoBulkEntries r
def uptoBulkEntry {H : Type} : Lit × DataW H → Nat
  | (.string bytes, d) => bytes.length + uptoBulk d + 1
  | (_, d) => uptoBulk d + 1
 end
def uptoSmall : (H : Type) → List (DataW H) → Bool := fun _ ds => decide (uptoBulkAll ds ≤ 1048576)
def OpenSpec.upto (s : _root_.Go.ChangeSpec) : _root_.Go.OpenSpec := { _root_.Go.OpenSpec.ofChange s with cond := some uptoSmall }

/-- 'turntablelaw12.PoolDoes', WHERE WHAT IT READS IS OF BULK AT MOST 1048576: true; the input reads as it did. -/
def poolDoesUptoRow : OpenClaim := { program := "ythmeafnofckoiaadoor", sum := "f4067be5493a246297474668bdc4145343d8289affad543eb9cec942844489c1", func := "turntable/turntablelaw12.PoolDoes", spec := "poolDoes", unfollowed := true, recurses := true, named := ["turntable/shape.slotBits"], apart := false, laid := [("turntable/shape.slotBits", laid_turntable_shape_slotBits)], narrowed := true }
def PoolDoesUptoSaid : Prop := poolDoesUptoRow.holds Tryd.pinned (OpenSpec.upto poolDoesSpec)

/-- 'turntablelaw12.PoolKeeps', WHERE WHAT IT READS IS OF BULK AT MOST 1048576: true; the input reads as it did. -/
def poolKeepsUptoRow : OpenClaim := { program := "ythmeafnofckoiaadoor", sum := "f4067be5493a246297474668bdc4145343d8289affad543eb9cec942844489c1", func := "turntable/turntablelaw12.PoolKeeps", spec := "poolKeeps", unfollowed := true, recurses := true, named := ["turntable/shape.slotBits"], apart := false, laid := [("turntable/shape.slotBits", laid_turntable_shape_slotBits)], narrowed := true }
def PoolKeepsUptoSaid : Prop := poolKeepsUptoRow.holds Tryd.pinned (OpenSpec.upto poolKeepsSpec)

/-- 'turntablelaw12.PoolReaches', WHERE WHAT IT READS IS OF BULK AT MOST 1048576: true; the input reads as it did. -/
def poolReachesUptoRow : OpenClaim := { program := "ythmeafnofckoiaadoor", sum := "f4067be5493a246297474668bdc4145343d8289affad543eb9cec942844489c1", func := "turntable/turntablelaw12.PoolReaches", spec := "poolReaches", unfollowed := true, recurses := true, named := ["turntable/shape.slotBits"], apart := false, laid := [("turntable/shape.slotBits", laid_turntable_shape_slotBits)], narrowed := true }
def PoolReachesUptoSaid : Prop := poolReachesUptoRow.holds Tryd.pinned (OpenSpec.upto poolReachesSpec)

end Rows
end Go.Proofs.YthmeafnofckoiaaDoor
