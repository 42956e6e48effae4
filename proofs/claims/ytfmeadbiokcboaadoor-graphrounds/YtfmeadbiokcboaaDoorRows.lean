/-
  NARROWER THAN 'FOR EVERY INPUT', by the rows' own cells (each row's printed sentence says how): GraphShapes: laid · GraphFollows: laid · GraphReaches: laid · GraphRounds: laid.
  DERIVED. THE GIVEN ROWS OF THIS SEAT. 4 by the template 'for every input the law returns true; each argument reads behind the call as it read before'; 0 by the template 'total and deterministic' (their statements: YtfmeadbiokcboaaDoorTotals.lean).
  GIVEN WITH THE SEED: the statements are not yours to turn. If you find one false, say at which input.
  Laid BY PROGRAM, IN A SANDBOX (cutbox-rows.mjs): the forced cells as the released guide's own fill.sh prints them over the translation a283c488d9c8b7c0… (all of the seat's roots in one cut). By AI agents, Wed Nov 11 2026. No macro, syntax, notation, axiom, sorry.
-/
import Derived.Test.YtfmeadbiokcboaaDoorChecked
import GoSem.Claim
import GoSem.ClaimJoined
import GoSem.ClaimMapViews
import Derived.JoinedTies
import Derived.KernelRfl
namespace Go.Proofs.YtfmeadbiokcboaaDoor
/- THE CELL 'sum', in the pinned program and in every row, IS THE sha256 OF THE DUMP (.gsa) THAT YtfmeadbiokcboaaDoorProg.lean LOADS. Nothing in Lean hashes anything: it is a label: what it is worth is what the hold of that sum in a sandbox is worth. -/
noncomputable def Tryd.pinned : Pinned := { name := "ytfmeadbiokcboaadoor", sum := "a283c488d9c8b7c0420abc4053cb96546e641a02799afdd401ab828d84e96a2e", checked := Tryd.checked }
namespace Rows
def none {H : Type} : Left H := { results := [], args := [] }

/- WHAT THE LISTED PACKAGE-LEVEL VARIABLES READ AS WHEN THE CALL BEGINS. Each datum BY PROGRAM (the guide's laid-datum.mjs) off the statement by which the dump's own 'gosem.cut.vars' lays the variable. In a bare row this is a premise. The card (YtfmeadbiokcboaaDoorCards.lean) ties it to the program's text. -/
def laid_turntable_ops_rows {H : Type} : DataW H := .agg [.agg [.lit (.string []), .agg [.lit (.int .i64 0), .lit (.int .i64 0)], .lit (.int .i64 0), .lit (.int .i64 0)], .agg [.lit (.string [99, 111, 110, 115, 116]), .agg [.lit (.int .i64 0), .lit (.int .i64 0)], .lit (.int .i64 1), .lit (.int .i64 32)], .agg [.lit (.string [97, 100, 100]), .agg [.lit (.int .i64 1), .lit (.int .i64 1)], .lit (.int .i64 1), .lit (.int .i64 32)], .agg [.lit (.string [115, 117, 98]), .agg [.lit (.int .i64 1), .lit (.int .i64 1)], .lit (.int .i64 1), .lit (.int .i64 32)], .agg [.lit (.string [109, 117, 108]), .agg [.lit (.int .i64 1), .lit (.int .i64 1)], .lit (.int .i64 1), .lit (.int .i64 32)], .agg [.lit (.string [100, 105, 118]), .agg [.lit (.int .i64 1), .lit (.int .i64 1)], .lit (.int .i64 1), .lit (.int .i64 1)], .agg [.lit (.string [108, 116]), .agg [.lit (.int .i64 1), .lit (.int .i64 1)], .lit (.int .i64 1), .lit (.int .i64 32)], .agg [.lit (.string [101, 113]), .agg [.lit (.int .i64 1), .lit (.int .i64 1)], .lit (.int .i64 1), .lit (.int .i64 32)], .agg [.lit (.string [110, 105, 108]), .agg [.lit (.int .i64 0), .lit (.int .i64 0)], .lit (.int .i64 2), .lit (.int .i64 32)], .agg [.lit (.string [115, 97, 109, 101]), .agg [.lit (.int .i64 2), .lit (.int .i64 2)], .lit (.int .i64 1), .lit (.int .i64 32)], .agg [.lit (.string [110, 101, 119]), .agg [.lit (.int .i64 0), .lit (.int .i64 0)], .lit (.int .i64 2), .lit (.int .i64 0)], .agg [.lit (.string [108, 111, 97, 100, 46, 105]), .agg [.lit (.int .i64 2), .lit (.int .i64 0)], .lit (.int .i64 1), .lit (.int .i64 3)], .agg [.lit (.string [108, 111, 97, 100, 46, 112]), .agg [.lit (.int .i64 2), .lit (.int .i64 0)], .lit (.int .i64 2), .lit (.int .i64 3)], .agg [.lit (.string [115, 116, 111, 114, 101, 46, 105]), .agg [.lit (.int .i64 2), .lit (.int .i64 1)], .lit (.int .i64 0), .lit (.int .i64 5)], .agg [.lit (.string [115, 116, 111, 114, 101, 46, 112]), .agg [.lit (.int .i64 2), .lit (.int .i64 2)], .lit (.int .i64 0), .lit (.int .i64 5)], .agg [.lit (.string [115, 108, 111, 116]), .agg [.lit (.int .i64 2), .lit (.int .i64 0)], .lit (.int .i64 3), .lit (.int .i64 1)], .agg [.lit (.string [103, 101, 116, 46, 105]), .agg [.lit (.int .i64 3), .lit (.int .i64 0)], .lit (.int .i64 1), .lit (.int .i64 3)], .agg [.lit (.string [103, 101, 116, 46, 112]), .agg [.lit (.int .i64 3), .lit (.int .i64 0)], .lit (.int .i64 2), .lit (.int .i64 3)], .agg [.lit (.string [112, 117, 116, 46, 105]), .agg [.lit (.int .i64 3), .lit (.int .i64 1)], .lit (.int .i64 0), .lit (.int .i64 5)], .agg [.lit (.string [112, 117, 116, 46, 112]), .agg [.lit (.int .i64 3), .lit (.int .i64 2)], .lit (.int .i64 0), .lit (.int .i64 5)], .agg [.lit (.string [112, 104, 105]), .agg [.lit (.int .i64 0), .lit (.int .i64 0)], .lit (.int .i64 0), .lit (.int .i64 128)], .agg [.lit (.string [99, 97, 108, 108]), .agg [.lit (.int .i64 0), .lit (.int .i64 0)], .lit (.int .i64 0), .lit (.int .i64 199)], .agg [.lit (.string [111, 117, 116]), .agg [.lit (.int .i64 1), .lit (.int .i64 0)], .lit (.int .i64 0), .lit (.int .i64 16)], .agg [.lit (.string [112, 111, 108, 108]), .agg [.lit (.int .i64 0), .lit (.int .i64 0)], .lit (.int .i64 0), .lit (.int .i64 80)], .agg [.lit (.string [114, 101, 108, 111, 99]), .agg [.lit (.int .i64 0), .lit (.int .i64 0)], .lit (.int .i64 0), .lit (.int .i64 128)], .agg [.lit (.string [109, 97, 114, 107]), .agg [.lit (.int .i64 2), .lit (.int .i64 0)], .lit (.int .i64 0), .lit (.int .i64 16)], .agg [.lit (.string [98, 114]), .agg [.lit (.int .i64 0), .lit (.int .i64 0)], .lit (.int .i64 0), .lit (.int .i64 8)], .agg [.lit (.string [105, 102]), .agg [.lit (.int .i64 1), .lit (.int .i64 0)], .lit (.int .i64 0), .lit (.int .i64 8)], .agg [.lit (.string [114, 101, 116]), .agg [.lit (.int .i64 0), .lit (.int .i64 0)], .lit (.int .i64 0), .lit (.int .i64 8)], .agg [.lit (.string [102, 97, 105, 108]), .agg [.lit (.int .i64 0), .lit (.int .i64 0)], .lit (.int .i64 0), .lit (.int .i64 9)]]

/-- 'turntablelaw08.GraphShapes': WHATEVER THE INPUT: true; the input reads as it did. -/
def graphShapesSpec : ChangeSpec := { name := "graphShapes", fn := fun _ => fun
  | [d] => { results := [.lit (.bool true)], args := [d] }
  | _ => none }
def graphShapesRow : OpenClaim := { program := "ytfmeadbiokcboaadoor", sum := "a283c488d9c8b7c0420abc4053cb96546e641a02799afdd401ab828d84e96a2e", func := "turntable/turntablelaw08.GraphShapes", spec := "graphShapes", unfollowed := true, recurses := true, named := ["turntable/ops.rows"], apart := false, laid := [("turntable/ops.rows", laid_turntable_ops_rows)] }
def GraphShapesSaid : Prop := graphShapesRow.holds Tryd.pinned (OpenSpec.ofChange graphShapesSpec)

/-- ITS FALSE NEIGHBOUR: 'it returns false'. Refute it at one input. -/
def graphShapesWrong : ChangeSpec := { name := "graphShapes", fn := fun _ => fun
  | [d] => { results := [.lit (.bool false)], args := [d] }
  | _ => none }
def GraphShapesWrongFalsely : Prop := graphShapesRow.holds Tryd.pinned (OpenSpec.ofChange graphShapesWrong)

/-- 'turntablelaw08.GraphFollows': WHATEVER THE INPUT: true; the input reads as it did. -/
def graphFollowsSpec : ChangeSpec := { name := "graphFollows", fn := fun _ => fun
  | [d] => { results := [.lit (.bool true)], args := [d] }
  | _ => none }
def graphFollowsRow : OpenClaim := { program := "ytfmeadbiokcboaadoor", sum := "a283c488d9c8b7c0420abc4053cb96546e641a02799afdd401ab828d84e96a2e", func := "turntable/turntablelaw08.GraphFollows", spec := "graphFollows", unfollowed := true, recurses := true, named := ["turntable/ops.rows"], apart := false, laid := [("turntable/ops.rows", laid_turntable_ops_rows)] }
def GraphFollowsSaid : Prop := graphFollowsRow.holds Tryd.pinned (OpenSpec.ofChange graphFollowsSpec)

/-- ITS FALSE NEIGHBOUR: 'it returns false'. Refute it at one input. -/
def graphFollowsWrong : ChangeSpec := { name := "graphFollows", fn := fun _ => fun
  | [d] => { results := [.lit (.bool false)], args := [d] }
  | _ => none }
def GraphFollowsWrongFalsely : Prop := graphFollowsRow.holds Tryd.pinned (OpenSpec.ofChange graphFollowsWrong)

/-- 'turntablelaw08.GraphReaches': WHATEVER THE INPUT: true; the input reads as it did. -/
def graphReachesSpec : ChangeSpec := { name := "graphReaches", fn := fun _ => fun
  | [d1, d2, d3] => { results := [.lit (.bool true)], args := [d1, d2, d3] }
  | _ => none }
def graphReachesRow : OpenClaim := { program := "ytfmeadbiokcboaadoor", sum := "a283c488d9c8b7c0420abc4053cb96546e641a02799afdd401ab828d84e96a2e", func := "turntable/turntablelaw08.GraphReaches", spec := "graphReaches", unfollowed := true, recurses := true, named := ["turntable/ops.rows"], apart := false, laid := [("turntable/ops.rows", laid_turntable_ops_rows)] }
def GraphReachesSaid : Prop := graphReachesRow.holds Tryd.pinned (OpenSpec.ofChange graphReachesSpec)

/-- ITS FALSE NEIGHBOUR: 'it returns false'. Refute it at one input. -/
def graphReachesWrong : ChangeSpec := { name := "graphReaches", fn := fun _ => fun
  | [d1, d2, d3] => { results := [.lit (.bool false)], args := [d1, d2, d3] }
  | _ => none }
def GraphReachesWrongFalsely : Prop := graphReachesRow.holds Tryd.pinned (OpenSpec.ofChange graphReachesWrong)

/-- 'turntablelaw08.GraphRounds': WHATEVER THE INPUT: true; the input reads as it did. -/
def graphRoundsSpec : ChangeSpec := { name := "graphRounds", fn := fun _ => fun
  | [d] => { results := [.lit (.bool true)], args := [d] }
  | _ => none }
def graphRoundsRow : OpenClaim := { program := "ytfmeadbiokcboaadoor", sum := "a283c488d9c8b7c0420abc4053cb96546e641a02799afdd401ab828d84e96a2e", func := "turntable/turntablelaw08.GraphRounds", spec := "graphRounds", unfollowed := true, recurses := true, named := ["turntable/ops.rows"], apart := false, laid := [("turntable/ops.rows", laid_turntable_ops_rows)] }
def GraphRoundsSaid : Prop := graphRoundsRow.holds Tryd.pinned (OpenSpec.ofChange graphRoundsSpec)

/-- ITS FALSE NEIGHBOUR: 'it returns false'. Refute it at one input. -/
def graphRoundsWrong : ChangeSpec := { name := "graphRounds", fn := fun _ => fun
  | [d] => { results := [.lit (.bool false)], args := [d] }
  | _ => none }
def GraphRoundsWrongFalsely : Prop := graphRoundsRow.holds Tryd.pinned (OpenSpec.ofChange graphRoundsWrong)

/- THE SECOND FORM. 'bulk': how many values and letters a reading holds, each counted each time it is reached (what is shared counts as often as it is met; a slice's spare places count too). A statement '..UptoSaid' is the law's where the arguments, and the package variables that the reading takes, are together of bulk at most 1048576: NARROWER than '..Said'. Prove '..Said' where nothing that the law and all that it calls make is longer than what came in: it says more and counts as full. Else prove '..UptoSaid'. A law counts once. -/
mutual
def uptoBulk {H : Type} : DataW H → Nat
  | .lit (.string bytes) => bytes.length + 1
  | .lit _ => 1
  | .nil => 1
  | .ptr d => uptoBulk d + 1
  | .slice elems spare => uptoBulkAll elems + uptoBulkAll spare + 1
  | .agg parts => uptoBulkAll parts + 1
  | .iface _ d => uptoBulk d + 1
  | .map entries => uptoBulkEntries entries + 1
  | .held _ => 1
def uptoBulkAll {H : Type} : List (DataW H) → Nat
  | [] => 0
  | d :: r => uptoBulk d + uptoBulkAll r
def uptoBulkEntries {H : Type} : List (Lit × DataW H) → Nat
  | [] => 0
  | x :: r => uptoBulkEntry x + uptoBulkEntries r
def uptoBulkEntry {H : Type} : Lit × DataW H → Nat
  | (.string bytes, d) => bytes.length + uptoBulk d + 1
  | (_, d) => uptoBulk d + 1
 end
def uptoSmall : (H : Type) → List (DataW H) → Bool := fun _ ds => decide (uptoBulkAll ds ≤ 1048576)
def OpenSpec.upto (s : _root_.Go.ChangeSpec) : _root_.Go.OpenSpec := { _root_.Go.OpenSpec.ofChange s with cond := some uptoSmall }

/-- 'turntablelaw08.GraphShapes', WHERE WHAT IT READS IS OF BULK AT MOST 1048576: true; the input reads as it did. -/
def graphShapesUptoRow : OpenClaim := { program := "ytfmeadbiokcboaadoor", sum := "a283c488d9c8b7c0420abc4053cb96546e641a02799afdd401ab828d84e96a2e", func := "turntable/turntablelaw08.GraphShapes", spec := "graphShapes", unfollowed := true, recurses := true, named := ["turntable/ops.rows"], apart := false, laid := [("turntable/ops.rows", laid_turntable_ops_rows)], narrowed := true }
def GraphShapesUptoSaid : Prop := graphShapesUptoRow.holds Tryd.pinned (OpenSpec.upto graphShapesSpec)

/-- 'turntablelaw08.GraphFollows', WHERE WHAT IT READS IS OF BULK AT MOST 1048576: true; the input reads as it did. -/
def graphFollowsUptoRow : OpenClaim := { program := "ytfmeadbiokcboaadoor", sum := "a283c488d9c8b7c0420abc4053cb96546e641a02799afdd401ab828d84e96a2e", func := "turntable/turntablelaw08.GraphFollows", spec := "graphFollows", unfollowed := true, recurses := true, named := ["turntable/ops.rows"], apart := false, laid := [("turntable/ops.rows", laid_turntable_ops_rows)], narrowed := true }
def GraphFollowsUptoSaid : Prop := graphFollowsUptoRow.holds Tryd.pinned (OpenSpec.upto graphFollowsSpec)

/-- 'turntablelaw08.GraphReaches', WHERE WHAT IT READS IS OF BULK AT MOST 1048576: true; the input reads as it did. -/
def graphReachesUptoRow : OpenClaim := { program := "ytfmeadbiokcboaadoor", sum := "a283c488d9c8b7c0420abc4053cb96546e641a02799afdd401ab828d84e96a2e", func := "turntable/turntablelaw08.GraphReaches", spec := "graphReaches", unfollowed := true, recurses := true, named := ["turntable/ops.rows"], apart := false, laid := [("turntable/ops.rows", laid_turntable_ops_rows)], narrowed := true }
def GraphReachesUptoSaid : Prop := graphReachesUptoRow.holds Tryd.pinned (OpenSpec.upto graphReachesSpec)

/-- 'turntablelaw08.GraphRounds', WHERE WHAT IT READS IS OF BULK AT MOST 1048576: true; the input reads as it did. -/
def graphRoundsUptoRow : OpenClaim := { program := "ytfmeadbiokcboaadoor", sum := "a283c488d9c8b7c0420abc4053cb96546e641a02799afdd401ab828d84e96a2e", func := "turntable/turntablelaw08.GraphRounds", spec := "graphRounds", unfollowed := true, recurses := true, named := ["turntable/ops.rows"], apart := false, laid := [("turntable/ops.rows", laid_turntable_ops_rows)], narrowed := true }
def GraphRoundsUptoSaid : Prop := graphRoundsUptoRow.holds Tryd.pinned (OpenSpec.upto graphRoundsSpec)

end Rows
end Go.Proofs.YtfmeadbiokcboaaDoor
