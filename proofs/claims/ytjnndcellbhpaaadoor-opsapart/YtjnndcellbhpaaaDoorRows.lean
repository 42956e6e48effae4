/-
  NARROWER THAN 'FOR EVERY INPUT', by the rows' own cells (each row's printed sentence says how): OpsTells: laid · OpsFinds: laid · OpsBack: laid · OpsApart: laid.
  DERIVED. THE GIVEN ROWS OF THIS SEAT. 4 by the template 'for every input the law returns true; each argument reads behind the call as it read before'; 0 by the template 'total and deterministic' (their statements: YtjnndcellbhpaaaDoorTotals.lean).
  GIVEN WITH THE SEED: the statements are not yours to turn. If you find one false, say at which input.
  Laid BY PROGRAM, IN A SANDBOX (cutbox-rows.mjs): the forced cells as the released guide's own fill.sh prints them over the translation 370e47ceccb02cf9… (all of the seat's roots in one cut). By AI agents, Wed Nov 11 2026. No macro, syntax, notation, axiom, sorry.
-/
import Derived.Test.YtjnndcellbhpaaaDoorChecked
import GoSem.Claim
import GoSem.ClaimJoined
import GoSem.ClaimMapViews
import Derived.JoinedTies
import Derived.KernelRfl
namespace Go.Proofs.YtjnndcellbhpaaaDoor
/- THE CELL 'sum', in the pinned program and in every row, IS THE sha256 OF THE DUMP (.gsa) THAT YtjnndcellbhpaaaDoorProg.lean LOADS. Nothing in Lean hashes anything: it is a label: what it is worth is what the hold of that sum in a sandbox is worth. -/
noncomputable def Tryd.pinned : Pinned := { name := "ytjnndcellbhpaaadoor", sum := "370e47ceccb02cf99d59e589b8c47d69a60e1daf5932e6c10b1f600ca3fd5036", checked := Tryd.checked }
namespace Rows
def none {H : Type} : Left H := { results := [], args := [] }

/- WHAT THE LISTED PACKAGE-LEVEL VARIABLES READ AS WHEN THE CALL BEGINS. Each datum BY PROGRAM (the guide's laid-datum.mjs) off the statement by which the dump's own 'gosem.cut.vars' lays the variable. In a bare row this is a premise. The card (YtjnndcellbhpaaaDoorCards.lean) ties it to the program's text. -/
def laid_turntable_ops_rows {H : Type} : DataW H := .agg [.agg [.lit (.string []), .agg [.lit (.int .i64 0), .lit (.int .i64 0)], .lit (.int .i64 0), .lit (.int .i64 0)], .agg [.lit (.string [99, 111, 110, 115, 116]), .agg [.lit (.int .i64 0), .lit (.int .i64 0)], .lit (.int .i64 1), .lit (.int .i64 32)], .agg [.lit (.string [97, 100, 100]), .agg [.lit (.int .i64 1), .lit (.int .i64 1)], .lit (.int .i64 1), .lit (.int .i64 32)], .agg [.lit (.string [115, 117, 98]), .agg [.lit (.int .i64 1), .lit (.int .i64 1)], .lit (.int .i64 1), .lit (.int .i64 32)], .agg [.lit (.string [109, 117, 108]), .agg [.lit (.int .i64 1), .lit (.int .i64 1)], .lit (.int .i64 1), .lit (.int .i64 32)], .agg [.lit (.string [100, 105, 118]), .agg [.lit (.int .i64 1), .lit (.int .i64 1)], .lit (.int .i64 1), .lit (.int .i64 1)], .agg [.lit (.string [108, 116]), .agg [.lit (.int .i64 1), .lit (.int .i64 1)], .lit (.int .i64 1), .lit (.int .i64 32)], .agg [.lit (.string [101, 113]), .agg [.lit (.int .i64 1), .lit (.int .i64 1)], .lit (.int .i64 1), .lit (.int .i64 32)], .agg [.lit (.string [110, 105, 108]), .agg [.lit (.int .i64 0), .lit (.int .i64 0)], .lit (.int .i64 2), .lit (.int .i64 32)], .agg [.lit (.string [115, 97, 109, 101]), .agg [.lit (.int .i64 2), .lit (.int .i64 2)], .lit (.int .i64 1), .lit (.int .i64 32)], .agg [.lit (.string [110, 101, 119]), .agg [.lit (.int .i64 0), .lit (.int .i64 0)], .lit (.int .i64 2), .lit (.int .i64 0)], .agg [.lit (.string [108, 111, 97, 100, 46, 105]), .agg [.lit (.int .i64 2), .lit (.int .i64 0)], .lit (.int .i64 1), .lit (.int .i64 3)], .agg [.lit (.string [108, 111, 97, 100, 46, 112]), .agg [.lit (.int .i64 2), .lit (.int .i64 0)], .lit (.int .i64 2), .lit (.int .i64 3)], .agg [.lit (.string [115, 116, 111, 114, 101, 46, 105]), .agg [.lit (.int .i64 2), .lit (.int .i64 1)], .lit (.int .i64 0), .lit (.int .i64 5)], .agg [.lit (.string [115, 116, 111, 114, 101, 46, 112]), .agg [.lit (.int .i64 2), .lit (.int .i64 2)], .lit (.int .i64 0), .lit (.int .i64 5)], .agg [.lit (.string [115, 108, 111, 116]), .agg [.lit (.int .i64 2), .lit (.int .i64 0)], .lit (.int .i64 3), .lit (.int .i64 1)], .agg [.lit (.string [103, 101, 116, 46, 105]), .agg [.lit (.int .i64 3), .lit (.int .i64 0)], .lit (.int .i64 1), .lit (.int .i64 3)], .agg [.lit (.string [103, 101, 116, 46, 112]), .agg [.lit (.int .i64 3), .lit (.int .i64 0)], .lit (.int .i64 2), .lit (.int .i64 3)], .agg [.lit (.string [112, 117, 116, 46, 105]), .agg [.lit (.int .i64 3), .lit (.int .i64 1)], .lit (.int .i64 0), .lit (.int .i64 5)], .agg [.lit (.string [112, 117, 116, 46, 112]), .agg [.lit (.int .i64 3), .lit (.int .i64 2)], .lit (.int .i64 0), .lit (.int .i64 5)], .agg [.lit (.string [112, 104, 105]), .agg [.lit (.int .i64 0), .lit (.int .i64 0)], .lit (.int .i64 0), .lit (.int .i64 128)], .agg [.lit (.string [99, 97, 108, 108]), .agg [.lit (.int .i64 0), .lit (.int .i64 0)], .lit (.int .i64 0), .lit (.int .i64 199)], .agg [.lit (.string [111, 117, 116]), .agg [.lit (.int .i64 1), .lit (.int .i64 0)], .lit (.int .i64 0), .lit (.int .i64 16)], .agg [.lit (.string [112, 111, 108, 108]), .agg [.lit (.int .i64 0), .lit (.int .i64 0)], .lit (.int .i64 0), .lit (.int .i64 80)], .agg [.lit (.string [114, 101, 108, 111, 99]), .agg [.lit (.int .i64 0), .lit (.int .i64 0)], .lit (.int .i64 0), .lit (.int .i64 128)], .agg [.lit (.string [109, 97, 114, 107]), .agg [.lit (.int .i64 2), .lit (.int .i64 0)], .lit (.int .i64 0), .lit (.int .i64 16)], .agg [.lit (.string [98, 114]), .agg [.lit (.int .i64 0), .lit (.int .i64 0)], .lit (.int .i64 0), .lit (.int .i64 8)], .agg [.lit (.string [105, 102]), .agg [.lit (.int .i64 1), .lit (.int .i64 0)], .lit (.int .i64 0), .lit (.int .i64 8)], .agg [.lit (.string [114, 101, 116]), .agg [.lit (.int .i64 0), .lit (.int .i64 0)], .lit (.int .i64 0), .lit (.int .i64 8)], .agg [.lit (.string [102, 97, 105, 108]), .agg [.lit (.int .i64 0), .lit (.int .i64 0)], .lit (.int .i64 0), .lit (.int .i64 9)]]

/-- 'turntablelaw05.OpsTells': WHATEVER THE INPUT: true; the input reads as it did. -/
def opsTellsSpec : ChangeSpec := { name := "opsTells", fn := fun _ => fun
  | [d1, d2] => { results := [.lit (.bool true)], args := [d1, d2] }
  | _ => none }
def opsTellsRow : OpenClaim := { program := "ytjnndcellbhpaaadoor", sum := "370e47ceccb02cf99d59e589b8c47d69a60e1daf5932e6c10b1f600ca3fd5036", func := "turntable/turntablelaw05.OpsTells", spec := "opsTells", named := ["turntable/ops.rows"], apart := false, laid := [("turntable/ops.rows", laid_turntable_ops_rows)] }
def OpsTellsSaid : Prop := opsTellsRow.holds Tryd.pinned (OpenSpec.ofChange opsTellsSpec)

/-- ITS FALSE NEIGHBOUR: 'it returns false'. Refute it at one input. -/
def opsTellsWrong : ChangeSpec := { name := "opsTells", fn := fun _ => fun
  | [d1, d2] => { results := [.lit (.bool false)], args := [d1, d2] }
  | _ => none }
def OpsTellsWrongFalsely : Prop := opsTellsRow.holds Tryd.pinned (OpenSpec.ofChange opsTellsWrong)

/-- 'turntablelaw05.OpsFinds': WHATEVER THE INPUT: true; the input reads as it did. -/
def opsFindsSpec : ChangeSpec := { name := "opsFinds", fn := fun _ => fun
  | [d] => { results := [.lit (.bool true)], args := [d] }
  | _ => none }
def opsFindsRow : OpenClaim := { program := "ytjnndcellbhpaaadoor", sum := "370e47ceccb02cf99d59e589b8c47d69a60e1daf5932e6c10b1f600ca3fd5036", func := "turntable/turntablelaw05.OpsFinds", spec := "opsFinds", named := ["turntable/ops.rows"], apart := false, laid := [("turntable/ops.rows", laid_turntable_ops_rows)] }
def OpsFindsSaid : Prop := opsFindsRow.holds Tryd.pinned (OpenSpec.ofChange opsFindsSpec)

/-- ITS FALSE NEIGHBOUR: 'it returns false'. Refute it at one input. -/
def opsFindsWrong : ChangeSpec := { name := "opsFinds", fn := fun _ => fun
  | [d] => { results := [.lit (.bool false)], args := [d] }
  | _ => none }
def OpsFindsWrongFalsely : Prop := opsFindsRow.holds Tryd.pinned (OpenSpec.ofChange opsFindsWrong)

/-- 'turntablelaw05.OpsBack': WHATEVER THE INPUT: true; the input reads as it did. -/
def opsBackSpec : ChangeSpec := { name := "opsBack", fn := fun _ => fun
  | [d1, d2] => { results := [.lit (.bool true)], args := [d1, d2] }
  | _ => none }
def opsBackRow : OpenClaim := { program := "ytjnndcellbhpaaadoor", sum := "370e47ceccb02cf99d59e589b8c47d69a60e1daf5932e6c10b1f600ca3fd5036", func := "turntable/turntablelaw05.OpsBack", spec := "opsBack", named := ["turntable/ops.rows"], apart := false, laid := [("turntable/ops.rows", laid_turntable_ops_rows)] }
def OpsBackSaid : Prop := opsBackRow.holds Tryd.pinned (OpenSpec.ofChange opsBackSpec)

/-- ITS FALSE NEIGHBOUR: 'it returns false'. Refute it at one input. -/
def opsBackWrong : ChangeSpec := { name := "opsBack", fn := fun _ => fun
  | [d1, d2] => { results := [.lit (.bool false)], args := [d1, d2] }
  | _ => none }
def OpsBackWrongFalsely : Prop := opsBackRow.holds Tryd.pinned (OpenSpec.ofChange opsBackWrong)

/-- 'turntablelaw05.OpsApart': WHATEVER THE INPUT: true; the input reads as it did. -/
def opsApartSpec : ChangeSpec := { name := "opsApart", fn := fun _ => fun
  | [d] => { results := [.lit (.bool true)], args := [d] }
  | _ => none }
def opsApartRow : OpenClaim := { program := "ytjnndcellbhpaaadoor", sum := "370e47ceccb02cf99d59e589b8c47d69a60e1daf5932e6c10b1f600ca3fd5036", func := "turntable/turntablelaw05.OpsApart", spec := "opsApart", named := ["turntable/ops.rows"], apart := false, laid := [("turntable/ops.rows", laid_turntable_ops_rows)] }
def OpsApartSaid : Prop := opsApartRow.holds Tryd.pinned (OpenSpec.ofChange opsApartSpec)

/-- ITS FALSE NEIGHBOUR: 'it returns false'. Refute it at one input. -/
def opsApartWrong : ChangeSpec := { name := "opsApart", fn := fun _ => fun
  | [d] => { results := [.lit (.bool false)], args := [d] }
  | _ => none }
def OpsApartWrongFalsely : Prop := opsApartRow.holds Tryd.pinned (OpenSpec.ofChange opsApartWrong)

/- THE SECOND FORM. 'bulk': how many values and letters a reading holds, each counted each time it is reached (what is shared counts as often as it is met; a slice's spare places count too). A statement '..UptoSaid' is the law's where the arguments, and the package variables that the reading takes, are together of bulk at most 1048576: NARROWER than '..Said'. Prove '..Said' where nothing that the law and all that it calls make is longer than what came in: it says more and counts as full. Else prove '..UptoSaid'. A law counts once. -/
mutual
def uptoBulk {H : Type} : DataW H → Nat
  | .lit (.string bytes) => bytes.length + 1
  | .lit _ => 1
  | .nil => 1
  | .ptr d => uptoBulk d + 1
  | .slice elems spare => uptoBulkAll elems + uptoBulkAll spare + 1
  | .agg parts => uptoBulkAll parts + 1
  | .iface _ d => uptoBulk d + 1
  | .map entries => uptoBulkEntries entries + 1
  | .held _ => 1
def uptoBulkAll {H : Type} : List (DataW H) → Nat
  | [] => 0
  | d :: r => uptoBulk d + uptoBulkAll r
def uptoBulkEntries {H : Type} : List (Lit × DataW H) → Nat
  | [] => 0
  | x :: r => uptoBulkEntry x + uptoBulkEntries r
def uptoBulkEntry {H : Type} : Lit × DataW H → Nat
  | (.string bytes, d) => bytes.length + uptoBulk d + 1
  | (_, d) => uptoBulk d + 1
 end
def uptoSmall : (H : Type) → List (DataW H) → Bool := fun _ ds => decide (uptoBulkAll ds ≤ 1048576)
def OpenSpec.upto (s : _root_.Go.ChangeSpec) : _root_.Go.OpenSpec := { _root_.Go.OpenSpec.ofChange s with cond := some uptoSmall }

/-- 'turntablelaw05.OpsTells', WHERE WHAT IT READS IS OF BULK AT MOST 1048576: true; the input reads as it did. -/
def opsTellsUptoRow : OpenClaim := { program := "ytjnndcellbhpaaadoor", sum := "370e47ceccb02cf99d59e589b8c47d69a60e1daf5932e6c10b1f600ca3fd5036", func := "turntable/turntablelaw05.OpsTells", spec := "opsTells", named := ["turntable/ops.rows"], apart := false, laid := [("turntable/ops.rows", laid_turntable_ops_rows)], narrowed := true }
def OpsTellsUptoSaid : Prop := opsTellsUptoRow.holds Tryd.pinned (OpenSpec.upto opsTellsSpec)

/-- 'turntablelaw05.OpsFinds', WHERE WHAT IT READS IS OF BULK AT MOST 1048576: true; the input reads as it did. -/
def opsFindsUptoRow : OpenClaim := { program := "ytjnndcellbhpaaadoor", sum := "370e47ceccb02cf99d59e589b8c47d69a60e1daf5932e6c10b1f600ca3fd5036", func := "turntable/turntablelaw05.OpsFinds", spec := "opsFinds", named := ["turntable/ops.rows"], apart := false, laid := [("turntable/ops.rows", laid_turntable_ops_rows)], narrowed := true }
def OpsFindsUptoSaid : Prop := opsFindsUptoRow.holds Tryd.pinned (OpenSpec.upto opsFindsSpec)

/-- 'turntablelaw05.OpsBack', WHERE WHAT IT READS IS OF BULK AT MOST 1048576: true; the input reads as it did. -/
def opsBackUptoRow : OpenClaim := { program := "ytjnndcellbhpaaadoor", sum := "370e47ceccb02cf99d59e589b8c47d69a60e1daf5932e6c10b1f600ca3fd5036", func := "turntable/turntablelaw05.OpsBack", spec := "opsBack", named := ["turntable/ops.rows"], apart := false, laid := [("turntable/ops.rows", laid_turntable_ops_rows)], narrowed := true }
def OpsBackUptoSaid : Prop := opsBackUptoRow.holds Tryd.pinned (OpenSpec.upto opsBackSpec)

/-- 'turntablelaw05.OpsApart', WHERE WHAT IT READS IS OF BULK AT MOST 1048576: true; the input reads as it did. -/
def opsApartUptoRow : OpenClaim := { program := "ytjnndcellbhpaaadoor", sum := "370e47ceccb02cf99d59e589b8c47d69a60e1daf5932e6c10b1f600ca3fd5036", func := "turntable/turntablelaw05.OpsApart", spec := "opsApart", named := ["turntable/ops.rows"], apart := false, laid := [("turntable/ops.rows", laid_turntable_ops_rows)], narrowed := true }
def OpsApartUptoSaid : Prop := opsApartUptoRow.holds Tryd.pinned (OpenSpec.upto opsApartSpec)

end Rows
end Go.Proofs.YtjnndcellbhpaaaDoor
