/-
  DERIVED. GIVEN WITH THE SEED: THE CARDS: each row of YtljkgcfnoegibaaGreatDoorRows.lean that lists a variable, with what it lists TIED to the program's text (the seventh form; the later family's looks); each row that meets fmt, with fmt's text TOLD by the authors' own Lean function (tested against real Go, not proved from fmt's source: count such statements apart). THE CARD IS WHAT COUNTS. Prove the row's statement (the work); the ties are given (YtljkgcfnoegibaaGreatDoorTie.lean); close each card by the builder's one call (the guide's Derived/Test/ToyasCard.lean, 'card_holds'). Laid BY PROGRAM, IN A SANDBOX (cutbox-door.mjs). By AI agents, Wed Nov 11 2026. No macro, syntax, notation, axiom, sorry.
-/
import Derived.Test.YtljkgcfnoegibaaGreatDoorRows
import GoSem.ClaimSeven
namespace Go.Proofs.YtljkgcfnoegibaaGreatDoor
namespace Rows

/-- THE TIED CARD OF 'turntablelaw11.WellChecks'. -/
def wellChecksCard : Claim7 := { stood := { row := wellChecksRow, standIns := [], harness := (true, "bb3c15a9ebc51377e2d29c4c87ccfa17f00e60c9890d657e677f9221efbe12d6"), looks := false }, kinds := [], alts := [], laidByText := true, laidKinds := [.data, .data], laidTests := true, laidLooks := .later }
def WellChecksCardSaid : Prop := Claim7.holds Tryz.pinned (.plain (OpenSpec.ofChange wellChecksSpec)) wellChecksCard

/-- THE TIED CARD OF 'turntablelaw11.WellTypes'. -/
def wellTypesCard : Claim7 := { stood := { row := wellTypesRow, standIns := [], harness := (true, "bb3c15a9ebc51377e2d29c4c87ccfa17f00e60c9890d657e677f9221efbe12d6"), looks := false }, kinds := [], alts := [], laidByText := true, laidKinds := [.data, .data], laidTests := true, laidLooks := .later }
def WellTypesCardSaid : Prop := Claim7.holds Tryz.pinned (.plain (OpenSpec.ofChange wellTypesSpec)) wellTypesCard

/-- THE TIED CARD OF 'turntablelaw11.WellWays'. -/
def wellWaysCard : Claim7 := { stood := { row := wellWaysRow, standIns := [], harness := (true, "bb3c15a9ebc51377e2d29c4c87ccfa17f00e60c9890d657e677f9221efbe12d6"), looks := false }, kinds := [], alts := [], laidByText := true, laidKinds := [.data, .data], laidTests := true, laidLooks := .later }
def WellWaysCardSaid : Prop := Claim7.holds Tryz.pinned (.plain (OpenSpec.ofChange wellWaysSpec)) wellWaysCard

/-- THE TIED CARD OF 'turntablelaw11.WellOnce'. -/
def wellOnceCard : Claim7 := { stood := { row := wellOnceRow, standIns := [], harness := (true, "bb3c15a9ebc51377e2d29c4c87ccfa17f00e60c9890d657e677f9221efbe12d6"), looks := false }, kinds := [], alts := [], laidByText := true, laidKinds := [.data, .data], laidTests := true, laidLooks := .later }
def WellOnceCardSaid : Prop := Claim7.holds Tryz.pinned (.plain (OpenSpec.ofChange wellOnceSpec)) wellOnceCard

/-- THE SECOND FORM's CARD OF 'turntablelaw11.WellChecks'. -/
def wellChecksUptoCard : Claim7 := { stood := { row := wellChecksUptoRow, standIns := [], harness := (true, "bb3c15a9ebc51377e2d29c4c87ccfa17f00e60c9890d657e677f9221efbe12d6"), looks := false }, kinds := [], alts := [], laidByText := true, laidKinds := [.data, .data], laidTests := true, laidLooks := .later }
def WellChecksUptoCardSaid : Prop := Claim7.holds Tryz.pinned (.plain (OpenSpec.upto wellChecksSpec)) wellChecksUptoCard

/-- THE SECOND FORM's CARD OF 'turntablelaw11.WellTypes'. -/
def wellTypesUptoCard : Claim7 := { stood := { row := wellTypesUptoRow, standIns := [], harness := (true, "bb3c15a9ebc51377e2d29c4c87ccfa17f00e60c9890d657e677f9221efbe12d6"), looks := false }, kinds := [], alts := [], laidByText := true, laidKinds := [.data, .data], laidTests := true, laidLooks := .later }
def WellTypesUptoCardSaid : Prop := Claim7.holds Tryz.pinned (.plain (OpenSpec.upto wellTypesSpec)) wellTypesUptoCard

/-- THE SECOND FORM's CARD OF 'turntablelaw11.WellWays'. -/
def wellWaysUptoCard : Claim7 := { stood := { row := wellWaysUptoRow, standIns := [], harness := (true, "bb3c15a9ebc51377e2d29c4c87ccfa17f00e60c9890d657e677f9221efbe12d6"), looks := false }, kinds := [], alts := [], laidByText := true, laidKinds := [.data, .data], laidTests := true, laidLooks := .later }
def WellWaysUptoCardSaid : Prop := Claim7.holds Tryz.pinned (.plain (OpenSpec.upto wellWaysSpec)) wellWaysUptoCard

/-- THE SECOND FORM's CARD OF 'turntablelaw11.WellOnce'. -/
def wellOnceUptoCard : Claim7 := { stood := { row := wellOnceUptoRow, standIns := [], harness := (true, "bb3c15a9ebc51377e2d29c4c87ccfa17f00e60c9890d657e677f9221efbe12d6"), looks := false }, kinds := [], alts := [], laidByText := true, laidKinds := [.data, .data], laidTests := true, laidLooks := .later }
def WellOnceUptoCardSaid : Prop := Claim7.holds Tryz.pinned (.plain (OpenSpec.upto wellOnceSpec)) wellOnceUptoCard
end Rows
end Go.Proofs.YtljkgcfnoegibaaGreatDoor
