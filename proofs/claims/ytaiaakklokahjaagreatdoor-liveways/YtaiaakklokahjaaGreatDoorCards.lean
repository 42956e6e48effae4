/-
  DERIVED. GIVEN WITH THE SEED: THE CARDS: each row of YtaiaakklokahjaaGreatDoorRows.lean that lists a variable, with what it lists TIED to the program's text (the seventh form; the later family's looks); each row that meets fmt, with fmt's text TOLD by the authors' own Lean function (tested against real Go, not proved from fmt's source: count such statements apart). THE CARD IS WHAT COUNTS. Prove the row's statement (the work); the ties are given (YtaiaakklokahjaaGreatDoorTie.lean); close each card by the builder's one call (the guide's Derived/Test/ToyasCard.lean, 'card_holds'). Laid BY PROGRAM, IN A SANDBOX (cutbox-door.mjs). By AI agents, Wed Nov 11 2026. No macro, syntax, notation, axiom, sorry.
-/
import Derived.Test.YtaiaakklokahjaaGreatDoorRows
import GoSem.ClaimSeven
namespace Go.Proofs.YtaiaakklokahjaaGreatDoor
namespace Rows

/-- THE TIED CARD OF 'turntablelaw14.LiveWays'. -/
def liveWaysCard : Claim7 := { stood := { row := liveWaysRow, standIns := [], harness := (true, "cc04304aecacac16778c66be90dcc5ecd764be6fb33003eaeb83a3244e87f0fc"), looks := false }, kinds := [], alts := [], laidByText := true, laidKinds := [.data, .data], laidTests := true, laidLooks := .later }
def LiveWaysCardSaid : Prop := Claim7.holds Tryz.pinned (.plain (OpenSpec.ofChange liveWaysSpec)) liveWaysCard

/-- THE TIED CARD OF 'turntablelaw15.BaseTells'. -/
def baseTellsCard : Claim7 := { stood := { row := baseTellsRow, standIns := [], harness := (true, "cc04304aecacac16778c66be90dcc5ecd764be6fb33003eaeb83a3244e87f0fc"), looks := false }, kinds := [], alts := [], laidByText := true, laidKinds := [.data], laidTests := true, laidLooks := .later }
def BaseTellsCardSaid : Prop := Claim7.holds Tryz.pinned (.plain (OpenSpec.ofChange baseTellsSpec)) baseTellsCard

/-- THE SECOND FORM's CARD OF 'turntablelaw14.LiveWays'. -/
def liveWaysUptoCard : Claim7 := { stood := { row := liveWaysUptoRow, standIns := [], harness := (true, "cc04304aecacac16778c66be90dcc5ecd764be6fb33003eaeb83a3244e87f0fc"), looks := false }, kinds := [], alts := [], laidByText := true, laidKinds := [.data, .data], laidTests := true, laidLooks := .later }
def LiveWaysUptoCardSaid : Prop := Claim7.holds Tryz.pinned (.plain (OpenSpec.upto liveWaysSpec)) liveWaysUptoCard

/-- THE SECOND FORM's CARD OF 'turntablelaw15.BaseTells'. -/
def baseTellsUptoCard : Claim7 := { stood := { row := baseTellsUptoRow, standIns := [], harness := (true, "cc04304aecacac16778c66be90dcc5ecd764be6fb33003eaeb83a3244e87f0fc"), looks := false }, kinds := [], alts := [], laidByText := true, laidKinds := [.data], laidTests := true, laidLooks := .later }
def BaseTellsUptoCardSaid : Prop := Claim7.holds Tryz.pinned (.plain (OpenSpec.upto baseTellsSpec)) baseTellsUptoCard
end Rows
end Go.Proofs.YtaiaakklokahjaaGreatDoor
