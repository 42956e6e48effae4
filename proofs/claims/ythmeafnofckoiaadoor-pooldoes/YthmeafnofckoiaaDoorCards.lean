/-
  DERIVED. GIVEN WITH THE SEED: THE CARDS: each row of YthmeafnofckoiaaDoorRows.lean that lists a variable, with what it lists TIED to the program's text (the seventh form; the later family's looks); each row that meets fmt, with fmt's text TOLD by the authors' own Lean function (tested against real Go, not proved from fmt's source: count such statements apart). THE CARD IS WHAT COUNTS. Prove the row's statement (the work); the ties are given (YthmeafnofckoiaaDoorTie.lean); close each card by the builder's one call (the guide's Derived/Test/ToyasCard.lean, 'card_holds'). Laid BY PROGRAM, IN A SANDBOX (cutbox-door.mjs). By AI agents, Wed Nov 11 2026. No macro, syntax, notation, axiom, sorry.
-/
import Derived.Test.YthmeafnofckoiaaDoorRows
import GoSem.ClaimSeven
namespace Go.Proofs.YthmeafnofckoiaaDoor
namespace Rows

/-- THE TIED CARD OF 'turntablelaw12.PoolDoes'. -/
def poolDoesCard : Claim7 := { stood := { row := poolDoesRow, standIns := [], harness := (true, "1bb259606e36bb7e4a1a46a0b75c88a016e1e4b5402113a5d22e5b7657e50876"), looks := false }, kinds := [], alts := [], laidByText := true, laidKinds := [.data], laidTests := true, laidLooks := .later }
def PoolDoesCardSaid : Prop := Claim7.holds Tryd.pinned (.plain (OpenSpec.ofChange poolDoesSpec)) poolDoesCard

/-- THE TIED CARD OF 'turntablelaw12.PoolKeeps'. -/
def poolKeepsCard : Claim7 := { stood := { row := poolKeepsRow, standIns := [], harness := (true, "1bb259606e36bb7e4a1a46a0b75c88a016e1e4b5402113a5d22e5b7657e50876"), looks := false }, kinds := [], alts := [], laidByText := true, laidKinds := [.data], laidTests := true, laidLooks := .later }
def PoolKeepsCardSaid : Prop := Claim7.holds Tryd.pinned (.plain (OpenSpec.ofChange poolKeepsSpec)) poolKeepsCard

/-- THE TIED CARD OF 'turntablelaw12.PoolReaches'. -/
def poolReachesCard : Claim7 := { stood := { row := poolReachesRow, standIns := [], harness := (true, "1bb259606e36bb7e4a1a46a0b75c88a016e1e4b5402113a5d22e5b7657e50876"), looks := false }, kinds := [], alts := [], laidByText := true, laidKinds := [.data], laidTests := true, laidLooks := .later }
def PoolReachesCardSaid : Prop := Claim7.holds Tryd.pinned (.plain (OpenSpec.ofChange poolReachesSpec)) poolReachesCard

/-- THE SECOND FORM's CARD OF 'turntablelaw12.PoolDoes'. -/
def poolDoesUptoCard : Claim7 := { stood := { row := poolDoesUptoRow, standIns := [], harness := (true, "1bb259606e36bb7e4a1a46a0b75c88a016e1e4b5402113a5d22e5b7657e50876"), looks := false }, kinds := [], alts := [], laidByText := true, laidKinds := [.data], laidTests := true, laidLooks := .later }
def PoolDoesUptoCardSaid : Prop := Claim7.holds Tryd.pinned (.plain (OpenSpec.upto poolDoesSpec)) poolDoesUptoCard

/-- THE SECOND FORM's CARD OF 'turntablelaw12.PoolKeeps'. -/
def poolKeepsUptoCard : Claim7 := { stood := { row := poolKeepsUptoRow, standIns := [], harness := (true, "1bb259606e36bb7e4a1a46a0b75c88a016e1e4b5402113a5d22e5b7657e50876"), looks := false }, kinds := [], alts := [], laidByText := true, laidKinds := [.data], laidTests := true, laidLooks := .later }
def PoolKeepsUptoCardSaid : Prop := Claim7.holds Tryd.pinned (.plain (OpenSpec.upto poolKeepsSpec)) poolKeepsUptoCard

/-- THE SECOND FORM's CARD OF 'turntablelaw12.PoolReaches'. -/
def poolReachesUptoCard : Claim7 := { stood := { row := poolReachesUptoRow, standIns := [], harness := (true, "1bb259606e36bb7e4a1a46a0b75c88a016e1e4b5402113a5d22e5b7657e50876"), looks := false }, kinds := [], alts := [], laidByText := true, laidKinds := [.data], laidTests := true, laidLooks := .later }
def PoolReachesUptoCardSaid : Prop := Claim7.holds Tryd.pinned (.plain (OpenSpec.upto poolReachesSpec)) poolReachesUptoCard
end Rows
end Go.Proofs.YthmeafnofckoiaaDoor
