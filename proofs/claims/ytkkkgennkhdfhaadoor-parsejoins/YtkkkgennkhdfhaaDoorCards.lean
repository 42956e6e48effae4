/-
  DERIVED. GIVEN WITH THE SEED: THE CARDS: each row of YtkkkgennkhdfhaaDoorRows.lean that lists a variable, with what it lists TIED to the program's text (the seventh form; the later family's looks); each row that meets fmt, with fmt's text TOLD by the authors' own Lean function (tested against real Go, not proved from fmt's source: count such statements apart). THE CARD IS WHAT COUNTS. Prove the row's statement (the work); the ties are given (YtkkkgennkhdfhaaDoorTie.lean); close each card by the builder's one call (the guide's Derived/Test/ToyasCard.lean, 'card_holds'). Laid BY PROGRAM, IN A SANDBOX (cutbox-door.mjs). By AI agents, Wed Nov 11 2026. No macro, syntax, notation, axiom, sorry.
-/
import Derived.Test.YtkkkgennkhdfhaaDoorRows
import GoSem.ClaimSeven
namespace Go.Proofs.YtkkkgennkhdfhaaDoor
namespace Rows

/-- THE TIED CARD OF 'turntablelaw06.ParseStands'. -/
def parseStandsCard : Claim7 := { stood := { row := parseStandsRow, standIns := [], harness := (true, "59944c5c9dac117652ecd11b253a6895b871a0327e9caf492a5f87c5be136790"), looks := true }, kinds := [], alts := [], laidByText := true, laidKinds := [.data, .data], laidTests := true, laidLooks := .later }
def ParseStandsCardSaid : Prop := Claim7.holds Tryd.pinned (.plain (OpenSpec.ofChange parseStandsSpec)) parseStandsCard

/-- THE TIED CARD OF 'turntablelaw06.ParseBlanks'. -/
def parseBlanksCard : Claim7 := { stood := { row := parseBlanksRow, standIns := [], harness := (true, "59944c5c9dac117652ecd11b253a6895b871a0327e9caf492a5f87c5be136790"), looks := true }, kinds := [], alts := [], laidByText := true, laidKinds := [.data, .data], laidTests := true, laidLooks := .later }
def ParseBlanksCardSaid : Prop := Claim7.holds Tryd.pinned (.plain (OpenSpec.ofChange parseBlanksSpec)) parseBlanksCard

/-- THE TIED CARD OF 'turntablelaw06.ParseJoins'. -/
def parseJoinsCard : Claim7 := { stood := { row := parseJoinsRow, standIns := [], harness := (true, "59944c5c9dac117652ecd11b253a6895b871a0327e9caf492a5f87c5be136790"), looks := true }, kinds := [], alts := [], laidByText := true, laidKinds := [.data, .data], laidTests := true, laidLooks := .later }
def ParseJoinsCardSaid : Prop := Claim7.holds Tryd.pinned (.plain (OpenSpec.ofChange parseJoinsSpec)) parseJoinsCard

/-- THE SECOND FORM's CARD OF 'turntablelaw06.ParseStands'. -/
def parseStandsUptoCard : Claim7 := { stood := { row := parseStandsUptoRow, standIns := [], harness := (true, "59944c5c9dac117652ecd11b253a6895b871a0327e9caf492a5f87c5be136790"), looks := true }, kinds := [], alts := [], laidByText := true, laidKinds := [.data, .data], laidTests := true, laidLooks := .later }
def ParseStandsUptoCardSaid : Prop := Claim7.holds Tryd.pinned (.plain (OpenSpec.upto parseStandsSpec)) parseStandsUptoCard

/-- THE SECOND FORM's CARD OF 'turntablelaw06.ParseBlanks'. -/
def parseBlanksUptoCard : Claim7 := { stood := { row := parseBlanksUptoRow, standIns := [], harness := (true, "59944c5c9dac117652ecd11b253a6895b871a0327e9caf492a5f87c5be136790"), looks := true }, kinds := [], alts := [], laidByText := true, laidKinds := [.data, .data], laidTests := true, laidLooks := .later }
def ParseBlanksUptoCardSaid : Prop := Claim7.holds Tryd.pinned (.plain (OpenSpec.upto parseBlanksSpec)) parseBlanksUptoCard

/-- THE SECOND FORM's CARD OF 'turntablelaw06.ParseJoins'. -/
def parseJoinsUptoCard : Claim7 := { stood := { row := parseJoinsUptoRow, standIns := [], harness := (true, "59944c5c9dac117652ecd11b253a6895b871a0327e9caf492a5f87c5be136790"), looks := true }, kinds := [], alts := [], laidByText := true, laidKinds := [.data, .data], laidTests := true, laidLooks := .later }
def ParseJoinsUptoCardSaid : Prop := Claim7.holds Tryd.pinned (.plain (OpenSpec.upto parseJoinsSpec)) parseJoinsUptoCard
end Rows
end Go.Proofs.YtkkkgennkhdfhaaDoor
