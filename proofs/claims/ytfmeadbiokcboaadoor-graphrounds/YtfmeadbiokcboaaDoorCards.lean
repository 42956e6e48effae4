/-
  DERIVED. GIVEN WITH THE SEED: THE CARDS: each row of YtfmeadbiokcboaaDoorRows.lean that lists a variable, with what it lists TIED to the program's text (the seventh form; the later family's looks); each row that meets fmt, with fmt's text TOLD by the authors' own Lean function (tested against real Go, not proved from fmt's source: count such statements apart). THE CARD IS WHAT COUNTS. Prove the row's statement (the work); the ties are given (YtfmeadbiokcboaaDoorTie.lean); close each card by the builder's one call (the guide's Derived/Test/ToyasCard.lean, 'card_holds'). Laid BY PROGRAM, IN A SANDBOX (cutbox-door.mjs). By AI agents, Wed Nov 11 2026. No macro, syntax, notation, axiom, sorry.
-/
import Derived.Test.YtfmeadbiokcboaaDoorRows
import GoSem.ClaimSeven
namespace Go.Proofs.YtfmeadbiokcboaaDoor
namespace Rows

/-- THE TIED CARD OF 'turntablelaw08.GraphShapes'. -/
def graphShapesCard : Claim7 := { stood := { row := graphShapesRow, standIns := [], harness := (true, "519b988d5d94bb2edcc1c72a4ba0b0460293b5dcc00cf03ee0fe88d585dc7fa4"), looks := false }, kinds := [], alts := [], laidByText := true, laidKinds := [.data], laidTests := true, laidLooks := .later }
def GraphShapesCardSaid : Prop := Claim7.holds Tryd.pinned (.plain (OpenSpec.ofChange graphShapesSpec)) graphShapesCard

/-- THE TIED CARD OF 'turntablelaw08.GraphFollows'. -/
def graphFollowsCard : Claim7 := { stood := { row := graphFollowsRow, standIns := [], harness := (true, "519b988d5d94bb2edcc1c72a4ba0b0460293b5dcc00cf03ee0fe88d585dc7fa4"), looks := false }, kinds := [], alts := [], laidByText := true, laidKinds := [.data], laidTests := true, laidLooks := .later }
def GraphFollowsCardSaid : Prop := Claim7.holds Tryd.pinned (.plain (OpenSpec.ofChange graphFollowsSpec)) graphFollowsCard

/-- THE TIED CARD OF 'turntablelaw08.GraphReaches'. -/
def graphReachesCard : Claim7 := { stood := { row := graphReachesRow, standIns := [], harness := (true, "519b988d5d94bb2edcc1c72a4ba0b0460293b5dcc00cf03ee0fe88d585dc7fa4"), looks := false }, kinds := [], alts := [], laidByText := true, laidKinds := [.data], laidTests := true, laidLooks := .later }
def GraphReachesCardSaid : Prop := Claim7.holds Tryd.pinned (.plain (OpenSpec.ofChange graphReachesSpec)) graphReachesCard

/-- THE TIED CARD OF 'turntablelaw08.GraphRounds'. -/
def graphRoundsCard : Claim7 := { stood := { row := graphRoundsRow, standIns := [], harness := (true, "519b988d5d94bb2edcc1c72a4ba0b0460293b5dcc00cf03ee0fe88d585dc7fa4"), looks := false }, kinds := [], alts := [], laidByText := true, laidKinds := [.data], laidTests := true, laidLooks := .later }
def GraphRoundsCardSaid : Prop := Claim7.holds Tryd.pinned (.plain (OpenSpec.ofChange graphRoundsSpec)) graphRoundsCard

/-- THE SECOND FORM's CARD OF 'turntablelaw08.GraphShapes'. -/
def graphShapesUptoCard : Claim7 := { stood := { row := graphShapesUptoRow, standIns := [], harness := (true, "519b988d5d94bb2edcc1c72a4ba0b0460293b5dcc00cf03ee0fe88d585dc7fa4"), looks := false }, kinds := [], alts := [], laidByText := true, laidKinds := [.data], laidTests := true, laidLooks := .later }
def GraphShapesUptoCardSaid : Prop := Claim7.holds Tryd.pinned (.plain (OpenSpec.upto graphShapesSpec)) graphShapesUptoCard

/-- THE SECOND FORM's CARD OF 'turntablelaw08.GraphFollows'. -/
def graphFollowsUptoCard : Claim7 := { stood := { row := graphFollowsUptoRow, standIns := [], harness := (true, "519b988d5d94bb2edcc1c72a4ba0b0460293b5dcc00cf03ee0fe88d585dc7fa4"), looks := false }, kinds := [], alts := [], laidByText := true, laidKinds := [.data], laidTests := true, laidLooks := .later }
def GraphFollowsUptoCardSaid : Prop := Claim7.holds Tryd.pinned (.plain (OpenSpec.upto graphFollowsSpec)) graphFollowsUptoCard

/-- THE SECOND FORM's CARD OF 'turntablelaw08.GraphReaches'. -/
def graphReachesUptoCard : Claim7 := { stood := { row := graphReachesUptoRow, standIns := [], harness := (true, "519b988d5d94bb2edcc1c72a4ba0b0460293b5dcc00cf03ee0fe88d585dc7fa4"), looks := false }, kinds := [], alts := [], laidByText := true, laidKinds := [.data], laidTests := true, laidLooks := .later }
def GraphReachesUptoCardSaid : Prop := Claim7.holds Tryd.pinned (.plain (OpenSpec.upto graphReachesSpec)) graphReachesUptoCard

/-- THE SECOND FORM's CARD OF 'turntablelaw08.GraphRounds'. -/
def graphRoundsUptoCard : Claim7 := { stood := { row := graphRoundsUptoRow, standIns := [], harness := (true, "519b988d5d94bb2edcc1c72a4ba0b0460293b5dcc00cf03ee0fe88d585dc7fa4"), looks := false }, kinds := [], alts := [], laidByText := true, laidKinds := [.data], laidTests := true, laidLooks := .later }
def GraphRoundsUptoCardSaid : Prop := Claim7.holds Tryd.pinned (.plain (OpenSpec.upto graphRoundsSpec)) graphRoundsUptoCard
end Rows
end Go.Proofs.YtfmeadbiokcboaaDoor
