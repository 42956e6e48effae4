/-
  DERIVED. GIVEN WITH THE SEED: THE CARDS: each row of YtfdhemcahjommaaGreatDoorRows.lean that lists a variable, with what it lists TIED to the program's text (the seventh form; the later family's looks); each row that meets fmt, with fmt's text TOLD by the authors' own Lean function (tested against real Go, not proved from fmt's source: count such statements apart). THE CARD IS WHAT COUNTS. Prove the row's statement (the work); the ties are given (YtfdhemcahjommaaGreatDoorTie.lean); close each card by the builder's one call (the guide's Derived/Test/ToyasCard.lean, 'card_holds'). Laid BY PROGRAM, IN A SANDBOX (cutbox-door.mjs). By AI agents, Wed Nov 11 2026. No macro, syntax, notation, axiom, sorry.
-/
import Derived.Test.YtfdhemcahjommaaGreatDoorRows
import GoSem.ClaimSeven
namespace Go.Proofs.YtfdhemcahjommaaGreatDoor
namespace Rows

/-- THE TIED CARD OF 'turntablelaw14.LiveTells'. -/
def liveTellsCard : Claim7 := { stood := { row := liveTellsRow, standIns := [], harness := (true, "78857e0c9043f7485f519345e27ac624d12ed5210d6f295c0db1f35da3fddc8d"), looks := false }, kinds := [], alts := [], laidByText := true, laidKinds := [.data, .data], laidTests := true, laidLooks := .later }
def LiveTellsCardSaid : Prop := Claim7.holds Tryz.pinned (.plain (OpenSpec.ofChange liveTellsSpec)) liveTellsCard

/-- THE TIED CARD OF 'turntablelaw14.LiveWays'. -/
def liveWaysCard : Claim7 := { stood := { row := liveWaysRow, standIns := [], harness := (true, "78857e0c9043f7485f519345e27ac624d12ed5210d6f295c0db1f35da3fddc8d"), looks := false }, kinds := [], alts := [], laidByText := true, laidKinds := [.data, .data], laidTests := true, laidLooks := .later }
def LiveWaysCardSaid : Prop := Claim7.holds Tryz.pinned (.plain (OpenSpec.ofChange liveWaysSpec)) liveWaysCard

/-- THE TIED CARD OF 'turntablelaw14.LiveFirst'. -/
def liveFirstCard : Claim7 := { stood := { row := liveFirstRow, standIns := [], harness := (true, "78857e0c9043f7485f519345e27ac624d12ed5210d6f295c0db1f35da3fddc8d"), looks := false }, kinds := [], alts := [], laidByText := true, laidKinds := [.data, .data], laidTests := true, laidLooks := .later }
def LiveFirstCardSaid : Prop := Claim7.holds Tryz.pinned (.plain (OpenSpec.ofChange liveFirstSpec)) liveFirstCard

/-- THE SECOND FORM's CARD OF 'turntablelaw14.LiveTells'. -/
def liveTellsUptoCard : Claim7 := { stood := { row := liveTellsUptoRow, standIns := [], harness := (true, "78857e0c9043f7485f519345e27ac624d12ed5210d6f295c0db1f35da3fddc8d"), looks := false }, kinds := [], alts := [], laidByText := true, laidKinds := [.data, .data], laidTests := true, laidLooks := .later }
def LiveTellsUptoCardSaid : Prop := Claim7.holds Tryz.pinned (.plain (OpenSpec.upto liveTellsSpec)) liveTellsUptoCard

/-- THE SECOND FORM's CARD OF 'turntablelaw14.LiveWays'. -/
def liveWaysUptoCard : Claim7 := { stood := { row := liveWaysUptoRow, standIns := [], harness := (true, "78857e0c9043f7485f519345e27ac624d12ed5210d6f295c0db1f35da3fddc8d"), looks := false }, kinds := [], alts := [], laidByText := true, laidKinds := [.data, .data], laidTests := true, laidLooks := .later }
def LiveWaysUptoCardSaid : Prop := Claim7.holds Tryz.pinned (.plain (OpenSpec.upto liveWaysSpec)) liveWaysUptoCard

/-- THE SECOND FORM's CARD OF 'turntablelaw14.LiveFirst'. -/
def liveFirstUptoCard : Claim7 := { stood := { row := liveFirstUptoRow, standIns := [], harness := (true, "78857e0c9043f7485f519345e27ac624d12ed5210d6f295c0db1f35da3fddc8d"), looks := false }, kinds := [], alts := [], laidByText := true, laidKinds := [.data, .data], laidTests := true, laidLooks := .later }
def LiveFirstUptoCardSaid : Prop := Claim7.holds Tryz.pinned (.plain (OpenSpec.upto liveFirstSpec)) liveFirstUptoCard
end Rows
end Go.Proofs.YtfdhemcahjommaaGreatDoor
