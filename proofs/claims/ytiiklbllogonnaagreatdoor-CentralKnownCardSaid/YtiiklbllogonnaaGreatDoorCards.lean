/-
  DERIVED. GIVEN WITH THE SEED: THE CARDS: each row of YtiiklbllogonnaaGreatDoorRows.lean that lists a variable, with what it lists TIED to the program's text (the seventh form; the later family's looks); each row that meets fmt, with fmt's text TOLD by the authors' own Lean function (tested against real Go, not proved from fmt's source: count such statements apart). THE CARD IS WHAT COUNTS. Prove the row's statement (the work); the ties are given (YtiiklbllogonnaaGreatDoorTie.lean); close each card by the builder's one call (the guide's Derived/Test/ToyasCard.lean, 'card_holds'). Laid BY PROGRAM, IN A SANDBOX (cutbox-door.mjs). By AI agents, Wed Nov 11 2026. No macro, syntax, notation, axiom, sorry.
-/
import Derived.Test.YtiiklbllogonnaaGreatDoorRows
import GoSem.ClaimSeven
namespace Go.Proofs.YtiiklbllogonnaaGreatDoor
namespace Rows

/-- THE TIED CARD OF 'quilletlaw13.CentralPlay'. -/
def centralPlayCard : Claim7 := { stood := { row := centralPlayRow, standIns := [], harness := (true, "be9bb28f55868bb4d441bc30efa13e57be18267280169910a1b90448df3cefa9"), looks := false }, kinds := [], alts := [], laidByText := true, laidKinds := [.data], laidTests := true, laidLooks := .later }
def CentralPlayCardSaid : Prop := Claim7.holds Tryz.pinned (.plain (OpenSpec.ofChange centralPlaySpec)) centralPlayCard

/-- THE TIED CARD OF 'quilletlaw13.CentralKnown'. -/
def centralKnownCard : Claim7 := { stood := { row := centralKnownRow, standIns := [], harness := (true, "be9bb28f55868bb4d441bc30efa13e57be18267280169910a1b90448df3cefa9"), looks := false }, kinds := [], alts := [], laidByText := true, laidKinds := [.data], laidTests := true, laidLooks := .later }
def CentralKnownCardSaid : Prop := Claim7.holds Tryz.pinned (.plain (OpenSpec.ofChange centralKnownSpec)) centralKnownCard

/-- THE TIED CARD OF 'quilletlaw13.CentralEpoch'. -/
def centralEpochCard : Claim7 := { stood := { row := centralEpochRow, standIns := [], harness := (true, "be9bb28f55868bb4d441bc30efa13e57be18267280169910a1b90448df3cefa9"), looks := false }, kinds := [], alts := [], laidByText := true, laidKinds := [.data], laidTests := true, laidLooks := .later }
def CentralEpochCardSaid : Prop := Claim7.holds Tryz.pinned (.plain (OpenSpec.ofChange centralEpochSpec)) centralEpochCard

/-- THE TIED CARD OF 'quilletlaw13.CentralNear'. -/
def centralNearCard : Claim7 := { stood := { row := centralNearRow, standIns := [], harness := (true, "be9bb28f55868bb4d441bc30efa13e57be18267280169910a1b90448df3cefa9"), looks := false }, kinds := [], alts := [], laidByText := true, laidKinds := [.data], laidTests := true, laidLooks := .later }
def CentralNearCardSaid : Prop := Claim7.holds Tryz.pinned (.plain (OpenSpec.ofChange centralNearSpec)) centralNearCard

/-- THE SECOND FORM's CARD OF 'quilletlaw13.CentralPlay'. -/
def centralPlayUptoCard : Claim7 := { stood := { row := centralPlayUptoRow, standIns := [], harness := (true, "be9bb28f55868bb4d441bc30efa13e57be18267280169910a1b90448df3cefa9"), looks := false }, kinds := [], alts := [], laidByText := true, laidKinds := [.data], laidTests := true, laidLooks := .later }
def CentralPlayUptoCardSaid : Prop := Claim7.holds Tryz.pinned (.plain (OpenSpec.upto centralPlaySpec)) centralPlayUptoCard

/-- THE SECOND FORM's CARD OF 'quilletlaw13.CentralKnown'. -/
def centralKnownUptoCard : Claim7 := { stood := { row := centralKnownUptoRow, standIns := [], harness := (true, "be9bb28f55868bb4d441bc30efa13e57be18267280169910a1b90448df3cefa9"), looks := false }, kinds := [], alts := [], laidByText := true, laidKinds := [.data], laidTests := true, laidLooks := .later }
def CentralKnownUptoCardSaid : Prop := Claim7.holds Tryz.pinned (.plain (OpenSpec.upto centralKnownSpec)) centralKnownUptoCard

/-- THE SECOND FORM's CARD OF 'quilletlaw13.CentralEpoch'. -/
def centralEpochUptoCard : Claim7 := { stood := { row := centralEpochUptoRow, standIns := [], harness := (true, "be9bb28f55868bb4d441bc30efa13e57be18267280169910a1b90448df3cefa9"), looks := false }, kinds := [], alts := [], laidByText := true, laidKinds := [.data], laidTests := true, laidLooks := .later }
def CentralEpochUptoCardSaid : Prop := Claim7.holds Tryz.pinned (.plain (OpenSpec.upto centralEpochSpec)) centralEpochUptoCard

/-- THE SECOND FORM's CARD OF 'quilletlaw13.CentralNear'. -/
def centralNearUptoCard : Claim7 := { stood := { row := centralNearUptoRow, standIns := [], harness := (true, "be9bb28f55868bb4d441bc30efa13e57be18267280169910a1b90448df3cefa9"), looks := false }, kinds := [], alts := [], laidByText := true, laidKinds := [.data], laidTests := true, laidLooks := .later }
def CentralNearUptoCardSaid : Prop := Claim7.holds Tryz.pinned (.plain (OpenSpec.upto centralNearSpec)) centralNearUptoCard
end Rows
end Go.Proofs.YtiiklbllogonnaaGreatDoor
