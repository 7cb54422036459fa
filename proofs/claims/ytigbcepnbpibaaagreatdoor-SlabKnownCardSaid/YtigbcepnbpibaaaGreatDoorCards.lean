/-
  DERIVED. GIVEN WITH THE SEED: THE CARDS: each row of YtigbcepnbpibaaaGreatDoorRows.lean that lists a variable, with what it lists TIED to the program's text (the seventh form; the later family's looks); each row that meets fmt, with fmt's text TOLD by the authors' own Lean function (tested against real Go, not proved from fmt's source: count such statements apart). THE CARD IS WHAT COUNTS. Prove the row's statement (the work); the ties are given (YtigbcepnbpibaaaGreatDoorTie.lean); close each card by the builder's one call (the guide's Derived/Test/ToyasCard.lean, 'card_holds'). Laid BY PROGRAM, IN A SANDBOX (cutbox-door.mjs). By AI agents, Wed Nov 11 2026. No macro, syntax, notation, axiom, sorry.
-/
import Derived.Test.YtigbcepnbpibaaaGreatDoorRows
import GoSem.ClaimSeven
namespace Go.Proofs.YtigbcepnbpibaaaGreatDoor
namespace Rows

/-- THE TIED CARD OF 'quilletlaw11.SlabKnown'. -/
def slabKnownCard : Claim7 := { stood := { row := slabKnownRow, standIns := [], harness := (true, "0e75f54cd514fb250aa9bc90519b8d3b4fc46511bd0422850c654cba326ff80d"), looks := false }, kinds := [], alts := [], laidByText := true, laidKinds := [.data], laidTests := true, laidLooks := .later }
def SlabKnownCardSaid : Prop := Claim7.holds Tryz.pinned (.plain (OpenSpec.ofChange slabKnownSpec)) slabKnownCard

/-- THE TIED CARD OF 'quilletlaw11.SlabPlay'. -/
def slabPlayCard : Claim7 := { stood := { row := slabPlayRow, standIns := [], harness := (true, "0e75f54cd514fb250aa9bc90519b8d3b4fc46511bd0422850c654cba326ff80d"), looks := false }, kinds := [], alts := [], laidByText := true, laidKinds := [.data], laidTests := true, laidLooks := .later }
def SlabPlayCardSaid : Prop := Claim7.holds Tryz.pinned (.plain (OpenSpec.ofChange slabPlaySpec)) slabPlayCard

/-- THE SECOND FORM's CARD OF 'quilletlaw11.SlabKnown'. -/
def slabKnownUptoCard : Claim7 := { stood := { row := slabKnownUptoRow, standIns := [], harness := (true, "0e75f54cd514fb250aa9bc90519b8d3b4fc46511bd0422850c654cba326ff80d"), looks := false }, kinds := [], alts := [], laidByText := true, laidKinds := [.data], laidTests := true, laidLooks := .later }
def SlabKnownUptoCardSaid : Prop := Claim7.holds Tryz.pinned (.plain (OpenSpec.upto slabKnownSpec)) slabKnownUptoCard

/-- THE SECOND FORM's CARD OF 'quilletlaw11.SlabPlay'. -/
def slabPlayUptoCard : Claim7 := { stood := { row := slabPlayUptoRow, standIns := [], harness := (true, "0e75f54cd514fb250aa9bc90519b8d3b4fc46511bd0422850c654cba326ff80d"), looks := false }, kinds := [], alts := [], laidByText := true, laidKinds := [.data], laidTests := true, laidLooks := .later }
def SlabPlayUptoCardSaid : Prop := Claim7.holds Tryz.pinned (.plain (OpenSpec.upto slabPlaySpec)) slabPlayUptoCard
end Rows
end Go.Proofs.YtigbcepnbpibaaaGreatDoor
