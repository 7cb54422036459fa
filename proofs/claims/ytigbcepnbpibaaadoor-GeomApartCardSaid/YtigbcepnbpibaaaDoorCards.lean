/-
  DERIVED. GIVEN WITH THE SEED: THE CARDS: each row of YtigbcepnbpibaaaDoorRows.lean that lists a variable, with what it lists TIED to the program's text (the seventh form; the later family's looks); each row that meets fmt, with fmt's text TOLD by the authors' own Lean function (tested against real Go, not proved from fmt's source: count such statements apart). THE CARD IS WHAT COUNTS. Prove the row's statement (the work); the ties are given (YtigbcepnbpibaaaDoorTie.lean); close each card by the builder's one call (the guide's Derived/Test/ToyasCard.lean, 'card_holds'). Laid BY PROGRAM, IN A SANDBOX (cutbox-door.mjs). By AI agents, Wed Nov 11 2026. No macro, syntax, notation, axiom, sorry.
-/
import Derived.Test.YtigbcepnbpibaaaDoorRows
import GoSem.ClaimSeven
namespace Go.Proofs.YtigbcepnbpibaaaDoor
namespace Rows

/-- THE TIED CARD OF 'quilletlaw11.SlabBlocks'. -/
def slabBlocksCard : Claim7 := { stood := { row := slabBlocksRow, standIns := [], harness := (true, "26166ba93f933515880b2a57ece81c3d792fb31b0b63a36f5cc9e34056336c18"), looks := false }, kinds := [], alts := [], laidByText := true, laidKinds := [.data], laidTests := true, laidLooks := .later }
def SlabBlocksCardSaid : Prop := Claim7.holds Tryd.pinned (.plain (OpenSpec.ofChange slabBlocksSpec)) slabBlocksCard

/-- THE TIED CARD OF 'quilletlaw02.GeomApart'. -/
def geomApartCard : Claim7 := { stood := { row := geomApartRow, standIns := [], harness := (true, "26166ba93f933515880b2a57ece81c3d792fb31b0b63a36f5cc9e34056336c18"), looks := false }, kinds := [], alts := [], laidByText := true, laidKinds := [.data], laidTests := true, laidLooks := .later }
def GeomApartCardSaid : Prop := Claim7.holds Tryd.pinned (.plain (OpenSpec.ofChange geomApartSpec)) geomApartCard

/-- THE SECOND FORM's CARD OF 'quilletlaw11.SlabBlocks'. -/
def slabBlocksUptoCard : Claim7 := { stood := { row := slabBlocksUptoRow, standIns := [], harness := (true, "26166ba93f933515880b2a57ece81c3d792fb31b0b63a36f5cc9e34056336c18"), looks := false }, kinds := [], alts := [], laidByText := true, laidKinds := [.data], laidTests := true, laidLooks := .later }
def SlabBlocksUptoCardSaid : Prop := Claim7.holds Tryd.pinned (.plain (OpenSpec.upto slabBlocksSpec)) slabBlocksUptoCard

/-- THE SECOND FORM's CARD OF 'quilletlaw02.GeomApart'. -/
def geomApartUptoCard : Claim7 := { stood := { row := geomApartUptoRow, standIns := [], harness := (true, "26166ba93f933515880b2a57ece81c3d792fb31b0b63a36f5cc9e34056336c18"), looks := false }, kinds := [], alts := [], laidByText := true, laidKinds := [.data], laidTests := true, laidLooks := .later }
def GeomApartUptoCardSaid : Prop := Claim7.holds Tryd.pinned (.plain (OpenSpec.upto geomApartSpec)) geomApartUptoCard
end Rows
end Go.Proofs.YtigbcepnbpibaaaDoor
