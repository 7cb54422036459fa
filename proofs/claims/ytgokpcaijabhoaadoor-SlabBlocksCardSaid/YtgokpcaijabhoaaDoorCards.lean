/-
  DERIVED. GIVEN WITH THE SEED: THE CARDS: each row of YtgokpcaijabhoaaDoorRows.lean that lists a variable, with what it lists TIED to the program's text (the seventh form; the later family's looks); each row that meets fmt, with fmt's text TOLD by the authors' own Lean function (tested against real Go, not proved from fmt's source: count such statements apart). THE CARD IS WHAT COUNTS. Prove the row's statement (the work); the ties are given (YtgokpcaijabhoaaDoorTie.lean); close each card by the builder's one call (the guide's Derived/Test/ToyasCard.lean, 'card_holds'). Laid BY PROGRAM, IN A SANDBOX (cutbox-door.mjs). By AI agents, Wed Nov 11 2026. No macro, syntax, notation, axiom, sorry.
-/
import Derived.Test.YtgokpcaijabhoaaDoorRows
import GoSem.ClaimSeven
namespace Go.Proofs.YtgokpcaijabhoaaDoor
namespace Rows

/-- THE TIED CARD OF 'quilletlaw11.SlabBlocks'. -/
def slabBlocksCard : Claim7 := { stood := { row := slabBlocksRow, standIns := [], harness := (true, "e595a4e0f4ae5512e5875b99bf185acbab8a4f4e5343938c78f392d06fb8d0f8"), looks := false }, kinds := [], alts := [], laidByText := true, laidKinds := [.data], laidTests := true, laidLooks := .later }
def SlabBlocksCardSaid : Prop := Claim7.holds Tryd.pinned (.plain (OpenSpec.ofChange slabBlocksSpec)) slabBlocksCard

/-- THE SECOND FORM's CARD OF 'quilletlaw11.SlabBlocks'. -/
def slabBlocksUptoCard : Claim7 := { stood := { row := slabBlocksUptoRow, standIns := [], harness := (true, "e595a4e0f4ae5512e5875b99bf185acbab8a4f4e5343938c78f392d06fb8d0f8"), looks := false }, kinds := [], alts := [], laidByText := true, laidKinds := [.data], laidTests := true, laidLooks := .later }
def SlabBlocksUptoCardSaid : Prop := Claim7.holds Tryd.pinned (.plain (OpenSpec.upto slabBlocksSpec)) slabBlocksUptoCard
end Rows
end Go.Proofs.YtgokpcaijabhoaaDoor
