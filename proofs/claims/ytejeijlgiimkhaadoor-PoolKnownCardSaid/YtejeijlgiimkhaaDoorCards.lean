/-
  DERIVED. GIVEN WITH THE SEED: THE CARDS: each row of YtejeijlgiimkhaaDoorRows.lean that lists a variable, with what it lists TIED to the program's text (the seventh form; the later family's looks); each row that meets fmt, with fmt's text TOLD by the authors' own Lean function (tested against real Go, not proved from fmt's source: count such statements apart). THE CARD IS WHAT COUNTS. Prove the row's statement (the work); the ties are given (YtejeijlgiimkhaaDoorTie.lean); close each card by the builder's one call (the guide's Derived/Test/ToyasCard.lean, 'card_holds'). Laid BY PROGRAM, IN A SANDBOX (cutbox-door.mjs). By AI agents, Wed Nov 11 2026. No macro, syntax, notation, axiom, sorry.
-/
import Derived.Test.YtejeijlgiimkhaaDoorRows
import GoSem.ClaimSeven
namespace Go.Proofs.YtejeijlgiimkhaaDoor
namespace Rows

/-- THE TIED CARD OF 'quilletlaw08.PoolPlay'. -/
def poolPlayCard : Claim7 := { stood := { row := poolPlayRow, standIns := [], harness := (true, "94d9e0f8247e5ed03da2d630ad168ba4590a273c45357e50939320cc98a56286"), looks := false }, kinds := [], alts := [], laidByText := true, laidKinds := [.data], laidTests := true, laidLooks := .later }
def PoolPlayCardSaid : Prop := Claim7.holds Tryd.pinned (.plain (OpenSpec.ofChange poolPlaySpec)) poolPlayCard

/-- THE TIED CARD OF 'quilletlaw08.PoolKnown'. -/
def poolKnownCard : Claim7 := { stood := { row := poolKnownRow, standIns := [], harness := (true, "94d9e0f8247e5ed03da2d630ad168ba4590a273c45357e50939320cc98a56286"), looks := false }, kinds := [], alts := [], laidByText := true, laidKinds := [.data], laidTests := true, laidLooks := .later }
def PoolKnownCardSaid : Prop := Claim7.holds Tryd.pinned (.plain (OpenSpec.ofChange poolKnownSpec)) poolKnownCard

/-- THE SECOND FORM's CARD OF 'quilletlaw08.PoolPlay'. -/
def poolPlayUptoCard : Claim7 := { stood := { row := poolPlayUptoRow, standIns := [], harness := (true, "94d9e0f8247e5ed03da2d630ad168ba4590a273c45357e50939320cc98a56286"), looks := false }, kinds := [], alts := [], laidByText := true, laidKinds := [.data], laidTests := true, laidLooks := .later }
def PoolPlayUptoCardSaid : Prop := Claim7.holds Tryd.pinned (.plain (OpenSpec.upto poolPlaySpec)) poolPlayUptoCard

/-- THE SECOND FORM's CARD OF 'quilletlaw08.PoolKnown'. -/
def poolKnownUptoCard : Claim7 := { stood := { row := poolKnownUptoRow, standIns := [], harness := (true, "94d9e0f8247e5ed03da2d630ad168ba4590a273c45357e50939320cc98a56286"), looks := false }, kinds := [], alts := [], laidByText := true, laidKinds := [.data], laidTests := true, laidLooks := .later }
def PoolKnownUptoCardSaid : Prop := Claim7.holds Tryd.pinned (.plain (OpenSpec.upto poolKnownSpec)) poolKnownUptoCard
end Rows
end Go.Proofs.YtejeijlgiimkhaaDoor
