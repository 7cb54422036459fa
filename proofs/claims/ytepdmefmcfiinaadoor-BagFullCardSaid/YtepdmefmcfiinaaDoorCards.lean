/-
  DERIVED. GIVEN WITH THE SEED: THE CARDS: each row of YtepdmefmcfiinaaDoorRows.lean that lists a variable, with what it lists TIED to the program's text (the seventh form; the later family's looks); each row that meets fmt, with fmt's text TOLD by the authors' own Lean function (tested against real Go, not proved from fmt's source: count such statements apart). THE CARD IS WHAT COUNTS. Prove the row's statement (the work); the ties are given (YtepdmefmcfiinaaDoorTie.lean); close each card by the builder's one call (the guide's Derived/Test/ToyasCard.lean, 'card_holds'). Laid BY PROGRAM, IN A SANDBOX (cutbox-door.mjs). By AI agents, Wed Nov 11 2026. No macro, syntax, notation, axiom, sorry.
-/
import Derived.Test.YtepdmefmcfiinaaDoorRows
import GoSem.ClaimSeven
namespace Go.Proofs.YtepdmefmcfiinaaDoor
namespace Rows

/-- THE TIED CARD OF 'quilletlaw09.BagPlay'. -/
def bagPlayCard : Claim7 := { stood := { row := bagPlayRow, standIns := [], harness := (true, "6bbea2124e49cb1d14ee01c09be162e0dce51bda1930ed92319f679105d07d9a"), looks := false }, kinds := [], alts := [], laidByText := true, laidKinds := [.data], laidTests := true, laidLooks := .later }
def BagPlayCardSaid : Prop := Claim7.holds Tryd.pinned (.plain (OpenSpec.ofChange bagPlaySpec)) bagPlayCard

/-- THE TIED CARD OF 'quilletlaw09.BagKnown'. -/
def bagKnownCard : Claim7 := { stood := { row := bagKnownRow, standIns := [], harness := (true, "6bbea2124e49cb1d14ee01c09be162e0dce51bda1930ed92319f679105d07d9a"), looks := false }, kinds := [], alts := [], laidByText := true, laidKinds := [.data], laidTests := true, laidLooks := .later }
def BagKnownCardSaid : Prop := Claim7.holds Tryd.pinned (.plain (OpenSpec.ofChange bagKnownSpec)) bagKnownCard

/-- THE TIED CARD OF 'quilletlaw09.BagFull'. -/
def bagFullCard : Claim7 := { stood := { row := bagFullRow, standIns := [], harness := (true, "6bbea2124e49cb1d14ee01c09be162e0dce51bda1930ed92319f679105d07d9a"), looks := false }, kinds := [], alts := [], laidByText := true, laidKinds := [.data], laidTests := true, laidLooks := .later }
def BagFullCardSaid : Prop := Claim7.holds Tryd.pinned (.plain (OpenSpec.ofChange bagFullSpec)) bagFullCard

/-- THE TIED CARD OF 'quilletlaw09.BagNodes'. -/
def bagNodesCard : Claim7 := { stood := { row := bagNodesRow, standIns := [], harness := (true, "6bbea2124e49cb1d14ee01c09be162e0dce51bda1930ed92319f679105d07d9a"), looks := false }, kinds := [], alts := [], laidByText := true, laidKinds := [.data], laidTests := true, laidLooks := .later }
def BagNodesCardSaid : Prop := Claim7.holds Tryd.pinned (.plain (OpenSpec.ofChange bagNodesSpec)) bagNodesCard

/-- THE TIED CARD OF 'quilletlaw09.BagLists'. -/
def bagListsCard : Claim7 := { stood := { row := bagListsRow, standIns := [], harness := (true, "6bbea2124e49cb1d14ee01c09be162e0dce51bda1930ed92319f679105d07d9a"), looks := false }, kinds := [], alts := [], laidByText := true, laidKinds := [.data], laidTests := true, laidLooks := .later }
def BagListsCardSaid : Prop := Claim7.holds Tryd.pinned (.plain (OpenSpec.ofChange bagListsSpec)) bagListsCard

/-- THE SECOND FORM's CARD OF 'quilletlaw09.BagPlay'. -/
def bagPlayUptoCard : Claim7 := { stood := { row := bagPlayUptoRow, standIns := [], harness := (true, "6bbea2124e49cb1d14ee01c09be162e0dce51bda1930ed92319f679105d07d9a"), looks := false }, kinds := [], alts := [], laidByText := true, laidKinds := [.data], laidTests := true, laidLooks := .later }
def BagPlayUptoCardSaid : Prop := Claim7.holds Tryd.pinned (.plain (OpenSpec.upto bagPlaySpec)) bagPlayUptoCard

/-- THE SECOND FORM's CARD OF 'quilletlaw09.BagKnown'. -/
def bagKnownUptoCard : Claim7 := { stood := { row := bagKnownUptoRow, standIns := [], harness := (true, "6bbea2124e49cb1d14ee01c09be162e0dce51bda1930ed92319f679105d07d9a"), looks := false }, kinds := [], alts := [], laidByText := true, laidKinds := [.data], laidTests := true, laidLooks := .later }
def BagKnownUptoCardSaid : Prop := Claim7.holds Tryd.pinned (.plain (OpenSpec.upto bagKnownSpec)) bagKnownUptoCard

/-- THE SECOND FORM's CARD OF 'quilletlaw09.BagFull'. -/
def bagFullUptoCard : Claim7 := { stood := { row := bagFullUptoRow, standIns := [], harness := (true, "6bbea2124e49cb1d14ee01c09be162e0dce51bda1930ed92319f679105d07d9a"), looks := false }, kinds := [], alts := [], laidByText := true, laidKinds := [.data], laidTests := true, laidLooks := .later }
def BagFullUptoCardSaid : Prop := Claim7.holds Tryd.pinned (.plain (OpenSpec.upto bagFullSpec)) bagFullUptoCard

/-- THE SECOND FORM's CARD OF 'quilletlaw09.BagNodes'. -/
def bagNodesUptoCard : Claim7 := { stood := { row := bagNodesUptoRow, standIns := [], harness := (true, "6bbea2124e49cb1d14ee01c09be162e0dce51bda1930ed92319f679105d07d9a"), looks := false }, kinds := [], alts := [], laidByText := true, laidKinds := [.data], laidTests := true, laidLooks := .later }
def BagNodesUptoCardSaid : Prop := Claim7.holds Tryd.pinned (.plain (OpenSpec.upto bagNodesSpec)) bagNodesUptoCard

/-- THE SECOND FORM's CARD OF 'quilletlaw09.BagLists'. -/
def bagListsUptoCard : Claim7 := { stood := { row := bagListsUptoRow, standIns := [], harness := (true, "6bbea2124e49cb1d14ee01c09be162e0dce51bda1930ed92319f679105d07d9a"), looks := false }, kinds := [], alts := [], laidByText := true, laidKinds := [.data], laidTests := true, laidLooks := .later }
def BagListsUptoCardSaid : Prop := Claim7.holds Tryd.pinned (.plain (OpenSpec.upto bagListsSpec)) bagListsUptoCard
end Rows
end Go.Proofs.YtepdmefmcfiinaaDoor
