/-
  DERIVED. GIVEN WITH THE SEED: THE CARDS: each row of YteenndlapjnclaaDoorRows.lean that lists a variable, with what it lists TIED to the program's text (the seventh form; the later family's looks); each row that meets fmt, with fmt's text TOLD by the authors' own Lean function (tested against real Go, not proved from fmt's source: count such statements apart). THE CARD IS WHAT COUNTS. Prove the row's statement (the work); the ties are given (YteenndlapjnclaaDoorTie.lean); close each card by the builder's one call (the guide's Derived/Test/ToyasCard.lean, 'card_holds'). Laid BY PROGRAM, IN A SANDBOX (cutbox-door.mjs). By AI agents, Wed Nov 11 2026. No macro, syntax, notation, axiom, sorry.
-/
import Derived.Test.YteenndlapjnclaaDoorRows
import GoSem.ClaimSeven
namespace Go.Proofs.YteenndlapjnclaaDoor
namespace Rows

/-- THE TIED CARD OF 'quilletlaw10.RunsKnown'. -/
def runsKnownCard : Claim7 := { stood := { row := runsKnownRow, standIns := [], harness := (true, "f2b9e2446eaf1e34e7ef7134554bd2f9a8807fe2bb8896d9080ec232c3e6407c"), looks := false }, kinds := [], alts := [], laidByText := true, laidKinds := [.data], laidTests := true, laidLooks := .later }
def RunsKnownCardSaid : Prop := Claim7.holds Tryd.pinned (.plain (OpenSpec.ofChange runsKnownSpec)) runsKnownCard

/-- THE TIED CARD OF 'quilletlaw10.RunsApart'. -/
def runsApartCard : Claim7 := { stood := { row := runsApartRow, standIns := [], harness := (true, "f2b9e2446eaf1e34e7ef7134554bd2f9a8807fe2bb8896d9080ec232c3e6407c"), looks := false }, kinds := [], alts := [], laidByText := true, laidKinds := [.data], laidTests := true, laidLooks := .later }
def RunsApartCardSaid : Prop := Claim7.holds Tryd.pinned (.plain (OpenSpec.ofChange runsApartSpec)) runsApartCard

/-- THE TIED CARD OF 'quilletlaw10.RunsBest'. -/
def runsBestCard : Claim7 := { stood := { row := runsBestRow, standIns := [], harness := (true, "f2b9e2446eaf1e34e7ef7134554bd2f9a8807fe2bb8896d9080ec232c3e6407c"), looks := false }, kinds := [], alts := [], laidByText := true, laidKinds := [.data], laidTests := true, laidLooks := .later }
def RunsBestCardSaid : Prop := Claim7.holds Tryd.pinned (.plain (OpenSpec.ofChange runsBestSpec)) runsBestCard

/-- THE TIED CARD OF 'quilletlaw10.RunsCover'. -/
def runsCoverCard : Claim7 := { stood := { row := runsCoverRow, standIns := [], harness := (true, "f2b9e2446eaf1e34e7ef7134554bd2f9a8807fe2bb8896d9080ec232c3e6407c"), looks := false }, kinds := [], alts := [], laidByText := true, laidKinds := [.data], laidTests := true, laidLooks := .later }
def RunsCoverCardSaid : Prop := Claim7.holds Tryd.pinned (.plain (OpenSpec.ofChange runsCoverSpec)) runsCoverCard

/-- THE SECOND FORM's CARD OF 'quilletlaw10.RunsKnown'. -/
def runsKnownUptoCard : Claim7 := { stood := { row := runsKnownUptoRow, standIns := [], harness := (true, "f2b9e2446eaf1e34e7ef7134554bd2f9a8807fe2bb8896d9080ec232c3e6407c"), looks := false }, kinds := [], alts := [], laidByText := true, laidKinds := [.data], laidTests := true, laidLooks := .later }
def RunsKnownUptoCardSaid : Prop := Claim7.holds Tryd.pinned (.plain (OpenSpec.upto runsKnownSpec)) runsKnownUptoCard

/-- THE SECOND FORM's CARD OF 'quilletlaw10.RunsApart'. -/
def runsApartUptoCard : Claim7 := { stood := { row := runsApartUptoRow, standIns := [], harness := (true, "f2b9e2446eaf1e34e7ef7134554bd2f9a8807fe2bb8896d9080ec232c3e6407c"), looks := false }, kinds := [], alts := [], laidByText := true, laidKinds := [.data], laidTests := true, laidLooks := .later }
def RunsApartUptoCardSaid : Prop := Claim7.holds Tryd.pinned (.plain (OpenSpec.upto runsApartSpec)) runsApartUptoCard

/-- THE SECOND FORM's CARD OF 'quilletlaw10.RunsBest'. -/
def runsBestUptoCard : Claim7 := { stood := { row := runsBestUptoRow, standIns := [], harness := (true, "f2b9e2446eaf1e34e7ef7134554bd2f9a8807fe2bb8896d9080ec232c3e6407c"), looks := false }, kinds := [], alts := [], laidByText := true, laidKinds := [.data], laidTests := true, laidLooks := .later }
def RunsBestUptoCardSaid : Prop := Claim7.holds Tryd.pinned (.plain (OpenSpec.upto runsBestSpec)) runsBestUptoCard

/-- THE SECOND FORM's CARD OF 'quilletlaw10.RunsCover'. -/
def runsCoverUptoCard : Claim7 := { stood := { row := runsCoverUptoRow, standIns := [], harness := (true, "f2b9e2446eaf1e34e7ef7134554bd2f9a8807fe2bb8896d9080ec232c3e6407c"), looks := false }, kinds := [], alts := [], laidByText := true, laidKinds := [.data], laidTests := true, laidLooks := .later }
def RunsCoverUptoCardSaid : Prop := Claim7.holds Tryd.pinned (.plain (OpenSpec.upto runsCoverSpec)) runsCoverUptoCard
end Rows
end Go.Proofs.YteenndlapjnclaaDoor
