/-
  DERIVED. GIVEN WITH THE SEED: THE CARDS: each row of YtafcbelcmaolpaaDoorRows.lean that lists a variable, with what it lists TIED to the program's text (the seventh form; the later family's looks); each row that meets fmt, with fmt's text TOLD by the authors' own Lean function (tested against real Go, not proved from fmt's source: count such statements apart). THE CARD IS WHAT COUNTS. Prove the row's statement (the work); the ties are given (YtafcbelcmaolpaaDoorTie.lean); close each card by the builder's one call (the guide's Derived/Test/ToyasCard.lean, 'card_holds'). Laid BY PROGRAM, IN A SANDBOX (cutbox-door.mjs). By AI agents, Wed Nov 11 2026. No macro, syntax, notation, axiom, sorry.
-/
import Derived.Test.YtafcbelcmaolpaaDoorRows
import GoSem.ClaimSeven
namespace Go.Proofs.YtafcbelcmaolpaaDoor
namespace Rows

/-- THE TIED CARD OF 'quilletlaw07.LockKnown'. -/
def lockKnownCard : Claim7 := { stood := { row := lockKnownRow, standIns := [], harness := (true, "d79564323357d98f0787f23a61977bd87221e0a563af0ec9f2f1ca072dea4bc7"), looks := false }, kinds := [], alts := [], laidByText := true, laidKinds := [.data], laidTests := true, laidLooks := .later }
def LockKnownCardSaid : Prop := Claim7.holds Tryd.pinned (.plain (OpenSpec.ofChange lockKnownSpec)) lockKnownCard

/-- THE TIED CARD OF 'quilletlaw07.LockTells'. -/
def lockTellsCard : Claim7 := { stood := { row := lockTellsRow, standIns := [], harness := (true, "d79564323357d98f0787f23a61977bd87221e0a563af0ec9f2f1ca072dea4bc7"), looks := false }, kinds := [], alts := [], laidByText := true, laidKinds := [.data], laidTests := true, laidLooks := .later }
def LockTellsCardSaid : Prop := Claim7.holds Tryd.pinned (.plain (OpenSpec.ofChange lockTellsSpec)) lockTellsCard

/-- THE TIED CARD OF 'quilletlaw07.LockPlay'. -/
def lockPlayCard : Claim7 := { stood := { row := lockPlayRow, standIns := [], harness := (true, "d79564323357d98f0787f23a61977bd87221e0a563af0ec9f2f1ca072dea4bc7"), looks := false }, kinds := [], alts := [], laidByText := true, laidKinds := [.data], laidTests := true, laidLooks := .later }
def LockPlayCardSaid : Prop := Claim7.holds Tryd.pinned (.plain (OpenSpec.ofChange lockPlaySpec)) lockPlayCard

/-- THE TIED CARD OF 'quilletlaw02.GeomApart'. -/
def geomApartCard : Claim7 := { stood := { row := geomApartRow, standIns := [], harness := (true, "d79564323357d98f0787f23a61977bd87221e0a563af0ec9f2f1ca072dea4bc7"), looks := false }, kinds := [], alts := [], laidByText := true, laidKinds := [.data], laidTests := true, laidLooks := .later }
def GeomApartCardSaid : Prop := Claim7.holds Tryd.pinned (.plain (OpenSpec.ofChange geomApartSpec)) geomApartCard

/-- THE SECOND FORM's CARD OF 'quilletlaw07.LockKnown'. -/
def lockKnownUptoCard : Claim7 := { stood := { row := lockKnownUptoRow, standIns := [], harness := (true, "d79564323357d98f0787f23a61977bd87221e0a563af0ec9f2f1ca072dea4bc7"), looks := false }, kinds := [], alts := [], laidByText := true, laidKinds := [.data], laidTests := true, laidLooks := .later }
def LockKnownUptoCardSaid : Prop := Claim7.holds Tryd.pinned (.plain (OpenSpec.upto lockKnownSpec)) lockKnownUptoCard

/-- THE SECOND FORM's CARD OF 'quilletlaw07.LockTells'. -/
def lockTellsUptoCard : Claim7 := { stood := { row := lockTellsUptoRow, standIns := [], harness := (true, "d79564323357d98f0787f23a61977bd87221e0a563af0ec9f2f1ca072dea4bc7"), looks := false }, kinds := [], alts := [], laidByText := true, laidKinds := [.data], laidTests := true, laidLooks := .later }
def LockTellsUptoCardSaid : Prop := Claim7.holds Tryd.pinned (.plain (OpenSpec.upto lockTellsSpec)) lockTellsUptoCard

/-- THE SECOND FORM's CARD OF 'quilletlaw07.LockPlay'. -/
def lockPlayUptoCard : Claim7 := { stood := { row := lockPlayUptoRow, standIns := [], harness := (true, "d79564323357d98f0787f23a61977bd87221e0a563af0ec9f2f1ca072dea4bc7"), looks := false }, kinds := [], alts := [], laidByText := true, laidKinds := [.data], laidTests := true, laidLooks := .later }
def LockPlayUptoCardSaid : Prop := Claim7.holds Tryd.pinned (.plain (OpenSpec.upto lockPlaySpec)) lockPlayUptoCard

/-- THE SECOND FORM's CARD OF 'quilletlaw02.GeomApart'. -/
def geomApartUptoCard : Claim7 := { stood := { row := geomApartUptoRow, standIns := [], harness := (true, "d79564323357d98f0787f23a61977bd87221e0a563af0ec9f2f1ca072dea4bc7"), looks := false }, kinds := [], alts := [], laidByText := true, laidKinds := [.data], laidTests := true, laidLooks := .later }
def GeomApartUptoCardSaid : Prop := Claim7.holds Tryd.pinned (.plain (OpenSpec.upto geomApartSpec)) geomApartUptoCard
end Rows
end Go.Proofs.YtafcbelcmaolpaaDoor
