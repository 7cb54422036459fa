/-
  DERIVED. GIVEN WITH THE SEED: THE CARDS: each row of YtllmdpfngmbjgaaDoorRows.lean that lists a variable, with what it lists TIED to the program's text (the seventh form; the later family's looks); each row that meets fmt, with fmt's text TOLD by the authors' own Lean function (tested against real Go, not proved from fmt's source: count such statements apart). THE CARD IS WHAT COUNTS. Prove the row's statement (the work); the ties are given (YtllmdpfngmbjgaaDoorTie.lean); close each card by the builder's one call (the guide's Derived/Test/ToyasCard.lean, 'card_holds'). Laid BY PROGRAM, IN A SANDBOX (cutbox-door.mjs). By AI agents, Wed Nov 11 2026. No macro, syntax, notation, axiom, sorry.
-/
import Derived.Test.YtllmdpfngmbjgaaDoorRows
import GoSem.ClaimSeven
namespace Go.Proofs.YtllmdpfngmbjgaaDoor
namespace Rows

/-- THE TIED CARD OF 'quilletlaw14.StateKnown'. -/
def stateKnownCard : Claim7 := { stood := { row := stateKnownRow, standIns := [], harness := (true, "5dadc93bd0af737993bd650f653f257ea4d2fefea454376d9bb12618ed9f5fa7"), looks := false }, kinds := [], alts := [], laidByText := true, laidKinds := [.data], laidTests := true, laidLooks := .later }
def StateKnownCardSaid : Prop := Claim7.holds Tryd.pinned (.plain (OpenSpec.ofChange stateKnownSpec)) stateKnownCard

/-- THE TIED CARD OF 'quilletlaw14.StateVers'. -/
def stateVersCard : Claim7 := { stood := { row := stateVersRow, standIns := [], harness := (true, "5dadc93bd0af737993bd650f653f257ea4d2fefea454376d9bb12618ed9f5fa7"), looks := false }, kinds := [], alts := [], laidByText := true, laidKinds := [.data], laidTests := true, laidLooks := .later }
def StateVersCardSaid : Prop := Claim7.holds Tryd.pinned (.plain (OpenSpec.ofChange stateVersSpec)) stateVersCard

/-- THE TIED CARD OF 'quilletlaw14.StateSettles'. -/
def stateSettlesCard : Claim7 := { stood := { row := stateSettlesRow, standIns := [], harness := (true, "5dadc93bd0af737993bd650f653f257ea4d2fefea454376d9bb12618ed9f5fa7"), looks := false }, kinds := [], alts := [], laidByText := true, laidKinds := [.data], laidTests := true, laidLooks := .later }
def StateSettlesCardSaid : Prop := Claim7.holds Tryd.pinned (.plain (OpenSpec.ofChange stateSettlesSpec)) stateSettlesCard

/-- THE SECOND FORM's CARD OF 'quilletlaw14.StateKnown'. -/
def stateKnownUptoCard : Claim7 := { stood := { row := stateKnownUptoRow, standIns := [], harness := (true, "5dadc93bd0af737993bd650f653f257ea4d2fefea454376d9bb12618ed9f5fa7"), looks := false }, kinds := [], alts := [], laidByText := true, laidKinds := [.data], laidTests := true, laidLooks := .later }
def StateKnownUptoCardSaid : Prop := Claim7.holds Tryd.pinned (.plain (OpenSpec.upto stateKnownSpec)) stateKnownUptoCard

/-- THE SECOND FORM's CARD OF 'quilletlaw14.StateVers'. -/
def stateVersUptoCard : Claim7 := { stood := { row := stateVersUptoRow, standIns := [], harness := (true, "5dadc93bd0af737993bd650f653f257ea4d2fefea454376d9bb12618ed9f5fa7"), looks := false }, kinds := [], alts := [], laidByText := true, laidKinds := [.data], laidTests := true, laidLooks := .later }
def StateVersUptoCardSaid : Prop := Claim7.holds Tryd.pinned (.plain (OpenSpec.upto stateVersSpec)) stateVersUptoCard

/-- THE SECOND FORM's CARD OF 'quilletlaw14.StateSettles'. -/
def stateSettlesUptoCard : Claim7 := { stood := { row := stateSettlesUptoRow, standIns := [], harness := (true, "5dadc93bd0af737993bd650f653f257ea4d2fefea454376d9bb12618ed9f5fa7"), looks := false }, kinds := [], alts := [], laidByText := true, laidKinds := [.data], laidTests := true, laidLooks := .later }
def StateSettlesUptoCardSaid : Prop := Claim7.holds Tryd.pinned (.plain (OpenSpec.upto stateSettlesSpec)) stateSettlesUptoCard
end Rows
end Go.Proofs.YtllmdpfngmbjgaaDoor
