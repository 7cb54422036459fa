/-
  DERIVED. GIVEN WITH THE SEED: THE CARDS: each row of YtacdbgepncimgabDoorRows.lean that lists a variable, with what it lists TIED to the program's text (the seventh form; the later family's looks); each row that meets fmt, with fmt's text TOLD by the authors' own Lean function (tested against real Go, not proved from fmt's source: count such statements apart). THE CARD IS WHAT COUNTS. Prove the row's statement (the work); the ties are given (YtacdbgepncimgabDoorTie.lean); close each card by the builder's one call (the guide's Derived/Test/ToyasCard.lean, 'card_holds'). Laid BY PROGRAM, IN A SANDBOX (cutbox-door.mjs). By AI agents, Wed Nov 11 2026. No macro, syntax, notation, axiom, sorry.
-/
import Derived.Test.YtacdbgepncimgabDoorRows
import GoSem.ClaimSeven
namespace Go.Proofs.YtacdbgepncimgabDoor
namespace Rows

/-- THE TIED CARD OF 'quilletlaw02.GeomKnown'. -/
def geomKnownCard : Claim7 := { stood := { row := geomKnownRow, standIns := [], harness := (true, "0adc65aeeae6267cd0dbcf040ac2bfd0cd4cee819b30e7a3da0903604bfc3a62"), looks := false }, kinds := [], alts := [], laidByText := true, laidKinds := [.data], laidTests := true, laidLooks := .later }
def GeomKnownCardSaid : Prop := Claim7.holds Tryd.pinned (.plain (OpenSpec.ofChange geomKnownSpec)) geomKnownCard

/-- THE TIED CARD OF 'quilletlaw02.GeomApart'. -/
def geomApartCard : Claim7 := { stood := { row := geomApartRow, standIns := [], harness := (true, "0adc65aeeae6267cd0dbcf040ac2bfd0cd4cee819b30e7a3da0903604bfc3a62"), looks := false }, kinds := [], alts := [], laidByText := true, laidKinds := [.data], laidTests := true, laidLooks := .later }
def GeomApartCardSaid : Prop := Claim7.holds Tryd.pinned (.plain (OpenSpec.ofChange geomApartSpec)) geomApartCard

/-- THE TIED CARD OF 'quilletlaw02.GeomWithin'. -/
def geomWithinCard : Claim7 := { stood := { row := geomWithinRow, standIns := [], harness := (true, "0adc65aeeae6267cd0dbcf040ac2bfd0cd4cee819b30e7a3da0903604bfc3a62"), looks := false }, kinds := [], alts := [], laidByText := true, laidKinds := [.data], laidTests := true, laidLooks := .later }
def GeomWithinCardSaid : Prop := Claim7.holds Tryd.pinned (.plain (OpenSpec.ofChange geomWithinSpec)) geomWithinCard

/-- THE TIED CARD OF 'quilletlaw02.GeomRows'. -/
def geomRowsCard : Claim7 := { stood := { row := geomRowsRow, standIns := [], harness := (true, "0adc65aeeae6267cd0dbcf040ac2bfd0cd4cee819b30e7a3da0903604bfc3a62"), looks := false }, kinds := [], alts := [], laidByText := true, laidKinds := [.data], laidTests := true, laidLooks := .later }
def GeomRowsCardSaid : Prop := Claim7.holds Tryd.pinned (.plain (OpenSpec.ofChange geomRowsSpec)) geomRowsCard

/-- THE SECOND FORM's CARD OF 'quilletlaw02.GeomKnown'. -/
def geomKnownUptoCard : Claim7 := { stood := { row := geomKnownUptoRow, standIns := [], harness := (true, "0adc65aeeae6267cd0dbcf040ac2bfd0cd4cee819b30e7a3da0903604bfc3a62"), looks := false }, kinds := [], alts := [], laidByText := true, laidKinds := [.data], laidTests := true, laidLooks := .later }
def GeomKnownUptoCardSaid : Prop := Claim7.holds Tryd.pinned (.plain (OpenSpec.upto geomKnownSpec)) geomKnownUptoCard

/-- THE SECOND FORM's CARD OF 'quilletlaw02.GeomApart'. -/
def geomApartUptoCard : Claim7 := { stood := { row := geomApartUptoRow, standIns := [], harness := (true, "0adc65aeeae6267cd0dbcf040ac2bfd0cd4cee819b30e7a3da0903604bfc3a62"), looks := false }, kinds := [], alts := [], laidByText := true, laidKinds := [.data], laidTests := true, laidLooks := .later }
def GeomApartUptoCardSaid : Prop := Claim7.holds Tryd.pinned (.plain (OpenSpec.upto geomApartSpec)) geomApartUptoCard

/-- THE SECOND FORM's CARD OF 'quilletlaw02.GeomWithin'. -/
def geomWithinUptoCard : Claim7 := { stood := { row := geomWithinUptoRow, standIns := [], harness := (true, "0adc65aeeae6267cd0dbcf040ac2bfd0cd4cee819b30e7a3da0903604bfc3a62"), looks := false }, kinds := [], alts := [], laidByText := true, laidKinds := [.data], laidTests := true, laidLooks := .later }
def GeomWithinUptoCardSaid : Prop := Claim7.holds Tryd.pinned (.plain (OpenSpec.upto geomWithinSpec)) geomWithinUptoCard

/-- THE SECOND FORM's CARD OF 'quilletlaw02.GeomRows'. -/
def geomRowsUptoCard : Claim7 := { stood := { row := geomRowsUptoRow, standIns := [], harness := (true, "0adc65aeeae6267cd0dbcf040ac2bfd0cd4cee819b30e7a3da0903604bfc3a62"), looks := false }, kinds := [], alts := [], laidByText := true, laidKinds := [.data], laidTests := true, laidLooks := .later }
def GeomRowsUptoCardSaid : Prop := Claim7.holds Tryd.pinned (.plain (OpenSpec.upto geomRowsSpec)) geomRowsUptoCard
end Rows
end Go.Proofs.YtacdbgepncimgabDoor
