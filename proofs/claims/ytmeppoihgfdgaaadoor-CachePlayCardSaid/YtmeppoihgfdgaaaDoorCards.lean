/-
  DERIVED. GIVEN WITH THE SEED: THE CARDS: each row of YtmeppoihgfdgaaaDoorRows.lean that lists a variable, with what it lists TIED to the program's text (the seventh form; the later family's looks); each row that meets fmt, with fmt's text TOLD by the authors' own Lean function (tested against real Go, not proved from fmt's source: count such statements apart). THE CARD IS WHAT COUNTS. Prove the row's statement (the work); the ties are given (YtmeppoihgfdgaaaDoorTie.lean); close each card by the builder's one call (the guide's Derived/Test/ToyasCard.lean, 'card_holds'). Laid BY PROGRAM, IN A SANDBOX (cutbox-door.mjs). By AI agents, Wed Nov 11 2026. No macro, syntax, notation, axiom, sorry.
-/
import Derived.Test.YtmeppoihgfdgaaaDoorRows
import GoSem.ClaimSeven
namespace Go.Proofs.YtmeppoihgfdgaaaDoor
namespace Rows

/-- THE TIED CARD OF 'quilletlaw12.CacheKnown'. -/
def cacheKnownCard : Claim7 := { stood := { row := cacheKnownRow, standIns := [], harness := (true, "6e74c435908352da2b4fb1bee7c5e894a193dc4144db98b2105c98a57808b759"), looks := false }, kinds := [], alts := [], laidByText := true, laidKinds := [.data], laidTests := true, laidLooks := .later }
def CacheKnownCardSaid : Prop := Claim7.holds Tryd.pinned (.plain (OpenSpec.ofChange cacheKnownSpec)) cacheKnownCard

/-- THE TIED CARD OF 'quilletlaw12.CacheTells'. -/
def cacheTellsCard : Claim7 := { stood := { row := cacheTellsRow, standIns := [], harness := (true, "6e74c435908352da2b4fb1bee7c5e894a193dc4144db98b2105c98a57808b759"), looks := false }, kinds := [], alts := [], laidByText := true, laidKinds := [.data], laidTests := true, laidLooks := .later }
def CacheTellsCardSaid : Prop := Claim7.holds Tryd.pinned (.plain (OpenSpec.ofChange cacheTellsSpec)) cacheTellsCard

/-- THE TIED CARD OF 'quilletlaw12.CachePlay'. -/
def cachePlayCard : Claim7 := { stood := { row := cachePlayRow, standIns := [], harness := (true, "6e74c435908352da2b4fb1bee7c5e894a193dc4144db98b2105c98a57808b759"), looks := false }, kinds := [], alts := [], laidByText := true, laidKinds := [.data], laidTests := true, laidLooks := .later }
def CachePlayCardSaid : Prop := Claim7.holds Tryd.pinned (.plain (OpenSpec.ofChange cachePlaySpec)) cachePlayCard

/-- THE SECOND FORM's CARD OF 'quilletlaw12.CacheKnown'. -/
def cacheKnownUptoCard : Claim7 := { stood := { row := cacheKnownUptoRow, standIns := [], harness := (true, "6e74c435908352da2b4fb1bee7c5e894a193dc4144db98b2105c98a57808b759"), looks := false }, kinds := [], alts := [], laidByText := true, laidKinds := [.data], laidTests := true, laidLooks := .later }
def CacheKnownUptoCardSaid : Prop := Claim7.holds Tryd.pinned (.plain (OpenSpec.upto cacheKnownSpec)) cacheKnownUptoCard

/-- THE SECOND FORM's CARD OF 'quilletlaw12.CacheTells'. -/
def cacheTellsUptoCard : Claim7 := { stood := { row := cacheTellsUptoRow, standIns := [], harness := (true, "6e74c435908352da2b4fb1bee7c5e894a193dc4144db98b2105c98a57808b759"), looks := false }, kinds := [], alts := [], laidByText := true, laidKinds := [.data], laidTests := true, laidLooks := .later }
def CacheTellsUptoCardSaid : Prop := Claim7.holds Tryd.pinned (.plain (OpenSpec.upto cacheTellsSpec)) cacheTellsUptoCard

/-- THE SECOND FORM's CARD OF 'quilletlaw12.CachePlay'. -/
def cachePlayUptoCard : Claim7 := { stood := { row := cachePlayUptoRow, standIns := [], harness := (true, "6e74c435908352da2b4fb1bee7c5e894a193dc4144db98b2105c98a57808b759"), looks := false }, kinds := [], alts := [], laidByText := true, laidKinds := [.data], laidTests := true, laidLooks := .later }
def CachePlayUptoCardSaid : Prop := Claim7.holds Tryd.pinned (.plain (OpenSpec.upto cachePlaySpec)) cachePlayUptoCard
end Rows
end Go.Proofs.YtmeppoihgfdgaaaDoor
