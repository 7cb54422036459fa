/-
  NARROWER THAN 'FOR EVERY INPUT', by the rows' own cells (each row's printed sentence says how): BagPlay: laid · BagKnown: laid · BagFull: laid · BagNodes: laid · BagLists: laid.
  DERIVED. THE GIVEN ROWS OF THIS SEAT. 5 by the template 'for every input the law returns true; each argument reads behind the call as it read before'; 0 by the template 'total and deterministic' (their statements: YtepdmefmcfiinaaDoorTotals.lean).
  GIVEN WITH THE SEED: the statements are not yours to turn. If you find one false, say at which input.
  Laid BY PROGRAM, IN A SANDBOX (cutbox-rows.mjs): the forced cells as the released guide's own fill.sh prints them over the translation a9a46bf10b7b9c65… (all of the seat's roots in one cut). By AI agents, Wed Nov 11 2026. No macro, syntax, notation, axiom, sorry.
-/
import Derived.Test.YtepdmefmcfiinaaDoorChecked
import GoSem.Claim
import GoSem.ClaimJoined
import GoSem.ClaimMapViews
import Derived.JoinedTies
import Derived.KernelRfl
namespace Go.Proofs.YtepdmefmcfiinaaDoor
/- THE CELL 'sum', in the pinned program and in every row, IS THE sha256 OF THE DUMP (.gsa) THAT YtepdmefmcfiinaaDoorProg.lean LOADS. Nothing in Lean hashes anything: it is a label: what it is worth is what the hold of that sum in a sandbox is worth. -/
noncomputable def Tryd.pinned : Pinned := { name := "ytepdmefmcfiinaadoor", sum := "a9a46bf10b7b9c65714223538b1b8dd8b821aa9188c85a1be34f356a8c5e7f3c", checked := Tryd.checked }
namespace Rows
def none {H : Type} : Left H := { results := [], args := [] }

/- WHAT THE LISTED PACKAGE-LEVEL VARIABLES READ AS WHEN THE CALL BEGINS. Each datum BY PROGRAM (the guide's laid-datum.mjs) off the statement by which the dump's own 'gosem.cut.vars' lays the variable. In a bare row this is a premise. The card (YtepdmefmcfiinaaDoorCards.lean) ties it to the program's text. -/
def laid_quillet_geom_told {H : Type} : DataW H := .agg [.agg [.lit (.int .i64 0), .lit (.int .i64 0), .lit (.int .i64 0)], .agg [.lit (.int .i64 0), .lit (.int .i64 0), .lit (.int .i64 0)], .agg [.lit (.int .i64 1), .lit (.int .i64 0), .lit (.int .i64 0)], .agg [.lit (.int .i64 2), .lit (.int .i64 0), .lit (.int .i64 0)], .agg [.lit (.int .i64 0), .lit (.int .i64 0), .lit (.int .i64 0)], .agg [.lit (.int .i64 3), .lit (.int .i64 0), .lit (.int .i64 0)], .agg [.lit (.int .i64 7), .lit (.int .i64 0), .lit (.int .i64 0)], .agg [.lit (.int .i64 8), .lit (.int .i64 0), .lit (.int .i64 0)], .agg [.lit (.int .i64 8), .lit (.int .i64 0), .lit (.int .i64 0)], .agg [.lit (.int .i64 8), .lit (.int .i64 0), .lit (.int .i64 0)], .agg [.lit (.int .i64 9), .lit (.int .i64 0), .lit (.int .i64 0)], .agg [.lit (.int .i64 9), .lit (.int .i64 0), .lit (.int .i64 0)], .agg [.lit (.int .i64 7), .lit (.int .i64 3), .lit (.int .i64 4)], .agg [.lit (.int .i64 7), .lit (.int .i64 3), .lit (.int .i64 0)], .agg [.lit (.int .i64 7), .lit (.int .i64 5), .lit (.int .i64 0)], .agg [.lit (.int .i64 7), .lit (.int .i64 0), .lit (.int .i64 0)], .agg [.lit (.int .i64 7), .lit (.int .i64 10), .lit (.int .i64 0)], .agg [.lit (.int .i64 11), .lit (.int .i64 0), .lit (.int .i64 0)], .agg [.lit (.int .i64 11), .lit (.int .i64 6), .lit (.int .i64 0)]]

/-- 'quilletlaw09.BagPlay': WHATEVER THE INPUT: true; the input reads as it did. -/
def bagPlaySpec : ChangeSpec := { name := "bagPlay", fn := fun _ => fun
  | [d1, d2, d3] => { results := [.lit (.bool true)], args := [d1, d2, d3] }
  | _ => none }
def bagPlayRow : OpenClaim := { program := "ytepdmefmcfiinaadoor", sum := "a9a46bf10b7b9c65714223538b1b8dd8b821aa9188c85a1be34f356a8c5e7f3c", func := "quillet/quilletlaw09.BagPlay", spec := "bagPlay", unfollowed := true, recurses := true, named := ["quillet/geom.told"], apart := false, laid := [("quillet/geom.told", laid_quillet_geom_told)] }
def BagPlaySaid : Prop := bagPlayRow.holds Tryd.pinned (OpenSpec.ofChange bagPlaySpec)

/-- ITS FALSE NEIGHBOUR: 'it returns false'. Refute it at one input. -/
def bagPlayWrong : ChangeSpec := { name := "bagPlay", fn := fun _ => fun
  | [d1, d2, d3] => { results := [.lit (.bool false)], args := [d1, d2, d3] }
  | _ => none }
def BagPlayWrongFalsely : Prop := bagPlayRow.holds Tryd.pinned (OpenSpec.ofChange bagPlayWrong)

/-- 'quilletlaw09.BagKnown': WHATEVER THE INPUT: true; the input reads as it did. -/
def bagKnownSpec : ChangeSpec := { name := "bagKnown", fn := fun _ => fun
  | [] => { results := [.lit (.bool true)], args := [] }
  | _ => none }
def bagKnownRow : OpenClaim := { program := "ytepdmefmcfiinaadoor", sum := "a9a46bf10b7b9c65714223538b1b8dd8b821aa9188c85a1be34f356a8c5e7f3c", func := "quillet/quilletlaw09.BagKnown", spec := "bagKnown", unfollowed := true, recurses := true, named := ["quillet/geom.told"], apart := false, laid := [("quillet/geom.told", laid_quillet_geom_told)] }
def BagKnownSaid : Prop := bagKnownRow.holds Tryd.pinned (OpenSpec.ofChange bagKnownSpec)

/-- ITS FALSE NEIGHBOUR: 'it returns false'. Refute it at one input. -/
def bagKnownWrong : ChangeSpec := { name := "bagKnown", fn := fun _ => fun
  | [] => { results := [.lit (.bool false)], args := [] }
  | _ => none }
def BagKnownWrongFalsely : Prop := bagKnownRow.holds Tryd.pinned (OpenSpec.ofChange bagKnownWrong)

/-- 'quilletlaw09.BagFull': WHATEVER THE INPUT: true; the input reads as it did. -/
def bagFullSpec : ChangeSpec := { name := "bagFull", fn := fun _ => fun
  | [] => { results := [.lit (.bool true)], args := [] }
  | _ => none }
def bagFullRow : OpenClaim := { program := "ytepdmefmcfiinaadoor", sum := "a9a46bf10b7b9c65714223538b1b8dd8b821aa9188c85a1be34f356a8c5e7f3c", func := "quillet/quilletlaw09.BagFull", spec := "bagFull", unfollowed := true, recurses := true, named := ["quillet/geom.told"], apart := false, laid := [("quillet/geom.told", laid_quillet_geom_told)] }
def BagFullSaid : Prop := bagFullRow.holds Tryd.pinned (OpenSpec.ofChange bagFullSpec)

/-- ITS FALSE NEIGHBOUR: 'it returns false'. Refute it at one input. -/
def bagFullWrong : ChangeSpec := { name := "bagFull", fn := fun _ => fun
  | [] => { results := [.lit (.bool false)], args := [] }
  | _ => none }
def BagFullWrongFalsely : Prop := bagFullRow.holds Tryd.pinned (OpenSpec.ofChange bagFullWrong)

/-- 'quilletlaw09.BagNodes': WHATEVER THE INPUT: true; the input reads as it did. -/
def bagNodesSpec : ChangeSpec := { name := "bagNodes", fn := fun _ => fun
  | [d1, d2] => { results := [.lit (.bool true)], args := [d1, d2] }
  | _ => none }
def bagNodesRow : OpenClaim := { program := "ytepdmefmcfiinaadoor", sum := "a9a46bf10b7b9c65714223538b1b8dd8b821aa9188c85a1be34f356a8c5e7f3c", func := "quillet/quilletlaw09.BagNodes", spec := "bagNodes", unfollowed := true, recurses := true, named := ["quillet/geom.told"], apart := false, laid := [("quillet/geom.told", laid_quillet_geom_told)] }
def BagNodesSaid : Prop := bagNodesRow.holds Tryd.pinned (OpenSpec.ofChange bagNodesSpec)

/-- ITS FALSE NEIGHBOUR: 'it returns false'. Refute it at one input. -/
def bagNodesWrong : ChangeSpec := { name := "bagNodes", fn := fun _ => fun
  | [d1, d2] => { results := [.lit (.bool false)], args := [d1, d2] }
  | _ => none }
def BagNodesWrongFalsely : Prop := bagNodesRow.holds Tryd.pinned (OpenSpec.ofChange bagNodesWrong)

/-- 'quilletlaw09.BagLists': WHATEVER THE INPUT: true; the input reads as it did. -/
def bagListsSpec : ChangeSpec := { name := "bagLists", fn := fun _ => fun
  | [d1, d2, d3] => { results := [.lit (.bool true)], args := [d1, d2, d3] }
  | _ => none }
def bagListsRow : OpenClaim := { program := "ytepdmefmcfiinaadoor", sum := "a9a46bf10b7b9c65714223538b1b8dd8b821aa9188c85a1be34f356a8c5e7f3c", func := "quillet/quilletlaw09.BagLists", spec := "bagLists", unfollowed := true, recurses := true, named := ["quillet/geom.told"], apart := false, laid := [("quillet/geom.told", laid_quillet_geom_told)] }
def BagListsSaid : Prop := bagListsRow.holds Tryd.pinned (OpenSpec.ofChange bagListsSpec)

/-- ITS FALSE NEIGHBOUR: 'it returns false'. Refute it at one input. -/
def bagListsWrong : ChangeSpec := { name := "bagLists", fn := fun _ => fun
  | [d1, d2, d3] => { results := [.lit (.bool false)], args := [d1, d2, d3] }
  | _ => none }
def BagListsWrongFalsely : Prop := bagListsRow.holds Tryd.pinned (OpenSpec.ofChange bagListsWrong)

/- THE SECOND FORM. 'bulk': how many values and letters a reading holds, each counted each time it is reached (what is shared counts as often as it is met; a slice's spare places count too). A statement '..UptoSaid' is the law's where the arguments, and the package variables that the reading takes, are together of bulk at most 1048576: NARROWER than '..Said'. Prove '..Said' where nothing that the law and all that it calls make is longer than what came in: it says more and counts as full. Else prove '..UptoSaid'. A law counts once. -/
mutual
def uptoBulk {H : Type} : DataW H → Nat
  | .lit (.string bytes) => bytes.length + 1
  | .lit _ => 1
  | .nil => 1
  | .ptr d => uptoBulk d + 1
  | .slice elems spare => uptoBulkAll elems + uptoBulkAll spare + 1
  | .agg parts => uptoBulkAll parts + 1
  | .iface _ d => uptoBulk d + 1
  | .map entries => uptoBulkEntries entries + 1
  | .held _ => 1
def uptoBulkAll {H : Type} : List (DataW H) → Nat
  | [] => 0
  | d :: r => uptoBulk d + uptoBulkAll r
def uptoBulkEntries {H : Type} : List (Lit × DataW H) → Nat
  | [] => 0
  | x :: r => uptoBulkEntry x + uptoBulkEntries r
def uptoBulkEntry {H : Type} : Lit × DataW H → Nat
  | (.string bytes, d) => bytes.length + uptoBulk d + 1
  | (_, d) => uptoBulk d + 1
 end
def uptoSmall : (H : Type) → List (DataW H) → Bool := fun _ ds => decide (uptoBulkAll ds ≤ 1048576)
def OpenSpec.upto (s : _root_.Go.ChangeSpec) : _root_.Go.OpenSpec := { _root_.Go.OpenSpec.ofChange s with cond := some uptoSmall }

/-- 'quilletlaw09.BagPlay', WHERE WHAT IT READS IS OF BULK AT MOST 1048576: true; the input reads as it did. -/
def bagPlayUptoRow : OpenClaim := { program := "ytepdmefmcfiinaadoor", sum := "a9a46bf10b7b9c65714223538b1b8dd8b821aa9188c85a1be34f356a8c5e7f3c", func := "quillet/quilletlaw09.BagPlay", spec := "bagPlay", unfollowed := true, recurses := true, named := ["quillet/geom.told"], apart := false, laid := [("quillet/geom.told", laid_quillet_geom_told)], narrowed := true }
def BagPlayUptoSaid : Prop := bagPlayUptoRow.holds Tryd.pinned (OpenSpec.upto bagPlaySpec)

/-- 'quilletlaw09.BagKnown', WHERE WHAT IT READS IS OF BULK AT MOST 1048576: true; the input reads as it did. -/
def bagKnownUptoRow : OpenClaim := { program := "ytepdmefmcfiinaadoor", sum := "a9a46bf10b7b9c65714223538b1b8dd8b821aa9188c85a1be34f356a8c5e7f3c", func := "quillet/quilletlaw09.BagKnown", spec := "bagKnown", unfollowed := true, recurses := true, named := ["quillet/geom.told"], apart := false, laid := [("quillet/geom.told", laid_quillet_geom_told)], narrowed := true }
def BagKnownUptoSaid : Prop := bagKnownUptoRow.holds Tryd.pinned (OpenSpec.upto bagKnownSpec)

/-- 'quilletlaw09.BagFull', WHERE WHAT IT READS IS OF BULK AT MOST 1048576: true; the input reads as it did. -/
def bagFullUptoRow : OpenClaim := { program := "ytepdmefmcfiinaadoor", sum := "a9a46bf10b7b9c65714223538b1b8dd8b821aa9188c85a1be34f356a8c5e7f3c", func := "quillet/quilletlaw09.BagFull", spec := "bagFull", unfollowed := true, recurses := true, named := ["quillet/geom.told"], apart := false, laid := [("quillet/geom.told", laid_quillet_geom_told)], narrowed := true }
def BagFullUptoSaid : Prop := bagFullUptoRow.holds Tryd.pinned (OpenSpec.upto bagFullSpec)

/-- 'quilletlaw09.BagNodes', WHERE WHAT IT READS IS OF BULK AT MOST 1048576: true; the input reads as it did. -/
def bagNodesUptoRow : OpenClaim := { program := "ytepdmefmcfiinaadoor", sum := "a9a46bf10b7b9c65714223538b1b8dd8b821aa9188c85a1be34f356a8c5e7f3c", func := "quillet/quilletlaw09.BagNodes", spec := "bagNodes", unfollowed := true, recurses := true, named := ["quillet/geom.told"], apart := false, laid := [("quillet/geom.told", laid_quillet_geom_told)], narrowed := true }
def BagNodesUptoSaid : Prop := bagNodesUptoRow.holds Tryd.pinned (OpenSpec.upto bagNodesSpec)

/-- 'quilletlaw09.BagLists', WHERE WHAT IT READS IS OF BULK AT MOST 1048576: true; the input reads as it did. -/
def bagListsUptoRow : OpenClaim := { program := "ytepdmefmcfiinaadoor", sum := "a9a46bf10b7b9c65714223538b1b8dd8b821aa9188c85a1be34f356a8c5e7f3c", func := "quillet/quilletlaw09.BagLists", spec := "bagLists", unfollowed := true, recurses := true, named := ["quillet/geom.told"], apart := false, laid := [("quillet/geom.told", laid_quillet_geom_told)], narrowed := true }
def BagListsUptoSaid : Prop := bagListsUptoRow.holds Tryd.pinned (OpenSpec.upto bagListsSpec)

end Rows
end Go.Proofs.YtepdmefmcfiinaaDoor
