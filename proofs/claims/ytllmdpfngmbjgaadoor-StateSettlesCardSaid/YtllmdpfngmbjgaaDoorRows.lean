/-
  NARROWER THAN 'FOR EVERY INPUT', by the rows' own cells (each row's printed sentence says how): StateKnown: laid · StateVers: laid · StateSettles: laid.
  DERIVED. THE GIVEN ROWS OF THIS SEAT. 3 by the template 'for every input the law returns true; each argument reads behind the call as it read before'; 0 by the template 'total and deterministic' (their statements: YtllmdpfngmbjgaaDoorTotals.lean).
  GIVEN WITH THE SEED: the statements are not yours to turn. If you find one false, say at which input.
  Laid BY PROGRAM, IN A SANDBOX (cutbox-rows.mjs): the forced cells as the released guide's own fill.sh prints them over the translation 3be6180d33230879… (all of the seat's roots in one cut). By AI agents, Wed Nov 11 2026. No macro, syntax, notation, axiom, sorry.
-/
import Derived.Test.YtllmdpfngmbjgaaDoorChecked
import GoSem.Claim
import GoSem.ClaimJoined
import GoSem.ClaimMapViews
import Derived.JoinedTies
import Derived.KernelRfl
namespace Go.Proofs.YtllmdpfngmbjgaaDoor
/- THE CELL 'sum', in the pinned program and in every row, IS THE sha256 OF THE DUMP (.gsa) THAT YtllmdpfngmbjgaaDoorProg.lean LOADS. Nothing in Lean hashes anything: it is a label: what it is worth is what the hold of that sum in a sandbox is worth. -/
noncomputable def Tryd.pinned : Pinned := { name := "ytllmdpfngmbjgaadoor", sum := "3be6180d332308793eb38af2d152b90f6a350dedf2c999e40c6fc93a40e0a703", checked := Tryd.checked }
namespace Rows
def none {H : Type} : Left H := { results := [], args := [] }

/- WHAT THE LISTED PACKAGE-LEVEL VARIABLES READ AS WHEN THE CALL BEGINS. Each datum BY PROGRAM (the guide's laid-datum.mjs) off the statement by which the dump's own 'gosem.cut.vars' lays the variable. In a bare row this is a premise. The card (YtllmdpfngmbjgaaDoorCards.lean) ties it to the program's text. -/
def laid_quillet_geom_told {H : Type} : DataW H := .agg [.agg [.lit (.int .i64 0), .lit (.int .i64 0), .lit (.int .i64 0)], .agg [.lit (.int .i64 0), .lit (.int .i64 0), .lit (.int .i64 0)], .agg [.lit (.int .i64 1), .lit (.int .i64 0), .lit (.int .i64 0)], .agg [.lit (.int .i64 2), .lit (.int .i64 0), .lit (.int .i64 0)], .agg [.lit (.int .i64 0), .lit (.int .i64 0), .lit (.int .i64 0)], .agg [.lit (.int .i64 3), .lit (.int .i64 0), .lit (.int .i64 0)], .agg [.lit (.int .i64 7), .lit (.int .i64 0), .lit (.int .i64 0)], .agg [.lit (.int .i64 8), .lit (.int .i64 0), .lit (.int .i64 0)], .agg [.lit (.int .i64 8), .lit (.int .i64 0), .lit (.int .i64 0)], .agg [.lit (.int .i64 8), .lit (.int .i64 0), .lit (.int .i64 0)], .agg [.lit (.int .i64 9), .lit (.int .i64 0), .lit (.int .i64 0)], .agg [.lit (.int .i64 9), .lit (.int .i64 0), .lit (.int .i64 0)], .agg [.lit (.int .i64 7), .lit (.int .i64 3), .lit (.int .i64 4)], .agg [.lit (.int .i64 7), .lit (.int .i64 3), .lit (.int .i64 0)], .agg [.lit (.int .i64 7), .lit (.int .i64 5), .lit (.int .i64 0)], .agg [.lit (.int .i64 7), .lit (.int .i64 0), .lit (.int .i64 0)], .agg [.lit (.int .i64 7), .lit (.int .i64 10), .lit (.int .i64 0)], .agg [.lit (.int .i64 11), .lit (.int .i64 0), .lit (.int .i64 0)], .agg [.lit (.int .i64 11), .lit (.int .i64 6), .lit (.int .i64 0)]]

/-- 'quilletlaw14.StateKnown': WHATEVER THE INPUT: true; the input reads as it did. -/
def stateKnownSpec : ChangeSpec := { name := "stateKnown", fn := fun _ => fun
  | [] => { results := [.lit (.bool true)], args := [] }
  | _ => none }
def stateKnownRow : OpenClaim := { program := "ytllmdpfngmbjgaadoor", sum := "3be6180d332308793eb38af2d152b90f6a350dedf2c999e40c6fc93a40e0a703", func := "quillet/quilletlaw14.StateKnown", spec := "stateKnown", unfollowed := true, recurses := true, named := ["quillet/geom.told"], apart := false, laid := [("quillet/geom.told", laid_quillet_geom_told)] }
def StateKnownSaid : Prop := stateKnownRow.holds Tryd.pinned (OpenSpec.ofChange stateKnownSpec)

/-- ITS FALSE NEIGHBOUR: 'it returns false'. Refute it at one input. -/
def stateKnownWrong : ChangeSpec := { name := "stateKnown", fn := fun _ => fun
  | [] => { results := [.lit (.bool false)], args := [] }
  | _ => none }
def StateKnownWrongFalsely : Prop := stateKnownRow.holds Tryd.pinned (OpenSpec.ofChange stateKnownWrong)

/-- 'quilletlaw14.StateVers': WHATEVER THE INPUT: true; the input reads as it did. -/
def stateVersSpec : ChangeSpec := { name := "stateVers", fn := fun _ => fun
  | [d1, d2] => { results := [.lit (.bool true)], args := [d1, d2] }
  | _ => none }
def stateVersRow : OpenClaim := { program := "ytllmdpfngmbjgaadoor", sum := "3be6180d332308793eb38af2d152b90f6a350dedf2c999e40c6fc93a40e0a703", func := "quillet/quilletlaw14.StateVers", spec := "stateVers", unfollowed := true, recurses := true, named := ["quillet/geom.told"], apart := false, laid := [("quillet/geom.told", laid_quillet_geom_told)] }
def StateVersSaid : Prop := stateVersRow.holds Tryd.pinned (OpenSpec.ofChange stateVersSpec)

/-- ITS FALSE NEIGHBOUR: 'it returns false'. Refute it at one input. -/
def stateVersWrong : ChangeSpec := { name := "stateVers", fn := fun _ => fun
  | [d1, d2] => { results := [.lit (.bool false)], args := [d1, d2] }
  | _ => none }
def StateVersWrongFalsely : Prop := stateVersRow.holds Tryd.pinned (OpenSpec.ofChange stateVersWrong)

/-- 'quilletlaw14.StateSettles': WHATEVER THE INPUT: true; the input reads as it did. -/
def stateSettlesSpec : ChangeSpec := { name := "stateSettles", fn := fun _ => fun
  | [d1, d2, d3] => { results := [.lit (.bool true)], args := [d1, d2, d3] }
  | _ => none }
def stateSettlesRow : OpenClaim := { program := "ytllmdpfngmbjgaadoor", sum := "3be6180d332308793eb38af2d152b90f6a350dedf2c999e40c6fc93a40e0a703", func := "quillet/quilletlaw14.StateSettles", spec := "stateSettles", unfollowed := true, recurses := true, named := ["quillet/geom.told"], apart := false, laid := [("quillet/geom.told", laid_quillet_geom_told)] }
def StateSettlesSaid : Prop := stateSettlesRow.holds Tryd.pinned (OpenSpec.ofChange stateSettlesSpec)

/-- ITS FALSE NEIGHBOUR: 'it returns false'. Refute it at one input. -/
def stateSettlesWrong : ChangeSpec := { name := "stateSettles", fn := fun _ => fun
  | [d1, d2, d3] => { results := [.lit (.bool false)], args := [d1, d2, d3] }
  | _ => none }
def StateSettlesWrongFalsely : Prop := stateSettlesRow.holds Tryd.pinned (OpenSpec.ofChange stateSettlesWrong)

/- THE SECOND FORM. 'bulk': how many values and letters a reading holds, each counted each time it is reached (what is shared counts as often as it is met; a slice's spare places count too). A statement '..UptoSaid' is the law's where the arguments, and the package variables that the reading takes, are together of bulk at most 1048576: NARROWER than '..Said'. Prove '..Said' where nothing that the law and all that it calls make is longer than what came in: it says more and counts as full. Else prove '..UptoSaid'. A law counts once. -/
mutual
def uptoBulk {H : Type} : DataW H → Nat
  | .lit (.string bytes) => bytes.length + 1
  | .lit _ => 1
  | .nil => 1
  | .ptr d => uptoBulk d + 1
  | .slice elems spare => uptoBulkAll elems + uptoBulkAll spare + 1
  | .agg parts => uptoBulkAll parts + 1
  | .iface _ d => uptoBulk d + 1
  | .map entries => uptoBulkEntries entries + 1
  | .held _ => 1
def uptoBulkAll {H : Type} : List (DataW H) → Nat
  | [] => 0
  | d :: r => uptoBulk d + uptoBulkAll r
def uptoBulkEntries {H : Type} : List (Lit × DataW H) → Nat
  | [] => 0
  | x :: r => uptoBulkEntry x + uptoBulkEntries r
def uptoBulkEntry {H : Type} : Lit × DataW H → Nat
  | (.string bytes, d) => bytes.length + uptoBulk d + 1
  | (_, d) => uptoBulk d + 1
 end
def uptoSmall : (H : Type) → List (DataW H) → Bool := fun _ ds => decide (uptoBulkAll ds ≤ 1048576)
def OpenSpec.upto (s : _root_.Go.ChangeSpec) : _root_.Go.OpenSpec := { _root_.Go.OpenSpec.ofChange s with cond := some uptoSmall }

/-- 'quilletlaw14.StateKnown', WHERE WHAT IT READS IS OF BULK AT MOST 1048576: true; the input reads as it did. -/
def stateKnownUptoRow : OpenClaim := { program := "ytllmdpfngmbjgaadoor", sum := "3be6180d332308793eb38af2d152b90f6a350dedf2c999e40c6fc93a40e0a703", func := "quillet/quilletlaw14.StateKnown", spec := "stateKnown", unfollowed := true, recurses := true, named := ["quillet/geom.told"], apart := false, laid := [("quillet/geom.told", laid_quillet_geom_told)], narrowed := true }
def StateKnownUptoSaid : Prop := stateKnownUptoRow.holds Tryd.pinned (OpenSpec.upto stateKnownSpec)

/-- 'quilletlaw14.StateVers', WHERE WHAT IT READS IS OF BULK AT MOST 1048576: true; the input reads as it did. -/
def stateVersUptoRow : OpenClaim := { program := "ytllmdpfngmbjgaadoor", sum := "3be6180d332308793eb38af2d152b90f6a350dedf2c999e40c6fc93a40e0a703", func := "quillet/quilletlaw14.StateVers", spec := "stateVers", unfollowed := true, recurses := true, named := ["quillet/geom.told"], apart := false, laid := [("quillet/geom.told", laid_quillet_geom_told)], narrowed := true }
def StateVersUptoSaid : Prop := stateVersUptoRow.holds Tryd.pinned (OpenSpec.upto stateVersSpec)

/-- 'quilletlaw14.StateSettles', WHERE WHAT IT READS IS OF BULK AT MOST 1048576: true; the input reads as it did. -/
def stateSettlesUptoRow : OpenClaim := { program := "ytllmdpfngmbjgaadoor", sum := "3be6180d332308793eb38af2d152b90f6a350dedf2c999e40c6fc93a40e0a703", func := "quillet/quilletlaw14.StateSettles", spec := "stateSettles", unfollowed := true, recurses := true, named := ["quillet/geom.told"], apart := false, laid := [("quillet/geom.told", laid_quillet_geom_told)], narrowed := true }
def StateSettlesUptoSaid : Prop := stateSettlesUptoRow.holds Tryd.pinned (OpenSpec.upto stateSettlesSpec)

end Rows
end Go.Proofs.YtllmdpfngmbjgaaDoor
