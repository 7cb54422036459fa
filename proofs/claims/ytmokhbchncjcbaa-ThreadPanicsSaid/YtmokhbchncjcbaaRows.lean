/-
  No cell of these rows narrows 'for every input' (looked for: loops, veiled, ifaces, maps, wideKeys, modest, calm, conditions, laid).
  DERIVED. THE GIVEN ROWS OF THIS SEAT. 3 by the template 'for every input the law returns true; each argument reads behind the call as it read before'; 0 by the template 'total and deterministic' (their statements: YtmokhbchncjcbaaTotals.lean).
  GIVEN WITH THE SEED: the statements are not yours to turn. If you find one false, say at which input.
  Laid BY PROGRAM, IN A SANDBOX (cutbox-rows.mjs): the forced cells as the released guide's own fill.sh prints them over the translation 49644094305cd74a… (all of the seat's roots in one cut). By AI agents, Wed Nov 11 2026. No macro, syntax, notation, axiom, sorry.
-/
import Derived.Test.YtmokhbchncjcbaaChecked
import GoSem.Claim
import GoSem.ClaimJoined
import GoSem.ClaimMapViews
import Derived.JoinedTies
import Derived.KernelRfl
namespace Go.Proofs.Ytmokhbchncjcbaa
/- THE CELL 'sum', in the pinned program and in every row, IS THE sha256 OF THE DUMP (.gsa) THAT YtmokhbchncjcbaaProg.lean LOADS. Nothing in Lean hashes anything: it is a label: what it is worth is what the hold of that sum in a sandbox is worth. -/
noncomputable def Try.pinned : Pinned := { name := "ytmokhbchncjcbaa", sum := "49644094305cd74a302cc0fea980fbc05b757a399d1fc3d02e4283281a13d8cf", checked := Try.checked }
namespace Rows
def none {H : Type} : Left H := { results := [], args := [] }

/-- 'quilletlaw05.ThreadClose': WHATEVER THE INPUT: true; the input reads as it did. -/
def threadCloseSpec : ChangeSpec := { name := "threadClose", fn := fun _ => fun
  | [d1, d2] => { results := [.lit (.bool true)], args := [d1, d2] }
  | _ => none }
def threadCloseRow : OpenClaim := { program := "ytmokhbchncjcbaa", sum := "49644094305cd74a302cc0fea980fbc05b757a399d1fc3d02e4283281a13d8cf", func := "quillet/quilletlaw05.ThreadClose", spec := "threadClose", unfollowed := true, recurses := true, leaving := true, apart := false }
def ThreadCloseSaid : Prop := threadCloseRow.holds Try.pinned (OpenSpec.ofChange threadCloseSpec)

/-- ITS FALSE NEIGHBOUR: 'it returns false'. Refute it at one input. -/
def threadCloseWrong : ChangeSpec := { name := "threadClose", fn := fun _ => fun
  | [d1, d2] => { results := [.lit (.bool false)], args := [d1, d2] }
  | _ => none }
def ThreadCloseWrongFalsely : Prop := threadCloseRow.holds Try.pinned (OpenSpec.ofChange threadCloseWrong)

/-- 'quilletlaw05.ThreadKnown': WHATEVER THE INPUT: true; the input reads as it did. -/
def threadKnownSpec : ChangeSpec := { name := "threadKnown", fn := fun _ => fun
  | [] => { results := [.lit (.bool true)], args := [] }
  | _ => none }
def threadKnownRow : OpenClaim := { program := "ytmokhbchncjcbaa", sum := "49644094305cd74a302cc0fea980fbc05b757a399d1fc3d02e4283281a13d8cf", func := "quillet/quilletlaw05.ThreadKnown", spec := "threadKnown", unfollowed := true, recurses := true, leaving := true, apart := false }
def ThreadKnownSaid : Prop := threadKnownRow.holds Try.pinned (OpenSpec.ofChange threadKnownSpec)

/-- ITS FALSE NEIGHBOUR: 'it returns false'. Refute it at one input. -/
def threadKnownWrong : ChangeSpec := { name := "threadKnown", fn := fun _ => fun
  | [] => { results := [.lit (.bool false)], args := [] }
  | _ => none }
def ThreadKnownWrongFalsely : Prop := threadKnownRow.holds Try.pinned (OpenSpec.ofChange threadKnownWrong)

/-- 'quilletlaw05.ThreadPanics': WHATEVER THE INPUT: true; the input reads as it did. -/
def threadPanicsSpec : ChangeSpec := { name := "threadPanics", fn := fun _ => fun
  | [d1, d2] => { results := [.lit (.bool true)], args := [d1, d2] }
  | _ => none }
def threadPanicsRow : OpenClaim := { program := "ytmokhbchncjcbaa", sum := "49644094305cd74a302cc0fea980fbc05b757a399d1fc3d02e4283281a13d8cf", func := "quillet/quilletlaw05.ThreadPanics", spec := "threadPanics", unfollowed := true, recurses := true, leaving := true, apart := false }
def ThreadPanicsSaid : Prop := threadPanicsRow.holds Try.pinned (OpenSpec.ofChange threadPanicsSpec)

/-- ITS FALSE NEIGHBOUR: 'it returns false'. Refute it at one input. -/
def threadPanicsWrong : ChangeSpec := { name := "threadPanics", fn := fun _ => fun
  | [d1, d2] => { results := [.lit (.bool false)], args := [d1, d2] }
  | _ => none }
def ThreadPanicsWrongFalsely : Prop := threadPanicsRow.holds Try.pinned (OpenSpec.ofChange threadPanicsWrong)

/- THE SECOND FORM. 'bulk': how many values and letters a reading holds, each counted each time it is reached (what is shared counts as often as it is met; a slice's spare places count too). A statement '..UptoSaid' is the law's where the arguments, and the package variables that the reading takes, are together of bulk at most 1048576: NARROWER than '..Said'. Prove '..Said' where nothing that the law and all that it calls make is longer than what came in: it says more and counts as full. Else prove '..UptoSaid'. A law counts once. -/
mutual
def uptoBulk {H : Type} : DataW H → Nat
  | .lit (.string bytes) => bytes.length + 1
  | .lit _ => 1
  | .nil => 1
  | .ptr d => uptoBulk d + 1
  | .slice elems spare => uptoBulkAll elems + uptoBulkAll spare + 1
  | .agg parts => uptoBulkAll parts + 1
  | .iface _ d => uptoBulk d + 1
  | .map entries => uptoBulkEntries entries + 1
  | .held _ => 1
def uptoBulkAll {H : Type} : List (DataW H) → Nat
  | [] => 0
  | d :: r => uptoBulk d + uptoBulkAll r
def uptoBulkEntries {H : Type} : List (Lit × DataW H) → Nat
  | [] => 0
  | x :: r => uptoBulkEntry x + uptoBulkEntries r
def uptoBulkEntry {H : Type} : Lit × DataW H → Nat
  | (.string bytes, d) => bytes.length + uptoBulk d + 1
  | (_, d) => uptoBulk d + 1
 end
def uptoSmall : (H : Type) → List (DataW H) → Bool := fun _ ds => decide (uptoBulkAll ds ≤ 1048576)
def OpenSpec.upto (s : _root_.Go.ChangeSpec) : _root_.Go.OpenSpec := { _root_.Go.OpenSpec.ofChange s with cond := some uptoSmall }

/-- 'quilletlaw05.ThreadClose', WHERE WHAT IT READS IS OF BULK AT MOST 1048576: true; the input reads as it did. -/
def threadCloseUptoRow : OpenClaim := { program := "ytmokhbchncjcbaa", sum := "49644094305cd74a302cc0fea980fbc05b757a399d1fc3d02e4283281a13d8cf", func := "quillet/quilletlaw05.ThreadClose", spec := "threadClose", unfollowed := true, recurses := true, leaving := true, apart := false, narrowed := true }
def ThreadCloseUptoSaid : Prop := threadCloseUptoRow.holds Try.pinned (OpenSpec.upto threadCloseSpec)

/-- 'quilletlaw05.ThreadKnown', WHERE WHAT IT READS IS OF BULK AT MOST 1048576: true; the input reads as it did. -/
def threadKnownUptoRow : OpenClaim := { program := "ytmokhbchncjcbaa", sum := "49644094305cd74a302cc0fea980fbc05b757a399d1fc3d02e4283281a13d8cf", func := "quillet/quilletlaw05.ThreadKnown", spec := "threadKnown", unfollowed := true, recurses := true, leaving := true, apart := false, narrowed := true }
def ThreadKnownUptoSaid : Prop := threadKnownUptoRow.holds Try.pinned (OpenSpec.upto threadKnownSpec)

/-- 'quilletlaw05.ThreadPanics', WHERE WHAT IT READS IS OF BULK AT MOST 1048576: true; the input reads as it did. -/
def threadPanicsUptoRow : OpenClaim := { program := "ytmokhbchncjcbaa", sum := "49644094305cd74a302cc0fea980fbc05b757a399d1fc3d02e4283281a13d8cf", func := "quillet/quilletlaw05.ThreadPanics", spec := "threadPanics", unfollowed := true, recurses := true, leaving := true, apart := false, narrowed := true }
def ThreadPanicsUptoSaid : Prop := threadPanicsUptoRow.holds Try.pinned (OpenSpec.upto threadPanicsSpec)

end Rows
end Go.Proofs.Ytmokhbchncjcbaa
