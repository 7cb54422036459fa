/-
  The evaluator: states between pieces said by what has changed. No condition.
-/
import Derived.Test.YtigbcepnbpibaaaGreatDoorEvKn2
namespace Go.Ev
set_option linter.unusedSectionVars false
/-- A block as it was but for some cells; or another one. -/
inductive BUp where
  | set (l : List (Nat × Value))
  | all (b : Blk)
noncomputable def Fr.upd (A : Fr) (l : List (Nat × Value)) : Fr := { A with m := l.foldl (fun m p => m.set p.1 (some p.2)) A.m }
noncomputable def bupd (b : Option Blk) : BUp → Option Blk
  | .all b' => some b'
  | .set l => match b with
    | some (.cells c) => some (.cells { c with m := l.foldl (fun m p => m.set p.1 (some p.2)) c.m })
    | b => b
noncomputable def Heap.upd (H : Heap) (next : Nat) (l : List (Nat × BUp)) (live : List Nat) : Heap := { base := H.base, next := next, m := keepM (l.foldl (fun m p => m.set p.1 (bupd (m.get p.1) p.2)) H.m) live .leaf, hole := H.hole }
end Go.Ev
