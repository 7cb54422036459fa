/-
  A closed body in pieces: piece 1, between states that are written out. Condition: the variable holds its table.
-/
import Derived.Test.YtepdmefmcfiinaaDoorBKs
import Derived.Test.YtepdmefmcfiinaaDoorEvKn2
namespace Go.Proofs.YtepdmefmcfiinaaDoor
open Go.Ev Go.RowKit
set_option maxRecDepth 100000
theorem BK_r1 (t : TypeId) (G : Nat → Option Obj) : pieceI (run0 Tryd.prog (ftOf Tryd.prog) (knG kngA) G 100000) BK_p1.1 BK_p1.2 BK_L1 BK_A1 (BK_H1 t) = some (BK_L2, BK_A2, BK_H2 t) := by kernel_rfl
end Go.Proofs.YtepdmefmcfiinaaDoor
