/-
  A closed body in pieces: piece 6, between states that are written out. Condition: the variable holds its table.
-/
import Derived.Test.YtepdmefmcfiinaaDoorBKs
import Derived.Test.YtepdmefmcfiinaaDoorEvKn2
namespace Go.Proofs.YtepdmefmcfiinaaDoor
open Go.Ev Go.RowKit
set_option maxRecDepth 100000
theorem BK_r6 (t : TypeId) (G : Nat → Option Obj) : pieceI (run0 Tryd.prog (ftOf Tryd.prog) (knG kngA) G 100000) BK_p6.1 BK_p6.2 BK_L6 BK_A6 (BK_H6 t) = some (BK_L7, BK_A7, BK_H7 t) := by kernel_rfl
end Go.Proofs.YtepdmefmcfiinaaDoor
