/-
  A closed body in pieces: piece 5, between states that are written out. Condition: the variable holds its table.
-/
import Derived.Test.YtepdmefmcfiinaaDoorBKs
import Derived.Test.YtepdmefmcfiinaaDoorEvKn2
namespace Go.Proofs.YtepdmefmcfiinaaDoor
open Go.Ev Go.RowKit
set_option maxRecDepth 100000
theorem BK_r5 (t : TypeId) (G : Nat → Option Obj) : pieceI (run0 Tryd.prog (ftOf Tryd.prog) (knG kngA) G 100000) BK_p5.1 BK_p5.2 BK_L5 BK_A5 (BK_H5 t) = some (BK_L6, BK_A6, BK_H6 t) := by kernel_rfl
end Go.Proofs.YtepdmefmcfiinaaDoor
