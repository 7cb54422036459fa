/-
  A closed body in pieces: piece 4, between states that are written out. Condition: the variable holds its table.
-/
import Derived.Test.YtepdmefmcfiinaaDoorBKs
import Derived.Test.YtepdmefmcfiinaaDoorEvKn2
namespace Go.Proofs.YtepdmefmcfiinaaDoor
open Go.Ev Go.RowKit
set_option maxRecDepth 100000
theorem BK_r4 (t : TypeId) (G : Nat → Option Obj) : pieceI (run0 Tryd.prog (ftOf Tryd.prog) (knG kngA) G 100000) BK_p4.1 BK_p4.2 BK_L4 BK_A4 (BK_H4 t) = some (BK_L5, BK_A5, BK_H5 t) := by kernel_rfl
end Go.Proofs.YtepdmefmcfiinaaDoor
