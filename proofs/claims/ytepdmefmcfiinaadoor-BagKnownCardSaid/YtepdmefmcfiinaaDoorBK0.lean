/-
  A closed body in pieces: piece 0, between states that are written out. Condition: the variable holds its table.
-/
import Derived.Test.YtepdmefmcfiinaaDoorBKs
import Derived.Test.YtepdmefmcfiinaaDoorEvKn2
namespace Go.Proofs.YtepdmefmcfiinaaDoor
open Go.Ev Go.RowKit
set_option maxRecDepth 100000
theorem BK_r0 (t : TypeId) (G : Nat → Option Obj) : pieceI (run0 Tryd.prog (ftOf Tryd.prog) (knG kngA) G 100000) BK_p0.1 BK_p0.2 BK_L0 (enterL (ftOf Tryd.prog) 4 #[]) (H0g Tryd.prog (gsT t)) = some (BK_L1, BK_A1, BK_H1 t) := by kernel_rfl
end Go.Proofs.YtepdmefmcfiinaaDoor
