/-
  A closed body in pieces: piece last, between states that are written out. Condition: the variable holds its table.
-/
import Derived.Test.YtepdmefmcfiinaaDoorBKs
import Derived.Test.YtepdmefmcfiinaaDoorEvKn2
namespace Go.Proofs.YtepdmefmcfiinaaDoor
open Go.Ev Go.RowKit
set_option maxRecDepth 100000
theorem BK_e (t : TypeId) (G : Nat → Option Obj) : outEq (.bool true) (endL Tryd.prog (ftOf Tryd.prog) 4 (runQ (run0 Tryd.prog (ftOf Tryd.prog) (knG kngA) G 100000) 100000 [] BK_L7 BK_A7 (BK_H7 t))) = true := by kernel_rfl
end Go.Proofs.YtepdmefmcfiinaaDoor
