/-
  A closed body in pieces: piece last, between states that are written out. Condition: the variable holds its table.
-/
import Derived.Test.YtepdmefmcfiinaaDoorBFs
import Derived.Test.YtepdmefmcfiinaaDoorEvSegD
namespace Go.Proofs.YtepdmefmcfiinaaDoor
open Go.Ev Go.RowKit
set_option maxRecDepth 100000
theorem BF_e (t : TypeId) (G : Nat → Option Obj) : outEq (.bool true) (endL Tryd.prog (ftOf Tryd.prog) 5 (runQ (run0 Tryd.prog (ftOf Tryd.prog) (knG kngA) G 100000) 100000 [] BF_L65 BF_A65 (BF_H65 t))) = true := by kernel_rfl
end Go.Proofs.YtepdmefmcfiinaaDoor
