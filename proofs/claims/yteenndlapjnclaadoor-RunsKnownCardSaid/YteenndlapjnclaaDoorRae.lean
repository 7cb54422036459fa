/-
  A closed body in pieces: piece last, between states that are written out. Condition: the variable holds its table.
-/
import Derived.Test.YteenndlapjnclaaDoorRas
import Derived.Test.YteenndlapjnclaaDoorEvSegD
namespace Go.Proofs.YteenndlapjnclaaDoor
open Go.Ev Go.RowKit
set_option maxRecDepth 100000
theorem Ra_e (t : TypeId) (G : Nat → Option Obj) : outEq (.bool true) (endL Tryd.prog (ftOf Tryd.prog) 3 (runQ Tryd.prog (ftOf Tryd.prog) G (run0 Tryd.prog (ftOf Tryd.prog) (knG kngA) G 100000) 100000 [] Ra_L12 Ra_A12 (Ra_H12 t))) = true := by kernel_rfl
end Go.Proofs.YteenndlapjnclaaDoor
