/-
  A closed body in pieces: piece last, between states that are written out. Condition: the variable holds its table.
-/
import Derived.Test.YteenndlapjnclaaDoorRws
import Derived.Test.YteenndlapjnclaaDoorEvSegD
namespace Go.Proofs.YteenndlapjnclaaDoor
open Go.Ev Go.RowKit
set_option maxRecDepth 100000
theorem Rw_e (t : TypeId) (G : Nat → Option Obj) : outEq (.bool true) (endL Tryd.prog (ftOf Tryd.prog) 16 (runQ Tryd.prog (ftOf Tryd.prog) G (run0 Tryd.prog (ftOf Tryd.prog) (knG kng) G 100000) 100000 [] Rw_L2 Rw_A2 (Rw_H2 t))) = true := by kernel_rfl
end Go.Proofs.YteenndlapjnclaaDoor
