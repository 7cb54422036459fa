/-
  A closed body in pieces: piece last, between states that are written out. Condition: the variable holds its table.
-/
import Derived.Test.YtigbcepnbpibaaaGreatDoorSas
import Derived.Test.YtigbcepnbpibaaaGreatDoorEvSegD
namespace Go.Proofs.YtigbcepnbpibaaaGreatDoor
open Go.Ev Go.RowKit
set_option maxRecDepth 100000
theorem Sa_e (t : TypeId) (G : Nat → Option Obj) : outEq (.bool true) (endL Tryz.prog (ftOf Tryz.prog) 3 (runQ Tryz.prog (ftOf Tryz.prog) G (run0 Tryz.prog (ftOf Tryz.prog) (knG kngA) G 100000) 100000 [] Sa_L12 Sa_A12 (Sa_H12 t))) = true := by kernel_rfl
end Go.Proofs.YtigbcepnbpibaaaGreatDoor
