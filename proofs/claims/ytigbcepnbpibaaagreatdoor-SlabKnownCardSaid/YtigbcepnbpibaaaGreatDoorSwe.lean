/-
  A closed body in pieces: piece last, between states that are written out. Condition: the variable holds its table.
-/
import Derived.Test.YtigbcepnbpibaaaGreatDoorSws
import Derived.Test.YtigbcepnbpibaaaGreatDoorEvSegD
namespace Go.Proofs.YtigbcepnbpibaaaGreatDoor
open Go.Ev Go.RowKit
set_option maxRecDepth 100000
theorem Sw_e (t : TypeId) (G : Nat → Option Obj) : outEq (.bool true) (endL Tryz.prog (ftOf Tryz.prog) 23 (runQ Tryz.prog (ftOf Tryz.prog) G (run0 Tryz.prog (ftOf Tryz.prog) (knG kng) G 100000) 100000 [] Sw_L3 Sw_A3 (Sw_H3 t))) = true := by kernel_rfl
end Go.Proofs.YtigbcepnbpibaaaGreatDoor
