/-
  A closed body in pieces: piece 0 and on, between states that are written out. Condition: the variable holds its table.
-/
import Derived.Test.YtigbcepnbpibaaaGreatDoorSas
import Derived.Test.YtigbcepnbpibaaaGreatDoorEvSegD
namespace Go.Proofs.YtigbcepnbpibaaaGreatDoor
open Go.Ev Go.RowKit
set_option maxRecDepth 100000
theorem Sa_r0 (t : TypeId) (G : Nat → Option Obj) : pieceI Tryz.prog (ftOf Tryz.prog) G (run0 Tryz.prog (ftOf Tryz.prog) (knG kngA) G 100000) Sa_p0.1 Sa_p0.2 Sa_L0 (enterL (ftOf Tryz.prog) 3 #[]) (H0g Tryz.prog (gsT t)) = some (Sa_L1, Sa_A1, Sa_H1 t) := by kernel_rfl
theorem Sa_r1 (t : TypeId) (G : Nat → Option Obj) : pieceI Tryz.prog (ftOf Tryz.prog) G (run0 Tryz.prog (ftOf Tryz.prog) (knG kngA) G 100000) Sa_p1.1 Sa_p1.2 Sa_L1 Sa_A1 (Sa_H1 t) = some (Sa_L2, Sa_A2, Sa_H2 t) := by kernel_rfl
theorem Sa_r2 (t : TypeId) (G : Nat → Option Obj) : pieceI Tryz.prog (ftOf Tryz.prog) G (run0 Tryz.prog (ftOf Tryz.prog) (knG kngA) G 100000) Sa_p2.1 Sa_p2.2 Sa_L2 Sa_A2 (Sa_H2 t) = some (Sa_L3, Sa_A3, Sa_H3 t) := by kernel_rfl
theorem Sa_r3 (t : TypeId) (G : Nat → Option Obj) : pieceI Tryz.prog (ftOf Tryz.prog) G (run0 Tryz.prog (ftOf Tryz.prog) (knG kngA) G 100000) Sa_p3.1 Sa_p3.2 Sa_L3 Sa_A3 (Sa_H3 t) = some (Sa_L4, Sa_A4, Sa_H4 t) := by kernel_rfl
end Go.Proofs.YtigbcepnbpibaaaGreatDoor
