/-
  A closed body in pieces: piece 4 and on, between states that are written out. Condition: the variable holds its table.
-/
import Derived.Test.YtigbcepnbpibaaaGreatDoorSas
import Derived.Test.YtigbcepnbpibaaaGreatDoorEvSegD
namespace Go.Proofs.YtigbcepnbpibaaaGreatDoor
open Go.Ev Go.RowKit
set_option maxRecDepth 100000
theorem Sa_r4 (t : TypeId) (G : Nat → Option Obj) : pieceI Tryz.prog (ftOf Tryz.prog) G (run0 Tryz.prog (ftOf Tryz.prog) (knG kngA) G 100000) Sa_p4.1 Sa_p4.2 Sa_L4 Sa_A4 (Sa_H4 t) = some (Sa_L5, Sa_A5, Sa_H5 t) := by kernel_rfl
theorem Sa_r5 (t : TypeId) (G : Nat → Option Obj) : pieceI Tryz.prog (ftOf Tryz.prog) G (run0 Tryz.prog (ftOf Tryz.prog) (knG kngA) G 100000) Sa_p5.1 Sa_p5.2 Sa_L5 Sa_A5 (Sa_H5 t) = some (Sa_L6, Sa_A6, Sa_H6 t) := by kernel_rfl
theorem Sa_r6 (t : TypeId) (G : Nat → Option Obj) : pieceI Tryz.prog (ftOf Tryz.prog) G (run0 Tryz.prog (ftOf Tryz.prog) (knG kngA) G 100000) Sa_p6.1 Sa_p6.2 Sa_L6 Sa_A6 (Sa_H6 t) = some (Sa_L7, Sa_A7, Sa_H7 t) := by kernel_rfl
theorem Sa_r7 (t : TypeId) (G : Nat → Option Obj) : pieceI Tryz.prog (ftOf Tryz.prog) G (run0 Tryz.prog (ftOf Tryz.prog) (knG kngA) G 100000) Sa_p7.1 Sa_p7.2 Sa_L7 Sa_A7 (Sa_H7 t) = some (Sa_L8, Sa_A8, Sa_H8 t) := by kernel_rfl
end Go.Proofs.YtigbcepnbpibaaaGreatDoor
