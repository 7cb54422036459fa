/-
  A closed body in pieces: piece 8 and on, between states that are written out. Condition: the variable holds its table.
-/
import Derived.Test.YtigbcepnbpibaaaGreatDoorSas
import Derived.Test.YtigbcepnbpibaaaGreatDoorEvSegD
namespace Go.Proofs.YtigbcepnbpibaaaGreatDoor
open Go.Ev Go.RowKit
set_option maxRecDepth 100000
theorem Sa_r8 (t : TypeId) (G : Nat → Option Obj) : pieceI Tryz.prog (ftOf Tryz.prog) G (run0 Tryz.prog (ftOf Tryz.prog) (knG kngA) G 100000) Sa_p8.1 Sa_p8.2 Sa_L8 Sa_A8 (Sa_H8 t) = some (Sa_L9, Sa_A9, Sa_H9 t) := by kernel_rfl
theorem Sa_r9 (t : TypeId) (G : Nat → Option Obj) : pieceI Tryz.prog (ftOf Tryz.prog) G (run0 Tryz.prog (ftOf Tryz.prog) (knG kngA) G 100000) Sa_p9.1 Sa_p9.2 Sa_L9 Sa_A9 (Sa_H9 t) = some (Sa_L10, Sa_A10, Sa_H10 t) := by kernel_rfl
theorem Sa_r10 (t : TypeId) (G : Nat → Option Obj) : pieceI Tryz.prog (ftOf Tryz.prog) G (run0 Tryz.prog (ftOf Tryz.prog) (knG kngA) G 100000) Sa_p10.1 Sa_p10.2 Sa_L10 Sa_A10 (Sa_H10 t) = some (Sa_L11, Sa_A11, Sa_H11 t) := by kernel_rfl
theorem Sa_r11 (t : TypeId) (G : Nat → Option Obj) : pieceI Tryz.prog (ftOf Tryz.prog) G (run0 Tryz.prog (ftOf Tryz.prog) (knG kngA) G 100000) Sa_p11.1 Sa_p11.2 Sa_L11 Sa_A11 (Sa_H11 t) = some (Sa_L12, Sa_A12, Sa_H12 t) := by kernel_rfl
end Go.Proofs.YtigbcepnbpibaaaGreatDoor
