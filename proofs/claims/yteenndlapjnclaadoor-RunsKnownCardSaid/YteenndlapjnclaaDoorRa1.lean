/-
  A closed body in pieces: piece 4 and on, between states that are written out. Condition: the variable holds its table.
-/
import Derived.Test.YteenndlapjnclaaDoorRas
import Derived.Test.YteenndlapjnclaaDoorEvSegD
namespace Go.Proofs.YteenndlapjnclaaDoor
open Go.Ev Go.RowKit
set_option maxRecDepth 100000
theorem Ra_r4 (t : TypeId) (G : Nat → Option Obj) : pieceI Tryd.prog (ftOf Tryd.prog) G (run0 Tryd.prog (ftOf Tryd.prog) (knG kngA) G 100000) Ra_p4.1 Ra_p4.2 Ra_L4 Ra_A4 (Ra_H4 t) = some (Ra_L5, Ra_A5, Ra_H5 t) := by kernel_rfl
theorem Ra_r5 (t : TypeId) (G : Nat → Option Obj) : pieceI Tryd.prog (ftOf Tryd.prog) G (run0 Tryd.prog (ftOf Tryd.prog) (knG kngA) G 100000) Ra_p5.1 Ra_p5.2 Ra_L5 Ra_A5 (Ra_H5 t) = some (Ra_L6, Ra_A6, Ra_H6 t) := by kernel_rfl
theorem Ra_r6 (t : TypeId) (G : Nat → Option Obj) : pieceI Tryd.prog (ftOf Tryd.prog) G (run0 Tryd.prog (ftOf Tryd.prog) (knG kngA) G 100000) Ra_p6.1 Ra_p6.2 Ra_L6 Ra_A6 (Ra_H6 t) = some (Ra_L7, Ra_A7, Ra_H7 t) := by kernel_rfl
theorem Ra_r7 (t : TypeId) (G : Nat → Option Obj) : pieceI Tryd.prog (ftOf Tryd.prog) G (run0 Tryd.prog (ftOf Tryd.prog) (knG kngA) G 100000) Ra_p7.1 Ra_p7.2 Ra_L7 Ra_A7 (Ra_H7 t) = some (Ra_L8, Ra_A8, Ra_H8 t) := by kernel_rfl
end Go.Proofs.YteenndlapjnclaaDoor
