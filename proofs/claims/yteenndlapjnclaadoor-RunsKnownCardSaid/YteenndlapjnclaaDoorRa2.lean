/-
  A closed body in pieces: piece 8 and on, between states that are written out. Condition: the variable holds its table.
-/
import Derived.Test.YteenndlapjnclaaDoorRas
import Derived.Test.YteenndlapjnclaaDoorEvSegD
namespace Go.Proofs.YteenndlapjnclaaDoor
open Go.Ev Go.RowKit
set_option maxRecDepth 100000
theorem Ra_r8 (t : TypeId) (G : Nat → Option Obj) : pieceI Tryd.prog (ftOf Tryd.prog) G (run0 Tryd.prog (ftOf Tryd.prog) (knG kngA) G 100000) Ra_p8.1 Ra_p8.2 Ra_L8 Ra_A8 (Ra_H8 t) = some (Ra_L9, Ra_A9, Ra_H9 t) := by kernel_rfl
theorem Ra_r9 (t : TypeId) (G : Nat → Option Obj) : pieceI Tryd.prog (ftOf Tryd.prog) G (run0 Tryd.prog (ftOf Tryd.prog) (knG kngA) G 100000) Ra_p9.1 Ra_p9.2 Ra_L9 Ra_A9 (Ra_H9 t) = some (Ra_L10, Ra_A10, Ra_H10 t) := by kernel_rfl
theorem Ra_r10 (t : TypeId) (G : Nat → Option Obj) : pieceI Tryd.prog (ftOf Tryd.prog) G (run0 Tryd.prog (ftOf Tryd.prog) (knG kngA) G 100000) Ra_p10.1 Ra_p10.2 Ra_L10 Ra_A10 (Ra_H10 t) = some (Ra_L11, Ra_A11, Ra_H11 t) := by kernel_rfl
theorem Ra_r11 (t : TypeId) (G : Nat → Option Obj) : pieceI Tryd.prog (ftOf Tryd.prog) G (run0 Tryd.prog (ftOf Tryd.prog) (knG kngA) G 100000) Ra_p11.1 Ra_p11.2 Ra_L11 Ra_A11 (Ra_H11 t) = some (Ra_L12, Ra_A12, Ra_H12 t) := by kernel_rfl
end Go.Proofs.YteenndlapjnclaaDoor
