/-
  A closed body in pieces: piece 0 and on, between states that are written out. Condition: the variable holds its table.
-/
import Derived.Test.YteenndlapjnclaaDoorRas
import Derived.Test.YteenndlapjnclaaDoorEvSegD
namespace Go.Proofs.YteenndlapjnclaaDoor
open Go.Ev Go.RowKit
set_option maxRecDepth 100000
theorem Ra_r0 (t : TypeId) (G : Nat → Option Obj) : pieceI Tryd.prog (ftOf Tryd.prog) G (run0 Tryd.prog (ftOf Tryd.prog) (knG kngA) G 100000) Ra_p0.1 Ra_p0.2 Ra_L0 (enterL (ftOf Tryd.prog) 3 #[]) (H0g Tryd.prog (gsT t)) = some (Ra_L1, Ra_A1, Ra_H1 t) := by kernel_rfl
theorem Ra_r1 (t : TypeId) (G : Nat → Option Obj) : pieceI Tryd.prog (ftOf Tryd.prog) G (run0 Tryd.prog (ftOf Tryd.prog) (knG kngA) G 100000) Ra_p1.1 Ra_p1.2 Ra_L1 Ra_A1 (Ra_H1 t) = some (Ra_L2, Ra_A2, Ra_H2 t) := by kernel_rfl
theorem Ra_r2 (t : TypeId) (G : Nat → Option Obj) : pieceI Tryd.prog (ftOf Tryd.prog) G (run0 Tryd.prog (ftOf Tryd.prog) (knG kngA) G 100000) Ra_p2.1 Ra_p2.2 Ra_L2 Ra_A2 (Ra_H2 t) = some (Ra_L3, Ra_A3, Ra_H3 t) := by kernel_rfl
theorem Ra_r3 (t : TypeId) (G : Nat → Option Obj) : pieceI Tryd.prog (ftOf Tryd.prog) G (run0 Tryd.prog (ftOf Tryd.prog) (knG kngA) G 100000) Ra_p3.1 Ra_p3.2 Ra_L3 Ra_A3 (Ra_H3 t) = some (Ra_L4, Ra_A4, Ra_H4 t) := by kernel_rfl
end Go.Proofs.YteenndlapjnclaaDoor
