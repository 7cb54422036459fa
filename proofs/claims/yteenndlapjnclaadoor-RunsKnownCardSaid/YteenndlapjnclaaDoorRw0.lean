/-
  A closed body in pieces: piece 0 and on, between states that are written out. Condition: the variable holds its table.
-/
import Derived.Test.YteenndlapjnclaaDoorRws
import Derived.Test.YteenndlapjnclaaDoorEvSegD
namespace Go.Proofs.YteenndlapjnclaaDoor
open Go.Ev Go.RowKit
set_option maxRecDepth 100000
theorem Rw_r0 (t : TypeId) (G : Nat → Option Obj) : pieceI Tryd.prog (ftOf Tryd.prog) G (run0 Tryd.prog (ftOf Tryd.prog) (knG kng) G 100000) Rw_p0.1 Rw_p0.2 Rw_L0 (enterL (ftOf Tryd.prog) 16 #[]) (H0g Tryd.prog (gsT t)) = some (Rw_L1, Rw_A1, Rw_H1 t) := by kernel_rfl
theorem Rw_r1 (t : TypeId) (G : Nat → Option Obj) : pieceI Tryd.prog (ftOf Tryd.prog) G (run0 Tryd.prog (ftOf Tryd.prog) (knG kng) G 100000) Rw_p1.1 Rw_p1.2 Rw_L1 Rw_A1 (Rw_H1 t) = some (Rw_L2, Rw_A2, Rw_H2 t) := by kernel_rfl
end Go.Proofs.YteenndlapjnclaaDoor
