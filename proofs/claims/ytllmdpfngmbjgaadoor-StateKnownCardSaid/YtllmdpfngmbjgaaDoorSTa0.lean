/-
  A closed body in pieces, some of them calls in pieces: 0 and on. Condition: the variable holds its table.
-/
import Derived.Test.YtllmdpfngmbjgaaDoorSTas
import Derived.Test.YtllmdpfngmbjgaaDoorEvSegN
namespace Go.Proofs.YtllmdpfngmbjgaaDoor
open Go.Ev Go.RowKit
set_option maxRecDepth 100000
theorem STa_r0_0 (t : TypeId) (G : Nat → Option Obj) : pieceI Tryd.prog (ftOf Tryd.prog) G (run0 Tryd.prog (ftOf Tryd.prog) (knG kngA) G 100000) 188 STa_v0_0 STa_L0_0 STa_A0_0 (H0g Tryd.prog (gsT t)) = some (STa_L0_1, STa_A0_1, (STa_H0_1 t)) := by kernel_rfl
theorem STa_e0 (t : TypeId) (G : Nat → Option Obj) : endL Tryd.prog (ftOf Tryd.prog) 3 (runPc Tryd.prog (ftOf Tryd.prog) G (run0 Tryd.prog (ftOf Tryd.prog) (knG kngA) G 100000) 100000 [] STa_L0_1 STa_A0_1 (STa_H0_1 t)) = some (.val (.bool true), (STa_R0 t)) := by kernel_rfl
end Go.Proofs.YtllmdpfngmbjgaaDoor
