/-
  A closed body in pieces, some of them calls in pieces: 0 and on. Condition: the variable holds its table.
-/
import Derived.Test.YtllmdpfngmbjgaaDoorSTws
import Derived.Test.YtllmdpfngmbjgaaDoorEvSegN
namespace Go.Proofs.YtllmdpfngmbjgaaDoor
open Go.Ev Go.RowKit
set_option maxRecDepth 100000
theorem STw_e0 (t : TypeId) (G : Nat → Option Obj) : endL Tryd.prog (ftOf Tryd.prog) 21 (runPc Tryd.prog (ftOf Tryd.prog) G (run0 Tryd.prog (ftOf Tryd.prog) (knG kng) G 100000) 100000 [] STw_L0_0 STw_A0_0 (H0g Tryd.prog (gsT t))) = some (.val (.bool true), (STw_R0 t)) := by kernel_rfl
end Go.Proofs.YtllmdpfngmbjgaaDoor
