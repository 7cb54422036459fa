/-
  Closed statements, run over what is known. Condition: the variable holds its table.
-/
import Derived.Test.YtllmdpfngmbjgaaDoorSTaz
namespace Go.Proofs.YtllmdpfngmbjgaaDoor
open Go.Ev Go.RowKit
set_option maxRecDepth 100000
theorem any_stateKnown (w : World) (hw : ∃ ty, GOk Tryd.prog (gsT ty) w) : Calls Tryd.prog 3 #[] w fun e w' => e = .returned (.bool true) ∧ Quiet w w' := by
  obtain ⟨ty, hw⟩ := hw
  exact (STa_ok hw).now hw.room
end Go.Proofs.YtllmdpfngmbjgaaDoor
