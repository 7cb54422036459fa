/-
  Closed statements, run over what is known. Condition: the variable holds its table.
-/
import Derived.Test.YtigbcepnbpibaaaGreatDoorSaz
namespace Go.Proofs.YtigbcepnbpibaaaGreatDoor
open Go.Ev Go.RowKit
set_option maxRecDepth 100000
theorem any_slabKnown (w : World) (hw : ∃ ty, GOk Tryz.prog (gsT ty) w) : Calls Tryz.prog 3 #[] w fun e w' => e = .returned (.bool true) ∧ Quiet w w' := by
  obtain ⟨ty, hw⟩ := hw
  exact (Sa_ok hw).now hw.room
end Go.Proofs.YtigbcepnbpibaaaGreatDoor
