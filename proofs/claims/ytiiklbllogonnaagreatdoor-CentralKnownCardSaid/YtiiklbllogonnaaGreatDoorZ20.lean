/- Texts of a proof, one behind the other. Conditions: those each says. -/
import Derived.Test.YtiiklbllogonnaaGreatDoorZQaz
namespace Go.Proofs.YtiiklbllogonnaaGreatDoor
open Go.Ev Go.RowKit
set_option maxRecDepth 100000
theorem any_centralKnown (w : World) (hw : ∃ ty, GOk Tryz.prog (gsT ty) w) : Calls Tryz.prog 4 #[] w fun e w' => e = .returned (.bool true) ∧ Quiet w w' := by
  obtain ⟨ty, hw⟩ := hw
  exact (Qa_ok hw).now hw.room
end Go.Proofs.YtiiklbllogonnaaGreatDoor
