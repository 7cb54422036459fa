/-
  Closed statements, run over what is known. Condition: the variable holds its table.
-/
import Derived.Test.YtepdmefmcfiinaaDoorBFz
namespace Go.Proofs.YtepdmefmcfiinaaDoor
open Go.Ev Go.RowKit
set_option maxRecDepth 100000
theorem full_any (w : World) (hw : ∃ ty, GOk Tryd.prog (gsT ty) w) : Calls Tryd.prog 5 #[] w fun e w' => e = .returned (.bool true) ∧ Quiet w w' := by
  obtain ⟨ty, hw⟩ := hw
  exact (BF_ok hw).now hw.room
end Go.Proofs.YtepdmefmcfiinaaDoor
