/-
  A closed law's head, run over what is known of the geometry. Condition: the variable holds its table.
-/
import Derived.Test.YtejeijlgiimkhaaDoorP1
namespace Go.Proofs.YtejeijlgiimkhaaDoor
open Go.Ev Go.RowKit
set_option maxRecDepth 100000
def knA : Kn := ⟨5, #[], .bool true⟩
theorem knA_run (t : TypeId) (G : Nat → Option Obj) : outEq knA.v (run0 Tryd.prog (ftOf Tryd.prog) (knT kns fun _ _ => none) G 100000 (.fn knA.f knA.args) (H0g Tryd.prog (gsT t))) = true := by kernel_rfl
theorem knA_ok {t : TypeId} {w : World} (hw : GOk Tryd.prog (gsT t) w) : KnOk Tryd.prog w knA := KnOk.runT env (by kernel_rfl) kns (by kernel_rfl) (fun G => knA_run t G) hw (kns_ok hw)
def knas : List Kn := knA :: kns
theorem knas_ok {t : TypeId} {w : World} (hw : GOk Tryd.prog (gsT t) w) : ∀ x ∈ knas, KnOk Tryd.prog w x := by
  intro x hx
  rcases List.mem_cons.1 hx with rfl | hx
  · exact knA_ok hw
  · exact kns_ok hw x hx
end Go.Proofs.YtejeijlgiimkhaaDoor
