/-
  A closed law's head, run over what is known of the geometry. Condition: the variable holds its table.
-/
import Derived.Test.YtepdmefmcfiinaaDoorB1
namespace Go.Proofs.YtepdmefmcfiinaaDoor
open Go.Ev Go.RowKit
set_option maxRecDepth 100000
theorem kng_all : (flatG kng).all Kn.ok = true := by kernel_rfl
def knA : Kn := ⟨8, #[], .bool true⟩
theorem knA_run (t : TypeId) (G : Nat → Option Obj) : outEq knA.v (run0 Tryd.prog (ftOf Tryd.prog) (knG kng) G 100000 (.fn knA.f knA.args) (H0g Tryd.prog (gsT t))) = true := by kernel_rfl
theorem knA_ok {t : TypeId} {w : World} (hw : GOk Tryd.prog (gsT t) w) : KnOk Tryd.prog w knA := KnOk.runG env (by kernel_rfl) kng kng_all (fun G => knA_run t G) hw (kng_ok hw)
def kngA : KnG := (8, [([], .bool true)]) :: kng
theorem kngA_ok {t : TypeId} {w : World} (hw : GOk Tryd.prog (gsT t) w) : ∀ x ∈ flatG kngA, KnOk Tryd.prog w x := fcons (knA_ok hw) (kng_ok hw)
end Go.Proofs.YtepdmefmcfiinaaDoor
