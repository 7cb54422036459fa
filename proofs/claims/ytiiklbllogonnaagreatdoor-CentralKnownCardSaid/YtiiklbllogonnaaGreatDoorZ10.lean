/- Texts of a proof, one behind the other. Conditions: those each says. -/
import Derived.Test.YtiiklbllogonnaaGreatDoorZQwz
namespace Go.Proofs.YtiiklbllogonnaaGreatDoor
open Go.Ev Go.RowKit
set_option maxRecDepth 100000
def knA : Kn := ⟨7, #[], .bool true⟩
theorem knA_ok {t : TypeId} {w : World} (hw : GOk Tryz.prog (gsT t) w) : KnOk Tryz.prog w knA := Qw_ok hw
def kngA : KnG := (7, [([], .bool true)]) :: kng
theorem kngA_ok {t : TypeId} {w : World} (hw : GOk Tryz.prog (gsT t) w) : ∀ x ∈ flatG kngA, KnOk Tryz.prog w x := fcons (knA_ok hw) (kng_ok hw)
end Go.Proofs.YtiiklbllogonnaaGreatDoor
