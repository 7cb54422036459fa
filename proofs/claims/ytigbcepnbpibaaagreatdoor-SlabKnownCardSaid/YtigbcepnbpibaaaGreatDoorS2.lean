/-
  A closed law's head, known in pieces. Condition: the variable holds its table.
-/
import Derived.Test.YtigbcepnbpibaaaGreatDoorSwz
namespace Go.Proofs.YtigbcepnbpibaaaGreatDoor
open Go.Ev Go.RowKit
set_option maxRecDepth 100000
def knA : Kn := ⟨23, #[], .bool true⟩
theorem knA_ok {t : TypeId} {w : World} (hw : GOk Tryz.prog (gsT t) w) : KnOk Tryz.prog w knA := Sw_ok hw
def kngA : KnG := (23, [([], .bool true)]) :: kng
theorem kngA_ok {t : TypeId} {w : World} (hw : GOk Tryz.prog (gsT t) w) : ∀ x ∈ flatG kngA, KnOk Tryz.prog w x := fcons (knA_ok hw) (kng_ok hw)
end Go.Proofs.YtigbcepnbpibaaaGreatDoor
