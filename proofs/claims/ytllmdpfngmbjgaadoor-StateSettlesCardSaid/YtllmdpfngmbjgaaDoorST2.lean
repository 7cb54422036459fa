/-
  A closed law's head, known in pieces. Condition: the variable holds its table.
-/
import Derived.Test.YtllmdpfngmbjgaaDoorSTwz
namespace Go.Proofs.YtllmdpfngmbjgaaDoor
open Go.Ev Go.RowKit
set_option maxRecDepth 100000
def knA : Kn := ⟨21, #[], .bool true⟩
theorem knA_ok {t : TypeId} {w : World} (hw : GOk Tryd.prog (gsT t) w) : KnOk Tryd.prog w knA := STw_ok hw
def kngA : KnG := (21, [([], .bool true)]) :: kng
theorem kngA_ok {t : TypeId} {w : World} (hw : GOk Tryd.prog (gsT t) w) : ∀ x ∈ flatG kngA, KnOk Tryd.prog w x := fcons (knA_ok hw) (kng_ok hw)
end Go.Proofs.YtllmdpfngmbjgaaDoor
