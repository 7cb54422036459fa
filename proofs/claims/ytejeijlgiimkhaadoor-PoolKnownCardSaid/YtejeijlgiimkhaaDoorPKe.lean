/-
  A closed body in pieces: piece last, between states that are written out. Condition: the variable holds its table.
-/
import Derived.Test.YtejeijlgiimkhaaDoorPKs
import Derived.Test.YtejeijlgiimkhaaDoorEvSeg
namespace Go.Proofs.YtejeijlgiimkhaaDoor
open Go.Ev Go.RowKit
set_option maxRecDepth 100000
theorem PK_e (t : TypeId) (G : Nat → Option Obj) : outEq (.bool true) (endL Tryd.prog (ftOf Tryd.prog) 4 (runL (run0 Tryd.prog (ftOf Tryd.prog) (knT knas fun _ _ => none) G 100000) PK_L3 PK_A3 (PK_H3 t))) = true := by kernel_rfl
end Go.Proofs.YtejeijlgiimkhaaDoor
