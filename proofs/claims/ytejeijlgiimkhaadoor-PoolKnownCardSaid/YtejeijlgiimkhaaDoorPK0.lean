/-
  A closed body in pieces: piece 0, between states that are written out. Condition: the variable holds its table.
-/
import Derived.Test.YtejeijlgiimkhaaDoorPKs
import Derived.Test.YtejeijlgiimkhaaDoorEvSeg
namespace Go.Proofs.YtejeijlgiimkhaaDoor
open Go.Ev Go.RowKit
set_option maxRecDepth 100000
theorem PK_r0 (t : TypeId) (G : Nat → Option Obj) : piece (run0 Tryd.prog (ftOf Tryd.prog) (knT knas fun _ _ => none) G 100000) PK_p0.1 PK_p0.2 PK_L0 (enterL (ftOf Tryd.prog) 4 #[]) (H0g Tryd.prog (gsT t)) = some (PK_A1, PK_H1 t) := by kernel_rfl
end Go.Proofs.YtejeijlgiimkhaaDoor
