/-
  A closed body in pieces: piece 1, between states that are written out. Condition: the variable holds its table.
-/
import Derived.Test.YtejeijlgiimkhaaDoorPKs
import Derived.Test.YtejeijlgiimkhaaDoorEvSeg
namespace Go.Proofs.YtejeijlgiimkhaaDoor
open Go.Ev Go.RowKit
set_option maxRecDepth 100000
theorem PK_r1 (t : TypeId) (G : Nat → Option Obj) : piece (run0 Tryd.prog (ftOf Tryd.prog) (knT knas fun _ _ => none) G 100000) PK_p1.1 PK_p1.2 PK_L1 PK_A1 (PK_H1 t) = some (PK_A2, PK_H2 t) := by kernel_rfl
end Go.Proofs.YtejeijlgiimkhaaDoor
