/-
  A closed law, its body's pieces together. Condition: the variable holds its table.
-/
import Derived.Test.YtejeijlgiimkhaaDoorPK0
import Derived.Test.YtejeijlgiimkhaaDoorPK1
import Derived.Test.YtejeijlgiimkhaaDoorPK2
import Derived.Test.YtejeijlgiimkhaaDoorPKe
namespace Go.Proofs.YtejeijlgiimkhaaDoor
open Go.Ev Go.RowKit
set_option maxRecDepth 100000
noncomputable def PK_A0 : Fr := enterL (ftOf Tryd.prog) 4 #[]
theorem PK_all (t : TypeId) (G : Nat → Option Obj) : outEq (.bool true) (endL Tryd.prog (ftOf Tryd.prog) 4 (runP (run0 Tryd.prog (ftOf Tryd.prog) (knT knas fun _ _ => none) G 100000) [PK_p0, PK_p1, PK_p2] PK_L0 PK_A0 (H0g Tryd.prog (gsT t)))) = true := by
  have e0 : runP (run0 Tryd.prog (ftOf Tryd.prog) (knT knas fun _ _ => none) G 100000) [PK_p0, PK_p1, PK_p2] PK_L0 PK_A0 (H0g Tryd.prog (gsT t)) = runP (run0 Tryd.prog (ftOf Tryd.prog) (knT knas fun _ _ => none) G 100000) [PK_p1, PK_p2] PK_L1 PK_A1 (PK_H1 t) := runP_cons rfl (PK_r0 t G)
  have e1 : runP (run0 Tryd.prog (ftOf Tryd.prog) (knT knas fun _ _ => none) G 100000) [PK_p1, PK_p2] PK_L1 PK_A1 (PK_H1 t) = runP (run0 Tryd.prog (ftOf Tryd.prog) (knT knas fun _ _ => none) G 100000) [PK_p2] PK_L2 PK_A2 (PK_H2 t) := runP_cons rfl (PK_r1 t G)
  have e2 : runP (run0 Tryd.prog (ftOf Tryd.prog) (knT knas fun _ _ => none) G 100000) [PK_p2] PK_L2 PK_A2 (PK_H2 t) = runP (run0 Tryd.prog (ftOf Tryd.prog) (knT knas fun _ _ => none) G 100000) [] PK_L3 PK_A3 (PK_H3 t) := runP_cons rfl (PK_r2 t G)
  rw [e0, e1, e2, runP_nil]
  exact PK_e t G
theorem PK_ok {t : TypeId} {w : World} (hw : GOk Tryd.prog (gsT t) w) : KnOk Tryd.prog w ⟨4, #[], .bool true⟩ := KnOk.pieces env (by kernel_rfl) knas (by kernel_rfl) rfl rfl [PK_p0, PK_p1, PK_p2] (fun G => PK_all t G) (by kernel_rfl) hw (knas_ok hw)
end Go.Proofs.YtejeijlgiimkhaaDoor
