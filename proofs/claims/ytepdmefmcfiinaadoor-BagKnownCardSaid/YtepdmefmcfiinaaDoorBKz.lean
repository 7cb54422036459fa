/-
  A closed law, its body's pieces together. Condition: the variable holds its table.
-/
import Derived.Test.YtepdmefmcfiinaaDoorBK0
import Derived.Test.YtepdmefmcfiinaaDoorBK1
import Derived.Test.YtepdmefmcfiinaaDoorBK2
import Derived.Test.YtepdmefmcfiinaaDoorBK3
import Derived.Test.YtepdmefmcfiinaaDoorBK4
import Derived.Test.YtepdmefmcfiinaaDoorBK5
import Derived.Test.YtepdmefmcfiinaaDoorBK6
import Derived.Test.YtepdmefmcfiinaaDoorBKe
namespace Go.Proofs.YtepdmefmcfiinaaDoor
open Go.Ev Go.RowKit
set_option maxRecDepth 100000
noncomputable def BK_A0 : Fr := enterL (ftOf Tryd.prog) 4 #[]
theorem BK_all (t : TypeId) (G : Nat → Option Obj) : outEq (.bool true) (endL Tryd.prog (ftOf Tryd.prog) 4 (runQ (run0 Tryd.prog (ftOf Tryd.prog) (knG kngA) G 100000) 100000 [BK_p0, BK_p1, BK_p2, BK_p3, BK_p4, BK_p5, BK_p6] BK_L0 BK_A0 (H0g Tryd.prog (gsT t)))) = true := by
  have e0 : runQ (run0 Tryd.prog (ftOf Tryd.prog) (knG kngA) G 100000) 100000 [BK_p0, BK_p1, BK_p2, BK_p3, BK_p4, BK_p5, BK_p6] BK_L0 BK_A0 (H0g Tryd.prog (gsT t)) = runQ (run0 Tryd.prog (ftOf Tryd.prog) (knG kngA) G 100000) 100000 [BK_p1, BK_p2, BK_p3, BK_p4, BK_p5, BK_p6] BK_L1 BK_A1 (BK_H1 t) := runQ_cons (BK_r0 t G)
  have e1 : runQ (run0 Tryd.prog (ftOf Tryd.prog) (knG kngA) G 100000) 100000 [BK_p1, BK_p2, BK_p3, BK_p4, BK_p5, BK_p6] BK_L1 BK_A1 (BK_H1 t) = runQ (run0 Tryd.prog (ftOf Tryd.prog) (knG kngA) G 100000) 100000 [BK_p2, BK_p3, BK_p4, BK_p5, BK_p6] BK_L2 BK_A2 (BK_H2 t) := runQ_cons (BK_r1 t G)
  have e2 : runQ (run0 Tryd.prog (ftOf Tryd.prog) (knG kngA) G 100000) 100000 [BK_p2, BK_p3, BK_p4, BK_p5, BK_p6] BK_L2 BK_A2 (BK_H2 t) = runQ (run0 Tryd.prog (ftOf Tryd.prog) (knG kngA) G 100000) 100000 [BK_p3, BK_p4, BK_p5, BK_p6] BK_L3 BK_A3 (BK_H3 t) := runQ_cons (BK_r2 t G)
  have e3 : runQ (run0 Tryd.prog (ftOf Tryd.prog) (knG kngA) G 100000) 100000 [BK_p3, BK_p4, BK_p5, BK_p6] BK_L3 BK_A3 (BK_H3 t) = runQ (run0 Tryd.prog (ftOf Tryd.prog) (knG kngA) G 100000) 100000 [BK_p4, BK_p5, BK_p6] BK_L4 BK_A4 (BK_H4 t) := runQ_cons (BK_r3 t G)
  have e4 : runQ (run0 Tryd.prog (ftOf Tryd.prog) (knG kngA) G 100000) 100000 [BK_p4, BK_p5, BK_p6] BK_L4 BK_A4 (BK_H4 t) = runQ (run0 Tryd.prog (ftOf Tryd.prog) (knG kngA) G 100000) 100000 [BK_p5, BK_p6] BK_L5 BK_A5 (BK_H5 t) := runQ_cons (BK_r4 t G)
  have e5 : runQ (run0 Tryd.prog (ftOf Tryd.prog) (knG kngA) G 100000) 100000 [BK_p5, BK_p6] BK_L5 BK_A5 (BK_H5 t) = runQ (run0 Tryd.prog (ftOf Tryd.prog) (knG kngA) G 100000) 100000 [BK_p6] BK_L6 BK_A6 (BK_H6 t) := runQ_cons (BK_r5 t G)
  have e6 : runQ (run0 Tryd.prog (ftOf Tryd.prog) (knG kngA) G 100000) 100000 [BK_p6] BK_L6 BK_A6 (BK_H6 t) = runQ (run0 Tryd.prog (ftOf Tryd.prog) (knG kngA) G 100000) 100000 [] BK_L7 BK_A7 (BK_H7 t) := runQ_cons (BK_r6 t G)
  rw [e0, e1, e2, e3, e4, e5, e6]
  exact BK_e t G
theorem BK_ok {t : TypeId} {w : World} (hw : GOk Tryd.prog (gsT t) w) : KnOk Tryd.prog w ⟨4, #[], .bool true⟩ := KnOk.itemsG env (by kernel_rfl) kngA (by kernel_rfl) rfl rfl [BK_p0, BK_p1, BK_p2, BK_p3, BK_p4, BK_p5, BK_p6] (fun G => BK_all t G) (by kernel_rfl) hw (kngA_ok hw)
end Go.Proofs.YtepdmefmcfiinaaDoor
