/-
  A closed law, its body's pieces together. Condition: the variable holds its table.
-/
import Derived.Test.YteenndlapjnclaaDoorRw0
import Derived.Test.YteenndlapjnclaaDoorRwe
namespace Go.Proofs.YteenndlapjnclaaDoor
open Go.Ev Go.RowKit
set_option maxRecDepth 100000
noncomputable def Rw_A0 : Fr := enterL (ftOf Tryd.prog) 16 #[]
def Rw_q2 : List (Nat × List Nat) := []
def Rw_q1 : List (Nat × List Nat) := Rw_p1 :: Rw_q2
def Rw_q0 : List (Nat × List Nat) := Rw_p0 :: Rw_q1
theorem Rw_all (t : TypeId) (G : Nat → Option Obj) : outEq (.bool true) (endL Tryd.prog (ftOf Tryd.prog) 16 (runQ Tryd.prog (ftOf Tryd.prog) G (run0 Tryd.prog (ftOf Tryd.prog) (knG kng) G 100000) 100000 Rw_q0 Rw_L0 Rw_A0 (H0g Tryd.prog (gsT t)))) = true := by
  have e0 : runQ Tryd.prog (ftOf Tryd.prog) G (run0 Tryd.prog (ftOf Tryd.prog) (knG kng) G 100000) 100000 Rw_q0 Rw_L0 Rw_A0 (H0g Tryd.prog (gsT t)) = runQ Tryd.prog (ftOf Tryd.prog) G (run0 Tryd.prog (ftOf Tryd.prog) (knG kng) G 100000) 100000 Rw_q1 Rw_L1 Rw_A1 (Rw_H1 t) := runQ_cons (Rw_r0 t G)
  have e1 : runQ Tryd.prog (ftOf Tryd.prog) G (run0 Tryd.prog (ftOf Tryd.prog) (knG kng) G 100000) 100000 Rw_q1 Rw_L1 Rw_A1 (Rw_H1 t) = runQ Tryd.prog (ftOf Tryd.prog) G (run0 Tryd.prog (ftOf Tryd.prog) (knG kng) G 100000) 100000 Rw_q2 Rw_L2 Rw_A2 (Rw_H2 t) := runQ_cons (Rw_r1 t G)
  rw [e0, e1]
  exact Rw_e t G
theorem Rw_ok {t : TypeId} {w : World} (hw : GOk Tryd.prog (gsT t) w) : KnOk Tryd.prog w ⟨16, #[], .bool true⟩ := KnOk.itemsG env (by kernel_rfl) kng (by kernel_rfl) rfl rfl Rw_q0 (fun G => Rw_all t G) (by kernel_rfl) hw (kng_ok hw)
end Go.Proofs.YteenndlapjnclaaDoor
