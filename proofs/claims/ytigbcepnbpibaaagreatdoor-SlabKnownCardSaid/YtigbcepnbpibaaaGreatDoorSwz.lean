/-
  A closed law, its body's pieces together. Condition: the variable holds its table.
-/
import Derived.Test.YtigbcepnbpibaaaGreatDoorSw0
import Derived.Test.YtigbcepnbpibaaaGreatDoorSwe
namespace Go.Proofs.YtigbcepnbpibaaaGreatDoor
open Go.Ev Go.RowKit
set_option maxRecDepth 100000
noncomputable def Sw_A0 : Fr := enterL (ftOf Tryz.prog) 23 #[]
def Sw_q3 : List (Nat × List Nat) := []
def Sw_q2 : List (Nat × List Nat) := Sw_p2 :: Sw_q3
def Sw_q1 : List (Nat × List Nat) := Sw_p1 :: Sw_q2
def Sw_q0 : List (Nat × List Nat) := Sw_p0 :: Sw_q1
theorem Sw_all (t : TypeId) (G : Nat → Option Obj) : outEq (.bool true) (endL Tryz.prog (ftOf Tryz.prog) 23 (runQ Tryz.prog (ftOf Tryz.prog) G (run0 Tryz.prog (ftOf Tryz.prog) (knG kng) G 100000) 100000 Sw_q0 Sw_L0 Sw_A0 (H0g Tryz.prog (gsT t)))) = true := by
  have e0 : runQ Tryz.prog (ftOf Tryz.prog) G (run0 Tryz.prog (ftOf Tryz.prog) (knG kng) G 100000) 100000 Sw_q0 Sw_L0 Sw_A0 (H0g Tryz.prog (gsT t)) = runQ Tryz.prog (ftOf Tryz.prog) G (run0 Tryz.prog (ftOf Tryz.prog) (knG kng) G 100000) 100000 Sw_q1 Sw_L1 Sw_A1 (Sw_H1 t) := runQ_cons (Sw_r0 t G)
  have e1 : runQ Tryz.prog (ftOf Tryz.prog) G (run0 Tryz.prog (ftOf Tryz.prog) (knG kng) G 100000) 100000 Sw_q1 Sw_L1 Sw_A1 (Sw_H1 t) = runQ Tryz.prog (ftOf Tryz.prog) G (run0 Tryz.prog (ftOf Tryz.prog) (knG kng) G 100000) 100000 Sw_q2 Sw_L2 Sw_A2 (Sw_H2 t) := runQ_cons (Sw_r1 t G)
  have e2 : runQ Tryz.prog (ftOf Tryz.prog) G (run0 Tryz.prog (ftOf Tryz.prog) (knG kng) G 100000) 100000 Sw_q2 Sw_L2 Sw_A2 (Sw_H2 t) = runQ Tryz.prog (ftOf Tryz.prog) G (run0 Tryz.prog (ftOf Tryz.prog) (knG kng) G 100000) 100000 Sw_q3 Sw_L3 Sw_A3 (Sw_H3 t) := runQ_cons (Sw_r2 t G)
  rw [e0, e1, e2]
  exact Sw_e t G
theorem Sw_ok {t : TypeId} {w : World} (hw : GOk Tryz.prog (gsT t) w) : KnOk Tryz.prog w ⟨23, #[], .bool true⟩ := KnOk.itemsG env (by kernel_rfl) kng (by kernel_rfl) rfl rfl Sw_q0 (fun G => Sw_all t G) (by kernel_rfl) hw (kng_ok hw)
end Go.Proofs.YtigbcepnbpibaaaGreatDoor
