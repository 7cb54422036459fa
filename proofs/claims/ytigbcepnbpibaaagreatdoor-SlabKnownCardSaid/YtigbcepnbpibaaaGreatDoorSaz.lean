/-
  A closed law, its body's pieces together. Condition: the variable holds its table.
-/
import Derived.Test.YtigbcepnbpibaaaGreatDoorSa0
import Derived.Test.YtigbcepnbpibaaaGreatDoorSa1
import Derived.Test.YtigbcepnbpibaaaGreatDoorSa2
import Derived.Test.YtigbcepnbpibaaaGreatDoorSae
namespace Go.Proofs.YtigbcepnbpibaaaGreatDoor
open Go.Ev Go.RowKit
set_option maxRecDepth 100000
noncomputable def Sa_A0 : Fr := enterL (ftOf Tryz.prog) 3 #[]
def Sa_q12 : List (Nat × List Nat) := []
def Sa_q11 : List (Nat × List Nat) := Sa_p11 :: Sa_q12
def Sa_q10 : List (Nat × List Nat) := Sa_p10 :: Sa_q11
def Sa_q9 : List (Nat × List Nat) := Sa_p9 :: Sa_q10
def Sa_q8 : List (Nat × List Nat) := Sa_p8 :: Sa_q9
def Sa_q7 : List (Nat × List Nat) := Sa_p7 :: Sa_q8
def Sa_q6 : List (Nat × List Nat) := Sa_p6 :: Sa_q7
def Sa_q5 : List (Nat × List Nat) := Sa_p5 :: Sa_q6
def Sa_q4 : List (Nat × List Nat) := Sa_p4 :: Sa_q5
def Sa_q3 : List (Nat × List Nat) := Sa_p3 :: Sa_q4
def Sa_q2 : List (Nat × List Nat) := Sa_p2 :: Sa_q3
def Sa_q1 : List (Nat × List Nat) := Sa_p1 :: Sa_q2
def Sa_q0 : List (Nat × List Nat) := Sa_p0 :: Sa_q1
theorem Sa_all (t : TypeId) (G : Nat → Option Obj) : outEq (.bool true) (endL Tryz.prog (ftOf Tryz.prog) 3 (runQ Tryz.prog (ftOf Tryz.prog) G (run0 Tryz.prog (ftOf Tryz.prog) (knG kngA) G 100000) 100000 Sa_q0 Sa_L0 Sa_A0 (H0g Tryz.prog (gsT t)))) = true := by
  have e0 : runQ Tryz.prog (ftOf Tryz.prog) G (run0 Tryz.prog (ftOf Tryz.prog) (knG kngA) G 100000) 100000 Sa_q0 Sa_L0 Sa_A0 (H0g Tryz.prog (gsT t)) = runQ Tryz.prog (ftOf Tryz.prog) G (run0 Tryz.prog (ftOf Tryz.prog) (knG kngA) G 100000) 100000 Sa_q1 Sa_L1 Sa_A1 (Sa_H1 t) := runQ_cons (Sa_r0 t G)
  have e1 : runQ Tryz.prog (ftOf Tryz.prog) G (run0 Tryz.prog (ftOf Tryz.prog) (knG kngA) G 100000) 100000 Sa_q1 Sa_L1 Sa_A1 (Sa_H1 t) = runQ Tryz.prog (ftOf Tryz.prog) G (run0 Tryz.prog (ftOf Tryz.prog) (knG kngA) G 100000) 100000 Sa_q2 Sa_L2 Sa_A2 (Sa_H2 t) := runQ_cons (Sa_r1 t G)
  have e2 : runQ Tryz.prog (ftOf Tryz.prog) G (run0 Tryz.prog (ftOf Tryz.prog) (knG kngA) G 100000) 100000 Sa_q2 Sa_L2 Sa_A2 (Sa_H2 t) = runQ Tryz.prog (ftOf Tryz.prog) G (run0 Tryz.prog (ftOf Tryz.prog) (knG kngA) G 100000) 100000 Sa_q3 Sa_L3 Sa_A3 (Sa_H3 t) := runQ_cons (Sa_r2 t G)
  have e3 : runQ Tryz.prog (ftOf Tryz.prog) G (run0 Tryz.prog (ftOf Tryz.prog) (knG kngA) G 100000) 100000 Sa_q3 Sa_L3 Sa_A3 (Sa_H3 t) = runQ Tryz.prog (ftOf Tryz.prog) G (run0 Tryz.prog (ftOf Tryz.prog) (knG kngA) G 100000) 100000 Sa_q4 Sa_L4 Sa_A4 (Sa_H4 t) := runQ_cons (Sa_r3 t G)
  have e4 : runQ Tryz.prog (ftOf Tryz.prog) G (run0 Tryz.prog (ftOf Tryz.prog) (knG kngA) G 100000) 100000 Sa_q4 Sa_L4 Sa_A4 (Sa_H4 t) = runQ Tryz.prog (ftOf Tryz.prog) G (run0 Tryz.prog (ftOf Tryz.prog) (knG kngA) G 100000) 100000 Sa_q5 Sa_L5 Sa_A5 (Sa_H5 t) := runQ_cons (Sa_r4 t G)
  have e5 : runQ Tryz.prog (ftOf Tryz.prog) G (run0 Tryz.prog (ftOf Tryz.prog) (knG kngA) G 100000) 100000 Sa_q5 Sa_L5 Sa_A5 (Sa_H5 t) = runQ Tryz.prog (ftOf Tryz.prog) G (run0 Tryz.prog (ftOf Tryz.prog) (knG kngA) G 100000) 100000 Sa_q6 Sa_L6 Sa_A6 (Sa_H6 t) := runQ_cons (Sa_r5 t G)
  have e6 : runQ Tryz.prog (ftOf Tryz.prog) G (run0 Tryz.prog (ftOf Tryz.prog) (knG kngA) G 100000) 100000 Sa_q6 Sa_L6 Sa_A6 (Sa_H6 t) = runQ Tryz.prog (ftOf Tryz.prog) G (run0 Tryz.prog (ftOf Tryz.prog) (knG kngA) G 100000) 100000 Sa_q7 Sa_L7 Sa_A7 (Sa_H7 t) := runQ_cons (Sa_r6 t G)
  have e7 : runQ Tryz.prog (ftOf Tryz.prog) G (run0 Tryz.prog (ftOf Tryz.prog) (knG kngA) G 100000) 100000 Sa_q7 Sa_L7 Sa_A7 (Sa_H7 t) = runQ Tryz.prog (ftOf Tryz.prog) G (run0 Tryz.prog (ftOf Tryz.prog) (knG kngA) G 100000) 100000 Sa_q8 Sa_L8 Sa_A8 (Sa_H8 t) := runQ_cons (Sa_r7 t G)
  have e8 : runQ Tryz.prog (ftOf Tryz.prog) G (run0 Tryz.prog (ftOf Tryz.prog) (knG kngA) G 100000) 100000 Sa_q8 Sa_L8 Sa_A8 (Sa_H8 t) = runQ Tryz.prog (ftOf Tryz.prog) G (run0 Tryz.prog (ftOf Tryz.prog) (knG kngA) G 100000) 100000 Sa_q9 Sa_L9 Sa_A9 (Sa_H9 t) := runQ_cons (Sa_r8 t G)
  have e9 : runQ Tryz.prog (ftOf Tryz.prog) G (run0 Tryz.prog (ftOf Tryz.prog) (knG kngA) G 100000) 100000 Sa_q9 Sa_L9 Sa_A9 (Sa_H9 t) = runQ Tryz.prog (ftOf Tryz.prog) G (run0 Tryz.prog (ftOf Tryz.prog) (knG kngA) G 100000) 100000 Sa_q10 Sa_L10 Sa_A10 (Sa_H10 t) := runQ_cons (Sa_r9 t G)
  have e10 : runQ Tryz.prog (ftOf Tryz.prog) G (run0 Tryz.prog (ftOf Tryz.prog) (knG kngA) G 100000) 100000 Sa_q10 Sa_L10 Sa_A10 (Sa_H10 t) = runQ Tryz.prog (ftOf Tryz.prog) G (run0 Tryz.prog (ftOf Tryz.prog) (knG kngA) G 100000) 100000 Sa_q11 Sa_L11 Sa_A11 (Sa_H11 t) := runQ_cons (Sa_r10 t G)
  have e11 : runQ Tryz.prog (ftOf Tryz.prog) G (run0 Tryz.prog (ftOf Tryz.prog) (knG kngA) G 100000) 100000 Sa_q11 Sa_L11 Sa_A11 (Sa_H11 t) = runQ Tryz.prog (ftOf Tryz.prog) G (run0 Tryz.prog (ftOf Tryz.prog) (knG kngA) G 100000) 100000 Sa_q12 Sa_L12 Sa_A12 (Sa_H12 t) := runQ_cons (Sa_r11 t G)
  rw [e0, e1, e2, e3, e4, e5, e6, e7, e8, e9, e10, e11]
  exact Sa_e t G
theorem Sa_ok {t : TypeId} {w : World} (hw : GOk Tryz.prog (gsT t) w) : KnOk Tryz.prog w ⟨3, #[], .bool true⟩ := KnOk.itemsG env (by kernel_rfl) kngA (by kernel_rfl) rfl rfl Sa_q0 (fun G => Sa_all t G) (by kernel_rfl) hw (kngA_ok hw)
end Go.Proofs.YtigbcepnbpibaaaGreatDoor
