/-
  A closed law, its body's pieces together. Condition: the variable holds its table.
-/
import Derived.Test.YteenndlapjnclaaDoorRa0
import Derived.Test.YteenndlapjnclaaDoorRa1
import Derived.Test.YteenndlapjnclaaDoorRa2
import Derived.Test.YteenndlapjnclaaDoorRae
namespace Go.Proofs.YteenndlapjnclaaDoor
open Go.Ev Go.RowKit
set_option maxRecDepth 100000
noncomputable def Ra_A0 : Fr := enterL (ftOf Tryd.prog) 3 #[]
def Ra_q12 : List (Nat × List Nat) := []
def Ra_q11 : List (Nat × List Nat) := Ra_p11 :: Ra_q12
def Ra_q10 : List (Nat × List Nat) := Ra_p10 :: Ra_q11
def Ra_q9 : List (Nat × List Nat) := Ra_p9 :: Ra_q10
def Ra_q8 : List (Nat × List Nat) := Ra_p8 :: Ra_q9
def Ra_q7 : List (Nat × List Nat) := Ra_p7 :: Ra_q8
def Ra_q6 : List (Nat × List Nat) := Ra_p6 :: Ra_q7
def Ra_q5 : List (Nat × List Nat) := Ra_p5 :: Ra_q6
def Ra_q4 : List (Nat × List Nat) := Ra_p4 :: Ra_q5
def Ra_q3 : List (Nat × List Nat) := Ra_p3 :: Ra_q4
def Ra_q2 : List (Nat × List Nat) := Ra_p2 :: Ra_q3
def Ra_q1 : List (Nat × List Nat) := Ra_p1 :: Ra_q2
def Ra_q0 : List (Nat × List Nat) := Ra_p0 :: Ra_q1
theorem Ra_all (t : TypeId) (G : Nat → Option Obj) : outEq (.bool true) (endL Tryd.prog (ftOf Tryd.prog) 3 (runQ Tryd.prog (ftOf Tryd.prog) G (run0 Tryd.prog (ftOf Tryd.prog) (knG kngA) G 100000) 100000 Ra_q0 Ra_L0 Ra_A0 (H0g Tryd.prog (gsT t)))) = true := by
  have e0 : runQ Tryd.prog (ftOf Tryd.prog) G (run0 Tryd.prog (ftOf Tryd.prog) (knG kngA) G 100000) 100000 Ra_q0 Ra_L0 Ra_A0 (H0g Tryd.prog (gsT t)) = runQ Tryd.prog (ftOf Tryd.prog) G (run0 Tryd.prog (ftOf Tryd.prog) (knG kngA) G 100000) 100000 Ra_q1 Ra_L1 Ra_A1 (Ra_H1 t) := runQ_cons (Ra_r0 t G)
  have e1 : runQ Tryd.prog (ftOf Tryd.prog) G (run0 Tryd.prog (ftOf Tryd.prog) (knG kngA) G 100000) 100000 Ra_q1 Ra_L1 Ra_A1 (Ra_H1 t) = runQ Tryd.prog (ftOf Tryd.prog) G (run0 Tryd.prog (ftOf Tryd.prog) (knG kngA) G 100000) 100000 Ra_q2 Ra_L2 Ra_A2 (Ra_H2 t) := runQ_cons (Ra_r1 t G)
  have e2 : runQ Tryd.prog (ftOf Tryd.prog) G (run0 Tryd.prog (ftOf Tryd.prog) (knG kngA) G 100000) 100000 Ra_q2 Ra_L2 Ra_A2 (Ra_H2 t) = runQ Tryd.prog (ftOf Tryd.prog) G (run0 Tryd.prog (ftOf Tryd.prog) (knG kngA) G 100000) 100000 Ra_q3 Ra_L3 Ra_A3 (Ra_H3 t) := runQ_cons (Ra_r2 t G)
  have e3 : runQ Tryd.prog (ftOf Tryd.prog) G (run0 Tryd.prog (ftOf Tryd.prog) (knG kngA) G 100000) 100000 Ra_q3 Ra_L3 Ra_A3 (Ra_H3 t) = runQ Tryd.prog (ftOf Tryd.prog) G (run0 Tryd.prog (ftOf Tryd.prog) (knG kngA) G 100000) 100000 Ra_q4 Ra_L4 Ra_A4 (Ra_H4 t) := runQ_cons (Ra_r3 t G)
  have e4 : runQ Tryd.prog (ftOf Tryd.prog) G (run0 Tryd.prog (ftOf Tryd.prog) (knG kngA) G 100000) 100000 Ra_q4 Ra_L4 Ra_A4 (Ra_H4 t) = runQ Tryd.prog (ftOf Tryd.prog) G (run0 Tryd.prog (ftOf Tryd.prog) (knG kngA) G 100000) 100000 Ra_q5 Ra_L5 Ra_A5 (Ra_H5 t) := runQ_cons (Ra_r4 t G)
  have e5 : runQ Tryd.prog (ftOf Tryd.prog) G (run0 Tryd.prog (ftOf Tryd.prog) (knG kngA) G 100000) 100000 Ra_q5 Ra_L5 Ra_A5 (Ra_H5 t) = runQ Tryd.prog (ftOf Tryd.prog) G (run0 Tryd.prog (ftOf Tryd.prog) (knG kngA) G 100000) 100000 Ra_q6 Ra_L6 Ra_A6 (Ra_H6 t) := runQ_cons (Ra_r5 t G)
  have e6 : runQ Tryd.prog (ftOf Tryd.prog) G (run0 Tryd.prog (ftOf Tryd.prog) (knG kngA) G 100000) 100000 Ra_q6 Ra_L6 Ra_A6 (Ra_H6 t) = runQ Tryd.prog (ftOf Tryd.prog) G (run0 Tryd.prog (ftOf Tryd.prog) (knG kngA) G 100000) 100000 Ra_q7 Ra_L7 Ra_A7 (Ra_H7 t) := runQ_cons (Ra_r6 t G)
  have e7 : runQ Tryd.prog (ftOf Tryd.prog) G (run0 Tryd.prog (ftOf Tryd.prog) (knG kngA) G 100000) 100000 Ra_q7 Ra_L7 Ra_A7 (Ra_H7 t) = runQ Tryd.prog (ftOf Tryd.prog) G (run0 Tryd.prog (ftOf Tryd.prog) (knG kngA) G 100000) 100000 Ra_q8 Ra_L8 Ra_A8 (Ra_H8 t) := runQ_cons (Ra_r7 t G)
  have e8 : runQ Tryd.prog (ftOf Tryd.prog) G (run0 Tryd.prog (ftOf Tryd.prog) (knG kngA) G 100000) 100000 Ra_q8 Ra_L8 Ra_A8 (Ra_H8 t) = runQ Tryd.prog (ftOf Tryd.prog) G (run0 Tryd.prog (ftOf Tryd.prog) (knG kngA) G 100000) 100000 Ra_q9 Ra_L9 Ra_A9 (Ra_H9 t) := runQ_cons (Ra_r8 t G)
  have e9 : runQ Tryd.prog (ftOf Tryd.prog) G (run0 Tryd.prog (ftOf Tryd.prog) (knG kngA) G 100000) 100000 Ra_q9 Ra_L9 Ra_A9 (Ra_H9 t) = runQ Tryd.prog (ftOf Tryd.prog) G (run0 Tryd.prog (ftOf Tryd.prog) (knG kngA) G 100000) 100000 Ra_q10 Ra_L10 Ra_A10 (Ra_H10 t) := runQ_cons (Ra_r9 t G)
  have e10 : runQ Tryd.prog (ftOf Tryd.prog) G (run0 Tryd.prog (ftOf Tryd.prog) (knG kngA) G 100000) 100000 Ra_q10 Ra_L10 Ra_A10 (Ra_H10 t) = runQ Tryd.prog (ftOf Tryd.prog) G (run0 Tryd.prog (ftOf Tryd.prog) (knG kngA) G 100000) 100000 Ra_q11 Ra_L11 Ra_A11 (Ra_H11 t) := runQ_cons (Ra_r10 t G)
  have e11 : runQ Tryd.prog (ftOf Tryd.prog) G (run0 Tryd.prog (ftOf Tryd.prog) (knG kngA) G 100000) 100000 Ra_q11 Ra_L11 Ra_A11 (Ra_H11 t) = runQ Tryd.prog (ftOf Tryd.prog) G (run0 Tryd.prog (ftOf Tryd.prog) (knG kngA) G 100000) 100000 Ra_q12 Ra_L12 Ra_A12 (Ra_H12 t) := runQ_cons (Ra_r11 t G)
  rw [e0, e1, e2, e3, e4, e5, e6, e7, e8, e9, e10, e11]
  exact Ra_e t G
theorem Ra_ok {t : TypeId} {w : World} (hw : GOk Tryd.prog (gsT t) w) : KnOk Tryd.prog w ⟨3, #[], .bool true⟩ := KnOk.itemsG env (by kernel_rfl) kngA (by kernel_rfl) rfl rfl Ra_q0 (fun G => Ra_all t G) (by kernel_rfl) hw (kngA_ok hw)
end Go.Proofs.YteenndlapjnclaaDoor
