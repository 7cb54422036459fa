/-
  A closed law, its body's pieces together. Condition: the variable holds its table.
-/
import Derived.Test.YtepdmefmcfiinaaDoorBF0
import Derived.Test.YtepdmefmcfiinaaDoorBF1
import Derived.Test.YtepdmefmcfiinaaDoorBF2
import Derived.Test.YtepdmefmcfiinaaDoorBF3
import Derived.Test.YtepdmefmcfiinaaDoorBFe
namespace Go.Proofs.YtepdmefmcfiinaaDoor
open Go.Ev Go.RowKit
set_option maxRecDepth 100000
noncomputable def BF_A0 : Fr := enterL (ftOf Tryd.prog) 5 #[]
def BF_q65 : List (Nat × List Nat) := []
def BF_q64 : List (Nat × List Nat) := BF_p64 :: BF_q65
def BF_q63 : List (Nat × List Nat) := BF_p63 :: BF_q64
def BF_q62 : List (Nat × List Nat) := BF_p62 :: BF_q63
def BF_q61 : List (Nat × List Nat) := BF_p61 :: BF_q62
def BF_q60 : List (Nat × List Nat) := BF_p60 :: BF_q61
def BF_q59 : List (Nat × List Nat) := BF_p59 :: BF_q60
def BF_q58 : List (Nat × List Nat) := BF_p58 :: BF_q59
def BF_q57 : List (Nat × List Nat) := BF_p57 :: BF_q58
def BF_q56 : List (Nat × List Nat) := BF_p56 :: BF_q57
def BF_q55 : List (Nat × List Nat) := BF_p55 :: BF_q56
def BF_q54 : List (Nat × List Nat) := BF_p54 :: BF_q55
def BF_q53 : List (Nat × List Nat) := BF_p53 :: BF_q54
def BF_q52 : List (Nat × List Nat) := BF_p52 :: BF_q53
def BF_q51 : List (Nat × List Nat) := BF_p51 :: BF_q52
def BF_q50 : List (Nat × List Nat) := BF_p50 :: BF_q51
def BF_q49 : List (Nat × List Nat) := BF_p49 :: BF_q50
def BF_q48 : List (Nat × List Nat) := BF_p48 :: BF_q49
def BF_q47 : List (Nat × List Nat) := BF_p47 :: BF_q48
def BF_q46 : List (Nat × List Nat) := BF_p46 :: BF_q47
def BF_q45 : List (Nat × List Nat) := BF_p45 :: BF_q46
def BF_q44 : List (Nat × List Nat) := BF_p44 :: BF_q45
def BF_q43 : List (Nat × List Nat) := BF_p43 :: BF_q44
def BF_q42 : List (Nat × List Nat) := BF_p42 :: BF_q43
def BF_q41 : List (Nat × List Nat) := BF_p41 :: BF_q42
def BF_q40 : List (Nat × List Nat) := BF_p40 :: BF_q41
def BF_q39 : List (Nat × List Nat) := BF_p39 :: BF_q40
def BF_q38 : List (Nat × List Nat) := BF_p38 :: BF_q39
def BF_q37 : List (Nat × List Nat) := BF_p37 :: BF_q38
def BF_q36 : List (Nat × List Nat) := BF_p36 :: BF_q37
def BF_q35 : List (Nat × List Nat) := BF_p35 :: BF_q36
def BF_q34 : List (Nat × List Nat) := BF_p34 :: BF_q35
def BF_q33 : List (Nat × List Nat) := BF_p33 :: BF_q34
def BF_q32 : List (Nat × List Nat) := BF_p32 :: BF_q33
def BF_q31 : List (Nat × List Nat) := BF_p31 :: BF_q32
def BF_q30 : List (Nat × List Nat) := BF_p30 :: BF_q31
def BF_q29 : List (Nat × List Nat) := BF_p29 :: BF_q30
def BF_q28 : List (Nat × List Nat) := BF_p28 :: BF_q29
def BF_q27 : List (Nat × List Nat) := BF_p27 :: BF_q28
def BF_q26 : List (Nat × List Nat) := BF_p26 :: BF_q27
def BF_q25 : List (Nat × List Nat) := BF_p25 :: BF_q26
def BF_q24 : List (Nat × List Nat) := BF_p24 :: BF_q25
def BF_q23 : List (Nat × List Nat) := BF_p23 :: BF_q24
def BF_q22 : List (Nat × List Nat) := BF_p22 :: BF_q23
def BF_q21 : List (Nat × List Nat) := BF_p21 :: BF_q22
def BF_q20 : List (Nat × List Nat) := BF_p20 :: BF_q21
def BF_q19 : List (Nat × List Nat) := BF_p19 :: BF_q20
def BF_q18 : List (Nat × List Nat) := BF_p18 :: BF_q19
def BF_q17 : List (Nat × List Nat) := BF_p17 :: BF_q18
def BF_q16 : List (Nat × List Nat) := BF_p16 :: BF_q17
def BF_q15 : List (Nat × List Nat) := BF_p15 :: BF_q16
def BF_q14 : List (Nat × List Nat) := BF_p14 :: BF_q15
def BF_q13 : List (Nat × List Nat) := BF_p13 :: BF_q14
def BF_q12 : List (Nat × List Nat) := BF_p12 :: BF_q13
def BF_q11 : List (Nat × List Nat) := BF_p11 :: BF_q12
def BF_q10 : List (Nat × List Nat) := BF_p10 :: BF_q11
def BF_q9 : List (Nat × List Nat) := BF_p9 :: BF_q10
def BF_q8 : List (Nat × List Nat) := BF_p8 :: BF_q9
def BF_q7 : List (Nat × List Nat) := BF_p7 :: BF_q8
def BF_q6 : List (Nat × List Nat) := BF_p6 :: BF_q7
def BF_q5 : List (Nat × List Nat) := BF_p5 :: BF_q6
def BF_q4 : List (Nat × List Nat) := BF_p4 :: BF_q5
def BF_q3 : List (Nat × List Nat) := BF_p3 :: BF_q4
def BF_q2 : List (Nat × List Nat) := BF_p2 :: BF_q3
def BF_q1 : List (Nat × List Nat) := BF_p1 :: BF_q2
def BF_q0 : List (Nat × List Nat) := BF_p0 :: BF_q1
theorem BF_all (t : TypeId) (G : Nat → Option Obj) : outEq (.bool true) (endL Tryd.prog (ftOf Tryd.prog) 5 (runQ (run0 Tryd.prog (ftOf Tryd.prog) (knG kngA) G 100000) 100000 BF_q0 BF_L0 BF_A0 (H0g Tryd.prog (gsT t)))) = true := by
  have e0 : runQ (run0 Tryd.prog (ftOf Tryd.prog) (knG kngA) G 100000) 100000 BF_q0 BF_L0 BF_A0 (H0g Tryd.prog (gsT t)) = runQ (run0 Tryd.prog (ftOf Tryd.prog) (knG kngA) G 100000) 100000 BF_q1 BF_L1 BF_A1 (BF_H1 t) := runQ_cons (BF_r0 t G)
  have e1 : runQ (run0 Tryd.prog (ftOf Tryd.prog) (knG kngA) G 100000) 100000 BF_q1 BF_L1 BF_A1 (BF_H1 t) = runQ (run0 Tryd.prog (ftOf Tryd.prog) (knG kngA) G 100000) 100000 BF_q2 BF_L2 BF_A2 (BF_H2 t) := runQ_cons (BF_r1 t G)
  have e2 : runQ (run0 Tryd.prog (ftOf Tryd.prog) (knG kngA) G 100000) 100000 BF_q2 BF_L2 BF_A2 (BF_H2 t) = runQ (run0 Tryd.prog (ftOf Tryd.prog) (knG kngA) G 100000) 100000 BF_q3 BF_L3 BF_A3 (BF_H3 t) := runQ_cons (BF_r2 t G)
  have e3 : runQ (run0 Tryd.prog (ftOf Tryd.prog) (knG kngA) G 100000) 100000 BF_q3 BF_L3 BF_A3 (BF_H3 t) = runQ (run0 Tryd.prog (ftOf Tryd.prog) (knG kngA) G 100000) 100000 BF_q4 BF_L4 BF_A4 (BF_H4 t) := runQ_cons (BF_r3 t G)
  have e4 : runQ (run0 Tryd.prog (ftOf Tryd.prog) (knG kngA) G 100000) 100000 BF_q4 BF_L4 BF_A4 (BF_H4 t) = runQ (run0 Tryd.prog (ftOf Tryd.prog) (knG kngA) G 100000) 100000 BF_q5 BF_L5 BF_A5 (BF_H5 t) := runQ_cons (BF_r4 t G)
  have e5 : runQ (run0 Tryd.prog (ftOf Tryd.prog) (knG kngA) G 100000) 100000 BF_q5 BF_L5 BF_A5 (BF_H5 t) = runQ (run0 Tryd.prog (ftOf Tryd.prog) (knG kngA) G 100000) 100000 BF_q6 BF_L6 BF_A6 (BF_H6 t) := runQ_cons (BF_r5 t G)
  have e6 : runQ (run0 Tryd.prog (ftOf Tryd.prog) (knG kngA) G 100000) 100000 BF_q6 BF_L6 BF_A6 (BF_H6 t) = runQ (run0 Tryd.prog (ftOf Tryd.prog) (knG kngA) G 100000) 100000 BF_q7 BF_L7 BF_A7 (BF_H7 t) := runQ_cons (BF_r6 t G)
  have e7 : runQ (run0 Tryd.prog (ftOf Tryd.prog) (knG kngA) G 100000) 100000 BF_q7 BF_L7 BF_A7 (BF_H7 t) = runQ (run0 Tryd.prog (ftOf Tryd.prog) (knG kngA) G 100000) 100000 BF_q8 BF_L8 BF_A8 (BF_H8 t) := runQ_cons (BF_r7 t G)
  have e8 : runQ (run0 Tryd.prog (ftOf Tryd.prog) (knG kngA) G 100000) 100000 BF_q8 BF_L8 BF_A8 (BF_H8 t) = runQ (run0 Tryd.prog (ftOf Tryd.prog) (knG kngA) G 100000) 100000 BF_q9 BF_L9 BF_A9 (BF_H9 t) := runQ_cons (BF_r8 t G)
  have e9 : runQ (run0 Tryd.prog (ftOf Tryd.prog) (knG kngA) G 100000) 100000 BF_q9 BF_L9 BF_A9 (BF_H9 t) = runQ (run0 Tryd.prog (ftOf Tryd.prog) (knG kngA) G 100000) 100000 BF_q10 BF_L10 BF_A10 (BF_H10 t) := runQ_cons (BF_r9 t G)
  have e10 : runQ (run0 Tryd.prog (ftOf Tryd.prog) (knG kngA) G 100000) 100000 BF_q10 BF_L10 BF_A10 (BF_H10 t) = runQ (run0 Tryd.prog (ftOf Tryd.prog) (knG kngA) G 100000) 100000 BF_q11 BF_L11 BF_A11 (BF_H11 t) := runQ_cons (BF_r10 t G)
  have e11 : runQ (run0 Tryd.prog (ftOf Tryd.prog) (knG kngA) G 100000) 100000 BF_q11 BF_L11 BF_A11 (BF_H11 t) = runQ (run0 Tryd.prog (ftOf Tryd.prog) (knG kngA) G 100000) 100000 BF_q12 BF_L12 BF_A12 (BF_H12 t) := runQ_cons (BF_r11 t G)
  have e12 : runQ (run0 Tryd.prog (ftOf Tryd.prog) (knG kngA) G 100000) 100000 BF_q12 BF_L12 BF_A12 (BF_H12 t) = runQ (run0 Tryd.prog (ftOf Tryd.prog) (knG kngA) G 100000) 100000 BF_q13 BF_L13 BF_A13 (BF_H13 t) := runQ_cons (BF_r12 t G)
  have e13 : runQ (run0 Tryd.prog (ftOf Tryd.prog) (knG kngA) G 100000) 100000 BF_q13 BF_L13 BF_A13 (BF_H13 t) = runQ (run0 Tryd.prog (ftOf Tryd.prog) (knG kngA) G 100000) 100000 BF_q14 BF_L14 BF_A14 (BF_H14 t) := runQ_cons (BF_r13 t G)
  have e14 : runQ (run0 Tryd.prog (ftOf Tryd.prog) (knG kngA) G 100000) 100000 BF_q14 BF_L14 BF_A14 (BF_H14 t) = runQ (run0 Tryd.prog (ftOf Tryd.prog) (knG kngA) G 100000) 100000 BF_q15 BF_L15 BF_A15 (BF_H15 t) := runQ_cons (BF_r14 t G)
  have e15 : runQ (run0 Tryd.prog (ftOf Tryd.prog) (knG kngA) G 100000) 100000 BF_q15 BF_L15 BF_A15 (BF_H15 t) = runQ (run0 Tryd.prog (ftOf Tryd.prog) (knG kngA) G 100000) 100000 BF_q16 BF_L16 BF_A16 (BF_H16 t) := runQ_cons (BF_r15 t G)
  have e16 : runQ (run0 Tryd.prog (ftOf Tryd.prog) (knG kngA) G 100000) 100000 BF_q16 BF_L16 BF_A16 (BF_H16 t) = runQ (run0 Tryd.prog (ftOf Tryd.prog) (knG kngA) G 100000) 100000 BF_q17 BF_L17 BF_A17 (BF_H17 t) := runQ_cons (BF_r16 t G)
  have e17 : runQ (run0 Tryd.prog (ftOf Tryd.prog) (knG kngA) G 100000) 100000 BF_q17 BF_L17 BF_A17 (BF_H17 t) = runQ (run0 Tryd.prog (ftOf Tryd.prog) (knG kngA) G 100000) 100000 BF_q18 BF_L18 BF_A18 (BF_H18 t) := runQ_cons (BF_r17 t G)
  have e18 : runQ (run0 Tryd.prog (ftOf Tryd.prog) (knG kngA) G 100000) 100000 BF_q18 BF_L18 BF_A18 (BF_H18 t) = runQ (run0 Tryd.prog (ftOf Tryd.prog) (knG kngA) G 100000) 100000 BF_q19 BF_L19 BF_A19 (BF_H19 t) := runQ_cons (BF_r18 t G)
  have e19 : runQ (run0 Tryd.prog (ftOf Tryd.prog) (knG kngA) G 100000) 100000 BF_q19 BF_L19 BF_A19 (BF_H19 t) = runQ (run0 Tryd.prog (ftOf Tryd.prog) (knG kngA) G 100000) 100000 BF_q20 BF_L20 BF_A20 (BF_H20 t) := runQ_cons (BF_r19 t G)
  have e20 : runQ (run0 Tryd.prog (ftOf Tryd.prog) (knG kngA) G 100000) 100000 BF_q20 BF_L20 BF_A20 (BF_H20 t) = runQ (run0 Tryd.prog (ftOf Tryd.prog) (knG kngA) G 100000) 100000 BF_q21 BF_L21 BF_A21 (BF_H21 t) := runQ_cons (BF_r20 t G)
  have e21 : runQ (run0 Tryd.prog (ftOf Tryd.prog) (knG kngA) G 100000) 100000 BF_q21 BF_L21 BF_A21 (BF_H21 t) = runQ (run0 Tryd.prog (ftOf Tryd.prog) (knG kngA) G 100000) 100000 BF_q22 BF_L22 BF_A22 (BF_H22 t) := runQ_cons (BF_r21 t G)
  have e22 : runQ (run0 Tryd.prog (ftOf Tryd.prog) (knG kngA) G 100000) 100000 BF_q22 BF_L22 BF_A22 (BF_H22 t) = runQ (run0 Tryd.prog (ftOf Tryd.prog) (knG kngA) G 100000) 100000 BF_q23 BF_L23 BF_A23 (BF_H23 t) := runQ_cons (BF_r22 t G)
  have e23 : runQ (run0 Tryd.prog (ftOf Tryd.prog) (knG kngA) G 100000) 100000 BF_q23 BF_L23 BF_A23 (BF_H23 t) = runQ (run0 Tryd.prog (ftOf Tryd.prog) (knG kngA) G 100000) 100000 BF_q24 BF_L24 BF_A24 (BF_H24 t) := runQ_cons (BF_r23 t G)
  have e24 : runQ (run0 Tryd.prog (ftOf Tryd.prog) (knG kngA) G 100000) 100000 BF_q24 BF_L24 BF_A24 (BF_H24 t) = runQ (run0 Tryd.prog (ftOf Tryd.prog) (knG kngA) G 100000) 100000 BF_q25 BF_L25 BF_A25 (BF_H25 t) := runQ_cons (BF_r24 t G)
  have e25 : runQ (run0 Tryd.prog (ftOf Tryd.prog) (knG kngA) G 100000) 100000 BF_q25 BF_L25 BF_A25 (BF_H25 t) = runQ (run0 Tryd.prog (ftOf Tryd.prog) (knG kngA) G 100000) 100000 BF_q26 BF_L26 BF_A26 (BF_H26 t) := runQ_cons (BF_r25 t G)
  have e26 : runQ (run0 Tryd.prog (ftOf Tryd.prog) (knG kngA) G 100000) 100000 BF_q26 BF_L26 BF_A26 (BF_H26 t) = runQ (run0 Tryd.prog (ftOf Tryd.prog) (knG kngA) G 100000) 100000 BF_q27 BF_L27 BF_A27 (BF_H27 t) := runQ_cons (BF_r26 t G)
  have e27 : runQ (run0 Tryd.prog (ftOf Tryd.prog) (knG kngA) G 100000) 100000 BF_q27 BF_L27 BF_A27 (BF_H27 t) = runQ (run0 Tryd.prog (ftOf Tryd.prog) (knG kngA) G 100000) 100000 BF_q28 BF_L28 BF_A28 (BF_H28 t) := runQ_cons (BF_r27 t G)
  have e28 : runQ (run0 Tryd.prog (ftOf Tryd.prog) (knG kngA) G 100000) 100000 BF_q28 BF_L28 BF_A28 (BF_H28 t) = runQ (run0 Tryd.prog (ftOf Tryd.prog) (knG kngA) G 100000) 100000 BF_q29 BF_L29 BF_A29 (BF_H29 t) := runQ_cons (BF_r28 t G)
  have e29 : runQ (run0 Tryd.prog (ftOf Tryd.prog) (knG kngA) G 100000) 100000 BF_q29 BF_L29 BF_A29 (BF_H29 t) = runQ (run0 Tryd.prog (ftOf Tryd.prog) (knG kngA) G 100000) 100000 BF_q30 BF_L30 BF_A30 (BF_H30 t) := runQ_cons (BF_r29 t G)
  have e30 : runQ (run0 Tryd.prog (ftOf Tryd.prog) (knG kngA) G 100000) 100000 BF_q30 BF_L30 BF_A30 (BF_H30 t) = runQ (run0 Tryd.prog (ftOf Tryd.prog) (knG kngA) G 100000) 100000 BF_q31 BF_L31 BF_A31 (BF_H31 t) := runQ_cons (BF_r30 t G)
  have e31 : runQ (run0 Tryd.prog (ftOf Tryd.prog) (knG kngA) G 100000) 100000 BF_q31 BF_L31 BF_A31 (BF_H31 t) = runQ (run0 Tryd.prog (ftOf Tryd.prog) (knG kngA) G 100000) 100000 BF_q32 BF_L32 BF_A32 (BF_H32 t) := runQ_cons (BF_r31 t G)
  have e32 : runQ (run0 Tryd.prog (ftOf Tryd.prog) (knG kngA) G 100000) 100000 BF_q32 BF_L32 BF_A32 (BF_H32 t) = runQ (run0 Tryd.prog (ftOf Tryd.prog) (knG kngA) G 100000) 100000 BF_q33 BF_L33 BF_A33 (BF_H33 t) := runQ_cons (BF_r32 t G)
  have e33 : runQ (run0 Tryd.prog (ftOf Tryd.prog) (knG kngA) G 100000) 100000 BF_q33 BF_L33 BF_A33 (BF_H33 t) = runQ (run0 Tryd.prog (ftOf Tryd.prog) (knG kngA) G 100000) 100000 BF_q34 BF_L34 BF_A34 (BF_H34 t) := runQ_cons (BF_r33 t G)
  have e34 : runQ (run0 Tryd.prog (ftOf Tryd.prog) (knG kngA) G 100000) 100000 BF_q34 BF_L34 BF_A34 (BF_H34 t) = runQ (run0 Tryd.prog (ftOf Tryd.prog) (knG kngA) G 100000) 100000 BF_q35 BF_L35 BF_A35 (BF_H35 t) := runQ_cons (BF_r34 t G)
  have e35 : runQ (run0 Tryd.prog (ftOf Tryd.prog) (knG kngA) G 100000) 100000 BF_q35 BF_L35 BF_A35 (BF_H35 t) = runQ (run0 Tryd.prog (ftOf Tryd.prog) (knG kngA) G 100000) 100000 BF_q36 BF_L36 BF_A36 (BF_H36 t) := runQ_cons (BF_r35 t G)
  have e36 : runQ (run0 Tryd.prog (ftOf Tryd.prog) (knG kngA) G 100000) 100000 BF_q36 BF_L36 BF_A36 (BF_H36 t) = runQ (run0 Tryd.prog (ftOf Tryd.prog) (knG kngA) G 100000) 100000 BF_q37 BF_L37 BF_A37 (BF_H37 t) := runQ_cons (BF_r36 t G)
  have e37 : runQ (run0 Tryd.prog (ftOf Tryd.prog) (knG kngA) G 100000) 100000 BF_q37 BF_L37 BF_A37 (BF_H37 t) = runQ (run0 Tryd.prog (ftOf Tryd.prog) (knG kngA) G 100000) 100000 BF_q38 BF_L38 BF_A38 (BF_H38 t) := runQ_cons (BF_r37 t G)
  have e38 : runQ (run0 Tryd.prog (ftOf Tryd.prog) (knG kngA) G 100000) 100000 BF_q38 BF_L38 BF_A38 (BF_H38 t) = runQ (run0 Tryd.prog (ftOf Tryd.prog) (knG kngA) G 100000) 100000 BF_q39 BF_L39 BF_A39 (BF_H39 t) := runQ_cons (BF_r38 t G)
  have e39 : runQ (run0 Tryd.prog (ftOf Tryd.prog) (knG kngA) G 100000) 100000 BF_q39 BF_L39 BF_A39 (BF_H39 t) = runQ (run0 Tryd.prog (ftOf Tryd.prog) (knG kngA) G 100000) 100000 BF_q40 BF_L40 BF_A40 (BF_H40 t) := runQ_cons (BF_r39 t G)
  have e40 : runQ (run0 Tryd.prog (ftOf Tryd.prog) (knG kngA) G 100000) 100000 BF_q40 BF_L40 BF_A40 (BF_H40 t) = runQ (run0 Tryd.prog (ftOf Tryd.prog) (knG kngA) G 100000) 100000 BF_q41 BF_L41 BF_A41 (BF_H41 t) := runQ_cons (BF_r40 t G)
  have e41 : runQ (run0 Tryd.prog (ftOf Tryd.prog) (knG kngA) G 100000) 100000 BF_q41 BF_L41 BF_A41 (BF_H41 t) = runQ (run0 Tryd.prog (ftOf Tryd.prog) (knG kngA) G 100000) 100000 BF_q42 BF_L42 BF_A42 (BF_H42 t) := runQ_cons (BF_r41 t G)
  have e42 : runQ (run0 Tryd.prog (ftOf Tryd.prog) (knG kngA) G 100000) 100000 BF_q42 BF_L42 BF_A42 (BF_H42 t) = runQ (run0 Tryd.prog (ftOf Tryd.prog) (knG kngA) G 100000) 100000 BF_q43 BF_L43 BF_A43 (BF_H43 t) := runQ_cons (BF_r42 t G)
  have e43 : runQ (run0 Tryd.prog (ftOf Tryd.prog) (knG kngA) G 100000) 100000 BF_q43 BF_L43 BF_A43 (BF_H43 t) = runQ (run0 Tryd.prog (ftOf Tryd.prog) (knG kngA) G 100000) 100000 BF_q44 BF_L44 BF_A44 (BF_H44 t) := runQ_cons (BF_r43 t G)
  have e44 : runQ (run0 Tryd.prog (ftOf Tryd.prog) (knG kngA) G 100000) 100000 BF_q44 BF_L44 BF_A44 (BF_H44 t) = runQ (run0 Tryd.prog (ftOf Tryd.prog) (knG kngA) G 100000) 100000 BF_q45 BF_L45 BF_A45 (BF_H45 t) := runQ_cons (BF_r44 t G)
  have e45 : runQ (run0 Tryd.prog (ftOf Tryd.prog) (knG kngA) G 100000) 100000 BF_q45 BF_L45 BF_A45 (BF_H45 t) = runQ (run0 Tryd.prog (ftOf Tryd.prog) (knG kngA) G 100000) 100000 BF_q46 BF_L46 BF_A46 (BF_H46 t) := runQ_cons (BF_r45 t G)
  have e46 : runQ (run0 Tryd.prog (ftOf Tryd.prog) (knG kngA) G 100000) 100000 BF_q46 BF_L46 BF_A46 (BF_H46 t) = runQ (run0 Tryd.prog (ftOf Tryd.prog) (knG kngA) G 100000) 100000 BF_q47 BF_L47 BF_A47 (BF_H47 t) := runQ_cons (BF_r46 t G)
  have e47 : runQ (run0 Tryd.prog (ftOf Tryd.prog) (knG kngA) G 100000) 100000 BF_q47 BF_L47 BF_A47 (BF_H47 t) = runQ (run0 Tryd.prog (ftOf Tryd.prog) (knG kngA) G 100000) 100000 BF_q48 BF_L48 BF_A48 (BF_H48 t) := runQ_cons (BF_r47 t G)
  have e48 : runQ (run0 Tryd.prog (ftOf Tryd.prog) (knG kngA) G 100000) 100000 BF_q48 BF_L48 BF_A48 (BF_H48 t) = runQ (run0 Tryd.prog (ftOf Tryd.prog) (knG kngA) G 100000) 100000 BF_q49 BF_L49 BF_A49 (BF_H49 t) := runQ_cons (BF_r48 t G)
  have e49 : runQ (run0 Tryd.prog (ftOf Tryd.prog) (knG kngA) G 100000) 100000 BF_q49 BF_L49 BF_A49 (BF_H49 t) = runQ (run0 Tryd.prog (ftOf Tryd.prog) (knG kngA) G 100000) 100000 BF_q50 BF_L50 BF_A50 (BF_H50 t) := runQ_cons (BF_r49 t G)
  have e50 : runQ (run0 Tryd.prog (ftOf Tryd.prog) (knG kngA) G 100000) 100000 BF_q50 BF_L50 BF_A50 (BF_H50 t) = runQ (run0 Tryd.prog (ftOf Tryd.prog) (knG kngA) G 100000) 100000 BF_q51 BF_L51 BF_A51 (BF_H51 t) := runQ_cons (BF_r50 t G)
  have e51 : runQ (run0 Tryd.prog (ftOf Tryd.prog) (knG kngA) G 100000) 100000 BF_q51 BF_L51 BF_A51 (BF_H51 t) = runQ (run0 Tryd.prog (ftOf Tryd.prog) (knG kngA) G 100000) 100000 BF_q52 BF_L52 BF_A52 (BF_H52 t) := runQ_cons (BF_r51 t G)
  have e52 : runQ (run0 Tryd.prog (ftOf Tryd.prog) (knG kngA) G 100000) 100000 BF_q52 BF_L52 BF_A52 (BF_H52 t) = runQ (run0 Tryd.prog (ftOf Tryd.prog) (knG kngA) G 100000) 100000 BF_q53 BF_L53 BF_A53 (BF_H53 t) := runQ_cons (BF_r52 t G)
  have e53 : runQ (run0 Tryd.prog (ftOf Tryd.prog) (knG kngA) G 100000) 100000 BF_q53 BF_L53 BF_A53 (BF_H53 t) = runQ (run0 Tryd.prog (ftOf Tryd.prog) (knG kngA) G 100000) 100000 BF_q54 BF_L54 BF_A54 (BF_H54 t) := runQ_cons (BF_r53 t G)
  have e54 : runQ (run0 Tryd.prog (ftOf Tryd.prog) (knG kngA) G 100000) 100000 BF_q54 BF_L54 BF_A54 (BF_H54 t) = runQ (run0 Tryd.prog (ftOf Tryd.prog) (knG kngA) G 100000) 100000 BF_q55 BF_L55 BF_A55 (BF_H55 t) := runQ_cons (BF_r54 t G)
  have e55 : runQ (run0 Tryd.prog (ftOf Tryd.prog) (knG kngA) G 100000) 100000 BF_q55 BF_L55 BF_A55 (BF_H55 t) = runQ (run0 Tryd.prog (ftOf Tryd.prog) (knG kngA) G 100000) 100000 BF_q56 BF_L56 BF_A56 (BF_H56 t) := runQ_cons (BF_r55 t G)
  have e56 : runQ (run0 Tryd.prog (ftOf Tryd.prog) (knG kngA) G 100000) 100000 BF_q56 BF_L56 BF_A56 (BF_H56 t) = runQ (run0 Tryd.prog (ftOf Tryd.prog) (knG kngA) G 100000) 100000 BF_q57 BF_L57 BF_A57 (BF_H57 t) := runQ_cons (BF_r56 t G)
  have e57 : runQ (run0 Tryd.prog (ftOf Tryd.prog) (knG kngA) G 100000) 100000 BF_q57 BF_L57 BF_A57 (BF_H57 t) = runQ (run0 Tryd.prog (ftOf Tryd.prog) (knG kngA) G 100000) 100000 BF_q58 BF_L58 BF_A58 (BF_H58 t) := runQ_cons (BF_r57 t G)
  have e58 : runQ (run0 Tryd.prog (ftOf Tryd.prog) (knG kngA) G 100000) 100000 BF_q58 BF_L58 BF_A58 (BF_H58 t) = runQ (run0 Tryd.prog (ftOf Tryd.prog) (knG kngA) G 100000) 100000 BF_q59 BF_L59 BF_A59 (BF_H59 t) := runQ_cons (BF_r58 t G)
  have e59 : runQ (run0 Tryd.prog (ftOf Tryd.prog) (knG kngA) G 100000) 100000 BF_q59 BF_L59 BF_A59 (BF_H59 t) = runQ (run0 Tryd.prog (ftOf Tryd.prog) (knG kngA) G 100000) 100000 BF_q60 BF_L60 BF_A60 (BF_H60 t) := runQ_cons (BF_r59 t G)
  have e60 : runQ (run0 Tryd.prog (ftOf Tryd.prog) (knG kngA) G 100000) 100000 BF_q60 BF_L60 BF_A60 (BF_H60 t) = runQ (run0 Tryd.prog (ftOf Tryd.prog) (knG kngA) G 100000) 100000 BF_q61 BF_L61 BF_A61 (BF_H61 t) := runQ_cons (BF_r60 t G)
  have e61 : runQ (run0 Tryd.prog (ftOf Tryd.prog) (knG kngA) G 100000) 100000 BF_q61 BF_L61 BF_A61 (BF_H61 t) = runQ (run0 Tryd.prog (ftOf Tryd.prog) (knG kngA) G 100000) 100000 BF_q62 BF_L62 BF_A62 (BF_H62 t) := runQ_cons (BF_r61 t G)
  have e62 : runQ (run0 Tryd.prog (ftOf Tryd.prog) (knG kngA) G 100000) 100000 BF_q62 BF_L62 BF_A62 (BF_H62 t) = runQ (run0 Tryd.prog (ftOf Tryd.prog) (knG kngA) G 100000) 100000 BF_q63 BF_L63 BF_A63 (BF_H63 t) := runQ_cons (BF_r62 t G)
  have e63 : runQ (run0 Tryd.prog (ftOf Tryd.prog) (knG kngA) G 100000) 100000 BF_q63 BF_L63 BF_A63 (BF_H63 t) = runQ (run0 Tryd.prog (ftOf Tryd.prog) (knG kngA) G 100000) 100000 BF_q64 BF_L64 BF_A64 (BF_H64 t) := runQ_cons (BF_r63 t G)
  have e64 : runQ (run0 Tryd.prog (ftOf Tryd.prog) (knG kngA) G 100000) 100000 BF_q64 BF_L64 BF_A64 (BF_H64 t) = runQ (run0 Tryd.prog (ftOf Tryd.prog) (knG kngA) G 100000) 100000 BF_q65 BF_L65 BF_A65 (BF_H65 t) := runQ_cons (BF_r64 t G)
  rw [e0, e1, e2, e3, e4, e5, e6, e7, e8, e9, e10, e11, e12, e13, e14, e15, e16, e17, e18, e19, e20, e21, e22, e23, e24, e25, e26, e27, e28, e29, e30, e31, e32, e33, e34, e35, e36, e37, e38, e39, e40, e41, e42, e43, e44, e45, e46, e47, e48, e49, e50, e51, e52, e53, e54, e55, e56, e57, e58, e59, e60, e61, e62, e63, e64]
  exact BF_e t G
theorem BF_ok {t : TypeId} {w : World} (hw : GOk Tryd.prog (gsT t) w) : KnOk Tryd.prog w ⟨5, #[], .bool true⟩ := KnOk.itemsG env (by kernel_rfl) kngA (by kernel_rfl) rfl rfl BF_q0 (fun G => BF_all t G) (by kernel_rfl) hw (kngA_ok hw)
end Go.Proofs.YtepdmefmcfiinaaDoor
