/-
  A closed body in pieces: piece 0 and on, between states that are written out. Condition: the variable holds its table.
-/
import Derived.Test.YtepdmefmcfiinaaDoorBFs
import Derived.Test.YtepdmefmcfiinaaDoorEvSegD
namespace Go.Proofs.YtepdmefmcfiinaaDoor
open Go.Ev Go.RowKit
set_option maxRecDepth 100000
theorem BF_r0 (t : TypeId) (G : Nat → Option Obj) : pieceI (run0 Tryd.prog (ftOf Tryd.prog) (knG kngA) G 100000) BF_p0.1 BF_p0.2 BF_L0 (enterL (ftOf Tryd.prog) 5 #[]) (H0g Tryd.prog (gsT t)) = some (BF_L1, BF_A1, BF_H1 t) := by kernel_rfl
theorem BF_r1 (t : TypeId) (G : Nat → Option Obj) : pieceI (run0 Tryd.prog (ftOf Tryd.prog) (knG kngA) G 100000) BF_p1.1 BF_p1.2 BF_L1 BF_A1 (BF_H1 t) = some (BF_L2, BF_A2, BF_H2 t) := by kernel_rfl
theorem BF_r2 (t : TypeId) (G : Nat → Option Obj) : pieceI (run0 Tryd.prog (ftOf Tryd.prog) (knG kngA) G 100000) BF_p2.1 BF_p2.2 BF_L2 BF_A2 (BF_H2 t) = some (BF_L3, BF_A3, BF_H3 t) := by kernel_rfl
theorem BF_r3 (t : TypeId) (G : Nat → Option Obj) : pieceI (run0 Tryd.prog (ftOf Tryd.prog) (knG kngA) G 100000) BF_p3.1 BF_p3.2 BF_L3 BF_A3 (BF_H3 t) = some (BF_L4, BF_A4, BF_H4 t) := by kernel_rfl
theorem BF_r4 (t : TypeId) (G : Nat → Option Obj) : pieceI (run0 Tryd.prog (ftOf Tryd.prog) (knG kngA) G 100000) BF_p4.1 BF_p4.2 BF_L4 BF_A4 (BF_H4 t) = some (BF_L5, BF_A5, BF_H5 t) := by kernel_rfl
theorem BF_r5 (t : TypeId) (G : Nat → Option Obj) : pieceI (run0 Tryd.prog (ftOf Tryd.prog) (knG kngA) G 100000) BF_p5.1 BF_p5.2 BF_L5 BF_A5 (BF_H5 t) = some (BF_L6, BF_A6, BF_H6 t) := by kernel_rfl
theorem BF_r6 (t : TypeId) (G : Nat → Option Obj) : pieceI (run0 Tryd.prog (ftOf Tryd.prog) (knG kngA) G 100000) BF_p6.1 BF_p6.2 BF_L6 BF_A6 (BF_H6 t) = some (BF_L7, BF_A7, BF_H7 t) := by kernel_rfl
theorem BF_r7 (t : TypeId) (G : Nat → Option Obj) : pieceI (run0 Tryd.prog (ftOf Tryd.prog) (knG kngA) G 100000) BF_p7.1 BF_p7.2 BF_L7 BF_A7 (BF_H7 t) = some (BF_L8, BF_A8, BF_H8 t) := by kernel_rfl
theorem BF_r8 (t : TypeId) (G : Nat → Option Obj) : pieceI (run0 Tryd.prog (ftOf Tryd.prog) (knG kngA) G 100000) BF_p8.1 BF_p8.2 BF_L8 BF_A8 (BF_H8 t) = some (BF_L9, BF_A9, BF_H9 t) := by kernel_rfl
theorem BF_r9 (t : TypeId) (G : Nat → Option Obj) : pieceI (run0 Tryd.prog (ftOf Tryd.prog) (knG kngA) G 100000) BF_p9.1 BF_p9.2 BF_L9 BF_A9 (BF_H9 t) = some (BF_L10, BF_A10, BF_H10 t) := by kernel_rfl
theorem BF_r10 (t : TypeId) (G : Nat → Option Obj) : pieceI (run0 Tryd.prog (ftOf Tryd.prog) (knG kngA) G 100000) BF_p10.1 BF_p10.2 BF_L10 BF_A10 (BF_H10 t) = some (BF_L11, BF_A11, BF_H11 t) := by kernel_rfl
theorem BF_r11 (t : TypeId) (G : Nat → Option Obj) : pieceI (run0 Tryd.prog (ftOf Tryd.prog) (knG kngA) G 100000) BF_p11.1 BF_p11.2 BF_L11 BF_A11 (BF_H11 t) = some (BF_L12, BF_A12, BF_H12 t) := by kernel_rfl
theorem BF_r12 (t : TypeId) (G : Nat → Option Obj) : pieceI (run0 Tryd.prog (ftOf Tryd.prog) (knG kngA) G 100000) BF_p12.1 BF_p12.2 BF_L12 BF_A12 (BF_H12 t) = some (BF_L13, BF_A13, BF_H13 t) := by kernel_rfl
theorem BF_r13 (t : TypeId) (G : Nat → Option Obj) : pieceI (run0 Tryd.prog (ftOf Tryd.prog) (knG kngA) G 100000) BF_p13.1 BF_p13.2 BF_L13 BF_A13 (BF_H13 t) = some (BF_L14, BF_A14, BF_H14 t) := by kernel_rfl
theorem BF_r14 (t : TypeId) (G : Nat → Option Obj) : pieceI (run0 Tryd.prog (ftOf Tryd.prog) (knG kngA) G 100000) BF_p14.1 BF_p14.2 BF_L14 BF_A14 (BF_H14 t) = some (BF_L15, BF_A15, BF_H15 t) := by kernel_rfl
theorem BF_r15 (t : TypeId) (G : Nat → Option Obj) : pieceI (run0 Tryd.prog (ftOf Tryd.prog) (knG kngA) G 100000) BF_p15.1 BF_p15.2 BF_L15 BF_A15 (BF_H15 t) = some (BF_L16, BF_A16, BF_H16 t) := by kernel_rfl
theorem BF_r16 (t : TypeId) (G : Nat → Option Obj) : pieceI (run0 Tryd.prog (ftOf Tryd.prog) (knG kngA) G 100000) BF_p16.1 BF_p16.2 BF_L16 BF_A16 (BF_H16 t) = some (BF_L17, BF_A17, BF_H17 t) := by kernel_rfl
end Go.Proofs.YtepdmefmcfiinaaDoor
