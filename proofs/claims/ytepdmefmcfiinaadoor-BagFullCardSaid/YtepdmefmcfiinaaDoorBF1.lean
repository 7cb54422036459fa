/-
  A closed body in pieces: piece 17 and on, between states that are written out. Condition: the variable holds its table.
-/
import Derived.Test.YtepdmefmcfiinaaDoorBFs
import Derived.Test.YtepdmefmcfiinaaDoorEvSegD
namespace Go.Proofs.YtepdmefmcfiinaaDoor
open Go.Ev Go.RowKit
set_option maxRecDepth 100000
theorem BF_r17 (t : TypeId) (G : Nat → Option Obj) : pieceI (run0 Tryd.prog (ftOf Tryd.prog) (knG kngA) G 100000) BF_p17.1 BF_p17.2 BF_L17 BF_A17 (BF_H17 t) = some (BF_L18, BF_A18, BF_H18 t) := by kernel_rfl
theorem BF_r18 (t : TypeId) (G : Nat → Option Obj) : pieceI (run0 Tryd.prog (ftOf Tryd.prog) (knG kngA) G 100000) BF_p18.1 BF_p18.2 BF_L18 BF_A18 (BF_H18 t) = some (BF_L19, BF_A19, BF_H19 t) := by kernel_rfl
theorem BF_r19 (t : TypeId) (G : Nat → Option Obj) : pieceI (run0 Tryd.prog (ftOf Tryd.prog) (knG kngA) G 100000) BF_p19.1 BF_p19.2 BF_L19 BF_A19 (BF_H19 t) = some (BF_L20, BF_A20, BF_H20 t) := by kernel_rfl
theorem BF_r20 (t : TypeId) (G : Nat → Option Obj) : pieceI (run0 Tryd.prog (ftOf Tryd.prog) (knG kngA) G 100000) BF_p20.1 BF_p20.2 BF_L20 BF_A20 (BF_H20 t) = some (BF_L21, BF_A21, BF_H21 t) := by kernel_rfl
theorem BF_r21 (t : TypeId) (G : Nat → Option Obj) : pieceI (run0 Tryd.prog (ftOf Tryd.prog) (knG kngA) G 100000) BF_p21.1 BF_p21.2 BF_L21 BF_A21 (BF_H21 t) = some (BF_L22, BF_A22, BF_H22 t) := by kernel_rfl
theorem BF_r22 (t : TypeId) (G : Nat → Option Obj) : pieceI (run0 Tryd.prog (ftOf Tryd.prog) (knG kngA) G 100000) BF_p22.1 BF_p22.2 BF_L22 BF_A22 (BF_H22 t) = some (BF_L23, BF_A23, BF_H23 t) := by kernel_rfl
theorem BF_r23 (t : TypeId) (G : Nat → Option Obj) : pieceI (run0 Tryd.prog (ftOf Tryd.prog) (knG kngA) G 100000) BF_p23.1 BF_p23.2 BF_L23 BF_A23 (BF_H23 t) = some (BF_L24, BF_A24, BF_H24 t) := by kernel_rfl
theorem BF_r24 (t : TypeId) (G : Nat → Option Obj) : pieceI (run0 Tryd.prog (ftOf Tryd.prog) (knG kngA) G 100000) BF_p24.1 BF_p24.2 BF_L24 BF_A24 (BF_H24 t) = some (BF_L25, BF_A25, BF_H25 t) := by kernel_rfl
theorem BF_r25 (t : TypeId) (G : Nat → Option Obj) : pieceI (run0 Tryd.prog (ftOf Tryd.prog) (knG kngA) G 100000) BF_p25.1 BF_p25.2 BF_L25 BF_A25 (BF_H25 t) = some (BF_L26, BF_A26, BF_H26 t) := by kernel_rfl
theorem BF_r26 (t : TypeId) (G : Nat → Option Obj) : pieceI (run0 Tryd.prog (ftOf Tryd.prog) (knG kngA) G 100000) BF_p26.1 BF_p26.2 BF_L26 BF_A26 (BF_H26 t) = some (BF_L27, BF_A27, BF_H27 t) := by kernel_rfl
theorem BF_r27 (t : TypeId) (G : Nat → Option Obj) : pieceI (run0 Tryd.prog (ftOf Tryd.prog) (knG kngA) G 100000) BF_p27.1 BF_p27.2 BF_L27 BF_A27 (BF_H27 t) = some (BF_L28, BF_A28, BF_H28 t) := by kernel_rfl
theorem BF_r28 (t : TypeId) (G : Nat → Option Obj) : pieceI (run0 Tryd.prog (ftOf Tryd.prog) (knG kngA) G 100000) BF_p28.1 BF_p28.2 BF_L28 BF_A28 (BF_H28 t) = some (BF_L29, BF_A29, BF_H29 t) := by kernel_rfl
theorem BF_r29 (t : TypeId) (G : Nat → Option Obj) : pieceI (run0 Tryd.prog (ftOf Tryd.prog) (knG kngA) G 100000) BF_p29.1 BF_p29.2 BF_L29 BF_A29 (BF_H29 t) = some (BF_L30, BF_A30, BF_H30 t) := by kernel_rfl
theorem BF_r30 (t : TypeId) (G : Nat → Option Obj) : pieceI (run0 Tryd.prog (ftOf Tryd.prog) (knG kngA) G 100000) BF_p30.1 BF_p30.2 BF_L30 BF_A30 (BF_H30 t) = some (BF_L31, BF_A31, BF_H31 t) := by kernel_rfl
theorem BF_r31 (t : TypeId) (G : Nat → Option Obj) : pieceI (run0 Tryd.prog (ftOf Tryd.prog) (knG kngA) G 100000) BF_p31.1 BF_p31.2 BF_L31 BF_A31 (BF_H31 t) = some (BF_L32, BF_A32, BF_H32 t) := by kernel_rfl
theorem BF_r32 (t : TypeId) (G : Nat → Option Obj) : pieceI (run0 Tryd.prog (ftOf Tryd.prog) (knG kngA) G 100000) BF_p32.1 BF_p32.2 BF_L32 BF_A32 (BF_H32 t) = some (BF_L33, BF_A33, BF_H33 t) := by kernel_rfl
theorem BF_r33 (t : TypeId) (G : Nat → Option Obj) : pieceI (run0 Tryd.prog (ftOf Tryd.prog) (knG kngA) G 100000) BF_p33.1 BF_p33.2 BF_L33 BF_A33 (BF_H33 t) = some (BF_L34, BF_A34, BF_H34 t) := by kernel_rfl
end Go.Proofs.YtepdmefmcfiinaaDoor
