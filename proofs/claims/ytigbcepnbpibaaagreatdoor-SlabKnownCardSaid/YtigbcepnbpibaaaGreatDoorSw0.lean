/-
  A closed body in pieces: piece 0 and on, between states that are written out. Condition: the variable holds its table.
-/
import Derived.Test.YtigbcepnbpibaaaGreatDoorSws
import Derived.Test.YtigbcepnbpibaaaGreatDoorEvSegD
namespace Go.Proofs.YtigbcepnbpibaaaGreatDoor
open Go.Ev Go.RowKit
set_option maxRecDepth 100000
theorem Sw_r0 (t : TypeId) (G : Nat → Option Obj) : pieceI Tryz.prog (ftOf Tryz.prog) G (run0 Tryz.prog (ftOf Tryz.prog) (knG kng) G 100000) Sw_p0.1 Sw_p0.2 Sw_L0 (enterL (ftOf Tryz.prog) 23 #[]) (H0g Tryz.prog (gsT t)) = some (Sw_L1, Sw_A1, Sw_H1 t) := by kernel_rfl
theorem Sw_r1 (t : TypeId) (G : Nat → Option Obj) : pieceI Tryz.prog (ftOf Tryz.prog) G (run0 Tryz.prog (ftOf Tryz.prog) (knG kng) G 100000) Sw_p1.1 Sw_p1.2 Sw_L1 Sw_A1 (Sw_H1 t) = some (Sw_L2, Sw_A2, Sw_H2 t) := by kernel_rfl
theorem Sw_r2 (t : TypeId) (G : Nat → Option Obj) : pieceI Tryz.prog (ftOf Tryz.prog) G (run0 Tryz.prog (ftOf Tryz.prog) (knG kng) G 100000) Sw_p2.1 Sw_p2.2 Sw_L2 Sw_A2 (Sw_H2 t) = some (Sw_L3, Sw_A3, Sw_H3 t) := by kernel_rfl
end Go.Proofs.YtigbcepnbpibaaaGreatDoor
