/- Texts of a proof, one behind the other. Conditions: those each says. -/
import Derived.Test.YtiiklbllogonnaaGreatDoorZQws
import Derived.Test.YtiiklbllogonnaaGreatDoorZ3
namespace Go.Proofs.YtiiklbllogonnaaGreatDoor
open Go.Ev Go.RowKit
set_option maxRecDepth 100000
theorem Qw_a3_1 (t : TypeId) (G : Nat → Option Obj) : callAt Tryz.prog (ftOf Tryz.prog) G Qw_L3_1 Qw_A3_1 (Qw_H3_1 t) = some (41, #[(.pointer (some ⟨409, 0, none⟩)), (.slice (some ⟨410, 0, none⟩) 8 8)], (Qw_H3_1 t)) := by kernel_rfl
theorem Qw_b3_1 (t : TypeId) : callEnd [0, 81, 86, 87, 88, 405, 406, 409, 410] Qw_L3_1 Qw_A3_1 (.tuple #[(.int .i64 0), (.int .i64 0)]) (Qw_R4 t) = some (Qw_L3_2, Qw_A3_2, (Qw_H3_2 t)) := by kernel_rfl
theorem Qw_e3 (t : TypeId) (G : Nat → Option Obj) : endL Tryz.prog (ftOf Tryz.prog) 12 (runPc Tryz.prog (ftOf Tryz.prog) G (run0 Tryz.prog (ftOf Tryz.prog) (knG kng) G 100000) 100000 [] Qw_L3_2 Qw_A3_2 (Qw_H3_2 t)) = some (.val (.tuple #[(.int .i64 0), (.int .i64 0)]), (Qw_R3 t)) := by kernel_rfl
theorem Qw_e8 (t : TypeId) (G : Nat → Option Obj) : endL Tryz.prog (ftOf Tryz.prog) 80 (runPc Tryz.prog (ftOf Tryz.prog) G (run0 Tryz.prog (ftOf Tryz.prog) (knG kng) G 100000) 100000 [] Qw_L8_0 Qw_A8_0 (Qw_H7_1 t)) = some (.val (.tuple #[(.int .i64 1), (.int .i64 0)]), (Qw_R8 t)) := by kernel_rfl
theorem Qw_r7_0 (t : TypeId) (G : Nat → Option Obj) : pieceI Tryz.prog (ftOf Tryz.prog) G (run0 Tryz.prog (ftOf Tryz.prog) (knG kng) G 100000) 21 [0, 81, 86, 87, 88, 405, 812, 815, 816] Qw_L7_0 Qw_A7_0 (Qw_H6_1 t) = some (Qw_L7_1, Qw_A7_1, (Qw_H7_1 t)) := by kernel_rfl
theorem Qw_a7_1 (t : TypeId) (G : Nat → Option Obj) : callAt Tryz.prog (ftOf Tryz.prog) G Qw_L7_1 Qw_A7_1 (Qw_H7_1 t) = some (80, #[(.pointer (some ⟨815, 0, none⟩)), (.slice (some ⟨816, 0, none⟩) 8 8)], (Qw_H7_1 t)) := by kernel_rfl
theorem Qw_b7_1 (t : TypeId) : callEnd [0, 81, 86, 87, 88, 405, 812, 815, 816] Qw_L7_1 Qw_A7_1 (.tuple #[(.int .i64 1), (.int .i64 0)]) (Qw_R8 t) = some (Qw_L7_2, Qw_A7_2, (Qw_H7_2 t)) := by kernel_rfl
theorem Qw_e7 (t : TypeId) (G : Nat → Option Obj) : endL Tryz.prog (ftOf Tryz.prog) 41 (runPc Tryz.prog (ftOf Tryz.prog) G (run0 Tryz.prog (ftOf Tryz.prog) (knG kng) G 100000) 100000 [] Qw_L7_2 Qw_A7_2 (Qw_H7_2 t)) = some (.val (.tuple #[(.int .i64 1), (.int .i64 0)]), (Qw_R7 t)) := by kernel_rfl
theorem Qw_r6_0 (t : TypeId) (G : Nat → Option Obj) : pieceI Tryz.prog (ftOf Tryz.prog) G (run0 Tryz.prog (ftOf Tryz.prog) (knG kng) G 100000) 42 [0, 81, 86, 87, 88, 405, 812, 815, 816] Qw_L6_0 Qw_A6_0 (Qw_H0_5 t) = some (Qw_L6_1, Qw_A6_1, (Qw_H6_1 t)) := by kernel_rfl
theorem Qw_a6_1 (t : TypeId) (G : Nat → Option Obj) : callAt Tryz.prog (ftOf Tryz.prog) G Qw_L6_1 Qw_A6_1 (Qw_H6_1 t) = some (41, #[(.pointer (some ⟨815, 0, none⟩)), (.slice (some ⟨816, 0, none⟩) 8 8)], (Qw_H6_1 t)) := by kernel_rfl
theorem Qw_b6_1 (t : TypeId) : callEnd [0, 81, 86, 87, 88, 405, 812, 815, 816] Qw_L6_1 Qw_A6_1 (.tuple #[(.int .i64 1), (.int .i64 0)]) (Qw_R7 t) = some (Qw_L6_2, Qw_A6_2, (Qw_H6_2 t)) := by kernel_rfl
theorem Qw_e6 (t : TypeId) (G : Nat → Option Obj) : endL Tryz.prog (ftOf Tryz.prog) 12 (runPc Tryz.prog (ftOf Tryz.prog) G (run0 Tryz.prog (ftOf Tryz.prog) (knG kng) G 100000) 100000 [] Qw_L6_2 Qw_A6_2 (Qw_H6_2 t)) = some (.val (.tuple #[(.int .i64 1), (.int .i64 0)]), (Qw_R6 t)) := by kernel_rfl
theorem Qw_r13_0 (t : TypeId) (G : Nat → Option Obj) : pieceI Tryz.prog (ftOf Tryz.prog) G (run0 Tryz.prog (ftOf Tryz.prog) (knG kng) G 100000) 185 [0, 81, 86, 87, 88, 405, 1226, 1230, 1231, 1356] Qw_L13_0 Qw_A13_0 (Qw_H12_1 t) = some (Qw_L13_1, Qw_A13_1, (Qw_H13_1 t)) := by kernel_rfl
theorem Qw_r13_1 (t : TypeId) (G : Nat → Option Obj) : pieceI Tryz.prog (ftOf Tryz.prog) G (run0 Tryz.prog (ftOf Tryz.prog) (knG kng) G 100000) 25 [0, 81, 86, 87, 88, 405, 1226, 1230, 1231, 1356] Qw_L13_1 Qw_A13_1 (Qw_H13_1 t) = some (Qw_L13_2, Qw_A13_2, (Qw_H13_2 t)) := by kernel_rfl
theorem Qw_r13_2 (t : TypeId) (G : Nat → Option Obj) : pieceI Tryz.prog (ftOf Tryz.prog) G (run0 Tryz.prog (ftOf Tryz.prog) (knG kng) G 100000) 50 [0, 81, 86, 87, 88, 405, 1226, 1230, 1231, 1356] Qw_L13_2 Qw_A13_2 (Qw_H13_2 t) = some (Qw_L13_3, Qw_A13_3, (Qw_H13_3 t)) := by kernel_rfl
end Go.Proofs.YtiiklbllogonnaaGreatDoor
