/- Texts of a proof, one behind the other. Conditions: those each says. -/
import Derived.Test.YtiiklbllogonnaaGreatDoorZQws
import Derived.Test.YtiiklbllogonnaaGreatDoorZ3
namespace Go.Proofs.YtiiklbllogonnaaGreatDoor
open Go.Ev Go.RowKit
set_option maxRecDepth 100000
theorem Qw_r2_0 (t : TypeId) (G : Nat → Option Obj) : pieceI Tryz.prog (ftOf Tryz.prog) G (run0 Tryz.prog (ftOf Tryz.prog) (knG kng) G 100000) 8 [0, 81, 82, 83, 86, 87, 88] Qw_L2_0 Qw_A2_0 (Qw_H1_1 t) = some (Qw_L2_1, Qw_A2_1, (Qw_H2_1 t)) := by kernel_rfl
theorem Qw_r2_1 (t : TypeId) (G : Nat → Option Obj) : pieceI Tryz.prog (ftOf Tryz.prog) G (run0 Tryz.prog (ftOf Tryz.prog) (knG kng) G 100000) 1 [0, 81, 82, 83, 86, 87, 88, 89] Qw_L2_1 Qw_A2_1 (Qw_H2_1 t) = some (Qw_L2_2, Qw_A2_2, (Qw_H2_2 t)) := by kernel_rfl
theorem Qw_e2 (t : TypeId) (G : Nat → Option Obj) : endL Tryz.prog (ftOf Tryz.prog) 32 (runPc Tryz.prog (ftOf Tryz.prog) G (run0 Tryz.prog (ftOf Tryz.prog) (knG kng) G 100000) 100000 [] Qw_L2_2 Qw_A2_2 (Qw_H2_2 t)) = some (.val (.pointer (some ⟨88, 0, none⟩)), (Qw_R2 t)) := by kernel_rfl
theorem Qw_r1_0 (t : TypeId) (G : Nat → Option Obj) : pieceI Tryz.prog (ftOf Tryz.prog) G (run0 Tryz.prog (ftOf Tryz.prog) (knG kng) G 100000) 8 [0, 81, 82] Qw_L1_0 Qw_A1_0 (Qw_H0_1 t) = some (Qw_L1_1, Qw_A1_1, (Qw_H1_1 t)) := by kernel_rfl
theorem Qw_a1_1 (t : TypeId) (G : Nat → Option Obj) : callAt Tryz.prog (ftOf Tryz.prog) G Qw_L1_1 Qw_A1_1 (Qw_H1_1 t) = some (32, #[(.agg #[(.int .i64 2), (.int .i64 1), (.int .i64 0), (.int .i64 1), (.int .i64 2), (.int .i64 7), (.int .i64 16), (.int .i64 17), (.int .i64 21), (.int .i64 22), (.int .i64 24), (.int .i64 26), (.int .i64 28), (.int .i64 44), (.int .i64 60), (.int .i64 68), (.int .i64 72), (.int .i64 74), (.int .i64 75), (.int .i64 79), (.int .i64 96), (.int .i64 232)])], (Qw_H1_1 t)) := by kernel_rfl
theorem Qw_b1_1 (t : TypeId) : callEnd [0, 81, 82, 86, 87, 88] Qw_L1_1 Qw_A1_1 (.pointer (some ⟨88, 0, none⟩)) (Qw_R2 t) = some (Qw_L1_2, Qw_A1_2, (Qw_H1_2 t)) := by kernel_rfl
theorem Qw_e1 (t : TypeId) (G : Nat → Option Obj) : endL Tryz.prog (ftOf Tryz.prog) 9 (runPc Tryz.prog (ftOf Tryz.prog) G (run0 Tryz.prog (ftOf Tryz.prog) (knG kng) G 100000) 100000 [] Qw_L1_2 Qw_A1_2 (Qw_H1_2 t)) = some (.val (.pointer (some ⟨88, 0, none⟩)), (Qw_R1 t)) := by kernel_rfl
theorem Qw_r5_0 (t : TypeId) (G : Nat → Option Obj) : pieceI Tryz.prog (ftOf Tryz.prog) G (run0 Tryz.prog (ftOf Tryz.prog) (knG kng) G 100000) 189 [0, 81, 86, 87, 88, 405, 406, 409, 410] Qw_L5_0 Qw_A5_0 (Qw_H4_1 t) = some (Qw_L5_1, Qw_A5_1, (Qw_H5_1 t)) := by kernel_rfl
theorem Qw_e5 (t : TypeId) (G : Nat → Option Obj) : endL Tryz.prog (ftOf Tryz.prog) 80 (runPc Tryz.prog (ftOf Tryz.prog) G (run0 Tryz.prog (ftOf Tryz.prog) (knG kng) G 100000) 100000 [] Qw_L5_1 Qw_A5_1 (Qw_H5_1 t)) = some (.val (.tuple #[(.int .i64 0), (.int .i64 0)]), (Qw_R5 t)) := by kernel_rfl
theorem Qw_r4_0 (t : TypeId) (G : Nat → Option Obj) : pieceI Tryz.prog (ftOf Tryz.prog) G (run0 Tryz.prog (ftOf Tryz.prog) (knG kng) G 100000) 21 [0, 81, 86, 87, 88, 405, 406, 409, 410] Qw_L4_0 Qw_A4_0 (Qw_H3_1 t) = some (Qw_L4_1, Qw_A4_1, (Qw_H4_1 t)) := by kernel_rfl
theorem Qw_a4_1 (t : TypeId) (G : Nat → Option Obj) : callAt Tryz.prog (ftOf Tryz.prog) G Qw_L4_1 Qw_A4_1 (Qw_H4_1 t) = some (80, #[(.pointer (some ⟨409, 0, none⟩)), (.slice (some ⟨410, 0, none⟩) 8 8)], (Qw_H4_1 t)) := by kernel_rfl
theorem Qw_b4_1 (t : TypeId) : callEnd [0, 81, 86, 87, 88, 405, 406, 409, 410] Qw_L4_1 Qw_A4_1 (.tuple #[(.int .i64 0), (.int .i64 0)]) (Qw_R5 t) = some (Qw_L4_2, Qw_A4_2, (Qw_H4_2 t)) := by kernel_rfl
theorem Qw_e4 (t : TypeId) (G : Nat → Option Obj) : endL Tryz.prog (ftOf Tryz.prog) 41 (runPc Tryz.prog (ftOf Tryz.prog) G (run0 Tryz.prog (ftOf Tryz.prog) (knG kng) G 100000) 100000 [] Qw_L4_2 Qw_A4_2 (Qw_H4_2 t)) = some (.val (.tuple #[(.int .i64 0), (.int .i64 0)]), (Qw_R4 t)) := by kernel_rfl
theorem Qw_r3_0 (t : TypeId) (G : Nat → Option Obj) : pieceI Tryz.prog (ftOf Tryz.prog) G (run0 Tryz.prog (ftOf Tryz.prog) (knG kng) G 100000) 42 [0, 81, 86, 87, 88, 405, 406, 409, 410] Qw_L3_0 Qw_A3_0 (Qw_H0_3 t) = some (Qw_L3_1, Qw_A3_1, (Qw_H3_1 t)) := by kernel_rfl
end Go.Proofs.YtiiklbllogonnaaGreatDoor
