/- Texts of a proof, one behind the other. Conditions: those each says. -/
import Derived.Test.YtiiklbllogonnaaGreatDoorZQws
import Derived.Test.YtiiklbllogonnaaGreatDoorZ3
namespace Go.Proofs.YtiiklbllogonnaaGreatDoor
open Go.Ev Go.RowKit
set_option maxRecDepth 100000
theorem Qw_r13_3 (t : TypeId) (G : Nat → Option Obj) : pieceI Tryz.prog (ftOf Tryz.prog) G (run0 Tryz.prog (ftOf Tryz.prog) (knG kng) G 100000) 80 [0, 81, 86, 87, 88, 405, 1226, 1230, 1231, 1356] Qw_L13_3 Qw_A13_3 (Qw_H13_3 t) = some (Qw_L13_4, Qw_A13_4, (Qw_H13_4 t)) := by kernel_rfl
theorem Qw_e13 (t : TypeId) (G : Nat → Option Obj) : endL Tryz.prog (ftOf Tryz.prog) 52 (runPc Tryz.prog (ftOf Tryz.prog) G (run0 Tryz.prog (ftOf Tryz.prog) (knG kng) G 100000) 100000 [] Qw_L13_4 Qw_A13_4 (Qw_H13_4 t)) = some (.val (.bool true), (Qw_R13 t)) := by kernel_rfl
theorem Qw_r12_0 (t : TypeId) (G : Nat → Option Obj) : pieceI Tryz.prog (ftOf Tryz.prog) G (run0 Tryz.prog (ftOf Tryz.prog) (knG kng) G 100000) 9 [0, 81, 86, 87, 88, 405, 1226, 1230, 1231] Qw_L12_0 Qw_A12_0 (Qw_H11_1 t) = some (Qw_L12_1, Qw_A12_1, (Qw_H12_1 t)) := by kernel_rfl
theorem Qw_a12_1 (t : TypeId) (G : Nat → Option Obj) : callAt Tryz.prog (ftOf Tryz.prog) G Qw_L12_1 Qw_A12_1 (Qw_H12_1 t) = some (52, #[(.pointer (some ⟨1230, 0, none⟩))], (Qw_H12_1 t)) := by kernel_rfl
theorem Qw_b12_1 (t : TypeId) : callEnd [0, 81, 86, 87, 88, 405, 1226, 1230, 1231] Qw_L12_1 Qw_A12_1 (.bool true) (Qw_R13 t) = some (Qw_L12_2, Qw_A12_2, (Qw_H12_2 t)) := by kernel_rfl
theorem Qw_e12 (t : TypeId) (G : Nat → Option Obj) : endL Tryz.prog (ftOf Tryz.prog) 40 (runPc Tryz.prog (ftOf Tryz.prog) G (run0 Tryz.prog (ftOf Tryz.prog) (knG kng) G 100000) 100000 [] Qw_L12_2 Qw_A12_2 (Qw_H12_2 t)) = some (.val (.tuple #[(.int .i64 0), (.int .i64 15)]), (Qw_R12 t)) := by kernel_rfl
theorem Qw_r11_0 (t : TypeId) (G : Nat → Option Obj) : pieceI Tryz.prog (ftOf Tryz.prog) G (run0 Tryz.prog (ftOf Tryz.prog) (knG kng) G 100000) 72 [0, 81, 86, 87, 88, 405, 1226, 1230, 1231] Qw_L11_0 Qw_A11_0 (Qw_H10_1 t) = some (Qw_L11_1, Qw_A11_1, (Qw_H11_1 t)) := by kernel_rfl
theorem Qw_a11_1 (t : TypeId) (G : Nat → Option Obj) : callAt Tryz.prog (ftOf Tryz.prog) G Qw_L11_1 Qw_A11_1 (Qw_H11_1 t) = some (40, #[(.pointer (some ⟨1230, 0, none⟩))], (Qw_H11_1 t)) := by kernel_rfl
theorem Qw_b11_1 (t : TypeId) : callEnd [0, 81, 86, 87, 88, 405, 1226, 1230, 1231] Qw_L11_1 Qw_A11_1 (.tuple #[(.int .i64 0), (.int .i64 15)]) (Qw_R12 t) = some (Qw_L11_2, Qw_A11_2, (Qw_H11_2 t)) := by kernel_rfl
theorem Qw_e11 (t : TypeId) (G : Nat → Option Obj) : endL Tryz.prog (ftOf Tryz.prog) 80 (runPc Tryz.prog (ftOf Tryz.prog) G (run0 Tryz.prog (ftOf Tryz.prog) (knG kng) G 100000) 100000 [] Qw_L11_2 Qw_A11_2 (Qw_H11_2 t)) = some (.val (.tuple #[(.int .i64 0), (.int .i64 15)]), (Qw_R11 t)) := by kernel_rfl
theorem Qw_r10_0 (t : TypeId) (G : Nat → Option Obj) : pieceI Tryz.prog (ftOf Tryz.prog) G (run0 Tryz.prog (ftOf Tryz.prog) (knG kng) G 100000) 21 [0, 81, 86, 87, 88, 405, 1226, 1230, 1231] Qw_L10_0 Qw_A10_0 (Qw_H9_1 t) = some (Qw_L10_1, Qw_A10_1, (Qw_H10_1 t)) := by kernel_rfl
theorem Qw_a10_1 (t : TypeId) (G : Nat → Option Obj) : callAt Tryz.prog (ftOf Tryz.prog) G Qw_L10_1 Qw_A10_1 (Qw_H10_1 t) = some (80, #[(.pointer (some ⟨1230, 0, none⟩)), (.slice (some ⟨1231, 0, none⟩) 3 3)], (Qw_H10_1 t)) := by kernel_rfl
theorem Qw_b10_1 (t : TypeId) : callEnd [0, 81, 86, 87, 88, 405, 1226, 1230, 1231] Qw_L10_1 Qw_A10_1 (.tuple #[(.int .i64 0), (.int .i64 15)]) (Qw_R11 t) = some (Qw_L10_2, Qw_A10_2, (Qw_H10_2 t)) := by kernel_rfl
theorem Qw_e10 (t : TypeId) (G : Nat → Option Obj) : endL Tryz.prog (ftOf Tryz.prog) 41 (runPc Tryz.prog (ftOf Tryz.prog) G (run0 Tryz.prog (ftOf Tryz.prog) (knG kng) G 100000) 100000 [] Qw_L10_2 Qw_A10_2 (Qw_H10_2 t)) = some (.val (.tuple #[(.int .i64 0), (.int .i64 15)]), (Qw_R10 t)) := by kernel_rfl
theorem Qw_r9_0 (t : TypeId) (G : Nat → Option Obj) : pieceI Tryz.prog (ftOf Tryz.prog) G (run0 Tryz.prog (ftOf Tryz.prog) (knG kng) G 100000) 49 [0, 81, 86, 87, 88, 405, 1226, 1230, 1231] Qw_L9_0 Qw_A9_0 (Qw_H0_7 t) = some (Qw_L9_1, Qw_A9_1, (Qw_H9_1 t)) := by kernel_rfl
end Go.Proofs.YtiiklbllogonnaaGreatDoor
