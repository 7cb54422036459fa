/- Texts of a proof, one behind the other. Conditions: those each says. -/
import Derived.Test.YtiiklbllogonnaaGreatDoorZQas
import Derived.Test.YtiiklbllogonnaaGreatDoorZ3
namespace Go.Proofs.YtiiklbllogonnaaGreatDoor
open Go.Ev Go.RowKit
set_option maxRecDepth 100000
theorem Qa_r13_1 (t : TypeId) (G : Nat → Option Obj) : pieceI Tryz.prog (ftOf Tryz.prog) G (run0 Tryz.prog (ftOf Tryz.prog) (knG kngA) G 100000) 25 [0, 81, 86, 87, 88, 720, 721, 1742, 1746, 1747, 1872] Qa_L13_1 Qa_A13_1 (Qa_H13_1 t) = some (Qa_L13_2, Qa_A13_2, (Qa_H13_2 t)) := by kernel_rfl
theorem Qa_a13_2 (t : TypeId) (G : Nat → Option Obj) : callAt Tryz.prog (ftOf Tryz.prog) G Qa_L13_2 Qa_A13_2 (Qa_H13_2 t) = some (101, #[(.pointer (some ⟨1746, 0, none⟩)), (.int .i64 1)], (Qa_H13_2 t)) := by kernel_rfl
theorem Qa_b13_2 (t : TypeId) : callEnd [0, 81, 86, 87, 88, 720, 721, 1742, 1746, 1747, 1872] Qa_L13_2 Qa_A13_2 (.tuple #[]) (Qa_R14 t) = some (Qa_L13_3, Qa_A13_3, (Qa_H13_3 t)) := by kernel_rfl
theorem Qa_r13_3 (t : TypeId) (G : Nat → Option Obj) : pieceI Tryz.prog (ftOf Tryz.prog) G (run0 Tryz.prog (ftOf Tryz.prog) (knG kngA) G 100000) 24 [0, 81, 86, 87, 88, 720, 721, 1742, 1746, 1747, 1872] Qa_L13_3 Qa_A13_3 (Qa_H13_3 t) = some (Qa_L13_4, Qa_A13_4, (Qa_H13_4 t)) := by kernel_rfl
theorem Qa_a13_4 (t : TypeId) (G : Nat → Option Obj) : callAt Tryz.prog (ftOf Tryz.prog) G Qa_L13_4 Qa_A13_4 (Qa_H13_4 t) = some (101, #[(.pointer (some ⟨1746, 0, none⟩)), (.int .i64 2)], (Qa_H13_4 t)) := by kernel_rfl
theorem Qa_b13_4 (t : TypeId) : callEnd [0, 81, 86, 87, 88, 720, 721, 1742, 1746, 1747, 1872] Qa_L13_4 Qa_A13_4 (.tuple #[]) (Qa_R15 t) = some (Qa_L13_5, Qa_A13_5, (Qa_H13_5 t)) := by kernel_rfl
theorem Qa_r13_5 (t : TypeId) (G : Nat → Option Obj) : pieceI Tryz.prog (ftOf Tryz.prog) G (run0 Tryz.prog (ftOf Tryz.prog) (knG kngA) G 100000) 104 [0, 81, 86, 87, 88, 720, 721, 1742, 1746, 1747, 1872] Qa_L13_5 Qa_A13_5 (Qa_H13_5 t) = some (Qa_L13_6, Qa_A13_6, (Qa_H13_6 t)) := by kernel_rfl
theorem Qa_e13 (t : TypeId) (G : Nat → Option Obj) : endL Tryz.prog (ftOf Tryz.prog) 52 (runPc Tryz.prog (ftOf Tryz.prog) G (run0 Tryz.prog (ftOf Tryz.prog) (knG kngA) G 100000) 100000 [] Qa_L13_6 Qa_A13_6 (Qa_H13_6 t)) = some (.val (.bool true), (Qa_R13 t)) := by kernel_rfl
theorem Qa_r12_0 (t : TypeId) (G : Nat → Option Obj) : pieceI Tryz.prog (ftOf Tryz.prog) G (run0 Tryz.prog (ftOf Tryz.prog) (knG kngA) G 100000) 9 [0, 81, 86, 87, 88, 720, 721, 1742, 1746, 1747] Qa_L12_0 Qa_A12_0 (Qa_H11_1 t) = some (Qa_L12_1, Qa_A12_1, (Qa_H12_1 t)) := by kernel_rfl
theorem Qa_a12_1 (t : TypeId) (G : Nat → Option Obj) : callAt Tryz.prog (ftOf Tryz.prog) G Qa_L12_1 Qa_A12_1 (Qa_H12_1 t) = some (52, #[(.pointer (some ⟨1746, 0, none⟩))], (Qa_H12_1 t)) := by kernel_rfl
theorem Qa_b12_1 (t : TypeId) : callEnd [0, 81, 86, 87, 88, 720, 721, 1742, 1746, 1747] Qa_L12_1 Qa_A12_1 (.bool true) (Qa_R13 t) = some (Qa_L12_2, Qa_A12_2, (Qa_H12_2 t)) := by kernel_rfl
theorem Qa_e12 (t : TypeId) (G : Nat → Option Obj) : endL Tryz.prog (ftOf Tryz.prog) 40 (runPc Tryz.prog (ftOf Tryz.prog) G (run0 Tryz.prog (ftOf Tryz.prog) (knG kngA) G 100000) 100000 [] Qa_L12_2 Qa_A12_2 (Qa_H12_2 t)) = some (.val (.tuple #[(.int .i64 0), (.int .i64 15)]), (Qa_R12 t)) := by kernel_rfl
theorem Qa_r11_0 (t : TypeId) (G : Nat → Option Obj) : pieceI Tryz.prog (ftOf Tryz.prog) G (run0 Tryz.prog (ftOf Tryz.prog) (knG kngA) G 100000) 72 [0, 81, 86, 87, 88, 720, 721, 1742, 1746, 1747] Qa_L11_0 Qa_A11_0 (Qa_H10_1 t) = some (Qa_L11_1, Qa_A11_1, (Qa_H11_1 t)) := by kernel_rfl
theorem Qa_a11_1 (t : TypeId) (G : Nat → Option Obj) : callAt Tryz.prog (ftOf Tryz.prog) G Qa_L11_1 Qa_A11_1 (Qa_H11_1 t) = some (40, #[(.pointer (some ⟨1746, 0, none⟩))], (Qa_H11_1 t)) := by kernel_rfl
theorem Qa_b11_1 (t : TypeId) : callEnd [0, 81, 86, 87, 88, 720, 721, 1742, 1746, 1747] Qa_L11_1 Qa_A11_1 (.tuple #[(.int .i64 0), (.int .i64 15)]) (Qa_R12 t) = some (Qa_L11_2, Qa_A11_2, (Qa_H11_2 t)) := by kernel_rfl
theorem Qa_e11 (t : TypeId) (G : Nat → Option Obj) : endL Tryz.prog (ftOf Tryz.prog) 80 (runPc Tryz.prog (ftOf Tryz.prog) G (run0 Tryz.prog (ftOf Tryz.prog) (knG kngA) G 100000) 100000 [] Qa_L11_2 Qa_A11_2 (Qa_H11_2 t)) = some (.val (.tuple #[(.int .i64 0), (.int .i64 15)]), (Qa_R11 t)) := by kernel_rfl
theorem Qa_r10_0 (t : TypeId) (G : Nat → Option Obj) : pieceI Tryz.prog (ftOf Tryz.prog) G (run0 Tryz.prog (ftOf Tryz.prog) (knG kngA) G 100000) 21 [0, 81, 86, 87, 88, 720, 721, 1742, 1746, 1747] Qa_L10_0 Qa_A10_0 (Qa_H9_1 t) = some (Qa_L10_1, Qa_A10_1, (Qa_H10_1 t)) := by kernel_rfl
theorem Qa_a10_1 (t : TypeId) (G : Nat → Option Obj) : callAt Tryz.prog (ftOf Tryz.prog) G Qa_L10_1 Qa_A10_1 (Qa_H10_1 t) = some (80, #[(.pointer (some ⟨1746, 0, none⟩)), (.slice (some ⟨1747, 0, none⟩) 3 3)], (Qa_H10_1 t)) := by kernel_rfl
theorem Qa_b10_1 (t : TypeId) : callEnd [0, 81, 86, 87, 88, 720, 721, 1742, 1746, 1747] Qa_L10_1 Qa_A10_1 (.tuple #[(.int .i64 0), (.int .i64 15)]) (Qa_R11 t) = some (Qa_L10_2, Qa_A10_2, (Qa_H10_2 t)) := by kernel_rfl
end Go.Proofs.YtiiklbllogonnaaGreatDoor
