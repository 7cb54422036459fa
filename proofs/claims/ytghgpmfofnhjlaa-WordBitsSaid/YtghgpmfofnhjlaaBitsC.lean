/-
  WordBits, run by run: the maps from 128 to 191. No condition.
-/
import Derived.Test.YtghgpmfofnhjlaaBits0
namespace Go.Proofs.Ytghgpmfofnhjlaa
open Go.Ev Go.RowKit
set_option maxRecDepth 100000
def row16 : List (Nat × Nat) := [(128, 0), (129, 1), (130, 0), (131, 2), (132, 0), (133, 1), (134, 0), (135, 3)]
theorem row16_ok (j : Nat) : rowAt row16 j = true := by kernel_rfl
def row17 : List (Nat × Nat) := [(136, 0), (137, 1), (138, 0), (139, 2), (140, 0), (141, 1), (142, 0), (143, 4)]
theorem row17_ok (j : Nat) : rowAt row17 j = true := by kernel_rfl
def row18 : List (Nat × Nat) := [(144, 0), (145, 1), (146, 0), (147, 2), (148, 0), (149, 1), (150, 0), (151, 3)]
theorem row18_ok (j : Nat) : rowAt row18 j = true := by kernel_rfl
def row19 : List (Nat × Nat) := [(152, 0), (153, 1), (154, 0), (155, 2), (156, 0), (157, 1), (158, 0), (159, 5)]
theorem row19_ok (j : Nat) : rowAt row19 j = true := by kernel_rfl
def row20 : List (Nat × Nat) := [(160, 0), (161, 1), (162, 0), (163, 2), (164, 0), (165, 1), (166, 0), (167, 3)]
theorem row20_ok (j : Nat) : rowAt row20 j = true := by kernel_rfl
def row21 : List (Nat × Nat) := [(168, 0), (169, 1), (170, 0), (171, 2), (172, 0), (173, 1), (174, 0), (175, 4)]
theorem row21_ok (j : Nat) : rowAt row21 j = true := by kernel_rfl
def row22 : List (Nat × Nat) := [(176, 0), (177, 1), (178, 0), (179, 2), (180, 0), (181, 1), (182, 0), (183, 3)]
theorem row22_ok (j : Nat) : rowAt row22 j = true := by kernel_rfl
def row23 : List (Nat × Nat) := [(184, 0), (185, 1), (186, 0), (187, 2), (188, 0), (189, 1), (190, 0), (191, 6)]
theorem row23_ok (j : Nat) : rowAt row23 j = true := by kernel_rfl

end Go.Proofs.Ytghgpmfofnhjlaa
