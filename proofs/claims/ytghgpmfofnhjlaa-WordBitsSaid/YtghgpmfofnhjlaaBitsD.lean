/-
  WordBits, run by run: the maps from 192 to 255. No condition.
-/
import Derived.Test.YtghgpmfofnhjlaaBits0
namespace Go.Proofs.Ytghgpmfofnhjlaa
open Go.Ev Go.RowKit
set_option maxRecDepth 100000
def row24 : List (Nat × Nat) := [(192, 0), (193, 1), (194, 0), (195, 2), (196, 0), (197, 1), (198, 0), (199, 3)]
theorem row24_ok (j : Nat) : rowAt row24 j = true := by kernel_rfl
def row25 : List (Nat × Nat) := [(200, 0), (201, 1), (202, 0), (203, 2), (204, 0), (205, 1), (206, 0), (207, 4)]
theorem row25_ok (j : Nat) : rowAt row25 j = true := by kernel_rfl
def row26 : List (Nat × Nat) := [(208, 0), (209, 1), (210, 0), (211, 2), (212, 0), (213, 1), (214, 0), (215, 3)]
theorem row26_ok (j : Nat) : rowAt row26 j = true := by kernel_rfl
def row27 : List (Nat × Nat) := [(216, 0), (217, 1), (218, 0), (219, 2), (220, 0), (221, 1), (222, 0), (223, 5)]
theorem row27_ok (j : Nat) : rowAt row27 j = true := by kernel_rfl
def row28 : List (Nat × Nat) := [(224, 0), (225, 1), (226, 0), (227, 2), (228, 0), (229, 1), (230, 0), (231, 3)]
theorem row28_ok (j : Nat) : rowAt row28 j = true := by kernel_rfl
def row29 : List (Nat × Nat) := [(232, 0), (233, 1), (234, 0), (235, 2), (236, 0), (237, 1), (238, 0), (239, 4)]
theorem row29_ok (j : Nat) : rowAt row29 j = true := by kernel_rfl
def row30 : List (Nat × Nat) := [(240, 0), (241, 1), (242, 0), (243, 2), (244, 0), (245, 1), (246, 0), (247, 3)]
theorem row30_ok (j : Nat) : rowAt row30 j = true := by kernel_rfl
def row31 : List (Nat × Nat) := [(248, 0), (249, 1), (250, 0), (251, 2), (252, 0), (253, 1), (254, 0), (255, 8)]
theorem row31_ok (j : Nat) : rowAt row31 j = true := by kernel_rfl

end Go.Proofs.Ytghgpmfofnhjlaa
