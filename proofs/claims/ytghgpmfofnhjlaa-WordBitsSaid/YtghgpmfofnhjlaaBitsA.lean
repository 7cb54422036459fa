/-
  WordBits, run by run: the maps from 0 to 63. No condition.
-/
import Derived.Test.YtghgpmfofnhjlaaBits0
namespace Go.Proofs.Ytghgpmfofnhjlaa
open Go.Ev Go.RowKit
set_option maxRecDepth 100000
def row0 : List (Nat × Nat) := [(0, 0), (1, 1), (2, 0), (3, 2), (4, 0), (5, 1), (6, 0), (7, 3)]
theorem row0_ok (j : Nat) : rowAt row0 j = true := by kernel_rfl
def row1 : List (Nat × Nat) := [(8, 0), (9, 1), (10, 0), (11, 2), (12, 0), (13, 1), (14, 0), (15, 4)]
theorem row1_ok (j : Nat) : rowAt row1 j = true := by kernel_rfl
def row2 : List (Nat × Nat) := [(16, 0), (17, 1), (18, 0), (19, 2), (20, 0), (21, 1), (22, 0), (23, 3)]
theorem row2_ok (j : Nat) : rowAt row2 j = true := by kernel_rfl
def row3 : List (Nat × Nat) := [(24, 0), (25, 1), (26, 0), (27, 2), (28, 0), (29, 1), (30, 0), (31, 5)]
theorem row3_ok (j : Nat) : rowAt row3 j = true := by kernel_rfl
def row4 : List (Nat × Nat) := [(32, 0), (33, 1), (34, 0), (35, 2), (36, 0), (37, 1), (38, 0), (39, 3)]
theorem row4_ok (j : Nat) : rowAt row4 j = true := by kernel_rfl
def row5 : List (Nat × Nat) := [(40, 0), (41, 1), (42, 0), (43, 2), (44, 0), (45, 1), (46, 0), (47, 4)]
theorem row5_ok (j : Nat) : rowAt row5 j = true := by kernel_rfl
def row6 : List (Nat × Nat) := [(48, 0), (49, 1), (50, 0), (51, 2), (52, 0), (53, 1), (54, 0), (55, 3)]
theorem row6_ok (j : Nat) : rowAt row6 j = true := by kernel_rfl
def row7 : List (Nat × Nat) := [(56, 0), (57, 1), (58, 0), (59, 2), (60, 0), (61, 1), (62, 0), (63, 6)]
theorem row7_ok (j : Nat) : rowAt row7 j = true := by kernel_rfl

end Go.Proofs.Ytghgpmfofnhjlaa
