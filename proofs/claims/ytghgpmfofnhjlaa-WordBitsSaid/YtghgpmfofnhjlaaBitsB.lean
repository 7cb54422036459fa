/-
  WordBits, run by run: the maps from 64 to 127. No condition.
-/
import Derived.Test.YtghgpmfofnhjlaaBits0
namespace Go.Proofs.Ytghgpmfofnhjlaa
open Go.Ev Go.RowKit
set_option maxRecDepth 100000
def row8 : List (Nat × Nat) := [(64, 0), (65, 1), (66, 0), (67, 2), (68, 0), (69, 1), (70, 0), (71, 3)]
theorem row8_ok (j : Nat) : rowAt row8 j = true := by kernel_rfl
def row9 : List (Nat × Nat) := [(72, 0), (73, 1), (74, 0), (75, 2), (76, 0), (77, 1), (78, 0), (79, 4)]
theorem row9_ok (j : Nat) : rowAt row9 j = true := by kernel_rfl
def row10 : List (Nat × Nat) := [(80, 0), (81, 1), (82, 0), (83, 2), (84, 0), (85, 1), (86, 0), (87, 3)]
theorem row10_ok (j : Nat) : rowAt row10 j = true := by kernel_rfl
def row11 : List (Nat × Nat) := [(88, 0), (89, 1), (90, 0), (91, 2), (92, 0), (93, 1), (94, 0), (95, 5)]
theorem row11_ok (j : Nat) : rowAt row11 j = true := by kernel_rfl
def row12 : List (Nat × Nat) := [(96, 0), (97, 1), (98, 0), (99, 2), (100, 0), (101, 1), (102, 0), (103, 3)]
theorem row12_ok (j : Nat) : rowAt row12 j = true := by kernel_rfl
def row13 : List (Nat × Nat) := [(104, 0), (105, 1), (106, 0), (107, 2), (108, 0), (109, 1), (110, 0), (111, 4)]
theorem row13_ok (j : Nat) : rowAt row13 j = true := by kernel_rfl
def row14 : List (Nat × Nat) := [(112, 0), (113, 1), (114, 0), (115, 2), (116, 0), (117, 1), (118, 0), (119, 3)]
theorem row14_ok (j : Nat) : rowAt row14 j = true := by kernel_rfl
def row15 : List (Nat × Nat) := [(120, 0), (121, 1), (122, 0), (123, 2), (124, 0), (125, 1), (126, 0), (127, 7)]
theorem row15_ok (j : Nat) : rowAt row15 j = true := by kernel_rfl

end Go.Proofs.Ytghgpmfofnhjlaa
