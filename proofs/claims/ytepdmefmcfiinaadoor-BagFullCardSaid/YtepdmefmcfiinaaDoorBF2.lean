/-
  A closed body in pieces: piece 34 and on, between states that are written out. Condition: the variable holds its table.
-/
import Derived.Test.YtepdmefmcfiinaaDoorBFs
import Derived.Test.YtepdmefmcfiinaaDoorEvSegD
namespace Go.Proofs.YtepdmefmcfiinaaDoor
open Go.Ev Go.RowKit
set_option maxRecDepth 100000
theorem BF_r34 (t : TypeId) (G : Nat → Option Obj) : pieceI (run0 Tryd.prog (ftOf Tryd.prog) (knG kngA) G 100000) BF_p34.1 BF_p34.2 BF_L34 BF_A34 (BF_H34 t) = some (BF_L35, BF_A35, BF_H35 t) := by kernel_rfl
theorem BF_r35 (t : TypeId) (G : Nat → Option Obj) : pieceI (run0 Tryd.prog (ftOf Tryd.prog) (knG kngA) G 100000) BF_p35.1 BF_p35.2 BF_L35 BF_A35 (BF_H35 t) = some (BF_L36, BF_A36, BF_H36 t) := by kernel_rfl
theorem BF_r36 (t : TypeId) (G : Nat → Option Obj) : pieceI (run0 Tryd.prog (ftOf Tryd.prog) (knG kngA) G 100000) BF_p36.1 BF_p36.2 BF_L36 BF_A36 (BF_H36 t) = some (BF_L37, BF_A37, BF_H37 t) := by kernel_rfl
theorem BF_r37 (t : TypeId) (G : Nat → Option Obj) : pieceI (run0 Tryd.prog (ftOf Tryd.prog) (knG kngA) G 100000) BF_p37.1 BF_p37.2 BF_L37 BF_A37 (BF_H37 t) = some (BF_L38, BF_A38, BF_H38 t) := by kernel_rfl
theorem BF_r38 (t : TypeId) (G : Nat → Option Obj) : pieceI (run0 Tryd.prog (ftOf Tryd.prog) (knG kngA) G 100000) BF_p38.1 BF_p38.2 BF_L38 BF_A38 (BF_H38 t) = some (BF_L39, BF_A39, BF_H39 t) := by kernel_rfl
theorem BF_r39 (t : TypeId) (G : Nat → Option Obj) : pieceI (run0 Tryd.prog (ftOf Tryd.prog) (knG kngA) G 100000) BF_p39.1 BF_p39.2 BF_L39 BF_A39 (BF_H39 t) = some (BF_L40, BF_A40, BF_H40 t) := by kernel_rfl
theorem BF_r40 (t : TypeId) (G : Nat → Option Obj) : pieceI (run0 Tryd.prog (ftOf Tryd.prog) (knG kngA) G 100000) BF_p40.1 BF_p40.2 BF_L40 BF_A40 (BF_H40 t) = some (BF_L41, BF_A41, BF_H41 t) := by kernel_rfl
theorem BF_r41 (t : TypeId) (G : Nat → Option Obj) : pieceI (run0 Tryd.prog (ftOf Tryd.prog) (knG kngA) G 100000) BF_p41.1 BF_p41.2 BF_L41 BF_A41 (BF_H41 t) = some (BF_L42, BF_A42, BF_H42 t) := by kernel_rfl
theorem BF_r42 (t : TypeId) (G : Nat → Option Obj) : pieceI (run0 Tryd.prog (ftOf Tryd.prog) (knG kngA) G 100000) BF_p42.1 BF_p42.2 BF_L42 BF_A42 (BF_H42 t) = some (BF_L43, BF_A43, BF_H43 t) := by kernel_rfl
theorem BF_r43 (t : TypeId) (G : Nat → Option Obj) : pieceI (run0 Tryd.prog (ftOf Tryd.prog) (knG kngA) G 100000) BF_p43.1 BF_p43.2 BF_L43 BF_A43 (BF_H43 t) = some (BF_L44, BF_A44, BF_H44 t) := by kernel_rfl
theorem BF_r44 (t : TypeId) (G : Nat → Option Obj) : pieceI (run0 Tryd.prog (ftOf Tryd.prog) (knG kngA) G 100000) BF_p44.1 BF_p44.2 BF_L44 BF_A44 (BF_H44 t) = some (BF_L45, BF_A45, BF_H45 t) := by kernel_rfl
theorem BF_r45 (t : TypeId) (G : Nat → Option Obj) : pieceI (run0 Tryd.prog (ftOf Tryd.prog) (knG kngA) G 100000) BF_p45.1 BF_p45.2 BF_L45 BF_A45 (BF_H45 t) = some (BF_L46, BF_A46, BF_H46 t) := by kernel_rfl
theorem BF_r46 (t : TypeId) (G : Nat → Option Obj) : pieceI (run0 Tryd.prog (ftOf Tryd.prog) (knG kngA) G 100000) BF_p46.1 BF_p46.2 BF_L46 BF_A46 (BF_H46 t) = some (BF_L47, BF_A47, BF_H47 t) := by kernel_rfl
theorem BF_r47 (t : TypeId) (G : Nat → Option Obj) : pieceI (run0 Tryd.prog (ftOf Tryd.prog) (knG kngA) G 100000) BF_p47.1 BF_p47.2 BF_L47 BF_A47 (BF_H47 t) = some (BF_L48, BF_A48, BF_H48 t) := by kernel_rfl
theorem BF_r48 (t : TypeId) (G : Nat → Option Obj) : pieceI (run0 Tryd.prog (ftOf Tryd.prog) (knG kngA) G 100000) BF_p48.1 BF_p48.2 BF_L48 BF_A48 (BF_H48 t) = some (BF_L49, BF_A49, BF_H49 t) := by kernel_rfl
theorem BF_r49 (t : TypeId) (G : Nat → Option Obj) : pieceI (run0 Tryd.prog (ftOf Tryd.prog) (knG kngA) G 100000) BF_p49.1 BF_p49.2 BF_L49 BF_A49 (BF_H49 t) = some (BF_L50, BF_A50, BF_H50 t) := by kernel_rfl
theorem BF_r50 (t : TypeId) (G : Nat → Option Obj) : pieceI (run0 Tryd.prog (ftOf Tryd.prog) (knG kngA) G 100000) BF_p50.1 BF_p50.2 BF_L50 BF_A50 (BF_H50 t) = some (BF_L51, BF_A51, BF_H51 t) := by kernel_rfl
end Go.Proofs.YtepdmefmcfiinaaDoor
