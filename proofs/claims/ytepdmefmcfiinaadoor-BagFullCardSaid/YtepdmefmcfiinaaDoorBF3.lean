/-
  A closed body in pieces: piece 51 and on, between states that are written out. Condition: the variable holds its table.
-/
import Derived.Test.YtepdmefmcfiinaaDoorBFs
import Derived.Test.YtepdmefmcfiinaaDoorEvSegD
namespace Go.Proofs.YtepdmefmcfiinaaDoor
open Go.Ev Go.RowKit
set_option maxRecDepth 100000
theorem BF_r51 (t : TypeId) (G : Nat → Option Obj) : pieceI (run0 Tryd.prog (ftOf Tryd.prog) (knG kngA) G 100000) BF_p51.1 BF_p51.2 BF_L51 BF_A51 (BF_H51 t) = some (BF_L52, BF_A52, BF_H52 t) := by kernel_rfl
theorem BF_r52 (t : TypeId) (G : Nat → Option Obj) : pieceI (run0 Tryd.prog (ftOf Tryd.prog) (knG kngA) G 100000) BF_p52.1 BF_p52.2 BF_L52 BF_A52 (BF_H52 t) = some (BF_L53, BF_A53, BF_H53 t) := by kernel_rfl
theorem BF_r53 (t : TypeId) (G : Nat → Option Obj) : pieceI (run0 Tryd.prog (ftOf Tryd.prog) (knG kngA) G 100000) BF_p53.1 BF_p53.2 BF_L53 BF_A53 (BF_H53 t) = some (BF_L54, BF_A54, BF_H54 t) := by kernel_rfl
theorem BF_r54 (t : TypeId) (G : Nat → Option Obj) : pieceI (run0 Tryd.prog (ftOf Tryd.prog) (knG kngA) G 100000) BF_p54.1 BF_p54.2 BF_L54 BF_A54 (BF_H54 t) = some (BF_L55, BF_A55, BF_H55 t) := by kernel_rfl
theorem BF_r55 (t : TypeId) (G : Nat → Option Obj) : pieceI (run0 Tryd.prog (ftOf Tryd.prog) (knG kngA) G 100000) BF_p55.1 BF_p55.2 BF_L55 BF_A55 (BF_H55 t) = some (BF_L56, BF_A56, BF_H56 t) := by kernel_rfl
theorem BF_r56 (t : TypeId) (G : Nat → Option Obj) : pieceI (run0 Tryd.prog (ftOf Tryd.prog) (knG kngA) G 100000) BF_p56.1 BF_p56.2 BF_L56 BF_A56 (BF_H56 t) = some (BF_L57, BF_A57, BF_H57 t) := by kernel_rfl
theorem BF_r57 (t : TypeId) (G : Nat → Option Obj) : pieceI (run0 Tryd.prog (ftOf Tryd.prog) (knG kngA) G 100000) BF_p57.1 BF_p57.2 BF_L57 BF_A57 (BF_H57 t) = some (BF_L58, BF_A58, BF_H58 t) := by kernel_rfl
theorem BF_r58 (t : TypeId) (G : Nat → Option Obj) : pieceI (run0 Tryd.prog (ftOf Tryd.prog) (knG kngA) G 100000) BF_p58.1 BF_p58.2 BF_L58 BF_A58 (BF_H58 t) = some (BF_L59, BF_A59, BF_H59 t) := by kernel_rfl
theorem BF_r59 (t : TypeId) (G : Nat → Option Obj) : pieceI (run0 Tryd.prog (ftOf Tryd.prog) (knG kngA) G 100000) BF_p59.1 BF_p59.2 BF_L59 BF_A59 (BF_H59 t) = some (BF_L60, BF_A60, BF_H60 t) := by kernel_rfl
theorem BF_r60 (t : TypeId) (G : Nat → Option Obj) : pieceI (run0 Tryd.prog (ftOf Tryd.prog) (knG kngA) G 100000) BF_p60.1 BF_p60.2 BF_L60 BF_A60 (BF_H60 t) = some (BF_L61, BF_A61, BF_H61 t) := by kernel_rfl
theorem BF_r61 (t : TypeId) (G : Nat → Option Obj) : pieceI (run0 Tryd.prog (ftOf Tryd.prog) (knG kngA) G 100000) BF_p61.1 BF_p61.2 BF_L61 BF_A61 (BF_H61 t) = some (BF_L62, BF_A62, BF_H62 t) := by kernel_rfl
theorem BF_r62 (t : TypeId) (G : Nat → Option Obj) : pieceI (run0 Tryd.prog (ftOf Tryd.prog) (knG kngA) G 100000) BF_p62.1 BF_p62.2 BF_L62 BF_A62 (BF_H62 t) = some (BF_L63, BF_A63, BF_H63 t) := by kernel_rfl
theorem BF_r63 (t : TypeId) (G : Nat → Option Obj) : pieceI (run0 Tryd.prog (ftOf Tryd.prog) (knG kngA) G 100000) BF_p63.1 BF_p63.2 BF_L63 BF_A63 (BF_H63 t) = some (BF_L64, BF_A64, BF_H64 t) := by kernel_rfl
theorem BF_r64 (t : TypeId) (G : Nat → Option Obj) : pieceI (run0 Tryd.prog (ftOf Tryd.prog) (knG kngA) G 100000) BF_p64.1 BF_p64.2 BF_L64 BF_A64 (BF_H64 t) = some (BF_L65, BF_A65, BF_H65 t) := by kernel_rfl
end Go.Proofs.YtepdmefmcfiinaaDoor
