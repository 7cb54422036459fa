/-
  A closed body in pieces: piece states, between states that are written out. Condition: the variable holds its table.
-/
import Derived.Test.YteenndlapjnclaaDoorR1
import Derived.Test.YteenndlapjnclaaDoorEvSegD
namespace Go.Proofs.YteenndlapjnclaaDoor
open Go.Ev Go.RowKit
set_option maxRecDepth 100000
noncomputable def Rw_d0 : T Value := (.node (some (.pointer (some ⟨90, 0, none⟩))) (.node (some (.pointer (some ⟨88, 0, none⟩))) .leaf .leaf) (.node (some (.bool true)) .leaf .leaf))
noncomputable def Rw_d1 : Value := (.tuple #[(.agg #[(.int .i64 8), (.int .i64 2), (.int .i64 0), (.int .i64 1), (.int .i64 2), (.int .i64 7), (.int .i64 16), (.int .i64 17), (.int .i64 21), (.int .i64 23), (.int .i64 31), (.int .i64 39), (.int .i64 47), (.int .i64 111), (.int .i64 175), (.int .i64 191), (.int .i64 199), (.int .i64 203), (.int .i64 205), (.int .i64 217), (.int .i64 303), (.int .i64 991)]), (.pointer (some ⟨88, 0, none⟩)), (.pointer (some ⟨90, 0, none⟩))])
noncomputable def Rw_d2 : T Value := (.node (some Rw_d1) (.node (some (.pointer (some ⟨90, 0, none⟩))) .leaf .leaf) (.node (some (.pointer (some ⟨90, 0, none⟩))) .leaf .leaf))
noncomputable def Rw_d3 : Value := (.agg #[(.int .i64 8), (.int .i64 2), (.int .i64 0), (.int .i64 1), (.int .i64 2), (.int .i64 7), (.int .i64 16), (.int .i64 17), (.int .i64 21), (.int .i64 23), (.int .i64 31), (.int .i64 39), (.int .i64 47), (.int .i64 111), (.int .i64 175), (.int .i64 191), (.int .i64 199), (.int .i64 203), (.int .i64 205), (.int .i64 217), (.int .i64 303), (.int .i64 991)])
noncomputable def Rw_d4 : T Value := (.node (some (.pointer (some ⟨88, 0, none⟩))) (.node (some Rw_d1) (.node (some (.pointer (some ⟨90, 0, none⟩))) .leaf .leaf) (.node (some (.bool true)) .leaf .leaf)) (.node (some Rw_d3) (.node (some Rw_d3) .leaf .leaf) (.node (some Rw_d3) .leaf .leaf)))
noncomputable def Rw_d5 : T Blk := (.node none .leaf (.node none .leaf (.node none (.node (some (.cells ⟨512, .leaf, (.int .u8 0), 5, false, 1, 0⟩)) .leaf .leaf) .leaf)))
noncomputable def Rw_d6 : T Value := (.node (some (.slice (some ⟨86, 0, none⟩) 991 991)) (.node (some (.slice (some ⟨87, 0, none⟩) 512 512)) .leaf .leaf) .leaf)
noncomputable def Rw_d7 : T Blk := (.node none .leaf (.node none .leaf (.node none (.node (some (.cells ⟨2, Rw_d6, (.tuple #[]), 73, false, 1, 0⟩)) .leaf .leaf) .leaf)))
noncomputable def Rw_d8 : T Value := (.node (some (.int .i64 10)) (.node (some (.int .i64 0)) (.node (some (.int .u64 0)) .leaf .leaf) (.node (some (.int .i64 0)) .leaf .leaf)) (.node (some (.int .u8 0)) (.node (some (.int .u64 0)) .leaf .leaf) (.node (some (.int .i64 0)) .leaf .leaf)))
noncomputable def Rw_d9 : T Value := (.node (some (.int .i64 0)) (.node (some (.int .i64 0)) (.node (some (.int .u64 0)) .leaf .leaf) (.node (some (.int .i64 0)) .leaf .leaf)) (.node (some (.int .u64 0)) (.node (some (.int .u64 0)) .leaf .leaf) (.node (some (.bool false)) .leaf .leaf)))
noncomputable def Rw_d10 : Blk := (.cells ⟨15, (.node (some (.pointer (some ⟨88, 0, none⟩))) Rw_d8 Rw_d9), (.tuple #[]), 102, false, 1, 0⟩)
noncomputable def Rw_d11 : T Value := (.node (some (.int .i64 1)) (.node (some (.int .i64 17)) (.node (some (.int .i64 191)) .leaf .leaf) .leaf) (.node (some (.int .i64 39)) (.node (some (.int .i64 217)) .leaf .leaf) .leaf))
noncomputable def Rw_d12 : T Value := (.node (some (.int .i64 7)) (.node (some (.int .i64 23)) (.node (some (.int .i64 203)) .leaf .leaf) .leaf) (.node (some (.int .i64 111)) (.node (some (.int .i64 991)) .leaf .leaf) .leaf))
noncomputable def Rw_d13 : T Value := (.node (some (.int .i64 2)) (.node (some (.int .i64 21)) (.node (some (.int .i64 199)) .leaf .leaf) .leaf) (.node (some (.int .i64 47)) (.node (some (.int .i64 303)) .leaf .leaf) .leaf))
noncomputable def Rw_d14 : T Value := (.node (some (.int .i64 16)) (.node (some (.int .i64 31)) (.node (some (.int .i64 205)) .leaf .leaf) .leaf) (.node (some (.int .i64 175)) .leaf .leaf))
noncomputable def Rw_d15 : Blk := (.cells ⟨22, (.node (some (.int .i64 8)) (.node (some (.int .i64 2)) Rw_d11 Rw_d12) (.node (some (.int .i64 0)) Rw_d13 Rw_d14)), (.tuple #[]), 24, false, 1, 0⟩)
noncomputable def Rw_d16 : T Value := (.node none (.node none (.node none .leaf (.node (some (.int .u64 28)) .leaf .leaf)) .leaf) (.node none (.node (some (.int .u64 1)) .leaf (.node (some (.int .u64 0)) .leaf .leaf)) .leaf))
noncomputable def Rw_d17 : T Value := (.node none (.node (some (.int .u64 0)) .leaf (.node (some (.int .u64 41)) .leaf .leaf)) (.node none .leaf (.node (some (.int .u64 42)) .leaf .leaf)))
noncomputable def Rw_d18 : Blk := (.cells ⟨991, (.node none Rw_d16 (.node none .leaf Rw_d17)), (.int .u64 0), 34, false, 1, 0⟩)
noncomputable def Rw_d19 : T Blk := (.node none (.node none (.node none (.node (some Rw_d15) .leaf .leaf) .leaf) .leaf) (.node none (.node (some Rw_d18) .leaf .leaf) .leaf))
noncomputable def Rw_d20 : T Blk := (.node none (.node none .leaf (.node none .leaf (.node none (.node (some Rw_d10) .leaf .leaf) .leaf))) (.node none Rw_d19 .leaf))
noncomputable def Rw_A1 : Fr := { size := 39, m := (.node (some (.bool false)) (.node (some (.pointer (some ⟨134, 0, none⟩))) Rw_d0 Rw_d2) Rw_d4), opn := false }
noncomputable def Rw_H1 (t : TypeId) : Heap := { base := 1, next := 241, m := (.node (some (.cells (mkCells tab t))) (.node none (.node none Rw_d5 .leaf) .leaf) (.node none (.node none Rw_d7 .leaf) Rw_d20)), hole := [] }
def Rw_p0 : Nat × List Nat := (24, [0, 86, 87, 88, 90, 134])
noncomputable def Rw_d21 : T Value := (.node (some (.pointer (some ⟨88, 0, none⟩))) (.node (some (.bool true)) .leaf .leaf) (.node (some (.pointer (some ⟨90, 0, none⟩))) .leaf .leaf))
noncomputable def Rw_d22 : T Value := (.node (some Rw_d1) (.node (some (.pointer (some ⟨90, 0, none⟩))) (.node (some (.bool true)) .leaf .leaf) (.node (some Rw_d3) .leaf .leaf)) (.node (some (.pointer (some ⟨90, 0, none⟩))) (.node (some (.bool true)) .leaf .leaf) .leaf))
noncomputable def Rw_d23 : T Value := (.node (some (.pointer (some ⟨134, 0, none⟩))) (.node (some (.pointer (some ⟨90, 0, none⟩))) Rw_d21 (.node (some (.bool true)) (.node (some Rw_d3) .leaf .leaf) .leaf)) Rw_d22)
noncomputable def Rw_d24 : T Value := (.node (some (.pointer (some ⟨90, 0, none⟩))) (.node (some (.bool true)) .leaf .leaf) (.node (some (.iface 26 (.pointer (some ⟨90, 0, none⟩)))) .leaf .leaf))
noncomputable def Rw_d25 : T Value := (.node (some Rw_d3) (.node (some Rw_d3) (.node (some (.pointer (some ⟨90, 0, none⟩))) .leaf .leaf) .leaf) (.node (some Rw_d3) (.node (some (.bool true)) .leaf .leaf) .leaf))
noncomputable def Rw_d26 : T Value := (.node (some (.pointer (some ⟨88, 0, none⟩))) (.node (some Rw_d1) Rw_d24 (.node (some (.bool true)) (.node (some (.bool true)) .leaf .leaf) .leaf)) Rw_d25)
noncomputable def Rw_d27 : T Value := (.node (some (.int .i64 29)) (.node (some (.int .i64 0)) (.node (some (.int .u64 0)) .leaf .leaf) (.node (some (.int .i64 0)) .leaf .leaf)) (.node (some (.int .u8 0)) (.node (some (.int .u64 0)) .leaf .leaf) (.node (some (.int .i64 0)) .leaf .leaf)))
noncomputable def Rw_d28 : Blk := (.cells ⟨15, (.node (some (.pointer (some ⟨88, 0, none⟩))) Rw_d27 Rw_d9), (.tuple #[]), 102, false, 1, 0⟩)
noncomputable def Rw_d29 : T Value := (.node none (.node (some (.int .u64 2)) .leaf (.node (some (.int .u64 28)) .leaf .leaf)) (.node none .leaf (.node (some (.int .u64 12)) .leaf .leaf)))
noncomputable def Rw_d30 : T Value := (.node none (.node (some (.int .u64 0)) .leaf (.node (some (.int .u64 0)) .leaf .leaf)) (.node none .leaf (.node (some (.int .u64 0)) .leaf .leaf)))
noncomputable def Rw_d31 : T Value := (.node none (.node (some (.int .u64 0)) .leaf (.node (some (.int .u64 9)) .leaf .leaf)) (.node none .leaf (.node (some (.int .u64 9)) .leaf .leaf)))
noncomputable def Rw_d32 : T Value := (.node none (.node none (.node (some (.int .u64 0)) .leaf .leaf) (.node none .leaf (.node (some (.int .u64 20)) .leaf .leaf))) Rw_d31)
noncomputable def Rw_d33 : Blk := (.cells ⟨991, (.node none (.node none Rw_d29 Rw_d30) Rw_d32), (.int .u64 0), 34, false, 1, 0⟩)
noncomputable def Rw_d34 : T Blk := (.node none (.node none (.node none (.node (some Rw_d15) .leaf .leaf) .leaf) .leaf) (.node none (.node (some Rw_d33) .leaf .leaf) .leaf))
noncomputable def Rw_d35 : T Blk := (.node none (.node none .leaf (.node none .leaf (.node none (.node (some Rw_d28) .leaf .leaf) .leaf))) (.node none Rw_d34 .leaf))
noncomputable def Rw_A2 : Fr := { size := 39, m := (.node (some (.bool false)) Rw_d23 Rw_d26), opn := false }
noncomputable def Rw_H2 (t : TypeId) : Heap := { base := 1, next := 545, m := (.node (some (.cells (mkCells tab t))) (.node none (.node none Rw_d5 .leaf) .leaf) (.node none (.node none Rw_d7 .leaf) Rw_d35)), hole := [] }
def Rw_p1 : Nat × List Nat := (11, [0, 86, 87, 88, 90, 134])
noncomputable def Rw_L0 : List Itm := bodyI (ftOf Tryd.prog) 16
noncomputable def Rw_L1 : List Itm := itmsAt (ftOf Tryd.prog) 16 [(3, [1, 1, 0, 6]), (0, [1, 1, 1])]
noncomputable def Rw_L2 : List Itm := itmsAt (ftOf Tryd.prog) 16 [(3, [1, 1, 0, 17]), (0, [1, 1, 1])]
end Go.Proofs.YteenndlapjnclaaDoor
