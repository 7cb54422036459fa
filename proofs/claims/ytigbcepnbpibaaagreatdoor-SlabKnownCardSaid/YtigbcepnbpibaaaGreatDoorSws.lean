/-
  A closed body in pieces: piece states, between states that are written out. Condition: the variable holds its table.
-/
import Derived.Test.YtigbcepnbpibaaaGreatDoorS1
import Derived.Test.YtigbcepnbpibaaaGreatDoorEvSegD
namespace Go.Proofs.YtigbcepnbpibaaaGreatDoor
open Go.Ev Go.RowKit
set_option maxRecDepth 100000
noncomputable def Sw_d0 : Value := (.tuple #[(.agg #[(.int .i64 2), (.int .i64 1), (.int .i64 0), (.int .i64 1), (.int .i64 2), (.int .i64 7), (.int .i64 16), (.int .i64 17), (.int .i64 21), (.int .i64 22), (.int .i64 24), (.int .i64 26), (.int .i64 28), (.int .i64 44), (.int .i64 60), (.int .i64 68), (.int .i64 72), (.int .i64 74), (.int .i64 75), (.int .i64 79), (.int .i64 96), (.int .i64 232)]), (.pointer (some ⟨88, 0, none⟩)), (.pointer (some ⟨90, 0, none⟩))])
noncomputable def Sw_d1 : T Value := (.node (some (.pointer (some ⟨90, 0, none⟩))) (.node (some Sw_d0) .leaf .leaf) (.node (some (.pointer (some ⟨90, 0, none⟩))) .leaf .leaf))
noncomputable def Sw_d2 : Value := (.agg #[(.int .i64 2), (.int .i64 1), (.int .i64 0), (.int .i64 1), (.int .i64 2), (.int .i64 7), (.int .i64 16), (.int .i64 17), (.int .i64 21), (.int .i64 22), (.int .i64 24), (.int .i64 26), (.int .i64 28), (.int .i64 44), (.int .i64 60), (.int .i64 68), (.int .i64 72), (.int .i64 74), (.int .i64 75), (.int .i64 79), (.int .i64 96), (.int .i64 232)])
noncomputable def Sw_d3 : T Value := (.node none (.node (some (.pointer (some ⟨88, 0, none⟩))) (.node (some Sw_d2) .leaf .leaf) .leaf) (.node (some Sw_d2) .leaf .leaf))
noncomputable def Sw_d4 : T Value := (.node none (.node (some Sw_d2) (.node (some (.pointer (some ⟨90, 0, none⟩))) .leaf .leaf) .leaf) (.node (some (.iface 26 (.pointer (some ⟨90, 0, none⟩)))) .leaf .leaf))
noncomputable def Sw_d5 : T Value := (.node (some Sw_d0) (.node (some (.pointer (some ⟨90, 0, none⟩))) .leaf .leaf) (.node (some (.tuple #[(.int .i64 0), (.bool true)])) .leaf .leaf))
noncomputable def Sw_d6 : T Value := (.node (some (.bool false)) (.node (some (.pointer (some ⟨134, 0, none⟩))) Sw_d1 Sw_d3) (.node (some (.pointer (some ⟨88, 0, none⟩))) Sw_d4 Sw_d5))
noncomputable def Sw_d7 : T Blk := (.node none .leaf (.node none .leaf (.node none (.node (some (.cells ⟨128, .leaf, (.int .u8 0), 5, false, 1, 0⟩)) .leaf .leaf) .leaf)))
noncomputable def Sw_d8 : T Value := (.node (some (.slice (some ⟨86, 0, none⟩) 232 232)) (.node (some (.slice (some ⟨87, 0, none⟩) 128 128)) .leaf .leaf) .leaf)
noncomputable def Sw_d9 : T Blk := (.node none .leaf (.node none .leaf (.node none (.node (some (.cells ⟨2, Sw_d8, (.tuple #[]), 103, false, 1, 0⟩)) .leaf .leaf) .leaf)))
noncomputable def Sw_d10 : T Value := (.node (some (.int .i64 9)) (.node (some (.int .i64 0)) (.node (some (.int .u64 0)) .leaf .leaf) (.node (some (.int .i64 0)) .leaf .leaf)) (.node (some (.int .u8 0)) (.node (some (.int .u64 0)) .leaf .leaf) (.node (some (.int .i64 0)) .leaf .leaf)))
noncomputable def Sw_d11 : T Value := (.node (some (.int .i64 0)) (.node (some (.int .i64 0)) (.node (some (.int .u64 0)) .leaf .leaf) (.node (some (.int .i64 0)) .leaf .leaf)) (.node (some (.int .u64 0)) (.node (some (.int .u64 0)) .leaf .leaf) (.node (some (.bool false)) .leaf .leaf)))
noncomputable def Sw_d12 : Blk := (.cells ⟨15, (.node (some (.pointer (some ⟨88, 0, none⟩))) Sw_d10 Sw_d11), (.tuple #[]), 80, false, 1, 0⟩)
noncomputable def Sw_d13 : T Value := (.node (some (.int .i64 1)) (.node (some (.int .i64 17)) (.node (some (.int .i64 68)) .leaf .leaf) .leaf) (.node (some (.int .i64 26)) (.node (some (.int .i64 79)) .leaf .leaf) .leaf))
noncomputable def Sw_d14 : T Value := (.node (some (.int .i64 7)) (.node (some (.int .i64 22)) (.node (some (.int .i64 74)) .leaf .leaf) .leaf) (.node (some (.int .i64 44)) (.node (some (.int .i64 232)) .leaf .leaf) .leaf))
noncomputable def Sw_d15 : T Value := (.node (some (.int .i64 2)) (.node (some (.int .i64 21)) (.node (some (.int .i64 72)) .leaf .leaf) .leaf) (.node (some (.int .i64 28)) (.node (some (.int .i64 96)) .leaf .leaf) .leaf))
noncomputable def Sw_d16 : T Value := (.node (some (.int .i64 16)) (.node (some (.int .i64 24)) (.node (some (.int .i64 75)) .leaf .leaf) .leaf) (.node (some (.int .i64 60)) .leaf .leaf))
noncomputable def Sw_d17 : Blk := (.cells ⟨22, (.node (some (.int .i64 2)) (.node (some (.int .i64 1)) Sw_d13 Sw_d14) (.node (some (.int .i64 0)) Sw_d15 Sw_d16)), (.tuple #[]), 24, false, 1, 0⟩)
noncomputable def Sw_d18 : T Value := (.node none (.node none (.node (some (.int .u64 0)) .leaf .leaf) .leaf) (.node none .leaf (.node none (.node (some (.int .u64 12)) .leaf .leaf) .leaf)))
noncomputable def Sw_d19 : T Value := (.node none (.node none (.node none (.node (some (.int .u64 1)) .leaf (.node (some (.int .u64 9)) .leaf .leaf)) .leaf) .leaf) Sw_d18)
noncomputable def Sw_d20 : T Blk := (.node none (.node none (.node none (.node (some Sw_d17) .leaf .leaf) .leaf) .leaf) (.node none (.node (some (.cells ⟨232, Sw_d19, (.int .u64 0), 39, false, 1, 0⟩)) .leaf .leaf) .leaf))
noncomputable def Sw_d21 : T Blk := (.node none (.node none .leaf (.node none .leaf (.node none (.node (some Sw_d12) .leaf .leaf) .leaf))) (.node none Sw_d20 .leaf))
noncomputable def Sw_A1 : Fr := { size := 82, m := Sw_d6, opn := false }
noncomputable def Sw_H1 (t : TypeId) : Heap := { base := 1, next := 226, m := (.node (some (.cells (mkCells tab t))) (.node none (.node none Sw_d7 .leaf) .leaf) (.node none (.node none Sw_d9 .leaf) Sw_d21)), hole := [] }
def Sw_p0 : Nat × List Nat := (27, [0, 86, 87, 88, 90, 134])
noncomputable def Sw_d22 : T Value := (.node (some Sw_d0) (.node (some (.tuple #[(.int .i64 1), (.int .i64 8)])) (.node (some (.bool true)) .leaf .leaf) .leaf) (.node (some (.bool true)) (.node (some (.iface 26 (.pointer (some ⟨90, 0, none⟩)))) .leaf .leaf) .leaf))
noncomputable def Sw_d23 : T Value := (.node (some (.pointer (some ⟨90, 0, none⟩))) (.node (some (.int .i64 1)) (.node (some (.bool true)) .leaf .leaf) .leaf) (.node (some (.bool true)) .leaf .leaf))
noncomputable def Sw_d24 : T Value := (.node (some (.pointer (some ⟨88, 0, none⟩))) (.node (some Sw_d2) (.node (some (.pointer (some ⟨90, 0, none⟩))) .leaf .leaf) .leaf) (.node (some (.bool true)) .leaf .leaf))
noncomputable def Sw_d25 : T Value := (.node (some Sw_d2) (.node (some (.int .i64 1)) (.node (some (.bool true)) .leaf .leaf) .leaf) (.node (some Sw_d2) .leaf .leaf))
noncomputable def Sw_d26 : T Value := (.node (some (.pointer (some ⟨134, 0, none⟩))) (.node (some (.pointer (some ⟨90, 0, none⟩))) Sw_d22 Sw_d23) (.node (some (.int .i64 8)) Sw_d24 Sw_d25))
noncomputable def Sw_d27 : T Value := (.node (some Sw_d2) (.node (some (.pointer (some ⟨90, 0, none⟩))) (.node (some (.bool true)) .leaf .leaf) .leaf) (.node (some (.int .i64 8)) (.node (some Sw_d2) .leaf .leaf) .leaf))
noncomputable def Sw_d28 : T Value := (.node (some (.iface 26 (.pointer (some ⟨90, 0, none⟩)))) (.node (some (.int .i64 8)) (.node (some (.bool true)) .leaf .leaf) .leaf) (.node (some (.pointer (some ⟨90, 0, none⟩))) .leaf .leaf))
noncomputable def Sw_d29 : T Value := (.node (some (.pointer (some ⟨90, 0, none⟩))) (.node (some (.tuple #[(.int .i64 1), (.int .i64 8)])) (.node (some Sw_d2) .leaf .leaf) .leaf) (.node (some (.bool true)) .leaf .leaf))
noncomputable def Sw_d30 : T Value := (.node (some (.tuple #[(.int .i64 0), (.bool true)])) (.node (some (.bool true)) (.node (some (.pointer (some ⟨90, 0, none⟩))) .leaf .leaf) .leaf) (.node (some (.bool true)) .leaf .leaf))
noncomputable def Sw_d31 : T Value := (.node (some (.pointer (some ⟨88, 0, none⟩))) (.node (some (.int .i64 1)) Sw_d27 Sw_d28) (.node (some Sw_d0) Sw_d29 Sw_d30))
noncomputable def Sw_d32 : T Value := (.node (some (.int .i64 20)) (.node (some (.int .i64 0)) (.node (some (.int .u64 0)) .leaf .leaf) (.node (some (.int .i64 0)) .leaf .leaf)) (.node (some (.int .u8 0)) (.node (some (.int .u64 0)) .leaf .leaf) (.node (some (.int .i64 0)) .leaf .leaf)))
noncomputable def Sw_d33 : Blk := (.cells ⟨15, (.node (some (.pointer (some ⟨88, 0, none⟩))) Sw_d32 Sw_d11), (.tuple #[]), 80, false, 1, 0⟩)
noncomputable def Sw_d34 : T Value := (.node none (.node none (.node (some (.int .u64 0)) .leaf (.node (some (.int .u64 16395)) .leaf .leaf)) .leaf) (.node none (.node none .leaf (.node (some (.int .u64 4294968064)) .leaf .leaf)) .leaf))
noncomputable def Sw_d35 : Blk := (.cells ⟨232, (.node none Sw_d34 Sw_d18), (.int .u64 0), 39, false, 1, 0⟩)
noncomputable def Sw_d36 : T Blk := (.node none (.node none (.node none (.node (some Sw_d17) .leaf .leaf) .leaf) .leaf) (.node none (.node (some Sw_d35) .leaf .leaf) .leaf))
noncomputable def Sw_d37 : T Blk := (.node none (.node none .leaf (.node none .leaf (.node none (.node (some Sw_d33) .leaf .leaf) .leaf))) (.node none Sw_d36 .leaf))
noncomputable def Sw_A2 : Fr := { size := 82, m := (.node (some (.bool false)) Sw_d26 Sw_d31), opn := false }
noncomputable def Sw_H2 (t : TypeId) : Heap := { base := 1, next := 424, m := (.node (some (.cells (mkCells tab t))) (.node none (.node none Sw_d7 .leaf) .leaf) (.node none (.node none Sw_d9 .leaf) Sw_d37)), hole := [] }
def Sw_p1 : Nat × List Nat := (29, [0, 86, 87, 88, 90, 134])
noncomputable def Sw_d38 : T Value := (.node (some (.tuple #[(.int .i64 1), (.int .i64 8)])) (.node (some (.bool true)) .leaf .leaf) (.node (some (.bool true)) .leaf .leaf))
noncomputable def Sw_d39 : T Value := (.node (some (.bool true)) (.node (some (.iface 26 (.pointer (some ⟨90, 0, none⟩)))) .leaf .leaf) (.node (some (.bool true)) .leaf .leaf))
noncomputable def Sw_d40 : T Value := (.node (some (.int .i64 1)) (.node (some (.bool true)) .leaf .leaf) (.node (some (.iface 26 (.pointer (some ⟨90, 0, none⟩)))) .leaf .leaf))
noncomputable def Sw_d41 : T Value := (.node (some (.bool true)) (.node (some (.bool true)) .leaf .leaf) (.node (some (.iface 26 (.pointer (some ⟨90, 0, none⟩)))) .leaf .leaf))
noncomputable def Sw_d42 : T Value := (.node (some (.pointer (some ⟨90, 0, none⟩))) (.node (some Sw_d0) Sw_d38 Sw_d39) (.node (some (.pointer (some ⟨90, 0, none⟩))) Sw_d40 Sw_d41))
noncomputable def Sw_d43 : T Value := (.node (some (.pointer (some ⟨88, 0, none⟩))) (.node (some Sw_d2) (.node (some (.pointer (some ⟨90, 0, none⟩))) .leaf .leaf) (.node (some (.bool true)) .leaf .leaf)) (.node (some (.bool true)) (.node (some (.bool true)) .leaf .leaf) (.node (some (.bool true)) .leaf .leaf)))
noncomputable def Sw_d44 : T Value := (.node (some (.int .i64 1)) (.node (some (.bool true)) .leaf .leaf) (.node (some (.slice (some ⟨587, 0, none⟩) 2 2)) .leaf .leaf))
noncomputable def Sw_d45 : T Value := (.node (some Sw_d2) Sw_d44 (.node (some Sw_d2) (.node (some (.iface 26 (.pointer (some ⟨90, 0, none⟩)))) .leaf .leaf) .leaf))
noncomputable def Sw_d46 : T Value := (.node (some (.pointer (some ⟨90, 0, none⟩))) (.node (some (.bool true)) .leaf .leaf) (.node (some (.bool true)) .leaf .leaf))
noncomputable def Sw_d47 : T Value := (.node (some Sw_d2) Sw_d46 (.node (some (.int .i64 8)) (.node (some Sw_d2) .leaf .leaf) (.node (some (.bool true)) .leaf .leaf)))
noncomputable def Sw_d48 : T Value := (.node (some (.pointer (some ⟨90, 0, none⟩))) (.node (some (.pointer (some ⟨90, 0, none⟩))) .leaf .leaf) (.node (some Sw_d2) .leaf .leaf))
noncomputable def Sw_d49 : T Value := (.node (some (.iface 26 (.pointer (some ⟨90, 0, none⟩)))) (.node (some (.int .i64 8)) (.node (some (.bool true)) .leaf .leaf) (.node (some Sw_d2) .leaf .leaf)) Sw_d48)
noncomputable def Sw_d50 : T Value := (.node (some (.tuple #[(.int .i64 1), (.int .i64 8)])) (.node (some Sw_d2) .leaf .leaf) (.node (some (.pointer (some ⟨90, 0, none⟩))) .leaf .leaf))
noncomputable def Sw_d51 : T Value := (.node (some (.bool true)) (.node (some (.bool true)) .leaf .leaf) (.node (some (.pointer (some ⟨90, 0, none⟩))) .leaf .leaf))
noncomputable def Sw_d52 : T Value := (.node (some (.bool true)) (.node (some (.pointer (some ⟨90, 0, none⟩))) .leaf .leaf) (.node (some (.slice (some ⟨603, 0, none⟩) 2 2)) .leaf .leaf))
noncomputable def Sw_d53 : T Value := (.node (some (.tuple #[(.int .i64 0), (.bool true)])) Sw_d52 (.node (some (.bool true)) (.node (some Sw_d2) .leaf .leaf) .leaf))
noncomputable def Sw_d54 : T Value := (.node (some (.pointer (some ⟨88, 0, none⟩))) (.node (some (.int .i64 1)) Sw_d47 Sw_d49) (.node (some Sw_d0) (.node (some (.pointer (some ⟨90, 0, none⟩))) Sw_d50 Sw_d51) Sw_d53))
noncomputable def Sw_d55 : T Value := (.node (some (.bool false)) (.node (some (.pointer (some ⟨134, 0, none⟩))) Sw_d42 (.node (some (.int .i64 8)) Sw_d43 Sw_d45)) Sw_d54)
noncomputable def Sw_d56 : Blk := (.cells ⟨2, (.node (some (.int .i64 11)) (.node (some (.int .i64 8)) .leaf .leaf) .leaf), (.tuple #[]), 3, true, 1, 0⟩)
noncomputable def Sw_d57 : Blk := (.cells ⟨2, (.node (some (.int .i64 11)) (.node (some (.int .i64 8)) .leaf .leaf) .leaf), (.tuple #[]), 3, false, 1, 0⟩)
noncomputable def Sw_d58 : T Blk := (.node none (.node none (.node none .leaf (.node none (.node none (.node (some Sw_d56) .leaf .leaf) .leaf) .leaf)) .leaf) (.node none (.node none .leaf (.node none (.node none (.node (some Sw_d57) .leaf .leaf) .leaf) .leaf)) .leaf))
noncomputable def Sw_d59 : T Value := (.node (some (.int .i64 30)) (.node (some (.int .i64 0)) (.node (some (.int .u64 0)) .leaf .leaf) (.node (some (.int .i64 0)) .leaf .leaf)) (.node (some (.int .u8 0)) (.node (some (.int .u64 0)) .leaf .leaf) (.node (some (.int .i64 0)) .leaf .leaf)))
noncomputable def Sw_d60 : Blk := (.cells ⟨15, (.node (some (.pointer (some ⟨88, 0, none⟩))) Sw_d59 Sw_d11), (.tuple #[]), 80, false, 1, 0⟩)
noncomputable def Sw_d61 : T Value := (.node none (.node (some (.int .u64 0)) .leaf (.node (some (.int .u64 16395)) (.node (some (.int .u64 9)) .leaf .leaf) .leaf)) (.node none .leaf (.node (some (.int .u64 0)) .leaf .leaf)))
noncomputable def Sw_d62 : T Value := (.node none (.node (some (.int .u64 0)) .leaf .leaf) (.node none (.node none (.node (some (.int .u64 0)) .leaf .leaf) .leaf) .leaf))
noncomputable def Sw_d63 : T Value := (.node none (.node none Sw_d61 (.node none (.node none .leaf (.node (some (.int .u64 4294968064)) .leaf .leaf)) .leaf)) (.node none Sw_d62 (.node none .leaf (.node none (.node (some (.int .u64 12)) .leaf .leaf) .leaf))))
noncomputable def Sw_d64 : T Blk := (.node none (.node none (.node none (.node (some Sw_d17) .leaf .leaf) .leaf) .leaf) (.node none (.node (some (.cells ⟨232, Sw_d63, (.int .u64 0), 39, false, 1, 0⟩)) .leaf .leaf) .leaf))
noncomputable def Sw_d65 : T Blk := (.node none (.node none .leaf (.node none .leaf (.node none (.node (some Sw_d60) .leaf .leaf) .leaf))) (.node none Sw_d64 .leaf))
noncomputable def Sw_A3 : Fr := { size := 82, m := Sw_d55, opn := false }
noncomputable def Sw_H3 (t : TypeId) : Heap := { base := 1, next := 604, m := (.node (some (.cells (mkCells tab t))) (.node none (.node none Sw_d7 (.node none .leaf Sw_d58)) .leaf) (.node none (.node none Sw_d9 .leaf) Sw_d65)), hole := [] }
def Sw_p2 : Nat × List Nat := (20, [0, 86, 87, 88, 90, 134, 587, 603])
noncomputable def Sw_L0 : List Itm := bodyI (ftOf Tryz.prog) 23
noncomputable def Sw_L1 : List Itm := itmsAt (ftOf Tryz.prog) 23 [(3, [1, 1, 1, 0, 2]), (0, [1, 1, 1, 1])]
noncomputable def Sw_L2 : List Itm := itmsAt (ftOf Tryz.prog) 23 [(3, [1, 1, 1, 1, 0, 20]), (0, [1, 1, 1, 1, 1])]
noncomputable def Sw_L3 : List Itm := itmsAt (ftOf Tryz.prog) 23 [(3, [1, 1, 1, 1, 0, 40]), (0, [1, 1, 1, 1, 1])]
end Go.Proofs.YtigbcepnbpibaaaGreatDoor
