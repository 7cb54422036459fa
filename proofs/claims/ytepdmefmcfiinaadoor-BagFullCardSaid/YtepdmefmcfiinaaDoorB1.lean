/-
  Calls that are known ahead: each entry by a run of its own. Condition: the variable holds its table.
-/
import Derived.Test.YtepdmefmcfiinaaDoorB0
import Derived.Test.YtepdmefmcfiinaaDoorEvKn2
namespace Go.Proofs.YtepdmefmcfiinaaDoor
open Go.Ev Go.RowKit
set_option maxRecDepth 100000
abbrev val0 : Value := .agg #[.int .i64 1, .int .i64 1, .int .i64 0, .int .i64 1, .int .i64 2, .int .i64 7, .int .i64 16, .int .i64 17, .int .i64 21, .int .i64 22, .int .i64 23, .int .i64 24, .int .i64 25, .int .i64 33, .int .i64 41, .int .i64 49, .int .i64 53, .int .i64 55, .int .i64 56, .int .i64 60, .int .i64 73, .int .i64 177]
def kn0 : Kn := ⟨9, #[.int .u8 0, .int .u8 0], val0⟩
def kn1 : Kn := ⟨11, #[val0], .int .i64 1⟩
def kn2 : Kn := ⟨39, #[val0], .int .i64 13⟩
def kn3 : Kn := ⟨29, #[val0], .int .i64 177⟩
def kn4 : Kn := ⟨52, #[val0], .int .i64 16⟩
def kn5 : Kn := ⟨30, #[val0], .int .i64 1⟩
def kn6 : Kn := ⟨38, #[val0, .int .i64 0, .int .i64 (-1)], .int .i64 (-1)⟩
def kn7 : Kn := ⟨38, #[val0, .int .i64 0, .int .i64 0], .int .i64 49⟩
def kn8 : Kn := ⟨38, #[val0, .int .i64 0, .int .i64 1], .int .i64 50⟩
def kn9 : Kn := ⟨38, #[val0, .int .i64 0, .int .i64 2], .int .i64 51⟩
def kn10 : Kn := ⟨38, #[val0, .int .i64 0, .int .i64 3], .int .i64 52⟩
def kn11 : Kn := ⟨38, #[val0, .int .i64 0, .int .i64 4], .int .i64 (-1)⟩
def kn12 : Kn := ⟨38, #[val0, .int .i64 1, .int .i64 0], .int .i64 (-1)⟩
def kn13 : Kn := ⟨24, #[val0, .int .i64 0], .int .i64 17⟩
def kn14 : Kn := ⟨24, #[val0, .int .i64 1], .int .i64 18⟩
def kn15 : Kn := ⟨24, #[val0, .int .i64 2], .int .i64 19⟩
def kn16 : Kn := ⟨24, #[val0, .int .i64 3], .int .i64 20⟩
def kn17 : Kn := ⟨44, #[val0, .int .i64 0], .int .i64 (-1)⟩
def kn18 : Kn := ⟨44, #[val0, .int .i64 1], .int .i64 60⟩
def kn19 : Kn := ⟨44, #[val0, .int .i64 2], .int .i64 61⟩
def kn20 : Kn := ⟨44, #[val0, .int .i64 3], .int .i64 62⟩
def kn21 : Kn := ⟨44, #[val0, .int .i64 4], .int .i64 63⟩
def kn22 : Kn := ⟨44, #[val0, .int .i64 5], .int .i64 64⟩
def kn23 : Kn := ⟨44, #[val0, .int .i64 6], .int .i64 65⟩
def kn24 : Kn := ⟨44, #[val0, .int .i64 7], .int .i64 66⟩
def kn25 : Kn := ⟨44, #[val0, .int .i64 8], .int .i64 67⟩
def kn26 : Kn := ⟨44, #[val0, .int .i64 9], .int .i64 68⟩
def kn27 : Kn := ⟨44, #[val0, .int .i64 10], .int .i64 69⟩
def kn28 : Kn := ⟨44, #[val0, .int .i64 11], .int .i64 70⟩
def kn29 : Kn := ⟨44, #[val0, .int .i64 12], .int .i64 71⟩
def kn30 : Kn := ⟨44, #[val0, .int .i64 13], .int .i64 72⟩
def kn31 : Kn := ⟨44, #[val0, .int .i64 14], .int .i64 (-1)⟩
def kn32 : Kn := ⟨69, #[val0, .int .i64 0], .int .i64 55⟩
def kn33 : Kn := ⟨23, #[val0, .int .i64 0, .int .i64 0], .int .i64 53⟩
def kn34 : Kn := ⟨23, #[val0, .int .i64 0, .int .i64 1], .int .i64 54⟩
def kn35 : Kn := ⟨72, #[val0, .int .i64 0, .int .i64 0], .int .i64 56⟩
def kn36 : Kn := ⟨72, #[val0, .int .i64 0, .int .i64 1], .int .i64 57⟩
def kn37 : Kn := ⟨72, #[val0, .int .i64 0, .int .i64 2], .int .i64 58⟩
def kn38 : Kn := ⟨72, #[val0, .int .i64 0, .int .i64 3], .int .i64 59⟩
def kn39 : Kn := ⟨45, #[val0, .int .i64 1, .int .i64 0], .int .i64 73⟩
def kn40 : Kn := ⟨45, #[val0, .int .i64 1, .int .i64 1], .int .i64 74⟩
def kn41 : Kn := ⟨45, #[val0, .int .i64 1, .int .i64 2], .int .i64 75⟩
def kn42 : Kn := ⟨45, #[val0, .int .i64 1, .int .i64 3], .int .i64 76⟩
def kn43 : Kn := ⟨45, #[val0, .int .i64 1, .int .i64 4], .int .i64 77⟩
def kn44 : Kn := ⟨45, #[val0, .int .i64 1, .int .i64 5], .int .i64 78⟩
def kn45 : Kn := ⟨45, #[val0, .int .i64 1, .int .i64 6], .int .i64 79⟩
def kn46 : Kn := ⟨45, #[val0, .int .i64 1, .int .i64 7], .int .i64 80⟩
def kn47 : Kn := ⟨45, #[val0, .int .i64 2, .int .i64 0], .int .i64 81⟩
def kn48 : Kn := ⟨45, #[val0, .int .i64 2, .int .i64 1], .int .i64 82⟩
def kn49 : Kn := ⟨45, #[val0, .int .i64 2, .int .i64 2], .int .i64 83⟩
def kn50 : Kn := ⟨45, #[val0, .int .i64 2, .int .i64 3], .int .i64 84⟩
def kn51 : Kn := ⟨45, #[val0, .int .i64 2, .int .i64 4], .int .i64 85⟩
def kn52 : Kn := ⟨45, #[val0, .int .i64 2, .int .i64 5], .int .i64 86⟩
def kn53 : Kn := ⟨45, #[val0, .int .i64 2, .int .i64 6], .int .i64 87⟩
def kn54 : Kn := ⟨45, #[val0, .int .i64 2, .int .i64 7], .int .i64 88⟩
def kn55 : Kn := ⟨45, #[val0, .int .i64 3, .int .i64 0], .int .i64 89⟩
def kn56 : Kn := ⟨45, #[val0, .int .i64 3, .int .i64 1], .int .i64 90⟩
def kn57 : Kn := ⟨45, #[val0, .int .i64 3, .int .i64 2], .int .i64 91⟩
def kn58 : Kn := ⟨45, #[val0, .int .i64 3, .int .i64 3], .int .i64 92⟩
def kn59 : Kn := ⟨45, #[val0, .int .i64 3, .int .i64 4], .int .i64 93⟩
def kn60 : Kn := ⟨45, #[val0, .int .i64 3, .int .i64 5], .int .i64 94⟩
def kn61 : Kn := ⟨45, #[val0, .int .i64 3, .int .i64 6], .int .i64 95⟩
def kn62 : Kn := ⟨45, #[val0, .int .i64 3, .int .i64 7], .int .i64 96⟩
def kn63 : Kn := ⟨45, #[val0, .int .i64 4, .int .i64 0], .int .i64 97⟩
def kn64 : Kn := ⟨45, #[val0, .int .i64 4, .int .i64 1], .int .i64 98⟩
def kn65 : Kn := ⟨45, #[val0, .int .i64 4, .int .i64 2], .int .i64 99⟩
def kn66 : Kn := ⟨45, #[val0, .int .i64 4, .int .i64 3], .int .i64 100⟩
def kn67 : Kn := ⟨45, #[val0, .int .i64 4, .int .i64 4], .int .i64 101⟩
def kn68 : Kn := ⟨45, #[val0, .int .i64 4, .int .i64 5], .int .i64 102⟩
def kn69 : Kn := ⟨45, #[val0, .int .i64 4, .int .i64 6], .int .i64 103⟩
def kn70 : Kn := ⟨45, #[val0, .int .i64 4, .int .i64 7], .int .i64 104⟩
def kn71 : Kn := ⟨45, #[val0, .int .i64 5, .int .i64 0], .int .i64 105⟩
def kn72 : Kn := ⟨45, #[val0, .int .i64 5, .int .i64 1], .int .i64 106⟩
def kn73 : Kn := ⟨45, #[val0, .int .i64 5, .int .i64 2], .int .i64 107⟩
def kn74 : Kn := ⟨45, #[val0, .int .i64 5, .int .i64 3], .int .i64 108⟩
def kn75 : Kn := ⟨45, #[val0, .int .i64 5, .int .i64 4], .int .i64 109⟩
def kn76 : Kn := ⟨45, #[val0, .int .i64 5, .int .i64 5], .int .i64 110⟩
def kn77 : Kn := ⟨45, #[val0, .int .i64 5, .int .i64 6], .int .i64 111⟩
def kn78 : Kn := ⟨45, #[val0, .int .i64 5, .int .i64 7], .int .i64 112⟩
def kn79 : Kn := ⟨45, #[val0, .int .i64 6, .int .i64 0], .int .i64 113⟩
def kn80 : Kn := ⟨45, #[val0, .int .i64 6, .int .i64 1], .int .i64 114⟩
def kn81 : Kn := ⟨45, #[val0, .int .i64 6, .int .i64 2], .int .i64 115⟩
def kn82 : Kn := ⟨45, #[val0, .int .i64 6, .int .i64 3], .int .i64 116⟩
def kn83 : Kn := ⟨45, #[val0, .int .i64 6, .int .i64 4], .int .i64 117⟩
def kn84 : Kn := ⟨45, #[val0, .int .i64 6, .int .i64 5], .int .i64 118⟩
def kn85 : Kn := ⟨45, #[val0, .int .i64 6, .int .i64 6], .int .i64 119⟩
def kn86 : Kn := ⟨45, #[val0, .int .i64 6, .int .i64 7], .int .i64 120⟩
def kn87 : Kn := ⟨45, #[val0, .int .i64 7, .int .i64 0], .int .i64 121⟩
def kn88 : Kn := ⟨45, #[val0, .int .i64 7, .int .i64 1], .int .i64 122⟩
def kn89 : Kn := ⟨45, #[val0, .int .i64 7, .int .i64 2], .int .i64 123⟩
def kn90 : Kn := ⟨45, #[val0, .int .i64 7, .int .i64 3], .int .i64 124⟩
def kn91 : Kn := ⟨45, #[val0, .int .i64 7, .int .i64 4], .int .i64 125⟩
def kn92 : Kn := ⟨45, #[val0, .int .i64 7, .int .i64 5], .int .i64 126⟩
def kn93 : Kn := ⟨45, #[val0, .int .i64 7, .int .i64 6], .int .i64 127⟩
def kn94 : Kn := ⟨45, #[val0, .int .i64 7, .int .i64 7], .int .i64 128⟩
def kn95 : Kn := ⟨45, #[val0, .int .i64 8, .int .i64 0], .int .i64 129⟩
def kn96 : Kn := ⟨45, #[val0, .int .i64 8, .int .i64 1], .int .i64 130⟩
def kn97 : Kn := ⟨45, #[val0, .int .i64 8, .int .i64 2], .int .i64 131⟩
def kn98 : Kn := ⟨45, #[val0, .int .i64 8, .int .i64 3], .int .i64 132⟩
def kn99 : Kn := ⟨45, #[val0, .int .i64 8, .int .i64 4], .int .i64 133⟩
def kn100 : Kn := ⟨45, #[val0, .int .i64 8, .int .i64 5], .int .i64 134⟩
def kn101 : Kn := ⟨45, #[val0, .int .i64 8, .int .i64 6], .int .i64 135⟩
def kn102 : Kn := ⟨45, #[val0, .int .i64 8, .int .i64 7], .int .i64 136⟩
def kn103 : Kn := ⟨45, #[val0, .int .i64 9, .int .i64 0], .int .i64 137⟩
def kn104 : Kn := ⟨45, #[val0, .int .i64 9, .int .i64 1], .int .i64 138⟩
def kn105 : Kn := ⟨45, #[val0, .int .i64 9, .int .i64 2], .int .i64 139⟩
def kn106 : Kn := ⟨45, #[val0, .int .i64 9, .int .i64 3], .int .i64 140⟩
def kn107 : Kn := ⟨45, #[val0, .int .i64 9, .int .i64 4], .int .i64 141⟩
def kn108 : Kn := ⟨45, #[val0, .int .i64 9, .int .i64 5], .int .i64 142⟩
def kn109 : Kn := ⟨45, #[val0, .int .i64 9, .int .i64 6], .int .i64 143⟩
def kn110 : Kn := ⟨45, #[val0, .int .i64 9, .int .i64 7], .int .i64 144⟩
def kn111 : Kn := ⟨45, #[val0, .int .i64 10, .int .i64 0], .int .i64 145⟩
def kn112 : Kn := ⟨45, #[val0, .int .i64 10, .int .i64 1], .int .i64 146⟩
def kn113 : Kn := ⟨45, #[val0, .int .i64 10, .int .i64 2], .int .i64 147⟩
def kn114 : Kn := ⟨45, #[val0, .int .i64 10, .int .i64 3], .int .i64 148⟩
def kn115 : Kn := ⟨45, #[val0, .int .i64 10, .int .i64 4], .int .i64 149⟩
def kn116 : Kn := ⟨45, #[val0, .int .i64 10, .int .i64 5], .int .i64 150⟩
def kn117 : Kn := ⟨45, #[val0, .int .i64 10, .int .i64 6], .int .i64 151⟩
def kn118 : Kn := ⟨45, #[val0, .int .i64 10, .int .i64 7], .int .i64 152⟩
def kn119 : Kn := ⟨45, #[val0, .int .i64 11, .int .i64 0], .int .i64 153⟩
def kn120 : Kn := ⟨45, #[val0, .int .i64 11, .int .i64 1], .int .i64 154⟩
def kn121 : Kn := ⟨45, #[val0, .int .i64 11, .int .i64 2], .int .i64 155⟩
def kn122 : Kn := ⟨45, #[val0, .int .i64 11, .int .i64 3], .int .i64 156⟩
def kn123 : Kn := ⟨45, #[val0, .int .i64 11, .int .i64 4], .int .i64 157⟩
def kn124 : Kn := ⟨45, #[val0, .int .i64 11, .int .i64 5], .int .i64 158⟩
def kn125 : Kn := ⟨45, #[val0, .int .i64 11, .int .i64 6], .int .i64 159⟩
def kn126 : Kn := ⟨45, #[val0, .int .i64 11, .int .i64 7], .int .i64 160⟩
def kn127 : Kn := ⟨45, #[val0, .int .i64 12, .int .i64 0], .int .i64 161⟩
def kn128 : Kn := ⟨45, #[val0, .int .i64 12, .int .i64 1], .int .i64 162⟩
def kn129 : Kn := ⟨45, #[val0, .int .i64 12, .int .i64 2], .int .i64 163⟩
def kn130 : Kn := ⟨45, #[val0, .int .i64 12, .int .i64 3], .int .i64 164⟩
def kn131 : Kn := ⟨45, #[val0, .int .i64 12, .int .i64 4], .int .i64 165⟩
def kn132 : Kn := ⟨45, #[val0, .int .i64 12, .int .i64 5], .int .i64 166⟩
def kn133 : Kn := ⟨45, #[val0, .int .i64 12, .int .i64 6], .int .i64 167⟩
def kn134 : Kn := ⟨45, #[val0, .int .i64 12, .int .i64 7], .int .i64 168⟩
def kn135 : Kn := ⟨45, #[val0, .int .i64 13, .int .i64 0], .int .i64 169⟩
def kn136 : Kn := ⟨45, #[val0, .int .i64 13, .int .i64 1], .int .i64 170⟩
def kn137 : Kn := ⟨45, #[val0, .int .i64 13, .int .i64 2], .int .i64 171⟩
def kn138 : Kn := ⟨45, #[val0, .int .i64 13, .int .i64 3], .int .i64 172⟩
def kn139 : Kn := ⟨45, #[val0, .int .i64 13, .int .i64 4], .int .i64 173⟩
def kn140 : Kn := ⟨45, #[val0, .int .i64 13, .int .i64 5], .int .i64 174⟩
def kn141 : Kn := ⟨45, #[val0, .int .i64 13, .int .i64 6], .int .i64 175⟩
def kn142 : Kn := ⟨45, #[val0, .int .i64 13, .int .i64 7], .int .i64 176⟩
def kn143 : Kn := ⟨70, #[val0], .int .i64 3⟩
def kn144 : Kn := ⟨65, #[val0], .int .i64 1013⟩
def kn145 : Kn := ⟨41, #[val0, .int .i64 0], .bool false⟩
def kn146 : Kn := ⟨41, #[val0, .int .i64 1], .bool true⟩
def kn147 : Kn := ⟨41, #[val0, .int .i64 2], .bool true⟩
def kn148 : Kn := ⟨41, #[val0, .int .i64 3], .bool true⟩
def kn149 : Kn := ⟨41, #[val0, .int .i64 4], .bool true⟩
def kn150 : Kn := ⟨41, #[val0, .int .i64 5], .bool true⟩
def kn151 : Kn := ⟨41, #[val0, .int .i64 6], .bool true⟩
def kn152 : Kn := ⟨41, #[val0, .int .i64 7], .bool true⟩
def kn153 : Kn := ⟨41, #[val0, .int .i64 8], .bool true⟩
def kn154 : Kn := ⟨41, #[val0, .int .i64 9], .bool true⟩
def kn155 : Kn := ⟨41, #[val0, .int .i64 10], .bool true⟩
def kn156 : Kn := ⟨41, #[val0, .int .i64 11], .bool true⟩
def kn157 : Kn := ⟨41, #[val0, .int .i64 12], .bool true⟩
def kn158 : Kn := ⟨41, #[val0, .int .i64 13], .bool true⟩
theorem kn0_run (t : TypeId) (G : Nat → Option Obj) : outEq kn0.v (run0 Tryd.prog (ftOf Tryd.prog) (fun _ _ => none) G 100000 (.fn kn0.f kn0.args) (H0g Tryd.prog (gsT t))) = true := by kernel_rfl
theorem kn0_ok {t : TypeId} {w : World} (hw : GOk Tryd.prog (gsT t) w) : KnOk Tryd.prog w kn0 := KnOk.run env (by kernel_rfl) (fun G => kn0_run t G) hw
theorem kn1_run (t : TypeId) (G : Nat → Option Obj) : outEq kn1.v (run0 Tryd.prog (ftOf Tryd.prog) (fun _ _ => none) G 100000 (.fn kn1.f kn1.args) (H0g Tryd.prog (gsT t))) = true := by kernel_rfl
theorem kn1_ok {t : TypeId} {w : World} (hw : GOk Tryd.prog (gsT t) w) : KnOk Tryd.prog w kn1 := KnOk.run env (by kernel_rfl) (fun G => kn1_run t G) hw
theorem kn2_run (t : TypeId) (G : Nat → Option Obj) : outEq kn2.v (run0 Tryd.prog (ftOf Tryd.prog) (fun _ _ => none) G 100000 (.fn kn2.f kn2.args) (H0g Tryd.prog (gsT t))) = true := by kernel_rfl
theorem kn2_ok {t : TypeId} {w : World} (hw : GOk Tryd.prog (gsT t) w) : KnOk Tryd.prog w kn2 := KnOk.run env (by kernel_rfl) (fun G => kn2_run t G) hw
theorem kn3_run (t : TypeId) (G : Nat → Option Obj) : outEq kn3.v (run0 Tryd.prog (ftOf Tryd.prog) (fun _ _ => none) G 100000 (.fn kn3.f kn3.args) (H0g Tryd.prog (gsT t))) = true := by kernel_rfl
theorem kn3_ok {t : TypeId} {w : World} (hw : GOk Tryd.prog (gsT t) w) : KnOk Tryd.prog w kn3 := KnOk.run env (by kernel_rfl) (fun G => kn3_run t G) hw
theorem kn4_run (t : TypeId) (G : Nat → Option Obj) : outEq kn4.v (run0 Tryd.prog (ftOf Tryd.prog) (fun _ _ => none) G 100000 (.fn kn4.f kn4.args) (H0g Tryd.prog (gsT t))) = true := by kernel_rfl
theorem kn4_ok {t : TypeId} {w : World} (hw : GOk Tryd.prog (gsT t) w) : KnOk Tryd.prog w kn4 := KnOk.run env (by kernel_rfl) (fun G => kn4_run t G) hw
theorem kn5_run (t : TypeId) (G : Nat → Option Obj) : outEq kn5.v (run0 Tryd.prog (ftOf Tryd.prog) (fun _ _ => none) G 100000 (.fn kn5.f kn5.args) (H0g Tryd.prog (gsT t))) = true := by kernel_rfl
theorem kn5_ok {t : TypeId} {w : World} (hw : GOk Tryd.prog (gsT t) w) : KnOk Tryd.prog w kn5 := KnOk.run env (by kernel_rfl) (fun G => kn5_run t G) hw
theorem kn6_run (t : TypeId) (G : Nat → Option Obj) : outEq kn6.v (run0 Tryd.prog (ftOf Tryd.prog) (fun _ _ => none) G 100000 (.fn kn6.f kn6.args) (H0g Tryd.prog (gsT t))) = true := by kernel_rfl
theorem kn6_ok {t : TypeId} {w : World} (hw : GOk Tryd.prog (gsT t) w) : KnOk Tryd.prog w kn6 := KnOk.run env (by kernel_rfl) (fun G => kn6_run t G) hw
theorem kn7_run (t : TypeId) (G : Nat → Option Obj) : outEq kn7.v (run0 Tryd.prog (ftOf Tryd.prog) (fun _ _ => none) G 100000 (.fn kn7.f kn7.args) (H0g Tryd.prog (gsT t))) = true := by kernel_rfl
theorem kn7_ok {t : TypeId} {w : World} (hw : GOk Tryd.prog (gsT t) w) : KnOk Tryd.prog w kn7 := KnOk.run env (by kernel_rfl) (fun G => kn7_run t G) hw
theorem kn8_run (t : TypeId) (G : Nat → Option Obj) : outEq kn8.v (run0 Tryd.prog (ftOf Tryd.prog) (fun _ _ => none) G 100000 (.fn kn8.f kn8.args) (H0g Tryd.prog (gsT t))) = true := by kernel_rfl
theorem kn8_ok {t : TypeId} {w : World} (hw : GOk Tryd.prog (gsT t) w) : KnOk Tryd.prog w kn8 := KnOk.run env (by kernel_rfl) (fun G => kn8_run t G) hw
theorem kn9_run (t : TypeId) (G : Nat → Option Obj) : outEq kn9.v (run0 Tryd.prog (ftOf Tryd.prog) (fun _ _ => none) G 100000 (.fn kn9.f kn9.args) (H0g Tryd.prog (gsT t))) = true := by kernel_rfl
theorem kn9_ok {t : TypeId} {w : World} (hw : GOk Tryd.prog (gsT t) w) : KnOk Tryd.prog w kn9 := KnOk.run env (by kernel_rfl) (fun G => kn9_run t G) hw
theorem kn10_run (t : TypeId) (G : Nat → Option Obj) : outEq kn10.v (run0 Tryd.prog (ftOf Tryd.prog) (fun _ _ => none) G 100000 (.fn kn10.f kn10.args) (H0g Tryd.prog (gsT t))) = true := by kernel_rfl
theorem kn10_ok {t : TypeId} {w : World} (hw : GOk Tryd.prog (gsT t) w) : KnOk Tryd.prog w kn10 := KnOk.run env (by kernel_rfl) (fun G => kn10_run t G) hw
theorem kn11_run (t : TypeId) (G : Nat → Option Obj) : outEq kn11.v (run0 Tryd.prog (ftOf Tryd.prog) (fun _ _ => none) G 100000 (.fn kn11.f kn11.args) (H0g Tryd.prog (gsT t))) = true := by kernel_rfl
theorem kn11_ok {t : TypeId} {w : World} (hw : GOk Tryd.prog (gsT t) w) : KnOk Tryd.prog w kn11 := KnOk.run env (by kernel_rfl) (fun G => kn11_run t G) hw
theorem kn12_run (t : TypeId) (G : Nat → Option Obj) : outEq kn12.v (run0 Tryd.prog (ftOf Tryd.prog) (fun _ _ => none) G 100000 (.fn kn12.f kn12.args) (H0g Tryd.prog (gsT t))) = true := by kernel_rfl
theorem kn12_ok {t : TypeId} {w : World} (hw : GOk Tryd.prog (gsT t) w) : KnOk Tryd.prog w kn12 := KnOk.run env (by kernel_rfl) (fun G => kn12_run t G) hw
theorem kn13_run (t : TypeId) (G : Nat → Option Obj) : outEq kn13.v (run0 Tryd.prog (ftOf Tryd.prog) (fun _ _ => none) G 100000 (.fn kn13.f kn13.args) (H0g Tryd.prog (gsT t))) = true := by kernel_rfl
theorem kn13_ok {t : TypeId} {w : World} (hw : GOk Tryd.prog (gsT t) w) : KnOk Tryd.prog w kn13 := KnOk.run env (by kernel_rfl) (fun G => kn13_run t G) hw
theorem kn14_run (t : TypeId) (G : Nat → Option Obj) : outEq kn14.v (run0 Tryd.prog (ftOf Tryd.prog) (fun _ _ => none) G 100000 (.fn kn14.f kn14.args) (H0g Tryd.prog (gsT t))) = true := by kernel_rfl
theorem kn14_ok {t : TypeId} {w : World} (hw : GOk Tryd.prog (gsT t) w) : KnOk Tryd.prog w kn14 := KnOk.run env (by kernel_rfl) (fun G => kn14_run t G) hw
theorem kn15_run (t : TypeId) (G : Nat → Option Obj) : outEq kn15.v (run0 Tryd.prog (ftOf Tryd.prog) (fun _ _ => none) G 100000 (.fn kn15.f kn15.args) (H0g Tryd.prog (gsT t))) = true := by kernel_rfl
theorem kn15_ok {t : TypeId} {w : World} (hw : GOk Tryd.prog (gsT t) w) : KnOk Tryd.prog w kn15 := KnOk.run env (by kernel_rfl) (fun G => kn15_run t G) hw
theorem kn16_run (t : TypeId) (G : Nat → Option Obj) : outEq kn16.v (run0 Tryd.prog (ftOf Tryd.prog) (fun _ _ => none) G 100000 (.fn kn16.f kn16.args) (H0g Tryd.prog (gsT t))) = true := by kernel_rfl
theorem kn16_ok {t : TypeId} {w : World} (hw : GOk Tryd.prog (gsT t) w) : KnOk Tryd.prog w kn16 := KnOk.run env (by kernel_rfl) (fun G => kn16_run t G) hw
theorem kn17_run (t : TypeId) (G : Nat → Option Obj) : outEq kn17.v (run0 Tryd.prog (ftOf Tryd.prog) (fun _ _ => none) G 100000 (.fn kn17.f kn17.args) (H0g Tryd.prog (gsT t))) = true := by kernel_rfl
theorem kn17_ok {t : TypeId} {w : World} (hw : GOk Tryd.prog (gsT t) w) : KnOk Tryd.prog w kn17 := KnOk.run env (by kernel_rfl) (fun G => kn17_run t G) hw
theorem kn18_run (t : TypeId) (G : Nat → Option Obj) : outEq kn18.v (run0 Tryd.prog (ftOf Tryd.prog) (fun _ _ => none) G 100000 (.fn kn18.f kn18.args) (H0g Tryd.prog (gsT t))) = true := by kernel_rfl
theorem kn18_ok {t : TypeId} {w : World} (hw : GOk Tryd.prog (gsT t) w) : KnOk Tryd.prog w kn18 := KnOk.run env (by kernel_rfl) (fun G => kn18_run t G) hw
theorem kn19_run (t : TypeId) (G : Nat → Option Obj) : outEq kn19.v (run0 Tryd.prog (ftOf Tryd.prog) (fun _ _ => none) G 100000 (.fn kn19.f kn19.args) (H0g Tryd.prog (gsT t))) = true := by kernel_rfl
theorem kn19_ok {t : TypeId} {w : World} (hw : GOk Tryd.prog (gsT t) w) : KnOk Tryd.prog w kn19 := KnOk.run env (by kernel_rfl) (fun G => kn19_run t G) hw
theorem kn20_run (t : TypeId) (G : Nat → Option Obj) : outEq kn20.v (run0 Tryd.prog (ftOf Tryd.prog) (fun _ _ => none) G 100000 (.fn kn20.f kn20.args) (H0g Tryd.prog (gsT t))) = true := by kernel_rfl
theorem kn20_ok {t : TypeId} {w : World} (hw : GOk Tryd.prog (gsT t) w) : KnOk Tryd.prog w kn20 := KnOk.run env (by kernel_rfl) (fun G => kn20_run t G) hw
theorem kn21_run (t : TypeId) (G : Nat → Option Obj) : outEq kn21.v (run0 Tryd.prog (ftOf Tryd.prog) (fun _ _ => none) G 100000 (.fn kn21.f kn21.args) (H0g Tryd.prog (gsT t))) = true := by kernel_rfl
theorem kn21_ok {t : TypeId} {w : World} (hw : GOk Tryd.prog (gsT t) w) : KnOk Tryd.prog w kn21 := KnOk.run env (by kernel_rfl) (fun G => kn21_run t G) hw
theorem kn22_run (t : TypeId) (G : Nat → Option Obj) : outEq kn22.v (run0 Tryd.prog (ftOf Tryd.prog) (fun _ _ => none) G 100000 (.fn kn22.f kn22.args) (H0g Tryd.prog (gsT t))) = true := by kernel_rfl
theorem kn22_ok {t : TypeId} {w : World} (hw : GOk Tryd.prog (gsT t) w) : KnOk Tryd.prog w kn22 := KnOk.run env (by kernel_rfl) (fun G => kn22_run t G) hw
theorem kn23_run (t : TypeId) (G : Nat → Option Obj) : outEq kn23.v (run0 Tryd.prog (ftOf Tryd.prog) (fun _ _ => none) G 100000 (.fn kn23.f kn23.args) (H0g Tryd.prog (gsT t))) = true := by kernel_rfl
theorem kn23_ok {t : TypeId} {w : World} (hw : GOk Tryd.prog (gsT t) w) : KnOk Tryd.prog w kn23 := KnOk.run env (by kernel_rfl) (fun G => kn23_run t G) hw
theorem kn24_run (t : TypeId) (G : Nat → Option Obj) : outEq kn24.v (run0 Tryd.prog (ftOf Tryd.prog) (fun _ _ => none) G 100000 (.fn kn24.f kn24.args) (H0g Tryd.prog (gsT t))) = true := by kernel_rfl
theorem kn24_ok {t : TypeId} {w : World} (hw : GOk Tryd.prog (gsT t) w) : KnOk Tryd.prog w kn24 := KnOk.run env (by kernel_rfl) (fun G => kn24_run t G) hw
theorem kn25_run (t : TypeId) (G : Nat → Option Obj) : outEq kn25.v (run0 Tryd.prog (ftOf Tryd.prog) (fun _ _ => none) G 100000 (.fn kn25.f kn25.args) (H0g Tryd.prog (gsT t))) = true := by kernel_rfl
theorem kn25_ok {t : TypeId} {w : World} (hw : GOk Tryd.prog (gsT t) w) : KnOk Tryd.prog w kn25 := KnOk.run env (by kernel_rfl) (fun G => kn25_run t G) hw
theorem kn26_run (t : TypeId) (G : Nat → Option Obj) : outEq kn26.v (run0 Tryd.prog (ftOf Tryd.prog) (fun _ _ => none) G 100000 (.fn kn26.f kn26.args) (H0g Tryd.prog (gsT t))) = true := by kernel_rfl
theorem kn26_ok {t : TypeId} {w : World} (hw : GOk Tryd.prog (gsT t) w) : KnOk Tryd.prog w kn26 := KnOk.run env (by kernel_rfl) (fun G => kn26_run t G) hw
theorem kn27_run (t : TypeId) (G : Nat → Option Obj) : outEq kn27.v (run0 Tryd.prog (ftOf Tryd.prog) (fun _ _ => none) G 100000 (.fn kn27.f kn27.args) (H0g Tryd.prog (gsT t))) = true := by kernel_rfl
theorem kn27_ok {t : TypeId} {w : World} (hw : GOk Tryd.prog (gsT t) w) : KnOk Tryd.prog w kn27 := KnOk.run env (by kernel_rfl) (fun G => kn27_run t G) hw
theorem kn28_run (t : TypeId) (G : Nat → Option Obj) : outEq kn28.v (run0 Tryd.prog (ftOf Tryd.prog) (fun _ _ => none) G 100000 (.fn kn28.f kn28.args) (H0g Tryd.prog (gsT t))) = true := by kernel_rfl
theorem kn28_ok {t : TypeId} {w : World} (hw : GOk Tryd.prog (gsT t) w) : KnOk Tryd.prog w kn28 := KnOk.run env (by kernel_rfl) (fun G => kn28_run t G) hw
theorem kn29_run (t : TypeId) (G : Nat → Option Obj) : outEq kn29.v (run0 Tryd.prog (ftOf Tryd.prog) (fun _ _ => none) G 100000 (.fn kn29.f kn29.args) (H0g Tryd.prog (gsT t))) = true := by kernel_rfl
theorem kn29_ok {t : TypeId} {w : World} (hw : GOk Tryd.prog (gsT t) w) : KnOk Tryd.prog w kn29 := KnOk.run env (by kernel_rfl) (fun G => kn29_run t G) hw
theorem kn30_run (t : TypeId) (G : Nat → Option Obj) : outEq kn30.v (run0 Tryd.prog (ftOf Tryd.prog) (fun _ _ => none) G 100000 (.fn kn30.f kn30.args) (H0g Tryd.prog (gsT t))) = true := by kernel_rfl
theorem kn30_ok {t : TypeId} {w : World} (hw : GOk Tryd.prog (gsT t) w) : KnOk Tryd.prog w kn30 := KnOk.run env (by kernel_rfl) (fun G => kn30_run t G) hw
theorem kn31_run (t : TypeId) (G : Nat → Option Obj) : outEq kn31.v (run0 Tryd.prog (ftOf Tryd.prog) (fun _ _ => none) G 100000 (.fn kn31.f kn31.args) (H0g Tryd.prog (gsT t))) = true := by kernel_rfl
theorem kn31_ok {t : TypeId} {w : World} (hw : GOk Tryd.prog (gsT t) w) : KnOk Tryd.prog w kn31 := KnOk.run env (by kernel_rfl) (fun G => kn31_run t G) hw
theorem kn32_run (t : TypeId) (G : Nat → Option Obj) : outEq kn32.v (run0 Tryd.prog (ftOf Tryd.prog) (fun _ _ => none) G 100000 (.fn kn32.f kn32.args) (H0g Tryd.prog (gsT t))) = true := by kernel_rfl
theorem kn32_ok {t : TypeId} {w : World} (hw : GOk Tryd.prog (gsT t) w) : KnOk Tryd.prog w kn32 := KnOk.run env (by kernel_rfl) (fun G => kn32_run t G) hw
theorem kn33_run (t : TypeId) (G : Nat → Option Obj) : outEq kn33.v (run0 Tryd.prog (ftOf Tryd.prog) (fun _ _ => none) G 100000 (.fn kn33.f kn33.args) (H0g Tryd.prog (gsT t))) = true := by kernel_rfl
theorem kn33_ok {t : TypeId} {w : World} (hw : GOk Tryd.prog (gsT t) w) : KnOk Tryd.prog w kn33 := KnOk.run env (by kernel_rfl) (fun G => kn33_run t G) hw
theorem kn34_run (t : TypeId) (G : Nat → Option Obj) : outEq kn34.v (run0 Tryd.prog (ftOf Tryd.prog) (fun _ _ => none) G 100000 (.fn kn34.f kn34.args) (H0g Tryd.prog (gsT t))) = true := by kernel_rfl
theorem kn34_ok {t : TypeId} {w : World} (hw : GOk Tryd.prog (gsT t) w) : KnOk Tryd.prog w kn34 := KnOk.run env (by kernel_rfl) (fun G => kn34_run t G) hw
theorem kn35_run (t : TypeId) (G : Nat → Option Obj) : outEq kn35.v (run0 Tryd.prog (ftOf Tryd.prog) (fun _ _ => none) G 100000 (.fn kn35.f kn35.args) (H0g Tryd.prog (gsT t))) = true := by kernel_rfl
theorem kn35_ok {t : TypeId} {w : World} (hw : GOk Tryd.prog (gsT t) w) : KnOk Tryd.prog w kn35 := KnOk.run env (by kernel_rfl) (fun G => kn35_run t G) hw
theorem kn36_run (t : TypeId) (G : Nat → Option Obj) : outEq kn36.v (run0 Tryd.prog (ftOf Tryd.prog) (fun _ _ => none) G 100000 (.fn kn36.f kn36.args) (H0g Tryd.prog (gsT t))) = true := by kernel_rfl
theorem kn36_ok {t : TypeId} {w : World} (hw : GOk Tryd.prog (gsT t) w) : KnOk Tryd.prog w kn36 := KnOk.run env (by kernel_rfl) (fun G => kn36_run t G) hw
theorem kn37_run (t : TypeId) (G : Nat → Option Obj) : outEq kn37.v (run0 Tryd.prog (ftOf Tryd.prog) (fun _ _ => none) G 100000 (.fn kn37.f kn37.args) (H0g Tryd.prog (gsT t))) = true := by kernel_rfl
theorem kn37_ok {t : TypeId} {w : World} (hw : GOk Tryd.prog (gsT t) w) : KnOk Tryd.prog w kn37 := KnOk.run env (by kernel_rfl) (fun G => kn37_run t G) hw
theorem kn38_run (t : TypeId) (G : Nat → Option Obj) : outEq kn38.v (run0 Tryd.prog (ftOf Tryd.prog) (fun _ _ => none) G 100000 (.fn kn38.f kn38.args) (H0g Tryd.prog (gsT t))) = true := by kernel_rfl
theorem kn38_ok {t : TypeId} {w : World} (hw : GOk Tryd.prog (gsT t) w) : KnOk Tryd.prog w kn38 := KnOk.run env (by kernel_rfl) (fun G => kn38_run t G) hw
theorem kn39_run (t : TypeId) (G : Nat → Option Obj) : outEq kn39.v (run0 Tryd.prog (ftOf Tryd.prog) (fun _ _ => none) G 100000 (.fn kn39.f kn39.args) (H0g Tryd.prog (gsT t))) = true := by kernel_rfl
theorem kn39_ok {t : TypeId} {w : World} (hw : GOk Tryd.prog (gsT t) w) : KnOk Tryd.prog w kn39 := KnOk.run env (by kernel_rfl) (fun G => kn39_run t G) hw
theorem kn40_run (t : TypeId) (G : Nat → Option Obj) : outEq kn40.v (run0 Tryd.prog (ftOf Tryd.prog) (fun _ _ => none) G 100000 (.fn kn40.f kn40.args) (H0g Tryd.prog (gsT t))) = true := by kernel_rfl
theorem kn40_ok {t : TypeId} {w : World} (hw : GOk Tryd.prog (gsT t) w) : KnOk Tryd.prog w kn40 := KnOk.run env (by kernel_rfl) (fun G => kn40_run t G) hw
theorem kn41_run (t : TypeId) (G : Nat → Option Obj) : outEq kn41.v (run0 Tryd.prog (ftOf Tryd.prog) (fun _ _ => none) G 100000 (.fn kn41.f kn41.args) (H0g Tryd.prog (gsT t))) = true := by kernel_rfl
theorem kn41_ok {t : TypeId} {w : World} (hw : GOk Tryd.prog (gsT t) w) : KnOk Tryd.prog w kn41 := KnOk.run env (by kernel_rfl) (fun G => kn41_run t G) hw
theorem kn42_run (t : TypeId) (G : Nat → Option Obj) : outEq kn42.v (run0 Tryd.prog (ftOf Tryd.prog) (fun _ _ => none) G 100000 (.fn kn42.f kn42.args) (H0g Tryd.prog (gsT t))) = true := by kernel_rfl
theorem kn42_ok {t : TypeId} {w : World} (hw : GOk Tryd.prog (gsT t) w) : KnOk Tryd.prog w kn42 := KnOk.run env (by kernel_rfl) (fun G => kn42_run t G) hw
theorem kn43_run (t : TypeId) (G : Nat → Option Obj) : outEq kn43.v (run0 Tryd.prog (ftOf Tryd.prog) (fun _ _ => none) G 100000 (.fn kn43.f kn43.args) (H0g Tryd.prog (gsT t))) = true := by kernel_rfl
theorem kn43_ok {t : TypeId} {w : World} (hw : GOk Tryd.prog (gsT t) w) : KnOk Tryd.prog w kn43 := KnOk.run env (by kernel_rfl) (fun G => kn43_run t G) hw
theorem kn44_run (t : TypeId) (G : Nat → Option Obj) : outEq kn44.v (run0 Tryd.prog (ftOf Tryd.prog) (fun _ _ => none) G 100000 (.fn kn44.f kn44.args) (H0g Tryd.prog (gsT t))) = true := by kernel_rfl
theorem kn44_ok {t : TypeId} {w : World} (hw : GOk Tryd.prog (gsT t) w) : KnOk Tryd.prog w kn44 := KnOk.run env (by kernel_rfl) (fun G => kn44_run t G) hw
theorem kn45_run (t : TypeId) (G : Nat → Option Obj) : outEq kn45.v (run0 Tryd.prog (ftOf Tryd.prog) (fun _ _ => none) G 100000 (.fn kn45.f kn45.args) (H0g Tryd.prog (gsT t))) = true := by kernel_rfl
theorem kn45_ok {t : TypeId} {w : World} (hw : GOk Tryd.prog (gsT t) w) : KnOk Tryd.prog w kn45 := KnOk.run env (by kernel_rfl) (fun G => kn45_run t G) hw
theorem kn46_run (t : TypeId) (G : Nat → Option Obj) : outEq kn46.v (run0 Tryd.prog (ftOf Tryd.prog) (fun _ _ => none) G 100000 (.fn kn46.f kn46.args) (H0g Tryd.prog (gsT t))) = true := by kernel_rfl
theorem kn46_ok {t : TypeId} {w : World} (hw : GOk Tryd.prog (gsT t) w) : KnOk Tryd.prog w kn46 := KnOk.run env (by kernel_rfl) (fun G => kn46_run t G) hw
theorem kn47_run (t : TypeId) (G : Nat → Option Obj) : outEq kn47.v (run0 Tryd.prog (ftOf Tryd.prog) (fun _ _ => none) G 100000 (.fn kn47.f kn47.args) (H0g Tryd.prog (gsT t))) = true := by kernel_rfl
theorem kn47_ok {t : TypeId} {w : World} (hw : GOk Tryd.prog (gsT t) w) : KnOk Tryd.prog w kn47 := KnOk.run env (by kernel_rfl) (fun G => kn47_run t G) hw
theorem kn48_run (t : TypeId) (G : Nat → Option Obj) : outEq kn48.v (run0 Tryd.prog (ftOf Tryd.prog) (fun _ _ => none) G 100000 (.fn kn48.f kn48.args) (H0g Tryd.prog (gsT t))) = true := by kernel_rfl
theorem kn48_ok {t : TypeId} {w : World} (hw : GOk Tryd.prog (gsT t) w) : KnOk Tryd.prog w kn48 := KnOk.run env (by kernel_rfl) (fun G => kn48_run t G) hw
theorem kn49_run (t : TypeId) (G : Nat → Option Obj) : outEq kn49.v (run0 Tryd.prog (ftOf Tryd.prog) (fun _ _ => none) G 100000 (.fn kn49.f kn49.args) (H0g Tryd.prog (gsT t))) = true := by kernel_rfl
theorem kn49_ok {t : TypeId} {w : World} (hw : GOk Tryd.prog (gsT t) w) : KnOk Tryd.prog w kn49 := KnOk.run env (by kernel_rfl) (fun G => kn49_run t G) hw
theorem kn50_run (t : TypeId) (G : Nat → Option Obj) : outEq kn50.v (run0 Tryd.prog (ftOf Tryd.prog) (fun _ _ => none) G 100000 (.fn kn50.f kn50.args) (H0g Tryd.prog (gsT t))) = true := by kernel_rfl
theorem kn50_ok {t : TypeId} {w : World} (hw : GOk Tryd.prog (gsT t) w) : KnOk Tryd.prog w kn50 := KnOk.run env (by kernel_rfl) (fun G => kn50_run t G) hw
theorem kn51_run (t : TypeId) (G : Nat → Option Obj) : outEq kn51.v (run0 Tryd.prog (ftOf Tryd.prog) (fun _ _ => none) G 100000 (.fn kn51.f kn51.args) (H0g Tryd.prog (gsT t))) = true := by kernel_rfl
theorem kn51_ok {t : TypeId} {w : World} (hw : GOk Tryd.prog (gsT t) w) : KnOk Tryd.prog w kn51 := KnOk.run env (by kernel_rfl) (fun G => kn51_run t G) hw
theorem kn52_run (t : TypeId) (G : Nat → Option Obj) : outEq kn52.v (run0 Tryd.prog (ftOf Tryd.prog) (fun _ _ => none) G 100000 (.fn kn52.f kn52.args) (H0g Tryd.prog (gsT t))) = true := by kernel_rfl
theorem kn52_ok {t : TypeId} {w : World} (hw : GOk Tryd.prog (gsT t) w) : KnOk Tryd.prog w kn52 := KnOk.run env (by kernel_rfl) (fun G => kn52_run t G) hw
theorem kn53_run (t : TypeId) (G : Nat → Option Obj) : outEq kn53.v (run0 Tryd.prog (ftOf Tryd.prog) (fun _ _ => none) G 100000 (.fn kn53.f kn53.args) (H0g Tryd.prog (gsT t))) = true := by kernel_rfl
theorem kn53_ok {t : TypeId} {w : World} (hw : GOk Tryd.prog (gsT t) w) : KnOk Tryd.prog w kn53 := KnOk.run env (by kernel_rfl) (fun G => kn53_run t G) hw
theorem kn54_run (t : TypeId) (G : Nat → Option Obj) : outEq kn54.v (run0 Tryd.prog (ftOf Tryd.prog) (fun _ _ => none) G 100000 (.fn kn54.f kn54.args) (H0g Tryd.prog (gsT t))) = true := by kernel_rfl
theorem kn54_ok {t : TypeId} {w : World} (hw : GOk Tryd.prog (gsT t) w) : KnOk Tryd.prog w kn54 := KnOk.run env (by kernel_rfl) (fun G => kn54_run t G) hw
theorem kn55_run (t : TypeId) (G : Nat → Option Obj) : outEq kn55.v (run0 Tryd.prog (ftOf Tryd.prog) (fun _ _ => none) G 100000 (.fn kn55.f kn55.args) (H0g Tryd.prog (gsT t))) = true := by kernel_rfl
theorem kn55_ok {t : TypeId} {w : World} (hw : GOk Tryd.prog (gsT t) w) : KnOk Tryd.prog w kn55 := KnOk.run env (by kernel_rfl) (fun G => kn55_run t G) hw
theorem kn56_run (t : TypeId) (G : Nat → Option Obj) : outEq kn56.v (run0 Tryd.prog (ftOf Tryd.prog) (fun _ _ => none) G 100000 (.fn kn56.f kn56.args) (H0g Tryd.prog (gsT t))) = true := by kernel_rfl
theorem kn56_ok {t : TypeId} {w : World} (hw : GOk Tryd.prog (gsT t) w) : KnOk Tryd.prog w kn56 := KnOk.run env (by kernel_rfl) (fun G => kn56_run t G) hw
theorem kn57_run (t : TypeId) (G : Nat → Option Obj) : outEq kn57.v (run0 Tryd.prog (ftOf Tryd.prog) (fun _ _ => none) G 100000 (.fn kn57.f kn57.args) (H0g Tryd.prog (gsT t))) = true := by kernel_rfl
theorem kn57_ok {t : TypeId} {w : World} (hw : GOk Tryd.prog (gsT t) w) : KnOk Tryd.prog w kn57 := KnOk.run env (by kernel_rfl) (fun G => kn57_run t G) hw
theorem kn58_run (t : TypeId) (G : Nat → Option Obj) : outEq kn58.v (run0 Tryd.prog (ftOf Tryd.prog) (fun _ _ => none) G 100000 (.fn kn58.f kn58.args) (H0g Tryd.prog (gsT t))) = true := by kernel_rfl
theorem kn58_ok {t : TypeId} {w : World} (hw : GOk Tryd.prog (gsT t) w) : KnOk Tryd.prog w kn58 := KnOk.run env (by kernel_rfl) (fun G => kn58_run t G) hw
theorem kn59_run (t : TypeId) (G : Nat → Option Obj) : outEq kn59.v (run0 Tryd.prog (ftOf Tryd.prog) (fun _ _ => none) G 100000 (.fn kn59.f kn59.args) (H0g Tryd.prog (gsT t))) = true := by kernel_rfl
theorem kn59_ok {t : TypeId} {w : World} (hw : GOk Tryd.prog (gsT t) w) : KnOk Tryd.prog w kn59 := KnOk.run env (by kernel_rfl) (fun G => kn59_run t G) hw
theorem kn60_run (t : TypeId) (G : Nat → Option Obj) : outEq kn60.v (run0 Tryd.prog (ftOf Tryd.prog) (fun _ _ => none) G 100000 (.fn kn60.f kn60.args) (H0g Tryd.prog (gsT t))) = true := by kernel_rfl
theorem kn60_ok {t : TypeId} {w : World} (hw : GOk Tryd.prog (gsT t) w) : KnOk Tryd.prog w kn60 := KnOk.run env (by kernel_rfl) (fun G => kn60_run t G) hw
theorem kn61_run (t : TypeId) (G : Nat → Option Obj) : outEq kn61.v (run0 Tryd.prog (ftOf Tryd.prog) (fun _ _ => none) G 100000 (.fn kn61.f kn61.args) (H0g Tryd.prog (gsT t))) = true := by kernel_rfl
theorem kn61_ok {t : TypeId} {w : World} (hw : GOk Tryd.prog (gsT t) w) : KnOk Tryd.prog w kn61 := KnOk.run env (by kernel_rfl) (fun G => kn61_run t G) hw
theorem kn62_run (t : TypeId) (G : Nat → Option Obj) : outEq kn62.v (run0 Tryd.prog (ftOf Tryd.prog) (fun _ _ => none) G 100000 (.fn kn62.f kn62.args) (H0g Tryd.prog (gsT t))) = true := by kernel_rfl
theorem kn62_ok {t : TypeId} {w : World} (hw : GOk Tryd.prog (gsT t) w) : KnOk Tryd.prog w kn62 := KnOk.run env (by kernel_rfl) (fun G => kn62_run t G) hw
theorem kn63_run (t : TypeId) (G : Nat → Option Obj) : outEq kn63.v (run0 Tryd.prog (ftOf Tryd.prog) (fun _ _ => none) G 100000 (.fn kn63.f kn63.args) (H0g Tryd.prog (gsT t))) = true := by kernel_rfl
theorem kn63_ok {t : TypeId} {w : World} (hw : GOk Tryd.prog (gsT t) w) : KnOk Tryd.prog w kn63 := KnOk.run env (by kernel_rfl) (fun G => kn63_run t G) hw
theorem kn64_run (t : TypeId) (G : Nat → Option Obj) : outEq kn64.v (run0 Tryd.prog (ftOf Tryd.prog) (fun _ _ => none) G 100000 (.fn kn64.f kn64.args) (H0g Tryd.prog (gsT t))) = true := by kernel_rfl
theorem kn64_ok {t : TypeId} {w : World} (hw : GOk Tryd.prog (gsT t) w) : KnOk Tryd.prog w kn64 := KnOk.run env (by kernel_rfl) (fun G => kn64_run t G) hw
theorem kn65_run (t : TypeId) (G : Nat → Option Obj) : outEq kn65.v (run0 Tryd.prog (ftOf Tryd.prog) (fun _ _ => none) G 100000 (.fn kn65.f kn65.args) (H0g Tryd.prog (gsT t))) = true := by kernel_rfl
theorem kn65_ok {t : TypeId} {w : World} (hw : GOk Tryd.prog (gsT t) w) : KnOk Tryd.prog w kn65 := KnOk.run env (by kernel_rfl) (fun G => kn65_run t G) hw
theorem kn66_run (t : TypeId) (G : Nat → Option Obj) : outEq kn66.v (run0 Tryd.prog (ftOf Tryd.prog) (fun _ _ => none) G 100000 (.fn kn66.f kn66.args) (H0g Tryd.prog (gsT t))) = true := by kernel_rfl
theorem kn66_ok {t : TypeId} {w : World} (hw : GOk Tryd.prog (gsT t) w) : KnOk Tryd.prog w kn66 := KnOk.run env (by kernel_rfl) (fun G => kn66_run t G) hw
theorem kn67_run (t : TypeId) (G : Nat → Option Obj) : outEq kn67.v (run0 Tryd.prog (ftOf Tryd.prog) (fun _ _ => none) G 100000 (.fn kn67.f kn67.args) (H0g Tryd.prog (gsT t))) = true := by kernel_rfl
theorem kn67_ok {t : TypeId} {w : World} (hw : GOk Tryd.prog (gsT t) w) : KnOk Tryd.prog w kn67 := KnOk.run env (by kernel_rfl) (fun G => kn67_run t G) hw
theorem kn68_run (t : TypeId) (G : Nat → Option Obj) : outEq kn68.v (run0 Tryd.prog (ftOf Tryd.prog) (fun _ _ => none) G 100000 (.fn kn68.f kn68.args) (H0g Tryd.prog (gsT t))) = true := by kernel_rfl
theorem kn68_ok {t : TypeId} {w : World} (hw : GOk Tryd.prog (gsT t) w) : KnOk Tryd.prog w kn68 := KnOk.run env (by kernel_rfl) (fun G => kn68_run t G) hw
theorem kn69_run (t : TypeId) (G : Nat → Option Obj) : outEq kn69.v (run0 Tryd.prog (ftOf Tryd.prog) (fun _ _ => none) G 100000 (.fn kn69.f kn69.args) (H0g Tryd.prog (gsT t))) = true := by kernel_rfl
theorem kn69_ok {t : TypeId} {w : World} (hw : GOk Tryd.prog (gsT t) w) : KnOk Tryd.prog w kn69 := KnOk.run env (by kernel_rfl) (fun G => kn69_run t G) hw
theorem kn70_run (t : TypeId) (G : Nat → Option Obj) : outEq kn70.v (run0 Tryd.prog (ftOf Tryd.prog) (fun _ _ => none) G 100000 (.fn kn70.f kn70.args) (H0g Tryd.prog (gsT t))) = true := by kernel_rfl
theorem kn70_ok {t : TypeId} {w : World} (hw : GOk Tryd.prog (gsT t) w) : KnOk Tryd.prog w kn70 := KnOk.run env (by kernel_rfl) (fun G => kn70_run t G) hw
theorem kn71_run (t : TypeId) (G : Nat → Option Obj) : outEq kn71.v (run0 Tryd.prog (ftOf Tryd.prog) (fun _ _ => none) G 100000 (.fn kn71.f kn71.args) (H0g Tryd.prog (gsT t))) = true := by kernel_rfl
theorem kn71_ok {t : TypeId} {w : World} (hw : GOk Tryd.prog (gsT t) w) : KnOk Tryd.prog w kn71 := KnOk.run env (by kernel_rfl) (fun G => kn71_run t G) hw
theorem kn72_run (t : TypeId) (G : Nat → Option Obj) : outEq kn72.v (run0 Tryd.prog (ftOf Tryd.prog) (fun _ _ => none) G 100000 (.fn kn72.f kn72.args) (H0g Tryd.prog (gsT t))) = true := by kernel_rfl
theorem kn72_ok {t : TypeId} {w : World} (hw : GOk Tryd.prog (gsT t) w) : KnOk Tryd.prog w kn72 := KnOk.run env (by kernel_rfl) (fun G => kn72_run t G) hw
theorem kn73_run (t : TypeId) (G : Nat → Option Obj) : outEq kn73.v (run0 Tryd.prog (ftOf Tryd.prog) (fun _ _ => none) G 100000 (.fn kn73.f kn73.args) (H0g Tryd.prog (gsT t))) = true := by kernel_rfl
theorem kn73_ok {t : TypeId} {w : World} (hw : GOk Tryd.prog (gsT t) w) : KnOk Tryd.prog w kn73 := KnOk.run env (by kernel_rfl) (fun G => kn73_run t G) hw
theorem kn74_run (t : TypeId) (G : Nat → Option Obj) : outEq kn74.v (run0 Tryd.prog (ftOf Tryd.prog) (fun _ _ => none) G 100000 (.fn kn74.f kn74.args) (H0g Tryd.prog (gsT t))) = true := by kernel_rfl
theorem kn74_ok {t : TypeId} {w : World} (hw : GOk Tryd.prog (gsT t) w) : KnOk Tryd.prog w kn74 := KnOk.run env (by kernel_rfl) (fun G => kn74_run t G) hw
theorem kn75_run (t : TypeId) (G : Nat → Option Obj) : outEq kn75.v (run0 Tryd.prog (ftOf Tryd.prog) (fun _ _ => none) G 100000 (.fn kn75.f kn75.args) (H0g Tryd.prog (gsT t))) = true := by kernel_rfl
theorem kn75_ok {t : TypeId} {w : World} (hw : GOk Tryd.prog (gsT t) w) : KnOk Tryd.prog w kn75 := KnOk.run env (by kernel_rfl) (fun G => kn75_run t G) hw
theorem kn76_run (t : TypeId) (G : Nat → Option Obj) : outEq kn76.v (run0 Tryd.prog (ftOf Tryd.prog) (fun _ _ => none) G 100000 (.fn kn76.f kn76.args) (H0g Tryd.prog (gsT t))) = true := by kernel_rfl
theorem kn76_ok {t : TypeId} {w : World} (hw : GOk Tryd.prog (gsT t) w) : KnOk Tryd.prog w kn76 := KnOk.run env (by kernel_rfl) (fun G => kn76_run t G) hw
theorem kn77_run (t : TypeId) (G : Nat → Option Obj) : outEq kn77.v (run0 Tryd.prog (ftOf Tryd.prog) (fun _ _ => none) G 100000 (.fn kn77.f kn77.args) (H0g Tryd.prog (gsT t))) = true := by kernel_rfl
theorem kn77_ok {t : TypeId} {w : World} (hw : GOk Tryd.prog (gsT t) w) : KnOk Tryd.prog w kn77 := KnOk.run env (by kernel_rfl) (fun G => kn77_run t G) hw
theorem kn78_run (t : TypeId) (G : Nat → Option Obj) : outEq kn78.v (run0 Tryd.prog (ftOf Tryd.prog) (fun _ _ => none) G 100000 (.fn kn78.f kn78.args) (H0g Tryd.prog (gsT t))) = true := by kernel_rfl
theorem kn78_ok {t : TypeId} {w : World} (hw : GOk Tryd.prog (gsT t) w) : KnOk Tryd.prog w kn78 := KnOk.run env (by kernel_rfl) (fun G => kn78_run t G) hw
theorem kn79_run (t : TypeId) (G : Nat → Option Obj) : outEq kn79.v (run0 Tryd.prog (ftOf Tryd.prog) (fun _ _ => none) G 100000 (.fn kn79.f kn79.args) (H0g Tryd.prog (gsT t))) = true := by kernel_rfl
theorem kn79_ok {t : TypeId} {w : World} (hw : GOk Tryd.prog (gsT t) w) : KnOk Tryd.prog w kn79 := KnOk.run env (by kernel_rfl) (fun G => kn79_run t G) hw
theorem kn80_run (t : TypeId) (G : Nat → Option Obj) : outEq kn80.v (run0 Tryd.prog (ftOf Tryd.prog) (fun _ _ => none) G 100000 (.fn kn80.f kn80.args) (H0g Tryd.prog (gsT t))) = true := by kernel_rfl
theorem kn80_ok {t : TypeId} {w : World} (hw : GOk Tryd.prog (gsT t) w) : KnOk Tryd.prog w kn80 := KnOk.run env (by kernel_rfl) (fun G => kn80_run t G) hw
theorem kn81_run (t : TypeId) (G : Nat → Option Obj) : outEq kn81.v (run0 Tryd.prog (ftOf Tryd.prog) (fun _ _ => none) G 100000 (.fn kn81.f kn81.args) (H0g Tryd.prog (gsT t))) = true := by kernel_rfl
theorem kn81_ok {t : TypeId} {w : World} (hw : GOk Tryd.prog (gsT t) w) : KnOk Tryd.prog w kn81 := KnOk.run env (by kernel_rfl) (fun G => kn81_run t G) hw
theorem kn82_run (t : TypeId) (G : Nat → Option Obj) : outEq kn82.v (run0 Tryd.prog (ftOf Tryd.prog) (fun _ _ => none) G 100000 (.fn kn82.f kn82.args) (H0g Tryd.prog (gsT t))) = true := by kernel_rfl
theorem kn82_ok {t : TypeId} {w : World} (hw : GOk Tryd.prog (gsT t) w) : KnOk Tryd.prog w kn82 := KnOk.run env (by kernel_rfl) (fun G => kn82_run t G) hw
theorem kn83_run (t : TypeId) (G : Nat → Option Obj) : outEq kn83.v (run0 Tryd.prog (ftOf Tryd.prog) (fun _ _ => none) G 100000 (.fn kn83.f kn83.args) (H0g Tryd.prog (gsT t))) = true := by kernel_rfl
theorem kn83_ok {t : TypeId} {w : World} (hw : GOk Tryd.prog (gsT t) w) : KnOk Tryd.prog w kn83 := KnOk.run env (by kernel_rfl) (fun G => kn83_run t G) hw
theorem kn84_run (t : TypeId) (G : Nat → Option Obj) : outEq kn84.v (run0 Tryd.prog (ftOf Tryd.prog) (fun _ _ => none) G 100000 (.fn kn84.f kn84.args) (H0g Tryd.prog (gsT t))) = true := by kernel_rfl
theorem kn84_ok {t : TypeId} {w : World} (hw : GOk Tryd.prog (gsT t) w) : KnOk Tryd.prog w kn84 := KnOk.run env (by kernel_rfl) (fun G => kn84_run t G) hw
theorem kn85_run (t : TypeId) (G : Nat → Option Obj) : outEq kn85.v (run0 Tryd.prog (ftOf Tryd.prog) (fun _ _ => none) G 100000 (.fn kn85.f kn85.args) (H0g Tryd.prog (gsT t))) = true := by kernel_rfl
theorem kn85_ok {t : TypeId} {w : World} (hw : GOk Tryd.prog (gsT t) w) : KnOk Tryd.prog w kn85 := KnOk.run env (by kernel_rfl) (fun G => kn85_run t G) hw
theorem kn86_run (t : TypeId) (G : Nat → Option Obj) : outEq kn86.v (run0 Tryd.prog (ftOf Tryd.prog) (fun _ _ => none) G 100000 (.fn kn86.f kn86.args) (H0g Tryd.prog (gsT t))) = true := by kernel_rfl
theorem kn86_ok {t : TypeId} {w : World} (hw : GOk Tryd.prog (gsT t) w) : KnOk Tryd.prog w kn86 := KnOk.run env (by kernel_rfl) (fun G => kn86_run t G) hw
theorem kn87_run (t : TypeId) (G : Nat → Option Obj) : outEq kn87.v (run0 Tryd.prog (ftOf Tryd.prog) (fun _ _ => none) G 100000 (.fn kn87.f kn87.args) (H0g Tryd.prog (gsT t))) = true := by kernel_rfl
theorem kn87_ok {t : TypeId} {w : World} (hw : GOk Tryd.prog (gsT t) w) : KnOk Tryd.prog w kn87 := KnOk.run env (by kernel_rfl) (fun G => kn87_run t G) hw
theorem kn88_run (t : TypeId) (G : Nat → Option Obj) : outEq kn88.v (run0 Tryd.prog (ftOf Tryd.prog) (fun _ _ => none) G 100000 (.fn kn88.f kn88.args) (H0g Tryd.prog (gsT t))) = true := by kernel_rfl
theorem kn88_ok {t : TypeId} {w : World} (hw : GOk Tryd.prog (gsT t) w) : KnOk Tryd.prog w kn88 := KnOk.run env (by kernel_rfl) (fun G => kn88_run t G) hw
theorem kn89_run (t : TypeId) (G : Nat → Option Obj) : outEq kn89.v (run0 Tryd.prog (ftOf Tryd.prog) (fun _ _ => none) G 100000 (.fn kn89.f kn89.args) (H0g Tryd.prog (gsT t))) = true := by kernel_rfl
theorem kn89_ok {t : TypeId} {w : World} (hw : GOk Tryd.prog (gsT t) w) : KnOk Tryd.prog w kn89 := KnOk.run env (by kernel_rfl) (fun G => kn89_run t G) hw
theorem kn90_run (t : TypeId) (G : Nat → Option Obj) : outEq kn90.v (run0 Tryd.prog (ftOf Tryd.prog) (fun _ _ => none) G 100000 (.fn kn90.f kn90.args) (H0g Tryd.prog (gsT t))) = true := by kernel_rfl
theorem kn90_ok {t : TypeId} {w : World} (hw : GOk Tryd.prog (gsT t) w) : KnOk Tryd.prog w kn90 := KnOk.run env (by kernel_rfl) (fun G => kn90_run t G) hw
theorem kn91_run (t : TypeId) (G : Nat → Option Obj) : outEq kn91.v (run0 Tryd.prog (ftOf Tryd.prog) (fun _ _ => none) G 100000 (.fn kn91.f kn91.args) (H0g Tryd.prog (gsT t))) = true := by kernel_rfl
theorem kn91_ok {t : TypeId} {w : World} (hw : GOk Tryd.prog (gsT t) w) : KnOk Tryd.prog w kn91 := KnOk.run env (by kernel_rfl) (fun G => kn91_run t G) hw
theorem kn92_run (t : TypeId) (G : Nat → Option Obj) : outEq kn92.v (run0 Tryd.prog (ftOf Tryd.prog) (fun _ _ => none) G 100000 (.fn kn92.f kn92.args) (H0g Tryd.prog (gsT t))) = true := by kernel_rfl
theorem kn92_ok {t : TypeId} {w : World} (hw : GOk Tryd.prog (gsT t) w) : KnOk Tryd.prog w kn92 := KnOk.run env (by kernel_rfl) (fun G => kn92_run t G) hw
theorem kn93_run (t : TypeId) (G : Nat → Option Obj) : outEq kn93.v (run0 Tryd.prog (ftOf Tryd.prog) (fun _ _ => none) G 100000 (.fn kn93.f kn93.args) (H0g Tryd.prog (gsT t))) = true := by kernel_rfl
theorem kn93_ok {t : TypeId} {w : World} (hw : GOk Tryd.prog (gsT t) w) : KnOk Tryd.prog w kn93 := KnOk.run env (by kernel_rfl) (fun G => kn93_run t G) hw
theorem kn94_run (t : TypeId) (G : Nat → Option Obj) : outEq kn94.v (run0 Tryd.prog (ftOf Tryd.prog) (fun _ _ => none) G 100000 (.fn kn94.f kn94.args) (H0g Tryd.prog (gsT t))) = true := by kernel_rfl
theorem kn94_ok {t : TypeId} {w : World} (hw : GOk Tryd.prog (gsT t) w) : KnOk Tryd.prog w kn94 := KnOk.run env (by kernel_rfl) (fun G => kn94_run t G) hw
theorem kn95_run (t : TypeId) (G : Nat → Option Obj) : outEq kn95.v (run0 Tryd.prog (ftOf Tryd.prog) (fun _ _ => none) G 100000 (.fn kn95.f kn95.args) (H0g Tryd.prog (gsT t))) = true := by kernel_rfl
theorem kn95_ok {t : TypeId} {w : World} (hw : GOk Tryd.prog (gsT t) w) : KnOk Tryd.prog w kn95 := KnOk.run env (by kernel_rfl) (fun G => kn95_run t G) hw
theorem kn96_run (t : TypeId) (G : Nat → Option Obj) : outEq kn96.v (run0 Tryd.prog (ftOf Tryd.prog) (fun _ _ => none) G 100000 (.fn kn96.f kn96.args) (H0g Tryd.prog (gsT t))) = true := by kernel_rfl
theorem kn96_ok {t : TypeId} {w : World} (hw : GOk Tryd.prog (gsT t) w) : KnOk Tryd.prog w kn96 := KnOk.run env (by kernel_rfl) (fun G => kn96_run t G) hw
theorem kn97_run (t : TypeId) (G : Nat → Option Obj) : outEq kn97.v (run0 Tryd.prog (ftOf Tryd.prog) (fun _ _ => none) G 100000 (.fn kn97.f kn97.args) (H0g Tryd.prog (gsT t))) = true := by kernel_rfl
theorem kn97_ok {t : TypeId} {w : World} (hw : GOk Tryd.prog (gsT t) w) : KnOk Tryd.prog w kn97 := KnOk.run env (by kernel_rfl) (fun G => kn97_run t G) hw
theorem kn98_run (t : TypeId) (G : Nat → Option Obj) : outEq kn98.v (run0 Tryd.prog (ftOf Tryd.prog) (fun _ _ => none) G 100000 (.fn kn98.f kn98.args) (H0g Tryd.prog (gsT t))) = true := by kernel_rfl
theorem kn98_ok {t : TypeId} {w : World} (hw : GOk Tryd.prog (gsT t) w) : KnOk Tryd.prog w kn98 := KnOk.run env (by kernel_rfl) (fun G => kn98_run t G) hw
theorem kn99_run (t : TypeId) (G : Nat → Option Obj) : outEq kn99.v (run0 Tryd.prog (ftOf Tryd.prog) (fun _ _ => none) G 100000 (.fn kn99.f kn99.args) (H0g Tryd.prog (gsT t))) = true := by kernel_rfl
theorem kn99_ok {t : TypeId} {w : World} (hw : GOk Tryd.prog (gsT t) w) : KnOk Tryd.prog w kn99 := KnOk.run env (by kernel_rfl) (fun G => kn99_run t G) hw
theorem kn100_run (t : TypeId) (G : Nat → Option Obj) : outEq kn100.v (run0 Tryd.prog (ftOf Tryd.prog) (fun _ _ => none) G 100000 (.fn kn100.f kn100.args) (H0g Tryd.prog (gsT t))) = true := by kernel_rfl
theorem kn100_ok {t : TypeId} {w : World} (hw : GOk Tryd.prog (gsT t) w) : KnOk Tryd.prog w kn100 := KnOk.run env (by kernel_rfl) (fun G => kn100_run t G) hw
theorem kn101_run (t : TypeId) (G : Nat → Option Obj) : outEq kn101.v (run0 Tryd.prog (ftOf Tryd.prog) (fun _ _ => none) G 100000 (.fn kn101.f kn101.args) (H0g Tryd.prog (gsT t))) = true := by kernel_rfl
theorem kn101_ok {t : TypeId} {w : World} (hw : GOk Tryd.prog (gsT t) w) : KnOk Tryd.prog w kn101 := KnOk.run env (by kernel_rfl) (fun G => kn101_run t G) hw
theorem kn102_run (t : TypeId) (G : Nat → Option Obj) : outEq kn102.v (run0 Tryd.prog (ftOf Tryd.prog) (fun _ _ => none) G 100000 (.fn kn102.f kn102.args) (H0g Tryd.prog (gsT t))) = true := by kernel_rfl
theorem kn102_ok {t : TypeId} {w : World} (hw : GOk Tryd.prog (gsT t) w) : KnOk Tryd.prog w kn102 := KnOk.run env (by kernel_rfl) (fun G => kn102_run t G) hw
theorem kn103_run (t : TypeId) (G : Nat → Option Obj) : outEq kn103.v (run0 Tryd.prog (ftOf Tryd.prog) (fun _ _ => none) G 100000 (.fn kn103.f kn103.args) (H0g Tryd.prog (gsT t))) = true := by kernel_rfl
theorem kn103_ok {t : TypeId} {w : World} (hw : GOk Tryd.prog (gsT t) w) : KnOk Tryd.prog w kn103 := KnOk.run env (by kernel_rfl) (fun G => kn103_run t G) hw
theorem kn104_run (t : TypeId) (G : Nat → Option Obj) : outEq kn104.v (run0 Tryd.prog (ftOf Tryd.prog) (fun _ _ => none) G 100000 (.fn kn104.f kn104.args) (H0g Tryd.prog (gsT t))) = true := by kernel_rfl
theorem kn104_ok {t : TypeId} {w : World} (hw : GOk Tryd.prog (gsT t) w) : KnOk Tryd.prog w kn104 := KnOk.run env (by kernel_rfl) (fun G => kn104_run t G) hw
theorem kn105_run (t : TypeId) (G : Nat → Option Obj) : outEq kn105.v (run0 Tryd.prog (ftOf Tryd.prog) (fun _ _ => none) G 100000 (.fn kn105.f kn105.args) (H0g Tryd.prog (gsT t))) = true := by kernel_rfl
theorem kn105_ok {t : TypeId} {w : World} (hw : GOk Tryd.prog (gsT t) w) : KnOk Tryd.prog w kn105 := KnOk.run env (by kernel_rfl) (fun G => kn105_run t G) hw
theorem kn106_run (t : TypeId) (G : Nat → Option Obj) : outEq kn106.v (run0 Tryd.prog (ftOf Tryd.prog) (fun _ _ => none) G 100000 (.fn kn106.f kn106.args) (H0g Tryd.prog (gsT t))) = true := by kernel_rfl
theorem kn106_ok {t : TypeId} {w : World} (hw : GOk Tryd.prog (gsT t) w) : KnOk Tryd.prog w kn106 := KnOk.run env (by kernel_rfl) (fun G => kn106_run t G) hw
theorem kn107_run (t : TypeId) (G : Nat → Option Obj) : outEq kn107.v (run0 Tryd.prog (ftOf Tryd.prog) (fun _ _ => none) G 100000 (.fn kn107.f kn107.args) (H0g Tryd.prog (gsT t))) = true := by kernel_rfl
theorem kn107_ok {t : TypeId} {w : World} (hw : GOk Tryd.prog (gsT t) w) : KnOk Tryd.prog w kn107 := KnOk.run env (by kernel_rfl) (fun G => kn107_run t G) hw
theorem kn108_run (t : TypeId) (G : Nat → Option Obj) : outEq kn108.v (run0 Tryd.prog (ftOf Tryd.prog) (fun _ _ => none) G 100000 (.fn kn108.f kn108.args) (H0g Tryd.prog (gsT t))) = true := by kernel_rfl
theorem kn108_ok {t : TypeId} {w : World} (hw : GOk Tryd.prog (gsT t) w) : KnOk Tryd.prog w kn108 := KnOk.run env (by kernel_rfl) (fun G => kn108_run t G) hw
theorem kn109_run (t : TypeId) (G : Nat → Option Obj) : outEq kn109.v (run0 Tryd.prog (ftOf Tryd.prog) (fun _ _ => none) G 100000 (.fn kn109.f kn109.args) (H0g Tryd.prog (gsT t))) = true := by kernel_rfl
theorem kn109_ok {t : TypeId} {w : World} (hw : GOk Tryd.prog (gsT t) w) : KnOk Tryd.prog w kn109 := KnOk.run env (by kernel_rfl) (fun G => kn109_run t G) hw
theorem kn110_run (t : TypeId) (G : Nat → Option Obj) : outEq kn110.v (run0 Tryd.prog (ftOf Tryd.prog) (fun _ _ => none) G 100000 (.fn kn110.f kn110.args) (H0g Tryd.prog (gsT t))) = true := by kernel_rfl
theorem kn110_ok {t : TypeId} {w : World} (hw : GOk Tryd.prog (gsT t) w) : KnOk Tryd.prog w kn110 := KnOk.run env (by kernel_rfl) (fun G => kn110_run t G) hw
theorem kn111_run (t : TypeId) (G : Nat → Option Obj) : outEq kn111.v (run0 Tryd.prog (ftOf Tryd.prog) (fun _ _ => none) G 100000 (.fn kn111.f kn111.args) (H0g Tryd.prog (gsT t))) = true := by kernel_rfl
theorem kn111_ok {t : TypeId} {w : World} (hw : GOk Tryd.prog (gsT t) w) : KnOk Tryd.prog w kn111 := KnOk.run env (by kernel_rfl) (fun G => kn111_run t G) hw
theorem kn112_run (t : TypeId) (G : Nat → Option Obj) : outEq kn112.v (run0 Tryd.prog (ftOf Tryd.prog) (fun _ _ => none) G 100000 (.fn kn112.f kn112.args) (H0g Tryd.prog (gsT t))) = true := by kernel_rfl
theorem kn112_ok {t : TypeId} {w : World} (hw : GOk Tryd.prog (gsT t) w) : KnOk Tryd.prog w kn112 := KnOk.run env (by kernel_rfl) (fun G => kn112_run t G) hw
theorem kn113_run (t : TypeId) (G : Nat → Option Obj) : outEq kn113.v (run0 Tryd.prog (ftOf Tryd.prog) (fun _ _ => none) G 100000 (.fn kn113.f kn113.args) (H0g Tryd.prog (gsT t))) = true := by kernel_rfl
theorem kn113_ok {t : TypeId} {w : World} (hw : GOk Tryd.prog (gsT t) w) : KnOk Tryd.prog w kn113 := KnOk.run env (by kernel_rfl) (fun G => kn113_run t G) hw
theorem kn114_run (t : TypeId) (G : Nat → Option Obj) : outEq kn114.v (run0 Tryd.prog (ftOf Tryd.prog) (fun _ _ => none) G 100000 (.fn kn114.f kn114.args) (H0g Tryd.prog (gsT t))) = true := by kernel_rfl
theorem kn114_ok {t : TypeId} {w : World} (hw : GOk Tryd.prog (gsT t) w) : KnOk Tryd.prog w kn114 := KnOk.run env (by kernel_rfl) (fun G => kn114_run t G) hw
theorem kn115_run (t : TypeId) (G : Nat → Option Obj) : outEq kn115.v (run0 Tryd.prog (ftOf Tryd.prog) (fun _ _ => none) G 100000 (.fn kn115.f kn115.args) (H0g Tryd.prog (gsT t))) = true := by kernel_rfl
theorem kn115_ok {t : TypeId} {w : World} (hw : GOk Tryd.prog (gsT t) w) : KnOk Tryd.prog w kn115 := KnOk.run env (by kernel_rfl) (fun G => kn115_run t G) hw
theorem kn116_run (t : TypeId) (G : Nat → Option Obj) : outEq kn116.v (run0 Tryd.prog (ftOf Tryd.prog) (fun _ _ => none) G 100000 (.fn kn116.f kn116.args) (H0g Tryd.prog (gsT t))) = true := by kernel_rfl
theorem kn116_ok {t : TypeId} {w : World} (hw : GOk Tryd.prog (gsT t) w) : KnOk Tryd.prog w kn116 := KnOk.run env (by kernel_rfl) (fun G => kn116_run t G) hw
theorem kn117_run (t : TypeId) (G : Nat → Option Obj) : outEq kn117.v (run0 Tryd.prog (ftOf Tryd.prog) (fun _ _ => none) G 100000 (.fn kn117.f kn117.args) (H0g Tryd.prog (gsT t))) = true := by kernel_rfl
theorem kn117_ok {t : TypeId} {w : World} (hw : GOk Tryd.prog (gsT t) w) : KnOk Tryd.prog w kn117 := KnOk.run env (by kernel_rfl) (fun G => kn117_run t G) hw
theorem kn118_run (t : TypeId) (G : Nat → Option Obj) : outEq kn118.v (run0 Tryd.prog (ftOf Tryd.prog) (fun _ _ => none) G 100000 (.fn kn118.f kn118.args) (H0g Tryd.prog (gsT t))) = true := by kernel_rfl
theorem kn118_ok {t : TypeId} {w : World} (hw : GOk Tryd.prog (gsT t) w) : KnOk Tryd.prog w kn118 := KnOk.run env (by kernel_rfl) (fun G => kn118_run t G) hw
theorem kn119_run (t : TypeId) (G : Nat → Option Obj) : outEq kn119.v (run0 Tryd.prog (ftOf Tryd.prog) (fun _ _ => none) G 100000 (.fn kn119.f kn119.args) (H0g Tryd.prog (gsT t))) = true := by kernel_rfl
theorem kn119_ok {t : TypeId} {w : World} (hw : GOk Tryd.prog (gsT t) w) : KnOk Tryd.prog w kn119 := KnOk.run env (by kernel_rfl) (fun G => kn119_run t G) hw
theorem kn120_run (t : TypeId) (G : Nat → Option Obj) : outEq kn120.v (run0 Tryd.prog (ftOf Tryd.prog) (fun _ _ => none) G 100000 (.fn kn120.f kn120.args) (H0g Tryd.prog (gsT t))) = true := by kernel_rfl
theorem kn120_ok {t : TypeId} {w : World} (hw : GOk Tryd.prog (gsT t) w) : KnOk Tryd.prog w kn120 := KnOk.run env (by kernel_rfl) (fun G => kn120_run t G) hw
theorem kn121_run (t : TypeId) (G : Nat → Option Obj) : outEq kn121.v (run0 Tryd.prog (ftOf Tryd.prog) (fun _ _ => none) G 100000 (.fn kn121.f kn121.args) (H0g Tryd.prog (gsT t))) = true := by kernel_rfl
theorem kn121_ok {t : TypeId} {w : World} (hw : GOk Tryd.prog (gsT t) w) : KnOk Tryd.prog w kn121 := KnOk.run env (by kernel_rfl) (fun G => kn121_run t G) hw
theorem kn122_run (t : TypeId) (G : Nat → Option Obj) : outEq kn122.v (run0 Tryd.prog (ftOf Tryd.prog) (fun _ _ => none) G 100000 (.fn kn122.f kn122.args) (H0g Tryd.prog (gsT t))) = true := by kernel_rfl
theorem kn122_ok {t : TypeId} {w : World} (hw : GOk Tryd.prog (gsT t) w) : KnOk Tryd.prog w kn122 := KnOk.run env (by kernel_rfl) (fun G => kn122_run t G) hw
theorem kn123_run (t : TypeId) (G : Nat → Option Obj) : outEq kn123.v (run0 Tryd.prog (ftOf Tryd.prog) (fun _ _ => none) G 100000 (.fn kn123.f kn123.args) (H0g Tryd.prog (gsT t))) = true := by kernel_rfl
theorem kn123_ok {t : TypeId} {w : World} (hw : GOk Tryd.prog (gsT t) w) : KnOk Tryd.prog w kn123 := KnOk.run env (by kernel_rfl) (fun G => kn123_run t G) hw
theorem kn124_run (t : TypeId) (G : Nat → Option Obj) : outEq kn124.v (run0 Tryd.prog (ftOf Tryd.prog) (fun _ _ => none) G 100000 (.fn kn124.f kn124.args) (H0g Tryd.prog (gsT t))) = true := by kernel_rfl
theorem kn124_ok {t : TypeId} {w : World} (hw : GOk Tryd.prog (gsT t) w) : KnOk Tryd.prog w kn124 := KnOk.run env (by kernel_rfl) (fun G => kn124_run t G) hw
theorem kn125_run (t : TypeId) (G : Nat → Option Obj) : outEq kn125.v (run0 Tryd.prog (ftOf Tryd.prog) (fun _ _ => none) G 100000 (.fn kn125.f kn125.args) (H0g Tryd.prog (gsT t))) = true := by kernel_rfl
theorem kn125_ok {t : TypeId} {w : World} (hw : GOk Tryd.prog (gsT t) w) : KnOk Tryd.prog w kn125 := KnOk.run env (by kernel_rfl) (fun G => kn125_run t G) hw
theorem kn126_run (t : TypeId) (G : Nat → Option Obj) : outEq kn126.v (run0 Tryd.prog (ftOf Tryd.prog) (fun _ _ => none) G 100000 (.fn kn126.f kn126.args) (H0g Tryd.prog (gsT t))) = true := by kernel_rfl
theorem kn126_ok {t : TypeId} {w : World} (hw : GOk Tryd.prog (gsT t) w) : KnOk Tryd.prog w kn126 := KnOk.run env (by kernel_rfl) (fun G => kn126_run t G) hw
theorem kn127_run (t : TypeId) (G : Nat → Option Obj) : outEq kn127.v (run0 Tryd.prog (ftOf Tryd.prog) (fun _ _ => none) G 100000 (.fn kn127.f kn127.args) (H0g Tryd.prog (gsT t))) = true := by kernel_rfl
theorem kn127_ok {t : TypeId} {w : World} (hw : GOk Tryd.prog (gsT t) w) : KnOk Tryd.prog w kn127 := KnOk.run env (by kernel_rfl) (fun G => kn127_run t G) hw
theorem kn128_run (t : TypeId) (G : Nat → Option Obj) : outEq kn128.v (run0 Tryd.prog (ftOf Tryd.prog) (fun _ _ => none) G 100000 (.fn kn128.f kn128.args) (H0g Tryd.prog (gsT t))) = true := by kernel_rfl
theorem kn128_ok {t : TypeId} {w : World} (hw : GOk Tryd.prog (gsT t) w) : KnOk Tryd.prog w kn128 := KnOk.run env (by kernel_rfl) (fun G => kn128_run t G) hw
theorem kn129_run (t : TypeId) (G : Nat → Option Obj) : outEq kn129.v (run0 Tryd.prog (ftOf Tryd.prog) (fun _ _ => none) G 100000 (.fn kn129.f kn129.args) (H0g Tryd.prog (gsT t))) = true := by kernel_rfl
theorem kn129_ok {t : TypeId} {w : World} (hw : GOk Tryd.prog (gsT t) w) : KnOk Tryd.prog w kn129 := KnOk.run env (by kernel_rfl) (fun G => kn129_run t G) hw
theorem kn130_run (t : TypeId) (G : Nat → Option Obj) : outEq kn130.v (run0 Tryd.prog (ftOf Tryd.prog) (fun _ _ => none) G 100000 (.fn kn130.f kn130.args) (H0g Tryd.prog (gsT t))) = true := by kernel_rfl
theorem kn130_ok {t : TypeId} {w : World} (hw : GOk Tryd.prog (gsT t) w) : KnOk Tryd.prog w kn130 := KnOk.run env (by kernel_rfl) (fun G => kn130_run t G) hw
theorem kn131_run (t : TypeId) (G : Nat → Option Obj) : outEq kn131.v (run0 Tryd.prog (ftOf Tryd.prog) (fun _ _ => none) G 100000 (.fn kn131.f kn131.args) (H0g Tryd.prog (gsT t))) = true := by kernel_rfl
theorem kn131_ok {t : TypeId} {w : World} (hw : GOk Tryd.prog (gsT t) w) : KnOk Tryd.prog w kn131 := KnOk.run env (by kernel_rfl) (fun G => kn131_run t G) hw
theorem kn132_run (t : TypeId) (G : Nat → Option Obj) : outEq kn132.v (run0 Tryd.prog (ftOf Tryd.prog) (fun _ _ => none) G 100000 (.fn kn132.f kn132.args) (H0g Tryd.prog (gsT t))) = true := by kernel_rfl
theorem kn132_ok {t : TypeId} {w : World} (hw : GOk Tryd.prog (gsT t) w) : KnOk Tryd.prog w kn132 := KnOk.run env (by kernel_rfl) (fun G => kn132_run t G) hw
theorem kn133_run (t : TypeId) (G : Nat → Option Obj) : outEq kn133.v (run0 Tryd.prog (ftOf Tryd.prog) (fun _ _ => none) G 100000 (.fn kn133.f kn133.args) (H0g Tryd.prog (gsT t))) = true := by kernel_rfl
theorem kn133_ok {t : TypeId} {w : World} (hw : GOk Tryd.prog (gsT t) w) : KnOk Tryd.prog w kn133 := KnOk.run env (by kernel_rfl) (fun G => kn133_run t G) hw
theorem kn134_run (t : TypeId) (G : Nat → Option Obj) : outEq kn134.v (run0 Tryd.prog (ftOf Tryd.prog) (fun _ _ => none) G 100000 (.fn kn134.f kn134.args) (H0g Tryd.prog (gsT t))) = true := by kernel_rfl
theorem kn134_ok {t : TypeId} {w : World} (hw : GOk Tryd.prog (gsT t) w) : KnOk Tryd.prog w kn134 := KnOk.run env (by kernel_rfl) (fun G => kn134_run t G) hw
theorem kn135_run (t : TypeId) (G : Nat → Option Obj) : outEq kn135.v (run0 Tryd.prog (ftOf Tryd.prog) (fun _ _ => none) G 100000 (.fn kn135.f kn135.args) (H0g Tryd.prog (gsT t))) = true := by kernel_rfl
theorem kn135_ok {t : TypeId} {w : World} (hw : GOk Tryd.prog (gsT t) w) : KnOk Tryd.prog w kn135 := KnOk.run env (by kernel_rfl) (fun G => kn135_run t G) hw
theorem kn136_run (t : TypeId) (G : Nat → Option Obj) : outEq kn136.v (run0 Tryd.prog (ftOf Tryd.prog) (fun _ _ => none) G 100000 (.fn kn136.f kn136.args) (H0g Tryd.prog (gsT t))) = true := by kernel_rfl
theorem kn136_ok {t : TypeId} {w : World} (hw : GOk Tryd.prog (gsT t) w) : KnOk Tryd.prog w kn136 := KnOk.run env (by kernel_rfl) (fun G => kn136_run t G) hw
theorem kn137_run (t : TypeId) (G : Nat → Option Obj) : outEq kn137.v (run0 Tryd.prog (ftOf Tryd.prog) (fun _ _ => none) G 100000 (.fn kn137.f kn137.args) (H0g Tryd.prog (gsT t))) = true := by kernel_rfl
theorem kn137_ok {t : TypeId} {w : World} (hw : GOk Tryd.prog (gsT t) w) : KnOk Tryd.prog w kn137 := KnOk.run env (by kernel_rfl) (fun G => kn137_run t G) hw
theorem kn138_run (t : TypeId) (G : Nat → Option Obj) : outEq kn138.v (run0 Tryd.prog (ftOf Tryd.prog) (fun _ _ => none) G 100000 (.fn kn138.f kn138.args) (H0g Tryd.prog (gsT t))) = true := by kernel_rfl
theorem kn138_ok {t : TypeId} {w : World} (hw : GOk Tryd.prog (gsT t) w) : KnOk Tryd.prog w kn138 := KnOk.run env (by kernel_rfl) (fun G => kn138_run t G) hw
theorem kn139_run (t : TypeId) (G : Nat → Option Obj) : outEq kn139.v (run0 Tryd.prog (ftOf Tryd.prog) (fun _ _ => none) G 100000 (.fn kn139.f kn139.args) (H0g Tryd.prog (gsT t))) = true := by kernel_rfl
theorem kn139_ok {t : TypeId} {w : World} (hw : GOk Tryd.prog (gsT t) w) : KnOk Tryd.prog w kn139 := KnOk.run env (by kernel_rfl) (fun G => kn139_run t G) hw
theorem kn140_run (t : TypeId) (G : Nat → Option Obj) : outEq kn140.v (run0 Tryd.prog (ftOf Tryd.prog) (fun _ _ => none) G 100000 (.fn kn140.f kn140.args) (H0g Tryd.prog (gsT t))) = true := by kernel_rfl
theorem kn140_ok {t : TypeId} {w : World} (hw : GOk Tryd.prog (gsT t) w) : KnOk Tryd.prog w kn140 := KnOk.run env (by kernel_rfl) (fun G => kn140_run t G) hw
theorem kn141_run (t : TypeId) (G : Nat → Option Obj) : outEq kn141.v (run0 Tryd.prog (ftOf Tryd.prog) (fun _ _ => none) G 100000 (.fn kn141.f kn141.args) (H0g Tryd.prog (gsT t))) = true := by kernel_rfl
theorem kn141_ok {t : TypeId} {w : World} (hw : GOk Tryd.prog (gsT t) w) : KnOk Tryd.prog w kn141 := KnOk.run env (by kernel_rfl) (fun G => kn141_run t G) hw
theorem kn142_run (t : TypeId) (G : Nat → Option Obj) : outEq kn142.v (run0 Tryd.prog (ftOf Tryd.prog) (fun _ _ => none) G 100000 (.fn kn142.f kn142.args) (H0g Tryd.prog (gsT t))) = true := by kernel_rfl
theorem kn142_ok {t : TypeId} {w : World} (hw : GOk Tryd.prog (gsT t) w) : KnOk Tryd.prog w kn142 := KnOk.run env (by kernel_rfl) (fun G => kn142_run t G) hw
theorem kn143_run (t : TypeId) (G : Nat → Option Obj) : outEq kn143.v (run0 Tryd.prog (ftOf Tryd.prog) (fun _ _ => none) G 100000 (.fn kn143.f kn143.args) (H0g Tryd.prog (gsT t))) = true := by kernel_rfl
theorem kn143_ok {t : TypeId} {w : World} (hw : GOk Tryd.prog (gsT t) w) : KnOk Tryd.prog w kn143 := KnOk.run env (by kernel_rfl) (fun G => kn143_run t G) hw
theorem kn144_run (t : TypeId) (G : Nat → Option Obj) : outEq kn144.v (run0 Tryd.prog (ftOf Tryd.prog) (fun _ _ => none) G 100000 (.fn kn144.f kn144.args) (H0g Tryd.prog (gsT t))) = true := by kernel_rfl
theorem kn144_ok {t : TypeId} {w : World} (hw : GOk Tryd.prog (gsT t) w) : KnOk Tryd.prog w kn144 := KnOk.run env (by kernel_rfl) (fun G => kn144_run t G) hw
theorem kn145_run (t : TypeId) (G : Nat → Option Obj) : outEq kn145.v (run0 Tryd.prog (ftOf Tryd.prog) (fun _ _ => none) G 100000 (.fn kn145.f kn145.args) (H0g Tryd.prog (gsT t))) = true := by kernel_rfl
theorem kn145_ok {t : TypeId} {w : World} (hw : GOk Tryd.prog (gsT t) w) : KnOk Tryd.prog w kn145 := KnOk.run env (by kernel_rfl) (fun G => kn145_run t G) hw
theorem kn146_run (t : TypeId) (G : Nat → Option Obj) : outEq kn146.v (run0 Tryd.prog (ftOf Tryd.prog) (fun _ _ => none) G 100000 (.fn kn146.f kn146.args) (H0g Tryd.prog (gsT t))) = true := by kernel_rfl
theorem kn146_ok {t : TypeId} {w : World} (hw : GOk Tryd.prog (gsT t) w) : KnOk Tryd.prog w kn146 := KnOk.run env (by kernel_rfl) (fun G => kn146_run t G) hw
theorem kn147_run (t : TypeId) (G : Nat → Option Obj) : outEq kn147.v (run0 Tryd.prog (ftOf Tryd.prog) (fun _ _ => none) G 100000 (.fn kn147.f kn147.args) (H0g Tryd.prog (gsT t))) = true := by kernel_rfl
theorem kn147_ok {t : TypeId} {w : World} (hw : GOk Tryd.prog (gsT t) w) : KnOk Tryd.prog w kn147 := KnOk.run env (by kernel_rfl) (fun G => kn147_run t G) hw
theorem kn148_run (t : TypeId) (G : Nat → Option Obj) : outEq kn148.v (run0 Tryd.prog (ftOf Tryd.prog) (fun _ _ => none) G 100000 (.fn kn148.f kn148.args) (H0g Tryd.prog (gsT t))) = true := by kernel_rfl
theorem kn148_ok {t : TypeId} {w : World} (hw : GOk Tryd.prog (gsT t) w) : KnOk Tryd.prog w kn148 := KnOk.run env (by kernel_rfl) (fun G => kn148_run t G) hw
theorem kn149_run (t : TypeId) (G : Nat → Option Obj) : outEq kn149.v (run0 Tryd.prog (ftOf Tryd.prog) (fun _ _ => none) G 100000 (.fn kn149.f kn149.args) (H0g Tryd.prog (gsT t))) = true := by kernel_rfl
theorem kn149_ok {t : TypeId} {w : World} (hw : GOk Tryd.prog (gsT t) w) : KnOk Tryd.prog w kn149 := KnOk.run env (by kernel_rfl) (fun G => kn149_run t G) hw
theorem kn150_run (t : TypeId) (G : Nat → Option Obj) : outEq kn150.v (run0 Tryd.prog (ftOf Tryd.prog) (fun _ _ => none) G 100000 (.fn kn150.f kn150.args) (H0g Tryd.prog (gsT t))) = true := by kernel_rfl
theorem kn150_ok {t : TypeId} {w : World} (hw : GOk Tryd.prog (gsT t) w) : KnOk Tryd.prog w kn150 := KnOk.run env (by kernel_rfl) (fun G => kn150_run t G) hw
theorem kn151_run (t : TypeId) (G : Nat → Option Obj) : outEq kn151.v (run0 Tryd.prog (ftOf Tryd.prog) (fun _ _ => none) G 100000 (.fn kn151.f kn151.args) (H0g Tryd.prog (gsT t))) = true := by kernel_rfl
theorem kn151_ok {t : TypeId} {w : World} (hw : GOk Tryd.prog (gsT t) w) : KnOk Tryd.prog w kn151 := KnOk.run env (by kernel_rfl) (fun G => kn151_run t G) hw
theorem kn152_run (t : TypeId) (G : Nat → Option Obj) : outEq kn152.v (run0 Tryd.prog (ftOf Tryd.prog) (fun _ _ => none) G 100000 (.fn kn152.f kn152.args) (H0g Tryd.prog (gsT t))) = true := by kernel_rfl
theorem kn152_ok {t : TypeId} {w : World} (hw : GOk Tryd.prog (gsT t) w) : KnOk Tryd.prog w kn152 := KnOk.run env (by kernel_rfl) (fun G => kn152_run t G) hw
theorem kn153_run (t : TypeId) (G : Nat → Option Obj) : outEq kn153.v (run0 Tryd.prog (ftOf Tryd.prog) (fun _ _ => none) G 100000 (.fn kn153.f kn153.args) (H0g Tryd.prog (gsT t))) = true := by kernel_rfl
theorem kn153_ok {t : TypeId} {w : World} (hw : GOk Tryd.prog (gsT t) w) : KnOk Tryd.prog w kn153 := KnOk.run env (by kernel_rfl) (fun G => kn153_run t G) hw
theorem kn154_run (t : TypeId) (G : Nat → Option Obj) : outEq kn154.v (run0 Tryd.prog (ftOf Tryd.prog) (fun _ _ => none) G 100000 (.fn kn154.f kn154.args) (H0g Tryd.prog (gsT t))) = true := by kernel_rfl
theorem kn154_ok {t : TypeId} {w : World} (hw : GOk Tryd.prog (gsT t) w) : KnOk Tryd.prog w kn154 := KnOk.run env (by kernel_rfl) (fun G => kn154_run t G) hw
theorem kn155_run (t : TypeId) (G : Nat → Option Obj) : outEq kn155.v (run0 Tryd.prog (ftOf Tryd.prog) (fun _ _ => none) G 100000 (.fn kn155.f kn155.args) (H0g Tryd.prog (gsT t))) = true := by kernel_rfl
theorem kn155_ok {t : TypeId} {w : World} (hw : GOk Tryd.prog (gsT t) w) : KnOk Tryd.prog w kn155 := KnOk.run env (by kernel_rfl) (fun G => kn155_run t G) hw
theorem kn156_run (t : TypeId) (G : Nat → Option Obj) : outEq kn156.v (run0 Tryd.prog (ftOf Tryd.prog) (fun _ _ => none) G 100000 (.fn kn156.f kn156.args) (H0g Tryd.prog (gsT t))) = true := by kernel_rfl
theorem kn156_ok {t : TypeId} {w : World} (hw : GOk Tryd.prog (gsT t) w) : KnOk Tryd.prog w kn156 := KnOk.run env (by kernel_rfl) (fun G => kn156_run t G) hw
theorem kn157_run (t : TypeId) (G : Nat → Option Obj) : outEq kn157.v (run0 Tryd.prog (ftOf Tryd.prog) (fun _ _ => none) G 100000 (.fn kn157.f kn157.args) (H0g Tryd.prog (gsT t))) = true := by kernel_rfl
theorem kn157_ok {t : TypeId} {w : World} (hw : GOk Tryd.prog (gsT t) w) : KnOk Tryd.prog w kn157 := KnOk.run env (by kernel_rfl) (fun G => kn157_run t G) hw
theorem kn158_run (t : TypeId) (G : Nat → Option Obj) : outEq kn158.v (run0 Tryd.prog (ftOf Tryd.prog) (fun _ _ => none) G 100000 (.fn kn158.f kn158.args) (H0g Tryd.prog (gsT t))) = true := by kernel_rfl
theorem kn158_ok {t : TypeId} {w : World} (hw : GOk Tryd.prog (gsT t) w) : KnOk Tryd.prog w kn158 := KnOk.run env (by kernel_rfl) (fun G => kn158_run t G) hw
def kng : KnG := [(9, [([.int .u8 0, .int .u8 0], val0)]), (11, [([val0], .int .i64 1)]), (39, [([val0], .int .i64 13)]), (29, [([val0], .int .i64 177)]), (52, [([val0], .int .i64 16)]), (30, [([val0], .int .i64 1)]), (38, [([.int .i64 (-1), .int .i64 0, val0], .int .i64 (-1)), ([.int .i64 0, .int .i64 0, val0], .int .i64 49), ([.int .i64 1, .int .i64 0, val0], .int .i64 50), ([.int .i64 2, .int .i64 0, val0], .int .i64 51), ([.int .i64 3, .int .i64 0, val0], .int .i64 52), ([.int .i64 4, .int .i64 0, val0], .int .i64 (-1)), ([.int .i64 0, .int .i64 1, val0], .int .i64 (-1))]), (24, [([.int .i64 0, val0], .int .i64 17), ([.int .i64 1, val0], .int .i64 18), ([.int .i64 2, val0], .int .i64 19), ([.int .i64 3, val0], .int .i64 20)]), (44, [([.int .i64 0, val0], .int .i64 (-1)), ([.int .i64 1, val0], .int .i64 60), ([.int .i64 2, val0], .int .i64 61), ([.int .i64 3, val0], .int .i64 62), ([.int .i64 4, val0], .int .i64 63), ([.int .i64 5, val0], .int .i64 64), ([.int .i64 6, val0], .int .i64 65), ([.int .i64 7, val0], .int .i64 66), ([.int .i64 8, val0], .int .i64 67), ([.int .i64 9, val0], .int .i64 68), ([.int .i64 10, val0], .int .i64 69), ([.int .i64 11, val0], .int .i64 70), ([.int .i64 12, val0], .int .i64 71), ([.int .i64 13, val0], .int .i64 72), ([.int .i64 14, val0], .int .i64 (-1))]), (69, [([.int .i64 0, val0], .int .i64 55)]), (23, [([.int .i64 0, .int .i64 0, val0], .int .i64 53), ([.int .i64 1, .int .i64 0, val0], .int .i64 54)]), (72, [([.int .i64 0, .int .i64 0, val0], .int .i64 56), ([.int .i64 1, .int .i64 0, val0], .int .i64 57), ([.int .i64 2, .int .i64 0, val0], .int .i64 58), ([.int .i64 3, .int .i64 0, val0], .int .i64 59)]), (45, [([.int .i64 0, .int .i64 1, val0], .int .i64 73), ([.int .i64 1, .int .i64 1, val0], .int .i64 74), ([.int .i64 2, .int .i64 1, val0], .int .i64 75), ([.int .i64 3, .int .i64 1, val0], .int .i64 76), ([.int .i64 4, .int .i64 1, val0], .int .i64 77), ([.int .i64 5, .int .i64 1, val0], .int .i64 78), ([.int .i64 6, .int .i64 1, val0], .int .i64 79), ([.int .i64 7, .int .i64 1, val0], .int .i64 80), ([.int .i64 0, .int .i64 2, val0], .int .i64 81), ([.int .i64 1, .int .i64 2, val0], .int .i64 82), ([.int .i64 2, .int .i64 2, val0], .int .i64 83), ([.int .i64 3, .int .i64 2, val0], .int .i64 84), ([.int .i64 4, .int .i64 2, val0], .int .i64 85), ([.int .i64 5, .int .i64 2, val0], .int .i64 86), ([.int .i64 6, .int .i64 2, val0], .int .i64 87), ([.int .i64 7, .int .i64 2, val0], .int .i64 88), ([.int .i64 0, .int .i64 3, val0], .int .i64 89), ([.int .i64 1, .int .i64 3, val0], .int .i64 90), ([.int .i64 2, .int .i64 3, val0], .int .i64 91), ([.int .i64 3, .int .i64 3, val0], .int .i64 92), ([.int .i64 4, .int .i64 3, val0], .int .i64 93), ([.int .i64 5, .int .i64 3, val0], .int .i64 94), ([.int .i64 6, .int .i64 3, val0], .int .i64 95), ([.int .i64 7, .int .i64 3, val0], .int .i64 96), ([.int .i64 0, .int .i64 4, val0], .int .i64 97), ([.int .i64 1, .int .i64 4, val0], .int .i64 98), ([.int .i64 2, .int .i64 4, val0], .int .i64 99), ([.int .i64 3, .int .i64 4, val0], .int .i64 100), ([.int .i64 4, .int .i64 4, val0], .int .i64 101), ([.int .i64 5, .int .i64 4, val0], .int .i64 102), ([.int .i64 6, .int .i64 4, val0], .int .i64 103), ([.int .i64 7, .int .i64 4, val0], .int .i64 104), ([.int .i64 0, .int .i64 5, val0], .int .i64 105), ([.int .i64 1, .int .i64 5, val0], .int .i64 106), ([.int .i64 2, .int .i64 5, val0], .int .i64 107), ([.int .i64 3, .int .i64 5, val0], .int .i64 108), ([.int .i64 4, .int .i64 5, val0], .int .i64 109), ([.int .i64 5, .int .i64 5, val0], .int .i64 110), ([.int .i64 6, .int .i64 5, val0], .int .i64 111), ([.int .i64 7, .int .i64 5, val0], .int .i64 112), ([.int .i64 0, .int .i64 6, val0], .int .i64 113), ([.int .i64 1, .int .i64 6, val0], .int .i64 114), ([.int .i64 2, .int .i64 6, val0], .int .i64 115), ([.int .i64 3, .int .i64 6, val0], .int .i64 116), ([.int .i64 4, .int .i64 6, val0], .int .i64 117), ([.int .i64 5, .int .i64 6, val0], .int .i64 118), ([.int .i64 6, .int .i64 6, val0], .int .i64 119), ([.int .i64 7, .int .i64 6, val0], .int .i64 120), ([.int .i64 0, .int .i64 7, val0], .int .i64 121), ([.int .i64 1, .int .i64 7, val0], .int .i64 122), ([.int .i64 2, .int .i64 7, val0], .int .i64 123), ([.int .i64 3, .int .i64 7, val0], .int .i64 124), ([.int .i64 4, .int .i64 7, val0], .int .i64 125), ([.int .i64 5, .int .i64 7, val0], .int .i64 126), ([.int .i64 6, .int .i64 7, val0], .int .i64 127), ([.int .i64 7, .int .i64 7, val0], .int .i64 128), ([.int .i64 0, .int .i64 8, val0], .int .i64 129), ([.int .i64 1, .int .i64 8, val0], .int .i64 130), ([.int .i64 2, .int .i64 8, val0], .int .i64 131), ([.int .i64 3, .int .i64 8, val0], .int .i64 132), ([.int .i64 4, .int .i64 8, val0], .int .i64 133), ([.int .i64 5, .int .i64 8, val0], .int .i64 134), ([.int .i64 6, .int .i64 8, val0], .int .i64 135), ([.int .i64 7, .int .i64 8, val0], .int .i64 136), ([.int .i64 0, .int .i64 9, val0], .int .i64 137), ([.int .i64 1, .int .i64 9, val0], .int .i64 138), ([.int .i64 2, .int .i64 9, val0], .int .i64 139), ([.int .i64 3, .int .i64 9, val0], .int .i64 140), ([.int .i64 4, .int .i64 9, val0], .int .i64 141), ([.int .i64 5, .int .i64 9, val0], .int .i64 142), ([.int .i64 6, .int .i64 9, val0], .int .i64 143), ([.int .i64 7, .int .i64 9, val0], .int .i64 144), ([.int .i64 0, .int .i64 10, val0], .int .i64 145), ([.int .i64 1, .int .i64 10, val0], .int .i64 146), ([.int .i64 2, .int .i64 10, val0], .int .i64 147), ([.int .i64 3, .int .i64 10, val0], .int .i64 148), ([.int .i64 4, .int .i64 10, val0], .int .i64 149), ([.int .i64 5, .int .i64 10, val0], .int .i64 150), ([.int .i64 6, .int .i64 10, val0], .int .i64 151), ([.int .i64 7, .int .i64 10, val0], .int .i64 152), ([.int .i64 0, .int .i64 11, val0], .int .i64 153), ([.int .i64 1, .int .i64 11, val0], .int .i64 154), ([.int .i64 2, .int .i64 11, val0], .int .i64 155), ([.int .i64 3, .int .i64 11, val0], .int .i64 156), ([.int .i64 4, .int .i64 11, val0], .int .i64 157), ([.int .i64 5, .int .i64 11, val0], .int .i64 158), ([.int .i64 6, .int .i64 11, val0], .int .i64 159), ([.int .i64 7, .int .i64 11, val0], .int .i64 160), ([.int .i64 0, .int .i64 12, val0], .int .i64 161), ([.int .i64 1, .int .i64 12, val0], .int .i64 162), ([.int .i64 2, .int .i64 12, val0], .int .i64 163), ([.int .i64 3, .int .i64 12, val0], .int .i64 164), ([.int .i64 4, .int .i64 12, val0], .int .i64 165), ([.int .i64 5, .int .i64 12, val0], .int .i64 166), ([.int .i64 6, .int .i64 12, val0], .int .i64 167), ([.int .i64 7, .int .i64 12, val0], .int .i64 168), ([.int .i64 0, .int .i64 13, val0], .int .i64 169), ([.int .i64 1, .int .i64 13, val0], .int .i64 170), ([.int .i64 2, .int .i64 13, val0], .int .i64 171), ([.int .i64 3, .int .i64 13, val0], .int .i64 172), ([.int .i64 4, .int .i64 13, val0], .int .i64 173), ([.int .i64 5, .int .i64 13, val0], .int .i64 174), ([.int .i64 6, .int .i64 13, val0], .int .i64 175), ([.int .i64 7, .int .i64 13, val0], .int .i64 176)]), (70, [([val0], .int .i64 3)]), (65, [([val0], .int .i64 1013)]), (41, [([.int .i64 0, val0], .bool false), ([.int .i64 1, val0], .bool true), ([.int .i64 2, val0], .bool true), ([.int .i64 3, val0], .bool true), ([.int .i64 4, val0], .bool true), ([.int .i64 5, val0], .bool true), ([.int .i64 6, val0], .bool true), ([.int .i64 7, val0], .bool true), ([.int .i64 8, val0], .bool true), ([.int .i64 9, val0], .bool true), ([.int .i64 10, val0], .bool true), ([.int .i64 11, val0], .bool true), ([.int .i64 12, val0], .bool true), ([.int .i64 13, val0], .bool true)])]
def kns : List Kn := [kn0, kn1, kn2, kn3, kn4, kn5, kn6, kn7, kn8, kn9, kn10, kn11, kn12, kn13, kn14, kn15, kn16, kn17, kn18, kn19, kn20, kn21, kn22, kn23, kn24, kn25, kn26, kn27, kn28, kn29, kn30, kn31, kn32, kn33, kn34, kn35, kn36, kn37, kn38, kn39, kn40, kn41, kn42, kn43, kn44, kn45, kn46, kn47, kn48, kn49, kn50, kn51, kn52, kn53, kn54, kn55, kn56, kn57, kn58, kn59, kn60, kn61, kn62, kn63, kn64, kn65, kn66, kn67, kn68, kn69, kn70, kn71, kn72, kn73, kn74, kn75, kn76, kn77, kn78, kn79, kn80, kn81, kn82, kn83, kn84, kn85, kn86, kn87, kn88, kn89, kn90, kn91, kn92, kn93, kn94, kn95, kn96, kn97, kn98, kn99, kn100, kn101, kn102, kn103, kn104, kn105, kn106, kn107, kn108, kn109, kn110, kn111, kn112, kn113, kn114, kn115, kn116, kn117, kn118, kn119, kn120, kn121, kn122, kn123, kn124, kn125, kn126, kn127, kn128, kn129, kn130, kn131, kn132, kn133, kn134, kn135, kn136, kn137, kn138, kn139, kn140, kn141, kn142, kn143, kn144, kn145, kn146, kn147, kn148, kn149, kn150, kn151, kn152, kn153, kn154, kn155, kn156, kn157, kn158]
theorem kng_flat : flatG kng = kns := by kernel_rfl
theorem fcons {p : Kn → Prop} {x : Kn} {l : List Kn} (h : p x) (t : ∀ y ∈ l, p y) : ∀ y ∈ x :: l, p y := List.forall_mem_cons.2 ⟨h, t⟩
theorem kng_ok {t : TypeId} {w : World} (hw : GOk Tryd.prog (gsT t) w) : ∀ x ∈ flatG kng, KnOk Tryd.prog w x := by
  rw [kng_flat]
  unfold kns
  refine fcons (kn0_ok hw) ?_
  refine fcons (kn1_ok hw) ?_
  refine fcons (kn2_ok hw) ?_
  refine fcons (kn3_ok hw) ?_
  refine fcons (kn4_ok hw) ?_
  refine fcons (kn5_ok hw) ?_
  refine fcons (kn6_ok hw) ?_
  refine fcons (kn7_ok hw) ?_
  refine fcons (kn8_ok hw) ?_
  refine fcons (kn9_ok hw) ?_
  refine fcons (kn10_ok hw) ?_
  refine fcons (kn11_ok hw) ?_
  refine fcons (kn12_ok hw) ?_
  refine fcons (kn13_ok hw) ?_
  refine fcons (kn14_ok hw) ?_
  refine fcons (kn15_ok hw) ?_
  refine fcons (kn16_ok hw) ?_
  refine fcons (kn17_ok hw) ?_
  refine fcons (kn18_ok hw) ?_
  refine fcons (kn19_ok hw) ?_
  refine fcons (kn20_ok hw) ?_
  refine fcons (kn21_ok hw) ?_
  refine fcons (kn22_ok hw) ?_
  refine fcons (kn23_ok hw) ?_
  refine fcons (kn24_ok hw) ?_
  refine fcons (kn25_ok hw) ?_
  refine fcons (kn26_ok hw) ?_
  refine fcons (kn27_ok hw) ?_
  refine fcons (kn28_ok hw) ?_
  refine fcons (kn29_ok hw) ?_
  refine fcons (kn30_ok hw) ?_
  refine fcons (kn31_ok hw) ?_
  refine fcons (kn32_ok hw) ?_
  refine fcons (kn33_ok hw) ?_
  refine fcons (kn34_ok hw) ?_
  refine fcons (kn35_ok hw) ?_
  refine fcons (kn36_ok hw) ?_
  refine fcons (kn37_ok hw) ?_
  refine fcons (kn38_ok hw) ?_
  refine fcons (kn39_ok hw) ?_
  refine fcons (kn40_ok hw) ?_
  refine fcons (kn41_ok hw) ?_
  refine fcons (kn42_ok hw) ?_
  refine fcons (kn43_ok hw) ?_
  refine fcons (kn44_ok hw) ?_
  refine fcons (kn45_ok hw) ?_
  refine fcons (kn46_ok hw) ?_
  refine fcons (kn47_ok hw) ?_
  refine fcons (kn48_ok hw) ?_
  refine fcons (kn49_ok hw) ?_
  refine fcons (kn50_ok hw) ?_
  refine fcons (kn51_ok hw) ?_
  refine fcons (kn52_ok hw) ?_
  refine fcons (kn53_ok hw) ?_
  refine fcons (kn54_ok hw) ?_
  refine fcons (kn55_ok hw) ?_
  refine fcons (kn56_ok hw) ?_
  refine fcons (kn57_ok hw) ?_
  refine fcons (kn58_ok hw) ?_
  refine fcons (kn59_ok hw) ?_
  refine fcons (kn60_ok hw) ?_
  refine fcons (kn61_ok hw) ?_
  refine fcons (kn62_ok hw) ?_
  refine fcons (kn63_ok hw) ?_
  refine fcons (kn64_ok hw) ?_
  refine fcons (kn65_ok hw) ?_
  refine fcons (kn66_ok hw) ?_
  refine fcons (kn67_ok hw) ?_
  refine fcons (kn68_ok hw) ?_
  refine fcons (kn69_ok hw) ?_
  refine fcons (kn70_ok hw) ?_
  refine fcons (kn71_ok hw) ?_
  refine fcons (kn72_ok hw) ?_
  refine fcons (kn73_ok hw) ?_
  refine fcons (kn74_ok hw) ?_
  refine fcons (kn75_ok hw) ?_
  refine fcons (kn76_ok hw) ?_
  refine fcons (kn77_ok hw) ?_
  refine fcons (kn78_ok hw) ?_
  refine fcons (kn79_ok hw) ?_
  refine fcons (kn80_ok hw) ?_
  refine fcons (kn81_ok hw) ?_
  refine fcons (kn82_ok hw) ?_
  refine fcons (kn83_ok hw) ?_
  refine fcons (kn84_ok hw) ?_
  refine fcons (kn85_ok hw) ?_
  refine fcons (kn86_ok hw) ?_
  refine fcons (kn87_ok hw) ?_
  refine fcons (kn88_ok hw) ?_
  refine fcons (kn89_ok hw) ?_
  refine fcons (kn90_ok hw) ?_
  refine fcons (kn91_ok hw) ?_
  refine fcons (kn92_ok hw) ?_
  refine fcons (kn93_ok hw) ?_
  refine fcons (kn94_ok hw) ?_
  refine fcons (kn95_ok hw) ?_
  refine fcons (kn96_ok hw) ?_
  refine fcons (kn97_ok hw) ?_
  refine fcons (kn98_ok hw) ?_
  refine fcons (kn99_ok hw) ?_
  refine fcons (kn100_ok hw) ?_
  refine fcons (kn101_ok hw) ?_
  refine fcons (kn102_ok hw) ?_
  refine fcons (kn103_ok hw) ?_
  refine fcons (kn104_ok hw) ?_
  refine fcons (kn105_ok hw) ?_
  refine fcons (kn106_ok hw) ?_
  refine fcons (kn107_ok hw) ?_
  refine fcons (kn108_ok hw) ?_
  refine fcons (kn109_ok hw) ?_
  refine fcons (kn110_ok hw) ?_
  refine fcons (kn111_ok hw) ?_
  refine fcons (kn112_ok hw) ?_
  refine fcons (kn113_ok hw) ?_
  refine fcons (kn114_ok hw) ?_
  refine fcons (kn115_ok hw) ?_
  refine fcons (kn116_ok hw) ?_
  refine fcons (kn117_ok hw) ?_
  refine fcons (kn118_ok hw) ?_
  refine fcons (kn119_ok hw) ?_
  refine fcons (kn120_ok hw) ?_
  refine fcons (kn121_ok hw) ?_
  refine fcons (kn122_ok hw) ?_
  refine fcons (kn123_ok hw) ?_
  refine fcons (kn124_ok hw) ?_
  refine fcons (kn125_ok hw) ?_
  refine fcons (kn126_ok hw) ?_
  refine fcons (kn127_ok hw) ?_
  refine fcons (kn128_ok hw) ?_
  refine fcons (kn129_ok hw) ?_
  refine fcons (kn130_ok hw) ?_
  refine fcons (kn131_ok hw) ?_
  refine fcons (kn132_ok hw) ?_
  refine fcons (kn133_ok hw) ?_
  refine fcons (kn134_ok hw) ?_
  refine fcons (kn135_ok hw) ?_
  refine fcons (kn136_ok hw) ?_
  refine fcons (kn137_ok hw) ?_
  refine fcons (kn138_ok hw) ?_
  refine fcons (kn139_ok hw) ?_
  refine fcons (kn140_ok hw) ?_
  refine fcons (kn141_ok hw) ?_
  refine fcons (kn142_ok hw) ?_
  refine fcons (kn143_ok hw) ?_
  refine fcons (kn144_ok hw) ?_
  refine fcons (kn145_ok hw) ?_
  refine fcons (kn146_ok hw) ?_
  refine fcons (kn147_ok hw) ?_
  refine fcons (kn148_ok hw) ?_
  refine fcons (kn149_ok hw) ?_
  refine fcons (kn150_ok hw) ?_
  refine fcons (kn151_ok hw) ?_
  refine fcons (kn152_ok hw) ?_
  refine fcons (kn153_ok hw) ?_
  refine fcons (kn154_ok hw) ?_
  refine fcons (kn155_ok hw) ?_
  refine fcons (kn156_ok hw) ?_
  refine fcons (kn157_ok hw) ?_
  refine fcons (kn158_ok hw) ?_
  exact fun _ h => absurd h List.not_mem_nil
end Go.Proofs.YtepdmefmcfiinaaDoor
