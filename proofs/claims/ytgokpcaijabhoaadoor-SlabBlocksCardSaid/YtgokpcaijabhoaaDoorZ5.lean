/- Texts of a proof, one behind the other. Conditions: those each says. -/
import Derived.Test.YtgokpcaijabhoaaDoorZ4
import Derived.Test.YtgokpcaijabhoaaDoorZ3
/-
 SlabBlocks: what is decided ahead, behind bestFit and at the end. Conditions: those each says.
-/
namespace Go.Proofs.YtgokpcaijabhoaaDoor
open Go.Ev Go.RowKit
set_option maxRecDepth 100000
set_option linter.unusedVariables false
def alO0E : List En := [.iv (.bin .rem (.bin .add (.var .i64 20) (.var .i64 21)) (.lit .i64 4)) 0, .ds (.bin .lss (.var .i64 21) (.var .i64 17)) true, .ds (.bin .neq (.var .i64 23) (.var .i64 21)) false]
def alO0L : List (Nat × Value) := [(773988796828671837349091491, .int .i64 0), (5912915936812267, .bool true), (6475934609710307, .bool false)]
theorem alO0_eq : alO0L = alO0E.map En.pr := by kernel_rfl
theorem alO0_all : (alO0E.all En.okB) = true := by kernel_rfl
set_option maxHeartbeats 4000000 in
theorem alO0_h {S : Sy} {i : Int} (h : RNm S i) (h21 : S.ρ 21 = i) (hw : i < S.ρ 17) (hd : (S.ρ 20 + i) % 4 = 0) : AllH S alO0E := by
 have gi0 := h.i0; have ghin := h.hin; have ge23 := h.e23; have ggeo_n := h.geo.n; have ggeo_c := h.geo.c; have ggeo_w := h.geo.w
 exact ⟨(sm (show (IntKind.i64.wrap (S.ρ 20 + S.ρ 21)).tmod (4 : Int) = 0 from rem4 (by omega) (by rw [h21]; exact hd))), (tr (p := S.ρ 21 < S.ρ 17) (by omega)), (fls (p := S.ρ 23 ≠ S.ρ 21) (by omega)), trivial⟩
theorem alO0_ok {S : Sy} {i : Int} (h : RNm S i) (h21 : S.ρ 21 = i) (hw : i < S.ρ 17) (hd : (S.ρ 20 + i) % 4 = 0) : AlOk S alO0L := alE alO0_all alO0_eq (alO0_h h h21 hw hd)
def alO1E : List En := [.iv (.bin .rem (.bin .add (.var .i64 20) (.var .i64 21)) (.lit .i64 4)) 1, .ds (.bin .lss (.var .i64 21) (.var .i64 17)) true, .ds (.bin .neq (.var .i64 23) (.var .i64 21)) false]
def alO1L : List (Nat × Value) := [(773988796828671837349091491, .int .i64 1), (5912915936812267, .bool true), (6475934609710307, .bool false)]
theorem alO1_eq : alO1L = alO1E.map En.pr := by kernel_rfl
theorem alO1_all : (alO1E.all En.okB) = true := by kernel_rfl
set_option maxHeartbeats 4000000 in
theorem alO1_h {S : Sy} {i : Int} (h : RNm S i) (h21 : S.ρ 21 = i) (hw : i < S.ρ 17) (hd : (S.ρ 20 + i) % 4 = 1) : AllH S alO1E := by
 have gi0 := h.i0; have ghin := h.hin; have ge23 := h.e23; have ggeo_n := h.geo.n; have ggeo_c := h.geo.c; have ggeo_w := h.geo.w
 exact ⟨(sm (show (IntKind.i64.wrap (S.ρ 20 + S.ρ 21)).tmod (4 : Int) = 1 from rem4 (by omega) (by rw [h21]; exact hd))), (tr (p := S.ρ 21 < S.ρ 17) (by omega)), (fls (p := S.ρ 23 ≠ S.ρ 21) (by omega)), trivial⟩
theorem alO1_ok {S : Sy} {i : Int} (h : RNm S i) (h21 : S.ρ 21 = i) (hw : i < S.ρ 17) (hd : (S.ρ 20 + i) % 4 = 1) : AlOk S alO1L := alE alO1_all alO1_eq (alO1_h h h21 hw hd)
def alO2E : List En := [.iv (.bin .rem (.bin .add (.var .i64 20) (.var .i64 21)) (.lit .i64 4)) 2, .ds (.bin .lss (.var .i64 21) (.var .i64 17)) true, .ds (.bin .neq (.var .i64 23) (.var .i64 21)) false]
def alO2L : List (Nat × Value) := [(773988796828671837349091491, .int .i64 2), (5912915936812267, .bool true), (6475934609710307, .bool false)]
theorem alO2_eq : alO2L = alO2E.map En.pr := by kernel_rfl
theorem alO2_all : (alO2E.all En.okB) = true := by kernel_rfl
set_option maxHeartbeats 4000000 in
theorem alO2_h {S : Sy} {i : Int} (h : RNm S i) (h21 : S.ρ 21 = i) (hw : i < S.ρ 17) (hd : (S.ρ 20 + i) % 4 = 2) : AllH S alO2E := by
 have gi0 := h.i0; have ghin := h.hin; have ge23 := h.e23; have ggeo_n := h.geo.n; have ggeo_c := h.geo.c; have ggeo_w := h.geo.w
 exact ⟨(sm (show (IntKind.i64.wrap (S.ρ 20 + S.ρ 21)).tmod (4 : Int) = 2 from rem4 (by omega) (by rw [h21]; exact hd))), (tr (p := S.ρ 21 < S.ρ 17) (by omega)), (fls (p := S.ρ 23 ≠ S.ρ 21) (by omega)), trivial⟩
theorem alO2_ok {S : Sy} {i : Int} (h : RNm S i) (h21 : S.ρ 21 = i) (hw : i < S.ρ 17) (hd : (S.ρ 20 + i) % 4 = 2) : AlOk S alO2L := alE alO2_all alO2_eq (alO2_h h h21 hw hd)
def alO3E : List En := [.iv (.bin .rem (.bin .add (.var .i64 20) (.var .i64 21)) (.lit .i64 4)) 3, .ds (.bin .lss (.var .i64 21) (.var .i64 17)) true, .ds (.bin .neq (.var .i64 23) (.var .i64 21)) false]
def alO3L : List (Nat × Value) := [(773988796828671837349091491, .int .i64 3), (5912915936812267, .bool true), (6475934609710307, .bool false)]
theorem alO3_eq : alO3L = alO3E.map En.pr := by kernel_rfl
theorem alO3_all : (alO3E.all En.okB) = true := by kernel_rfl
set_option maxHeartbeats 4000000 in
theorem alO3_h {S : Sy} {i : Int} (h : RNm S i) (h21 : S.ρ 21 = i) (hw : i < S.ρ 17) (hd : (S.ρ 20 + i) % 4 = 3) : AllH S alO3E := by
 have gi0 := h.i0; have ghin := h.hin; have ge23 := h.e23; have ggeo_n := h.geo.n; have ggeo_c := h.geo.c; have ggeo_w := h.geo.w
 exact ⟨(sm (show (IntKind.i64.wrap (S.ρ 20 + S.ρ 21)).tmod (4 : Int) = 3 from rem4 (by omega) (by rw [h21]; exact hd))), (tr (p := S.ρ 21 < S.ρ 17) (by omega)), (fls (p := S.ρ 23 ≠ S.ρ 21) (by omega)), trivial⟩
theorem alO3_ok {S : Sy} {i : Int} (h : RNm S i) (h21 : S.ρ 21 = i) (hw : i < S.ρ 17) (hd : (S.ρ 20 + i) % 4 = 3) : AlOk S alO3L := alE alO3_all alO3_eq (alO3_h h h21 hw hd)
def alJ0E : List En := [.nm (.bin .add (.lit .i64 0) (.var .i64 5)) 5, .iv (.bin .mul (.lit .i64 0) (.var .i64 5)) 0, .ds (.bin .gtr (.var .i64 5) (.lit .i64 1)) false, .ds (.bin .geq (.lit .i64 0) (.var .i64 5)) false, .ds (.bin .geq (.lit .i64 22) (.var .i64 42)) false, .ds (.bin .lss (.lit .i64 22) (.var .i64 42)) true, .nm (.app .i64 30 (.cons (.var .i64 5) .nil)) 62, .nm (.bin .add (.lit .i64 0) (.var .i64 62)) 62, .nm (.bin .mul (.var .i64 62) (.lit .i64 1)) 62, .nm (.bin .add (.var .i64 62) (.lit .i64 0)) 62, .ds (.bin .lss (.var .i64 62) (.lit .i64 0)) false, .ds (.bin .geq (.var .i64 62) (.lit .i64 9)) false, .nm (.bin .add (.lit .i64 7) (.var .i64 62)) 64, .ds (.bin .lss (.var .i64 64) (.lit .i64 0)) false, .ds (.bin .geq (.var .i64 64) (.var .i64 42)) false, .ds (.bin .geq (.var .i64 64) (.lit .i64 0)) true, .ds (.bin .lss (.var .i64 64) (.var .i64 42)) true, .nm (.bin .mul (.var .i64 64) (.lit .i64 1)) 64, .nm (.bin .add (.var .i64 64) (.lit .i64 0)) 64, .ds (.bin .eql (.var .i64 64) (.lit .i64 22)) false, .ds (.bin .eql (.lit .i64 22) (.var .i64 64)) false]
def alJ0L : List (Nat × Value) := [(1597828503683, .float .f64 2563), (1597828503699, .int .i64 0), (88081558410491, .bool false), (1597828503811, .bool false), (12397715258351363, .bool false), (12397715258351339, .bool true), (144626562806518214843971, .float .f64 31747), (13159880466051, .float .f64 31747), (1090836162942099, .float .f64 31747), (17044409944195, .float .f64 31747), (17044409944299, .bool false), (8726703899679491, .bool false), (3953809554415235, .float .f64 32771), (17594165758187, .bool false), (36032817209024259, .bool false), (17594165758211, .bool true), (36032817209024235, .bool true), (1126020535030931, .float .f64 32771), (17594165758083, .float .f64 32771), (18016426103151835, .bool false), (24795086818648283, .bool false)]
theorem alJ0_eq : alJ0L = alJ0E.map En.pr := by kernel_rfl
theorem alJ0_all : (alJ0E.all En.okB) = true := by kernel_rfl
set_option maxHeartbeats 4000000 in
theorem alJ0_h {S : Sy} (h : GeoS S) (hm : S.ρ 5 = 1) (e45 : S.ρ 45 = S.ρ 5 - 1) (e71 : S.ρ 71 = 21 + S.ρ 5) (e62 : S.ρ 62 = lg (S.ρ 5)) (e64 : S.ρ 64 = 7 + S.ρ 62) : AllH S alJ0E := by
 have gn := h.n; have ge42 := h.e42
 have b62 := lg_in (S.ρ 5)
 rw [← e62] at b62
 exact ⟨(sm (show (IntKind.i64.wrap ((0 : Int) + S.ρ 5)) = S.ρ 5 from by rw [w_i64 (by omega) (by omega)]; omega)), (sm (show (IntKind.i64.wrap ((0 : Int) * S.ρ 5)) = (0 : Int) from by rw [w_i64 (by omega) (by omega)]; omega)), (fls (p := (1 : Int) < S.ρ 5) (by omega)), (fls (p := S.ρ 5 ≤ (0 : Int)) (by omega)), (fls (p := S.ρ 42 ≤ (22 : Int)) (by omega)), (tr (p := (22 : Int) < S.ρ 42) (by omega)), (sm ((h.lgF _).trans e62.symm)), (sm (show (IntKind.i64.wrap ((0 : Int) + S.ρ 62)) = S.ρ 62 from by rw [w_i64 (by omega) (by omega)]; omega)), (sm (show (IntKind.i64.wrap (S.ρ 62 * (1 : Int))) = S.ρ 62 from by rw [w_i64 (by omega) (by omega)]; omega)), (sm (show (IntKind.i64.wrap (S.ρ 62 + (0 : Int))) = S.ρ 62 from by rw [w_i64 (by omega) (by omega)]; omega)), (fls (p := S.ρ 62 < (0 : Int)) (by omega)), (fls (p := (9 : Int) ≤ S.ρ 62) (by omega)), (sm (show (IntKind.i64.wrap ((7 : Int) + S.ρ 62)) = S.ρ 64 from by rw [w_i64 (by omega) (by omega)]; omega)), (fls (p := S.ρ 64 < (0 : Int)) (by omega)), (fls (p := S.ρ 42 ≤ S.ρ 64) (by omega)), (tr (p := (0 : Int) ≤ S.ρ 64) (by omega)), (tr (p := S.ρ 64 < S.ρ 42) (by omega)), (sm (show (IntKind.i64.wrap (S.ρ 64 * (1 : Int))) = S.ρ 64 from by rw [w_i64 (by omega) (by omega)]; omega)), (sm (show (IntKind.i64.wrap (S.ρ 64 + (0 : Int))) = S.ρ 64 from by rw [w_i64 (by omega) (by omega)]; omega)), (fls (p := S.ρ 64 = (22 : Int)) (by omega)), (fls (p := (22 : Int) = S.ρ 64) (by omega)), trivial⟩
theorem alJ0_ok {S : Sy} (h : GeoS S) (hm : S.ρ 5 = 1) (e45 : S.ρ 45 = S.ρ 5 - 1) (e71 : S.ρ 71 = 21 + S.ρ 5) (e62 : S.ρ 62 = lg (S.ρ 5)) (e64 : S.ρ 64 = 7 + S.ρ 62) : AlOk S alJ0L := alE alJ0_all alJ0_eq (alJ0_h h hm e45 e71 e62 e64)
def alJ1E : List En := [.nm (.bin .add (.lit .i64 0) (.var .i64 5)) 5, .iv (.bin .mul (.lit .i64 0) (.var .i64 5)) 0, .ds (.bin .gtr (.var .i64 5) (.lit .i64 1)) true, .ds (.bin .geq (.lit .i64 0) (.var .i64 5)) false, .ds (.bin .geq (.lit .i64 22) (.var .i64 42)) false, .ds (.bin .lss (.lit .i64 22) (.var .i64 42)) true, .nm (.bin .sub (.var .i64 5) (.lit .i64 1)) 45, .nm (.bin .add (.lit .i64 0) (.var .i64 45)) 45, .nm (.bin .mul (.var .i64 45) (.lit .i64 1)) 45, .nm (.bin .add (.var .i64 45) (.lit .i64 0)) 45, .ds (.bin .lss (.var .i64 45) (.lit .i64 0)) false, .ds (.bin .geq (.var .i64 45) (.var .i64 5)) false, .nm (.bin .add (.lit .i64 22) (.var .i64 45)) 71, .ds (.bin .lss (.var .i64 71) (.lit .i64 0)) false, .ds (.bin .geq (.var .i64 71) (.var .i64 42)) false, .ds (.bin .geq (.var .i64 71) (.lit .i64 0)) true, .ds (.bin .lss (.var .i64 71) (.var .i64 42)) true, .nm (.bin .mul (.var .i64 71) (.lit .i64 1)) 71, .nm (.bin .add (.var .i64 71) (.lit .i64 0)) 71, .ds (.bin .eql (.var .i64 71) (.lit .i64 22)) false, .ds (.bin .eql (.lit .i64 22) (.var .i64 71)) false, .nm (.app .i64 30 (.cons (.var .i64 5) .nil)) 62, .nm (.bin .add (.lit .i64 0) (.var .i64 62)) 62, .nm (.bin .mul (.var .i64 62) (.lit .i64 1)) 62, .nm (.bin .add (.var .i64 62) (.lit .i64 0)) 62, .ds (.bin .lss (.var .i64 62) (.lit .i64 0)) false, .ds (.bin .geq (.var .i64 62) (.lit .i64 9)) false, .nm (.bin .add (.lit .i64 7) (.var .i64 62)) 64, .ds (.bin .lss (.var .i64 64) (.lit .i64 0)) false, .ds (.bin .geq (.var .i64 64) (.var .i64 42)) false, .ds (.bin .geq (.var .i64 64) (.lit .i64 0)) true, .ds (.bin .lss (.var .i64 64) (.var .i64 42)) true, .nm (.bin .mul (.var .i64 64) (.lit .i64 1)) 64, .nm (.bin .add (.var .i64 64) (.lit .i64 0)) 64, .ds (.bin .eql (.var .i64 64) (.lit .i64 22)) false, .ds (.bin .eql (.lit .i64 22) (.var .i64 64)) false, .ds (.bin .eql (.var .i64 64) (.var .i64 71)) false, .ds (.bin .eql (.var .i64 71) (.var .i64 64)) false]
def alJ1L : List (Nat × Value) := [(1597828503683, .float .f64 2563), (1597828503699, .int .i64 0), (88081558410491, .bool true), (1597828503811, .bool false), (12397715258351363, .bool false), (12397715258351339, .bool true), (88081558410379, .float .f64 23043), (12867822689923, .float .f64 23043), (791769000187027, .float .f64 23043), (12371485526147, .float .f64 23043), (12371485526251, .bool false), (3167091804870915, .bool false), (12397766797958787, .float .f64 36355), (19518311106795, .bool false), (39973466882973443, .bool false), (19518311106819, .bool true), (39973466882973419, .bool true), (1249165837341843, .float .f64 36355), (19518311106691, .float .f64 36355), (19986750940126427, .bool false), (24795207077732571, .bool false), (144626562806518214843971, .float .f64 31747), (13159880466051, .float .f64 31747), (1090836162942099, .float .f64 31747), (17044409944195, .float .f64 31747), (17044409944299, .bool false), (8726703899679491, .bool false), (3953809554415235, .float .f64 32771), (17594165758187, .bool false), (36032817209024259, .bool false), (17594165758211, .bool true), (36032817209024235, .bool true), (1126020535030931, .float .f64 32771), (17594165758083, .float .f64 32771), (18016426103151835, .bool false), (24795086818648283, .bool false), (72065410979078363, .bool false), (79946590067892443, .bool false)]
theorem alJ1_eq : alJ1L = alJ1E.map En.pr := by kernel_rfl
theorem alJ1_all : (alJ1E.all En.okB) = true := by kernel_rfl
set_option maxHeartbeats 4000000 in
theorem alJ1_h {S : Sy} (h : GeoS S) (hm : 1 < S.ρ 5) (e45 : S.ρ 45 = S.ρ 5 - 1) (e71 : S.ρ 71 = 21 + S.ρ 5) (e62 : S.ρ 62 = lg (S.ρ 5)) (e64 : S.ρ 64 = 7 + S.ρ 62) : AllH S alJ1E := by
 have gn := h.n; have ge42 := h.e42
 have b62 := lg_in (S.ρ 5)
 rw [← e62] at b62
 exact ⟨(sm (show (IntKind.i64.wrap ((0 : Int) + S.ρ 5)) = S.ρ 5 from by rw [w_i64 (by omega) (by omega)]; omega)), (sm (show (IntKind.i64.wrap ((0 : Int) * S.ρ 5)) = (0 : Int) from by rw [w_i64 (by omega) (by omega)]; omega)), (tr (p := (1 : Int) < S.ρ 5) (by omega)), (fls (p := S.ρ 5 ≤ (0 : Int)) (by omega)), (fls (p := S.ρ 42 ≤ (22 : Int)) (by omega)), (tr (p := (22 : Int) < S.ρ 42) (by omega)), (sm (show (IntKind.i64.wrap (S.ρ 5 - (1 : Int))) = S.ρ 45 from by rw [w_i64 (by omega) (by omega)]; omega)), (sm (show (IntKind.i64.wrap ((0 : Int) + S.ρ 45)) = S.ρ 45 from by rw [w_i64 (by omega) (by omega)]; omega)), (sm (show (IntKind.i64.wrap (S.ρ 45 * (1 : Int))) = S.ρ 45 from by rw [w_i64 (by omega) (by omega)]; omega)), (sm (show (IntKind.i64.wrap (S.ρ 45 + (0 : Int))) = S.ρ 45 from by rw [w_i64 (by omega) (by omega)]; omega)), (fls (p := S.ρ 45 < (0 : Int)) (by omega)), (fls (p := S.ρ 5 ≤ S.ρ 45) (by omega)), (sm (show (IntKind.i64.wrap ((22 : Int) + S.ρ 45)) = S.ρ 71 from by rw [w_i64 (by omega) (by omega)]; omega)), (fls (p := S.ρ 71 < (0 : Int)) (by omega)), (fls (p := S.ρ 42 ≤ S.ρ 71) (by omega)), (tr (p := (0 : Int) ≤ S.ρ 71) (by omega)), (tr (p := S.ρ 71 < S.ρ 42) (by omega)), (sm (show (IntKind.i64.wrap (S.ρ 71 * (1 : Int))) = S.ρ 71 from by rw [w_i64 (by omega) (by omega)]; omega)), (sm (show (IntKind.i64.wrap (S.ρ 71 + (0 : Int))) = S.ρ 71 from by rw [w_i64 (by omega) (by omega)]; omega)), (fls (p := S.ρ 71 = (22 : Int)) (by omega)), (fls (p := (22 : Int) = S.ρ 71) (by omega)), (sm ((h.lgF _).trans e62.symm)), (sm (show (IntKind.i64.wrap ((0 : Int) + S.ρ 62)) = S.ρ 62 from by rw [w_i64 (by omega) (by omega)]; omega)), (sm (show (IntKind.i64.wrap (S.ρ 62 * (1 : Int))) = S.ρ 62 from by rw [w_i64 (by omega) (by omega)]; omega)), (sm (show (IntKind.i64.wrap (S.ρ 62 + (0 : Int))) = S.ρ 62 from by rw [w_i64 (by omega) (by omega)]; omega)), (fls (p := S.ρ 62 < (0 : Int)) (by omega)), (fls (p := (9 : Int) ≤ S.ρ 62) (by omega)), (sm (show (IntKind.i64.wrap ((7 : Int) + S.ρ 62)) = S.ρ 64 from by rw [w_i64 (by omega) (by omega)]; omega)), (fls (p := S.ρ 64 < (0 : Int)) (by omega)), (fls (p := S.ρ 42 ≤ S.ρ 64) (by omega)), (tr (p := (0 : Int) ≤ S.ρ 64) (by omega)), (tr (p := S.ρ 64 < S.ρ 42) (by omega)), (sm (show (IntKind.i64.wrap (S.ρ 64 * (1 : Int))) = S.ρ 64 from by rw [w_i64 (by omega) (by omega)]; omega)), (sm (show (IntKind.i64.wrap (S.ρ 64 + (0 : Int))) = S.ρ 64 from by rw [w_i64 (by omega) (by omega)]; omega)), (fls (p := S.ρ 64 = (22 : Int)) (by omega)), (fls (p := (22 : Int) = S.ρ 64) (by omega)), (fls (p := S.ρ 64 = S.ρ 71) (by omega)), (fls (p := S.ρ 71 = S.ρ 64) (by omega)), trivial⟩
theorem alJ1_ok {S : Sy} (h : GeoS S) (hm : 1 < S.ρ 5) (e45 : S.ρ 45 = S.ρ 5 - 1) (e71 : S.ρ 71 = 21 + S.ρ 5) (e62 : S.ρ 62 = lg (S.ρ 5)) (e64 : S.ρ 64 = 7 + S.ρ 62) : AlOk S alJ1L := alE alJ1_all alJ1_eq (alJ1_h h hm e45 e71 e62 e64)
end Go.Proofs.YtgokpcaijabhoaaDoor
/-
 SlabBlocks: rounds of the outer loop. Conditions: the invariants.
-/
namespace Go.Proofs.YtgokpcaijabhoaaDoor
open Go.Ev Go.RowKit
set_option maxRecDepth 100000
set_option linter.unusedVariables false
section
variable {ty : TypeId}
def rO100 : ACode := (.upd (.upd (.upd (.upd (.upd (.upd (.upd (.var 63) (Tm.enc (.var .i64 68)) (Tm.enc (.bin .add (.app .u64 63 (.cons (.var .i64 68) .nil)) (.lit .u64 18446744073709551615)))) (Tm.enc (.var .i64 69)) (Tm.enc (.lit .u64 0))) (Tm.enc (.var .i64 72)) (Tm.enc (.lit .u64 9))) (Tm.enc (.var .i64 74)) (Tm.enc (.bin .add (.app .u64 63 (.cons (.var .i64 74) .nil)) (.lit .u64 1)))) (Tm.enc (.var .i64 69)) (Tm.enc (.lit .u64 12))) (Tm.enc (.var .i64 69)) (Tm.enc (.lit .u64 11))) (Tm.enc (.var .i64 75)) (Tm.enc (.lit .u64 4294967806)))
def gO100 (T : Sy) : Int → Int := (fun j => ifE j (T.ρ 75) ((4294967806 : Int)) ((fun j => ifE j (T.ρ 69) ((11 : Int)) ((fun j => ifE j (T.ρ 69) ((12 : Int)) ((fun j => ifE j (T.ρ 74) ((IntKind.u64.wrap ((T.Φ 63 [T.ρ 74]) + (1 : Int)))) ((fun j => ifE j (T.ρ 72) ((9 : Int)) ((fun j => ifE j (T.ρ 69) ((0 : Int)) ((fun j => ifE j (T.ρ 68) ((IntKind.u64.wrap ((T.Φ 63 [T.ρ 68]) + (18446744073709551615 : Int)))) ((fun j => T.Φ 63 [j]) j)) j)) j)) j)) j)) j)) j))
set_option maxHeartbeats 4000000 in
theorem runO100 {S1 : Sy} (ty : TypeId) (ha : AlOk S1 (alGL ++ (alLL ++ (alP10L ++ alO0L)))) (G : Nat → Option Obj) : rOutR 300 [] (XOB ty) (FOB ty) Tryd.prog.globals.size (runM Tryd.prog ΛB (lkL [noL, lkB ty, noL]) ftB ha [cLg] G 1000 (.code (cAt Tryd.prog lpOB) (XOB ty).A) ((XOB ty).H Tryd.prog)) = some (none, asgO rO100 t50_1.enc) := by kernel_rfl
set_option maxHeartbeats 8000000 in
theorem wayO100 {T : Sy} {i : Int} (R : RNm T i) (h21 : T.ρ 21 = i) (hw : i < T.ρ 17) (hd : (T.ρ 20 + i) % 4 = 0) (hl : T.ρ 5 - i - 1 = 1) (hs : T.ρ 74 ≠ T.ρ 68) (lk : LkAt Tryd.prog T (gsT ty) (.loop (cAt Tryd.prog lpBB)) (lkB ty)) : WayO ty T i := by
 have hK := R.geo.K
 have hws := R.geo.w
 obtain ⟨e68, e69, e71, e72, e74, e75, l0, l1, l2, l3, n0, n1, i0, i1⟩ := places R
 obtain ⟨S2, hS2⟩ : ∃ S2 : Sy, S2 = T.set (upd T.ρ [(21, i + 1), (50, m50_1 T)]) [(60, gO100 T)] 60 rfl hK := ⟨_, rfl⟩
 have y : Stay [21, 50] [60] T S2 := by rw [hS2]; exact (Stay.refl _ _ _).set rfl rfl
 have s21 : S2.ρ 21 = i + 1 := by rw [hS2]; rfl
 have s50 : S2.ρ 50 = m50_1 T := by rw [hS2]; rfl
 have z : ∀ j : Int, S2.Φ 60 [j] = gO100 T j := by rw [hS2]; intro j; rfl
 clear hS2
 have hr : Row T rO100 (gO100 T) := by
  unfold rO100 gO100
  (repeat refine ar_upd _ _ (by rfl) (by rfl) (by kernel_rfl) ?_)
  exact ar_var _
 have hA := asgO_ok hr (fun j => (z j).symm) t50_1 (by rw [s50]; rfl) (by kernel_rfl) (by rw [h21, w_i64 (by omega) (by omega), s21]) y
 have hm : Mem S2 60 (i + 1) := memO R y z hd (fun j h0 h1 => by unfold gO100; dsimp only [ifE]; (repeat rw [if_neg (by omega)])) (by unfold gO100; dsimp only [ifE]; rw [if_neg (by omega), if_pos (by omega)]; rfl) (by unfold gO100; dsimp only [ifE]; (repeat rw [if_neg (by omega)]); rw [if_pos (by omega)]; exact by unfold freeW; omega) (fun j h0 h1 h2 => by unfold gO100; dsimp only [ifE]; (repeat rw [if_neg (by omega)])) (by unfold gO100; dsimp only [ifE]; rw [if_pos (by omega)]; rfl)
 exact ⟨S2, fun U hU => ⟨_, _, _, 1000, _, [], AlOk.app (alG_ok R.geo) (AlOk.app (alL_ok R.geo) (AlOk.app (alP10_ok R hl hs) (alO0_ok R h21 hw hd))), cs1_ok R, lkO_all lk, setT hA hU (by kernel_rfl), runO100 ty _⟩, ⟨R.geo.stay y rfl rfl, by omega, by rw [y.num 17 rfl]; omega, s21, hm⟩, y⟩
def rO101 : ACode := (.upd (.upd (.upd (.upd (.upd (.upd (.upd (.var 63) (Tm.enc (.var .i64 68)) (Tm.enc (.bin .add (.app .u64 63 (.cons (.var .i64 68) .nil)) (.lit .u64 18446744073709551615)))) (Tm.enc (.var .i64 69)) (Tm.enc (.lit .u64 0))) (Tm.enc (.var .i64 72)) (Tm.enc (.lit .u64 9))) (Tm.enc (.var .i64 74)) (Tm.enc (.bin .add (.app .u64 63 (.cons (.var .i64 74) .nil)) (.lit .u64 1)))) (Tm.enc (.var .i64 69)) (Tm.enc (.lit .u64 12))) (Tm.enc (.var .i64 69)) (Tm.enc (.lit .u64 8203))) (Tm.enc (.var .i64 75)) (Tm.enc (.lit .u64 4294967822)))
def gO101 (T : Sy) : Int → Int := (fun j => ifE j (T.ρ 75) ((4294967822 : Int)) ((fun j => ifE j (T.ρ 69) ((8203 : Int)) ((fun j => ifE j (T.ρ 69) ((12 : Int)) ((fun j => ifE j (T.ρ 74) ((IntKind.u64.wrap ((T.Φ 63 [T.ρ 74]) + (1 : Int)))) ((fun j => ifE j (T.ρ 72) ((9 : Int)) ((fun j => ifE j (T.ρ 69) ((0 : Int)) ((fun j => ifE j (T.ρ 68) ((IntKind.u64.wrap ((T.Φ 63 [T.ρ 68]) + (18446744073709551615 : Int)))) ((fun j => T.Φ 63 [j]) j)) j)) j)) j)) j)) j)) j))
set_option maxHeartbeats 4000000 in
theorem runO101 {S1 : Sy} (ty : TypeId) (ha : AlOk S1 (alGL ++ (alLL ++ (alP10L ++ alO1L)))) (G : Nat → Option Obj) : rOutR 300 [] (XOB ty) (FOB ty) Tryd.prog.globals.size (runM Tryd.prog ΛB (lkL [noL, lkB ty, noL]) ftB ha [cLg] G 1000 (.code (cAt Tryd.prog lpOB) (XOB ty).A) ((XOB ty).H Tryd.prog)) = some (none, asgO rO101 t50_1.enc) := by kernel_rfl
set_option maxHeartbeats 8000000 in
theorem wayO101 {T : Sy} {i : Int} (R : RNm T i) (h21 : T.ρ 21 = i) (hw : i < T.ρ 17) (hd : (T.ρ 20 + i) % 4 = 1) (hl : T.ρ 5 - i - 1 = 1) (hs : T.ρ 74 ≠ T.ρ 68) (lk : LkAt Tryd.prog T (gsT ty) (.loop (cAt Tryd.prog lpBB)) (lkB ty)) : WayO ty T i := by
 have hK := R.geo.K
 have hws := R.geo.w
 obtain ⟨e68, e69, e71, e72, e74, e75, l0, l1, l2, l3, n0, n1, i0, i1⟩ := places R
 obtain ⟨S2, hS2⟩ : ∃ S2 : Sy, S2 = T.set (upd T.ρ [(21, i + 1), (50, m50_1 T)]) [(60, gO101 T)] 60 rfl hK := ⟨_, rfl⟩
 have y : Stay [21, 50] [60] T S2 := by rw [hS2]; exact (Stay.refl _ _ _).set rfl rfl
 have s21 : S2.ρ 21 = i + 1 := by rw [hS2]; rfl
 have s50 : S2.ρ 50 = m50_1 T := by rw [hS2]; rfl
 have z : ∀ j : Int, S2.Φ 60 [j] = gO101 T j := by rw [hS2]; intro j; rfl
 clear hS2
 have hr : Row T rO101 (gO101 T) := by
  unfold rO101 gO101
  (repeat refine ar_upd _ _ (by rfl) (by rfl) (by kernel_rfl) ?_)
  exact ar_var _
 have hA := asgO_ok hr (fun j => (z j).symm) t50_1 (by rw [s50]; rfl) (by kernel_rfl) (by rw [h21, w_i64 (by omega) (by omega), s21]) y
 have hm : Mem S2 60 (i + 1) := memO R y z hd (fun j h0 h1 => by unfold gO101; dsimp only [ifE]; (repeat rw [if_neg (by omega)])) (by unfold gO101; dsimp only [ifE]; rw [if_neg (by omega), if_pos (by omega)]; rfl) (by unfold gO101; dsimp only [ifE]; (repeat rw [if_neg (by omega)]); rw [if_pos (by omega)]; exact by unfold freeW; omega) (fun j h0 h1 h2 => by unfold gO101; dsimp only [ifE]; (repeat rw [if_neg (by omega)])) (by unfold gO101; dsimp only [ifE]; rw [if_pos (by omega)]; rfl)
 exact ⟨S2, fun U hU => ⟨_, _, _, 1000, _, [], AlOk.app (alG_ok R.geo) (AlOk.app (alL_ok R.geo) (AlOk.app (alP10_ok R hl hs) (alO1_ok R h21 hw hd))), cs1_ok R, lkO_all lk, setT hA hU (by kernel_rfl), runO101 ty _⟩, ⟨R.geo.stay y rfl rfl, by omega, by rw [y.num 17 rfl]; omega, s21, hm⟩, y⟩
def rO102 : ACode := (.upd (.upd (.upd (.upd (.upd (.upd (.upd (.var 63) (Tm.enc (.var .i64 68)) (Tm.enc (.bin .add (.app .u64 63 (.cons (.var .i64 68) .nil)) (.lit .u64 18446744073709551615)))) (Tm.enc (.var .i64 69)) (Tm.enc (.lit .u64 0))) (Tm.enc (.var .i64 72)) (Tm.enc (.lit .u64 9))) (Tm.enc (.var .i64 74)) (Tm.enc (.bin .add (.app .u64 63 (.cons (.var .i64 74) .nil)) (.lit .u64 1)))) (Tm.enc (.var .i64 69)) (Tm.enc (.lit .u64 12))) (Tm.enc (.var .i64 69)) (Tm.enc (.lit .u64 16395))) (Tm.enc (.var .i64 75)) (Tm.enc (.lit .u64 4294968066)))
def gO102 (T : Sy) : Int → Int := (fun j => ifE j (T.ρ 75) ((4294968066 : Int)) ((fun j => ifE j (T.ρ 69) ((16395 : Int)) ((fun j => ifE j (T.ρ 69) ((12 : Int)) ((fun j => ifE j (T.ρ 74) ((IntKind.u64.wrap ((T.Φ 63 [T.ρ 74]) + (1 : Int)))) ((fun j => ifE j (T.ρ 72) ((9 : Int)) ((fun j => ifE j (T.ρ 69) ((0 : Int)) ((fun j => ifE j (T.ρ 68) ((IntKind.u64.wrap ((T.Φ 63 [T.ρ 68]) + (18446744073709551615 : Int)))) ((fun j => T.Φ 63 [j]) j)) j)) j)) j)) j)) j)) j))
set_option maxHeartbeats 4000000 in
theorem runO102 {S1 : Sy} (ty : TypeId) (ha : AlOk S1 (alGL ++ (alLL ++ (alP10L ++ alO2L)))) (G : Nat → Option Obj) : rOutR 300 [] (XOB ty) (FOB ty) Tryd.prog.globals.size (runM Tryd.prog ΛB (lkL [noL, lkB ty, noL]) ftB ha [cLg] G 1000 (.code (cAt Tryd.prog lpOB) (XOB ty).A) ((XOB ty).H Tryd.prog)) = some (none, asgO rO102 t50_1.enc) := by kernel_rfl
set_option maxHeartbeats 8000000 in
theorem wayO102 {T : Sy} {i : Int} (R : RNm T i) (h21 : T.ρ 21 = i) (hw : i < T.ρ 17) (hd : (T.ρ 20 + i) % 4 = 2) (hl : T.ρ 5 - i - 1 = 1) (hs : T.ρ 74 ≠ T.ρ 68) (lk : LkAt Tryd.prog T (gsT ty) (.loop (cAt Tryd.prog lpBB)) (lkB ty)) : WayO ty T i := by
 have hK := R.geo.K
 have hws := R.geo.w
 obtain ⟨e68, e69, e71, e72, e74, e75, l0, l1, l2, l3, n0, n1, i0, i1⟩ := places R
 obtain ⟨S2, hS2⟩ : ∃ S2 : Sy, S2 = T.set (upd T.ρ [(21, i + 1), (50, m50_1 T)]) [(60, gO102 T)] 60 rfl hK := ⟨_, rfl⟩
 have y : Stay [21, 50] [60] T S2 := by rw [hS2]; exact (Stay.refl _ _ _).set rfl rfl
 have s21 : S2.ρ 21 = i + 1 := by rw [hS2]; rfl
 have s50 : S2.ρ 50 = m50_1 T := by rw [hS2]; rfl
 have z : ∀ j : Int, S2.Φ 60 [j] = gO102 T j := by rw [hS2]; intro j; rfl
 clear hS2
 have hr : Row T rO102 (gO102 T) := by
  unfold rO102 gO102
  (repeat refine ar_upd _ _ (by rfl) (by rfl) (by kernel_rfl) ?_)
  exact ar_var _
 have hA := asgO_ok hr (fun j => (z j).symm) t50_1 (by rw [s50]; rfl) (by kernel_rfl) (by rw [h21, w_i64 (by omega) (by omega), s21]) y
 have hm : Mem S2 60 (i + 1) := memO R y z hd (fun j h0 h1 => by unfold gO102; dsimp only [ifE]; (repeat rw [if_neg (by omega)])) (by unfold gO102; dsimp only [ifE]; rw [if_neg (by omega), if_pos (by omega)]; rfl) (by unfold gO102; dsimp only [ifE]; (repeat rw [if_neg (by omega)]); rw [if_pos (by omega)]; exact by unfold freeW; omega) (fun j h0 h1 h2 => by unfold gO102; dsimp only [ifE]; (repeat rw [if_neg (by omega)])) (by unfold gO102; dsimp only [ifE]; rw [if_pos (by omega)]; rfl)
 exact ⟨S2, fun U hU => ⟨_, _, _, 1000, _, [], AlOk.app (alG_ok R.geo) (AlOk.app (alL_ok R.geo) (AlOk.app (alP10_ok R hl hs) (alO2_ok R h21 hw hd))), cs1_ok R, lkO_all lk, setT hA hU (by kernel_rfl), runO102 ty _⟩, ⟨R.geo.stay y rfl rfl, by omega, by rw [y.num 17 rfl]; omega, s21, hm⟩, y⟩
def rO103 : ACode := (.upd (.upd (.upd (.upd (.upd (.upd (.upd (.var 63) (Tm.enc (.var .i64 68)) (Tm.enc (.bin .add (.app .u64 63 (.cons (.var .i64 68) .nil)) (.lit .u64 18446744073709551615)))) (Tm.enc (.var .i64 69)) (Tm.enc (.lit .u64 0))) (Tm.enc (.var .i64 72)) (Tm.enc (.lit .u64 9))) (Tm.enc (.var .i64 74)) (Tm.enc (.bin .add (.app .u64 63 (.cons (.var .i64 74) .nil)) (.lit .u64 1)))) (Tm.enc (.var .i64 69)) (Tm.enc (.lit .u64 12))) (Tm.enc (.var .i64 69)) (Tm.enc (.lit .u64 24587))) (Tm.enc (.var .i64 75)) (Tm.enc (.lit .u64 4294968322)))
def gO103 (T : Sy) : Int → Int := (fun j => ifE j (T.ρ 75) ((4294968322 : Int)) ((fun j => ifE j (T.ρ 69) ((24587 : Int)) ((fun j => ifE j (T.ρ 69) ((12 : Int)) ((fun j => ifE j (T.ρ 74) ((IntKind.u64.wrap ((T.Φ 63 [T.ρ 74]) + (1 : Int)))) ((fun j => ifE j (T.ρ 72) ((9 : Int)) ((fun j => ifE j (T.ρ 69) ((0 : Int)) ((fun j => ifE j (T.ρ 68) ((IntKind.u64.wrap ((T.Φ 63 [T.ρ 68]) + (18446744073709551615 : Int)))) ((fun j => T.Φ 63 [j]) j)) j)) j)) j)) j)) j)) j))
set_option maxHeartbeats 4000000 in
theorem runO103 {S1 : Sy} (ty : TypeId) (ha : AlOk S1 (alGL ++ (alLL ++ (alP10L ++ alO3L)))) (G : Nat → Option Obj) : rOutR 300 [] (XOB ty) (FOB ty) Tryd.prog.globals.size (runM Tryd.prog ΛB (lkL [noL, lkB ty, noL]) ftB ha [cLg] G 1000 (.code (cAt Tryd.prog lpOB) (XOB ty).A) ((XOB ty).H Tryd.prog)) = some (none, asgO rO103 t50_1.enc) := by kernel_rfl
set_option maxHeartbeats 8000000 in
theorem wayO103 {T : Sy} {i : Int} (R : RNm T i) (h21 : T.ρ 21 = i) (hw : i < T.ρ 17) (hd : (T.ρ 20 + i) % 4 = 3) (hl : T.ρ 5 - i - 1 = 1) (hs : T.ρ 74 ≠ T.ρ 68) (lk : LkAt Tryd.prog T (gsT ty) (.loop (cAt Tryd.prog lpBB)) (lkB ty)) : WayO ty T i := by
 have hK := R.geo.K
 have hws := R.geo.w
 obtain ⟨e68, e69, e71, e72, e74, e75, l0, l1, l2, l3, n0, n1, i0, i1⟩ := places R
 obtain ⟨S2, hS2⟩ : ∃ S2 : Sy, S2 = T.set (upd T.ρ [(21, i + 1), (50, m50_1 T)]) [(60, gO103 T)] 60 rfl hK := ⟨_, rfl⟩
 have y : Stay [21, 50] [60] T S2 := by rw [hS2]; exact (Stay.refl _ _ _).set rfl rfl
 have s21 : S2.ρ 21 = i + 1 := by rw [hS2]; rfl
 have s50 : S2.ρ 50 = m50_1 T := by rw [hS2]; rfl
 have z : ∀ j : Int, S2.Φ 60 [j] = gO103 T j := by rw [hS2]; intro j; rfl
 clear hS2
 have hr : Row T rO103 (gO103 T) := by
  unfold rO103 gO103
  (repeat refine ar_upd _ _ (by rfl) (by rfl) (by kernel_rfl) ?_)
  exact ar_var _
 have hA := asgO_ok hr (fun j => (z j).symm) t50_1 (by rw [s50]; rfl) (by kernel_rfl) (by rw [h21, w_i64 (by omega) (by omega), s21]) y
 have hm : Mem S2 60 (i + 1) := memO R y z hd (fun j h0 h1 => by unfold gO103; dsimp only [ifE]; (repeat rw [if_neg (by omega)])) (by unfold gO103; dsimp only [ifE]; rw [if_neg (by omega), if_pos (by omega)]; rfl) (by unfold gO103; dsimp only [ifE]; (repeat rw [if_neg (by omega)]); rw [if_pos (by omega)]; exact by unfold freeW; omega) (fun j h0 h1 h2 => by unfold gO103; dsimp only [ifE]; (repeat rw [if_neg (by omega)])) (by unfold gO103; dsimp only [ifE]; rw [if_pos (by omega)]; rfl)
 exact ⟨S2, fun U hU => ⟨_, _, _, 1000, _, [], AlOk.app (alG_ok R.geo) (AlOk.app (alL_ok R.geo) (AlOk.app (alP10_ok R hl hs) (alO3_ok R h21 hw hd))), cs1_ok R, lkO_all lk, setT hA hU (by kernel_rfl), runO103 ty _⟩, ⟨R.geo.stay y rfl rfl, by omega, by rw [y.num 17 rfl]; omega, s21, hm⟩, y⟩
end
end Go.Proofs.YtgokpcaijabhoaaDoor
/-
 SlabBlocks: what is decided ahead, behind bestFit and at the end. Conditions: those each says.
-/
namespace Go.Proofs.YtgokpcaijabhoaaDoor
open Go.Ev Go.RowKit
set_option maxRecDepth 100000
set_option linter.unusedVariables false
def alP20E : List En := [.ds (.bin .eql (.var .i64 24) (.lit .i64 0)) false, .iv (.bin .rem (.var .i64 23) (.lit .i64 1)) 0, .iv (.bin .mul (.lit .i64 0) (.var .i64 5)) 0, .nm (.bin .add (.var .i64 23) (.lit .i64 1)) 66, .nm (.app .i64 30 (.cons (.var .i64 24) .nil)) 67, .nm (.bin .add (.lit .i64 0) (.var .i64 67)) 67, .nm (.bin .mul (.var .i64 67) (.lit .i64 1)) 67, .nm (.bin .add (.var .i64 67) (.lit .i64 0)) 67, .ds (.bin .lss (.var .i64 67) (.lit .i64 0)) false, .ds (.bin .geq (.var .i64 67) (.lit .i64 9)) false, .nm (.bin .add (.lit .i64 7) (.var .i64 67)) 68, .ds (.bin .lss (.var .i64 68) (.lit .i64 0)) false, .ds (.bin .geq (.var .i64 68) (.var .i64 42)) false, .ds (.bin .geq (.var .i64 68) (.lit .i64 0)) true, .ds (.bin .lss (.var .i64 68) (.var .i64 42)) true, .nm (.bin .mul (.var .i64 68) (.lit .i64 1)) 68, .nm (.bin .add (.var .i64 68) (.lit .i64 0)) 68, .nm (.bin .sub (.var .i64 66) (.lit .i64 1)) 23, .nm (.bin .add (.lit .i64 0) (.var .i64 23)) 23, .nm (.bin .mul (.var .i64 23) (.lit .i64 1)) 23, .nm (.bin .add (.var .i64 23) (.lit .i64 0)) 23, .ds (.bin .lss (.var .i64 23) (.lit .i64 0)) false, .ds (.bin .geq (.var .i64 23) (.var .i64 5)) false, .nm (.bin .add (.lit .i64 22) (.var .i64 23)) 69, .ds (.bin .lss (.var .i64 69) (.lit .i64 0)) false, .ds (.bin .geq (.var .i64 69) (.var .i64 42)) false, .ds (.bin .geq (.var .i64 69) (.lit .i64 0)) true, .ds (.bin .lss (.var .i64 69) (.var .i64 42)) true, .nm (.bin .mul (.var .i64 69) (.lit .i64 1)) 69, .nm (.bin .add (.var .i64 69) (.lit .i64 0)) 69, .iv (.bin .sub (.var .i64 23) (.var .i64 23)) 0, .nm (.bin .add (.var .i64 23) (.var .i64 24)) 44, .nm (.bin .add (.lit .i64 0) (.var .i64 23)) 23, .nm (.bin .mul (.var .i64 23) (.lit .i64 1)) 23, .nm (.bin .add (.var .i64 23) (.lit .i64 0)) 23, .ds (.bin .lss (.var .i64 23) (.lit .i64 0)) false, .ds (.bin .geq (.var .i64 23) (.var .i64 5)) false, .nm (.bin .add (.var .i64 31) (.var .i64 23)) 75, .ds (.bin .lss (.var .i64 75) (.lit .i64 0)) false, .ds (.bin .geq (.var .i64 75) (.var .i64 42)) false, .ds (.bin .geq (.var .i64 75) (.lit .i64 0)) true, .ds (.bin .lss (.var .i64 75) (.var .i64 42)) true, .nm (.bin .mul (.var .i64 75) (.lit .i64 1)) 75, .nm (.bin .add (.var .i64 75) (.lit .i64 0)) 75, .nm (.bin .add (.var .i64 32) (.var .i64 23)) 76, .ds (.bin .geq (.var .i64 76) (.lit .i64 0)) true, .ds (.bin .lss (.var .i64 76) (.lit .i64 0)) false, .iu (.app .u64 63 (.cons (.var .i64 75) .nil)) 0, .ds (.bin .eql (.var .i64 68) (.var .i64 69)) false, .ds (.bin .eql (.var .i64 69) (.var .i64 68)) false, .ds (.bin .eql (.var .i64 68) (.var .i64 75)) false, .ds (.bin .eql (.var .i64 75) (.var .i64 68)) false, .ds (.bin .eql (.var .i64 69) (.var .i64 75)) false, .ds (.bin .eql (.var .i64 75) (.var .i64 69)) false, .nm (.bin .sub (.var .i64 44) (.var .i64 66)) 70, .ds (.bin .lss (.var .i64 70) (.lit .i64 1)) false, .ds (.bin .gtr (.var .i64 70) (.lit .i64 1)) true, .nm (.bin .add (.lit .i64 0) (.var .i64 66)) 66, .nm (.bin .mul (.var .i64 66) (.lit .i64 1)) 66, .nm (.bin .add (.var .i64 66) (.lit .i64 0)) 66, .ds (.bin .lss (.var .i64 66) (.lit .i64 0)) false, .ds (.bin .geq (.var .i64 66) (.var .i64 5)) false, .nm (.bin .add (.lit .i64 22) (.var .i64 66)) 72, .ds (.bin .lss (.var .i64 72) (.lit .i64 0)) false, .ds (.bin .geq (.var .i64 72) (.var .i64 42)) false, .ds (.bin .geq (.var .i64 72) (.lit .i64 0)) true, .ds (.bin .lss (.var .i64 72) (.var .i64 42)) true, .nm (.bin .mul (.var .i64 72) (.lit .i64 1)) 72, .nm (.bin .add (.var .i64 72) (.lit .i64 0)) 72, .ds (.bin .eql (.var .i64 72) (.var .i64 68)) false, .ds (.bin .eql (.var .i64 68) (.var .i64 72)) false, .ds (.bin .eql (.var .i64 72) (.var .i64 69)) false, .ds (.bin .eql (.var .i64 69) (.var .i64 72)) false, .ds (.bin .eql (.var .i64 72) (.var .i64 75)) false, .ds (.bin .eql (.var .i64 75) (.var .i64 72)) false, .nm (.bin .add (.var .i64 66) (.var .i64 70)) 44, .nm (.bin .sub (.var .i64 44) (.lit .i64 1)) 45, .nm (.bin .add (.lit .i64 0) (.var .i64 45)) 45, .nm (.bin .mul (.var .i64 45) (.lit .i64 1)) 45, .nm (.bin .add (.var .i64 45) (.lit .i64 0)) 45, .ds (.bin .lss (.var .i64 45) (.lit .i64 0)) false, .ds (.bin .geq (.var .i64 45) (.var .i64 5)) false, .nm (.bin .add (.lit .i64 22) (.var .i64 45)) 71, .ds (.bin .lss (.var .i64 71) (.lit .i64 0)) false, .ds (.bin .geq (.var .i64 71) (.var .i64 42)) false, .ds (.bin .geq (.var .i64 71) (.lit .i64 0)) true, .ds (.bin .lss (.var .i64 71) (.var .i64 42)) true, .nm (.bin .mul (.var .i64 71) (.lit .i64 1)) 71, .nm (.bin .add (.var .i64 71) (.lit .i64 0)) 71, .ds (.bin .eql (.var .i64 71) (.var .i64 68)) false, .ds (.bin .eql (.var .i64 68) (.var .i64 71)) false, .ds (.bin .eql (.var .i64 71) (.var .i64 69)) false, .ds (.bin .eql (.var .i64 69) (.var .i64 71)) false, .ds (.bin .eql (.var .i64 71) (.var .i64 72)) false, .ds (.bin .eql (.var .i64 72) (.var .i64 71)) false, .ds (.bin .eql (.var .i64 71) (.var .i64 75)) false, .ds (.bin .eql (.var .i64 75) (.var .i64 71)) false, .nm (.app .i64 30 (.cons (.var .i64 70) .nil)) 73, .nm (.bin .add (.lit .i64 0) (.var .i64 73)) 73, .nm (.bin .mul (.var .i64 73) (.lit .i64 1)) 73, .nm (.bin .add (.var .i64 73) (.lit .i64 0)) 73, .ds (.bin .lss (.var .i64 73) (.lit .i64 0)) false, .ds (.bin .geq (.var .i64 73) (.lit .i64 9)) false, .nm (.bin .add (.lit .i64 7) (.var .i64 73)) 74, .ds (.bin .lss (.var .i64 74) (.lit .i64 0)) false, .ds (.bin .geq (.var .i64 74) (.var .i64 42)) false, .ds (.bin .geq (.var .i64 74) (.lit .i64 0)) true, .ds (.bin .lss (.var .i64 74) (.var .i64 42)) true, .nm (.bin .mul (.var .i64 74) (.lit .i64 1)) 74, .nm (.bin .add (.var .i64 74) (.lit .i64 0)) 74, .ds (.bin .eql (.var .i64 74) (.var .i64 69)) false, .ds (.bin .eql (.var .i64 69) (.var .i64 74)) false, .ds (.bin .eql (.var .i64 74) (.var .i64 72)) false, .ds (.bin .eql (.var .i64 72) (.var .i64 74)) false, .ds (.bin .eql (.var .i64 74) (.var .i64 75)) false, .ds (.bin .eql (.var .i64 75) (.var .i64 74)) false, .ds (.bin .eql (.var .i64 74) (.var .i64 71)) false, .ds (.bin .eql (.var .i64 71) (.var .i64 74)) false, .ds (.bin .eql (.var .i64 74) (.var .i64 68)) false, .ds (.bin .eql (.var .i64 68) (.var .i64 74)) false]
def alP20L : List (Nat × Value) := [(6599049480411, .bool false), (404740907209891, .int .i64 0), (1597828503699, .int .i64 0), (404740907209859, .float .f64 33795), (580855166661601691460163, .float .f64 34307), (25340407718019, .float .f64 34307), (1178797093164179, .float .f64 34307), (18418799478915, .float .f64 34307), (18418799479019, .bool false), (9430391341456131, .bool false), (7906639755616387, .float .f64 34819), (18693677385963, .bool false), (38284617022709507, .bool false), (18693677385987, .bool true), (38284617022709483, .bool true), (1196389279208595, .float .f64 34819), (18693677385859, .float .f64 34819), (1161204907119755, .float .f64 11779), (6442551614595, .float .f64 11779), (404740907209875, .float .f64 11779), (6324171573379, .float .f64 11779), (6324171573483, .bool false), (1618979432962307, .bool false), (6198892039249027, .float .f64 35331), (18968555292907, .bool false), (38847566976130819, .bool false), (18968555292931, .bool true), (38847566976130795, .bool true), (1213981465253011, .float .f64 35331), (18968555292803, .float .f64 35331), (6475968969448587, .int .i64 0), (6475986149317763, .float .f64 22531), (6442551614595, .float .f64 11779), (404740907209875, .float .f64 11779), (6324171573379, .float .f64 11779), (6324171573483, .bool false), (1618979432962307, .bool false), (8727768783133827, .float .f64 38403), (20617822734571, .bool false), (42225266696658691, .bool false), (20617822734595, .bool true), (42225266696658667, .bool true), (1319534581519507, .float .f64 38403), (20617822734467, .float .f64 38403), (9009243759844483, .float .f64 38915), (20892700641539, .bool true), (20892700641515, .bool false), (4804421689778140629460551, .int .u64 0), (76568976246710491, .bool false), (77694858973683931, .bool false), (76569079325925595, .bool false), (84450258414739675, .bool false), (77694979232768219, .bool false), (84450275594608859, .bool false), (49547326942879883, .float .f64 35843), (1231573651297515, .bool false), (1231573651297531, .bool true), (25323227848835, .float .f64 33795), (1161204907119763, .float .f64 33795), (18143921571971, .float .f64 33795), (18143921572075, .bool false), (4644835432601859, .bool false), (24795121178386563, .float .f64 36867), (19793189013739, .bool false), (40536416836394755, .bool false), (19793189013763, .bool true), (40536416836394731, .bool true), (1266758023386259, .float .f64 36867), (19793189013635, .float .f64 36867), (81072558694211803, .bool false), (76569027786318043, .bool false), (81072575874080987, .bool false), (77694927693160667, .bool false), (81072678953296091, .bool false), (84450327134216411, .bool false), (74317193612894339, .float .f64 22531), (774176814142603, .float .f64 23043), (12867822689923, .float .f64 23043), (791769000187027, .float .f64 23043), (12371485526147, .float .f64 23043), (12371485526251, .bool false), (3167091804870915, .bool false), (12397766797958787, .float .f64 36355), (19518311106795, .bool false), (39973466882973443, .bool false), (19518311106819, .bool true), (39973466882973419, .bool true), (1249165837341843, .float .f64 36355), (19518311106691, .float .f64 36355), (79946658787369179, .bool false), (76569010606448859, .bool false), (79946675967238363, .bool false), (77694910513291483, .bool false), (79946727506845915, .bool false), (81072610233819355, .bool false), (79946779046453467, .bool false), (84450309954347227, .bool false), (2308060707771174428370499, .float .f64 37379), (25443486933123, .float .f64 37379), (1284350209430675, .float .f64 37379), (20068066920579, .float .f64 37379), (20068066920683, .bool false), (10274816271588099, .bool false), (7906742834831491, .float .f64 37891), (20342944827627, .bool false), (41662316743237379, .bool false), (20342944827651, .bool true), (41662316743237355, .bool true), (1301942395475091, .float .f64 37891), (20342944827523, .float .f64 37891), (83324375687766235, .bool false), (77694962052899035, .bool false), (83324427227373787, .bool false), (81072661773426907, .bool false), (83324478766981339, .bool false), (84450361493954779, .bool false), (83324410047504603, .bool false), (79946761866584283, .bool false), (83324358507897051, .bool false), (76569062146056411, .bool false)]
theorem alP20_eq : alP20L = alP20E.map En.pr := by kernel_rfl
theorem alP20_all : (alP20E.all En.okB) = true := by kernel_rfl
set_option maxHeartbeats 4000000 in
theorem alP20_h {S : Sy} {i : Int} (h : RNm S i) (hl : 2 ≤ S.ρ 5 - i - 1) (hs : S.ρ 74 ≠ S.ρ 68) : AllH S alP20E := by
 have gi0 := h.i0; have ghin := h.hin; have ggeo_n := h.geo.n; have ggeo_e31 := h.geo.e31; have ggeo_e32 := h.geo.e32; have ggeo_e42 := h.geo.e42; have ge23 := h.e23; have ge24 := h.e24; have ge66 := h.e66; have ge67 := h.e67; have ge68 := h.e68; have ge69 := h.e69; have ge75 := h.e75; have ge76 := h.e76; have ge44 := h.e44; have ge45 := h.e45; have ge70 := h.e70; have ge71 := h.e71; have ge72 := h.e72; have ge73 := h.e73; have ge74 := h.e74
 have b67 := lg_in (S.ρ 5 - i)
 rw [← ge67] at b67
 have b73 := lg_in (S.ρ 5 - i - 1)
 rw [← ge73] at b73
 have f67 : S.Φ 30 [S.ρ 24] = S.ρ 67 := (h.geo.lgF _).trans (by rw [ge67, ge24])
 have f73 : S.Φ 30 [S.ρ 70] = S.ρ 73 := (h.geo.lgF _).trans (by rw [ge73, ge70])
 have hz := h.mem.zb i (Int.le_refl _) ghin
 rw [← ge75] at hz
 exact ⟨(fls (p := S.ρ 24 = (0 : Int)) (by omega)), (sm (show (S.ρ 23).tmod (1 : Int) = 0 from Int.tmod_one _)), (sm (show (IntKind.i64.wrap ((0 : Int) * S.ρ 5)) = (0 : Int) from by rw [w_i64 (by omega) (by omega)]; omega)), (sm (show (IntKind.i64.wrap (S.ρ 23 + (1 : Int))) = S.ρ 66 from by rw [w_i64 (by omega) (by omega)]; omega)), (sm f67), (sm (show (IntKind.i64.wrap ((0 : Int) + S.ρ 67)) = S.ρ 67 from by rw [w_i64 (by omega) (by omega)]; omega)), (sm (show (IntKind.i64.wrap (S.ρ 67 * (1 : Int))) = S.ρ 67 from by rw [w_i64 (by omega) (by omega)]; omega)), (sm (show (IntKind.i64.wrap (S.ρ 67 + (0 : Int))) = S.ρ 67 from by rw [w_i64 (by omega) (by omega)]; omega)), (fls (p := S.ρ 67 < (0 : Int)) (by omega)), (fls (p := (9 : Int) ≤ S.ρ 67) (by omega)), (sm (show (IntKind.i64.wrap ((7 : Int) + S.ρ 67)) = S.ρ 68 from by rw [w_i64 (by omega) (by omega)]; omega)), (fls (p := S.ρ 68 < (0 : Int)) (by omega)), (fls (p := S.ρ 42 ≤ S.ρ 68) (by omega)), (tr (p := (0 : Int) ≤ S.ρ 68) (by omega)), (tr (p := S.ρ 68 < S.ρ 42) (by omega)), (sm (show (IntKind.i64.wrap (S.ρ 68 * (1 : Int))) = S.ρ 68 from by rw [w_i64 (by omega) (by omega)]; omega)), (sm (show (IntKind.i64.wrap (S.ρ 68 + (0 : Int))) = S.ρ 68 from by rw [w_i64 (by omega) (by omega)]; omega)), (sm (show (IntKind.i64.wrap (S.ρ 66 - (1 : Int))) = S.ρ 23 from by rw [w_i64 (by omega) (by omega)]; omega)), (sm (show (IntKind.i64.wrap ((0 : Int) + S.ρ 23)) = S.ρ 23 from by rw [w_i64 (by omega) (by omega)]; omega)), (sm (show (IntKind.i64.wrap (S.ρ 23 * (1 : Int))) = S.ρ 23 from by rw [w_i64 (by omega) (by omega)]; omega)), (sm (show (IntKind.i64.wrap (S.ρ 23 + (0 : Int))) = S.ρ 23 from by rw [w_i64 (by omega) (by omega)]; omega)), (fls (p := S.ρ 23 < (0 : Int)) (by omega)), (fls (p := S.ρ 5 ≤ S.ρ 23) (by omega)), (sm (show (IntKind.i64.wrap ((22 : Int) + S.ρ 23)) = S.ρ 69 from by rw [w_i64 (by omega) (by omega)]; omega)), (fls (p := S.ρ 69 < (0 : Int)) (by omega)), (fls (p := S.ρ 42 ≤ S.ρ 69) (by omega)), (tr (p := (0 : Int) ≤ S.ρ 69) (by omega)), (tr (p := S.ρ 69 < S.ρ 42) (by omega)), (sm (show (IntKind.i64.wrap (S.ρ 69 * (1 : Int))) = S.ρ 69 from by rw [w_i64 (by omega) (by omega)]; omega)), (sm (show (IntKind.i64.wrap (S.ρ 69 + (0 : Int))) = S.ρ 69 from by rw [w_i64 (by omega) (by omega)]; omega)), (sm (show (IntKind.i64.wrap (S.ρ 23 - S.ρ 23)) = (0 : Int) from by rw [w_i64 (by omega) (by omega)]; omega)), (sm (show (IntKind.i64.wrap (S.ρ 23 + S.ρ 24)) = S.ρ 44 from by rw [w_i64 (by omega) (by omega)]; omega)), (sm (show (IntKind.i64.wrap ((0 : Int) + S.ρ 23)) = S.ρ 23 from by rw [w_i64 (by omega) (by omega)]; omega)), (sm (show (IntKind.i64.wrap (S.ρ 23 * (1 : Int))) = S.ρ 23 from by rw [w_i64 (by omega) (by omega)]; omega)), (sm (show (IntKind.i64.wrap (S.ρ 23 + (0 : Int))) = S.ρ 23 from by rw [w_i64 (by omega) (by omega)]; omega)), (fls (p := S.ρ 23 < (0 : Int)) (by omega)), (fls (p := S.ρ 5 ≤ S.ρ 23) (by omega)), (sm (show (IntKind.i64.wrap (S.ρ 31 + S.ρ 23)) = S.ρ 75 from by rw [w_i64 (by omega) (by omega)]; omega)), (fls (p := S.ρ 75 < (0 : Int)) (by omega)), (fls (p := S.ρ 42 ≤ S.ρ 75) (by omega)), (tr (p := (0 : Int) ≤ S.ρ 75) (by omega)), (tr (p := S.ρ 75 < S.ρ 42) (by omega)), (sm (show (IntKind.i64.wrap (S.ρ 75 * (1 : Int))) = S.ρ 75 from by rw [w_i64 (by omega) (by omega)]; omega)), (sm (show (IntKind.i64.wrap (S.ρ 75 + (0 : Int))) = S.ρ 75 from by rw [w_i64 (by omega) (by omega)]; omega)), (sm (show (IntKind.i64.wrap (S.ρ 32 + S.ρ 23)) = S.ρ 76 from by rw [w_i64 (by omega) (by omega)]; omega)), (tr (p := (0 : Int) ≤ S.ρ 76) (by omega)), (fls (p := S.ρ 76 < (0 : Int)) (by omega)), (sm (show S.Φ 63 [S.ρ 75] = (0 : Int) from hz)), (fls (p := S.ρ 68 = S.ρ 69) (by omega)), (fls (p := S.ρ 69 = S.ρ 68) (by omega)), (fls (p := S.ρ 68 = S.ρ 75) (by omega)), (fls (p := S.ρ 75 = S.ρ 68) (by omega)), (fls (p := S.ρ 69 = S.ρ 75) (by omega)), (fls (p := S.ρ 75 = S.ρ 69) (by omega)), (sm (show (IntKind.i64.wrap (S.ρ 44 - S.ρ 66)) = S.ρ 70 from by rw [w_i64 (by omega) (by omega)]; omega)), (fls (p := S.ρ 70 < (1 : Int)) (by omega)), (tr (p := (1 : Int) < S.ρ 70) (by omega)), (sm (show (IntKind.i64.wrap ((0 : Int) + S.ρ 66)) = S.ρ 66 from by rw [w_i64 (by omega) (by omega)]; omega)), (sm (show (IntKind.i64.wrap (S.ρ 66 * (1 : Int))) = S.ρ 66 from by rw [w_i64 (by omega) (by omega)]; omega)), (sm (show (IntKind.i64.wrap (S.ρ 66 + (0 : Int))) = S.ρ 66 from by rw [w_i64 (by omega) (by omega)]; omega)), (fls (p := S.ρ 66 < (0 : Int)) (by omega)), (fls (p := S.ρ 5 ≤ S.ρ 66) (by omega)), (sm (show (IntKind.i64.wrap ((22 : Int) + S.ρ 66)) = S.ρ 72 from by rw [w_i64 (by omega) (by omega)]; omega)), (fls (p := S.ρ 72 < (0 : Int)) (by omega)), (fls (p := S.ρ 42 ≤ S.ρ 72) (by omega)), (tr (p := (0 : Int) ≤ S.ρ 72) (by omega)), (tr (p := S.ρ 72 < S.ρ 42) (by omega)), (sm (show (IntKind.i64.wrap (S.ρ 72 * (1 : Int))) = S.ρ 72 from by rw [w_i64 (by omega) (by omega)]; omega)), (sm (show (IntKind.i64.wrap (S.ρ 72 + (0 : Int))) = S.ρ 72 from by rw [w_i64 (by omega) (by omega)]; omega)), (fls (p := S.ρ 72 = S.ρ 68) (by omega)), (fls (p := S.ρ 68 = S.ρ 72) (by omega)), (fls (p := S.ρ 72 = S.ρ 69) (by omega)), (fls (p := S.ρ 69 = S.ρ 72) (by omega)), (fls (p := S.ρ 72 = S.ρ 75) (by omega)), (fls (p := S.ρ 75 = S.ρ 72) (by omega)), (sm (show (IntKind.i64.wrap (S.ρ 66 + S.ρ 70)) = S.ρ 44 from by rw [w_i64 (by omega) (by omega)]; omega)), (sm (show (IntKind.i64.wrap (S.ρ 44 - (1 : Int))) = S.ρ 45 from by rw [w_i64 (by omega) (by omega)]; omega)), (sm (show (IntKind.i64.wrap ((0 : Int) + S.ρ 45)) = S.ρ 45 from by rw [w_i64 (by omega) (by omega)]; omega)), (sm (show (IntKind.i64.wrap (S.ρ 45 * (1 : Int))) = S.ρ 45 from by rw [w_i64 (by omega) (by omega)]; omega)), (sm (show (IntKind.i64.wrap (S.ρ 45 + (0 : Int))) = S.ρ 45 from by rw [w_i64 (by omega) (by omega)]; omega)), (fls (p := S.ρ 45 < (0 : Int)) (by omega)), (fls (p := S.ρ 5 ≤ S.ρ 45) (by omega)), (sm (show (IntKind.i64.wrap ((22 : Int) + S.ρ 45)) = S.ρ 71 from by rw [w_i64 (by omega) (by omega)]; omega)), (fls (p := S.ρ 71 < (0 : Int)) (by omega)), (fls (p := S.ρ 42 ≤ S.ρ 71) (by omega)), (tr (p := (0 : Int) ≤ S.ρ 71) (by omega)), (tr (p := S.ρ 71 < S.ρ 42) (by omega)), (sm (show (IntKind.i64.wrap (S.ρ 71 * (1 : Int))) = S.ρ 71 from by rw [w_i64 (by omega) (by omega)]; omega)), (sm (show (IntKind.i64.wrap (S.ρ 71 + (0 : Int))) = S.ρ 71 from by rw [w_i64 (by omega) (by omega)]; omega)), (fls (p := S.ρ 71 = S.ρ 68) (by omega)), (fls (p := S.ρ 68 = S.ρ 71) (by omega)), (fls (p := S.ρ 71 = S.ρ 69) (by omega)), (fls (p := S.ρ 69 = S.ρ 71) (by omega)), (fls (p := S.ρ 71 = S.ρ 72) (by omega)), (fls (p := S.ρ 72 = S.ρ 71) (by omega)), (fls (p := S.ρ 71 = S.ρ 75) (by omega)), (fls (p := S.ρ 75 = S.ρ 71) (by omega)), (sm f73), (sm (show (IntKind.i64.wrap ((0 : Int) + S.ρ 73)) = S.ρ 73 from by rw [w_i64 (by omega) (by omega)]; omega)), (sm (show (IntKind.i64.wrap (S.ρ 73 * (1 : Int))) = S.ρ 73 from by rw [w_i64 (by omega) (by omega)]; omega)), (sm (show (IntKind.i64.wrap (S.ρ 73 + (0 : Int))) = S.ρ 73 from by rw [w_i64 (by omega) (by omega)]; omega)), (fls (p := S.ρ 73 < (0 : Int)) (by omega)), (fls (p := (9 : Int) ≤ S.ρ 73) (by omega)), (sm (show (IntKind.i64.wrap ((7 : Int) + S.ρ 73)) = S.ρ 74 from by rw [w_i64 (by omega) (by omega)]; omega)), (fls (p := S.ρ 74 < (0 : Int)) (by omega)), (fls (p := S.ρ 42 ≤ S.ρ 74) (by omega)), (tr (p := (0 : Int) ≤ S.ρ 74) (by omega)), (tr (p := S.ρ 74 < S.ρ 42) (by omega)), (sm (show (IntKind.i64.wrap (S.ρ 74 * (1 : Int))) = S.ρ 74 from by rw [w_i64 (by omega) (by omega)]; omega)), (sm (show (IntKind.i64.wrap (S.ρ 74 + (0 : Int))) = S.ρ 74 from by rw [w_i64 (by omega) (by omega)]; omega)), (fls (p := S.ρ 74 = S.ρ 69) (by omega)), (fls (p := S.ρ 69 = S.ρ 74) (by omega)), (fls (p := S.ρ 74 = S.ρ 72) (by omega)), (fls (p := S.ρ 72 = S.ρ 74) (by omega)), (fls (p := S.ρ 74 = S.ρ 75) (by omega)), (fls (p := S.ρ 75 = S.ρ 74) (by omega)), (fls (p := S.ρ 74 = S.ρ 71) (by omega)), (fls (p := S.ρ 71 = S.ρ 74) (by omega)), (fls (p := S.ρ 74 = S.ρ 68) (by omega)), (fls (p := S.ρ 68 = S.ρ 74) (by omega)), trivial⟩
theorem alP20_ok {S : Sy} {i : Int} (h : RNm S i) (hl : 2 ≤ S.ρ 5 - i - 1) (hs : S.ρ 74 ≠ S.ρ 68) : AlOk S alP20L := alE alP20_all alP20_eq (alP20_h h hl hs)
end Go.Proofs.YtgokpcaijabhoaaDoor
/-
 SlabBlocks: rounds of the outer loop. Conditions: the invariants.
-/
namespace Go.Proofs.YtgokpcaijabhoaaDoor
open Go.Ev Go.RowKit
set_option maxRecDepth 100000
set_option linter.unusedVariables false
section
variable {ty : TypeId}
def rO200 : ACode := (.upd (.upd (.upd (.upd (.upd (.upd (.upd (.upd (.var 63) (Tm.enc (.var .i64 68)) (Tm.enc (.bin .add (.app .u64 63 (.cons (.var .i64 68) .nil)) (.lit .u64 18446744073709551615)))) (Tm.enc (.var .i64 69)) (Tm.enc (.lit .u64 0))) (Tm.enc (.var .i64 71)) (Tm.enc (.bin .or (.bin .or (.bin .or (.lit .u64 2) (.bin .shl (.bin .and (.conv .u64 (.var .i64 70)) (.lit .u64 1023)) (.lit .u64 3))) (.lit .u64 0)) (.lit .u64 0)))) (Tm.enc (.var .i64 72)) (Tm.enc (.bin .or (.bin .or (.bin .or (.lit .u64 1) (.bin .shl (.bin .and (.conv .u64 (.var .i64 70)) (.lit .u64 1023)) (.lit .u64 3))) (.lit .u64 0)) (.lit .u64 0)))) (Tm.enc (.var .i64 74)) (Tm.enc (.bin .add (.app .u64 63 (.cons (.var .i64 74) .nil)) (.lit .u64 1)))) (Tm.enc (.var .i64 69)) (Tm.enc (.lit .u64 12))) (Tm.enc (.var .i64 69)) (Tm.enc (.lit .u64 11))) (Tm.enc (.var .i64 75)) (Tm.enc (.lit .u64 4294967806)))
def gO200 (T : Sy) : Int → Int := (fun j => ifE j (T.ρ 75) ((4294967806 : Int)) ((fun j => ifE j (T.ρ 69) ((11 : Int)) ((fun j => ifE j (T.ρ 69) ((12 : Int)) ((fun j => ifE j (T.ρ 74) ((IntKind.u64.wrap ((T.Φ 63 [T.ρ 74]) + (1 : Int)))) ((fun j => ifE j (T.ρ 72) ((opZ .or .u64 ((opZ .or .u64 ((opZ .or .u64 ((1 : Int)) ((opZ .shl .u64 ((opZ .and .u64 ((IntKind.u64.wrap (T.ρ 70))) ((1023 : Int)))) ((3 : Int)))))) ((0 : Int)))) ((0 : Int)))) ((fun j => ifE j (T.ρ 71) ((opZ .or .u64 ((opZ .or .u64 ((opZ .or .u64 ((2 : Int)) ((opZ .shl .u64 ((opZ .and .u64 ((IntKind.u64.wrap (T.ρ 70))) ((1023 : Int)))) ((3 : Int)))))) ((0 : Int)))) ((0 : Int)))) ((fun j => ifE j (T.ρ 69) ((0 : Int)) ((fun j => ifE j (T.ρ 68) ((IntKind.u64.wrap ((T.Φ 63 [T.ρ 68]) + (18446744073709551615 : Int)))) ((fun j => T.Φ 63 [j]) j)) j)) j)) j)) j)) j)) j)) j))
set_option maxHeartbeats 4000000 in
theorem runO200 {S1 : Sy} (ty : TypeId) (ha : AlOk S1 (alGL ++ (alLL ++ (alP20L ++ alO0L)))) (G : Nat → Option Obj) : rOutR 300 [] (XOB ty) (FOB ty) Tryd.prog.globals.size (runM Tryd.prog ΛB (lkL [noL, lkB ty, noL]) ftB ha [cLg] G 1000 (.code (cAt Tryd.prog lpOB) (XOB ty).A) ((XOB ty).H Tryd.prog)) = some (none, asgO rO200 t50_2.enc) := by kernel_rfl
set_option maxHeartbeats 8000000 in
theorem wayO200 {T : Sy} {i : Int} (R : RNm T i) (h21 : T.ρ 21 = i) (hw : i < T.ρ 17) (hd : (T.ρ 20 + i) % 4 = 0) (hl : 2 ≤ T.ρ 5 - i - 1) (hs : T.ρ 74 ≠ T.ρ 68) (lk : LkAt Tryd.prog T (gsT ty) (.loop (cAt Tryd.prog lpBB)) (lkB ty)) : WayO ty T i := by
 have hK := R.geo.K
 have hws := R.geo.w
 obtain ⟨e68, e69, e71, e72, e74, e75, l0, l1, l2, l3, n0, n1, i0, i1⟩ := places R
 obtain ⟨S2, hS2⟩ : ∃ S2 : Sy, S2 = T.set (upd T.ρ [(21, i + 1), (50, m50_2 T)]) [(60, gO200 T)] 60 rfl hK := ⟨_, rfl⟩
 have y : Stay [21, 50] [60] T S2 := by rw [hS2]; exact (Stay.refl _ _ _).set rfl rfl
 have s21 : S2.ρ 21 = i + 1 := by rw [hS2]; rfl
 have s50 : S2.ρ 50 = m50_2 T := by rw [hS2]; rfl
 have z : ∀ j : Int, S2.Φ 60 [j] = gO200 T j := by rw [hS2]; intro j; rfl
 clear hS2
 have hr : Row T rO200 (gO200 T) := by
  unfold rO200 gO200
  (repeat refine ar_upd _ _ (by rfl) (by rfl) (by kernel_rfl) ?_)
  exact ar_var _
 have hA := asgO_ok hr (fun j => (z j).symm) t50_2 (by rw [s50]; rfl) (by kernel_rfl) (by rw [h21, w_i64 (by omega) (by omega), s21]) y
 have hm : Mem S2 60 (i + 1) := memO R y z hd (fun j h0 h1 => by unfold gO200; dsimp only [ifE]; (repeat rw [if_neg (by omega)])) (by unfold gO200; dsimp only [ifE]; rw [if_neg (by omega), if_pos (by omega)]; rfl) (by unfold gO200; dsimp only [ifE]; (repeat rw [if_neg (by omega)]); rw [if_pos (by omega)]; exact (wordF (l := T.ρ 70) (by rw [R.e70]; omega)).trans (by rw [R.e70]; congr 1; omega)) (fun j h0 h1 h2 => by unfold gO200; dsimp only [ifE]; (repeat rw [if_neg (by omega)])) (by unfold gO200; dsimp only [ifE]; rw [if_pos (by omega)]; rfl)
 exact ⟨S2, fun U hU => ⟨_, _, _, 1000, _, [], AlOk.app (alG_ok R.geo) (AlOk.app (alL_ok R.geo) (AlOk.app (alP20_ok R hl hs) (alO0_ok R h21 hw hd))), cs1_ok R, lkO_all lk, setT hA hU (by kernel_rfl), runO200 ty _⟩, ⟨R.geo.stay y rfl rfl, by omega, by rw [y.num 17 rfl]; omega, s21, hm⟩, y⟩
def rO201 : ACode := (.upd (.upd (.upd (.upd (.upd (.upd (.upd (.upd (.var 63) (Tm.enc (.var .i64 68)) (Tm.enc (.bin .add (.app .u64 63 (.cons (.var .i64 68) .nil)) (.lit .u64 18446744073709551615)))) (Tm.enc (.var .i64 69)) (Tm.enc (.lit .u64 0))) (Tm.enc (.var .i64 71)) (Tm.enc (.bin .or (.bin .or (.bin .or (.lit .u64 2) (.bin .shl (.bin .and (.conv .u64 (.var .i64 70)) (.lit .u64 1023)) (.lit .u64 3))) (.lit .u64 0)) (.lit .u64 0)))) (Tm.enc (.var .i64 72)) (Tm.enc (.bin .or (.bin .or (.bin .or (.lit .u64 1) (.bin .shl (.bin .and (.conv .u64 (.var .i64 70)) (.lit .u64 1023)) (.lit .u64 3))) (.lit .u64 0)) (.lit .u64 0)))) (Tm.enc (.var .i64 74)) (Tm.enc (.bin .add (.app .u64 63 (.cons (.var .i64 74) .nil)) (.lit .u64 1)))) (Tm.enc (.var .i64 69)) (Tm.enc (.lit .u64 12))) (Tm.enc (.var .i64 69)) (Tm.enc (.lit .u64 8203))) (Tm.enc (.var .i64 75)) (Tm.enc (.lit .u64 4294967822)))
def gO201 (T : Sy) : Int → Int := (fun j => ifE j (T.ρ 75) ((4294967822 : Int)) ((fun j => ifE j (T.ρ 69) ((8203 : Int)) ((fun j => ifE j (T.ρ 69) ((12 : Int)) ((fun j => ifE j (T.ρ 74) ((IntKind.u64.wrap ((T.Φ 63 [T.ρ 74]) + (1 : Int)))) ((fun j => ifE j (T.ρ 72) ((opZ .or .u64 ((opZ .or .u64 ((opZ .or .u64 ((1 : Int)) ((opZ .shl .u64 ((opZ .and .u64 ((IntKind.u64.wrap (T.ρ 70))) ((1023 : Int)))) ((3 : Int)))))) ((0 : Int)))) ((0 : Int)))) ((fun j => ifE j (T.ρ 71) ((opZ .or .u64 ((opZ .or .u64 ((opZ .or .u64 ((2 : Int)) ((opZ .shl .u64 ((opZ .and .u64 ((IntKind.u64.wrap (T.ρ 70))) ((1023 : Int)))) ((3 : Int)))))) ((0 : Int)))) ((0 : Int)))) ((fun j => ifE j (T.ρ 69) ((0 : Int)) ((fun j => ifE j (T.ρ 68) ((IntKind.u64.wrap ((T.Φ 63 [T.ρ 68]) + (18446744073709551615 : Int)))) ((fun j => T.Φ 63 [j]) j)) j)) j)) j)) j)) j)) j)) j))
set_option maxHeartbeats 4000000 in
theorem runO201 {S1 : Sy} (ty : TypeId) (ha : AlOk S1 (alGL ++ (alLL ++ (alP20L ++ alO1L)))) (G : Nat → Option Obj) : rOutR 300 [] (XOB ty) (FOB ty) Tryd.prog.globals.size (runM Tryd.prog ΛB (lkL [noL, lkB ty, noL]) ftB ha [cLg] G 1000 (.code (cAt Tryd.prog lpOB) (XOB ty).A) ((XOB ty).H Tryd.prog)) = some (none, asgO rO201 t50_2.enc) := by kernel_rfl
set_option maxHeartbeats 8000000 in
theorem wayO201 {T : Sy} {i : Int} (R : RNm T i) (h21 : T.ρ 21 = i) (hw : i < T.ρ 17) (hd : (T.ρ 20 + i) % 4 = 1) (hl : 2 ≤ T.ρ 5 - i - 1) (hs : T.ρ 74 ≠ T.ρ 68) (lk : LkAt Tryd.prog T (gsT ty) (.loop (cAt Tryd.prog lpBB)) (lkB ty)) : WayO ty T i := by
 have hK := R.geo.K
 have hws := R.geo.w
 obtain ⟨e68, e69, e71, e72, e74, e75, l0, l1, l2, l3, n0, n1, i0, i1⟩ := places R
 obtain ⟨S2, hS2⟩ : ∃ S2 : Sy, S2 = T.set (upd T.ρ [(21, i + 1), (50, m50_2 T)]) [(60, gO201 T)] 60 rfl hK := ⟨_, rfl⟩
 have y : Stay [21, 50] [60] T S2 := by rw [hS2]; exact (Stay.refl _ _ _).set rfl rfl
 have s21 : S2.ρ 21 = i + 1 := by rw [hS2]; rfl
 have s50 : S2.ρ 50 = m50_2 T := by rw [hS2]; rfl
 have z : ∀ j : Int, S2.Φ 60 [j] = gO201 T j := by rw [hS2]; intro j; rfl
 clear hS2
 have hr : Row T rO201 (gO201 T) := by
  unfold rO201 gO201
  (repeat refine ar_upd _ _ (by rfl) (by rfl) (by kernel_rfl) ?_)
  exact ar_var _
 have hA := asgO_ok hr (fun j => (z j).symm) t50_2 (by rw [s50]; rfl) (by kernel_rfl) (by rw [h21, w_i64 (by omega) (by omega), s21]) y
 have hm : Mem S2 60 (i + 1) := memO R y z hd (fun j h0 h1 => by unfold gO201; dsimp only [ifE]; (repeat rw [if_neg (by omega)])) (by unfold gO201; dsimp only [ifE]; rw [if_neg (by omega), if_pos (by omega)]; rfl) (by unfold gO201; dsimp only [ifE]; (repeat rw [if_neg (by omega)]); rw [if_pos (by omega)]; exact (wordF (l := T.ρ 70) (by rw [R.e70]; omega)).trans (by rw [R.e70]; congr 1; omega)) (fun j h0 h1 h2 => by unfold gO201; dsimp only [ifE]; (repeat rw [if_neg (by omega)])) (by unfold gO201; dsimp only [ifE]; rw [if_pos (by omega)]; rfl)
 exact ⟨S2, fun U hU => ⟨_, _, _, 1000, _, [], AlOk.app (alG_ok R.geo) (AlOk.app (alL_ok R.geo) (AlOk.app (alP20_ok R hl hs) (alO1_ok R h21 hw hd))), cs1_ok R, lkO_all lk, setT hA hU (by kernel_rfl), runO201 ty _⟩, ⟨R.geo.stay y rfl rfl, by omega, by rw [y.num 17 rfl]; omega, s21, hm⟩, y⟩
def rO202 : ACode := (.upd (.upd (.upd (.upd (.upd (.upd (.upd (.upd (.var 63) (Tm.enc (.var .i64 68)) (Tm.enc (.bin .add (.app .u64 63 (.cons (.var .i64 68) .nil)) (.lit .u64 18446744073709551615)))) (Tm.enc (.var .i64 69)) (Tm.enc (.lit .u64 0))) (Tm.enc (.var .i64 71)) (Tm.enc (.bin .or (.bin .or (.bin .or (.lit .u64 2) (.bin .shl (.bin .and (.conv .u64 (.var .i64 70)) (.lit .u64 1023)) (.lit .u64 3))) (.lit .u64 0)) (.lit .u64 0)))) (Tm.enc (.var .i64 72)) (Tm.enc (.bin .or (.bin .or (.bin .or (.lit .u64 1) (.bin .shl (.bin .and (.conv .u64 (.var .i64 70)) (.lit .u64 1023)) (.lit .u64 3))) (.lit .u64 0)) (.lit .u64 0)))) (Tm.enc (.var .i64 74)) (Tm.enc (.bin .add (.app .u64 63 (.cons (.var .i64 74) .nil)) (.lit .u64 1)))) (Tm.enc (.var .i64 69)) (Tm.enc (.lit .u64 12))) (Tm.enc (.var .i64 69)) (Tm.enc (.lit .u64 16395))) (Tm.enc (.var .i64 75)) (Tm.enc (.lit .u64 4294968066)))
def gO202 (T : Sy) : Int → Int := (fun j => ifE j (T.ρ 75) ((4294968066 : Int)) ((fun j => ifE j (T.ρ 69) ((16395 : Int)) ((fun j => ifE j (T.ρ 69) ((12 : Int)) ((fun j => ifE j (T.ρ 74) ((IntKind.u64.wrap ((T.Φ 63 [T.ρ 74]) + (1 : Int)))) ((fun j => ifE j (T.ρ 72) ((opZ .or .u64 ((opZ .or .u64 ((opZ .or .u64 ((1 : Int)) ((opZ .shl .u64 ((opZ .and .u64 ((IntKind.u64.wrap (T.ρ 70))) ((1023 : Int)))) ((3 : Int)))))) ((0 : Int)))) ((0 : Int)))) ((fun j => ifE j (T.ρ 71) ((opZ .or .u64 ((opZ .or .u64 ((opZ .or .u64 ((2 : Int)) ((opZ .shl .u64 ((opZ .and .u64 ((IntKind.u64.wrap (T.ρ 70))) ((1023 : Int)))) ((3 : Int)))))) ((0 : Int)))) ((0 : Int)))) ((fun j => ifE j (T.ρ 69) ((0 : Int)) ((fun j => ifE j (T.ρ 68) ((IntKind.u64.wrap ((T.Φ 63 [T.ρ 68]) + (18446744073709551615 : Int)))) ((fun j => T.Φ 63 [j]) j)) j)) j)) j)) j)) j)) j)) j))
set_option maxHeartbeats 4000000 in
theorem runO202 {S1 : Sy} (ty : TypeId) (ha : AlOk S1 (alGL ++ (alLL ++ (alP20L ++ alO2L)))) (G : Nat → Option Obj) : rOutR 300 [] (XOB ty) (FOB ty) Tryd.prog.globals.size (runM Tryd.prog ΛB (lkL [noL, lkB ty, noL]) ftB ha [cLg] G 1000 (.code (cAt Tryd.prog lpOB) (XOB ty).A) ((XOB ty).H Tryd.prog)) = some (none, asgO rO202 t50_2.enc) := by kernel_rfl
set_option maxHeartbeats 8000000 in
theorem wayO202 {T : Sy} {i : Int} (R : RNm T i) (h21 : T.ρ 21 = i) (hw : i < T.ρ 17) (hd : (T.ρ 20 + i) % 4 = 2) (hl : 2 ≤ T.ρ 5 - i - 1) (hs : T.ρ 74 ≠ T.ρ 68) (lk : LkAt Tryd.prog T (gsT ty) (.loop (cAt Tryd.prog lpBB)) (lkB ty)) : WayO ty T i := by
 have hK := R.geo.K
 have hws := R.geo.w
 obtain ⟨e68, e69, e71, e72, e74, e75, l0, l1, l2, l3, n0, n1, i0, i1⟩ := places R
 obtain ⟨S2, hS2⟩ : ∃ S2 : Sy, S2 = T.set (upd T.ρ [(21, i + 1), (50, m50_2 T)]) [(60, gO202 T)] 60 rfl hK := ⟨_, rfl⟩
 have y : Stay [21, 50] [60] T S2 := by rw [hS2]; exact (Stay.refl _ _ _).set rfl rfl
 have s21 : S2.ρ 21 = i + 1 := by rw [hS2]; rfl
 have s50 : S2.ρ 50 = m50_2 T := by rw [hS2]; rfl
 have z : ∀ j : Int, S2.Φ 60 [j] = gO202 T j := by rw [hS2]; intro j; rfl
 clear hS2
 have hr : Row T rO202 (gO202 T) := by
  unfold rO202 gO202
  (repeat refine ar_upd _ _ (by rfl) (by rfl) (by kernel_rfl) ?_)
  exact ar_var _
 have hA := asgO_ok hr (fun j => (z j).symm) t50_2 (by rw [s50]; rfl) (by kernel_rfl) (by rw [h21, w_i64 (by omega) (by omega), s21]) y
 have hm : Mem S2 60 (i + 1) := memO R y z hd (fun j h0 h1 => by unfold gO202; dsimp only [ifE]; (repeat rw [if_neg (by omega)])) (by unfold gO202; dsimp only [ifE]; rw [if_neg (by omega), if_pos (by omega)]; rfl) (by unfold gO202; dsimp only [ifE]; (repeat rw [if_neg (by omega)]); rw [if_pos (by omega)]; exact (wordF (l := T.ρ 70) (by rw [R.e70]; omega)).trans (by rw [R.e70]; congr 1; omega)) (fun j h0 h1 h2 => by unfold gO202; dsimp only [ifE]; (repeat rw [if_neg (by omega)])) (by unfold gO202; dsimp only [ifE]; rw [if_pos (by omega)]; rfl)
 exact ⟨S2, fun U hU => ⟨_, _, _, 1000, _, [], AlOk.app (alG_ok R.geo) (AlOk.app (alL_ok R.geo) (AlOk.app (alP20_ok R hl hs) (alO2_ok R h21 hw hd))), cs1_ok R, lkO_all lk, setT hA hU (by kernel_rfl), runO202 ty _⟩, ⟨R.geo.stay y rfl rfl, by omega, by rw [y.num 17 rfl]; omega, s21, hm⟩, y⟩
def rO203 : ACode := (.upd (.upd (.upd (.upd (.upd (.upd (.upd (.upd (.var 63) (Tm.enc (.var .i64 68)) (Tm.enc (.bin .add (.app .u64 63 (.cons (.var .i64 68) .nil)) (.lit .u64 18446744073709551615)))) (Tm.enc (.var .i64 69)) (Tm.enc (.lit .u64 0))) (Tm.enc (.var .i64 71)) (Tm.enc (.bin .or (.bin .or (.bin .or (.lit .u64 2) (.bin .shl (.bin .and (.conv .u64 (.var .i64 70)) (.lit .u64 1023)) (.lit .u64 3))) (.lit .u64 0)) (.lit .u64 0)))) (Tm.enc (.var .i64 72)) (Tm.enc (.bin .or (.bin .or (.bin .or (.lit .u64 1) (.bin .shl (.bin .and (.conv .u64 (.var .i64 70)) (.lit .u64 1023)) (.lit .u64 3))) (.lit .u64 0)) (.lit .u64 0)))) (Tm.enc (.var .i64 74)) (Tm.enc (.bin .add (.app .u64 63 (.cons (.var .i64 74) .nil)) (.lit .u64 1)))) (Tm.enc (.var .i64 69)) (Tm.enc (.lit .u64 12))) (Tm.enc (.var .i64 69)) (Tm.enc (.lit .u64 24587))) (Tm.enc (.var .i64 75)) (Tm.enc (.lit .u64 4294968322)))
def gO203 (T : Sy) : Int → Int := (fun j => ifE j (T.ρ 75) ((4294968322 : Int)) ((fun j => ifE j (T.ρ 69) ((24587 : Int)) ((fun j => ifE j (T.ρ 69) ((12 : Int)) ((fun j => ifE j (T.ρ 74) ((IntKind.u64.wrap ((T.Φ 63 [T.ρ 74]) + (1 : Int)))) ((fun j => ifE j (T.ρ 72) ((opZ .or .u64 ((opZ .or .u64 ((opZ .or .u64 ((1 : Int)) ((opZ .shl .u64 ((opZ .and .u64 ((IntKind.u64.wrap (T.ρ 70))) ((1023 : Int)))) ((3 : Int)))))) ((0 : Int)))) ((0 : Int)))) ((fun j => ifE j (T.ρ 71) ((opZ .or .u64 ((opZ .or .u64 ((opZ .or .u64 ((2 : Int)) ((opZ .shl .u64 ((opZ .and .u64 ((IntKind.u64.wrap (T.ρ 70))) ((1023 : Int)))) ((3 : Int)))))) ((0 : Int)))) ((0 : Int)))) ((fun j => ifE j (T.ρ 69) ((0 : Int)) ((fun j => ifE j (T.ρ 68) ((IntKind.u64.wrap ((T.Φ 63 [T.ρ 68]) + (18446744073709551615 : Int)))) ((fun j => T.Φ 63 [j]) j)) j)) j)) j)) j)) j)) j)) j))
set_option maxHeartbeats 4000000 in
theorem runO203 {S1 : Sy} (ty : TypeId) (ha : AlOk S1 (alGL ++ (alLL ++ (alP20L ++ alO3L)))) (G : Nat → Option Obj) : rOutR 300 [] (XOB ty) (FOB ty) Tryd.prog.globals.size (runM Tryd.prog ΛB (lkL [noL, lkB ty, noL]) ftB ha [cLg] G 1000 (.code (cAt Tryd.prog lpOB) (XOB ty).A) ((XOB ty).H Tryd.prog)) = some (none, asgO rO203 t50_2.enc) := by kernel_rfl
set_option maxHeartbeats 8000000 in
theorem wayO203 {T : Sy} {i : Int} (R : RNm T i) (h21 : T.ρ 21 = i) (hw : i < T.ρ 17) (hd : (T.ρ 20 + i) % 4 = 3) (hl : 2 ≤ T.ρ 5 - i - 1) (hs : T.ρ 74 ≠ T.ρ 68) (lk : LkAt Tryd.prog T (gsT ty) (.loop (cAt Tryd.prog lpBB)) (lkB ty)) : WayO ty T i := by
 have hK := R.geo.K
 have hws := R.geo.w
 obtain ⟨e68, e69, e71, e72, e74, e75, l0, l1, l2, l3, n0, n1, i0, i1⟩ := places R
 obtain ⟨S2, hS2⟩ : ∃ S2 : Sy, S2 = T.set (upd T.ρ [(21, i + 1), (50, m50_2 T)]) [(60, gO203 T)] 60 rfl hK := ⟨_, rfl⟩
 have y : Stay [21, 50] [60] T S2 := by rw [hS2]; exact (Stay.refl _ _ _).set rfl rfl
 have s21 : S2.ρ 21 = i + 1 := by rw [hS2]; rfl
 have s50 : S2.ρ 50 = m50_2 T := by rw [hS2]; rfl
 have z : ∀ j : Int, S2.Φ 60 [j] = gO203 T j := by rw [hS2]; intro j; rfl
 clear hS2
 have hr : Row T rO203 (gO203 T) := by
  unfold rO203 gO203
  (repeat refine ar_upd _ _ (by rfl) (by rfl) (by kernel_rfl) ?_)
  exact ar_var _
 have hA := asgO_ok hr (fun j => (z j).symm) t50_2 (by rw [s50]; rfl) (by kernel_rfl) (by rw [h21, w_i64 (by omega) (by omega), s21]) y
 have hm : Mem S2 60 (i + 1) := memO R y z hd (fun j h0 h1 => by unfold gO203; dsimp only [ifE]; (repeat rw [if_neg (by omega)])) (by unfold gO203; dsimp only [ifE]; rw [if_neg (by omega), if_pos (by omega)]; rfl) (by unfold gO203; dsimp only [ifE]; (repeat rw [if_neg (by omega)]); rw [if_pos (by omega)]; exact (wordF (l := T.ρ 70) (by rw [R.e70]; omega)).trans (by rw [R.e70]; congr 1; omega)) (fun j h0 h1 h2 => by unfold gO203; dsimp only [ifE]; (repeat rw [if_neg (by omega)])) (by unfold gO203; dsimp only [ifE]; rw [if_pos (by omega)]; rfl)
 exact ⟨S2, fun U hU => ⟨_, _, _, 1000, _, [], AlOk.app (alG_ok R.geo) (AlOk.app (alL_ok R.geo) (AlOk.app (alP20_ok R hl hs) (alO3_ok R h21 hw hd))), cs1_ok R, lkO_all lk, setT hA hU (by kernel_rfl), runO203 ty _⟩, ⟨R.geo.stay y rfl rfl, by omega, by rw [y.num 17 rfl]; omega, s21, hm⟩, y⟩
end
end Go.Proofs.YtgokpcaijabhoaaDoor
/-
 SlabBlocks: what is decided ahead, behind bestFit and at the end. Conditions: those each says.
-/
namespace Go.Proofs.YtgokpcaijabhoaaDoor
open Go.Ev Go.RowKit
set_option maxRecDepth 100000
set_option linter.unusedVariables false
def alP21E : List En := [.ds (.bin .eql (.var .i64 24) (.lit .i64 0)) false, .iv (.bin .rem (.var .i64 23) (.lit .i64 1)) 0, .iv (.bin .mul (.lit .i64 0) (.var .i64 5)) 0, .nm (.bin .add (.var .i64 23) (.lit .i64 1)) 66, .nm (.app .i64 30 (.cons (.var .i64 24) .nil)) 67, .nm (.bin .add (.lit .i64 0) (.var .i64 67)) 67, .nm (.bin .mul (.var .i64 67) (.lit .i64 1)) 67, .nm (.bin .add (.var .i64 67) (.lit .i64 0)) 67, .ds (.bin .lss (.var .i64 67) (.lit .i64 0)) false, .ds (.bin .geq (.var .i64 67) (.lit .i64 9)) false, .nm (.bin .add (.lit .i64 7) (.var .i64 67)) 68, .ds (.bin .lss (.var .i64 68) (.lit .i64 0)) false, .ds (.bin .geq (.var .i64 68) (.var .i64 42)) false, .ds (.bin .geq (.var .i64 68) (.lit .i64 0)) true, .ds (.bin .lss (.var .i64 68) (.var .i64 42)) true, .nm (.bin .mul (.var .i64 68) (.lit .i64 1)) 68, .nm (.bin .add (.var .i64 68) (.lit .i64 0)) 68, .nm (.bin .sub (.var .i64 66) (.lit .i64 1)) 23, .nm (.bin .add (.lit .i64 0) (.var .i64 23)) 23, .nm (.bin .mul (.var .i64 23) (.lit .i64 1)) 23, .nm (.bin .add (.var .i64 23) (.lit .i64 0)) 23, .ds (.bin .lss (.var .i64 23) (.lit .i64 0)) false, .ds (.bin .geq (.var .i64 23) (.var .i64 5)) false, .nm (.bin .add (.lit .i64 22) (.var .i64 23)) 69, .ds (.bin .lss (.var .i64 69) (.lit .i64 0)) false, .ds (.bin .geq (.var .i64 69) (.var .i64 42)) false, .ds (.bin .geq (.var .i64 69) (.lit .i64 0)) true, .ds (.bin .lss (.var .i64 69) (.var .i64 42)) true, .nm (.bin .mul (.var .i64 69) (.lit .i64 1)) 69, .nm (.bin .add (.var .i64 69) (.lit .i64 0)) 69, .iv (.bin .sub (.var .i64 23) (.var .i64 23)) 0, .nm (.bin .add (.var .i64 23) (.var .i64 24)) 44, .nm (.bin .add (.lit .i64 0) (.var .i64 23)) 23, .nm (.bin .mul (.var .i64 23) (.lit .i64 1)) 23, .nm (.bin .add (.var .i64 23) (.lit .i64 0)) 23, .ds (.bin .lss (.var .i64 23) (.lit .i64 0)) false, .ds (.bin .geq (.var .i64 23) (.var .i64 5)) false, .nm (.bin .add (.var .i64 31) (.var .i64 23)) 75, .ds (.bin .lss (.var .i64 75) (.lit .i64 0)) false, .ds (.bin .geq (.var .i64 75) (.var .i64 42)) false, .ds (.bin .geq (.var .i64 75) (.lit .i64 0)) true, .ds (.bin .lss (.var .i64 75) (.var .i64 42)) true, .nm (.bin .mul (.var .i64 75) (.lit .i64 1)) 75, .nm (.bin .add (.var .i64 75) (.lit .i64 0)) 75, .nm (.bin .add (.var .i64 32) (.var .i64 23)) 76, .ds (.bin .geq (.var .i64 76) (.lit .i64 0)) true, .ds (.bin .lss (.var .i64 76) (.lit .i64 0)) false, .iu (.app .u64 63 (.cons (.var .i64 75) .nil)) 0, .ds (.bin .eql (.var .i64 68) (.var .i64 69)) false, .ds (.bin .eql (.var .i64 69) (.var .i64 68)) false, .ds (.bin .eql (.var .i64 68) (.var .i64 75)) false, .ds (.bin .eql (.var .i64 75) (.var .i64 68)) false, .ds (.bin .eql (.var .i64 69) (.var .i64 75)) false, .ds (.bin .eql (.var .i64 75) (.var .i64 69)) false, .nm (.bin .sub (.var .i64 44) (.var .i64 66)) 70, .ds (.bin .lss (.var .i64 70) (.lit .i64 1)) false, .ds (.bin .gtr (.var .i64 70) (.lit .i64 1)) true, .nm (.bin .add (.lit .i64 0) (.var .i64 66)) 66, .nm (.bin .mul (.var .i64 66) (.lit .i64 1)) 66, .nm (.bin .add (.var .i64 66) (.lit .i64 0)) 66, .ds (.bin .lss (.var .i64 66) (.lit .i64 0)) false, .ds (.bin .geq (.var .i64 66) (.var .i64 5)) false, .nm (.bin .add (.lit .i64 22) (.var .i64 66)) 72, .ds (.bin .lss (.var .i64 72) (.lit .i64 0)) false, .ds (.bin .geq (.var .i64 72) (.var .i64 42)) false, .ds (.bin .geq (.var .i64 72) (.lit .i64 0)) true, .ds (.bin .lss (.var .i64 72) (.var .i64 42)) true, .nm (.bin .mul (.var .i64 72) (.lit .i64 1)) 72, .nm (.bin .add (.var .i64 72) (.lit .i64 0)) 72, .ds (.bin .eql (.var .i64 72) (.var .i64 68)) false, .ds (.bin .eql (.var .i64 68) (.var .i64 72)) false, .ds (.bin .eql (.var .i64 72) (.var .i64 69)) false, .ds (.bin .eql (.var .i64 69) (.var .i64 72)) false, .ds (.bin .eql (.var .i64 72) (.var .i64 75)) false, .ds (.bin .eql (.var .i64 75) (.var .i64 72)) false, .nm (.bin .add (.var .i64 66) (.var .i64 70)) 44, .nm (.bin .sub (.var .i64 44) (.lit .i64 1)) 45, .nm (.bin .add (.lit .i64 0) (.var .i64 45)) 45, .nm (.bin .mul (.var .i64 45) (.lit .i64 1)) 45, .nm (.bin .add (.var .i64 45) (.lit .i64 0)) 45, .ds (.bin .lss (.var .i64 45) (.lit .i64 0)) false, .ds (.bin .geq (.var .i64 45) (.var .i64 5)) false, .nm (.bin .add (.lit .i64 22) (.var .i64 45)) 71, .ds (.bin .lss (.var .i64 71) (.lit .i64 0)) false, .ds (.bin .geq (.var .i64 71) (.var .i64 42)) false, .ds (.bin .geq (.var .i64 71) (.lit .i64 0)) true, .ds (.bin .lss (.var .i64 71) (.var .i64 42)) true, .nm (.bin .mul (.var .i64 71) (.lit .i64 1)) 71, .nm (.bin .add (.var .i64 71) (.lit .i64 0)) 71, .ds (.bin .eql (.var .i64 71) (.var .i64 68)) false, .ds (.bin .eql (.var .i64 68) (.var .i64 71)) false, .ds (.bin .eql (.var .i64 71) (.var .i64 69)) false, .ds (.bin .eql (.var .i64 69) (.var .i64 71)) false, .ds (.bin .eql (.var .i64 71) (.var .i64 72)) false, .ds (.bin .eql (.var .i64 72) (.var .i64 71)) false, .ds (.bin .eql (.var .i64 71) (.var .i64 75)) false, .ds (.bin .eql (.var .i64 75) (.var .i64 71)) false, .nm (.app .i64 30 (.cons (.var .i64 70) .nil)) 73, .nm (.bin .add (.lit .i64 0) (.var .i64 73)) 73, .nm (.bin .mul (.var .i64 73) (.lit .i64 1)) 73, .nm (.bin .add (.var .i64 73) (.lit .i64 0)) 73, .ds (.bin .lss (.var .i64 73) (.lit .i64 0)) false, .ds (.bin .geq (.var .i64 73) (.lit .i64 9)) false, .nm (.bin .add (.lit .i64 7) (.var .i64 73)) 74, .ds (.bin .lss (.var .i64 74) (.lit .i64 0)) false, .ds (.bin .geq (.var .i64 74) (.var .i64 42)) false, .ds (.bin .geq (.var .i64 74) (.lit .i64 0)) true, .ds (.bin .lss (.var .i64 74) (.var .i64 42)) true, .nm (.bin .mul (.var .i64 74) (.lit .i64 1)) 74, .nm (.bin .add (.var .i64 74) (.lit .i64 0)) 74, .ds (.bin .eql (.var .i64 74) (.var .i64 69)) false, .ds (.bin .eql (.var .i64 69) (.var .i64 74)) false, .ds (.bin .eql (.var .i64 74) (.var .i64 72)) false, .ds (.bin .eql (.var .i64 72) (.var .i64 74)) false, .ds (.bin .eql (.var .i64 74) (.var .i64 75)) false, .ds (.bin .eql (.var .i64 75) (.var .i64 74)) false, .ds (.bin .eql (.var .i64 74) (.var .i64 71)) false, .ds (.bin .eql (.var .i64 71) (.var .i64 74)) false, .ds (.bin .eql (.var .i64 74) (.var .i64 68)) true, .ds (.bin .eql (.var .i64 68) (.var .i64 74)) true]
def alP21L : List (Nat × Value) := [(6599049480411, .bool false), (404740907209891, .int .i64 0), (1597828503699, .int .i64 0), (404740907209859, .float .f64 33795), (580855166661601691460163, .float .f64 34307), (25340407718019, .float .f64 34307), (1178797093164179, .float .f64 34307), (18418799478915, .float .f64 34307), (18418799479019, .bool false), (9430391341456131, .bool false), (7906639755616387, .float .f64 34819), (18693677385963, .bool false), (38284617022709507, .bool false), (18693677385987, .bool true), (38284617022709483, .bool true), (1196389279208595, .float .f64 34819), (18693677385859, .float .f64 34819), (1161204907119755, .float .f64 11779), (6442551614595, .float .f64 11779), (404740907209875, .float .f64 11779), (6324171573379, .float .f64 11779), (6324171573483, .bool false), (1618979432962307, .bool false), (6198892039249027, .float .f64 35331), (18968555292907, .bool false), (38847566976130819, .bool false), (18968555292931, .bool true), (38847566976130795, .bool true), (1213981465253011, .float .f64 35331), (18968555292803, .float .f64 35331), (6475968969448587, .int .i64 0), (6475986149317763, .float .f64 22531), (6442551614595, .float .f64 11779), (404740907209875, .float .f64 11779), (6324171573379, .float .f64 11779), (6324171573483, .bool false), (1618979432962307, .bool false), (8727768783133827, .float .f64 38403), (20617822734571, .bool false), (42225266696658691, .bool false), (20617822734595, .bool true), (42225266696658667, .bool true), (1319534581519507, .float .f64 38403), (20617822734467, .float .f64 38403), (9009243759844483, .float .f64 38915), (20892700641539, .bool true), (20892700641515, .bool false), (4804421689778140629460551, .int .u64 0), (76568976246710491, .bool false), (77694858973683931, .bool false), (76569079325925595, .bool false), (84450258414739675, .bool false), (77694979232768219, .bool false), (84450275594608859, .bool false), (49547326942879883, .float .f64 35843), (1231573651297515, .bool false), (1231573651297531, .bool true), (25323227848835, .float .f64 33795), (1161204907119763, .float .f64 33795), (18143921571971, .float .f64 33795), (18143921572075, .bool false), (4644835432601859, .bool false), (24795121178386563, .float .f64 36867), (19793189013739, .bool false), (40536416836394755, .bool false), (19793189013763, .bool true), (40536416836394731, .bool true), (1266758023386259, .float .f64 36867), (19793189013635, .float .f64 36867), (81072558694211803, .bool false), (76569027786318043, .bool false), (81072575874080987, .bool false), (77694927693160667, .bool false), (81072678953296091, .bool false), (84450327134216411, .bool false), (74317193612894339, .float .f64 22531), (774176814142603, .float .f64 23043), (12867822689923, .float .f64 23043), (791769000187027, .float .f64 23043), (12371485526147, .float .f64 23043), (12371485526251, .bool false), (3167091804870915, .bool false), (12397766797958787, .float .f64 36355), (19518311106795, .bool false), (39973466882973443, .bool false), (19518311106819, .bool true), (39973466882973419, .bool true), (1249165837341843, .float .f64 36355), (19518311106691, .float .f64 36355), (79946658787369179, .bool false), (76569010606448859, .bool false), (79946675967238363, .bool false), (77694910513291483, .bool false), (79946727506845915, .bool false), (81072610233819355, .bool false), (79946779046453467, .bool false), (84450309954347227, .bool false), (2308060707771174428370499, .float .f64 37379), (25443486933123, .float .f64 37379), (1284350209430675, .float .f64 37379), (20068066920579, .float .f64 37379), (20068066920683, .bool false), (10274816271588099, .bool false), (7906742834831491, .float .f64 37891), (20342944827627, .bool false), (41662316743237379, .bool false), (20342944827651, .bool true), (41662316743237355, .bool true), (1301942395475091, .float .f64 37891), (20342944827523, .float .f64 37891), (83324375687766235, .bool false), (77694962052899035, .bool false), (83324427227373787, .bool false), (81072661773426907, .bool false), (83324478766981339, .bool false), (84450361493954779, .bool false), (83324410047504603, .bool false), (79946761866584283, .bool false), (83324358507897051, .bool true), (76569062146056411, .bool true)]
theorem alP21_eq : alP21L = alP21E.map En.pr := by kernel_rfl
theorem alP21_all : (alP21E.all En.okB) = true := by kernel_rfl
set_option maxHeartbeats 4000000 in
theorem alP21_h {S : Sy} {i : Int} (h : RNm S i) (hl : 2 ≤ S.ρ 5 - i - 1) (hs : S.ρ 74 = S.ρ 68) : AllH S alP21E := by
 have gi0 := h.i0; have ghin := h.hin; have ggeo_n := h.geo.n; have ggeo_e31 := h.geo.e31; have ggeo_e32 := h.geo.e32; have ggeo_e42 := h.geo.e42; have ge23 := h.e23; have ge24 := h.e24; have ge66 := h.e66; have ge67 := h.e67; have ge68 := h.e68; have ge69 := h.e69; have ge75 := h.e75; have ge76 := h.e76; have ge44 := h.e44; have ge45 := h.e45; have ge70 := h.e70; have ge71 := h.e71; have ge72 := h.e72; have ge73 := h.e73; have ge74 := h.e74
 have b67 := lg_in (S.ρ 5 - i)
 rw [← ge67] at b67
 have b73 := lg_in (S.ρ 5 - i - 1)
 rw [← ge73] at b73
 have f67 : S.Φ 30 [S.ρ 24] = S.ρ 67 := (h.geo.lgF _).trans (by rw [ge67, ge24])
 have f73 : S.Φ 30 [S.ρ 70] = S.ρ 73 := (h.geo.lgF _).trans (by rw [ge73, ge70])
 have hz := h.mem.zb i (Int.le_refl _) ghin
 rw [← ge75] at hz
 exact ⟨(fls (p := S.ρ 24 = (0 : Int)) (by omega)), (sm (show (S.ρ 23).tmod (1 : Int) = 0 from Int.tmod_one _)), (sm (show (IntKind.i64.wrap ((0 : Int) * S.ρ 5)) = (0 : Int) from by rw [w_i64 (by omega) (by omega)]; omega)), (sm (show (IntKind.i64.wrap (S.ρ 23 + (1 : Int))) = S.ρ 66 from by rw [w_i64 (by omega) (by omega)]; omega)), (sm f67), (sm (show (IntKind.i64.wrap ((0 : Int) + S.ρ 67)) = S.ρ 67 from by rw [w_i64 (by omega) (by omega)]; omega)), (sm (show (IntKind.i64.wrap (S.ρ 67 * (1 : Int))) = S.ρ 67 from by rw [w_i64 (by omega) (by omega)]; omega)), (sm (show (IntKind.i64.wrap (S.ρ 67 + (0 : Int))) = S.ρ 67 from by rw [w_i64 (by omega) (by omega)]; omega)), (fls (p := S.ρ 67 < (0 : Int)) (by omega)), (fls (p := (9 : Int) ≤ S.ρ 67) (by omega)), (sm (show (IntKind.i64.wrap ((7 : Int) + S.ρ 67)) = S.ρ 68 from by rw [w_i64 (by omega) (by omega)]; omega)), (fls (p := S.ρ 68 < (0 : Int)) (by omega)), (fls (p := S.ρ 42 ≤ S.ρ 68) (by omega)), (tr (p := (0 : Int) ≤ S.ρ 68) (by omega)), (tr (p := S.ρ 68 < S.ρ 42) (by omega)), (sm (show (IntKind.i64.wrap (S.ρ 68 * (1 : Int))) = S.ρ 68 from by rw [w_i64 (by omega) (by omega)]; omega)), (sm (show (IntKind.i64.wrap (S.ρ 68 + (0 : Int))) = S.ρ 68 from by rw [w_i64 (by omega) (by omega)]; omega)), (sm (show (IntKind.i64.wrap (S.ρ 66 - (1 : Int))) = S.ρ 23 from by rw [w_i64 (by omega) (by omega)]; omega)), (sm (show (IntKind.i64.wrap ((0 : Int) + S.ρ 23)) = S.ρ 23 from by rw [w_i64 (by omega) (by omega)]; omega)), (sm (show (IntKind.i64.wrap (S.ρ 23 * (1 : Int))) = S.ρ 23 from by rw [w_i64 (by omega) (by omega)]; omega)), (sm (show (IntKind.i64.wrap (S.ρ 23 + (0 : Int))) = S.ρ 23 from by rw [w_i64 (by omega) (by omega)]; omega)), (fls (p := S.ρ 23 < (0 : Int)) (by omega)), (fls (p := S.ρ 5 ≤ S.ρ 23) (by omega)), (sm (show (IntKind.i64.wrap ((22 : Int) + S.ρ 23)) = S.ρ 69 from by rw [w_i64 (by omega) (by omega)]; omega)), (fls (p := S.ρ 69 < (0 : Int)) (by omega)), (fls (p := S.ρ 42 ≤ S.ρ 69) (by omega)), (tr (p := (0 : Int) ≤ S.ρ 69) (by omega)), (tr (p := S.ρ 69 < S.ρ 42) (by omega)), (sm (show (IntKind.i64.wrap (S.ρ 69 * (1 : Int))) = S.ρ 69 from by rw [w_i64 (by omega) (by omega)]; omega)), (sm (show (IntKind.i64.wrap (S.ρ 69 + (0 : Int))) = S.ρ 69 from by rw [w_i64 (by omega) (by omega)]; omega)), (sm (show (IntKind.i64.wrap (S.ρ 23 - S.ρ 23)) = (0 : Int) from by rw [w_i64 (by omega) (by omega)]; omega)), (sm (show (IntKind.i64.wrap (S.ρ 23 + S.ρ 24)) = S.ρ 44 from by rw [w_i64 (by omega) (by omega)]; omega)), (sm (show (IntKind.i64.wrap ((0 : Int) + S.ρ 23)) = S.ρ 23 from by rw [w_i64 (by omega) (by omega)]; omega)), (sm (show (IntKind.i64.wrap (S.ρ 23 * (1 : Int))) = S.ρ 23 from by rw [w_i64 (by omega) (by omega)]; omega)), (sm (show (IntKind.i64.wrap (S.ρ 23 + (0 : Int))) = S.ρ 23 from by rw [w_i64 (by omega) (by omega)]; omega)), (fls (p := S.ρ 23 < (0 : Int)) (by omega)), (fls (p := S.ρ 5 ≤ S.ρ 23) (by omega)), (sm (show (IntKind.i64.wrap (S.ρ 31 + S.ρ 23)) = S.ρ 75 from by rw [w_i64 (by omega) (by omega)]; omega)), (fls (p := S.ρ 75 < (0 : Int)) (by omega)), (fls (p := S.ρ 42 ≤ S.ρ 75) (by omega)), (tr (p := (0 : Int) ≤ S.ρ 75) (by omega)), (tr (p := S.ρ 75 < S.ρ 42) (by omega)), (sm (show (IntKind.i64.wrap (S.ρ 75 * (1 : Int))) = S.ρ 75 from by rw [w_i64 (by omega) (by omega)]; omega)), (sm (show (IntKind.i64.wrap (S.ρ 75 + (0 : Int))) = S.ρ 75 from by rw [w_i64 (by omega) (by omega)]; omega)), (sm (show (IntKind.i64.wrap (S.ρ 32 + S.ρ 23)) = S.ρ 76 from by rw [w_i64 (by omega) (by omega)]; omega)), (tr (p := (0 : Int) ≤ S.ρ 76) (by omega)), (fls (p := S.ρ 76 < (0 : Int)) (by omega)), (sm (show S.Φ 63 [S.ρ 75] = (0 : Int) from hz)), (fls (p := S.ρ 68 = S.ρ 69) (by omega)), (fls (p := S.ρ 69 = S.ρ 68) (by omega)), (fls (p := S.ρ 68 = S.ρ 75) (by omega)), (fls (p := S.ρ 75 = S.ρ 68) (by omega)), (fls (p := S.ρ 69 = S.ρ 75) (by omega)), (fls (p := S.ρ 75 = S.ρ 69) (by omega)), (sm (show (IntKind.i64.wrap (S.ρ 44 - S.ρ 66)) = S.ρ 70 from by rw [w_i64 (by omega) (by omega)]; omega)), (fls (p := S.ρ 70 < (1 : Int)) (by omega)), (tr (p := (1 : Int) < S.ρ 70) (by omega)), (sm (show (IntKind.i64.wrap ((0 : Int) + S.ρ 66)) = S.ρ 66 from by rw [w_i64 (by omega) (by omega)]; omega)), (sm (show (IntKind.i64.wrap (S.ρ 66 * (1 : Int))) = S.ρ 66 from by rw [w_i64 (by omega) (by omega)]; omega)), (sm (show (IntKind.i64.wrap (S.ρ 66 + (0 : Int))) = S.ρ 66 from by rw [w_i64 (by omega) (by omega)]; omega)), (fls (p := S.ρ 66 < (0 : Int)) (by omega)), (fls (p := S.ρ 5 ≤ S.ρ 66) (by omega)), (sm (show (IntKind.i64.wrap ((22 : Int) + S.ρ 66)) = S.ρ 72 from by rw [w_i64 (by omega) (by omega)]; omega)), (fls (p := S.ρ 72 < (0 : Int)) (by omega)), (fls (p := S.ρ 42 ≤ S.ρ 72) (by omega)), (tr (p := (0 : Int) ≤ S.ρ 72) (by omega)), (tr (p := S.ρ 72 < S.ρ 42) (by omega)), (sm (show (IntKind.i64.wrap (S.ρ 72 * (1 : Int))) = S.ρ 72 from by rw [w_i64 (by omega) (by omega)]; omega)), (sm (show (IntKind.i64.wrap (S.ρ 72 + (0 : Int))) = S.ρ 72 from by rw [w_i64 (by omega) (by omega)]; omega)), (fls (p := S.ρ 72 = S.ρ 68) (by omega)), (fls (p := S.ρ 68 = S.ρ 72) (by omega)), (fls (p := S.ρ 72 = S.ρ 69) (by omega)), (fls (p := S.ρ 69 = S.ρ 72) (by omega)), (fls (p := S.ρ 72 = S.ρ 75) (by omega)), (fls (p := S.ρ 75 = S.ρ 72) (by omega)), (sm (show (IntKind.i64.wrap (S.ρ 66 + S.ρ 70)) = S.ρ 44 from by rw [w_i64 (by omega) (by omega)]; omega)), (sm (show (IntKind.i64.wrap (S.ρ 44 - (1 : Int))) = S.ρ 45 from by rw [w_i64 (by omega) (by omega)]; omega)), (sm (show (IntKind.i64.wrap ((0 : Int) + S.ρ 45)) = S.ρ 45 from by rw [w_i64 (by omega) (by omega)]; omega)), (sm (show (IntKind.i64.wrap (S.ρ 45 * (1 : Int))) = S.ρ 45 from by rw [w_i64 (by omega) (by omega)]; omega)), (sm (show (IntKind.i64.wrap (S.ρ 45 + (0 : Int))) = S.ρ 45 from by rw [w_i64 (by omega) (by omega)]; omega)), (fls (p := S.ρ 45 < (0 : Int)) (by omega)), (fls (p := S.ρ 5 ≤ S.ρ 45) (by omega)), (sm (show (IntKind.i64.wrap ((22 : Int) + S.ρ 45)) = S.ρ 71 from by rw [w_i64 (by omega) (by omega)]; omega)), (fls (p := S.ρ 71 < (0 : Int)) (by omega)), (fls (p := S.ρ 42 ≤ S.ρ 71) (by omega)), (tr (p := (0 : Int) ≤ S.ρ 71) (by omega)), (tr (p := S.ρ 71 < S.ρ 42) (by omega)), (sm (show (IntKind.i64.wrap (S.ρ 71 * (1 : Int))) = S.ρ 71 from by rw [w_i64 (by omega) (by omega)]; omega)), (sm (show (IntKind.i64.wrap (S.ρ 71 + (0 : Int))) = S.ρ 71 from by rw [w_i64 (by omega) (by omega)]; omega)), (fls (p := S.ρ 71 = S.ρ 68) (by omega)), (fls (p := S.ρ 68 = S.ρ 71) (by omega)), (fls (p := S.ρ 71 = S.ρ 69) (by omega)), (fls (p := S.ρ 69 = S.ρ 71) (by omega)), (fls (p := S.ρ 71 = S.ρ 72) (by omega)), (fls (p := S.ρ 72 = S.ρ 71) (by omega)), (fls (p := S.ρ 71 = S.ρ 75) (by omega)), (fls (p := S.ρ 75 = S.ρ 71) (by omega)), (sm f73), (sm (show (IntKind.i64.wrap ((0 : Int) + S.ρ 73)) = S.ρ 73 from by rw [w_i64 (by omega) (by omega)]; omega)), (sm (show (IntKind.i64.wrap (S.ρ 73 * (1 : Int))) = S.ρ 73 from by rw [w_i64 (by omega) (by omega)]; omega)), (sm (show (IntKind.i64.wrap (S.ρ 73 + (0 : Int))) = S.ρ 73 from by rw [w_i64 (by omega) (by omega)]; omega)), (fls (p := S.ρ 73 < (0 : Int)) (by omega)), (fls (p := (9 : Int) ≤ S.ρ 73) (by omega)), (sm (show (IntKind.i64.wrap ((7 : Int) + S.ρ 73)) = S.ρ 74 from by rw [w_i64 (by omega) (by omega)]; omega)), (fls (p := S.ρ 74 < (0 : Int)) (by omega)), (fls (p := S.ρ 42 ≤ S.ρ 74) (by omega)), (tr (p := (0 : Int) ≤ S.ρ 74) (by omega)), (tr (p := S.ρ 74 < S.ρ 42) (by omega)), (sm (show (IntKind.i64.wrap (S.ρ 74 * (1 : Int))) = S.ρ 74 from by rw [w_i64 (by omega) (by omega)]; omega)), (sm (show (IntKind.i64.wrap (S.ρ 74 + (0 : Int))) = S.ρ 74 from by rw [w_i64 (by omega) (by omega)]; omega)), (fls (p := S.ρ 74 = S.ρ 69) (by omega)), (fls (p := S.ρ 69 = S.ρ 74) (by omega)), (fls (p := S.ρ 74 = S.ρ 72) (by omega)), (fls (p := S.ρ 72 = S.ρ 74) (by omega)), (fls (p := S.ρ 74 = S.ρ 75) (by omega)), (fls (p := S.ρ 75 = S.ρ 74) (by omega)), (fls (p := S.ρ 74 = S.ρ 71) (by omega)), (fls (p := S.ρ 71 = S.ρ 74) (by omega)), (tr (p := S.ρ 74 = S.ρ 68) (by omega)), (tr (p := S.ρ 68 = S.ρ 74) (by omega)), trivial⟩
theorem alP21_ok {S : Sy} {i : Int} (h : RNm S i) (hl : 2 ≤ S.ρ 5 - i - 1) (hs : S.ρ 74 = S.ρ 68) : AlOk S alP21L := alE alP21_all alP21_eq (alP21_h h hl hs)
end Go.Proofs.YtgokpcaijabhoaaDoor
/-
 SlabBlocks: rounds of the outer loop. Conditions: the invariants.
-/
namespace Go.Proofs.YtgokpcaijabhoaaDoor
open Go.Ev Go.RowKit
set_option maxRecDepth 100000
set_option linter.unusedVariables false
section
variable {ty : TypeId}
def rO210 : ACode := (.upd (.upd (.upd (.upd (.upd (.upd (.upd (.upd (.var 63) (Tm.enc (.var .i64 68)) (Tm.enc (.bin .add (.app .u64 63 (.cons (.var .i64 68) .nil)) (.lit .u64 18446744073709551615)))) (Tm.enc (.var .i64 69)) (Tm.enc (.lit .u64 0))) (Tm.enc (.var .i64 71)) (Tm.enc (.bin .or (.bin .or (.bin .or (.lit .u64 2) (.bin .shl (.bin .and (.conv .u64 (.var .i64 70)) (.lit .u64 1023)) (.lit .u64 3))) (.lit .u64 0)) (.lit .u64 0)))) (Tm.enc (.var .i64 72)) (Tm.enc (.bin .or (.bin .or (.bin .or (.lit .u64 1) (.bin .shl (.bin .and (.conv .u64 (.var .i64 70)) (.lit .u64 1023)) (.lit .u64 3))) (.lit .u64 0)) (.lit .u64 0)))) (Tm.enc (.var .i64 74)) (Tm.enc (.bin .add (.bin .add (.app .u64 63 (.cons (.var .i64 68) .nil)) (.lit .u64 18446744073709551615)) (.lit .u64 1)))) (Tm.enc (.var .i64 69)) (Tm.enc (.lit .u64 12))) (Tm.enc (.var .i64 69)) (Tm.enc (.lit .u64 11))) (Tm.enc (.var .i64 75)) (Tm.enc (.lit .u64 4294967806)))
def gO210 (T : Sy) : Int → Int := (fun j => ifE j (T.ρ 75) ((4294967806 : Int)) ((fun j => ifE j (T.ρ 69) ((11 : Int)) ((fun j => ifE j (T.ρ 69) ((12 : Int)) ((fun j => ifE j (T.ρ 74) ((IntKind.u64.wrap ((IntKind.u64.wrap ((T.Φ 63 [T.ρ 68]) + (18446744073709551615 : Int))) + (1 : Int)))) ((fun j => ifE j (T.ρ 72) ((opZ .or .u64 ((opZ .or .u64 ((opZ .or .u64 ((1 : Int)) ((opZ .shl .u64 ((opZ .and .u64 ((IntKind.u64.wrap (T.ρ 70))) ((1023 : Int)))) ((3 : Int)))))) ((0 : Int)))) ((0 : Int)))) ((fun j => ifE j (T.ρ 71) ((opZ .or .u64 ((opZ .or .u64 ((opZ .or .u64 ((2 : Int)) ((opZ .shl .u64 ((opZ .and .u64 ((IntKind.u64.wrap (T.ρ 70))) ((1023 : Int)))) ((3 : Int)))))) ((0 : Int)))) ((0 : Int)))) ((fun j => ifE j (T.ρ 69) ((0 : Int)) ((fun j => ifE j (T.ρ 68) ((IntKind.u64.wrap ((T.Φ 63 [T.ρ 68]) + (18446744073709551615 : Int)))) ((fun j => T.Φ 63 [j]) j)) j)) j)) j)) j)) j)) j)) j))
set_option maxHeartbeats 4000000 in
theorem runO210 {S1 : Sy} (ty : TypeId) (ha : AlOk S1 (alGL ++ (alLL ++ (alP21L ++ alO0L)))) (G : Nat → Option Obj) : rOutR 300 [] (XOB ty) (FOB ty) Tryd.prog.globals.size (runM Tryd.prog ΛB (lkL [noL, lkB ty, noL]) ftB ha [cLg] G 1000 (.code (cAt Tryd.prog lpOB) (XOB ty).A) ((XOB ty).H Tryd.prog)) = some (none, asgO rO210 t50_2.enc) := by kernel_rfl
set_option maxHeartbeats 8000000 in
theorem wayO210 {T : Sy} {i : Int} (R : RNm T i) (h21 : T.ρ 21 = i) (hw : i < T.ρ 17) (hd : (T.ρ 20 + i) % 4 = 0) (hl : 2 ≤ T.ρ 5 - i - 1) (hs : T.ρ 74 = T.ρ 68) (lk : LkAt Tryd.prog T (gsT ty) (.loop (cAt Tryd.prog lpBB)) (lkB ty)) : WayO ty T i := by
 have hK := R.geo.K
 have hws := R.geo.w
 obtain ⟨e68, e69, e71, e72, e74, e75, l0, l1, l2, l3, n0, n1, i0, i1⟩ := places R
 obtain ⟨S2, hS2⟩ : ∃ S2 : Sy, S2 = T.set (upd T.ρ [(21, i + 1), (50, m50_2 T)]) [(60, gO210 T)] 60 rfl hK := ⟨_, rfl⟩
 have y : Stay [21, 50] [60] T S2 := by rw [hS2]; exact (Stay.refl _ _ _).set rfl rfl
 have s21 : S2.ρ 21 = i + 1 := by rw [hS2]; rfl
 have s50 : S2.ρ 50 = m50_2 T := by rw [hS2]; rfl
 have z : ∀ j : Int, S2.Φ 60 [j] = gO210 T j := by rw [hS2]; intro j; rfl
 clear hS2
 have hr : Row T rO210 (gO210 T) := by
  unfold rO210 gO210
  (repeat refine ar_upd _ _ (by rfl) (by rfl) (by kernel_rfl) ?_)
  exact ar_var _
 have hA := asgO_ok hr (fun j => (z j).symm) t50_2 (by rw [s50]; rfl) (by kernel_rfl) (by rw [h21, w_i64 (by omega) (by omega), s21]) y
 have hm : Mem S2 60 (i + 1) := memO R y z hd (fun j h0 h1 => by unfold gO210; dsimp only [ifE]; (repeat rw [if_neg (by omega)])) (by unfold gO210; dsimp only [ifE]; rw [if_neg (by omega), if_pos (by omega)]; rfl) (by unfold gO210; dsimp only [ifE]; (repeat rw [if_neg (by omega)]); rw [if_pos (by omega)]; exact (wordF (l := T.ρ 70) (by rw [R.e70]; omega)).trans (by rw [R.e70]; congr 1; omega)) (fun j h0 h1 h2 => by unfold gO210; dsimp only [ifE]; (repeat rw [if_neg (by omega)])) (by unfold gO210; dsimp only [ifE]; rw [if_pos (by omega)]; rfl)
 exact ⟨S2, fun U hU => ⟨_, _, _, 1000, _, [], AlOk.app (alG_ok R.geo) (AlOk.app (alL_ok R.geo) (AlOk.app (alP21_ok R hl hs) (alO0_ok R h21 hw hd))), cs1_ok R, lkO_all lk, setT hA hU (by kernel_rfl), runO210 ty _⟩, ⟨R.geo.stay y rfl rfl, by omega, by rw [y.num 17 rfl]; omega, s21, hm⟩, y⟩
def rO211 : ACode := (.upd (.upd (.upd (.upd (.upd (.upd (.upd (.upd (.var 63) (Tm.enc (.var .i64 68)) (Tm.enc (.bin .add (.app .u64 63 (.cons (.var .i64 68) .nil)) (.lit .u64 18446744073709551615)))) (Tm.enc (.var .i64 69)) (Tm.enc (.lit .u64 0))) (Tm.enc (.var .i64 71)) (Tm.enc (.bin .or (.bin .or (.bin .or (.lit .u64 2) (.bin .shl (.bin .and (.conv .u64 (.var .i64 70)) (.lit .u64 1023)) (.lit .u64 3))) (.lit .u64 0)) (.lit .u64 0)))) (Tm.enc (.var .i64 72)) (Tm.enc (.bin .or (.bin .or (.bin .or (.lit .u64 1) (.bin .shl (.bin .and (.conv .u64 (.var .i64 70)) (.lit .u64 1023)) (.lit .u64 3))) (.lit .u64 0)) (.lit .u64 0)))) (Tm.enc (.var .i64 74)) (Tm.enc (.bin .add (.bin .add (.app .u64 63 (.cons (.var .i64 68) .nil)) (.lit .u64 18446744073709551615)) (.lit .u64 1)))) (Tm.enc (.var .i64 69)) (Tm.enc (.lit .u64 12))) (Tm.enc (.var .i64 69)) (Tm.enc (.lit .u64 8203))) (Tm.enc (.var .i64 75)) (Tm.enc (.lit .u64 4294967822)))
def gO211 (T : Sy) : Int → Int := (fun j => ifE j (T.ρ 75) ((4294967822 : Int)) ((fun j => ifE j (T.ρ 69) ((8203 : Int)) ((fun j => ifE j (T.ρ 69) ((12 : Int)) ((fun j => ifE j (T.ρ 74) ((IntKind.u64.wrap ((IntKind.u64.wrap ((T.Φ 63 [T.ρ 68]) + (18446744073709551615 : Int))) + (1 : Int)))) ((fun j => ifE j (T.ρ 72) ((opZ .or .u64 ((opZ .or .u64 ((opZ .or .u64 ((1 : Int)) ((opZ .shl .u64 ((opZ .and .u64 ((IntKind.u64.wrap (T.ρ 70))) ((1023 : Int)))) ((3 : Int)))))) ((0 : Int)))) ((0 : Int)))) ((fun j => ifE j (T.ρ 71) ((opZ .or .u64 ((opZ .or .u64 ((opZ .or .u64 ((2 : Int)) ((opZ .shl .u64 ((opZ .and .u64 ((IntKind.u64.wrap (T.ρ 70))) ((1023 : Int)))) ((3 : Int)))))) ((0 : Int)))) ((0 : Int)))) ((fun j => ifE j (T.ρ 69) ((0 : Int)) ((fun j => ifE j (T.ρ 68) ((IntKind.u64.wrap ((T.Φ 63 [T.ρ 68]) + (18446744073709551615 : Int)))) ((fun j => T.Φ 63 [j]) j)) j)) j)) j)) j)) j)) j)) j))
set_option maxHeartbeats 4000000 in
theorem runO211 {S1 : Sy} (ty : TypeId) (ha : AlOk S1 (alGL ++ (alLL ++ (alP21L ++ alO1L)))) (G : Nat → Option Obj) : rOutR 300 [] (XOB ty) (FOB ty) Tryd.prog.globals.size (runM Tryd.prog ΛB (lkL [noL, lkB ty, noL]) ftB ha [cLg] G 1000 (.code (cAt Tryd.prog lpOB) (XOB ty).A) ((XOB ty).H Tryd.prog)) = some (none, asgO rO211 t50_2.enc) := by kernel_rfl
set_option maxHeartbeats 8000000 in
theorem wayO211 {T : Sy} {i : Int} (R : RNm T i) (h21 : T.ρ 21 = i) (hw : i < T.ρ 17) (hd : (T.ρ 20 + i) % 4 = 1) (hl : 2 ≤ T.ρ 5 - i - 1) (hs : T.ρ 74 = T.ρ 68) (lk : LkAt Tryd.prog T (gsT ty) (.loop (cAt Tryd.prog lpBB)) (lkB ty)) : WayO ty T i := by
 have hK := R.geo.K
 have hws := R.geo.w
 obtain ⟨e68, e69, e71, e72, e74, e75, l0, l1, l2, l3, n0, n1, i0, i1⟩ := places R
 obtain ⟨S2, hS2⟩ : ∃ S2 : Sy, S2 = T.set (upd T.ρ [(21, i + 1), (50, m50_2 T)]) [(60, gO211 T)] 60 rfl hK := ⟨_, rfl⟩
 have y : Stay [21, 50] [60] T S2 := by rw [hS2]; exact (Stay.refl _ _ _).set rfl rfl
 have s21 : S2.ρ 21 = i + 1 := by rw [hS2]; rfl
 have s50 : S2.ρ 50 = m50_2 T := by rw [hS2]; rfl
 have z : ∀ j : Int, S2.Φ 60 [j] = gO211 T j := by rw [hS2]; intro j; rfl
 clear hS2
 have hr : Row T rO211 (gO211 T) := by
  unfold rO211 gO211
  (repeat refine ar_upd _ _ (by rfl) (by rfl) (by kernel_rfl) ?_)
  exact ar_var _
 have hA := asgO_ok hr (fun j => (z j).symm) t50_2 (by rw [s50]; rfl) (by kernel_rfl) (by rw [h21, w_i64 (by omega) (by omega), s21]) y
 have hm : Mem S2 60 (i + 1) := memO R y z hd (fun j h0 h1 => by unfold gO211; dsimp only [ifE]; (repeat rw [if_neg (by omega)])) (by unfold gO211; dsimp only [ifE]; rw [if_neg (by omega), if_pos (by omega)]; rfl) (by unfold gO211; dsimp only [ifE]; (repeat rw [if_neg (by omega)]); rw [if_pos (by omega)]; exact (wordF (l := T.ρ 70) (by rw [R.e70]; omega)).trans (by rw [R.e70]; congr 1; omega)) (fun j h0 h1 h2 => by unfold gO211; dsimp only [ifE]; (repeat rw [if_neg (by omega)])) (by unfold gO211; dsimp only [ifE]; rw [if_pos (by omega)]; rfl)
 exact ⟨S2, fun U hU => ⟨_, _, _, 1000, _, [], AlOk.app (alG_ok R.geo) (AlOk.app (alL_ok R.geo) (AlOk.app (alP21_ok R hl hs) (alO1_ok R h21 hw hd))), cs1_ok R, lkO_all lk, setT hA hU (by kernel_rfl), runO211 ty _⟩, ⟨R.geo.stay y rfl rfl, by omega, by rw [y.num 17 rfl]; omega, s21, hm⟩, y⟩
def rO212 : ACode := (.upd (.upd (.upd (.upd (.upd (.upd (.upd (.upd (.var 63) (Tm.enc (.var .i64 68)) (Tm.enc (.bin .add (.app .u64 63 (.cons (.var .i64 68) .nil)) (.lit .u64 18446744073709551615)))) (Tm.enc (.var .i64 69)) (Tm.enc (.lit .u64 0))) (Tm.enc (.var .i64 71)) (Tm.enc (.bin .or (.bin .or (.bin .or (.lit .u64 2) (.bin .shl (.bin .and (.conv .u64 (.var .i64 70)) (.lit .u64 1023)) (.lit .u64 3))) (.lit .u64 0)) (.lit .u64 0)))) (Tm.enc (.var .i64 72)) (Tm.enc (.bin .or (.bin .or (.bin .or (.lit .u64 1) (.bin .shl (.bin .and (.conv .u64 (.var .i64 70)) (.lit .u64 1023)) (.lit .u64 3))) (.lit .u64 0)) (.lit .u64 0)))) (Tm.enc (.var .i64 74)) (Tm.enc (.bin .add (.bin .add (.app .u64 63 (.cons (.var .i64 68) .nil)) (.lit .u64 18446744073709551615)) (.lit .u64 1)))) (Tm.enc (.var .i64 69)) (Tm.enc (.lit .u64 12))) (Tm.enc (.var .i64 69)) (Tm.enc (.lit .u64 16395))) (Tm.enc (.var .i64 75)) (Tm.enc (.lit .u64 4294968066)))
def gO212 (T : Sy) : Int → Int := (fun j => ifE j (T.ρ 75) ((4294968066 : Int)) ((fun j => ifE j (T.ρ 69) ((16395 : Int)) ((fun j => ifE j (T.ρ 69) ((12 : Int)) ((fun j => ifE j (T.ρ 74) ((IntKind.u64.wrap ((IntKind.u64.wrap ((T.Φ 63 [T.ρ 68]) + (18446744073709551615 : Int))) + (1 : Int)))) ((fun j => ifE j (T.ρ 72) ((opZ .or .u64 ((opZ .or .u64 ((opZ .or .u64 ((1 : Int)) ((opZ .shl .u64 ((opZ .and .u64 ((IntKind.u64.wrap (T.ρ 70))) ((1023 : Int)))) ((3 : Int)))))) ((0 : Int)))) ((0 : Int)))) ((fun j => ifE j (T.ρ 71) ((opZ .or .u64 ((opZ .or .u64 ((opZ .or .u64 ((2 : Int)) ((opZ .shl .u64 ((opZ .and .u64 ((IntKind.u64.wrap (T.ρ 70))) ((1023 : Int)))) ((3 : Int)))))) ((0 : Int)))) ((0 : Int)))) ((fun j => ifE j (T.ρ 69) ((0 : Int)) ((fun j => ifE j (T.ρ 68) ((IntKind.u64.wrap ((T.Φ 63 [T.ρ 68]) + (18446744073709551615 : Int)))) ((fun j => T.Φ 63 [j]) j)) j)) j)) j)) j)) j)) j)) j))
set_option maxHeartbeats 4000000 in
theorem runO212 {S1 : Sy} (ty : TypeId) (ha : AlOk S1 (alGL ++ (alLL ++ (alP21L ++ alO2L)))) (G : Nat → Option Obj) : rOutR 300 [] (XOB ty) (FOB ty) Tryd.prog.globals.size (runM Tryd.prog ΛB (lkL [noL, lkB ty, noL]) ftB ha [cLg] G 1000 (.code (cAt Tryd.prog lpOB) (XOB ty).A) ((XOB ty).H Tryd.prog)) = some (none, asgO rO212 t50_2.enc) := by kernel_rfl
set_option maxHeartbeats 8000000 in
theorem wayO212 {T : Sy} {i : Int} (R : RNm T i) (h21 : T.ρ 21 = i) (hw : i < T.ρ 17) (hd : (T.ρ 20 + i) % 4 = 2) (hl : 2 ≤ T.ρ 5 - i - 1) (hs : T.ρ 74 = T.ρ 68) (lk : LkAt Tryd.prog T (gsT ty) (.loop (cAt Tryd.prog lpBB)) (lkB ty)) : WayO ty T i := by
 have hK := R.geo.K
 have hws := R.geo.w
 obtain ⟨e68, e69, e71, e72, e74, e75, l0, l1, l2, l3, n0, n1, i0, i1⟩ := places R
 obtain ⟨S2, hS2⟩ : ∃ S2 : Sy, S2 = T.set (upd T.ρ [(21, i + 1), (50, m50_2 T)]) [(60, gO212 T)] 60 rfl hK := ⟨_, rfl⟩
 have y : Stay [21, 50] [60] T S2 := by rw [hS2]; exact (Stay.refl _ _ _).set rfl rfl
 have s21 : S2.ρ 21 = i + 1 := by rw [hS2]; rfl
 have s50 : S2.ρ 50 = m50_2 T := by rw [hS2]; rfl
 have z : ∀ j : Int, S2.Φ 60 [j] = gO212 T j := by rw [hS2]; intro j; rfl
 clear hS2
 have hr : Row T rO212 (gO212 T) := by
  unfold rO212 gO212
  (repeat refine ar_upd _ _ (by rfl) (by rfl) (by kernel_rfl) ?_)
  exact ar_var _
 have hA := asgO_ok hr (fun j => (z j).symm) t50_2 (by rw [s50]; rfl) (by kernel_rfl) (by rw [h21, w_i64 (by omega) (by omega), s21]) y
 have hm : Mem S2 60 (i + 1) := memO R y z hd (fun j h0 h1 => by unfold gO212; dsimp only [ifE]; (repeat rw [if_neg (by omega)])) (by unfold gO212; dsimp only [ifE]; rw [if_neg (by omega), if_pos (by omega)]; rfl) (by unfold gO212; dsimp only [ifE]; (repeat rw [if_neg (by omega)]); rw [if_pos (by omega)]; exact (wordF (l := T.ρ 70) (by rw [R.e70]; omega)).trans (by rw [R.e70]; congr 1; omega)) (fun j h0 h1 h2 => by unfold gO212; dsimp only [ifE]; (repeat rw [if_neg (by omega)])) (by unfold gO212; dsimp only [ifE]; rw [if_pos (by omega)]; rfl)
 exact ⟨S2, fun U hU => ⟨_, _, _, 1000, _, [], AlOk.app (alG_ok R.geo) (AlOk.app (alL_ok R.geo) (AlOk.app (alP21_ok R hl hs) (alO2_ok R h21 hw hd))), cs1_ok R, lkO_all lk, setT hA hU (by kernel_rfl), runO212 ty _⟩, ⟨R.geo.stay y rfl rfl, by omega, by rw [y.num 17 rfl]; omega, s21, hm⟩, y⟩
def rO213 : ACode := (.upd (.upd (.upd (.upd (.upd (.upd (.upd (.upd (.var 63) (Tm.enc (.var .i64 68)) (Tm.enc (.bin .add (.app .u64 63 (.cons (.var .i64 68) .nil)) (.lit .u64 18446744073709551615)))) (Tm.enc (.var .i64 69)) (Tm.enc (.lit .u64 0))) (Tm.enc (.var .i64 71)) (Tm.enc (.bin .or (.bin .or (.bin .or (.lit .u64 2) (.bin .shl (.bin .and (.conv .u64 (.var .i64 70)) (.lit .u64 1023)) (.lit .u64 3))) (.lit .u64 0)) (.lit .u64 0)))) (Tm.enc (.var .i64 72)) (Tm.enc (.bin .or (.bin .or (.bin .or (.lit .u64 1) (.bin .shl (.bin .and (.conv .u64 (.var .i64 70)) (.lit .u64 1023)) (.lit .u64 3))) (.lit .u64 0)) (.lit .u64 0)))) (Tm.enc (.var .i64 74)) (Tm.enc (.bin .add (.bin .add (.app .u64 63 (.cons (.var .i64 68) .nil)) (.lit .u64 18446744073709551615)) (.lit .u64 1)))) (Tm.enc (.var .i64 69)) (Tm.enc (.lit .u64 12))) (Tm.enc (.var .i64 69)) (Tm.enc (.lit .u64 24587))) (Tm.enc (.var .i64 75)) (Tm.enc (.lit .u64 4294968322)))
def gO213 (T : Sy) : Int → Int := (fun j => ifE j (T.ρ 75) ((4294968322 : Int)) ((fun j => ifE j (T.ρ 69) ((24587 : Int)) ((fun j => ifE j (T.ρ 69) ((12 : Int)) ((fun j => ifE j (T.ρ 74) ((IntKind.u64.wrap ((IntKind.u64.wrap ((T.Φ 63 [T.ρ 68]) + (18446744073709551615 : Int))) + (1 : Int)))) ((fun j => ifE j (T.ρ 72) ((opZ .or .u64 ((opZ .or .u64 ((opZ .or .u64 ((1 : Int)) ((opZ .shl .u64 ((opZ .and .u64 ((IntKind.u64.wrap (T.ρ 70))) ((1023 : Int)))) ((3 : Int)))))) ((0 : Int)))) ((0 : Int)))) ((fun j => ifE j (T.ρ 71) ((opZ .or .u64 ((opZ .or .u64 ((opZ .or .u64 ((2 : Int)) ((opZ .shl .u64 ((opZ .and .u64 ((IntKind.u64.wrap (T.ρ 70))) ((1023 : Int)))) ((3 : Int)))))) ((0 : Int)))) ((0 : Int)))) ((fun j => ifE j (T.ρ 69) ((0 : Int)) ((fun j => ifE j (T.ρ 68) ((IntKind.u64.wrap ((T.Φ 63 [T.ρ 68]) + (18446744073709551615 : Int)))) ((fun j => T.Φ 63 [j]) j)) j)) j)) j)) j)) j)) j)) j))
set_option maxHeartbeats 4000000 in
theorem runO213 {S1 : Sy} (ty : TypeId) (ha : AlOk S1 (alGL ++ (alLL ++ (alP21L ++ alO3L)))) (G : Nat → Option Obj) : rOutR 300 [] (XOB ty) (FOB ty) Tryd.prog.globals.size (runM Tryd.prog ΛB (lkL [noL, lkB ty, noL]) ftB ha [cLg] G 1000 (.code (cAt Tryd.prog lpOB) (XOB ty).A) ((XOB ty).H Tryd.prog)) = some (none, asgO rO213 t50_2.enc) := by kernel_rfl
set_option maxHeartbeats 8000000 in
theorem wayO213 {T : Sy} {i : Int} (R : RNm T i) (h21 : T.ρ 21 = i) (hw : i < T.ρ 17) (hd : (T.ρ 20 + i) % 4 = 3) (hl : 2 ≤ T.ρ 5 - i - 1) (hs : T.ρ 74 = T.ρ 68) (lk : LkAt Tryd.prog T (gsT ty) (.loop (cAt Tryd.prog lpBB)) (lkB ty)) : WayO ty T i := by
 have hK := R.geo.K
 have hws := R.geo.w
 obtain ⟨e68, e69, e71, e72, e74, e75, l0, l1, l2, l3, n0, n1, i0, i1⟩ := places R
 obtain ⟨S2, hS2⟩ : ∃ S2 : Sy, S2 = T.set (upd T.ρ [(21, i + 1), (50, m50_2 T)]) [(60, gO213 T)] 60 rfl hK := ⟨_, rfl⟩
 have y : Stay [21, 50] [60] T S2 := by rw [hS2]; exact (Stay.refl _ _ _).set rfl rfl
 have s21 : S2.ρ 21 = i + 1 := by rw [hS2]; rfl
 have s50 : S2.ρ 50 = m50_2 T := by rw [hS2]; rfl
 have z : ∀ j : Int, S2.Φ 60 [j] = gO213 T j := by rw [hS2]; intro j; rfl
 clear hS2
 have hr : Row T rO213 (gO213 T) := by
  unfold rO213 gO213
  (repeat refine ar_upd _ _ (by rfl) (by rfl) (by kernel_rfl) ?_)
  exact ar_var _
 have hA := asgO_ok hr (fun j => (z j).symm) t50_2 (by rw [s50]; rfl) (by kernel_rfl) (by rw [h21, w_i64 (by omega) (by omega), s21]) y
 have hm : Mem S2 60 (i + 1) := memO R y z hd (fun j h0 h1 => by unfold gO213; dsimp only [ifE]; (repeat rw [if_neg (by omega)])) (by unfold gO213; dsimp only [ifE]; rw [if_neg (by omega), if_pos (by omega)]; rfl) (by unfold gO213; dsimp only [ifE]; (repeat rw [if_neg (by omega)]); rw [if_pos (by omega)]; exact (wordF (l := T.ρ 70) (by rw [R.e70]; omega)).trans (by rw [R.e70]; congr 1; omega)) (fun j h0 h1 h2 => by unfold gO213; dsimp only [ifE]; (repeat rw [if_neg (by omega)])) (by unfold gO213; dsimp only [ifE]; rw [if_pos (by omega)]; rfl)
 exact ⟨S2, fun U hU => ⟨_, _, _, 1000, _, [], AlOk.app (alG_ok R.geo) (AlOk.app (alL_ok R.geo) (AlOk.app (alP21_ok R hl hs) (alO3_ok R h21 hw hd))), cs1_ok R, lkO_all lk, setT hA hU (by kernel_rfl), runO213 ty _⟩, ⟨R.geo.stay y rfl rfl, by omega, by rw [y.num 17 rfl]; omega, s21, hm⟩, y⟩
end
end Go.Proofs.YtgokpcaijabhoaaDoor
/-
 SlabBlocks: what is decided ahead, behind bestFit and at the end. Conditions: those each says.
-/
namespace Go.Proofs.YtgokpcaijabhoaaDoor
open Go.Ev Go.RowKit
set_option maxRecDepth 100000
set_option linter.unusedVariables false
structure QInP (S : Sy) : Prop where
 geo : GeoS S
 h0 : 0 ≤ S.ρ 98
 h1 : S.ρ 98 < S.ρ 5
 e99 : S.ρ 99 = 22 + S.ρ 98
def alQPE : List En := [.iv (.bin .mul (.lit .i64 0) (.var .i64 5)) 0, .nm (.bin .add (.lit .i64 0) (.var .i64 98)) 98, .nm (.bin .mul (.var .i64 98) (.lit .i64 1)) 98, .nm (.bin .add (.var .i64 98) (.lit .i64 0)) 98, .ds (.bin .lss (.var .i64 98) (.lit .i64 0)) false, .ds (.bin .geq (.var .i64 98) (.var .i64 5)) false, .nm (.bin .add (.lit .i64 22) (.var .i64 98)) 99, .ds (.bin .lss (.var .i64 99) (.lit .i64 0)) false, .ds (.bin .geq (.var .i64 99) (.var .i64 42)) false, .ds (.bin .geq (.var .i64 99) (.lit .i64 0)) true, .ds (.bin .lss (.var .i64 99) (.var .i64 42)) true, .nm (.bin .mul (.var .i64 99) (.lit .i64 1)) 99, .nm (.bin .add (.var .i64 99) (.lit .i64 0)) 99]
def alQPL : List (Nat × Value) := [(1597828503699, .int .i64 0), (25872983662723, .float .f64 50179), (1724154860541075, .float .f64 50179), (26940014594179, .float .f64 50179), (26940014594283, .bool false), (6896635246287107, .bool false), (24795670934200451, .float .f64 50691), (27214892501227, .bool false), (55736065578770179, .bool false), (27214892501251, .bool true), (55736065578770155, .bool true), (1741747046585491, .float .f64 50691), (27214892501123, .float .f64 50691)]
theorem alQP_eq : alQPL = alQPE.map En.pr := by kernel_rfl
theorem alQP_all : (alQPE.all En.okB) = true := by kernel_rfl
set_option maxHeartbeats 4000000 in
theorem alQP_h {S : Sy} (h : QInP S) : AllH S alQPE := by
 have gh0 := h.h0; have gh1 := h.h1; have ge99 := h.e99; have ggeo_n := h.geo.n; have ggeo_e31 := h.geo.e31; have ggeo_e32 := h.geo.e32; have ggeo_e42 := h.geo.e42
 exact ⟨(sm (show (IntKind.i64.wrap ((0 : Int) * S.ρ 5)) = (0 : Int) from by rw [w_i64 (by omega) (by omega)]; omega)), (sm (show (IntKind.i64.wrap ((0 : Int) + S.ρ 98)) = S.ρ 98 from by rw [w_i64 (by omega) (by omega)]; omega)), (sm (show (IntKind.i64.wrap (S.ρ 98 * (1 : Int))) = S.ρ 98 from by rw [w_i64 (by omega) (by omega)]; omega)), (sm (show (IntKind.i64.wrap (S.ρ 98 + (0 : Int))) = S.ρ 98 from by rw [w_i64 (by omega) (by omega)]; omega)), (fls (p := S.ρ 98 < (0 : Int)) (by omega)), (fls (p := S.ρ 5 ≤ S.ρ 98) (by omega)), (sm (show (IntKind.i64.wrap ((22 : Int) + S.ρ 98)) = S.ρ 99 from by rw [w_i64 (by omega) (by omega)]; omega)), (fls (p := S.ρ 99 < (0 : Int)) (by omega)), (fls (p := S.ρ 42 ≤ S.ρ 99) (by omega)), (tr (p := (0 : Int) ≤ S.ρ 99) (by omega)), (tr (p := S.ρ 99 < S.ρ 42) (by omega)), (sm (show (IntKind.i64.wrap (S.ρ 99 * (1 : Int))) = S.ρ 99 from by rw [w_i64 (by omega) (by omega)]; omega)), (sm (show (IntKind.i64.wrap (S.ρ 99 + (0 : Int))) = S.ρ 99 from by rw [w_i64 (by omega) (by omega)]; omega)), trivial⟩
theorem alQP_ok {S : Sy} (h : QInP S) : AlOk S alQPL := alE alQP_all alQP_eq (alQP_h h)
structure QInB (S : Sy) : Prop where
 geo : GeoS S
 h0 : 0 ≤ S.ρ 98
 h1 : S.ρ 98 < S.ρ 5
 e99 : S.ρ 99 = S.ρ 31 + S.ρ 98
def alQBE : List En := [.iv (.bin .mul (.lit .i64 0) (.var .i64 5)) 0, .nm (.bin .add (.lit .i64 0) (.var .i64 98)) 98, .nm (.bin .mul (.var .i64 98) (.lit .i64 1)) 98, .nm (.bin .add (.var .i64 98) (.lit .i64 0)) 98, .ds (.bin .lss (.var .i64 98) (.lit .i64 0)) false, .ds (.bin .geq (.var .i64 98) (.var .i64 5)) false, .nm (.bin .add (.var .i64 31) (.var .i64 98)) 99, .ds (.bin .lss (.var .i64 99) (.lit .i64 0)) false, .ds (.bin .geq (.var .i64 99) (.var .i64 42)) false, .ds (.bin .geq (.var .i64 99) (.lit .i64 0)) true, .ds (.bin .lss (.var .i64 99) (.var .i64 42)) true, .nm (.bin .mul (.var .i64 99) (.lit .i64 1)) 99, .nm (.bin .add (.var .i64 99) (.lit .i64 0)) 99]
def alQBL : List (Nat × Value) := [(1597828503699, .int .i64 0), (25872983662723, .float .f64 50179), (1724154860541075, .float .f64 50179), (26940014594179, .float .f64 50179), (26940014594283, .bool false), (6896635246287107, .bool false), (34911177909739651, .float .f64 50691), (27214892501227, .bool false), (55736065578770179, .bool false), (27214892501251, .bool true), (55736065578770155, .bool true), (1741747046585491, .float .f64 50691), (27214892501123, .float .f64 50691)]
theorem alQB_eq : alQBL = alQBE.map En.pr := by kernel_rfl
theorem alQB_all : (alQBE.all En.okB) = true := by kernel_rfl
set_option maxHeartbeats 4000000 in
theorem alQB_h {S : Sy} (h : QInB S) : AllH S alQBE := by
 have gh0 := h.h0; have gh1 := h.h1; have ge99 := h.e99; have ggeo_n := h.geo.n; have ggeo_e31 := h.geo.e31; have ggeo_e32 := h.geo.e32; have ggeo_e42 := h.geo.e42
 exact ⟨(sm (show (IntKind.i64.wrap ((0 : Int) * S.ρ 5)) = (0 : Int) from by rw [w_i64 (by omega) (by omega)]; omega)), (sm (show (IntKind.i64.wrap ((0 : Int) + S.ρ 98)) = S.ρ 98 from by rw [w_i64 (by omega) (by omega)]; omega)), (sm (show (IntKind.i64.wrap (S.ρ 98 * (1 : Int))) = S.ρ 98 from by rw [w_i64 (by omega) (by omega)]; omega)), (sm (show (IntKind.i64.wrap (S.ρ 98 + (0 : Int))) = S.ρ 98 from by rw [w_i64 (by omega) (by omega)]; omega)), (fls (p := S.ρ 98 < (0 : Int)) (by omega)), (fls (p := S.ρ 5 ≤ S.ρ 98) (by omega)), (sm (show (IntKind.i64.wrap (S.ρ 31 + S.ρ 98)) = S.ρ 99 from by rw [w_i64 (by omega) (by omega)]; omega)), (fls (p := S.ρ 99 < (0 : Int)) (by omega)), (fls (p := S.ρ 42 ≤ S.ρ 99) (by omega)), (tr (p := (0 : Int) ≤ S.ρ 99) (by omega)), (tr (p := S.ρ 99 < S.ρ 42) (by omega)), (sm (show (IntKind.i64.wrap (S.ρ 99 * (1 : Int))) = S.ρ 99 from by rw [w_i64 (by omega) (by omega)]; omega)), (sm (show (IntKind.i64.wrap (S.ρ 99 + (0 : Int))) = S.ρ 99 from by rw [w_i64 (by omega) (by omega)]; omega)), trivial⟩
theorem alQB_ok {S : Sy} (h : QInB S) : AlOk S alQBL := alE alQB_all alQB_eq (alQB_h h)
structure QInR (S : Sy) : Prop where
 geo : GeoS S
 h0 : 0 ≤ S.ρ 98
 h1 : S.ρ 98 < S.ρ 5
 e99 : S.ρ 99 = S.ρ 32 + S.ρ 98
def alQRE : List En := [.iv (.bin .mul (.lit .i64 0) (.var .i64 5)) 0, .nm (.bin .add (.lit .i64 0) (.var .i64 98)) 98, .nm (.bin .mul (.var .i64 98) (.lit .i64 1)) 98, .nm (.bin .add (.var .i64 98) (.lit .i64 0)) 98, .ds (.bin .lss (.var .i64 98) (.lit .i64 0)) false, .ds (.bin .geq (.var .i64 98) (.var .i64 5)) false, .nm (.bin .add (.var .i64 32) (.var .i64 98)) 99, .ds (.bin .lss (.var .i64 99) (.lit .i64 0)) false, .ds (.bin .geq (.var .i64 99) (.var .i64 42)) false, .ds (.bin .geq (.var .i64 99) (.lit .i64 0)) true, .ds (.bin .lss (.var .i64 99) (.var .i64 42)) true, .nm (.bin .mul (.var .i64 99) (.lit .i64 1)) 99, .nm (.bin .add (.var .i64 99) (.lit .i64 0)) 99]
def alQRL : List (Nat × Value) := [(1597828503699, .int .i64 0), (25872983662723, .float .f64 50179), (1724154860541075, .float .f64 50179), (26940014594179, .float .f64 50179), (26940014594283, .bool false), (6896635246287107, .bool false), (36037077816582275, .float .f64 50691), (27214892501227, .bool false), (55736065578770179, .bool false), (27214892501251, .bool true), (55736065578770155, .bool true), (1741747046585491, .float .f64 50691), (27214892501123, .float .f64 50691)]
theorem alQR_eq : alQRL = alQRE.map En.pr := by kernel_rfl
theorem alQR_all : (alQRE.all En.okB) = true := by kernel_rfl
set_option maxHeartbeats 4000000 in
theorem alQR_h {S : Sy} (h : QInR S) : AllH S alQRE := by
 have gh0 := h.h0; have gh1 := h.h1; have ge99 := h.e99; have ggeo_n := h.geo.n; have ggeo_e31 := h.geo.e31; have ggeo_e32 := h.geo.e32; have ggeo_e42 := h.geo.e42
 exact ⟨(sm (show (IntKind.i64.wrap ((0 : Int) * S.ρ 5)) = (0 : Int) from by rw [w_i64 (by omega) (by omega)]; omega)), (sm (show (IntKind.i64.wrap ((0 : Int) + S.ρ 98)) = S.ρ 98 from by rw [w_i64 (by omega) (by omega)]; omega)), (sm (show (IntKind.i64.wrap (S.ρ 98 * (1 : Int))) = S.ρ 98 from by rw [w_i64 (by omega) (by omega)]; omega)), (sm (show (IntKind.i64.wrap (S.ρ 98 + (0 : Int))) = S.ρ 98 from by rw [w_i64 (by omega) (by omega)]; omega)), (fls (p := S.ρ 98 < (0 : Int)) (by omega)), (fls (p := S.ρ 5 ≤ S.ρ 98) (by omega)), (sm (show (IntKind.i64.wrap (S.ρ 32 + S.ρ 98)) = S.ρ 99 from by rw [w_i64 (by omega) (by omega)]; omega)), (fls (p := S.ρ 99 < (0 : Int)) (by omega)), (fls (p := S.ρ 42 ≤ S.ρ 99) (by omega)), (tr (p := (0 : Int) ≤ S.ρ 99) (by omega)), (tr (p := S.ρ 99 < S.ρ 42) (by omega)), (sm (show (IntKind.i64.wrap (S.ρ 99 * (1 : Int))) = S.ρ 99 from by rw [w_i64 (by omega) (by omega)]; omega)), (sm (show (IntKind.i64.wrap (S.ρ 99 + (0 : Int))) = S.ρ 99 from by rw [w_i64 (by omega) (by omega)]; omega)), trivial⟩
theorem alQR_ok {S : Sy} (h : QInR S) : AlOk S alQRL := alE alQR_all alQR_eq (alQR_h h)
end Go.Proofs.YtgokpcaijabhoaaDoor
/-
 SlabBlocks: what is decided ahead, behind bestFit and at the end. Conditions: those each says.
-/
namespace Go.Proofs.YtgokpcaijabhoaaDoor
open Go.Ev Go.RowKit
set_option maxRecDepth 100000
set_option linter.unusedVariables false
structure TNm0 (S : Sy) : Prop where
 rn : RNm S (S.ρ 17)
 hd : S.ρ 20 = 0
 e77 : S.ρ 77 = 8 * S.ρ 17
 e78 : S.ρ 78 = 64 * S.ρ 17
 e79 : S.ρ 79 = 64 * S.ρ 17 + 64
 e120 : S.ρ 120 = 64 * S.ρ 17 + 8
 e101 : S.ρ 101 = 8 * S.ρ 17 + 1
 e111 : S.ρ 111 = 64 * S.ρ 17 + 8
 e121 : S.ρ 121 = 64 * S.ρ 17 + 16
 e102 : S.ρ 102 = 8 * S.ρ 17 + 2
 e112 : S.ρ 112 = 64 * S.ρ 17 + 16
 e122 : S.ρ 122 = 64 * S.ρ 17 + 24
 e103 : S.ρ 103 = 8 * S.ρ 17 + 3
 e113 : S.ρ 113 = 64 * S.ρ 17 + 24
 e123 : S.ρ 123 = 64 * S.ρ 17 + 32
 e104 : S.ρ 104 = 8 * S.ρ 17 + 4
 e114 : S.ρ 114 = 64 * S.ρ 17 + 32
 e124 : S.ρ 124 = 64 * S.ρ 17 + 40
 e105 : S.ρ 105 = 8 * S.ρ 17 + 5
 e115 : S.ρ 115 = 64 * S.ρ 17 + 40
 e125 : S.ρ 125 = 64 * S.ρ 17 + 48
 e106 : S.ρ 106 = 8 * S.ρ 17 + 6
 e116 : S.ρ 116 = 64 * S.ρ 17 + 48
 e126 : S.ρ 126 = 64 * S.ρ 17 + 56
 e107 : S.ρ 107 = 8 * S.ρ 17 + 7
 e117 : S.ρ 117 = 64 * S.ρ 17 + 56
 e127 : S.ρ 127 = 64 * S.ρ 17 + 64
def alT0E : List En := [.iv (.var .i64 20) 0, .iu (.conv .u64 (.var .i64 20)) 0, .iv (.bin .add (.var .i64 20) (.lit .i64 1)) 1, .ds (.bin .lss (.var .i64 20) (.lit .i64 0)) false, .ds (.bin .geq (.var .i64 20) (.lit .i64 4)) false, .ds (.bin .neq (.var .i64 23) (.var .i64 17)) false, .ds (.bin .neq (.lit .i64 0) (.var .i64 20)) false, .ds (.bin .neq (.var .i64 20) (.lit .i64 0)) false, .nm (.bin .add (.lit .i64 0) (.var .i64 17)) 17, .nm (.bin .mul (.var .i64 17) (.lit .i64 1)) 17, .nm (.bin .add (.var .i64 17) (.lit .i64 0)) 17, .ds (.bin .lss (.var .i64 17) (.lit .i64 0)) false, .ds (.bin .geq (.var .i64 17) (.var .i64 5)) false, .nm (.bin .add (.lit .i64 22) (.var .i64 17)) 69, .ds (.bin .lss (.var .i64 69) (.lit .i64 0)) false, .ds (.bin .geq (.var .i64 69) (.var .i64 42)) false, .ds (.bin .geq (.var .i64 69) (.lit .i64 0)) true, .ds (.bin .lss (.var .i64 69) (.var .i64 42)) true, .nm (.bin .mul (.var .i64 69) (.lit .i64 1)) 69, .nm (.bin .add (.var .i64 69) (.lit .i64 0)) 69, .nm (.bin .add (.var .i64 31) (.var .i64 17)) 75, .nm (.bin .add (.var .i64 32) (.var .i64 17)) 76, .nm (.bin .mul (.var .i64 23) (.lit .i64 8)) 77, .nm (.bin .mul (.var .i64 17) (.lit .i64 8)) 77, .iv (.bin .rem (.var .i64 20) (.lit .i64 4)) 0, .nm (.bin .mul (.var .i64 17) (.lit .i64 64)) 78, .nm (.bin .add (.var .i64 78) (.lit .i64 64)) 79, .nm (.bin .mul (.var .i64 77) (.lit .i64 8)) 78, .ds (.bin .lss (.var .i64 78) (.var .i64 78)) false, .nm (.bin .add (.var .i64 78) (.lit .i64 8)) 120, .ds (.bin .gtr (.var .i64 120) (.var .i64 79)) false, .iv (.bin .rem (.var .i64 78) (.lit .i64 8)) 0, .nm (.bin .add (.var .i64 77) (.lit .i64 1)) 101, .nm (.bin .mul (.var .i64 101) (.lit .i64 8)) 111, .ds (.bin .lss (.var .i64 111) (.var .i64 78)) false, .nm (.bin .add (.var .i64 111) (.lit .i64 8)) 121, .ds (.bin .gtr (.var .i64 121) (.var .i64 79)) false, .iv (.bin .rem (.var .i64 111) (.lit .i64 8)) 0, .ds (.bin .lss (.var .i64 111) (.var .i64 120)) false, .nm (.bin .add (.var .i64 77) (.lit .i64 2)) 102, .nm (.bin .mul (.var .i64 102) (.lit .i64 8)) 112, .ds (.bin .lss (.var .i64 112) (.var .i64 78)) false, .nm (.bin .add (.var .i64 112) (.lit .i64 8)) 122, .ds (.bin .gtr (.var .i64 122) (.var .i64 79)) false, .iv (.bin .rem (.var .i64 112) (.lit .i64 8)) 0, .ds (.bin .lss (.var .i64 112) (.var .i64 121)) false, .nm (.bin .add (.var .i64 77) (.lit .i64 3)) 103, .nm (.bin .mul (.var .i64 103) (.lit .i64 8)) 113, .ds (.bin .lss (.var .i64 113) (.var .i64 78)) false, .nm (.bin .add (.var .i64 113) (.lit .i64 8)) 123, .ds (.bin .gtr (.var .i64 123) (.var .i64 79)) false, .iv (.bin .rem (.var .i64 113) (.lit .i64 8)) 0, .ds (.bin .lss (.var .i64 113) (.var .i64 122)) false, .nm (.bin .add (.var .i64 77) (.lit .i64 4)) 104, .nm (.bin .mul (.var .i64 104) (.lit .i64 8)) 114, .ds (.bin .lss (.var .i64 114) (.var .i64 78)) false, .nm (.bin .add (.var .i64 114) (.lit .i64 8)) 124, .ds (.bin .gtr (.var .i64 124) (.var .i64 79)) false, .iv (.bin .rem (.var .i64 114) (.lit .i64 8)) 0, .ds (.bin .lss (.var .i64 114) (.var .i64 123)) false, .nm (.bin .add (.var .i64 77) (.lit .i64 5)) 105, .nm (.bin .mul (.var .i64 105) (.lit .i64 8)) 115, .ds (.bin .lss (.var .i64 115) (.var .i64 78)) false, .nm (.bin .add (.var .i64 115) (.lit .i64 8)) 125, .ds (.bin .gtr (.var .i64 125) (.var .i64 79)) false, .iv (.bin .rem (.var .i64 115) (.lit .i64 8)) 0, .ds (.bin .lss (.var .i64 115) (.var .i64 124)) false, .nm (.bin .add (.var .i64 77) (.lit .i64 6)) 106, .nm (.bin .mul (.var .i64 106) (.lit .i64 8)) 116, .ds (.bin .lss (.var .i64 116) (.var .i64 78)) false, .nm (.bin .add (.var .i64 116) (.lit .i64 8)) 126, .ds (.bin .gtr (.var .i64 126) (.var .i64 79)) false, .iv (.bin .rem (.var .i64 116) (.lit .i64 8)) 0, .ds (.bin .lss (.var .i64 116) (.var .i64 125)) false, .nm (.bin .add (.var .i64 77) (.lit .i64 7)) 107, .nm (.bin .mul (.var .i64 107) (.lit .i64 8)) 117, .ds (.bin .lss (.var .i64 117) (.var .i64 78)) false, .nm (.bin .add (.var .i64 117) (.lit .i64 8)) 127, .ds (.bin .gtr (.var .i64 127) (.var .i64 79)) false, .iv (.bin .rem (.var .i64 117) (.lit .i64 8)) 0, .ds (.bin .lss (.var .i64 117) (.var .i64 126)) false]
def alT0L : List (Nat × Value) := [(10243, .int .i64 0), (343698054175, .int .u64 0), (351964349076611, .int .i64 1), (5499537852651, .bool false), (1407856288995587, .bool false), (6475865890233571, .bool false), (6391012007139, .bool false), (5499537852643, .bool false), (6339472399491, .float .f64 8707), (299187790943379, .float .f64 8707), (4674904131715, .float .f64 8707), (4674904131819, .bool false), (1196766967896323, .bool false), (6198788960033923, .float .f64 35331), (18968555292907, .bool false), (38847566976130819, .bool false), (18968555292931, .bool true), (38847566976130795, .bool true), (1213981465253011, .float .f64 35331), (18968555292803, .float .f64 35331), (8727665703918723, .float .f64 38403), (9009140680629379, .float .f64 38915), (3237924673952403, .float .f64 39427), (2393499743820435, .float .f64 39427), (1407856288995491, .int .i64 0), (19147995366826131, .float .f64 39939), (87827889684226179, .float .f64 40451), (10837749045140115, .float .f64 39939), (87828129933959403, .bool false), (10978486533495427, .float .f64 61443), (135115943201218811, .bool false), (10978486533495459, .int .i64 0), (1354718953608323, .float .f64 51715), (14215448765667987, .float .f64 56835), (124982826859765995, .bool false), (15622823649221251, .float .f64 61955), (136241843108061435, .bool false), (15622823649221283, .int .i64 0), (124983548414271723, .bool false), (2709437538113155, .float .f64 52227), (14356186254023315, .float .f64 57347), (126108726766608619, .bool false), (15763561137576579, .float .f64 62467), (137367743014904059, .bool false), (15763561137576611, .int .i64 0), (126109465500983531, .bool false), (2709454717982339, .float .f64 52739), (14496923742378643, .float .f64 57859), (127234626673451243, .bool false), (15904298625931907, .float .f64 62979), (138493642921746683, .bool false), (15904298625931939, .int .i64 0), (127235382587695339, .bool false), (5418874707122307, .float .f64 53251), (14637661230733971, .float .f64 58371), (128360526580293867, .bool false), (16045036114287235, .float .f64 63491), (139619542828589307, .bool false), (16045036114287267, .int .i64 0), (128361299674407147, .bool false), (5418891886991491, .float .f64 53763), (14778398719089299, .float .f64 58883), (129486426487136491, .bool false), (16185773602642563, .float .f64 64003), (140745442735431931, .bool false), (16185773602642595, .int .i64 0), (129487216761118955, .bool false), (5418909066860675, .float .f64 54275), (14919136207444627, .float .f64 59395), (130612326393979115, .bool false), (16326511090997891, .float .f64 64515), (141871342642274555, .bool false), (16326511090997923, .int .i64 0), (130613133847830763, .bool false), (5418926246729859, .float .f64 54787), (15059873695799955, .float .f64 59907), (131738226300821739, .bool false), (16467248579353219, .float .f64 65027), (142997242549117179, .bool false), (16467248579353251, .int .i64 0), (131739050934542571, .bool false)]
theorem alT0_eq : alT0L = alT0E.map En.pr := by kernel_rfl
theorem alT0_all : (alT0E.all En.okB) = true := by kernel_rfl
set_option maxHeartbeats 4000000 in
theorem alT0_h {S : Sy} (h : TNm0 S) : AllH S alT0E := by
 have ghd := h.hd; have grn_geo_n := h.rn.geo.n; have grn_geo_w := h.rn.geo.w; have grn_geo_e31 := h.rn.geo.e31; have grn_geo_e32 := h.rn.geo.e32; have grn_geo_e42 := h.rn.geo.e42; have grn_e23 := h.rn.e23; have grn_e69 := h.rn.e69; have grn_e75 := h.rn.e75; have grn_e76 := h.rn.e76; have ge77 := h.e77; have ge78 := h.e78; have ge79 := h.e79; have ge120 := h.e120; have ge101 := h.e101; have ge111 := h.e111; have ge121 := h.e121; have ge102 := h.e102; have ge112 := h.e112; have ge122 := h.e122; have ge103 := h.e103; have ge113 := h.e113; have ge123 := h.e123; have ge104 := h.e104; have ge114 := h.e114; have ge124 := h.e124; have ge105 := h.e105; have ge115 := h.e115; have ge125 := h.e125; have ge106 := h.e106; have ge116 := h.e116; have ge126 := h.e126; have ge107 := h.e107; have ge117 := h.e117; have ge127 := h.e127
 exact ⟨(sm (show S.ρ 20 = (0 : Int) from ghd)), (sm (show IntKind.u64.wrap (S.ρ 20) = (0 : Int) from by rw [ghd]; rfl)), (sm (show (IntKind.i64.wrap (S.ρ 20 + (1 : Int))) = (1 : Int) from by rw [w_i64 (by omega) (by omega)]; omega)), (fls (p := S.ρ 20 < (0 : Int)) (by omega)), (fls (p := (4 : Int) ≤ S.ρ 20) (by omega)), (fls (p := S.ρ 23 ≠ S.ρ 17) (by omega)), (fls (p := (0 : Int) ≠ S.ρ 20) (by omega)), (fls (p := S.ρ 20 ≠ (0 : Int)) (by omega)), (sm (show (IntKind.i64.wrap ((0 : Int) + S.ρ 17)) = S.ρ 17 from by rw [w_i64 (by omega) (by omega)]; omega)), (sm (show (IntKind.i64.wrap (S.ρ 17 * (1 : Int))) = S.ρ 17 from by rw [w_i64 (by omega) (by omega)]; omega)), (sm (show (IntKind.i64.wrap (S.ρ 17 + (0 : Int))) = S.ρ 17 from by rw [w_i64 (by omega) (by omega)]; omega)), (fls (p := S.ρ 17 < (0 : Int)) (by omega)), (fls (p := S.ρ 5 ≤ S.ρ 17) (by omega)), (sm (show (IntKind.i64.wrap ((22 : Int) + S.ρ 17)) = S.ρ 69 from by rw [w_i64 (by omega) (by omega)]; omega)), (fls (p := S.ρ 69 < (0 : Int)) (by omega)), (fls (p := S.ρ 42 ≤ S.ρ 69) (by omega)), (tr (p := (0 : Int) ≤ S.ρ 69) (by omega)), (tr (p := S.ρ 69 < S.ρ 42) (by omega)), (sm (show (IntKind.i64.wrap (S.ρ 69 * (1 : Int))) = S.ρ 69 from by rw [w_i64 (by omega) (by omega)]; omega)), (sm (show (IntKind.i64.wrap (S.ρ 69 + (0 : Int))) = S.ρ 69 from by rw [w_i64 (by omega) (by omega)]; omega)), (sm (show (IntKind.i64.wrap (S.ρ 31 + S.ρ 17)) = S.ρ 75 from by rw [w_i64 (by omega) (by omega)]; omega)), (sm (show (IntKind.i64.wrap (S.ρ 32 + S.ρ 17)) = S.ρ 76 from by rw [w_i64 (by omega) (by omega)]; omega)), (sm (show (IntKind.i64.wrap (S.ρ 23 * (8 : Int))) = S.ρ 77 from by rw [w_i64 (by omega) (by omega)]; omega)), (sm (show (IntKind.i64.wrap (S.ρ 17 * (8 : Int))) = S.ρ 77 from by rw [w_i64 (by omega) (by omega)]; omega)), (sm (show (S.ρ 20).tmod (4 : Int) = 0 from by rw [ghd]; rfl)), (sm (show (IntKind.i64.wrap (S.ρ 17 * (64 : Int))) = S.ρ 78 from by rw [w_i64 (by omega) (by omega)]; omega)), (sm (show (IntKind.i64.wrap (S.ρ 78 + (64 : Int))) = S.ρ 79 from by rw [w_i64 (by omega) (by omega)]; omega)), (sm (show (IntKind.i64.wrap (S.ρ 77 * (8 : Int))) = S.ρ 78 from by rw [w_i64 (by omega) (by omega)]; omega)), (fls (p := S.ρ 78 < S.ρ 78) (by omega)), (sm (show (IntKind.i64.wrap (S.ρ 78 + (8 : Int))) = S.ρ 120 from by rw [w_i64 (by omega) (by omega)]; omega)), (fls (p := S.ρ 79 < S.ρ 120) (by omega)), (sm (show (S.ρ 78).tmod (8 : Int) = 0 from by rw [Int.tmod_eq_emod_of_nonneg (by omega)]; omega)), (sm (show (IntKind.i64.wrap (S.ρ 77 + (1 : Int))) = S.ρ 101 from by rw [w_i64 (by omega) (by omega)]; omega)), (sm (show (IntKind.i64.wrap (S.ρ 101 * (8 : Int))) = S.ρ 111 from by rw [w_i64 (by omega) (by omega)]; omega)), (fls (p := S.ρ 111 < S.ρ 78) (by omega)), (sm (show (IntKind.i64.wrap (S.ρ 111 + (8 : Int))) = S.ρ 121 from by rw [w_i64 (by omega) (by omega)]; omega)), (fls (p := S.ρ 79 < S.ρ 121) (by omega)), (sm (show (S.ρ 111).tmod (8 : Int) = 0 from by rw [Int.tmod_eq_emod_of_nonneg (by omega)]; omega)), (fls (p := S.ρ 111 < S.ρ 120) (by omega)), (sm (show (IntKind.i64.wrap (S.ρ 77 + (2 : Int))) = S.ρ 102 from by rw [w_i64 (by omega) (by omega)]; omega)), (sm (show (IntKind.i64.wrap (S.ρ 102 * (8 : Int))) = S.ρ 112 from by rw [w_i64 (by omega) (by omega)]; omega)), (fls (p := S.ρ 112 < S.ρ 78) (by omega)), (sm (show (IntKind.i64.wrap (S.ρ 112 + (8 : Int))) = S.ρ 122 from by rw [w_i64 (by omega) (by omega)]; omega)), (fls (p := S.ρ 79 < S.ρ 122) (by omega)), (sm (show (S.ρ 112).tmod (8 : Int) = 0 from by rw [Int.tmod_eq_emod_of_nonneg (by omega)]; omega)), (fls (p := S.ρ 112 < S.ρ 121) (by omega)), (sm (show (IntKind.i64.wrap (S.ρ 77 + (3 : Int))) = S.ρ 103 from by rw [w_i64 (by omega) (by omega)]; omega)), (sm (show (IntKind.i64.wrap (S.ρ 103 * (8 : Int))) = S.ρ 113 from by rw [w_i64 (by omega) (by omega)]; omega)), (fls (p := S.ρ 113 < S.ρ 78) (by omega)), (sm (show (IntKind.i64.wrap (S.ρ 113 + (8 : Int))) = S.ρ 123 from by rw [w_i64 (by omega) (by omega)]; omega)), (fls (p := S.ρ 79 < S.ρ 123) (by omega)), (sm (show (S.ρ 113).tmod (8 : Int) = 0 from by rw [Int.tmod_eq_emod_of_nonneg (by omega)]; omega)), (fls (p := S.ρ 113 < S.ρ 122) (by omega)), (sm (show (IntKind.i64.wrap (S.ρ 77 + (4 : Int))) = S.ρ 104 from by rw [w_i64 (by omega) (by omega)]; omega)), (sm (show (IntKind.i64.wrap (S.ρ 104 * (8 : Int))) = S.ρ 114 from by rw [w_i64 (by omega) (by omega)]; omega)), (fls (p := S.ρ 114 < S.ρ 78) (by omega)), (sm (show (IntKind.i64.wrap (S.ρ 114 + (8 : Int))) = S.ρ 124 from by rw [w_i64 (by omega) (by omega)]; omega)), (fls (p := S.ρ 79 < S.ρ 124) (by omega)), (sm (show (S.ρ 114).tmod (8 : Int) = 0 from by rw [Int.tmod_eq_emod_of_nonneg (by omega)]; omega)), (fls (p := S.ρ 114 < S.ρ 123) (by omega)), (sm (show (IntKind.i64.wrap (S.ρ 77 + (5 : Int))) = S.ρ 105 from by rw [w_i64 (by omega) (by omega)]; omega)), (sm (show (IntKind.i64.wrap (S.ρ 105 * (8 : Int))) = S.ρ 115 from by rw [w_i64 (by omega) (by omega)]; omega)), (fls (p := S.ρ 115 < S.ρ 78) (by omega)), (sm (show (IntKind.i64.wrap (S.ρ 115 + (8 : Int))) = S.ρ 125 from by rw [w_i64 (by omega) (by omega)]; omega)), (fls (p := S.ρ 79 < S.ρ 125) (by omega)), (sm (show (S.ρ 115).tmod (8 : Int) = 0 from by rw [Int.tmod_eq_emod_of_nonneg (by omega)]; omega)), (fls (p := S.ρ 115 < S.ρ 124) (by omega)), (sm (show (IntKind.i64.wrap (S.ρ 77 + (6 : Int))) = S.ρ 106 from by rw [w_i64 (by omega) (by omega)]; omega)), (sm (show (IntKind.i64.wrap (S.ρ 106 * (8 : Int))) = S.ρ 116 from by rw [w_i64 (by omega) (by omega)]; omega)), (fls (p := S.ρ 116 < S.ρ 78) (by omega)), (sm (show (IntKind.i64.wrap (S.ρ 116 + (8 : Int))) = S.ρ 126 from by rw [w_i64 (by omega) (by omega)]; omega)), (fls (p := S.ρ 79 < S.ρ 126) (by omega)), (sm (show (S.ρ 116).tmod (8 : Int) = 0 from by rw [Int.tmod_eq_emod_of_nonneg (by omega)]; omega)), (fls (p := S.ρ 116 < S.ρ 125) (by omega)), (sm (show (IntKind.i64.wrap (S.ρ 77 + (7 : Int))) = S.ρ 107 from by rw [w_i64 (by omega) (by omega)]; omega)), (sm (show (IntKind.i64.wrap (S.ρ 107 * (8 : Int))) = S.ρ 117 from by rw [w_i64 (by omega) (by omega)]; omega)), (fls (p := S.ρ 117 < S.ρ 78) (by omega)), (sm (show (IntKind.i64.wrap (S.ρ 117 + (8 : Int))) = S.ρ 127 from by rw [w_i64 (by omega) (by omega)]; omega)), (fls (p := S.ρ 79 < S.ρ 127) (by omega)), (sm (show (S.ρ 117).tmod (8 : Int) = 0 from by rw [Int.tmod_eq_emod_of_nonneg (by omega)]; omega)), (fls (p := S.ρ 117 < S.ρ 126) (by omega)), trivial⟩
theorem alT0_ok {S : Sy} (h : TNm0 S) : AlOk S alT0L := alE alT0_all alT0_eq (alT0_h h)
structure TNm1 (S : Sy) : Prop where
 rn : RNm S (S.ρ 17)
 hd : S.ρ 20 = 1
 e77 : S.ρ 77 = 8 * S.ρ 17
 e78 : S.ρ 78 = 64 * S.ρ 17
 e79 : S.ρ 79 = 64 * S.ρ 17 + 64
 e120 : S.ρ 120 = 64 * S.ρ 17 + 16
 e101 : S.ρ 101 = 8 * S.ρ 17 + 2
 e111 : S.ρ 111 = 64 * S.ρ 17 + 16
 e121 : S.ρ 121 = 64 * S.ρ 17 + 32
 e102 : S.ρ 102 = 8 * S.ρ 17 + 4
 e112 : S.ρ 112 = 64 * S.ρ 17 + 32
 e122 : S.ρ 122 = 64 * S.ρ 17 + 48
 e103 : S.ρ 103 = 8 * S.ρ 17 + 6
 e113 : S.ρ 113 = 64 * S.ρ 17 + 48
 e123 : S.ρ 123 = 64 * S.ρ 17 + 64
def alT1E : List En := [.iv (.var .i64 20) 1, .iu (.conv .u64 (.var .i64 20)) 1, .iv (.bin .add (.var .i64 20) (.lit .i64 1)) 2, .ds (.bin .lss (.var .i64 20) (.lit .i64 0)) false, .ds (.bin .geq (.var .i64 20) (.lit .i64 4)) false, .ds (.bin .neq (.var .i64 23) (.var .i64 17)) false, .ds (.bin .neq (.lit .i64 1) (.var .i64 20)) false, .ds (.bin .neq (.var .i64 20) (.lit .i64 1)) false, .nm (.bin .add (.lit .i64 0) (.var .i64 17)) 17, .nm (.bin .mul (.var .i64 17) (.lit .i64 1)) 17, .nm (.bin .add (.var .i64 17) (.lit .i64 0)) 17, .ds (.bin .lss (.var .i64 17) (.lit .i64 0)) false, .ds (.bin .geq (.var .i64 17) (.var .i64 5)) false, .nm (.bin .add (.lit .i64 22) (.var .i64 17)) 69, .ds (.bin .lss (.var .i64 69) (.lit .i64 0)) false, .ds (.bin .geq (.var .i64 69) (.var .i64 42)) false, .ds (.bin .geq (.var .i64 69) (.lit .i64 0)) true, .ds (.bin .lss (.var .i64 69) (.var .i64 42)) true, .nm (.bin .mul (.var .i64 69) (.lit .i64 1)) 69, .nm (.bin .add (.var .i64 69) (.lit .i64 0)) 69, .nm (.bin .add (.var .i64 31) (.var .i64 17)) 75, .nm (.bin .add (.var .i64 32) (.var .i64 17)) 76, .nm (.bin .mul (.var .i64 23) (.lit .i64 8)) 77, .nm (.bin .mul (.var .i64 17) (.lit .i64 8)) 77, .iv (.bin .rem (.var .i64 20) (.lit .i64 4)) 1, .nm (.bin .mul (.var .i64 17) (.lit .i64 64)) 78, .nm (.bin .add (.var .i64 78) (.lit .i64 64)) 79, .nm (.bin .mul (.var .i64 77) (.lit .i64 8)) 78, .ds (.bin .lss (.var .i64 78) (.var .i64 78)) false, .nm (.bin .add (.var .i64 78) (.lit .i64 16)) 120, .ds (.bin .gtr (.var .i64 120) (.var .i64 79)) false, .iv (.bin .rem (.var .i64 78) (.lit .i64 16)) 0, .nm (.bin .add (.var .i64 77) (.lit .i64 2)) 101, .nm (.bin .mul (.var .i64 101) (.lit .i64 8)) 111, .ds (.bin .lss (.var .i64 111) (.var .i64 78)) false, .nm (.bin .add (.var .i64 111) (.lit .i64 16)) 121, .ds (.bin .gtr (.var .i64 121) (.var .i64 79)) false, .iv (.bin .rem (.var .i64 111) (.lit .i64 16)) 0, .ds (.bin .lss (.var .i64 111) (.var .i64 120)) false, .nm (.bin .add (.var .i64 77) (.lit .i64 4)) 102, .nm (.bin .mul (.var .i64 102) (.lit .i64 8)) 112, .ds (.bin .lss (.var .i64 112) (.var .i64 78)) false, .nm (.bin .add (.var .i64 112) (.lit .i64 16)) 122, .ds (.bin .gtr (.var .i64 122) (.var .i64 79)) false, .iv (.bin .rem (.var .i64 112) (.lit .i64 16)) 0, .ds (.bin .lss (.var .i64 112) (.var .i64 121)) false, .nm (.bin .add (.var .i64 77) (.lit .i64 6)) 103, .nm (.bin .mul (.var .i64 103) (.lit .i64 8)) 113, .ds (.bin .lss (.var .i64 113) (.var .i64 78)) false, .nm (.bin .add (.var .i64 113) (.lit .i64 16)) 123, .ds (.bin .gtr (.var .i64 123) (.var .i64 79)) false, .iv (.bin .rem (.var .i64 113) (.lit .i64 16)) 0, .ds (.bin .lss (.var .i64 113) (.var .i64 122)) false]
def alT1L : List (Nat × Value) := [(10243, .int .i64 1), (343698054175, .int .u64 1), (351964349076611, .int .i64 2), (5499537852651, .bool false), (1407856288995587, .bool false), (6475865890233571, .bool false), (287865988717795, .bool false), (351964349076707, .bool false), (6339472399491, .float .f64 8707), (299187790943379, .float .f64 8707), (4674904131715, .float .f64 8707), (4674904131819, .bool false), (1196766967896323, .bool false), (6198788960033923, .float .f64 35331), (18968555292907, .bool false), (38847566976130819, .bool false), (18968555292931, .bool true), (38847566976130795, .bool true), (1213981465253011, .float .f64 35331), (18968555292803, .float .f64 35331), (8727665703918723, .float .f64 38403), (9009140680629379, .float .f64 38915), (3237924673952403, .float .f64 39427), (2393499743820435, .float .f64 39427), (1407856288995491, .int .i64 1), (19147995366826131, .float .f64 39939), (87827889684226179, .float .f64 40451), (10837749045140115, .float .f64 39939), (87828129933959403, .bool false), (21956972697885827, .float .f64 61443), (135115943201218811, .bool false), (21956972697885859, .int .i64 0), (2709437538113155, .float .f64 51715), (14215448765667987, .float .f64 56835), (124982826859765995, .bool false), (31245646929337475, .float .f64 61955), (136241843108061435, .bool false), (31245646929337507, .int .i64 0), (124983548414271723, .bool false), (5418874707122307, .float .f64 52227), (14356186254023315, .float .f64 57347), (126108726766608619, .bool false), (31527121906048131, .float .f64 62467), (137367743014904059, .bool false), (31527121906048163, .int .i64 0), (126109465500983531, .bool false), (5418909066860675, .float .f64 52739), (14496923742378643, .float .f64 57859), (127234626673451243, .bool false), (31808596882758787, .float .f64 62979), (138493642921746683, .bool false), (31808596882758819, .int .i64 0), (127235382587695339, .bool false)]
theorem alT1_eq : alT1L = alT1E.map En.pr := by kernel_rfl
theorem alT1_all : (alT1E.all En.okB) = true := by kernel_rfl
set_option maxHeartbeats 4000000 in
theorem alT1_h {S : Sy} (h : TNm1 S) : AllH S alT1E := by
 have ghd := h.hd; have grn_geo_n := h.rn.geo.n; have grn_geo_w := h.rn.geo.w; have grn_geo_e31 := h.rn.geo.e31; have grn_geo_e32 := h.rn.geo.e32; have grn_geo_e42 := h.rn.geo.e42; have grn_e23 := h.rn.e23; have grn_e69 := h.rn.e69; have grn_e75 := h.rn.e75; have grn_e76 := h.rn.e76; have ge77 := h.e77; have ge78 := h.e78; have ge79 := h.e79; have ge120 := h.e120; have ge101 := h.e101; have ge111 := h.e111; have ge121 := h.e121; have ge102 := h.e102; have ge112 := h.e112; have ge122 := h.e122; have ge103 := h.e103; have ge113 := h.e113; have ge123 := h.e123
 exact ⟨(sm (show S.ρ 20 = (1 : Int) from ghd)), (sm (show IntKind.u64.wrap (S.ρ 20) = (1 : Int) from by rw [ghd]; rfl)), (sm (show (IntKind.i64.wrap (S.ρ 20 + (1 : Int))) = (2 : Int) from by rw [w_i64 (by omega) (by omega)]; omega)), (fls (p := S.ρ 20 < (0 : Int)) (by omega)), (fls (p := (4 : Int) ≤ S.ρ 20) (by omega)), (fls (p := S.ρ 23 ≠ S.ρ 17) (by omega)), (fls (p := (1 : Int) ≠ S.ρ 20) (by omega)), (fls (p := S.ρ 20 ≠ (1 : Int)) (by omega)), (sm (show (IntKind.i64.wrap ((0 : Int) + S.ρ 17)) = S.ρ 17 from by rw [w_i64 (by omega) (by omega)]; omega)), (sm (show (IntKind.i64.wrap (S.ρ 17 * (1 : Int))) = S.ρ 17 from by rw [w_i64 (by omega) (by omega)]; omega)), (sm (show (IntKind.i64.wrap (S.ρ 17 + (0 : Int))) = S.ρ 17 from by rw [w_i64 (by omega) (by omega)]; omega)), (fls (p := S.ρ 17 < (0 : Int)) (by omega)), (fls (p := S.ρ 5 ≤ S.ρ 17) (by omega)), (sm (show (IntKind.i64.wrap ((22 : Int) + S.ρ 17)) = S.ρ 69 from by rw [w_i64 (by omega) (by omega)]; omega)), (fls (p := S.ρ 69 < (0 : Int)) (by omega)), (fls (p := S.ρ 42 ≤ S.ρ 69) (by omega)), (tr (p := (0 : Int) ≤ S.ρ 69) (by omega)), (tr (p := S.ρ 69 < S.ρ 42) (by omega)), (sm (show (IntKind.i64.wrap (S.ρ 69 * (1 : Int))) = S.ρ 69 from by rw [w_i64 (by omega) (by omega)]; omega)), (sm (show (IntKind.i64.wrap (S.ρ 69 + (0 : Int))) = S.ρ 69 from by rw [w_i64 (by omega) (by omega)]; omega)), (sm (show (IntKind.i64.wrap (S.ρ 31 + S.ρ 17)) = S.ρ 75 from by rw [w_i64 (by omega) (by omega)]; omega)), (sm (show (IntKind.i64.wrap (S.ρ 32 + S.ρ 17)) = S.ρ 76 from by rw [w_i64 (by omega) (by omega)]; omega)), (sm (show (IntKind.i64.wrap (S.ρ 23 * (8 : Int))) = S.ρ 77 from by rw [w_i64 (by omega) (by omega)]; omega)), (sm (show (IntKind.i64.wrap (S.ρ 17 * (8 : Int))) = S.ρ 77 from by rw [w_i64 (by omega) (by omega)]; omega)), (sm (show (S.ρ 20).tmod (4 : Int) = 1 from by rw [ghd]; rfl)), (sm (show (IntKind.i64.wrap (S.ρ 17 * (64 : Int))) = S.ρ 78 from by rw [w_i64 (by omega) (by omega)]; omega)), (sm (show (IntKind.i64.wrap (S.ρ 78 + (64 : Int))) = S.ρ 79 from by rw [w_i64 (by omega) (by omega)]; omega)), (sm (show (IntKind.i64.wrap (S.ρ 77 * (8 : Int))) = S.ρ 78 from by rw [w_i64 (by omega) (by omega)]; omega)), (fls (p := S.ρ 78 < S.ρ 78) (by omega)), (sm (show (IntKind.i64.wrap (S.ρ 78 + (16 : Int))) = S.ρ 120 from by rw [w_i64 (by omega) (by omega)]; omega)), (fls (p := S.ρ 79 < S.ρ 120) (by omega)), (sm (show (S.ρ 78).tmod (16 : Int) = 0 from by rw [Int.tmod_eq_emod_of_nonneg (by omega)]; omega)), (sm (show (IntKind.i64.wrap (S.ρ 77 + (2 : Int))) = S.ρ 101 from by rw [w_i64 (by omega) (by omega)]; omega)), (sm (show (IntKind.i64.wrap (S.ρ 101 * (8 : Int))) = S.ρ 111 from by rw [w_i64 (by omega) (by omega)]; omega)), (fls (p := S.ρ 111 < S.ρ 78) (by omega)), (sm (show (IntKind.i64.wrap (S.ρ 111 + (16 : Int))) = S.ρ 121 from by rw [w_i64 (by omega) (by omega)]; omega)), (fls (p := S.ρ 79 < S.ρ 121) (by omega)), (sm (show (S.ρ 111).tmod (16 : Int) = 0 from by rw [Int.tmod_eq_emod_of_nonneg (by omega)]; omega)), (fls (p := S.ρ 111 < S.ρ 120) (by omega)), (sm (show (IntKind.i64.wrap (S.ρ 77 + (4 : Int))) = S.ρ 102 from by rw [w_i64 (by omega) (by omega)]; omega)), (sm (show (IntKind.i64.wrap (S.ρ 102 * (8 : Int))) = S.ρ 112 from by rw [w_i64 (by omega) (by omega)]; omega)), (fls (p := S.ρ 112 < S.ρ 78) (by omega)), (sm (show (IntKind.i64.wrap (S.ρ 112 + (16 : Int))) = S.ρ 122 from by rw [w_i64 (by omega) (by omega)]; omega)), (fls (p := S.ρ 79 < S.ρ 122) (by omega)), (sm (show (S.ρ 112).tmod (16 : Int) = 0 from by rw [Int.tmod_eq_emod_of_nonneg (by omega)]; omega)), (fls (p := S.ρ 112 < S.ρ 121) (by omega)), (sm (show (IntKind.i64.wrap (S.ρ 77 + (6 : Int))) = S.ρ 103 from by rw [w_i64 (by omega) (by omega)]; omega)), (sm (show (IntKind.i64.wrap (S.ρ 103 * (8 : Int))) = S.ρ 113 from by rw [w_i64 (by omega) (by omega)]; omega)), (fls (p := S.ρ 113 < S.ρ 78) (by omega)), (sm (show (IntKind.i64.wrap (S.ρ 113 + (16 : Int))) = S.ρ 123 from by rw [w_i64 (by omega) (by omega)]; omega)), (fls (p := S.ρ 79 < S.ρ 123) (by omega)), (sm (show (S.ρ 113).tmod (16 : Int) = 0 from by rw [Int.tmod_eq_emod_of_nonneg (by omega)]; omega)), (fls (p := S.ρ 113 < S.ρ 122) (by omega)), trivial⟩
theorem alT1_ok {S : Sy} (h : TNm1 S) : AlOk S alT1L := alE alT1_all alT1_eq (alT1_h h)
structure TNm2 (S : Sy) : Prop where
 rn : RNm S (S.ρ 17)
 hd : S.ρ 20 = 2
 e77 : S.ρ 77 = 8 * S.ρ 17
 e78 : S.ρ 78 = 64 * S.ρ 17
 e79 : S.ρ 79 = 64 * S.ρ 17 + 64
 e120 : S.ρ 120 = 64 * S.ρ 17 + 24
 e101 : S.ρ 101 = 8 * S.ρ 17 + 3
 e111 : S.ρ 111 = 64 * S.ρ 17 + 24
 e121 : S.ρ 121 = 64 * S.ρ 17 + 48
def alT2E : List En := [.iv (.var .i64 20) 2, .iu (.conv .u64 (.var .i64 20)) 2, .iv (.bin .add (.var .i64 20) (.lit .i64 1)) 3, .ds (.bin .lss (.var .i64 20) (.lit .i64 0)) false, .ds (.bin .geq (.var .i64 20) (.lit .i64 4)) false, .ds (.bin .neq (.var .i64 23) (.var .i64 17)) false, .ds (.bin .neq (.lit .i64 2) (.var .i64 20)) false, .ds (.bin .neq (.var .i64 20) (.lit .i64 2)) false, .nm (.bin .add (.lit .i64 0) (.var .i64 17)) 17, .nm (.bin .mul (.var .i64 17) (.lit .i64 1)) 17, .nm (.bin .add (.var .i64 17) (.lit .i64 0)) 17, .ds (.bin .lss (.var .i64 17) (.lit .i64 0)) false, .ds (.bin .geq (.var .i64 17) (.var .i64 5)) false, .nm (.bin .add (.lit .i64 22) (.var .i64 17)) 69, .ds (.bin .lss (.var .i64 69) (.lit .i64 0)) false, .ds (.bin .geq (.var .i64 69) (.var .i64 42)) false, .ds (.bin .geq (.var .i64 69) (.lit .i64 0)) true, .ds (.bin .lss (.var .i64 69) (.var .i64 42)) true, .nm (.bin .mul (.var .i64 69) (.lit .i64 1)) 69, .nm (.bin .add (.var .i64 69) (.lit .i64 0)) 69, .nm (.bin .add (.var .i64 31) (.var .i64 17)) 75, .nm (.bin .add (.var .i64 32) (.var .i64 17)) 76, .nm (.bin .mul (.var .i64 23) (.lit .i64 8)) 77, .nm (.bin .mul (.var .i64 17) (.lit .i64 8)) 77, .iv (.bin .rem (.var .i64 20) (.lit .i64 4)) 2, .nm (.bin .mul (.var .i64 17) (.lit .i64 64)) 78, .nm (.bin .add (.var .i64 78) (.lit .i64 64)) 79, .nm (.bin .mul (.var .i64 77) (.lit .i64 8)) 78, .ds (.bin .lss (.var .i64 78) (.var .i64 78)) false, .nm (.bin .add (.var .i64 78) (.lit .i64 24)) 120, .ds (.bin .gtr (.var .i64 120) (.var .i64 79)) false, .iv (.bin .rem (.var .i64 78) (.lit .i64 8)) 0, .nm (.bin .add (.var .i64 77) (.lit .i64 3)) 101, .nm (.bin .mul (.var .i64 101) (.lit .i64 8)) 111, .ds (.bin .lss (.var .i64 111) (.var .i64 78)) false, .nm (.bin .add (.var .i64 111) (.lit .i64 24)) 121, .ds (.bin .gtr (.var .i64 121) (.var .i64 79)) false, .iv (.bin .rem (.var .i64 111) (.lit .i64 8)) 0, .ds (.bin .lss (.var .i64 111) (.var .i64 120)) false]
def alT2L : List (Nat × Value) := [(10243, .int .i64 2), (343698054175, .int .u64 2), (351964349076611, .int .i64 3), (5499537852651, .bool false), (1407856288995587, .bool false), (6475865890233571, .bool false), (569340965428451, .bool false), (703928329049827, .bool false), (6339472399491, .float .f64 8707), (299187790943379, .float .f64 8707), (4674904131715, .float .f64 8707), (4674904131819, .bool false), (1196766967896323, .bool false), (6198788960033923, .float .f64 35331), (18968555292907, .bool false), (38847566976130819, .bool false), (18968555292931, .bool true), (38847566976130795, .bool true), (1213981465253011, .float .f64 35331), (18968555292803, .float .f64 35331), (8727665703918723, .float .f64 38403), (9009140680629379, .float .f64 38915), (3237924673952403, .float .f64 39427), (2393499743820435, .float .f64 39427), (1407856288995491, .int .i64 2), (19147995366826131, .float .f64 39939), (87827889684226179, .float .f64 40451), (10837749045140115, .float .f64 39939), (87828129933959403, .bool false), (21957110136839299, .float .f64 61443), (135115943201218811, .bool false), (10978486533495459, .int .i64 0), (2709454717982339, .float .f64 51715), (14215448765667987, .float .f64 56835), (124982826859765995, .bool false), (31245784368290947, .float .f64 61955), (136241843108061435, .bool false), (15622823649221283, .int .i64 0), (124983548414271723, .bool false)]
theorem alT2_eq : alT2L = alT2E.map En.pr := by kernel_rfl
theorem alT2_all : (alT2E.all En.okB) = true := by kernel_rfl
set_option maxHeartbeats 4000000 in
theorem alT2_h {S : Sy} (h : TNm2 S) : AllH S alT2E := by
 have ghd := h.hd; have grn_geo_n := h.rn.geo.n; have grn_geo_w := h.rn.geo.w; have grn_geo_e31 := h.rn.geo.e31; have grn_geo_e32 := h.rn.geo.e32; have grn_geo_e42 := h.rn.geo.e42; have grn_e23 := h.rn.e23; have grn_e69 := h.rn.e69; have grn_e75 := h.rn.e75; have grn_e76 := h.rn.e76; have ge77 := h.e77; have ge78 := h.e78; have ge79 := h.e79; have ge120 := h.e120; have ge101 := h.e101; have ge111 := h.e111; have ge121 := h.e121
 exact ⟨(sm (show S.ρ 20 = (2 : Int) from ghd)), (sm (show IntKind.u64.wrap (S.ρ 20) = (2 : Int) from by rw [ghd]; rfl)), (sm (show (IntKind.i64.wrap (S.ρ 20 + (1 : Int))) = (3 : Int) from by rw [w_i64 (by omega) (by omega)]; omega)), (fls (p := S.ρ 20 < (0 : Int)) (by omega)), (fls (p := (4 : Int) ≤ S.ρ 20) (by omega)), (fls (p := S.ρ 23 ≠ S.ρ 17) (by omega)), (fls (p := (2 : Int) ≠ S.ρ 20) (by omega)), (fls (p := S.ρ 20 ≠ (2 : Int)) (by omega)), (sm (show (IntKind.i64.wrap ((0 : Int) + S.ρ 17)) = S.ρ 17 from by rw [w_i64 (by omega) (by omega)]; omega)), (sm (show (IntKind.i64.wrap (S.ρ 17 * (1 : Int))) = S.ρ 17 from by rw [w_i64 (by omega) (by omega)]; omega)), (sm (show (IntKind.i64.wrap (S.ρ 17 + (0 : Int))) = S.ρ 17 from by rw [w_i64 (by omega) (by omega)]; omega)), (fls (p := S.ρ 17 < (0 : Int)) (by omega)), (fls (p := S.ρ 5 ≤ S.ρ 17) (by omega)), (sm (show (IntKind.i64.wrap ((22 : Int) + S.ρ 17)) = S.ρ 69 from by rw [w_i64 (by omega) (by omega)]; omega)), (fls (p := S.ρ 69 < (0 : Int)) (by omega)), (fls (p := S.ρ 42 ≤ S.ρ 69) (by omega)), (tr (p := (0 : Int) ≤ S.ρ 69) (by omega)), (tr (p := S.ρ 69 < S.ρ 42) (by omega)), (sm (show (IntKind.i64.wrap (S.ρ 69 * (1 : Int))) = S.ρ 69 from by rw [w_i64 (by omega) (by omega)]; omega)), (sm (show (IntKind.i64.wrap (S.ρ 69 + (0 : Int))) = S.ρ 69 from by rw [w_i64 (by omega) (by omega)]; omega)), (sm (show (IntKind.i64.wrap (S.ρ 31 + S.ρ 17)) = S.ρ 75 from by rw [w_i64 (by omega) (by omega)]; omega)), (sm (show (IntKind.i64.wrap (S.ρ 32 + S.ρ 17)) = S.ρ 76 from by rw [w_i64 (by omega) (by omega)]; omega)), (sm (show (IntKind.i64.wrap (S.ρ 23 * (8 : Int))) = S.ρ 77 from by rw [w_i64 (by omega) (by omega)]; omega)), (sm (show (IntKind.i64.wrap (S.ρ 17 * (8 : Int))) = S.ρ 77 from by rw [w_i64 (by omega) (by omega)]; omega)), (sm (show (S.ρ 20).tmod (4 : Int) = 2 from by rw [ghd]; rfl)), (sm (show (IntKind.i64.wrap (S.ρ 17 * (64 : Int))) = S.ρ 78 from by rw [w_i64 (by omega) (by omega)]; omega)), (sm (show (IntKind.i64.wrap (S.ρ 78 + (64 : Int))) = S.ρ 79 from by rw [w_i64 (by omega) (by omega)]; omega)), (sm (show (IntKind.i64.wrap (S.ρ 77 * (8 : Int))) = S.ρ 78 from by rw [w_i64 (by omega) (by omega)]; omega)), (fls (p := S.ρ 78 < S.ρ 78) (by omega)), (sm (show (IntKind.i64.wrap (S.ρ 78 + (24 : Int))) = S.ρ 120 from by rw [w_i64 (by omega) (by omega)]; omega)), (fls (p := S.ρ 79 < S.ρ 120) (by omega)), (sm (show (S.ρ 78).tmod (8 : Int) = 0 from by rw [Int.tmod_eq_emod_of_nonneg (by omega)]; omega)), (sm (show (IntKind.i64.wrap (S.ρ 77 + (3 : Int))) = S.ρ 101 from by rw [w_i64 (by omega) (by omega)]; omega)), (sm (show (IntKind.i64.wrap (S.ρ 101 * (8 : Int))) = S.ρ 111 from by rw [w_i64 (by omega) (by omega)]; omega)), (fls (p := S.ρ 111 < S.ρ 78) (by omega)), (sm (show (IntKind.i64.wrap (S.ρ 111 + (24 : Int))) = S.ρ 121 from by rw [w_i64 (by omega) (by omega)]; omega)), (fls (p := S.ρ 79 < S.ρ 121) (by omega)), (sm (show (S.ρ 111).tmod (8 : Int) = 0 from by rw [Int.tmod_eq_emod_of_nonneg (by omega)]; omega)), (fls (p := S.ρ 111 < S.ρ 120) (by omega)), trivial⟩
theorem alT2_ok {S : Sy} (h : TNm2 S) : AlOk S alT2L := alE alT2_all alT2_eq (alT2_h h)
structure TNm3 (S : Sy) : Prop where
 rn : RNm S (S.ρ 17)
 hd : S.ρ 20 = 3
 e77 : S.ρ 77 = 8 * S.ρ 17
 e78 : S.ρ 78 = 64 * S.ρ 17
 e79 : S.ρ 79 = 64 * S.ρ 17 + 64
 e120 : S.ρ 120 = 64 * S.ρ 17 + 32
 e101 : S.ρ 101 = 8 * S.ρ 17 + 4
 e111 : S.ρ 111 = 64 * S.ρ 17 + 32
 e121 : S.ρ 121 = 64 * S.ρ 17 + 64
def alT3E : List En := [.iv (.var .i64 20) 3, .iu (.conv .u64 (.var .i64 20)) 3, .iv (.bin .add (.var .i64 20) (.lit .i64 1)) 4, .ds (.bin .lss (.var .i64 20) (.lit .i64 0)) false, .ds (.bin .geq (.var .i64 20) (.lit .i64 4)) false, .ds (.bin .neq (.var .i64 23) (.var .i64 17)) false, .ds (.bin .neq (.lit .i64 3) (.var .i64 20)) false, .ds (.bin .neq (.var .i64 20) (.lit .i64 3)) false, .nm (.bin .add (.lit .i64 0) (.var .i64 17)) 17, .nm (.bin .mul (.var .i64 17) (.lit .i64 1)) 17, .nm (.bin .add (.var .i64 17) (.lit .i64 0)) 17, .ds (.bin .lss (.var .i64 17) (.lit .i64 0)) false, .ds (.bin .geq (.var .i64 17) (.var .i64 5)) false, .nm (.bin .add (.lit .i64 22) (.var .i64 17)) 69, .ds (.bin .lss (.var .i64 69) (.lit .i64 0)) false, .ds (.bin .geq (.var .i64 69) (.var .i64 42)) false, .ds (.bin .geq (.var .i64 69) (.lit .i64 0)) true, .ds (.bin .lss (.var .i64 69) (.var .i64 42)) true, .nm (.bin .mul (.var .i64 69) (.lit .i64 1)) 69, .nm (.bin .add (.var .i64 69) (.lit .i64 0)) 69, .nm (.bin .add (.var .i64 31) (.var .i64 17)) 75, .nm (.bin .add (.var .i64 32) (.var .i64 17)) 76, .nm (.bin .mul (.var .i64 23) (.lit .i64 8)) 77, .nm (.bin .mul (.var .i64 17) (.lit .i64 8)) 77, .iv (.bin .rem (.var .i64 20) (.lit .i64 4)) 3, .nm (.bin .mul (.var .i64 17) (.lit .i64 64)) 78, .nm (.bin .add (.var .i64 78) (.lit .i64 64)) 79, .nm (.bin .mul (.var .i64 77) (.lit .i64 8)) 78, .ds (.bin .lss (.var .i64 78) (.var .i64 78)) false, .nm (.bin .add (.var .i64 78) (.lit .i64 32)) 120, .ds (.bin .gtr (.var .i64 120) (.var .i64 79)) false, .iv (.bin .rem (.var .i64 78) (.lit .i64 32)) 0, .nm (.bin .add (.var .i64 77) (.lit .i64 4)) 101, .nm (.bin .mul (.var .i64 101) (.lit .i64 8)) 111, .ds (.bin .lss (.var .i64 111) (.var .i64 78)) false, .nm (.bin .add (.var .i64 111) (.lit .i64 32)) 121, .ds (.bin .gtr (.var .i64 121) (.var .i64 79)) false, .iv (.bin .rem (.var .i64 111) (.lit .i64 32)) 0, .ds (.bin .lss (.var .i64 111) (.var .i64 120)) false]
def alT3L : List (Nat × Value) := [(10243, .int .i64 3), (343698054175, .int .u64 3), (351964349076611, .int .i64 4), (5499537852651, .bool false), (1407856288995587, .bool false), (6475865890233571, .bool false), (850815942139107, .bool false), (703945508919011, .bool false), (6339472399491, .float .f64 8707), (299187790943379, .float .f64 8707), (4674904131715, .float .f64 8707), (4674904131819, .bool false), (1196766967896323, .bool false), (6198788960033923, .float .f64 35331), (18968555292907, .bool false), (38847566976130819, .bool false), (18968555292931, .bool true), (38847566976130795, .bool true), (1213981465253011, .float .f64 35331), (18968555292803, .float .f64 35331), (8727665703918723, .float .f64 38403), (9009140680629379, .float .f64 38915), (3237924673952403, .float .f64 39427), (2393499743820435, .float .f64 39427), (1407856288995491, .int .i64 3), (19147995366826131, .float .f64 39939), (87827889684226179, .float .f64 40451), (10837749045140115, .float .f64 39939), (87828129933959403, .bool false), (43913945026666115, .float .f64 61443), (135115943201218811, .bool false), (43913945026666147, .int .i64 0), (5418874707122307, .float .f64 51715), (14215448765667987, .float .f64 56835), (124982826859765995, .bool false), (62491293489569411, .float .f64 61955), (136241843108061435, .bool false), (62491293489569443, .int .i64 0), (124983548414271723, .bool false)]
theorem alT3_eq : alT3L = alT3E.map En.pr := by kernel_rfl
theorem alT3_all : (alT3E.all En.okB) = true := by kernel_rfl
set_option maxHeartbeats 4000000 in
theorem alT3_h {S : Sy} (h : TNm3 S) : AllH S alT3E := by
 have ghd := h.hd; have grn_geo_n := h.rn.geo.n; have grn_geo_w := h.rn.geo.w; have grn_geo_e31 := h.rn.geo.e31; have grn_geo_e32 := h.rn.geo.e32; have grn_geo_e42 := h.rn.geo.e42; have grn_e23 := h.rn.e23; have grn_e69 := h.rn.e69; have grn_e75 := h.rn.e75; have grn_e76 := h.rn.e76; have ge77 := h.e77; have ge78 := h.e78; have ge79 := h.e79; have ge120 := h.e120; have ge101 := h.e101; have ge111 := h.e111; have ge121 := h.e121
 exact ⟨(sm (show S.ρ 20 = (3 : Int) from ghd)), (sm (show IntKind.u64.wrap (S.ρ 20) = (3 : Int) from by rw [ghd]; rfl)), (sm (show (IntKind.i64.wrap (S.ρ 20 + (1 : Int))) = (4 : Int) from by rw [w_i64 (by omega) (by omega)]; omega)), (fls (p := S.ρ 20 < (0 : Int)) (by omega)), (fls (p := (4 : Int) ≤ S.ρ 20) (by omega)), (fls (p := S.ρ 23 ≠ S.ρ 17) (by omega)), (fls (p := (3 : Int) ≠ S.ρ 20) (by omega)), (fls (p := S.ρ 20 ≠ (3 : Int)) (by omega)), (sm (show (IntKind.i64.wrap ((0 : Int) + S.ρ 17)) = S.ρ 17 from by rw [w_i64 (by omega) (by omega)]; omega)), (sm (show (IntKind.i64.wrap (S.ρ 17 * (1 : Int))) = S.ρ 17 from by rw [w_i64 (by omega) (by omega)]; omega)), (sm (show (IntKind.i64.wrap (S.ρ 17 + (0 : Int))) = S.ρ 17 from by rw [w_i64 (by omega) (by omega)]; omega)), (fls (p := S.ρ 17 < (0 : Int)) (by omega)), (fls (p := S.ρ 5 ≤ S.ρ 17) (by omega)), (sm (show (IntKind.i64.wrap ((22 : Int) + S.ρ 17)) = S.ρ 69 from by rw [w_i64 (by omega) (by omega)]; omega)), (fls (p := S.ρ 69 < (0 : Int)) (by omega)), (fls (p := S.ρ 42 ≤ S.ρ 69) (by omega)), (tr (p := (0 : Int) ≤ S.ρ 69) (by omega)), (tr (p := S.ρ 69 < S.ρ 42) (by omega)), (sm (show (IntKind.i64.wrap (S.ρ 69 * (1 : Int))) = S.ρ 69 from by rw [w_i64 (by omega) (by omega)]; omega)), (sm (show (IntKind.i64.wrap (S.ρ 69 + (0 : Int))) = S.ρ 69 from by rw [w_i64 (by omega) (by omega)]; omega)), (sm (show (IntKind.i64.wrap (S.ρ 31 + S.ρ 17)) = S.ρ 75 from by rw [w_i64 (by omega) (by omega)]; omega)), (sm (show (IntKind.i64.wrap (S.ρ 32 + S.ρ 17)) = S.ρ 76 from by rw [w_i64 (by omega) (by omega)]; omega)), (sm (show (IntKind.i64.wrap (S.ρ 23 * (8 : Int))) = S.ρ 77 from by rw [w_i64 (by omega) (by omega)]; omega)), (sm (show (IntKind.i64.wrap (S.ρ 17 * (8 : Int))) = S.ρ 77 from by rw [w_i64 (by omega) (by omega)]; omega)), (sm (show (S.ρ 20).tmod (4 : Int) = 3 from by rw [ghd]; rfl)), (sm (show (IntKind.i64.wrap (S.ρ 17 * (64 : Int))) = S.ρ 78 from by rw [w_i64 (by omega) (by omega)]; omega)), (sm (show (IntKind.i64.wrap (S.ρ 78 + (64 : Int))) = S.ρ 79 from by rw [w_i64 (by omega) (by omega)]; omega)), (sm (show (IntKind.i64.wrap (S.ρ 77 * (8 : Int))) = S.ρ 78 from by rw [w_i64 (by omega) (by omega)]; omega)), (fls (p := S.ρ 78 < S.ρ 78) (by omega)), (sm (show (IntKind.i64.wrap (S.ρ 78 + (32 : Int))) = S.ρ 120 from by rw [w_i64 (by omega) (by omega)]; omega)), (fls (p := S.ρ 79 < S.ρ 120) (by omega)), (sm (show (S.ρ 78).tmod (32 : Int) = 0 from by rw [Int.tmod_eq_emod_of_nonneg (by omega)]; omega)), (sm (show (IntKind.i64.wrap (S.ρ 77 + (4 : Int))) = S.ρ 101 from by rw [w_i64 (by omega) (by omega)]; omega)), (sm (show (IntKind.i64.wrap (S.ρ 101 * (8 : Int))) = S.ρ 111 from by rw [w_i64 (by omega) (by omega)]; omega)), (fls (p := S.ρ 111 < S.ρ 78) (by omega)), (sm (show (IntKind.i64.wrap (S.ρ 111 + (32 : Int))) = S.ρ 121 from by rw [w_i64 (by omega) (by omega)]; omega)), (fls (p := S.ρ 79 < S.ρ 121) (by omega)), (sm (show (S.ρ 111).tmod (32 : Int) = 0 from by rw [Int.tmod_eq_emod_of_nonneg (by omega)]; omega)), (fls (p := S.ρ 111 < S.ρ 120) (by omega)), trivial⟩
theorem alT3_ok {S : Sy} (h : TNm3 S) : AlOk S alT3L := alE alT3_all alT3_eq (alT3_h h)
def alE0E : List En := [.nm (.app .i64 32 (gCT (.var .i64 17))) 69, .nm (.app .i64 32 (gCT (.var .i64 23))) 69, .nm (.app .i64 32 (gCT (.var .i64 45))) 71, .iv (.app .i64 32 (gCT (.lit .i64 0))) 22, .nm (.app .i64 33 (gCT (.var .i64 23))) 75, .nm (.app .i64 33 (gCT (.var .i64 17))) 75, .nm (.app .i64 34 (gCT (.var .i64 23))) 76, .nm (.app .i64 34 (gCT (.var .i64 17))) 76]
def alE0L : List (Nat × Value) := [(72293283698476653618112594175902570092655423631609518831620438016976242083140104349254114756877265304992644042634629835690066273377354565154291960355523083746657300859188314443969591842719541270550975710119900085226798134708078761183818703579082695227450163909905639053927578179, .float .f64 35331), (72293283698476653618112594175902570092655423631609518831620438016976242083140104349254114769930512616457512260029949599923535258629435026413828504905062224159775187999493032001627247512994465869175137164113909038384331936861011876912181701746733456599047475960529389977678051907, .float .f64 35331), (144586567396953307236225188351805140185310847263219037663240876033952484166280208698508229537670412973151279547608142585517984292281315306798384047301038402766690928733161855823065099770110510259861728916157059426732805359824535905483369262638872903337738725900994243272930425923, .float .f64 36355), (70598909861793607048938080249904853606108812140243670734004334000953361409316508153568471455194725800748265982754609450493728376957940453045870291710094694104860412295463870146773500919939729932572935379592246195609276668102430440377146081391496946283158620539436945983858243, .int .i64 22), (74509111563597098903549198345137055361443851046592127476367832130689656539329385654247100963969136710272896653647747947769886204527647378373460589544585245478960341901736795022176494792510771996589600916297750858752603628521412923319638545212819632760533453588543096055050730051, .float .f64 38403), (74509111563597098903549198345137055361443851046592127476367832130689656539329385654247100950915889398808028436252428183536417219275566917113924044995046105065842454761432077464518839122235847397965439462303741905595069826368479807591275547045168871388936141537919345131300256323, .float .f64 38403), (76724939428717544188985802514371540630232278461574736121115226244403070995518666959240087158007760804088281047265546295616237150425859730333092674184108266798145495803980558042725742072027078124004064668481592679120875320181813969727095388678905808922019431216556802132423408195, .float .f64 38915), (76724939428717544188985802514371540630232278461574736121115226244403070995518666959240087144954513492623412829870226531382768165173779269073556129634569126385027608663675840485068086401752153525379903214487583725963341518028880853998732390511255047550422119165933051208672934467, .float .f64 38915)]
theorem alE0_eq : alE0L = alE0E.map En.pr := by kernel_rfl
theorem alE0_all : (alE0E.all En.okB) = true := by kernel_rfl
set_option maxHeartbeats 4000000 in
theorem alE0_h {S : Sy} (h : RNm S (S.ρ 17)) : AllH S alE0E := by
 have gi0 := h.i0; have ghin := h.hin; have ggeo_n := h.geo.n; have ggeo_e31 := h.geo.e31; have ggeo_e32 := h.geo.e32; have ggeo_e42 := h.geo.e42; have ge23 := h.e23; have ge24 := h.e24; have ge66 := h.e66; have ge67 := h.e67; have ge68 := h.e68; have ge69 := h.e69; have ge75 := h.e75; have ge76 := h.e76; have ge44 := h.e44; have ge45 := h.e45; have ge70 := h.e70; have ge71 := h.e71; have ge72 := h.e72; have ge73 := h.e73; have ge74 := h.e74
 exact ⟨(sm ((h.geo.pgF (S.ρ 17)).trans (by omega))), (sm ((h.geo.pgF (S.ρ 23)).trans (by omega))), (sm ((h.geo.pgF (S.ρ 45)).trans (by omega))), (sm ((h.geo.pgF 0).trans (by omega))), (sm ((h.geo.btF (S.ρ 23)).trans (by omega))), (sm ((h.geo.btF (S.ρ 17)).trans (by omega))), (sm ((h.geo.rmF (S.ρ 23)).trans (by omega))), (sm ((h.geo.rmF (S.ρ 17)).trans (by omega))), trivial⟩
theorem alE0_ok {S : Sy} (h : RNm S (S.ρ 17)) : AlOk S alE0L := alE alE0_all alE0_eq (alE0_h h)
def alE1E : List En := [.nm (.app .i64 32 (gCT (.var .i64 17))) 69, .nm (.app .i64 32 (gCT (.var .i64 23))) 69, .nm (.app .i64 32 (gCT (.var .i64 45))) 71, .iv (.app .i64 32 (gCT (.lit .i64 0))) 22, .nm (.app .i64 32 (gCT (.var .i64 66))) 72, .nm (.app .i64 33 (gCT (.var .i64 23))) 75, .nm (.app .i64 33 (gCT (.var .i64 17))) 75, .nm (.app .i64 34 (gCT (.var .i64 23))) 76, .nm (.app .i64 34 (gCT (.var .i64 17))) 76]
def alE1L : List (Nat × Value) := [(72293283698476653618112594175902570092655423631609518831620438016976242083140104349254114756877265304992644042634629835690066273377354565154291960355523083746657300859188314443969591842719541270550975710119900085226798134708078761183818703579082695227450163909905639053927578179, .float .f64 35331), (72293283698476653618112594175902570092655423631609518831620438016976242083140104349254114769930512616457512260029949599923535258629435026413828504905062224159775187999493032001627247512994465869175137164113909038384331936861011876912181701746733456599047475960529389977678051907, .float .f64 35331), (144586567396953307236225188351805140185310847263219037663240876033952484166280208698508229537670412973151279547608142585517984292281315306798384047301038402766690928733161855823065099770110510259861728916157059426732805359824535905483369262638872903337738725900994243272930425923, .float .f64 36355), (70598909861793607048938080249904853606108812140243670734004334000953361409316508153568471455194725800748265982754609450493728376957940453045870291710094694104860412295463870146773500919939729932572935379592246195609276668102430440377146081391496946283158620539436945983858243, .int .i64 22), (289173134793906614472450376703610280370621694526438075326481752067904968332560417397016459023112765659256819287528821525164723132231994166310474851405976541691136994391336975190926389018477422802042410540685063793632799643637012189834091200131486371591114180446963873907307118147, .float .f64 36867), (74509111563597098903549198345137055361443851046592127476367832130689656539329385654247100963969136710272896653647747947769886204527647378373460589544585245478960341901736795022176494792510771996589600916297750858752603628521412923319638545212819632760533453588543096055050730051, .float .f64 38403), (74509111563597098903549198345137055361443851046592127476367832130689656539329385654247100950915889398808028436252428183536417219275566917113924044995046105065842454761432077464518839122235847397965439462303741905595069826368479807591275547045168871388936141537919345131300256323, .float .f64 38403), (76724939428717544188985802514371540630232278461574736121115226244403070995518666959240087158007760804088281047265546295616237150425859730333092674184108266798145495803980558042725742072027078124004064668481592679120875320181813969727095388678905808922019431216556802132423408195, .float .f64 38915), (76724939428717544188985802514371540630232278461574736121115226244403070995518666959240087144954513492623412829870226531382768165173779269073556129634569126385027608663675840485068086401752153525379903214487583725963341518028880853998732390511255047550422119165933051208672934467, .float .f64 38915)]
theorem alE1_eq : alE1L = alE1E.map En.pr := by kernel_rfl
theorem alE1_all : (alE1E.all En.okB) = true := by kernel_rfl
set_option maxHeartbeats 4000000 in
theorem alE1_h {S : Sy} (h : RNm S (S.ρ 17)) : AllH S alE1E := by
 have gi0 := h.i0; have ghin := h.hin; have ggeo_n := h.geo.n; have ggeo_e31 := h.geo.e31; have ggeo_e32 := h.geo.e32; have ggeo_e42 := h.geo.e42; have ge23 := h.e23; have ge24 := h.e24; have ge66 := h.e66; have ge67 := h.e67; have ge68 := h.e68; have ge69 := h.e69; have ge75 := h.e75; have ge76 := h.e76; have ge44 := h.e44; have ge45 := h.e45; have ge70 := h.e70; have ge71 := h.e71; have ge72 := h.e72; have ge73 := h.e73; have ge74 := h.e74
 exact ⟨(sm ((h.geo.pgF (S.ρ 17)).trans (by omega))), (sm ((h.geo.pgF (S.ρ 23)).trans (by omega))), (sm ((h.geo.pgF (S.ρ 45)).trans (by omega))), (sm ((h.geo.pgF 0).trans (by omega))), (sm ((h.geo.pgF (S.ρ 66)).trans (by omega))), (sm ((h.geo.btF (S.ρ 23)).trans (by omega))), (sm ((h.geo.btF (S.ρ 17)).trans (by omega))), (sm ((h.geo.rmF (S.ρ 23)).trans (by omega))), (sm ((h.geo.rmF (S.ρ 17)).trans (by omega))), trivial⟩
theorem alE1_ok {S : Sy} (h : RNm S (S.ρ 17)) : AlOk S alE1L := alE alE1_all alE1_eq (alE1_h h)
end Go.Proofs.YtgokpcaijabhoaaDoor
/-
 SlabBlocks: the table, and the words of a page, as contracts. Conditions: those each says.
-/
namespace Go.Proofs.YtgokpcaijabhoaaDoor
open Go.Ev Go.RowKit
set_option maxRecDepth 100000
set_option linter.unusedVariables false
def gA (S : Sy) : Value := .agg #[.int .i64 (S.ρ 5), .int .i64 1, .int .i64 0, .int .i64 1, .int .i64 2, .int .i64 7, .int .i64 16, .int .i64 17, .int .i64 21, .int .i64 22, .int .i64 (S.ρ 31), .int .i64 (S.ρ 32), .int .i64 (S.ρ 33), .int .i64 (S.ρ 34), .int .i64 (S.ρ 35), .int .i64 (S.ρ 36), .int .i64 (S.ρ 37), .int .i64 (S.ρ 38), .int .i64 (S.ρ 39), .int .i64 (S.ρ 40), .int .i64 (S.ρ 41), .int .i64 (S.ρ 42)]
def gQ : Value := .agg ([vv .i64 5, .int .i64 1, .int .i64 0, .int .i64 1, .int .i64 2, .int .i64 7, .int .i64 16, .int .i64 17, .int .i64 21, .int .i64 22, vv .i64 31, vv .i64 32, vv .i64 33, vv .i64 34, vv .i64 35, vv .i64 36, vv .i64 37, vv .i64 38, vv .i64 39, vv .i64 40, vv .i64 41, vv .i64 42] : List Value).toArray
def gL : Pm := .agg (List.replicate 22 (.int .i64))
theorem gCT_den {S : Sy} {t : Tm} {x : Int} (h : t.den S = some [x]) : (gCT t).den S = some (glS S x) := by simp [gCT, glS, Tm.den, h]
theorem gA_vs {S T : Sy} {G : Nat → Option Obj} {ι : Inj} {x : Int} (y : Stay [98, 99] [] S T) (hx : T.ρ 98 = x) : VsOk T G ι [gQ, vv .i64 98] [gA S, .int .i64 x] :=
 vs_agg (vs_sym (y.num 5 rfl) (vs_int (vs_int (vs_int (vs_int (vs_int (vs_int (vs_int (vs_int (vs_int (vs_sym (y.num 31 rfl) (vs_sym (y.num 32 rfl) (vs_sym (y.num 33 rfl) (vs_sym (y.num 34 rfl) (vs_sym (y.num 35 rfl) (vs_sym (y.num 36 rfl) (vs_sym (y.num 37 rfl) (vs_sym (y.num 38 rfl) (vs_sym (y.num 39 rfl) (vs_sym (y.num 40 rfl) (vs_sym (y.num 41 rfl) (vs_sym (y.num 42 rfl) vs_nil)))))))))))))))))))))) (vs_sym hx vs_nil)
theorem runP {T : Sy} (ty : TypeId) (ha : AlOk T (alGL ++ (alLL ++ alQPL))) (G : Nat → Option Obj) : outV (runS Tryd.prog (ftOf Tryd.prog) ha [] G 1000 (.fn 43 [gQ, vv .i64 98].toArray) (H0g Tryd.prog (gsT ty))) = some (.float .f64 (Tm.var .i64 99).enc) := by kernel_rfl
set_option maxHeartbeats 4000000 in
theorem anyP (ty : TypeId) {S : Sy} (g : GeoS S) (x : Int) (h0 : 0 ≤ x) (h1 : x < S.ρ 5) (w : World) (hw : GOk Tryd.prog (gsT ty) w) : Calls Tryd.prog 43 #[gA S, .int .i64 x] w fun e w' => e = .returned (.int .i64 (22 + x)) ∧ Quiet w w' := by
 have hK := g.K
 have e31 := g.e31; have e32 := g.e32
 obtain ⟨T, hT⟩ : ∃ T : Sy, T = S.set (upd S.ρ [(98, x), (99, 22 + x)]) [] 60 rfl hK := ⟨_, rfl⟩
 have y : Stay [98, 99] [] S T := by rw [hT]; exact (Stay.refl _ _ _).set rfl rfl
 have t98 : T.ρ 98 = x := by rw [hT]; rfl
 have t99 : T.ρ 99 = 22 + x := by rw [hT]; rfl
 clear hT
 have gT : GeoS T := g.stay y rfl rfl
 have f5 : T.ρ 5 = S.ρ 5 := y.num 5 rfl
 have f31 : T.ρ 31 = S.ρ 31 := y.num 31 rfl
 have f32 : T.ρ 32 = S.ρ 32 := y.num 32 rfl
 have hal : AlOk T (alGL ++ (alLL ++ alQPL)) := AlOk.app (alG_ok gT) (AlOk.app (alL_ok gT) (alQP_ok ⟨gT, by omega, by omega, by omega⟩))
 exact symOne env hal (cs := []) (fun c hc => noC c hc) (n := 1000) (f := 43) (args := [gQ, vv .i64 98]) (args' := [gA S, .int .i64 x]) (k := .i64) (.var .i64 99) (r := 22 + x) rfl rfl (show some [T.ρ 99] = some [22 + x] from congrArg (fun z => some [z]) (by omega)) (fun G => runP ty hal G) (fun G ι => gA_vs y t98) w hw gT.I
theorem runB {T : Sy} (ty : TypeId) (ha : AlOk T (alGL ++ (alLL ++ alQBL))) (G : Nat → Option Obj) : outV (runS Tryd.prog (ftOf Tryd.prog) ha [] G 1000 (.fn 10 [gQ, vv .i64 98].toArray) (H0g Tryd.prog (gsT ty))) = some (.float .f64 (Tm.var .i64 99).enc) := by kernel_rfl
set_option maxHeartbeats 4000000 in
theorem anyB (ty : TypeId) {S : Sy} (g : GeoS S) (x : Int) (h0 : 0 ≤ x) (h1 : x < S.ρ 5) (w : World) (hw : GOk Tryd.prog (gsT ty) w) : Calls Tryd.prog 10 #[gA S, .int .i64 x] w fun e w' => e = .returned (.int .i64 (22 + S.ρ 5 + x)) ∧ Quiet w w' := by
 have hK := g.K
 have e31 := g.e31; have e32 := g.e32
 obtain ⟨T, hT⟩ : ∃ T : Sy, T = S.set (upd S.ρ [(98, x), (99, S.ρ 31 + x)]) [] 60 rfl hK := ⟨_, rfl⟩
 have y : Stay [98, 99] [] S T := by rw [hT]; exact (Stay.refl _ _ _).set rfl rfl
 have t98 : T.ρ 98 = x := by rw [hT]; rfl
 have t99 : T.ρ 99 = S.ρ 31 + x := by rw [hT]; rfl
 clear hT
 have gT : GeoS T := g.stay y rfl rfl
 have f5 : T.ρ 5 = S.ρ 5 := y.num 5 rfl
 have f31 : T.ρ 31 = S.ρ 31 := y.num 31 rfl
 have f32 : T.ρ 32 = S.ρ 32 := y.num 32 rfl
 have hal : AlOk T (alGL ++ (alLL ++ alQBL)) := AlOk.app (alG_ok gT) (AlOk.app (alL_ok gT) (alQB_ok ⟨gT, by omega, by omega, by omega⟩))
 exact symOne env hal (cs := []) (fun c hc => noC c hc) (n := 1000) (f := 10) (args := [gQ, vv .i64 98]) (args' := [gA S, .int .i64 x]) (k := .i64) (.var .i64 99) (r := 22 + S.ρ 5 + x) rfl rfl (show some [T.ρ 99] = some [22 + S.ρ 5 + x] from congrArg (fun z => some [z]) (by omega)) (fun G => runB ty hal G) (fun G ι => gA_vs y t98) w hw gT.I
theorem runR {T : Sy} (ty : TypeId) (ha : AlOk T (alGL ++ (alLL ++ alQRL))) (G : Nat → Option Obj) : outV (runS Tryd.prog (ftOf Tryd.prog) ha [] G 1000 (.fn 44 [gQ, vv .i64 98].toArray) (H0g Tryd.prog (gsT ty))) = some (.float .f64 (Tm.var .i64 99).enc) := by kernel_rfl
set_option maxHeartbeats 4000000 in
theorem anyR (ty : TypeId) {S : Sy} (g : GeoS S) (x : Int) (h0 : 0 ≤ x) (h1 : x < S.ρ 5) (w : World) (hw : GOk Tryd.prog (gsT ty) w) : Calls Tryd.prog 44 #[gA S, .int .i64 x] w fun e w' => e = .returned (.int .i64 (22 + 2 * S.ρ 5 + x)) ∧ Quiet w w' := by
 have hK := g.K
 have e31 := g.e31; have e32 := g.e32
 obtain ⟨T, hT⟩ : ∃ T : Sy, T = S.set (upd S.ρ [(98, x), (99, S.ρ 32 + x)]) [] 60 rfl hK := ⟨_, rfl⟩
 have y : Stay [98, 99] [] S T := by rw [hT]; exact (Stay.refl _ _ _).set rfl rfl
 have t98 : T.ρ 98 = x := by rw [hT]; rfl
 have t99 : T.ρ 99 = S.ρ 32 + x := by rw [hT]; rfl
 clear hT
 have gT : GeoS T := g.stay y rfl rfl
 have f5 : T.ρ 5 = S.ρ 5 := y.num 5 rfl
 have f31 : T.ρ 31 = S.ρ 31 := y.num 31 rfl
 have f32 : T.ρ 32 = S.ρ 32 := y.num 32 rfl
 have hal : AlOk T (alGL ++ (alLL ++ alQRL)) := AlOk.app (alG_ok gT) (AlOk.app (alL_ok gT) (alQR_ok ⟨gT, by omega, by omega, by omega⟩))
 exact symOne env hal (cs := []) (fun c hc => noC c hc) (n := 1000) (f := 44) (args := [gQ, vv .i64 98]) (args' := [gA S, .int .i64 x]) (k := .i64) (.var .i64 99) (r := 22 + 2 * S.ρ 5 + x) rfl rfl (show some [T.ρ 99] = some [22 + 2 * S.ρ 5 + x] from congrArg (fun z => some [z]) (by omega)) (fun G => runR ty hal G) (fun G ι => gA_vs y t98) w hw gT.I
noncomputable def mayQ (l : List Nat) (a : Nat) : Bool := l.any fun c => Nat.beq a c
theorem mayQ_in {ts : List Tm} {a : Nat} (h : mayQ (ts.map fun t => (gCT t).enc) a = true) : ∃ t ∈ ts, Nat.beq a (gCT t).enc = true := by
 obtain ⟨c, hc, e⟩ := List.any_eq_true.1 h
 obtain ⟨t, ht, rfl⟩ := List.mem_map.1 hc
 exact ⟨t, ht, e⟩
theorem cP_ok (ty : TypeId) {S : Sy} (g : GeoS S) {ts : List Tm} {cds : List Nat} (hc : cds = ts.map fun t => (gCT t).enc) (hok : (ts.all fun t => (gCT t).ok) = true) (ht : ∀ t ∈ ts, ∃ x, t.den S = some [x] ∧ 0 ≤ x ∧ x < S.ρ 5) : CtrOk Tryd.prog S (gsT ty) ⟨43, [gL, .one (.int .i64)], [.one (.int .i64)], 32, mayQ cds⟩ := by
 intro a ns hm he hl w hw
 subst hc
 obtain ⟨t, ht', hb⟩ := mayQ_in hm
 obtain ⟨x, hx, h0, h1⟩ := ht t ht'
 have q := may_args hb (List.all_eq_true.1 hok t ht') he
 rw [gCT_den hx] at q
 obtain rfl := Option.some.inj q
 refine Calls.mono (anyP ty g x h0 h1 w hw) fun e w' ⟨q1, q2⟩ => ⟨?_, q2⟩
 rw [q1, ← g.pgF x]; rfl
theorem cB_ok (ty : TypeId) {S : Sy} (g : GeoS S) {ts : List Tm} {cds : List Nat} (hc : cds = ts.map fun t => (gCT t).enc) (hok : (ts.all fun t => (gCT t).ok) = true) (ht : ∀ t ∈ ts, ∃ x, t.den S = some [x] ∧ 0 ≤ x ∧ x < S.ρ 5) : CtrOk Tryd.prog S (gsT ty) ⟨10, [gL, .one (.int .i64)], [.one (.int .i64)], 33, mayQ cds⟩ := by
 intro a ns hm he hl w hw
 subst hc
 obtain ⟨t, ht', hb⟩ := mayQ_in hm
 obtain ⟨x, hx, h0, h1⟩ := ht t ht'
 have q := may_args hb (List.all_eq_true.1 hok t ht') he
 rw [gCT_den hx] at q
 obtain rfl := Option.some.inj q
 refine Calls.mono (anyB ty g x h0 h1 w hw) fun e w' ⟨q1, q2⟩ => ⟨?_, q2⟩
 rw [q1, ← g.btF x]; rfl
theorem cR_ok (ty : TypeId) {S : Sy} (g : GeoS S) {ts : List Tm} {cds : List Nat} (hc : cds = ts.map fun t => (gCT t).enc) (hok : (ts.all fun t => (gCT t).ok) = true) (ht : ∀ t ∈ ts, ∃ x, t.den S = some [x] ∧ 0 ≤ x ∧ x < S.ρ 5) : CtrOk Tryd.prog S (gsT ty) ⟨44, [gL, .one (.int .i64)], [.one (.int .i64)], 34, mayQ cds⟩ := by
 intro a ns hm he hl w hw
 subst hc
 obtain ⟨t, ht', hb⟩ := mayQ_in hm
 obtain ⟨x, hx, h0, h1⟩ := ht t ht'
 have q := may_args hb (List.all_eq_true.1 hok t ht') he
 rw [gCT_den hx] at q
 obtain rfl := Option.some.inj q
 refine Calls.mono (anyR ty g x h0 h1 w hw) fun e w' ⟨q1, q2⟩ => ⟨?_, q2⟩
 rw [q1, ← g.rmF x]; rfl
def valT : Value := .agg #[.int .i64 8, .int .i64 8, .int .i64 8, .int .i64 16, .int .i64 16, .int .i64 4, .int .i64 24, .int .i64 8, .int .i64 2, .int .i64 32, .int .i64 32, .int .i64 2]
def cTb : Ctr := ⟨21, [], [.val valT], 31, fun _ => true⟩
theorem cTb_ok (ty : TypeId) (S : Sy) : CtrOk Tryd.prog S (gsT ty) cTb := by
 intro a ns _ _ hl w hw
 obtain rfl := len0 (show ns.length = 0 from hl)
 refine Calls.mono ((KnOk.run env (n := 1000) (x := ⟨21, #[], valT⟩) (by kernel_rfl) (fun G => by kernel_rfl) hw).now hw.room) fun e w' ⟨h1, h2⟩ => ⟨?_, h2⟩
 rw [h1]; rfl
def tsP0 : List Tm := [.var .i64 17, .var .i64 23, .var .i64 45, .lit .i64 0]
def cdsP0 : List Nat := [41329622704458370332159422647924467665724347596348589649910520855992421063277202531056301225462386098514301981481394309009194512205103112639941331469607398889433621984359556031038728302650010385755766637234742446008443879343428496873370190391691269275512689753384726584, 41329622704458370332159422647924467665724347596348589649910520855992421063277202531056301614479470681107391842019631530055552419621937385368400706062482057388134691944498281003574567093630724904307636446683728295553857199197363611267885888575786931261306758644902572088, 82659245408916740664318845295848935331448695192697179299821041711984842126554405062112603163673608570297907473714599709258191430441283624825794409858138511742385595725805238125123795302716437141181492101883379315239700483050016623918154263775278002102260521296174953016, 40360959672322627277499436179613737954808933199559169579990743023430098694606643096734669550887431771084775990200372943140903640949858853440512619167574580917488123486825101214931113572572572555272076244568506154441425314989618663314572664389131702086979736805219384]
theorem cdsP0_eq : cdsP0 = tsP0.map fun t => (gCT t).enc := by kernel_rfl
def tsP1 : List Tm := [.var .i64 17, .var .i64 23, .var .i64 45, .lit .i64 0, .var .i64 66]
def cdsP1 : List Nat := [41329622704458370332159422647924467665724347596348589649910520855992421063277202531056301225462386098514301981481394309009194512205103112639941331469607398889433621984359556031038728302650010385755766637234742446008443879343428496873370190391691269275512689753384726584, 41329622704458370332159422647924467665724347596348589649910520855992421063277202531056301614479470681107391842019631530055552419621937385368400706062482057388134691944498281003574567093630724904307636446683728295553857199197363611267885888575786931261306758644902572088, 82659245408916740664318845295848935331448695192697179299821041711984842126554405062112603163673608570297907473714599709258191430441283624825794409858138511742385595725805238125123795302716437141181492101883379315239700483050016623918154263775278002102260521296174953016, 40360959672322627277499436179613737954808933199559169579990743023430098694606643096734669550887431771084775990200372943140903640949858853440512619167574580917488123486825101214931113572572572555272076244568506154441425314989618663314572664389131702086979736805219384, 165318490817833481328637690591697870662897390385394358599642083423969684253108810124225204770829726782072094215471535945886434831047448977159500645012551928622642007593372719306431330454058602243395157490769350126207563612034268667686439647449726549414069773590847730744]
theorem cdsP1_eq : cdsP1 = tsP1.map fun t => (gCT t).enc := by kernel_rfl
def tsB : List Tm := [.var .i64 17, .var .i64 23]
def cdsB : List Nat := [41329622704458370332159422647924467665724347596348589649910520855992421063277202531056301225462386098514301981481394309009194512205103112639941331469607398889433621984359556031038728302650010385755766637234742446008443879343428496873370190391691269275512689753384726584, 41329622704458370332159422647924467665724347596348589649910520855992421063277202531056301614479470681107391842019631530055552419621937385368400706062482057388134691944498281003574567093630724904307636446683728295553857199197363611267885888575786931261306758644902572088]
theorem cdsB_eq : cdsB = tsB.map fun t => (gCT t).enc := by kernel_rfl
noncomputable def csL0 : List Ctr := [cLg, ⟨43, [gL, .one (.int .i64)], [.one (.int .i64)], 32, mayQ cdsP0⟩, ⟨10, [gL, .one (.int .i64)], [.one (.int .i64)], 33, mayQ cdsB⟩, ⟨44, [gL, .one (.int .i64)], [.one (.int .i64)], 34, mayQ cdsB⟩, cTb]
set_option maxHeartbeats 4000000 in
theorem csL0_ok (ty : TypeId) {T : Sy} (R : RNm T (T.ρ 17)) : ∀ c ∈ csL0, CtrOk Tryd.prog T (gsT ty) c := by
 have hn := R.geo.n; have hw := R.geo.w; have e23 := R.e23; have e24 := R.e24; have e45 := R.e45; have e66 := R.e66; have e70 := R.e70
 have hB : ∀ t ∈ tsB, ∃ x, t.den T = some [x] ∧ 0 ≤ x ∧ x < T.ρ 5 := fun t ht => by
  simp only [tsB, List.mem_cons, List.not_mem_nil, or_false] at ht
  rcases ht with rfl | rfl
  · exact ⟨T.ρ 17, rfl, by omega, by omega⟩
  · exact ⟨T.ρ 23, rfl, by omega, by omega⟩
 intro c hc
 simp only [csL0, List.mem_cons, List.not_mem_nil, or_false] at hc
 rcases hc with rfl | rfl | rfl | rfl | rfl
 · exact cLg_ok ty R.geo (by omega) (by omega)
 · refine cP_ok ty R.geo cdsP0_eq (by kernel_rfl) fun t ht => ?_
  simp only [tsP0, List.mem_cons, List.not_mem_nil, or_false] at ht
  rcases ht with rfl | rfl | rfl | rfl
  · exact ⟨T.ρ 17, rfl, by omega, by omega⟩
  · exact ⟨T.ρ 23, rfl, by omega, by omega⟩
  · exact ⟨T.ρ 45, rfl, by omega, by omega⟩
  · exact ⟨0, rfl, by omega, by omega⟩
 · exact cB_ok ty R.geo cdsB_eq (by kernel_rfl) hB
 · exact cR_ok ty R.geo cdsB_eq (by kernel_rfl) hB
 · exact cTb_ok ty T
noncomputable def csL1 : List Ctr := [cLg, ⟨43, [gL, .one (.int .i64)], [.one (.int .i64)], 32, mayQ cdsP1⟩, ⟨10, [gL, .one (.int .i64)], [.one (.int .i64)], 33, mayQ cdsB⟩, ⟨44, [gL, .one (.int .i64)], [.one (.int .i64)], 34, mayQ cdsB⟩, cTb]
set_option maxHeartbeats 4000000 in
theorem csL1_ok (ty : TypeId) {T : Sy} (R : RNm T (T.ρ 17)) (hl : 1 ≤ T.ρ 5 - T.ρ 17 - 1) : ∀ c ∈ csL1, CtrOk Tryd.prog T (gsT ty) c := by
 have hn := R.geo.n; have hw := R.geo.w; have e23 := R.e23; have e24 := R.e24; have e45 := R.e45; have e66 := R.e66; have e70 := R.e70
 have hB : ∀ t ∈ tsB, ∃ x, t.den T = some [x] ∧ 0 ≤ x ∧ x < T.ρ 5 := fun t ht => by
  simp only [tsB, List.mem_cons, List.not_mem_nil, or_false] at ht
  rcases ht with rfl | rfl
  · exact ⟨T.ρ 17, rfl, by omega, by omega⟩
  · exact ⟨T.ρ 23, rfl, by omega, by omega⟩
 intro c hc
 simp only [csL1, List.mem_cons, List.not_mem_nil, or_false] at hc
 rcases hc with rfl | rfl | rfl | rfl | rfl
 · exact cLg_ok ty R.geo (by omega) (by omega)
 · refine cP_ok ty R.geo cdsP1_eq (by kernel_rfl) fun t ht => ?_
  simp only [tsP1, List.mem_cons, List.not_mem_nil, or_false] at ht
  rcases ht with rfl | rfl | rfl | rfl | rfl
  · exact ⟨T.ρ 17, rfl, by omega, by omega⟩
  · exact ⟨T.ρ 23, rfl, by omega, by omega⟩
  · exact ⟨T.ρ 45, rfl, by omega, by omega⟩
  · exact ⟨0, rfl, by omega, by omega⟩
  · exact ⟨T.ρ 66, rfl, by omega, by omega⟩
 · exact cB_ok ty R.geo cdsB_eq (by kernel_rfl) hB
 · exact cR_ok ty R.geo cdsB_eq (by kernel_rfl) hB
 · exact cTb_ok ty T
end Go.Proofs.YtgokpcaijabhoaaDoor
/-
 The evaluator: a long straight body in pieces: each piece a run of its own, between states that are written out. Conditions: EnvOk; the variables hold what is known of them.
-/
namespace Go.Ev
open Go.RowKit
set_option linter.unusedSectionVars false

def spine : Code → List Code
 | .seq a b => spine a ++ spine b
 | c => [c]
noncomputable def runL (r : Runner) : List Code → Fr → Heap → Option (AExit × Fr × Heap)
 | [], A, H => some (.normal, A, H)
 | c :: l, A, H => match r (.code c A) H with
  | some (.exit .normal A', H') => runL r l A' H'
  | some (.exit e A', H') => some (e, A', H')
  | _ => none
/-- Some of the blocks, and no others. -/
noncomputable def keepM (m : T Blk) : List Nat → T Blk → T Blk
 | [], t => t
 | n :: l, t => keepM m l (t.set n (m.get n))
noncomputable def Heap.keep (H : Heap) (live : List Nat) : Heap := { base := H.base, next := H.next, m := keepM H.m live .leaf, hole := H.hole }
theorem keepM_get (m : T Blk) : ∀ (l : List Nat) (t : T Blk) (n : Nat) (b : Blk), (keepM m l t).get n = some b → t.get n = some b ∨ m.get n = some b
 | [], t, n, b, h => .inl h
 | x :: l, t, n, b, h => by
  rcases keepM_get m l _ n b h with h | h
  · rw [T.get_set] at h
   split at h
   · rename_i e; subst e; exact .inr h
   · exact .inl h
  · exact .inr h
theorem Heap.keep_get {H : Heap} {live : List Nat} {n : Nat} {b : Blk} (h : (H.keep live).get n = some b) : H.get n = some b := by
 rcases keepM_get H.m live .leaf n b h with h | h
 · rw [T.get_leaf] at h; simp at h
 · exact h
/-- In pieces; behind each, blocks that are not needed any more are dropped. -/
noncomputable def runP (r : Runner) : List (Nat × List Nat) → List Code → Fr → Heap → Option (AExit × Fr × Heap)
 | [], l, A, H => runL r l A H
 | p :: ps, l, A, H => match runL r (l.take p.1) A H with
  | some (.normal, A1, H1) => runP r ps (l.drop p.1) A1 (H1.keep p.2)
  | x => x
theorem runP_step {r : Runner} {p : Nat × List Nat} {ps : List (Nat × List Nat)} {l : List Code} {A A1 : Fr} {H H1 : Heap} (h : (match runL r (l.take p.1) A H with
  | some (.normal, A1, H1) => some (A1, H1.keep p.2)
  | _ => none) = some (A1, H1)) : runP r (p :: ps) l A H = runP r ps (l.drop p.1) A1 H1 := by
 rw [show runP r (p :: ps) l A H = (match runL r (l.take p.1) A H with
  | some (.normal, A1, H1) => runP r ps (l.drop p.1) A1 (H1.keep p.2)
  | x => x) from rfl]
 cases hr : runL r (l.take p.1) A H with
 | none => rw [hr] at h; simp at h
 | some q =>
  obtain ⟨e, A2, H2⟩ := q
  rw [hr] at h
  cases e <;> simp at h
  obtain ⟨rfl, rfl⟩ := h
  rfl
/-- The first piece, with what is dropped. -/
noncomputable def piece (r : Runner) (n : Nat) (live : List Nat) (l : List Code) (A : Fr) (H : Heap) : Option (Fr × Heap) := match runL r (l.take n) A H with
  | some (.normal, A1, H1) => some (A1, H1.keep live)
  | _ => none

theorem runP_nil {r : Runner} {l : List Code} {A : Fr} {H : Heap} : runP r [] l A H = runL r l A H := rfl
theorem runP_cons {r : Runner} {p : Nat × List Nat} {ps : List (Nat × List Nat)} {l l' : List Code} {A A1 : Fr} {H H1 : Heap} (hl : l' = l.drop p.1) (h : piece r p.1 p.2 l A H = some (A1, H1)) : runP r (p :: ps) l A H = runP r ps l' A1 H1 := by
 rw [hl]
 exact runP_step h

/-- Codes in a row. -/
def LOk (P : Program) : List Code → (Exit → Act → World → Prop) → Act → World → Prop
 | [], Q, a, w => Q .normal a w
 | c :: l, Q, a, w => c.wp P (Exit.then (LOk P l Q) Q) a w
theorem then_mono {K K' : Act → World → Prop} {Q Q' : Exit → Act → World → Prop} (hk : ∀ a w, K a w → K' a w) (hq : ∀ e a w, e ≠ .normal → Q e a w → Q' e a w) : ∀ e a w, Exit.then K Q e a w → Exit.then K' Q' e a w := by
 intro e a w h
 cases e with
 | normal => exact hk a w h
 | _ => exact hq _ a w (by simp) h
theorem LOk.mono {P : Program} {Q Q' : Exit → Act → World → Prop} (hq : ∀ e a w, Q e a w → Q' e a w) : ∀ (l : List Code) (a : Act) (w : World), LOk P l Q a w → LOk P l Q' a w
 | [], _, _, h => hq _ _ _ h
 | _ :: l, _, _, h => wp_mono h (then_mono (LOk.mono hq l) fun _ _ _ _ h => hq _ _ _ h)
theorem LOk.append {P : Program} {Q : Exit → Act → World → Prop} {m : List Code} : ∀ (l : List Code) (a : Act) (w : World), LOk P (l ++ m) Q a w → LOk P l (Exit.then (LOk P m Q) Q) a w
 | [], _, _, h => h
 | _ :: l, _, _, h => wp_mono h (then_mono (LOk.append l) fun e a w he h => by cases e <;> first | exact absurd rfl he | exact h)
theorem LOk.join {P : Program} {Q : Exit → Act → World → Prop} {m : List Code} : ∀ (l : List Code) (a : Act) (w : World), LOk P l (Exit.then (LOk P m Q) Q) a w → LOk P (l ++ m) Q a w
 | [], _, _, h => h
 | _ :: l, _, _, h => wp_mono h (then_mono (LOk.join l) fun e a w he h => by cases e <;> first | exact absurd rfl he | exact h)
theorem LOk.code {P : Program} : ∀ (c : Code) (Q : Exit → Act → World → Prop) (a : Act) (w : World), LOk P (spine c) Q a w → c.wp P Q a w := by
 intro c
 have one : ∀ (c : Code) (Q : Exit → Act → World → Prop) (a : Act) (w : World), LOk P [c] Q a w → c.wp P Q a w := fun c Q a w h => wp_mono h fun e a w h => by cases e <;> exact h
 induction c with
 | seq x y ihx ihy =>
  intro Q a w h
  exact wp_seq (ihx _ a w (wp_mono_l (LOk.append (spine x) a w h) ihy))
 | _ => exact one _
where
 wp_mono_l {P : Program} {y : Code} {l : List Code} {Q : Exit → Act → World → Prop} {a : Act} {w : World} (h : LOk P l (Exit.then (LOk P (spine y) Q) Q) a w) (ihy : ∀ Q a w, LOk P (spine y) Q a w → y.wp P Q a w) : LOk P l (Exit.then (fun a w => y.wp P Q a w) Q) a w :=
  LOk.mono (then_mono (fun a w h => ihy Q a w h) fun _ _ _ _ h => h) l a w h
theorem fine_spine {n : Nat} : ∀ (c : Code), fineC n c = true → ∀ x ∈ spine c, fineC n x = true := by
 intro c
 induction c with
 | seq x y ihx ihy =>
  intro h z hz
  simp only [fineC, Bool.and_eq_true] at h
  rcases List.mem_append.1 hz with hz | hz
  · exact ihx h.1 z hz
  · exact ihy h.2 z hz
 | _ => intro h z hz; obtain rfl := List.mem_singleton.1 hz; exact h

section
variable {P : Program} [NoFloat P] {G : Nat → Option Obj} {ι : Inj}
/-- Fewer blocks are known: the relation stands. -/
theorem Rel.keep [Syms] {H : Heap} {w : World} (h : Rel P ι H w) (live : List Nat) : Rel P ι (H.keep live) w :=
 ⟨h.glb, h.gsize, h.glob, h.over, h.next, h.room, h.fresh, h.hole, h.below, fun n b hn => h.live n b (Heap.keep_get hn), fun n m b c i j hn hm => h.inj n m b c i j (Heap.keep_get hn) (Heap.keep_get hm)⟩
theorem PostC.keep [Syms] {w : World} {a : Act} {e : AExit} {A' : Fr} {H' : Heap} (live : List Nat) {e' : Exit} {a' : Act} {w' : World} (h : PostC P ι w a e A' H' e' a' w') : PostC P ι w a e A' (H'.keep live) e' a' w' := by
 obtain ⟨ι1, h1, x1, r1, f1, d1⟩ := h
 exact ⟨ι1, h1, x1, r1.keep live, f1, d1⟩
theorem runL_ok {r : Runner} (hg : @Good (noSyms G) noMarks P r) : ∀ (l : List Code) (A : Fr) (H : Heap) (e : AExit) (A' : Fr) (H' : Heap), (∀ c ∈ l, fineC P.globals.size c = true) → runL r l A H = some (e, A', H') →
  ∀ ι a w, @Rel (noSyms G) P ι H w → @FRel (noSyms G) ι A a.tmps → LOk P l (@PostC (noSyms G) P ι w a e A' H') a w
 | [], A, H, e, A', H', _, h, ι, a, w, hw, hA => by
  letI := noSyms G
  have h' : some (AExit.normal, A, H) = some (e, A', H') := h
  simp only [Option.some.injEq, Prod.mk.injEq] at h'
  obtain ⟨rfl, rfl, rfl⟩ := h'
  exact ⟨ι, rfl, Ext.refl _ _, hw, hA, rfl⟩
 | c :: l, A, H, e, A', H', hf, h, ι, a, w, hw, hA => by
  letI := noSyms G
  letI : Marks := noMarks
  have h' : (match r (.code c A) H with
   | some (.exit .normal A', H') => runL r l A' H'
   | some (.exit e A', H') => some (e, A', H')
   | _ => none) = some (e, A', H') := h
  cases hr : r (.code c A) H with
  | none => rw [hr] at h'; simp at h'
  | some x =>
   obtain ⟨o, H1⟩ := x
   rw [hr] at h'
   cases o with
   | val v => simp at h'
   | exit e1 A1 =>
    have hc := hg.code _ _ _ _ _ _ hr c (.same c) (hf c List.mem_cons_self) ι a w hw hA
    refine wp_mono hc fun e' a' w' hpost => ?_
    obtain ⟨ι1, rfl, x1, r1, f1, d1⟩ := hpost
    cases e1 with
    | normal =>
     exact LOk.mono (fun _ _ _ hp => hp.trans x1 d1) l a' w' (runL_ok hg l A1 H1 e A' H' (fun c hc => hf c (List.mem_cons_of_mem _ hc)) h' ι1 a' w' r1 f1)
    | exit id =>
     simp only [Option.some.injEq, Prod.mk.injEq] at h'
     obtain ⟨rfl, rfl, rfl⟩ := h'
     exact ⟨ι1, rfl, x1, r1, f1, d1⟩
    | ret =>
     simp only [Option.some.injEq, Prod.mk.injEq] at h'
     obtain ⟨rfl, rfl, rfl⟩ := h'
     exact ⟨ι1, rfl, x1, r1, f1, d1⟩
theorem runP_ok {r : Runner} (hg : @Good (noSyms G) noMarks P r) : ∀ (ps : List (Nat × List Nat)) (l : List Code) (A : Fr) (H : Heap) (e : AExit) (A' : Fr) (H' : Heap), (∀ c ∈ l, fineC P.globals.size c = true) → runP r ps l A H = some (e, A', H') →
  ∀ ι a w, @Rel (noSyms G) P ι H w → @FRel (noSyms G) ι A a.tmps → LOk P l (@PostC (noSyms G) P ι w a e A' H') a w
 | [], l, A, H, e, A', H', hf, h, ι, a, w, hw, hA => runL_ok hg l A H e A' H' hf h ι a w hw hA
 | p :: ps, l, A, H, e, A', H', hf, h, ι, a, w, hw, hA => by
  letI := noSyms G
  letI : Marks := noMarks
  have h' : (match runL r (l.take p.1) A H with
   | some (.normal, A1, H1) => runP r ps (l.drop p.1) A1 (H1.keep p.2)
   | x => x) = some (e, A', H') := h
  rw [← List.take_append_drop p.1 l]
  refine LOk.join _ _ _ ?_
  cases hr : runL r (l.take p.1) A H with
  | none => rw [hr] at h'; simp at h'
  | some q =>
   obtain ⟨e1, A1, H1⟩ := q
   rw [hr] at h'
   have h1 := runL_ok hg (l.take p.1) A H e1 A1 H1 (fun c hc => hf c (List.mem_of_mem_take hc)) hr ι a w hw hA
   refine LOk.mono (fun e' a' w' hpost => ?_) _ _ _ h1
   obtain ⟨ι1, rfl, x1, r1, f1, d1⟩ := hpost
   cases e1 with
   | normal =>
    exact LOk.mono (fun _ _ _ hp => hp.trans x1 d1) _ a' w' (runP_ok hg ps (l.drop p.1) A1 (H1.keep p.2) e A' H' (fun c hc => hf c (List.mem_of_mem_drop hc)) h' ι1 a' w' (r1.keep p.2) f1)
   | exit id =>
    simp only [Option.some.injEq, Prod.mk.injEq] at h'
    obtain ⟨rfl, rfl, rfl⟩ := h'
    exact ⟨ι1, rfl, x1, r1, f1, d1⟩
   | ret =>
    simp only [Option.some.injEq, Prod.mk.injEq] at h'
    obtain ⟨rfl, rfl, rfl⟩ := h'
    exact ⟨ι1, rfl, x1, r1, f1, d1⟩

/-- A step that does a body in pieces. -/
noncomputable def spineR (ps : List (Nat × List Nat)) (r : Runner) : Runner
 | .code c A, H => match runP r ps (spine c) A H with
  | some (e, A', H') => some (.exit e A', H')
  | none => none
 | .fn f a, H => r (.fn f a) H
 | .loop c A, H => r (.loop c A) H
theorem ann_eq {c c0 : Code} (h : @Ann noMarks c c0) : c = c0 := by
 letI : Marks := noMarks
 induction h with
 | same => rfl
 | mark hn => simp [Marks.code] at hn
 | seq _ _ h1 h2 => rw [h1, h2]
 | cond _ _ h1 h2 => rw [h1, h2]
 | block _ h1 => rw [h1]
 | loop _ h1 => rw [h1]
 | scope _ h1 => rw [h1]
theorem spineR_good {r : Runner} (hg : @Good (noSyms G) noMarks P r) (ps : List (Nat × List Nat)) : @Good (noSyms G) noMarks P (spineR ps r) := by
 letI := noSyms G
 letI : Marks := noMarks
 refine ⟨hg.fn, fun c A H e A' H' h => ?_, hg.loop, fun c A H v H' h => ?_, hg.noValL⟩
 · have h' : (match runP r ps (spine c) A H with
   | some (e, A', H') => some (Out.exit e A', H')
   | none => none) = some (.exit e A', H') := h
  cases hr : runP r ps (spine c) A H with
  | none => rw [hr] at h'; simp at h'
  | some q =>
   obtain ⟨e1, A1, H1⟩ := q
   rw [hr] at h'
   simp only [Option.some.injEq, Prod.mk.injEq, Out.exit.injEq] at h'
   obtain ⟨⟨rfl, rfl⟩, rfl⟩ := h'
   intro c0 hann hf ι a w hw hA
   obtain rfl := ann_eq hann
   exact LOk.code _ _ _ _ (runP_ok hg ps (spine c) A H _ _ _ (fine_spine c hf) hr ι a w hw hA)
 · have h' : (match runP r ps (spine c) A H with
   | some (e, A', H') => some (Out.exit e A', H')
   | none => none) = some (.val v, H') := h
  cases hr : runP r ps (spine c) A H with
  | none => rw [hr] at h'; simp at h'
  | some q =>
   obtain ⟨e1, A1, H1⟩ := q
   rw [hr] at h'
   simp at h'
end

/-- What a function hands back behind its body. -/
noncomputable def finL (P : Program) (fn : Func) : Option (AExit × Fr × Heap) → Option (Out × Heap)
 | some (.normal, A, H') | some (.ret, A, H') => cond (resOk fn A) (match arun P (resA fn A.get) H' with
  | some (vs, H'') => some (.val (if h : vs.size = 1 then vs[0] else .tuple vs), H'')
  | none => none) none
 | _ => none
noncomputable def bodyS (ft : Nat → Option Func) (f : FuncId) : List Code := match ft f with
 | some fn => match fn.body with
  | some c => spine c
  | none => []
 | none => []
noncomputable def enterL (ft : Nat → Option Func) (f : FuncId) (args : Array Value) : Fr := match ft f with
 | some fn => Fr.enter fn args
 | none => { size := 0, m := .leaf }
noncomputable def endL (P : Program) (ft : Nat → Option Func) (f : FuncId) (x : Option (AExit × Fr × Heap)) : Option (Out × Heap) := match ft f with
 | some fn => finL P fn x
 | none => none
theorem step_body [Syms] {P : Program} [NoFloat P] [Marks] [Orc P] [Lps P] {ft : Nat → Option Func} {ps : List (Nat × List Nat)} {r : Runner} {draw : Array Oper → Fr → Heap → Option (Fr × Heap)} {f : FuncId} {args : Array Value} {H : Heap} {x : Out × Heap} (h : endL P ft f (runP r ps (bodyS ft f) (enterL ft f args) H) = some x) (hb : ((ft f).bind (·.body)).isSome = true) :
  stepRun P ft (spineR ps r) draw (.fn f args) H = some x := by
 unfold endL bodyS enterL at h
 simp only [stepRun]
 cases hf : ft f with
 | none => rw [hf] at h; simp at h
 | some fn =>
  rw [hf] at h hb
  cases hc : fn.body with
  | none => simp [hc] at hb
  | some c =>
   simp only [hc] at h ⊢
   rw [show spineR ps r (.code c (Fr.enter fn args)) H = (match runP r ps (spine c) (Fr.enter fn args) H with
    | some (e, A', H') => some (Out.exit e A', H')
    | none => none) from rfl]
   cases hr : runP r ps (spine c) (Fr.enter fn args) H with
   | none => rw [hr] at h; simp [finL] at h
   | some q =>
    obtain ⟨e1, A1, H1⟩ := q
    rw [hr] at h
    cases e1 <;> exact h
theorem callR [Syms] {P : Program} [NoFloat P] [Marks] [Orc P] [Lps P] {r : Runner} (hg : Good P r) {gs : Gs} {f : FuncId} {args args' : Array Value} {v : Value} {H' : Heap} (hargs : ∀ ι, ARel ι args args')
  (hrun : r (.fn f args) (H0g P gs) = some (.val v, H')) (w : World) (hw : GOk P gs w) (hgl : (∀ b, b < P.globals.size → w.heap[b]? = Syms.glob b) ∧ ∀ b o, Syms.inp b = some o → w.heap[b]? = some o) : Calls P f args' w fun e w' => ∃ ι' v', e = .returned v' ∧ VRel ι' v v' ∧ Quiet w w' := by
 refine Calls.mono (hg.fn f args (H0g P gs) _ H' hrun (ι0g P gs) args' w (rel0g hw hgl) (hargs _)) fun e w' he => ?_
 obtain ⟨ι', v', rfl, x1, r1, q1⟩ := he
 exact ⟨ι', v', rfl, q1, x1.quiet⟩
end Go.Ev
namespace Go.Ev
variable {P : Program} {ft : Nat → Option Func}
/-- A closed call, its body in pieces. -/
theorem KnOk.pieces [NoFloat P] (hE : EnvOk P ft) {gs : Gs} {n : Nat} {f : FuncId} {args : Array Value} {v : Value} (hx : Kn.ok ⟨f, args, v⟩ = true) (tb : List Kn) (htb : tb.all Kn.ok = true) {L : List Code} {A0 : Fr} (hL0 : L = bodyS ft f) (hA0 : A0 = enterL ft f args)
  (ps : List (Nat × List Nat)) (hrun : ∀ G, outEq v (endL P ft f (runP (run0 P ft (knT tb fun _ _ => none) G n) ps L A0 (H0g P gs))) = true) (hb : ((ft f).bind (·.body)).isSome = true) {w : World} (hw : GOk P gs w)
  (hT : ∀ y ∈ tb, KnOk P w y) : KnOk P w ⟨f, args, v⟩ := by
 subst hL0 hA0
 intro w₁ hs hgl
 unfold Kn.ok at hx
 rw [Bool.and_eq_true] at hx
 have hw1 : GOk P gs w₁ := @GOk.of (noSyms fun _ => none) _ _ _ _ hw hs hgl
 have hr := hrun fun b => w₁.heap[b]?
 letI i1 := noSyms fun b => w₁.heap[b]?
 letI i2 : Marks := noMarks
 letI i3 : Orc P := noOrc P _
 letI i4 : Lps P := noLps P
 have hK : KOk P (knT tb fun _ _ => none) := @knT_ok P (fun b => w₁.heap[b]?) w (fun b hb => hgl b hb) _ (@noK (noSyms fun b => w₁.heap[b]?) P) tb htb hT
 have hL : LpsOk P := fun _ _ _ _ _ _ _ _ h => by simp at h
 have hg : Good P (runK P ft (knT tb fun _ _ => none) n) := runK_good hE hL hK n
 have hg2 : Good P (stepRun P ft (spineR ps (runK P ft (knT tb fun _ _ => none) n)) (drawRun2 P ft (spineR ps (runK P ft (knT tb fun _ _ => none) n)))) := Good.step hE hL (spineR_good hg ps) (drawRun2_ok hE (spineR_good hg ps))
 cases he : endL P ft f (runP (run0 P ft (knT tb fun _ _ => none) (fun b => w₁.heap[b]?) n) ps (bodyS ft f) (enterL ft f args) (H0g P gs)) with
 | none => rw [he] at hr; simp [outEq] at hr
 | some q =>
  obtain ⟨out, H'⟩ := q
  rw [he] at hr
  cases out with
  | exit e A => simp [outEq] at hr
  | val u =>
   have hu : u = v := veq_ok hr
   subst hu
   refine Calls.mono (callR hg2 (args := args) (fun ι => plainAs_rel hx.1) (step_body he hb) w₁ hw1 ⟨fun _ _ => rfl, fun _ _ h => by simp at h⟩) fun e w' hh => ?_
   obtain ⟨ι', v', rfl, q1, x1⟩ := hh
   rw [plainA_eq hx.2 q1]
   exact ⟨rfl, x1⟩
end Go.Ev
/-
 The evaluator: a body in pieces that may end within its loops and blocks: what is to be done is a row of items; each piece a run of its own, between states that are written out. Conditions: EnvOk; the variables hold what is known of them.
-/
namespace Go.Ev
open Go.RowKit
set_option linter.unusedSectionVars false

inductive Itm where
 | code (c : Code)
 | inLoop (c : Code)
 | inBlock (id : Nat)
 /-- What is left of a region's operations. -/
 | ops (os : Array Oper) (l : List Oper)
/-- What is left behind an exit. -/
noncomputable def unwI : List Itm → AExit → List Itm × AExit
 | [], e => ([], e)
 | .inBlock id :: l, .exit id' => cond (Nat.beq id' id) (l, .normal) (unwI l (.exit id'))
 | .code _ :: l, e => unwI l e
 | .inLoop _ :: l, e => unwI l e
 | .inBlock _ :: l, e => unwI l e
 | .ops .. :: l, e => unwI l e
noncomputable def opR (P : Program) (ft : Nat → Option Func) (G : Nat → Option Obj) (r : Runner) (os : Array Oper) (l : List Oper) (A : Fr) (H : Heap) : Option (Fr × Heap) :=
 letI := noSyms G
 letI := noOrc P G
 runOps P ft r os l A H
noncomputable def stI (P : Program) (ft : Nat → Option Func) (G : Nat → Option Obj) (r : Runner) : List Itm → Fr → Heap → Option (List Itm × AExit × Fr × Heap)
 | [], _, _ => none
 | .inBlock _ :: l, A, H => some (l, .normal, A, H)
 | .inLoop c :: l, A, H => some (.code c :: .inLoop c :: l, .normal, A, H)
 | .code (.seq a b) :: l, A, H => some (.code a :: .code b :: l, .normal, A, H)
 | .code (.block id c) :: l, A, H => some (.code c :: .inBlock id :: l, .normal, A, H)
 | .code (.loop c) :: l, A, H => some (.code c :: .inLoop c :: l, .normal, A, H)
 | .code (.cond x a b) :: l, A, H => match opv A.get x with
  | .bool t => some (.code (if t then a else b) :: l, .normal, A, H)
  | _ => none
 | .code (.region _ os false) :: l, A, H => some (.ops os os.toList :: l, .normal, A, H)
 | .ops _ [] :: l, A, H => some (l, .normal, A, H)
 | .ops os (o :: rest) :: l, A, H => match opR P ft G r os [o] A H with
  | some (A', H') => some (.ops os rest :: l, .normal, A', H')
  | none => none
 | .code c :: l, A, H => match r (.code c A) H with
  | some (.exit .normal A', H') => some (l, .normal, A', H')
  | some (.exit e A', H') => some ((unwI l e).1, (unwI l e).2, A', H')
  | _ => none
/-- Some steps; none, when nothing is left. -/
noncomputable def itN (P : Program) (ft : Nat → Option Func) (G : Nat → Option Obj) (r : Runner) : Nat → List Itm → Fr → Heap → Option (List Itm × AExit × Fr × Heap)
 | 0, l, A, H => some (l, .normal, A, H)
 | n + 1, l, A, H => match l with
  | [] => some ([], .normal, A, H)
  | x :: l => match stI P ft G r (x :: l) A H with
   | some (l', .normal, A', H') => itN P ft G r n l' A' H'
   | y => y
noncomputable def runQ (P : Program) (ft : Nat → Option Func) (G : Nat → Option Obj) (r : Runner) (big : Nat) : List (Nat × List Nat) → List Itm → Fr → Heap → Option (AExit × Fr × Heap)
 | [], l, A, H => match itN P ft G r big l A H with
  | some ([], e, A', H') => some (e, A', H')
  | _ => none
 | p :: ps, l, A, H => match itN P ft G r p.1 l A H with
  | some (l1, .normal, A1, H1) => runQ P ft G r big ps l1 A1 (H1.keep p.2)
  | _ => none
/-- The first piece, with what is dropped. -/
noncomputable def pieceI (P : Program) (ft : Nat → Option Func) (G : Nat → Option Obj) (r : Runner) (n : Nat) (live : List Nat) (l : List Itm) (A : Fr) (H : Heap) : Option (List Itm × Fr × Heap) := match itN P ft G r n l A H with
  | some (l1, .normal, A1, H1) => some (l1, A1, H1.keep live)
  | _ => none
theorem runQ_cons {P : Program} {ft : Nat → Option Func} {G : Nat → Option Obj} {r : Runner} {big : Nat} {p : Nat × List Nat} {ps : List (Nat × List Nat)} {l l1 : List Itm} {A A1 : Fr} {H H1 : Heap} (h : pieceI P ft G r p.1 p.2 l A H = some (l1, A1, H1)) : runQ P ft G r big (p :: ps) l A H = runQ P ft G r big ps l1 A1 H1 := by
 rw [show runQ P ft G r big (p :: ps) l A H = (match itN P ft G r p.1 l A H with
  | some (l1, .normal, A1, H1) => runQ P ft G r big ps l1 A1 (H1.keep p.2)
  | _ => none) from rfl]
 unfold pieceI at h
 cases hr : itN P ft G r p.1 l A H with
 | none => rw [hr] at h; simp at h
 | some q =>
  obtain ⟨l2, e, A2, H2⟩ := q
  rw [hr] at h
  cases e <;> simp at h
  obtain ⟨rfl, rfl, rfl⟩ := h
  rfl
/-- A part of a code: 0 the first (or only) one, 1 the second one. -/
def codePt : Code → List Nat → Code
 | c, [] => c
 | .seq a _, 0 :: p => codePt a p
 | .seq _ b, _ :: p => codePt b p
 | .cond _ a _, 0 :: p => codePt a p
 | .cond _ _ b, _ :: p => codePt b p
 | .block _ c, _ :: p => codePt c p
 | .loop c, _ :: p => codePt c p
 | c, _ => c
/-- Items by places in a function's body: 0 code, 1 a loop's, 2 a block's end. -/
def itmsAt (ft : Nat → Option Func) (f : FuncId) (l : List (Nat × List Nat)) : List Itm := match ft f with
 | some fn => match fn.body with
  | some c => l.map fun x => match x.1 with
   | 0 => .code (codePt c x.2)
   | 1 => .inLoop (codePt c x.2)
   | 3 => (match codePt c x.2.dropLast with
    | .region _ os _ => .ops os (os.toList.drop (x.2.getLastD 0))
    | _ => .inBlock 0)
   | _ => .inBlock (x.2.headD 0)
  | none => []
 | none => []

/-! ### What items are -/
/-- Within a loop. -/
def LWp (P : Program) (c : Code) (Q : Exit → Act → World → Prop) (a : Act) (w : World) : Prop :=
 ∀ (b : Frame) (k : List Item) (cs : List Frame), ∃ e a' w', Q e a' w' ∧ Arrives P (lone (b.at a (.inLoop c :: k)) cs w) b k cs e a' w'
theorem loop_pass {P : Program} {c : Code} {Q : Exit → Act → World → Prop} {a : Act} {w : World} (h : c.wp P (Exit.then (LWp P c Q) Q) a w) (b : Frame) (k : List Item) (cs : List Frame) :
  ∃ e a' w', Q e a' w' ∧ Arrives P (lone (b.at a (.code c :: .inLoop c :: k)) cs w) b k cs e a' w' := by
 obtain ⟨e, a₁, w₁, hq, harr⟩ := h b (.inLoop c :: k) cs
 cases e with
 | normal =>
  obtain ⟨e₂, a₂, w₂, hq₂, harr₂⟩ := hq b k cs
  exact ⟨e₂, a₂, w₂, hq₂, .of_steps harr harr₂⟩
 | exit id => exact ⟨_, a₁, w₁, hq, .pass (x := .inLoop c) rfl (fun _ _ => .inl (by simp)) harr⟩
 | goto l => exact ⟨_, a₁, w₁, hq, .pass (x := .inLoop c) rfl (fun _ _ => .inl (by simp)) harr⟩
 | ret => exact ⟨_, a₁, w₁, hq, .pass (x := .inLoop c) rfl (fun _ _ => .inl (by simp)) harr⟩
 | panic ch => exact ⟨_, a₁, w₁, hq, .pass (x := .inLoop c) rfl (fun _ _ => .inl (by simp)) harr⟩
 | outgrown => exact ⟨_, a₁, w₁, hq, .pass (x := .inLoop c) rfl (fun _ _ => .inl (by simp)) harr⟩
theorem LWp.of {P : Program} {c : Code} {Q : Exit → Act → World → Prop} {a : Act} {w : World} (h : c.wp P (Exit.then (LWp P c Q) Q) a w) : LWp P c Q a w := by
 intro b k cs
 obtain ⟨e, a', w', hq, harr⟩ := loop_pass h b k cs
 exact ⟨e, a', w', hq, .of_steps (.one step_inLoop) harr⟩
theorem loop_of {P : Program} {c : Code} {Q : Exit → Act → World → Prop} {a : Act} {w : World} (h : c.wp P (Exit.then (LWp P c Q) Q) a w) : (Code.loop c).wp P Q a w := by
 intro b k cs
 obtain ⟨e, a', w', hq, harr⟩ := loop_pass h b k cs
 exact ⟨e, a', w', hq, .of_steps (.one step_loop) harr⟩
theorem LWp.mono {P : Program} {c : Code} {Q Q' : Exit → Act → World → Prop} {a : Act} {w : World} (h : LWp P c Q a w) (hq : ∀ e a w, Q e a w → Q' e a w) : LWp P c Q' a w :=
 fun b k cs => let ⟨e, a', w', q, r⟩ := h b k cs; ⟨e, a', w', hq _ _ _ q, r⟩
/-- What items come to, from an exit on. -/
def IX (P : Program) : List Itm → (Exit → Act → World → Prop) → Exit → Act → World → Prop
 | [], Q => Q
 | .code c :: l, Q => Exit.then (c.wp P (IX P l Q)) (IX P l Q)
 | .inLoop c :: l, Q => Exit.then (LWp P c (IX P l Q)) (IX P l Q)
 | .inBlock id :: l, Q => Exit.inBlock id (IX P l Q)
 | .ops os ol :: l, Q => Exit.then (wpList P os (IX P l Q) ol) (IX P l Q)
theorem IX.unw {P : Program} {Q : Exit → Act → World → Prop} {a : Act} {w : World} : ∀ (l : List Itm) (e : AExit), e ≠ .normal → IX P (unwI l e).1 Q (unwI l e).2.conv a w → IX P l Q e.conv a w
 | [], _, _, h => h
 | .code c :: l, e, he, h => by
  have h1 : IX P (unwI l e).1 Q (unwI l e).2.conv a w := by cases e <;> exact h
  have := IX.unw l e he h1
  cases e with
  | normal => exact absurd rfl he
  | exit id => exact this
  | ret => exact this
 | .inLoop c :: l, e, he, h => by
  have h1 : IX P (unwI l e).1 Q (unwI l e).2.conv a w := by cases e <;> exact h
  have := IX.unw l e he h1
  cases e with
  | normal => exact absurd rfl he
  | exit id => exact this
  | ret => exact this
 | .ops os ol :: l, e, he, h => by
  have h1 : IX P (unwI l e).1 Q (unwI l e).2.conv a w := by cases e <;> exact h
  have := IX.unw l e he h1
  cases e with
  | normal => exact absurd rfl he
  | exit id => exact this
  | ret => exact this
 | .inBlock id :: l, e, he, h => by
  cases e with
  | normal => exact absurd rfl he
  | ret => exact IX.unw l .ret he h
  | exit id' =>
   have h' : IX P (cond (Nat.beq id' id) (l, AExit.normal) (unwI l (.exit id'))).1 Q (cond (Nat.beq id' id) (l, AExit.normal) (unwI l (.exit id'))).2.conv a w := h
   show (if id' = id then IX P l Q .normal a w else IX P l Q (.exit id') a w)
   cases hb : Nat.beq id' id with
   | true =>
    rw [hb] at h'
    rw [if_pos (Nat.eq_of_beq_eq_true hb)]
    exact h'
   | false =>
    rw [hb] at h'
    rw [if_neg (fun e => by subst e; simp at hb)]
    exact IX.unw l (.exit id') he h'
def fineItm (n : Nat) : Itm → Bool
 | .code c | .inLoop c => fineC n c
 | .inBlock _ => true
 | .ops _ l => l.all (fineO n)
section
variable {P : Program} [NoFloat P] {G : Nat → Option Obj} {ι : Inj}
theorem fine_unw {n : Nat} : ∀ (l : List Itm) (e : AExit), (∀ x ∈ l, fineItm n x = true) → ∀ x ∈ (unwI l e).1, fineItm n x = true
 | [], e, _, x, hx => by cases e <;> simp [unwI] at hx
 | y :: l, e, h, x, hx => by
  have h' : ∀ x ∈ l, fineItm n x = true := fun x hx => h x (List.mem_cons_of_mem _ hx)
  cases y with
  | code c => exact fine_unw l e h' x (by cases e <;> exact hx)
  | inLoop c => exact fine_unw l e h' x (by cases e <;> exact hx)
  | ops os ol => exact fine_unw l e h' x (by cases e <;> exact hx)
  | inBlock id =>
   cases e with
   | normal => exact fine_unw l _ h' x hx
   | ret => exact fine_unw l _ h' x hx
   | exit id' =>
    have hx' : x ∈ (cond (Nat.beq id' id) (l, AExit.normal) (unwI l (.exit id'))).1 := hx
    cases hb : Nat.beq id' id with
    | true => rw [hb] at hx'; exact h' x hx'
    | false => rw [hb] at hx'; exact fine_unw l _ h' x hx'
/-- One operation of a region. -/
theorem opR_ok {ft : Nat → Option Func} (hE : @EnvOk noMarks P ft) {r : Runner} (hg : @Good (noSyms G) noMarks P r) {os : Array Oper} {o : Oper} {rest : List Oper} {A A' : Fr} {H H' : Heap} (h : opR P ft G r os [o] A H = some (A', H')) (hf : fineO P.globals.size o = true) {Q : Exit → Act → World → Prop} {ι : Inj} {a : Act} {w : World} (hw : @Rel (noSyms G) P ι H w) (hA : @FRel (noSyms G) ι A a.tmps)
  (hQ : ∀ ι1 a1 w1, Ext P ι w ι1 w1 → @Rel (noSyms G) P ι1 H' w1 → @FRel (noSyms G) ι1 A' a1.tmps → a1.defers = a.defers → wpList P os Q rest a1 w1) : wpList P os Q (o :: rest) a w := by
 letI := noSyms G
 letI : Marks := noMarks
 letI : Orc P := noOrc P G
 letI : Lps P := noLps P
 have h' : runOps P ft r os [o] A H = some (A', H') := h
 rw [runOps_cons] at h'
 unfold wpList
 by_cases hl : lookOk os A o = true
 case neg => rw [if_neg hl] at h'; simp at h'
 rw [if_pos hl, wanted_eq hA os o hl] at h'
 by_cases hwt : Region.wanted o (yielded os a.tmps) = true
 · rw [if_pos hwt] at h' ⊢
  cases hs : stepOp P ft r o A H with
  | none => rw [hs] at h'; simp at h'
  | some q =>
   obtain ⟨A1, H1⟩ := q
   rw [hs] at h'
   simp only [runOps_nil, Option.some.injEq, Prod.mk.injEq] at h'
   obtain ⟨rfl, rfl⟩ := h'
   exact .inl (stepOp_ok hE hg hs hw hA hf hl hQ)
 · rw [if_neg hwt] at h' ⊢
  cases hp : A.put o.dst undf with
  | none => rw [hp] at h'; simp at h'
  | some A1 =>
   rw [hp] at h'
   simp only [runOps_nil, Option.some.injEq, Prod.mk.injEq] at h'
   obtain ⟨rfl, rfl⟩ := h'
   exact hQ ι _ w (Ext.refl _ _) hw (hA.put VRel.undf hp) (put_defers _ _ _)
/-- ONE STEP. -/
theorem stI_ok {ft : Nat → Option Func} (hE : @EnvOk noMarks P ft) {r : Runner} (hg : @Good (noSyms G) noMarks P r) {l l' : List Itm} {A A' : Fr} {H H' : Heap} {e : AExit} (hf : ∀ x ∈ l, fineItm P.globals.size x = true) (h : stI P ft G r l A H = some (l', e, A', H'))
  {Q : Exit → Act → World → Prop} {ι : Inj} {a : Act} {w : World} (hw : @Rel (noSyms G) P ι H w) (hA : @FRel (noSyms G) ι A a.tmps)
  (hk : (∀ x ∈ l', fineItm P.globals.size x = true) → ∀ ι1 a1 w1, Ext P ι w ι1 w1 → @Rel (noSyms G) P ι1 H' w1 → @FRel (noSyms G) ι1 A' a1.tmps → a1.defers = a.defers → IX P l' Q e.conv a1 w1) : IX P l Q .normal a w := by
 letI := noSyms G
 letI : Marks := noMarks
 have leaf : ∀ (c : Code) (l : List Itm), (∀ x ∈ Itm.code c :: l, fineItm P.globals.size x = true) → (match r (.code c A) H with
  | some (.exit .normal A', H') => some (l, AExit.normal, A', H')
  | some (.exit e A', H') => some ((unwI l e).1, (unwI l e).2, A', H')
  | _ => none) = some (l', e, A', H') → IX P (.code c :: l) Q .normal a w := by
  intro c l hf h
  have hl : ∀ x ∈ l, fineItm P.globals.size x = true := fun x hx => hf x (List.mem_cons_of_mem _ hx)
  cases hr : r (.code c A) H with
  | none => rw [hr] at h; simp at h
  | some q =>
   obtain ⟨o, H1⟩ := q
   rw [hr] at h
   cases o with
   | val v => simp at h
   | exit e1 A1 =>
    refine wp_mono (hg.code _ _ _ _ _ _ hr c (.same c) (hf (.code c) List.mem_cons_self) ι a w hw hA) fun e' a' w' hpost => ?_
    obtain ⟨ι1, rfl, x1, r1, f1, d1⟩ := hpost
    cases e1 with
    | normal =>
     simp only [Option.some.injEq, Prod.mk.injEq] at h
     obtain ⟨rfl, rfl, rfl, rfl⟩ := h
     exact hk hl ι1 a' w' x1 r1 f1 d1
    | exit id =>
     simp only [Option.some.injEq, Prod.mk.injEq] at h
     obtain ⟨rfl, rfl, rfl, rfl⟩ := h
     exact IX.unw l _ (by simp) (hk (fine_unw l _ hl) ι1 a' w' x1 r1 f1 d1)
    | ret =>
     simp only [Option.some.injEq, Prod.mk.injEq] at h
     obtain ⟨rfl, rfl, rfl, rfl⟩ := h
     exact IX.unw l _ (by simp) (hk (fine_unw l _ hl) ι1 a' w' x1 r1 f1 d1)
 cases l with
 | nil => simp [stI] at h
 | cons y l =>
  have hl : ∀ x ∈ l, fineItm P.globals.size x = true := fun x hx => hf x (List.mem_cons_of_mem _ hx)
  have hy := hf y List.mem_cons_self
  cases y with
  | inBlock id =>
   simp only [stI, Option.some.injEq, Prod.mk.injEq] at h
   obtain ⟨rfl, rfl, rfl, rfl⟩ := h
   exact hk hl ι a w (Ext.refl _ _) hw hA rfl
  | inLoop c =>
   simp only [stI, Option.some.injEq, Prod.mk.injEq] at h
   obtain ⟨rfl, rfl, rfl, rfl⟩ := h
   exact LWp.of (hk (fun x hx => by
    rcases List.mem_cons.1 hx with rfl | hx
    · exact hy
    · exact hf x hx) ι a w (Ext.refl _ _) hw hA rfl)
  | ops os ol =>
   cases ol with
   | nil =>
    simp only [stI, Option.some.injEq, Prod.mk.injEq] at h
    obtain ⟨rfl, rfl, rfl, rfl⟩ := h
    exact hk hl ι a w (Ext.refl _ _) hw hA rfl
   | cons o rest =>
    simp only [stI] at h
    have hy' : (o :: rest).all (fineO P.globals.size) = true := hy
    simp only [List.all_cons, Bool.and_eq_true] at hy'
    split at h
    · rename_i A1 H1 hr
     simp only [Option.some.injEq, Prod.mk.injEq] at h
     obtain ⟨rfl, rfl, rfl, rfl⟩ := h
     exact opR_ok hE hg hr hy'.1 hw hA fun ι1 a1 w1 x1 r1 f1 d1 => hk (fun z hz => by
      rcases List.mem_cons.1 hz with rfl | hz
      · exact hy'.2
      · exact hl z hz) ι1 a1 w1 x1 r1 f1 d1
    · simp at h
  | code c =>
   cases c with
   | seq x y =>
    simp only [stI, Option.some.injEq, Prod.mk.injEq] at h
    obtain ⟨rfl, rfl, rfl, rfl⟩ := h
    have hy' : fineC P.globals.size (.seq x y) = true := hy
    simp only [fineC, Bool.and_eq_true] at hy'
    refine wp_seq (wp_mono (hk (fun z hz => by
     rcases List.mem_cons.1 hz with rfl | hz
     · exact hy'.1
     · rcases List.mem_cons.1 hz with rfl | hz
      · exact hy'.2
      · exact hl z hz) ι a w (Ext.refl _ _) hw hA rfl) fun e a w he => ?_)
    cases e <;> exact he
   | block id x =>
    simp only [stI, Option.some.injEq, Prod.mk.injEq] at h
    obtain ⟨rfl, rfl, rfl, rfl⟩ := h
    have hy' : fineC P.globals.size (.block id x) = true := hy
    simp only [fineC] at hy'
    exact wp_block (hk (fun z hz => by
     rcases List.mem_cons.1 hz with rfl | hz
     · exact hy'
     · rcases List.mem_cons.1 hz with rfl | hz
      · rfl
      · exact hl z hz) ι a w (Ext.refl _ _) hw hA rfl)
   | loop x =>
    simp only [stI, Option.some.injEq, Prod.mk.injEq] at h
    obtain ⟨rfl, rfl, rfl, rfl⟩ := h
    have hy' : fineC P.globals.size (.loop x) = true := hy
    simp only [fineC] at hy'
    exact loop_of (hk (fun z hz => by
     rcases List.mem_cons.1 hz with rfl | hz
     · exact hy'
     · rcases List.mem_cons.1 hz with rfl | hz
      · exact hy'
      · exact hl z hz) ι a w (Ext.refl _ _) hw hA rfl)
   | cond c x y =>
    have hy' : fineC P.globals.size (.cond c x y) = true := hy
    simp only [fineC, Bool.and_eq_true] at hy'
    simp only [stI] at h
    have hp : ∀ t, c = .tmp t → A.opn = false ∨ isP (A.get t) = false := by
     intro t ht
     subst ht
     right
     have e : opv A.get (.tmp t) = A.get t := rfl
     rw [e] at h
     cases hq : A.get t <;> rw [hq] at h <;> first | rfl | simp at h
    letI i3 : Orc P := noOrc P _
    letI i4 : Lps P := noLps P
    have hc := opv_rel hw hA hy'.1.1 hp
    revert hc h
    generalize opv A.get c = u
    generalize hu : a.eval c = u'
    intro h hc
    cases hc with
    | bool t =>
     simp only [Option.some.injEq, Prod.mk.injEq] at h
     obtain ⟨rfl, rfl, rfl, rfl⟩ := h
     have hk' := hk (fun z hz => by
      rcases List.mem_cons.1 hz with rfl | hz
      · cases t
       · exact hy'.2
       · exact hy'.1.2
      · exact hl z hz) ι a w (Ext.refl _ _) hw hA rfl
     exact wp_cond hu hk'
    | _ => simp at h
   | skip => exact leaf _ l hf h
   | region id ops d =>
    cases d with
    | true => exact leaf _ l hf h
    | false =>
     simp only [stI, Option.some.injEq, Prod.mk.injEq] at h
     obtain ⟨rfl, rfl, rfl, rfl⟩ := h
     have hy' : fineC P.globals.size (.region id ops false) = true := hy
     unfold fineC at hy'
     rw [Array.all_eq_true_iff_forall_mem] at hy'
     exact wp_region_list (hk (fun z hz => by
      rcases List.mem_cons.1 hz with rfl | hz
      · exact List.all_eq_true.2 fun o ho => hy' o (by simpa using ho)
      · exact hl z hz) ι a w (Ext.refl _ _) hw hA rfl)
   | rangeFunc f ps x y => exact leaf _ l hf h
   | exit id => exact leaf _ l hf h
   | scope x => exact leaf _ l hf h
   | label i => exact leaf _ l hf h
   | goto i => exact leaf _ l hf h
   | ret => exact leaf _ l hf h
   | refuse s => exact leaf _ l hf h
theorem itN_ok {ft : Nat → Option Func} (hE : @EnvOk noMarks P ft) {r : Runner} (hg : @Good (noSyms G) noMarks P r) {Q : Exit → Act → World → Prop} : ∀ (n : Nat) (l l' : List Itm) (A A' : Fr) (H H' : Heap) (e : AExit), (∀ x ∈ l, fineItm P.globals.size x = true) → itN P ft G r n l A H = some (l', e, A', H') →
  ∀ ι a w, @Rel (noSyms G) P ι H w → @FRel (noSyms G) ι A a.tmps →
  ((∀ x ∈ l', fineItm P.globals.size x = true) → ∀ ι1 a1 w1, Ext P ι w ι1 w1 → @Rel (noSyms G) P ι1 H' w1 → @FRel (noSyms G) ι1 A' a1.tmps → a1.defers = a.defers → IX P l' Q e.conv a1 w1) → IX P l Q .normal a w
 | 0, l, l', A, A', H, H', e, hf, h, ι, a, w, hw, hA, hk => by
  letI := noSyms G
  simp only [itN, Option.some.injEq, Prod.mk.injEq] at h
  obtain ⟨rfl, rfl, rfl, rfl⟩ := h
  exact hk hf ι a w (Ext.refl _ _) hw hA rfl
 | n + 1, [], l', A, A', H, H', e, hf, h, ι, a, w, hw, hA, hk => by
  letI := noSyms G
  simp only [itN, Option.some.injEq, Prod.mk.injEq] at h
  obtain ⟨rfl, rfl, rfl, rfl⟩ := h
  exact hk hf ι a w (Ext.refl _ _) hw hA rfl
 | n + 1, x :: l, l', A, A', H, H', e, hf, h, ι, a, w, hw, hA, hk => by
  letI := noSyms G
  simp only [itN] at h
  cases hs : stI P ft G r (x :: l) A H with
  | none => rw [hs] at h; simp at h
  | some q =>
   obtain ⟨l1, e1, A1, H1⟩ := q
   rw [hs] at h
   refine stI_ok hE hg hf hs hw hA fun hf1 ι1 a1 w1 x1 r1 f1 d1 => ?_
   cases e1 with
   | normal => exact itN_ok hE hg n l1 l' A1 A' H1 H' e hf1 h ι1 a1 w1 r1 f1 fun hf2 ι2 a2 w2 x2 r2 f2 d2 => hk hf2 ι2 a2 w2 (x1.trans x2) r2 f2 (d2.trans d1)
   | exit id =>
    simp only [Option.some.injEq, Prod.mk.injEq] at h
    obtain ⟨rfl, rfl, rfl, rfl⟩ := h
    exact hk hf1 ι1 a1 w1 x1 r1 f1 d1
   | ret =>
    simp only [Option.some.injEq, Prod.mk.injEq] at h
    obtain ⟨rfl, rfl, rfl, rfl⟩ := h
    exact hk hf1 ι1 a1 w1 x1 r1 f1 d1
theorem runQ_ok {ft : Nat → Option Func} (hE : @EnvOk noMarks P ft) {r : Runner} (hg : @Good (noSyms G) noMarks P r) {big : Nat} {w0 : World} {ι0 : Inj} {a0 : Act} : ∀ (ps : List (Nat × List Nat)) (l : List Itm) (A A' : Fr) (H H' : Heap) (e : AExit), (∀ x ∈ l, fineItm P.globals.size x = true) → runQ P ft G r big ps l A H = some (e, A', H') →
  ∀ ι a w, Ext P ι0 w0 ι w → a.defers = a0.defers → @Rel (noSyms G) P ι H w → @FRel (noSyms G) ι A a.tmps → IX P l (@PostC (noSyms G) P ι0 w0 a0 e A' H') .normal a w
 | [], l, A, A', H, H', e, hf, h, ι, a, w, hx, hd, hw, hA => by
  letI := noSyms G
  have h' : (match itN P ft G r big l A H with
   | some ([], e, A', H') => some (e, A', H')
   | _ => none) = some (e, A', H') := h
  cases hr : itN P ft G r big l A H with
  | none => rw [hr] at h'; simp at h'
  | some q =>
   obtain ⟨l1, e1, A1, H1⟩ := q
   rw [hr] at h'
   cases l1 with
   | cons => simp at h'
   | nil =>
    simp only [Option.some.injEq, Prod.mk.injEq] at h'
    obtain ⟨rfl, rfl, rfl⟩ := h'
    exact itN_ok hE hg big l [] A A1 H H1 e1 hf hr ι a w hw hA fun _ ι1 a1 w1 x1 r1 f1 d1 => ⟨ι1, rfl, hx.trans x1, r1, f1, d1.trans hd⟩
 | p :: ps, l, A, A', H, H', e, hf, h, ι, a, w, hx, hd, hw, hA => by
  letI := noSyms G
  have h' : (match itN P ft G r p.1 l A H with
   | some (l1, .normal, A1, H1) => runQ P ft G r big ps l1 A1 (H1.keep p.2)
   | _ => none) = some (e, A', H') := h
  cases hr : itN P ft G r p.1 l A H with
  | none => rw [hr] at h'; simp at h'
  | some q =>
   obtain ⟨l1, e1, A1, H1⟩ := q
   rw [hr] at h'
   cases e1 with
   | normal => exact itN_ok hE hg p.1 l l1 A A1 H H1 .normal hf hr ι a w hw hA fun hf1 ι1 a1 w1 x1 r1 f1 d1 => runQ_ok hE hg ps l1 A1 A' (H1.keep p.2) H' e hf1 h' ι1 a1 w1 (hx.trans x1) (d1.trans hd) (r1.keep p.2) f1
   | exit id => simp at h'
   | ret => simp at h'

/-- A step that does a body in pieces. -/
noncomputable def itemR (P : Program) (ft : Nat → Option Func) (G : Nat → Option Obj) (big : Nat) (ps : List (Nat × List Nat)) (r : Runner) : Runner
 | .code c A, H => match runQ P ft G r big ps [.code c] A H with
  | some (e, A', H') => some (.exit e A', H')
  | none => none
 | .fn f a, H => r (.fn f a) H
 | .loop c A, H => r (.loop c A) H
theorem itemR_good {ft : Nat → Option Func} (hE : @EnvOk noMarks P ft) {r : Runner} (hg : @Good (noSyms G) noMarks P r) (big : Nat) (ps : List (Nat × List Nat)) : @Good (noSyms G) noMarks P (itemR P ft G big ps r) := by
 letI := noSyms G
 letI : Marks := noMarks
 refine ⟨hg.fn, fun c A H e A' H' h => ?_, hg.loop, fun c A H v H' h => ?_, hg.noValL⟩
 · have h' : (match runQ P ft G r big ps [.code c] A H with
   | some (e, A', H') => some (Out.exit e A', H')
   | none => none) = some (.exit e A', H') := h
  cases hr : runQ P ft G r big ps [.code c] A H with
  | none => rw [hr] at h'; simp at h'
  | some q =>
   obtain ⟨e1, A1, H1⟩ := q
   rw [hr] at h'
   simp only [Option.some.injEq, Prod.mk.injEq, Out.exit.injEq] at h'
   obtain ⟨⟨rfl, rfl⟩, rfl⟩ := h'
   intro c0 hann hf ι a w hw hA
   obtain rfl := ann_eq hann
   exact runQ_ok hE hg ps [.code c] A A1 H H1 e1 (fun x hx => by obtain rfl := List.mem_singleton.1 hx; exact hf) hr ι a w (Ext.refl _ _) rfl hw hA
 · have h' : (match runQ P ft G r big ps [.code c] A H with
   | some (e, A', H') => some (Out.exit e A', H')
   | none => none) = some (.val v, H') := h
  cases hr : runQ P ft G r big ps [.code c] A H with
  | none => rw [hr] at h'; simp at h'
  | some q =>
   obtain ⟨e1, A1, H1⟩ := q
   rw [hr] at h'
   simp at h'
end
noncomputable def bodyI (ft : Nat → Option Func) (f : FuncId) : List Itm := itmsAt ft f [(0, [])]
theorem step_items [Syms] {P : Program} [NoFloat P] [Marks] [Orc P] [Lps P] {ft : Nat → Option Func} {G : Nat → Option Obj} {big : Nat} {ps : List (Nat × List Nat)} {r : Runner} {draw : Array Oper → Fr → Heap → Option (Fr × Heap)} {f : FuncId} {args : Array Value} {H : Heap} {x : Out × Heap} (h : endL P ft f (runQ P ft G r big ps (bodyI ft f) (enterL ft f args) H) = some x) (hb : ((ft f).bind (·.body)).isSome = true) :
  stepRun P ft (itemR P ft G big ps r) draw (.fn f args) H = some x := by
 unfold endL bodyI enterL itmsAt at h
 simp only [stepRun]
 cases hf : ft f with
 | none => rw [hf] at h; simp at h
 | some fn =>
  rw [hf] at h hb
  cases hc : fn.body with
  | none => simp [hc] at hb
  | some c =>
   simp only [hc, List.map_cons, List.map_nil, codePt] at h ⊢
   rw [show itemR P ft G big ps r (.code c (Fr.enter fn args)) H = (match runQ P ft G r big ps [.code c] (Fr.enter fn args) H with
    | some (e, A', H') => some (Out.exit e A', H')
    | none => none) from rfl]
   cases hr : runQ P ft G r big ps [.code c] (Fr.enter fn args) H with
   | none => rw [hr] at h; simp [finL] at h
   | some q =>
    obtain ⟨e1, A1, H1⟩ := q
    rw [hr] at h
    cases e1 <;> exact h
variable {P : Program} {ft : Nat → Option Func}
/-- A closed call, its body in pieces. -/
theorem KnOk.items [NoFloat P] (hE : EnvOk P ft) {gs : Gs} {n big : Nat} {f : FuncId} {args : Array Value} {v : Value} (hx : Kn.ok ⟨f, args, v⟩ = true) (tb : List Kn) (htb : tb.all Kn.ok = true) {L : List Itm} {A0 : Fr} (hL0 : L = bodyI ft f) (hA0 : A0 = enterL ft f args)
  (ps : List (Nat × List Nat)) (hrun : ∀ G, outEq v (endL P ft f (runQ P ft G (run0 P ft (knT tb fun _ _ => none) G n) big ps L A0 (H0g P gs))) = true) (hb : ((ft f).bind (·.body)).isSome = true) {w : World} (hw : GOk P gs w)
  (hT : ∀ y ∈ tb, KnOk P w y) : KnOk P w ⟨f, args, v⟩ := by
 subst hL0 hA0
 intro w₁ hs hgl
 unfold Kn.ok at hx
 rw [Bool.and_eq_true] at hx
 have hw1 : GOk P gs w₁ := @GOk.of (noSyms fun _ => none) _ _ _ _ hw hs hgl
 have hr := hrun fun b => w₁.heap[b]?
 letI i1 := noSyms fun b => w₁.heap[b]?
 letI i2 : Marks := noMarks
 letI i3 : Orc P := noOrc P _
 letI i4 : Lps P := noLps P
 have hK : KOk P (knT tb fun _ _ => none) := @knT_ok P (fun b => w₁.heap[b]?) w (fun b hb => hgl b hb) _ (@noK (noSyms fun b => w₁.heap[b]?) P) tb htb hT
 have hL : LpsOk P := fun _ _ _ _ _ _ _ _ h => by simp at h
 have hg : Good P (runK P ft (knT tb fun _ _ => none) n) := runK_good hE hL hK n
 have hg2 : Good P (stepRun P ft (itemR P ft (fun b => w₁.heap[b]?) big ps (runK P ft (knT tb fun _ _ => none) n)) (drawRun2 P ft (itemR P ft (fun b => w₁.heap[b]?) big ps (runK P ft (knT tb fun _ _ => none) n)))) := Good.step hE hL (itemR_good hE hg big ps) (drawRun2_ok hE (itemR_good hE hg big ps))
 cases he : endL P ft f (runQ P ft (fun b => w₁.heap[b]?) (run0 P ft (knT tb fun _ _ => none) (fun b => w₁.heap[b]?) n) big ps (bodyI ft f) (enterL ft f args) (H0g P gs)) with
 | none => rw [he] at hr; simp [outEq] at hr
 | some q =>
  obtain ⟨out, H'⟩ := q
  rw [he] at hr
  cases out with
  | exit e A => simp [outEq] at hr
  | val u =>
   have hu : u = v := veq_ok hr
   subst hu
   refine Calls.mono (callR hg2 (args := args) (fun ι => plainAs_rel hx.1) (step_items he hb) w₁ hw1 ⟨fun _ _ => rfl, fun _ _ h => by simp at h⟩) fun e w' hh => ?_
   obtain ⟨ι', v', rfl, q1, x1⟩ := hh
   rw [plainA_eq hx.2 q1]
   exact ⟨rfl, x1⟩
end Go.Ev
/-
 The evaluator: known calls, grouped by function, looked up from the last argument on; and closed calls over such a table. Conditions: EnvOk; the variables hold what is known of them.
-/
namespace Go.Ev
open Go.RowKit
set_option linter.unusedSectionVars false

abbrev KnG := List (FuncId × List (List Value × Value))
def knGa : List (List Value × Value) → List Value → Option Value
 | [], _ => none
 | e :: r, x => cond (knT.veqAs x e.1) (some e.2) (knGa r x)
def knG : KnG → FuncId → Array Value → Option Value
 | [], _, _ => none
 | g :: r, f, args => cond (Nat.beq f g.1) (knGa g.2 args.toList.reverse) (knG r f args)
/-- Its entries, in a row. -/
def flatG : KnG → List Kn
 | [] => []
 | g :: r => g.2.map (fun e => ⟨g.1, e.1.reverse.toArray, e.2⟩) ++ flatG r
theorem knGa_ok : ∀ {es : List (List Value × Value)} {x : List Value} {v : Value}, knGa es x = some v → ∃ e ∈ es, e.1 = x ∧ e.2 = v
 | [], _, _, h => by simp [knGa] at h
 | e :: r, x, v, h => by
  have h' : cond (knT.veqAs x e.1) (some e.2) (knGa r x) = some v := h
  cases hv : knT.veqAs x e.1 with
  | true =>
   rw [hv] at h'
   simp only [cond_true, Option.some.injEq] at h'
   exact ⟨e, List.mem_cons_self, (veqAs_ok hv).symm, h'⟩
  | false =>
   rw [hv] at h'
   obtain ⟨y, hy, q⟩ := knGa_ok (show knGa r x = some v from h')
   exact ⟨y, List.mem_cons_of_mem _ hy, q⟩
theorem knG_entry : ∀ {tb : KnG} {f : FuncId} {args : Array Value} {v : Value}, knG tb f args = some v → ∃ x ∈ flatG tb, x.f = f ∧ x.args = args ∧ x.v = v
 | [], _, _, _, h => by simp [knG] at h
 | g :: r, f, args, v, h => by
  have h' : cond (Nat.beq f g.1) (knGa g.2 args.toList.reverse) (knG r f args) = some v := h
  cases hb : Nat.beq f g.1 with
  | true =>
   rw [hb] at h'
   obtain ⟨e, he, q1, q2⟩ := knGa_ok (show knGa g.2 args.toList.reverse = some v from h')
   refine ⟨⟨g.1, e.1.reverse.toArray, e.2⟩, List.mem_append_left _ (List.mem_map.2 ⟨e, he, rfl⟩), (Nat.eq_of_beq_eq_true hb).symm, ?_, q2⟩
   show e.1.reverse.toArray = args
   rw [q1]
   simp
  | false =>
   rw [hb] at h'
   obtain ⟨x, hx, q⟩ := knG_entry (show knG r f args = some v from h')
   exact ⟨x, List.mem_append_right _ hx, q⟩
variable {P : Program} {ft : Nat → Option Func}
theorem knG_ok {G : Nat → Option Obj} {w : World} (hG : ∀ b, b < P.globals.size → G b = w.heap[b]?) (tb : KnG) (hp : (flatG tb).all Kn.ok = true) (hx : ∀ x ∈ flatG tb, KnOk P w x) : @KOk (noSyms G) P (knG tb) := by
 intro f args v h ι H args' w₁ hw ha
 letI := noSyms G
 obtain ⟨x, hm, rfl, rfl, rfl⟩ := knG_entry h
 rw [List.all_eq_true] at hp
 have hp1 := hp x hm
 unfold Kn.ok at hp1
 rw [Bool.and_eq_true] at hp1
 obtain rfl := @plainAs_eq (noSyms G) _ _ _ hp1.1 ha
 refine Calls.mono (hx x hm w₁ ?_ ?_) fun e w' ⟨h1, xq⟩ => ?_
 · have := @Rel.gsize (noSyms G) P ι H w₁ hw; have := @Rel.room (noSyms G) P ι H w₁ hw; omega
 · intro b hb
  rw [(@Rel.glb (noSyms G) P ι H w₁ hw).1 b hb]
  exact hG b hb
 · exact ⟨ι, x.v, h1, @Quiet.ext (noSyms G) P _ _ xq ι, @Quiet.rel (noSyms G) P _ _ xq ι H hw, @plainA_rel (noSyms G) ι _ hp1.2⟩
/-- An entry by a run over a table. -/
theorem KnOk.runG [NoFloat P] (hE : EnvOk P ft) {gs : Gs} {n : Nat} {x : Kn} (hx : x.ok = true) (tb : KnG) (htb : (flatG tb).all Kn.ok = true) (hrun : ∀ G, outEq x.v (run0 P ft (knG tb) G n (.fn x.f x.args) (H0g P gs)) = true) {w : World} (hw : GOk P gs w)
  (hT : ∀ y ∈ flatG tb, KnOk P w y) : KnOk P w x := by
 intro w₁ hs hg
 unfold Kn.ok at hx
 rw [Bool.and_eq_true] at hx
 exact closedV hE hx.1 hx.2 w₁ (@knG_ok P (fun b => w₁.heap[b]?) w (fun b hb => hg b hb) tb htb hT) hrun (@GOk.of (noSyms fun _ => none) _ _ _ _ hw hs hg)
/-- A closed call, its body in pieces. -/
theorem KnOk.itemsG [NoFloat P] (hE : EnvOk P ft) {gs : Gs} {n big : Nat} {f : FuncId} {args : Array Value} {v : Value} (hx : Kn.ok ⟨f, args, v⟩ = true) (tb : KnG) (htb : (flatG tb).all Kn.ok = true) {L : List Itm} {A0 : Fr} (hL0 : L = bodyI ft f) (hA0 : A0 = enterL ft f args)
  (ps : List (Nat × List Nat)) (hrun : ∀ G, outEq v (endL P ft f (runQ P ft G (run0 P ft (knG tb) G n) big ps L A0 (H0g P gs))) = true) (hb : ((ft f).bind (·.body)).isSome = true) {w : World} (hw : GOk P gs w)
  (hT : ∀ y ∈ flatG tb, KnOk P w y) : KnOk P w ⟨f, args, v⟩ := by
 subst hL0 hA0
 intro w₁ hs hgl
 unfold Kn.ok at hx
 rw [Bool.and_eq_true] at hx
 have hw1 : GOk P gs w₁ := @GOk.of (noSyms fun _ => none) _ _ _ _ hw hs hgl
 have hr := hrun fun b => w₁.heap[b]?
 letI i1 := noSyms fun b => w₁.heap[b]?
 letI i2 : Marks := noMarks
 letI i3 : Orc P := noOrc P _
 letI i4 : Lps P := noLps P
 have hK : KOk P (knG tb) := @knG_ok P (fun b => w₁.heap[b]?) w (fun b hb => hgl b hb) tb htb hT
 have hL : LpsOk P := fun _ _ _ _ _ _ _ _ h => by simp at h
 have hg : Good P (runK P ft (knG tb) n) := runK_good hE hL hK n
 have hg2 : Good P (stepRun P ft (itemR P ft (fun b => w₁.heap[b]?) big ps (runK P ft (knG tb) n)) (drawRun2 P ft (itemR P ft (fun b => w₁.heap[b]?) big ps (runK P ft (knG tb) n)))) := Good.step hE hL (itemR_good hE hg big ps) (drawRun2_ok hE (itemR_good hE hg big ps))
 cases he : endL P ft f (runQ P ft (fun b => w₁.heap[b]?) (run0 P ft (knG tb) (fun b => w₁.heap[b]?) n) big ps (bodyI ft f) (enterL ft f args) (H0g P gs)) with
 | none => rw [he] at hr; simp [outEq] at hr
 | some q =>
  obtain ⟨out, H'⟩ := q
  rw [he] at hr
  cases out with
  | exit e A => simp [outEq] at hr
  | val u =>
   have hu : u = v := veq_ok hr
   subst hu
   refine Calls.mono (callR hg2 (args := args) (fun ι => plainAs_rel hx.1) (step_items he hb) w₁ hw1 ⟨fun _ _ => rfl, fun _ _ h => by simp at h⟩) fun e w' hh => ?_
   obtain ⟨ι', v', rfl, q1, x1⟩ := hh
   rw [plainA_eq hx.2 q1]
   exact ⟨rfl, x1⟩
end Go.Ev
/-
 Calls that are known ahead: each entry by a run of its own. Condition: the variable holds its table.
-/
namespace Go.Proofs.YtgokpcaijabhoaaDoor
open Go.Ev Go.RowKit
set_option maxRecDepth 100000
abbrev val1 : Value := .agg #[.int .i64 1, .int .i64 2, .int .i64 0, .int .i64 0]
abbrev val4 : Value := .agg #[.int .i64 4, .int .i64 1, .int .i64 0, .int .i64 0]
abbrev val5 : Value := .agg #[.int .i64 1, .int .i64 1, .int .i64 0, .int .i64 0]
abbrev val7 : Value := .agg #[.int .i64 8, .int .i64 8, .int .i64 8, .int .i64 16, .int .i64 16, .int .i64 4, .int .i64 24, .int .i64 8, .int .i64 2, .int .i64 32, .int .i64 32, .int .i64 2]
abbrev val8 : Value := .agg #[.int .u8 0, .bool false, .int .i64 0, .int .u32 0]
abbrev val9 : Value := .agg #[.int .u8 2, .bool true, .int .i64 2, .int .u32 1]
abbrev val10 : Value := .agg #[.int .u8 0, .bool true, .int .i64 2, .int .u32 1]
abbrev val11 : Value := .agg #[.int .u8 1, .bool true, .int .i64 2, .int .u32 1]
abbrev val12 : Value := .agg #[.int .u8 3, .bool true, .int .i64 2, .int .u32 1]
abbrev val13 : Value := .agg #[.int .i64 3, .int .i64 1, .int .i64 2, .int .i64 0]
def kn0 : Kn := ⟨65, #[.int .i64 2], .int .i64 1⟩
def kn1 : Kn := ⟨86, #[.int .u64 17], val1⟩
def kn2 : Kn := ⟨39, #[.int .i64 0, .int .i64 1], .int .i64 0⟩
def kn3 : Kn := ⟨65, #[.int .i64 1], .int .i64 0⟩
def kn4 : Kn := ⟨86, #[.int .u64 12], val4⟩
def kn5 : Kn := ⟨86, #[.int .u64 9], val5⟩
def kn6 : Kn := ⟨39, #[.int .i64 1, .int .i64 1], .int .i64 1⟩
def kn7 : Kn := ⟨21, #[], val7⟩
def kn8 : Kn := ⟨8, #[.int .u64 0], val8⟩
def kn9 : Kn := ⟨8, #[.int .u64 4294968066], val9⟩
def kn10 : Kn := ⟨8, #[.int .u64 4294968064], val10⟩
def kn11 : Kn := ⟨8, #[.int .u64 4294968065], val11⟩
def kn12 : Kn := ⟨8, #[.int .u64 4294968067], val12⟩
def kn13 : Kn := ⟨86, #[.int .u64 16395], val13⟩
theorem kn0_run (t : TypeId) (G : Nat → Option Obj) : outEq kn0.v (run0 Tryd.prog (ftOf Tryd.prog) (fun _ _ => none) G 100000 (.fn kn0.f kn0.args) (H0g Tryd.prog (gsT t))) = true := by kernel_rfl
theorem kn0_ok {t : TypeId} {w : World} (hw : GOk Tryd.prog (gsT t) w) : KnOk Tryd.prog w kn0 := KnOk.run env (by kernel_rfl) (fun G => kn0_run t G) hw
theorem kn1_run (t : TypeId) (G : Nat → Option Obj) : outEq kn1.v (run0 Tryd.prog (ftOf Tryd.prog) (fun _ _ => none) G 100000 (.fn kn1.f kn1.args) (H0g Tryd.prog (gsT t))) = true := by kernel_rfl
theorem kn1_ok {t : TypeId} {w : World} (hw : GOk Tryd.prog (gsT t) w) : KnOk Tryd.prog w kn1 := KnOk.run env (by kernel_rfl) (fun G => kn1_run t G) hw
theorem kn2_run (t : TypeId) (G : Nat → Option Obj) : outEq kn2.v (run0 Tryd.prog (ftOf Tryd.prog) (fun _ _ => none) G 100000 (.fn kn2.f kn2.args) (H0g Tryd.prog (gsT t))) = true := by kernel_rfl
theorem kn2_ok {t : TypeId} {w : World} (hw : GOk Tryd.prog (gsT t) w) : KnOk Tryd.prog w kn2 := KnOk.run env (by kernel_rfl) (fun G => kn2_run t G) hw
theorem kn3_run (t : TypeId) (G : Nat → Option Obj) : outEq kn3.v (run0 Tryd.prog (ftOf Tryd.prog) (fun _ _ => none) G 100000 (.fn kn3.f kn3.args) (H0g Tryd.prog (gsT t))) = true := by kernel_rfl
theorem kn3_ok {t : TypeId} {w : World} (hw : GOk Tryd.prog (gsT t) w) : KnOk Tryd.prog w kn3 := KnOk.run env (by kernel_rfl) (fun G => kn3_run t G) hw
theorem kn4_run (t : TypeId) (G : Nat → Option Obj) : outEq kn4.v (run0 Tryd.prog (ftOf Tryd.prog) (fun _ _ => none) G 100000 (.fn kn4.f kn4.args) (H0g Tryd.prog (gsT t))) = true := by kernel_rfl
theorem kn4_ok {t : TypeId} {w : World} (hw : GOk Tryd.prog (gsT t) w) : KnOk Tryd.prog w kn4 := KnOk.run env (by kernel_rfl) (fun G => kn4_run t G) hw
theorem kn5_run (t : TypeId) (G : Nat → Option Obj) : outEq kn5.v (run0 Tryd.prog (ftOf Tryd.prog) (fun _ _ => none) G 100000 (.fn kn5.f kn5.args) (H0g Tryd.prog (gsT t))) = true := by kernel_rfl
theorem kn5_ok {t : TypeId} {w : World} (hw : GOk Tryd.prog (gsT t) w) : KnOk Tryd.prog w kn5 := KnOk.run env (by kernel_rfl) (fun G => kn5_run t G) hw
theorem kn6_run (t : TypeId) (G : Nat → Option Obj) : outEq kn6.v (run0 Tryd.prog (ftOf Tryd.prog) (fun _ _ => none) G 100000 (.fn kn6.f kn6.args) (H0g Tryd.prog (gsT t))) = true := by kernel_rfl
theorem kn6_ok {t : TypeId} {w : World} (hw : GOk Tryd.prog (gsT t) w) : KnOk Tryd.prog w kn6 := KnOk.run env (by kernel_rfl) (fun G => kn6_run t G) hw
theorem kn7_run (t : TypeId) (G : Nat → Option Obj) : outEq kn7.v (run0 Tryd.prog (ftOf Tryd.prog) (fun _ _ => none) G 100000 (.fn kn7.f kn7.args) (H0g Tryd.prog (gsT t))) = true := by kernel_rfl
theorem kn7_ok {t : TypeId} {w : World} (hw : GOk Tryd.prog (gsT t) w) : KnOk Tryd.prog w kn7 := KnOk.run env (by kernel_rfl) (fun G => kn7_run t G) hw
theorem kn8_run (t : TypeId) (G : Nat → Option Obj) : outEq kn8.v (run0 Tryd.prog (ftOf Tryd.prog) (fun _ _ => none) G 100000 (.fn kn8.f kn8.args) (H0g Tryd.prog (gsT t))) = true := by kernel_rfl
theorem kn8_ok {t : TypeId} {w : World} (hw : GOk Tryd.prog (gsT t) w) : KnOk Tryd.prog w kn8 := KnOk.run env (by kernel_rfl) (fun G => kn8_run t G) hw
theorem kn9_run (t : TypeId) (G : Nat → Option Obj) : outEq kn9.v (run0 Tryd.prog (ftOf Tryd.prog) (fun _ _ => none) G 100000 (.fn kn9.f kn9.args) (H0g Tryd.prog (gsT t))) = true := by kernel_rfl
theorem kn9_ok {t : TypeId} {w : World} (hw : GOk Tryd.prog (gsT t) w) : KnOk Tryd.prog w kn9 := KnOk.run env (by kernel_rfl) (fun G => kn9_run t G) hw
theorem kn10_run (t : TypeId) (G : Nat → Option Obj) : outEq kn10.v (run0 Tryd.prog (ftOf Tryd.prog) (fun _ _ => none) G 100000 (.fn kn10.f kn10.args) (H0g Tryd.prog (gsT t))) = true := by kernel_rfl
theorem kn10_ok {t : TypeId} {w : World} (hw : GOk Tryd.prog (gsT t) w) : KnOk Tryd.prog w kn10 := KnOk.run env (by kernel_rfl) (fun G => kn10_run t G) hw
theorem kn11_run (t : TypeId) (G : Nat → Option Obj) : outEq kn11.v (run0 Tryd.prog (ftOf Tryd.prog) (fun _ _ => none) G 100000 (.fn kn11.f kn11.args) (H0g Tryd.prog (gsT t))) = true := by kernel_rfl
theorem kn11_ok {t : TypeId} {w : World} (hw : GOk Tryd.prog (gsT t) w) : KnOk Tryd.prog w kn11 := KnOk.run env (by kernel_rfl) (fun G => kn11_run t G) hw
theorem kn12_run (t : TypeId) (G : Nat → Option Obj) : outEq kn12.v (run0 Tryd.prog (ftOf Tryd.prog) (fun _ _ => none) G 100000 (.fn kn12.f kn12.args) (H0g Tryd.prog (gsT t))) = true := by kernel_rfl
theorem kn12_ok {t : TypeId} {w : World} (hw : GOk Tryd.prog (gsT t) w) : KnOk Tryd.prog w kn12 := KnOk.run env (by kernel_rfl) (fun G => kn12_run t G) hw
theorem kn13_run (t : TypeId) (G : Nat → Option Obj) : outEq kn13.v (run0 Tryd.prog (ftOf Tryd.prog) (fun _ _ => none) G 100000 (.fn kn13.f kn13.args) (H0g Tryd.prog (gsT t))) = true := by kernel_rfl
theorem kn13_ok {t : TypeId} {w : World} (hw : GOk Tryd.prog (gsT t) w) : KnOk Tryd.prog w kn13 := KnOk.run env (by kernel_rfl) (fun G => kn13_run t G) hw
def kng : KnG := [(65, [([.int .i64 2], .int .i64 1), ([.int .i64 1], .int .i64 0)]), (86, [([.int .u64 17], val1), ([.int .u64 12], val4), ([.int .u64 9], val5), ([.int .u64 16395], val13)]), (39, [([.int .i64 1, .int .i64 0], .int .i64 0), ([.int .i64 1, .int .i64 1], .int .i64 1)]), (21, [([], val7)]), (8, [([.int .u64 0], val8), ([.int .u64 4294968066], val9), ([.int .u64 4294968064], val10), ([.int .u64 4294968065], val11), ([.int .u64 4294968067], val12)])]
def kns : List Kn := [kn0, kn3, kn1, kn4, kn5, kn13, kn2, kn6, kn7, kn8, kn9, kn10, kn11, kn12]
theorem kng_flat : flatG kng = kns := by kernel_rfl
theorem fcons {p : Kn → Prop} {x : Kn} {l : List Kn} (h : p x) (t : ∀ y ∈ l, p y) : ∀ y ∈ x :: l, p y := List.forall_mem_cons.2 ⟨h, t⟩
theorem kng_ok {t : TypeId} {w : World} (hw : GOk Tryd.prog (gsT t) w) : ∀ x ∈ flatG kng, KnOk Tryd.prog w x := by
 rw [kng_flat]
 unfold kns
 refine fcons (kn0_ok hw) ?_
 refine fcons (kn3_ok hw) ?_
 refine fcons (kn1_ok hw) ?_
 refine fcons (kn4_ok hw) ?_
 refine fcons (kn5_ok hw) ?_
 refine fcons (kn13_ok hw) ?_
 refine fcons (kn2_ok hw) ?_
 refine fcons (kn6_ok hw) ?_
 refine fcons (kn7_ok hw) ?_
 refine fcons (kn8_ok hw) ?_
 refine fcons (kn9_ok hw) ?_
 refine fcons (kn10_ok hw) ?_
 refine fcons (kn11_ok hw) ?_
 refine fcons (kn12_ok hw) ?_
 exact fun _ h => absurd h List.not_mem_nil
end Go.Proofs.YtgokpcaijabhoaaDoor
/-
 The evaluator: states between pieces said by what has changed. No condition.
-/
namespace Go.Ev
set_option linter.unusedSectionVars false
/-- A block as it was but for some cells; or another one. -/
inductive BUp where
 | set (l : List (Nat × Value))
 | all (b : Blk)
noncomputable def Fr.upd (A : Fr) (l : List (Nat × Value)) : Fr := { A with m := l.foldl (fun m p => m.set p.1 (some p.2)) A.m }
noncomputable def bupd (b : Option Blk) : BUp → Option Blk
 | .all b' => some b'
 | .set l => match b with
  | some (.cells c) => some (.cells { c with m := l.foldl (fun m p => m.set p.1 (some p.2)) c.m })
  | b => b
noncomputable def Heap.upd (H : Heap) (next : Nat) (l : List (Nat × BUp)) (live : List Nat) : Heap := { base := H.base, next := next, m := keepM (l.foldl (fun m p => m.set p.1 (bupd (m.get p.1) p.2)) H.m) live .leaf, hole := H.hole }
end Go.Ev
/-
 A closed body in pieces: piece states, between states that are written out. Condition: the variable holds its table.
-/
namespace Go.Proofs.YtgokpcaijabhoaaDoor
open Go.Ev Go.RowKit
set_option maxRecDepth 100000
noncomputable def Vw_d0 : Value := (.tuple #[(.agg #[(.int .i64 2), (.int .i64 1), (.int .i64 0), (.int .i64 1), (.int .i64 2), (.int .i64 7), (.int .i64 16), (.int .i64 17), (.int .i64 21), (.int .i64 22), (.int .i64 24), (.int .i64 26), (.int .i64 28), (.int .i64 44), (.int .i64 60), (.int .i64 68), (.int .i64 72), (.int .i64 74), (.int .i64 75), (.int .i64 79), (.int .i64 96), (.int .i64 232)]), (.pointer (some ⟨88, 0, none⟩)), (.pointer (some ⟨90, 0, none⟩))])
noncomputable def Vw_d1 : T Value := (.node (some Vw_d0) (.node (some (.tuple #[(.int .i64 1), (.int .i64 8)])) .leaf .leaf) (.node (some (.bool true)) .leaf .leaf))
noncomputable def Vw_d2 : T Value := (.node (some (.pointer (some ⟨90, 0, none⟩))) (.node (some (.int .i64 1)) .leaf .leaf) (.node (some (.bool true)) .leaf .leaf))
noncomputable def Vw_d3 : Value := (.agg #[(.int .i64 2), (.int .i64 1), (.int .i64 0), (.int .i64 1), (.int .i64 2), (.int .i64 7), (.int .i64 16), (.int .i64 17), (.int .i64 21), (.int .i64 22), (.int .i64 24), (.int .i64 26), (.int .i64 28), (.int .i64 44), (.int .i64 60), (.int .i64 68), (.int .i64 72), (.int .i64 74), (.int .i64 75), (.int .i64 79), (.int .i64 96), (.int .i64 232)])
noncomputable def Vw_d4 : T Value := (.node (some (.int .i64 8)) (.node (some (.pointer (some ⟨88, 0, none⟩))) (.node (some Vw_d3) .leaf .leaf) (.node (some (.bool true)) .leaf .leaf)) (.node (some Vw_d3) (.node (some (.int .i64 1)) .leaf .leaf) (.node (some Vw_d3) .leaf .leaf)))
noncomputable def Vw_d5 : T Value := (.node (some (.iface 26 (.pointer (some ⟨90, 0, none⟩)))) (.node (some (.int .i64 8)) .leaf .leaf) (.node (some (.pointer (some ⟨90, 0, none⟩))) .leaf .leaf))
noncomputable def Vw_d6 : T Value := (.node (some (.int .i64 1)) (.node (some Vw_d3) (.node (some (.pointer (some ⟨90, 0, none⟩))) .leaf .leaf) (.node (some (.int .i64 8)) .leaf .leaf)) Vw_d5)
noncomputable def Vw_d7 : T Value := (.node (some (.pointer (some ⟨90, 0, none⟩))) (.node (some (.tuple #[(.int .i64 1), (.int .i64 8)])) .leaf .leaf) (.node (some (.bool true)) .leaf .leaf))
noncomputable def Vw_d8 : T Value := (.node (some Vw_d0) Vw_d7 (.node (some (.tuple #[(.int .i64 0), (.bool true)])) (.node (some (.bool true)) .leaf .leaf) .leaf))
noncomputable def Vw_d9 : T Value := (.node (some (.bool false)) (.node (some (.pointer (some ⟨134, 0, none⟩))) (.node (some (.pointer (some ⟨90, 0, none⟩))) Vw_d1 Vw_d2) Vw_d4) (.node (some (.pointer (some ⟨88, 0, none⟩))) Vw_d6 Vw_d8))
noncomputable def Vw_d10 : T Blk := (.node none .leaf (.node none .leaf (.node none (.node (some (.cells ⟨128, .leaf, (.int .u8 0), 5, false, 1, 0⟩)) .leaf .leaf) .leaf)))
noncomputable def Vw_d11 : T Value := (.node (some (.slice (some ⟨86, 0, none⟩) 232 232)) (.node (some (.slice (some ⟨87, 0, none⟩) 128 128)) .leaf .leaf) .leaf)
noncomputable def Vw_d12 : T Blk := (.node none .leaf (.node none .leaf (.node none (.node (some (.cells ⟨2, Vw_d11, (.tuple #[]), 116, false, 1, 0⟩)) .leaf .leaf) .leaf)))
noncomputable def Vw_d13 : T Value := (.node (some (.int .i64 17)) (.node (some (.int .i64 0)) (.node (some (.int .u64 0)) .leaf .leaf) (.node (some (.int .i64 0)) .leaf .leaf)) (.node (some (.int .u8 0)) (.node (some (.int .u64 0)) .leaf .leaf) (.node (some (.int .i64 0)) .leaf .leaf)))
noncomputable def Vw_d14 : T Value := (.node (some (.int .i64 0)) (.node (some (.int .i64 0)) (.node (some (.int .u64 0)) .leaf .leaf) (.node (some (.int .i64 0)) .leaf .leaf)) (.node (some (.int .u64 0)) (.node (some (.int .u64 0)) .leaf .leaf) (.node (some (.bool false)) .leaf .leaf)))
noncomputable def Vw_d15 : Blk := (.cells ⟨15, (.node (some (.pointer (some ⟨88, 0, none⟩))) Vw_d13 Vw_d14), (.tuple #[]), 88, false, 1, 0⟩)
noncomputable def Vw_d16 : T Value := (.node (some (.int .i64 1)) (.node (some (.int .i64 17)) (.node (some (.int .i64 68)) .leaf .leaf) .leaf) (.node (some (.int .i64 26)) (.node (some (.int .i64 79)) .leaf .leaf) .leaf))
noncomputable def Vw_d17 : T Value := (.node (some (.int .i64 7)) (.node (some (.int .i64 22)) (.node (some (.int .i64 74)) .leaf .leaf) .leaf) (.node (some (.int .i64 44)) (.node (some (.int .i64 232)) .leaf .leaf) .leaf))
noncomputable def Vw_d18 : T Value := (.node (some (.int .i64 2)) (.node (some (.int .i64 21)) (.node (some (.int .i64 72)) .leaf .leaf) .leaf) (.node (some (.int .i64 28)) (.node (some (.int .i64 96)) .leaf .leaf) .leaf))
noncomputable def Vw_d19 : T Value := (.node (some (.int .i64 16)) (.node (some (.int .i64 24)) (.node (some (.int .i64 75)) .leaf .leaf) .leaf) (.node (some (.int .i64 60)) .leaf .leaf))
noncomputable def Vw_d20 : Blk := (.cells ⟨22, (.node (some (.int .i64 2)) (.node (some (.int .i64 1)) Vw_d16 Vw_d17) (.node (some (.int .i64 0)) Vw_d18 Vw_d19)), (.tuple #[]), 24, false, 1, 0⟩)
noncomputable def Vw_d21 : T Value := (.node none (.node none (.node (some (.int .u64 0)) .leaf (.node (some (.int .u64 16395)) .leaf .leaf)) .leaf) (.node none (.node none .leaf (.node (some (.int .u64 4294968066)) .leaf .leaf)) .leaf))
noncomputable def Vw_d22 : T Value := (.node none (.node none (.node (some (.int .u64 0)) .leaf .leaf) .leaf) (.node none .leaf (.node none (.node (some (.int .u64 12)) .leaf .leaf) .leaf)))
noncomputable def Vw_d23 : Blk := (.cells ⟨232, (.node none Vw_d21 Vw_d22), (.int .u64 0), 39, false, 1, 0⟩)
noncomputable def Vw_d24 : T Blk := (.node none (.node none (.node none (.node (some Vw_d20) .leaf .leaf) .leaf) .leaf) (.node none (.node (some Vw_d23) .leaf .leaf) .leaf))
noncomputable def Vw_d25 : T Blk := (.node none (.node none .leaf (.node none .leaf (.node none (.node (some Vw_d15) .leaf .leaf) .leaf))) (.node none Vw_d24 .leaf))
noncomputable def Vw_A1 : Fr := { size := 82, m := Vw_d9, opn := false }
noncomputable def Vw_H1 (t : TypeId) : Heap := { base := 1, next := 355, m := (.node (some (.cells (mkCells tab t))) (.node none (.node none Vw_d10 .leaf) .leaf) (.node none (.node none Vw_d12 .leaf) Vw_d25)), hole := [] }
def Vw_p0 : Nat × List Nat := (45, [0, 86, 87, 88, 90, 134])
noncomputable def Vw_d26 : T Value := (.node (some (.tuple #[(.int .i64 1), (.int .i64 8)])) (.node (some (.bool true)) (.node (some (.bool true)) .leaf .leaf) .leaf) (.node (some (.bool true)) .leaf .leaf))
noncomputable def Vw_d27 : T Value := (.node (some (.iface 26 (.pointer (some ⟨90, 0, none⟩)))) (.node (some (.pointer (some ⟨90, 0, none⟩))) .leaf .leaf) .leaf)
noncomputable def Vw_d28 : T Value := (.node (some (.int .i64 1)) (.node (some (.bool true)) (.node (some (.bool false)) .leaf .leaf) .leaf) (.node (some (.iface 26 (.pointer (some ⟨90, 0, none⟩)))) .leaf .leaf))
noncomputable def Vw_d29 : T Value := (.node (some (.bool true)) (.node (some (.bool true)) .leaf .leaf) (.node (some (.iface 26 (.pointer (some ⟨90, 0, none⟩)))) .leaf .leaf))
noncomputable def Vw_d30 : T Value := (.node (some (.pointer (some ⟨90, 0, none⟩))) (.node (some Vw_d0) Vw_d26 (.node (some (.bool true)) Vw_d27 (.node (some (.bool true)) .leaf .leaf))) (.node (some (.pointer (some ⟨90, 0, none⟩))) Vw_d28 Vw_d29))
noncomputable def Vw_d31 : T Value := (.node (some (.pointer (some ⟨90, 0, none⟩))) (.node (some (.iface 26 (.pointer (some ⟨90, 0, none⟩)))) .leaf .leaf) .leaf)
noncomputable def Vw_d32 : T Value := (.node (some (.bool true)) (.node (some (.bool true)) (.node (some Vw_d3) .leaf .leaf) .leaf) (.node (some (.bool true)) .leaf .leaf))
noncomputable def Vw_d33 : T Value := (.node (some (.pointer (some ⟨88, 0, none⟩))) (.node (some Vw_d3) Vw_d31 (.node (some (.bool true)) .leaf .leaf)) Vw_d32)
noncomputable def Vw_d34 : T Value := (.node (some (.int .i64 1)) (.node (some (.bool true)) (.node (some (.bool true)) .leaf .leaf) .leaf) (.node (some (.slice (some ⟨587, 0, none⟩) 2 2)) .leaf .leaf))
noncomputable def Vw_d35 : T Value := (.node (some Vw_d3) (.node (some (.iface 26 (.pointer (some ⟨90, 0, none⟩)))) .leaf .leaf) (.node (some (.bool true)) .leaf .leaf))
noncomputable def Vw_d36 : T Value := (.node (some (.pointer (some ⟨134, 0, none⟩))) Vw_d30 (.node (some (.int .i64 8)) Vw_d33 (.node (some Vw_d3) Vw_d34 Vw_d35)))
noncomputable def Vw_d37 : T Value := (.node (some (.pointer (some ⟨90, 0, none⟩))) (.node (some (.bool true)) (.node (some (.pointer (some ⟨90, 0, none⟩))) .leaf .leaf) .leaf) (.node (some (.bool true)) .leaf .leaf))
noncomputable def Vw_d38 : T Value := (.node (some (.int .i64 8)) (.node (some Vw_d3) (.node (some (.iface 26 (.pointer (some ⟨90, 0, none⟩)))) .leaf .leaf) .leaf) (.node (some (.bool true)) .leaf .leaf))
noncomputable def Vw_d39 : T Value := (.node (some (.int .i64 8)) (.node (some (.bool true)) (.node (some (.bool true)) .leaf .leaf) .leaf) (.node (some Vw_d3) .leaf .leaf))
noncomputable def Vw_d40 : T Value := (.node (some (.pointer (some ⟨90, 0, none⟩))) (.node (some (.pointer (some ⟨90, 0, none⟩))) .leaf .leaf) (.node (some Vw_d3) .leaf .leaf))
noncomputable def Vw_d41 : T Value := (.node (some (.int .i64 1)) (.node (some Vw_d3) Vw_d37 Vw_d38) (.node (some (.iface 26 (.pointer (some ⟨90, 0, none⟩)))) Vw_d39 Vw_d40))
noncomputable def Vw_d42 : T Value := (.node (some (.tuple #[(.int .i64 1), (.int .i64 8)])) (.node (some Vw_d3) (.node (some Vw_d3) .leaf .leaf) .leaf) (.node (some (.pointer (some ⟨90, 0, none⟩))) .leaf .leaf))
noncomputable def Vw_d43 : T Value := (.node (some (.bool true)) (.node (some (.bool true)) .leaf .leaf) (.node (some (.pointer (some ⟨90, 0, none⟩))) .leaf .leaf))
noncomputable def Vw_d44 : T Value := (.node (some (.bool true)) (.node (some (.pointer (some ⟨90, 0, none⟩))) (.node (some (.bool true)) .leaf .leaf) .leaf) (.node (some (.slice (some ⟨603, 0, none⟩) 2 2)) .leaf .leaf))
noncomputable def Vw_d45 : T Value := (.node (some (.tuple #[(.int .i64 0), (.bool true)])) Vw_d44 (.node (some (.bool true)) (.node (some Vw_d3) .leaf .leaf) (.node (some (.bool true)) .leaf .leaf)))
noncomputable def Vw_d46 : T Value := (.node (some (.pointer (some ⟨88, 0, none⟩))) Vw_d41 (.node (some Vw_d0) (.node (some (.pointer (some ⟨90, 0, none⟩))) Vw_d42 Vw_d43) Vw_d45))
noncomputable def Vw_d47 : Blk := (.cells ⟨2, (.node (some (.int .i64 11)) (.node (some (.int .i64 8)) .leaf .leaf) .leaf), (.tuple #[]), 3, true, 1, 0⟩)
noncomputable def Vw_d48 : Blk := (.cells ⟨2, (.node (some (.int .i64 11)) (.node (some (.int .i64 8)) .leaf .leaf) .leaf), (.tuple #[]), 3, false, 1, 0⟩)
noncomputable def Vw_d49 : T Blk := (.node none (.node none (.node none .leaf (.node none (.node none (.node (some Vw_d47) .leaf .leaf) .leaf) .leaf)) .leaf) (.node none (.node none .leaf (.node none (.node none (.node (some Vw_d48) .leaf .leaf) .leaf) .leaf)) .leaf))
noncomputable def Vw_d50 : T Value := (.node (some (.int .i64 33)) (.node (some (.int .i64 0)) (.node (some (.int .u64 0)) .leaf .leaf) (.node (some (.int .i64 0)) .leaf .leaf)) (.node (some (.int .u8 0)) (.node (some (.int .u64 0)) .leaf .leaf) (.node (some (.int .i64 0)) .leaf .leaf)))
noncomputable def Vw_d51 : Blk := (.cells ⟨15, (.node (some (.pointer (some ⟨88, 0, none⟩))) Vw_d50 Vw_d14), (.tuple #[]), 88, false, 1, 0⟩)
noncomputable def Vw_d52 : T Value := (.node none (.node (some (.int .u64 0)) .leaf (.node (some (.int .u64 16395)) (.node (some (.int .u64 9)) .leaf .leaf) .leaf)) (.node none .leaf (.node (some (.int .u64 0)) .leaf .leaf)))
noncomputable def Vw_d53 : T Value := (.node none (.node (some (.int .u64 0)) .leaf .leaf) (.node none (.node none (.node (some (.int .u64 0)) .leaf .leaf) .leaf) .leaf))
noncomputable def Vw_d54 : T Value := (.node none (.node none Vw_d52 (.node none (.node none .leaf (.node (some (.int .u64 4294968065)) .leaf .leaf)) .leaf)) (.node none Vw_d53 (.node none .leaf (.node none (.node (some (.int .u64 12)) .leaf .leaf) .leaf))))
noncomputable def Vw_d55 : T Blk := (.node none (.node none (.node none (.node (some Vw_d20) .leaf .leaf) .leaf) .leaf) (.node none (.node (some (.cells ⟨232, Vw_d54, (.int .u64 0), 39, false, 1, 0⟩)) .leaf .leaf) .leaf))
noncomputable def Vw_d56 : T Blk := (.node none (.node none .leaf (.node none .leaf (.node none (.node (some Vw_d51) .leaf .leaf) .leaf))) (.node none Vw_d55 .leaf))
noncomputable def Vw_A2 : Fr := { size := 82, m := (.node (some (.bool false)) Vw_d36 Vw_d46), opn := false }
noncomputable def Vw_H2 (t : TypeId) : Heap := { base := 1, next := 677, m := (.node (some (.cells (mkCells tab t))) (.node none (.node none Vw_d10 (.node none .leaf Vw_d49)) .leaf) (.node none (.node none Vw_d12 .leaf) Vw_d56)), hole := [] }
def Vw_p1 : Nat × List Nat := (44, [0, 86, 87, 88, 90, 134, 587, 603])
noncomputable def Vw_L0 : List Itm := bodyI (ftOf Tryd.prog) 11
noncomputable def Vw_L1 : List Itm := itmsAt (ftOf Tryd.prog) 11 [(3, [1, 1, 1, 1, 0, 9]), (0, [1, 1, 1, 1, 1])]
noncomputable def Vw_L2 : List Itm := itmsAt (ftOf Tryd.prog) 11 [(3, [1, 1, 1, 1, 0, 53]), (0, [1, 1, 1, 1, 1])]
end Go.Proofs.YtgokpcaijabhoaaDoor
/-
 A closed body in pieces: piece 0 and on, between states that are written out. Condition: the variable holds its table.
-/
namespace Go.Proofs.YtgokpcaijabhoaaDoor
open Go.Ev Go.RowKit
set_option maxRecDepth 100000
theorem Vw_r0 (t : TypeId) (G : Nat → Option Obj) : pieceI Tryd.prog (ftOf Tryd.prog) G (run0 Tryd.prog (ftOf Tryd.prog) (knG kng) G 100000) Vw_p0.1 Vw_p0.2 Vw_L0 (enterL (ftOf Tryd.prog) 11 #[]) (H0g Tryd.prog (gsT t)) = some (Vw_L1, Vw_A1, Vw_H1 t) := by kernel_rfl
theorem Vw_r1 (t : TypeId) (G : Nat → Option Obj) : pieceI Tryd.prog (ftOf Tryd.prog) G (run0 Tryd.prog (ftOf Tryd.prog) (knG kng) G 100000) Vw_p1.1 Vw_p1.2 Vw_L1 Vw_A1 (Vw_H1 t) = some (Vw_L2, Vw_A2, Vw_H2 t) := by kernel_rfl
end Go.Proofs.YtgokpcaijabhoaaDoor
/-
 A closed body in pieces: piece last, between states that are written out. Condition: the variable holds its table.
-/
namespace Go.Proofs.YtgokpcaijabhoaaDoor
open Go.Ev Go.RowKit
set_option maxRecDepth 100000
theorem Vw_e (t : TypeId) (G : Nat → Option Obj) : outEq (.bool true) (endL Tryd.prog (ftOf Tryd.prog) 11 (runQ Tryd.prog (ftOf Tryd.prog) G (run0 Tryd.prog (ftOf Tryd.prog) (knG kng) G 100000) 100000 [] Vw_L2 Vw_A2 (Vw_H2 t))) = true := by kernel_rfl
end Go.Proofs.YtgokpcaijabhoaaDoor
/-
 A closed law, its body's pieces together. Condition: the variable holds its table.
-/
namespace Go.Proofs.YtgokpcaijabhoaaDoor
open Go.Ev Go.RowKit
set_option maxRecDepth 100000
noncomputable def Vw_A0 : Fr := enterL (ftOf Tryd.prog) 11 #[]
def Vw_q2 : List (Nat × List Nat) := []
def Vw_q1 : List (Nat × List Nat) := Vw_p1 :: Vw_q2
def Vw_q0 : List (Nat × List Nat) := Vw_p0 :: Vw_q1
theorem Vw_all (t : TypeId) (G : Nat → Option Obj) : outEq (.bool true) (endL Tryd.prog (ftOf Tryd.prog) 11 (runQ Tryd.prog (ftOf Tryd.prog) G (run0 Tryd.prog (ftOf Tryd.prog) (knG kng) G 100000) 100000 Vw_q0 Vw_L0 Vw_A0 (H0g Tryd.prog (gsT t)))) = true := by
 have e0 : runQ Tryd.prog (ftOf Tryd.prog) G (run0 Tryd.prog (ftOf Tryd.prog) (knG kng) G 100000) 100000 Vw_q0 Vw_L0 Vw_A0 (H0g Tryd.prog (gsT t)) = runQ Tryd.prog (ftOf Tryd.prog) G (run0 Tryd.prog (ftOf Tryd.prog) (knG kng) G 100000) 100000 Vw_q1 Vw_L1 Vw_A1 (Vw_H1 t) := runQ_cons (Vw_r0 t G)
 have e1 : runQ Tryd.prog (ftOf Tryd.prog) G (run0 Tryd.prog (ftOf Tryd.prog) (knG kng) G 100000) 100000 Vw_q1 Vw_L1 Vw_A1 (Vw_H1 t) = runQ Tryd.prog (ftOf Tryd.prog) G (run0 Tryd.prog (ftOf Tryd.prog) (knG kng) G 100000) 100000 Vw_q2 Vw_L2 Vw_A2 (Vw_H2 t) := runQ_cons (Vw_r1 t G)
 rw [e0, e1]
 exact Vw_e t G
theorem Vw_ok {t : TypeId} {w : World} (hw : GOk Tryd.prog (gsT t) w) : KnOk Tryd.prog w ⟨11, #[], .bool true⟩ := KnOk.itemsG env (by kernel_rfl) kng (by kernel_rfl) rfl rfl Vw_q0 (fun G => Vw_all t G) (by kernel_rfl) hw (kng_ok hw)
end Go.Proofs.YtgokpcaijabhoaaDoor
