/- Texts of a proof, one behind the other. Conditions: those each says. -/
import Derived.Test.YtgokpcaijabhoaaDoorZSB1
namespace Go.Proofs.YtgokpcaijabhoaaDoor
open Go.Ev Go.RowKit
set_option maxRecDepth 100000
set_option linter.unusedVariables false
structure InvC (S : Sy) (k : Int) : Prop where
  geo : GeoS S
  k0 : 0 ≤ k
  k1 : k ≤ S.ρ 17
  h83 : S.ρ 83 = k
  e88 : S.ρ 88 = 22 + S.ρ 5 + k
  e84 : S.ρ 84 = (S.ρ 20 + k) % 4 + 1
  e85 : S.ρ 85 = (S.ρ 20 + k) % 4
  bw : ∀ j : Int, 0 ≤ j → j < S.ρ 17 → S.Φ 65 [22 + S.ρ 5 + j] = bitsW ((S.ρ 20 + j) % 4)
def alCE : List En := [.iv (.bin .mul (.lit .i64 0) (.var .i64 5)) 0, .nm (.bin .add (.lit .i64 0) (.var .i64 83)) 83, .nm (.bin .mul (.var .i64 83) (.lit .i64 1)) 83, .nm (.bin .add (.var .i64 83) (.lit .i64 0)) 83, .ds (.bin .lss (.var .i64 83) (.lit .i64 0)) false, .ds (.bin .geq (.var .i64 83) (.var .i64 5)) false, .nm (.bin .add (.var .i64 31) (.var .i64 83)) 88, .ds (.bin .lss (.var .i64 88) (.lit .i64 0)) false, .ds (.bin .geq (.var .i64 88) (.var .i64 42)) false, .ds (.bin .geq (.var .i64 88) (.lit .i64 0)) true, .ds (.bin .lss (.var .i64 88) (.var .i64 42)) true, .nm (.bin .mul (.var .i64 88) (.lit .i64 1)) 88, .nm (.bin .add (.var .i64 88) (.lit .i64 0)) 88, .ds (.bin .lss (.var .i64 83) (.var .i64 17)) true, .nm (.conv .i64 (.bin .and (.bin .shr (.app .u64 65 (.cons (.var .i64 88) .nil)) (.lit .u64 8)) (.lit .u64 7))) 84, .ds (.bin .neq (.var .i64 84) (.lit .i64 0)) true, .nm (.bin .sub (.var .i64 84) (.lit .i64 1)) 85, .nm (.bin .rem (.bin .add (.var .i64 20) (.var .i64 83)) (.lit .i64 4)) 85, .ds (.bin .neq (.var .i64 85) (.var .i64 85)) false, .ds (.bin .neq (.conv .u32 (.bin .and (.bin .shr (.app .u64 65 (.cons (.var .i64 88) .nil)) (.lit .u64 32)) (.lit .u64 4294967295))) (.lit .u32 1)) false]
def alCL : List (Nat × Value) := [(1597828503699, .int .i64 0), (25615285624963, .float .f64 42499), (1460272069874835, .float .f64 42499), (22816845990019, .float .f64 42499), (22816845990123, .bool false), (5841104083622147, .bool false), (34910920211701891, .float .f64 45059), (24191235524843, .bool false), (49543616091135747, .bool false), (24191235524867, .bool true), (49543616091135723, .bool true), (1548233000096915, .float .f64 45059), (24191235524739, .float .f64 45059), (23364364492872939, .bool true), (6291617736303094719734247404313742859263012611849010203, .float .f64 43011), (23091723897059, .bool true), (1477864255919243, .float .f64 43523), (3095952784623402778185701539, .float .f64 43523), (95709549540942051, .bool false), (464239448764780067939453788530860733226042251553104287862906364983861318886, .bool false)]
theorem alC_eq : alCL = alCE.map En.pr := by kernel_rfl
theorem alC_all : (alCE.all En.okB) = true := by kernel_rfl
set_option maxHeartbeats 4000000 in
theorem alC_h {S : Sy} {k : Int} (h : InvC S k) (hl : k < S.ρ 17) : AllH S alCE := by
  have gk0 := h.k0; have gh83 := h.h83; have ge88 := h.e88; have ge84 := h.e84; have ge85 := h.e85; have ggeo_n := h.geo.n; have ggeo_w := h.geo.w; have ggeo_c := h.geo.c; have ggeo_e31 := h.geo.e31; have ggeo_e42 := h.geo.e42
  have hd : 0 ≤ (S.ρ 20 + k) % 4 ∧ (S.ρ 20 + k) % 4 < 4 := by omega
  have hb := h.bw k gk0 hl
  rw [← ge88] at hb
  exact ⟨(sm (show (IntKind.i64.wrap ((0 : Int) * S.ρ 5)) = (0 : Int) from by rw [w_i64 (by omega) (by omega)]; omega)), (sm (show (IntKind.i64.wrap ((0 : Int) + S.ρ 83)) = S.ρ 83 from by rw [w_i64 (by omega) (by omega)]; omega)), (sm (show (IntKind.i64.wrap (S.ρ 83 * (1 : Int))) = S.ρ 83 from by rw [w_i64 (by omega) (by omega)]; omega)), (sm (show (IntKind.i64.wrap (S.ρ 83 + (0 : Int))) = S.ρ 83 from by rw [w_i64 (by omega) (by omega)]; omega)), (fls (p := S.ρ 83 < (0 : Int)) (by omega)), (fls (p := S.ρ 5 ≤ S.ρ 83) (by omega)), (sm (show (IntKind.i64.wrap (S.ρ 31 + S.ρ 83)) = S.ρ 88 from by rw [w_i64 (by omega) (by omega)]; omega)), (fls (p := S.ρ 88 < (0 : Int)) (by omega)), (fls (p := S.ρ 42 ≤ S.ρ 88) (by omega)), (tr (p := (0 : Int) ≤ S.ρ 88) (by omega)), (tr (p := S.ρ 88 < S.ρ 42) (by omega)), (sm (show (IntKind.i64.wrap (S.ρ 88 * (1 : Int))) = S.ρ 88 from by rw [w_i64 (by omega) (by omega)]; omega)), (sm (show (IntKind.i64.wrap (S.ρ 88 + (0 : Int))) = S.ρ 88 from by rw [w_i64 (by omega) (by omega)]; omega)), (tr (p := S.ρ 83 < S.ρ 17) (by omega)), (sm (show IntKind.i64.wrap (opZ .and .u64 (opZ .shr .u64 (S.Φ 65 [S.ρ 88]) 8) 7) = S.ρ 84 from by rw [hb, ge84]; exact moreB hd)), (tr (p := S.ρ 84 ≠ (0 : Int)) (by omega)), (sm (show (IntKind.i64.wrap (S.ρ 84 - (1 : Int))) = S.ρ 85 from by rw [w_i64 (by omega) (by omega)]; omega)), (sm (show (IntKind.i64.wrap (S.ρ 20 + S.ρ 83)).tmod (4 : Int) = S.ρ 85 from rem4 (by omega) (by rw [gh83, ge85]))), (fls (p := S.ρ 85 ≠ S.ρ 85) (fun hh => hh rfl)), (fls (p := IntKind.u32.wrap (opZ .and .u64 (opZ .shr .u64 (S.Φ 65 [S.ρ 88]) 32) 4294967295) ≠ (1 : Int)) (fun hh => hh (by rw [hb]; exact verB hd))), trivial⟩
theorem alC_ok {S : Sy} {k : Int} (h : InvC S k) (hl : k < S.ρ 17) : AlOk S alCL := alE alC_all alC_eq (alC_h h hl)
end Go.Proofs.YtgokpcaijabhoaaDoor
