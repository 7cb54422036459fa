/- Texts of a proof, one behind the other. Conditions: those each says. -/
import Derived.Test.YtgokpcaijabhoaaDoorZSB1
namespace Go.Proofs.YtgokpcaijabhoaaDoor
open Go.Ev Go.RowKit
set_option maxRecDepth 100000
set_option linter.unusedVariables false
structure QInP (S : Sy) : Prop where
  geo : GeoS S
  h0 : 0 ≤ S.ρ 98
  h1 : S.ρ 98 < S.ρ 5
  e99 : S.ρ 99 = 22 + S.ρ 98
def alQPE : List En := [.iv (.bin .mul (.lit .i64 0) (.var .i64 5)) 0, .nm (.bin .add (.lit .i64 0) (.var .i64 98)) 98, .nm (.bin .mul (.var .i64 98) (.lit .i64 1)) 98, .nm (.bin .add (.var .i64 98) (.lit .i64 0)) 98, .ds (.bin .lss (.var .i64 98) (.lit .i64 0)) false, .ds (.bin .geq (.var .i64 98) (.var .i64 5)) false, .nm (.bin .add (.lit .i64 22) (.var .i64 98)) 99, .ds (.bin .lss (.var .i64 99) (.lit .i64 0)) false, .ds (.bin .geq (.var .i64 99) (.var .i64 42)) false, .ds (.bin .geq (.var .i64 99) (.lit .i64 0)) true, .ds (.bin .lss (.var .i64 99) (.var .i64 42)) true, .nm (.bin .mul (.var .i64 99) (.lit .i64 1)) 99, .nm (.bin .add (.var .i64 99) (.lit .i64 0)) 99]
def alQPL : List (Nat × Value) := [(1597828503699, .int .i64 0), (25872983662723, .float .f64 50179), (1724154860541075, .float .f64 50179), (26940014594179, .float .f64 50179), (26940014594283, .bool false), (6896635246287107, .bool false), (24795670934200451, .float .f64 50691), (27214892501227, .bool false), (55736065578770179, .bool false), (27214892501251, .bool true), (55736065578770155, .bool true), (1741747046585491, .float .f64 50691), (27214892501123, .float .f64 50691)]
theorem alQP_eq : alQPL = alQPE.map En.pr := by kernel_rfl
theorem alQP_all : (alQPE.all En.okB) = true := by kernel_rfl
set_option maxHeartbeats 4000000 in
theorem alQP_h {S : Sy} (h : QInP S) : AllH S alQPE := by
  have gh0 := h.h0; have gh1 := h.h1; have ge99 := h.e99; have ggeo_n := h.geo.n; have ggeo_e31 := h.geo.e31; have ggeo_e32 := h.geo.e32; have ggeo_e42 := h.geo.e42
  exact ⟨(sm (show (IntKind.i64.wrap ((0 : Int) * S.ρ 5)) = (0 : Int) from by rw [w_i64 (by omega) (by omega)]; omega)), (sm (show (IntKind.i64.wrap ((0 : Int) + S.ρ 98)) = S.ρ 98 from by rw [w_i64 (by omega) (by omega)]; omega)), (sm (show (IntKind.i64.wrap (S.ρ 98 * (1 : Int))) = S.ρ 98 from by rw [w_i64 (by omega) (by omega)]; omega)), (sm (show (IntKind.i64.wrap (S.ρ 98 + (0 : Int))) = S.ρ 98 from by rw [w_i64 (by omega) (by omega)]; omega)), (fls (p := S.ρ 98 < (0 : Int)) (by omega)), (fls (p := S.ρ 5 ≤ S.ρ 98) (by omega)), (sm (show (IntKind.i64.wrap ((22 : Int) + S.ρ 98)) = S.ρ 99 from by rw [w_i64 (by omega) (by omega)]; omega)), (fls (p := S.ρ 99 < (0 : Int)) (by omega)), (fls (p := S.ρ 42 ≤ S.ρ 99) (by omega)), (tr (p := (0 : Int) ≤ S.ρ 99) (by omega)), (tr (p := S.ρ 99 < S.ρ 42) (by omega)), (sm (show (IntKind.i64.wrap (S.ρ 99 * (1 : Int))) = S.ρ 99 from by rw [w_i64 (by omega) (by omega)]; omega)), (sm (show (IntKind.i64.wrap (S.ρ 99 + (0 : Int))) = S.ρ 99 from by rw [w_i64 (by omega) (by omega)]; omega)), trivial⟩
theorem alQP_ok {S : Sy} (h : QInP S) : AlOk S alQPL := alE alQP_all alQP_eq (alQP_h h)
structure QInB (S : Sy) : Prop where
  geo : GeoS S
  h0 : 0 ≤ S.ρ 98
  h1 : S.ρ 98 < S.ρ 5
  e99 : S.ρ 99 = S.ρ 31 + S.ρ 98
def alQBE : List En := [.iv (.bin .mul (.lit .i64 0) (.var .i64 5)) 0, .nm (.bin .add (.lit .i64 0) (.var .i64 98)) 98, .nm (.bin .mul (.var .i64 98) (.lit .i64 1)) 98, .nm (.bin .add (.var .i64 98) (.lit .i64 0)) 98, .ds (.bin .lss (.var .i64 98) (.lit .i64 0)) false, .ds (.bin .geq (.var .i64 98) (.var .i64 5)) false, .nm (.bin .add (.var .i64 31) (.var .i64 98)) 99, .ds (.bin .lss (.var .i64 99) (.lit .i64 0)) false, .ds (.bin .geq (.var .i64 99) (.var .i64 42)) false, .ds (.bin .geq (.var .i64 99) (.lit .i64 0)) true, .ds (.bin .lss (.var .i64 99) (.var .i64 42)) true, .nm (.bin .mul (.var .i64 99) (.lit .i64 1)) 99, .nm (.bin .add (.var .i64 99) (.lit .i64 0)) 99]
def alQBL : List (Nat × Value) := [(1597828503699, .int .i64 0), (25872983662723, .float .f64 50179), (1724154860541075, .float .f64 50179), (26940014594179, .float .f64 50179), (26940014594283, .bool false), (6896635246287107, .bool false), (34911177909739651, .float .f64 50691), (27214892501227, .bool false), (55736065578770179, .bool false), (27214892501251, .bool true), (55736065578770155, .bool true), (1741747046585491, .float .f64 50691), (27214892501123, .float .f64 50691)]
theorem alQB_eq : alQBL = alQBE.map En.pr := by kernel_rfl
theorem alQB_all : (alQBE.all En.okB) = true := by kernel_rfl
set_option maxHeartbeats 4000000 in
theorem alQB_h {S : Sy} (h : QInB S) : AllH S alQBE := by
  have gh0 := h.h0; have gh1 := h.h1; have ge99 := h.e99; have ggeo_n := h.geo.n; have ggeo_e31 := h.geo.e31; have ggeo_e32 := h.geo.e32; have ggeo_e42 := h.geo.e42
  exact ⟨(sm (show (IntKind.i64.wrap ((0 : Int) * S.ρ 5)) = (0 : Int) from by rw [w_i64 (by omega) (by omega)]; omega)), (sm (show (IntKind.i64.wrap ((0 : Int) + S.ρ 98)) = S.ρ 98 from by rw [w_i64 (by omega) (by omega)]; omega)), (sm (show (IntKind.i64.wrap (S.ρ 98 * (1 : Int))) = S.ρ 98 from by rw [w_i64 (by omega) (by omega)]; omega)), (sm (show (IntKind.i64.wrap (S.ρ 98 + (0 : Int))) = S.ρ 98 from by rw [w_i64 (by omega) (by omega)]; omega)), (fls (p := S.ρ 98 < (0 : Int)) (by omega)), (fls (p := S.ρ 5 ≤ S.ρ 98) (by omega)), (sm (show (IntKind.i64.wrap (S.ρ 31 + S.ρ 98)) = S.ρ 99 from by rw [w_i64 (by omega) (by omega)]; omega)), (fls (p := S.ρ 99 < (0 : Int)) (by omega)), (fls (p := S.ρ 42 ≤ S.ρ 99) (by omega)), (tr (p := (0 : Int) ≤ S.ρ 99) (by omega)), (tr (p := S.ρ 99 < S.ρ 42) (by omega)), (sm (show (IntKind.i64.wrap (S.ρ 99 * (1 : Int))) = S.ρ 99 from by rw [w_i64 (by omega) (by omega)]; omega)), (sm (show (IntKind.i64.wrap (S.ρ 99 + (0 : Int))) = S.ρ 99 from by rw [w_i64 (by omega) (by omega)]; omega)), trivial⟩
theorem alQB_ok {S : Sy} (h : QInB S) : AlOk S alQBL := alE alQB_all alQB_eq (alQB_h h)
structure QInR (S : Sy) : Prop where
  geo : GeoS S
  h0 : 0 ≤ S.ρ 98
  h1 : S.ρ 98 < S.ρ 5
  e99 : S.ρ 99 = S.ρ 32 + S.ρ 98
def alQRE : List En := [.iv (.bin .mul (.lit .i64 0) (.var .i64 5)) 0, .nm (.bin .add (.lit .i64 0) (.var .i64 98)) 98, .nm (.bin .mul (.var .i64 98) (.lit .i64 1)) 98, .nm (.bin .add (.var .i64 98) (.lit .i64 0)) 98, .ds (.bin .lss (.var .i64 98) (.lit .i64 0)) false, .ds (.bin .geq (.var .i64 98) (.var .i64 5)) false, .nm (.bin .add (.var .i64 32) (.var .i64 98)) 99, .ds (.bin .lss (.var .i64 99) (.lit .i64 0)) false, .ds (.bin .geq (.var .i64 99) (.var .i64 42)) false, .ds (.bin .geq (.var .i64 99) (.lit .i64 0)) true, .ds (.bin .lss (.var .i64 99) (.var .i64 42)) true, .nm (.bin .mul (.var .i64 99) (.lit .i64 1)) 99, .nm (.bin .add (.var .i64 99) (.lit .i64 0)) 99]
def alQRL : List (Nat × Value) := [(1597828503699, .int .i64 0), (25872983662723, .float .f64 50179), (1724154860541075, .float .f64 50179), (26940014594179, .float .f64 50179), (26940014594283, .bool false), (6896635246287107, .bool false), (36037077816582275, .float .f64 50691), (27214892501227, .bool false), (55736065578770179, .bool false), (27214892501251, .bool true), (55736065578770155, .bool true), (1741747046585491, .float .f64 50691), (27214892501123, .float .f64 50691)]
theorem alQR_eq : alQRL = alQRE.map En.pr := by kernel_rfl
theorem alQR_all : (alQRE.all En.okB) = true := by kernel_rfl
set_option maxHeartbeats 4000000 in
theorem alQR_h {S : Sy} (h : QInR S) : AllH S alQRE := by
  have gh0 := h.h0; have gh1 := h.h1; have ge99 := h.e99; have ggeo_n := h.geo.n; have ggeo_e31 := h.geo.e31; have ggeo_e32 := h.geo.e32; have ggeo_e42 := h.geo.e42
  exact ⟨(sm (show (IntKind.i64.wrap ((0 : Int) * S.ρ 5)) = (0 : Int) from by rw [w_i64 (by omega) (by omega)]; omega)), (sm (show (IntKind.i64.wrap ((0 : Int) + S.ρ 98)) = S.ρ 98 from by rw [w_i64 (by omega) (by omega)]; omega)), (sm (show (IntKind.i64.wrap (S.ρ 98 * (1 : Int))) = S.ρ 98 from by rw [w_i64 (by omega) (by omega)]; omega)), (sm (show (IntKind.i64.wrap (S.ρ 98 + (0 : Int))) = S.ρ 98 from by rw [w_i64 (by omega) (by omega)]; omega)), (fls (p := S.ρ 98 < (0 : Int)) (by omega)), (fls (p := S.ρ 5 ≤ S.ρ 98) (by omega)), (sm (show (IntKind.i64.wrap (S.ρ 32 + S.ρ 98)) = S.ρ 99 from by rw [w_i64 (by omega) (by omega)]; omega)), (fls (p := S.ρ 99 < (0 : Int)) (by omega)), (fls (p := S.ρ 42 ≤ S.ρ 99) (by omega)), (tr (p := (0 : Int) ≤ S.ρ 99) (by omega)), (tr (p := S.ρ 99 < S.ρ 42) (by omega)), (sm (show (IntKind.i64.wrap (S.ρ 99 * (1 : Int))) = S.ρ 99 from by rw [w_i64 (by omega) (by omega)]; omega)), (sm (show (IntKind.i64.wrap (S.ρ 99 + (0 : Int))) = S.ρ 99 from by rw [w_i64 (by omega) (by omega)]; omega)), trivial⟩
theorem alQR_ok {S : Sy} (h : QInR S) : AlOk S alQRL := alE alQR_all alQR_eq (alQR_h h)
end Go.Proofs.YtgokpcaijabhoaaDoor
