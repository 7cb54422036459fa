/-
  CacheTells: what is common: the names of the numbers, what is decided ahead. Conditions: those each says.
-/
import Derived.Test.YtmeppoihgfdgaaaDoorK0
import Derived.Test.YtmeppoihgfdgaaaDoorWT
import Derived.Test.YtmeppoihgfdgaaaDoorWE
namespace Go.Proofs.YtmeppoihgfdgaaaDoor
open Go.Ev Go.RowKit
set_option maxRecDepth 100000
set_option linter.unusedVariables false
/-- What the numbers of a geometry are, of a page and x9 threads. -/
structure Geo1 (S : Sy) : Prop where
  I : S.I = []
  t : 1 ≤ S.ρ 9 ∧ S.ρ 9 ≤ 8
  e10 : S.ρ 10 = 4 * S.ρ 9
  e11 : S.ρ 11 = 8 * S.ρ 9
  e12 : S.ρ 12 = 2 * S.ρ 9
  e13 : S.ρ 13 = 2 * S.ρ 9 + 2
  e14 : S.ρ 9 * S.ρ 13 = S.ρ 14
  e23 : S.ρ 23 = 2 * S.ρ 9 + 3
  e24 : S.ρ 9 * S.ρ 23 = S.ρ 24
  e7 : S.ρ 7 = S.ρ 11 + S.ρ 24
  e8 : S.ρ 8 = 8 * S.ρ 7
  b14 : 0 ≤ S.ρ 14 ∧ S.ρ 14 ≤ 144
  b24 : 0 ≤ S.ρ 24 ∧ S.ρ 24 ≤ 152
  e30 : S.ρ 30 = 21 + S.ρ 9
  e31 : S.ρ 31 = 22 + S.ρ 9
  e32 : S.ρ 32 = 23 + S.ρ 9
  e33 : S.ρ 33 = 24 + S.ρ 9
  e34 : S.ρ 34 = 32 + S.ρ 9
  e35 : S.ρ 35 = 40 + S.ρ 9
  e36 : S.ρ 36 = 40 + 9 * S.ρ 9
  e37 : S.ρ 37 = 40 + 13 * S.ρ 9
  e38 : S.ρ 38 = 40 + 15 * S.ρ 9
  e39 : S.ρ 39 = 40 + 16 * S.ρ 9
  e40 : S.ρ 40 = 40 + 16 * S.ρ 9 + S.ρ 14
  e41 : S.ρ 41 = 40 + 16 * S.ρ 9 + S.ρ 14 + S.ρ 7
  e42 : S.ρ 42 = 40 + 16 * S.ρ 9 + S.ρ 14 + 9 * S.ρ 7
theorem Geo1.stay {vs fs : List Nat} {S T : Sy} (h : Geo1 S) (y : Stay vs fs S T) (hv : ([7, 8, 9, 10, 11, 12, 13, 14, 23, 24, 30, 31, 32, 33, 34, 35, 36, 37, 38, 39, 40, 41, 42].all fun k => !vs.any fun u => Nat.beq u k) = true) : Geo1 T := by
  have e : ∀ k ∈ [7, 8, 9, 10, 11, 12, 13, 14, 23, 24, 30, 31, 32, 33, 34, 35, 36, 37, 38, 39, 40, 41, 42], T.ρ k = S.ρ k := fun k hk => y.num k (by have := List.all_eq_true.1 hv k hk; simpa using this)
  have f7 := e 7 (by decide)
  have f8 := e 8 (by decide)
  have f9 := e 9 (by decide)
  have f10 := e 10 (by decide)
  have f11 := e 11 (by decide)
  have f12 := e 12 (by decide)
  have f13 := e 13 (by decide)
  have f14 := e 14 (by decide)
  have f23 := e 23 (by decide)
  have f24 := e 24 (by decide)
  have f30 := e 30 (by decide)
  have f31 := e 31 (by decide)
  have f32 := e 32 (by decide)
  have f33 := e 33 (by decide)
  have f34 := e 34 (by decide)
  have f35 := e 35 (by decide)
  have f36 := e 36 (by decide)
  have f37 := e 37 (by decide)
  have f38 := e 38 (by decide)
  have f39 := e 39 (by decide)
  have f40 := e 40 (by decide)
  have f41 := e 41 (by decide)
  have f42 := e 42 (by decide)
  exact ⟨y.1.trans h.I, by rw [f9]; exact h.t, by rw [f9, f10]; exact h.e10, by rw [f9, f11]; exact h.e11, by rw [f9, f12]; exact h.e12, by rw [f9, f13]; exact h.e13, by rw [f9, f13, f14]; exact h.e14, by rw [f9, f23]; exact h.e23, by rw [f9, f23, f24]; exact h.e24, by rw [f7, f11, f24]; exact h.e7, by rw [f7, f8]; exact h.e8, by rw [f14]; exact h.b14, by rw [f24]; exact h.b24, by rw [f9, f30]; exact h.e30, by rw [f9, f31]; exact h.e31, by rw [f9, f32]; exact h.e32, by rw [f9, f33]; exact h.e33, by rw [f9, f34]; exact h.e34, by rw [f9, f35]; exact h.e35, by rw [f9, f36]; exact h.e36, by rw [f9, f37]; exact h.e37, by rw [f9, f38]; exact h.e38, by rw [f9, f39]; exact h.e39, by rw [f9, f14, f40]; exact h.e40, by rw [f7, f9, f14, f41]; exact h.e41, by rw [f7, f9, f14, f42]; exact h.e42⟩
theorem Geo1.K {S : Sy} (h : Geo1 S) : ∀ x ∈ S.I, x.f + x.ks.length ≤ 60 := by
  rw [h.I]
  intro x hx
  simp at hx
theorem nonlin1 {t : Int} (ht : 1 ≤ t ∧ t ≤ 8) : (0 ≤ t * (2 * t + 2) ∧ t * (2 * t + 2) ≤ 144) ∧ (0 ≤ t * (2 * t + 3) ∧ t * (2 * t + 3) ≤ 152) := by
  rcases (show t = 1 ∨ t = 2 ∨ t = 3 ∨ t = 4 ∨ t = 5 ∨ t = 6 ∨ t = 7 ∨ t = 8 from by omega) with rfl | rfl | rfl | rfl | rfl | rfl | rfl | rfl <;> omega
/-- What the numbers of the law are. -/
structure TIn (S : Sy) : Prop extends Geo1 S where
  e9 : S.ρ 9 = S.ρ 2 % 8 + 1
  h2 : 0 ≤ S.ρ 2
  h3 : 0 ≤ S.ρ 3 ∧ S.ρ 3 < 256
  h4 : 0 ≤ S.ρ 4 ∧ S.ρ 4 < 256
  e17 : S.ρ 17 = S.ρ 3 % S.ρ 9
  e18 : S.ρ 18 = S.ρ 4 % S.ρ 9
  b17 : 0 ≤ S.ρ 17 ∧ S.ρ 17 < S.ρ 9
  b18 : 0 ≤ S.ρ 18 ∧ S.ρ 18 < S.ρ 9
  e50 : S.ρ 50 = 4 * S.ρ 17
  e51 : S.ρ 51 = 4 * S.ρ 17 + S.ρ 20
  e52 : S.ρ 52 = 8 * S.ρ 17 + 2 * S.ρ 20
  e53 : S.ρ 53 = 8 * S.ρ 17 + 2 * S.ρ 20 + 1
  e54 : S.ρ 54 = S.ρ 35 + S.ρ 52
  e55 : S.ρ 55 = S.ρ 35 + S.ρ 52 + 1
  e70 : S.ρ 70 = 4 * S.ρ 18
  e71 : S.ρ 71 = 4 * S.ρ 18 + S.ρ 20
  e72 : S.ρ 72 = 8 * S.ρ 18 + 2 * S.ρ 20
  e73 : S.ρ 73 = 8 * S.ρ 18 + 2 * S.ρ 20 + 1
  e74 : S.ρ 74 = S.ρ 35 + S.ρ 72
  e75 : S.ρ 75 = S.ρ 35 + S.ρ 72 + 1
theorem TIn.stay {vs fs : List Nat} {S T : Sy} (h : TIn S) (y : Stay vs fs S T) (hv : ([2, 3, 4, 7, 8, 9, 10, 11, 12, 13, 14, 17, 18, 20, 21, 22, 23, 24, 25, 30, 31, 32, 33, 34, 35, 36, 37, 38, 39, 40, 41, 42, 50, 51, 52, 53, 54, 55, 70, 71, 72, 73, 74, 75].all fun k => !vs.any fun u => Nat.beq u k) = true) : TIn T := by
  have e : ∀ k ∈ [2, 3, 4, 7, 8, 9, 10, 11, 12, 13, 14, 17, 18, 20, 21, 22, 23, 24, 25, 30, 31, 32, 33, 34, 35, 36, 37, 38, 39, 40, 41, 42, 50, 51, 52, 53, 54, 55, 70, 71, 72, 73, 74, 75], T.ρ k = S.ρ k := fun k hk => y.num k (by have := List.all_eq_true.1 hv k hk; simpa using this)
  have f2 := e 2 (by decide)
  have f3 := e 3 (by decide)
  have f4 := e 4 (by decide)
  have f9 := e 9 (by decide)
  have f17 := e 17 (by decide)
  have f18 := e 18 (by decide)
  have f20 := e 20 (by decide)
  have f21 := e 21 (by decide)
  have f22 := e 22 (by decide)
  have f25 := e 25 (by decide)
  have f35 := e 35 (by decide)
  have f50 := e 50 (by decide)
  have f51 := e 51 (by decide)
  have f52 := e 52 (by decide)
  have f53 := e 53 (by decide)
  have f54 := e 54 (by decide)
  have f55 := e 55 (by decide)
  have f70 := e 70 (by decide)
  have f71 := e 71 (by decide)
  have f72 := e 72 (by decide)
  have f73 := e 73 (by decide)
  have f74 := e 74 (by decide)
  have f75 := e 75 (by decide)
  exact { toGeo1 := h.toGeo1.stay y (List.all_eq_true.2 fun k hk => List.all_eq_true.1 hv k (by revert k; decide)), e9 := by rw [f2, f9]; exact h.e9, h2 := by rw [f2]; exact h.h2, h3 := by rw [f3]; exact h.h3, h4 := by rw [f4]; exact h.h4, e17 := by rw [f3, f9, f17]; exact h.e17, e18 := by rw [f4, f9, f18]; exact h.e18, b17 := by rw [f9, f17]; exact h.b17, b18 := by rw [f9, f18]; exact h.b18, e50 := by rw [f17, f50]; exact h.e50, e51 := by rw [f17, f20, f51]; exact h.e51, e52 := by rw [f17, f20, f52]; exact h.e52, e53 := by rw [f17, f20, f53]; exact h.e53, e54 := by rw [f35, f52, f54]; exact h.e54, e55 := by rw [f35, f52, f55]; exact h.e55, e70 := by rw [f18, f70]; exact h.e70, e71 := by rw [f18, f20, f71]; exact h.e71, e72 := by rw [f18, f20, f72]; exact h.e72, e73 := by rw [f18, f20, f73]; exact h.e73, e74 := by rw [f35, f72, f74]; exact h.e74, e75 := by rw [f35, f72, f75]; exact h.e75 }
def alGE : List En := [.nm (.bin .mul (.lit .i64 1) (.var .i64 7)) 7, .nm (.bin .mul (.var .i64 7) (.lit .i64 1)) 7, .nm (.bin .mul (.lit .i64 1) (.var .i64 8)) 8, .nm (.bin .mul (.var .i64 8) (.lit .i64 1)) 8, .nm (.bin .mul (.lit .i64 1) (.var .i64 9)) 9, .nm (.bin .mul (.var .i64 9) (.lit .i64 1)) 9, .nm (.bin .mul (.lit .i64 1) (.var .i64 10)) 10, .nm (.bin .mul (.var .i64 10) (.lit .i64 1)) 10, .nm (.bin .mul (.lit .i64 1) (.var .i64 11)) 11, .nm (.bin .mul (.var .i64 11) (.lit .i64 1)) 11, .nm (.bin .mul (.lit .i64 1) (.var .i64 12)) 12, .nm (.bin .mul (.var .i64 12) (.lit .i64 1)) 12, .nm (.bin .mul (.lit .i64 1) (.var .i64 14)) 14, .nm (.bin .mul (.var .i64 14) (.lit .i64 1)) 14, .nm (.bin .mul (.var .i64 9) (.lit .i64 4)) 10, .nm (.bin .mul (.var .i64 10) (.lit .i64 2)) 11, .nm (.bin .mul (.var .i64 9) (.lit .i64 2)) 12, .nm (.bin .mul (.lit .i64 2) (.var .i64 9)) 12, .nm (.bin .add (.var .i64 12) (.lit .i64 2)) 13, .nm (.bin .mul (.var .i64 9) (.var .i64 13)) 14, .nm (.bin .add (.var .i64 12) (.lit .i64 3)) 23, .nm (.bin .mul (.var .i64 9) (.var .i64 23)) 24, .nm (.bin .add (.var .i64 11) (.var .i64 24)) 7, .nm (.bin .mul (.var .i64 7) (.lit .i64 8)) 8]
def alGL : List (Nat × Value) := [(72000932419731, .float .f64 3587), (123265930499219, .float .f64 3587), (143898684955283, .float .f64 4099), (140858116543635, .float .f64 4099), (143915864824467, .float .f64 4611), (158450302588051, .float .f64 4611), (143933044693651, .float .f64 5123), (176042488632467, .float .f64 5123), (143950224562835, .float .f64 5635), (193634674676883, .float .f64 5635), (143967404432019, .float .f64 6147), (211226860721299, .float .f64 6147), (144001764170387, .float .f64 7171), (246411232810131, .float .f64 7171), (633800103041171, .float .f64 5123), (352084608161427, .float .f64 5635), (316900236072595, .float .f64 6147), (284653353179795, .float .f64 6147), (422453352339075, .float .f64 6659), (1267685467888275, .float .f64 7171), (422470532208259, .float .f64 11779), (2535319295499411, .float .f64 12291), (3098286428789891, .float .f64 3587), (986124860267155, .float .f64 4099)]
theorem alG_eq : alGL = alGE.map En.pr := by kernel_rfl
theorem alG_all : (alGE.all En.okB) = true := by kernel_rfl
set_option maxHeartbeats 4000000 in
theorem alG_h {S : Sy} (h : Geo1 S) : AllH S alGE := by
  have gt := h.t; have ge10 := h.e10; have ge11 := h.e11; have ge12 := h.e12; have ge13 := h.e13; have ge14 := h.e14; have ge23 := h.e23; have ge24 := h.e24; have ge7 := h.e7; have ge8 := h.e8; have gb14 := h.b14; have gb24 := h.b24; have ge30 := h.e30; have ge31 := h.e31; have ge32 := h.e32; have ge33 := h.e33; have ge34 := h.e34; have ge35 := h.e35; have ge36 := h.e36; have ge37 := h.e37; have ge38 := h.e38; have ge39 := h.e39; have ge40 := h.e40; have ge41 := h.e41; have ge42 := h.e42
  exact ⟨(sm (show (IntKind.i64.wrap ((1 : Int) * S.ρ 7)) = S.ρ 7 from by rw [w_i64 (by omega) (by omega)]; omega)), (sm (show (IntKind.i64.wrap (S.ρ 7 * (1 : Int))) = S.ρ 7 from by rw [w_i64 (by omega) (by omega)]; omega)), (sm (show (IntKind.i64.wrap ((1 : Int) * S.ρ 8)) = S.ρ 8 from by rw [w_i64 (by omega) (by omega)]; omega)), (sm (show (IntKind.i64.wrap (S.ρ 8 * (1 : Int))) = S.ρ 8 from by rw [w_i64 (by omega) (by omega)]; omega)), (sm (show (IntKind.i64.wrap ((1 : Int) * S.ρ 9)) = S.ρ 9 from by rw [w_i64 (by omega) (by omega)]; omega)), (sm (show (IntKind.i64.wrap (S.ρ 9 * (1 : Int))) = S.ρ 9 from by rw [w_i64 (by omega) (by omega)]; omega)), (sm (show (IntKind.i64.wrap ((1 : Int) * S.ρ 10)) = S.ρ 10 from by rw [w_i64 (by omega) (by omega)]; omega)), (sm (show (IntKind.i64.wrap (S.ρ 10 * (1 : Int))) = S.ρ 10 from by rw [w_i64 (by omega) (by omega)]; omega)), (sm (show (IntKind.i64.wrap ((1 : Int) * S.ρ 11)) = S.ρ 11 from by rw [w_i64 (by omega) (by omega)]; omega)), (sm (show (IntKind.i64.wrap (S.ρ 11 * (1 : Int))) = S.ρ 11 from by rw [w_i64 (by omega) (by omega)]; omega)), (sm (show (IntKind.i64.wrap ((1 : Int) * S.ρ 12)) = S.ρ 12 from by rw [w_i64 (by omega) (by omega)]; omega)), (sm (show (IntKind.i64.wrap (S.ρ 12 * (1 : Int))) = S.ρ 12 from by rw [w_i64 (by omega) (by omega)]; omega)), (sm (show (IntKind.i64.wrap ((1 : Int) * S.ρ 14)) = S.ρ 14 from by rw [w_i64 (by omega) (by omega)]; omega)), (sm (show (IntKind.i64.wrap (S.ρ 14 * (1 : Int))) = S.ρ 14 from by rw [w_i64 (by omega) (by omega)]; omega)), (sm (show (IntKind.i64.wrap (S.ρ 9 * (4 : Int))) = S.ρ 10 from by rw [w_i64 (by omega) (by omega)]; omega)), (sm (show (IntKind.i64.wrap (S.ρ 10 * (2 : Int))) = S.ρ 11 from by rw [w_i64 (by omega) (by omega)]; omega)), (sm (show (IntKind.i64.wrap (S.ρ 9 * (2 : Int))) = S.ρ 12 from by rw [w_i64 (by omega) (by omega)]; omega)), (sm (show (IntKind.i64.wrap ((2 : Int) * S.ρ 9)) = S.ρ 12 from by rw [w_i64 (by omega) (by omega)]; omega)), (sm (show (IntKind.i64.wrap (S.ρ 12 + (2 : Int))) = S.ρ 13 from by rw [w_i64 (by omega) (by omega)]; omega)), (sm (show (IntKind.i64.wrap (S.ρ 9 * S.ρ 13)) = S.ρ 14 from by rw [← h.e14]; exact w_i64 (by omega) (by omega))), (sm (show (IntKind.i64.wrap (S.ρ 12 + (3 : Int))) = S.ρ 23 from by rw [w_i64 (by omega) (by omega)]; omega)), (sm (show (IntKind.i64.wrap (S.ρ 9 * S.ρ 23)) = S.ρ 24 from by rw [← h.e24]; exact w_i64 (by omega) (by omega))), (sm (show (IntKind.i64.wrap (S.ρ 11 + S.ρ 24)) = S.ρ 7 from by rw [w_i64 (by omega) (by omega)]; omega)), (sm (show (IntKind.i64.wrap (S.ρ 7 * (8 : Int))) = S.ρ 8 from by rw [w_i64 (by omega) (by omega)]; omega)), trivial⟩
theorem alG_ok {S : Sy} (h : Geo1 S) : AlOk S alGL := alE alG_all alG_eq (alG_h h)
def alLE : List En := [.nm (.bin .add (.lit .i64 21) (.var .i64 9)) 30, .nm (.bin .add (.var .i64 30) (.lit .i64 1)) 31, .nm (.bin .add (.var .i64 31) (.lit .i64 1)) 32, .nm (.bin .add (.var .i64 32) (.lit .i64 1)) 33, .nm (.bin .add (.var .i64 33) (.lit .i64 8)) 34, .nm (.bin .add (.var .i64 34) (.lit .i64 8)) 35, .nm (.bin .add (.var .i64 35) (.var .i64 11)) 36, .nm (.bin .add (.var .i64 36) (.var .i64 10)) 37, .nm (.bin .add (.var .i64 37) (.var .i64 12)) 38, .nm (.bin .add (.var .i64 38) (.var .i64 9)) 39, .nm (.bin .add (.var .i64 39) (.var .i64 14)) 40, .nm (.bin .add (.var .i64 40) (.var .i64 7)) 41, .nm (.bin .add (.var .i64 41) (.var .i64 8)) 42, .ds (.bin .lss (.var .i64 9) (.lit .i64 1)) false, .ds (.bin .gtr (.var .i64 9) (.lit .i64 64)) false, .ds (.bin .lss (.var .i64 42) (.lit .i64 0)) false, .ds (.bin .gtr (.var .i64 42) (.lit .i64 2097152)) false, .ds (.bin .lss (.var .i64 42) (.lit .i64 4194304)) true, .ds (.bin .geq (.var .i64 42) (.lit .i64 0)) true, .ds (.bin .lss (.lit .i64 0) (.var .i64 42)) true, .ds (.bin .neq (.var .i64 42) (.var .i64 42)) false, .ds (.bin .lss (.var .i64 42) (.lit .i64 1)) false]
def alLL : List (Nat × Value) := [(2958665631931011, .float .f64 15363), (527886209520771, .float .f64 15875), (545478395565187, .float .f64 16387), (563070581609603, .float .f64 16899), (4645299557505667, .float .f64 17411), (4786037045860995, .float .f64 17923), (4926825805388419, .float .f64 18435), (5067546113874563, .float .f64 18947), (5208317961968259, .float .f64 19459), (5349003910716035, .float .f64 19971), (5489827298417283, .float .f64 20483), (2815282443720835, .float .f64 20995), (5771199195912835, .float .f64 21507), (158450302588139, .bool false), (10140796112085243, .bool false), (11546851805419, .bool false), (1549778703771104198395, .bool false), (3099557407541839282411, .bool true), (11546851805443, .bool true), (12816283082475, .bool true), (23647918233755363, .bool false), (738992442053867, .bool false)]
theorem alL_eq : alLL = alLE.map En.pr := by kernel_rfl
theorem alL_all : (alLE.all En.okB) = true := by kernel_rfl
set_option maxHeartbeats 4000000 in
theorem alL_h {S : Sy} (h : Geo1 S) : AllH S alLE := by
  have gt := h.t; have ge10 := h.e10; have ge11 := h.e11; have ge12 := h.e12; have ge13 := h.e13; have ge14 := h.e14; have ge23 := h.e23; have ge24 := h.e24; have ge7 := h.e7; have ge8 := h.e8; have gb14 := h.b14; have gb24 := h.b24; have ge30 := h.e30; have ge31 := h.e31; have ge32 := h.e32; have ge33 := h.e33; have ge34 := h.e34; have ge35 := h.e35; have ge36 := h.e36; have ge37 := h.e37; have ge38 := h.e38; have ge39 := h.e39; have ge40 := h.e40; have ge41 := h.e41; have ge42 := h.e42
  exact ⟨(sm (show (IntKind.i64.wrap ((21 : Int) + S.ρ 9)) = S.ρ 30 from by rw [w_i64 (by omega) (by omega)]; omega)), (sm (show (IntKind.i64.wrap (S.ρ 30 + (1 : Int))) = S.ρ 31 from by rw [w_i64 (by omega) (by omega)]; omega)), (sm (show (IntKind.i64.wrap (S.ρ 31 + (1 : Int))) = S.ρ 32 from by rw [w_i64 (by omega) (by omega)]; omega)), (sm (show (IntKind.i64.wrap (S.ρ 32 + (1 : Int))) = S.ρ 33 from by rw [w_i64 (by omega) (by omega)]; omega)), (sm (show (IntKind.i64.wrap (S.ρ 33 + (8 : Int))) = S.ρ 34 from by rw [w_i64 (by omega) (by omega)]; omega)), (sm (show (IntKind.i64.wrap (S.ρ 34 + (8 : Int))) = S.ρ 35 from by rw [w_i64 (by omega) (by omega)]; omega)), (sm (show (IntKind.i64.wrap (S.ρ 35 + S.ρ 11)) = S.ρ 36 from by rw [w_i64 (by omega) (by omega)]; omega)), (sm (show (IntKind.i64.wrap (S.ρ 36 + S.ρ 10)) = S.ρ 37 from by rw [w_i64 (by omega) (by omega)]; omega)), (sm (show (IntKind.i64.wrap (S.ρ 37 + S.ρ 12)) = S.ρ 38 from by rw [w_i64 (by omega) (by omega)]; omega)), (sm (show (IntKind.i64.wrap (S.ρ 38 + S.ρ 9)) = S.ρ 39 from by rw [w_i64 (by omega) (by omega)]; omega)), (sm (show (IntKind.i64.wrap (S.ρ 39 + S.ρ 14)) = S.ρ 40 from by rw [w_i64 (by omega) (by omega)]; omega)), (sm (show (IntKind.i64.wrap (S.ρ 40 + S.ρ 7)) = S.ρ 41 from by rw [w_i64 (by omega) (by omega)]; omega)), (sm (show (IntKind.i64.wrap (S.ρ 41 + S.ρ 8)) = S.ρ 42 from by rw [w_i64 (by omega) (by omega)]; omega)), (fls (p := S.ρ 9 < (1 : Int)) (by omega)), (fls (p := (64 : Int) < S.ρ 9) (by omega)), (fls (p := S.ρ 42 < (0 : Int)) (by omega)), (fls (p := (2097152 : Int) < S.ρ 42) (by omega)), (tr (p := S.ρ 42 < (4194304 : Int)) (by omega)), (tr (p := (0 : Int) ≤ S.ρ 42) (by omega)), (tr (p := (0 : Int) < S.ρ 42) (by omega)), (fls (p := S.ρ 42 ≠ S.ρ 42) (by exact fun h => h rfl)), (fls (p := S.ρ 42 < (1 : Int)) (by omega)), trivial⟩
theorem alL_ok {S : Sy} (h : Geo1 S) : AlOk S alLL := alE alL_all alL_eq (alL_h h)
theorem nameN {S : Sy} (h : TIn S) : IntKind.i64.wrap (IntKind.i64.wrap ((S.ρ 2).tmod (8 : Int)) + (1 : Int)) = S.ρ 9 := by
  have := h.h2
  rw [Int.tmod_eq_emod_of_nonneg this, w_i64 (x := S.ρ 2 % 8) (by omega) (by omega), w_i64 (by omega) (by omega), h.e9]
theorem nameR {x n y : Int} (hx : 0 ≤ x ∧ x < 256) (hy : y = x % n) : (IntKind.i64.wrap x).tmod n = y := by
  rw [w_i64 (by omega) (by omega), Int.tmod_eq_emod_of_nonneg hx.1, hy]
theorem rem_den {S : Sy} {k n : Nat} {x : Nat} (h0 : S.ρ n ≠ 0) (h : (IntKind.i64.wrap (S.ρ k)).tmod (S.ρ n) = S.ρ x) : (Tm.bin .rem (.conv .i64 (.var .u8 k)) (.var .i64 n)).den S = some [S.ρ x] :=
  den_bin (k := .i64) (a := IntKind.i64.wrap (S.ρ k)) (b := S.ρ n) rfl rfl (by show (if S.ρ n = 0 then none else some (Value.int .i64 _)) = _; rw [if_neg h0, h])
def alWE : List En := [.nm (.bin .add (.conv .i64 (.bin .rem (.var .u8 2) (.lit .u8 8))) (.lit .i64 1)) 9, .nm (.bin .rem (.conv .i64 (.var .u8 3)) (.var .i64 9)) 17, .nm (.bin .rem (.conv .i64 (.var .u8 4)) (.var .i64 9)) 18, .iv (.bin .mul (.lit .i64 0) (.var .i64 9)) 0, .ds (.bin .lss (.var .i64 17) (.lit .i64 0)) false, .ds (.bin .lss (.var .i64 18) (.lit .i64 0)) false, .ds (.bin .geq (.var .i64 17) (.var .i64 9)) false, .ds (.bin .geq (.var .i64 18) (.var .i64 9)) false, .nm (.bin .add (.lit .i64 0) (.var .i64 17)) 17, .nm (.bin .mul (.var .i64 17) (.lit .i64 4)) 50, .nm (.bin .add (.lit .i64 0) (.var .i64 18)) 18, .nm (.bin .mul (.var .i64 18) (.lit .i64 4)) 70]
def alWL : List (Nat × Value) := [(325945124819061142401823973315715, .float .f64 4611), (14203994492445149633187, .float .f64 8707), (18926361116052283202211, .float .f64 9219), (3178376469139, .int .i64 0), (4674904131819, .bool false), (4949782038763, .bool false), (2393516655254275, .bool false), (2534254143609603, .bool false), (6339472399491, .float .f64 8707), (1196750056462483, .float .f64 25603), (6356652268675, .float .f64 9219), (1267118800640147, .float .f64 35843)]
theorem alW_eq : alWL = alWE.map En.pr := by kernel_rfl
theorem alW_all : (alWE.all En.okB) = true := by kernel_rfl
set_option maxHeartbeats 4000000 in
theorem alW_h {S : Sy} (h : TIn S) : AllH S alWE := by
  have gt := h.t; have ge11 := h.e11; have ge24 := h.e24; have ge7 := h.e7; have gb14 := h.b14; have gb24 := h.b24; have ge35 := h.e35; have ge42 := h.e42; have ge9 := h.e9; have gh2 := h.h2; have gh3 := h.h3; have gh4 := h.h4; have ge17 := h.e17; have ge18 := h.e18; have gb17 := h.b17; have gb18 := h.b18; have ge50 := h.e50; have ge51 := h.e51; have ge52 := h.e52; have ge53 := h.e53; have ge54 := h.e54; have ge55 := h.e55; have ge70 := h.e70; have ge71 := h.e71; have ge72 := h.e72; have ge73 := h.e73; have ge74 := h.e74; have ge75 := h.e75
  exact ⟨(sm (nameN h)), (rem_den (by omega) (nameR gh3 ge17)), (rem_den (by omega) (nameR gh4 ge18)), (sm (show (IntKind.i64.wrap ((0 : Int) * S.ρ 9)) = (0 : Int) from by rw [w_i64 (by omega) (by omega)]; omega)), (fls (p := S.ρ 17 < (0 : Int)) (by omega)), (fls (p := S.ρ 18 < (0 : Int)) (by omega)), (fls (p := S.ρ 9 ≤ S.ρ 17) (by omega)), (fls (p := S.ρ 9 ≤ S.ρ 18) (by omega)), (sm (show (IntKind.i64.wrap ((0 : Int) + S.ρ 17)) = S.ρ 17 from by rw [w_i64 (by omega) (by omega)]; omega)), (sm (show (IntKind.i64.wrap (S.ρ 17 * (4 : Int))) = S.ρ 50 from by rw [w_i64 (by omega) (by omega)]; omega)), (sm (show (IntKind.i64.wrap ((0 : Int) + S.ρ 18)) = S.ρ 18 from by rw [w_i64 (by omega) (by omega)]; omega)), (sm (show (IntKind.i64.wrap (S.ρ 18 * (4 : Int))) = S.ρ 70 from by rw [w_i64 (by omega) (by omega)]; omega)), trivial⟩
theorem alW_ok {S : Sy} (h : TIn S) : AlOk S alWL := alE alW_all alW_eq (alW_h h)
def alCE : List En := [.ds (.bin .lss (.var .i64 20) (.lit .i64 0)) false, .ds (.bin .gtr (.var .i64 20) (.lit .i64 3)) false, .ds (.bin .geq (.var .i64 20) (.lit .i64 4)) false, .nm (.bin .add (.var .i64 50) (.var .i64 20)) 51, .nm (.bin .mul (.var .i64 51) (.lit .i64 2)) 52, .nm (.bin .add (.var .i64 52) (.lit .i64 0)) 52, .nm (.bin .add (.var .i64 52) (.lit .i64 1)) 53, .nm (.bin .add (.var .i64 35) (.var .i64 52)) 54, .nm (.bin .add (.var .i64 35) (.var .i64 53)) 55, .nm (.bin .mul (.var .i64 54) (.lit .i64 1)) 54, .nm (.bin .add (.var .i64 54) (.lit .i64 0)) 54, .ds (.bin .lss (.var .i64 54) (.lit .i64 0)) false, .ds (.bin .geq (.var .i64 54) (.var .i64 42)) false, .ds (.bin .geq (.var .i64 54) (.lit .i64 0)) true, .nm (.bin .mul (.var .i64 55) (.lit .i64 1)) 55, .nm (.bin .add (.var .i64 55) (.lit .i64 0)) 55, .ds (.bin .lss (.var .i64 55) (.lit .i64 0)) false, .ds (.bin .geq (.var .i64 55) (.var .i64 42)) false, .ds (.bin .geq (.var .i64 55) (.lit .i64 0)) true, .ds (.bin .eql (.var .i64 54) (.var .i64 55)) false, .ds (.bin .eql (.var .i64 55) (.var .i64 54)) false, .nm (.bin .add (.var .i64 70) (.var .i64 20)) 71, .nm (.bin .mul (.var .i64 71) (.lit .i64 2)) 72, .nm (.bin .add (.var .i64 72) (.lit .i64 0)) 72, .nm (.bin .add (.var .i64 72) (.lit .i64 1)) 73, .nm (.bin .add (.var .i64 35) (.var .i64 72)) 74, .nm (.bin .add (.var .i64 35) (.var .i64 73)) 75, .nm (.bin .mul (.var .i64 74) (.lit .i64 1)) 74, .nm (.bin .add (.var .i64 74) (.lit .i64 0)) 74, .ds (.bin .lss (.var .i64 74) (.lit .i64 0)) false, .ds (.bin .geq (.var .i64 74) (.var .i64 42)) false, .ds (.bin .geq (.var .i64 74) (.lit .i64 0)) true, .nm (.bin .mul (.var .i64 75) (.lit .i64 1)) 75, .nm (.bin .add (.var .i64 75) (.lit .i64 0)) 75, .ds (.bin .lss (.var .i64 75) (.lit .i64 0)) false, .ds (.bin .geq (.var .i64 75) (.var .i64 42)) false, .ds (.bin .geq (.var .i64 75) (.lit .i64 0)) true, .ds (.bin .eql (.var .i64 74) (.var .i64 75)) false, .ds (.bin .eql (.var .i64 75) (.var .i64 74)) false, .ds (.bin .lss (.var .i64 54) (.var .i64 42)) true, .ds (.bin .lss (.var .i64 55) (.var .i64 42)) true, .ds (.bin .lss (.var .i64 74) (.var .i64 42)) true, .ds (.bin .lss (.var .i64 75) (.var .i64 42)) true]
def alCL : List (Nat × Value) := [(5499537852651, .bool false), (703945508919035, .bool false), (1407856288995587, .bool false), (14075741801028739, .float .f64 26115), (1794643863803539, .float .f64 26627), (14295630874755, .float .f64 26627), (914914302497923, .float .f64 27139), (19707440358497923, .float .f64 27651), (19707457538367107, .float .f64 28163), (950098674586771, .float .f64 27651), (14845386688643, .float .f64 27651), (14845386688747, .bool false), (30403317674811139, .bool false), (14845386688771, .bool true), (967690860631187, .float .f64 28163), (15120264595587, .float .f64 28163), (15120264595691, .bool false), (30966267628232451, .bool false), (15120264595715, .bool true), (30403541013110491, .bool false), (30966473786662619, .bool false), (19705241335241859, .float .f64 36355), (2498331305580179, .float .f64 36867), (19793189013635, .float .f64 36867), (1266758023386243, .float .f64 37379), (39414330860511363, .float .f64 37891), (39414348040380547, .float .f64 38403), (1301942395475091, .float .f64 37891), (20342944827523, .float .f64 37891), (20342944827627, .bool false), (41662316743237379, .bool false), (20342944827651, .bool true), (1319534581519507, .float .f64 38403), (20617822734467, .float .f64 38403), (20617822734571, .bool false), (42225266696658691, .bool false), (20617822734595, .bool true), (83324478766981339, .bool false), (84450361493954779, .bool false), (30403317674811115, .bool true), (30966267628232427, .bool true), (41662316743237355, .bool true), (42225266696658667, .bool true)]
theorem alC_eq : alCL = alCE.map En.pr := by kernel_rfl
theorem alC_all : (alCE.all En.okB) = true := by kernel_rfl
set_option maxHeartbeats 4000000 in
theorem alC_h {S : Sy} (h : TIn S) (hc : 0 ≤ S.ρ 20 ∧ S.ρ 20 ≤ 3) : AllH S alCE := by
  have gt := h.t; have ge11 := h.e11; have ge24 := h.e24; have ge7 := h.e7; have gb14 := h.b14; have gb24 := h.b24; have ge35 := h.e35; have ge42 := h.e42; have ge9 := h.e9; have gh2 := h.h2; have gh3 := h.h3; have gh4 := h.h4; have ge17 := h.e17; have ge18 := h.e18; have gb17 := h.b17; have gb18 := h.b18; have ge50 := h.e50; have ge51 := h.e51; have ge52 := h.e52; have ge53 := h.e53; have ge54 := h.e54; have ge55 := h.e55; have ge70 := h.e70; have ge71 := h.e71; have ge72 := h.e72; have ge73 := h.e73; have ge74 := h.e74; have ge75 := h.e75
  exact ⟨(fls (p := S.ρ 20 < (0 : Int)) (by omega)), (fls (p := (3 : Int) < S.ρ 20) (by omega)), (fls (p := (4 : Int) ≤ S.ρ 20) (by omega)), (sm (show (IntKind.i64.wrap (S.ρ 50 + S.ρ 20)) = S.ρ 51 from by rw [w_i64 (by omega) (by omega)]; omega)), (sm (show (IntKind.i64.wrap (S.ρ 51 * (2 : Int))) = S.ρ 52 from by rw [w_i64 (by omega) (by omega)]; omega)), (sm (show (IntKind.i64.wrap (S.ρ 52 + (0 : Int))) = S.ρ 52 from by rw [w_i64 (by omega) (by omega)]; omega)), (sm (show (IntKind.i64.wrap (S.ρ 52 + (1 : Int))) = S.ρ 53 from by rw [w_i64 (by omega) (by omega)]; omega)), (sm (show (IntKind.i64.wrap (S.ρ 35 + S.ρ 52)) = S.ρ 54 from by rw [w_i64 (by omega) (by omega)]; omega)), (sm (show (IntKind.i64.wrap (S.ρ 35 + S.ρ 53)) = S.ρ 55 from by rw [w_i64 (by omega) (by omega)]; omega)), (sm (show (IntKind.i64.wrap (S.ρ 54 * (1 : Int))) = S.ρ 54 from by rw [w_i64 (by omega) (by omega)]; omega)), (sm (show (IntKind.i64.wrap (S.ρ 54 + (0 : Int))) = S.ρ 54 from by rw [w_i64 (by omega) (by omega)]; omega)), (fls (p := S.ρ 54 < (0 : Int)) (by omega)), (fls (p := S.ρ 42 ≤ S.ρ 54) (by omega)), (tr (p := (0 : Int) ≤ S.ρ 54) (by omega)), (sm (show (IntKind.i64.wrap (S.ρ 55 * (1 : Int))) = S.ρ 55 from by rw [w_i64 (by omega) (by omega)]; omega)), (sm (show (IntKind.i64.wrap (S.ρ 55 + (0 : Int))) = S.ρ 55 from by rw [w_i64 (by omega) (by omega)]; omega)), (fls (p := S.ρ 55 < (0 : Int)) (by omega)), (fls (p := S.ρ 42 ≤ S.ρ 55) (by omega)), (tr (p := (0 : Int) ≤ S.ρ 55) (by omega)), (fls (p := S.ρ 54 = S.ρ 55) (by omega)), (fls (p := S.ρ 55 = S.ρ 54) (by omega)), (sm (show (IntKind.i64.wrap (S.ρ 70 + S.ρ 20)) = S.ρ 71 from by rw [w_i64 (by omega) (by omega)]; omega)), (sm (show (IntKind.i64.wrap (S.ρ 71 * (2 : Int))) = S.ρ 72 from by rw [w_i64 (by omega) (by omega)]; omega)), (sm (show (IntKind.i64.wrap (S.ρ 72 + (0 : Int))) = S.ρ 72 from by rw [w_i64 (by omega) (by omega)]; omega)), (sm (show (IntKind.i64.wrap (S.ρ 72 + (1 : Int))) = S.ρ 73 from by rw [w_i64 (by omega) (by omega)]; omega)), (sm (show (IntKind.i64.wrap (S.ρ 35 + S.ρ 72)) = S.ρ 74 from by rw [w_i64 (by omega) (by omega)]; omega)), (sm (show (IntKind.i64.wrap (S.ρ 35 + S.ρ 73)) = S.ρ 75 from by rw [w_i64 (by omega) (by omega)]; omega)), (sm (show (IntKind.i64.wrap (S.ρ 74 * (1 : Int))) = S.ρ 74 from by rw [w_i64 (by omega) (by omega)]; omega)), (sm (show (IntKind.i64.wrap (S.ρ 74 + (0 : Int))) = S.ρ 74 from by rw [w_i64 (by omega) (by omega)]; omega)), (fls (p := S.ρ 74 < (0 : Int)) (by omega)), (fls (p := S.ρ 42 ≤ S.ρ 74) (by omega)), (tr (p := (0 : Int) ≤ S.ρ 74) (by omega)), (sm (show (IntKind.i64.wrap (S.ρ 75 * (1 : Int))) = S.ρ 75 from by rw [w_i64 (by omega) (by omega)]; omega)), (sm (show (IntKind.i64.wrap (S.ρ 75 + (0 : Int))) = S.ρ 75 from by rw [w_i64 (by omega) (by omega)]; omega)), (fls (p := S.ρ 75 < (0 : Int)) (by omega)), (fls (p := S.ρ 42 ≤ S.ρ 75) (by omega)), (tr (p := (0 : Int) ≤ S.ρ 75) (by omega)), (fls (p := S.ρ 74 = S.ρ 75) (by omega)), (fls (p := S.ρ 75 = S.ρ 74) (by omega)), (tr (p := S.ρ 54 < S.ρ 42) (by omega)), (tr (p := S.ρ 55 < S.ρ 42) (by omega)), (tr (p := S.ρ 74 < S.ρ 42) (by omega)), (tr (p := S.ρ 75 < S.ρ 42) (by omega)), trivial⟩
theorem alC_ok {S : Sy} (h : TIn S) (hc : 0 ≤ S.ρ 20 ∧ S.ρ 20 ≤ 3) : AlOk S alCL := alE alC_all alC_eq (alC_h h hc)
def alNE : List En := [.ds (.bin .lss (.var .i64 20) (.lit .i64 0)) true, .ds (.bin .gtr (.var .i64 20) (.lit .i64 3)) false, .ds (.bin .geq (.var .i64 20) (.lit .i64 4)) false]
def alNL : List (Nat × Value) := [(5499537852651, .bool true), (703945508919035, .bool false), (1407856288995587, .bool false)]
theorem alN_eq : alNL = alNE.map En.pr := by kernel_rfl
theorem alN_all : (alNE.all En.okB) = true := by kernel_rfl
set_option maxHeartbeats 4000000 in
theorem alN_h {S : Sy} (h : TIn S) (hc : S.ρ 20 < 0) : AllH S alNE := by
  have gt := h.t
  exact ⟨(tr (p := S.ρ 20 < (0 : Int)) (by omega)), (fls (p := (3 : Int) < S.ρ 20) (by omega)), (fls (p := (4 : Int) ≤ S.ρ 20) (by omega)), trivial⟩
theorem alN_ok {S : Sy} (h : TIn S) (hc : S.ρ 20 < 0) : AlOk S alNL := alE alN_all alN_eq (alN_h h hc)
def alHE : List En := [.ds (.bin .lss (.var .i64 20) (.lit .i64 0)) false, .ds (.bin .gtr (.var .i64 20) (.lit .i64 3)) true, .ds (.bin .geq (.var .i64 20) (.lit .i64 4)) true]
def alHL : List (Nat × Value) := [(5499537852651, .bool false), (703945508919035, .bool true), (1407856288995587, .bool true)]
theorem alH_eq : alHL = alHE.map En.pr := by kernel_rfl
theorem alH_all : (alHE.all En.okB) = true := by kernel_rfl
set_option maxHeartbeats 4000000 in
theorem alH_h {S : Sy} (h : TIn S) (hc : 3 < S.ρ 20) : AllH S alHE := by
  have gt := h.t
  exact ⟨(fls (p := S.ρ 20 < (0 : Int)) (by omega)), (tr (p := (3 : Int) < S.ρ 20) (by omega)), (tr (p := (4 : Int) ≤ S.ρ 20) (by omega)), trivial⟩
theorem alH_ok {S : Sy} (h : TIn S) (hc : 3 < S.ρ 20) : AlOk S alHL := alE alH_all alH_eq (alH_h h hc)
def alD000E : List En := [.ds (.bin .eql (.var .u64 21) (.lit .u64 0)) false, .ds (.bin .neq (.var .u64 21) (.lit .u64 0)) true, .ds (.bin .neq (.var .u64 21) (.var .u64 21)) false, .ds (.bin .eql (.var .u64 22) (.lit .u64 0)) false, .ds (.bin .neq (.var .u64 22) (.lit .u64 0)) true, .ds (.bin .neq (.var .u64 22) (.var .u64 22)) false, .ds (.bin .eql (.var .u64 25) (.lit .u64 0)) false, .ds (.bin .neq (.var .u64 25) (.lit .u64 0)) true, .ds (.bin .neq (.var .u64 25) (.var .u64 25)) false]
def alD000L : List (Nat × Value) := [(5776697460959, .bool false), (5776697460967, .bool true), (5915183813762279, .bool false), (6051575367903, .bool false), (6051575367911, .bool true), (6196675970342119, .bool false), (6876209088735, .bool false), (6876209088743, .bool true), (7041152440081639, .bool false)]
theorem alD000_eq : alD000L = alD000E.map En.pr := by kernel_rfl
theorem alD000_all : (alD000E.all En.okB) = true := by kernel_rfl
theorem alD000_ok {S : Sy} (d21 : S.ρ 21 ≠ 0) (d22 : S.ρ 22 ≠ 0) (d25 : S.ρ 25 ≠ 0) : AlOk S alD000L := alE alD000_all alD000_eq ⟨(fls (p := S.ρ 21 = (0 : Int)) (by exact d21)), (tr (p := S.ρ 21 ≠ (0 : Int)) (by exact d21)), (fls (p := S.ρ 21 ≠ S.ρ 21) (by exact fun h => h rfl)), (fls (p := S.ρ 22 = (0 : Int)) (by exact d22)), (tr (p := S.ρ 22 ≠ (0 : Int)) (by exact d22)), (fls (p := S.ρ 22 ≠ S.ρ 22) (by exact fun h => h rfl)), (fls (p := S.ρ 25 = (0 : Int)) (by exact d25)), (tr (p := S.ρ 25 ≠ (0 : Int)) (by exact d25)), (fls (p := S.ρ 25 ≠ S.ρ 25) (by exact fun h => h rfl)), trivial⟩
def alD001E : List En := [.ds (.bin .eql (.var .u64 21) (.lit .u64 0)) false, .ds (.bin .neq (.var .u64 21) (.lit .u64 0)) true, .ds (.bin .neq (.var .u64 21) (.var .u64 21)) false, .ds (.bin .eql (.var .u64 22) (.lit .u64 0)) false, .ds (.bin .neq (.var .u64 22) (.lit .u64 0)) true, .ds (.bin .neq (.var .u64 22) (.var .u64 22)) false, .ds (.bin .eql (.var .u64 25) (.lit .u64 0)) true, .ds (.bin .neq (.var .u64 25) (.lit .u64 0)) false, .ds (.bin .neq (.var .u64 25) (.var .u64 25)) false]
def alD001L : List (Nat × Value) := [(5776697460959, .bool false), (5776697460967, .bool true), (5915183813762279, .bool false), (6051575367903, .bool false), (6051575367911, .bool true), (6196675970342119, .bool false), (6876209088735, .bool true), (6876209088743, .bool false), (7041152440081639, .bool false)]
theorem alD001_eq : alD001L = alD001E.map En.pr := by kernel_rfl
theorem alD001_all : (alD001E.all En.okB) = true := by kernel_rfl
theorem alD001_ok {S : Sy} (d21 : S.ρ 21 ≠ 0) (d22 : S.ρ 22 ≠ 0) (d25 : S.ρ 25 = 0) : AlOk S alD001L := alE alD001_all alD001_eq ⟨(fls (p := S.ρ 21 = (0 : Int)) (by exact d21)), (tr (p := S.ρ 21 ≠ (0 : Int)) (by exact d21)), (fls (p := S.ρ 21 ≠ S.ρ 21) (by exact fun h => h rfl)), (fls (p := S.ρ 22 = (0 : Int)) (by exact d22)), (tr (p := S.ρ 22 ≠ (0 : Int)) (by exact d22)), (fls (p := S.ρ 22 ≠ S.ρ 22) (by exact fun h => h rfl)), (tr (p := S.ρ 25 = (0 : Int)) (by exact d25)), (fls (p := S.ρ 25 ≠ (0 : Int)) (by exact fun h => h d25)), (fls (p := S.ρ 25 ≠ S.ρ 25) (by exact fun h => h rfl)), trivial⟩
def alD010E : List En := [.ds (.bin .eql (.var .u64 21) (.lit .u64 0)) false, .ds (.bin .neq (.var .u64 21) (.lit .u64 0)) true, .ds (.bin .neq (.var .u64 21) (.var .u64 21)) false, .ds (.bin .eql (.var .u64 22) (.lit .u64 0)) true, .ds (.bin .neq (.var .u64 22) (.lit .u64 0)) false, .ds (.bin .neq (.var .u64 22) (.var .u64 22)) false, .ds (.bin .eql (.var .u64 25) (.lit .u64 0)) false, .ds (.bin .neq (.var .u64 25) (.lit .u64 0)) true, .ds (.bin .neq (.var .u64 25) (.var .u64 25)) false]
def alD010L : List (Nat × Value) := [(5776697460959, .bool false), (5776697460967, .bool true), (5915183813762279, .bool false), (6051575367903, .bool true), (6051575367911, .bool false), (6196675970342119, .bool false), (6876209088735, .bool false), (6876209088743, .bool true), (7041152440081639, .bool false)]
theorem alD010_eq : alD010L = alD010E.map En.pr := by kernel_rfl
theorem alD010_all : (alD010E.all En.okB) = true := by kernel_rfl
theorem alD010_ok {S : Sy} (d21 : S.ρ 21 ≠ 0) (d22 : S.ρ 22 = 0) (d25 : S.ρ 25 ≠ 0) : AlOk S alD010L := alE alD010_all alD010_eq ⟨(fls (p := S.ρ 21 = (0 : Int)) (by exact d21)), (tr (p := S.ρ 21 ≠ (0 : Int)) (by exact d21)), (fls (p := S.ρ 21 ≠ S.ρ 21) (by exact fun h => h rfl)), (tr (p := S.ρ 22 = (0 : Int)) (by exact d22)), (fls (p := S.ρ 22 ≠ (0 : Int)) (by exact fun h => h d22)), (fls (p := S.ρ 22 ≠ S.ρ 22) (by exact fun h => h rfl)), (fls (p := S.ρ 25 = (0 : Int)) (by exact d25)), (tr (p := S.ρ 25 ≠ (0 : Int)) (by exact d25)), (fls (p := S.ρ 25 ≠ S.ρ 25) (by exact fun h => h rfl)), trivial⟩
def alD011E : List En := [.ds (.bin .eql (.var .u64 21) (.lit .u64 0)) false, .ds (.bin .neq (.var .u64 21) (.lit .u64 0)) true, .ds (.bin .neq (.var .u64 21) (.var .u64 21)) false, .ds (.bin .eql (.var .u64 22) (.lit .u64 0)) true, .ds (.bin .neq (.var .u64 22) (.lit .u64 0)) false, .ds (.bin .neq (.var .u64 22) (.var .u64 22)) false, .ds (.bin .eql (.var .u64 25) (.lit .u64 0)) true, .ds (.bin .neq (.var .u64 25) (.lit .u64 0)) false, .ds (.bin .neq (.var .u64 25) (.var .u64 25)) false]
def alD011L : List (Nat × Value) := [(5776697460959, .bool false), (5776697460967, .bool true), (5915183813762279, .bool false), (6051575367903, .bool true), (6051575367911, .bool false), (6196675970342119, .bool false), (6876209088735, .bool true), (6876209088743, .bool false), (7041152440081639, .bool false)]
theorem alD011_eq : alD011L = alD011E.map En.pr := by kernel_rfl
theorem alD011_all : (alD011E.all En.okB) = true := by kernel_rfl
theorem alD011_ok {S : Sy} (d21 : S.ρ 21 ≠ 0) (d22 : S.ρ 22 = 0) (d25 : S.ρ 25 = 0) : AlOk S alD011L := alE alD011_all alD011_eq ⟨(fls (p := S.ρ 21 = (0 : Int)) (by exact d21)), (tr (p := S.ρ 21 ≠ (0 : Int)) (by exact d21)), (fls (p := S.ρ 21 ≠ S.ρ 21) (by exact fun h => h rfl)), (tr (p := S.ρ 22 = (0 : Int)) (by exact d22)), (fls (p := S.ρ 22 ≠ (0 : Int)) (by exact fun h => h d22)), (fls (p := S.ρ 22 ≠ S.ρ 22) (by exact fun h => h rfl)), (tr (p := S.ρ 25 = (0 : Int)) (by exact d25)), (fls (p := S.ρ 25 ≠ (0 : Int)) (by exact fun h => h d25)), (fls (p := S.ρ 25 ≠ S.ρ 25) (by exact fun h => h rfl)), trivial⟩
def alD100E : List En := [.ds (.bin .eql (.var .u64 21) (.lit .u64 0)) true, .ds (.bin .neq (.var .u64 21) (.lit .u64 0)) false, .ds (.bin .neq (.var .u64 21) (.var .u64 21)) false, .ds (.bin .eql (.var .u64 22) (.lit .u64 0)) false, .ds (.bin .neq (.var .u64 22) (.lit .u64 0)) true, .ds (.bin .neq (.var .u64 22) (.var .u64 22)) false, .ds (.bin .eql (.var .u64 25) (.lit .u64 0)) false, .ds (.bin .neq (.var .u64 25) (.lit .u64 0)) true, .ds (.bin .neq (.var .u64 25) (.var .u64 25)) false]
def alD100L : List (Nat × Value) := [(5776697460959, .bool true), (5776697460967, .bool false), (5915183813762279, .bool false), (6051575367903, .bool false), (6051575367911, .bool true), (6196675970342119, .bool false), (6876209088735, .bool false), (6876209088743, .bool true), (7041152440081639, .bool false)]
theorem alD100_eq : alD100L = alD100E.map En.pr := by kernel_rfl
theorem alD100_all : (alD100E.all En.okB) = true := by kernel_rfl
theorem alD100_ok {S : Sy} (d21 : S.ρ 21 = 0) (d22 : S.ρ 22 ≠ 0) (d25 : S.ρ 25 ≠ 0) : AlOk S alD100L := alE alD100_all alD100_eq ⟨(tr (p := S.ρ 21 = (0 : Int)) (by exact d21)), (fls (p := S.ρ 21 ≠ (0 : Int)) (by exact fun h => h d21)), (fls (p := S.ρ 21 ≠ S.ρ 21) (by exact fun h => h rfl)), (fls (p := S.ρ 22 = (0 : Int)) (by exact d22)), (tr (p := S.ρ 22 ≠ (0 : Int)) (by exact d22)), (fls (p := S.ρ 22 ≠ S.ρ 22) (by exact fun h => h rfl)), (fls (p := S.ρ 25 = (0 : Int)) (by exact d25)), (tr (p := S.ρ 25 ≠ (0 : Int)) (by exact d25)), (fls (p := S.ρ 25 ≠ S.ρ 25) (by exact fun h => h rfl)), trivial⟩
def alD101E : List En := [.ds (.bin .eql (.var .u64 21) (.lit .u64 0)) true, .ds (.bin .neq (.var .u64 21) (.lit .u64 0)) false, .ds (.bin .neq (.var .u64 21) (.var .u64 21)) false, .ds (.bin .eql (.var .u64 22) (.lit .u64 0)) false, .ds (.bin .neq (.var .u64 22) (.lit .u64 0)) true, .ds (.bin .neq (.var .u64 22) (.var .u64 22)) false, .ds (.bin .eql (.var .u64 25) (.lit .u64 0)) true, .ds (.bin .neq (.var .u64 25) (.lit .u64 0)) false, .ds (.bin .neq (.var .u64 25) (.var .u64 25)) false]
def alD101L : List (Nat × Value) := [(5776697460959, .bool true), (5776697460967, .bool false), (5915183813762279, .bool false), (6051575367903, .bool false), (6051575367911, .bool true), (6196675970342119, .bool false), (6876209088735, .bool true), (6876209088743, .bool false), (7041152440081639, .bool false)]
theorem alD101_eq : alD101L = alD101E.map En.pr := by kernel_rfl
theorem alD101_all : (alD101E.all En.okB) = true := by kernel_rfl
theorem alD101_ok {S : Sy} (d21 : S.ρ 21 = 0) (d22 : S.ρ 22 ≠ 0) (d25 : S.ρ 25 = 0) : AlOk S alD101L := alE alD101_all alD101_eq ⟨(tr (p := S.ρ 21 = (0 : Int)) (by exact d21)), (fls (p := S.ρ 21 ≠ (0 : Int)) (by exact fun h => h d21)), (fls (p := S.ρ 21 ≠ S.ρ 21) (by exact fun h => h rfl)), (fls (p := S.ρ 22 = (0 : Int)) (by exact d22)), (tr (p := S.ρ 22 ≠ (0 : Int)) (by exact d22)), (fls (p := S.ρ 22 ≠ S.ρ 22) (by exact fun h => h rfl)), (tr (p := S.ρ 25 = (0 : Int)) (by exact d25)), (fls (p := S.ρ 25 ≠ (0 : Int)) (by exact fun h => h d25)), (fls (p := S.ρ 25 ≠ S.ρ 25) (by exact fun h => h rfl)), trivial⟩
def alD110E : List En := [.ds (.bin .eql (.var .u64 21) (.lit .u64 0)) true, .ds (.bin .neq (.var .u64 21) (.lit .u64 0)) false, .ds (.bin .neq (.var .u64 21) (.var .u64 21)) false, .ds (.bin .eql (.var .u64 22) (.lit .u64 0)) true, .ds (.bin .neq (.var .u64 22) (.lit .u64 0)) false, .ds (.bin .neq (.var .u64 22) (.var .u64 22)) false, .ds (.bin .eql (.var .u64 25) (.lit .u64 0)) false, .ds (.bin .neq (.var .u64 25) (.lit .u64 0)) true, .ds (.bin .neq (.var .u64 25) (.var .u64 25)) false]
def alD110L : List (Nat × Value) := [(5776697460959, .bool true), (5776697460967, .bool false), (5915183813762279, .bool false), (6051575367903, .bool true), (6051575367911, .bool false), (6196675970342119, .bool false), (6876209088735, .bool false), (6876209088743, .bool true), (7041152440081639, .bool false)]
theorem alD110_eq : alD110L = alD110E.map En.pr := by kernel_rfl
theorem alD110_all : (alD110E.all En.okB) = true := by kernel_rfl
theorem alD110_ok {S : Sy} (d21 : S.ρ 21 = 0) (d22 : S.ρ 22 = 0) (d25 : S.ρ 25 ≠ 0) : AlOk S alD110L := alE alD110_all alD110_eq ⟨(tr (p := S.ρ 21 = (0 : Int)) (by exact d21)), (fls (p := S.ρ 21 ≠ (0 : Int)) (by exact fun h => h d21)), (fls (p := S.ρ 21 ≠ S.ρ 21) (by exact fun h => h rfl)), (tr (p := S.ρ 22 = (0 : Int)) (by exact d22)), (fls (p := S.ρ 22 ≠ (0 : Int)) (by exact fun h => h d22)), (fls (p := S.ρ 22 ≠ S.ρ 22) (by exact fun h => h rfl)), (fls (p := S.ρ 25 = (0 : Int)) (by exact d25)), (tr (p := S.ρ 25 ≠ (0 : Int)) (by exact d25)), (fls (p := S.ρ 25 ≠ S.ρ 25) (by exact fun h => h rfl)), trivial⟩
def alD111E : List En := [.ds (.bin .eql (.var .u64 21) (.lit .u64 0)) true, .ds (.bin .neq (.var .u64 21) (.lit .u64 0)) false, .ds (.bin .neq (.var .u64 21) (.var .u64 21)) false, .ds (.bin .eql (.var .u64 22) (.lit .u64 0)) true, .ds (.bin .neq (.var .u64 22) (.lit .u64 0)) false, .ds (.bin .neq (.var .u64 22) (.var .u64 22)) false, .ds (.bin .eql (.var .u64 25) (.lit .u64 0)) true, .ds (.bin .neq (.var .u64 25) (.lit .u64 0)) false, .ds (.bin .neq (.var .u64 25) (.var .u64 25)) false]
def alD111L : List (Nat × Value) := [(5776697460959, .bool true), (5776697460967, .bool false), (5915183813762279, .bool false), (6051575367903, .bool true), (6051575367911, .bool false), (6196675970342119, .bool false), (6876209088735, .bool true), (6876209088743, .bool false), (7041152440081639, .bool false)]
theorem alD111_eq : alD111L = alD111E.map En.pr := by kernel_rfl
theorem alD111_all : (alD111E.all En.okB) = true := by kernel_rfl
theorem alD111_ok {S : Sy} (d21 : S.ρ 21 = 0) (d22 : S.ρ 22 = 0) (d25 : S.ρ 25 = 0) : AlOk S alD111L := alE alD111_all alD111_eq ⟨(tr (p := S.ρ 21 = (0 : Int)) (by exact d21)), (fls (p := S.ρ 21 ≠ (0 : Int)) (by exact fun h => h d21)), (fls (p := S.ρ 21 ≠ S.ρ 21) (by exact fun h => h rfl)), (tr (p := S.ρ 22 = (0 : Int)) (by exact d22)), (fls (p := S.ρ 22 ≠ (0 : Int)) (by exact fun h => h d22)), (fls (p := S.ρ 22 ≠ S.ρ 22) (by exact fun h => h rfl)), (tr (p := S.ρ 25 = (0 : Int)) (by exact d25)), (fls (p := S.ρ 25 ≠ (0 : Int)) (by exact fun h => h d25)), (fls (p := S.ρ 25 ≠ S.ρ 25) (by exact fun h => h rfl)), trivial⟩
def alE0E : List En := [.ds (.bin .eql (.var .u64 25) (.lit .u64 0)) false]
def alE0L : List (Nat × Value) := [(6876209088735, .bool false)]
theorem alE0_eq : alE0L = alE0E.map En.pr := by kernel_rfl
theorem alE0_all : (alE0E.all En.okB) = true := by kernel_rfl
theorem alE0_ok {S : Sy} (d25 : S.ρ 25 ≠ 0) : AlOk S alE0L := alE alE0_all alE0_eq ⟨(fls (p := S.ρ 25 = (0 : Int)) (by exact d25)), trivial⟩
def alE1E : List En := [.ds (.bin .eql (.var .u64 25) (.lit .u64 0)) true]
def alE1L : List (Nat × Value) := [(6876209088735, .bool true)]
theorem alE1_eq : alE1L = alE1E.map En.pr := by kernel_rfl
theorem alE1_all : (alE1E.all En.okB) = true := by kernel_rfl
theorem alE1_ok {S : Sy} (d25 : S.ρ 25 = 0) : AlOk S alE1L := alE alE1_all alE1_eq ⟨(tr (p := S.ρ 25 = (0 : Int)) (by exact d25)), trivial⟩
end Go.Proofs.YtmeppoihgfdgaaaDoor
