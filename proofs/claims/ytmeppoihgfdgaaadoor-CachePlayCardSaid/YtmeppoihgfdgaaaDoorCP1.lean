/-
  CachePlay: what is common: the names of the numbers, what is decided ahead, what is said of the slots. Conditions: those each says.
-/
import Derived.Test.YtmeppoihgfdgaaaDoorK0
import Derived.Test.YtmeppoihgfdgaaaDoorWT
import Derived.Test.YtmeppoihgfdgaaaDoorWE
namespace Go.Proofs.YtmeppoihgfdgaaaDoor
open Go.Ev Go.RowKit
set_option maxRecDepth 100000
set_option linter.unusedVariables false
/-- What the numbers of a geometry are, of a page and x9 threads. -/
structure GeoP (S : Sy) : Prop where
  K : ∀ x ∈ S.I, x.f + x.ks.length ≤ 60
  t : 1 ≤ S.ρ 9 ∧ S.ρ 9 ≤ 8
  e10 : S.ρ 10 = 4 * S.ρ 9
  e11 : S.ρ 11 = 8 * S.ρ 9
  e12 : S.ρ 12 = 2 * S.ρ 9
  e13 : S.ρ 13 = 2 * S.ρ 9 + 2
  e14 : S.ρ 9 * S.ρ 13 = S.ρ 14
  e23 : S.ρ 23 = 2 * S.ρ 9 + 3
  e24 : S.ρ 9 * S.ρ 23 = S.ρ 24
  e7 : S.ρ 7 = S.ρ 11 + S.ρ 24
  e8 : S.ρ 8 = 8 * S.ρ 7
  b14 : 0 ≤ S.ρ 14 ∧ S.ρ 14 ≤ 144
  b24 : 0 ≤ S.ρ 24 ∧ S.ρ 24 ≤ 152
  e30 : S.ρ 30 = 21 + S.ρ 9
  e31 : S.ρ 31 = 22 + S.ρ 9
  e32 : S.ρ 32 = 23 + S.ρ 9
  e33 : S.ρ 33 = 24 + S.ρ 9
  e34 : S.ρ 34 = 32 + S.ρ 9
  e35 : S.ρ 35 = 40 + S.ρ 9
  e36 : S.ρ 36 = 40 + 9 * S.ρ 9
  e37 : S.ρ 37 = 40 + 13 * S.ρ 9
  e38 : S.ρ 38 = 40 + 15 * S.ρ 9
  e39 : S.ρ 39 = 40 + 16 * S.ρ 9
  e40 : S.ρ 40 = 40 + 16 * S.ρ 9 + S.ρ 14
  e41 : S.ρ 41 = 40 + 16 * S.ρ 9 + S.ρ 14 + S.ρ 7
  e42 : S.ρ 42 = 40 + 16 * S.ρ 9 + S.ρ 14 + 9 * S.ρ 7
theorem GeoP.stay {vs fs : List Nat} {S T : Sy} (h : GeoP S) (y : Stay vs fs S T) (hv : ([7, 8, 9, 10, 11, 12, 13, 14, 23, 24, 30, 31, 32, 33, 34, 35, 36, 37, 38, 39, 40, 41, 42].all fun k => !vs.any fun u => Nat.beq u k) = true) : GeoP T := by
  have e : ∀ k ∈ [7, 8, 9, 10, 11, 12, 13, 14, 23, 24, 30, 31, 32, 33, 34, 35, 36, 37, 38, 39, 40, 41, 42], T.ρ k = S.ρ k := fun k hk => y.num k (by have := List.all_eq_true.1 hv k hk; simpa using this)
  have f7 := e 7 (by decide)
  have f8 := e 8 (by decide)
  have f9 := e 9 (by decide)
  have f10 := e 10 (by decide)
  have f11 := e 11 (by decide)
  have f12 := e 12 (by decide)
  have f13 := e 13 (by decide)
  have f14 := e 14 (by decide)
  have f23 := e 23 (by decide)
  have f24 := e 24 (by decide)
  have f30 := e 30 (by decide)
  have f31 := e 31 (by decide)
  have f32 := e 32 (by decide)
  have f33 := e 33 (by decide)
  have f34 := e 34 (by decide)
  have f35 := e 35 (by decide)
  have f36 := e 36 (by decide)
  have f37 := e 37 (by decide)
  have f38 := e 38 (by decide)
  have f39 := e 39 (by decide)
  have f40 := e 40 (by decide)
  have f41 := e 41 (by decide)
  have f42 := e 42 (by decide)
  exact ⟨by rw [y.1]; exact h.K, by rw [f9]; exact h.t, by rw [f9, f10]; exact h.e10, by rw [f9, f11]; exact h.e11, by rw [f9, f12]; exact h.e12, by rw [f9, f13]; exact h.e13, by rw [f9, f13, f14]; exact h.e14, by rw [f9, f23]; exact h.e23, by rw [f9, f23, f24]; exact h.e24, by rw [f7, f11, f24]; exact h.e7, by rw [f7, f8]; exact h.e8, by rw [f14]; exact h.b14, by rw [f24]; exact h.b24, by rw [f9, f30]; exact h.e30, by rw [f9, f31]; exact h.e31, by rw [f9, f32]; exact h.e32, by rw [f9, f33]; exact h.e33, by rw [f9, f34]; exact h.e34, by rw [f9, f35]; exact h.e35, by rw [f9, f36]; exact h.e36, by rw [f9, f37]; exact h.e37, by rw [f9, f38]; exact h.e38, by rw [f9, f39]; exact h.e39, by rw [f9, f14, f40]; exact h.e40, by rw [f7, f9, f14, f41]; exact h.e41, by rw [f7, f9, f14, f42]; exact h.e42⟩
theorem nonlin1 {t : Int} (ht : 1 ≤ t ∧ t ≤ 8) : (0 ≤ t * (2 * t + 2) ∧ t * (2 * t + 2) ≤ 144) ∧ (0 ≤ t * (2 * t + 3) ∧ t * (2 * t + 3) ≤ 152) := by
  rcases (show t = 1 ∨ t = 2 ∨ t = 3 ∨ t = 4 ∨ t = 5 ∨ t = 6 ∨ t = 7 ∨ t = 8 from by omega) with rfl | rfl | rfl | rfl | rfl | rfl | rfl | rfl <;> omega
def alGE : List En := [.nm (.bin .mul (.lit .i64 1) (.var .i64 7)) 7, .nm (.bin .mul (.var .i64 7) (.lit .i64 1)) 7, .nm (.bin .mul (.lit .i64 1) (.var .i64 8)) 8, .nm (.bin .mul (.var .i64 8) (.lit .i64 1)) 8, .nm (.bin .mul (.lit .i64 1) (.var .i64 9)) 9, .nm (.bin .mul (.var .i64 9) (.lit .i64 1)) 9, .nm (.bin .mul (.lit .i64 1) (.var .i64 10)) 10, .nm (.bin .mul (.var .i64 10) (.lit .i64 1)) 10, .nm (.bin .mul (.lit .i64 1) (.var .i64 11)) 11, .nm (.bin .mul (.var .i64 11) (.lit .i64 1)) 11, .nm (.bin .mul (.lit .i64 1) (.var .i64 12)) 12, .nm (.bin .mul (.var .i64 12) (.lit .i64 1)) 12, .nm (.bin .mul (.lit .i64 1) (.var .i64 14)) 14, .nm (.bin .mul (.var .i64 14) (.lit .i64 1)) 14, .nm (.bin .mul (.var .i64 9) (.lit .i64 4)) 10, .nm (.bin .mul (.var .i64 10) (.lit .i64 2)) 11, .nm (.bin .mul (.var .i64 9) (.lit .i64 2)) 12, .nm (.bin .mul (.lit .i64 2) (.var .i64 9)) 12, .nm (.bin .add (.var .i64 12) (.lit .i64 2)) 13, .nm (.bin .mul (.var .i64 9) (.var .i64 13)) 14, .nm (.bin .add (.var .i64 12) (.lit .i64 3)) 23, .nm (.bin .mul (.var .i64 9) (.var .i64 23)) 24, .nm (.bin .add (.var .i64 11) (.var .i64 24)) 7, .nm (.bin .mul (.var .i64 7) (.lit .i64 8)) 8]
def alGL : List (Nat × Value) := [(72000932419731, .float .f64 3587), (123265930499219, .float .f64 3587), (143898684955283, .float .f64 4099), (140858116543635, .float .f64 4099), (143915864824467, .float .f64 4611), (158450302588051, .float .f64 4611), (143933044693651, .float .f64 5123), (176042488632467, .float .f64 5123), (143950224562835, .float .f64 5635), (193634674676883, .float .f64 5635), (143967404432019, .float .f64 6147), (211226860721299, .float .f64 6147), (144001764170387, .float .f64 7171), (246411232810131, .float .f64 7171), (633800103041171, .float .f64 5123), (352084608161427, .float .f64 5635), (316900236072595, .float .f64 6147), (284653353179795, .float .f64 6147), (422453352339075, .float .f64 6659), (1267685467888275, .float .f64 7171), (422470532208259, .float .f64 11779), (2535319295499411, .float .f64 12291), (3098286428789891, .float .f64 3587), (986124860267155, .float .f64 4099)]
theorem alG_eq : alGL = alGE.map En.pr := by kernel_rfl
theorem alG_all : (alGE.all En.okB) = true := by kernel_rfl
set_option maxHeartbeats 4000000 in
theorem alG_h {S : Sy} (h : GeoP S) : AllH S alGE := by
  have gt := h.t; have ge10 := h.e10; have ge11 := h.e11; have ge12 := h.e12; have ge13 := h.e13; have ge14 := h.e14; have ge23 := h.e23; have ge24 := h.e24; have ge7 := h.e7; have ge8 := h.e8; have gb14 := h.b14; have gb24 := h.b24; have ge30 := h.e30; have ge31 := h.e31; have ge32 := h.e32; have ge33 := h.e33; have ge34 := h.e34; have ge35 := h.e35; have ge36 := h.e36; have ge37 := h.e37; have ge38 := h.e38; have ge39 := h.e39; have ge40 := h.e40; have ge41 := h.e41; have ge42 := h.e42
  exact ⟨(sm (show (IntKind.i64.wrap ((1 : Int) * S.ρ 7)) = S.ρ 7 from by rw [w_i64 (by omega) (by omega)]; omega)), (sm (show (IntKind.i64.wrap (S.ρ 7 * (1 : Int))) = S.ρ 7 from by rw [w_i64 (by omega) (by omega)]; omega)), (sm (show (IntKind.i64.wrap ((1 : Int) * S.ρ 8)) = S.ρ 8 from by rw [w_i64 (by omega) (by omega)]; omega)), (sm (show (IntKind.i64.wrap (S.ρ 8 * (1 : Int))) = S.ρ 8 from by rw [w_i64 (by omega) (by omega)]; omega)), (sm (show (IntKind.i64.wrap ((1 : Int) * S.ρ 9)) = S.ρ 9 from by rw [w_i64 (by omega) (by omega)]; omega)), (sm (show (IntKind.i64.wrap (S.ρ 9 * (1 : Int))) = S.ρ 9 from by rw [w_i64 (by omega) (by omega)]; omega)), (sm (show (IntKind.i64.wrap ((1 : Int) * S.ρ 10)) = S.ρ 10 from by rw [w_i64 (by omega) (by omega)]; omega)), (sm (show (IntKind.i64.wrap (S.ρ 10 * (1 : Int))) = S.ρ 10 from by rw [w_i64 (by omega) (by omega)]; omega)), (sm (show (IntKind.i64.wrap ((1 : Int) * S.ρ 11)) = S.ρ 11 from by rw [w_i64 (by omega) (by omega)]; omega)), (sm (show (IntKind.i64.wrap (S.ρ 11 * (1 : Int))) = S.ρ 11 from by rw [w_i64 (by omega) (by omega)]; omega)), (sm (show (IntKind.i64.wrap ((1 : Int) * S.ρ 12)) = S.ρ 12 from by rw [w_i64 (by omega) (by omega)]; omega)), (sm (show (IntKind.i64.wrap (S.ρ 12 * (1 : Int))) = S.ρ 12 from by rw [w_i64 (by omega) (by omega)]; omega)), (sm (show (IntKind.i64.wrap ((1 : Int) * S.ρ 14)) = S.ρ 14 from by rw [w_i64 (by omega) (by omega)]; omega)), (sm (show (IntKind.i64.wrap (S.ρ 14 * (1 : Int))) = S.ρ 14 from by rw [w_i64 (by omega) (by omega)]; omega)), (sm (show (IntKind.i64.wrap (S.ρ 9 * (4 : Int))) = S.ρ 10 from by rw [w_i64 (by omega) (by omega)]; omega)), (sm (show (IntKind.i64.wrap (S.ρ 10 * (2 : Int))) = S.ρ 11 from by rw [w_i64 (by omega) (by omega)]; omega)), (sm (show (IntKind.i64.wrap (S.ρ 9 * (2 : Int))) = S.ρ 12 from by rw [w_i64 (by omega) (by omega)]; omega)), (sm (show (IntKind.i64.wrap ((2 : Int) * S.ρ 9)) = S.ρ 12 from by rw [w_i64 (by omega) (by omega)]; omega)), (sm (show (IntKind.i64.wrap (S.ρ 12 + (2 : Int))) = S.ρ 13 from by rw [w_i64 (by omega) (by omega)]; omega)), (sm (show (IntKind.i64.wrap (S.ρ 9 * S.ρ 13)) = S.ρ 14 from by rw [← h.e14]; exact w_i64 (by omega) (by omega))), (sm (show (IntKind.i64.wrap (S.ρ 12 + (3 : Int))) = S.ρ 23 from by rw [w_i64 (by omega) (by omega)]; omega)), (sm (show (IntKind.i64.wrap (S.ρ 9 * S.ρ 23)) = S.ρ 24 from by rw [← h.e24]; exact w_i64 (by omega) (by omega))), (sm (show (IntKind.i64.wrap (S.ρ 11 + S.ρ 24)) = S.ρ 7 from by rw [w_i64 (by omega) (by omega)]; omega)), (sm (show (IntKind.i64.wrap (S.ρ 7 * (8 : Int))) = S.ρ 8 from by rw [w_i64 (by omega) (by omega)]; omega)), trivial⟩
theorem alG_ok {S : Sy} (h : GeoP S) : AlOk S alGL := alE alG_all alG_eq (alG_h h)
def alLE : List En := [.nm (.bin .add (.lit .i64 21) (.var .i64 9)) 30, .nm (.bin .add (.var .i64 30) (.lit .i64 1)) 31, .nm (.bin .add (.var .i64 31) (.lit .i64 1)) 32, .nm (.bin .add (.var .i64 32) (.lit .i64 1)) 33, .nm (.bin .add (.var .i64 33) (.lit .i64 8)) 34, .nm (.bin .add (.var .i64 34) (.lit .i64 8)) 35, .nm (.bin .add (.var .i64 35) (.var .i64 11)) 36, .nm (.bin .add (.var .i64 36) (.var .i64 10)) 37, .nm (.bin .add (.var .i64 37) (.var .i64 12)) 38, .nm (.bin .add (.var .i64 38) (.var .i64 9)) 39, .nm (.bin .add (.var .i64 39) (.var .i64 14)) 40, .nm (.bin .add (.var .i64 40) (.var .i64 7)) 41, .nm (.bin .add (.var .i64 41) (.var .i64 8)) 42, .ds (.bin .lss (.var .i64 9) (.lit .i64 1)) false, .ds (.bin .gtr (.var .i64 9) (.lit .i64 64)) false, .ds (.bin .lss (.var .i64 42) (.lit .i64 0)) false, .ds (.bin .gtr (.var .i64 42) (.lit .i64 2097152)) false, .ds (.bin .lss (.var .i64 42) (.lit .i64 4194304)) true, .ds (.bin .geq (.var .i64 42) (.lit .i64 0)) true, .nm (.bin .mul (.lit .i64 4) (.var .i64 9)) 10, .ds (.bin .geq (.var .i64 10) (.lit .i64 0)) true, .ds (.bin .lss (.var .i64 10) (.lit .i64 4194304)) true, .ds (.bin .lss (.lit .i64 0) (.var .i64 42)) true, .ds (.bin .lss (.var .i64 42) (.lit .i64 1)) false, .iv (.bin .mul (.lit .i64 0) (.var .i64 9)) 0]
def alLL : List (Nat × Value) := [(2958665631931011, .float .f64 15363), (527886209520771, .float .f64 15875), (545478395565187, .float .f64 16387), (563070581609603, .float .f64 16899), (4645299557505667, .float .f64 17411), (4786037045860995, .float .f64 17923), (4926825805388419, .float .f64 18435), (5067546113874563, .float .f64 18947), (5208317961968259, .float .f64 19459), (5349003910716035, .float .f64 19971), (5489827298417283, .float .f64 20483), (2815282443720835, .float .f64 20995), (5771199195912835, .float .f64 21507), (158450302588139, .bool false), (10140796112085243, .bool false), (11546851805419, .bool false), (1549778703771104198395, .bool false), (3099557407541839282411, .bool true), (11546851805443, .bool true), (566128329890451, .float .f64 5123), (2750758783235, .bool true), (738374166107016675563, .bool true), (12816283082475, .bool true), (738992442053867, .bool false), (3178376469139, .int .i64 0)]
theorem alL_eq : alLL = alLE.map En.pr := by kernel_rfl
theorem alL_all : (alLE.all En.okB) = true := by kernel_rfl
set_option maxHeartbeats 4000000 in
theorem alL_h {S : Sy} (h : GeoP S) : AllH S alLE := by
  have gt := h.t; have ge10 := h.e10; have ge11 := h.e11; have ge12 := h.e12; have ge13 := h.e13; have ge14 := h.e14; have ge23 := h.e23; have ge24 := h.e24; have ge7 := h.e7; have ge8 := h.e8; have gb14 := h.b14; have gb24 := h.b24; have ge30 := h.e30; have ge31 := h.e31; have ge32 := h.e32; have ge33 := h.e33; have ge34 := h.e34; have ge35 := h.e35; have ge36 := h.e36; have ge37 := h.e37; have ge38 := h.e38; have ge39 := h.e39; have ge40 := h.e40; have ge41 := h.e41; have ge42 := h.e42
  exact ⟨(sm (show (IntKind.i64.wrap ((21 : Int) + S.ρ 9)) = S.ρ 30 from by rw [w_i64 (by omega) (by omega)]; omega)), (sm (show (IntKind.i64.wrap (S.ρ 30 + (1 : Int))) = S.ρ 31 from by rw [w_i64 (by omega) (by omega)]; omega)), (sm (show (IntKind.i64.wrap (S.ρ 31 + (1 : Int))) = S.ρ 32 from by rw [w_i64 (by omega) (by omega)]; omega)), (sm (show (IntKind.i64.wrap (S.ρ 32 + (1 : Int))) = S.ρ 33 from by rw [w_i64 (by omega) (by omega)]; omega)), (sm (show (IntKind.i64.wrap (S.ρ 33 + (8 : Int))) = S.ρ 34 from by rw [w_i64 (by omega) (by omega)]; omega)), (sm (show (IntKind.i64.wrap (S.ρ 34 + (8 : Int))) = S.ρ 35 from by rw [w_i64 (by omega) (by omega)]; omega)), (sm (show (IntKind.i64.wrap (S.ρ 35 + S.ρ 11)) = S.ρ 36 from by rw [w_i64 (by omega) (by omega)]; omega)), (sm (show (IntKind.i64.wrap (S.ρ 36 + S.ρ 10)) = S.ρ 37 from by rw [w_i64 (by omega) (by omega)]; omega)), (sm (show (IntKind.i64.wrap (S.ρ 37 + S.ρ 12)) = S.ρ 38 from by rw [w_i64 (by omega) (by omega)]; omega)), (sm (show (IntKind.i64.wrap (S.ρ 38 + S.ρ 9)) = S.ρ 39 from by rw [w_i64 (by omega) (by omega)]; omega)), (sm (show (IntKind.i64.wrap (S.ρ 39 + S.ρ 14)) = S.ρ 40 from by rw [w_i64 (by omega) (by omega)]; omega)), (sm (show (IntKind.i64.wrap (S.ρ 40 + S.ρ 7)) = S.ρ 41 from by rw [w_i64 (by omega) (by omega)]; omega)), (sm (show (IntKind.i64.wrap (S.ρ 41 + S.ρ 8)) = S.ρ 42 from by rw [w_i64 (by omega) (by omega)]; omega)), (fls (p := S.ρ 9 < (1 : Int)) (by omega)), (fls (p := (64 : Int) < S.ρ 9) (by omega)), (fls (p := S.ρ 42 < (0 : Int)) (by omega)), (fls (p := (2097152 : Int) < S.ρ 42) (by omega)), (tr (p := S.ρ 42 < (4194304 : Int)) (by omega)), (tr (p := (0 : Int) ≤ S.ρ 42) (by omega)), (sm (show (IntKind.i64.wrap ((4 : Int) * S.ρ 9)) = S.ρ 10 from by rw [w_i64 (by omega) (by omega)]; omega)), (tr (p := (0 : Int) ≤ S.ρ 10) (by omega)), (tr (p := S.ρ 10 < (4194304 : Int)) (by omega)), (tr (p := (0 : Int) < S.ρ 42) (by omega)), (fls (p := S.ρ 42 < (1 : Int)) (by omega)), (sm (show (IntKind.i64.wrap ((0 : Int) * S.ρ 9)) = (0 : Int) from by rw [w_i64 (by omega) (by omega)]; omega)), trivial⟩
theorem alL_ok {S : Sy} (h : GeoP S) : AlOk S alLL := alE alL_all alL_eq (alL_h h)
/-- The acts' numbers. -/
def Acts (S : Sy) : Prop := ∀ j : Int, 0 ≤ j → j < S.ρ 1 → (0 ≤ S.Φ 20 [j] ∧ S.Φ 20 [j] < 256) ∧ (0 ≤ S.Φ 21 [j] ∧ S.Φ 21 [j] < 256) ∧ (0 ≤ S.Φ 22 [j] ∧ S.Φ 22 [j] < 256) ∧ (0 ≤ S.Φ 23 [j] ∧ S.Φ 23 [j] < 256)
theorem Acts.stay {vs fs : List Nat} {S T : Sy} (h : Acts S) (y : Stay vs fs S T) (hv : (([1].all fun k => !vs.any fun u => Nat.beq u k) && [20, 21, 22, 23].all fun k => !fs.any fun u => Nat.beq u k) = true) : Acts T := by
  rw [Bool.and_eq_true] at hv
  have e1 : T.ρ 1 = S.ρ 1 := y.num 1 (by have := List.all_eq_true.1 hv.1 1 (by decide); simpa using this)
  have ef : ∀ k ∈ [20, 21, 22, 23], ∀ l, T.Φ k l = S.Φ k l := fun k hk l => y.fn k (by have := List.all_eq_true.1 hv.2 k hk; simpa using this) l
  intro j h0 h1
  rw [ef 20 (by decide), ef 21 (by decide), ef 22 (by decide), ef 23 (by decide)]
  exact h j h0 (by rw [← e1]; exact h1)
/-- The slots' words are those that the document has. -/
def Agree (S : Sy) (f a b : Nat) : Prop := ∀ k : Int, 0 ≤ k → k < S.ρ 10 → S.Φ f [S.ρ 35 + 2 * k] = S.Φ a [k] ∧ S.Φ f [S.ρ 35 + 2 * k + 1] = S.Φ b [k]
theorem Agree.stay {vs fs : List Nat} {S T : Sy} {f a b : Nat} (h : Agree S f a b) (y : Stay vs fs S T) (hv : (([10, 35].all fun k => !vs.any fun u => Nat.beq u k) && [f, a, b].all fun k => !fs.any fun u => Nat.beq u k) = true) : Agree T f a b := by
  rw [Bool.and_eq_true] at hv
  have e : ∀ k ∈ [10, 35], T.ρ k = S.ρ k := fun k hk => y.num k (by have := List.all_eq_true.1 hv.1 k hk; simpa using this)
  have ef : ∀ k ∈ [f, a, b], ∀ l, T.Φ k l = S.Φ k l := fun k hk l => y.fn k (by have := List.all_eq_true.1 hv.2 k hk; simpa using this) l
  intro k h0 h1
  rw [ef f (by simp), ef f (by simp), ef a (by simp), ef b (by simp), e 35 (by decide)]
  rw [e 10 (by decide)] at h1
  exact h k h0 h1
theorem agN {W A B : Int → Int} {n b c : Int} (h : ∀ k : Int, 0 ≤ k → k < n → W (b + 2 * k) = A k ∧ W (b + 2 * k + 1) = B k) (k : Int) (h0 : 0 ≤ k) (h1 : k < n) : W (b + 2 * k) = ifE k c (A c) (A k) ∧ W (b + 2 * k + 1) = ifE k c (B c) (B k) := by
  unfold ifE
  by_cases e : k = c
  · subst e; rw [if_pos rfl, if_pos rfl]; exact h k h0 h1
  · rw [if_neg e, if_neg e]; exact h k h0 h1
theorem ag0 {W A B : Int → Int} {n b c v : Int} (h : ∀ k : Int, 0 ≤ k → k < n → W (b + 2 * k) = A k ∧ W (b + 2 * k + 1) = B k) (k : Int) (h0 : 0 ≤ k) (h1 : k < n) : ifE (b + 2 * k) (b + 2 * c) v (W (b + 2 * k)) = ifE k c v (A k) ∧ ifE (b + 2 * k + 1) (b + 2 * c) v (W (b + 2 * k + 1)) = ifE k c (B c) (B k) := by
  unfold ifE
  by_cases e : k = c
  · subst e; rw [if_pos rfl, if_pos rfl, if_neg (by omega), if_pos rfl]; exact ⟨rfl, (h k h0 h1).2⟩
  · rw [if_neg (by omega), if_neg e, if_neg (by omega), if_neg e]; exact h k h0 h1
theorem ag1 {W A B : Int → Int} {n b c v : Int} (h : ∀ k : Int, 0 ≤ k → k < n → W (b + 2 * k) = A k ∧ W (b + 2 * k + 1) = B k) (k : Int) (h0 : 0 ≤ k) (h1 : k < n) : ifE (b + 2 * k) (b + 2 * c + 1) v (W (b + 2 * k)) = ifE k c (A c) (A k) ∧ ifE (b + 2 * k + 1) (b + 2 * c + 1) v (W (b + 2 * k + 1)) = ifE k c v (B k) := by
  unfold ifE
  by_cases e : k = c
  · subst e; rw [if_neg (by omega), if_pos rfl, if_pos rfl, if_pos rfl]; exact ⟨(h k h0 h1).1, rfl⟩
  · rw [if_neg (by omega), if_neg e, if_neg (by omega), if_neg e]; exact h k h0 h1
theorem rem_den {S : Sy} {f n : Nat} {x : Nat} {i : Int} (hi : S.ρ 17 = i) (hb : 0 ≤ S.Φ f [i] ∧ S.Φ f [i] < 256) (h0 : S.ρ n ≠ 0) (h : S.ρ x = S.Φ f [i] % S.ρ n) (hd : (Tm.conv .i64 (.app .u8 f (.cons (.var .i64 17) .nil))).den S = some [IntKind.i64.wrap (S.Φ f [S.ρ 17])] := by rfl) : (Tm.bin .rem (.conv .i64 (.app .u8 f (.cons (.var .i64 17) .nil))) (.var .i64 n)).den S = some [S.ρ x] :=
  den_bin (k := .i64) (a := IntKind.i64.wrap (S.Φ f [S.ρ 17])) (b := S.ρ n) hd rfl (by
    show (if S.ρ n = 0 then none else some (Value.int .i64 _)) = _
    rw [if_neg h0, hi, w_i64 (by omega) (by omega), Int.tmod_eq_emod_of_nonneg hb.1, h])
/-- At the head of the outer loop. -/
structure InvP (S : Sy) (i : Int) : Prop where
  geo : GeoP S
  i0 : 0 ≤ i
  i1 : i ≤ S.ρ 1
  hi : S.ρ 17 = i
  acts : Acts S
  agree : Agree S 60 61 62
  small : S.ρ 1 ≤ 60
/-- The names of a round. -/
structure RIn (S : Sy) (i : Int) : Prop extends InvP S i where
  lt : i < S.ρ 1
  e26 : S.ρ 26 = S.Φ 21 [i] % S.ρ 9
  e27 : S.ρ 27 = S.Φ 22 [i] % S.ρ 9
  e20 : S.ρ 20 = S.Φ 23 [i] % 4
  e50 : S.ρ 50 = 4 * S.ρ 26
  e51 : S.ρ 51 = 4 * S.ρ 26 + S.ρ 20
  e52 : S.ρ 52 = 8 * S.ρ 26 + 2 * S.ρ 20
  e53 : S.ρ 53 = 8 * S.ρ 26 + 2 * S.ρ 20 + 1
  e54 : S.ρ 54 = S.ρ 35 + 2 * S.ρ 51
  e55 : S.ρ 55 = S.ρ 35 + 2 * S.ρ 51 + 1
  e70 : S.ρ 70 = 4 * S.ρ 27
  e71 : S.ρ 71 = 4 * S.ρ 27 + S.ρ 20
  e72 : S.ρ 72 = 8 * S.ρ 27 + 2 * S.ρ 20
  e73 : S.ρ 73 = 8 * S.ρ 27 + 2 * S.ρ 20 + 1
  e74 : S.ρ 74 = S.ρ 35 + 2 * S.ρ 71
  e75 : S.ρ 75 = S.ρ 35 + 2 * S.ρ 71 + 1
  b26 : 0 ≤ S.ρ 26 ∧ S.ρ 26 < S.ρ 9
  b27 : 0 ≤ S.ρ 27 ∧ S.ρ 27 < S.ρ 9
  b20 : 0 ≤ S.ρ 20 ∧ S.ρ 20 < 4
theorem InvP.stay {vs fs : List Nat} {S T : Sy} {i : Int} (h : InvP S i) (y : Stay vs fs S T) (hg : ([7, 8, 9, 10, 11, 12, 13, 14, 23, 24, 30, 31, 32, 33, 34, 35, 36, 37, 38, 39, 40, 41, 42].all fun k => !vs.any fun u => Nat.beq u k) = true) (hv : ([1, 17].all fun k => !vs.any fun u => Nat.beq u k) = true) (hf : ([20, 21, 22, 23, 60, 61, 62].all fun k => !fs.any fun u => Nat.beq u k) = true) : InvP T i := by
  have e : ∀ k ∈ [1, 17], T.ρ k = S.ρ k := fun k hk => y.num k (by have := List.all_eq_true.1 hv k hk; simpa using this)
  have f1 := e 1 (by decide)
  exact ⟨h.geo.stay y hg, h.i0, by rw [f1]; exact h.i1, by rw [e 17 (by decide)]; exact h.hi, h.acts.stay y (by
    rw [Bool.and_eq_true]
    exact ⟨List.all_eq_true.2 fun k hk => List.all_eq_true.1 hv k (by revert k; decide), List.all_eq_true.2 fun k hk => List.all_eq_true.1 hf k (by revert k; decide)⟩), h.agree.stay y (by
    rw [Bool.and_eq_true]
    exact ⟨List.all_eq_true.2 fun k hk => List.all_eq_true.1 hg k (by revert k; decide), List.all_eq_true.2 fun k hk => List.all_eq_true.1 hf k (by revert k; decide)⟩), by rw [f1]; exact h.small⟩
theorem RIn.stay {vs fs : List Nat} {S T : Sy} {i : Int} (h : RIn S i) (y : Stay vs fs S T) (hg : ([7, 8, 9, 10, 11, 12, 13, 14, 23, 24, 30, 31, 32, 33, 34, 35, 36, 37, 38, 39, 40, 41, 42].all fun k => !vs.any fun u => Nat.beq u k) = true) (hv : ([1, 9, 17, 20, 26, 27, 35, 50, 51, 52, 53, 54, 55, 70, 71, 72, 73, 74, 75].all fun k => !vs.any fun u => Nat.beq u k) = true) (hf : ([20, 21, 22, 23, 60, 61, 62].all fun k => !fs.any fun u => Nat.beq u k) = true) : RIn T i := by
  have e : ∀ k ∈ [1, 9, 17, 20, 26, 27, 35, 50, 51, 52, 53, 54, 55, 70, 71, 72, 73, 74, 75], T.ρ k = S.ρ k := fun k hk => y.num k (by have := List.all_eq_true.1 hv k hk; simpa using this)
  have ef : ∀ k ∈ [21, 22, 23], ∀ l, T.Φ k l = S.Φ k l := fun k hk l => y.fn k (by have := List.all_eq_true.1 hf k (by revert k; decide); simpa using this) l
  have f1 := e 1 (by decide)
  have f9 := e 9 (by decide)
  have f17 := e 17 (by decide)
  have f20 := e 20 (by decide)
  have f26 := e 26 (by decide)
  have f27 := e 27 (by decide)
  have f35 := e 35 (by decide)
  have f50 := e 50 (by decide)
  have f51 := e 51 (by decide)
  have f52 := e 52 (by decide)
  have f53 := e 53 (by decide)
  have f54 := e 54 (by decide)
  have f55 := e 55 (by decide)
  have f70 := e 70 (by decide)
  have f71 := e 71 (by decide)
  have f72 := e 72 (by decide)
  have f73 := e 73 (by decide)
  have f74 := e 74 (by decide)
  have f75 := e 75 (by decide)
  have c21 := ef 21 (by decide) [i]
  have c22 := ef 22 (by decide) [i]
  have c23 := ef 23 (by decide) [i]
  exact { toInvP := h.toInvP.stay y hg (List.all_eq_true.2 fun k hk => List.all_eq_true.1 hv k (by revert k; decide)) hf, lt := by rw [f1]; exact h.lt, e26 := by rw [f9, f26, c21]; exact h.e26, e27 := by rw [f9, f27, c22]; exact h.e27, e20 := by rw [f20, c23]; exact h.e20, e50 := by rw [f26, f50]; exact h.e50, e51 := by rw [f20, f26, f51]; exact h.e51, e52 := by rw [f20, f26, f52]; exact h.e52, e53 := by rw [f20, f26, f53]; exact h.e53, e54 := by rw [f35, f51, f54]; exact h.e54, e55 := by rw [f35, f51, f55]; exact h.e55, e70 := by rw [f27, f70]; exact h.e70, e71 := by rw [f20, f27, f71]; exact h.e71, e72 := by rw [f20, f27, f72]; exact h.e72, e73 := by rw [f20, f27, f73]; exact h.e73, e74 := by rw [f35, f71, f74]; exact h.e74, e75 := by rw [f35, f71, f75]; exact h.e75, b26 := by rw [f9, f26]; exact h.b26, b27 := by rw [f9, f27]; exact h.b27, b20 := by rw [f20]; exact h.b20 }
set_option maxHeartbeats 4000000 in
theorem namesP {S : Sy} {i : Int} (N : InvP S i) (hi : i < S.ρ 1) : ∃ T, RIn T i ∧ Stay [20, 26, 27, 50, 51, 52, 53, 54, 55, 70, 71, 72, 73, 74, 75] [] S T := by
  obtain ⟨T, hT⟩ : ∃ T : Sy, T = S.set (upd S.ρ [(20, S.Φ 23 [i] % 4), (26, S.Φ 21 [i] % S.ρ 9), (27, S.Φ 22 [i] % S.ρ 9), (50, 4 * (S.Φ 21 [i] % S.ρ 9)), (51, 4 * (S.Φ 21 [i] % S.ρ 9) + (S.Φ 23 [i] % 4)), (52, 8 * (S.Φ 21 [i] % S.ρ 9) + 2 * (S.Φ 23 [i] % 4)), (53, 8 * (S.Φ 21 [i] % S.ρ 9) + 2 * (S.Φ 23 [i] % 4) + 1), (54, S.ρ 35 + 2 * (4 * (S.Φ 21 [i] % S.ρ 9) + (S.Φ 23 [i] % 4))), (55, S.ρ 35 + 2 * (4 * (S.Φ 21 [i] % S.ρ 9) + (S.Φ 23 [i] % 4)) + 1), (70, 4 * (S.Φ 22 [i] % S.ρ 9)), (71, 4 * (S.Φ 22 [i] % S.ρ 9) + (S.Φ 23 [i] % 4)), (72, 8 * (S.Φ 22 [i] % S.ρ 9) + 2 * (S.Φ 23 [i] % 4)), (73, 8 * (S.Φ 22 [i] % S.ρ 9) + 2 * (S.Φ 23 [i] % 4) + 1), (74, S.ρ 35 + 2 * (4 * (S.Φ 22 [i] % S.ρ 9) + (S.Φ 23 [i] % 4))), (75, S.ρ 35 + 2 * (4 * (S.Φ 22 [i] % S.ρ 9) + (S.Φ 23 [i] % 4)) + 1)]) [] 60 rfl N.geo.K := ⟨_, rfl⟩
  have y : Stay [20, 26, 27, 50, 51, 52, 53, 54, 55, 70, 71, 72, 73, 74, 75] [] S T := by rw [hT]; exact (Stay.refl _ _ _).set rfl rfl
  have s20 : T.ρ 20 = S.Φ 23 [i] % 4 := by rw [hT]; rfl
  have s26 : T.ρ 26 = S.Φ 21 [i] % S.ρ 9 := by rw [hT]; rfl
  have s27 : T.ρ 27 = S.Φ 22 [i] % S.ρ 9 := by rw [hT]; rfl
  have s50 : T.ρ 50 = 4 * (S.Φ 21 [i] % S.ρ 9) := by rw [hT]; rfl
  have s51 : T.ρ 51 = 4 * (S.Φ 21 [i] % S.ρ 9) + (S.Φ 23 [i] % 4) := by rw [hT]; rfl
  have s52 : T.ρ 52 = 8 * (S.Φ 21 [i] % S.ρ 9) + 2 * (S.Φ 23 [i] % 4) := by rw [hT]; rfl
  have s53 : T.ρ 53 = 8 * (S.Φ 21 [i] % S.ρ 9) + 2 * (S.Φ 23 [i] % 4) + 1 := by rw [hT]; rfl
  have s54 : T.ρ 54 = S.ρ 35 + 2 * (4 * (S.Φ 21 [i] % S.ρ 9) + (S.Φ 23 [i] % 4)) := by rw [hT]; rfl
  have s55 : T.ρ 55 = S.ρ 35 + 2 * (4 * (S.Φ 21 [i] % S.ρ 9) + (S.Φ 23 [i] % 4)) + 1 := by rw [hT]; rfl
  have s70 : T.ρ 70 = 4 * (S.Φ 22 [i] % S.ρ 9) := by rw [hT]; rfl
  have s71 : T.ρ 71 = 4 * (S.Φ 22 [i] % S.ρ 9) + (S.Φ 23 [i] % 4) := by rw [hT]; rfl
  have s72 : T.ρ 72 = 8 * (S.Φ 22 [i] % S.ρ 9) + 2 * (S.Φ 23 [i] % 4) := by rw [hT]; rfl
  have s73 : T.ρ 73 = 8 * (S.Φ 22 [i] % S.ρ 9) + 2 * (S.Φ 23 [i] % 4) + 1 := by rw [hT]; rfl
  have s74 : T.ρ 74 = S.ρ 35 + 2 * (4 * (S.Φ 22 [i] % S.ρ 9) + (S.Φ 23 [i] % 4)) := by rw [hT]; rfl
  have s75 : T.ρ 75 = S.ρ 35 + 2 * (4 * (S.Φ 22 [i] % S.ρ 9) + (S.Φ 23 [i] % 4)) + 1 := by rw [hT]; rfl
  clear hT
  obtain ⟨a0, a1, a2, a3⟩ := N.acts i N.i0 hi
  have ht := N.geo.t
  have m1 := Int.emod_nonneg (S.Φ 21 [i]) (show S.ρ 9 ≠ 0 by omega)
  have m2 := Int.emod_lt_of_pos (S.Φ 21 [i]) (show 0 < S.ρ 9 by omega)
  have m3 := Int.emod_nonneg (S.Φ 22 [i]) (show S.ρ 9 ≠ 0 by omega)
  have m4 := Int.emod_lt_of_pos (S.Φ 22 [i]) (show 0 < S.ρ 9 by omega)
  have f9 : T.ρ 9 = S.ρ 9 := y.num 9 rfl
  have f35 : T.ρ 35 = S.ρ 35 := y.num 35 rfl
  have f1 : T.ρ 1 = S.ρ 1 := y.num 1 rfl
  have c21 : T.Φ 21 [i] = S.Φ 21 [i] := y.fn 21 rfl [i]
  have c22 : T.Φ 22 [i] = S.Φ 22 [i] := y.fn 22 rfl [i]
  have c23 : T.Φ 23 [i] = S.Φ 23 [i] := y.fn 23 rfl [i]
  exact ⟨T, { toInvP := N.stay y rfl rfl rfl, lt := by rw [f1]; exact hi, e26 := by rw [s26, c21, f9], e27 := by rw [s27, c22, f9], e20 := by rw [s20, c23], e50 := by rw [s26, s50], e51 := by rw [s20, s26, s51], e52 := by rw [s20, s26, s52], e53 := by rw [s20, s26, s53], e54 := by rw [f35, s51, s54], e55 := by rw [f35, s51, s55], e70 := by rw [s27, s70], e71 := by rw [s20, s27, s71], e72 := by rw [s20, s27, s72], e73 := by rw [s20, s27, s73], e74 := by rw [f35, s71, s74], e75 := by rw [f35, s71, s75], b26 := by rw [s26, f9]; exact ⟨m1, m2⟩, b27 := by rw [s27, f9]; exact ⟨m3, m4⟩, b20 := by rw [s20]; omega }, y⟩
def alRE : List En := [.ds (.bin .lss (.var .i64 17) (.var .i64 1)) true, .ds (.bin .geq (.var .i64 17) (.lit .i64 0)) true, .nm (.bin .rem (.conv .i64 (.app .u8 21 (.cons (.var .i64 17) .nil))) (.var .i64 9)) 26, .nm (.bin .rem (.conv .i64 (.app .u8 22 (.cons (.var .i64 17) .nil))) (.var .i64 9)) 27, .nm (.bin .rem (.conv .i64 (.app .u8 23 (.cons (.var .i64 17) .nil))) (.lit .i64 4)) 20, .ds (.bin .lss (.var .i64 26) (.lit .i64 0)) false, .ds (.bin .lss (.var .i64 27) (.lit .i64 0)) false, .ds (.bin .geq (.var .i64 26) (.var .i64 9)) false, .ds (.bin .geq (.var .i64 27) (.var .i64 9)) false, .ds (.bin .lss (.var .i64 20) (.lit .i64 0)) false, .ds (.bin .geq (.var .i64 20) (.lit .i64 4)) false, .ds (.bin .gtr (.var .i64 20) (.lit .i64 3)) false, .nm (.bin .add (.lit .i64 0) (.var .i64 26)) 26, .nm (.bin .mul (.var .i64 26) (.lit .i64 4)) 50, .nm (.bin .mul (.lit .i64 4) (.var .i64 26)) 50, .nm (.bin .add (.var .i64 50) (.var .i64 20)) 51, .nm (.bin .mul (.var .i64 51) (.lit .i64 2)) 52, .nm (.bin .add (.var .i64 52) (.lit .i64 0)) 52, .nm (.bin .add (.var .i64 52) (.lit .i64 1)) 53, .nm (.bin .add (.var .i64 35) (.var .i64 52)) 54, .nm (.bin .add (.var .i64 35) (.var .i64 53)) 55, .nm (.bin .mul (.var .i64 54) (.lit .i64 1)) 54, .nm (.bin .add (.var .i64 54) (.lit .i64 0)) 54, .ds (.bin .lss (.var .i64 54) (.lit .i64 0)) false, .ds (.bin .geq (.var .i64 54) (.var .i64 42)) false, .ds (.bin .geq (.var .i64 54) (.lit .i64 0)) true, .ds (.bin .lss (.var .i64 54) (.var .i64 42)) true, .nm (.bin .mul (.var .i64 55) (.lit .i64 1)) 55, .nm (.bin .add (.var .i64 55) (.lit .i64 0)) 55, .ds (.bin .lss (.var .i64 55) (.lit .i64 0)) false, .ds (.bin .geq (.var .i64 55) (.var .i64 42)) false, .ds (.bin .geq (.var .i64 55) (.lit .i64 0)) true, .ds (.bin .lss (.var .i64 55) (.var .i64 42)) true, .nm (.bin .mul (.var .i64 51) (.lit .i64 1)) 51, .nm (.bin .add (.var .i64 51) (.lit .i64 0)) 51, .ds (.bin .lss (.var .i64 51) (.lit .i64 0)) false, .ds (.bin .geq (.var .i64 51) (.var .i64 10)) false, .ds (.bin .geq (.var .i64 51) (.lit .i64 0)) true, .ds (.bin .lss (.var .i64 51) (.var .i64 10)) true, .ds (.bin .eql (.var .i64 54) (.var .i64 55)) false, .ds (.bin .eql (.var .i64 55) (.var .i64 54)) false, .nm (.bin .add (.lit .i64 0) (.var .i64 27)) 27, .nm (.bin .mul (.var .i64 27) (.lit .i64 4)) 70, .nm (.bin .mul (.lit .i64 4) (.var .i64 27)) 70, .nm (.bin .add (.var .i64 70) (.var .i64 20)) 71, .nm (.bin .mul (.var .i64 71) (.lit .i64 2)) 72, .nm (.bin .add (.var .i64 72) (.lit .i64 0)) 72, .nm (.bin .add (.var .i64 72) (.lit .i64 1)) 73, .nm (.bin .add (.var .i64 35) (.var .i64 72)) 74, .nm (.bin .add (.var .i64 35) (.var .i64 73)) 75, .nm (.bin .mul (.var .i64 74) (.lit .i64 1)) 74, .nm (.bin .add (.var .i64 74) (.lit .i64 0)) 74, .ds (.bin .lss (.var .i64 74) (.lit .i64 0)) false, .ds (.bin .geq (.var .i64 74) (.var .i64 42)) false, .ds (.bin .geq (.var .i64 74) (.lit .i64 0)) true, .ds (.bin .lss (.var .i64 74) (.var .i64 42)) true, .nm (.bin .mul (.var .i64 75) (.lit .i64 1)) 75, .nm (.bin .add (.var .i64 75) (.lit .i64 0)) 75, .ds (.bin .lss (.var .i64 75) (.lit .i64 0)) false, .ds (.bin .geq (.var .i64 75) (.var .i64 42)) false, .ds (.bin .geq (.var .i64 75) (.lit .i64 0)) true, .ds (.bin .lss (.var .i64 75) (.var .i64 42)) true, .nm (.bin .mul (.var .i64 71) (.lit .i64 1)) 71, .nm (.bin .add (.var .i64 71) (.lit .i64 0)) 71, .ds (.bin .lss (.var .i64 71) (.lit .i64 0)) false, .ds (.bin .geq (.var .i64 71) (.var .i64 10)) false, .ds (.bin .geq (.var .i64 71) (.lit .i64 0)) true, .ds (.bin .lss (.var .i64 71) (.var .i64 10)) true, .ds (.bin .eql (.var .i64 74) (.var .i64 75)) false, .ds (.bin .eql (.var .i64 75) (.var .i64 74)) false]
def alRL : List (Nat × Value) := [(299187522508011, .bool true), (4674904131843, .bool true), (3751310529782407912850993758013824427891363, .float .f64 13315), (3925535101645928406144241557018889752156835, .float .f64 13827), (2049879836754724449718744678011969267046563, .float .f64 10243), (7148805294315, .bool false), (7423683201259, .bool false), (3660154050452227, .bool false), (3800891538807555, .bool false), (5499537852651, .bool false), (1407856288995587, .bool false), (703945508919035, .bool false), (6494091222147, .float .f64 13315), (1830068754061459, .float .f64 25603), (1132393998064787, .float .f64 25603), (14075741801028739, .float .f64 26115), (1794643863803539, .float .f64 26627), (14295630874755, .float .f64 26627), (914914302497923, .float .f64 27139), (19707440358497923, .float .f64 27651), (19707457538367107, .float .f64 28163), (950098674586771, .float .f64 27651), (14845386688643, .float .f64 27651), (14845386688747, .bool false), (30403317674811139, .bool false), (14845386688771, .bool true), (30403317674811115, .bool true), (967690860631187, .float .f64 28163), (15120264595587, .float .f64 28163), (15120264595691, .bool false), (30966267628232451, .bool false), (15120264595715, .bool true), (30966267628232427, .bool true), (897322116453523, .float .f64 26115), (14020752967811, .float .f64 26115), (14020752967915, .bool false), (7178608439204611, .bool false), (14020752967939, .bool true), (7178608439204587, .bool true), (30403541013110491, .bool false), (30966473786662619, .bool false), (6511271091331, .float .f64 13827), (1900437498239123, .float .f64 35843), (1132411177933971, .float .f64 35843), (19705241335241859, .float .f64 36355), (2498331305580179, .float .f64 36867), (19793189013635, .float .f64 36867), (1266758023386243, .float .f64 37379), (39414330860511363, .float .f64 37891), (39414348040380547, .float .f64 38403), (1301942395475091, .float .f64 37891), (20342944827523, .float .f64 37891), (20342944827627, .bool false), (41662316743237379, .bool false), (20342944827651, .bool true), (41662316743237355, .bool true), (1319534581519507, .float .f64 38403), (20617822734467, .float .f64 38403), (20617822734571, .bool false), (42225266696658691, .bool false), (20617822734595, .bool true), (42225266696658667, .bool true), (1249165837341843, .float .f64 36355), (19518311106691, .float .f64 36355), (19518311106795, .bool false), (9993358206311171, .bool false), (19518311106819, .bool true), (9993358206311147, .bool true), (83324478766981339, .bool false), (84450361493954779, .bool false)]
theorem alR_eq : alRL = alRE.map En.pr := by kernel_rfl
theorem alR_all : (alRE.all En.okB) = true := by kernel_rfl
set_option maxHeartbeats 4000000 in
theorem alR_h {S : Sy} {i : Int} (h : RIn S i) : AllH S alRE := by
  have glt := h.lt; have gi0 := h.i0; have ghi := h.hi; have gsmall := h.small; have ge26 := h.e26; have ge27 := h.e27; have ge20 := h.e20; have ge50 := h.e50; have ge51 := h.e51; have ge52 := h.e52; have ge53 := h.e53; have ge54 := h.e54; have ge55 := h.e55; have ge70 := h.e70; have ge71 := h.e71; have ge72 := h.e72; have ge73 := h.e73; have ge74 := h.e74; have ge75 := h.e75; have gb26 := h.b26; have gb27 := h.b27; have gb20 := h.b20; have ggeo_t := h.geo.t; have ggeo_e10 := h.geo.e10; have ggeo_e35 := h.geo.e35; have ggeo_e42 := h.geo.e42; have ggeo_e7 := h.geo.e7; have ggeo_e11 := h.geo.e11; have ggeo_b14 := h.geo.b14; have ggeo_b24 := h.geo.b24
  obtain ⟨a0, a1, a2, a3⟩ := h.acts i h.i0 h.lt
  exact ⟨(tr (p := S.ρ 17 < S.ρ 1) (by omega)), (tr (p := (0 : Int) ≤ S.ρ 17) (by omega)), (rem_den ghi a1 (by omega) ge26), (rem_den ghi a2 (by omega) ge27), (sm (show (IntKind.i64.wrap (S.Φ 23 [S.ρ 17])).tmod (4 : Int) = S.ρ 20 from by rw [ghi, w_i64 (by omega) (by omega), Int.tmod_eq_emod_of_nonneg a3.1, ge20])), (fls (p := S.ρ 26 < (0 : Int)) (by omega)), (fls (p := S.ρ 27 < (0 : Int)) (by omega)), (fls (p := S.ρ 9 ≤ S.ρ 26) (by omega)), (fls (p := S.ρ 9 ≤ S.ρ 27) (by omega)), (fls (p := S.ρ 20 < (0 : Int)) (by omega)), (fls (p := (4 : Int) ≤ S.ρ 20) (by omega)), (fls (p := (3 : Int) < S.ρ 20) (by omega)), (sm (show (IntKind.i64.wrap ((0 : Int) + S.ρ 26)) = S.ρ 26 from by rw [w_i64 (by omega) (by omega)]; omega)), (sm (show (IntKind.i64.wrap (S.ρ 26 * (4 : Int))) = S.ρ 50 from by rw [w_i64 (by omega) (by omega)]; omega)), (sm (show (IntKind.i64.wrap ((4 : Int) * S.ρ 26)) = S.ρ 50 from by rw [w_i64 (by omega) (by omega)]; omega)), (sm (show (IntKind.i64.wrap (S.ρ 50 + S.ρ 20)) = S.ρ 51 from by rw [w_i64 (by omega) (by omega)]; omega)), (sm (show (IntKind.i64.wrap (S.ρ 51 * (2 : Int))) = S.ρ 52 from by rw [w_i64 (by omega) (by omega)]; omega)), (sm (show (IntKind.i64.wrap (S.ρ 52 + (0 : Int))) = S.ρ 52 from by rw [w_i64 (by omega) (by omega)]; omega)), (sm (show (IntKind.i64.wrap (S.ρ 52 + (1 : Int))) = S.ρ 53 from by rw [w_i64 (by omega) (by omega)]; omega)), (sm (show (IntKind.i64.wrap (S.ρ 35 + S.ρ 52)) = S.ρ 54 from by rw [w_i64 (by omega) (by omega)]; omega)), (sm (show (IntKind.i64.wrap (S.ρ 35 + S.ρ 53)) = S.ρ 55 from by rw [w_i64 (by omega) (by omega)]; omega)), (sm (show (IntKind.i64.wrap (S.ρ 54 * (1 : Int))) = S.ρ 54 from by rw [w_i64 (by omega) (by omega)]; omega)), (sm (show (IntKind.i64.wrap (S.ρ 54 + (0 : Int))) = S.ρ 54 from by rw [w_i64 (by omega) (by omega)]; omega)), (fls (p := S.ρ 54 < (0 : Int)) (by omega)), (fls (p := S.ρ 42 ≤ S.ρ 54) (by omega)), (tr (p := (0 : Int) ≤ S.ρ 54) (by omega)), (tr (p := S.ρ 54 < S.ρ 42) (by omega)), (sm (show (IntKind.i64.wrap (S.ρ 55 * (1 : Int))) = S.ρ 55 from by rw [w_i64 (by omega) (by omega)]; omega)), (sm (show (IntKind.i64.wrap (S.ρ 55 + (0 : Int))) = S.ρ 55 from by rw [w_i64 (by omega) (by omega)]; omega)), (fls (p := S.ρ 55 < (0 : Int)) (by omega)), (fls (p := S.ρ 42 ≤ S.ρ 55) (by omega)), (tr (p := (0 : Int) ≤ S.ρ 55) (by omega)), (tr (p := S.ρ 55 < S.ρ 42) (by omega)), (sm (show (IntKind.i64.wrap (S.ρ 51 * (1 : Int))) = S.ρ 51 from by rw [w_i64 (by omega) (by omega)]; omega)), (sm (show (IntKind.i64.wrap (S.ρ 51 + (0 : Int))) = S.ρ 51 from by rw [w_i64 (by omega) (by omega)]; omega)), (fls (p := S.ρ 51 < (0 : Int)) (by omega)), (fls (p := S.ρ 10 ≤ S.ρ 51) (by omega)), (tr (p := (0 : Int) ≤ S.ρ 51) (by omega)), (tr (p := S.ρ 51 < S.ρ 10) (by omega)), (fls (p := S.ρ 54 = S.ρ 55) (by omega)), (fls (p := S.ρ 55 = S.ρ 54) (by omega)), (sm (show (IntKind.i64.wrap ((0 : Int) + S.ρ 27)) = S.ρ 27 from by rw [w_i64 (by omega) (by omega)]; omega)), (sm (show (IntKind.i64.wrap (S.ρ 27 * (4 : Int))) = S.ρ 70 from by rw [w_i64 (by omega) (by omega)]; omega)), (sm (show (IntKind.i64.wrap ((4 : Int) * S.ρ 27)) = S.ρ 70 from by rw [w_i64 (by omega) (by omega)]; omega)), (sm (show (IntKind.i64.wrap (S.ρ 70 + S.ρ 20)) = S.ρ 71 from by rw [w_i64 (by omega) (by omega)]; omega)), (sm (show (IntKind.i64.wrap (S.ρ 71 * (2 : Int))) = S.ρ 72 from by rw [w_i64 (by omega) (by omega)]; omega)), (sm (show (IntKind.i64.wrap (S.ρ 72 + (0 : Int))) = S.ρ 72 from by rw [w_i64 (by omega) (by omega)]; omega)), (sm (show (IntKind.i64.wrap (S.ρ 72 + (1 : Int))) = S.ρ 73 from by rw [w_i64 (by omega) (by omega)]; omega)), (sm (show (IntKind.i64.wrap (S.ρ 35 + S.ρ 72)) = S.ρ 74 from by rw [w_i64 (by omega) (by omega)]; omega)), (sm (show (IntKind.i64.wrap (S.ρ 35 + S.ρ 73)) = S.ρ 75 from by rw [w_i64 (by omega) (by omega)]; omega)), (sm (show (IntKind.i64.wrap (S.ρ 74 * (1 : Int))) = S.ρ 74 from by rw [w_i64 (by omega) (by omega)]; omega)), (sm (show (IntKind.i64.wrap (S.ρ 74 + (0 : Int))) = S.ρ 74 from by rw [w_i64 (by omega) (by omega)]; omega)), (fls (p := S.ρ 74 < (0 : Int)) (by omega)), (fls (p := S.ρ 42 ≤ S.ρ 74) (by omega)), (tr (p := (0 : Int) ≤ S.ρ 74) (by omega)), (tr (p := S.ρ 74 < S.ρ 42) (by omega)), (sm (show (IntKind.i64.wrap (S.ρ 75 * (1 : Int))) = S.ρ 75 from by rw [w_i64 (by omega) (by omega)]; omega)), (sm (show (IntKind.i64.wrap (S.ρ 75 + (0 : Int))) = S.ρ 75 from by rw [w_i64 (by omega) (by omega)]; omega)), (fls (p := S.ρ 75 < (0 : Int)) (by omega)), (fls (p := S.ρ 42 ≤ S.ρ 75) (by omega)), (tr (p := (0 : Int) ≤ S.ρ 75) (by omega)), (tr (p := S.ρ 75 < S.ρ 42) (by omega)), (sm (show (IntKind.i64.wrap (S.ρ 71 * (1 : Int))) = S.ρ 71 from by rw [w_i64 (by omega) (by omega)]; omega)), (sm (show (IntKind.i64.wrap (S.ρ 71 + (0 : Int))) = S.ρ 71 from by rw [w_i64 (by omega) (by omega)]; omega)), (fls (p := S.ρ 71 < (0 : Int)) (by omega)), (fls (p := S.ρ 10 ≤ S.ρ 71) (by omega)), (tr (p := (0 : Int) ≤ S.ρ 71) (by omega)), (tr (p := S.ρ 71 < S.ρ 10) (by omega)), (fls (p := S.ρ 74 = S.ρ 75) (by omega)), (fls (p := S.ρ 75 = S.ρ 74) (by omega)), trivial⟩
theorem alR_ok {S : Sy} {i : Int} (h : RIn S i) : AlOk S alRL := alE alR_all alR_eq (alR_h h)
def alDPiE : List En := [.ds (.bin .eql (.bin .rem (.app .u8 20 (.cons (.var .i64 17) .nil)) (.lit .u8 3)) (.lit .u8 0)) true, .ds (.bin .eql (.app .u64 24 (.cons (.var .i64 17) .nil)) (.lit .u64 0)) true, .ds (.bin .neq (.app .u64 24 (.cons (.var .i64 17) .nil)) (.lit .u64 0)) false]
def alDPiL : List (Nat × Value) := [(14308343831675549678231011677823689186871516, .bool true), (248778625704171682750501987813599, .bool true), (248778625704171682750501987813607, .bool false)]
theorem alDPi_eq : alDPiL = alDPiE.map En.pr := by kernel_rfl
theorem alDPi_all : (alDPiE.all En.okB) = true := by kernel_rfl
/-- The way Pi. -/
structure HPi (S : Sy) : Prop where
  h0 : (S.Φ 20 [S.ρ 17]).tmod 3 = 0
  h1 : S.Φ 24 [S.ρ 17] = 0
theorem HPi.stay {vs fs : List Nat} {S T : Sy} (h : HPi S) (y : Stay vs fs S T) (hv : ([17].all fun k => !vs.any fun u => Nat.beq u k) = true) (hf : ([20, 24].all fun k => !fs.any fun u => Nat.beq u k) = true) : HPi T := by
  have e : ∀ k ∈ ([17] : List Nat), T.ρ k = S.ρ k := fun k hk => y.num k (by have := List.all_eq_true.1 hv k hk; simpa using this)
  have ef : ∀ k ∈ ([20, 24] : List Nat), ∀ l, T.Φ k l = S.Φ k l := fun k hk l => y.fn k (by have := List.all_eq_true.1 hf k hk; simpa using this) l
  have f17 := e 17 (by decide)
  have c20 := ef 20 (by decide)
  have c24 := ef 24 (by decide)
  exact ⟨by rw [c20, f17]; exact h.h0, by rw [c24, f17]; exact h.h1⟩
set_option maxHeartbeats 4000000 in
theorem alDPi_ok {S : Sy} {i : Int} (h : RIn S i) (d : HPi S) : AlOk S alDPiL := by
  refine alE alDPi_all alDPi_eq ?_
  obtain ⟨u0, u1⟩ := h.agree (S.ρ 51) (by have := h.b20; have := h.b26; have := h.b27; have := h.e51; omega) (by have := h.b20; have := h.b26; have := h.b27; have := h.e51; have := h.geo.e10; omega)
  rw [← h.e54] at u0
  rw [← h.e55] at u1
  have d0 := d.h0
  have d1 := d.h1
  exact ⟨(tr (p := ((S.Φ 20 [S.ρ 17]).tmod (3 : Int)) = (0 : Int)) (by omega)), (tr (p := S.Φ 24 [S.ρ 17] = (0 : Int)) (by omega)), (fls (p := S.Φ 24 [S.ρ 17] ≠ (0 : Int)) (by omega)), trivial⟩
def alDP0E : List En := [.ds (.bin .eql (.bin .rem (.app .u8 20 (.cons (.var .i64 17) .nil)) (.lit .u8 3)) (.lit .u8 0)) true, .ds (.bin .eql (.app .u64 24 (.cons (.var .i64 17) .nil)) (.lit .u64 0)) false, .ds (.bin .neq (.app .u64 24 (.cons (.var .i64 17) .nil)) (.lit .u64 0)) true, .ds (.bin .eql (.app .u64 60 (.cons (.var .i64 54) .nil)) (.lit .u64 0)) true, .ds (.bin .neq (.app .u64 60 (.cons (.var .i64 54) .nil)) (.lit .u64 0)) false, .ds (.bin .eql (.app .u64 61 (.cons (.var .i64 51) .nil)) (.lit .u64 0)) true, .ds (.bin .neq (.app .u64 61 (.cons (.var .i64 51) .nil)) (.lit .u64 0)) false]
def alDP0L : List (Nat × Value) := [(14308343831675549678231011677823689186871516, .bool true), (248778625704171682750501987813599, .bool false), (248778625704171682750501987813607, .bool true), (1234060054731562985064089432099039, .bool true), (1234060054731562985064089432099047, .bool false), (1253391726385043483436914155981023, .bool true), (1253391726385043483436914155981031, .bool false)]
theorem alDP0_eq : alDP0L = alDP0E.map En.pr := by kernel_rfl
theorem alDP0_all : (alDP0E.all En.okB) = true := by kernel_rfl
/-- The way P0. -/
structure HP0 (S : Sy) : Prop where
  h0 : (S.Φ 20 [S.ρ 17]).tmod 3 = 0
  h1 : S.Φ 24 [S.ρ 17] ≠ 0
  h2 : S.Φ 61 [S.ρ 51] = 0
theorem HP0.stay {vs fs : List Nat} {S T : Sy} (h : HP0 S) (y : Stay vs fs S T) (hv : ([17, 51].all fun k => !vs.any fun u => Nat.beq u k) = true) (hf : ([20, 24, 61].all fun k => !fs.any fun u => Nat.beq u k) = true) : HP0 T := by
  have e : ∀ k ∈ ([17, 51] : List Nat), T.ρ k = S.ρ k := fun k hk => y.num k (by have := List.all_eq_true.1 hv k hk; simpa using this)
  have ef : ∀ k ∈ ([20, 24, 61] : List Nat), ∀ l, T.Φ k l = S.Φ k l := fun k hk l => y.fn k (by have := List.all_eq_true.1 hf k hk; simpa using this) l
  have f17 := e 17 (by decide)
  have f51 := e 51 (by decide)
  have c20 := ef 20 (by decide)
  have c24 := ef 24 (by decide)
  have c61 := ef 61 (by decide)
  exact ⟨by rw [c20, f17]; exact h.h0, by rw [c24, f17]; exact h.h1, by rw [c61, f51]; exact h.h2⟩
set_option maxHeartbeats 4000000 in
theorem alDP0_ok {S : Sy} {i : Int} (h : RIn S i) (d : HP0 S) : AlOk S alDP0L := by
  refine alE alDP0_all alDP0_eq ?_
  obtain ⟨u0, u1⟩ := h.agree (S.ρ 51) (by have := h.b20; have := h.b26; have := h.b27; have := h.e51; omega) (by have := h.b20; have := h.b26; have := h.b27; have := h.e51; have := h.geo.e10; omega)
  rw [← h.e54] at u0
  rw [← h.e55] at u1
  have d0 := d.h0
  have d1 := d.h1
  have d2 := d.h2
  exact ⟨(tr (p := ((S.Φ 20 [S.ρ 17]).tmod (3 : Int)) = (0 : Int)) (by omega)), (fls (p := S.Φ 24 [S.ρ 17] = (0 : Int)) (by omega)), (tr (p := S.Φ 24 [S.ρ 17] ≠ (0 : Int)) (by omega)), (tr (p := S.Φ 60 [S.ρ 54] = (0 : Int)) (by omega)), (fls (p := S.Φ 60 [S.ρ 54] ≠ (0 : Int)) (by omega)), (tr (p := S.Φ 61 [S.ρ 51] = (0 : Int)) (by omega)), (fls (p := S.Φ 61 [S.ρ 51] ≠ (0 : Int)) (by omega)), trivial⟩
def alDP1E : List En := [.ds (.bin .eql (.bin .rem (.app .u8 20 (.cons (.var .i64 17) .nil)) (.lit .u8 3)) (.lit .u8 0)) true, .ds (.bin .eql (.app .u64 24 (.cons (.var .i64 17) .nil)) (.lit .u64 0)) false, .ds (.bin .neq (.app .u64 24 (.cons (.var .i64 17) .nil)) (.lit .u64 0)) true, .ds (.bin .eql (.app .u64 60 (.cons (.var .i64 54) .nil)) (.lit .u64 0)) false, .ds (.bin .neq (.app .u64 60 (.cons (.var .i64 54) .nil)) (.lit .u64 0)) true, .ds (.bin .eql (.app .u64 61 (.cons (.var .i64 51) .nil)) (.lit .u64 0)) false, .ds (.bin .neq (.app .u64 61 (.cons (.var .i64 51) .nil)) (.lit .u64 0)) true, .ds (.bin .eql (.app .u64 60 (.cons (.var .i64 55) .nil)) (.lit .u64 0)) true, .ds (.bin .neq (.app .u64 60 (.cons (.var .i64 55) .nil)) (.lit .u64 0)) false, .ds (.bin .eql (.app .u64 62 (.cons (.var .i64 51) .nil)) (.lit .u64 0)) true, .ds (.bin .neq (.app .u64 62 (.cons (.var .i64 51) .nil)) (.lit .u64 0)) false]
def alDP1L : List (Nat × Value) := [(14308343831675549678231011677823689186871516, .bool true), (248778625704171682750501987813599, .bool false), (248778625704171682750501987813607, .bool true), (1234060054731562985064089432099039, .bool false), (1234060054731562985064089432099047, .bool true), (1253391726385043483436914155981023, .bool false), (1253391726385043483436914155981031, .bool true), (1234376967381620042414463607900383, .bool true), (1234376967381620042414463607900391, .bool false), (1273674135988695153860861407267039, .bool true), (1273674135988695153860861407267047, .bool false)]
theorem alDP1_eq : alDP1L = alDP1E.map En.pr := by kernel_rfl
theorem alDP1_all : (alDP1E.all En.okB) = true := by kernel_rfl
/-- The way P1. -/
structure HP1 (S : Sy) : Prop where
  h0 : (S.Φ 20 [S.ρ 17]).tmod 3 = 0
  h1 : S.Φ 24 [S.ρ 17] ≠ 0
  h2 : S.Φ 61 [S.ρ 51] ≠ 0
  h3 : S.Φ 62 [S.ρ 51] = 0
theorem HP1.stay {vs fs : List Nat} {S T : Sy} (h : HP1 S) (y : Stay vs fs S T) (hv : ([17, 51].all fun k => !vs.any fun u => Nat.beq u k) = true) (hf : ([20, 24, 61, 62].all fun k => !fs.any fun u => Nat.beq u k) = true) : HP1 T := by
  have e : ∀ k ∈ ([17, 51] : List Nat), T.ρ k = S.ρ k := fun k hk => y.num k (by have := List.all_eq_true.1 hv k hk; simpa using this)
  have ef : ∀ k ∈ ([20, 24, 61, 62] : List Nat), ∀ l, T.Φ k l = S.Φ k l := fun k hk l => y.fn k (by have := List.all_eq_true.1 hf k hk; simpa using this) l
  have f17 := e 17 (by decide)
  have f51 := e 51 (by decide)
  have c20 := ef 20 (by decide)
  have c24 := ef 24 (by decide)
  have c61 := ef 61 (by decide)
  have c62 := ef 62 (by decide)
  exact ⟨by rw [c20, f17]; exact h.h0, by rw [c24, f17]; exact h.h1, by rw [c61, f51]; exact h.h2, by rw [c62, f51]; exact h.h3⟩
set_option maxHeartbeats 4000000 in
theorem alDP1_ok {S : Sy} {i : Int} (h : RIn S i) (d : HP1 S) : AlOk S alDP1L := by
  refine alE alDP1_all alDP1_eq ?_
  obtain ⟨u0, u1⟩ := h.agree (S.ρ 51) (by have := h.b20; have := h.b26; have := h.b27; have := h.e51; omega) (by have := h.b20; have := h.b26; have := h.b27; have := h.e51; have := h.geo.e10; omega)
  rw [← h.e54] at u0
  rw [← h.e55] at u1
  have d0 := d.h0
  have d1 := d.h1
  have d2 := d.h2
  have d3 := d.h3
  exact ⟨(tr (p := ((S.Φ 20 [S.ρ 17]).tmod (3 : Int)) = (0 : Int)) (by omega)), (fls (p := S.Φ 24 [S.ρ 17] = (0 : Int)) (by omega)), (tr (p := S.Φ 24 [S.ρ 17] ≠ (0 : Int)) (by omega)), (fls (p := S.Φ 60 [S.ρ 54] = (0 : Int)) (by omega)), (tr (p := S.Φ 60 [S.ρ 54] ≠ (0 : Int)) (by omega)), (fls (p := S.Φ 61 [S.ρ 51] = (0 : Int)) (by omega)), (tr (p := S.Φ 61 [S.ρ 51] ≠ (0 : Int)) (by omega)), (tr (p := S.Φ 60 [S.ρ 55] = (0 : Int)) (by omega)), (fls (p := S.Φ 60 [S.ρ 55] ≠ (0 : Int)) (by omega)), (tr (p := S.Φ 62 [S.ρ 51] = (0 : Int)) (by omega)), (fls (p := S.Φ 62 [S.ρ 51] ≠ (0 : Int)) (by omega)), trivial⟩
def alDPfE : List En := [.ds (.bin .eql (.bin .rem (.app .u8 20 (.cons (.var .i64 17) .nil)) (.lit .u8 3)) (.lit .u8 0)) true, .ds (.bin .eql (.app .u64 24 (.cons (.var .i64 17) .nil)) (.lit .u64 0)) false, .ds (.bin .neq (.app .u64 24 (.cons (.var .i64 17) .nil)) (.lit .u64 0)) true, .ds (.bin .eql (.app .u64 60 (.cons (.var .i64 54) .nil)) (.lit .u64 0)) false, .ds (.bin .neq (.app .u64 60 (.cons (.var .i64 54) .nil)) (.lit .u64 0)) true, .ds (.bin .eql (.app .u64 61 (.cons (.var .i64 51) .nil)) (.lit .u64 0)) false, .ds (.bin .neq (.app .u64 61 (.cons (.var .i64 51) .nil)) (.lit .u64 0)) true, .ds (.bin .eql (.app .u64 60 (.cons (.var .i64 55) .nil)) (.lit .u64 0)) false, .ds (.bin .neq (.app .u64 60 (.cons (.var .i64 55) .nil)) (.lit .u64 0)) true, .ds (.bin .eql (.app .u64 62 (.cons (.var .i64 51) .nil)) (.lit .u64 0)) false, .ds (.bin .neq (.app .u64 62 (.cons (.var .i64 51) .nil)) (.lit .u64 0)) true]
def alDPfL : List (Nat × Value) := [(14308343831675549678231011677823689186871516, .bool true), (248778625704171682750501987813599, .bool false), (248778625704171682750501987813607, .bool true), (1234060054731562985064089432099039, .bool false), (1234060054731562985064089432099047, .bool true), (1253391726385043483436914155981023, .bool false), (1253391726385043483436914155981031, .bool true), (1234376967381620042414463607900383, .bool false), (1234376967381620042414463607900391, .bool true), (1273674135988695153860861407267039, .bool false), (1273674135988695153860861407267047, .bool true)]
theorem alDPf_eq : alDPfL = alDPfE.map En.pr := by kernel_rfl
theorem alDPf_all : (alDPfE.all En.okB) = true := by kernel_rfl
/-- The way Pf. -/
structure HPf (S : Sy) : Prop where
  h0 : (S.Φ 20 [S.ρ 17]).tmod 3 = 0
  h1 : S.Φ 24 [S.ρ 17] ≠ 0
  h2 : S.Φ 61 [S.ρ 51] ≠ 0
  h3 : S.Φ 62 [S.ρ 51] ≠ 0
theorem HPf.stay {vs fs : List Nat} {S T : Sy} (h : HPf S) (y : Stay vs fs S T) (hv : ([17, 51].all fun k => !vs.any fun u => Nat.beq u k) = true) (hf : ([20, 24, 61, 62].all fun k => !fs.any fun u => Nat.beq u k) = true) : HPf T := by
  have e : ∀ k ∈ ([17, 51] : List Nat), T.ρ k = S.ρ k := fun k hk => y.num k (by have := List.all_eq_true.1 hv k hk; simpa using this)
  have ef : ∀ k ∈ ([20, 24, 61, 62] : List Nat), ∀ l, T.Φ k l = S.Φ k l := fun k hk l => y.fn k (by have := List.all_eq_true.1 hf k hk; simpa using this) l
  have f17 := e 17 (by decide)
  have f51 := e 51 (by decide)
  have c20 := ef 20 (by decide)
  have c24 := ef 24 (by decide)
  have c61 := ef 61 (by decide)
  have c62 := ef 62 (by decide)
  exact ⟨by rw [c20, f17]; exact h.h0, by rw [c24, f17]; exact h.h1, by rw [c61, f51]; exact h.h2, by rw [c62, f51]; exact h.h3⟩
set_option maxHeartbeats 4000000 in
theorem alDPf_ok {S : Sy} {i : Int} (h : RIn S i) (d : HPf S) : AlOk S alDPfL := by
  refine alE alDPf_all alDPf_eq ?_
  obtain ⟨u0, u1⟩ := h.agree (S.ρ 51) (by have := h.b20; have := h.b26; have := h.b27; have := h.e51; omega) (by have := h.b20; have := h.b26; have := h.b27; have := h.e51; have := h.geo.e10; omega)
  rw [← h.e54] at u0
  rw [← h.e55] at u1
  have d0 := d.h0
  have d1 := d.h1
  have d2 := d.h2
  have d3 := d.h3
  exact ⟨(tr (p := ((S.Φ 20 [S.ρ 17]).tmod (3 : Int)) = (0 : Int)) (by omega)), (fls (p := S.Φ 24 [S.ρ 17] = (0 : Int)) (by omega)), (tr (p := S.Φ 24 [S.ρ 17] ≠ (0 : Int)) (by omega)), (fls (p := S.Φ 60 [S.ρ 54] = (0 : Int)) (by omega)), (tr (p := S.Φ 60 [S.ρ 54] ≠ (0 : Int)) (by omega)), (fls (p := S.Φ 61 [S.ρ 51] = (0 : Int)) (by omega)), (tr (p := S.Φ 61 [S.ρ 51] ≠ (0 : Int)) (by omega)), (fls (p := S.Φ 60 [S.ρ 55] = (0 : Int)) (by omega)), (tr (p := S.Φ 60 [S.ρ 55] ≠ (0 : Int)) (by omega)), (fls (p := S.Φ 62 [S.ρ 51] = (0 : Int)) (by omega)), (tr (p := S.Φ 62 [S.ρ 51] ≠ (0 : Int)) (by omega)), trivial⟩
def alDT0E : List En := [.ds (.bin .eql (.bin .rem (.app .u8 20 (.cons (.var .i64 17) .nil)) (.lit .u8 3)) (.lit .u8 0)) false, .ds (.bin .eql (.bin .rem (.app .u8 20 (.cons (.var .i64 17) .nil)) (.lit .u8 3)) (.lit .u8 1)) true, .ds (.bin .eql (.app .u64 60 (.cons (.var .i64 54) .nil)) (.lit .u64 0)) false, .ds (.bin .neq (.app .u64 60 (.cons (.var .i64 54) .nil)) (.lit .u64 0)) true, .ds (.bin .eql (.app .u64 61 (.cons (.var .i64 51) .nil)) (.lit .u64 0)) false, .ds (.bin .neq (.app .u64 61 (.cons (.var .i64 51) .nil)) (.lit .u64 0)) true, .ds (.bin .neq (.app .u64 60 (.cons (.var .i64 54) .nil)) (.app .u64 60 (.cons (.var .i64 54) .nil))) false, .ds (.bin .neq (.app .u64 60 (.cons (.var .i64 55) .nil)) (.app .u64 60 (.cons (.var .i64 55) .nil))) false, .ds (.bin .neq (.app .u64 60 (.cons (.var .i64 54) .nil)) (.app .u64 61 (.cons (.var .i64 51) .nil))) false, .ds (.bin .neq (.app .u64 60 (.cons (.var .i64 55) .nil)) (.app .u64 62 (.cons (.var .i64 51) .nil))) false]
def alDT0L : List (Nat × Value) := [(14308343831675549678231011677823689186871516, .bool false), (915734005227235179406784747380716099772355804, .bool true), (1234060054731562985064089432099039, .bool false), (1234060054731562985064089432099047, .bool true), (1253391726385043483436914155981023, .bool false), (1253391726385043483436914155981031, .bool true), (186485882890003614980776004399200155642094479542115672807, .bool false), (186533773375655674007599702763605643432648649538069897959, .bool false), (186485882890003614980776005607429633984625627843660915431, .bool false), (186533773375655674007599705219678681374843114937932358375, .bool false)]
theorem alDT0_eq : alDT0L = alDT0E.map En.pr := by kernel_rfl
theorem alDT0_all : (alDT0E.all En.okB) = true := by kernel_rfl
/-- The way T0. -/
structure HT0 (S : Sy) : Prop where
  h0 : ¬ (S.Φ 20 [S.ρ 17]).tmod 3 = 0
  h1 : (S.Φ 20 [S.ρ 17]).tmod 3 = 1
  h2 : S.Φ 61 [S.ρ 51] ≠ 0
theorem HT0.stay {vs fs : List Nat} {S T : Sy} (h : HT0 S) (y : Stay vs fs S T) (hv : ([17, 51].all fun k => !vs.any fun u => Nat.beq u k) = true) (hf : ([20, 61].all fun k => !fs.any fun u => Nat.beq u k) = true) : HT0 T := by
  have e : ∀ k ∈ ([17, 51] : List Nat), T.ρ k = S.ρ k := fun k hk => y.num k (by have := List.all_eq_true.1 hv k hk; simpa using this)
  have ef : ∀ k ∈ ([20, 61] : List Nat), ∀ l, T.Φ k l = S.Φ k l := fun k hk l => y.fn k (by have := List.all_eq_true.1 hf k hk; simpa using this) l
  have f17 := e 17 (by decide)
  have f51 := e 51 (by decide)
  have c20 := ef 20 (by decide)
  have c61 := ef 61 (by decide)
  exact ⟨by rw [c20, f17]; exact h.h0, by rw [c20, f17]; exact h.h1, by rw [c61, f51]; exact h.h2⟩
set_option maxHeartbeats 4000000 in
theorem alDT0_ok {S : Sy} {i : Int} (h : RIn S i) (d : HT0 S) : AlOk S alDT0L := by
  refine alE alDT0_all alDT0_eq ?_
  obtain ⟨u0, u1⟩ := h.agree (S.ρ 51) (by have := h.b20; have := h.b26; have := h.b27; have := h.e51; omega) (by have := h.b20; have := h.b26; have := h.b27; have := h.e51; have := h.geo.e10; omega)
  rw [← h.e54] at u0
  rw [← h.e55] at u1
  have d0 := d.h0
  have d1 := d.h1
  have d2 := d.h2
  exact ⟨(fls (p := ((S.Φ 20 [S.ρ 17]).tmod (3 : Int)) = (0 : Int)) (by omega)), (tr (p := ((S.Φ 20 [S.ρ 17]).tmod (3 : Int)) = (1 : Int)) (by omega)), (fls (p := S.Φ 60 [S.ρ 54] = (0 : Int)) (by omega)), (tr (p := S.Φ 60 [S.ρ 54] ≠ (0 : Int)) (by omega)), (fls (p := S.Φ 61 [S.ρ 51] = (0 : Int)) (by omega)), (tr (p := S.Φ 61 [S.ρ 51] ≠ (0 : Int)) (by omega)), (fls (p := S.Φ 60 [S.ρ 54] ≠ S.Φ 60 [S.ρ 54]) (by omega)), (fls (p := S.Φ 60 [S.ρ 55] ≠ S.Φ 60 [S.ρ 55]) (by omega)), (fls (p := S.Φ 60 [S.ρ 54] ≠ S.Φ 61 [S.ρ 51]) (by omega)), (fls (p := S.Φ 60 [S.ρ 55] ≠ S.Φ 62 [S.ρ 51]) (by omega)), trivial⟩
def alDT1E : List En := [.ds (.bin .eql (.bin .rem (.app .u8 20 (.cons (.var .i64 17) .nil)) (.lit .u8 3)) (.lit .u8 0)) false, .ds (.bin .eql (.bin .rem (.app .u8 20 (.cons (.var .i64 17) .nil)) (.lit .u8 3)) (.lit .u8 1)) true, .ds (.bin .eql (.app .u64 60 (.cons (.var .i64 54) .nil)) (.lit .u64 0)) true, .ds (.bin .neq (.app .u64 60 (.cons (.var .i64 54) .nil)) (.lit .u64 0)) false, .ds (.bin .eql (.app .u64 61 (.cons (.var .i64 51) .nil)) (.lit .u64 0)) true, .ds (.bin .neq (.app .u64 61 (.cons (.var .i64 51) .nil)) (.lit .u64 0)) false, .ds (.bin .eql (.app .u64 60 (.cons (.var .i64 55) .nil)) (.lit .u64 0)) false, .ds (.bin .neq (.app .u64 60 (.cons (.var .i64 55) .nil)) (.lit .u64 0)) true, .ds (.bin .eql (.app .u64 62 (.cons (.var .i64 51) .nil)) (.lit .u64 0)) false, .ds (.bin .neq (.app .u64 62 (.cons (.var .i64 51) .nil)) (.lit .u64 0)) true, .ds (.bin .neq (.app .u64 60 (.cons (.var .i64 54) .nil)) (.app .u64 60 (.cons (.var .i64 54) .nil))) false, .ds (.bin .neq (.app .u64 60 (.cons (.var .i64 55) .nil)) (.app .u64 60 (.cons (.var .i64 55) .nil))) false, .ds (.bin .neq (.app .u64 60 (.cons (.var .i64 54) .nil)) (.app .u64 61 (.cons (.var .i64 51) .nil))) false, .ds (.bin .neq (.app .u64 60 (.cons (.var .i64 55) .nil)) (.app .u64 62 (.cons (.var .i64 51) .nil))) false]
def alDT1L : List (Nat × Value) := [(14308343831675549678231011677823689186871516, .bool false), (915734005227235179406784747380716099772355804, .bool true), (1234060054731562985064089432099039, .bool true), (1234060054731562985064089432099047, .bool false), (1253391726385043483436914155981023, .bool true), (1253391726385043483436914155981031, .bool false), (1234376967381620042414463607900383, .bool false), (1234376967381620042414463607900391, .bool true), (1273674135988695153860861407267039, .bool false), (1273674135988695153860861407267047, .bool true), (186485882890003614980776004399200155642094479542115672807, .bool false), (186533773375655674007599702763605643432648649538069897959, .bool false), (186485882890003614980776005607429633984625627843660915431, .bool false), (186533773375655674007599705219678681374843114937932358375, .bool false)]
theorem alDT1_eq : alDT1L = alDT1E.map En.pr := by kernel_rfl
theorem alDT1_all : (alDT1E.all En.okB) = true := by kernel_rfl
/-- The way T1. -/
structure HT1 (S : Sy) : Prop where
  h0 : ¬ (S.Φ 20 [S.ρ 17]).tmod 3 = 0
  h1 : (S.Φ 20 [S.ρ 17]).tmod 3 = 1
  h2 : S.Φ 61 [S.ρ 51] = 0
  h3 : S.Φ 62 [S.ρ 51] ≠ 0
theorem HT1.stay {vs fs : List Nat} {S T : Sy} (h : HT1 S) (y : Stay vs fs S T) (hv : ([17, 51].all fun k => !vs.any fun u => Nat.beq u k) = true) (hf : ([20, 61, 62].all fun k => !fs.any fun u => Nat.beq u k) = true) : HT1 T := by
  have e : ∀ k ∈ ([17, 51] : List Nat), T.ρ k = S.ρ k := fun k hk => y.num k (by have := List.all_eq_true.1 hv k hk; simpa using this)
  have ef : ∀ k ∈ ([20, 61, 62] : List Nat), ∀ l, T.Φ k l = S.Φ k l := fun k hk l => y.fn k (by have := List.all_eq_true.1 hf k hk; simpa using this) l
  have f17 := e 17 (by decide)
  have f51 := e 51 (by decide)
  have c20 := ef 20 (by decide)
  have c61 := ef 61 (by decide)
  have c62 := ef 62 (by decide)
  exact ⟨by rw [c20, f17]; exact h.h0, by rw [c20, f17]; exact h.h1, by rw [c61, f51]; exact h.h2, by rw [c62, f51]; exact h.h3⟩
set_option maxHeartbeats 4000000 in
theorem alDT1_ok {S : Sy} {i : Int} (h : RIn S i) (d : HT1 S) : AlOk S alDT1L := by
  refine alE alDT1_all alDT1_eq ?_
  obtain ⟨u0, u1⟩ := h.agree (S.ρ 51) (by have := h.b20; have := h.b26; have := h.b27; have := h.e51; omega) (by have := h.b20; have := h.b26; have := h.b27; have := h.e51; have := h.geo.e10; omega)
  rw [← h.e54] at u0
  rw [← h.e55] at u1
  have d0 := d.h0
  have d1 := d.h1
  have d2 := d.h2
  have d3 := d.h3
  exact ⟨(fls (p := ((S.Φ 20 [S.ρ 17]).tmod (3 : Int)) = (0 : Int)) (by omega)), (tr (p := ((S.Φ 20 [S.ρ 17]).tmod (3 : Int)) = (1 : Int)) (by omega)), (tr (p := S.Φ 60 [S.ρ 54] = (0 : Int)) (by omega)), (fls (p := S.Φ 60 [S.ρ 54] ≠ (0 : Int)) (by omega)), (tr (p := S.Φ 61 [S.ρ 51] = (0 : Int)) (by omega)), (fls (p := S.Φ 61 [S.ρ 51] ≠ (0 : Int)) (by omega)), (fls (p := S.Φ 60 [S.ρ 55] = (0 : Int)) (by omega)), (tr (p := S.Φ 60 [S.ρ 55] ≠ (0 : Int)) (by omega)), (fls (p := S.Φ 62 [S.ρ 51] = (0 : Int)) (by omega)), (tr (p := S.Φ 62 [S.ρ 51] ≠ (0 : Int)) (by omega)), (fls (p := S.Φ 60 [S.ρ 54] ≠ S.Φ 60 [S.ρ 54]) (by omega)), (fls (p := S.Φ 60 [S.ρ 55] ≠ S.Φ 60 [S.ρ 55]) (by omega)), (fls (p := S.Φ 60 [S.ρ 54] ≠ S.Φ 61 [S.ρ 51]) (by omega)), (fls (p := S.Φ 60 [S.ρ 55] ≠ S.Φ 62 [S.ρ 51]) (by omega)), trivial⟩
def alDTnE : List En := [.ds (.bin .eql (.bin .rem (.app .u8 20 (.cons (.var .i64 17) .nil)) (.lit .u8 3)) (.lit .u8 0)) false, .ds (.bin .eql (.bin .rem (.app .u8 20 (.cons (.var .i64 17) .nil)) (.lit .u8 3)) (.lit .u8 1)) true, .ds (.bin .eql (.app .u64 60 (.cons (.var .i64 54) .nil)) (.lit .u64 0)) true, .ds (.bin .neq (.app .u64 60 (.cons (.var .i64 54) .nil)) (.lit .u64 0)) false, .ds (.bin .eql (.app .u64 61 (.cons (.var .i64 51) .nil)) (.lit .u64 0)) true, .ds (.bin .neq (.app .u64 61 (.cons (.var .i64 51) .nil)) (.lit .u64 0)) false, .ds (.bin .eql (.app .u64 60 (.cons (.var .i64 55) .nil)) (.lit .u64 0)) true, .ds (.bin .neq (.app .u64 60 (.cons (.var .i64 55) .nil)) (.lit .u64 0)) false, .ds (.bin .eql (.app .u64 62 (.cons (.var .i64 51) .nil)) (.lit .u64 0)) true, .ds (.bin .neq (.app .u64 62 (.cons (.var .i64 51) .nil)) (.lit .u64 0)) false, .ds (.bin .neq (.app .u64 60 (.cons (.var .i64 54) .nil)) (.app .u64 60 (.cons (.var .i64 54) .nil))) false, .ds (.bin .neq (.app .u64 60 (.cons (.var .i64 55) .nil)) (.app .u64 60 (.cons (.var .i64 55) .nil))) false, .ds (.bin .neq (.app .u64 60 (.cons (.var .i64 54) .nil)) (.app .u64 61 (.cons (.var .i64 51) .nil))) false, .ds (.bin .neq (.app .u64 60 (.cons (.var .i64 55) .nil)) (.app .u64 62 (.cons (.var .i64 51) .nil))) false]
def alDTnL : List (Nat × Value) := [(14308343831675549678231011677823689186871516, .bool false), (915734005227235179406784747380716099772355804, .bool true), (1234060054731562985064089432099039, .bool true), (1234060054731562985064089432099047, .bool false), (1253391726385043483436914155981023, .bool true), (1253391726385043483436914155981031, .bool false), (1234376967381620042414463607900383, .bool true), (1234376967381620042414463607900391, .bool false), (1273674135988695153860861407267039, .bool true), (1273674135988695153860861407267047, .bool false), (186485882890003614980776004399200155642094479542115672807, .bool false), (186533773375655674007599702763605643432648649538069897959, .bool false), (186485882890003614980776005607429633984625627843660915431, .bool false), (186533773375655674007599705219678681374843114937932358375, .bool false)]
theorem alDTn_eq : alDTnL = alDTnE.map En.pr := by kernel_rfl
theorem alDTn_all : (alDTnE.all En.okB) = true := by kernel_rfl
/-- The way Tn. -/
structure HTn (S : Sy) : Prop where
  h0 : ¬ (S.Φ 20 [S.ρ 17]).tmod 3 = 0
  h1 : (S.Φ 20 [S.ρ 17]).tmod 3 = 1
  h2 : S.Φ 61 [S.ρ 51] = 0
  h3 : S.Φ 62 [S.ρ 51] = 0
theorem HTn.stay {vs fs : List Nat} {S T : Sy} (h : HTn S) (y : Stay vs fs S T) (hv : ([17, 51].all fun k => !vs.any fun u => Nat.beq u k) = true) (hf : ([20, 61, 62].all fun k => !fs.any fun u => Nat.beq u k) = true) : HTn T := by
  have e : ∀ k ∈ ([17, 51] : List Nat), T.ρ k = S.ρ k := fun k hk => y.num k (by have := List.all_eq_true.1 hv k hk; simpa using this)
  have ef : ∀ k ∈ ([20, 61, 62] : List Nat), ∀ l, T.Φ k l = S.Φ k l := fun k hk l => y.fn k (by have := List.all_eq_true.1 hf k hk; simpa using this) l
  have f17 := e 17 (by decide)
  have f51 := e 51 (by decide)
  have c20 := ef 20 (by decide)
  have c61 := ef 61 (by decide)
  have c62 := ef 62 (by decide)
  exact ⟨by rw [c20, f17]; exact h.h0, by rw [c20, f17]; exact h.h1, by rw [c61, f51]; exact h.h2, by rw [c62, f51]; exact h.h3⟩
set_option maxHeartbeats 4000000 in
theorem alDTn_ok {S : Sy} {i : Int} (h : RIn S i) (d : HTn S) : AlOk S alDTnL := by
  refine alE alDTn_all alDTn_eq ?_
  obtain ⟨u0, u1⟩ := h.agree (S.ρ 51) (by have := h.b20; have := h.b26; have := h.b27; have := h.e51; omega) (by have := h.b20; have := h.b26; have := h.b27; have := h.e51; have := h.geo.e10; omega)
  rw [← h.e54] at u0
  rw [← h.e55] at u1
  have d0 := d.h0
  have d1 := d.h1
  have d2 := d.h2
  have d3 := d.h3
  exact ⟨(fls (p := ((S.Φ 20 [S.ρ 17]).tmod (3 : Int)) = (0 : Int)) (by omega)), (tr (p := ((S.Φ 20 [S.ρ 17]).tmod (3 : Int)) = (1 : Int)) (by omega)), (tr (p := S.Φ 60 [S.ρ 54] = (0 : Int)) (by omega)), (fls (p := S.Φ 60 [S.ρ 54] ≠ (0 : Int)) (by omega)), (tr (p := S.Φ 61 [S.ρ 51] = (0 : Int)) (by omega)), (fls (p := S.Φ 61 [S.ρ 51] ≠ (0 : Int)) (by omega)), (tr (p := S.Φ 60 [S.ρ 55] = (0 : Int)) (by omega)), (fls (p := S.Φ 60 [S.ρ 55] ≠ (0 : Int)) (by omega)), (tr (p := S.Φ 62 [S.ρ 51] = (0 : Int)) (by omega)), (fls (p := S.Φ 62 [S.ρ 51] ≠ (0 : Int)) (by omega)), (fls (p := S.Φ 60 [S.ρ 54] ≠ S.Φ 60 [S.ρ 54]) (by omega)), (fls (p := S.Φ 60 [S.ρ 55] ≠ S.Φ 60 [S.ρ 55]) (by omega)), (fls (p := S.Φ 60 [S.ρ 54] ≠ S.Φ 61 [S.ρ 51]) (by omega)), (fls (p := S.Φ 60 [S.ρ 55] ≠ S.Φ 62 [S.ρ 51]) (by omega)), trivial⟩
def alDS0E : List En := [.ds (.bin .eql (.bin .rem (.app .u8 20 (.cons (.var .i64 17) .nil)) (.lit .u8 3)) (.lit .u8 0)) false, .ds (.bin .eql (.bin .rem (.app .u8 20 (.cons (.var .i64 17) .nil)) (.lit .u8 3)) (.lit .u8 1)) false, .ds (.bin .eql (.app .u64 60 (.cons (.var .i64 74) .nil)) (.lit .u64 0)) false, .ds (.bin .neq (.app .u64 60 (.cons (.var .i64 74) .nil)) (.lit .u64 0)) true, .ds (.bin .eql (.app .u64 61 (.cons (.var .i64 71) .nil)) (.lit .u64 0)) false, .ds (.bin .neq (.app .u64 61 (.cons (.var .i64 71) .nil)) (.lit .u64 0)) true, .ds (.bin .neq (.app .u64 60 (.cons (.var .i64 74) .nil)) (.app .u64 60 (.cons (.var .i64 74) .nil))) false, .ds (.bin .neq (.app .u64 60 (.cons (.var .i64 75) .nil)) (.app .u64 60 (.cons (.var .i64 75) .nil))) false, .ds (.bin .neq (.app .u64 60 (.cons (.var .i64 74) .nil)) (.app .u64 61 (.cons (.var .i64 71) .nil))) false, .ds (.bin .neq (.app .u64 60 (.cons (.var .i64 75) .nil)) (.app .u64 62 (.cons (.var .i64 71) .nil))) false]
def alDS0L : List (Nat × Value) := [(14308343831675549678231011677823689186871516, .bool false), (915734005227235179406784747380716099772355804, .bool false), (2457342883951804357508682903193823, .bool false), (2457342883951804357508682903193831, .bool true), (2496956965208936526305454878361823, .bool false), (2496956965208936526305454878361831, .bool true), (742686315013902917040586305174572364616665471533826745575, .bool false), (742782095985207035094233701883576299569207727127349208295, .bool false), (742686315013902917040586307650452443187426021332075193575, .bool false), (742782095985207035094233706874950537967860995520618079463, .bool false)]
theorem alDS0_eq : alDS0L = alDS0E.map En.pr := by kernel_rfl
theorem alDS0_all : (alDS0E.all En.okB) = true := by kernel_rfl
/-- The way S0. -/
structure HS0 (S : Sy) : Prop where
  h0 : ¬ (S.Φ 20 [S.ρ 17]).tmod 3 = 0
  h1 : ¬ (S.Φ 20 [S.ρ 17]).tmod 3 = 1
  h2 : S.Φ 61 [S.ρ 71] ≠ 0
theorem HS0.stay {vs fs : List Nat} {S T : Sy} (h : HS0 S) (y : Stay vs fs S T) (hv : ([17, 71].all fun k => !vs.any fun u => Nat.beq u k) = true) (hf : ([20, 61].all fun k => !fs.any fun u => Nat.beq u k) = true) : HS0 T := by
  have e : ∀ k ∈ ([17, 71] : List Nat), T.ρ k = S.ρ k := fun k hk => y.num k (by have := List.all_eq_true.1 hv k hk; simpa using this)
  have ef : ∀ k ∈ ([20, 61] : List Nat), ∀ l, T.Φ k l = S.Φ k l := fun k hk l => y.fn k (by have := List.all_eq_true.1 hf k hk; simpa using this) l
  have f17 := e 17 (by decide)
  have f71 := e 71 (by decide)
  have c20 := ef 20 (by decide)
  have c61 := ef 61 (by decide)
  exact ⟨by rw [c20, f17]; exact h.h0, by rw [c20, f17]; exact h.h1, by rw [c61, f71]; exact h.h2⟩
set_option maxHeartbeats 4000000 in
theorem alDS0_ok {S : Sy} {i : Int} (h : RIn S i) (d : HS0 S) : AlOk S alDS0L := by
  refine alE alDS0_all alDS0_eq ?_
  obtain ⟨u0, u1⟩ := h.agree (S.ρ 71) (by have := h.b20; have := h.b26; have := h.b27; have := h.e71; omega) (by have := h.b20; have := h.b26; have := h.b27; have := h.e71; have := h.geo.e10; omega)
  rw [← h.e74] at u0
  rw [← h.e75] at u1
  have d0 := d.h0
  have d1 := d.h1
  have d2 := d.h2
  exact ⟨(fls (p := ((S.Φ 20 [S.ρ 17]).tmod (3 : Int)) = (0 : Int)) (by omega)), (fls (p := ((S.Φ 20 [S.ρ 17]).tmod (3 : Int)) = (1 : Int)) (by omega)), (fls (p := S.Φ 60 [S.ρ 74] = (0 : Int)) (by omega)), (tr (p := S.Φ 60 [S.ρ 74] ≠ (0 : Int)) (by omega)), (fls (p := S.Φ 61 [S.ρ 71] = (0 : Int)) (by omega)), (tr (p := S.Φ 61 [S.ρ 71] ≠ (0 : Int)) (by omega)), (fls (p := S.Φ 60 [S.ρ 74] ≠ S.Φ 60 [S.ρ 74]) (by omega)), (fls (p := S.Φ 60 [S.ρ 75] ≠ S.Φ 60 [S.ρ 75]) (by omega)), (fls (p := S.Φ 60 [S.ρ 74] ≠ S.Φ 61 [S.ρ 71]) (by omega)), (fls (p := S.Φ 60 [S.ρ 75] ≠ S.Φ 62 [S.ρ 71]) (by omega)), trivial⟩
def alDS1E : List En := [.ds (.bin .eql (.bin .rem (.app .u8 20 (.cons (.var .i64 17) .nil)) (.lit .u8 3)) (.lit .u8 0)) false, .ds (.bin .eql (.bin .rem (.app .u8 20 (.cons (.var .i64 17) .nil)) (.lit .u8 3)) (.lit .u8 1)) false, .ds (.bin .eql (.app .u64 60 (.cons (.var .i64 74) .nil)) (.lit .u64 0)) true, .ds (.bin .neq (.app .u64 60 (.cons (.var .i64 74) .nil)) (.lit .u64 0)) false, .ds (.bin .eql (.app .u64 61 (.cons (.var .i64 71) .nil)) (.lit .u64 0)) true, .ds (.bin .neq (.app .u64 61 (.cons (.var .i64 71) .nil)) (.lit .u64 0)) false, .ds (.bin .eql (.app .u64 60 (.cons (.var .i64 75) .nil)) (.lit .u64 0)) false, .ds (.bin .neq (.app .u64 60 (.cons (.var .i64 75) .nil)) (.lit .u64 0)) true, .ds (.bin .eql (.app .u64 62 (.cons (.var .i64 71) .nil)) (.lit .u64 0)) false, .ds (.bin .neq (.app .u64 62 (.cons (.var .i64 71) .nil)) (.lit .u64 0)) true, .ds (.bin .neq (.app .u64 60 (.cons (.var .i64 74) .nil)) (.app .u64 60 (.cons (.var .i64 74) .nil))) false, .ds (.bin .neq (.app .u64 60 (.cons (.var .i64 75) .nil)) (.app .u64 60 (.cons (.var .i64 75) .nil))) false, .ds (.bin .neq (.app .u64 60 (.cons (.var .i64 74) .nil)) (.app .u64 61 (.cons (.var .i64 71) .nil))) false, .ds (.bin .neq (.app .u64 60 (.cons (.var .i64 75) .nil)) (.app .u64 62 (.cons (.var .i64 71) .nil))) false]
def alDS1L : List (Nat × Value) := [(14308343831675549678231011677823689186871516, .bool false), (915734005227235179406784747380716099772355804, .bool false), (2457342883951804357508682903193823, .bool true), (2457342883951804357508682903193831, .bool false), (2496956965208936526305454878361823, .bool true), (2496956965208936526305454878361831, .bool false), (2457659796601861414859057078995167, .bool false), (2457659796601861414859057078995175, .bool true), (2537521784416239867153349380933855, .bool false), (2537521784416239867153349380933863, .bool true), (742686315013902917040586305174572364616665471533826745575, .bool false), (742782095985207035094233701883576299569207727127349208295, .bool false), (742686315013902917040586307650452443187426021332075193575, .bool false), (742782095985207035094233706874950537967860995520618079463, .bool false)]
theorem alDS1_eq : alDS1L = alDS1E.map En.pr := by kernel_rfl
theorem alDS1_all : (alDS1E.all En.okB) = true := by kernel_rfl
/-- The way S1. -/
structure HS1 (S : Sy) : Prop where
  h0 : ¬ (S.Φ 20 [S.ρ 17]).tmod 3 = 0
  h1 : ¬ (S.Φ 20 [S.ρ 17]).tmod 3 = 1
  h2 : S.Φ 61 [S.ρ 71] = 0
  h3 : S.Φ 62 [S.ρ 71] ≠ 0
theorem HS1.stay {vs fs : List Nat} {S T : Sy} (h : HS1 S) (y : Stay vs fs S T) (hv : ([17, 71].all fun k => !vs.any fun u => Nat.beq u k) = true) (hf : ([20, 61, 62].all fun k => !fs.any fun u => Nat.beq u k) = true) : HS1 T := by
  have e : ∀ k ∈ ([17, 71] : List Nat), T.ρ k = S.ρ k := fun k hk => y.num k (by have := List.all_eq_true.1 hv k hk; simpa using this)
  have ef : ∀ k ∈ ([20, 61, 62] : List Nat), ∀ l, T.Φ k l = S.Φ k l := fun k hk l => y.fn k (by have := List.all_eq_true.1 hf k hk; simpa using this) l
  have f17 := e 17 (by decide)
  have f71 := e 71 (by decide)
  have c20 := ef 20 (by decide)
  have c61 := ef 61 (by decide)
  have c62 := ef 62 (by decide)
  exact ⟨by rw [c20, f17]; exact h.h0, by rw [c20, f17]; exact h.h1, by rw [c61, f71]; exact h.h2, by rw [c62, f71]; exact h.h3⟩
set_option maxHeartbeats 4000000 in
theorem alDS1_ok {S : Sy} {i : Int} (h : RIn S i) (d : HS1 S) : AlOk S alDS1L := by
  refine alE alDS1_all alDS1_eq ?_
  obtain ⟨u0, u1⟩ := h.agree (S.ρ 71) (by have := h.b20; have := h.b26; have := h.b27; have := h.e71; omega) (by have := h.b20; have := h.b26; have := h.b27; have := h.e71; have := h.geo.e10; omega)
  rw [← h.e74] at u0
  rw [← h.e75] at u1
  have d0 := d.h0
  have d1 := d.h1
  have d2 := d.h2
  have d3 := d.h3
  exact ⟨(fls (p := ((S.Φ 20 [S.ρ 17]).tmod (3 : Int)) = (0 : Int)) (by omega)), (fls (p := ((S.Φ 20 [S.ρ 17]).tmod (3 : Int)) = (1 : Int)) (by omega)), (tr (p := S.Φ 60 [S.ρ 74] = (0 : Int)) (by omega)), (fls (p := S.Φ 60 [S.ρ 74] ≠ (0 : Int)) (by omega)), (tr (p := S.Φ 61 [S.ρ 71] = (0 : Int)) (by omega)), (fls (p := S.Φ 61 [S.ρ 71] ≠ (0 : Int)) (by omega)), (fls (p := S.Φ 60 [S.ρ 75] = (0 : Int)) (by omega)), (tr (p := S.Φ 60 [S.ρ 75] ≠ (0 : Int)) (by omega)), (fls (p := S.Φ 62 [S.ρ 71] = (0 : Int)) (by omega)), (tr (p := S.Φ 62 [S.ρ 71] ≠ (0 : Int)) (by omega)), (fls (p := S.Φ 60 [S.ρ 74] ≠ S.Φ 60 [S.ρ 74]) (by omega)), (fls (p := S.Φ 60 [S.ρ 75] ≠ S.Φ 60 [S.ρ 75]) (by omega)), (fls (p := S.Φ 60 [S.ρ 74] ≠ S.Φ 61 [S.ρ 71]) (by omega)), (fls (p := S.Φ 60 [S.ρ 75] ≠ S.Φ 62 [S.ρ 71]) (by omega)), trivial⟩
def alDSnE : List En := [.ds (.bin .eql (.bin .rem (.app .u8 20 (.cons (.var .i64 17) .nil)) (.lit .u8 3)) (.lit .u8 0)) false, .ds (.bin .eql (.bin .rem (.app .u8 20 (.cons (.var .i64 17) .nil)) (.lit .u8 3)) (.lit .u8 1)) false, .ds (.bin .eql (.app .u64 60 (.cons (.var .i64 74) .nil)) (.lit .u64 0)) true, .ds (.bin .neq (.app .u64 60 (.cons (.var .i64 74) .nil)) (.lit .u64 0)) false, .ds (.bin .eql (.app .u64 61 (.cons (.var .i64 71) .nil)) (.lit .u64 0)) true, .ds (.bin .neq (.app .u64 61 (.cons (.var .i64 71) .nil)) (.lit .u64 0)) false, .ds (.bin .eql (.app .u64 60 (.cons (.var .i64 75) .nil)) (.lit .u64 0)) true, .ds (.bin .neq (.app .u64 60 (.cons (.var .i64 75) .nil)) (.lit .u64 0)) false, .ds (.bin .eql (.app .u64 62 (.cons (.var .i64 71) .nil)) (.lit .u64 0)) true, .ds (.bin .neq (.app .u64 62 (.cons (.var .i64 71) .nil)) (.lit .u64 0)) false, .ds (.bin .neq (.app .u64 60 (.cons (.var .i64 74) .nil)) (.app .u64 60 (.cons (.var .i64 74) .nil))) false, .ds (.bin .neq (.app .u64 60 (.cons (.var .i64 75) .nil)) (.app .u64 60 (.cons (.var .i64 75) .nil))) false, .ds (.bin .neq (.app .u64 60 (.cons (.var .i64 74) .nil)) (.app .u64 61 (.cons (.var .i64 71) .nil))) false, .ds (.bin .neq (.app .u64 60 (.cons (.var .i64 75) .nil)) (.app .u64 62 (.cons (.var .i64 71) .nil))) false]
def alDSnL : List (Nat × Value) := [(14308343831675549678231011677823689186871516, .bool false), (915734005227235179406784747380716099772355804, .bool false), (2457342883951804357508682903193823, .bool true), (2457342883951804357508682903193831, .bool false), (2496956965208936526305454878361823, .bool true), (2496956965208936526305454878361831, .bool false), (2457659796601861414859057078995167, .bool true), (2457659796601861414859057078995175, .bool false), (2537521784416239867153349380933855, .bool true), (2537521784416239867153349380933863, .bool false), (742686315013902917040586305174572364616665471533826745575, .bool false), (742782095985207035094233701883576299569207727127349208295, .bool false), (742686315013902917040586307650452443187426021332075193575, .bool false), (742782095985207035094233706874950537967860995520618079463, .bool false)]
theorem alDSn_eq : alDSnL = alDSnE.map En.pr := by kernel_rfl
theorem alDSn_all : (alDSnE.all En.okB) = true := by kernel_rfl
/-- The way Sn. -/
structure HSn (S : Sy) : Prop where
  h0 : ¬ (S.Φ 20 [S.ρ 17]).tmod 3 = 0
  h1 : ¬ (S.Φ 20 [S.ρ 17]).tmod 3 = 1
  h2 : S.Φ 61 [S.ρ 71] = 0
  h3 : S.Φ 62 [S.ρ 71] = 0
theorem HSn.stay {vs fs : List Nat} {S T : Sy} (h : HSn S) (y : Stay vs fs S T) (hv : ([17, 71].all fun k => !vs.any fun u => Nat.beq u k) = true) (hf : ([20, 61, 62].all fun k => !fs.any fun u => Nat.beq u k) = true) : HSn T := by
  have e : ∀ k ∈ ([17, 71] : List Nat), T.ρ k = S.ρ k := fun k hk => y.num k (by have := List.all_eq_true.1 hv k hk; simpa using this)
  have ef : ∀ k ∈ ([20, 61, 62] : List Nat), ∀ l, T.Φ k l = S.Φ k l := fun k hk l => y.fn k (by have := List.all_eq_true.1 hf k hk; simpa using this) l
  have f17 := e 17 (by decide)
  have f71 := e 71 (by decide)
  have c20 := ef 20 (by decide)
  have c61 := ef 61 (by decide)
  have c62 := ef 62 (by decide)
  exact ⟨by rw [c20, f17]; exact h.h0, by rw [c20, f17]; exact h.h1, by rw [c61, f71]; exact h.h2, by rw [c62, f71]; exact h.h3⟩
set_option maxHeartbeats 4000000 in
theorem alDSn_ok {S : Sy} {i : Int} (h : RIn S i) (d : HSn S) : AlOk S alDSnL := by
  refine alE alDSn_all alDSn_eq ?_
  obtain ⟨u0, u1⟩ := h.agree (S.ρ 71) (by have := h.b20; have := h.b26; have := h.b27; have := h.e71; omega) (by have := h.b20; have := h.b26; have := h.b27; have := h.e71; have := h.geo.e10; omega)
  rw [← h.e74] at u0
  rw [← h.e75] at u1
  have d0 := d.h0
  have d1 := d.h1
  have d2 := d.h2
  have d3 := d.h3
  exact ⟨(fls (p := ((S.Φ 20 [S.ρ 17]).tmod (3 : Int)) = (0 : Int)) (by omega)), (fls (p := ((S.Φ 20 [S.ρ 17]).tmod (3 : Int)) = (1 : Int)) (by omega)), (tr (p := S.Φ 60 [S.ρ 74] = (0 : Int)) (by omega)), (fls (p := S.Φ 60 [S.ρ 74] ≠ (0 : Int)) (by omega)), (tr (p := S.Φ 61 [S.ρ 71] = (0 : Int)) (by omega)), (fls (p := S.Φ 61 [S.ρ 71] ≠ (0 : Int)) (by omega)), (tr (p := S.Φ 60 [S.ρ 75] = (0 : Int)) (by omega)), (fls (p := S.Φ 60 [S.ρ 75] ≠ (0 : Int)) (by omega)), (tr (p := S.Φ 62 [S.ρ 71] = (0 : Int)) (by omega)), (fls (p := S.Φ 62 [S.ρ 71] ≠ (0 : Int)) (by omega)), (fls (p := S.Φ 60 [S.ρ 74] ≠ S.Φ 60 [S.ρ 74]) (by omega)), (fls (p := S.Φ 60 [S.ρ 75] ≠ S.Φ 60 [S.ρ 75]) (by omega)), (fls (p := S.Φ 60 [S.ρ 74] ≠ S.Φ 61 [S.ρ 71]) (by omega)), (fls (p := S.Φ 60 [S.ρ 75] ≠ S.Φ 62 [S.ρ 71]) (by omega)), trivial⟩
/-- At the head of the inner loop. -/
structure InvQ (S : Sy) (k : Int) : Prop where
  geo : GeoP S
  k0 : 0 ≤ k
  k1 : k ≤ S.ρ 10
  hk : S.ρ 28 = k
  e80 : S.ρ 80 = k / 4
  e81 : S.ρ 81 = 4 * (k / 4)
  e82 : S.ρ 82 = k % 4
  e84 : S.ρ 84 = 2 * k
  e85 : S.ρ 85 = 2 * k + 1
  e86 : S.ρ 86 = S.ρ 35 + 2 * k
  e87 : S.ρ 87 = S.ρ 35 + 2 * k + 1
  agree : Agree S 63 64 65
def alQE : List En := [.nm (.bin .quo (.var .i64 28) (.lit .i64 4)) 80, .nm (.bin .rem (.var .i64 28) (.lit .i64 4)) 82, .nm (.bin .add (.lit .i64 0) (.var .i64 80)) 80, .nm (.bin .mul (.var .i64 80) (.lit .i64 4)) 81, .nm (.bin .add (.var .i64 81) (.var .i64 82)) 28, .nm (.bin .mul (.var .i64 28) (.lit .i64 2)) 84, .nm (.bin .add (.var .i64 84) (.lit .i64 0)) 84, .nm (.bin .add (.var .i64 84) (.lit .i64 1)) 85, .nm (.bin .add (.var .i64 35) (.var .i64 84)) 86, .nm (.bin .add (.var .i64 35) (.var .i64 85)) 87, .nm (.bin .mul (.var .i64 86) (.lit .i64 1)) 86, .nm (.bin .add (.var .i64 86) (.lit .i64 0)) 86, .ds (.bin .lss (.var .i64 86) (.lit .i64 0)) false, .ds (.bin .geq (.var .i64 86) (.var .i64 42)) false, .ds (.bin .geq (.var .i64 86) (.lit .i64 0)) true, .ds (.bin .lss (.var .i64 86) (.var .i64 42)) true, .nm (.bin .mul (.var .i64 87) (.lit .i64 1)) 87, .nm (.bin .add (.var .i64 87) (.lit .i64 0)) 87, .ds (.bin .lss (.var .i64 87) (.lit .i64 0)) false, .ds (.bin .geq (.var .i64 87) (.var .i64 42)) false, .ds (.bin .geq (.var .i64 87) (.lit .i64 0)) true, .ds (.bin .lss (.var .i64 87) (.var .i64 42)) true, .nm (.bin .mul (.var .i64 28) (.lit .i64 1)) 28, .nm (.bin .add (.var .i64 28) (.lit .i64 0)) 28, .ds (.bin .geq (.var .i64 28) (.lit .i64 0)) true, .ds (.bin .lss (.var .i64 28) (.lit .i64 0)) false, .ds (.bin .lss (.var .i64 28) (.var .i64 10)) true, .ds (.bin .lss (.var .i64 80) (.lit .i64 0)) false, .ds (.bin .geq (.var .i64 80) (.var .i64 9)) false, .ds (.bin .lss (.var .i64 82) (.lit .i64 0)) false, .ds (.bin .geq (.var .i64 82) (.lit .i64 4)) false, .ds (.bin .neq (.app .u64 63 (.cons (.var .i64 86) .nil)) (.app .u64 64 (.cons (.var .i64 28) .nil))) false, .ds (.bin .neq (.app .u64 63 (.cons (.var .i64 87) .nil)) (.app .u64 65 (.cons (.var .i64 28) .nil))) false]
def alQL : List (Nat × Value) := [(1970806242416795, .float .f64 40963), (1970806242416803, .float .f64 41987), (25563746017411, .float .f64 40963), (5629980939655315, .float .f64 41475), (91205898373963907, .float .f64 14339), (985403305760403, .float .f64 43011), (23091723896963, .float .f64 43011), (1477864255919235, .float .f64 43523), (39414537018941571, .float .f64 44035), (39414554198810755, .float .f64 44547), (1513048628008083, .float .f64 44035), (23641479710851, .float .f64 44035), (23641479710955, .bool false), (48417716184293123, .bool false), (23641479710979, .bool true), (48417716184293099, .bool true), (1530640814052499, .float .f64 44547), (23916357617795, .float .f64 44547), (23916357617899, .bool false), (48980666137714435, .bool false), (23916357617923, .bool true), (48980666137714411, .bool true), (492701837431955, .float .f64 14339), (7698561108099, .float .f64 14339), (7698561108227, .bool true), (7698561108203, .bool false), (3941646207032043, .bool true), (21992212269291, .bool false), (11259978421639939, .bool false), (22541968083179, .bool false), (5770718428010755, .bool false), (390307789825166833142477661375859692951273590480263226087, .bool false), (390355680310818892169301360354283440227376376826183066343, .bool false)]
theorem alQ_eq : alQL = alQE.map En.pr := by kernel_rfl
theorem alQ_all : (alQE.all En.okB) = true := by kernel_rfl
set_option maxHeartbeats 4000000 in
theorem alQ_h {S : Sy} {i : Int} (h : InvQ S i) (hl : i < S.ρ 10) : AllH S alQE := by
  have gk0 := h.k0; have ghk := h.hk; have ge80 := h.e80; have ge81 := h.e81; have ge82 := h.e82; have ge84 := h.e84; have ge85 := h.e85; have ge86 := h.e86; have ge87 := h.e87; have ggeo_t := h.geo.t; have ggeo_e10 := h.geo.e10; have ggeo_e35 := h.geo.e35; have ggeo_e42 := h.geo.e42; have ggeo_e7 := h.geo.e7; have ggeo_e11 := h.geo.e11; have ggeo_b14 := h.geo.b14; have ggeo_b24 := h.geo.b24
  obtain ⟨u0, u1⟩ := h.agree i h.k0 hl
  exact ⟨(sm (show IntKind.i64.wrap ((S.ρ 28).tdiv (4 : Int)) = S.ρ 80 from by rw [ghk, Int.tdiv_eq_ediv_of_nonneg gk0, w_i64 (by omega) (by omega), ge80])), (sm (show (S.ρ 28).tmod (4 : Int) = S.ρ 82 from by rw [ghk, Int.tmod_eq_emod_of_nonneg gk0, ge82])), (sm (show (IntKind.i64.wrap ((0 : Int) + S.ρ 80)) = S.ρ 80 from by rw [w_i64 (by omega) (by omega)]; omega)), (sm (show (IntKind.i64.wrap (S.ρ 80 * (4 : Int))) = S.ρ 81 from by rw [w_i64 (by omega) (by omega)]; omega)), (sm (show (IntKind.i64.wrap (S.ρ 81 + S.ρ 82)) = S.ρ 28 from by rw [w_i64 (by omega) (by omega)]; omega)), (sm (show (IntKind.i64.wrap (S.ρ 28 * (2 : Int))) = S.ρ 84 from by rw [w_i64 (by omega) (by omega)]; omega)), (sm (show (IntKind.i64.wrap (S.ρ 84 + (0 : Int))) = S.ρ 84 from by rw [w_i64 (by omega) (by omega)]; omega)), (sm (show (IntKind.i64.wrap (S.ρ 84 + (1 : Int))) = S.ρ 85 from by rw [w_i64 (by omega) (by omega)]; omega)), (sm (show (IntKind.i64.wrap (S.ρ 35 + S.ρ 84)) = S.ρ 86 from by rw [w_i64 (by omega) (by omega)]; omega)), (sm (show (IntKind.i64.wrap (S.ρ 35 + S.ρ 85)) = S.ρ 87 from by rw [w_i64 (by omega) (by omega)]; omega)), (sm (show (IntKind.i64.wrap (S.ρ 86 * (1 : Int))) = S.ρ 86 from by rw [w_i64 (by omega) (by omega)]; omega)), (sm (show (IntKind.i64.wrap (S.ρ 86 + (0 : Int))) = S.ρ 86 from by rw [w_i64 (by omega) (by omega)]; omega)), (fls (p := S.ρ 86 < (0 : Int)) (by omega)), (fls (p := S.ρ 42 ≤ S.ρ 86) (by omega)), (tr (p := (0 : Int) ≤ S.ρ 86) (by omega)), (tr (p := S.ρ 86 < S.ρ 42) (by omega)), (sm (show (IntKind.i64.wrap (S.ρ 87 * (1 : Int))) = S.ρ 87 from by rw [w_i64 (by omega) (by omega)]; omega)), (sm (show (IntKind.i64.wrap (S.ρ 87 + (0 : Int))) = S.ρ 87 from by rw [w_i64 (by omega) (by omega)]; omega)), (fls (p := S.ρ 87 < (0 : Int)) (by omega)), (fls (p := S.ρ 42 ≤ S.ρ 87) (by omega)), (tr (p := (0 : Int) ≤ S.ρ 87) (by omega)), (tr (p := S.ρ 87 < S.ρ 42) (by omega)), (sm (show (IntKind.i64.wrap (S.ρ 28 * (1 : Int))) = S.ρ 28 from by rw [w_i64 (by omega) (by omega)]; omega)), (sm (show (IntKind.i64.wrap (S.ρ 28 + (0 : Int))) = S.ρ 28 from by rw [w_i64 (by omega) (by omega)]; omega)), (tr (p := (0 : Int) ≤ S.ρ 28) (by omega)), (fls (p := S.ρ 28 < (0 : Int)) (by omega)), (tr (p := S.ρ 28 < S.ρ 10) (by omega)), (fls (p := S.ρ 80 < (0 : Int)) (by omega)), (fls (p := S.ρ 9 ≤ S.ρ 80) (by omega)), (fls (p := S.ρ 82 < (0 : Int)) (by omega)), (fls (p := (4 : Int) ≤ S.ρ 82) (by omega)), (fls (p := S.Φ 63 [S.ρ 86] ≠ S.Φ 64 [S.ρ 28]) (fun hh => hh (by rw [ge86, ghk]; exact u0))), (fls (p := S.Φ 63 [S.ρ 87] ≠ S.Φ 65 [S.ρ 28]) (fun hh => hh (by rw [ge87, ghk]; exact u1))), trivial⟩
theorem alQ_ok {S : Sy} {i : Int} (h : InvQ S i) (hl : i < S.ρ 10) : AlOk S alQL := alE alQ_all alQ_eq (alQ_h h hl)
end Go.Proofs.YtmeppoihgfdgaaaDoor
