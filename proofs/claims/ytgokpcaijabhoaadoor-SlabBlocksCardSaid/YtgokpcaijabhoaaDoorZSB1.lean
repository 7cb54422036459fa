/- Texts of a proof, one behind the other. Conditions: those each says. -/
import Derived.Test.YtgokpcaijabhoaaDoorZ4
namespace Go.Proofs.YtgokpcaijabhoaaDoor
open Go.Ev Go.RowKit
set_option maxRecDepth 100000
set_option linter.unusedVariables false
def lg (x : Int) : Int := if x < 2 then 0 else if x < 4 then 1 else if x < 8 then 2 else if x < 16 then 3 else 4
theorem lg_in (x : Int) : 0 ≤ lg x ∧ lg x ≤ 4 := by unfold lg; omega
def slabW (d : Int) : Int := 11 + 8192 * d
def bitsW (d : Int) : Int := if d = 0 then 4294967806 else if d = 1 then 4294967822 else if d = 2 then 4294968066 else 4294968322
def freeW (l : Int) : Int := 1 + 8 * l
def glS (S : Sy) (x : Int) : List Int := [S.ρ 5, 1, 0, 1, 2, 7, 16, 17, 21, 22, S.ρ 31, S.ρ 32, S.ρ 33, S.ρ 34, S.ρ 35, S.ρ 36, S.ρ 37, S.ρ 38, S.ρ 39, S.ρ 40, S.ρ 41, S.ρ 42, x]
def gCT (t : Tm) : Tm := .cons (.var .i64 5) (.cons (.lit .i64 1) (.cons (.lit .i64 0) (.cons (.lit .i64 1) (.cons (.lit .i64 2) (.cons (.lit .i64 7) (.cons (.lit .i64 16) (.cons (.lit .i64 17) (.cons (.lit .i64 21) (.cons (.lit .i64 22) (.cons (.var .i64 31) (.cons (.var .i64 32) (.cons (.var .i64 33) (.cons (.var .i64 34) (.cons (.var .i64 35) (.cons (.var .i64 36) (.cons (.var .i64 37) (.cons (.var .i64 38) (.cons (.var .i64 39) (.cons (.var .i64 40) (.cons (.var .i64 41) (.cons (.var .i64 42) (.cons t .nil))))))))))))))))))))))
structure GeoS (S : Sy) : Prop where
  I : S.I = []
  lgF : ∀ x : Int, S.Φ 30 [x] = lg x
  pgF : ∀ x : Int, S.Φ 32 (glS S x) = 22 + x
  btF : ∀ x : Int, S.Φ 33 (glS S x) = 22 + S.ρ 5 + x
  rmF : ∀ x : Int, S.Φ 34 (glS S x) = 22 + 2 * S.ρ 5 + x
  n : 1 ≤ S.ρ 5 ∧ S.ρ 5 ≤ 20
  e6 : S.ρ 6 = 8 * S.ρ 5
  e15 : S.ρ 15 = S.ρ 5 + 1
  e16 : S.ρ 16 = 4 * S.ρ 5 + 4
  e7 : S.ρ 7 = 4 * S.ρ 5 + 9
  e8 : S.ρ 8 = 32 * S.ρ 5 + 72
  e18 : S.ρ 18 = 64 * S.ρ 5
  e31 : S.ρ 31 = 22 + S.ρ 5
  e32 : S.ρ 32 = 22 + 2 * S.ρ 5
  e33 : S.ρ 33 = 22 + 3 * S.ρ 5
  e34 : S.ρ 34 = 22 + 11 * S.ρ 5
  e35 : S.ρ 35 = 22 + 19 * S.ρ 5
  e36 : S.ρ 36 = 30 + 19 * S.ρ 5
  e37 : S.ρ 37 = 34 + 19 * S.ρ 5
  e38 : S.ρ 38 = 36 + 19 * S.ρ 5
  e39 : S.ρ 39 = 37 + 19 * S.ρ 5
  e40 : S.ρ 40 = 41 + 19 * S.ρ 5
  e41 : S.ρ 41 = 50 + 23 * S.ρ 5
  e42 : S.ρ 42 = 122 + 55 * S.ρ 5
  w : 0 ≤ S.ρ 17 ∧ S.ρ 17 < S.ρ 5
  c : 0 ≤ S.ρ 20 ∧ S.ρ 20 < 4
theorem GeoS.K {S : Sy} (h : GeoS S) : ∀ x ∈ S.I, x.f + x.ks.length ≤ 60 := by
  rw [h.I]
  intro x hx
  simp at hx
theorem GeoS.stay {vs fs : List Nat} {S T : Sy} (h : GeoS S) (y : Stay vs fs S T) (hv : ([5, 6, 7, 8, 15, 16, 17, 18, 20, 31, 32, 33, 34, 35, 36, 37, 38, 39, 40, 41, 42].all fun k => !vs.any fun u => Nat.beq u k) = true) (hf : ([30, 32, 33, 34].all fun k => !fs.any fun u => Nat.beq u k) = true) : GeoS T := by
  have ef : ∀ k ∈ ([30, 32, 33, 34] : List Nat), (fs.any fun u => Nat.beq u k) = false := fun k hk => by have := List.all_eq_true.1 hf k hk; simpa using this
  have e : ∀ k ∈ ([5, 6, 7, 8, 15, 16, 17, 18, 20, 31, 32, 33, 34, 35, 36, 37, 38, 39, 40, 41, 42] : List Nat), T.ρ k = S.ρ k := fun k hk => y.num k (by have := List.all_eq_true.1 hv k hk; simpa using this)
  have f5 := e 5 (by decide)
  have f6 := e 6 (by decide)
  have f7 := e 7 (by decide)
  have f8 := e 8 (by decide)
  have f15 := e 15 (by decide)
  have f16 := e 16 (by decide)
  have f17 := e 17 (by decide)
  have f18 := e 18 (by decide)
  have f20 := e 20 (by decide)
  have f31 := e 31 (by decide)
  have f32 := e 32 (by decide)
  have f33 := e 33 (by decide)
  have f34 := e 34 (by decide)
  have f35 := e 35 (by decide)
  have f36 := e 36 (by decide)
  have f37 := e 37 (by decide)
  have f38 := e 38 (by decide)
  have f39 := e 39 (by decide)
  have f40 := e 40 (by decide)
  have f41 := e 41 (by decide)
  have f42 := e 42 (by decide)
  have eg : ∀ x, glS T x = glS S x := fun x => by unfold glS; rw [f5, f31, f32, f33, f34, f35, f36, f37, f38, f39, f40, f41, f42]
  exact ⟨y.1.trans h.I, fun x => (y.fn 30 (ef 30 (by decide)) [x]).trans (h.lgF x), fun x => by rw [eg]; exact (y.fn 32 (ef 32 (by decide)) _).trans (h.pgF x), fun x => by rw [eg, f5]; exact (y.fn 33 (ef 33 (by decide)) _).trans (h.btF x), fun x => by rw [eg, f5]; exact (y.fn 34 (ef 34 (by decide)) _).trans (h.rmF x), by rw [f5]; exact h.n, by rw [f5, f6]; exact h.e6, by rw [f5, f15]; exact h.e15, by rw [f5, f16]; exact h.e16, by rw [f5, f7]; exact h.e7, by rw [f5, f8]; exact h.e8, by rw [f5, f18]; exact h.e18, by rw [f5, f31]; exact h.e31, by rw [f5, f32]; exact h.e32, by rw [f5, f33]; exact h.e33, by rw [f5, f34]; exact h.e34, by rw [f5, f35]; exact h.e35, by rw [f5, f36]; exact h.e36, by rw [f5, f37]; exact h.e37, by rw [f5, f38]; exact h.e38, by rw [f5, f39]; exact h.e39, by rw [f5, f40]; exact h.e40, by rw [f5, f41]; exact h.e41, by rw [f5, f42]; exact h.e42, by rw [f5, f17]; exact h.w, by rw [f20]; exact h.c⟩
structure Mem (S : Sy) (f : Nat) (i : Int) : Prop where
  pw : ∀ j : Int, 0 ≤ j → j < i → S.Φ f [22 + j] = slabW ((S.ρ 20 + j) % 4)
  fw : i < S.ρ 5 → S.Φ f [22 + i] = freeW (S.ρ 5 - i)
  bw : ∀ j : Int, 0 ≤ j → j < i → S.Φ f [22 + S.ρ 5 + j] = bitsW ((S.ρ 20 + j) % 4)
  zb : ∀ j : Int, i ≤ j → j < S.ρ 5 → S.Φ f [22 + S.ρ 5 + j] = 0
theorem Mem.of {S T : Sy} {f g : Nat} {i : Int} (h : Mem S f i) (e5 : T.ρ 5 = S.ρ 5) (e20 : T.ρ 20 = S.ρ 20) (ef : ∀ j : Int, T.Φ g [j] = S.Φ f [j]) : Mem T g i := by
  refine ⟨fun j h0 h1 => ?_, fun h1 => ?_, fun j h0 h1 => ?_, fun j h0 h1 => ?_⟩
  · rw [ef, e20]; exact h.pw j h0 h1
  · rw [ef, e5]; exact h.fw (by rw [← e5]; exact h1)
  · rw [ef, e20, e5]; exact h.bw j h0 h1
  · rw [ef, e5]; exact h.zb j h0 (by rw [← e5]; exact h1)
theorem kindF {l : Int} (h : 1 ≤ l ∧ l ≤ 20) : IntKind.i64.wrap (opZ .and .u64 (opZ .shr .u64 (freeW l) 0) 7) = 1 := by
  rcases (show l = 1 ∨ l = 2 ∨ l = 3 ∨ l = 4 ∨ l = 5 ∨ l = 6 ∨ l = 7 ∨ l = 8 ∨ l = 9 ∨ l = 10 ∨ l = 11 ∨ l = 12 ∨ l = 13 ∨ l = 14 ∨ l = 15 ∨ l = 16 ∨ l = 17 ∨ l = 18 ∨ l = 19 ∨ l = 20 from by omega) with rfl | rfl | rfl | rfl | rfl | rfl | rfl | rfl | rfl | rfl | rfl | rfl | rfl | rfl | rfl | rfl | rfl | rfl | rfl | rfl <;> rfl
theorem lenF {l : Int} (h : 1 ≤ l ∧ l ≤ 20) : IntKind.i64.wrap (opZ .and .u64 (opZ .shr .u64 (freeW l) 3) 1023) = l := by
  rcases (show l = 1 ∨ l = 2 ∨ l = 3 ∨ l = 4 ∨ l = 5 ∨ l = 6 ∨ l = 7 ∨ l = 8 ∨ l = 9 ∨ l = 10 ∨ l = 11 ∨ l = 12 ∨ l = 13 ∨ l = 14 ∨ l = 15 ∨ l = 16 ∨ l = 17 ∨ l = 18 ∨ l = 19 ∨ l = 20 from by omega) with rfl | rfl | rfl | rfl | rfl | rfl | rfl | rfl | rfl | rfl | rfl | rfl | rfl | rfl | rfl | rfl | rfl | rfl | rfl | rfl <;> rfl
theorem wordF {l : Int} (h : 1 ≤ l ∧ l ≤ 20) : opZ .or .u64 (opZ .or .u64 (opZ .or .u64 1 (opZ .shl .u64 (opZ .and .u64 (IntKind.u64.wrap l) 1023) 3)) 0) 0 = freeW l := by
  rcases (show l = 1 ∨ l = 2 ∨ l = 3 ∨ l = 4 ∨ l = 5 ∨ l = 6 ∨ l = 7 ∨ l = 8 ∨ l = 9 ∨ l = 10 ∨ l = 11 ∨ l = 12 ∨ l = 13 ∨ l = 14 ∨ l = 15 ∨ l = 16 ∨ l = 17 ∨ l = 18 ∨ l = 19 ∨ l = 20 from by omega) with rfl | rfl | rfl | rfl | rfl | rfl | rfl | rfl | rfl | rfl | rfl | rfl | rfl | rfl | rfl | rfl | rfl | rfl | rfl | rfl <;> rfl
theorem kindS {d : Int} (h : 0 ≤ d ∧ d < 4) : IntKind.i64.wrap (opZ .and .u64 (opZ .shr .u64 (slabW d) 0) 7) = 3 := by
  rcases (show d = 0 ∨ d = 1 ∨ d = 2 ∨ d = 3 from by omega) with rfl | rfl | rfl | rfl <;> rfl
theorem lenS {d : Int} (h : 0 ≤ d ∧ d < 4) : IntKind.i64.wrap (opZ .and .u64 (opZ .shr .u64 (slabW d) 3) 1023) = 1 := by
  rcases (show d = 0 ∨ d = 1 ∨ d = 2 ∨ d = 3 from by omega) with rfl | rfl | rfl | rfl <;> rfl
theorem moreB {d : Int} (h : 0 ≤ d ∧ d < 4) : IntKind.i64.wrap (opZ .and .u64 (opZ .shr .u64 (bitsW d) 8) 7) = d + 1 := by
  rcases (show d = 0 ∨ d = 1 ∨ d = 2 ∨ d = 3 from by omega) with rfl | rfl | rfl | rfl <;> rfl
theorem verB {d : Int} (h : 0 ≤ d ∧ d < 4) : IntKind.u32.wrap (opZ .and .u64 (opZ .shr .u64 (bitsW d) 32) 4294967295) = 1 := by
  rcases (show d = 0 ∨ d = 1 ∨ d = 2 ∨ d = 3 from by omega) with rfl | rfl | rfl | rfl <;> rfl
theorem remW {x n y : Int} (hx : 0 ≤ x ∧ x < 256) (hy : y = x % n) : (IntKind.i64.wrap x).tmod n = y := by
  rw [w_i64 (by omega) (by omega), Int.tmod_eq_emod_of_nonneg hx.1, hy]
theorem remW_den {S : Sy} {k n x : Nat} (h0 : S.ρ n ≠ 0) (h : (IntKind.i64.wrap (S.ρ k)).tmod (S.ρ n) = S.ρ x) : (Tm.bin .rem (.conv .i64 (.var .u8 k)) (.var .i64 n)).den S = some [S.ρ x] :=
  den_bin (k := .i64) (a := IntKind.i64.wrap (S.ρ k)) (b := S.ρ n) rfl rfl (by show (if S.ρ n = 0 then none else some (Value.int .i64 _)) = _; rw [if_neg h0, h])
theorem rem4 {x y : Int} (h0 : 0 ≤ x ∧ x < 100) (h : x % 4 = y) : (IntKind.i64.wrap x).tmod 4 = y := by
  rw [w_i64 (by omega) (by omega), Int.tmod_eq_emod_of_nonneg h0.1, h]
def alGE : List En := [.nm (.bin .mul (.lit .i64 1) (.var .i64 5)) 5, .nm (.bin .mul (.var .i64 5) (.lit .i64 1)) 5, .nm (.bin .mul (.lit .i64 1) (.var .i64 6)) 6, .nm (.bin .mul (.var .i64 6) (.lit .i64 1)) 6, .nm (.bin .mul (.lit .i64 1) (.var .i64 7)) 7, .nm (.bin .mul (.var .i64 7) (.lit .i64 1)) 7, .nm (.bin .mul (.lit .i64 1) (.var .i64 8)) 8, .nm (.bin .mul (.var .i64 8) (.lit .i64 1)) 8, .nm (.bin .mul (.var .i64 5) (.lit .i64 8)) 6, .nm (.bin .add (.var .i64 5) (.lit .i64 1)) 15, .nm (.bin .mul (.lit .i64 4) (.var .i64 15)) 16, .nm (.bin .add (.var .i64 16) (.lit .i64 5)) 7, .nm (.bin .mul (.var .i64 7) (.lit .i64 8)) 8]
def alGL : List (Nat × Value) := [(71966572681363, .float .f64 2563), (88081558410387, .float .f64 2563), (71983752550547, .float .f64 3075), (105673744454803, .float .f64 3075), (72000932419731, .float .f64 3587), (123265930499219, .float .f64 3587), (143898684955283, .float .f64 4099), (140858116543635, .float .f64 4099), (704649883556499, .float .f64 3075), (88081558410371, .float .f64 7683), (566231409105555, .float .f64 8195), (1126398492153987, .float .f64 3587), (986124860267155, .float .f64 4099)]
theorem alG_eq : alGL = alGE.map En.pr := by kernel_rfl
theorem alG_all : (alGE.all En.okB) = true := by kernel_rfl
set_option maxHeartbeats 4000000 in
theorem alG_h {S : Sy} (h : GeoS S) : AllH S alGE := by
  have gn := h.n; have ge6 := h.e6; have ge15 := h.e15; have ge16 := h.e16; have ge7 := h.e7; have ge8 := h.e8; have ge18 := h.e18; have ge31 := h.e31; have ge32 := h.e32; have ge33 := h.e33; have ge34 := h.e34; have ge35 := h.e35; have ge36 := h.e36; have ge37 := h.e37; have ge38 := h.e38; have ge39 := h.e39; have ge40 := h.e40; have ge41 := h.e41; have ge42 := h.e42; have gw := h.w; have gc := h.c
  exact ⟨(sm (show (IntKind.i64.wrap ((1 : Int) * S.ρ 5)) = S.ρ 5 from by rw [w_i64 (by omega) (by omega)]; omega)), (sm (show (IntKind.i64.wrap (S.ρ 5 * (1 : Int))) = S.ρ 5 from by rw [w_i64 (by omega) (by omega)]; omega)), (sm (show (IntKind.i64.wrap ((1 : Int) * S.ρ 6)) = S.ρ 6 from by rw [w_i64 (by omega) (by omega)]; omega)), (sm (show (IntKind.i64.wrap (S.ρ 6 * (1 : Int))) = S.ρ 6 from by rw [w_i64 (by omega) (by omega)]; omega)), (sm (show (IntKind.i64.wrap ((1 : Int) * S.ρ 7)) = S.ρ 7 from by rw [w_i64 (by omega) (by omega)]; omega)), (sm (show (IntKind.i64.wrap (S.ρ 7 * (1 : Int))) = S.ρ 7 from by rw [w_i64 (by omega) (by omega)]; omega)), (sm (show (IntKind.i64.wrap ((1 : Int) * S.ρ 8)) = S.ρ 8 from by rw [w_i64 (by omega) (by omega)]; omega)), (sm (show (IntKind.i64.wrap (S.ρ 8 * (1 : Int))) = S.ρ 8 from by rw [w_i64 (by omega) (by omega)]; omega)), (sm (show (IntKind.i64.wrap (S.ρ 5 * (8 : Int))) = S.ρ 6 from by rw [w_i64 (by omega) (by omega)]; omega)), (sm (show (IntKind.i64.wrap (S.ρ 5 + (1 : Int))) = S.ρ 15 from by rw [w_i64 (by omega) (by omega)]; omega)), (sm (show (IntKind.i64.wrap ((4 : Int) * S.ρ 15)) = S.ρ 16 from by rw [w_i64 (by omega) (by omega)]; omega)), (sm (show (IntKind.i64.wrap (S.ρ 16 + (5 : Int))) = S.ρ 7 from by rw [w_i64 (by omega) (by omega)]; omega)), (sm (show (IntKind.i64.wrap (S.ρ 7 * (8 : Int))) = S.ρ 8 from by rw [w_i64 (by omega) (by omega)]; omega)), trivial⟩
theorem alG_ok {S : Sy} (h : GeoS S) : AlOk S alGL := alE alG_all alG_eq (alG_h h)
def alLE : List En := [.nm (.bin .add (.lit .i64 22) (.var .i64 5)) 31, .nm (.bin .add (.var .i64 31) (.var .i64 5)) 32, .nm (.bin .add (.var .i64 32) (.var .i64 5)) 33, .nm (.bin .add (.var .i64 33) (.var .i64 6)) 34, .nm (.bin .add (.var .i64 34) (.var .i64 6)) 35, .nm (.bin .add (.var .i64 35) (.lit .i64 8)) 36, .nm (.bin .add (.var .i64 36) (.lit .i64 4)) 37, .nm (.bin .add (.var .i64 37) (.lit .i64 2)) 38, .nm (.bin .add (.var .i64 38) (.lit .i64 1)) 39, .nm (.bin .add (.var .i64 39) (.lit .i64 4)) 40, .nm (.bin .add (.var .i64 40) (.var .i64 7)) 41, .nm (.bin .add (.var .i64 41) (.var .i64 8)) 42, .ds (.bin .lss (.var .i64 5) (.lit .i64 1)) false, .ds (.bin .gtr (.var .i64 5) (.lit .i64 256)) false, .ds (.bin .eql (.var .i64 5) (.lit .i64 0)) false, .ds (.bin .lss (.var .i64 42) (.lit .i64 0)) false, .ds (.bin .gtr (.var .i64 42) (.lit .i64 2097152)) false, .ds (.bin .lss (.var .i64 42) (.lit .i64 4194304)) true, .ds (.bin .geq (.var .i64 42) (.lit .i64 0)) true, .nm (.bin .mul (.lit .i64 64) (.var .i64 5)) 18, .ds (.bin .lss (.var .i64 18) (.lit .i64 0)) false, .ds (.bin .gtr (.var .i64 18) (.lit .i64 1048576)) false, .ds (.bin .lss (.var .i64 18) (.lit .i64 4194304)) true, .ds (.bin .geq (.var .i64 18) (.lit .i64 0)) true]
def alLL : List (Nat × Value) := [(1549710200412291, .float .f64 15875), (2181929386383491, .float .f64 16387), (2252298130561155, .float .f64 16899), (2322684054608003, .float .f64 17411), (2393052798785667, .float .f64 17923), (4926774534216323, .float .f64 18435), (2533756195838083, .float .f64 18947), (1302062654559875, .float .f64 19459), (668623697876099, .float .f64 19971), (2744862428371075, .float .f64 20483), (2815282443720835, .float .f64 20995), (5771199195912835, .float .f64 21507), (88081558410475, .bool false), (22548784831538427, .bool false), (1376369248475, .bool false), (11546851805419, .bool false), (1549778703771104198395, .bool false), (3099557407541839282411, .bool true), (11546851805443, .bool true), (4505197455874195, .float .f64 9219), (4949782038763, .bool false), (332167494116707417339, .bool false), (1328669976465722327275, .bool true), (4949782038787, .bool true)]
theorem alL_eq : alLL = alLE.map En.pr := by kernel_rfl
theorem alL_all : (alLE.all En.okB) = true := by kernel_rfl
set_option maxHeartbeats 4000000 in
theorem alL_h {S : Sy} (h : GeoS S) : AllH S alLE := by
  have gn := h.n; have ge6 := h.e6; have ge15 := h.e15; have ge16 := h.e16; have ge7 := h.e7; have ge8 := h.e8; have ge18 := h.e18; have ge31 := h.e31; have ge32 := h.e32; have ge33 := h.e33; have ge34 := h.e34; have ge35 := h.e35; have ge36 := h.e36; have ge37 := h.e37; have ge38 := h.e38; have ge39 := h.e39; have ge40 := h.e40; have ge41 := h.e41; have ge42 := h.e42; have gw := h.w; have gc := h.c
  exact ⟨(sm (show (IntKind.i64.wrap ((22 : Int) + S.ρ 5)) = S.ρ 31 from by rw [w_i64 (by omega) (by omega)]; omega)), (sm (show (IntKind.i64.wrap (S.ρ 31 + S.ρ 5)) = S.ρ 32 from by rw [w_i64 (by omega) (by omega)]; omega)), (sm (show (IntKind.i64.wrap (S.ρ 32 + S.ρ 5)) = S.ρ 33 from by rw [w_i64 (by omega) (by omega)]; omega)), (sm (show (IntKind.i64.wrap (S.ρ 33 + S.ρ 6)) = S.ρ 34 from by rw [w_i64 (by omega) (by omega)]; omega)), (sm (show (IntKind.i64.wrap (S.ρ 34 + S.ρ 6)) = S.ρ 35 from by rw [w_i64 (by omega) (by omega)]; omega)), (sm (show (IntKind.i64.wrap (S.ρ 35 + (8 : Int))) = S.ρ 36 from by rw [w_i64 (by omega) (by omega)]; omega)), (sm (show (IntKind.i64.wrap (S.ρ 36 + (4 : Int))) = S.ρ 37 from by rw [w_i64 (by omega) (by omega)]; omega)), (sm (show (IntKind.i64.wrap (S.ρ 37 + (2 : Int))) = S.ρ 38 from by rw [w_i64 (by omega) (by omega)]; omega)), (sm (show (IntKind.i64.wrap (S.ρ 38 + (1 : Int))) = S.ρ 39 from by rw [w_i64 (by omega) (by omega)]; omega)), (sm (show (IntKind.i64.wrap (S.ρ 39 + (4 : Int))) = S.ρ 40 from by rw [w_i64 (by omega) (by omega)]; omega)), (sm (show (IntKind.i64.wrap (S.ρ 40 + S.ρ 7)) = S.ρ 41 from by rw [w_i64 (by omega) (by omega)]; omega)), (sm (show (IntKind.i64.wrap (S.ρ 41 + S.ρ 8)) = S.ρ 42 from by rw [w_i64 (by omega) (by omega)]; omega)), (fls (p := S.ρ 5 < (1 : Int)) (by omega)), (fls (p := (256 : Int) < S.ρ 5) (by omega)), (fls (p := S.ρ 5 = (0 : Int)) (by omega)), (fls (p := S.ρ 42 < (0 : Int)) (by omega)), (fls (p := (2097152 : Int) < S.ρ 42) (by omega)), (tr (p := S.ρ 42 < (4194304 : Int)) (by omega)), (tr (p := (0 : Int) ≤ S.ρ 42) (by omega)), (sm (show (IntKind.i64.wrap ((64 : Int) * S.ρ 5)) = S.ρ 18 from by rw [w_i64 (by omega) (by omega)]; omega)), (fls (p := S.ρ 18 < (0 : Int)) (by omega)), (fls (p := (1048576 : Int) < S.ρ 18) (by omega)), (tr (p := S.ρ 18 < (4194304 : Int)) (by omega)), (tr (p := (0 : Int) ≤ S.ρ 18) (by omega)), trivial⟩
theorem alL_ok {S : Sy} (h : GeoS S) : AlOk S alLL := alE alL_all alL_eq (alL_h h)
def alWE : List En := [.nm (.bin .add (.conv .i64 (.bin .rem (.var .u8 2) (.lit .u8 20))) (.lit .i64 1)) 5, .nm (.bin .rem (.conv .i64 (.var .u8 3)) (.var .i64 5)) 17, .nm (.conv .i64 (.bin .rem (.var .u8 4) (.lit .u8 4))) 20]
def alWL : List (Nat × Value) := [(651969013565849187427208220644483, .float .f64 2563), (7101997246231215085731, .float .f64 8707), (9465499063832757166619, .float .f64 10243)]
theorem alW_eq : alWL = alWE.map En.pr := by kernel_rfl
theorem alW_all : (alWE.all En.okB) = true := by kernel_rfl
set_option maxHeartbeats 4000000 in
theorem alW_h {S : Sy} (h : GeoS S) (h2 : 0 ≤ S.ρ 2) (e5 : S.ρ 5 = S.ρ 2 % 20 + 1) (h3 : 0 ≤ S.ρ 3 ∧ S.ρ 3 < 256) (e17 : S.ρ 17 = S.ρ 3 % S.ρ 5) (h4 : 0 ≤ S.ρ 4) (e20 : S.ρ 20 = S.ρ 4 % 4) : AllH S alWE := by
  have gn := h.n
  exact ⟨(sm (show IntKind.i64.wrap (IntKind.i64.wrap ((S.ρ 2).tmod (20 : Int)) + (1 : Int)) = S.ρ 5 from by rw [Int.tmod_eq_emod_of_nonneg h2, w_i64 (x := S.ρ 2 % 20) (by omega) (by omega), w_i64 (by omega) (by omega), e5])), (remW_den (by omega) (remW h3 e17)), (sm (show IntKind.i64.wrap ((S.ρ 4).tmod (4 : Int)) = S.ρ 20 from by rw [Int.tmod_eq_emod_of_nonneg h4, w_i64 (by omega) (by omega), e20])), trivial⟩
theorem alW_ok {S : Sy} (h : GeoS S) (h2 : 0 ≤ S.ρ 2) (e5 : S.ρ 5 = S.ρ 2 % 20 + 1) (h3 : 0 ≤ S.ρ 3 ∧ S.ρ 3 < 256) (e17 : S.ρ 17 = S.ρ 3 % S.ρ 5) (h4 : 0 ≤ S.ρ 4) (e20 : S.ρ 20 = S.ρ 4 % 4) : AlOk S alWL := alE alW_all alW_eq (alW_h h h2 e5 h3 e17 h4 e20)
structure InvA (S : Sy) (i q : Int) : Prop where
  geo : GeoS S
  mem : Mem S 63 i
  q0 : 0 ≤ q
  q1 : q ≤ i
  hin : i < S.ρ 5
  h22 : S.ρ 22 = q
  h23 : S.ρ 23 = 0
  h24 : S.ρ 24 = 0
  e27 : S.ρ 27 = 22 + q
  e28 : S.ρ 28 = S.ρ 5 - q
  e29 : S.ρ 29 = S.ρ 5 - i
  e44 : S.ρ 44 = S.ρ 5
def alBE : List En := [.iv (.bin .mul (.lit .i64 0) (.var .i64 5)) 0, .nm (.bin .add (.lit .i64 0) (.var .i64 22)) 22, .nm (.bin .mul (.var .i64 22) (.lit .i64 1)) 22, .nm (.bin .add (.var .i64 22) (.lit .i64 0)) 22, .nm (.bin .add (.lit .i64 22) (.var .i64 22)) 27, .ds (.bin .lss (.var .i64 22) (.var .i64 5)) true, .ds (.bin .geq (.var .i64 22) (.var .i64 5)) false, .ds (.bin .lss (.var .i64 22) (.lit .i64 0)) false, .nm (.bin .mul (.var .i64 27) (.lit .i64 1)) 27, .nm (.bin .add (.var .i64 27) (.lit .i64 0)) 27, .ds (.bin .lss (.var .i64 27) (.lit .i64 0)) false, .ds (.bin .geq (.var .i64 27) (.var .i64 42)) false, .ds (.bin .geq (.var .i64 27) (.lit .i64 0)) true, .ds (.bin .lss (.var .i64 27) (.var .i64 42)) true]
def alBL : List (Nat × Value) := [(1597828503699, .int .i64 0), (6425371745411, .float .f64 11267), (387148721165459, .float .f64 11267), (6049293666435, .float .f64 11267), (6198874859379843, .float .f64 13827), (1548610688784619, .bool true), (1548610688784643, .bool false), (6049293666539, .bool false), (475109651387539, .float .f64 13827), (7423683201155, .float .f64 13827), (7423683201259, .bool false), (15203668932435715, .bool false), (7423683201283, .bool true), (15203668932435691, .bool true)]
theorem alB_eq : alBL = alBE.map En.pr := by kernel_rfl
theorem alB_all : (alBE.all En.okB) = true := by kernel_rfl
set_option maxHeartbeats 4000000 in
theorem alB_h {S : Sy} {i q : Int} (h : InvA S i q) : AllH S alBE := by
  have gq0 := h.q0; have gq1 := h.q1; have ghin := h.hin; have gh22 := h.h22; have gh23 := h.h23; have gh24 := h.h24; have ge27 := h.e27; have ge28 := h.e28; have ge29 := h.e29; have ge44 := h.e44; have ggeo_n := h.geo.n; have ggeo_e42 := h.geo.e42; have ggeo_c := h.geo.c
  exact ⟨(sm (show (IntKind.i64.wrap ((0 : Int) * S.ρ 5)) = (0 : Int) from by rw [w_i64 (by omega) (by omega)]; omega)), (sm (show (IntKind.i64.wrap ((0 : Int) + S.ρ 22)) = S.ρ 22 from by rw [w_i64 (by omega) (by omega)]; omega)), (sm (show (IntKind.i64.wrap (S.ρ 22 * (1 : Int))) = S.ρ 22 from by rw [w_i64 (by omega) (by omega)]; omega)), (sm (show (IntKind.i64.wrap (S.ρ 22 + (0 : Int))) = S.ρ 22 from by rw [w_i64 (by omega) (by omega)]; omega)), (sm (show (IntKind.i64.wrap ((22 : Int) + S.ρ 22)) = S.ρ 27 from by rw [w_i64 (by omega) (by omega)]; omega)), (tr (p := S.ρ 22 < S.ρ 5) (by omega)), (fls (p := S.ρ 5 ≤ S.ρ 22) (by omega)), (fls (p := S.ρ 22 < (0 : Int)) (by omega)), (sm (show (IntKind.i64.wrap (S.ρ 27 * (1 : Int))) = S.ρ 27 from by rw [w_i64 (by omega) (by omega)]; omega)), (sm (show (IntKind.i64.wrap (S.ρ 27 + (0 : Int))) = S.ρ 27 from by rw [w_i64 (by omega) (by omega)]; omega)), (fls (p := S.ρ 27 < (0 : Int)) (by omega)), (fls (p := S.ρ 42 ≤ S.ρ 27) (by omega)), (tr (p := (0 : Int) ≤ S.ρ 27) (by omega)), (tr (p := S.ρ 27 < S.ρ 42) (by omega)), trivial⟩
theorem alB_ok {S : Sy} {i q : Int} (h : InvA S i q) : AlOk S alBL := alE alB_all alB_eq (alB_h h)
def alB1E : List En := [.iv (.conv .i64 (.bin .and (.bin .shr (.app .u64 63 (.cons (.var .i64 27) .nil)) (.lit .u64 0)) (.lit .u64 7))) 3, .iv (.conv .i64 (.bin .and (.bin .shr (.app .u64 63 (.cons (.var .i64 27) .nil)) (.lit .u64 3)) (.lit .u64 1023))) 1, .nm (.bin .sub (.var .i64 5) (.var .i64 22)) 28, .ds (.bin .gtr (.lit .i64 1) (.var .i64 28)) false, .iv (.bin .rem (.var .i64 22) (.lit .i64 1)) 0]
def alB1L : List (Nat × Value) := [(2985857969605784800111963778785122095431262096401435, .int .i64 3), (48920296974021178165034407242649846684552921669464834075, .int .i64 1), (1409402208787595, .float .f64 14339), (288003427671291, .bool false), (387148721165475, .int .i64 0)]
theorem alB1_eq : alB1L = alB1E.map En.pr := by kernel_rfl
theorem alB1_all : (alB1E.all En.okB) = true := by kernel_rfl
set_option maxHeartbeats 4000000 in
theorem alB1_h {S : Sy} {i q : Int} (h : InvA S i q) (hq : q < i) : AllH S alB1E := by
  have gq0 := h.q0; have gq1 := h.q1; have ghin := h.hin; have gh22 := h.h22; have gh23 := h.h23; have gh24 := h.h24; have ge27 := h.e27; have ge28 := h.e28; have ge29 := h.e29; have ge44 := h.e44; have ggeo_n := h.geo.n; have ggeo_e42 := h.geo.e42; have ggeo_c := h.geo.c
  have hd : 0 ≤ (S.ρ 20 + q) % 4 ∧ (S.ρ 20 + q) % 4 < 4 := by omega
  have hw := h.mem.pw q gq0 hq
  rw [← ge27] at hw
  exact ⟨(sm (show IntKind.i64.wrap (opZ .and .u64 (opZ .shr .u64 (S.Φ 63 [S.ρ 27]) 0) 7) = 3 from by rw [hw]; exact kindS hd)), (sm (show IntKind.i64.wrap (opZ .and .u64 (opZ .shr .u64 (S.Φ 63 [S.ρ 27]) 3) 1023) = 1 from by rw [hw]; exact lenS hd)), (sm (show (IntKind.i64.wrap (S.ρ 5 - S.ρ 22)) = S.ρ 28 from by rw [w_i64 (by omega) (by omega)]; omega)), (fls (p := S.ρ 28 < (1 : Int)) (by omega)), (sm (show (S.ρ 22).tmod (1 : Int) = 0 from Int.tmod_one _)), trivial⟩
theorem alB1_ok {S : Sy} {i q : Int} (h : InvA S i q) (hq : q < i) : AlOk S alB1L := alE alB1_all alB1_eq (alB1_h h hq)
def alB2E : List En := [.iv (.conv .i64 (.bin .and (.bin .shr (.app .u64 63 (.cons (.var .i64 27) .nil)) (.lit .u64 0)) (.lit .u64 7))) 1, .nm (.conv .i64 (.bin .and (.bin .shr (.app .u64 63 (.cons (.var .i64 27) .nil)) (.lit .u64 3)) (.lit .u64 1023))) 29, .nm (.bin .sub (.var .i64 5) (.var .i64 22)) 28, .ds (.bin .lss (.var .i64 29) (.lit .i64 1)) false, .ds (.bin .gtr (.var .i64 29) (.var .i64 28)) false, .iv (.bin .rem (.var .i64 22) (.lit .i64 1)) 0, .nm (.bin .add (.var .i64 22) (.var .i64 29)) 44, .nm (.bin .sub (.var .i64 44) (.var .i64 22)) 29, .ds (.bin .leq (.lit .i64 1) (.var .i64 29)) true, .ds (.bin .eql (.var .i64 24) (.lit .i64 0)) true, .nm (.mx true (.lit .i64 1) (.var .i64 29)) 29]
def alB2L : List (Nat × Value) := [(2985857969605784800111963778785122095431262096401435, .int .i64 1), (48920296974021178165034407242649846684552921669464834075, .float .f64 14851), (1409402208787595, .float .f64 14339), (510294023476459, .bool false), (8164904729058555, .bool false), (387148721165475, .int .i64 0), (6194597071953027, .float .f64 22531), (12386926300503179, .float .f64 14851), (288020607540467, .bool true), (6599049480411, .bool true), (288020607540299, .float .f64 14851)]
theorem alB2_eq : alB2L = alB2E.map En.pr := by kernel_rfl
theorem alB2_all : (alB2E.all En.okB) = true := by kernel_rfl
set_option maxHeartbeats 4000000 in
theorem alB2_h {S : Sy} {i q : Int} (h : InvA S i q) (hq : q = i) : AllH S alB2E := by
  have gq0 := h.q0; have gq1 := h.q1; have ghin := h.hin; have gh22 := h.h22; have gh23 := h.h23; have gh24 := h.h24; have ge27 := h.e27; have ge28 := h.e28; have ge29 := h.e29; have ge44 := h.e44; have ggeo_n := h.geo.n; have ggeo_e42 := h.geo.e42; have ggeo_c := h.geo.c
  have hl : 1 ≤ S.ρ 5 - i ∧ S.ρ 5 - i ≤ 20 := by omega
  have hw := h.mem.fw ghin
  rw [← hq, ← ge27, hq] at hw
  exact ⟨(sm (show IntKind.i64.wrap (opZ .and .u64 (opZ .shr .u64 (S.Φ 63 [S.ρ 27]) 0) 7) = 1 from by rw [hw]; exact kindF hl)), (sm (show IntKind.i64.wrap (opZ .and .u64 (opZ .shr .u64 (S.Φ 63 [S.ρ 27]) 3) 1023) = S.ρ 29 from by rw [hw, ge29]; exact lenF hl)), (sm (show (IntKind.i64.wrap (S.ρ 5 - S.ρ 22)) = S.ρ 28 from by rw [w_i64 (by omega) (by omega)]; omega)), (fls (p := S.ρ 29 < (1 : Int)) (by omega)), (fls (p := S.ρ 28 < S.ρ 29) (by omega)), (sm (show (S.ρ 22).tmod (1 : Int) = 0 from Int.tmod_one _)), (sm (show (IntKind.i64.wrap (S.ρ 22 + S.ρ 29)) = S.ρ 44 from by rw [w_i64 (by omega) (by omega)]; omega)), (sm (show (IntKind.i64.wrap (S.ρ 44 - S.ρ 22)) = S.ρ 29 from by rw [w_i64 (by omega) (by omega)]; omega)), (tr (p := (1 : Int) ≤ S.ρ 29) (by omega)), (tr (p := S.ρ 24 = (0 : Int)) (by omega)), (sm (show (if (1 : Int) < S.ρ 29 then S.ρ 29 else 1) = S.ρ 29 from by split <;> omega)), trivial⟩
theorem alB2_ok {S : Sy} {i q : Int} (h : InvA S i q) (hq : q = i) : AlOk S alB2L := alE alB2_all alB2_eq (alB2_h h hq)
structure RNm (S : Sy) (i : Int) : Prop where
  geo : GeoS S
  i0 : 0 ≤ i
  hin : i < S.ρ 5
  mem : Mem S 63 i
  e23 : S.ρ 23 = i
  e24 : S.ρ 24 = S.ρ 5 - i
  e66 : S.ρ 66 = i + 1
  e67 : S.ρ 67 = lg (S.ρ 5 - i)
  e68 : S.ρ 68 = 7 + S.ρ 67
  e69 : S.ρ 69 = 22 + i
  e75 : S.ρ 75 = 22 + S.ρ 5 + i
  e76 : S.ρ 76 = 22 + 2 * S.ρ 5 + i
  e44 : S.ρ 44 = S.ρ 5
  e45 : S.ρ 45 = S.ρ 5 - 1
  e70 : S.ρ 70 = S.ρ 5 - i - 1
  e71 : S.ρ 71 = 21 + S.ρ 5
  e72 : S.ρ 72 = 23 + i
  e73 : S.ρ 73 = lg (S.ρ 5 - i - 1)
  e74 : S.ρ 74 = 7 + S.ρ 73
end Go.Proofs.YtgokpcaijabhoaaDoor
