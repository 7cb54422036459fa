/-
  GeomApart: what is common: the names of the numbers that a geometry has, what is decided ahead, the invariant of the list. Conditions: those each says.
-/
import Derived.Test.YtigbcepnbpibaaaDoorGA0
import Derived.Test.YtigbcepnbpibaaaDoorGD
import Derived.Test.YtigbcepnbpibaaaDoorWT
import Derived.Test.YtigbcepnbpibaaaDoorEvC2
import Derived.Test.YtigbcepnbpibaaaDoorEvLp
namespace Go.Proofs.YtigbcepnbpibaaaDoor
open Go.Ev Go.RowKit
set_option maxRecDepth 100000
set_option linter.unusedVariables false
def vv (k : IntKind) (i : Nat) : Value := .float .f64 (i * 512 + kI k)
def owA (b i : Nat) : Value := .float .f32 (mk 3 0 b (i * 512 + 3))
noncomputable def rwA (i f : Nat) : Blk := .arr ⟨i * 512 + 3, [(some .i64, .var f)], 3⟩
noncomputable def gVA : Array Value := #[vv .i64 5, vv .i64 9, .int .i64 0, .int .i64 1, .int .i64 2, .int .i64 7, .int .i64 16, .int .i64 17, .int .i64 21, vv .i64 30, vv .i64 31, vv .i64 32, vv .i64 33, vv .i64 34, vv .i64 35, vv .i64 36, vv .i64 37, vv .i64 38, vv .i64 39, vv .i64 40, vv .i64 41, vv .i64 42]
noncomputable def frGA (b ln : Nat) : List (Nat × Value) := [(0, .agg gVA), (1, .pointer (some ⟨82, 0, none⟩)), (3, vv .i64 5), (4, vv .i64 9), (5, owA b ln)]
noncomputable def hGA (ty : TypeId) (b ln f : Nat) : List (Nat × Blk) := [(0, .cells (mkCells tab ty)), (81, .cells (mkCells gVA 24)), (82, .cells (mkCells gVA 24)), (b, rwA ln f)]
noncomputable def XPA (ty : TypeId) : Pat := ⟨164, 301, frGA 300 50 ++ [(7, vv .i64 17)], hGA ty 300 50 60⟩
noncomputable def FPA (ty : TypeId) : Pat := ⟨164, 301, frGA 300 50, hGA ty 300 50 60⟩
noncomputable def XTA (ty : TypeId) : Pat := ⟨164, 401, frGA 400 70 ++ [(9, vv .i64 18)], hGA ty 400 70 61⟩
noncomputable def FTA (ty : TypeId) : Pat := ⟨164, 401, frGA 400 70, hGA ty 400 70 61⟩
noncomputable def XRA (ty : TypeId) : Pat := ⟨164, 601, frGA 600 76 ++ [(9, vv .i64 18), (11, vv .i64 20)], hGA ty 600 76 64⟩
noncomputable def FRA (ty : TypeId) : Pat := ⟨164, 601, frGA 600 76 ++ [(9, vv .i64 18)], hGA ty 600 76 64⟩
noncomputable def XNA (ty : TypeId) : Pat := ⟨164, 701, frGA 700 90 ++ [(12, vv .i64 19)], hGA ty 700 90 62⟩
noncomputable def FNA (ty : TypeId) : Pat := ⟨164, 701, frGA 700 90, hGA ty 700 90 62⟩
noncomputable def rwBA (i f : Nat) : Blk := .arr ⟨i * 512 + 3, [(none, .var f)], 4⟩
noncomputable def XCA : Pat := ⟨70, 703, [(7, owA 700 90), (8, owA 702 90), (9, vv .i64 28)], [(700, rwA 90 62), (702, rwBA 90 63)]⟩
noncomputable def FCA : Pat := ⟨70, 703, [], []⟩
inductive En where
  | nm (t : Tm) (k : Nat)
  | ds (t : Tm) (b : Bool)
  | iv (t : Tm) (n : Nat)
def En.pr : En → Nat × Value
  | .nm t k => (t.enc, .float .f64 (Tm.var .i64 k).enc)
  | .ds t b => (t.enc, .bool b)
  | .iv t n => (t.enc, .int .i64 n)
def En.okB : En → Bool
  | .nm t k => t.ok && (Tm.var .i64 k).ok && Nat.beq (cK t.enc) (cK (Tm.var .i64 k).enc) && (isBc (Tm.var .i64 k).enc == isBc t.enc)
  | .ds t _ => t.ok && isBc t.enc
  | .iv t _ => t.ok && Nat.beq (cK t.enc) (kI .i64) && !isBc t.enc
def En.Holds (S : Sy) : En → Prop
  | .nm t k => t.den S = some [S.ρ k]
  | .ds t b => t.den S = some [b2i b]
  | .iv t n => t.den S = some [(n : Int)]
def AllH (S : Sy) : List En → Prop
  | [] => True
  | e :: l => e.Holds S ∧ AllH S l
theorem AllH.app {S : Sy} : ∀ {l m : List En}, AllH S l → AllH S m → AllH S (l ++ m)
  | [], _, _, h => h
  | _ :: _, _, h, h' => ⟨h.1, AllH.app h.2 h'⟩
theorem alE {S : Sy} : ∀ {l : List En} {al : List (Nat × Value)}, (l.all En.okB) = true → al = l.map En.pr → AllH S l → AlOk S al
  | [], _, _, e, _ => by subst e; exact AlOk.nil _
  | .nm t k :: l, _, hok, e, h => by
    subst e
    rw [List.all_cons, Bool.and_eq_true] at hok
    exact al_nm t (.var .i64 k) hok.1 h.1 rfl (alE hok.2 rfl h.2)
  | .ds t b :: l, _, hok, e, h => by
    subst e
    rw [List.all_cons, Bool.and_eq_true] at hok
    exact al_is t b hok.1 h.1 (alE hok.2 rfl h.2)
  | .iv t n :: l, _, hok, e, h => by
    subst e
    rw [List.all_cons, Bool.and_eq_true] at hok
    exact ain t .i64 n h.1 (alE hok.2 rfl h.2) hok.1
/-- What the numbers of a geometry are, of x5 pages and x9 threads. -/
structure Geo (S : Sy) : Prop where
  I : S.I = []
  p : 1 ≤ S.ρ 5 ∧ S.ρ 5 ≤ 20
  t : 1 ≤ S.ρ 9 ∧ S.ρ 9 ≤ 8
  e6 : S.ρ 6 = 8 * S.ρ 5
  e10 : S.ρ 10 = 4 * S.ρ 9
  e11 : S.ρ 11 = 8 * S.ρ 9
  e12 : S.ρ 12 = 2 * S.ρ 9
  e13 : S.ρ 13 = 2 * S.ρ 9 + 2
  e14 : S.ρ 9 * S.ρ 13 = S.ρ 14
  e15 : S.ρ 15 = S.ρ 5 + 1
  e16 : S.ρ 10 * S.ρ 15 = S.ρ 16
  e23 : S.ρ 23 = 2 * S.ρ 9 + 3
  e24 : S.ρ 9 * S.ρ 23 = S.ρ 24
  e7 : S.ρ 7 = S.ρ 16 + S.ρ 24
  e8 : S.ρ 8 = 8 * S.ρ 7
  b14 : 0 ≤ S.ρ 14 ∧ S.ρ 14 ≤ 144
  b16 : 0 ≤ S.ρ 16 ∧ S.ρ 16 ≤ 672
  b24 : 0 ≤ S.ρ 24 ∧ S.ρ 24 ≤ 152
  w : (18 + 2 * S.ρ 9) * S.ρ 9 = 16 * S.ρ 9 + S.ρ 14
  e30 : S.ρ 30 = 21 + S.ρ 9
  e31 : S.ρ 31 = 21 + S.ρ 9 + S.ρ 5
  e32 : S.ρ 32 = 21 + S.ρ 9 + 2 * S.ρ 5
  e33 : S.ρ 33 = 21 + S.ρ 9 + 3 * S.ρ 5
  e34 : S.ρ 34 = 21 + S.ρ 9 + 11 * S.ρ 5
  e35 : S.ρ 35 = 21 + S.ρ 9 + 19 * S.ρ 5
  e36 : S.ρ 36 = 21 + 9 * S.ρ 9 + 19 * S.ρ 5
  e37 : S.ρ 37 = 21 + 13 * S.ρ 9 + 19 * S.ρ 5
  e38 : S.ρ 38 = 21 + 15 * S.ρ 9 + 19 * S.ρ 5
  e39 : S.ρ 39 = 21 + 16 * S.ρ 9 + 19 * S.ρ 5
  e40 : S.ρ 40 = 21 + 16 * S.ρ 9 + 19 * S.ρ 5 + S.ρ 14
  e41 : S.ρ 41 = 21 + 16 * S.ρ 9 + 19 * S.ρ 5 + S.ρ 14 + S.ρ 7
  e42 : S.ρ 42 = 21 + 16 * S.ρ 9 + 19 * S.ρ 5 + S.ρ 14 + 9 * S.ρ 7
theorem Geo.stay {vs fs : List Nat} {S T : Sy} (h : Geo S) (y : Stay vs fs S T) (hv : ([5, 6, 7, 8, 9, 10, 11, 12, 13, 14, 15, 16, 23, 24, 30, 31, 32, 33, 34, 35, 36, 37, 38, 39, 40, 41, 42].all fun k => !vs.any fun u => Nat.beq u k) = true) : Geo T := by
  have e : ∀ k ∈ [5, 6, 7, 8, 9, 10, 11, 12, 13, 14, 15, 16, 23, 24, 30, 31, 32, 33, 34, 35, 36, 37, 38, 39, 40, 41, 42], T.ρ k = S.ρ k := fun k hk => y.num k (by have := List.all_eq_true.1 hv k hk; simpa using this)
  have f5 := e 5 (by decide)
  have f6 := e 6 (by decide)
  have f7 := e 7 (by decide)
  have f8 := e 8 (by decide)
  have f9 := e 9 (by decide)
  have f10 := e 10 (by decide)
  have f11 := e 11 (by decide)
  have f12 := e 12 (by decide)
  have f13 := e 13 (by decide)
  have f14 := e 14 (by decide)
  have f15 := e 15 (by decide)
  have f16 := e 16 (by decide)
  have f23 := e 23 (by decide)
  have f24 := e 24 (by decide)
  have f30 := e 30 (by decide)
  have f31 := e 31 (by decide)
  have f32 := e 32 (by decide)
  have f33 := e 33 (by decide)
  have f34 := e 34 (by decide)
  have f35 := e 35 (by decide)
  have f36 := e 36 (by decide)
  have f37 := e 37 (by decide)
  have f38 := e 38 (by decide)
  have f39 := e 39 (by decide)
  have f40 := e 40 (by decide)
  have f41 := e 41 (by decide)
  have f42 := e 42 (by decide)
  exact ⟨y.1.trans h.I, by rw [f5]; exact h.p, by rw [f9]; exact h.t, by rw [f5, f6]; exact h.e6, by rw [f9, f10]; exact h.e10, by rw [f9, f11]; exact h.e11, by rw [f9, f12]; exact h.e12, by rw [f9, f13]; exact h.e13, by rw [f9, f13, f14]; exact h.e14, by rw [f5, f15]; exact h.e15, by rw [f10, f15, f16]; exact h.e16, by rw [f9, f23]; exact h.e23, by rw [f9, f23, f24]; exact h.e24, by rw [f7, f16, f24]; exact h.e7, by rw [f7, f8]; exact h.e8, by rw [f14]; exact h.b14, by rw [f16]; exact h.b16, by rw [f24]; exact h.b24, by rw [f9, f14]; exact h.w, by rw [f9, f30]; exact h.e30, by rw [f5, f9, f31]; exact h.e31, by rw [f5, f9, f32]; exact h.e32, by rw [f5, f9, f33]; exact h.e33, by rw [f5, f9, f34]; exact h.e34, by rw [f5, f9, f35]; exact h.e35, by rw [f5, f9, f36]; exact h.e36, by rw [f5, f9, f37]; exact h.e37, by rw [f5, f9, f38]; exact h.e38, by rw [f5, f9, f39]; exact h.e39, by rw [f5, f9, f14, f40]; exact h.e40, by rw [f5, f7, f9, f14, f41]; exact h.e41, by rw [f5, f7, f9, f14, f42]; exact h.e42⟩
/-- The place of a word in the list. -/
def posS (S : Sy) (v : Int) : Int := posZ (S.ρ 9) (S.ρ 5) (S.ρ 13) (18 + 2 * S.ρ 9) (S.ρ 14) (S.ρ 7) v
/-- A word of this place. -/
def At (S : Sy) (j v : Int) : Prop := 0 ≤ v ∧ v < S.ρ 42 ∧ posS S v = j
/-- The list so far: words from 0 to below the last one's end, each at its place. -/
def RowI (S : Sy) (f : Nat) (len : Int) : Prop := ∀ j : Int, 0 ≤ j → j < len → At S j (S.Φ f [j])
theorem posS_stay {vs fs : List Nat} {S T : Sy} (y : Stay vs fs S T) (hv : ([5, 7, 9, 13, 14, 42].all fun k => !vs.any fun u => Nat.beq u k) = true) (v : Int) : posS T v = posS S v ∧ T.ρ 42 = S.ρ 42 := by
  have e : ∀ k ∈ [5, 7, 9, 13, 14, 42], T.ρ k = S.ρ k := fun k hk => y.num k (by have := List.all_eq_true.1 hv k hk; simpa using this)
  unfold posS
  rw [e 5 (by decide), e 7 (by decide), e 9 (by decide), e 13 (by decide), e 14 (by decide), e 42 (by decide)]
  exact ⟨rfl, rfl⟩
theorem At.stay {vs fs : List Nat} {S T : Sy} (y : Stay vs fs S T) (hv : ([5, 7, 9, 13, 14, 42].all fun k => !vs.any fun u => Nat.beq u k) = true) {j v : Int} (h : At S j v) : At T j v := by
  obtain ⟨e1, e2⟩ := posS_stay y hv v
  exact ⟨h.1, by rw [e2]; exact h.2.1, by rw [e1]; exact h.2.2⟩
/-- One word more. -/
theorem at_upd {S : Sy} {f : Int → Int} {n m i v : Int} (h : ∀ j : Int, 0 ≤ j → j < n → At S j (f j)) (hi : i = n) (hm : m = n + 1) (hv : At S n v) : ∀ j : Int, 0 ≤ j → j < m → At S j (ifE j i v (f j)) := fun j h0 hj => by
  unfold ifE
  by_cases e : j = i
  · rw [if_pos e, e, hi]; exact hv
  · rw [if_neg e]; exact h j h0 (by omega)
theorem at_of {S : Sy} {j j' v v' : Int} (e : v = v') (h1 : 0 ≤ v') (h2 : v' < S.ρ 42) (h3 : posS S v' = j') (hj : j' = j) : At S j v := by
  subst e; subst hj
  exact ⟨h1, h2, h3⟩
theorem Geo.K {S : Sy} (h : Geo S) : ∀ x ∈ S.I, x.f + x.ks.length ≤ 60 := by
  rw [h.I]
  intro x hx
  simp at hx
theorem setT {S S' T : Sy} {vs fs : List Nat} {asg : Asg} (h : AsgOk S S' asg) (y : Stay vs fs S' T) (hv : (asg.all fun p => match p.2 with | .num _ => !vs.any fun u => Nat.beq u p.1 | .arr _ => !fs.any fun u => Nat.beq u p.1) = true) : AsgOk S T asg :=
  ⟨y.1.trans h.1, fun p hp => by
    have h1 := h.2 p hp
    have h2 := List.all_eq_true.1 hv p hp
    cases hc : p.2 with
    | num c =>
      rw [hc] at h1 h2
      show ev S c = _
      rw [show ev S c = some [S'.ρ p.1] from h1, y.num p.1 (by simpa using h2)]
    | arr a =>
      rw [hc] at h1 h2
      intro j
      rw [show aden S a j = some (S'.Φ p.1 [(j : Int)]) from h1 j, y.fn p.1 (by simpa using h2)]⟩
def alGE : List En := [.nm (.bin .mul (.lit .i64 1) (.var .i64 5)) 5, .nm (.bin .mul (.var .i64 5) (.lit .i64 1)) 5, .nm (.bin .mul (.lit .i64 1) (.var .i64 6)) 6, .nm (.bin .mul (.var .i64 6) (.lit .i64 1)) 6, .nm (.bin .mul (.lit .i64 1) (.var .i64 7)) 7, .nm (.bin .mul (.var .i64 7) (.lit .i64 1)) 7, .nm (.bin .mul (.lit .i64 1) (.var .i64 8)) 8, .nm (.bin .mul (.var .i64 8) (.lit .i64 1)) 8, .nm (.bin .mul (.lit .i64 1) (.var .i64 9)) 9, .nm (.bin .mul (.var .i64 9) (.lit .i64 1)) 9, .nm (.bin .mul (.lit .i64 1) (.var .i64 10)) 10, .nm (.bin .mul (.var .i64 10) (.lit .i64 1)) 10, .nm (.bin .mul (.lit .i64 1) (.var .i64 11)) 11, .nm (.bin .mul (.var .i64 11) (.lit .i64 1)) 11, .nm (.bin .mul (.lit .i64 1) (.var .i64 12)) 12, .nm (.bin .mul (.var .i64 12) (.lit .i64 1)) 12, .nm (.bin .mul (.lit .i64 1) (.var .i64 14)) 14, .nm (.bin .mul (.var .i64 14) (.lit .i64 1)) 14, .nm (.bin .mul (.var .i64 5) (.lit .i64 8)) 6, .nm (.bin .mul (.var .i64 9) (.lit .i64 4)) 10, .nm (.bin .mul (.var .i64 10) (.lit .i64 2)) 11, .nm (.bin .mul (.var .i64 9) (.lit .i64 2)) 12, .nm (.bin .mul (.lit .i64 2) (.var .i64 9)) 12, .nm (.bin .add (.var .i64 12) (.lit .i64 2)) 13, .nm (.bin .mul (.var .i64 9) (.var .i64 13)) 14, .nm (.bin .add (.var .i64 5) (.lit .i64 1)) 15, .nm (.bin .mul (.var .i64 10) (.var .i64 15)) 16, .nm (.bin .add (.var .i64 12) (.lit .i64 3)) 23, .nm (.bin .mul (.var .i64 9) (.var .i64 23)) 24, .nm (.bin .add (.var .i64 16) (.var .i64 24)) 7, .nm (.bin .mul (.var .i64 7) (.lit .i64 8)) 8]
def alGL : List (Nat × Value) := [(71966572681363, .float .f64 2563), (88081558410387, .float .f64 2563), (71983752550547, .float .f64 3075), (105673744454803, .float .f64 3075), (72000932419731, .float .f64 3587), (123265930499219, .float .f64 3587), (143898684955283, .float .f64 4099), (140858116543635, .float .f64 4099), (143915864824467, .float .f64 4611), (158450302588051, .float .f64 4611), (143933044693651, .float .f64 5123), (176042488632467, .float .f64 5123), (143950224562835, .float .f64 5635), (193634674676883, .float .f64 5635), (143967404432019, .float .f64 6147), (211226860721299, .float .f64 6147), (144001764170387, .float .f64 7171), (246411232810131, .float .f64 7171), (704649883556499, .float .f64 3075), (633800103041171, .float .f64 5123), (352084608161427, .float .f64 5635), (316900236072595, .float .f64 6147), (284653353179795, .float .f64 6147), (422453352339075, .float .f64 6659), (1267685467888275, .float .f64 7171), (88081558410371, .float .f64 7683), (1408457315981971, .float .f64 8195), (422470532208259, .float .f64 11779), (2535319295499411, .float .f64 12291), (4505661312343171, .float .f64 3587), (986124860267155, .float .f64 4099)]
theorem alG_eq : alGL = alGE.map En.pr := by kernel_rfl
theorem alG_all : (alGE.all En.okB) = true := by kernel_rfl
set_option maxHeartbeats 4000000 in
theorem alG_h {S : Sy} (h : Geo S) : AllH S alGE := by
  have gp := h.p; have gt := h.t; have ge6 := h.e6; have ge10 := h.e10; have ge11 := h.e11; have ge12 := h.e12; have ge13 := h.e13; have ge14 := h.e14; have ge15 := h.e15; have ge16 := h.e16; have ge23 := h.e23; have ge24 := h.e24; have ge7 := h.e7; have ge8 := h.e8; have gb14 := h.b14; have gb16 := h.b16; have gb24 := h.b24; have gw := h.w; have ge30 := h.e30; have ge31 := h.e31; have ge32 := h.e32; have ge33 := h.e33; have ge34 := h.e34; have ge35 := h.e35; have ge36 := h.e36; have ge37 := h.e37; have ge38 := h.e38; have ge39 := h.e39; have ge40 := h.e40; have ge41 := h.e41; have ge42 := h.e42
  exact ⟨(sm (show (IntKind.i64.wrap ((1 : Int) * S.ρ 5)) = S.ρ 5 from by rw [w_i64 (by omega) (by omega)]; omega)), (sm (show (IntKind.i64.wrap (S.ρ 5 * (1 : Int))) = S.ρ 5 from by rw [w_i64 (by omega) (by omega)]; omega)), (sm (show (IntKind.i64.wrap ((1 : Int) * S.ρ 6)) = S.ρ 6 from by rw [w_i64 (by omega) (by omega)]; omega)), (sm (show (IntKind.i64.wrap (S.ρ 6 * (1 : Int))) = S.ρ 6 from by rw [w_i64 (by omega) (by omega)]; omega)), (sm (show (IntKind.i64.wrap ((1 : Int) * S.ρ 7)) = S.ρ 7 from by rw [w_i64 (by omega) (by omega)]; omega)), (sm (show (IntKind.i64.wrap (S.ρ 7 * (1 : Int))) = S.ρ 7 from by rw [w_i64 (by omega) (by omega)]; omega)), (sm (show (IntKind.i64.wrap ((1 : Int) * S.ρ 8)) = S.ρ 8 from by rw [w_i64 (by omega) (by omega)]; omega)), (sm (show (IntKind.i64.wrap (S.ρ 8 * (1 : Int))) = S.ρ 8 from by rw [w_i64 (by omega) (by omega)]; omega)), (sm (show (IntKind.i64.wrap ((1 : Int) * S.ρ 9)) = S.ρ 9 from by rw [w_i64 (by omega) (by omega)]; omega)), (sm (show (IntKind.i64.wrap (S.ρ 9 * (1 : Int))) = S.ρ 9 from by rw [w_i64 (by omega) (by omega)]; omega)), (sm (show (IntKind.i64.wrap ((1 : Int) * S.ρ 10)) = S.ρ 10 from by rw [w_i64 (by omega) (by omega)]; omega)), (sm (show (IntKind.i64.wrap (S.ρ 10 * (1 : Int))) = S.ρ 10 from by rw [w_i64 (by omega) (by omega)]; omega)), (sm (show (IntKind.i64.wrap ((1 : Int) * S.ρ 11)) = S.ρ 11 from by rw [w_i64 (by omega) (by omega)]; omega)), (sm (show (IntKind.i64.wrap (S.ρ 11 * (1 : Int))) = S.ρ 11 from by rw [w_i64 (by omega) (by omega)]; omega)), (sm (show (IntKind.i64.wrap ((1 : Int) * S.ρ 12)) = S.ρ 12 from by rw [w_i64 (by omega) (by omega)]; omega)), (sm (show (IntKind.i64.wrap (S.ρ 12 * (1 : Int))) = S.ρ 12 from by rw [w_i64 (by omega) (by omega)]; omega)), (sm (show (IntKind.i64.wrap ((1 : Int) * S.ρ 14)) = S.ρ 14 from by rw [w_i64 (by omega) (by omega)]; omega)), (sm (show (IntKind.i64.wrap (S.ρ 14 * (1 : Int))) = S.ρ 14 from by rw [w_i64 (by omega) (by omega)]; omega)), (sm (show (IntKind.i64.wrap (S.ρ 5 * (8 : Int))) = S.ρ 6 from by rw [w_i64 (by omega) (by omega)]; omega)), (sm (show (IntKind.i64.wrap (S.ρ 9 * (4 : Int))) = S.ρ 10 from by rw [w_i64 (by omega) (by omega)]; omega)), (sm (show (IntKind.i64.wrap (S.ρ 10 * (2 : Int))) = S.ρ 11 from by rw [w_i64 (by omega) (by omega)]; omega)), (sm (show (IntKind.i64.wrap (S.ρ 9 * (2 : Int))) = S.ρ 12 from by rw [w_i64 (by omega) (by omega)]; omega)), (sm (show (IntKind.i64.wrap ((2 : Int) * S.ρ 9)) = S.ρ 12 from by rw [w_i64 (by omega) (by omega)]; omega)), (sm (show (IntKind.i64.wrap (S.ρ 12 + (2 : Int))) = S.ρ 13 from by rw [w_i64 (by omega) (by omega)]; omega)), (sm (show (IntKind.i64.wrap (S.ρ 9 * S.ρ 13)) = S.ρ 14 from by rw [← h.e14]; exact w_i64 (by omega) (by omega))), (sm (show (IntKind.i64.wrap (S.ρ 5 + (1 : Int))) = S.ρ 15 from by rw [w_i64 (by omega) (by omega)]; omega)), (sm (show (IntKind.i64.wrap (S.ρ 10 * S.ρ 15)) = S.ρ 16 from by rw [← h.e16]; exact w_i64 (by omega) (by omega))), (sm (show (IntKind.i64.wrap (S.ρ 12 + (3 : Int))) = S.ρ 23 from by rw [w_i64 (by omega) (by omega)]; omega)), (sm (show (IntKind.i64.wrap (S.ρ 9 * S.ρ 23)) = S.ρ 24 from by rw [← h.e24]; exact w_i64 (by omega) (by omega))), (sm (show (IntKind.i64.wrap (S.ρ 16 + S.ρ 24)) = S.ρ 7 from by rw [w_i64 (by omega) (by omega)]; omega)), (sm (show (IntKind.i64.wrap (S.ρ 7 * (8 : Int))) = S.ρ 8 from by rw [w_i64 (by omega) (by omega)]; omega)), trivial⟩
theorem alG_ok {S : Sy} (h : Geo S) : AlOk S alGL := alE alG_all alG_eq (alG_h h)
theorem AlOk.app {S : Sy} {a b : List (Nat × Value)} (h : AlOk S a) (h' : AlOk S b) : AlOk S (a ++ b) := fun p hp => by
  rcases List.mem_append.1 hp with hp | hp
  · exact h p hp
  · exact h' p hp
end Go.Proofs.YtigbcepnbpibaaaDoor
