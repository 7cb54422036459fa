/-
  GeomApart: the check's loop; the law. Conditions: what the numbers are.
-/
import Derived.Test.YtigbcepnbpibaaaDoorGA3
namespace Go.Proofs.YtigbcepnbpibaaaDoor
open Go.Ev Go.RowKit
set_option maxRecDepth 100000
set_option linter.unusedVariables false
section
variable {ty : TypeId}
/-- The check: what was looked at is seen, and nothing else. -/
structure InvC (S : Sy) (i : Int) : Prop where
  geo : Geo S
  i0 : 0 ≤ i
  i1 : i ≤ S.ρ 90
  hi : S.ρ 28 = i
  n29 : S.ρ 29 = S.Φ 62 [i]
  len : S.ρ 90 = S.ρ 42
  row : RowI S 62 (S.ρ 90)
  seen : ∀ v : Int, 0 ≤ v → S.Φ 63 [v] ≠ 0 → posS S v < i
def alCE : List En := [.nm (.app .i64 62 (.cons (.var .i64 28) .nil)) 29, .ds (.bin .lss (.var .i64 28) (.lit .i64 0)) false, .ds (.bin .geq (.var .i64 28) (.lit .i64 0)) true, .ds (.bin .lss (.var .i64 29) (.lit .i64 0)) false, .ds (.bin .geq (.var .i64 29) (.lit .i64 0)) true, .ds (.bin .geq (.var .i64 29) (.var .i64 90)) false, .ds (.bin .lss (.var .i64 29) (.var .i64 90)) true]
def alCL : List (Nat × Value) := [(1187679259710351101420099, .float .f64 14851), (7698561108203, .bool false), (7698561108227, .bool true), (7973439015147, .bool false), (7973439015171, .bool true), (32659240657101059, .bool false), (32659240657101035, .bool true)]
theorem alC_eq : alCL = alCE.map En.pr := by kernel_rfl
theorem alC_all : (alCE.all En.okB) = true := by kernel_rfl
theorem alC_ok {S : Sy} {i : Int} (N : InvC S i) (h : i < S.ρ 90) : AlOk S alCL := by
  obtain ⟨r1, r2, r3⟩ := N.row i N.i0 h
  have i0 := N.i0; have hi := N.hi; have n29 := N.n29; have len := N.len
  rw [← n29] at r1 r2
  exact alE alC_all alC_eq ⟨(sm (show S.Φ 62 [S.ρ 28] = S.ρ 29 from by rw [hi]; exact n29.symm)), (fls (p := S.ρ 28 < (0 : Int)) (by omega)), (tr (p := (0 : Int) ≤ S.ρ 28) (by omega)), (fls (p := S.ρ 29 < (0 : Int)) (by omega)), (tr (p := (0 : Int) ≤ S.ρ 29) (by omega)), (fls (p := S.ρ 90 ≤ S.ρ 29) (by omega)), (tr (p := S.ρ 29 < S.ρ 90) (by omega)), trivial⟩
def wC0 : Tm := (.bin .lss (.var .i64 28) (.var .i64 90))
def wC1 : Tm := (.appB 63 (.cons (.var .i64 29) .nil))
set_option maxHeartbeats 4000000 in
theorem runC {S1 : Sy} (ty : TypeId) (ha : AlOk S1 ((Tm.enc wC1, .bool false) :: (Tm.enc wC0, .bool true) :: alCL)) (G : Nat → Option Obj) : rOutR 703 [] XCA FCA Tryd.prog.globals.size (runM Tryd.prog ΛA (fun _ _ _ => none) ftA ha [] G 1000 (.code (cAt Tryd.prog lpAC) XCA.A) (XCA.H Tryd.prog)) = some (none, [(90, .num (Tm.enc (.var .i64 90))), (90, .num (Tm.enc (.var .i64 90))), (28, .num (Tm.enc (.bin .add (.var .i64 28) (.lit .i64 1)))), (90, .num (Tm.enc (.var .i64 90))), (62, .arr (.var 62)), (90, .num (Tm.enc (.var .i64 90))), (63, .arr (.upd (.var 63) (Tm.enc (.var .i64 29)) (Tm.enc (.blit true))))]) := by kernel_rfl
set_option maxHeartbeats 4000000 in
theorem stepC {S1 : Sy} {i : Int} (N : InvC S1 i) (hi : i < S1.ρ 90) : ∃ S2, StepTo Tryd.prog ftA ΛA (gsT ty) (cAt Tryd.prog lpAC) XCA FCA 703 S1 S2 ∧ InvC S2 (i + 1) ∧ Stay [28, 29] [63] S1 S2 := by
  have hK := N.geo.K
  obtain ⟨r1, r2, r3⟩ := N.row i N.i0 hi
  have fi0 := N.i0; have fhi := N.hi; have n29 := N.n29; have len := N.len; have e42 := N.geo.e42; have e7 := N.geo.e7; have b14 := N.geo.b14; have b16 := N.geo.b16; have b24 := N.geo.b24; have hp := N.geo.p; have ht := N.geo.t
  rw [← n29] at r1 r2 r3
  obtain ⟨o28, h_o28⟩ : ∃ o : Int, o = (IntKind.i64.wrap (S1.ρ 28 + (1 : Int))) := ⟨_, rfl⟩
  have u28 := h_o28
  rw [w_i64 (by omega) (by omega)] at u28
  have h0 : wC0.den S1 = some [b2i true] := tr (p := S1.ρ 28 < S1.ρ 90) (by omega)
  have h1 : wC1.den S1 = some [b2i false] := fls (p := S1.Φ 63 [S1.ρ 29] ≠ 0) (fun hh => by have := N.seen _ r1 hh; omega)
  have y : Stay [28, 29] [63] S1 (S1.set (upd S1.ρ [(28, o28), (29, S1.Φ 62 [o28])]) [(63, (fun j => ifE j (S1.ρ 29) ((b2i true)) ((fun j => S1.Φ 63 [j]) j)))] 60 rfl hK) := (Stay.refl _ _ _).set rfl rfl
  refine ⟨S1.set (upd S1.ρ [(28, o28), (29, S1.Φ 62 [o28])]) [(63, (fun j => ifE j (S1.ρ 29) ((b2i true)) ((fun j => S1.Φ 63 [j]) j)))] 60 rfl hK, ⟨_, [], _, 1000, _, [], (ai wC1 false h1 (ai wC0 true h0 (alC_ok N hi))), fun c hc => Geo.no c hc, LkOk.no _ _ _ _, (av 90 .i64 (av 90 .i64 (an 28 (.bin .add (.var .i64 28) (.lit .i64 1)) (sm h_o28.symm) (av 90 .i64 (ar 62 (ar_var 62) (av 90 .i64 (ar 63 (ar_upd (.var .i64 29) (.blit true) (i := S1.ρ 29) (v := (b2i true)) rfl rfl (by kernel_rfl) (ar_var 63)) (asg_nil rfl)))))))), runC ty _⟩, ⟨N.geo.stay y rfl, by omega, (show i + 1 ≤ S1.ρ 90 by omega), u28.trans (by omega), (show S1.Φ 62 [o28] = S1.Φ 62 [i + 1] from by rw [u28, fhi]), N.len, fun j h0 hj => (N.row j h0 hj).stay y rfl, fun v hv hne => ?_⟩, y⟩
  rw [(posS_stay y rfl v).1]
  have hne : ifE v (S1.ρ 29) (b2i true) (S1.Φ 63 [v]) ≠ 0 := hne
  by_cases e : v = S1.ρ 29
  · rw [e]; omega
  · rw [ifE, if_neg e] at hne
    have := N.seen v hv hne
    omega
def xCT : Tm := .bin .lss (.var .i64 28) (.var .i64 90)
theorem outC {S1 T : Sy} {i : Int} (N : InvC S1 i) (hi : i = S1.ρ 90) (hT : T.I = S1.I) : StepOut Tryd.prog ftA ΛA (gsT ty) (cAt Tryd.prog lpAC) XCA FCA (.exit 0) 703 S1 T :=
  ⟨_, [], _, 1000, _, [], (ai xCT false (fls (p := S1.ρ 28 < S1.ρ 90) (by have := N.hi; omega)) (AlOk.nil _)), fun c hc => Geo.no c hc, LkOk.no _ _ _ _, asg_nil hT, fun G => by kernel_rfl⟩
theorem chainC : ∀ (m : Nat) (S0 : Sy) (i : Int), InvC S0 i → i + m = S0.ρ 90 → ∃ Sf, Chain (StepTo Tryd.prog ftA ΛA (gsT ty) (cAt Tryd.prog lpAC) XCA FCA 703) m S0 Sf ∧ InvC Sf (Sf.ρ 90) ∧ Stay [28, 29] [63] S0 Sf
  | 0, S0, i, N, h => ⟨S0, .nil _, by rwa [show S0.ρ 90 = i by omega], Stay.refl _ _ _⟩
  | m + 1, S0, i, N, h => by
    obtain ⟨S2, st, N2, y⟩ := stepC (ty := ty) N (by omega)
    have e := y.num 90 rfl
    obtain ⟨Sf, ch, Nf, z⟩ := chainC m S2 (i + 1) N2 (by omega)
    exact ⟨Sf, .cons st ch, Nf, stay_weak (y.trans z) rfl rfl⟩
end
def askP : Asg := [(5, .num (Tm.enc (.var .i64 5))), (9, .num (Tm.enc (.var .i64 9))), (30, .num (Tm.enc (.var .i64 30))), (31, .num (Tm.enc (.var .i64 31))), (32, .num (Tm.enc (.var .i64 32))), (33, .num (Tm.enc (.var .i64 33))), (34, .num (Tm.enc (.var .i64 34))), (35, .num (Tm.enc (.var .i64 35))), (36, .num (Tm.enc (.var .i64 36))), (37, .num (Tm.enc (.var .i64 37))), (38, .num (Tm.enc (.var .i64 38))), (39, .num (Tm.enc (.var .i64 39))), (40, .num (Tm.enc (.var .i64 40))), (41, .num (Tm.enc (.var .i64 41))), (42, .num (Tm.enc (.var .i64 42))), (5, .num (Tm.enc (.var .i64 5))), (9, .num (Tm.enc (.var .i64 9))), (50, .num (Tm.enc (.lit .i64 21))), (17, .num (Tm.enc (.lit .i64 0))), (42, .num (Tm.enc (.var .i64 42))), (41, .num (Tm.enc (.var .i64 41))), (40, .num (Tm.enc (.var .i64 40))), (39, .num (Tm.enc (.var .i64 39))), (38, .num (Tm.enc (.var .i64 38))), (37, .num (Tm.enc (.var .i64 37))), (36, .num (Tm.enc (.var .i64 36))), (35, .num (Tm.enc (.var .i64 35))), (34, .num (Tm.enc (.var .i64 34))), (33, .num (Tm.enc (.var .i64 33))), (32, .num (Tm.enc (.var .i64 32))), (31, .num (Tm.enc (.var .i64 31))), (30, .num (Tm.enc (.var .i64 30))), (9, .num (Tm.enc (.var .i64 9))), (5, .num (Tm.enc (.var .i64 5))), (42, .num (Tm.enc (.var .i64 42))), (41, .num (Tm.enc (.var .i64 41))), (40, .num (Tm.enc (.var .i64 40))), (39, .num (Tm.enc (.var .i64 39))), (38, .num (Tm.enc (.var .i64 38))), (37, .num (Tm.enc (.var .i64 37))), (36, .num (Tm.enc (.var .i64 36))), (35, .num (Tm.enc (.var .i64 35))), (34, .num (Tm.enc (.var .i64 34))), (33, .num (Tm.enc (.var .i64 33))), (32, .num (Tm.enc (.var .i64 32))), (31, .num (Tm.enc (.var .i64 31))), (30, .num (Tm.enc (.var .i64 30))), (9, .num (Tm.enc (.var .i64 9))), (5, .num (Tm.enc (.var .i64 5))), (50, .num (Tm.enc (.lit .i64 21))), (60, .arr (.upd (.upd (.upd (.upd (.upd (.upd (.upd (.upd (.upd (.upd (.upd (.upd (.upd (.upd (.upd (.upd (.upd (.upd (.upd (.upd (.upd .zero (Tm.enc (.lit .i64 0)) (Tm.enc (.lit .i64 0))) (Tm.enc (.lit .i64 1)) (Tm.enc (.lit .i64 1))) (Tm.enc (.lit .i64 2)) (Tm.enc (.lit .i64 16))) (Tm.enc (.lit .i64 3)) (Tm.enc (.lit .i64 2))) (Tm.enc (.lit .i64 4)) (Tm.enc (.lit .i64 17))) (Tm.enc (.lit .i64 5)) (Tm.enc (.lit .i64 7))) (Tm.enc (.lit .i64 6)) (Tm.enc (.lit .i64 3))) (Tm.enc (.lit .i64 7)) (Tm.enc (.lit .i64 18))) (Tm.enc (.lit .i64 8)) (Tm.enc (.lit .i64 8))) (Tm.enc (.lit .i64 9)) (Tm.enc (.lit .i64 4))) (Tm.enc (.lit .i64 10)) (Tm.enc (.lit .i64 19))) (Tm.enc (.lit .i64 11)) (Tm.enc (.lit .i64 9))) (Tm.enc (.lit .i64 12)) (Tm.enc (.lit .i64 5))) (Tm.enc (.lit .i64 13)) (Tm.enc (.lit .i64 20))) (Tm.enc (.lit .i64 14)) (Tm.enc (.lit .i64 10))) (Tm.enc (.lit .i64 15)) (Tm.enc (.lit .i64 6))) (Tm.enc (.lit .i64 16)) (Tm.enc (.lit .i64 11))) (Tm.enc (.lit .i64 17)) (Tm.enc (.lit .i64 12))) (Tm.enc (.lit .i64 18)) (Tm.enc (.lit .i64 13))) (Tm.enc (.lit .i64 19)) (Tm.enc (.lit .i64 14))) (Tm.enc (.lit .i64 20)) (Tm.enc (.lit .i64 15))))]
def askT : Asg := [(5, .num (Tm.enc (.var .i64 5))), (9, .num (Tm.enc (.var .i64 9))), (30, .num (Tm.enc (.var .i64 30))), (31, .num (Tm.enc (.var .i64 31))), (32, .num (Tm.enc (.var .i64 32))), (33, .num (Tm.enc (.var .i64 33))), (34, .num (Tm.enc (.var .i64 34))), (35, .num (Tm.enc (.var .i64 35))), (36, .num (Tm.enc (.var .i64 36))), (37, .num (Tm.enc (.var .i64 37))), (38, .num (Tm.enc (.var .i64 38))), (39, .num (Tm.enc (.var .i64 39))), (40, .num (Tm.enc (.var .i64 40))), (41, .num (Tm.enc (.var .i64 41))), (42, .num (Tm.enc (.var .i64 42))), (5, .num (Tm.enc (.var .i64 5))), (9, .num (Tm.enc (.var .i64 9))), (70, .num (Tm.enc (.var .i64 50))), (18, .num (Tm.enc (.lit .i64 0))), (42, .num (Tm.enc (.var .i64 42))), (41, .num (Tm.enc (.var .i64 41))), (40, .num (Tm.enc (.var .i64 40))), (39, .num (Tm.enc (.var .i64 39))), (38, .num (Tm.enc (.var .i64 38))), (37, .num (Tm.enc (.var .i64 37))), (36, .num (Tm.enc (.var .i64 36))), (35, .num (Tm.enc (.var .i64 35))), (34, .num (Tm.enc (.var .i64 34))), (33, .num (Tm.enc (.var .i64 33))), (32, .num (Tm.enc (.var .i64 32))), (31, .num (Tm.enc (.var .i64 31))), (30, .num (Tm.enc (.var .i64 30))), (9, .num (Tm.enc (.var .i64 9))), (5, .num (Tm.enc (.var .i64 5))), (42, .num (Tm.enc (.var .i64 42))), (41, .num (Tm.enc (.var .i64 41))), (40, .num (Tm.enc (.var .i64 40))), (39, .num (Tm.enc (.var .i64 39))), (38, .num (Tm.enc (.var .i64 38))), (37, .num (Tm.enc (.var .i64 37))), (36, .num (Tm.enc (.var .i64 36))), (35, .num (Tm.enc (.var .i64 35))), (34, .num (Tm.enc (.var .i64 34))), (33, .num (Tm.enc (.var .i64 33))), (32, .num (Tm.enc (.var .i64 32))), (31, .num (Tm.enc (.var .i64 31))), (30, .num (Tm.enc (.var .i64 30))), (9, .num (Tm.enc (.var .i64 9))), (5, .num (Tm.enc (.var .i64 5))), (70, .num (Tm.enc (.var .i64 50))), (61, .arr (.var 60))]
def askN : Asg := [(5, .num (Tm.enc (.var .i64 5))), (9, .num (Tm.enc (.var .i64 9))), (30, .num (Tm.enc (.var .i64 30))), (31, .num (Tm.enc (.var .i64 31))), (32, .num (Tm.enc (.var .i64 32))), (33, .num (Tm.enc (.var .i64 33))), (34, .num (Tm.enc (.var .i64 34))), (35, .num (Tm.enc (.var .i64 35))), (36, .num (Tm.enc (.var .i64 36))), (37, .num (Tm.enc (.var .i64 37))), (38, .num (Tm.enc (.var .i64 38))), (39, .num (Tm.enc (.var .i64 39))), (40, .num (Tm.enc (.var .i64 40))), (41, .num (Tm.enc (.var .i64 41))), (42, .num (Tm.enc (.var .i64 42))), (5, .num (Tm.enc (.var .i64 5))), (9, .num (Tm.enc (.var .i64 9))), (90, .num (Tm.enc (.var .i64 70))), (19, .num (Tm.enc (.lit .i64 1))), (42, .num (Tm.enc (.var .i64 42))), (41, .num (Tm.enc (.var .i64 41))), (40, .num (Tm.enc (.var .i64 40))), (39, .num (Tm.enc (.var .i64 39))), (38, .num (Tm.enc (.var .i64 38))), (37, .num (Tm.enc (.var .i64 37))), (36, .num (Tm.enc (.var .i64 36))), (35, .num (Tm.enc (.var .i64 35))), (34, .num (Tm.enc (.var .i64 34))), (33, .num (Tm.enc (.var .i64 33))), (32, .num (Tm.enc (.var .i64 32))), (31, .num (Tm.enc (.var .i64 31))), (30, .num (Tm.enc (.var .i64 30))), (9, .num (Tm.enc (.var .i64 9))), (5, .num (Tm.enc (.var .i64 5))), (42, .num (Tm.enc (.var .i64 42))), (41, .num (Tm.enc (.var .i64 41))), (40, .num (Tm.enc (.var .i64 40))), (39, .num (Tm.enc (.var .i64 39))), (38, .num (Tm.enc (.var .i64 38))), (37, .num (Tm.enc (.var .i64 37))), (36, .num (Tm.enc (.var .i64 36))), (35, .num (Tm.enc (.var .i64 35))), (34, .num (Tm.enc (.var .i64 34))), (33, .num (Tm.enc (.var .i64 33))), (32, .num (Tm.enc (.var .i64 32))), (31, .num (Tm.enc (.var .i64 31))), (30, .num (Tm.enc (.var .i64 30))), (9, .num (Tm.enc (.var .i64 9))), (5, .num (Tm.enc (.var .i64 5))), (90, .num (Tm.enc (.var .i64 70))), (62, .arr (.var 61))]
def askC : Asg := [(90, .num (Tm.enc (.var .i64 90))), (90, .num (Tm.enc (.var .i64 90))), (28, .num (Tm.enc (.lit .i64 0))), (90, .num (Tm.enc (.var .i64 90))), (62, .arr (.var 62)), (90, .num (Tm.enc (.var .i64 90))), (63, .arr .zero)]
noncomputable abbrev lkP (ty : TypeId) := lkLoopR Tryd.prog 300 [(300, 226)] (XPA ty) (FPA ty) (.exit 2) askP
noncomputable abbrev lkT (ty : TypeId) := lkLoopR Tryd.prog 400 [(400, 300)] (XTA ty) (FTA ty) (.exit 6) askT
noncomputable abbrev lkN (ty : TypeId) := lkLoopR Tryd.prog 700 [(700, 400)] (XNA ty) (FNA ty) (.exit 12) askN
noncomputable abbrev lkC (ty : TypeId) := lkLoopR Tryd.prog 703 [] XCA FCA (.exit 0) askC
def awT : Tm := .appB 9 .nil
theorem aw_den {S : Sy} (h : S.Φ 9 [] = 1) : awT.den S = some [b2i true] := by
  show some [b2i (decide (S.Φ 9 [] ≠ 0))] = _
  rw [h]; rfl
def cAw : Ctr := ⟨16, [], [.one .bool], 9, fun _ => true⟩
theorem cAw_ok (ty : TypeId) (S : Sy) (h : S.Φ 9 [] = 1) : ∀ c ∈ [cAw], CtrOk Tryd.prog S (gsT ty) c := by
  intro c hc
  rw [List.mem_singleton] at hc
  subst hc
  intro a ns _ _ hl w hw
  obtain rfl := len0 (show ns.length = 0 from hl)
  refine (awake_any w ⟨ty, hw⟩).mono fun e w' ⟨h1, h2⟩ => ⟨?_, h2⟩
  rw [h1]
  show _ = Ending.returned (.bool (decide (S.Φ 9 [] ≠ 0)))
  rw [h]; rfl
def nTm : Tm := .bin .add (.lit .i64 1) (.conv .i64 (.bin .rem (.var .u8 2) (.lit .u8 20)))
def tTm : Tm := .bin .add (.lit .i64 1) (.conv .i64 (.bin .rem (.var .u8 3) (.lit .u8 8)))
def neT : Tm := .bin .neq (.var .i64 90) (.var .i64 42)
def geT : Tm := .bin .geq (.var .i64 90) (.lit .i64 0)
def ltT : Tm := .bin .lss (.var .i64 90) (.lit .i64 4194304)
def alLE : List En := [.nm (.bin .add (.lit .i64 21) (.var .i64 9)) 30, .nm (.bin .add (.var .i64 30) (.var .i64 5)) 31, .nm (.bin .add (.var .i64 31) (.var .i64 5)) 32, .nm (.bin .add (.var .i64 32) (.var .i64 5)) 33, .nm (.bin .add (.var .i64 33) (.var .i64 6)) 34, .nm (.bin .add (.var .i64 34) (.var .i64 6)) 35, .nm (.bin .add (.var .i64 35) (.var .i64 11)) 36, .nm (.bin .add (.var .i64 36) (.var .i64 10)) 37, .nm (.bin .add (.var .i64 37) (.var .i64 12)) 38, .nm (.bin .add (.var .i64 38) (.var .i64 9)) 39, .nm (.bin .add (.var .i64 39) (.var .i64 14)) 40, .nm (.bin .add (.var .i64 40) (.var .i64 7)) 41, .nm (.bin .add (.var .i64 41) (.var .i64 8)) 42, .ds (.bin .lss (.var .i64 5) (.lit .i64 1)) false, .ds (.bin .gtr (.var .i64 5) (.lit .i64 256)) false, .ds (.bin .lss (.var .i64 9) (.lit .i64 1)) false, .ds (.bin .gtr (.var .i64 9) (.lit .i64 64)) false, .ds (.bin .eql (.var .i64 5) (.lit .i64 0)) false]
def alLL : List (Nat × Value) := [(2958665631931011, .float .f64 15363), (2111560642205827, .float .f64 15875), (2181929386383491, .float .f64 16387), (2252298130561155, .float .f64 16899), (2322684054608003, .float .f64 17411), (2393052798785667, .float .f64 17923), (4926825805388419, .float .f64 18435), (5067546113874563, .float .f64 18947), (5208317961968259, .float .f64 19459), (5349003910716035, .float .f64 19971), (5489827298417283, .float .f64 20483), (2815282443720835, .float .f64 20995), (5771199195912835, .float .f64 21507), (88081558410475, .bool false), (22548784831538427, .bool false), (158450302588139, .bool false), (10140796112085243, .bool false), (1376369248475, .bool false)]
theorem alL_eq : alLL = alLE.map En.pr := by kernel_rfl
theorem alL_all : (alLE.all En.okB) = true := by kernel_rfl
noncomputable def alLaw : List (Nat × Value) := (awT.enc, .bool true) :: (neT.enc, .bool false) :: (geT.enc, .bool true) :: (ltT.enc, .bool true) :: (nTm.enc, .float .f64 (Tm.var .i64 5).enc) :: (tTm.enc, .float .f64 (Tm.var .i64 9).enc) :: (alGL ++ alLL)
theorem alL_h {S : Sy} (h : Geo S) : AllH S alLE := by
  have gp := h.p; have gt := h.t; have ge6 := h.e6; have ge10 := h.e10; have ge11 := h.e11; have ge12 := h.e12; have ge13 := h.e13; have ge14 := h.e14; have ge15 := h.e15; have ge16 := h.e16; have ge23 := h.e23; have ge24 := h.e24; have ge7 := h.e7; have ge8 := h.e8; have gb14 := h.b14; have gb16 := h.b16; have gb24 := h.b24; have gw := h.w; have ge30 := h.e30; have ge31 := h.e31; have ge32 := h.e32; have ge33 := h.e33; have ge34 := h.e34; have ge35 := h.e35; have ge36 := h.e36; have ge37 := h.e37; have ge38 := h.e38; have ge39 := h.e39; have ge40 := h.e40; have ge41 := h.e41; have ge42 := h.e42
  exact ⟨(sm (show (IntKind.i64.wrap ((21 : Int) + S.ρ 9)) = S.ρ 30 from by rw [w_i64 (by omega) (by omega)]; omega)), (sm (show (IntKind.i64.wrap (S.ρ 30 + S.ρ 5)) = S.ρ 31 from by rw [w_i64 (by omega) (by omega)]; omega)), (sm (show (IntKind.i64.wrap (S.ρ 31 + S.ρ 5)) = S.ρ 32 from by rw [w_i64 (by omega) (by omega)]; omega)), (sm (show (IntKind.i64.wrap (S.ρ 32 + S.ρ 5)) = S.ρ 33 from by rw [w_i64 (by omega) (by omega)]; omega)), (sm (show (IntKind.i64.wrap (S.ρ 33 + S.ρ 6)) = S.ρ 34 from by rw [w_i64 (by omega) (by omega)]; omega)), (sm (show (IntKind.i64.wrap (S.ρ 34 + S.ρ 6)) = S.ρ 35 from by rw [w_i64 (by omega) (by omega)]; omega)), (sm (show (IntKind.i64.wrap (S.ρ 35 + S.ρ 11)) = S.ρ 36 from by rw [w_i64 (by omega) (by omega)]; omega)), (sm (show (IntKind.i64.wrap (S.ρ 36 + S.ρ 10)) = S.ρ 37 from by rw [w_i64 (by omega) (by omega)]; omega)), (sm (show (IntKind.i64.wrap (S.ρ 37 + S.ρ 12)) = S.ρ 38 from by rw [w_i64 (by omega) (by omega)]; omega)), (sm (show (IntKind.i64.wrap (S.ρ 38 + S.ρ 9)) = S.ρ 39 from by rw [w_i64 (by omega) (by omega)]; omega)), (sm (show (IntKind.i64.wrap (S.ρ 39 + S.ρ 14)) = S.ρ 40 from by rw [w_i64 (by omega) (by omega)]; omega)), (sm (show (IntKind.i64.wrap (S.ρ 40 + S.ρ 7)) = S.ρ 41 from by rw [w_i64 (by omega) (by omega)]; omega)), (sm (show (IntKind.i64.wrap (S.ρ 41 + S.ρ 8)) = S.ρ 42 from by rw [w_i64 (by omega) (by omega)]; omega)), (fls (p := S.ρ 5 < (1 : Int)) (by omega)), (fls (p := (256 : Int) < S.ρ 5) (by omega)), (fls (p := S.ρ 9 < (1 : Int)) (by omega)), (fls (p := (64 : Int) < S.ρ 9) (by omega)), (fls (p := S.ρ 5 = (0 : Int)) (by omega)), trivial⟩
theorem runL {T : Sy} (ty : TypeId) (ha : AlOk T alLaw) (G : Nat → Option Obj) : outV (runM Tryd.prog ΛA (lkL [lkP ty, lkT ty, lkN ty, lkC ty]) ftA ha [cAw] G 1000 (.fn 4 [vv .u8 2, vv .u8 3].toArray) (H0g Tryd.prog (gsT ty))) = some (bundle [.bool true]) := by kernel_rfl
theorem nonlin {t p : Int} (ht : 1 ≤ t ∧ t ≤ 8) (hp : 1 ≤ p ∧ p ≤ 20) : (0 ≤ t * (2 * t + 2) ∧ t * (2 * t + 2) ≤ 144) ∧ (0 ≤ 4 * t * (p + 1) ∧ 4 * t * (p + 1) ≤ 672) ∧ (0 ≤ t * (2 * t + 3) ∧ t * (2 * t + 3) ≤ 152) ∧ (18 + 2 * t) * t = 16 * t + t * (2 * t + 2) := by
  rcases (show t = 1 ∨ t = 2 ∨ t = 3 ∨ t = 4 ∨ t = 5 ∨ t = 6 ∨ t = 7 ∨ t = 8 from by omega) with rfl | rfl | rfl | rfl | rfl | rfl | rfl | rfl <;> omega
def Φ9 : Nat → List Int → Int
  | 9, [] => 1
  | _, _ => 0
set_option maxHeartbeats 8000000 in
theorem apart_any (a b : Int) (ha : 0 ≤ a ∧ a < 256) (hb : 0 ≤ b ∧ b < 256) (ty : TypeId) (w : World) (hw : GOk Tryd.prog (gsT ty) w) : Calls Tryd.prog 4 #[.int .u8 a, .int .u8 b] w fun e w' => e = .returned (.bool true) ∧ Quiet w w' := by
  obtain ⟨p, hp⟩ : ∃ p : Int, p = 1 + a % 20 := ⟨_, rfl⟩
  obtain ⟨t, ht⟩ : ∃ t : Int, t = 1 + b % 8 := ⟨_, rfl⟩
  have bp : 1 ≤ p ∧ p ≤ 20 := by omega
  have bt : 1 ≤ t ∧ t ≤ 8 := by omega
  obtain ⟨k14, k16, k24, kw⟩ := nonlin bt bp
  obtain ⟨SS, hSS⟩ : ∃ SS : Sy, SS = ⟨upd (fun _ => 0) [(2, a), (3, b), (5, p), (9, t), (6, 8 * p), (10, 4 * t), (11, 8 * t), (12, 2 * t), (13, 2 * t + 2), (14, t * (2 * t + 2)), (15, p + 1), (16, 4 * t * (p + 1)), (23, 2 * t + 3), (24, t * (2 * t + 3)), (7, 4 * t * (p + 1) + t * (2 * t + 3)), (8, 8 * (4 * t * (p + 1) + t * (2 * t + 3))), (30, 21 + t), (31, 21 + t + p), (32, 21 + t + 2 * p), (33, 21 + t + 3 * p), (34, 21 + t + 11 * p), (35, 21 + t + 19 * p), (36, 21 + 9 * t + 19 * p), (37, 21 + 13 * t + 19 * p), (38, 21 + 15 * t + 19 * p), (39, 21 + 16 * t + 19 * p), (40, 21 + 16 * t + 19 * p + t * (2 * t + 2)), (41, 21 + 16 * t + 19 * p + t * (2 * t + 2) + (4 * t * (p + 1) + t * (2 * t + 3))), (42, 21 + 16 * t + 19 * p + t * (2 * t + 2) + 9 * (4 * t * (p + 1) + t * (2 * t + 3)))], Φ9, [], fun z hz => by simp at hz⟩ := ⟨_, rfl⟩
  have i2 : SS.ρ 2 = a := by rw [hSS]; rfl
  have i3 : SS.ρ 3 = b := by rw [hSS]; rfl
  have i5 : SS.ρ 5 = p := by rw [hSS]; rfl
  have i9 : SS.ρ 9 = t := by rw [hSS]; rfl
  have i6 : SS.ρ 6 = 8 * p := by rw [hSS]; rfl
  have i10 : SS.ρ 10 = 4 * t := by rw [hSS]; rfl
  have i11 : SS.ρ 11 = 8 * t := by rw [hSS]; rfl
  have i12 : SS.ρ 12 = 2 * t := by rw [hSS]; rfl
  have i13 : SS.ρ 13 = 2 * t + 2 := by rw [hSS]; rfl
  have i14 : SS.ρ 14 = t * (2 * t + 2) := by rw [hSS]; rfl
  have i15 : SS.ρ 15 = p + 1 := by rw [hSS]; rfl
  have i16 : SS.ρ 16 = 4 * t * (p + 1) := by rw [hSS]; rfl
  have i23 : SS.ρ 23 = 2 * t + 3 := by rw [hSS]; rfl
  have i24 : SS.ρ 24 = t * (2 * t + 3) := by rw [hSS]; rfl
  have i7 : SS.ρ 7 = 4 * t * (p + 1) + t * (2 * t + 3) := by rw [hSS]; rfl
  have i8 : SS.ρ 8 = 8 * (4 * t * (p + 1) + t * (2 * t + 3)) := by rw [hSS]; rfl
  have i30 : SS.ρ 30 = 21 + t := by rw [hSS]; rfl
  have i31 : SS.ρ 31 = 21 + t + p := by rw [hSS]; rfl
  have i32 : SS.ρ 32 = 21 + t + 2 * p := by rw [hSS]; rfl
  have i33 : SS.ρ 33 = 21 + t + 3 * p := by rw [hSS]; rfl
  have i34 : SS.ρ 34 = 21 + t + 11 * p := by rw [hSS]; rfl
  have i35 : SS.ρ 35 = 21 + t + 19 * p := by rw [hSS]; rfl
  have i36 : SS.ρ 36 = 21 + 9 * t + 19 * p := by rw [hSS]; rfl
  have i37 : SS.ρ 37 = 21 + 13 * t + 19 * p := by rw [hSS]; rfl
  have i38 : SS.ρ 38 = 21 + 15 * t + 19 * p := by rw [hSS]; rfl
  have i39 : SS.ρ 39 = 21 + 16 * t + 19 * p := by rw [hSS]; rfl
  have i40 : SS.ρ 40 = 21 + 16 * t + 19 * p + t * (2 * t + 2) := by rw [hSS]; rfl
  have i41 : SS.ρ 41 = 21 + 16 * t + 19 * p + t * (2 * t + 2) + (4 * t * (p + 1) + t * (2 * t + 3)) := by rw [hSS]; rfl
  have i42 : SS.ρ 42 = 21 + 16 * t + 19 * p + t * (2 * t + 2) + 9 * (4 * t * (p + 1) + t * (2 * t + 3)) := by rw [hSS]; rfl
  have iI : SS.I = [] := by rw [hSS]
  have i9A : SS.Φ 9 [] = 1 := by rw [hSS]; rfl
  clear hSS
  have geo : Geo SS := ⟨iI, by rw [i5]; omega, by rw [i9]; omega, by rw [i5, i6], by rw [i9, i10], by rw [i9, i11], by rw [i9, i12], by rw [i9, i13], by rw [i9, i13, i14], by rw [i5, i15], by rw [i10, i15, i16], by rw [i9, i23], by rw [i9, i23, i24], by rw [i7, i16, i24], by rw [i7, i8], by rw [i14]; exact k14, by rw [i16]; exact k16, by rw [i24]; exact k24, by rw [i9, i14]; exact kw, by rw [i9, i30], by rw [i5, i9, i31], by rw [i5, i9, i32], by rw [i5, i9, i33], by rw [i5, i9, i34], by rw [i5, i9, i35], by rw [i5, i9, i36], by rw [i5, i9, i37], by rw [i5, i9, i38], by rw [i5, i9, i39], by rw [i5, i9, i14, i40], by rw [i5, i7, i9, i14, i41], by rw [i5, i7, i9, i14, i42]⟩
  have hK := geo.K
  obtain ⟨S00, hS00⟩ : ∃ S0 : Sy, S0 = SS.set (upd SS.ρ [(17, 0), (50, 21), (51, 21 + 3), (52, 21 + 5), (53, 21 + 7), (54, 21 + 9), (55, 21 + 11), (56, 21 + 13), (57, 21 + 15), (58, 21 + 17), (59, 21 + 19), (60, 8 * 0), (61, 8 * 0 + 1), (62, 8 * 0 + 2), (63, 8 * 0 + 3), (64, 8 * 0 + 4), (65, 8 * 0 + 5), (66, 8 * 0 + 6), (67, 8 * 0 + 7)]) [(60, (fun j => ifE j ((20 : Int)) ((15 : Int)) ((fun j => ifE j ((19 : Int)) ((14 : Int)) ((fun j => ifE j ((18 : Int)) ((13 : Int)) ((fun j => ifE j ((17 : Int)) ((12 : Int)) ((fun j => ifE j ((16 : Int)) ((11 : Int)) ((fun j => ifE j ((15 : Int)) ((6 : Int)) ((fun j => ifE j ((14 : Int)) ((10 : Int)) ((fun j => ifE j ((13 : Int)) ((20 : Int)) ((fun j => ifE j ((12 : Int)) ((5 : Int)) ((fun j => ifE j ((11 : Int)) ((9 : Int)) ((fun j => ifE j ((10 : Int)) ((19 : Int)) ((fun j => ifE j ((9 : Int)) ((4 : Int)) ((fun j => ifE j ((8 : Int)) ((8 : Int)) ((fun j => ifE j ((7 : Int)) ((18 : Int)) ((fun j => ifE j ((6 : Int)) ((3 : Int)) ((fun j => ifE j ((5 : Int)) ((7 : Int)) ((fun j => ifE j ((4 : Int)) ((17 : Int)) ((fun j => ifE j ((3 : Int)) ((2 : Int)) ((fun j => ifE j ((2 : Int)) ((16 : Int)) ((fun j => ifE j ((1 : Int)) ((1 : Int)) ((fun j => ifE j ((0 : Int)) ((0 : Int)) ((fun _ => 0) j)) j)) j)) j)) j)) j)) j)) j)) j)) j)) j)) j)) j)) j)) j)) j)) j)) j)) j)) j)) j)))] 60 rfl hK := ⟨_, rfl⟩
  have q0 : Stay [17, 50, 51, 52, 53, 54, 55, 56, 57, 58, 59, 60, 61, 62, 63, 64, 65, 66, 67] [60] SS S00 := by rw [hS00]; exact (Stay.refl _ _ _).set rfl rfl
  have s0_17 : S00.ρ 17 = 0 := by rw [hS00]; rfl
  have s0_50 : S00.ρ 50 = 21 := by rw [hS00]; rfl
  have s0_51 : S00.ρ 51 = 21 + 3 := by rw [hS00]; rfl
  have s0_52 : S00.ρ 52 = 21 + 5 := by rw [hS00]; rfl
  have s0_53 : S00.ρ 53 = 21 + 7 := by rw [hS00]; rfl
  have s0_54 : S00.ρ 54 = 21 + 9 := by rw [hS00]; rfl
  have s0_55 : S00.ρ 55 = 21 + 11 := by rw [hS00]; rfl
  have s0_56 : S00.ρ 56 = 21 + 13 := by rw [hS00]; rfl
  have s0_57 : S00.ρ 57 = 21 + 15 := by rw [hS00]; rfl
  have s0_58 : S00.ρ 58 = 21 + 17 := by rw [hS00]; rfl
  have s0_59 : S00.ρ 59 = 21 + 19 := by rw [hS00]; rfl
  have s0_60 : S00.ρ 60 = 8 * 0 := by rw [hS00]; rfl
  have s0_61 : S00.ρ 61 = 8 * 0 + 1 := by rw [hS00]; rfl
  have s0_62 : S00.ρ 62 = 8 * 0 + 2 := by rw [hS00]; rfl
  have s0_63 : S00.ρ 63 = 8 * 0 + 3 := by rw [hS00]; rfl
  have s0_64 : S00.ρ 64 = 8 * 0 + 4 := by rw [hS00]; rfl
  have s0_65 : S00.ρ 65 = 8 * 0 + 5 := by rw [hS00]; rfl
  have s0_66 : S00.ρ 66 = 8 * 0 + 6 := by rw [hS00]; rfl
  have s0_67 : S00.ρ 67 = 8 * 0 + 7 := by rw [hS00]; rfl
  have z0_60 : ∀ j : Int, S00.Φ 60 [j] = ((fun j => ifE j ((20 : Int)) ((15 : Int)) ((fun j => ifE j ((19 : Int)) ((14 : Int)) ((fun j => ifE j ((18 : Int)) ((13 : Int)) ((fun j => ifE j ((17 : Int)) ((12 : Int)) ((fun j => ifE j ((16 : Int)) ((11 : Int)) ((fun j => ifE j ((15 : Int)) ((6 : Int)) ((fun j => ifE j ((14 : Int)) ((10 : Int)) ((fun j => ifE j ((13 : Int)) ((20 : Int)) ((fun j => ifE j ((12 : Int)) ((5 : Int)) ((fun j => ifE j ((11 : Int)) ((9 : Int)) ((fun j => ifE j ((10 : Int)) ((19 : Int)) ((fun j => ifE j ((9 : Int)) ((4 : Int)) ((fun j => ifE j ((8 : Int)) ((8 : Int)) ((fun j => ifE j ((7 : Int)) ((18 : Int)) ((fun j => ifE j ((6 : Int)) ((3 : Int)) ((fun j => ifE j ((5 : Int)) ((7 : Int)) ((fun j => ifE j ((4 : Int)) ((17 : Int)) ((fun j => ifE j ((3 : Int)) ((2 : Int)) ((fun j => ifE j ((2 : Int)) ((16 : Int)) ((fun j => ifE j ((1 : Int)) ((1 : Int)) ((fun j => ifE j ((0 : Int)) ((0 : Int)) ((fun _ => 0) j)) j)) j)) j)) j)) j)) j)) j)) j)) j)) j)) j)) j)) j)) j)) j)) j)) j)) j)) j)) j))) j := by rw [hS00]; intro j; rfl
  clear hS00
  have r0 : ∀ j : Int, 0 ≤ j → j < 0 → At SS j ((fun _ => (0 : Int)) j) := fun j h0 hj => by omega
  have r1 := at_upd r0 (i := (0 : Int)) (v := (0 : Int)) (m := (1 : Int)) rfl rfl ⟨by omega, by rw [i42]; omega, by unfold posS posZ; kernel_rfl⟩
  have r2 := at_upd r1 (i := (1 : Int)) (v := (1 : Int)) (m := (2 : Int)) rfl rfl ⟨by omega, by rw [i42]; omega, by unfold posS posZ; kernel_rfl⟩
  have r3 := at_upd r2 (i := (2 : Int)) (v := (16 : Int)) (m := (3 : Int)) rfl rfl ⟨by omega, by rw [i42]; omega, by unfold posS posZ; kernel_rfl⟩
  have r4 := at_upd r3 (i := (3 : Int)) (v := (2 : Int)) (m := (4 : Int)) rfl rfl ⟨by omega, by rw [i42]; omega, by unfold posS posZ; kernel_rfl⟩
  have r5 := at_upd r4 (i := (4 : Int)) (v := (17 : Int)) (m := (5 : Int)) rfl rfl ⟨by omega, by rw [i42]; omega, by unfold posS posZ; kernel_rfl⟩
  have r6 := at_upd r5 (i := (5 : Int)) (v := (7 : Int)) (m := (6 : Int)) rfl rfl ⟨by omega, by rw [i42]; omega, by unfold posS posZ; kernel_rfl⟩
  have r7 := at_upd r6 (i := (6 : Int)) (v := (3 : Int)) (m := (7 : Int)) rfl rfl ⟨by omega, by rw [i42]; omega, by unfold posS posZ; kernel_rfl⟩
  have r8 := at_upd r7 (i := (7 : Int)) (v := (18 : Int)) (m := (8 : Int)) rfl rfl ⟨by omega, by rw [i42]; omega, by unfold posS posZ; kernel_rfl⟩
  have r9 := at_upd r8 (i := (8 : Int)) (v := (8 : Int)) (m := (9 : Int)) rfl rfl ⟨by omega, by rw [i42]; omega, by unfold posS posZ; kernel_rfl⟩
  have r10 := at_upd r9 (i := (9 : Int)) (v := (4 : Int)) (m := (10 : Int)) rfl rfl ⟨by omega, by rw [i42]; omega, by unfold posS posZ; kernel_rfl⟩
  have r11 := at_upd r10 (i := (10 : Int)) (v := (19 : Int)) (m := (11 : Int)) rfl rfl ⟨by omega, by rw [i42]; omega, by unfold posS posZ; kernel_rfl⟩
  have r12 := at_upd r11 (i := (11 : Int)) (v := (9 : Int)) (m := (12 : Int)) rfl rfl ⟨by omega, by rw [i42]; omega, by unfold posS posZ; kernel_rfl⟩
  have r13 := at_upd r12 (i := (12 : Int)) (v := (5 : Int)) (m := (13 : Int)) rfl rfl ⟨by omega, by rw [i42]; omega, by unfold posS posZ; kernel_rfl⟩
  have r14 := at_upd r13 (i := (13 : Int)) (v := (20 : Int)) (m := (14 : Int)) rfl rfl ⟨by omega, by rw [i42]; omega, by unfold posS posZ; kernel_rfl⟩
  have r15 := at_upd r14 (i := (14 : Int)) (v := (10 : Int)) (m := (15 : Int)) rfl rfl ⟨by omega, by rw [i42]; omega, by unfold posS posZ; kernel_rfl⟩
  have r16 := at_upd r15 (i := (15 : Int)) (v := (6 : Int)) (m := (16 : Int)) rfl rfl ⟨by omega, by rw [i42]; omega, by unfold posS posZ; kernel_rfl⟩
  have r17 := at_upd r16 (i := (16 : Int)) (v := (11 : Int)) (m := (17 : Int)) rfl rfl ⟨by omega, by rw [i42]; omega, by unfold posS posZ; kernel_rfl⟩
  have r18 := at_upd r17 (i := (17 : Int)) (v := (12 : Int)) (m := (18 : Int)) rfl rfl ⟨by omega, by rw [i42]; omega, by unfold posS posZ; kernel_rfl⟩
  have r19 := at_upd r18 (i := (18 : Int)) (v := (13 : Int)) (m := (19 : Int)) rfl rfl ⟨by omega, by rw [i42]; omega, by unfold posS posZ; kernel_rfl⟩
  have r20 := at_upd r19 (i := (19 : Int)) (v := (14 : Int)) (m := (20 : Int)) rfl rfl ⟨by omega, by rw [i42]; omega, by unfold posS posZ; kernel_rfl⟩
  have r21 := at_upd r20 (i := (20 : Int)) (v := (15 : Int)) (m := (21 : Int)) rfl rfl ⟨by omega, by rw [i42]; omega, by unfold posS posZ; kernel_rfl⟩
  have NP0 : InvP S00 0 := ⟨geo.stay q0 rfl, by omega, by rw [q0.num 5 rfl, i5]; omega, s0_17, s0_50, by rw [s0_51, s0_50], by rw [s0_52, s0_50], by rw [s0_53, s0_50], by rw [s0_54, s0_50], by rw [s0_55, s0_50], by rw [s0_56, s0_50], by rw [s0_57, s0_50], by rw [s0_58, s0_50], by rw [s0_59, s0_50], s0_60, s0_61, s0_62, s0_63, s0_64, s0_65, s0_66, s0_67, fun j h0 hj => by
    rw [z0_60]
    exact (r21 j h0 (by rw [s0_50] at hj; omega)).stay q0 rfl⟩
  obtain ⟨mP, hmP⟩ : ∃ m : Nat, (0 : Int) + m = S00.ρ 5 := ⟨p.toNat, by rw [q0.num 5 rfl, i5]; omega⟩
  obtain ⟨SP, chP, NP, yP⟩ := chainP (ty := ty) mP S00 0 NP0 hmP
  obtain ⟨S09, hS09⟩ : ∃ S0 : Sy, S0 = SP.set (upd SP.ρ [(18, 0), (70, SP.ρ 50), (71, SP.ρ 50 + 4), (72, SP.ρ 50 + 7), (73, SP.ρ 50 + 10), (74, SP.ρ 50 + 13), (75, SP.ρ 50 + 16), (81, 2 * 0), (82, 2 * 0 + 1), (83, 4 * 0), (84, 4 * 0 + 1), (85, 4 * 0 + 2), (86, 4 * 0 + 3), (100, 8 * 0 + 0), (101, 8 * 0 + 2), (102, 8 * 0 + 4), (103, 8 * 0 + 6), (104, 8 * 0 + 1), (105, 8 * 0 + 3), (106, 8 * 0 + 5), (107, 8 * 0 + 7)]) [(61, fun j => SP.Φ 60 [j])] 60 rfl NP.geo.K := ⟨_, rfl⟩
  have q9 : Stay [18, 70, 71, 72, 73, 74, 75, 81, 82, 83, 84, 85, 86, 100, 101, 102, 103, 104, 105, 106, 107] [61] SP S09 := by rw [hS09]; exact (Stay.refl _ _ _).set rfl rfl
  have s9_18 : S09.ρ 18 = 0 := by rw [hS09]; rfl
  have s9_70 : S09.ρ 70 = SP.ρ 50 := by rw [hS09]; rfl
  have s9_71 : S09.ρ 71 = SP.ρ 50 + 4 := by rw [hS09]; rfl
  have s9_72 : S09.ρ 72 = SP.ρ 50 + 7 := by rw [hS09]; rfl
  have s9_73 : S09.ρ 73 = SP.ρ 50 + 10 := by rw [hS09]; rfl
  have s9_74 : S09.ρ 74 = SP.ρ 50 + 13 := by rw [hS09]; rfl
  have s9_75 : S09.ρ 75 = SP.ρ 50 + 16 := by rw [hS09]; rfl
  have s9_81 : S09.ρ 81 = 2 * 0 := by rw [hS09]; rfl
  have s9_82 : S09.ρ 82 = 2 * 0 + 1 := by rw [hS09]; rfl
  have s9_83 : S09.ρ 83 = 4 * 0 := by rw [hS09]; rfl
  have s9_84 : S09.ρ 84 = 4 * 0 + 1 := by rw [hS09]; rfl
  have s9_85 : S09.ρ 85 = 4 * 0 + 2 := by rw [hS09]; rfl
  have s9_86 : S09.ρ 86 = 4 * 0 + 3 := by rw [hS09]; rfl
  have s9_100 : S09.ρ 100 = 8 * 0 + 0 := by rw [hS09]; rfl
  have s9_101 : S09.ρ 101 = 8 * 0 + 2 := by rw [hS09]; rfl
  have s9_102 : S09.ρ 102 = 8 * 0 + 4 := by rw [hS09]; rfl
  have s9_103 : S09.ρ 103 = 8 * 0 + 6 := by rw [hS09]; rfl
  have s9_104 : S09.ρ 104 = 8 * 0 + 1 := by rw [hS09]; rfl
  have s9_105 : S09.ρ 105 = 8 * 0 + 3 := by rw [hS09]; rfl
  have s9_106 : S09.ρ 106 = 8 * 0 + 5 := by rw [hS09]; rfl
  have s9_107 : S09.ρ 107 = 8 * 0 + 7 := by rw [hS09]; rfl
  have z9_61 : ∀ j : Int, S09.Φ 61 [j] = (fun j => SP.Φ 60 [j]) j := by rw [hS09]; intro j; rfl
  clear hS09
  have NT0 : InvT S09 0 := ⟨NP.geo.stay q9 rfl, by omega, by rw [q9.num 9 rfl]; have := NP.geo.t; omega, s9_18, by rw [s9_70, q9.num 5 rfl, NP.len, Int.mul_zero]; omega, by rw [s9_71, s9_70], by rw [s9_72, s9_70], by rw [s9_73, s9_70], by rw [s9_74, s9_70], by rw [s9_75, s9_70], s9_81, s9_82, s9_83, s9_84, s9_85, s9_86, s9_100, s9_101, s9_102, s9_103, s9_104, s9_105, s9_106, s9_107, fun j h0 hj => by
    rw [z9_61]
    exact (NP.row j h0 (by rw [s9_70] at hj; exact hj)).stay q9 rfl⟩
  obtain ⟨mT, hmT⟩ : ∃ m : Nat, (0 : Int) + m = S09.ρ 9 := ⟨(S09.ρ 9).toNat, by have := NT0.geo.t; omega⟩
  obtain ⟨S01, ST, chT, NT, yA, yT⟩ := chainT (ty := ty) mT S09 0 NT0 hmT
  have q1 := q9.trans yA
  have s1_18 : S01.ρ 18 = 0 := (yA.num 18 rfl).trans s9_18
  have s1_70 : S01.ρ 70 = SP.ρ 50 := (yA.num 70 rfl).trans s9_70
  have z1_61 : ∀ j : Int, S01.Φ 61 [j] = (fun j => SP.Φ 60 [j]) j := fun j => (yA.fn 61 rfl [j]).trans (z9_61 j)
  obtain ⟨S02, hS02⟩ : ∃ S0 : Sy, S0 = ST.set (upd ST.ρ [(19, 1), (90, ST.ρ 70), (21, 1 - 1), (91, ST.ρ 70 + 1), (92, ST.ρ 70 + 2), (93, ST.ρ 70 + 3), (94, ST.ρ 70 + 4), (95, ST.ρ 70 + 5), (96, ST.ρ 70 + 6), (97, ST.ρ 70 + 7), (98, ST.ρ 70 + 8), (99, ST.ρ 70 + 9), (112, 8 * (1 - 1)), (113, 8 * (1 - 1) + 1), (114, 8 * (1 - 1) + 2), (115, 8 * (1 - 1) + 3), (116, 8 * (1 - 1) + 4), (117, 8 * (1 - 1) + 5), (118, 8 * (1 - 1) + 6), (119, 8 * (1 - 1) + 7)]) [(62, fun j => ST.Φ 61 [j])] 60 rfl NT.geo.K := ⟨_, rfl⟩
  have q2 : Stay [19, 90, 21, 91, 92, 93, 94, 95, 96, 97, 98, 99, 112, 113, 114, 115, 116, 117, 118, 119] [62] ST S02 := by rw [hS02]; exact (Stay.refl _ _ _).set rfl rfl
  have s2_19 : S02.ρ 19 = 1 := by rw [hS02]; rfl
  have s2_90 : S02.ρ 90 = ST.ρ 70 := by rw [hS02]; rfl
  have s2_21 : S02.ρ 21 = 1 - 1 := by rw [hS02]; rfl
  have s2_91 : S02.ρ 91 = ST.ρ 70 + 1 := by rw [hS02]; rfl
  have s2_92 : S02.ρ 92 = ST.ρ 70 + 2 := by rw [hS02]; rfl
  have s2_93 : S02.ρ 93 = ST.ρ 70 + 3 := by rw [hS02]; rfl
  have s2_94 : S02.ρ 94 = ST.ρ 70 + 4 := by rw [hS02]; rfl
  have s2_95 : S02.ρ 95 = ST.ρ 70 + 5 := by rw [hS02]; rfl
  have s2_96 : S02.ρ 96 = ST.ρ 70 + 6 := by rw [hS02]; rfl
  have s2_97 : S02.ρ 97 = ST.ρ 70 + 7 := by rw [hS02]; rfl
  have s2_98 : S02.ρ 98 = ST.ρ 70 + 8 := by rw [hS02]; rfl
  have s2_99 : S02.ρ 99 = ST.ρ 70 + 9 := by rw [hS02]; rfl
  have s2_112 : S02.ρ 112 = 8 * (1 - 1) := by rw [hS02]; rfl
  have s2_113 : S02.ρ 113 = 8 * (1 - 1) + 1 := by rw [hS02]; rfl
  have s2_114 : S02.ρ 114 = 8 * (1 - 1) + 2 := by rw [hS02]; rfl
  have s2_115 : S02.ρ 115 = 8 * (1 - 1) + 3 := by rw [hS02]; rfl
  have s2_116 : S02.ρ 116 = 8 * (1 - 1) + 4 := by rw [hS02]; rfl
  have s2_117 : S02.ρ 117 = 8 * (1 - 1) + 5 := by rw [hS02]; rfl
  have s2_118 : S02.ρ 118 = 8 * (1 - 1) + 6 := by rw [hS02]; rfl
  have s2_119 : S02.ρ 119 = 8 * (1 - 1) + 7 := by rw [hS02]; rfl
  have z2_62 : ∀ j : Int, S02.Φ 62 [j] = (fun j => ST.Φ 61 [j]) j := by rw [hS02]; intro j; rfl
  clear hS02
  have NN0 : InvN S02 1 := ⟨NT.geo.stay q2 rfl, by omega, by rw [q2.num 7 rfl]; have := NT.geo.e7; have := NT.geo.b16; have := NT.geo.b24; omega, s2_19, by rw [s2_90, q2.num 5 rfl, q2.num 9 rfl, q2.num 14 rfl, NT.len, NT.geo.w]; omega, s2_21, by rw [s2_91, s2_90], by rw [s2_92, s2_90], by rw [s2_93, s2_90], by rw [s2_94, s2_90], by rw [s2_95, s2_90], by rw [s2_96, s2_90], by rw [s2_97, s2_90], by rw [s2_98, s2_90], by rw [s2_99, s2_90], s2_112, s2_113, s2_114, s2_115, s2_116, s2_117, s2_118, s2_119, fun j h0 hj => by
    rw [z2_62]
    exact (NT.row j h0 (by rw [s2_90] at hj; exact hj)).stay q2 rfl⟩
  obtain ⟨mN, hmN⟩ : ∃ m : Nat, (1 : Int) + m = S02.ρ 7 + 1 := ⟨(S02.ρ 7).toNat, by have := NN0.geo.e7; have := NN0.geo.b16; have := NN0.geo.b24; omega⟩
  obtain ⟨SN, chN, NN, yN⟩ := chainN (ty := ty) mN S02 1 NN0 hmN
  obtain ⟨S03, hS03⟩ : ∃ S0 : Sy, S0 = SN.set (upd SN.ρ [(28, 0), (29, SN.Φ 62 [0])]) [(63, fun _ => 0)] 60 rfl NN.geo.K := ⟨_, rfl⟩
  have q3 : Stay [28, 29] [63] SN S03 := by rw [hS03]; exact (Stay.refl _ _ _).set rfl rfl
  have s3_28 : S03.ρ 28 = 0 := by rw [hS03]; rfl
  have s3_29 : S03.ρ 29 = SN.Φ 62 [0] := by rw [hS03]; rfl
  have z3_63 : ∀ j : Int, S03.Φ 63 [j] = (fun _ => 0) j := by rw [hS03]; intro j; rfl
  clear hS03
  have nlen : SN.ρ 90 = SN.ρ 42 := by have := NN.len; have := NN.geo.e42; omega
  have n0 : 0 ≤ SN.ρ 90 ∧ SN.ρ 90 < 4194304 := by have := NN.geo.e42; have := NN.geo.e7; have := NN.geo.b16; have := NN.geo.b24; have := NN.geo.b14; have := NN.geo.p; have := NN.geo.t; omega
  have NC0 : InvC S03 0 := ⟨NN.geo.stay q3 rfl, by omega, by rw [q3.num 90 rfl]; exact n0.1, s3_28, by rw [s3_29, q3.fn 62 rfl], by rw [q3.num 90 rfl, q3.num 42 rfl]; exact nlen, fun j h0 hj => by
    rw [q3.fn 62 rfl]
    exact (NN.row j h0 (by rw [q3.num 90 rfl] at hj; exact hj)).stay q3 rfl, fun v h0 hne => absurd (z3_63 v) hne⟩
  obtain ⟨mC, hmC⟩ : ∃ m : Nat, (0 : Int) + m = S03.ρ 90 := ⟨(S03.ρ 90).toNat, by have := q3.num 90 rfl; omega⟩
  obtain ⟨T, chC, NC, yC⟩ := chainC (ty := ty) mC S03 0 NC0 hmC
  have p3 := q3.trans yC
  have g2 := yN.trans p3
  have p2 := q2.trans g2
  have g1 := yT.trans p2
  have p1 := q1.trans g1
  have g0 := yP.trans p1
  have p0 := q0.trans g0
  have g3 := yC
  have a0 : AsgOk T S00 askP := (an 5 (.var .i64 5) (sm (g0.num 5 rfl)) (an 9 (.var .i64 9) (sm (g0.num 9 rfl)) (an 30 (.var .i64 30) (sm (g0.num 30 rfl)) (an 31 (.var .i64 31) (sm (g0.num 31 rfl)) (an 32 (.var .i64 32) (sm (g0.num 32 rfl)) (an 33 (.var .i64 33) (sm (g0.num 33 rfl)) (an 34 (.var .i64 34) (sm (g0.num 34 rfl)) (an 35 (.var .i64 35) (sm (g0.num 35 rfl)) (an 36 (.var .i64 36) (sm (g0.num 36 rfl)) (an 37 (.var .i64 37) (sm (g0.num 37 rfl)) (an 38 (.var .i64 38) (sm (g0.num 38 rfl)) (an 39 (.var .i64 39) (sm (g0.num 39 rfl)) (an 40 (.var .i64 40) (sm (g0.num 40 rfl)) (an 41 (.var .i64 41) (sm (g0.num 41 rfl)) (an 42 (.var .i64 42) (sm (g0.num 42 rfl)) (an 5 (.var .i64 5) (sm (g0.num 5 rfl)) (an 9 (.var .i64 9) (sm (g0.num 9 rfl)) (an 50 (.lit .i64 21) (sm s0_50.symm) (an 17 (.lit .i64 0) (sm s0_17.symm) (an 42 (.var .i64 42) (sm (g0.num 42 rfl)) (an 41 (.var .i64 41) (sm (g0.num 41 rfl)) (an 40 (.var .i64 40) (sm (g0.num 40 rfl)) (an 39 (.var .i64 39) (sm (g0.num 39 rfl)) (an 38 (.var .i64 38) (sm (g0.num 38 rfl)) (an 37 (.var .i64 37) (sm (g0.num 37 rfl)) (an 36 (.var .i64 36) (sm (g0.num 36 rfl)) (an 35 (.var .i64 35) (sm (g0.num 35 rfl)) (an 34 (.var .i64 34) (sm (g0.num 34 rfl)) (an 33 (.var .i64 33) (sm (g0.num 33 rfl)) (an 32 (.var .i64 32) (sm (g0.num 32 rfl)) (an 31 (.var .i64 31) (sm (g0.num 31 rfl)) (an 30 (.var .i64 30) (sm (g0.num 30 rfl)) (an 9 (.var .i64 9) (sm (g0.num 9 rfl)) (an 5 (.var .i64 5) (sm (g0.num 5 rfl)) (an 42 (.var .i64 42) (sm (g0.num 42 rfl)) (an 41 (.var .i64 41) (sm (g0.num 41 rfl)) (an 40 (.var .i64 40) (sm (g0.num 40 rfl)) (an 39 (.var .i64 39) (sm (g0.num 39 rfl)) (an 38 (.var .i64 38) (sm (g0.num 38 rfl)) (an 37 (.var .i64 37) (sm (g0.num 37 rfl)) (an 36 (.var .i64 36) (sm (g0.num 36 rfl)) (an 35 (.var .i64 35) (sm (g0.num 35 rfl)) (an 34 (.var .i64 34) (sm (g0.num 34 rfl)) (an 33 (.var .i64 33) (sm (g0.num 33 rfl)) (an 32 (.var .i64 32) (sm (g0.num 32 rfl)) (an 31 (.var .i64 31) (sm (g0.num 31 rfl)) (an 30 (.var .i64 30) (sm (g0.num 30 rfl)) (an 9 (.var .i64 9) (sm (g0.num 9 rfl)) (an 5 (.var .i64 5) (sm (g0.num 5 rfl)) (an 50 (.lit .i64 21) (sm s0_50.symm) (ar 60 (ar_upd (.lit .i64 20) (.lit .i64 15) (i := (20 : Int)) (v := (15 : Int)) rfl rfl (by kernel_rfl) (ar_upd (.lit .i64 19) (.lit .i64 14) (i := (19 : Int)) (v := (14 : Int)) rfl rfl (by kernel_rfl) (ar_upd (.lit .i64 18) (.lit .i64 13) (i := (18 : Int)) (v := (13 : Int)) rfl rfl (by kernel_rfl) (ar_upd (.lit .i64 17) (.lit .i64 12) (i := (17 : Int)) (v := (12 : Int)) rfl rfl (by kernel_rfl) (ar_upd (.lit .i64 16) (.lit .i64 11) (i := (16 : Int)) (v := (11 : Int)) rfl rfl (by kernel_rfl) (ar_upd (.lit .i64 15) (.lit .i64 6) (i := (15 : Int)) (v := (6 : Int)) rfl rfl (by kernel_rfl) (ar_upd (.lit .i64 14) (.lit .i64 10) (i := (14 : Int)) (v := (10 : Int)) rfl rfl (by kernel_rfl) (ar_upd (.lit .i64 13) (.lit .i64 20) (i := (13 : Int)) (v := (20 : Int)) rfl rfl (by kernel_rfl) (ar_upd (.lit .i64 12) (.lit .i64 5) (i := (12 : Int)) (v := (5 : Int)) rfl rfl (by kernel_rfl) (ar_upd (.lit .i64 11) (.lit .i64 9) (i := (11 : Int)) (v := (9 : Int)) rfl rfl (by kernel_rfl) (ar_upd (.lit .i64 10) (.lit .i64 19) (i := (10 : Int)) (v := (19 : Int)) rfl rfl (by kernel_rfl) (ar_upd (.lit .i64 9) (.lit .i64 4) (i := (9 : Int)) (v := (4 : Int)) rfl rfl (by kernel_rfl) (ar_upd (.lit .i64 8) (.lit .i64 8) (i := (8 : Int)) (v := (8 : Int)) rfl rfl (by kernel_rfl) (ar_upd (.lit .i64 7) (.lit .i64 18) (i := (7 : Int)) (v := (18 : Int)) rfl rfl (by kernel_rfl) (ar_upd (.lit .i64 6) (.lit .i64 3) (i := (6 : Int)) (v := (3 : Int)) rfl rfl (by kernel_rfl) (ar_upd (.lit .i64 5) (.lit .i64 7) (i := (5 : Int)) (v := (7 : Int)) rfl rfl (by kernel_rfl) (ar_upd (.lit .i64 4) (.lit .i64 17) (i := (4 : Int)) (v := (17 : Int)) rfl rfl (by kernel_rfl) (ar_upd (.lit .i64 3) (.lit .i64 2) (i := (3 : Int)) (v := (2 : Int)) rfl rfl (by kernel_rfl) (ar_upd (.lit .i64 2) (.lit .i64 16) (i := (2 : Int)) (v := (16 : Int)) rfl rfl (by kernel_rfl) (ar_upd (.lit .i64 1) (.lit .i64 1) (i := (1 : Int)) (v := (1 : Int)) rfl rfl (by kernel_rfl) (ar_upd (.lit .i64 0) (.lit .i64 0) (i := (0 : Int)) (v := (0 : Int)) rfl rfl (by kernel_rfl) ar_zero))))))))))))))))))))) (asg_nil g0.1.symm) (fun j => show (fun j => ifE j ((20 : Int)) ((15 : Int)) ((fun j => ifE j ((19 : Int)) ((14 : Int)) ((fun j => ifE j ((18 : Int)) ((13 : Int)) ((fun j => ifE j ((17 : Int)) ((12 : Int)) ((fun j => ifE j ((16 : Int)) ((11 : Int)) ((fun j => ifE j ((15 : Int)) ((6 : Int)) ((fun j => ifE j ((14 : Int)) ((10 : Int)) ((fun j => ifE j ((13 : Int)) ((20 : Int)) ((fun j => ifE j ((12 : Int)) ((5 : Int)) ((fun j => ifE j ((11 : Int)) ((9 : Int)) ((fun j => ifE j ((10 : Int)) ((19 : Int)) ((fun j => ifE j ((9 : Int)) ((4 : Int)) ((fun j => ifE j ((8 : Int)) ((8 : Int)) ((fun j => ifE j ((7 : Int)) ((18 : Int)) ((fun j => ifE j ((6 : Int)) ((3 : Int)) ((fun j => ifE j ((5 : Int)) ((7 : Int)) ((fun j => ifE j ((4 : Int)) ((17 : Int)) ((fun j => ifE j ((3 : Int)) ((2 : Int)) ((fun j => ifE j ((2 : Int)) ((16 : Int)) ((fun j => ifE j ((1 : Int)) ((1 : Int)) ((fun j => ifE j ((0 : Int)) ((0 : Int)) ((fun _ => 0) j)) j)) j)) j)) j)) j)) j)) j)) j)) j)) j)) j)) j)) j)) j)) j)) j)) j)) j)) j)) j)) (j : Int) = _ from by (try dsimp only); skip; exact (z0_60 j).symm))))))))))))))))))))))))))))))))))))))))))))))))))))
  have a1 : AsgOk T S01 askT := (an 5 (.var .i64 5) (sm (g1.num 5 rfl)) (an 9 (.var .i64 9) (sm (g1.num 9 rfl)) (an 30 (.var .i64 30) (sm (g1.num 30 rfl)) (an 31 (.var .i64 31) (sm (g1.num 31 rfl)) (an 32 (.var .i64 32) (sm (g1.num 32 rfl)) (an 33 (.var .i64 33) (sm (g1.num 33 rfl)) (an 34 (.var .i64 34) (sm (g1.num 34 rfl)) (an 35 (.var .i64 35) (sm (g1.num 35 rfl)) (an 36 (.var .i64 36) (sm (g1.num 36 rfl)) (an 37 (.var .i64 37) (sm (g1.num 37 rfl)) (an 38 (.var .i64 38) (sm (g1.num 38 rfl)) (an 39 (.var .i64 39) (sm (g1.num 39 rfl)) (an 40 (.var .i64 40) (sm (g1.num 40 rfl)) (an 41 (.var .i64 41) (sm (g1.num 41 rfl)) (an 42 (.var .i64 42) (sm (g1.num 42 rfl)) (an 5 (.var .i64 5) (sm (g1.num 5 rfl)) (an 9 (.var .i64 9) (sm (g1.num 9 rfl)) (an 70 (.var .i64 50) (sm ((p1.num 50 rfl).trans s1_70.symm)) (an 18 (.lit .i64 0) (sm s1_18.symm) (an 42 (.var .i64 42) (sm (g1.num 42 rfl)) (an 41 (.var .i64 41) (sm (g1.num 41 rfl)) (an 40 (.var .i64 40) (sm (g1.num 40 rfl)) (an 39 (.var .i64 39) (sm (g1.num 39 rfl)) (an 38 (.var .i64 38) (sm (g1.num 38 rfl)) (an 37 (.var .i64 37) (sm (g1.num 37 rfl)) (an 36 (.var .i64 36) (sm (g1.num 36 rfl)) (an 35 (.var .i64 35) (sm (g1.num 35 rfl)) (an 34 (.var .i64 34) (sm (g1.num 34 rfl)) (an 33 (.var .i64 33) (sm (g1.num 33 rfl)) (an 32 (.var .i64 32) (sm (g1.num 32 rfl)) (an 31 (.var .i64 31) (sm (g1.num 31 rfl)) (an 30 (.var .i64 30) (sm (g1.num 30 rfl)) (an 9 (.var .i64 9) (sm (g1.num 9 rfl)) (an 5 (.var .i64 5) (sm (g1.num 5 rfl)) (an 42 (.var .i64 42) (sm (g1.num 42 rfl)) (an 41 (.var .i64 41) (sm (g1.num 41 rfl)) (an 40 (.var .i64 40) (sm (g1.num 40 rfl)) (an 39 (.var .i64 39) (sm (g1.num 39 rfl)) (an 38 (.var .i64 38) (sm (g1.num 38 rfl)) (an 37 (.var .i64 37) (sm (g1.num 37 rfl)) (an 36 (.var .i64 36) (sm (g1.num 36 rfl)) (an 35 (.var .i64 35) (sm (g1.num 35 rfl)) (an 34 (.var .i64 34) (sm (g1.num 34 rfl)) (an 33 (.var .i64 33) (sm (g1.num 33 rfl)) (an 32 (.var .i64 32) (sm (g1.num 32 rfl)) (an 31 (.var .i64 31) (sm (g1.num 31 rfl)) (an 30 (.var .i64 30) (sm (g1.num 30 rfl)) (an 9 (.var .i64 9) (sm (g1.num 9 rfl)) (an 5 (.var .i64 5) (sm (g1.num 5 rfl)) (an 70 (.var .i64 50) (sm ((p1.num 50 rfl).trans s1_70.symm)) (asg_arr (i := 61) (fun j => (p1.row 60 rfl j).trans (congrArg some (z1_61 j).symm)) (asg_nil g1.1.symm))))))))))))))))))))))))))))))))))))))))))))))))))))
  have a2 : AsgOk T S02 askN := (an 5 (.var .i64 5) (sm (g2.num 5 rfl)) (an 9 (.var .i64 9) (sm (g2.num 9 rfl)) (an 30 (.var .i64 30) (sm (g2.num 30 rfl)) (an 31 (.var .i64 31) (sm (g2.num 31 rfl)) (an 32 (.var .i64 32) (sm (g2.num 32 rfl)) (an 33 (.var .i64 33) (sm (g2.num 33 rfl)) (an 34 (.var .i64 34) (sm (g2.num 34 rfl)) (an 35 (.var .i64 35) (sm (g2.num 35 rfl)) (an 36 (.var .i64 36) (sm (g2.num 36 rfl)) (an 37 (.var .i64 37) (sm (g2.num 37 rfl)) (an 38 (.var .i64 38) (sm (g2.num 38 rfl)) (an 39 (.var .i64 39) (sm (g2.num 39 rfl)) (an 40 (.var .i64 40) (sm (g2.num 40 rfl)) (an 41 (.var .i64 41) (sm (g2.num 41 rfl)) (an 42 (.var .i64 42) (sm (g2.num 42 rfl)) (an 5 (.var .i64 5) (sm (g2.num 5 rfl)) (an 9 (.var .i64 9) (sm (g2.num 9 rfl)) (an 90 (.var .i64 70) (sm ((p2.num 70 rfl).trans s2_90.symm)) (an 19 (.lit .i64 1) (sm s2_19.symm) (an 42 (.var .i64 42) (sm (g2.num 42 rfl)) (an 41 (.var .i64 41) (sm (g2.num 41 rfl)) (an 40 (.var .i64 40) (sm (g2.num 40 rfl)) (an 39 (.var .i64 39) (sm (g2.num 39 rfl)) (an 38 (.var .i64 38) (sm (g2.num 38 rfl)) (an 37 (.var .i64 37) (sm (g2.num 37 rfl)) (an 36 (.var .i64 36) (sm (g2.num 36 rfl)) (an 35 (.var .i64 35) (sm (g2.num 35 rfl)) (an 34 (.var .i64 34) (sm (g2.num 34 rfl)) (an 33 (.var .i64 33) (sm (g2.num 33 rfl)) (an 32 (.var .i64 32) (sm (g2.num 32 rfl)) (an 31 (.var .i64 31) (sm (g2.num 31 rfl)) (an 30 (.var .i64 30) (sm (g2.num 30 rfl)) (an 9 (.var .i64 9) (sm (g2.num 9 rfl)) (an 5 (.var .i64 5) (sm (g2.num 5 rfl)) (an 42 (.var .i64 42) (sm (g2.num 42 rfl)) (an 41 (.var .i64 41) (sm (g2.num 41 rfl)) (an 40 (.var .i64 40) (sm (g2.num 40 rfl)) (an 39 (.var .i64 39) (sm (g2.num 39 rfl)) (an 38 (.var .i64 38) (sm (g2.num 38 rfl)) (an 37 (.var .i64 37) (sm (g2.num 37 rfl)) (an 36 (.var .i64 36) (sm (g2.num 36 rfl)) (an 35 (.var .i64 35) (sm (g2.num 35 rfl)) (an 34 (.var .i64 34) (sm (g2.num 34 rfl)) (an 33 (.var .i64 33) (sm (g2.num 33 rfl)) (an 32 (.var .i64 32) (sm (g2.num 32 rfl)) (an 31 (.var .i64 31) (sm (g2.num 31 rfl)) (an 30 (.var .i64 30) (sm (g2.num 30 rfl)) (an 9 (.var .i64 9) (sm (g2.num 9 rfl)) (an 5 (.var .i64 5) (sm (g2.num 5 rfl)) (an 90 (.var .i64 70) (sm ((p2.num 70 rfl).trans s2_90.symm)) (asg_arr (i := 62) (fun j => (p2.row 61 rfl j).trans (congrArg some (z2_62 j).symm)) (asg_nil g2.1.symm))))))))))))))))))))))))))))))))))))))))))))))))))))
  have a3 : AsgOk T S03 askC := (an 90 (.var .i64 90) (sm (g3.num 90 rfl)) (an 90 (.var .i64 90) (sm (g3.num 90 rfl)) (an 28 (.lit .i64 0) (sm s3_28.symm) (an 90 (.var .i64 90) (sm (g3.num 90 rfl)) (asg_arr (i := 62) (g3.row 62 rfl) (an 90 (.var .i64 90) (sm (g3.num 90 rfl)) (asg_arr (i := 63) (fun j => congrArg some (z3_63 j).symm) (asg_nil g3.1.symm))))))))
  have hlk := LkOk.all (P := Tryd.prog) (S := T) (gs := gsT ty) (ms := [lpAP, lpAT, lpAN, lpAC, lpAR]) (fs := [lkP ty, lkT ty, lkN ty, lkC ty]) ⟨⟨_, codeAP, loop_chain envA (ann_self _) fineAP (show (XPA ty).N = (FPA ty).N from rfl) (Nat.le_of_ble_eq_true rfl) chP (outP NP rfl (p1.same rfl rfl)) a0 (hX := GlOk.of (by kernel_rfl) (by kernel_rfl)) (hF := GlOk.of (by kernel_rfl) (by kernel_rfl))⟩, ⟨_, codeAT, loop_chain envA annT fineAT (show (XTA ty).N = (FTA ty).N from rfl) (Nat.le_of_ble_eq_true rfl) chT (outT NT rfl (p2.same rfl rfl)) a1 (hX := GlOk.of (by kernel_rfl) (by kernel_rfl)) (hF := GlOk.of (by kernel_rfl) (by kernel_rfl))⟩, ⟨_, codeAN, loop_chain envA (ann_self _) fineAN (show (XNA ty).N = (FNA ty).N from rfl) (Nat.le_of_ble_eq_true rfl) chN (outN NN rfl (p3.same rfl rfl)) a2 (hX := GlOk.of (by kernel_rfl) (by kernel_rfl)) (hF := GlOk.of (by kernel_rfl) (by kernel_rfl))⟩, ⟨_, codeAC, loop_chain envA (ann_self _) fineAC (show XCA.N = FCA.N from rfl) (Nat.le_of_ble_eq_true rfl) chC (outC NC rfl rfl) a3⟩, trivial⟩
  have tI : T.I = [] := p0.1.trans iI
  have t2 : T.ρ 2 = a := (p0.num 2 rfl).trans i2
  have t3 : T.ρ 3 = b := (p0.num 3 rfl).trans i3
  have t5 : T.ρ 5 = p := (p0.num 5 rfl).trans i5
  have t9 : T.ρ 9 = t := (p0.num 9 rfl).trans i9
  have h9 : T.Φ 9 [] = 1 := (p0.fn 9 rfl []).trans i9A
  have t90 : T.ρ 90 = SN.ρ 90 := p3.num 90 rfl
  have t42 : T.ρ 42 = SN.ρ 42 := p3.num 42 rfl
  have e5 : IntKind.i64.wrap ((1 : Int) + IntKind.i64.wrap ((T.ρ 2).tmod 20)) = T.ρ 5 := by rw [t2, t5, Int.tmod_eq_emod_of_nonneg ha.1, w_i64 (x := a % 20) (by omega) (by omega), w_i64 (by omega) (by omega), hp]
  have e9 : IntKind.i64.wrap ((1 : Int) + IntKind.i64.wrap ((T.ρ 3).tmod 8)) = T.ρ 9 := by rw [t3, t9, Int.tmod_eq_emod_of_nonneg hb.1, w_i64 (x := b % 8) (by omega) (by omega), w_i64 (by omega) (by omega), ht]
  have hal : AlOk T alLaw := ai awT true (aw_den h9) (ai neT false (fls (p := T.ρ 90 ≠ T.ρ 42) (by rw [t90, t42]; exact fun h => h nlen)) (ai geT true (tr (p := (0 : Int) ≤ T.ρ 90) (by omega)) (ai ltT true (tr (p := T.ρ 90 < (4194304 : Int)) (by omega)) (al_nm nTm (.var .i64 5) (by kernel_rfl) (sm e5) rfl (al_nm tTm (.var .i64 9) (by kernel_rfl) (sm e9) rfl (AlOk.app (alG_ok NC.geo) (alE alL_all alL_eq (alL_h NC.geo))))))))
  exact symRunI envA hal (cAw_ok ty T h9) hlk (n := 1000) (args := [vv .u8 2, vv .u8 3]) (args' := [.int .u8 a, .int .u8 b]) (res := [.one .bool]) (vs := [.bool true]) (rcs := [litB true]) (rs := [1]) rfl ⟨ev_litB _ true, trivial⟩ (runL ty hal) (fun G ι => vs_sym t2 (vs_sym t3 vs_nil)) w hw (by rw [tI]; intro b o h; simp [inpL] at h)
end Go.Proofs.YtigbcepnbpibaaaDoor
