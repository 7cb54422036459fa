/-
  CachePlay: rounds of the outer loop. Conditions: the invariants.
-/
import Derived.Test.YtmeppoihgfdgaaaDoorCP2
namespace Go.Proofs.YtmeppoihgfdgaaaDoor
open Go.Ev Go.RowKit
set_option maxRecDepth 100000
set_option linter.unusedVariables false
section
variable {ty : TypeId}
def askS1 : Asg := [(1, .num (Tm.enc (.var .i64 1))), (9, .num (Tm.enc (.var .i64 9))), (10, .num (Tm.enc (.var .i64 10))), (17, .num (Tm.enc (.var .i64 17))), (28, .num (Tm.enc (.lit .i64 0))), (42, .num (Tm.enc (.var .i64 42))), (63, .arr (.upd (.var 60) (Tm.enc (.var .i64 75)) (Tm.enc (.lit .u64 0)))), (42, .num (Tm.enc (.var .i64 42))), (42, .num (Tm.enc (.var .i64 42))), (41, .num (Tm.enc (.var .i64 41))), (40, .num (Tm.enc (.var .i64 40))), (39, .num (Tm.enc (.var .i64 39))), (38, .num (Tm.enc (.var .i64 38))), (37, .num (Tm.enc (.var .i64 37))), (36, .num (Tm.enc (.var .i64 36))), (35, .num (Tm.enc (.var .i64 35))), (34, .num (Tm.enc (.var .i64 34))), (33, .num (Tm.enc (.var .i64 33))), (32, .num (Tm.enc (.var .i64 32))), (31, .num (Tm.enc (.var .i64 31))), (30, .num (Tm.enc (.var .i64 30))), (9, .num (Tm.enc (.var .i64 9))), (10, .num (Tm.enc (.var .i64 10))), (64, .arr (.upd (.var 61) (Tm.enc (.var .i64 71)) (Tm.enc (.app .u64 61 (.cons (.var .i64 71) .nil))))), (65, .arr (.upd (.var 62) (Tm.enc (.var .i64 71)) (Tm.enc (.lit .u64 0))))]
noncomputable abbrev lkQS1 (ty : TypeId) := lkLoopR Tryd.prog 400 [] (XQP ty) (FQP ty) (.exit 3) askS1
set_option maxHeartbeats 4000000 in
theorem runS1 {S1 : Sy} (ty : TypeId) (ha : AlOk S1 (alGL ++ (alLL ++ (alRL ++ alDS1L)))) (G : Nat → Option Obj) : rOutR 90 [] (XPP ty) FPP Tryd.prog.globals.size (runM Tryd.prog ΛP (lkL [noL, lkQS1 ty]) ftP ha [] G 1000 (.code cPA (XPP ty).A) ((XPP ty).H Tryd.prog)) = some (none, [(1, .num (Tm.enc (.var .i64 1))), (9, .num (Tm.enc (.var .i64 9))), (10, .num (Tm.enc (.var .i64 10))), (17, .num (Tm.enc (.bin .add (.var .i64 17) (.lit .i64 1)))), (42, .num (Tm.enc (.var .i64 42))), (60, .arr (.var 63)), (42, .num (Tm.enc (.var .i64 42))), (42, .num (Tm.enc (.var .i64 42))), (41, .num (Tm.enc (.var .i64 41))), (40, .num (Tm.enc (.var .i64 40))), (39, .num (Tm.enc (.var .i64 39))), (38, .num (Tm.enc (.var .i64 38))), (37, .num (Tm.enc (.var .i64 37))), (36, .num (Tm.enc (.var .i64 36))), (35, .num (Tm.enc (.var .i64 35))), (34, .num (Tm.enc (.var .i64 34))), (33, .num (Tm.enc (.var .i64 33))), (32, .num (Tm.enc (.var .i64 32))), (31, .num (Tm.enc (.var .i64 31))), (30, .num (Tm.enc (.var .i64 30))), (9, .num (Tm.enc (.var .i64 9))), (10, .num (Tm.enc (.var .i64 10))), (61, .arr (.var 64)), (62, .arr (.var 65))]) := by kernel_rfl
set_option maxHeartbeats 8000000 in
theorem wayS1 {Sn : Sy} {i : Int} (Nn : RIn Sn i) (d : HS1 Sn) : ∃ S1 S2, Stay [20, 26, 27, 28, 50, 51, 52, 53, 54, 55, 70, 71, 72, 73, 74, 75, 80, 81, 82, 84, 85, 86, 87] [63, 64, 65] Sn S1 ∧ (∀ T, Stay [20, 26, 27, 28, 50, 51, 52, 53, 54, 55, 70, 71, 72, 73, 74, 75, 80, 81, 82, 84, 85, 86, 87] [63, 64, 65] S2 T → StepTo Tryd.prog ftP ΛP (gsT ty) cPA (XPP ty) FPP 90 S1 T) ∧ InvP S2 (i + 1) ∧ Stay [17] [60, 61, 62] S1 S2 := by
  have hKn := Nn.geo.K
  obtain ⟨S00, hS0⟩ : ∃ S0 : Sy, S0 = Sn.set (upd Sn.ρ [(28, 0), (80, 0), (81, 0), (82, 0), (84, 0), (85, 1), (86, Sn.ρ 35), (87, Sn.ρ 35 + 1)]) [(63, (fun j => ifE j (Sn.ρ 75) ((0 : Int)) ((fun j => Sn.Φ 60 [j]) j))), (64, (fun j => ifE j (Sn.ρ 71) ((Sn.Φ 61 [Sn.ρ 71])) ((fun j => Sn.Φ 61 [j]) j))), (65, (fun j => ifE j (Sn.ρ 71) ((0 : Int)) ((fun j => Sn.Φ 62 [j]) j)))] 60 rfl hKn := ⟨_, rfl⟩
  have q0 : Stay [28, 80, 81, 82, 84, 85, 86, 87] [63, 64, 65] Sn S00 := by rw [hS0]; exact (Stay.refl _ _ _).set rfl rfl
  have s0_28 : S00.ρ 28 = 0 := by rw [hS0]; rfl
  have s0_80 : S00.ρ 80 = 0 := by rw [hS0]; rfl
  have s0_81 : S00.ρ 81 = 0 := by rw [hS0]; rfl
  have s0_82 : S00.ρ 82 = 0 := by rw [hS0]; rfl
  have s0_84 : S00.ρ 84 = 0 := by rw [hS0]; rfl
  have s0_85 : S00.ρ 85 = 1 := by rw [hS0]; rfl
  have s0_86 : S00.ρ 86 = Sn.ρ 35 := by rw [hS0]; rfl
  have s0_87 : S00.ρ 87 = Sn.ρ 35 + 1 := by rw [hS0]; rfl
  have z0_63 : ∀ j : Int, S00.Φ 63 [j] = ((fun j => ifE j (Sn.ρ 75) ((0 : Int)) ((fun j => Sn.Φ 60 [j]) j))) j := by rw [hS0]; intro j; rfl
  have z0_64 : ∀ j : Int, S00.Φ 64 [j] = ((fun j => ifE j (Sn.ρ 71) ((Sn.Φ 61 [Sn.ρ 71])) ((fun j => Sn.Φ 61 [j]) j))) j := by rw [hS0]; intro j; rfl
  have z0_65 : ∀ j : Int, S00.Φ 65 [j] = ((fun j => ifE j (Sn.ρ 71) ((0 : Int)) ((fun j => Sn.Φ 62 [j]) j))) j := by rw [hS0]; intro j; rfl
  clear hS0
  have f10 : S00.ρ 10 = Sn.ρ 10 := q0.num 10 rfl
  have f35 : S00.ρ 35 = Sn.ρ 35 := q0.num 35 rfl
  have h54 := Nn.e74; have h55 := Nn.e75; have ht := Nn.geo.t; have h10 := Nn.geo.e10
  have hag : Agree S00 63 64 65 := fun k h0 h1 => by
    rw [z0_63, z0_63, z0_64, z0_65, f35]
    rw [f10] at h1
    have hh := ag1 (W := fun j => Sn.Φ 60 [j]) (A := fun j => Sn.Φ 61 [j]) (B := fun j => Sn.Φ 62 [j]) (c := Sn.ρ 71) (v := 0) Nn.agree k h0 h1
    rw [← h55] at hh; exact hh
  have NQ : InvQ S00 0 := ⟨Nn.geo.stay q0 rfl, by omega, by rw [f10]; omega, s0_28, s0_80, s0_81, s0_82, s0_84, s0_85, by rw [s0_86, f35]; omega, by rw [s0_87, f35]; omega, hag⟩
  obtain ⟨m, hm⟩ : ∃ m : Nat, (0 : Int) + m = S00.ρ 10 := ⟨(S00.ρ 10).toNat, by omega⟩
  obtain ⟨T, ch, Nf, g0⟩ := chainQ (ty := ty) m S00 0 NQ hm
  have p0 := q0.trans g0
  have hask : AsgOk T S00 askS1 := (an 1 (.var .i64 1) (sm (g0.num 1 rfl)) (an 9 (.var .i64 9) (sm (g0.num 9 rfl)) (an 10 (.var .i64 10) (sm (g0.num 10 rfl)) (an 17 (.var .i64 17) (sm (g0.num 17 rfl)) (an 28 (.lit .i64 0) (sm s0_28.symm) (an 42 (.var .i64 42) (sm (g0.num 42 rfl)) (ar 63 (ar_upd (.var .i64 75) (.lit .u64 0) (i := T.ρ 75) (v := (0 : Int)) rfl rfl (by kernel_rfl) (ar_var 60)) (an 42 (.var .i64 42) (sm (g0.num 42 rfl)) (an 42 (.var .i64 42) (sm (g0.num 42 rfl)) (an 41 (.var .i64 41) (sm (g0.num 41 rfl)) (an 40 (.var .i64 40) (sm (g0.num 40 rfl)) (an 39 (.var .i64 39) (sm (g0.num 39 rfl)) (an 38 (.var .i64 38) (sm (g0.num 38 rfl)) (an 37 (.var .i64 37) (sm (g0.num 37 rfl)) (an 36 (.var .i64 36) (sm (g0.num 36 rfl)) (an 35 (.var .i64 35) (sm (g0.num 35 rfl)) (an 34 (.var .i64 34) (sm (g0.num 34 rfl)) (an 33 (.var .i64 33) (sm (g0.num 33 rfl)) (an 32 (.var .i64 32) (sm (g0.num 32 rfl)) (an 31 (.var .i64 31) (sm (g0.num 31 rfl)) (an 30 (.var .i64 30) (sm (g0.num 30 rfl)) (an 9 (.var .i64 9) (sm (g0.num 9 rfl)) (an 10 (.var .i64 10) (sm (g0.num 10 rfl)) (ar 64 (ar_upd (.var .i64 71) (.app .u64 61 (.cons (.var .i64 71) .nil)) (i := T.ρ 71) (v := (T.Φ 61 [T.ρ 71])) rfl rfl (by kernel_rfl) (ar_var 61)) (ar 65 (ar_upd (.var .i64 71) (.lit .u64 0) (i := T.ρ 71) (v := (0 : Int)) rfl rfl (by kernel_rfl) (ar_var 62)) (asg_nil g0.1.symm) (fun j => show (fun j => ifE j (T.ρ 71) ((0 : Int)) ((fun j => T.Φ 62 [j]) j)) (j : Int) = _ from by (try dsimp only); simp only [p0.num 71 rfl, p0.fn 62 rfl]; exact (z0_65 j).symm)) (fun j => show (fun j => ifE j (T.ρ 71) ((T.Φ 61 [T.ρ 71])) ((fun j => T.Φ 61 [j]) j)) (j : Int) = _ from by (try dsimp only); simp only [p0.num 71 rfl, p0.fn 61 rfl]; exact (z0_64 j).symm)))))))))))))))))) (fun j => show (fun j => ifE j (T.ρ 75) ((0 : Int)) ((fun j => T.Φ 60 [j]) j)) (j : Int) = _ from by (try dsimp only); simp only [p0.num 75 rfl, p0.fn 60 rfl]; exact (z0_63 j).symm))))))))
  have lk : LkAt Tryd.prog T (gsT ty) (.loop (cAt Tryd.prog lpQP)) (lkQS1 ty) := loop_chain envP (ann_self _) fineQP (show (XQP ty).N = (FQP ty).N from rfl) (Nat.le_of_ble_eq_true rfl) ch (outQ Nf rfl) hask (hX := GlOk.of (by kernel_rfl) (by kernel_rfl)) (hF := GlOk.of (by kernel_rfl) (by kernel_rfl))
  have hlk := LkOk.all (P := Tryd.prog) (S := T) (gs := gsT ty) (ms := [lpPP, lpQP]) (fs := [noL, lkQS1 ty]) ⟨⟨_, codePP, noL_at⟩, ⟨_, codeQP, lk⟩, trivial⟩
  have NT := Nn.stay p0 rfl rfl rfl
  have HT := d.stay p0 rfl rfl
  have hK := NT.geo.K
  have hi17 := NT.hi; have i0 := NT.i0; have hlt := NT.lt; have hsm := NT.small
  have y : Stay [17] [60, 61, 62] T (T.set (upd T.ρ [(17, i + 1)]) [(60, fun j => T.Φ 63 [j]), (61, fun j => T.Φ 64 [j]), (62, fun j => T.Φ 65 [j])] 60 rfl hK) := (Stay.refl _ _ _).set rfl rfl
  have hA : AsgOk T (T.set (upd T.ρ [(17, i + 1)]) [(60, fun j => T.Φ 63 [j]), (61, fun j => T.Φ 64 [j]), (62, fun j => T.Φ 65 [j])] 60 rfl hK) [(1, .num (Tm.enc (.var .i64 1))), (9, .num (Tm.enc (.var .i64 9))), (10, .num (Tm.enc (.var .i64 10))), (17, .num (Tm.enc (.bin .add (.var .i64 17) (.lit .i64 1)))), (42, .num (Tm.enc (.var .i64 42))), (60, .arr (.var 63)), (42, .num (Tm.enc (.var .i64 42))), (42, .num (Tm.enc (.var .i64 42))), (41, .num (Tm.enc (.var .i64 41))), (40, .num (Tm.enc (.var .i64 40))), (39, .num (Tm.enc (.var .i64 39))), (38, .num (Tm.enc (.var .i64 38))), (37, .num (Tm.enc (.var .i64 37))), (36, .num (Tm.enc (.var .i64 36))), (35, .num (Tm.enc (.var .i64 35))), (34, .num (Tm.enc (.var .i64 34))), (33, .num (Tm.enc (.var .i64 33))), (32, .num (Tm.enc (.var .i64 32))), (31, .num (Tm.enc (.var .i64 31))), (30, .num (Tm.enc (.var .i64 30))), (9, .num (Tm.enc (.var .i64 9))), (10, .num (Tm.enc (.var .i64 10))), (61, .arr (.var 64)), (62, .arr (.var 65))] := (av 1 .i64 (av 9 .i64 (av 10 .i64 (an 17 (.bin .add (.var .i64 17) (.lit .i64 1)) (sm (show IntKind.i64.wrap (T.ρ 17 + (1 : Int)) = i + 1 from by rw [hi17, w_i64 (by omega) (by omega)])) (av 42 .i64 (ar 60 (ar_var 63) (av 42 .i64 (av 42 .i64 (av 41 .i64 (av 40 .i64 (av 39 .i64 (av 38 .i64 (av 37 .i64 (av 36 .i64 (av 35 .i64 (av 34 .i64 (av 33 .i64 (av 32 .i64 (av 31 .i64 (av 30 .i64 (av 9 .i64 (av 10 .i64 (ar 61 (ar_var 64) (ar 62 (ar_var 65) (asg_nil rfl)))))))))))))))))))))))))
  have hag2 : Agree (T.set (upd T.ρ [(17, i + 1)]) [(60, fun j => T.Φ 63 [j]), (61, fun j => T.Φ 64 [j]), (62, fun j => T.Φ 65 [j])] 60 rfl hK) 60 61 62 := fun k h0 h1 => Nf.agree k h0 h1
  exact ⟨T, (T.set (upd T.ρ [(17, i + 1)]) [(60, fun j => T.Φ 63 [j]), (61, fun j => T.Φ 64 [j]), (62, fun j => T.Φ 65 [j])] 60 rfl hK), stay_weak p0 rfl rfl, fun T2 hT2 => ⟨_, [], _, 1000, _, [], (AlOk.app (alG_ok NT.geo) (AlOk.app (alL_ok NT.geo) (AlOk.app (alR_ok NT) (alDS1_ok NT HT)))), fun c hc => noC c hc, hlk, setT hA hT2 (by kernel_rfl), runS1 ty _⟩, ⟨NT.geo.stay y rfl, by omega, (show i + 1 ≤ T.ρ 1 by omega), rfl, NT.acts.stay y rfl, hag2, NT.small⟩, y⟩
def askSn : Asg := [(1, .num (Tm.enc (.var .i64 1))), (9, .num (Tm.enc (.var .i64 9))), (10, .num (Tm.enc (.var .i64 10))), (17, .num (Tm.enc (.var .i64 17))), (28, .num (Tm.enc (.lit .i64 0))), (42, .num (Tm.enc (.var .i64 42))), (63, .arr (.var 60)), (42, .num (Tm.enc (.var .i64 42))), (42, .num (Tm.enc (.var .i64 42))), (41, .num (Tm.enc (.var .i64 41))), (40, .num (Tm.enc (.var .i64 40))), (39, .num (Tm.enc (.var .i64 39))), (38, .num (Tm.enc (.var .i64 38))), (37, .num (Tm.enc (.var .i64 37))), (36, .num (Tm.enc (.var .i64 36))), (35, .num (Tm.enc (.var .i64 35))), (34, .num (Tm.enc (.var .i64 34))), (33, .num (Tm.enc (.var .i64 33))), (32, .num (Tm.enc (.var .i64 32))), (31, .num (Tm.enc (.var .i64 31))), (30, .num (Tm.enc (.var .i64 30))), (9, .num (Tm.enc (.var .i64 9))), (10, .num (Tm.enc (.var .i64 10))), (64, .arr (.upd (.var 61) (Tm.enc (.var .i64 71)) (Tm.enc (.app .u64 61 (.cons (.var .i64 71) .nil))))), (65, .arr (.upd (.var 62) (Tm.enc (.var .i64 71)) (Tm.enc (.app .u64 62 (.cons (.var .i64 71) .nil)))))]
noncomputable abbrev lkQSn (ty : TypeId) := lkLoopR Tryd.prog 400 [] (XQP ty) (FQP ty) (.exit 3) askSn
set_option maxHeartbeats 4000000 in
theorem runSn {S1 : Sy} (ty : TypeId) (ha : AlOk S1 (alGL ++ (alLL ++ (alRL ++ alDSnL)))) (G : Nat → Option Obj) : rOutR 90 [] (XPP ty) FPP Tryd.prog.globals.size (runM Tryd.prog ΛP (lkL [noL, lkQSn ty]) ftP ha [] G 1000 (.code cPA (XPP ty).A) ((XPP ty).H Tryd.prog)) = some (none, [(1, .num (Tm.enc (.var .i64 1))), (9, .num (Tm.enc (.var .i64 9))), (10, .num (Tm.enc (.var .i64 10))), (17, .num (Tm.enc (.bin .add (.var .i64 17) (.lit .i64 1)))), (42, .num (Tm.enc (.var .i64 42))), (60, .arr (.var 63)), (42, .num (Tm.enc (.var .i64 42))), (42, .num (Tm.enc (.var .i64 42))), (41, .num (Tm.enc (.var .i64 41))), (40, .num (Tm.enc (.var .i64 40))), (39, .num (Tm.enc (.var .i64 39))), (38, .num (Tm.enc (.var .i64 38))), (37, .num (Tm.enc (.var .i64 37))), (36, .num (Tm.enc (.var .i64 36))), (35, .num (Tm.enc (.var .i64 35))), (34, .num (Tm.enc (.var .i64 34))), (33, .num (Tm.enc (.var .i64 33))), (32, .num (Tm.enc (.var .i64 32))), (31, .num (Tm.enc (.var .i64 31))), (30, .num (Tm.enc (.var .i64 30))), (9, .num (Tm.enc (.var .i64 9))), (10, .num (Tm.enc (.var .i64 10))), (61, .arr (.var 64)), (62, .arr (.var 65))]) := by kernel_rfl
set_option maxHeartbeats 8000000 in
theorem waySn {Sn : Sy} {i : Int} (Nn : RIn Sn i) (d : HSn Sn) : ∃ S1 S2, Stay [20, 26, 27, 28, 50, 51, 52, 53, 54, 55, 70, 71, 72, 73, 74, 75, 80, 81, 82, 84, 85, 86, 87] [63, 64, 65] Sn S1 ∧ (∀ T, Stay [20, 26, 27, 28, 50, 51, 52, 53, 54, 55, 70, 71, 72, 73, 74, 75, 80, 81, 82, 84, 85, 86, 87] [63, 64, 65] S2 T → StepTo Tryd.prog ftP ΛP (gsT ty) cPA (XPP ty) FPP 90 S1 T) ∧ InvP S2 (i + 1) ∧ Stay [17] [60, 61, 62] S1 S2 := by
  have hKn := Nn.geo.K
  obtain ⟨S00, hS0⟩ : ∃ S0 : Sy, S0 = Sn.set (upd Sn.ρ [(28, 0), (80, 0), (81, 0), (82, 0), (84, 0), (85, 1), (86, Sn.ρ 35), (87, Sn.ρ 35 + 1)]) [(63, fun j => Sn.Φ 60 [j]), (64, (fun j => ifE j (Sn.ρ 71) ((Sn.Φ 61 [Sn.ρ 71])) ((fun j => Sn.Φ 61 [j]) j))), (65, (fun j => ifE j (Sn.ρ 71) ((Sn.Φ 62 [Sn.ρ 71])) ((fun j => Sn.Φ 62 [j]) j)))] 60 rfl hKn := ⟨_, rfl⟩
  have q0 : Stay [28, 80, 81, 82, 84, 85, 86, 87] [63, 64, 65] Sn S00 := by rw [hS0]; exact (Stay.refl _ _ _).set rfl rfl
  have s0_28 : S00.ρ 28 = 0 := by rw [hS0]; rfl
  have s0_80 : S00.ρ 80 = 0 := by rw [hS0]; rfl
  have s0_81 : S00.ρ 81 = 0 := by rw [hS0]; rfl
  have s0_82 : S00.ρ 82 = 0 := by rw [hS0]; rfl
  have s0_84 : S00.ρ 84 = 0 := by rw [hS0]; rfl
  have s0_85 : S00.ρ 85 = 1 := by rw [hS0]; rfl
  have s0_86 : S00.ρ 86 = Sn.ρ 35 := by rw [hS0]; rfl
  have s0_87 : S00.ρ 87 = Sn.ρ 35 + 1 := by rw [hS0]; rfl
  have z0_63 : ∀ j : Int, S00.Φ 63 [j] = (fun j => Sn.Φ 60 [j]) j := by rw [hS0]; intro j; rfl
  have z0_64 : ∀ j : Int, S00.Φ 64 [j] = ((fun j => ifE j (Sn.ρ 71) ((Sn.Φ 61 [Sn.ρ 71])) ((fun j => Sn.Φ 61 [j]) j))) j := by rw [hS0]; intro j; rfl
  have z0_65 : ∀ j : Int, S00.Φ 65 [j] = ((fun j => ifE j (Sn.ρ 71) ((Sn.Φ 62 [Sn.ρ 71])) ((fun j => Sn.Φ 62 [j]) j))) j := by rw [hS0]; intro j; rfl
  clear hS0
  have f10 : S00.ρ 10 = Sn.ρ 10 := q0.num 10 rfl
  have f35 : S00.ρ 35 = Sn.ρ 35 := q0.num 35 rfl
  have h54 := Nn.e74; have h55 := Nn.e75; have ht := Nn.geo.t; have h10 := Nn.geo.e10
  have hag : Agree S00 63 64 65 := fun k h0 h1 => by
    rw [z0_63, z0_63, z0_64, z0_65, f35]
    rw [f10] at h1
    have hh := agN (W := fun j => Sn.Φ 60 [j]) (A := fun j => Sn.Φ 61 [j]) (B := fun j => Sn.Φ 62 [j]) (c := Sn.ρ 71) Nn.agree k h0 h1
    exact hh
  have NQ : InvQ S00 0 := ⟨Nn.geo.stay q0 rfl, by omega, by rw [f10]; omega, s0_28, s0_80, s0_81, s0_82, s0_84, s0_85, by rw [s0_86, f35]; omega, by rw [s0_87, f35]; omega, hag⟩
  obtain ⟨m, hm⟩ : ∃ m : Nat, (0 : Int) + m = S00.ρ 10 := ⟨(S00.ρ 10).toNat, by omega⟩
  obtain ⟨T, ch, Nf, g0⟩ := chainQ (ty := ty) m S00 0 NQ hm
  have p0 := q0.trans g0
  have hask : AsgOk T S00 askSn := (an 1 (.var .i64 1) (sm (g0.num 1 rfl)) (an 9 (.var .i64 9) (sm (g0.num 9 rfl)) (an 10 (.var .i64 10) (sm (g0.num 10 rfl)) (an 17 (.var .i64 17) (sm (g0.num 17 rfl)) (an 28 (.lit .i64 0) (sm s0_28.symm) (an 42 (.var .i64 42) (sm (g0.num 42 rfl)) (asg_arr (i := 63) (fun j => (p0.row 60 rfl j).trans (congrArg some (z0_63 j).symm)) (an 42 (.var .i64 42) (sm (g0.num 42 rfl)) (an 42 (.var .i64 42) (sm (g0.num 42 rfl)) (an 41 (.var .i64 41) (sm (g0.num 41 rfl)) (an 40 (.var .i64 40) (sm (g0.num 40 rfl)) (an 39 (.var .i64 39) (sm (g0.num 39 rfl)) (an 38 (.var .i64 38) (sm (g0.num 38 rfl)) (an 37 (.var .i64 37) (sm (g0.num 37 rfl)) (an 36 (.var .i64 36) (sm (g0.num 36 rfl)) (an 35 (.var .i64 35) (sm (g0.num 35 rfl)) (an 34 (.var .i64 34) (sm (g0.num 34 rfl)) (an 33 (.var .i64 33) (sm (g0.num 33 rfl)) (an 32 (.var .i64 32) (sm (g0.num 32 rfl)) (an 31 (.var .i64 31) (sm (g0.num 31 rfl)) (an 30 (.var .i64 30) (sm (g0.num 30 rfl)) (an 9 (.var .i64 9) (sm (g0.num 9 rfl)) (an 10 (.var .i64 10) (sm (g0.num 10 rfl)) (ar 64 (ar_upd (.var .i64 71) (.app .u64 61 (.cons (.var .i64 71) .nil)) (i := T.ρ 71) (v := (T.Φ 61 [T.ρ 71])) rfl rfl (by kernel_rfl) (ar_var 61)) (ar 65 (ar_upd (.var .i64 71) (.app .u64 62 (.cons (.var .i64 71) .nil)) (i := T.ρ 71) (v := (T.Φ 62 [T.ρ 71])) rfl rfl (by kernel_rfl) (ar_var 62)) (asg_nil g0.1.symm) (fun j => show (fun j => ifE j (T.ρ 71) ((T.Φ 62 [T.ρ 71])) ((fun j => T.Φ 62 [j]) j)) (j : Int) = _ from by (try dsimp only); simp only [p0.num 71 rfl, p0.fn 62 rfl]; exact (z0_65 j).symm)) (fun j => show (fun j => ifE j (T.ρ 71) ((T.Φ 61 [T.ρ 71])) ((fun j => T.Φ 61 [j]) j)) (j : Int) = _ from by (try dsimp only); simp only [p0.num 71 rfl, p0.fn 61 rfl]; exact (z0_64 j).symm)))))))))))))))))))))))))
  have lk : LkAt Tryd.prog T (gsT ty) (.loop (cAt Tryd.prog lpQP)) (lkQSn ty) := loop_chain envP (ann_self _) fineQP (show (XQP ty).N = (FQP ty).N from rfl) (Nat.le_of_ble_eq_true rfl) ch (outQ Nf rfl) hask (hX := GlOk.of (by kernel_rfl) (by kernel_rfl)) (hF := GlOk.of (by kernel_rfl) (by kernel_rfl))
  have hlk := LkOk.all (P := Tryd.prog) (S := T) (gs := gsT ty) (ms := [lpPP, lpQP]) (fs := [noL, lkQSn ty]) ⟨⟨_, codePP, noL_at⟩, ⟨_, codeQP, lk⟩, trivial⟩
  have NT := Nn.stay p0 rfl rfl rfl
  have HT := d.stay p0 rfl rfl
  have hK := NT.geo.K
  have hi17 := NT.hi; have i0 := NT.i0; have hlt := NT.lt; have hsm := NT.small
  have y : Stay [17] [60, 61, 62] T (T.set (upd T.ρ [(17, i + 1)]) [(60, fun j => T.Φ 63 [j]), (61, fun j => T.Φ 64 [j]), (62, fun j => T.Φ 65 [j])] 60 rfl hK) := (Stay.refl _ _ _).set rfl rfl
  have hA : AsgOk T (T.set (upd T.ρ [(17, i + 1)]) [(60, fun j => T.Φ 63 [j]), (61, fun j => T.Φ 64 [j]), (62, fun j => T.Φ 65 [j])] 60 rfl hK) [(1, .num (Tm.enc (.var .i64 1))), (9, .num (Tm.enc (.var .i64 9))), (10, .num (Tm.enc (.var .i64 10))), (17, .num (Tm.enc (.bin .add (.var .i64 17) (.lit .i64 1)))), (42, .num (Tm.enc (.var .i64 42))), (60, .arr (.var 63)), (42, .num (Tm.enc (.var .i64 42))), (42, .num (Tm.enc (.var .i64 42))), (41, .num (Tm.enc (.var .i64 41))), (40, .num (Tm.enc (.var .i64 40))), (39, .num (Tm.enc (.var .i64 39))), (38, .num (Tm.enc (.var .i64 38))), (37, .num (Tm.enc (.var .i64 37))), (36, .num (Tm.enc (.var .i64 36))), (35, .num (Tm.enc (.var .i64 35))), (34, .num (Tm.enc (.var .i64 34))), (33, .num (Tm.enc (.var .i64 33))), (32, .num (Tm.enc (.var .i64 32))), (31, .num (Tm.enc (.var .i64 31))), (30, .num (Tm.enc (.var .i64 30))), (9, .num (Tm.enc (.var .i64 9))), (10, .num (Tm.enc (.var .i64 10))), (61, .arr (.var 64)), (62, .arr (.var 65))] := (av 1 .i64 (av 9 .i64 (av 10 .i64 (an 17 (.bin .add (.var .i64 17) (.lit .i64 1)) (sm (show IntKind.i64.wrap (T.ρ 17 + (1 : Int)) = i + 1 from by rw [hi17, w_i64 (by omega) (by omega)])) (av 42 .i64 (ar 60 (ar_var 63) (av 42 .i64 (av 42 .i64 (av 41 .i64 (av 40 .i64 (av 39 .i64 (av 38 .i64 (av 37 .i64 (av 36 .i64 (av 35 .i64 (av 34 .i64 (av 33 .i64 (av 32 .i64 (av 31 .i64 (av 30 .i64 (av 9 .i64 (av 10 .i64 (ar 61 (ar_var 64) (ar 62 (ar_var 65) (asg_nil rfl)))))))))))))))))))))))))
  have hag2 : Agree (T.set (upd T.ρ [(17, i + 1)]) [(60, fun j => T.Φ 63 [j]), (61, fun j => T.Φ 64 [j]), (62, fun j => T.Φ 65 [j])] 60 rfl hK) 60 61 62 := fun k h0 h1 => Nf.agree k h0 h1
  exact ⟨T, (T.set (upd T.ρ [(17, i + 1)]) [(60, fun j => T.Φ 63 [j]), (61, fun j => T.Φ 64 [j]), (62, fun j => T.Φ 65 [j])] 60 rfl hK), stay_weak p0 rfl rfl, fun T2 hT2 => ⟨_, [], _, 1000, _, [], (AlOk.app (alG_ok NT.geo) (AlOk.app (alL_ok NT.geo) (AlOk.app (alR_ok NT) (alDSn_ok NT HT)))), fun c hc => noC c hc, hlk, setT hA hT2 (by kernel_rfl), runSn ty _⟩, ⟨NT.geo.stay y rfl, by omega, (show i + 1 ≤ T.ρ 1 by omega), rfl, NT.acts.stay y rfl, hag2, NT.small⟩, y⟩
end
end Go.Proofs.YtmeppoihgfdgaaaDoor
