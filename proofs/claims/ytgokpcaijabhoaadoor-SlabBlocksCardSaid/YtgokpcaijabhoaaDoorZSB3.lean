/- Texts of a proof, one behind the other. Conditions: those each says. -/
import Derived.Test.YtgokpcaijabhoaaDoorZSB2
import Derived.Test.YtgokpcaijabhoaaDoorZSB1P00
namespace Go.Proofs.YtgokpcaijabhoaaDoor
open Go.Ev Go.RowKit
set_option maxRecDepth 100000
set_option linter.unusedVariables false
section
variable {ty : TypeId}
def askB : Asg := [(5, .num (Tm.enc (.var .i64 5))), (31, .num (Tm.enc (.var .i64 31))), (32, .num (Tm.enc (.var .i64 32))), (33, .num (Tm.enc (.var .i64 33))), (34, .num (Tm.enc (.var .i64 34))), (35, .num (Tm.enc (.var .i64 35))), (36, .num (Tm.enc (.var .i64 36))), (37, .num (Tm.enc (.var .i64 37))), (38, .num (Tm.enc (.var .i64 38))), (39, .num (Tm.enc (.var .i64 39))), (40, .num (Tm.enc (.var .i64 40))), (41, .num (Tm.enc (.var .i64 41))), (42, .num (Tm.enc (.var .i64 42))), (23, .num (Tm.enc (.lit .i64 0))), (24, .num (Tm.enc (.lit .i64 0))), (22, .num (Tm.enc (.lit .i64 0))), (42, .num (Tm.enc (.var .i64 42))), (63, .arr (.var 60)), (18, .num (Tm.enc (.var .i64 18))), (61, .arr (.var 61)), (18, .num (Tm.enc (.var .i64 18))), (42, .num (Tm.enc (.var .i64 42))), (51, .num (Tm.enc (.var .i64 50))), (42, .num (Tm.enc (.var .i64 42))), (41, .num (Tm.enc (.var .i64 41))), (40, .num (Tm.enc (.var .i64 40))), (39, .num (Tm.enc (.var .i64 39))), (38, .num (Tm.enc (.var .i64 38))), (37, .num (Tm.enc (.var .i64 37))), (36, .num (Tm.enc (.var .i64 36))), (35, .num (Tm.enc (.var .i64 35))), (34, .num (Tm.enc (.var .i64 34))), (33, .num (Tm.enc (.var .i64 33))), (32, .num (Tm.enc (.var .i64 32))), (31, .num (Tm.enc (.var .i64 31))), (5, .num (Tm.enc (.var .i64 5))), (42, .num (Tm.enc (.var .i64 42))), (41, .num (Tm.enc (.var .i64 41))), (40, .num (Tm.enc (.var .i64 40))), (39, .num (Tm.enc (.var .i64 39))), (38, .num (Tm.enc (.var .i64 38))), (37, .num (Tm.enc (.var .i64 37))), (36, .num (Tm.enc (.var .i64 36))), (35, .num (Tm.enc (.var .i64 35))), (34, .num (Tm.enc (.var .i64 34))), (33, .num (Tm.enc (.var .i64 33))), (32, .num (Tm.enc (.var .i64 32))), (31, .num (Tm.enc (.var .i64 31))), (5, .num (Tm.enc (.var .i64 5))), (42, .num (Tm.enc (.var .i64 42))), (41, .num (Tm.enc (.var .i64 41))), (40, .num (Tm.enc (.var .i64 40))), (39, .num (Tm.enc (.var .i64 39))), (38, .num (Tm.enc (.var .i64 38))), (37, .num (Tm.enc (.var .i64 37))), (36, .num (Tm.enc (.var .i64 36))), (35, .num (Tm.enc (.var .i64 35))), (34, .num (Tm.enc (.var .i64 34))), (33, .num (Tm.enc (.var .i64 33))), (32, .num (Tm.enc (.var .i64 32))), (31, .num (Tm.enc (.var .i64 31))), (5, .num (Tm.enc (.var .i64 5))), (42, .num (Tm.enc (.var .i64 42))), (41, .num (Tm.enc (.var .i64 41))), (40, .num (Tm.enc (.var .i64 40))), (39, .num (Tm.enc (.var .i64 39))), (38, .num (Tm.enc (.var .i64 38))), (37, .num (Tm.enc (.var .i64 37))), (36, .num (Tm.enc (.var .i64 36))), (35, .num (Tm.enc (.var .i64 35))), (34, .num (Tm.enc (.var .i64 34))), (33, .num (Tm.enc (.var .i64 33))), (32, .num (Tm.enc (.var .i64 32))), (31, .num (Tm.enc (.var .i64 31))), (5, .num (Tm.enc (.var .i64 5)))]
noncomputable abbrev lkB (ty : TypeId) := lkLoopR Tryd.prog 700 [] (XBB ty) (FBB ty) (.exit 0) askB
set_option maxHeartbeats 8000000 in
theorem prepB {S1 : Sy} {i : Int} (g : GeoS S1) (m : Mem S1 60 i) (h0 : 0 ≤ i) (hi : i < S1.ρ 5) : ∃ T, RNm T i ∧ Stay [22, 23, 24, 27, 28, 29, 44, 45, 51, 66, 67, 68, 69, 70, 71, 72, 73, 74, 75, 76] [63] S1 T ∧ ∀ U, Stay [77, 78, 79, 83, 84, 85, 88, 101, 102, 103, 104, 105, 106, 107, 111, 112, 113, 114, 115, 116, 117, 120, 121, 122, 123, 124, 125, 126, 127] [65] T U → LkAt Tryd.prog U (gsT ty) (.loop (cAt Tryd.prog lpBB)) (lkB ty) := by
  have hK := g.K
  obtain ⟨Sn, hSn⟩ : ∃ T : Sy, T = S1.set (upd S1.ρ [(66, i + 1), (67, lg (S1.ρ 5 - i)), (68, 7 + lg (S1.ρ 5 - i)), (69, 22 + i), (75, 22 + S1.ρ 5 + i), (76, 22 + 2 * S1.ρ 5 + i), (44, S1.ρ 5), (45, S1.ρ 5 - 1), (70, S1.ρ 5 - i - 1), (71, 21 + S1.ρ 5), (72, 23 + i), (73, lg (S1.ρ 5 - i - 1)), (74, 7 + lg (S1.ρ 5 - i - 1)), (22, 0), (23, 0), (24, 0), (27, 22), (28, S1.ρ 5), (29, S1.ρ 5 - i), (51, S1.ρ 50)]) [(63, fun j => S1.Φ 60 [j])] 60 rfl hK := ⟨_, rfl⟩
  have q0 : Stay [22, 23, 24, 27, 28, 29, 44, 45, 51, 66, 67, 68, 69, 70, 71, 72, 73, 74, 75, 76] [63] S1 Sn := by rw [hSn]; exact (Stay.refl _ _ _).set rfl rfl
  have s0_66 : Sn.ρ 66 = i + 1 := by rw [hSn]; rfl
  have s0_67 : Sn.ρ 67 = lg (S1.ρ 5 - i) := by rw [hSn]; rfl
  have s0_68 : Sn.ρ 68 = 7 + lg (S1.ρ 5 - i) := by rw [hSn]; rfl
  have s0_69 : Sn.ρ 69 = 22 + i := by rw [hSn]; rfl
  have s0_75 : Sn.ρ 75 = 22 + S1.ρ 5 + i := by rw [hSn]; rfl
  have s0_76 : Sn.ρ 76 = 22 + 2 * S1.ρ 5 + i := by rw [hSn]; rfl
  have s0_44 : Sn.ρ 44 = S1.ρ 5 := by rw [hSn]; rfl
  have s0_45 : Sn.ρ 45 = S1.ρ 5 - 1 := by rw [hSn]; rfl
  have s0_70 : Sn.ρ 70 = S1.ρ 5 - i - 1 := by rw [hSn]; rfl
  have s0_71 : Sn.ρ 71 = 21 + S1.ρ 5 := by rw [hSn]; rfl
  have s0_72 : Sn.ρ 72 = 23 + i := by rw [hSn]; rfl
  have s0_73 : Sn.ρ 73 = lg (S1.ρ 5 - i - 1) := by rw [hSn]; rfl
  have s0_74 : Sn.ρ 74 = 7 + lg (S1.ρ 5 - i - 1) := by rw [hSn]; rfl
  have s0_22 : Sn.ρ 22 = 0 := by rw [hSn]; rfl
  have s0_23 : Sn.ρ 23 = 0 := by rw [hSn]; rfl
  have s0_24 : Sn.ρ 24 = 0 := by rw [hSn]; rfl
  have s0_27 : Sn.ρ 27 = 22 := by rw [hSn]; rfl
  have s0_28 : Sn.ρ 28 = S1.ρ 5 := by rw [hSn]; rfl
  have s0_29 : Sn.ρ 29 = S1.ρ 5 - i := by rw [hSn]; rfl
  have s0_51 : Sn.ρ 51 = S1.ρ 50 := by rw [hSn]; rfl
  have z0_63 : ∀ j : Int, Sn.Φ 63 [j] = (fun j => S1.Φ 60 [j]) j := by rw [hSn]; intro j; rfl
  clear hSn
  have f5 : Sn.ρ 5 = S1.ρ 5 := q0.num 5 rfl
  have gn : GeoS Sn := g.stay q0 rfl rfl
  have NA : InvA Sn i 0 := ⟨gn, m.of f5 (q0.num 20 rfl) (fun j => z0_63 j), by omega, h0, by rw [f5]; exact hi, s0_22, s0_23, s0_24, by rw [s0_27]; omega, by rw [s0_28, f5]; omega, by rw [s0_29, f5], by rw [s0_44, f5]⟩
  obtain ⟨T, ch, E, y⟩ := chainB (ty := ty) i.toNat Sn i 0 NA (by omega)
  have p0 : Stay [22, 23, 24, 27, 28, 29, 44, 45, 51, 66, 67, 68, 69, 70, 71, 72, 73, 74, 75, 76] [63] S1 T := stay_weak (q0.trans y) rfl rfl
  have t5 : T.ρ 5 = S1.ρ 5 := p0.num 5 rfl
  have k66 : T.ρ 66 = Sn.ρ 66 := y.num 66 rfl
  have k67 : T.ρ 67 = Sn.ρ 67 := y.num 67 rfl
  have k68 : T.ρ 68 = Sn.ρ 68 := y.num 68 rfl
  have k69 : T.ρ 69 = Sn.ρ 69 := y.num 69 rfl
  have k75 : T.ρ 75 = Sn.ρ 75 := y.num 75 rfl
  have k76 : T.ρ 76 = Sn.ρ 76 := y.num 76 rfl
  have k44 : T.ρ 44 = Sn.ρ 44 := y.num 44 rfl
  have k45 : T.ρ 45 = Sn.ρ 45 := y.num 45 rfl
  have k70 : T.ρ 70 = Sn.ρ 70 := y.num 70 rfl
  have k71 : T.ρ 71 = Sn.ρ 71 := y.num 71 rfl
  have k72 : T.ρ 72 = Sn.ρ 72 := y.num 72 rfl
  have k73 : T.ρ 73 = Sn.ρ 73 := y.num 73 rfl
  have k74 : T.ρ 74 = Sn.ρ 74 := y.num 74 rfl
  refine ⟨T, ⟨E.geo, h0, by rw [t5]; exact hi, E.mem, E.h23, E.h24, by rw [k66, s0_66], by rw [k67, s0_67, t5], by rw [k67, k68, s0_68, s0_67], by rw [k69, s0_69], by rw [k75, s0_75, t5], by rw [k76, s0_76, t5], by rw [k44, s0_44, t5], by rw [k45, s0_45, t5], by rw [k70, s0_70, t5], by rw [k71, s0_71, t5], by rw [k72, s0_72], by rw [k73, s0_73, t5], by rw [k73, k74, s0_74, s0_73]⟩, p0, fun U hU => ?_⟩
  have gU := y.trans hU
  have pU := q0.trans gU
  have hask : AsgOk U Sn askB := (an 5 (.var .i64 5) (sm (gU.num 5 rfl)) (an 31 (.var .i64 31) (sm (gU.num 31 rfl)) (an 32 (.var .i64 32) (sm (gU.num 32 rfl)) (an 33 (.var .i64 33) (sm (gU.num 33 rfl)) (an 34 (.var .i64 34) (sm (gU.num 34 rfl)) (an 35 (.var .i64 35) (sm (gU.num 35 rfl)) (an 36 (.var .i64 36) (sm (gU.num 36 rfl)) (an 37 (.var .i64 37) (sm (gU.num 37 rfl)) (an 38 (.var .i64 38) (sm (gU.num 38 rfl)) (an 39 (.var .i64 39) (sm (gU.num 39 rfl)) (an 40 (.var .i64 40) (sm (gU.num 40 rfl)) (an 41 (.var .i64 41) (sm (gU.num 41 rfl)) (an 42 (.var .i64 42) (sm (gU.num 42 rfl)) (an 23 (.lit .i64 0) (sm s0_23.symm) (an 24 (.lit .i64 0) (sm s0_24.symm) (an 22 (.lit .i64 0) (sm s0_22.symm) (an 42 (.var .i64 42) (sm (gU.num 42 rfl)) (asg_arr (i := 63) (fun j => (pU.row 60 rfl j).trans (congrArg some (z0_63 j).symm)) (an 18 (.var .i64 18) (sm (gU.num 18 rfl)) (asg_arr (i := 61) (gU.row 61 rfl) (an 18 (.var .i64 18) (sm (gU.num 18 rfl)) (an 42 (.var .i64 42) (sm (gU.num 42 rfl)) (an 51 (.var .i64 50) (sm ((pU.num 50 rfl).trans s0_51.symm)) (an 42 (.var .i64 42) (sm (gU.num 42 rfl)) (an 41 (.var .i64 41) (sm (gU.num 41 rfl)) (an 40 (.var .i64 40) (sm (gU.num 40 rfl)) (an 39 (.var .i64 39) (sm (gU.num 39 rfl)) (an 38 (.var .i64 38) (sm (gU.num 38 rfl)) (an 37 (.var .i64 37) (sm (gU.num 37 rfl)) (an 36 (.var .i64 36) (sm (gU.num 36 rfl)) (an 35 (.var .i64 35) (sm (gU.num 35 rfl)) (an 34 (.var .i64 34) (sm (gU.num 34 rfl)) (an 33 (.var .i64 33) (sm (gU.num 33 rfl)) (an 32 (.var .i64 32) (sm (gU.num 32 rfl)) (an 31 (.var .i64 31) (sm (gU.num 31 rfl)) (an 5 (.var .i64 5) (sm (gU.num 5 rfl)) (an 42 (.var .i64 42) (sm (gU.num 42 rfl)) (an 41 (.var .i64 41) (sm (gU.num 41 rfl)) (an 40 (.var .i64 40) (sm (gU.num 40 rfl)) (an 39 (.var .i64 39) (sm (gU.num 39 rfl)) (an 38 (.var .i64 38) (sm (gU.num 38 rfl)) (an 37 (.var .i64 37) (sm (gU.num 37 rfl)) (an 36 (.var .i64 36) (sm (gU.num 36 rfl)) (an 35 (.var .i64 35) (sm (gU.num 35 rfl)) (an 34 (.var .i64 34) (sm (gU.num 34 rfl)) (an 33 (.var .i64 33) (sm (gU.num 33 rfl)) (an 32 (.var .i64 32) (sm (gU.num 32 rfl)) (an 31 (.var .i64 31) (sm (gU.num 31 rfl)) (an 5 (.var .i64 5) (sm (gU.num 5 rfl)) (an 42 (.var .i64 42) (sm (gU.num 42 rfl)) (an 41 (.var .i64 41) (sm (gU.num 41 rfl)) (an 40 (.var .i64 40) (sm (gU.num 40 rfl)) (an 39 (.var .i64 39) (sm (gU.num 39 rfl)) (an 38 (.var .i64 38) (sm (gU.num 38 rfl)) (an 37 (.var .i64 37) (sm (gU.num 37 rfl)) (an 36 (.var .i64 36) (sm (gU.num 36 rfl)) (an 35 (.var .i64 35) (sm (gU.num 35 rfl)) (an 34 (.var .i64 34) (sm (gU.num 34 rfl)) (an 33 (.var .i64 33) (sm (gU.num 33 rfl)) (an 32 (.var .i64 32) (sm (gU.num 32 rfl)) (an 31 (.var .i64 31) (sm (gU.num 31 rfl)) (an 5 (.var .i64 5) (sm (gU.num 5 rfl)) (an 42 (.var .i64 42) (sm (gU.num 42 rfl)) (an 41 (.var .i64 41) (sm (gU.num 41 rfl)) (an 40 (.var .i64 40) (sm (gU.num 40 rfl)) (an 39 (.var .i64 39) (sm (gU.num 39 rfl)) (an 38 (.var .i64 38) (sm (gU.num 38 rfl)) (an 37 (.var .i64 37) (sm (gU.num 37 rfl)) (an 36 (.var .i64 36) (sm (gU.num 36 rfl)) (an 35 (.var .i64 35) (sm (gU.num 35 rfl)) (an 34 (.var .i64 34) (sm (gU.num 34 rfl)) (an 33 (.var .i64 33) (sm (gU.num 33 rfl)) (an 32 (.var .i64 32) (sm (gU.num 32 rfl)) (an 31 (.var .i64 31) (sm (gU.num 31 rfl)) (an 5 (.var .i64 5) (sm (gU.num 5 rfl)) (asg_nil gU.1.symm))))))))))))))))))))))))))))))))))))))))))))))))))))))))))))))))))))))))))))
  exact loop_chain envB (ann_self _) fineBB (show (XBB ty).N = (FBB ty).N from rfl) (Nat.le_of_ble_eq_true rfl) ch (outB E (hU.same rfl rfl)) hask (hX := GlOk.of (by kernel_rfl) (by kernel_rfl)) (hF := GlOk.of (by kernel_rfl) (by kernel_rfl))
structure InvO (S : Sy) (i : Int) : Prop where
  geo : GeoS S
  i0 : 0 ≤ i
  i1 : i ≤ S.ρ 17
  h21 : S.ρ 21 = i
  mem : Mem S 60 i
theorem lg_ne {x y : Int} (hx : x = 2) (hy : y = 1) : lg y ≠ lg x := by subst hx; subst hy; decide
def xOT : Tm := (.bin .lss (.var .i64 21) (.var .i64 17))
theorem outO {S1 T : Sy} {i : Int} (N : InvO S1 i) (hi : i = S1.ρ 17) (hT : Same [5, 17, 18, 20, 31, 32, 33, 34, 35, 36, 37, 38, 39, 40, 41, 42, 50] [60, 61] S1 T) : StepOut Tryd.prog ftB ΛB (gsT ty) (cAt Tryd.prog lpOB) (XOB ty) (FOB ty) (.exit 0) 300 S1 T :=
  ⟨_, [], _, 1000, _, [], (ai xOT false (fls (p := S1.ρ 21 < S1.ρ 17) (by have := N.h21; omega)) (AlOk.nil _)), fun c hc => noC c hc, LkOk.no _ _ _ _, (an 5 (.var .i64 5) (sm (hT.num 5 rfl)) (an 17 (.var .i64 17) (sm (hT.num 17 rfl)) (an 20 (.var .i64 20) (sm (hT.num 20 rfl)) (an 42 (.var .i64 42) (sm (hT.num 42 rfl)) (asg_arr (i := 60) (hT.row 60 rfl) (an 18 (.var .i64 18) (sm (hT.num 18 rfl)) (asg_arr (i := 61) (hT.row 61 rfl) (an 18 (.var .i64 18) (sm (hT.num 18 rfl)) (an 42 (.var .i64 42) (sm (hT.num 42 rfl)) (an 50 (.var .i64 50) (sm (hT.num 50 rfl)) (an 42 (.var .i64 42) (sm (hT.num 42 rfl)) (an 41 (.var .i64 41) (sm (hT.num 41 rfl)) (an 40 (.var .i64 40) (sm (hT.num 40 rfl)) (an 39 (.var .i64 39) (sm (hT.num 39 rfl)) (an 38 (.var .i64 38) (sm (hT.num 38 rfl)) (an 37 (.var .i64 37) (sm (hT.num 37 rfl)) (an 36 (.var .i64 36) (sm (hT.num 36 rfl)) (an 35 (.var .i64 35) (sm (hT.num 35 rfl)) (an 34 (.var .i64 34) (sm (hT.num 34 rfl)) (an 33 (.var .i64 33) (sm (hT.num 33 rfl)) (an 32 (.var .i64 32) (sm (hT.num 32 rfl)) (an 31 (.var .i64 31) (sm (hT.num 31 rfl)) (an 5 (.var .i64 5) (sm (hT.num 5 rfl)) (asg_nil hT.1)))))))))))))))))))))))), fun G => by kernel_rfl⟩
def asgO (r : ACode) (c : Nat) : Asg := [(5, .num (Tm.enc (.var .i64 5))), (17, .num (Tm.enc (.var .i64 17))), (20, .num (Tm.enc (.var .i64 20))), (21, .num (Tm.enc (.bin .add (.var .i64 21) (.lit .i64 1)))), (42, .num (Tm.enc (.var .i64 42))), (60, .arr r), (18, .num (Tm.enc (.var .i64 18))), (61, .arr (.var 61)), (18, .num (Tm.enc (.var .i64 18))), (42, .num (Tm.enc (.var .i64 42))), (50, .num c), (42, .num (Tm.enc (.var .i64 42))), (41, .num (Tm.enc (.var .i64 41))), (40, .num (Tm.enc (.var .i64 40))), (39, .num (Tm.enc (.var .i64 39))), (38, .num (Tm.enc (.var .i64 38))), (37, .num (Tm.enc (.var .i64 37))), (36, .num (Tm.enc (.var .i64 36))), (35, .num (Tm.enc (.var .i64 35))), (34, .num (Tm.enc (.var .i64 34))), (33, .num (Tm.enc (.var .i64 33))), (32, .num (Tm.enc (.var .i64 32))), (31, .num (Tm.enc (.var .i64 31))), (5, .num (Tm.enc (.var .i64 5)))]
theorem asgO_ok {T S2 : Sy} {r : ACode} {g : Int → Int} (hr : Row T r g) (hg : ∀ j : Nat, g (j : Int) = S2.Φ 60 [(j : Int)]) (t : Tm) (h50 : t.den T = some [S2.ρ 50]) (ok : t.ok = true) (h21 : IntKind.i64.wrap (T.ρ 21 + (1 : Int)) = S2.ρ 21) (y : Stay [21, 50] [60] T S2) : AsgOk T S2 (asgO r t.enc) := (an 5 (.var .i64 5) (sm (y.num 5 rfl).symm) (an 17 (.var .i64 17) (sm (y.num 17 rfl).symm) (an 20 (.var .i64 20) (sm (y.num 20 rfl).symm) (an 21 (.bin .add (.var .i64 21) (.lit .i64 1)) (sm h21) (an 42 (.var .i64 42) (sm (y.num 42 rfl).symm) (ar 60 hr (an 18 (.var .i64 18) (sm (y.num 18 rfl).symm) (asg_arr (i := 61) (fun j => congrArg some (y.fn 61 rfl _).symm) (an 18 (.var .i64 18) (sm (y.num 18 rfl).symm) (an 42 (.var .i64 42) (sm (y.num 42 rfl).symm) (an 50 t h50 (an 42 (.var .i64 42) (sm (y.num 42 rfl).symm) (an 41 (.var .i64 41) (sm (y.num 41 rfl).symm) (an 40 (.var .i64 40) (sm (y.num 40 rfl).symm) (an 39 (.var .i64 39) (sm (y.num 39 rfl).symm) (an 38 (.var .i64 38) (sm (y.num 38 rfl).symm) (an 37 (.var .i64 37) (sm (y.num 37 rfl).symm) (an 36 (.var .i64 36) (sm (y.num 36 rfl).symm) (an 35 (.var .i64 35) (sm (y.num 35 rfl).symm) (an 34 (.var .i64 34) (sm (y.num 34 rfl).symm) (an 33 (.var .i64 33) (sm (y.num 33 rfl).symm) (an 32 (.var .i64 32) (sm (y.num 32 rfl).symm) (an 31 (.var .i64 31) (sm (y.num 31 rfl).symm) (an 5 (.var .i64 5) (sm (y.num 5 rfl).symm) (asg_nil y.1)))))))))))))) ok))))) hg))))))
def t50_1 : Tm := (.bin .add (.bin .add (.bin .add (.bin .add (.bin .add (.bin .add (.bin .add (.bin .add (.var .i64 51) (.lit .i64 1)) (.lit .i64 1)) (.lit .i64 1)) (.lit .i64 1)) (.lit .i64 1)) (.lit .i64 1)) (.lit .i64 1)) (.lit .i64 1))
def m50_1 (T : Sy) : Int := (IntKind.i64.wrap ((IntKind.i64.wrap ((IntKind.i64.wrap ((IntKind.i64.wrap ((IntKind.i64.wrap ((IntKind.i64.wrap ((IntKind.i64.wrap ((IntKind.i64.wrap (T.ρ 51 + (1 : Int))) + (1 : Int))) + (1 : Int))) + (1 : Int))) + (1 : Int))) + (1 : Int))) + (1 : Int))) + (1 : Int)))
def t50_2 : Tm := (.bin .add (.bin .add (.bin .add (.bin .add (.bin .add (.bin .add (.bin .add (.bin .add (.bin .add (.var .i64 51) (.lit .i64 1)) (.lit .i64 1)) (.lit .i64 1)) (.lit .i64 1)) (.lit .i64 1)) (.lit .i64 1)) (.lit .i64 1)) (.lit .i64 1)) (.lit .i64 1))
def m50_2 (T : Sy) : Int := (IntKind.i64.wrap ((IntKind.i64.wrap ((IntKind.i64.wrap ((IntKind.i64.wrap ((IntKind.i64.wrap ((IntKind.i64.wrap ((IntKind.i64.wrap ((IntKind.i64.wrap ((IntKind.i64.wrap (T.ρ 51 + (1 : Int))) + (1 : Int))) + (1 : Int))) + (1 : Int))) + (1 : Int))) + (1 : Int))) + (1 : Int))) + (1 : Int))) + (1 : Int)))
theorem memO {T S2 : Sy} {i d : Int} {g : Int → Int} (R : RNm T i) (y : Stay [21, 50] [60] T S2) (z : ∀ j : Int, S2.Φ 60 [j] = g j) (hd : (T.ρ 20 + i) % 4 = d)
    (p1 : ∀ j : Int, 0 ≤ j → j < i → g (22 + j) = T.Φ 63 [22 + j]) (p2 : g (22 + i) = slabW d) (p3 : g (22 + (i + 1)) = freeW (T.ρ 5 - (i + 1)))
    (p4 : ∀ j : Int, 0 ≤ j → j < T.ρ 5 → j ≠ i → g (22 + T.ρ 5 + j) = T.Φ 63 [22 + T.ρ 5 + j]) (p5 : g (22 + T.ρ 5 + i) = bitsW d) : Mem S2 60 (i + 1) := by
  have e5 : S2.ρ 5 = T.ρ 5 := y.num 5 rfl
  have e20 : S2.ρ 20 = T.ρ 20 := y.num 20 rfl
  have hi0 := R.i0
  have hin := R.hin
  refine ⟨fun j h0 h1 => ?_, fun h1 => ?_, fun j h0 h1 => ?_, fun j h0 h1 => ?_⟩
  · rw [z, e20]
    by_cases e : j = i
    · rw [e, p2, hd]
    · rw [p1 j h0 (by omega)]; exact R.mem.pw j h0 (by omega)
  · rw [z, e5]; exact p3
  · rw [z, e20, e5]
    by_cases e : j = i
    · rw [e, p5, hd]
    · rw [p4 j h0 (by omega) e]; exact R.mem.bw j h0 (by omega)
  · rw [z, e5]
    rw [e5] at h1
    rw [p4 j (by omega) h1 (by omega)]; exact R.mem.zb j (by omega) h1
theorem lkO_all {T : Sy} (lk : LkAt Tryd.prog T (gsT ty) (.loop (cAt Tryd.prog lpBB)) (lkB ty)) : LkOk Tryd.prog T (gsT ty) ΛB (lkL [noL, lkB ty, noL]) := LkOk.all (P := Tryd.prog) (S := T) (gs := gsT ty) (ms := [lpOB, lpBB, lpCB]) (fs := [noL, lkB ty, noL]) ⟨⟨_, codeOB, noL_at⟩, ⟨_, codeBB, lk⟩, ⟨_, codeCB, noL_at⟩, trivial⟩
theorem cs1_ok {T : Sy} {i : Int} (R : RNm T i) : ∀ c ∈ [cLg], CtrOk Tryd.prog T (gsT ty) c := fun c hc => by
  have hn := R.geo.n; have hi0 := R.i0; have hin := R.hin
  rw [List.mem_singleton] at hc
  subst hc
  exact cLg_ok ty R.geo (by rw [R.e24]; omega) (by rw [R.e70]; omega)
theorem places {T : Sy} {i : Int} (R : RNm T i) : T.ρ 68 = 7 + T.ρ 67 ∧ T.ρ 69 = 22 + i ∧ T.ρ 71 = 21 + T.ρ 5 ∧ T.ρ 72 = 23 + i ∧ T.ρ 74 = 7 + T.ρ 73 ∧ T.ρ 75 = 22 + T.ρ 5 + i ∧ 0 ≤ T.ρ 67 ∧ T.ρ 67 ≤ 4 ∧ 0 ≤ T.ρ 73 ∧ T.ρ 73 ≤ 4 ∧ 1 ≤ T.ρ 5 ∧ T.ρ 5 ≤ 20 ∧ 0 ≤ i ∧ i < T.ρ 5 := by
  have b67 := lg_in (T.ρ 5 - i)
  rw [← R.e67] at b67
  have b73 := lg_in (T.ρ 5 - i - 1)
  rw [← R.e73] at b73
  exact ⟨R.e68, R.e69, R.e71, R.e72, R.e74, R.e75, b67.1, b67.2, b73.1, b73.2, R.geo.n.1, R.geo.n.2, R.i0, R.hin⟩
end
def WayO (ty : TypeId) (T : Sy) (i : Int) : Prop := ∃ S2, (∀ U, Stay [22, 23, 24, 27, 28, 29, 44, 45, 51, 66, 67, 68, 69, 70, 71, 72, 73, 74, 75, 76] [63] S2 U → StepTo Tryd.prog ftB ΛB (gsT ty) (cAt Tryd.prog lpOB) (XOB ty) (FOB ty) 300 T U) ∧ InvO S2 (i + 1) ∧ Stay [21, 50] [60] T S2
end Go.Proofs.YtgokpcaijabhoaaDoor
