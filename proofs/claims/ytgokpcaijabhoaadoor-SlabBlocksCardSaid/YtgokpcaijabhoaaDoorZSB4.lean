/- Texts of a proof, one behind the other. Conditions: those each says. -/
import Derived.Test.YtgokpcaijabhoaaDoorZSB3a
import Derived.Test.YtgokpcaijabhoaaDoorZSB3b
import Derived.Test.YtgokpcaijabhoaaDoorZSB3c
import Derived.Test.YtgokpcaijabhoaaDoorZSB2K
import Derived.Test.YtgokpcaijabhoaaDoorZ20
namespace Go.Proofs.YtgokpcaijabhoaaDoor
open Go.Ev Go.RowKit
set_option maxRecDepth 100000
set_option linter.unusedVariables false
section
variable {ty : TypeId}
set_option maxHeartbeats 4000000 in
theorem roundO {S : Sy} {i : Int} (N : InvO S i) (hi : i < S.ρ 17) : ∃ S1 S2, Stay [22, 23, 24, 27, 28, 29, 44, 45, 51, 66, 67, 68, 69, 70, 71, 72, 73, 74, 75, 76] [63] S S1 ∧ (∀ U, Stay [22, 23, 24, 27, 28, 29, 44, 45, 51, 66, 67, 68, 69, 70, 71, 72, 73, 74, 75, 76] [63] S2 U → StepTo Tryd.prog ftB ΛB (gsT ty) (cAt Tryd.prog lpOB) (XOB ty) (FOB ty) 300 S1 U) ∧ InvO S2 (i + 1) ∧ Stay [21, 50] [60] S1 S2 := by
  have hn := N.geo.n; have hw := N.geo.w; have h0 := N.i0; have hc := N.geo.c
  obtain ⟨T, R, y, lk0⟩ := prepB (ty := ty) N.geo N.mem N.i0 (by omega)
  have lk := lk0 T (Stay.refl _ _ _)
  have h21 : T.ρ 21 = i := (y.num 21 rfl).trans N.h21
  have f17 : T.ρ 17 = S.ρ 17 := y.num 17 rfl
  have f5 : T.ρ 5 = S.ρ 5 := y.num 5 rfl
  have hwi : i < T.ρ 17 := by omega
  have hws := R.geo.w
  have fin : WayO ty T i → ∃ S1 S2, Stay [22, 23, 24, 27, 28, 29, 44, 45, 51, 66, 67, 68, 69, 70, 71, 72, 73, 74, 75, 76] [63] S S1 ∧ (∀ U, Stay [22, 23, 24, 27, 28, 29, 44, 45, 51, 66, 67, 68, 69, 70, 71, 72, 73, 74, 75, 76] [63] S2 U → StepTo Tryd.prog ftB ΛB (gsT ty) (cAt Tryd.prog lpOB) (XOB ty) (FOB ty) 300 S1 U) ∧ InvO S2 (i + 1) ∧ Stay [21, 50] [60] S1 S2 := fun ⟨_, h⟩ => ⟨T, _, y, h.1, h.2.1, h.2.2⟩
  rcases (show (T.ρ 20 + i) % 4 = 0 ∨ (T.ρ 20 + i) % 4 = 1 ∨ (T.ρ 20 + i) % 4 = 2 ∨ (T.ρ 20 + i) % 4 = 3 from by omega) with hd | hd | hd | hd
  · by_cases hl : T.ρ 5 - i - 1 = 1
    · exact fin (wayO100 R h21 hwi hd hl (by rw [R.e74, R.e68, R.e73, R.e67]; have := lg_ne (x := T.ρ 5 - i) (y := T.ρ 5 - i - 1) (by omega) hl; omega) lk)
    · by_cases hs : T.ρ 74 = T.ρ 68
      · exact fin (wayO210 R h21 hwi hd (by omega) hs lk)
      · exact fin (wayO200 R h21 hwi hd (by omega) hs lk)
  · by_cases hl : T.ρ 5 - i - 1 = 1
    · exact fin (wayO101 R h21 hwi hd hl (by rw [R.e74, R.e68, R.e73, R.e67]; have := lg_ne (x := T.ρ 5 - i) (y := T.ρ 5 - i - 1) (by omega) hl; omega) lk)
    · by_cases hs : T.ρ 74 = T.ρ 68
      · exact fin (wayO211 R h21 hwi hd (by omega) hs lk)
      · exact fin (wayO201 R h21 hwi hd (by omega) hs lk)
  · by_cases hl : T.ρ 5 - i - 1 = 1
    · exact fin (wayO102 R h21 hwi hd hl (by rw [R.e74, R.e68, R.e73, R.e67]; have := lg_ne (x := T.ρ 5 - i) (y := T.ρ 5 - i - 1) (by omega) hl; omega) lk)
    · by_cases hs : T.ρ 74 = T.ρ 68
      · exact fin (wayO212 R h21 hwi hd (by omega) hs lk)
      · exact fin (wayO202 R h21 hwi hd (by omega) hs lk)
  · by_cases hl : T.ρ 5 - i - 1 = 1
    · exact fin (wayO103 R h21 hwi hd hl (by rw [R.e74, R.e68, R.e73, R.e67]; have := lg_ne (x := T.ρ 5 - i) (y := T.ρ 5 - i - 1) (by omega) hl; omega) lk)
    · by_cases hs : T.ρ 74 = T.ρ 68
      · exact fin (wayO213 R h21 hwi hd (by omega) hs lk)
      · exact fin (wayO203 R h21 hwi hd (by omega) hs lk)
theorem chainO : ∀ (m : Nat) (S0 : Sy) (i : Int), InvO S0 i → i + m = S0.ρ 17 → ∃ Sa Sf, Chain (StepTo Tryd.prog ftB ΛB (gsT ty) (cAt Tryd.prog lpOB) (XOB ty) (FOB ty) 300) m Sa Sf ∧ InvO Sf (Sf.ρ 17) ∧ Stay [22, 23, 24, 27, 28, 29, 44, 45, 51, 66, 67, 68, 69, 70, 71, 72, 73, 74, 75, 76] [63] S0 Sa ∧ Stay [21, 22, 23, 24, 27, 28, 29, 44, 45, 50, 51, 66, 67, 68, 69, 70, 71, 72, 73, 74, 75, 76] [60, 63] Sa Sf
  | 0, S0, i, N, h => ⟨S0, S0, .nil _, by rwa [show S0.ρ 17 = i by omega], Stay.refl _ _ _, Stay.refl _ _ _⟩
  | m + 1, S0, i, N, h => by
    obtain ⟨S1, S2, y1, st, N2, y⟩ := roundO (ty := ty) N (by omega)
    have e := y1.num 17 rfl
    have e2 := y.num 17 rfl
    obtain ⟨Sa, Sf, ch, Nf, ya, z⟩ := chainO m S2 (i + 1) N2 (by omega)
    exact ⟨S1, Sf, .cons (st Sa ya) ch, Nf, y1, stay_weak (y.trans (ya.trans z)) rfl rfl⟩
end
def awT : Tm := .appB 9 .nil
theorem aw_den {S : Sy} (h : S.Φ 9 [] = 1) : awT.den S = some [b2i true] := by
  show some [b2i (decide (S.Φ 9 [] ≠ 0))] = _
  rw [h]; rfl
theorem awake_any (w : World) (hw : ∃ ty, GOk Tryd.prog (gsT ty) w) : Calls Tryd.prog 11 #[] w fun e w' => e = .returned (.bool true) ∧ Quiet w w' := by
  obtain ⟨ty, hw⟩ := hw
  exact (Vw_ok hw).now hw.room
def cAw : Ctr := ⟨11, [], [.one .bool], 9, fun _ => true⟩
theorem cAw_ok (ty : TypeId) (S : Sy) (h : S.Φ 9 [] = 1) : CtrOk Tryd.prog S (gsT ty) cAw := by
  intro a ns _ _ hl w hw
  obtain rfl := len0 (show ns.length = 0 from hl)
  refine (awake_any w ⟨ty, hw⟩).mono fun e w' ⟨h1, h2⟩ => ⟨?_, h2⟩
  rw [h1]
  show _ = Ending.returned (.bool (decide (S.Φ 9 [] ≠ 0)))
  rw [h]; rfl
def askO0 : Asg := [(5, .num (Tm.enc (.var .i64 5))), (17, .num (Tm.enc (.var .i64 17))), (20, .num (Tm.enc (.var .i64 20))), (21, .num (Tm.enc (.lit .i64 0))), (42, .num (Tm.enc (.var .i64 42))), (60, .arr (.upd (.upd .zero (Tm.enc (.lit .i64 22)) (Tm.enc (.bin .or (.bin .or (.bin .or (.lit .u64 1) (.bin .shl (.bin .and (.conv .u64 (.var .i64 5)) (.lit .u64 1023)) (.lit .u64 3))) (.lit .u64 0)) (.lit .u64 0)))) (Tm.enc (.var .i64 64)) (Tm.enc (.lit .u64 1)))), (18, .num (Tm.enc (.var .i64 18))), (61, .arr .zero), (18, .num (Tm.enc (.var .i64 18))), (42, .num (Tm.enc (.var .i64 42))), (50, .num (Tm.enc (.lit .i64 2))), (42, .num (Tm.enc (.var .i64 42))), (41, .num (Tm.enc (.var .i64 41))), (40, .num (Tm.enc (.var .i64 40))), (39, .num (Tm.enc (.var .i64 39))), (38, .num (Tm.enc (.var .i64 38))), (37, .num (Tm.enc (.var .i64 37))), (36, .num (Tm.enc (.var .i64 36))), (35, .num (Tm.enc (.var .i64 35))), (34, .num (Tm.enc (.var .i64 34))), (33, .num (Tm.enc (.var .i64 33))), (32, .num (Tm.enc (.var .i64 32))), (31, .num (Tm.enc (.var .i64 31))), (5, .num (Tm.enc (.var .i64 5)))]
noncomputable abbrev lkO0 (ty : TypeId) := lkLoopR Tryd.prog 300 [(310, 115)] (XOB ty) (FOB ty) (.exit 0) askO0
set_option maxHeartbeats 8000000 in
theorem preL0 {SS : Sy} (ty : TypeId) (g : GeoS SS) (e45s : SS.ρ 45 = SS.ρ 5 - 1) (e71s : SS.ρ 71 = 21 + SS.ρ 5) (e62 : SS.ρ 62 = lg (SS.ρ 5)) (e64 : SS.ρ 64 = 7 + SS.ρ 62) (hm : SS.ρ 5 = 1) : ∃ T1, RNm T1 (T1.ρ 17) ∧ Stay [21, 22, 23, 24, 27, 28, 29, 44, 45, 50, 51, 66, 67, 68, 69, 70, 71, 72, 73, 74, 75, 76] [60, 61, 63] SS T1 ∧ ∀ T, Stay [77, 78, 79, 83, 84, 85, 88, 101, 102, 103, 104, 105, 106, 107, 111, 112, 113, 114, 115, 116, 117, 120, 121, 122, 123, 124, 125, 126, 127] [65] T1 T → LkAt Tryd.prog T (gsT ty) (.loop (cAt Tryd.prog lpOB)) (lkO0 ty) ∧ LkAt Tryd.prog T (gsT ty) (.loop (cAt Tryd.prog lpBB)) (lkB ty) := by
  have hK := g.K
  have hn := g.n; have hws := g.w; have hcs := g.c
  have b62 := lg_in (SS.ρ 5)
  rw [← e62] at b62
  obtain ⟨S00, hS0⟩ : ∃ S0 : Sy, S0 = SS.set (upd SS.ρ [(21, 0), (50, 2)]) [(60, (fun j => ifE j (SS.ρ 64) ((1 : Int)) ((fun j => ifE j ((22 : Int)) ((opZ .or .u64 ((opZ .or .u64 ((opZ .or .u64 ((1 : Int)) ((opZ .shl .u64 ((opZ .and .u64 ((IntKind.u64.wrap (SS.ρ 5))) ((1023 : Int)))) ((3 : Int)))))) ((0 : Int)))) ((0 : Int)))) ((fun _ => 0) j)) j))), (61, fun _ => 0)] 60 rfl hK := ⟨_, rfl⟩
  have q0 : Stay [21, 50] [60, 61] SS S00 := by rw [hS0]; exact (Stay.refl _ _ _).set rfl rfl
  have s0_21 : S00.ρ 21 = 0 := by rw [hS0]; rfl
  have s0_50 : S00.ρ 50 = 2 := by rw [hS0]; rfl
  have z0_60 : ∀ j : Int, S00.Φ 60 [j] = ((fun j => ifE j (SS.ρ 64) ((1 : Int)) ((fun j => ifE j ((22 : Int)) ((opZ .or .u64 ((opZ .or .u64 ((opZ .or .u64 ((1 : Int)) ((opZ .shl .u64 ((opZ .and .u64 ((IntKind.u64.wrap (SS.ρ 5))) ((1023 : Int)))) ((3 : Int)))))) ((0 : Int)))) ((0 : Int)))) ((fun _ => 0) j)) j))) j := by rw [hS0]; intro j; rfl
  have z0_61 : ∀ j : Int, S00.Φ 61 [j] = (0 : Int) := by rw [hS0]; intro j; rfl
  clear hS0
  have f5 : S00.ρ 5 = SS.ρ 5 := q0.num 5 rfl
  have hm0 : Mem S00 60 0 := by
    refine ⟨fun j h0 h1 => by omega, fun h1 => ?_, fun j h0 h1 => by omega, fun j h0 h1 => ?_⟩
    · rw [z0_60, f5]
      dsimp only [ifE]
      rw [if_neg (by omega), if_pos (by omega)]
      exact (wordF (l := SS.ρ 5) hn).trans (by congr 1; omega)
    · rw [z0_60, f5]
      rw [f5] at h1
      dsimp only [ifE]
      rw [if_neg (by omega), if_neg (by omega)]
  obtain ⟨Sa, Sf, chO, NO, ya, z⟩ := chainO (ty := ty) (SS.ρ 17).toNat S00 0 ⟨g.stay q0 rfl rfl, by omega, by rw [q0.num 17 rfl]; omega, s0_21, hm0⟩ (by rw [q0.num 17 rfl]; omega)
  have yf : Stay [21, 22, 23, 24, 27, 28, 29, 44, 45, 50, 51, 66, 67, 68, 69, 70, 71, 72, 73, 74, 75, 76] [60, 61, 63] SS Sf := stay_weak (q0.trans (ya.trans z)) rfl rfl
  have w17 : Sf.ρ 17 = SS.ρ 17 := yf.num 17 rfl
  have w5 : Sf.ρ 5 = SS.ρ 5 := yf.num 5 rfl
  obtain ⟨T1, R, yB, lk0⟩ := prepB (ty := ty) NO.geo NO.mem NO.i0 (by omega)
  have v17 : T1.ρ 17 = Sf.ρ 17 := yB.num 17 rfl
  rw [← v17] at R
  refine ⟨T1, R, stay_weak (yf.trans yB) rfl rfl, fun T y13 => ⟨?_, lk0 T y13⟩⟩
  have pO : Stay [21, 22, 23, 24, 27, 28, 29, 44, 45, 50, 51, 66, 67, 68, 69, 70, 71, 72, 73, 74, 75, 76, 77, 78, 79, 83, 84, 85, 88, 101, 102, 103, 104, 105, 106, 107, 111, 112, 113, 114, 115, 116, 117, 120, 121, 122, 123, 124, 125, 126, 127] [60, 61, 63, 65] SS T := stay_weak (yf.trans (yB.trans y13)) rfl rfl
  have zT : Stay [21, 22, 23, 24, 27, 28, 29, 44, 45, 50, 51, 66, 67, 68, 69, 70, 71, 72, 73, 74, 75, 76, 77, 78, 79, 83, 84, 85, 88, 101, 102, 103, 104, 105, 106, 107, 111, 112, 113, 114, 115, 116, 117, 120, 121, 122, 123, 124, 125, 126, 127] [60, 63, 65] Sa T := stay_weak (z.trans (yB.trans y13)) rfl rfl
  have u5 : T.ρ 5 = SS.ρ 5 := pO.num 5 rfl
  have u71 : T.ρ 71 = SS.ρ 71 := by rw [y13.num 71 rfl, R.e71, ← y13.num 5 rfl, u5, e71s]
  have u45 : T.ρ 45 = SS.ρ 45 := by rw [y13.num 45 rfl, R.e45, ← y13.num 5 rfl, u5, e45s]
  have u62 : T.ρ 62 = SS.ρ 62 := pO.num 62 rfl
  have u64 : T.ρ 64 = SS.ρ 64 := pO.num 64 rfl
  have haO : AsgOk T Sa askO0 := (an 5 (.var .i64 5) (sm (zT.num 5 rfl)) (an 17 (.var .i64 17) (sm (zT.num 17 rfl)) (an 20 (.var .i64 20) (sm (zT.num 20 rfl)) (an 21 (.lit .i64 0) (sm ((ya.num 21 rfl).trans s0_21).symm) (an 42 (.var .i64 42) (sm (zT.num 42 rfl)) (ar 60 (ar_upd (.var .i64 64) (.lit .u64 1) (i := T.ρ 64) (v := (1 : Int)) rfl rfl (by kernel_rfl) (ar_upd (.lit .i64 22) (.bin .or (.bin .or (.bin .or (.lit .u64 1) (.bin .shl (.bin .and (.conv .u64 (.var .i64 5)) (.lit .u64 1023)) (.lit .u64 3))) (.lit .u64 0)) (.lit .u64 0)) (i := (22 : Int)) (v := (opZ .or .u64 ((opZ .or .u64 ((opZ .or .u64 ((1 : Int)) ((opZ .shl .u64 ((opZ .and .u64 ((IntKind.u64.wrap (T.ρ 5))) ((1023 : Int)))) ((3 : Int)))))) ((0 : Int)))) ((0 : Int)))) rfl rfl (by kernel_rfl) ar_zero)) (an 18 (.var .i64 18) (sm (zT.num 18 rfl)) (asg_arr (i := 61) (fun j => congrArg some ((ya.fn 61 rfl _).trans (z0_61 j)).symm) (an 18 (.var .i64 18) (sm (zT.num 18 rfl)) (an 42 (.var .i64 42) (sm (zT.num 42 rfl)) (an 50 (.lit .i64 2) (sm ((ya.num 50 rfl).trans s0_50).symm) (an 42 (.var .i64 42) (sm (zT.num 42 rfl)) (an 41 (.var .i64 41) (sm (zT.num 41 rfl)) (an 40 (.var .i64 40) (sm (zT.num 40 rfl)) (an 39 (.var .i64 39) (sm (zT.num 39 rfl)) (an 38 (.var .i64 38) (sm (zT.num 38 rfl)) (an 37 (.var .i64 37) (sm (zT.num 37 rfl)) (an 36 (.var .i64 36) (sm (zT.num 36 rfl)) (an 35 (.var .i64 35) (sm (zT.num 35 rfl)) (an 34 (.var .i64 34) (sm (zT.num 34 rfl)) (an 33 (.var .i64 33) (sm (zT.num 33 rfl)) (an 32 (.var .i64 32) (sm (zT.num 32 rfl)) (an 31 (.var .i64 31) (sm (zT.num 31 rfl)) (an 5 (.var .i64 5) (sm (zT.num 5 rfl)) (asg_nil zT.1.symm))))))))))))))))))) (fun j => show (fun j => ifE j (T.ρ 64) ((1 : Int)) ((fun j => ifE j ((22 : Int)) ((opZ .or .u64 ((opZ .or .u64 ((opZ .or .u64 ((1 : Int)) ((opZ .shl .u64 ((opZ .and .u64 ((IntKind.u64.wrap (T.ρ 5))) ((1023 : Int)))) ((3 : Int)))))) ((0 : Int)))) ((0 : Int)))) ((fun _ => 0) j)) j)) (j : Int) = _ from by dsimp only; simp only [u5, u64]; exact ((ya.fn 60 rfl _).trans (z0_60 j)).symm)))))))
  exact loop_chain envB (ann_self _) fineOB (show (XOB ty).N = (FOB ty).N from rfl) (Nat.le_of_ble_eq_true rfl) chO (outO NO rfl ((yB.trans y13).same rfl rfl)) haO (hX := GlOk.of (by kernel_rfl) (by kernel_rfl)) (hF := GlOk.of (by kernel_rfl) (by kernel_rfl))
def askO1 : Asg := [(5, .num (Tm.enc (.var .i64 5))), (17, .num (Tm.enc (.var .i64 17))), (20, .num (Tm.enc (.var .i64 20))), (21, .num (Tm.enc (.lit .i64 0))), (42, .num (Tm.enc (.var .i64 42))), (60, .arr (.upd (.upd (.upd .zero (Tm.enc (.var .i64 71)) (Tm.enc (.bin .or (.bin .or (.bin .or (.lit .u64 2) (.bin .shl (.bin .and (.conv .u64 (.var .i64 5)) (.lit .u64 1023)) (.lit .u64 3))) (.lit .u64 0)) (.lit .u64 0)))) (Tm.enc (.lit .i64 22)) (Tm.enc (.bin .or (.bin .or (.bin .or (.lit .u64 1) (.bin .shl (.bin .and (.conv .u64 (.var .i64 5)) (.lit .u64 1023)) (.lit .u64 3))) (.lit .u64 0)) (.lit .u64 0)))) (Tm.enc (.var .i64 64)) (Tm.enc (.lit .u64 1)))), (18, .num (Tm.enc (.var .i64 18))), (61, .arr .zero), (18, .num (Tm.enc (.var .i64 18))), (42, .num (Tm.enc (.var .i64 42))), (50, .num (Tm.enc (.lit .i64 3))), (42, .num (Tm.enc (.var .i64 42))), (41, .num (Tm.enc (.var .i64 41))), (40, .num (Tm.enc (.var .i64 40))), (39, .num (Tm.enc (.var .i64 39))), (38, .num (Tm.enc (.var .i64 38))), (37, .num (Tm.enc (.var .i64 37))), (36, .num (Tm.enc (.var .i64 36))), (35, .num (Tm.enc (.var .i64 35))), (34, .num (Tm.enc (.var .i64 34))), (33, .num (Tm.enc (.var .i64 33))), (32, .num (Tm.enc (.var .i64 32))), (31, .num (Tm.enc (.var .i64 31))), (5, .num (Tm.enc (.var .i64 5)))]
noncomputable abbrev lkO1 (ty : TypeId) := lkLoopR Tryd.prog 300 [(310, 124)] (XOB ty) (FOB ty) (.exit 0) askO1
set_option maxHeartbeats 8000000 in
theorem preL1 {SS : Sy} (ty : TypeId) (g : GeoS SS) (e45s : SS.ρ 45 = SS.ρ 5 - 1) (e71s : SS.ρ 71 = 21 + SS.ρ 5) (e62 : SS.ρ 62 = lg (SS.ρ 5)) (e64 : SS.ρ 64 = 7 + SS.ρ 62) (hm : 1 < SS.ρ 5) : ∃ T1, RNm T1 (T1.ρ 17) ∧ Stay [21, 22, 23, 24, 27, 28, 29, 44, 45, 50, 51, 66, 67, 68, 69, 70, 71, 72, 73, 74, 75, 76] [60, 61, 63] SS T1 ∧ ∀ T, Stay [77, 78, 79, 83, 84, 85, 88, 101, 102, 103, 104, 105, 106, 107, 111, 112, 113, 114, 115, 116, 117, 120, 121, 122, 123, 124, 125, 126, 127] [65] T1 T → LkAt Tryd.prog T (gsT ty) (.loop (cAt Tryd.prog lpOB)) (lkO1 ty) ∧ LkAt Tryd.prog T (gsT ty) (.loop (cAt Tryd.prog lpBB)) (lkB ty) := by
  have hK := g.K
  have hn := g.n; have hws := g.w; have hcs := g.c
  have b62 := lg_in (SS.ρ 5)
  rw [← e62] at b62
  obtain ⟨S00, hS0⟩ : ∃ S0 : Sy, S0 = SS.set (upd SS.ρ [(21, 0), (50, 3)]) [(60, (fun j => ifE j (SS.ρ 64) ((1 : Int)) ((fun j => ifE j ((22 : Int)) ((opZ .or .u64 ((opZ .or .u64 ((opZ .or .u64 ((1 : Int)) ((opZ .shl .u64 ((opZ .and .u64 ((IntKind.u64.wrap (SS.ρ 5))) ((1023 : Int)))) ((3 : Int)))))) ((0 : Int)))) ((0 : Int)))) ((fun j => ifE j (SS.ρ 71) ((opZ .or .u64 ((opZ .or .u64 ((opZ .or .u64 ((2 : Int)) ((opZ .shl .u64 ((opZ .and .u64 ((IntKind.u64.wrap (SS.ρ 5))) ((1023 : Int)))) ((3 : Int)))))) ((0 : Int)))) ((0 : Int)))) ((fun _ => 0) j)) j)) j))), (61, fun _ => 0)] 60 rfl hK := ⟨_, rfl⟩
  have q0 : Stay [21, 50] [60, 61] SS S00 := by rw [hS0]; exact (Stay.refl _ _ _).set rfl rfl
  have s0_21 : S00.ρ 21 = 0 := by rw [hS0]; rfl
  have s0_50 : S00.ρ 50 = 3 := by rw [hS0]; rfl
  have z0_60 : ∀ j : Int, S00.Φ 60 [j] = ((fun j => ifE j (SS.ρ 64) ((1 : Int)) ((fun j => ifE j ((22 : Int)) ((opZ .or .u64 ((opZ .or .u64 ((opZ .or .u64 ((1 : Int)) ((opZ .shl .u64 ((opZ .and .u64 ((IntKind.u64.wrap (SS.ρ 5))) ((1023 : Int)))) ((3 : Int)))))) ((0 : Int)))) ((0 : Int)))) ((fun j => ifE j (SS.ρ 71) ((opZ .or .u64 ((opZ .or .u64 ((opZ .or .u64 ((2 : Int)) ((opZ .shl .u64 ((opZ .and .u64 ((IntKind.u64.wrap (SS.ρ 5))) ((1023 : Int)))) ((3 : Int)))))) ((0 : Int)))) ((0 : Int)))) ((fun _ => 0) j)) j)) j))) j := by rw [hS0]; intro j; rfl
  have z0_61 : ∀ j : Int, S00.Φ 61 [j] = (0 : Int) := by rw [hS0]; intro j; rfl
  clear hS0
  have f5 : S00.ρ 5 = SS.ρ 5 := q0.num 5 rfl
  have hm0 : Mem S00 60 0 := by
    refine ⟨fun j h0 h1 => by omega, fun h1 => ?_, fun j h0 h1 => by omega, fun j h0 h1 => ?_⟩
    · rw [z0_60, f5]
      dsimp only [ifE]
      rw [if_neg (by omega), if_pos (by omega)]
      exact (wordF (l := SS.ρ 5) hn).trans (by congr 1; omega)
    · rw [z0_60, f5]
      rw [f5] at h1
      dsimp only [ifE]
      rw [if_neg (by omega), if_neg (by omega), if_neg (by omega)]
  obtain ⟨Sa, Sf, chO, NO, ya, z⟩ := chainO (ty := ty) (SS.ρ 17).toNat S00 0 ⟨g.stay q0 rfl rfl, by omega, by rw [q0.num 17 rfl]; omega, s0_21, hm0⟩ (by rw [q0.num 17 rfl]; omega)
  have yf : Stay [21, 22, 23, 24, 27, 28, 29, 44, 45, 50, 51, 66, 67, 68, 69, 70, 71, 72, 73, 74, 75, 76] [60, 61, 63] SS Sf := stay_weak (q0.trans (ya.trans z)) rfl rfl
  have w17 : Sf.ρ 17 = SS.ρ 17 := yf.num 17 rfl
  have w5 : Sf.ρ 5 = SS.ρ 5 := yf.num 5 rfl
  obtain ⟨T1, R, yB, lk0⟩ := prepB (ty := ty) NO.geo NO.mem NO.i0 (by omega)
  have v17 : T1.ρ 17 = Sf.ρ 17 := yB.num 17 rfl
  rw [← v17] at R
  refine ⟨T1, R, stay_weak (yf.trans yB) rfl rfl, fun T y13 => ⟨?_, lk0 T y13⟩⟩
  have pO : Stay [21, 22, 23, 24, 27, 28, 29, 44, 45, 50, 51, 66, 67, 68, 69, 70, 71, 72, 73, 74, 75, 76, 77, 78, 79, 83, 84, 85, 88, 101, 102, 103, 104, 105, 106, 107, 111, 112, 113, 114, 115, 116, 117, 120, 121, 122, 123, 124, 125, 126, 127] [60, 61, 63, 65] SS T := stay_weak (yf.trans (yB.trans y13)) rfl rfl
  have zT : Stay [21, 22, 23, 24, 27, 28, 29, 44, 45, 50, 51, 66, 67, 68, 69, 70, 71, 72, 73, 74, 75, 76, 77, 78, 79, 83, 84, 85, 88, 101, 102, 103, 104, 105, 106, 107, 111, 112, 113, 114, 115, 116, 117, 120, 121, 122, 123, 124, 125, 126, 127] [60, 63, 65] Sa T := stay_weak (z.trans (yB.trans y13)) rfl rfl
  have u5 : T.ρ 5 = SS.ρ 5 := pO.num 5 rfl
  have u71 : T.ρ 71 = SS.ρ 71 := by rw [y13.num 71 rfl, R.e71, ← y13.num 5 rfl, u5, e71s]
  have u45 : T.ρ 45 = SS.ρ 45 := by rw [y13.num 45 rfl, R.e45, ← y13.num 5 rfl, u5, e45s]
  have u62 : T.ρ 62 = SS.ρ 62 := pO.num 62 rfl
  have u64 : T.ρ 64 = SS.ρ 64 := pO.num 64 rfl
  have haO : AsgOk T Sa askO1 := (an 5 (.var .i64 5) (sm (zT.num 5 rfl)) (an 17 (.var .i64 17) (sm (zT.num 17 rfl)) (an 20 (.var .i64 20) (sm (zT.num 20 rfl)) (an 21 (.lit .i64 0) (sm ((ya.num 21 rfl).trans s0_21).symm) (an 42 (.var .i64 42) (sm (zT.num 42 rfl)) (ar 60 (ar_upd (.var .i64 64) (.lit .u64 1) (i := T.ρ 64) (v := (1 : Int)) rfl rfl (by kernel_rfl) (ar_upd (.lit .i64 22) (.bin .or (.bin .or (.bin .or (.lit .u64 1) (.bin .shl (.bin .and (.conv .u64 (.var .i64 5)) (.lit .u64 1023)) (.lit .u64 3))) (.lit .u64 0)) (.lit .u64 0)) (i := (22 : Int)) (v := (opZ .or .u64 ((opZ .or .u64 ((opZ .or .u64 ((1 : Int)) ((opZ .shl .u64 ((opZ .and .u64 ((IntKind.u64.wrap (T.ρ 5))) ((1023 : Int)))) ((3 : Int)))))) ((0 : Int)))) ((0 : Int)))) rfl rfl (by kernel_rfl) (ar_upd (.var .i64 71) (.bin .or (.bin .or (.bin .or (.lit .u64 2) (.bin .shl (.bin .and (.conv .u64 (.var .i64 5)) (.lit .u64 1023)) (.lit .u64 3))) (.lit .u64 0)) (.lit .u64 0)) (i := T.ρ 71) (v := (opZ .or .u64 ((opZ .or .u64 ((opZ .or .u64 ((2 : Int)) ((opZ .shl .u64 ((opZ .and .u64 ((IntKind.u64.wrap (T.ρ 5))) ((1023 : Int)))) ((3 : Int)))))) ((0 : Int)))) ((0 : Int)))) rfl rfl (by kernel_rfl) ar_zero))) (an 18 (.var .i64 18) (sm (zT.num 18 rfl)) (asg_arr (i := 61) (fun j => congrArg some ((ya.fn 61 rfl _).trans (z0_61 j)).symm) (an 18 (.var .i64 18) (sm (zT.num 18 rfl)) (an 42 (.var .i64 42) (sm (zT.num 42 rfl)) (an 50 (.lit .i64 3) (sm ((ya.num 50 rfl).trans s0_50).symm) (an 42 (.var .i64 42) (sm (zT.num 42 rfl)) (an 41 (.var .i64 41) (sm (zT.num 41 rfl)) (an 40 (.var .i64 40) (sm (zT.num 40 rfl)) (an 39 (.var .i64 39) (sm (zT.num 39 rfl)) (an 38 (.var .i64 38) (sm (zT.num 38 rfl)) (an 37 (.var .i64 37) (sm (zT.num 37 rfl)) (an 36 (.var .i64 36) (sm (zT.num 36 rfl)) (an 35 (.var .i64 35) (sm (zT.num 35 rfl)) (an 34 (.var .i64 34) (sm (zT.num 34 rfl)) (an 33 (.var .i64 33) (sm (zT.num 33 rfl)) (an 32 (.var .i64 32) (sm (zT.num 32 rfl)) (an 31 (.var .i64 31) (sm (zT.num 31 rfl)) (an 5 (.var .i64 5) (sm (zT.num 5 rfl)) (asg_nil zT.1.symm))))))))))))))))))) (fun j => show (fun j => ifE j (T.ρ 64) ((1 : Int)) ((fun j => ifE j ((22 : Int)) ((opZ .or .u64 ((opZ .or .u64 ((opZ .or .u64 ((1 : Int)) ((opZ .shl .u64 ((opZ .and .u64 ((IntKind.u64.wrap (T.ρ 5))) ((1023 : Int)))) ((3 : Int)))))) ((0 : Int)))) ((0 : Int)))) ((fun j => ifE j (T.ρ 71) ((opZ .or .u64 ((opZ .or .u64 ((opZ .or .u64 ((2 : Int)) ((opZ .shl .u64 ((opZ .and .u64 ((IntKind.u64.wrap (T.ρ 5))) ((1023 : Int)))) ((3 : Int)))))) ((0 : Int)))) ((0 : Int)))) ((fun _ => 0) j)) j)) j)) (j : Int) = _ from by dsimp only; simp only [u5, u64, u71]; exact ((ya.fn 60 rfl _).trans (z0_60 j)).symm)))))))
  exact loop_chain envB (ann_self _) fineOB (show (XOB ty).N = (FOB ty).N from rfl) (Nat.le_of_ble_eq_true rfl) chO (outO NO rfl ((yB.trans y13).same rfl rfl)) haO (hX := GlOk.of (by kernel_rfl) (by kernel_rfl)) (hF := GlOk.of (by kernel_rfl) (by kernel_rfl))
def askC (r : ACode) : Asg := [(17, .num (Tm.enc (.var .i64 17))), (20, .num (Tm.enc (.var .i64 20))), (83, .num (Tm.enc (.lit .i64 0))), (42, .num (Tm.enc (.var .i64 42))), (65, .arr r), (18, .num (Tm.enc (.var .i64 18))), (61, .arr (.var 61)), (18, .num (Tm.enc (.var .i64 18))), (42, .num (Tm.enc (.var .i64 42))), (42, .num (Tm.enc (.var .i64 42))), (41, .num (Tm.enc (.var .i64 41))), (40, .num (Tm.enc (.var .i64 40))), (39, .num (Tm.enc (.var .i64 39))), (38, .num (Tm.enc (.var .i64 38))), (37, .num (Tm.enc (.var .i64 37))), (36, .num (Tm.enc (.var .i64 36))), (35, .num (Tm.enc (.var .i64 35))), (34, .num (Tm.enc (.var .i64 34))), (33, .num (Tm.enc (.var .i64 33))), (32, .num (Tm.enc (.var .i64 32))), (31, .num (Tm.enc (.var .i64 31))), (5, .num (Tm.enc (.var .i64 5)))]
noncomputable abbrev lkC (r : ACode) (ty : TypeId) := lkLoopR Tryd.prog 3000 [] (XCB ty) FCB (.exit 6) (askC r)
theorem askC_ok {T T2 : Sy} {r : ACode} {g : Int → Int} (hr : Row T r g) (hg : ∀ j : Nat, g (j : Int) = T2.Φ 65 [(j : Int)]) (h83 : T2.ρ 83 = 0) (y : Stay [83, 84, 85, 88] [] T2 T) : AsgOk T T2 (askC r) := (an 17 (.var .i64 17) (sm (y.num 17 rfl)) (an 20 (.var .i64 20) (sm (y.num 20 rfl)) (an 83 (.lit .i64 0) (sm h83.symm) (an 42 (.var .i64 42) (sm (y.num 42 rfl)) (ar 65 hr (an 18 (.var .i64 18) (sm (y.num 18 rfl)) (asg_arr (i := 61) (y.row 61 rfl) (an 18 (.var .i64 18) (sm (y.num 18 rfl)) (an 42 (.var .i64 42) (sm (y.num 42 rfl)) (an 42 (.var .i64 42) (sm (y.num 42 rfl)) (an 41 (.var .i64 41) (sm (y.num 41 rfl)) (an 40 (.var .i64 40) (sm (y.num 40 rfl)) (an 39 (.var .i64 39) (sm (y.num 39 rfl)) (an 38 (.var .i64 38) (sm (y.num 38 rfl)) (an 37 (.var .i64 37) (sm (y.num 37 rfl)) (an 36 (.var .i64 36) (sm (y.num 36 rfl)) (an 35 (.var .i64 35) (sm (y.num 35 rfl)) (an 34 (.var .i64 34) (sm (y.num 34 rfl)) (an 33 (.var .i64 33) (sm (y.num 33 rfl)) (an 32 (.var .i64 32) (sm (y.num 32 rfl)) (an 31 (.var .i64 31) (sm (y.num 31 rfl)) (an 5 (.var .i64 5) (sm (y.num 5 rfl)) (asg_nil y.1.symm)))))))))))))))))) hg)))))
set_option maxHeartbeats 8000000 in
theorem postL0 {T1 : Sy} (ty : TypeId) (R : RNm T1 (T1.ρ 17)) (hd : T1.ρ 20 = 0) (g : Int → Int) (hg : ∀ j : Int, 0 ≤ j → j < T1.ρ 17 → g (22 + T1.ρ 5 + j) = T1.Φ 63 [22 + T1.ρ 5 + j]) : ∃ T2 T, T2.ρ 83 = 0 ∧ (∀ j : Int, T2.Φ 65 [j] = g j) ∧ Stay [83, 84, 85, 88] [] T2 T ∧ Stay [77, 78, 79, 83, 84, 85, 88, 101, 102, 103, 104, 105, 106, 107, 111, 112, 113, 114, 115, 116, 117, 120, 121, 122, 123, 124, 125, 126, 127] [65] T1 T ∧ TNm0 T ∧ ∀ r, AsgOk T T2 (askC r) → LkAt Tryd.prog T (gsT ty) (.loop (cAt Tryd.prog lpCB)) (lkC r ty) := by
  have hK1 := R.geo.K
  obtain ⟨T2, hT2⟩ : ∃ T : Sy, T = T1.set (upd T1.ρ [(77, 8 * T1.ρ 17), (78, 64 * T1.ρ 17), (79, 64 * T1.ρ 17 + 64), (120, 64 * T1.ρ 17 + 8), (101, 8 * T1.ρ 17 + 1), (111, 64 * T1.ρ 17 + 8), (121, 64 * T1.ρ 17 + 16), (102, 8 * T1.ρ 17 + 2), (112, 64 * T1.ρ 17 + 16), (122, 64 * T1.ρ 17 + 24), (103, 8 * T1.ρ 17 + 3), (113, 64 * T1.ρ 17 + 24), (123, 64 * T1.ρ 17 + 32), (104, 8 * T1.ρ 17 + 4), (114, 64 * T1.ρ 17 + 32), (124, 64 * T1.ρ 17 + 40), (105, 8 * T1.ρ 17 + 5), (115, 64 * T1.ρ 17 + 40), (125, 64 * T1.ρ 17 + 48), (106, 8 * T1.ρ 17 + 6), (116, 64 * T1.ρ 17 + 48), (126, 64 * T1.ρ 17 + 56), (107, 8 * T1.ρ 17 + 7), (117, 64 * T1.ρ 17 + 56), (127, 64 * T1.ρ 17 + 64), (83, 0), (88, 22 + T1.ρ 5), (84, (T1.ρ 20) % 4 + 1), (85, (T1.ρ 20) % 4)]) [(65, g)] 60 rfl hK1 := ⟨_, rfl⟩
  have q2 : Stay [77, 78, 79, 83, 84, 85, 88, 101, 102, 103, 104, 105, 106, 107, 111, 112, 113, 114, 115, 116, 117, 120, 121, 122, 123, 124, 125, 126, 127] [65] T1 T2 := by rw [hT2]; exact stay_weak ((Stay.refl [77, 78, 79, 120, 101, 111, 121, 102, 112, 122, 103, 113, 123, 104, 114, 124, 105, 115, 125, 106, 116, 126, 107, 117, 127, 83, 88, 84, 85] [65] _).set rfl rfl) rfl rfl
  have s2_77 : T2.ρ 77 = 8 * T1.ρ 17 := by rw [hT2]; rfl
  have s2_78 : T2.ρ 78 = 64 * T1.ρ 17 := by rw [hT2]; rfl
  have s2_79 : T2.ρ 79 = 64 * T1.ρ 17 + 64 := by rw [hT2]; rfl
  have s2_120 : T2.ρ 120 = 64 * T1.ρ 17 + 8 := by rw [hT2]; rfl
  have s2_101 : T2.ρ 101 = 8 * T1.ρ 17 + 1 := by rw [hT2]; rfl
  have s2_111 : T2.ρ 111 = 64 * T1.ρ 17 + 8 := by rw [hT2]; rfl
  have s2_121 : T2.ρ 121 = 64 * T1.ρ 17 + 16 := by rw [hT2]; rfl
  have s2_102 : T2.ρ 102 = 8 * T1.ρ 17 + 2 := by rw [hT2]; rfl
  have s2_112 : T2.ρ 112 = 64 * T1.ρ 17 + 16 := by rw [hT2]; rfl
  have s2_122 : T2.ρ 122 = 64 * T1.ρ 17 + 24 := by rw [hT2]; rfl
  have s2_103 : T2.ρ 103 = 8 * T1.ρ 17 + 3 := by rw [hT2]; rfl
  have s2_113 : T2.ρ 113 = 64 * T1.ρ 17 + 24 := by rw [hT2]; rfl
  have s2_123 : T2.ρ 123 = 64 * T1.ρ 17 + 32 := by rw [hT2]; rfl
  have s2_104 : T2.ρ 104 = 8 * T1.ρ 17 + 4 := by rw [hT2]; rfl
  have s2_114 : T2.ρ 114 = 64 * T1.ρ 17 + 32 := by rw [hT2]; rfl
  have s2_124 : T2.ρ 124 = 64 * T1.ρ 17 + 40 := by rw [hT2]; rfl
  have s2_105 : T2.ρ 105 = 8 * T1.ρ 17 + 5 := by rw [hT2]; rfl
  have s2_115 : T2.ρ 115 = 64 * T1.ρ 17 + 40 := by rw [hT2]; rfl
  have s2_125 : T2.ρ 125 = 64 * T1.ρ 17 + 48 := by rw [hT2]; rfl
  have s2_106 : T2.ρ 106 = 8 * T1.ρ 17 + 6 := by rw [hT2]; rfl
  have s2_116 : T2.ρ 116 = 64 * T1.ρ 17 + 48 := by rw [hT2]; rfl
  have s2_126 : T2.ρ 126 = 64 * T1.ρ 17 + 56 := by rw [hT2]; rfl
  have s2_107 : T2.ρ 107 = 8 * T1.ρ 17 + 7 := by rw [hT2]; rfl
  have s2_117 : T2.ρ 117 = 64 * T1.ρ 17 + 56 := by rw [hT2]; rfl
  have s2_127 : T2.ρ 127 = 64 * T1.ρ 17 + 64 := by rw [hT2]; rfl
  have s2_83 : T2.ρ 83 = 0 := by rw [hT2]; rfl
  have s2_88 : T2.ρ 88 = 22 + T1.ρ 5 := by rw [hT2]; rfl
  have s2_84 : T2.ρ 84 = (T1.ρ 20) % 4 + 1 := by rw [hT2]; rfl
  have s2_85 : T2.ρ 85 = (T1.ρ 20) % 4 := by rw [hT2]; rfl
  have z2_65 : ∀ j : Int, T2.Φ 65 [j] = g j := by rw [hT2]; intro j; rfl
  clear hT2
  have g2 : GeoS T2 := R.geo.stay q2 rfl rfl
  have x5 : T2.ρ 5 = T1.ρ 5 := q2.num 5 rfl
  have x17 : T2.ρ 17 = T1.ρ 17 := q2.num 17 rfl
  have x20 : T2.ρ 20 = T1.ρ 20 := q2.num 20 rfl
  have n1 := R.geo.n; have hw1 := R.geo.w; have hi1 := R.i0
  have NC0 : InvC T2 0 := by
    refine ⟨g2, by omega, by rw [x17]; omega, s2_83, by rw [s2_88, x5]; omega, by rw [s2_84, x20, Int.add_zero], by rw [s2_85, x20, Int.add_zero], fun j h0 h1 => ?_⟩
    rw [x17] at h1
    rw [z2_65, x5, x20, hg j h0 h1]
    exact R.mem.bw j h0 h1
  obtain ⟨T, chC, Nf, g3⟩ := chainC (ty := ty) (T2.ρ 17).toNat T2 0 NC0 (by omega)
  have p2 := q2.trans g3
  have y13 : Stay [77, 78, 79, 83, 84, 85, 88, 101, 102, 103, 104, 105, 106, 107, 111, 112, 113, 114, 115, 116, 117, 120, 121, 122, 123, 124, 125, 126, 127] [65] T1 T := stay_weak p2 rfl rfl
  have gT : GeoS T := R.geo.stay y13 rfl rfl
  have t5 : T.ρ 5 = T1.ρ 5 := y13.num 5 rfl
  have t17 : T.ρ 17 = T1.ρ 17 := y13.num 17 rfl
  have t20 : T.ρ 20 = T1.ρ 20 := y13.num 20 rfl
  have t23 : T.ρ 23 = T1.ρ 23 := y13.num 23 rfl
  have t24 : T.ρ 24 = T1.ρ 24 := y13.num 24 rfl
  have t66 : T.ρ 66 = T1.ρ 66 := y13.num 66 rfl
  have t67 : T.ρ 67 = T1.ρ 67 := y13.num 67 rfl
  have t68 : T.ρ 68 = T1.ρ 68 := y13.num 68 rfl
  have t69 : T.ρ 69 = T1.ρ 69 := y13.num 69 rfl
  have t75 : T.ρ 75 = T1.ρ 75 := y13.num 75 rfl
  have t76 : T.ρ 76 = T1.ρ 76 := y13.num 76 rfl
  have t44 : T.ρ 44 = T1.ρ 44 := y13.num 44 rfl
  have t45 : T.ρ 45 = T1.ρ 45 := y13.num 45 rfl
  have t70 : T.ρ 70 = T1.ρ 70 := y13.num 70 rfl
  have t71 : T.ρ 71 = T1.ρ 71 := y13.num 71 rfl
  have t72 : T.ρ 72 = T1.ρ 72 := y13.num 72 rfl
  have t73 : T.ρ 73 = T1.ρ 73 := y13.num 73 rfl
  have t74 : T.ρ 74 = T1.ρ 74 := y13.num 74 rfl
  have RT : RNm T (T.ρ 17) := ⟨gT, by rw [t17]; exact R.i0, by rw [t17, t5]; exact R.hin, by rw [t17]; exact R.mem.of t5 t20 (fun j => y13.fn 63 rfl [j]), by rw [t23, t17]; exact R.e23, by rw [t24, t5, t17]; exact R.e24, by rw [t66, t17]; exact R.e66, by rw [t67, t5, t17]; exact R.e67, by rw [t68, t67]; exact R.e68, by rw [t69, t17]; exact R.e69, by rw [t75, t5, t17]; exact R.e75, by rw [t76, t5, t17]; exact R.e76, by rw [t44, t5]; exact R.e44, by rw [t45, t5]; exact R.e45, by rw [t70, t5, t17]; exact R.e70, by rw [t71, t5]; exact R.e71, by rw [t72, t17]; exact R.e72, by rw [t73, t5, t17]; exact R.e73, by rw [t74, t73]; exact R.e74⟩
  refine ⟨T2, T, s2_83, z2_65, g3, y13, ⟨RT, by rw [t20]; exact hd, by rw [g3.num 77 rfl, s2_77, t17], by rw [g3.num 78 rfl, s2_78, t17], by rw [g3.num 79 rfl, s2_79, t17], by rw [g3.num 120 rfl, s2_120, t17], by rw [g3.num 101 rfl, s2_101, t17], by rw [g3.num 111 rfl, s2_111, t17], by rw [g3.num 121 rfl, s2_121, t17], by rw [g3.num 102 rfl, s2_102, t17], by rw [g3.num 112 rfl, s2_112, t17], by rw [g3.num 122 rfl, s2_122, t17], by rw [g3.num 103 rfl, s2_103, t17], by rw [g3.num 113 rfl, s2_113, t17], by rw [g3.num 123 rfl, s2_123, t17], by rw [g3.num 104 rfl, s2_104, t17], by rw [g3.num 114 rfl, s2_114, t17], by rw [g3.num 124 rfl, s2_124, t17], by rw [g3.num 105 rfl, s2_105, t17], by rw [g3.num 115 rfl, s2_115, t17], by rw [g3.num 125 rfl, s2_125, t17], by rw [g3.num 106 rfl, s2_106, t17], by rw [g3.num 116 rfl, s2_116, t17], by rw [g3.num 126 rfl, s2_126, t17], by rw [g3.num 107 rfl, s2_107, t17], by rw [g3.num 117 rfl, s2_117, t17], by rw [g3.num 127 rfl, s2_127, t17]⟩, fun r ha => ?_⟩
  exact loop_chain envB (ann_self _) fineCB (show (XCB ty).N = FCB.N from rfl) (Nat.le_of_ble_eq_true rfl) chC (outC Nf rfl rfl) ha (hX := GlOk.of (by kernel_rfl) (by kernel_rfl))
set_option maxHeartbeats 8000000 in
theorem postL1 {T1 : Sy} (ty : TypeId) (R : RNm T1 (T1.ρ 17)) (hd : T1.ρ 20 = 1) (g : Int → Int) (hg : ∀ j : Int, 0 ≤ j → j < T1.ρ 17 → g (22 + T1.ρ 5 + j) = T1.Φ 63 [22 + T1.ρ 5 + j]) : ∃ T2 T, T2.ρ 83 = 0 ∧ (∀ j : Int, T2.Φ 65 [j] = g j) ∧ Stay [83, 84, 85, 88] [] T2 T ∧ Stay [77, 78, 79, 83, 84, 85, 88, 101, 102, 103, 104, 105, 106, 107, 111, 112, 113, 114, 115, 116, 117, 120, 121, 122, 123, 124, 125, 126, 127] [65] T1 T ∧ TNm1 T ∧ ∀ r, AsgOk T T2 (askC r) → LkAt Tryd.prog T (gsT ty) (.loop (cAt Tryd.prog lpCB)) (lkC r ty) := by
  have hK1 := R.geo.K
  obtain ⟨T2, hT2⟩ : ∃ T : Sy, T = T1.set (upd T1.ρ [(77, 8 * T1.ρ 17), (78, 64 * T1.ρ 17), (79, 64 * T1.ρ 17 + 64), (120, 64 * T1.ρ 17 + 16), (101, 8 * T1.ρ 17 + 2), (111, 64 * T1.ρ 17 + 16), (121, 64 * T1.ρ 17 + 32), (102, 8 * T1.ρ 17 + 4), (112, 64 * T1.ρ 17 + 32), (122, 64 * T1.ρ 17 + 48), (103, 8 * T1.ρ 17 + 6), (113, 64 * T1.ρ 17 + 48), (123, 64 * T1.ρ 17 + 64), (83, 0), (88, 22 + T1.ρ 5), (84, (T1.ρ 20) % 4 + 1), (85, (T1.ρ 20) % 4)]) [(65, g)] 60 rfl hK1 := ⟨_, rfl⟩
  have q2 : Stay [77, 78, 79, 83, 84, 85, 88, 101, 102, 103, 104, 105, 106, 107, 111, 112, 113, 114, 115, 116, 117, 120, 121, 122, 123, 124, 125, 126, 127] [65] T1 T2 := by rw [hT2]; exact stay_weak ((Stay.refl [77, 78, 79, 120, 101, 111, 121, 102, 112, 122, 103, 113, 123, 83, 88, 84, 85] [65] _).set rfl rfl) rfl rfl
  have s2_77 : T2.ρ 77 = 8 * T1.ρ 17 := by rw [hT2]; rfl
  have s2_78 : T2.ρ 78 = 64 * T1.ρ 17 := by rw [hT2]; rfl
  have s2_79 : T2.ρ 79 = 64 * T1.ρ 17 + 64 := by rw [hT2]; rfl
  have s2_120 : T2.ρ 120 = 64 * T1.ρ 17 + 16 := by rw [hT2]; rfl
  have s2_101 : T2.ρ 101 = 8 * T1.ρ 17 + 2 := by rw [hT2]; rfl
  have s2_111 : T2.ρ 111 = 64 * T1.ρ 17 + 16 := by rw [hT2]; rfl
  have s2_121 : T2.ρ 121 = 64 * T1.ρ 17 + 32 := by rw [hT2]; rfl
  have s2_102 : T2.ρ 102 = 8 * T1.ρ 17 + 4 := by rw [hT2]; rfl
  have s2_112 : T2.ρ 112 = 64 * T1.ρ 17 + 32 := by rw [hT2]; rfl
  have s2_122 : T2.ρ 122 = 64 * T1.ρ 17 + 48 := by rw [hT2]; rfl
  have s2_103 : T2.ρ 103 = 8 * T1.ρ 17 + 6 := by rw [hT2]; rfl
  have s2_113 : T2.ρ 113 = 64 * T1.ρ 17 + 48 := by rw [hT2]; rfl
  have s2_123 : T2.ρ 123 = 64 * T1.ρ 17 + 64 := by rw [hT2]; rfl
  have s2_83 : T2.ρ 83 = 0 := by rw [hT2]; rfl
  have s2_88 : T2.ρ 88 = 22 + T1.ρ 5 := by rw [hT2]; rfl
  have s2_84 : T2.ρ 84 = (T1.ρ 20) % 4 + 1 := by rw [hT2]; rfl
  have s2_85 : T2.ρ 85 = (T1.ρ 20) % 4 := by rw [hT2]; rfl
  have z2_65 : ∀ j : Int, T2.Φ 65 [j] = g j := by rw [hT2]; intro j; rfl
  clear hT2
  have g2 : GeoS T2 := R.geo.stay q2 rfl rfl
  have x5 : T2.ρ 5 = T1.ρ 5 := q2.num 5 rfl
  have x17 : T2.ρ 17 = T1.ρ 17 := q2.num 17 rfl
  have x20 : T2.ρ 20 = T1.ρ 20 := q2.num 20 rfl
  have n1 := R.geo.n; have hw1 := R.geo.w; have hi1 := R.i0
  have NC0 : InvC T2 0 := by
    refine ⟨g2, by omega, by rw [x17]; omega, s2_83, by rw [s2_88, x5]; omega, by rw [s2_84, x20, Int.add_zero], by rw [s2_85, x20, Int.add_zero], fun j h0 h1 => ?_⟩
    rw [x17] at h1
    rw [z2_65, x5, x20, hg j h0 h1]
    exact R.mem.bw j h0 h1
  obtain ⟨T, chC, Nf, g3⟩ := chainC (ty := ty) (T2.ρ 17).toNat T2 0 NC0 (by omega)
  have p2 := q2.trans g3
  have y13 : Stay [77, 78, 79, 83, 84, 85, 88, 101, 102, 103, 104, 105, 106, 107, 111, 112, 113, 114, 115, 116, 117, 120, 121, 122, 123, 124, 125, 126, 127] [65] T1 T := stay_weak p2 rfl rfl
  have gT : GeoS T := R.geo.stay y13 rfl rfl
  have t5 : T.ρ 5 = T1.ρ 5 := y13.num 5 rfl
  have t17 : T.ρ 17 = T1.ρ 17 := y13.num 17 rfl
  have t20 : T.ρ 20 = T1.ρ 20 := y13.num 20 rfl
  have t23 : T.ρ 23 = T1.ρ 23 := y13.num 23 rfl
  have t24 : T.ρ 24 = T1.ρ 24 := y13.num 24 rfl
  have t66 : T.ρ 66 = T1.ρ 66 := y13.num 66 rfl
  have t67 : T.ρ 67 = T1.ρ 67 := y13.num 67 rfl
  have t68 : T.ρ 68 = T1.ρ 68 := y13.num 68 rfl
  have t69 : T.ρ 69 = T1.ρ 69 := y13.num 69 rfl
  have t75 : T.ρ 75 = T1.ρ 75 := y13.num 75 rfl
  have t76 : T.ρ 76 = T1.ρ 76 := y13.num 76 rfl
  have t44 : T.ρ 44 = T1.ρ 44 := y13.num 44 rfl
  have t45 : T.ρ 45 = T1.ρ 45 := y13.num 45 rfl
  have t70 : T.ρ 70 = T1.ρ 70 := y13.num 70 rfl
  have t71 : T.ρ 71 = T1.ρ 71 := y13.num 71 rfl
  have t72 : T.ρ 72 = T1.ρ 72 := y13.num 72 rfl
  have t73 : T.ρ 73 = T1.ρ 73 := y13.num 73 rfl
  have t74 : T.ρ 74 = T1.ρ 74 := y13.num 74 rfl
  have RT : RNm T (T.ρ 17) := ⟨gT, by rw [t17]; exact R.i0, by rw [t17, t5]; exact R.hin, by rw [t17]; exact R.mem.of t5 t20 (fun j => y13.fn 63 rfl [j]), by rw [t23, t17]; exact R.e23, by rw [t24, t5, t17]; exact R.e24, by rw [t66, t17]; exact R.e66, by rw [t67, t5, t17]; exact R.e67, by rw [t68, t67]; exact R.e68, by rw [t69, t17]; exact R.e69, by rw [t75, t5, t17]; exact R.e75, by rw [t76, t5, t17]; exact R.e76, by rw [t44, t5]; exact R.e44, by rw [t45, t5]; exact R.e45, by rw [t70, t5, t17]; exact R.e70, by rw [t71, t5]; exact R.e71, by rw [t72, t17]; exact R.e72, by rw [t73, t5, t17]; exact R.e73, by rw [t74, t73]; exact R.e74⟩
  refine ⟨T2, T, s2_83, z2_65, g3, y13, ⟨RT, by rw [t20]; exact hd, by rw [g3.num 77 rfl, s2_77, t17], by rw [g3.num 78 rfl, s2_78, t17], by rw [g3.num 79 rfl, s2_79, t17], by rw [g3.num 120 rfl, s2_120, t17], by rw [g3.num 101 rfl, s2_101, t17], by rw [g3.num 111 rfl, s2_111, t17], by rw [g3.num 121 rfl, s2_121, t17], by rw [g3.num 102 rfl, s2_102, t17], by rw [g3.num 112 rfl, s2_112, t17], by rw [g3.num 122 rfl, s2_122, t17], by rw [g3.num 103 rfl, s2_103, t17], by rw [g3.num 113 rfl, s2_113, t17], by rw [g3.num 123 rfl, s2_123, t17]⟩, fun r ha => ?_⟩
  exact loop_chain envB (ann_self _) fineCB (show (XCB ty).N = FCB.N from rfl) (Nat.le_of_ble_eq_true rfl) chC (outC Nf rfl rfl) ha (hX := GlOk.of (by kernel_rfl) (by kernel_rfl))
set_option maxHeartbeats 8000000 in
theorem postL2 {T1 : Sy} (ty : TypeId) (R : RNm T1 (T1.ρ 17)) (hd : T1.ρ 20 = 2) (g : Int → Int) (hg : ∀ j : Int, 0 ≤ j → j < T1.ρ 17 → g (22 + T1.ρ 5 + j) = T1.Φ 63 [22 + T1.ρ 5 + j]) : ∃ T2 T, T2.ρ 83 = 0 ∧ (∀ j : Int, T2.Φ 65 [j] = g j) ∧ Stay [83, 84, 85, 88] [] T2 T ∧ Stay [77, 78, 79, 83, 84, 85, 88, 101, 102, 103, 104, 105, 106, 107, 111, 112, 113, 114, 115, 116, 117, 120, 121, 122, 123, 124, 125, 126, 127] [65] T1 T ∧ TNm2 T ∧ ∀ r, AsgOk T T2 (askC r) → LkAt Tryd.prog T (gsT ty) (.loop (cAt Tryd.prog lpCB)) (lkC r ty) := by
  have hK1 := R.geo.K
  obtain ⟨T2, hT2⟩ : ∃ T : Sy, T = T1.set (upd T1.ρ [(77, 8 * T1.ρ 17), (78, 64 * T1.ρ 17), (79, 64 * T1.ρ 17 + 64), (120, 64 * T1.ρ 17 + 24), (101, 8 * T1.ρ 17 + 3), (111, 64 * T1.ρ 17 + 24), (121, 64 * T1.ρ 17 + 48), (83, 0), (88, 22 + T1.ρ 5), (84, (T1.ρ 20) % 4 + 1), (85, (T1.ρ 20) % 4)]) [(65, g)] 60 rfl hK1 := ⟨_, rfl⟩
  have q2 : Stay [77, 78, 79, 83, 84, 85, 88, 101, 102, 103, 104, 105, 106, 107, 111, 112, 113, 114, 115, 116, 117, 120, 121, 122, 123, 124, 125, 126, 127] [65] T1 T2 := by rw [hT2]; exact stay_weak ((Stay.refl [77, 78, 79, 120, 101, 111, 121, 83, 88, 84, 85] [65] _).set rfl rfl) rfl rfl
  have s2_77 : T2.ρ 77 = 8 * T1.ρ 17 := by rw [hT2]; rfl
  have s2_78 : T2.ρ 78 = 64 * T1.ρ 17 := by rw [hT2]; rfl
  have s2_79 : T2.ρ 79 = 64 * T1.ρ 17 + 64 := by rw [hT2]; rfl
  have s2_120 : T2.ρ 120 = 64 * T1.ρ 17 + 24 := by rw [hT2]; rfl
  have s2_101 : T2.ρ 101 = 8 * T1.ρ 17 + 3 := by rw [hT2]; rfl
  have s2_111 : T2.ρ 111 = 64 * T1.ρ 17 + 24 := by rw [hT2]; rfl
  have s2_121 : T2.ρ 121 = 64 * T1.ρ 17 + 48 := by rw [hT2]; rfl
  have s2_83 : T2.ρ 83 = 0 := by rw [hT2]; rfl
  have s2_88 : T2.ρ 88 = 22 + T1.ρ 5 := by rw [hT2]; rfl
  have s2_84 : T2.ρ 84 = (T1.ρ 20) % 4 + 1 := by rw [hT2]; rfl
  have s2_85 : T2.ρ 85 = (T1.ρ 20) % 4 := by rw [hT2]; rfl
  have z2_65 : ∀ j : Int, T2.Φ 65 [j] = g j := by rw [hT2]; intro j; rfl
  clear hT2
  have g2 : GeoS T2 := R.geo.stay q2 rfl rfl
  have x5 : T2.ρ 5 = T1.ρ 5 := q2.num 5 rfl
  have x17 : T2.ρ 17 = T1.ρ 17 := q2.num 17 rfl
  have x20 : T2.ρ 20 = T1.ρ 20 := q2.num 20 rfl
  have n1 := R.geo.n; have hw1 := R.geo.w; have hi1 := R.i0
  have NC0 : InvC T2 0 := by
    refine ⟨g2, by omega, by rw [x17]; omega, s2_83, by rw [s2_88, x5]; omega, by rw [s2_84, x20, Int.add_zero], by rw [s2_85, x20, Int.add_zero], fun j h0 h1 => ?_⟩
    rw [x17] at h1
    rw [z2_65, x5, x20, hg j h0 h1]
    exact R.mem.bw j h0 h1
  obtain ⟨T, chC, Nf, g3⟩ := chainC (ty := ty) (T2.ρ 17).toNat T2 0 NC0 (by omega)
  have p2 := q2.trans g3
  have y13 : Stay [77, 78, 79, 83, 84, 85, 88, 101, 102, 103, 104, 105, 106, 107, 111, 112, 113, 114, 115, 116, 117, 120, 121, 122, 123, 124, 125, 126, 127] [65] T1 T := stay_weak p2 rfl rfl
  have gT : GeoS T := R.geo.stay y13 rfl rfl
  have t5 : T.ρ 5 = T1.ρ 5 := y13.num 5 rfl
  have t17 : T.ρ 17 = T1.ρ 17 := y13.num 17 rfl
  have t20 : T.ρ 20 = T1.ρ 20 := y13.num 20 rfl
  have t23 : T.ρ 23 = T1.ρ 23 := y13.num 23 rfl
  have t24 : T.ρ 24 = T1.ρ 24 := y13.num 24 rfl
  have t66 : T.ρ 66 = T1.ρ 66 := y13.num 66 rfl
  have t67 : T.ρ 67 = T1.ρ 67 := y13.num 67 rfl
  have t68 : T.ρ 68 = T1.ρ 68 := y13.num 68 rfl
  have t69 : T.ρ 69 = T1.ρ 69 := y13.num 69 rfl
  have t75 : T.ρ 75 = T1.ρ 75 := y13.num 75 rfl
  have t76 : T.ρ 76 = T1.ρ 76 := y13.num 76 rfl
  have t44 : T.ρ 44 = T1.ρ 44 := y13.num 44 rfl
  have t45 : T.ρ 45 = T1.ρ 45 := y13.num 45 rfl
  have t70 : T.ρ 70 = T1.ρ 70 := y13.num 70 rfl
  have t71 : T.ρ 71 = T1.ρ 71 := y13.num 71 rfl
  have t72 : T.ρ 72 = T1.ρ 72 := y13.num 72 rfl
  have t73 : T.ρ 73 = T1.ρ 73 := y13.num 73 rfl
  have t74 : T.ρ 74 = T1.ρ 74 := y13.num 74 rfl
  have RT : RNm T (T.ρ 17) := ⟨gT, by rw [t17]; exact R.i0, by rw [t17, t5]; exact R.hin, by rw [t17]; exact R.mem.of t5 t20 (fun j => y13.fn 63 rfl [j]), by rw [t23, t17]; exact R.e23, by rw [t24, t5, t17]; exact R.e24, by rw [t66, t17]; exact R.e66, by rw [t67, t5, t17]; exact R.e67, by rw [t68, t67]; exact R.e68, by rw [t69, t17]; exact R.e69, by rw [t75, t5, t17]; exact R.e75, by rw [t76, t5, t17]; exact R.e76, by rw [t44, t5]; exact R.e44, by rw [t45, t5]; exact R.e45, by rw [t70, t5, t17]; exact R.e70, by rw [t71, t5]; exact R.e71, by rw [t72, t17]; exact R.e72, by rw [t73, t5, t17]; exact R.e73, by rw [t74, t73]; exact R.e74⟩
  refine ⟨T2, T, s2_83, z2_65, g3, y13, ⟨RT, by rw [t20]; exact hd, by rw [g3.num 77 rfl, s2_77, t17], by rw [g3.num 78 rfl, s2_78, t17], by rw [g3.num 79 rfl, s2_79, t17], by rw [g3.num 120 rfl, s2_120, t17], by rw [g3.num 101 rfl, s2_101, t17], by rw [g3.num 111 rfl, s2_111, t17], by rw [g3.num 121 rfl, s2_121, t17]⟩, fun r ha => ?_⟩
  exact loop_chain envB (ann_self _) fineCB (show (XCB ty).N = FCB.N from rfl) (Nat.le_of_ble_eq_true rfl) chC (outC Nf rfl rfl) ha (hX := GlOk.of (by kernel_rfl) (by kernel_rfl))
set_option maxHeartbeats 8000000 in
theorem postL3 {T1 : Sy} (ty : TypeId) (R : RNm T1 (T1.ρ 17)) (hd : T1.ρ 20 = 3) (g : Int → Int) (hg : ∀ j : Int, 0 ≤ j → j < T1.ρ 17 → g (22 + T1.ρ 5 + j) = T1.Φ 63 [22 + T1.ρ 5 + j]) : ∃ T2 T, T2.ρ 83 = 0 ∧ (∀ j : Int, T2.Φ 65 [j] = g j) ∧ Stay [83, 84, 85, 88] [] T2 T ∧ Stay [77, 78, 79, 83, 84, 85, 88, 101, 102, 103, 104, 105, 106, 107, 111, 112, 113, 114, 115, 116, 117, 120, 121, 122, 123, 124, 125, 126, 127] [65] T1 T ∧ TNm3 T ∧ ∀ r, AsgOk T T2 (askC r) → LkAt Tryd.prog T (gsT ty) (.loop (cAt Tryd.prog lpCB)) (lkC r ty) := by
  have hK1 := R.geo.K
  obtain ⟨T2, hT2⟩ : ∃ T : Sy, T = T1.set (upd T1.ρ [(77, 8 * T1.ρ 17), (78, 64 * T1.ρ 17), (79, 64 * T1.ρ 17 + 64), (120, 64 * T1.ρ 17 + 32), (101, 8 * T1.ρ 17 + 4), (111, 64 * T1.ρ 17 + 32), (121, 64 * T1.ρ 17 + 64), (83, 0), (88, 22 + T1.ρ 5), (84, (T1.ρ 20) % 4 + 1), (85, (T1.ρ 20) % 4)]) [(65, g)] 60 rfl hK1 := ⟨_, rfl⟩
  have q2 : Stay [77, 78, 79, 83, 84, 85, 88, 101, 102, 103, 104, 105, 106, 107, 111, 112, 113, 114, 115, 116, 117, 120, 121, 122, 123, 124, 125, 126, 127] [65] T1 T2 := by rw [hT2]; exact stay_weak ((Stay.refl [77, 78, 79, 120, 101, 111, 121, 83, 88, 84, 85] [65] _).set rfl rfl) rfl rfl
  have s2_77 : T2.ρ 77 = 8 * T1.ρ 17 := by rw [hT2]; rfl
  have s2_78 : T2.ρ 78 = 64 * T1.ρ 17 := by rw [hT2]; rfl
  have s2_79 : T2.ρ 79 = 64 * T1.ρ 17 + 64 := by rw [hT2]; rfl
  have s2_120 : T2.ρ 120 = 64 * T1.ρ 17 + 32 := by rw [hT2]; rfl
  have s2_101 : T2.ρ 101 = 8 * T1.ρ 17 + 4 := by rw [hT2]; rfl
  have s2_111 : T2.ρ 111 = 64 * T1.ρ 17 + 32 := by rw [hT2]; rfl
  have s2_121 : T2.ρ 121 = 64 * T1.ρ 17 + 64 := by rw [hT2]; rfl
  have s2_83 : T2.ρ 83 = 0 := by rw [hT2]; rfl
  have s2_88 : T2.ρ 88 = 22 + T1.ρ 5 := by rw [hT2]; rfl
  have s2_84 : T2.ρ 84 = (T1.ρ 20) % 4 + 1 := by rw [hT2]; rfl
  have s2_85 : T2.ρ 85 = (T1.ρ 20) % 4 := by rw [hT2]; rfl
  have z2_65 : ∀ j : Int, T2.Φ 65 [j] = g j := by rw [hT2]; intro j; rfl
  clear hT2
  have g2 : GeoS T2 := R.geo.stay q2 rfl rfl
  have x5 : T2.ρ 5 = T1.ρ 5 := q2.num 5 rfl
  have x17 : T2.ρ 17 = T1.ρ 17 := q2.num 17 rfl
  have x20 : T2.ρ 20 = T1.ρ 20 := q2.num 20 rfl
  have n1 := R.geo.n; have hw1 := R.geo.w; have hi1 := R.i0
  have NC0 : InvC T2 0 := by
    refine ⟨g2, by omega, by rw [x17]; omega, s2_83, by rw [s2_88, x5]; omega, by rw [s2_84, x20, Int.add_zero], by rw [s2_85, x20, Int.add_zero], fun j h0 h1 => ?_⟩
    rw [x17] at h1
    rw [z2_65, x5, x20, hg j h0 h1]
    exact R.mem.bw j h0 h1
  obtain ⟨T, chC, Nf, g3⟩ := chainC (ty := ty) (T2.ρ 17).toNat T2 0 NC0 (by omega)
  have p2 := q2.trans g3
  have y13 : Stay [77, 78, 79, 83, 84, 85, 88, 101, 102, 103, 104, 105, 106, 107, 111, 112, 113, 114, 115, 116, 117, 120, 121, 122, 123, 124, 125, 126, 127] [65] T1 T := stay_weak p2 rfl rfl
  have gT : GeoS T := R.geo.stay y13 rfl rfl
  have t5 : T.ρ 5 = T1.ρ 5 := y13.num 5 rfl
  have t17 : T.ρ 17 = T1.ρ 17 := y13.num 17 rfl
  have t20 : T.ρ 20 = T1.ρ 20 := y13.num 20 rfl
  have t23 : T.ρ 23 = T1.ρ 23 := y13.num 23 rfl
  have t24 : T.ρ 24 = T1.ρ 24 := y13.num 24 rfl
  have t66 : T.ρ 66 = T1.ρ 66 := y13.num 66 rfl
  have t67 : T.ρ 67 = T1.ρ 67 := y13.num 67 rfl
  have t68 : T.ρ 68 = T1.ρ 68 := y13.num 68 rfl
  have t69 : T.ρ 69 = T1.ρ 69 := y13.num 69 rfl
  have t75 : T.ρ 75 = T1.ρ 75 := y13.num 75 rfl
  have t76 : T.ρ 76 = T1.ρ 76 := y13.num 76 rfl
  have t44 : T.ρ 44 = T1.ρ 44 := y13.num 44 rfl
  have t45 : T.ρ 45 = T1.ρ 45 := y13.num 45 rfl
  have t70 : T.ρ 70 = T1.ρ 70 := y13.num 70 rfl
  have t71 : T.ρ 71 = T1.ρ 71 := y13.num 71 rfl
  have t72 : T.ρ 72 = T1.ρ 72 := y13.num 72 rfl
  have t73 : T.ρ 73 = T1.ρ 73 := y13.num 73 rfl
  have t74 : T.ρ 74 = T1.ρ 74 := y13.num 74 rfl
  have RT : RNm T (T.ρ 17) := ⟨gT, by rw [t17]; exact R.i0, by rw [t17, t5]; exact R.hin, by rw [t17]; exact R.mem.of t5 t20 (fun j => y13.fn 63 rfl [j]), by rw [t23, t17]; exact R.e23, by rw [t24, t5, t17]; exact R.e24, by rw [t66, t17]; exact R.e66, by rw [t67, t5, t17]; exact R.e67, by rw [t68, t67]; exact R.e68, by rw [t69, t17]; exact R.e69, by rw [t75, t5, t17]; exact R.e75, by rw [t76, t5, t17]; exact R.e76, by rw [t44, t5]; exact R.e44, by rw [t45, t5]; exact R.e45, by rw [t70, t5, t17]; exact R.e70, by rw [t71, t5]; exact R.e71, by rw [t72, t17]; exact R.e72, by rw [t73, t5, t17]; exact R.e73, by rw [t74, t73]; exact R.e74⟩
  refine ⟨T2, T, s2_83, z2_65, g3, y13, ⟨RT, by rw [t20]; exact hd, by rw [g3.num 77 rfl, s2_77, t17], by rw [g3.num 78 rfl, s2_78, t17], by rw [g3.num 79 rfl, s2_79, t17], by rw [g3.num 120 rfl, s2_120, t17], by rw [g3.num 101 rfl, s2_101, t17], by rw [g3.num 111 rfl, s2_111, t17], by rw [g3.num 121 rfl, s2_121, t17]⟩, fun r ha => ?_⟩
  exact loop_chain envB (ann_self _) fineCB (show (XCB ty).N = FCB.N from rfl) (Nat.le_of_ble_eq_true rfl) chC (outC Nf rfl rfl) ha (hX := GlOk.of (by kernel_rfl) (by kernel_rfl))
structure Giv (SS : Sy) : Prop where
  g : GeoS SS
  h2 : 0 ≤ SS.ρ 2
  e5 : SS.ρ 5 = SS.ρ 2 % 20 + 1
  h3 : 0 ≤ SS.ρ 3 ∧ SS.ρ 3 < 256
  e17 : SS.ρ 17 = SS.ρ 3 % SS.ρ 5
  h4 : 0 ≤ SS.ρ 4
  e20 : SS.ρ 20 = SS.ρ 4 % 4
  e45 : SS.ρ 45 = SS.ρ 5 - 1
  e71 : SS.ρ 71 = 21 + SS.ρ 5
  e62 : SS.ρ 62 = lg (SS.ρ 5)
  e64 : SS.ρ 64 = 7 + SS.ρ 62
  h9 : SS.Φ 9 [] = 1
noncomputable def alHd : List (Nat × Value) := (awT.enc, .bool true) :: (alWL ++ (alGL ++ alLL))
theorem alHd_ok {SS T : Sy} (v : Giv SS) (gT : GeoS T) (p : Stay [21, 22, 23, 24, 27, 28, 29, 44, 45, 50, 51, 66, 67, 68, 69, 70, 71, 72, 73, 74, 75, 76, 77, 78, 79, 83, 84, 85, 88, 101, 102, 103, 104, 105, 106, 107, 111, 112, 113, 114, 115, 116, 117, 120, 121, 122, 123, 124, 125, 126, 127] [60, 61, 63, 65] SS T) : AlOk T alHd := by
  have u2 : T.ρ 2 = SS.ρ 2 := p.num 2 rfl
  have u3 : T.ρ 3 = SS.ρ 3 := p.num 3 rfl
  have u4 : T.ρ 4 = SS.ρ 4 := p.num 4 rfl
  have u5 : T.ρ 5 = SS.ρ 5 := p.num 5 rfl
  have u17 : T.ρ 17 = SS.ρ 17 := p.num 17 rfl
  have u20 : T.ρ 20 = SS.ρ 20 := p.num 20 rfl
  exact ai awT true (aw_den ((p.fn 9 rfl []).trans v.h9)) (AlOk.app (alW_ok gT (by rw [u2]; exact v.h2) (by rw [u5, u2]; exact v.e5) (by rw [u3]; exact v.h3) (by rw [u17, u3, u5]; exact v.e17) (by rw [u4]; exact v.h4) (by rw [u20, u4]; exact v.e20)) (AlOk.app (alG_ok gT) (alL_ok gT)))
noncomputable def csW (l : List Ctr) : List Ctr := cAw :: l
theorem csW_ok {T : Sy} {l : List Ctr} (ty : TypeId) (h9 : T.Φ 9 [] = 1) (h : ∀ c ∈ l, CtrOk Tryd.prog T (gsT ty) c) : ∀ c ∈ csW l, CtrOk Tryd.prog T (gsT ty) c := fun c hc => by
  rcases List.mem_cons.1 hc with rfl | hc
  · exact cAw_ok ty T h9
  · exact h c hc
theorem alJ0_of {SS T : Sy} (v : Giv SS) {i : Int} (R : RNm T i) (p : Stay [21, 22, 23, 24, 27, 28, 29, 44, 45, 50, 51, 66, 67, 68, 69, 70, 71, 72, 73, 74, 75, 76, 77, 78, 79, 83, 84, 85, 88, 101, 102, 103, 104, 105, 106, 107, 111, 112, 113, 114, 115, 116, 117, 120, 121, 122, 123, 124, 125, 126, 127] [60, 61, 63, 65] SS T) (hm : SS.ρ 5 = 1) : AlOk T alJ0L := by
  have u5 : T.ρ 5 = SS.ρ 5 := p.num 5 rfl
  have u62 : T.ρ 62 = SS.ρ 62 := p.num 62 rfl
  have u64 : T.ρ 64 = SS.ρ 64 := p.num 64 rfl
  exact alJ0_ok R.geo (by rw [u5]; exact hm) R.e45 R.e71 (by rw [u62, u5]; exact v.e62) (by rw [u64, u62]; exact v.e64)
theorem alJ1_of {SS T : Sy} (v : Giv SS) {i : Int} (R : RNm T i) (p : Stay [21, 22, 23, 24, 27, 28, 29, 44, 45, 50, 51, 66, 67, 68, 69, 70, 71, 72, 73, 74, 75, 76, 77, 78, 79, 83, 84, 85, 88, 101, 102, 103, 104, 105, 106, 107, 111, 112, 113, 114, 115, 116, 117, 120, 121, 122, 123, 124, 125, 126, 127] [60, 61, 63, 65] SS T) (hm : 1 < SS.ρ 5) : AlOk T alJ1L := by
  have u5 : T.ρ 5 = SS.ρ 5 := p.num 5 rfl
  have u62 : T.ρ 62 = SS.ρ 62 := p.num 62 rfl
  have u64 : T.ρ 64 = SS.ρ 64 := p.num 64 rfl
  exact alJ1_ok R.geo (by rw [u5]; exact hm) R.e45 R.e71 (by rw [u62, u5]; exact v.e62) (by rw [u64, u62]; exact v.e64)
def LawIs (SS : Sy) (ty : TypeId) : Prop := ∀ w : World, GOk Tryd.prog (gsT ty) w → Calls Tryd.prog 3 #[.int .u8 (SS.ρ 2), .int .u8 (SS.ρ 3), .int .u8 (SS.ρ 4)] w fun e w' => e = .returned (.bool true) ∧ Quiet w w'
theorem lawBy {SS T : Sy} {ty : TypeId} (v : Giv SS) (gT : GeoS T) (p : Stay [21, 22, 23, 24, 27, 28, 29, 44, 45, 50, 51, 66, 67, 68, 69, 70, 71, 72, 73, 74, 75, 76, 77, 78, 79, 83, 84, 85, 88, 101, 102, 103, 104, 105, 106, 107, 111, 112, 113, 114, 115, 116, 117, 120, 121, 122, 123, 124, 125, 126, 127] [60, 61, 63, 65] SS T) {al : List (Nat × Value)} (hal : AlOk T al) {cs : List Ctr} (hcs : ∀ c ∈ cs, CtrOk Tryd.prog T (gsT ty) c) {f1 f2 f3 : Fr → Heap → Option (AExit × Fr × Heap)}
    (h1 : LkAt Tryd.prog T (gsT ty) (.loop (cAt Tryd.prog lpOB)) f1) (h2 : LkAt Tryd.prog T (gsT ty) (.loop (cAt Tryd.prog lpBB)) f2) (h3 : LkAt Tryd.prog T (gsT ty) (.loop (cAt Tryd.prog lpCB)) f3)
    (hr : ∀ G, outV (runM Tryd.prog ΛB (lkL [f1, f2, f3]) ftB hal (csW cs) G 1000 (.fn 3 [vv .u8 2, vv .u8 3, vv .u8 4].toArray) (H0g Tryd.prog (gsT ty))) = some (bundle [.bool true])) : LawIs SS ty := fun w hw => by
  have hlk := LkOk.all (P := Tryd.prog) (S := T) (gs := gsT ty) (ms := [lpOB, lpBB, lpCB]) (fs := [f1, f2, f3]) ⟨⟨_, codeOB, h1⟩, ⟨_, codeBB, h2⟩, ⟨_, codeCB, h3⟩, trivial⟩
  exact symRunI envB hal (csW_ok ty ((p.fn 9 rfl []).trans v.h9) hcs) hlk (n := 1000) (args := [vv .u8 2, vv .u8 3, vv .u8 4]) (args' := [.int .u8 (SS.ρ 2), .int .u8 (SS.ρ 3), .int .u8 (SS.ρ 4)]) (res := [.one .bool]) (vs := [.bool true]) (rcs := [litB true]) (rs := [1]) rfl ⟨ev_litB _ true, trivial⟩ hr (fun G ι => vs_sym (p.num 2 rfl) (vs_sym (p.num 3 rfl) (vs_sym (p.num 4 rfl) vs_nil))) w hw (by rw [gT.I]; intro b o h; simp [inpL] at h)
end Go.Proofs.YtgokpcaijabhoaaDoor
