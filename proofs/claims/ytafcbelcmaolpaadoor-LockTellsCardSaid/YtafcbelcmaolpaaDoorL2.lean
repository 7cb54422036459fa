/-
  Stage 7: the loops of LockTells. Conditions: those each says.
-/
import Derived.Test.YtafcbelcmaolpaaDoorL1
namespace Go.Proofs.YtafcbelcmaolpaaDoor
open Go.Ev Go.RowKit
set_option maxRecDepth 100000
def owT (b i : Nat) : Value := .float .f32 (mk 3 0 b (i * 512 + 3))
noncomputable def rwWT (f : Nat) : Blk := .arr ⟨6 * 512 + 3, .var f, .u64, 32⟩
noncomputable def rwBT (f : Nat) : Blk := .arr ⟨7 * 512 + 3, .var f, .u8, 5⟩
noncomputable def mOT (a b : Nat) : Blk := .cells (mkCells #[owT a 6, owT b 7] 76)
noncomputable def gBT : Blk := .cells (mkCells #[vv .i64 8, .int .i64 64, .int .i64 0, .int .i64 1, .int .i64 2, .int .i64 7, .int .i64 16, .int .i64 17, .int .i64 21, .int .i64 85, vv .i64 31, vv .i64 32, vv .i64 33, vv .i64 34, vv .i64 35, vv .i64 36, vv .i64 37, vv .i64 38, vv .i64 39, vv .i64 40, vv .i64 41, vv .i64 6] 24)
noncomputable def tBT (ty : TypeId) : Blk := .cells (mkCells tab ty)
noncomputable def hMT (ty : TypeId) : List (Nat × Blk) := [(0, (tBT ty)), (85, rwWT 60), (86, rwBT 61), (87, mOT 85 86), (88, gBT)]
noncomputable def hAT (ty : TypeId) : List (Nat × Blk) := (hMT ty) ++ [(99, rwWT 62), (101, rwBT 63), (104, rwWT 64), (106, rwBT 65)]
noncomputable def XAT (ty : TypeId) : Pat := ⟨26, 152, [(0, owT 99 6), (1, owT 104 6), (12, vv .i64 6), (13, vv .i64 10)], (hAT ty)⟩
noncomputable def FAT (ty : TypeId) : Pat := ⟨26, 152, [], (hAT ty)⟩
noncomputable def XBT (ty : TypeId) : Pat := ⟨26, 152, [(0, owT 101 7), (1, owT 106 7), (12, vv .i64 7), (13, vv .i64 11)], (hAT ty)⟩
noncomputable def FBT (ty : TypeId) : Pat := ⟨26, 152, [], (hMT ty)⟩
noncomputable def hCT (ty : TypeId) : List (Nat × Blk) := (hMT ty) ++ [(153, rwWT 66), (155, rwBT 67), (158, rwWT 68), (160, rwBT 69)]
noncomputable def XCT (ty : TypeId) : Pat := ⟨26, 200, [(0, owT 153 6), (1, owT 158 6), (12, vv .i64 6), (13, vv .i64 12)], (hCT ty)⟩
noncomputable def FCT (ty : TypeId) : Pat := ⟨26, 200, [], (hCT ty)⟩
noncomputable def XDT (ty : TypeId) : Pat := ⟨26, 200, [(0, owT 155 7), (1, owT 160 7), (12, vv .i64 7), (13, vv .i64 13)], (hCT ty)⟩
noncomputable def FDT : Pat := ⟨26, 200, [], []⟩
def pTT : Tm := .bin .add (.conv .i64 (.bin .rem (.var .u8 2) (.lit .u8 8))) (.lit .i64 1)
def nTT : Tm := .conv .i64 (.bin .rem (.var .u8 3) (.lit .u8 64))
def wTT : Tm := (.bin .add (.bin .add (.bin .add (.bin .add (.bin .add (.bin .add (.bin .add (.bin .add (.bin .add (.bin .add (.bin .add (.bin .add (.lit .i64 85) (.bin .mul (.bin .mul (.bin .mul (.lit .i64 1) (.var .i64 8)) (.lit .i64 1)) (.lit .i64 1))) (.bin .mul (.bin .mul (.bin .mul (.lit .i64 1) (.var .i64 8)) (.lit .i64 1)) (.lit .i64 1))) (.bin .mul (.bin .mul (.bin .mul (.lit .i64 1) (.var .i64 8)) (.lit .i64 1)) (.lit .i64 1))) (.bin .mul (.bin .mul (.bin .mul (.lit .i64 1) (.bin .mul (.var .i64 8) (.lit .i64 8))) (.lit .i64 1)) (.lit .i64 1))) (.bin .mul (.bin .mul (.bin .mul (.lit .i64 1) (.bin .mul (.var .i64 8) (.lit .i64 8))) (.lit .i64 1)) (.lit .i64 1))) (.lit .i64 512)) (.lit .i64 256)) (.lit .i64 128)) (.lit .i64 64)) (.lit .i64 8320)) (.bin .mul (.bin .mul (.bin .mul (.lit .i64 1) (.bin .add (.bin .mul (.lit .i64 256) (.bin .add (.var .i64 8) (.lit .i64 1))) (.lit .i64 8384))) (.lit .i64 1)) (.lit .i64 1))) (.bin .mul (.bin .mul (.bin .mul (.lit .i64 1) (.bin .add (.bin .mul (.lit .i64 256) (.bin .add (.var .i64 8) (.lit .i64 1))) (.lit .i64 8384))) (.lit .i64 8)) (.lit .i64 1)))
def bTT : Tm := .bin .mul (.lit .i64 64) (.var .i64 8)
def cTT : Tm := .bin .add (.conv .u64 (.var .i64 5)) (.lit .u64 1)
def lpT0 : Mrk := (34, [1, 1, 0, 1, 0])
def lpT1 : Mrk := (35, [1, 1, 0, 1, 0])
noncomputable abbrev ΛT : Nat → Option Code := lamOf Tryd.prog [lpT0, lpT1]
noncomputable abbrev ftT : Nat → Option Func := ftM Tryd.prog [lpT0, lpT1]
theorem envT : @EnvOk ⟨ΛT⟩ Tryd.prog ftT := envM env [lpT0, lpT1] (by kernel_rfl)
theorem codeT0 : codeAt Tryd.prog lpT0 = some (.loop (cAt Tryd.prog lpT0)) := by kernel_rfl
theorem fineT0 : fineC Tryd.prog.globals.size (cAt Tryd.prog lpT0) = true := by kernel_rfl
theorem codeT1 : codeAt Tryd.prog lpT1 = some (.loop (cAt Tryd.prog lpT1)) := by kernel_rfl
theorem fineT1 : fineC Tryd.prog.globals.size (cAt Tryd.prog lpT1) = true := by kernel_rfl
def wTA0 : Tm := (.bin .lss (.var .i64 10) (.var .i64 6))
def wTA1 : Tm := (.bin .geq (.var .i64 10) (.lit .i64 0))
def wTA2 : Tm := (.bin .neq (.app .u64 62 (.cons (.var .i64 10) .nil)) (.app .u64 64 (.cons (.var .i64 10) .nil)))
section
variable (ty : TypeId) (S : Sy) (n : Nat)
abbrev RTA : Sy → Sy → Prop := StepTo Tryd.prog ftT ΛT (gsT ty) (cAt Tryd.prog lpT0) (XAT ty) (FAT ty) 152
def InvTA (k : Nat) (S1 : Sy) : Prop := ∃ i : Nat, i ≤ n ∧ k = n - i ∧ S1.ρ 10 = i ∧ Stay [10] [] S S1
def FinTA (k : Nat) (S1 : Sy) : Prop := k = 0 ∧ ∀ T, Same [6, 7, 41, 40, 39, 38, 37, 36, 35, 34, 33, 32, 31, 8] [60, 61, 62, 63, 64, 65] S1 T → StepOut Tryd.prog ftT ΛT (gsT ty) (cAt Tryd.prog lpT0) (XAT ty) (FAT ty) (.exit 0) 152 S1 T
set_option maxHeartbeats 4000000 in
theorem stepTA (hn : n < 9223372036854775807) (hb : S.ρ 6 = n) (hr : ∀ j : Int, S.Φ 62 [j] = S.Φ 64 [j]) (hK0 : ∀ x ∈ S.I, x.f + x.ks.length ≤ 60) (k : Nat) (S1 : Sy) (hi : InvTA S n k S1) : (∃ k' S2, k = k' + 1 ∧ InvTA S n k' S2 ∧ RTA ty S1 S2) ∨ FinTA ty k S1 := by
  obtain ⟨i, hin, rfl, hiv, fr⟩ := hi
  have hcs : ∀ c ∈ ([] : List Ctr), CtrOk Tryd.prog S1 (gsT ty) c := fun c hc => by simp at hc
  have hK : ∀ x ∈ S1.I, x.f + x.ks.length ≤ 60 := by rw [fr.1]; exact hK0
  have e6 := fr.num 6 rfl
  have k0 : S1.Φ 62 [S1.ρ 10] = S1.Φ 64 [S1.ρ 10] := by rw [fr.fn 62 rfl, fr.fn 64 rfl]; exact hr _
  by_cases c0 : S1.ρ 10 < S1.ρ 6
  · have d0 : wTA0.den S1 = some [b2i true] := tr (p := S1.ρ 10 < S1.ρ 6) c0
    have c1 : ¬ (S1.ρ 10 < (0 : Int)) := by omega
    have d1 : wTA1.den S1 = some [b2i true] := tr (p := (0 : Int) ≤ S1.ρ 10) (Int.not_lt.1 c1)
    have c2 : (S1.Φ 62 [S1.ρ 10]) = (S1.Φ 64 [S1.ρ 10]) := by omega
    have d2 : wTA2.den S1 = some [b2i false] := fls (p := (S1.Φ 62 [S1.ρ 10]) ≠ (S1.Φ 64 [S1.ρ 10])) (fun hh => hh c2)
    obtain ⟨o10, h_o10⟩ : ∃ o : Int, o = (IntKind.i64.wrap (S1.ρ 10 + (1 : Int))) := ⟨_, rfl⟩
    have u10 := h_o10
    rw [w_i64 (by omega) (by omega)] at u10
    have inv : InvTA S n (n - (i + 1)) (S1.set (upd S1.ρ [(10, o10)]) [] 60 rfl hK) := ⟨i + 1, by omega, rfl, (show o10 = ((i + 1 : Nat) : Int) by omega), fr.set rfl rfl⟩
    exact .inl ⟨_, _, (by omega : n - i = n - (i + 1) + 1), inv, _, [], _, 1000, _, [], (ai wTA2 false d2 (ai wTA1 true d1 (ai wTA0 true d0 (AlOk.nil _)))), hcs, LkOk.no _ _ _ _, (av 6 .i64 (av 6 .i64 (av 6 .i64 (an 10 (.bin .add (.var .i64 10) (.lit .i64 1)) (sm h_o10.symm) (av 6 .i64 (ar 60 (ar_var 60) (av 7 .i64 (ar 61 (ar_var 61) (av 7 .i64 (av 6 .i64 (av 6 .i64 (av 41 .i64 (av 40 .i64 (av 39 .i64 (av 38 .i64 (av 37 .i64 (av 36 .i64 (av 35 .i64 (av 34 .i64 (av 33 .i64 (av 32 .i64 (av 31 .i64 (av 8 .i64 (av 6 .i64 (ar 62 (ar_var 62) (av 7 .i64 (ar 63 (ar_var 63) (av 6 .i64 (ar 64 (ar_var 64) (av 7 .i64 (ar 65 (ar_var 65) (asg_nil rfl)))))))))))))))))))))))))))))))), fun G => by kernel_rfl⟩
  · have d0 : wTA0.den S1 = some [b2i false] := fls (p := S1.ρ 10 < S1.ρ 6) c0
    exact .inr ⟨by omega, fun T hT => ⟨_, [], _, 1000, _, [], (ai wTA0 false d0 (AlOk.nil _)), hcs, LkOk.no _ _ _ _, (an 6 (.var .i64 6) (sm (hT.num 6 rfl)) (asg_arr (i := 60) (hT.row 60 rfl) (an 7 (.var .i64 7) (sm (hT.num 7 rfl)) (asg_arr (i := 61) (hT.row 61 rfl) (an 7 (.var .i64 7) (sm (hT.num 7 rfl)) (an 6 (.var .i64 6) (sm (hT.num 6 rfl)) (an 6 (.var .i64 6) (sm (hT.num 6 rfl)) (an 41 (.var .i64 41) (sm (hT.num 41 rfl)) (an 40 (.var .i64 40) (sm (hT.num 40 rfl)) (an 39 (.var .i64 39) (sm (hT.num 39 rfl)) (an 38 (.var .i64 38) (sm (hT.num 38 rfl)) (an 37 (.var .i64 37) (sm (hT.num 37 rfl)) (an 36 (.var .i64 36) (sm (hT.num 36 rfl)) (an 35 (.var .i64 35) (sm (hT.num 35 rfl)) (an 34 (.var .i64 34) (sm (hT.num 34 rfl)) (an 33 (.var .i64 33) (sm (hT.num 33 rfl)) (an 32 (.var .i64 32) (sm (hT.num 32 rfl)) (an 31 (.var .i64 31) (sm (hT.num 31 rfl)) (an 8 (.var .i64 8) (sm (hT.num 8 rfl)) (an 6 (.var .i64 6) (sm (hT.num 6 rfl)) (asg_arr (i := 62) (hT.row 62 rfl) (an 7 (.var .i64 7) (sm (hT.num 7 rfl)) (asg_arr (i := 63) (hT.row 63 rfl) (an 6 (.var .i64 6) (sm (hT.num 6 rfl)) (asg_arr (i := 64) (hT.row 64 rfl) (an 7 (.var .i64 7) (sm (hT.num 7 rfl)) (asg_arr (i := 65) (hT.row 65 rfl) (asg_nil hT.1)))))))))))))))))))))))))))), fun G => by kernel_rfl⟩⟩
theorem loopTA (hn : n < 9223372036854775807) (hb : S.ρ 6 = n) (hr : ∀ j : Int, S.Φ 62 [j] = S.Φ 64 [j]) (hK0 : ∀ x ∈ S.I, x.f + x.ks.length ≤ 60) (h0 : S.ρ 10 = 0) : ∃ Sf : Sy, (Sf.ρ 10 = n ∧ Stay [10] [] S Sf) ∧ ∀ T asg0, Same [6, 7, 41, 40, 39, 38, 37, 36, 35, 34, 33, 32, 31, 8] [60, 61, 62, 63, 64, 65] Sf T → AsgOk T S asg0 → LkAt Tryd.prog T (gsT ty) (.loop (cAt Tryd.prog lpT0)) (lkLoopR Tryd.prog 152 [] (XAT ty) (FAT ty) (.exit 0) asg0) := by
  obtain ⟨m, k', Sf, hc, ⟨i, hin, hk, hiv, fr⟩, hf⟩ := loop_ex (stepTA ty S n hn hb hr hK0) n S ⟨0, Nat.zero_le _, rfl, h0, Stay.refl _ _ _⟩
  have hk0 := hf.1
  obtain rfl : i = n := by omega
  exact ⟨Sf, ⟨hiv, fr⟩, fun T asg0 hs ha => loop_chain envT (ann_self _) fineT0 (show (XAT ty).N = (FAT ty).N from rfl) (Nat.le_of_ble_eq_true rfl) hc (hf.2 T hs) ha (hX := GlOk.of (by kernel_rfl) (by kernel_rfl)) (hF := GlOk.of (by kernel_rfl) (by kernel_rfl))⟩
end
def wTB0 : Tm := (.bin .lss (.var .i64 11) (.var .i64 7))
def wTB1 : Tm := (.bin .geq (.var .i64 11) (.lit .i64 0))
def wTB2 : Tm := (.bin .neq (.app .u8 63 (.cons (.var .i64 11) .nil)) (.app .u8 65 (.cons (.var .i64 11) .nil)))
section
variable (ty : TypeId) (S : Sy) (n : Nat)
abbrev RTB : Sy → Sy → Prop := StepTo Tryd.prog ftT ΛT (gsT ty) (cAt Tryd.prog lpT1) (XBT ty) (FBT ty) 152
def InvTB (k : Nat) (S1 : Sy) : Prop := ∃ i : Nat, i ≤ n ∧ k = n - i ∧ S1.ρ 11 = i ∧ Stay [11] [] S S1
def FinTB (k : Nat) (S1 : Sy) : Prop := k = 0 ∧ ∀ T, Same [6, 7, 41, 40, 39, 38, 37, 36, 35, 34, 33, 32, 31, 8] [60, 61] S1 T → StepOut Tryd.prog ftT ΛT (gsT ty) (cAt Tryd.prog lpT1) (XBT ty) (FBT ty) (.exit 0) 152 S1 T
set_option maxHeartbeats 4000000 in
theorem stepTB (hn : n < 9223372036854775807) (hb : S.ρ 7 = n) (hr : ∀ j : Int, S.Φ 63 [j] = S.Φ 65 [j]) (hK0 : ∀ x ∈ S.I, x.f + x.ks.length ≤ 60) (k : Nat) (S1 : Sy) (hi : InvTB S n k S1) : (∃ k' S2, k = k' + 1 ∧ InvTB S n k' S2 ∧ RTB ty S1 S2) ∨ FinTB ty k S1 := by
  obtain ⟨i, hin, rfl, hiv, fr⟩ := hi
  have hcs : ∀ c ∈ ([] : List Ctr), CtrOk Tryd.prog S1 (gsT ty) c := fun c hc => by simp at hc
  have hK : ∀ x ∈ S1.I, x.f + x.ks.length ≤ 60 := by rw [fr.1]; exact hK0
  have e7 := fr.num 7 rfl
  have k0 : S1.Φ 63 [S1.ρ 11] = S1.Φ 65 [S1.ρ 11] := by rw [fr.fn 63 rfl, fr.fn 65 rfl]; exact hr _
  by_cases c0 : S1.ρ 11 < S1.ρ 7
  · have d0 : wTB0.den S1 = some [b2i true] := tr (p := S1.ρ 11 < S1.ρ 7) c0
    have c1 : ¬ (S1.ρ 11 < (0 : Int)) := by omega
    have d1 : wTB1.den S1 = some [b2i true] := tr (p := (0 : Int) ≤ S1.ρ 11) (Int.not_lt.1 c1)
    have c2 : (S1.Φ 63 [S1.ρ 11]) = (S1.Φ 65 [S1.ρ 11]) := by omega
    have d2 : wTB2.den S1 = some [b2i false] := fls (p := (S1.Φ 63 [S1.ρ 11]) ≠ (S1.Φ 65 [S1.ρ 11])) (fun hh => hh c2)
    obtain ⟨o11, h_o11⟩ : ∃ o : Int, o = (IntKind.i64.wrap (S1.ρ 11 + (1 : Int))) := ⟨_, rfl⟩
    have u11 := h_o11
    rw [w_i64 (by omega) (by omega)] at u11
    have inv : InvTB S n (n - (i + 1)) (S1.set (upd S1.ρ [(11, o11)]) [] 60 rfl hK) := ⟨i + 1, by omega, rfl, (show o11 = ((i + 1 : Nat) : Int) by omega), fr.set rfl rfl⟩
    exact .inl ⟨_, _, (by omega : n - i = n - (i + 1) + 1), inv, _, [], _, 1000, _, [], (ai wTB2 false d2 (ai wTB1 true d1 (ai wTB0 true d0 (AlOk.nil _)))), hcs, LkOk.no _ _ _ _, (av 7 .i64 (av 7 .i64 (av 7 .i64 (an 11 (.bin .add (.var .i64 11) (.lit .i64 1)) (sm h_o11.symm) (av 6 .i64 (ar 60 (ar_var 60) (av 7 .i64 (ar 61 (ar_var 61) (av 7 .i64 (av 6 .i64 (av 6 .i64 (av 41 .i64 (av 40 .i64 (av 39 .i64 (av 38 .i64 (av 37 .i64 (av 36 .i64 (av 35 .i64 (av 34 .i64 (av 33 .i64 (av 32 .i64 (av 31 .i64 (av 8 .i64 (av 6 .i64 (ar 62 (ar_var 62) (av 7 .i64 (ar 63 (ar_var 63) (av 6 .i64 (ar 64 (ar_var 64) (av 7 .i64 (ar 65 (ar_var 65) (asg_nil rfl)))))))))))))))))))))))))))))))), fun G => by kernel_rfl⟩
  · have d0 : wTB0.den S1 = some [b2i false] := fls (p := S1.ρ 11 < S1.ρ 7) c0
    exact .inr ⟨by omega, fun T hT => ⟨_, [], _, 1000, _, [], (ai wTB0 false d0 (AlOk.nil _)), hcs, LkOk.no _ _ _ _, (an 6 (.var .i64 6) (sm (hT.num 6 rfl)) (asg_arr (i := 60) (hT.row 60 rfl) (an 7 (.var .i64 7) (sm (hT.num 7 rfl)) (asg_arr (i := 61) (hT.row 61 rfl) (an 7 (.var .i64 7) (sm (hT.num 7 rfl)) (an 6 (.var .i64 6) (sm (hT.num 6 rfl)) (an 6 (.var .i64 6) (sm (hT.num 6 rfl)) (an 41 (.var .i64 41) (sm (hT.num 41 rfl)) (an 40 (.var .i64 40) (sm (hT.num 40 rfl)) (an 39 (.var .i64 39) (sm (hT.num 39 rfl)) (an 38 (.var .i64 38) (sm (hT.num 38 rfl)) (an 37 (.var .i64 37) (sm (hT.num 37 rfl)) (an 36 (.var .i64 36) (sm (hT.num 36 rfl)) (an 35 (.var .i64 35) (sm (hT.num 35 rfl)) (an 34 (.var .i64 34) (sm (hT.num 34 rfl)) (an 33 (.var .i64 33) (sm (hT.num 33 rfl)) (an 32 (.var .i64 32) (sm (hT.num 32 rfl)) (an 31 (.var .i64 31) (sm (hT.num 31 rfl)) (an 8 (.var .i64 8) (sm (hT.num 8 rfl)) (asg_nil hT.1)))))))))))))))))))), fun G => by kernel_rfl⟩⟩
theorem loopTB (hn : n < 9223372036854775807) (hb : S.ρ 7 = n) (hr : ∀ j : Int, S.Φ 63 [j] = S.Φ 65 [j]) (hK0 : ∀ x ∈ S.I, x.f + x.ks.length ≤ 60) (h0 : S.ρ 11 = 0) : ∃ Sf : Sy, (Sf.ρ 11 = n ∧ Stay [11] [] S Sf) ∧ ∀ T asg0, Same [6, 7, 41, 40, 39, 38, 37, 36, 35, 34, 33, 32, 31, 8] [60, 61] Sf T → AsgOk T S asg0 → LkAt Tryd.prog T (gsT ty) (.loop (cAt Tryd.prog lpT1)) (lkLoopR Tryd.prog 152 [] (XBT ty) (FBT ty) (.exit 0) asg0) := by
  obtain ⟨m, k', Sf, hc, ⟨i, hin, hk, hiv, fr⟩, hf⟩ := loop_ex (stepTB ty S n hn hb hr hK0) n S ⟨0, Nat.zero_le _, rfl, h0, Stay.refl _ _ _⟩
  have hk0 := hf.1
  obtain rfl : i = n := by omega
  exact ⟨Sf, ⟨hiv, fr⟩, fun T asg0 hs ha => loop_chain envT (ann_self _) fineT1 (show (XBT ty).N = (FBT ty).N from rfl) (Nat.le_of_ble_eq_true rfl) hc (hf.2 T hs) ha (hX := GlOk.of (by kernel_rfl) (by kernel_rfl)) (hF := GlOk.of (by kernel_rfl) (by kernel_rfl))⟩
end
def wTC0 : Tm := (.bin .lss (.var .i64 12) (.var .i64 6))
def wTC1 : Tm := (.bin .geq (.var .i64 12) (.lit .i64 0))
def wTC2 : Tm := (.bin .neq (.app .u64 66 (.cons (.var .i64 12) .nil)) (.app .u64 68 (.cons (.var .i64 12) .nil)))
section
variable (ty : TypeId) (S : Sy) (n : Nat)
abbrev RTC : Sy → Sy → Prop := StepTo Tryd.prog ftT ΛT (gsT ty) (cAt Tryd.prog lpT0) (XCT ty) (FCT ty) 200
def InvTC (k : Nat) (S1 : Sy) : Prop := ∃ i : Nat, i ≤ n ∧ k = n - i ∧ S1.ρ 12 = i ∧ Stay [12] [] S S1
def FinTC (k : Nat) (S1 : Sy) : Prop := k = 0 ∧ ∀ T, Same [6, 7, 41, 40, 39, 38, 37, 36, 35, 34, 33, 32, 31, 8] [60, 61, 66, 67, 68, 69] S1 T → StepOut Tryd.prog ftT ΛT (gsT ty) (cAt Tryd.prog lpT0) (XCT ty) (FCT ty) (.exit 0) 200 S1 T
set_option maxHeartbeats 4000000 in
theorem stepTC (hn : n < 9223372036854775807) (hb : S.ρ 6 = n) (hr : ∀ j : Int, S.Φ 66 [j] = S.Φ 68 [j]) (hK0 : ∀ x ∈ S.I, x.f + x.ks.length ≤ 60) (k : Nat) (S1 : Sy) (hi : InvTC S n k S1) : (∃ k' S2, k = k' + 1 ∧ InvTC S n k' S2 ∧ RTC ty S1 S2) ∨ FinTC ty k S1 := by
  obtain ⟨i, hin, rfl, hiv, fr⟩ := hi
  have hcs : ∀ c ∈ ([] : List Ctr), CtrOk Tryd.prog S1 (gsT ty) c := fun c hc => by simp at hc
  have hK : ∀ x ∈ S1.I, x.f + x.ks.length ≤ 60 := by rw [fr.1]; exact hK0
  have e6 := fr.num 6 rfl
  have k0 : S1.Φ 66 [S1.ρ 12] = S1.Φ 68 [S1.ρ 12] := by rw [fr.fn 66 rfl, fr.fn 68 rfl]; exact hr _
  by_cases c0 : S1.ρ 12 < S1.ρ 6
  · have d0 : wTC0.den S1 = some [b2i true] := tr (p := S1.ρ 12 < S1.ρ 6) c0
    have c1 : ¬ (S1.ρ 12 < (0 : Int)) := by omega
    have d1 : wTC1.den S1 = some [b2i true] := tr (p := (0 : Int) ≤ S1.ρ 12) (Int.not_lt.1 c1)
    have c2 : (S1.Φ 66 [S1.ρ 12]) = (S1.Φ 68 [S1.ρ 12]) := by omega
    have d2 : wTC2.den S1 = some [b2i false] := fls (p := (S1.Φ 66 [S1.ρ 12]) ≠ (S1.Φ 68 [S1.ρ 12])) (fun hh => hh c2)
    obtain ⟨o12, h_o12⟩ : ∃ o : Int, o = (IntKind.i64.wrap (S1.ρ 12 + (1 : Int))) := ⟨_, rfl⟩
    have u12 := h_o12
    rw [w_i64 (by omega) (by omega)] at u12
    have inv : InvTC S n (n - (i + 1)) (S1.set (upd S1.ρ [(12, o12)]) [] 60 rfl hK) := ⟨i + 1, by omega, rfl, (show o12 = ((i + 1 : Nat) : Int) by omega), fr.set rfl rfl⟩
    exact .inl ⟨_, _, (by omega : n - i = n - (i + 1) + 1), inv, _, [], _, 1000, _, [], (ai wTC2 false d2 (ai wTC1 true d1 (ai wTC0 true d0 (AlOk.nil _)))), hcs, LkOk.no _ _ _ _, (av 6 .i64 (av 6 .i64 (av 6 .i64 (an 12 (.bin .add (.var .i64 12) (.lit .i64 1)) (sm h_o12.symm) (av 6 .i64 (ar 60 (ar_var 60) (av 7 .i64 (ar 61 (ar_var 61) (av 7 .i64 (av 6 .i64 (av 6 .i64 (av 41 .i64 (av 40 .i64 (av 39 .i64 (av 38 .i64 (av 37 .i64 (av 36 .i64 (av 35 .i64 (av 34 .i64 (av 33 .i64 (av 32 .i64 (av 31 .i64 (av 8 .i64 (av 6 .i64 (ar 66 (ar_var 66) (av 7 .i64 (ar 67 (ar_var 67) (av 6 .i64 (ar 68 (ar_var 68) (av 7 .i64 (ar 69 (ar_var 69) (asg_nil rfl)))))))))))))))))))))))))))))))), fun G => by kernel_rfl⟩
  · have d0 : wTC0.den S1 = some [b2i false] := fls (p := S1.ρ 12 < S1.ρ 6) c0
    exact .inr ⟨by omega, fun T hT => ⟨_, [], _, 1000, _, [], (ai wTC0 false d0 (AlOk.nil _)), hcs, LkOk.no _ _ _ _, (an 6 (.var .i64 6) (sm (hT.num 6 rfl)) (asg_arr (i := 60) (hT.row 60 rfl) (an 7 (.var .i64 7) (sm (hT.num 7 rfl)) (asg_arr (i := 61) (hT.row 61 rfl) (an 7 (.var .i64 7) (sm (hT.num 7 rfl)) (an 6 (.var .i64 6) (sm (hT.num 6 rfl)) (an 6 (.var .i64 6) (sm (hT.num 6 rfl)) (an 41 (.var .i64 41) (sm (hT.num 41 rfl)) (an 40 (.var .i64 40) (sm (hT.num 40 rfl)) (an 39 (.var .i64 39) (sm (hT.num 39 rfl)) (an 38 (.var .i64 38) (sm (hT.num 38 rfl)) (an 37 (.var .i64 37) (sm (hT.num 37 rfl)) (an 36 (.var .i64 36) (sm (hT.num 36 rfl)) (an 35 (.var .i64 35) (sm (hT.num 35 rfl)) (an 34 (.var .i64 34) (sm (hT.num 34 rfl)) (an 33 (.var .i64 33) (sm (hT.num 33 rfl)) (an 32 (.var .i64 32) (sm (hT.num 32 rfl)) (an 31 (.var .i64 31) (sm (hT.num 31 rfl)) (an 8 (.var .i64 8) (sm (hT.num 8 rfl)) (an 6 (.var .i64 6) (sm (hT.num 6 rfl)) (asg_arr (i := 66) (hT.row 66 rfl) (an 7 (.var .i64 7) (sm (hT.num 7 rfl)) (asg_arr (i := 67) (hT.row 67 rfl) (an 6 (.var .i64 6) (sm (hT.num 6 rfl)) (asg_arr (i := 68) (hT.row 68 rfl) (an 7 (.var .i64 7) (sm (hT.num 7 rfl)) (asg_arr (i := 69) (hT.row 69 rfl) (asg_nil hT.1)))))))))))))))))))))))))))), fun G => by kernel_rfl⟩⟩
theorem loopTC (hn : n < 9223372036854775807) (hb : S.ρ 6 = n) (hr : ∀ j : Int, S.Φ 66 [j] = S.Φ 68 [j]) (hK0 : ∀ x ∈ S.I, x.f + x.ks.length ≤ 60) (h0 : S.ρ 12 = 0) : ∃ Sf : Sy, (Sf.ρ 12 = n ∧ Stay [12] [] S Sf) ∧ ∀ T asg0, Same [6, 7, 41, 40, 39, 38, 37, 36, 35, 34, 33, 32, 31, 8] [60, 61, 66, 67, 68, 69] Sf T → AsgOk T S asg0 → LkAt Tryd.prog T (gsT ty) (.loop (cAt Tryd.prog lpT0)) (lkLoopR Tryd.prog 200 [] (XCT ty) (FCT ty) (.exit 0) asg0) := by
  obtain ⟨m, k', Sf, hc, ⟨i, hin, hk, hiv, fr⟩, hf⟩ := loop_ex (stepTC ty S n hn hb hr hK0) n S ⟨0, Nat.zero_le _, rfl, h0, Stay.refl _ _ _⟩
  have hk0 := hf.1
  obtain rfl : i = n := by omega
  exact ⟨Sf, ⟨hiv, fr⟩, fun T asg0 hs ha => loop_chain envT (ann_self _) fineT0 (show (XCT ty).N = (FCT ty).N from rfl) (Nat.le_of_ble_eq_true rfl) hc (hf.2 T hs) ha (hX := GlOk.of (by kernel_rfl) (by kernel_rfl)) (hF := GlOk.of (by kernel_rfl) (by kernel_rfl))⟩
end
def wTD0 : Tm := (.bin .lss (.var .i64 13) (.var .i64 7))
def wTD1 : Tm := (.bin .geq (.var .i64 13) (.lit .i64 0))
def wTD2 : Tm := (.bin .neq (.app .u8 67 (.cons (.var .i64 13) .nil)) (.app .u8 69 (.cons (.var .i64 13) .nil)))
section
variable (ty : TypeId) (S : Sy) (n : Nat)
abbrev RTD : Sy → Sy → Prop := StepTo Tryd.prog ftT ΛT (gsT ty) (cAt Tryd.prog lpT1) (XDT ty) FDT 200
def InvTD (k : Nat) (S1 : Sy) : Prop := ∃ i : Nat, i ≤ n ∧ k = n - i ∧ S1.ρ 13 = i ∧ Stay [13] [] S S1
def FinTD (k : Nat) (S1 : Sy) : Prop := k = 0 ∧ ∀ T, Same [] [] S1 T → StepOut Tryd.prog ftT ΛT (gsT ty) (cAt Tryd.prog lpT1) (XDT ty) FDT (.exit 0) 200 S1 T
set_option maxHeartbeats 4000000 in
theorem stepTD (hn : n < 9223372036854775807) (hb : S.ρ 7 = n) (hr : ∀ j : Int, S.Φ 67 [j] = S.Φ 69 [j]) (hK0 : ∀ x ∈ S.I, x.f + x.ks.length ≤ 60) (k : Nat) (S1 : Sy) (hi : InvTD S n k S1) : (∃ k' S2, k = k' + 1 ∧ InvTD S n k' S2 ∧ RTD ty S1 S2) ∨ FinTD ty k S1 := by
  obtain ⟨i, hin, rfl, hiv, fr⟩ := hi
  have hcs : ∀ c ∈ ([] : List Ctr), CtrOk Tryd.prog S1 (gsT ty) c := fun c hc => by simp at hc
  have hK : ∀ x ∈ S1.I, x.f + x.ks.length ≤ 60 := by rw [fr.1]; exact hK0
  have e7 := fr.num 7 rfl
  have k0 : S1.Φ 67 [S1.ρ 13] = S1.Φ 69 [S1.ρ 13] := by rw [fr.fn 67 rfl, fr.fn 69 rfl]; exact hr _
  by_cases c0 : S1.ρ 13 < S1.ρ 7
  · have d0 : wTD0.den S1 = some [b2i true] := tr (p := S1.ρ 13 < S1.ρ 7) c0
    have c1 : ¬ (S1.ρ 13 < (0 : Int)) := by omega
    have d1 : wTD1.den S1 = some [b2i true] := tr (p := (0 : Int) ≤ S1.ρ 13) (Int.not_lt.1 c1)
    have c2 : (S1.Φ 67 [S1.ρ 13]) = (S1.Φ 69 [S1.ρ 13]) := by omega
    have d2 : wTD2.den S1 = some [b2i false] := fls (p := (S1.Φ 67 [S1.ρ 13]) ≠ (S1.Φ 69 [S1.ρ 13])) (fun hh => hh c2)
    obtain ⟨o13, h_o13⟩ : ∃ o : Int, o = (IntKind.i64.wrap (S1.ρ 13 + (1 : Int))) := ⟨_, rfl⟩
    have u13 := h_o13
    rw [w_i64 (by omega) (by omega)] at u13
    have inv : InvTD S n (n - (i + 1)) (S1.set (upd S1.ρ [(13, o13)]) [] 60 rfl hK) := ⟨i + 1, by omega, rfl, (show o13 = ((i + 1 : Nat) : Int) by omega), fr.set rfl rfl⟩
    exact .inl ⟨_, _, (by omega : n - i = n - (i + 1) + 1), inv, _, [], _, 1000, _, [], (ai wTD2 false d2 (ai wTD1 true d1 (ai wTD0 true d0 (AlOk.nil _)))), hcs, LkOk.no _ _ _ _, (av 7 .i64 (av 7 .i64 (av 7 .i64 (an 13 (.bin .add (.var .i64 13) (.lit .i64 1)) (sm h_o13.symm) (av 6 .i64 (ar 60 (ar_var 60) (av 7 .i64 (ar 61 (ar_var 61) (av 7 .i64 (av 6 .i64 (av 6 .i64 (av 41 .i64 (av 40 .i64 (av 39 .i64 (av 38 .i64 (av 37 .i64 (av 36 .i64 (av 35 .i64 (av 34 .i64 (av 33 .i64 (av 32 .i64 (av 31 .i64 (av 8 .i64 (av 6 .i64 (ar 66 (ar_var 66) (av 7 .i64 (ar 67 (ar_var 67) (av 6 .i64 (ar 68 (ar_var 68) (av 7 .i64 (ar 69 (ar_var 69) (asg_nil rfl)))))))))))))))))))))))))))))))), fun G => by kernel_rfl⟩
  · have d0 : wTD0.den S1 = some [b2i false] := fls (p := S1.ρ 13 < S1.ρ 7) c0
    exact .inr ⟨by omega, fun T hT => ⟨_, [], _, 1000, _, [], (ai wTD0 false d0 (AlOk.nil _)), hcs, LkOk.no _ _ _ _, (asg_nil hT.1), fun G => by kernel_rfl⟩⟩
theorem loopTD (hn : n < 9223372036854775807) (hb : S.ρ 7 = n) (hr : ∀ j : Int, S.Φ 67 [j] = S.Φ 69 [j]) (hK0 : ∀ x ∈ S.I, x.f + x.ks.length ≤ 60) (h0 : S.ρ 13 = 0) : ∃ Sf : Sy, (Sf.ρ 13 = n ∧ Stay [13] [] S Sf) ∧ ∀ T asg0, Same [] [] Sf T → AsgOk T S asg0 → LkAt Tryd.prog T (gsT ty) (.loop (cAt Tryd.prog lpT1)) (lkLoopR Tryd.prog 200 [] (XDT ty) FDT (.exit 0) asg0) := by
  obtain ⟨m, k', Sf, hc, ⟨i, hin, hk, hiv, fr⟩, hf⟩ := loop_ex (stepTD ty S n hn hb hr hK0) n S ⟨0, Nat.zero_le _, rfl, h0, Stay.refl _ _ _⟩
  have hk0 := hf.1
  obtain rfl : i = n := by omega
  exact ⟨Sf, ⟨hiv, fr⟩, fun T asg0 hs ha => loop_chain envT (ann_self _) fineT1 (show (XDT ty).N = FDT.N from rfl) (Nat.le_of_ble_eq_true rfl) hc (hf.2 T hs) ha (hX := GlOk.of (by kernel_rfl) (by kernel_rfl))⟩
end
end Go.Proofs.YtafcbelcmaolpaaDoor
