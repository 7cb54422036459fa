/-
  MemDoes: its loops by a rule, run with symbols. Conditions: what is said of the slice (SlIn), and of the numbers' types.
-/
import Derived.Test.YtilddfihdmmjcaaMz
import Derived.Test.YtilddfihdmmjcaaWT
import Derived.Test.YtilddfihdmmjcaaEvLp
namespace Go.Proofs.Ytilddfihdmmjcaa
open Go.Ev Go.RowKit
set_option maxRecDepth 100000
def inLD : Value := inS 0 (dsc 1 20 [5, 4, 8, 8])
def owD (b i : Nat) : Value := .float .f32 (mk 3 0 b (i * 512 + 3))
noncomputable def rw64D (f : Nat) : Blk := .arr ⟨5 * 512 + 3, .var f, .u64, 36⟩
noncomputable def rw8D (f : Nat) : Blk := .arr ⟨6 * 512 + 3, .var f, .u8, 5⟩
noncomputable def mmD (a b e : Nat) : Blk := .cells (mkCells #[owD a 5, owD b 6] e)
noncomputable def hpD : List (Nat × Blk) := [(0, rw64D 60), (1, rw8D 61), (2, mmD 0 1 75), (6, mmD 7 8 32), (7, rw64D 60), (8, rw8D 61)]
noncomputable def frD : List (Nat × Value) := [(7, vv .i64 5), (8, vv .i64 6), (9, .pointer (some ⟨2, 0, none⟩)), (11, .pointer (some ⟨6, 0, none⟩))]
noncomputable def X0D : Pat := ⟨121, 9, [(2, inLD), (13, vv .i64 4)] ++ frD, hpD⟩
noncomputable def F0D : Pat := ⟨121, 9, frD, hpD⟩
noncomputable def X1D : Pat := ⟨121, 9, (18, vv .i64 11) :: frD, hpD⟩
noncomputable def F1D : Pat := ⟨121, 9, frD, hpD⟩
noncomputable def X2D : Pat := ⟨121, 9, (19, vv .i64 14) :: frD, hpD⟩
noncomputable def F2D : Pat := ⟨121, 9, [], []⟩
def wTD : Tm := .conv .i64 (.bin .rem (.var .u8 2) (.lit .u8 41))
def bTD : Tm := .conv .i64 (.bin .rem (.var .u8 3) (.lit .u8 41))
def kTD : Tm := .app .u8 20 (.cons (.var .i64 4) .nil)
def lpD0 : Mrk := (3, [1, 1, 1, 1, 1, 1, 0, 1, 0])
def lpD1 : Mrk := (3, [1, 1, 1, 1, 1, 1, 1, 0, 1, 0])
def lpD2 : Mrk := (3, [1, 1, 1, 1, 1, 1, 1, 1, 0, 1, 0])
noncomputable abbrev ΛD : Nat → Option Code := lamOf Try.prog [lpD0, lpD1, lpD2]
noncomputable abbrev ftD : Nat → Option Func := ftM Try.prog [lpD0, lpD1, lpD2]
theorem envD : @EnvOk ⟨ΛD⟩ Try.prog ftD := envM env [lpD0, lpD1, lpD2] (by kernel_rfl)
theorem codeD0 : codeAt Try.prog lpD0 = some (.loop (cAt Try.prog lpD0)) := by kernel_rfl
theorem fineD0 : fineC Try.prog.globals.size (cAt Try.prog lpD0) = true := by kernel_rfl
theorem codeD1 : codeAt Try.prog lpD1 = some (.loop (cAt Try.prog lpD1)) := by kernel_rfl
theorem fineD1 : fineC Try.prog.globals.size (cAt Try.prog lpD1) = true := by kernel_rfl
theorem codeD2 : codeAt Try.prog lpD2 = some (.loop (cAt Try.prog lpD2)) := by kernel_rfl
theorem fineD2 : fineC Try.prog.globals.size (cAt Try.prog lpD2) = true := by kernel_rfl
def wD0k0_0 : Tm := (.bin .lss (.var .i64 4) (.var .i64 1))
def wD0k0_1 : Tm := (.bin .geq (.var .i64 4) (.lit .i64 0))
def wD0k1_0 : Tm := (.bin .lss (.var .i64 4) (.var .i64 1))
def wD0k1_1 : Tm := (.bin .geq (.var .i64 4) (.lit .i64 0))
def wD0k1_2 : Tm := (.bin .lss (.app .i64 21 (.cons (.var .i64 4) .nil)) (.lit .i64 0))
def wD0k1_3 : Tm := (.bin .geq (.app .i64 21 (.cons (.var .i64 4) .nil)) (.var .i64 5))
def wD0k1_4 : Tm := (.bin .geq (.app .i64 21 (.cons (.var .i64 4) .nil)) (.lit .i64 0))
def wD0k1_5 : Tm := (.bin .lss (.app .i64 21 (.cons (.var .i64 4) .nil)) (.var .i64 5))
def wD0k1_6 : Tm := (.bin .lss (.lit .i64 0) (.var .i64 5))
def wD0k1_7 : Tm := (.bin .lss (.var .i64 5) (.lit .i64 4194304))
def wD0k1_8 : Tm := (.bin .neq (.app .u64 60 (.cons (.app .i64 21 (.cons (.var .i64 4) .nil)) .nil)) (.app .u64 60 (.cons (.app .i64 21 (.cons (.var .i64 4) .nil)) .nil)))
def wD0k2_0 : Tm := (.bin .lss (.var .i64 4) (.var .i64 1))
def wD0k2_1 : Tm := (.bin .geq (.var .i64 4) (.lit .i64 0))
def wD0k2_2 : Tm := (.bin .lss (.app .i64 21 (.cons (.var .i64 4) .nil)) (.lit .i64 0))
def wD0k2_3 : Tm := (.bin .geq (.app .i64 21 (.cons (.var .i64 4) .nil)) (.var .i64 5))
def wD0k2_4 : Tm := (.bin .geq (.app .i64 21 (.cons (.var .i64 4) .nil)) (.lit .i64 0))
def wD0k2_5 : Tm := (.bin .lss (.app .i64 21 (.cons (.var .i64 4) .nil)) (.var .i64 5))
def wD0k2_6 : Tm := (.bin .lss (.lit .i64 0) (.var .i64 5))
def wD0k2_7 : Tm := (.bin .lss (.var .i64 5) (.lit .i64 4194304))
def wD0k3_0 : Tm := (.bin .lss (.var .i64 4) (.var .i64 1))
def wD0k3_1 : Tm := (.bin .geq (.var .i64 4) (.lit .i64 0))
def wD0k3_2 : Tm := (.bin .lss (.app .i64 21 (.cons (.var .i64 4) .nil)) (.lit .i64 0))
def wD0k3_3 : Tm := (.bin .geq (.app .i64 21 (.cons (.var .i64 4) .nil)) (.var .i64 5))
def wD0k3_4 : Tm := (.bin .geq (.app .i64 21 (.cons (.var .i64 4) .nil)) (.lit .i64 0))
def wD0k3_5 : Tm := (.bin .lss (.app .i64 21 (.cons (.var .i64 4) .nil)) (.var .i64 5))
def wD0k3_6 : Tm := (.bin .neq (.app .u64 60 (.cons (.app .i64 21 (.cons (.var .i64 4) .nil)) .nil)) (.app .u64 22 (.cons (.var .i64 4) .nil)))
def wD0k3_7 : Tm := (.bin .lss (.lit .i64 0) (.var .i64 5))
def wD0k3_8 : Tm := (.bin .lss (.var .i64 5) (.lit .i64 4194304))
def wD0k3_9 : Tm := (.bin .eql (.app .u64 60 (.cons (.app .i64 21 (.cons (.var .i64 4) .nil)) .nil)) (.app .u64 22 (.cons (.var .i64 4) .nil)))
def wD0k4_0 : Tm := (.bin .lss (.var .i64 4) (.var .i64 1))
def wD0k4_1 : Tm := (.bin .geq (.var .i64 4) (.lit .i64 0))
def wD0k4_2 : Tm := (.bin .lss (.app .i64 21 (.cons (.var .i64 4) .nil)) (.lit .i64 0))
def wD0k4_3 : Tm := (.bin .geq (.app .i64 21 (.cons (.var .i64 4) .nil)) (.var .i64 5))
def wD0k4_4 : Tm := (.bin .geq (.app .i64 21 (.cons (.var .i64 4) .nil)) (.lit .i64 0))
def wD0k4_5 : Tm := (.bin .lss (.app .i64 21 (.cons (.var .i64 4) .nil)) (.var .i64 5))
def wD0k4_6 : Tm := (.bin .lss (.lit .i64 0) (.var .i64 5))
def wD0k4_7 : Tm := (.bin .lss (.var .i64 5) (.lit .i64 4194304))
def wD0k4_8 : Tm := (.bin .neq (.app .u64 60 (.cons (.app .i64 21 (.cons (.var .i64 4) .nil)) .nil)) (.app .u64 60 (.cons (.app .i64 21 (.cons (.var .i64 4) .nil)) .nil)))
def wD0k5_0 : Tm := (.bin .lss (.var .i64 4) (.var .i64 1))
def wD0k5_1 : Tm := (.bin .geq (.var .i64 4) (.lit .i64 0))
def wD0k5_2 : Tm := (.bin .lss (.app .i64 21 (.cons (.var .i64 4) .nil)) (.lit .i64 0))
def wD0k5_3 : Tm := (.bin .geq (.app .i64 21 (.cons (.var .i64 4) .nil)) (.var .i64 6))
def wD0k5_4 : Tm := (.bin .geq (.app .i64 21 (.cons (.var .i64 4) .nil)) (.lit .i64 0))
def wD0k5_5 : Tm := (.bin .lss (.app .i64 21 (.cons (.var .i64 4) .nil)) (.var .i64 6))
def wD0k5_6 : Tm := (.bin .neq (.conv .u64 (.app .u8 61 (.cons (.app .i64 21 (.cons (.var .i64 4) .nil)) .nil))) (.conv .u64 (.app .u8 61 (.cons (.app .i64 21 (.cons (.var .i64 4) .nil)) .nil))))
def wD0k6_0 : Tm := (.bin .lss (.var .i64 4) (.var .i64 1))
def wD0k6_1 : Tm := (.bin .geq (.var .i64 4) (.lit .i64 0))
def wD0k6_2 : Tm := (.bin .lss (.app .i64 21 (.cons (.var .i64 4) .nil)) (.lit .i64 0))
def wD0k6_3 : Tm := (.bin .geq (.app .i64 21 (.cons (.var .i64 4) .nil)) (.var .i64 6))
def wD0k6_4 : Tm := (.bin .geq (.app .i64 21 (.cons (.var .i64 4) .nil)) (.lit .i64 0))
def wD0k6_5 : Tm := (.bin .lss (.app .i64 21 (.cons (.var .i64 4) .nil)) (.var .i64 6))
def wD0k6_6 : Tm := (.bin .lss (.lit .i64 0) (.var .i64 6))
def wD0k6_7 : Tm := (.bin .lss (.var .i64 6) (.lit .i64 4194304))
def wD0k7_0 : Tm := (.bin .lss (.var .i64 4) (.var .i64 1))
def wD0k7_1 : Tm := (.bin .geq (.var .i64 4) (.lit .i64 0))
def wD0k7_2 : Tm := (.bin .geq (.conv .i64 (.app .u8 20 (.cons (.var .i64 4) .nil))) (.lit .i64 7))
def wD0k7_3 : Tm := (.bin .eql (.app .u8 20 (.cons (.var .i64 4) .nil)) (.lit .u8 5))
def wD0k7_4 : Tm := (.bin .lss (.app .i64 21 (.cons (.var .i64 4) .nil)) (.lit .i64 0))
def wD0k7_5 : Tm := (.bin .geq (.app .i64 21 (.cons (.var .i64 4) .nil)) (.var .i64 6))
def wD0k7_6 : Tm := (.bin .eql (.app .u8 20 (.cons (.var .i64 4) .nil)) (.lit .u8 6))
def wD0k7_7 : Tm := (.bin .lss (.app .u8 20 (.cons (.var .i64 4) .nil)) (.lit .u8 1))
def wD0k7_8 : Tm := (.bin .gtr (.app .u8 20 (.cons (.var .i64 4) .nil)) (.lit .u8 6))
def wD0k7_9 : Tm := (.bin .geq (.app .i64 21 (.cons (.var .i64 4) .nil)) (.var .i64 5))
section
variable (S : Sy) (n : Nat)
abbrev RD0 : Sy → Sy → Prop := StepTo Try.prog ftD ΛD [] (cAt Try.prog lpD0) X0D F0D 7
def InvD0 (k : Nat) (S1 : Sy) : Prop := ∃ i : Nat, i ≤ n ∧ k = n - i ∧ S1.ρ 4 = i ∧ Stay [4] [60, 61] S S1 ∧ (∀ j : Int, 0 ≤ S1.Φ 61 [j] ∧ S1.Φ 61 [j] < 256)
def FinD0 (k : Nat) (S1 : Sy) : Prop := k = 0 ∧ ∀ T, Same [5, 6] [60, 61] S1 T → StepOut Try.prog ftD ΛD [] (cAt Try.prog lpD0) X0D F0D (.exit 0) 7 S1 T
set_option maxHeartbeats 4000000 in
theorem stepD0 (hn : n < 9223372036854775807) (hb : S.ρ 1 = n) (h5 : 0 ≤ S.ρ 5 ∧ S.ρ 5 < 41) (h6 : 0 ≤ S.ρ 6 ∧ S.ρ 6 < 41) (hr20 : ∀ j : Nat, j < n → (0 ≤ S.Φ 20 [(j : Int)] ∧ S.Φ 20 [(j : Int)] < 256) ∧ 0 ≤ S.Φ 22 [(j : Int)]) (hK0 : ∀ x ∈ S.I, x.f + x.ks.length ≤ 60) (k : Nat) (S1 : Sy) (hi : InvD0 S n k S1) : (∃ k' S2, k = k' + 1 ∧ InvD0 S n k' S2 ∧ RD0 S1 S2) ∨ FinD0 k S1 := by
  obtain ⟨i, hin, rfl, hiv, fr, hr⟩ := hi
  have hcs : ∀ c ∈ ([] : List Ctr), CtrOk Try.prog S1 [] c := fun c hc => by simp at hc
  have hK : ∀ x ∈ S1.I, x.f + x.ks.length ≤ 60 := by rw [fr.1]; exact hK0
  have e1 := fr.num 1 rfl
  have e5 := fr.num 5 rfl
  have e6 := fr.num 6 rfl
  have k0 : i < n → 0 ≤ S1.Φ 20 [S1.ρ 4] ∧ S1.Φ 20 [S1.ρ 4] < 256 := fun h => by rw [hiv, fr.fn 20 rfl]; exact (hr20 i h).1
  have k2 : i < n → 0 ≤ S1.Φ 22 [S1.ρ 4] := fun h => by rw [hiv, fr.fn 22 rfl]; exact (hr20 i h).2
  rcases (show (S1.Φ 20 [S1.ρ 4] = 0) ∨ (S1.Φ 20 [S1.ρ 4] = 1) ∨ (S1.Φ 20 [S1.ρ 4] = 2) ∨ (S1.Φ 20 [S1.ρ 4] = 3) ∨ (S1.Φ 20 [S1.ρ 4] = 4) ∨ (S1.Φ 20 [S1.ρ 4] = 5) ∨ (S1.Φ 20 [S1.ρ 4] = 6) ∨ (S1.Φ 20 [S1.ρ 4] ≠ 0 ∧ S1.Φ 20 [S1.ρ 4] ≠ 1 ∧ S1.Φ 20 [S1.ρ 4] ≠ 2 ∧ S1.Φ 20 [S1.ρ 4] ≠ 3 ∧ S1.Φ 20 [S1.ρ 4] ≠ 4 ∧ S1.Φ 20 [S1.ρ 4] ≠ 5 ∧ S1.Φ 20 [S1.ρ 4] ≠ 6) from by omega) with hk | hk | hk | hk | hk | hk | hk | hk
  · have dk : kTD.den S1 = some [0] := (show some [S1.Φ 20 [S1.ρ 4]] = _ from by rw [hk])
    by_cases c0 : S1.ρ 4 < S1.ρ 1
    · have d0 : wD0k0_0.den S1 = some [b2i true] := tr (p := S1.ρ 4 < S1.ρ 1) c0
      have c1 : ¬ (S1.ρ 4 < (0 : Int)) := by have := k0; omega
      have d1 : wD0k0_1.den S1 = some [b2i true] := tr (p := (0 : Int) ≤ S1.ρ 4) (Int.not_lt.1 c1)
      obtain ⟨o4, h_o4⟩ : ∃ o : Int, o = (IntKind.i64.wrap (S1.ρ 4 + (1 : Int))) := ⟨_, rfl⟩
      have u4 := h_o4
      rw [w_i64 (by omega) (by omega)] at u4
      have inv : InvD0 S n (n - (i + 1)) (S1.set (upd S1.ρ [(4, o4)]) [] 60 rfl hK) := ⟨i + 1, by omega, rfl, (show o4 = ((i + 1 : Nat) : Int) by omega), fr.set rfl rfl, hr⟩
      exact .inl ⟨_, _, (by omega : n - i = n - (i + 1) + 1), inv, _, [], _, 1000, _, [], (ai wD0k0_1 true d1 (ai wD0k0_0 true d0 (ain kTD .u8 0 dk (AlOk.nil _)))), hcs, LkOk.no _ _ _ _, (av 1 .i64 (an 4 (.bin .add (.var .i64 4) (.lit .i64 1)) (sm h_o4.symm) (av 5 .i64 (av 6 .i64 (av 5 .i64 (ar 60 (ar_var 60) (av 6 .i64 (ar 61 (ar_var 61) (av 6 .i64 (av 5 .i64 (av 6 .i64 (av 5 .i64 (av 5 .i64 (ar 60 (ar_var 60) (av 6 .i64 (ar 61 (ar_var 61) (asg_nil rfl))))))))))))))))), fun G => by kernel_rfl⟩
    · have d0 : wD0k0_0.den S1 = some [b2i false] := fls (p := S1.ρ 4 < S1.ρ 1) c0
      exact .inr ⟨by omega, fun T hT => ⟨_, [], _, 1000, _, [], (ai wD0k0_0 false d0 (ain kTD .u8 0 dk (AlOk.nil _))), hcs, LkOk.no _ _ _ _, (an 5 (.var .i64 5) (sm (hT.num 5 rfl)) (an 6 (.var .i64 6) (sm (hT.num 6 rfl)) (an 5 (.var .i64 5) (sm (hT.num 5 rfl)) (asg_arr (i := 60) (hT.row 60 rfl) (an 6 (.var .i64 6) (sm (hT.num 6 rfl)) (asg_arr (i := 61) (hT.row 61 rfl) (an 6 (.var .i64 6) (sm (hT.num 6 rfl)) (an 5 (.var .i64 5) (sm (hT.num 5 rfl)) (an 6 (.var .i64 6) (sm (hT.num 6 rfl)) (an 5 (.var .i64 5) (sm (hT.num 5 rfl)) (an 5 (.var .i64 5) (sm (hT.num 5 rfl)) (asg_arr (i := 60) (hT.row 60 rfl) (an 6 (.var .i64 6) (sm (hT.num 6 rfl)) (asg_arr (i := 61) (hT.row 61 rfl) (asg_nil hT.1))))))))))))))), fun G => by kernel_rfl⟩⟩
  · have dk : kTD.den S1 = some [1] := (show some [S1.Φ 20 [S1.ρ 4]] = _ from by rw [hk])
    by_cases c0 : S1.ρ 4 < S1.ρ 1
    · have d0 : wD0k1_0.den S1 = some [b2i true] := tr (p := S1.ρ 4 < S1.ρ 1) c0
      have c1 : ¬ (S1.ρ 4 < (0 : Int)) := by have := k0; omega
      have d1 : wD0k1_1.den S1 = some [b2i true] := tr (p := (0 : Int) ≤ S1.ρ 4) (Int.not_lt.1 c1)
      by_cases c2 : (S1.Φ 21 [S1.ρ 4]) < (0 : Int)
      · have d2 : wD0k1_2.den S1 = some [b2i true] := tr (p := (S1.Φ 21 [S1.ρ 4]) < (0 : Int)) c2
        obtain ⟨o4, h_o4⟩ : ∃ o : Int, o = (IntKind.i64.wrap (S1.ρ 4 + (1 : Int))) := ⟨_, rfl⟩
        have u4 := h_o4
        rw [w_i64 (by omega) (by omega)] at u4
        have inv : InvD0 S n (n - (i + 1)) (S1.set (upd S1.ρ [(4, o4)]) [] 60 rfl hK) := ⟨i + 1, by omega, rfl, (show o4 = ((i + 1 : Nat) : Int) by omega), fr.set rfl rfl, hr⟩
        exact .inl ⟨_, _, (by omega : n - i = n - (i + 1) + 1), inv, _, [], _, 1000, _, [], (ai wD0k1_2 true d2 (ai wD0k1_1 true d1 (ai wD0k1_0 true d0 (ain kTD .u8 1 dk (AlOk.nil _))))), hcs, LkOk.no _ _ _ _, (av 1 .i64 (an 4 (.bin .add (.var .i64 4) (.lit .i64 1)) (sm h_o4.symm) (av 5 .i64 (av 6 .i64 (av 5 .i64 (ar 60 (ar_var 60) (av 6 .i64 (ar 61 (ar_var 61) (av 6 .i64 (av 5 .i64 (av 6 .i64 (av 5 .i64 (av 5 .i64 (ar 60 (ar_var 60) (av 6 .i64 (ar 61 (ar_var 61) (asg_nil rfl))))))))))))))))), fun G => by kernel_rfl⟩
      · have d2 : wD0k1_2.den S1 = some [b2i false] := fls (p := (S1.Φ 21 [S1.ρ 4]) < (0 : Int)) c2
        by_cases c3 : (S1.Φ 21 [S1.ρ 4]) < S1.ρ 5
        · have d3 : wD0k1_3.den S1 = some [b2i false] := fls (p := S1.ρ 5 ≤ (S1.Φ 21 [S1.ρ 4])) (Int.not_le.2 c3)
          have d4 : wD0k1_4.den S1 = some [b2i true] := tr (p := (0 : Int) ≤ (S1.Φ 21 [S1.ρ 4])) (Int.not_lt.1 c2)
          have d5 : wD0k1_5.den S1 = some [b2i true] := tr (p := (S1.Φ 21 [S1.ρ 4]) < S1.ρ 5) c3
          have c6 : (0 : Int) < S1.ρ 5 := by have := k0; omega
          have d6 : wD0k1_6.den S1 = some [b2i true] := tr (p := (0 : Int) < S1.ρ 5) c6
          have c7 : S1.ρ 5 < (4194304 : Int) := by have := k0; omega
          have d7 : wD0k1_7.den S1 = some [b2i true] := tr (p := S1.ρ 5 < (4194304 : Int)) c7
          have c8 : (S1.Φ 60 [(S1.Φ 21 [S1.ρ 4])]) = (S1.Φ 60 [(S1.Φ 21 [S1.ρ 4])]) := rfl
          have d8 : wD0k1_8.den S1 = some [b2i false] := fls (p := (S1.Φ 60 [(S1.Φ 21 [S1.ρ 4])]) ≠ (S1.Φ 60 [(S1.Φ 21 [S1.ρ 4])])) (fun hh => hh c8)
          obtain ⟨o4, h_o4⟩ : ∃ o : Int, o = (IntKind.i64.wrap (S1.ρ 4 + (1 : Int))) := ⟨_, rfl⟩
          have u4 := h_o4
          rw [w_i64 (by omega) (by omega)] at u4
          have inv : InvD0 S n (n - (i + 1)) (S1.set (upd S1.ρ [(4, o4)]) [] 60 rfl hK) := ⟨i + 1, by omega, rfl, (show o4 = ((i + 1 : Nat) : Int) by omega), fr.set rfl rfl, hr⟩
          exact .inl ⟨_, _, (by omega : n - i = n - (i + 1) + 1), inv, _, [], _, 1000, _, [(7, 17)], (ai wD0k1_8 false d8 (ai wD0k1_7 true d7 (ai wD0k1_6 true d6 (ai wD0k1_5 true d5 (ai wD0k1_4 true d4 (ai wD0k1_3 false d3 (ai wD0k1_2 false d2 (ai wD0k1_1 true d1 (ai wD0k1_0 true d0 (ain kTD .u8 1 dk (AlOk.nil _))))))))))), hcs, LkOk.no _ _ _ _, (av 1 .i64 (an 4 (.bin .add (.var .i64 4) (.lit .i64 1)) (sm h_o4.symm) (av 5 .i64 (av 6 .i64 (av 5 .i64 (ar 60 (ar_var 60) (av 6 .i64 (ar 61 (ar_var 61) (av 6 .i64 (av 5 .i64 (av 6 .i64 (av 5 .i64 (av 5 .i64 (ar 60 (ar_var 60) (av 6 .i64 (ar 61 (ar_var 61) (asg_nil rfl))))))))))))))))), fun G => by kernel_rfl⟩
        · have d3 : wD0k1_3.den S1 = some [b2i true] := tr (p := S1.ρ 5 ≤ (S1.Φ 21 [S1.ρ 4])) (Int.not_lt.1 c3)
          obtain ⟨o4, h_o4⟩ : ∃ o : Int, o = (IntKind.i64.wrap (S1.ρ 4 + (1 : Int))) := ⟨_, rfl⟩
          have u4 := h_o4
          rw [w_i64 (by omega) (by omega)] at u4
          have inv : InvD0 S n (n - (i + 1)) (S1.set (upd S1.ρ [(4, o4)]) [] 60 rfl hK) := ⟨i + 1, by omega, rfl, (show o4 = ((i + 1 : Nat) : Int) by omega), fr.set rfl rfl, hr⟩
          exact .inl ⟨_, _, (by omega : n - i = n - (i + 1) + 1), inv, _, [], _, 1000, _, [], (ai wD0k1_3 true d3 (ai wD0k1_2 false d2 (ai wD0k1_1 true d1 (ai wD0k1_0 true d0 (ain kTD .u8 1 dk (AlOk.nil _)))))), hcs, LkOk.no _ _ _ _, (av 1 .i64 (an 4 (.bin .add (.var .i64 4) (.lit .i64 1)) (sm h_o4.symm) (av 5 .i64 (av 6 .i64 (av 5 .i64 (ar 60 (ar_var 60) (av 6 .i64 (ar 61 (ar_var 61) (av 6 .i64 (av 5 .i64 (av 6 .i64 (av 5 .i64 (av 5 .i64 (ar 60 (ar_var 60) (av 6 .i64 (ar 61 (ar_var 61) (asg_nil rfl))))))))))))))))), fun G => by kernel_rfl⟩
    · have d0 : wD0k1_0.den S1 = some [b2i false] := fls (p := S1.ρ 4 < S1.ρ 1) c0
      exact .inr ⟨by omega, fun T hT => ⟨_, [], _, 1000, _, [], (ai wD0k1_0 false d0 (ain kTD .u8 1 dk (AlOk.nil _))), hcs, LkOk.no _ _ _ _, (an 5 (.var .i64 5) (sm (hT.num 5 rfl)) (an 6 (.var .i64 6) (sm (hT.num 6 rfl)) (an 5 (.var .i64 5) (sm (hT.num 5 rfl)) (asg_arr (i := 60) (hT.row 60 rfl) (an 6 (.var .i64 6) (sm (hT.num 6 rfl)) (asg_arr (i := 61) (hT.row 61 rfl) (an 6 (.var .i64 6) (sm (hT.num 6 rfl)) (an 5 (.var .i64 5) (sm (hT.num 5 rfl)) (an 6 (.var .i64 6) (sm (hT.num 6 rfl)) (an 5 (.var .i64 5) (sm (hT.num 5 rfl)) (an 5 (.var .i64 5) (sm (hT.num 5 rfl)) (asg_arr (i := 60) (hT.row 60 rfl) (an 6 (.var .i64 6) (sm (hT.num 6 rfl)) (asg_arr (i := 61) (hT.row 61 rfl) (asg_nil hT.1))))))))))))))), fun G => by kernel_rfl⟩⟩
  · have dk : kTD.den S1 = some [2] := (show some [S1.Φ 20 [S1.ρ 4]] = _ from by rw [hk])
    by_cases c0 : S1.ρ 4 < S1.ρ 1
    · have d0 : wD0k2_0.den S1 = some [b2i true] := tr (p := S1.ρ 4 < S1.ρ 1) c0
      have c1 : ¬ (S1.ρ 4 < (0 : Int)) := by have := k0; omega
      have d1 : wD0k2_1.den S1 = some [b2i true] := tr (p := (0 : Int) ≤ S1.ρ 4) (Int.not_lt.1 c1)
      by_cases c2 : (S1.Φ 21 [S1.ρ 4]) < (0 : Int)
      · have d2 : wD0k2_2.den S1 = some [b2i true] := tr (p := (S1.Φ 21 [S1.ρ 4]) < (0 : Int)) c2
        obtain ⟨o4, h_o4⟩ : ∃ o : Int, o = (IntKind.i64.wrap (S1.ρ 4 + (1 : Int))) := ⟨_, rfl⟩
        have u4 := h_o4
        rw [w_i64 (by omega) (by omega)] at u4
        have inv : InvD0 S n (n - (i + 1)) (S1.set (upd S1.ρ [(4, o4)]) [] 60 rfl hK) := ⟨i + 1, by omega, rfl, (show o4 = ((i + 1 : Nat) : Int) by omega), fr.set rfl rfl, hr⟩
        exact .inl ⟨_, _, (by omega : n - i = n - (i + 1) + 1), inv, _, [], _, 1000, _, [], (ai wD0k2_2 true d2 (ai wD0k2_1 true d1 (ai wD0k2_0 true d0 (ain kTD .u8 2 dk (AlOk.nil _))))), hcs, LkOk.no _ _ _ _, (av 1 .i64 (an 4 (.bin .add (.var .i64 4) (.lit .i64 1)) (sm h_o4.symm) (av 5 .i64 (av 6 .i64 (av 5 .i64 (ar 60 (ar_var 60) (av 6 .i64 (ar 61 (ar_var 61) (av 6 .i64 (av 5 .i64 (av 6 .i64 (av 5 .i64 (av 5 .i64 (ar 60 (ar_var 60) (av 6 .i64 (ar 61 (ar_var 61) (asg_nil rfl))))))))))))))))), fun G => by kernel_rfl⟩
      · have d2 : wD0k2_2.den S1 = some [b2i false] := fls (p := (S1.Φ 21 [S1.ρ 4]) < (0 : Int)) c2
        by_cases c3 : (S1.Φ 21 [S1.ρ 4]) < S1.ρ 5
        · have d3 : wD0k2_3.den S1 = some [b2i false] := fls (p := S1.ρ 5 ≤ (S1.Φ 21 [S1.ρ 4])) (Int.not_le.2 c3)
          have d4 : wD0k2_4.den S1 = some [b2i true] := tr (p := (0 : Int) ≤ (S1.Φ 21 [S1.ρ 4])) (Int.not_lt.1 c2)
          have d5 : wD0k2_5.den S1 = some [b2i true] := tr (p := (S1.Φ 21 [S1.ρ 4]) < S1.ρ 5) c3
          have c6 : (0 : Int) < S1.ρ 5 := by have := k0; omega
          have d6 : wD0k2_6.den S1 = some [b2i true] := tr (p := (0 : Int) < S1.ρ 5) c6
          have c7 : S1.ρ 5 < (4194304 : Int) := by have := k0; omega
          have d7 : wD0k2_7.den S1 = some [b2i true] := tr (p := S1.ρ 5 < (4194304 : Int)) c7
          obtain ⟨o4, h_o4⟩ : ∃ o : Int, o = (IntKind.i64.wrap (S1.ρ 4 + (1 : Int))) := ⟨_, rfl⟩
          have u4 := h_o4
          rw [w_i64 (by omega) (by omega)] at u4
          have inv : InvD0 S n (n - (i + 1)) (S1.set (upd S1.ρ [(4, o4)]) [(60, (fun j => ifE j (S1.Φ 21 [S1.ρ 4]) (S1.Φ 22 [S1.ρ 4]) ((fun j => S1.Φ 60 [j]) j)))] 60 rfl hK) := ⟨i + 1, by omega, rfl, (show o4 = ((i + 1 : Nat) : Int) by omega), fr.set rfl rfl, hr⟩
          exact .inl ⟨_, _, (by omega : n - i = n - (i + 1) + 1), inv, _, [], _, 1000, _, [(7, 17)], (ai wD0k2_7 true d7 (ai wD0k2_6 true d6 (ai wD0k2_5 true d5 (ai wD0k2_4 true d4 (ai wD0k2_3 false d3 (ai wD0k2_2 false d2 (ai wD0k2_1 true d1 (ai wD0k2_0 true d0 (ain kTD .u8 2 dk (AlOk.nil _)))))))))), hcs, LkOk.no _ _ _ _, (av 1 .i64 (an 4 (.bin .add (.var .i64 4) (.lit .i64 1)) (sm h_o4.symm) (av 5 .i64 (av 6 .i64 (av 5 .i64 (ar 60 (ar_upd (.app .i64 21 (.cons (.var .i64 4) .nil)) (.app .u64 22 (.cons (.var .i64 4) .nil)) (i := (S1.Φ 21 [S1.ρ 4])) (v := (S1.Φ 22 [S1.ρ 4])) rfl rfl (by kernel_rfl) (ar_var 60)) (av 6 .i64 (ar 61 (ar_var 61) (av 6 .i64 (av 5 .i64 (av 6 .i64 (av 5 .i64 (av 5 .i64 (ar 60 (ar_upd (.app .i64 21 (.cons (.var .i64 4) .nil)) (.app .u64 22 (.cons (.var .i64 4) .nil)) (i := (S1.Φ 21 [S1.ρ 4])) (v := (S1.Φ 22 [S1.ρ 4])) rfl rfl (by kernel_rfl) (ar_var 60)) (av 6 .i64 (ar 61 (ar_var 61) (asg_nil rfl))))))))))))))))), fun G => by kernel_rfl⟩
        · have d3 : wD0k2_3.den S1 = some [b2i true] := tr (p := S1.ρ 5 ≤ (S1.Φ 21 [S1.ρ 4])) (Int.not_lt.1 c3)
          obtain ⟨o4, h_o4⟩ : ∃ o : Int, o = (IntKind.i64.wrap (S1.ρ 4 + (1 : Int))) := ⟨_, rfl⟩
          have u4 := h_o4
          rw [w_i64 (by omega) (by omega)] at u4
          have inv : InvD0 S n (n - (i + 1)) (S1.set (upd S1.ρ [(4, o4)]) [] 60 rfl hK) := ⟨i + 1, by omega, rfl, (show o4 = ((i + 1 : Nat) : Int) by omega), fr.set rfl rfl, hr⟩
          exact .inl ⟨_, _, (by omega : n - i = n - (i + 1) + 1), inv, _, [], _, 1000, _, [], (ai wD0k2_3 true d3 (ai wD0k2_2 false d2 (ai wD0k2_1 true d1 (ai wD0k2_0 true d0 (ain kTD .u8 2 dk (AlOk.nil _)))))), hcs, LkOk.no _ _ _ _, (av 1 .i64 (an 4 (.bin .add (.var .i64 4) (.lit .i64 1)) (sm h_o4.symm) (av 5 .i64 (av 6 .i64 (av 5 .i64 (ar 60 (ar_var 60) (av 6 .i64 (ar 61 (ar_var 61) (av 6 .i64 (av 5 .i64 (av 6 .i64 (av 5 .i64 (av 5 .i64 (ar 60 (ar_var 60) (av 6 .i64 (ar 61 (ar_var 61) (asg_nil rfl))))))))))))))))), fun G => by kernel_rfl⟩
    · have d0 : wD0k2_0.den S1 = some [b2i false] := fls (p := S1.ρ 4 < S1.ρ 1) c0
      exact .inr ⟨by omega, fun T hT => ⟨_, [], _, 1000, _, [], (ai wD0k2_0 false d0 (ain kTD .u8 2 dk (AlOk.nil _))), hcs, LkOk.no _ _ _ _, (an 5 (.var .i64 5) (sm (hT.num 5 rfl)) (an 6 (.var .i64 6) (sm (hT.num 6 rfl)) (an 5 (.var .i64 5) (sm (hT.num 5 rfl)) (asg_arr (i := 60) (hT.row 60 rfl) (an 6 (.var .i64 6) (sm (hT.num 6 rfl)) (asg_arr (i := 61) (hT.row 61 rfl) (an 6 (.var .i64 6) (sm (hT.num 6 rfl)) (an 5 (.var .i64 5) (sm (hT.num 5 rfl)) (an 6 (.var .i64 6) (sm (hT.num 6 rfl)) (an 5 (.var .i64 5) (sm (hT.num 5 rfl)) (an 5 (.var .i64 5) (sm (hT.num 5 rfl)) (asg_arr (i := 60) (hT.row 60 rfl) (an 6 (.var .i64 6) (sm (hT.num 6 rfl)) (asg_arr (i := 61) (hT.row 61 rfl) (asg_nil hT.1))))))))))))))), fun G => by kernel_rfl⟩⟩
  · have dk : kTD.den S1 = some [3] := (show some [S1.Φ 20 [S1.ρ 4]] = _ from by rw [hk])
    by_cases c0 : S1.ρ 4 < S1.ρ 1
    · have d0 : wD0k3_0.den S1 = some [b2i true] := tr (p := S1.ρ 4 < S1.ρ 1) c0
      have c1 : ¬ (S1.ρ 4 < (0 : Int)) := by have := k0; omega
      have d1 : wD0k3_1.den S1 = some [b2i true] := tr (p := (0 : Int) ≤ S1.ρ 4) (Int.not_lt.1 c1)
      by_cases c2 : (S1.Φ 21 [S1.ρ 4]) < (0 : Int)
      · have d2 : wD0k3_2.den S1 = some [b2i true] := tr (p := (S1.Φ 21 [S1.ρ 4]) < (0 : Int)) c2
        obtain ⟨o4, h_o4⟩ : ∃ o : Int, o = (IntKind.i64.wrap (S1.ρ 4 + (1 : Int))) := ⟨_, rfl⟩
        have u4 := h_o4
        rw [w_i64 (by omega) (by omega)] at u4
        have inv : InvD0 S n (n - (i + 1)) (S1.set (upd S1.ρ [(4, o4)]) [] 60 rfl hK) := ⟨i + 1, by omega, rfl, (show o4 = ((i + 1 : Nat) : Int) by omega), fr.set rfl rfl, hr⟩
        exact .inl ⟨_, _, (by omega : n - i = n - (i + 1) + 1), inv, _, [], _, 1000, _, [], (ai wD0k3_2 true d2 (ai wD0k3_1 true d1 (ai wD0k3_0 true d0 (ain kTD .u8 3 dk (AlOk.nil _))))), hcs, LkOk.no _ _ _ _, (av 1 .i64 (an 4 (.bin .add (.var .i64 4) (.lit .i64 1)) (sm h_o4.symm) (av 5 .i64 (av 6 .i64 (av 5 .i64 (ar 60 (ar_var 60) (av 6 .i64 (ar 61 (ar_var 61) (av 6 .i64 (av 5 .i64 (av 6 .i64 (av 5 .i64 (av 5 .i64 (ar 60 (ar_var 60) (av 6 .i64 (ar 61 (ar_var 61) (asg_nil rfl))))))))))))))))), fun G => by kernel_rfl⟩
      · have d2 : wD0k3_2.den S1 = some [b2i false] := fls (p := (S1.Φ 21 [S1.ρ 4]) < (0 : Int)) c2
        by_cases c3 : (S1.Φ 21 [S1.ρ 4]) < S1.ρ 5
        · have d3 : wD0k3_3.den S1 = some [b2i false] := fls (p := S1.ρ 5 ≤ (S1.Φ 21 [S1.ρ 4])) (Int.not_le.2 c3)
          have d4 : wD0k3_4.den S1 = some [b2i true] := tr (p := (0 : Int) ≤ (S1.Φ 21 [S1.ρ 4])) (Int.not_lt.1 c2)
          have d5 : wD0k3_5.den S1 = some [b2i true] := tr (p := (S1.Φ 21 [S1.ρ 4]) < S1.ρ 5) c3
          by_cases c6 : (S1.Φ 60 [(S1.Φ 21 [S1.ρ 4])]) = (S1.Φ 22 [S1.ρ 4])
          · have d6 : wD0k3_6.den S1 = some [b2i false] := fls (p := (S1.Φ 60 [(S1.Φ 21 [S1.ρ 4])]) ≠ (S1.Φ 22 [S1.ρ 4])) (fun hh => hh c6)
            have c7 : (0 : Int) < S1.ρ 5 := by have := k0; omega
            have d7 : wD0k3_7.den S1 = some [b2i true] := tr (p := (0 : Int) < S1.ρ 5) c7
            have c8 : S1.ρ 5 < (4194304 : Int) := by have := k0; omega
            have d8 : wD0k3_8.den S1 = some [b2i true] := tr (p := S1.ρ 5 < (4194304 : Int)) c8
            have d9 : wD0k3_9.den S1 = some [b2i true] := tr (p := (S1.Φ 60 [(S1.Φ 21 [S1.ρ 4])]) = (S1.Φ 22 [S1.ρ 4])) c6
            obtain ⟨o4, h_o4⟩ : ∃ o : Int, o = (IntKind.i64.wrap (S1.ρ 4 + (1 : Int))) := ⟨_, rfl⟩
            have u4 := h_o4
            rw [w_i64 (by omega) (by omega)] at u4
            have inv : InvD0 S n (n - (i + 1)) (S1.set (upd S1.ρ [(4, o4)]) [(60, (fun j => ifE j (S1.Φ 21 [S1.ρ 4]) (S1.Φ 23 [S1.ρ 4]) ((fun j => S1.Φ 60 [j]) j)))] 60 rfl hK) := ⟨i + 1, by omega, rfl, (show o4 = ((i + 1 : Nat) : Int) by omega), fr.set rfl rfl, hr⟩
            exact .inl ⟨_, _, (by omega : n - i = n - (i + 1) + 1), inv, _, [], _, 1000, _, [(7, 17)], (ai wD0k3_9 true d9 (ai wD0k3_8 true d8 (ai wD0k3_7 true d7 (ai wD0k3_6 false d6 (ai wD0k3_5 true d5 (ai wD0k3_4 true d4 (ai wD0k3_3 false d3 (ai wD0k3_2 false d2 (ai wD0k3_1 true d1 (ai wD0k3_0 true d0 (ain kTD .u8 3 dk (AlOk.nil _)))))))))))), hcs, LkOk.no _ _ _ _, (av 1 .i64 (an 4 (.bin .add (.var .i64 4) (.lit .i64 1)) (sm h_o4.symm) (av 5 .i64 (av 6 .i64 (av 5 .i64 (ar 60 (ar_upd (.app .i64 21 (.cons (.var .i64 4) .nil)) (.app .u64 23 (.cons (.var .i64 4) .nil)) (i := (S1.Φ 21 [S1.ρ 4])) (v := (S1.Φ 23 [S1.ρ 4])) rfl rfl (by kernel_rfl) (ar_var 60)) (av 6 .i64 (ar 61 (ar_var 61) (av 6 .i64 (av 5 .i64 (av 6 .i64 (av 5 .i64 (av 5 .i64 (ar 60 (ar_upd (.app .i64 21 (.cons (.var .i64 4) .nil)) (.app .u64 23 (.cons (.var .i64 4) .nil)) (i := (S1.Φ 21 [S1.ρ 4])) (v := (S1.Φ 23 [S1.ρ 4])) rfl rfl (by kernel_rfl) (ar_var 60)) (av 6 .i64 (ar 61 (ar_var 61) (asg_nil rfl))))))))))))))))), fun G => by kernel_rfl⟩
          · have d6 : wD0k3_6.den S1 = some [b2i true] := tr (p := (S1.Φ 60 [(S1.Φ 21 [S1.ρ 4])]) ≠ (S1.Φ 22 [S1.ρ 4])) c6
            have c7 : (0 : Int) < S1.ρ 5 := by have := k0; omega
            have d7 : wD0k3_7.den S1 = some [b2i true] := tr (p := (0 : Int) < S1.ρ 5) c7
            have c8 : S1.ρ 5 < (4194304 : Int) := by have := k0; omega
            have d8 : wD0k3_8.den S1 = some [b2i true] := tr (p := S1.ρ 5 < (4194304 : Int)) c8
            have d9 : wD0k3_9.den S1 = some [b2i false] := fls (p := (S1.Φ 60 [(S1.Φ 21 [S1.ρ 4])]) = (S1.Φ 22 [S1.ρ 4])) c6
            obtain ⟨o4, h_o4⟩ : ∃ o : Int, o = (IntKind.i64.wrap (S1.ρ 4 + (1 : Int))) := ⟨_, rfl⟩
            have u4 := h_o4
            rw [w_i64 (by omega) (by omega)] at u4
            have inv : InvD0 S n (n - (i + 1)) (S1.set (upd S1.ρ [(4, o4)]) [] 60 rfl hK) := ⟨i + 1, by omega, rfl, (show o4 = ((i + 1 : Nat) : Int) by omega), fr.set rfl rfl, hr⟩
            exact .inl ⟨_, _, (by omega : n - i = n - (i + 1) + 1), inv, _, [], _, 1000, _, [(7, 17)], (ai wD0k3_9 false d9 (ai wD0k3_8 true d8 (ai wD0k3_7 true d7 (ai wD0k3_6 true d6 (ai wD0k3_5 true d5 (ai wD0k3_4 true d4 (ai wD0k3_3 false d3 (ai wD0k3_2 false d2 (ai wD0k3_1 true d1 (ai wD0k3_0 true d0 (ain kTD .u8 3 dk (AlOk.nil _)))))))))))), hcs, LkOk.no _ _ _ _, (av 1 .i64 (an 4 (.bin .add (.var .i64 4) (.lit .i64 1)) (sm h_o4.symm) (av 5 .i64 (av 6 .i64 (av 5 .i64 (ar 60 (ar_var 60) (av 6 .i64 (ar 61 (ar_var 61) (av 6 .i64 (av 5 .i64 (av 6 .i64 (av 5 .i64 (av 5 .i64 (ar 60 (ar_var 60) (av 6 .i64 (ar 61 (ar_var 61) (asg_nil rfl))))))))))))))))), fun G => by kernel_rfl⟩
        · have d3 : wD0k3_3.den S1 = some [b2i true] := tr (p := S1.ρ 5 ≤ (S1.Φ 21 [S1.ρ 4])) (Int.not_lt.1 c3)
          obtain ⟨o4, h_o4⟩ : ∃ o : Int, o = (IntKind.i64.wrap (S1.ρ 4 + (1 : Int))) := ⟨_, rfl⟩
          have u4 := h_o4
          rw [w_i64 (by omega) (by omega)] at u4
          have inv : InvD0 S n (n - (i + 1)) (S1.set (upd S1.ρ [(4, o4)]) [] 60 rfl hK) := ⟨i + 1, by omega, rfl, (show o4 = ((i + 1 : Nat) : Int) by omega), fr.set rfl rfl, hr⟩
          exact .inl ⟨_, _, (by omega : n - i = n - (i + 1) + 1), inv, _, [], _, 1000, _, [], (ai wD0k3_3 true d3 (ai wD0k3_2 false d2 (ai wD0k3_1 true d1 (ai wD0k3_0 true d0 (ain kTD .u8 3 dk (AlOk.nil _)))))), hcs, LkOk.no _ _ _ _, (av 1 .i64 (an 4 (.bin .add (.var .i64 4) (.lit .i64 1)) (sm h_o4.symm) (av 5 .i64 (av 6 .i64 (av 5 .i64 (ar 60 (ar_var 60) (av 6 .i64 (ar 61 (ar_var 61) (av 6 .i64 (av 5 .i64 (av 6 .i64 (av 5 .i64 (av 5 .i64 (ar 60 (ar_var 60) (av 6 .i64 (ar 61 (ar_var 61) (asg_nil rfl))))))))))))))))), fun G => by kernel_rfl⟩
    · have d0 : wD0k3_0.den S1 = some [b2i false] := fls (p := S1.ρ 4 < S1.ρ 1) c0
      exact .inr ⟨by omega, fun T hT => ⟨_, [], _, 1000, _, [], (ai wD0k3_0 false d0 (ain kTD .u8 3 dk (AlOk.nil _))), hcs, LkOk.no _ _ _ _, (an 5 (.var .i64 5) (sm (hT.num 5 rfl)) (an 6 (.var .i64 6) (sm (hT.num 6 rfl)) (an 5 (.var .i64 5) (sm (hT.num 5 rfl)) (asg_arr (i := 60) (hT.row 60 rfl) (an 6 (.var .i64 6) (sm (hT.num 6 rfl)) (asg_arr (i := 61) (hT.row 61 rfl) (an 6 (.var .i64 6) (sm (hT.num 6 rfl)) (an 5 (.var .i64 5) (sm (hT.num 5 rfl)) (an 6 (.var .i64 6) (sm (hT.num 6 rfl)) (an 5 (.var .i64 5) (sm (hT.num 5 rfl)) (an 5 (.var .i64 5) (sm (hT.num 5 rfl)) (asg_arr (i := 60) (hT.row 60 rfl) (an 6 (.var .i64 6) (sm (hT.num 6 rfl)) (asg_arr (i := 61) (hT.row 61 rfl) (asg_nil hT.1))))))))))))))), fun G => by kernel_rfl⟩⟩
  · have dk : kTD.den S1 = some [4] := (show some [S1.Φ 20 [S1.ρ 4]] = _ from by rw [hk])
    by_cases c0 : S1.ρ 4 < S1.ρ 1
    · have d0 : wD0k4_0.den S1 = some [b2i true] := tr (p := S1.ρ 4 < S1.ρ 1) c0
      have c1 : ¬ (S1.ρ 4 < (0 : Int)) := by have := k0; omega
      have d1 : wD0k4_1.den S1 = some [b2i true] := tr (p := (0 : Int) ≤ S1.ρ 4) (Int.not_lt.1 c1)
      by_cases c2 : (S1.Φ 21 [S1.ρ 4]) < (0 : Int)
      · have d2 : wD0k4_2.den S1 = some [b2i true] := tr (p := (S1.Φ 21 [S1.ρ 4]) < (0 : Int)) c2
        obtain ⟨o4, h_o4⟩ : ∃ o : Int, o = (IntKind.i64.wrap (S1.ρ 4 + (1 : Int))) := ⟨_, rfl⟩
        have u4 := h_o4
        rw [w_i64 (by omega) (by omega)] at u4
        have inv : InvD0 S n (n - (i + 1)) (S1.set (upd S1.ρ [(4, o4)]) [] 60 rfl hK) := ⟨i + 1, by omega, rfl, (show o4 = ((i + 1 : Nat) : Int) by omega), fr.set rfl rfl, hr⟩
        exact .inl ⟨_, _, (by omega : n - i = n - (i + 1) + 1), inv, _, [], _, 1000, _, [], (ai wD0k4_2 true d2 (ai wD0k4_1 true d1 (ai wD0k4_0 true d0 (ain kTD .u8 4 dk (AlOk.nil _))))), hcs, LkOk.no _ _ _ _, (av 1 .i64 (an 4 (.bin .add (.var .i64 4) (.lit .i64 1)) (sm h_o4.symm) (av 5 .i64 (av 6 .i64 (av 5 .i64 (ar 60 (ar_var 60) (av 6 .i64 (ar 61 (ar_var 61) (av 6 .i64 (av 5 .i64 (av 6 .i64 (av 5 .i64 (av 5 .i64 (ar 60 (ar_var 60) (av 6 .i64 (ar 61 (ar_var 61) (asg_nil rfl))))))))))))))))), fun G => by kernel_rfl⟩
      · have d2 : wD0k4_2.den S1 = some [b2i false] := fls (p := (S1.Φ 21 [S1.ρ 4]) < (0 : Int)) c2
        by_cases c3 : (S1.Φ 21 [S1.ρ 4]) < S1.ρ 5
        · have d3 : wD0k4_3.den S1 = some [b2i false] := fls (p := S1.ρ 5 ≤ (S1.Φ 21 [S1.ρ 4])) (Int.not_le.2 c3)
          have d4 : wD0k4_4.den S1 = some [b2i true] := tr (p := (0 : Int) ≤ (S1.Φ 21 [S1.ρ 4])) (Int.not_lt.1 c2)
          have d5 : wD0k4_5.den S1 = some [b2i true] := tr (p := (S1.Φ 21 [S1.ρ 4]) < S1.ρ 5) c3
          have c6 : (0 : Int) < S1.ρ 5 := by have := k0; omega
          have d6 : wD0k4_6.den S1 = some [b2i true] := tr (p := (0 : Int) < S1.ρ 5) c6
          have c7 : S1.ρ 5 < (4194304 : Int) := by have := k0; omega
          have d7 : wD0k4_7.den S1 = some [b2i true] := tr (p := S1.ρ 5 < (4194304 : Int)) c7
          have c8 : (S1.Φ 60 [(S1.Φ 21 [S1.ρ 4])]) = (S1.Φ 60 [(S1.Φ 21 [S1.ρ 4])]) := rfl
          have d8 : wD0k4_8.den S1 = some [b2i false] := fls (p := (S1.Φ 60 [(S1.Φ 21 [S1.ρ 4])]) ≠ (S1.Φ 60 [(S1.Φ 21 [S1.ρ 4])])) (fun hh => hh c8)
          obtain ⟨o4, h_o4⟩ : ∃ o : Int, o = (IntKind.i64.wrap (S1.ρ 4 + (1 : Int))) := ⟨_, rfl⟩
          have u4 := h_o4
          rw [w_i64 (by omega) (by omega)] at u4
          have inv : InvD0 S n (n - (i + 1)) (S1.set (upd S1.ρ [(4, o4)]) [(60, (fun j => ifE j (S1.Φ 21 [S1.ρ 4]) (IntKind.u64.wrap ((S1.Φ 60 [(S1.Φ 21 [S1.ρ 4])]) + (S1.Φ 22 [S1.ρ 4]))) ((fun j => S1.Φ 60 [j]) j)))] 60 rfl hK) := ⟨i + 1, by omega, rfl, (show o4 = ((i + 1 : Nat) : Int) by omega), fr.set rfl rfl, hr⟩
          exact .inl ⟨_, _, (by omega : n - i = n - (i + 1) + 1), inv, _, [], _, 1000, _, [(7, 17)], (ai wD0k4_8 false d8 (ai wD0k4_7 true d7 (ai wD0k4_6 true d6 (ai wD0k4_5 true d5 (ai wD0k4_4 true d4 (ai wD0k4_3 false d3 (ai wD0k4_2 false d2 (ai wD0k4_1 true d1 (ai wD0k4_0 true d0 (ain kTD .u8 4 dk (AlOk.nil _))))))))))), hcs, LkOk.no _ _ _ _, (av 1 .i64 (an 4 (.bin .add (.var .i64 4) (.lit .i64 1)) (sm h_o4.symm) (av 5 .i64 (av 6 .i64 (av 5 .i64 (ar 60 (ar_upd (.app .i64 21 (.cons (.var .i64 4) .nil)) (.bin .add (.app .u64 60 (.cons (.app .i64 21 (.cons (.var .i64 4) .nil)) .nil)) (.app .u64 22 (.cons (.var .i64 4) .nil))) (i := (S1.Φ 21 [S1.ρ 4])) (v := (IntKind.u64.wrap ((S1.Φ 60 [(S1.Φ 21 [S1.ρ 4])]) + (S1.Φ 22 [S1.ρ 4])))) rfl rfl (by kernel_rfl) (ar_var 60)) (av 6 .i64 (ar 61 (ar_var 61) (av 6 .i64 (av 5 .i64 (av 6 .i64 (av 5 .i64 (av 5 .i64 (ar 60 (ar_upd (.app .i64 21 (.cons (.var .i64 4) .nil)) (.bin .add (.app .u64 60 (.cons (.app .i64 21 (.cons (.var .i64 4) .nil)) .nil)) (.app .u64 22 (.cons (.var .i64 4) .nil))) (i := (S1.Φ 21 [S1.ρ 4])) (v := (IntKind.u64.wrap ((S1.Φ 60 [(S1.Φ 21 [S1.ρ 4])]) + (S1.Φ 22 [S1.ρ 4])))) rfl rfl (by kernel_rfl) (ar_var 60)) (av 6 .i64 (ar 61 (ar_var 61) (asg_nil rfl))))))))))))))))), fun G => by kernel_rfl⟩
        · have d3 : wD0k4_3.den S1 = some [b2i true] := tr (p := S1.ρ 5 ≤ (S1.Φ 21 [S1.ρ 4])) (Int.not_lt.1 c3)
          obtain ⟨o4, h_o4⟩ : ∃ o : Int, o = (IntKind.i64.wrap (S1.ρ 4 + (1 : Int))) := ⟨_, rfl⟩
          have u4 := h_o4
          rw [w_i64 (by omega) (by omega)] at u4
          have inv : InvD0 S n (n - (i + 1)) (S1.set (upd S1.ρ [(4, o4)]) [] 60 rfl hK) := ⟨i + 1, by omega, rfl, (show o4 = ((i + 1 : Nat) : Int) by omega), fr.set rfl rfl, hr⟩
          exact .inl ⟨_, _, (by omega : n - i = n - (i + 1) + 1), inv, _, [], _, 1000, _, [], (ai wD0k4_3 true d3 (ai wD0k4_2 false d2 (ai wD0k4_1 true d1 (ai wD0k4_0 true d0 (ain kTD .u8 4 dk (AlOk.nil _)))))), hcs, LkOk.no _ _ _ _, (av 1 .i64 (an 4 (.bin .add (.var .i64 4) (.lit .i64 1)) (sm h_o4.symm) (av 5 .i64 (av 6 .i64 (av 5 .i64 (ar 60 (ar_var 60) (av 6 .i64 (ar 61 (ar_var 61) (av 6 .i64 (av 5 .i64 (av 6 .i64 (av 5 .i64 (av 5 .i64 (ar 60 (ar_var 60) (av 6 .i64 (ar 61 (ar_var 61) (asg_nil rfl))))))))))))))))), fun G => by kernel_rfl⟩
    · have d0 : wD0k4_0.den S1 = some [b2i false] := fls (p := S1.ρ 4 < S1.ρ 1) c0
      exact .inr ⟨by omega, fun T hT => ⟨_, [], _, 1000, _, [], (ai wD0k4_0 false d0 (ain kTD .u8 4 dk (AlOk.nil _))), hcs, LkOk.no _ _ _ _, (an 5 (.var .i64 5) (sm (hT.num 5 rfl)) (an 6 (.var .i64 6) (sm (hT.num 6 rfl)) (an 5 (.var .i64 5) (sm (hT.num 5 rfl)) (asg_arr (i := 60) (hT.row 60 rfl) (an 6 (.var .i64 6) (sm (hT.num 6 rfl)) (asg_arr (i := 61) (hT.row 61 rfl) (an 6 (.var .i64 6) (sm (hT.num 6 rfl)) (an 5 (.var .i64 5) (sm (hT.num 5 rfl)) (an 6 (.var .i64 6) (sm (hT.num 6 rfl)) (an 5 (.var .i64 5) (sm (hT.num 5 rfl)) (an 5 (.var .i64 5) (sm (hT.num 5 rfl)) (asg_arr (i := 60) (hT.row 60 rfl) (an 6 (.var .i64 6) (sm (hT.num 6 rfl)) (asg_arr (i := 61) (hT.row 61 rfl) (asg_nil hT.1))))))))))))))), fun G => by kernel_rfl⟩⟩
  · have dk : kTD.den S1 = some [5] := (show some [S1.Φ 20 [S1.ρ 4]] = _ from by rw [hk])
    by_cases c0 : S1.ρ 4 < S1.ρ 1
    · have d0 : wD0k5_0.den S1 = some [b2i true] := tr (p := S1.ρ 4 < S1.ρ 1) c0
      have c1 : ¬ (S1.ρ 4 < (0 : Int)) := by have := k0; omega
      have d1 : wD0k5_1.den S1 = some [b2i true] := tr (p := (0 : Int) ≤ S1.ρ 4) (Int.not_lt.1 c1)
      by_cases c2 : (S1.Φ 21 [S1.ρ 4]) < (0 : Int)
      · have d2 : wD0k5_2.den S1 = some [b2i true] := tr (p := (S1.Φ 21 [S1.ρ 4]) < (0 : Int)) c2
        obtain ⟨o4, h_o4⟩ : ∃ o : Int, o = (IntKind.i64.wrap (S1.ρ 4 + (1 : Int))) := ⟨_, rfl⟩
        have u4 := h_o4
        rw [w_i64 (by omega) (by omega)] at u4
        have inv : InvD0 S n (n - (i + 1)) (S1.set (upd S1.ρ [(4, o4)]) [] 60 rfl hK) := ⟨i + 1, by omega, rfl, (show o4 = ((i + 1 : Nat) : Int) by omega), fr.set rfl rfl, hr⟩
        exact .inl ⟨_, _, (by omega : n - i = n - (i + 1) + 1), inv, _, [], _, 1000, _, [], (ai wD0k5_2 true d2 (ai wD0k5_1 true d1 (ai wD0k5_0 true d0 (ain kTD .u8 5 dk (AlOk.nil _))))), hcs, LkOk.no _ _ _ _, (av 1 .i64 (an 4 (.bin .add (.var .i64 4) (.lit .i64 1)) (sm h_o4.symm) (av 5 .i64 (av 6 .i64 (av 5 .i64 (ar 60 (ar_var 60) (av 6 .i64 (ar 61 (ar_var 61) (av 6 .i64 (av 5 .i64 (av 6 .i64 (av 5 .i64 (av 5 .i64 (ar 60 (ar_var 60) (av 6 .i64 (ar 61 (ar_var 61) (asg_nil rfl))))))))))))))))), fun G => by kernel_rfl⟩
      · have d2 : wD0k5_2.den S1 = some [b2i false] := fls (p := (S1.Φ 21 [S1.ρ 4]) < (0 : Int)) c2
        by_cases c3 : (S1.Φ 21 [S1.ρ 4]) < S1.ρ 6
        · have d3 : wD0k5_3.den S1 = some [b2i false] := fls (p := S1.ρ 6 ≤ (S1.Φ 21 [S1.ρ 4])) (Int.not_le.2 c3)
          have d4 : wD0k5_4.den S1 = some [b2i true] := tr (p := (0 : Int) ≤ (S1.Φ 21 [S1.ρ 4])) (Int.not_lt.1 c2)
          have d5 : wD0k5_5.den S1 = some [b2i true] := tr (p := (S1.Φ 21 [S1.ρ 4]) < S1.ρ 6) c3
          have c6 : (IntKind.u64.wrap ((S1.Φ 61 [(S1.Φ 21 [S1.ρ 4])]))) = (IntKind.u64.wrap ((S1.Φ 61 [(S1.Φ 21 [S1.ρ 4])]))) := rfl
          have d6 : wD0k5_6.den S1 = some [b2i false] := fls (p := (IntKind.u64.wrap ((S1.Φ 61 [(S1.Φ 21 [S1.ρ 4])]))) ≠ (IntKind.u64.wrap ((S1.Φ 61 [(S1.Φ 21 [S1.ρ 4])])))) (fun hh => hh c6)
          obtain ⟨o4, h_o4⟩ : ∃ o : Int, o = (IntKind.i64.wrap (S1.ρ 4 + (1 : Int))) := ⟨_, rfl⟩
          have u4 := h_o4
          rw [w_i64 (by omega) (by omega)] at u4
          have inv : InvD0 S n (n - (i + 1)) (S1.set (upd S1.ρ [(4, o4)]) [] 60 rfl hK) := ⟨i + 1, by omega, rfl, (show o4 = ((i + 1 : Nat) : Int) by omega), fr.set rfl rfl, hr⟩
          exact .inl ⟨_, _, (by omega : n - i = n - (i + 1) + 1), inv, _, [], _, 1000, _, [], (ai wD0k5_6 false d6 (ai wD0k5_5 true d5 (ai wD0k5_4 true d4 (ai wD0k5_3 false d3 (ai wD0k5_2 false d2 (ai wD0k5_1 true d1 (ai wD0k5_0 true d0 (ain kTD .u8 5 dk (AlOk.nil _))))))))), hcs, LkOk.no _ _ _ _, (av 1 .i64 (an 4 (.bin .add (.var .i64 4) (.lit .i64 1)) (sm h_o4.symm) (av 5 .i64 (av 6 .i64 (av 5 .i64 (ar 60 (ar_var 60) (av 6 .i64 (ar 61 (ar_var 61) (av 6 .i64 (av 5 .i64 (av 6 .i64 (av 5 .i64 (av 5 .i64 (ar 60 (ar_var 60) (av 6 .i64 (ar 61 (ar_var 61) (asg_nil rfl))))))))))))))))), fun G => by kernel_rfl⟩
        · have d3 : wD0k5_3.den S1 = some [b2i true] := tr (p := S1.ρ 6 ≤ (S1.Φ 21 [S1.ρ 4])) (Int.not_lt.1 c3)
          obtain ⟨o4, h_o4⟩ : ∃ o : Int, o = (IntKind.i64.wrap (S1.ρ 4 + (1 : Int))) := ⟨_, rfl⟩
          have u4 := h_o4
          rw [w_i64 (by omega) (by omega)] at u4
          have inv : InvD0 S n (n - (i + 1)) (S1.set (upd S1.ρ [(4, o4)]) [] 60 rfl hK) := ⟨i + 1, by omega, rfl, (show o4 = ((i + 1 : Nat) : Int) by omega), fr.set rfl rfl, hr⟩
          exact .inl ⟨_, _, (by omega : n - i = n - (i + 1) + 1), inv, _, [], _, 1000, _, [], (ai wD0k5_3 true d3 (ai wD0k5_2 false d2 (ai wD0k5_1 true d1 (ai wD0k5_0 true d0 (ain kTD .u8 5 dk (AlOk.nil _)))))), hcs, LkOk.no _ _ _ _, (av 1 .i64 (an 4 (.bin .add (.var .i64 4) (.lit .i64 1)) (sm h_o4.symm) (av 5 .i64 (av 6 .i64 (av 5 .i64 (ar 60 (ar_var 60) (av 6 .i64 (ar 61 (ar_var 61) (av 6 .i64 (av 5 .i64 (av 6 .i64 (av 5 .i64 (av 5 .i64 (ar 60 (ar_var 60) (av 6 .i64 (ar 61 (ar_var 61) (asg_nil rfl))))))))))))))))), fun G => by kernel_rfl⟩
    · have d0 : wD0k5_0.den S1 = some [b2i false] := fls (p := S1.ρ 4 < S1.ρ 1) c0
      exact .inr ⟨by omega, fun T hT => ⟨_, [], _, 1000, _, [], (ai wD0k5_0 false d0 (ain kTD .u8 5 dk (AlOk.nil _))), hcs, LkOk.no _ _ _ _, (an 5 (.var .i64 5) (sm (hT.num 5 rfl)) (an 6 (.var .i64 6) (sm (hT.num 6 rfl)) (an 5 (.var .i64 5) (sm (hT.num 5 rfl)) (asg_arr (i := 60) (hT.row 60 rfl) (an 6 (.var .i64 6) (sm (hT.num 6 rfl)) (asg_arr (i := 61) (hT.row 61 rfl) (an 6 (.var .i64 6) (sm (hT.num 6 rfl)) (an 5 (.var .i64 5) (sm (hT.num 5 rfl)) (an 6 (.var .i64 6) (sm (hT.num 6 rfl)) (an 5 (.var .i64 5) (sm (hT.num 5 rfl)) (an 5 (.var .i64 5) (sm (hT.num 5 rfl)) (asg_arr (i := 60) (hT.row 60 rfl) (an 6 (.var .i64 6) (sm (hT.num 6 rfl)) (asg_arr (i := 61) (hT.row 61 rfl) (asg_nil hT.1))))))))))))))), fun G => by kernel_rfl⟩⟩
  · have dk : kTD.den S1 = some [6] := (show some [S1.Φ 20 [S1.ρ 4]] = _ from by rw [hk])
    by_cases c0 : S1.ρ 4 < S1.ρ 1
    · have d0 : wD0k6_0.den S1 = some [b2i true] := tr (p := S1.ρ 4 < S1.ρ 1) c0
      have c1 : ¬ (S1.ρ 4 < (0 : Int)) := by have := k0; omega
      have d1 : wD0k6_1.den S1 = some [b2i true] := tr (p := (0 : Int) ≤ S1.ρ 4) (Int.not_lt.1 c1)
      by_cases c2 : (S1.Φ 21 [S1.ρ 4]) < (0 : Int)
      · have d2 : wD0k6_2.den S1 = some [b2i true] := tr (p := (S1.Φ 21 [S1.ρ 4]) < (0 : Int)) c2
        obtain ⟨o4, h_o4⟩ : ∃ o : Int, o = (IntKind.i64.wrap (S1.ρ 4 + (1 : Int))) := ⟨_, rfl⟩
        have u4 := h_o4
        rw [w_i64 (by omega) (by omega)] at u4
        have inv : InvD0 S n (n - (i + 1)) (S1.set (upd S1.ρ [(4, o4)]) [] 60 rfl hK) := ⟨i + 1, by omega, rfl, (show o4 = ((i + 1 : Nat) : Int) by omega), fr.set rfl rfl, hr⟩
        exact .inl ⟨_, _, (by omega : n - i = n - (i + 1) + 1), inv, _, [], _, 1000, _, [], (ai wD0k6_2 true d2 (ai wD0k6_1 true d1 (ai wD0k6_0 true d0 (ain kTD .u8 6 dk (AlOk.nil _))))), hcs, LkOk.no _ _ _ _, (av 1 .i64 (an 4 (.bin .add (.var .i64 4) (.lit .i64 1)) (sm h_o4.symm) (av 5 .i64 (av 6 .i64 (av 5 .i64 (ar 60 (ar_var 60) (av 6 .i64 (ar 61 (ar_var 61) (av 6 .i64 (av 5 .i64 (av 6 .i64 (av 5 .i64 (av 5 .i64 (ar 60 (ar_var 60) (av 6 .i64 (ar 61 (ar_var 61) (asg_nil rfl))))))))))))))))), fun G => by kernel_rfl⟩
      · have d2 : wD0k6_2.den S1 = some [b2i false] := fls (p := (S1.Φ 21 [S1.ρ 4]) < (0 : Int)) c2
        by_cases c3 : (S1.Φ 21 [S1.ρ 4]) < S1.ρ 6
        · have d3 : wD0k6_3.den S1 = some [b2i false] := fls (p := S1.ρ 6 ≤ (S1.Φ 21 [S1.ρ 4])) (Int.not_le.2 c3)
          have d4 : wD0k6_4.den S1 = some [b2i true] := tr (p := (0 : Int) ≤ (S1.Φ 21 [S1.ρ 4])) (Int.not_lt.1 c2)
          have d5 : wD0k6_5.den S1 = some [b2i true] := tr (p := (S1.Φ 21 [S1.ρ 4]) < S1.ρ 6) c3
          have c6 : (0 : Int) < S1.ρ 6 := by have := k0; omega
          have d6 : wD0k6_6.den S1 = some [b2i true] := tr (p := (0 : Int) < S1.ρ 6) c6
          have c7 : S1.ρ 6 < (4194304 : Int) := by have := k0; omega
          have d7 : wD0k6_7.den S1 = some [b2i true] := tr (p := S1.ρ 6 < (4194304 : Int)) c7
          obtain ⟨o4, h_o4⟩ : ∃ o : Int, o = (IntKind.i64.wrap (S1.ρ 4 + (1 : Int))) := ⟨_, rfl⟩
          have u4 := h_o4
          rw [w_i64 (by omega) (by omega)] at u4
          have inv : InvD0 S n (n - (i + 1)) (S1.set (upd S1.ρ [(4, o4)]) [(61, (fun j => ifE j (S1.Φ 21 [S1.ρ 4]) (IntKind.u8.wrap ((S1.Φ 22 [S1.ρ 4]))) ((fun j => S1.Φ 61 [j]) j)))] 60 rfl hK) := ⟨i + 1, by omega, rfl, (show o4 = ((i + 1 : Nat) : Int) by omega), fr.set rfl rfl, fun j => ifE_in (P := fun z => 0 ≤ z ∧ z < 256) (u8_in _) hr j⟩
          exact .inl ⟨_, _, (by omega : n - i = n - (i + 1) + 1), inv, _, [], _, 1000, _, [(8, 17)], (ai wD0k6_7 true d7 (ai wD0k6_6 true d6 (ai wD0k6_5 true d5 (ai wD0k6_4 true d4 (ai wD0k6_3 false d3 (ai wD0k6_2 false d2 (ai wD0k6_1 true d1 (ai wD0k6_0 true d0 (ain kTD .u8 6 dk (AlOk.nil _)))))))))), hcs, LkOk.no _ _ _ _, (av 1 .i64 (an 4 (.bin .add (.var .i64 4) (.lit .i64 1)) (sm h_o4.symm) (av 5 .i64 (av 6 .i64 (av 5 .i64 (ar 60 (ar_var 60) (av 6 .i64 (ar 61 (ar_upd (.app .i64 21 (.cons (.var .i64 4) .nil)) (.conv .u8 (.app .u64 22 (.cons (.var .i64 4) .nil))) (i := (S1.Φ 21 [S1.ρ 4])) (v := (IntKind.u8.wrap ((S1.Φ 22 [S1.ρ 4])))) rfl rfl (by kernel_rfl) (ar_var 61)) (av 6 .i64 (av 5 .i64 (av 6 .i64 (av 5 .i64 (av 5 .i64 (ar 60 (ar_var 60) (av 6 .i64 (ar 61 (ar_upd (.app .i64 21 (.cons (.var .i64 4) .nil)) (.conv .u8 (.bin .rem (.app .u64 22 (.cons (.var .i64 4) .nil)) (.lit .u64 256))) (i := (S1.Φ 21 [S1.ρ 4])) (v := (IntKind.u8.wrap ((((S1.Φ 22 [S1.ρ 4])).tmod (256 : Int))))) rfl rfl (by kernel_rfl) (ar_var 61)) (asg_nil rfl) (fun j => congrArg (fun q => ifE (j : Int) (S1.Φ 21 [S1.ρ 4]) q ((fun j => S1.Φ 61 [j]) (j : Int))) (show (IntKind.u8.wrap ((((S1.Φ 22 [S1.ρ 4])).tmod (256 : Int)))) = (IntKind.u8.wrap ((S1.Φ 22 [S1.ρ 4]))) from by rw [Int.tmod_eq_emod_of_nonneg (k2 (by omega))]; simp only [mod_u8]; omega)))))))))))))))))), fun G => by kernel_rfl⟩
        · have d3 : wD0k6_3.den S1 = some [b2i true] := tr (p := S1.ρ 6 ≤ (S1.Φ 21 [S1.ρ 4])) (Int.not_lt.1 c3)
          obtain ⟨o4, h_o4⟩ : ∃ o : Int, o = (IntKind.i64.wrap (S1.ρ 4 + (1 : Int))) := ⟨_, rfl⟩
          have u4 := h_o4
          rw [w_i64 (by omega) (by omega)] at u4
          have inv : InvD0 S n (n - (i + 1)) (S1.set (upd S1.ρ [(4, o4)]) [] 60 rfl hK) := ⟨i + 1, by omega, rfl, (show o4 = ((i + 1 : Nat) : Int) by omega), fr.set rfl rfl, hr⟩
          exact .inl ⟨_, _, (by omega : n - i = n - (i + 1) + 1), inv, _, [], _, 1000, _, [], (ai wD0k6_3 true d3 (ai wD0k6_2 false d2 (ai wD0k6_1 true d1 (ai wD0k6_0 true d0 (ain kTD .u8 6 dk (AlOk.nil _)))))), hcs, LkOk.no _ _ _ _, (av 1 .i64 (an 4 (.bin .add (.var .i64 4) (.lit .i64 1)) (sm h_o4.symm) (av 5 .i64 (av 6 .i64 (av 5 .i64 (ar 60 (ar_var 60) (av 6 .i64 (ar 61 (ar_var 61) (av 6 .i64 (av 5 .i64 (av 6 .i64 (av 5 .i64 (av 5 .i64 (ar 60 (ar_var 60) (av 6 .i64 (ar 61 (ar_var 61) (asg_nil rfl))))))))))))))))), fun G => by kernel_rfl⟩
    · have d0 : wD0k6_0.den S1 = some [b2i false] := fls (p := S1.ρ 4 < S1.ρ 1) c0
      exact .inr ⟨by omega, fun T hT => ⟨_, [], _, 1000, _, [], (ai wD0k6_0 false d0 (ain kTD .u8 6 dk (AlOk.nil _))), hcs, LkOk.no _ _ _ _, (an 5 (.var .i64 5) (sm (hT.num 5 rfl)) (an 6 (.var .i64 6) (sm (hT.num 6 rfl)) (an 5 (.var .i64 5) (sm (hT.num 5 rfl)) (asg_arr (i := 60) (hT.row 60 rfl) (an 6 (.var .i64 6) (sm (hT.num 6 rfl)) (asg_arr (i := 61) (hT.row 61 rfl) (an 6 (.var .i64 6) (sm (hT.num 6 rfl)) (an 5 (.var .i64 5) (sm (hT.num 5 rfl)) (an 6 (.var .i64 6) (sm (hT.num 6 rfl)) (an 5 (.var .i64 5) (sm (hT.num 5 rfl)) (an 5 (.var .i64 5) (sm (hT.num 5 rfl)) (asg_arr (i := 60) (hT.row 60 rfl) (an 6 (.var .i64 6) (sm (hT.num 6 rfl)) (asg_arr (i := 61) (hT.row 61 rfl) (asg_nil hT.1))))))))))))))), fun G => by kernel_rfl⟩⟩
  · by_cases c0 : S1.ρ 4 < S1.ρ 1
    · have d0 : wD0k7_0.den S1 = some [b2i true] := tr (p := S1.ρ 4 < S1.ρ 1) c0
      have c1 : ¬ (S1.ρ 4 < (0 : Int)) := by have := k0; omega
      have d1 : wD0k7_1.den S1 = some [b2i true] := tr (p := (0 : Int) ≤ S1.ρ 4) (Int.not_lt.1 c1)
      have c2 : ¬ ((IntKind.i64.wrap ((S1.Φ 20 [S1.ρ 4]))) < (7 : Int)) := by have := k0 (by omega); rw [w_i64 (by omega) (by omega)]; omega
      have d2 : wD0k7_2.den S1 = some [b2i true] := tr (p := (7 : Int) ≤ (IntKind.i64.wrap ((S1.Φ 20 [S1.ρ 4])))) (Int.not_lt.1 c2)
      by_cases c3 : (S1.Φ 20 [S1.ρ 4]) = (5 : Int)
      · have d3 : wD0k7_3.den S1 = some [b2i true] := tr (p := (S1.Φ 20 [S1.ρ 4]) = (5 : Int)) c3
        by_cases c4 : (S1.Φ 21 [S1.ρ 4]) < (0 : Int)
        · have d4 : wD0k7_4.den S1 = some [b2i true] := tr (p := (S1.Φ 21 [S1.ρ 4]) < (0 : Int)) c4
          obtain ⟨o4, h_o4⟩ : ∃ o : Int, o = (IntKind.i64.wrap (S1.ρ 4 + (1 : Int))) := ⟨_, rfl⟩
          have u4 := h_o4
          rw [w_i64 (by omega) (by omega)] at u4
          have inv : InvD0 S n (n - (i + 1)) (S1.set (upd S1.ρ [(4, o4)]) [] 60 rfl hK) := ⟨i + 1, by omega, rfl, (show o4 = ((i + 1 : Nat) : Int) by omega), fr.set rfl rfl, hr⟩
          exact .inl ⟨_, _, (by omega : n - i = n - (i + 1) + 1), inv, _, [], _, 1000, _, [], (ai wD0k7_4 true d4 (ai wD0k7_3 true d3 (ai wD0k7_2 true d2 (ai wD0k7_1 true d1 (ai wD0k7_0 true d0 (AlOk.nil _)))))), hcs, LkOk.no _ _ _ _, (av 1 .i64 (an 4 (.bin .add (.var .i64 4) (.lit .i64 1)) (sm h_o4.symm) (av 5 .i64 (av 6 .i64 (av 5 .i64 (ar 60 (ar_var 60) (av 6 .i64 (ar 61 (ar_var 61) (av 6 .i64 (av 5 .i64 (av 6 .i64 (av 5 .i64 (av 5 .i64 (ar 60 (ar_var 60) (av 6 .i64 (ar 61 (ar_var 61) (asg_nil rfl))))))))))))))))), fun G => by kernel_rfl⟩
        · have d4 : wD0k7_4.den S1 = some [b2i false] := fls (p := (S1.Φ 21 [S1.ρ 4]) < (0 : Int)) c4
          have c5 : ¬ ((S1.Φ 21 [S1.ρ 4]) < S1.ρ 6) := by have := k0; omega
          have d5 : wD0k7_5.den S1 = some [b2i true] := tr (p := S1.ρ 6 ≤ (S1.Φ 21 [S1.ρ 4])) (Int.not_lt.1 c5)
          obtain ⟨o4, h_o4⟩ : ∃ o : Int, o = (IntKind.i64.wrap (S1.ρ 4 + (1 : Int))) := ⟨_, rfl⟩
          have u4 := h_o4
          rw [w_i64 (by omega) (by omega)] at u4
          have inv : InvD0 S n (n - (i + 1)) (S1.set (upd S1.ρ [(4, o4)]) [] 60 rfl hK) := ⟨i + 1, by omega, rfl, (show o4 = ((i + 1 : Nat) : Int) by omega), fr.set rfl rfl, hr⟩
          exact .inl ⟨_, _, (by omega : n - i = n - (i + 1) + 1), inv, _, [], _, 1000, _, [], (ai wD0k7_5 true d5 (ai wD0k7_4 false d4 (ai wD0k7_3 true d3 (ai wD0k7_2 true d2 (ai wD0k7_1 true d1 (ai wD0k7_0 true d0 (AlOk.nil _))))))), hcs, LkOk.no _ _ _ _, (av 1 .i64 (an 4 (.bin .add (.var .i64 4) (.lit .i64 1)) (sm h_o4.symm) (av 5 .i64 (av 6 .i64 (av 5 .i64 (ar 60 (ar_var 60) (av 6 .i64 (ar 61 (ar_var 61) (av 6 .i64 (av 5 .i64 (av 6 .i64 (av 5 .i64 (av 5 .i64 (ar 60 (ar_var 60) (av 6 .i64 (ar 61 (ar_var 61) (asg_nil rfl))))))))))))))))), fun G => by kernel_rfl⟩
      · have d3 : wD0k7_3.den S1 = some [b2i false] := fls (p := (S1.Φ 20 [S1.ρ 4]) = (5 : Int)) c3
        by_cases c4 : (S1.Φ 20 [S1.ρ 4]) = (6 : Int)
        · have d4 : wD0k7_6.den S1 = some [b2i true] := tr (p := (S1.Φ 20 [S1.ρ 4]) = (6 : Int)) c4
          by_cases c5 : (S1.Φ 21 [S1.ρ 4]) < (0 : Int)
          · have d5 : wD0k7_4.den S1 = some [b2i true] := tr (p := (S1.Φ 21 [S1.ρ 4]) < (0 : Int)) c5
            obtain ⟨o4, h_o4⟩ : ∃ o : Int, o = (IntKind.i64.wrap (S1.ρ 4 + (1 : Int))) := ⟨_, rfl⟩
            have u4 := h_o4
            rw [w_i64 (by omega) (by omega)] at u4
            have inv : InvD0 S n (n - (i + 1)) (S1.set (upd S1.ρ [(4, o4)]) [] 60 rfl hK) := ⟨i + 1, by omega, rfl, (show o4 = ((i + 1 : Nat) : Int) by omega), fr.set rfl rfl, hr⟩
            exact .inl ⟨_, _, (by omega : n - i = n - (i + 1) + 1), inv, _, [], _, 1000, _, [], (ai wD0k7_4 true d5 (ai wD0k7_6 true d4 (ai wD0k7_3 false d3 (ai wD0k7_2 true d2 (ai wD0k7_1 true d1 (ai wD0k7_0 true d0 (AlOk.nil _))))))), hcs, LkOk.no _ _ _ _, (av 1 .i64 (an 4 (.bin .add (.var .i64 4) (.lit .i64 1)) (sm h_o4.symm) (av 5 .i64 (av 6 .i64 (av 5 .i64 (ar 60 (ar_var 60) (av 6 .i64 (ar 61 (ar_var 61) (av 6 .i64 (av 5 .i64 (av 6 .i64 (av 5 .i64 (av 5 .i64 (ar 60 (ar_var 60) (av 6 .i64 (ar 61 (ar_var 61) (asg_nil rfl))))))))))))))))), fun G => by kernel_rfl⟩
          · have d5 : wD0k7_4.den S1 = some [b2i false] := fls (p := (S1.Φ 21 [S1.ρ 4]) < (0 : Int)) c5
            have c6 : ¬ ((S1.Φ 21 [S1.ρ 4]) < S1.ρ 6) := by have := k0; omega
            have d6 : wD0k7_5.den S1 = some [b2i true] := tr (p := S1.ρ 6 ≤ (S1.Φ 21 [S1.ρ 4])) (Int.not_lt.1 c6)
            obtain ⟨o4, h_o4⟩ : ∃ o : Int, o = (IntKind.i64.wrap (S1.ρ 4 + (1 : Int))) := ⟨_, rfl⟩
            have u4 := h_o4
            rw [w_i64 (by omega) (by omega)] at u4
            have inv : InvD0 S n (n - (i + 1)) (S1.set (upd S1.ρ [(4, o4)]) [] 60 rfl hK) := ⟨i + 1, by omega, rfl, (show o4 = ((i + 1 : Nat) : Int) by omega), fr.set rfl rfl, hr⟩
            exact .inl ⟨_, _, (by omega : n - i = n - (i + 1) + 1), inv, _, [], _, 1000, _, [], (ai wD0k7_5 true d6 (ai wD0k7_4 false d5 (ai wD0k7_6 true d4 (ai wD0k7_3 false d3 (ai wD0k7_2 true d2 (ai wD0k7_1 true d1 (ai wD0k7_0 true d0 (AlOk.nil _)))))))), hcs, LkOk.no _ _ _ _, (av 1 .i64 (an 4 (.bin .add (.var .i64 4) (.lit .i64 1)) (sm h_o4.symm) (av 5 .i64 (av 6 .i64 (av 5 .i64 (ar 60 (ar_var 60) (av 6 .i64 (ar 61 (ar_var 61) (av 6 .i64 (av 5 .i64 (av 6 .i64 (av 5 .i64 (av 5 .i64 (ar 60 (ar_var 60) (av 6 .i64 (ar 61 (ar_var 61) (asg_nil rfl))))))))))))))))), fun G => by kernel_rfl⟩
        · have d4 : wD0k7_6.den S1 = some [b2i false] := fls (p := (S1.Φ 20 [S1.ρ 4]) = (6 : Int)) c4
          by_cases c5 : (S1.Φ 20 [S1.ρ 4]) < (1 : Int)
          · have d5 : wD0k7_7.den S1 = some [b2i true] := tr (p := (S1.Φ 20 [S1.ρ 4]) < (1 : Int)) c5
            obtain ⟨o4, h_o4⟩ : ∃ o : Int, o = (IntKind.i64.wrap (S1.ρ 4 + (1 : Int))) := ⟨_, rfl⟩
            have u4 := h_o4
            rw [w_i64 (by omega) (by omega)] at u4
            have inv : InvD0 S n (n - (i + 1)) (S1.set (upd S1.ρ [(4, o4)]) [] 60 rfl hK) := ⟨i + 1, by omega, rfl, (show o4 = ((i + 1 : Nat) : Int) by omega), fr.set rfl rfl, hr⟩
            exact .inl ⟨_, _, (by omega : n - i = n - (i + 1) + 1), inv, _, [], _, 1000, _, [], (ai wD0k7_7 true d5 (ai wD0k7_6 false d4 (ai wD0k7_3 false d3 (ai wD0k7_2 true d2 (ai wD0k7_1 true d1 (ai wD0k7_0 true d0 (AlOk.nil _))))))), hcs, LkOk.no _ _ _ _, (av 1 .i64 (an 4 (.bin .add (.var .i64 4) (.lit .i64 1)) (sm h_o4.symm) (av 5 .i64 (av 6 .i64 (av 5 .i64 (ar 60 (ar_var 60) (av 6 .i64 (ar 61 (ar_var 61) (av 6 .i64 (av 5 .i64 (av 6 .i64 (av 5 .i64 (av 5 .i64 (ar 60 (ar_var 60) (av 6 .i64 (ar 61 (ar_var 61) (asg_nil rfl))))))))))))))))), fun G => by kernel_rfl⟩
          · have d5 : wD0k7_7.den S1 = some [b2i false] := fls (p := (S1.Φ 20 [S1.ρ 4]) < (1 : Int)) c5
            by_cases c6 : (6 : Int) < (S1.Φ 20 [S1.ρ 4])
            · have d6 : wD0k7_8.den S1 = some [b2i true] := tr (p := (6 : Int) < (S1.Φ 20 [S1.ρ 4])) c6
              obtain ⟨o4, h_o4⟩ : ∃ o : Int, o = (IntKind.i64.wrap (S1.ρ 4 + (1 : Int))) := ⟨_, rfl⟩
              have u4 := h_o4
              rw [w_i64 (by omega) (by omega)] at u4
              have inv : InvD0 S n (n - (i + 1)) (S1.set (upd S1.ρ [(4, o4)]) [] 60 rfl hK) := ⟨i + 1, by omega, rfl, (show o4 = ((i + 1 : Nat) : Int) by omega), fr.set rfl rfl, hr⟩
              exact .inl ⟨_, _, (by omega : n - i = n - (i + 1) + 1), inv, _, [], _, 1000, _, [], (ai wD0k7_8 true d6 (ai wD0k7_7 false d5 (ai wD0k7_6 false d4 (ai wD0k7_3 false d3 (ai wD0k7_2 true d2 (ai wD0k7_1 true d1 (ai wD0k7_0 true d0 (AlOk.nil _)))))))), hcs, LkOk.no _ _ _ _, (av 1 .i64 (an 4 (.bin .add (.var .i64 4) (.lit .i64 1)) (sm h_o4.symm) (av 5 .i64 (av 6 .i64 (av 5 .i64 (ar 60 (ar_var 60) (av 6 .i64 (ar 61 (ar_var 61) (av 6 .i64 (av 5 .i64 (av 6 .i64 (av 5 .i64 (av 5 .i64 (ar 60 (ar_var 60) (av 6 .i64 (ar 61 (ar_var 61) (asg_nil rfl))))))))))))))))), fun G => by kernel_rfl⟩
            · have d6 : wD0k7_8.den S1 = some [b2i false] := fls (p := (6 : Int) < (S1.Φ 20 [S1.ρ 4])) c6
              by_cases c7 : (S1.Φ 21 [S1.ρ 4]) < (0 : Int)
              · have d7 : wD0k7_4.den S1 = some [b2i true] := tr (p := (S1.Φ 21 [S1.ρ 4]) < (0 : Int)) c7
                obtain ⟨o4, h_o4⟩ : ∃ o : Int, o = (IntKind.i64.wrap (S1.ρ 4 + (1 : Int))) := ⟨_, rfl⟩
                have u4 := h_o4
                rw [w_i64 (by omega) (by omega)] at u4
                have inv : InvD0 S n (n - (i + 1)) (S1.set (upd S1.ρ [(4, o4)]) [] 60 rfl hK) := ⟨i + 1, by omega, rfl, (show o4 = ((i + 1 : Nat) : Int) by omega), fr.set rfl rfl, hr⟩
                exact .inl ⟨_, _, (by omega : n - i = n - (i + 1) + 1), inv, _, [], _, 1000, _, [], (ai wD0k7_4 true d7 (ai wD0k7_8 false d6 (ai wD0k7_7 false d5 (ai wD0k7_6 false d4 (ai wD0k7_3 false d3 (ai wD0k7_2 true d2 (ai wD0k7_1 true d1 (ai wD0k7_0 true d0 (AlOk.nil _))))))))), hcs, LkOk.no _ _ _ _, (av 1 .i64 (an 4 (.bin .add (.var .i64 4) (.lit .i64 1)) (sm h_o4.symm) (av 5 .i64 (av 6 .i64 (av 5 .i64 (ar 60 (ar_var 60) (av 6 .i64 (ar 61 (ar_var 61) (av 6 .i64 (av 5 .i64 (av 6 .i64 (av 5 .i64 (av 5 .i64 (ar 60 (ar_var 60) (av 6 .i64 (ar 61 (ar_var 61) (asg_nil rfl))))))))))))))))), fun G => by kernel_rfl⟩
              · have d7 : wD0k7_4.den S1 = some [b2i false] := fls (p := (S1.Φ 21 [S1.ρ 4]) < (0 : Int)) c7
                have c8 : ¬ ((S1.Φ 21 [S1.ρ 4]) < S1.ρ 5) := by have := k0; omega
                have d8 : wD0k7_9.den S1 = some [b2i true] := tr (p := S1.ρ 5 ≤ (S1.Φ 21 [S1.ρ 4])) (Int.not_lt.1 c8)
                obtain ⟨o4, h_o4⟩ : ∃ o : Int, o = (IntKind.i64.wrap (S1.ρ 4 + (1 : Int))) := ⟨_, rfl⟩
                have u4 := h_o4
                rw [w_i64 (by omega) (by omega)] at u4
                have inv : InvD0 S n (n - (i + 1)) (S1.set (upd S1.ρ [(4, o4)]) [] 60 rfl hK) := ⟨i + 1, by omega, rfl, (show o4 = ((i + 1 : Nat) : Int) by omega), fr.set rfl rfl, hr⟩
                exact .inl ⟨_, _, (by omega : n - i = n - (i + 1) + 1), inv, _, [], _, 1000, _, [], (ai wD0k7_9 true d8 (ai wD0k7_4 false d7 (ai wD0k7_8 false d6 (ai wD0k7_7 false d5 (ai wD0k7_6 false d4 (ai wD0k7_3 false d3 (ai wD0k7_2 true d2 (ai wD0k7_1 true d1 (ai wD0k7_0 true d0 (AlOk.nil _)))))))))), hcs, LkOk.no _ _ _ _, (av 1 .i64 (an 4 (.bin .add (.var .i64 4) (.lit .i64 1)) (sm h_o4.symm) (av 5 .i64 (av 6 .i64 (av 5 .i64 (ar 60 (ar_var 60) (av 6 .i64 (ar 61 (ar_var 61) (av 6 .i64 (av 5 .i64 (av 6 .i64 (av 5 .i64 (av 5 .i64 (ar 60 (ar_var 60) (av 6 .i64 (ar 61 (ar_var 61) (asg_nil rfl))))))))))))))))), fun G => by kernel_rfl⟩
    · have d0 : wD0k7_0.den S1 = some [b2i false] := fls (p := S1.ρ 4 < S1.ρ 1) c0
      exact .inr ⟨by omega, fun T hT => ⟨_, [], _, 1000, _, [], (ai wD0k7_0 false d0 (AlOk.nil _)), hcs, LkOk.no _ _ _ _, (an 5 (.var .i64 5) (sm (hT.num 5 rfl)) (an 6 (.var .i64 6) (sm (hT.num 6 rfl)) (an 5 (.var .i64 5) (sm (hT.num 5 rfl)) (asg_arr (i := 60) (hT.row 60 rfl) (an 6 (.var .i64 6) (sm (hT.num 6 rfl)) (asg_arr (i := 61) (hT.row 61 rfl) (an 6 (.var .i64 6) (sm (hT.num 6 rfl)) (an 5 (.var .i64 5) (sm (hT.num 5 rfl)) (an 6 (.var .i64 6) (sm (hT.num 6 rfl)) (an 5 (.var .i64 5) (sm (hT.num 5 rfl)) (an 5 (.var .i64 5) (sm (hT.num 5 rfl)) (asg_arr (i := 60) (hT.row 60 rfl) (an 6 (.var .i64 6) (sm (hT.num 6 rfl)) (asg_arr (i := 61) (hT.row 61 rfl) (asg_nil hT.1))))))))))))))), fun G => by kernel_rfl⟩⟩
theorem loopD0 (hn : n < 9223372036854775807) (hb : S.ρ 1 = n) (h5 : 0 ≤ S.ρ 5 ∧ S.ρ 5 < 41) (h6 : 0 ≤ S.ρ 6 ∧ S.ρ 6 < 41) (hr20 : ∀ j : Nat, j < n → (0 ≤ S.Φ 20 [(j : Int)] ∧ S.Φ 20 [(j : Int)] < 256) ∧ 0 ≤ S.Φ 22 [(j : Int)]) (hK0 : ∀ x ∈ S.I, x.f + x.ks.length ≤ 60) (h0 : S.ρ 4 = 0) (hr : ∀ j : Int, 0 ≤ S.Φ 61 [j] ∧ S.Φ 61 [j] < 256) : ∃ Sf : Sy, (Sf.ρ 4 = n ∧ Stay [4] [60, 61] S Sf ∧ (∀ j : Int, 0 ≤ Sf.Φ 61 [j] ∧ Sf.Φ 61 [j] < 256)) ∧ ∀ T asg0, Same [5, 6] [60, 61] Sf T → AsgOk T S asg0 → LkAt Try.prog T [] (.loop (cAt Try.prog lpD0)) (lkLoopR Try.prog 7 [(7, 4), (8, 5)] X0D F0D (.exit 0) asg0) := by
  obtain ⟨m, k', Sf, hc, ⟨i, hin, hk, hiv, fr, hr⟩, hf⟩ := loop_ex (stepD0 S n hn hb h5 h6 hr20 hK0) n S ⟨0, Nat.zero_le _, rfl, h0, Stay.refl _ _ _, hr⟩
  have hk0 := hf.1
  obtain rfl : i = n := by omega
  exact ⟨Sf, ⟨hiv, fr, hr⟩, fun T asg0 hs ha => loop_chain envD (ann_self _) fineD0 (show X0D.N = F0D.N from rfl) (Nat.le_of_ble_eq_true rfl) hc (hf.2 T hs) ha⟩
end
def wD10 : Tm := (.bin .lss (.var .i64 11) (.var .i64 5))
def wD11 : Tm := (.bin .lss (.var .i64 11) (.lit .i64 0))
def wD12 : Tm := (.bin .geq (.var .i64 11) (.var .i64 5))
def wD13 : Tm := (.bin .geq (.var .i64 11) (.lit .i64 0))
def wD14 : Tm := (.bin .neq (.app .u64 60 (.cons (.var .i64 11) .nil)) (.app .u64 60 (.cons (.var .i64 11) .nil)))
section
variable (S : Sy) (n : Nat)
abbrev RD1 : Sy → Sy → Prop := StepTo Try.prog ftD ΛD [] (cAt Try.prog lpD1) X1D F1D 9
def InvD1 (k : Nat) (S1 : Sy) : Prop := ∃ i : Nat, i ≤ n ∧ k = n - i ∧ S1.ρ 11 = i ∧ Stay [11] [] S S1
def FinD1 (k : Nat) (S1 : Sy) : Prop := k = 0 ∧ ∀ T, Same [5, 6] [60, 61] S1 T → StepOut Try.prog ftD ΛD [] (cAt Try.prog lpD1) X1D F1D (.exit 2) 9 S1 T
set_option maxHeartbeats 4000000 in
theorem stepD1 (hn : n < 9223372036854775807) (hb : S.ρ 5 = n) (h5 : 0 ≤ S.ρ 5 ∧ S.ρ 5 < 41) (hK0 : ∀ x ∈ S.I, x.f + x.ks.length ≤ 60) (k : Nat) (S1 : Sy) (hi : InvD1 S n k S1) : (∃ k' S2, k = k' + 1 ∧ InvD1 S n k' S2 ∧ RD1 S1 S2) ∨ FinD1 k S1 := by
  obtain ⟨i, hin, rfl, hiv, fr⟩ := hi
  have hcs : ∀ c ∈ ([] : List Ctr), CtrOk Try.prog S1 [] c := fun c hc => by simp at hc
  have hK : ∀ x ∈ S1.I, x.f + x.ks.length ≤ 60 := by rw [fr.1]; exact hK0
  have e5 := fr.num 5 rfl
  have e6 := fr.num 6 rfl
  by_cases c0 : S1.ρ 11 < S1.ρ 5
  · have d0 : wD10.den S1 = some [b2i true] := tr (p := S1.ρ 11 < S1.ρ 5) c0
    have c1 : ¬ (S1.ρ 11 < (0 : Int)) := by omega
    have d1 : wD11.den S1 = some [b2i false] := fls (p := S1.ρ 11 < (0 : Int)) c1
    have d2 : wD12.den S1 = some [b2i false] := fls (p := S1.ρ 5 ≤ S1.ρ 11) (Int.not_le.2 c0)
    have d3 : wD13.den S1 = some [b2i true] := tr (p := (0 : Int) ≤ S1.ρ 11) (Int.not_lt.1 c1)
    have c4 : (S1.Φ 60 [S1.ρ 11]) = (S1.Φ 60 [S1.ρ 11]) := rfl
    have d4 : wD14.den S1 = some [b2i false] := fls (p := (S1.Φ 60 [S1.ρ 11]) ≠ (S1.Φ 60 [S1.ρ 11])) (fun hh => hh c4)
    obtain ⟨o11, h_o11⟩ : ∃ o : Int, o = (IntKind.i64.wrap (S1.ρ 11 + (1 : Int))) := ⟨_, rfl⟩
    have u11 := h_o11
    rw [w_i64 (by omega) (by omega)] at u11
    have inv : InvD1 S n (n - (i + 1)) (S1.set (upd S1.ρ [(11, o11)]) [] 60 rfl hK) := ⟨i + 1, by omega, rfl, (show o11 = ((i + 1 : Nat) : Int) by omega), fr.set rfl rfl⟩
    exact .inl ⟨_, _, (by omega : n - i = n - (i + 1) + 1), inv, _, [], _, 1000, _, [], (ai wD14 false d4 (ai wD13 true d3 (ai wD12 false d2 (ai wD11 false d1 (ai wD10 true d0 (AlOk.nil _)))))), hcs, LkOk.no _ _ _ _, (an 11 (.bin .add (.var .i64 11) (.lit .i64 1)) (sm h_o11.symm) (av 5 .i64 (av 6 .i64 (av 5 .i64 (ar 60 (ar_var 60) (av 6 .i64 (ar 61 (ar_var 61) (av 6 .i64 (av 5 .i64 (av 6 .i64 (av 5 .i64 (av 5 .i64 (ar 60 (ar_var 60) (av 6 .i64 (ar 61 (ar_var 61) (asg_nil rfl)))))))))))))))), fun G => by kernel_rfl⟩
  · have d0 : wD10.den S1 = some [b2i false] := fls (p := S1.ρ 11 < S1.ρ 5) c0
    exact .inr ⟨by omega, fun T hT => ⟨_, [], _, 1000, _, [], (ai wD10 false d0 (AlOk.nil _)), hcs, LkOk.no _ _ _ _, (an 5 (.var .i64 5) (sm (hT.num 5 rfl)) (an 6 (.var .i64 6) (sm (hT.num 6 rfl)) (an 5 (.var .i64 5) (sm (hT.num 5 rfl)) (asg_arr (i := 60) (hT.row 60 rfl) (an 6 (.var .i64 6) (sm (hT.num 6 rfl)) (asg_arr (i := 61) (hT.row 61 rfl) (an 6 (.var .i64 6) (sm (hT.num 6 rfl)) (an 5 (.var .i64 5) (sm (hT.num 5 rfl)) (an 6 (.var .i64 6) (sm (hT.num 6 rfl)) (an 5 (.var .i64 5) (sm (hT.num 5 rfl)) (an 5 (.var .i64 5) (sm (hT.num 5 rfl)) (asg_arr (i := 60) (hT.row 60 rfl) (an 6 (.var .i64 6) (sm (hT.num 6 rfl)) (asg_arr (i := 61) (hT.row 61 rfl) (asg_nil hT.1))))))))))))))), fun G => by kernel_rfl⟩⟩
theorem loopD1 (hn : n < 9223372036854775807) (hb : S.ρ 5 = n) (h5 : 0 ≤ S.ρ 5 ∧ S.ρ 5 < 41) (hK0 : ∀ x ∈ S.I, x.f + x.ks.length ≤ 60) (h0 : S.ρ 11 = 0) : ∃ Sf : Sy, (Sf.ρ 11 = n ∧ Stay [11] [] S Sf) ∧ ∀ T asg0, Same [5, 6] [60, 61] Sf T → AsgOk T S asg0 → LkAt Try.prog T [] (.loop (cAt Try.prog lpD1)) (lkLoopR Try.prog 9 [] X1D F1D (.exit 2) asg0) := by
  obtain ⟨m, k', Sf, hc, ⟨i, hin, hk, hiv, fr⟩, hf⟩ := loop_ex (stepD1 S n hn hb h5 hK0) n S ⟨0, Nat.zero_le _, rfl, h0, Stay.refl _ _ _⟩
  have hk0 := hf.1
  obtain rfl : i = n := by omega
  exact ⟨Sf, ⟨hiv, fr⟩, fun T asg0 hs ha => loop_chain envD (ann_self _) fineD1 (show X1D.N = F1D.N from rfl) (Nat.le_of_ble_eq_true rfl) hc (hf.2 T hs) ha⟩
end
def wD20 : Tm := (.bin .lss (.var .i64 14) (.var .i64 6))
def wD21 : Tm := (.bin .lss (.var .i64 14) (.lit .i64 0))
def wD22 : Tm := (.bin .geq (.var .i64 14) (.var .i64 6))
def wD23 : Tm := (.bin .geq (.var .i64 14) (.lit .i64 0))
def wD24 : Tm := (.bin .neq (.conv .u8 (.conv .u64 (.app .u8 61 (.cons (.var .i64 14) .nil)))) (.app .u8 61 (.cons (.var .i64 14) .nil)))
section
variable (S : Sy) (n : Nat)
abbrev RD2 : Sy → Sy → Prop := StepTo Try.prog ftD ΛD [] (cAt Try.prog lpD2) X2D F2D 9
def InvD2 (k : Nat) (S1 : Sy) : Prop := ∃ i : Nat, i ≤ n ∧ k = n - i ∧ S1.ρ 14 = i ∧ Stay [14] [] S S1
def FinD2 (k : Nat) (S1 : Sy) : Prop := k = 0 ∧ ∀ T, Same [] [] S1 T → StepOut Try.prog ftD ΛD [] (cAt Try.prog lpD2) X2D F2D (.exit 4) 9 S1 T
set_option maxHeartbeats 4000000 in
theorem stepD2 (hn : n < 9223372036854775807) (hb : S.ρ 6 = n) (h6 : 0 ≤ S.ρ 6 ∧ S.ρ 6 < 41) (hr : ∀ j : Int, 0 ≤ S.Φ 61 [j] ∧ S.Φ 61 [j] < 256) (hK0 : ∀ x ∈ S.I, x.f + x.ks.length ≤ 60) (k : Nat) (S1 : Sy) (hi : InvD2 S n k S1) : (∃ k' S2, k = k' + 1 ∧ InvD2 S n k' S2 ∧ RD2 S1 S2) ∨ FinD2 k S1 := by
  obtain ⟨i, hin, rfl, hiv, fr⟩ := hi
  have hcs : ∀ c ∈ ([] : List Ctr), CtrOk Try.prog S1 [] c := fun c hc => by simp at hc
  have hK : ∀ x ∈ S1.I, x.f + x.ks.length ≤ 60 := by rw [fr.1]; exact hK0
  have e5 := fr.num 5 rfl
  have e6 := fr.num 6 rfl
  have hr1 : ∀ j : Int, 0 ≤ S1.Φ 61 [j] ∧ S1.Φ 61 [j] < 256 := fun j => by rw [fr.fn 61 rfl]; exact hr j
  by_cases c0 : S1.ρ 14 < S1.ρ 6
  · have d0 : wD20.den S1 = some [b2i true] := tr (p := S1.ρ 14 < S1.ρ 6) c0
    have c1 : ¬ (S1.ρ 14 < (0 : Int)) := by omega
    have d1 : wD21.den S1 = some [b2i false] := fls (p := S1.ρ 14 < (0 : Int)) c1
    have d2 : wD22.den S1 = some [b2i false] := fls (p := S1.ρ 6 ≤ S1.ρ 14) (Int.not_le.2 c0)
    have d3 : wD23.den S1 = some [b2i true] := tr (p := (0 : Int) ≤ S1.ρ 14) (Int.not_lt.1 c1)
    have c4 : (IntKind.u8.wrap ((IntKind.u64.wrap ((S1.Φ 61 [S1.ρ 14]))))) = (S1.Φ 61 [S1.ρ 14]) := by have := hr1 (S1.ρ 14); simp only [mod_u8, mod_u64]; omega
    have d4 : wD24.den S1 = some [b2i false] := fls (p := (IntKind.u8.wrap ((IntKind.u64.wrap ((S1.Φ 61 [S1.ρ 14]))))) ≠ (S1.Φ 61 [S1.ρ 14])) (fun hh => hh c4)
    obtain ⟨o14, h_o14⟩ : ∃ o : Int, o = (IntKind.i64.wrap (S1.ρ 14 + (1 : Int))) := ⟨_, rfl⟩
    have u14 := h_o14
    rw [w_i64 (by omega) (by omega)] at u14
    have inv : InvD2 S n (n - (i + 1)) (S1.set (upd S1.ρ [(14, o14)]) [] 60 rfl hK) := ⟨i + 1, by omega, rfl, (show o14 = ((i + 1 : Nat) : Int) by omega), fr.set rfl rfl⟩
    exact .inl ⟨_, _, (by omega : n - i = n - (i + 1) + 1), inv, _, [], _, 1000, _, [], (ai wD24 false d4 (ai wD23 true d3 (ai wD22 false d2 (ai wD21 false d1 (ai wD20 true d0 (AlOk.nil _)))))), hcs, LkOk.no _ _ _ _, (an 14 (.bin .add (.var .i64 14) (.lit .i64 1)) (sm h_o14.symm) (av 5 .i64 (av 6 .i64 (av 5 .i64 (ar 60 (ar_var 60) (av 6 .i64 (ar 61 (ar_var 61) (av 6 .i64 (av 5 .i64 (av 6 .i64 (av 5 .i64 (av 5 .i64 (ar 60 (ar_var 60) (av 6 .i64 (ar 61 (ar_var 61) (asg_nil rfl)))))))))))))))), fun G => by kernel_rfl⟩
  · have d0 : wD20.den S1 = some [b2i false] := fls (p := S1.ρ 14 < S1.ρ 6) c0
    exact .inr ⟨by omega, fun T hT => ⟨_, [], _, 1000, _, [], (ai wD20 false d0 (AlOk.nil _)), hcs, LkOk.no _ _ _ _, (asg_nil hT.1), fun G => by kernel_rfl⟩⟩
theorem loopD2 (hn : n < 9223372036854775807) (hb : S.ρ 6 = n) (h6 : 0 ≤ S.ρ 6 ∧ S.ρ 6 < 41) (hr : ∀ j : Int, 0 ≤ S.Φ 61 [j] ∧ S.Φ 61 [j] < 256) (hK0 : ∀ x ∈ S.I, x.f + x.ks.length ≤ 60) (h0 : S.ρ 14 = 0) : ∃ Sf : Sy, (Sf.ρ 14 = n ∧ Stay [14] [] S Sf) ∧ ∀ T asg0, Same [] [] Sf T → AsgOk T S asg0 → LkAt Try.prog T [] (.loop (cAt Try.prog lpD2)) (lkLoopR Try.prog 9 [] X2D F2D (.exit 4) asg0) := by
  obtain ⟨m, k', Sf, hc, ⟨i, hin, hk, hiv, fr⟩, hf⟩ := loop_ex (stepD2 S n hn hb h6 hr hK0) n S ⟨0, Nat.zero_le _, rfl, h0, Stay.refl _ _ _⟩
  have hk0 := hf.1
  obtain rfl : i = n := by omega
  exact ⟨Sf, ⟨hiv, fr⟩, fun T asg0 hs ha => loop_chain envD (ann_self _) fineD2 (show X2D.N = F2D.N from rfl) (Nat.le_of_ble_eq_true rfl) hc (hf.2 T hs) ha⟩
end
def pd0 : Tm := (.bin .gtr (.var .i64 1) (.lit .i64 60))
def pd1 : Tm := (.bin .lss (.var .i64 5) (.lit .i64 0))
def pd2 : Tm := (.bin .gtr (.var .i64 5) (.lit .i64 2097152))
def pd3 : Tm := (.bin .lss (.var .i64 6) (.lit .i64 0))
def pd4 : Tm := (.bin .gtr (.var .i64 6) (.lit .i64 1048576))
def pd5 : Tm := (.bin .geq (.var .i64 5) (.lit .i64 0))
def pd6 : Tm := (.bin .lss (.var .i64 5) (.lit .i64 4194304))
def pd7 : Tm := (.bin .geq (.var .i64 6) (.lit .i64 0))
def pd8 : Tm := (.bin .lss (.var .i64 6) (.lit .i64 4194304))
def pd9 : Tm := (.bin .neq (.var .i64 5) (.var .i64 5))
def pd10 : Tm := (.bin .neq (.var .i64 6) (.var .i64 6))
theorem den_wD {S : Sy} {t : Tm} {i : Nat} {a : Int} (ha : 0 ≤ a) (ht : t = .conv .i64 (.bin .rem (.var .u8 i) (.lit .u8 41))) (hi : S.ρ i = a) : t.den S = some [a % 41] := by
  subst ht
  refine den_conv .i64 (x := a % 41) (den_bin (k := .u8) (r := a % 41) rfl (den_lit _ _) ?_) (w_i64 (by omega) (by omega))
  show (if (41 : Int) = 0 then none else some (Value.int .u8 ((S.ρ i).tmod 41))) = _
  rw [if_neg (by decide), hi, Int.tmod_eq_emod_of_nonneg ha]
set_option maxHeartbeats 4000000 in
theorem does_any (a b : Int) (ha : 0 ≤ a) (hb : 0 ≤ b) (v : Value) (w : World) (hs : SlIn w [some .u8, some .i64, some .u64, some .u64] v) : Calls Try.prog 3 #[.int .u8 a, .int .u8 b, v] w fun e w' => e = .returned (.bool true) ∧ Quiet w w' := by
  obtain ⟨x, F, hks, hf, rfl, hx, hwf, hok⟩ := inpw_of (by decide) hs 20
  have hall : ∀ z ∈ [x], ∃ F, InpW w z F := fun z hz => by
    rw [List.mem_singleton] at hz
    subst hz
    exact ⟨F, hok⟩
  have hxok : InpOk [x] (phi 20 4 F) x := inps_ok hall List.mem_cons_self hok fun m j hm => by
    rw [hks] at hm
    rw [hf]
    exact phi_in hm
  obtain ⟨SS, hSS⟩ : ∃ SS : Sy, SS = ⟨upd (fun _ => 0) [(1, (x.n : Int)), (2, a), (3, b), (5, a % 41), (6, b % 41)], phi 20 4 F, [x], fun z hz => by rw [List.mem_singleton] at hz; subst hz; exact hxok⟩ := ⟨_, rfl⟩
  have i1 : SS.ρ 1 = x.n := by rw [hSS]; rfl
  have i2 : SS.ρ 2 = a := by rw [hSS]; rfl
  have i3 : SS.ρ 3 = b := by rw [hSS]; rfl
  have i5 : SS.ρ 5 = a % 41 := by rw [hSS]; rfl
  have i6 : SS.ρ 6 = b % 41 := by rw [hSS]; rfl
  have iI : SS.I = [x] := by rw [hSS]
  have i9 : SS.Φ 9 [] = 1 := by rw [hSS]; exact phi_9 (f := 20) (m := 4) (F := F) (by decide)
  have hr20 : ∀ j : Nat, j < x.n → (0 ≤ SS.Φ 20 [(j : Int)] ∧ SS.Φ 20 [(j : Int)] < 256) ∧ 0 ≤ SS.Φ 22 [(j : Int)] := fun j hj => by
    have e : SS.Φ 20 [(j : Int)] = F 0 j := by rw [hSS]; exact phi_in (f := 20) (m := 4) (i := 0) (by decide)
    have e2 : SS.Φ 22 [(j : Int)] = F 2 j := by rw [hSS]; exact phi_in (f := 20) (m := 4) (i := 2) (by decide)
    rw [e, e2]
    exact ⟨wf_u8 (hwf 0 .u8 j rfl hj), (wf_u64 (hwf 2 .u64 j rfl hj)).1⟩
  have h5 : 0 ≤ SS.ρ 5 ∧ SS.ρ 5 < 41 := by omega
  have h6 : 0 ≤ SS.ρ 6 ∧ SS.ρ 6 < 41 := by omega
  obtain ⟨w5, hb5⟩ : ∃ w5 : Nat, SS.ρ 5 = w5 := ⟨(SS.ρ 5).toNat, by omega⟩
  obtain ⟨w6, hb6⟩ : ∃ w6 : Nat, SS.ρ 6 = w6 := ⟨(SS.ρ 6).toNat, by omega⟩
  have hw5 : w5 < 9223372036854775807 := by omega
  have hw6 : w6 < 9223372036854775807 := by omega
  have hin0 : ∀ b o, inpL [x] b = some o → w.heap[b]? = some o := inps_in hall
  have hK : ∀ z ∈ SS.I, z.f + z.ks.length ≤ 60 := fun z hz => by
    rw [iI, List.mem_singleton] at hz
    subst hz
    rw [hf, hks]; decide
  have main : ∀ T : Sy, ∀ lk, T.I = SS.I → T.ρ 1 = SS.ρ 1 → T.ρ 2 = SS.ρ 2 → T.ρ 3 = SS.ρ 3 → T.ρ 5 = SS.ρ 5 → T.ρ 6 = SS.ρ 6 → T.Φ 9 [] = 1 → (x.n ≤ 60 → lk = lkL [lkLoopR Try.prog 7 [(7, 4), (8, 5)] X0D F0D (.exit 0) [(1, .num (Tm.enc (.var .i64 1))), (4, .num (Tm.enc (.lit .i64 0))), (5, .num (Tm.enc (.var .i64 5))), (6, .num (Tm.enc (.var .i64 6))), (5, .num (Tm.enc (.var .i64 5))), (60, .arr .zero), (6, .num (Tm.enc (.var .i64 6))), (61, .arr .zero), (6, .num (Tm.enc (.var .i64 6))), (5, .num (Tm.enc (.var .i64 5))), (6, .num (Tm.enc (.var .i64 6))), (5, .num (Tm.enc (.var .i64 5))), (5, .num (Tm.enc (.var .i64 5))), (60, .arr .zero), (6, .num (Tm.enc (.var .i64 6))), (61, .arr .zero)], lkLoopR Try.prog 9 [] X1D F1D (.exit 2) [(11, .num (Tm.enc (.lit .i64 0))), (5, .num (Tm.enc (.var .i64 5))), (6, .num (Tm.enc (.var .i64 6))), (5, .num (Tm.enc (.var .i64 5))), (60, .arr (.var 60)), (6, .num (Tm.enc (.var .i64 6))), (61, .arr (.var 61)), (6, .num (Tm.enc (.var .i64 6))), (5, .num (Tm.enc (.var .i64 5))), (6, .num (Tm.enc (.var .i64 6))), (5, .num (Tm.enc (.var .i64 5))), (5, .num (Tm.enc (.var .i64 5))), (60, .arr (.var 60)), (6, .num (Tm.enc (.var .i64 6))), (61, .arr (.var 61))], lkLoopR Try.prog 9 [] X2D F2D (.exit 4) [(14, .num (Tm.enc (.lit .i64 0))), (5, .num (Tm.enc (.var .i64 5))), (6, .num (Tm.enc (.var .i64 6))), (5, .num (Tm.enc (.var .i64 5))), (60, .arr (.var 60)), (6, .num (Tm.enc (.var .i64 6))), (61, .arr (.var 61)), (6, .num (Tm.enc (.var .i64 6))), (5, .num (Tm.enc (.var .i64 5))), (6, .num (Tm.enc (.var .i64 6))), (5, .num (Tm.enc (.var .i64 5))), (5, .num (Tm.enc (.var .i64 5))), (60, .arr (.var 60)), (6, .num (Tm.enc (.var .i64 6))), (61, .arr (.var 61))]]) → LkOk Try.prog T [] ΛD lk → Calls Try.prog 3 #[.int .u8 a, .int .u8 b, .slice x.a x.n x.cap] w fun e w' => e = .returned (.bool true) ∧ Quiet w w' := by
    intro T lk tI t1 t2 t3 t5 t6 hΦ9 hl hlk
    have hvs : ∀ G ι, VsOk T G ι [vv .u8 2, vv .u8 3, inLD] [.int .u8 a, .int .u8 b, .slice x.a x.n x.cap] := fun G ι => vs_sym (t2.trans i2) (vs_sym (t3.trans i3) (vs_inp0 (x := x) (by decide) (by rw [tI, iI]; rfl) (by rw [hks]; decide +kernel) (by rw [hf]; decide +kernel) (t1.trans i1) vs_nil))
    have hin : ∀ b o, inpL T.I b = some o → w.heap[b]? = some o := by rw [tI, iI]; exact hin0
    have dw : wTD.den T = some [T.ρ 5] := by rw [t5, i5]; exact den_wD ha rfl (t2.trans i2)
    have db : bTD.den T = some [T.ρ 6] := by rw [t6, i6]; exact den_wD hb rfl (t3.trans i3)
    by_cases c0 : (60 : Int) < T.ρ 1
    · have d0 : pd0.den T = some [b2i true] := tr (p := (60 : Int) < T.ρ 1) c0
      exact symRunI envD (ai pd0 true d0 (ai awT true (aw_den hΦ9) (al_nm bTD (.var .i64 6) (by kernel_rfl) db rfl (al_nm wTD (.var .i64 5) (by kernel_rfl) dw rfl (AlOk.nil _))))) (one_ok3 hΦ9) hlk (n := 1000) (args := [vv .u8 2, vv .u8 3, inLD]) (args' := [.int .u8 a, .int .u8 b, .slice x.a x.n x.cap]) (res := [.one .bool]) (vs := [.bool true]) (rcs := [litB true]) (rs := [1]) rfl ⟨ev_litB _ true, trivial⟩ (fun G => by kernel_rfl) hvs w (gok w) hin
    · have d0 : pd0.den T = some [b2i false] := fls (p := (60 : Int) < T.ρ 1) c0
      obtain rfl := hl (by omega)
      have c1 : ¬ (T.ρ 5 < (0 : Int)) := by omega
      have d1 : pd1.den T = some [b2i false] := fls (p := T.ρ 5 < (0 : Int)) c1
      have c2 : ¬ ((2097152 : Int) < T.ρ 5) := by omega
      have d2 : pd2.den T = some [b2i false] := fls (p := (2097152 : Int) < T.ρ 5) c2
      have c3 : ¬ (T.ρ 6 < (0 : Int)) := by omega
      have d3 : pd3.den T = some [b2i false] := fls (p := T.ρ 6 < (0 : Int)) c3
      have c4 : ¬ ((1048576 : Int) < T.ρ 6) := by omega
      have d4 : pd4.den T = some [b2i false] := fls (p := (1048576 : Int) < T.ρ 6) c4
      have d5 : pd5.den T = some [b2i true] := tr (p := (0 : Int) ≤ T.ρ 5) (Int.not_lt.1 c1)
      have c6 : T.ρ 5 < (4194304 : Int) := by omega
      have d6 : pd6.den T = some [b2i true] := tr (p := T.ρ 5 < (4194304 : Int)) c6
      have d7 : pd7.den T = some [b2i true] := tr (p := (0 : Int) ≤ T.ρ 6) (Int.not_lt.1 c3)
      have c8 : T.ρ 6 < (4194304 : Int) := by omega
      have d8 : pd8.den T = some [b2i true] := tr (p := T.ρ 6 < (4194304 : Int)) c8
      have c9 : T.ρ 5 = T.ρ 5 := rfl
      have d9 : pd9.den T = some [b2i false] := fls (p := T.ρ 5 ≠ T.ρ 5) (fun hh => hh c9)
      have c10 : T.ρ 6 = T.ρ 6 := rfl
      have d10 : pd10.den T = some [b2i false] := fls (p := T.ρ 6 ≠ T.ρ 6) (fun hh => hh c10)
      exact symRunI envD (ai pd10 false d10 (ai pd9 false d9 (ai pd8 true d8 (ai pd7 true d7 (ai pd6 true d6 (ai pd5 true d5 (ai pd4 false d4 (ai pd3 false d3 (ai pd2 false d2 (ai pd1 false d1 (ai pd0 false d0 (ai awT true (aw_den hΦ9) (al_nm bTD (.var .i64 6) (by kernel_rfl) db rfl (al_nm wTD (.var .i64 5) (by kernel_rfl) dw rfl (AlOk.nil _))))))))))))))) (one_ok3 hΦ9) hlk (n := 1000) (args := [vv .u8 2, vv .u8 3, inLD]) (args' := [.int .u8 a, .int .u8 b, .slice x.a x.n x.cap]) (res := [.one .bool]) (vs := [.bool true]) (rcs := [litB true]) (rs := [1]) rfl ⟨ev_litB _ true, trivial⟩ (fun G => by kernel_rfl) hvs w (gok w) hin
  by_cases hg : x.n ≤ 60
  · have hx : x.n < 9223372036854775807 := by omega
    obtain ⟨S00, hS00⟩ : ∃ S0 : Sy, S0 = SS.set (upd SS.ρ [(4, (0 : Int))]) [(60, fun _ => 0), (61, fun _ => 0)] 60 rfl hK := ⟨_, rfl⟩
    have q0 : Stay [4] [60, 61] SS S00 := by rw [hS00]; exact (Stay.refl [4] [60, 61] _).set rfl rfl
    have s0_4 : S00.ρ 4 = (0 : Int) := by rw [hS00]; rfl
    have z0_60 : ∀ j : Int, S00.Φ 60 [j] = (fun _ => 0) j := by rw [hS00]; intro j; rfl
    have z0_61 : ∀ j : Int, S00.Φ 61 [j] = (fun _ => 0) j := by rw [hS00]; intro j; rfl
    have a0 := q0
    have hK0 : ∀ x ∈ S00.I, x.f + x.ks.length ≤ 60 := by rw [a0.1]; exact hK
    obtain ⟨Sf0, ⟨e0, fr0, hr0⟩, lk0⟩ := loopD0 S00 x.n hx ((a0.num 1 rfl).trans i1) (by rw [a0.num 5 rfl]; exact h5) (by rw [a0.num 6 rfl]; exact h6) (fun j hj => by rw [a0.fn 20 rfl, a0.fn 22 rfl]; exact hr20 j hj) hK0 s0_4 (fun j => by rw [z0_61 j]; exact ⟨Int.le_refl _, (by decide : (0 : Int) < 256)⟩)
    have b0 := a0.trans fr0
    obtain ⟨S01, hS01⟩ : ∃ S0 : Sy, S0 = Sf0.set (upd Sf0.ρ [(11, (0 : Int))]) [] 60 rfl (by rw [b0.1]; exact hK) := ⟨_, rfl⟩
    have q1 : Stay [11] [] Sf0 S01 := by rw [hS01]; exact (Stay.refl [11] [] _).set rfl rfl
    have s1_11 : S01.ρ 11 = (0 : Int) := by rw [hS01]; rfl
    have a1 := b0.trans q1
    have hK1 : ∀ x ∈ S01.I, x.f + x.ks.length ≤ 60 := by rw [a1.1]; exact hK
    obtain ⟨Sf1, ⟨e1, fr1⟩, lk1⟩ := loopD1 S01 w5 hw5 ((a1.num 5 rfl).trans hb5) (by rw [a1.num 5 rfl]; exact h5) hK1 s1_11
    have b1 := a1.trans fr1
    obtain ⟨S02, hS02⟩ : ∃ S0 : Sy, S0 = Sf1.set (upd Sf1.ρ [(14, (0 : Int))]) [] 60 rfl (by rw [b1.1]; exact hK) := ⟨_, rfl⟩
    have q2 : Stay [14] [] Sf1 S02 := by rw [hS02]; exact (Stay.refl [14] [] _).set rfl rfl
    have s2_14 : S02.ρ 14 = (0 : Int) := by rw [hS02]; rfl
    have a2 := b1.trans q2
    have hK2 : ∀ x ∈ S02.I, x.f + x.ks.length ≤ 60 := by rw [a2.1]; exact hK
    obtain ⟨Sf2, ⟨e2, fr2⟩, lk2⟩ := loopD2 S02 w6 hw6 ((a2.num 6 rfl).trans hb6) (by rw [a2.num 6 rfl]; exact h6) (fun j => by rw [((q1.trans fr1).trans q2).fn 61 rfl]; exact hr0 j) hK2 s2_14
    have b2 := a2.trans fr2
    have g2 := fr2
    have p2 := q2.trans g2
    have g1 := fr1.trans p2
    have p1 := q1.trans g1
    have g0 := fr0.trans p1
    have p0 := q0.trans g0
    have hlk := LkOk.all (P := Try.prog) (S := Sf2) (gs := []) (ms := [lpD0, lpD1, lpD2]) (fs := [lkLoopR Try.prog 7 [(7, 4), (8, 5)] X0D F0D (.exit 0) [(1, .num (Tm.enc (.var .i64 1))), (4, .num (Tm.enc (.lit .i64 0))), (5, .num (Tm.enc (.var .i64 5))), (6, .num (Tm.enc (.var .i64 6))), (5, .num (Tm.enc (.var .i64 5))), (60, .arr .zero), (6, .num (Tm.enc (.var .i64 6))), (61, .arr .zero), (6, .num (Tm.enc (.var .i64 6))), (5, .num (Tm.enc (.var .i64 5))), (6, .num (Tm.enc (.var .i64 6))), (5, .num (Tm.enc (.var .i64 5))), (5, .num (Tm.enc (.var .i64 5))), (60, .arr .zero), (6, .num (Tm.enc (.var .i64 6))), (61, .arr .zero)], lkLoopR Try.prog 9 [] X1D F1D (.exit 2) [(11, .num (Tm.enc (.lit .i64 0))), (5, .num (Tm.enc (.var .i64 5))), (6, .num (Tm.enc (.var .i64 6))), (5, .num (Tm.enc (.var .i64 5))), (60, .arr (.var 60)), (6, .num (Tm.enc (.var .i64 6))), (61, .arr (.var 61)), (6, .num (Tm.enc (.var .i64 6))), (5, .num (Tm.enc (.var .i64 5))), (6, .num (Tm.enc (.var .i64 6))), (5, .num (Tm.enc (.var .i64 5))), (5, .num (Tm.enc (.var .i64 5))), (60, .arr (.var 60)), (6, .num (Tm.enc (.var .i64 6))), (61, .arr (.var 61))], lkLoopR Try.prog 9 [] X2D F2D (.exit 4) [(14, .num (Tm.enc (.lit .i64 0))), (5, .num (Tm.enc (.var .i64 5))), (6, .num (Tm.enc (.var .i64 6))), (5, .num (Tm.enc (.var .i64 5))), (60, .arr (.var 60)), (6, .num (Tm.enc (.var .i64 6))), (61, .arr (.var 61)), (6, .num (Tm.enc (.var .i64 6))), (5, .num (Tm.enc (.var .i64 5))), (6, .num (Tm.enc (.var .i64 6))), (5, .num (Tm.enc (.var .i64 5))), (5, .num (Tm.enc (.var .i64 5))), (60, .arr (.var 60)), (6, .num (Tm.enc (.var .i64 6))), (61, .arr (.var 61))]]) ⟨⟨_, codeD0, lk0 Sf2 _ (p1.same rfl rfl) (an 1 (.var .i64 1) (sm (g0.num 1 rfl)) (an 4 (.lit .i64 0) (sm s0_4.symm) (an 5 (.var .i64 5) (sm (g0.num 5 rfl)) (an 6 (.var .i64 6) (sm (g0.num 6 rfl)) (an 5 (.var .i64 5) (sm (g0.num 5 rfl)) (asg_arr (i := 60) (fun j => congrArg some (z0_60 j).symm) (an 6 (.var .i64 6) (sm (g0.num 6 rfl)) (asg_arr (i := 61) (fun j => congrArg some (z0_61 j).symm) (an 6 (.var .i64 6) (sm (g0.num 6 rfl)) (an 5 (.var .i64 5) (sm (g0.num 5 rfl)) (an 6 (.var .i64 6) (sm (g0.num 6 rfl)) (an 5 (.var .i64 5) (sm (g0.num 5 rfl)) (an 5 (.var .i64 5) (sm (g0.num 5 rfl)) (asg_arr (i := 60) (fun j => congrArg some (z0_60 j).symm) (an 6 (.var .i64 6) (sm (g0.num 6 rfl)) (asg_arr (i := 61) (fun j => congrArg some (z0_61 j).symm) (asg_nil g0.1.symm)))))))))))))))))⟩, ⟨_, codeD1, lk1 Sf2 _ (p2.same rfl rfl) (an 11 (.lit .i64 0) (sm s1_11.symm) (an 5 (.var .i64 5) (sm (g1.num 5 rfl)) (an 6 (.var .i64 6) (sm (g1.num 6 rfl)) (an 5 (.var .i64 5) (sm (g1.num 5 rfl)) (asg_arr (i := 60) (g1.row 60 rfl) (an 6 (.var .i64 6) (sm (g1.num 6 rfl)) (asg_arr (i := 61) (g1.row 61 rfl) (an 6 (.var .i64 6) (sm (g1.num 6 rfl)) (an 5 (.var .i64 5) (sm (g1.num 5 rfl)) (an 6 (.var .i64 6) (sm (g1.num 6 rfl)) (an 5 (.var .i64 5) (sm (g1.num 5 rfl)) (an 5 (.var .i64 5) (sm (g1.num 5 rfl)) (asg_arr (i := 60) (g1.row 60 rfl) (an 6 (.var .i64 6) (sm (g1.num 6 rfl)) (asg_arr (i := 61) (g1.row 61 rfl) (asg_nil g1.1.symm))))))))))))))))⟩, ⟨_, codeD2, lk2 Sf2 _ (Same.refl _ _ _) (an 14 (.lit .i64 0) (sm s2_14.symm) (an 5 (.var .i64 5) (sm (g2.num 5 rfl)) (an 6 (.var .i64 6) (sm (g2.num 6 rfl)) (an 5 (.var .i64 5) (sm (g2.num 5 rfl)) (asg_arr (i := 60) (g2.row 60 rfl) (an 6 (.var .i64 6) (sm (g2.num 6 rfl)) (asg_arr (i := 61) (g2.row 61 rfl) (an 6 (.var .i64 6) (sm (g2.num 6 rfl)) (an 5 (.var .i64 5) (sm (g2.num 5 rfl)) (an 6 (.var .i64 6) (sm (g2.num 6 rfl)) (an 5 (.var .i64 5) (sm (g2.num 5 rfl)) (an 5 (.var .i64 5) (sm (g2.num 5 rfl)) (asg_arr (i := 60) (g2.row 60 rfl) (an 6 (.var .i64 6) (sm (g2.num 6 rfl)) (asg_arr (i := 61) (g2.row 61 rfl) (asg_nil g2.1.symm))))))))))))))))⟩, trivial⟩
    exact main Sf2 _ p0.1 (p0.num 1 rfl) (p0.num 2 rfl) (p0.num 3 rfl) (p0.num 5 rfl) (p0.num 6 rfl) ((p0.fn 9 rfl []).trans i9) (fun _ => rfl) hlk
  · exact main SS _ rfl rfl rfl rfl rfl rfl i9 (fun h => absurd h hg) (LkOk.no _ _ _ _)
end Go.Proofs.Ytilddfihdmmjcaa
