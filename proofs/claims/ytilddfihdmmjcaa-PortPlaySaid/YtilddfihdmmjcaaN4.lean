/-
  PortPlay: its loops by a rule, run with symbols. Conditions: what is said of the slices (SlIn), and of the numbers' types.
-/
import Derived.Test.YtilddfihdmmjcaaN0
import Derived.Test.YtilddfihdmmjcaaWT
import Derived.Test.YtilddfihdmmjcaaEvLp
namespace Go.Proofs.Ytilddfihdmmjcaa
open Go.Ev Go.RowKit
set_option maxRecDepth 100000
def inLY : Value := inS 0 (dsc 1 20 [5, 4, 8, 8])
def inTY : Value := inS 1 (dsc 16 30 [9])
def owY (b i : Nat) : Value := .float .f32 (mk 3 0 b (i * 512 + 3))
noncomputable def dPY (d : Nat) : Blk := .cells (mkCells #[.pointer (some ⟨2, 0, none⟩), vv .i64 d, .int .i64 0, .int .i64 0, .int .i64 0, .int .u8 0, .int .u64 0, .int .u64 0, .int .u64 0, .int .u64 0, .int .u64 0, .int .i64 0, .int .i64 0, .int .i64 0, .bool false] 88)
noncomputable def dQY (d u b : Nat) : Blk := .cells (mkCells #[.pointer (some ⟨2, 0, none⟩), vv .i64 d, .int .i64 1, .int .i64 0, vv .i64 u, .int .u8 0, .int .u64 0, .int .u64 0, .int .u64 0, .int .u64 0, .int .u64 0, .int .i64 0, .int .i64 0, .int .i64 0, .float .f64 (bsym b)] 88)
noncomputable def rw64Y (f : Nat) : Blk := .arr ⟨5 * 512 + 3, .var f, .u64, 36⟩
noncomputable def rw8Y (f : Nat) : Blk := .arr ⟨6 * 512 + 3, .var f, .u8, 5⟩
noncomputable def mmY (a b e : Nat) : Blk := .cells (mkCells #[owY a 5, owY b 6] e)
noncomputable def hpY (d e u b : Nat) : List (Nat × Blk) := [(0, rw64Y 60), (1, rw8Y 61), (2, mmY 0 1 75), (3, dPY d), (4, dQY e u b), (8, mmY 9 10 53), (9, rw64Y 60), (10, rw8Y 61)]
noncomputable def frY : List (Nat × Value) := [(9, vv .i64 5), (10, vv .i64 6), (12, .pointer (some ⟨3, 0, none⟩)), (13, .pointer (some ⟨4, 0, none⟩)), (14, .pointer (some ⟨8, 0, none⟩))]
noncomputable def X0Y : Pat := ⟨143, 11, [(2, inLY), (3, inTY), (15, vv .i64 7), (16, vv .i64 8), (17, vv .i64 4)] ++ frY, hpY 7 8 9 10⟩
noncomputable def F0Y : Pat := ⟨143, 11, [(15, vv .i64 7), (16, vv .i64 8)] ++ frY, hpY 7 8 9 10⟩
noncomputable def X1Y : Pat := ⟨143, 11, (20, vv .i64 11) :: frY, hpY 12 13 17 18⟩
noncomputable def F1Y : Pat := ⟨143, 11, frY, hpY 12 13 17 18⟩
noncomputable def X2Y : Pat := ⟨143, 11, (21, vv .i64 14) :: frY, hpY 19 15 51 52⟩
noncomputable def F2Y : Pat := ⟨143, 11, [], []⟩
def wTY : Tm := .conv .i64 (.bin .rem (.var .u8 2) (.lit .u8 41))
def bTY : Tm := .conv .i64 (.bin .rem (.var .u8 3) (.lit .u8 41))
def lpY0 : Mrk := (5, [1, 1, 1, 1, 1, 1, 1, 1, 1, 1, 0, 1, 0])
def lpY1 : Mrk := (5, [1, 1, 1, 1, 1, 1, 1, 1, 1, 1, 1, 1, 0, 1, 0])
def lpY2 : Mrk := (5, [1, 1, 1, 1, 1, 1, 1, 1, 1, 1, 1, 1, 1, 0, 1, 0])
noncomputable abbrev ΛY : Nat → Option Code := lamOf Try.prog [lpY0, lpY1, lpY2]
noncomputable abbrev ftY : Nat → Option Func := ftM Try.prog [lpY0, lpY1, lpY2]
theorem envY : @EnvOk ⟨ΛY⟩ Try.prog ftY := envM env [lpY0, lpY1, lpY2] (by kernel_rfl)
theorem codeY0 : codeAt Try.prog lpY0 = some (.loop (cAt Try.prog lpY0)) := by kernel_rfl
theorem fineY0 : fineC Try.prog.globals.size (cAt Try.prog lpY0) = true := by kernel_rfl
theorem codeY1 : codeAt Try.prog lpY1 = some (.loop (cAt Try.prog lpY1)) := by kernel_rfl
theorem fineY1 : fineC Try.prog.globals.size (cAt Try.prog lpY1) = true := by kernel_rfl
theorem codeY2 : codeAt Try.prog lpY2 = some (.loop (cAt Try.prog lpY2)) := by kernel_rfl
theorem fineY2 : fineC Try.prog.globals.size (cAt Try.prog lpY2) = true := by kernel_rfl
def wY00 : Tm := (.bin .lss (.var .i64 4) (.var .i64 1))
def wY01 : Tm := (.bin .geq (.var .i64 4) (.lit .i64 0))
def wY02 : Tm := (.bin .geq (.app .u8 20 (.cons (.var .i64 4) .nil)) (.lit .u8 1))
def wY03 : Tm := (.not (.bin .leq (.app .u8 20 (.cons (.var .i64 4) .nil)) (.lit .u8 6)))
def wY04 : Tm := (.bin .eql (.app .u8 20 (.cons (.var .i64 4) .nil)) (.lit .u8 5))
def wY05 : Tm := (.bin .lss (.app .i64 21 (.cons (.var .i64 4) .nil)) (.lit .i64 0))
def wY06 : Tm := (.bin .lss (.var .i64 4) (.var .i64 16))
def wY07 : Tm := (.appB 30 (.cons (.var .i64 4) .nil))
def wY08 : Tm := (.bin .eql (.app .u8 20 (.cons (.var .i64 4) .nil)) (.lit .u8 1))
def wY09 : Tm := (.bin .eql (.app .u8 20 (.cons (.var .i64 4) .nil)) (.lit .u8 2))
def wY010 : Tm := (.bin .eql (.app .u8 20 (.cons (.var .i64 4) .nil)) (.lit .u8 3))
def wY011 : Tm := (.bin .eql (.app .u8 20 (.cons (.var .i64 4) .nil)) (.lit .u8 4))
def wY012 : Tm := (.bin .geq (.app .i64 21 (.cons (.var .i64 4) .nil)) (.var .i64 6))
def wY013 : Tm := (.bin .geq (.app .i64 21 (.cons (.var .i64 4) .nil)) (.lit .i64 0))
def wY014 : Tm := (.bin .lss (.app .i64 21 (.cons (.var .i64 4) .nil)) (.var .i64 6))
def wY015 : Tm := (.bin .neq (.conv .u64 (.conv .u8 (.conv .u64 (.app .u8 61 (.cons (.app .i64 21 (.cons (.var .i64 4) .nil)) .nil))))) (.conv .u64 (.app .u8 61 (.cons (.app .i64 21 (.cons (.var .i64 4) .nil)) .nil))))
def wY016 : Tm := (.bin .eql (.app .u8 20 (.cons (.var .i64 4) .nil)) (.lit .u8 6))
def wY017 : Tm := (.bin .lss (.lit .i64 0) (.var .i64 6))
def wY018 : Tm := (.bin .lss (.var .i64 6) (.lit .i64 4194304))
def wY019 : Tm := (.bin .geq (.app .i64 21 (.cons (.var .i64 4) .nil)) (.var .i64 5))
def wY020 : Tm := (.bin .lss (.app .u8 20 (.cons (.var .i64 4) .nil)) (.lit .u8 1))
def wY021 : Tm := (.bin .gtr (.app .u8 20 (.cons (.var .i64 4) .nil)) (.lit .u8 6))
def wY022 : Tm := (.bin .lss (.lit .i64 0) (.var .i64 5))
def wY023 : Tm := (.bin .lss (.var .i64 5) (.lit .i64 4194304))
def wY024 : Tm := (.bin .lss (.app .i64 21 (.cons (.var .i64 4) .nil)) (.var .i64 5))
def wY025 : Tm := (.bin .neq (.app .u64 60 (.cons (.app .i64 21 (.cons (.var .i64 4) .nil)) .nil)) (.app .u64 60 (.cons (.app .i64 21 (.cons (.var .i64 4) .nil)) .nil)))
def wY026 : Tm := (.bin .neq (.app .u64 60 (.cons (.app .i64 21 (.cons (.var .i64 4) .nil)) .nil)) (.app .u64 22 (.cons (.var .i64 4) .nil)))
section
variable (S : Sy) (n : Nat)
abbrev RY0 : Sy → Sy → Prop := StepTo Try.prog ftY ΛY [] (cAt Try.prog lpY0) X0Y F0Y 9
def InvY0 (k : Nat) (S1 : Sy) : Prop := ∃ i : Nat, i ≤ n ∧ k = n - i ∧ S1.ρ 4 = i ∧ Stay [4, 7, 8, 9, 10] [60, 61] S S1 ∧ (S1.ρ 10 = 0 ∨ S1.ρ 10 = 1) ∧ (∀ j : Int, 0 ≤ S1.Φ 61 [j] ∧ S1.Φ 61 [j] < 256)
def FinY0 (k : Nat) (S1 : Sy) : Prop := k = 0 ∧ ∀ T, Same [7, 8, 5, 6, 10, 9] [60, 61] S1 T → StepOut Try.prog ftY ΛY [] (cAt Try.prog lpY0) X0Y F0Y (.exit 0) 9 S1 T
set_option maxHeartbeats 4000000 in
theorem stepY0 (hn : n < 9223372036854775807) (hb : S.ρ 1 = n) (h5 : 0 ≤ S.ρ 5 ∧ S.ρ 5 < 41) (h6 : 0 ≤ S.ρ 6 ∧ S.ρ 6 < 41) (hK0 : ∀ x ∈ S.I, x.f + x.ks.length ≤ 60) (k : Nat) (S1 : Sy) (hi : InvY0 S n k S1) : (∃ k' S2, k = k' + 1 ∧ InvY0 S n k' S2 ∧ RY0 S1 S2) ∨ FinY0 k S1 := by
  obtain ⟨i, hin, rfl, hiv, fr, h10, hr⟩ := hi
  have hcs : ∀ c ∈ ([] : List Ctr), CtrOk Try.prog S1 [] c := fun c hc => by simp at hc
  have hK : ∀ x ∈ S1.I, x.f + x.ks.length ≤ 60 := by rw [fr.1]; exact hK0
  have e1 := fr.num 1 rfl
  have e5 := fr.num 5 rfl
  have e6 := fr.num 6 rfl
  have e16 := fr.num 16 rfl
  by_cases c0 : S1.ρ 4 < S1.ρ 1
  · have d0 : wY00.den S1 = some [b2i true] := tr (p := S1.ρ 4 < S1.ρ 1) c0
    have c1 : ¬ (S1.ρ 4 < (0 : Int)) := by omega
    have d1 : wY01.den S1 = some [b2i true] := tr (p := (0 : Int) ≤ S1.ρ 4) (Int.not_lt.1 c1)
    by_cases c2 : (S1.Φ 20 [S1.ρ 4]) < (1 : Int)
    · have d2 : wY02.den S1 = some [b2i false] := fls (p := (1 : Int) ≤ (S1.Φ 20 [S1.ρ 4])) (Int.not_le.2 c2)
      obtain ⟨o4, h_o4⟩ : ∃ o : Int, o = (IntKind.i64.wrap (S1.ρ 4 + (1 : Int))) := ⟨_, rfl⟩
      obtain ⟨o10, h_o10⟩ : ∃ o : Int, o = (b2i (decide (S1.ρ 10 ≠ (0 : Int)))) := ⟨_, rfl⟩
      have u4 := h_o4
      rw [w_i64 (by omega) (by omega)] at u4
      have inv : InvY0 S n (n - (i + 1)) (S1.set (upd S1.ρ [(4, o4), (10, o10)]) [] 60 rfl hK) := ⟨i + 1, by omega, rfl, (show o4 = ((i + 1 : Nat) : Int) by omega), fr.set rfl rfl, b01 h_o10, hr⟩
      exact .inl ⟨_, _, (by omega : n - i = n - (i + 1) + 1), inv, _, [], _, 1000, _, [], (ai wY02 false d2 (ai wY01 true d1 (ai wY00 true d0 (AlOk.nil _)))), hcs, LkOk.no _ _ _ _, (av 1 .i64 (av 16 .i64 (av 7 .i64 (av 8 .i64 (an 4 (.bin .add (.var .i64 4) (.lit .i64 1)) (sm h_o4.symm) (av 5 .i64 (av 6 .i64 (av 5 .i64 (ar 60 (ar_var 60) (av 6 .i64 (ar 61 (ar_var 61) (av 6 .i64 (av 5 .i64 (av 7 .i64 (an 10 (.bin .neq (.var .u8 10) (.lit .u8 0)) (sm h_o10.symm) (av 9 .i64 (av 8 .i64 (av 6 .i64 (av 5 .i64 (av 5 .i64 (ar 60 (ar_var 60) (av 6 .i64 (ar 61 (ar_var 61) (asg_nil rfl)))))))))))))))))))))))), fun G => by kernel_rfl⟩
    · have d2 : wY02.den S1 = some [b2i true] := tr (p := (1 : Int) ≤ (S1.Φ 20 [S1.ρ 4])) (Int.not_lt.1 c2)
      by_cases c3 : (6 : Int) < (S1.Φ 20 [S1.ρ 4])
      · have d3 : wY03.den S1 = some [b2i true] := tr (p := (b2i (decide ((S1.Φ 20 [S1.ρ 4]) ≤ (6 : Int)))) = 0) (by rw [decide_eq_false (Int.not_le.2 c3)]; decide)
        obtain ⟨o4, h_o4⟩ : ∃ o : Int, o = (IntKind.i64.wrap (S1.ρ 4 + (1 : Int))) := ⟨_, rfl⟩
        obtain ⟨o10, h_o10⟩ : ∃ o : Int, o = (b2i (decide (S1.ρ 10 ≠ (0 : Int)))) := ⟨_, rfl⟩
        have u4 := h_o4
        rw [w_i64 (by omega) (by omega)] at u4
        have inv : InvY0 S n (n - (i + 1)) (S1.set (upd S1.ρ [(4, o4), (10, o10)]) [] 60 rfl hK) := ⟨i + 1, by omega, rfl, (show o4 = ((i + 1 : Nat) : Int) by omega), fr.set rfl rfl, b01 h_o10, hr⟩
        exact .inl ⟨_, _, (by omega : n - i = n - (i + 1) + 1), inv, _, [], _, 1000, _, [], (ai wY03 true d3 (ai wY02 true d2 (ai wY01 true d1 (ai wY00 true d0 (AlOk.nil _))))), hcs, LkOk.no _ _ _ _, (av 1 .i64 (av 16 .i64 (av 7 .i64 (av 8 .i64 (an 4 (.bin .add (.var .i64 4) (.lit .i64 1)) (sm h_o4.symm) (av 5 .i64 (av 6 .i64 (av 5 .i64 (ar 60 (ar_var 60) (av 6 .i64 (ar 61 (ar_var 61) (av 6 .i64 (av 5 .i64 (av 7 .i64 (an 10 (.bin .neq (.var .u8 10) (.lit .u8 0)) (sm h_o10.symm) (av 9 .i64 (av 8 .i64 (av 6 .i64 (av 5 .i64 (av 5 .i64 (ar 60 (ar_var 60) (av 6 .i64 (ar 61 (ar_var 61) (asg_nil rfl)))))))))))))))))))))))), fun G => by kernel_rfl⟩
      · have d3 : wY03.den S1 = some [b2i false] := fls (p := (b2i (decide ((S1.Φ 20 [S1.ρ 4]) ≤ (6 : Int)))) = 0) (by rw [decide_eq_true (Int.not_lt.1 c3)]; decide)
        by_cases c4 : (S1.Φ 20 [S1.ρ 4]) = (5 : Int)
        · have d4 : wY04.den S1 = some [b2i true] := tr (p := (S1.Φ 20 [S1.ρ 4]) = (5 : Int)) c4
          by_cases c5 : (S1.Φ 21 [S1.ρ 4]) < (0 : Int)
          · have d5 : wY05.den S1 = some [b2i true] := tr (p := (S1.Φ 21 [S1.ρ 4]) < (0 : Int)) c5
            by_cases c6 : S1.ρ 4 < S1.ρ 16
            · have d6 : wY06.den S1 = some [b2i true] := tr (p := S1.ρ 4 < S1.ρ 16) c6
              by_cases c7 : S1.Φ 30 [S1.ρ 4] ≠ 0
              · have d7 : wY07.den S1 = some [b2i true] := tr (p := S1.Φ 30 [S1.ρ 4] ≠ 0) c7
                have c8 : ¬ ((S1.Φ 20 [S1.ρ 4]) = (1 : Int)) := by omega
                have d8 : wY08.den S1 = some [b2i false] := fls (p := (S1.Φ 20 [S1.ρ 4]) = (1 : Int)) c8
                have c9 : ¬ ((S1.Φ 20 [S1.ρ 4]) = (2 : Int)) := by omega
                have d9 : wY09.den S1 = some [b2i false] := fls (p := (S1.Φ 20 [S1.ρ 4]) = (2 : Int)) c9
                have c10 : ¬ ((S1.Φ 20 [S1.ρ 4]) = (3 : Int)) := by omega
                have d10 : wY010.den S1 = some [b2i false] := fls (p := (S1.Φ 20 [S1.ρ 4]) = (3 : Int)) c10
                have c11 : ¬ ((S1.Φ 20 [S1.ρ 4]) = (4 : Int)) := by omega
                have d11 : wY011.den S1 = some [b2i false] := fls (p := (S1.Φ 20 [S1.ρ 4]) = (4 : Int)) c11
                obtain ⟨o8, h_o8⟩ : ∃ o : Int, o = (IntKind.i64.wrap (S1.ρ 8 + (1 : Int))) := ⟨_, rfl⟩
                obtain ⟨o4, h_o4⟩ : ∃ o : Int, o = (IntKind.i64.wrap (S1.ρ 4 + (1 : Int))) := ⟨_, rfl⟩
                obtain ⟨o10, h_o10⟩ : ∃ o : Int, o = (b2i true) := ⟨_, rfl⟩
                obtain ⟨o9, h_o9⟩ : ∃ o : Int, o = S1.ρ 4 := ⟨_, rfl⟩
                have u4 := h_o4
                rw [w_i64 (by omega) (by omega)] at u4
                have inv : InvY0 S n (n - (i + 1)) (S1.set (upd S1.ρ [(8, o8), (4, o4), (10, o10), (9, o9)]) [] 60 rfl hK) := ⟨i + 1, by omega, rfl, (show o4 = ((i + 1 : Nat) : Int) by omega), fr.set rfl rfl, b01 h_o10, hr⟩
                exact .inl ⟨_, _, (by omega : n - i = n - (i + 1) + 1), inv, _, [], _, 1000, _, [], (ai wY011 false d11 (ai wY010 false d10 (ai wY09 false d9 (ai wY08 false d8 (ai wY07 true d7 (ai wY06 true d6 (ai wY05 true d5 (ai wY04 true d4 (ai wY03 false d3 (ai wY02 true d2 (ai wY01 true d1 (ai wY00 true d0 (AlOk.nil _))))))))))))), hcs, LkOk.no _ _ _ _, (av 1 .i64 (av 16 .i64 (av 7 .i64 (an 8 (.bin .add (.var .i64 8) (.lit .i64 1)) (sm h_o8.symm) (an 4 (.bin .add (.var .i64 4) (.lit .i64 1)) (sm h_o4.symm) (av 5 .i64 (av 6 .i64 (av 5 .i64 (ar 60 (ar_var 60) (av 6 .i64 (ar 61 (ar_var 61) (av 6 .i64 (av 5 .i64 (av 7 .i64 (an 10 (.blit true) (sm h_o10.symm) (an 9 (.var .i64 4) (sm h_o9.symm) (an 8 (.bin .add (.var .i64 8) (.lit .i64 1)) (sm h_o8.symm) (av 6 .i64 (av 5 .i64 (av 5 .i64 (ar 60 (ar_var 60) (av 6 .i64 (ar 61 (ar_var 61) (asg_nil rfl)))))))))))))))))))))))), fun G => by kernel_rfl⟩
              · have d7 : wY07.den S1 = some [b2i false] := fls (p := S1.Φ 30 [S1.ρ 4] ≠ 0) c7
                have c8 : ¬ ((S1.Φ 20 [S1.ρ 4]) = (1 : Int)) := by omega
                have d8 : wY08.den S1 = some [b2i false] := fls (p := (S1.Φ 20 [S1.ρ 4]) = (1 : Int)) c8
                have c9 : ¬ ((S1.Φ 20 [S1.ρ 4]) = (2 : Int)) := by omega
                have d9 : wY09.den S1 = some [b2i false] := fls (p := (S1.Φ 20 [S1.ρ 4]) = (2 : Int)) c9
                have c10 : ¬ ((S1.Φ 20 [S1.ρ 4]) = (3 : Int)) := by omega
                have d10 : wY010.den S1 = some [b2i false] := fls (p := (S1.Φ 20 [S1.ρ 4]) = (3 : Int)) c10
                have c11 : ¬ ((S1.Φ 20 [S1.ρ 4]) = (4 : Int)) := by omega
                have d11 : wY011.den S1 = some [b2i false] := fls (p := (S1.Φ 20 [S1.ρ 4]) = (4 : Int)) c11
                obtain ⟨o7, h_o7⟩ : ∃ o : Int, o = (IntKind.i64.wrap (S1.ρ 7 + (1 : Int))) := ⟨_, rfl⟩
                obtain ⟨o4, h_o4⟩ : ∃ o : Int, o = (IntKind.i64.wrap (S1.ρ 4 + (1 : Int))) := ⟨_, rfl⟩
                obtain ⟨o10, h_o10⟩ : ∃ o : Int, o = (b2i (decide (S1.ρ 10 ≠ (0 : Int)))) := ⟨_, rfl⟩
                have u4 := h_o4
                rw [w_i64 (by omega) (by omega)] at u4
                have inv : InvY0 S n (n - (i + 1)) (S1.set (upd S1.ρ [(7, o7), (4, o4), (10, o10)]) [] 60 rfl hK) := ⟨i + 1, by omega, rfl, (show o4 = ((i + 1 : Nat) : Int) by omega), fr.set rfl rfl, b01 h_o10, hr⟩
                exact .inl ⟨_, _, (by omega : n - i = n - (i + 1) + 1), inv, _, [], _, 1000, _, [], (ai wY011 false d11 (ai wY010 false d10 (ai wY09 false d9 (ai wY08 false d8 (ai wY07 false d7 (ai wY06 true d6 (ai wY05 true d5 (ai wY04 true d4 (ai wY03 false d3 (ai wY02 true d2 (ai wY01 true d1 (ai wY00 true d0 (AlOk.nil _))))))))))))), hcs, LkOk.no _ _ _ _, (av 1 .i64 (av 16 .i64 (an 7 (.bin .add (.var .i64 7) (.lit .i64 1)) (sm h_o7.symm) (av 8 .i64 (an 4 (.bin .add (.var .i64 4) (.lit .i64 1)) (sm h_o4.symm) (av 5 .i64 (av 6 .i64 (av 5 .i64 (ar 60 (ar_var 60) (av 6 .i64 (ar 61 (ar_var 61) (av 6 .i64 (av 5 .i64 (an 7 (.bin .add (.var .i64 7) (.lit .i64 1)) (sm h_o7.symm) (an 10 (.bin .neq (.var .u8 10) (.lit .u8 0)) (sm h_o10.symm) (av 9 .i64 (av 8 .i64 (av 6 .i64 (av 5 .i64 (av 5 .i64 (ar 60 (ar_var 60) (av 6 .i64 (ar 61 (ar_var 61) (asg_nil rfl)))))))))))))))))))))))), fun G => by kernel_rfl⟩
            · have d6 : wY06.den S1 = some [b2i false] := fls (p := S1.ρ 4 < S1.ρ 16) c6
              have c7 : ¬ ((S1.Φ 20 [S1.ρ 4]) = (1 : Int)) := by omega
              have d7 : wY08.den S1 = some [b2i false] := fls (p := (S1.Φ 20 [S1.ρ 4]) = (1 : Int)) c7
              have c8 : ¬ ((S1.Φ 20 [S1.ρ 4]) = (2 : Int)) := by omega
              have d8 : wY09.den S1 = some [b2i false] := fls (p := (S1.Φ 20 [S1.ρ 4]) = (2 : Int)) c8
              have c9 : ¬ ((S1.Φ 20 [S1.ρ 4]) = (3 : Int)) := by omega
              have d9 : wY010.den S1 = some [b2i false] := fls (p := (S1.Φ 20 [S1.ρ 4]) = (3 : Int)) c9
              have c10 : ¬ ((S1.Φ 20 [S1.ρ 4]) = (4 : Int)) := by omega
              have d10 : wY011.den S1 = some [b2i false] := fls (p := (S1.Φ 20 [S1.ρ 4]) = (4 : Int)) c10
              obtain ⟨o7, h_o7⟩ : ∃ o : Int, o = (IntKind.i64.wrap (S1.ρ 7 + (1 : Int))) := ⟨_, rfl⟩
              obtain ⟨o4, h_o4⟩ : ∃ o : Int, o = (IntKind.i64.wrap (S1.ρ 4 + (1 : Int))) := ⟨_, rfl⟩
              obtain ⟨o10, h_o10⟩ : ∃ o : Int, o = (b2i (decide (S1.ρ 10 ≠ (0 : Int)))) := ⟨_, rfl⟩
              have u4 := h_o4
              rw [w_i64 (by omega) (by omega)] at u4
              have inv : InvY0 S n (n - (i + 1)) (S1.set (upd S1.ρ [(7, o7), (4, o4), (10, o10)]) [] 60 rfl hK) := ⟨i + 1, by omega, rfl, (show o4 = ((i + 1 : Nat) : Int) by omega), fr.set rfl rfl, b01 h_o10, hr⟩
              exact .inl ⟨_, _, (by omega : n - i = n - (i + 1) + 1), inv, _, [], _, 1000, _, [], (ai wY011 false d10 (ai wY010 false d9 (ai wY09 false d8 (ai wY08 false d7 (ai wY06 false d6 (ai wY05 true d5 (ai wY04 true d4 (ai wY03 false d3 (ai wY02 true d2 (ai wY01 true d1 (ai wY00 true d0 (AlOk.nil _)))))))))))), hcs, LkOk.no _ _ _ _, (av 1 .i64 (av 16 .i64 (an 7 (.bin .add (.var .i64 7) (.lit .i64 1)) (sm h_o7.symm) (av 8 .i64 (an 4 (.bin .add (.var .i64 4) (.lit .i64 1)) (sm h_o4.symm) (av 5 .i64 (av 6 .i64 (av 5 .i64 (ar 60 (ar_var 60) (av 6 .i64 (ar 61 (ar_var 61) (av 6 .i64 (av 5 .i64 (an 7 (.bin .add (.var .i64 7) (.lit .i64 1)) (sm h_o7.symm) (an 10 (.bin .neq (.var .u8 10) (.lit .u8 0)) (sm h_o10.symm) (av 9 .i64 (av 8 .i64 (av 6 .i64 (av 5 .i64 (av 5 .i64 (ar 60 (ar_var 60) (av 6 .i64 (ar 61 (ar_var 61) (asg_nil rfl)))))))))))))))))))))))), fun G => by kernel_rfl⟩
          · have d5 : wY05.den S1 = some [b2i false] := fls (p := (S1.Φ 21 [S1.ρ 4]) < (0 : Int)) c5
            by_cases c6 : (S1.Φ 21 [S1.ρ 4]) < S1.ρ 6
            · have d6 : wY012.den S1 = some [b2i false] := fls (p := S1.ρ 6 ≤ (S1.Φ 21 [S1.ρ 4])) (Int.not_le.2 c6)
              have d7 : wY013.den S1 = some [b2i true] := tr (p := (0 : Int) ≤ (S1.Φ 21 [S1.ρ 4])) (Int.not_lt.1 c5)
              have d8 : wY014.den S1 = some [b2i true] := tr (p := (S1.Φ 21 [S1.ρ 4]) < S1.ρ 6) c6
              by_cases c9 : S1.ρ 4 < S1.ρ 16
              · have d9 : wY06.den S1 = some [b2i true] := tr (p := S1.ρ 4 < S1.ρ 16) c9
                by_cases c10 : S1.Φ 30 [S1.ρ 4] ≠ 0
                · have d10 : wY07.den S1 = some [b2i true] := tr (p := S1.Φ 30 [S1.ρ 4] ≠ 0) c10
                  have c11 : ¬ ((S1.Φ 20 [S1.ρ 4]) = (1 : Int)) := by omega
                  have d11 : wY08.den S1 = some [b2i false] := fls (p := (S1.Φ 20 [S1.ρ 4]) = (1 : Int)) c11
                  have c12 : ¬ ((S1.Φ 20 [S1.ρ 4]) = (2 : Int)) := by omega
                  have d12 : wY09.den S1 = some [b2i false] := fls (p := (S1.Φ 20 [S1.ρ 4]) = (2 : Int)) c12
                  have c13 : ¬ ((S1.Φ 20 [S1.ρ 4]) = (3 : Int)) := by omega
                  have d13 : wY010.den S1 = some [b2i false] := fls (p := (S1.Φ 20 [S1.ρ 4]) = (3 : Int)) c13
                  have c14 : ¬ ((S1.Φ 20 [S1.ρ 4]) = (4 : Int)) := by omega
                  have d14 : wY011.den S1 = some [b2i false] := fls (p := (S1.Φ 20 [S1.ρ 4]) = (4 : Int)) c14
                  have c15 : (IntKind.u64.wrap ((IntKind.u8.wrap ((IntKind.u64.wrap ((S1.Φ 61 [(S1.Φ 21 [S1.ρ 4])]))))))) = (IntKind.u64.wrap ((S1.Φ 61 [(S1.Φ 21 [S1.ρ 4])]))) := by have := hr (S1.Φ 21 [S1.ρ 4]); simp only [mod_u8, mod_u64]; omega
                  have d15 : wY015.den S1 = some [b2i false] := fls (p := (IntKind.u64.wrap ((IntKind.u8.wrap ((IntKind.u64.wrap ((S1.Φ 61 [(S1.Φ 21 [S1.ρ 4])]))))))) ≠ (IntKind.u64.wrap ((S1.Φ 61 [(S1.Φ 21 [S1.ρ 4])])))) (fun hh => hh c15)
                  obtain ⟨o8, h_o8⟩ : ∃ o : Int, o = (IntKind.i64.wrap (S1.ρ 8 + (1 : Int))) := ⟨_, rfl⟩
                  obtain ⟨o4, h_o4⟩ : ∃ o : Int, o = (IntKind.i64.wrap (S1.ρ 4 + (1 : Int))) := ⟨_, rfl⟩
                  obtain ⟨o10, h_o10⟩ : ∃ o : Int, o = (b2i true) := ⟨_, rfl⟩
                  obtain ⟨o9, h_o9⟩ : ∃ o : Int, o = S1.ρ 4 := ⟨_, rfl⟩
                  have u4 := h_o4
                  rw [w_i64 (by omega) (by omega)] at u4
                  have inv : InvY0 S n (n - (i + 1)) (S1.set (upd S1.ρ [(8, o8), (4, o4), (10, o10), (9, o9)]) [] 60 rfl hK) := ⟨i + 1, by omega, rfl, (show o4 = ((i + 1 : Nat) : Int) by omega), fr.set rfl rfl, b01 h_o10, hr⟩
                  exact .inl ⟨_, _, (by omega : n - i = n - (i + 1) + 1), inv, _, [], _, 1000, _, [], (ai wY015 false d15 (ai wY011 false d14 (ai wY010 false d13 (ai wY09 false d12 (ai wY08 false d11 (ai wY07 true d10 (ai wY06 true d9 (ai wY014 true d8 (ai wY013 true d7 (ai wY012 false d6 (ai wY05 false d5 (ai wY04 true d4 (ai wY03 false d3 (ai wY02 true d2 (ai wY01 true d1 (ai wY00 true d0 (AlOk.nil _))))))))))))))))), hcs, LkOk.no _ _ _ _, (av 1 .i64 (av 16 .i64 (av 7 .i64 (an 8 (.bin .add (.var .i64 8) (.lit .i64 1)) (sm h_o8.symm) (an 4 (.bin .add (.var .i64 4) (.lit .i64 1)) (sm h_o4.symm) (av 5 .i64 (av 6 .i64 (av 5 .i64 (ar 60 (ar_var 60) (av 6 .i64 (ar 61 (ar_var 61) (av 6 .i64 (av 5 .i64 (av 7 .i64 (an 10 (.blit true) (sm h_o10.symm) (an 9 (.var .i64 4) (sm h_o9.symm) (an 8 (.bin .add (.var .i64 8) (.lit .i64 1)) (sm h_o8.symm) (av 6 .i64 (av 5 .i64 (av 5 .i64 (ar 60 (ar_var 60) (av 6 .i64 (ar 61 (ar_var 61) (asg_nil rfl)))))))))))))))))))))))), fun G => by kernel_rfl⟩
                · have d10 : wY07.den S1 = some [b2i false] := fls (p := S1.Φ 30 [S1.ρ 4] ≠ 0) c10
                  have c11 : ¬ ((S1.Φ 20 [S1.ρ 4]) = (1 : Int)) := by omega
                  have d11 : wY08.den S1 = some [b2i false] := fls (p := (S1.Φ 20 [S1.ρ 4]) = (1 : Int)) c11
                  have c12 : ¬ ((S1.Φ 20 [S1.ρ 4]) = (2 : Int)) := by omega
                  have d12 : wY09.den S1 = some [b2i false] := fls (p := (S1.Φ 20 [S1.ρ 4]) = (2 : Int)) c12
                  have c13 : ¬ ((S1.Φ 20 [S1.ρ 4]) = (3 : Int)) := by omega
                  have d13 : wY010.den S1 = some [b2i false] := fls (p := (S1.Φ 20 [S1.ρ 4]) = (3 : Int)) c13
                  have c14 : ¬ ((S1.Φ 20 [S1.ρ 4]) = (4 : Int)) := by omega
                  have d14 : wY011.den S1 = some [b2i false] := fls (p := (S1.Φ 20 [S1.ρ 4]) = (4 : Int)) c14
                  have c15 : (IntKind.u64.wrap ((IntKind.u8.wrap ((IntKind.u64.wrap ((S1.Φ 61 [(S1.Φ 21 [S1.ρ 4])]))))))) = (IntKind.u64.wrap ((S1.Φ 61 [(S1.Φ 21 [S1.ρ 4])]))) := by have := hr (S1.Φ 21 [S1.ρ 4]); simp only [mod_u8, mod_u64]; omega
                  have d15 : wY015.den S1 = some [b2i false] := fls (p := (IntKind.u64.wrap ((IntKind.u8.wrap ((IntKind.u64.wrap ((S1.Φ 61 [(S1.Φ 21 [S1.ρ 4])]))))))) ≠ (IntKind.u64.wrap ((S1.Φ 61 [(S1.Φ 21 [S1.ρ 4])])))) (fun hh => hh c15)
                  obtain ⟨o7, h_o7⟩ : ∃ o : Int, o = (IntKind.i64.wrap (S1.ρ 7 + (1 : Int))) := ⟨_, rfl⟩
                  obtain ⟨o4, h_o4⟩ : ∃ o : Int, o = (IntKind.i64.wrap (S1.ρ 4 + (1 : Int))) := ⟨_, rfl⟩
                  obtain ⟨o10, h_o10⟩ : ∃ o : Int, o = (b2i (decide (S1.ρ 10 ≠ (0 : Int)))) := ⟨_, rfl⟩
                  have u4 := h_o4
                  rw [w_i64 (by omega) (by omega)] at u4
                  have inv : InvY0 S n (n - (i + 1)) (S1.set (upd S1.ρ [(7, o7), (4, o4), (10, o10)]) [] 60 rfl hK) := ⟨i + 1, by omega, rfl, (show o4 = ((i + 1 : Nat) : Int) by omega), fr.set rfl rfl, b01 h_o10, hr⟩
                  exact .inl ⟨_, _, (by omega : n - i = n - (i + 1) + 1), inv, _, [], _, 1000, _, [], (ai wY015 false d15 (ai wY011 false d14 (ai wY010 false d13 (ai wY09 false d12 (ai wY08 false d11 (ai wY07 false d10 (ai wY06 true d9 (ai wY014 true d8 (ai wY013 true d7 (ai wY012 false d6 (ai wY05 false d5 (ai wY04 true d4 (ai wY03 false d3 (ai wY02 true d2 (ai wY01 true d1 (ai wY00 true d0 (AlOk.nil _))))))))))))))))), hcs, LkOk.no _ _ _ _, (av 1 .i64 (av 16 .i64 (an 7 (.bin .add (.var .i64 7) (.lit .i64 1)) (sm h_o7.symm) (av 8 .i64 (an 4 (.bin .add (.var .i64 4) (.lit .i64 1)) (sm h_o4.symm) (av 5 .i64 (av 6 .i64 (av 5 .i64 (ar 60 (ar_var 60) (av 6 .i64 (ar 61 (ar_var 61) (av 6 .i64 (av 5 .i64 (an 7 (.bin .add (.var .i64 7) (.lit .i64 1)) (sm h_o7.symm) (an 10 (.bin .neq (.var .u8 10) (.lit .u8 0)) (sm h_o10.symm) (av 9 .i64 (av 8 .i64 (av 6 .i64 (av 5 .i64 (av 5 .i64 (ar 60 (ar_var 60) (av 6 .i64 (ar 61 (ar_var 61) (asg_nil rfl)))))))))))))))))))))))), fun G => by kernel_rfl⟩
              · have d9 : wY06.den S1 = some [b2i false] := fls (p := S1.ρ 4 < S1.ρ 16) c9
                have c10 : ¬ ((S1.Φ 20 [S1.ρ 4]) = (1 : Int)) := by omega
                have d10 : wY08.den S1 = some [b2i false] := fls (p := (S1.Φ 20 [S1.ρ 4]) = (1 : Int)) c10
                have c11 : ¬ ((S1.Φ 20 [S1.ρ 4]) = (2 : Int)) := by omega
                have d11 : wY09.den S1 = some [b2i false] := fls (p := (S1.Φ 20 [S1.ρ 4]) = (2 : Int)) c11
                have c12 : ¬ ((S1.Φ 20 [S1.ρ 4]) = (3 : Int)) := by omega
                have d12 : wY010.den S1 = some [b2i false] := fls (p := (S1.Φ 20 [S1.ρ 4]) = (3 : Int)) c12
                have c13 : ¬ ((S1.Φ 20 [S1.ρ 4]) = (4 : Int)) := by omega
                have d13 : wY011.den S1 = some [b2i false] := fls (p := (S1.Φ 20 [S1.ρ 4]) = (4 : Int)) c13
                have c14 : (IntKind.u64.wrap ((IntKind.u8.wrap ((IntKind.u64.wrap ((S1.Φ 61 [(S1.Φ 21 [S1.ρ 4])]))))))) = (IntKind.u64.wrap ((S1.Φ 61 [(S1.Φ 21 [S1.ρ 4])]))) := by have := hr (S1.Φ 21 [S1.ρ 4]); simp only [mod_u8, mod_u64]; omega
                have d14 : wY015.den S1 = some [b2i false] := fls (p := (IntKind.u64.wrap ((IntKind.u8.wrap ((IntKind.u64.wrap ((S1.Φ 61 [(S1.Φ 21 [S1.ρ 4])]))))))) ≠ (IntKind.u64.wrap ((S1.Φ 61 [(S1.Φ 21 [S1.ρ 4])])))) (fun hh => hh c14)
                obtain ⟨o7, h_o7⟩ : ∃ o : Int, o = (IntKind.i64.wrap (S1.ρ 7 + (1 : Int))) := ⟨_, rfl⟩
                obtain ⟨o4, h_o4⟩ : ∃ o : Int, o = (IntKind.i64.wrap (S1.ρ 4 + (1 : Int))) := ⟨_, rfl⟩
                obtain ⟨o10, h_o10⟩ : ∃ o : Int, o = (b2i (decide (S1.ρ 10 ≠ (0 : Int)))) := ⟨_, rfl⟩
                have u4 := h_o4
                rw [w_i64 (by omega) (by omega)] at u4
                have inv : InvY0 S n (n - (i + 1)) (S1.set (upd S1.ρ [(7, o7), (4, o4), (10, o10)]) [] 60 rfl hK) := ⟨i + 1, by omega, rfl, (show o4 = ((i + 1 : Nat) : Int) by omega), fr.set rfl rfl, b01 h_o10, hr⟩
                exact .inl ⟨_, _, (by omega : n - i = n - (i + 1) + 1), inv, _, [], _, 1000, _, [], (ai wY015 false d14 (ai wY011 false d13 (ai wY010 false d12 (ai wY09 false d11 (ai wY08 false d10 (ai wY06 false d9 (ai wY014 true d8 (ai wY013 true d7 (ai wY012 false d6 (ai wY05 false d5 (ai wY04 true d4 (ai wY03 false d3 (ai wY02 true d2 (ai wY01 true d1 (ai wY00 true d0 (AlOk.nil _)))))))))))))))), hcs, LkOk.no _ _ _ _, (av 1 .i64 (av 16 .i64 (an 7 (.bin .add (.var .i64 7) (.lit .i64 1)) (sm h_o7.symm) (av 8 .i64 (an 4 (.bin .add (.var .i64 4) (.lit .i64 1)) (sm h_o4.symm) (av 5 .i64 (av 6 .i64 (av 5 .i64 (ar 60 (ar_var 60) (av 6 .i64 (ar 61 (ar_var 61) (av 6 .i64 (av 5 .i64 (an 7 (.bin .add (.var .i64 7) (.lit .i64 1)) (sm h_o7.symm) (an 10 (.bin .neq (.var .u8 10) (.lit .u8 0)) (sm h_o10.symm) (av 9 .i64 (av 8 .i64 (av 6 .i64 (av 5 .i64 (av 5 .i64 (ar 60 (ar_var 60) (av 6 .i64 (ar 61 (ar_var 61) (asg_nil rfl)))))))))))))))))))))))), fun G => by kernel_rfl⟩
            · have d6 : wY012.den S1 = some [b2i true] := tr (p := S1.ρ 6 ≤ (S1.Φ 21 [S1.ρ 4])) (Int.not_lt.1 c6)
              by_cases c7 : S1.ρ 4 < S1.ρ 16
              · have d7 : wY06.den S1 = some [b2i true] := tr (p := S1.ρ 4 < S1.ρ 16) c7
                by_cases c8 : S1.Φ 30 [S1.ρ 4] ≠ 0
                · have d8 : wY07.den S1 = some [b2i true] := tr (p := S1.Φ 30 [S1.ρ 4] ≠ 0) c8
                  have c9 : ¬ ((S1.Φ 20 [S1.ρ 4]) = (1 : Int)) := by omega
                  have d9 : wY08.den S1 = some [b2i false] := fls (p := (S1.Φ 20 [S1.ρ 4]) = (1 : Int)) c9
                  have c10 : ¬ ((S1.Φ 20 [S1.ρ 4]) = (2 : Int)) := by omega
                  have d10 : wY09.den S1 = some [b2i false] := fls (p := (S1.Φ 20 [S1.ρ 4]) = (2 : Int)) c10
                  have c11 : ¬ ((S1.Φ 20 [S1.ρ 4]) = (3 : Int)) := by omega
                  have d11 : wY010.den S1 = some [b2i false] := fls (p := (S1.Φ 20 [S1.ρ 4]) = (3 : Int)) c11
                  have c12 : ¬ ((S1.Φ 20 [S1.ρ 4]) = (4 : Int)) := by omega
                  have d12 : wY011.den S1 = some [b2i false] := fls (p := (S1.Φ 20 [S1.ρ 4]) = (4 : Int)) c12
                  obtain ⟨o8, h_o8⟩ : ∃ o : Int, o = (IntKind.i64.wrap (S1.ρ 8 + (1 : Int))) := ⟨_, rfl⟩
                  obtain ⟨o4, h_o4⟩ : ∃ o : Int, o = (IntKind.i64.wrap (S1.ρ 4 + (1 : Int))) := ⟨_, rfl⟩
                  obtain ⟨o10, h_o10⟩ : ∃ o : Int, o = (b2i true) := ⟨_, rfl⟩
                  obtain ⟨o9, h_o9⟩ : ∃ o : Int, o = S1.ρ 4 := ⟨_, rfl⟩
                  have u4 := h_o4
                  rw [w_i64 (by omega) (by omega)] at u4
                  have inv : InvY0 S n (n - (i + 1)) (S1.set (upd S1.ρ [(8, o8), (4, o4), (10, o10), (9, o9)]) [] 60 rfl hK) := ⟨i + 1, by omega, rfl, (show o4 = ((i + 1 : Nat) : Int) by omega), fr.set rfl rfl, b01 h_o10, hr⟩
                  exact .inl ⟨_, _, (by omega : n - i = n - (i + 1) + 1), inv, _, [], _, 1000, _, [], (ai wY011 false d12 (ai wY010 false d11 (ai wY09 false d10 (ai wY08 false d9 (ai wY07 true d8 (ai wY06 true d7 (ai wY012 true d6 (ai wY05 false d5 (ai wY04 true d4 (ai wY03 false d3 (ai wY02 true d2 (ai wY01 true d1 (ai wY00 true d0 (AlOk.nil _)))))))))))))), hcs, LkOk.no _ _ _ _, (av 1 .i64 (av 16 .i64 (av 7 .i64 (an 8 (.bin .add (.var .i64 8) (.lit .i64 1)) (sm h_o8.symm) (an 4 (.bin .add (.var .i64 4) (.lit .i64 1)) (sm h_o4.symm) (av 5 .i64 (av 6 .i64 (av 5 .i64 (ar 60 (ar_var 60) (av 6 .i64 (ar 61 (ar_var 61) (av 6 .i64 (av 5 .i64 (av 7 .i64 (an 10 (.blit true) (sm h_o10.symm) (an 9 (.var .i64 4) (sm h_o9.symm) (an 8 (.bin .add (.var .i64 8) (.lit .i64 1)) (sm h_o8.symm) (av 6 .i64 (av 5 .i64 (av 5 .i64 (ar 60 (ar_var 60) (av 6 .i64 (ar 61 (ar_var 61) (asg_nil rfl)))))))))))))))))))))))), fun G => by kernel_rfl⟩
                · have d8 : wY07.den S1 = some [b2i false] := fls (p := S1.Φ 30 [S1.ρ 4] ≠ 0) c8
                  have c9 : ¬ ((S1.Φ 20 [S1.ρ 4]) = (1 : Int)) := by omega
                  have d9 : wY08.den S1 = some [b2i false] := fls (p := (S1.Φ 20 [S1.ρ 4]) = (1 : Int)) c9
                  have c10 : ¬ ((S1.Φ 20 [S1.ρ 4]) = (2 : Int)) := by omega
                  have d10 : wY09.den S1 = some [b2i false] := fls (p := (S1.Φ 20 [S1.ρ 4]) = (2 : Int)) c10
                  have c11 : ¬ ((S1.Φ 20 [S1.ρ 4]) = (3 : Int)) := by omega
                  have d11 : wY010.den S1 = some [b2i false] := fls (p := (S1.Φ 20 [S1.ρ 4]) = (3 : Int)) c11
                  have c12 : ¬ ((S1.Φ 20 [S1.ρ 4]) = (4 : Int)) := by omega
                  have d12 : wY011.den S1 = some [b2i false] := fls (p := (S1.Φ 20 [S1.ρ 4]) = (4 : Int)) c12
                  obtain ⟨o7, h_o7⟩ : ∃ o : Int, o = (IntKind.i64.wrap (S1.ρ 7 + (1 : Int))) := ⟨_, rfl⟩
                  obtain ⟨o4, h_o4⟩ : ∃ o : Int, o = (IntKind.i64.wrap (S1.ρ 4 + (1 : Int))) := ⟨_, rfl⟩
                  obtain ⟨o10, h_o10⟩ : ∃ o : Int, o = (b2i (decide (S1.ρ 10 ≠ (0 : Int)))) := ⟨_, rfl⟩
                  have u4 := h_o4
                  rw [w_i64 (by omega) (by omega)] at u4
                  have inv : InvY0 S n (n - (i + 1)) (S1.set (upd S1.ρ [(7, o7), (4, o4), (10, o10)]) [] 60 rfl hK) := ⟨i + 1, by omega, rfl, (show o4 = ((i + 1 : Nat) : Int) by omega), fr.set rfl rfl, b01 h_o10, hr⟩
                  exact .inl ⟨_, _, (by omega : n - i = n - (i + 1) + 1), inv, _, [], _, 1000, _, [], (ai wY011 false d12 (ai wY010 false d11 (ai wY09 false d10 (ai wY08 false d9 (ai wY07 false d8 (ai wY06 true d7 (ai wY012 true d6 (ai wY05 false d5 (ai wY04 true d4 (ai wY03 false d3 (ai wY02 true d2 (ai wY01 true d1 (ai wY00 true d0 (AlOk.nil _)))))))))))))), hcs, LkOk.no _ _ _ _, (av 1 .i64 (av 16 .i64 (an 7 (.bin .add (.var .i64 7) (.lit .i64 1)) (sm h_o7.symm) (av 8 .i64 (an 4 (.bin .add (.var .i64 4) (.lit .i64 1)) (sm h_o4.symm) (av 5 .i64 (av 6 .i64 (av 5 .i64 (ar 60 (ar_var 60) (av 6 .i64 (ar 61 (ar_var 61) (av 6 .i64 (av 5 .i64 (an 7 (.bin .add (.var .i64 7) (.lit .i64 1)) (sm h_o7.symm) (an 10 (.bin .neq (.var .u8 10) (.lit .u8 0)) (sm h_o10.symm) (av 9 .i64 (av 8 .i64 (av 6 .i64 (av 5 .i64 (av 5 .i64 (ar 60 (ar_var 60) (av 6 .i64 (ar 61 (ar_var 61) (asg_nil rfl)))))))))))))))))))))))), fun G => by kernel_rfl⟩
              · have d7 : wY06.den S1 = some [b2i false] := fls (p := S1.ρ 4 < S1.ρ 16) c7
                have c8 : ¬ ((S1.Φ 20 [S1.ρ 4]) = (1 : Int)) := by omega
                have d8 : wY08.den S1 = some [b2i false] := fls (p := (S1.Φ 20 [S1.ρ 4]) = (1 : Int)) c8
                have c9 : ¬ ((S1.Φ 20 [S1.ρ 4]) = (2 : Int)) := by omega
                have d9 : wY09.den S1 = some [b2i false] := fls (p := (S1.Φ 20 [S1.ρ 4]) = (2 : Int)) c9
                have c10 : ¬ ((S1.Φ 20 [S1.ρ 4]) = (3 : Int)) := by omega
                have d10 : wY010.den S1 = some [b2i false] := fls (p := (S1.Φ 20 [S1.ρ 4]) = (3 : Int)) c10
                have c11 : ¬ ((S1.Φ 20 [S1.ρ 4]) = (4 : Int)) := by omega
                have d11 : wY011.den S1 = some [b2i false] := fls (p := (S1.Φ 20 [S1.ρ 4]) = (4 : Int)) c11
                obtain ⟨o7, h_o7⟩ : ∃ o : Int, o = (IntKind.i64.wrap (S1.ρ 7 + (1 : Int))) := ⟨_, rfl⟩
                obtain ⟨o4, h_o4⟩ : ∃ o : Int, o = (IntKind.i64.wrap (S1.ρ 4 + (1 : Int))) := ⟨_, rfl⟩
                obtain ⟨o10, h_o10⟩ : ∃ o : Int, o = (b2i (decide (S1.ρ 10 ≠ (0 : Int)))) := ⟨_, rfl⟩
                have u4 := h_o4
                rw [w_i64 (by omega) (by omega)] at u4
                have inv : InvY0 S n (n - (i + 1)) (S1.set (upd S1.ρ [(7, o7), (4, o4), (10, o10)]) [] 60 rfl hK) := ⟨i + 1, by omega, rfl, (show o4 = ((i + 1 : Nat) : Int) by omega), fr.set rfl rfl, b01 h_o10, hr⟩
                exact .inl ⟨_, _, (by omega : n - i = n - (i + 1) + 1), inv, _, [], _, 1000, _, [], (ai wY011 false d11 (ai wY010 false d10 (ai wY09 false d9 (ai wY08 false d8 (ai wY06 false d7 (ai wY012 true d6 (ai wY05 false d5 (ai wY04 true d4 (ai wY03 false d3 (ai wY02 true d2 (ai wY01 true d1 (ai wY00 true d0 (AlOk.nil _))))))))))))), hcs, LkOk.no _ _ _ _, (av 1 .i64 (av 16 .i64 (an 7 (.bin .add (.var .i64 7) (.lit .i64 1)) (sm h_o7.symm) (av 8 .i64 (an 4 (.bin .add (.var .i64 4) (.lit .i64 1)) (sm h_o4.symm) (av 5 .i64 (av 6 .i64 (av 5 .i64 (ar 60 (ar_var 60) (av 6 .i64 (ar 61 (ar_var 61) (av 6 .i64 (av 5 .i64 (an 7 (.bin .add (.var .i64 7) (.lit .i64 1)) (sm h_o7.symm) (an 10 (.bin .neq (.var .u8 10) (.lit .u8 0)) (sm h_o10.symm) (av 9 .i64 (av 8 .i64 (av 6 .i64 (av 5 .i64 (av 5 .i64 (ar 60 (ar_var 60) (av 6 .i64 (ar 61 (ar_var 61) (asg_nil rfl)))))))))))))))))))))))), fun G => by kernel_rfl⟩
        · have d4 : wY04.den S1 = some [b2i false] := fls (p := (S1.Φ 20 [S1.ρ 4]) = (5 : Int)) c4
          by_cases c5 : (S1.Φ 20 [S1.ρ 4]) = (6 : Int)
          · have d5 : wY016.den S1 = some [b2i true] := tr (p := (S1.Φ 20 [S1.ρ 4]) = (6 : Int)) c5
            by_cases c6 : (S1.Φ 21 [S1.ρ 4]) < (0 : Int)
            · have d6 : wY05.den S1 = some [b2i true] := tr (p := (S1.Φ 21 [S1.ρ 4]) < (0 : Int)) c6
              by_cases c7 : S1.ρ 4 < S1.ρ 16
              · have d7 : wY06.den S1 = some [b2i true] := tr (p := S1.ρ 4 < S1.ρ 16) c7
                by_cases c8 : S1.Φ 30 [S1.ρ 4] ≠ 0
                · have d8 : wY07.den S1 = some [b2i true] := tr (p := S1.Φ 30 [S1.ρ 4] ≠ 0) c8
                  have c9 : ¬ ((S1.Φ 20 [S1.ρ 4]) = (1 : Int)) := by omega
                  have d9 : wY08.den S1 = some [b2i false] := fls (p := (S1.Φ 20 [S1.ρ 4]) = (1 : Int)) c9
                  have c10 : ¬ ((S1.Φ 20 [S1.ρ 4]) = (2 : Int)) := by omega
                  have d10 : wY09.den S1 = some [b2i false] := fls (p := (S1.Φ 20 [S1.ρ 4]) = (2 : Int)) c10
                  have c11 : ¬ ((S1.Φ 20 [S1.ρ 4]) = (3 : Int)) := by omega
                  have d11 : wY010.den S1 = some [b2i false] := fls (p := (S1.Φ 20 [S1.ρ 4]) = (3 : Int)) c11
                  have c12 : ¬ ((S1.Φ 20 [S1.ρ 4]) = (4 : Int)) := by omega
                  have d12 : wY011.den S1 = some [b2i false] := fls (p := (S1.Φ 20 [S1.ρ 4]) = (4 : Int)) c12
                  obtain ⟨o8, h_o8⟩ : ∃ o : Int, o = (IntKind.i64.wrap (S1.ρ 8 + (1 : Int))) := ⟨_, rfl⟩
                  obtain ⟨o4, h_o4⟩ : ∃ o : Int, o = (IntKind.i64.wrap (S1.ρ 4 + (1 : Int))) := ⟨_, rfl⟩
                  obtain ⟨o10, h_o10⟩ : ∃ o : Int, o = (b2i true) := ⟨_, rfl⟩
                  obtain ⟨o9, h_o9⟩ : ∃ o : Int, o = S1.ρ 4 := ⟨_, rfl⟩
                  have u4 := h_o4
                  rw [w_i64 (by omega) (by omega)] at u4
                  have inv : InvY0 S n (n - (i + 1)) (S1.set (upd S1.ρ [(8, o8), (4, o4), (10, o10), (9, o9)]) [] 60 rfl hK) := ⟨i + 1, by omega, rfl, (show o4 = ((i + 1 : Nat) : Int) by omega), fr.set rfl rfl, b01 h_o10, hr⟩
                  exact .inl ⟨_, _, (by omega : n - i = n - (i + 1) + 1), inv, _, [], _, 1000, _, [], (ai wY011 false d12 (ai wY010 false d11 (ai wY09 false d10 (ai wY08 false d9 (ai wY07 true d8 (ai wY06 true d7 (ai wY05 true d6 (ai wY016 true d5 (ai wY04 false d4 (ai wY03 false d3 (ai wY02 true d2 (ai wY01 true d1 (ai wY00 true d0 (AlOk.nil _)))))))))))))), hcs, LkOk.no _ _ _ _, (av 1 .i64 (av 16 .i64 (av 7 .i64 (an 8 (.bin .add (.var .i64 8) (.lit .i64 1)) (sm h_o8.symm) (an 4 (.bin .add (.var .i64 4) (.lit .i64 1)) (sm h_o4.symm) (av 5 .i64 (av 6 .i64 (av 5 .i64 (ar 60 (ar_var 60) (av 6 .i64 (ar 61 (ar_var 61) (av 6 .i64 (av 5 .i64 (av 7 .i64 (an 10 (.blit true) (sm h_o10.symm) (an 9 (.var .i64 4) (sm h_o9.symm) (an 8 (.bin .add (.var .i64 8) (.lit .i64 1)) (sm h_o8.symm) (av 6 .i64 (av 5 .i64 (av 5 .i64 (ar 60 (ar_var 60) (av 6 .i64 (ar 61 (ar_var 61) (asg_nil rfl)))))))))))))))))))))))), fun G => by kernel_rfl⟩
                · have d8 : wY07.den S1 = some [b2i false] := fls (p := S1.Φ 30 [S1.ρ 4] ≠ 0) c8
                  have c9 : ¬ ((S1.Φ 20 [S1.ρ 4]) = (1 : Int)) := by omega
                  have d9 : wY08.den S1 = some [b2i false] := fls (p := (S1.Φ 20 [S1.ρ 4]) = (1 : Int)) c9
                  have c10 : ¬ ((S1.Φ 20 [S1.ρ 4]) = (2 : Int)) := by omega
                  have d10 : wY09.den S1 = some [b2i false] := fls (p := (S1.Φ 20 [S1.ρ 4]) = (2 : Int)) c10
                  have c11 : ¬ ((S1.Φ 20 [S1.ρ 4]) = (3 : Int)) := by omega
                  have d11 : wY010.den S1 = some [b2i false] := fls (p := (S1.Φ 20 [S1.ρ 4]) = (3 : Int)) c11
                  have c12 : ¬ ((S1.Φ 20 [S1.ρ 4]) = (4 : Int)) := by omega
                  have d12 : wY011.den S1 = some [b2i false] := fls (p := (S1.Φ 20 [S1.ρ 4]) = (4 : Int)) c12
                  obtain ⟨o7, h_o7⟩ : ∃ o : Int, o = (IntKind.i64.wrap (S1.ρ 7 + (1 : Int))) := ⟨_, rfl⟩
                  obtain ⟨o4, h_o4⟩ : ∃ o : Int, o = (IntKind.i64.wrap (S1.ρ 4 + (1 : Int))) := ⟨_, rfl⟩
                  obtain ⟨o10, h_o10⟩ : ∃ o : Int, o = (b2i (decide (S1.ρ 10 ≠ (0 : Int)))) := ⟨_, rfl⟩
                  have u4 := h_o4
                  rw [w_i64 (by omega) (by omega)] at u4
                  have inv : InvY0 S n (n - (i + 1)) (S1.set (upd S1.ρ [(7, o7), (4, o4), (10, o10)]) [] 60 rfl hK) := ⟨i + 1, by omega, rfl, (show o4 = ((i + 1 : Nat) : Int) by omega), fr.set rfl rfl, b01 h_o10, hr⟩
                  exact .inl ⟨_, _, (by omega : n - i = n - (i + 1) + 1), inv, _, [], _, 1000, _, [], (ai wY011 false d12 (ai wY010 false d11 (ai wY09 false d10 (ai wY08 false d9 (ai wY07 false d8 (ai wY06 true d7 (ai wY05 true d6 (ai wY016 true d5 (ai wY04 false d4 (ai wY03 false d3 (ai wY02 true d2 (ai wY01 true d1 (ai wY00 true d0 (AlOk.nil _)))))))))))))), hcs, LkOk.no _ _ _ _, (av 1 .i64 (av 16 .i64 (an 7 (.bin .add (.var .i64 7) (.lit .i64 1)) (sm h_o7.symm) (av 8 .i64 (an 4 (.bin .add (.var .i64 4) (.lit .i64 1)) (sm h_o4.symm) (av 5 .i64 (av 6 .i64 (av 5 .i64 (ar 60 (ar_var 60) (av 6 .i64 (ar 61 (ar_var 61) (av 6 .i64 (av 5 .i64 (an 7 (.bin .add (.var .i64 7) (.lit .i64 1)) (sm h_o7.symm) (an 10 (.bin .neq (.var .u8 10) (.lit .u8 0)) (sm h_o10.symm) (av 9 .i64 (av 8 .i64 (av 6 .i64 (av 5 .i64 (av 5 .i64 (ar 60 (ar_var 60) (av 6 .i64 (ar 61 (ar_var 61) (asg_nil rfl)))))))))))))))))))))))), fun G => by kernel_rfl⟩
              · have d7 : wY06.den S1 = some [b2i false] := fls (p := S1.ρ 4 < S1.ρ 16) c7
                have c8 : ¬ ((S1.Φ 20 [S1.ρ 4]) = (1 : Int)) := by omega
                have d8 : wY08.den S1 = some [b2i false] := fls (p := (S1.Φ 20 [S1.ρ 4]) = (1 : Int)) c8
                have c9 : ¬ ((S1.Φ 20 [S1.ρ 4]) = (2 : Int)) := by omega
                have d9 : wY09.den S1 = some [b2i false] := fls (p := (S1.Φ 20 [S1.ρ 4]) = (2 : Int)) c9
                have c10 : ¬ ((S1.Φ 20 [S1.ρ 4]) = (3 : Int)) := by omega
                have d10 : wY010.den S1 = some [b2i false] := fls (p := (S1.Φ 20 [S1.ρ 4]) = (3 : Int)) c10
                have c11 : ¬ ((S1.Φ 20 [S1.ρ 4]) = (4 : Int)) := by omega
                have d11 : wY011.den S1 = some [b2i false] := fls (p := (S1.Φ 20 [S1.ρ 4]) = (4 : Int)) c11
                obtain ⟨o7, h_o7⟩ : ∃ o : Int, o = (IntKind.i64.wrap (S1.ρ 7 + (1 : Int))) := ⟨_, rfl⟩
                obtain ⟨o4, h_o4⟩ : ∃ o : Int, o = (IntKind.i64.wrap (S1.ρ 4 + (1 : Int))) := ⟨_, rfl⟩
                obtain ⟨o10, h_o10⟩ : ∃ o : Int, o = (b2i (decide (S1.ρ 10 ≠ (0 : Int)))) := ⟨_, rfl⟩
                have u4 := h_o4
                rw [w_i64 (by omega) (by omega)] at u4
                have inv : InvY0 S n (n - (i + 1)) (S1.set (upd S1.ρ [(7, o7), (4, o4), (10, o10)]) [] 60 rfl hK) := ⟨i + 1, by omega, rfl, (show o4 = ((i + 1 : Nat) : Int) by omega), fr.set rfl rfl, b01 h_o10, hr⟩
                exact .inl ⟨_, _, (by omega : n - i = n - (i + 1) + 1), inv, _, [], _, 1000, _, [], (ai wY011 false d11 (ai wY010 false d10 (ai wY09 false d9 (ai wY08 false d8 (ai wY06 false d7 (ai wY05 true d6 (ai wY016 true d5 (ai wY04 false d4 (ai wY03 false d3 (ai wY02 true d2 (ai wY01 true d1 (ai wY00 true d0 (AlOk.nil _))))))))))))), hcs, LkOk.no _ _ _ _, (av 1 .i64 (av 16 .i64 (an 7 (.bin .add (.var .i64 7) (.lit .i64 1)) (sm h_o7.symm) (av 8 .i64 (an 4 (.bin .add (.var .i64 4) (.lit .i64 1)) (sm h_o4.symm) (av 5 .i64 (av 6 .i64 (av 5 .i64 (ar 60 (ar_var 60) (av 6 .i64 (ar 61 (ar_var 61) (av 6 .i64 (av 5 .i64 (an 7 (.bin .add (.var .i64 7) (.lit .i64 1)) (sm h_o7.symm) (an 10 (.bin .neq (.var .u8 10) (.lit .u8 0)) (sm h_o10.symm) (av 9 .i64 (av 8 .i64 (av 6 .i64 (av 5 .i64 (av 5 .i64 (ar 60 (ar_var 60) (av 6 .i64 (ar 61 (ar_var 61) (asg_nil rfl)))))))))))))))))))))))), fun G => by kernel_rfl⟩
            · have d6 : wY05.den S1 = some [b2i false] := fls (p := (S1.Φ 21 [S1.ρ 4]) < (0 : Int)) c6
              by_cases c7 : (S1.Φ 21 [S1.ρ 4]) < S1.ρ 6
              · have d7 : wY012.den S1 = some [b2i false] := fls (p := S1.ρ 6 ≤ (S1.Φ 21 [S1.ρ 4])) (Int.not_le.2 c7)
                have c8 : (0 : Int) < S1.ρ 6 := by omega
                have d8 : wY017.den S1 = some [b2i true] := tr (p := (0 : Int) < S1.ρ 6) c8
                have c9 : S1.ρ 6 < (4194304 : Int) := by omega
                have d9 : wY018.den S1 = some [b2i true] := tr (p := S1.ρ 6 < (4194304 : Int)) c9
                have d10 : wY013.den S1 = some [b2i true] := tr (p := (0 : Int) ≤ (S1.Φ 21 [S1.ρ 4])) (Int.not_lt.1 c6)
                have d11 : wY014.den S1 = some [b2i true] := tr (p := (S1.Φ 21 [S1.ρ 4]) < S1.ρ 6) c7
                by_cases c12 : S1.ρ 4 < S1.ρ 16
                · have d12 : wY06.den S1 = some [b2i true] := tr (p := S1.ρ 4 < S1.ρ 16) c12
                  by_cases c13 : S1.Φ 30 [S1.ρ 4] ≠ 0
                  · have d13 : wY07.den S1 = some [b2i true] := tr (p := S1.Φ 30 [S1.ρ 4] ≠ 0) c13
                    have c14 : ¬ ((S1.Φ 20 [S1.ρ 4]) = (1 : Int)) := by omega
                    have d14 : wY08.den S1 = some [b2i false] := fls (p := (S1.Φ 20 [S1.ρ 4]) = (1 : Int)) c14
                    have c15 : ¬ ((S1.Φ 20 [S1.ρ 4]) = (2 : Int)) := by omega
                    have d15 : wY09.den S1 = some [b2i false] := fls (p := (S1.Φ 20 [S1.ρ 4]) = (2 : Int)) c15
                    have c16 : ¬ ((S1.Φ 20 [S1.ρ 4]) = (3 : Int)) := by omega
                    have d16 : wY010.den S1 = some [b2i false] := fls (p := (S1.Φ 20 [S1.ρ 4]) = (3 : Int)) c16
                    have c17 : ¬ ((S1.Φ 20 [S1.ρ 4]) = (4 : Int)) := by omega
                    have d17 : wY011.den S1 = some [b2i false] := fls (p := (S1.Φ 20 [S1.ρ 4]) = (4 : Int)) c17
                    obtain ⟨o8, h_o8⟩ : ∃ o : Int, o = (IntKind.i64.wrap (S1.ρ 8 + (1 : Int))) := ⟨_, rfl⟩
                    obtain ⟨o4, h_o4⟩ : ∃ o : Int, o = (IntKind.i64.wrap (S1.ρ 4 + (1 : Int))) := ⟨_, rfl⟩
                    obtain ⟨o10, h_o10⟩ : ∃ o : Int, o = (b2i true) := ⟨_, rfl⟩
                    obtain ⟨o9, h_o9⟩ : ∃ o : Int, o = S1.ρ 4 := ⟨_, rfl⟩
                    have u4 := h_o4
                    rw [w_i64 (by omega) (by omega)] at u4
                    have inv : InvY0 S n (n - (i + 1)) (S1.set (upd S1.ρ [(8, o8), (4, o4), (10, o10), (9, o9)]) [(61, (fun j => ifE j (S1.Φ 21 [S1.ρ 4]) (IntKind.u8.wrap ((IntKind.u64.wrap ((IntKind.u8.wrap ((S1.Φ 22 [S1.ρ 4]))))))) ((fun j => S1.Φ 61 [j]) j)))] 60 rfl hK) := ⟨i + 1, by omega, rfl, (show o4 = ((i + 1 : Nat) : Int) by omega), fr.set rfl rfl, b01 h_o10, fun j => ifE_in (P := fun z => 0 ≤ z ∧ z < 256) (u8_in _) hr j⟩
                    exact .inl ⟨_, _, (by omega : n - i = n - (i + 1) + 1), inv, _, [], _, 1000, _, [(10, 16)], (ai wY011 false d17 (ai wY010 false d16 (ai wY09 false d15 (ai wY08 false d14 (ai wY07 true d13 (ai wY06 true d12 (ai wY014 true d11 (ai wY013 true d10 (ai wY018 true d9 (ai wY017 true d8 (ai wY012 false d7 (ai wY05 false d6 (ai wY016 true d5 (ai wY04 false d4 (ai wY03 false d3 (ai wY02 true d2 (ai wY01 true d1 (ai wY00 true d0 (AlOk.nil _))))))))))))))))))), hcs, LkOk.no _ _ _ _, (av 1 .i64 (av 16 .i64 (av 7 .i64 (an 8 (.bin .add (.var .i64 8) (.lit .i64 1)) (sm h_o8.symm) (an 4 (.bin .add (.var .i64 4) (.lit .i64 1)) (sm h_o4.symm) (av 5 .i64 (av 6 .i64 (av 5 .i64 (ar 60 (ar_var 60) (av 6 .i64 (ar 61 (ar_upd (.app .i64 21 (.cons (.var .i64 4) .nil)) (.conv .u8 (.conv .u64 (.conv .u8 (.app .u64 22 (.cons (.var .i64 4) .nil))))) (i := (S1.Φ 21 [S1.ρ 4])) (v := (IntKind.u8.wrap ((IntKind.u64.wrap ((IntKind.u8.wrap ((S1.Φ 22 [S1.ρ 4])))))))) rfl rfl (by kernel_rfl) (ar_var 61)) (av 6 .i64 (av 5 .i64 (av 7 .i64 (an 10 (.blit true) (sm h_o10.symm) (an 9 (.var .i64 4) (sm h_o9.symm) (an 8 (.bin .add (.var .i64 8) (.lit .i64 1)) (sm h_o8.symm) (av 6 .i64 (av 5 .i64 (av 5 .i64 (ar 60 (ar_var 60) (av 6 .i64 (ar 61 (ar_upd (.app .i64 21 (.cons (.var .i64 4) .nil)) (.conv .u8 (.app .u64 22 (.cons (.var .i64 4) .nil))) (i := (S1.Φ 21 [S1.ρ 4])) (v := (IntKind.u8.wrap ((S1.Φ 22 [S1.ρ 4])))) rfl rfl (by kernel_rfl) (ar_var 61)) (asg_nil rfl) (fun j => congrArg (fun q => ifE (j : Int) (S1.Φ 21 [S1.ρ 4]) q ((fun j => S1.Φ 61 [j]) (j : Int))) (show (IntKind.u8.wrap ((S1.Φ 22 [S1.ρ 4]))) = (IntKind.u8.wrap ((IntKind.u64.wrap ((IntKind.u8.wrap ((S1.Φ 22 [S1.ρ 4]))))))) from by simp only [mod_u8, mod_u64]; omega))))))))))))))))))))))))), fun G => by kernel_rfl⟩
                  · have d13 : wY07.den S1 = some [b2i false] := fls (p := S1.Φ 30 [S1.ρ 4] ≠ 0) c13
                    have c14 : ¬ ((S1.Φ 20 [S1.ρ 4]) = (1 : Int)) := by omega
                    have d14 : wY08.den S1 = some [b2i false] := fls (p := (S1.Φ 20 [S1.ρ 4]) = (1 : Int)) c14
                    have c15 : ¬ ((S1.Φ 20 [S1.ρ 4]) = (2 : Int)) := by omega
                    have d15 : wY09.den S1 = some [b2i false] := fls (p := (S1.Φ 20 [S1.ρ 4]) = (2 : Int)) c15
                    have c16 : ¬ ((S1.Φ 20 [S1.ρ 4]) = (3 : Int)) := by omega
                    have d16 : wY010.den S1 = some [b2i false] := fls (p := (S1.Φ 20 [S1.ρ 4]) = (3 : Int)) c16
                    have c17 : ¬ ((S1.Φ 20 [S1.ρ 4]) = (4 : Int)) := by omega
                    have d17 : wY011.den S1 = some [b2i false] := fls (p := (S1.Φ 20 [S1.ρ 4]) = (4 : Int)) c17
                    obtain ⟨o7, h_o7⟩ : ∃ o : Int, o = (IntKind.i64.wrap (S1.ρ 7 + (1 : Int))) := ⟨_, rfl⟩
                    obtain ⟨o4, h_o4⟩ : ∃ o : Int, o = (IntKind.i64.wrap (S1.ρ 4 + (1 : Int))) := ⟨_, rfl⟩
                    obtain ⟨o10, h_o10⟩ : ∃ o : Int, o = (b2i (decide (S1.ρ 10 ≠ (0 : Int)))) := ⟨_, rfl⟩
                    have u4 := h_o4
                    rw [w_i64 (by omega) (by omega)] at u4
                    have inv : InvY0 S n (n - (i + 1)) (S1.set (upd S1.ρ [(7, o7), (4, o4), (10, o10)]) [(61, (fun j => ifE j (S1.Φ 21 [S1.ρ 4]) (IntKind.u8.wrap ((IntKind.u64.wrap ((IntKind.u8.wrap ((S1.Φ 22 [S1.ρ 4]))))))) ((fun j => S1.Φ 61 [j]) j)))] 60 rfl hK) := ⟨i + 1, by omega, rfl, (show o4 = ((i + 1 : Nat) : Int) by omega), fr.set rfl rfl, b01 h_o10, fun j => ifE_in (P := fun z => 0 ≤ z ∧ z < 256) (u8_in _) hr j⟩
                    exact .inl ⟨_, _, (by omega : n - i = n - (i + 1) + 1), inv, _, [], _, 1000, _, [(10, 16)], (ai wY011 false d17 (ai wY010 false d16 (ai wY09 false d15 (ai wY08 false d14 (ai wY07 false d13 (ai wY06 true d12 (ai wY014 true d11 (ai wY013 true d10 (ai wY018 true d9 (ai wY017 true d8 (ai wY012 false d7 (ai wY05 false d6 (ai wY016 true d5 (ai wY04 false d4 (ai wY03 false d3 (ai wY02 true d2 (ai wY01 true d1 (ai wY00 true d0 (AlOk.nil _))))))))))))))))))), hcs, LkOk.no _ _ _ _, (av 1 .i64 (av 16 .i64 (an 7 (.bin .add (.var .i64 7) (.lit .i64 1)) (sm h_o7.symm) (av 8 .i64 (an 4 (.bin .add (.var .i64 4) (.lit .i64 1)) (sm h_o4.symm) (av 5 .i64 (av 6 .i64 (av 5 .i64 (ar 60 (ar_var 60) (av 6 .i64 (ar 61 (ar_upd (.app .i64 21 (.cons (.var .i64 4) .nil)) (.conv .u8 (.conv .u64 (.conv .u8 (.app .u64 22 (.cons (.var .i64 4) .nil))))) (i := (S1.Φ 21 [S1.ρ 4])) (v := (IntKind.u8.wrap ((IntKind.u64.wrap ((IntKind.u8.wrap ((S1.Φ 22 [S1.ρ 4])))))))) rfl rfl (by kernel_rfl) (ar_var 61)) (av 6 .i64 (av 5 .i64 (an 7 (.bin .add (.var .i64 7) (.lit .i64 1)) (sm h_o7.symm) (an 10 (.bin .neq (.var .u8 10) (.lit .u8 0)) (sm h_o10.symm) (av 9 .i64 (av 8 .i64 (av 6 .i64 (av 5 .i64 (av 5 .i64 (ar 60 (ar_var 60) (av 6 .i64 (ar 61 (ar_upd (.app .i64 21 (.cons (.var .i64 4) .nil)) (.conv .u8 (.app .u64 22 (.cons (.var .i64 4) .nil))) (i := (S1.Φ 21 [S1.ρ 4])) (v := (IntKind.u8.wrap ((S1.Φ 22 [S1.ρ 4])))) rfl rfl (by kernel_rfl) (ar_var 61)) (asg_nil rfl) (fun j => congrArg (fun q => ifE (j : Int) (S1.Φ 21 [S1.ρ 4]) q ((fun j => S1.Φ 61 [j]) (j : Int))) (show (IntKind.u8.wrap ((S1.Φ 22 [S1.ρ 4]))) = (IntKind.u8.wrap ((IntKind.u64.wrap ((IntKind.u8.wrap ((S1.Φ 22 [S1.ρ 4]))))))) from by simp only [mod_u8, mod_u64]; omega))))))))))))))))))))))))), fun G => by kernel_rfl⟩
                · have d12 : wY06.den S1 = some [b2i false] := fls (p := S1.ρ 4 < S1.ρ 16) c12
                  have c13 : ¬ ((S1.Φ 20 [S1.ρ 4]) = (1 : Int)) := by omega
                  have d13 : wY08.den S1 = some [b2i false] := fls (p := (S1.Φ 20 [S1.ρ 4]) = (1 : Int)) c13
                  have c14 : ¬ ((S1.Φ 20 [S1.ρ 4]) = (2 : Int)) := by omega
                  have d14 : wY09.den S1 = some [b2i false] := fls (p := (S1.Φ 20 [S1.ρ 4]) = (2 : Int)) c14
                  have c15 : ¬ ((S1.Φ 20 [S1.ρ 4]) = (3 : Int)) := by omega
                  have d15 : wY010.den S1 = some [b2i false] := fls (p := (S1.Φ 20 [S1.ρ 4]) = (3 : Int)) c15
                  have c16 : ¬ ((S1.Φ 20 [S1.ρ 4]) = (4 : Int)) := by omega
                  have d16 : wY011.den S1 = some [b2i false] := fls (p := (S1.Φ 20 [S1.ρ 4]) = (4 : Int)) c16
                  obtain ⟨o7, h_o7⟩ : ∃ o : Int, o = (IntKind.i64.wrap (S1.ρ 7 + (1 : Int))) := ⟨_, rfl⟩
                  obtain ⟨o4, h_o4⟩ : ∃ o : Int, o = (IntKind.i64.wrap (S1.ρ 4 + (1 : Int))) := ⟨_, rfl⟩
                  obtain ⟨o10, h_o10⟩ : ∃ o : Int, o = (b2i (decide (S1.ρ 10 ≠ (0 : Int)))) := ⟨_, rfl⟩
                  have u4 := h_o4
                  rw [w_i64 (by omega) (by omega)] at u4
                  have inv : InvY0 S n (n - (i + 1)) (S1.set (upd S1.ρ [(7, o7), (4, o4), (10, o10)]) [(61, (fun j => ifE j (S1.Φ 21 [S1.ρ 4]) (IntKind.u8.wrap ((IntKind.u64.wrap ((IntKind.u8.wrap ((S1.Φ 22 [S1.ρ 4]))))))) ((fun j => S1.Φ 61 [j]) j)))] 60 rfl hK) := ⟨i + 1, by omega, rfl, (show o4 = ((i + 1 : Nat) : Int) by omega), fr.set rfl rfl, b01 h_o10, fun j => ifE_in (P := fun z => 0 ≤ z ∧ z < 256) (u8_in _) hr j⟩
                  exact .inl ⟨_, _, (by omega : n - i = n - (i + 1) + 1), inv, _, [], _, 1000, _, [(10, 16)], (ai wY011 false d16 (ai wY010 false d15 (ai wY09 false d14 (ai wY08 false d13 (ai wY06 false d12 (ai wY014 true d11 (ai wY013 true d10 (ai wY018 true d9 (ai wY017 true d8 (ai wY012 false d7 (ai wY05 false d6 (ai wY016 true d5 (ai wY04 false d4 (ai wY03 false d3 (ai wY02 true d2 (ai wY01 true d1 (ai wY00 true d0 (AlOk.nil _)))))))))))))))))), hcs, LkOk.no _ _ _ _, (av 1 .i64 (av 16 .i64 (an 7 (.bin .add (.var .i64 7) (.lit .i64 1)) (sm h_o7.symm) (av 8 .i64 (an 4 (.bin .add (.var .i64 4) (.lit .i64 1)) (sm h_o4.symm) (av 5 .i64 (av 6 .i64 (av 5 .i64 (ar 60 (ar_var 60) (av 6 .i64 (ar 61 (ar_upd (.app .i64 21 (.cons (.var .i64 4) .nil)) (.conv .u8 (.conv .u64 (.conv .u8 (.app .u64 22 (.cons (.var .i64 4) .nil))))) (i := (S1.Φ 21 [S1.ρ 4])) (v := (IntKind.u8.wrap ((IntKind.u64.wrap ((IntKind.u8.wrap ((S1.Φ 22 [S1.ρ 4])))))))) rfl rfl (by kernel_rfl) (ar_var 61)) (av 6 .i64 (av 5 .i64 (an 7 (.bin .add (.var .i64 7) (.lit .i64 1)) (sm h_o7.symm) (an 10 (.bin .neq (.var .u8 10) (.lit .u8 0)) (sm h_o10.symm) (av 9 .i64 (av 8 .i64 (av 6 .i64 (av 5 .i64 (av 5 .i64 (ar 60 (ar_var 60) (av 6 .i64 (ar 61 (ar_upd (.app .i64 21 (.cons (.var .i64 4) .nil)) (.conv .u8 (.app .u64 22 (.cons (.var .i64 4) .nil))) (i := (S1.Φ 21 [S1.ρ 4])) (v := (IntKind.u8.wrap ((S1.Φ 22 [S1.ρ 4])))) rfl rfl (by kernel_rfl) (ar_var 61)) (asg_nil rfl) (fun j => congrArg (fun q => ifE (j : Int) (S1.Φ 21 [S1.ρ 4]) q ((fun j => S1.Φ 61 [j]) (j : Int))) (show (IntKind.u8.wrap ((S1.Φ 22 [S1.ρ 4]))) = (IntKind.u8.wrap ((IntKind.u64.wrap ((IntKind.u8.wrap ((S1.Φ 22 [S1.ρ 4]))))))) from by simp only [mod_u8, mod_u64]; omega))))))))))))))))))))))))), fun G => by kernel_rfl⟩
              · have d7 : wY012.den S1 = some [b2i true] := tr (p := S1.ρ 6 ≤ (S1.Φ 21 [S1.ρ 4])) (Int.not_lt.1 c7)
                by_cases c8 : S1.ρ 4 < S1.ρ 16
                · have d8 : wY06.den S1 = some [b2i true] := tr (p := S1.ρ 4 < S1.ρ 16) c8
                  by_cases c9 : S1.Φ 30 [S1.ρ 4] ≠ 0
                  · have d9 : wY07.den S1 = some [b2i true] := tr (p := S1.Φ 30 [S1.ρ 4] ≠ 0) c9
                    have c10 : ¬ ((S1.Φ 20 [S1.ρ 4]) = (1 : Int)) := by omega
                    have d10 : wY08.den S1 = some [b2i false] := fls (p := (S1.Φ 20 [S1.ρ 4]) = (1 : Int)) c10
                    have c11 : ¬ ((S1.Φ 20 [S1.ρ 4]) = (2 : Int)) := by omega
                    have d11 : wY09.den S1 = some [b2i false] := fls (p := (S1.Φ 20 [S1.ρ 4]) = (2 : Int)) c11
                    have c12 : ¬ ((S1.Φ 20 [S1.ρ 4]) = (3 : Int)) := by omega
                    have d12 : wY010.den S1 = some [b2i false] := fls (p := (S1.Φ 20 [S1.ρ 4]) = (3 : Int)) c12
                    have c13 : ¬ ((S1.Φ 20 [S1.ρ 4]) = (4 : Int)) := by omega
                    have d13 : wY011.den S1 = some [b2i false] := fls (p := (S1.Φ 20 [S1.ρ 4]) = (4 : Int)) c13
                    obtain ⟨o8, h_o8⟩ : ∃ o : Int, o = (IntKind.i64.wrap (S1.ρ 8 + (1 : Int))) := ⟨_, rfl⟩
                    obtain ⟨o4, h_o4⟩ : ∃ o : Int, o = (IntKind.i64.wrap (S1.ρ 4 + (1 : Int))) := ⟨_, rfl⟩
                    obtain ⟨o10, h_o10⟩ : ∃ o : Int, o = (b2i true) := ⟨_, rfl⟩
                    obtain ⟨o9, h_o9⟩ : ∃ o : Int, o = S1.ρ 4 := ⟨_, rfl⟩
                    have u4 := h_o4
                    rw [w_i64 (by omega) (by omega)] at u4
                    have inv : InvY0 S n (n - (i + 1)) (S1.set (upd S1.ρ [(8, o8), (4, o4), (10, o10), (9, o9)]) [] 60 rfl hK) := ⟨i + 1, by omega, rfl, (show o4 = ((i + 1 : Nat) : Int) by omega), fr.set rfl rfl, b01 h_o10, hr⟩
                    exact .inl ⟨_, _, (by omega : n - i = n - (i + 1) + 1), inv, _, [], _, 1000, _, [], (ai wY011 false d13 (ai wY010 false d12 (ai wY09 false d11 (ai wY08 false d10 (ai wY07 true d9 (ai wY06 true d8 (ai wY012 true d7 (ai wY05 false d6 (ai wY016 true d5 (ai wY04 false d4 (ai wY03 false d3 (ai wY02 true d2 (ai wY01 true d1 (ai wY00 true d0 (AlOk.nil _))))))))))))))), hcs, LkOk.no _ _ _ _, (av 1 .i64 (av 16 .i64 (av 7 .i64 (an 8 (.bin .add (.var .i64 8) (.lit .i64 1)) (sm h_o8.symm) (an 4 (.bin .add (.var .i64 4) (.lit .i64 1)) (sm h_o4.symm) (av 5 .i64 (av 6 .i64 (av 5 .i64 (ar 60 (ar_var 60) (av 6 .i64 (ar 61 (ar_var 61) (av 6 .i64 (av 5 .i64 (av 7 .i64 (an 10 (.blit true) (sm h_o10.symm) (an 9 (.var .i64 4) (sm h_o9.symm) (an 8 (.bin .add (.var .i64 8) (.lit .i64 1)) (sm h_o8.symm) (av 6 .i64 (av 5 .i64 (av 5 .i64 (ar 60 (ar_var 60) (av 6 .i64 (ar 61 (ar_var 61) (asg_nil rfl)))))))))))))))))))))))), fun G => by kernel_rfl⟩
                  · have d9 : wY07.den S1 = some [b2i false] := fls (p := S1.Φ 30 [S1.ρ 4] ≠ 0) c9
                    have c10 : ¬ ((S1.Φ 20 [S1.ρ 4]) = (1 : Int)) := by omega
                    have d10 : wY08.den S1 = some [b2i false] := fls (p := (S1.Φ 20 [S1.ρ 4]) = (1 : Int)) c10
                    have c11 : ¬ ((S1.Φ 20 [S1.ρ 4]) = (2 : Int)) := by omega
                    have d11 : wY09.den S1 = some [b2i false] := fls (p := (S1.Φ 20 [S1.ρ 4]) = (2 : Int)) c11
                    have c12 : ¬ ((S1.Φ 20 [S1.ρ 4]) = (3 : Int)) := by omega
                    have d12 : wY010.den S1 = some [b2i false] := fls (p := (S1.Φ 20 [S1.ρ 4]) = (3 : Int)) c12
                    have c13 : ¬ ((S1.Φ 20 [S1.ρ 4]) = (4 : Int)) := by omega
                    have d13 : wY011.den S1 = some [b2i false] := fls (p := (S1.Φ 20 [S1.ρ 4]) = (4 : Int)) c13
                    obtain ⟨o7, h_o7⟩ : ∃ o : Int, o = (IntKind.i64.wrap (S1.ρ 7 + (1 : Int))) := ⟨_, rfl⟩
                    obtain ⟨o4, h_o4⟩ : ∃ o : Int, o = (IntKind.i64.wrap (S1.ρ 4 + (1 : Int))) := ⟨_, rfl⟩
                    obtain ⟨o10, h_o10⟩ : ∃ o : Int, o = (b2i (decide (S1.ρ 10 ≠ (0 : Int)))) := ⟨_, rfl⟩
                    have u4 := h_o4
                    rw [w_i64 (by omega) (by omega)] at u4
                    have inv : InvY0 S n (n - (i + 1)) (S1.set (upd S1.ρ [(7, o7), (4, o4), (10, o10)]) [] 60 rfl hK) := ⟨i + 1, by omega, rfl, (show o4 = ((i + 1 : Nat) : Int) by omega), fr.set rfl rfl, b01 h_o10, hr⟩
                    exact .inl ⟨_, _, (by omega : n - i = n - (i + 1) + 1), inv, _, [], _, 1000, _, [], (ai wY011 false d13 (ai wY010 false d12 (ai wY09 false d11 (ai wY08 false d10 (ai wY07 false d9 (ai wY06 true d8 (ai wY012 true d7 (ai wY05 false d6 (ai wY016 true d5 (ai wY04 false d4 (ai wY03 false d3 (ai wY02 true d2 (ai wY01 true d1 (ai wY00 true d0 (AlOk.nil _))))))))))))))), hcs, LkOk.no _ _ _ _, (av 1 .i64 (av 16 .i64 (an 7 (.bin .add (.var .i64 7) (.lit .i64 1)) (sm h_o7.symm) (av 8 .i64 (an 4 (.bin .add (.var .i64 4) (.lit .i64 1)) (sm h_o4.symm) (av 5 .i64 (av 6 .i64 (av 5 .i64 (ar 60 (ar_var 60) (av 6 .i64 (ar 61 (ar_var 61) (av 6 .i64 (av 5 .i64 (an 7 (.bin .add (.var .i64 7) (.lit .i64 1)) (sm h_o7.symm) (an 10 (.bin .neq (.var .u8 10) (.lit .u8 0)) (sm h_o10.symm) (av 9 .i64 (av 8 .i64 (av 6 .i64 (av 5 .i64 (av 5 .i64 (ar 60 (ar_var 60) (av 6 .i64 (ar 61 (ar_var 61) (asg_nil rfl)))))))))))))))))))))))), fun G => by kernel_rfl⟩
                · have d8 : wY06.den S1 = some [b2i false] := fls (p := S1.ρ 4 < S1.ρ 16) c8
                  have c9 : ¬ ((S1.Φ 20 [S1.ρ 4]) = (1 : Int)) := by omega
                  have d9 : wY08.den S1 = some [b2i false] := fls (p := (S1.Φ 20 [S1.ρ 4]) = (1 : Int)) c9
                  have c10 : ¬ ((S1.Φ 20 [S1.ρ 4]) = (2 : Int)) := by omega
                  have d10 : wY09.den S1 = some [b2i false] := fls (p := (S1.Φ 20 [S1.ρ 4]) = (2 : Int)) c10
                  have c11 : ¬ ((S1.Φ 20 [S1.ρ 4]) = (3 : Int)) := by omega
                  have d11 : wY010.den S1 = some [b2i false] := fls (p := (S1.Φ 20 [S1.ρ 4]) = (3 : Int)) c11
                  have c12 : ¬ ((S1.Φ 20 [S1.ρ 4]) = (4 : Int)) := by omega
                  have d12 : wY011.den S1 = some [b2i false] := fls (p := (S1.Φ 20 [S1.ρ 4]) = (4 : Int)) c12
                  obtain ⟨o7, h_o7⟩ : ∃ o : Int, o = (IntKind.i64.wrap (S1.ρ 7 + (1 : Int))) := ⟨_, rfl⟩
                  obtain ⟨o4, h_o4⟩ : ∃ o : Int, o = (IntKind.i64.wrap (S1.ρ 4 + (1 : Int))) := ⟨_, rfl⟩
                  obtain ⟨o10, h_o10⟩ : ∃ o : Int, o = (b2i (decide (S1.ρ 10 ≠ (0 : Int)))) := ⟨_, rfl⟩
                  have u4 := h_o4
                  rw [w_i64 (by omega) (by omega)] at u4
                  have inv : InvY0 S n (n - (i + 1)) (S1.set (upd S1.ρ [(7, o7), (4, o4), (10, o10)]) [] 60 rfl hK) := ⟨i + 1, by omega, rfl, (show o4 = ((i + 1 : Nat) : Int) by omega), fr.set rfl rfl, b01 h_o10, hr⟩
                  exact .inl ⟨_, _, (by omega : n - i = n - (i + 1) + 1), inv, _, [], _, 1000, _, [], (ai wY011 false d12 (ai wY010 false d11 (ai wY09 false d10 (ai wY08 false d9 (ai wY06 false d8 (ai wY012 true d7 (ai wY05 false d6 (ai wY016 true d5 (ai wY04 false d4 (ai wY03 false d3 (ai wY02 true d2 (ai wY01 true d1 (ai wY00 true d0 (AlOk.nil _)))))))))))))), hcs, LkOk.no _ _ _ _, (av 1 .i64 (av 16 .i64 (an 7 (.bin .add (.var .i64 7) (.lit .i64 1)) (sm h_o7.symm) (av 8 .i64 (an 4 (.bin .add (.var .i64 4) (.lit .i64 1)) (sm h_o4.symm) (av 5 .i64 (av 6 .i64 (av 5 .i64 (ar 60 (ar_var 60) (av 6 .i64 (ar 61 (ar_var 61) (av 6 .i64 (av 5 .i64 (an 7 (.bin .add (.var .i64 7) (.lit .i64 1)) (sm h_o7.symm) (an 10 (.bin .neq (.var .u8 10) (.lit .u8 0)) (sm h_o10.symm) (av 9 .i64 (av 8 .i64 (av 6 .i64 (av 5 .i64 (av 5 .i64 (ar 60 (ar_var 60) (av 6 .i64 (ar 61 (ar_var 61) (asg_nil rfl)))))))))))))))))))))))), fun G => by kernel_rfl⟩
          · have d5 : wY016.den S1 = some [b2i false] := fls (p := (S1.Φ 20 [S1.ρ 4]) = (6 : Int)) c5
            by_cases c6 : (S1.Φ 21 [S1.ρ 4]) < (0 : Int)
            · have d6 : wY05.den S1 = some [b2i true] := tr (p := (S1.Φ 21 [S1.ρ 4]) < (0 : Int)) c6
              by_cases c7 : S1.ρ 4 < S1.ρ 16
              · have d7 : wY06.den S1 = some [b2i true] := tr (p := S1.ρ 4 < S1.ρ 16) c7
                by_cases c8 : S1.Φ 30 [S1.ρ 4] ≠ 0
                · have d8 : wY07.den S1 = some [b2i true] := tr (p := S1.Φ 30 [S1.ρ 4] ≠ 0) c8
                  by_cases c9 : (S1.Φ 20 [S1.ρ 4]) = (1 : Int)
                  · have d9 : wY08.den S1 = some [b2i true] := tr (p := (S1.Φ 20 [S1.ρ 4]) = (1 : Int)) c9
                    obtain ⟨o8, h_o8⟩ : ∃ o : Int, o = (IntKind.i64.wrap (S1.ρ 8 + (1 : Int))) := ⟨_, rfl⟩
                    obtain ⟨o4, h_o4⟩ : ∃ o : Int, o = (IntKind.i64.wrap (S1.ρ 4 + (1 : Int))) := ⟨_, rfl⟩
                    obtain ⟨o10, h_o10⟩ : ∃ o : Int, o = (b2i true) := ⟨_, rfl⟩
                    obtain ⟨o9, h_o9⟩ : ∃ o : Int, o = S1.ρ 4 := ⟨_, rfl⟩
                    have u4 := h_o4
                    rw [w_i64 (by omega) (by omega)] at u4
                    have inv : InvY0 S n (n - (i + 1)) (S1.set (upd S1.ρ [(8, o8), (4, o4), (10, o10), (9, o9)]) [] 60 rfl hK) := ⟨i + 1, by omega, rfl, (show o4 = ((i + 1 : Nat) : Int) by omega), fr.set rfl rfl, b01 h_o10, hr⟩
                    exact .inl ⟨_, _, (by omega : n - i = n - (i + 1) + 1), inv, _, [], _, 1000, _, [], (ai wY08 true d9 (ai wY07 true d8 (ai wY06 true d7 (ai wY05 true d6 (ai wY016 false d5 (ai wY04 false d4 (ai wY03 false d3 (ai wY02 true d2 (ai wY01 true d1 (ai wY00 true d0 (AlOk.nil _))))))))))), hcs, LkOk.no _ _ _ _, (av 1 .i64 (av 16 .i64 (av 7 .i64 (an 8 (.bin .add (.var .i64 8) (.lit .i64 1)) (sm h_o8.symm) (an 4 (.bin .add (.var .i64 4) (.lit .i64 1)) (sm h_o4.symm) (av 5 .i64 (av 6 .i64 (av 5 .i64 (ar 60 (ar_var 60) (av 6 .i64 (ar 61 (ar_var 61) (av 6 .i64 (av 5 .i64 (av 7 .i64 (an 10 (.blit true) (sm h_o10.symm) (an 9 (.var .i64 4) (sm h_o9.symm) (an 8 (.bin .add (.var .i64 8) (.lit .i64 1)) (sm h_o8.symm) (av 6 .i64 (av 5 .i64 (av 5 .i64 (ar 60 (ar_var 60) (av 6 .i64 (ar 61 (ar_var 61) (asg_nil rfl)))))))))))))))))))))))), fun G => by kernel_rfl⟩
                  · have d9 : wY08.den S1 = some [b2i false] := fls (p := (S1.Φ 20 [S1.ρ 4]) = (1 : Int)) c9
                    by_cases c10 : (S1.Φ 20 [S1.ρ 4]) = (2 : Int)
                    · have d10 : wY09.den S1 = some [b2i true] := tr (p := (S1.Φ 20 [S1.ρ 4]) = (2 : Int)) c10
                      obtain ⟨o8, h_o8⟩ : ∃ o : Int, o = (IntKind.i64.wrap (S1.ρ 8 + (1 : Int))) := ⟨_, rfl⟩
                      obtain ⟨o4, h_o4⟩ : ∃ o : Int, o = (IntKind.i64.wrap (S1.ρ 4 + (1 : Int))) := ⟨_, rfl⟩
                      obtain ⟨o10, h_o10⟩ : ∃ o : Int, o = (b2i true) := ⟨_, rfl⟩
                      obtain ⟨o9, h_o9⟩ : ∃ o : Int, o = S1.ρ 4 := ⟨_, rfl⟩
                      have u4 := h_o4
                      rw [w_i64 (by omega) (by omega)] at u4
                      have inv : InvY0 S n (n - (i + 1)) (S1.set (upd S1.ρ [(8, o8), (4, o4), (10, o10), (9, o9)]) [] 60 rfl hK) := ⟨i + 1, by omega, rfl, (show o4 = ((i + 1 : Nat) : Int) by omega), fr.set rfl rfl, b01 h_o10, hr⟩
                      exact .inl ⟨_, _, (by omega : n - i = n - (i + 1) + 1), inv, _, [], _, 1000, _, [], (ai wY09 true d10 (ai wY08 false d9 (ai wY07 true d8 (ai wY06 true d7 (ai wY05 true d6 (ai wY016 false d5 (ai wY04 false d4 (ai wY03 false d3 (ai wY02 true d2 (ai wY01 true d1 (ai wY00 true d0 (AlOk.nil _)))))))))))), hcs, LkOk.no _ _ _ _, (av 1 .i64 (av 16 .i64 (av 7 .i64 (an 8 (.bin .add (.var .i64 8) (.lit .i64 1)) (sm h_o8.symm) (an 4 (.bin .add (.var .i64 4) (.lit .i64 1)) (sm h_o4.symm) (av 5 .i64 (av 6 .i64 (av 5 .i64 (ar 60 (ar_var 60) (av 6 .i64 (ar 61 (ar_var 61) (av 6 .i64 (av 5 .i64 (av 7 .i64 (an 10 (.blit true) (sm h_o10.symm) (an 9 (.var .i64 4) (sm h_o9.symm) (an 8 (.bin .add (.var .i64 8) (.lit .i64 1)) (sm h_o8.symm) (av 6 .i64 (av 5 .i64 (av 5 .i64 (ar 60 (ar_var 60) (av 6 .i64 (ar 61 (ar_var 61) (asg_nil rfl)))))))))))))))))))))))), fun G => by kernel_rfl⟩
                    · have d10 : wY09.den S1 = some [b2i false] := fls (p := (S1.Φ 20 [S1.ρ 4]) = (2 : Int)) c10
                      by_cases c11 : (S1.Φ 20 [S1.ρ 4]) = (3 : Int)
                      · have d11 : wY010.den S1 = some [b2i true] := tr (p := (S1.Φ 20 [S1.ρ 4]) = (3 : Int)) c11
                        obtain ⟨o8, h_o8⟩ : ∃ o : Int, o = (IntKind.i64.wrap (S1.ρ 8 + (1 : Int))) := ⟨_, rfl⟩
                        obtain ⟨o4, h_o4⟩ : ∃ o : Int, o = (IntKind.i64.wrap (S1.ρ 4 + (1 : Int))) := ⟨_, rfl⟩
                        obtain ⟨o10, h_o10⟩ : ∃ o : Int, o = (b2i true) := ⟨_, rfl⟩
                        obtain ⟨o9, h_o9⟩ : ∃ o : Int, o = S1.ρ 4 := ⟨_, rfl⟩
                        have u4 := h_o4
                        rw [w_i64 (by omega) (by omega)] at u4
                        have inv : InvY0 S n (n - (i + 1)) (S1.set (upd S1.ρ [(8, o8), (4, o4), (10, o10), (9, o9)]) [] 60 rfl hK) := ⟨i + 1, by omega, rfl, (show o4 = ((i + 1 : Nat) : Int) by omega), fr.set rfl rfl, b01 h_o10, hr⟩
                        exact .inl ⟨_, _, (by omega : n - i = n - (i + 1) + 1), inv, _, [], _, 1000, _, [], (ai wY010 true d11 (ai wY09 false d10 (ai wY08 false d9 (ai wY07 true d8 (ai wY06 true d7 (ai wY05 true d6 (ai wY016 false d5 (ai wY04 false d4 (ai wY03 false d3 (ai wY02 true d2 (ai wY01 true d1 (ai wY00 true d0 (AlOk.nil _))))))))))))), hcs, LkOk.no _ _ _ _, (av 1 .i64 (av 16 .i64 (av 7 .i64 (an 8 (.bin .add (.var .i64 8) (.lit .i64 1)) (sm h_o8.symm) (an 4 (.bin .add (.var .i64 4) (.lit .i64 1)) (sm h_o4.symm) (av 5 .i64 (av 6 .i64 (av 5 .i64 (ar 60 (ar_var 60) (av 6 .i64 (ar 61 (ar_var 61) (av 6 .i64 (av 5 .i64 (av 7 .i64 (an 10 (.blit true) (sm h_o10.symm) (an 9 (.var .i64 4) (sm h_o9.symm) (an 8 (.bin .add (.var .i64 8) (.lit .i64 1)) (sm h_o8.symm) (av 6 .i64 (av 5 .i64 (av 5 .i64 (ar 60 (ar_var 60) (av 6 .i64 (ar 61 (ar_var 61) (asg_nil rfl)))))))))))))))))))))))), fun G => by kernel_rfl⟩
                      · have d11 : wY010.den S1 = some [b2i false] := fls (p := (S1.Φ 20 [S1.ρ 4]) = (3 : Int)) c11
                        have c12 : (S1.Φ 20 [S1.ρ 4]) = (4 : Int) := by omega
                        have d12 : wY011.den S1 = some [b2i true] := tr (p := (S1.Φ 20 [S1.ρ 4]) = (4 : Int)) c12
                        obtain ⟨o8, h_o8⟩ : ∃ o : Int, o = (IntKind.i64.wrap (S1.ρ 8 + (1 : Int))) := ⟨_, rfl⟩
                        obtain ⟨o4, h_o4⟩ : ∃ o : Int, o = (IntKind.i64.wrap (S1.ρ 4 + (1 : Int))) := ⟨_, rfl⟩
                        obtain ⟨o10, h_o10⟩ : ∃ o : Int, o = (b2i true) := ⟨_, rfl⟩
                        obtain ⟨o9, h_o9⟩ : ∃ o : Int, o = S1.ρ 4 := ⟨_, rfl⟩
                        have u4 := h_o4
                        rw [w_i64 (by omega) (by omega)] at u4
                        have inv : InvY0 S n (n - (i + 1)) (S1.set (upd S1.ρ [(8, o8), (4, o4), (10, o10), (9, o9)]) [] 60 rfl hK) := ⟨i + 1, by omega, rfl, (show o4 = ((i + 1 : Nat) : Int) by omega), fr.set rfl rfl, b01 h_o10, hr⟩
                        exact .inl ⟨_, _, (by omega : n - i = n - (i + 1) + 1), inv, _, [], _, 1000, _, [], (ai wY011 true d12 (ai wY010 false d11 (ai wY09 false d10 (ai wY08 false d9 (ai wY07 true d8 (ai wY06 true d7 (ai wY05 true d6 (ai wY016 false d5 (ai wY04 false d4 (ai wY03 false d3 (ai wY02 true d2 (ai wY01 true d1 (ai wY00 true d0 (AlOk.nil _)))))))))))))), hcs, LkOk.no _ _ _ _, (av 1 .i64 (av 16 .i64 (av 7 .i64 (an 8 (.bin .add (.var .i64 8) (.lit .i64 1)) (sm h_o8.symm) (an 4 (.bin .add (.var .i64 4) (.lit .i64 1)) (sm h_o4.symm) (av 5 .i64 (av 6 .i64 (av 5 .i64 (ar 60 (ar_var 60) (av 6 .i64 (ar 61 (ar_var 61) (av 6 .i64 (av 5 .i64 (av 7 .i64 (an 10 (.blit true) (sm h_o10.symm) (an 9 (.var .i64 4) (sm h_o9.symm) (an 8 (.bin .add (.var .i64 8) (.lit .i64 1)) (sm h_o8.symm) (av 6 .i64 (av 5 .i64 (av 5 .i64 (ar 60 (ar_var 60) (av 6 .i64 (ar 61 (ar_var 61) (asg_nil rfl)))))))))))))))))))))))), fun G => by kernel_rfl⟩
                · have d8 : wY07.den S1 = some [b2i false] := fls (p := S1.Φ 30 [S1.ρ 4] ≠ 0) c8
                  by_cases c9 : (S1.Φ 20 [S1.ρ 4]) = (1 : Int)
                  · have d9 : wY08.den S1 = some [b2i true] := tr (p := (S1.Φ 20 [S1.ρ 4]) = (1 : Int)) c9
                    obtain ⟨o7, h_o7⟩ : ∃ o : Int, o = (IntKind.i64.wrap (S1.ρ 7 + (1 : Int))) := ⟨_, rfl⟩
                    obtain ⟨o4, h_o4⟩ : ∃ o : Int, o = (IntKind.i64.wrap (S1.ρ 4 + (1 : Int))) := ⟨_, rfl⟩
                    obtain ⟨o10, h_o10⟩ : ∃ o : Int, o = (b2i (decide (S1.ρ 10 ≠ (0 : Int)))) := ⟨_, rfl⟩
                    have u4 := h_o4
                    rw [w_i64 (by omega) (by omega)] at u4
                    have inv : InvY0 S n (n - (i + 1)) (S1.set (upd S1.ρ [(7, o7), (4, o4), (10, o10)]) [] 60 rfl hK) := ⟨i + 1, by omega, rfl, (show o4 = ((i + 1 : Nat) : Int) by omega), fr.set rfl rfl, b01 h_o10, hr⟩
                    exact .inl ⟨_, _, (by omega : n - i = n - (i + 1) + 1), inv, _, [], _, 1000, _, [], (ai wY08 true d9 (ai wY07 false d8 (ai wY06 true d7 (ai wY05 true d6 (ai wY016 false d5 (ai wY04 false d4 (ai wY03 false d3 (ai wY02 true d2 (ai wY01 true d1 (ai wY00 true d0 (AlOk.nil _))))))))))), hcs, LkOk.no _ _ _ _, (av 1 .i64 (av 16 .i64 (an 7 (.bin .add (.var .i64 7) (.lit .i64 1)) (sm h_o7.symm) (av 8 .i64 (an 4 (.bin .add (.var .i64 4) (.lit .i64 1)) (sm h_o4.symm) (av 5 .i64 (av 6 .i64 (av 5 .i64 (ar 60 (ar_var 60) (av 6 .i64 (ar 61 (ar_var 61) (av 6 .i64 (av 5 .i64 (an 7 (.bin .add (.var .i64 7) (.lit .i64 1)) (sm h_o7.symm) (an 10 (.bin .neq (.var .u8 10) (.lit .u8 0)) (sm h_o10.symm) (av 9 .i64 (av 8 .i64 (av 6 .i64 (av 5 .i64 (av 5 .i64 (ar 60 (ar_var 60) (av 6 .i64 (ar 61 (ar_var 61) (asg_nil rfl)))))))))))))))))))))))), fun G => by kernel_rfl⟩
                  · have d9 : wY08.den S1 = some [b2i false] := fls (p := (S1.Φ 20 [S1.ρ 4]) = (1 : Int)) c9
                    by_cases c10 : (S1.Φ 20 [S1.ρ 4]) = (2 : Int)
                    · have d10 : wY09.den S1 = some [b2i true] := tr (p := (S1.Φ 20 [S1.ρ 4]) = (2 : Int)) c10
                      obtain ⟨o7, h_o7⟩ : ∃ o : Int, o = (IntKind.i64.wrap (S1.ρ 7 + (1 : Int))) := ⟨_, rfl⟩
                      obtain ⟨o4, h_o4⟩ : ∃ o : Int, o = (IntKind.i64.wrap (S1.ρ 4 + (1 : Int))) := ⟨_, rfl⟩
                      obtain ⟨o10, h_o10⟩ : ∃ o : Int, o = (b2i (decide (S1.ρ 10 ≠ (0 : Int)))) := ⟨_, rfl⟩
                      have u4 := h_o4
                      rw [w_i64 (by omega) (by omega)] at u4
                      have inv : InvY0 S n (n - (i + 1)) (S1.set (upd S1.ρ [(7, o7), (4, o4), (10, o10)]) [] 60 rfl hK) := ⟨i + 1, by omega, rfl, (show o4 = ((i + 1 : Nat) : Int) by omega), fr.set rfl rfl, b01 h_o10, hr⟩
                      exact .inl ⟨_, _, (by omega : n - i = n - (i + 1) + 1), inv, _, [], _, 1000, _, [], (ai wY09 true d10 (ai wY08 false d9 (ai wY07 false d8 (ai wY06 true d7 (ai wY05 true d6 (ai wY016 false d5 (ai wY04 false d4 (ai wY03 false d3 (ai wY02 true d2 (ai wY01 true d1 (ai wY00 true d0 (AlOk.nil _)))))))))))), hcs, LkOk.no _ _ _ _, (av 1 .i64 (av 16 .i64 (an 7 (.bin .add (.var .i64 7) (.lit .i64 1)) (sm h_o7.symm) (av 8 .i64 (an 4 (.bin .add (.var .i64 4) (.lit .i64 1)) (sm h_o4.symm) (av 5 .i64 (av 6 .i64 (av 5 .i64 (ar 60 (ar_var 60) (av 6 .i64 (ar 61 (ar_var 61) (av 6 .i64 (av 5 .i64 (an 7 (.bin .add (.var .i64 7) (.lit .i64 1)) (sm h_o7.symm) (an 10 (.bin .neq (.var .u8 10) (.lit .u8 0)) (sm h_o10.symm) (av 9 .i64 (av 8 .i64 (av 6 .i64 (av 5 .i64 (av 5 .i64 (ar 60 (ar_var 60) (av 6 .i64 (ar 61 (ar_var 61) (asg_nil rfl)))))))))))))))))))))))), fun G => by kernel_rfl⟩
                    · have d10 : wY09.den S1 = some [b2i false] := fls (p := (S1.Φ 20 [S1.ρ 4]) = (2 : Int)) c10
                      by_cases c11 : (S1.Φ 20 [S1.ρ 4]) = (3 : Int)
                      · have d11 : wY010.den S1 = some [b2i true] := tr (p := (S1.Φ 20 [S1.ρ 4]) = (3 : Int)) c11
                        obtain ⟨o7, h_o7⟩ : ∃ o : Int, o = (IntKind.i64.wrap (S1.ρ 7 + (1 : Int))) := ⟨_, rfl⟩
                        obtain ⟨o4, h_o4⟩ : ∃ o : Int, o = (IntKind.i64.wrap (S1.ρ 4 + (1 : Int))) := ⟨_, rfl⟩
                        obtain ⟨o10, h_o10⟩ : ∃ o : Int, o = (b2i (decide (S1.ρ 10 ≠ (0 : Int)))) := ⟨_, rfl⟩
                        have u4 := h_o4
                        rw [w_i64 (by omega) (by omega)] at u4
                        have inv : InvY0 S n (n - (i + 1)) (S1.set (upd S1.ρ [(7, o7), (4, o4), (10, o10)]) [] 60 rfl hK) := ⟨i + 1, by omega, rfl, (show o4 = ((i + 1 : Nat) : Int) by omega), fr.set rfl rfl, b01 h_o10, hr⟩
                        exact .inl ⟨_, _, (by omega : n - i = n - (i + 1) + 1), inv, _, [], _, 1000, _, [], (ai wY010 true d11 (ai wY09 false d10 (ai wY08 false d9 (ai wY07 false d8 (ai wY06 true d7 (ai wY05 true d6 (ai wY016 false d5 (ai wY04 false d4 (ai wY03 false d3 (ai wY02 true d2 (ai wY01 true d1 (ai wY00 true d0 (AlOk.nil _))))))))))))), hcs, LkOk.no _ _ _ _, (av 1 .i64 (av 16 .i64 (an 7 (.bin .add (.var .i64 7) (.lit .i64 1)) (sm h_o7.symm) (av 8 .i64 (an 4 (.bin .add (.var .i64 4) (.lit .i64 1)) (sm h_o4.symm) (av 5 .i64 (av 6 .i64 (av 5 .i64 (ar 60 (ar_var 60) (av 6 .i64 (ar 61 (ar_var 61) (av 6 .i64 (av 5 .i64 (an 7 (.bin .add (.var .i64 7) (.lit .i64 1)) (sm h_o7.symm) (an 10 (.bin .neq (.var .u8 10) (.lit .u8 0)) (sm h_o10.symm) (av 9 .i64 (av 8 .i64 (av 6 .i64 (av 5 .i64 (av 5 .i64 (ar 60 (ar_var 60) (av 6 .i64 (ar 61 (ar_var 61) (asg_nil rfl)))))))))))))))))))))))), fun G => by kernel_rfl⟩
                      · have d11 : wY010.den S1 = some [b2i false] := fls (p := (S1.Φ 20 [S1.ρ 4]) = (3 : Int)) c11
                        have c12 : (S1.Φ 20 [S1.ρ 4]) = (4 : Int) := by omega
                        have d12 : wY011.den S1 = some [b2i true] := tr (p := (S1.Φ 20 [S1.ρ 4]) = (4 : Int)) c12
                        obtain ⟨o7, h_o7⟩ : ∃ o : Int, o = (IntKind.i64.wrap (S1.ρ 7 + (1 : Int))) := ⟨_, rfl⟩
                        obtain ⟨o4, h_o4⟩ : ∃ o : Int, o = (IntKind.i64.wrap (S1.ρ 4 + (1 : Int))) := ⟨_, rfl⟩
                        obtain ⟨o10, h_o10⟩ : ∃ o : Int, o = (b2i (decide (S1.ρ 10 ≠ (0 : Int)))) := ⟨_, rfl⟩
                        have u4 := h_o4
                        rw [w_i64 (by omega) (by omega)] at u4
                        have inv : InvY0 S n (n - (i + 1)) (S1.set (upd S1.ρ [(7, o7), (4, o4), (10, o10)]) [] 60 rfl hK) := ⟨i + 1, by omega, rfl, (show o4 = ((i + 1 : Nat) : Int) by omega), fr.set rfl rfl, b01 h_o10, hr⟩
                        exact .inl ⟨_, _, (by omega : n - i = n - (i + 1) + 1), inv, _, [], _, 1000, _, [], (ai wY011 true d12 (ai wY010 false d11 (ai wY09 false d10 (ai wY08 false d9 (ai wY07 false d8 (ai wY06 true d7 (ai wY05 true d6 (ai wY016 false d5 (ai wY04 false d4 (ai wY03 false d3 (ai wY02 true d2 (ai wY01 true d1 (ai wY00 true d0 (AlOk.nil _)))))))))))))), hcs, LkOk.no _ _ _ _, (av 1 .i64 (av 16 .i64 (an 7 (.bin .add (.var .i64 7) (.lit .i64 1)) (sm h_o7.symm) (av 8 .i64 (an 4 (.bin .add (.var .i64 4) (.lit .i64 1)) (sm h_o4.symm) (av 5 .i64 (av 6 .i64 (av 5 .i64 (ar 60 (ar_var 60) (av 6 .i64 (ar 61 (ar_var 61) (av 6 .i64 (av 5 .i64 (an 7 (.bin .add (.var .i64 7) (.lit .i64 1)) (sm h_o7.symm) (an 10 (.bin .neq (.var .u8 10) (.lit .u8 0)) (sm h_o10.symm) (av 9 .i64 (av 8 .i64 (av 6 .i64 (av 5 .i64 (av 5 .i64 (ar 60 (ar_var 60) (av 6 .i64 (ar 61 (ar_var 61) (asg_nil rfl)))))))))))))))))))))))), fun G => by kernel_rfl⟩
              · have d7 : wY06.den S1 = some [b2i false] := fls (p := S1.ρ 4 < S1.ρ 16) c7
                by_cases c8 : (S1.Φ 20 [S1.ρ 4]) = (1 : Int)
                · have d8 : wY08.den S1 = some [b2i true] := tr (p := (S1.Φ 20 [S1.ρ 4]) = (1 : Int)) c8
                  obtain ⟨o7, h_o7⟩ : ∃ o : Int, o = (IntKind.i64.wrap (S1.ρ 7 + (1 : Int))) := ⟨_, rfl⟩
                  obtain ⟨o4, h_o4⟩ : ∃ o : Int, o = (IntKind.i64.wrap (S1.ρ 4 + (1 : Int))) := ⟨_, rfl⟩
                  obtain ⟨o10, h_o10⟩ : ∃ o : Int, o = (b2i (decide (S1.ρ 10 ≠ (0 : Int)))) := ⟨_, rfl⟩
                  have u4 := h_o4
                  rw [w_i64 (by omega) (by omega)] at u4
                  have inv : InvY0 S n (n - (i + 1)) (S1.set (upd S1.ρ [(7, o7), (4, o4), (10, o10)]) [] 60 rfl hK) := ⟨i + 1, by omega, rfl, (show o4 = ((i + 1 : Nat) : Int) by omega), fr.set rfl rfl, b01 h_o10, hr⟩
                  exact .inl ⟨_, _, (by omega : n - i = n - (i + 1) + 1), inv, _, [], _, 1000, _, [], (ai wY08 true d8 (ai wY06 false d7 (ai wY05 true d6 (ai wY016 false d5 (ai wY04 false d4 (ai wY03 false d3 (ai wY02 true d2 (ai wY01 true d1 (ai wY00 true d0 (AlOk.nil _)))))))))), hcs, LkOk.no _ _ _ _, (av 1 .i64 (av 16 .i64 (an 7 (.bin .add (.var .i64 7) (.lit .i64 1)) (sm h_o7.symm) (av 8 .i64 (an 4 (.bin .add (.var .i64 4) (.lit .i64 1)) (sm h_o4.symm) (av 5 .i64 (av 6 .i64 (av 5 .i64 (ar 60 (ar_var 60) (av 6 .i64 (ar 61 (ar_var 61) (av 6 .i64 (av 5 .i64 (an 7 (.bin .add (.var .i64 7) (.lit .i64 1)) (sm h_o7.symm) (an 10 (.bin .neq (.var .u8 10) (.lit .u8 0)) (sm h_o10.symm) (av 9 .i64 (av 8 .i64 (av 6 .i64 (av 5 .i64 (av 5 .i64 (ar 60 (ar_var 60) (av 6 .i64 (ar 61 (ar_var 61) (asg_nil rfl)))))))))))))))))))))))), fun G => by kernel_rfl⟩
                · have d8 : wY08.den S1 = some [b2i false] := fls (p := (S1.Φ 20 [S1.ρ 4]) = (1 : Int)) c8
                  by_cases c9 : (S1.Φ 20 [S1.ρ 4]) = (2 : Int)
                  · have d9 : wY09.den S1 = some [b2i true] := tr (p := (S1.Φ 20 [S1.ρ 4]) = (2 : Int)) c9
                    obtain ⟨o7, h_o7⟩ : ∃ o : Int, o = (IntKind.i64.wrap (S1.ρ 7 + (1 : Int))) := ⟨_, rfl⟩
                    obtain ⟨o4, h_o4⟩ : ∃ o : Int, o = (IntKind.i64.wrap (S1.ρ 4 + (1 : Int))) := ⟨_, rfl⟩
                    obtain ⟨o10, h_o10⟩ : ∃ o : Int, o = (b2i (decide (S1.ρ 10 ≠ (0 : Int)))) := ⟨_, rfl⟩
                    have u4 := h_o4
                    rw [w_i64 (by omega) (by omega)] at u4
                    have inv : InvY0 S n (n - (i + 1)) (S1.set (upd S1.ρ [(7, o7), (4, o4), (10, o10)]) [] 60 rfl hK) := ⟨i + 1, by omega, rfl, (show o4 = ((i + 1 : Nat) : Int) by omega), fr.set rfl rfl, b01 h_o10, hr⟩
                    exact .inl ⟨_, _, (by omega : n - i = n - (i + 1) + 1), inv, _, [], _, 1000, _, [], (ai wY09 true d9 (ai wY08 false d8 (ai wY06 false d7 (ai wY05 true d6 (ai wY016 false d5 (ai wY04 false d4 (ai wY03 false d3 (ai wY02 true d2 (ai wY01 true d1 (ai wY00 true d0 (AlOk.nil _))))))))))), hcs, LkOk.no _ _ _ _, (av 1 .i64 (av 16 .i64 (an 7 (.bin .add (.var .i64 7) (.lit .i64 1)) (sm h_o7.symm) (av 8 .i64 (an 4 (.bin .add (.var .i64 4) (.lit .i64 1)) (sm h_o4.symm) (av 5 .i64 (av 6 .i64 (av 5 .i64 (ar 60 (ar_var 60) (av 6 .i64 (ar 61 (ar_var 61) (av 6 .i64 (av 5 .i64 (an 7 (.bin .add (.var .i64 7) (.lit .i64 1)) (sm h_o7.symm) (an 10 (.bin .neq (.var .u8 10) (.lit .u8 0)) (sm h_o10.symm) (av 9 .i64 (av 8 .i64 (av 6 .i64 (av 5 .i64 (av 5 .i64 (ar 60 (ar_var 60) (av 6 .i64 (ar 61 (ar_var 61) (asg_nil rfl)))))))))))))))))))))))), fun G => by kernel_rfl⟩
                  · have d9 : wY09.den S1 = some [b2i false] := fls (p := (S1.Φ 20 [S1.ρ 4]) = (2 : Int)) c9
                    by_cases c10 : (S1.Φ 20 [S1.ρ 4]) = (3 : Int)
                    · have d10 : wY010.den S1 = some [b2i true] := tr (p := (S1.Φ 20 [S1.ρ 4]) = (3 : Int)) c10
                      obtain ⟨o7, h_o7⟩ : ∃ o : Int, o = (IntKind.i64.wrap (S1.ρ 7 + (1 : Int))) := ⟨_, rfl⟩
                      obtain ⟨o4, h_o4⟩ : ∃ o : Int, o = (IntKind.i64.wrap (S1.ρ 4 + (1 : Int))) := ⟨_, rfl⟩
                      obtain ⟨o10, h_o10⟩ : ∃ o : Int, o = (b2i (decide (S1.ρ 10 ≠ (0 : Int)))) := ⟨_, rfl⟩
                      have u4 := h_o4
                      rw [w_i64 (by omega) (by omega)] at u4
                      have inv : InvY0 S n (n - (i + 1)) (S1.set (upd S1.ρ [(7, o7), (4, o4), (10, o10)]) [] 60 rfl hK) := ⟨i + 1, by omega, rfl, (show o4 = ((i + 1 : Nat) : Int) by omega), fr.set rfl rfl, b01 h_o10, hr⟩
                      exact .inl ⟨_, _, (by omega : n - i = n - (i + 1) + 1), inv, _, [], _, 1000, _, [], (ai wY010 true d10 (ai wY09 false d9 (ai wY08 false d8 (ai wY06 false d7 (ai wY05 true d6 (ai wY016 false d5 (ai wY04 false d4 (ai wY03 false d3 (ai wY02 true d2 (ai wY01 true d1 (ai wY00 true d0 (AlOk.nil _)))))))))))), hcs, LkOk.no _ _ _ _, (av 1 .i64 (av 16 .i64 (an 7 (.bin .add (.var .i64 7) (.lit .i64 1)) (sm h_o7.symm) (av 8 .i64 (an 4 (.bin .add (.var .i64 4) (.lit .i64 1)) (sm h_o4.symm) (av 5 .i64 (av 6 .i64 (av 5 .i64 (ar 60 (ar_var 60) (av 6 .i64 (ar 61 (ar_var 61) (av 6 .i64 (av 5 .i64 (an 7 (.bin .add (.var .i64 7) (.lit .i64 1)) (sm h_o7.symm) (an 10 (.bin .neq (.var .u8 10) (.lit .u8 0)) (sm h_o10.symm) (av 9 .i64 (av 8 .i64 (av 6 .i64 (av 5 .i64 (av 5 .i64 (ar 60 (ar_var 60) (av 6 .i64 (ar 61 (ar_var 61) (asg_nil rfl)))))))))))))))))))))))), fun G => by kernel_rfl⟩
                    · have d10 : wY010.den S1 = some [b2i false] := fls (p := (S1.Φ 20 [S1.ρ 4]) = (3 : Int)) c10
                      have c11 : (S1.Φ 20 [S1.ρ 4]) = (4 : Int) := by omega
                      have d11 : wY011.den S1 = some [b2i true] := tr (p := (S1.Φ 20 [S1.ρ 4]) = (4 : Int)) c11
                      obtain ⟨o7, h_o7⟩ : ∃ o : Int, o = (IntKind.i64.wrap (S1.ρ 7 + (1 : Int))) := ⟨_, rfl⟩
                      obtain ⟨o4, h_o4⟩ : ∃ o : Int, o = (IntKind.i64.wrap (S1.ρ 4 + (1 : Int))) := ⟨_, rfl⟩
                      obtain ⟨o10, h_o10⟩ : ∃ o : Int, o = (b2i (decide (S1.ρ 10 ≠ (0 : Int)))) := ⟨_, rfl⟩
                      have u4 := h_o4
                      rw [w_i64 (by omega) (by omega)] at u4
                      have inv : InvY0 S n (n - (i + 1)) (S1.set (upd S1.ρ [(7, o7), (4, o4), (10, o10)]) [] 60 rfl hK) := ⟨i + 1, by omega, rfl, (show o4 = ((i + 1 : Nat) : Int) by omega), fr.set rfl rfl, b01 h_o10, hr⟩
                      exact .inl ⟨_, _, (by omega : n - i = n - (i + 1) + 1), inv, _, [], _, 1000, _, [], (ai wY011 true d11 (ai wY010 false d10 (ai wY09 false d9 (ai wY08 false d8 (ai wY06 false d7 (ai wY05 true d6 (ai wY016 false d5 (ai wY04 false d4 (ai wY03 false d3 (ai wY02 true d2 (ai wY01 true d1 (ai wY00 true d0 (AlOk.nil _))))))))))))), hcs, LkOk.no _ _ _ _, (av 1 .i64 (av 16 .i64 (an 7 (.bin .add (.var .i64 7) (.lit .i64 1)) (sm h_o7.symm) (av 8 .i64 (an 4 (.bin .add (.var .i64 4) (.lit .i64 1)) (sm h_o4.symm) (av 5 .i64 (av 6 .i64 (av 5 .i64 (ar 60 (ar_var 60) (av 6 .i64 (ar 61 (ar_var 61) (av 6 .i64 (av 5 .i64 (an 7 (.bin .add (.var .i64 7) (.lit .i64 1)) (sm h_o7.symm) (an 10 (.bin .neq (.var .u8 10) (.lit .u8 0)) (sm h_o10.symm) (av 9 .i64 (av 8 .i64 (av 6 .i64 (av 5 .i64 (av 5 .i64 (ar 60 (ar_var 60) (av 6 .i64 (ar 61 (ar_var 61) (asg_nil rfl)))))))))))))))))))))))), fun G => by kernel_rfl⟩
            · have d6 : wY05.den S1 = some [b2i false] := fls (p := (S1.Φ 21 [S1.ρ 4]) < (0 : Int)) c6
              by_cases c7 : (S1.Φ 21 [S1.ρ 4]) < S1.ρ 5
              · have d7 : wY019.den S1 = some [b2i false] := fls (p := S1.ρ 5 ≤ (S1.Φ 21 [S1.ρ 4])) (Int.not_le.2 c7)
                have d8 : wY020.den S1 = some [b2i false] := fls (p := (S1.Φ 20 [S1.ρ 4]) < (1 : Int)) c2
                have d9 : wY021.den S1 = some [b2i false] := fls (p := (6 : Int) < (S1.Φ 20 [S1.ρ 4])) c3
                have c10 : (0 : Int) < S1.ρ 5 := by omega
                have d10 : wY022.den S1 = some [b2i true] := tr (p := (0 : Int) < S1.ρ 5) c10
                have c11 : S1.ρ 5 < (4194304 : Int) := by omega
                have d11 : wY023.den S1 = some [b2i true] := tr (p := S1.ρ 5 < (4194304 : Int)) c11
                have d12 : wY013.den S1 = some [b2i true] := tr (p := (0 : Int) ≤ (S1.Φ 21 [S1.ρ 4])) (Int.not_lt.1 c6)
                have d13 : wY024.den S1 = some [b2i true] := tr (p := (S1.Φ 21 [S1.ρ 4]) < S1.ρ 5) c7
                by_cases c14 : (S1.Φ 20 [S1.ρ 4]) = (1 : Int)
                · have d14 : wY08.den S1 = some [b2i true] := tr (p := (S1.Φ 20 [S1.ρ 4]) = (1 : Int)) c14
                  by_cases c15 : S1.ρ 4 < S1.ρ 16
                  · have d15 : wY06.den S1 = some [b2i true] := tr (p := S1.ρ 4 < S1.ρ 16) c15
                    by_cases c16 : S1.Φ 30 [S1.ρ 4] ≠ 0
                    · have d16 : wY07.den S1 = some [b2i true] := tr (p := S1.Φ 30 [S1.ρ 4] ≠ 0) c16
                      have c17 : (S1.Φ 60 [(S1.Φ 21 [S1.ρ 4])]) = (S1.Φ 60 [(S1.Φ 21 [S1.ρ 4])]) := rfl
                      have d17 : wY025.den S1 = some [b2i false] := fls (p := (S1.Φ 60 [(S1.Φ 21 [S1.ρ 4])]) ≠ (S1.Φ 60 [(S1.Φ 21 [S1.ρ 4])])) (fun hh => hh c17)
                      obtain ⟨o8, h_o8⟩ : ∃ o : Int, o = (IntKind.i64.wrap (S1.ρ 8 + (1 : Int))) := ⟨_, rfl⟩
                      obtain ⟨o4, h_o4⟩ : ∃ o : Int, o = (IntKind.i64.wrap (S1.ρ 4 + (1 : Int))) := ⟨_, rfl⟩
                      obtain ⟨o10, h_o10⟩ : ∃ o : Int, o = (b2i true) := ⟨_, rfl⟩
                      obtain ⟨o9, h_o9⟩ : ∃ o : Int, o = S1.ρ 4 := ⟨_, rfl⟩
                      have u4 := h_o4
                      rw [w_i64 (by omega) (by omega)] at u4
                      have inv : InvY0 S n (n - (i + 1)) (S1.set (upd S1.ρ [(8, o8), (4, o4), (10, o10), (9, o9)]) [] 60 rfl hK) := ⟨i + 1, by omega, rfl, (show o4 = ((i + 1 : Nat) : Int) by omega), fr.set rfl rfl, b01 h_o10, hr⟩
                      exact .inl ⟨_, _, (by omega : n - i = n - (i + 1) + 1), inv, _, [], _, 1000, _, [], (ai wY025 false d17 (ai wY07 true d16 (ai wY06 true d15 (ai wY08 true d14 (ai wY024 true d13 (ai wY013 true d12 (ai wY023 true d11 (ai wY022 true d10 (ai wY021 false d9 (ai wY020 false d8 (ai wY019 false d7 (ai wY05 false d6 (ai wY016 false d5 (ai wY04 false d4 (ai wY03 false d3 (ai wY02 true d2 (ai wY01 true d1 (ai wY00 true d0 (AlOk.nil _))))))))))))))))))), hcs, LkOk.no _ _ _ _, (av 1 .i64 (av 16 .i64 (av 7 .i64 (an 8 (.bin .add (.var .i64 8) (.lit .i64 1)) (sm h_o8.symm) (an 4 (.bin .add (.var .i64 4) (.lit .i64 1)) (sm h_o4.symm) (av 5 .i64 (av 6 .i64 (av 5 .i64 (ar 60 (ar_var 60) (av 6 .i64 (ar 61 (ar_var 61) (av 6 .i64 (av 5 .i64 (av 7 .i64 (an 10 (.blit true) (sm h_o10.symm) (an 9 (.var .i64 4) (sm h_o9.symm) (an 8 (.bin .add (.var .i64 8) (.lit .i64 1)) (sm h_o8.symm) (av 6 .i64 (av 5 .i64 (av 5 .i64 (ar 60 (ar_var 60) (av 6 .i64 (ar 61 (ar_var 61) (asg_nil rfl)))))))))))))))))))))))), fun G => by kernel_rfl⟩
                    · have d16 : wY07.den S1 = some [b2i false] := fls (p := S1.Φ 30 [S1.ρ 4] ≠ 0) c16
                      have c17 : (S1.Φ 60 [(S1.Φ 21 [S1.ρ 4])]) = (S1.Φ 60 [(S1.Φ 21 [S1.ρ 4])]) := rfl
                      have d17 : wY025.den S1 = some [b2i false] := fls (p := (S1.Φ 60 [(S1.Φ 21 [S1.ρ 4])]) ≠ (S1.Φ 60 [(S1.Φ 21 [S1.ρ 4])])) (fun hh => hh c17)
                      obtain ⟨o7, h_o7⟩ : ∃ o : Int, o = (IntKind.i64.wrap (S1.ρ 7 + (1 : Int))) := ⟨_, rfl⟩
                      obtain ⟨o4, h_o4⟩ : ∃ o : Int, o = (IntKind.i64.wrap (S1.ρ 4 + (1 : Int))) := ⟨_, rfl⟩
                      obtain ⟨o10, h_o10⟩ : ∃ o : Int, o = (b2i (decide (S1.ρ 10 ≠ (0 : Int)))) := ⟨_, rfl⟩
                      have u4 := h_o4
                      rw [w_i64 (by omega) (by omega)] at u4
                      have inv : InvY0 S n (n - (i + 1)) (S1.set (upd S1.ρ [(7, o7), (4, o4), (10, o10)]) [] 60 rfl hK) := ⟨i + 1, by omega, rfl, (show o4 = ((i + 1 : Nat) : Int) by omega), fr.set rfl rfl, b01 h_o10, hr⟩
                      exact .inl ⟨_, _, (by omega : n - i = n - (i + 1) + 1), inv, _, [], _, 1000, _, [], (ai wY025 false d17 (ai wY07 false d16 (ai wY06 true d15 (ai wY08 true d14 (ai wY024 true d13 (ai wY013 true d12 (ai wY023 true d11 (ai wY022 true d10 (ai wY021 false d9 (ai wY020 false d8 (ai wY019 false d7 (ai wY05 false d6 (ai wY016 false d5 (ai wY04 false d4 (ai wY03 false d3 (ai wY02 true d2 (ai wY01 true d1 (ai wY00 true d0 (AlOk.nil _))))))))))))))))))), hcs, LkOk.no _ _ _ _, (av 1 .i64 (av 16 .i64 (an 7 (.bin .add (.var .i64 7) (.lit .i64 1)) (sm h_o7.symm) (av 8 .i64 (an 4 (.bin .add (.var .i64 4) (.lit .i64 1)) (sm h_o4.symm) (av 5 .i64 (av 6 .i64 (av 5 .i64 (ar 60 (ar_var 60) (av 6 .i64 (ar 61 (ar_var 61) (av 6 .i64 (av 5 .i64 (an 7 (.bin .add (.var .i64 7) (.lit .i64 1)) (sm h_o7.symm) (an 10 (.bin .neq (.var .u8 10) (.lit .u8 0)) (sm h_o10.symm) (av 9 .i64 (av 8 .i64 (av 6 .i64 (av 5 .i64 (av 5 .i64 (ar 60 (ar_var 60) (av 6 .i64 (ar 61 (ar_var 61) (asg_nil rfl)))))))))))))))))))))))), fun G => by kernel_rfl⟩
                  · have d15 : wY06.den S1 = some [b2i false] := fls (p := S1.ρ 4 < S1.ρ 16) c15
                    have c16 : (S1.Φ 60 [(S1.Φ 21 [S1.ρ 4])]) = (S1.Φ 60 [(S1.Φ 21 [S1.ρ 4])]) := rfl
                    have d16 : wY025.den S1 = some [b2i false] := fls (p := (S1.Φ 60 [(S1.Φ 21 [S1.ρ 4])]) ≠ (S1.Φ 60 [(S1.Φ 21 [S1.ρ 4])])) (fun hh => hh c16)
                    obtain ⟨o7, h_o7⟩ : ∃ o : Int, o = (IntKind.i64.wrap (S1.ρ 7 + (1 : Int))) := ⟨_, rfl⟩
                    obtain ⟨o4, h_o4⟩ : ∃ o : Int, o = (IntKind.i64.wrap (S1.ρ 4 + (1 : Int))) := ⟨_, rfl⟩
                    obtain ⟨o10, h_o10⟩ : ∃ o : Int, o = (b2i (decide (S1.ρ 10 ≠ (0 : Int)))) := ⟨_, rfl⟩
                    have u4 := h_o4
                    rw [w_i64 (by omega) (by omega)] at u4
                    have inv : InvY0 S n (n - (i + 1)) (S1.set (upd S1.ρ [(7, o7), (4, o4), (10, o10)]) [] 60 rfl hK) := ⟨i + 1, by omega, rfl, (show o4 = ((i + 1 : Nat) : Int) by omega), fr.set rfl rfl, b01 h_o10, hr⟩
                    exact .inl ⟨_, _, (by omega : n - i = n - (i + 1) + 1), inv, _, [], _, 1000, _, [], (ai wY025 false d16 (ai wY06 false d15 (ai wY08 true d14 (ai wY024 true d13 (ai wY013 true d12 (ai wY023 true d11 (ai wY022 true d10 (ai wY021 false d9 (ai wY020 false d8 (ai wY019 false d7 (ai wY05 false d6 (ai wY016 false d5 (ai wY04 false d4 (ai wY03 false d3 (ai wY02 true d2 (ai wY01 true d1 (ai wY00 true d0 (AlOk.nil _)))))))))))))))))), hcs, LkOk.no _ _ _ _, (av 1 .i64 (av 16 .i64 (an 7 (.bin .add (.var .i64 7) (.lit .i64 1)) (sm h_o7.symm) (av 8 .i64 (an 4 (.bin .add (.var .i64 4) (.lit .i64 1)) (sm h_o4.symm) (av 5 .i64 (av 6 .i64 (av 5 .i64 (ar 60 (ar_var 60) (av 6 .i64 (ar 61 (ar_var 61) (av 6 .i64 (av 5 .i64 (an 7 (.bin .add (.var .i64 7) (.lit .i64 1)) (sm h_o7.symm) (an 10 (.bin .neq (.var .u8 10) (.lit .u8 0)) (sm h_o10.symm) (av 9 .i64 (av 8 .i64 (av 6 .i64 (av 5 .i64 (av 5 .i64 (ar 60 (ar_var 60) (av 6 .i64 (ar 61 (ar_var 61) (asg_nil rfl)))))))))))))))))))))))), fun G => by kernel_rfl⟩
                · have d14 : wY08.den S1 = some [b2i false] := fls (p := (S1.Φ 20 [S1.ρ 4]) = (1 : Int)) c14
                  by_cases c15 : (S1.Φ 20 [S1.ρ 4]) = (2 : Int)
                  · have d15 : wY09.den S1 = some [b2i true] := tr (p := (S1.Φ 20 [S1.ρ 4]) = (2 : Int)) c15
                    by_cases c16 : S1.ρ 4 < S1.ρ 16
                    · have d16 : wY06.den S1 = some [b2i true] := tr (p := S1.ρ 4 < S1.ρ 16) c16
                      by_cases c17 : S1.Φ 30 [S1.ρ 4] ≠ 0
                      · have d17 : wY07.den S1 = some [b2i true] := tr (p := S1.Φ 30 [S1.ρ 4] ≠ 0) c17
                        obtain ⟨o8, h_o8⟩ : ∃ o : Int, o = (IntKind.i64.wrap (S1.ρ 8 + (1 : Int))) := ⟨_, rfl⟩
                        obtain ⟨o4, h_o4⟩ : ∃ o : Int, o = (IntKind.i64.wrap (S1.ρ 4 + (1 : Int))) := ⟨_, rfl⟩
                        obtain ⟨o10, h_o10⟩ : ∃ o : Int, o = (b2i true) := ⟨_, rfl⟩
                        obtain ⟨o9, h_o9⟩ : ∃ o : Int, o = S1.ρ 4 := ⟨_, rfl⟩
                        have u4 := h_o4
                        rw [w_i64 (by omega) (by omega)] at u4
                        have inv : InvY0 S n (n - (i + 1)) (S1.set (upd S1.ρ [(8, o8), (4, o4), (10, o10), (9, o9)]) [(60, (fun j => ifE j (S1.Φ 21 [S1.ρ 4]) (S1.Φ 22 [S1.ρ 4]) ((fun j => S1.Φ 60 [j]) j)))] 60 rfl hK) := ⟨i + 1, by omega, rfl, (show o4 = ((i + 1 : Nat) : Int) by omega), fr.set rfl rfl, b01 h_o10, hr⟩
                        exact .inl ⟨_, _, (by omega : n - i = n - (i + 1) + 1), inv, _, [], _, 1000, _, [(9, 16)], (ai wY07 true d17 (ai wY06 true d16 (ai wY09 true d15 (ai wY08 false d14 (ai wY024 true d13 (ai wY013 true d12 (ai wY023 true d11 (ai wY022 true d10 (ai wY021 false d9 (ai wY020 false d8 (ai wY019 false d7 (ai wY05 false d6 (ai wY016 false d5 (ai wY04 false d4 (ai wY03 false d3 (ai wY02 true d2 (ai wY01 true d1 (ai wY00 true d0 (AlOk.nil _))))))))))))))))))), hcs, LkOk.no _ _ _ _, (av 1 .i64 (av 16 .i64 (av 7 .i64 (an 8 (.bin .add (.var .i64 8) (.lit .i64 1)) (sm h_o8.symm) (an 4 (.bin .add (.var .i64 4) (.lit .i64 1)) (sm h_o4.symm) (av 5 .i64 (av 6 .i64 (av 5 .i64 (ar 60 (ar_upd (.app .i64 21 (.cons (.var .i64 4) .nil)) (.app .u64 22 (.cons (.var .i64 4) .nil)) (i := (S1.Φ 21 [S1.ρ 4])) (v := (S1.Φ 22 [S1.ρ 4])) rfl rfl (by kernel_rfl) (ar_var 60)) (av 6 .i64 (ar 61 (ar_var 61) (av 6 .i64 (av 5 .i64 (av 7 .i64 (an 10 (.blit true) (sm h_o10.symm) (an 9 (.var .i64 4) (sm h_o9.symm) (an 8 (.bin .add (.var .i64 8) (.lit .i64 1)) (sm h_o8.symm) (av 6 .i64 (av 5 .i64 (av 5 .i64 (ar 60 (ar_upd (.app .i64 21 (.cons (.var .i64 4) .nil)) (.app .u64 22 (.cons (.var .i64 4) .nil)) (i := (S1.Φ 21 [S1.ρ 4])) (v := (S1.Φ 22 [S1.ρ 4])) rfl rfl (by kernel_rfl) (ar_var 60)) (av 6 .i64 (ar 61 (ar_var 61) (asg_nil rfl)))))))))))))))))))))))), fun G => by kernel_rfl⟩
                      · have d17 : wY07.den S1 = some [b2i false] := fls (p := S1.Φ 30 [S1.ρ 4] ≠ 0) c17
                        obtain ⟨o7, h_o7⟩ : ∃ o : Int, o = (IntKind.i64.wrap (S1.ρ 7 + (1 : Int))) := ⟨_, rfl⟩
                        obtain ⟨o4, h_o4⟩ : ∃ o : Int, o = (IntKind.i64.wrap (S1.ρ 4 + (1 : Int))) := ⟨_, rfl⟩
                        obtain ⟨o10, h_o10⟩ : ∃ o : Int, o = (b2i (decide (S1.ρ 10 ≠ (0 : Int)))) := ⟨_, rfl⟩
                        have u4 := h_o4
                        rw [w_i64 (by omega) (by omega)] at u4
                        have inv : InvY0 S n (n - (i + 1)) (S1.set (upd S1.ρ [(7, o7), (4, o4), (10, o10)]) [(60, (fun j => ifE j (S1.Φ 21 [S1.ρ 4]) (S1.Φ 22 [S1.ρ 4]) ((fun j => S1.Φ 60 [j]) j)))] 60 rfl hK) := ⟨i + 1, by omega, rfl, (show o4 = ((i + 1 : Nat) : Int) by omega), fr.set rfl rfl, b01 h_o10, hr⟩
                        exact .inl ⟨_, _, (by omega : n - i = n - (i + 1) + 1), inv, _, [], _, 1000, _, [(9, 16)], (ai wY07 false d17 (ai wY06 true d16 (ai wY09 true d15 (ai wY08 false d14 (ai wY024 true d13 (ai wY013 true d12 (ai wY023 true d11 (ai wY022 true d10 (ai wY021 false d9 (ai wY020 false d8 (ai wY019 false d7 (ai wY05 false d6 (ai wY016 false d5 (ai wY04 false d4 (ai wY03 false d3 (ai wY02 true d2 (ai wY01 true d1 (ai wY00 true d0 (AlOk.nil _))))))))))))))))))), hcs, LkOk.no _ _ _ _, (av 1 .i64 (av 16 .i64 (an 7 (.bin .add (.var .i64 7) (.lit .i64 1)) (sm h_o7.symm) (av 8 .i64 (an 4 (.bin .add (.var .i64 4) (.lit .i64 1)) (sm h_o4.symm) (av 5 .i64 (av 6 .i64 (av 5 .i64 (ar 60 (ar_upd (.app .i64 21 (.cons (.var .i64 4) .nil)) (.app .u64 22 (.cons (.var .i64 4) .nil)) (i := (S1.Φ 21 [S1.ρ 4])) (v := (S1.Φ 22 [S1.ρ 4])) rfl rfl (by kernel_rfl) (ar_var 60)) (av 6 .i64 (ar 61 (ar_var 61) (av 6 .i64 (av 5 .i64 (an 7 (.bin .add (.var .i64 7) (.lit .i64 1)) (sm h_o7.symm) (an 10 (.bin .neq (.var .u8 10) (.lit .u8 0)) (sm h_o10.symm) (av 9 .i64 (av 8 .i64 (av 6 .i64 (av 5 .i64 (av 5 .i64 (ar 60 (ar_upd (.app .i64 21 (.cons (.var .i64 4) .nil)) (.app .u64 22 (.cons (.var .i64 4) .nil)) (i := (S1.Φ 21 [S1.ρ 4])) (v := (S1.Φ 22 [S1.ρ 4])) rfl rfl (by kernel_rfl) (ar_var 60)) (av 6 .i64 (ar 61 (ar_var 61) (asg_nil rfl)))))))))))))))))))))))), fun G => by kernel_rfl⟩
                    · have d16 : wY06.den S1 = some [b2i false] := fls (p := S1.ρ 4 < S1.ρ 16) c16
                      obtain ⟨o7, h_o7⟩ : ∃ o : Int, o = (IntKind.i64.wrap (S1.ρ 7 + (1 : Int))) := ⟨_, rfl⟩
                      obtain ⟨o4, h_o4⟩ : ∃ o : Int, o = (IntKind.i64.wrap (S1.ρ 4 + (1 : Int))) := ⟨_, rfl⟩
                      obtain ⟨o10, h_o10⟩ : ∃ o : Int, o = (b2i (decide (S1.ρ 10 ≠ (0 : Int)))) := ⟨_, rfl⟩
                      have u4 := h_o4
                      rw [w_i64 (by omega) (by omega)] at u4
                      have inv : InvY0 S n (n - (i + 1)) (S1.set (upd S1.ρ [(7, o7), (4, o4), (10, o10)]) [(60, (fun j => ifE j (S1.Φ 21 [S1.ρ 4]) (S1.Φ 22 [S1.ρ 4]) ((fun j => S1.Φ 60 [j]) j)))] 60 rfl hK) := ⟨i + 1, by omega, rfl, (show o4 = ((i + 1 : Nat) : Int) by omega), fr.set rfl rfl, b01 h_o10, hr⟩
                      exact .inl ⟨_, _, (by omega : n - i = n - (i + 1) + 1), inv, _, [], _, 1000, _, [(9, 16)], (ai wY06 false d16 (ai wY09 true d15 (ai wY08 false d14 (ai wY024 true d13 (ai wY013 true d12 (ai wY023 true d11 (ai wY022 true d10 (ai wY021 false d9 (ai wY020 false d8 (ai wY019 false d7 (ai wY05 false d6 (ai wY016 false d5 (ai wY04 false d4 (ai wY03 false d3 (ai wY02 true d2 (ai wY01 true d1 (ai wY00 true d0 (AlOk.nil _)))))))))))))))))), hcs, LkOk.no _ _ _ _, (av 1 .i64 (av 16 .i64 (an 7 (.bin .add (.var .i64 7) (.lit .i64 1)) (sm h_o7.symm) (av 8 .i64 (an 4 (.bin .add (.var .i64 4) (.lit .i64 1)) (sm h_o4.symm) (av 5 .i64 (av 6 .i64 (av 5 .i64 (ar 60 (ar_upd (.app .i64 21 (.cons (.var .i64 4) .nil)) (.app .u64 22 (.cons (.var .i64 4) .nil)) (i := (S1.Φ 21 [S1.ρ 4])) (v := (S1.Φ 22 [S1.ρ 4])) rfl rfl (by kernel_rfl) (ar_var 60)) (av 6 .i64 (ar 61 (ar_var 61) (av 6 .i64 (av 5 .i64 (an 7 (.bin .add (.var .i64 7) (.lit .i64 1)) (sm h_o7.symm) (an 10 (.bin .neq (.var .u8 10) (.lit .u8 0)) (sm h_o10.symm) (av 9 .i64 (av 8 .i64 (av 6 .i64 (av 5 .i64 (av 5 .i64 (ar 60 (ar_upd (.app .i64 21 (.cons (.var .i64 4) .nil)) (.app .u64 22 (.cons (.var .i64 4) .nil)) (i := (S1.Φ 21 [S1.ρ 4])) (v := (S1.Φ 22 [S1.ρ 4])) rfl rfl (by kernel_rfl) (ar_var 60)) (av 6 .i64 (ar 61 (ar_var 61) (asg_nil rfl)))))))))))))))))))))))), fun G => by kernel_rfl⟩
                  · have d15 : wY09.den S1 = some [b2i false] := fls (p := (S1.Φ 20 [S1.ρ 4]) = (2 : Int)) c15
                    by_cases c16 : (S1.Φ 20 [S1.ρ 4]) = (3 : Int)
                    · have d16 : wY010.den S1 = some [b2i true] := tr (p := (S1.Φ 20 [S1.ρ 4]) = (3 : Int)) c16
                      by_cases c17 : (S1.Φ 60 [(S1.Φ 21 [S1.ρ 4])]) = (S1.Φ 22 [S1.ρ 4])
                      · have d17 : wY026.den S1 = some [b2i false] := fls (p := (S1.Φ 60 [(S1.Φ 21 [S1.ρ 4])]) ≠ (S1.Φ 22 [S1.ρ 4])) (fun hh => hh c17)
                        by_cases c18 : S1.ρ 4 < S1.ρ 16
                        · have d18 : wY06.den S1 = some [b2i true] := tr (p := S1.ρ 4 < S1.ρ 16) c18
                          by_cases c19 : S1.Φ 30 [S1.ρ 4] ≠ 0
                          · have d19 : wY07.den S1 = some [b2i true] := tr (p := S1.Φ 30 [S1.ρ 4] ≠ 0) c19
                            obtain ⟨o8, h_o8⟩ : ∃ o : Int, o = (IntKind.i64.wrap (S1.ρ 8 + (1 : Int))) := ⟨_, rfl⟩
                            obtain ⟨o4, h_o4⟩ : ∃ o : Int, o = (IntKind.i64.wrap (S1.ρ 4 + (1 : Int))) := ⟨_, rfl⟩
                            obtain ⟨o10, h_o10⟩ : ∃ o : Int, o = (b2i true) := ⟨_, rfl⟩
                            obtain ⟨o9, h_o9⟩ : ∃ o : Int, o = S1.ρ 4 := ⟨_, rfl⟩
                            have u4 := h_o4
                            rw [w_i64 (by omega) (by omega)] at u4
                            have inv : InvY0 S n (n - (i + 1)) (S1.set (upd S1.ρ [(8, o8), (4, o4), (10, o10), (9, o9)]) [(60, (fun j => ifE j (S1.Φ 21 [S1.ρ 4]) (S1.Φ 23 [S1.ρ 4]) ((fun j => S1.Φ 60 [j]) j)))] 60 rfl hK) := ⟨i + 1, by omega, rfl, (show o4 = ((i + 1 : Nat) : Int) by omega), fr.set rfl rfl, b01 h_o10, hr⟩
                            exact .inl ⟨_, _, (by omega : n - i = n - (i + 1) + 1), inv, _, [], _, 1000, _, [(9, 16)], (ai wY07 true d19 (ai wY06 true d18 (ai wY026 false d17 (ai wY010 true d16 (ai wY09 false d15 (ai wY08 false d14 (ai wY024 true d13 (ai wY013 true d12 (ai wY023 true d11 (ai wY022 true d10 (ai wY021 false d9 (ai wY020 false d8 (ai wY019 false d7 (ai wY05 false d6 (ai wY016 false d5 (ai wY04 false d4 (ai wY03 false d3 (ai wY02 true d2 (ai wY01 true d1 (ai wY00 true d0 (AlOk.nil _))))))))))))))))))))), hcs, LkOk.no _ _ _ _, (av 1 .i64 (av 16 .i64 (av 7 .i64 (an 8 (.bin .add (.var .i64 8) (.lit .i64 1)) (sm h_o8.symm) (an 4 (.bin .add (.var .i64 4) (.lit .i64 1)) (sm h_o4.symm) (av 5 .i64 (av 6 .i64 (av 5 .i64 (ar 60 (ar_upd (.app .i64 21 (.cons (.var .i64 4) .nil)) (.app .u64 23 (.cons (.var .i64 4) .nil)) (i := (S1.Φ 21 [S1.ρ 4])) (v := (S1.Φ 23 [S1.ρ 4])) rfl rfl (by kernel_rfl) (ar_var 60)) (av 6 .i64 (ar 61 (ar_var 61) (av 6 .i64 (av 5 .i64 (av 7 .i64 (an 10 (.blit true) (sm h_o10.symm) (an 9 (.var .i64 4) (sm h_o9.symm) (an 8 (.bin .add (.var .i64 8) (.lit .i64 1)) (sm h_o8.symm) (av 6 .i64 (av 5 .i64 (av 5 .i64 (ar 60 (ar_upd (.app .i64 21 (.cons (.var .i64 4) .nil)) (.app .u64 23 (.cons (.var .i64 4) .nil)) (i := (S1.Φ 21 [S1.ρ 4])) (v := (S1.Φ 23 [S1.ρ 4])) rfl rfl (by kernel_rfl) (ar_var 60)) (av 6 .i64 (ar 61 (ar_var 61) (asg_nil rfl)))))))))))))))))))))))), fun G => by kernel_rfl⟩
                          · have d19 : wY07.den S1 = some [b2i false] := fls (p := S1.Φ 30 [S1.ρ 4] ≠ 0) c19
                            obtain ⟨o7, h_o7⟩ : ∃ o : Int, o = (IntKind.i64.wrap (S1.ρ 7 + (1 : Int))) := ⟨_, rfl⟩
                            obtain ⟨o4, h_o4⟩ : ∃ o : Int, o = (IntKind.i64.wrap (S1.ρ 4 + (1 : Int))) := ⟨_, rfl⟩
                            obtain ⟨o10, h_o10⟩ : ∃ o : Int, o = (b2i (decide (S1.ρ 10 ≠ (0 : Int)))) := ⟨_, rfl⟩
                            have u4 := h_o4
                            rw [w_i64 (by omega) (by omega)] at u4
                            have inv : InvY0 S n (n - (i + 1)) (S1.set (upd S1.ρ [(7, o7), (4, o4), (10, o10)]) [(60, (fun j => ifE j (S1.Φ 21 [S1.ρ 4]) (S1.Φ 23 [S1.ρ 4]) ((fun j => S1.Φ 60 [j]) j)))] 60 rfl hK) := ⟨i + 1, by omega, rfl, (show o4 = ((i + 1 : Nat) : Int) by omega), fr.set rfl rfl, b01 h_o10, hr⟩
                            exact .inl ⟨_, _, (by omega : n - i = n - (i + 1) + 1), inv, _, [], _, 1000, _, [(9, 16)], (ai wY07 false d19 (ai wY06 true d18 (ai wY026 false d17 (ai wY010 true d16 (ai wY09 false d15 (ai wY08 false d14 (ai wY024 true d13 (ai wY013 true d12 (ai wY023 true d11 (ai wY022 true d10 (ai wY021 false d9 (ai wY020 false d8 (ai wY019 false d7 (ai wY05 false d6 (ai wY016 false d5 (ai wY04 false d4 (ai wY03 false d3 (ai wY02 true d2 (ai wY01 true d1 (ai wY00 true d0 (AlOk.nil _))))))))))))))))))))), hcs, LkOk.no _ _ _ _, (av 1 .i64 (av 16 .i64 (an 7 (.bin .add (.var .i64 7) (.lit .i64 1)) (sm h_o7.symm) (av 8 .i64 (an 4 (.bin .add (.var .i64 4) (.lit .i64 1)) (sm h_o4.symm) (av 5 .i64 (av 6 .i64 (av 5 .i64 (ar 60 (ar_upd (.app .i64 21 (.cons (.var .i64 4) .nil)) (.app .u64 23 (.cons (.var .i64 4) .nil)) (i := (S1.Φ 21 [S1.ρ 4])) (v := (S1.Φ 23 [S1.ρ 4])) rfl rfl (by kernel_rfl) (ar_var 60)) (av 6 .i64 (ar 61 (ar_var 61) (av 6 .i64 (av 5 .i64 (an 7 (.bin .add (.var .i64 7) (.lit .i64 1)) (sm h_o7.symm) (an 10 (.bin .neq (.var .u8 10) (.lit .u8 0)) (sm h_o10.symm) (av 9 .i64 (av 8 .i64 (av 6 .i64 (av 5 .i64 (av 5 .i64 (ar 60 (ar_upd (.app .i64 21 (.cons (.var .i64 4) .nil)) (.app .u64 23 (.cons (.var .i64 4) .nil)) (i := (S1.Φ 21 [S1.ρ 4])) (v := (S1.Φ 23 [S1.ρ 4])) rfl rfl (by kernel_rfl) (ar_var 60)) (av 6 .i64 (ar 61 (ar_var 61) (asg_nil rfl)))))))))))))))))))))))), fun G => by kernel_rfl⟩
                        · have d18 : wY06.den S1 = some [b2i false] := fls (p := S1.ρ 4 < S1.ρ 16) c18
                          obtain ⟨o7, h_o7⟩ : ∃ o : Int, o = (IntKind.i64.wrap (S1.ρ 7 + (1 : Int))) := ⟨_, rfl⟩
                          obtain ⟨o4, h_o4⟩ : ∃ o : Int, o = (IntKind.i64.wrap (S1.ρ 4 + (1 : Int))) := ⟨_, rfl⟩
                          obtain ⟨o10, h_o10⟩ : ∃ o : Int, o = (b2i (decide (S1.ρ 10 ≠ (0 : Int)))) := ⟨_, rfl⟩
                          have u4 := h_o4
                          rw [w_i64 (by omega) (by omega)] at u4
                          have inv : InvY0 S n (n - (i + 1)) (S1.set (upd S1.ρ [(7, o7), (4, o4), (10, o10)]) [(60, (fun j => ifE j (S1.Φ 21 [S1.ρ 4]) (S1.Φ 23 [S1.ρ 4]) ((fun j => S1.Φ 60 [j]) j)))] 60 rfl hK) := ⟨i + 1, by omega, rfl, (show o4 = ((i + 1 : Nat) : Int) by omega), fr.set rfl rfl, b01 h_o10, hr⟩
                          exact .inl ⟨_, _, (by omega : n - i = n - (i + 1) + 1), inv, _, [], _, 1000, _, [(9, 16)], (ai wY06 false d18 (ai wY026 false d17 (ai wY010 true d16 (ai wY09 false d15 (ai wY08 false d14 (ai wY024 true d13 (ai wY013 true d12 (ai wY023 true d11 (ai wY022 true d10 (ai wY021 false d9 (ai wY020 false d8 (ai wY019 false d7 (ai wY05 false d6 (ai wY016 false d5 (ai wY04 false d4 (ai wY03 false d3 (ai wY02 true d2 (ai wY01 true d1 (ai wY00 true d0 (AlOk.nil _)))))))))))))))))))), hcs, LkOk.no _ _ _ _, (av 1 .i64 (av 16 .i64 (an 7 (.bin .add (.var .i64 7) (.lit .i64 1)) (sm h_o7.symm) (av 8 .i64 (an 4 (.bin .add (.var .i64 4) (.lit .i64 1)) (sm h_o4.symm) (av 5 .i64 (av 6 .i64 (av 5 .i64 (ar 60 (ar_upd (.app .i64 21 (.cons (.var .i64 4) .nil)) (.app .u64 23 (.cons (.var .i64 4) .nil)) (i := (S1.Φ 21 [S1.ρ 4])) (v := (S1.Φ 23 [S1.ρ 4])) rfl rfl (by kernel_rfl) (ar_var 60)) (av 6 .i64 (ar 61 (ar_var 61) (av 6 .i64 (av 5 .i64 (an 7 (.bin .add (.var .i64 7) (.lit .i64 1)) (sm h_o7.symm) (an 10 (.bin .neq (.var .u8 10) (.lit .u8 0)) (sm h_o10.symm) (av 9 .i64 (av 8 .i64 (av 6 .i64 (av 5 .i64 (av 5 .i64 (ar 60 (ar_upd (.app .i64 21 (.cons (.var .i64 4) .nil)) (.app .u64 23 (.cons (.var .i64 4) .nil)) (i := (S1.Φ 21 [S1.ρ 4])) (v := (S1.Φ 23 [S1.ρ 4])) rfl rfl (by kernel_rfl) (ar_var 60)) (av 6 .i64 (ar 61 (ar_var 61) (asg_nil rfl)))))))))))))))))))))))), fun G => by kernel_rfl⟩
                      · have d17 : wY026.den S1 = some [b2i true] := tr (p := (S1.Φ 60 [(S1.Φ 21 [S1.ρ 4])]) ≠ (S1.Φ 22 [S1.ρ 4])) c17
                        by_cases c18 : S1.ρ 4 < S1.ρ 16
                        · have d18 : wY06.den S1 = some [b2i true] := tr (p := S1.ρ 4 < S1.ρ 16) c18
                          by_cases c19 : S1.Φ 30 [S1.ρ 4] ≠ 0
                          · have d19 : wY07.den S1 = some [b2i true] := tr (p := S1.Φ 30 [S1.ρ 4] ≠ 0) c19
                            obtain ⟨o8, h_o8⟩ : ∃ o : Int, o = (IntKind.i64.wrap (S1.ρ 8 + (1 : Int))) := ⟨_, rfl⟩
                            obtain ⟨o4, h_o4⟩ : ∃ o : Int, o = (IntKind.i64.wrap (S1.ρ 4 + (1 : Int))) := ⟨_, rfl⟩
                            obtain ⟨o10, h_o10⟩ : ∃ o : Int, o = (b2i true) := ⟨_, rfl⟩
                            obtain ⟨o9, h_o9⟩ : ∃ o : Int, o = S1.ρ 4 := ⟨_, rfl⟩
                            have u4 := h_o4
                            rw [w_i64 (by omega) (by omega)] at u4
                            have inv : InvY0 S n (n - (i + 1)) (S1.set (upd S1.ρ [(8, o8), (4, o4), (10, o10), (9, o9)]) [] 60 rfl hK) := ⟨i + 1, by omega, rfl, (show o4 = ((i + 1 : Nat) : Int) by omega), fr.set rfl rfl, b01 h_o10, hr⟩
                            exact .inl ⟨_, _, (by omega : n - i = n - (i + 1) + 1), inv, _, [], _, 1000, _, [], (ai wY07 true d19 (ai wY06 true d18 (ai wY026 true d17 (ai wY010 true d16 (ai wY09 false d15 (ai wY08 false d14 (ai wY024 true d13 (ai wY013 true d12 (ai wY023 true d11 (ai wY022 true d10 (ai wY021 false d9 (ai wY020 false d8 (ai wY019 false d7 (ai wY05 false d6 (ai wY016 false d5 (ai wY04 false d4 (ai wY03 false d3 (ai wY02 true d2 (ai wY01 true d1 (ai wY00 true d0 (AlOk.nil _))))))))))))))))))))), hcs, LkOk.no _ _ _ _, (av 1 .i64 (av 16 .i64 (av 7 .i64 (an 8 (.bin .add (.var .i64 8) (.lit .i64 1)) (sm h_o8.symm) (an 4 (.bin .add (.var .i64 4) (.lit .i64 1)) (sm h_o4.symm) (av 5 .i64 (av 6 .i64 (av 5 .i64 (ar 60 (ar_var 60) (av 6 .i64 (ar 61 (ar_var 61) (av 6 .i64 (av 5 .i64 (av 7 .i64 (an 10 (.blit true) (sm h_o10.symm) (an 9 (.var .i64 4) (sm h_o9.symm) (an 8 (.bin .add (.var .i64 8) (.lit .i64 1)) (sm h_o8.symm) (av 6 .i64 (av 5 .i64 (av 5 .i64 (ar 60 (ar_var 60) (av 6 .i64 (ar 61 (ar_var 61) (asg_nil rfl)))))))))))))))))))))))), fun G => by kernel_rfl⟩
                          · have d19 : wY07.den S1 = some [b2i false] := fls (p := S1.Φ 30 [S1.ρ 4] ≠ 0) c19
                            obtain ⟨o7, h_o7⟩ : ∃ o : Int, o = (IntKind.i64.wrap (S1.ρ 7 + (1 : Int))) := ⟨_, rfl⟩
                            obtain ⟨o4, h_o4⟩ : ∃ o : Int, o = (IntKind.i64.wrap (S1.ρ 4 + (1 : Int))) := ⟨_, rfl⟩
                            obtain ⟨o10, h_o10⟩ : ∃ o : Int, o = (b2i (decide (S1.ρ 10 ≠ (0 : Int)))) := ⟨_, rfl⟩
                            have u4 := h_o4
                            rw [w_i64 (by omega) (by omega)] at u4
                            have inv : InvY0 S n (n - (i + 1)) (S1.set (upd S1.ρ [(7, o7), (4, o4), (10, o10)]) [] 60 rfl hK) := ⟨i + 1, by omega, rfl, (show o4 = ((i + 1 : Nat) : Int) by omega), fr.set rfl rfl, b01 h_o10, hr⟩
                            exact .inl ⟨_, _, (by omega : n - i = n - (i + 1) + 1), inv, _, [], _, 1000, _, [], (ai wY07 false d19 (ai wY06 true d18 (ai wY026 true d17 (ai wY010 true d16 (ai wY09 false d15 (ai wY08 false d14 (ai wY024 true d13 (ai wY013 true d12 (ai wY023 true d11 (ai wY022 true d10 (ai wY021 false d9 (ai wY020 false d8 (ai wY019 false d7 (ai wY05 false d6 (ai wY016 false d5 (ai wY04 false d4 (ai wY03 false d3 (ai wY02 true d2 (ai wY01 true d1 (ai wY00 true d0 (AlOk.nil _))))))))))))))))))))), hcs, LkOk.no _ _ _ _, (av 1 .i64 (av 16 .i64 (an 7 (.bin .add (.var .i64 7) (.lit .i64 1)) (sm h_o7.symm) (av 8 .i64 (an 4 (.bin .add (.var .i64 4) (.lit .i64 1)) (sm h_o4.symm) (av 5 .i64 (av 6 .i64 (av 5 .i64 (ar 60 (ar_var 60) (av 6 .i64 (ar 61 (ar_var 61) (av 6 .i64 (av 5 .i64 (an 7 (.bin .add (.var .i64 7) (.lit .i64 1)) (sm h_o7.symm) (an 10 (.bin .neq (.var .u8 10) (.lit .u8 0)) (sm h_o10.symm) (av 9 .i64 (av 8 .i64 (av 6 .i64 (av 5 .i64 (av 5 .i64 (ar 60 (ar_var 60) (av 6 .i64 (ar 61 (ar_var 61) (asg_nil rfl)))))))))))))))))))))))), fun G => by kernel_rfl⟩
                        · have d18 : wY06.den S1 = some [b2i false] := fls (p := S1.ρ 4 < S1.ρ 16) c18
                          obtain ⟨o7, h_o7⟩ : ∃ o : Int, o = (IntKind.i64.wrap (S1.ρ 7 + (1 : Int))) := ⟨_, rfl⟩
                          obtain ⟨o4, h_o4⟩ : ∃ o : Int, o = (IntKind.i64.wrap (S1.ρ 4 + (1 : Int))) := ⟨_, rfl⟩
                          obtain ⟨o10, h_o10⟩ : ∃ o : Int, o = (b2i (decide (S1.ρ 10 ≠ (0 : Int)))) := ⟨_, rfl⟩
                          have u4 := h_o4
                          rw [w_i64 (by omega) (by omega)] at u4
                          have inv : InvY0 S n (n - (i + 1)) (S1.set (upd S1.ρ [(7, o7), (4, o4), (10, o10)]) [] 60 rfl hK) := ⟨i + 1, by omega, rfl, (show o4 = ((i + 1 : Nat) : Int) by omega), fr.set rfl rfl, b01 h_o10, hr⟩
                          exact .inl ⟨_, _, (by omega : n - i = n - (i + 1) + 1), inv, _, [], _, 1000, _, [], (ai wY06 false d18 (ai wY026 true d17 (ai wY010 true d16 (ai wY09 false d15 (ai wY08 false d14 (ai wY024 true d13 (ai wY013 true d12 (ai wY023 true d11 (ai wY022 true d10 (ai wY021 false d9 (ai wY020 false d8 (ai wY019 false d7 (ai wY05 false d6 (ai wY016 false d5 (ai wY04 false d4 (ai wY03 false d3 (ai wY02 true d2 (ai wY01 true d1 (ai wY00 true d0 (AlOk.nil _)))))))))))))))))))), hcs, LkOk.no _ _ _ _, (av 1 .i64 (av 16 .i64 (an 7 (.bin .add (.var .i64 7) (.lit .i64 1)) (sm h_o7.symm) (av 8 .i64 (an 4 (.bin .add (.var .i64 4) (.lit .i64 1)) (sm h_o4.symm) (av 5 .i64 (av 6 .i64 (av 5 .i64 (ar 60 (ar_var 60) (av 6 .i64 (ar 61 (ar_var 61) (av 6 .i64 (av 5 .i64 (an 7 (.bin .add (.var .i64 7) (.lit .i64 1)) (sm h_o7.symm) (an 10 (.bin .neq (.var .u8 10) (.lit .u8 0)) (sm h_o10.symm) (av 9 .i64 (av 8 .i64 (av 6 .i64 (av 5 .i64 (av 5 .i64 (ar 60 (ar_var 60) (av 6 .i64 (ar 61 (ar_var 61) (asg_nil rfl)))))))))))))))))))))))), fun G => by kernel_rfl⟩
                    · have d16 : wY010.den S1 = some [b2i false] := fls (p := (S1.Φ 20 [S1.ρ 4]) = (3 : Int)) c16
                      have c17 : (S1.Φ 20 [S1.ρ 4]) = (4 : Int) := by omega
                      have d17 : wY011.den S1 = some [b2i true] := tr (p := (S1.Φ 20 [S1.ρ 4]) = (4 : Int)) c17
                      by_cases c18 : S1.ρ 4 < S1.ρ 16
                      · have d18 : wY06.den S1 = some [b2i true] := tr (p := S1.ρ 4 < S1.ρ 16) c18
                        by_cases c19 : S1.Φ 30 [S1.ρ 4] ≠ 0
                        · have d19 : wY07.den S1 = some [b2i true] := tr (p := S1.Φ 30 [S1.ρ 4] ≠ 0) c19
                          have c20 : (S1.Φ 60 [(S1.Φ 21 [S1.ρ 4])]) = (S1.Φ 60 [(S1.Φ 21 [S1.ρ 4])]) := rfl
                          have d20 : wY025.den S1 = some [b2i false] := fls (p := (S1.Φ 60 [(S1.Φ 21 [S1.ρ 4])]) ≠ (S1.Φ 60 [(S1.Φ 21 [S1.ρ 4])])) (fun hh => hh c20)
                          obtain ⟨o8, h_o8⟩ : ∃ o : Int, o = (IntKind.i64.wrap (S1.ρ 8 + (1 : Int))) := ⟨_, rfl⟩
                          obtain ⟨o4, h_o4⟩ : ∃ o : Int, o = (IntKind.i64.wrap (S1.ρ 4 + (1 : Int))) := ⟨_, rfl⟩
                          obtain ⟨o10, h_o10⟩ : ∃ o : Int, o = (b2i true) := ⟨_, rfl⟩
                          obtain ⟨o9, h_o9⟩ : ∃ o : Int, o = S1.ρ 4 := ⟨_, rfl⟩
                          have u4 := h_o4
                          rw [w_i64 (by omega) (by omega)] at u4
                          have inv : InvY0 S n (n - (i + 1)) (S1.set (upd S1.ρ [(8, o8), (4, o4), (10, o10), (9, o9)]) [(60, (fun j => ifE j (S1.Φ 21 [S1.ρ 4]) (IntKind.u64.wrap ((S1.Φ 60 [(S1.Φ 21 [S1.ρ 4])]) + (S1.Φ 22 [S1.ρ 4]))) ((fun j => S1.Φ 60 [j]) j)))] 60 rfl hK) := ⟨i + 1, by omega, rfl, (show o4 = ((i + 1 : Nat) : Int) by omega), fr.set rfl rfl, b01 h_o10, hr⟩
                          exact .inl ⟨_, _, (by omega : n - i = n - (i + 1) + 1), inv, _, [], _, 1000, _, [(9, 16)], (ai wY025 false d20 (ai wY07 true d19 (ai wY06 true d18 (ai wY011 true d17 (ai wY010 false d16 (ai wY09 false d15 (ai wY08 false d14 (ai wY024 true d13 (ai wY013 true d12 (ai wY023 true d11 (ai wY022 true d10 (ai wY021 false d9 (ai wY020 false d8 (ai wY019 false d7 (ai wY05 false d6 (ai wY016 false d5 (ai wY04 false d4 (ai wY03 false d3 (ai wY02 true d2 (ai wY01 true d1 (ai wY00 true d0 (AlOk.nil _)))))))))))))))))))))), hcs, LkOk.no _ _ _ _, (av 1 .i64 (av 16 .i64 (av 7 .i64 (an 8 (.bin .add (.var .i64 8) (.lit .i64 1)) (sm h_o8.symm) (an 4 (.bin .add (.var .i64 4) (.lit .i64 1)) (sm h_o4.symm) (av 5 .i64 (av 6 .i64 (av 5 .i64 (ar 60 (ar_upd (.app .i64 21 (.cons (.var .i64 4) .nil)) (.bin .add (.app .u64 60 (.cons (.app .i64 21 (.cons (.var .i64 4) .nil)) .nil)) (.app .u64 22 (.cons (.var .i64 4) .nil))) (i := (S1.Φ 21 [S1.ρ 4])) (v := (IntKind.u64.wrap ((S1.Φ 60 [(S1.Φ 21 [S1.ρ 4])]) + (S1.Φ 22 [S1.ρ 4])))) rfl rfl (by kernel_rfl) (ar_var 60)) (av 6 .i64 (ar 61 (ar_var 61) (av 6 .i64 (av 5 .i64 (av 7 .i64 (an 10 (.blit true) (sm h_o10.symm) (an 9 (.var .i64 4) (sm h_o9.symm) (an 8 (.bin .add (.var .i64 8) (.lit .i64 1)) (sm h_o8.symm) (av 6 .i64 (av 5 .i64 (av 5 .i64 (ar 60 (ar_upd (.app .i64 21 (.cons (.var .i64 4) .nil)) (.bin .add (.app .u64 60 (.cons (.app .i64 21 (.cons (.var .i64 4) .nil)) .nil)) (.app .u64 22 (.cons (.var .i64 4) .nil))) (i := (S1.Φ 21 [S1.ρ 4])) (v := (IntKind.u64.wrap ((S1.Φ 60 [(S1.Φ 21 [S1.ρ 4])]) + (S1.Φ 22 [S1.ρ 4])))) rfl rfl (by kernel_rfl) (ar_var 60)) (av 6 .i64 (ar 61 (ar_var 61) (asg_nil rfl)))))))))))))))))))))))), fun G => by kernel_rfl⟩
                        · have d19 : wY07.den S1 = some [b2i false] := fls (p := S1.Φ 30 [S1.ρ 4] ≠ 0) c19
                          have c20 : (S1.Φ 60 [(S1.Φ 21 [S1.ρ 4])]) = (S1.Φ 60 [(S1.Φ 21 [S1.ρ 4])]) := rfl
                          have d20 : wY025.den S1 = some [b2i false] := fls (p := (S1.Φ 60 [(S1.Φ 21 [S1.ρ 4])]) ≠ (S1.Φ 60 [(S1.Φ 21 [S1.ρ 4])])) (fun hh => hh c20)
                          obtain ⟨o7, h_o7⟩ : ∃ o : Int, o = (IntKind.i64.wrap (S1.ρ 7 + (1 : Int))) := ⟨_, rfl⟩
                          obtain ⟨o4, h_o4⟩ : ∃ o : Int, o = (IntKind.i64.wrap (S1.ρ 4 + (1 : Int))) := ⟨_, rfl⟩
                          obtain ⟨o10, h_o10⟩ : ∃ o : Int, o = (b2i (decide (S1.ρ 10 ≠ (0 : Int)))) := ⟨_, rfl⟩
                          have u4 := h_o4
                          rw [w_i64 (by omega) (by omega)] at u4
                          have inv : InvY0 S n (n - (i + 1)) (S1.set (upd S1.ρ [(7, o7), (4, o4), (10, o10)]) [(60, (fun j => ifE j (S1.Φ 21 [S1.ρ 4]) (IntKind.u64.wrap ((S1.Φ 60 [(S1.Φ 21 [S1.ρ 4])]) + (S1.Φ 22 [S1.ρ 4]))) ((fun j => S1.Φ 60 [j]) j)))] 60 rfl hK) := ⟨i + 1, by omega, rfl, (show o4 = ((i + 1 : Nat) : Int) by omega), fr.set rfl rfl, b01 h_o10, hr⟩
                          exact .inl ⟨_, _, (by omega : n - i = n - (i + 1) + 1), inv, _, [], _, 1000, _, [(9, 16)], (ai wY025 false d20 (ai wY07 false d19 (ai wY06 true d18 (ai wY011 true d17 (ai wY010 false d16 (ai wY09 false d15 (ai wY08 false d14 (ai wY024 true d13 (ai wY013 true d12 (ai wY023 true d11 (ai wY022 true d10 (ai wY021 false d9 (ai wY020 false d8 (ai wY019 false d7 (ai wY05 false d6 (ai wY016 false d5 (ai wY04 false d4 (ai wY03 false d3 (ai wY02 true d2 (ai wY01 true d1 (ai wY00 true d0 (AlOk.nil _)))))))))))))))))))))), hcs, LkOk.no _ _ _ _, (av 1 .i64 (av 16 .i64 (an 7 (.bin .add (.var .i64 7) (.lit .i64 1)) (sm h_o7.symm) (av 8 .i64 (an 4 (.bin .add (.var .i64 4) (.lit .i64 1)) (sm h_o4.symm) (av 5 .i64 (av 6 .i64 (av 5 .i64 (ar 60 (ar_upd (.app .i64 21 (.cons (.var .i64 4) .nil)) (.bin .add (.app .u64 60 (.cons (.app .i64 21 (.cons (.var .i64 4) .nil)) .nil)) (.app .u64 22 (.cons (.var .i64 4) .nil))) (i := (S1.Φ 21 [S1.ρ 4])) (v := (IntKind.u64.wrap ((S1.Φ 60 [(S1.Φ 21 [S1.ρ 4])]) + (S1.Φ 22 [S1.ρ 4])))) rfl rfl (by kernel_rfl) (ar_var 60)) (av 6 .i64 (ar 61 (ar_var 61) (av 6 .i64 (av 5 .i64 (an 7 (.bin .add (.var .i64 7) (.lit .i64 1)) (sm h_o7.symm) (an 10 (.bin .neq (.var .u8 10) (.lit .u8 0)) (sm h_o10.symm) (av 9 .i64 (av 8 .i64 (av 6 .i64 (av 5 .i64 (av 5 .i64 (ar 60 (ar_upd (.app .i64 21 (.cons (.var .i64 4) .nil)) (.bin .add (.app .u64 60 (.cons (.app .i64 21 (.cons (.var .i64 4) .nil)) .nil)) (.app .u64 22 (.cons (.var .i64 4) .nil))) (i := (S1.Φ 21 [S1.ρ 4])) (v := (IntKind.u64.wrap ((S1.Φ 60 [(S1.Φ 21 [S1.ρ 4])]) + (S1.Φ 22 [S1.ρ 4])))) rfl rfl (by kernel_rfl) (ar_var 60)) (av 6 .i64 (ar 61 (ar_var 61) (asg_nil rfl)))))))))))))))))))))))), fun G => by kernel_rfl⟩
                      · have d18 : wY06.den S1 = some [b2i false] := fls (p := S1.ρ 4 < S1.ρ 16) c18
                        have c19 : (S1.Φ 60 [(S1.Φ 21 [S1.ρ 4])]) = (S1.Φ 60 [(S1.Φ 21 [S1.ρ 4])]) := rfl
                        have d19 : wY025.den S1 = some [b2i false] := fls (p := (S1.Φ 60 [(S1.Φ 21 [S1.ρ 4])]) ≠ (S1.Φ 60 [(S1.Φ 21 [S1.ρ 4])])) (fun hh => hh c19)
                        obtain ⟨o7, h_o7⟩ : ∃ o : Int, o = (IntKind.i64.wrap (S1.ρ 7 + (1 : Int))) := ⟨_, rfl⟩
                        obtain ⟨o4, h_o4⟩ : ∃ o : Int, o = (IntKind.i64.wrap (S1.ρ 4 + (1 : Int))) := ⟨_, rfl⟩
                        obtain ⟨o10, h_o10⟩ : ∃ o : Int, o = (b2i (decide (S1.ρ 10 ≠ (0 : Int)))) := ⟨_, rfl⟩
                        have u4 := h_o4
                        rw [w_i64 (by omega) (by omega)] at u4
                        have inv : InvY0 S n (n - (i + 1)) (S1.set (upd S1.ρ [(7, o7), (4, o4), (10, o10)]) [(60, (fun j => ifE j (S1.Φ 21 [S1.ρ 4]) (IntKind.u64.wrap ((S1.Φ 60 [(S1.Φ 21 [S1.ρ 4])]) + (S1.Φ 22 [S1.ρ 4]))) ((fun j => S1.Φ 60 [j]) j)))] 60 rfl hK) := ⟨i + 1, by omega, rfl, (show o4 = ((i + 1 : Nat) : Int) by omega), fr.set rfl rfl, b01 h_o10, hr⟩
                        exact .inl ⟨_, _, (by omega : n - i = n - (i + 1) + 1), inv, _, [], _, 1000, _, [(9, 16)], (ai wY025 false d19 (ai wY06 false d18 (ai wY011 true d17 (ai wY010 false d16 (ai wY09 false d15 (ai wY08 false d14 (ai wY024 true d13 (ai wY013 true d12 (ai wY023 true d11 (ai wY022 true d10 (ai wY021 false d9 (ai wY020 false d8 (ai wY019 false d7 (ai wY05 false d6 (ai wY016 false d5 (ai wY04 false d4 (ai wY03 false d3 (ai wY02 true d2 (ai wY01 true d1 (ai wY00 true d0 (AlOk.nil _))))))))))))))))))))), hcs, LkOk.no _ _ _ _, (av 1 .i64 (av 16 .i64 (an 7 (.bin .add (.var .i64 7) (.lit .i64 1)) (sm h_o7.symm) (av 8 .i64 (an 4 (.bin .add (.var .i64 4) (.lit .i64 1)) (sm h_o4.symm) (av 5 .i64 (av 6 .i64 (av 5 .i64 (ar 60 (ar_upd (.app .i64 21 (.cons (.var .i64 4) .nil)) (.bin .add (.app .u64 60 (.cons (.app .i64 21 (.cons (.var .i64 4) .nil)) .nil)) (.app .u64 22 (.cons (.var .i64 4) .nil))) (i := (S1.Φ 21 [S1.ρ 4])) (v := (IntKind.u64.wrap ((S1.Φ 60 [(S1.Φ 21 [S1.ρ 4])]) + (S1.Φ 22 [S1.ρ 4])))) rfl rfl (by kernel_rfl) (ar_var 60)) (av 6 .i64 (ar 61 (ar_var 61) (av 6 .i64 (av 5 .i64 (an 7 (.bin .add (.var .i64 7) (.lit .i64 1)) (sm h_o7.symm) (an 10 (.bin .neq (.var .u8 10) (.lit .u8 0)) (sm h_o10.symm) (av 9 .i64 (av 8 .i64 (av 6 .i64 (av 5 .i64 (av 5 .i64 (ar 60 (ar_upd (.app .i64 21 (.cons (.var .i64 4) .nil)) (.bin .add (.app .u64 60 (.cons (.app .i64 21 (.cons (.var .i64 4) .nil)) .nil)) (.app .u64 22 (.cons (.var .i64 4) .nil))) (i := (S1.Φ 21 [S1.ρ 4])) (v := (IntKind.u64.wrap ((S1.Φ 60 [(S1.Φ 21 [S1.ρ 4])]) + (S1.Φ 22 [S1.ρ 4])))) rfl rfl (by kernel_rfl) (ar_var 60)) (av 6 .i64 (ar 61 (ar_var 61) (asg_nil rfl)))))))))))))))))))))))), fun G => by kernel_rfl⟩
              · have d7 : wY019.den S1 = some [b2i true] := tr (p := S1.ρ 5 ≤ (S1.Φ 21 [S1.ρ 4])) (Int.not_lt.1 c7)
                by_cases c8 : S1.ρ 4 < S1.ρ 16
                · have d8 : wY06.den S1 = some [b2i true] := tr (p := S1.ρ 4 < S1.ρ 16) c8
                  by_cases c9 : S1.Φ 30 [S1.ρ 4] ≠ 0
                  · have d9 : wY07.den S1 = some [b2i true] := tr (p := S1.Φ 30 [S1.ρ 4] ≠ 0) c9
                    by_cases c10 : (S1.Φ 20 [S1.ρ 4]) = (1 : Int)
                    · have d10 : wY08.den S1 = some [b2i true] := tr (p := (S1.Φ 20 [S1.ρ 4]) = (1 : Int)) c10
                      obtain ⟨o8, h_o8⟩ : ∃ o : Int, o = (IntKind.i64.wrap (S1.ρ 8 + (1 : Int))) := ⟨_, rfl⟩
                      obtain ⟨o4, h_o4⟩ : ∃ o : Int, o = (IntKind.i64.wrap (S1.ρ 4 + (1 : Int))) := ⟨_, rfl⟩
                      obtain ⟨o10, h_o10⟩ : ∃ o : Int, o = (b2i true) := ⟨_, rfl⟩
                      obtain ⟨o9, h_o9⟩ : ∃ o : Int, o = S1.ρ 4 := ⟨_, rfl⟩
                      have u4 := h_o4
                      rw [w_i64 (by omega) (by omega)] at u4
                      have inv : InvY0 S n (n - (i + 1)) (S1.set (upd S1.ρ [(8, o8), (4, o4), (10, o10), (9, o9)]) [] 60 rfl hK) := ⟨i + 1, by omega, rfl, (show o4 = ((i + 1 : Nat) : Int) by omega), fr.set rfl rfl, b01 h_o10, hr⟩
                      exact .inl ⟨_, _, (by omega : n - i = n - (i + 1) + 1), inv, _, [], _, 1000, _, [], (ai wY08 true d10 (ai wY07 true d9 (ai wY06 true d8 (ai wY019 true d7 (ai wY05 false d6 (ai wY016 false d5 (ai wY04 false d4 (ai wY03 false d3 (ai wY02 true d2 (ai wY01 true d1 (ai wY00 true d0 (AlOk.nil _)))))))))))), hcs, LkOk.no _ _ _ _, (av 1 .i64 (av 16 .i64 (av 7 .i64 (an 8 (.bin .add (.var .i64 8) (.lit .i64 1)) (sm h_o8.symm) (an 4 (.bin .add (.var .i64 4) (.lit .i64 1)) (sm h_o4.symm) (av 5 .i64 (av 6 .i64 (av 5 .i64 (ar 60 (ar_var 60) (av 6 .i64 (ar 61 (ar_var 61) (av 6 .i64 (av 5 .i64 (av 7 .i64 (an 10 (.blit true) (sm h_o10.symm) (an 9 (.var .i64 4) (sm h_o9.symm) (an 8 (.bin .add (.var .i64 8) (.lit .i64 1)) (sm h_o8.symm) (av 6 .i64 (av 5 .i64 (av 5 .i64 (ar 60 (ar_var 60) (av 6 .i64 (ar 61 (ar_var 61) (asg_nil rfl)))))))))))))))))))))))), fun G => by kernel_rfl⟩
                    · have d10 : wY08.den S1 = some [b2i false] := fls (p := (S1.Φ 20 [S1.ρ 4]) = (1 : Int)) c10
                      by_cases c11 : (S1.Φ 20 [S1.ρ 4]) = (2 : Int)
                      · have d11 : wY09.den S1 = some [b2i true] := tr (p := (S1.Φ 20 [S1.ρ 4]) = (2 : Int)) c11
                        obtain ⟨o8, h_o8⟩ : ∃ o : Int, o = (IntKind.i64.wrap (S1.ρ 8 + (1 : Int))) := ⟨_, rfl⟩
                        obtain ⟨o4, h_o4⟩ : ∃ o : Int, o = (IntKind.i64.wrap (S1.ρ 4 + (1 : Int))) := ⟨_, rfl⟩
                        obtain ⟨o10, h_o10⟩ : ∃ o : Int, o = (b2i true) := ⟨_, rfl⟩
                        obtain ⟨o9, h_o9⟩ : ∃ o : Int, o = S1.ρ 4 := ⟨_, rfl⟩
                        have u4 := h_o4
                        rw [w_i64 (by omega) (by omega)] at u4
                        have inv : InvY0 S n (n - (i + 1)) (S1.set (upd S1.ρ [(8, o8), (4, o4), (10, o10), (9, o9)]) [] 60 rfl hK) := ⟨i + 1, by omega, rfl, (show o4 = ((i + 1 : Nat) : Int) by omega), fr.set rfl rfl, b01 h_o10, hr⟩
                        exact .inl ⟨_, _, (by omega : n - i = n - (i + 1) + 1), inv, _, [], _, 1000, _, [], (ai wY09 true d11 (ai wY08 false d10 (ai wY07 true d9 (ai wY06 true d8 (ai wY019 true d7 (ai wY05 false d6 (ai wY016 false d5 (ai wY04 false d4 (ai wY03 false d3 (ai wY02 true d2 (ai wY01 true d1 (ai wY00 true d0 (AlOk.nil _))))))))))))), hcs, LkOk.no _ _ _ _, (av 1 .i64 (av 16 .i64 (av 7 .i64 (an 8 (.bin .add (.var .i64 8) (.lit .i64 1)) (sm h_o8.symm) (an 4 (.bin .add (.var .i64 4) (.lit .i64 1)) (sm h_o4.symm) (av 5 .i64 (av 6 .i64 (av 5 .i64 (ar 60 (ar_var 60) (av 6 .i64 (ar 61 (ar_var 61) (av 6 .i64 (av 5 .i64 (av 7 .i64 (an 10 (.blit true) (sm h_o10.symm) (an 9 (.var .i64 4) (sm h_o9.symm) (an 8 (.bin .add (.var .i64 8) (.lit .i64 1)) (sm h_o8.symm) (av 6 .i64 (av 5 .i64 (av 5 .i64 (ar 60 (ar_var 60) (av 6 .i64 (ar 61 (ar_var 61) (asg_nil rfl)))))))))))))))))))))))), fun G => by kernel_rfl⟩
                      · have d11 : wY09.den S1 = some [b2i false] := fls (p := (S1.Φ 20 [S1.ρ 4]) = (2 : Int)) c11
                        by_cases c12 : (S1.Φ 20 [S1.ρ 4]) = (3 : Int)
                        · have d12 : wY010.den S1 = some [b2i true] := tr (p := (S1.Φ 20 [S1.ρ 4]) = (3 : Int)) c12
                          obtain ⟨o8, h_o8⟩ : ∃ o : Int, o = (IntKind.i64.wrap (S1.ρ 8 + (1 : Int))) := ⟨_, rfl⟩
                          obtain ⟨o4, h_o4⟩ : ∃ o : Int, o = (IntKind.i64.wrap (S1.ρ 4 + (1 : Int))) := ⟨_, rfl⟩
                          obtain ⟨o10, h_o10⟩ : ∃ o : Int, o = (b2i true) := ⟨_, rfl⟩
                          obtain ⟨o9, h_o9⟩ : ∃ o : Int, o = S1.ρ 4 := ⟨_, rfl⟩
                          have u4 := h_o4
                          rw [w_i64 (by omega) (by omega)] at u4
                          have inv : InvY0 S n (n - (i + 1)) (S1.set (upd S1.ρ [(8, o8), (4, o4), (10, o10), (9, o9)]) [] 60 rfl hK) := ⟨i + 1, by omega, rfl, (show o4 = ((i + 1 : Nat) : Int) by omega), fr.set rfl rfl, b01 h_o10, hr⟩
                          exact .inl ⟨_, _, (by omega : n - i = n - (i + 1) + 1), inv, _, [], _, 1000, _, [], (ai wY010 true d12 (ai wY09 false d11 (ai wY08 false d10 (ai wY07 true d9 (ai wY06 true d8 (ai wY019 true d7 (ai wY05 false d6 (ai wY016 false d5 (ai wY04 false d4 (ai wY03 false d3 (ai wY02 true d2 (ai wY01 true d1 (ai wY00 true d0 (AlOk.nil _)))))))))))))), hcs, LkOk.no _ _ _ _, (av 1 .i64 (av 16 .i64 (av 7 .i64 (an 8 (.bin .add (.var .i64 8) (.lit .i64 1)) (sm h_o8.symm) (an 4 (.bin .add (.var .i64 4) (.lit .i64 1)) (sm h_o4.symm) (av 5 .i64 (av 6 .i64 (av 5 .i64 (ar 60 (ar_var 60) (av 6 .i64 (ar 61 (ar_var 61) (av 6 .i64 (av 5 .i64 (av 7 .i64 (an 10 (.blit true) (sm h_o10.symm) (an 9 (.var .i64 4) (sm h_o9.symm) (an 8 (.bin .add (.var .i64 8) (.lit .i64 1)) (sm h_o8.symm) (av 6 .i64 (av 5 .i64 (av 5 .i64 (ar 60 (ar_var 60) (av 6 .i64 (ar 61 (ar_var 61) (asg_nil rfl)))))))))))))))))))))))), fun G => by kernel_rfl⟩
                        · have d12 : wY010.den S1 = some [b2i false] := fls (p := (S1.Φ 20 [S1.ρ 4]) = (3 : Int)) c12
                          have c13 : (S1.Φ 20 [S1.ρ 4]) = (4 : Int) := by omega
                          have d13 : wY011.den S1 = some [b2i true] := tr (p := (S1.Φ 20 [S1.ρ 4]) = (4 : Int)) c13
                          obtain ⟨o8, h_o8⟩ : ∃ o : Int, o = (IntKind.i64.wrap (S1.ρ 8 + (1 : Int))) := ⟨_, rfl⟩
                          obtain ⟨o4, h_o4⟩ : ∃ o : Int, o = (IntKind.i64.wrap (S1.ρ 4 + (1 : Int))) := ⟨_, rfl⟩
                          obtain ⟨o10, h_o10⟩ : ∃ o : Int, o = (b2i true) := ⟨_, rfl⟩
                          obtain ⟨o9, h_o9⟩ : ∃ o : Int, o = S1.ρ 4 := ⟨_, rfl⟩
                          have u4 := h_o4
                          rw [w_i64 (by omega) (by omega)] at u4
                          have inv : InvY0 S n (n - (i + 1)) (S1.set (upd S1.ρ [(8, o8), (4, o4), (10, o10), (9, o9)]) [] 60 rfl hK) := ⟨i + 1, by omega, rfl, (show o4 = ((i + 1 : Nat) : Int) by omega), fr.set rfl rfl, b01 h_o10, hr⟩
                          exact .inl ⟨_, _, (by omega : n - i = n - (i + 1) + 1), inv, _, [], _, 1000, _, [], (ai wY011 true d13 (ai wY010 false d12 (ai wY09 false d11 (ai wY08 false d10 (ai wY07 true d9 (ai wY06 true d8 (ai wY019 true d7 (ai wY05 false d6 (ai wY016 false d5 (ai wY04 false d4 (ai wY03 false d3 (ai wY02 true d2 (ai wY01 true d1 (ai wY00 true d0 (AlOk.nil _))))))))))))))), hcs, LkOk.no _ _ _ _, (av 1 .i64 (av 16 .i64 (av 7 .i64 (an 8 (.bin .add (.var .i64 8) (.lit .i64 1)) (sm h_o8.symm) (an 4 (.bin .add (.var .i64 4) (.lit .i64 1)) (sm h_o4.symm) (av 5 .i64 (av 6 .i64 (av 5 .i64 (ar 60 (ar_var 60) (av 6 .i64 (ar 61 (ar_var 61) (av 6 .i64 (av 5 .i64 (av 7 .i64 (an 10 (.blit true) (sm h_o10.symm) (an 9 (.var .i64 4) (sm h_o9.symm) (an 8 (.bin .add (.var .i64 8) (.lit .i64 1)) (sm h_o8.symm) (av 6 .i64 (av 5 .i64 (av 5 .i64 (ar 60 (ar_var 60) (av 6 .i64 (ar 61 (ar_var 61) (asg_nil rfl)))))))))))))))))))))))), fun G => by kernel_rfl⟩
                  · have d9 : wY07.den S1 = some [b2i false] := fls (p := S1.Φ 30 [S1.ρ 4] ≠ 0) c9
                    by_cases c10 : (S1.Φ 20 [S1.ρ 4]) = (1 : Int)
                    · have d10 : wY08.den S1 = some [b2i true] := tr (p := (S1.Φ 20 [S1.ρ 4]) = (1 : Int)) c10
                      obtain ⟨o7, h_o7⟩ : ∃ o : Int, o = (IntKind.i64.wrap (S1.ρ 7 + (1 : Int))) := ⟨_, rfl⟩
                      obtain ⟨o4, h_o4⟩ : ∃ o : Int, o = (IntKind.i64.wrap (S1.ρ 4 + (1 : Int))) := ⟨_, rfl⟩
                      obtain ⟨o10, h_o10⟩ : ∃ o : Int, o = (b2i (decide (S1.ρ 10 ≠ (0 : Int)))) := ⟨_, rfl⟩
                      have u4 := h_o4
                      rw [w_i64 (by omega) (by omega)] at u4
                      have inv : InvY0 S n (n - (i + 1)) (S1.set (upd S1.ρ [(7, o7), (4, o4), (10, o10)]) [] 60 rfl hK) := ⟨i + 1, by omega, rfl, (show o4 = ((i + 1 : Nat) : Int) by omega), fr.set rfl rfl, b01 h_o10, hr⟩
                      exact .inl ⟨_, _, (by omega : n - i = n - (i + 1) + 1), inv, _, [], _, 1000, _, [], (ai wY08 true d10 (ai wY07 false d9 (ai wY06 true d8 (ai wY019 true d7 (ai wY05 false d6 (ai wY016 false d5 (ai wY04 false d4 (ai wY03 false d3 (ai wY02 true d2 (ai wY01 true d1 (ai wY00 true d0 (AlOk.nil _)))))))))))), hcs, LkOk.no _ _ _ _, (av 1 .i64 (av 16 .i64 (an 7 (.bin .add (.var .i64 7) (.lit .i64 1)) (sm h_o7.symm) (av 8 .i64 (an 4 (.bin .add (.var .i64 4) (.lit .i64 1)) (sm h_o4.symm) (av 5 .i64 (av 6 .i64 (av 5 .i64 (ar 60 (ar_var 60) (av 6 .i64 (ar 61 (ar_var 61) (av 6 .i64 (av 5 .i64 (an 7 (.bin .add (.var .i64 7) (.lit .i64 1)) (sm h_o7.symm) (an 10 (.bin .neq (.var .u8 10) (.lit .u8 0)) (sm h_o10.symm) (av 9 .i64 (av 8 .i64 (av 6 .i64 (av 5 .i64 (av 5 .i64 (ar 60 (ar_var 60) (av 6 .i64 (ar 61 (ar_var 61) (asg_nil rfl)))))))))))))))))))))))), fun G => by kernel_rfl⟩
                    · have d10 : wY08.den S1 = some [b2i false] := fls (p := (S1.Φ 20 [S1.ρ 4]) = (1 : Int)) c10
                      by_cases c11 : (S1.Φ 20 [S1.ρ 4]) = (2 : Int)
                      · have d11 : wY09.den S1 = some [b2i true] := tr (p := (S1.Φ 20 [S1.ρ 4]) = (2 : Int)) c11
                        obtain ⟨o7, h_o7⟩ : ∃ o : Int, o = (IntKind.i64.wrap (S1.ρ 7 + (1 : Int))) := ⟨_, rfl⟩
                        obtain ⟨o4, h_o4⟩ : ∃ o : Int, o = (IntKind.i64.wrap (S1.ρ 4 + (1 : Int))) := ⟨_, rfl⟩
                        obtain ⟨o10, h_o10⟩ : ∃ o : Int, o = (b2i (decide (S1.ρ 10 ≠ (0 : Int)))) := ⟨_, rfl⟩
                        have u4 := h_o4
                        rw [w_i64 (by omega) (by omega)] at u4
                        have inv : InvY0 S n (n - (i + 1)) (S1.set (upd S1.ρ [(7, o7), (4, o4), (10, o10)]) [] 60 rfl hK) := ⟨i + 1, by omega, rfl, (show o4 = ((i + 1 : Nat) : Int) by omega), fr.set rfl rfl, b01 h_o10, hr⟩
                        exact .inl ⟨_, _, (by omega : n - i = n - (i + 1) + 1), inv, _, [], _, 1000, _, [], (ai wY09 true d11 (ai wY08 false d10 (ai wY07 false d9 (ai wY06 true d8 (ai wY019 true d7 (ai wY05 false d6 (ai wY016 false d5 (ai wY04 false d4 (ai wY03 false d3 (ai wY02 true d2 (ai wY01 true d1 (ai wY00 true d0 (AlOk.nil _))))))))))))), hcs, LkOk.no _ _ _ _, (av 1 .i64 (av 16 .i64 (an 7 (.bin .add (.var .i64 7) (.lit .i64 1)) (sm h_o7.symm) (av 8 .i64 (an 4 (.bin .add (.var .i64 4) (.lit .i64 1)) (sm h_o4.symm) (av 5 .i64 (av 6 .i64 (av 5 .i64 (ar 60 (ar_var 60) (av 6 .i64 (ar 61 (ar_var 61) (av 6 .i64 (av 5 .i64 (an 7 (.bin .add (.var .i64 7) (.lit .i64 1)) (sm h_o7.symm) (an 10 (.bin .neq (.var .u8 10) (.lit .u8 0)) (sm h_o10.symm) (av 9 .i64 (av 8 .i64 (av 6 .i64 (av 5 .i64 (av 5 .i64 (ar 60 (ar_var 60) (av 6 .i64 (ar 61 (ar_var 61) (asg_nil rfl)))))))))))))))))))))))), fun G => by kernel_rfl⟩
                      · have d11 : wY09.den S1 = some [b2i false] := fls (p := (S1.Φ 20 [S1.ρ 4]) = (2 : Int)) c11
                        by_cases c12 : (S1.Φ 20 [S1.ρ 4]) = (3 : Int)
                        · have d12 : wY010.den S1 = some [b2i true] := tr (p := (S1.Φ 20 [S1.ρ 4]) = (3 : Int)) c12
                          obtain ⟨o7, h_o7⟩ : ∃ o : Int, o = (IntKind.i64.wrap (S1.ρ 7 + (1 : Int))) := ⟨_, rfl⟩
                          obtain ⟨o4, h_o4⟩ : ∃ o : Int, o = (IntKind.i64.wrap (S1.ρ 4 + (1 : Int))) := ⟨_, rfl⟩
                          obtain ⟨o10, h_o10⟩ : ∃ o : Int, o = (b2i (decide (S1.ρ 10 ≠ (0 : Int)))) := ⟨_, rfl⟩
                          have u4 := h_o4
                          rw [w_i64 (by omega) (by omega)] at u4
                          have inv : InvY0 S n (n - (i + 1)) (S1.set (upd S1.ρ [(7, o7), (4, o4), (10, o10)]) [] 60 rfl hK) := ⟨i + 1, by omega, rfl, (show o4 = ((i + 1 : Nat) : Int) by omega), fr.set rfl rfl, b01 h_o10, hr⟩
                          exact .inl ⟨_, _, (by omega : n - i = n - (i + 1) + 1), inv, _, [], _, 1000, _, [], (ai wY010 true d12 (ai wY09 false d11 (ai wY08 false d10 (ai wY07 false d9 (ai wY06 true d8 (ai wY019 true d7 (ai wY05 false d6 (ai wY016 false d5 (ai wY04 false d4 (ai wY03 false d3 (ai wY02 true d2 (ai wY01 true d1 (ai wY00 true d0 (AlOk.nil _)))))))))))))), hcs, LkOk.no _ _ _ _, (av 1 .i64 (av 16 .i64 (an 7 (.bin .add (.var .i64 7) (.lit .i64 1)) (sm h_o7.symm) (av 8 .i64 (an 4 (.bin .add (.var .i64 4) (.lit .i64 1)) (sm h_o4.symm) (av 5 .i64 (av 6 .i64 (av 5 .i64 (ar 60 (ar_var 60) (av 6 .i64 (ar 61 (ar_var 61) (av 6 .i64 (av 5 .i64 (an 7 (.bin .add (.var .i64 7) (.lit .i64 1)) (sm h_o7.symm) (an 10 (.bin .neq (.var .u8 10) (.lit .u8 0)) (sm h_o10.symm) (av 9 .i64 (av 8 .i64 (av 6 .i64 (av 5 .i64 (av 5 .i64 (ar 60 (ar_var 60) (av 6 .i64 (ar 61 (ar_var 61) (asg_nil rfl)))))))))))))))))))))))), fun G => by kernel_rfl⟩
                        · have d12 : wY010.den S1 = some [b2i false] := fls (p := (S1.Φ 20 [S1.ρ 4]) = (3 : Int)) c12
                          have c13 : (S1.Φ 20 [S1.ρ 4]) = (4 : Int) := by omega
                          have d13 : wY011.den S1 = some [b2i true] := tr (p := (S1.Φ 20 [S1.ρ 4]) = (4 : Int)) c13
                          obtain ⟨o7, h_o7⟩ : ∃ o : Int, o = (IntKind.i64.wrap (S1.ρ 7 + (1 : Int))) := ⟨_, rfl⟩
                          obtain ⟨o4, h_o4⟩ : ∃ o : Int, o = (IntKind.i64.wrap (S1.ρ 4 + (1 : Int))) := ⟨_, rfl⟩
                          obtain ⟨o10, h_o10⟩ : ∃ o : Int, o = (b2i (decide (S1.ρ 10 ≠ (0 : Int)))) := ⟨_, rfl⟩
                          have u4 := h_o4
                          rw [w_i64 (by omega) (by omega)] at u4
                          have inv : InvY0 S n (n - (i + 1)) (S1.set (upd S1.ρ [(7, o7), (4, o4), (10, o10)]) [] 60 rfl hK) := ⟨i + 1, by omega, rfl, (show o4 = ((i + 1 : Nat) : Int) by omega), fr.set rfl rfl, b01 h_o10, hr⟩
                          exact .inl ⟨_, _, (by omega : n - i = n - (i + 1) + 1), inv, _, [], _, 1000, _, [], (ai wY011 true d13 (ai wY010 false d12 (ai wY09 false d11 (ai wY08 false d10 (ai wY07 false d9 (ai wY06 true d8 (ai wY019 true d7 (ai wY05 false d6 (ai wY016 false d5 (ai wY04 false d4 (ai wY03 false d3 (ai wY02 true d2 (ai wY01 true d1 (ai wY00 true d0 (AlOk.nil _))))))))))))))), hcs, LkOk.no _ _ _ _, (av 1 .i64 (av 16 .i64 (an 7 (.bin .add (.var .i64 7) (.lit .i64 1)) (sm h_o7.symm) (av 8 .i64 (an 4 (.bin .add (.var .i64 4) (.lit .i64 1)) (sm h_o4.symm) (av 5 .i64 (av 6 .i64 (av 5 .i64 (ar 60 (ar_var 60) (av 6 .i64 (ar 61 (ar_var 61) (av 6 .i64 (av 5 .i64 (an 7 (.bin .add (.var .i64 7) (.lit .i64 1)) (sm h_o7.symm) (an 10 (.bin .neq (.var .u8 10) (.lit .u8 0)) (sm h_o10.symm) (av 9 .i64 (av 8 .i64 (av 6 .i64 (av 5 .i64 (av 5 .i64 (ar 60 (ar_var 60) (av 6 .i64 (ar 61 (ar_var 61) (asg_nil rfl)))))))))))))))))))))))), fun G => by kernel_rfl⟩
                · have d8 : wY06.den S1 = some [b2i false] := fls (p := S1.ρ 4 < S1.ρ 16) c8
                  by_cases c9 : (S1.Φ 20 [S1.ρ 4]) = (1 : Int)
                  · have d9 : wY08.den S1 = some [b2i true] := tr (p := (S1.Φ 20 [S1.ρ 4]) = (1 : Int)) c9
                    obtain ⟨o7, h_o7⟩ : ∃ o : Int, o = (IntKind.i64.wrap (S1.ρ 7 + (1 : Int))) := ⟨_, rfl⟩
                    obtain ⟨o4, h_o4⟩ : ∃ o : Int, o = (IntKind.i64.wrap (S1.ρ 4 + (1 : Int))) := ⟨_, rfl⟩
                    obtain ⟨o10, h_o10⟩ : ∃ o : Int, o = (b2i (decide (S1.ρ 10 ≠ (0 : Int)))) := ⟨_, rfl⟩
                    have u4 := h_o4
                    rw [w_i64 (by omega) (by omega)] at u4
                    have inv : InvY0 S n (n - (i + 1)) (S1.set (upd S1.ρ [(7, o7), (4, o4), (10, o10)]) [] 60 rfl hK) := ⟨i + 1, by omega, rfl, (show o4 = ((i + 1 : Nat) : Int) by omega), fr.set rfl rfl, b01 h_o10, hr⟩
                    exact .inl ⟨_, _, (by omega : n - i = n - (i + 1) + 1), inv, _, [], _, 1000, _, [], (ai wY08 true d9 (ai wY06 false d8 (ai wY019 true d7 (ai wY05 false d6 (ai wY016 false d5 (ai wY04 false d4 (ai wY03 false d3 (ai wY02 true d2 (ai wY01 true d1 (ai wY00 true d0 (AlOk.nil _))))))))))), hcs, LkOk.no _ _ _ _, (av 1 .i64 (av 16 .i64 (an 7 (.bin .add (.var .i64 7) (.lit .i64 1)) (sm h_o7.symm) (av 8 .i64 (an 4 (.bin .add (.var .i64 4) (.lit .i64 1)) (sm h_o4.symm) (av 5 .i64 (av 6 .i64 (av 5 .i64 (ar 60 (ar_var 60) (av 6 .i64 (ar 61 (ar_var 61) (av 6 .i64 (av 5 .i64 (an 7 (.bin .add (.var .i64 7) (.lit .i64 1)) (sm h_o7.symm) (an 10 (.bin .neq (.var .u8 10) (.lit .u8 0)) (sm h_o10.symm) (av 9 .i64 (av 8 .i64 (av 6 .i64 (av 5 .i64 (av 5 .i64 (ar 60 (ar_var 60) (av 6 .i64 (ar 61 (ar_var 61) (asg_nil rfl)))))))))))))))))))))))), fun G => by kernel_rfl⟩
                  · have d9 : wY08.den S1 = some [b2i false] := fls (p := (S1.Φ 20 [S1.ρ 4]) = (1 : Int)) c9
                    by_cases c10 : (S1.Φ 20 [S1.ρ 4]) = (2 : Int)
                    · have d10 : wY09.den S1 = some [b2i true] := tr (p := (S1.Φ 20 [S1.ρ 4]) = (2 : Int)) c10
                      obtain ⟨o7, h_o7⟩ : ∃ o : Int, o = (IntKind.i64.wrap (S1.ρ 7 + (1 : Int))) := ⟨_, rfl⟩
                      obtain ⟨o4, h_o4⟩ : ∃ o : Int, o = (IntKind.i64.wrap (S1.ρ 4 + (1 : Int))) := ⟨_, rfl⟩
                      obtain ⟨o10, h_o10⟩ : ∃ o : Int, o = (b2i (decide (S1.ρ 10 ≠ (0 : Int)))) := ⟨_, rfl⟩
                      have u4 := h_o4
                      rw [w_i64 (by omega) (by omega)] at u4
                      have inv : InvY0 S n (n - (i + 1)) (S1.set (upd S1.ρ [(7, o7), (4, o4), (10, o10)]) [] 60 rfl hK) := ⟨i + 1, by omega, rfl, (show o4 = ((i + 1 : Nat) : Int) by omega), fr.set rfl rfl, b01 h_o10, hr⟩
                      exact .inl ⟨_, _, (by omega : n - i = n - (i + 1) + 1), inv, _, [], _, 1000, _, [], (ai wY09 true d10 (ai wY08 false d9 (ai wY06 false d8 (ai wY019 true d7 (ai wY05 false d6 (ai wY016 false d5 (ai wY04 false d4 (ai wY03 false d3 (ai wY02 true d2 (ai wY01 true d1 (ai wY00 true d0 (AlOk.nil _)))))))))))), hcs, LkOk.no _ _ _ _, (av 1 .i64 (av 16 .i64 (an 7 (.bin .add (.var .i64 7) (.lit .i64 1)) (sm h_o7.symm) (av 8 .i64 (an 4 (.bin .add (.var .i64 4) (.lit .i64 1)) (sm h_o4.symm) (av 5 .i64 (av 6 .i64 (av 5 .i64 (ar 60 (ar_var 60) (av 6 .i64 (ar 61 (ar_var 61) (av 6 .i64 (av 5 .i64 (an 7 (.bin .add (.var .i64 7) (.lit .i64 1)) (sm h_o7.symm) (an 10 (.bin .neq (.var .u8 10) (.lit .u8 0)) (sm h_o10.symm) (av 9 .i64 (av 8 .i64 (av 6 .i64 (av 5 .i64 (av 5 .i64 (ar 60 (ar_var 60) (av 6 .i64 (ar 61 (ar_var 61) (asg_nil rfl)))))))))))))))))))))))), fun G => by kernel_rfl⟩
                    · have d10 : wY09.den S1 = some [b2i false] := fls (p := (S1.Φ 20 [S1.ρ 4]) = (2 : Int)) c10
                      by_cases c11 : (S1.Φ 20 [S1.ρ 4]) = (3 : Int)
                      · have d11 : wY010.den S1 = some [b2i true] := tr (p := (S1.Φ 20 [S1.ρ 4]) = (3 : Int)) c11
                        obtain ⟨o7, h_o7⟩ : ∃ o : Int, o = (IntKind.i64.wrap (S1.ρ 7 + (1 : Int))) := ⟨_, rfl⟩
                        obtain ⟨o4, h_o4⟩ : ∃ o : Int, o = (IntKind.i64.wrap (S1.ρ 4 + (1 : Int))) := ⟨_, rfl⟩
                        obtain ⟨o10, h_o10⟩ : ∃ o : Int, o = (b2i (decide (S1.ρ 10 ≠ (0 : Int)))) := ⟨_, rfl⟩
                        have u4 := h_o4
                        rw [w_i64 (by omega) (by omega)] at u4
                        have inv : InvY0 S n (n - (i + 1)) (S1.set (upd S1.ρ [(7, o7), (4, o4), (10, o10)]) [] 60 rfl hK) := ⟨i + 1, by omega, rfl, (show o4 = ((i + 1 : Nat) : Int) by omega), fr.set rfl rfl, b01 h_o10, hr⟩
                        exact .inl ⟨_, _, (by omega : n - i = n - (i + 1) + 1), inv, _, [], _, 1000, _, [], (ai wY010 true d11 (ai wY09 false d10 (ai wY08 false d9 (ai wY06 false d8 (ai wY019 true d7 (ai wY05 false d6 (ai wY016 false d5 (ai wY04 false d4 (ai wY03 false d3 (ai wY02 true d2 (ai wY01 true d1 (ai wY00 true d0 (AlOk.nil _))))))))))))), hcs, LkOk.no _ _ _ _, (av 1 .i64 (av 16 .i64 (an 7 (.bin .add (.var .i64 7) (.lit .i64 1)) (sm h_o7.symm) (av 8 .i64 (an 4 (.bin .add (.var .i64 4) (.lit .i64 1)) (sm h_o4.symm) (av 5 .i64 (av 6 .i64 (av 5 .i64 (ar 60 (ar_var 60) (av 6 .i64 (ar 61 (ar_var 61) (av 6 .i64 (av 5 .i64 (an 7 (.bin .add (.var .i64 7) (.lit .i64 1)) (sm h_o7.symm) (an 10 (.bin .neq (.var .u8 10) (.lit .u8 0)) (sm h_o10.symm) (av 9 .i64 (av 8 .i64 (av 6 .i64 (av 5 .i64 (av 5 .i64 (ar 60 (ar_var 60) (av 6 .i64 (ar 61 (ar_var 61) (asg_nil rfl)))))))))))))))))))))))), fun G => by kernel_rfl⟩
                      · have d11 : wY010.den S1 = some [b2i false] := fls (p := (S1.Φ 20 [S1.ρ 4]) = (3 : Int)) c11
                        have c12 : (S1.Φ 20 [S1.ρ 4]) = (4 : Int) := by omega
                        have d12 : wY011.den S1 = some [b2i true] := tr (p := (S1.Φ 20 [S1.ρ 4]) = (4 : Int)) c12
                        obtain ⟨o7, h_o7⟩ : ∃ o : Int, o = (IntKind.i64.wrap (S1.ρ 7 + (1 : Int))) := ⟨_, rfl⟩
                        obtain ⟨o4, h_o4⟩ : ∃ o : Int, o = (IntKind.i64.wrap (S1.ρ 4 + (1 : Int))) := ⟨_, rfl⟩
                        obtain ⟨o10, h_o10⟩ : ∃ o : Int, o = (b2i (decide (S1.ρ 10 ≠ (0 : Int)))) := ⟨_, rfl⟩
                        have u4 := h_o4
                        rw [w_i64 (by omega) (by omega)] at u4
                        have inv : InvY0 S n (n - (i + 1)) (S1.set (upd S1.ρ [(7, o7), (4, o4), (10, o10)]) [] 60 rfl hK) := ⟨i + 1, by omega, rfl, (show o4 = ((i + 1 : Nat) : Int) by omega), fr.set rfl rfl, b01 h_o10, hr⟩
                        exact .inl ⟨_, _, (by omega : n - i = n - (i + 1) + 1), inv, _, [], _, 1000, _, [], (ai wY011 true d12 (ai wY010 false d11 (ai wY09 false d10 (ai wY08 false d9 (ai wY06 false d8 (ai wY019 true d7 (ai wY05 false d6 (ai wY016 false d5 (ai wY04 false d4 (ai wY03 false d3 (ai wY02 true d2 (ai wY01 true d1 (ai wY00 true d0 (AlOk.nil _)))))))))))))), hcs, LkOk.no _ _ _ _, (av 1 .i64 (av 16 .i64 (an 7 (.bin .add (.var .i64 7) (.lit .i64 1)) (sm h_o7.symm) (av 8 .i64 (an 4 (.bin .add (.var .i64 4) (.lit .i64 1)) (sm h_o4.symm) (av 5 .i64 (av 6 .i64 (av 5 .i64 (ar 60 (ar_var 60) (av 6 .i64 (ar 61 (ar_var 61) (av 6 .i64 (av 5 .i64 (an 7 (.bin .add (.var .i64 7) (.lit .i64 1)) (sm h_o7.symm) (an 10 (.bin .neq (.var .u8 10) (.lit .u8 0)) (sm h_o10.symm) (av 9 .i64 (av 8 .i64 (av 6 .i64 (av 5 .i64 (av 5 .i64 (ar 60 (ar_var 60) (av 6 .i64 (ar 61 (ar_var 61) (asg_nil rfl)))))))))))))))))))))))), fun G => by kernel_rfl⟩
  · have d0 : wY00.den S1 = some [b2i false] := fls (p := S1.ρ 4 < S1.ρ 1) c0
    exact .inr ⟨by omega, fun T hT => ⟨_, [], _, 1000, _, [], (ai wY00 false d0 (AlOk.nil _)), hcs, LkOk.no _ _ _ _, (an 7 (.var .i64 7) (sm (hT.num 7 rfl)) (an 8 (.var .i64 8) (sm (hT.num 8 rfl)) (an 5 (.var .i64 5) (sm (hT.num 5 rfl)) (an 6 (.var .i64 6) (sm (hT.num 6 rfl)) (an 5 (.var .i64 5) (sm (hT.num 5 rfl)) (asg_arr (i := 60) (hT.row 60 rfl) (an 6 (.var .i64 6) (sm (hT.num 6 rfl)) (asg_arr (i := 61) (hT.row 61 rfl) (an 6 (.var .i64 6) (sm (hT.num 6 rfl)) (an 5 (.var .i64 5) (sm (hT.num 5 rfl)) (an 7 (.var .i64 7) (sm (hT.num 7 rfl)) (an 10 (.bin .neq (.var .u8 10) (.lit .u8 0)) (sm ((bb01 h10).trans (hT.num 10 rfl))) (an 9 (.var .i64 9) (sm (hT.num 9 rfl)) (an 8 (.var .i64 8) (sm (hT.num 8 rfl)) (an 6 (.var .i64 6) (sm (hT.num 6 rfl)) (an 5 (.var .i64 5) (sm (hT.num 5 rfl)) (an 5 (.var .i64 5) (sm (hT.num 5 rfl)) (asg_arr (i := 60) (hT.row 60 rfl) (an 6 (.var .i64 6) (sm (hT.num 6 rfl)) (asg_arr (i := 61) (hT.row 61 rfl) (asg_nil hT.1))))))))))))))))))))), fun G => by kernel_rfl⟩⟩
theorem loopY0 (hn : n < 9223372036854775807) (hb : S.ρ 1 = n) (h5 : 0 ≤ S.ρ 5 ∧ S.ρ 5 < 41) (h6 : 0 ≤ S.ρ 6 ∧ S.ρ 6 < 41) (hK0 : ∀ x ∈ S.I, x.f + x.ks.length ≤ 60) (h0 : S.ρ 4 = 0) (h10 : S.ρ 10 = 0 ∨ S.ρ 10 = 1) (hr : ∀ j : Int, 0 ≤ S.Φ 61 [j] ∧ S.Φ 61 [j] < 256) : ∃ Sf : Sy, (Sf.ρ 4 = n ∧ Stay [4, 7, 8, 9, 10] [60, 61] S Sf ∧ (∀ j : Int, 0 ≤ Sf.Φ 61 [j] ∧ Sf.Φ 61 [j] < 256)) ∧ ∀ T asg0, Same [7, 8, 5, 6, 10, 9] [60, 61] Sf T → AsgOk T S asg0 → LkAt Try.prog T [] (.loop (cAt Try.prog lpY0)) (lkLoopR Try.prog 9 [(9, 6), (10, 7)] X0Y F0Y (.exit 0) asg0) := by
  obtain ⟨m, k', Sf, hc, ⟨i, hin, hk, hiv, fr, h10, hr⟩, hf⟩ := loop_ex (stepY0 S n hn hb h5 h6 hK0) n S ⟨0, Nat.zero_le _, rfl, h0, Stay.refl _ _ _, h10, hr⟩
  have hk0 := hf.1
  obtain rfl : i = n := by omega
  exact ⟨Sf, ⟨hiv, fr, hr⟩, fun T asg0 hs ha => loop_chain envY (ann_self _) fineY0 (show X0Y.N = F0Y.N from rfl) (Nat.le_of_ble_eq_true rfl) hc (hf.2 T hs) ha⟩
end
def wY10 : Tm := (.bin .lss (.var .i64 11) (.var .i64 5))
def wY11 : Tm := (.bin .lss (.var .i64 11) (.lit .i64 0))
def wY12 : Tm := (.bin .geq (.var .i64 11) (.var .i64 5))
def wY13 : Tm := (.bin .geq (.var .i64 11) (.lit .i64 0))
def wY14 : Tm := (.bin .neq (.app .u64 60 (.cons (.var .i64 11) .nil)) (.app .u64 60 (.cons (.var .i64 11) .nil)))
section
variable (S : Sy) (n : Nat)
abbrev RY1 : Sy → Sy → Prop := StepTo Try.prog ftY ΛY [] (cAt Try.prog lpY1) X1Y F1Y 11
def InvY1 (k : Nat) (S1 : Sy) : Prop := ∃ i : Nat, i ≤ n ∧ k = n - i ∧ S1.ρ 11 = i ∧ Stay [11, 12, 13, 17, 18] [] S S1 ∧ (S1.ρ 18 = 0 ∨ S1.ρ 18 = 1)
def FinY1 (k : Nat) (S1 : Sy) : Prop := k = 0 ∧ ∀ T, Same [5, 6, 12, 18, 17, 13] [60, 61] S1 T → StepOut Try.prog ftY ΛY [] (cAt Try.prog lpY1) X1Y F1Y (.exit 2) 11 S1 T
set_option maxHeartbeats 4000000 in
theorem stepY1 (hn : n < 9223372036854775807) (hb : S.ρ 5 = n) (h5 : 0 ≤ S.ρ 5 ∧ S.ρ 5 < 41) (hK0 : ∀ x ∈ S.I, x.f + x.ks.length ≤ 60) (k : Nat) (S1 : Sy) (hi : InvY1 S n k S1) : (∃ k' S2, k = k' + 1 ∧ InvY1 S n k' S2 ∧ RY1 S1 S2) ∨ FinY1 k S1 := by
  obtain ⟨i, hin, rfl, hiv, fr, h18⟩ := hi
  have hcs : ∀ c ∈ ([] : List Ctr), CtrOk Try.prog S1 [] c := fun c hc => by simp at hc
  have hK : ∀ x ∈ S1.I, x.f + x.ks.length ≤ 60 := by rw [fr.1]; exact hK0
  have e5 := fr.num 5 rfl
  have e6 := fr.num 6 rfl
  by_cases c0 : S1.ρ 11 < S1.ρ 5
  · have d0 : wY10.den S1 = some [b2i true] := tr (p := S1.ρ 11 < S1.ρ 5) c0
    have c1 : ¬ (S1.ρ 11 < (0 : Int)) := by omega
    have d1 : wY11.den S1 = some [b2i false] := fls (p := S1.ρ 11 < (0 : Int)) c1
    have d2 : wY12.den S1 = some [b2i false] := fls (p := S1.ρ 5 ≤ S1.ρ 11) (Int.not_le.2 c0)
    have d3 : wY13.den S1 = some [b2i true] := tr (p := (0 : Int) ≤ S1.ρ 11) (Int.not_lt.1 c1)
    have c4 : (S1.Φ 60 [S1.ρ 11]) = (S1.Φ 60 [S1.ρ 11]) := rfl
    have d4 : wY14.den S1 = some [b2i false] := fls (p := (S1.Φ 60 [S1.ρ 11]) ≠ (S1.Φ 60 [S1.ρ 11])) (fun hh => hh c4)
    obtain ⟨o11, h_o11⟩ : ∃ o : Int, o = (IntKind.i64.wrap (S1.ρ 11 + (1 : Int))) := ⟨_, rfl⟩
    obtain ⟨o12, h_o12⟩ : ∃ o : Int, o = (IntKind.i64.wrap (S1.ρ 12 + (1 : Int))) := ⟨_, rfl⟩
    obtain ⟨o18, h_o18⟩ : ∃ o : Int, o = (b2i (decide (S1.ρ 18 ≠ (0 : Int)))) := ⟨_, rfl⟩
    have u11 := h_o11
    rw [w_i64 (by omega) (by omega)] at u11
    have inv : InvY1 S n (n - (i + 1)) (S1.set (upd S1.ρ [(11, o11), (12, o12), (18, o18)]) [] 60 rfl hK) := ⟨i + 1, by omega, rfl, (show o11 = ((i + 1 : Nat) : Int) by omega), fr.set rfl rfl, b01 h_o18⟩
    exact .inl ⟨_, _, (by omega : n - i = n - (i + 1) + 1), inv, _, [], _, 1000, _, [], (ai wY14 false d4 (ai wY13 true d3 (ai wY12 false d2 (ai wY11 false d1 (ai wY10 true d0 (AlOk.nil _)))))), hcs, LkOk.no _ _ _ _, (an 11 (.bin .add (.var .i64 11) (.lit .i64 1)) (sm h_o11.symm) (av 5 .i64 (av 6 .i64 (av 5 .i64 (ar 60 (ar_var 60) (av 6 .i64 (ar 61 (ar_var 61) (av 6 .i64 (av 5 .i64 (an 12 (.bin .add (.var .i64 12) (.lit .i64 1)) (sm h_o12.symm) (an 18 (.bin .neq (.var .u8 18) (.lit .u8 0)) (sm h_o18.symm) (av 17 .i64 (av 13 .i64 (av 6 .i64 (av 5 .i64 (av 5 .i64 (ar 60 (ar_var 60) (av 6 .i64 (ar 61 (ar_var 61) (asg_nil rfl)))))))))))))))))))), fun G => by kernel_rfl⟩
  · have d0 : wY10.den S1 = some [b2i false] := fls (p := S1.ρ 11 < S1.ρ 5) c0
    exact .inr ⟨by omega, fun T hT => ⟨_, [], _, 1000, _, [], (ai wY10 false d0 (AlOk.nil _)), hcs, LkOk.no _ _ _ _, (an 5 (.var .i64 5) (sm (hT.num 5 rfl)) (an 6 (.var .i64 6) (sm (hT.num 6 rfl)) (an 5 (.var .i64 5) (sm (hT.num 5 rfl)) (asg_arr (i := 60) (hT.row 60 rfl) (an 6 (.var .i64 6) (sm (hT.num 6 rfl)) (asg_arr (i := 61) (hT.row 61 rfl) (an 6 (.var .i64 6) (sm (hT.num 6 rfl)) (an 5 (.var .i64 5) (sm (hT.num 5 rfl)) (an 12 (.var .i64 12) (sm (hT.num 12 rfl)) (an 18 (.bin .neq (.var .u8 18) (.lit .u8 0)) (sm ((bb01 h18).trans (hT.num 18 rfl))) (an 17 (.var .i64 17) (sm (hT.num 17 rfl)) (an 13 (.var .i64 13) (sm (hT.num 13 rfl)) (an 6 (.var .i64 6) (sm (hT.num 6 rfl)) (an 5 (.var .i64 5) (sm (hT.num 5 rfl)) (an 5 (.var .i64 5) (sm (hT.num 5 rfl)) (asg_arr (i := 60) (hT.row 60 rfl) (an 6 (.var .i64 6) (sm (hT.num 6 rfl)) (asg_arr (i := 61) (hT.row 61 rfl) (asg_nil hT.1))))))))))))))))))), fun G => by kernel_rfl⟩⟩
theorem loopY1 (hn : n < 9223372036854775807) (hb : S.ρ 5 = n) (h5 : 0 ≤ S.ρ 5 ∧ S.ρ 5 < 41) (hK0 : ∀ x ∈ S.I, x.f + x.ks.length ≤ 60) (h0 : S.ρ 11 = 0) (h18 : S.ρ 18 = 0 ∨ S.ρ 18 = 1) : ∃ Sf : Sy, (Sf.ρ 11 = n ∧ Stay [11, 12, 13, 17, 18] [] S Sf) ∧ ∀ T asg0, Same [5, 6, 12, 18, 17, 13] [60, 61] Sf T → AsgOk T S asg0 → LkAt Try.prog T [] (.loop (cAt Try.prog lpY1)) (lkLoopR Try.prog 11 [] X1Y F1Y (.exit 2) asg0) := by
  obtain ⟨m, k', Sf, hc, ⟨i, hin, hk, hiv, fr, h18⟩, hf⟩ := loop_ex (stepY1 S n hn hb h5 hK0) n S ⟨0, Nat.zero_le _, rfl, h0, Stay.refl _ _ _, h18⟩
  have hk0 := hf.1
  obtain rfl : i = n := by omega
  exact ⟨Sf, ⟨hiv, fr⟩, fun T asg0 hs ha => loop_chain envY (ann_self _) fineY1 (show X1Y.N = F1Y.N from rfl) (Nat.le_of_ble_eq_true rfl) hc (hf.2 T hs) ha⟩
end
def wY20 : Tm := (.bin .lss (.var .i64 14) (.var .i64 6))
def wY21 : Tm := (.bin .lss (.var .i64 14) (.lit .i64 0))
def wY22 : Tm := (.bin .geq (.var .i64 14) (.var .i64 6))
def wY23 : Tm := (.bin .geq (.var .i64 14) (.lit .i64 0))
def wY24 : Tm := (.bin .neq (.conv .u8 (.conv .u64 (.app .u8 61 (.cons (.var .i64 14) .nil)))) (.app .u8 61 (.cons (.var .i64 14) .nil)))
section
variable (S : Sy) (n : Nat)
abbrev RY2 : Sy → Sy → Prop := StepTo Try.prog ftY ΛY [] (cAt Try.prog lpY2) X2Y F2Y 11
def InvY2 (k : Nat) (S1 : Sy) : Prop := ∃ i : Nat, i ≤ n ∧ k = n - i ∧ S1.ρ 14 = i ∧ Stay [14, 15, 19, 51, 52] [] S S1
def FinY2 (k : Nat) (S1 : Sy) : Prop := k = 0 ∧ ∀ T, Same [] [] S1 T → StepOut Try.prog ftY ΛY [] (cAt Try.prog lpY2) X2Y F2Y (.exit 4) 11 S1 T
set_option maxHeartbeats 4000000 in
theorem stepY2 (hn : n < 9223372036854775807) (hb : S.ρ 6 = n) (h6 : 0 ≤ S.ρ 6 ∧ S.ρ 6 < 41) (hr : ∀ j : Int, 0 ≤ S.Φ 61 [j] ∧ S.Φ 61 [j] < 256) (hK0 : ∀ x ∈ S.I, x.f + x.ks.length ≤ 60) (k : Nat) (S1 : Sy) (hi : InvY2 S n k S1) : (∃ k' S2, k = k' + 1 ∧ InvY2 S n k' S2 ∧ RY2 S1 S2) ∨ FinY2 k S1 := by
  obtain ⟨i, hin, rfl, hiv, fr⟩ := hi
  have hcs : ∀ c ∈ ([] : List Ctr), CtrOk Try.prog S1 [] c := fun c hc => by simp at hc
  have hK : ∀ x ∈ S1.I, x.f + x.ks.length ≤ 60 := by rw [fr.1]; exact hK0
  have e5 := fr.num 5 rfl
  have e6 := fr.num 6 rfl
  have hr1 : ∀ j : Int, 0 ≤ S1.Φ 61 [j] ∧ S1.Φ 61 [j] < 256 := fun j => by rw [fr.fn 61 rfl]; exact hr j
  by_cases c0 : S1.ρ 14 < S1.ρ 6
  · have d0 : wY20.den S1 = some [b2i true] := tr (p := S1.ρ 14 < S1.ρ 6) c0
    have c1 : ¬ (S1.ρ 14 < (0 : Int)) := by omega
    have d1 : wY21.den S1 = some [b2i false] := fls (p := S1.ρ 14 < (0 : Int)) c1
    have d2 : wY22.den S1 = some [b2i false] := fls (p := S1.ρ 6 ≤ S1.ρ 14) (Int.not_le.2 c0)
    have d3 : wY23.den S1 = some [b2i true] := tr (p := (0 : Int) ≤ S1.ρ 14) (Int.not_lt.1 c1)
    have c4 : (IntKind.u8.wrap ((IntKind.u64.wrap ((S1.Φ 61 [S1.ρ 14]))))) = (S1.Φ 61 [S1.ρ 14]) := by have := hr1 (S1.ρ 14); simp only [mod_u8, mod_u64]; omega
    have d4 : wY24.den S1 = some [b2i false] := fls (p := (IntKind.u8.wrap ((IntKind.u64.wrap ((S1.Φ 61 [S1.ρ 14]))))) ≠ (S1.Φ 61 [S1.ρ 14])) (fun hh => hh c4)
    obtain ⟨o14, h_o14⟩ : ∃ o : Int, o = (IntKind.i64.wrap (S1.ρ 14 + (1 : Int))) := ⟨_, rfl⟩
    obtain ⟨o52, h_o52⟩ : ∃ o : Int, o = (b2i (decide (S1.ρ 52 ≠ (0 : Int)))) := ⟨_, rfl⟩
    obtain ⟨o15, h_o15⟩ : ∃ o : Int, o = (IntKind.i64.wrap (S1.ρ 15 + (1 : Int))) := ⟨_, rfl⟩
    have u14 := h_o14
    rw [w_i64 (by omega) (by omega)] at u14
    have inv : InvY2 S n (n - (i + 1)) (S1.set (upd S1.ρ [(14, o14), (52, o52), (15, o15)]) [] 60 rfl hK) := ⟨i + 1, by omega, rfl, (show o14 = ((i + 1 : Nat) : Int) by omega), fr.set rfl rfl⟩
    exact .inl ⟨_, _, (by omega : n - i = n - (i + 1) + 1), inv, _, [], _, 1000, _, [], (ai wY24 false d4 (ai wY23 true d3 (ai wY22 false d2 (ai wY21 false d1 (ai wY20 true d0 (AlOk.nil _)))))), hcs, LkOk.no _ _ _ _, (an 14 (.bin .add (.var .i64 14) (.lit .i64 1)) (sm h_o14.symm) (av 5 .i64 (av 6 .i64 (av 5 .i64 (ar 60 (ar_var 60) (av 6 .i64 (ar 61 (ar_var 61) (av 6 .i64 (av 5 .i64 (av 19 .i64 (an 52 (.bin .neq (.var .u8 52) (.lit .u8 0)) (sm h_o52.symm) (av 51 .i64 (an 15 (.bin .add (.var .i64 15) (.lit .i64 1)) (sm h_o15.symm) (av 6 .i64 (av 5 .i64 (av 5 .i64 (ar 60 (ar_var 60) (av 6 .i64 (ar 61 (ar_var 61) (asg_nil rfl)))))))))))))))))))), fun G => by kernel_rfl⟩
  · have d0 : wY20.den S1 = some [b2i false] := fls (p := S1.ρ 14 < S1.ρ 6) c0
    exact .inr ⟨by omega, fun T hT => ⟨_, [], _, 1000, _, [], (ai wY20 false d0 (AlOk.nil _)), hcs, LkOk.no _ _ _ _, (asg_nil hT.1), fun G => by kernel_rfl⟩⟩
theorem loopY2 (hn : n < 9223372036854775807) (hb : S.ρ 6 = n) (h6 : 0 ≤ S.ρ 6 ∧ S.ρ 6 < 41) (hr : ∀ j : Int, 0 ≤ S.Φ 61 [j] ∧ S.Φ 61 [j] < 256) (hK0 : ∀ x ∈ S.I, x.f + x.ks.length ≤ 60) (h0 : S.ρ 14 = 0) : ∃ Sf : Sy, (Sf.ρ 14 = n ∧ Stay [14, 15, 19, 51, 52] [] S Sf) ∧ ∀ T asg0, Same [] [] Sf T → AsgOk T S asg0 → LkAt Try.prog T [] (.loop (cAt Try.prog lpY2)) (lkLoopR Try.prog 11 [] X2Y F2Y (.exit 4) asg0) := by
  obtain ⟨m, k', Sf, hc, ⟨i, hin, hk, hiv, fr⟩, hf⟩ := loop_ex (stepY2 S n hn hb h6 hr hK0) n S ⟨0, Nat.zero_le _, rfl, h0, Stay.refl _ _ _⟩
  have hk0 := hf.1
  obtain rfl : i = n := by omega
  exact ⟨Sf, ⟨hiv, fr⟩, fun T asg0 hs ha => loop_chain envY (ann_self _) fineY2 (show X2Y.N = F2Y.N from rfl) (Nat.le_of_ble_eq_true rfl) hc (hf.2 T hs) ha⟩
end
def py0 : Tm := (.bin .gtr (.var .i64 1) (.lit .i64 200))
def py1 : Tm := (.bin .lss (.var .i64 5) (.lit .i64 0))
def py2 : Tm := (.bin .gtr (.var .i64 5) (.lit .i64 2097152))
def py3 : Tm := (.bin .lss (.var .i64 6) (.lit .i64 0))
def py4 : Tm := (.bin .gtr (.var .i64 6) (.lit .i64 1048576))
def py5 : Tm := (.bin .geq (.var .i64 5) (.lit .i64 0))
def py6 : Tm := (.bin .lss (.var .i64 5) (.lit .i64 4194304))
def py7 : Tm := (.bin .geq (.var .i64 6) (.lit .i64 0))
def py8 : Tm := (.bin .lss (.var .i64 6) (.lit .i64 4194304))
def py9 : Tm := (.bin .neq (.var .i64 7) (.var .i64 7))
def py10 : Tm := (.bin .neq (.var .i64 8) (.var .i64 8))
theorem den_wY {S : Sy} {t : Tm} {i : Nat} {a : Int} (ha : 0 ≤ a) (ht : t = .conv .i64 (.bin .rem (.var .u8 i) (.lit .u8 41))) (hi : S.ρ i = a) : t.den S = some [a % 41] := by
  subst ht
  refine den_conv .i64 (x := a % 41) (den_bin (k := .u8) (r := a % 41) rfl (den_lit _ _) ?_) (w_i64 (by omega) (by omega))
  show (if (41 : Int) = 0 then none else some (Value.int .u8 ((S.ρ i).tmod 41))) = _
  rw [if_neg (by decide), hi, Int.tmod_eq_emod_of_nonneg ha]
set_option maxHeartbeats 4000000 in
theorem play_any (a b : Int) (ha : 0 ≤ a) (hb : 0 ≤ b) (v u : Value) (w : World) (hs : SlIn w [some .u8, some .i64, some .u64, some .u64] v) (ht : SlIn w [none] u) : Calls Try.prog 5 #[.int .u8 a, .int .u8 b, v, u] w fun e w' => e = .returned (.bool true) ∧ Quiet w w' := by
  obtain ⟨x, F, hks, hf, rfl, _, _, hok⟩ := inpw_of (by decide) hs 20
  obtain ⟨y, E, hks', hf', rfl, _, _, hok'⟩ := inpw_of (by decide) ht 30
  obtain ⟨Φ, hΦe⟩ : ∃ Φ : Nat → List Int → Int, Φ = fun g l => if 30 ≤ g then (match l with | [j] => E (g - 30) j.toNat | _ => 0) else phi 20 4 F g l := ⟨_, rfl⟩
  have hall : ∀ z ∈ [x, y], ∃ F, InpW w z F := fun z hz => by
    simp only [List.mem_cons, List.not_mem_nil, or_false] at hz
    rcases hz with rfl | rfl
    · exact ⟨F, hok⟩
    · exact ⟨E, hok'⟩
  have hxok : InpOk [x, y] Φ x := inps_ok hall List.mem_cons_self hok fun m j hm => by
    rw [hks] at hm
    have hm : m < 4 := hm
    rw [hf, hΦe]
    show (if 30 ≤ 20 + m then _ else phi 20 4 F (20 + m) [(j : Int)]) = _
    rw [if_neg (by omega)]
    exact phi_in hm
  have hyok : InpOk [x, y] Φ y := inps_ok hall (List.mem_cons_of_mem _ List.mem_cons_self) hok' fun m j hm => by
    rw [hf', hΦe]
    simp
  obtain ⟨SS, hSS⟩ : ∃ SS : Sy, SS = ⟨upd (fun _ => 0) [(1, (x.n : Int)), (16, (y.n : Int)), (2, a), (3, b), (5, a % 41), (6, b % 41)], Φ, [x, y], fun z hz => by
    simp only [List.mem_cons, List.not_mem_nil, or_false] at hz
    rcases hz with rfl | rfl
    · exact hxok
    · exact hyok⟩ := ⟨_, rfl⟩
  have i1 : SS.ρ 1 = x.n := by rw [hSS]; rfl
  have i16 : SS.ρ 16 = y.n := by rw [hSS]; rfl
  have i2 : SS.ρ 2 = a := by rw [hSS]; rfl
  have i3 : SS.ρ 3 = b := by rw [hSS]; rfl
  have i5 : SS.ρ 5 = a % 41 := by rw [hSS]; rfl
  have i6 : SS.ρ 6 = b % 41 := by rw [hSS]; rfl
  have iI : SS.I = [x, y] := by rw [hSS]
  have i9 : SS.Φ 9 [] = 1 := by
    rw [hSS]
    show Φ 9 [] = 1
    rw [hΦe]
    show (if 30 ≤ 9 then _ else phi 20 4 F 9 []) = _
    rw [if_neg (by decide)]
    exact phi_9 (f := 20) (m := 4) (F := F) (by decide)
  have h5 : 0 ≤ SS.ρ 5 ∧ SS.ρ 5 < 41 := by omega
  have h6 : 0 ≤ SS.ρ 6 ∧ SS.ρ 6 < 41 := by omega
  obtain ⟨w5, hb5⟩ : ∃ w5 : Nat, SS.ρ 5 = w5 := ⟨(SS.ρ 5).toNat, by omega⟩
  obtain ⟨w6, hb6⟩ : ∃ w6 : Nat, SS.ρ 6 = w6 := ⟨(SS.ρ 6).toNat, by omega⟩
  have hw5 : w5 < 9223372036854775807 := by omega
  have hw6 : w6 < 9223372036854775807 := by omega
  have hin0 : ∀ b o, inpL [x, y] b = some o → w.heap[b]? = some o := inps_in hall
  have hK : ∀ z ∈ SS.I, z.f + z.ks.length ≤ 60 := fun z hz => by
    rw [iI] at hz
    simp only [List.mem_cons, List.not_mem_nil, or_false] at hz
    rcases hz with rfl | rfl
    · rw [hf, hks]; decide
    · rw [hf', hks']; decide
  have main : ∀ T : Sy, ∀ lk, T.I = SS.I → T.ρ 1 = SS.ρ 1 → T.ρ 16 = SS.ρ 16 → T.ρ 2 = SS.ρ 2 → T.ρ 3 = SS.ρ 3 → T.ρ 5 = SS.ρ 5 → T.ρ 6 = SS.ρ 6 → T.Φ 9 [] = 1 → (x.n ≤ 200 → lk = lkL [lkLoopR Try.prog 9 [(9, 6), (10, 7)] X0Y F0Y (.exit 0) [(1, .num (Tm.enc (.var .i64 1))), (16, .num (Tm.enc (.var .i64 16))), (7, .num (Tm.enc (.lit .i64 0))), (8, .num (Tm.enc (.lit .i64 0))), (4, .num (Tm.enc (.lit .i64 0))), (5, .num (Tm.enc (.var .i64 5))), (6, .num (Tm.enc (.var .i64 6))), (5, .num (Tm.enc (.var .i64 5))), (60, .arr .zero), (6, .num (Tm.enc (.var .i64 6))), (61, .arr .zero), (6, .num (Tm.enc (.var .i64 6))), (5, .num (Tm.enc (.var .i64 5))), (7, .num (Tm.enc (.lit .i64 0))), (10, .num (Tm.enc (.blit false))), (9, .num (Tm.enc (.lit .i64 0))), (8, .num (Tm.enc (.lit .i64 0))), (6, .num (Tm.enc (.var .i64 6))), (5, .num (Tm.enc (.var .i64 5))), (5, .num (Tm.enc (.var .i64 5))), (60, .arr .zero), (6, .num (Tm.enc (.var .i64 6))), (61, .arr .zero)], lkLoopR Try.prog 11 [] X1Y F1Y (.exit 2) [(11, .num (Tm.enc (.lit .i64 0))), (5, .num (Tm.enc (.var .i64 5))), (6, .num (Tm.enc (.var .i64 6))), (5, .num (Tm.enc (.var .i64 5))), (60, .arr (.var 60)), (6, .num (Tm.enc (.var .i64 6))), (61, .arr (.var 61)), (6, .num (Tm.enc (.var .i64 6))), (5, .num (Tm.enc (.var .i64 5))), (12, .num (Tm.enc (.var .i64 7))), (18, .num (Tm.enc (.bin .neq (.var .u8 10) (.lit .u8 0)))), (17, .num (Tm.enc (.var .i64 9))), (13, .num (Tm.enc (.var .i64 8))), (6, .num (Tm.enc (.var .i64 6))), (5, .num (Tm.enc (.var .i64 5))), (5, .num (Tm.enc (.var .i64 5))), (60, .arr (.var 60)), (6, .num (Tm.enc (.var .i64 6))), (61, .arr (.var 61))], lkLoopR Try.prog 11 [] X2Y F2Y (.exit 4) [(14, .num (Tm.enc (.lit .i64 0))), (5, .num (Tm.enc (.var .i64 5))), (6, .num (Tm.enc (.var .i64 6))), (5, .num (Tm.enc (.var .i64 5))), (60, .arr (.var 60)), (6, .num (Tm.enc (.var .i64 6))), (61, .arr (.var 61)), (6, .num (Tm.enc (.var .i64 6))), (5, .num (Tm.enc (.var .i64 5))), (19, .num (Tm.enc (.var .i64 12))), (52, .num (Tm.enc (.bin .neq (.var .u8 18) (.lit .u8 0)))), (51, .num (Tm.enc (.var .i64 17))), (15, .num (Tm.enc (.var .i64 13))), (6, .num (Tm.enc (.var .i64 6))), (5, .num (Tm.enc (.var .i64 5))), (5, .num (Tm.enc (.var .i64 5))), (60, .arr (.var 60)), (6, .num (Tm.enc (.var .i64 6))), (61, .arr (.var 61))]]) → LkOk Try.prog T [] ΛY lk → Calls Try.prog 5 #[.int .u8 a, .int .u8 b, .slice x.a x.n x.cap, .slice y.a y.n y.cap] w fun e w' => e = .returned (.bool true) ∧ Quiet w w' := by
    intro T lk tI t1 t16 t2 t3 t5 t6 hΦ9 hl hlk
    have hvs : ∀ G ι, VsOk T G ι [vv .u8 2, vv .u8 3, inLY, inTY] [.int .u8 a, .int .u8 b, .slice x.a x.n x.cap, .slice y.a y.n y.cap] := fun G ι => vs_sym (t2.trans i2) (vs_sym (t3.trans i3) (vs_inp0 (x := x) (by decide) (by rw [tI, iI]; rfl) (by rw [hks]; decide +kernel) (by rw [hf]; decide +kernel) (t1.trans i1) (vs_inp0 (x := y) (by decide) (by rw [tI, iI]; rfl) (by rw [hks']; decide +kernel) (by rw [hf']; decide +kernel) (t16.trans i16) vs_nil)))
    have hin : ∀ b o, inpL T.I b = some o → w.heap[b]? = some o := by rw [tI, iI]; exact hin0
    have dw : wTY.den T = some [T.ρ 5] := by rw [t5, i5]; exact den_wY ha rfl (t2.trans i2)
    have db : bTY.den T = some [T.ρ 6] := by rw [t6, i6]; exact den_wY hb rfl (t3.trans i3)
    by_cases c0 : (200 : Int) < T.ρ 1
    · have d0 : py0.den T = some [b2i true] := tr (p := (200 : Int) < T.ρ 1) c0
      exact symRunI envY (ai py0 true d0 (ai awT true (aw_den hΦ9) (al_nm bTY (.var .i64 6) (by kernel_rfl) db rfl (al_nm wTY (.var .i64 5) (by kernel_rfl) dw rfl (AlOk.nil _))))) (one_ok hΦ9) hlk (n := 1000) (args := [vv .u8 2, vv .u8 3, inLY, inTY]) (args' := [.int .u8 a, .int .u8 b, .slice x.a x.n x.cap, .slice y.a y.n y.cap]) (res := [.one .bool]) (vs := [.bool true]) (rcs := [litB true]) (rs := [1]) rfl ⟨ev_litB _ true, trivial⟩ (fun G => by kernel_rfl) hvs w (gok w) hin
    · have d0 : py0.den T = some [b2i false] := fls (p := (200 : Int) < T.ρ 1) c0
      obtain rfl := hl (by omega)
      have c1 : ¬ (T.ρ 5 < (0 : Int)) := by omega
      have d1 : py1.den T = some [b2i false] := fls (p := T.ρ 5 < (0 : Int)) c1
      have c2 : ¬ ((2097152 : Int) < T.ρ 5) := by omega
      have d2 : py2.den T = some [b2i false] := fls (p := (2097152 : Int) < T.ρ 5) c2
      have c3 : ¬ (T.ρ 6 < (0 : Int)) := by omega
      have d3 : py3.den T = some [b2i false] := fls (p := T.ρ 6 < (0 : Int)) c3
      have c4 : ¬ ((1048576 : Int) < T.ρ 6) := by omega
      have d4 : py4.den T = some [b2i false] := fls (p := (1048576 : Int) < T.ρ 6) c4
      have d5 : py5.den T = some [b2i true] := tr (p := (0 : Int) ≤ T.ρ 5) (Int.not_lt.1 c1)
      have c6 : T.ρ 5 < (4194304 : Int) := by omega
      have d6 : py6.den T = some [b2i true] := tr (p := T.ρ 5 < (4194304 : Int)) c6
      have d7 : py7.den T = some [b2i true] := tr (p := (0 : Int) ≤ T.ρ 6) (Int.not_lt.1 c3)
      have c8 : T.ρ 6 < (4194304 : Int) := by omega
      have d8 : py8.den T = some [b2i true] := tr (p := T.ρ 6 < (4194304 : Int)) c8
      have c9 : T.ρ 7 = T.ρ 7 := rfl
      have d9 : py9.den T = some [b2i false] := fls (p := T.ρ 7 ≠ T.ρ 7) (fun hh => hh c9)
      have c10 : T.ρ 8 = T.ρ 8 := rfl
      have d10 : py10.den T = some [b2i false] := fls (p := T.ρ 8 ≠ T.ρ 8) (fun hh => hh c10)
      exact symRunI envY (ai py10 false d10 (ai py9 false d9 (ai py8 true d8 (ai py7 true d7 (ai py6 true d6 (ai py5 true d5 (ai py4 false d4 (ai py3 false d3 (ai py2 false d2 (ai py1 false d1 (ai py0 false d0 (ai awT true (aw_den hΦ9) (al_nm bTY (.var .i64 6) (by kernel_rfl) db rfl (al_nm wTY (.var .i64 5) (by kernel_rfl) dw rfl (AlOk.nil _))))))))))))))) (one_ok hΦ9) hlk (n := 1000) (args := [vv .u8 2, vv .u8 3, inLY, inTY]) (args' := [.int .u8 a, .int .u8 b, .slice x.a x.n x.cap, .slice y.a y.n y.cap]) (res := [.one .bool]) (vs := [.bool true]) (rcs := [litB true]) (rs := [1]) rfl ⟨ev_litB _ true, trivial⟩ (fun G => by kernel_rfl) hvs w (gok w) hin
  by_cases hg : x.n ≤ 200
  · have hx : x.n < 9223372036854775807 := by omega
    obtain ⟨S00, hS00⟩ : ∃ S0 : Sy, S0 = SS.set (upd SS.ρ [(7, (0 : Int)), (8, (0 : Int)), (4, (0 : Int)), (10, (b2i false)), (9, (0 : Int))]) [(60, fun _ => 0), (61, fun _ => 0)] 60 rfl hK := ⟨_, rfl⟩
    have q0 : Stay [7, 8, 4, 10, 9] [60, 61] SS S00 := by rw [hS00]; exact (Stay.refl [7, 8, 4, 10, 9] [60, 61] _).set rfl rfl
    have s0_7 : S00.ρ 7 = (0 : Int) := by rw [hS00]; rfl
    have s0_8 : S00.ρ 8 = (0 : Int) := by rw [hS00]; rfl
    have s0_4 : S00.ρ 4 = (0 : Int) := by rw [hS00]; rfl
    have s0_10 : S00.ρ 10 = (b2i false) := by rw [hS00]; rfl
    have s0_9 : S00.ρ 9 = (0 : Int) := by rw [hS00]; rfl
    have z0_60 : ∀ j : Int, S00.Φ 60 [j] = (fun _ => 0) j := by rw [hS00]; intro j; rfl
    have z0_61 : ∀ j : Int, S00.Φ 61 [j] = (fun _ => 0) j := by rw [hS00]; intro j; rfl
    have a0 := q0
    have hK0 : ∀ x ∈ S00.I, x.f + x.ks.length ≤ 60 := by rw [a0.1]; exact hK
    obtain ⟨Sf0, ⟨e0, fr0, hr0⟩, lk0⟩ := loopY0 S00 x.n hx ((a0.num 1 rfl).trans i1) (by rw [a0.num 5 rfl]; exact h5) (by rw [a0.num 6 rfl]; exact h6) hK0 s0_4 (.inl s0_10) (fun j => by rw [z0_61 j]; exact ⟨Int.le_refl _, (by decide : (0 : Int) < 256)⟩)
    have b0 := a0.trans fr0
    obtain ⟨S01, hS01⟩ : ∃ S0 : Sy, S0 = Sf0.set (upd Sf0.ρ [(11, (0 : Int)), (12, Sf0.ρ 7), (18, (b2i (decide (Sf0.ρ 10 ≠ (0 : Int))))), (17, Sf0.ρ 9), (13, Sf0.ρ 8)]) [] 60 rfl (by rw [b0.1]; exact hK) := ⟨_, rfl⟩
    have q1 : Stay [11, 12, 18, 17, 13] [] Sf0 S01 := by rw [hS01]; exact (Stay.refl [11, 12, 18, 17, 13] [] _).set rfl rfl
    have s1_11 : S01.ρ 11 = (0 : Int) := by rw [hS01]; rfl
    have s1_12 : S01.ρ 12 = Sf0.ρ 7 := by rw [hS01]; rfl
    have s1_18 : S01.ρ 18 = (b2i (decide (Sf0.ρ 10 ≠ (0 : Int)))) := by rw [hS01]; rfl
    have s1_17 : S01.ρ 17 = Sf0.ρ 9 := by rw [hS01]; rfl
    have s1_13 : S01.ρ 13 = Sf0.ρ 8 := by rw [hS01]; rfl
    have a1 := b0.trans q1
    have hK1 : ∀ x ∈ S01.I, x.f + x.ks.length ≤ 60 := by rw [a1.1]; exact hK
    obtain ⟨Sf1, ⟨e1, fr1⟩, lk1⟩ := loopY1 S01 w5 hw5 ((a1.num 5 rfl).trans hb5) (by rw [a1.num 5 rfl]; exact h5) hK1 s1_11 (b01 s1_18)
    have b1 := a1.trans fr1
    obtain ⟨S02, hS02⟩ : ∃ S0 : Sy, S0 = Sf1.set (upd Sf1.ρ [(14, (0 : Int)), (19, Sf1.ρ 12), (52, (b2i (decide (Sf1.ρ 18 ≠ (0 : Int))))), (51, Sf1.ρ 17), (15, Sf1.ρ 13)]) [] 60 rfl (by rw [b1.1]; exact hK) := ⟨_, rfl⟩
    have q2 : Stay [14, 19, 52, 51, 15] [] Sf1 S02 := by rw [hS02]; exact (Stay.refl [14, 19, 52, 51, 15] [] _).set rfl rfl
    have s2_14 : S02.ρ 14 = (0 : Int) := by rw [hS02]; rfl
    have s2_19 : S02.ρ 19 = Sf1.ρ 12 := by rw [hS02]; rfl
    have s2_52 : S02.ρ 52 = (b2i (decide (Sf1.ρ 18 ≠ (0 : Int)))) := by rw [hS02]; rfl
    have s2_51 : S02.ρ 51 = Sf1.ρ 17 := by rw [hS02]; rfl
    have s2_15 : S02.ρ 15 = Sf1.ρ 13 := by rw [hS02]; rfl
    have a2 := b1.trans q2
    have hK2 : ∀ x ∈ S02.I, x.f + x.ks.length ≤ 60 := by rw [a2.1]; exact hK
    obtain ⟨Sf2, ⟨e2, fr2⟩, lk2⟩ := loopY2 S02 w6 hw6 ((a2.num 6 rfl).trans hb6) (by rw [a2.num 6 rfl]; exact h6) (fun j => by rw [((q1.trans fr1).trans q2).fn 61 rfl]; exact hr0 j) hK2 s2_14
    have b2 := a2.trans fr2
    have g2 := fr2
    have p2 := q2.trans g2
    have g1 := fr1.trans p2
    have p1 := q1.trans g1
    have g0 := fr0.trans p1
    have p0 := q0.trans g0
    have hlk := LkOk.all (P := Try.prog) (S := Sf2) (gs := []) (ms := [lpY0, lpY1, lpY2]) (fs := [lkLoopR Try.prog 9 [(9, 6), (10, 7)] X0Y F0Y (.exit 0) [(1, .num (Tm.enc (.var .i64 1))), (16, .num (Tm.enc (.var .i64 16))), (7, .num (Tm.enc (.lit .i64 0))), (8, .num (Tm.enc (.lit .i64 0))), (4, .num (Tm.enc (.lit .i64 0))), (5, .num (Tm.enc (.var .i64 5))), (6, .num (Tm.enc (.var .i64 6))), (5, .num (Tm.enc (.var .i64 5))), (60, .arr .zero), (6, .num (Tm.enc (.var .i64 6))), (61, .arr .zero), (6, .num (Tm.enc (.var .i64 6))), (5, .num (Tm.enc (.var .i64 5))), (7, .num (Tm.enc (.lit .i64 0))), (10, .num (Tm.enc (.blit false))), (9, .num (Tm.enc (.lit .i64 0))), (8, .num (Tm.enc (.lit .i64 0))), (6, .num (Tm.enc (.var .i64 6))), (5, .num (Tm.enc (.var .i64 5))), (5, .num (Tm.enc (.var .i64 5))), (60, .arr .zero), (6, .num (Tm.enc (.var .i64 6))), (61, .arr .zero)], lkLoopR Try.prog 11 [] X1Y F1Y (.exit 2) [(11, .num (Tm.enc (.lit .i64 0))), (5, .num (Tm.enc (.var .i64 5))), (6, .num (Tm.enc (.var .i64 6))), (5, .num (Tm.enc (.var .i64 5))), (60, .arr (.var 60)), (6, .num (Tm.enc (.var .i64 6))), (61, .arr (.var 61)), (6, .num (Tm.enc (.var .i64 6))), (5, .num (Tm.enc (.var .i64 5))), (12, .num (Tm.enc (.var .i64 7))), (18, .num (Tm.enc (.bin .neq (.var .u8 10) (.lit .u8 0)))), (17, .num (Tm.enc (.var .i64 9))), (13, .num (Tm.enc (.var .i64 8))), (6, .num (Tm.enc (.var .i64 6))), (5, .num (Tm.enc (.var .i64 5))), (5, .num (Tm.enc (.var .i64 5))), (60, .arr (.var 60)), (6, .num (Tm.enc (.var .i64 6))), (61, .arr (.var 61))], lkLoopR Try.prog 11 [] X2Y F2Y (.exit 4) [(14, .num (Tm.enc (.lit .i64 0))), (5, .num (Tm.enc (.var .i64 5))), (6, .num (Tm.enc (.var .i64 6))), (5, .num (Tm.enc (.var .i64 5))), (60, .arr (.var 60)), (6, .num (Tm.enc (.var .i64 6))), (61, .arr (.var 61)), (6, .num (Tm.enc (.var .i64 6))), (5, .num (Tm.enc (.var .i64 5))), (19, .num (Tm.enc (.var .i64 12))), (52, .num (Tm.enc (.bin .neq (.var .u8 18) (.lit .u8 0)))), (51, .num (Tm.enc (.var .i64 17))), (15, .num (Tm.enc (.var .i64 13))), (6, .num (Tm.enc (.var .i64 6))), (5, .num (Tm.enc (.var .i64 5))), (5, .num (Tm.enc (.var .i64 5))), (60, .arr (.var 60)), (6, .num (Tm.enc (.var .i64 6))), (61, .arr (.var 61))]]) ⟨⟨_, codeY0, lk0 Sf2 _ (p1.same rfl rfl) (an 1 (.var .i64 1) (sm (g0.num 1 rfl)) (an 16 (.var .i64 16) (sm (g0.num 16 rfl)) (an 7 (.lit .i64 0) (sm s0_7.symm) (an 8 (.lit .i64 0) (sm s0_8.symm) (an 4 (.lit .i64 0) (sm s0_4.symm) (an 5 (.var .i64 5) (sm (g0.num 5 rfl)) (an 6 (.var .i64 6) (sm (g0.num 6 rfl)) (an 5 (.var .i64 5) (sm (g0.num 5 rfl)) (asg_arr (i := 60) (fun j => congrArg some (z0_60 j).symm) (an 6 (.var .i64 6) (sm (g0.num 6 rfl)) (asg_arr (i := 61) (fun j => congrArg some (z0_61 j).symm) (an 6 (.var .i64 6) (sm (g0.num 6 rfl)) (an 5 (.var .i64 5) (sm (g0.num 5 rfl)) (an 7 (.lit .i64 0) (sm s0_7.symm) (an 10 (.blit false) (sm s0_10.symm) (an 9 (.lit .i64 0) (sm s0_9.symm) (an 8 (.lit .i64 0) (sm s0_8.symm) (an 6 (.var .i64 6) (sm (g0.num 6 rfl)) (an 5 (.var .i64 5) (sm (g0.num 5 rfl)) (an 5 (.var .i64 5) (sm (g0.num 5 rfl)) (asg_arr (i := 60) (fun j => congrArg some (z0_60 j).symm) (an 6 (.var .i64 6) (sm (g0.num 6 rfl)) (asg_arr (i := 61) (fun j => congrArg some (z0_61 j).symm) (asg_nil g0.1.symm))))))))))))))))))))))))⟩, ⟨_, codeY1, lk1 Sf2 _ (p2.same rfl rfl) (an 11 (.lit .i64 0) (sm s1_11.symm) (an 5 (.var .i64 5) (sm (g1.num 5 rfl)) (an 6 (.var .i64 6) (sm (g1.num 6 rfl)) (an 5 (.var .i64 5) (sm (g1.num 5 rfl)) (asg_arr (i := 60) (g1.row 60 rfl) (an 6 (.var .i64 6) (sm (g1.num 6 rfl)) (asg_arr (i := 61) (g1.row 61 rfl) (an 6 (.var .i64 6) (sm (g1.num 6 rfl)) (an 5 (.var .i64 5) (sm (g1.num 5 rfl)) (an 12 (.var .i64 7) (sm ((p1.num 7 rfl).trans s1_12.symm)) (an 18 (.bin .neq (.var .u8 10) (.lit .u8 0)) (sm (show (b2i (decide (Sf2.ρ 10 ≠ (0 : Int)))) = _ from by rw [p1.num 10 rfl]; exact s1_18.symm)) (an 17 (.var .i64 9) (sm ((p1.num 9 rfl).trans s1_17.symm)) (an 13 (.var .i64 8) (sm ((p1.num 8 rfl).trans s1_13.symm)) (an 6 (.var .i64 6) (sm (g1.num 6 rfl)) (an 5 (.var .i64 5) (sm (g1.num 5 rfl)) (an 5 (.var .i64 5) (sm (g1.num 5 rfl)) (asg_arr (i := 60) (g1.row 60 rfl) (an 6 (.var .i64 6) (sm (g1.num 6 rfl)) (asg_arr (i := 61) (g1.row 61 rfl) (asg_nil g1.1.symm))))))))))))))))))))⟩, ⟨_, codeY2, lk2 Sf2 _ (Same.refl _ _ _) (an 14 (.lit .i64 0) (sm s2_14.symm) (an 5 (.var .i64 5) (sm (g2.num 5 rfl)) (an 6 (.var .i64 6) (sm (g2.num 6 rfl)) (an 5 (.var .i64 5) (sm (g2.num 5 rfl)) (asg_arr (i := 60) (g2.row 60 rfl) (an 6 (.var .i64 6) (sm (g2.num 6 rfl)) (asg_arr (i := 61) (g2.row 61 rfl) (an 6 (.var .i64 6) (sm (g2.num 6 rfl)) (an 5 (.var .i64 5) (sm (g2.num 5 rfl)) (an 19 (.var .i64 12) (sm ((p2.num 12 rfl).trans s2_19.symm)) (an 52 (.bin .neq (.var .u8 18) (.lit .u8 0)) (sm (show (b2i (decide (Sf2.ρ 18 ≠ (0 : Int)))) = _ from by rw [p2.num 18 rfl]; exact s2_52.symm)) (an 51 (.var .i64 17) (sm ((p2.num 17 rfl).trans s2_51.symm)) (an 15 (.var .i64 13) (sm ((p2.num 13 rfl).trans s2_15.symm)) (an 6 (.var .i64 6) (sm (g2.num 6 rfl)) (an 5 (.var .i64 5) (sm (g2.num 5 rfl)) (an 5 (.var .i64 5) (sm (g2.num 5 rfl)) (asg_arr (i := 60) (g2.row 60 rfl) (an 6 (.var .i64 6) (sm (g2.num 6 rfl)) (asg_arr (i := 61) (g2.row 61 rfl) (asg_nil g2.1.symm))))))))))))))))))))⟩, trivial⟩
    exact main Sf2 _ p0.1 (p0.num 1 rfl) (p0.num 16 rfl) (p0.num 2 rfl) (p0.num 3 rfl) (p0.num 5 rfl) (p0.num 6 rfl) ((p0.fn 9 rfl []).trans i9) (fun _ => rfl) hlk
  · exact main SS _ rfl rfl rfl rfl rfl rfl rfl i9 (fun h => absurd h hg) (LkOk.no _ _ _ _)
end Go.Proofs.Ytilddfihdmmjcaa
