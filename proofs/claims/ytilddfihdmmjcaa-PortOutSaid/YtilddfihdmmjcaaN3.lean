/-
  PortOut: its loops by a rule, run with symbols. Conditions: what is said of the slice (SlIn), and of the numbers' types.
-/
import Derived.Test.YtilddfihdmmjcaaN0
import Derived.Test.YtilddfihdmmjcaaWT
import Derived.Test.YtilddfihdmmjcaaEvLp
namespace Go.Proofs.Ytilddfihdmmjcaa
open Go.Ev Go.RowKit
set_option maxRecDepth 100000
def inLO : Value := inS 0 (dsc 1 20 [5, 4, 8, 8])
def owO (b i : Nat) : Value := .float .f32 (mk 3 0 b (i * 512 + 3))
noncomputable def drO (m d : Nat) : Blk := .cells (mkCells #[.pointer (some ⟨m, 0, none⟩), vv .i64 d, .int .i64 0, .int .i64 0, .int .i64 0, .int .u8 0, .int .u64 0, .int .u64 0, .int .u64 0, .int .u64 0, .int .u64 0, .int .i64 0, .int .i64 0, .int .i64 0, .bool false] 88)
noncomputable def rw64O (f : Nat) : Blk := .arr ⟨5 * 512 + 3, .var f, .u64, 36⟩
noncomputable def rw8O (f : Nat) : Blk := .arr ⟨6 * 512 + 3, .var f, .u8, 5⟩
noncomputable def mmO (a b : Nat) : Blk := .cells (mkCells #[owO a 5, owO b 6] 75)
noncomputable def hpO (d e : Nat) : List (Nat × Blk) := [(0, rw64O 60), (1, rw8O 61), (2, mmO 0 1), (3, drO 2 d), (4, rw64O 60), (5, rw8O 61), (6, mmO 4 5), (7, drO 6 e)]
noncomputable def frO : List (Nat × Value) := [(7, vv .i64 5), (8, vv .i64 6), (9, .pointer (some ⟨3, 0, none⟩)), (10, .pointer (some ⟨7, 0, none⟩))]
noncomputable def X0O : Pat := ⟨110, 8, [(2, inLO), (11, vv .i64 4)] ++ frO, hpO 7 8⟩
noncomputable def F0O : Pat := ⟨110, 8, frO, hpO 7 8⟩
noncomputable def X1O : Pat := ⟨110, 8, (15, vv .i64 9) :: frO, hpO 10 11⟩
noncomputable def F1O : Pat := ⟨110, 8, frO, hpO 10 11⟩
noncomputable def X2O : Pat := ⟨110, 8, (16, vv .i64 12) :: frO, hpO 14 15⟩
noncomputable def F2O : Pat := ⟨110, 8, [], []⟩
def wTO : Tm := .conv .i64 (.bin .rem (.var .u8 2) (.lit .u8 21))
def bTO : Tm := .conv .i64 (.bin .rem (.var .u8 3) (.lit .u8 21))
def lpO0 : Mrk := (9, [1, 1, 1, 1, 1, 1, 1, 0, 1, 0])
def lpO1 : Mrk := (9, [1, 1, 1, 1, 1, 1, 1, 1, 0, 1, 0])
def lpO2 : Mrk := (9, [1, 1, 1, 1, 1, 1, 1, 1, 1, 0, 1, 0])
noncomputable abbrev ΛO : Nat → Option Code := lamOf Try.prog [lpO0, lpO1, lpO2]
noncomputable abbrev ftO : Nat → Option Func := ftM Try.prog [lpO0, lpO1, lpO2]
theorem envO : @EnvOk ⟨ΛO⟩ Try.prog ftO := envM env [lpO0, lpO1, lpO2] (by kernel_rfl)
theorem codeO0 : codeAt Try.prog lpO0 = some (.loop (cAt Try.prog lpO0)) := by kernel_rfl
theorem fineO0 : fineC Try.prog.globals.size (cAt Try.prog lpO0) = true := by kernel_rfl
theorem codeO1 : codeAt Try.prog lpO1 = some (.loop (cAt Try.prog lpO1)) := by kernel_rfl
theorem fineO1 : fineC Try.prog.globals.size (cAt Try.prog lpO1) = true := by kernel_rfl
theorem codeO2 : codeAt Try.prog lpO2 = some (.loop (cAt Try.prog lpO2)) := by kernel_rfl
theorem fineO2 : fineC Try.prog.globals.size (cAt Try.prog lpO2) = true := by kernel_rfl
def wO00 : Tm := (.bin .lss (.var .i64 4) (.var .i64 1))
def wO01 : Tm := (.bin .geq (.var .i64 4) (.lit .i64 0))
def wO02 : Tm := (.bin .geq (.app .u8 20 (.cons (.var .i64 4) .nil)) (.lit .u8 1))
def wO03 : Tm := (.not (.bin .leq (.app .u8 20 (.cons (.var .i64 4) .nil)) (.lit .u8 6)))
def wO04 : Tm := (.bin .eql (.app .u8 20 (.cons (.var .i64 4) .nil)) (.lit .u8 5))
def wO05 : Tm := (.bin .eql (.app .u8 20 (.cons (.var .i64 4) .nil)) (.lit .u8 1))
def wO06 : Tm := (.bin .eql (.app .u8 20 (.cons (.var .i64 4) .nil)) (.lit .u8 2))
def wO07 : Tm := (.bin .eql (.app .u8 20 (.cons (.var .i64 4) .nil)) (.lit .u8 3))
def wO08 : Tm := (.bin .eql (.app .u8 20 (.cons (.var .i64 4) .nil)) (.lit .u8 4))
def wO09 : Tm := (.bin .lss (.app .i64 21 (.cons (.var .i64 4) .nil)) (.lit .i64 0))
def wO010 : Tm := (.bin .geq (.app .i64 21 (.cons (.var .i64 4) .nil)) (.var .i64 6))
def wO011 : Tm := (.bin .geq (.app .i64 21 (.cons (.var .i64 4) .nil)) (.lit .i64 0))
def wO012 : Tm := (.bin .lss (.app .i64 21 (.cons (.var .i64 4) .nil)) (.var .i64 6))
def wO013 : Tm := (.bin .neq (.conv .u64 (.conv .u8 (.conv .u64 (.app .u8 61 (.cons (.app .i64 21 (.cons (.var .i64 4) .nil)) .nil))))) (.conv .u64 (.conv .u8 (.conv .u64 (.app .u8 61 (.cons (.app .i64 21 (.cons (.var .i64 4) .nil)) .nil))))))
def wO014 : Tm := (.bin .eql (.app .u8 20 (.cons (.var .i64 4) .nil)) (.lit .u8 6))
def wO015 : Tm := (.bin .geq (.app .i64 21 (.cons (.var .i64 4) .nil)) (.var .i64 5))
def wO016 : Tm := (.bin .lss (.app .i64 21 (.cons (.var .i64 4) .nil)) (.var .i64 5))
def wO017 : Tm := (.bin .neq (.app .u64 60 (.cons (.app .i64 21 (.cons (.var .i64 4) .nil)) .nil)) (.app .u64 60 (.cons (.app .i64 21 (.cons (.var .i64 4) .nil)) .nil)))
def wO018 : Tm := (.bin .neq (.app .u64 60 (.cons (.app .i64 21 (.cons (.var .i64 4) .nil)) .nil)) (.app .u64 22 (.cons (.var .i64 4) .nil)))
section
variable (S : Sy) (n : Nat)
abbrev RO0 : Sy → Sy → Prop := StepTo Try.prog ftO ΛO [] (cAt Try.prog lpO0) X0O F0O 8
def InvO0 (k : Nat) (S1 : Sy) : Prop := ∃ i : Nat, i ≤ n ∧ k = n - i ∧ S1.ρ 4 = i ∧ Stay [4, 7, 8] [60, 61] S S1
def FinO0 (k : Nat) (S1 : Sy) : Prop := k = 0 ∧ ∀ T, Same [5, 6, 7, 8] [60, 61] S1 T → StepOut Try.prog ftO ΛO [] (cAt Try.prog lpO0) X0O F0O (.exit 0) 8 S1 T
set_option maxHeartbeats 4000000 in
theorem stepO0 (hn : n < 9223372036854775807) (hb : S.ρ 1 = n) (hK0 : ∀ x ∈ S.I, x.f + x.ks.length ≤ 60) (k : Nat) (S1 : Sy) (hi : InvO0 S n k S1) : (∃ k' S2, k = k' + 1 ∧ InvO0 S n k' S2 ∧ RO0 S1 S2) ∨ FinO0 k S1 := by
  obtain ⟨i, hin, rfl, hiv, fr⟩ := hi
  have hcs : ∀ c ∈ ([] : List Ctr), CtrOk Try.prog S1 [] c := fun c hc => by simp at hc
  have hK : ∀ x ∈ S1.I, x.f + x.ks.length ≤ 60 := by rw [fr.1]; exact hK0
  have e1 := fr.num 1 rfl
  have e5 := fr.num 5 rfl
  have e6 := fr.num 6 rfl
  by_cases c0 : S1.ρ 4 < S1.ρ 1
  · have d0 : wO00.den S1 = some [b2i true] := tr (p := S1.ρ 4 < S1.ρ 1) c0
    have c1 : ¬ (S1.ρ 4 < (0 : Int)) := by omega
    have d1 : wO01.den S1 = some [b2i true] := tr (p := (0 : Int) ≤ S1.ρ 4) (Int.not_lt.1 c1)
    by_cases c2 : (S1.Φ 20 [S1.ρ 4]) < (1 : Int)
    · have d2 : wO02.den S1 = some [b2i false] := fls (p := (1 : Int) ≤ (S1.Φ 20 [S1.ρ 4])) (Int.not_le.2 c2)
      obtain ⟨o4, h_o4⟩ : ∃ o : Int, o = (IntKind.i64.wrap (S1.ρ 4 + (1 : Int))) := ⟨_, rfl⟩
      have u4 := h_o4
      rw [w_i64 (by omega) (by omega)] at u4
      have inv : InvO0 S n (n - (i + 1)) (S1.set (upd S1.ρ [(4, o4)]) [] 60 rfl hK) := ⟨i + 1, by omega, rfl, (show o4 = ((i + 1 : Nat) : Int) by omega), fr.set rfl rfl⟩
      exact .inl ⟨_, _, (by omega : n - i = n - (i + 1) + 1), inv, _, [], _, 1000, _, [], (ai wO02 false d2 (ai wO01 true d1 (ai wO00 true d0 (AlOk.nil _)))), hcs, LkOk.no _ _ _ _, (av 1 .i64 (an 4 (.bin .add (.var .i64 4) (.lit .i64 1)) (sm h_o4.symm) (av 5 .i64 (av 6 .i64 (av 5 .i64 (ar 60 (ar_var 60) (av 6 .i64 (ar 61 (ar_var 61) (av 6 .i64 (av 5 .i64 (av 7 .i64 (av 5 .i64 (ar 60 (ar_var 60) (av 6 .i64 (ar 61 (ar_var 61) (av 6 .i64 (av 5 .i64 (av 8 .i64 (asg_nil rfl))))))))))))))))))), fun G => by kernel_rfl⟩
    · have d2 : wO02.den S1 = some [b2i true] := tr (p := (1 : Int) ≤ (S1.Φ 20 [S1.ρ 4])) (Int.not_lt.1 c2)
      by_cases c3 : (6 : Int) < (S1.Φ 20 [S1.ρ 4])
      · have d3 : wO03.den S1 = some [b2i true] := tr (p := (b2i (decide ((S1.Φ 20 [S1.ρ 4]) ≤ (6 : Int)))) = 0) (by rw [decide_eq_false (Int.not_le.2 c3)]; decide)
        obtain ⟨o4, h_o4⟩ : ∃ o : Int, o = (IntKind.i64.wrap (S1.ρ 4 + (1 : Int))) := ⟨_, rfl⟩
        have u4 := h_o4
        rw [w_i64 (by omega) (by omega)] at u4
        have inv : InvO0 S n (n - (i + 1)) (S1.set (upd S1.ρ [(4, o4)]) [] 60 rfl hK) := ⟨i + 1, by omega, rfl, (show o4 = ((i + 1 : Nat) : Int) by omega), fr.set rfl rfl⟩
        exact .inl ⟨_, _, (by omega : n - i = n - (i + 1) + 1), inv, _, [], _, 1000, _, [], (ai wO03 true d3 (ai wO02 true d2 (ai wO01 true d1 (ai wO00 true d0 (AlOk.nil _))))), hcs, LkOk.no _ _ _ _, (av 1 .i64 (an 4 (.bin .add (.var .i64 4) (.lit .i64 1)) (sm h_o4.symm) (av 5 .i64 (av 6 .i64 (av 5 .i64 (ar 60 (ar_var 60) (av 6 .i64 (ar 61 (ar_var 61) (av 6 .i64 (av 5 .i64 (av 7 .i64 (av 5 .i64 (ar 60 (ar_var 60) (av 6 .i64 (ar 61 (ar_var 61) (av 6 .i64 (av 5 .i64 (av 8 .i64 (asg_nil rfl))))))))))))))))))), fun G => by kernel_rfl⟩
      · have d3 : wO03.den S1 = some [b2i false] := fls (p := (b2i (decide ((S1.Φ 20 [S1.ρ 4]) ≤ (6 : Int)))) = 0) (by rw [decide_eq_true (Int.not_lt.1 c3)]; decide)
        by_cases c4 : (S1.Φ 20 [S1.ρ 4]) = (5 : Int)
        · have d4 : wO04.den S1 = some [b2i true] := tr (p := (S1.Φ 20 [S1.ρ 4]) = (5 : Int)) c4
          have c5 : ¬ ((S1.Φ 20 [S1.ρ 4]) = (1 : Int)) := by omega
          have d5 : wO05.den S1 = some [b2i false] := fls (p := (S1.Φ 20 [S1.ρ 4]) = (1 : Int)) c5
          have c6 : ¬ ((S1.Φ 20 [S1.ρ 4]) = (2 : Int)) := by omega
          have d6 : wO06.den S1 = some [b2i false] := fls (p := (S1.Φ 20 [S1.ρ 4]) = (2 : Int)) c6
          have c7 : ¬ ((S1.Φ 20 [S1.ρ 4]) = (3 : Int)) := by omega
          have d7 : wO07.den S1 = some [b2i false] := fls (p := (S1.Φ 20 [S1.ρ 4]) = (3 : Int)) c7
          have c8 : ¬ ((S1.Φ 20 [S1.ρ 4]) = (4 : Int)) := by omega
          have d8 : wO08.den S1 = some [b2i false] := fls (p := (S1.Φ 20 [S1.ρ 4]) = (4 : Int)) c8
          by_cases c9 : (S1.Φ 21 [S1.ρ 4]) < (0 : Int)
          · have d9 : wO09.den S1 = some [b2i true] := tr (p := (S1.Φ 21 [S1.ρ 4]) < (0 : Int)) c9
            obtain ⟨o4, h_o4⟩ : ∃ o : Int, o = (IntKind.i64.wrap (S1.ρ 4 + (1 : Int))) := ⟨_, rfl⟩
            obtain ⟨o7, h_o7⟩ : ∃ o : Int, o = (IntKind.i64.wrap (S1.ρ 7 + (1 : Int))) := ⟨_, rfl⟩
            have u4 := h_o4
            rw [w_i64 (by omega) (by omega)] at u4
            have inv : InvO0 S n (n - (i + 1)) (S1.set (upd S1.ρ [(4, o4), (7, o7)]) [] 60 rfl hK) := ⟨i + 1, by omega, rfl, (show o4 = ((i + 1 : Nat) : Int) by omega), fr.set rfl rfl⟩
            exact .inl ⟨_, _, (by omega : n - i = n - (i + 1) + 1), inv, _, [], _, 1000, _, [], (ai wO09 true d9 (ai wO08 false d8 (ai wO07 false d7 (ai wO06 false d6 (ai wO05 false d5 (ai wO04 true d4 (ai wO03 false d3 (ai wO02 true d2 (ai wO01 true d1 (ai wO00 true d0 (AlOk.nil _))))))))))), hcs, LkOk.no _ _ _ _, (av 1 .i64 (an 4 (.bin .add (.var .i64 4) (.lit .i64 1)) (sm h_o4.symm) (av 5 .i64 (av 6 .i64 (av 5 .i64 (ar 60 (ar_var 60) (av 6 .i64 (ar 61 (ar_var 61) (av 6 .i64 (av 5 .i64 (an 7 (.bin .add (.var .i64 7) (.lit .i64 1)) (sm h_o7.symm) (av 5 .i64 (ar 60 (ar_var 60) (av 6 .i64 (ar 61 (ar_var 61) (av 6 .i64 (av 5 .i64 (av 8 .i64 (asg_nil rfl))))))))))))))))))), fun G => by kernel_rfl⟩
          · have d9 : wO09.den S1 = some [b2i false] := fls (p := (S1.Φ 21 [S1.ρ 4]) < (0 : Int)) c9
            by_cases c10 : (S1.Φ 21 [S1.ρ 4]) < S1.ρ 6
            · have d10 : wO010.den S1 = some [b2i false] := fls (p := S1.ρ 6 ≤ (S1.Φ 21 [S1.ρ 4])) (Int.not_le.2 c10)
              have d11 : wO011.den S1 = some [b2i true] := tr (p := (0 : Int) ≤ (S1.Φ 21 [S1.ρ 4])) (Int.not_lt.1 c9)
              have d12 : wO012.den S1 = some [b2i true] := tr (p := (S1.Φ 21 [S1.ρ 4]) < S1.ρ 6) c10
              have c13 : (IntKind.u64.wrap ((IntKind.u8.wrap ((IntKind.u64.wrap ((S1.Φ 61 [(S1.Φ 21 [S1.ρ 4])]))))))) = (IntKind.u64.wrap ((IntKind.u8.wrap ((IntKind.u64.wrap ((S1.Φ 61 [(S1.Φ 21 [S1.ρ 4])]))))))) := rfl
              have d13 : wO013.den S1 = some [b2i false] := fls (p := (IntKind.u64.wrap ((IntKind.u8.wrap ((IntKind.u64.wrap ((S1.Φ 61 [(S1.Φ 21 [S1.ρ 4])]))))))) ≠ (IntKind.u64.wrap ((IntKind.u8.wrap ((IntKind.u64.wrap ((S1.Φ 61 [(S1.Φ 21 [S1.ρ 4])])))))))) (fun hh => hh c13)
              obtain ⟨o4, h_o4⟩ : ∃ o : Int, o = (IntKind.i64.wrap (S1.ρ 4 + (1 : Int))) := ⟨_, rfl⟩
              obtain ⟨o7, h_o7⟩ : ∃ o : Int, o = (IntKind.i64.wrap (S1.ρ 7 + (1 : Int))) := ⟨_, rfl⟩
              obtain ⟨o8, h_o8⟩ : ∃ o : Int, o = (IntKind.i64.wrap (S1.ρ 8 + (1 : Int))) := ⟨_, rfl⟩
              have u4 := h_o4
              rw [w_i64 (by omega) (by omega)] at u4
              have inv : InvO0 S n (n - (i + 1)) (S1.set (upd S1.ρ [(4, o4), (7, o7), (8, o8)]) [] 60 rfl hK) := ⟨i + 1, by omega, rfl, (show o4 = ((i + 1 : Nat) : Int) by omega), fr.set rfl rfl⟩
              exact .inl ⟨_, _, (by omega : n - i = n - (i + 1) + 1), inv, _, [], _, 1000, _, [], (ai wO013 false d13 (ai wO012 true d12 (ai wO011 true d11 (ai wO010 false d10 (ai wO09 false d9 (ai wO08 false d8 (ai wO07 false d7 (ai wO06 false d6 (ai wO05 false d5 (ai wO04 true d4 (ai wO03 false d3 (ai wO02 true d2 (ai wO01 true d1 (ai wO00 true d0 (AlOk.nil _))))))))))))))), hcs, LkOk.no _ _ _ _, (av 1 .i64 (an 4 (.bin .add (.var .i64 4) (.lit .i64 1)) (sm h_o4.symm) (av 5 .i64 (av 6 .i64 (av 5 .i64 (ar 60 (ar_var 60) (av 6 .i64 (ar 61 (ar_var 61) (av 6 .i64 (av 5 .i64 (an 7 (.bin .add (.var .i64 7) (.lit .i64 1)) (sm h_o7.symm) (av 5 .i64 (ar 60 (ar_var 60) (av 6 .i64 (ar 61 (ar_var 61) (av 6 .i64 (av 5 .i64 (an 8 (.bin .add (.var .i64 8) (.lit .i64 1)) (sm h_o8.symm) (asg_nil rfl))))))))))))))))))), fun G => by kernel_rfl⟩
            · have d10 : wO010.den S1 = some [b2i true] := tr (p := S1.ρ 6 ≤ (S1.Φ 21 [S1.ρ 4])) (Int.not_lt.1 c10)
              obtain ⟨o4, h_o4⟩ : ∃ o : Int, o = (IntKind.i64.wrap (S1.ρ 4 + (1 : Int))) := ⟨_, rfl⟩
              obtain ⟨o7, h_o7⟩ : ∃ o : Int, o = (IntKind.i64.wrap (S1.ρ 7 + (1 : Int))) := ⟨_, rfl⟩
              have u4 := h_o4
              rw [w_i64 (by omega) (by omega)] at u4
              have inv : InvO0 S n (n - (i + 1)) (S1.set (upd S1.ρ [(4, o4), (7, o7)]) [] 60 rfl hK) := ⟨i + 1, by omega, rfl, (show o4 = ((i + 1 : Nat) : Int) by omega), fr.set rfl rfl⟩
              exact .inl ⟨_, _, (by omega : n - i = n - (i + 1) + 1), inv, _, [], _, 1000, _, [], (ai wO010 true d10 (ai wO09 false d9 (ai wO08 false d8 (ai wO07 false d7 (ai wO06 false d6 (ai wO05 false d5 (ai wO04 true d4 (ai wO03 false d3 (ai wO02 true d2 (ai wO01 true d1 (ai wO00 true d0 (AlOk.nil _)))))))))))), hcs, LkOk.no _ _ _ _, (av 1 .i64 (an 4 (.bin .add (.var .i64 4) (.lit .i64 1)) (sm h_o4.symm) (av 5 .i64 (av 6 .i64 (av 5 .i64 (ar 60 (ar_var 60) (av 6 .i64 (ar 61 (ar_var 61) (av 6 .i64 (av 5 .i64 (an 7 (.bin .add (.var .i64 7) (.lit .i64 1)) (sm h_o7.symm) (av 5 .i64 (ar 60 (ar_var 60) (av 6 .i64 (ar 61 (ar_var 61) (av 6 .i64 (av 5 .i64 (av 8 .i64 (asg_nil rfl))))))))))))))))))), fun G => by kernel_rfl⟩
        · have d4 : wO04.den S1 = some [b2i false] := fls (p := (S1.Φ 20 [S1.ρ 4]) = (5 : Int)) c4
          by_cases c5 : (S1.Φ 20 [S1.ρ 4]) = (6 : Int)
          · have d5 : wO014.den S1 = some [b2i true] := tr (p := (S1.Φ 20 [S1.ρ 4]) = (6 : Int)) c5
            have c6 : ¬ ((S1.Φ 20 [S1.ρ 4]) = (1 : Int)) := by omega
            have d6 : wO05.den S1 = some [b2i false] := fls (p := (S1.Φ 20 [S1.ρ 4]) = (1 : Int)) c6
            have c7 : ¬ ((S1.Φ 20 [S1.ρ 4]) = (2 : Int)) := by omega
            have d7 : wO06.den S1 = some [b2i false] := fls (p := (S1.Φ 20 [S1.ρ 4]) = (2 : Int)) c7
            have c8 : ¬ ((S1.Φ 20 [S1.ρ 4]) = (3 : Int)) := by omega
            have d8 : wO07.den S1 = some [b2i false] := fls (p := (S1.Φ 20 [S1.ρ 4]) = (3 : Int)) c8
            have c9 : ¬ ((S1.Φ 20 [S1.ρ 4]) = (4 : Int)) := by omega
            have d9 : wO08.den S1 = some [b2i false] := fls (p := (S1.Φ 20 [S1.ρ 4]) = (4 : Int)) c9
            by_cases c10 : (S1.Φ 21 [S1.ρ 4]) < (0 : Int)
            · have d10 : wO09.den S1 = some [b2i true] := tr (p := (S1.Φ 21 [S1.ρ 4]) < (0 : Int)) c10
              obtain ⟨o4, h_o4⟩ : ∃ o : Int, o = (IntKind.i64.wrap (S1.ρ 4 + (1 : Int))) := ⟨_, rfl⟩
              obtain ⟨o7, h_o7⟩ : ∃ o : Int, o = (IntKind.i64.wrap (S1.ρ 7 + (1 : Int))) := ⟨_, rfl⟩
              have u4 := h_o4
              rw [w_i64 (by omega) (by omega)] at u4
              have inv : InvO0 S n (n - (i + 1)) (S1.set (upd S1.ρ [(4, o4), (7, o7)]) [] 60 rfl hK) := ⟨i + 1, by omega, rfl, (show o4 = ((i + 1 : Nat) : Int) by omega), fr.set rfl rfl⟩
              exact .inl ⟨_, _, (by omega : n - i = n - (i + 1) + 1), inv, _, [], _, 1000, _, [], (ai wO09 true d10 (ai wO08 false d9 (ai wO07 false d8 (ai wO06 false d7 (ai wO05 false d6 (ai wO014 true d5 (ai wO04 false d4 (ai wO03 false d3 (ai wO02 true d2 (ai wO01 true d1 (ai wO00 true d0 (AlOk.nil _)))))))))))), hcs, LkOk.no _ _ _ _, (av 1 .i64 (an 4 (.bin .add (.var .i64 4) (.lit .i64 1)) (sm h_o4.symm) (av 5 .i64 (av 6 .i64 (av 5 .i64 (ar 60 (ar_var 60) (av 6 .i64 (ar 61 (ar_var 61) (av 6 .i64 (av 5 .i64 (an 7 (.bin .add (.var .i64 7) (.lit .i64 1)) (sm h_o7.symm) (av 5 .i64 (ar 60 (ar_var 60) (av 6 .i64 (ar 61 (ar_var 61) (av 6 .i64 (av 5 .i64 (av 8 .i64 (asg_nil rfl))))))))))))))))))), fun G => by kernel_rfl⟩
            · have d10 : wO09.den S1 = some [b2i false] := fls (p := (S1.Φ 21 [S1.ρ 4]) < (0 : Int)) c10
              by_cases c11 : (S1.Φ 21 [S1.ρ 4]) < S1.ρ 6
              · have d11 : wO010.den S1 = some [b2i false] := fls (p := S1.ρ 6 ≤ (S1.Φ 21 [S1.ρ 4])) (Int.not_le.2 c11)
                have d12 : wO011.den S1 = some [b2i true] := tr (p := (0 : Int) ≤ (S1.Φ 21 [S1.ρ 4])) (Int.not_lt.1 c10)
                have d13 : wO012.den S1 = some [b2i true] := tr (p := (S1.Φ 21 [S1.ρ 4]) < S1.ρ 6) c11
                obtain ⟨o4, h_o4⟩ : ∃ o : Int, o = (IntKind.i64.wrap (S1.ρ 4 + (1 : Int))) := ⟨_, rfl⟩
                obtain ⟨o7, h_o7⟩ : ∃ o : Int, o = (IntKind.i64.wrap (S1.ρ 7 + (1 : Int))) := ⟨_, rfl⟩
                obtain ⟨o8, h_o8⟩ : ∃ o : Int, o = (IntKind.i64.wrap (S1.ρ 8 + (1 : Int))) := ⟨_, rfl⟩
                have u4 := h_o4
                rw [w_i64 (by omega) (by omega)] at u4
                have inv : InvO0 S n (n - (i + 1)) (S1.set (upd S1.ρ [(4, o4), (7, o7), (8, o8)]) [(61, (fun j => ifE j (S1.Φ 21 [S1.ρ 4]) (IntKind.u8.wrap ((IntKind.u64.wrap ((IntKind.u8.wrap ((S1.Φ 22 [S1.ρ 4]))))))) ((fun j => S1.Φ 61 [j]) j)))] 60 rfl hK) := ⟨i + 1, by omega, rfl, (show o4 = ((i + 1 : Nat) : Int) by omega), fr.set rfl rfl⟩
                exact .inl ⟨_, _, (by omega : n - i = n - (i + 1) + 1), inv, _, [], _, 1000, _, [], (ai wO012 true d13 (ai wO011 true d12 (ai wO010 false d11 (ai wO09 false d10 (ai wO08 false d9 (ai wO07 false d8 (ai wO06 false d7 (ai wO05 false d6 (ai wO014 true d5 (ai wO04 false d4 (ai wO03 false d3 (ai wO02 true d2 (ai wO01 true d1 (ai wO00 true d0 (AlOk.nil _))))))))))))))), hcs, LkOk.no _ _ _ _, (av 1 .i64 (an 4 (.bin .add (.var .i64 4) (.lit .i64 1)) (sm h_o4.symm) (av 5 .i64 (av 6 .i64 (av 5 .i64 (ar 60 (ar_var 60) (av 6 .i64 (ar 61 (ar_upd (.app .i64 21 (.cons (.var .i64 4) .nil)) (.conv .u8 (.conv .u64 (.conv .u8 (.app .u64 22 (.cons (.var .i64 4) .nil))))) (i := (S1.Φ 21 [S1.ρ 4])) (v := (IntKind.u8.wrap ((IntKind.u64.wrap ((IntKind.u8.wrap ((S1.Φ 22 [S1.ρ 4])))))))) rfl rfl (by kernel_rfl) (ar_var 61)) (av 6 .i64 (av 5 .i64 (an 7 (.bin .add (.var .i64 7) (.lit .i64 1)) (sm h_o7.symm) (av 5 .i64 (ar 60 (ar_var 60) (av 6 .i64 (ar 61 (ar_upd (.app .i64 21 (.cons (.var .i64 4) .nil)) (.conv .u8 (.conv .u64 (.conv .u8 (.app .u64 22 (.cons (.var .i64 4) .nil))))) (i := (S1.Φ 21 [S1.ρ 4])) (v := (IntKind.u8.wrap ((IntKind.u64.wrap ((IntKind.u8.wrap ((S1.Φ 22 [S1.ρ 4])))))))) rfl rfl (by kernel_rfl) (ar_var 61)) (av 6 .i64 (av 5 .i64 (an 8 (.bin .add (.var .i64 8) (.lit .i64 1)) (sm h_o8.symm) (asg_nil rfl))))))))))))))))))), fun G => by kernel_rfl⟩
              · have d11 : wO010.den S1 = some [b2i true] := tr (p := S1.ρ 6 ≤ (S1.Φ 21 [S1.ρ 4])) (Int.not_lt.1 c11)
                obtain ⟨o4, h_o4⟩ : ∃ o : Int, o = (IntKind.i64.wrap (S1.ρ 4 + (1 : Int))) := ⟨_, rfl⟩
                obtain ⟨o7, h_o7⟩ : ∃ o : Int, o = (IntKind.i64.wrap (S1.ρ 7 + (1 : Int))) := ⟨_, rfl⟩
                have u4 := h_o4
                rw [w_i64 (by omega) (by omega)] at u4
                have inv : InvO0 S n (n - (i + 1)) (S1.set (upd S1.ρ [(4, o4), (7, o7)]) [] 60 rfl hK) := ⟨i + 1, by omega, rfl, (show o4 = ((i + 1 : Nat) : Int) by omega), fr.set rfl rfl⟩
                exact .inl ⟨_, _, (by omega : n - i = n - (i + 1) + 1), inv, _, [], _, 1000, _, [], (ai wO010 true d11 (ai wO09 false d10 (ai wO08 false d9 (ai wO07 false d8 (ai wO06 false d7 (ai wO05 false d6 (ai wO014 true d5 (ai wO04 false d4 (ai wO03 false d3 (ai wO02 true d2 (ai wO01 true d1 (ai wO00 true d0 (AlOk.nil _))))))))))))), hcs, LkOk.no _ _ _ _, (av 1 .i64 (an 4 (.bin .add (.var .i64 4) (.lit .i64 1)) (sm h_o4.symm) (av 5 .i64 (av 6 .i64 (av 5 .i64 (ar 60 (ar_var 60) (av 6 .i64 (ar 61 (ar_var 61) (av 6 .i64 (av 5 .i64 (an 7 (.bin .add (.var .i64 7) (.lit .i64 1)) (sm h_o7.symm) (av 5 .i64 (ar 60 (ar_var 60) (av 6 .i64 (ar 61 (ar_var 61) (av 6 .i64 (av 5 .i64 (av 8 .i64 (asg_nil rfl))))))))))))))))))), fun G => by kernel_rfl⟩
          · have d5 : wO014.den S1 = some [b2i false] := fls (p := (S1.Φ 20 [S1.ρ 4]) = (6 : Int)) c5
            by_cases c6 : (S1.Φ 20 [S1.ρ 4]) = (1 : Int)
            · have d6 : wO05.den S1 = some [b2i true] := tr (p := (S1.Φ 20 [S1.ρ 4]) = (1 : Int)) c6
              by_cases c7 : (S1.Φ 21 [S1.ρ 4]) < (0 : Int)
              · have d7 : wO09.den S1 = some [b2i true] := tr (p := (S1.Φ 21 [S1.ρ 4]) < (0 : Int)) c7
                obtain ⟨o4, h_o4⟩ : ∃ o : Int, o = (IntKind.i64.wrap (S1.ρ 4 + (1 : Int))) := ⟨_, rfl⟩
                obtain ⟨o7, h_o7⟩ : ∃ o : Int, o = (IntKind.i64.wrap (S1.ρ 7 + (1 : Int))) := ⟨_, rfl⟩
                have u4 := h_o4
                rw [w_i64 (by omega) (by omega)] at u4
                have inv : InvO0 S n (n - (i + 1)) (S1.set (upd S1.ρ [(4, o4), (7, o7)]) [] 60 rfl hK) := ⟨i + 1, by omega, rfl, (show o4 = ((i + 1 : Nat) : Int) by omega), fr.set rfl rfl⟩
                exact .inl ⟨_, _, (by omega : n - i = n - (i + 1) + 1), inv, _, [], _, 1000, _, [], (ai wO09 true d7 (ai wO05 true d6 (ai wO014 false d5 (ai wO04 false d4 (ai wO03 false d3 (ai wO02 true d2 (ai wO01 true d1 (ai wO00 true d0 (AlOk.nil _))))))))), hcs, LkOk.no _ _ _ _, (av 1 .i64 (an 4 (.bin .add (.var .i64 4) (.lit .i64 1)) (sm h_o4.symm) (av 5 .i64 (av 6 .i64 (av 5 .i64 (ar 60 (ar_var 60) (av 6 .i64 (ar 61 (ar_var 61) (av 6 .i64 (av 5 .i64 (an 7 (.bin .add (.var .i64 7) (.lit .i64 1)) (sm h_o7.symm) (av 5 .i64 (ar 60 (ar_var 60) (av 6 .i64 (ar 61 (ar_var 61) (av 6 .i64 (av 5 .i64 (av 8 .i64 (asg_nil rfl))))))))))))))))))), fun G => by kernel_rfl⟩
              · have d7 : wO09.den S1 = some [b2i false] := fls (p := (S1.Φ 21 [S1.ρ 4]) < (0 : Int)) c7
                by_cases c8 : (S1.Φ 21 [S1.ρ 4]) < S1.ρ 5
                · have d8 : wO015.den S1 = some [b2i false] := fls (p := S1.ρ 5 ≤ (S1.Φ 21 [S1.ρ 4])) (Int.not_le.2 c8)
                  have d9 : wO011.den S1 = some [b2i true] := tr (p := (0 : Int) ≤ (S1.Φ 21 [S1.ρ 4])) (Int.not_lt.1 c7)
                  have d10 : wO016.den S1 = some [b2i true] := tr (p := (S1.Φ 21 [S1.ρ 4]) < S1.ρ 5) c8
                  have c11 : (S1.Φ 60 [(S1.Φ 21 [S1.ρ 4])]) = (S1.Φ 60 [(S1.Φ 21 [S1.ρ 4])]) := rfl
                  have d11 : wO017.den S1 = some [b2i false] := fls (p := (S1.Φ 60 [(S1.Φ 21 [S1.ρ 4])]) ≠ (S1.Φ 60 [(S1.Φ 21 [S1.ρ 4])])) (fun hh => hh c11)
                  obtain ⟨o4, h_o4⟩ : ∃ o : Int, o = (IntKind.i64.wrap (S1.ρ 4 + (1 : Int))) := ⟨_, rfl⟩
                  obtain ⟨o7, h_o7⟩ : ∃ o : Int, o = (IntKind.i64.wrap (S1.ρ 7 + (1 : Int))) := ⟨_, rfl⟩
                  obtain ⟨o8, h_o8⟩ : ∃ o : Int, o = (IntKind.i64.wrap (S1.ρ 8 + (1 : Int))) := ⟨_, rfl⟩
                  have u4 := h_o4
                  rw [w_i64 (by omega) (by omega)] at u4
                  have inv : InvO0 S n (n - (i + 1)) (S1.set (upd S1.ρ [(4, o4), (7, o7), (8, o8)]) [] 60 rfl hK) := ⟨i + 1, by omega, rfl, (show o4 = ((i + 1 : Nat) : Int) by omega), fr.set rfl rfl⟩
                  exact .inl ⟨_, _, (by omega : n - i = n - (i + 1) + 1), inv, _, [], _, 1000, _, [], (ai wO017 false d11 (ai wO016 true d10 (ai wO011 true d9 (ai wO015 false d8 (ai wO09 false d7 (ai wO05 true d6 (ai wO014 false d5 (ai wO04 false d4 (ai wO03 false d3 (ai wO02 true d2 (ai wO01 true d1 (ai wO00 true d0 (AlOk.nil _))))))))))))), hcs, LkOk.no _ _ _ _, (av 1 .i64 (an 4 (.bin .add (.var .i64 4) (.lit .i64 1)) (sm h_o4.symm) (av 5 .i64 (av 6 .i64 (av 5 .i64 (ar 60 (ar_var 60) (av 6 .i64 (ar 61 (ar_var 61) (av 6 .i64 (av 5 .i64 (an 7 (.bin .add (.var .i64 7) (.lit .i64 1)) (sm h_o7.symm) (av 5 .i64 (ar 60 (ar_var 60) (av 6 .i64 (ar 61 (ar_var 61) (av 6 .i64 (av 5 .i64 (an 8 (.bin .add (.var .i64 8) (.lit .i64 1)) (sm h_o8.symm) (asg_nil rfl))))))))))))))))))), fun G => by kernel_rfl⟩
                · have d8 : wO015.den S1 = some [b2i true] := tr (p := S1.ρ 5 ≤ (S1.Φ 21 [S1.ρ 4])) (Int.not_lt.1 c8)
                  obtain ⟨o4, h_o4⟩ : ∃ o : Int, o = (IntKind.i64.wrap (S1.ρ 4 + (1 : Int))) := ⟨_, rfl⟩
                  obtain ⟨o7, h_o7⟩ : ∃ o : Int, o = (IntKind.i64.wrap (S1.ρ 7 + (1 : Int))) := ⟨_, rfl⟩
                  have u4 := h_o4
                  rw [w_i64 (by omega) (by omega)] at u4
                  have inv : InvO0 S n (n - (i + 1)) (S1.set (upd S1.ρ [(4, o4), (7, o7)]) [] 60 rfl hK) := ⟨i + 1, by omega, rfl, (show o4 = ((i + 1 : Nat) : Int) by omega), fr.set rfl rfl⟩
                  exact .inl ⟨_, _, (by omega : n - i = n - (i + 1) + 1), inv, _, [], _, 1000, _, [], (ai wO015 true d8 (ai wO09 false d7 (ai wO05 true d6 (ai wO014 false d5 (ai wO04 false d4 (ai wO03 false d3 (ai wO02 true d2 (ai wO01 true d1 (ai wO00 true d0 (AlOk.nil _)))))))))), hcs, LkOk.no _ _ _ _, (av 1 .i64 (an 4 (.bin .add (.var .i64 4) (.lit .i64 1)) (sm h_o4.symm) (av 5 .i64 (av 6 .i64 (av 5 .i64 (ar 60 (ar_var 60) (av 6 .i64 (ar 61 (ar_var 61) (av 6 .i64 (av 5 .i64 (an 7 (.bin .add (.var .i64 7) (.lit .i64 1)) (sm h_o7.symm) (av 5 .i64 (ar 60 (ar_var 60) (av 6 .i64 (ar 61 (ar_var 61) (av 6 .i64 (av 5 .i64 (av 8 .i64 (asg_nil rfl))))))))))))))))))), fun G => by kernel_rfl⟩
            · have d6 : wO05.den S1 = some [b2i false] := fls (p := (S1.Φ 20 [S1.ρ 4]) = (1 : Int)) c6
              by_cases c7 : (S1.Φ 20 [S1.ρ 4]) = (2 : Int)
              · have d7 : wO06.den S1 = some [b2i true] := tr (p := (S1.Φ 20 [S1.ρ 4]) = (2 : Int)) c7
                by_cases c8 : (S1.Φ 21 [S1.ρ 4]) < (0 : Int)
                · have d8 : wO09.den S1 = some [b2i true] := tr (p := (S1.Φ 21 [S1.ρ 4]) < (0 : Int)) c8
                  obtain ⟨o4, h_o4⟩ : ∃ o : Int, o = (IntKind.i64.wrap (S1.ρ 4 + (1 : Int))) := ⟨_, rfl⟩
                  obtain ⟨o7, h_o7⟩ : ∃ o : Int, o = (IntKind.i64.wrap (S1.ρ 7 + (1 : Int))) := ⟨_, rfl⟩
                  have u4 := h_o4
                  rw [w_i64 (by omega) (by omega)] at u4
                  have inv : InvO0 S n (n - (i + 1)) (S1.set (upd S1.ρ [(4, o4), (7, o7)]) [] 60 rfl hK) := ⟨i + 1, by omega, rfl, (show o4 = ((i + 1 : Nat) : Int) by omega), fr.set rfl rfl⟩
                  exact .inl ⟨_, _, (by omega : n - i = n - (i + 1) + 1), inv, _, [], _, 1000, _, [], (ai wO09 true d8 (ai wO06 true d7 (ai wO05 false d6 (ai wO014 false d5 (ai wO04 false d4 (ai wO03 false d3 (ai wO02 true d2 (ai wO01 true d1 (ai wO00 true d0 (AlOk.nil _)))))))))), hcs, LkOk.no _ _ _ _, (av 1 .i64 (an 4 (.bin .add (.var .i64 4) (.lit .i64 1)) (sm h_o4.symm) (av 5 .i64 (av 6 .i64 (av 5 .i64 (ar 60 (ar_var 60) (av 6 .i64 (ar 61 (ar_var 61) (av 6 .i64 (av 5 .i64 (an 7 (.bin .add (.var .i64 7) (.lit .i64 1)) (sm h_o7.symm) (av 5 .i64 (ar 60 (ar_var 60) (av 6 .i64 (ar 61 (ar_var 61) (av 6 .i64 (av 5 .i64 (av 8 .i64 (asg_nil rfl))))))))))))))))))), fun G => by kernel_rfl⟩
                · have d8 : wO09.den S1 = some [b2i false] := fls (p := (S1.Φ 21 [S1.ρ 4]) < (0 : Int)) c8
                  by_cases c9 : (S1.Φ 21 [S1.ρ 4]) < S1.ρ 5
                  · have d9 : wO015.den S1 = some [b2i false] := fls (p := S1.ρ 5 ≤ (S1.Φ 21 [S1.ρ 4])) (Int.not_le.2 c9)
                    have d10 : wO011.den S1 = some [b2i true] := tr (p := (0 : Int) ≤ (S1.Φ 21 [S1.ρ 4])) (Int.not_lt.1 c8)
                    have d11 : wO016.den S1 = some [b2i true] := tr (p := (S1.Φ 21 [S1.ρ 4]) < S1.ρ 5) c9
                    obtain ⟨o4, h_o4⟩ : ∃ o : Int, o = (IntKind.i64.wrap (S1.ρ 4 + (1 : Int))) := ⟨_, rfl⟩
                    obtain ⟨o7, h_o7⟩ : ∃ o : Int, o = (IntKind.i64.wrap (S1.ρ 7 + (1 : Int))) := ⟨_, rfl⟩
                    obtain ⟨o8, h_o8⟩ : ∃ o : Int, o = (IntKind.i64.wrap (S1.ρ 8 + (1 : Int))) := ⟨_, rfl⟩
                    have u4 := h_o4
                    rw [w_i64 (by omega) (by omega)] at u4
                    have inv : InvO0 S n (n - (i + 1)) (S1.set (upd S1.ρ [(4, o4), (7, o7), (8, o8)]) [(60, (fun j => ifE j (S1.Φ 21 [S1.ρ 4]) (S1.Φ 22 [S1.ρ 4]) ((fun j => S1.Φ 60 [j]) j)))] 60 rfl hK) := ⟨i + 1, by omega, rfl, (show o4 = ((i + 1 : Nat) : Int) by omega), fr.set rfl rfl⟩
                    exact .inl ⟨_, _, (by omega : n - i = n - (i + 1) + 1), inv, _, [], _, 1000, _, [], (ai wO016 true d11 (ai wO011 true d10 (ai wO015 false d9 (ai wO09 false d8 (ai wO06 true d7 (ai wO05 false d6 (ai wO014 false d5 (ai wO04 false d4 (ai wO03 false d3 (ai wO02 true d2 (ai wO01 true d1 (ai wO00 true d0 (AlOk.nil _))))))))))))), hcs, LkOk.no _ _ _ _, (av 1 .i64 (an 4 (.bin .add (.var .i64 4) (.lit .i64 1)) (sm h_o4.symm) (av 5 .i64 (av 6 .i64 (av 5 .i64 (ar 60 (ar_upd (.app .i64 21 (.cons (.var .i64 4) .nil)) (.app .u64 22 (.cons (.var .i64 4) .nil)) (i := (S1.Φ 21 [S1.ρ 4])) (v := (S1.Φ 22 [S1.ρ 4])) rfl rfl (by kernel_rfl) (ar_var 60)) (av 6 .i64 (ar 61 (ar_var 61) (av 6 .i64 (av 5 .i64 (an 7 (.bin .add (.var .i64 7) (.lit .i64 1)) (sm h_o7.symm) (av 5 .i64 (ar 60 (ar_upd (.app .i64 21 (.cons (.var .i64 4) .nil)) (.app .u64 22 (.cons (.var .i64 4) .nil)) (i := (S1.Φ 21 [S1.ρ 4])) (v := (S1.Φ 22 [S1.ρ 4])) rfl rfl (by kernel_rfl) (ar_var 60)) (av 6 .i64 (ar 61 (ar_var 61) (av 6 .i64 (av 5 .i64 (an 8 (.bin .add (.var .i64 8) (.lit .i64 1)) (sm h_o8.symm) (asg_nil rfl))))))))))))))))))), fun G => by kernel_rfl⟩
                  · have d9 : wO015.den S1 = some [b2i true] := tr (p := S1.ρ 5 ≤ (S1.Φ 21 [S1.ρ 4])) (Int.not_lt.1 c9)
                    obtain ⟨o4, h_o4⟩ : ∃ o : Int, o = (IntKind.i64.wrap (S1.ρ 4 + (1 : Int))) := ⟨_, rfl⟩
                    obtain ⟨o7, h_o7⟩ : ∃ o : Int, o = (IntKind.i64.wrap (S1.ρ 7 + (1 : Int))) := ⟨_, rfl⟩
                    have u4 := h_o4
                    rw [w_i64 (by omega) (by omega)] at u4
                    have inv : InvO0 S n (n - (i + 1)) (S1.set (upd S1.ρ [(4, o4), (7, o7)]) [] 60 rfl hK) := ⟨i + 1, by omega, rfl, (show o4 = ((i + 1 : Nat) : Int) by omega), fr.set rfl rfl⟩
                    exact .inl ⟨_, _, (by omega : n - i = n - (i + 1) + 1), inv, _, [], _, 1000, _, [], (ai wO015 true d9 (ai wO09 false d8 (ai wO06 true d7 (ai wO05 false d6 (ai wO014 false d5 (ai wO04 false d4 (ai wO03 false d3 (ai wO02 true d2 (ai wO01 true d1 (ai wO00 true d0 (AlOk.nil _))))))))))), hcs, LkOk.no _ _ _ _, (av 1 .i64 (an 4 (.bin .add (.var .i64 4) (.lit .i64 1)) (sm h_o4.symm) (av 5 .i64 (av 6 .i64 (av 5 .i64 (ar 60 (ar_var 60) (av 6 .i64 (ar 61 (ar_var 61) (av 6 .i64 (av 5 .i64 (an 7 (.bin .add (.var .i64 7) (.lit .i64 1)) (sm h_o7.symm) (av 5 .i64 (ar 60 (ar_var 60) (av 6 .i64 (ar 61 (ar_var 61) (av 6 .i64 (av 5 .i64 (av 8 .i64 (asg_nil rfl))))))))))))))))))), fun G => by kernel_rfl⟩
              · have d7 : wO06.den S1 = some [b2i false] := fls (p := (S1.Φ 20 [S1.ρ 4]) = (2 : Int)) c7
                by_cases c8 : (S1.Φ 20 [S1.ρ 4]) = (3 : Int)
                · have d8 : wO07.den S1 = some [b2i true] := tr (p := (S1.Φ 20 [S1.ρ 4]) = (3 : Int)) c8
                  by_cases c9 : (S1.Φ 21 [S1.ρ 4]) < (0 : Int)
                  · have d9 : wO09.den S1 = some [b2i true] := tr (p := (S1.Φ 21 [S1.ρ 4]) < (0 : Int)) c9
                    obtain ⟨o4, h_o4⟩ : ∃ o : Int, o = (IntKind.i64.wrap (S1.ρ 4 + (1 : Int))) := ⟨_, rfl⟩
                    obtain ⟨o7, h_o7⟩ : ∃ o : Int, o = (IntKind.i64.wrap (S1.ρ 7 + (1 : Int))) := ⟨_, rfl⟩
                    have u4 := h_o4
                    rw [w_i64 (by omega) (by omega)] at u4
                    have inv : InvO0 S n (n - (i + 1)) (S1.set (upd S1.ρ [(4, o4), (7, o7)]) [] 60 rfl hK) := ⟨i + 1, by omega, rfl, (show o4 = ((i + 1 : Nat) : Int) by omega), fr.set rfl rfl⟩
                    exact .inl ⟨_, _, (by omega : n - i = n - (i + 1) + 1), inv, _, [], _, 1000, _, [], (ai wO09 true d9 (ai wO07 true d8 (ai wO06 false d7 (ai wO05 false d6 (ai wO014 false d5 (ai wO04 false d4 (ai wO03 false d3 (ai wO02 true d2 (ai wO01 true d1 (ai wO00 true d0 (AlOk.nil _))))))))))), hcs, LkOk.no _ _ _ _, (av 1 .i64 (an 4 (.bin .add (.var .i64 4) (.lit .i64 1)) (sm h_o4.symm) (av 5 .i64 (av 6 .i64 (av 5 .i64 (ar 60 (ar_var 60) (av 6 .i64 (ar 61 (ar_var 61) (av 6 .i64 (av 5 .i64 (an 7 (.bin .add (.var .i64 7) (.lit .i64 1)) (sm h_o7.symm) (av 5 .i64 (ar 60 (ar_var 60) (av 6 .i64 (ar 61 (ar_var 61) (av 6 .i64 (av 5 .i64 (av 8 .i64 (asg_nil rfl))))))))))))))))))), fun G => by kernel_rfl⟩
                  · have d9 : wO09.den S1 = some [b2i false] := fls (p := (S1.Φ 21 [S1.ρ 4]) < (0 : Int)) c9
                    by_cases c10 : (S1.Φ 21 [S1.ρ 4]) < S1.ρ 5
                    · have d10 : wO015.den S1 = some [b2i false] := fls (p := S1.ρ 5 ≤ (S1.Φ 21 [S1.ρ 4])) (Int.not_le.2 c10)
                      have d11 : wO011.den S1 = some [b2i true] := tr (p := (0 : Int) ≤ (S1.Φ 21 [S1.ρ 4])) (Int.not_lt.1 c9)
                      have d12 : wO016.den S1 = some [b2i true] := tr (p := (S1.Φ 21 [S1.ρ 4]) < S1.ρ 5) c10
                      by_cases c13 : (S1.Φ 60 [(S1.Φ 21 [S1.ρ 4])]) = (S1.Φ 22 [S1.ρ 4])
                      · have d13 : wO018.den S1 = some [b2i false] := fls (p := (S1.Φ 60 [(S1.Φ 21 [S1.ρ 4])]) ≠ (S1.Φ 22 [S1.ρ 4])) (fun hh => hh c13)
                        obtain ⟨o4, h_o4⟩ : ∃ o : Int, o = (IntKind.i64.wrap (S1.ρ 4 + (1 : Int))) := ⟨_, rfl⟩
                        obtain ⟨o7, h_o7⟩ : ∃ o : Int, o = (IntKind.i64.wrap (S1.ρ 7 + (1 : Int))) := ⟨_, rfl⟩
                        obtain ⟨o8, h_o8⟩ : ∃ o : Int, o = (IntKind.i64.wrap (S1.ρ 8 + (1 : Int))) := ⟨_, rfl⟩
                        have u4 := h_o4
                        rw [w_i64 (by omega) (by omega)] at u4
                        have inv : InvO0 S n (n - (i + 1)) (S1.set (upd S1.ρ [(4, o4), (7, o7), (8, o8)]) [(60, (fun j => ifE j (S1.Φ 21 [S1.ρ 4]) (S1.Φ 23 [S1.ρ 4]) ((fun j => S1.Φ 60 [j]) j)))] 60 rfl hK) := ⟨i + 1, by omega, rfl, (show o4 = ((i + 1 : Nat) : Int) by omega), fr.set rfl rfl⟩
                        exact .inl ⟨_, _, (by omega : n - i = n - (i + 1) + 1), inv, _, [], _, 1000, _, [], (ai wO018 false d13 (ai wO016 true d12 (ai wO011 true d11 (ai wO015 false d10 (ai wO09 false d9 (ai wO07 true d8 (ai wO06 false d7 (ai wO05 false d6 (ai wO014 false d5 (ai wO04 false d4 (ai wO03 false d3 (ai wO02 true d2 (ai wO01 true d1 (ai wO00 true d0 (AlOk.nil _))))))))))))))), hcs, LkOk.no _ _ _ _, (av 1 .i64 (an 4 (.bin .add (.var .i64 4) (.lit .i64 1)) (sm h_o4.symm) (av 5 .i64 (av 6 .i64 (av 5 .i64 (ar 60 (ar_upd (.app .i64 21 (.cons (.var .i64 4) .nil)) (.app .u64 23 (.cons (.var .i64 4) .nil)) (i := (S1.Φ 21 [S1.ρ 4])) (v := (S1.Φ 23 [S1.ρ 4])) rfl rfl (by kernel_rfl) (ar_var 60)) (av 6 .i64 (ar 61 (ar_var 61) (av 6 .i64 (av 5 .i64 (an 7 (.bin .add (.var .i64 7) (.lit .i64 1)) (sm h_o7.symm) (av 5 .i64 (ar 60 (ar_upd (.app .i64 21 (.cons (.var .i64 4) .nil)) (.app .u64 23 (.cons (.var .i64 4) .nil)) (i := (S1.Φ 21 [S1.ρ 4])) (v := (S1.Φ 23 [S1.ρ 4])) rfl rfl (by kernel_rfl) (ar_var 60)) (av 6 .i64 (ar 61 (ar_var 61) (av 6 .i64 (av 5 .i64 (an 8 (.bin .add (.var .i64 8) (.lit .i64 1)) (sm h_o8.symm) (asg_nil rfl))))))))))))))))))), fun G => by kernel_rfl⟩
                      · have d13 : wO018.den S1 = some [b2i true] := tr (p := (S1.Φ 60 [(S1.Φ 21 [S1.ρ 4])]) ≠ (S1.Φ 22 [S1.ρ 4])) c13
                        obtain ⟨o4, h_o4⟩ : ∃ o : Int, o = (IntKind.i64.wrap (S1.ρ 4 + (1 : Int))) := ⟨_, rfl⟩
                        obtain ⟨o7, h_o7⟩ : ∃ o : Int, o = (IntKind.i64.wrap (S1.ρ 7 + (1 : Int))) := ⟨_, rfl⟩
                        obtain ⟨o8, h_o8⟩ : ∃ o : Int, o = (IntKind.i64.wrap (S1.ρ 8 + (1 : Int))) := ⟨_, rfl⟩
                        have u4 := h_o4
                        rw [w_i64 (by omega) (by omega)] at u4
                        have inv : InvO0 S n (n - (i + 1)) (S1.set (upd S1.ρ [(4, o4), (7, o7), (8, o8)]) [] 60 rfl hK) := ⟨i + 1, by omega, rfl, (show o4 = ((i + 1 : Nat) : Int) by omega), fr.set rfl rfl⟩
                        exact .inl ⟨_, _, (by omega : n - i = n - (i + 1) + 1), inv, _, [], _, 1000, _, [], (ai wO018 true d13 (ai wO016 true d12 (ai wO011 true d11 (ai wO015 false d10 (ai wO09 false d9 (ai wO07 true d8 (ai wO06 false d7 (ai wO05 false d6 (ai wO014 false d5 (ai wO04 false d4 (ai wO03 false d3 (ai wO02 true d2 (ai wO01 true d1 (ai wO00 true d0 (AlOk.nil _))))))))))))))), hcs, LkOk.no _ _ _ _, (av 1 .i64 (an 4 (.bin .add (.var .i64 4) (.lit .i64 1)) (sm h_o4.symm) (av 5 .i64 (av 6 .i64 (av 5 .i64 (ar 60 (ar_var 60) (av 6 .i64 (ar 61 (ar_var 61) (av 6 .i64 (av 5 .i64 (an 7 (.bin .add (.var .i64 7) (.lit .i64 1)) (sm h_o7.symm) (av 5 .i64 (ar 60 (ar_var 60) (av 6 .i64 (ar 61 (ar_var 61) (av 6 .i64 (av 5 .i64 (an 8 (.bin .add (.var .i64 8) (.lit .i64 1)) (sm h_o8.symm) (asg_nil rfl))))))))))))))))))), fun G => by kernel_rfl⟩
                    · have d10 : wO015.den S1 = some [b2i true] := tr (p := S1.ρ 5 ≤ (S1.Φ 21 [S1.ρ 4])) (Int.not_lt.1 c10)
                      obtain ⟨o4, h_o4⟩ : ∃ o : Int, o = (IntKind.i64.wrap (S1.ρ 4 + (1 : Int))) := ⟨_, rfl⟩
                      obtain ⟨o7, h_o7⟩ : ∃ o : Int, o = (IntKind.i64.wrap (S1.ρ 7 + (1 : Int))) := ⟨_, rfl⟩
                      have u4 := h_o4
                      rw [w_i64 (by omega) (by omega)] at u4
                      have inv : InvO0 S n (n - (i + 1)) (S1.set (upd S1.ρ [(4, o4), (7, o7)]) [] 60 rfl hK) := ⟨i + 1, by omega, rfl, (show o4 = ((i + 1 : Nat) : Int) by omega), fr.set rfl rfl⟩
                      exact .inl ⟨_, _, (by omega : n - i = n - (i + 1) + 1), inv, _, [], _, 1000, _, [], (ai wO015 true d10 (ai wO09 false d9 (ai wO07 true d8 (ai wO06 false d7 (ai wO05 false d6 (ai wO014 false d5 (ai wO04 false d4 (ai wO03 false d3 (ai wO02 true d2 (ai wO01 true d1 (ai wO00 true d0 (AlOk.nil _)))))))))))), hcs, LkOk.no _ _ _ _, (av 1 .i64 (an 4 (.bin .add (.var .i64 4) (.lit .i64 1)) (sm h_o4.symm) (av 5 .i64 (av 6 .i64 (av 5 .i64 (ar 60 (ar_var 60) (av 6 .i64 (ar 61 (ar_var 61) (av 6 .i64 (av 5 .i64 (an 7 (.bin .add (.var .i64 7) (.lit .i64 1)) (sm h_o7.symm) (av 5 .i64 (ar 60 (ar_var 60) (av 6 .i64 (ar 61 (ar_var 61) (av 6 .i64 (av 5 .i64 (av 8 .i64 (asg_nil rfl))))))))))))))))))), fun G => by kernel_rfl⟩
                · have d8 : wO07.den S1 = some [b2i false] := fls (p := (S1.Φ 20 [S1.ρ 4]) = (3 : Int)) c8
                  by_cases c9 : (S1.Φ 20 [S1.ρ 4]) = (4 : Int)
                  · have d9 : wO08.den S1 = some [b2i true] := tr (p := (S1.Φ 20 [S1.ρ 4]) = (4 : Int)) c9
                    by_cases c10 : (S1.Φ 21 [S1.ρ 4]) < (0 : Int)
                    · have d10 : wO09.den S1 = some [b2i true] := tr (p := (S1.Φ 21 [S1.ρ 4]) < (0 : Int)) c10
                      obtain ⟨o4, h_o4⟩ : ∃ o : Int, o = (IntKind.i64.wrap (S1.ρ 4 + (1 : Int))) := ⟨_, rfl⟩
                      obtain ⟨o7, h_o7⟩ : ∃ o : Int, o = (IntKind.i64.wrap (S1.ρ 7 + (1 : Int))) := ⟨_, rfl⟩
                      have u4 := h_o4
                      rw [w_i64 (by omega) (by omega)] at u4
                      have inv : InvO0 S n (n - (i + 1)) (S1.set (upd S1.ρ [(4, o4), (7, o7)]) [] 60 rfl hK) := ⟨i + 1, by omega, rfl, (show o4 = ((i + 1 : Nat) : Int) by omega), fr.set rfl rfl⟩
                      exact .inl ⟨_, _, (by omega : n - i = n - (i + 1) + 1), inv, _, [], _, 1000, _, [], (ai wO09 true d10 (ai wO08 true d9 (ai wO07 false d8 (ai wO06 false d7 (ai wO05 false d6 (ai wO014 false d5 (ai wO04 false d4 (ai wO03 false d3 (ai wO02 true d2 (ai wO01 true d1 (ai wO00 true d0 (AlOk.nil _)))))))))))), hcs, LkOk.no _ _ _ _, (av 1 .i64 (an 4 (.bin .add (.var .i64 4) (.lit .i64 1)) (sm h_o4.symm) (av 5 .i64 (av 6 .i64 (av 5 .i64 (ar 60 (ar_var 60) (av 6 .i64 (ar 61 (ar_var 61) (av 6 .i64 (av 5 .i64 (an 7 (.bin .add (.var .i64 7) (.lit .i64 1)) (sm h_o7.symm) (av 5 .i64 (ar 60 (ar_var 60) (av 6 .i64 (ar 61 (ar_var 61) (av 6 .i64 (av 5 .i64 (av 8 .i64 (asg_nil rfl))))))))))))))))))), fun G => by kernel_rfl⟩
                    · have d10 : wO09.den S1 = some [b2i false] := fls (p := (S1.Φ 21 [S1.ρ 4]) < (0 : Int)) c10
                      by_cases c11 : (S1.Φ 21 [S1.ρ 4]) < S1.ρ 5
                      · have d11 : wO015.den S1 = some [b2i false] := fls (p := S1.ρ 5 ≤ (S1.Φ 21 [S1.ρ 4])) (Int.not_le.2 c11)
                        have d12 : wO011.den S1 = some [b2i true] := tr (p := (0 : Int) ≤ (S1.Φ 21 [S1.ρ 4])) (Int.not_lt.1 c10)
                        have d13 : wO016.den S1 = some [b2i true] := tr (p := (S1.Φ 21 [S1.ρ 4]) < S1.ρ 5) c11
                        have c14 : (S1.Φ 60 [(S1.Φ 21 [S1.ρ 4])]) = (S1.Φ 60 [(S1.Φ 21 [S1.ρ 4])]) := rfl
                        have d14 : wO017.den S1 = some [b2i false] := fls (p := (S1.Φ 60 [(S1.Φ 21 [S1.ρ 4])]) ≠ (S1.Φ 60 [(S1.Φ 21 [S1.ρ 4])])) (fun hh => hh c14)
                        obtain ⟨o4, h_o4⟩ : ∃ o : Int, o = (IntKind.i64.wrap (S1.ρ 4 + (1 : Int))) := ⟨_, rfl⟩
                        obtain ⟨o7, h_o7⟩ : ∃ o : Int, o = (IntKind.i64.wrap (S1.ρ 7 + (1 : Int))) := ⟨_, rfl⟩
                        obtain ⟨o8, h_o8⟩ : ∃ o : Int, o = (IntKind.i64.wrap (S1.ρ 8 + (1 : Int))) := ⟨_, rfl⟩
                        have u4 := h_o4
                        rw [w_i64 (by omega) (by omega)] at u4
                        have inv : InvO0 S n (n - (i + 1)) (S1.set (upd S1.ρ [(4, o4), (7, o7), (8, o8)]) [(60, (fun j => ifE j (S1.Φ 21 [S1.ρ 4]) (IntKind.u64.wrap ((S1.Φ 60 [(S1.Φ 21 [S1.ρ 4])]) + (S1.Φ 22 [S1.ρ 4]))) ((fun j => S1.Φ 60 [j]) j)))] 60 rfl hK) := ⟨i + 1, by omega, rfl, (show o4 = ((i + 1 : Nat) : Int) by omega), fr.set rfl rfl⟩
                        exact .inl ⟨_, _, (by omega : n - i = n - (i + 1) + 1), inv, _, [], _, 1000, _, [], (ai wO017 false d14 (ai wO016 true d13 (ai wO011 true d12 (ai wO015 false d11 (ai wO09 false d10 (ai wO08 true d9 (ai wO07 false d8 (ai wO06 false d7 (ai wO05 false d6 (ai wO014 false d5 (ai wO04 false d4 (ai wO03 false d3 (ai wO02 true d2 (ai wO01 true d1 (ai wO00 true d0 (AlOk.nil _)))))))))))))))), hcs, LkOk.no _ _ _ _, (av 1 .i64 (an 4 (.bin .add (.var .i64 4) (.lit .i64 1)) (sm h_o4.symm) (av 5 .i64 (av 6 .i64 (av 5 .i64 (ar 60 (ar_upd (.app .i64 21 (.cons (.var .i64 4) .nil)) (.bin .add (.app .u64 60 (.cons (.app .i64 21 (.cons (.var .i64 4) .nil)) .nil)) (.app .u64 22 (.cons (.var .i64 4) .nil))) (i := (S1.Φ 21 [S1.ρ 4])) (v := (IntKind.u64.wrap ((S1.Φ 60 [(S1.Φ 21 [S1.ρ 4])]) + (S1.Φ 22 [S1.ρ 4])))) rfl rfl (by kernel_rfl) (ar_var 60)) (av 6 .i64 (ar 61 (ar_var 61) (av 6 .i64 (av 5 .i64 (an 7 (.bin .add (.var .i64 7) (.lit .i64 1)) (sm h_o7.symm) (av 5 .i64 (ar 60 (ar_upd (.app .i64 21 (.cons (.var .i64 4) .nil)) (.bin .add (.app .u64 60 (.cons (.app .i64 21 (.cons (.var .i64 4) .nil)) .nil)) (.app .u64 22 (.cons (.var .i64 4) .nil))) (i := (S1.Φ 21 [S1.ρ 4])) (v := (IntKind.u64.wrap ((S1.Φ 60 [(S1.Φ 21 [S1.ρ 4])]) + (S1.Φ 22 [S1.ρ 4])))) rfl rfl (by kernel_rfl) (ar_var 60)) (av 6 .i64 (ar 61 (ar_var 61) (av 6 .i64 (av 5 .i64 (an 8 (.bin .add (.var .i64 8) (.lit .i64 1)) (sm h_o8.symm) (asg_nil rfl))))))))))))))))))), fun G => by kernel_rfl⟩
                      · have d11 : wO015.den S1 = some [b2i true] := tr (p := S1.ρ 5 ≤ (S1.Φ 21 [S1.ρ 4])) (Int.not_lt.1 c11)
                        obtain ⟨o4, h_o4⟩ : ∃ o : Int, o = (IntKind.i64.wrap (S1.ρ 4 + (1 : Int))) := ⟨_, rfl⟩
                        obtain ⟨o7, h_o7⟩ : ∃ o : Int, o = (IntKind.i64.wrap (S1.ρ 7 + (1 : Int))) := ⟨_, rfl⟩
                        have u4 := h_o4
                        rw [w_i64 (by omega) (by omega)] at u4
                        have inv : InvO0 S n (n - (i + 1)) (S1.set (upd S1.ρ [(4, o4), (7, o7)]) [] 60 rfl hK) := ⟨i + 1, by omega, rfl, (show o4 = ((i + 1 : Nat) : Int) by omega), fr.set rfl rfl⟩
                        exact .inl ⟨_, _, (by omega : n - i = n - (i + 1) + 1), inv, _, [], _, 1000, _, [], (ai wO015 true d11 (ai wO09 false d10 (ai wO08 true d9 (ai wO07 false d8 (ai wO06 false d7 (ai wO05 false d6 (ai wO014 false d5 (ai wO04 false d4 (ai wO03 false d3 (ai wO02 true d2 (ai wO01 true d1 (ai wO00 true d0 (AlOk.nil _))))))))))))), hcs, LkOk.no _ _ _ _, (av 1 .i64 (an 4 (.bin .add (.var .i64 4) (.lit .i64 1)) (sm h_o4.symm) (av 5 .i64 (av 6 .i64 (av 5 .i64 (ar 60 (ar_var 60) (av 6 .i64 (ar 61 (ar_var 61) (av 6 .i64 (av 5 .i64 (an 7 (.bin .add (.var .i64 7) (.lit .i64 1)) (sm h_o7.symm) (av 5 .i64 (ar 60 (ar_var 60) (av 6 .i64 (ar 61 (ar_var 61) (av 6 .i64 (av 5 .i64 (av 8 .i64 (asg_nil rfl))))))))))))))))))), fun G => by kernel_rfl⟩
                  · have d9 : wO08.den S1 = some [b2i false] := fls (p := (S1.Φ 20 [S1.ρ 4]) = (4 : Int)) c9
                    by_cases c10 : (S1.Φ 21 [S1.ρ 4]) < (0 : Int)
                    · have d10 : wO09.den S1 = some [b2i true] := tr (p := (S1.Φ 21 [S1.ρ 4]) < (0 : Int)) c10
                      obtain ⟨o4, h_o4⟩ : ∃ o : Int, o = (IntKind.i64.wrap (S1.ρ 4 + (1 : Int))) := ⟨_, rfl⟩
                      have u4 := h_o4
                      rw [w_i64 (by omega) (by omega)] at u4
                      have inv : InvO0 S n (n - (i + 1)) (S1.set (upd S1.ρ [(4, o4)]) [] 60 rfl hK) := ⟨i + 1, by omega, rfl, (show o4 = ((i + 1 : Nat) : Int) by omega), fr.set rfl rfl⟩
                      exact .inl ⟨_, _, (by omega : n - i = n - (i + 1) + 1), inv, _, [], _, 1000, _, [], (ai wO09 true d10 (ai wO08 false d9 (ai wO07 false d8 (ai wO06 false d7 (ai wO05 false d6 (ai wO014 false d5 (ai wO04 false d4 (ai wO03 false d3 (ai wO02 true d2 (ai wO01 true d1 (ai wO00 true d0 (AlOk.nil _)))))))))))), hcs, LkOk.no _ _ _ _, (av 1 .i64 (an 4 (.bin .add (.var .i64 4) (.lit .i64 1)) (sm h_o4.symm) (av 5 .i64 (av 6 .i64 (av 5 .i64 (ar 60 (ar_var 60) (av 6 .i64 (ar 61 (ar_var 61) (av 6 .i64 (av 5 .i64 (av 7 .i64 (av 5 .i64 (ar 60 (ar_var 60) (av 6 .i64 (ar 61 (ar_var 61) (av 6 .i64 (av 5 .i64 (av 8 .i64 (asg_nil rfl))))))))))))))))))), fun G => by kernel_rfl⟩
                    · have d10 : wO09.den S1 = some [b2i false] := fls (p := (S1.Φ 21 [S1.ρ 4]) < (0 : Int)) c10
                      by_cases c11 : (S1.Φ 21 [S1.ρ 4]) < S1.ρ 5
                      · have d11 : wO015.den S1 = some [b2i false] := fls (p := S1.ρ 5 ≤ (S1.Φ 21 [S1.ρ 4])) (Int.not_le.2 c11)
                        obtain ⟨o4, h_o4⟩ : ∃ o : Int, o = (IntKind.i64.wrap (S1.ρ 4 + (1 : Int))) := ⟨_, rfl⟩
                        have u4 := h_o4
                        rw [w_i64 (by omega) (by omega)] at u4
                        have inv : InvO0 S n (n - (i + 1)) (S1.set (upd S1.ρ [(4, o4)]) [] 60 rfl hK) := ⟨i + 1, by omega, rfl, (show o4 = ((i + 1 : Nat) : Int) by omega), fr.set rfl rfl⟩
                        exact .inl ⟨_, _, (by omega : n - i = n - (i + 1) + 1), inv, _, [], _, 1000, _, [], (ai wO015 false d11 (ai wO09 false d10 (ai wO08 false d9 (ai wO07 false d8 (ai wO06 false d7 (ai wO05 false d6 (ai wO014 false d5 (ai wO04 false d4 (ai wO03 false d3 (ai wO02 true d2 (ai wO01 true d1 (ai wO00 true d0 (AlOk.nil _))))))))))))), hcs, LkOk.no _ _ _ _, (av 1 .i64 (an 4 (.bin .add (.var .i64 4) (.lit .i64 1)) (sm h_o4.symm) (av 5 .i64 (av 6 .i64 (av 5 .i64 (ar 60 (ar_var 60) (av 6 .i64 (ar 61 (ar_var 61) (av 6 .i64 (av 5 .i64 (av 7 .i64 (av 5 .i64 (ar 60 (ar_var 60) (av 6 .i64 (ar 61 (ar_var 61) (av 6 .i64 (av 5 .i64 (av 8 .i64 (asg_nil rfl))))))))))))))))))), fun G => by kernel_rfl⟩
                      · have d11 : wO015.den S1 = some [b2i true] := tr (p := S1.ρ 5 ≤ (S1.Φ 21 [S1.ρ 4])) (Int.not_lt.1 c11)
                        obtain ⟨o4, h_o4⟩ : ∃ o : Int, o = (IntKind.i64.wrap (S1.ρ 4 + (1 : Int))) := ⟨_, rfl⟩
                        have u4 := h_o4
                        rw [w_i64 (by omega) (by omega)] at u4
                        have inv : InvO0 S n (n - (i + 1)) (S1.set (upd S1.ρ [(4, o4)]) [] 60 rfl hK) := ⟨i + 1, by omega, rfl, (show o4 = ((i + 1 : Nat) : Int) by omega), fr.set rfl rfl⟩
                        exact .inl ⟨_, _, (by omega : n - i = n - (i + 1) + 1), inv, _, [], _, 1000, _, [], (ai wO015 true d11 (ai wO09 false d10 (ai wO08 false d9 (ai wO07 false d8 (ai wO06 false d7 (ai wO05 false d6 (ai wO014 false d5 (ai wO04 false d4 (ai wO03 false d3 (ai wO02 true d2 (ai wO01 true d1 (ai wO00 true d0 (AlOk.nil _))))))))))))), hcs, LkOk.no _ _ _ _, (av 1 .i64 (an 4 (.bin .add (.var .i64 4) (.lit .i64 1)) (sm h_o4.symm) (av 5 .i64 (av 6 .i64 (av 5 .i64 (ar 60 (ar_var 60) (av 6 .i64 (ar 61 (ar_var 61) (av 6 .i64 (av 5 .i64 (av 7 .i64 (av 5 .i64 (ar 60 (ar_var 60) (av 6 .i64 (ar 61 (ar_var 61) (av 6 .i64 (av 5 .i64 (av 8 .i64 (asg_nil rfl))))))))))))))))))), fun G => by kernel_rfl⟩
  · have d0 : wO00.den S1 = some [b2i false] := fls (p := S1.ρ 4 < S1.ρ 1) c0
    exact .inr ⟨by omega, fun T hT => ⟨_, [], _, 1000, _, [], (ai wO00 false d0 (AlOk.nil _)), hcs, LkOk.no _ _ _ _, (an 5 (.var .i64 5) (sm (hT.num 5 rfl)) (an 6 (.var .i64 6) (sm (hT.num 6 rfl)) (an 5 (.var .i64 5) (sm (hT.num 5 rfl)) (asg_arr (i := 60) (hT.row 60 rfl) (an 6 (.var .i64 6) (sm (hT.num 6 rfl)) (asg_arr (i := 61) (hT.row 61 rfl) (an 6 (.var .i64 6) (sm (hT.num 6 rfl)) (an 5 (.var .i64 5) (sm (hT.num 5 rfl)) (an 7 (.var .i64 7) (sm (hT.num 7 rfl)) (an 5 (.var .i64 5) (sm (hT.num 5 rfl)) (asg_arr (i := 60) (hT.row 60 rfl) (an 6 (.var .i64 6) (sm (hT.num 6 rfl)) (asg_arr (i := 61) (hT.row 61 rfl) (an 6 (.var .i64 6) (sm (hT.num 6 rfl)) (an 5 (.var .i64 5) (sm (hT.num 5 rfl)) (an 8 (.var .i64 8) (sm (hT.num 8 rfl)) (asg_nil hT.1))))))))))))))))), fun G => by kernel_rfl⟩⟩
theorem loopO0 (hn : n < 9223372036854775807) (hb : S.ρ 1 = n) (hK0 : ∀ x ∈ S.I, x.f + x.ks.length ≤ 60) (h0 : S.ρ 4 = 0) : ∃ Sf : Sy, (Sf.ρ 4 = n ∧ Stay [4, 7, 8] [60, 61] S Sf) ∧ ∀ T asg0, Same [5, 6, 7, 8] [60, 61] Sf T → AsgOk T S asg0 → LkAt Try.prog T [] (.loop (cAt Try.prog lpO0)) (lkLoopR Try.prog 8 [] X0O F0O (.exit 0) asg0) := by
  obtain ⟨m, k', Sf, hc, ⟨i, hin, hk, hiv, fr⟩, hf⟩ := loop_ex (stepO0 S n hn hb hK0) n S ⟨0, Nat.zero_le _, rfl, h0, Stay.refl _ _ _⟩
  have hk0 := hf.1
  obtain rfl : i = n := by omega
  exact ⟨Sf, ⟨hiv, fr⟩, fun T asg0 hs ha => loop_chain envO (ann_self _) fineO0 (show X0O.N = F0O.N from rfl) (Nat.le_of_ble_eq_true rfl) hc (hf.2 T hs) ha⟩
end
def wO10 : Tm := (.bin .lss (.var .i64 9) (.var .i64 5))
def wO11 : Tm := (.bin .lss (.var .i64 9) (.lit .i64 0))
def wO12 : Tm := (.bin .geq (.var .i64 9) (.var .i64 5))
def wO13 : Tm := (.bin .geq (.var .i64 9) (.lit .i64 0))
def wO14 : Tm := (.bin .neq (.app .u64 60 (.cons (.var .i64 9) .nil)) (.app .u64 60 (.cons (.var .i64 9) .nil)))
section
variable (S : Sy) (n : Nat)
abbrev RO1 : Sy → Sy → Prop := StepTo Try.prog ftO ΛO [] (cAt Try.prog lpO1) X1O F1O 8
def InvO1 (k : Nat) (S1 : Sy) : Prop := ∃ i : Nat, i ≤ n ∧ k = n - i ∧ S1.ρ 9 = i ∧ Stay [9, 10, 11] [] S S1
def FinO1 (k : Nat) (S1 : Sy) : Prop := k = 0 ∧ ∀ T, Same [5, 6, 10, 11] [60, 61] S1 T → StepOut Try.prog ftO ΛO [] (cAt Try.prog lpO1) X1O F1O (.exit 2) 8 S1 T
set_option maxHeartbeats 4000000 in
theorem stepO1 (hn : n < 9223372036854775807) (hb : S.ρ 5 = n) (h5 : 0 ≤ S.ρ 5 ∧ S.ρ 5 < 21) (hK0 : ∀ x ∈ S.I, x.f + x.ks.length ≤ 60) (k : Nat) (S1 : Sy) (hi : InvO1 S n k S1) : (∃ k' S2, k = k' + 1 ∧ InvO1 S n k' S2 ∧ RO1 S1 S2) ∨ FinO1 k S1 := by
  obtain ⟨i, hin, rfl, hiv, fr⟩ := hi
  have hcs : ∀ c ∈ ([] : List Ctr), CtrOk Try.prog S1 [] c := fun c hc => by simp at hc
  have hK : ∀ x ∈ S1.I, x.f + x.ks.length ≤ 60 := by rw [fr.1]; exact hK0
  have e5 := fr.num 5 rfl
  have e6 := fr.num 6 rfl
  by_cases c0 : S1.ρ 9 < S1.ρ 5
  · have d0 : wO10.den S1 = some [b2i true] := tr (p := S1.ρ 9 < S1.ρ 5) c0
    by_cases c1 : S1.ρ 9 < (0 : Int)
    · have d1 : wO11.den S1 = some [b2i true] := tr (p := S1.ρ 9 < (0 : Int)) c1
      obtain ⟨o9, h_o9⟩ : ∃ o : Int, o = (IntKind.i64.wrap (S1.ρ 9 + (1 : Int))) := ⟨_, rfl⟩
      obtain ⟨o10, h_o10⟩ : ∃ o : Int, o = (IntKind.i64.wrap (S1.ρ 10 + (1 : Int))) := ⟨_, rfl⟩
      obtain ⟨o11, h_o11⟩ : ∃ o : Int, o = (IntKind.i64.wrap (S1.ρ 11 + (1 : Int))) := ⟨_, rfl⟩
      have u9 := h_o9
      rw [w_i64 (by omega) (by omega)] at u9
      have inv : InvO1 S n (n - (i + 1)) (S1.set (upd S1.ρ [(9, o9), (10, o10), (11, o11)]) [] 60 rfl hK) := ⟨i + 1, by omega, rfl, (show o9 = ((i + 1 : Nat) : Int) by omega), fr.set rfl rfl⟩
      exact .inl ⟨_, _, (by omega : n - i = n - (i + 1) + 1), inv, _, [], _, 1000, _, [], (ai wO11 true d1 (ai wO10 true d0 (AlOk.nil _))), hcs, LkOk.no _ _ _ _, (an 9 (.bin .add (.var .i64 9) (.lit .i64 1)) (sm h_o9.symm) (av 5 .i64 (av 6 .i64 (av 5 .i64 (ar 60 (ar_var 60) (av 6 .i64 (ar 61 (ar_var 61) (av 6 .i64 (av 5 .i64 (an 10 (.bin .add (.var .i64 10) (.lit .i64 1)) (sm h_o10.symm) (av 5 .i64 (ar 60 (ar_var 60) (av 6 .i64 (ar 61 (ar_var 61) (av 6 .i64 (av 5 .i64 (an 11 (.bin .add (.var .i64 11) (.lit .i64 1)) (sm h_o11.symm) (asg_nil rfl)))))))))))))))))), fun G => by kernel_rfl⟩
    · have d1 : wO11.den S1 = some [b2i false] := fls (p := S1.ρ 9 < (0 : Int)) c1
      have d2 : wO12.den S1 = some [b2i false] := fls (p := S1.ρ 5 ≤ S1.ρ 9) (Int.not_le.2 c0)
      have d3 : wO13.den S1 = some [b2i true] := tr (p := (0 : Int) ≤ S1.ρ 9) (Int.not_lt.1 c1)
      have c4 : (S1.Φ 60 [S1.ρ 9]) = (S1.Φ 60 [S1.ρ 9]) := rfl
      have d4 : wO14.den S1 = some [b2i false] := fls (p := (S1.Φ 60 [S1.ρ 9]) ≠ (S1.Φ 60 [S1.ρ 9])) (fun hh => hh c4)
      obtain ⟨o9, h_o9⟩ : ∃ o : Int, o = (IntKind.i64.wrap (S1.ρ 9 + (1 : Int))) := ⟨_, rfl⟩
      obtain ⟨o10, h_o10⟩ : ∃ o : Int, o = (IntKind.i64.wrap (S1.ρ 10 + (1 : Int))) := ⟨_, rfl⟩
      obtain ⟨o11, h_o11⟩ : ∃ o : Int, o = (IntKind.i64.wrap (S1.ρ 11 + (1 : Int))) := ⟨_, rfl⟩
      have u9 := h_o9
      rw [w_i64 (by omega) (by omega)] at u9
      have inv : InvO1 S n (n - (i + 1)) (S1.set (upd S1.ρ [(9, o9), (10, o10), (11, o11)]) [] 60 rfl hK) := ⟨i + 1, by omega, rfl, (show o9 = ((i + 1 : Nat) : Int) by omega), fr.set rfl rfl⟩
      exact .inl ⟨_, _, (by omega : n - i = n - (i + 1) + 1), inv, _, [], _, 1000, _, [], (ai wO14 false d4 (ai wO13 true d3 (ai wO12 false d2 (ai wO11 false d1 (ai wO10 true d0 (AlOk.nil _)))))), hcs, LkOk.no _ _ _ _, (an 9 (.bin .add (.var .i64 9) (.lit .i64 1)) (sm h_o9.symm) (av 5 .i64 (av 6 .i64 (av 5 .i64 (ar 60 (ar_var 60) (av 6 .i64 (ar 61 (ar_var 61) (av 6 .i64 (av 5 .i64 (an 10 (.bin .add (.var .i64 10) (.lit .i64 1)) (sm h_o10.symm) (av 5 .i64 (ar 60 (ar_var 60) (av 6 .i64 (ar 61 (ar_var 61) (av 6 .i64 (av 5 .i64 (an 11 (.bin .add (.var .i64 11) (.lit .i64 1)) (sm h_o11.symm) (asg_nil rfl)))))))))))))))))), fun G => by kernel_rfl⟩
  · have d0 : wO10.den S1 = some [b2i false] := fls (p := S1.ρ 9 < S1.ρ 5) c0
    exact .inr ⟨by omega, fun T hT => ⟨_, [], _, 1000, _, [], (ai wO10 false d0 (AlOk.nil _)), hcs, LkOk.no _ _ _ _, (an 5 (.var .i64 5) (sm (hT.num 5 rfl)) (an 6 (.var .i64 6) (sm (hT.num 6 rfl)) (an 5 (.var .i64 5) (sm (hT.num 5 rfl)) (asg_arr (i := 60) (hT.row 60 rfl) (an 6 (.var .i64 6) (sm (hT.num 6 rfl)) (asg_arr (i := 61) (hT.row 61 rfl) (an 6 (.var .i64 6) (sm (hT.num 6 rfl)) (an 5 (.var .i64 5) (sm (hT.num 5 rfl)) (an 10 (.var .i64 10) (sm (hT.num 10 rfl)) (an 5 (.var .i64 5) (sm (hT.num 5 rfl)) (asg_arr (i := 60) (hT.row 60 rfl) (an 6 (.var .i64 6) (sm (hT.num 6 rfl)) (asg_arr (i := 61) (hT.row 61 rfl) (an 6 (.var .i64 6) (sm (hT.num 6 rfl)) (an 5 (.var .i64 5) (sm (hT.num 5 rfl)) (an 11 (.var .i64 11) (sm (hT.num 11 rfl)) (asg_nil hT.1))))))))))))))))), fun G => by kernel_rfl⟩⟩
theorem loopO1 (hn : n < 9223372036854775807) (hb : S.ρ 5 = n) (h5 : 0 ≤ S.ρ 5 ∧ S.ρ 5 < 21) (hK0 : ∀ x ∈ S.I, x.f + x.ks.length ≤ 60) (h0 : S.ρ 9 = 0) : ∃ Sf : Sy, (Sf.ρ 9 = n ∧ Stay [9, 10, 11] [] S Sf) ∧ ∀ T asg0, Same [5, 6, 10, 11] [60, 61] Sf T → AsgOk T S asg0 → LkAt Try.prog T [] (.loop (cAt Try.prog lpO1)) (lkLoopR Try.prog 8 [] X1O F1O (.exit 2) asg0) := by
  obtain ⟨m, k', Sf, hc, ⟨i, hin, hk, hiv, fr⟩, hf⟩ := loop_ex (stepO1 S n hn hb h5 hK0) n S ⟨0, Nat.zero_le _, rfl, h0, Stay.refl _ _ _⟩
  have hk0 := hf.1
  obtain rfl : i = n := by omega
  exact ⟨Sf, ⟨hiv, fr⟩, fun T asg0 hs ha => loop_chain envO (ann_self _) fineO1 (show X1O.N = F1O.N from rfl) (Nat.le_of_ble_eq_true rfl) hc (hf.2 T hs) ha⟩
end
def wO20 : Tm := (.bin .lss (.var .i64 12) (.var .i64 6))
def wO21 : Tm := (.bin .lss (.var .i64 12) (.lit .i64 0))
def wO22 : Tm := (.bin .geq (.var .i64 12) (.var .i64 6))
def wO23 : Tm := (.bin .geq (.var .i64 12) (.lit .i64 0))
def wO24 : Tm := (.bin .neq (.conv .u8 (.conv .u64 (.app .u8 61 (.cons (.var .i64 12) .nil)))) (.conv .u8 (.conv .u64 (.app .u8 61 (.cons (.var .i64 12) .nil)))))
section
variable (S : Sy) (n : Nat)
abbrev RO2 : Sy → Sy → Prop := StepTo Try.prog ftO ΛO [] (cAt Try.prog lpO2) X2O F2O 8
def InvO2 (k : Nat) (S1 : Sy) : Prop := ∃ i : Nat, i ≤ n ∧ k = n - i ∧ S1.ρ 12 = i ∧ Stay [12, 14, 15] [] S S1
def FinO2 (k : Nat) (S1 : Sy) : Prop := k = 0 ∧ ∀ T, Same [] [] S1 T → StepOut Try.prog ftO ΛO [] (cAt Try.prog lpO2) X2O F2O (.exit 4) 8 S1 T
set_option maxHeartbeats 4000000 in
theorem stepO2 (hn : n < 9223372036854775807) (hb : S.ρ 6 = n) (h6 : 0 ≤ S.ρ 6 ∧ S.ρ 6 < 21) (hK0 : ∀ x ∈ S.I, x.f + x.ks.length ≤ 60) (k : Nat) (S1 : Sy) (hi : InvO2 S n k S1) : (∃ k' S2, k = k' + 1 ∧ InvO2 S n k' S2 ∧ RO2 S1 S2) ∨ FinO2 k S1 := by
  obtain ⟨i, hin, rfl, hiv, fr⟩ := hi
  have hcs : ∀ c ∈ ([] : List Ctr), CtrOk Try.prog S1 [] c := fun c hc => by simp at hc
  have hK : ∀ x ∈ S1.I, x.f + x.ks.length ≤ 60 := by rw [fr.1]; exact hK0
  have e5 := fr.num 5 rfl
  have e6 := fr.num 6 rfl
  by_cases c0 : S1.ρ 12 < S1.ρ 6
  · have d0 : wO20.den S1 = some [b2i true] := tr (p := S1.ρ 12 < S1.ρ 6) c0
    by_cases c1 : S1.ρ 12 < (0 : Int)
    · have d1 : wO21.den S1 = some [b2i true] := tr (p := S1.ρ 12 < (0 : Int)) c1
      obtain ⟨o12, h_o12⟩ : ∃ o : Int, o = (IntKind.i64.wrap (S1.ρ 12 + (1 : Int))) := ⟨_, rfl⟩
      obtain ⟨o14, h_o14⟩ : ∃ o : Int, o = (IntKind.i64.wrap (S1.ρ 14 + (1 : Int))) := ⟨_, rfl⟩
      obtain ⟨o15, h_o15⟩ : ∃ o : Int, o = (IntKind.i64.wrap (S1.ρ 15 + (1 : Int))) := ⟨_, rfl⟩
      have u12 := h_o12
      rw [w_i64 (by omega) (by omega)] at u12
      have inv : InvO2 S n (n - (i + 1)) (S1.set (upd S1.ρ [(12, o12), (14, o14), (15, o15)]) [] 60 rfl hK) := ⟨i + 1, by omega, rfl, (show o12 = ((i + 1 : Nat) : Int) by omega), fr.set rfl rfl⟩
      exact .inl ⟨_, _, (by omega : n - i = n - (i + 1) + 1), inv, _, [], _, 1000, _, [], (ai wO21 true d1 (ai wO20 true d0 (AlOk.nil _))), hcs, LkOk.no _ _ _ _, (an 12 (.bin .add (.var .i64 12) (.lit .i64 1)) (sm h_o12.symm) (av 5 .i64 (av 6 .i64 (av 5 .i64 (ar 60 (ar_var 60) (av 6 .i64 (ar 61 (ar_var 61) (av 6 .i64 (av 5 .i64 (an 14 (.bin .add (.var .i64 14) (.lit .i64 1)) (sm h_o14.symm) (av 5 .i64 (ar 60 (ar_var 60) (av 6 .i64 (ar 61 (ar_var 61) (av 6 .i64 (av 5 .i64 (an 15 (.bin .add (.var .i64 15) (.lit .i64 1)) (sm h_o15.symm) (asg_nil rfl)))))))))))))))))), fun G => by kernel_rfl⟩
    · have d1 : wO21.den S1 = some [b2i false] := fls (p := S1.ρ 12 < (0 : Int)) c1
      have d2 : wO22.den S1 = some [b2i false] := fls (p := S1.ρ 6 ≤ S1.ρ 12) (Int.not_le.2 c0)
      have d3 : wO23.den S1 = some [b2i true] := tr (p := (0 : Int) ≤ S1.ρ 12) (Int.not_lt.1 c1)
      have c4 : (IntKind.u8.wrap ((IntKind.u64.wrap ((S1.Φ 61 [S1.ρ 12]))))) = (IntKind.u8.wrap ((IntKind.u64.wrap ((S1.Φ 61 [S1.ρ 12]))))) := rfl
      have d4 : wO24.den S1 = some [b2i false] := fls (p := (IntKind.u8.wrap ((IntKind.u64.wrap ((S1.Φ 61 [S1.ρ 12]))))) ≠ (IntKind.u8.wrap ((IntKind.u64.wrap ((S1.Φ 61 [S1.ρ 12])))))) (fun hh => hh c4)
      obtain ⟨o12, h_o12⟩ : ∃ o : Int, o = (IntKind.i64.wrap (S1.ρ 12 + (1 : Int))) := ⟨_, rfl⟩
      obtain ⟨o14, h_o14⟩ : ∃ o : Int, o = (IntKind.i64.wrap (S1.ρ 14 + (1 : Int))) := ⟨_, rfl⟩
      obtain ⟨o15, h_o15⟩ : ∃ o : Int, o = (IntKind.i64.wrap (S1.ρ 15 + (1 : Int))) := ⟨_, rfl⟩
      have u12 := h_o12
      rw [w_i64 (by omega) (by omega)] at u12
      have inv : InvO2 S n (n - (i + 1)) (S1.set (upd S1.ρ [(12, o12), (14, o14), (15, o15)]) [] 60 rfl hK) := ⟨i + 1, by omega, rfl, (show o12 = ((i + 1 : Nat) : Int) by omega), fr.set rfl rfl⟩
      exact .inl ⟨_, _, (by omega : n - i = n - (i + 1) + 1), inv, _, [], _, 1000, _, [], (ai wO24 false d4 (ai wO23 true d3 (ai wO22 false d2 (ai wO21 false d1 (ai wO20 true d0 (AlOk.nil _)))))), hcs, LkOk.no _ _ _ _, (an 12 (.bin .add (.var .i64 12) (.lit .i64 1)) (sm h_o12.symm) (av 5 .i64 (av 6 .i64 (av 5 .i64 (ar 60 (ar_var 60) (av 6 .i64 (ar 61 (ar_var 61) (av 6 .i64 (av 5 .i64 (an 14 (.bin .add (.var .i64 14) (.lit .i64 1)) (sm h_o14.symm) (av 5 .i64 (ar 60 (ar_var 60) (av 6 .i64 (ar 61 (ar_var 61) (av 6 .i64 (av 5 .i64 (an 15 (.bin .add (.var .i64 15) (.lit .i64 1)) (sm h_o15.symm) (asg_nil rfl)))))))))))))))))), fun G => by kernel_rfl⟩
  · have d0 : wO20.den S1 = some [b2i false] := fls (p := S1.ρ 12 < S1.ρ 6) c0
    exact .inr ⟨by omega, fun T hT => ⟨_, [], _, 1000, _, [], (ai wO20 false d0 (AlOk.nil _)), hcs, LkOk.no _ _ _ _, (asg_nil hT.1), fun G => by kernel_rfl⟩⟩
theorem loopO2 (hn : n < 9223372036854775807) (hb : S.ρ 6 = n) (h6 : 0 ≤ S.ρ 6 ∧ S.ρ 6 < 21) (hK0 : ∀ x ∈ S.I, x.f + x.ks.length ≤ 60) (h0 : S.ρ 12 = 0) : ∃ Sf : Sy, (Sf.ρ 12 = n ∧ Stay [12, 14, 15] [] S Sf) ∧ ∀ T asg0, Same [] [] Sf T → AsgOk T S asg0 → LkAt Try.prog T [] (.loop (cAt Try.prog lpO2)) (lkLoopR Try.prog 8 [] X2O F2O (.exit 4) asg0) := by
  obtain ⟨m, k', Sf, hc, ⟨i, hin, hk, hiv, fr⟩, hf⟩ := loop_ex (stepO2 S n hn hb h6 hK0) n S ⟨0, Nat.zero_le _, rfl, h0, Stay.refl _ _ _⟩
  have hk0 := hf.1
  obtain rfl : i = n := by omega
  exact ⟨Sf, ⟨hiv, fr⟩, fun T asg0 hs ha => loop_chain envO (ann_self _) fineO2 (show X2O.N = F2O.N from rfl) (Nat.le_of_ble_eq_true rfl) hc (hf.2 T hs) ha⟩
end
def po0 : Tm := (.bin .gtr (.var .i64 1) (.lit .i64 60))
def po1 : Tm := (.bin .lss (.var .i64 5) (.lit .i64 0))
def po2 : Tm := (.bin .gtr (.var .i64 5) (.lit .i64 2097152))
def po3 : Tm := (.bin .lss (.var .i64 6) (.lit .i64 0))
def po4 : Tm := (.bin .gtr (.var .i64 6) (.lit .i64 1048576))
def po5 : Tm := (.bin .geq (.var .i64 5) (.lit .i64 0))
def po6 : Tm := (.bin .lss (.var .i64 5) (.lit .i64 4194304))
def po7 : Tm := (.bin .geq (.var .i64 6) (.lit .i64 0))
def po8 : Tm := (.bin .lss (.var .i64 6) (.lit .i64 4194304))
theorem den_w {S : Sy} {t : Tm} {i : Nat} {a : Int} (ha : 0 ≤ a) (ht : t = .conv .i64 (.bin .rem (.var .u8 i) (.lit .u8 21))) (hi : S.ρ i = a) : t.den S = some [a % 21] := by
  subst ht
  refine den_conv .i64 (x := a % 21) (den_bin (k := .u8) (r := a % 21) rfl (den_lit _ _) ?_) (w_i64 (by omega) (by omega))
  show (if (21 : Int) = 0 then none else some (Value.int .u8 ((S.ρ i).tmod 21))) = _
  rw [if_neg (by decide), hi, Int.tmod_eq_emod_of_nonneg ha]
set_option maxHeartbeats 4000000 in
theorem out_any (a b : Int) (ha : 0 ≤ a) (hb : 0 ≤ b) (v : Value) (w : World) (hs : SlIn w [some .u8, some .i64, some .u64, some .u64] v) : Calls Try.prog 9 #[.int .u8 a, .int .u8 b, v] w fun e w' => e = .returned (.bool true) ∧ Quiet w w' := by
  obtain ⟨x, F, hks, hf, rfl, hx, _, hok⟩ := inpw_of (by decide) hs 20
  have hall : ∀ z ∈ [x], ∃ F, InpW w z F := fun z hz => by
    rw [List.mem_singleton] at hz
    subst hz
    exact ⟨F, hok⟩
  have hxok : InpOk [x] (phi 20 4 F) x := inps_ok hall List.mem_cons_self hok fun m j hm => by
    rw [hks] at hm
    rw [hf]
    exact phi_in hm
  obtain ⟨SS, hSS⟩ : ∃ SS : Sy, SS = ⟨upd (fun _ => 0) [(1, (x.n : Int)), (2, a), (3, b), (5, a % 21), (6, b % 21)], phi 20 4 F, [x], fun z hz => by rw [List.mem_singleton] at hz; subst hz; exact hxok⟩ := ⟨_, rfl⟩
  have i1 : SS.ρ 1 = x.n := by rw [hSS]; rfl
  have i2 : SS.ρ 2 = a := by rw [hSS]; rfl
  have i3 : SS.ρ 3 = b := by rw [hSS]; rfl
  have i5 : SS.ρ 5 = a % 21 := by rw [hSS]; rfl
  have i6 : SS.ρ 6 = b % 21 := by rw [hSS]; rfl
  have iI : SS.I = [x] := by rw [hSS]
  have i9 : SS.Φ 9 [] = 1 := by rw [hSS]; exact phi_9 (f := 20) (m := 4) (F := F) (by decide)
  have h5 : 0 ≤ SS.ρ 5 ∧ SS.ρ 5 < 21 := by omega
  have h6 : 0 ≤ SS.ρ 6 ∧ SS.ρ 6 < 21 := by omega
  obtain ⟨w5, hb5⟩ : ∃ w5 : Nat, SS.ρ 5 = w5 := ⟨(SS.ρ 5).toNat, by omega⟩
  obtain ⟨w6, hb6⟩ : ∃ w6 : Nat, SS.ρ 6 = w6 := ⟨(SS.ρ 6).toNat, by omega⟩
  have hw5 : w5 < 9223372036854775807 := by omega
  have hw6 : w6 < 9223372036854775807 := by omega
  have hin0 : ∀ b o, inpL [x] b = some o → w.heap[b]? = some o := inps_in hall
  have hK : ∀ z ∈ SS.I, z.f + z.ks.length ≤ 60 := fun z hz => by
    rw [iI, List.mem_singleton] at hz
    subst hz
    rw [hf, hks]; decide
  have main : ∀ T : Sy, ∀ lk, T.I = SS.I → T.ρ 1 = SS.ρ 1 → T.ρ 2 = SS.ρ 2 → T.ρ 3 = SS.ρ 3 → T.ρ 5 = SS.ρ 5 → T.ρ 6 = SS.ρ 6 → T.Φ 9 [] = 1 → (x.n ≤ 60 → lk = lkL [lkLoopR Try.prog 8 [] X0O F0O (.exit 0) [(1, .num (Tm.enc (.var .i64 1))), (4, .num (Tm.enc (.lit .i64 0))), (5, .num (Tm.enc (.var .i64 5))), (6, .num (Tm.enc (.var .i64 6))), (5, .num (Tm.enc (.var .i64 5))), (60, .arr .zero), (6, .num (Tm.enc (.var .i64 6))), (61, .arr .zero), (6, .num (Tm.enc (.var .i64 6))), (5, .num (Tm.enc (.var .i64 5))), (7, .num (Tm.enc (.lit .i64 0))), (5, .num (Tm.enc (.var .i64 5))), (60, .arr .zero), (6, .num (Tm.enc (.var .i64 6))), (61, .arr .zero), (6, .num (Tm.enc (.var .i64 6))), (5, .num (Tm.enc (.var .i64 5))), (8, .num (Tm.enc (.lit .i64 0)))], lkLoopR Try.prog 8 [] X1O F1O (.exit 2) [(9, .num (Tm.enc (.lit .i64 0))), (5, .num (Tm.enc (.var .i64 5))), (6, .num (Tm.enc (.var .i64 6))), (5, .num (Tm.enc (.var .i64 5))), (60, .arr (.var 60)), (6, .num (Tm.enc (.var .i64 6))), (61, .arr (.var 61)), (6, .num (Tm.enc (.var .i64 6))), (5, .num (Tm.enc (.var .i64 5))), (10, .num (Tm.enc (.var .i64 7))), (5, .num (Tm.enc (.var .i64 5))), (60, .arr (.var 60)), (6, .num (Tm.enc (.var .i64 6))), (61, .arr (.var 61)), (6, .num (Tm.enc (.var .i64 6))), (5, .num (Tm.enc (.var .i64 5))), (11, .num (Tm.enc (.var .i64 8)))], lkLoopR Try.prog 8 [] X2O F2O (.exit 4) [(12, .num (Tm.enc (.lit .i64 0))), (5, .num (Tm.enc (.var .i64 5))), (6, .num (Tm.enc (.var .i64 6))), (5, .num (Tm.enc (.var .i64 5))), (60, .arr (.var 60)), (6, .num (Tm.enc (.var .i64 6))), (61, .arr (.var 61)), (6, .num (Tm.enc (.var .i64 6))), (5, .num (Tm.enc (.var .i64 5))), (14, .num (Tm.enc (.var .i64 10))), (5, .num (Tm.enc (.var .i64 5))), (60, .arr (.var 60)), (6, .num (Tm.enc (.var .i64 6))), (61, .arr (.var 61)), (6, .num (Tm.enc (.var .i64 6))), (5, .num (Tm.enc (.var .i64 5))), (15, .num (Tm.enc (.var .i64 11)))]]) → LkOk Try.prog T [] ΛO lk → Calls Try.prog 9 #[.int .u8 a, .int .u8 b, .slice x.a x.n x.cap] w fun e w' => e = .returned (.bool true) ∧ Quiet w w' := by
    intro T lk tI t1 t2 t3 t5 t6 hΦ9 hl hlk
    have hvs : ∀ G ι, VsOk T G ι [vv .u8 2, vv .u8 3, inLO] [.int .u8 a, .int .u8 b, .slice x.a x.n x.cap] := fun G ι => vs_sym (t2.trans i2) (vs_sym (t3.trans i3) (vs_inp0 (x := x) (by decide) (by rw [tI, iI]; rfl) (by rw [hks]; decide +kernel) (by rw [hf]; decide +kernel) (t1.trans i1) vs_nil))
    have hin : ∀ b o, inpL T.I b = some o → w.heap[b]? = some o := by rw [tI, iI]; exact hin0
    have dw : wTO.den T = some [T.ρ 5] := by rw [t5, i5]; exact den_w ha rfl (t2.trans i2)
    have db : bTO.den T = some [T.ρ 6] := by rw [t6, i6]; exact den_w hb rfl (t3.trans i3)
    by_cases c0 : (60 : Int) < T.ρ 1
    · have d0 : po0.den T = some [b2i true] := tr (p := (60 : Int) < T.ρ 1) c0
      exact symRunI envO (ai po0 true d0 (ai awT true (aw_den hΦ9) (al_nm bTO (.var .i64 6) (by kernel_rfl) db rfl (al_nm wTO (.var .i64 5) (by kernel_rfl) dw rfl (AlOk.nil _))))) (one_ok hΦ9) hlk (n := 1000) (args := [vv .u8 2, vv .u8 3, inLO]) (args' := [.int .u8 a, .int .u8 b, .slice x.a x.n x.cap]) (res := [.one .bool]) (vs := [.bool true]) (rcs := [litB true]) (rs := [1]) rfl ⟨ev_litB _ true, trivial⟩ (fun G => by kernel_rfl) hvs w (gok w) hin
    · have d0 : po0.den T = some [b2i false] := fls (p := (60 : Int) < T.ρ 1) c0
      obtain rfl := hl (by omega)
      have c1 : ¬ (T.ρ 5 < (0 : Int)) := by omega
      have d1 : po1.den T = some [b2i false] := fls (p := T.ρ 5 < (0 : Int)) c1
      have c2 : ¬ ((2097152 : Int) < T.ρ 5) := by omega
      have d2 : po2.den T = some [b2i false] := fls (p := (2097152 : Int) < T.ρ 5) c2
      have c3 : ¬ (T.ρ 6 < (0 : Int)) := by omega
      have d3 : po3.den T = some [b2i false] := fls (p := T.ρ 6 < (0 : Int)) c3
      have c4 : ¬ ((1048576 : Int) < T.ρ 6) := by omega
      have d4 : po4.den T = some [b2i false] := fls (p := (1048576 : Int) < T.ρ 6) c4
      have d5 : po5.den T = some [b2i true] := tr (p := (0 : Int) ≤ T.ρ 5) (Int.not_lt.1 c1)
      have c6 : T.ρ 5 < (4194304 : Int) := by omega
      have d6 : po6.den T = some [b2i true] := tr (p := T.ρ 5 < (4194304 : Int)) c6
      have d7 : po7.den T = some [b2i true] := tr (p := (0 : Int) ≤ T.ρ 6) (Int.not_lt.1 c3)
      have c8 : T.ρ 6 < (4194304 : Int) := by omega
      have d8 : po8.den T = some [b2i true] := tr (p := T.ρ 6 < (4194304 : Int)) c8
      exact symRunI envO (ai po8 true d8 (ai po7 true d7 (ai po6 true d6 (ai po5 true d5 (ai po4 false d4 (ai po3 false d3 (ai po2 false d2 (ai po1 false d1 (ai po0 false d0 (ai awT true (aw_den hΦ9) (al_nm bTO (.var .i64 6) (by kernel_rfl) db rfl (al_nm wTO (.var .i64 5) (by kernel_rfl) dw rfl (AlOk.nil _))))))))))))) (one_ok hΦ9) hlk (n := 1000) (args := [vv .u8 2, vv .u8 3, inLO]) (args' := [.int .u8 a, .int .u8 b, .slice x.a x.n x.cap]) (res := [.one .bool]) (vs := [.bool true]) (rcs := [litB true]) (rs := [1]) rfl ⟨ev_litB _ true, trivial⟩ (fun G => by kernel_rfl) hvs w (gok w) hin
  by_cases hg : x.n ≤ 60
  · have hx : x.n < 9223372036854775807 := by omega
    obtain ⟨S00, hS00⟩ : ∃ S0 : Sy, S0 = SS.set (upd SS.ρ [(4, (0 : Int)), (7, (0 : Int)), (8, (0 : Int))]) [(60, fun _ => 0), (61, fun _ => 0)] 60 rfl hK := ⟨_, rfl⟩
    have q0 : Stay [4, 7, 8] [60, 61] SS S00 := by rw [hS00]; exact (Stay.refl [4, 7, 8] [60, 61] _).set rfl rfl
    have s0_4 : S00.ρ 4 = (0 : Int) := by rw [hS00]; rfl
    have s0_7 : S00.ρ 7 = (0 : Int) := by rw [hS00]; rfl
    have s0_8 : S00.ρ 8 = (0 : Int) := by rw [hS00]; rfl
    have z0_60 : ∀ j : Nat, S00.Φ 60 [(j : Int)] = (fun _ => 0) (j : Int) := by rw [hS00]; intro j; rfl
    have z0_61 : ∀ j : Nat, S00.Φ 61 [(j : Int)] = (fun _ => 0) (j : Int) := by rw [hS00]; intro j; rfl
    have a0 := q0
    have hK0 : ∀ x ∈ S00.I, x.f + x.ks.length ≤ 60 := by rw [a0.1]; exact hK
    obtain ⟨Sf0, ⟨e0, fr0⟩, lk0⟩ := loopO0 S00 x.n hx ((a0.num 1 rfl).trans i1)  hK0 s0_4
    have b0 := a0.trans fr0
    obtain ⟨S01, hS01⟩ : ∃ S0 : Sy, S0 = Sf0.set (upd Sf0.ρ [(9, (0 : Int)), (10, Sf0.ρ 7), (11, Sf0.ρ 8)]) [] 60 rfl (by rw [b0.1]; exact hK) := ⟨_, rfl⟩
    have q1 : Stay [9, 10, 11] [] Sf0 S01 := by rw [hS01]; exact (Stay.refl [9, 10, 11] [] _).set rfl rfl
    have s1_9 : S01.ρ 9 = (0 : Int) := by rw [hS01]; rfl
    have s1_10 : S01.ρ 10 = Sf0.ρ 7 := by rw [hS01]; rfl
    have s1_11 : S01.ρ 11 = Sf0.ρ 8 := by rw [hS01]; rfl
    have a1 := b0.trans q1
    have hK1 : ∀ x ∈ S01.I, x.f + x.ks.length ≤ 60 := by rw [a1.1]; exact hK
    obtain ⟨Sf1, ⟨e1, fr1⟩, lk1⟩ := loopO1 S01 w5 hw5 ((a1.num 5 rfl).trans hb5) (by rw [a1.num 5 rfl]; exact h5) hK1 s1_9
    have b1 := a1.trans fr1
    obtain ⟨S02, hS02⟩ : ∃ S0 : Sy, S0 = Sf1.set (upd Sf1.ρ [(12, (0 : Int)), (14, Sf1.ρ 10), (15, Sf1.ρ 11)]) [] 60 rfl (by rw [b1.1]; exact hK) := ⟨_, rfl⟩
    have q2 : Stay [12, 14, 15] [] Sf1 S02 := by rw [hS02]; exact (Stay.refl [12, 14, 15] [] _).set rfl rfl
    have s2_12 : S02.ρ 12 = (0 : Int) := by rw [hS02]; rfl
    have s2_14 : S02.ρ 14 = Sf1.ρ 10 := by rw [hS02]; rfl
    have s2_15 : S02.ρ 15 = Sf1.ρ 11 := by rw [hS02]; rfl
    have a2 := b1.trans q2
    have hK2 : ∀ x ∈ S02.I, x.f + x.ks.length ≤ 60 := by rw [a2.1]; exact hK
    obtain ⟨Sf2, ⟨e2, fr2⟩, lk2⟩ := loopO2 S02 w6 hw6 ((a2.num 6 rfl).trans hb6) (by rw [a2.num 6 rfl]; exact h6) hK2 s2_12
    have b2 := a2.trans fr2
    have g2 := fr2
    have p2 := q2.trans g2
    have g1 := fr1.trans p2
    have p1 := q1.trans g1
    have g0 := fr0.trans p1
    have p0 := q0.trans g0
    have hlk := LkOk.all (P := Try.prog) (S := Sf2) (gs := []) (ms := [lpO0, lpO1, lpO2]) (fs := [lkLoopR Try.prog 8 [] X0O F0O (.exit 0) [(1, .num (Tm.enc (.var .i64 1))), (4, .num (Tm.enc (.lit .i64 0))), (5, .num (Tm.enc (.var .i64 5))), (6, .num (Tm.enc (.var .i64 6))), (5, .num (Tm.enc (.var .i64 5))), (60, .arr .zero), (6, .num (Tm.enc (.var .i64 6))), (61, .arr .zero), (6, .num (Tm.enc (.var .i64 6))), (5, .num (Tm.enc (.var .i64 5))), (7, .num (Tm.enc (.lit .i64 0))), (5, .num (Tm.enc (.var .i64 5))), (60, .arr .zero), (6, .num (Tm.enc (.var .i64 6))), (61, .arr .zero), (6, .num (Tm.enc (.var .i64 6))), (5, .num (Tm.enc (.var .i64 5))), (8, .num (Tm.enc (.lit .i64 0)))], lkLoopR Try.prog 8 [] X1O F1O (.exit 2) [(9, .num (Tm.enc (.lit .i64 0))), (5, .num (Tm.enc (.var .i64 5))), (6, .num (Tm.enc (.var .i64 6))), (5, .num (Tm.enc (.var .i64 5))), (60, .arr (.var 60)), (6, .num (Tm.enc (.var .i64 6))), (61, .arr (.var 61)), (6, .num (Tm.enc (.var .i64 6))), (5, .num (Tm.enc (.var .i64 5))), (10, .num (Tm.enc (.var .i64 7))), (5, .num (Tm.enc (.var .i64 5))), (60, .arr (.var 60)), (6, .num (Tm.enc (.var .i64 6))), (61, .arr (.var 61)), (6, .num (Tm.enc (.var .i64 6))), (5, .num (Tm.enc (.var .i64 5))), (11, .num (Tm.enc (.var .i64 8)))], lkLoopR Try.prog 8 [] X2O F2O (.exit 4) [(12, .num (Tm.enc (.lit .i64 0))), (5, .num (Tm.enc (.var .i64 5))), (6, .num (Tm.enc (.var .i64 6))), (5, .num (Tm.enc (.var .i64 5))), (60, .arr (.var 60)), (6, .num (Tm.enc (.var .i64 6))), (61, .arr (.var 61)), (6, .num (Tm.enc (.var .i64 6))), (5, .num (Tm.enc (.var .i64 5))), (14, .num (Tm.enc (.var .i64 10))), (5, .num (Tm.enc (.var .i64 5))), (60, .arr (.var 60)), (6, .num (Tm.enc (.var .i64 6))), (61, .arr (.var 61)), (6, .num (Tm.enc (.var .i64 6))), (5, .num (Tm.enc (.var .i64 5))), (15, .num (Tm.enc (.var .i64 11)))]]) ⟨⟨_, codeO0, lk0 Sf2 _ (p1.same rfl rfl) (an 1 (.var .i64 1) (sm (g0.num 1 rfl)) (an 4 (.lit .i64 0) (sm s0_4.symm) (an 5 (.var .i64 5) (sm (g0.num 5 rfl)) (an 6 (.var .i64 6) (sm (g0.num 6 rfl)) (an 5 (.var .i64 5) (sm (g0.num 5 rfl)) (asg_arr (i := 60) (fun j => congrArg some (z0_60 j).symm) (an 6 (.var .i64 6) (sm (g0.num 6 rfl)) (asg_arr (i := 61) (fun j => congrArg some (z0_61 j).symm) (an 6 (.var .i64 6) (sm (g0.num 6 rfl)) (an 5 (.var .i64 5) (sm (g0.num 5 rfl)) (an 7 (.lit .i64 0) (sm s0_7.symm) (an 5 (.var .i64 5) (sm (g0.num 5 rfl)) (asg_arr (i := 60) (fun j => congrArg some (z0_60 j).symm) (an 6 (.var .i64 6) (sm (g0.num 6 rfl)) (asg_arr (i := 61) (fun j => congrArg some (z0_61 j).symm) (an 6 (.var .i64 6) (sm (g0.num 6 rfl)) (an 5 (.var .i64 5) (sm (g0.num 5 rfl)) (an 8 (.lit .i64 0) (sm s0_8.symm) (asg_nil g0.1.symm)))))))))))))))))))⟩, ⟨_, codeO1, lk1 Sf2 _ (p2.same rfl rfl) (an 9 (.lit .i64 0) (sm s1_9.symm) (an 5 (.var .i64 5) (sm (g1.num 5 rfl)) (an 6 (.var .i64 6) (sm (g1.num 6 rfl)) (an 5 (.var .i64 5) (sm (g1.num 5 rfl)) (asg_arr (i := 60) (g1.row 60 rfl) (an 6 (.var .i64 6) (sm (g1.num 6 rfl)) (asg_arr (i := 61) (g1.row 61 rfl) (an 6 (.var .i64 6) (sm (g1.num 6 rfl)) (an 5 (.var .i64 5) (sm (g1.num 5 rfl)) (an 10 (.var .i64 7) (sm ((p1.num 7 rfl).trans s1_10.symm)) (an 5 (.var .i64 5) (sm (g1.num 5 rfl)) (asg_arr (i := 60) (g1.row 60 rfl) (an 6 (.var .i64 6) (sm (g1.num 6 rfl)) (asg_arr (i := 61) (g1.row 61 rfl) (an 6 (.var .i64 6) (sm (g1.num 6 rfl)) (an 5 (.var .i64 5) (sm (g1.num 5 rfl)) (an 11 (.var .i64 8) (sm ((p1.num 8 rfl).trans s1_11.symm)) (asg_nil g1.1.symm))))))))))))))))))⟩, ⟨_, codeO2, lk2 Sf2 _ (Same.refl _ _ _) (an 12 (.lit .i64 0) (sm s2_12.symm) (an 5 (.var .i64 5) (sm (g2.num 5 rfl)) (an 6 (.var .i64 6) (sm (g2.num 6 rfl)) (an 5 (.var .i64 5) (sm (g2.num 5 rfl)) (asg_arr (i := 60) (g2.row 60 rfl) (an 6 (.var .i64 6) (sm (g2.num 6 rfl)) (asg_arr (i := 61) (g2.row 61 rfl) (an 6 (.var .i64 6) (sm (g2.num 6 rfl)) (an 5 (.var .i64 5) (sm (g2.num 5 rfl)) (an 14 (.var .i64 10) (sm ((p2.num 10 rfl).trans s2_14.symm)) (an 5 (.var .i64 5) (sm (g2.num 5 rfl)) (asg_arr (i := 60) (g2.row 60 rfl) (an 6 (.var .i64 6) (sm (g2.num 6 rfl)) (asg_arr (i := 61) (g2.row 61 rfl) (an 6 (.var .i64 6) (sm (g2.num 6 rfl)) (an 5 (.var .i64 5) (sm (g2.num 5 rfl)) (an 15 (.var .i64 11) (sm ((p2.num 11 rfl).trans s2_15.symm)) (asg_nil g2.1.symm))))))))))))))))))⟩, trivial⟩
    exact main Sf2 _ p0.1 (p0.num 1 rfl) (p0.num 2 rfl) (p0.num 3 rfl) (p0.num 5 rfl) (p0.num 6 rfl) ((p0.fn 9 rfl []).trans i9) (fun _ => rfl) hlk
  · exact main SS _ rfl rfl rfl rfl rfl rfl i9 (fun h => absurd h hg) (LkOk.no _ _ _ _)
end Go.Proofs.Ytilddfihdmmjcaa
