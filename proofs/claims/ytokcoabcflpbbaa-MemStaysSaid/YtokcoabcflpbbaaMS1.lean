/-
  MemStays: its loops: the accesses ahead; slices.Equal over words and bytes. Conditions: those each says.
-/
import Derived.Test.YtokcoabcflpbbaaMS0
namespace Go.Proofs.Ytokcoabcflpbbaa
open Go.Ev Go.RowKit
set_option maxRecDepth 100000
set_option linter.unusedVariables false
def wS0k0_0 : Tm := (.bin .lss (.var .i64 4) (.var .i64 1))
def wS0k0_1 : Tm := (.bin .geq (.var .i64 4) (.lit .i64 0))
def wS0k1_0 : Tm := (.bin .lss (.var .i64 4) (.var .i64 1))
def wS0k1_1 : Tm := (.bin .geq (.var .i64 4) (.lit .i64 0))
def wS0k1_2 : Tm := (.bin .lss (.app .i64 21 (.cons (.var .i64 4) .nil)) (.lit .i64 0))
def wS0k1_3 : Tm := (.bin .geq (.app .i64 21 (.cons (.var .i64 4) .nil)) (.var .i64 5))
def wS0k1_4 : Tm := (.bin .geq (.app .i64 21 (.cons (.var .i64 4) .nil)) (.lit .i64 0))
def wS0k1_5 : Tm := (.bin .lss (.app .i64 21 (.cons (.var .i64 4) .nil)) (.var .i64 5))
def wS0k2_0 : Tm := (.bin .lss (.var .i64 4) (.var .i64 1))
def wS0k2_1 : Tm := (.bin .geq (.var .i64 4) (.lit .i64 0))
def wS0k2_2 : Tm := (.bin .lss (.app .i64 21 (.cons (.var .i64 4) .nil)) (.lit .i64 0))
def wS0k2_3 : Tm := (.bin .geq (.app .i64 21 (.cons (.var .i64 4) .nil)) (.var .i64 5))
def wS0k2_4 : Tm := (.bin .geq (.app .i64 21 (.cons (.var .i64 4) .nil)) (.lit .i64 0))
def wS0k2_5 : Tm := (.bin .lss (.app .i64 21 (.cons (.var .i64 4) .nil)) (.var .i64 5))
def wS0k3_0 : Tm := (.bin .lss (.var .i64 4) (.var .i64 1))
def wS0k3_1 : Tm := (.bin .geq (.var .i64 4) (.lit .i64 0))
def wS0k3_2 : Tm := (.bin .lss (.app .i64 21 (.cons (.var .i64 4) .nil)) (.lit .i64 0))
def wS0k3_3 : Tm := (.bin .geq (.app .i64 21 (.cons (.var .i64 4) .nil)) (.var .i64 5))
def wS0k3_4 : Tm := (.bin .geq (.app .i64 21 (.cons (.var .i64 4) .nil)) (.lit .i64 0))
def wS0k3_5 : Tm := (.bin .lss (.app .i64 21 (.cons (.var .i64 4) .nil)) (.var .i64 5))
def wS0k3_6 : Tm := (.bin .neq (.app .u64 60 (.cons (.app .i64 21 (.cons (.var .i64 4) .nil)) .nil)) (.app .u64 22 (.cons (.var .i64 4) .nil)))
def wS0k4_0 : Tm := (.bin .lss (.var .i64 4) (.var .i64 1))
def wS0k4_1 : Tm := (.bin .geq (.var .i64 4) (.lit .i64 0))
def wS0k4_2 : Tm := (.bin .lss (.app .i64 21 (.cons (.var .i64 4) .nil)) (.lit .i64 0))
def wS0k4_3 : Tm := (.bin .geq (.app .i64 21 (.cons (.var .i64 4) .nil)) (.var .i64 5))
def wS0k4_4 : Tm := (.bin .geq (.app .i64 21 (.cons (.var .i64 4) .nil)) (.lit .i64 0))
def wS0k4_5 : Tm := (.bin .lss (.app .i64 21 (.cons (.var .i64 4) .nil)) (.var .i64 5))
def wS0k5_0 : Tm := (.bin .lss (.var .i64 4) (.var .i64 1))
def wS0k5_1 : Tm := (.bin .geq (.var .i64 4) (.lit .i64 0))
def wS0k5_2 : Tm := (.bin .lss (.app .i64 21 (.cons (.var .i64 4) .nil)) (.lit .i64 0))
def wS0k5_3 : Tm := (.bin .geq (.app .i64 21 (.cons (.var .i64 4) .nil)) (.var .i64 6))
def wS0k5_4 : Tm := (.bin .geq (.app .i64 21 (.cons (.var .i64 4) .nil)) (.lit .i64 0))
def wS0k5_5 : Tm := (.bin .lss (.app .i64 21 (.cons (.var .i64 4) .nil)) (.var .i64 6))
def wS0k6_0 : Tm := (.bin .lss (.var .i64 4) (.var .i64 1))
def wS0k6_1 : Tm := (.bin .geq (.var .i64 4) (.lit .i64 0))
def wS0k6_2 : Tm := (.bin .lss (.app .i64 21 (.cons (.var .i64 4) .nil)) (.lit .i64 0))
def wS0k6_3 : Tm := (.bin .geq (.app .i64 21 (.cons (.var .i64 4) .nil)) (.var .i64 6))
def wS0k6_4 : Tm := (.bin .geq (.app .i64 21 (.cons (.var .i64 4) .nil)) (.lit .i64 0))
def wS0k6_5 : Tm := (.bin .lss (.app .i64 21 (.cons (.var .i64 4) .nil)) (.var .i64 6))
def wS0k7_0 : Tm := (.bin .lss (.var .i64 4) (.var .i64 1))
def wS0k7_1 : Tm := (.bin .geq (.var .i64 4) (.lit .i64 0))
def wS0k7_2 : Tm := (.bin .geq (.conv .i64 (.app .u8 20 (.cons (.var .i64 4) .nil))) (.lit .i64 7))
section
variable (S : Sy) (n : Nat)
abbrev RS0 : Sy → Sy → Prop := StepTo Try.prog ftS ΛS [] (cAt Try.prog lpS0) X0S F0S 4
def InvS0 (k : Nat) (S1 : Sy) : Prop := ∃ i : Nat, i ≤ n ∧ k = n - i ∧ S1.ρ 4 = i ∧ Stay [4] [60, 61] S S1
def FinS0 (k : Nat) (S1 : Sy) : Prop := k = 0 ∧ ∀ T, Same [14, 13, 12, 11, 10, 5, 6] [60, 61] S1 T → StepOut Try.prog ftS ΛS [] (cAt Try.prog lpS0) X0S F0S (.exit 0) 4 S1 T
set_option maxHeartbeats 4000000 in
theorem stepS0 (hn : n < 9223372036854775807) (hb : S.ρ 1 = n) (h5 : 0 ≤ S.ρ 5 ∧ S.ρ 5 < 41) (h6 : 0 ≤ S.ρ 6 ∧ S.ρ 6 < 41) (hr20 : ∀ j : Nat, j < n → (0 ≤ S.Φ 20 [(j : Int)] ∧ S.Φ 20 [(j : Int)] < 256)) (hK0 : ∀ x ∈ S.I, x.f + x.ks.length ≤ 60) (k : Nat) (S1 : Sy) (hi : InvS0 S n k S1) : (∃ k' S2, k = k' + 1 ∧ InvS0 S n k' S2 ∧ RS0 S1 S2) ∨ FinS0 k S1 := by
  obtain ⟨i, hin, rfl, hiv, fr⟩ := hi
  have hcs : ∀ c ∈ ([] : List Ctr), CtrOk Try.prog S1 [] c := fun c hc => by simp at hc
  have hK : ∀ x ∈ S1.I, x.f + x.ks.length ≤ 60 := by rw [fr.1]; exact hK0
  have e1 := fr.num 1 rfl
  have e5 := fr.num 5 rfl
  have e6 := fr.num 6 rfl
  have k0 : i < n → 0 ≤ S1.Φ 20 [S1.ρ 4] ∧ S1.Φ 20 [S1.ρ 4] < 256 := fun h => by rw [hiv, fr.fn 20 rfl]; exact hr20 i h
  rcases (show (S1.Φ 20 [S1.ρ 4] = 0) ∨ (S1.Φ 20 [S1.ρ 4] = 1) ∨ (S1.Φ 20 [S1.ρ 4] = 2) ∨ (S1.Φ 20 [S1.ρ 4] = 3) ∨ (S1.Φ 20 [S1.ρ 4] = 4) ∨ (S1.Φ 20 [S1.ρ 4] = 5) ∨ (S1.Φ 20 [S1.ρ 4] = 6) ∨ (S1.Φ 20 [S1.ρ 4] ≠ 0 ∧ S1.Φ 20 [S1.ρ 4] ≠ 1 ∧ S1.Φ 20 [S1.ρ 4] ≠ 2 ∧ S1.Φ 20 [S1.ρ 4] ≠ 3 ∧ S1.Φ 20 [S1.ρ 4] ≠ 4 ∧ S1.Φ 20 [S1.ρ 4] ≠ 5 ∧ S1.Φ 20 [S1.ρ 4] ≠ 6) from by omega) with hk | hk | hk | hk | hk | hk | hk | hk
  · have dk : kTS.den S1 = some [0] := (show some [S1.Φ 20 [S1.ρ 4]] = _ from by rw [hk])
    by_cases c0 : S1.ρ 4 < S1.ρ 1
    · have d0 : wS0k0_0.den S1 = some [b2i true] := tr (p := S1.ρ 4 < S1.ρ 1) c0
      have c1 : ¬ (S1.ρ 4 < (0 : Int)) := by have := k0; omega
      have d1 : wS0k0_1.den S1 = some [b2i true] := tr (p := (0 : Int) ≤ S1.ρ 4) (Int.not_lt.1 c1)
      obtain ⟨o4, h_o4⟩ : ∃ o : Int, o = (IntKind.i64.wrap (S1.ρ 4 + (1 : Int))) := ⟨_, rfl⟩
      have u4 := h_o4
      rw [w_i64 (by omega) (by omega)] at u4
      have inv : InvS0 S n (n - (i + 1)) (S1.set (upd S1.ρ [(4, o4)]) [] 60 rfl hK) := ⟨i + 1, by omega, rfl, (show o4 = ((i + 1 : Nat) : Int) by omega), fr.set rfl rfl⟩
      exact .inl ⟨_, _, (by omega : n - i = n - (i + 1) + 1), inv, _, [], _, 1000, _, [], (ai wS0k0_1 true d1 (ai wS0k0_0 true d0 (ain kTS .u8 0 dk (AlOk.nil _)))), hcs, LkOk.no _ _ _ _, (av 1 .i64 (an 4 (.bin .add (.var .i64 4) (.lit .i64 1)) (sm h_o4.symm) (av 14 .i64 (av 13 .u64 (av 12 .u64 (av 11 .i64 (av 10 .u8 (av 5 .i64 (ar 60 (ar_var 60) (av 6 .i64 (ar 61 (ar_var 61) (av 6 .i64 (av 5 .i64 (asg_nil rfl)))))))))))))), fun G => by kernel_rfl⟩
    · have d0 : wS0k0_0.den S1 = some [b2i false] := fls (p := S1.ρ 4 < S1.ρ 1) c0
      exact .inr ⟨by omega, fun T hT => ⟨_, [], _, 1000, _, [], (ai wS0k0_0 false d0 (ain kTS .u8 0 dk (AlOk.nil _))), hcs, LkOk.no _ _ _ _, (an 14 (.var .i64 14) (sm (hT.num 14 rfl)) (an 13 (.var .u64 13) (sm (hT.num 13 rfl)) (an 12 (.var .u64 12) (sm (hT.num 12 rfl)) (an 11 (.var .i64 11) (sm (hT.num 11 rfl)) (an 10 (.var .u8 10) (sm (hT.num 10 rfl)) (an 5 (.var .i64 5) (sm (hT.num 5 rfl)) (asg_arr (i := 60) (hT.row 60 rfl) (an 6 (.var .i64 6) (sm (hT.num 6 rfl)) (asg_arr (i := 61) (hT.row 61 rfl) (an 6 (.var .i64 6) (sm (hT.num 6 rfl)) (an 5 (.var .i64 5) (sm (hT.num 5 rfl)) (asg_nil hT.1)))))))))))), fun G => by kernel_rfl⟩⟩
  · have dk : kTS.den S1 = some [1] := (show some [S1.Φ 20 [S1.ρ 4]] = _ from by rw [hk])
    by_cases c0 : S1.ρ 4 < S1.ρ 1
    · have d0 : wS0k1_0.den S1 = some [b2i true] := tr (p := S1.ρ 4 < S1.ρ 1) c0
      have c1 : ¬ (S1.ρ 4 < (0 : Int)) := by have := k0; omega
      have d1 : wS0k1_1.den S1 = some [b2i true] := tr (p := (0 : Int) ≤ S1.ρ 4) (Int.not_lt.1 c1)
      by_cases c2 : (S1.Φ 21 [S1.ρ 4]) < (0 : Int)
      · have d2 : wS0k1_2.den S1 = some [b2i true] := tr (p := (S1.Φ 21 [S1.ρ 4]) < (0 : Int)) c2
        obtain ⟨o4, h_o4⟩ : ∃ o : Int, o = (IntKind.i64.wrap (S1.ρ 4 + (1 : Int))) := ⟨_, rfl⟩
        have u4 := h_o4
        rw [w_i64 (by omega) (by omega)] at u4
        have inv : InvS0 S n (n - (i + 1)) (S1.set (upd S1.ρ [(4, o4)]) [] 60 rfl hK) := ⟨i + 1, by omega, rfl, (show o4 = ((i + 1 : Nat) : Int) by omega), fr.set rfl rfl⟩
        exact .inl ⟨_, _, (by omega : n - i = n - (i + 1) + 1), inv, _, [], _, 1000, _, [], (ai wS0k1_2 true d2 (ai wS0k1_1 true d1 (ai wS0k1_0 true d0 (ain kTS .u8 1 dk (AlOk.nil _))))), hcs, LkOk.no _ _ _ _, (av 1 .i64 (an 4 (.bin .add (.var .i64 4) (.lit .i64 1)) (sm h_o4.symm) (av 14 .i64 (av 13 .u64 (av 12 .u64 (av 11 .i64 (av 10 .u8 (av 5 .i64 (ar 60 (ar_var 60) (av 6 .i64 (ar 61 (ar_var 61) (av 6 .i64 (av 5 .i64 (asg_nil rfl)))))))))))))), fun G => by kernel_rfl⟩
      · have d2 : wS0k1_2.den S1 = some [b2i false] := fls (p := (S1.Φ 21 [S1.ρ 4]) < (0 : Int)) c2
        by_cases c3 : (S1.Φ 21 [S1.ρ 4]) < S1.ρ 5
        · have d3 : wS0k1_3.den S1 = some [b2i false] := fls (p := S1.ρ 5 ≤ (S1.Φ 21 [S1.ρ 4])) (Int.not_le.2 c3)
          have d4 : wS0k1_4.den S1 = some [b2i true] := tr (p := (0 : Int) ≤ (S1.Φ 21 [S1.ρ 4])) (Int.not_lt.1 c2)
          have d5 : wS0k1_5.den S1 = some [b2i true] := tr (p := (S1.Φ 21 [S1.ρ 4]) < S1.ρ 5) c3
          obtain ⟨o4, h_o4⟩ : ∃ o : Int, o = (IntKind.i64.wrap (S1.ρ 4 + (1 : Int))) := ⟨_, rfl⟩
          have u4 := h_o4
          rw [w_i64 (by omega) (by omega)] at u4
          have inv : InvS0 S n (n - (i + 1)) (S1.set (upd S1.ρ [(4, o4)]) [] 60 rfl hK) := ⟨i + 1, by omega, rfl, (show o4 = ((i + 1 : Nat) : Int) by omega), fr.set rfl rfl⟩
          exact .inl ⟨_, _, (by omega : n - i = n - (i + 1) + 1), inv, _, [], _, 1000, _, [], (ai wS0k1_5 true d5 (ai wS0k1_4 true d4 (ai wS0k1_3 false d3 (ai wS0k1_2 false d2 (ai wS0k1_1 true d1 (ai wS0k1_0 true d0 (ain kTS .u8 1 dk (AlOk.nil _)))))))), hcs, LkOk.no _ _ _ _, (av 1 .i64 (an 4 (.bin .add (.var .i64 4) (.lit .i64 1)) (sm h_o4.symm) (av 14 .i64 (av 13 .u64 (av 12 .u64 (av 11 .i64 (av 10 .u8 (av 5 .i64 (ar 60 (ar_var 60) (av 6 .i64 (ar 61 (ar_var 61) (av 6 .i64 (av 5 .i64 (asg_nil rfl)))))))))))))), fun G => by kernel_rfl⟩
        · have d3 : wS0k1_3.den S1 = some [b2i true] := tr (p := S1.ρ 5 ≤ (S1.Φ 21 [S1.ρ 4])) (Int.not_lt.1 c3)
          obtain ⟨o4, h_o4⟩ : ∃ o : Int, o = (IntKind.i64.wrap (S1.ρ 4 + (1 : Int))) := ⟨_, rfl⟩
          have u4 := h_o4
          rw [w_i64 (by omega) (by omega)] at u4
          have inv : InvS0 S n (n - (i + 1)) (S1.set (upd S1.ρ [(4, o4)]) [] 60 rfl hK) := ⟨i + 1, by omega, rfl, (show o4 = ((i + 1 : Nat) : Int) by omega), fr.set rfl rfl⟩
          exact .inl ⟨_, _, (by omega : n - i = n - (i + 1) + 1), inv, _, [], _, 1000, _, [], (ai wS0k1_3 true d3 (ai wS0k1_2 false d2 (ai wS0k1_1 true d1 (ai wS0k1_0 true d0 (ain kTS .u8 1 dk (AlOk.nil _)))))), hcs, LkOk.no _ _ _ _, (av 1 .i64 (an 4 (.bin .add (.var .i64 4) (.lit .i64 1)) (sm h_o4.symm) (av 14 .i64 (av 13 .u64 (av 12 .u64 (av 11 .i64 (av 10 .u8 (av 5 .i64 (ar 60 (ar_var 60) (av 6 .i64 (ar 61 (ar_var 61) (av 6 .i64 (av 5 .i64 (asg_nil rfl)))))))))))))), fun G => by kernel_rfl⟩
    · have d0 : wS0k1_0.den S1 = some [b2i false] := fls (p := S1.ρ 4 < S1.ρ 1) c0
      exact .inr ⟨by omega, fun T hT => ⟨_, [], _, 1000, _, [], (ai wS0k1_0 false d0 (ain kTS .u8 1 dk (AlOk.nil _))), hcs, LkOk.no _ _ _ _, (an 14 (.var .i64 14) (sm (hT.num 14 rfl)) (an 13 (.var .u64 13) (sm (hT.num 13 rfl)) (an 12 (.var .u64 12) (sm (hT.num 12 rfl)) (an 11 (.var .i64 11) (sm (hT.num 11 rfl)) (an 10 (.var .u8 10) (sm (hT.num 10 rfl)) (an 5 (.var .i64 5) (sm (hT.num 5 rfl)) (asg_arr (i := 60) (hT.row 60 rfl) (an 6 (.var .i64 6) (sm (hT.num 6 rfl)) (asg_arr (i := 61) (hT.row 61 rfl) (an 6 (.var .i64 6) (sm (hT.num 6 rfl)) (an 5 (.var .i64 5) (sm (hT.num 5 rfl)) (asg_nil hT.1)))))))))))), fun G => by kernel_rfl⟩⟩
  · have dk : kTS.den S1 = some [2] := (show some [S1.Φ 20 [S1.ρ 4]] = _ from by rw [hk])
    by_cases c0 : S1.ρ 4 < S1.ρ 1
    · have d0 : wS0k2_0.den S1 = some [b2i true] := tr (p := S1.ρ 4 < S1.ρ 1) c0
      have c1 : ¬ (S1.ρ 4 < (0 : Int)) := by have := k0; omega
      have d1 : wS0k2_1.den S1 = some [b2i true] := tr (p := (0 : Int) ≤ S1.ρ 4) (Int.not_lt.1 c1)
      by_cases c2 : (S1.Φ 21 [S1.ρ 4]) < (0 : Int)
      · have d2 : wS0k2_2.den S1 = some [b2i true] := tr (p := (S1.Φ 21 [S1.ρ 4]) < (0 : Int)) c2
        obtain ⟨o4, h_o4⟩ : ∃ o : Int, o = (IntKind.i64.wrap (S1.ρ 4 + (1 : Int))) := ⟨_, rfl⟩
        have u4 := h_o4
        rw [w_i64 (by omega) (by omega)] at u4
        have inv : InvS0 S n (n - (i + 1)) (S1.set (upd S1.ρ [(4, o4)]) [] 60 rfl hK) := ⟨i + 1, by omega, rfl, (show o4 = ((i + 1 : Nat) : Int) by omega), fr.set rfl rfl⟩
        exact .inl ⟨_, _, (by omega : n - i = n - (i + 1) + 1), inv, _, [], _, 1000, _, [], (ai wS0k2_2 true d2 (ai wS0k2_1 true d1 (ai wS0k2_0 true d0 (ain kTS .u8 2 dk (AlOk.nil _))))), hcs, LkOk.no _ _ _ _, (av 1 .i64 (an 4 (.bin .add (.var .i64 4) (.lit .i64 1)) (sm h_o4.symm) (av 14 .i64 (av 13 .u64 (av 12 .u64 (av 11 .i64 (av 10 .u8 (av 5 .i64 (ar 60 (ar_var 60) (av 6 .i64 (ar 61 (ar_var 61) (av 6 .i64 (av 5 .i64 (asg_nil rfl)))))))))))))), fun G => by kernel_rfl⟩
      · have d2 : wS0k2_2.den S1 = some [b2i false] := fls (p := (S1.Φ 21 [S1.ρ 4]) < (0 : Int)) c2
        by_cases c3 : (S1.Φ 21 [S1.ρ 4]) < S1.ρ 5
        · have d3 : wS0k2_3.den S1 = some [b2i false] := fls (p := S1.ρ 5 ≤ (S1.Φ 21 [S1.ρ 4])) (Int.not_le.2 c3)
          have d4 : wS0k2_4.den S1 = some [b2i true] := tr (p := (0 : Int) ≤ (S1.Φ 21 [S1.ρ 4])) (Int.not_lt.1 c2)
          have d5 : wS0k2_5.den S1 = some [b2i true] := tr (p := (S1.Φ 21 [S1.ρ 4]) < S1.ρ 5) c3
          obtain ⟨o4, h_o4⟩ : ∃ o : Int, o = (IntKind.i64.wrap (S1.ρ 4 + (1 : Int))) := ⟨_, rfl⟩
          have u4 := h_o4
          rw [w_i64 (by omega) (by omega)] at u4
          have inv : InvS0 S n (n - (i + 1)) (S1.set (upd S1.ρ [(4, o4)]) [(60, (fun j => ifE j ((S1.Φ 21 [S1.ρ 4])) ((S1.Φ 22 [S1.ρ 4])) ((fun j => S1.Φ 60 [j]) j)))] 60 rfl hK) := ⟨i + 1, by omega, rfl, (show o4 = ((i + 1 : Nat) : Int) by omega), fr.set rfl rfl⟩
          exact .inl ⟨_, _, (by omega : n - i = n - (i + 1) + 1), inv, _, [], _, 1000, _, [], (ai wS0k2_5 true d5 (ai wS0k2_4 true d4 (ai wS0k2_3 false d3 (ai wS0k2_2 false d2 (ai wS0k2_1 true d1 (ai wS0k2_0 true d0 (ain kTS .u8 2 dk (AlOk.nil _)))))))), hcs, LkOk.no _ _ _ _, (av 1 .i64 (an 4 (.bin .add (.var .i64 4) (.lit .i64 1)) (sm h_o4.symm) (av 14 .i64 (av 13 .u64 (av 12 .u64 (av 11 .i64 (av 10 .u8 (av 5 .i64 (ar 60 (ar_upd (.app .i64 21 (.cons (.var .i64 4) .nil)) (.app .u64 22 (.cons (.var .i64 4) .nil)) (i := (S1.Φ 21 [S1.ρ 4])) (v := (S1.Φ 22 [S1.ρ 4])) rfl rfl (by kernel_rfl) (ar_var 60)) (av 6 .i64 (ar 61 (ar_var 61) (av 6 .i64 (av 5 .i64 (asg_nil rfl)))))))))))))), fun G => by kernel_rfl⟩
        · have d3 : wS0k2_3.den S1 = some [b2i true] := tr (p := S1.ρ 5 ≤ (S1.Φ 21 [S1.ρ 4])) (Int.not_lt.1 c3)
          obtain ⟨o4, h_o4⟩ : ∃ o : Int, o = (IntKind.i64.wrap (S1.ρ 4 + (1 : Int))) := ⟨_, rfl⟩
          have u4 := h_o4
          rw [w_i64 (by omega) (by omega)] at u4
          have inv : InvS0 S n (n - (i + 1)) (S1.set (upd S1.ρ [(4, o4)]) [] 60 rfl hK) := ⟨i + 1, by omega, rfl, (show o4 = ((i + 1 : Nat) : Int) by omega), fr.set rfl rfl⟩
          exact .inl ⟨_, _, (by omega : n - i = n - (i + 1) + 1), inv, _, [], _, 1000, _, [], (ai wS0k2_3 true d3 (ai wS0k2_2 false d2 (ai wS0k2_1 true d1 (ai wS0k2_0 true d0 (ain kTS .u8 2 dk (AlOk.nil _)))))), hcs, LkOk.no _ _ _ _, (av 1 .i64 (an 4 (.bin .add (.var .i64 4) (.lit .i64 1)) (sm h_o4.symm) (av 14 .i64 (av 13 .u64 (av 12 .u64 (av 11 .i64 (av 10 .u8 (av 5 .i64 (ar 60 (ar_var 60) (av 6 .i64 (ar 61 (ar_var 61) (av 6 .i64 (av 5 .i64 (asg_nil rfl)))))))))))))), fun G => by kernel_rfl⟩
    · have d0 : wS0k2_0.den S1 = some [b2i false] := fls (p := S1.ρ 4 < S1.ρ 1) c0
      exact .inr ⟨by omega, fun T hT => ⟨_, [], _, 1000, _, [], (ai wS0k2_0 false d0 (ain kTS .u8 2 dk (AlOk.nil _))), hcs, LkOk.no _ _ _ _, (an 14 (.var .i64 14) (sm (hT.num 14 rfl)) (an 13 (.var .u64 13) (sm (hT.num 13 rfl)) (an 12 (.var .u64 12) (sm (hT.num 12 rfl)) (an 11 (.var .i64 11) (sm (hT.num 11 rfl)) (an 10 (.var .u8 10) (sm (hT.num 10 rfl)) (an 5 (.var .i64 5) (sm (hT.num 5 rfl)) (asg_arr (i := 60) (hT.row 60 rfl) (an 6 (.var .i64 6) (sm (hT.num 6 rfl)) (asg_arr (i := 61) (hT.row 61 rfl) (an 6 (.var .i64 6) (sm (hT.num 6 rfl)) (an 5 (.var .i64 5) (sm (hT.num 5 rfl)) (asg_nil hT.1)))))))))))), fun G => by kernel_rfl⟩⟩
  · have dk : kTS.den S1 = some [3] := (show some [S1.Φ 20 [S1.ρ 4]] = _ from by rw [hk])
    by_cases c0 : S1.ρ 4 < S1.ρ 1
    · have d0 : wS0k3_0.den S1 = some [b2i true] := tr (p := S1.ρ 4 < S1.ρ 1) c0
      have c1 : ¬ (S1.ρ 4 < (0 : Int)) := by have := k0; omega
      have d1 : wS0k3_1.den S1 = some [b2i true] := tr (p := (0 : Int) ≤ S1.ρ 4) (Int.not_lt.1 c1)
      by_cases c2 : (S1.Φ 21 [S1.ρ 4]) < (0 : Int)
      · have d2 : wS0k3_2.den S1 = some [b2i true] := tr (p := (S1.Φ 21 [S1.ρ 4]) < (0 : Int)) c2
        obtain ⟨o4, h_o4⟩ : ∃ o : Int, o = (IntKind.i64.wrap (S1.ρ 4 + (1 : Int))) := ⟨_, rfl⟩
        have u4 := h_o4
        rw [w_i64 (by omega) (by omega)] at u4
        have inv : InvS0 S n (n - (i + 1)) (S1.set (upd S1.ρ [(4, o4)]) [] 60 rfl hK) := ⟨i + 1, by omega, rfl, (show o4 = ((i + 1 : Nat) : Int) by omega), fr.set rfl rfl⟩
        exact .inl ⟨_, _, (by omega : n - i = n - (i + 1) + 1), inv, _, [], _, 1000, _, [], (ai wS0k3_2 true d2 (ai wS0k3_1 true d1 (ai wS0k3_0 true d0 (ain kTS .u8 3 dk (AlOk.nil _))))), hcs, LkOk.no _ _ _ _, (av 1 .i64 (an 4 (.bin .add (.var .i64 4) (.lit .i64 1)) (sm h_o4.symm) (av 14 .i64 (av 13 .u64 (av 12 .u64 (av 11 .i64 (av 10 .u8 (av 5 .i64 (ar 60 (ar_var 60) (av 6 .i64 (ar 61 (ar_var 61) (av 6 .i64 (av 5 .i64 (asg_nil rfl)))))))))))))), fun G => by kernel_rfl⟩
      · have d2 : wS0k3_2.den S1 = some [b2i false] := fls (p := (S1.Φ 21 [S1.ρ 4]) < (0 : Int)) c2
        by_cases c3 : (S1.Φ 21 [S1.ρ 4]) < S1.ρ 5
        · have d3 : wS0k3_3.den S1 = some [b2i false] := fls (p := S1.ρ 5 ≤ (S1.Φ 21 [S1.ρ 4])) (Int.not_le.2 c3)
          have d4 : wS0k3_4.den S1 = some [b2i true] := tr (p := (0 : Int) ≤ (S1.Φ 21 [S1.ρ 4])) (Int.not_lt.1 c2)
          have d5 : wS0k3_5.den S1 = some [b2i true] := tr (p := (S1.Φ 21 [S1.ρ 4]) < S1.ρ 5) c3
          by_cases c6 : (S1.Φ 60 [(S1.Φ 21 [S1.ρ 4])]) = (S1.Φ 22 [S1.ρ 4])
          · have d6 : wS0k3_6.den S1 = some [b2i false] := fls (p := (S1.Φ 60 [(S1.Φ 21 [S1.ρ 4])]) ≠ (S1.Φ 22 [S1.ρ 4])) (fun hh => hh c6)
            obtain ⟨o4, h_o4⟩ : ∃ o : Int, o = (IntKind.i64.wrap (S1.ρ 4 + (1 : Int))) := ⟨_, rfl⟩
            have u4 := h_o4
            rw [w_i64 (by omega) (by omega)] at u4
            have inv : InvS0 S n (n - (i + 1)) (S1.set (upd S1.ρ [(4, o4)]) [(60, (fun j => ifE j ((S1.Φ 21 [S1.ρ 4])) ((S1.Φ 23 [S1.ρ 4])) ((fun j => S1.Φ 60 [j]) j)))] 60 rfl hK) := ⟨i + 1, by omega, rfl, (show o4 = ((i + 1 : Nat) : Int) by omega), fr.set rfl rfl⟩
            exact .inl ⟨_, _, (by omega : n - i = n - (i + 1) + 1), inv, _, [], _, 1000, _, [], (ai wS0k3_6 false d6 (ai wS0k3_5 true d5 (ai wS0k3_4 true d4 (ai wS0k3_3 false d3 (ai wS0k3_2 false d2 (ai wS0k3_1 true d1 (ai wS0k3_0 true d0 (ain kTS .u8 3 dk (AlOk.nil _))))))))), hcs, LkOk.no _ _ _ _, (av 1 .i64 (an 4 (.bin .add (.var .i64 4) (.lit .i64 1)) (sm h_o4.symm) (av 14 .i64 (av 13 .u64 (av 12 .u64 (av 11 .i64 (av 10 .u8 (av 5 .i64 (ar 60 (ar_upd (.app .i64 21 (.cons (.var .i64 4) .nil)) (.app .u64 23 (.cons (.var .i64 4) .nil)) (i := (S1.Φ 21 [S1.ρ 4])) (v := (S1.Φ 23 [S1.ρ 4])) rfl rfl (by kernel_rfl) (ar_var 60)) (av 6 .i64 (ar 61 (ar_var 61) (av 6 .i64 (av 5 .i64 (asg_nil rfl)))))))))))))), fun G => by kernel_rfl⟩
          · have d6 : wS0k3_6.den S1 = some [b2i true] := tr (p := (S1.Φ 60 [(S1.Φ 21 [S1.ρ 4])]) ≠ (S1.Φ 22 [S1.ρ 4])) c6
            obtain ⟨o4, h_o4⟩ : ∃ o : Int, o = (IntKind.i64.wrap (S1.ρ 4 + (1 : Int))) := ⟨_, rfl⟩
            have u4 := h_o4
            rw [w_i64 (by omega) (by omega)] at u4
            have inv : InvS0 S n (n - (i + 1)) (S1.set (upd S1.ρ [(4, o4)]) [] 60 rfl hK) := ⟨i + 1, by omega, rfl, (show o4 = ((i + 1 : Nat) : Int) by omega), fr.set rfl rfl⟩
            exact .inl ⟨_, _, (by omega : n - i = n - (i + 1) + 1), inv, _, [], _, 1000, _, [], (ai wS0k3_6 true d6 (ai wS0k3_5 true d5 (ai wS0k3_4 true d4 (ai wS0k3_3 false d3 (ai wS0k3_2 false d2 (ai wS0k3_1 true d1 (ai wS0k3_0 true d0 (ain kTS .u8 3 dk (AlOk.nil _))))))))), hcs, LkOk.no _ _ _ _, (av 1 .i64 (an 4 (.bin .add (.var .i64 4) (.lit .i64 1)) (sm h_o4.symm) (av 14 .i64 (av 13 .u64 (av 12 .u64 (av 11 .i64 (av 10 .u8 (av 5 .i64 (ar 60 (ar_var 60) (av 6 .i64 (ar 61 (ar_var 61) (av 6 .i64 (av 5 .i64 (asg_nil rfl)))))))))))))), fun G => by kernel_rfl⟩
        · have d3 : wS0k3_3.den S1 = some [b2i true] := tr (p := S1.ρ 5 ≤ (S1.Φ 21 [S1.ρ 4])) (Int.not_lt.1 c3)
          obtain ⟨o4, h_o4⟩ : ∃ o : Int, o = (IntKind.i64.wrap (S1.ρ 4 + (1 : Int))) := ⟨_, rfl⟩
          have u4 := h_o4
          rw [w_i64 (by omega) (by omega)] at u4
          have inv : InvS0 S n (n - (i + 1)) (S1.set (upd S1.ρ [(4, o4)]) [] 60 rfl hK) := ⟨i + 1, by omega, rfl, (show o4 = ((i + 1 : Nat) : Int) by omega), fr.set rfl rfl⟩
          exact .inl ⟨_, _, (by omega : n - i = n - (i + 1) + 1), inv, _, [], _, 1000, _, [], (ai wS0k3_3 true d3 (ai wS0k3_2 false d2 (ai wS0k3_1 true d1 (ai wS0k3_0 true d0 (ain kTS .u8 3 dk (AlOk.nil _)))))), hcs, LkOk.no _ _ _ _, (av 1 .i64 (an 4 (.bin .add (.var .i64 4) (.lit .i64 1)) (sm h_o4.symm) (av 14 .i64 (av 13 .u64 (av 12 .u64 (av 11 .i64 (av 10 .u8 (av 5 .i64 (ar 60 (ar_var 60) (av 6 .i64 (ar 61 (ar_var 61) (av 6 .i64 (av 5 .i64 (asg_nil rfl)))))))))))))), fun G => by kernel_rfl⟩
    · have d0 : wS0k3_0.den S1 = some [b2i false] := fls (p := S1.ρ 4 < S1.ρ 1) c0
      exact .inr ⟨by omega, fun T hT => ⟨_, [], _, 1000, _, [], (ai wS0k3_0 false d0 (ain kTS .u8 3 dk (AlOk.nil _))), hcs, LkOk.no _ _ _ _, (an 14 (.var .i64 14) (sm (hT.num 14 rfl)) (an 13 (.var .u64 13) (sm (hT.num 13 rfl)) (an 12 (.var .u64 12) (sm (hT.num 12 rfl)) (an 11 (.var .i64 11) (sm (hT.num 11 rfl)) (an 10 (.var .u8 10) (sm (hT.num 10 rfl)) (an 5 (.var .i64 5) (sm (hT.num 5 rfl)) (asg_arr (i := 60) (hT.row 60 rfl) (an 6 (.var .i64 6) (sm (hT.num 6 rfl)) (asg_arr (i := 61) (hT.row 61 rfl) (an 6 (.var .i64 6) (sm (hT.num 6 rfl)) (an 5 (.var .i64 5) (sm (hT.num 5 rfl)) (asg_nil hT.1)))))))))))), fun G => by kernel_rfl⟩⟩
  · have dk : kTS.den S1 = some [4] := (show some [S1.Φ 20 [S1.ρ 4]] = _ from by rw [hk])
    by_cases c0 : S1.ρ 4 < S1.ρ 1
    · have d0 : wS0k4_0.den S1 = some [b2i true] := tr (p := S1.ρ 4 < S1.ρ 1) c0
      have c1 : ¬ (S1.ρ 4 < (0 : Int)) := by have := k0; omega
      have d1 : wS0k4_1.den S1 = some [b2i true] := tr (p := (0 : Int) ≤ S1.ρ 4) (Int.not_lt.1 c1)
      by_cases c2 : (S1.Φ 21 [S1.ρ 4]) < (0 : Int)
      · have d2 : wS0k4_2.den S1 = some [b2i true] := tr (p := (S1.Φ 21 [S1.ρ 4]) < (0 : Int)) c2
        obtain ⟨o4, h_o4⟩ : ∃ o : Int, o = (IntKind.i64.wrap (S1.ρ 4 + (1 : Int))) := ⟨_, rfl⟩
        have u4 := h_o4
        rw [w_i64 (by omega) (by omega)] at u4
        have inv : InvS0 S n (n - (i + 1)) (S1.set (upd S1.ρ [(4, o4)]) [] 60 rfl hK) := ⟨i + 1, by omega, rfl, (show o4 = ((i + 1 : Nat) : Int) by omega), fr.set rfl rfl⟩
        exact .inl ⟨_, _, (by omega : n - i = n - (i + 1) + 1), inv, _, [], _, 1000, _, [], (ai wS0k4_2 true d2 (ai wS0k4_1 true d1 (ai wS0k4_0 true d0 (ain kTS .u8 4 dk (AlOk.nil _))))), hcs, LkOk.no _ _ _ _, (av 1 .i64 (an 4 (.bin .add (.var .i64 4) (.lit .i64 1)) (sm h_o4.symm) (av 14 .i64 (av 13 .u64 (av 12 .u64 (av 11 .i64 (av 10 .u8 (av 5 .i64 (ar 60 (ar_var 60) (av 6 .i64 (ar 61 (ar_var 61) (av 6 .i64 (av 5 .i64 (asg_nil rfl)))))))))))))), fun G => by kernel_rfl⟩
      · have d2 : wS0k4_2.den S1 = some [b2i false] := fls (p := (S1.Φ 21 [S1.ρ 4]) < (0 : Int)) c2
        by_cases c3 : (S1.Φ 21 [S1.ρ 4]) < S1.ρ 5
        · have d3 : wS0k4_3.den S1 = some [b2i false] := fls (p := S1.ρ 5 ≤ (S1.Φ 21 [S1.ρ 4])) (Int.not_le.2 c3)
          have d4 : wS0k4_4.den S1 = some [b2i true] := tr (p := (0 : Int) ≤ (S1.Φ 21 [S1.ρ 4])) (Int.not_lt.1 c2)
          have d5 : wS0k4_5.den S1 = some [b2i true] := tr (p := (S1.Φ 21 [S1.ρ 4]) < S1.ρ 5) c3
          obtain ⟨o4, h_o4⟩ : ∃ o : Int, o = (IntKind.i64.wrap (S1.ρ 4 + (1 : Int))) := ⟨_, rfl⟩
          have u4 := h_o4
          rw [w_i64 (by omega) (by omega)] at u4
          have inv : InvS0 S n (n - (i + 1)) (S1.set (upd S1.ρ [(4, o4)]) [(60, (fun j => ifE j ((S1.Φ 21 [S1.ρ 4])) ((IntKind.u64.wrap ((S1.Φ 60 [(S1.Φ 21 [S1.ρ 4])]) + (S1.Φ 22 [S1.ρ 4])))) ((fun j => S1.Φ 60 [j]) j)))] 60 rfl hK) := ⟨i + 1, by omega, rfl, (show o4 = ((i + 1 : Nat) : Int) by omega), fr.set rfl rfl⟩
          exact .inl ⟨_, _, (by omega : n - i = n - (i + 1) + 1), inv, _, [], _, 1000, _, [], (ai wS0k4_5 true d5 (ai wS0k4_4 true d4 (ai wS0k4_3 false d3 (ai wS0k4_2 false d2 (ai wS0k4_1 true d1 (ai wS0k4_0 true d0 (ain kTS .u8 4 dk (AlOk.nil _)))))))), hcs, LkOk.no _ _ _ _, (av 1 .i64 (an 4 (.bin .add (.var .i64 4) (.lit .i64 1)) (sm h_o4.symm) (av 14 .i64 (av 13 .u64 (av 12 .u64 (av 11 .i64 (av 10 .u8 (av 5 .i64 (ar 60 (ar_upd (.app .i64 21 (.cons (.var .i64 4) .nil)) (.bin .add (.app .u64 60 (.cons (.app .i64 21 (.cons (.var .i64 4) .nil)) .nil)) (.app .u64 22 (.cons (.var .i64 4) .nil))) (i := (S1.Φ 21 [S1.ρ 4])) (v := (IntKind.u64.wrap ((S1.Φ 60 [(S1.Φ 21 [S1.ρ 4])]) + (S1.Φ 22 [S1.ρ 4])))) rfl rfl (by kernel_rfl) (ar_var 60)) (av 6 .i64 (ar 61 (ar_var 61) (av 6 .i64 (av 5 .i64 (asg_nil rfl)))))))))))))), fun G => by kernel_rfl⟩
        · have d3 : wS0k4_3.den S1 = some [b2i true] := tr (p := S1.ρ 5 ≤ (S1.Φ 21 [S1.ρ 4])) (Int.not_lt.1 c3)
          obtain ⟨o4, h_o4⟩ : ∃ o : Int, o = (IntKind.i64.wrap (S1.ρ 4 + (1 : Int))) := ⟨_, rfl⟩
          have u4 := h_o4
          rw [w_i64 (by omega) (by omega)] at u4
          have inv : InvS0 S n (n - (i + 1)) (S1.set (upd S1.ρ [(4, o4)]) [] 60 rfl hK) := ⟨i + 1, by omega, rfl, (show o4 = ((i + 1 : Nat) : Int) by omega), fr.set rfl rfl⟩
          exact .inl ⟨_, _, (by omega : n - i = n - (i + 1) + 1), inv, _, [], _, 1000, _, [], (ai wS0k4_3 true d3 (ai wS0k4_2 false d2 (ai wS0k4_1 true d1 (ai wS0k4_0 true d0 (ain kTS .u8 4 dk (AlOk.nil _)))))), hcs, LkOk.no _ _ _ _, (av 1 .i64 (an 4 (.bin .add (.var .i64 4) (.lit .i64 1)) (sm h_o4.symm) (av 14 .i64 (av 13 .u64 (av 12 .u64 (av 11 .i64 (av 10 .u8 (av 5 .i64 (ar 60 (ar_var 60) (av 6 .i64 (ar 61 (ar_var 61) (av 6 .i64 (av 5 .i64 (asg_nil rfl)))))))))))))), fun G => by kernel_rfl⟩
    · have d0 : wS0k4_0.den S1 = some [b2i false] := fls (p := S1.ρ 4 < S1.ρ 1) c0
      exact .inr ⟨by omega, fun T hT => ⟨_, [], _, 1000, _, [], (ai wS0k4_0 false d0 (ain kTS .u8 4 dk (AlOk.nil _))), hcs, LkOk.no _ _ _ _, (an 14 (.var .i64 14) (sm (hT.num 14 rfl)) (an 13 (.var .u64 13) (sm (hT.num 13 rfl)) (an 12 (.var .u64 12) (sm (hT.num 12 rfl)) (an 11 (.var .i64 11) (sm (hT.num 11 rfl)) (an 10 (.var .u8 10) (sm (hT.num 10 rfl)) (an 5 (.var .i64 5) (sm (hT.num 5 rfl)) (asg_arr (i := 60) (hT.row 60 rfl) (an 6 (.var .i64 6) (sm (hT.num 6 rfl)) (asg_arr (i := 61) (hT.row 61 rfl) (an 6 (.var .i64 6) (sm (hT.num 6 rfl)) (an 5 (.var .i64 5) (sm (hT.num 5 rfl)) (asg_nil hT.1)))))))))))), fun G => by kernel_rfl⟩⟩
  · have dk : kTS.den S1 = some [5] := (show some [S1.Φ 20 [S1.ρ 4]] = _ from by rw [hk])
    by_cases c0 : S1.ρ 4 < S1.ρ 1
    · have d0 : wS0k5_0.den S1 = some [b2i true] := tr (p := S1.ρ 4 < S1.ρ 1) c0
      have c1 : ¬ (S1.ρ 4 < (0 : Int)) := by have := k0; omega
      have d1 : wS0k5_1.den S1 = some [b2i true] := tr (p := (0 : Int) ≤ S1.ρ 4) (Int.not_lt.1 c1)
      by_cases c2 : (S1.Φ 21 [S1.ρ 4]) < (0 : Int)
      · have d2 : wS0k5_2.den S1 = some [b2i true] := tr (p := (S1.Φ 21 [S1.ρ 4]) < (0 : Int)) c2
        obtain ⟨o4, h_o4⟩ : ∃ o : Int, o = (IntKind.i64.wrap (S1.ρ 4 + (1 : Int))) := ⟨_, rfl⟩
        have u4 := h_o4
        rw [w_i64 (by omega) (by omega)] at u4
        have inv : InvS0 S n (n - (i + 1)) (S1.set (upd S1.ρ [(4, o4)]) [] 60 rfl hK) := ⟨i + 1, by omega, rfl, (show o4 = ((i + 1 : Nat) : Int) by omega), fr.set rfl rfl⟩
        exact .inl ⟨_, _, (by omega : n - i = n - (i + 1) + 1), inv, _, [], _, 1000, _, [], (ai wS0k5_2 true d2 (ai wS0k5_1 true d1 (ai wS0k5_0 true d0 (ain kTS .u8 5 dk (AlOk.nil _))))), hcs, LkOk.no _ _ _ _, (av 1 .i64 (an 4 (.bin .add (.var .i64 4) (.lit .i64 1)) (sm h_o4.symm) (av 14 .i64 (av 13 .u64 (av 12 .u64 (av 11 .i64 (av 10 .u8 (av 5 .i64 (ar 60 (ar_var 60) (av 6 .i64 (ar 61 (ar_var 61) (av 6 .i64 (av 5 .i64 (asg_nil rfl)))))))))))))), fun G => by kernel_rfl⟩
      · have d2 : wS0k5_2.den S1 = some [b2i false] := fls (p := (S1.Φ 21 [S1.ρ 4]) < (0 : Int)) c2
        by_cases c3 : (S1.Φ 21 [S1.ρ 4]) < S1.ρ 6
        · have d3 : wS0k5_3.den S1 = some [b2i false] := fls (p := S1.ρ 6 ≤ (S1.Φ 21 [S1.ρ 4])) (Int.not_le.2 c3)
          have d4 : wS0k5_4.den S1 = some [b2i true] := tr (p := (0 : Int) ≤ (S1.Φ 21 [S1.ρ 4])) (Int.not_lt.1 c2)
          have d5 : wS0k5_5.den S1 = some [b2i true] := tr (p := (S1.Φ 21 [S1.ρ 4]) < S1.ρ 6) c3
          obtain ⟨o4, h_o4⟩ : ∃ o : Int, o = (IntKind.i64.wrap (S1.ρ 4 + (1 : Int))) := ⟨_, rfl⟩
          have u4 := h_o4
          rw [w_i64 (by omega) (by omega)] at u4
          have inv : InvS0 S n (n - (i + 1)) (S1.set (upd S1.ρ [(4, o4)]) [] 60 rfl hK) := ⟨i + 1, by omega, rfl, (show o4 = ((i + 1 : Nat) : Int) by omega), fr.set rfl rfl⟩
          exact .inl ⟨_, _, (by omega : n - i = n - (i + 1) + 1), inv, _, [], _, 1000, _, [], (ai wS0k5_5 true d5 (ai wS0k5_4 true d4 (ai wS0k5_3 false d3 (ai wS0k5_2 false d2 (ai wS0k5_1 true d1 (ai wS0k5_0 true d0 (ain kTS .u8 5 dk (AlOk.nil _)))))))), hcs, LkOk.no _ _ _ _, (av 1 .i64 (an 4 (.bin .add (.var .i64 4) (.lit .i64 1)) (sm h_o4.symm) (av 14 .i64 (av 13 .u64 (av 12 .u64 (av 11 .i64 (av 10 .u8 (av 5 .i64 (ar 60 (ar_var 60) (av 6 .i64 (ar 61 (ar_var 61) (av 6 .i64 (av 5 .i64 (asg_nil rfl)))))))))))))), fun G => by kernel_rfl⟩
        · have d3 : wS0k5_3.den S1 = some [b2i true] := tr (p := S1.ρ 6 ≤ (S1.Φ 21 [S1.ρ 4])) (Int.not_lt.1 c3)
          obtain ⟨o4, h_o4⟩ : ∃ o : Int, o = (IntKind.i64.wrap (S1.ρ 4 + (1 : Int))) := ⟨_, rfl⟩
          have u4 := h_o4
          rw [w_i64 (by omega) (by omega)] at u4
          have inv : InvS0 S n (n - (i + 1)) (S1.set (upd S1.ρ [(4, o4)]) [] 60 rfl hK) := ⟨i + 1, by omega, rfl, (show o4 = ((i + 1 : Nat) : Int) by omega), fr.set rfl rfl⟩
          exact .inl ⟨_, _, (by omega : n - i = n - (i + 1) + 1), inv, _, [], _, 1000, _, [], (ai wS0k5_3 true d3 (ai wS0k5_2 false d2 (ai wS0k5_1 true d1 (ai wS0k5_0 true d0 (ain kTS .u8 5 dk (AlOk.nil _)))))), hcs, LkOk.no _ _ _ _, (av 1 .i64 (an 4 (.bin .add (.var .i64 4) (.lit .i64 1)) (sm h_o4.symm) (av 14 .i64 (av 13 .u64 (av 12 .u64 (av 11 .i64 (av 10 .u8 (av 5 .i64 (ar 60 (ar_var 60) (av 6 .i64 (ar 61 (ar_var 61) (av 6 .i64 (av 5 .i64 (asg_nil rfl)))))))))))))), fun G => by kernel_rfl⟩
    · have d0 : wS0k5_0.den S1 = some [b2i false] := fls (p := S1.ρ 4 < S1.ρ 1) c0
      exact .inr ⟨by omega, fun T hT => ⟨_, [], _, 1000, _, [], (ai wS0k5_0 false d0 (ain kTS .u8 5 dk (AlOk.nil _))), hcs, LkOk.no _ _ _ _, (an 14 (.var .i64 14) (sm (hT.num 14 rfl)) (an 13 (.var .u64 13) (sm (hT.num 13 rfl)) (an 12 (.var .u64 12) (sm (hT.num 12 rfl)) (an 11 (.var .i64 11) (sm (hT.num 11 rfl)) (an 10 (.var .u8 10) (sm (hT.num 10 rfl)) (an 5 (.var .i64 5) (sm (hT.num 5 rfl)) (asg_arr (i := 60) (hT.row 60 rfl) (an 6 (.var .i64 6) (sm (hT.num 6 rfl)) (asg_arr (i := 61) (hT.row 61 rfl) (an 6 (.var .i64 6) (sm (hT.num 6 rfl)) (an 5 (.var .i64 5) (sm (hT.num 5 rfl)) (asg_nil hT.1)))))))))))), fun G => by kernel_rfl⟩⟩
  · have dk : kTS.den S1 = some [6] := (show some [S1.Φ 20 [S1.ρ 4]] = _ from by rw [hk])
    by_cases c0 : S1.ρ 4 < S1.ρ 1
    · have d0 : wS0k6_0.den S1 = some [b2i true] := tr (p := S1.ρ 4 < S1.ρ 1) c0
      have c1 : ¬ (S1.ρ 4 < (0 : Int)) := by have := k0; omega
      have d1 : wS0k6_1.den S1 = some [b2i true] := tr (p := (0 : Int) ≤ S1.ρ 4) (Int.not_lt.1 c1)
      by_cases c2 : (S1.Φ 21 [S1.ρ 4]) < (0 : Int)
      · have d2 : wS0k6_2.den S1 = some [b2i true] := tr (p := (S1.Φ 21 [S1.ρ 4]) < (0 : Int)) c2
        obtain ⟨o4, h_o4⟩ : ∃ o : Int, o = (IntKind.i64.wrap (S1.ρ 4 + (1 : Int))) := ⟨_, rfl⟩
        have u4 := h_o4
        rw [w_i64 (by omega) (by omega)] at u4
        have inv : InvS0 S n (n - (i + 1)) (S1.set (upd S1.ρ [(4, o4)]) [] 60 rfl hK) := ⟨i + 1, by omega, rfl, (show o4 = ((i + 1 : Nat) : Int) by omega), fr.set rfl rfl⟩
        exact .inl ⟨_, _, (by omega : n - i = n - (i + 1) + 1), inv, _, [], _, 1000, _, [], (ai wS0k6_2 true d2 (ai wS0k6_1 true d1 (ai wS0k6_0 true d0 (ain kTS .u8 6 dk (AlOk.nil _))))), hcs, LkOk.no _ _ _ _, (av 1 .i64 (an 4 (.bin .add (.var .i64 4) (.lit .i64 1)) (sm h_o4.symm) (av 14 .i64 (av 13 .u64 (av 12 .u64 (av 11 .i64 (av 10 .u8 (av 5 .i64 (ar 60 (ar_var 60) (av 6 .i64 (ar 61 (ar_var 61) (av 6 .i64 (av 5 .i64 (asg_nil rfl)))))))))))))), fun G => by kernel_rfl⟩
      · have d2 : wS0k6_2.den S1 = some [b2i false] := fls (p := (S1.Φ 21 [S1.ρ 4]) < (0 : Int)) c2
        by_cases c3 : (S1.Φ 21 [S1.ρ 4]) < S1.ρ 6
        · have d3 : wS0k6_3.den S1 = some [b2i false] := fls (p := S1.ρ 6 ≤ (S1.Φ 21 [S1.ρ 4])) (Int.not_le.2 c3)
          have d4 : wS0k6_4.den S1 = some [b2i true] := tr (p := (0 : Int) ≤ (S1.Φ 21 [S1.ρ 4])) (Int.not_lt.1 c2)
          have d5 : wS0k6_5.den S1 = some [b2i true] := tr (p := (S1.Φ 21 [S1.ρ 4]) < S1.ρ 6) c3
          obtain ⟨o4, h_o4⟩ : ∃ o : Int, o = (IntKind.i64.wrap (S1.ρ 4 + (1 : Int))) := ⟨_, rfl⟩
          have u4 := h_o4
          rw [w_i64 (by omega) (by omega)] at u4
          have inv : InvS0 S n (n - (i + 1)) (S1.set (upd S1.ρ [(4, o4)]) [(61, (fun j => ifE j ((S1.Φ 21 [S1.ρ 4])) ((IntKind.u8.wrap ((S1.Φ 22 [S1.ρ 4])))) ((fun j => S1.Φ 61 [j]) j)))] 60 rfl hK) := ⟨i + 1, by omega, rfl, (show o4 = ((i + 1 : Nat) : Int) by omega), fr.set rfl rfl⟩
          exact .inl ⟨_, _, (by omega : n - i = n - (i + 1) + 1), inv, _, [], _, 1000, _, [], (ai wS0k6_5 true d5 (ai wS0k6_4 true d4 (ai wS0k6_3 false d3 (ai wS0k6_2 false d2 (ai wS0k6_1 true d1 (ai wS0k6_0 true d0 (ain kTS .u8 6 dk (AlOk.nil _)))))))), hcs, LkOk.no _ _ _ _, (av 1 .i64 (an 4 (.bin .add (.var .i64 4) (.lit .i64 1)) (sm h_o4.symm) (av 14 .i64 (av 13 .u64 (av 12 .u64 (av 11 .i64 (av 10 .u8 (av 5 .i64 (ar 60 (ar_var 60) (av 6 .i64 (ar 61 (ar_upd (.app .i64 21 (.cons (.var .i64 4) .nil)) (.conv .u8 (.app .u64 22 (.cons (.var .i64 4) .nil))) (i := (S1.Φ 21 [S1.ρ 4])) (v := (IntKind.u8.wrap ((S1.Φ 22 [S1.ρ 4])))) rfl rfl (by kernel_rfl) (ar_var 61)) (av 6 .i64 (av 5 .i64 (asg_nil rfl)))))))))))))), fun G => by kernel_rfl⟩
        · have d3 : wS0k6_3.den S1 = some [b2i true] := tr (p := S1.ρ 6 ≤ (S1.Φ 21 [S1.ρ 4])) (Int.not_lt.1 c3)
          obtain ⟨o4, h_o4⟩ : ∃ o : Int, o = (IntKind.i64.wrap (S1.ρ 4 + (1 : Int))) := ⟨_, rfl⟩
          have u4 := h_o4
          rw [w_i64 (by omega) (by omega)] at u4
          have inv : InvS0 S n (n - (i + 1)) (S1.set (upd S1.ρ [(4, o4)]) [] 60 rfl hK) := ⟨i + 1, by omega, rfl, (show o4 = ((i + 1 : Nat) : Int) by omega), fr.set rfl rfl⟩
          exact .inl ⟨_, _, (by omega : n - i = n - (i + 1) + 1), inv, _, [], _, 1000, _, [], (ai wS0k6_3 true d3 (ai wS0k6_2 false d2 (ai wS0k6_1 true d1 (ai wS0k6_0 true d0 (ain kTS .u8 6 dk (AlOk.nil _)))))), hcs, LkOk.no _ _ _ _, (av 1 .i64 (an 4 (.bin .add (.var .i64 4) (.lit .i64 1)) (sm h_o4.symm) (av 14 .i64 (av 13 .u64 (av 12 .u64 (av 11 .i64 (av 10 .u8 (av 5 .i64 (ar 60 (ar_var 60) (av 6 .i64 (ar 61 (ar_var 61) (av 6 .i64 (av 5 .i64 (asg_nil rfl)))))))))))))), fun G => by kernel_rfl⟩
    · have d0 : wS0k6_0.den S1 = some [b2i false] := fls (p := S1.ρ 4 < S1.ρ 1) c0
      exact .inr ⟨by omega, fun T hT => ⟨_, [], _, 1000, _, [], (ai wS0k6_0 false d0 (ain kTS .u8 6 dk (AlOk.nil _))), hcs, LkOk.no _ _ _ _, (an 14 (.var .i64 14) (sm (hT.num 14 rfl)) (an 13 (.var .u64 13) (sm (hT.num 13 rfl)) (an 12 (.var .u64 12) (sm (hT.num 12 rfl)) (an 11 (.var .i64 11) (sm (hT.num 11 rfl)) (an 10 (.var .u8 10) (sm (hT.num 10 rfl)) (an 5 (.var .i64 5) (sm (hT.num 5 rfl)) (asg_arr (i := 60) (hT.row 60 rfl) (an 6 (.var .i64 6) (sm (hT.num 6 rfl)) (asg_arr (i := 61) (hT.row 61 rfl) (an 6 (.var .i64 6) (sm (hT.num 6 rfl)) (an 5 (.var .i64 5) (sm (hT.num 5 rfl)) (asg_nil hT.1)))))))))))), fun G => by kernel_rfl⟩⟩
  · by_cases c0 : S1.ρ 4 < S1.ρ 1
    · have d0 : wS0k7_0.den S1 = some [b2i true] := tr (p := S1.ρ 4 < S1.ρ 1) c0
      have c1 : ¬ (S1.ρ 4 < (0 : Int)) := by have := k0; omega
      have d1 : wS0k7_1.den S1 = some [b2i true] := tr (p := (0 : Int) ≤ S1.ρ 4) (Int.not_lt.1 c1)
      have c2 : ¬ ((IntKind.i64.wrap ((S1.Φ 20 [S1.ρ 4]))) < (7 : Int)) := by have := k0 (by omega); rw [w_i64 (by omega) (by omega)]; omega
      have d2 : wS0k7_2.den S1 = some [b2i true] := tr (p := (7 : Int) ≤ (IntKind.i64.wrap ((S1.Φ 20 [S1.ρ 4])))) (Int.not_lt.1 c2)
      obtain ⟨o4, h_o4⟩ : ∃ o : Int, o = (IntKind.i64.wrap (S1.ρ 4 + (1 : Int))) := ⟨_, rfl⟩
      have u4 := h_o4
      rw [w_i64 (by omega) (by omega)] at u4
      have inv : InvS0 S n (n - (i + 1)) (S1.set (upd S1.ρ [(4, o4)]) [] 60 rfl hK) := ⟨i + 1, by omega, rfl, (show o4 = ((i + 1 : Nat) : Int) by omega), fr.set rfl rfl⟩
      exact .inl ⟨_, _, (by omega : n - i = n - (i + 1) + 1), inv, _, [], _, 1000, _, [], (ai wS0k7_2 true d2 (ai wS0k7_1 true d1 (ai wS0k7_0 true d0 (AlOk.nil _)))), hcs, LkOk.no _ _ _ _, (av 1 .i64 (an 4 (.bin .add (.var .i64 4) (.lit .i64 1)) (sm h_o4.symm) (av 14 .i64 (av 13 .u64 (av 12 .u64 (av 11 .i64 (av 10 .u8 (av 5 .i64 (ar 60 (ar_var 60) (av 6 .i64 (ar 61 (ar_var 61) (av 6 .i64 (av 5 .i64 (asg_nil rfl)))))))))))))), fun G => by kernel_rfl⟩
    · have d0 : wS0k7_0.den S1 = some [b2i false] := fls (p := S1.ρ 4 < S1.ρ 1) c0
      exact .inr ⟨by omega, fun T hT => ⟨_, [], _, 1000, _, [], (ai wS0k7_0 false d0 (AlOk.nil _)), hcs, LkOk.no _ _ _ _, (an 14 (.var .i64 14) (sm (hT.num 14 rfl)) (an 13 (.var .u64 13) (sm (hT.num 13 rfl)) (an 12 (.var .u64 12) (sm (hT.num 12 rfl)) (an 11 (.var .i64 11) (sm (hT.num 11 rfl)) (an 10 (.var .u8 10) (sm (hT.num 10 rfl)) (an 5 (.var .i64 5) (sm (hT.num 5 rfl)) (asg_arr (i := 60) (hT.row 60 rfl) (an 6 (.var .i64 6) (sm (hT.num 6 rfl)) (asg_arr (i := 61) (hT.row 61 rfl) (an 6 (.var .i64 6) (sm (hT.num 6 rfl)) (an 5 (.var .i64 5) (sm (hT.num 5 rfl)) (asg_nil hT.1)))))))))))), fun G => by kernel_rfl⟩⟩
theorem loopS0 (hn : n < 9223372036854775807) (hb : S.ρ 1 = n) (h5 : 0 ≤ S.ρ 5 ∧ S.ρ 5 < 41) (h6 : 0 ≤ S.ρ 6 ∧ S.ρ 6 < 41) (hr20 : ∀ j : Nat, j < n → (0 ≤ S.Φ 20 [(j : Int)] ∧ S.Φ 20 [(j : Int)] < 256)) (hK0 : ∀ x ∈ S.I, x.f + x.ks.length ≤ 60) (h0 : S.ρ 4 = 0) : ∃ Sf : Sy, (Sf.ρ 4 = n ∧ Stay [4] [60, 61] S Sf) ∧ ∀ T asg0, Same [14, 13, 12, 11, 10, 5, 6] [60, 61] Sf T → AsgOk T S asg0 → LkAt Try.prog T [] (.loop (cAt Try.prog lpS0)) (lkLoopR Try.prog 4 [] X0S F0S (.exit 0) asg0) := by
  obtain ⟨m, k', Sf, hc, ⟨i, hin, hk, hiv, fr⟩, hf⟩ := loop_ex (stepS0 S n hn hb h5 h6 hr20 hK0) n S ⟨0, Nat.zero_le _, rfl, h0, Stay.refl _ _ _⟩
  have hk0 := hf.1
  obtain rfl : i = n := by omega
  exact ⟨Sf, ⟨hiv, fr⟩, fun T asg0 hs ha => loop_chain envS (ann_self _) fineS0 (show X0S.N = F0S.N from rfl) (Nat.le_of_ble_eq_true rfl) hc (hf.2 T hs) ha⟩
end
def wW110 : Tm := (.bin .lss (.var .i64 17) (.var .i64 5))
def wW111 : Tm := (.bin .geq (.var .i64 17) (.lit .i64 0))
def wW112 : Tm := (.bin .neq (.app .u64 70 (.cons (.var .i64 17) .nil)) (.app .u64 70 (.cons (.var .i64 17) .nil)))
section
variable (S : Sy) (n : Nat)
abbrev RW11 : Sy → Sy → Prop := StepTo Try.prog ftS ΛS [] (cAt Try.prog lpS1) E11wS G11S 100
def InvW11 (k : Nat) (S1 : Sy) : Prop := ∃ i : Nat, i ≤ n ∧ k = n - i ∧ S1.ρ 17 = i ∧ Stay [17] [] S S1
def FinW11 (k : Nat) (S1 : Sy) : Prop := k = 0 ∧ ∀ T, Same [13, 12, 11, 10, 5, 6] [70, 71] S1 T → StepOut Try.prog ftS ΛS [] (cAt Try.prog lpS1) E11wS G11S (.exit 0) 100 S1 T
set_option maxHeartbeats 4000000 in
theorem stepW11 (hn : n < 9223372036854775807) (hb : S.ρ 5 = n) (h5 : 0 ≤ S.ρ 5 ∧ S.ρ 5 < 41) (hK0 : ∀ x ∈ S.I, x.f + x.ks.length ≤ 60) (k : Nat) (S1 : Sy) (hi : InvW11 S n k S1) : (∃ k' S2, k = k' + 1 ∧ InvW11 S n k' S2 ∧ RW11 S1 S2) ∨ FinW11 k S1 := by
  obtain ⟨i, hin, rfl, hiv, fr⟩ := hi
  have hcs : ∀ c ∈ ([] : List Ctr), CtrOk Try.prog S1 [] c := fun c hc => by simp at hc
  have hK : ∀ x ∈ S1.I, x.f + x.ks.length ≤ 60 := by rw [fr.1]; exact hK0
  have e5 := fr.num 5 rfl
  by_cases c0 : S1.ρ 17 < S1.ρ 5
  · have d0 : wW110.den S1 = some [b2i true] := tr (p := S1.ρ 17 < S1.ρ 5) c0
    have c1 : ¬ (S1.ρ 17 < (0 : Int)) := by omega
    have d1 : wW111.den S1 = some [b2i true] := tr (p := (0 : Int) ≤ S1.ρ 17) (Int.not_lt.1 c1)
    have c2 : (S1.Φ 70 [S1.ρ 17]) = (S1.Φ 70 [S1.ρ 17]) := rfl
    have d2 : wW112.den S1 = some [b2i false] := fls (p := (S1.Φ 70 [S1.ρ 17]) ≠ (S1.Φ 70 [S1.ρ 17])) (fun hh => hh c2)
    obtain ⟨o17, h_o17⟩ : ∃ o : Int, o = (IntKind.i64.wrap (S1.ρ 17 + (1 : Int))) := ⟨_, rfl⟩
    have u17 := h_o17
    rw [w_i64 (by omega) (by omega)] at u17
    have inv : InvW11 S n (n - (i + 1)) (S1.set (upd S1.ρ [(17, o17)]) [] 60 rfl hK) := ⟨i + 1, by omega, rfl, (show o17 = ((i + 1 : Nat) : Int) by omega), fr.set rfl rfl⟩
    exact .inl ⟨_, _, (by omega : n - i = n - (i + 1) + 1), inv, _, [], _, 1000, _, [], (ai wW112 false d2 (ai wW111 true d1 (ai wW110 true d0 (AlOk.nil _)))), hcs, LkOk.no _ _ _ _, (av 5 .i64 (av 5 .i64 (av 5 .i64 (an 17 (.bin .add (.var .i64 17) (.lit .i64 1)) (sm h_o17.symm) (av 13 .u64 (av 12 .u64 (av 11 .i64 (av 10 .u8 (av 5 .i64 (ar 70 (ar_var 70) (av 6 .i64 (ar 71 (ar_var 71) (av 6 .i64 (av 5 .i64 (av 5 .i64 (ar 70 (ar_var 70) (av 6 .i64 (ar 71 (ar_var 71) (av 6 .i64 (av 5 .i64 (asg_nil rfl))))))))))))))))))))), fun G => by kernel_rfl⟩
  · have d0 : wW110.den S1 = some [b2i false] := fls (p := S1.ρ 17 < S1.ρ 5) c0
    exact .inr ⟨by omega, fun T hT => ⟨_, [], _, 1000, _, [], (ai wW110 false d0 (AlOk.nil _)), hcs, LkOk.no _ _ _ _, (an 13 (.var .u64 13) (sm (hT.num 13 rfl)) (an 12 (.var .u64 12) (sm (hT.num 12 rfl)) (an 11 (.var .i64 11) (sm (hT.num 11 rfl)) (an 10 (.var .u8 10) (sm (hT.num 10 rfl)) (an 5 (.var .i64 5) (sm (hT.num 5 rfl)) (asg_arr (i := 70) (hT.row 70 rfl) (an 6 (.var .i64 6) (sm (hT.num 6 rfl)) (asg_arr (i := 71) (hT.row 71 rfl) (an 6 (.var .i64 6) (sm (hT.num 6 rfl)) (an 5 (.var .i64 5) (sm (hT.num 5 rfl)) (an 5 (.var .i64 5) (sm (hT.num 5 rfl)) (asg_arr (i := 70) (hT.row 70 rfl) (an 6 (.var .i64 6) (sm (hT.num 6 rfl)) (asg_arr (i := 71) (hT.row 71 rfl) (an 6 (.var .i64 6) (sm (hT.num 6 rfl)) (an 5 (.var .i64 5) (sm (hT.num 5 rfl)) (asg_nil hT.1))))))))))))))))), fun G => by kernel_rfl⟩⟩
theorem loopW11 (hn : n < 9223372036854775807) (hb : S.ρ 5 = n) (h5 : 0 ≤ S.ρ 5 ∧ S.ρ 5 < 41) (hK0 : ∀ x ∈ S.I, x.f + x.ks.length ≤ 60) (h0 : S.ρ 17 = 0) : ∃ Sf : Sy, (Sf.ρ 17 = n ∧ Stay [17] [] S Sf) ∧ ∀ T asg0, Same [13, 12, 11, 10, 5, 6] [70, 71] Sf T → AsgOk T S asg0 → LkAt Try.prog T [] (.loop (cAt Try.prog lpS1)) (lkLoopR Try.prog 100 [] E11wS G11S (.exit 0) asg0) := by
  obtain ⟨m, k', Sf, hc, ⟨i, hin, hk, hiv, fr⟩, hf⟩ := loop_ex (stepW11 S n hn hb h5 hK0) n S ⟨0, Nat.zero_le _, rfl, h0, Stay.refl _ _ _⟩
  have hk0 := hf.1
  obtain rfl : i = n := by omega
  exact ⟨Sf, ⟨hiv, fr⟩, fun T asg0 hs ha => loop_chain envS (ann_self _) fineS1 (show E11wS.N = G11S.N from rfl) (Nat.le_of_ble_eq_true rfl) hc (hf.2 T hs) ha⟩
end
def wB110 : Tm := (.bin .lss (.var .i64 17) (.var .i64 6))
def wB111 : Tm := (.bin .geq (.var .i64 17) (.lit .i64 0))
def wB112 : Tm := (.bin .neq (.app .u8 71 (.cons (.var .i64 17) .nil)) (.app .u8 71 (.cons (.var .i64 17) .nil)))
section
variable (S : Sy) (n : Nat)
abbrev RB11 : Sy → Sy → Prop := StepTo Try.prog ftS ΛS [] (cAt Try.prog lpS2) E11bS G11S 100
def InvB11 (k : Nat) (S1 : Sy) : Prop := ∃ i : Nat, i ≤ n ∧ k = n - i ∧ S1.ρ 17 = i ∧ Stay [17] [] S S1
def FinB11 (k : Nat) (S1 : Sy) : Prop := k = 0 ∧ ∀ T, Same [13, 12, 11, 10, 5, 6] [70, 71] S1 T → StepOut Try.prog ftS ΛS [] (cAt Try.prog lpS2) E11bS G11S (.exit 0) 100 S1 T
set_option maxHeartbeats 4000000 in
theorem stepB11 (hn : n < 9223372036854775807) (hb : S.ρ 6 = n) (h6 : 0 ≤ S.ρ 6 ∧ S.ρ 6 < 41) (hK0 : ∀ x ∈ S.I, x.f + x.ks.length ≤ 60) (k : Nat) (S1 : Sy) (hi : InvB11 S n k S1) : (∃ k' S2, k = k' + 1 ∧ InvB11 S n k' S2 ∧ RB11 S1 S2) ∨ FinB11 k S1 := by
  obtain ⟨i, hin, rfl, hiv, fr⟩ := hi
  have hcs : ∀ c ∈ ([] : List Ctr), CtrOk Try.prog S1 [] c := fun c hc => by simp at hc
  have hK : ∀ x ∈ S1.I, x.f + x.ks.length ≤ 60 := by rw [fr.1]; exact hK0
  have e6 := fr.num 6 rfl
  by_cases c0 : S1.ρ 17 < S1.ρ 6
  · have d0 : wB110.den S1 = some [b2i true] := tr (p := S1.ρ 17 < S1.ρ 6) c0
    have c1 : ¬ (S1.ρ 17 < (0 : Int)) := by omega
    have d1 : wB111.den S1 = some [b2i true] := tr (p := (0 : Int) ≤ S1.ρ 17) (Int.not_lt.1 c1)
    have c2 : (S1.Φ 71 [S1.ρ 17]) = (S1.Φ 71 [S1.ρ 17]) := rfl
    have d2 : wB112.den S1 = some [b2i false] := fls (p := (S1.Φ 71 [S1.ρ 17]) ≠ (S1.Φ 71 [S1.ρ 17])) (fun hh => hh c2)
    obtain ⟨o17, h_o17⟩ : ∃ o : Int, o = (IntKind.i64.wrap (S1.ρ 17 + (1 : Int))) := ⟨_, rfl⟩
    have u17 := h_o17
    rw [w_i64 (by omega) (by omega)] at u17
    have inv : InvB11 S n (n - (i + 1)) (S1.set (upd S1.ρ [(17, o17)]) [] 60 rfl hK) := ⟨i + 1, by omega, rfl, (show o17 = ((i + 1 : Nat) : Int) by omega), fr.set rfl rfl⟩
    exact .inl ⟨_, _, (by omega : n - i = n - (i + 1) + 1), inv, _, [], _, 1000, _, [], (ai wB112 false d2 (ai wB111 true d1 (ai wB110 true d0 (AlOk.nil _)))), hcs, LkOk.no _ _ _ _, (av 6 .i64 (av 6 .i64 (av 6 .i64 (an 17 (.bin .add (.var .i64 17) (.lit .i64 1)) (sm h_o17.symm) (av 13 .u64 (av 12 .u64 (av 11 .i64 (av 10 .u8 (av 5 .i64 (ar 70 (ar_var 70) (av 6 .i64 (ar 71 (ar_var 71) (av 6 .i64 (av 5 .i64 (av 5 .i64 (ar 70 (ar_var 70) (av 6 .i64 (ar 71 (ar_var 71) (av 6 .i64 (av 5 .i64 (asg_nil rfl))))))))))))))))))))), fun G => by kernel_rfl⟩
  · have d0 : wB110.den S1 = some [b2i false] := fls (p := S1.ρ 17 < S1.ρ 6) c0
    exact .inr ⟨by omega, fun T hT => ⟨_, [], _, 1000, _, [], (ai wB110 false d0 (AlOk.nil _)), hcs, LkOk.no _ _ _ _, (an 13 (.var .u64 13) (sm (hT.num 13 rfl)) (an 12 (.var .u64 12) (sm (hT.num 12 rfl)) (an 11 (.var .i64 11) (sm (hT.num 11 rfl)) (an 10 (.var .u8 10) (sm (hT.num 10 rfl)) (an 5 (.var .i64 5) (sm (hT.num 5 rfl)) (asg_arr (i := 70) (hT.row 70 rfl) (an 6 (.var .i64 6) (sm (hT.num 6 rfl)) (asg_arr (i := 71) (hT.row 71 rfl) (an 6 (.var .i64 6) (sm (hT.num 6 rfl)) (an 5 (.var .i64 5) (sm (hT.num 5 rfl)) (an 5 (.var .i64 5) (sm (hT.num 5 rfl)) (asg_arr (i := 70) (hT.row 70 rfl) (an 6 (.var .i64 6) (sm (hT.num 6 rfl)) (asg_arr (i := 71) (hT.row 71 rfl) (an 6 (.var .i64 6) (sm (hT.num 6 rfl)) (an 5 (.var .i64 5) (sm (hT.num 5 rfl)) (asg_nil hT.1))))))))))))))))), fun G => by kernel_rfl⟩⟩
theorem loopB11 (hn : n < 9223372036854775807) (hb : S.ρ 6 = n) (h6 : 0 ≤ S.ρ 6 ∧ S.ρ 6 < 41) (hK0 : ∀ x ∈ S.I, x.f + x.ks.length ≤ 60) (h0 : S.ρ 17 = 0) : ∃ Sf : Sy, (Sf.ρ 17 = n ∧ Stay [17] [] S Sf) ∧ ∀ T asg0, Same [13, 12, 11, 10, 5, 6] [70, 71] Sf T → AsgOk T S asg0 → LkAt Try.prog T [] (.loop (cAt Try.prog lpS2)) (lkLoopR Try.prog 100 [] E11bS G11S (.exit 0) asg0) := by
  obtain ⟨m, k', Sf, hc, ⟨i, hin, hk, hiv, fr⟩, hf⟩ := loop_ex (stepB11 S n hn hb h6 hK0) n S ⟨0, Nat.zero_le _, rfl, h0, Stay.refl _ _ _⟩
  have hk0 := hf.1
  obtain rfl : i = n := by omega
  exact ⟨Sf, ⟨hiv, fr⟩, fun T asg0 hs ha => loop_chain envS (ann_self _) fineS2 (show E11bS.N = G11S.N from rfl) (Nat.le_of_ble_eq_true rfl) hc (hf.2 T hs) ha⟩
end
def wB010 : Tm := (.bin .lss (.var .i64 17) (.var .i64 6))
def wB011 : Tm := (.bin .geq (.var .i64 17) (.lit .i64 0))
def wB012 : Tm := (.bin .neq (.app .u8 71 (.cons (.var .i64 17) .nil)) (.app .u8 71 (.cons (.var .i64 17) .nil)))
section
variable (S : Sy) (n : Nat)
abbrev RB01 : Sy → Sy → Prop := StepTo Try.prog ftS ΛS [] (cAt Try.prog lpS2) E01S G01S 100
def InvB01 (k : Nat) (S1 : Sy) : Prop := ∃ i : Nat, i ≤ n ∧ k = n - i ∧ S1.ρ 17 = i ∧ Stay [17] [] S S1
def FinB01 (k : Nat) (S1 : Sy) : Prop := k = 0 ∧ ∀ T, Same [13, 12, 11, 10, 5, 6] [70, 71] S1 T → StepOut Try.prog ftS ΛS [] (cAt Try.prog lpS2) E01S G01S (.exit 0) 100 S1 T
set_option maxHeartbeats 4000000 in
theorem stepB01 (hn : n < 9223372036854775807) (hb : S.ρ 6 = n) (h6 : 0 ≤ S.ρ 6 ∧ S.ρ 6 < 41) (hK0 : ∀ x ∈ S.I, x.f + x.ks.length ≤ 60) (k : Nat) (S1 : Sy) (hi : InvB01 S n k S1) : (∃ k' S2, k = k' + 1 ∧ InvB01 S n k' S2 ∧ RB01 S1 S2) ∨ FinB01 k S1 := by
  obtain ⟨i, hin, rfl, hiv, fr⟩ := hi
  have hcs : ∀ c ∈ ([] : List Ctr), CtrOk Try.prog S1 [] c := fun c hc => by simp at hc
  have hK : ∀ x ∈ S1.I, x.f + x.ks.length ≤ 60 := by rw [fr.1]; exact hK0
  have e6 := fr.num 6 rfl
  by_cases c0 : S1.ρ 17 < S1.ρ 6
  · have d0 : wB010.den S1 = some [b2i true] := tr (p := S1.ρ 17 < S1.ρ 6) c0
    have c1 : ¬ (S1.ρ 17 < (0 : Int)) := by omega
    have d1 : wB011.den S1 = some [b2i true] := tr (p := (0 : Int) ≤ S1.ρ 17) (Int.not_lt.1 c1)
    have c2 : (S1.Φ 71 [S1.ρ 17]) = (S1.Φ 71 [S1.ρ 17]) := rfl
    have d2 : wB012.den S1 = some [b2i false] := fls (p := (S1.Φ 71 [S1.ρ 17]) ≠ (S1.Φ 71 [S1.ρ 17])) (fun hh => hh c2)
    obtain ⟨o17, h_o17⟩ : ∃ o : Int, o = (IntKind.i64.wrap (S1.ρ 17 + (1 : Int))) := ⟨_, rfl⟩
    have u17 := h_o17
    rw [w_i64 (by omega) (by omega)] at u17
    have inv : InvB01 S n (n - (i + 1)) (S1.set (upd S1.ρ [(17, o17)]) [] 60 rfl hK) := ⟨i + 1, by omega, rfl, (show o17 = ((i + 1 : Nat) : Int) by omega), fr.set rfl rfl⟩
    exact .inl ⟨_, _, (by omega : n - i = n - (i + 1) + 1), inv, _, [], _, 1000, _, [], (ai wB012 false d2 (ai wB011 true d1 (ai wB010 true d0 (AlOk.nil _)))), hcs, LkOk.no _ _ _ _, (av 6 .i64 (av 6 .i64 (av 6 .i64 (an 17 (.bin .add (.var .i64 17) (.lit .i64 1)) (sm h_o17.symm) (av 13 .u64 (av 12 .u64 (av 11 .i64 (av 10 .u8 (av 5 .i64 (ar 70 (ar_var 70) (av 6 .i64 (ar 71 (ar_var 71) (av 6 .i64 (av 5 .i64 (av 6 .i64 (ar 71 (ar_var 71) (av 6 .i64 (asg_nil rfl)))))))))))))))))), fun G => by kernel_rfl⟩
  · have d0 : wB010.den S1 = some [b2i false] := fls (p := S1.ρ 17 < S1.ρ 6) c0
    exact .inr ⟨by omega, fun T hT => ⟨_, [], _, 1000, _, [], (ai wB010 false d0 (AlOk.nil _)), hcs, LkOk.no _ _ _ _, (an 13 (.var .u64 13) (sm (hT.num 13 rfl)) (an 12 (.var .u64 12) (sm (hT.num 12 rfl)) (an 11 (.var .i64 11) (sm (hT.num 11 rfl)) (an 10 (.var .u8 10) (sm (hT.num 10 rfl)) (an 5 (.var .i64 5) (sm (hT.num 5 rfl)) (asg_arr (i := 70) (hT.row 70 rfl) (an 6 (.var .i64 6) (sm (hT.num 6 rfl)) (asg_arr (i := 71) (hT.row 71 rfl) (an 6 (.var .i64 6) (sm (hT.num 6 rfl)) (an 5 (.var .i64 5) (sm (hT.num 5 rfl)) (an 6 (.var .i64 6) (sm (hT.num 6 rfl)) (asg_arr (i := 71) (hT.row 71 rfl) (an 6 (.var .i64 6) (sm (hT.num 6 rfl)) (asg_nil hT.1)))))))))))))), fun G => by kernel_rfl⟩⟩
theorem loopB01 (hn : n < 9223372036854775807) (hb : S.ρ 6 = n) (h6 : 0 ≤ S.ρ 6 ∧ S.ρ 6 < 41) (hK0 : ∀ x ∈ S.I, x.f + x.ks.length ≤ 60) (h0 : S.ρ 17 = 0) : ∃ Sf : Sy, (Sf.ρ 17 = n ∧ Stay [17] [] S Sf) ∧ ∀ T asg0, Same [13, 12, 11, 10, 5, 6] [70, 71] Sf T → AsgOk T S asg0 → LkAt Try.prog T [] (.loop (cAt Try.prog lpS2)) (lkLoopR Try.prog 100 [] E01S G01S (.exit 0) asg0) := by
  obtain ⟨m, k', Sf, hc, ⟨i, hin, hk, hiv, fr⟩, hf⟩ := loop_ex (stepB01 S n hn hb h6 hK0) n S ⟨0, Nat.zero_le _, rfl, h0, Stay.refl _ _ _⟩
  have hk0 := hf.1
  obtain rfl : i = n := by omega
  exact ⟨Sf, ⟨hiv, fr⟩, fun T asg0 hs ha => loop_chain envS (ann_self _) fineS2 (show E01S.N = G01S.N from rfl) (Nat.le_of_ble_eq_true rfl) hc (hf.2 T hs) ha⟩
end
def wW100 : Tm := (.bin .lss (.var .i64 17) (.var .i64 5))
def wW101 : Tm := (.bin .geq (.var .i64 17) (.lit .i64 0))
def wW102 : Tm := (.bin .neq (.app .u64 70 (.cons (.var .i64 17) .nil)) (.app .u64 70 (.cons (.var .i64 17) .nil)))
section
variable (S : Sy) (n : Nat)
abbrev RW10 : Sy → Sy → Prop := StepTo Try.prog ftS ΛS [] (cAt Try.prog lpS1) E10S G10S 100
def InvW10 (k : Nat) (S1 : Sy) : Prop := ∃ i : Nat, i ≤ n ∧ k = n - i ∧ S1.ρ 17 = i ∧ Stay [17] [] S S1
def FinW10 (k : Nat) (S1 : Sy) : Prop := k = 0 ∧ ∀ T, Same [13, 12, 11, 10, 5, 6] [70, 71] S1 T → StepOut Try.prog ftS ΛS [] (cAt Try.prog lpS1) E10S G10S (.exit 0) 100 S1 T
set_option maxHeartbeats 4000000 in
theorem stepW10 (hn : n < 9223372036854775807) (hb : S.ρ 5 = n) (h5 : 0 ≤ S.ρ 5 ∧ S.ρ 5 < 41) (hK0 : ∀ x ∈ S.I, x.f + x.ks.length ≤ 60) (k : Nat) (S1 : Sy) (hi : InvW10 S n k S1) : (∃ k' S2, k = k' + 1 ∧ InvW10 S n k' S2 ∧ RW10 S1 S2) ∨ FinW10 k S1 := by
  obtain ⟨i, hin, rfl, hiv, fr⟩ := hi
  have hcs : ∀ c ∈ ([] : List Ctr), CtrOk Try.prog S1 [] c := fun c hc => by simp at hc
  have hK : ∀ x ∈ S1.I, x.f + x.ks.length ≤ 60 := by rw [fr.1]; exact hK0
  have e5 := fr.num 5 rfl
  by_cases c0 : S1.ρ 17 < S1.ρ 5
  · have d0 : wW100.den S1 = some [b2i true] := tr (p := S1.ρ 17 < S1.ρ 5) c0
    have c1 : ¬ (S1.ρ 17 < (0 : Int)) := by omega
    have d1 : wW101.den S1 = some [b2i true] := tr (p := (0 : Int) ≤ S1.ρ 17) (Int.not_lt.1 c1)
    have c2 : (S1.Φ 70 [S1.ρ 17]) = (S1.Φ 70 [S1.ρ 17]) := rfl
    have d2 : wW102.den S1 = some [b2i false] := fls (p := (S1.Φ 70 [S1.ρ 17]) ≠ (S1.Φ 70 [S1.ρ 17])) (fun hh => hh c2)
    obtain ⟨o17, h_o17⟩ : ∃ o : Int, o = (IntKind.i64.wrap (S1.ρ 17 + (1 : Int))) := ⟨_, rfl⟩
    have u17 := h_o17
    rw [w_i64 (by omega) (by omega)] at u17
    have inv : InvW10 S n (n - (i + 1)) (S1.set (upd S1.ρ [(17, o17)]) [] 60 rfl hK) := ⟨i + 1, by omega, rfl, (show o17 = ((i + 1 : Nat) : Int) by omega), fr.set rfl rfl⟩
    exact .inl ⟨_, _, (by omega : n - i = n - (i + 1) + 1), inv, _, [], _, 1000, _, [], (ai wW102 false d2 (ai wW101 true d1 (ai wW100 true d0 (AlOk.nil _)))), hcs, LkOk.no _ _ _ _, (av 5 .i64 (av 5 .i64 (av 5 .i64 (an 17 (.bin .add (.var .i64 17) (.lit .i64 1)) (sm h_o17.symm) (av 13 .u64 (av 12 .u64 (av 11 .i64 (av 10 .u8 (av 5 .i64 (ar 70 (ar_var 70) (av 6 .i64 (ar 71 (ar_var 71) (av 6 .i64 (av 5 .i64 (av 5 .i64 (ar 70 (ar_var 70) (av 5 .i64 (asg_nil rfl)))))))))))))))))), fun G => by kernel_rfl⟩
  · have d0 : wW100.den S1 = some [b2i false] := fls (p := S1.ρ 17 < S1.ρ 5) c0
    exact .inr ⟨by omega, fun T hT => ⟨_, [], _, 1000, _, [], (ai wW100 false d0 (AlOk.nil _)), hcs, LkOk.no _ _ _ _, (an 13 (.var .u64 13) (sm (hT.num 13 rfl)) (an 12 (.var .u64 12) (sm (hT.num 12 rfl)) (an 11 (.var .i64 11) (sm (hT.num 11 rfl)) (an 10 (.var .u8 10) (sm (hT.num 10 rfl)) (an 5 (.var .i64 5) (sm (hT.num 5 rfl)) (asg_arr (i := 70) (hT.row 70 rfl) (an 6 (.var .i64 6) (sm (hT.num 6 rfl)) (asg_arr (i := 71) (hT.row 71 rfl) (an 6 (.var .i64 6) (sm (hT.num 6 rfl)) (an 5 (.var .i64 5) (sm (hT.num 5 rfl)) (an 5 (.var .i64 5) (sm (hT.num 5 rfl)) (asg_arr (i := 70) (hT.row 70 rfl) (an 5 (.var .i64 5) (sm (hT.num 5 rfl)) (asg_nil hT.1)))))))))))))), fun G => by kernel_rfl⟩⟩
theorem loopW10 (hn : n < 9223372036854775807) (hb : S.ρ 5 = n) (h5 : 0 ≤ S.ρ 5 ∧ S.ρ 5 < 41) (hK0 : ∀ x ∈ S.I, x.f + x.ks.length ≤ 60) (h0 : S.ρ 17 = 0) : ∃ Sf : Sy, (Sf.ρ 17 = n ∧ Stay [17] [] S Sf) ∧ ∀ T asg0, Same [13, 12, 11, 10, 5, 6] [70, 71] Sf T → AsgOk T S asg0 → LkAt Try.prog T [] (.loop (cAt Try.prog lpS1)) (lkLoopR Try.prog 100 [] E10S G10S (.exit 0) asg0) := by
  obtain ⟨m, k', Sf, hc, ⟨i, hin, hk, hiv, fr⟩, hf⟩ := loop_ex (stepW10 S n hn hb h5 hK0) n S ⟨0, Nat.zero_le _, rfl, h0, Stay.refl _ _ _⟩
  have hk0 := hf.1
  obtain rfl : i = n := by omega
  exact ⟨Sf, ⟨hiv, fr⟩, fun T asg0 hs ha => loop_chain envS (ann_self _) fineS1 (show E10S.N = G10S.N from rfl) (Nat.le_of_ble_eq_true rfl) hc (hf.2 T hs) ha⟩
end
def wW11Z0 : Tm := (.bin .lss (.var .i64 17) (.var .i64 5))
def wW11Z1 : Tm := (.bin .geq (.var .i64 17) (.lit .i64 0))
def wW11Z2 : Tm := (.bin .neq (.app .u64 70 (.cons (.var .i64 17) .nil)) (.app .u64 70 (.cons (.var .i64 17) .nil)))
section
variable (S : Sy) (n : Nat)
abbrev RW11Z : Sy → Sy → Prop := StepTo Try.prog ftS ΛS [] (cAt Try.prog lpS1) E11wZS G11ZS 200
def InvW11Z (k : Nat) (S1 : Sy) : Prop := ∃ i : Nat, i ≤ n ∧ k = n - i ∧ S1.ρ 17 = i ∧ Stay [17] [] S S1
def FinW11Z (k : Nat) (S1 : Sy) : Prop := k = 0 ∧ ∀ T, Same [13, 12, 11, 10, 5, 6] [70, 71] S1 T → StepOut Try.prog ftS ΛS [] (cAt Try.prog lpS1) E11wZS G11ZS (.exit 0) 200 S1 T
set_option maxHeartbeats 4000000 in
theorem stepW11Z (hn : n < 9223372036854775807) (hb : S.ρ 5 = n) (h5 : 0 ≤ S.ρ 5 ∧ S.ρ 5 < 41) (hK0 : ∀ x ∈ S.I, x.f + x.ks.length ≤ 60) (k : Nat) (S1 : Sy) (hi : InvW11Z S n k S1) : (∃ k' S2, k = k' + 1 ∧ InvW11Z S n k' S2 ∧ RW11Z S1 S2) ∨ FinW11Z k S1 := by
  obtain ⟨i, hin, rfl, hiv, fr⟩ := hi
  have hcs : ∀ c ∈ ([] : List Ctr), CtrOk Try.prog S1 [] c := fun c hc => by simp at hc
  have hK : ∀ x ∈ S1.I, x.f + x.ks.length ≤ 60 := by rw [fr.1]; exact hK0
  have e5 := fr.num 5 rfl
  by_cases c0 : S1.ρ 17 < S1.ρ 5
  · have d0 : wW11Z0.den S1 = some [b2i true] := tr (p := S1.ρ 17 < S1.ρ 5) c0
    have c1 : ¬ (S1.ρ 17 < (0 : Int)) := by omega
    have d1 : wW11Z1.den S1 = some [b2i true] := tr (p := (0 : Int) ≤ S1.ρ 17) (Int.not_lt.1 c1)
    have c2 : (S1.Φ 70 [S1.ρ 17]) = (S1.Φ 70 [S1.ρ 17]) := rfl
    have d2 : wW11Z2.den S1 = some [b2i false] := fls (p := (S1.Φ 70 [S1.ρ 17]) ≠ (S1.Φ 70 [S1.ρ 17])) (fun hh => hh c2)
    obtain ⟨o17, h_o17⟩ : ∃ o : Int, o = (IntKind.i64.wrap (S1.ρ 17 + (1 : Int))) := ⟨_, rfl⟩
    have u17 := h_o17
    rw [w_i64 (by omega) (by omega)] at u17
    have inv : InvW11Z S n (n - (i + 1)) (S1.set (upd S1.ρ [(17, o17)]) [] 60 rfl hK) := ⟨i + 1, by omega, rfl, (show o17 = ((i + 1 : Nat) : Int) by omega), fr.set rfl rfl⟩
    exact .inl ⟨_, _, (by omega : n - i = n - (i + 1) + 1), inv, _, [], _, 1000, _, [], (ai wW11Z2 false d2 (ai wW11Z1 true d1 (ai wW11Z0 true d0 (AlOk.nil _)))), hcs, LkOk.no _ _ _ _, (av 5 .i64 (av 5 .i64 (av 5 .i64 (an 17 (.bin .add (.var .i64 17) (.lit .i64 1)) (sm h_o17.symm) (av 13 .u64 (av 12 .u64 (av 11 .i64 (av 10 .u8 (av 5 .i64 (ar 70 (ar_var 70) (av 6 .i64 (ar 71 (ar_var 71) (av 6 .i64 (av 5 .i64 (av 5 .i64 (ar 70 (ar_var 70) (av 6 .i64 (ar 71 (ar_var 71) (av 6 .i64 (av 5 .i64 (asg_nil rfl))))))))))))))))))))), fun G => by kernel_rfl⟩
  · have d0 : wW11Z0.den S1 = some [b2i false] := fls (p := S1.ρ 17 < S1.ρ 5) c0
    exact .inr ⟨by omega, fun T hT => ⟨_, [], _, 1000, _, [], (ai wW11Z0 false d0 (AlOk.nil _)), hcs, LkOk.no _ _ _ _, (an 13 (.var .u64 13) (sm (hT.num 13 rfl)) (an 12 (.var .u64 12) (sm (hT.num 12 rfl)) (an 11 (.var .i64 11) (sm (hT.num 11 rfl)) (an 10 (.var .u8 10) (sm (hT.num 10 rfl)) (an 5 (.var .i64 5) (sm (hT.num 5 rfl)) (asg_arr (i := 70) (hT.row 70 rfl) (an 6 (.var .i64 6) (sm (hT.num 6 rfl)) (asg_arr (i := 71) (hT.row 71 rfl) (an 6 (.var .i64 6) (sm (hT.num 6 rfl)) (an 5 (.var .i64 5) (sm (hT.num 5 rfl)) (an 5 (.var .i64 5) (sm (hT.num 5 rfl)) (asg_arr (i := 70) (hT.row 70 rfl) (an 6 (.var .i64 6) (sm (hT.num 6 rfl)) (asg_arr (i := 71) (hT.row 71 rfl) (an 6 (.var .i64 6) (sm (hT.num 6 rfl)) (an 5 (.var .i64 5) (sm (hT.num 5 rfl)) (asg_nil hT.1))))))))))))))))), fun G => by kernel_rfl⟩⟩
theorem loopW11Z (hn : n < 9223372036854775807) (hb : S.ρ 5 = n) (h5 : 0 ≤ S.ρ 5 ∧ S.ρ 5 < 41) (hK0 : ∀ x ∈ S.I, x.f + x.ks.length ≤ 60) (h0 : S.ρ 17 = 0) : ∃ Sf : Sy, (Sf.ρ 17 = n ∧ Stay [17] [] S Sf) ∧ ∀ T asg0, Same [13, 12, 11, 10, 5, 6] [70, 71] Sf T → AsgOk T S asg0 → LkAt Try.prog T [] (.loop (cAt Try.prog lpS1)) (lkLoopR Try.prog 200 [] E11wZS G11ZS (.exit 0) asg0) := by
  obtain ⟨m, k', Sf, hc, ⟨i, hin, hk, hiv, fr⟩, hf⟩ := loop_ex (stepW11Z S n hn hb h5 hK0) n S ⟨0, Nat.zero_le _, rfl, h0, Stay.refl _ _ _⟩
  have hk0 := hf.1
  obtain rfl : i = n := by omega
  exact ⟨Sf, ⟨hiv, fr⟩, fun T asg0 hs ha => loop_chain envS (ann_self _) fineS1 (show E11wZS.N = G11ZS.N from rfl) (Nat.le_of_ble_eq_true rfl) hc (hf.2 T hs) ha⟩
end
def wB11Z0 : Tm := (.bin .lss (.var .i64 17) (.var .i64 6))
def wB11Z1 : Tm := (.bin .geq (.var .i64 17) (.lit .i64 0))
def wB11Z2 : Tm := (.bin .neq (.app .u8 71 (.cons (.var .i64 17) .nil)) (.app .u8 71 (.cons (.var .i64 17) .nil)))
section
variable (S : Sy) (n : Nat)
abbrev RB11Z : Sy → Sy → Prop := StepTo Try.prog ftS ΛS [] (cAt Try.prog lpS2) E11bZS G11ZS 200
def InvB11Z (k : Nat) (S1 : Sy) : Prop := ∃ i : Nat, i ≤ n ∧ k = n - i ∧ S1.ρ 17 = i ∧ Stay [17] [] S S1
def FinB11Z (k : Nat) (S1 : Sy) : Prop := k = 0 ∧ ∀ T, Same [13, 12, 11, 10, 5, 6] [70, 71] S1 T → StepOut Try.prog ftS ΛS [] (cAt Try.prog lpS2) E11bZS G11ZS (.exit 0) 200 S1 T
set_option maxHeartbeats 4000000 in
theorem stepB11Z (hn : n < 9223372036854775807) (hb : S.ρ 6 = n) (h6 : 0 ≤ S.ρ 6 ∧ S.ρ 6 < 41) (hK0 : ∀ x ∈ S.I, x.f + x.ks.length ≤ 60) (k : Nat) (S1 : Sy) (hi : InvB11Z S n k S1) : (∃ k' S2, k = k' + 1 ∧ InvB11Z S n k' S2 ∧ RB11Z S1 S2) ∨ FinB11Z k S1 := by
  obtain ⟨i, hin, rfl, hiv, fr⟩ := hi
  have hcs : ∀ c ∈ ([] : List Ctr), CtrOk Try.prog S1 [] c := fun c hc => by simp at hc
  have hK : ∀ x ∈ S1.I, x.f + x.ks.length ≤ 60 := by rw [fr.1]; exact hK0
  have e6 := fr.num 6 rfl
  by_cases c0 : S1.ρ 17 < S1.ρ 6
  · have d0 : wB11Z0.den S1 = some [b2i true] := tr (p := S1.ρ 17 < S1.ρ 6) c0
    have c1 : ¬ (S1.ρ 17 < (0 : Int)) := by omega
    have d1 : wB11Z1.den S1 = some [b2i true] := tr (p := (0 : Int) ≤ S1.ρ 17) (Int.not_lt.1 c1)
    have c2 : (S1.Φ 71 [S1.ρ 17]) = (S1.Φ 71 [S1.ρ 17]) := rfl
    have d2 : wB11Z2.den S1 = some [b2i false] := fls (p := (S1.Φ 71 [S1.ρ 17]) ≠ (S1.Φ 71 [S1.ρ 17])) (fun hh => hh c2)
    obtain ⟨o17, h_o17⟩ : ∃ o : Int, o = (IntKind.i64.wrap (S1.ρ 17 + (1 : Int))) := ⟨_, rfl⟩
    have u17 := h_o17
    rw [w_i64 (by omega) (by omega)] at u17
    have inv : InvB11Z S n (n - (i + 1)) (S1.set (upd S1.ρ [(17, o17)]) [] 60 rfl hK) := ⟨i + 1, by omega, rfl, (show o17 = ((i + 1 : Nat) : Int) by omega), fr.set rfl rfl⟩
    exact .inl ⟨_, _, (by omega : n - i = n - (i + 1) + 1), inv, _, [], _, 1000, _, [], (ai wB11Z2 false d2 (ai wB11Z1 true d1 (ai wB11Z0 true d0 (AlOk.nil _)))), hcs, LkOk.no _ _ _ _, (av 6 .i64 (av 6 .i64 (av 6 .i64 (an 17 (.bin .add (.var .i64 17) (.lit .i64 1)) (sm h_o17.symm) (av 13 .u64 (av 12 .u64 (av 11 .i64 (av 10 .u8 (av 5 .i64 (ar 70 (ar_var 70) (av 6 .i64 (ar 71 (ar_var 71) (av 6 .i64 (av 5 .i64 (av 5 .i64 (ar 70 (ar_var 70) (av 6 .i64 (ar 71 (ar_var 71) (av 6 .i64 (av 5 .i64 (asg_nil rfl))))))))))))))))))))), fun G => by kernel_rfl⟩
  · have d0 : wB11Z0.den S1 = some [b2i false] := fls (p := S1.ρ 17 < S1.ρ 6) c0
    exact .inr ⟨by omega, fun T hT => ⟨_, [], _, 1000, _, [], (ai wB11Z0 false d0 (AlOk.nil _)), hcs, LkOk.no _ _ _ _, (an 13 (.var .u64 13) (sm (hT.num 13 rfl)) (an 12 (.var .u64 12) (sm (hT.num 12 rfl)) (an 11 (.var .i64 11) (sm (hT.num 11 rfl)) (an 10 (.var .u8 10) (sm (hT.num 10 rfl)) (an 5 (.var .i64 5) (sm (hT.num 5 rfl)) (asg_arr (i := 70) (hT.row 70 rfl) (an 6 (.var .i64 6) (sm (hT.num 6 rfl)) (asg_arr (i := 71) (hT.row 71 rfl) (an 6 (.var .i64 6) (sm (hT.num 6 rfl)) (an 5 (.var .i64 5) (sm (hT.num 5 rfl)) (an 5 (.var .i64 5) (sm (hT.num 5 rfl)) (asg_arr (i := 70) (hT.row 70 rfl) (an 6 (.var .i64 6) (sm (hT.num 6 rfl)) (asg_arr (i := 71) (hT.row 71 rfl) (an 6 (.var .i64 6) (sm (hT.num 6 rfl)) (an 5 (.var .i64 5) (sm (hT.num 5 rfl)) (asg_nil hT.1))))))))))))))))), fun G => by kernel_rfl⟩⟩
theorem loopB11Z (hn : n < 9223372036854775807) (hb : S.ρ 6 = n) (h6 : 0 ≤ S.ρ 6 ∧ S.ρ 6 < 41) (hK0 : ∀ x ∈ S.I, x.f + x.ks.length ≤ 60) (h0 : S.ρ 17 = 0) : ∃ Sf : Sy, (Sf.ρ 17 = n ∧ Stay [17] [] S Sf) ∧ ∀ T asg0, Same [13, 12, 11, 10, 5, 6] [70, 71] Sf T → AsgOk T S asg0 → LkAt Try.prog T [] (.loop (cAt Try.prog lpS2)) (lkLoopR Try.prog 200 [] E11bZS G11ZS (.exit 0) asg0) := by
  obtain ⟨m, k', Sf, hc, ⟨i, hin, hk, hiv, fr⟩, hf⟩ := loop_ex (stepB11Z S n hn hb h6 hK0) n S ⟨0, Nat.zero_le _, rfl, h0, Stay.refl _ _ _⟩
  have hk0 := hf.1
  obtain rfl : i = n := by omega
  exact ⟨Sf, ⟨hiv, fr⟩, fun T asg0 hs ha => loop_chain envS (ann_self _) fineS2 (show E11bZS.N = G11ZS.N from rfl) (Nat.le_of_ble_eq_true rfl) hc (hf.2 T hs) ha⟩
end
def wB01Z0 : Tm := (.bin .lss (.var .i64 17) (.var .i64 6))
def wB01Z1 : Tm := (.bin .geq (.var .i64 17) (.lit .i64 0))
def wB01Z2 : Tm := (.bin .neq (.app .u8 71 (.cons (.var .i64 17) .nil)) (.app .u8 71 (.cons (.var .i64 17) .nil)))
section
variable (S : Sy) (n : Nat)
abbrev RB01Z : Sy → Sy → Prop := StepTo Try.prog ftS ΛS [] (cAt Try.prog lpS2) E01ZS G01ZS 200
def InvB01Z (k : Nat) (S1 : Sy) : Prop := ∃ i : Nat, i ≤ n ∧ k = n - i ∧ S1.ρ 17 = i ∧ Stay [17] [] S S1
def FinB01Z (k : Nat) (S1 : Sy) : Prop := k = 0 ∧ ∀ T, Same [13, 12, 11, 10, 5, 6] [70, 71] S1 T → StepOut Try.prog ftS ΛS [] (cAt Try.prog lpS2) E01ZS G01ZS (.exit 0) 200 S1 T
set_option maxHeartbeats 4000000 in
theorem stepB01Z (hn : n < 9223372036854775807) (hb : S.ρ 6 = n) (h6 : 0 ≤ S.ρ 6 ∧ S.ρ 6 < 41) (hK0 : ∀ x ∈ S.I, x.f + x.ks.length ≤ 60) (k : Nat) (S1 : Sy) (hi : InvB01Z S n k S1) : (∃ k' S2, k = k' + 1 ∧ InvB01Z S n k' S2 ∧ RB01Z S1 S2) ∨ FinB01Z k S1 := by
  obtain ⟨i, hin, rfl, hiv, fr⟩ := hi
  have hcs : ∀ c ∈ ([] : List Ctr), CtrOk Try.prog S1 [] c := fun c hc => by simp at hc
  have hK : ∀ x ∈ S1.I, x.f + x.ks.length ≤ 60 := by rw [fr.1]; exact hK0
  have e6 := fr.num 6 rfl
  by_cases c0 : S1.ρ 17 < S1.ρ 6
  · have d0 : wB01Z0.den S1 = some [b2i true] := tr (p := S1.ρ 17 < S1.ρ 6) c0
    have c1 : ¬ (S1.ρ 17 < (0 : Int)) := by omega
    have d1 : wB01Z1.den S1 = some [b2i true] := tr (p := (0 : Int) ≤ S1.ρ 17) (Int.not_lt.1 c1)
    have c2 : (S1.Φ 71 [S1.ρ 17]) = (S1.Φ 71 [S1.ρ 17]) := rfl
    have d2 : wB01Z2.den S1 = some [b2i false] := fls (p := (S1.Φ 71 [S1.ρ 17]) ≠ (S1.Φ 71 [S1.ρ 17])) (fun hh => hh c2)
    obtain ⟨o17, h_o17⟩ : ∃ o : Int, o = (IntKind.i64.wrap (S1.ρ 17 + (1 : Int))) := ⟨_, rfl⟩
    have u17 := h_o17
    rw [w_i64 (by omega) (by omega)] at u17
    have inv : InvB01Z S n (n - (i + 1)) (S1.set (upd S1.ρ [(17, o17)]) [] 60 rfl hK) := ⟨i + 1, by omega, rfl, (show o17 = ((i + 1 : Nat) : Int) by omega), fr.set rfl rfl⟩
    exact .inl ⟨_, _, (by omega : n - i = n - (i + 1) + 1), inv, _, [], _, 1000, _, [], (ai wB01Z2 false d2 (ai wB01Z1 true d1 (ai wB01Z0 true d0 (AlOk.nil _)))), hcs, LkOk.no _ _ _ _, (av 6 .i64 (av 6 .i64 (av 6 .i64 (an 17 (.bin .add (.var .i64 17) (.lit .i64 1)) (sm h_o17.symm) (av 13 .u64 (av 12 .u64 (av 11 .i64 (av 10 .u8 (av 5 .i64 (ar 70 (ar_var 70) (av 6 .i64 (ar 71 (ar_var 71) (av 6 .i64 (av 5 .i64 (av 6 .i64 (ar 71 (ar_var 71) (av 6 .i64 (asg_nil rfl)))))))))))))))))), fun G => by kernel_rfl⟩
  · have d0 : wB01Z0.den S1 = some [b2i false] := fls (p := S1.ρ 17 < S1.ρ 6) c0
    exact .inr ⟨by omega, fun T hT => ⟨_, [], _, 1000, _, [], (ai wB01Z0 false d0 (AlOk.nil _)), hcs, LkOk.no _ _ _ _, (an 13 (.var .u64 13) (sm (hT.num 13 rfl)) (an 12 (.var .u64 12) (sm (hT.num 12 rfl)) (an 11 (.var .i64 11) (sm (hT.num 11 rfl)) (an 10 (.var .u8 10) (sm (hT.num 10 rfl)) (an 5 (.var .i64 5) (sm (hT.num 5 rfl)) (asg_arr (i := 70) (hT.row 70 rfl) (an 6 (.var .i64 6) (sm (hT.num 6 rfl)) (asg_arr (i := 71) (hT.row 71 rfl) (an 6 (.var .i64 6) (sm (hT.num 6 rfl)) (an 5 (.var .i64 5) (sm (hT.num 5 rfl)) (an 6 (.var .i64 6) (sm (hT.num 6 rfl)) (asg_arr (i := 71) (hT.row 71 rfl) (an 6 (.var .i64 6) (sm (hT.num 6 rfl)) (asg_nil hT.1)))))))))))))), fun G => by kernel_rfl⟩⟩
theorem loopB01Z (hn : n < 9223372036854775807) (hb : S.ρ 6 = n) (h6 : 0 ≤ S.ρ 6 ∧ S.ρ 6 < 41) (hK0 : ∀ x ∈ S.I, x.f + x.ks.length ≤ 60) (h0 : S.ρ 17 = 0) : ∃ Sf : Sy, (Sf.ρ 17 = n ∧ Stay [17] [] S Sf) ∧ ∀ T asg0, Same [13, 12, 11, 10, 5, 6] [70, 71] Sf T → AsgOk T S asg0 → LkAt Try.prog T [] (.loop (cAt Try.prog lpS2)) (lkLoopR Try.prog 200 [] E01ZS G01ZS (.exit 0) asg0) := by
  obtain ⟨m, k', Sf, hc, ⟨i, hin, hk, hiv, fr⟩, hf⟩ := loop_ex (stepB01Z S n hn hb h6 hK0) n S ⟨0, Nat.zero_le _, rfl, h0, Stay.refl _ _ _⟩
  have hk0 := hf.1
  obtain rfl : i = n := by omega
  exact ⟨Sf, ⟨hiv, fr⟩, fun T asg0 hs ha => loop_chain envS (ann_self _) fineS2 (show E01ZS.N = G01ZS.N from rfl) (Nat.le_of_ble_eq_true rfl) hc (hf.2 T hs) ha⟩
end
def wW10Z0 : Tm := (.bin .lss (.var .i64 17) (.var .i64 5))
def wW10Z1 : Tm := (.bin .geq (.var .i64 17) (.lit .i64 0))
def wW10Z2 : Tm := (.bin .neq (.app .u64 70 (.cons (.var .i64 17) .nil)) (.app .u64 70 (.cons (.var .i64 17) .nil)))
section
variable (S : Sy) (n : Nat)
abbrev RW10Z : Sy → Sy → Prop := StepTo Try.prog ftS ΛS [] (cAt Try.prog lpS1) E10ZS G10ZS 200
def InvW10Z (k : Nat) (S1 : Sy) : Prop := ∃ i : Nat, i ≤ n ∧ k = n - i ∧ S1.ρ 17 = i ∧ Stay [17] [] S S1
def FinW10Z (k : Nat) (S1 : Sy) : Prop := k = 0 ∧ ∀ T, Same [13, 12, 11, 10, 5, 6] [70, 71] S1 T → StepOut Try.prog ftS ΛS [] (cAt Try.prog lpS1) E10ZS G10ZS (.exit 0) 200 S1 T
set_option maxHeartbeats 4000000 in
theorem stepW10Z (hn : n < 9223372036854775807) (hb : S.ρ 5 = n) (h5 : 0 ≤ S.ρ 5 ∧ S.ρ 5 < 41) (hK0 : ∀ x ∈ S.I, x.f + x.ks.length ≤ 60) (k : Nat) (S1 : Sy) (hi : InvW10Z S n k S1) : (∃ k' S2, k = k' + 1 ∧ InvW10Z S n k' S2 ∧ RW10Z S1 S2) ∨ FinW10Z k S1 := by
  obtain ⟨i, hin, rfl, hiv, fr⟩ := hi
  have hcs : ∀ c ∈ ([] : List Ctr), CtrOk Try.prog S1 [] c := fun c hc => by simp at hc
  have hK : ∀ x ∈ S1.I, x.f + x.ks.length ≤ 60 := by rw [fr.1]; exact hK0
  have e5 := fr.num 5 rfl
  by_cases c0 : S1.ρ 17 < S1.ρ 5
  · have d0 : wW10Z0.den S1 = some [b2i true] := tr (p := S1.ρ 17 < S1.ρ 5) c0
    have c1 : ¬ (S1.ρ 17 < (0 : Int)) := by omega
    have d1 : wW10Z1.den S1 = some [b2i true] := tr (p := (0 : Int) ≤ S1.ρ 17) (Int.not_lt.1 c1)
    have c2 : (S1.Φ 70 [S1.ρ 17]) = (S1.Φ 70 [S1.ρ 17]) := rfl
    have d2 : wW10Z2.den S1 = some [b2i false] := fls (p := (S1.Φ 70 [S1.ρ 17]) ≠ (S1.Φ 70 [S1.ρ 17])) (fun hh => hh c2)
    obtain ⟨o17, h_o17⟩ : ∃ o : Int, o = (IntKind.i64.wrap (S1.ρ 17 + (1 : Int))) := ⟨_, rfl⟩
    have u17 := h_o17
    rw [w_i64 (by omega) (by omega)] at u17
    have inv : InvW10Z S n (n - (i + 1)) (S1.set (upd S1.ρ [(17, o17)]) [] 60 rfl hK) := ⟨i + 1, by omega, rfl, (show o17 = ((i + 1 : Nat) : Int) by omega), fr.set rfl rfl⟩
    exact .inl ⟨_, _, (by omega : n - i = n - (i + 1) + 1), inv, _, [], _, 1000, _, [], (ai wW10Z2 false d2 (ai wW10Z1 true d1 (ai wW10Z0 true d0 (AlOk.nil _)))), hcs, LkOk.no _ _ _ _, (av 5 .i64 (av 5 .i64 (av 5 .i64 (an 17 (.bin .add (.var .i64 17) (.lit .i64 1)) (sm h_o17.symm) (av 13 .u64 (av 12 .u64 (av 11 .i64 (av 10 .u8 (av 5 .i64 (ar 70 (ar_var 70) (av 6 .i64 (ar 71 (ar_var 71) (av 6 .i64 (av 5 .i64 (av 5 .i64 (ar 70 (ar_var 70) (av 5 .i64 (asg_nil rfl)))))))))))))))))), fun G => by kernel_rfl⟩
  · have d0 : wW10Z0.den S1 = some [b2i false] := fls (p := S1.ρ 17 < S1.ρ 5) c0
    exact .inr ⟨by omega, fun T hT => ⟨_, [], _, 1000, _, [], (ai wW10Z0 false d0 (AlOk.nil _)), hcs, LkOk.no _ _ _ _, (an 13 (.var .u64 13) (sm (hT.num 13 rfl)) (an 12 (.var .u64 12) (sm (hT.num 12 rfl)) (an 11 (.var .i64 11) (sm (hT.num 11 rfl)) (an 10 (.var .u8 10) (sm (hT.num 10 rfl)) (an 5 (.var .i64 5) (sm (hT.num 5 rfl)) (asg_arr (i := 70) (hT.row 70 rfl) (an 6 (.var .i64 6) (sm (hT.num 6 rfl)) (asg_arr (i := 71) (hT.row 71 rfl) (an 6 (.var .i64 6) (sm (hT.num 6 rfl)) (an 5 (.var .i64 5) (sm (hT.num 5 rfl)) (an 5 (.var .i64 5) (sm (hT.num 5 rfl)) (asg_arr (i := 70) (hT.row 70 rfl) (an 5 (.var .i64 5) (sm (hT.num 5 rfl)) (asg_nil hT.1)))))))))))))), fun G => by kernel_rfl⟩⟩
theorem loopW10Z (hn : n < 9223372036854775807) (hb : S.ρ 5 = n) (h5 : 0 ≤ S.ρ 5 ∧ S.ρ 5 < 41) (hK0 : ∀ x ∈ S.I, x.f + x.ks.length ≤ 60) (h0 : S.ρ 17 = 0) : ∃ Sf : Sy, (Sf.ρ 17 = n ∧ Stay [17] [] S Sf) ∧ ∀ T asg0, Same [13, 12, 11, 10, 5, 6] [70, 71] Sf T → AsgOk T S asg0 → LkAt Try.prog T [] (.loop (cAt Try.prog lpS1)) (lkLoopR Try.prog 200 [] E10ZS G10ZS (.exit 0) asg0) := by
  obtain ⟨m, k', Sf, hc, ⟨i, hin, hk, hiv, fr⟩, hf⟩ := loop_ex (stepW10Z S n hn hb h5 hK0) n S ⟨0, Nat.zero_le _, rfl, h0, Stay.refl _ _ _⟩
  have hk0 := hf.1
  obtain rfl : i = n := by omega
  exact ⟨Sf, ⟨hiv, fr⟩, fun T asg0 hs ha => loop_chain envS (ann_self _) fineS1 (show E10ZS.N = G10ZS.N from rfl) (Nat.le_of_ble_eq_true rfl) hc (hf.2 T hs) ha⟩
end
noncomputable def kS0 : Fr → Heap → Option (AExit × Fr × Heap) := lkLoopR Try.prog 4 [] X0S F0S (.exit 0) [(1, .num (Tm.enc (.var .i64 1))), (4, .num (Tm.enc (.lit .i64 0))), (14, .num (Tm.enc (.var .i64 14))), (13, .num (Tm.enc (.var .u64 13))), (12, .num (Tm.enc (.var .u64 12))), (11, .num (Tm.enc (.var .i64 11))), (10, .num (Tm.enc (.var .u8 10))), (5, .num (Tm.enc (.var .i64 5))), (60, .arr .zero), (6, .num (Tm.enc (.var .i64 6))), (61, .arr .zero), (6, .num (Tm.enc (.var .i64 6))), (5, .num (Tm.enc (.var .i64 5)))]
noncomputable def kW11 : Fr → Heap → Option (AExit × Fr × Heap) := lkLoopR Try.prog 100 [] E11wS G11S (.exit 0) [(5, .num (Tm.enc (.var .i64 5))), (5, .num (Tm.enc (.var .i64 5))), (5, .num (Tm.enc (.var .i64 5))), (17, .num (Tm.enc (.lit .i64 0))), (13, .num (Tm.enc (.var .u64 13))), (12, .num (Tm.enc (.var .u64 12))), (11, .num (Tm.enc (.var .i64 11))), (10, .num (Tm.enc (.var .u8 10))), (5, .num (Tm.enc (.var .i64 5))), (70, .arr (.var 60)), (6, .num (Tm.enc (.var .i64 6))), (71, .arr (.var 61)), (6, .num (Tm.enc (.var .i64 6))), (5, .num (Tm.enc (.var .i64 5))), (5, .num (Tm.enc (.var .i64 5))), (70, .arr (.var 60)), (6, .num (Tm.enc (.var .i64 6))), (71, .arr (.var 61)), (6, .num (Tm.enc (.var .i64 6))), (5, .num (Tm.enc (.var .i64 5)))]
noncomputable def kW11Z70 : Fr → Heap → Option (AExit × Fr × Heap) := lkLoopR Try.prog 200 [] E11wZS G11ZS (.exit 0) [(5, .num (Tm.enc (.var .i64 5))), (5, .num (Tm.enc (.var .i64 5))), (5, .num (Tm.enc (.var .i64 5))), (17, .num (Tm.enc (.lit .i64 0))), (13, .num (Tm.enc (.var .u64 13))), (12, .num (Tm.enc (.var .u64 12))), (11, .num (Tm.enc (.var .i64 11))), (10, .num (Tm.enc (.var .u8 10))), (5, .num (Tm.enc (.var .i64 5))), (70, .arr (.var 70)), (6, .num (Tm.enc (.var .i64 6))), (71, .arr (.var 71)), (6, .num (Tm.enc (.var .i64 6))), (5, .num (Tm.enc (.var .i64 5))), (5, .num (Tm.enc (.var .i64 5))), (70, .arr (.var 70)), (6, .num (Tm.enc (.var .i64 6))), (71, .arr (.var 71)), (6, .num (Tm.enc (.var .i64 6))), (5, .num (Tm.enc (.var .i64 5)))]
noncomputable def kB1170 : Fr → Heap → Option (AExit × Fr × Heap) := lkLoopR Try.prog 100 [] E11bS G11S (.exit 0) [(6, .num (Tm.enc (.var .i64 6))), (6, .num (Tm.enc (.var .i64 6))), (6, .num (Tm.enc (.var .i64 6))), (17, .num (Tm.enc (.lit .i64 0))), (13, .num (Tm.enc (.var .u64 13))), (12, .num (Tm.enc (.var .u64 12))), (11, .num (Tm.enc (.var .i64 11))), (10, .num (Tm.enc (.var .u8 10))), (5, .num (Tm.enc (.var .i64 5))), (70, .arr (.var 70)), (6, .num (Tm.enc (.var .i64 6))), (71, .arr (.var 71)), (6, .num (Tm.enc (.var .i64 6))), (5, .num (Tm.enc (.var .i64 5))), (5, .num (Tm.enc (.var .i64 5))), (70, .arr (.var 70)), (6, .num (Tm.enc (.var .i64 6))), (71, .arr (.var 71)), (6, .num (Tm.enc (.var .i64 6))), (5, .num (Tm.enc (.var .i64 5)))]
noncomputable def kB11Z70 : Fr → Heap → Option (AExit × Fr × Heap) := lkLoopR Try.prog 200 [] E11bZS G11ZS (.exit 0) [(6, .num (Tm.enc (.var .i64 6))), (6, .num (Tm.enc (.var .i64 6))), (6, .num (Tm.enc (.var .i64 6))), (17, .num (Tm.enc (.lit .i64 0))), (13, .num (Tm.enc (.var .u64 13))), (12, .num (Tm.enc (.var .u64 12))), (11, .num (Tm.enc (.var .i64 11))), (10, .num (Tm.enc (.var .u8 10))), (5, .num (Tm.enc (.var .i64 5))), (70, .arr (.var 70)), (6, .num (Tm.enc (.var .i64 6))), (71, .arr (.var 71)), (6, .num (Tm.enc (.var .i64 6))), (5, .num (Tm.enc (.var .i64 5))), (5, .num (Tm.enc (.var .i64 5))), (70, .arr (.var 70)), (6, .num (Tm.enc (.var .i64 6))), (71, .arr (.var 71)), (6, .num (Tm.enc (.var .i64 6))), (5, .num (Tm.enc (.var .i64 5)))]
noncomputable def kW11st : Fr → Heap → Option (AExit × Fr × Heap) := lkLoopR Try.prog 100 [] E11wS G11S (.exit 0) [(5, .num (Tm.enc (.var .i64 5))), (5, .num (Tm.enc (.var .i64 5))), (5, .num (Tm.enc (.var .i64 5))), (17, .num (Tm.enc (.lit .i64 0))), (13, .num (Tm.enc (.var .u64 13))), (12, .num (Tm.enc (.var .u64 12))), (11, .num (Tm.enc (.var .i64 11))), (10, .num (Tm.enc (.var .u8 10))), (5, .num (Tm.enc (.var .i64 5))), (70, .arr (.upd (.var 60) (Tm.enc (.var .i64 11)) (Tm.enc (.var .u64 12)))), (6, .num (Tm.enc (.var .i64 6))), (71, .arr (.var 61)), (6, .num (Tm.enc (.var .i64 6))), (5, .num (Tm.enc (.var .i64 5))), (5, .num (Tm.enc (.var .i64 5))), (70, .arr (.upd (.var 60) (Tm.enc (.var .i64 11)) (Tm.enc (.var .u64 12)))), (6, .num (Tm.enc (.var .i64 6))), (71, .arr (.var 61)), (6, .num (Tm.enc (.var .i64 6))), (5, .num (Tm.enc (.var .i64 5)))]
noncomputable def kW11ca : Fr → Heap → Option (AExit × Fr × Heap) := lkLoopR Try.prog 100 [] E11wS G11S (.exit 0) [(5, .num (Tm.enc (.var .i64 5))), (5, .num (Tm.enc (.var .i64 5))), (5, .num (Tm.enc (.var .i64 5))), (17, .num (Tm.enc (.lit .i64 0))), (13, .num (Tm.enc (.var .u64 13))), (12, .num (Tm.enc (.var .u64 12))), (11, .num (Tm.enc (.var .i64 11))), (10, .num (Tm.enc (.var .u8 10))), (5, .num (Tm.enc (.var .i64 5))), (70, .arr (.upd (.var 60) (Tm.enc (.var .i64 11)) (Tm.enc (.var .u64 13)))), (6, .num (Tm.enc (.var .i64 6))), (71, .arr (.var 61)), (6, .num (Tm.enc (.var .i64 6))), (5, .num (Tm.enc (.var .i64 5))), (5, .num (Tm.enc (.var .i64 5))), (70, .arr (.upd (.var 60) (Tm.enc (.var .i64 11)) (Tm.enc (.var .u64 13)))), (6, .num (Tm.enc (.var .i64 6))), (71, .arr (.var 61)), (6, .num (Tm.enc (.var .i64 6))), (5, .num (Tm.enc (.var .i64 5)))]
noncomputable def kW11ad : Fr → Heap → Option (AExit × Fr × Heap) := lkLoopR Try.prog 100 [] E11wS G11S (.exit 0) [(5, .num (Tm.enc (.var .i64 5))), (5, .num (Tm.enc (.var .i64 5))), (5, .num (Tm.enc (.var .i64 5))), (17, .num (Tm.enc (.lit .i64 0))), (13, .num (Tm.enc (.var .u64 13))), (12, .num (Tm.enc (.var .u64 12))), (11, .num (Tm.enc (.var .i64 11))), (10, .num (Tm.enc (.var .u8 10))), (5, .num (Tm.enc (.var .i64 5))), (70, .arr (.upd (.var 60) (Tm.enc (.var .i64 11)) (Tm.enc (.bin .add (.app .u64 60 (.cons (.var .i64 11) .nil)) (.var .u64 12))))), (6, .num (Tm.enc (.var .i64 6))), (71, .arr (.var 61)), (6, .num (Tm.enc (.var .i64 6))), (5, .num (Tm.enc (.var .i64 5))), (5, .num (Tm.enc (.var .i64 5))), (70, .arr (.upd (.var 60) (Tm.enc (.var .i64 11)) (Tm.enc (.bin .add (.app .u64 60 (.cons (.var .i64 11) .nil)) (.var .u64 12))))), (6, .num (Tm.enc (.var .i64 6))), (71, .arr (.var 61)), (6, .num (Tm.enc (.var .i64 6))), (5, .num (Tm.enc (.var .i64 5)))]
noncomputable def kW11pu : Fr → Heap → Option (AExit × Fr × Heap) := lkLoopR Try.prog 100 [] E11wS G11S (.exit 0) [(5, .num (Tm.enc (.var .i64 5))), (5, .num (Tm.enc (.var .i64 5))), (5, .num (Tm.enc (.var .i64 5))), (17, .num (Tm.enc (.lit .i64 0))), (13, .num (Tm.enc (.var .u64 13))), (12, .num (Tm.enc (.var .u64 12))), (11, .num (Tm.enc (.var .i64 11))), (10, .num (Tm.enc (.var .u8 10))), (5, .num (Tm.enc (.var .i64 5))), (70, .arr (.var 60)), (6, .num (Tm.enc (.var .i64 6))), (71, .arr (.upd (.var 61) (Tm.enc (.var .i64 11)) (Tm.enc (.conv .u8 (.var .u64 12))))), (6, .num (Tm.enc (.var .i64 6))), (5, .num (Tm.enc (.var .i64 5))), (5, .num (Tm.enc (.var .i64 5))), (70, .arr (.var 60)), (6, .num (Tm.enc (.var .i64 6))), (71, .arr (.upd (.var 61) (Tm.enc (.var .i64 11)) (Tm.enc (.conv .u8 (.var .u64 12))))), (6, .num (Tm.enc (.var .i64 6))), (5, .num (Tm.enc (.var .i64 5)))]
noncomputable def kB01 : Fr → Heap → Option (AExit × Fr × Heap) := lkLoopR Try.prog 100 [] E01S G01S (.exit 0) [(6, .num (Tm.enc (.var .i64 6))), (6, .num (Tm.enc (.var .i64 6))), (6, .num (Tm.enc (.var .i64 6))), (17, .num (Tm.enc (.lit .i64 0))), (13, .num (Tm.enc (.var .u64 13))), (12, .num (Tm.enc (.var .u64 12))), (11, .num (Tm.enc (.var .i64 11))), (10, .num (Tm.enc (.var .u8 10))), (5, .num (Tm.enc (.var .i64 5))), (70, .arr (.var 60)), (6, .num (Tm.enc (.var .i64 6))), (71, .arr (.var 61)), (6, .num (Tm.enc (.var .i64 6))), (5, .num (Tm.enc (.var .i64 5))), (6, .num (Tm.enc (.var .i64 6))), (71, .arr (.var 61)), (6, .num (Tm.enc (.var .i64 6)))]
noncomputable def kB01Z70 : Fr → Heap → Option (AExit × Fr × Heap) := lkLoopR Try.prog 200 [] E01ZS G01ZS (.exit 0) [(6, .num (Tm.enc (.var .i64 6))), (6, .num (Tm.enc (.var .i64 6))), (6, .num (Tm.enc (.var .i64 6))), (17, .num (Tm.enc (.lit .i64 0))), (13, .num (Tm.enc (.var .u64 13))), (12, .num (Tm.enc (.var .u64 12))), (11, .num (Tm.enc (.var .i64 11))), (10, .num (Tm.enc (.var .u8 10))), (5, .num (Tm.enc (.var .i64 5))), (70, .arr (.var 70)), (6, .num (Tm.enc (.var .i64 6))), (71, .arr (.var 71)), (6, .num (Tm.enc (.var .i64 6))), (5, .num (Tm.enc (.var .i64 5))), (6, .num (Tm.enc (.var .i64 6))), (71, .arr (.var 71)), (6, .num (Tm.enc (.var .i64 6)))]
noncomputable def kB01pu : Fr → Heap → Option (AExit × Fr × Heap) := lkLoopR Try.prog 100 [] E01S G01S (.exit 0) [(6, .num (Tm.enc (.var .i64 6))), (6, .num (Tm.enc (.var .i64 6))), (6, .num (Tm.enc (.var .i64 6))), (17, .num (Tm.enc (.lit .i64 0))), (13, .num (Tm.enc (.var .u64 13))), (12, .num (Tm.enc (.var .u64 12))), (11, .num (Tm.enc (.var .i64 11))), (10, .num (Tm.enc (.var .u8 10))), (5, .num (Tm.enc (.var .i64 5))), (70, .arr (.var 60)), (6, .num (Tm.enc (.var .i64 6))), (71, .arr (.upd (.var 61) (Tm.enc (.var .i64 11)) (Tm.enc (.conv .u8 (.var .u64 12))))), (6, .num (Tm.enc (.var .i64 6))), (5, .num (Tm.enc (.var .i64 5))), (6, .num (Tm.enc (.var .i64 6))), (71, .arr (.upd (.var 61) (Tm.enc (.var .i64 11)) (Tm.enc (.conv .u8 (.var .u64 12))))), (6, .num (Tm.enc (.var .i64 6)))]
noncomputable def kW10 : Fr → Heap → Option (AExit × Fr × Heap) := lkLoopR Try.prog 100 [] E10S G10S (.exit 0) [(5, .num (Tm.enc (.var .i64 5))), (5, .num (Tm.enc (.var .i64 5))), (5, .num (Tm.enc (.var .i64 5))), (17, .num (Tm.enc (.lit .i64 0))), (13, .num (Tm.enc (.var .u64 13))), (12, .num (Tm.enc (.var .u64 12))), (11, .num (Tm.enc (.var .i64 11))), (10, .num (Tm.enc (.var .u8 10))), (5, .num (Tm.enc (.var .i64 5))), (70, .arr (.var 60)), (6, .num (Tm.enc (.var .i64 6))), (71, .arr (.var 61)), (6, .num (Tm.enc (.var .i64 6))), (5, .num (Tm.enc (.var .i64 5))), (5, .num (Tm.enc (.var .i64 5))), (70, .arr (.var 60)), (5, .num (Tm.enc (.var .i64 5)))]
noncomputable def kW10Z70 : Fr → Heap → Option (AExit × Fr × Heap) := lkLoopR Try.prog 200 [] E10ZS G10ZS (.exit 0) [(5, .num (Tm.enc (.var .i64 5))), (5, .num (Tm.enc (.var .i64 5))), (5, .num (Tm.enc (.var .i64 5))), (17, .num (Tm.enc (.lit .i64 0))), (13, .num (Tm.enc (.var .u64 13))), (12, .num (Tm.enc (.var .u64 12))), (11, .num (Tm.enc (.var .i64 11))), (10, .num (Tm.enc (.var .u8 10))), (5, .num (Tm.enc (.var .i64 5))), (70, .arr (.var 70)), (6, .num (Tm.enc (.var .i64 6))), (71, .arr (.var 71)), (6, .num (Tm.enc (.var .i64 6))), (5, .num (Tm.enc (.var .i64 5))), (5, .num (Tm.enc (.var .i64 5))), (70, .arr (.var 70)), (5, .num (Tm.enc (.var .i64 5)))]
noncomputable def kW10st : Fr → Heap → Option (AExit × Fr × Heap) := lkLoopR Try.prog 100 [] E10S G10S (.exit 0) [(5, .num (Tm.enc (.var .i64 5))), (5, .num (Tm.enc (.var .i64 5))), (5, .num (Tm.enc (.var .i64 5))), (17, .num (Tm.enc (.lit .i64 0))), (13, .num (Tm.enc (.var .u64 13))), (12, .num (Tm.enc (.var .u64 12))), (11, .num (Tm.enc (.var .i64 11))), (10, .num (Tm.enc (.var .u8 10))), (5, .num (Tm.enc (.var .i64 5))), (70, .arr (.upd (.var 60) (Tm.enc (.var .i64 11)) (Tm.enc (.var .u64 12)))), (6, .num (Tm.enc (.var .i64 6))), (71, .arr (.var 61)), (6, .num (Tm.enc (.var .i64 6))), (5, .num (Tm.enc (.var .i64 5))), (5, .num (Tm.enc (.var .i64 5))), (70, .arr (.upd (.var 60) (Tm.enc (.var .i64 11)) (Tm.enc (.var .u64 12)))), (5, .num (Tm.enc (.var .i64 5)))]
noncomputable def kW10ca : Fr → Heap → Option (AExit × Fr × Heap) := lkLoopR Try.prog 100 [] E10S G10S (.exit 0) [(5, .num (Tm.enc (.var .i64 5))), (5, .num (Tm.enc (.var .i64 5))), (5, .num (Tm.enc (.var .i64 5))), (17, .num (Tm.enc (.lit .i64 0))), (13, .num (Tm.enc (.var .u64 13))), (12, .num (Tm.enc (.var .u64 12))), (11, .num (Tm.enc (.var .i64 11))), (10, .num (Tm.enc (.var .u8 10))), (5, .num (Tm.enc (.var .i64 5))), (70, .arr (.upd (.var 60) (Tm.enc (.var .i64 11)) (Tm.enc (.var .u64 13)))), (6, .num (Tm.enc (.var .i64 6))), (71, .arr (.var 61)), (6, .num (Tm.enc (.var .i64 6))), (5, .num (Tm.enc (.var .i64 5))), (5, .num (Tm.enc (.var .i64 5))), (70, .arr (.upd (.var 60) (Tm.enc (.var .i64 11)) (Tm.enc (.var .u64 13)))), (5, .num (Tm.enc (.var .i64 5)))]
noncomputable def kW10ad : Fr → Heap → Option (AExit × Fr × Heap) := lkLoopR Try.prog 100 [] E10S G10S (.exit 0) [(5, .num (Tm.enc (.var .i64 5))), (5, .num (Tm.enc (.var .i64 5))), (5, .num (Tm.enc (.var .i64 5))), (17, .num (Tm.enc (.lit .i64 0))), (13, .num (Tm.enc (.var .u64 13))), (12, .num (Tm.enc (.var .u64 12))), (11, .num (Tm.enc (.var .i64 11))), (10, .num (Tm.enc (.var .u8 10))), (5, .num (Tm.enc (.var .i64 5))), (70, .arr (.upd (.var 60) (Tm.enc (.var .i64 11)) (Tm.enc (.bin .add (.app .u64 60 (.cons (.var .i64 11) .nil)) (.var .u64 12))))), (6, .num (Tm.enc (.var .i64 6))), (71, .arr (.var 61)), (6, .num (Tm.enc (.var .i64 6))), (5, .num (Tm.enc (.var .i64 5))), (5, .num (Tm.enc (.var .i64 5))), (70, .arr (.upd (.var 60) (Tm.enc (.var .i64 11)) (Tm.enc (.bin .add (.app .u64 60 (.cons (.var .i64 11) .nil)) (.var .u64 12))))), (5, .num (Tm.enc (.var .i64 5)))]
theorem atW11 {T : Sy} (hh : 0 ≤ T.ρ 5 ∧ T.ρ 5 < 41) (hK : ∀ x ∈ T.I, x.f + x.ks.length ≤ 60) {asg0 : Asg} (ha : AsgOk T (T.set (upd T.ρ [(17, 0)]) [] 60 rfl hK) asg0) : LkAt Try.prog T [] (.loop (cAt Try.prog lpS1)) (lkLoopR Try.prog 100 [] E11wS G11S (.exit 0) asg0) := by
  obtain ⟨m, hm⟩ : ∃ m : Nat, T.ρ 5 = m := ⟨(T.ρ 5).toNat, by omega⟩
  obtain ⟨Sf, ⟨_, fr⟩, lk⟩ := loopW11 (T.set (upd T.ρ [(17, 0)]) [] 60 rfl hK) m (by omega) hm hh hK rfl
  have y : Stay ([17] ++ [17]) [] T Sf := ((Stay.refl [17] [] T).set (u := [(17, 0)]) (r := []) (K := 60) (hr := rfl) (hK := hK) rfl rfl).trans fr
  exact lk T asg0 (Same.symm (y.same rfl rfl)) ha
theorem atB11 {T : Sy} (hh : 0 ≤ T.ρ 6 ∧ T.ρ 6 < 41) (hK : ∀ x ∈ T.I, x.f + x.ks.length ≤ 60) {asg0 : Asg} (ha : AsgOk T (T.set (upd T.ρ [(17, 0)]) [] 60 rfl hK) asg0) : LkAt Try.prog T [] (.loop (cAt Try.prog lpS2)) (lkLoopR Try.prog 100 [] E11bS G11S (.exit 0) asg0) := by
  obtain ⟨m, hm⟩ : ∃ m : Nat, T.ρ 6 = m := ⟨(T.ρ 6).toNat, by omega⟩
  obtain ⟨Sf, ⟨_, fr⟩, lk⟩ := loopB11 (T.set (upd T.ρ [(17, 0)]) [] 60 rfl hK) m (by omega) hm hh hK rfl
  have y : Stay ([17] ++ [17]) [] T Sf := ((Stay.refl [17] [] T).set (u := [(17, 0)]) (r := []) (K := 60) (hr := rfl) (hK := hK) rfl rfl).trans fr
  exact lk T asg0 (Same.symm (y.same rfl rfl)) ha
theorem atB01 {T : Sy} (hh : 0 ≤ T.ρ 6 ∧ T.ρ 6 < 41) (hK : ∀ x ∈ T.I, x.f + x.ks.length ≤ 60) {asg0 : Asg} (ha : AsgOk T (T.set (upd T.ρ [(17, 0)]) [] 60 rfl hK) asg0) : LkAt Try.prog T [] (.loop (cAt Try.prog lpS2)) (lkLoopR Try.prog 100 [] E01S G01S (.exit 0) asg0) := by
  obtain ⟨m, hm⟩ : ∃ m : Nat, T.ρ 6 = m := ⟨(T.ρ 6).toNat, by omega⟩
  obtain ⟨Sf, ⟨_, fr⟩, lk⟩ := loopB01 (T.set (upd T.ρ [(17, 0)]) [] 60 rfl hK) m (by omega) hm hh hK rfl
  have y : Stay ([17] ++ [17]) [] T Sf := ((Stay.refl [17] [] T).set (u := [(17, 0)]) (r := []) (K := 60) (hr := rfl) (hK := hK) rfl rfl).trans fr
  exact lk T asg0 (Same.symm (y.same rfl rfl)) ha
theorem atW10 {T : Sy} (hh : 0 ≤ T.ρ 5 ∧ T.ρ 5 < 41) (hK : ∀ x ∈ T.I, x.f + x.ks.length ≤ 60) {asg0 : Asg} (ha : AsgOk T (T.set (upd T.ρ [(17, 0)]) [] 60 rfl hK) asg0) : LkAt Try.prog T [] (.loop (cAt Try.prog lpS1)) (lkLoopR Try.prog 100 [] E10S G10S (.exit 0) asg0) := by
  obtain ⟨m, hm⟩ : ∃ m : Nat, T.ρ 5 = m := ⟨(T.ρ 5).toNat, by omega⟩
  obtain ⟨Sf, ⟨_, fr⟩, lk⟩ := loopW10 (T.set (upd T.ρ [(17, 0)]) [] 60 rfl hK) m (by omega) hm hh hK rfl
  have y : Stay ([17] ++ [17]) [] T Sf := ((Stay.refl [17] [] T).set (u := [(17, 0)]) (r := []) (K := 60) (hr := rfl) (hK := hK) rfl rfl).trans fr
  exact lk T asg0 (Same.symm (y.same rfl rfl)) ha
theorem atW11Z {T : Sy} (hh : 0 ≤ T.ρ 5 ∧ T.ρ 5 < 41) (hK : ∀ x ∈ T.I, x.f + x.ks.length ≤ 60) {asg0 : Asg} (ha : AsgOk T (T.set (upd T.ρ [(17, 0)]) [] 60 rfl hK) asg0) : LkAt Try.prog T [] (.loop (cAt Try.prog lpS1)) (lkLoopR Try.prog 200 [] E11wZS G11ZS (.exit 0) asg0) := by
  obtain ⟨m, hm⟩ : ∃ m : Nat, T.ρ 5 = m := ⟨(T.ρ 5).toNat, by omega⟩
  obtain ⟨Sf, ⟨_, fr⟩, lk⟩ := loopW11Z (T.set (upd T.ρ [(17, 0)]) [] 60 rfl hK) m (by omega) hm hh hK rfl
  have y : Stay ([17] ++ [17]) [] T Sf := ((Stay.refl [17] [] T).set (u := [(17, 0)]) (r := []) (K := 60) (hr := rfl) (hK := hK) rfl rfl).trans fr
  exact lk T asg0 (Same.symm (y.same rfl rfl)) ha
theorem atB11Z {T : Sy} (hh : 0 ≤ T.ρ 6 ∧ T.ρ 6 < 41) (hK : ∀ x ∈ T.I, x.f + x.ks.length ≤ 60) {asg0 : Asg} (ha : AsgOk T (T.set (upd T.ρ [(17, 0)]) [] 60 rfl hK) asg0) : LkAt Try.prog T [] (.loop (cAt Try.prog lpS2)) (lkLoopR Try.prog 200 [] E11bZS G11ZS (.exit 0) asg0) := by
  obtain ⟨m, hm⟩ : ∃ m : Nat, T.ρ 6 = m := ⟨(T.ρ 6).toNat, by omega⟩
  obtain ⟨Sf, ⟨_, fr⟩, lk⟩ := loopB11Z (T.set (upd T.ρ [(17, 0)]) [] 60 rfl hK) m (by omega) hm hh hK rfl
  have y : Stay ([17] ++ [17]) [] T Sf := ((Stay.refl [17] [] T).set (u := [(17, 0)]) (r := []) (K := 60) (hr := rfl) (hK := hK) rfl rfl).trans fr
  exact lk T asg0 (Same.symm (y.same rfl rfl)) ha
theorem atB01Z {T : Sy} (hh : 0 ≤ T.ρ 6 ∧ T.ρ 6 < 41) (hK : ∀ x ∈ T.I, x.f + x.ks.length ≤ 60) {asg0 : Asg} (ha : AsgOk T (T.set (upd T.ρ [(17, 0)]) [] 60 rfl hK) asg0) : LkAt Try.prog T [] (.loop (cAt Try.prog lpS2)) (lkLoopR Try.prog 200 [] E01ZS G01ZS (.exit 0) asg0) := by
  obtain ⟨m, hm⟩ : ∃ m : Nat, T.ρ 6 = m := ⟨(T.ρ 6).toNat, by omega⟩
  obtain ⟨Sf, ⟨_, fr⟩, lk⟩ := loopB01Z (T.set (upd T.ρ [(17, 0)]) [] 60 rfl hK) m (by omega) hm hh hK rfl
  have y : Stay ([17] ++ [17]) [] T Sf := ((Stay.refl [17] [] T).set (u := [(17, 0)]) (r := []) (K := 60) (hr := rfl) (hK := hK) rfl rfl).trans fr
  exact lk T asg0 (Same.symm (y.same rfl rfl)) ha
theorem atW10Z {T : Sy} (hh : 0 ≤ T.ρ 5 ∧ T.ρ 5 < 41) (hK : ∀ x ∈ T.I, x.f + x.ks.length ≤ 60) {asg0 : Asg} (ha : AsgOk T (T.set (upd T.ρ [(17, 0)]) [] 60 rfl hK) asg0) : LkAt Try.prog T [] (.loop (cAt Try.prog lpS1)) (lkLoopR Try.prog 200 [] E10ZS G10ZS (.exit 0) asg0) := by
  obtain ⟨m, hm⟩ : ∃ m : Nat, T.ρ 5 = m := ⟨(T.ρ 5).toNat, by omega⟩
  obtain ⟨Sf, ⟨_, fr⟩, lk⟩ := loopW10Z (T.set (upd T.ρ [(17, 0)]) [] 60 rfl hK) m (by omega) hm hh hK rfl
  have y : Stay ([17] ++ [17]) [] T Sf := ((Stay.refl [17] [] T).set (u := [(17, 0)]) (r := []) (K := 60) (hr := rfl) (hK := hK) rfl rfl).trans fr
  exact lk T asg0 (Same.symm (y.same rfl rfl)) ha
theorem lks11 {T : Sy} (h5 : 0 ≤ T.ρ 5 ∧ T.ρ 5 < 41) (h6 : 0 ≤ T.ρ 6 ∧ T.ρ 6 < 41) (hK : ∀ x ∈ T.I, x.f + x.ks.length ≤ 60) (z70 : ∀ j : Int, T.Φ 70 [j] = (fun j => T.Φ 60 [j]) j) (z71 : ∀ j : Int, T.Φ 71 [j] = (fun j => T.Φ 61 [j]) j)
    (lk0 : LkAt Try.prog T [] (.loop (cAt Try.prog lpS0)) kS0) : LkOk Try.prog T [] ΛS (lkL [kS0, orL kW11 kW11Z70, orL kB1170 kB11Z70]) :=
  LkOk.all (ms := [lpS0, lpS1, lpS2]) (fs := [kS0, orL kW11 kW11Z70, orL kB1170 kB11Z70]) ⟨⟨_, codeS0, lk0⟩, ⟨_, codeS1, (LkAt.or (atW11 h5 hK (av 5 .i64 (av 5 .i64 (av 5 .i64 (an 17 (.lit .i64 0) (rfl) (av 13 .u64 (av 12 .u64 (av 11 .i64 (av 10 .u8 (av 5 .i64 (ar 70 (ar_var 60) (av 6 .i64 (ar 71 (ar_var 61) (av 6 .i64 (av 5 .i64 (av 5 .i64 (ar 70 (ar_var 60) (av 6 .i64 (ar 71 (ar_var 61) (av 6 .i64 (av 5 .i64 (asg_nil rfl))) (fun j => (z71 j).symm))) (fun j => (z70 j).symm))))) (fun j => (z71 j).symm))) (fun j => (z70 j).symm)))))))))))) (atW11Z h5 hK (av 5 .i64 (av 5 .i64 (av 5 .i64 (an 17 (.lit .i64 0) (rfl) (av 13 .u64 (av 12 .u64 (av 11 .i64 (av 10 .u8 (av 5 .i64 (ar 70 (ar_var 70) (av 6 .i64 (ar 71 (ar_var 71) (av 6 .i64 (av 5 .i64 (av 5 .i64 (ar 70 (ar_var 70) (av 6 .i64 (ar 71 (ar_var 71) (av 6 .i64 (av 5 .i64 (asg_nil rfl))) (fun _ => rfl))) (fun _ => rfl))))) (fun _ => rfl))) (fun _ => rfl)))))))))))))⟩, ⟨_, codeS2, (LkAt.or (atB11 h6 hK (av 6 .i64 (av 6 .i64 (av 6 .i64 (an 17 (.lit .i64 0) (rfl) (av 13 .u64 (av 12 .u64 (av 11 .i64 (av 10 .u8 (av 5 .i64 (ar 70 (ar_var 70) (av 6 .i64 (ar 71 (ar_var 71) (av 6 .i64 (av 5 .i64 (av 5 .i64 (ar 70 (ar_var 70) (av 6 .i64 (ar 71 (ar_var 71) (av 6 .i64 (av 5 .i64 (asg_nil rfl))) (fun _ => rfl))) (fun _ => rfl))))) (fun _ => rfl))) (fun _ => rfl)))))))))))) (atB11Z h6 hK (av 6 .i64 (av 6 .i64 (av 6 .i64 (an 17 (.lit .i64 0) (rfl) (av 13 .u64 (av 12 .u64 (av 11 .i64 (av 10 .u8 (av 5 .i64 (ar 70 (ar_var 70) (av 6 .i64 (ar 71 (ar_var 71) (av 6 .i64 (av 5 .i64 (av 5 .i64 (ar 70 (ar_var 70) (av 6 .i64 (ar 71 (ar_var 71) (av 6 .i64 (av 5 .i64 (asg_nil rfl))) (fun _ => rfl))) (fun _ => rfl))))) (fun _ => rfl))) (fun _ => rfl)))))))))))))⟩, trivial⟩
theorem lks11st {T : Sy} (h5 : 0 ≤ T.ρ 5 ∧ T.ρ 5 < 41) (h6 : 0 ≤ T.ρ 6 ∧ T.ρ 6 < 41) (hK : ∀ x ∈ T.I, x.f + x.ks.length ≤ 60) (z70 : ∀ j : Int, T.Φ 70 [j] = (fun j => ifE j (T.ρ 11) (T.ρ 12) (T.Φ 60 [j])) j) (z71 : ∀ j : Int, T.Φ 71 [j] = (fun j => T.Φ 61 [j]) j)
    (lk0 : LkAt Try.prog T [] (.loop (cAt Try.prog lpS0)) kS0) : LkOk Try.prog T [] ΛS (lkL [kS0, kW11st, kB1170]) :=
  LkOk.all (ms := [lpS0, lpS1, lpS2]) (fs := [kS0, kW11st, kB1170]) ⟨⟨_, codeS0, lk0⟩, ⟨_, codeS1, (atW11 h5 hK (av 5 .i64 (av 5 .i64 (av 5 .i64 (an 17 (.lit .i64 0) (rfl) (av 13 .u64 (av 12 .u64 (av 11 .i64 (av 10 .u8 (av 5 .i64 (ar 70 (ar_upd (.var .i64 11) (.var .u64 12) (i := T.ρ 11) (v := T.ρ 12) rfl rfl (by kernel_rfl) (ar_var 60)) (av 6 .i64 (ar 71 (ar_var 61) (av 6 .i64 (av 5 .i64 (av 5 .i64 (ar 70 (ar_upd (.var .i64 11) (.var .u64 12) (i := T.ρ 11) (v := T.ρ 12) rfl rfl (by kernel_rfl) (ar_var 60)) (av 6 .i64 (ar 71 (ar_var 61) (av 6 .i64 (av 5 .i64 (asg_nil rfl))) (fun j => (z71 j).symm))) (fun j => (z70 j).symm))))) (fun j => (z71 j).symm))) (fun j => (z70 j).symm))))))))))))⟩, ⟨_, codeS2, (atB11 h6 hK (av 6 .i64 (av 6 .i64 (av 6 .i64 (an 17 (.lit .i64 0) (rfl) (av 13 .u64 (av 12 .u64 (av 11 .i64 (av 10 .u8 (av 5 .i64 (ar 70 (ar_var 70) (av 6 .i64 (ar 71 (ar_var 71) (av 6 .i64 (av 5 .i64 (av 5 .i64 (ar 70 (ar_var 70) (av 6 .i64 (ar 71 (ar_var 71) (av 6 .i64 (av 5 .i64 (asg_nil rfl))) (fun _ => rfl))) (fun _ => rfl))))) (fun _ => rfl))) (fun _ => rfl))))))))))))⟩, trivial⟩
theorem lks11ca {T : Sy} (h5 : 0 ≤ T.ρ 5 ∧ T.ρ 5 < 41) (h6 : 0 ≤ T.ρ 6 ∧ T.ρ 6 < 41) (hK : ∀ x ∈ T.I, x.f + x.ks.length ≤ 60) (z70 : ∀ j : Int, T.Φ 70 [j] = (fun j => ifE j (T.ρ 11) (T.ρ 13) (T.Φ 60 [j])) j) (z71 : ∀ j : Int, T.Φ 71 [j] = (fun j => T.Φ 61 [j]) j)
    (lk0 : LkAt Try.prog T [] (.loop (cAt Try.prog lpS0)) kS0) : LkOk Try.prog T [] ΛS (lkL [kS0, kW11ca, kB1170]) :=
  LkOk.all (ms := [lpS0, lpS1, lpS2]) (fs := [kS0, kW11ca, kB1170]) ⟨⟨_, codeS0, lk0⟩, ⟨_, codeS1, (atW11 h5 hK (av 5 .i64 (av 5 .i64 (av 5 .i64 (an 17 (.lit .i64 0) (rfl) (av 13 .u64 (av 12 .u64 (av 11 .i64 (av 10 .u8 (av 5 .i64 (ar 70 (ar_upd (.var .i64 11) (.var .u64 13) (i := T.ρ 11) (v := T.ρ 13) rfl rfl (by kernel_rfl) (ar_var 60)) (av 6 .i64 (ar 71 (ar_var 61) (av 6 .i64 (av 5 .i64 (av 5 .i64 (ar 70 (ar_upd (.var .i64 11) (.var .u64 13) (i := T.ρ 11) (v := T.ρ 13) rfl rfl (by kernel_rfl) (ar_var 60)) (av 6 .i64 (ar 71 (ar_var 61) (av 6 .i64 (av 5 .i64 (asg_nil rfl))) (fun j => (z71 j).symm))) (fun j => (z70 j).symm))))) (fun j => (z71 j).symm))) (fun j => (z70 j).symm))))))))))))⟩, ⟨_, codeS2, (atB11 h6 hK (av 6 .i64 (av 6 .i64 (av 6 .i64 (an 17 (.lit .i64 0) (rfl) (av 13 .u64 (av 12 .u64 (av 11 .i64 (av 10 .u8 (av 5 .i64 (ar 70 (ar_var 70) (av 6 .i64 (ar 71 (ar_var 71) (av 6 .i64 (av 5 .i64 (av 5 .i64 (ar 70 (ar_var 70) (av 6 .i64 (ar 71 (ar_var 71) (av 6 .i64 (av 5 .i64 (asg_nil rfl))) (fun _ => rfl))) (fun _ => rfl))))) (fun _ => rfl))) (fun _ => rfl))))))))))))⟩, trivial⟩
theorem lks11ad {T : Sy} (h5 : 0 ≤ T.ρ 5 ∧ T.ρ 5 < 41) (h6 : 0 ≤ T.ρ 6 ∧ T.ρ 6 < 41) (hK : ∀ x ∈ T.I, x.f + x.ks.length ≤ 60) (z70 : ∀ j : Int, T.Φ 70 [j] = (fun j => ifE j (T.ρ 11) (IntKind.u64.wrap (T.Φ 60 [T.ρ 11] + T.ρ 12)) (T.Φ 60 [j])) j) (z71 : ∀ j : Int, T.Φ 71 [j] = (fun j => T.Φ 61 [j]) j)
    (lk0 : LkAt Try.prog T [] (.loop (cAt Try.prog lpS0)) kS0) : LkOk Try.prog T [] ΛS (lkL [kS0, kW11ad, kB1170]) :=
  LkOk.all (ms := [lpS0, lpS1, lpS2]) (fs := [kS0, kW11ad, kB1170]) ⟨⟨_, codeS0, lk0⟩, ⟨_, codeS1, (atW11 h5 hK (av 5 .i64 (av 5 .i64 (av 5 .i64 (an 17 (.lit .i64 0) (rfl) (av 13 .u64 (av 12 .u64 (av 11 .i64 (av 10 .u8 (av 5 .i64 (ar 70 (ar_upd (.var .i64 11) (.bin .add (.app .u64 60 (.cons (.var .i64 11) .nil)) (.var .u64 12)) (i := T.ρ 11) (v := (IntKind.u64.wrap ((T.Φ 60 [T.ρ 11]) + T.ρ 12))) rfl rfl (by kernel_rfl) (ar_var 60)) (av 6 .i64 (ar 71 (ar_var 61) (av 6 .i64 (av 5 .i64 (av 5 .i64 (ar 70 (ar_upd (.var .i64 11) (.bin .add (.app .u64 60 (.cons (.var .i64 11) .nil)) (.var .u64 12)) (i := T.ρ 11) (v := (IntKind.u64.wrap ((T.Φ 60 [T.ρ 11]) + T.ρ 12))) rfl rfl (by kernel_rfl) (ar_var 60)) (av 6 .i64 (ar 71 (ar_var 61) (av 6 .i64 (av 5 .i64 (asg_nil rfl))) (fun j => (z71 j).symm))) (fun j => (z70 j).symm))))) (fun j => (z71 j).symm))) (fun j => (z70 j).symm))))))))))))⟩, ⟨_, codeS2, (atB11 h6 hK (av 6 .i64 (av 6 .i64 (av 6 .i64 (an 17 (.lit .i64 0) (rfl) (av 13 .u64 (av 12 .u64 (av 11 .i64 (av 10 .u8 (av 5 .i64 (ar 70 (ar_var 70) (av 6 .i64 (ar 71 (ar_var 71) (av 6 .i64 (av 5 .i64 (av 5 .i64 (ar 70 (ar_var 70) (av 6 .i64 (ar 71 (ar_var 71) (av 6 .i64 (av 5 .i64 (asg_nil rfl))) (fun _ => rfl))) (fun _ => rfl))))) (fun _ => rfl))) (fun _ => rfl))))))))))))⟩, trivial⟩
theorem lks11pu {T : Sy} (h5 : 0 ≤ T.ρ 5 ∧ T.ρ 5 < 41) (h6 : 0 ≤ T.ρ 6 ∧ T.ρ 6 < 41) (hK : ∀ x ∈ T.I, x.f + x.ks.length ≤ 60) (z70 : ∀ j : Int, T.Φ 70 [j] = (fun j => T.Φ 60 [j]) j) (z71 : ∀ j : Int, T.Φ 71 [j] = (fun j => ifE j (T.ρ 11) (IntKind.u8.wrap (T.ρ 12)) (T.Φ 61 [j])) j)
    (lk0 : LkAt Try.prog T [] (.loop (cAt Try.prog lpS0)) kS0) : LkOk Try.prog T [] ΛS (lkL [kS0, kW11pu, kB1170]) :=
  LkOk.all (ms := [lpS0, lpS1, lpS2]) (fs := [kS0, kW11pu, kB1170]) ⟨⟨_, codeS0, lk0⟩, ⟨_, codeS1, (atW11 h5 hK (av 5 .i64 (av 5 .i64 (av 5 .i64 (an 17 (.lit .i64 0) (rfl) (av 13 .u64 (av 12 .u64 (av 11 .i64 (av 10 .u8 (av 5 .i64 (ar 70 (ar_var 60) (av 6 .i64 (ar 71 (ar_upd (.var .i64 11) (.conv .u8 (.var .u64 12)) (i := T.ρ 11) (v := (IntKind.u8.wrap (T.ρ 12))) rfl rfl (by kernel_rfl) (ar_var 61)) (av 6 .i64 (av 5 .i64 (av 5 .i64 (ar 70 (ar_var 60) (av 6 .i64 (ar 71 (ar_upd (.var .i64 11) (.conv .u8 (.var .u64 12)) (i := T.ρ 11) (v := (IntKind.u8.wrap (T.ρ 12))) rfl rfl (by kernel_rfl) (ar_var 61)) (av 6 .i64 (av 5 .i64 (asg_nil rfl))) (fun j => (z71 j).symm))) (fun j => (z70 j).symm))))) (fun j => (z71 j).symm))) (fun j => (z70 j).symm))))))))))))⟩, ⟨_, codeS2, (atB11 h6 hK (av 6 .i64 (av 6 .i64 (av 6 .i64 (an 17 (.lit .i64 0) (rfl) (av 13 .u64 (av 12 .u64 (av 11 .i64 (av 10 .u8 (av 5 .i64 (ar 70 (ar_var 70) (av 6 .i64 (ar 71 (ar_var 71) (av 6 .i64 (av 5 .i64 (av 5 .i64 (ar 70 (ar_var 70) (av 6 .i64 (ar 71 (ar_var 71) (av 6 .i64 (av 5 .i64 (asg_nil rfl))) (fun _ => rfl))) (fun _ => rfl))))) (fun _ => rfl))) (fun _ => rfl))))))))))))⟩, trivial⟩
theorem lks01 {T : Sy} (h5 : 0 ≤ T.ρ 5 ∧ T.ρ 5 < 41) (h6 : 0 ≤ T.ρ 6 ∧ T.ρ 6 < 41) (hK : ∀ x ∈ T.I, x.f + x.ks.length ≤ 60) (z70 : ∀ j : Int, T.Φ 70 [j] = (fun j => T.Φ 60 [j]) j) (z71 : ∀ j : Int, T.Φ 71 [j] = (fun j => T.Φ 61 [j]) j)
    (lk0 : LkAt Try.prog T [] (.loop (cAt Try.prog lpS0)) kS0) : LkOk Try.prog T [] ΛS01 (lkL [kS0, orL kB01 kB01Z70]) :=
  LkOk.all (ms := [lpS0, lpS2]) (fs := [kS0, orL kB01 kB01Z70]) ⟨⟨_, codeS0, lk0⟩, ⟨_, codeS2, (LkAt.or (atB01 h6 hK (av 6 .i64 (av 6 .i64 (av 6 .i64 (an 17 (.lit .i64 0) (rfl) (av 13 .u64 (av 12 .u64 (av 11 .i64 (av 10 .u8 (av 5 .i64 (ar 70 (ar_var 60) (av 6 .i64 (ar 71 (ar_var 61) (av 6 .i64 (av 5 .i64 (av 6 .i64 (ar 71 (ar_var 61) (av 6 .i64 (asg_nil rfl)) (fun j => (z71 j).symm))))) (fun j => (z71 j).symm))) (fun j => (z70 j).symm)))))))))))) (atB01Z h6 hK (av 6 .i64 (av 6 .i64 (av 6 .i64 (an 17 (.lit .i64 0) (rfl) (av 13 .u64 (av 12 .u64 (av 11 .i64 (av 10 .u8 (av 5 .i64 (ar 70 (ar_var 70) (av 6 .i64 (ar 71 (ar_var 71) (av 6 .i64 (av 5 .i64 (av 6 .i64 (ar 71 (ar_var 71) (av 6 .i64 (asg_nil rfl)) (fun _ => rfl))))) (fun _ => rfl))) (fun _ => rfl)))))))))))))⟩, trivial⟩
theorem lks01pu {T : Sy} (h5 : 0 ≤ T.ρ 5 ∧ T.ρ 5 < 41) (h6 : 0 ≤ T.ρ 6 ∧ T.ρ 6 < 41) (hK : ∀ x ∈ T.I, x.f + x.ks.length ≤ 60) (z70 : ∀ j : Int, T.Φ 70 [j] = (fun j => T.Φ 60 [j]) j) (z71 : ∀ j : Int, T.Φ 71 [j] = (fun j => ifE j (T.ρ 11) (IntKind.u8.wrap (T.ρ 12)) (T.Φ 61 [j])) j)
    (lk0 : LkAt Try.prog T [] (.loop (cAt Try.prog lpS0)) kS0) : LkOk Try.prog T [] ΛS01 (lkL [kS0, kB01pu]) :=
  LkOk.all (ms := [lpS0, lpS2]) (fs := [kS0, kB01pu]) ⟨⟨_, codeS0, lk0⟩, ⟨_, codeS2, (atB01 h6 hK (av 6 .i64 (av 6 .i64 (av 6 .i64 (an 17 (.lit .i64 0) (rfl) (av 13 .u64 (av 12 .u64 (av 11 .i64 (av 10 .u8 (av 5 .i64 (ar 70 (ar_var 60) (av 6 .i64 (ar 71 (ar_upd (.var .i64 11) (.conv .u8 (.var .u64 12)) (i := T.ρ 11) (v := (IntKind.u8.wrap (T.ρ 12))) rfl rfl (by kernel_rfl) (ar_var 61)) (av 6 .i64 (av 5 .i64 (av 6 .i64 (ar 71 (ar_upd (.var .i64 11) (.conv .u8 (.var .u64 12)) (i := T.ρ 11) (v := (IntKind.u8.wrap (T.ρ 12))) rfl rfl (by kernel_rfl) (ar_var 61)) (av 6 .i64 (asg_nil rfl)) (fun j => (z71 j).symm))))) (fun j => (z71 j).symm))) (fun j => (z70 j).symm))))))))))))⟩, trivial⟩
theorem lks10 {T : Sy} (h5 : 0 ≤ T.ρ 5 ∧ T.ρ 5 < 41) (h6 : 0 ≤ T.ρ 6 ∧ T.ρ 6 < 41) (hK : ∀ x ∈ T.I, x.f + x.ks.length ≤ 60) (z70 : ∀ j : Int, T.Φ 70 [j] = (fun j => T.Φ 60 [j]) j) (z71 : ∀ j : Int, T.Φ 71 [j] = (fun j => T.Φ 61 [j]) j)
    (lk0 : LkAt Try.prog T [] (.loop (cAt Try.prog lpS0)) kS0) : LkOk Try.prog T [] ΛS10 (lkL [kS0, orL kW10 kW10Z70]) :=
  LkOk.all (ms := [lpS0, lpS1]) (fs := [kS0, orL kW10 kW10Z70]) ⟨⟨_, codeS0, lk0⟩, ⟨_, codeS1, (LkAt.or (atW10 h5 hK (av 5 .i64 (av 5 .i64 (av 5 .i64 (an 17 (.lit .i64 0) (rfl) (av 13 .u64 (av 12 .u64 (av 11 .i64 (av 10 .u8 (av 5 .i64 (ar 70 (ar_var 60) (av 6 .i64 (ar 71 (ar_var 61) (av 6 .i64 (av 5 .i64 (av 5 .i64 (ar 70 (ar_var 60) (av 5 .i64 (asg_nil rfl)) (fun j => (z70 j).symm))))) (fun j => (z71 j).symm))) (fun j => (z70 j).symm)))))))))))) (atW10Z h5 hK (av 5 .i64 (av 5 .i64 (av 5 .i64 (an 17 (.lit .i64 0) (rfl) (av 13 .u64 (av 12 .u64 (av 11 .i64 (av 10 .u8 (av 5 .i64 (ar 70 (ar_var 70) (av 6 .i64 (ar 71 (ar_var 71) (av 6 .i64 (av 5 .i64 (av 5 .i64 (ar 70 (ar_var 70) (av 5 .i64 (asg_nil rfl)) (fun _ => rfl))))) (fun _ => rfl))) (fun _ => rfl)))))))))))))⟩, trivial⟩
theorem lks10st {T : Sy} (h5 : 0 ≤ T.ρ 5 ∧ T.ρ 5 < 41) (h6 : 0 ≤ T.ρ 6 ∧ T.ρ 6 < 41) (hK : ∀ x ∈ T.I, x.f + x.ks.length ≤ 60) (z70 : ∀ j : Int, T.Φ 70 [j] = (fun j => ifE j (T.ρ 11) (T.ρ 12) (T.Φ 60 [j])) j) (z71 : ∀ j : Int, T.Φ 71 [j] = (fun j => T.Φ 61 [j]) j)
    (lk0 : LkAt Try.prog T [] (.loop (cAt Try.prog lpS0)) kS0) : LkOk Try.prog T [] ΛS10 (lkL [kS0, kW10st]) :=
  LkOk.all (ms := [lpS0, lpS1]) (fs := [kS0, kW10st]) ⟨⟨_, codeS0, lk0⟩, ⟨_, codeS1, (atW10 h5 hK (av 5 .i64 (av 5 .i64 (av 5 .i64 (an 17 (.lit .i64 0) (rfl) (av 13 .u64 (av 12 .u64 (av 11 .i64 (av 10 .u8 (av 5 .i64 (ar 70 (ar_upd (.var .i64 11) (.var .u64 12) (i := T.ρ 11) (v := T.ρ 12) rfl rfl (by kernel_rfl) (ar_var 60)) (av 6 .i64 (ar 71 (ar_var 61) (av 6 .i64 (av 5 .i64 (av 5 .i64 (ar 70 (ar_upd (.var .i64 11) (.var .u64 12) (i := T.ρ 11) (v := T.ρ 12) rfl rfl (by kernel_rfl) (ar_var 60)) (av 5 .i64 (asg_nil rfl)) (fun j => (z70 j).symm))))) (fun j => (z71 j).symm))) (fun j => (z70 j).symm))))))))))))⟩, trivial⟩
theorem lks10ca {T : Sy} (h5 : 0 ≤ T.ρ 5 ∧ T.ρ 5 < 41) (h6 : 0 ≤ T.ρ 6 ∧ T.ρ 6 < 41) (hK : ∀ x ∈ T.I, x.f + x.ks.length ≤ 60) (z70 : ∀ j : Int, T.Φ 70 [j] = (fun j => ifE j (T.ρ 11) (T.ρ 13) (T.Φ 60 [j])) j) (z71 : ∀ j : Int, T.Φ 71 [j] = (fun j => T.Φ 61 [j]) j)
    (lk0 : LkAt Try.prog T [] (.loop (cAt Try.prog lpS0)) kS0) : LkOk Try.prog T [] ΛS10 (lkL [kS0, kW10ca]) :=
  LkOk.all (ms := [lpS0, lpS1]) (fs := [kS0, kW10ca]) ⟨⟨_, codeS0, lk0⟩, ⟨_, codeS1, (atW10 h5 hK (av 5 .i64 (av 5 .i64 (av 5 .i64 (an 17 (.lit .i64 0) (rfl) (av 13 .u64 (av 12 .u64 (av 11 .i64 (av 10 .u8 (av 5 .i64 (ar 70 (ar_upd (.var .i64 11) (.var .u64 13) (i := T.ρ 11) (v := T.ρ 13) rfl rfl (by kernel_rfl) (ar_var 60)) (av 6 .i64 (ar 71 (ar_var 61) (av 6 .i64 (av 5 .i64 (av 5 .i64 (ar 70 (ar_upd (.var .i64 11) (.var .u64 13) (i := T.ρ 11) (v := T.ρ 13) rfl rfl (by kernel_rfl) (ar_var 60)) (av 5 .i64 (asg_nil rfl)) (fun j => (z70 j).symm))))) (fun j => (z71 j).symm))) (fun j => (z70 j).symm))))))))))))⟩, trivial⟩
theorem lks10ad {T : Sy} (h5 : 0 ≤ T.ρ 5 ∧ T.ρ 5 < 41) (h6 : 0 ≤ T.ρ 6 ∧ T.ρ 6 < 41) (hK : ∀ x ∈ T.I, x.f + x.ks.length ≤ 60) (z70 : ∀ j : Int, T.Φ 70 [j] = (fun j => ifE j (T.ρ 11) (IntKind.u64.wrap (T.Φ 60 [T.ρ 11] + T.ρ 12)) (T.Φ 60 [j])) j) (z71 : ∀ j : Int, T.Φ 71 [j] = (fun j => T.Φ 61 [j]) j)
    (lk0 : LkAt Try.prog T [] (.loop (cAt Try.prog lpS0)) kS0) : LkOk Try.prog T [] ΛS10 (lkL [kS0, kW10ad]) :=
  LkOk.all (ms := [lpS0, lpS1]) (fs := [kS0, kW10ad]) ⟨⟨_, codeS0, lk0⟩, ⟨_, codeS1, (atW10 h5 hK (av 5 .i64 (av 5 .i64 (av 5 .i64 (an 17 (.lit .i64 0) (rfl) (av 13 .u64 (av 12 .u64 (av 11 .i64 (av 10 .u8 (av 5 .i64 (ar 70 (ar_upd (.var .i64 11) (.bin .add (.app .u64 60 (.cons (.var .i64 11) .nil)) (.var .u64 12)) (i := T.ρ 11) (v := (IntKind.u64.wrap ((T.Φ 60 [T.ρ 11]) + T.ρ 12))) rfl rfl (by kernel_rfl) (ar_var 60)) (av 6 .i64 (ar 71 (ar_var 61) (av 6 .i64 (av 5 .i64 (av 5 .i64 (ar 70 (ar_upd (.var .i64 11) (.bin .add (.app .u64 60 (.cons (.var .i64 11) .nil)) (.var .u64 12)) (i := T.ρ 11) (v := (IntKind.u64.wrap ((T.Φ 60 [T.ρ 11]) + T.ρ 12))) rfl rfl (by kernel_rfl) (ar_var 60)) (av 5 .i64 (asg_nil rfl)) (fun j => (z70 j).symm))))) (fun j => (z71 j).symm))) (fun j => (z70 j).symm))))))))))))⟩, trivial⟩
theorem lks00 {T : Sy} (h5 : 0 ≤ T.ρ 5 ∧ T.ρ 5 < 41) (h6 : 0 ≤ T.ρ 6 ∧ T.ρ 6 < 41) (hK : ∀ x ∈ T.I, x.f + x.ks.length ≤ 60) (z70 : ∀ j : Int, T.Φ 70 [j] = (fun j => T.Φ 60 [j]) j) (z71 : ∀ j : Int, T.Φ 71 [j] = (fun j => T.Φ 61 [j]) j)
    (lk0 : LkAt Try.prog T [] (.loop (cAt Try.prog lpS0)) kS0) : LkOk Try.prog T [] ΛS00 (lkL [kS0]) :=
  LkOk.all (ms := [lpS0]) (fs := [kS0]) ⟨⟨_, codeS0, lk0⟩, trivial⟩
theorem lkZero {S : Sy} {n : Nat} (hn : n < 9223372036854775807) (hb : S.ρ 1 = n) (h5 : 0 ≤ S.ρ 5 ∧ S.ρ 5 < 41) (h6 : 0 ≤ S.ρ 6 ∧ S.ρ 6 < 41) (hr20 : ∀ j : Nat, j < n → (0 ≤ S.Φ 20 [(j : Int)] ∧ S.Φ 20 [(j : Int)] < 256)) (hK : ∀ x ∈ S.I, x.f + x.ks.length ≤ 60) :
    ∃ Sf, Stay [4] [60, 61] S Sf ∧ ∀ T, Stay [] [70, 71] Sf T → LkAt Try.prog T [] (.loop (cAt Try.prog lpS0)) kS0 := by
  obtain ⟨Sf, ⟨_, fr⟩, lk⟩ := loopS0 (S.set (upd S.ρ [(4, 0)]) [(60, fun _ => 0), (61, fun _ => 0)] 60 rfl hK) n hn hb h5 h6 hr20 hK rfl
  have y : Stay ([4] ++ [4]) ([60, 61] ++ [60, 61]) S Sf := ((Stay.refl [4] [60, 61] S).set (u := [(4, 0)]) (r := [(60, fun _ => 0), (61, fun _ => 0)]) (K := 60) (hr := rfl) (hK := hK) rfl rfl).trans fr
  refine ⟨Sf, ⟨y.1, fun v hv => y.2.1 v (by simpa using hv), fun f hf => y.2.2 f (by simp at hf; simp [hf])⟩, fun T q => ?_⟩
  have z := fr.trans q
  exact lk T _ (q.same rfl rfl) (av 1 .i64 (an 4 (.lit .i64 0) rfl (av 14 .i64 (av 13 .u64 (av 12 .u64 (av 11 .i64 (av 10 .u8 (av 5 .i64 (ar 60 ar_zero (av 6 .i64 (ar 61 ar_zero (av 6 .i64 (av 5 .i64 (asg_nil z.1.symm) (z.num 5 rfl)) (z.num 6 rfl)) (fun _ => rfl)) (z.num 6 rfl)) (fun _ => rfl)) (z.num 5 rfl)) (z.num 10 rfl)) (z.num 11 rfl)) (z.num 12 rfl)) (z.num 13 rfl)) (z.num 14 rfl))) (z.num 1 rfl))
theorem setT (S : Sy) (hK : ∀ x ∈ S.I, x.f + x.ks.length ≤ 60) (g h : Int → Int) : ∃ T : Sy, Stay [] [70, 71] S T ∧ (∀ j : Int, T.Φ 70 [j] = g j) ∧ (∀ j : Int, T.Φ 71 [j] = h j) :=
  ⟨S.set S.ρ [(70, g), (71, h)] 60 rfl hK, (Stay.refl [] [70, 71] S).set (u := []) rfl rfl, fun _ => rfl, fun _ => rfl⟩
def u0 : Tm := (.bin .lss (.var .i64 14) (.lit .i64 0))
def u1 : Tm := (.bin .geq (.var .i64 14) (.var .i64 5))
def u2 : Tm := (.bin .geq (.var .i64 14) (.lit .i64 0))
def u3 : Tm := (.bin .lss (.var .i64 14) (.var .i64 5))
def u4 : Tm := (.bin .geq (.var .i64 14) (.var .i64 6))
def u5 : Tm := (.bin .lss (.var .i64 14) (.var .i64 6))
def u6 : Tm := (.bin .neq (.app .u64 70 (.cons (.var .i64 14) .nil)) (.app .u64 60 (.cons (.var .i64 14) .nil)))
def u7 : Tm := (.bin .neq (.conv .u8 (.conv .u64 (.app .u8 71 (.cons (.var .i64 14) .nil)))) (.conv .u8 (.conv .u64 (.app .u8 61 (.cons (.var .i64 14) .nil)))))
def u8 : Tm := (.bin .lss (.var .i64 11) (.lit .i64 0))
def u9 : Tm := (.bin .geq (.var .i64 11) (.var .i64 5))
def u10 : Tm := (.bin .geq (.var .i64 11) (.lit .i64 0))
def u11 : Tm := (.bin .lss (.var .i64 11) (.var .i64 5))
def u12 : Tm := (.bin .neq (.var .i64 11) (.var .i64 14))
def u13 : Tm := (.bin .eql (.var .i64 14) (.var .i64 11))
def u14 : Tm := (.bin .neq (.var .u64 12) (.app .u64 60 (.cons (.var .i64 14) .nil)))
def u15 : Tm := (.bin .neq (.app .u64 60 (.cons (.var .i64 11) .nil)) (.var .u64 12))
def u16 : Tm := (.bin .neq (.var .u64 13) (.app .u64 60 (.cons (.var .i64 14) .nil)))
def u17 : Tm := (.bin .neq (.bin .add (.app .u64 60 (.cons (.var .i64 11) .nil)) (.var .u64 12)) (.app .u64 60 (.cons (.var .i64 14) .nil)))
def u18 : Tm := (.bin .geq (.var .i64 11) (.var .i64 6))
def u19 : Tm := (.bin .lss (.var .i64 11) (.var .i64 6))
def u20 : Tm := (.bin .neq (.conv .u8 (.conv .u64 (.conv .u8 (.var .u64 12)))) (.conv .u8 (.conv .u64 (.app .u8 61 (.cons (.var .i64 14) .nil)))))
end Go.Proofs.Ytokcoabcflpbbaa
