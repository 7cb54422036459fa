/-
  PortTells: its loop by a rule, run with symbols. Conditions: what is said of the slices (SlIn).
-/
import Derived.Test.YtilddfihdmmjcaaN0
import Derived.Test.YtilddfihdmmjcaaEvLp
namespace Go.Proofs.Ytilddfihdmmjcaa
open Go.Ev Go.RowKit
set_option maxRecDepth 100000
def lpT : Mrk := (7, [1, 1, 1, 1, 1, 1, 0, 1, 0])
def inT : Value := inS 0 (dsc 1 20 [4, 4, 5, 8, 8, 8, 8, 8, 4, 4, 4])
def inL : Value := inS 1 (dsc 2 40 [5, 4, 8, 8])
def flg : Tm := .beq (.lit .i64 10) (.lit .i64 10)
def ow (b i : Nat) : Value := .float .f32 (mk 3 0 b (i * 512 + 3))
noncomputable def hpT : List (Nat × Blk) := [(0, .arr ⟨5 * 512 + 3, .var 60, .u64, 36⟩), (1, .arr ⟨6 * 512 + 3, .var 61, .u8, 5⟩), (2, .cells (mkCells #[ow 0 5, ow 1 6] 75)), (3, .cells (mkCells #[.pointer (some ⟨2, 0, none⟩), vv .i64 3, .int .i64 0, vv .i64 10, vv .i64 11, vv .u8 12, vv .u64 13, vv .u64 14, vv .u64 15, vv .u64 16, vv .u64 17, vv .i64 18, vv .i64 19, vv .i64 20, .float .f64 (bsym 21)] 88)), (4, .arr ⟨5 * 512 + 3, .var 60, .u64, 36⟩), (5, .arr ⟨6 * 512 + 3, .var 61, .u8, 5⟩), (6, .cells (mkCells #[ow 4 5, ow 5 6] 75)), (7, .cells (mkCells #[.pointer (some ⟨6, 0, none⟩), vv .i64 3, .int .i64 0, .int .i64 0, .int .i64 0, .int .u8 0, .int .u64 0, .int .u64 0, .int .u64 0, .int .u64 0, .int .u64 0, .int .i64 0, .int .i64 0, .int .i64 0, .bool false] 88))]
noncomputable def XT : Pat := ⟨128, 8, [(0, inT), (1, inL), (5, .pointer (some ⟨3, 0, none⟩)), (6, .pointer (some ⟨7, 0, none⟩)), (7, vv .i64 3), (8, vv .i64 4)], hpT⟩
noncomputable def FT : Pat := ⟨128, 8, [(0, inT), (1, inL), (5, .pointer (some ⟨3, 0, none⟩)), (6, .pointer (some ⟨7, 0, none⟩))], hpT⟩
noncomputable abbrev ΛT : Nat → Option Code := lamOf Try.prog [lpT]
noncomputable abbrev ftT : Nat → Option Func := ftM Try.prog [lpT]
theorem envT : @EnvOk ⟨ΛT⟩ Try.prog ftT := envM env [lpT] (by kernel_rfl)
theorem codeT : codeAt Try.prog lpT = some (.loop (cAt Try.prog lpT)) := by kernel_rfl
theorem fineT : fineC Try.prog.globals.size (cAt Try.prog lpT) = true := by kernel_rfl
def pt0 : Tm := (.bin .lss (.var .i64 4) (.var .i64 2))
def pt1 : Tm := (.bin .lss (.var .i64 4) (.var .i64 1))
def pt2 : Tm := (.bin .geq (.var .i64 4) (.lit .i64 0))
def pt3 : Tm := (.bin .eql (.app .u8 40 (.cons (.var .i64 4) .nil)) (.lit .u8 1))
def pt4 : Tm := (.bin .lss (.app .i64 41 (.cons (.var .i64 4) .nil)) (.lit .i64 0))
def pt5 : Tm := (.bin .geq (.app .u8 40 (.cons (.var .i64 4) .nil)) (.lit .u8 1))
def pt6 : Tm := (.bin .leq (.app .u8 40 (.cons (.var .i64 4) .nil)) (.lit .u8 6))
def pt7 : Tm := (.bin .neq (.bin .add (.var .i64 3) (.lit .i64 1)) (.bin .add (.var .i64 3) (.lit .i64 1)))
def pt8 : Tm := (.bin .geq (.app .i64 41 (.cons (.var .i64 4) .nil)) (.var .i64 5))
def pt9 : Tm := (.bin .geq (.app .i64 41 (.cons (.var .i64 4) .nil)) (.lit .i64 0))
def pt10 : Tm := (.bin .lss (.app .i64 41 (.cons (.var .i64 4) .nil)) (.var .i64 5))
def pt11 : Tm := (.bin .neq (.app .u64 60 (.cons (.app .i64 41 (.cons (.var .i64 4) .nil)) .nil)) (.app .u64 60 (.cons (.app .i64 41 (.cons (.var .i64 4) .nil)) .nil)))
def pt12 : Tm := (.bin .eql (.app .u8 40 (.cons (.var .i64 4) .nil)) (.lit .u8 2))
def pt13 : Tm := (.bin .eql (.app .u8 40 (.cons (.var .i64 4) .nil)) (.lit .u8 3))
def pt14 : Tm := (.bin .neq (.app .u64 60 (.cons (.app .i64 41 (.cons (.var .i64 4) .nil)) .nil)) (.app .u64 42 (.cons (.var .i64 4) .nil)))
def pt15 : Tm := (.bin .eql (.app .u8 40 (.cons (.var .i64 4) .nil)) (.lit .u8 4))
def pt16 : Tm := (.bin .eql (.app .u8 40 (.cons (.var .i64 4) .nil)) (.lit .u8 5))
def pt17 : Tm := (.bin .geq (.app .i64 41 (.cons (.var .i64 4) .nil)) (.var .i64 6))
def pt18 : Tm := (.bin .lss (.app .i64 41 (.cons (.var .i64 4) .nil)) (.var .i64 6))
def pt19 : Tm := (.bin .neq (.conv .u64 (.conv .u8 (.conv .u64 (.app .u8 61 (.cons (.app .i64 41 (.cons (.var .i64 4) .nil)) .nil))))) (.conv .u64 (.conv .u8 (.conv .u64 (.app .u8 61 (.cons (.app .i64 41 (.cons (.var .i64 4) .nil)) .nil))))))
def pt20 : Tm := (.bin .eql (.app .u8 40 (.cons (.var .i64 4) .nil)) (.lit .u8 6))
def pt21 : Tm := (.bin .neq (.var .i64 3) (.var .i64 3))
def pl0 : Tm := (.bin .gtr (.var .i64 1) (.lit .i64 60))
def pl1 : Tm := (.bin .gtr (.var .i64 2) (.lit .i64 60))
def pl2 : Tm := (.bin .gtr (.var .i64 1) (.lit .i64 0))
def pl3 : Tm := (.bne (.bin .neq (.var .u8 21) (.lit .u8 0)) (.bin .gtr (.var .i64 2) (.lit .i64 0)))
def pl4 : Tm := (.bin .geq (.lit .i64 3) (.var .i64 5))
def pl5 : Tm := (.bin .lss (.lit .i64 3) (.var .i64 5))
def pl6 : Tm := (.bin .eql (.app .u64 60 (.cons (.lit .i64 3) .nil)) (.app .u64 60 (.cons (.lit .i64 3) .nil)))
def pl7 : Tm := (.bne (.bin .neq (.var .u8 21) (.lit .u8 0)) (.blit false))
theorem tell_t {i n1 : Nat} {a b o : Int} (h4 : a = i ∧ b = n1) (c : a < b) (h : o = b2i true) : o = if 0 < i + 1 ∧ 0 < n1 then 1 else 0 := by
  rw [h, if_pos ⟨by omega, by omega⟩]
  rfl
theorem tell_f {i n1 : Nat} {a b z o : Int} (h4 : a = i ∧ b = n1) (c : ¬ a < b) (h21 : z = if 0 < i ∧ 0 < n1 then 1 else 0) (h : o = b2i (decide (z ≠ 0))) : o = if 0 < i + 1 ∧ 0 < n1 then 1 else 0 := by
  by_cases hh : 0 < i ∧ 0 < n1
  · rw [if_pos hh] at h21
    rw [if_pos ⟨by omega, hh.2⟩, h, h21]
    rfl
  · rw [if_neg hh] at h21
    rw [if_neg (by omega), h, h21]
    rfl
theorem tell_b {i n1 : Nat} {z : Int} (h21 : z = if 0 < i ∧ 0 < n1 then 1 else 0) : b2i (decide (z ≠ 0)) = z := by
  rw [h21]
  split <;> rfl
theorem tell_c {a b z : Int} {n1 n2 : Nat} (h : z = if 0 < n2 ∧ 0 < n1 then 1 else 0) (ha : a = n1) (hb : b = n2) (c : 0 < a) : ¬ (b2i (decide (z ≠ 0)) ≠ b2i (decide (0 < b))) := by
  by_cases hn : 0 < n2
  · rw [if_pos ⟨hn, by omega⟩] at h
    rw [h, decide_eq_true (show 0 < b by omega)]
    decide
  · rw [if_neg (by omega)] at h
    rw [h, decide_eq_false (show ¬ 0 < b by omega)]
    decide
section
variable (S : Sy) (n1 n2 : Nat)
abbrev RT : Sy → Sy → Prop := StepTo Try.prog ftT ΛT [] (cAt Try.prog lpT) XT FT 8
/-- Behind i rounds: i at the fourth place. -/
def InvT (k : Nat) (S1 : Sy) : Prop := ∃ i : Nat, i ≤ n2 ∧ k = n2 - i ∧ S1.ρ 1 = n1 ∧ S1.ρ 2 = n2 ∧ S1.ρ 4 = i ∧ S1.ρ 5 = 10 ∧ S1.ρ 6 = 10 ∧ 0 ≤ S1.ρ 3 ∧ S1.ρ 3 ≤ i ∧ S1.ρ 21 = (if 0 < i ∧ 0 < n1 then 1 else 0) ∧ S1.I = S.I ∧ ∀ f < 60, ∀ l, S1.Φ f l = S.Φ f l
def FinT (k : Nat) (S1 : Sy) : Prop := k = 0 ∧ ∀ T, Same [1, 2, 5, 6, 21, 20, 19, 18, 17, 16, 15, 14, 13, 12, 11, 10, 3] [60, 61] S1 T → StepOut Try.prog ftT ΛT [] (cAt Try.prog lpT) XT FT (.exit 0) 8 S1 T
set_option maxHeartbeats 4000000 in
theorem stepT (hn2 : n2 ≤ 60) (hK0 : ∀ x ∈ S.I, x.f + x.ks.length ≤ 60) (k : Nat) (S1 : Sy) (hi : InvT S n1 n2 k S1) : (∃ k' S2, k = k' + 1 ∧ InvT S n1 n2 k' S2 ∧ RT S1 S2) ∨ FinT k S1 := by
  obtain ⟨i, hin, rfl, h1, h2, h4, h5, h6, h3, h3', h21, hI, hΦ⟩ := hi
  have hcs : ∀ c ∈ ([] : List Ctr), CtrOk Try.prog S1 [] c := fun c hc => by simp at hc
  have hK : ∀ x ∈ S1.I, x.f + x.ks.length ≤ 60 := by rw [hI]; exact hK0
  have h41 : S1.ρ 4 = i ∧ S1.ρ 1 = n1 := ⟨h4, h1⟩
  by_cases c0 : S1.ρ 4 < S1.ρ 2
  · have d0 : pt0.den S1 = some [b2i true] := tr (p := S1.ρ 4 < S1.ρ 2) c0
    by_cases c1 : S1.ρ 4 < S1.ρ 1
    · have d1 : pt1.den S1 = some [b2i true] := tr (p := S1.ρ 4 < S1.ρ 1) c1
      have c2 : ¬ (S1.ρ 4 < (0 : Int)) := by omega
      have d2 : pt2.den S1 = some [b2i true] := tr (p := (0 : Int) ≤ S1.ρ 4) (Int.not_lt.1 c2)
      by_cases c3 : (S1.Φ 40 [S1.ρ 4]) = (1 : Int)
      · have d3 : pt3.den S1 = some [b2i true] := tr (p := (S1.Φ 40 [S1.ρ 4]) = (1 : Int)) c3
        by_cases c4 : (S1.Φ 41 [S1.ρ 4]) < (0 : Int)
        · have d4 : pt4.den S1 = some [b2i true] := tr (p := (S1.Φ 41 [S1.ρ 4]) < (0 : Int)) c4
          have c5 : ¬ ((S1.Φ 40 [S1.ρ 4]) < (1 : Int)) := by omega
          have d5 : pt5.den S1 = some [b2i true] := tr (p := (1 : Int) ≤ (S1.Φ 40 [S1.ρ 4])) (Int.not_lt.1 c5)
          have c6 : ¬ ((6 : Int) < (S1.Φ 40 [S1.ρ 4])) := by omega
          have d6 : pt6.den S1 = some [b2i true] := tr (p := (S1.Φ 40 [S1.ρ 4]) ≤ (6 : Int)) (Int.not_lt.1 c6)
          have c7 : (IntKind.i64.wrap (S1.ρ 3 + (1 : Int))) = (IntKind.i64.wrap (S1.ρ 3 + (1 : Int))) := rfl
          have d7 : pt7.den S1 = some [b2i false] := fls (p := (IntKind.i64.wrap (S1.ρ 3 + (1 : Int))) ≠ (IntKind.i64.wrap (S1.ρ 3 + (1 : Int)))) (fun hh => hh c7)
          obtain ⟨o3, h_o3⟩ : ∃ o : Int, o = (IntKind.i64.wrap (S1.ρ 3 + (1 : Int))) := ⟨_, rfl⟩
          obtain ⟨o4, h_o4⟩ : ∃ o : Int, o = (IntKind.i64.wrap (S1.ρ 4 + (1 : Int))) := ⟨_, rfl⟩
          obtain ⟨o21, h_o21⟩ : ∃ o : Int, o = (b2i true) := ⟨_, rfl⟩
          obtain ⟨o20, h_o20⟩ : ∃ o : Int, o = (S1.Φ 30 [S1.ρ 4]) := ⟨_, rfl⟩
          obtain ⟨o19, h_o19⟩ : ∃ o : Int, o = (S1.Φ 29 [S1.ρ 4]) := ⟨_, rfl⟩
          obtain ⟨o18, h_o18⟩ : ∃ o : Int, o = (S1.Φ 28 [S1.ρ 4]) := ⟨_, rfl⟩
          obtain ⟨o17, h_o17⟩ : ∃ o : Int, o = (S1.Φ 27 [S1.ρ 4]) := ⟨_, rfl⟩
          obtain ⟨o16, h_o16⟩ : ∃ o : Int, o = (S1.Φ 26 [S1.ρ 4]) := ⟨_, rfl⟩
          obtain ⟨o15, h_o15⟩ : ∃ o : Int, o = (S1.Φ 25 [S1.ρ 4]) := ⟨_, rfl⟩
          obtain ⟨o14, h_o14⟩ : ∃ o : Int, o = (S1.Φ 24 [S1.ρ 4]) := ⟨_, rfl⟩
          obtain ⟨o13, h_o13⟩ : ∃ o : Int, o = (S1.Φ 23 [S1.ρ 4]) := ⟨_, rfl⟩
          obtain ⟨o12, h_o12⟩ : ∃ o : Int, o = (S1.Φ 22 [S1.ρ 4]) := ⟨_, rfl⟩
          obtain ⟨o11, h_o11⟩ : ∃ o : Int, o = (S1.Φ 21 [S1.ρ 4]) := ⟨_, rfl⟩
          obtain ⟨o10, h_o10⟩ : ∃ o : Int, o = (S1.Φ 20 [S1.ρ 4]) := ⟨_, rfl⟩
          have u4 := h_o4
          rw [w_i64 (by omega) (by omega)] at u4
          have u3 := h_o3
          rw [w_i64 (by omega) (by omega)] at u3
          have inv : InvT S n1 n2 (n2 - (i + 1)) (S1.set (upd S1.ρ [(3, o3), (4, o4), (21, o21), (20, o20), (19, o19), (18, o18), (17, o17), (16, o16), (15, o15), (14, o14), (13, o13), (12, o12), (11, o11), (10, o10)]) [] 60 rfl hK) := ⟨i + 1, by omega, rfl, h1, h2, (show o4 = ((i + 1 : Nat) : Int) by omega), h5, h6, (show 0 ≤ o3 by omega), (show o3 ≤ ((i + 1 : Nat) : Int) by omega), (tell_t h41 c1 h_o21), hI, fun f hf l => (Sy.set_low hf).trans (hΦ f hf l)⟩
          exact .inl ⟨_, _, (by omega : n2 - i = n2 - (i + 1) + 1), inv, _, [], _, 1000, _, [], (ai pt7 false d7 (ai pt6 true d6 (ai pt5 true d5 (ai pt4 true d4 (ai pt3 true d3 (ai pt2 true d2 (ai pt1 true d1 (ai pt0 true d0 (AlOk.nil _))))))))), hcs, LkOk.no _ _ _ _, (av 1 .i64 (av 2 .i64 (an 3 (.bin .add (.var .i64 3) (.lit .i64 1)) (sm h_o3.symm) (an 4 (.bin .add (.var .i64 4) (.lit .i64 1)) (sm h_o4.symm) (av 5 .i64 (ar 60 (ar_var 60) (av 6 .i64 (ar 61 (ar_var 61) (av 6 .i64 (av 5 .i64 (an 21 (.blit true) (sm h_o21.symm) (an 20 (.app .i64 30 (.cons (.var .i64 4) .nil)) (sm h_o20.symm) (an 19 (.app .i64 29 (.cons (.var .i64 4) .nil)) (sm h_o19.symm) (an 18 (.app .i64 28 (.cons (.var .i64 4) .nil)) (sm h_o18.symm) (an 17 (.app .u64 27 (.cons (.var .i64 4) .nil)) (sm h_o17.symm) (an 16 (.app .u64 26 (.cons (.var .i64 4) .nil)) (sm h_o16.symm) (an 15 (.app .u64 25 (.cons (.var .i64 4) .nil)) (sm h_o15.symm) (an 14 (.app .u64 24 (.cons (.var .i64 4) .nil)) (sm h_o14.symm) (an 13 (.app .u64 23 (.cons (.var .i64 4) .nil)) (sm h_o13.symm) (an 12 (.app .u8 22 (.cons (.var .i64 4) .nil)) (sm h_o12.symm) (an 11 (.app .i64 21 (.cons (.var .i64 4) .nil)) (sm h_o11.symm) (an 10 (.app .i64 20 (.cons (.var .i64 4) .nil)) (sm h_o10.symm) (an 3 (.bin .add (.var .i64 3) (.lit .i64 1)) (sm h_o3.symm) (av 5 .i64 (ar 60 (ar_var 60) (av 6 .i64 (ar 61 (ar_var 61) (av 6 .i64 (av 5 .i64 (an 3 (.bin .add (.var .i64 3) (.lit .i64 1)) (sm h_o3.symm) (asg_nil rfl))))))))))))))))))))))))))))))), fun G => by kernel_rfl⟩
        · have d4 : pt4.den S1 = some [b2i false] := fls (p := (S1.Φ 41 [S1.ρ 4]) < (0 : Int)) c4
          by_cases c5 : (S1.Φ 41 [S1.ρ 4]) < S1.ρ 5
          · have d5 : pt8.den S1 = some [b2i false] := fls (p := S1.ρ 5 ≤ (S1.Φ 41 [S1.ρ 4])) (Int.not_le.2 c5)
            have d6 : pt9.den S1 = some [b2i true] := tr (p := (0 : Int) ≤ (S1.Φ 41 [S1.ρ 4])) (Int.not_lt.1 c4)
            have d7 : pt10.den S1 = some [b2i true] := tr (p := (S1.Φ 41 [S1.ρ 4]) < S1.ρ 5) c5
            have c8 : (S1.Φ 60 [(S1.Φ 41 [S1.ρ 4])]) = (S1.Φ 60 [(S1.Φ 41 [S1.ρ 4])]) := rfl
            have d8 : pt11.den S1 = some [b2i false] := fls (p := (S1.Φ 60 [(S1.Φ 41 [S1.ρ 4])]) ≠ (S1.Φ 60 [(S1.Φ 41 [S1.ρ 4])])) (fun hh => hh c8)
            have c9 : ¬ ((S1.Φ 40 [S1.ρ 4]) < (1 : Int)) := by omega
            have d9 : pt5.den S1 = some [b2i true] := tr (p := (1 : Int) ≤ (S1.Φ 40 [S1.ρ 4])) (Int.not_lt.1 c9)
            have c10 : ¬ ((6 : Int) < (S1.Φ 40 [S1.ρ 4])) := by omega
            have d10 : pt6.den S1 = some [b2i true] := tr (p := (S1.Φ 40 [S1.ρ 4]) ≤ (6 : Int)) (Int.not_lt.1 c10)
            have c11 : (IntKind.i64.wrap (S1.ρ 3 + (1 : Int))) = (IntKind.i64.wrap (S1.ρ 3 + (1 : Int))) := rfl
            have d11 : pt7.den S1 = some [b2i false] := fls (p := (IntKind.i64.wrap (S1.ρ 3 + (1 : Int))) ≠ (IntKind.i64.wrap (S1.ρ 3 + (1 : Int)))) (fun hh => hh c11)
            obtain ⟨o3, h_o3⟩ : ∃ o : Int, o = (IntKind.i64.wrap (S1.ρ 3 + (1 : Int))) := ⟨_, rfl⟩
            obtain ⟨o4, h_o4⟩ : ∃ o : Int, o = (IntKind.i64.wrap (S1.ρ 4 + (1 : Int))) := ⟨_, rfl⟩
            obtain ⟨o21, h_o21⟩ : ∃ o : Int, o = (b2i true) := ⟨_, rfl⟩
            obtain ⟨o20, h_o20⟩ : ∃ o : Int, o = (S1.Φ 30 [S1.ρ 4]) := ⟨_, rfl⟩
            obtain ⟨o19, h_o19⟩ : ∃ o : Int, o = (S1.Φ 29 [S1.ρ 4]) := ⟨_, rfl⟩
            obtain ⟨o18, h_o18⟩ : ∃ o : Int, o = (S1.Φ 28 [S1.ρ 4]) := ⟨_, rfl⟩
            obtain ⟨o17, h_o17⟩ : ∃ o : Int, o = (S1.Φ 27 [S1.ρ 4]) := ⟨_, rfl⟩
            obtain ⟨o16, h_o16⟩ : ∃ o : Int, o = (S1.Φ 26 [S1.ρ 4]) := ⟨_, rfl⟩
            obtain ⟨o15, h_o15⟩ : ∃ o : Int, o = (S1.Φ 25 [S1.ρ 4]) := ⟨_, rfl⟩
            obtain ⟨o14, h_o14⟩ : ∃ o : Int, o = (S1.Φ 24 [S1.ρ 4]) := ⟨_, rfl⟩
            obtain ⟨o13, h_o13⟩ : ∃ o : Int, o = (S1.Φ 23 [S1.ρ 4]) := ⟨_, rfl⟩
            obtain ⟨o12, h_o12⟩ : ∃ o : Int, o = (S1.Φ 22 [S1.ρ 4]) := ⟨_, rfl⟩
            obtain ⟨o11, h_o11⟩ : ∃ o : Int, o = (S1.Φ 21 [S1.ρ 4]) := ⟨_, rfl⟩
            obtain ⟨o10, h_o10⟩ : ∃ o : Int, o = (S1.Φ 20 [S1.ρ 4]) := ⟨_, rfl⟩
            have u4 := h_o4
            rw [w_i64 (by omega) (by omega)] at u4
            have u3 := h_o3
            rw [w_i64 (by omega) (by omega)] at u3
            have inv : InvT S n1 n2 (n2 - (i + 1)) (S1.set (upd S1.ρ [(3, o3), (4, o4), (21, o21), (20, o20), (19, o19), (18, o18), (17, o17), (16, o16), (15, o15), (14, o14), (13, o13), (12, o12), (11, o11), (10, o10)]) [] 60 rfl hK) := ⟨i + 1, by omega, rfl, h1, h2, (show o4 = ((i + 1 : Nat) : Int) by omega), h5, h6, (show 0 ≤ o3 by omega), (show o3 ≤ ((i + 1 : Nat) : Int) by omega), (tell_t h41 c1 h_o21), hI, fun f hf l => (Sy.set_low hf).trans (hΦ f hf l)⟩
            exact .inl ⟨_, _, (by omega : n2 - i = n2 - (i + 1) + 1), inv, _, [], _, 1000, _, [], (ai pt7 false d11 (ai pt6 true d10 (ai pt5 true d9 (ai pt11 false d8 (ai pt10 true d7 (ai pt9 true d6 (ai pt8 false d5 (ai pt4 false d4 (ai pt3 true d3 (ai pt2 true d2 (ai pt1 true d1 (ai pt0 true d0 (AlOk.nil _))))))))))))), hcs, LkOk.no _ _ _ _, (av 1 .i64 (av 2 .i64 (an 3 (.bin .add (.var .i64 3) (.lit .i64 1)) (sm h_o3.symm) (an 4 (.bin .add (.var .i64 4) (.lit .i64 1)) (sm h_o4.symm) (av 5 .i64 (ar 60 (ar_var 60) (av 6 .i64 (ar 61 (ar_var 61) (av 6 .i64 (av 5 .i64 (an 21 (.blit true) (sm h_o21.symm) (an 20 (.app .i64 30 (.cons (.var .i64 4) .nil)) (sm h_o20.symm) (an 19 (.app .i64 29 (.cons (.var .i64 4) .nil)) (sm h_o19.symm) (an 18 (.app .i64 28 (.cons (.var .i64 4) .nil)) (sm h_o18.symm) (an 17 (.app .u64 27 (.cons (.var .i64 4) .nil)) (sm h_o17.symm) (an 16 (.app .u64 26 (.cons (.var .i64 4) .nil)) (sm h_o16.symm) (an 15 (.app .u64 25 (.cons (.var .i64 4) .nil)) (sm h_o15.symm) (an 14 (.app .u64 24 (.cons (.var .i64 4) .nil)) (sm h_o14.symm) (an 13 (.app .u64 23 (.cons (.var .i64 4) .nil)) (sm h_o13.symm) (an 12 (.app .u8 22 (.cons (.var .i64 4) .nil)) (sm h_o12.symm) (an 11 (.app .i64 21 (.cons (.var .i64 4) .nil)) (sm h_o11.symm) (an 10 (.app .i64 20 (.cons (.var .i64 4) .nil)) (sm h_o10.symm) (an 3 (.bin .add (.var .i64 3) (.lit .i64 1)) (sm h_o3.symm) (av 5 .i64 (ar 60 (ar_var 60) (av 6 .i64 (ar 61 (ar_var 61) (av 6 .i64 (av 5 .i64 (an 3 (.bin .add (.var .i64 3) (.lit .i64 1)) (sm h_o3.symm) (asg_nil rfl))))))))))))))))))))))))))))))), fun G => by kernel_rfl⟩
          · have d5 : pt8.den S1 = some [b2i true] := tr (p := S1.ρ 5 ≤ (S1.Φ 41 [S1.ρ 4])) (Int.not_lt.1 c5)
            have c6 : ¬ ((S1.Φ 40 [S1.ρ 4]) < (1 : Int)) := by omega
            have d6 : pt5.den S1 = some [b2i true] := tr (p := (1 : Int) ≤ (S1.Φ 40 [S1.ρ 4])) (Int.not_lt.1 c6)
            have c7 : ¬ ((6 : Int) < (S1.Φ 40 [S1.ρ 4])) := by omega
            have d7 : pt6.den S1 = some [b2i true] := tr (p := (S1.Φ 40 [S1.ρ 4]) ≤ (6 : Int)) (Int.not_lt.1 c7)
            have c8 : (IntKind.i64.wrap (S1.ρ 3 + (1 : Int))) = (IntKind.i64.wrap (S1.ρ 3 + (1 : Int))) := rfl
            have d8 : pt7.den S1 = some [b2i false] := fls (p := (IntKind.i64.wrap (S1.ρ 3 + (1 : Int))) ≠ (IntKind.i64.wrap (S1.ρ 3 + (1 : Int)))) (fun hh => hh c8)
            obtain ⟨o3, h_o3⟩ : ∃ o : Int, o = (IntKind.i64.wrap (S1.ρ 3 + (1 : Int))) := ⟨_, rfl⟩
            obtain ⟨o4, h_o4⟩ : ∃ o : Int, o = (IntKind.i64.wrap (S1.ρ 4 + (1 : Int))) := ⟨_, rfl⟩
            obtain ⟨o21, h_o21⟩ : ∃ o : Int, o = (b2i true) := ⟨_, rfl⟩
            obtain ⟨o20, h_o20⟩ : ∃ o : Int, o = (S1.Φ 30 [S1.ρ 4]) := ⟨_, rfl⟩
            obtain ⟨o19, h_o19⟩ : ∃ o : Int, o = (S1.Φ 29 [S1.ρ 4]) := ⟨_, rfl⟩
            obtain ⟨o18, h_o18⟩ : ∃ o : Int, o = (S1.Φ 28 [S1.ρ 4]) := ⟨_, rfl⟩
            obtain ⟨o17, h_o17⟩ : ∃ o : Int, o = (S1.Φ 27 [S1.ρ 4]) := ⟨_, rfl⟩
            obtain ⟨o16, h_o16⟩ : ∃ o : Int, o = (S1.Φ 26 [S1.ρ 4]) := ⟨_, rfl⟩
            obtain ⟨o15, h_o15⟩ : ∃ o : Int, o = (S1.Φ 25 [S1.ρ 4]) := ⟨_, rfl⟩
            obtain ⟨o14, h_o14⟩ : ∃ o : Int, o = (S1.Φ 24 [S1.ρ 4]) := ⟨_, rfl⟩
            obtain ⟨o13, h_o13⟩ : ∃ o : Int, o = (S1.Φ 23 [S1.ρ 4]) := ⟨_, rfl⟩
            obtain ⟨o12, h_o12⟩ : ∃ o : Int, o = (S1.Φ 22 [S1.ρ 4]) := ⟨_, rfl⟩
            obtain ⟨o11, h_o11⟩ : ∃ o : Int, o = (S1.Φ 21 [S1.ρ 4]) := ⟨_, rfl⟩
            obtain ⟨o10, h_o10⟩ : ∃ o : Int, o = (S1.Φ 20 [S1.ρ 4]) := ⟨_, rfl⟩
            have u4 := h_o4
            rw [w_i64 (by omega) (by omega)] at u4
            have u3 := h_o3
            rw [w_i64 (by omega) (by omega)] at u3
            have inv : InvT S n1 n2 (n2 - (i + 1)) (S1.set (upd S1.ρ [(3, o3), (4, o4), (21, o21), (20, o20), (19, o19), (18, o18), (17, o17), (16, o16), (15, o15), (14, o14), (13, o13), (12, o12), (11, o11), (10, o10)]) [] 60 rfl hK) := ⟨i + 1, by omega, rfl, h1, h2, (show o4 = ((i + 1 : Nat) : Int) by omega), h5, h6, (show 0 ≤ o3 by omega), (show o3 ≤ ((i + 1 : Nat) : Int) by omega), (tell_t h41 c1 h_o21), hI, fun f hf l => (Sy.set_low hf).trans (hΦ f hf l)⟩
            exact .inl ⟨_, _, (by omega : n2 - i = n2 - (i + 1) + 1), inv, _, [], _, 1000, _, [], (ai pt7 false d8 (ai pt6 true d7 (ai pt5 true d6 (ai pt8 true d5 (ai pt4 false d4 (ai pt3 true d3 (ai pt2 true d2 (ai pt1 true d1 (ai pt0 true d0 (AlOk.nil _)))))))))), hcs, LkOk.no _ _ _ _, (av 1 .i64 (av 2 .i64 (an 3 (.bin .add (.var .i64 3) (.lit .i64 1)) (sm h_o3.symm) (an 4 (.bin .add (.var .i64 4) (.lit .i64 1)) (sm h_o4.symm) (av 5 .i64 (ar 60 (ar_var 60) (av 6 .i64 (ar 61 (ar_var 61) (av 6 .i64 (av 5 .i64 (an 21 (.blit true) (sm h_o21.symm) (an 20 (.app .i64 30 (.cons (.var .i64 4) .nil)) (sm h_o20.symm) (an 19 (.app .i64 29 (.cons (.var .i64 4) .nil)) (sm h_o19.symm) (an 18 (.app .i64 28 (.cons (.var .i64 4) .nil)) (sm h_o18.symm) (an 17 (.app .u64 27 (.cons (.var .i64 4) .nil)) (sm h_o17.symm) (an 16 (.app .u64 26 (.cons (.var .i64 4) .nil)) (sm h_o16.symm) (an 15 (.app .u64 25 (.cons (.var .i64 4) .nil)) (sm h_o15.symm) (an 14 (.app .u64 24 (.cons (.var .i64 4) .nil)) (sm h_o14.symm) (an 13 (.app .u64 23 (.cons (.var .i64 4) .nil)) (sm h_o13.symm) (an 12 (.app .u8 22 (.cons (.var .i64 4) .nil)) (sm h_o12.symm) (an 11 (.app .i64 21 (.cons (.var .i64 4) .nil)) (sm h_o11.symm) (an 10 (.app .i64 20 (.cons (.var .i64 4) .nil)) (sm h_o10.symm) (an 3 (.bin .add (.var .i64 3) (.lit .i64 1)) (sm h_o3.symm) (av 5 .i64 (ar 60 (ar_var 60) (av 6 .i64 (ar 61 (ar_var 61) (av 6 .i64 (av 5 .i64 (an 3 (.bin .add (.var .i64 3) (.lit .i64 1)) (sm h_o3.symm) (asg_nil rfl))))))))))))))))))))))))))))))), fun G => by kernel_rfl⟩
      · have d3 : pt3.den S1 = some [b2i false] := fls (p := (S1.Φ 40 [S1.ρ 4]) = (1 : Int)) c3
        by_cases c4 : (S1.Φ 40 [S1.ρ 4]) = (2 : Int)
        · have d4 : pt12.den S1 = some [b2i true] := tr (p := (S1.Φ 40 [S1.ρ 4]) = (2 : Int)) c4
          by_cases c5 : (S1.Φ 41 [S1.ρ 4]) < (0 : Int)
          · have d5 : pt4.den S1 = some [b2i true] := tr (p := (S1.Φ 41 [S1.ρ 4]) < (0 : Int)) c5
            have c6 : ¬ ((S1.Φ 40 [S1.ρ 4]) < (1 : Int)) := by omega
            have d6 : pt5.den S1 = some [b2i true] := tr (p := (1 : Int) ≤ (S1.Φ 40 [S1.ρ 4])) (Int.not_lt.1 c6)
            have c7 : ¬ ((6 : Int) < (S1.Φ 40 [S1.ρ 4])) := by omega
            have d7 : pt6.den S1 = some [b2i true] := tr (p := (S1.Φ 40 [S1.ρ 4]) ≤ (6 : Int)) (Int.not_lt.1 c7)
            have c8 : (IntKind.i64.wrap (S1.ρ 3 + (1 : Int))) = (IntKind.i64.wrap (S1.ρ 3 + (1 : Int))) := rfl
            have d8 : pt7.den S1 = some [b2i false] := fls (p := (IntKind.i64.wrap (S1.ρ 3 + (1 : Int))) ≠ (IntKind.i64.wrap (S1.ρ 3 + (1 : Int)))) (fun hh => hh c8)
            obtain ⟨o3, h_o3⟩ : ∃ o : Int, o = (IntKind.i64.wrap (S1.ρ 3 + (1 : Int))) := ⟨_, rfl⟩
            obtain ⟨o4, h_o4⟩ : ∃ o : Int, o = (IntKind.i64.wrap (S1.ρ 4 + (1 : Int))) := ⟨_, rfl⟩
            obtain ⟨o21, h_o21⟩ : ∃ o : Int, o = (b2i true) := ⟨_, rfl⟩
            obtain ⟨o20, h_o20⟩ : ∃ o : Int, o = (S1.Φ 30 [S1.ρ 4]) := ⟨_, rfl⟩
            obtain ⟨o19, h_o19⟩ : ∃ o : Int, o = (S1.Φ 29 [S1.ρ 4]) := ⟨_, rfl⟩
            obtain ⟨o18, h_o18⟩ : ∃ o : Int, o = (S1.Φ 28 [S1.ρ 4]) := ⟨_, rfl⟩
            obtain ⟨o17, h_o17⟩ : ∃ o : Int, o = (S1.Φ 27 [S1.ρ 4]) := ⟨_, rfl⟩
            obtain ⟨o16, h_o16⟩ : ∃ o : Int, o = (S1.Φ 26 [S1.ρ 4]) := ⟨_, rfl⟩
            obtain ⟨o15, h_o15⟩ : ∃ o : Int, o = (S1.Φ 25 [S1.ρ 4]) := ⟨_, rfl⟩
            obtain ⟨o14, h_o14⟩ : ∃ o : Int, o = (S1.Φ 24 [S1.ρ 4]) := ⟨_, rfl⟩
            obtain ⟨o13, h_o13⟩ : ∃ o : Int, o = (S1.Φ 23 [S1.ρ 4]) := ⟨_, rfl⟩
            obtain ⟨o12, h_o12⟩ : ∃ o : Int, o = (S1.Φ 22 [S1.ρ 4]) := ⟨_, rfl⟩
            obtain ⟨o11, h_o11⟩ : ∃ o : Int, o = (S1.Φ 21 [S1.ρ 4]) := ⟨_, rfl⟩
            obtain ⟨o10, h_o10⟩ : ∃ o : Int, o = (S1.Φ 20 [S1.ρ 4]) := ⟨_, rfl⟩
            have u4 := h_o4
            rw [w_i64 (by omega) (by omega)] at u4
            have u3 := h_o3
            rw [w_i64 (by omega) (by omega)] at u3
            have inv : InvT S n1 n2 (n2 - (i + 1)) (S1.set (upd S1.ρ [(3, o3), (4, o4), (21, o21), (20, o20), (19, o19), (18, o18), (17, o17), (16, o16), (15, o15), (14, o14), (13, o13), (12, o12), (11, o11), (10, o10)]) [] 60 rfl hK) := ⟨i + 1, by omega, rfl, h1, h2, (show o4 = ((i + 1 : Nat) : Int) by omega), h5, h6, (show 0 ≤ o3 by omega), (show o3 ≤ ((i + 1 : Nat) : Int) by omega), (tell_t h41 c1 h_o21), hI, fun f hf l => (Sy.set_low hf).trans (hΦ f hf l)⟩
            exact .inl ⟨_, _, (by omega : n2 - i = n2 - (i + 1) + 1), inv, _, [], _, 1000, _, [], (ai pt7 false d8 (ai pt6 true d7 (ai pt5 true d6 (ai pt4 true d5 (ai pt12 true d4 (ai pt3 false d3 (ai pt2 true d2 (ai pt1 true d1 (ai pt0 true d0 (AlOk.nil _)))))))))), hcs, LkOk.no _ _ _ _, (av 1 .i64 (av 2 .i64 (an 3 (.bin .add (.var .i64 3) (.lit .i64 1)) (sm h_o3.symm) (an 4 (.bin .add (.var .i64 4) (.lit .i64 1)) (sm h_o4.symm) (av 5 .i64 (ar 60 (ar_var 60) (av 6 .i64 (ar 61 (ar_var 61) (av 6 .i64 (av 5 .i64 (an 21 (.blit true) (sm h_o21.symm) (an 20 (.app .i64 30 (.cons (.var .i64 4) .nil)) (sm h_o20.symm) (an 19 (.app .i64 29 (.cons (.var .i64 4) .nil)) (sm h_o19.symm) (an 18 (.app .i64 28 (.cons (.var .i64 4) .nil)) (sm h_o18.symm) (an 17 (.app .u64 27 (.cons (.var .i64 4) .nil)) (sm h_o17.symm) (an 16 (.app .u64 26 (.cons (.var .i64 4) .nil)) (sm h_o16.symm) (an 15 (.app .u64 25 (.cons (.var .i64 4) .nil)) (sm h_o15.symm) (an 14 (.app .u64 24 (.cons (.var .i64 4) .nil)) (sm h_o14.symm) (an 13 (.app .u64 23 (.cons (.var .i64 4) .nil)) (sm h_o13.symm) (an 12 (.app .u8 22 (.cons (.var .i64 4) .nil)) (sm h_o12.symm) (an 11 (.app .i64 21 (.cons (.var .i64 4) .nil)) (sm h_o11.symm) (an 10 (.app .i64 20 (.cons (.var .i64 4) .nil)) (sm h_o10.symm) (an 3 (.bin .add (.var .i64 3) (.lit .i64 1)) (sm h_o3.symm) (av 5 .i64 (ar 60 (ar_var 60) (av 6 .i64 (ar 61 (ar_var 61) (av 6 .i64 (av 5 .i64 (an 3 (.bin .add (.var .i64 3) (.lit .i64 1)) (sm h_o3.symm) (asg_nil rfl))))))))))))))))))))))))))))))), fun G => by kernel_rfl⟩
          · have d5 : pt4.den S1 = some [b2i false] := fls (p := (S1.Φ 41 [S1.ρ 4]) < (0 : Int)) c5
            by_cases c6 : (S1.Φ 41 [S1.ρ 4]) < S1.ρ 5
            · have d6 : pt8.den S1 = some [b2i false] := fls (p := S1.ρ 5 ≤ (S1.Φ 41 [S1.ρ 4])) (Int.not_le.2 c6)
              have d7 : pt9.den S1 = some [b2i true] := tr (p := (0 : Int) ≤ (S1.Φ 41 [S1.ρ 4])) (Int.not_lt.1 c5)
              have d8 : pt10.den S1 = some [b2i true] := tr (p := (S1.Φ 41 [S1.ρ 4]) < S1.ρ 5) c6
              have c9 : ¬ ((S1.Φ 40 [S1.ρ 4]) < (1 : Int)) := by omega
              have d9 : pt5.den S1 = some [b2i true] := tr (p := (1 : Int) ≤ (S1.Φ 40 [S1.ρ 4])) (Int.not_lt.1 c9)
              have c10 : ¬ ((6 : Int) < (S1.Φ 40 [S1.ρ 4])) := by omega
              have d10 : pt6.den S1 = some [b2i true] := tr (p := (S1.Φ 40 [S1.ρ 4]) ≤ (6 : Int)) (Int.not_lt.1 c10)
              have c11 : (IntKind.i64.wrap (S1.ρ 3 + (1 : Int))) = (IntKind.i64.wrap (S1.ρ 3 + (1 : Int))) := rfl
              have d11 : pt7.den S1 = some [b2i false] := fls (p := (IntKind.i64.wrap (S1.ρ 3 + (1 : Int))) ≠ (IntKind.i64.wrap (S1.ρ 3 + (1 : Int)))) (fun hh => hh c11)
              obtain ⟨o3, h_o3⟩ : ∃ o : Int, o = (IntKind.i64.wrap (S1.ρ 3 + (1 : Int))) := ⟨_, rfl⟩
              obtain ⟨o4, h_o4⟩ : ∃ o : Int, o = (IntKind.i64.wrap (S1.ρ 4 + (1 : Int))) := ⟨_, rfl⟩
              obtain ⟨o21, h_o21⟩ : ∃ o : Int, o = (b2i true) := ⟨_, rfl⟩
              obtain ⟨o20, h_o20⟩ : ∃ o : Int, o = (S1.Φ 30 [S1.ρ 4]) := ⟨_, rfl⟩
              obtain ⟨o19, h_o19⟩ : ∃ o : Int, o = (S1.Φ 29 [S1.ρ 4]) := ⟨_, rfl⟩
              obtain ⟨o18, h_o18⟩ : ∃ o : Int, o = (S1.Φ 28 [S1.ρ 4]) := ⟨_, rfl⟩
              obtain ⟨o17, h_o17⟩ : ∃ o : Int, o = (S1.Φ 27 [S1.ρ 4]) := ⟨_, rfl⟩
              obtain ⟨o16, h_o16⟩ : ∃ o : Int, o = (S1.Φ 26 [S1.ρ 4]) := ⟨_, rfl⟩
              obtain ⟨o15, h_o15⟩ : ∃ o : Int, o = (S1.Φ 25 [S1.ρ 4]) := ⟨_, rfl⟩
              obtain ⟨o14, h_o14⟩ : ∃ o : Int, o = (S1.Φ 24 [S1.ρ 4]) := ⟨_, rfl⟩
              obtain ⟨o13, h_o13⟩ : ∃ o : Int, o = (S1.Φ 23 [S1.ρ 4]) := ⟨_, rfl⟩
              obtain ⟨o12, h_o12⟩ : ∃ o : Int, o = (S1.Φ 22 [S1.ρ 4]) := ⟨_, rfl⟩
              obtain ⟨o11, h_o11⟩ : ∃ o : Int, o = (S1.Φ 21 [S1.ρ 4]) := ⟨_, rfl⟩
              obtain ⟨o10, h_o10⟩ : ∃ o : Int, o = (S1.Φ 20 [S1.ρ 4]) := ⟨_, rfl⟩
              have u4 := h_o4
              rw [w_i64 (by omega) (by omega)] at u4
              have u3 := h_o3
              rw [w_i64 (by omega) (by omega)] at u3
              have inv : InvT S n1 n2 (n2 - (i + 1)) (S1.set (upd S1.ρ [(3, o3), (4, o4), (21, o21), (20, o20), (19, o19), (18, o18), (17, o17), (16, o16), (15, o15), (14, o14), (13, o13), (12, o12), (11, o11), (10, o10)]) [(60, (fun j => ifE j (S1.Φ 41 [S1.ρ 4]) (S1.Φ 42 [S1.ρ 4]) ((fun j => S1.Φ 60 [j]) j)))] 60 rfl hK) := ⟨i + 1, by omega, rfl, h1, h2, (show o4 = ((i + 1 : Nat) : Int) by omega), h5, h6, (show 0 ≤ o3 by omega), (show o3 ≤ ((i + 1 : Nat) : Int) by omega), (tell_t h41 c1 h_o21), hI, fun f hf l => (Sy.set_low hf).trans (hΦ f hf l)⟩
              exact .inl ⟨_, _, (by omega : n2 - i = n2 - (i + 1) + 1), inv, _, [], _, 1000, _, [], (ai pt7 false d11 (ai pt6 true d10 (ai pt5 true d9 (ai pt10 true d8 (ai pt9 true d7 (ai pt8 false d6 (ai pt4 false d5 (ai pt12 true d4 (ai pt3 false d3 (ai pt2 true d2 (ai pt1 true d1 (ai pt0 true d0 (AlOk.nil _))))))))))))), hcs, LkOk.no _ _ _ _, (av 1 .i64 (av 2 .i64 (an 3 (.bin .add (.var .i64 3) (.lit .i64 1)) (sm h_o3.symm) (an 4 (.bin .add (.var .i64 4) (.lit .i64 1)) (sm h_o4.symm) (av 5 .i64 (ar 60 (ar_upd (.app .i64 41 (.cons (.var .i64 4) .nil)) (.app .u64 42 (.cons (.var .i64 4) .nil)) (i := (S1.Φ 41 [S1.ρ 4])) (v := (S1.Φ 42 [S1.ρ 4])) rfl rfl (by kernel_rfl) (ar_var 60)) (av 6 .i64 (ar 61 (ar_var 61) (av 6 .i64 (av 5 .i64 (an 21 (.blit true) (sm h_o21.symm) (an 20 (.app .i64 30 (.cons (.var .i64 4) .nil)) (sm h_o20.symm) (an 19 (.app .i64 29 (.cons (.var .i64 4) .nil)) (sm h_o19.symm) (an 18 (.app .i64 28 (.cons (.var .i64 4) .nil)) (sm h_o18.symm) (an 17 (.app .u64 27 (.cons (.var .i64 4) .nil)) (sm h_o17.symm) (an 16 (.app .u64 26 (.cons (.var .i64 4) .nil)) (sm h_o16.symm) (an 15 (.app .u64 25 (.cons (.var .i64 4) .nil)) (sm h_o15.symm) (an 14 (.app .u64 24 (.cons (.var .i64 4) .nil)) (sm h_o14.symm) (an 13 (.app .u64 23 (.cons (.var .i64 4) .nil)) (sm h_o13.symm) (an 12 (.app .u8 22 (.cons (.var .i64 4) .nil)) (sm h_o12.symm) (an 11 (.app .i64 21 (.cons (.var .i64 4) .nil)) (sm h_o11.symm) (an 10 (.app .i64 20 (.cons (.var .i64 4) .nil)) (sm h_o10.symm) (an 3 (.bin .add (.var .i64 3) (.lit .i64 1)) (sm h_o3.symm) (av 5 .i64 (ar 60 (ar_upd (.app .i64 41 (.cons (.var .i64 4) .nil)) (.app .u64 42 (.cons (.var .i64 4) .nil)) (i := (S1.Φ 41 [S1.ρ 4])) (v := (S1.Φ 42 [S1.ρ 4])) rfl rfl (by kernel_rfl) (ar_var 60)) (av 6 .i64 (ar 61 (ar_var 61) (av 6 .i64 (av 5 .i64 (an 3 (.bin .add (.var .i64 3) (.lit .i64 1)) (sm h_o3.symm) (asg_nil rfl))))))))))))))))))))))))))))))), fun G => by kernel_rfl⟩
            · have d6 : pt8.den S1 = some [b2i true] := tr (p := S1.ρ 5 ≤ (S1.Φ 41 [S1.ρ 4])) (Int.not_lt.1 c6)
              have c7 : ¬ ((S1.Φ 40 [S1.ρ 4]) < (1 : Int)) := by omega
              have d7 : pt5.den S1 = some [b2i true] := tr (p := (1 : Int) ≤ (S1.Φ 40 [S1.ρ 4])) (Int.not_lt.1 c7)
              have c8 : ¬ ((6 : Int) < (S1.Φ 40 [S1.ρ 4])) := by omega
              have d8 : pt6.den S1 = some [b2i true] := tr (p := (S1.Φ 40 [S1.ρ 4]) ≤ (6 : Int)) (Int.not_lt.1 c8)
              have c9 : (IntKind.i64.wrap (S1.ρ 3 + (1 : Int))) = (IntKind.i64.wrap (S1.ρ 3 + (1 : Int))) := rfl
              have d9 : pt7.den S1 = some [b2i false] := fls (p := (IntKind.i64.wrap (S1.ρ 3 + (1 : Int))) ≠ (IntKind.i64.wrap (S1.ρ 3 + (1 : Int)))) (fun hh => hh c9)
              obtain ⟨o3, h_o3⟩ : ∃ o : Int, o = (IntKind.i64.wrap (S1.ρ 3 + (1 : Int))) := ⟨_, rfl⟩
              obtain ⟨o4, h_o4⟩ : ∃ o : Int, o = (IntKind.i64.wrap (S1.ρ 4 + (1 : Int))) := ⟨_, rfl⟩
              obtain ⟨o21, h_o21⟩ : ∃ o : Int, o = (b2i true) := ⟨_, rfl⟩
              obtain ⟨o20, h_o20⟩ : ∃ o : Int, o = (S1.Φ 30 [S1.ρ 4]) := ⟨_, rfl⟩
              obtain ⟨o19, h_o19⟩ : ∃ o : Int, o = (S1.Φ 29 [S1.ρ 4]) := ⟨_, rfl⟩
              obtain ⟨o18, h_o18⟩ : ∃ o : Int, o = (S1.Φ 28 [S1.ρ 4]) := ⟨_, rfl⟩
              obtain ⟨o17, h_o17⟩ : ∃ o : Int, o = (S1.Φ 27 [S1.ρ 4]) := ⟨_, rfl⟩
              obtain ⟨o16, h_o16⟩ : ∃ o : Int, o = (S1.Φ 26 [S1.ρ 4]) := ⟨_, rfl⟩
              obtain ⟨o15, h_o15⟩ : ∃ o : Int, o = (S1.Φ 25 [S1.ρ 4]) := ⟨_, rfl⟩
              obtain ⟨o14, h_o14⟩ : ∃ o : Int, o = (S1.Φ 24 [S1.ρ 4]) := ⟨_, rfl⟩
              obtain ⟨o13, h_o13⟩ : ∃ o : Int, o = (S1.Φ 23 [S1.ρ 4]) := ⟨_, rfl⟩
              obtain ⟨o12, h_o12⟩ : ∃ o : Int, o = (S1.Φ 22 [S1.ρ 4]) := ⟨_, rfl⟩
              obtain ⟨o11, h_o11⟩ : ∃ o : Int, o = (S1.Φ 21 [S1.ρ 4]) := ⟨_, rfl⟩
              obtain ⟨o10, h_o10⟩ : ∃ o : Int, o = (S1.Φ 20 [S1.ρ 4]) := ⟨_, rfl⟩
              have u4 := h_o4
              rw [w_i64 (by omega) (by omega)] at u4
              have u3 := h_o3
              rw [w_i64 (by omega) (by omega)] at u3
              have inv : InvT S n1 n2 (n2 - (i + 1)) (S1.set (upd S1.ρ [(3, o3), (4, o4), (21, o21), (20, o20), (19, o19), (18, o18), (17, o17), (16, o16), (15, o15), (14, o14), (13, o13), (12, o12), (11, o11), (10, o10)]) [] 60 rfl hK) := ⟨i + 1, by omega, rfl, h1, h2, (show o4 = ((i + 1 : Nat) : Int) by omega), h5, h6, (show 0 ≤ o3 by omega), (show o3 ≤ ((i + 1 : Nat) : Int) by omega), (tell_t h41 c1 h_o21), hI, fun f hf l => (Sy.set_low hf).trans (hΦ f hf l)⟩
              exact .inl ⟨_, _, (by omega : n2 - i = n2 - (i + 1) + 1), inv, _, [], _, 1000, _, [], (ai pt7 false d9 (ai pt6 true d8 (ai pt5 true d7 (ai pt8 true d6 (ai pt4 false d5 (ai pt12 true d4 (ai pt3 false d3 (ai pt2 true d2 (ai pt1 true d1 (ai pt0 true d0 (AlOk.nil _))))))))))), hcs, LkOk.no _ _ _ _, (av 1 .i64 (av 2 .i64 (an 3 (.bin .add (.var .i64 3) (.lit .i64 1)) (sm h_o3.symm) (an 4 (.bin .add (.var .i64 4) (.lit .i64 1)) (sm h_o4.symm) (av 5 .i64 (ar 60 (ar_var 60) (av 6 .i64 (ar 61 (ar_var 61) (av 6 .i64 (av 5 .i64 (an 21 (.blit true) (sm h_o21.symm) (an 20 (.app .i64 30 (.cons (.var .i64 4) .nil)) (sm h_o20.symm) (an 19 (.app .i64 29 (.cons (.var .i64 4) .nil)) (sm h_o19.symm) (an 18 (.app .i64 28 (.cons (.var .i64 4) .nil)) (sm h_o18.symm) (an 17 (.app .u64 27 (.cons (.var .i64 4) .nil)) (sm h_o17.symm) (an 16 (.app .u64 26 (.cons (.var .i64 4) .nil)) (sm h_o16.symm) (an 15 (.app .u64 25 (.cons (.var .i64 4) .nil)) (sm h_o15.symm) (an 14 (.app .u64 24 (.cons (.var .i64 4) .nil)) (sm h_o14.symm) (an 13 (.app .u64 23 (.cons (.var .i64 4) .nil)) (sm h_o13.symm) (an 12 (.app .u8 22 (.cons (.var .i64 4) .nil)) (sm h_o12.symm) (an 11 (.app .i64 21 (.cons (.var .i64 4) .nil)) (sm h_o11.symm) (an 10 (.app .i64 20 (.cons (.var .i64 4) .nil)) (sm h_o10.symm) (an 3 (.bin .add (.var .i64 3) (.lit .i64 1)) (sm h_o3.symm) (av 5 .i64 (ar 60 (ar_var 60) (av 6 .i64 (ar 61 (ar_var 61) (av 6 .i64 (av 5 .i64 (an 3 (.bin .add (.var .i64 3) (.lit .i64 1)) (sm h_o3.symm) (asg_nil rfl))))))))))))))))))))))))))))))), fun G => by kernel_rfl⟩
        · have d4 : pt12.den S1 = some [b2i false] := fls (p := (S1.Φ 40 [S1.ρ 4]) = (2 : Int)) c4
          by_cases c5 : (S1.Φ 40 [S1.ρ 4]) = (3 : Int)
          · have d5 : pt13.den S1 = some [b2i true] := tr (p := (S1.Φ 40 [S1.ρ 4]) = (3 : Int)) c5
            by_cases c6 : (S1.Φ 41 [S1.ρ 4]) < (0 : Int)
            · have d6 : pt4.den S1 = some [b2i true] := tr (p := (S1.Φ 41 [S1.ρ 4]) < (0 : Int)) c6
              have c7 : ¬ ((S1.Φ 40 [S1.ρ 4]) < (1 : Int)) := by omega
              have d7 : pt5.den S1 = some [b2i true] := tr (p := (1 : Int) ≤ (S1.Φ 40 [S1.ρ 4])) (Int.not_lt.1 c7)
              have c8 : ¬ ((6 : Int) < (S1.Φ 40 [S1.ρ 4])) := by omega
              have d8 : pt6.den S1 = some [b2i true] := tr (p := (S1.Φ 40 [S1.ρ 4]) ≤ (6 : Int)) (Int.not_lt.1 c8)
              have c9 : (IntKind.i64.wrap (S1.ρ 3 + (1 : Int))) = (IntKind.i64.wrap (S1.ρ 3 + (1 : Int))) := rfl
              have d9 : pt7.den S1 = some [b2i false] := fls (p := (IntKind.i64.wrap (S1.ρ 3 + (1 : Int))) ≠ (IntKind.i64.wrap (S1.ρ 3 + (1 : Int)))) (fun hh => hh c9)
              obtain ⟨o3, h_o3⟩ : ∃ o : Int, o = (IntKind.i64.wrap (S1.ρ 3 + (1 : Int))) := ⟨_, rfl⟩
              obtain ⟨o4, h_o4⟩ : ∃ o : Int, o = (IntKind.i64.wrap (S1.ρ 4 + (1 : Int))) := ⟨_, rfl⟩
              obtain ⟨o21, h_o21⟩ : ∃ o : Int, o = (b2i true) := ⟨_, rfl⟩
              obtain ⟨o20, h_o20⟩ : ∃ o : Int, o = (S1.Φ 30 [S1.ρ 4]) := ⟨_, rfl⟩
              obtain ⟨o19, h_o19⟩ : ∃ o : Int, o = (S1.Φ 29 [S1.ρ 4]) := ⟨_, rfl⟩
              obtain ⟨o18, h_o18⟩ : ∃ o : Int, o = (S1.Φ 28 [S1.ρ 4]) := ⟨_, rfl⟩
              obtain ⟨o17, h_o17⟩ : ∃ o : Int, o = (S1.Φ 27 [S1.ρ 4]) := ⟨_, rfl⟩
              obtain ⟨o16, h_o16⟩ : ∃ o : Int, o = (S1.Φ 26 [S1.ρ 4]) := ⟨_, rfl⟩
              obtain ⟨o15, h_o15⟩ : ∃ o : Int, o = (S1.Φ 25 [S1.ρ 4]) := ⟨_, rfl⟩
              obtain ⟨o14, h_o14⟩ : ∃ o : Int, o = (S1.Φ 24 [S1.ρ 4]) := ⟨_, rfl⟩
              obtain ⟨o13, h_o13⟩ : ∃ o : Int, o = (S1.Φ 23 [S1.ρ 4]) := ⟨_, rfl⟩
              obtain ⟨o12, h_o12⟩ : ∃ o : Int, o = (S1.Φ 22 [S1.ρ 4]) := ⟨_, rfl⟩
              obtain ⟨o11, h_o11⟩ : ∃ o : Int, o = (S1.Φ 21 [S1.ρ 4]) := ⟨_, rfl⟩
              obtain ⟨o10, h_o10⟩ : ∃ o : Int, o = (S1.Φ 20 [S1.ρ 4]) := ⟨_, rfl⟩
              have u4 := h_o4
              rw [w_i64 (by omega) (by omega)] at u4
              have u3 := h_o3
              rw [w_i64 (by omega) (by omega)] at u3
              have inv : InvT S n1 n2 (n2 - (i + 1)) (S1.set (upd S1.ρ [(3, o3), (4, o4), (21, o21), (20, o20), (19, o19), (18, o18), (17, o17), (16, o16), (15, o15), (14, o14), (13, o13), (12, o12), (11, o11), (10, o10)]) [] 60 rfl hK) := ⟨i + 1, by omega, rfl, h1, h2, (show o4 = ((i + 1 : Nat) : Int) by omega), h5, h6, (show 0 ≤ o3 by omega), (show o3 ≤ ((i + 1 : Nat) : Int) by omega), (tell_t h41 c1 h_o21), hI, fun f hf l => (Sy.set_low hf).trans (hΦ f hf l)⟩
              exact .inl ⟨_, _, (by omega : n2 - i = n2 - (i + 1) + 1), inv, _, [], _, 1000, _, [], (ai pt7 false d9 (ai pt6 true d8 (ai pt5 true d7 (ai pt4 true d6 (ai pt13 true d5 (ai pt12 false d4 (ai pt3 false d3 (ai pt2 true d2 (ai pt1 true d1 (ai pt0 true d0 (AlOk.nil _))))))))))), hcs, LkOk.no _ _ _ _, (av 1 .i64 (av 2 .i64 (an 3 (.bin .add (.var .i64 3) (.lit .i64 1)) (sm h_o3.symm) (an 4 (.bin .add (.var .i64 4) (.lit .i64 1)) (sm h_o4.symm) (av 5 .i64 (ar 60 (ar_var 60) (av 6 .i64 (ar 61 (ar_var 61) (av 6 .i64 (av 5 .i64 (an 21 (.blit true) (sm h_o21.symm) (an 20 (.app .i64 30 (.cons (.var .i64 4) .nil)) (sm h_o20.symm) (an 19 (.app .i64 29 (.cons (.var .i64 4) .nil)) (sm h_o19.symm) (an 18 (.app .i64 28 (.cons (.var .i64 4) .nil)) (sm h_o18.symm) (an 17 (.app .u64 27 (.cons (.var .i64 4) .nil)) (sm h_o17.symm) (an 16 (.app .u64 26 (.cons (.var .i64 4) .nil)) (sm h_o16.symm) (an 15 (.app .u64 25 (.cons (.var .i64 4) .nil)) (sm h_o15.symm) (an 14 (.app .u64 24 (.cons (.var .i64 4) .nil)) (sm h_o14.symm) (an 13 (.app .u64 23 (.cons (.var .i64 4) .nil)) (sm h_o13.symm) (an 12 (.app .u8 22 (.cons (.var .i64 4) .nil)) (sm h_o12.symm) (an 11 (.app .i64 21 (.cons (.var .i64 4) .nil)) (sm h_o11.symm) (an 10 (.app .i64 20 (.cons (.var .i64 4) .nil)) (sm h_o10.symm) (an 3 (.bin .add (.var .i64 3) (.lit .i64 1)) (sm h_o3.symm) (av 5 .i64 (ar 60 (ar_var 60) (av 6 .i64 (ar 61 (ar_var 61) (av 6 .i64 (av 5 .i64 (an 3 (.bin .add (.var .i64 3) (.lit .i64 1)) (sm h_o3.symm) (asg_nil rfl))))))))))))))))))))))))))))))), fun G => by kernel_rfl⟩
            · have d6 : pt4.den S1 = some [b2i false] := fls (p := (S1.Φ 41 [S1.ρ 4]) < (0 : Int)) c6
              by_cases c7 : (S1.Φ 41 [S1.ρ 4]) < S1.ρ 5
              · have d7 : pt8.den S1 = some [b2i false] := fls (p := S1.ρ 5 ≤ (S1.Φ 41 [S1.ρ 4])) (Int.not_le.2 c7)
                have d8 : pt9.den S1 = some [b2i true] := tr (p := (0 : Int) ≤ (S1.Φ 41 [S1.ρ 4])) (Int.not_lt.1 c6)
                have d9 : pt10.den S1 = some [b2i true] := tr (p := (S1.Φ 41 [S1.ρ 4]) < S1.ρ 5) c7
                by_cases c10 : (S1.Φ 60 [(S1.Φ 41 [S1.ρ 4])]) = (S1.Φ 42 [S1.ρ 4])
                · have d10 : pt14.den S1 = some [b2i false] := fls (p := (S1.Φ 60 [(S1.Φ 41 [S1.ρ 4])]) ≠ (S1.Φ 42 [S1.ρ 4])) (fun hh => hh c10)
                  have c11 : ¬ ((S1.Φ 40 [S1.ρ 4]) < (1 : Int)) := by omega
                  have d11 : pt5.den S1 = some [b2i true] := tr (p := (1 : Int) ≤ (S1.Φ 40 [S1.ρ 4])) (Int.not_lt.1 c11)
                  have c12 : ¬ ((6 : Int) < (S1.Φ 40 [S1.ρ 4])) := by omega
                  have d12 : pt6.den S1 = some [b2i true] := tr (p := (S1.Φ 40 [S1.ρ 4]) ≤ (6 : Int)) (Int.not_lt.1 c12)
                  have c13 : (IntKind.i64.wrap (S1.ρ 3 + (1 : Int))) = (IntKind.i64.wrap (S1.ρ 3 + (1 : Int))) := rfl
                  have d13 : pt7.den S1 = some [b2i false] := fls (p := (IntKind.i64.wrap (S1.ρ 3 + (1 : Int))) ≠ (IntKind.i64.wrap (S1.ρ 3 + (1 : Int)))) (fun hh => hh c13)
                  obtain ⟨o3, h_o3⟩ : ∃ o : Int, o = (IntKind.i64.wrap (S1.ρ 3 + (1 : Int))) := ⟨_, rfl⟩
                  obtain ⟨o4, h_o4⟩ : ∃ o : Int, o = (IntKind.i64.wrap (S1.ρ 4 + (1 : Int))) := ⟨_, rfl⟩
                  obtain ⟨o21, h_o21⟩ : ∃ o : Int, o = (b2i true) := ⟨_, rfl⟩
                  obtain ⟨o20, h_o20⟩ : ∃ o : Int, o = (S1.Φ 30 [S1.ρ 4]) := ⟨_, rfl⟩
                  obtain ⟨o19, h_o19⟩ : ∃ o : Int, o = (S1.Φ 29 [S1.ρ 4]) := ⟨_, rfl⟩
                  obtain ⟨o18, h_o18⟩ : ∃ o : Int, o = (S1.Φ 28 [S1.ρ 4]) := ⟨_, rfl⟩
                  obtain ⟨o17, h_o17⟩ : ∃ o : Int, o = (S1.Φ 27 [S1.ρ 4]) := ⟨_, rfl⟩
                  obtain ⟨o16, h_o16⟩ : ∃ o : Int, o = (S1.Φ 26 [S1.ρ 4]) := ⟨_, rfl⟩
                  obtain ⟨o15, h_o15⟩ : ∃ o : Int, o = (S1.Φ 25 [S1.ρ 4]) := ⟨_, rfl⟩
                  obtain ⟨o14, h_o14⟩ : ∃ o : Int, o = (S1.Φ 24 [S1.ρ 4]) := ⟨_, rfl⟩
                  obtain ⟨o13, h_o13⟩ : ∃ o : Int, o = (S1.Φ 23 [S1.ρ 4]) := ⟨_, rfl⟩
                  obtain ⟨o12, h_o12⟩ : ∃ o : Int, o = (S1.Φ 22 [S1.ρ 4]) := ⟨_, rfl⟩
                  obtain ⟨o11, h_o11⟩ : ∃ o : Int, o = (S1.Φ 21 [S1.ρ 4]) := ⟨_, rfl⟩
                  obtain ⟨o10, h_o10⟩ : ∃ o : Int, o = (S1.Φ 20 [S1.ρ 4]) := ⟨_, rfl⟩
                  have u4 := h_o4
                  rw [w_i64 (by omega) (by omega)] at u4
                  have u3 := h_o3
                  rw [w_i64 (by omega) (by omega)] at u3
                  have inv : InvT S n1 n2 (n2 - (i + 1)) (S1.set (upd S1.ρ [(3, o3), (4, o4), (21, o21), (20, o20), (19, o19), (18, o18), (17, o17), (16, o16), (15, o15), (14, o14), (13, o13), (12, o12), (11, o11), (10, o10)]) [(60, (fun j => ifE j (S1.Φ 41 [S1.ρ 4]) (S1.Φ 43 [S1.ρ 4]) ((fun j => S1.Φ 60 [j]) j)))] 60 rfl hK) := ⟨i + 1, by omega, rfl, h1, h2, (show o4 = ((i + 1 : Nat) : Int) by omega), h5, h6, (show 0 ≤ o3 by omega), (show o3 ≤ ((i + 1 : Nat) : Int) by omega), (tell_t h41 c1 h_o21), hI, fun f hf l => (Sy.set_low hf).trans (hΦ f hf l)⟩
                  exact .inl ⟨_, _, (by omega : n2 - i = n2 - (i + 1) + 1), inv, _, [], _, 1000, _, [], (ai pt7 false d13 (ai pt6 true d12 (ai pt5 true d11 (ai pt14 false d10 (ai pt10 true d9 (ai pt9 true d8 (ai pt8 false d7 (ai pt4 false d6 (ai pt13 true d5 (ai pt12 false d4 (ai pt3 false d3 (ai pt2 true d2 (ai pt1 true d1 (ai pt0 true d0 (AlOk.nil _))))))))))))))), hcs, LkOk.no _ _ _ _, (av 1 .i64 (av 2 .i64 (an 3 (.bin .add (.var .i64 3) (.lit .i64 1)) (sm h_o3.symm) (an 4 (.bin .add (.var .i64 4) (.lit .i64 1)) (sm h_o4.symm) (av 5 .i64 (ar 60 (ar_upd (.app .i64 41 (.cons (.var .i64 4) .nil)) (.app .u64 43 (.cons (.var .i64 4) .nil)) (i := (S1.Φ 41 [S1.ρ 4])) (v := (S1.Φ 43 [S1.ρ 4])) rfl rfl (by kernel_rfl) (ar_var 60)) (av 6 .i64 (ar 61 (ar_var 61) (av 6 .i64 (av 5 .i64 (an 21 (.blit true) (sm h_o21.symm) (an 20 (.app .i64 30 (.cons (.var .i64 4) .nil)) (sm h_o20.symm) (an 19 (.app .i64 29 (.cons (.var .i64 4) .nil)) (sm h_o19.symm) (an 18 (.app .i64 28 (.cons (.var .i64 4) .nil)) (sm h_o18.symm) (an 17 (.app .u64 27 (.cons (.var .i64 4) .nil)) (sm h_o17.symm) (an 16 (.app .u64 26 (.cons (.var .i64 4) .nil)) (sm h_o16.symm) (an 15 (.app .u64 25 (.cons (.var .i64 4) .nil)) (sm h_o15.symm) (an 14 (.app .u64 24 (.cons (.var .i64 4) .nil)) (sm h_o14.symm) (an 13 (.app .u64 23 (.cons (.var .i64 4) .nil)) (sm h_o13.symm) (an 12 (.app .u8 22 (.cons (.var .i64 4) .nil)) (sm h_o12.symm) (an 11 (.app .i64 21 (.cons (.var .i64 4) .nil)) (sm h_o11.symm) (an 10 (.app .i64 20 (.cons (.var .i64 4) .nil)) (sm h_o10.symm) (an 3 (.bin .add (.var .i64 3) (.lit .i64 1)) (sm h_o3.symm) (av 5 .i64 (ar 60 (ar_upd (.app .i64 41 (.cons (.var .i64 4) .nil)) (.app .u64 43 (.cons (.var .i64 4) .nil)) (i := (S1.Φ 41 [S1.ρ 4])) (v := (S1.Φ 43 [S1.ρ 4])) rfl rfl (by kernel_rfl) (ar_var 60)) (av 6 .i64 (ar 61 (ar_var 61) (av 6 .i64 (av 5 .i64 (an 3 (.bin .add (.var .i64 3) (.lit .i64 1)) (sm h_o3.symm) (asg_nil rfl))))))))))))))))))))))))))))))), fun G => by kernel_rfl⟩
                · have d10 : pt14.den S1 = some [b2i true] := tr (p := (S1.Φ 60 [(S1.Φ 41 [S1.ρ 4])]) ≠ (S1.Φ 42 [S1.ρ 4])) c10
                  have c11 : ¬ ((S1.Φ 40 [S1.ρ 4]) < (1 : Int)) := by omega
                  have d11 : pt5.den S1 = some [b2i true] := tr (p := (1 : Int) ≤ (S1.Φ 40 [S1.ρ 4])) (Int.not_lt.1 c11)
                  have c12 : ¬ ((6 : Int) < (S1.Φ 40 [S1.ρ 4])) := by omega
                  have d12 : pt6.den S1 = some [b2i true] := tr (p := (S1.Φ 40 [S1.ρ 4]) ≤ (6 : Int)) (Int.not_lt.1 c12)
                  have c13 : (IntKind.i64.wrap (S1.ρ 3 + (1 : Int))) = (IntKind.i64.wrap (S1.ρ 3 + (1 : Int))) := rfl
                  have d13 : pt7.den S1 = some [b2i false] := fls (p := (IntKind.i64.wrap (S1.ρ 3 + (1 : Int))) ≠ (IntKind.i64.wrap (S1.ρ 3 + (1 : Int)))) (fun hh => hh c13)
                  obtain ⟨o3, h_o3⟩ : ∃ o : Int, o = (IntKind.i64.wrap (S1.ρ 3 + (1 : Int))) := ⟨_, rfl⟩
                  obtain ⟨o4, h_o4⟩ : ∃ o : Int, o = (IntKind.i64.wrap (S1.ρ 4 + (1 : Int))) := ⟨_, rfl⟩
                  obtain ⟨o21, h_o21⟩ : ∃ o : Int, o = (b2i true) := ⟨_, rfl⟩
                  obtain ⟨o20, h_o20⟩ : ∃ o : Int, o = (S1.Φ 30 [S1.ρ 4]) := ⟨_, rfl⟩
                  obtain ⟨o19, h_o19⟩ : ∃ o : Int, o = (S1.Φ 29 [S1.ρ 4]) := ⟨_, rfl⟩
                  obtain ⟨o18, h_o18⟩ : ∃ o : Int, o = (S1.Φ 28 [S1.ρ 4]) := ⟨_, rfl⟩
                  obtain ⟨o17, h_o17⟩ : ∃ o : Int, o = (S1.Φ 27 [S1.ρ 4]) := ⟨_, rfl⟩
                  obtain ⟨o16, h_o16⟩ : ∃ o : Int, o = (S1.Φ 26 [S1.ρ 4]) := ⟨_, rfl⟩
                  obtain ⟨o15, h_o15⟩ : ∃ o : Int, o = (S1.Φ 25 [S1.ρ 4]) := ⟨_, rfl⟩
                  obtain ⟨o14, h_o14⟩ : ∃ o : Int, o = (S1.Φ 24 [S1.ρ 4]) := ⟨_, rfl⟩
                  obtain ⟨o13, h_o13⟩ : ∃ o : Int, o = (S1.Φ 23 [S1.ρ 4]) := ⟨_, rfl⟩
                  obtain ⟨o12, h_o12⟩ : ∃ o : Int, o = (S1.Φ 22 [S1.ρ 4]) := ⟨_, rfl⟩
                  obtain ⟨o11, h_o11⟩ : ∃ o : Int, o = (S1.Φ 21 [S1.ρ 4]) := ⟨_, rfl⟩
                  obtain ⟨o10, h_o10⟩ : ∃ o : Int, o = (S1.Φ 20 [S1.ρ 4]) := ⟨_, rfl⟩
                  have u4 := h_o4
                  rw [w_i64 (by omega) (by omega)] at u4
                  have u3 := h_o3
                  rw [w_i64 (by omega) (by omega)] at u3
                  have inv : InvT S n1 n2 (n2 - (i + 1)) (S1.set (upd S1.ρ [(3, o3), (4, o4), (21, o21), (20, o20), (19, o19), (18, o18), (17, o17), (16, o16), (15, o15), (14, o14), (13, o13), (12, o12), (11, o11), (10, o10)]) [] 60 rfl hK) := ⟨i + 1, by omega, rfl, h1, h2, (show o4 = ((i + 1 : Nat) : Int) by omega), h5, h6, (show 0 ≤ o3 by omega), (show o3 ≤ ((i + 1 : Nat) : Int) by omega), (tell_t h41 c1 h_o21), hI, fun f hf l => (Sy.set_low hf).trans (hΦ f hf l)⟩
                  exact .inl ⟨_, _, (by omega : n2 - i = n2 - (i + 1) + 1), inv, _, [], _, 1000, _, [], (ai pt7 false d13 (ai pt6 true d12 (ai pt5 true d11 (ai pt14 true d10 (ai pt10 true d9 (ai pt9 true d8 (ai pt8 false d7 (ai pt4 false d6 (ai pt13 true d5 (ai pt12 false d4 (ai pt3 false d3 (ai pt2 true d2 (ai pt1 true d1 (ai pt0 true d0 (AlOk.nil _))))))))))))))), hcs, LkOk.no _ _ _ _, (av 1 .i64 (av 2 .i64 (an 3 (.bin .add (.var .i64 3) (.lit .i64 1)) (sm h_o3.symm) (an 4 (.bin .add (.var .i64 4) (.lit .i64 1)) (sm h_o4.symm) (av 5 .i64 (ar 60 (ar_var 60) (av 6 .i64 (ar 61 (ar_var 61) (av 6 .i64 (av 5 .i64 (an 21 (.blit true) (sm h_o21.symm) (an 20 (.app .i64 30 (.cons (.var .i64 4) .nil)) (sm h_o20.symm) (an 19 (.app .i64 29 (.cons (.var .i64 4) .nil)) (sm h_o19.symm) (an 18 (.app .i64 28 (.cons (.var .i64 4) .nil)) (sm h_o18.symm) (an 17 (.app .u64 27 (.cons (.var .i64 4) .nil)) (sm h_o17.symm) (an 16 (.app .u64 26 (.cons (.var .i64 4) .nil)) (sm h_o16.symm) (an 15 (.app .u64 25 (.cons (.var .i64 4) .nil)) (sm h_o15.symm) (an 14 (.app .u64 24 (.cons (.var .i64 4) .nil)) (sm h_o14.symm) (an 13 (.app .u64 23 (.cons (.var .i64 4) .nil)) (sm h_o13.symm) (an 12 (.app .u8 22 (.cons (.var .i64 4) .nil)) (sm h_o12.symm) (an 11 (.app .i64 21 (.cons (.var .i64 4) .nil)) (sm h_o11.symm) (an 10 (.app .i64 20 (.cons (.var .i64 4) .nil)) (sm h_o10.symm) (an 3 (.bin .add (.var .i64 3) (.lit .i64 1)) (sm h_o3.symm) (av 5 .i64 (ar 60 (ar_var 60) (av 6 .i64 (ar 61 (ar_var 61) (av 6 .i64 (av 5 .i64 (an 3 (.bin .add (.var .i64 3) (.lit .i64 1)) (sm h_o3.symm) (asg_nil rfl))))))))))))))))))))))))))))))), fun G => by kernel_rfl⟩
              · have d7 : pt8.den S1 = some [b2i true] := tr (p := S1.ρ 5 ≤ (S1.Φ 41 [S1.ρ 4])) (Int.not_lt.1 c7)
                have c8 : ¬ ((S1.Φ 40 [S1.ρ 4]) < (1 : Int)) := by omega
                have d8 : pt5.den S1 = some [b2i true] := tr (p := (1 : Int) ≤ (S1.Φ 40 [S1.ρ 4])) (Int.not_lt.1 c8)
                have c9 : ¬ ((6 : Int) < (S1.Φ 40 [S1.ρ 4])) := by omega
                have d9 : pt6.den S1 = some [b2i true] := tr (p := (S1.Φ 40 [S1.ρ 4]) ≤ (6 : Int)) (Int.not_lt.1 c9)
                have c10 : (IntKind.i64.wrap (S1.ρ 3 + (1 : Int))) = (IntKind.i64.wrap (S1.ρ 3 + (1 : Int))) := rfl
                have d10 : pt7.den S1 = some [b2i false] := fls (p := (IntKind.i64.wrap (S1.ρ 3 + (1 : Int))) ≠ (IntKind.i64.wrap (S1.ρ 3 + (1 : Int)))) (fun hh => hh c10)
                obtain ⟨o3, h_o3⟩ : ∃ o : Int, o = (IntKind.i64.wrap (S1.ρ 3 + (1 : Int))) := ⟨_, rfl⟩
                obtain ⟨o4, h_o4⟩ : ∃ o : Int, o = (IntKind.i64.wrap (S1.ρ 4 + (1 : Int))) := ⟨_, rfl⟩
                obtain ⟨o21, h_o21⟩ : ∃ o : Int, o = (b2i true) := ⟨_, rfl⟩
                obtain ⟨o20, h_o20⟩ : ∃ o : Int, o = (S1.Φ 30 [S1.ρ 4]) := ⟨_, rfl⟩
                obtain ⟨o19, h_o19⟩ : ∃ o : Int, o = (S1.Φ 29 [S1.ρ 4]) := ⟨_, rfl⟩
                obtain ⟨o18, h_o18⟩ : ∃ o : Int, o = (S1.Φ 28 [S1.ρ 4]) := ⟨_, rfl⟩
                obtain ⟨o17, h_o17⟩ : ∃ o : Int, o = (S1.Φ 27 [S1.ρ 4]) := ⟨_, rfl⟩
                obtain ⟨o16, h_o16⟩ : ∃ o : Int, o = (S1.Φ 26 [S1.ρ 4]) := ⟨_, rfl⟩
                obtain ⟨o15, h_o15⟩ : ∃ o : Int, o = (S1.Φ 25 [S1.ρ 4]) := ⟨_, rfl⟩
                obtain ⟨o14, h_o14⟩ : ∃ o : Int, o = (S1.Φ 24 [S1.ρ 4]) := ⟨_, rfl⟩
                obtain ⟨o13, h_o13⟩ : ∃ o : Int, o = (S1.Φ 23 [S1.ρ 4]) := ⟨_, rfl⟩
                obtain ⟨o12, h_o12⟩ : ∃ o : Int, o = (S1.Φ 22 [S1.ρ 4]) := ⟨_, rfl⟩
                obtain ⟨o11, h_o11⟩ : ∃ o : Int, o = (S1.Φ 21 [S1.ρ 4]) := ⟨_, rfl⟩
                obtain ⟨o10, h_o10⟩ : ∃ o : Int, o = (S1.Φ 20 [S1.ρ 4]) := ⟨_, rfl⟩
                have u4 := h_o4
                rw [w_i64 (by omega) (by omega)] at u4
                have u3 := h_o3
                rw [w_i64 (by omega) (by omega)] at u3
                have inv : InvT S n1 n2 (n2 - (i + 1)) (S1.set (upd S1.ρ [(3, o3), (4, o4), (21, o21), (20, o20), (19, o19), (18, o18), (17, o17), (16, o16), (15, o15), (14, o14), (13, o13), (12, o12), (11, o11), (10, o10)]) [] 60 rfl hK) := ⟨i + 1, by omega, rfl, h1, h2, (show o4 = ((i + 1 : Nat) : Int) by omega), h5, h6, (show 0 ≤ o3 by omega), (show o3 ≤ ((i + 1 : Nat) : Int) by omega), (tell_t h41 c1 h_o21), hI, fun f hf l => (Sy.set_low hf).trans (hΦ f hf l)⟩
                exact .inl ⟨_, _, (by omega : n2 - i = n2 - (i + 1) + 1), inv, _, [], _, 1000, _, [], (ai pt7 false d10 (ai pt6 true d9 (ai pt5 true d8 (ai pt8 true d7 (ai pt4 false d6 (ai pt13 true d5 (ai pt12 false d4 (ai pt3 false d3 (ai pt2 true d2 (ai pt1 true d1 (ai pt0 true d0 (AlOk.nil _)))))))))))), hcs, LkOk.no _ _ _ _, (av 1 .i64 (av 2 .i64 (an 3 (.bin .add (.var .i64 3) (.lit .i64 1)) (sm h_o3.symm) (an 4 (.bin .add (.var .i64 4) (.lit .i64 1)) (sm h_o4.symm) (av 5 .i64 (ar 60 (ar_var 60) (av 6 .i64 (ar 61 (ar_var 61) (av 6 .i64 (av 5 .i64 (an 21 (.blit true) (sm h_o21.symm) (an 20 (.app .i64 30 (.cons (.var .i64 4) .nil)) (sm h_o20.symm) (an 19 (.app .i64 29 (.cons (.var .i64 4) .nil)) (sm h_o19.symm) (an 18 (.app .i64 28 (.cons (.var .i64 4) .nil)) (sm h_o18.symm) (an 17 (.app .u64 27 (.cons (.var .i64 4) .nil)) (sm h_o17.symm) (an 16 (.app .u64 26 (.cons (.var .i64 4) .nil)) (sm h_o16.symm) (an 15 (.app .u64 25 (.cons (.var .i64 4) .nil)) (sm h_o15.symm) (an 14 (.app .u64 24 (.cons (.var .i64 4) .nil)) (sm h_o14.symm) (an 13 (.app .u64 23 (.cons (.var .i64 4) .nil)) (sm h_o13.symm) (an 12 (.app .u8 22 (.cons (.var .i64 4) .nil)) (sm h_o12.symm) (an 11 (.app .i64 21 (.cons (.var .i64 4) .nil)) (sm h_o11.symm) (an 10 (.app .i64 20 (.cons (.var .i64 4) .nil)) (sm h_o10.symm) (an 3 (.bin .add (.var .i64 3) (.lit .i64 1)) (sm h_o3.symm) (av 5 .i64 (ar 60 (ar_var 60) (av 6 .i64 (ar 61 (ar_var 61) (av 6 .i64 (av 5 .i64 (an 3 (.bin .add (.var .i64 3) (.lit .i64 1)) (sm h_o3.symm) (asg_nil rfl))))))))))))))))))))))))))))))), fun G => by kernel_rfl⟩
          · have d5 : pt13.den S1 = some [b2i false] := fls (p := (S1.Φ 40 [S1.ρ 4]) = (3 : Int)) c5
            by_cases c6 : (S1.Φ 40 [S1.ρ 4]) = (4 : Int)
            · have d6 : pt15.den S1 = some [b2i true] := tr (p := (S1.Φ 40 [S1.ρ 4]) = (4 : Int)) c6
              by_cases c7 : (S1.Φ 41 [S1.ρ 4]) < (0 : Int)
              · have d7 : pt4.den S1 = some [b2i true] := tr (p := (S1.Φ 41 [S1.ρ 4]) < (0 : Int)) c7
                have c8 : ¬ ((S1.Φ 40 [S1.ρ 4]) < (1 : Int)) := by omega
                have d8 : pt5.den S1 = some [b2i true] := tr (p := (1 : Int) ≤ (S1.Φ 40 [S1.ρ 4])) (Int.not_lt.1 c8)
                have c9 : ¬ ((6 : Int) < (S1.Φ 40 [S1.ρ 4])) := by omega
                have d9 : pt6.den S1 = some [b2i true] := tr (p := (S1.Φ 40 [S1.ρ 4]) ≤ (6 : Int)) (Int.not_lt.1 c9)
                have c10 : (IntKind.i64.wrap (S1.ρ 3 + (1 : Int))) = (IntKind.i64.wrap (S1.ρ 3 + (1 : Int))) := rfl
                have d10 : pt7.den S1 = some [b2i false] := fls (p := (IntKind.i64.wrap (S1.ρ 3 + (1 : Int))) ≠ (IntKind.i64.wrap (S1.ρ 3 + (1 : Int)))) (fun hh => hh c10)
                obtain ⟨o3, h_o3⟩ : ∃ o : Int, o = (IntKind.i64.wrap (S1.ρ 3 + (1 : Int))) := ⟨_, rfl⟩
                obtain ⟨o4, h_o4⟩ : ∃ o : Int, o = (IntKind.i64.wrap (S1.ρ 4 + (1 : Int))) := ⟨_, rfl⟩
                obtain ⟨o21, h_o21⟩ : ∃ o : Int, o = (b2i true) := ⟨_, rfl⟩
                obtain ⟨o20, h_o20⟩ : ∃ o : Int, o = (S1.Φ 30 [S1.ρ 4]) := ⟨_, rfl⟩
                obtain ⟨o19, h_o19⟩ : ∃ o : Int, o = (S1.Φ 29 [S1.ρ 4]) := ⟨_, rfl⟩
                obtain ⟨o18, h_o18⟩ : ∃ o : Int, o = (S1.Φ 28 [S1.ρ 4]) := ⟨_, rfl⟩
                obtain ⟨o17, h_o17⟩ : ∃ o : Int, o = (S1.Φ 27 [S1.ρ 4]) := ⟨_, rfl⟩
                obtain ⟨o16, h_o16⟩ : ∃ o : Int, o = (S1.Φ 26 [S1.ρ 4]) := ⟨_, rfl⟩
                obtain ⟨o15, h_o15⟩ : ∃ o : Int, o = (S1.Φ 25 [S1.ρ 4]) := ⟨_, rfl⟩
                obtain ⟨o14, h_o14⟩ : ∃ o : Int, o = (S1.Φ 24 [S1.ρ 4]) := ⟨_, rfl⟩
                obtain ⟨o13, h_o13⟩ : ∃ o : Int, o = (S1.Φ 23 [S1.ρ 4]) := ⟨_, rfl⟩
                obtain ⟨o12, h_o12⟩ : ∃ o : Int, o = (S1.Φ 22 [S1.ρ 4]) := ⟨_, rfl⟩
                obtain ⟨o11, h_o11⟩ : ∃ o : Int, o = (S1.Φ 21 [S1.ρ 4]) := ⟨_, rfl⟩
                obtain ⟨o10, h_o10⟩ : ∃ o : Int, o = (S1.Φ 20 [S1.ρ 4]) := ⟨_, rfl⟩
                have u4 := h_o4
                rw [w_i64 (by omega) (by omega)] at u4
                have u3 := h_o3
                rw [w_i64 (by omega) (by omega)] at u3
                have inv : InvT S n1 n2 (n2 - (i + 1)) (S1.set (upd S1.ρ [(3, o3), (4, o4), (21, o21), (20, o20), (19, o19), (18, o18), (17, o17), (16, o16), (15, o15), (14, o14), (13, o13), (12, o12), (11, o11), (10, o10)]) [] 60 rfl hK) := ⟨i + 1, by omega, rfl, h1, h2, (show o4 = ((i + 1 : Nat) : Int) by omega), h5, h6, (show 0 ≤ o3 by omega), (show o3 ≤ ((i + 1 : Nat) : Int) by omega), (tell_t h41 c1 h_o21), hI, fun f hf l => (Sy.set_low hf).trans (hΦ f hf l)⟩
                exact .inl ⟨_, _, (by omega : n2 - i = n2 - (i + 1) + 1), inv, _, [], _, 1000, _, [], (ai pt7 false d10 (ai pt6 true d9 (ai pt5 true d8 (ai pt4 true d7 (ai pt15 true d6 (ai pt13 false d5 (ai pt12 false d4 (ai pt3 false d3 (ai pt2 true d2 (ai pt1 true d1 (ai pt0 true d0 (AlOk.nil _)))))))))))), hcs, LkOk.no _ _ _ _, (av 1 .i64 (av 2 .i64 (an 3 (.bin .add (.var .i64 3) (.lit .i64 1)) (sm h_o3.symm) (an 4 (.bin .add (.var .i64 4) (.lit .i64 1)) (sm h_o4.symm) (av 5 .i64 (ar 60 (ar_var 60) (av 6 .i64 (ar 61 (ar_var 61) (av 6 .i64 (av 5 .i64 (an 21 (.blit true) (sm h_o21.symm) (an 20 (.app .i64 30 (.cons (.var .i64 4) .nil)) (sm h_o20.symm) (an 19 (.app .i64 29 (.cons (.var .i64 4) .nil)) (sm h_o19.symm) (an 18 (.app .i64 28 (.cons (.var .i64 4) .nil)) (sm h_o18.symm) (an 17 (.app .u64 27 (.cons (.var .i64 4) .nil)) (sm h_o17.symm) (an 16 (.app .u64 26 (.cons (.var .i64 4) .nil)) (sm h_o16.symm) (an 15 (.app .u64 25 (.cons (.var .i64 4) .nil)) (sm h_o15.symm) (an 14 (.app .u64 24 (.cons (.var .i64 4) .nil)) (sm h_o14.symm) (an 13 (.app .u64 23 (.cons (.var .i64 4) .nil)) (sm h_o13.symm) (an 12 (.app .u8 22 (.cons (.var .i64 4) .nil)) (sm h_o12.symm) (an 11 (.app .i64 21 (.cons (.var .i64 4) .nil)) (sm h_o11.symm) (an 10 (.app .i64 20 (.cons (.var .i64 4) .nil)) (sm h_o10.symm) (an 3 (.bin .add (.var .i64 3) (.lit .i64 1)) (sm h_o3.symm) (av 5 .i64 (ar 60 (ar_var 60) (av 6 .i64 (ar 61 (ar_var 61) (av 6 .i64 (av 5 .i64 (an 3 (.bin .add (.var .i64 3) (.lit .i64 1)) (sm h_o3.symm) (asg_nil rfl))))))))))))))))))))))))))))))), fun G => by kernel_rfl⟩
              · have d7 : pt4.den S1 = some [b2i false] := fls (p := (S1.Φ 41 [S1.ρ 4]) < (0 : Int)) c7
                by_cases c8 : (S1.Φ 41 [S1.ρ 4]) < S1.ρ 5
                · have d8 : pt8.den S1 = some [b2i false] := fls (p := S1.ρ 5 ≤ (S1.Φ 41 [S1.ρ 4])) (Int.not_le.2 c8)
                  have d9 : pt9.den S1 = some [b2i true] := tr (p := (0 : Int) ≤ (S1.Φ 41 [S1.ρ 4])) (Int.not_lt.1 c7)
                  have d10 : pt10.den S1 = some [b2i true] := tr (p := (S1.Φ 41 [S1.ρ 4]) < S1.ρ 5) c8
                  have c11 : (S1.Φ 60 [(S1.Φ 41 [S1.ρ 4])]) = (S1.Φ 60 [(S1.Φ 41 [S1.ρ 4])]) := rfl
                  have d11 : pt11.den S1 = some [b2i false] := fls (p := (S1.Φ 60 [(S1.Φ 41 [S1.ρ 4])]) ≠ (S1.Φ 60 [(S1.Φ 41 [S1.ρ 4])])) (fun hh => hh c11)
                  have c12 : ¬ ((S1.Φ 40 [S1.ρ 4]) < (1 : Int)) := by omega
                  have d12 : pt5.den S1 = some [b2i true] := tr (p := (1 : Int) ≤ (S1.Φ 40 [S1.ρ 4])) (Int.not_lt.1 c12)
                  have c13 : ¬ ((6 : Int) < (S1.Φ 40 [S1.ρ 4])) := by omega
                  have d13 : pt6.den S1 = some [b2i true] := tr (p := (S1.Φ 40 [S1.ρ 4]) ≤ (6 : Int)) (Int.not_lt.1 c13)
                  have c14 : (IntKind.i64.wrap (S1.ρ 3 + (1 : Int))) = (IntKind.i64.wrap (S1.ρ 3 + (1 : Int))) := rfl
                  have d14 : pt7.den S1 = some [b2i false] := fls (p := (IntKind.i64.wrap (S1.ρ 3 + (1 : Int))) ≠ (IntKind.i64.wrap (S1.ρ 3 + (1 : Int)))) (fun hh => hh c14)
                  obtain ⟨o3, h_o3⟩ : ∃ o : Int, o = (IntKind.i64.wrap (S1.ρ 3 + (1 : Int))) := ⟨_, rfl⟩
                  obtain ⟨o4, h_o4⟩ : ∃ o : Int, o = (IntKind.i64.wrap (S1.ρ 4 + (1 : Int))) := ⟨_, rfl⟩
                  obtain ⟨o21, h_o21⟩ : ∃ o : Int, o = (b2i true) := ⟨_, rfl⟩
                  obtain ⟨o20, h_o20⟩ : ∃ o : Int, o = (S1.Φ 30 [S1.ρ 4]) := ⟨_, rfl⟩
                  obtain ⟨o19, h_o19⟩ : ∃ o : Int, o = (S1.Φ 29 [S1.ρ 4]) := ⟨_, rfl⟩
                  obtain ⟨o18, h_o18⟩ : ∃ o : Int, o = (S1.Φ 28 [S1.ρ 4]) := ⟨_, rfl⟩
                  obtain ⟨o17, h_o17⟩ : ∃ o : Int, o = (S1.Φ 27 [S1.ρ 4]) := ⟨_, rfl⟩
                  obtain ⟨o16, h_o16⟩ : ∃ o : Int, o = (S1.Φ 26 [S1.ρ 4]) := ⟨_, rfl⟩
                  obtain ⟨o15, h_o15⟩ : ∃ o : Int, o = (S1.Φ 25 [S1.ρ 4]) := ⟨_, rfl⟩
                  obtain ⟨o14, h_o14⟩ : ∃ o : Int, o = (S1.Φ 24 [S1.ρ 4]) := ⟨_, rfl⟩
                  obtain ⟨o13, h_o13⟩ : ∃ o : Int, o = (S1.Φ 23 [S1.ρ 4]) := ⟨_, rfl⟩
                  obtain ⟨o12, h_o12⟩ : ∃ o : Int, o = (S1.Φ 22 [S1.ρ 4]) := ⟨_, rfl⟩
                  obtain ⟨o11, h_o11⟩ : ∃ o : Int, o = (S1.Φ 21 [S1.ρ 4]) := ⟨_, rfl⟩
                  obtain ⟨o10, h_o10⟩ : ∃ o : Int, o = (S1.Φ 20 [S1.ρ 4]) := ⟨_, rfl⟩
                  have u4 := h_o4
                  rw [w_i64 (by omega) (by omega)] at u4
                  have u3 := h_o3
                  rw [w_i64 (by omega) (by omega)] at u3
                  have inv : InvT S n1 n2 (n2 - (i + 1)) (S1.set (upd S1.ρ [(3, o3), (4, o4), (21, o21), (20, o20), (19, o19), (18, o18), (17, o17), (16, o16), (15, o15), (14, o14), (13, o13), (12, o12), (11, o11), (10, o10)]) [(60, (fun j => ifE j (S1.Φ 41 [S1.ρ 4]) (IntKind.u64.wrap ((S1.Φ 60 [(S1.Φ 41 [S1.ρ 4])]) + (S1.Φ 42 [S1.ρ 4]))) ((fun j => S1.Φ 60 [j]) j)))] 60 rfl hK) := ⟨i + 1, by omega, rfl, h1, h2, (show o4 = ((i + 1 : Nat) : Int) by omega), h5, h6, (show 0 ≤ o3 by omega), (show o3 ≤ ((i + 1 : Nat) : Int) by omega), (tell_t h41 c1 h_o21), hI, fun f hf l => (Sy.set_low hf).trans (hΦ f hf l)⟩
                  exact .inl ⟨_, _, (by omega : n2 - i = n2 - (i + 1) + 1), inv, _, [], _, 1000, _, [], (ai pt7 false d14 (ai pt6 true d13 (ai pt5 true d12 (ai pt11 false d11 (ai pt10 true d10 (ai pt9 true d9 (ai pt8 false d8 (ai pt4 false d7 (ai pt15 true d6 (ai pt13 false d5 (ai pt12 false d4 (ai pt3 false d3 (ai pt2 true d2 (ai pt1 true d1 (ai pt0 true d0 (AlOk.nil _)))))))))))))))), hcs, LkOk.no _ _ _ _, (av 1 .i64 (av 2 .i64 (an 3 (.bin .add (.var .i64 3) (.lit .i64 1)) (sm h_o3.symm) (an 4 (.bin .add (.var .i64 4) (.lit .i64 1)) (sm h_o4.symm) (av 5 .i64 (ar 60 (ar_upd (.app .i64 41 (.cons (.var .i64 4) .nil)) (.bin .add (.app .u64 60 (.cons (.app .i64 41 (.cons (.var .i64 4) .nil)) .nil)) (.app .u64 42 (.cons (.var .i64 4) .nil))) (i := (S1.Φ 41 [S1.ρ 4])) (v := (IntKind.u64.wrap ((S1.Φ 60 [(S1.Φ 41 [S1.ρ 4])]) + (S1.Φ 42 [S1.ρ 4])))) rfl rfl (by kernel_rfl) (ar_var 60)) (av 6 .i64 (ar 61 (ar_var 61) (av 6 .i64 (av 5 .i64 (an 21 (.blit true) (sm h_o21.symm) (an 20 (.app .i64 30 (.cons (.var .i64 4) .nil)) (sm h_o20.symm) (an 19 (.app .i64 29 (.cons (.var .i64 4) .nil)) (sm h_o19.symm) (an 18 (.app .i64 28 (.cons (.var .i64 4) .nil)) (sm h_o18.symm) (an 17 (.app .u64 27 (.cons (.var .i64 4) .nil)) (sm h_o17.symm) (an 16 (.app .u64 26 (.cons (.var .i64 4) .nil)) (sm h_o16.symm) (an 15 (.app .u64 25 (.cons (.var .i64 4) .nil)) (sm h_o15.symm) (an 14 (.app .u64 24 (.cons (.var .i64 4) .nil)) (sm h_o14.symm) (an 13 (.app .u64 23 (.cons (.var .i64 4) .nil)) (sm h_o13.symm) (an 12 (.app .u8 22 (.cons (.var .i64 4) .nil)) (sm h_o12.symm) (an 11 (.app .i64 21 (.cons (.var .i64 4) .nil)) (sm h_o11.symm) (an 10 (.app .i64 20 (.cons (.var .i64 4) .nil)) (sm h_o10.symm) (an 3 (.bin .add (.var .i64 3) (.lit .i64 1)) (sm h_o3.symm) (av 5 .i64 (ar 60 (ar_upd (.app .i64 41 (.cons (.var .i64 4) .nil)) (.bin .add (.app .u64 60 (.cons (.app .i64 41 (.cons (.var .i64 4) .nil)) .nil)) (.app .u64 42 (.cons (.var .i64 4) .nil))) (i := (S1.Φ 41 [S1.ρ 4])) (v := (IntKind.u64.wrap ((S1.Φ 60 [(S1.Φ 41 [S1.ρ 4])]) + (S1.Φ 42 [S1.ρ 4])))) rfl rfl (by kernel_rfl) (ar_var 60)) (av 6 .i64 (ar 61 (ar_var 61) (av 6 .i64 (av 5 .i64 (an 3 (.bin .add (.var .i64 3) (.lit .i64 1)) (sm h_o3.symm) (asg_nil rfl))))))))))))))))))))))))))))))), fun G => by kernel_rfl⟩
                · have d8 : pt8.den S1 = some [b2i true] := tr (p := S1.ρ 5 ≤ (S1.Φ 41 [S1.ρ 4])) (Int.not_lt.1 c8)
                  have c9 : ¬ ((S1.Φ 40 [S1.ρ 4]) < (1 : Int)) := by omega
                  have d9 : pt5.den S1 = some [b2i true] := tr (p := (1 : Int) ≤ (S1.Φ 40 [S1.ρ 4])) (Int.not_lt.1 c9)
                  have c10 : ¬ ((6 : Int) < (S1.Φ 40 [S1.ρ 4])) := by omega
                  have d10 : pt6.den S1 = some [b2i true] := tr (p := (S1.Φ 40 [S1.ρ 4]) ≤ (6 : Int)) (Int.not_lt.1 c10)
                  have c11 : (IntKind.i64.wrap (S1.ρ 3 + (1 : Int))) = (IntKind.i64.wrap (S1.ρ 3 + (1 : Int))) := rfl
                  have d11 : pt7.den S1 = some [b2i false] := fls (p := (IntKind.i64.wrap (S1.ρ 3 + (1 : Int))) ≠ (IntKind.i64.wrap (S1.ρ 3 + (1 : Int)))) (fun hh => hh c11)
                  obtain ⟨o3, h_o3⟩ : ∃ o : Int, o = (IntKind.i64.wrap (S1.ρ 3 + (1 : Int))) := ⟨_, rfl⟩
                  obtain ⟨o4, h_o4⟩ : ∃ o : Int, o = (IntKind.i64.wrap (S1.ρ 4 + (1 : Int))) := ⟨_, rfl⟩
                  obtain ⟨o21, h_o21⟩ : ∃ o : Int, o = (b2i true) := ⟨_, rfl⟩
                  obtain ⟨o20, h_o20⟩ : ∃ o : Int, o = (S1.Φ 30 [S1.ρ 4]) := ⟨_, rfl⟩
                  obtain ⟨o19, h_o19⟩ : ∃ o : Int, o = (S1.Φ 29 [S1.ρ 4]) := ⟨_, rfl⟩
                  obtain ⟨o18, h_o18⟩ : ∃ o : Int, o = (S1.Φ 28 [S1.ρ 4]) := ⟨_, rfl⟩
                  obtain ⟨o17, h_o17⟩ : ∃ o : Int, o = (S1.Φ 27 [S1.ρ 4]) := ⟨_, rfl⟩
                  obtain ⟨o16, h_o16⟩ : ∃ o : Int, o = (S1.Φ 26 [S1.ρ 4]) := ⟨_, rfl⟩
                  obtain ⟨o15, h_o15⟩ : ∃ o : Int, o = (S1.Φ 25 [S1.ρ 4]) := ⟨_, rfl⟩
                  obtain ⟨o14, h_o14⟩ : ∃ o : Int, o = (S1.Φ 24 [S1.ρ 4]) := ⟨_, rfl⟩
                  obtain ⟨o13, h_o13⟩ : ∃ o : Int, o = (S1.Φ 23 [S1.ρ 4]) := ⟨_, rfl⟩
                  obtain ⟨o12, h_o12⟩ : ∃ o : Int, o = (S1.Φ 22 [S1.ρ 4]) := ⟨_, rfl⟩
                  obtain ⟨o11, h_o11⟩ : ∃ o : Int, o = (S1.Φ 21 [S1.ρ 4]) := ⟨_, rfl⟩
                  obtain ⟨o10, h_o10⟩ : ∃ o : Int, o = (S1.Φ 20 [S1.ρ 4]) := ⟨_, rfl⟩
                  have u4 := h_o4
                  rw [w_i64 (by omega) (by omega)] at u4
                  have u3 := h_o3
                  rw [w_i64 (by omega) (by omega)] at u3
                  have inv : InvT S n1 n2 (n2 - (i + 1)) (S1.set (upd S1.ρ [(3, o3), (4, o4), (21, o21), (20, o20), (19, o19), (18, o18), (17, o17), (16, o16), (15, o15), (14, o14), (13, o13), (12, o12), (11, o11), (10, o10)]) [] 60 rfl hK) := ⟨i + 1, by omega, rfl, h1, h2, (show o4 = ((i + 1 : Nat) : Int) by omega), h5, h6, (show 0 ≤ o3 by omega), (show o3 ≤ ((i + 1 : Nat) : Int) by omega), (tell_t h41 c1 h_o21), hI, fun f hf l => (Sy.set_low hf).trans (hΦ f hf l)⟩
                  exact .inl ⟨_, _, (by omega : n2 - i = n2 - (i + 1) + 1), inv, _, [], _, 1000, _, [], (ai pt7 false d11 (ai pt6 true d10 (ai pt5 true d9 (ai pt8 true d8 (ai pt4 false d7 (ai pt15 true d6 (ai pt13 false d5 (ai pt12 false d4 (ai pt3 false d3 (ai pt2 true d2 (ai pt1 true d1 (ai pt0 true d0 (AlOk.nil _))))))))))))), hcs, LkOk.no _ _ _ _, (av 1 .i64 (av 2 .i64 (an 3 (.bin .add (.var .i64 3) (.lit .i64 1)) (sm h_o3.symm) (an 4 (.bin .add (.var .i64 4) (.lit .i64 1)) (sm h_o4.symm) (av 5 .i64 (ar 60 (ar_var 60) (av 6 .i64 (ar 61 (ar_var 61) (av 6 .i64 (av 5 .i64 (an 21 (.blit true) (sm h_o21.symm) (an 20 (.app .i64 30 (.cons (.var .i64 4) .nil)) (sm h_o20.symm) (an 19 (.app .i64 29 (.cons (.var .i64 4) .nil)) (sm h_o19.symm) (an 18 (.app .i64 28 (.cons (.var .i64 4) .nil)) (sm h_o18.symm) (an 17 (.app .u64 27 (.cons (.var .i64 4) .nil)) (sm h_o17.symm) (an 16 (.app .u64 26 (.cons (.var .i64 4) .nil)) (sm h_o16.symm) (an 15 (.app .u64 25 (.cons (.var .i64 4) .nil)) (sm h_o15.symm) (an 14 (.app .u64 24 (.cons (.var .i64 4) .nil)) (sm h_o14.symm) (an 13 (.app .u64 23 (.cons (.var .i64 4) .nil)) (sm h_o13.symm) (an 12 (.app .u8 22 (.cons (.var .i64 4) .nil)) (sm h_o12.symm) (an 11 (.app .i64 21 (.cons (.var .i64 4) .nil)) (sm h_o11.symm) (an 10 (.app .i64 20 (.cons (.var .i64 4) .nil)) (sm h_o10.symm) (an 3 (.bin .add (.var .i64 3) (.lit .i64 1)) (sm h_o3.symm) (av 5 .i64 (ar 60 (ar_var 60) (av 6 .i64 (ar 61 (ar_var 61) (av 6 .i64 (av 5 .i64 (an 3 (.bin .add (.var .i64 3) (.lit .i64 1)) (sm h_o3.symm) (asg_nil rfl))))))))))))))))))))))))))))))), fun G => by kernel_rfl⟩
            · have d6 : pt15.den S1 = some [b2i false] := fls (p := (S1.Φ 40 [S1.ρ 4]) = (4 : Int)) c6
              by_cases c7 : (S1.Φ 40 [S1.ρ 4]) = (5 : Int)
              · have d7 : pt16.den S1 = some [b2i true] := tr (p := (S1.Φ 40 [S1.ρ 4]) = (5 : Int)) c7
                by_cases c8 : (S1.Φ 41 [S1.ρ 4]) < (0 : Int)
                · have d8 : pt4.den S1 = some [b2i true] := tr (p := (S1.Φ 41 [S1.ρ 4]) < (0 : Int)) c8
                  have c9 : ¬ ((S1.Φ 40 [S1.ρ 4]) < (1 : Int)) := by omega
                  have d9 : pt5.den S1 = some [b2i true] := tr (p := (1 : Int) ≤ (S1.Φ 40 [S1.ρ 4])) (Int.not_lt.1 c9)
                  have c10 : ¬ ((6 : Int) < (S1.Φ 40 [S1.ρ 4])) := by omega
                  have d10 : pt6.den S1 = some [b2i true] := tr (p := (S1.Φ 40 [S1.ρ 4]) ≤ (6 : Int)) (Int.not_lt.1 c10)
                  have c11 : (IntKind.i64.wrap (S1.ρ 3 + (1 : Int))) = (IntKind.i64.wrap (S1.ρ 3 + (1 : Int))) := rfl
                  have d11 : pt7.den S1 = some [b2i false] := fls (p := (IntKind.i64.wrap (S1.ρ 3 + (1 : Int))) ≠ (IntKind.i64.wrap (S1.ρ 3 + (1 : Int)))) (fun hh => hh c11)
                  obtain ⟨o3, h_o3⟩ : ∃ o : Int, o = (IntKind.i64.wrap (S1.ρ 3 + (1 : Int))) := ⟨_, rfl⟩
                  obtain ⟨o4, h_o4⟩ : ∃ o : Int, o = (IntKind.i64.wrap (S1.ρ 4 + (1 : Int))) := ⟨_, rfl⟩
                  obtain ⟨o21, h_o21⟩ : ∃ o : Int, o = (b2i true) := ⟨_, rfl⟩
                  obtain ⟨o20, h_o20⟩ : ∃ o : Int, o = (S1.Φ 30 [S1.ρ 4]) := ⟨_, rfl⟩
                  obtain ⟨o19, h_o19⟩ : ∃ o : Int, o = (S1.Φ 29 [S1.ρ 4]) := ⟨_, rfl⟩
                  obtain ⟨o18, h_o18⟩ : ∃ o : Int, o = (S1.Φ 28 [S1.ρ 4]) := ⟨_, rfl⟩
                  obtain ⟨o17, h_o17⟩ : ∃ o : Int, o = (S1.Φ 27 [S1.ρ 4]) := ⟨_, rfl⟩
                  obtain ⟨o16, h_o16⟩ : ∃ o : Int, o = (S1.Φ 26 [S1.ρ 4]) := ⟨_, rfl⟩
                  obtain ⟨o15, h_o15⟩ : ∃ o : Int, o = (S1.Φ 25 [S1.ρ 4]) := ⟨_, rfl⟩
                  obtain ⟨o14, h_o14⟩ : ∃ o : Int, o = (S1.Φ 24 [S1.ρ 4]) := ⟨_, rfl⟩
                  obtain ⟨o13, h_o13⟩ : ∃ o : Int, o = (S1.Φ 23 [S1.ρ 4]) := ⟨_, rfl⟩
                  obtain ⟨o12, h_o12⟩ : ∃ o : Int, o = (S1.Φ 22 [S1.ρ 4]) := ⟨_, rfl⟩
                  obtain ⟨o11, h_o11⟩ : ∃ o : Int, o = (S1.Φ 21 [S1.ρ 4]) := ⟨_, rfl⟩
                  obtain ⟨o10, h_o10⟩ : ∃ o : Int, o = (S1.Φ 20 [S1.ρ 4]) := ⟨_, rfl⟩
                  have u4 := h_o4
                  rw [w_i64 (by omega) (by omega)] at u4
                  have u3 := h_o3
                  rw [w_i64 (by omega) (by omega)] at u3
                  have inv : InvT S n1 n2 (n2 - (i + 1)) (S1.set (upd S1.ρ [(3, o3), (4, o4), (21, o21), (20, o20), (19, o19), (18, o18), (17, o17), (16, o16), (15, o15), (14, o14), (13, o13), (12, o12), (11, o11), (10, o10)]) [] 60 rfl hK) := ⟨i + 1, by omega, rfl, h1, h2, (show o4 = ((i + 1 : Nat) : Int) by omega), h5, h6, (show 0 ≤ o3 by omega), (show o3 ≤ ((i + 1 : Nat) : Int) by omega), (tell_t h41 c1 h_o21), hI, fun f hf l => (Sy.set_low hf).trans (hΦ f hf l)⟩
                  exact .inl ⟨_, _, (by omega : n2 - i = n2 - (i + 1) + 1), inv, _, [], _, 1000, _, [], (ai pt7 false d11 (ai pt6 true d10 (ai pt5 true d9 (ai pt4 true d8 (ai pt16 true d7 (ai pt15 false d6 (ai pt13 false d5 (ai pt12 false d4 (ai pt3 false d3 (ai pt2 true d2 (ai pt1 true d1 (ai pt0 true d0 (AlOk.nil _))))))))))))), hcs, LkOk.no _ _ _ _, (av 1 .i64 (av 2 .i64 (an 3 (.bin .add (.var .i64 3) (.lit .i64 1)) (sm h_o3.symm) (an 4 (.bin .add (.var .i64 4) (.lit .i64 1)) (sm h_o4.symm) (av 5 .i64 (ar 60 (ar_var 60) (av 6 .i64 (ar 61 (ar_var 61) (av 6 .i64 (av 5 .i64 (an 21 (.blit true) (sm h_o21.symm) (an 20 (.app .i64 30 (.cons (.var .i64 4) .nil)) (sm h_o20.symm) (an 19 (.app .i64 29 (.cons (.var .i64 4) .nil)) (sm h_o19.symm) (an 18 (.app .i64 28 (.cons (.var .i64 4) .nil)) (sm h_o18.symm) (an 17 (.app .u64 27 (.cons (.var .i64 4) .nil)) (sm h_o17.symm) (an 16 (.app .u64 26 (.cons (.var .i64 4) .nil)) (sm h_o16.symm) (an 15 (.app .u64 25 (.cons (.var .i64 4) .nil)) (sm h_o15.symm) (an 14 (.app .u64 24 (.cons (.var .i64 4) .nil)) (sm h_o14.symm) (an 13 (.app .u64 23 (.cons (.var .i64 4) .nil)) (sm h_o13.symm) (an 12 (.app .u8 22 (.cons (.var .i64 4) .nil)) (sm h_o12.symm) (an 11 (.app .i64 21 (.cons (.var .i64 4) .nil)) (sm h_o11.symm) (an 10 (.app .i64 20 (.cons (.var .i64 4) .nil)) (sm h_o10.symm) (an 3 (.bin .add (.var .i64 3) (.lit .i64 1)) (sm h_o3.symm) (av 5 .i64 (ar 60 (ar_var 60) (av 6 .i64 (ar 61 (ar_var 61) (av 6 .i64 (av 5 .i64 (an 3 (.bin .add (.var .i64 3) (.lit .i64 1)) (sm h_o3.symm) (asg_nil rfl))))))))))))))))))))))))))))))), fun G => by kernel_rfl⟩
                · have d8 : pt4.den S1 = some [b2i false] := fls (p := (S1.Φ 41 [S1.ρ 4]) < (0 : Int)) c8
                  by_cases c9 : (S1.Φ 41 [S1.ρ 4]) < S1.ρ 6
                  · have d9 : pt17.den S1 = some [b2i false] := fls (p := S1.ρ 6 ≤ (S1.Φ 41 [S1.ρ 4])) (Int.not_le.2 c9)
                    have d10 : pt9.den S1 = some [b2i true] := tr (p := (0 : Int) ≤ (S1.Φ 41 [S1.ρ 4])) (Int.not_lt.1 c8)
                    have d11 : pt18.den S1 = some [b2i true] := tr (p := (S1.Φ 41 [S1.ρ 4]) < S1.ρ 6) c9
                    have c12 : (IntKind.u64.wrap ((IntKind.u8.wrap ((IntKind.u64.wrap ((S1.Φ 61 [(S1.Φ 41 [S1.ρ 4])]))))))) = (IntKind.u64.wrap ((IntKind.u8.wrap ((IntKind.u64.wrap ((S1.Φ 61 [(S1.Φ 41 [S1.ρ 4])]))))))) := rfl
                    have d12 : pt19.den S1 = some [b2i false] := fls (p := (IntKind.u64.wrap ((IntKind.u8.wrap ((IntKind.u64.wrap ((S1.Φ 61 [(S1.Φ 41 [S1.ρ 4])]))))))) ≠ (IntKind.u64.wrap ((IntKind.u8.wrap ((IntKind.u64.wrap ((S1.Φ 61 [(S1.Φ 41 [S1.ρ 4])])))))))) (fun hh => hh c12)
                    have c13 : ¬ ((S1.Φ 40 [S1.ρ 4]) < (1 : Int)) := by omega
                    have d13 : pt5.den S1 = some [b2i true] := tr (p := (1 : Int) ≤ (S1.Φ 40 [S1.ρ 4])) (Int.not_lt.1 c13)
                    have c14 : ¬ ((6 : Int) < (S1.Φ 40 [S1.ρ 4])) := by omega
                    have d14 : pt6.den S1 = some [b2i true] := tr (p := (S1.Φ 40 [S1.ρ 4]) ≤ (6 : Int)) (Int.not_lt.1 c14)
                    have c15 : (IntKind.i64.wrap (S1.ρ 3 + (1 : Int))) = (IntKind.i64.wrap (S1.ρ 3 + (1 : Int))) := rfl
                    have d15 : pt7.den S1 = some [b2i false] := fls (p := (IntKind.i64.wrap (S1.ρ 3 + (1 : Int))) ≠ (IntKind.i64.wrap (S1.ρ 3 + (1 : Int)))) (fun hh => hh c15)
                    obtain ⟨o3, h_o3⟩ : ∃ o : Int, o = (IntKind.i64.wrap (S1.ρ 3 + (1 : Int))) := ⟨_, rfl⟩
                    obtain ⟨o4, h_o4⟩ : ∃ o : Int, o = (IntKind.i64.wrap (S1.ρ 4 + (1 : Int))) := ⟨_, rfl⟩
                    obtain ⟨o21, h_o21⟩ : ∃ o : Int, o = (b2i true) := ⟨_, rfl⟩
                    obtain ⟨o20, h_o20⟩ : ∃ o : Int, o = (S1.Φ 30 [S1.ρ 4]) := ⟨_, rfl⟩
                    obtain ⟨o19, h_o19⟩ : ∃ o : Int, o = (S1.Φ 29 [S1.ρ 4]) := ⟨_, rfl⟩
                    obtain ⟨o18, h_o18⟩ : ∃ o : Int, o = (S1.Φ 28 [S1.ρ 4]) := ⟨_, rfl⟩
                    obtain ⟨o17, h_o17⟩ : ∃ o : Int, o = (S1.Φ 27 [S1.ρ 4]) := ⟨_, rfl⟩
                    obtain ⟨o16, h_o16⟩ : ∃ o : Int, o = (S1.Φ 26 [S1.ρ 4]) := ⟨_, rfl⟩
                    obtain ⟨o15, h_o15⟩ : ∃ o : Int, o = (S1.Φ 25 [S1.ρ 4]) := ⟨_, rfl⟩
                    obtain ⟨o14, h_o14⟩ : ∃ o : Int, o = (S1.Φ 24 [S1.ρ 4]) := ⟨_, rfl⟩
                    obtain ⟨o13, h_o13⟩ : ∃ o : Int, o = (S1.Φ 23 [S1.ρ 4]) := ⟨_, rfl⟩
                    obtain ⟨o12, h_o12⟩ : ∃ o : Int, o = (S1.Φ 22 [S1.ρ 4]) := ⟨_, rfl⟩
                    obtain ⟨o11, h_o11⟩ : ∃ o : Int, o = (S1.Φ 21 [S1.ρ 4]) := ⟨_, rfl⟩
                    obtain ⟨o10, h_o10⟩ : ∃ o : Int, o = (S1.Φ 20 [S1.ρ 4]) := ⟨_, rfl⟩
                    have u4 := h_o4
                    rw [w_i64 (by omega) (by omega)] at u4
                    have u3 := h_o3
                    rw [w_i64 (by omega) (by omega)] at u3
                    have inv : InvT S n1 n2 (n2 - (i + 1)) (S1.set (upd S1.ρ [(3, o3), (4, o4), (21, o21), (20, o20), (19, o19), (18, o18), (17, o17), (16, o16), (15, o15), (14, o14), (13, o13), (12, o12), (11, o11), (10, o10)]) [] 60 rfl hK) := ⟨i + 1, by omega, rfl, h1, h2, (show o4 = ((i + 1 : Nat) : Int) by omega), h5, h6, (show 0 ≤ o3 by omega), (show o3 ≤ ((i + 1 : Nat) : Int) by omega), (tell_t h41 c1 h_o21), hI, fun f hf l => (Sy.set_low hf).trans (hΦ f hf l)⟩
                    exact .inl ⟨_, _, (by omega : n2 - i = n2 - (i + 1) + 1), inv, _, [], _, 1000, _, [], (ai pt7 false d15 (ai pt6 true d14 (ai pt5 true d13 (ai pt19 false d12 (ai pt18 true d11 (ai pt9 true d10 (ai pt17 false d9 (ai pt4 false d8 (ai pt16 true d7 (ai pt15 false d6 (ai pt13 false d5 (ai pt12 false d4 (ai pt3 false d3 (ai pt2 true d2 (ai pt1 true d1 (ai pt0 true d0 (AlOk.nil _))))))))))))))))), hcs, LkOk.no _ _ _ _, (av 1 .i64 (av 2 .i64 (an 3 (.bin .add (.var .i64 3) (.lit .i64 1)) (sm h_o3.symm) (an 4 (.bin .add (.var .i64 4) (.lit .i64 1)) (sm h_o4.symm) (av 5 .i64 (ar 60 (ar_var 60) (av 6 .i64 (ar 61 (ar_var 61) (av 6 .i64 (av 5 .i64 (an 21 (.blit true) (sm h_o21.symm) (an 20 (.app .i64 30 (.cons (.var .i64 4) .nil)) (sm h_o20.symm) (an 19 (.app .i64 29 (.cons (.var .i64 4) .nil)) (sm h_o19.symm) (an 18 (.app .i64 28 (.cons (.var .i64 4) .nil)) (sm h_o18.symm) (an 17 (.app .u64 27 (.cons (.var .i64 4) .nil)) (sm h_o17.symm) (an 16 (.app .u64 26 (.cons (.var .i64 4) .nil)) (sm h_o16.symm) (an 15 (.app .u64 25 (.cons (.var .i64 4) .nil)) (sm h_o15.symm) (an 14 (.app .u64 24 (.cons (.var .i64 4) .nil)) (sm h_o14.symm) (an 13 (.app .u64 23 (.cons (.var .i64 4) .nil)) (sm h_o13.symm) (an 12 (.app .u8 22 (.cons (.var .i64 4) .nil)) (sm h_o12.symm) (an 11 (.app .i64 21 (.cons (.var .i64 4) .nil)) (sm h_o11.symm) (an 10 (.app .i64 20 (.cons (.var .i64 4) .nil)) (sm h_o10.symm) (an 3 (.bin .add (.var .i64 3) (.lit .i64 1)) (sm h_o3.symm) (av 5 .i64 (ar 60 (ar_var 60) (av 6 .i64 (ar 61 (ar_var 61) (av 6 .i64 (av 5 .i64 (an 3 (.bin .add (.var .i64 3) (.lit .i64 1)) (sm h_o3.symm) (asg_nil rfl))))))))))))))))))))))))))))))), fun G => by kernel_rfl⟩
                  · have d9 : pt17.den S1 = some [b2i true] := tr (p := S1.ρ 6 ≤ (S1.Φ 41 [S1.ρ 4])) (Int.not_lt.1 c9)
                    have c10 : ¬ ((S1.Φ 40 [S1.ρ 4]) < (1 : Int)) := by omega
                    have d10 : pt5.den S1 = some [b2i true] := tr (p := (1 : Int) ≤ (S1.Φ 40 [S1.ρ 4])) (Int.not_lt.1 c10)
                    have c11 : ¬ ((6 : Int) < (S1.Φ 40 [S1.ρ 4])) := by omega
                    have d11 : pt6.den S1 = some [b2i true] := tr (p := (S1.Φ 40 [S1.ρ 4]) ≤ (6 : Int)) (Int.not_lt.1 c11)
                    have c12 : (IntKind.i64.wrap (S1.ρ 3 + (1 : Int))) = (IntKind.i64.wrap (S1.ρ 3 + (1 : Int))) := rfl
                    have d12 : pt7.den S1 = some [b2i false] := fls (p := (IntKind.i64.wrap (S1.ρ 3 + (1 : Int))) ≠ (IntKind.i64.wrap (S1.ρ 3 + (1 : Int)))) (fun hh => hh c12)
                    obtain ⟨o3, h_o3⟩ : ∃ o : Int, o = (IntKind.i64.wrap (S1.ρ 3 + (1 : Int))) := ⟨_, rfl⟩
                    obtain ⟨o4, h_o4⟩ : ∃ o : Int, o = (IntKind.i64.wrap (S1.ρ 4 + (1 : Int))) := ⟨_, rfl⟩
                    obtain ⟨o21, h_o21⟩ : ∃ o : Int, o = (b2i true) := ⟨_, rfl⟩
                    obtain ⟨o20, h_o20⟩ : ∃ o : Int, o = (S1.Φ 30 [S1.ρ 4]) := ⟨_, rfl⟩
                    obtain ⟨o19, h_o19⟩ : ∃ o : Int, o = (S1.Φ 29 [S1.ρ 4]) := ⟨_, rfl⟩
                    obtain ⟨o18, h_o18⟩ : ∃ o : Int, o = (S1.Φ 28 [S1.ρ 4]) := ⟨_, rfl⟩
                    obtain ⟨o17, h_o17⟩ : ∃ o : Int, o = (S1.Φ 27 [S1.ρ 4]) := ⟨_, rfl⟩
                    obtain ⟨o16, h_o16⟩ : ∃ o : Int, o = (S1.Φ 26 [S1.ρ 4]) := ⟨_, rfl⟩
                    obtain ⟨o15, h_o15⟩ : ∃ o : Int, o = (S1.Φ 25 [S1.ρ 4]) := ⟨_, rfl⟩
                    obtain ⟨o14, h_o14⟩ : ∃ o : Int, o = (S1.Φ 24 [S1.ρ 4]) := ⟨_, rfl⟩
                    obtain ⟨o13, h_o13⟩ : ∃ o : Int, o = (S1.Φ 23 [S1.ρ 4]) := ⟨_, rfl⟩
                    obtain ⟨o12, h_o12⟩ : ∃ o : Int, o = (S1.Φ 22 [S1.ρ 4]) := ⟨_, rfl⟩
                    obtain ⟨o11, h_o11⟩ : ∃ o : Int, o = (S1.Φ 21 [S1.ρ 4]) := ⟨_, rfl⟩
                    obtain ⟨o10, h_o10⟩ : ∃ o : Int, o = (S1.Φ 20 [S1.ρ 4]) := ⟨_, rfl⟩
                    have u4 := h_o4
                    rw [w_i64 (by omega) (by omega)] at u4
                    have u3 := h_o3
                    rw [w_i64 (by omega) (by omega)] at u3
                    have inv : InvT S n1 n2 (n2 - (i + 1)) (S1.set (upd S1.ρ [(3, o3), (4, o4), (21, o21), (20, o20), (19, o19), (18, o18), (17, o17), (16, o16), (15, o15), (14, o14), (13, o13), (12, o12), (11, o11), (10, o10)]) [] 60 rfl hK) := ⟨i + 1, by omega, rfl, h1, h2, (show o4 = ((i + 1 : Nat) : Int) by omega), h5, h6, (show 0 ≤ o3 by omega), (show o3 ≤ ((i + 1 : Nat) : Int) by omega), (tell_t h41 c1 h_o21), hI, fun f hf l => (Sy.set_low hf).trans (hΦ f hf l)⟩
                    exact .inl ⟨_, _, (by omega : n2 - i = n2 - (i + 1) + 1), inv, _, [], _, 1000, _, [], (ai pt7 false d12 (ai pt6 true d11 (ai pt5 true d10 (ai pt17 true d9 (ai pt4 false d8 (ai pt16 true d7 (ai pt15 false d6 (ai pt13 false d5 (ai pt12 false d4 (ai pt3 false d3 (ai pt2 true d2 (ai pt1 true d1 (ai pt0 true d0 (AlOk.nil _)))))))))))))), hcs, LkOk.no _ _ _ _, (av 1 .i64 (av 2 .i64 (an 3 (.bin .add (.var .i64 3) (.lit .i64 1)) (sm h_o3.symm) (an 4 (.bin .add (.var .i64 4) (.lit .i64 1)) (sm h_o4.symm) (av 5 .i64 (ar 60 (ar_var 60) (av 6 .i64 (ar 61 (ar_var 61) (av 6 .i64 (av 5 .i64 (an 21 (.blit true) (sm h_o21.symm) (an 20 (.app .i64 30 (.cons (.var .i64 4) .nil)) (sm h_o20.symm) (an 19 (.app .i64 29 (.cons (.var .i64 4) .nil)) (sm h_o19.symm) (an 18 (.app .i64 28 (.cons (.var .i64 4) .nil)) (sm h_o18.symm) (an 17 (.app .u64 27 (.cons (.var .i64 4) .nil)) (sm h_o17.symm) (an 16 (.app .u64 26 (.cons (.var .i64 4) .nil)) (sm h_o16.symm) (an 15 (.app .u64 25 (.cons (.var .i64 4) .nil)) (sm h_o15.symm) (an 14 (.app .u64 24 (.cons (.var .i64 4) .nil)) (sm h_o14.symm) (an 13 (.app .u64 23 (.cons (.var .i64 4) .nil)) (sm h_o13.symm) (an 12 (.app .u8 22 (.cons (.var .i64 4) .nil)) (sm h_o12.symm) (an 11 (.app .i64 21 (.cons (.var .i64 4) .nil)) (sm h_o11.symm) (an 10 (.app .i64 20 (.cons (.var .i64 4) .nil)) (sm h_o10.symm) (an 3 (.bin .add (.var .i64 3) (.lit .i64 1)) (sm h_o3.symm) (av 5 .i64 (ar 60 (ar_var 60) (av 6 .i64 (ar 61 (ar_var 61) (av 6 .i64 (av 5 .i64 (an 3 (.bin .add (.var .i64 3) (.lit .i64 1)) (sm h_o3.symm) (asg_nil rfl))))))))))))))))))))))))))))))), fun G => by kernel_rfl⟩
              · have d7 : pt16.den S1 = some [b2i false] := fls (p := (S1.Φ 40 [S1.ρ 4]) = (5 : Int)) c7
                by_cases c8 : (S1.Φ 40 [S1.ρ 4]) = (6 : Int)
                · have d8 : pt20.den S1 = some [b2i true] := tr (p := (S1.Φ 40 [S1.ρ 4]) = (6 : Int)) c8
                  by_cases c9 : (S1.Φ 41 [S1.ρ 4]) < (0 : Int)
                  · have d9 : pt4.den S1 = some [b2i true] := tr (p := (S1.Φ 41 [S1.ρ 4]) < (0 : Int)) c9
                    have c10 : ¬ ((S1.Φ 40 [S1.ρ 4]) < (1 : Int)) := by omega
                    have d10 : pt5.den S1 = some [b2i true] := tr (p := (1 : Int) ≤ (S1.Φ 40 [S1.ρ 4])) (Int.not_lt.1 c10)
                    have c11 : ¬ ((6 : Int) < (S1.Φ 40 [S1.ρ 4])) := by omega
                    have d11 : pt6.den S1 = some [b2i true] := tr (p := (S1.Φ 40 [S1.ρ 4]) ≤ (6 : Int)) (Int.not_lt.1 c11)
                    have c12 : (IntKind.i64.wrap (S1.ρ 3 + (1 : Int))) = (IntKind.i64.wrap (S1.ρ 3 + (1 : Int))) := rfl
                    have d12 : pt7.den S1 = some [b2i false] := fls (p := (IntKind.i64.wrap (S1.ρ 3 + (1 : Int))) ≠ (IntKind.i64.wrap (S1.ρ 3 + (1 : Int)))) (fun hh => hh c12)
                    obtain ⟨o3, h_o3⟩ : ∃ o : Int, o = (IntKind.i64.wrap (S1.ρ 3 + (1 : Int))) := ⟨_, rfl⟩
                    obtain ⟨o4, h_o4⟩ : ∃ o : Int, o = (IntKind.i64.wrap (S1.ρ 4 + (1 : Int))) := ⟨_, rfl⟩
                    obtain ⟨o21, h_o21⟩ : ∃ o : Int, o = (b2i true) := ⟨_, rfl⟩
                    obtain ⟨o20, h_o20⟩ : ∃ o : Int, o = (S1.Φ 30 [S1.ρ 4]) := ⟨_, rfl⟩
                    obtain ⟨o19, h_o19⟩ : ∃ o : Int, o = (S1.Φ 29 [S1.ρ 4]) := ⟨_, rfl⟩
                    obtain ⟨o18, h_o18⟩ : ∃ o : Int, o = (S1.Φ 28 [S1.ρ 4]) := ⟨_, rfl⟩
                    obtain ⟨o17, h_o17⟩ : ∃ o : Int, o = (S1.Φ 27 [S1.ρ 4]) := ⟨_, rfl⟩
                    obtain ⟨o16, h_o16⟩ : ∃ o : Int, o = (S1.Φ 26 [S1.ρ 4]) := ⟨_, rfl⟩
                    obtain ⟨o15, h_o15⟩ : ∃ o : Int, o = (S1.Φ 25 [S1.ρ 4]) := ⟨_, rfl⟩
                    obtain ⟨o14, h_o14⟩ : ∃ o : Int, o = (S1.Φ 24 [S1.ρ 4]) := ⟨_, rfl⟩
                    obtain ⟨o13, h_o13⟩ : ∃ o : Int, o = (S1.Φ 23 [S1.ρ 4]) := ⟨_, rfl⟩
                    obtain ⟨o12, h_o12⟩ : ∃ o : Int, o = (S1.Φ 22 [S1.ρ 4]) := ⟨_, rfl⟩
                    obtain ⟨o11, h_o11⟩ : ∃ o : Int, o = (S1.Φ 21 [S1.ρ 4]) := ⟨_, rfl⟩
                    obtain ⟨o10, h_o10⟩ : ∃ o : Int, o = (S1.Φ 20 [S1.ρ 4]) := ⟨_, rfl⟩
                    have u4 := h_o4
                    rw [w_i64 (by omega) (by omega)] at u4
                    have u3 := h_o3
                    rw [w_i64 (by omega) (by omega)] at u3
                    have inv : InvT S n1 n2 (n2 - (i + 1)) (S1.set (upd S1.ρ [(3, o3), (4, o4), (21, o21), (20, o20), (19, o19), (18, o18), (17, o17), (16, o16), (15, o15), (14, o14), (13, o13), (12, o12), (11, o11), (10, o10)]) [] 60 rfl hK) := ⟨i + 1, by omega, rfl, h1, h2, (show o4 = ((i + 1 : Nat) : Int) by omega), h5, h6, (show 0 ≤ o3 by omega), (show o3 ≤ ((i + 1 : Nat) : Int) by omega), (tell_t h41 c1 h_o21), hI, fun f hf l => (Sy.set_low hf).trans (hΦ f hf l)⟩
                    exact .inl ⟨_, _, (by omega : n2 - i = n2 - (i + 1) + 1), inv, _, [], _, 1000, _, [], (ai pt7 false d12 (ai pt6 true d11 (ai pt5 true d10 (ai pt4 true d9 (ai pt20 true d8 (ai pt16 false d7 (ai pt15 false d6 (ai pt13 false d5 (ai pt12 false d4 (ai pt3 false d3 (ai pt2 true d2 (ai pt1 true d1 (ai pt0 true d0 (AlOk.nil _)))))))))))))), hcs, LkOk.no _ _ _ _, (av 1 .i64 (av 2 .i64 (an 3 (.bin .add (.var .i64 3) (.lit .i64 1)) (sm h_o3.symm) (an 4 (.bin .add (.var .i64 4) (.lit .i64 1)) (sm h_o4.symm) (av 5 .i64 (ar 60 (ar_var 60) (av 6 .i64 (ar 61 (ar_var 61) (av 6 .i64 (av 5 .i64 (an 21 (.blit true) (sm h_o21.symm) (an 20 (.app .i64 30 (.cons (.var .i64 4) .nil)) (sm h_o20.symm) (an 19 (.app .i64 29 (.cons (.var .i64 4) .nil)) (sm h_o19.symm) (an 18 (.app .i64 28 (.cons (.var .i64 4) .nil)) (sm h_o18.symm) (an 17 (.app .u64 27 (.cons (.var .i64 4) .nil)) (sm h_o17.symm) (an 16 (.app .u64 26 (.cons (.var .i64 4) .nil)) (sm h_o16.symm) (an 15 (.app .u64 25 (.cons (.var .i64 4) .nil)) (sm h_o15.symm) (an 14 (.app .u64 24 (.cons (.var .i64 4) .nil)) (sm h_o14.symm) (an 13 (.app .u64 23 (.cons (.var .i64 4) .nil)) (sm h_o13.symm) (an 12 (.app .u8 22 (.cons (.var .i64 4) .nil)) (sm h_o12.symm) (an 11 (.app .i64 21 (.cons (.var .i64 4) .nil)) (sm h_o11.symm) (an 10 (.app .i64 20 (.cons (.var .i64 4) .nil)) (sm h_o10.symm) (an 3 (.bin .add (.var .i64 3) (.lit .i64 1)) (sm h_o3.symm) (av 5 .i64 (ar 60 (ar_var 60) (av 6 .i64 (ar 61 (ar_var 61) (av 6 .i64 (av 5 .i64 (an 3 (.bin .add (.var .i64 3) (.lit .i64 1)) (sm h_o3.symm) (asg_nil rfl))))))))))))))))))))))))))))))), fun G => by kernel_rfl⟩
                  · have d9 : pt4.den S1 = some [b2i false] := fls (p := (S1.Φ 41 [S1.ρ 4]) < (0 : Int)) c9
                    by_cases c10 : (S1.Φ 41 [S1.ρ 4]) < S1.ρ 6
                    · have d10 : pt17.den S1 = some [b2i false] := fls (p := S1.ρ 6 ≤ (S1.Φ 41 [S1.ρ 4])) (Int.not_le.2 c10)
                      have d11 : pt9.den S1 = some [b2i true] := tr (p := (0 : Int) ≤ (S1.Φ 41 [S1.ρ 4])) (Int.not_lt.1 c9)
                      have d12 : pt18.den S1 = some [b2i true] := tr (p := (S1.Φ 41 [S1.ρ 4]) < S1.ρ 6) c10
                      have c13 : ¬ ((S1.Φ 40 [S1.ρ 4]) < (1 : Int)) := by omega
                      have d13 : pt5.den S1 = some [b2i true] := tr (p := (1 : Int) ≤ (S1.Φ 40 [S1.ρ 4])) (Int.not_lt.1 c13)
                      have c14 : ¬ ((6 : Int) < (S1.Φ 40 [S1.ρ 4])) := by omega
                      have d14 : pt6.den S1 = some [b2i true] := tr (p := (S1.Φ 40 [S1.ρ 4]) ≤ (6 : Int)) (Int.not_lt.1 c14)
                      have c15 : (IntKind.i64.wrap (S1.ρ 3 + (1 : Int))) = (IntKind.i64.wrap (S1.ρ 3 + (1 : Int))) := rfl
                      have d15 : pt7.den S1 = some [b2i false] := fls (p := (IntKind.i64.wrap (S1.ρ 3 + (1 : Int))) ≠ (IntKind.i64.wrap (S1.ρ 3 + (1 : Int)))) (fun hh => hh c15)
                      obtain ⟨o3, h_o3⟩ : ∃ o : Int, o = (IntKind.i64.wrap (S1.ρ 3 + (1 : Int))) := ⟨_, rfl⟩
                      obtain ⟨o4, h_o4⟩ : ∃ o : Int, o = (IntKind.i64.wrap (S1.ρ 4 + (1 : Int))) := ⟨_, rfl⟩
                      obtain ⟨o21, h_o21⟩ : ∃ o : Int, o = (b2i true) := ⟨_, rfl⟩
                      obtain ⟨o20, h_o20⟩ : ∃ o : Int, o = (S1.Φ 30 [S1.ρ 4]) := ⟨_, rfl⟩
                      obtain ⟨o19, h_o19⟩ : ∃ o : Int, o = (S1.Φ 29 [S1.ρ 4]) := ⟨_, rfl⟩
                      obtain ⟨o18, h_o18⟩ : ∃ o : Int, o = (S1.Φ 28 [S1.ρ 4]) := ⟨_, rfl⟩
                      obtain ⟨o17, h_o17⟩ : ∃ o : Int, o = (S1.Φ 27 [S1.ρ 4]) := ⟨_, rfl⟩
                      obtain ⟨o16, h_o16⟩ : ∃ o : Int, o = (S1.Φ 26 [S1.ρ 4]) := ⟨_, rfl⟩
                      obtain ⟨o15, h_o15⟩ : ∃ o : Int, o = (S1.Φ 25 [S1.ρ 4]) := ⟨_, rfl⟩
                      obtain ⟨o14, h_o14⟩ : ∃ o : Int, o = (S1.Φ 24 [S1.ρ 4]) := ⟨_, rfl⟩
                      obtain ⟨o13, h_o13⟩ : ∃ o : Int, o = (S1.Φ 23 [S1.ρ 4]) := ⟨_, rfl⟩
                      obtain ⟨o12, h_o12⟩ : ∃ o : Int, o = (S1.Φ 22 [S1.ρ 4]) := ⟨_, rfl⟩
                      obtain ⟨o11, h_o11⟩ : ∃ o : Int, o = (S1.Φ 21 [S1.ρ 4]) := ⟨_, rfl⟩
                      obtain ⟨o10, h_o10⟩ : ∃ o : Int, o = (S1.Φ 20 [S1.ρ 4]) := ⟨_, rfl⟩
                      have u4 := h_o4
                      rw [w_i64 (by omega) (by omega)] at u4
                      have u3 := h_o3
                      rw [w_i64 (by omega) (by omega)] at u3
                      have inv : InvT S n1 n2 (n2 - (i + 1)) (S1.set (upd S1.ρ [(3, o3), (4, o4), (21, o21), (20, o20), (19, o19), (18, o18), (17, o17), (16, o16), (15, o15), (14, o14), (13, o13), (12, o12), (11, o11), (10, o10)]) [(61, (fun j => ifE j (S1.Φ 41 [S1.ρ 4]) (IntKind.u8.wrap ((IntKind.u64.wrap ((IntKind.u8.wrap ((S1.Φ 42 [S1.ρ 4]))))))) ((fun j => S1.Φ 61 [j]) j)))] 60 rfl hK) := ⟨i + 1, by omega, rfl, h1, h2, (show o4 = ((i + 1 : Nat) : Int) by omega), h5, h6, (show 0 ≤ o3 by omega), (show o3 ≤ ((i + 1 : Nat) : Int) by omega), (tell_t h41 c1 h_o21), hI, fun f hf l => (Sy.set_low hf).trans (hΦ f hf l)⟩
                      exact .inl ⟨_, _, (by omega : n2 - i = n2 - (i + 1) + 1), inv, _, [], _, 1000, _, [], (ai pt7 false d15 (ai pt6 true d14 (ai pt5 true d13 (ai pt18 true d12 (ai pt9 true d11 (ai pt17 false d10 (ai pt4 false d9 (ai pt20 true d8 (ai pt16 false d7 (ai pt15 false d6 (ai pt13 false d5 (ai pt12 false d4 (ai pt3 false d3 (ai pt2 true d2 (ai pt1 true d1 (ai pt0 true d0 (AlOk.nil _))))))))))))))))), hcs, LkOk.no _ _ _ _, (av 1 .i64 (av 2 .i64 (an 3 (.bin .add (.var .i64 3) (.lit .i64 1)) (sm h_o3.symm) (an 4 (.bin .add (.var .i64 4) (.lit .i64 1)) (sm h_o4.symm) (av 5 .i64 (ar 60 (ar_var 60) (av 6 .i64 (ar 61 (ar_upd (.app .i64 41 (.cons (.var .i64 4) .nil)) (.conv .u8 (.conv .u64 (.conv .u8 (.app .u64 42 (.cons (.var .i64 4) .nil))))) (i := (S1.Φ 41 [S1.ρ 4])) (v := (IntKind.u8.wrap ((IntKind.u64.wrap ((IntKind.u8.wrap ((S1.Φ 42 [S1.ρ 4])))))))) rfl rfl (by kernel_rfl) (ar_var 61)) (av 6 .i64 (av 5 .i64 (an 21 (.blit true) (sm h_o21.symm) (an 20 (.app .i64 30 (.cons (.var .i64 4) .nil)) (sm h_o20.symm) (an 19 (.app .i64 29 (.cons (.var .i64 4) .nil)) (sm h_o19.symm) (an 18 (.app .i64 28 (.cons (.var .i64 4) .nil)) (sm h_o18.symm) (an 17 (.app .u64 27 (.cons (.var .i64 4) .nil)) (sm h_o17.symm) (an 16 (.app .u64 26 (.cons (.var .i64 4) .nil)) (sm h_o16.symm) (an 15 (.app .u64 25 (.cons (.var .i64 4) .nil)) (sm h_o15.symm) (an 14 (.app .u64 24 (.cons (.var .i64 4) .nil)) (sm h_o14.symm) (an 13 (.app .u64 23 (.cons (.var .i64 4) .nil)) (sm h_o13.symm) (an 12 (.app .u8 22 (.cons (.var .i64 4) .nil)) (sm h_o12.symm) (an 11 (.app .i64 21 (.cons (.var .i64 4) .nil)) (sm h_o11.symm) (an 10 (.app .i64 20 (.cons (.var .i64 4) .nil)) (sm h_o10.symm) (an 3 (.bin .add (.var .i64 3) (.lit .i64 1)) (sm h_o3.symm) (av 5 .i64 (ar 60 (ar_var 60) (av 6 .i64 (ar 61 (ar_upd (.app .i64 41 (.cons (.var .i64 4) .nil)) (.conv .u8 (.conv .u64 (.conv .u8 (.app .u64 42 (.cons (.var .i64 4) .nil))))) (i := (S1.Φ 41 [S1.ρ 4])) (v := (IntKind.u8.wrap ((IntKind.u64.wrap ((IntKind.u8.wrap ((S1.Φ 42 [S1.ρ 4])))))))) rfl rfl (by kernel_rfl) (ar_var 61)) (av 6 .i64 (av 5 .i64 (an 3 (.bin .add (.var .i64 3) (.lit .i64 1)) (sm h_o3.symm) (asg_nil rfl))))))))))))))))))))))))))))))), fun G => by kernel_rfl⟩
                    · have d10 : pt17.den S1 = some [b2i true] := tr (p := S1.ρ 6 ≤ (S1.Φ 41 [S1.ρ 4])) (Int.not_lt.1 c10)
                      have c11 : ¬ ((S1.Φ 40 [S1.ρ 4]) < (1 : Int)) := by omega
                      have d11 : pt5.den S1 = some [b2i true] := tr (p := (1 : Int) ≤ (S1.Φ 40 [S1.ρ 4])) (Int.not_lt.1 c11)
                      have c12 : ¬ ((6 : Int) < (S1.Φ 40 [S1.ρ 4])) := by omega
                      have d12 : pt6.den S1 = some [b2i true] := tr (p := (S1.Φ 40 [S1.ρ 4]) ≤ (6 : Int)) (Int.not_lt.1 c12)
                      have c13 : (IntKind.i64.wrap (S1.ρ 3 + (1 : Int))) = (IntKind.i64.wrap (S1.ρ 3 + (1 : Int))) := rfl
                      have d13 : pt7.den S1 = some [b2i false] := fls (p := (IntKind.i64.wrap (S1.ρ 3 + (1 : Int))) ≠ (IntKind.i64.wrap (S1.ρ 3 + (1 : Int)))) (fun hh => hh c13)
                      obtain ⟨o3, h_o3⟩ : ∃ o : Int, o = (IntKind.i64.wrap (S1.ρ 3 + (1 : Int))) := ⟨_, rfl⟩
                      obtain ⟨o4, h_o4⟩ : ∃ o : Int, o = (IntKind.i64.wrap (S1.ρ 4 + (1 : Int))) := ⟨_, rfl⟩
                      obtain ⟨o21, h_o21⟩ : ∃ o : Int, o = (b2i true) := ⟨_, rfl⟩
                      obtain ⟨o20, h_o20⟩ : ∃ o : Int, o = (S1.Φ 30 [S1.ρ 4]) := ⟨_, rfl⟩
                      obtain ⟨o19, h_o19⟩ : ∃ o : Int, o = (S1.Φ 29 [S1.ρ 4]) := ⟨_, rfl⟩
                      obtain ⟨o18, h_o18⟩ : ∃ o : Int, o = (S1.Φ 28 [S1.ρ 4]) := ⟨_, rfl⟩
                      obtain ⟨o17, h_o17⟩ : ∃ o : Int, o = (S1.Φ 27 [S1.ρ 4]) := ⟨_, rfl⟩
                      obtain ⟨o16, h_o16⟩ : ∃ o : Int, o = (S1.Φ 26 [S1.ρ 4]) := ⟨_, rfl⟩
                      obtain ⟨o15, h_o15⟩ : ∃ o : Int, o = (S1.Φ 25 [S1.ρ 4]) := ⟨_, rfl⟩
                      obtain ⟨o14, h_o14⟩ : ∃ o : Int, o = (S1.Φ 24 [S1.ρ 4]) := ⟨_, rfl⟩
                      obtain ⟨o13, h_o13⟩ : ∃ o : Int, o = (S1.Φ 23 [S1.ρ 4]) := ⟨_, rfl⟩
                      obtain ⟨o12, h_o12⟩ : ∃ o : Int, o = (S1.Φ 22 [S1.ρ 4]) := ⟨_, rfl⟩
                      obtain ⟨o11, h_o11⟩ : ∃ o : Int, o = (S1.Φ 21 [S1.ρ 4]) := ⟨_, rfl⟩
                      obtain ⟨o10, h_o10⟩ : ∃ o : Int, o = (S1.Φ 20 [S1.ρ 4]) := ⟨_, rfl⟩
                      have u4 := h_o4
                      rw [w_i64 (by omega) (by omega)] at u4
                      have u3 := h_o3
                      rw [w_i64 (by omega) (by omega)] at u3
                      have inv : InvT S n1 n2 (n2 - (i + 1)) (S1.set (upd S1.ρ [(3, o3), (4, o4), (21, o21), (20, o20), (19, o19), (18, o18), (17, o17), (16, o16), (15, o15), (14, o14), (13, o13), (12, o12), (11, o11), (10, o10)]) [] 60 rfl hK) := ⟨i + 1, by omega, rfl, h1, h2, (show o4 = ((i + 1 : Nat) : Int) by omega), h5, h6, (show 0 ≤ o3 by omega), (show o3 ≤ ((i + 1 : Nat) : Int) by omega), (tell_t h41 c1 h_o21), hI, fun f hf l => (Sy.set_low hf).trans (hΦ f hf l)⟩
                      exact .inl ⟨_, _, (by omega : n2 - i = n2 - (i + 1) + 1), inv, _, [], _, 1000, _, [], (ai pt7 false d13 (ai pt6 true d12 (ai pt5 true d11 (ai pt17 true d10 (ai pt4 false d9 (ai pt20 true d8 (ai pt16 false d7 (ai pt15 false d6 (ai pt13 false d5 (ai pt12 false d4 (ai pt3 false d3 (ai pt2 true d2 (ai pt1 true d1 (ai pt0 true d0 (AlOk.nil _))))))))))))))), hcs, LkOk.no _ _ _ _, (av 1 .i64 (av 2 .i64 (an 3 (.bin .add (.var .i64 3) (.lit .i64 1)) (sm h_o3.symm) (an 4 (.bin .add (.var .i64 4) (.lit .i64 1)) (sm h_o4.symm) (av 5 .i64 (ar 60 (ar_var 60) (av 6 .i64 (ar 61 (ar_var 61) (av 6 .i64 (av 5 .i64 (an 21 (.blit true) (sm h_o21.symm) (an 20 (.app .i64 30 (.cons (.var .i64 4) .nil)) (sm h_o20.symm) (an 19 (.app .i64 29 (.cons (.var .i64 4) .nil)) (sm h_o19.symm) (an 18 (.app .i64 28 (.cons (.var .i64 4) .nil)) (sm h_o18.symm) (an 17 (.app .u64 27 (.cons (.var .i64 4) .nil)) (sm h_o17.symm) (an 16 (.app .u64 26 (.cons (.var .i64 4) .nil)) (sm h_o16.symm) (an 15 (.app .u64 25 (.cons (.var .i64 4) .nil)) (sm h_o15.symm) (an 14 (.app .u64 24 (.cons (.var .i64 4) .nil)) (sm h_o14.symm) (an 13 (.app .u64 23 (.cons (.var .i64 4) .nil)) (sm h_o13.symm) (an 12 (.app .u8 22 (.cons (.var .i64 4) .nil)) (sm h_o12.symm) (an 11 (.app .i64 21 (.cons (.var .i64 4) .nil)) (sm h_o11.symm) (an 10 (.app .i64 20 (.cons (.var .i64 4) .nil)) (sm h_o10.symm) (an 3 (.bin .add (.var .i64 3) (.lit .i64 1)) (sm h_o3.symm) (av 5 .i64 (ar 60 (ar_var 60) (av 6 .i64 (ar 61 (ar_var 61) (av 6 .i64 (av 5 .i64 (an 3 (.bin .add (.var .i64 3) (.lit .i64 1)) (sm h_o3.symm) (asg_nil rfl))))))))))))))))))))))))))))))), fun G => by kernel_rfl⟩
                · have d8 : pt20.den S1 = some [b2i false] := fls (p := (S1.Φ 40 [S1.ρ 4]) = (6 : Int)) c8
                  by_cases c9 : (S1.Φ 40 [S1.ρ 4]) < (1 : Int)
                  · have d9 : pt5.den S1 = some [b2i false] := fls (p := (1 : Int) ≤ (S1.Φ 40 [S1.ρ 4])) (Int.not_le.2 c9)
                    have c10 : S1.ρ 3 = S1.ρ 3 := rfl
                    have d10 : pt21.den S1 = some [b2i false] := fls (p := S1.ρ 3 ≠ S1.ρ 3) (fun hh => hh c10)
                    obtain ⟨o4, h_o4⟩ : ∃ o : Int, o = (IntKind.i64.wrap (S1.ρ 4 + (1 : Int))) := ⟨_, rfl⟩
                    obtain ⟨o21, h_o21⟩ : ∃ o : Int, o = (b2i true) := ⟨_, rfl⟩
                    obtain ⟨o20, h_o20⟩ : ∃ o : Int, o = (S1.Φ 30 [S1.ρ 4]) := ⟨_, rfl⟩
                    obtain ⟨o19, h_o19⟩ : ∃ o : Int, o = (S1.Φ 29 [S1.ρ 4]) := ⟨_, rfl⟩
                    obtain ⟨o18, h_o18⟩ : ∃ o : Int, o = (S1.Φ 28 [S1.ρ 4]) := ⟨_, rfl⟩
                    obtain ⟨o17, h_o17⟩ : ∃ o : Int, o = (S1.Φ 27 [S1.ρ 4]) := ⟨_, rfl⟩
                    obtain ⟨o16, h_o16⟩ : ∃ o : Int, o = (S1.Φ 26 [S1.ρ 4]) := ⟨_, rfl⟩
                    obtain ⟨o15, h_o15⟩ : ∃ o : Int, o = (S1.Φ 25 [S1.ρ 4]) := ⟨_, rfl⟩
                    obtain ⟨o14, h_o14⟩ : ∃ o : Int, o = (S1.Φ 24 [S1.ρ 4]) := ⟨_, rfl⟩
                    obtain ⟨o13, h_o13⟩ : ∃ o : Int, o = (S1.Φ 23 [S1.ρ 4]) := ⟨_, rfl⟩
                    obtain ⟨o12, h_o12⟩ : ∃ o : Int, o = (S1.Φ 22 [S1.ρ 4]) := ⟨_, rfl⟩
                    obtain ⟨o11, h_o11⟩ : ∃ o : Int, o = (S1.Φ 21 [S1.ρ 4]) := ⟨_, rfl⟩
                    obtain ⟨o10, h_o10⟩ : ∃ o : Int, o = (S1.Φ 20 [S1.ρ 4]) := ⟨_, rfl⟩
                    have u4 := h_o4
                    rw [w_i64 (by omega) (by omega)] at u4
                    have inv : InvT S n1 n2 (n2 - (i + 1)) (S1.set (upd S1.ρ [(4, o4), (21, o21), (20, o20), (19, o19), (18, o18), (17, o17), (16, o16), (15, o15), (14, o14), (13, o13), (12, o12), (11, o11), (10, o10)]) [] 60 rfl hK) := ⟨i + 1, by omega, rfl, h1, h2, (show o4 = ((i + 1 : Nat) : Int) by omega), h5, h6, (show 0 ≤ S1.ρ 3 by omega), (show S1.ρ 3 ≤ ((i + 1 : Nat) : Int) by omega), (tell_t h41 c1 h_o21), hI, fun f hf l => (Sy.set_low hf).trans (hΦ f hf l)⟩
                    exact .inl ⟨_, _, (by omega : n2 - i = n2 - (i + 1) + 1), inv, _, [], _, 1000, _, [], (ai pt21 false d10 (ai pt5 false d9 (ai pt20 false d8 (ai pt16 false d7 (ai pt15 false d6 (ai pt13 false d5 (ai pt12 false d4 (ai pt3 false d3 (ai pt2 true d2 (ai pt1 true d1 (ai pt0 true d0 (AlOk.nil _)))))))))))), hcs, LkOk.no _ _ _ _, (av 1 .i64 (av 2 .i64 (av 3 .i64 (an 4 (.bin .add (.var .i64 4) (.lit .i64 1)) (sm h_o4.symm) (av 5 .i64 (ar 60 (ar_var 60) (av 6 .i64 (ar 61 (ar_var 61) (av 6 .i64 (av 5 .i64 (an 21 (.blit true) (sm h_o21.symm) (an 20 (.app .i64 30 (.cons (.var .i64 4) .nil)) (sm h_o20.symm) (an 19 (.app .i64 29 (.cons (.var .i64 4) .nil)) (sm h_o19.symm) (an 18 (.app .i64 28 (.cons (.var .i64 4) .nil)) (sm h_o18.symm) (an 17 (.app .u64 27 (.cons (.var .i64 4) .nil)) (sm h_o17.symm) (an 16 (.app .u64 26 (.cons (.var .i64 4) .nil)) (sm h_o16.symm) (an 15 (.app .u64 25 (.cons (.var .i64 4) .nil)) (sm h_o15.symm) (an 14 (.app .u64 24 (.cons (.var .i64 4) .nil)) (sm h_o14.symm) (an 13 (.app .u64 23 (.cons (.var .i64 4) .nil)) (sm h_o13.symm) (an 12 (.app .u8 22 (.cons (.var .i64 4) .nil)) (sm h_o12.symm) (an 11 (.app .i64 21 (.cons (.var .i64 4) .nil)) (sm h_o11.symm) (an 10 (.app .i64 20 (.cons (.var .i64 4) .nil)) (sm h_o10.symm) (av 3 .i64 (av 5 .i64 (ar 60 (ar_var 60) (av 6 .i64 (ar 61 (ar_var 61) (av 6 .i64 (av 5 .i64 (av 3 .i64 (asg_nil rfl))))))))))))))))))))))))))))))), fun G => by kernel_rfl⟩
                  · have d9 : pt5.den S1 = some [b2i true] := tr (p := (1 : Int) ≤ (S1.Φ 40 [S1.ρ 4])) (Int.not_lt.1 c9)
                    have c10 : (6 : Int) < (S1.Φ 40 [S1.ρ 4]) := by omega
                    have d10 : pt6.den S1 = some [b2i false] := fls (p := (S1.Φ 40 [S1.ρ 4]) ≤ (6 : Int)) (Int.not_le.2 c10)
                    have c11 : S1.ρ 3 = S1.ρ 3 := rfl
                    have d11 : pt21.den S1 = some [b2i false] := fls (p := S1.ρ 3 ≠ S1.ρ 3) (fun hh => hh c11)
                    obtain ⟨o4, h_o4⟩ : ∃ o : Int, o = (IntKind.i64.wrap (S1.ρ 4 + (1 : Int))) := ⟨_, rfl⟩
                    obtain ⟨o21, h_o21⟩ : ∃ o : Int, o = (b2i true) := ⟨_, rfl⟩
                    obtain ⟨o20, h_o20⟩ : ∃ o : Int, o = (S1.Φ 30 [S1.ρ 4]) := ⟨_, rfl⟩
                    obtain ⟨o19, h_o19⟩ : ∃ o : Int, o = (S1.Φ 29 [S1.ρ 4]) := ⟨_, rfl⟩
                    obtain ⟨o18, h_o18⟩ : ∃ o : Int, o = (S1.Φ 28 [S1.ρ 4]) := ⟨_, rfl⟩
                    obtain ⟨o17, h_o17⟩ : ∃ o : Int, o = (S1.Φ 27 [S1.ρ 4]) := ⟨_, rfl⟩
                    obtain ⟨o16, h_o16⟩ : ∃ o : Int, o = (S1.Φ 26 [S1.ρ 4]) := ⟨_, rfl⟩
                    obtain ⟨o15, h_o15⟩ : ∃ o : Int, o = (S1.Φ 25 [S1.ρ 4]) := ⟨_, rfl⟩
                    obtain ⟨o14, h_o14⟩ : ∃ o : Int, o = (S1.Φ 24 [S1.ρ 4]) := ⟨_, rfl⟩
                    obtain ⟨o13, h_o13⟩ : ∃ o : Int, o = (S1.Φ 23 [S1.ρ 4]) := ⟨_, rfl⟩
                    obtain ⟨o12, h_o12⟩ : ∃ o : Int, o = (S1.Φ 22 [S1.ρ 4]) := ⟨_, rfl⟩
                    obtain ⟨o11, h_o11⟩ : ∃ o : Int, o = (S1.Φ 21 [S1.ρ 4]) := ⟨_, rfl⟩
                    obtain ⟨o10, h_o10⟩ : ∃ o : Int, o = (S1.Φ 20 [S1.ρ 4]) := ⟨_, rfl⟩
                    have u4 := h_o4
                    rw [w_i64 (by omega) (by omega)] at u4
                    have inv : InvT S n1 n2 (n2 - (i + 1)) (S1.set (upd S1.ρ [(4, o4), (21, o21), (20, o20), (19, o19), (18, o18), (17, o17), (16, o16), (15, o15), (14, o14), (13, o13), (12, o12), (11, o11), (10, o10)]) [] 60 rfl hK) := ⟨i + 1, by omega, rfl, h1, h2, (show o4 = ((i + 1 : Nat) : Int) by omega), h5, h6, (show 0 ≤ S1.ρ 3 by omega), (show S1.ρ 3 ≤ ((i + 1 : Nat) : Int) by omega), (tell_t h41 c1 h_o21), hI, fun f hf l => (Sy.set_low hf).trans (hΦ f hf l)⟩
                    exact .inl ⟨_, _, (by omega : n2 - i = n2 - (i + 1) + 1), inv, _, [], _, 1000, _, [], (ai pt21 false d11 (ai pt6 false d10 (ai pt5 true d9 (ai pt20 false d8 (ai pt16 false d7 (ai pt15 false d6 (ai pt13 false d5 (ai pt12 false d4 (ai pt3 false d3 (ai pt2 true d2 (ai pt1 true d1 (ai pt0 true d0 (AlOk.nil _))))))))))))), hcs, LkOk.no _ _ _ _, (av 1 .i64 (av 2 .i64 (av 3 .i64 (an 4 (.bin .add (.var .i64 4) (.lit .i64 1)) (sm h_o4.symm) (av 5 .i64 (ar 60 (ar_var 60) (av 6 .i64 (ar 61 (ar_var 61) (av 6 .i64 (av 5 .i64 (an 21 (.blit true) (sm h_o21.symm) (an 20 (.app .i64 30 (.cons (.var .i64 4) .nil)) (sm h_o20.symm) (an 19 (.app .i64 29 (.cons (.var .i64 4) .nil)) (sm h_o19.symm) (an 18 (.app .i64 28 (.cons (.var .i64 4) .nil)) (sm h_o18.symm) (an 17 (.app .u64 27 (.cons (.var .i64 4) .nil)) (sm h_o17.symm) (an 16 (.app .u64 26 (.cons (.var .i64 4) .nil)) (sm h_o16.symm) (an 15 (.app .u64 25 (.cons (.var .i64 4) .nil)) (sm h_o15.symm) (an 14 (.app .u64 24 (.cons (.var .i64 4) .nil)) (sm h_o14.symm) (an 13 (.app .u64 23 (.cons (.var .i64 4) .nil)) (sm h_o13.symm) (an 12 (.app .u8 22 (.cons (.var .i64 4) .nil)) (sm h_o12.symm) (an 11 (.app .i64 21 (.cons (.var .i64 4) .nil)) (sm h_o11.symm) (an 10 (.app .i64 20 (.cons (.var .i64 4) .nil)) (sm h_o10.symm) (av 3 .i64 (av 5 .i64 (ar 60 (ar_var 60) (av 6 .i64 (ar 61 (ar_var 61) (av 6 .i64 (av 5 .i64 (av 3 .i64 (asg_nil rfl))))))))))))))))))))))))))))))), fun G => by kernel_rfl⟩
    · have d1 : pt1.den S1 = some [b2i false] := fls (p := S1.ρ 4 < S1.ρ 1) c1
      have c2 : ¬ (S1.ρ 4 < (0 : Int)) := by omega
      have d2 : pt2.den S1 = some [b2i true] := tr (p := (0 : Int) ≤ S1.ρ 4) (Int.not_lt.1 c2)
      by_cases c3 : (S1.Φ 40 [S1.ρ 4]) = (1 : Int)
      · have d3 : pt3.den S1 = some [b2i true] := tr (p := (S1.Φ 40 [S1.ρ 4]) = (1 : Int)) c3
        by_cases c4 : (S1.Φ 41 [S1.ρ 4]) < (0 : Int)
        · have d4 : pt4.den S1 = some [b2i true] := tr (p := (S1.Φ 41 [S1.ρ 4]) < (0 : Int)) c4
          have c5 : ¬ ((S1.Φ 40 [S1.ρ 4]) < (1 : Int)) := by omega
          have d5 : pt5.den S1 = some [b2i true] := tr (p := (1 : Int) ≤ (S1.Φ 40 [S1.ρ 4])) (Int.not_lt.1 c5)
          have c6 : ¬ ((6 : Int) < (S1.Φ 40 [S1.ρ 4])) := by omega
          have d6 : pt6.den S1 = some [b2i true] := tr (p := (S1.Φ 40 [S1.ρ 4]) ≤ (6 : Int)) (Int.not_lt.1 c6)
          have c7 : (IntKind.i64.wrap (S1.ρ 3 + (1 : Int))) = (IntKind.i64.wrap (S1.ρ 3 + (1 : Int))) := rfl
          have d7 : pt7.den S1 = some [b2i false] := fls (p := (IntKind.i64.wrap (S1.ρ 3 + (1 : Int))) ≠ (IntKind.i64.wrap (S1.ρ 3 + (1 : Int)))) (fun hh => hh c7)
          obtain ⟨o3, h_o3⟩ : ∃ o : Int, o = (IntKind.i64.wrap (S1.ρ 3 + (1 : Int))) := ⟨_, rfl⟩
          obtain ⟨o4, h_o4⟩ : ∃ o : Int, o = (IntKind.i64.wrap (S1.ρ 4 + (1 : Int))) := ⟨_, rfl⟩
          obtain ⟨o21, h_o21⟩ : ∃ o : Int, o = (b2i (decide (S1.ρ 21 ≠ (0 : Int)))) := ⟨_, rfl⟩
          have u4 := h_o4
          rw [w_i64 (by omega) (by omega)] at u4
          have u3 := h_o3
          rw [w_i64 (by omega) (by omega)] at u3
          have inv : InvT S n1 n2 (n2 - (i + 1)) (S1.set (upd S1.ρ [(3, o3), (4, o4), (21, o21)]) [] 60 rfl hK) := ⟨i + 1, by omega, rfl, h1, h2, (show o4 = ((i + 1 : Nat) : Int) by omega), h5, h6, (show 0 ≤ o3 by omega), (show o3 ≤ ((i + 1 : Nat) : Int) by omega), (tell_f h41 c1 h21 h_o21), hI, fun f hf l => (Sy.set_low hf).trans (hΦ f hf l)⟩
          exact .inl ⟨_, _, (by omega : n2 - i = n2 - (i + 1) + 1), inv, _, [], _, 1000, _, [], (ai pt7 false d7 (ai pt6 true d6 (ai pt5 true d5 (ai pt4 true d4 (ai pt3 true d3 (ai pt2 true d2 (ai pt1 false d1 (ai pt0 true d0 (AlOk.nil _))))))))), hcs, LkOk.no _ _ _ _, (av 1 .i64 (av 2 .i64 (an 3 (.bin .add (.var .i64 3) (.lit .i64 1)) (sm h_o3.symm) (an 4 (.bin .add (.var .i64 4) (.lit .i64 1)) (sm h_o4.symm) (av 5 .i64 (ar 60 (ar_var 60) (av 6 .i64 (ar 61 (ar_var 61) (av 6 .i64 (av 5 .i64 (an 21 (.bin .neq (.var .u8 21) (.lit .u8 0)) (sm h_o21.symm) (av 20 .i64 (av 19 .i64 (av 18 .i64 (av 17 .u64 (av 16 .u64 (av 15 .u64 (av 14 .u64 (av 13 .u64 (av 12 .u8 (av 11 .i64 (av 10 .i64 (an 3 (.bin .add (.var .i64 3) (.lit .i64 1)) (sm h_o3.symm) (av 5 .i64 (ar 60 (ar_var 60) (av 6 .i64 (ar 61 (ar_var 61) (av 6 .i64 (av 5 .i64 (an 3 (.bin .add (.var .i64 3) (.lit .i64 1)) (sm h_o3.symm) (asg_nil rfl))))))))))))))))))))))))))))))), fun G => by kernel_rfl⟩
        · have d4 : pt4.den S1 = some [b2i false] := fls (p := (S1.Φ 41 [S1.ρ 4]) < (0 : Int)) c4
          by_cases c5 : (S1.Φ 41 [S1.ρ 4]) < S1.ρ 5
          · have d5 : pt8.den S1 = some [b2i false] := fls (p := S1.ρ 5 ≤ (S1.Φ 41 [S1.ρ 4])) (Int.not_le.2 c5)
            have d6 : pt9.den S1 = some [b2i true] := tr (p := (0 : Int) ≤ (S1.Φ 41 [S1.ρ 4])) (Int.not_lt.1 c4)
            have d7 : pt10.den S1 = some [b2i true] := tr (p := (S1.Φ 41 [S1.ρ 4]) < S1.ρ 5) c5
            have c8 : (S1.Φ 60 [(S1.Φ 41 [S1.ρ 4])]) = (S1.Φ 60 [(S1.Φ 41 [S1.ρ 4])]) := rfl
            have d8 : pt11.den S1 = some [b2i false] := fls (p := (S1.Φ 60 [(S1.Φ 41 [S1.ρ 4])]) ≠ (S1.Φ 60 [(S1.Φ 41 [S1.ρ 4])])) (fun hh => hh c8)
            have c9 : ¬ ((S1.Φ 40 [S1.ρ 4]) < (1 : Int)) := by omega
            have d9 : pt5.den S1 = some [b2i true] := tr (p := (1 : Int) ≤ (S1.Φ 40 [S1.ρ 4])) (Int.not_lt.1 c9)
            have c10 : ¬ ((6 : Int) < (S1.Φ 40 [S1.ρ 4])) := by omega
            have d10 : pt6.den S1 = some [b2i true] := tr (p := (S1.Φ 40 [S1.ρ 4]) ≤ (6 : Int)) (Int.not_lt.1 c10)
            have c11 : (IntKind.i64.wrap (S1.ρ 3 + (1 : Int))) = (IntKind.i64.wrap (S1.ρ 3 + (1 : Int))) := rfl
            have d11 : pt7.den S1 = some [b2i false] := fls (p := (IntKind.i64.wrap (S1.ρ 3 + (1 : Int))) ≠ (IntKind.i64.wrap (S1.ρ 3 + (1 : Int)))) (fun hh => hh c11)
            obtain ⟨o3, h_o3⟩ : ∃ o : Int, o = (IntKind.i64.wrap (S1.ρ 3 + (1 : Int))) := ⟨_, rfl⟩
            obtain ⟨o4, h_o4⟩ : ∃ o : Int, o = (IntKind.i64.wrap (S1.ρ 4 + (1 : Int))) := ⟨_, rfl⟩
            obtain ⟨o21, h_o21⟩ : ∃ o : Int, o = (b2i (decide (S1.ρ 21 ≠ (0 : Int)))) := ⟨_, rfl⟩
            have u4 := h_o4
            rw [w_i64 (by omega) (by omega)] at u4
            have u3 := h_o3
            rw [w_i64 (by omega) (by omega)] at u3
            have inv : InvT S n1 n2 (n2 - (i + 1)) (S1.set (upd S1.ρ [(3, o3), (4, o4), (21, o21)]) [] 60 rfl hK) := ⟨i + 1, by omega, rfl, h1, h2, (show o4 = ((i + 1 : Nat) : Int) by omega), h5, h6, (show 0 ≤ o3 by omega), (show o3 ≤ ((i + 1 : Nat) : Int) by omega), (tell_f h41 c1 h21 h_o21), hI, fun f hf l => (Sy.set_low hf).trans (hΦ f hf l)⟩
            exact .inl ⟨_, _, (by omega : n2 - i = n2 - (i + 1) + 1), inv, _, [], _, 1000, _, [], (ai pt7 false d11 (ai pt6 true d10 (ai pt5 true d9 (ai pt11 false d8 (ai pt10 true d7 (ai pt9 true d6 (ai pt8 false d5 (ai pt4 false d4 (ai pt3 true d3 (ai pt2 true d2 (ai pt1 false d1 (ai pt0 true d0 (AlOk.nil _))))))))))))), hcs, LkOk.no _ _ _ _, (av 1 .i64 (av 2 .i64 (an 3 (.bin .add (.var .i64 3) (.lit .i64 1)) (sm h_o3.symm) (an 4 (.bin .add (.var .i64 4) (.lit .i64 1)) (sm h_o4.symm) (av 5 .i64 (ar 60 (ar_var 60) (av 6 .i64 (ar 61 (ar_var 61) (av 6 .i64 (av 5 .i64 (an 21 (.bin .neq (.var .u8 21) (.lit .u8 0)) (sm h_o21.symm) (av 20 .i64 (av 19 .i64 (av 18 .i64 (av 17 .u64 (av 16 .u64 (av 15 .u64 (av 14 .u64 (av 13 .u64 (av 12 .u8 (av 11 .i64 (av 10 .i64 (an 3 (.bin .add (.var .i64 3) (.lit .i64 1)) (sm h_o3.symm) (av 5 .i64 (ar 60 (ar_var 60) (av 6 .i64 (ar 61 (ar_var 61) (av 6 .i64 (av 5 .i64 (an 3 (.bin .add (.var .i64 3) (.lit .i64 1)) (sm h_o3.symm) (asg_nil rfl))))))))))))))))))))))))))))))), fun G => by kernel_rfl⟩
          · have d5 : pt8.den S1 = some [b2i true] := tr (p := S1.ρ 5 ≤ (S1.Φ 41 [S1.ρ 4])) (Int.not_lt.1 c5)
            have c6 : ¬ ((S1.Φ 40 [S1.ρ 4]) < (1 : Int)) := by omega
            have d6 : pt5.den S1 = some [b2i true] := tr (p := (1 : Int) ≤ (S1.Φ 40 [S1.ρ 4])) (Int.not_lt.1 c6)
            have c7 : ¬ ((6 : Int) < (S1.Φ 40 [S1.ρ 4])) := by omega
            have d7 : pt6.den S1 = some [b2i true] := tr (p := (S1.Φ 40 [S1.ρ 4]) ≤ (6 : Int)) (Int.not_lt.1 c7)
            have c8 : (IntKind.i64.wrap (S1.ρ 3 + (1 : Int))) = (IntKind.i64.wrap (S1.ρ 3 + (1 : Int))) := rfl
            have d8 : pt7.den S1 = some [b2i false] := fls (p := (IntKind.i64.wrap (S1.ρ 3 + (1 : Int))) ≠ (IntKind.i64.wrap (S1.ρ 3 + (1 : Int)))) (fun hh => hh c8)
            obtain ⟨o3, h_o3⟩ : ∃ o : Int, o = (IntKind.i64.wrap (S1.ρ 3 + (1 : Int))) := ⟨_, rfl⟩
            obtain ⟨o4, h_o4⟩ : ∃ o : Int, o = (IntKind.i64.wrap (S1.ρ 4 + (1 : Int))) := ⟨_, rfl⟩
            obtain ⟨o21, h_o21⟩ : ∃ o : Int, o = (b2i (decide (S1.ρ 21 ≠ (0 : Int)))) := ⟨_, rfl⟩
            have u4 := h_o4
            rw [w_i64 (by omega) (by omega)] at u4
            have u3 := h_o3
            rw [w_i64 (by omega) (by omega)] at u3
            have inv : InvT S n1 n2 (n2 - (i + 1)) (S1.set (upd S1.ρ [(3, o3), (4, o4), (21, o21)]) [] 60 rfl hK) := ⟨i + 1, by omega, rfl, h1, h2, (show o4 = ((i + 1 : Nat) : Int) by omega), h5, h6, (show 0 ≤ o3 by omega), (show o3 ≤ ((i + 1 : Nat) : Int) by omega), (tell_f h41 c1 h21 h_o21), hI, fun f hf l => (Sy.set_low hf).trans (hΦ f hf l)⟩
            exact .inl ⟨_, _, (by omega : n2 - i = n2 - (i + 1) + 1), inv, _, [], _, 1000, _, [], (ai pt7 false d8 (ai pt6 true d7 (ai pt5 true d6 (ai pt8 true d5 (ai pt4 false d4 (ai pt3 true d3 (ai pt2 true d2 (ai pt1 false d1 (ai pt0 true d0 (AlOk.nil _)))))))))), hcs, LkOk.no _ _ _ _, (av 1 .i64 (av 2 .i64 (an 3 (.bin .add (.var .i64 3) (.lit .i64 1)) (sm h_o3.symm) (an 4 (.bin .add (.var .i64 4) (.lit .i64 1)) (sm h_o4.symm) (av 5 .i64 (ar 60 (ar_var 60) (av 6 .i64 (ar 61 (ar_var 61) (av 6 .i64 (av 5 .i64 (an 21 (.bin .neq (.var .u8 21) (.lit .u8 0)) (sm h_o21.symm) (av 20 .i64 (av 19 .i64 (av 18 .i64 (av 17 .u64 (av 16 .u64 (av 15 .u64 (av 14 .u64 (av 13 .u64 (av 12 .u8 (av 11 .i64 (av 10 .i64 (an 3 (.bin .add (.var .i64 3) (.lit .i64 1)) (sm h_o3.symm) (av 5 .i64 (ar 60 (ar_var 60) (av 6 .i64 (ar 61 (ar_var 61) (av 6 .i64 (av 5 .i64 (an 3 (.bin .add (.var .i64 3) (.lit .i64 1)) (sm h_o3.symm) (asg_nil rfl))))))))))))))))))))))))))))))), fun G => by kernel_rfl⟩
      · have d3 : pt3.den S1 = some [b2i false] := fls (p := (S1.Φ 40 [S1.ρ 4]) = (1 : Int)) c3
        by_cases c4 : (S1.Φ 40 [S1.ρ 4]) = (2 : Int)
        · have d4 : pt12.den S1 = some [b2i true] := tr (p := (S1.Φ 40 [S1.ρ 4]) = (2 : Int)) c4
          by_cases c5 : (S1.Φ 41 [S1.ρ 4]) < (0 : Int)
          · have d5 : pt4.den S1 = some [b2i true] := tr (p := (S1.Φ 41 [S1.ρ 4]) < (0 : Int)) c5
            have c6 : ¬ ((S1.Φ 40 [S1.ρ 4]) < (1 : Int)) := by omega
            have d6 : pt5.den S1 = some [b2i true] := tr (p := (1 : Int) ≤ (S1.Φ 40 [S1.ρ 4])) (Int.not_lt.1 c6)
            have c7 : ¬ ((6 : Int) < (S1.Φ 40 [S1.ρ 4])) := by omega
            have d7 : pt6.den S1 = some [b2i true] := tr (p := (S1.Φ 40 [S1.ρ 4]) ≤ (6 : Int)) (Int.not_lt.1 c7)
            have c8 : (IntKind.i64.wrap (S1.ρ 3 + (1 : Int))) = (IntKind.i64.wrap (S1.ρ 3 + (1 : Int))) := rfl
            have d8 : pt7.den S1 = some [b2i false] := fls (p := (IntKind.i64.wrap (S1.ρ 3 + (1 : Int))) ≠ (IntKind.i64.wrap (S1.ρ 3 + (1 : Int)))) (fun hh => hh c8)
            obtain ⟨o3, h_o3⟩ : ∃ o : Int, o = (IntKind.i64.wrap (S1.ρ 3 + (1 : Int))) := ⟨_, rfl⟩
            obtain ⟨o4, h_o4⟩ : ∃ o : Int, o = (IntKind.i64.wrap (S1.ρ 4 + (1 : Int))) := ⟨_, rfl⟩
            obtain ⟨o21, h_o21⟩ : ∃ o : Int, o = (b2i (decide (S1.ρ 21 ≠ (0 : Int)))) := ⟨_, rfl⟩
            have u4 := h_o4
            rw [w_i64 (by omega) (by omega)] at u4
            have u3 := h_o3
            rw [w_i64 (by omega) (by omega)] at u3
            have inv : InvT S n1 n2 (n2 - (i + 1)) (S1.set (upd S1.ρ [(3, o3), (4, o4), (21, o21)]) [] 60 rfl hK) := ⟨i + 1, by omega, rfl, h1, h2, (show o4 = ((i + 1 : Nat) : Int) by omega), h5, h6, (show 0 ≤ o3 by omega), (show o3 ≤ ((i + 1 : Nat) : Int) by omega), (tell_f h41 c1 h21 h_o21), hI, fun f hf l => (Sy.set_low hf).trans (hΦ f hf l)⟩
            exact .inl ⟨_, _, (by omega : n2 - i = n2 - (i + 1) + 1), inv, _, [], _, 1000, _, [], (ai pt7 false d8 (ai pt6 true d7 (ai pt5 true d6 (ai pt4 true d5 (ai pt12 true d4 (ai pt3 false d3 (ai pt2 true d2 (ai pt1 false d1 (ai pt0 true d0 (AlOk.nil _)))))))))), hcs, LkOk.no _ _ _ _, (av 1 .i64 (av 2 .i64 (an 3 (.bin .add (.var .i64 3) (.lit .i64 1)) (sm h_o3.symm) (an 4 (.bin .add (.var .i64 4) (.lit .i64 1)) (sm h_o4.symm) (av 5 .i64 (ar 60 (ar_var 60) (av 6 .i64 (ar 61 (ar_var 61) (av 6 .i64 (av 5 .i64 (an 21 (.bin .neq (.var .u8 21) (.lit .u8 0)) (sm h_o21.symm) (av 20 .i64 (av 19 .i64 (av 18 .i64 (av 17 .u64 (av 16 .u64 (av 15 .u64 (av 14 .u64 (av 13 .u64 (av 12 .u8 (av 11 .i64 (av 10 .i64 (an 3 (.bin .add (.var .i64 3) (.lit .i64 1)) (sm h_o3.symm) (av 5 .i64 (ar 60 (ar_var 60) (av 6 .i64 (ar 61 (ar_var 61) (av 6 .i64 (av 5 .i64 (an 3 (.bin .add (.var .i64 3) (.lit .i64 1)) (sm h_o3.symm) (asg_nil rfl))))))))))))))))))))))))))))))), fun G => by kernel_rfl⟩
          · have d5 : pt4.den S1 = some [b2i false] := fls (p := (S1.Φ 41 [S1.ρ 4]) < (0 : Int)) c5
            by_cases c6 : (S1.Φ 41 [S1.ρ 4]) < S1.ρ 5
            · have d6 : pt8.den S1 = some [b2i false] := fls (p := S1.ρ 5 ≤ (S1.Φ 41 [S1.ρ 4])) (Int.not_le.2 c6)
              have d7 : pt9.den S1 = some [b2i true] := tr (p := (0 : Int) ≤ (S1.Φ 41 [S1.ρ 4])) (Int.not_lt.1 c5)
              have d8 : pt10.den S1 = some [b2i true] := tr (p := (S1.Φ 41 [S1.ρ 4]) < S1.ρ 5) c6
              have c9 : ¬ ((S1.Φ 40 [S1.ρ 4]) < (1 : Int)) := by omega
              have d9 : pt5.den S1 = some [b2i true] := tr (p := (1 : Int) ≤ (S1.Φ 40 [S1.ρ 4])) (Int.not_lt.1 c9)
              have c10 : ¬ ((6 : Int) < (S1.Φ 40 [S1.ρ 4])) := by omega
              have d10 : pt6.den S1 = some [b2i true] := tr (p := (S1.Φ 40 [S1.ρ 4]) ≤ (6 : Int)) (Int.not_lt.1 c10)
              have c11 : (IntKind.i64.wrap (S1.ρ 3 + (1 : Int))) = (IntKind.i64.wrap (S1.ρ 3 + (1 : Int))) := rfl
              have d11 : pt7.den S1 = some [b2i false] := fls (p := (IntKind.i64.wrap (S1.ρ 3 + (1 : Int))) ≠ (IntKind.i64.wrap (S1.ρ 3 + (1 : Int)))) (fun hh => hh c11)
              obtain ⟨o3, h_o3⟩ : ∃ o : Int, o = (IntKind.i64.wrap (S1.ρ 3 + (1 : Int))) := ⟨_, rfl⟩
              obtain ⟨o4, h_o4⟩ : ∃ o : Int, o = (IntKind.i64.wrap (S1.ρ 4 + (1 : Int))) := ⟨_, rfl⟩
              obtain ⟨o21, h_o21⟩ : ∃ o : Int, o = (b2i (decide (S1.ρ 21 ≠ (0 : Int)))) := ⟨_, rfl⟩
              have u4 := h_o4
              rw [w_i64 (by omega) (by omega)] at u4
              have u3 := h_o3
              rw [w_i64 (by omega) (by omega)] at u3
              have inv : InvT S n1 n2 (n2 - (i + 1)) (S1.set (upd S1.ρ [(3, o3), (4, o4), (21, o21)]) [(60, (fun j => ifE j (S1.Φ 41 [S1.ρ 4]) (S1.Φ 42 [S1.ρ 4]) ((fun j => S1.Φ 60 [j]) j)))] 60 rfl hK) := ⟨i + 1, by omega, rfl, h1, h2, (show o4 = ((i + 1 : Nat) : Int) by omega), h5, h6, (show 0 ≤ o3 by omega), (show o3 ≤ ((i + 1 : Nat) : Int) by omega), (tell_f h41 c1 h21 h_o21), hI, fun f hf l => (Sy.set_low hf).trans (hΦ f hf l)⟩
              exact .inl ⟨_, _, (by omega : n2 - i = n2 - (i + 1) + 1), inv, _, [], _, 1000, _, [], (ai pt7 false d11 (ai pt6 true d10 (ai pt5 true d9 (ai pt10 true d8 (ai pt9 true d7 (ai pt8 false d6 (ai pt4 false d5 (ai pt12 true d4 (ai pt3 false d3 (ai pt2 true d2 (ai pt1 false d1 (ai pt0 true d0 (AlOk.nil _))))))))))))), hcs, LkOk.no _ _ _ _, (av 1 .i64 (av 2 .i64 (an 3 (.bin .add (.var .i64 3) (.lit .i64 1)) (sm h_o3.symm) (an 4 (.bin .add (.var .i64 4) (.lit .i64 1)) (sm h_o4.symm) (av 5 .i64 (ar 60 (ar_upd (.app .i64 41 (.cons (.var .i64 4) .nil)) (.app .u64 42 (.cons (.var .i64 4) .nil)) (i := (S1.Φ 41 [S1.ρ 4])) (v := (S1.Φ 42 [S1.ρ 4])) rfl rfl (by kernel_rfl) (ar_var 60)) (av 6 .i64 (ar 61 (ar_var 61) (av 6 .i64 (av 5 .i64 (an 21 (.bin .neq (.var .u8 21) (.lit .u8 0)) (sm h_o21.symm) (av 20 .i64 (av 19 .i64 (av 18 .i64 (av 17 .u64 (av 16 .u64 (av 15 .u64 (av 14 .u64 (av 13 .u64 (av 12 .u8 (av 11 .i64 (av 10 .i64 (an 3 (.bin .add (.var .i64 3) (.lit .i64 1)) (sm h_o3.symm) (av 5 .i64 (ar 60 (ar_upd (.app .i64 41 (.cons (.var .i64 4) .nil)) (.app .u64 42 (.cons (.var .i64 4) .nil)) (i := (S1.Φ 41 [S1.ρ 4])) (v := (S1.Φ 42 [S1.ρ 4])) rfl rfl (by kernel_rfl) (ar_var 60)) (av 6 .i64 (ar 61 (ar_var 61) (av 6 .i64 (av 5 .i64 (an 3 (.bin .add (.var .i64 3) (.lit .i64 1)) (sm h_o3.symm) (asg_nil rfl))))))))))))))))))))))))))))))), fun G => by kernel_rfl⟩
            · have d6 : pt8.den S1 = some [b2i true] := tr (p := S1.ρ 5 ≤ (S1.Φ 41 [S1.ρ 4])) (Int.not_lt.1 c6)
              have c7 : ¬ ((S1.Φ 40 [S1.ρ 4]) < (1 : Int)) := by omega
              have d7 : pt5.den S1 = some [b2i true] := tr (p := (1 : Int) ≤ (S1.Φ 40 [S1.ρ 4])) (Int.not_lt.1 c7)
              have c8 : ¬ ((6 : Int) < (S1.Φ 40 [S1.ρ 4])) := by omega
              have d8 : pt6.den S1 = some [b2i true] := tr (p := (S1.Φ 40 [S1.ρ 4]) ≤ (6 : Int)) (Int.not_lt.1 c8)
              have c9 : (IntKind.i64.wrap (S1.ρ 3 + (1 : Int))) = (IntKind.i64.wrap (S1.ρ 3 + (1 : Int))) := rfl
              have d9 : pt7.den S1 = some [b2i false] := fls (p := (IntKind.i64.wrap (S1.ρ 3 + (1 : Int))) ≠ (IntKind.i64.wrap (S1.ρ 3 + (1 : Int)))) (fun hh => hh c9)
              obtain ⟨o3, h_o3⟩ : ∃ o : Int, o = (IntKind.i64.wrap (S1.ρ 3 + (1 : Int))) := ⟨_, rfl⟩
              obtain ⟨o4, h_o4⟩ : ∃ o : Int, o = (IntKind.i64.wrap (S1.ρ 4 + (1 : Int))) := ⟨_, rfl⟩
              obtain ⟨o21, h_o21⟩ : ∃ o : Int, o = (b2i (decide (S1.ρ 21 ≠ (0 : Int)))) := ⟨_, rfl⟩
              have u4 := h_o4
              rw [w_i64 (by omega) (by omega)] at u4
              have u3 := h_o3
              rw [w_i64 (by omega) (by omega)] at u3
              have inv : InvT S n1 n2 (n2 - (i + 1)) (S1.set (upd S1.ρ [(3, o3), (4, o4), (21, o21)]) [] 60 rfl hK) := ⟨i + 1, by omega, rfl, h1, h2, (show o4 = ((i + 1 : Nat) : Int) by omega), h5, h6, (show 0 ≤ o3 by omega), (show o3 ≤ ((i + 1 : Nat) : Int) by omega), (tell_f h41 c1 h21 h_o21), hI, fun f hf l => (Sy.set_low hf).trans (hΦ f hf l)⟩
              exact .inl ⟨_, _, (by omega : n2 - i = n2 - (i + 1) + 1), inv, _, [], _, 1000, _, [], (ai pt7 false d9 (ai pt6 true d8 (ai pt5 true d7 (ai pt8 true d6 (ai pt4 false d5 (ai pt12 true d4 (ai pt3 false d3 (ai pt2 true d2 (ai pt1 false d1 (ai pt0 true d0 (AlOk.nil _))))))))))), hcs, LkOk.no _ _ _ _, (av 1 .i64 (av 2 .i64 (an 3 (.bin .add (.var .i64 3) (.lit .i64 1)) (sm h_o3.symm) (an 4 (.bin .add (.var .i64 4) (.lit .i64 1)) (sm h_o4.symm) (av 5 .i64 (ar 60 (ar_var 60) (av 6 .i64 (ar 61 (ar_var 61) (av 6 .i64 (av 5 .i64 (an 21 (.bin .neq (.var .u8 21) (.lit .u8 0)) (sm h_o21.symm) (av 20 .i64 (av 19 .i64 (av 18 .i64 (av 17 .u64 (av 16 .u64 (av 15 .u64 (av 14 .u64 (av 13 .u64 (av 12 .u8 (av 11 .i64 (av 10 .i64 (an 3 (.bin .add (.var .i64 3) (.lit .i64 1)) (sm h_o3.symm) (av 5 .i64 (ar 60 (ar_var 60) (av 6 .i64 (ar 61 (ar_var 61) (av 6 .i64 (av 5 .i64 (an 3 (.bin .add (.var .i64 3) (.lit .i64 1)) (sm h_o3.symm) (asg_nil rfl))))))))))))))))))))))))))))))), fun G => by kernel_rfl⟩
        · have d4 : pt12.den S1 = some [b2i false] := fls (p := (S1.Φ 40 [S1.ρ 4]) = (2 : Int)) c4
          by_cases c5 : (S1.Φ 40 [S1.ρ 4]) = (3 : Int)
          · have d5 : pt13.den S1 = some [b2i true] := tr (p := (S1.Φ 40 [S1.ρ 4]) = (3 : Int)) c5
            by_cases c6 : (S1.Φ 41 [S1.ρ 4]) < (0 : Int)
            · have d6 : pt4.den S1 = some [b2i true] := tr (p := (S1.Φ 41 [S1.ρ 4]) < (0 : Int)) c6
              have c7 : ¬ ((S1.Φ 40 [S1.ρ 4]) < (1 : Int)) := by omega
              have d7 : pt5.den S1 = some [b2i true] := tr (p := (1 : Int) ≤ (S1.Φ 40 [S1.ρ 4])) (Int.not_lt.1 c7)
              have c8 : ¬ ((6 : Int) < (S1.Φ 40 [S1.ρ 4])) := by omega
              have d8 : pt6.den S1 = some [b2i true] := tr (p := (S1.Φ 40 [S1.ρ 4]) ≤ (6 : Int)) (Int.not_lt.1 c8)
              have c9 : (IntKind.i64.wrap (S1.ρ 3 + (1 : Int))) = (IntKind.i64.wrap (S1.ρ 3 + (1 : Int))) := rfl
              have d9 : pt7.den S1 = some [b2i false] := fls (p := (IntKind.i64.wrap (S1.ρ 3 + (1 : Int))) ≠ (IntKind.i64.wrap (S1.ρ 3 + (1 : Int)))) (fun hh => hh c9)
              obtain ⟨o3, h_o3⟩ : ∃ o : Int, o = (IntKind.i64.wrap (S1.ρ 3 + (1 : Int))) := ⟨_, rfl⟩
              obtain ⟨o4, h_o4⟩ : ∃ o : Int, o = (IntKind.i64.wrap (S1.ρ 4 + (1 : Int))) := ⟨_, rfl⟩
              obtain ⟨o21, h_o21⟩ : ∃ o : Int, o = (b2i (decide (S1.ρ 21 ≠ (0 : Int)))) := ⟨_, rfl⟩
              have u4 := h_o4
              rw [w_i64 (by omega) (by omega)] at u4
              have u3 := h_o3
              rw [w_i64 (by omega) (by omega)] at u3
              have inv : InvT S n1 n2 (n2 - (i + 1)) (S1.set (upd S1.ρ [(3, o3), (4, o4), (21, o21)]) [] 60 rfl hK) := ⟨i + 1, by omega, rfl, h1, h2, (show o4 = ((i + 1 : Nat) : Int) by omega), h5, h6, (show 0 ≤ o3 by omega), (show o3 ≤ ((i + 1 : Nat) : Int) by omega), (tell_f h41 c1 h21 h_o21), hI, fun f hf l => (Sy.set_low hf).trans (hΦ f hf l)⟩
              exact .inl ⟨_, _, (by omega : n2 - i = n2 - (i + 1) + 1), inv, _, [], _, 1000, _, [], (ai pt7 false d9 (ai pt6 true d8 (ai pt5 true d7 (ai pt4 true d6 (ai pt13 true d5 (ai pt12 false d4 (ai pt3 false d3 (ai pt2 true d2 (ai pt1 false d1 (ai pt0 true d0 (AlOk.nil _))))))))))), hcs, LkOk.no _ _ _ _, (av 1 .i64 (av 2 .i64 (an 3 (.bin .add (.var .i64 3) (.lit .i64 1)) (sm h_o3.symm) (an 4 (.bin .add (.var .i64 4) (.lit .i64 1)) (sm h_o4.symm) (av 5 .i64 (ar 60 (ar_var 60) (av 6 .i64 (ar 61 (ar_var 61) (av 6 .i64 (av 5 .i64 (an 21 (.bin .neq (.var .u8 21) (.lit .u8 0)) (sm h_o21.symm) (av 20 .i64 (av 19 .i64 (av 18 .i64 (av 17 .u64 (av 16 .u64 (av 15 .u64 (av 14 .u64 (av 13 .u64 (av 12 .u8 (av 11 .i64 (av 10 .i64 (an 3 (.bin .add (.var .i64 3) (.lit .i64 1)) (sm h_o3.symm) (av 5 .i64 (ar 60 (ar_var 60) (av 6 .i64 (ar 61 (ar_var 61) (av 6 .i64 (av 5 .i64 (an 3 (.bin .add (.var .i64 3) (.lit .i64 1)) (sm h_o3.symm) (asg_nil rfl))))))))))))))))))))))))))))))), fun G => by kernel_rfl⟩
            · have d6 : pt4.den S1 = some [b2i false] := fls (p := (S1.Φ 41 [S1.ρ 4]) < (0 : Int)) c6
              by_cases c7 : (S1.Φ 41 [S1.ρ 4]) < S1.ρ 5
              · have d7 : pt8.den S1 = some [b2i false] := fls (p := S1.ρ 5 ≤ (S1.Φ 41 [S1.ρ 4])) (Int.not_le.2 c7)
                have d8 : pt9.den S1 = some [b2i true] := tr (p := (0 : Int) ≤ (S1.Φ 41 [S1.ρ 4])) (Int.not_lt.1 c6)
                have d9 : pt10.den S1 = some [b2i true] := tr (p := (S1.Φ 41 [S1.ρ 4]) < S1.ρ 5) c7
                by_cases c10 : (S1.Φ 60 [(S1.Φ 41 [S1.ρ 4])]) = (S1.Φ 42 [S1.ρ 4])
                · have d10 : pt14.den S1 = some [b2i false] := fls (p := (S1.Φ 60 [(S1.Φ 41 [S1.ρ 4])]) ≠ (S1.Φ 42 [S1.ρ 4])) (fun hh => hh c10)
                  have c11 : ¬ ((S1.Φ 40 [S1.ρ 4]) < (1 : Int)) := by omega
                  have d11 : pt5.den S1 = some [b2i true] := tr (p := (1 : Int) ≤ (S1.Φ 40 [S1.ρ 4])) (Int.not_lt.1 c11)
                  have c12 : ¬ ((6 : Int) < (S1.Φ 40 [S1.ρ 4])) := by omega
                  have d12 : pt6.den S1 = some [b2i true] := tr (p := (S1.Φ 40 [S1.ρ 4]) ≤ (6 : Int)) (Int.not_lt.1 c12)
                  have c13 : (IntKind.i64.wrap (S1.ρ 3 + (1 : Int))) = (IntKind.i64.wrap (S1.ρ 3 + (1 : Int))) := rfl
                  have d13 : pt7.den S1 = some [b2i false] := fls (p := (IntKind.i64.wrap (S1.ρ 3 + (1 : Int))) ≠ (IntKind.i64.wrap (S1.ρ 3 + (1 : Int)))) (fun hh => hh c13)
                  obtain ⟨o3, h_o3⟩ : ∃ o : Int, o = (IntKind.i64.wrap (S1.ρ 3 + (1 : Int))) := ⟨_, rfl⟩
                  obtain ⟨o4, h_o4⟩ : ∃ o : Int, o = (IntKind.i64.wrap (S1.ρ 4 + (1 : Int))) := ⟨_, rfl⟩
                  obtain ⟨o21, h_o21⟩ : ∃ o : Int, o = (b2i (decide (S1.ρ 21 ≠ (0 : Int)))) := ⟨_, rfl⟩
                  have u4 := h_o4
                  rw [w_i64 (by omega) (by omega)] at u4
                  have u3 := h_o3
                  rw [w_i64 (by omega) (by omega)] at u3
                  have inv : InvT S n1 n2 (n2 - (i + 1)) (S1.set (upd S1.ρ [(3, o3), (4, o4), (21, o21)]) [(60, (fun j => ifE j (S1.Φ 41 [S1.ρ 4]) (S1.Φ 43 [S1.ρ 4]) ((fun j => S1.Φ 60 [j]) j)))] 60 rfl hK) := ⟨i + 1, by omega, rfl, h1, h2, (show o4 = ((i + 1 : Nat) : Int) by omega), h5, h6, (show 0 ≤ o3 by omega), (show o3 ≤ ((i + 1 : Nat) : Int) by omega), (tell_f h41 c1 h21 h_o21), hI, fun f hf l => (Sy.set_low hf).trans (hΦ f hf l)⟩
                  exact .inl ⟨_, _, (by omega : n2 - i = n2 - (i + 1) + 1), inv, _, [], _, 1000, _, [], (ai pt7 false d13 (ai pt6 true d12 (ai pt5 true d11 (ai pt14 false d10 (ai pt10 true d9 (ai pt9 true d8 (ai pt8 false d7 (ai pt4 false d6 (ai pt13 true d5 (ai pt12 false d4 (ai pt3 false d3 (ai pt2 true d2 (ai pt1 false d1 (ai pt0 true d0 (AlOk.nil _))))))))))))))), hcs, LkOk.no _ _ _ _, (av 1 .i64 (av 2 .i64 (an 3 (.bin .add (.var .i64 3) (.lit .i64 1)) (sm h_o3.symm) (an 4 (.bin .add (.var .i64 4) (.lit .i64 1)) (sm h_o4.symm) (av 5 .i64 (ar 60 (ar_upd (.app .i64 41 (.cons (.var .i64 4) .nil)) (.app .u64 43 (.cons (.var .i64 4) .nil)) (i := (S1.Φ 41 [S1.ρ 4])) (v := (S1.Φ 43 [S1.ρ 4])) rfl rfl (by kernel_rfl) (ar_var 60)) (av 6 .i64 (ar 61 (ar_var 61) (av 6 .i64 (av 5 .i64 (an 21 (.bin .neq (.var .u8 21) (.lit .u8 0)) (sm h_o21.symm) (av 20 .i64 (av 19 .i64 (av 18 .i64 (av 17 .u64 (av 16 .u64 (av 15 .u64 (av 14 .u64 (av 13 .u64 (av 12 .u8 (av 11 .i64 (av 10 .i64 (an 3 (.bin .add (.var .i64 3) (.lit .i64 1)) (sm h_o3.symm) (av 5 .i64 (ar 60 (ar_upd (.app .i64 41 (.cons (.var .i64 4) .nil)) (.app .u64 43 (.cons (.var .i64 4) .nil)) (i := (S1.Φ 41 [S1.ρ 4])) (v := (S1.Φ 43 [S1.ρ 4])) rfl rfl (by kernel_rfl) (ar_var 60)) (av 6 .i64 (ar 61 (ar_var 61) (av 6 .i64 (av 5 .i64 (an 3 (.bin .add (.var .i64 3) (.lit .i64 1)) (sm h_o3.symm) (asg_nil rfl))))))))))))))))))))))))))))))), fun G => by kernel_rfl⟩
                · have d10 : pt14.den S1 = some [b2i true] := tr (p := (S1.Φ 60 [(S1.Φ 41 [S1.ρ 4])]) ≠ (S1.Φ 42 [S1.ρ 4])) c10
                  have c11 : ¬ ((S1.Φ 40 [S1.ρ 4]) < (1 : Int)) := by omega
                  have d11 : pt5.den S1 = some [b2i true] := tr (p := (1 : Int) ≤ (S1.Φ 40 [S1.ρ 4])) (Int.not_lt.1 c11)
                  have c12 : ¬ ((6 : Int) < (S1.Φ 40 [S1.ρ 4])) := by omega
                  have d12 : pt6.den S1 = some [b2i true] := tr (p := (S1.Φ 40 [S1.ρ 4]) ≤ (6 : Int)) (Int.not_lt.1 c12)
                  have c13 : (IntKind.i64.wrap (S1.ρ 3 + (1 : Int))) = (IntKind.i64.wrap (S1.ρ 3 + (1 : Int))) := rfl
                  have d13 : pt7.den S1 = some [b2i false] := fls (p := (IntKind.i64.wrap (S1.ρ 3 + (1 : Int))) ≠ (IntKind.i64.wrap (S1.ρ 3 + (1 : Int)))) (fun hh => hh c13)
                  obtain ⟨o3, h_o3⟩ : ∃ o : Int, o = (IntKind.i64.wrap (S1.ρ 3 + (1 : Int))) := ⟨_, rfl⟩
                  obtain ⟨o4, h_o4⟩ : ∃ o : Int, o = (IntKind.i64.wrap (S1.ρ 4 + (1 : Int))) := ⟨_, rfl⟩
                  obtain ⟨o21, h_o21⟩ : ∃ o : Int, o = (b2i (decide (S1.ρ 21 ≠ (0 : Int)))) := ⟨_, rfl⟩
                  have u4 := h_o4
                  rw [w_i64 (by omega) (by omega)] at u4
                  have u3 := h_o3
                  rw [w_i64 (by omega) (by omega)] at u3
                  have inv : InvT S n1 n2 (n2 - (i + 1)) (S1.set (upd S1.ρ [(3, o3), (4, o4), (21, o21)]) [] 60 rfl hK) := ⟨i + 1, by omega, rfl, h1, h2, (show o4 = ((i + 1 : Nat) : Int) by omega), h5, h6, (show 0 ≤ o3 by omega), (show o3 ≤ ((i + 1 : Nat) : Int) by omega), (tell_f h41 c1 h21 h_o21), hI, fun f hf l => (Sy.set_low hf).trans (hΦ f hf l)⟩
                  exact .inl ⟨_, _, (by omega : n2 - i = n2 - (i + 1) + 1), inv, _, [], _, 1000, _, [], (ai pt7 false d13 (ai pt6 true d12 (ai pt5 true d11 (ai pt14 true d10 (ai pt10 true d9 (ai pt9 true d8 (ai pt8 false d7 (ai pt4 false d6 (ai pt13 true d5 (ai pt12 false d4 (ai pt3 false d3 (ai pt2 true d2 (ai pt1 false d1 (ai pt0 true d0 (AlOk.nil _))))))))))))))), hcs, LkOk.no _ _ _ _, (av 1 .i64 (av 2 .i64 (an 3 (.bin .add (.var .i64 3) (.lit .i64 1)) (sm h_o3.symm) (an 4 (.bin .add (.var .i64 4) (.lit .i64 1)) (sm h_o4.symm) (av 5 .i64 (ar 60 (ar_var 60) (av 6 .i64 (ar 61 (ar_var 61) (av 6 .i64 (av 5 .i64 (an 21 (.bin .neq (.var .u8 21) (.lit .u8 0)) (sm h_o21.symm) (av 20 .i64 (av 19 .i64 (av 18 .i64 (av 17 .u64 (av 16 .u64 (av 15 .u64 (av 14 .u64 (av 13 .u64 (av 12 .u8 (av 11 .i64 (av 10 .i64 (an 3 (.bin .add (.var .i64 3) (.lit .i64 1)) (sm h_o3.symm) (av 5 .i64 (ar 60 (ar_var 60) (av 6 .i64 (ar 61 (ar_var 61) (av 6 .i64 (av 5 .i64 (an 3 (.bin .add (.var .i64 3) (.lit .i64 1)) (sm h_o3.symm) (asg_nil rfl))))))))))))))))))))))))))))))), fun G => by kernel_rfl⟩
              · have d7 : pt8.den S1 = some [b2i true] := tr (p := S1.ρ 5 ≤ (S1.Φ 41 [S1.ρ 4])) (Int.not_lt.1 c7)
                have c8 : ¬ ((S1.Φ 40 [S1.ρ 4]) < (1 : Int)) := by omega
                have d8 : pt5.den S1 = some [b2i true] := tr (p := (1 : Int) ≤ (S1.Φ 40 [S1.ρ 4])) (Int.not_lt.1 c8)
                have c9 : ¬ ((6 : Int) < (S1.Φ 40 [S1.ρ 4])) := by omega
                have d9 : pt6.den S1 = some [b2i true] := tr (p := (S1.Φ 40 [S1.ρ 4]) ≤ (6 : Int)) (Int.not_lt.1 c9)
                have c10 : (IntKind.i64.wrap (S1.ρ 3 + (1 : Int))) = (IntKind.i64.wrap (S1.ρ 3 + (1 : Int))) := rfl
                have d10 : pt7.den S1 = some [b2i false] := fls (p := (IntKind.i64.wrap (S1.ρ 3 + (1 : Int))) ≠ (IntKind.i64.wrap (S1.ρ 3 + (1 : Int)))) (fun hh => hh c10)
                obtain ⟨o3, h_o3⟩ : ∃ o : Int, o = (IntKind.i64.wrap (S1.ρ 3 + (1 : Int))) := ⟨_, rfl⟩
                obtain ⟨o4, h_o4⟩ : ∃ o : Int, o = (IntKind.i64.wrap (S1.ρ 4 + (1 : Int))) := ⟨_, rfl⟩
                obtain ⟨o21, h_o21⟩ : ∃ o : Int, o = (b2i (decide (S1.ρ 21 ≠ (0 : Int)))) := ⟨_, rfl⟩
                have u4 := h_o4
                rw [w_i64 (by omega) (by omega)] at u4
                have u3 := h_o3
                rw [w_i64 (by omega) (by omega)] at u3
                have inv : InvT S n1 n2 (n2 - (i + 1)) (S1.set (upd S1.ρ [(3, o3), (4, o4), (21, o21)]) [] 60 rfl hK) := ⟨i + 1, by omega, rfl, h1, h2, (show o4 = ((i + 1 : Nat) : Int) by omega), h5, h6, (show 0 ≤ o3 by omega), (show o3 ≤ ((i + 1 : Nat) : Int) by omega), (tell_f h41 c1 h21 h_o21), hI, fun f hf l => (Sy.set_low hf).trans (hΦ f hf l)⟩
                exact .inl ⟨_, _, (by omega : n2 - i = n2 - (i + 1) + 1), inv, _, [], _, 1000, _, [], (ai pt7 false d10 (ai pt6 true d9 (ai pt5 true d8 (ai pt8 true d7 (ai pt4 false d6 (ai pt13 true d5 (ai pt12 false d4 (ai pt3 false d3 (ai pt2 true d2 (ai pt1 false d1 (ai pt0 true d0 (AlOk.nil _)))))))))))), hcs, LkOk.no _ _ _ _, (av 1 .i64 (av 2 .i64 (an 3 (.bin .add (.var .i64 3) (.lit .i64 1)) (sm h_o3.symm) (an 4 (.bin .add (.var .i64 4) (.lit .i64 1)) (sm h_o4.symm) (av 5 .i64 (ar 60 (ar_var 60) (av 6 .i64 (ar 61 (ar_var 61) (av 6 .i64 (av 5 .i64 (an 21 (.bin .neq (.var .u8 21) (.lit .u8 0)) (sm h_o21.symm) (av 20 .i64 (av 19 .i64 (av 18 .i64 (av 17 .u64 (av 16 .u64 (av 15 .u64 (av 14 .u64 (av 13 .u64 (av 12 .u8 (av 11 .i64 (av 10 .i64 (an 3 (.bin .add (.var .i64 3) (.lit .i64 1)) (sm h_o3.symm) (av 5 .i64 (ar 60 (ar_var 60) (av 6 .i64 (ar 61 (ar_var 61) (av 6 .i64 (av 5 .i64 (an 3 (.bin .add (.var .i64 3) (.lit .i64 1)) (sm h_o3.symm) (asg_nil rfl))))))))))))))))))))))))))))))), fun G => by kernel_rfl⟩
          · have d5 : pt13.den S1 = some [b2i false] := fls (p := (S1.Φ 40 [S1.ρ 4]) = (3 : Int)) c5
            by_cases c6 : (S1.Φ 40 [S1.ρ 4]) = (4 : Int)
            · have d6 : pt15.den S1 = some [b2i true] := tr (p := (S1.Φ 40 [S1.ρ 4]) = (4 : Int)) c6
              by_cases c7 : (S1.Φ 41 [S1.ρ 4]) < (0 : Int)
              · have d7 : pt4.den S1 = some [b2i true] := tr (p := (S1.Φ 41 [S1.ρ 4]) < (0 : Int)) c7
                have c8 : ¬ ((S1.Φ 40 [S1.ρ 4]) < (1 : Int)) := by omega
                have d8 : pt5.den S1 = some [b2i true] := tr (p := (1 : Int) ≤ (S1.Φ 40 [S1.ρ 4])) (Int.not_lt.1 c8)
                have c9 : ¬ ((6 : Int) < (S1.Φ 40 [S1.ρ 4])) := by omega
                have d9 : pt6.den S1 = some [b2i true] := tr (p := (S1.Φ 40 [S1.ρ 4]) ≤ (6 : Int)) (Int.not_lt.1 c9)
                have c10 : (IntKind.i64.wrap (S1.ρ 3 + (1 : Int))) = (IntKind.i64.wrap (S1.ρ 3 + (1 : Int))) := rfl
                have d10 : pt7.den S1 = some [b2i false] := fls (p := (IntKind.i64.wrap (S1.ρ 3 + (1 : Int))) ≠ (IntKind.i64.wrap (S1.ρ 3 + (1 : Int)))) (fun hh => hh c10)
                obtain ⟨o3, h_o3⟩ : ∃ o : Int, o = (IntKind.i64.wrap (S1.ρ 3 + (1 : Int))) := ⟨_, rfl⟩
                obtain ⟨o4, h_o4⟩ : ∃ o : Int, o = (IntKind.i64.wrap (S1.ρ 4 + (1 : Int))) := ⟨_, rfl⟩
                obtain ⟨o21, h_o21⟩ : ∃ o : Int, o = (b2i (decide (S1.ρ 21 ≠ (0 : Int)))) := ⟨_, rfl⟩
                have u4 := h_o4
                rw [w_i64 (by omega) (by omega)] at u4
                have u3 := h_o3
                rw [w_i64 (by omega) (by omega)] at u3
                have inv : InvT S n1 n2 (n2 - (i + 1)) (S1.set (upd S1.ρ [(3, o3), (4, o4), (21, o21)]) [] 60 rfl hK) := ⟨i + 1, by omega, rfl, h1, h2, (show o4 = ((i + 1 : Nat) : Int) by omega), h5, h6, (show 0 ≤ o3 by omega), (show o3 ≤ ((i + 1 : Nat) : Int) by omega), (tell_f h41 c1 h21 h_o21), hI, fun f hf l => (Sy.set_low hf).trans (hΦ f hf l)⟩
                exact .inl ⟨_, _, (by omega : n2 - i = n2 - (i + 1) + 1), inv, _, [], _, 1000, _, [], (ai pt7 false d10 (ai pt6 true d9 (ai pt5 true d8 (ai pt4 true d7 (ai pt15 true d6 (ai pt13 false d5 (ai pt12 false d4 (ai pt3 false d3 (ai pt2 true d2 (ai pt1 false d1 (ai pt0 true d0 (AlOk.nil _)))))))))))), hcs, LkOk.no _ _ _ _, (av 1 .i64 (av 2 .i64 (an 3 (.bin .add (.var .i64 3) (.lit .i64 1)) (sm h_o3.symm) (an 4 (.bin .add (.var .i64 4) (.lit .i64 1)) (sm h_o4.symm) (av 5 .i64 (ar 60 (ar_var 60) (av 6 .i64 (ar 61 (ar_var 61) (av 6 .i64 (av 5 .i64 (an 21 (.bin .neq (.var .u8 21) (.lit .u8 0)) (sm h_o21.symm) (av 20 .i64 (av 19 .i64 (av 18 .i64 (av 17 .u64 (av 16 .u64 (av 15 .u64 (av 14 .u64 (av 13 .u64 (av 12 .u8 (av 11 .i64 (av 10 .i64 (an 3 (.bin .add (.var .i64 3) (.lit .i64 1)) (sm h_o3.symm) (av 5 .i64 (ar 60 (ar_var 60) (av 6 .i64 (ar 61 (ar_var 61) (av 6 .i64 (av 5 .i64 (an 3 (.bin .add (.var .i64 3) (.lit .i64 1)) (sm h_o3.symm) (asg_nil rfl))))))))))))))))))))))))))))))), fun G => by kernel_rfl⟩
              · have d7 : pt4.den S1 = some [b2i false] := fls (p := (S1.Φ 41 [S1.ρ 4]) < (0 : Int)) c7
                by_cases c8 : (S1.Φ 41 [S1.ρ 4]) < S1.ρ 5
                · have d8 : pt8.den S1 = some [b2i false] := fls (p := S1.ρ 5 ≤ (S1.Φ 41 [S1.ρ 4])) (Int.not_le.2 c8)
                  have d9 : pt9.den S1 = some [b2i true] := tr (p := (0 : Int) ≤ (S1.Φ 41 [S1.ρ 4])) (Int.not_lt.1 c7)
                  have d10 : pt10.den S1 = some [b2i true] := tr (p := (S1.Φ 41 [S1.ρ 4]) < S1.ρ 5) c8
                  have c11 : (S1.Φ 60 [(S1.Φ 41 [S1.ρ 4])]) = (S1.Φ 60 [(S1.Φ 41 [S1.ρ 4])]) := rfl
                  have d11 : pt11.den S1 = some [b2i false] := fls (p := (S1.Φ 60 [(S1.Φ 41 [S1.ρ 4])]) ≠ (S1.Φ 60 [(S1.Φ 41 [S1.ρ 4])])) (fun hh => hh c11)
                  have c12 : ¬ ((S1.Φ 40 [S1.ρ 4]) < (1 : Int)) := by omega
                  have d12 : pt5.den S1 = some [b2i true] := tr (p := (1 : Int) ≤ (S1.Φ 40 [S1.ρ 4])) (Int.not_lt.1 c12)
                  have c13 : ¬ ((6 : Int) < (S1.Φ 40 [S1.ρ 4])) := by omega
                  have d13 : pt6.den S1 = some [b2i true] := tr (p := (S1.Φ 40 [S1.ρ 4]) ≤ (6 : Int)) (Int.not_lt.1 c13)
                  have c14 : (IntKind.i64.wrap (S1.ρ 3 + (1 : Int))) = (IntKind.i64.wrap (S1.ρ 3 + (1 : Int))) := rfl
                  have d14 : pt7.den S1 = some [b2i false] := fls (p := (IntKind.i64.wrap (S1.ρ 3 + (1 : Int))) ≠ (IntKind.i64.wrap (S1.ρ 3 + (1 : Int)))) (fun hh => hh c14)
                  obtain ⟨o3, h_o3⟩ : ∃ o : Int, o = (IntKind.i64.wrap (S1.ρ 3 + (1 : Int))) := ⟨_, rfl⟩
                  obtain ⟨o4, h_o4⟩ : ∃ o : Int, o = (IntKind.i64.wrap (S1.ρ 4 + (1 : Int))) := ⟨_, rfl⟩
                  obtain ⟨o21, h_o21⟩ : ∃ o : Int, o = (b2i (decide (S1.ρ 21 ≠ (0 : Int)))) := ⟨_, rfl⟩
                  have u4 := h_o4
                  rw [w_i64 (by omega) (by omega)] at u4
                  have u3 := h_o3
                  rw [w_i64 (by omega) (by omega)] at u3
                  have inv : InvT S n1 n2 (n2 - (i + 1)) (S1.set (upd S1.ρ [(3, o3), (4, o4), (21, o21)]) [(60, (fun j => ifE j (S1.Φ 41 [S1.ρ 4]) (IntKind.u64.wrap ((S1.Φ 60 [(S1.Φ 41 [S1.ρ 4])]) + (S1.Φ 42 [S1.ρ 4]))) ((fun j => S1.Φ 60 [j]) j)))] 60 rfl hK) := ⟨i + 1, by omega, rfl, h1, h2, (show o4 = ((i + 1 : Nat) : Int) by omega), h5, h6, (show 0 ≤ o3 by omega), (show o3 ≤ ((i + 1 : Nat) : Int) by omega), (tell_f h41 c1 h21 h_o21), hI, fun f hf l => (Sy.set_low hf).trans (hΦ f hf l)⟩
                  exact .inl ⟨_, _, (by omega : n2 - i = n2 - (i + 1) + 1), inv, _, [], _, 1000, _, [], (ai pt7 false d14 (ai pt6 true d13 (ai pt5 true d12 (ai pt11 false d11 (ai pt10 true d10 (ai pt9 true d9 (ai pt8 false d8 (ai pt4 false d7 (ai pt15 true d6 (ai pt13 false d5 (ai pt12 false d4 (ai pt3 false d3 (ai pt2 true d2 (ai pt1 false d1 (ai pt0 true d0 (AlOk.nil _)))))))))))))))), hcs, LkOk.no _ _ _ _, (av 1 .i64 (av 2 .i64 (an 3 (.bin .add (.var .i64 3) (.lit .i64 1)) (sm h_o3.symm) (an 4 (.bin .add (.var .i64 4) (.lit .i64 1)) (sm h_o4.symm) (av 5 .i64 (ar 60 (ar_upd (.app .i64 41 (.cons (.var .i64 4) .nil)) (.bin .add (.app .u64 60 (.cons (.app .i64 41 (.cons (.var .i64 4) .nil)) .nil)) (.app .u64 42 (.cons (.var .i64 4) .nil))) (i := (S1.Φ 41 [S1.ρ 4])) (v := (IntKind.u64.wrap ((S1.Φ 60 [(S1.Φ 41 [S1.ρ 4])]) + (S1.Φ 42 [S1.ρ 4])))) rfl rfl (by kernel_rfl) (ar_var 60)) (av 6 .i64 (ar 61 (ar_var 61) (av 6 .i64 (av 5 .i64 (an 21 (.bin .neq (.var .u8 21) (.lit .u8 0)) (sm h_o21.symm) (av 20 .i64 (av 19 .i64 (av 18 .i64 (av 17 .u64 (av 16 .u64 (av 15 .u64 (av 14 .u64 (av 13 .u64 (av 12 .u8 (av 11 .i64 (av 10 .i64 (an 3 (.bin .add (.var .i64 3) (.lit .i64 1)) (sm h_o3.symm) (av 5 .i64 (ar 60 (ar_upd (.app .i64 41 (.cons (.var .i64 4) .nil)) (.bin .add (.app .u64 60 (.cons (.app .i64 41 (.cons (.var .i64 4) .nil)) .nil)) (.app .u64 42 (.cons (.var .i64 4) .nil))) (i := (S1.Φ 41 [S1.ρ 4])) (v := (IntKind.u64.wrap ((S1.Φ 60 [(S1.Φ 41 [S1.ρ 4])]) + (S1.Φ 42 [S1.ρ 4])))) rfl rfl (by kernel_rfl) (ar_var 60)) (av 6 .i64 (ar 61 (ar_var 61) (av 6 .i64 (av 5 .i64 (an 3 (.bin .add (.var .i64 3) (.lit .i64 1)) (sm h_o3.symm) (asg_nil rfl))))))))))))))))))))))))))))))), fun G => by kernel_rfl⟩
                · have d8 : pt8.den S1 = some [b2i true] := tr (p := S1.ρ 5 ≤ (S1.Φ 41 [S1.ρ 4])) (Int.not_lt.1 c8)
                  have c9 : ¬ ((S1.Φ 40 [S1.ρ 4]) < (1 : Int)) := by omega
                  have d9 : pt5.den S1 = some [b2i true] := tr (p := (1 : Int) ≤ (S1.Φ 40 [S1.ρ 4])) (Int.not_lt.1 c9)
                  have c10 : ¬ ((6 : Int) < (S1.Φ 40 [S1.ρ 4])) := by omega
                  have d10 : pt6.den S1 = some [b2i true] := tr (p := (S1.Φ 40 [S1.ρ 4]) ≤ (6 : Int)) (Int.not_lt.1 c10)
                  have c11 : (IntKind.i64.wrap (S1.ρ 3 + (1 : Int))) = (IntKind.i64.wrap (S1.ρ 3 + (1 : Int))) := rfl
                  have d11 : pt7.den S1 = some [b2i false] := fls (p := (IntKind.i64.wrap (S1.ρ 3 + (1 : Int))) ≠ (IntKind.i64.wrap (S1.ρ 3 + (1 : Int)))) (fun hh => hh c11)
                  obtain ⟨o3, h_o3⟩ : ∃ o : Int, o = (IntKind.i64.wrap (S1.ρ 3 + (1 : Int))) := ⟨_, rfl⟩
                  obtain ⟨o4, h_o4⟩ : ∃ o : Int, o = (IntKind.i64.wrap (S1.ρ 4 + (1 : Int))) := ⟨_, rfl⟩
                  obtain ⟨o21, h_o21⟩ : ∃ o : Int, o = (b2i (decide (S1.ρ 21 ≠ (0 : Int)))) := ⟨_, rfl⟩
                  have u4 := h_o4
                  rw [w_i64 (by omega) (by omega)] at u4
                  have u3 := h_o3
                  rw [w_i64 (by omega) (by omega)] at u3
                  have inv : InvT S n1 n2 (n2 - (i + 1)) (S1.set (upd S1.ρ [(3, o3), (4, o4), (21, o21)]) [] 60 rfl hK) := ⟨i + 1, by omega, rfl, h1, h2, (show o4 = ((i + 1 : Nat) : Int) by omega), h5, h6, (show 0 ≤ o3 by omega), (show o3 ≤ ((i + 1 : Nat) : Int) by omega), (tell_f h41 c1 h21 h_o21), hI, fun f hf l => (Sy.set_low hf).trans (hΦ f hf l)⟩
                  exact .inl ⟨_, _, (by omega : n2 - i = n2 - (i + 1) + 1), inv, _, [], _, 1000, _, [], (ai pt7 false d11 (ai pt6 true d10 (ai pt5 true d9 (ai pt8 true d8 (ai pt4 false d7 (ai pt15 true d6 (ai pt13 false d5 (ai pt12 false d4 (ai pt3 false d3 (ai pt2 true d2 (ai pt1 false d1 (ai pt0 true d0 (AlOk.nil _))))))))))))), hcs, LkOk.no _ _ _ _, (av 1 .i64 (av 2 .i64 (an 3 (.bin .add (.var .i64 3) (.lit .i64 1)) (sm h_o3.symm) (an 4 (.bin .add (.var .i64 4) (.lit .i64 1)) (sm h_o4.symm) (av 5 .i64 (ar 60 (ar_var 60) (av 6 .i64 (ar 61 (ar_var 61) (av 6 .i64 (av 5 .i64 (an 21 (.bin .neq (.var .u8 21) (.lit .u8 0)) (sm h_o21.symm) (av 20 .i64 (av 19 .i64 (av 18 .i64 (av 17 .u64 (av 16 .u64 (av 15 .u64 (av 14 .u64 (av 13 .u64 (av 12 .u8 (av 11 .i64 (av 10 .i64 (an 3 (.bin .add (.var .i64 3) (.lit .i64 1)) (sm h_o3.symm) (av 5 .i64 (ar 60 (ar_var 60) (av 6 .i64 (ar 61 (ar_var 61) (av 6 .i64 (av 5 .i64 (an 3 (.bin .add (.var .i64 3) (.lit .i64 1)) (sm h_o3.symm) (asg_nil rfl))))))))))))))))))))))))))))))), fun G => by kernel_rfl⟩
            · have d6 : pt15.den S1 = some [b2i false] := fls (p := (S1.Φ 40 [S1.ρ 4]) = (4 : Int)) c6
              by_cases c7 : (S1.Φ 40 [S1.ρ 4]) = (5 : Int)
              · have d7 : pt16.den S1 = some [b2i true] := tr (p := (S1.Φ 40 [S1.ρ 4]) = (5 : Int)) c7
                by_cases c8 : (S1.Φ 41 [S1.ρ 4]) < (0 : Int)
                · have d8 : pt4.den S1 = some [b2i true] := tr (p := (S1.Φ 41 [S1.ρ 4]) < (0 : Int)) c8
                  have c9 : ¬ ((S1.Φ 40 [S1.ρ 4]) < (1 : Int)) := by omega
                  have d9 : pt5.den S1 = some [b2i true] := tr (p := (1 : Int) ≤ (S1.Φ 40 [S1.ρ 4])) (Int.not_lt.1 c9)
                  have c10 : ¬ ((6 : Int) < (S1.Φ 40 [S1.ρ 4])) := by omega
                  have d10 : pt6.den S1 = some [b2i true] := tr (p := (S1.Φ 40 [S1.ρ 4]) ≤ (6 : Int)) (Int.not_lt.1 c10)
                  have c11 : (IntKind.i64.wrap (S1.ρ 3 + (1 : Int))) = (IntKind.i64.wrap (S1.ρ 3 + (1 : Int))) := rfl
                  have d11 : pt7.den S1 = some [b2i false] := fls (p := (IntKind.i64.wrap (S1.ρ 3 + (1 : Int))) ≠ (IntKind.i64.wrap (S1.ρ 3 + (1 : Int)))) (fun hh => hh c11)
                  obtain ⟨o3, h_o3⟩ : ∃ o : Int, o = (IntKind.i64.wrap (S1.ρ 3 + (1 : Int))) := ⟨_, rfl⟩
                  obtain ⟨o4, h_o4⟩ : ∃ o : Int, o = (IntKind.i64.wrap (S1.ρ 4 + (1 : Int))) := ⟨_, rfl⟩
                  obtain ⟨o21, h_o21⟩ : ∃ o : Int, o = (b2i (decide (S1.ρ 21 ≠ (0 : Int)))) := ⟨_, rfl⟩
                  have u4 := h_o4
                  rw [w_i64 (by omega) (by omega)] at u4
                  have u3 := h_o3
                  rw [w_i64 (by omega) (by omega)] at u3
                  have inv : InvT S n1 n2 (n2 - (i + 1)) (S1.set (upd S1.ρ [(3, o3), (4, o4), (21, o21)]) [] 60 rfl hK) := ⟨i + 1, by omega, rfl, h1, h2, (show o4 = ((i + 1 : Nat) : Int) by omega), h5, h6, (show 0 ≤ o3 by omega), (show o3 ≤ ((i + 1 : Nat) : Int) by omega), (tell_f h41 c1 h21 h_o21), hI, fun f hf l => (Sy.set_low hf).trans (hΦ f hf l)⟩
                  exact .inl ⟨_, _, (by omega : n2 - i = n2 - (i + 1) + 1), inv, _, [], _, 1000, _, [], (ai pt7 false d11 (ai pt6 true d10 (ai pt5 true d9 (ai pt4 true d8 (ai pt16 true d7 (ai pt15 false d6 (ai pt13 false d5 (ai pt12 false d4 (ai pt3 false d3 (ai pt2 true d2 (ai pt1 false d1 (ai pt0 true d0 (AlOk.nil _))))))))))))), hcs, LkOk.no _ _ _ _, (av 1 .i64 (av 2 .i64 (an 3 (.bin .add (.var .i64 3) (.lit .i64 1)) (sm h_o3.symm) (an 4 (.bin .add (.var .i64 4) (.lit .i64 1)) (sm h_o4.symm) (av 5 .i64 (ar 60 (ar_var 60) (av 6 .i64 (ar 61 (ar_var 61) (av 6 .i64 (av 5 .i64 (an 21 (.bin .neq (.var .u8 21) (.lit .u8 0)) (sm h_o21.symm) (av 20 .i64 (av 19 .i64 (av 18 .i64 (av 17 .u64 (av 16 .u64 (av 15 .u64 (av 14 .u64 (av 13 .u64 (av 12 .u8 (av 11 .i64 (av 10 .i64 (an 3 (.bin .add (.var .i64 3) (.lit .i64 1)) (sm h_o3.symm) (av 5 .i64 (ar 60 (ar_var 60) (av 6 .i64 (ar 61 (ar_var 61) (av 6 .i64 (av 5 .i64 (an 3 (.bin .add (.var .i64 3) (.lit .i64 1)) (sm h_o3.symm) (asg_nil rfl))))))))))))))))))))))))))))))), fun G => by kernel_rfl⟩
                · have d8 : pt4.den S1 = some [b2i false] := fls (p := (S1.Φ 41 [S1.ρ 4]) < (0 : Int)) c8
                  by_cases c9 : (S1.Φ 41 [S1.ρ 4]) < S1.ρ 6
                  · have d9 : pt17.den S1 = some [b2i false] := fls (p := S1.ρ 6 ≤ (S1.Φ 41 [S1.ρ 4])) (Int.not_le.2 c9)
                    have d10 : pt9.den S1 = some [b2i true] := tr (p := (0 : Int) ≤ (S1.Φ 41 [S1.ρ 4])) (Int.not_lt.1 c8)
                    have d11 : pt18.den S1 = some [b2i true] := tr (p := (S1.Φ 41 [S1.ρ 4]) < S1.ρ 6) c9
                    have c12 : (IntKind.u64.wrap ((IntKind.u8.wrap ((IntKind.u64.wrap ((S1.Φ 61 [(S1.Φ 41 [S1.ρ 4])]))))))) = (IntKind.u64.wrap ((IntKind.u8.wrap ((IntKind.u64.wrap ((S1.Φ 61 [(S1.Φ 41 [S1.ρ 4])]))))))) := rfl
                    have d12 : pt19.den S1 = some [b2i false] := fls (p := (IntKind.u64.wrap ((IntKind.u8.wrap ((IntKind.u64.wrap ((S1.Φ 61 [(S1.Φ 41 [S1.ρ 4])]))))))) ≠ (IntKind.u64.wrap ((IntKind.u8.wrap ((IntKind.u64.wrap ((S1.Φ 61 [(S1.Φ 41 [S1.ρ 4])])))))))) (fun hh => hh c12)
                    have c13 : ¬ ((S1.Φ 40 [S1.ρ 4]) < (1 : Int)) := by omega
                    have d13 : pt5.den S1 = some [b2i true] := tr (p := (1 : Int) ≤ (S1.Φ 40 [S1.ρ 4])) (Int.not_lt.1 c13)
                    have c14 : ¬ ((6 : Int) < (S1.Φ 40 [S1.ρ 4])) := by omega
                    have d14 : pt6.den S1 = some [b2i true] := tr (p := (S1.Φ 40 [S1.ρ 4]) ≤ (6 : Int)) (Int.not_lt.1 c14)
                    have c15 : (IntKind.i64.wrap (S1.ρ 3 + (1 : Int))) = (IntKind.i64.wrap (S1.ρ 3 + (1 : Int))) := rfl
                    have d15 : pt7.den S1 = some [b2i false] := fls (p := (IntKind.i64.wrap (S1.ρ 3 + (1 : Int))) ≠ (IntKind.i64.wrap (S1.ρ 3 + (1 : Int)))) (fun hh => hh c15)
                    obtain ⟨o3, h_o3⟩ : ∃ o : Int, o = (IntKind.i64.wrap (S1.ρ 3 + (1 : Int))) := ⟨_, rfl⟩
                    obtain ⟨o4, h_o4⟩ : ∃ o : Int, o = (IntKind.i64.wrap (S1.ρ 4 + (1 : Int))) := ⟨_, rfl⟩
                    obtain ⟨o21, h_o21⟩ : ∃ o : Int, o = (b2i (decide (S1.ρ 21 ≠ (0 : Int)))) := ⟨_, rfl⟩
                    have u4 := h_o4
                    rw [w_i64 (by omega) (by omega)] at u4
                    have u3 := h_o3
                    rw [w_i64 (by omega) (by omega)] at u3
                    have inv : InvT S n1 n2 (n2 - (i + 1)) (S1.set (upd S1.ρ [(3, o3), (4, o4), (21, o21)]) [] 60 rfl hK) := ⟨i + 1, by omega, rfl, h1, h2, (show o4 = ((i + 1 : Nat) : Int) by omega), h5, h6, (show 0 ≤ o3 by omega), (show o3 ≤ ((i + 1 : Nat) : Int) by omega), (tell_f h41 c1 h21 h_o21), hI, fun f hf l => (Sy.set_low hf).trans (hΦ f hf l)⟩
                    exact .inl ⟨_, _, (by omega : n2 - i = n2 - (i + 1) + 1), inv, _, [], _, 1000, _, [], (ai pt7 false d15 (ai pt6 true d14 (ai pt5 true d13 (ai pt19 false d12 (ai pt18 true d11 (ai pt9 true d10 (ai pt17 false d9 (ai pt4 false d8 (ai pt16 true d7 (ai pt15 false d6 (ai pt13 false d5 (ai pt12 false d4 (ai pt3 false d3 (ai pt2 true d2 (ai pt1 false d1 (ai pt0 true d0 (AlOk.nil _))))))))))))))))), hcs, LkOk.no _ _ _ _, (av 1 .i64 (av 2 .i64 (an 3 (.bin .add (.var .i64 3) (.lit .i64 1)) (sm h_o3.symm) (an 4 (.bin .add (.var .i64 4) (.lit .i64 1)) (sm h_o4.symm) (av 5 .i64 (ar 60 (ar_var 60) (av 6 .i64 (ar 61 (ar_var 61) (av 6 .i64 (av 5 .i64 (an 21 (.bin .neq (.var .u8 21) (.lit .u8 0)) (sm h_o21.symm) (av 20 .i64 (av 19 .i64 (av 18 .i64 (av 17 .u64 (av 16 .u64 (av 15 .u64 (av 14 .u64 (av 13 .u64 (av 12 .u8 (av 11 .i64 (av 10 .i64 (an 3 (.bin .add (.var .i64 3) (.lit .i64 1)) (sm h_o3.symm) (av 5 .i64 (ar 60 (ar_var 60) (av 6 .i64 (ar 61 (ar_var 61) (av 6 .i64 (av 5 .i64 (an 3 (.bin .add (.var .i64 3) (.lit .i64 1)) (sm h_o3.symm) (asg_nil rfl))))))))))))))))))))))))))))))), fun G => by kernel_rfl⟩
                  · have d9 : pt17.den S1 = some [b2i true] := tr (p := S1.ρ 6 ≤ (S1.Φ 41 [S1.ρ 4])) (Int.not_lt.1 c9)
                    have c10 : ¬ ((S1.Φ 40 [S1.ρ 4]) < (1 : Int)) := by omega
                    have d10 : pt5.den S1 = some [b2i true] := tr (p := (1 : Int) ≤ (S1.Φ 40 [S1.ρ 4])) (Int.not_lt.1 c10)
                    have c11 : ¬ ((6 : Int) < (S1.Φ 40 [S1.ρ 4])) := by omega
                    have d11 : pt6.den S1 = some [b2i true] := tr (p := (S1.Φ 40 [S1.ρ 4]) ≤ (6 : Int)) (Int.not_lt.1 c11)
                    have c12 : (IntKind.i64.wrap (S1.ρ 3 + (1 : Int))) = (IntKind.i64.wrap (S1.ρ 3 + (1 : Int))) := rfl
                    have d12 : pt7.den S1 = some [b2i false] := fls (p := (IntKind.i64.wrap (S1.ρ 3 + (1 : Int))) ≠ (IntKind.i64.wrap (S1.ρ 3 + (1 : Int)))) (fun hh => hh c12)
                    obtain ⟨o3, h_o3⟩ : ∃ o : Int, o = (IntKind.i64.wrap (S1.ρ 3 + (1 : Int))) := ⟨_, rfl⟩
                    obtain ⟨o4, h_o4⟩ : ∃ o : Int, o = (IntKind.i64.wrap (S1.ρ 4 + (1 : Int))) := ⟨_, rfl⟩
                    obtain ⟨o21, h_o21⟩ : ∃ o : Int, o = (b2i (decide (S1.ρ 21 ≠ (0 : Int)))) := ⟨_, rfl⟩
                    have u4 := h_o4
                    rw [w_i64 (by omega) (by omega)] at u4
                    have u3 := h_o3
                    rw [w_i64 (by omega) (by omega)] at u3
                    have inv : InvT S n1 n2 (n2 - (i + 1)) (S1.set (upd S1.ρ [(3, o3), (4, o4), (21, o21)]) [] 60 rfl hK) := ⟨i + 1, by omega, rfl, h1, h2, (show o4 = ((i + 1 : Nat) : Int) by omega), h5, h6, (show 0 ≤ o3 by omega), (show o3 ≤ ((i + 1 : Nat) : Int) by omega), (tell_f h41 c1 h21 h_o21), hI, fun f hf l => (Sy.set_low hf).trans (hΦ f hf l)⟩
                    exact .inl ⟨_, _, (by omega : n2 - i = n2 - (i + 1) + 1), inv, _, [], _, 1000, _, [], (ai pt7 false d12 (ai pt6 true d11 (ai pt5 true d10 (ai pt17 true d9 (ai pt4 false d8 (ai pt16 true d7 (ai pt15 false d6 (ai pt13 false d5 (ai pt12 false d4 (ai pt3 false d3 (ai pt2 true d2 (ai pt1 false d1 (ai pt0 true d0 (AlOk.nil _)))))))))))))), hcs, LkOk.no _ _ _ _, (av 1 .i64 (av 2 .i64 (an 3 (.bin .add (.var .i64 3) (.lit .i64 1)) (sm h_o3.symm) (an 4 (.bin .add (.var .i64 4) (.lit .i64 1)) (sm h_o4.symm) (av 5 .i64 (ar 60 (ar_var 60) (av 6 .i64 (ar 61 (ar_var 61) (av 6 .i64 (av 5 .i64 (an 21 (.bin .neq (.var .u8 21) (.lit .u8 0)) (sm h_o21.symm) (av 20 .i64 (av 19 .i64 (av 18 .i64 (av 17 .u64 (av 16 .u64 (av 15 .u64 (av 14 .u64 (av 13 .u64 (av 12 .u8 (av 11 .i64 (av 10 .i64 (an 3 (.bin .add (.var .i64 3) (.lit .i64 1)) (sm h_o3.symm) (av 5 .i64 (ar 60 (ar_var 60) (av 6 .i64 (ar 61 (ar_var 61) (av 6 .i64 (av 5 .i64 (an 3 (.bin .add (.var .i64 3) (.lit .i64 1)) (sm h_o3.symm) (asg_nil rfl))))))))))))))))))))))))))))))), fun G => by kernel_rfl⟩
              · have d7 : pt16.den S1 = some [b2i false] := fls (p := (S1.Φ 40 [S1.ρ 4]) = (5 : Int)) c7
                by_cases c8 : (S1.Φ 40 [S1.ρ 4]) = (6 : Int)
                · have d8 : pt20.den S1 = some [b2i true] := tr (p := (S1.Φ 40 [S1.ρ 4]) = (6 : Int)) c8
                  by_cases c9 : (S1.Φ 41 [S1.ρ 4]) < (0 : Int)
                  · have d9 : pt4.den S1 = some [b2i true] := tr (p := (S1.Φ 41 [S1.ρ 4]) < (0 : Int)) c9
                    have c10 : ¬ ((S1.Φ 40 [S1.ρ 4]) < (1 : Int)) := by omega
                    have d10 : pt5.den S1 = some [b2i true] := tr (p := (1 : Int) ≤ (S1.Φ 40 [S1.ρ 4])) (Int.not_lt.1 c10)
                    have c11 : ¬ ((6 : Int) < (S1.Φ 40 [S1.ρ 4])) := by omega
                    have d11 : pt6.den S1 = some [b2i true] := tr (p := (S1.Φ 40 [S1.ρ 4]) ≤ (6 : Int)) (Int.not_lt.1 c11)
                    have c12 : (IntKind.i64.wrap (S1.ρ 3 + (1 : Int))) = (IntKind.i64.wrap (S1.ρ 3 + (1 : Int))) := rfl
                    have d12 : pt7.den S1 = some [b2i false] := fls (p := (IntKind.i64.wrap (S1.ρ 3 + (1 : Int))) ≠ (IntKind.i64.wrap (S1.ρ 3 + (1 : Int)))) (fun hh => hh c12)
                    obtain ⟨o3, h_o3⟩ : ∃ o : Int, o = (IntKind.i64.wrap (S1.ρ 3 + (1 : Int))) := ⟨_, rfl⟩
                    obtain ⟨o4, h_o4⟩ : ∃ o : Int, o = (IntKind.i64.wrap (S1.ρ 4 + (1 : Int))) := ⟨_, rfl⟩
                    obtain ⟨o21, h_o21⟩ : ∃ o : Int, o = (b2i (decide (S1.ρ 21 ≠ (0 : Int)))) := ⟨_, rfl⟩
                    have u4 := h_o4
                    rw [w_i64 (by omega) (by omega)] at u4
                    have u3 := h_o3
                    rw [w_i64 (by omega) (by omega)] at u3
                    have inv : InvT S n1 n2 (n2 - (i + 1)) (S1.set (upd S1.ρ [(3, o3), (4, o4), (21, o21)]) [] 60 rfl hK) := ⟨i + 1, by omega, rfl, h1, h2, (show o4 = ((i + 1 : Nat) : Int) by omega), h5, h6, (show 0 ≤ o3 by omega), (show o3 ≤ ((i + 1 : Nat) : Int) by omega), (tell_f h41 c1 h21 h_o21), hI, fun f hf l => (Sy.set_low hf).trans (hΦ f hf l)⟩
                    exact .inl ⟨_, _, (by omega : n2 - i = n2 - (i + 1) + 1), inv, _, [], _, 1000, _, [], (ai pt7 false d12 (ai pt6 true d11 (ai pt5 true d10 (ai pt4 true d9 (ai pt20 true d8 (ai pt16 false d7 (ai pt15 false d6 (ai pt13 false d5 (ai pt12 false d4 (ai pt3 false d3 (ai pt2 true d2 (ai pt1 false d1 (ai pt0 true d0 (AlOk.nil _)))))))))))))), hcs, LkOk.no _ _ _ _, (av 1 .i64 (av 2 .i64 (an 3 (.bin .add (.var .i64 3) (.lit .i64 1)) (sm h_o3.symm) (an 4 (.bin .add (.var .i64 4) (.lit .i64 1)) (sm h_o4.symm) (av 5 .i64 (ar 60 (ar_var 60) (av 6 .i64 (ar 61 (ar_var 61) (av 6 .i64 (av 5 .i64 (an 21 (.bin .neq (.var .u8 21) (.lit .u8 0)) (sm h_o21.symm) (av 20 .i64 (av 19 .i64 (av 18 .i64 (av 17 .u64 (av 16 .u64 (av 15 .u64 (av 14 .u64 (av 13 .u64 (av 12 .u8 (av 11 .i64 (av 10 .i64 (an 3 (.bin .add (.var .i64 3) (.lit .i64 1)) (sm h_o3.symm) (av 5 .i64 (ar 60 (ar_var 60) (av 6 .i64 (ar 61 (ar_var 61) (av 6 .i64 (av 5 .i64 (an 3 (.bin .add (.var .i64 3) (.lit .i64 1)) (sm h_o3.symm) (asg_nil rfl))))))))))))))))))))))))))))))), fun G => by kernel_rfl⟩
                  · have d9 : pt4.den S1 = some [b2i false] := fls (p := (S1.Φ 41 [S1.ρ 4]) < (0 : Int)) c9
                    by_cases c10 : (S1.Φ 41 [S1.ρ 4]) < S1.ρ 6
                    · have d10 : pt17.den S1 = some [b2i false] := fls (p := S1.ρ 6 ≤ (S1.Φ 41 [S1.ρ 4])) (Int.not_le.2 c10)
                      have d11 : pt9.den S1 = some [b2i true] := tr (p := (0 : Int) ≤ (S1.Φ 41 [S1.ρ 4])) (Int.not_lt.1 c9)
                      have d12 : pt18.den S1 = some [b2i true] := tr (p := (S1.Φ 41 [S1.ρ 4]) < S1.ρ 6) c10
                      have c13 : ¬ ((S1.Φ 40 [S1.ρ 4]) < (1 : Int)) := by omega
                      have d13 : pt5.den S1 = some [b2i true] := tr (p := (1 : Int) ≤ (S1.Φ 40 [S1.ρ 4])) (Int.not_lt.1 c13)
                      have c14 : ¬ ((6 : Int) < (S1.Φ 40 [S1.ρ 4])) := by omega
                      have d14 : pt6.den S1 = some [b2i true] := tr (p := (S1.Φ 40 [S1.ρ 4]) ≤ (6 : Int)) (Int.not_lt.1 c14)
                      have c15 : (IntKind.i64.wrap (S1.ρ 3 + (1 : Int))) = (IntKind.i64.wrap (S1.ρ 3 + (1 : Int))) := rfl
                      have d15 : pt7.den S1 = some [b2i false] := fls (p := (IntKind.i64.wrap (S1.ρ 3 + (1 : Int))) ≠ (IntKind.i64.wrap (S1.ρ 3 + (1 : Int)))) (fun hh => hh c15)
                      obtain ⟨o3, h_o3⟩ : ∃ o : Int, o = (IntKind.i64.wrap (S1.ρ 3 + (1 : Int))) := ⟨_, rfl⟩
                      obtain ⟨o4, h_o4⟩ : ∃ o : Int, o = (IntKind.i64.wrap (S1.ρ 4 + (1 : Int))) := ⟨_, rfl⟩
                      obtain ⟨o21, h_o21⟩ : ∃ o : Int, o = (b2i (decide (S1.ρ 21 ≠ (0 : Int)))) := ⟨_, rfl⟩
                      have u4 := h_o4
                      rw [w_i64 (by omega) (by omega)] at u4
                      have u3 := h_o3
                      rw [w_i64 (by omega) (by omega)] at u3
                      have inv : InvT S n1 n2 (n2 - (i + 1)) (S1.set (upd S1.ρ [(3, o3), (4, o4), (21, o21)]) [(61, (fun j => ifE j (S1.Φ 41 [S1.ρ 4]) (IntKind.u8.wrap ((IntKind.u64.wrap ((IntKind.u8.wrap ((S1.Φ 42 [S1.ρ 4]))))))) ((fun j => S1.Φ 61 [j]) j)))] 60 rfl hK) := ⟨i + 1, by omega, rfl, h1, h2, (show o4 = ((i + 1 : Nat) : Int) by omega), h5, h6, (show 0 ≤ o3 by omega), (show o3 ≤ ((i + 1 : Nat) : Int) by omega), (tell_f h41 c1 h21 h_o21), hI, fun f hf l => (Sy.set_low hf).trans (hΦ f hf l)⟩
                      exact .inl ⟨_, _, (by omega : n2 - i = n2 - (i + 1) + 1), inv, _, [], _, 1000, _, [], (ai pt7 false d15 (ai pt6 true d14 (ai pt5 true d13 (ai pt18 true d12 (ai pt9 true d11 (ai pt17 false d10 (ai pt4 false d9 (ai pt20 true d8 (ai pt16 false d7 (ai pt15 false d6 (ai pt13 false d5 (ai pt12 false d4 (ai pt3 false d3 (ai pt2 true d2 (ai pt1 false d1 (ai pt0 true d0 (AlOk.nil _))))))))))))))))), hcs, LkOk.no _ _ _ _, (av 1 .i64 (av 2 .i64 (an 3 (.bin .add (.var .i64 3) (.lit .i64 1)) (sm h_o3.symm) (an 4 (.bin .add (.var .i64 4) (.lit .i64 1)) (sm h_o4.symm) (av 5 .i64 (ar 60 (ar_var 60) (av 6 .i64 (ar 61 (ar_upd (.app .i64 41 (.cons (.var .i64 4) .nil)) (.conv .u8 (.conv .u64 (.conv .u8 (.app .u64 42 (.cons (.var .i64 4) .nil))))) (i := (S1.Φ 41 [S1.ρ 4])) (v := (IntKind.u8.wrap ((IntKind.u64.wrap ((IntKind.u8.wrap ((S1.Φ 42 [S1.ρ 4])))))))) rfl rfl (by kernel_rfl) (ar_var 61)) (av 6 .i64 (av 5 .i64 (an 21 (.bin .neq (.var .u8 21) (.lit .u8 0)) (sm h_o21.symm) (av 20 .i64 (av 19 .i64 (av 18 .i64 (av 17 .u64 (av 16 .u64 (av 15 .u64 (av 14 .u64 (av 13 .u64 (av 12 .u8 (av 11 .i64 (av 10 .i64 (an 3 (.bin .add (.var .i64 3) (.lit .i64 1)) (sm h_o3.symm) (av 5 .i64 (ar 60 (ar_var 60) (av 6 .i64 (ar 61 (ar_upd (.app .i64 41 (.cons (.var .i64 4) .nil)) (.conv .u8 (.conv .u64 (.conv .u8 (.app .u64 42 (.cons (.var .i64 4) .nil))))) (i := (S1.Φ 41 [S1.ρ 4])) (v := (IntKind.u8.wrap ((IntKind.u64.wrap ((IntKind.u8.wrap ((S1.Φ 42 [S1.ρ 4])))))))) rfl rfl (by kernel_rfl) (ar_var 61)) (av 6 .i64 (av 5 .i64 (an 3 (.bin .add (.var .i64 3) (.lit .i64 1)) (sm h_o3.symm) (asg_nil rfl))))))))))))))))))))))))))))))), fun G => by kernel_rfl⟩
                    · have d10 : pt17.den S1 = some [b2i true] := tr (p := S1.ρ 6 ≤ (S1.Φ 41 [S1.ρ 4])) (Int.not_lt.1 c10)
                      have c11 : ¬ ((S1.Φ 40 [S1.ρ 4]) < (1 : Int)) := by omega
                      have d11 : pt5.den S1 = some [b2i true] := tr (p := (1 : Int) ≤ (S1.Φ 40 [S1.ρ 4])) (Int.not_lt.1 c11)
                      have c12 : ¬ ((6 : Int) < (S1.Φ 40 [S1.ρ 4])) := by omega
                      have d12 : pt6.den S1 = some [b2i true] := tr (p := (S1.Φ 40 [S1.ρ 4]) ≤ (6 : Int)) (Int.not_lt.1 c12)
                      have c13 : (IntKind.i64.wrap (S1.ρ 3 + (1 : Int))) = (IntKind.i64.wrap (S1.ρ 3 + (1 : Int))) := rfl
                      have d13 : pt7.den S1 = some [b2i false] := fls (p := (IntKind.i64.wrap (S1.ρ 3 + (1 : Int))) ≠ (IntKind.i64.wrap (S1.ρ 3 + (1 : Int)))) (fun hh => hh c13)
                      obtain ⟨o3, h_o3⟩ : ∃ o : Int, o = (IntKind.i64.wrap (S1.ρ 3 + (1 : Int))) := ⟨_, rfl⟩
                      obtain ⟨o4, h_o4⟩ : ∃ o : Int, o = (IntKind.i64.wrap (S1.ρ 4 + (1 : Int))) := ⟨_, rfl⟩
                      obtain ⟨o21, h_o21⟩ : ∃ o : Int, o = (b2i (decide (S1.ρ 21 ≠ (0 : Int)))) := ⟨_, rfl⟩
                      have u4 := h_o4
                      rw [w_i64 (by omega) (by omega)] at u4
                      have u3 := h_o3
                      rw [w_i64 (by omega) (by omega)] at u3
                      have inv : InvT S n1 n2 (n2 - (i + 1)) (S1.set (upd S1.ρ [(3, o3), (4, o4), (21, o21)]) [] 60 rfl hK) := ⟨i + 1, by omega, rfl, h1, h2, (show o4 = ((i + 1 : Nat) : Int) by omega), h5, h6, (show 0 ≤ o3 by omega), (show o3 ≤ ((i + 1 : Nat) : Int) by omega), (tell_f h41 c1 h21 h_o21), hI, fun f hf l => (Sy.set_low hf).trans (hΦ f hf l)⟩
                      exact .inl ⟨_, _, (by omega : n2 - i = n2 - (i + 1) + 1), inv, _, [], _, 1000, _, [], (ai pt7 false d13 (ai pt6 true d12 (ai pt5 true d11 (ai pt17 true d10 (ai pt4 false d9 (ai pt20 true d8 (ai pt16 false d7 (ai pt15 false d6 (ai pt13 false d5 (ai pt12 false d4 (ai pt3 false d3 (ai pt2 true d2 (ai pt1 false d1 (ai pt0 true d0 (AlOk.nil _))))))))))))))), hcs, LkOk.no _ _ _ _, (av 1 .i64 (av 2 .i64 (an 3 (.bin .add (.var .i64 3) (.lit .i64 1)) (sm h_o3.symm) (an 4 (.bin .add (.var .i64 4) (.lit .i64 1)) (sm h_o4.symm) (av 5 .i64 (ar 60 (ar_var 60) (av 6 .i64 (ar 61 (ar_var 61) (av 6 .i64 (av 5 .i64 (an 21 (.bin .neq (.var .u8 21) (.lit .u8 0)) (sm h_o21.symm) (av 20 .i64 (av 19 .i64 (av 18 .i64 (av 17 .u64 (av 16 .u64 (av 15 .u64 (av 14 .u64 (av 13 .u64 (av 12 .u8 (av 11 .i64 (av 10 .i64 (an 3 (.bin .add (.var .i64 3) (.lit .i64 1)) (sm h_o3.symm) (av 5 .i64 (ar 60 (ar_var 60) (av 6 .i64 (ar 61 (ar_var 61) (av 6 .i64 (av 5 .i64 (an 3 (.bin .add (.var .i64 3) (.lit .i64 1)) (sm h_o3.symm) (asg_nil rfl))))))))))))))))))))))))))))))), fun G => by kernel_rfl⟩
                · have d8 : pt20.den S1 = some [b2i false] := fls (p := (S1.Φ 40 [S1.ρ 4]) = (6 : Int)) c8
                  by_cases c9 : (S1.Φ 40 [S1.ρ 4]) < (1 : Int)
                  · have d9 : pt5.den S1 = some [b2i false] := fls (p := (1 : Int) ≤ (S1.Φ 40 [S1.ρ 4])) (Int.not_le.2 c9)
                    have c10 : S1.ρ 3 = S1.ρ 3 := rfl
                    have d10 : pt21.den S1 = some [b2i false] := fls (p := S1.ρ 3 ≠ S1.ρ 3) (fun hh => hh c10)
                    obtain ⟨o4, h_o4⟩ : ∃ o : Int, o = (IntKind.i64.wrap (S1.ρ 4 + (1 : Int))) := ⟨_, rfl⟩
                    obtain ⟨o21, h_o21⟩ : ∃ o : Int, o = (b2i (decide (S1.ρ 21 ≠ (0 : Int)))) := ⟨_, rfl⟩
                    have u4 := h_o4
                    rw [w_i64 (by omega) (by omega)] at u4
                    have inv : InvT S n1 n2 (n2 - (i + 1)) (S1.set (upd S1.ρ [(4, o4), (21, o21)]) [] 60 rfl hK) := ⟨i + 1, by omega, rfl, h1, h2, (show o4 = ((i + 1 : Nat) : Int) by omega), h5, h6, (show 0 ≤ S1.ρ 3 by omega), (show S1.ρ 3 ≤ ((i + 1 : Nat) : Int) by omega), (tell_f h41 c1 h21 h_o21), hI, fun f hf l => (Sy.set_low hf).trans (hΦ f hf l)⟩
                    exact .inl ⟨_, _, (by omega : n2 - i = n2 - (i + 1) + 1), inv, _, [], _, 1000, _, [], (ai pt21 false d10 (ai pt5 false d9 (ai pt20 false d8 (ai pt16 false d7 (ai pt15 false d6 (ai pt13 false d5 (ai pt12 false d4 (ai pt3 false d3 (ai pt2 true d2 (ai pt1 false d1 (ai pt0 true d0 (AlOk.nil _)))))))))))), hcs, LkOk.no _ _ _ _, (av 1 .i64 (av 2 .i64 (av 3 .i64 (an 4 (.bin .add (.var .i64 4) (.lit .i64 1)) (sm h_o4.symm) (av 5 .i64 (ar 60 (ar_var 60) (av 6 .i64 (ar 61 (ar_var 61) (av 6 .i64 (av 5 .i64 (an 21 (.bin .neq (.var .u8 21) (.lit .u8 0)) (sm h_o21.symm) (av 20 .i64 (av 19 .i64 (av 18 .i64 (av 17 .u64 (av 16 .u64 (av 15 .u64 (av 14 .u64 (av 13 .u64 (av 12 .u8 (av 11 .i64 (av 10 .i64 (av 3 .i64 (av 5 .i64 (ar 60 (ar_var 60) (av 6 .i64 (ar 61 (ar_var 61) (av 6 .i64 (av 5 .i64 (av 3 .i64 (asg_nil rfl))))))))))))))))))))))))))))))), fun G => by kernel_rfl⟩
                  · have d9 : pt5.den S1 = some [b2i true] := tr (p := (1 : Int) ≤ (S1.Φ 40 [S1.ρ 4])) (Int.not_lt.1 c9)
                    have c10 : (6 : Int) < (S1.Φ 40 [S1.ρ 4]) := by omega
                    have d10 : pt6.den S1 = some [b2i false] := fls (p := (S1.Φ 40 [S1.ρ 4]) ≤ (6 : Int)) (Int.not_le.2 c10)
                    have c11 : S1.ρ 3 = S1.ρ 3 := rfl
                    have d11 : pt21.den S1 = some [b2i false] := fls (p := S1.ρ 3 ≠ S1.ρ 3) (fun hh => hh c11)
                    obtain ⟨o4, h_o4⟩ : ∃ o : Int, o = (IntKind.i64.wrap (S1.ρ 4 + (1 : Int))) := ⟨_, rfl⟩
                    obtain ⟨o21, h_o21⟩ : ∃ o : Int, o = (b2i (decide (S1.ρ 21 ≠ (0 : Int)))) := ⟨_, rfl⟩
                    have u4 := h_o4
                    rw [w_i64 (by omega) (by omega)] at u4
                    have inv : InvT S n1 n2 (n2 - (i + 1)) (S1.set (upd S1.ρ [(4, o4), (21, o21)]) [] 60 rfl hK) := ⟨i + 1, by omega, rfl, h1, h2, (show o4 = ((i + 1 : Nat) : Int) by omega), h5, h6, (show 0 ≤ S1.ρ 3 by omega), (show S1.ρ 3 ≤ ((i + 1 : Nat) : Int) by omega), (tell_f h41 c1 h21 h_o21), hI, fun f hf l => (Sy.set_low hf).trans (hΦ f hf l)⟩
                    exact .inl ⟨_, _, (by omega : n2 - i = n2 - (i + 1) + 1), inv, _, [], _, 1000, _, [], (ai pt21 false d11 (ai pt6 false d10 (ai pt5 true d9 (ai pt20 false d8 (ai pt16 false d7 (ai pt15 false d6 (ai pt13 false d5 (ai pt12 false d4 (ai pt3 false d3 (ai pt2 true d2 (ai pt1 false d1 (ai pt0 true d0 (AlOk.nil _))))))))))))), hcs, LkOk.no _ _ _ _, (av 1 .i64 (av 2 .i64 (av 3 .i64 (an 4 (.bin .add (.var .i64 4) (.lit .i64 1)) (sm h_o4.symm) (av 5 .i64 (ar 60 (ar_var 60) (av 6 .i64 (ar 61 (ar_var 61) (av 6 .i64 (av 5 .i64 (an 21 (.bin .neq (.var .u8 21) (.lit .u8 0)) (sm h_o21.symm) (av 20 .i64 (av 19 .i64 (av 18 .i64 (av 17 .u64 (av 16 .u64 (av 15 .u64 (av 14 .u64 (av 13 .u64 (av 12 .u8 (av 11 .i64 (av 10 .i64 (av 3 .i64 (av 5 .i64 (ar 60 (ar_var 60) (av 6 .i64 (ar 61 (ar_var 61) (av 6 .i64 (av 5 .i64 (av 3 .i64 (asg_nil rfl))))))))))))))))))))))))))))))), fun G => by kernel_rfl⟩
  · have d0 : pt0.den S1 = some [b2i false] := fls (p := S1.ρ 4 < S1.ρ 2) c0
    exact .inr ⟨by omega, fun T hT => ⟨_, [], _, 1000, _, [], (ai pt0 false d0 (AlOk.nil _)), hcs, LkOk.no _ _ _ _, (an 1 (.var .i64 1) (sm (hT.num 1 rfl)) (an 2 (.var .i64 2) (sm (hT.num 2 rfl)) (an 5 (.var .i64 5) (sm (hT.num 5 rfl)) (asg_arr (i := 60) (hT.row 60 rfl) (an 6 (.var .i64 6) (sm (hT.num 6 rfl)) (asg_arr (i := 61) (hT.row 61 rfl) (an 6 (.var .i64 6) (sm (hT.num 6 rfl)) (an 5 (.var .i64 5) (sm (hT.num 5 rfl)) (an 21 (.bin .neq (.var .u8 21) (.lit .u8 0)) (sm ((tell_b h21).trans (hT.num 21 rfl))) (an 20 (.var .i64 20) (sm (hT.num 20 rfl)) (an 19 (.var .i64 19) (sm (hT.num 19 rfl)) (an 18 (.var .i64 18) (sm (hT.num 18 rfl)) (an 17 (.var .u64 17) (sm (hT.num 17 rfl)) (an 16 (.var .u64 16) (sm (hT.num 16 rfl)) (an 15 (.var .u64 15) (sm (hT.num 15 rfl)) (an 14 (.var .u64 14) (sm (hT.num 14 rfl)) (an 13 (.var .u64 13) (sm (hT.num 13 rfl)) (an 12 (.var .u8 12) (sm (hT.num 12 rfl)) (an 11 (.var .i64 11) (sm (hT.num 11 rfl)) (an 10 (.var .i64 10) (sm (hT.num 10 rfl)) (an 3 (.var .i64 3) (sm (hT.num 3 rfl)) (an 5 (.var .i64 5) (sm (hT.num 5 rfl)) (asg_arr (i := 60) (hT.row 60 rfl) (an 6 (.var .i64 6) (sm (hT.num 6 rfl)) (asg_arr (i := 61) (hT.row 61 rfl) (an 6 (.var .i64 6) (sm (hT.num 6 rfl)) (an 5 (.var .i64 5) (sm (hT.num 5 rfl)) (an 3 (.var .i64 3) (sm (hT.num 3 rfl)) (asg_nil hT.1))))))))))))))))))))))))))))), fun G => by kernel_rfl⟩⟩
end
theorem tells_any (v u : Value) (w : World) (hs : SlIn w [some .i64, some .i64, some .u8, some .u64, some .u64, some .u64, some .u64, some .u64, some .i64, some .i64, some .i64] v) (ht : SlIn w [some .u8, some .i64, some .u64, some .u64] u) : Calls Try.prog 7 #[v, u] w fun e w' => e = .returned (.bool true) ∧ Quiet w w' := by
  obtain ⟨x, F, hks, hf, rfl, hx, _, hok⟩ := inpw_of (by decide) hs 20
  obtain ⟨y, E, hks', hf', rfl, hy, _, hok'⟩ := inpw_of (by decide) ht 40
  obtain ⟨Φ, hΦe⟩ : ∃ Φ : Nat → List Int → Int, Φ = fun g l => if 40 ≤ g then (match l with | [j] => E (g - 40) j.toNat | _ => 0) else phi 20 11 F g l := ⟨_, rfl⟩
  have hall : ∀ z ∈ [x, y], ∃ F, InpW w z F := fun z hz => by
    simp only [List.mem_cons, List.not_mem_nil, or_false] at hz
    rcases hz with rfl | rfl
    · exact ⟨F, hok⟩
    · exact ⟨E, hok'⟩
  have hxok : InpOk [x, y] Φ x := inps_ok hall List.mem_cons_self hok fun m j hm => by
    rw [hks] at hm
    have hm : m < 11 := hm
    rw [hf, hΦe]
    show (if 40 ≤ 20 + m then _ else phi 20 11 F (20 + m) [(j : Int)]) = _
    rw [if_neg (by omega)]
    exact phi_in hm
  have hyok : InpOk [x, y] Φ y := inps_ok hall (List.mem_cons_of_mem _ List.mem_cons_self) hok' fun m j hm => by
    rw [hf', hΦe]
    simp
  let SS : Sy := ⟨upd (fun _ => 0) [(1, (x.n : Int)), (2, (y.n : Int))], Φ, [x, y], fun z hz => by
    simp only [List.mem_cons, List.not_mem_nil, or_false] at hz
    rcases hz with rfl | rfl
    · exact hxok
    · exact hyok⟩
  have hin : ∀ b o, inpL [x, y] b = some o → w.heap[b]? = some o := inps_in hall
  have hK : ∀ z ∈ SS.I, z.f + z.ks.length ≤ 60 := fun z hz => by
    have hz : z ∈ [x, y] := hz
    simp only [List.mem_cons, List.not_mem_nil, or_false] at hz
    rcases hz with rfl | rfl
    · rw [hf, hks]; decide
    · rw [hf', hks']; decide
  have h9 : SS.Φ 9 [] = 1 := by
    show Φ 9 [] = 1
    rw [hΦe]
    show (if 40 ≤ 9 then _ else phi 20 11 F 9 []) = _
    rw [if_neg (by decide)]
    exact phi_9 (by decide)
  have main : ∀ S : Sy, S.I = SS.I → S.ρ 1 = x.n → S.ρ 2 = y.n → S.Φ 9 [] = 1 → (∀ lk, (y.n ≤ 60 → lk = lkL [lkLoopR Try.prog 8 [] XT FT (.exit 0) [(1, .num (Tm.enc (.var .i64 1))), (2, .num (Tm.enc (.var .i64 2))), (3, .num (Tm.enc (.lit .i64 0))), (4, .num (Tm.enc (.lit .i64 0))), (5, .num (Tm.enc (.lit .i64 10))), (60, .arr .zero), (6, .num (Tm.enc (.lit .i64 10))), (61, .arr .zero), (6, .num (Tm.enc (.lit .i64 10))), (5, .num (Tm.enc (.lit .i64 10))), (21, .num (Tm.enc (.blit false))), (20, .num (Tm.enc (.lit .i64 0))), (19, .num (Tm.enc (.lit .i64 0))), (18, .num (Tm.enc (.lit .i64 0))), (17, .num (Tm.enc (.lit .u64 0))), (16, .num (Tm.enc (.lit .u64 0))), (15, .num (Tm.enc (.lit .u64 0))), (14, .num (Tm.enc (.lit .u64 0))), (13, .num (Tm.enc (.lit .u64 0))), (12, .num (Tm.enc (.lit .u8 0))), (11, .num (Tm.enc (.lit .i64 0))), (10, .num (Tm.enc (.lit .i64 0))), (3, .num (Tm.enc (.lit .i64 0))), (5, .num (Tm.enc (.lit .i64 10))), (60, .arr .zero), (6, .num (Tm.enc (.lit .i64 10))), (61, .arr .zero), (6, .num (Tm.enc (.lit .i64 10))), (5, .num (Tm.enc (.lit .i64 10))), (3, .num (Tm.enc (.lit .i64 0)))]] ∧ S.ρ 5 = 10 ∧ S.ρ 6 = 10 ∧ S.ρ 21 = (if 0 < y.n ∧ 0 < x.n then 1 else 0)) → LkOk Try.prog S [] ΛT lk → Calls Try.prog 7 #[.slice x.a x.n x.cap, .slice y.a y.n y.cap] w fun e w' => e = .returned (.bool true) ∧ Quiet w w') := by
    intro S hSI h1 h2 hΦ9 lk hl hlk
    have hvs : ∀ G ι, VsOk S G ι [inT, inL] [.slice x.a x.n x.cap, .slice y.a y.n y.cap] := fun G ι => vs_inp0 (x := x) (by decide) (by rw [hSI]; rfl) (by rw [hks]; decide +kernel) (by rw [hf]; decide +kernel) h1 (vs_inp0 (x := y) (by decide) (by rw [hSI]; rfl) (by rw [hks']; decide +kernel) (by rw [hf']; decide +kernel) h2 vs_nil)
    have hin : ∀ b o, inpL S.I b = some o → w.heap[b]? = some o := by rw [hSI]; exact hin
    by_cases c0 : (60 : Int) < S.ρ 1
    · have d0 : pl0.den S = some [b2i true] := tr (p := (60 : Int) < S.ρ 1) c0
      exact symRunI envT (ai pl0 true d0 (al_is awT true (by kernel_rfl) (aw_den hΦ9) (al_is flg true (by kernel_rfl) (tr rfl) (AlOk.nil _)))) (one_ok hΦ9) hlk (n := 1000) (args := [inT, inL]) (args' := [.slice x.a x.n x.cap, .slice y.a y.n y.cap]) (res := [.one .bool]) (vs := [.bool true]) (rcs := [litB true]) (rs := [1]) rfl ⟨ev_litB _ true, trivial⟩ (fun G => by kernel_rfl) hvs w (gok w) hin
    · have d0 : pl0.den S = some [b2i false] := fls (p := (60 : Int) < S.ρ 1) c0
      by_cases c1 : (60 : Int) < S.ρ 2
      · have d1 : pl1.den S = some [b2i true] := tr (p := (60 : Int) < S.ρ 2) c1
        exact symRunI envT (ai pl1 true d1 (ai pl0 false d0 (al_is awT true (by kernel_rfl) (aw_den hΦ9) (al_is flg true (by kernel_rfl) (tr rfl) (AlOk.nil _))))) (one_ok hΦ9) hlk (n := 1000) (args := [inT, inL]) (args' := [.slice x.a x.n x.cap, .slice y.a y.n y.cap]) (res := [.one .bool]) (vs := [.bool true]) (rcs := [litB true]) (rs := [1]) rfl ⟨ev_litB _ true, trivial⟩ (fun G => by kernel_rfl) hvs w (gok w) hin
      · have d1 : pl1.den S = some [b2i false] := fls (p := (60 : Int) < S.ρ 2) c1
        obtain ⟨rfl, h5, h6, h21⟩ := hl (by omega)
        by_cases c2 : (0 : Int) < S.ρ 1
        · have d2 : pl2.den S = some [b2i true] := tr (p := (0 : Int) < S.ρ 1) c2
          have c3 : ¬ ((b2i (decide (S.ρ 21 ≠ (0 : Int)))) ≠ (b2i (decide ((0 : Int) < S.ρ 2)))) := by exact tell_c h21 h1 h2 c2
          have d3 : pl3.den S = some [b2i false] := fls (p := (b2i (decide (S.ρ 21 ≠ (0 : Int)))) ≠ (b2i (decide ((0 : Int) < S.ρ 2)))) c3
          by_cases c4 : (3 : Int) < S.ρ 5
          · have d4 : pl4.den S = some [b2i false] := fls (p := S.ρ 5 ≤ (3 : Int)) (Int.not_le.2 c4)
            have d5 : pl5.den S = some [b2i true] := tr (p := (3 : Int) < S.ρ 5) c4
            have c6 : (S.Φ 60 [(3 : Int)]) = (S.Φ 60 [(3 : Int)]) := rfl
            have d6 : pl6.den S = some [b2i true] := tr (p := (S.Φ 60 [(3 : Int)]) = (S.Φ 60 [(3 : Int)])) c6
            exact symRunI envT (ai pl6 true d6 (ai pl5 true d5 (ai pl4 false d4 (ai pl3 false d3 (ai pl2 true d2 (ai pl1 false d1 (ai pl0 false d0 (al_is awT true (by kernel_rfl) (aw_den hΦ9) (al_is flg true (by kernel_rfl) (tr rfl) (AlOk.nil _)))))))))) (one_ok hΦ9) hlk (n := 1000) (args := [inT, inL]) (args' := [.slice x.a x.n x.cap, .slice y.a y.n y.cap]) (res := [.one .bool]) (vs := [.bool true]) (rcs := [litB true]) (rs := [1]) rfl ⟨ev_litB _ true, trivial⟩ (fun G => by kernel_rfl) hvs w (gok w) hin
          · have d4 : pl4.den S = some [b2i true] := tr (p := S.ρ 5 ≤ (3 : Int)) (Int.not_lt.1 c4)
            exact symRunI envT (ai pl4 true d4 (ai pl3 false d3 (ai pl2 true d2 (ai pl1 false d1 (ai pl0 false d0 (al_is awT true (by kernel_rfl) (aw_den hΦ9) (al_is flg true (by kernel_rfl) (tr rfl) (AlOk.nil _)))))))) (one_ok hΦ9) hlk (n := 1000) (args := [inT, inL]) (args' := [.slice x.a x.n x.cap, .slice y.a y.n y.cap]) (res := [.one .bool]) (vs := [.bool true]) (rcs := [litB true]) (rs := [1]) rfl ⟨ev_litB _ true, trivial⟩ (fun G => by kernel_rfl) hvs w (gok w) hin
        · have d2 : pl2.den S = some [b2i false] := fls (p := (0 : Int) < S.ρ 1) c2
          have c3 : S.ρ 21 = (0 : Int) := by rw [h21, if_neg (by omega)]
          have d3 : pl7.den S = some [b2i false] := fls (p := (b2i (decide (S.ρ 21 ≠ (0 : Int)))) ≠ (b2i false)) (by rw [decide_eq_false (fun hh => hh c3)]; decide)
          by_cases c4 : (3 : Int) < S.ρ 5
          · have d4 : pl4.den S = some [b2i false] := fls (p := S.ρ 5 ≤ (3 : Int)) (Int.not_le.2 c4)
            have d5 : pl5.den S = some [b2i true] := tr (p := (3 : Int) < S.ρ 5) c4
            have c6 : (S.Φ 60 [(3 : Int)]) = (S.Φ 60 [(3 : Int)]) := rfl
            have d6 : pl6.den S = some [b2i true] := tr (p := (S.Φ 60 [(3 : Int)]) = (S.Φ 60 [(3 : Int)])) c6
            exact symRunI envT (ai pl6 true d6 (ai pl5 true d5 (ai pl4 false d4 (ai pl7 false d3 (ai pl2 false d2 (ai pl1 false d1 (ai pl0 false d0 (al_is awT true (by kernel_rfl) (aw_den hΦ9) (al_is flg true (by kernel_rfl) (tr rfl) (AlOk.nil _)))))))))) (one_ok hΦ9) hlk (n := 1000) (args := [inT, inL]) (args' := [.slice x.a x.n x.cap, .slice y.a y.n y.cap]) (res := [.one .bool]) (vs := [.bool true]) (rcs := [litB true]) (rs := [1]) rfl ⟨ev_litB _ true, trivial⟩ (fun G => by kernel_rfl) hvs w (gok w) hin
          · have d4 : pl4.den S = some [b2i true] := tr (p := S.ρ 5 ≤ (3 : Int)) (Int.not_lt.1 c4)
            exact symRunI envT (ai pl4 true d4 (ai pl7 false d3 (ai pl2 false d2 (ai pl1 false d1 (ai pl0 false d0 (al_is awT true (by kernel_rfl) (aw_den hΦ9) (al_is flg true (by kernel_rfl) (tr rfl) (AlOk.nil _)))))))) (one_ok hΦ9) hlk (n := 1000) (args := [inT, inL]) (args' := [.slice x.a x.n x.cap, .slice y.a y.n y.cap]) (res := [.one .bool]) (vs := [.bool true]) (rcs := [litB true]) (rs := [1]) rfl ⟨ev_litB _ true, trivial⟩ (fun G => by kernel_rfl) hvs w (gok w) hin
  by_cases hg : y.n ≤ 60
  · obtain ⟨m, k', Sf, hc, hv, rfl, hfin⟩ := loop_ex (stepT SS x.n y.n hg hK) y.n (SS.set (upd SS.ρ [(3, (0 : Int)), (4, (0 : Int)), (5, (10 : Int)), (6, (10 : Int)), (21, (b2i false)), (20, (0 : Int)), (19, (0 : Int)), (18, (0 : Int)), (17, (0 : Int)), (16, (0 : Int)), (15, (0 : Int)), (14, (0 : Int)), (13, (0 : Int)), (12, (0 : Int)), (11, (0 : Int)), (10, (0 : Int))]) [(60, fun _ => 0), (61, fun _ => 0)] 60 rfl hK) ⟨0, Nat.zero_le _, rfl, rfl, rfl, rfl, rfl, rfl, Int.le_refl _, Int.le_refl _, rfl, rfl, fun f hf l => Sy.set_low hf⟩
    obtain ⟨i, hin', hk, h1, h2, h4, h5, h6, h3, h3', h21, hI, hΦ⟩ := hv
    obtain rfl : i = y.n := by omega
    refine main Sf hI h1 h2 ((hΦ 9 (by decide) []).trans h9) _ (fun _ => ⟨rfl, h5, h6, h21⟩) (LkOk.one codeT (loop_chain envT (ann_self _) fineT (show XT.N = FT.N from rfl) (Nat.le_refl _) hc (hfin Sf (Same.refl _ _ _)) ?_))
    exact (an 1 (.var .i64 1) (sm h1) (an 2 (.var .i64 2) (sm h2) (an 3 (.lit .i64 0) rfl (an 4 (.lit .i64 0) rfl (an 5 (.lit .i64 10) rfl (ar 60 ar_zero (an 6 (.lit .i64 10) rfl (ar 61 ar_zero (an 6 (.lit .i64 10) rfl (an 5 (.lit .i64 10) rfl (an 21 (.blit false) rfl (an 20 (.lit .i64 0) rfl (an 19 (.lit .i64 0) rfl (an 18 (.lit .i64 0) rfl (an 17 (.lit .u64 0) rfl (an 16 (.lit .u64 0) rfl (an 15 (.lit .u64 0) rfl (an 14 (.lit .u64 0) rfl (an 13 (.lit .u64 0) rfl (an 12 (.lit .u8 0) rfl (an 11 (.lit .i64 0) rfl (an 10 (.lit .i64 0) rfl (an 3 (.lit .i64 0) rfl (an 5 (.lit .i64 10) rfl (ar 60 ar_zero (an 6 (.lit .i64 10) rfl (ar 61 ar_zero (an 6 (.lit .i64 10) rfl (an 5 (.lit .i64 10) rfl (an 3 (.lit .i64 0) rfl (asg_nil hI.symm)))))))))))))))))))))))))))))))
  · exact main SS rfl rfl rfl h9 _ (fun h => absurd h hg) (LkOk.no _ _ _ _)
end Go.Proofs.Ytilddfihdmmjcaa
