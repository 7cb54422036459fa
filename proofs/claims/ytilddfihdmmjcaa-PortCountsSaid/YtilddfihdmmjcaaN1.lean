/-
  PortCounts: its loop by a rule, run with symbols. Conditions: what is said of the slice (SlIn).
-/
import Derived.Test.YtilddfihdmmjcaaN0
namespace Go.Proofs.Ytilddfihdmmjcaa
open Go.Ev Go.RowKit
set_option maxRecDepth 100000
def lpC : Mrk := (8, [1, 1, 1, 1, 1, 0, 1, 0])
def inC : Value := inS 0 (dsc 1 20 [5, 4, 8, 8])
noncomputable def hpC : List (Nat × Blk) := [(0, .cells (mkCells #[vv .u64 2] 36)), (1, .cells (mkCells #[] 5)), (2, .cells (mkCells #[.slice (some ⟨0, 0, none⟩) 1 1, .slice (some ⟨1, 0, none⟩) 0 0] 75)), (3, .cells (mkCells #[.pointer (some ⟨2, 0, none⟩), vv .i64 4, .int .i64 0, .int .i64 0, .int .i64 0, .int .u8 0, .int .u64 0, .int .u64 0, .int .u64 0, .int .u64 0, .int .u64 0, .int .i64 0, .int .i64 0, .int .i64 0, .bool false] 88))]
noncomputable def XC : Pat := ⟨72, 4, [(0, inC), (3, .pointer (some ⟨3, 0, none⟩)), (4, vv .u64 2), (5, vv .i64 3)], hpC⟩
noncomputable def FC : Pat := ⟨72, 4, [], []⟩
noncomputable abbrev ΛC : Nat → Option Code := lamOf Try.prog [lpC]
noncomputable abbrev ftC : Nat → Option Func := ftM Try.prog [lpC]
theorem envC : @EnvOk ⟨ΛC⟩ Try.prog ftC := envM env [lpC] (by kernel_rfl)
theorem codeC : codeAt Try.prog lpC = some (.loop (cAt Try.prog lpC)) := by kernel_rfl
theorem fineC' : fineC Try.prog.globals.size (cAt Try.prog lpC) = true := by kernel_rfl
def pc0 : Tm := (.bin .lss (.var .i64 3) (.var .i64 1))
def pc1 : Tm := (.bin .geq (.var .i64 3) (.lit .i64 0))
def pc2 : Tm := (.bin .eql (.bin .rem (.app .u8 20 (.cons (.var .i64 3) .nil)) (.lit .u8 3)) (.lit .u8 0))
def pc3 : Tm := (.bin .neq (.app .u64 22 (.cons (.var .i64 3) .nil)) (.app .u64 22 (.cons (.var .i64 3) .nil)))
def pc4 : Tm := (.bin .eql (.bin .rem (.app .u8 20 (.cons (.var .i64 3) .nil)) (.lit .u8 3)) (.lit .u8 1))
def pc5 : Tm := (.bin .neq (.var .u64 2) (.var .u64 2))
def pc6 : Tm := (.bin .neq (.bin .add (.var .u64 2) (.app .u64 22 (.cons (.var .i64 3) .nil))) (.bin .add (.var .u64 2) (.app .u64 22 (.cons (.var .i64 3) .nil))))
def pc7 : Tm := (.bin .eql (.bin .rem (.app .u8 20 (.cons (.var .i64 3) .nil)) (.lit .u8 3)) (.lit .u8 2))
def pc8 : Tm := (.bin .neq (.var .u64 2) (.app .u64 22 (.cons (.var .i64 3) .nil)))
def pc9 : Tm := (.bne (.blit true) (.bin .eql (.var .u64 2) (.app .u64 22 (.cons (.var .i64 3) .nil))))
def pc10 : Tm := (.bin .eql (.var .u64 2) (.app .u64 22 (.cons (.var .i64 3) .nil)))
def pc11 : Tm := (.bin .neq (.app .u64 23 (.cons (.var .i64 3) .nil)) (.app .u64 23 (.cons (.var .i64 3) .nil)))
def pc12 : Tm := (.bne (.blit false) (.bin .eql (.var .u64 2) (.app .u64 22 (.cons (.var .i64 3) .nil))))
section
variable (S : Sy) (n : Nat)
/-- Behind i rounds: i at the third place. -/
def InvC (k : Nat) (S1 : Sy) : Prop := ∃ i : Nat, i ≤ n ∧ k = n - i ∧ S1.ρ 1 = n ∧ S1.ρ 3 = i ∧ S1.Φ = S.Φ ∧ S1.I = S.I
theorem stepC (hn : n < 9223372036854775808) (k : Nat) (S1 : Sy) (hi : InvC S n k S1) : Step Try.prog ftC ΛC [] (cAt Try.prog lpC) XC FC (.exit 0) S (InvC S n) k S1 := by
  obtain ⟨i, hin, rfl, h1, h3, hΦ, hI⟩ := hi
  have hcs : ∀ c ∈ ([] : List Ctr), CtrOk Try.prog S1 [] c := fun c hc => by simp at hc
  by_cases c0 : S1.ρ 3 < S1.ρ 1
  · have d0 : pc0.den S1 = some [b2i true] := tr (p := S1.ρ 3 < S1.ρ 1) c0
    have c1 : ¬ (S1.ρ 3 < (0 : Int)) := by omega
    have d1 : pc1.den S1 = some [b2i true] := tr (p := (0 : Int) ≤ S1.ρ 3) (Int.not_lt.1 c1)
    by_cases c2 : (((S1.Φ 20 [S1.ρ 3])).tmod (3 : Int)) = (0 : Int)
    · have d2 : pc2.den S1 = some [b2i true] := tr (p := (((S1.Φ 20 [S1.ρ 3])).tmod (3 : Int)) = (0 : Int)) c2
      have c3 : (S1.Φ 22 [S1.ρ 3]) = (S1.Φ 22 [S1.ρ 3]) := rfl
      have d3 : pc3.den S1 = some [b2i false] := fls (p := (S1.Φ 22 [S1.ρ 3]) ≠ (S1.Φ 22 [S1.ρ 3])) (fun hh => hh c3)
      obtain ⟨o2, h_o2⟩ : ∃ o : Int, o = (S1.Φ 22 [S1.ρ 3]) := ⟨_, rfl⟩
      obtain ⟨o3, h_o3⟩ : ∃ o : Int, o = (IntKind.i64.wrap (S1.ρ 3 + (1 : Int))) := ⟨_, rfl⟩
      obtain ⟨o4, h_o4⟩ : ∃ o : Int, o = (IntKind.i64.wrap ((IntKind.i64.wrap (S1.ρ 4 + (1 : Int))) + (1 : Int))) := ⟨_, rfl⟩
      have k1 : n - i = n - (i + 1) + 1 := by omega
      rw [w_i64 (by omega) (by omega)] at h_o3
      have hI2 : (S1.setρ (upd S1.ρ [(2, o2), (3, o3), (4, o4)])).I = S1.I := rfl
      have inv : InvC S n (n - (i + 1)) (S1.setρ (upd S1.ρ [(2, o2), (3, o3), (4, o4)])) := ⟨i + 1, by omega, rfl, h1, (show o3 = ((i + 1 : Nat) : Int) by omega), hΦ, hI⟩
      have h_o3 : o3 = IntKind.i64.wrap (S1.ρ 3 + (1 : Int)) := by rw [w_i64 (by omega) (by omega)]; omega
      exact ⟨_, [], _, 1000, [(1, .num (Tm.enc (.var .i64 1))), (2, .num (Tm.enc (.app .u64 22 (.cons (.var .i64 3) .nil)))), (3, .num (Tm.enc (.bin .add (.var .i64 3) (.lit .i64 1)))), (2, .num (Tm.enc (.app .u64 22 (.cons (.var .i64 3) .nil)))), (4, .num (Tm.enc (.bin .add (.bin .add (.var .i64 4) (.lit .i64 1)) (.lit .i64 1))))], (al_is pc3 false (by kernel_rfl) d3 (al_is pc2 true (by kernel_rfl) d2 (al_is pc1 true (by kernel_rfl) d1 (al_is pc0 true (by kernel_rfl) d0 (AlOk.nil _))))), hcs, LkOk.no _ _ _ _, .inl ⟨_, _, k1, inv, (asg_cons (.var .i64 1) (by kernel_rfl) rfl (asg_cons (.app .u64 22 (.cons (.var .i64 3) .nil)) (by kernel_rfl) (sm (show (S1.Φ 22 [S1.ρ 3]) = o2 from h_o2.symm)) (asg_cons (.bin .add (.var .i64 3) (.lit .i64 1)) (by kernel_rfl) (sm (show (IntKind.i64.wrap (S1.ρ 3 + (1 : Int))) = o3 from h_o3.symm)) (asg_cons (.app .u64 22 (.cons (.var .i64 3) .nil)) (by kernel_rfl) (sm (show (S1.Φ 22 [S1.ρ 3]) = o2 from h_o2.symm)) (asg_cons (.bin .add (.bin .add (.var .i64 4) (.lit .i64 1)) (.lit .i64 1)) (by kernel_rfl) (sm (show (IntKind.i64.wrap ((IntKind.i64.wrap (S1.ρ 4 + (1 : Int))) + (1 : Int))) = o4 from h_o4.symm)) (asg_nil hI2)))))), fun G => by kernel_rfl⟩⟩
    · have d2 : pc2.den S1 = some [b2i false] := fls (p := (((S1.Φ 20 [S1.ρ 3])).tmod (3 : Int)) = (0 : Int)) c2
      by_cases c3 : (((S1.Φ 20 [S1.ρ 3])).tmod (3 : Int)) = (1 : Int)
      · have d3 : pc4.den S1 = some [b2i true] := tr (p := (((S1.Φ 20 [S1.ρ 3])).tmod (3 : Int)) = (1 : Int)) c3
        have c4 : S1.ρ 2 = S1.ρ 2 := rfl
        have d4 : pc5.den S1 = some [b2i false] := fls (p := S1.ρ 2 ≠ S1.ρ 2) (fun hh => hh c4)
        have c5 : (IntKind.u64.wrap (S1.ρ 2 + (S1.Φ 22 [S1.ρ 3]))) = (IntKind.u64.wrap (S1.ρ 2 + (S1.Φ 22 [S1.ρ 3]))) := rfl
        have d5 : pc6.den S1 = some [b2i false] := fls (p := (IntKind.u64.wrap (S1.ρ 2 + (S1.Φ 22 [S1.ρ 3]))) ≠ (IntKind.u64.wrap (S1.ρ 2 + (S1.Φ 22 [S1.ρ 3])))) (fun hh => hh c5)
        obtain ⟨o2, h_o2⟩ : ∃ o : Int, o = (IntKind.u64.wrap (S1.ρ 2 + (S1.Φ 22 [S1.ρ 3]))) := ⟨_, rfl⟩
        obtain ⟨o3, h_o3⟩ : ∃ o : Int, o = (IntKind.i64.wrap (S1.ρ 3 + (1 : Int))) := ⟨_, rfl⟩
        obtain ⟨o4, h_o4⟩ : ∃ o : Int, o = (IntKind.i64.wrap ((IntKind.i64.wrap (S1.ρ 4 + (1 : Int))) + (1 : Int))) := ⟨_, rfl⟩
        have k1 : n - i = n - (i + 1) + 1 := by omega
        rw [w_i64 (by omega) (by omega)] at h_o3
        have hI2 : (S1.setρ (upd S1.ρ [(2, o2), (3, o3), (4, o4)])).I = S1.I := rfl
        have inv : InvC S n (n - (i + 1)) (S1.setρ (upd S1.ρ [(2, o2), (3, o3), (4, o4)])) := ⟨i + 1, by omega, rfl, h1, (show o3 = ((i + 1 : Nat) : Int) by omega), hΦ, hI⟩
        have h_o3 : o3 = IntKind.i64.wrap (S1.ρ 3 + (1 : Int)) := by rw [w_i64 (by omega) (by omega)]; omega
        exact ⟨_, [], _, 1000, [(1, .num (Tm.enc (.var .i64 1))), (2, .num (Tm.enc (.bin .add (.var .u64 2) (.app .u64 22 (.cons (.var .i64 3) .nil))))), (3, .num (Tm.enc (.bin .add (.var .i64 3) (.lit .i64 1)))), (2, .num (Tm.enc (.bin .add (.var .u64 2) (.app .u64 22 (.cons (.var .i64 3) .nil))))), (4, .num (Tm.enc (.bin .add (.bin .add (.var .i64 4) (.lit .i64 1)) (.lit .i64 1))))], (al_is pc6 false (by kernel_rfl) d5 (al_is pc5 false (by kernel_rfl) d4 (al_is pc4 true (by kernel_rfl) d3 (al_is pc2 false (by kernel_rfl) d2 (al_is pc1 true (by kernel_rfl) d1 (al_is pc0 true (by kernel_rfl) d0 (AlOk.nil _))))))), hcs, LkOk.no _ _ _ _, .inl ⟨_, _, k1, inv, (asg_cons (.var .i64 1) (by kernel_rfl) rfl (asg_cons (.bin .add (.var .u64 2) (.app .u64 22 (.cons (.var .i64 3) .nil))) (by kernel_rfl) (sm (show (IntKind.u64.wrap (S1.ρ 2 + (S1.Φ 22 [S1.ρ 3]))) = o2 from h_o2.symm)) (asg_cons (.bin .add (.var .i64 3) (.lit .i64 1)) (by kernel_rfl) (sm (show (IntKind.i64.wrap (S1.ρ 3 + (1 : Int))) = o3 from h_o3.symm)) (asg_cons (.bin .add (.var .u64 2) (.app .u64 22 (.cons (.var .i64 3) .nil))) (by kernel_rfl) (sm (show (IntKind.u64.wrap (S1.ρ 2 + (S1.Φ 22 [S1.ρ 3]))) = o2 from h_o2.symm)) (asg_cons (.bin .add (.bin .add (.var .i64 4) (.lit .i64 1)) (.lit .i64 1)) (by kernel_rfl) (sm (show (IntKind.i64.wrap ((IntKind.i64.wrap (S1.ρ 4 + (1 : Int))) + (1 : Int))) = o4 from h_o4.symm)) (asg_nil hI2)))))), fun G => by kernel_rfl⟩⟩
      · have d3 : pc4.den S1 = some [b2i false] := fls (p := (((S1.Φ 20 [S1.ρ 3])).tmod (3 : Int)) = (1 : Int)) c3
        by_cases c4 : (((S1.Φ 20 [S1.ρ 3])).tmod (3 : Int)) = (2 : Int)
        · have d4 : pc7.den S1 = some [b2i true] := tr (p := (((S1.Φ 20 [S1.ρ 3])).tmod (3 : Int)) = (2 : Int)) c4
          by_cases c5 : S1.ρ 2 = (S1.Φ 22 [S1.ρ 3])
          · have d5 : pc8.den S1 = some [b2i false] := fls (p := S1.ρ 2 ≠ (S1.Φ 22 [S1.ρ 3])) (fun hh => hh c5)
            have d6 : pc9.den S1 = some [b2i false] := fls (p := (b2i true) ≠ (b2i (decide (S1.ρ 2 = (S1.Φ 22 [S1.ρ 3]))))) (by rw [decide_eq_true c5]; decide)
            have d7 : pc10.den S1 = some [b2i true] := tr (p := S1.ρ 2 = (S1.Φ 22 [S1.ρ 3])) c5
            have c8 : (S1.Φ 23 [S1.ρ 3]) = (S1.Φ 23 [S1.ρ 3]) := rfl
            have d8 : pc11.den S1 = some [b2i false] := fls (p := (S1.Φ 23 [S1.ρ 3]) ≠ (S1.Φ 23 [S1.ρ 3])) (fun hh => hh c8)
            obtain ⟨o2, h_o2⟩ : ∃ o : Int, o = (S1.Φ 23 [S1.ρ 3]) := ⟨_, rfl⟩
            obtain ⟨o3, h_o3⟩ : ∃ o : Int, o = (IntKind.i64.wrap (S1.ρ 3 + (1 : Int))) := ⟨_, rfl⟩
            obtain ⟨o4, h_o4⟩ : ∃ o : Int, o = (IntKind.i64.wrap ((IntKind.i64.wrap (S1.ρ 4 + (1 : Int))) + (1 : Int))) := ⟨_, rfl⟩
            have k1 : n - i = n - (i + 1) + 1 := by omega
            rw [w_i64 (by omega) (by omega)] at h_o3
            have hI2 : (S1.setρ (upd S1.ρ [(2, o2), (3, o3), (4, o4)])).I = S1.I := rfl
            have inv : InvC S n (n - (i + 1)) (S1.setρ (upd S1.ρ [(2, o2), (3, o3), (4, o4)])) := ⟨i + 1, by omega, rfl, h1, (show o3 = ((i + 1 : Nat) : Int) by omega), hΦ, hI⟩
            have h_o3 : o3 = IntKind.i64.wrap (S1.ρ 3 + (1 : Int)) := by rw [w_i64 (by omega) (by omega)]; omega
            exact ⟨_, [], _, 1000, [(1, .num (Tm.enc (.var .i64 1))), (2, .num (Tm.enc (.app .u64 23 (.cons (.var .i64 3) .nil)))), (3, .num (Tm.enc (.bin .add (.var .i64 3) (.lit .i64 1)))), (2, .num (Tm.enc (.app .u64 23 (.cons (.var .i64 3) .nil)))), (4, .num (Tm.enc (.bin .add (.bin .add (.var .i64 4) (.lit .i64 1)) (.lit .i64 1))))], (al_is pc11 false (by kernel_rfl) d8 (al_is pc10 true (by kernel_rfl) d7 (al_is pc9 false (by kernel_rfl) d6 (al_is pc8 false (by kernel_rfl) d5 (al_is pc7 true (by kernel_rfl) d4 (al_is pc4 false (by kernel_rfl) d3 (al_is pc2 false (by kernel_rfl) d2 (al_is pc1 true (by kernel_rfl) d1 (al_is pc0 true (by kernel_rfl) d0 (AlOk.nil _)))))))))), hcs, LkOk.no _ _ _ _, .inl ⟨_, _, k1, inv, (asg_cons (.var .i64 1) (by kernel_rfl) rfl (asg_cons (.app .u64 23 (.cons (.var .i64 3) .nil)) (by kernel_rfl) (sm (show (S1.Φ 23 [S1.ρ 3]) = o2 from h_o2.symm)) (asg_cons (.bin .add (.var .i64 3) (.lit .i64 1)) (by kernel_rfl) (sm (show (IntKind.i64.wrap (S1.ρ 3 + (1 : Int))) = o3 from h_o3.symm)) (asg_cons (.app .u64 23 (.cons (.var .i64 3) .nil)) (by kernel_rfl) (sm (show (S1.Φ 23 [S1.ρ 3]) = o2 from h_o2.symm)) (asg_cons (.bin .add (.bin .add (.var .i64 4) (.lit .i64 1)) (.lit .i64 1)) (by kernel_rfl) (sm (show (IntKind.i64.wrap ((IntKind.i64.wrap (S1.ρ 4 + (1 : Int))) + (1 : Int))) = o4 from h_o4.symm)) (asg_nil hI2)))))), fun G => by kernel_rfl⟩⟩
          · have d5 : pc8.den S1 = some [b2i true] := tr (p := S1.ρ 2 ≠ (S1.Φ 22 [S1.ρ 3])) c5
            have d6 : pc12.den S1 = some [b2i false] := fls (p := (b2i false) ≠ (b2i (decide (S1.ρ 2 = (S1.Φ 22 [S1.ρ 3]))))) (by rw [decide_eq_false c5]; decide)
            have d7 : pc10.den S1 = some [b2i false] := fls (p := S1.ρ 2 = (S1.Φ 22 [S1.ρ 3])) c5
            have c8 : S1.ρ 2 = S1.ρ 2 := rfl
            have d8 : pc5.den S1 = some [b2i false] := fls (p := S1.ρ 2 ≠ S1.ρ 2) (fun hh => hh c8)
            obtain ⟨o3, h_o3⟩ : ∃ o : Int, o = (IntKind.i64.wrap (S1.ρ 3 + (1 : Int))) := ⟨_, rfl⟩
            obtain ⟨o4, h_o4⟩ : ∃ o : Int, o = (IntKind.i64.wrap ((IntKind.i64.wrap (S1.ρ 4 + (1 : Int))) + (1 : Int))) := ⟨_, rfl⟩
            have k1 : n - i = n - (i + 1) + 1 := by omega
            rw [w_i64 (by omega) (by omega)] at h_o3
            have hI2 : (S1.setρ (upd S1.ρ [(3, o3), (4, o4)])).I = S1.I := rfl
            have inv : InvC S n (n - (i + 1)) (S1.setρ (upd S1.ρ [(3, o3), (4, o4)])) := ⟨i + 1, by omega, rfl, h1, (show o3 = ((i + 1 : Nat) : Int) by omega), hΦ, hI⟩
            have h_o3 : o3 = IntKind.i64.wrap (S1.ρ 3 + (1 : Int)) := by rw [w_i64 (by omega) (by omega)]; omega
            exact ⟨_, [], _, 1000, [(1, .num (Tm.enc (.var .i64 1))), (2, .num (Tm.enc (.var .u64 2))), (3, .num (Tm.enc (.bin .add (.var .i64 3) (.lit .i64 1)))), (2, .num (Tm.enc (.var .u64 2))), (4, .num (Tm.enc (.bin .add (.bin .add (.var .i64 4) (.lit .i64 1)) (.lit .i64 1))))], (al_is pc5 false (by kernel_rfl) d8 (al_is pc10 false (by kernel_rfl) d7 (al_is pc12 false (by kernel_rfl) d6 (al_is pc8 true (by kernel_rfl) d5 (al_is pc7 true (by kernel_rfl) d4 (al_is pc4 false (by kernel_rfl) d3 (al_is pc2 false (by kernel_rfl) d2 (al_is pc1 true (by kernel_rfl) d1 (al_is pc0 true (by kernel_rfl) d0 (AlOk.nil _)))))))))), hcs, LkOk.no _ _ _ _, .inl ⟨_, _, k1, inv, (asg_cons (.var .i64 1) (by kernel_rfl) rfl (asg_cons (.var .u64 2) (by kernel_rfl) rfl (asg_cons (.bin .add (.var .i64 3) (.lit .i64 1)) (by kernel_rfl) (sm (show (IntKind.i64.wrap (S1.ρ 3 + (1 : Int))) = o3 from h_o3.symm)) (asg_cons (.var .u64 2) (by kernel_rfl) rfl (asg_cons (.bin .add (.bin .add (.var .i64 4) (.lit .i64 1)) (.lit .i64 1)) (by kernel_rfl) (sm (show (IntKind.i64.wrap ((IntKind.i64.wrap (S1.ρ 4 + (1 : Int))) + (1 : Int))) = o4 from h_o4.symm)) (asg_nil hI2)))))), fun G => by kernel_rfl⟩⟩
        · have d4 : pc7.den S1 = some [b2i false] := fls (p := (((S1.Φ 20 [S1.ρ 3])).tmod (3 : Int)) = (2 : Int)) c4
          have c5 : S1.ρ 2 = S1.ρ 2 := rfl
          have d5 : pc5.den S1 = some [b2i false] := fls (p := S1.ρ 2 ≠ S1.ρ 2) (fun hh => hh c5)
          obtain ⟨o3, h_o3⟩ : ∃ o : Int, o = (IntKind.i64.wrap (S1.ρ 3 + (1 : Int))) := ⟨_, rfl⟩
          obtain ⟨o4, h_o4⟩ : ∃ o : Int, o = (IntKind.i64.wrap (S1.ρ 4 + (1 : Int))) := ⟨_, rfl⟩
          have k1 : n - i = n - (i + 1) + 1 := by omega
          rw [w_i64 (by omega) (by omega)] at h_o3
          have hI2 : (S1.setρ (upd S1.ρ [(3, o3), (4, o4)])).I = S1.I := rfl
          have inv : InvC S n (n - (i + 1)) (S1.setρ (upd S1.ρ [(3, o3), (4, o4)])) := ⟨i + 1, by omega, rfl, h1, (show o3 = ((i + 1 : Nat) : Int) by omega), hΦ, hI⟩
          have h_o3 : o3 = IntKind.i64.wrap (S1.ρ 3 + (1 : Int)) := by rw [w_i64 (by omega) (by omega)]; omega
          exact ⟨_, [], _, 1000, [(1, .num (Tm.enc (.var .i64 1))), (2, .num (Tm.enc (.var .u64 2))), (3, .num (Tm.enc (.bin .add (.var .i64 3) (.lit .i64 1)))), (2, .num (Tm.enc (.var .u64 2))), (4, .num (Tm.enc (.bin .add (.var .i64 4) (.lit .i64 1))))], (al_is pc5 false (by kernel_rfl) d5 (al_is pc7 false (by kernel_rfl) d4 (al_is pc4 false (by kernel_rfl) d3 (al_is pc2 false (by kernel_rfl) d2 (al_is pc1 true (by kernel_rfl) d1 (al_is pc0 true (by kernel_rfl) d0 (AlOk.nil _))))))), hcs, LkOk.no _ _ _ _, .inl ⟨_, _, k1, inv, (asg_cons (.var .i64 1) (by kernel_rfl) rfl (asg_cons (.var .u64 2) (by kernel_rfl) rfl (asg_cons (.bin .add (.var .i64 3) (.lit .i64 1)) (by kernel_rfl) (sm (show (IntKind.i64.wrap (S1.ρ 3 + (1 : Int))) = o3 from h_o3.symm)) (asg_cons (.var .u64 2) (by kernel_rfl) rfl (asg_cons (.bin .add (.var .i64 4) (.lit .i64 1)) (by kernel_rfl) (sm (show (IntKind.i64.wrap (S1.ρ 4 + (1 : Int))) = o4 from h_o4.symm)) (asg_nil hI2)))))), fun G => by kernel_rfl⟩⟩
  · have d0 : pc0.den S1 = some [b2i false] := fls (p := S1.ρ 3 < S1.ρ 1) c0
    exact ⟨_, [], _, 1000, [], (al_is pc0 false (by kernel_rfl) d0 (AlOk.nil _)), hcs, LkOk.no _ _ _ _, .inr ⟨asg_nil hI.symm, fun G => by kernel_rfl⟩⟩
theorem lkC (hn : n < 9223372036854775808) (h1 : S.ρ 1 = n) (h2 : S.ρ 2 = 0) (h3 : S.ρ 3 = 0) (h4 : S.ρ 4 = 0) :
    LkOk Try.prog S [] ΛC (lkL [lkLoop Try.prog XC FC (.exit 0) [(1, .num (Tm.var .i64 1).enc), (2, .num (Tm.lit .u64 0).enc), (3, .num (Tm.lit .i64 0).enc), (2, .num (Tm.lit .u64 0).enc), (4, .num (Tm.lit .i64 0).enc)]]) :=
  LkOk.one codeC (loop_ok envC (ann_self _) fineC' (show XC.N = FC.N from rfl) (stepC S n hn) (k0 := n) (S0 := S) ⟨0, Nat.zero_le _, rfl, h1, h3, rfl, rfl⟩
    (asg_cons (.var .i64 1) (by kernel_rfl) rfl (asg_cons (.lit .u64 0) (by kernel_rfl) (sm h2.symm) (asg_cons (.lit .i64 0) (by kernel_rfl) (sm h3.symm) (asg_cons (.lit .u64 0) (by kernel_rfl) (sm h2.symm) (asg_cons (.lit .i64 0) (by kernel_rfl) (sm h4.symm) (asg_nil rfl)))))))
end
def greatC : Tm := (.bin .gtr (.var .i64 1) (.lit .i64 100))
theorem counts_any (v : Value) (w : World) (hs : SlIn w [some .u8, some .i64, some .u64, some .u64] v) : Calls Try.prog 8 #[v] w fun e w' => e = .returned (.bool true) ∧ Quiet w w' := by
  obtain ⟨x, F, hks, hf, rfl, hx, _, hok, hin⟩ := inp_of (by decide) hs 20
  have hxok : InpOk [x] (phi 20 4 F) x := hok (phi 20 4 F) fun m j hm => phi_in (f := 20) (m := 4) (by simpa using hm)
  let S : Sy := ⟨upd (fun _ => 0) [(1, (x.n : Int))], phi 20 4 F, [x], fun y hy => by rw [List.mem_singleton] at hy; subst hy; exact hxok⟩
  have hΦ : S.Φ 9 [] = 1 := phi_9 (f := 20) (m := 4) (F := F) (by decide)
  have hn : S.ρ 1 = x.n := rfl
  have hvs : ∀ G ι, VsOk S G ι [inC] [.slice x.a x.n x.cap] := fun G ι => vs_inp (x := x) (by decide) (by decide +kernel) rfl (by rw [hks]; decide +kernel) (by rw [hf]; decide +kernel) rfl vs_nil
  by_cases hg : 100 < (x.n : Int)
  · have dg : greatC.den S = some [b2i true] := tr (p := 100 < S.ρ 1) (by omega)
    exact symRunI envC (al_is awT true (by kernel_rfl) (aw_den hΦ) (al_is greatC true (by kernel_rfl) dg (AlOk.nil _))) (one_ok hΦ) (lkC S x.n hx hn rfl rfl rfl) (n := 1000) (args := [inC]) (args' := [.slice x.a x.n x.cap]) (res := [.one .bool]) (vs := [.bool true]) (rcs := [litB true]) (rs := [1])
      rfl ⟨ev_litB _ true, trivial⟩ (fun G => by kernel_rfl) hvs w (gok w) hin
  · have dg : greatC.den S = some [b2i false] := fls (p := 100 < S.ρ 1) (by omega)
    exact symRunI envC (al_is awT true (by kernel_rfl) (aw_den hΦ) (al_is greatC false (by kernel_rfl) dg (AlOk.nil _))) (one_ok hΦ) (lkC S x.n hx hn rfl rfl rfl) (n := 1000) (args := [inC]) (args' := [.slice x.a x.n x.cap]) (res := [.one .bool]) (vs := [.bool true]) (rcs := [litB true]) (rs := [1])
      rfl ⟨ev_litB _ true, trivial⟩ (fun G => by kernel_rfl) hvs w (gok w) hin
end Go.Proofs.Ytilddfihdmmjcaa
