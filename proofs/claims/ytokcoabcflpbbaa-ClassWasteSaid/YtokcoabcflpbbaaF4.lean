/-
  Make's loop at further places where ClassWaste meets it, and the loop that compares. No condition but those each says.
-/
import Derived.Test.YtokcoabcflpbbaaF3
namespace Go.Proofs.Ytokcoabcflpbbaa
open Go.Ev Go.RowKit
set_option maxRecDepth 100000
def wEN0 : Tm := (.bin .lss (.var .i64 13) (.var .i64 1))
def wEN1 : Tm := (.bin .geq (.var .i64 13) (.lit .i64 0))
def wEN2 : Tm := (.bin .geq (.app .i64 30 (.cons (.var .i64 13) .nil)) (.lit .i64 8))
def wEN3 : Tm := (.bin .leq (.app .i64 30 (.cons (.var .i64 13) .nil)) (.lit .i64 64))
def wEN4 : Tm := (.bin .eql (.bin .rem (.app .i64 30 (.cons (.var .i64 13) .nil)) (.lit .i64 8)) (.lit .i64 0))
theorem nilEN {S1 : Sy} (h0 : 0 ≤ S1.ρ 13) (h1 : S1.ρ 13 < S1.ρ 1) (h2 : S1.ρ 1 ≤ 4096) (hv : ¬ okS (S1.Φ 30 [S1.ρ 13])) (hK : ∀ x ∈ S1.I, x.f + x.ks.length ≤ 50) : ∃ S2, StepTo Try.prog ftW ΛW [] (cAt Try.prog lpWM) XE0W FEW 4 S1 S2 ∧ S2.ρ 13 = S1.ρ 13 + 1 ∧ Stay [13] [] S1 S2 := by
  have hcs : ∀ c ∈ ([] : List Ctr), CtrOk Try.prog S1 [] c := fun c hc => by simp at hc
  have c0 : S1.ρ 13 < S1.ρ 1 := by omega
  have d0 : wEN0.den S1 = some [b2i true] := tr (p := S1.ρ 13 < S1.ρ 1) c0
  have c1 : ¬ (S1.ρ 13 < (0 : Int)) := by omega
  have d1 : wEN1.den S1 = some [b2i true] := tr (p := (0 : Int) ≤ S1.ρ 13) (Int.not_lt.1 c1)
  by_cases c2 : (S1.Φ 30 [S1.ρ 13]) < (8 : Int)
  · have d2 : wEN2.den S1 = some [b2i false] := fls (p := (8 : Int) ≤ (S1.Φ 30 [S1.ρ 13])) (Int.not_le.2 c2)
    obtain ⟨o13, h_o13⟩ : ∃ o : Int, o = (IntKind.i64.wrap (S1.ρ 13 + (1 : Int))) := ⟨_, rfl⟩
    have u := h_o13
    rw [w_i64 (by omega) (by omega)] at u
    exact ⟨S1.set (upd S1.ρ [(13, o13)]) [] 50 rfl hK, ⟨_, [], _, 1000, _, [], (ai wEN2 false d2 (ai wEN1 true d1 (ai wEN0 true d0 (AlOk.nil _)))), hcs, LkOk.no _ _ _ _, (av 1 .i64 (av 1 .i64 (an 13 (.bin .add (.var .i64 13) (.lit .i64 1)) (sm h_o13.symm) (av 8 .i64 (ar 60 (ar_var 60) (ar 61 (ar_var 61) (ar 62 (ar_var 62) (asg_nil rfl)))))))), fun G => by kernel_rfl⟩, (show o13 = S1.ρ 13 + 1 by omega), (Stay.refl [13] [] _).set rfl rfl⟩
  · have d2 : wEN2.den S1 = some [b2i true] := tr (p := (8 : Int) ≤ (S1.Φ 30 [S1.ρ 13])) (Int.not_lt.1 c2)
    by_cases c3 : (64 : Int) < (S1.Φ 30 [S1.ρ 13])
    · have d3 : wEN3.den S1 = some [b2i false] := fls (p := (S1.Φ 30 [S1.ρ 13]) ≤ (64 : Int)) (Int.not_le.2 c3)
      obtain ⟨o13, h_o13⟩ : ∃ o : Int, o = (IntKind.i64.wrap (S1.ρ 13 + (1 : Int))) := ⟨_, rfl⟩
      have u := h_o13
      rw [w_i64 (by omega) (by omega)] at u
      exact ⟨S1.set (upd S1.ρ [(13, o13)]) [] 50 rfl hK, ⟨_, [], _, 1000, _, [], (ai wEN3 false d3 (ai wEN2 true d2 (ai wEN1 true d1 (ai wEN0 true d0 (AlOk.nil _))))), hcs, LkOk.no _ _ _ _, (av 1 .i64 (av 1 .i64 (an 13 (.bin .add (.var .i64 13) (.lit .i64 1)) (sm h_o13.symm) (av 8 .i64 (ar 60 (ar_var 60) (ar 61 (ar_var 61) (ar 62 (ar_var 62) (asg_nil rfl)))))))), fun G => by kernel_rfl⟩, (show o13 = S1.ρ 13 + 1 by omega), (Stay.refl [13] [] _).set rfl rfl⟩
    · have d3 : wEN3.den S1 = some [b2i true] := tr (p := (S1.Φ 30 [S1.ρ 13]) ≤ (64 : Int)) (Int.not_lt.1 c3)
      have c4 : ¬ ((((S1.Φ 30 [S1.ρ 13])).tmod (8 : Int)) = (0 : Int)) := by intro hh; exact hv ⟨by omega, by omega, hh⟩
      have d4 : wEN4.den S1 = some [b2i false] := fls (p := (((S1.Φ 30 [S1.ρ 13])).tmod (8 : Int)) = (0 : Int)) c4
      obtain ⟨o13, h_o13⟩ : ∃ o : Int, o = (IntKind.i64.wrap (S1.ρ 13 + (1 : Int))) := ⟨_, rfl⟩
      have u := h_o13
      rw [w_i64 (by omega) (by omega)] at u
      exact ⟨S1.set (upd S1.ρ [(13, o13)]) [] 50 rfl hK, ⟨_, [], _, 1000, _, [], (ai wEN4 false d4 (ai wEN3 true d3 (ai wEN2 true d2 (ai wEN1 true d1 (ai wEN0 true d0 (AlOk.nil _)))))), hcs, LkOk.no _ _ _ _, (av 1 .i64 (av 1 .i64 (an 13 (.bin .add (.var .i64 13) (.lit .i64 1)) (sm h_o13.symm) (av 8 .i64 (ar 60 (ar_var 60) (ar 61 (ar_var 61) (ar 62 (ar_var 62) (asg_nil rfl)))))))), fun G => by kernel_rfl⟩, (show o13 = S1.ρ 13 + 1 by omega), (Stay.refl [13] [] _).set rfl rfl⟩
theorem chainEN : ∀ (m : Nat) (S0 : Sy), 0 ≤ S0.ρ 13 → S0.ρ 13 + m ≤ S0.ρ 1 → S0.ρ 1 ≤ 4096 → (∀ j : Nat, j < m → ¬ okS (S0.Φ 30 [S0.ρ 13 + j])) → (∀ x ∈ S0.I, x.f + x.ks.length ≤ 50) →
    ∃ Sa, Chain (StepTo Try.prog ftW ΛW [] (cAt Try.prog lpWM) XE0W FEW 4) m S0 Sa ∧ Sa.ρ 13 = S0.ρ 13 + m ∧ Stay [13] [] S0 Sa
  | 0, S0, _, _, _, _, _ => ⟨S0, .nil _, by simp, Stay.refl _ _ _⟩
  | m + 1, S0, h0, h1, h2, hv, hK => by
    obtain ⟨S2, st, e4, y⟩ := nilEN h0 (by omega) h2 (by have := hv 0 (by omega); simpa using this) hK
    have e1 := y.num 1 rfl
    obtain ⟨Sa, ch, f4, z⟩ := chainEN m S2 (by omega) (by omega) (by omega) (fun j hj => by
      have := hv (j + 1) (by omega)
      rw [y.fn 30 rfl, e4]
      rwa [show S0.ρ 13 + 1 + (j : Int) = S0.ρ 13 + ((j + 1 : Nat) : Int) by omega]) (by rw [y.1]; exact hK)
    exact ⟨Sa, .cons st ch, by omega, stay_weak (y.trans z) rfl rfl⟩
def wER0 : Tm := (.bin .lss (.var .i64 13) (.var .i64 1))
def wER1 : Tm := (.bin .geq (.var .i64 13) (.lit .i64 0))
def wER2 : Tm := (.bin .geq (.app .i64 30 (.cons (.var .i64 13) .nil)) (.lit .i64 8))
def wER3 : Tm := (.bin .leq (.app .i64 30 (.cons (.var .i64 13) .nil)) (.lit .i64 64))
def wER4 : Tm := (.bin .eql (.bin .rem (.app .i64 30 (.cons (.var .i64 13) .nil)) (.lit .i64 8)) (.lit .i64 0))
theorem nilER {S1 : Sy} (h0 : 0 ≤ S1.ρ 13) (h1 : S1.ρ 13 < S1.ρ 1) (h2 : S1.ρ 1 ≤ 4096) (hv : ¬ okS (S1.Φ 30 [S1.ρ 13])) (hK : ∀ x ∈ S1.I, x.f + x.ks.length ≤ 50) : ∃ S2, StepTo Try.prog ftW ΛW [] (cAt Try.prog lpWM) XE0W FErW 4 S1 S2 ∧ S2.ρ 13 = S1.ρ 13 + 1 ∧ Stay [13] [] S1 S2 := by
  have hcs : ∀ c ∈ ([] : List Ctr), CtrOk Try.prog S1 [] c := fun c hc => by simp at hc
  have c0 : S1.ρ 13 < S1.ρ 1 := by omega
  have d0 : wER0.den S1 = some [b2i true] := tr (p := S1.ρ 13 < S1.ρ 1) c0
  have c1 : ¬ (S1.ρ 13 < (0 : Int)) := by omega
  have d1 : wER1.den S1 = some [b2i true] := tr (p := (0 : Int) ≤ S1.ρ 13) (Int.not_lt.1 c1)
  by_cases c2 : (S1.Φ 30 [S1.ρ 13]) < (8 : Int)
  · have d2 : wER2.den S1 = some [b2i false] := fls (p := (8 : Int) ≤ (S1.Φ 30 [S1.ρ 13])) (Int.not_le.2 c2)
    obtain ⟨o13, h_o13⟩ : ∃ o : Int, o = (IntKind.i64.wrap (S1.ρ 13 + (1 : Int))) := ⟨_, rfl⟩
    have u := h_o13
    rw [w_i64 (by omega) (by omega)] at u
    exact ⟨S1.set (upd S1.ρ [(13, o13)]) [] 50 rfl hK, ⟨_, [], _, 1000, _, [], (ai wER2 false d2 (ai wER1 true d1 (ai wER0 true d0 (AlOk.nil _)))), hcs, LkOk.no _ _ _ _, (av 1 .i64 (av 1 .i64 (an 13 (.bin .add (.var .i64 13) (.lit .i64 1)) (sm h_o13.symm) (av 8 .i64 (ar 60 (ar_var 60) (ar 61 (ar_var 61) (ar 62 (ar_var 62) (asg_nil rfl)))))))), fun G => by kernel_rfl⟩, (show o13 = S1.ρ 13 + 1 by omega), (Stay.refl [13] [] _).set rfl rfl⟩
  · have d2 : wER2.den S1 = some [b2i true] := tr (p := (8 : Int) ≤ (S1.Φ 30 [S1.ρ 13])) (Int.not_lt.1 c2)
    by_cases c3 : (64 : Int) < (S1.Φ 30 [S1.ρ 13])
    · have d3 : wER3.den S1 = some [b2i false] := fls (p := (S1.Φ 30 [S1.ρ 13]) ≤ (64 : Int)) (Int.not_le.2 c3)
      obtain ⟨o13, h_o13⟩ : ∃ o : Int, o = (IntKind.i64.wrap (S1.ρ 13 + (1 : Int))) := ⟨_, rfl⟩
      have u := h_o13
      rw [w_i64 (by omega) (by omega)] at u
      exact ⟨S1.set (upd S1.ρ [(13, o13)]) [] 50 rfl hK, ⟨_, [], _, 1000, _, [], (ai wER3 false d3 (ai wER2 true d2 (ai wER1 true d1 (ai wER0 true d0 (AlOk.nil _))))), hcs, LkOk.no _ _ _ _, (av 1 .i64 (av 1 .i64 (an 13 (.bin .add (.var .i64 13) (.lit .i64 1)) (sm h_o13.symm) (av 8 .i64 (ar 60 (ar_var 60) (ar 61 (ar_var 61) (ar 62 (ar_var 62) (asg_nil rfl)))))))), fun G => by kernel_rfl⟩, (show o13 = S1.ρ 13 + 1 by omega), (Stay.refl [13] [] _).set rfl rfl⟩
    · have d3 : wER3.den S1 = some [b2i true] := tr (p := (S1.Φ 30 [S1.ρ 13]) ≤ (64 : Int)) (Int.not_lt.1 c3)
      have c4 : ¬ ((((S1.Φ 30 [S1.ρ 13])).tmod (8 : Int)) = (0 : Int)) := by intro hh; exact hv ⟨by omega, by omega, hh⟩
      have d4 : wER4.den S1 = some [b2i false] := fls (p := (((S1.Φ 30 [S1.ρ 13])).tmod (8 : Int)) = (0 : Int)) c4
      obtain ⟨o13, h_o13⟩ : ∃ o : Int, o = (IntKind.i64.wrap (S1.ρ 13 + (1 : Int))) := ⟨_, rfl⟩
      have u := h_o13
      rw [w_i64 (by omega) (by omega)] at u
      exact ⟨S1.set (upd S1.ρ [(13, o13)]) [] 50 rfl hK, ⟨_, [], _, 1000, _, [], (ai wER4 false d4 (ai wER3 true d3 (ai wER2 true d2 (ai wER1 true d1 (ai wER0 true d0 (AlOk.nil _)))))), hcs, LkOk.no _ _ _ _, (av 1 .i64 (av 1 .i64 (an 13 (.bin .add (.var .i64 13) (.lit .i64 1)) (sm h_o13.symm) (av 8 .i64 (ar 60 (ar_var 60) (ar 61 (ar_var 61) (ar 62 (ar_var 62) (asg_nil rfl)))))))), fun G => by kernel_rfl⟩, (show o13 = S1.ρ 13 + 1 by omega), (Stay.refl [13] [] _).set rfl rfl⟩
theorem chainER : ∀ (m : Nat) (S0 : Sy), 0 ≤ S0.ρ 13 → S0.ρ 13 + m ≤ S0.ρ 1 → S0.ρ 1 ≤ 4096 → (∀ j : Nat, j < m → ¬ okS (S0.Φ 30 [S0.ρ 13 + j])) → (∀ x ∈ S0.I, x.f + x.ks.length ≤ 50) →
    ∃ Sa, Chain (StepTo Try.prog ftW ΛW [] (cAt Try.prog lpWM) XE0W FErW 4) m S0 Sa ∧ Sa.ρ 13 = S0.ρ 13 + m ∧ Stay [13] [] S0 Sa
  | 0, S0, _, _, _, _, _ => ⟨S0, .nil _, by simp, Stay.refl _ _ _⟩
  | m + 1, S0, h0, h1, h2, hv, hK => by
    obtain ⟨S2, st, e4, y⟩ := nilER h0 (by omega) h2 (by have := hv 0 (by omega); simpa using this) hK
    have e1 := y.num 1 rfl
    obtain ⟨Sa, ch, f4, z⟩ := chainER m S2 (by omega) (by omega) (by omega) (fun j hj => by
      have := hv (j + 1) (by omega)
      rw [y.fn 30 rfl, e4]
      rwa [show S0.ρ 13 + 1 + (j : Int) = S0.ρ 13 + ((j + 1 : Nat) : Int) by omega]) (by rw [y.1]; exact hK)
    exact ⟨Sa, .cons st ch, by omega, stay_weak (y.trans z) rfl rfl⟩
def wONE0 : Tm := (.bin .lss (.var .i64 13) (.var .i64 1))
theorem outEN {S1 T : Sy} (h1 : S1.ρ 13 = S1.ρ 1) (hT : Same [8] [60, 61, 62] S1 T) : StepOut Try.prog ftW ΛW [] (cAt Try.prog lpWM) XE0W FEW (.exit 0) 4 S1 T := by
  have hcs : ∀ c ∈ ([] : List Ctr), CtrOk Try.prog S1 [] c := fun c hc => by simp at hc
  have c0 : ¬ (S1.ρ 13 < S1.ρ 1) := by omega
  have d0 : wONE0.den S1 = some [b2i false] := fls (p := S1.ρ 13 < S1.ρ 1) c0
  exact ⟨_, [], _, 1000, _, [], (ai wONE0 false d0 (AlOk.nil _)), hcs, LkOk.no _ _ _ _, (an 8 (.var .i64 8) (sm (hT.num 8 rfl)) (asg_arr (i := 60) (hT.row 60 rfl) (asg_arr (i := 61) (hT.row 61 rfl) (asg_arr (i := 62) (hT.row 62 rfl) (asg_nil hT.1))))), fun G => by kernel_rfl⟩
theorem loopEN (S0 : Sy) (n : Nat) (hn : n ≤ 4096) (hi : S0.ρ 13 = 0) (hb : S0.ρ 1 = n) (hv : flt (fun j => S0.Φ 30 [(j : Int)]) n = []) (hK : ∀ x ∈ S0.I, x.f + x.ks.length ≤ 50) :
    ∃ Sf, Stay [13] [] S0 Sf ∧ ∀ T asg0, Same [8] [60, 61, 62] Sf T → AsgOk T S0 asg0 → LkAt Try.prog T [] (.loop (cAt Try.prog lpWM)) (lkLoopR Try.prog 4 [] XE0W FEW (.exit 0) asg0) := by
  obtain ⟨Sf, ch, e, y⟩ := chainEN n S0 (by omega) (by omega) (by omega) (fun j hj => by rw [hi, Int.zero_add]; exact flt_nil hv j hj) hK
  have y1 := y.num 1 rfl
  exact ⟨Sf, y, fun T asg0 hs ha => loop_chain envW (ann_self _) fineWM (show XE0W.N = FEW.N from rfl) (Nat.le_of_ble_eq_true rfl) ch (outEN (by omega) hs) ha⟩
def wXE8_0 : Tm := (.bin .lss (.var .i64 13) (.var .i64 1))
def wXE8_1 : Tm := (.bin .geq (.var .i64 13) (.lit .i64 0))
def wXE16_0 : Tm := (.bin .lss (.var .i64 13) (.var .i64 1))
def wXE16_1 : Tm := (.bin .geq (.var .i64 13) (.lit .i64 0))
def wXE24_0 : Tm := (.bin .lss (.var .i64 13) (.var .i64 1))
def wXE24_1 : Tm := (.bin .geq (.var .i64 13) (.lit .i64 0))
def wXE32_0 : Tm := (.bin .lss (.var .i64 13) (.var .i64 1))
def wXE32_1 : Tm := (.bin .geq (.var .i64 13) (.lit .i64 0))
def wXE40_0 : Tm := (.bin .lss (.var .i64 13) (.var .i64 1))
def wXE40_1 : Tm := (.bin .geq (.var .i64 13) (.lit .i64 0))
def wXE48_0 : Tm := (.bin .lss (.var .i64 13) (.var .i64 1))
def wXE48_1 : Tm := (.bin .geq (.var .i64 13) (.lit .i64 0))
def wXE56_0 : Tm := (.bin .lss (.var .i64 13) (.var .i64 1))
def wXE56_1 : Tm := (.bin .geq (.var .i64 13) (.lit .i64 0))
def wXE64_0 : Tm := (.bin .lss (.var .i64 13) (.var .i64 1))
def wXE64_1 : Tm := (.bin .geq (.var .i64 13) (.lit .i64 0))
theorem crossE {S1 : Sy} (h0 : 0 ≤ S1.ρ 13) (h1 : S1.ρ 13 < S1.ρ 1) (h2 : S1.ρ 1 ≤ 4096) (hv : okS (S1.Φ 30 [S1.ρ 13])) (hK : ∀ x ∈ S1.I, x.f + x.ks.length ≤ 50) :
    ∃ S2, StepX Try.prog ftW ΛW [] (cAt Try.prog lpWM) XE0W XE1W FErW 4 S1 S2 ∧ S2.ρ 13 = S1.ρ 13 + 1 ∧ RowIs S2 14 63 [S1.Φ 30 [S1.ρ 13]] ∧ Stay [13, 14] [63, 64, 65] S1 S2 := by
  have hcs : ∀ c ∈ ([] : List Ctr), CtrOk Try.prog S1 [] c := fun c hc => by simp at hc
  rcases okS_cases hv with hk | hk | hk | hk | hk | hk | hk | hk
  · have c0 : S1.ρ 13 < S1.ρ 1 := by omega
    have d0 : wXE8_0.den S1 = some [b2i true] := tr (p := S1.ρ 13 < S1.ρ 1) c0
    have c1 : ¬ (S1.ρ 13 < (0 : Int)) := by omega
    have d1 : wXE8_1.den S1 = some [b2i true] := tr (p := (0 : Int) ≤ S1.ρ 13) (Int.not_lt.1 c1)
    obtain ⟨o14, h_o14⟩ : ∃ o : Int, o = (1 : Int) := ⟨_, rfl⟩
    obtain ⟨o13, h_o13⟩ : ∃ o : Int, o = (IntKind.i64.wrap (S1.ρ 13 + (1 : Int))) := ⟨_, rfl⟩
    have u := h_o13
    rw [w_i64 (by omega) (by omega)] at u
    exact ⟨S1.set (upd S1.ρ [(14, o14), (13, o13)]) [(63, (fun j => ifE j ((0 : Int)) ((8 : Int)) ((fun _ => 0) j))), (64, (fun j => ifE j ((0 : Int)) ((8 : Int)) ((fun _ => 0) j))), (65, (fun j => ifE j ((0 : Int)) ((8 : Int)) ((fun _ => 0) j)))] 50 rfl hK, ⟨_, [], _, 1000, _, [(4, 7)], (ai wXE8_1 true d1 (ai wXE8_0 true d0 (ain (sqW 30 13) .i64 8 (sm hk) (AlOk.nil _)))), hcs, LkOk.no _ _ _ _, (an 14 (.lit .i64 1) (sm h_o14.symm) (av 1 .i64 (av 1 .i64 (an 13 (.bin .add (.var .i64 13) (.lit .i64 1)) (sm h_o13.symm) (av 8 .i64 (ar 60 (ar_var 60) (ar 61 (ar_var 61) (ar 62 (ar_var 62) (an 14 (.lit .i64 1) (sm h_o14.symm) (ar 63 (ar_upd (.lit .i64 0) (.lit .i64 8) (i := (0 : Int)) (v := (8 : Int)) rfl rfl (by kernel_rfl) ar_zero) (ar 64 (ar_upd (.lit .i64 0) (.lit .i64 8) (i := (0 : Int)) (v := (8 : Int)) rfl rfl (by kernel_rfl) ar_zero) (ar 65 (ar_upd (.lit .i64 0) (.lit .i64 8) (i := (0 : Int)) (v := (8 : Int)) rfl rfl (by kernel_rfl) ar_zero) (asg_nil rfl))))))))))))), fun G => by kernel_rfl⟩, (show o13 = S1.ρ 13 + 1 by omega), RowIs.one (isC_of 0 ⟨rfl, rfl, rfl⟩) hk h_o14 (fun _ => rfl) (fun _ => rfl) (fun _ => rfl), (Stay.refl [13, 14] [63, 64, 65] _).set rfl rfl⟩
  · have c0 : S1.ρ 13 < S1.ρ 1 := by omega
    have d0 : wXE16_0.den S1 = some [b2i true] := tr (p := S1.ρ 13 < S1.ρ 1) c0
    have c1 : ¬ (S1.ρ 13 < (0 : Int)) := by omega
    have d1 : wXE16_1.den S1 = some [b2i true] := tr (p := (0 : Int) ≤ S1.ρ 13) (Int.not_lt.1 c1)
    obtain ⟨o14, h_o14⟩ : ∃ o : Int, o = (1 : Int) := ⟨_, rfl⟩
    obtain ⟨o13, h_o13⟩ : ∃ o : Int, o = (IntKind.i64.wrap (S1.ρ 13 + (1 : Int))) := ⟨_, rfl⟩
    have u := h_o13
    rw [w_i64 (by omega) (by omega)] at u
    exact ⟨S1.set (upd S1.ρ [(14, o14), (13, o13)]) [(63, (fun j => ifE j ((0 : Int)) ((16 : Int)) ((fun _ => 0) j))), (64, (fun j => ifE j ((0 : Int)) ((16 : Int)) ((fun _ => 0) j))), (65, (fun j => ifE j ((0 : Int)) ((4 : Int)) ((fun _ => 0) j)))] 50 rfl hK, ⟨_, [], _, 1000, _, [(4, 7)], (ai wXE16_1 true d1 (ai wXE16_0 true d0 (ain (sqW 30 13) .i64 16 (sm hk) (AlOk.nil _)))), hcs, LkOk.no _ _ _ _, (an 14 (.lit .i64 1) (sm h_o14.symm) (av 1 .i64 (av 1 .i64 (an 13 (.bin .add (.var .i64 13) (.lit .i64 1)) (sm h_o13.symm) (av 8 .i64 (ar 60 (ar_var 60) (ar 61 (ar_var 61) (ar 62 (ar_var 62) (an 14 (.lit .i64 1) (sm h_o14.symm) (ar 63 (ar_upd (.lit .i64 0) (.lit .i64 16) (i := (0 : Int)) (v := (16 : Int)) rfl rfl (by kernel_rfl) ar_zero) (ar 64 (ar_upd (.lit .i64 0) (.lit .i64 16) (i := (0 : Int)) (v := (16 : Int)) rfl rfl (by kernel_rfl) ar_zero) (ar 65 (ar_upd (.lit .i64 0) (.lit .i64 4) (i := (0 : Int)) (v := (4 : Int)) rfl rfl (by kernel_rfl) ar_zero) (asg_nil rfl))))))))))))), fun G => by kernel_rfl⟩, (show o13 = S1.ρ 13 + 1 by omega), RowIs.one (isC_of 1 ⟨rfl, rfl, rfl⟩) hk h_o14 (fun _ => rfl) (fun _ => rfl) (fun _ => rfl), (Stay.refl [13, 14] [63, 64, 65] _).set rfl rfl⟩
  · have c0 : S1.ρ 13 < S1.ρ 1 := by omega
    have d0 : wXE24_0.den S1 = some [b2i true] := tr (p := S1.ρ 13 < S1.ρ 1) c0
    have c1 : ¬ (S1.ρ 13 < (0 : Int)) := by omega
    have d1 : wXE24_1.den S1 = some [b2i true] := tr (p := (0 : Int) ≤ S1.ρ 13) (Int.not_lt.1 c1)
    obtain ⟨o14, h_o14⟩ : ∃ o : Int, o = (1 : Int) := ⟨_, rfl⟩
    obtain ⟨o13, h_o13⟩ : ∃ o : Int, o = (IntKind.i64.wrap (S1.ρ 13 + (1 : Int))) := ⟨_, rfl⟩
    have u := h_o13
    rw [w_i64 (by omega) (by omega)] at u
    exact ⟨S1.set (upd S1.ρ [(14, o14), (13, o13)]) [(63, (fun j => ifE j ((0 : Int)) ((24 : Int)) ((fun _ => 0) j))), (64, (fun j => ifE j ((0 : Int)) ((8 : Int)) ((fun _ => 0) j))), (65, (fun j => ifE j ((0 : Int)) ((2 : Int)) ((fun _ => 0) j)))] 50 rfl hK, ⟨_, [], _, 1000, _, [(4, 7)], (ai wXE24_1 true d1 (ai wXE24_0 true d0 (ain (sqW 30 13) .i64 24 (sm hk) (AlOk.nil _)))), hcs, LkOk.no _ _ _ _, (an 14 (.lit .i64 1) (sm h_o14.symm) (av 1 .i64 (av 1 .i64 (an 13 (.bin .add (.var .i64 13) (.lit .i64 1)) (sm h_o13.symm) (av 8 .i64 (ar 60 (ar_var 60) (ar 61 (ar_var 61) (ar 62 (ar_var 62) (an 14 (.lit .i64 1) (sm h_o14.symm) (ar 63 (ar_upd (.lit .i64 0) (.lit .i64 24) (i := (0 : Int)) (v := (24 : Int)) rfl rfl (by kernel_rfl) ar_zero) (ar 64 (ar_upd (.lit .i64 0) (.lit .i64 8) (i := (0 : Int)) (v := (8 : Int)) rfl rfl (by kernel_rfl) ar_zero) (ar 65 (ar_upd (.lit .i64 0) (.lit .i64 2) (i := (0 : Int)) (v := (2 : Int)) rfl rfl (by kernel_rfl) ar_zero) (asg_nil rfl))))))))))))), fun G => by kernel_rfl⟩, (show o13 = S1.ρ 13 + 1 by omega), RowIs.one (isC_of 2 ⟨rfl, rfl, rfl⟩) hk h_o14 (fun _ => rfl) (fun _ => rfl) (fun _ => rfl), (Stay.refl [13, 14] [63, 64, 65] _).set rfl rfl⟩
  · have c0 : S1.ρ 13 < S1.ρ 1 := by omega
    have d0 : wXE32_0.den S1 = some [b2i true] := tr (p := S1.ρ 13 < S1.ρ 1) c0
    have c1 : ¬ (S1.ρ 13 < (0 : Int)) := by omega
    have d1 : wXE32_1.den S1 = some [b2i true] := tr (p := (0 : Int) ≤ S1.ρ 13) (Int.not_lt.1 c1)
    obtain ⟨o14, h_o14⟩ : ∃ o : Int, o = (1 : Int) := ⟨_, rfl⟩
    obtain ⟨o13, h_o13⟩ : ∃ o : Int, o = (IntKind.i64.wrap (S1.ρ 13 + (1 : Int))) := ⟨_, rfl⟩
    have u := h_o13
    rw [w_i64 (by omega) (by omega)] at u
    exact ⟨S1.set (upd S1.ρ [(14, o14), (13, o13)]) [(63, (fun j => ifE j ((0 : Int)) ((32 : Int)) ((fun _ => 0) j))), (64, (fun j => ifE j ((0 : Int)) ((32 : Int)) ((fun _ => 0) j))), (65, (fun j => ifE j ((0 : Int)) ((2 : Int)) ((fun _ => 0) j)))] 50 rfl hK, ⟨_, [], _, 1000, _, [(4, 7)], (ai wXE32_1 true d1 (ai wXE32_0 true d0 (ain (sqW 30 13) .i64 32 (sm hk) (AlOk.nil _)))), hcs, LkOk.no _ _ _ _, (an 14 (.lit .i64 1) (sm h_o14.symm) (av 1 .i64 (av 1 .i64 (an 13 (.bin .add (.var .i64 13) (.lit .i64 1)) (sm h_o13.symm) (av 8 .i64 (ar 60 (ar_var 60) (ar 61 (ar_var 61) (ar 62 (ar_var 62) (an 14 (.lit .i64 1) (sm h_o14.symm) (ar 63 (ar_upd (.lit .i64 0) (.lit .i64 32) (i := (0 : Int)) (v := (32 : Int)) rfl rfl (by kernel_rfl) ar_zero) (ar 64 (ar_upd (.lit .i64 0) (.lit .i64 32) (i := (0 : Int)) (v := (32 : Int)) rfl rfl (by kernel_rfl) ar_zero) (ar 65 (ar_upd (.lit .i64 0) (.lit .i64 2) (i := (0 : Int)) (v := (2 : Int)) rfl rfl (by kernel_rfl) ar_zero) (asg_nil rfl))))))))))))), fun G => by kernel_rfl⟩, (show o13 = S1.ρ 13 + 1 by omega), RowIs.one (isC_of 3 ⟨rfl, rfl, rfl⟩) hk h_o14 (fun _ => rfl) (fun _ => rfl) (fun _ => rfl), (Stay.refl [13, 14] [63, 64, 65] _).set rfl rfl⟩
  · have c0 : S1.ρ 13 < S1.ρ 1 := by omega
    have d0 : wXE40_0.den S1 = some [b2i true] := tr (p := S1.ρ 13 < S1.ρ 1) c0
    have c1 : ¬ (S1.ρ 13 < (0 : Int)) := by omega
    have d1 : wXE40_1.den S1 = some [b2i true] := tr (p := (0 : Int) ≤ S1.ρ 13) (Int.not_lt.1 c1)
    obtain ⟨o14, h_o14⟩ : ∃ o : Int, o = (1 : Int) := ⟨_, rfl⟩
    obtain ⟨o13, h_o13⟩ : ∃ o : Int, o = (IntKind.i64.wrap (S1.ρ 13 + (1 : Int))) := ⟨_, rfl⟩
    have u := h_o13
    rw [w_i64 (by omega) (by omega)] at u
    exact ⟨S1.set (upd S1.ρ [(14, o14), (13, o13)]) [(63, (fun j => ifE j ((0 : Int)) ((40 : Int)) ((fun _ => 0) j))), (64, (fun j => ifE j ((0 : Int)) ((8 : Int)) ((fun _ => 0) j))), (65, (fun j => ifE j ((0 : Int)) ((1 : Int)) ((fun _ => 0) j)))] 50 rfl hK, ⟨_, [], _, 1000, _, [(4, 7)], (ai wXE40_1 true d1 (ai wXE40_0 true d0 (ain (sqW 30 13) .i64 40 (sm hk) (AlOk.nil _)))), hcs, LkOk.no _ _ _ _, (an 14 (.lit .i64 1) (sm h_o14.symm) (av 1 .i64 (av 1 .i64 (an 13 (.bin .add (.var .i64 13) (.lit .i64 1)) (sm h_o13.symm) (av 8 .i64 (ar 60 (ar_var 60) (ar 61 (ar_var 61) (ar 62 (ar_var 62) (an 14 (.lit .i64 1) (sm h_o14.symm) (ar 63 (ar_upd (.lit .i64 0) (.lit .i64 40) (i := (0 : Int)) (v := (40 : Int)) rfl rfl (by kernel_rfl) ar_zero) (ar 64 (ar_upd (.lit .i64 0) (.lit .i64 8) (i := (0 : Int)) (v := (8 : Int)) rfl rfl (by kernel_rfl) ar_zero) (ar 65 (ar_upd (.lit .i64 0) (.lit .i64 1) (i := (0 : Int)) (v := (1 : Int)) rfl rfl (by kernel_rfl) ar_zero) (asg_nil rfl))))))))))))), fun G => by kernel_rfl⟩, (show o13 = S1.ρ 13 + 1 by omega), RowIs.one (isC_of 4 ⟨rfl, rfl, rfl⟩) hk h_o14 (fun _ => rfl) (fun _ => rfl) (fun _ => rfl), (Stay.refl [13, 14] [63, 64, 65] _).set rfl rfl⟩
  · have c0 : S1.ρ 13 < S1.ρ 1 := by omega
    have d0 : wXE48_0.den S1 = some [b2i true] := tr (p := S1.ρ 13 < S1.ρ 1) c0
    have c1 : ¬ (S1.ρ 13 < (0 : Int)) := by omega
    have d1 : wXE48_1.den S1 = some [b2i true] := tr (p := (0 : Int) ≤ S1.ρ 13) (Int.not_lt.1 c1)
    obtain ⟨o14, h_o14⟩ : ∃ o : Int, o = (1 : Int) := ⟨_, rfl⟩
    obtain ⟨o13, h_o13⟩ : ∃ o : Int, o = (IntKind.i64.wrap (S1.ρ 13 + (1 : Int))) := ⟨_, rfl⟩
    have u := h_o13
    rw [w_i64 (by omega) (by omega)] at u
    exact ⟨S1.set (upd S1.ρ [(14, o14), (13, o13)]) [(63, (fun j => ifE j ((0 : Int)) ((48 : Int)) ((fun _ => 0) j))), (64, (fun j => ifE j ((0 : Int)) ((16 : Int)) ((fun _ => 0) j))), (65, (fun j => ifE j ((0 : Int)) ((1 : Int)) ((fun _ => 0) j)))] 50 rfl hK, ⟨_, [], _, 1000, _, [(4, 7)], (ai wXE48_1 true d1 (ai wXE48_0 true d0 (ain (sqW 30 13) .i64 48 (sm hk) (AlOk.nil _)))), hcs, LkOk.no _ _ _ _, (an 14 (.lit .i64 1) (sm h_o14.symm) (av 1 .i64 (av 1 .i64 (an 13 (.bin .add (.var .i64 13) (.lit .i64 1)) (sm h_o13.symm) (av 8 .i64 (ar 60 (ar_var 60) (ar 61 (ar_var 61) (ar 62 (ar_var 62) (an 14 (.lit .i64 1) (sm h_o14.symm) (ar 63 (ar_upd (.lit .i64 0) (.lit .i64 48) (i := (0 : Int)) (v := (48 : Int)) rfl rfl (by kernel_rfl) ar_zero) (ar 64 (ar_upd (.lit .i64 0) (.lit .i64 16) (i := (0 : Int)) (v := (16 : Int)) rfl rfl (by kernel_rfl) ar_zero) (ar 65 (ar_upd (.lit .i64 0) (.lit .i64 1) (i := (0 : Int)) (v := (1 : Int)) rfl rfl (by kernel_rfl) ar_zero) (asg_nil rfl))))))))))))), fun G => by kernel_rfl⟩, (show o13 = S1.ρ 13 + 1 by omega), RowIs.one (isC_of 5 ⟨rfl, rfl, rfl⟩) hk h_o14 (fun _ => rfl) (fun _ => rfl) (fun _ => rfl), (Stay.refl [13, 14] [63, 64, 65] _).set rfl rfl⟩
  · have c0 : S1.ρ 13 < S1.ρ 1 := by omega
    have d0 : wXE56_0.den S1 = some [b2i true] := tr (p := S1.ρ 13 < S1.ρ 1) c0
    have c1 : ¬ (S1.ρ 13 < (0 : Int)) := by omega
    have d1 : wXE56_1.den S1 = some [b2i true] := tr (p := (0 : Int) ≤ S1.ρ 13) (Int.not_lt.1 c1)
    obtain ⟨o14, h_o14⟩ : ∃ o : Int, o = (1 : Int) := ⟨_, rfl⟩
    obtain ⟨o13, h_o13⟩ : ∃ o : Int, o = (IntKind.i64.wrap (S1.ρ 13 + (1 : Int))) := ⟨_, rfl⟩
    have u := h_o13
    rw [w_i64 (by omega) (by omega)] at u
    exact ⟨S1.set (upd S1.ρ [(14, o14), (13, o13)]) [(63, (fun j => ifE j ((0 : Int)) ((56 : Int)) ((fun _ => 0) j))), (64, (fun j => ifE j ((0 : Int)) ((8 : Int)) ((fun _ => 0) j))), (65, (fun j => ifE j ((0 : Int)) ((1 : Int)) ((fun _ => 0) j)))] 50 rfl hK, ⟨_, [], _, 1000, _, [(4, 7)], (ai wXE56_1 true d1 (ai wXE56_0 true d0 (ain (sqW 30 13) .i64 56 (sm hk) (AlOk.nil _)))), hcs, LkOk.no _ _ _ _, (an 14 (.lit .i64 1) (sm h_o14.symm) (av 1 .i64 (av 1 .i64 (an 13 (.bin .add (.var .i64 13) (.lit .i64 1)) (sm h_o13.symm) (av 8 .i64 (ar 60 (ar_var 60) (ar 61 (ar_var 61) (ar 62 (ar_var 62) (an 14 (.lit .i64 1) (sm h_o14.symm) (ar 63 (ar_upd (.lit .i64 0) (.lit .i64 56) (i := (0 : Int)) (v := (56 : Int)) rfl rfl (by kernel_rfl) ar_zero) (ar 64 (ar_upd (.lit .i64 0) (.lit .i64 8) (i := (0 : Int)) (v := (8 : Int)) rfl rfl (by kernel_rfl) ar_zero) (ar 65 (ar_upd (.lit .i64 0) (.lit .i64 1) (i := (0 : Int)) (v := (1 : Int)) rfl rfl (by kernel_rfl) ar_zero) (asg_nil rfl))))))))))))), fun G => by kernel_rfl⟩, (show o13 = S1.ρ 13 + 1 by omega), RowIs.one (isC_of 6 ⟨rfl, rfl, rfl⟩) hk h_o14 (fun _ => rfl) (fun _ => rfl) (fun _ => rfl), (Stay.refl [13, 14] [63, 64, 65] _).set rfl rfl⟩
  · have c0 : S1.ρ 13 < S1.ρ 1 := by omega
    have d0 : wXE64_0.den S1 = some [b2i true] := tr (p := S1.ρ 13 < S1.ρ 1) c0
    have c1 : ¬ (S1.ρ 13 < (0 : Int)) := by omega
    have d1 : wXE64_1.den S1 = some [b2i true] := tr (p := (0 : Int) ≤ S1.ρ 13) (Int.not_lt.1 c1)
    obtain ⟨o14, h_o14⟩ : ∃ o : Int, o = (1 : Int) := ⟨_, rfl⟩
    obtain ⟨o13, h_o13⟩ : ∃ o : Int, o = (IntKind.i64.wrap (S1.ρ 13 + (1 : Int))) := ⟨_, rfl⟩
    have u := h_o13
    rw [w_i64 (by omega) (by omega)] at u
    exact ⟨S1.set (upd S1.ρ [(14, o14), (13, o13)]) [(63, (fun j => ifE j ((0 : Int)) ((64 : Int)) ((fun _ => 0) j))), (64, (fun j => ifE j ((0 : Int)) ((64 : Int)) ((fun _ => 0) j))), (65, (fun j => ifE j ((0 : Int)) ((1 : Int)) ((fun _ => 0) j)))] 50 rfl hK, ⟨_, [], _, 1000, _, [(4, 7)], (ai wXE64_1 true d1 (ai wXE64_0 true d0 (ain (sqW 30 13) .i64 64 (sm hk) (AlOk.nil _)))), hcs, LkOk.no _ _ _ _, (an 14 (.lit .i64 1) (sm h_o14.symm) (av 1 .i64 (av 1 .i64 (an 13 (.bin .add (.var .i64 13) (.lit .i64 1)) (sm h_o13.symm) (av 8 .i64 (ar 60 (ar_var 60) (ar 61 (ar_var 61) (ar 62 (ar_var 62) (an 14 (.lit .i64 1) (sm h_o14.symm) (ar 63 (ar_upd (.lit .i64 0) (.lit .i64 64) (i := (0 : Int)) (v := (64 : Int)) rfl rfl (by kernel_rfl) ar_zero) (ar 64 (ar_upd (.lit .i64 0) (.lit .i64 64) (i := (0 : Int)) (v := (64 : Int)) rfl rfl (by kernel_rfl) ar_zero) (ar 65 (ar_upd (.lit .i64 0) (.lit .i64 1) (i := (0 : Int)) (v := (1 : Int)) rfl rfl (by kernel_rfl) ar_zero) (asg_nil rfl))))))))))))), fun G => by kernel_rfl⟩, (show o13 = S1.ρ 13 + 1 by omega), RowIs.one (isC_of 7 ⟨rfl, rfl, rfl⟩) hk h_o14 (fun _ => rfl) (fun _ => rfl) (fun _ => rfl), (Stay.refl [13, 14] [63, 64, 65] _).set rfl rfl⟩
def wYE0 : Tm := (.bin .lss (.var .i64 13) (.var .i64 1))
def wYE1 : Tm := (.bin .geq (.var .i64 13) (.lit .i64 0))
def wYE2 : Tm := (.bin .geq (.app .i64 30 (.cons (.var .i64 13) .nil)) (.lit .i64 8))
def wYE3 : Tm := (.bin .leq (.app .i64 30 (.cons (.var .i64 13) .nil)) (.lit .i64 64))
def wYE4 : Tm := (.bin .eql (.bin .rem (.app .i64 30 (.cons (.var .i64 13) .nil)) (.lit .i64 8)) (.lit .i64 0))
def wTE8_0 : Tm := (.bin .lss (.var .i64 13) (.var .i64 1))
def wTE8_1 : Tm := (.bin .geq (.var .i64 13) (.lit .i64 0))
def wTE8_2 : Tm := (.bin .geq (.var .i64 14) (.lit .i64 0))
def wTE8_3 : Tm := (.bin .lss (.var .i64 14) (.lit .i64 4194304))
def wTE8_4 : Tm := (.bin .lss (.bin .add (.var .i64 14) (.lit .i64 1)) (.lit .i64 4194304))
def wTE16_0 : Tm := (.bin .lss (.var .i64 13) (.var .i64 1))
def wTE16_1 : Tm := (.bin .geq (.var .i64 13) (.lit .i64 0))
def wTE16_2 : Tm := (.bin .geq (.var .i64 14) (.lit .i64 0))
def wTE16_3 : Tm := (.bin .lss (.var .i64 14) (.lit .i64 4194304))
def wTE16_4 : Tm := (.bin .lss (.bin .add (.var .i64 14) (.lit .i64 1)) (.lit .i64 4194304))
def wTE24_0 : Tm := (.bin .lss (.var .i64 13) (.var .i64 1))
def wTE24_1 : Tm := (.bin .geq (.var .i64 13) (.lit .i64 0))
def wTE24_2 : Tm := (.bin .geq (.var .i64 14) (.lit .i64 0))
def wTE24_3 : Tm := (.bin .lss (.var .i64 14) (.lit .i64 4194304))
def wTE24_4 : Tm := (.bin .lss (.bin .add (.var .i64 14) (.lit .i64 1)) (.lit .i64 4194304))
def wTE32_0 : Tm := (.bin .lss (.var .i64 13) (.var .i64 1))
def wTE32_1 : Tm := (.bin .geq (.var .i64 13) (.lit .i64 0))
def wTE32_2 : Tm := (.bin .geq (.var .i64 14) (.lit .i64 0))
def wTE32_3 : Tm := (.bin .lss (.var .i64 14) (.lit .i64 4194304))
def wTE32_4 : Tm := (.bin .lss (.bin .add (.var .i64 14) (.lit .i64 1)) (.lit .i64 4194304))
def wTE40_0 : Tm := (.bin .lss (.var .i64 13) (.var .i64 1))
def wTE40_1 : Tm := (.bin .geq (.var .i64 13) (.lit .i64 0))
def wTE40_2 : Tm := (.bin .geq (.var .i64 14) (.lit .i64 0))
def wTE40_3 : Tm := (.bin .lss (.var .i64 14) (.lit .i64 4194304))
def wTE40_4 : Tm := (.bin .lss (.bin .add (.var .i64 14) (.lit .i64 1)) (.lit .i64 4194304))
def wTE48_0 : Tm := (.bin .lss (.var .i64 13) (.var .i64 1))
def wTE48_1 : Tm := (.bin .geq (.var .i64 13) (.lit .i64 0))
def wTE48_2 : Tm := (.bin .geq (.var .i64 14) (.lit .i64 0))
def wTE48_3 : Tm := (.bin .lss (.var .i64 14) (.lit .i64 4194304))
def wTE48_4 : Tm := (.bin .lss (.bin .add (.var .i64 14) (.lit .i64 1)) (.lit .i64 4194304))
def wTE56_0 : Tm := (.bin .lss (.var .i64 13) (.var .i64 1))
def wTE56_1 : Tm := (.bin .geq (.var .i64 13) (.lit .i64 0))
def wTE56_2 : Tm := (.bin .geq (.var .i64 14) (.lit .i64 0))
def wTE56_3 : Tm := (.bin .lss (.var .i64 14) (.lit .i64 4194304))
def wTE56_4 : Tm := (.bin .lss (.bin .add (.var .i64 14) (.lit .i64 1)) (.lit .i64 4194304))
def wTE64_0 : Tm := (.bin .lss (.var .i64 13) (.var .i64 1))
def wTE64_1 : Tm := (.bin .geq (.var .i64 13) (.lit .i64 0))
def wTE64_2 : Tm := (.bin .geq (.var .i64 14) (.lit .i64 0))
def wTE64_3 : Tm := (.bin .lss (.var .i64 14) (.lit .i64 4194304))
def wTE64_4 : Tm := (.bin .lss (.bin .add (.var .i64 14) (.lit .i64 1)) (.lit .i64 4194304))
theorem rowE {S1 : Sy} {l : List Int} (h0 : 0 ≤ S1.ρ 13) (h1 : S1.ρ 13 < S1.ρ 1) (h2 : S1.ρ 1 ≤ 4096) (h3 : l.length ≤ 4096) (hr : RowIs S1 14 63 l) (hK : ∀ x ∈ S1.I, x.f + x.ks.length ≤ 50) :
    ∃ S2, StepTo Try.prog ftW ΛW [] (cAt Try.prog lpWM) XE1W FErW 4 S1 S2 ∧ S2.ρ 13 = S1.ρ 13 + 1 ∧ RowIs S2 14 63 (if okS (S1.Φ 30 [S1.ρ 13]) then l ++ [S1.Φ 30 [S1.ρ 13]] else l) ∧ Stay [13, 14] [63, 64, 65] S1 S2 := by
  have hcs : ∀ c ∈ ([] : List Ctr), CtrOk Try.prog S1 [] c := fun c hc => by simp at hc
  have h4 := hr.1
  by_cases hv : okS (S1.Φ 30 [S1.ρ 13])
  · rcases okS_cases hv with hk | hk | hk | hk | hk | hk | hk | hk
    · have c0 : S1.ρ 13 < S1.ρ 1 := by omega
      have d0 : wTE8_0.den S1 = some [b2i true] := tr (p := S1.ρ 13 < S1.ρ 1) c0
      have c1 : ¬ (S1.ρ 13 < (0 : Int)) := by omega
      have d1 : wTE8_1.den S1 = some [b2i true] := tr (p := (0 : Int) ≤ S1.ρ 13) (Int.not_lt.1 c1)
      have c2 : ¬ (S1.ρ 14 < (0 : Int)) := by omega
      have d2 : wTE8_2.den S1 = some [b2i true] := tr (p := (0 : Int) ≤ S1.ρ 14) (Int.not_lt.1 c2)
      have c3 : S1.ρ 14 < (4194304 : Int) := by omega
      have d3 : wTE8_3.den S1 = some [b2i true] := tr (p := S1.ρ 14 < (4194304 : Int)) c3
      have c4 : (IntKind.i64.wrap (S1.ρ 14 + (1 : Int))) < (4194304 : Int) := by rw [w_i64 (by omega) (by omega)]; omega
      have d4 : wTE8_4.den S1 = some [b2i true] := tr (p := (IntKind.i64.wrap (S1.ρ 14 + (1 : Int))) < (4194304 : Int)) c4
      obtain ⟨o14, h_o14⟩ : ∃ o : Int, o = (IntKind.i64.wrap (S1.ρ 14 + (1 : Int))) := ⟨_, rfl⟩
      obtain ⟨o13, h_o13⟩ : ∃ o : Int, o = (IntKind.i64.wrap (S1.ρ 13 + (1 : Int))) := ⟨_, rfl⟩
      have u := h_o13
      rw [w_i64 (by omega) (by omega)] at u
      have u2 := h_o14
      rw [w_i64 (by omega) (by omega)] at u2
      refine ⟨S1.set (upd S1.ρ [(14, o14), (13, o13)]) [(63, (fun j => ifE j (S1.ρ 14) ((8 : Int)) ((fun j => S1.Φ 63 [j]) j))), (64, (fun j => ifE j (S1.ρ 14) ((8 : Int)) ((fun j => S1.Φ 64 [j]) j))), (65, (fun j => ifE j (S1.ρ 14) ((8 : Int)) ((fun j => S1.Φ 65 [j]) j)))] 50 rfl hK, ⟨_, [], _, 1000, _, [(4, 7)], (ai wTE8_4 true d4 (ai wTE8_3 true d3 (ai wTE8_2 true d2 (ai wTE8_1 true d1 (ai wTE8_0 true d0 (ain (sqW 30 13) .i64 8 (sm hk) (AlOk.nil _))))))), hcs, LkOk.no _ _ _ _, (an 14 (.bin .add (.var .i64 14) (.lit .i64 1)) (sm h_o14.symm) (av 1 .i64 (av 1 .i64 (an 13 (.bin .add (.var .i64 13) (.lit .i64 1)) (sm h_o13.symm) (av 8 .i64 (ar 60 (ar_var 60) (ar 61 (ar_var 61) (ar 62 (ar_var 62) (an 14 (.bin .add (.var .i64 14) (.lit .i64 1)) (sm h_o14.symm) (ar 63 (ar_upd (.var .i64 14) (.lit .i64 8) (i := S1.ρ 14) (v := (8 : Int)) rfl rfl (by kernel_rfl) (ar_var 63)) (ar 64 (ar_upd (.var .i64 14) (.lit .i64 8) (i := S1.ρ 14) (v := (8 : Int)) rfl rfl (by kernel_rfl) (ar_var 64)) (ar 65 (ar_upd (.var .i64 14) (.lit .i64 8) (i := S1.ρ 14) (v := (8 : Int)) rfl rfl (by kernel_rfl) (ar_var 65)) (asg_nil rfl))))))))))))), fun G => by kernel_rfl⟩, (show o13 = S1.ρ 13 + 1 by omega), ?_, (Stay.refl [13, 14] [63, 64, 65] _).set rfl rfl⟩
      rw [if_pos hv]
      exact hr.upd (isC_of 0 ⟨rfl, rfl, rfl⟩) hk (show o14 = S1.ρ 14 + 1 by omega) (fun _ => rfl) (fun _ => rfl) (fun _ => rfl)
    · have c0 : S1.ρ 13 < S1.ρ 1 := by omega
      have d0 : wTE16_0.den S1 = some [b2i true] := tr (p := S1.ρ 13 < S1.ρ 1) c0
      have c1 : ¬ (S1.ρ 13 < (0 : Int)) := by omega
      have d1 : wTE16_1.den S1 = some [b2i true] := tr (p := (0 : Int) ≤ S1.ρ 13) (Int.not_lt.1 c1)
      have c2 : ¬ (S1.ρ 14 < (0 : Int)) := by omega
      have d2 : wTE16_2.den S1 = some [b2i true] := tr (p := (0 : Int) ≤ S1.ρ 14) (Int.not_lt.1 c2)
      have c3 : S1.ρ 14 < (4194304 : Int) := by omega
      have d3 : wTE16_3.den S1 = some [b2i true] := tr (p := S1.ρ 14 < (4194304 : Int)) c3
      have c4 : (IntKind.i64.wrap (S1.ρ 14 + (1 : Int))) < (4194304 : Int) := by rw [w_i64 (by omega) (by omega)]; omega
      have d4 : wTE16_4.den S1 = some [b2i true] := tr (p := (IntKind.i64.wrap (S1.ρ 14 + (1 : Int))) < (4194304 : Int)) c4
      obtain ⟨o14, h_o14⟩ : ∃ o : Int, o = (IntKind.i64.wrap (S1.ρ 14 + (1 : Int))) := ⟨_, rfl⟩
      obtain ⟨o13, h_o13⟩ : ∃ o : Int, o = (IntKind.i64.wrap (S1.ρ 13 + (1 : Int))) := ⟨_, rfl⟩
      have u := h_o13
      rw [w_i64 (by omega) (by omega)] at u
      have u2 := h_o14
      rw [w_i64 (by omega) (by omega)] at u2
      refine ⟨S1.set (upd S1.ρ [(14, o14), (13, o13)]) [(63, (fun j => ifE j (S1.ρ 14) ((16 : Int)) ((fun j => S1.Φ 63 [j]) j))), (64, (fun j => ifE j (S1.ρ 14) ((16 : Int)) ((fun j => S1.Φ 64 [j]) j))), (65, (fun j => ifE j (S1.ρ 14) ((4 : Int)) ((fun j => S1.Φ 65 [j]) j)))] 50 rfl hK, ⟨_, [], _, 1000, _, [(4, 7)], (ai wTE16_4 true d4 (ai wTE16_3 true d3 (ai wTE16_2 true d2 (ai wTE16_1 true d1 (ai wTE16_0 true d0 (ain (sqW 30 13) .i64 16 (sm hk) (AlOk.nil _))))))), hcs, LkOk.no _ _ _ _, (an 14 (.bin .add (.var .i64 14) (.lit .i64 1)) (sm h_o14.symm) (av 1 .i64 (av 1 .i64 (an 13 (.bin .add (.var .i64 13) (.lit .i64 1)) (sm h_o13.symm) (av 8 .i64 (ar 60 (ar_var 60) (ar 61 (ar_var 61) (ar 62 (ar_var 62) (an 14 (.bin .add (.var .i64 14) (.lit .i64 1)) (sm h_o14.symm) (ar 63 (ar_upd (.var .i64 14) (.lit .i64 16) (i := S1.ρ 14) (v := (16 : Int)) rfl rfl (by kernel_rfl) (ar_var 63)) (ar 64 (ar_upd (.var .i64 14) (.lit .i64 16) (i := S1.ρ 14) (v := (16 : Int)) rfl rfl (by kernel_rfl) (ar_var 64)) (ar 65 (ar_upd (.var .i64 14) (.lit .i64 4) (i := S1.ρ 14) (v := (4 : Int)) rfl rfl (by kernel_rfl) (ar_var 65)) (asg_nil rfl))))))))))))), fun G => by kernel_rfl⟩, (show o13 = S1.ρ 13 + 1 by omega), ?_, (Stay.refl [13, 14] [63, 64, 65] _).set rfl rfl⟩
      rw [if_pos hv]
      exact hr.upd (isC_of 1 ⟨rfl, rfl, rfl⟩) hk (show o14 = S1.ρ 14 + 1 by omega) (fun _ => rfl) (fun _ => rfl) (fun _ => rfl)
    · have c0 : S1.ρ 13 < S1.ρ 1 := by omega
      have d0 : wTE24_0.den S1 = some [b2i true] := tr (p := S1.ρ 13 < S1.ρ 1) c0
      have c1 : ¬ (S1.ρ 13 < (0 : Int)) := by omega
      have d1 : wTE24_1.den S1 = some [b2i true] := tr (p := (0 : Int) ≤ S1.ρ 13) (Int.not_lt.1 c1)
      have c2 : ¬ (S1.ρ 14 < (0 : Int)) := by omega
      have d2 : wTE24_2.den S1 = some [b2i true] := tr (p := (0 : Int) ≤ S1.ρ 14) (Int.not_lt.1 c2)
      have c3 : S1.ρ 14 < (4194304 : Int) := by omega
      have d3 : wTE24_3.den S1 = some [b2i true] := tr (p := S1.ρ 14 < (4194304 : Int)) c3
      have c4 : (IntKind.i64.wrap (S1.ρ 14 + (1 : Int))) < (4194304 : Int) := by rw [w_i64 (by omega) (by omega)]; omega
      have d4 : wTE24_4.den S1 = some [b2i true] := tr (p := (IntKind.i64.wrap (S1.ρ 14 + (1 : Int))) < (4194304 : Int)) c4
      obtain ⟨o14, h_o14⟩ : ∃ o : Int, o = (IntKind.i64.wrap (S1.ρ 14 + (1 : Int))) := ⟨_, rfl⟩
      obtain ⟨o13, h_o13⟩ : ∃ o : Int, o = (IntKind.i64.wrap (S1.ρ 13 + (1 : Int))) := ⟨_, rfl⟩
      have u := h_o13
      rw [w_i64 (by omega) (by omega)] at u
      have u2 := h_o14
      rw [w_i64 (by omega) (by omega)] at u2
      refine ⟨S1.set (upd S1.ρ [(14, o14), (13, o13)]) [(63, (fun j => ifE j (S1.ρ 14) ((24 : Int)) ((fun j => S1.Φ 63 [j]) j))), (64, (fun j => ifE j (S1.ρ 14) ((8 : Int)) ((fun j => S1.Φ 64 [j]) j))), (65, (fun j => ifE j (S1.ρ 14) ((2 : Int)) ((fun j => S1.Φ 65 [j]) j)))] 50 rfl hK, ⟨_, [], _, 1000, _, [(4, 7)], (ai wTE24_4 true d4 (ai wTE24_3 true d3 (ai wTE24_2 true d2 (ai wTE24_1 true d1 (ai wTE24_0 true d0 (ain (sqW 30 13) .i64 24 (sm hk) (AlOk.nil _))))))), hcs, LkOk.no _ _ _ _, (an 14 (.bin .add (.var .i64 14) (.lit .i64 1)) (sm h_o14.symm) (av 1 .i64 (av 1 .i64 (an 13 (.bin .add (.var .i64 13) (.lit .i64 1)) (sm h_o13.symm) (av 8 .i64 (ar 60 (ar_var 60) (ar 61 (ar_var 61) (ar 62 (ar_var 62) (an 14 (.bin .add (.var .i64 14) (.lit .i64 1)) (sm h_o14.symm) (ar 63 (ar_upd (.var .i64 14) (.lit .i64 24) (i := S1.ρ 14) (v := (24 : Int)) rfl rfl (by kernel_rfl) (ar_var 63)) (ar 64 (ar_upd (.var .i64 14) (.lit .i64 8) (i := S1.ρ 14) (v := (8 : Int)) rfl rfl (by kernel_rfl) (ar_var 64)) (ar 65 (ar_upd (.var .i64 14) (.lit .i64 2) (i := S1.ρ 14) (v := (2 : Int)) rfl rfl (by kernel_rfl) (ar_var 65)) (asg_nil rfl))))))))))))), fun G => by kernel_rfl⟩, (show o13 = S1.ρ 13 + 1 by omega), ?_, (Stay.refl [13, 14] [63, 64, 65] _).set rfl rfl⟩
      rw [if_pos hv]
      exact hr.upd (isC_of 2 ⟨rfl, rfl, rfl⟩) hk (show o14 = S1.ρ 14 + 1 by omega) (fun _ => rfl) (fun _ => rfl) (fun _ => rfl)
    · have c0 : S1.ρ 13 < S1.ρ 1 := by omega
      have d0 : wTE32_0.den S1 = some [b2i true] := tr (p := S1.ρ 13 < S1.ρ 1) c0
      have c1 : ¬ (S1.ρ 13 < (0 : Int)) := by omega
      have d1 : wTE32_1.den S1 = some [b2i true] := tr (p := (0 : Int) ≤ S1.ρ 13) (Int.not_lt.1 c1)
      have c2 : ¬ (S1.ρ 14 < (0 : Int)) := by omega
      have d2 : wTE32_2.den S1 = some [b2i true] := tr (p := (0 : Int) ≤ S1.ρ 14) (Int.not_lt.1 c2)
      have c3 : S1.ρ 14 < (4194304 : Int) := by omega
      have d3 : wTE32_3.den S1 = some [b2i true] := tr (p := S1.ρ 14 < (4194304 : Int)) c3
      have c4 : (IntKind.i64.wrap (S1.ρ 14 + (1 : Int))) < (4194304 : Int) := by rw [w_i64 (by omega) (by omega)]; omega
      have d4 : wTE32_4.den S1 = some [b2i true] := tr (p := (IntKind.i64.wrap (S1.ρ 14 + (1 : Int))) < (4194304 : Int)) c4
      obtain ⟨o14, h_o14⟩ : ∃ o : Int, o = (IntKind.i64.wrap (S1.ρ 14 + (1 : Int))) := ⟨_, rfl⟩
      obtain ⟨o13, h_o13⟩ : ∃ o : Int, o = (IntKind.i64.wrap (S1.ρ 13 + (1 : Int))) := ⟨_, rfl⟩
      have u := h_o13
      rw [w_i64 (by omega) (by omega)] at u
      have u2 := h_o14
      rw [w_i64 (by omega) (by omega)] at u2
      refine ⟨S1.set (upd S1.ρ [(14, o14), (13, o13)]) [(63, (fun j => ifE j (S1.ρ 14) ((32 : Int)) ((fun j => S1.Φ 63 [j]) j))), (64, (fun j => ifE j (S1.ρ 14) ((32 : Int)) ((fun j => S1.Φ 64 [j]) j))), (65, (fun j => ifE j (S1.ρ 14) ((2 : Int)) ((fun j => S1.Φ 65 [j]) j)))] 50 rfl hK, ⟨_, [], _, 1000, _, [(4, 7)], (ai wTE32_4 true d4 (ai wTE32_3 true d3 (ai wTE32_2 true d2 (ai wTE32_1 true d1 (ai wTE32_0 true d0 (ain (sqW 30 13) .i64 32 (sm hk) (AlOk.nil _))))))), hcs, LkOk.no _ _ _ _, (an 14 (.bin .add (.var .i64 14) (.lit .i64 1)) (sm h_o14.symm) (av 1 .i64 (av 1 .i64 (an 13 (.bin .add (.var .i64 13) (.lit .i64 1)) (sm h_o13.symm) (av 8 .i64 (ar 60 (ar_var 60) (ar 61 (ar_var 61) (ar 62 (ar_var 62) (an 14 (.bin .add (.var .i64 14) (.lit .i64 1)) (sm h_o14.symm) (ar 63 (ar_upd (.var .i64 14) (.lit .i64 32) (i := S1.ρ 14) (v := (32 : Int)) rfl rfl (by kernel_rfl) (ar_var 63)) (ar 64 (ar_upd (.var .i64 14) (.lit .i64 32) (i := S1.ρ 14) (v := (32 : Int)) rfl rfl (by kernel_rfl) (ar_var 64)) (ar 65 (ar_upd (.var .i64 14) (.lit .i64 2) (i := S1.ρ 14) (v := (2 : Int)) rfl rfl (by kernel_rfl) (ar_var 65)) (asg_nil rfl))))))))))))), fun G => by kernel_rfl⟩, (show o13 = S1.ρ 13 + 1 by omega), ?_, (Stay.refl [13, 14] [63, 64, 65] _).set rfl rfl⟩
      rw [if_pos hv]
      exact hr.upd (isC_of 3 ⟨rfl, rfl, rfl⟩) hk (show o14 = S1.ρ 14 + 1 by omega) (fun _ => rfl) (fun _ => rfl) (fun _ => rfl)
    · have c0 : S1.ρ 13 < S1.ρ 1 := by omega
      have d0 : wTE40_0.den S1 = some [b2i true] := tr (p := S1.ρ 13 < S1.ρ 1) c0
      have c1 : ¬ (S1.ρ 13 < (0 : Int)) := by omega
      have d1 : wTE40_1.den S1 = some [b2i true] := tr (p := (0 : Int) ≤ S1.ρ 13) (Int.not_lt.1 c1)
      have c2 : ¬ (S1.ρ 14 < (0 : Int)) := by omega
      have d2 : wTE40_2.den S1 = some [b2i true] := tr (p := (0 : Int) ≤ S1.ρ 14) (Int.not_lt.1 c2)
      have c3 : S1.ρ 14 < (4194304 : Int) := by omega
      have d3 : wTE40_3.den S1 = some [b2i true] := tr (p := S1.ρ 14 < (4194304 : Int)) c3
      have c4 : (IntKind.i64.wrap (S1.ρ 14 + (1 : Int))) < (4194304 : Int) := by rw [w_i64 (by omega) (by omega)]; omega
      have d4 : wTE40_4.den S1 = some [b2i true] := tr (p := (IntKind.i64.wrap (S1.ρ 14 + (1 : Int))) < (4194304 : Int)) c4
      obtain ⟨o14, h_o14⟩ : ∃ o : Int, o = (IntKind.i64.wrap (S1.ρ 14 + (1 : Int))) := ⟨_, rfl⟩
      obtain ⟨o13, h_o13⟩ : ∃ o : Int, o = (IntKind.i64.wrap (S1.ρ 13 + (1 : Int))) := ⟨_, rfl⟩
      have u := h_o13
      rw [w_i64 (by omega) (by omega)] at u
      have u2 := h_o14
      rw [w_i64 (by omega) (by omega)] at u2
      refine ⟨S1.set (upd S1.ρ [(14, o14), (13, o13)]) [(63, (fun j => ifE j (S1.ρ 14) ((40 : Int)) ((fun j => S1.Φ 63 [j]) j))), (64, (fun j => ifE j (S1.ρ 14) ((8 : Int)) ((fun j => S1.Φ 64 [j]) j))), (65, (fun j => ifE j (S1.ρ 14) ((1 : Int)) ((fun j => S1.Φ 65 [j]) j)))] 50 rfl hK, ⟨_, [], _, 1000, _, [(4, 7)], (ai wTE40_4 true d4 (ai wTE40_3 true d3 (ai wTE40_2 true d2 (ai wTE40_1 true d1 (ai wTE40_0 true d0 (ain (sqW 30 13) .i64 40 (sm hk) (AlOk.nil _))))))), hcs, LkOk.no _ _ _ _, (an 14 (.bin .add (.var .i64 14) (.lit .i64 1)) (sm h_o14.symm) (av 1 .i64 (av 1 .i64 (an 13 (.bin .add (.var .i64 13) (.lit .i64 1)) (sm h_o13.symm) (av 8 .i64 (ar 60 (ar_var 60) (ar 61 (ar_var 61) (ar 62 (ar_var 62) (an 14 (.bin .add (.var .i64 14) (.lit .i64 1)) (sm h_o14.symm) (ar 63 (ar_upd (.var .i64 14) (.lit .i64 40) (i := S1.ρ 14) (v := (40 : Int)) rfl rfl (by kernel_rfl) (ar_var 63)) (ar 64 (ar_upd (.var .i64 14) (.lit .i64 8) (i := S1.ρ 14) (v := (8 : Int)) rfl rfl (by kernel_rfl) (ar_var 64)) (ar 65 (ar_upd (.var .i64 14) (.lit .i64 1) (i := S1.ρ 14) (v := (1 : Int)) rfl rfl (by kernel_rfl) (ar_var 65)) (asg_nil rfl))))))))))))), fun G => by kernel_rfl⟩, (show o13 = S1.ρ 13 + 1 by omega), ?_, (Stay.refl [13, 14] [63, 64, 65] _).set rfl rfl⟩
      rw [if_pos hv]
      exact hr.upd (isC_of 4 ⟨rfl, rfl, rfl⟩) hk (show o14 = S1.ρ 14 + 1 by omega) (fun _ => rfl) (fun _ => rfl) (fun _ => rfl)
    · have c0 : S1.ρ 13 < S1.ρ 1 := by omega
      have d0 : wTE48_0.den S1 = some [b2i true] := tr (p := S1.ρ 13 < S1.ρ 1) c0
      have c1 : ¬ (S1.ρ 13 < (0 : Int)) := by omega
      have d1 : wTE48_1.den S1 = some [b2i true] := tr (p := (0 : Int) ≤ S1.ρ 13) (Int.not_lt.1 c1)
      have c2 : ¬ (S1.ρ 14 < (0 : Int)) := by omega
      have d2 : wTE48_2.den S1 = some [b2i true] := tr (p := (0 : Int) ≤ S1.ρ 14) (Int.not_lt.1 c2)
      have c3 : S1.ρ 14 < (4194304 : Int) := by omega
      have d3 : wTE48_3.den S1 = some [b2i true] := tr (p := S1.ρ 14 < (4194304 : Int)) c3
      have c4 : (IntKind.i64.wrap (S1.ρ 14 + (1 : Int))) < (4194304 : Int) := by rw [w_i64 (by omega) (by omega)]; omega
      have d4 : wTE48_4.den S1 = some [b2i true] := tr (p := (IntKind.i64.wrap (S1.ρ 14 + (1 : Int))) < (4194304 : Int)) c4
      obtain ⟨o14, h_o14⟩ : ∃ o : Int, o = (IntKind.i64.wrap (S1.ρ 14 + (1 : Int))) := ⟨_, rfl⟩
      obtain ⟨o13, h_o13⟩ : ∃ o : Int, o = (IntKind.i64.wrap (S1.ρ 13 + (1 : Int))) := ⟨_, rfl⟩
      have u := h_o13
      rw [w_i64 (by omega) (by omega)] at u
      have u2 := h_o14
      rw [w_i64 (by omega) (by omega)] at u2
      refine ⟨S1.set (upd S1.ρ [(14, o14), (13, o13)]) [(63, (fun j => ifE j (S1.ρ 14) ((48 : Int)) ((fun j => S1.Φ 63 [j]) j))), (64, (fun j => ifE j (S1.ρ 14) ((16 : Int)) ((fun j => S1.Φ 64 [j]) j))), (65, (fun j => ifE j (S1.ρ 14) ((1 : Int)) ((fun j => S1.Φ 65 [j]) j)))] 50 rfl hK, ⟨_, [], _, 1000, _, [(4, 7)], (ai wTE48_4 true d4 (ai wTE48_3 true d3 (ai wTE48_2 true d2 (ai wTE48_1 true d1 (ai wTE48_0 true d0 (ain (sqW 30 13) .i64 48 (sm hk) (AlOk.nil _))))))), hcs, LkOk.no _ _ _ _, (an 14 (.bin .add (.var .i64 14) (.lit .i64 1)) (sm h_o14.symm) (av 1 .i64 (av 1 .i64 (an 13 (.bin .add (.var .i64 13) (.lit .i64 1)) (sm h_o13.symm) (av 8 .i64 (ar 60 (ar_var 60) (ar 61 (ar_var 61) (ar 62 (ar_var 62) (an 14 (.bin .add (.var .i64 14) (.lit .i64 1)) (sm h_o14.symm) (ar 63 (ar_upd (.var .i64 14) (.lit .i64 48) (i := S1.ρ 14) (v := (48 : Int)) rfl rfl (by kernel_rfl) (ar_var 63)) (ar 64 (ar_upd (.var .i64 14) (.lit .i64 16) (i := S1.ρ 14) (v := (16 : Int)) rfl rfl (by kernel_rfl) (ar_var 64)) (ar 65 (ar_upd (.var .i64 14) (.lit .i64 1) (i := S1.ρ 14) (v := (1 : Int)) rfl rfl (by kernel_rfl) (ar_var 65)) (asg_nil rfl))))))))))))), fun G => by kernel_rfl⟩, (show o13 = S1.ρ 13 + 1 by omega), ?_, (Stay.refl [13, 14] [63, 64, 65] _).set rfl rfl⟩
      rw [if_pos hv]
      exact hr.upd (isC_of 5 ⟨rfl, rfl, rfl⟩) hk (show o14 = S1.ρ 14 + 1 by omega) (fun _ => rfl) (fun _ => rfl) (fun _ => rfl)
    · have c0 : S1.ρ 13 < S1.ρ 1 := by omega
      have d0 : wTE56_0.den S1 = some [b2i true] := tr (p := S1.ρ 13 < S1.ρ 1) c0
      have c1 : ¬ (S1.ρ 13 < (0 : Int)) := by omega
      have d1 : wTE56_1.den S1 = some [b2i true] := tr (p := (0 : Int) ≤ S1.ρ 13) (Int.not_lt.1 c1)
      have c2 : ¬ (S1.ρ 14 < (0 : Int)) := by omega
      have d2 : wTE56_2.den S1 = some [b2i true] := tr (p := (0 : Int) ≤ S1.ρ 14) (Int.not_lt.1 c2)
      have c3 : S1.ρ 14 < (4194304 : Int) := by omega
      have d3 : wTE56_3.den S1 = some [b2i true] := tr (p := S1.ρ 14 < (4194304 : Int)) c3
      have c4 : (IntKind.i64.wrap (S1.ρ 14 + (1 : Int))) < (4194304 : Int) := by rw [w_i64 (by omega) (by omega)]; omega
      have d4 : wTE56_4.den S1 = some [b2i true] := tr (p := (IntKind.i64.wrap (S1.ρ 14 + (1 : Int))) < (4194304 : Int)) c4
      obtain ⟨o14, h_o14⟩ : ∃ o : Int, o = (IntKind.i64.wrap (S1.ρ 14 + (1 : Int))) := ⟨_, rfl⟩
      obtain ⟨o13, h_o13⟩ : ∃ o : Int, o = (IntKind.i64.wrap (S1.ρ 13 + (1 : Int))) := ⟨_, rfl⟩
      have u := h_o13
      rw [w_i64 (by omega) (by omega)] at u
      have u2 := h_o14
      rw [w_i64 (by omega) (by omega)] at u2
      refine ⟨S1.set (upd S1.ρ [(14, o14), (13, o13)]) [(63, (fun j => ifE j (S1.ρ 14) ((56 : Int)) ((fun j => S1.Φ 63 [j]) j))), (64, (fun j => ifE j (S1.ρ 14) ((8 : Int)) ((fun j => S1.Φ 64 [j]) j))), (65, (fun j => ifE j (S1.ρ 14) ((1 : Int)) ((fun j => S1.Φ 65 [j]) j)))] 50 rfl hK, ⟨_, [], _, 1000, _, [(4, 7)], (ai wTE56_4 true d4 (ai wTE56_3 true d3 (ai wTE56_2 true d2 (ai wTE56_1 true d1 (ai wTE56_0 true d0 (ain (sqW 30 13) .i64 56 (sm hk) (AlOk.nil _))))))), hcs, LkOk.no _ _ _ _, (an 14 (.bin .add (.var .i64 14) (.lit .i64 1)) (sm h_o14.symm) (av 1 .i64 (av 1 .i64 (an 13 (.bin .add (.var .i64 13) (.lit .i64 1)) (sm h_o13.symm) (av 8 .i64 (ar 60 (ar_var 60) (ar 61 (ar_var 61) (ar 62 (ar_var 62) (an 14 (.bin .add (.var .i64 14) (.lit .i64 1)) (sm h_o14.symm) (ar 63 (ar_upd (.var .i64 14) (.lit .i64 56) (i := S1.ρ 14) (v := (56 : Int)) rfl rfl (by kernel_rfl) (ar_var 63)) (ar 64 (ar_upd (.var .i64 14) (.lit .i64 8) (i := S1.ρ 14) (v := (8 : Int)) rfl rfl (by kernel_rfl) (ar_var 64)) (ar 65 (ar_upd (.var .i64 14) (.lit .i64 1) (i := S1.ρ 14) (v := (1 : Int)) rfl rfl (by kernel_rfl) (ar_var 65)) (asg_nil rfl))))))))))))), fun G => by kernel_rfl⟩, (show o13 = S1.ρ 13 + 1 by omega), ?_, (Stay.refl [13, 14] [63, 64, 65] _).set rfl rfl⟩
      rw [if_pos hv]
      exact hr.upd (isC_of 6 ⟨rfl, rfl, rfl⟩) hk (show o14 = S1.ρ 14 + 1 by omega) (fun _ => rfl) (fun _ => rfl) (fun _ => rfl)
    · have c0 : S1.ρ 13 < S1.ρ 1 := by omega
      have d0 : wTE64_0.den S1 = some [b2i true] := tr (p := S1.ρ 13 < S1.ρ 1) c0
      have c1 : ¬ (S1.ρ 13 < (0 : Int)) := by omega
      have d1 : wTE64_1.den S1 = some [b2i true] := tr (p := (0 : Int) ≤ S1.ρ 13) (Int.not_lt.1 c1)
      have c2 : ¬ (S1.ρ 14 < (0 : Int)) := by omega
      have d2 : wTE64_2.den S1 = some [b2i true] := tr (p := (0 : Int) ≤ S1.ρ 14) (Int.not_lt.1 c2)
      have c3 : S1.ρ 14 < (4194304 : Int) := by omega
      have d3 : wTE64_3.den S1 = some [b2i true] := tr (p := S1.ρ 14 < (4194304 : Int)) c3
      have c4 : (IntKind.i64.wrap (S1.ρ 14 + (1 : Int))) < (4194304 : Int) := by rw [w_i64 (by omega) (by omega)]; omega
      have d4 : wTE64_4.den S1 = some [b2i true] := tr (p := (IntKind.i64.wrap (S1.ρ 14 + (1 : Int))) < (4194304 : Int)) c4
      obtain ⟨o14, h_o14⟩ : ∃ o : Int, o = (IntKind.i64.wrap (S1.ρ 14 + (1 : Int))) := ⟨_, rfl⟩
      obtain ⟨o13, h_o13⟩ : ∃ o : Int, o = (IntKind.i64.wrap (S1.ρ 13 + (1 : Int))) := ⟨_, rfl⟩
      have u := h_o13
      rw [w_i64 (by omega) (by omega)] at u
      have u2 := h_o14
      rw [w_i64 (by omega) (by omega)] at u2
      refine ⟨S1.set (upd S1.ρ [(14, o14), (13, o13)]) [(63, (fun j => ifE j (S1.ρ 14) ((64 : Int)) ((fun j => S1.Φ 63 [j]) j))), (64, (fun j => ifE j (S1.ρ 14) ((64 : Int)) ((fun j => S1.Φ 64 [j]) j))), (65, (fun j => ifE j (S1.ρ 14) ((1 : Int)) ((fun j => S1.Φ 65 [j]) j)))] 50 rfl hK, ⟨_, [], _, 1000, _, [(4, 7)], (ai wTE64_4 true d4 (ai wTE64_3 true d3 (ai wTE64_2 true d2 (ai wTE64_1 true d1 (ai wTE64_0 true d0 (ain (sqW 30 13) .i64 64 (sm hk) (AlOk.nil _))))))), hcs, LkOk.no _ _ _ _, (an 14 (.bin .add (.var .i64 14) (.lit .i64 1)) (sm h_o14.symm) (av 1 .i64 (av 1 .i64 (an 13 (.bin .add (.var .i64 13) (.lit .i64 1)) (sm h_o13.symm) (av 8 .i64 (ar 60 (ar_var 60) (ar 61 (ar_var 61) (ar 62 (ar_var 62) (an 14 (.bin .add (.var .i64 14) (.lit .i64 1)) (sm h_o14.symm) (ar 63 (ar_upd (.var .i64 14) (.lit .i64 64) (i := S1.ρ 14) (v := (64 : Int)) rfl rfl (by kernel_rfl) (ar_var 63)) (ar 64 (ar_upd (.var .i64 14) (.lit .i64 64) (i := S1.ρ 14) (v := (64 : Int)) rfl rfl (by kernel_rfl) (ar_var 64)) (ar 65 (ar_upd (.var .i64 14) (.lit .i64 1) (i := S1.ρ 14) (v := (1 : Int)) rfl rfl (by kernel_rfl) (ar_var 65)) (asg_nil rfl))))))))))))), fun G => by kernel_rfl⟩, (show o13 = S1.ρ 13 + 1 by omega), ?_, (Stay.refl [13, 14] [63, 64, 65] _).set rfl rfl⟩
      rw [if_pos hv]
      exact hr.upd (isC_of 7 ⟨rfl, rfl, rfl⟩) hk (show o14 = S1.ρ 14 + 1 by omega) (fun _ => rfl) (fun _ => rfl) (fun _ => rfl)
  · have c0 : S1.ρ 13 < S1.ρ 1 := by omega
    have d0 : wYE0.den S1 = some [b2i true] := tr (p := S1.ρ 13 < S1.ρ 1) c0
    have c1 : ¬ (S1.ρ 13 < (0 : Int)) := by omega
    have d1 : wYE1.den S1 = some [b2i true] := tr (p := (0 : Int) ≤ S1.ρ 13) (Int.not_lt.1 c1)
    by_cases c2 : (S1.Φ 30 [S1.ρ 13]) < (8 : Int)
    · have d2 : wYE2.den S1 = some [b2i false] := fls (p := (8 : Int) ≤ (S1.Φ 30 [S1.ρ 13])) (Int.not_le.2 c2)
      obtain ⟨o13, h_o13⟩ : ∃ o : Int, o = (IntKind.i64.wrap (S1.ρ 13 + (1 : Int))) := ⟨_, rfl⟩
      have u := h_o13
      rw [w_i64 (by omega) (by omega)] at u
      refine ⟨S1.set (upd S1.ρ [(13, o13)]) [] 50 rfl hK, ⟨_, [], _, 1000, _, [], (ai wYE2 false d2 (ai wYE1 true d1 (ai wYE0 true d0 (AlOk.nil _)))), hcs, LkOk.no _ _ _ _, (av 14 .i64 (av 1 .i64 (av 1 .i64 (an 13 (.bin .add (.var .i64 13) (.lit .i64 1)) (sm h_o13.symm) (av 8 .i64 (ar 60 (ar_var 60) (ar 61 (ar_var 61) (ar 62 (ar_var 62) (av 14 .i64 (ar 63 (ar_var 63) (ar 64 (ar_var 64) (ar 65 (ar_var 65) (asg_nil rfl))))))))))))), fun G => by kernel_rfl⟩, (show o13 = S1.ρ 13 + 1 by omega), ?_, (Stay.refl [13, 14] [63, 64, 65] _).set rfl rfl⟩
      rw [if_neg hv]
      exact hr.same rfl (fun _ => rfl) (fun _ => rfl) (fun _ => rfl)
    · have d2 : wYE2.den S1 = some [b2i true] := tr (p := (8 : Int) ≤ (S1.Φ 30 [S1.ρ 13])) (Int.not_lt.1 c2)
      by_cases c3 : (64 : Int) < (S1.Φ 30 [S1.ρ 13])
      · have d3 : wYE3.den S1 = some [b2i false] := fls (p := (S1.Φ 30 [S1.ρ 13]) ≤ (64 : Int)) (Int.not_le.2 c3)
        obtain ⟨o13, h_o13⟩ : ∃ o : Int, o = (IntKind.i64.wrap (S1.ρ 13 + (1 : Int))) := ⟨_, rfl⟩
        have u := h_o13
        rw [w_i64 (by omega) (by omega)] at u
        refine ⟨S1.set (upd S1.ρ [(13, o13)]) [] 50 rfl hK, ⟨_, [], _, 1000, _, [], (ai wYE3 false d3 (ai wYE2 true d2 (ai wYE1 true d1 (ai wYE0 true d0 (AlOk.nil _))))), hcs, LkOk.no _ _ _ _, (av 14 .i64 (av 1 .i64 (av 1 .i64 (an 13 (.bin .add (.var .i64 13) (.lit .i64 1)) (sm h_o13.symm) (av 8 .i64 (ar 60 (ar_var 60) (ar 61 (ar_var 61) (ar 62 (ar_var 62) (av 14 .i64 (ar 63 (ar_var 63) (ar 64 (ar_var 64) (ar 65 (ar_var 65) (asg_nil rfl))))))))))))), fun G => by kernel_rfl⟩, (show o13 = S1.ρ 13 + 1 by omega), ?_, (Stay.refl [13, 14] [63, 64, 65] _).set rfl rfl⟩
        rw [if_neg hv]
        exact hr.same rfl (fun _ => rfl) (fun _ => rfl) (fun _ => rfl)
      · have d3 : wYE3.den S1 = some [b2i true] := tr (p := (S1.Φ 30 [S1.ρ 13]) ≤ (64 : Int)) (Int.not_lt.1 c3)
        have c4 : ¬ ((((S1.Φ 30 [S1.ρ 13])).tmod (8 : Int)) = (0 : Int)) := by intro hh; exact hv ⟨by omega, by omega, hh⟩
        have d4 : wYE4.den S1 = some [b2i false] := fls (p := (((S1.Φ 30 [S1.ρ 13])).tmod (8 : Int)) = (0 : Int)) c4
        obtain ⟨o13, h_o13⟩ : ∃ o : Int, o = (IntKind.i64.wrap (S1.ρ 13 + (1 : Int))) := ⟨_, rfl⟩
        have u := h_o13
        rw [w_i64 (by omega) (by omega)] at u
        refine ⟨S1.set (upd S1.ρ [(13, o13)]) [] 50 rfl hK, ⟨_, [], _, 1000, _, [], (ai wYE4 false d4 (ai wYE3 true d3 (ai wYE2 true d2 (ai wYE1 true d1 (ai wYE0 true d0 (AlOk.nil _)))))), hcs, LkOk.no _ _ _ _, (av 14 .i64 (av 1 .i64 (av 1 .i64 (an 13 (.bin .add (.var .i64 13) (.lit .i64 1)) (sm h_o13.symm) (av 8 .i64 (ar 60 (ar_var 60) (ar 61 (ar_var 61) (ar 62 (ar_var 62) (av 14 .i64 (ar 63 (ar_var 63) (ar 64 (ar_var 64) (ar 65 (ar_var 65) (asg_nil rfl))))))))))))), fun G => by kernel_rfl⟩, (show o13 = S1.ρ 13 + 1 by omega), ?_, (Stay.refl [13, 14] [63, 64, 65] _).set rfl rfl⟩
        rw [if_neg hv]
        exact hr.same rfl (fun _ => rfl) (fun _ => rfl) (fun _ => rfl)
theorem rowsE (F : Nat → Int) : ∀ (m i : Nat) (l : List Int) (S0 : Sy), S0.ρ 13 = i → S0.ρ 13 + m ≤ S0.ρ 1 → S0.ρ 1 ≤ 2048 → l.length ≤ i → (∀ j : Nat, S0.Φ 30 [(j : Int)] = F j) → RowIs S0 14 63 l → (∀ x ∈ S0.I, x.f + x.ks.length ≤ 50) →
    ∃ Sa, Chain (StepTo Try.prog ftW ΛW [] (cAt Try.prog lpWM) XE1W FErW 4) m S0 Sa ∧ Sa.ρ 13 = S0.ρ 13 + m ∧ RowIs Sa 14 63 (fltG F i m l) ∧ Stay [13, 14] [63, 64, 65] S0 Sa
  | 0, i, l, S0, _, _, _, _, _, hr, _ => ⟨S0, .nil _, by simp, hr, Stay.refl _ _ _⟩
  | m + 1, i, l, S0, h0, h1, h2, h3, hF, hr, hK => by
    obtain ⟨S2, st, e4, hr2, y⟩ := rowE (S1 := S0) (by omega) (by omega) (by omega) (by omega) hr hK
    have e1 := y.num 1 rfl
    rw [h0, hF i] at hr2
    obtain ⟨Sa, ch, f4, hr3, z⟩ := rowsE F m (i + 1) _ S2 (by omega) (by omega) (by omega) (by split; (· simp; omega); (· omega)) (fun j => by rw [y.fn 30 rfl]; exact hF j) hr2 (by rw [y.1]; exact hK)
    exact ⟨Sa, .cons st ch, by omega, hr3, stay_weak (y.trans z) rfl rfl⟩
def wORE0 : Tm := (.bin .lss (.var .i64 13) (.var .i64 1))
theorem outER {S1 T : Sy} (h1 : S1.ρ 13 = S1.ρ 1) (hT : Same [14, 8] [60, 61, 62, 63, 64, 65] S1 T) : StepOut Try.prog ftW ΛW [] (cAt Try.prog lpWM) XE1W FErW (.exit 0) 4 S1 T := by
  have hcs : ∀ c ∈ ([] : List Ctr), CtrOk Try.prog S1 [] c := fun c hc => by simp at hc
  have c0 : ¬ (S1.ρ 13 < S1.ρ 1) := by omega
  have d0 : wORE0.den S1 = some [b2i false] := fls (p := S1.ρ 13 < S1.ρ 1) c0
  exact ⟨_, [], _, 1000, _, [], (ai wORE0 false d0 (AlOk.nil _)), hcs, LkOk.no _ _ _ _, (an 14 (.var .i64 14) (sm (hT.num 14 rfl)) (an 8 (.var .i64 8) (sm (hT.num 8 rfl)) (asg_arr (i := 60) (hT.row 60 rfl) (asg_arr (i := 61) (hT.row 61 rfl) (asg_arr (i := 62) (hT.row 62 rfl) (an 14 (.var .i64 14) (sm (hT.num 14 rfl)) (asg_arr (i := 63) (hT.row 63 rfl) (asg_arr (i := 64) (hT.row 64 rfl) (asg_arr (i := 65) (hT.row 65 rfl) (asg_nil hT.1)))))))))), fun G => by kernel_rfl⟩
theorem loopER (S0 : Sy) (n : Nat) (hn : n ≤ 2048) (hi : S0.ρ 13 = 0) (hb : S0.ρ 1 = n) (hv : flt (fun j => S0.Φ 30 [(j : Int)]) n ≠ []) (hK : ∀ x ∈ S0.I, x.f + x.ks.length ≤ 50) :
    ∃ Sf, Stay [13, 14] [63, 64, 65] S0 Sf ∧ RowIs Sf 14 63 (flt (fun j => S0.Φ 30 [(j : Int)]) n) ∧ ∀ T asg0, Same [14, 8] [60, 61, 62, 63, 64, 65] Sf T → AsgOk T S0 asg0 → LkAt Try.prog T [] (.loop (cAt Try.prog lpWM)) (lkLoopR Try.prog 4 [] XE0W FErW (.exit 0) asg0) := by
  obtain ⟨j0, ⟨hj, hok⟩, hmin⟩ := least (flt_some hv)
  obtain ⟨Sa, ch, e, y⟩ := chainER j0 S0 (by omega) (by omega) (by omega) (fun j hj' hh => by rw [hi, Int.zero_add] at hh; exact hmin j hj' ⟨by omega, hh⟩) hK
  have y1 := y.num 1 rfl
  have ea : Sa.ρ 13 = j0 := by omega
  have hKa : ∀ x ∈ Sa.I, x.f + x.ks.length ≤ 50 := by rw [y.1]; exact hK
  obtain ⟨Sb, cx, f4, hrb, yb⟩ := crossE (S1 := Sa) (by omega) (by omega) (by omega) (by rw [ea, y.fn 30 rfl]; exact hok) hKa
  have b1 := yb.num 1 rfl
  have hKb : ∀ x ∈ Sb.I, x.f + x.ks.length ≤ 50 := by rw [yb.1]; exact hKa
  have h0 : flt (fun j => S0.Φ 30 [(j : Int)]) j0 = [] := flt_low fun j hj' hh => hmin j hj' ⟨by omega, hh⟩
  have h1 : flt (fun j => S0.Φ 30 [(j : Int)]) (j0 + 1) = [S0.Φ 30 [(j0 : Int)]] := by
    unfold flt
    rw [if_pos hok, h0]
    rfl
  rw [ea, y.fn 30 rfl, ← h1] at hrb
  obtain ⟨Sf, ch2, g4, hrf, yf⟩ := rowsE (fun j => S0.Φ 30 [(j : Int)]) (n - (j0 + 1)) (j0 + 1) _ Sb (by omega) (by omega) (by omega) (flt_len _ _) (fun j => by rw [yb.fn 30 rfl, y.fn 30 rfl]) hrb hKb
  have f1 := yf.num 1 rfl
  rw [fltG_eq, show j0 + 1 + (n - (j0 + 1)) = n by omega] at hrf
  exact ⟨Sf, stay_weak (y.trans (yb.trans yf)) rfl rfl, hrf, fun T asg0 hs ha => loop_chain2 envW (ann_self _) fineWM (show XE0W.N = FErW.N from rfl) (show XE1W.N = FErW.N from rfl) (Nat.le_of_ble_eq_true rfl) ch cx ch2 (outER (by omega) hs) ha⟩
def wGN0 : Tm := (.bin .lss (.var .i64 15) (.var .i64 11))
def wGN1 : Tm := (.bin .geq (.var .i64 15) (.lit .i64 0))
def wGN2 : Tm := (.bin .geq (.app .i64 31 (.cons (.var .i64 15) .nil)) (.lit .i64 8))
def wGN3 : Tm := (.bin .leq (.app .i64 31 (.cons (.var .i64 15) .nil)) (.lit .i64 64))
def wGN4 : Tm := (.bin .eql (.bin .rem (.app .i64 31 (.cons (.var .i64 15) .nil)) (.lit .i64 8)) (.lit .i64 0))
theorem nilGN {S1 : Sy} (h0 : 0 ≤ S1.ρ 15) (h1 : S1.ρ 15 < S1.ρ 11) (h2 : S1.ρ 11 ≤ 4096) (hv : ¬ okS (S1.Φ 31 [S1.ρ 15])) (hK : ∀ x ∈ S1.I, x.f + x.ks.length ≤ 50) : ∃ S2, StepTo Try.prog ftW ΛW [] (cAt Try.prog lpWM) XG0W FGW 5 S1 S2 ∧ S2.ρ 15 = S1.ρ 15 + 1 ∧ Stay [15] [] S1 S2 := by
  have hcs : ∀ c ∈ ([] : List Ctr), CtrOk Try.prog S1 [] c := fun c hc => by simp at hc
  have c0 : S1.ρ 15 < S1.ρ 11 := by omega
  have d0 : wGN0.den S1 = some [b2i true] := tr (p := S1.ρ 15 < S1.ρ 11) c0
  have c1 : ¬ (S1.ρ 15 < (0 : Int)) := by omega
  have d1 : wGN1.den S1 = some [b2i true] := tr (p := (0 : Int) ≤ S1.ρ 15) (Int.not_lt.1 c1)
  by_cases c2 : (S1.Φ 31 [S1.ρ 15]) < (8 : Int)
  · have d2 : wGN2.den S1 = some [b2i false] := fls (p := (8 : Int) ≤ (S1.Φ 31 [S1.ρ 15])) (Int.not_le.2 c2)
    obtain ⟨o15, h_o15⟩ : ∃ o : Int, o = (IntKind.i64.wrap (S1.ρ 15 + (1 : Int))) := ⟨_, rfl⟩
    have u := h_o15
    rw [w_i64 (by omega) (by omega)] at u
    exact ⟨S1.set (upd S1.ρ [(15, o15)]) [] 50 rfl hK, ⟨_, [], _, 1000, _, [], (ai wGN2 false d2 (ai wGN1 true d1 (ai wGN0 true d0 (AlOk.nil _)))), hcs, LkOk.no _ _ _ _, (av 11 .i64 (av 11 .i64 (an 15 (.bin .add (.var .i64 15) (.lit .i64 1)) (sm h_o15.symm) (asg_nil rfl)))), fun G => by kernel_rfl⟩, (show o15 = S1.ρ 15 + 1 by omega), (Stay.refl [15] [] _).set rfl rfl⟩
  · have d2 : wGN2.den S1 = some [b2i true] := tr (p := (8 : Int) ≤ (S1.Φ 31 [S1.ρ 15])) (Int.not_lt.1 c2)
    by_cases c3 : (64 : Int) < (S1.Φ 31 [S1.ρ 15])
    · have d3 : wGN3.den S1 = some [b2i false] := fls (p := (S1.Φ 31 [S1.ρ 15]) ≤ (64 : Int)) (Int.not_le.2 c3)
      obtain ⟨o15, h_o15⟩ : ∃ o : Int, o = (IntKind.i64.wrap (S1.ρ 15 + (1 : Int))) := ⟨_, rfl⟩
      have u := h_o15
      rw [w_i64 (by omega) (by omega)] at u
      exact ⟨S1.set (upd S1.ρ [(15, o15)]) [] 50 rfl hK, ⟨_, [], _, 1000, _, [], (ai wGN3 false d3 (ai wGN2 true d2 (ai wGN1 true d1 (ai wGN0 true d0 (AlOk.nil _))))), hcs, LkOk.no _ _ _ _, (av 11 .i64 (av 11 .i64 (an 15 (.bin .add (.var .i64 15) (.lit .i64 1)) (sm h_o15.symm) (asg_nil rfl)))), fun G => by kernel_rfl⟩, (show o15 = S1.ρ 15 + 1 by omega), (Stay.refl [15] [] _).set rfl rfl⟩
    · have d3 : wGN3.den S1 = some [b2i true] := tr (p := (S1.Φ 31 [S1.ρ 15]) ≤ (64 : Int)) (Int.not_lt.1 c3)
      have c4 : ¬ ((((S1.Φ 31 [S1.ρ 15])).tmod (8 : Int)) = (0 : Int)) := by intro hh; exact hv ⟨by omega, by omega, hh⟩
      have d4 : wGN4.den S1 = some [b2i false] := fls (p := (((S1.Φ 31 [S1.ρ 15])).tmod (8 : Int)) = (0 : Int)) c4
      obtain ⟨o15, h_o15⟩ : ∃ o : Int, o = (IntKind.i64.wrap (S1.ρ 15 + (1 : Int))) := ⟨_, rfl⟩
      have u := h_o15
      rw [w_i64 (by omega) (by omega)] at u
      exact ⟨S1.set (upd S1.ρ [(15, o15)]) [] 50 rfl hK, ⟨_, [], _, 1000, _, [], (ai wGN4 false d4 (ai wGN3 true d3 (ai wGN2 true d2 (ai wGN1 true d1 (ai wGN0 true d0 (AlOk.nil _)))))), hcs, LkOk.no _ _ _ _, (av 11 .i64 (av 11 .i64 (an 15 (.bin .add (.var .i64 15) (.lit .i64 1)) (sm h_o15.symm) (asg_nil rfl)))), fun G => by kernel_rfl⟩, (show o15 = S1.ρ 15 + 1 by omega), (Stay.refl [15] [] _).set rfl rfl⟩
theorem chainGN : ∀ (m : Nat) (S0 : Sy), 0 ≤ S0.ρ 15 → S0.ρ 15 + m ≤ S0.ρ 11 → S0.ρ 11 ≤ 4096 → (∀ j : Nat, j < m → ¬ okS (S0.Φ 31 [S0.ρ 15 + j])) → (∀ x ∈ S0.I, x.f + x.ks.length ≤ 50) →
    ∃ Sa, Chain (StepTo Try.prog ftW ΛW [] (cAt Try.prog lpWM) XG0W FGW 5) m S0 Sa ∧ Sa.ρ 15 = S0.ρ 15 + m ∧ Stay [15] [] S0 Sa
  | 0, S0, _, _, _, _, _ => ⟨S0, .nil _, by simp, Stay.refl _ _ _⟩
  | m + 1, S0, h0, h1, h2, hv, hK => by
    obtain ⟨S2, st, e4, y⟩ := nilGN h0 (by omega) h2 (by have := hv 0 (by omega); simpa using this) hK
    have e1 := y.num 11 rfl
    obtain ⟨Sa, ch, f4, z⟩ := chainGN m S2 (by omega) (by omega) (by omega) (fun j hj => by
      have := hv (j + 1) (by omega)
      rw [y.fn 31 rfl, e4]
      rwa [show S0.ρ 15 + 1 + (j : Int) = S0.ρ 15 + ((j + 1 : Nat) : Int) by omega]) (by rw [y.1]; exact hK)
    exact ⟨Sa, .cons st ch, by omega, stay_weak (y.trans z) rfl rfl⟩
def wONG0 : Tm := (.bin .lss (.var .i64 15) (.var .i64 11))
theorem outGN {S1 T : Sy} (h1 : S1.ρ 15 = S1.ρ 11) (hT : Same [] [] S1 T) : StepOut Try.prog ftW ΛW [] (cAt Try.prog lpWM) XG0W FGW (.exit 0) 5 S1 T := by
  have hcs : ∀ c ∈ ([] : List Ctr), CtrOk Try.prog S1 [] c := fun c hc => by simp at hc
  have c0 : ¬ (S1.ρ 15 < S1.ρ 11) := by omega
  have d0 : wONG0.den S1 = some [b2i false] := fls (p := S1.ρ 15 < S1.ρ 11) c0
  exact ⟨_, [], _, 1000, _, [], (ai wONG0 false d0 (AlOk.nil _)), hcs, LkOk.no _ _ _ _, (asg_nil hT.1), fun G => by kernel_rfl⟩
theorem loopGN (S0 : Sy) (n : Nat) (hn : n ≤ 4096) (hi : S0.ρ 15 = 0) (hb : S0.ρ 11 = n) (hv : flt (fun j => S0.Φ 31 [(j : Int)]) n = []) (hK : ∀ x ∈ S0.I, x.f + x.ks.length ≤ 50) :
    ∃ Sf, Stay [15] [] S0 Sf ∧ ∀ T asg0, Same [] [] Sf T → AsgOk T S0 asg0 → LkAt Try.prog T [] (.loop (cAt Try.prog lpWM)) (lkLoopR Try.prog 5 [] XG0W FGW (.exit 0) asg0) := by
  obtain ⟨Sf, ch, e, y⟩ := chainGN n S0 (by omega) (by omega) (by omega) (fun j hj => by rw [hi, Int.zero_add]; exact flt_nil hv j hj) hK
  have y1 := y.num 11 rfl
  exact ⟨Sf, y, fun T asg0 hs ha => loop_chain envW (ann_self _) fineWM (show XG0W.N = FGW.N from rfl) (Nat.le_of_ble_eq_true rfl) ch (outGN (by omega) hs) ha⟩
def wHR0 : Tm := (.bin .lss (.var .i64 15) (.var .i64 11))
def wHR1 : Tm := (.bin .geq (.var .i64 15) (.lit .i64 0))
def wHR2 : Tm := (.bin .geq (.app .i64 31 (.cons (.var .i64 15) .nil)) (.lit .i64 8))
def wHR3 : Tm := (.bin .leq (.app .i64 31 (.cons (.var .i64 15) .nil)) (.lit .i64 64))
def wHR4 : Tm := (.bin .eql (.bin .rem (.app .i64 31 (.cons (.var .i64 15) .nil)) (.lit .i64 8)) (.lit .i64 0))
theorem nilHR {S1 : Sy} (h0 : 0 ≤ S1.ρ 15) (h1 : S1.ρ 15 < S1.ρ 11) (h2 : S1.ρ 11 ≤ 4096) (hv : ¬ okS (S1.Φ 31 [S1.ρ 15])) (hK : ∀ x ∈ S1.I, x.f + x.ks.length ≤ 50) : ∃ S2, StepTo Try.prog ftW ΛW [] (cAt Try.prog lpWM) XH0W FHrW 5 S1 S2 ∧ S2.ρ 15 = S1.ρ 15 + 1 ∧ Stay [15] [] S1 S2 := by
  have hcs : ∀ c ∈ ([] : List Ctr), CtrOk Try.prog S1 [] c := fun c hc => by simp at hc
  have c0 : S1.ρ 15 < S1.ρ 11 := by omega
  have d0 : wHR0.den S1 = some [b2i true] := tr (p := S1.ρ 15 < S1.ρ 11) c0
  have c1 : ¬ (S1.ρ 15 < (0 : Int)) := by omega
  have d1 : wHR1.den S1 = some [b2i true] := tr (p := (0 : Int) ≤ S1.ρ 15) (Int.not_lt.1 c1)
  by_cases c2 : (S1.Φ 31 [S1.ρ 15]) < (8 : Int)
  · have d2 : wHR2.den S1 = some [b2i false] := fls (p := (8 : Int) ≤ (S1.Φ 31 [S1.ρ 15])) (Int.not_le.2 c2)
    obtain ⟨o15, h_o15⟩ : ∃ o : Int, o = (IntKind.i64.wrap (S1.ρ 15 + (1 : Int))) := ⟨_, rfl⟩
    have u := h_o15
    rw [w_i64 (by omega) (by omega)] at u
    exact ⟨S1.set (upd S1.ρ [(15, o15)]) [] 50 rfl hK, ⟨_, [], _, 1000, _, [], (ai wHR2 false d2 (ai wHR1 true d1 (ai wHR0 true d0 (AlOk.nil _)))), hcs, LkOk.no _ _ _ _, (av 11 .i64 (av 11 .i64 (an 15 (.bin .add (.var .i64 15) (.lit .i64 1)) (sm h_o15.symm) (av 8 .i64 (ar 60 (ar_var 60) (ar 61 (ar_var 61) (ar 62 (ar_var 62) (asg_nil rfl)))))))), fun G => by kernel_rfl⟩, (show o15 = S1.ρ 15 + 1 by omega), (Stay.refl [15] [] _).set rfl rfl⟩
  · have d2 : wHR2.den S1 = some [b2i true] := tr (p := (8 : Int) ≤ (S1.Φ 31 [S1.ρ 15])) (Int.not_lt.1 c2)
    by_cases c3 : (64 : Int) < (S1.Φ 31 [S1.ρ 15])
    · have d3 : wHR3.den S1 = some [b2i false] := fls (p := (S1.Φ 31 [S1.ρ 15]) ≤ (64 : Int)) (Int.not_le.2 c3)
      obtain ⟨o15, h_o15⟩ : ∃ o : Int, o = (IntKind.i64.wrap (S1.ρ 15 + (1 : Int))) := ⟨_, rfl⟩
      have u := h_o15
      rw [w_i64 (by omega) (by omega)] at u
      exact ⟨S1.set (upd S1.ρ [(15, o15)]) [] 50 rfl hK, ⟨_, [], _, 1000, _, [], (ai wHR3 false d3 (ai wHR2 true d2 (ai wHR1 true d1 (ai wHR0 true d0 (AlOk.nil _))))), hcs, LkOk.no _ _ _ _, (av 11 .i64 (av 11 .i64 (an 15 (.bin .add (.var .i64 15) (.lit .i64 1)) (sm h_o15.symm) (av 8 .i64 (ar 60 (ar_var 60) (ar 61 (ar_var 61) (ar 62 (ar_var 62) (asg_nil rfl)))))))), fun G => by kernel_rfl⟩, (show o15 = S1.ρ 15 + 1 by omega), (Stay.refl [15] [] _).set rfl rfl⟩
    · have d3 : wHR3.den S1 = some [b2i true] := tr (p := (S1.Φ 31 [S1.ρ 15]) ≤ (64 : Int)) (Int.not_lt.1 c3)
      have c4 : ¬ ((((S1.Φ 31 [S1.ρ 15])).tmod (8 : Int)) = (0 : Int)) := by intro hh; exact hv ⟨by omega, by omega, hh⟩
      have d4 : wHR4.den S1 = some [b2i false] := fls (p := (((S1.Φ 31 [S1.ρ 15])).tmod (8 : Int)) = (0 : Int)) c4
      obtain ⟨o15, h_o15⟩ : ∃ o : Int, o = (IntKind.i64.wrap (S1.ρ 15 + (1 : Int))) := ⟨_, rfl⟩
      have u := h_o15
      rw [w_i64 (by omega) (by omega)] at u
      exact ⟨S1.set (upd S1.ρ [(15, o15)]) [] 50 rfl hK, ⟨_, [], _, 1000, _, [], (ai wHR4 false d4 (ai wHR3 true d3 (ai wHR2 true d2 (ai wHR1 true d1 (ai wHR0 true d0 (AlOk.nil _)))))), hcs, LkOk.no _ _ _ _, (av 11 .i64 (av 11 .i64 (an 15 (.bin .add (.var .i64 15) (.lit .i64 1)) (sm h_o15.symm) (av 8 .i64 (ar 60 (ar_var 60) (ar 61 (ar_var 61) (ar 62 (ar_var 62) (asg_nil rfl)))))))), fun G => by kernel_rfl⟩, (show o15 = S1.ρ 15 + 1 by omega), (Stay.refl [15] [] _).set rfl rfl⟩
theorem chainHR : ∀ (m : Nat) (S0 : Sy), 0 ≤ S0.ρ 15 → S0.ρ 15 + m ≤ S0.ρ 11 → S0.ρ 11 ≤ 4096 → (∀ j : Nat, j < m → ¬ okS (S0.Φ 31 [S0.ρ 15 + j])) → (∀ x ∈ S0.I, x.f + x.ks.length ≤ 50) →
    ∃ Sa, Chain (StepTo Try.prog ftW ΛW [] (cAt Try.prog lpWM) XH0W FHrW 5) m S0 Sa ∧ Sa.ρ 15 = S0.ρ 15 + m ∧ Stay [15] [] S0 Sa
  | 0, S0, _, _, _, _, _ => ⟨S0, .nil _, by simp, Stay.refl _ _ _⟩
  | m + 1, S0, h0, h1, h2, hv, hK => by
    obtain ⟨S2, st, e4, y⟩ := nilHR h0 (by omega) h2 (by have := hv 0 (by omega); simpa using this) hK
    have e1 := y.num 11 rfl
    obtain ⟨Sa, ch, f4, z⟩ := chainHR m S2 (by omega) (by omega) (by omega) (fun j hj => by
      have := hv (j + 1) (by omega)
      rw [y.fn 31 rfl, e4]
      rwa [show S0.ρ 15 + 1 + (j : Int) = S0.ρ 15 + ((j + 1 : Nat) : Int) by omega]) (by rw [y.1]; exact hK)
    exact ⟨Sa, .cons st ch, by omega, stay_weak (y.trans z) rfl rfl⟩
def wXH8_0 : Tm := (.bin .lss (.var .i64 15) (.var .i64 11))
def wXH8_1 : Tm := (.bin .geq (.var .i64 15) (.lit .i64 0))
def wXH16_0 : Tm := (.bin .lss (.var .i64 15) (.var .i64 11))
def wXH16_1 : Tm := (.bin .geq (.var .i64 15) (.lit .i64 0))
def wXH24_0 : Tm := (.bin .lss (.var .i64 15) (.var .i64 11))
def wXH24_1 : Tm := (.bin .geq (.var .i64 15) (.lit .i64 0))
def wXH32_0 : Tm := (.bin .lss (.var .i64 15) (.var .i64 11))
def wXH32_1 : Tm := (.bin .geq (.var .i64 15) (.lit .i64 0))
def wXH40_0 : Tm := (.bin .lss (.var .i64 15) (.var .i64 11))
def wXH40_1 : Tm := (.bin .geq (.var .i64 15) (.lit .i64 0))
def wXH48_0 : Tm := (.bin .lss (.var .i64 15) (.var .i64 11))
def wXH48_1 : Tm := (.bin .geq (.var .i64 15) (.lit .i64 0))
def wXH56_0 : Tm := (.bin .lss (.var .i64 15) (.var .i64 11))
def wXH56_1 : Tm := (.bin .geq (.var .i64 15) (.lit .i64 0))
def wXH64_0 : Tm := (.bin .lss (.var .i64 15) (.var .i64 11))
def wXH64_1 : Tm := (.bin .geq (.var .i64 15) (.lit .i64 0))
theorem crossH {S1 : Sy} (h0 : 0 ≤ S1.ρ 15) (h1 : S1.ρ 15 < S1.ρ 11) (h2 : S1.ρ 11 ≤ 4096) (hv : okS (S1.Φ 31 [S1.ρ 15])) (hK : ∀ x ∈ S1.I, x.f + x.ks.length ≤ 50) :
    ∃ S2, StepX Try.prog ftW ΛW [] (cAt Try.prog lpWM) XH0W XH1W FHrW 5 S1 S2 ∧ S2.ρ 15 = S1.ρ 15 + 1 ∧ RowIs S2 16 66 [S1.Φ 31 [S1.ρ 15]] ∧ Stay [15, 16] [66, 67, 68] S1 S2 := by
  have hcs : ∀ c ∈ ([] : List Ctr), CtrOk Try.prog S1 [] c := fun c hc => by simp at hc
  rcases okS_cases hv with hk | hk | hk | hk | hk | hk | hk | hk
  · have c0 : S1.ρ 15 < S1.ρ 11 := by omega
    have d0 : wXH8_0.den S1 = some [b2i true] := tr (p := S1.ρ 15 < S1.ρ 11) c0
    have c1 : ¬ (S1.ρ 15 < (0 : Int)) := by omega
    have d1 : wXH8_1.den S1 = some [b2i true] := tr (p := (0 : Int) ≤ S1.ρ 15) (Int.not_lt.1 c1)
    obtain ⟨o16, h_o16⟩ : ∃ o : Int, o = (1 : Int) := ⟨_, rfl⟩
    obtain ⟨o15, h_o15⟩ : ∃ o : Int, o = (IntKind.i64.wrap (S1.ρ 15 + (1 : Int))) := ⟨_, rfl⟩
    have u := h_o15
    rw [w_i64 (by omega) (by omega)] at u
    exact ⟨S1.set (upd S1.ρ [(16, o16), (15, o15)]) [(66, (fun j => ifE j ((0 : Int)) ((8 : Int)) ((fun _ => 0) j))), (67, (fun j => ifE j ((0 : Int)) ((8 : Int)) ((fun _ => 0) j))), (68, (fun j => ifE j ((0 : Int)) ((8 : Int)) ((fun _ => 0) j)))] 50 rfl hK, ⟨_, [], _, 1000, _, [(5, 8)], (ai wXH8_1 true d1 (ai wXH8_0 true d0 (ain (sqW 31 15) .i64 8 (sm hk) (AlOk.nil _)))), hcs, LkOk.no _ _ _ _, (an 16 (.lit .i64 1) (sm h_o16.symm) (av 11 .i64 (av 11 .i64 (an 15 (.bin .add (.var .i64 15) (.lit .i64 1)) (sm h_o15.symm) (av 8 .i64 (ar 60 (ar_var 60) (ar 61 (ar_var 61) (ar 62 (ar_var 62) (an 16 (.lit .i64 1) (sm h_o16.symm) (ar 66 (ar_upd (.lit .i64 0) (.lit .i64 8) (i := (0 : Int)) (v := (8 : Int)) rfl rfl (by kernel_rfl) ar_zero) (ar 67 (ar_upd (.lit .i64 0) (.lit .i64 8) (i := (0 : Int)) (v := (8 : Int)) rfl rfl (by kernel_rfl) ar_zero) (ar 68 (ar_upd (.lit .i64 0) (.lit .i64 8) (i := (0 : Int)) (v := (8 : Int)) rfl rfl (by kernel_rfl) ar_zero) (asg_nil rfl))))))))))))), fun G => by kernel_rfl⟩, (show o15 = S1.ρ 15 + 1 by omega), RowIs.one (isC_of 0 ⟨rfl, rfl, rfl⟩) hk h_o16 (fun _ => rfl) (fun _ => rfl) (fun _ => rfl), (Stay.refl [15, 16] [66, 67, 68] _).set rfl rfl⟩
  · have c0 : S1.ρ 15 < S1.ρ 11 := by omega
    have d0 : wXH16_0.den S1 = some [b2i true] := tr (p := S1.ρ 15 < S1.ρ 11) c0
    have c1 : ¬ (S1.ρ 15 < (0 : Int)) := by omega
    have d1 : wXH16_1.den S1 = some [b2i true] := tr (p := (0 : Int) ≤ S1.ρ 15) (Int.not_lt.1 c1)
    obtain ⟨o16, h_o16⟩ : ∃ o : Int, o = (1 : Int) := ⟨_, rfl⟩
    obtain ⟨o15, h_o15⟩ : ∃ o : Int, o = (IntKind.i64.wrap (S1.ρ 15 + (1 : Int))) := ⟨_, rfl⟩
    have u := h_o15
    rw [w_i64 (by omega) (by omega)] at u
    exact ⟨S1.set (upd S1.ρ [(16, o16), (15, o15)]) [(66, (fun j => ifE j ((0 : Int)) ((16 : Int)) ((fun _ => 0) j))), (67, (fun j => ifE j ((0 : Int)) ((16 : Int)) ((fun _ => 0) j))), (68, (fun j => ifE j ((0 : Int)) ((4 : Int)) ((fun _ => 0) j)))] 50 rfl hK, ⟨_, [], _, 1000, _, [(5, 8)], (ai wXH16_1 true d1 (ai wXH16_0 true d0 (ain (sqW 31 15) .i64 16 (sm hk) (AlOk.nil _)))), hcs, LkOk.no _ _ _ _, (an 16 (.lit .i64 1) (sm h_o16.symm) (av 11 .i64 (av 11 .i64 (an 15 (.bin .add (.var .i64 15) (.lit .i64 1)) (sm h_o15.symm) (av 8 .i64 (ar 60 (ar_var 60) (ar 61 (ar_var 61) (ar 62 (ar_var 62) (an 16 (.lit .i64 1) (sm h_o16.symm) (ar 66 (ar_upd (.lit .i64 0) (.lit .i64 16) (i := (0 : Int)) (v := (16 : Int)) rfl rfl (by kernel_rfl) ar_zero) (ar 67 (ar_upd (.lit .i64 0) (.lit .i64 16) (i := (0 : Int)) (v := (16 : Int)) rfl rfl (by kernel_rfl) ar_zero) (ar 68 (ar_upd (.lit .i64 0) (.lit .i64 4) (i := (0 : Int)) (v := (4 : Int)) rfl rfl (by kernel_rfl) ar_zero) (asg_nil rfl))))))))))))), fun G => by kernel_rfl⟩, (show o15 = S1.ρ 15 + 1 by omega), RowIs.one (isC_of 1 ⟨rfl, rfl, rfl⟩) hk h_o16 (fun _ => rfl) (fun _ => rfl) (fun _ => rfl), (Stay.refl [15, 16] [66, 67, 68] _).set rfl rfl⟩
  · have c0 : S1.ρ 15 < S1.ρ 11 := by omega
    have d0 : wXH24_0.den S1 = some [b2i true] := tr (p := S1.ρ 15 < S1.ρ 11) c0
    have c1 : ¬ (S1.ρ 15 < (0 : Int)) := by omega
    have d1 : wXH24_1.den S1 = some [b2i true] := tr (p := (0 : Int) ≤ S1.ρ 15) (Int.not_lt.1 c1)
    obtain ⟨o16, h_o16⟩ : ∃ o : Int, o = (1 : Int) := ⟨_, rfl⟩
    obtain ⟨o15, h_o15⟩ : ∃ o : Int, o = (IntKind.i64.wrap (S1.ρ 15 + (1 : Int))) := ⟨_, rfl⟩
    have u := h_o15
    rw [w_i64 (by omega) (by omega)] at u
    exact ⟨S1.set (upd S1.ρ [(16, o16), (15, o15)]) [(66, (fun j => ifE j ((0 : Int)) ((24 : Int)) ((fun _ => 0) j))), (67, (fun j => ifE j ((0 : Int)) ((8 : Int)) ((fun _ => 0) j))), (68, (fun j => ifE j ((0 : Int)) ((2 : Int)) ((fun _ => 0) j)))] 50 rfl hK, ⟨_, [], _, 1000, _, [(5, 8)], (ai wXH24_1 true d1 (ai wXH24_0 true d0 (ain (sqW 31 15) .i64 24 (sm hk) (AlOk.nil _)))), hcs, LkOk.no _ _ _ _, (an 16 (.lit .i64 1) (sm h_o16.symm) (av 11 .i64 (av 11 .i64 (an 15 (.bin .add (.var .i64 15) (.lit .i64 1)) (sm h_o15.symm) (av 8 .i64 (ar 60 (ar_var 60) (ar 61 (ar_var 61) (ar 62 (ar_var 62) (an 16 (.lit .i64 1) (sm h_o16.symm) (ar 66 (ar_upd (.lit .i64 0) (.lit .i64 24) (i := (0 : Int)) (v := (24 : Int)) rfl rfl (by kernel_rfl) ar_zero) (ar 67 (ar_upd (.lit .i64 0) (.lit .i64 8) (i := (0 : Int)) (v := (8 : Int)) rfl rfl (by kernel_rfl) ar_zero) (ar 68 (ar_upd (.lit .i64 0) (.lit .i64 2) (i := (0 : Int)) (v := (2 : Int)) rfl rfl (by kernel_rfl) ar_zero) (asg_nil rfl))))))))))))), fun G => by kernel_rfl⟩, (show o15 = S1.ρ 15 + 1 by omega), RowIs.one (isC_of 2 ⟨rfl, rfl, rfl⟩) hk h_o16 (fun _ => rfl) (fun _ => rfl) (fun _ => rfl), (Stay.refl [15, 16] [66, 67, 68] _).set rfl rfl⟩
  · have c0 : S1.ρ 15 < S1.ρ 11 := by omega
    have d0 : wXH32_0.den S1 = some [b2i true] := tr (p := S1.ρ 15 < S1.ρ 11) c0
    have c1 : ¬ (S1.ρ 15 < (0 : Int)) := by omega
    have d1 : wXH32_1.den S1 = some [b2i true] := tr (p := (0 : Int) ≤ S1.ρ 15) (Int.not_lt.1 c1)
    obtain ⟨o16, h_o16⟩ : ∃ o : Int, o = (1 : Int) := ⟨_, rfl⟩
    obtain ⟨o15, h_o15⟩ : ∃ o : Int, o = (IntKind.i64.wrap (S1.ρ 15 + (1 : Int))) := ⟨_, rfl⟩
    have u := h_o15
    rw [w_i64 (by omega) (by omega)] at u
    exact ⟨S1.set (upd S1.ρ [(16, o16), (15, o15)]) [(66, (fun j => ifE j ((0 : Int)) ((32 : Int)) ((fun _ => 0) j))), (67, (fun j => ifE j ((0 : Int)) ((32 : Int)) ((fun _ => 0) j))), (68, (fun j => ifE j ((0 : Int)) ((2 : Int)) ((fun _ => 0) j)))] 50 rfl hK, ⟨_, [], _, 1000, _, [(5, 8)], (ai wXH32_1 true d1 (ai wXH32_0 true d0 (ain (sqW 31 15) .i64 32 (sm hk) (AlOk.nil _)))), hcs, LkOk.no _ _ _ _, (an 16 (.lit .i64 1) (sm h_o16.symm) (av 11 .i64 (av 11 .i64 (an 15 (.bin .add (.var .i64 15) (.lit .i64 1)) (sm h_o15.symm) (av 8 .i64 (ar 60 (ar_var 60) (ar 61 (ar_var 61) (ar 62 (ar_var 62) (an 16 (.lit .i64 1) (sm h_o16.symm) (ar 66 (ar_upd (.lit .i64 0) (.lit .i64 32) (i := (0 : Int)) (v := (32 : Int)) rfl rfl (by kernel_rfl) ar_zero) (ar 67 (ar_upd (.lit .i64 0) (.lit .i64 32) (i := (0 : Int)) (v := (32 : Int)) rfl rfl (by kernel_rfl) ar_zero) (ar 68 (ar_upd (.lit .i64 0) (.lit .i64 2) (i := (0 : Int)) (v := (2 : Int)) rfl rfl (by kernel_rfl) ar_zero) (asg_nil rfl))))))))))))), fun G => by kernel_rfl⟩, (show o15 = S1.ρ 15 + 1 by omega), RowIs.one (isC_of 3 ⟨rfl, rfl, rfl⟩) hk h_o16 (fun _ => rfl) (fun _ => rfl) (fun _ => rfl), (Stay.refl [15, 16] [66, 67, 68] _).set rfl rfl⟩
  · have c0 : S1.ρ 15 < S1.ρ 11 := by omega
    have d0 : wXH40_0.den S1 = some [b2i true] := tr (p := S1.ρ 15 < S1.ρ 11) c0
    have c1 : ¬ (S1.ρ 15 < (0 : Int)) := by omega
    have d1 : wXH40_1.den S1 = some [b2i true] := tr (p := (0 : Int) ≤ S1.ρ 15) (Int.not_lt.1 c1)
    obtain ⟨o16, h_o16⟩ : ∃ o : Int, o = (1 : Int) := ⟨_, rfl⟩
    obtain ⟨o15, h_o15⟩ : ∃ o : Int, o = (IntKind.i64.wrap (S1.ρ 15 + (1 : Int))) := ⟨_, rfl⟩
    have u := h_o15
    rw [w_i64 (by omega) (by omega)] at u
    exact ⟨S1.set (upd S1.ρ [(16, o16), (15, o15)]) [(66, (fun j => ifE j ((0 : Int)) ((40 : Int)) ((fun _ => 0) j))), (67, (fun j => ifE j ((0 : Int)) ((8 : Int)) ((fun _ => 0) j))), (68, (fun j => ifE j ((0 : Int)) ((1 : Int)) ((fun _ => 0) j)))] 50 rfl hK, ⟨_, [], _, 1000, _, [(5, 8)], (ai wXH40_1 true d1 (ai wXH40_0 true d0 (ain (sqW 31 15) .i64 40 (sm hk) (AlOk.nil _)))), hcs, LkOk.no _ _ _ _, (an 16 (.lit .i64 1) (sm h_o16.symm) (av 11 .i64 (av 11 .i64 (an 15 (.bin .add (.var .i64 15) (.lit .i64 1)) (sm h_o15.symm) (av 8 .i64 (ar 60 (ar_var 60) (ar 61 (ar_var 61) (ar 62 (ar_var 62) (an 16 (.lit .i64 1) (sm h_o16.symm) (ar 66 (ar_upd (.lit .i64 0) (.lit .i64 40) (i := (0 : Int)) (v := (40 : Int)) rfl rfl (by kernel_rfl) ar_zero) (ar 67 (ar_upd (.lit .i64 0) (.lit .i64 8) (i := (0 : Int)) (v := (8 : Int)) rfl rfl (by kernel_rfl) ar_zero) (ar 68 (ar_upd (.lit .i64 0) (.lit .i64 1) (i := (0 : Int)) (v := (1 : Int)) rfl rfl (by kernel_rfl) ar_zero) (asg_nil rfl))))))))))))), fun G => by kernel_rfl⟩, (show o15 = S1.ρ 15 + 1 by omega), RowIs.one (isC_of 4 ⟨rfl, rfl, rfl⟩) hk h_o16 (fun _ => rfl) (fun _ => rfl) (fun _ => rfl), (Stay.refl [15, 16] [66, 67, 68] _).set rfl rfl⟩
  · have c0 : S1.ρ 15 < S1.ρ 11 := by omega
    have d0 : wXH48_0.den S1 = some [b2i true] := tr (p := S1.ρ 15 < S1.ρ 11) c0
    have c1 : ¬ (S1.ρ 15 < (0 : Int)) := by omega
    have d1 : wXH48_1.den S1 = some [b2i true] := tr (p := (0 : Int) ≤ S1.ρ 15) (Int.not_lt.1 c1)
    obtain ⟨o16, h_o16⟩ : ∃ o : Int, o = (1 : Int) := ⟨_, rfl⟩
    obtain ⟨o15, h_o15⟩ : ∃ o : Int, o = (IntKind.i64.wrap (S1.ρ 15 + (1 : Int))) := ⟨_, rfl⟩
    have u := h_o15
    rw [w_i64 (by omega) (by omega)] at u
    exact ⟨S1.set (upd S1.ρ [(16, o16), (15, o15)]) [(66, (fun j => ifE j ((0 : Int)) ((48 : Int)) ((fun _ => 0) j))), (67, (fun j => ifE j ((0 : Int)) ((16 : Int)) ((fun _ => 0) j))), (68, (fun j => ifE j ((0 : Int)) ((1 : Int)) ((fun _ => 0) j)))] 50 rfl hK, ⟨_, [], _, 1000, _, [(5, 8)], (ai wXH48_1 true d1 (ai wXH48_0 true d0 (ain (sqW 31 15) .i64 48 (sm hk) (AlOk.nil _)))), hcs, LkOk.no _ _ _ _, (an 16 (.lit .i64 1) (sm h_o16.symm) (av 11 .i64 (av 11 .i64 (an 15 (.bin .add (.var .i64 15) (.lit .i64 1)) (sm h_o15.symm) (av 8 .i64 (ar 60 (ar_var 60) (ar 61 (ar_var 61) (ar 62 (ar_var 62) (an 16 (.lit .i64 1) (sm h_o16.symm) (ar 66 (ar_upd (.lit .i64 0) (.lit .i64 48) (i := (0 : Int)) (v := (48 : Int)) rfl rfl (by kernel_rfl) ar_zero) (ar 67 (ar_upd (.lit .i64 0) (.lit .i64 16) (i := (0 : Int)) (v := (16 : Int)) rfl rfl (by kernel_rfl) ar_zero) (ar 68 (ar_upd (.lit .i64 0) (.lit .i64 1) (i := (0 : Int)) (v := (1 : Int)) rfl rfl (by kernel_rfl) ar_zero) (asg_nil rfl))))))))))))), fun G => by kernel_rfl⟩, (show o15 = S1.ρ 15 + 1 by omega), RowIs.one (isC_of 5 ⟨rfl, rfl, rfl⟩) hk h_o16 (fun _ => rfl) (fun _ => rfl) (fun _ => rfl), (Stay.refl [15, 16] [66, 67, 68] _).set rfl rfl⟩
  · have c0 : S1.ρ 15 < S1.ρ 11 := by omega
    have d0 : wXH56_0.den S1 = some [b2i true] := tr (p := S1.ρ 15 < S1.ρ 11) c0
    have c1 : ¬ (S1.ρ 15 < (0 : Int)) := by omega
    have d1 : wXH56_1.den S1 = some [b2i true] := tr (p := (0 : Int) ≤ S1.ρ 15) (Int.not_lt.1 c1)
    obtain ⟨o16, h_o16⟩ : ∃ o : Int, o = (1 : Int) := ⟨_, rfl⟩
    obtain ⟨o15, h_o15⟩ : ∃ o : Int, o = (IntKind.i64.wrap (S1.ρ 15 + (1 : Int))) := ⟨_, rfl⟩
    have u := h_o15
    rw [w_i64 (by omega) (by omega)] at u
    exact ⟨S1.set (upd S1.ρ [(16, o16), (15, o15)]) [(66, (fun j => ifE j ((0 : Int)) ((56 : Int)) ((fun _ => 0) j))), (67, (fun j => ifE j ((0 : Int)) ((8 : Int)) ((fun _ => 0) j))), (68, (fun j => ifE j ((0 : Int)) ((1 : Int)) ((fun _ => 0) j)))] 50 rfl hK, ⟨_, [], _, 1000, _, [(5, 8)], (ai wXH56_1 true d1 (ai wXH56_0 true d0 (ain (sqW 31 15) .i64 56 (sm hk) (AlOk.nil _)))), hcs, LkOk.no _ _ _ _, (an 16 (.lit .i64 1) (sm h_o16.symm) (av 11 .i64 (av 11 .i64 (an 15 (.bin .add (.var .i64 15) (.lit .i64 1)) (sm h_o15.symm) (av 8 .i64 (ar 60 (ar_var 60) (ar 61 (ar_var 61) (ar 62 (ar_var 62) (an 16 (.lit .i64 1) (sm h_o16.symm) (ar 66 (ar_upd (.lit .i64 0) (.lit .i64 56) (i := (0 : Int)) (v := (56 : Int)) rfl rfl (by kernel_rfl) ar_zero) (ar 67 (ar_upd (.lit .i64 0) (.lit .i64 8) (i := (0 : Int)) (v := (8 : Int)) rfl rfl (by kernel_rfl) ar_zero) (ar 68 (ar_upd (.lit .i64 0) (.lit .i64 1) (i := (0 : Int)) (v := (1 : Int)) rfl rfl (by kernel_rfl) ar_zero) (asg_nil rfl))))))))))))), fun G => by kernel_rfl⟩, (show o15 = S1.ρ 15 + 1 by omega), RowIs.one (isC_of 6 ⟨rfl, rfl, rfl⟩) hk h_o16 (fun _ => rfl) (fun _ => rfl) (fun _ => rfl), (Stay.refl [15, 16] [66, 67, 68] _).set rfl rfl⟩
  · have c0 : S1.ρ 15 < S1.ρ 11 := by omega
    have d0 : wXH64_0.den S1 = some [b2i true] := tr (p := S1.ρ 15 < S1.ρ 11) c0
    have c1 : ¬ (S1.ρ 15 < (0 : Int)) := by omega
    have d1 : wXH64_1.den S1 = some [b2i true] := tr (p := (0 : Int) ≤ S1.ρ 15) (Int.not_lt.1 c1)
    obtain ⟨o16, h_o16⟩ : ∃ o : Int, o = (1 : Int) := ⟨_, rfl⟩
    obtain ⟨o15, h_o15⟩ : ∃ o : Int, o = (IntKind.i64.wrap (S1.ρ 15 + (1 : Int))) := ⟨_, rfl⟩
    have u := h_o15
    rw [w_i64 (by omega) (by omega)] at u
    exact ⟨S1.set (upd S1.ρ [(16, o16), (15, o15)]) [(66, (fun j => ifE j ((0 : Int)) ((64 : Int)) ((fun _ => 0) j))), (67, (fun j => ifE j ((0 : Int)) ((64 : Int)) ((fun _ => 0) j))), (68, (fun j => ifE j ((0 : Int)) ((1 : Int)) ((fun _ => 0) j)))] 50 rfl hK, ⟨_, [], _, 1000, _, [(5, 8)], (ai wXH64_1 true d1 (ai wXH64_0 true d0 (ain (sqW 31 15) .i64 64 (sm hk) (AlOk.nil _)))), hcs, LkOk.no _ _ _ _, (an 16 (.lit .i64 1) (sm h_o16.symm) (av 11 .i64 (av 11 .i64 (an 15 (.bin .add (.var .i64 15) (.lit .i64 1)) (sm h_o15.symm) (av 8 .i64 (ar 60 (ar_var 60) (ar 61 (ar_var 61) (ar 62 (ar_var 62) (an 16 (.lit .i64 1) (sm h_o16.symm) (ar 66 (ar_upd (.lit .i64 0) (.lit .i64 64) (i := (0 : Int)) (v := (64 : Int)) rfl rfl (by kernel_rfl) ar_zero) (ar 67 (ar_upd (.lit .i64 0) (.lit .i64 64) (i := (0 : Int)) (v := (64 : Int)) rfl rfl (by kernel_rfl) ar_zero) (ar 68 (ar_upd (.lit .i64 0) (.lit .i64 1) (i := (0 : Int)) (v := (1 : Int)) rfl rfl (by kernel_rfl) ar_zero) (asg_nil rfl))))))))))))), fun G => by kernel_rfl⟩, (show o15 = S1.ρ 15 + 1 by omega), RowIs.one (isC_of 7 ⟨rfl, rfl, rfl⟩) hk h_o16 (fun _ => rfl) (fun _ => rfl) (fun _ => rfl), (Stay.refl [15, 16] [66, 67, 68] _).set rfl rfl⟩
def wYH0 : Tm := (.bin .lss (.var .i64 15) (.var .i64 11))
def wYH1 : Tm := (.bin .geq (.var .i64 15) (.lit .i64 0))
def wYH2 : Tm := (.bin .geq (.app .i64 31 (.cons (.var .i64 15) .nil)) (.lit .i64 8))
def wYH3 : Tm := (.bin .leq (.app .i64 31 (.cons (.var .i64 15) .nil)) (.lit .i64 64))
def wYH4 : Tm := (.bin .eql (.bin .rem (.app .i64 31 (.cons (.var .i64 15) .nil)) (.lit .i64 8)) (.lit .i64 0))
def wTH8_0 : Tm := (.bin .lss (.var .i64 15) (.var .i64 11))
def wTH8_1 : Tm := (.bin .geq (.var .i64 15) (.lit .i64 0))
def wTH8_2 : Tm := (.bin .geq (.var .i64 16) (.lit .i64 0))
def wTH8_3 : Tm := (.bin .lss (.var .i64 16) (.lit .i64 4194304))
def wTH8_4 : Tm := (.bin .lss (.bin .add (.var .i64 16) (.lit .i64 1)) (.lit .i64 4194304))
def wTH16_0 : Tm := (.bin .lss (.var .i64 15) (.var .i64 11))
def wTH16_1 : Tm := (.bin .geq (.var .i64 15) (.lit .i64 0))
def wTH16_2 : Tm := (.bin .geq (.var .i64 16) (.lit .i64 0))
def wTH16_3 : Tm := (.bin .lss (.var .i64 16) (.lit .i64 4194304))
def wTH16_4 : Tm := (.bin .lss (.bin .add (.var .i64 16) (.lit .i64 1)) (.lit .i64 4194304))
def wTH24_0 : Tm := (.bin .lss (.var .i64 15) (.var .i64 11))
def wTH24_1 : Tm := (.bin .geq (.var .i64 15) (.lit .i64 0))
def wTH24_2 : Tm := (.bin .geq (.var .i64 16) (.lit .i64 0))
def wTH24_3 : Tm := (.bin .lss (.var .i64 16) (.lit .i64 4194304))
def wTH24_4 : Tm := (.bin .lss (.bin .add (.var .i64 16) (.lit .i64 1)) (.lit .i64 4194304))
def wTH32_0 : Tm := (.bin .lss (.var .i64 15) (.var .i64 11))
def wTH32_1 : Tm := (.bin .geq (.var .i64 15) (.lit .i64 0))
def wTH32_2 : Tm := (.bin .geq (.var .i64 16) (.lit .i64 0))
def wTH32_3 : Tm := (.bin .lss (.var .i64 16) (.lit .i64 4194304))
def wTH32_4 : Tm := (.bin .lss (.bin .add (.var .i64 16) (.lit .i64 1)) (.lit .i64 4194304))
def wTH40_0 : Tm := (.bin .lss (.var .i64 15) (.var .i64 11))
def wTH40_1 : Tm := (.bin .geq (.var .i64 15) (.lit .i64 0))
def wTH40_2 : Tm := (.bin .geq (.var .i64 16) (.lit .i64 0))
def wTH40_3 : Tm := (.bin .lss (.var .i64 16) (.lit .i64 4194304))
def wTH40_4 : Tm := (.bin .lss (.bin .add (.var .i64 16) (.lit .i64 1)) (.lit .i64 4194304))
def wTH48_0 : Tm := (.bin .lss (.var .i64 15) (.var .i64 11))
def wTH48_1 : Tm := (.bin .geq (.var .i64 15) (.lit .i64 0))
def wTH48_2 : Tm := (.bin .geq (.var .i64 16) (.lit .i64 0))
def wTH48_3 : Tm := (.bin .lss (.var .i64 16) (.lit .i64 4194304))
def wTH48_4 : Tm := (.bin .lss (.bin .add (.var .i64 16) (.lit .i64 1)) (.lit .i64 4194304))
def wTH56_0 : Tm := (.bin .lss (.var .i64 15) (.var .i64 11))
def wTH56_1 : Tm := (.bin .geq (.var .i64 15) (.lit .i64 0))
def wTH56_2 : Tm := (.bin .geq (.var .i64 16) (.lit .i64 0))
def wTH56_3 : Tm := (.bin .lss (.var .i64 16) (.lit .i64 4194304))
def wTH56_4 : Tm := (.bin .lss (.bin .add (.var .i64 16) (.lit .i64 1)) (.lit .i64 4194304))
def wTH64_0 : Tm := (.bin .lss (.var .i64 15) (.var .i64 11))
def wTH64_1 : Tm := (.bin .geq (.var .i64 15) (.lit .i64 0))
def wTH64_2 : Tm := (.bin .geq (.var .i64 16) (.lit .i64 0))
def wTH64_3 : Tm := (.bin .lss (.var .i64 16) (.lit .i64 4194304))
def wTH64_4 : Tm := (.bin .lss (.bin .add (.var .i64 16) (.lit .i64 1)) (.lit .i64 4194304))
theorem rowH {S1 : Sy} {l : List Int} (h0 : 0 ≤ S1.ρ 15) (h1 : S1.ρ 15 < S1.ρ 11) (h2 : S1.ρ 11 ≤ 4096) (h3 : l.length ≤ 4096) (hr : RowIs S1 16 66 l) (hK : ∀ x ∈ S1.I, x.f + x.ks.length ≤ 50) :
    ∃ S2, StepTo Try.prog ftW ΛW [] (cAt Try.prog lpWM) XH1W FHrW 5 S1 S2 ∧ S2.ρ 15 = S1.ρ 15 + 1 ∧ RowIs S2 16 66 (if okS (S1.Φ 31 [S1.ρ 15]) then l ++ [S1.Φ 31 [S1.ρ 15]] else l) ∧ Stay [15, 16] [66, 67, 68] S1 S2 := by
  have hcs : ∀ c ∈ ([] : List Ctr), CtrOk Try.prog S1 [] c := fun c hc => by simp at hc
  have h4 := hr.1
  by_cases hv : okS (S1.Φ 31 [S1.ρ 15])
  · rcases okS_cases hv with hk | hk | hk | hk | hk | hk | hk | hk
    · have c0 : S1.ρ 15 < S1.ρ 11 := by omega
      have d0 : wTH8_0.den S1 = some [b2i true] := tr (p := S1.ρ 15 < S1.ρ 11) c0
      have c1 : ¬ (S1.ρ 15 < (0 : Int)) := by omega
      have d1 : wTH8_1.den S1 = some [b2i true] := tr (p := (0 : Int) ≤ S1.ρ 15) (Int.not_lt.1 c1)
      have c2 : ¬ (S1.ρ 16 < (0 : Int)) := by omega
      have d2 : wTH8_2.den S1 = some [b2i true] := tr (p := (0 : Int) ≤ S1.ρ 16) (Int.not_lt.1 c2)
      have c3 : S1.ρ 16 < (4194304 : Int) := by omega
      have d3 : wTH8_3.den S1 = some [b2i true] := tr (p := S1.ρ 16 < (4194304 : Int)) c3
      have c4 : (IntKind.i64.wrap (S1.ρ 16 + (1 : Int))) < (4194304 : Int) := by rw [w_i64 (by omega) (by omega)]; omega
      have d4 : wTH8_4.den S1 = some [b2i true] := tr (p := (IntKind.i64.wrap (S1.ρ 16 + (1 : Int))) < (4194304 : Int)) c4
      obtain ⟨o16, h_o16⟩ : ∃ o : Int, o = (IntKind.i64.wrap (S1.ρ 16 + (1 : Int))) := ⟨_, rfl⟩
      obtain ⟨o15, h_o15⟩ : ∃ o : Int, o = (IntKind.i64.wrap (S1.ρ 15 + (1 : Int))) := ⟨_, rfl⟩
      have u := h_o15
      rw [w_i64 (by omega) (by omega)] at u
      have u2 := h_o16
      rw [w_i64 (by omega) (by omega)] at u2
      refine ⟨S1.set (upd S1.ρ [(16, o16), (15, o15)]) [(66, (fun j => ifE j (S1.ρ 16) ((8 : Int)) ((fun j => S1.Φ 66 [j]) j))), (67, (fun j => ifE j (S1.ρ 16) ((8 : Int)) ((fun j => S1.Φ 67 [j]) j))), (68, (fun j => ifE j (S1.ρ 16) ((8 : Int)) ((fun j => S1.Φ 68 [j]) j)))] 50 rfl hK, ⟨_, [], _, 1000, _, [(5, 8)], (ai wTH8_4 true d4 (ai wTH8_3 true d3 (ai wTH8_2 true d2 (ai wTH8_1 true d1 (ai wTH8_0 true d0 (ain (sqW 31 15) .i64 8 (sm hk) (AlOk.nil _))))))), hcs, LkOk.no _ _ _ _, (an 16 (.bin .add (.var .i64 16) (.lit .i64 1)) (sm h_o16.symm) (av 11 .i64 (av 11 .i64 (an 15 (.bin .add (.var .i64 15) (.lit .i64 1)) (sm h_o15.symm) (av 8 .i64 (ar 60 (ar_var 60) (ar 61 (ar_var 61) (ar 62 (ar_var 62) (an 16 (.bin .add (.var .i64 16) (.lit .i64 1)) (sm h_o16.symm) (ar 66 (ar_upd (.var .i64 16) (.lit .i64 8) (i := S1.ρ 16) (v := (8 : Int)) rfl rfl (by kernel_rfl) (ar_var 66)) (ar 67 (ar_upd (.var .i64 16) (.lit .i64 8) (i := S1.ρ 16) (v := (8 : Int)) rfl rfl (by kernel_rfl) (ar_var 67)) (ar 68 (ar_upd (.var .i64 16) (.lit .i64 8) (i := S1.ρ 16) (v := (8 : Int)) rfl rfl (by kernel_rfl) (ar_var 68)) (asg_nil rfl))))))))))))), fun G => by kernel_rfl⟩, (show o15 = S1.ρ 15 + 1 by omega), ?_, (Stay.refl [15, 16] [66, 67, 68] _).set rfl rfl⟩
      rw [if_pos hv]
      exact hr.upd (isC_of 0 ⟨rfl, rfl, rfl⟩) hk (show o16 = S1.ρ 16 + 1 by omega) (fun _ => rfl) (fun _ => rfl) (fun _ => rfl)
    · have c0 : S1.ρ 15 < S1.ρ 11 := by omega
      have d0 : wTH16_0.den S1 = some [b2i true] := tr (p := S1.ρ 15 < S1.ρ 11) c0
      have c1 : ¬ (S1.ρ 15 < (0 : Int)) := by omega
      have d1 : wTH16_1.den S1 = some [b2i true] := tr (p := (0 : Int) ≤ S1.ρ 15) (Int.not_lt.1 c1)
      have c2 : ¬ (S1.ρ 16 < (0 : Int)) := by omega
      have d2 : wTH16_2.den S1 = some [b2i true] := tr (p := (0 : Int) ≤ S1.ρ 16) (Int.not_lt.1 c2)
      have c3 : S1.ρ 16 < (4194304 : Int) := by omega
      have d3 : wTH16_3.den S1 = some [b2i true] := tr (p := S1.ρ 16 < (4194304 : Int)) c3
      have c4 : (IntKind.i64.wrap (S1.ρ 16 + (1 : Int))) < (4194304 : Int) := by rw [w_i64 (by omega) (by omega)]; omega
      have d4 : wTH16_4.den S1 = some [b2i true] := tr (p := (IntKind.i64.wrap (S1.ρ 16 + (1 : Int))) < (4194304 : Int)) c4
      obtain ⟨o16, h_o16⟩ : ∃ o : Int, o = (IntKind.i64.wrap (S1.ρ 16 + (1 : Int))) := ⟨_, rfl⟩
      obtain ⟨o15, h_o15⟩ : ∃ o : Int, o = (IntKind.i64.wrap (S1.ρ 15 + (1 : Int))) := ⟨_, rfl⟩
      have u := h_o15
      rw [w_i64 (by omega) (by omega)] at u
      have u2 := h_o16
      rw [w_i64 (by omega) (by omega)] at u2
      refine ⟨S1.set (upd S1.ρ [(16, o16), (15, o15)]) [(66, (fun j => ifE j (S1.ρ 16) ((16 : Int)) ((fun j => S1.Φ 66 [j]) j))), (67, (fun j => ifE j (S1.ρ 16) ((16 : Int)) ((fun j => S1.Φ 67 [j]) j))), (68, (fun j => ifE j (S1.ρ 16) ((4 : Int)) ((fun j => S1.Φ 68 [j]) j)))] 50 rfl hK, ⟨_, [], _, 1000, _, [(5, 8)], (ai wTH16_4 true d4 (ai wTH16_3 true d3 (ai wTH16_2 true d2 (ai wTH16_1 true d1 (ai wTH16_0 true d0 (ain (sqW 31 15) .i64 16 (sm hk) (AlOk.nil _))))))), hcs, LkOk.no _ _ _ _, (an 16 (.bin .add (.var .i64 16) (.lit .i64 1)) (sm h_o16.symm) (av 11 .i64 (av 11 .i64 (an 15 (.bin .add (.var .i64 15) (.lit .i64 1)) (sm h_o15.symm) (av 8 .i64 (ar 60 (ar_var 60) (ar 61 (ar_var 61) (ar 62 (ar_var 62) (an 16 (.bin .add (.var .i64 16) (.lit .i64 1)) (sm h_o16.symm) (ar 66 (ar_upd (.var .i64 16) (.lit .i64 16) (i := S1.ρ 16) (v := (16 : Int)) rfl rfl (by kernel_rfl) (ar_var 66)) (ar 67 (ar_upd (.var .i64 16) (.lit .i64 16) (i := S1.ρ 16) (v := (16 : Int)) rfl rfl (by kernel_rfl) (ar_var 67)) (ar 68 (ar_upd (.var .i64 16) (.lit .i64 4) (i := S1.ρ 16) (v := (4 : Int)) rfl rfl (by kernel_rfl) (ar_var 68)) (asg_nil rfl))))))))))))), fun G => by kernel_rfl⟩, (show o15 = S1.ρ 15 + 1 by omega), ?_, (Stay.refl [15, 16] [66, 67, 68] _).set rfl rfl⟩
      rw [if_pos hv]
      exact hr.upd (isC_of 1 ⟨rfl, rfl, rfl⟩) hk (show o16 = S1.ρ 16 + 1 by omega) (fun _ => rfl) (fun _ => rfl) (fun _ => rfl)
    · have c0 : S1.ρ 15 < S1.ρ 11 := by omega
      have d0 : wTH24_0.den S1 = some [b2i true] := tr (p := S1.ρ 15 < S1.ρ 11) c0
      have c1 : ¬ (S1.ρ 15 < (0 : Int)) := by omega
      have d1 : wTH24_1.den S1 = some [b2i true] := tr (p := (0 : Int) ≤ S1.ρ 15) (Int.not_lt.1 c1)
      have c2 : ¬ (S1.ρ 16 < (0 : Int)) := by omega
      have d2 : wTH24_2.den S1 = some [b2i true] := tr (p := (0 : Int) ≤ S1.ρ 16) (Int.not_lt.1 c2)
      have c3 : S1.ρ 16 < (4194304 : Int) := by omega
      have d3 : wTH24_3.den S1 = some [b2i true] := tr (p := S1.ρ 16 < (4194304 : Int)) c3
      have c4 : (IntKind.i64.wrap (S1.ρ 16 + (1 : Int))) < (4194304 : Int) := by rw [w_i64 (by omega) (by omega)]; omega
      have d4 : wTH24_4.den S1 = some [b2i true] := tr (p := (IntKind.i64.wrap (S1.ρ 16 + (1 : Int))) < (4194304 : Int)) c4
      obtain ⟨o16, h_o16⟩ : ∃ o : Int, o = (IntKind.i64.wrap (S1.ρ 16 + (1 : Int))) := ⟨_, rfl⟩
      obtain ⟨o15, h_o15⟩ : ∃ o : Int, o = (IntKind.i64.wrap (S1.ρ 15 + (1 : Int))) := ⟨_, rfl⟩
      have u := h_o15
      rw [w_i64 (by omega) (by omega)] at u
      have u2 := h_o16
      rw [w_i64 (by omega) (by omega)] at u2
      refine ⟨S1.set (upd S1.ρ [(16, o16), (15, o15)]) [(66, (fun j => ifE j (S1.ρ 16) ((24 : Int)) ((fun j => S1.Φ 66 [j]) j))), (67, (fun j => ifE j (S1.ρ 16) ((8 : Int)) ((fun j => S1.Φ 67 [j]) j))), (68, (fun j => ifE j (S1.ρ 16) ((2 : Int)) ((fun j => S1.Φ 68 [j]) j)))] 50 rfl hK, ⟨_, [], _, 1000, _, [(5, 8)], (ai wTH24_4 true d4 (ai wTH24_3 true d3 (ai wTH24_2 true d2 (ai wTH24_1 true d1 (ai wTH24_0 true d0 (ain (sqW 31 15) .i64 24 (sm hk) (AlOk.nil _))))))), hcs, LkOk.no _ _ _ _, (an 16 (.bin .add (.var .i64 16) (.lit .i64 1)) (sm h_o16.symm) (av 11 .i64 (av 11 .i64 (an 15 (.bin .add (.var .i64 15) (.lit .i64 1)) (sm h_o15.symm) (av 8 .i64 (ar 60 (ar_var 60) (ar 61 (ar_var 61) (ar 62 (ar_var 62) (an 16 (.bin .add (.var .i64 16) (.lit .i64 1)) (sm h_o16.symm) (ar 66 (ar_upd (.var .i64 16) (.lit .i64 24) (i := S1.ρ 16) (v := (24 : Int)) rfl rfl (by kernel_rfl) (ar_var 66)) (ar 67 (ar_upd (.var .i64 16) (.lit .i64 8) (i := S1.ρ 16) (v := (8 : Int)) rfl rfl (by kernel_rfl) (ar_var 67)) (ar 68 (ar_upd (.var .i64 16) (.lit .i64 2) (i := S1.ρ 16) (v := (2 : Int)) rfl rfl (by kernel_rfl) (ar_var 68)) (asg_nil rfl))))))))))))), fun G => by kernel_rfl⟩, (show o15 = S1.ρ 15 + 1 by omega), ?_, (Stay.refl [15, 16] [66, 67, 68] _).set rfl rfl⟩
      rw [if_pos hv]
      exact hr.upd (isC_of 2 ⟨rfl, rfl, rfl⟩) hk (show o16 = S1.ρ 16 + 1 by omega) (fun _ => rfl) (fun _ => rfl) (fun _ => rfl)
    · have c0 : S1.ρ 15 < S1.ρ 11 := by omega
      have d0 : wTH32_0.den S1 = some [b2i true] := tr (p := S1.ρ 15 < S1.ρ 11) c0
      have c1 : ¬ (S1.ρ 15 < (0 : Int)) := by omega
      have d1 : wTH32_1.den S1 = some [b2i true] := tr (p := (0 : Int) ≤ S1.ρ 15) (Int.not_lt.1 c1)
      have c2 : ¬ (S1.ρ 16 < (0 : Int)) := by omega
      have d2 : wTH32_2.den S1 = some [b2i true] := tr (p := (0 : Int) ≤ S1.ρ 16) (Int.not_lt.1 c2)
      have c3 : S1.ρ 16 < (4194304 : Int) := by omega
      have d3 : wTH32_3.den S1 = some [b2i true] := tr (p := S1.ρ 16 < (4194304 : Int)) c3
      have c4 : (IntKind.i64.wrap (S1.ρ 16 + (1 : Int))) < (4194304 : Int) := by rw [w_i64 (by omega) (by omega)]; omega
      have d4 : wTH32_4.den S1 = some [b2i true] := tr (p := (IntKind.i64.wrap (S1.ρ 16 + (1 : Int))) < (4194304 : Int)) c4
      obtain ⟨o16, h_o16⟩ : ∃ o : Int, o = (IntKind.i64.wrap (S1.ρ 16 + (1 : Int))) := ⟨_, rfl⟩
      obtain ⟨o15, h_o15⟩ : ∃ o : Int, o = (IntKind.i64.wrap (S1.ρ 15 + (1 : Int))) := ⟨_, rfl⟩
      have u := h_o15
      rw [w_i64 (by omega) (by omega)] at u
      have u2 := h_o16
      rw [w_i64 (by omega) (by omega)] at u2
      refine ⟨S1.set (upd S1.ρ [(16, o16), (15, o15)]) [(66, (fun j => ifE j (S1.ρ 16) ((32 : Int)) ((fun j => S1.Φ 66 [j]) j))), (67, (fun j => ifE j (S1.ρ 16) ((32 : Int)) ((fun j => S1.Φ 67 [j]) j))), (68, (fun j => ifE j (S1.ρ 16) ((2 : Int)) ((fun j => S1.Φ 68 [j]) j)))] 50 rfl hK, ⟨_, [], _, 1000, _, [(5, 8)], (ai wTH32_4 true d4 (ai wTH32_3 true d3 (ai wTH32_2 true d2 (ai wTH32_1 true d1 (ai wTH32_0 true d0 (ain (sqW 31 15) .i64 32 (sm hk) (AlOk.nil _))))))), hcs, LkOk.no _ _ _ _, (an 16 (.bin .add (.var .i64 16) (.lit .i64 1)) (sm h_o16.symm) (av 11 .i64 (av 11 .i64 (an 15 (.bin .add (.var .i64 15) (.lit .i64 1)) (sm h_o15.symm) (av 8 .i64 (ar 60 (ar_var 60) (ar 61 (ar_var 61) (ar 62 (ar_var 62) (an 16 (.bin .add (.var .i64 16) (.lit .i64 1)) (sm h_o16.symm) (ar 66 (ar_upd (.var .i64 16) (.lit .i64 32) (i := S1.ρ 16) (v := (32 : Int)) rfl rfl (by kernel_rfl) (ar_var 66)) (ar 67 (ar_upd (.var .i64 16) (.lit .i64 32) (i := S1.ρ 16) (v := (32 : Int)) rfl rfl (by kernel_rfl) (ar_var 67)) (ar 68 (ar_upd (.var .i64 16) (.lit .i64 2) (i := S1.ρ 16) (v := (2 : Int)) rfl rfl (by kernel_rfl) (ar_var 68)) (asg_nil rfl))))))))))))), fun G => by kernel_rfl⟩, (show o15 = S1.ρ 15 + 1 by omega), ?_, (Stay.refl [15, 16] [66, 67, 68] _).set rfl rfl⟩
      rw [if_pos hv]
      exact hr.upd (isC_of 3 ⟨rfl, rfl, rfl⟩) hk (show o16 = S1.ρ 16 + 1 by omega) (fun _ => rfl) (fun _ => rfl) (fun _ => rfl)
    · have c0 : S1.ρ 15 < S1.ρ 11 := by omega
      have d0 : wTH40_0.den S1 = some [b2i true] := tr (p := S1.ρ 15 < S1.ρ 11) c0
      have c1 : ¬ (S1.ρ 15 < (0 : Int)) := by omega
      have d1 : wTH40_1.den S1 = some [b2i true] := tr (p := (0 : Int) ≤ S1.ρ 15) (Int.not_lt.1 c1)
      have c2 : ¬ (S1.ρ 16 < (0 : Int)) := by omega
      have d2 : wTH40_2.den S1 = some [b2i true] := tr (p := (0 : Int) ≤ S1.ρ 16) (Int.not_lt.1 c2)
      have c3 : S1.ρ 16 < (4194304 : Int) := by omega
      have d3 : wTH40_3.den S1 = some [b2i true] := tr (p := S1.ρ 16 < (4194304 : Int)) c3
      have c4 : (IntKind.i64.wrap (S1.ρ 16 + (1 : Int))) < (4194304 : Int) := by rw [w_i64 (by omega) (by omega)]; omega
      have d4 : wTH40_4.den S1 = some [b2i true] := tr (p := (IntKind.i64.wrap (S1.ρ 16 + (1 : Int))) < (4194304 : Int)) c4
      obtain ⟨o16, h_o16⟩ : ∃ o : Int, o = (IntKind.i64.wrap (S1.ρ 16 + (1 : Int))) := ⟨_, rfl⟩
      obtain ⟨o15, h_o15⟩ : ∃ o : Int, o = (IntKind.i64.wrap (S1.ρ 15 + (1 : Int))) := ⟨_, rfl⟩
      have u := h_o15
      rw [w_i64 (by omega) (by omega)] at u
      have u2 := h_o16
      rw [w_i64 (by omega) (by omega)] at u2
      refine ⟨S1.set (upd S1.ρ [(16, o16), (15, o15)]) [(66, (fun j => ifE j (S1.ρ 16) ((40 : Int)) ((fun j => S1.Φ 66 [j]) j))), (67, (fun j => ifE j (S1.ρ 16) ((8 : Int)) ((fun j => S1.Φ 67 [j]) j))), (68, (fun j => ifE j (S1.ρ 16) ((1 : Int)) ((fun j => S1.Φ 68 [j]) j)))] 50 rfl hK, ⟨_, [], _, 1000, _, [(5, 8)], (ai wTH40_4 true d4 (ai wTH40_3 true d3 (ai wTH40_2 true d2 (ai wTH40_1 true d1 (ai wTH40_0 true d0 (ain (sqW 31 15) .i64 40 (sm hk) (AlOk.nil _))))))), hcs, LkOk.no _ _ _ _, (an 16 (.bin .add (.var .i64 16) (.lit .i64 1)) (sm h_o16.symm) (av 11 .i64 (av 11 .i64 (an 15 (.bin .add (.var .i64 15) (.lit .i64 1)) (sm h_o15.symm) (av 8 .i64 (ar 60 (ar_var 60) (ar 61 (ar_var 61) (ar 62 (ar_var 62) (an 16 (.bin .add (.var .i64 16) (.lit .i64 1)) (sm h_o16.symm) (ar 66 (ar_upd (.var .i64 16) (.lit .i64 40) (i := S1.ρ 16) (v := (40 : Int)) rfl rfl (by kernel_rfl) (ar_var 66)) (ar 67 (ar_upd (.var .i64 16) (.lit .i64 8) (i := S1.ρ 16) (v := (8 : Int)) rfl rfl (by kernel_rfl) (ar_var 67)) (ar 68 (ar_upd (.var .i64 16) (.lit .i64 1) (i := S1.ρ 16) (v := (1 : Int)) rfl rfl (by kernel_rfl) (ar_var 68)) (asg_nil rfl))))))))))))), fun G => by kernel_rfl⟩, (show o15 = S1.ρ 15 + 1 by omega), ?_, (Stay.refl [15, 16] [66, 67, 68] _).set rfl rfl⟩
      rw [if_pos hv]
      exact hr.upd (isC_of 4 ⟨rfl, rfl, rfl⟩) hk (show o16 = S1.ρ 16 + 1 by omega) (fun _ => rfl) (fun _ => rfl) (fun _ => rfl)
    · have c0 : S1.ρ 15 < S1.ρ 11 := by omega
      have d0 : wTH48_0.den S1 = some [b2i true] := tr (p := S1.ρ 15 < S1.ρ 11) c0
      have c1 : ¬ (S1.ρ 15 < (0 : Int)) := by omega
      have d1 : wTH48_1.den S1 = some [b2i true] := tr (p := (0 : Int) ≤ S1.ρ 15) (Int.not_lt.1 c1)
      have c2 : ¬ (S1.ρ 16 < (0 : Int)) := by omega
      have d2 : wTH48_2.den S1 = some [b2i true] := tr (p := (0 : Int) ≤ S1.ρ 16) (Int.not_lt.1 c2)
      have c3 : S1.ρ 16 < (4194304 : Int) := by omega
      have d3 : wTH48_3.den S1 = some [b2i true] := tr (p := S1.ρ 16 < (4194304 : Int)) c3
      have c4 : (IntKind.i64.wrap (S1.ρ 16 + (1 : Int))) < (4194304 : Int) := by rw [w_i64 (by omega) (by omega)]; omega
      have d4 : wTH48_4.den S1 = some [b2i true] := tr (p := (IntKind.i64.wrap (S1.ρ 16 + (1 : Int))) < (4194304 : Int)) c4
      obtain ⟨o16, h_o16⟩ : ∃ o : Int, o = (IntKind.i64.wrap (S1.ρ 16 + (1 : Int))) := ⟨_, rfl⟩
      obtain ⟨o15, h_o15⟩ : ∃ o : Int, o = (IntKind.i64.wrap (S1.ρ 15 + (1 : Int))) := ⟨_, rfl⟩
      have u := h_o15
      rw [w_i64 (by omega) (by omega)] at u
      have u2 := h_o16
      rw [w_i64 (by omega) (by omega)] at u2
      refine ⟨S1.set (upd S1.ρ [(16, o16), (15, o15)]) [(66, (fun j => ifE j (S1.ρ 16) ((48 : Int)) ((fun j => S1.Φ 66 [j]) j))), (67, (fun j => ifE j (S1.ρ 16) ((16 : Int)) ((fun j => S1.Φ 67 [j]) j))), (68, (fun j => ifE j (S1.ρ 16) ((1 : Int)) ((fun j => S1.Φ 68 [j]) j)))] 50 rfl hK, ⟨_, [], _, 1000, _, [(5, 8)], (ai wTH48_4 true d4 (ai wTH48_3 true d3 (ai wTH48_2 true d2 (ai wTH48_1 true d1 (ai wTH48_0 true d0 (ain (sqW 31 15) .i64 48 (sm hk) (AlOk.nil _))))))), hcs, LkOk.no _ _ _ _, (an 16 (.bin .add (.var .i64 16) (.lit .i64 1)) (sm h_o16.symm) (av 11 .i64 (av 11 .i64 (an 15 (.bin .add (.var .i64 15) (.lit .i64 1)) (sm h_o15.symm) (av 8 .i64 (ar 60 (ar_var 60) (ar 61 (ar_var 61) (ar 62 (ar_var 62) (an 16 (.bin .add (.var .i64 16) (.lit .i64 1)) (sm h_o16.symm) (ar 66 (ar_upd (.var .i64 16) (.lit .i64 48) (i := S1.ρ 16) (v := (48 : Int)) rfl rfl (by kernel_rfl) (ar_var 66)) (ar 67 (ar_upd (.var .i64 16) (.lit .i64 16) (i := S1.ρ 16) (v := (16 : Int)) rfl rfl (by kernel_rfl) (ar_var 67)) (ar 68 (ar_upd (.var .i64 16) (.lit .i64 1) (i := S1.ρ 16) (v := (1 : Int)) rfl rfl (by kernel_rfl) (ar_var 68)) (asg_nil rfl))))))))))))), fun G => by kernel_rfl⟩, (show o15 = S1.ρ 15 + 1 by omega), ?_, (Stay.refl [15, 16] [66, 67, 68] _).set rfl rfl⟩
      rw [if_pos hv]
      exact hr.upd (isC_of 5 ⟨rfl, rfl, rfl⟩) hk (show o16 = S1.ρ 16 + 1 by omega) (fun _ => rfl) (fun _ => rfl) (fun _ => rfl)
    · have c0 : S1.ρ 15 < S1.ρ 11 := by omega
      have d0 : wTH56_0.den S1 = some [b2i true] := tr (p := S1.ρ 15 < S1.ρ 11) c0
      have c1 : ¬ (S1.ρ 15 < (0 : Int)) := by omega
      have d1 : wTH56_1.den S1 = some [b2i true] := tr (p := (0 : Int) ≤ S1.ρ 15) (Int.not_lt.1 c1)
      have c2 : ¬ (S1.ρ 16 < (0 : Int)) := by omega
      have d2 : wTH56_2.den S1 = some [b2i true] := tr (p := (0 : Int) ≤ S1.ρ 16) (Int.not_lt.1 c2)
      have c3 : S1.ρ 16 < (4194304 : Int) := by omega
      have d3 : wTH56_3.den S1 = some [b2i true] := tr (p := S1.ρ 16 < (4194304 : Int)) c3
      have c4 : (IntKind.i64.wrap (S1.ρ 16 + (1 : Int))) < (4194304 : Int) := by rw [w_i64 (by omega) (by omega)]; omega
      have d4 : wTH56_4.den S1 = some [b2i true] := tr (p := (IntKind.i64.wrap (S1.ρ 16 + (1 : Int))) < (4194304 : Int)) c4
      obtain ⟨o16, h_o16⟩ : ∃ o : Int, o = (IntKind.i64.wrap (S1.ρ 16 + (1 : Int))) := ⟨_, rfl⟩
      obtain ⟨o15, h_o15⟩ : ∃ o : Int, o = (IntKind.i64.wrap (S1.ρ 15 + (1 : Int))) := ⟨_, rfl⟩
      have u := h_o15
      rw [w_i64 (by omega) (by omega)] at u
      have u2 := h_o16
      rw [w_i64 (by omega) (by omega)] at u2
      refine ⟨S1.set (upd S1.ρ [(16, o16), (15, o15)]) [(66, (fun j => ifE j (S1.ρ 16) ((56 : Int)) ((fun j => S1.Φ 66 [j]) j))), (67, (fun j => ifE j (S1.ρ 16) ((8 : Int)) ((fun j => S1.Φ 67 [j]) j))), (68, (fun j => ifE j (S1.ρ 16) ((1 : Int)) ((fun j => S1.Φ 68 [j]) j)))] 50 rfl hK, ⟨_, [], _, 1000, _, [(5, 8)], (ai wTH56_4 true d4 (ai wTH56_3 true d3 (ai wTH56_2 true d2 (ai wTH56_1 true d1 (ai wTH56_0 true d0 (ain (sqW 31 15) .i64 56 (sm hk) (AlOk.nil _))))))), hcs, LkOk.no _ _ _ _, (an 16 (.bin .add (.var .i64 16) (.lit .i64 1)) (sm h_o16.symm) (av 11 .i64 (av 11 .i64 (an 15 (.bin .add (.var .i64 15) (.lit .i64 1)) (sm h_o15.symm) (av 8 .i64 (ar 60 (ar_var 60) (ar 61 (ar_var 61) (ar 62 (ar_var 62) (an 16 (.bin .add (.var .i64 16) (.lit .i64 1)) (sm h_o16.symm) (ar 66 (ar_upd (.var .i64 16) (.lit .i64 56) (i := S1.ρ 16) (v := (56 : Int)) rfl rfl (by kernel_rfl) (ar_var 66)) (ar 67 (ar_upd (.var .i64 16) (.lit .i64 8) (i := S1.ρ 16) (v := (8 : Int)) rfl rfl (by kernel_rfl) (ar_var 67)) (ar 68 (ar_upd (.var .i64 16) (.lit .i64 1) (i := S1.ρ 16) (v := (1 : Int)) rfl rfl (by kernel_rfl) (ar_var 68)) (asg_nil rfl))))))))))))), fun G => by kernel_rfl⟩, (show o15 = S1.ρ 15 + 1 by omega), ?_, (Stay.refl [15, 16] [66, 67, 68] _).set rfl rfl⟩
      rw [if_pos hv]
      exact hr.upd (isC_of 6 ⟨rfl, rfl, rfl⟩) hk (show o16 = S1.ρ 16 + 1 by omega) (fun _ => rfl) (fun _ => rfl) (fun _ => rfl)
    · have c0 : S1.ρ 15 < S1.ρ 11 := by omega
      have d0 : wTH64_0.den S1 = some [b2i true] := tr (p := S1.ρ 15 < S1.ρ 11) c0
      have c1 : ¬ (S1.ρ 15 < (0 : Int)) := by omega
      have d1 : wTH64_1.den S1 = some [b2i true] := tr (p := (0 : Int) ≤ S1.ρ 15) (Int.not_lt.1 c1)
      have c2 : ¬ (S1.ρ 16 < (0 : Int)) := by omega
      have d2 : wTH64_2.den S1 = some [b2i true] := tr (p := (0 : Int) ≤ S1.ρ 16) (Int.not_lt.1 c2)
      have c3 : S1.ρ 16 < (4194304 : Int) := by omega
      have d3 : wTH64_3.den S1 = some [b2i true] := tr (p := S1.ρ 16 < (4194304 : Int)) c3
      have c4 : (IntKind.i64.wrap (S1.ρ 16 + (1 : Int))) < (4194304 : Int) := by rw [w_i64 (by omega) (by omega)]; omega
      have d4 : wTH64_4.den S1 = some [b2i true] := tr (p := (IntKind.i64.wrap (S1.ρ 16 + (1 : Int))) < (4194304 : Int)) c4
      obtain ⟨o16, h_o16⟩ : ∃ o : Int, o = (IntKind.i64.wrap (S1.ρ 16 + (1 : Int))) := ⟨_, rfl⟩
      obtain ⟨o15, h_o15⟩ : ∃ o : Int, o = (IntKind.i64.wrap (S1.ρ 15 + (1 : Int))) := ⟨_, rfl⟩
      have u := h_o15
      rw [w_i64 (by omega) (by omega)] at u
      have u2 := h_o16
      rw [w_i64 (by omega) (by omega)] at u2
      refine ⟨S1.set (upd S1.ρ [(16, o16), (15, o15)]) [(66, (fun j => ifE j (S1.ρ 16) ((64 : Int)) ((fun j => S1.Φ 66 [j]) j))), (67, (fun j => ifE j (S1.ρ 16) ((64 : Int)) ((fun j => S1.Φ 67 [j]) j))), (68, (fun j => ifE j (S1.ρ 16) ((1 : Int)) ((fun j => S1.Φ 68 [j]) j)))] 50 rfl hK, ⟨_, [], _, 1000, _, [(5, 8)], (ai wTH64_4 true d4 (ai wTH64_3 true d3 (ai wTH64_2 true d2 (ai wTH64_1 true d1 (ai wTH64_0 true d0 (ain (sqW 31 15) .i64 64 (sm hk) (AlOk.nil _))))))), hcs, LkOk.no _ _ _ _, (an 16 (.bin .add (.var .i64 16) (.lit .i64 1)) (sm h_o16.symm) (av 11 .i64 (av 11 .i64 (an 15 (.bin .add (.var .i64 15) (.lit .i64 1)) (sm h_o15.symm) (av 8 .i64 (ar 60 (ar_var 60) (ar 61 (ar_var 61) (ar 62 (ar_var 62) (an 16 (.bin .add (.var .i64 16) (.lit .i64 1)) (sm h_o16.symm) (ar 66 (ar_upd (.var .i64 16) (.lit .i64 64) (i := S1.ρ 16) (v := (64 : Int)) rfl rfl (by kernel_rfl) (ar_var 66)) (ar 67 (ar_upd (.var .i64 16) (.lit .i64 64) (i := S1.ρ 16) (v := (64 : Int)) rfl rfl (by kernel_rfl) (ar_var 67)) (ar 68 (ar_upd (.var .i64 16) (.lit .i64 1) (i := S1.ρ 16) (v := (1 : Int)) rfl rfl (by kernel_rfl) (ar_var 68)) (asg_nil rfl))))))))))))), fun G => by kernel_rfl⟩, (show o15 = S1.ρ 15 + 1 by omega), ?_, (Stay.refl [15, 16] [66, 67, 68] _).set rfl rfl⟩
      rw [if_pos hv]
      exact hr.upd (isC_of 7 ⟨rfl, rfl, rfl⟩) hk (show o16 = S1.ρ 16 + 1 by omega) (fun _ => rfl) (fun _ => rfl) (fun _ => rfl)
  · have c0 : S1.ρ 15 < S1.ρ 11 := by omega
    have d0 : wYH0.den S1 = some [b2i true] := tr (p := S1.ρ 15 < S1.ρ 11) c0
    have c1 : ¬ (S1.ρ 15 < (0 : Int)) := by omega
    have d1 : wYH1.den S1 = some [b2i true] := tr (p := (0 : Int) ≤ S1.ρ 15) (Int.not_lt.1 c1)
    by_cases c2 : (S1.Φ 31 [S1.ρ 15]) < (8 : Int)
    · have d2 : wYH2.den S1 = some [b2i false] := fls (p := (8 : Int) ≤ (S1.Φ 31 [S1.ρ 15])) (Int.not_le.2 c2)
      obtain ⟨o15, h_o15⟩ : ∃ o : Int, o = (IntKind.i64.wrap (S1.ρ 15 + (1 : Int))) := ⟨_, rfl⟩
      have u := h_o15
      rw [w_i64 (by omega) (by omega)] at u
      refine ⟨S1.set (upd S1.ρ [(15, o15)]) [] 50 rfl hK, ⟨_, [], _, 1000, _, [], (ai wYH2 false d2 (ai wYH1 true d1 (ai wYH0 true d0 (AlOk.nil _)))), hcs, LkOk.no _ _ _ _, (av 16 .i64 (av 11 .i64 (av 11 .i64 (an 15 (.bin .add (.var .i64 15) (.lit .i64 1)) (sm h_o15.symm) (av 8 .i64 (ar 60 (ar_var 60) (ar 61 (ar_var 61) (ar 62 (ar_var 62) (av 16 .i64 (ar 66 (ar_var 66) (ar 67 (ar_var 67) (ar 68 (ar_var 68) (asg_nil rfl))))))))))))), fun G => by kernel_rfl⟩, (show o15 = S1.ρ 15 + 1 by omega), ?_, (Stay.refl [15, 16] [66, 67, 68] _).set rfl rfl⟩
      rw [if_neg hv]
      exact hr.same rfl (fun _ => rfl) (fun _ => rfl) (fun _ => rfl)
    · have d2 : wYH2.den S1 = some [b2i true] := tr (p := (8 : Int) ≤ (S1.Φ 31 [S1.ρ 15])) (Int.not_lt.1 c2)
      by_cases c3 : (64 : Int) < (S1.Φ 31 [S1.ρ 15])
      · have d3 : wYH3.den S1 = some [b2i false] := fls (p := (S1.Φ 31 [S1.ρ 15]) ≤ (64 : Int)) (Int.not_le.2 c3)
        obtain ⟨o15, h_o15⟩ : ∃ o : Int, o = (IntKind.i64.wrap (S1.ρ 15 + (1 : Int))) := ⟨_, rfl⟩
        have u := h_o15
        rw [w_i64 (by omega) (by omega)] at u
        refine ⟨S1.set (upd S1.ρ [(15, o15)]) [] 50 rfl hK, ⟨_, [], _, 1000, _, [], (ai wYH3 false d3 (ai wYH2 true d2 (ai wYH1 true d1 (ai wYH0 true d0 (AlOk.nil _))))), hcs, LkOk.no _ _ _ _, (av 16 .i64 (av 11 .i64 (av 11 .i64 (an 15 (.bin .add (.var .i64 15) (.lit .i64 1)) (sm h_o15.symm) (av 8 .i64 (ar 60 (ar_var 60) (ar 61 (ar_var 61) (ar 62 (ar_var 62) (av 16 .i64 (ar 66 (ar_var 66) (ar 67 (ar_var 67) (ar 68 (ar_var 68) (asg_nil rfl))))))))))))), fun G => by kernel_rfl⟩, (show o15 = S1.ρ 15 + 1 by omega), ?_, (Stay.refl [15, 16] [66, 67, 68] _).set rfl rfl⟩
        rw [if_neg hv]
        exact hr.same rfl (fun _ => rfl) (fun _ => rfl) (fun _ => rfl)
      · have d3 : wYH3.den S1 = some [b2i true] := tr (p := (S1.Φ 31 [S1.ρ 15]) ≤ (64 : Int)) (Int.not_lt.1 c3)
        have c4 : ¬ ((((S1.Φ 31 [S1.ρ 15])).tmod (8 : Int)) = (0 : Int)) := by intro hh; exact hv ⟨by omega, by omega, hh⟩
        have d4 : wYH4.den S1 = some [b2i false] := fls (p := (((S1.Φ 31 [S1.ρ 15])).tmod (8 : Int)) = (0 : Int)) c4
        obtain ⟨o15, h_o15⟩ : ∃ o : Int, o = (IntKind.i64.wrap (S1.ρ 15 + (1 : Int))) := ⟨_, rfl⟩
        have u := h_o15
        rw [w_i64 (by omega) (by omega)] at u
        refine ⟨S1.set (upd S1.ρ [(15, o15)]) [] 50 rfl hK, ⟨_, [], _, 1000, _, [], (ai wYH4 false d4 (ai wYH3 true d3 (ai wYH2 true d2 (ai wYH1 true d1 (ai wYH0 true d0 (AlOk.nil _)))))), hcs, LkOk.no _ _ _ _, (av 16 .i64 (av 11 .i64 (av 11 .i64 (an 15 (.bin .add (.var .i64 15) (.lit .i64 1)) (sm h_o15.symm) (av 8 .i64 (ar 60 (ar_var 60) (ar 61 (ar_var 61) (ar 62 (ar_var 62) (av 16 .i64 (ar 66 (ar_var 66) (ar 67 (ar_var 67) (ar 68 (ar_var 68) (asg_nil rfl))))))))))))), fun G => by kernel_rfl⟩, (show o15 = S1.ρ 15 + 1 by omega), ?_, (Stay.refl [15, 16] [66, 67, 68] _).set rfl rfl⟩
        rw [if_neg hv]
        exact hr.same rfl (fun _ => rfl) (fun _ => rfl) (fun _ => rfl)
theorem rowsH (F : Nat → Int) : ∀ (m i : Nat) (l : List Int) (S0 : Sy), S0.ρ 15 = i → S0.ρ 15 + m ≤ S0.ρ 11 → S0.ρ 11 ≤ 2048 → l.length ≤ i → (∀ j : Nat, S0.Φ 31 [(j : Int)] = F j) → RowIs S0 16 66 l → (∀ x ∈ S0.I, x.f + x.ks.length ≤ 50) →
    ∃ Sa, Chain (StepTo Try.prog ftW ΛW [] (cAt Try.prog lpWM) XH1W FHrW 5) m S0 Sa ∧ Sa.ρ 15 = S0.ρ 15 + m ∧ RowIs Sa 16 66 (fltG F i m l) ∧ Stay [15, 16] [66, 67, 68] S0 Sa
  | 0, i, l, S0, _, _, _, _, _, hr, _ => ⟨S0, .nil _, by simp, hr, Stay.refl _ _ _⟩
  | m + 1, i, l, S0, h0, h1, h2, h3, hF, hr, hK => by
    obtain ⟨S2, st, e4, hr2, y⟩ := rowH (S1 := S0) (by omega) (by omega) (by omega) (by omega) hr hK
    have e1 := y.num 11 rfl
    rw [h0, hF i] at hr2
    obtain ⟨Sa, ch, f4, hr3, z⟩ := rowsH F m (i + 1) _ S2 (by omega) (by omega) (by omega) (by split; (· simp; omega); (· omega)) (fun j => by rw [y.fn 31 rfl]; exact hF j) hr2 (by rw [y.1]; exact hK)
    exact ⟨Sa, .cons st ch, by omega, hr3, stay_weak (y.trans z) rfl rfl⟩
def wORH0 : Tm := (.bin .lss (.var .i64 15) (.var .i64 11))
theorem outHR {S1 T : Sy} (h1 : S1.ρ 15 = S1.ρ 11) (hT : Same [16, 8] [60, 61, 62, 66, 67, 68] S1 T) : StepOut Try.prog ftW ΛW [] (cAt Try.prog lpWM) XH1W FHrW (.exit 0) 5 S1 T := by
  have hcs : ∀ c ∈ ([] : List Ctr), CtrOk Try.prog S1 [] c := fun c hc => by simp at hc
  have c0 : ¬ (S1.ρ 15 < S1.ρ 11) := by omega
  have d0 : wORH0.den S1 = some [b2i false] := fls (p := S1.ρ 15 < S1.ρ 11) c0
  exact ⟨_, [], _, 1000, _, [], (ai wORH0 false d0 (AlOk.nil _)), hcs, LkOk.no _ _ _ _, (an 16 (.var .i64 16) (sm (hT.num 16 rfl)) (an 8 (.var .i64 8) (sm (hT.num 8 rfl)) (asg_arr (i := 60) (hT.row 60 rfl) (asg_arr (i := 61) (hT.row 61 rfl) (asg_arr (i := 62) (hT.row 62 rfl) (an 16 (.var .i64 16) (sm (hT.num 16 rfl)) (asg_arr (i := 66) (hT.row 66 rfl) (asg_arr (i := 67) (hT.row 67 rfl) (asg_arr (i := 68) (hT.row 68 rfl) (asg_nil hT.1)))))))))), fun G => by kernel_rfl⟩
theorem loopHR (S0 : Sy) (n : Nat) (hn : n ≤ 2048) (hi : S0.ρ 15 = 0) (hb : S0.ρ 11 = n) (hv : flt (fun j => S0.Φ 31 [(j : Int)]) n ≠ []) (hK : ∀ x ∈ S0.I, x.f + x.ks.length ≤ 50) :
    ∃ Sf, Stay [15, 16] [66, 67, 68] S0 Sf ∧ RowIs Sf 16 66 (flt (fun j => S0.Φ 31 [(j : Int)]) n) ∧ ∀ T asg0, Same [16, 8] [60, 61, 62, 66, 67, 68] Sf T → AsgOk T S0 asg0 → LkAt Try.prog T [] (.loop (cAt Try.prog lpWM)) (lkLoopR Try.prog 5 [] XH0W FHrW (.exit 0) asg0) := by
  obtain ⟨j0, ⟨hj, hok⟩, hmin⟩ := least (flt_some hv)
  obtain ⟨Sa, ch, e, y⟩ := chainHR j0 S0 (by omega) (by omega) (by omega) (fun j hj' hh => by rw [hi, Int.zero_add] at hh; exact hmin j hj' ⟨by omega, hh⟩) hK
  have y1 := y.num 11 rfl
  have ea : Sa.ρ 15 = j0 := by omega
  have hKa : ∀ x ∈ Sa.I, x.f + x.ks.length ≤ 50 := by rw [y.1]; exact hK
  obtain ⟨Sb, cx, f4, hrb, yb⟩ := crossH (S1 := Sa) (by omega) (by omega) (by omega) (by rw [ea, y.fn 31 rfl]; exact hok) hKa
  have b1 := yb.num 11 rfl
  have hKb : ∀ x ∈ Sb.I, x.f + x.ks.length ≤ 50 := by rw [yb.1]; exact hKa
  have h0 : flt (fun j => S0.Φ 31 [(j : Int)]) j0 = [] := flt_low fun j hj' hh => hmin j hj' ⟨by omega, hh⟩
  have h1 : flt (fun j => S0.Φ 31 [(j : Int)]) (j0 + 1) = [S0.Φ 31 [(j0 : Int)]] := by
    unfold flt
    rw [if_pos hok, h0]
    rfl
  rw [ea, y.fn 31 rfl, ← h1] at hrb
  obtain ⟨Sf, ch2, g4, hrf, yf⟩ := rowsH (fun j => S0.Φ 31 [(j : Int)]) (n - (j0 + 1)) (j0 + 1) _ Sb (by omega) (by omega) (by omega) (flt_len _ _) (fun j => by rw [yb.fn 31 rfl, y.fn 31 rfl]) hrb hKb
  have f1 := yf.num 11 rfl
  rw [fltG_eq, show j0 + 1 + (n - (j0 + 1)) = n by omega] at hrf
  exact ⟨Sf, stay_weak (y.trans (yb.trans yf)) rfl rfl, hrf, fun T asg0 hs ha => loop_chain2 envW (ann_self _) fineWM (show XH0W.N = FHrW.N from rfl) (show XH1W.N = FHrW.N from rfl) (Nat.le_of_ble_eq_true rfl) ch cx ch2 (outHR (by omega) hs) ha⟩
def wIN0 : Tm := (.bin .lss (.var .i64 15) (.var .i64 11))
def wIN1 : Tm := (.bin .geq (.var .i64 15) (.lit .i64 0))
def wIN2 : Tm := (.bin .geq (.app .i64 31 (.cons (.var .i64 15) .nil)) (.lit .i64 8))
def wIN3 : Tm := (.bin .leq (.app .i64 31 (.cons (.var .i64 15) .nil)) (.lit .i64 64))
def wIN4 : Tm := (.bin .eql (.bin .rem (.app .i64 31 (.cons (.var .i64 15) .nil)) (.lit .i64 8)) (.lit .i64 0))
theorem nilIN {S1 : Sy} (h0 : 0 ≤ S1.ρ 15) (h1 : S1.ρ 15 < S1.ρ 11) (h2 : S1.ρ 11 ≤ 4096) (hv : ¬ okS (S1.Φ 31 [S1.ρ 15])) (hK : ∀ x ∈ S1.I, x.f + x.ks.length ≤ 50) : ∃ S2, StepTo Try.prog ftW ΛW [] (cAt Try.prog lpWM) XI0W FIW 5 S1 S2 ∧ S2.ρ 15 = S1.ρ 15 + 1 ∧ Stay [15] [] S1 S2 := by
  have hcs : ∀ c ∈ ([] : List Ctr), CtrOk Try.prog S1 [] c := fun c hc => by simp at hc
  have c0 : S1.ρ 15 < S1.ρ 11 := by omega
  have d0 : wIN0.den S1 = some [b2i true] := tr (p := S1.ρ 15 < S1.ρ 11) c0
  have c1 : ¬ (S1.ρ 15 < (0 : Int)) := by omega
  have d1 : wIN1.den S1 = some [b2i true] := tr (p := (0 : Int) ≤ S1.ρ 15) (Int.not_lt.1 c1)
  by_cases c2 : (S1.Φ 31 [S1.ρ 15]) < (8 : Int)
  · have d2 : wIN2.den S1 = some [b2i false] := fls (p := (8 : Int) ≤ (S1.Φ 31 [S1.ρ 15])) (Int.not_le.2 c2)
    obtain ⟨o15, h_o15⟩ : ∃ o : Int, o = (IntKind.i64.wrap (S1.ρ 15 + (1 : Int))) := ⟨_, rfl⟩
    have u := h_o15
    rw [w_i64 (by omega) (by omega)] at u
    exact ⟨S1.set (upd S1.ρ [(15, o15)]) [] 50 rfl hK, ⟨_, [], _, 1000, _, [], (ai wIN2 false d2 (ai wIN1 true d1 (ai wIN0 true d0 (AlOk.nil _)))), hcs, LkOk.no _ _ _ _, (av 11 .i64 (av 11 .i64 (an 15 (.bin .add (.var .i64 15) (.lit .i64 1)) (sm h_o15.symm) (av 8 .i64 (ar 60 (ar_var 60) (ar 61 (ar_var 61) (ar 62 (ar_var 62) (av 14 .i64 (ar 63 (ar_var 63) (ar 64 (ar_var 64) (ar 65 (ar_var 65) (asg_nil rfl)))))))))))), fun G => by kernel_rfl⟩, (show o15 = S1.ρ 15 + 1 by omega), (Stay.refl [15] [] _).set rfl rfl⟩
  · have d2 : wIN2.den S1 = some [b2i true] := tr (p := (8 : Int) ≤ (S1.Φ 31 [S1.ρ 15])) (Int.not_lt.1 c2)
    by_cases c3 : (64 : Int) < (S1.Φ 31 [S1.ρ 15])
    · have d3 : wIN3.den S1 = some [b2i false] := fls (p := (S1.Φ 31 [S1.ρ 15]) ≤ (64 : Int)) (Int.not_le.2 c3)
      obtain ⟨o15, h_o15⟩ : ∃ o : Int, o = (IntKind.i64.wrap (S1.ρ 15 + (1 : Int))) := ⟨_, rfl⟩
      have u := h_o15
      rw [w_i64 (by omega) (by omega)] at u
      exact ⟨S1.set (upd S1.ρ [(15, o15)]) [] 50 rfl hK, ⟨_, [], _, 1000, _, [], (ai wIN3 false d3 (ai wIN2 true d2 (ai wIN1 true d1 (ai wIN0 true d0 (AlOk.nil _))))), hcs, LkOk.no _ _ _ _, (av 11 .i64 (av 11 .i64 (an 15 (.bin .add (.var .i64 15) (.lit .i64 1)) (sm h_o15.symm) (av 8 .i64 (ar 60 (ar_var 60) (ar 61 (ar_var 61) (ar 62 (ar_var 62) (av 14 .i64 (ar 63 (ar_var 63) (ar 64 (ar_var 64) (ar 65 (ar_var 65) (asg_nil rfl)))))))))))), fun G => by kernel_rfl⟩, (show o15 = S1.ρ 15 + 1 by omega), (Stay.refl [15] [] _).set rfl rfl⟩
    · have d3 : wIN3.den S1 = some [b2i true] := tr (p := (S1.Φ 31 [S1.ρ 15]) ≤ (64 : Int)) (Int.not_lt.1 c3)
      have c4 : ¬ ((((S1.Φ 31 [S1.ρ 15])).tmod (8 : Int)) = (0 : Int)) := by intro hh; exact hv ⟨by omega, by omega, hh⟩
      have d4 : wIN4.den S1 = some [b2i false] := fls (p := (((S1.Φ 31 [S1.ρ 15])).tmod (8 : Int)) = (0 : Int)) c4
      obtain ⟨o15, h_o15⟩ : ∃ o : Int, o = (IntKind.i64.wrap (S1.ρ 15 + (1 : Int))) := ⟨_, rfl⟩
      have u := h_o15
      rw [w_i64 (by omega) (by omega)] at u
      exact ⟨S1.set (upd S1.ρ [(15, o15)]) [] 50 rfl hK, ⟨_, [], _, 1000, _, [], (ai wIN4 false d4 (ai wIN3 true d3 (ai wIN2 true d2 (ai wIN1 true d1 (ai wIN0 true d0 (AlOk.nil _)))))), hcs, LkOk.no _ _ _ _, (av 11 .i64 (av 11 .i64 (an 15 (.bin .add (.var .i64 15) (.lit .i64 1)) (sm h_o15.symm) (av 8 .i64 (ar 60 (ar_var 60) (ar 61 (ar_var 61) (ar 62 (ar_var 62) (av 14 .i64 (ar 63 (ar_var 63) (ar 64 (ar_var 64) (ar 65 (ar_var 65) (asg_nil rfl)))))))))))), fun G => by kernel_rfl⟩, (show o15 = S1.ρ 15 + 1 by omega), (Stay.refl [15] [] _).set rfl rfl⟩
theorem chainIN : ∀ (m : Nat) (S0 : Sy), 0 ≤ S0.ρ 15 → S0.ρ 15 + m ≤ S0.ρ 11 → S0.ρ 11 ≤ 4096 → (∀ j : Nat, j < m → ¬ okS (S0.Φ 31 [S0.ρ 15 + j])) → (∀ x ∈ S0.I, x.f + x.ks.length ≤ 50) →
    ∃ Sa, Chain (StepTo Try.prog ftW ΛW [] (cAt Try.prog lpWM) XI0W FIW 5) m S0 Sa ∧ Sa.ρ 15 = S0.ρ 15 + m ∧ Stay [15] [] S0 Sa
  | 0, S0, _, _, _, _, _ => ⟨S0, .nil _, by simp, Stay.refl _ _ _⟩
  | m + 1, S0, h0, h1, h2, hv, hK => by
    obtain ⟨S2, st, e4, y⟩ := nilIN h0 (by omega) h2 (by have := hv 0 (by omega); simpa using this) hK
    have e1 := y.num 11 rfl
    obtain ⟨Sa, ch, f4, z⟩ := chainIN m S2 (by omega) (by omega) (by omega) (fun j hj => by
      have := hv (j + 1) (by omega)
      rw [y.fn 31 rfl, e4]
      rwa [show S0.ρ 15 + 1 + (j : Int) = S0.ρ 15 + ((j + 1 : Nat) : Int) by omega]) (by rw [y.1]; exact hK)
    exact ⟨Sa, .cons st ch, by omega, stay_weak (y.trans z) rfl rfl⟩
def wIR0 : Tm := (.bin .lss (.var .i64 15) (.var .i64 11))
def wIR1 : Tm := (.bin .geq (.var .i64 15) (.lit .i64 0))
def wIR2 : Tm := (.bin .geq (.app .i64 31 (.cons (.var .i64 15) .nil)) (.lit .i64 8))
def wIR3 : Tm := (.bin .leq (.app .i64 31 (.cons (.var .i64 15) .nil)) (.lit .i64 64))
def wIR4 : Tm := (.bin .eql (.bin .rem (.app .i64 31 (.cons (.var .i64 15) .nil)) (.lit .i64 8)) (.lit .i64 0))
theorem nilIR {S1 : Sy} (h0 : 0 ≤ S1.ρ 15) (h1 : S1.ρ 15 < S1.ρ 11) (h2 : S1.ρ 11 ≤ 4096) (hv : ¬ okS (S1.Φ 31 [S1.ρ 15])) (hK : ∀ x ∈ S1.I, x.f + x.ks.length ≤ 50) : ∃ S2, StepTo Try.prog ftW ΛW [] (cAt Try.prog lpWM) XI0W FIrW 5 S1 S2 ∧ S2.ρ 15 = S1.ρ 15 + 1 ∧ Stay [15] [] S1 S2 := by
  have hcs : ∀ c ∈ ([] : List Ctr), CtrOk Try.prog S1 [] c := fun c hc => by simp at hc
  have c0 : S1.ρ 15 < S1.ρ 11 := by omega
  have d0 : wIR0.den S1 = some [b2i true] := tr (p := S1.ρ 15 < S1.ρ 11) c0
  have c1 : ¬ (S1.ρ 15 < (0 : Int)) := by omega
  have d1 : wIR1.den S1 = some [b2i true] := tr (p := (0 : Int) ≤ S1.ρ 15) (Int.not_lt.1 c1)
  by_cases c2 : (S1.Φ 31 [S1.ρ 15]) < (8 : Int)
  · have d2 : wIR2.den S1 = some [b2i false] := fls (p := (8 : Int) ≤ (S1.Φ 31 [S1.ρ 15])) (Int.not_le.2 c2)
    obtain ⟨o15, h_o15⟩ : ∃ o : Int, o = (IntKind.i64.wrap (S1.ρ 15 + (1 : Int))) := ⟨_, rfl⟩
    have u := h_o15
    rw [w_i64 (by omega) (by omega)] at u
    exact ⟨S1.set (upd S1.ρ [(15, o15)]) [] 50 rfl hK, ⟨_, [], _, 1000, _, [], (ai wIR2 false d2 (ai wIR1 true d1 (ai wIR0 true d0 (AlOk.nil _)))), hcs, LkOk.no _ _ _ _, (av 11 .i64 (av 11 .i64 (an 15 (.bin .add (.var .i64 15) (.lit .i64 1)) (sm h_o15.symm) (av 8 .i64 (ar 60 (ar_var 60) (ar 61 (ar_var 61) (ar 62 (ar_var 62) (av 14 .i64 (ar 63 (ar_var 63) (ar 64 (ar_var 64) (ar 65 (ar_var 65) (asg_nil rfl)))))))))))), fun G => by kernel_rfl⟩, (show o15 = S1.ρ 15 + 1 by omega), (Stay.refl [15] [] _).set rfl rfl⟩
  · have d2 : wIR2.den S1 = some [b2i true] := tr (p := (8 : Int) ≤ (S1.Φ 31 [S1.ρ 15])) (Int.not_lt.1 c2)
    by_cases c3 : (64 : Int) < (S1.Φ 31 [S1.ρ 15])
    · have d3 : wIR3.den S1 = some [b2i false] := fls (p := (S1.Φ 31 [S1.ρ 15]) ≤ (64 : Int)) (Int.not_le.2 c3)
      obtain ⟨o15, h_o15⟩ : ∃ o : Int, o = (IntKind.i64.wrap (S1.ρ 15 + (1 : Int))) := ⟨_, rfl⟩
      have u := h_o15
      rw [w_i64 (by omega) (by omega)] at u
      exact ⟨S1.set (upd S1.ρ [(15, o15)]) [] 50 rfl hK, ⟨_, [], _, 1000, _, [], (ai wIR3 false d3 (ai wIR2 true d2 (ai wIR1 true d1 (ai wIR0 true d0 (AlOk.nil _))))), hcs, LkOk.no _ _ _ _, (av 11 .i64 (av 11 .i64 (an 15 (.bin .add (.var .i64 15) (.lit .i64 1)) (sm h_o15.symm) (av 8 .i64 (ar 60 (ar_var 60) (ar 61 (ar_var 61) (ar 62 (ar_var 62) (av 14 .i64 (ar 63 (ar_var 63) (ar 64 (ar_var 64) (ar 65 (ar_var 65) (asg_nil rfl)))))))))))), fun G => by kernel_rfl⟩, (show o15 = S1.ρ 15 + 1 by omega), (Stay.refl [15] [] _).set rfl rfl⟩
    · have d3 : wIR3.den S1 = some [b2i true] := tr (p := (S1.Φ 31 [S1.ρ 15]) ≤ (64 : Int)) (Int.not_lt.1 c3)
      have c4 : ¬ ((((S1.Φ 31 [S1.ρ 15])).tmod (8 : Int)) = (0 : Int)) := by intro hh; exact hv ⟨by omega, by omega, hh⟩
      have d4 : wIR4.den S1 = some [b2i false] := fls (p := (((S1.Φ 31 [S1.ρ 15])).tmod (8 : Int)) = (0 : Int)) c4
      obtain ⟨o15, h_o15⟩ : ∃ o : Int, o = (IntKind.i64.wrap (S1.ρ 15 + (1 : Int))) := ⟨_, rfl⟩
      have u := h_o15
      rw [w_i64 (by omega) (by omega)] at u
      exact ⟨S1.set (upd S1.ρ [(15, o15)]) [] 50 rfl hK, ⟨_, [], _, 1000, _, [], (ai wIR4 false d4 (ai wIR3 true d3 (ai wIR2 true d2 (ai wIR1 true d1 (ai wIR0 true d0 (AlOk.nil _)))))), hcs, LkOk.no _ _ _ _, (av 11 .i64 (av 11 .i64 (an 15 (.bin .add (.var .i64 15) (.lit .i64 1)) (sm h_o15.symm) (av 8 .i64 (ar 60 (ar_var 60) (ar 61 (ar_var 61) (ar 62 (ar_var 62) (av 14 .i64 (ar 63 (ar_var 63) (ar 64 (ar_var 64) (ar 65 (ar_var 65) (asg_nil rfl)))))))))))), fun G => by kernel_rfl⟩, (show o15 = S1.ρ 15 + 1 by omega), (Stay.refl [15] [] _).set rfl rfl⟩
theorem chainIR : ∀ (m : Nat) (S0 : Sy), 0 ≤ S0.ρ 15 → S0.ρ 15 + m ≤ S0.ρ 11 → S0.ρ 11 ≤ 4096 → (∀ j : Nat, j < m → ¬ okS (S0.Φ 31 [S0.ρ 15 + j])) → (∀ x ∈ S0.I, x.f + x.ks.length ≤ 50) →
    ∃ Sa, Chain (StepTo Try.prog ftW ΛW [] (cAt Try.prog lpWM) XI0W FIrW 5) m S0 Sa ∧ Sa.ρ 15 = S0.ρ 15 + m ∧ Stay [15] [] S0 Sa
  | 0, S0, _, _, _, _, _ => ⟨S0, .nil _, by simp, Stay.refl _ _ _⟩
  | m + 1, S0, h0, h1, h2, hv, hK => by
    obtain ⟨S2, st, e4, y⟩ := nilIR h0 (by omega) h2 (by have := hv 0 (by omega); simpa using this) hK
    have e1 := y.num 11 rfl
    obtain ⟨Sa, ch, f4, z⟩ := chainIR m S2 (by omega) (by omega) (by omega) (fun j hj => by
      have := hv (j + 1) (by omega)
      rw [y.fn 31 rfl, e4]
      rwa [show S0.ρ 15 + 1 + (j : Int) = S0.ρ 15 + ((j + 1 : Nat) : Int) by omega]) (by rw [y.1]; exact hK)
    exact ⟨Sa, .cons st ch, by omega, stay_weak (y.trans z) rfl rfl⟩
def wONI0 : Tm := (.bin .lss (.var .i64 15) (.var .i64 11))
theorem outIN {S1 T : Sy} (h1 : S1.ρ 15 = S1.ρ 11) (hT : Same [8, 14] [60, 61, 62, 63, 64, 65] S1 T) : StepOut Try.prog ftW ΛW [] (cAt Try.prog lpWM) XI0W FIW (.exit 0) 5 S1 T := by
  have hcs : ∀ c ∈ ([] : List Ctr), CtrOk Try.prog S1 [] c := fun c hc => by simp at hc
  have c0 : ¬ (S1.ρ 15 < S1.ρ 11) := by omega
  have d0 : wONI0.den S1 = some [b2i false] := fls (p := S1.ρ 15 < S1.ρ 11) c0
  exact ⟨_, [], _, 1000, _, [], (ai wONI0 false d0 (AlOk.nil _)), hcs, LkOk.no _ _ _ _, (an 8 (.var .i64 8) (sm (hT.num 8 rfl)) (asg_arr (i := 60) (hT.row 60 rfl) (asg_arr (i := 61) (hT.row 61 rfl) (asg_arr (i := 62) (hT.row 62 rfl) (an 14 (.var .i64 14) (sm (hT.num 14 rfl)) (asg_arr (i := 63) (hT.row 63 rfl) (asg_arr (i := 64) (hT.row 64 rfl) (asg_arr (i := 65) (hT.row 65 rfl) (asg_nil hT.1))))))))), fun G => by kernel_rfl⟩
theorem loopIN (S0 : Sy) (n : Nat) (hn : n ≤ 4096) (hi : S0.ρ 15 = 0) (hb : S0.ρ 11 = n) (hv : flt (fun j => S0.Φ 31 [(j : Int)]) n = []) (hK : ∀ x ∈ S0.I, x.f + x.ks.length ≤ 50) :
    ∃ Sf, Stay [15] [] S0 Sf ∧ ∀ T asg0, Same [8, 14] [60, 61, 62, 63, 64, 65] Sf T → AsgOk T S0 asg0 → LkAt Try.prog T [] (.loop (cAt Try.prog lpWM)) (lkLoopR Try.prog 5 [] XI0W FIW (.exit 0) asg0) := by
  obtain ⟨Sf, ch, e, y⟩ := chainIN n S0 (by omega) (by omega) (by omega) (fun j hj => by rw [hi, Int.zero_add]; exact flt_nil hv j hj) hK
  have y1 := y.num 11 rfl
  exact ⟨Sf, y, fun T asg0 hs ha => loop_chain envW (ann_self _) fineWM (show XI0W.N = FIW.N from rfl) (Nat.le_of_ble_eq_true rfl) ch (outIN (by omega) hs) ha⟩
def wXI8_0 : Tm := (.bin .lss (.var .i64 15) (.var .i64 11))
def wXI8_1 : Tm := (.bin .geq (.var .i64 15) (.lit .i64 0))
def wXI16_0 : Tm := (.bin .lss (.var .i64 15) (.var .i64 11))
def wXI16_1 : Tm := (.bin .geq (.var .i64 15) (.lit .i64 0))
def wXI24_0 : Tm := (.bin .lss (.var .i64 15) (.var .i64 11))
def wXI24_1 : Tm := (.bin .geq (.var .i64 15) (.lit .i64 0))
def wXI32_0 : Tm := (.bin .lss (.var .i64 15) (.var .i64 11))
def wXI32_1 : Tm := (.bin .geq (.var .i64 15) (.lit .i64 0))
def wXI40_0 : Tm := (.bin .lss (.var .i64 15) (.var .i64 11))
def wXI40_1 : Tm := (.bin .geq (.var .i64 15) (.lit .i64 0))
def wXI48_0 : Tm := (.bin .lss (.var .i64 15) (.var .i64 11))
def wXI48_1 : Tm := (.bin .geq (.var .i64 15) (.lit .i64 0))
def wXI56_0 : Tm := (.bin .lss (.var .i64 15) (.var .i64 11))
def wXI56_1 : Tm := (.bin .geq (.var .i64 15) (.lit .i64 0))
def wXI64_0 : Tm := (.bin .lss (.var .i64 15) (.var .i64 11))
def wXI64_1 : Tm := (.bin .geq (.var .i64 15) (.lit .i64 0))
theorem crossI {S1 : Sy} (h0 : 0 ≤ S1.ρ 15) (h1 : S1.ρ 15 < S1.ρ 11) (h2 : S1.ρ 11 ≤ 4096) (hv : okS (S1.Φ 31 [S1.ρ 15])) (hK : ∀ x ∈ S1.I, x.f + x.ks.length ≤ 50) :
    ∃ S2, StepX Try.prog ftW ΛW [] (cAt Try.prog lpWM) XI0W XI1W FIrW 5 S1 S2 ∧ S2.ρ 15 = S1.ρ 15 + 1 ∧ RowIs S2 16 66 [S1.Φ 31 [S1.ρ 15]] ∧ Stay [15, 16] [66, 67, 68] S1 S2 := by
  have hcs : ∀ c ∈ ([] : List Ctr), CtrOk Try.prog S1 [] c := fun c hc => by simp at hc
  rcases okS_cases hv with hk | hk | hk | hk | hk | hk | hk | hk
  · have c0 : S1.ρ 15 < S1.ρ 11 := by omega
    have d0 : wXI8_0.den S1 = some [b2i true] := tr (p := S1.ρ 15 < S1.ρ 11) c0
    have c1 : ¬ (S1.ρ 15 < (0 : Int)) := by omega
    have d1 : wXI8_1.den S1 = some [b2i true] := tr (p := (0 : Int) ≤ S1.ρ 15) (Int.not_lt.1 c1)
    obtain ⟨o16, h_o16⟩ : ∃ o : Int, o = (1 : Int) := ⟨_, rfl⟩
    obtain ⟨o15, h_o15⟩ : ∃ o : Int, o = (IntKind.i64.wrap (S1.ρ 15 + (1 : Int))) := ⟨_, rfl⟩
    have u := h_o15
    rw [w_i64 (by omega) (by omega)] at u
    exact ⟨S1.set (upd S1.ρ [(16, o16), (15, o15)]) [(66, (fun j => ifE j ((0 : Int)) ((8 : Int)) ((fun _ => 0) j))), (67, (fun j => ifE j ((0 : Int)) ((8 : Int)) ((fun _ => 0) j))), (68, (fun j => ifE j ((0 : Int)) ((8 : Int)) ((fun _ => 0) j)))] 50 rfl hK, ⟨_, [], _, 1000, _, [(5, 8)], (ai wXI8_1 true d1 (ai wXI8_0 true d0 (ain (sqW 31 15) .i64 8 (sm hk) (AlOk.nil _)))), hcs, LkOk.no _ _ _ _, (an 16 (.lit .i64 1) (sm h_o16.symm) (av 11 .i64 (av 11 .i64 (an 15 (.bin .add (.var .i64 15) (.lit .i64 1)) (sm h_o15.symm) (av 8 .i64 (ar 60 (ar_var 60) (ar 61 (ar_var 61) (ar 62 (ar_var 62) (av 14 .i64 (ar 63 (ar_var 63) (ar 64 (ar_var 64) (ar 65 (ar_var 65) (an 16 (.lit .i64 1) (sm h_o16.symm) (ar 66 (ar_upd (.lit .i64 0) (.lit .i64 8) (i := (0 : Int)) (v := (8 : Int)) rfl rfl (by kernel_rfl) ar_zero) (ar 67 (ar_upd (.lit .i64 0) (.lit .i64 8) (i := (0 : Int)) (v := (8 : Int)) rfl rfl (by kernel_rfl) ar_zero) (ar 68 (ar_upd (.lit .i64 0) (.lit .i64 8) (i := (0 : Int)) (v := (8 : Int)) rfl rfl (by kernel_rfl) ar_zero) (asg_nil rfl))))))))))))))))), fun G => by kernel_rfl⟩, (show o15 = S1.ρ 15 + 1 by omega), RowIs.one (isC_of 0 ⟨rfl, rfl, rfl⟩) hk h_o16 (fun _ => rfl) (fun _ => rfl) (fun _ => rfl), (Stay.refl [15, 16] [66, 67, 68] _).set rfl rfl⟩
  · have c0 : S1.ρ 15 < S1.ρ 11 := by omega
    have d0 : wXI16_0.den S1 = some [b2i true] := tr (p := S1.ρ 15 < S1.ρ 11) c0
    have c1 : ¬ (S1.ρ 15 < (0 : Int)) := by omega
    have d1 : wXI16_1.den S1 = some [b2i true] := tr (p := (0 : Int) ≤ S1.ρ 15) (Int.not_lt.1 c1)
    obtain ⟨o16, h_o16⟩ : ∃ o : Int, o = (1 : Int) := ⟨_, rfl⟩
    obtain ⟨o15, h_o15⟩ : ∃ o : Int, o = (IntKind.i64.wrap (S1.ρ 15 + (1 : Int))) := ⟨_, rfl⟩
    have u := h_o15
    rw [w_i64 (by omega) (by omega)] at u
    exact ⟨S1.set (upd S1.ρ [(16, o16), (15, o15)]) [(66, (fun j => ifE j ((0 : Int)) ((16 : Int)) ((fun _ => 0) j))), (67, (fun j => ifE j ((0 : Int)) ((16 : Int)) ((fun _ => 0) j))), (68, (fun j => ifE j ((0 : Int)) ((4 : Int)) ((fun _ => 0) j)))] 50 rfl hK, ⟨_, [], _, 1000, _, [(5, 8)], (ai wXI16_1 true d1 (ai wXI16_0 true d0 (ain (sqW 31 15) .i64 16 (sm hk) (AlOk.nil _)))), hcs, LkOk.no _ _ _ _, (an 16 (.lit .i64 1) (sm h_o16.symm) (av 11 .i64 (av 11 .i64 (an 15 (.bin .add (.var .i64 15) (.lit .i64 1)) (sm h_o15.symm) (av 8 .i64 (ar 60 (ar_var 60) (ar 61 (ar_var 61) (ar 62 (ar_var 62) (av 14 .i64 (ar 63 (ar_var 63) (ar 64 (ar_var 64) (ar 65 (ar_var 65) (an 16 (.lit .i64 1) (sm h_o16.symm) (ar 66 (ar_upd (.lit .i64 0) (.lit .i64 16) (i := (0 : Int)) (v := (16 : Int)) rfl rfl (by kernel_rfl) ar_zero) (ar 67 (ar_upd (.lit .i64 0) (.lit .i64 16) (i := (0 : Int)) (v := (16 : Int)) rfl rfl (by kernel_rfl) ar_zero) (ar 68 (ar_upd (.lit .i64 0) (.lit .i64 4) (i := (0 : Int)) (v := (4 : Int)) rfl rfl (by kernel_rfl) ar_zero) (asg_nil rfl))))))))))))))))), fun G => by kernel_rfl⟩, (show o15 = S1.ρ 15 + 1 by omega), RowIs.one (isC_of 1 ⟨rfl, rfl, rfl⟩) hk h_o16 (fun _ => rfl) (fun _ => rfl) (fun _ => rfl), (Stay.refl [15, 16] [66, 67, 68] _).set rfl rfl⟩
  · have c0 : S1.ρ 15 < S1.ρ 11 := by omega
    have d0 : wXI24_0.den S1 = some [b2i true] := tr (p := S1.ρ 15 < S1.ρ 11) c0
    have c1 : ¬ (S1.ρ 15 < (0 : Int)) := by omega
    have d1 : wXI24_1.den S1 = some [b2i true] := tr (p := (0 : Int) ≤ S1.ρ 15) (Int.not_lt.1 c1)
    obtain ⟨o16, h_o16⟩ : ∃ o : Int, o = (1 : Int) := ⟨_, rfl⟩
    obtain ⟨o15, h_o15⟩ : ∃ o : Int, o = (IntKind.i64.wrap (S1.ρ 15 + (1 : Int))) := ⟨_, rfl⟩
    have u := h_o15
    rw [w_i64 (by omega) (by omega)] at u
    exact ⟨S1.set (upd S1.ρ [(16, o16), (15, o15)]) [(66, (fun j => ifE j ((0 : Int)) ((24 : Int)) ((fun _ => 0) j))), (67, (fun j => ifE j ((0 : Int)) ((8 : Int)) ((fun _ => 0) j))), (68, (fun j => ifE j ((0 : Int)) ((2 : Int)) ((fun _ => 0) j)))] 50 rfl hK, ⟨_, [], _, 1000, _, [(5, 8)], (ai wXI24_1 true d1 (ai wXI24_0 true d0 (ain (sqW 31 15) .i64 24 (sm hk) (AlOk.nil _)))), hcs, LkOk.no _ _ _ _, (an 16 (.lit .i64 1) (sm h_o16.symm) (av 11 .i64 (av 11 .i64 (an 15 (.bin .add (.var .i64 15) (.lit .i64 1)) (sm h_o15.symm) (av 8 .i64 (ar 60 (ar_var 60) (ar 61 (ar_var 61) (ar 62 (ar_var 62) (av 14 .i64 (ar 63 (ar_var 63) (ar 64 (ar_var 64) (ar 65 (ar_var 65) (an 16 (.lit .i64 1) (sm h_o16.symm) (ar 66 (ar_upd (.lit .i64 0) (.lit .i64 24) (i := (0 : Int)) (v := (24 : Int)) rfl rfl (by kernel_rfl) ar_zero) (ar 67 (ar_upd (.lit .i64 0) (.lit .i64 8) (i := (0 : Int)) (v := (8 : Int)) rfl rfl (by kernel_rfl) ar_zero) (ar 68 (ar_upd (.lit .i64 0) (.lit .i64 2) (i := (0 : Int)) (v := (2 : Int)) rfl rfl (by kernel_rfl) ar_zero) (asg_nil rfl))))))))))))))))), fun G => by kernel_rfl⟩, (show o15 = S1.ρ 15 + 1 by omega), RowIs.one (isC_of 2 ⟨rfl, rfl, rfl⟩) hk h_o16 (fun _ => rfl) (fun _ => rfl) (fun _ => rfl), (Stay.refl [15, 16] [66, 67, 68] _).set rfl rfl⟩
  · have c0 : S1.ρ 15 < S1.ρ 11 := by omega
    have d0 : wXI32_0.den S1 = some [b2i true] := tr (p := S1.ρ 15 < S1.ρ 11) c0
    have c1 : ¬ (S1.ρ 15 < (0 : Int)) := by omega
    have d1 : wXI32_1.den S1 = some [b2i true] := tr (p := (0 : Int) ≤ S1.ρ 15) (Int.not_lt.1 c1)
    obtain ⟨o16, h_o16⟩ : ∃ o : Int, o = (1 : Int) := ⟨_, rfl⟩
    obtain ⟨o15, h_o15⟩ : ∃ o : Int, o = (IntKind.i64.wrap (S1.ρ 15 + (1 : Int))) := ⟨_, rfl⟩
    have u := h_o15
    rw [w_i64 (by omega) (by omega)] at u
    exact ⟨S1.set (upd S1.ρ [(16, o16), (15, o15)]) [(66, (fun j => ifE j ((0 : Int)) ((32 : Int)) ((fun _ => 0) j))), (67, (fun j => ifE j ((0 : Int)) ((32 : Int)) ((fun _ => 0) j))), (68, (fun j => ifE j ((0 : Int)) ((2 : Int)) ((fun _ => 0) j)))] 50 rfl hK, ⟨_, [], _, 1000, _, [(5, 8)], (ai wXI32_1 true d1 (ai wXI32_0 true d0 (ain (sqW 31 15) .i64 32 (sm hk) (AlOk.nil _)))), hcs, LkOk.no _ _ _ _, (an 16 (.lit .i64 1) (sm h_o16.symm) (av 11 .i64 (av 11 .i64 (an 15 (.bin .add (.var .i64 15) (.lit .i64 1)) (sm h_o15.symm) (av 8 .i64 (ar 60 (ar_var 60) (ar 61 (ar_var 61) (ar 62 (ar_var 62) (av 14 .i64 (ar 63 (ar_var 63) (ar 64 (ar_var 64) (ar 65 (ar_var 65) (an 16 (.lit .i64 1) (sm h_o16.symm) (ar 66 (ar_upd (.lit .i64 0) (.lit .i64 32) (i := (0 : Int)) (v := (32 : Int)) rfl rfl (by kernel_rfl) ar_zero) (ar 67 (ar_upd (.lit .i64 0) (.lit .i64 32) (i := (0 : Int)) (v := (32 : Int)) rfl rfl (by kernel_rfl) ar_zero) (ar 68 (ar_upd (.lit .i64 0) (.lit .i64 2) (i := (0 : Int)) (v := (2 : Int)) rfl rfl (by kernel_rfl) ar_zero) (asg_nil rfl))))))))))))))))), fun G => by kernel_rfl⟩, (show o15 = S1.ρ 15 + 1 by omega), RowIs.one (isC_of 3 ⟨rfl, rfl, rfl⟩) hk h_o16 (fun _ => rfl) (fun _ => rfl) (fun _ => rfl), (Stay.refl [15, 16] [66, 67, 68] _).set rfl rfl⟩
  · have c0 : S1.ρ 15 < S1.ρ 11 := by omega
    have d0 : wXI40_0.den S1 = some [b2i true] := tr (p := S1.ρ 15 < S1.ρ 11) c0
    have c1 : ¬ (S1.ρ 15 < (0 : Int)) := by omega
    have d1 : wXI40_1.den S1 = some [b2i true] := tr (p := (0 : Int) ≤ S1.ρ 15) (Int.not_lt.1 c1)
    obtain ⟨o16, h_o16⟩ : ∃ o : Int, o = (1 : Int) := ⟨_, rfl⟩
    obtain ⟨o15, h_o15⟩ : ∃ o : Int, o = (IntKind.i64.wrap (S1.ρ 15 + (1 : Int))) := ⟨_, rfl⟩
    have u := h_o15
    rw [w_i64 (by omega) (by omega)] at u
    exact ⟨S1.set (upd S1.ρ [(16, o16), (15, o15)]) [(66, (fun j => ifE j ((0 : Int)) ((40 : Int)) ((fun _ => 0) j))), (67, (fun j => ifE j ((0 : Int)) ((8 : Int)) ((fun _ => 0) j))), (68, (fun j => ifE j ((0 : Int)) ((1 : Int)) ((fun _ => 0) j)))] 50 rfl hK, ⟨_, [], _, 1000, _, [(5, 8)], (ai wXI40_1 true d1 (ai wXI40_0 true d0 (ain (sqW 31 15) .i64 40 (sm hk) (AlOk.nil _)))), hcs, LkOk.no _ _ _ _, (an 16 (.lit .i64 1) (sm h_o16.symm) (av 11 .i64 (av 11 .i64 (an 15 (.bin .add (.var .i64 15) (.lit .i64 1)) (sm h_o15.symm) (av 8 .i64 (ar 60 (ar_var 60) (ar 61 (ar_var 61) (ar 62 (ar_var 62) (av 14 .i64 (ar 63 (ar_var 63) (ar 64 (ar_var 64) (ar 65 (ar_var 65) (an 16 (.lit .i64 1) (sm h_o16.symm) (ar 66 (ar_upd (.lit .i64 0) (.lit .i64 40) (i := (0 : Int)) (v := (40 : Int)) rfl rfl (by kernel_rfl) ar_zero) (ar 67 (ar_upd (.lit .i64 0) (.lit .i64 8) (i := (0 : Int)) (v := (8 : Int)) rfl rfl (by kernel_rfl) ar_zero) (ar 68 (ar_upd (.lit .i64 0) (.lit .i64 1) (i := (0 : Int)) (v := (1 : Int)) rfl rfl (by kernel_rfl) ar_zero) (asg_nil rfl))))))))))))))))), fun G => by kernel_rfl⟩, (show o15 = S1.ρ 15 + 1 by omega), RowIs.one (isC_of 4 ⟨rfl, rfl, rfl⟩) hk h_o16 (fun _ => rfl) (fun _ => rfl) (fun _ => rfl), (Stay.refl [15, 16] [66, 67, 68] _).set rfl rfl⟩
  · have c0 : S1.ρ 15 < S1.ρ 11 := by omega
    have d0 : wXI48_0.den S1 = some [b2i true] := tr (p := S1.ρ 15 < S1.ρ 11) c0
    have c1 : ¬ (S1.ρ 15 < (0 : Int)) := by omega
    have d1 : wXI48_1.den S1 = some [b2i true] := tr (p := (0 : Int) ≤ S1.ρ 15) (Int.not_lt.1 c1)
    obtain ⟨o16, h_o16⟩ : ∃ o : Int, o = (1 : Int) := ⟨_, rfl⟩
    obtain ⟨o15, h_o15⟩ : ∃ o : Int, o = (IntKind.i64.wrap (S1.ρ 15 + (1 : Int))) := ⟨_, rfl⟩
    have u := h_o15
    rw [w_i64 (by omega) (by omega)] at u
    exact ⟨S1.set (upd S1.ρ [(16, o16), (15, o15)]) [(66, (fun j => ifE j ((0 : Int)) ((48 : Int)) ((fun _ => 0) j))), (67, (fun j => ifE j ((0 : Int)) ((16 : Int)) ((fun _ => 0) j))), (68, (fun j => ifE j ((0 : Int)) ((1 : Int)) ((fun _ => 0) j)))] 50 rfl hK, ⟨_, [], _, 1000, _, [(5, 8)], (ai wXI48_1 true d1 (ai wXI48_0 true d0 (ain (sqW 31 15) .i64 48 (sm hk) (AlOk.nil _)))), hcs, LkOk.no _ _ _ _, (an 16 (.lit .i64 1) (sm h_o16.symm) (av 11 .i64 (av 11 .i64 (an 15 (.bin .add (.var .i64 15) (.lit .i64 1)) (sm h_o15.symm) (av 8 .i64 (ar 60 (ar_var 60) (ar 61 (ar_var 61) (ar 62 (ar_var 62) (av 14 .i64 (ar 63 (ar_var 63) (ar 64 (ar_var 64) (ar 65 (ar_var 65) (an 16 (.lit .i64 1) (sm h_o16.symm) (ar 66 (ar_upd (.lit .i64 0) (.lit .i64 48) (i := (0 : Int)) (v := (48 : Int)) rfl rfl (by kernel_rfl) ar_zero) (ar 67 (ar_upd (.lit .i64 0) (.lit .i64 16) (i := (0 : Int)) (v := (16 : Int)) rfl rfl (by kernel_rfl) ar_zero) (ar 68 (ar_upd (.lit .i64 0) (.lit .i64 1) (i := (0 : Int)) (v := (1 : Int)) rfl rfl (by kernel_rfl) ar_zero) (asg_nil rfl))))))))))))))))), fun G => by kernel_rfl⟩, (show o15 = S1.ρ 15 + 1 by omega), RowIs.one (isC_of 5 ⟨rfl, rfl, rfl⟩) hk h_o16 (fun _ => rfl) (fun _ => rfl) (fun _ => rfl), (Stay.refl [15, 16] [66, 67, 68] _).set rfl rfl⟩
  · have c0 : S1.ρ 15 < S1.ρ 11 := by omega
    have d0 : wXI56_0.den S1 = some [b2i true] := tr (p := S1.ρ 15 < S1.ρ 11) c0
    have c1 : ¬ (S1.ρ 15 < (0 : Int)) := by omega
    have d1 : wXI56_1.den S1 = some [b2i true] := tr (p := (0 : Int) ≤ S1.ρ 15) (Int.not_lt.1 c1)
    obtain ⟨o16, h_o16⟩ : ∃ o : Int, o = (1 : Int) := ⟨_, rfl⟩
    obtain ⟨o15, h_o15⟩ : ∃ o : Int, o = (IntKind.i64.wrap (S1.ρ 15 + (1 : Int))) := ⟨_, rfl⟩
    have u := h_o15
    rw [w_i64 (by omega) (by omega)] at u
    exact ⟨S1.set (upd S1.ρ [(16, o16), (15, o15)]) [(66, (fun j => ifE j ((0 : Int)) ((56 : Int)) ((fun _ => 0) j))), (67, (fun j => ifE j ((0 : Int)) ((8 : Int)) ((fun _ => 0) j))), (68, (fun j => ifE j ((0 : Int)) ((1 : Int)) ((fun _ => 0) j)))] 50 rfl hK, ⟨_, [], _, 1000, _, [(5, 8)], (ai wXI56_1 true d1 (ai wXI56_0 true d0 (ain (sqW 31 15) .i64 56 (sm hk) (AlOk.nil _)))), hcs, LkOk.no _ _ _ _, (an 16 (.lit .i64 1) (sm h_o16.symm) (av 11 .i64 (av 11 .i64 (an 15 (.bin .add (.var .i64 15) (.lit .i64 1)) (sm h_o15.symm) (av 8 .i64 (ar 60 (ar_var 60) (ar 61 (ar_var 61) (ar 62 (ar_var 62) (av 14 .i64 (ar 63 (ar_var 63) (ar 64 (ar_var 64) (ar 65 (ar_var 65) (an 16 (.lit .i64 1) (sm h_o16.symm) (ar 66 (ar_upd (.lit .i64 0) (.lit .i64 56) (i := (0 : Int)) (v := (56 : Int)) rfl rfl (by kernel_rfl) ar_zero) (ar 67 (ar_upd (.lit .i64 0) (.lit .i64 8) (i := (0 : Int)) (v := (8 : Int)) rfl rfl (by kernel_rfl) ar_zero) (ar 68 (ar_upd (.lit .i64 0) (.lit .i64 1) (i := (0 : Int)) (v := (1 : Int)) rfl rfl (by kernel_rfl) ar_zero) (asg_nil rfl))))))))))))))))), fun G => by kernel_rfl⟩, (show o15 = S1.ρ 15 + 1 by omega), RowIs.one (isC_of 6 ⟨rfl, rfl, rfl⟩) hk h_o16 (fun _ => rfl) (fun _ => rfl) (fun _ => rfl), (Stay.refl [15, 16] [66, 67, 68] _).set rfl rfl⟩
  · have c0 : S1.ρ 15 < S1.ρ 11 := by omega
    have d0 : wXI64_0.den S1 = some [b2i true] := tr (p := S1.ρ 15 < S1.ρ 11) c0
    have c1 : ¬ (S1.ρ 15 < (0 : Int)) := by omega
    have d1 : wXI64_1.den S1 = some [b2i true] := tr (p := (0 : Int) ≤ S1.ρ 15) (Int.not_lt.1 c1)
    obtain ⟨o16, h_o16⟩ : ∃ o : Int, o = (1 : Int) := ⟨_, rfl⟩
    obtain ⟨o15, h_o15⟩ : ∃ o : Int, o = (IntKind.i64.wrap (S1.ρ 15 + (1 : Int))) := ⟨_, rfl⟩
    have u := h_o15
    rw [w_i64 (by omega) (by omega)] at u
    exact ⟨S1.set (upd S1.ρ [(16, o16), (15, o15)]) [(66, (fun j => ifE j ((0 : Int)) ((64 : Int)) ((fun _ => 0) j))), (67, (fun j => ifE j ((0 : Int)) ((64 : Int)) ((fun _ => 0) j))), (68, (fun j => ifE j ((0 : Int)) ((1 : Int)) ((fun _ => 0) j)))] 50 rfl hK, ⟨_, [], _, 1000, _, [(5, 8)], (ai wXI64_1 true d1 (ai wXI64_0 true d0 (ain (sqW 31 15) .i64 64 (sm hk) (AlOk.nil _)))), hcs, LkOk.no _ _ _ _, (an 16 (.lit .i64 1) (sm h_o16.symm) (av 11 .i64 (av 11 .i64 (an 15 (.bin .add (.var .i64 15) (.lit .i64 1)) (sm h_o15.symm) (av 8 .i64 (ar 60 (ar_var 60) (ar 61 (ar_var 61) (ar 62 (ar_var 62) (av 14 .i64 (ar 63 (ar_var 63) (ar 64 (ar_var 64) (ar 65 (ar_var 65) (an 16 (.lit .i64 1) (sm h_o16.symm) (ar 66 (ar_upd (.lit .i64 0) (.lit .i64 64) (i := (0 : Int)) (v := (64 : Int)) rfl rfl (by kernel_rfl) ar_zero) (ar 67 (ar_upd (.lit .i64 0) (.lit .i64 64) (i := (0 : Int)) (v := (64 : Int)) rfl rfl (by kernel_rfl) ar_zero) (ar 68 (ar_upd (.lit .i64 0) (.lit .i64 1) (i := (0 : Int)) (v := (1 : Int)) rfl rfl (by kernel_rfl) ar_zero) (asg_nil rfl))))))))))))))))), fun G => by kernel_rfl⟩, (show o15 = S1.ρ 15 + 1 by omega), RowIs.one (isC_of 7 ⟨rfl, rfl, rfl⟩) hk h_o16 (fun _ => rfl) (fun _ => rfl) (fun _ => rfl), (Stay.refl [15, 16] [66, 67, 68] _).set rfl rfl⟩
def wYI0 : Tm := (.bin .lss (.var .i64 15) (.var .i64 11))
def wYI1 : Tm := (.bin .geq (.var .i64 15) (.lit .i64 0))
def wYI2 : Tm := (.bin .geq (.app .i64 31 (.cons (.var .i64 15) .nil)) (.lit .i64 8))
def wYI3 : Tm := (.bin .leq (.app .i64 31 (.cons (.var .i64 15) .nil)) (.lit .i64 64))
def wYI4 : Tm := (.bin .eql (.bin .rem (.app .i64 31 (.cons (.var .i64 15) .nil)) (.lit .i64 8)) (.lit .i64 0))
def wTI8_0 : Tm := (.bin .lss (.var .i64 15) (.var .i64 11))
def wTI8_1 : Tm := (.bin .geq (.var .i64 15) (.lit .i64 0))
def wTI8_2 : Tm := (.bin .geq (.var .i64 16) (.lit .i64 0))
def wTI8_3 : Tm := (.bin .lss (.var .i64 16) (.lit .i64 4194304))
def wTI8_4 : Tm := (.bin .lss (.bin .add (.var .i64 16) (.lit .i64 1)) (.lit .i64 4194304))
def wTI16_0 : Tm := (.bin .lss (.var .i64 15) (.var .i64 11))
def wTI16_1 : Tm := (.bin .geq (.var .i64 15) (.lit .i64 0))
def wTI16_2 : Tm := (.bin .geq (.var .i64 16) (.lit .i64 0))
def wTI16_3 : Tm := (.bin .lss (.var .i64 16) (.lit .i64 4194304))
def wTI16_4 : Tm := (.bin .lss (.bin .add (.var .i64 16) (.lit .i64 1)) (.lit .i64 4194304))
def wTI24_0 : Tm := (.bin .lss (.var .i64 15) (.var .i64 11))
def wTI24_1 : Tm := (.bin .geq (.var .i64 15) (.lit .i64 0))
def wTI24_2 : Tm := (.bin .geq (.var .i64 16) (.lit .i64 0))
def wTI24_3 : Tm := (.bin .lss (.var .i64 16) (.lit .i64 4194304))
def wTI24_4 : Tm := (.bin .lss (.bin .add (.var .i64 16) (.lit .i64 1)) (.lit .i64 4194304))
def wTI32_0 : Tm := (.bin .lss (.var .i64 15) (.var .i64 11))
def wTI32_1 : Tm := (.bin .geq (.var .i64 15) (.lit .i64 0))
def wTI32_2 : Tm := (.bin .geq (.var .i64 16) (.lit .i64 0))
def wTI32_3 : Tm := (.bin .lss (.var .i64 16) (.lit .i64 4194304))
def wTI32_4 : Tm := (.bin .lss (.bin .add (.var .i64 16) (.lit .i64 1)) (.lit .i64 4194304))
def wTI40_0 : Tm := (.bin .lss (.var .i64 15) (.var .i64 11))
def wTI40_1 : Tm := (.bin .geq (.var .i64 15) (.lit .i64 0))
def wTI40_2 : Tm := (.bin .geq (.var .i64 16) (.lit .i64 0))
def wTI40_3 : Tm := (.bin .lss (.var .i64 16) (.lit .i64 4194304))
def wTI40_4 : Tm := (.bin .lss (.bin .add (.var .i64 16) (.lit .i64 1)) (.lit .i64 4194304))
def wTI48_0 : Tm := (.bin .lss (.var .i64 15) (.var .i64 11))
def wTI48_1 : Tm := (.bin .geq (.var .i64 15) (.lit .i64 0))
def wTI48_2 : Tm := (.bin .geq (.var .i64 16) (.lit .i64 0))
def wTI48_3 : Tm := (.bin .lss (.var .i64 16) (.lit .i64 4194304))
def wTI48_4 : Tm := (.bin .lss (.bin .add (.var .i64 16) (.lit .i64 1)) (.lit .i64 4194304))
def wTI56_0 : Tm := (.bin .lss (.var .i64 15) (.var .i64 11))
def wTI56_1 : Tm := (.bin .geq (.var .i64 15) (.lit .i64 0))
def wTI56_2 : Tm := (.bin .geq (.var .i64 16) (.lit .i64 0))
def wTI56_3 : Tm := (.bin .lss (.var .i64 16) (.lit .i64 4194304))
def wTI56_4 : Tm := (.bin .lss (.bin .add (.var .i64 16) (.lit .i64 1)) (.lit .i64 4194304))
def wTI64_0 : Tm := (.bin .lss (.var .i64 15) (.var .i64 11))
def wTI64_1 : Tm := (.bin .geq (.var .i64 15) (.lit .i64 0))
def wTI64_2 : Tm := (.bin .geq (.var .i64 16) (.lit .i64 0))
def wTI64_3 : Tm := (.bin .lss (.var .i64 16) (.lit .i64 4194304))
def wTI64_4 : Tm := (.bin .lss (.bin .add (.var .i64 16) (.lit .i64 1)) (.lit .i64 4194304))
theorem rowI {S1 : Sy} {l : List Int} (h0 : 0 ≤ S1.ρ 15) (h1 : S1.ρ 15 < S1.ρ 11) (h2 : S1.ρ 11 ≤ 4096) (h3 : l.length ≤ 4096) (hr : RowIs S1 16 66 l) (hK : ∀ x ∈ S1.I, x.f + x.ks.length ≤ 50) :
    ∃ S2, StepTo Try.prog ftW ΛW [] (cAt Try.prog lpWM) XI1W FIrW 5 S1 S2 ∧ S2.ρ 15 = S1.ρ 15 + 1 ∧ RowIs S2 16 66 (if okS (S1.Φ 31 [S1.ρ 15]) then l ++ [S1.Φ 31 [S1.ρ 15]] else l) ∧ Stay [15, 16] [66, 67, 68] S1 S2 := by
  have hcs : ∀ c ∈ ([] : List Ctr), CtrOk Try.prog S1 [] c := fun c hc => by simp at hc
  have h4 := hr.1
  by_cases hv : okS (S1.Φ 31 [S1.ρ 15])
  · rcases okS_cases hv with hk | hk | hk | hk | hk | hk | hk | hk
    · have c0 : S1.ρ 15 < S1.ρ 11 := by omega
      have d0 : wTI8_0.den S1 = some [b2i true] := tr (p := S1.ρ 15 < S1.ρ 11) c0
      have c1 : ¬ (S1.ρ 15 < (0 : Int)) := by omega
      have d1 : wTI8_1.den S1 = some [b2i true] := tr (p := (0 : Int) ≤ S1.ρ 15) (Int.not_lt.1 c1)
      have c2 : ¬ (S1.ρ 16 < (0 : Int)) := by omega
      have d2 : wTI8_2.den S1 = some [b2i true] := tr (p := (0 : Int) ≤ S1.ρ 16) (Int.not_lt.1 c2)
      have c3 : S1.ρ 16 < (4194304 : Int) := by omega
      have d3 : wTI8_3.den S1 = some [b2i true] := tr (p := S1.ρ 16 < (4194304 : Int)) c3
      have c4 : (IntKind.i64.wrap (S1.ρ 16 + (1 : Int))) < (4194304 : Int) := by rw [w_i64 (by omega) (by omega)]; omega
      have d4 : wTI8_4.den S1 = some [b2i true] := tr (p := (IntKind.i64.wrap (S1.ρ 16 + (1 : Int))) < (4194304 : Int)) c4
      obtain ⟨o16, h_o16⟩ : ∃ o : Int, o = (IntKind.i64.wrap (S1.ρ 16 + (1 : Int))) := ⟨_, rfl⟩
      obtain ⟨o15, h_o15⟩ : ∃ o : Int, o = (IntKind.i64.wrap (S1.ρ 15 + (1 : Int))) := ⟨_, rfl⟩
      have u := h_o15
      rw [w_i64 (by omega) (by omega)] at u
      have u2 := h_o16
      rw [w_i64 (by omega) (by omega)] at u2
      refine ⟨S1.set (upd S1.ρ [(16, o16), (15, o15)]) [(66, (fun j => ifE j (S1.ρ 16) ((8 : Int)) ((fun j => S1.Φ 66 [j]) j))), (67, (fun j => ifE j (S1.ρ 16) ((8 : Int)) ((fun j => S1.Φ 67 [j]) j))), (68, (fun j => ifE j (S1.ρ 16) ((8 : Int)) ((fun j => S1.Φ 68 [j]) j)))] 50 rfl hK, ⟨_, [], _, 1000, _, [(5, 8)], (ai wTI8_4 true d4 (ai wTI8_3 true d3 (ai wTI8_2 true d2 (ai wTI8_1 true d1 (ai wTI8_0 true d0 (ain (sqW 31 15) .i64 8 (sm hk) (AlOk.nil _))))))), hcs, LkOk.no _ _ _ _, (an 16 (.bin .add (.var .i64 16) (.lit .i64 1)) (sm h_o16.symm) (av 11 .i64 (av 11 .i64 (an 15 (.bin .add (.var .i64 15) (.lit .i64 1)) (sm h_o15.symm) (av 8 .i64 (ar 60 (ar_var 60) (ar 61 (ar_var 61) (ar 62 (ar_var 62) (av 14 .i64 (ar 63 (ar_var 63) (ar 64 (ar_var 64) (ar 65 (ar_var 65) (an 16 (.bin .add (.var .i64 16) (.lit .i64 1)) (sm h_o16.symm) (ar 66 (ar_upd (.var .i64 16) (.lit .i64 8) (i := S1.ρ 16) (v := (8 : Int)) rfl rfl (by kernel_rfl) (ar_var 66)) (ar 67 (ar_upd (.var .i64 16) (.lit .i64 8) (i := S1.ρ 16) (v := (8 : Int)) rfl rfl (by kernel_rfl) (ar_var 67)) (ar 68 (ar_upd (.var .i64 16) (.lit .i64 8) (i := S1.ρ 16) (v := (8 : Int)) rfl rfl (by kernel_rfl) (ar_var 68)) (asg_nil rfl))))))))))))))))), fun G => by kernel_rfl⟩, (show o15 = S1.ρ 15 + 1 by omega), ?_, (Stay.refl [15, 16] [66, 67, 68] _).set rfl rfl⟩
      rw [if_pos hv]
      exact hr.upd (isC_of 0 ⟨rfl, rfl, rfl⟩) hk (show o16 = S1.ρ 16 + 1 by omega) (fun _ => rfl) (fun _ => rfl) (fun _ => rfl)
    · have c0 : S1.ρ 15 < S1.ρ 11 := by omega
      have d0 : wTI16_0.den S1 = some [b2i true] := tr (p := S1.ρ 15 < S1.ρ 11) c0
      have c1 : ¬ (S1.ρ 15 < (0 : Int)) := by omega
      have d1 : wTI16_1.den S1 = some [b2i true] := tr (p := (0 : Int) ≤ S1.ρ 15) (Int.not_lt.1 c1)
      have c2 : ¬ (S1.ρ 16 < (0 : Int)) := by omega
      have d2 : wTI16_2.den S1 = some [b2i true] := tr (p := (0 : Int) ≤ S1.ρ 16) (Int.not_lt.1 c2)
      have c3 : S1.ρ 16 < (4194304 : Int) := by omega
      have d3 : wTI16_3.den S1 = some [b2i true] := tr (p := S1.ρ 16 < (4194304 : Int)) c3
      have c4 : (IntKind.i64.wrap (S1.ρ 16 + (1 : Int))) < (4194304 : Int) := by rw [w_i64 (by omega) (by omega)]; omega
      have d4 : wTI16_4.den S1 = some [b2i true] := tr (p := (IntKind.i64.wrap (S1.ρ 16 + (1 : Int))) < (4194304 : Int)) c4
      obtain ⟨o16, h_o16⟩ : ∃ o : Int, o = (IntKind.i64.wrap (S1.ρ 16 + (1 : Int))) := ⟨_, rfl⟩
      obtain ⟨o15, h_o15⟩ : ∃ o : Int, o = (IntKind.i64.wrap (S1.ρ 15 + (1 : Int))) := ⟨_, rfl⟩
      have u := h_o15
      rw [w_i64 (by omega) (by omega)] at u
      have u2 := h_o16
      rw [w_i64 (by omega) (by omega)] at u2
      refine ⟨S1.set (upd S1.ρ [(16, o16), (15, o15)]) [(66, (fun j => ifE j (S1.ρ 16) ((16 : Int)) ((fun j => S1.Φ 66 [j]) j))), (67, (fun j => ifE j (S1.ρ 16) ((16 : Int)) ((fun j => S1.Φ 67 [j]) j))), (68, (fun j => ifE j (S1.ρ 16) ((4 : Int)) ((fun j => S1.Φ 68 [j]) j)))] 50 rfl hK, ⟨_, [], _, 1000, _, [(5, 8)], (ai wTI16_4 true d4 (ai wTI16_3 true d3 (ai wTI16_2 true d2 (ai wTI16_1 true d1 (ai wTI16_0 true d0 (ain (sqW 31 15) .i64 16 (sm hk) (AlOk.nil _))))))), hcs, LkOk.no _ _ _ _, (an 16 (.bin .add (.var .i64 16) (.lit .i64 1)) (sm h_o16.symm) (av 11 .i64 (av 11 .i64 (an 15 (.bin .add (.var .i64 15) (.lit .i64 1)) (sm h_o15.symm) (av 8 .i64 (ar 60 (ar_var 60) (ar 61 (ar_var 61) (ar 62 (ar_var 62) (av 14 .i64 (ar 63 (ar_var 63) (ar 64 (ar_var 64) (ar 65 (ar_var 65) (an 16 (.bin .add (.var .i64 16) (.lit .i64 1)) (sm h_o16.symm) (ar 66 (ar_upd (.var .i64 16) (.lit .i64 16) (i := S1.ρ 16) (v := (16 : Int)) rfl rfl (by kernel_rfl) (ar_var 66)) (ar 67 (ar_upd (.var .i64 16) (.lit .i64 16) (i := S1.ρ 16) (v := (16 : Int)) rfl rfl (by kernel_rfl) (ar_var 67)) (ar 68 (ar_upd (.var .i64 16) (.lit .i64 4) (i := S1.ρ 16) (v := (4 : Int)) rfl rfl (by kernel_rfl) (ar_var 68)) (asg_nil rfl))))))))))))))))), fun G => by kernel_rfl⟩, (show o15 = S1.ρ 15 + 1 by omega), ?_, (Stay.refl [15, 16] [66, 67, 68] _).set rfl rfl⟩
      rw [if_pos hv]
      exact hr.upd (isC_of 1 ⟨rfl, rfl, rfl⟩) hk (show o16 = S1.ρ 16 + 1 by omega) (fun _ => rfl) (fun _ => rfl) (fun _ => rfl)
    · have c0 : S1.ρ 15 < S1.ρ 11 := by omega
      have d0 : wTI24_0.den S1 = some [b2i true] := tr (p := S1.ρ 15 < S1.ρ 11) c0
      have c1 : ¬ (S1.ρ 15 < (0 : Int)) := by omega
      have d1 : wTI24_1.den S1 = some [b2i true] := tr (p := (0 : Int) ≤ S1.ρ 15) (Int.not_lt.1 c1)
      have c2 : ¬ (S1.ρ 16 < (0 : Int)) := by omega
      have d2 : wTI24_2.den S1 = some [b2i true] := tr (p := (0 : Int) ≤ S1.ρ 16) (Int.not_lt.1 c2)
      have c3 : S1.ρ 16 < (4194304 : Int) := by omega
      have d3 : wTI24_3.den S1 = some [b2i true] := tr (p := S1.ρ 16 < (4194304 : Int)) c3
      have c4 : (IntKind.i64.wrap (S1.ρ 16 + (1 : Int))) < (4194304 : Int) := by rw [w_i64 (by omega) (by omega)]; omega
      have d4 : wTI24_4.den S1 = some [b2i true] := tr (p := (IntKind.i64.wrap (S1.ρ 16 + (1 : Int))) < (4194304 : Int)) c4
      obtain ⟨o16, h_o16⟩ : ∃ o : Int, o = (IntKind.i64.wrap (S1.ρ 16 + (1 : Int))) := ⟨_, rfl⟩
      obtain ⟨o15, h_o15⟩ : ∃ o : Int, o = (IntKind.i64.wrap (S1.ρ 15 + (1 : Int))) := ⟨_, rfl⟩
      have u := h_o15
      rw [w_i64 (by omega) (by omega)] at u
      have u2 := h_o16
      rw [w_i64 (by omega) (by omega)] at u2
      refine ⟨S1.set (upd S1.ρ [(16, o16), (15, o15)]) [(66, (fun j => ifE j (S1.ρ 16) ((24 : Int)) ((fun j => S1.Φ 66 [j]) j))), (67, (fun j => ifE j (S1.ρ 16) ((8 : Int)) ((fun j => S1.Φ 67 [j]) j))), (68, (fun j => ifE j (S1.ρ 16) ((2 : Int)) ((fun j => S1.Φ 68 [j]) j)))] 50 rfl hK, ⟨_, [], _, 1000, _, [(5, 8)], (ai wTI24_4 true d4 (ai wTI24_3 true d3 (ai wTI24_2 true d2 (ai wTI24_1 true d1 (ai wTI24_0 true d0 (ain (sqW 31 15) .i64 24 (sm hk) (AlOk.nil _))))))), hcs, LkOk.no _ _ _ _, (an 16 (.bin .add (.var .i64 16) (.lit .i64 1)) (sm h_o16.symm) (av 11 .i64 (av 11 .i64 (an 15 (.bin .add (.var .i64 15) (.lit .i64 1)) (sm h_o15.symm) (av 8 .i64 (ar 60 (ar_var 60) (ar 61 (ar_var 61) (ar 62 (ar_var 62) (av 14 .i64 (ar 63 (ar_var 63) (ar 64 (ar_var 64) (ar 65 (ar_var 65) (an 16 (.bin .add (.var .i64 16) (.lit .i64 1)) (sm h_o16.symm) (ar 66 (ar_upd (.var .i64 16) (.lit .i64 24) (i := S1.ρ 16) (v := (24 : Int)) rfl rfl (by kernel_rfl) (ar_var 66)) (ar 67 (ar_upd (.var .i64 16) (.lit .i64 8) (i := S1.ρ 16) (v := (8 : Int)) rfl rfl (by kernel_rfl) (ar_var 67)) (ar 68 (ar_upd (.var .i64 16) (.lit .i64 2) (i := S1.ρ 16) (v := (2 : Int)) rfl rfl (by kernel_rfl) (ar_var 68)) (asg_nil rfl))))))))))))))))), fun G => by kernel_rfl⟩, (show o15 = S1.ρ 15 + 1 by omega), ?_, (Stay.refl [15, 16] [66, 67, 68] _).set rfl rfl⟩
      rw [if_pos hv]
      exact hr.upd (isC_of 2 ⟨rfl, rfl, rfl⟩) hk (show o16 = S1.ρ 16 + 1 by omega) (fun _ => rfl) (fun _ => rfl) (fun _ => rfl)
    · have c0 : S1.ρ 15 < S1.ρ 11 := by omega
      have d0 : wTI32_0.den S1 = some [b2i true] := tr (p := S1.ρ 15 < S1.ρ 11) c0
      have c1 : ¬ (S1.ρ 15 < (0 : Int)) := by omega
      have d1 : wTI32_1.den S1 = some [b2i true] := tr (p := (0 : Int) ≤ S1.ρ 15) (Int.not_lt.1 c1)
      have c2 : ¬ (S1.ρ 16 < (0 : Int)) := by omega
      have d2 : wTI32_2.den S1 = some [b2i true] := tr (p := (0 : Int) ≤ S1.ρ 16) (Int.not_lt.1 c2)
      have c3 : S1.ρ 16 < (4194304 : Int) := by omega
      have d3 : wTI32_3.den S1 = some [b2i true] := tr (p := S1.ρ 16 < (4194304 : Int)) c3
      have c4 : (IntKind.i64.wrap (S1.ρ 16 + (1 : Int))) < (4194304 : Int) := by rw [w_i64 (by omega) (by omega)]; omega
      have d4 : wTI32_4.den S1 = some [b2i true] := tr (p := (IntKind.i64.wrap (S1.ρ 16 + (1 : Int))) < (4194304 : Int)) c4
      obtain ⟨o16, h_o16⟩ : ∃ o : Int, o = (IntKind.i64.wrap (S1.ρ 16 + (1 : Int))) := ⟨_, rfl⟩
      obtain ⟨o15, h_o15⟩ : ∃ o : Int, o = (IntKind.i64.wrap (S1.ρ 15 + (1 : Int))) := ⟨_, rfl⟩
      have u := h_o15
      rw [w_i64 (by omega) (by omega)] at u
      have u2 := h_o16
      rw [w_i64 (by omega) (by omega)] at u2
      refine ⟨S1.set (upd S1.ρ [(16, o16), (15, o15)]) [(66, (fun j => ifE j (S1.ρ 16) ((32 : Int)) ((fun j => S1.Φ 66 [j]) j))), (67, (fun j => ifE j (S1.ρ 16) ((32 : Int)) ((fun j => S1.Φ 67 [j]) j))), (68, (fun j => ifE j (S1.ρ 16) ((2 : Int)) ((fun j => S1.Φ 68 [j]) j)))] 50 rfl hK, ⟨_, [], _, 1000, _, [(5, 8)], (ai wTI32_4 true d4 (ai wTI32_3 true d3 (ai wTI32_2 true d2 (ai wTI32_1 true d1 (ai wTI32_0 true d0 (ain (sqW 31 15) .i64 32 (sm hk) (AlOk.nil _))))))), hcs, LkOk.no _ _ _ _, (an 16 (.bin .add (.var .i64 16) (.lit .i64 1)) (sm h_o16.symm) (av 11 .i64 (av 11 .i64 (an 15 (.bin .add (.var .i64 15) (.lit .i64 1)) (sm h_o15.symm) (av 8 .i64 (ar 60 (ar_var 60) (ar 61 (ar_var 61) (ar 62 (ar_var 62) (av 14 .i64 (ar 63 (ar_var 63) (ar 64 (ar_var 64) (ar 65 (ar_var 65) (an 16 (.bin .add (.var .i64 16) (.lit .i64 1)) (sm h_o16.symm) (ar 66 (ar_upd (.var .i64 16) (.lit .i64 32) (i := S1.ρ 16) (v := (32 : Int)) rfl rfl (by kernel_rfl) (ar_var 66)) (ar 67 (ar_upd (.var .i64 16) (.lit .i64 32) (i := S1.ρ 16) (v := (32 : Int)) rfl rfl (by kernel_rfl) (ar_var 67)) (ar 68 (ar_upd (.var .i64 16) (.lit .i64 2) (i := S1.ρ 16) (v := (2 : Int)) rfl rfl (by kernel_rfl) (ar_var 68)) (asg_nil rfl))))))))))))))))), fun G => by kernel_rfl⟩, (show o15 = S1.ρ 15 + 1 by omega), ?_, (Stay.refl [15, 16] [66, 67, 68] _).set rfl rfl⟩
      rw [if_pos hv]
      exact hr.upd (isC_of 3 ⟨rfl, rfl, rfl⟩) hk (show o16 = S1.ρ 16 + 1 by omega) (fun _ => rfl) (fun _ => rfl) (fun _ => rfl)
    · have c0 : S1.ρ 15 < S1.ρ 11 := by omega
      have d0 : wTI40_0.den S1 = some [b2i true] := tr (p := S1.ρ 15 < S1.ρ 11) c0
      have c1 : ¬ (S1.ρ 15 < (0 : Int)) := by omega
      have d1 : wTI40_1.den S1 = some [b2i true] := tr (p := (0 : Int) ≤ S1.ρ 15) (Int.not_lt.1 c1)
      have c2 : ¬ (S1.ρ 16 < (0 : Int)) := by omega
      have d2 : wTI40_2.den S1 = some [b2i true] := tr (p := (0 : Int) ≤ S1.ρ 16) (Int.not_lt.1 c2)
      have c3 : S1.ρ 16 < (4194304 : Int) := by omega
      have d3 : wTI40_3.den S1 = some [b2i true] := tr (p := S1.ρ 16 < (4194304 : Int)) c3
      have c4 : (IntKind.i64.wrap (S1.ρ 16 + (1 : Int))) < (4194304 : Int) := by rw [w_i64 (by omega) (by omega)]; omega
      have d4 : wTI40_4.den S1 = some [b2i true] := tr (p := (IntKind.i64.wrap (S1.ρ 16 + (1 : Int))) < (4194304 : Int)) c4
      obtain ⟨o16, h_o16⟩ : ∃ o : Int, o = (IntKind.i64.wrap (S1.ρ 16 + (1 : Int))) := ⟨_, rfl⟩
      obtain ⟨o15, h_o15⟩ : ∃ o : Int, o = (IntKind.i64.wrap (S1.ρ 15 + (1 : Int))) := ⟨_, rfl⟩
      have u := h_o15
      rw [w_i64 (by omega) (by omega)] at u
      have u2 := h_o16
      rw [w_i64 (by omega) (by omega)] at u2
      refine ⟨S1.set (upd S1.ρ [(16, o16), (15, o15)]) [(66, (fun j => ifE j (S1.ρ 16) ((40 : Int)) ((fun j => S1.Φ 66 [j]) j))), (67, (fun j => ifE j (S1.ρ 16) ((8 : Int)) ((fun j => S1.Φ 67 [j]) j))), (68, (fun j => ifE j (S1.ρ 16) ((1 : Int)) ((fun j => S1.Φ 68 [j]) j)))] 50 rfl hK, ⟨_, [], _, 1000, _, [(5, 8)], (ai wTI40_4 true d4 (ai wTI40_3 true d3 (ai wTI40_2 true d2 (ai wTI40_1 true d1 (ai wTI40_0 true d0 (ain (sqW 31 15) .i64 40 (sm hk) (AlOk.nil _))))))), hcs, LkOk.no _ _ _ _, (an 16 (.bin .add (.var .i64 16) (.lit .i64 1)) (sm h_o16.symm) (av 11 .i64 (av 11 .i64 (an 15 (.bin .add (.var .i64 15) (.lit .i64 1)) (sm h_o15.symm) (av 8 .i64 (ar 60 (ar_var 60) (ar 61 (ar_var 61) (ar 62 (ar_var 62) (av 14 .i64 (ar 63 (ar_var 63) (ar 64 (ar_var 64) (ar 65 (ar_var 65) (an 16 (.bin .add (.var .i64 16) (.lit .i64 1)) (sm h_o16.symm) (ar 66 (ar_upd (.var .i64 16) (.lit .i64 40) (i := S1.ρ 16) (v := (40 : Int)) rfl rfl (by kernel_rfl) (ar_var 66)) (ar 67 (ar_upd (.var .i64 16) (.lit .i64 8) (i := S1.ρ 16) (v := (8 : Int)) rfl rfl (by kernel_rfl) (ar_var 67)) (ar 68 (ar_upd (.var .i64 16) (.lit .i64 1) (i := S1.ρ 16) (v := (1 : Int)) rfl rfl (by kernel_rfl) (ar_var 68)) (asg_nil rfl))))))))))))))))), fun G => by kernel_rfl⟩, (show o15 = S1.ρ 15 + 1 by omega), ?_, (Stay.refl [15, 16] [66, 67, 68] _).set rfl rfl⟩
      rw [if_pos hv]
      exact hr.upd (isC_of 4 ⟨rfl, rfl, rfl⟩) hk (show o16 = S1.ρ 16 + 1 by omega) (fun _ => rfl) (fun _ => rfl) (fun _ => rfl)
    · have c0 : S1.ρ 15 < S1.ρ 11 := by omega
      have d0 : wTI48_0.den S1 = some [b2i true] := tr (p := S1.ρ 15 < S1.ρ 11) c0
      have c1 : ¬ (S1.ρ 15 < (0 : Int)) := by omega
      have d1 : wTI48_1.den S1 = some [b2i true] := tr (p := (0 : Int) ≤ S1.ρ 15) (Int.not_lt.1 c1)
      have c2 : ¬ (S1.ρ 16 < (0 : Int)) := by omega
      have d2 : wTI48_2.den S1 = some [b2i true] := tr (p := (0 : Int) ≤ S1.ρ 16) (Int.not_lt.1 c2)
      have c3 : S1.ρ 16 < (4194304 : Int) := by omega
      have d3 : wTI48_3.den S1 = some [b2i true] := tr (p := S1.ρ 16 < (4194304 : Int)) c3
      have c4 : (IntKind.i64.wrap (S1.ρ 16 + (1 : Int))) < (4194304 : Int) := by rw [w_i64 (by omega) (by omega)]; omega
      have d4 : wTI48_4.den S1 = some [b2i true] := tr (p := (IntKind.i64.wrap (S1.ρ 16 + (1 : Int))) < (4194304 : Int)) c4
      obtain ⟨o16, h_o16⟩ : ∃ o : Int, o = (IntKind.i64.wrap (S1.ρ 16 + (1 : Int))) := ⟨_, rfl⟩
      obtain ⟨o15, h_o15⟩ : ∃ o : Int, o = (IntKind.i64.wrap (S1.ρ 15 + (1 : Int))) := ⟨_, rfl⟩
      have u := h_o15
      rw [w_i64 (by omega) (by omega)] at u
      have u2 := h_o16
      rw [w_i64 (by omega) (by omega)] at u2
      refine ⟨S1.set (upd S1.ρ [(16, o16), (15, o15)]) [(66, (fun j => ifE j (S1.ρ 16) ((48 : Int)) ((fun j => S1.Φ 66 [j]) j))), (67, (fun j => ifE j (S1.ρ 16) ((16 : Int)) ((fun j => S1.Φ 67 [j]) j))), (68, (fun j => ifE j (S1.ρ 16) ((1 : Int)) ((fun j => S1.Φ 68 [j]) j)))] 50 rfl hK, ⟨_, [], _, 1000, _, [(5, 8)], (ai wTI48_4 true d4 (ai wTI48_3 true d3 (ai wTI48_2 true d2 (ai wTI48_1 true d1 (ai wTI48_0 true d0 (ain (sqW 31 15) .i64 48 (sm hk) (AlOk.nil _))))))), hcs, LkOk.no _ _ _ _, (an 16 (.bin .add (.var .i64 16) (.lit .i64 1)) (sm h_o16.symm) (av 11 .i64 (av 11 .i64 (an 15 (.bin .add (.var .i64 15) (.lit .i64 1)) (sm h_o15.symm) (av 8 .i64 (ar 60 (ar_var 60) (ar 61 (ar_var 61) (ar 62 (ar_var 62) (av 14 .i64 (ar 63 (ar_var 63) (ar 64 (ar_var 64) (ar 65 (ar_var 65) (an 16 (.bin .add (.var .i64 16) (.lit .i64 1)) (sm h_o16.symm) (ar 66 (ar_upd (.var .i64 16) (.lit .i64 48) (i := S1.ρ 16) (v := (48 : Int)) rfl rfl (by kernel_rfl) (ar_var 66)) (ar 67 (ar_upd (.var .i64 16) (.lit .i64 16) (i := S1.ρ 16) (v := (16 : Int)) rfl rfl (by kernel_rfl) (ar_var 67)) (ar 68 (ar_upd (.var .i64 16) (.lit .i64 1) (i := S1.ρ 16) (v := (1 : Int)) rfl rfl (by kernel_rfl) (ar_var 68)) (asg_nil rfl))))))))))))))))), fun G => by kernel_rfl⟩, (show o15 = S1.ρ 15 + 1 by omega), ?_, (Stay.refl [15, 16] [66, 67, 68] _).set rfl rfl⟩
      rw [if_pos hv]
      exact hr.upd (isC_of 5 ⟨rfl, rfl, rfl⟩) hk (show o16 = S1.ρ 16 + 1 by omega) (fun _ => rfl) (fun _ => rfl) (fun _ => rfl)
    · have c0 : S1.ρ 15 < S1.ρ 11 := by omega
      have d0 : wTI56_0.den S1 = some [b2i true] := tr (p := S1.ρ 15 < S1.ρ 11) c0
      have c1 : ¬ (S1.ρ 15 < (0 : Int)) := by omega
      have d1 : wTI56_1.den S1 = some [b2i true] := tr (p := (0 : Int) ≤ S1.ρ 15) (Int.not_lt.1 c1)
      have c2 : ¬ (S1.ρ 16 < (0 : Int)) := by omega
      have d2 : wTI56_2.den S1 = some [b2i true] := tr (p := (0 : Int) ≤ S1.ρ 16) (Int.not_lt.1 c2)
      have c3 : S1.ρ 16 < (4194304 : Int) := by omega
      have d3 : wTI56_3.den S1 = some [b2i true] := tr (p := S1.ρ 16 < (4194304 : Int)) c3
      have c4 : (IntKind.i64.wrap (S1.ρ 16 + (1 : Int))) < (4194304 : Int) := by rw [w_i64 (by omega) (by omega)]; omega
      have d4 : wTI56_4.den S1 = some [b2i true] := tr (p := (IntKind.i64.wrap (S1.ρ 16 + (1 : Int))) < (4194304 : Int)) c4
      obtain ⟨o16, h_o16⟩ : ∃ o : Int, o = (IntKind.i64.wrap (S1.ρ 16 + (1 : Int))) := ⟨_, rfl⟩
      obtain ⟨o15, h_o15⟩ : ∃ o : Int, o = (IntKind.i64.wrap (S1.ρ 15 + (1 : Int))) := ⟨_, rfl⟩
      have u := h_o15
      rw [w_i64 (by omega) (by omega)] at u
      have u2 := h_o16
      rw [w_i64 (by omega) (by omega)] at u2
      refine ⟨S1.set (upd S1.ρ [(16, o16), (15, o15)]) [(66, (fun j => ifE j (S1.ρ 16) ((56 : Int)) ((fun j => S1.Φ 66 [j]) j))), (67, (fun j => ifE j (S1.ρ 16) ((8 : Int)) ((fun j => S1.Φ 67 [j]) j))), (68, (fun j => ifE j (S1.ρ 16) ((1 : Int)) ((fun j => S1.Φ 68 [j]) j)))] 50 rfl hK, ⟨_, [], _, 1000, _, [(5, 8)], (ai wTI56_4 true d4 (ai wTI56_3 true d3 (ai wTI56_2 true d2 (ai wTI56_1 true d1 (ai wTI56_0 true d0 (ain (sqW 31 15) .i64 56 (sm hk) (AlOk.nil _))))))), hcs, LkOk.no _ _ _ _, (an 16 (.bin .add (.var .i64 16) (.lit .i64 1)) (sm h_o16.symm) (av 11 .i64 (av 11 .i64 (an 15 (.bin .add (.var .i64 15) (.lit .i64 1)) (sm h_o15.symm) (av 8 .i64 (ar 60 (ar_var 60) (ar 61 (ar_var 61) (ar 62 (ar_var 62) (av 14 .i64 (ar 63 (ar_var 63) (ar 64 (ar_var 64) (ar 65 (ar_var 65) (an 16 (.bin .add (.var .i64 16) (.lit .i64 1)) (sm h_o16.symm) (ar 66 (ar_upd (.var .i64 16) (.lit .i64 56) (i := S1.ρ 16) (v := (56 : Int)) rfl rfl (by kernel_rfl) (ar_var 66)) (ar 67 (ar_upd (.var .i64 16) (.lit .i64 8) (i := S1.ρ 16) (v := (8 : Int)) rfl rfl (by kernel_rfl) (ar_var 67)) (ar 68 (ar_upd (.var .i64 16) (.lit .i64 1) (i := S1.ρ 16) (v := (1 : Int)) rfl rfl (by kernel_rfl) (ar_var 68)) (asg_nil rfl))))))))))))))))), fun G => by kernel_rfl⟩, (show o15 = S1.ρ 15 + 1 by omega), ?_, (Stay.refl [15, 16] [66, 67, 68] _).set rfl rfl⟩
      rw [if_pos hv]
      exact hr.upd (isC_of 6 ⟨rfl, rfl, rfl⟩) hk (show o16 = S1.ρ 16 + 1 by omega) (fun _ => rfl) (fun _ => rfl) (fun _ => rfl)
    · have c0 : S1.ρ 15 < S1.ρ 11 := by omega
      have d0 : wTI64_0.den S1 = some [b2i true] := tr (p := S1.ρ 15 < S1.ρ 11) c0
      have c1 : ¬ (S1.ρ 15 < (0 : Int)) := by omega
      have d1 : wTI64_1.den S1 = some [b2i true] := tr (p := (0 : Int) ≤ S1.ρ 15) (Int.not_lt.1 c1)
      have c2 : ¬ (S1.ρ 16 < (0 : Int)) := by omega
      have d2 : wTI64_2.den S1 = some [b2i true] := tr (p := (0 : Int) ≤ S1.ρ 16) (Int.not_lt.1 c2)
      have c3 : S1.ρ 16 < (4194304 : Int) := by omega
      have d3 : wTI64_3.den S1 = some [b2i true] := tr (p := S1.ρ 16 < (4194304 : Int)) c3
      have c4 : (IntKind.i64.wrap (S1.ρ 16 + (1 : Int))) < (4194304 : Int) := by rw [w_i64 (by omega) (by omega)]; omega
      have d4 : wTI64_4.den S1 = some [b2i true] := tr (p := (IntKind.i64.wrap (S1.ρ 16 + (1 : Int))) < (4194304 : Int)) c4
      obtain ⟨o16, h_o16⟩ : ∃ o : Int, o = (IntKind.i64.wrap (S1.ρ 16 + (1 : Int))) := ⟨_, rfl⟩
      obtain ⟨o15, h_o15⟩ : ∃ o : Int, o = (IntKind.i64.wrap (S1.ρ 15 + (1 : Int))) := ⟨_, rfl⟩
      have u := h_o15
      rw [w_i64 (by omega) (by omega)] at u
      have u2 := h_o16
      rw [w_i64 (by omega) (by omega)] at u2
      refine ⟨S1.set (upd S1.ρ [(16, o16), (15, o15)]) [(66, (fun j => ifE j (S1.ρ 16) ((64 : Int)) ((fun j => S1.Φ 66 [j]) j))), (67, (fun j => ifE j (S1.ρ 16) ((64 : Int)) ((fun j => S1.Φ 67 [j]) j))), (68, (fun j => ifE j (S1.ρ 16) ((1 : Int)) ((fun j => S1.Φ 68 [j]) j)))] 50 rfl hK, ⟨_, [], _, 1000, _, [(5, 8)], (ai wTI64_4 true d4 (ai wTI64_3 true d3 (ai wTI64_2 true d2 (ai wTI64_1 true d1 (ai wTI64_0 true d0 (ain (sqW 31 15) .i64 64 (sm hk) (AlOk.nil _))))))), hcs, LkOk.no _ _ _ _, (an 16 (.bin .add (.var .i64 16) (.lit .i64 1)) (sm h_o16.symm) (av 11 .i64 (av 11 .i64 (an 15 (.bin .add (.var .i64 15) (.lit .i64 1)) (sm h_o15.symm) (av 8 .i64 (ar 60 (ar_var 60) (ar 61 (ar_var 61) (ar 62 (ar_var 62) (av 14 .i64 (ar 63 (ar_var 63) (ar 64 (ar_var 64) (ar 65 (ar_var 65) (an 16 (.bin .add (.var .i64 16) (.lit .i64 1)) (sm h_o16.symm) (ar 66 (ar_upd (.var .i64 16) (.lit .i64 64) (i := S1.ρ 16) (v := (64 : Int)) rfl rfl (by kernel_rfl) (ar_var 66)) (ar 67 (ar_upd (.var .i64 16) (.lit .i64 64) (i := S1.ρ 16) (v := (64 : Int)) rfl rfl (by kernel_rfl) (ar_var 67)) (ar 68 (ar_upd (.var .i64 16) (.lit .i64 1) (i := S1.ρ 16) (v := (1 : Int)) rfl rfl (by kernel_rfl) (ar_var 68)) (asg_nil rfl))))))))))))))))), fun G => by kernel_rfl⟩, (show o15 = S1.ρ 15 + 1 by omega), ?_, (Stay.refl [15, 16] [66, 67, 68] _).set rfl rfl⟩
      rw [if_pos hv]
      exact hr.upd (isC_of 7 ⟨rfl, rfl, rfl⟩) hk (show o16 = S1.ρ 16 + 1 by omega) (fun _ => rfl) (fun _ => rfl) (fun _ => rfl)
  · have c0 : S1.ρ 15 < S1.ρ 11 := by omega
    have d0 : wYI0.den S1 = some [b2i true] := tr (p := S1.ρ 15 < S1.ρ 11) c0
    have c1 : ¬ (S1.ρ 15 < (0 : Int)) := by omega
    have d1 : wYI1.den S1 = some [b2i true] := tr (p := (0 : Int) ≤ S1.ρ 15) (Int.not_lt.1 c1)
    by_cases c2 : (S1.Φ 31 [S1.ρ 15]) < (8 : Int)
    · have d2 : wYI2.den S1 = some [b2i false] := fls (p := (8 : Int) ≤ (S1.Φ 31 [S1.ρ 15])) (Int.not_le.2 c2)
      obtain ⟨o15, h_o15⟩ : ∃ o : Int, o = (IntKind.i64.wrap (S1.ρ 15 + (1 : Int))) := ⟨_, rfl⟩
      have u := h_o15
      rw [w_i64 (by omega) (by omega)] at u
      refine ⟨S1.set (upd S1.ρ [(15, o15)]) [] 50 rfl hK, ⟨_, [], _, 1000, _, [], (ai wYI2 false d2 (ai wYI1 true d1 (ai wYI0 true d0 (AlOk.nil _)))), hcs, LkOk.no _ _ _ _, (av 16 .i64 (av 11 .i64 (av 11 .i64 (an 15 (.bin .add (.var .i64 15) (.lit .i64 1)) (sm h_o15.symm) (av 8 .i64 (ar 60 (ar_var 60) (ar 61 (ar_var 61) (ar 62 (ar_var 62) (av 14 .i64 (ar 63 (ar_var 63) (ar 64 (ar_var 64) (ar 65 (ar_var 65) (av 16 .i64 (ar 66 (ar_var 66) (ar 67 (ar_var 67) (ar 68 (ar_var 68) (asg_nil rfl))))))))))))))))), fun G => by kernel_rfl⟩, (show o15 = S1.ρ 15 + 1 by omega), ?_, (Stay.refl [15, 16] [66, 67, 68] _).set rfl rfl⟩
      rw [if_neg hv]
      exact hr.same rfl (fun _ => rfl) (fun _ => rfl) (fun _ => rfl)
    · have d2 : wYI2.den S1 = some [b2i true] := tr (p := (8 : Int) ≤ (S1.Φ 31 [S1.ρ 15])) (Int.not_lt.1 c2)
      by_cases c3 : (64 : Int) < (S1.Φ 31 [S1.ρ 15])
      · have d3 : wYI3.den S1 = some [b2i false] := fls (p := (S1.Φ 31 [S1.ρ 15]) ≤ (64 : Int)) (Int.not_le.2 c3)
        obtain ⟨o15, h_o15⟩ : ∃ o : Int, o = (IntKind.i64.wrap (S1.ρ 15 + (1 : Int))) := ⟨_, rfl⟩
        have u := h_o15
        rw [w_i64 (by omega) (by omega)] at u
        refine ⟨S1.set (upd S1.ρ [(15, o15)]) [] 50 rfl hK, ⟨_, [], _, 1000, _, [], (ai wYI3 false d3 (ai wYI2 true d2 (ai wYI1 true d1 (ai wYI0 true d0 (AlOk.nil _))))), hcs, LkOk.no _ _ _ _, (av 16 .i64 (av 11 .i64 (av 11 .i64 (an 15 (.bin .add (.var .i64 15) (.lit .i64 1)) (sm h_o15.symm) (av 8 .i64 (ar 60 (ar_var 60) (ar 61 (ar_var 61) (ar 62 (ar_var 62) (av 14 .i64 (ar 63 (ar_var 63) (ar 64 (ar_var 64) (ar 65 (ar_var 65) (av 16 .i64 (ar 66 (ar_var 66) (ar 67 (ar_var 67) (ar 68 (ar_var 68) (asg_nil rfl))))))))))))))))), fun G => by kernel_rfl⟩, (show o15 = S1.ρ 15 + 1 by omega), ?_, (Stay.refl [15, 16] [66, 67, 68] _).set rfl rfl⟩
        rw [if_neg hv]
        exact hr.same rfl (fun _ => rfl) (fun _ => rfl) (fun _ => rfl)
      · have d3 : wYI3.den S1 = some [b2i true] := tr (p := (S1.Φ 31 [S1.ρ 15]) ≤ (64 : Int)) (Int.not_lt.1 c3)
        have c4 : ¬ ((((S1.Φ 31 [S1.ρ 15])).tmod (8 : Int)) = (0 : Int)) := by intro hh; exact hv ⟨by omega, by omega, hh⟩
        have d4 : wYI4.den S1 = some [b2i false] := fls (p := (((S1.Φ 31 [S1.ρ 15])).tmod (8 : Int)) = (0 : Int)) c4
        obtain ⟨o15, h_o15⟩ : ∃ o : Int, o = (IntKind.i64.wrap (S1.ρ 15 + (1 : Int))) := ⟨_, rfl⟩
        have u := h_o15
        rw [w_i64 (by omega) (by omega)] at u
        refine ⟨S1.set (upd S1.ρ [(15, o15)]) [] 50 rfl hK, ⟨_, [], _, 1000, _, [], (ai wYI4 false d4 (ai wYI3 true d3 (ai wYI2 true d2 (ai wYI1 true d1 (ai wYI0 true d0 (AlOk.nil _)))))), hcs, LkOk.no _ _ _ _, (av 16 .i64 (av 11 .i64 (av 11 .i64 (an 15 (.bin .add (.var .i64 15) (.lit .i64 1)) (sm h_o15.symm) (av 8 .i64 (ar 60 (ar_var 60) (ar 61 (ar_var 61) (ar 62 (ar_var 62) (av 14 .i64 (ar 63 (ar_var 63) (ar 64 (ar_var 64) (ar 65 (ar_var 65) (av 16 .i64 (ar 66 (ar_var 66) (ar 67 (ar_var 67) (ar 68 (ar_var 68) (asg_nil rfl))))))))))))))))), fun G => by kernel_rfl⟩, (show o15 = S1.ρ 15 + 1 by omega), ?_, (Stay.refl [15, 16] [66, 67, 68] _).set rfl rfl⟩
        rw [if_neg hv]
        exact hr.same rfl (fun _ => rfl) (fun _ => rfl) (fun _ => rfl)
theorem rowsI (F : Nat → Int) : ∀ (m i : Nat) (l : List Int) (S0 : Sy), S0.ρ 15 = i → S0.ρ 15 + m ≤ S0.ρ 11 → S0.ρ 11 ≤ 2048 → l.length ≤ i → (∀ j : Nat, S0.Φ 31 [(j : Int)] = F j) → RowIs S0 16 66 l → (∀ x ∈ S0.I, x.f + x.ks.length ≤ 50) →
    ∃ Sa, Chain (StepTo Try.prog ftW ΛW [] (cAt Try.prog lpWM) XI1W FIrW 5) m S0 Sa ∧ Sa.ρ 15 = S0.ρ 15 + m ∧ RowIs Sa 16 66 (fltG F i m l) ∧ Stay [15, 16] [66, 67, 68] S0 Sa
  | 0, i, l, S0, _, _, _, _, _, hr, _ => ⟨S0, .nil _, by simp, hr, Stay.refl _ _ _⟩
  | m + 1, i, l, S0, h0, h1, h2, h3, hF, hr, hK => by
    obtain ⟨S2, st, e4, hr2, y⟩ := rowI (S1 := S0) (by omega) (by omega) (by omega) (by omega) hr hK
    have e1 := y.num 11 rfl
    rw [h0, hF i] at hr2
    obtain ⟨Sa, ch, f4, hr3, z⟩ := rowsI F m (i + 1) _ S2 (by omega) (by omega) (by omega) (by split; (· simp; omega); (· omega)) (fun j => by rw [y.fn 31 rfl]; exact hF j) hr2 (by rw [y.1]; exact hK)
    exact ⟨Sa, .cons st ch, by omega, hr3, stay_weak (y.trans z) rfl rfl⟩
def wORI0 : Tm := (.bin .lss (.var .i64 15) (.var .i64 11))
theorem outIR {S1 T : Sy} (h1 : S1.ρ 15 = S1.ρ 11) (hT : Same [16, 8, 14] [60, 61, 62, 63, 64, 65, 66, 67, 68] S1 T) : StepOut Try.prog ftW ΛW [] (cAt Try.prog lpWM) XI1W FIrW (.exit 0) 5 S1 T := by
  have hcs : ∀ c ∈ ([] : List Ctr), CtrOk Try.prog S1 [] c := fun c hc => by simp at hc
  have c0 : ¬ (S1.ρ 15 < S1.ρ 11) := by omega
  have d0 : wORI0.den S1 = some [b2i false] := fls (p := S1.ρ 15 < S1.ρ 11) c0
  exact ⟨_, [], _, 1000, _, [], (ai wORI0 false d0 (AlOk.nil _)), hcs, LkOk.no _ _ _ _, (an 16 (.var .i64 16) (sm (hT.num 16 rfl)) (an 8 (.var .i64 8) (sm (hT.num 8 rfl)) (asg_arr (i := 60) (hT.row 60 rfl) (asg_arr (i := 61) (hT.row 61 rfl) (asg_arr (i := 62) (hT.row 62 rfl) (an 14 (.var .i64 14) (sm (hT.num 14 rfl)) (asg_arr (i := 63) (hT.row 63 rfl) (asg_arr (i := 64) (hT.row 64 rfl) (asg_arr (i := 65) (hT.row 65 rfl) (an 16 (.var .i64 16) (sm (hT.num 16 rfl)) (asg_arr (i := 66) (hT.row 66 rfl) (asg_arr (i := 67) (hT.row 67 rfl) (asg_arr (i := 68) (hT.row 68 rfl) (asg_nil hT.1)))))))))))))), fun G => by kernel_rfl⟩
theorem loopIR (S0 : Sy) (n : Nat) (hn : n ≤ 2048) (hi : S0.ρ 15 = 0) (hb : S0.ρ 11 = n) (hv : flt (fun j => S0.Φ 31 [(j : Int)]) n ≠ []) (hK : ∀ x ∈ S0.I, x.f + x.ks.length ≤ 50) :
    ∃ Sf, Stay [15, 16] [66, 67, 68] S0 Sf ∧ RowIs Sf 16 66 (flt (fun j => S0.Φ 31 [(j : Int)]) n) ∧ ∀ T asg0, Same [16, 8, 14] [60, 61, 62, 63, 64, 65, 66, 67, 68] Sf T → AsgOk T S0 asg0 → LkAt Try.prog T [] (.loop (cAt Try.prog lpWM)) (lkLoopR Try.prog 5 [] XI0W FIrW (.exit 0) asg0) := by
  obtain ⟨j0, ⟨hj, hok⟩, hmin⟩ := least (flt_some hv)
  obtain ⟨Sa, ch, e, y⟩ := chainIR j0 S0 (by omega) (by omega) (by omega) (fun j hj' hh => by rw [hi, Int.zero_add] at hh; exact hmin j hj' ⟨by omega, hh⟩) hK
  have y1 := y.num 11 rfl
  have ea : Sa.ρ 15 = j0 := by omega
  have hKa : ∀ x ∈ Sa.I, x.f + x.ks.length ≤ 50 := by rw [y.1]; exact hK
  obtain ⟨Sb, cx, f4, hrb, yb⟩ := crossI (S1 := Sa) (by omega) (by omega) (by omega) (by rw [ea, y.fn 31 rfl]; exact hok) hKa
  have b1 := yb.num 11 rfl
  have hKb : ∀ x ∈ Sb.I, x.f + x.ks.length ≤ 50 := by rw [yb.1]; exact hKa
  have h0 : flt (fun j => S0.Φ 31 [(j : Int)]) j0 = [] := flt_low fun j hj' hh => hmin j hj' ⟨by omega, hh⟩
  have h1 : flt (fun j => S0.Φ 31 [(j : Int)]) (j0 + 1) = [S0.Φ 31 [(j0 : Int)]] := by
    unfold flt
    rw [if_pos hok, h0]
    rfl
  rw [ea, y.fn 31 rfl, ← h1] at hrb
  obtain ⟨Sf, ch2, g4, hrf, yf⟩ := rowsI (fun j => S0.Φ 31 [(j : Int)]) (n - (j0 + 1)) (j0 + 1) _ Sb (by omega) (by omega) (by omega) (flt_len _ _) (fun j => by rw [yb.fn 31 rfl, y.fn 31 rfl]) hrb hKb
  have f1 := yf.num 11 rfl
  rw [fltG_eq, show j0 + 1 + (n - (j0 + 1)) = n by omega] at hrf
  exact ⟨Sf, stay_weak (y.trans (yb.trans yf)) rfl rfl, hrf, fun T asg0 hs ha => loop_chain2 envW (ann_self _) fineWM (show XI0W.N = FIrW.N from rfl) (show XI1W.N = FIrW.N from rfl) (Nat.le_of_ble_eq_true rfl) ch cx ch2 (outIR (by omega) hs) ha⟩
theorem atZA (T : Sy) : LkAt Try.prog T [] (.loop (cAt Try.prog lpWM)) (lkLoopR Try.prog 3 [] XAW FAW (.exit 0) []) := by
  have hcs : ∀ c ∈ ([] : List Ctr), CtrOk Try.prog T [] c := fun c hc => by simp at hc
  have hT : Same [] [] T T := Same.refl _ _ _
  have ho : StepOut Try.prog ftW ΛW [] (cAt Try.prog lpWM) XAW FAW (.exit 0) 3 T T := by
    exact ⟨_, [], _, 1000, _, [], (AlOk.nil _), hcs, LkOk.no _ _ _ _, (asg_nil hT.1), fun G => by kernel_rfl⟩
  exact loop_chain envW (ann_self _) fineWM (show XAW.N = FAW.N from rfl) (Nat.le_of_ble_eq_true rfl) (.nil T) ho (asg_nil rfl)
theorem atZL (T : Sy) : LkAt Try.prog T [] (.loop (cAt Try.prog lpWL)) (lkLoopR Try.prog 7 [] XL0W FLW (.exit 0) []) := by
  have hcs : ∀ c ∈ ([] : List Ctr), CtrOk Try.prog T [] c := fun c hc => by simp at hc
  have hT : Same [] [] T T := Same.refl _ _ _
  have ho : StepOut Try.prog ftW ΛW [] (cAt Try.prog lpWL) XL0W FLW (.exit 0) 7 T T := by
    exact ⟨_, [], _, 1000, _, [], (AlOk.nil _), hcs, LkOk.no _ _ _ _, (asg_nil hT.1), fun G => by kernel_rfl⟩
  exact loop_chain envW (ann_self _) fineWL (show XL0W.N = FLW.N from rfl) (Nat.le_of_ble_eq_true rfl) (.nil T) ho (asg_nil rfl)
def wL0 : Tm := (.bin .lss (.var .i64 18) (.var .i64 17))
def wL1 : Tm := (.bin .geq (.var .i64 18) (.lit .i64 0))
def wL2 : Tm := (.bin .lss (.var .i64 18) (.var .i64 8))
def wL3 : Tm := (.not (.and (.bin .eql (.app .i64 60 (.cons (.var .i64 18) .nil)) (.app .i64 69 (.cons (.var .i64 18) .nil))) (.and (.bin .eql (.app .i64 61 (.cons (.var .i64 18) .nil)) (.app .i64 70 (.cons (.var .i64 18) .nil))) (.bin .eql (.app .i64 62 (.cons (.var .i64 18) .nil)) (.app .i64 71 (.cons (.var .i64 18) .nil))))))
theorem eqTo {S1 : Sy} (h0 : 0 ≤ S1.ρ 18) (h1 : S1.ρ 18 < S1.ρ 17) (h2 : S1.ρ 17 ≤ 4096) (h3 : S1.ρ 17 = S1.ρ 8) (e0 : S1.Φ 60 [S1.ρ 18] = S1.Φ 69 [S1.ρ 18]) (e1 : S1.Φ 61 [S1.ρ 18] = S1.Φ 70 [S1.ρ 18]) (e2 : S1.Φ 62 [S1.ρ 18] = S1.Φ 71 [S1.ρ 18]) (hK : ∀ x ∈ S1.I, x.f + x.ks.length ≤ 50) :
    ∃ S2, StepTo Try.prog ftW ΛW [] (cAt Try.prog lpWL) XL1W FLW 7 S1 S2 ∧ S2.ρ 18 = S1.ρ 18 + 1 ∧ Stay [18] [] S1 S2 := by
  have hcs : ∀ c ∈ ([] : List Ctr), CtrOk Try.prog S1 [] c := fun c hc => by simp at hc
  have c0 : S1.ρ 18 < S1.ρ 17 := by omega
  have d0 : wL0.den S1 = some [b2i true] := tr (p := S1.ρ 18 < S1.ρ 17) c0
  have c1 : ¬ (S1.ρ 18 < (0 : Int)) := by omega
  have d1 : wL1.den S1 = some [b2i true] := tr (p := (0 : Int) ≤ S1.ρ 18) (Int.not_lt.1 c1)
  have c2 : S1.ρ 18 < S1.ρ 8 := by omega
  have d2 : wL2.den S1 = some [b2i true] := tr (p := S1.ρ 18 < S1.ρ 8) c2
  have d3 : wL3.den S1 = some [b2i false] := by simp [wL3, Tm.den, vBin, numV, e0, e1, e2, b2i]
  obtain ⟨o18, h_o18⟩ : ∃ o : Int, o = (IntKind.i64.wrap (S1.ρ 18 + (1 : Int))) := ⟨_, rfl⟩
  have u := h_o18
  rw [w_i64 (by omega) (by omega)] at u
  exact ⟨S1.set (upd S1.ρ [(18, o18)]) [] 50 rfl hK, ⟨_, [], _, 1000, _, [], (ai wL3 false d3 (ai wL2 true d2 (ai wL1 true d1 (ai wL0 true d0 (AlOk.nil _))))), hcs, LkOk.no _ _ _ _, (av 8 .i64 (av 17 .i64 (an 18 (.bin .add (.var .i64 18) (.lit .i64 1)) (sm h_o18.symm) (av 8 .i64 (ar 60 (ar_var 60) (ar 61 (ar_var 61) (ar 62 (ar_var 62) (av 17 .i64 (ar 69 (ar_var 69) (ar 70 (ar_var 70) (ar 71 (ar_var 71) (asg_nil rfl)))))))))))), fun G => by kernel_rfl⟩, (show o18 = S1.ρ 18 + 1 by omega), (Stay.refl [18] [] _).set rfl rfl⟩
def wOL0 : Tm := (.bin .lss (.var .i64 18) (.var .i64 17))
theorem eqOut {S1 T : Sy} (h1 : S1.ρ 18 = S1.ρ 17) (hT : Same [] [] S1 T) : StepOut Try.prog ftW ΛW [] (cAt Try.prog lpWL) XL1W FLW (.exit 0) 7 S1 T := by
  have hcs : ∀ c ∈ ([] : List Ctr), CtrOk Try.prog S1 [] c := fun c hc => by simp at hc
  have c0 : ¬ (S1.ρ 18 < S1.ρ 17) := by omega
  have d0 : wOL0.den S1 = some [b2i false] := fls (p := S1.ρ 18 < S1.ρ 17) c0
  exact ⟨_, [], _, 1000, _, [], (ai wOL0 false d0 (AlOk.nil _)), hcs, LkOk.no _ _ _ _, (asg_nil hT.1), fun G => by kernel_rfl⟩
theorem eqChain : ∀ (m : Nat) (S0 : Sy), 0 ≤ S0.ρ 18 → S0.ρ 18 + m ≤ S0.ρ 17 → S0.ρ 17 ≤ 4096 → S0.ρ 17 = S0.ρ 8 → (∀ j : Nat, (j : Int) < S0.ρ 17 → S0.Φ 60 [(j : Int)] = S0.Φ 69 [(j : Int)] ∧ S0.Φ 61 [(j : Int)] = S0.Φ 70 [(j : Int)] ∧ S0.Φ 62 [(j : Int)] = S0.Φ 71 [(j : Int)]) → (∀ x ∈ S0.I, x.f + x.ks.length ≤ 50) →
    ∃ Sa, Chain (StepTo Try.prog ftW ΛW [] (cAt Try.prog lpWL) XL1W FLW 7) m S0 Sa ∧ Sa.ρ 18 = S0.ρ 18 + m ∧ Stay [18] [] S0 Sa
  | 0, S0, _, _, _, _, _, _ => ⟨S0, .nil _, by simp, Stay.refl _ _ _⟩
  | m + 1, S0, h0, h1, h2, h3, hr, hK => by
    have hj := hr (S0.ρ 18).toNat (by omega)
    rw [show (((S0.ρ 18).toNat : Nat) : Int) = S0.ρ 18 by omega] at hj
    obtain ⟨S2, st, e4, y⟩ := eqTo h0 (by omega) h2 h3 hj.1 hj.2.1 hj.2.2 hK
    have e1 := y.num 17 rfl
    have e2 := y.num 8 rfl
    obtain ⟨Sa, ch, f4, z⟩ := eqChain m S2 (by omega) (by omega) (by omega) (by omega) (fun j hj => by
      rw [y.fn 60 rfl, y.fn 61 rfl, y.fn 62 rfl, y.fn 69 rfl, y.fn 70 rfl, y.fn 71 rfl]
      exact hr j (by omega)) (by rw [y.1]; exact hK)
    exact ⟨Sa, .cons st ch, by omega, stay_weak (y.trans z) rfl rfl⟩
theorem loopL (S0 : Sy) (h0 : S0.ρ 18 = 0) (h2 : 0 ≤ S0.ρ 17 ∧ S0.ρ 17 ≤ 4096) (h3 : S0.ρ 17 = S0.ρ 8) (hr : ∀ j : Nat, (j : Int) < S0.ρ 17 → S0.Φ 60 [(j : Int)] = S0.Φ 69 [(j : Int)] ∧ S0.Φ 61 [(j : Int)] = S0.Φ 70 [(j : Int)] ∧ S0.Φ 62 [(j : Int)] = S0.Φ 71 [(j : Int)]) (hK : ∀ x ∈ S0.I, x.f + x.ks.length ≤ 50) :
    ∃ Sf, Stay [18] [] S0 Sf ∧ ∀ T asg0, Same [] [] Sf T → AsgOk T S0 asg0 → LkAt Try.prog T [] (.loop (cAt Try.prog lpWL)) (lkLoopR Try.prog 7 [] XL1W FLW (.exit 0) asg0) := by
  obtain ⟨m, hm⟩ : ∃ m : Nat, S0.ρ 17 = m := ⟨(S0.ρ 17).toNat, by omega⟩
  obtain ⟨Sf, ch, e, y⟩ := eqChain m S0 (by omega) (by omega) (by omega) h3 hr hK
  have y1 := y.num 17 rfl
  exact ⟨Sf, y, fun T asg0 hs ha => loop_chain envW (ann_self _) fineWL (show XL1W.N = FLW.N from rfl) (Nat.le_of_ble_eq_true rfl) ch (eqOut (by omega) hs) ha⟩
end Go.Proofs.Ytokcoabcflpbbaa
