/-
  Classes: the rounds of Make's loop (nothing made yet; a row made), the check's loop; ClassFits. Conditions: what is said of the slice (SlIn).
-/
import Derived.Test.YtokcoabcflpbbaaF0
import Derived.Test.YtokcoabcflpbbaaEvC1
namespace Go.Proofs.Ytokcoabcflpbbaa
open Go.Ev Go.RowKit
set_option maxRecDepth 100000
def inLF : Value := inS 0 (dsc 1 20 [4])
def owF (b i : Nat) : Value := .float .f32 (mk 3 0 b (i * 512 + 3))
noncomputable def rw3F (i f : Nat) : Blk := .arr ⟨i * 512 + 3, [(some .i64, .var f), (some .i64, .var (f + 1)), (some .i64, .var (f + 2))], 43⟩
noncomputable def X0F : Pat := ⟨30, 1, [(3, .slice none 0 0), (6, inLF), (7, vv .i64 1), (8, vv .i64 4)], []⟩
noncomputable def F0F : Pat := ⟨30, 1, [(3, .slice none 0 0)], []⟩
noncomputable def X1F : Pat := ⟨30, 1, [(3, owF 0 5), (6, inLF), (7, vv .i64 1), (8, vv .i64 4)], [(0, rw3F 5 60)]⟩
noncomputable def F1F : Pat := ⟨30, 1, [(3, owF 0 5)], [(0, rw3F 5 60)]⟩
noncomputable def X2F : Pat := ⟨155, 1, [(0, vv .i64 2), (1, vv .i64 3), (7, owF 0 5), (8, vv .i64 6)], [(0, rw3F 5 60)]⟩
noncomputable def F2F : Pat := ⟨155, 1, [(0, vv .i64 2), (1, vv .i64 3)], []⟩
def szF : Tm := .app .i64 20 (.cons (.var .i64 4) .nil)
def at3F (k : Nat) : Tm := .app .i64 k (.cons (.var .i64 6) .nil)
def lpFM : Mrk := (15, [1, 1, 0, 1, 0])
def lpFC : Mrk := (4, [1, 1, 1, 0, 1, 0])
noncomputable abbrev ΛF : Nat → Option Code := lamOf Try.prog [lpFM, lpFC]
noncomputable abbrev ftF : Nat → Option Func := ftM Try.prog [lpFM, lpFC]
theorem envF : @EnvOk ⟨ΛF⟩ Try.prog ftF := envM env [lpFM, lpFC] (by kernel_rfl)
theorem codeFM : codeAt Try.prog lpFM = some (.loop (cAt Try.prog lpFM)) := by kernel_rfl
theorem fineFM : fineC Try.prog.globals.size (cAt Try.prog lpFM) = true := by kernel_rfl
theorem codeFC : codeAt Try.prog lpFC = some (.loop (cAt Try.prog lpFC)) := by kernel_rfl
theorem fineFC : fineC Try.prog.globals.size (cAt Try.prog lpFC) = true := by kernel_rfl
noncomputable abbrev ΛG : Nat → Option Code := lamOf Try.prog [lpFM]
noncomputable abbrev ftG : Nat → Option Func := ftM Try.prog [lpFM]
theorem envG : @EnvOk ⟨ΛG⟩ Try.prog ftG := envM env [lpFM] (by kernel_rfl)
/-- A size of which a class is made. -/
def okS (z : Int) : Prop := 8 ≤ z ∧ z ≤ 64 ∧ z.tmod 8 = 0
instance (z : Int) : Decidable (okS z) := by unfold okS; infer_instance
/-- A class. -/
def isC (a b c : Int) : Prop := (a = 8 ∧ b = 8 ∧ c = 8) ∨ (a = 16 ∧ b = 16 ∧ c = 4) ∨ (a = 24 ∧ b = 8 ∧ c = 2) ∨ (a = 32 ∧ b = 32 ∧ c = 2) ∨ (a = 40 ∧ b = 8 ∧ c = 1) ∨ (a = 48 ∧ b = 16 ∧ c = 1) ∨ (a = 56 ∧ b = 8 ∧ c = 1) ∨ (a = 64 ∧ b = 64 ∧ c = 1)
theorem okS_cases {z : Int} (h : okS z) : z = 8 ∨ z = 16 ∨ z = 24 ∨ z = 32 ∨ z = 40 ∨ z = 48 ∨ z = 56 ∨ z = 64 := by
  obtain ⟨h1, h2, h3⟩ := h
  rw [Int.tmod_eq_emod_of_nonneg (by omega)] at h3
  omega
theorem isC_of (k : Nat) {a b c : Int} (h : (match k with | 0 => a = 8 ∧ b = 8 ∧ c = 8 | 1 => a = 16 ∧ b = 16 ∧ c = 4 | 2 => a = 24 ∧ b = 8 ∧ c = 2 | 3 => a = 32 ∧ b = 32 ∧ c = 2 | 4 => a = 40 ∧ b = 8 ∧ c = 1 | 5 => a = 48 ∧ b = 16 ∧ c = 1 | 6 => a = 56 ∧ b = 8 ∧ c = 1 | 7 => a = 64 ∧ b = 64 ∧ c = 1 | _ => False)) : isC a b c := by
  unfold isC
  match k, h with
  | 0, h => exact .inl h
  | 1, h => exact .inr (.inl h)
  | 2, h => exact .inr (.inr (.inl h))
  | 3, h => exact .inr (.inr (.inr (.inl h)))
  | 4, h => exact .inr (.inr (.inr (.inr (.inl h))))
  | 5, h => exact .inr (.inr (.inr (.inr (.inr (.inl h)))))
  | 6, h => exact .inr (.inr (.inr (.inr (.inr (.inr (.inl h))))))
  | 7, h => exact .inr (.inr (.inr (.inr (.inr (.inr (.inr (h)))))))
theorem isC_upd (k : Nat) {f g h : Int → Int} {n a b c : Int} (hk : (match k with | 0 => a = 8 ∧ b = 8 ∧ c = 8 | 1 => a = 16 ∧ b = 16 ∧ c = 4 | 2 => a = 24 ∧ b = 8 ∧ c = 2 | 3 => a = 32 ∧ b = 32 ∧ c = 2 | 4 => a = 40 ∧ b = 8 ∧ c = 1 | 5 => a = 48 ∧ b = 16 ∧ c = 1 | 6 => a = 56 ∧ b = 8 ∧ c = 1 | 7 => a = 64 ∧ b = 64 ∧ c = 1 | _ => False)) (hr : ∀ j : Nat, (j : Int) < n → isC (f (j : Int)) (g (j : Int)) (h (j : Int))) {j : Nat} (hj : (j : Int) < n + 1) :
    isC (ifE (j : Int) n a (f (j : Int))) (ifE (j : Int) n b (g (j : Int))) (ifE (j : Int) n c (h (j : Int))) := by
  unfold ifE
  by_cases e : (j : Int) = n
  · rw [if_pos e, if_pos e, if_pos e]
    exact isC_of k hk
  · rw [if_neg e, if_neg e, if_neg e]
    exact hr j (by omega)
def wNG0 : Tm := (.bin .lss (.var .i64 4) (.var .i64 1))
def wNG1 : Tm := (.bin .geq (.var .i64 4) (.lit .i64 0))
def wNG2 : Tm := (.bin .geq (.app .i64 20 (.cons (.var .i64 4) .nil)) (.lit .i64 8))
def wNG3 : Tm := (.bin .leq (.app .i64 20 (.cons (.var .i64 4) .nil)) (.lit .i64 64))
def wNG4 : Tm := (.bin .eql (.bin .rem (.app .i64 20 (.cons (.var .i64 4) .nil)) (.lit .i64 8)) (.lit .i64 0))
theorem nilToG {S1 : Sy} (h0 : 0 ≤ S1.ρ 4) (h1 : S1.ρ 4 < S1.ρ 1) (h2 : S1.ρ 1 ≤ 4096) (hv : ¬ okS (S1.Φ 20 [S1.ρ 4])) (hK : ∀ x ∈ S1.I, x.f + x.ks.length ≤ 60) :
    ∃ S2, StepTo Try.prog ftG ΛG [] (cAt Try.prog lpFM) X0F F0F 0 S1 S2 ∧ S2.ρ 4 = S1.ρ 4 + 1 ∧ Stay [4] [] S1 S2 := by
  have hcs : ∀ c ∈ ([] : List Ctr), CtrOk Try.prog S1 [] c := fun c hc => by simp at hc
  have c0 : S1.ρ 4 < S1.ρ 1 := by omega
  have d0 : wNG0.den S1 = some [b2i true] := tr (p := S1.ρ 4 < S1.ρ 1) c0
  have c1 : ¬ (S1.ρ 4 < (0 : Int)) := by omega
  have d1 : wNG1.den S1 = some [b2i true] := tr (p := (0 : Int) ≤ S1.ρ 4) (Int.not_lt.1 c1)
  by_cases c2 : (S1.Φ 20 [S1.ρ 4]) < (8 : Int)
  · have d2 : wNG2.den S1 = some [b2i false] := fls (p := (8 : Int) ≤ (S1.Φ 20 [S1.ρ 4])) (Int.not_le.2 c2)
    obtain ⟨o4, h_o4⟩ : ∃ o : Int, o = (IntKind.i64.wrap (S1.ρ 4 + (1 : Int))) := ⟨_, rfl⟩
    have u4 := h_o4
    rw [w_i64 (by omega) (by omega)] at u4
    exact ⟨S1.set (upd S1.ρ [(4, o4)]) [] 60 rfl hK, ⟨_, [], _, 1000, _, [], (ai wNG2 false d2 (ai wNG1 true d1 (ai wNG0 true d0 (AlOk.nil _)))), hcs, LkOk.no _ _ _ _, (av 1 .i64 (av 1 .i64 (an 4 (.bin .add (.var .i64 4) (.lit .i64 1)) (sm h_o4.symm) (asg_nil rfl)))), fun G => by kernel_rfl⟩, (show o4 = S1.ρ 4 + 1 by omega), (Stay.refl [4] [] _).set rfl rfl⟩
  · have d2 : wNG2.den S1 = some [b2i true] := tr (p := (8 : Int) ≤ (S1.Φ 20 [S1.ρ 4])) (Int.not_lt.1 c2)
    by_cases c3 : (64 : Int) < (S1.Φ 20 [S1.ρ 4])
    · have d3 : wNG3.den S1 = some [b2i false] := fls (p := (S1.Φ 20 [S1.ρ 4]) ≤ (64 : Int)) (Int.not_le.2 c3)
      obtain ⟨o4, h_o4⟩ : ∃ o : Int, o = (IntKind.i64.wrap (S1.ρ 4 + (1 : Int))) := ⟨_, rfl⟩
      have u4 := h_o4
      rw [w_i64 (by omega) (by omega)] at u4
      exact ⟨S1.set (upd S1.ρ [(4, o4)]) [] 60 rfl hK, ⟨_, [], _, 1000, _, [], (ai wNG3 false d3 (ai wNG2 true d2 (ai wNG1 true d1 (ai wNG0 true d0 (AlOk.nil _))))), hcs, LkOk.no _ _ _ _, (av 1 .i64 (av 1 .i64 (an 4 (.bin .add (.var .i64 4) (.lit .i64 1)) (sm h_o4.symm) (asg_nil rfl)))), fun G => by kernel_rfl⟩, (show o4 = S1.ρ 4 + 1 by omega), (Stay.refl [4] [] _).set rfl rfl⟩
    · have d3 : wNG3.den S1 = some [b2i true] := tr (p := (S1.Φ 20 [S1.ρ 4]) ≤ (64 : Int)) (Int.not_lt.1 c3)
      have c4 : ¬ ((((S1.Φ 20 [S1.ρ 4])).tmod (8 : Int)) = (0 : Int)) := by intro hh; exact hv ⟨by omega, by omega, hh⟩
      have d4 : wNG4.den S1 = some [b2i false] := fls (p := (((S1.Φ 20 [S1.ρ 4])).tmod (8 : Int)) = (0 : Int)) c4
      obtain ⟨o4, h_o4⟩ : ∃ o : Int, o = (IntKind.i64.wrap (S1.ρ 4 + (1 : Int))) := ⟨_, rfl⟩
      have u4 := h_o4
      rw [w_i64 (by omega) (by omega)] at u4
      exact ⟨S1.set (upd S1.ρ [(4, o4)]) [] 60 rfl hK, ⟨_, [], _, 1000, _, [], (ai wNG4 false d4 (ai wNG3 true d3 (ai wNG2 true d2 (ai wNG1 true d1 (ai wNG0 true d0 (AlOk.nil _)))))), hcs, LkOk.no _ _ _ _, (av 1 .i64 (av 1 .i64 (an 4 (.bin .add (.var .i64 4) (.lit .i64 1)) (sm h_o4.symm) (asg_nil rfl)))), fun G => by kernel_rfl⟩, (show o4 = S1.ρ 4 + 1 by omega), (Stay.refl [4] [] _).set rfl rfl⟩
def wOG0 : Tm := (.bin .lss (.var .i64 4) (.var .i64 1))
theorem nilOutG {S1 T : Sy} (h1 : S1.ρ 4 = S1.ρ 1) (hT : T.I = S1.I) : StepOut Try.prog ftG ΛG [] (cAt Try.prog lpFM) X0F F0F (.exit 0) 0 S1 T := by
  have hcs : ∀ c ∈ ([] : List Ctr), CtrOk Try.prog S1 [] c := fun c hc => by simp at hc
  have c0 : ¬ (S1.ρ 4 < S1.ρ 1) := by omega
  have d0 : wOG0.den S1 = some [b2i false] := fls (p := S1.ρ 4 < S1.ρ 1) c0
  exact ⟨_, [], _, 1000, _, [], (ai wOG0 false d0 (AlOk.nil _)), hcs, LkOk.no _ _ _ _, (asg_nil hT), fun G => by kernel_rfl⟩
def wNF0 : Tm := (.bin .lss (.var .i64 4) (.var .i64 1))
def wNF1 : Tm := (.bin .geq (.var .i64 4) (.lit .i64 0))
def wNF2 : Tm := (.bin .geq (.app .i64 20 (.cons (.var .i64 4) .nil)) (.lit .i64 8))
def wNF3 : Tm := (.bin .leq (.app .i64 20 (.cons (.var .i64 4) .nil)) (.lit .i64 64))
def wNF4 : Tm := (.bin .eql (.bin .rem (.app .i64 20 (.cons (.var .i64 4) .nil)) (.lit .i64 8)) (.lit .i64 0))
theorem nilToF {S1 : Sy} (h0 : 0 ≤ S1.ρ 4) (h1 : S1.ρ 4 < S1.ρ 1) (h2 : S1.ρ 1 ≤ 4096) (hv : ¬ okS (S1.Φ 20 [S1.ρ 4])) (hK : ∀ x ∈ S1.I, x.f + x.ks.length ≤ 60) :
    ∃ S2, StepTo Try.prog ftF ΛF [] (cAt Try.prog lpFM) X0F F1F 0 S1 S2 ∧ S2.ρ 4 = S1.ρ 4 + 1 ∧ Stay [4] [] S1 S2 := by
  have hcs : ∀ c ∈ ([] : List Ctr), CtrOk Try.prog S1 [] c := fun c hc => by simp at hc
  have c0 : S1.ρ 4 < S1.ρ 1 := by omega
  have d0 : wNF0.den S1 = some [b2i true] := tr (p := S1.ρ 4 < S1.ρ 1) c0
  have c1 : ¬ (S1.ρ 4 < (0 : Int)) := by omega
  have d1 : wNF1.den S1 = some [b2i true] := tr (p := (0 : Int) ≤ S1.ρ 4) (Int.not_lt.1 c1)
  by_cases c2 : (S1.Φ 20 [S1.ρ 4]) < (8 : Int)
  · have d2 : wNF2.den S1 = some [b2i false] := fls (p := (8 : Int) ≤ (S1.Φ 20 [S1.ρ 4])) (Int.not_le.2 c2)
    obtain ⟨o4, h_o4⟩ : ∃ o : Int, o = (IntKind.i64.wrap (S1.ρ 4 + (1 : Int))) := ⟨_, rfl⟩
    have u4 := h_o4
    rw [w_i64 (by omega) (by omega)] at u4
    exact ⟨S1.set (upd S1.ρ [(4, o4)]) [] 60 rfl hK, ⟨_, [], _, 1000, _, [], (ai wNF2 false d2 (ai wNF1 true d1 (ai wNF0 true d0 (AlOk.nil _)))), hcs, LkOk.no _ _ _ _, (av 1 .i64 (av 1 .i64 (an 4 (.bin .add (.var .i64 4) (.lit .i64 1)) (sm h_o4.symm) (asg_nil rfl)))), fun G => by kernel_rfl⟩, (show o4 = S1.ρ 4 + 1 by omega), (Stay.refl [4] [] _).set rfl rfl⟩
  · have d2 : wNF2.den S1 = some [b2i true] := tr (p := (8 : Int) ≤ (S1.Φ 20 [S1.ρ 4])) (Int.not_lt.1 c2)
    by_cases c3 : (64 : Int) < (S1.Φ 20 [S1.ρ 4])
    · have d3 : wNF3.den S1 = some [b2i false] := fls (p := (S1.Φ 20 [S1.ρ 4]) ≤ (64 : Int)) (Int.not_le.2 c3)
      obtain ⟨o4, h_o4⟩ : ∃ o : Int, o = (IntKind.i64.wrap (S1.ρ 4 + (1 : Int))) := ⟨_, rfl⟩
      have u4 := h_o4
      rw [w_i64 (by omega) (by omega)] at u4
      exact ⟨S1.set (upd S1.ρ [(4, o4)]) [] 60 rfl hK, ⟨_, [], _, 1000, _, [], (ai wNF3 false d3 (ai wNF2 true d2 (ai wNF1 true d1 (ai wNF0 true d0 (AlOk.nil _))))), hcs, LkOk.no _ _ _ _, (av 1 .i64 (av 1 .i64 (an 4 (.bin .add (.var .i64 4) (.lit .i64 1)) (sm h_o4.symm) (asg_nil rfl)))), fun G => by kernel_rfl⟩, (show o4 = S1.ρ 4 + 1 by omega), (Stay.refl [4] [] _).set rfl rfl⟩
    · have d3 : wNF3.den S1 = some [b2i true] := tr (p := (S1.Φ 20 [S1.ρ 4]) ≤ (64 : Int)) (Int.not_lt.1 c3)
      have c4 : ¬ ((((S1.Φ 20 [S1.ρ 4])).tmod (8 : Int)) = (0 : Int)) := by intro hh; exact hv ⟨by omega, by omega, hh⟩
      have d4 : wNF4.den S1 = some [b2i false] := fls (p := (((S1.Φ 20 [S1.ρ 4])).tmod (8 : Int)) = (0 : Int)) c4
      obtain ⟨o4, h_o4⟩ : ∃ o : Int, o = (IntKind.i64.wrap (S1.ρ 4 + (1 : Int))) := ⟨_, rfl⟩
      have u4 := h_o4
      rw [w_i64 (by omega) (by omega)] at u4
      exact ⟨S1.set (upd S1.ρ [(4, o4)]) [] 60 rfl hK, ⟨_, [], _, 1000, _, [], (ai wNF4 false d4 (ai wNF3 true d3 (ai wNF2 true d2 (ai wNF1 true d1 (ai wNF0 true d0 (AlOk.nil _)))))), hcs, LkOk.no _ _ _ _, (av 1 .i64 (av 1 .i64 (an 4 (.bin .add (.var .i64 4) (.lit .i64 1)) (sm h_o4.symm) (asg_nil rfl)))), fun G => by kernel_rfl⟩, (show o4 = S1.ρ 4 + 1 by omega), (Stay.refl [4] [] _).set rfl rfl⟩
def wXF8_0 : Tm := (.bin .lss (.var .i64 4) (.var .i64 1))
def wXF8_1 : Tm := (.bin .geq (.var .i64 4) (.lit .i64 0))
def wXF16_0 : Tm := (.bin .lss (.var .i64 4) (.var .i64 1))
def wXF16_1 : Tm := (.bin .geq (.var .i64 4) (.lit .i64 0))
def wXF24_0 : Tm := (.bin .lss (.var .i64 4) (.var .i64 1))
def wXF24_1 : Tm := (.bin .geq (.var .i64 4) (.lit .i64 0))
def wXF32_0 : Tm := (.bin .lss (.var .i64 4) (.var .i64 1))
def wXF32_1 : Tm := (.bin .geq (.var .i64 4) (.lit .i64 0))
def wXF40_0 : Tm := (.bin .lss (.var .i64 4) (.var .i64 1))
def wXF40_1 : Tm := (.bin .geq (.var .i64 4) (.lit .i64 0))
def wXF48_0 : Tm := (.bin .lss (.var .i64 4) (.var .i64 1))
def wXF48_1 : Tm := (.bin .geq (.var .i64 4) (.lit .i64 0))
def wXF56_0 : Tm := (.bin .lss (.var .i64 4) (.var .i64 1))
def wXF56_1 : Tm := (.bin .geq (.var .i64 4) (.lit .i64 0))
def wXF64_0 : Tm := (.bin .lss (.var .i64 4) (.var .i64 1))
def wXF64_1 : Tm := (.bin .geq (.var .i64 4) (.lit .i64 0))
theorem crossToF {S1 : Sy} (h0 : 0 ≤ S1.ρ 4) (h1 : S1.ρ 4 < S1.ρ 1) (h2 : S1.ρ 1 ≤ 4096) (hv : okS (S1.Φ 20 [S1.ρ 4])) (hK : ∀ x ∈ S1.I, x.f + x.ks.length ≤ 60) :
    ∃ S2, StepX Try.prog ftF ΛF [] (cAt Try.prog lpFM) X0F X1F F1F 0 S1 S2 ∧ S2.ρ 4 = S1.ρ 4 + 1 ∧ S2.ρ 5 = 1 ∧ (∀ j : Nat, (j : Int) < 1 → isC (S2.Φ 60 [(j : Int)]) (S2.Φ 61 [(j : Int)]) (S2.Φ 62 [(j : Int)])) ∧ Stay [4, 5] [60, 61, 62] S1 S2 := by
  have hcs : ∀ c ∈ ([] : List Ctr), CtrOk Try.prog S1 [] c := fun c hc => by simp at hc
  rcases okS_cases hv with hk | hk | hk | hk | hk | hk | hk | hk
  · have c0 : S1.ρ 4 < S1.ρ 1 := by omega
    have d0 : wXF8_0.den S1 = some [b2i true] := tr (p := S1.ρ 4 < S1.ρ 1) c0
    have c1 : ¬ (S1.ρ 4 < (0 : Int)) := by omega
    have d1 : wXF8_1.den S1 = some [b2i true] := tr (p := (0 : Int) ≤ S1.ρ 4) (Int.not_lt.1 c1)
    obtain ⟨o5, h_o5⟩ : ∃ o : Int, o = (1 : Int) := ⟨_, rfl⟩
    obtain ⟨o4, h_o4⟩ : ∃ o : Int, o = (IntKind.i64.wrap (S1.ρ 4 + (1 : Int))) := ⟨_, rfl⟩
    have u4 := h_o4
    rw [w_i64 (by omega) (by omega)] at u4
    refine ⟨S1.set (upd S1.ρ [(5, o5), (4, o4)]) [(60, (fun j => ifE j ((0 : Int)) ((8 : Int)) ((fun _ => 0) j))), (61, (fun j => ifE j ((0 : Int)) ((8 : Int)) ((fun _ => 0) j))), (62, (fun j => ifE j ((0 : Int)) ((8 : Int)) ((fun _ => 0) j)))] 60 rfl hK, ⟨_, [], _, 1000, _, [(0, 3)], (ai wXF8_1 true d1 (ai wXF8_0 true d0 (ain szF .i64 8 (sm hk) (AlOk.nil _)))), hcs, LkOk.no _ _ _ _, (an 5 (.lit .i64 1) (sm h_o5.symm) (av 1 .i64 (av 1 .i64 (an 4 (.bin .add (.var .i64 4) (.lit .i64 1)) (sm h_o4.symm) (an 5 (.lit .i64 1) (sm h_o5.symm) (ar 60 (ar_upd (.lit .i64 0) (.lit .i64 8) (i := (0 : Int)) (v := (8 : Int)) rfl rfl (by kernel_rfl) ar_zero) (ar 61 (ar_upd (.lit .i64 0) (.lit .i64 8) (i := (0 : Int)) (v := (8 : Int)) rfl rfl (by kernel_rfl) ar_zero) (ar 62 (ar_upd (.lit .i64 0) (.lit .i64 8) (i := (0 : Int)) (v := (8 : Int)) rfl rfl (by kernel_rfl) ar_zero) (asg_nil rfl))))))))), fun G => by kernel_rfl⟩, (show o4 = S1.ρ 4 + 1 by omega), (show o5 = 1 from h_o5), fun j hj => ?_, (Stay.refl [4, 5] [60, 61, 62] _).set rfl rfl⟩
    obtain rfl : j = 0 := by omega
    exact isC_of 0 ⟨rfl, rfl, rfl⟩
  · have c0 : S1.ρ 4 < S1.ρ 1 := by omega
    have d0 : wXF16_0.den S1 = some [b2i true] := tr (p := S1.ρ 4 < S1.ρ 1) c0
    have c1 : ¬ (S1.ρ 4 < (0 : Int)) := by omega
    have d1 : wXF16_1.den S1 = some [b2i true] := tr (p := (0 : Int) ≤ S1.ρ 4) (Int.not_lt.1 c1)
    obtain ⟨o5, h_o5⟩ : ∃ o : Int, o = (1 : Int) := ⟨_, rfl⟩
    obtain ⟨o4, h_o4⟩ : ∃ o : Int, o = (IntKind.i64.wrap (S1.ρ 4 + (1 : Int))) := ⟨_, rfl⟩
    have u4 := h_o4
    rw [w_i64 (by omega) (by omega)] at u4
    refine ⟨S1.set (upd S1.ρ [(5, o5), (4, o4)]) [(60, (fun j => ifE j ((0 : Int)) ((16 : Int)) ((fun _ => 0) j))), (61, (fun j => ifE j ((0 : Int)) ((16 : Int)) ((fun _ => 0) j))), (62, (fun j => ifE j ((0 : Int)) ((4 : Int)) ((fun _ => 0) j)))] 60 rfl hK, ⟨_, [], _, 1000, _, [(0, 3)], (ai wXF16_1 true d1 (ai wXF16_0 true d0 (ain szF .i64 16 (sm hk) (AlOk.nil _)))), hcs, LkOk.no _ _ _ _, (an 5 (.lit .i64 1) (sm h_o5.symm) (av 1 .i64 (av 1 .i64 (an 4 (.bin .add (.var .i64 4) (.lit .i64 1)) (sm h_o4.symm) (an 5 (.lit .i64 1) (sm h_o5.symm) (ar 60 (ar_upd (.lit .i64 0) (.lit .i64 16) (i := (0 : Int)) (v := (16 : Int)) rfl rfl (by kernel_rfl) ar_zero) (ar 61 (ar_upd (.lit .i64 0) (.lit .i64 16) (i := (0 : Int)) (v := (16 : Int)) rfl rfl (by kernel_rfl) ar_zero) (ar 62 (ar_upd (.lit .i64 0) (.lit .i64 4) (i := (0 : Int)) (v := (4 : Int)) rfl rfl (by kernel_rfl) ar_zero) (asg_nil rfl))))))))), fun G => by kernel_rfl⟩, (show o4 = S1.ρ 4 + 1 by omega), (show o5 = 1 from h_o5), fun j hj => ?_, (Stay.refl [4, 5] [60, 61, 62] _).set rfl rfl⟩
    obtain rfl : j = 0 := by omega
    exact isC_of 1 ⟨rfl, rfl, rfl⟩
  · have c0 : S1.ρ 4 < S1.ρ 1 := by omega
    have d0 : wXF24_0.den S1 = some [b2i true] := tr (p := S1.ρ 4 < S1.ρ 1) c0
    have c1 : ¬ (S1.ρ 4 < (0 : Int)) := by omega
    have d1 : wXF24_1.den S1 = some [b2i true] := tr (p := (0 : Int) ≤ S1.ρ 4) (Int.not_lt.1 c1)
    obtain ⟨o5, h_o5⟩ : ∃ o : Int, o = (1 : Int) := ⟨_, rfl⟩
    obtain ⟨o4, h_o4⟩ : ∃ o : Int, o = (IntKind.i64.wrap (S1.ρ 4 + (1 : Int))) := ⟨_, rfl⟩
    have u4 := h_o4
    rw [w_i64 (by omega) (by omega)] at u4
    refine ⟨S1.set (upd S1.ρ [(5, o5), (4, o4)]) [(60, (fun j => ifE j ((0 : Int)) ((24 : Int)) ((fun _ => 0) j))), (61, (fun j => ifE j ((0 : Int)) ((8 : Int)) ((fun _ => 0) j))), (62, (fun j => ifE j ((0 : Int)) ((2 : Int)) ((fun _ => 0) j)))] 60 rfl hK, ⟨_, [], _, 1000, _, [(0, 3)], (ai wXF24_1 true d1 (ai wXF24_0 true d0 (ain szF .i64 24 (sm hk) (AlOk.nil _)))), hcs, LkOk.no _ _ _ _, (an 5 (.lit .i64 1) (sm h_o5.symm) (av 1 .i64 (av 1 .i64 (an 4 (.bin .add (.var .i64 4) (.lit .i64 1)) (sm h_o4.symm) (an 5 (.lit .i64 1) (sm h_o5.symm) (ar 60 (ar_upd (.lit .i64 0) (.lit .i64 24) (i := (0 : Int)) (v := (24 : Int)) rfl rfl (by kernel_rfl) ar_zero) (ar 61 (ar_upd (.lit .i64 0) (.lit .i64 8) (i := (0 : Int)) (v := (8 : Int)) rfl rfl (by kernel_rfl) ar_zero) (ar 62 (ar_upd (.lit .i64 0) (.lit .i64 2) (i := (0 : Int)) (v := (2 : Int)) rfl rfl (by kernel_rfl) ar_zero) (asg_nil rfl))))))))), fun G => by kernel_rfl⟩, (show o4 = S1.ρ 4 + 1 by omega), (show o5 = 1 from h_o5), fun j hj => ?_, (Stay.refl [4, 5] [60, 61, 62] _).set rfl rfl⟩
    obtain rfl : j = 0 := by omega
    exact isC_of 2 ⟨rfl, rfl, rfl⟩
  · have c0 : S1.ρ 4 < S1.ρ 1 := by omega
    have d0 : wXF32_0.den S1 = some [b2i true] := tr (p := S1.ρ 4 < S1.ρ 1) c0
    have c1 : ¬ (S1.ρ 4 < (0 : Int)) := by omega
    have d1 : wXF32_1.den S1 = some [b2i true] := tr (p := (0 : Int) ≤ S1.ρ 4) (Int.not_lt.1 c1)
    obtain ⟨o5, h_o5⟩ : ∃ o : Int, o = (1 : Int) := ⟨_, rfl⟩
    obtain ⟨o4, h_o4⟩ : ∃ o : Int, o = (IntKind.i64.wrap (S1.ρ 4 + (1 : Int))) := ⟨_, rfl⟩
    have u4 := h_o4
    rw [w_i64 (by omega) (by omega)] at u4
    refine ⟨S1.set (upd S1.ρ [(5, o5), (4, o4)]) [(60, (fun j => ifE j ((0 : Int)) ((32 : Int)) ((fun _ => 0) j))), (61, (fun j => ifE j ((0 : Int)) ((32 : Int)) ((fun _ => 0) j))), (62, (fun j => ifE j ((0 : Int)) ((2 : Int)) ((fun _ => 0) j)))] 60 rfl hK, ⟨_, [], _, 1000, _, [(0, 3)], (ai wXF32_1 true d1 (ai wXF32_0 true d0 (ain szF .i64 32 (sm hk) (AlOk.nil _)))), hcs, LkOk.no _ _ _ _, (an 5 (.lit .i64 1) (sm h_o5.symm) (av 1 .i64 (av 1 .i64 (an 4 (.bin .add (.var .i64 4) (.lit .i64 1)) (sm h_o4.symm) (an 5 (.lit .i64 1) (sm h_o5.symm) (ar 60 (ar_upd (.lit .i64 0) (.lit .i64 32) (i := (0 : Int)) (v := (32 : Int)) rfl rfl (by kernel_rfl) ar_zero) (ar 61 (ar_upd (.lit .i64 0) (.lit .i64 32) (i := (0 : Int)) (v := (32 : Int)) rfl rfl (by kernel_rfl) ar_zero) (ar 62 (ar_upd (.lit .i64 0) (.lit .i64 2) (i := (0 : Int)) (v := (2 : Int)) rfl rfl (by kernel_rfl) ar_zero) (asg_nil rfl))))))))), fun G => by kernel_rfl⟩, (show o4 = S1.ρ 4 + 1 by omega), (show o5 = 1 from h_o5), fun j hj => ?_, (Stay.refl [4, 5] [60, 61, 62] _).set rfl rfl⟩
    obtain rfl : j = 0 := by omega
    exact isC_of 3 ⟨rfl, rfl, rfl⟩
  · have c0 : S1.ρ 4 < S1.ρ 1 := by omega
    have d0 : wXF40_0.den S1 = some [b2i true] := tr (p := S1.ρ 4 < S1.ρ 1) c0
    have c1 : ¬ (S1.ρ 4 < (0 : Int)) := by omega
    have d1 : wXF40_1.den S1 = some [b2i true] := tr (p := (0 : Int) ≤ S1.ρ 4) (Int.not_lt.1 c1)
    obtain ⟨o5, h_o5⟩ : ∃ o : Int, o = (1 : Int) := ⟨_, rfl⟩
    obtain ⟨o4, h_o4⟩ : ∃ o : Int, o = (IntKind.i64.wrap (S1.ρ 4 + (1 : Int))) := ⟨_, rfl⟩
    have u4 := h_o4
    rw [w_i64 (by omega) (by omega)] at u4
    refine ⟨S1.set (upd S1.ρ [(5, o5), (4, o4)]) [(60, (fun j => ifE j ((0 : Int)) ((40 : Int)) ((fun _ => 0) j))), (61, (fun j => ifE j ((0 : Int)) ((8 : Int)) ((fun _ => 0) j))), (62, (fun j => ifE j ((0 : Int)) ((1 : Int)) ((fun _ => 0) j)))] 60 rfl hK, ⟨_, [], _, 1000, _, [(0, 3)], (ai wXF40_1 true d1 (ai wXF40_0 true d0 (ain szF .i64 40 (sm hk) (AlOk.nil _)))), hcs, LkOk.no _ _ _ _, (an 5 (.lit .i64 1) (sm h_o5.symm) (av 1 .i64 (av 1 .i64 (an 4 (.bin .add (.var .i64 4) (.lit .i64 1)) (sm h_o4.symm) (an 5 (.lit .i64 1) (sm h_o5.symm) (ar 60 (ar_upd (.lit .i64 0) (.lit .i64 40) (i := (0 : Int)) (v := (40 : Int)) rfl rfl (by kernel_rfl) ar_zero) (ar 61 (ar_upd (.lit .i64 0) (.lit .i64 8) (i := (0 : Int)) (v := (8 : Int)) rfl rfl (by kernel_rfl) ar_zero) (ar 62 (ar_upd (.lit .i64 0) (.lit .i64 1) (i := (0 : Int)) (v := (1 : Int)) rfl rfl (by kernel_rfl) ar_zero) (asg_nil rfl))))))))), fun G => by kernel_rfl⟩, (show o4 = S1.ρ 4 + 1 by omega), (show o5 = 1 from h_o5), fun j hj => ?_, (Stay.refl [4, 5] [60, 61, 62] _).set rfl rfl⟩
    obtain rfl : j = 0 := by omega
    exact isC_of 4 ⟨rfl, rfl, rfl⟩
  · have c0 : S1.ρ 4 < S1.ρ 1 := by omega
    have d0 : wXF48_0.den S1 = some [b2i true] := tr (p := S1.ρ 4 < S1.ρ 1) c0
    have c1 : ¬ (S1.ρ 4 < (0 : Int)) := by omega
    have d1 : wXF48_1.den S1 = some [b2i true] := tr (p := (0 : Int) ≤ S1.ρ 4) (Int.not_lt.1 c1)
    obtain ⟨o5, h_o5⟩ : ∃ o : Int, o = (1 : Int) := ⟨_, rfl⟩
    obtain ⟨o4, h_o4⟩ : ∃ o : Int, o = (IntKind.i64.wrap (S1.ρ 4 + (1 : Int))) := ⟨_, rfl⟩
    have u4 := h_o4
    rw [w_i64 (by omega) (by omega)] at u4
    refine ⟨S1.set (upd S1.ρ [(5, o5), (4, o4)]) [(60, (fun j => ifE j ((0 : Int)) ((48 : Int)) ((fun _ => 0) j))), (61, (fun j => ifE j ((0 : Int)) ((16 : Int)) ((fun _ => 0) j))), (62, (fun j => ifE j ((0 : Int)) ((1 : Int)) ((fun _ => 0) j)))] 60 rfl hK, ⟨_, [], _, 1000, _, [(0, 3)], (ai wXF48_1 true d1 (ai wXF48_0 true d0 (ain szF .i64 48 (sm hk) (AlOk.nil _)))), hcs, LkOk.no _ _ _ _, (an 5 (.lit .i64 1) (sm h_o5.symm) (av 1 .i64 (av 1 .i64 (an 4 (.bin .add (.var .i64 4) (.lit .i64 1)) (sm h_o4.symm) (an 5 (.lit .i64 1) (sm h_o5.symm) (ar 60 (ar_upd (.lit .i64 0) (.lit .i64 48) (i := (0 : Int)) (v := (48 : Int)) rfl rfl (by kernel_rfl) ar_zero) (ar 61 (ar_upd (.lit .i64 0) (.lit .i64 16) (i := (0 : Int)) (v := (16 : Int)) rfl rfl (by kernel_rfl) ar_zero) (ar 62 (ar_upd (.lit .i64 0) (.lit .i64 1) (i := (0 : Int)) (v := (1 : Int)) rfl rfl (by kernel_rfl) ar_zero) (asg_nil rfl))))))))), fun G => by kernel_rfl⟩, (show o4 = S1.ρ 4 + 1 by omega), (show o5 = 1 from h_o5), fun j hj => ?_, (Stay.refl [4, 5] [60, 61, 62] _).set rfl rfl⟩
    obtain rfl : j = 0 := by omega
    exact isC_of 5 ⟨rfl, rfl, rfl⟩
  · have c0 : S1.ρ 4 < S1.ρ 1 := by omega
    have d0 : wXF56_0.den S1 = some [b2i true] := tr (p := S1.ρ 4 < S1.ρ 1) c0
    have c1 : ¬ (S1.ρ 4 < (0 : Int)) := by omega
    have d1 : wXF56_1.den S1 = some [b2i true] := tr (p := (0 : Int) ≤ S1.ρ 4) (Int.not_lt.1 c1)
    obtain ⟨o5, h_o5⟩ : ∃ o : Int, o = (1 : Int) := ⟨_, rfl⟩
    obtain ⟨o4, h_o4⟩ : ∃ o : Int, o = (IntKind.i64.wrap (S1.ρ 4 + (1 : Int))) := ⟨_, rfl⟩
    have u4 := h_o4
    rw [w_i64 (by omega) (by omega)] at u4
    refine ⟨S1.set (upd S1.ρ [(5, o5), (4, o4)]) [(60, (fun j => ifE j ((0 : Int)) ((56 : Int)) ((fun _ => 0) j))), (61, (fun j => ifE j ((0 : Int)) ((8 : Int)) ((fun _ => 0) j))), (62, (fun j => ifE j ((0 : Int)) ((1 : Int)) ((fun _ => 0) j)))] 60 rfl hK, ⟨_, [], _, 1000, _, [(0, 3)], (ai wXF56_1 true d1 (ai wXF56_0 true d0 (ain szF .i64 56 (sm hk) (AlOk.nil _)))), hcs, LkOk.no _ _ _ _, (an 5 (.lit .i64 1) (sm h_o5.symm) (av 1 .i64 (av 1 .i64 (an 4 (.bin .add (.var .i64 4) (.lit .i64 1)) (sm h_o4.symm) (an 5 (.lit .i64 1) (sm h_o5.symm) (ar 60 (ar_upd (.lit .i64 0) (.lit .i64 56) (i := (0 : Int)) (v := (56 : Int)) rfl rfl (by kernel_rfl) ar_zero) (ar 61 (ar_upd (.lit .i64 0) (.lit .i64 8) (i := (0 : Int)) (v := (8 : Int)) rfl rfl (by kernel_rfl) ar_zero) (ar 62 (ar_upd (.lit .i64 0) (.lit .i64 1) (i := (0 : Int)) (v := (1 : Int)) rfl rfl (by kernel_rfl) ar_zero) (asg_nil rfl))))))))), fun G => by kernel_rfl⟩, (show o4 = S1.ρ 4 + 1 by omega), (show o5 = 1 from h_o5), fun j hj => ?_, (Stay.refl [4, 5] [60, 61, 62] _).set rfl rfl⟩
    obtain rfl : j = 0 := by omega
    exact isC_of 6 ⟨rfl, rfl, rfl⟩
  · have c0 : S1.ρ 4 < S1.ρ 1 := by omega
    have d0 : wXF64_0.den S1 = some [b2i true] := tr (p := S1.ρ 4 < S1.ρ 1) c0
    have c1 : ¬ (S1.ρ 4 < (0 : Int)) := by omega
    have d1 : wXF64_1.den S1 = some [b2i true] := tr (p := (0 : Int) ≤ S1.ρ 4) (Int.not_lt.1 c1)
    obtain ⟨o5, h_o5⟩ : ∃ o : Int, o = (1 : Int) := ⟨_, rfl⟩
    obtain ⟨o4, h_o4⟩ : ∃ o : Int, o = (IntKind.i64.wrap (S1.ρ 4 + (1 : Int))) := ⟨_, rfl⟩
    have u4 := h_o4
    rw [w_i64 (by omega) (by omega)] at u4
    refine ⟨S1.set (upd S1.ρ [(5, o5), (4, o4)]) [(60, (fun j => ifE j ((0 : Int)) ((64 : Int)) ((fun _ => 0) j))), (61, (fun j => ifE j ((0 : Int)) ((64 : Int)) ((fun _ => 0) j))), (62, (fun j => ifE j ((0 : Int)) ((1 : Int)) ((fun _ => 0) j)))] 60 rfl hK, ⟨_, [], _, 1000, _, [(0, 3)], (ai wXF64_1 true d1 (ai wXF64_0 true d0 (ain szF .i64 64 (sm hk) (AlOk.nil _)))), hcs, LkOk.no _ _ _ _, (an 5 (.lit .i64 1) (sm h_o5.symm) (av 1 .i64 (av 1 .i64 (an 4 (.bin .add (.var .i64 4) (.lit .i64 1)) (sm h_o4.symm) (an 5 (.lit .i64 1) (sm h_o5.symm) (ar 60 (ar_upd (.lit .i64 0) (.lit .i64 64) (i := (0 : Int)) (v := (64 : Int)) rfl rfl (by kernel_rfl) ar_zero) (ar 61 (ar_upd (.lit .i64 0) (.lit .i64 64) (i := (0 : Int)) (v := (64 : Int)) rfl rfl (by kernel_rfl) ar_zero) (ar 62 (ar_upd (.lit .i64 0) (.lit .i64 1) (i := (0 : Int)) (v := (1 : Int)) rfl rfl (by kernel_rfl) ar_zero) (asg_nil rfl))))))))), fun G => by kernel_rfl⟩, (show o4 = S1.ρ 4 + 1 by omega), (show o5 = 1 from h_o5), fun j hj => ?_, (Stay.refl [4, 5] [60, 61, 62] _).set rfl rfl⟩
    obtain rfl : j = 0 := by omega
    exact isC_of 7 ⟨rfl, rfl, rfl⟩
def wRF0 : Tm := (.bin .lss (.var .i64 4) (.var .i64 1))
def wRF1 : Tm := (.bin .geq (.var .i64 4) (.lit .i64 0))
def wRF2 : Tm := (.bin .geq (.app .i64 20 (.cons (.var .i64 4) .nil)) (.lit .i64 8))
def wRF3 : Tm := (.bin .leq (.app .i64 20 (.cons (.var .i64 4) .nil)) (.lit .i64 64))
def wRF4 : Tm := (.bin .eql (.bin .rem (.app .i64 20 (.cons (.var .i64 4) .nil)) (.lit .i64 8)) (.lit .i64 0))
def wTF8_0 : Tm := (.bin .lss (.var .i64 4) (.var .i64 1))
def wTF8_1 : Tm := (.bin .geq (.var .i64 4) (.lit .i64 0))
def wTF8_2 : Tm := (.bin .geq (.var .i64 5) (.lit .i64 0))
def wTF8_3 : Tm := (.bin .lss (.var .i64 5) (.lit .i64 4194304))
def wTF8_4 : Tm := (.bin .lss (.bin .add (.var .i64 5) (.lit .i64 1)) (.lit .i64 4194304))
def wTF16_0 : Tm := (.bin .lss (.var .i64 4) (.var .i64 1))
def wTF16_1 : Tm := (.bin .geq (.var .i64 4) (.lit .i64 0))
def wTF16_2 : Tm := (.bin .geq (.var .i64 5) (.lit .i64 0))
def wTF16_3 : Tm := (.bin .lss (.var .i64 5) (.lit .i64 4194304))
def wTF16_4 : Tm := (.bin .lss (.bin .add (.var .i64 5) (.lit .i64 1)) (.lit .i64 4194304))
def wTF24_0 : Tm := (.bin .lss (.var .i64 4) (.var .i64 1))
def wTF24_1 : Tm := (.bin .geq (.var .i64 4) (.lit .i64 0))
def wTF24_2 : Tm := (.bin .geq (.var .i64 5) (.lit .i64 0))
def wTF24_3 : Tm := (.bin .lss (.var .i64 5) (.lit .i64 4194304))
def wTF24_4 : Tm := (.bin .lss (.bin .add (.var .i64 5) (.lit .i64 1)) (.lit .i64 4194304))
def wTF32_0 : Tm := (.bin .lss (.var .i64 4) (.var .i64 1))
def wTF32_1 : Tm := (.bin .geq (.var .i64 4) (.lit .i64 0))
def wTF32_2 : Tm := (.bin .geq (.var .i64 5) (.lit .i64 0))
def wTF32_3 : Tm := (.bin .lss (.var .i64 5) (.lit .i64 4194304))
def wTF32_4 : Tm := (.bin .lss (.bin .add (.var .i64 5) (.lit .i64 1)) (.lit .i64 4194304))
def wTF40_0 : Tm := (.bin .lss (.var .i64 4) (.var .i64 1))
def wTF40_1 : Tm := (.bin .geq (.var .i64 4) (.lit .i64 0))
def wTF40_2 : Tm := (.bin .geq (.var .i64 5) (.lit .i64 0))
def wTF40_3 : Tm := (.bin .lss (.var .i64 5) (.lit .i64 4194304))
def wTF40_4 : Tm := (.bin .lss (.bin .add (.var .i64 5) (.lit .i64 1)) (.lit .i64 4194304))
def wTF48_0 : Tm := (.bin .lss (.var .i64 4) (.var .i64 1))
def wTF48_1 : Tm := (.bin .geq (.var .i64 4) (.lit .i64 0))
def wTF48_2 : Tm := (.bin .geq (.var .i64 5) (.lit .i64 0))
def wTF48_3 : Tm := (.bin .lss (.var .i64 5) (.lit .i64 4194304))
def wTF48_4 : Tm := (.bin .lss (.bin .add (.var .i64 5) (.lit .i64 1)) (.lit .i64 4194304))
def wTF56_0 : Tm := (.bin .lss (.var .i64 4) (.var .i64 1))
def wTF56_1 : Tm := (.bin .geq (.var .i64 4) (.lit .i64 0))
def wTF56_2 : Tm := (.bin .geq (.var .i64 5) (.lit .i64 0))
def wTF56_3 : Tm := (.bin .lss (.var .i64 5) (.lit .i64 4194304))
def wTF56_4 : Tm := (.bin .lss (.bin .add (.var .i64 5) (.lit .i64 1)) (.lit .i64 4194304))
def wTF64_0 : Tm := (.bin .lss (.var .i64 4) (.var .i64 1))
def wTF64_1 : Tm := (.bin .geq (.var .i64 4) (.lit .i64 0))
def wTF64_2 : Tm := (.bin .geq (.var .i64 5) (.lit .i64 0))
def wTF64_3 : Tm := (.bin .lss (.var .i64 5) (.lit .i64 4194304))
def wTF64_4 : Tm := (.bin .lss (.bin .add (.var .i64 5) (.lit .i64 1)) (.lit .i64 4194304))
theorem rowToF {S1 : Sy} (h0 : 0 ≤ S1.ρ 4) (h1 : S1.ρ 4 < S1.ρ 1) (h2 : S1.ρ 1 ≤ 4096) (h3 : 0 < S1.ρ 5 ∧ S1.ρ 5 ≤ S1.ρ 4) (hr : ∀ j : Nat, (j : Int) < S1.ρ 5 → isC (S1.Φ 60 [(j : Int)]) (S1.Φ 61 [(j : Int)]) (S1.Φ 62 [(j : Int)])) (hK : ∀ x ∈ S1.I, x.f + x.ks.length ≤ 60) :
    ∃ S2, StepTo Try.prog ftF ΛF [] (cAt Try.prog lpFM) X1F F1F 0 S1 S2 ∧ S2.ρ 4 = S1.ρ 4 + 1 ∧ (0 < S2.ρ 5 ∧ S2.ρ 5 ≤ S1.ρ 4 + 1) ∧ (∀ j : Nat, (j : Int) < S2.ρ 5 → isC (S2.Φ 60 [(j : Int)]) (S2.Φ 61 [(j : Int)]) (S2.Φ 62 [(j : Int)])) ∧ Stay [4, 5] [60, 61, 62] S1 S2 := by
  have hcs : ∀ c ∈ ([] : List Ctr), CtrOk Try.prog S1 [] c := fun c hc => by simp at hc
  by_cases hv : okS (S1.Φ 20 [S1.ρ 4])
  · rcases okS_cases hv with hk | hk | hk | hk | hk | hk | hk | hk
    · have c0 : S1.ρ 4 < S1.ρ 1 := by omega
      have d0 : wTF8_0.den S1 = some [b2i true] := tr (p := S1.ρ 4 < S1.ρ 1) c0
      have c1 : ¬ (S1.ρ 4 < (0 : Int)) := by omega
      have d1 : wTF8_1.den S1 = some [b2i true] := tr (p := (0 : Int) ≤ S1.ρ 4) (Int.not_lt.1 c1)
      have c2 : ¬ (S1.ρ 5 < (0 : Int)) := by omega
      have d2 : wTF8_2.den S1 = some [b2i true] := tr (p := (0 : Int) ≤ S1.ρ 5) (Int.not_lt.1 c2)
      have c3 : S1.ρ 5 < (4194304 : Int) := by omega
      have d3 : wTF8_3.den S1 = some [b2i true] := tr (p := S1.ρ 5 < (4194304 : Int)) c3
      have c4 : (IntKind.i64.wrap (S1.ρ 5 + (1 : Int))) < (4194304 : Int) := by rw [w_i64 (by omega) (by omega)]; omega
      have d4 : wTF8_4.den S1 = some [b2i true] := tr (p := (IntKind.i64.wrap (S1.ρ 5 + (1 : Int))) < (4194304 : Int)) c4
      obtain ⟨o5, h_o5⟩ : ∃ o : Int, o = (IntKind.i64.wrap (S1.ρ 5 + (1 : Int))) := ⟨_, rfl⟩
      obtain ⟨o4, h_o4⟩ : ∃ o : Int, o = (IntKind.i64.wrap (S1.ρ 4 + (1 : Int))) := ⟨_, rfl⟩
      have u4 := h_o4
      rw [w_i64 (by omega) (by omega)] at u4
      have u5 := h_o5
      rw [w_i64 (by omega) (by omega)] at u5
      exact ⟨S1.set (upd S1.ρ [(5, o5), (4, o4)]) [(60, (fun j => ifE j (S1.ρ 5) ((8 : Int)) ((fun j => S1.Φ 60 [j]) j))), (61, (fun j => ifE j (S1.ρ 5) ((8 : Int)) ((fun j => S1.Φ 61 [j]) j))), (62, (fun j => ifE j (S1.ρ 5) ((8 : Int)) ((fun j => S1.Φ 62 [j]) j)))] 60 rfl hK, ⟨_, [], _, 1000, _, [(0, 3)], (ai wTF8_4 true d4 (ai wTF8_3 true d3 (ai wTF8_2 true d2 (ai wTF8_1 true d1 (ai wTF8_0 true d0 (ain szF .i64 8 (sm hk) (AlOk.nil _))))))), hcs, LkOk.no _ _ _ _, (an 5 (.bin .add (.var .i64 5) (.lit .i64 1)) (sm h_o5.symm) (av 1 .i64 (av 1 .i64 (an 4 (.bin .add (.var .i64 4) (.lit .i64 1)) (sm h_o4.symm) (an 5 (.bin .add (.var .i64 5) (.lit .i64 1)) (sm h_o5.symm) (ar 60 (ar_upd (.var .i64 5) (.lit .i64 8) (i := S1.ρ 5) (v := (8 : Int)) rfl rfl (by kernel_rfl) (ar_var 60)) (ar 61 (ar_upd (.var .i64 5) (.lit .i64 8) (i := S1.ρ 5) (v := (8 : Int)) rfl rfl (by kernel_rfl) (ar_var 61)) (ar 62 (ar_upd (.var .i64 5) (.lit .i64 8) (i := S1.ρ 5) (v := (8 : Int)) rfl rfl (by kernel_rfl) (ar_var 62)) (asg_nil rfl))))))))), fun G => by kernel_rfl⟩, (show o4 = S1.ρ 4 + 1 by omega), (show 0 < o5 ∧ o5 ≤ S1.ρ 4 + 1 by omega), fun j hj => isC_upd (f := fun j => S1.Φ 60 [j]) (g := fun j => S1.Φ 61 [j]) (h := fun j => S1.Φ 62 [j]) 0 ⟨rfl, rfl, rfl⟩ hr (show (j : Int) < S1.ρ 5 + 1 from by have h9 : (j : Int) < o5 := hj; omega), (Stay.refl [4, 5] [60, 61, 62] _).set rfl rfl⟩
    · have c0 : S1.ρ 4 < S1.ρ 1 := by omega
      have d0 : wTF16_0.den S1 = some [b2i true] := tr (p := S1.ρ 4 < S1.ρ 1) c0
      have c1 : ¬ (S1.ρ 4 < (0 : Int)) := by omega
      have d1 : wTF16_1.den S1 = some [b2i true] := tr (p := (0 : Int) ≤ S1.ρ 4) (Int.not_lt.1 c1)
      have c2 : ¬ (S1.ρ 5 < (0 : Int)) := by omega
      have d2 : wTF16_2.den S1 = some [b2i true] := tr (p := (0 : Int) ≤ S1.ρ 5) (Int.not_lt.1 c2)
      have c3 : S1.ρ 5 < (4194304 : Int) := by omega
      have d3 : wTF16_3.den S1 = some [b2i true] := tr (p := S1.ρ 5 < (4194304 : Int)) c3
      have c4 : (IntKind.i64.wrap (S1.ρ 5 + (1 : Int))) < (4194304 : Int) := by rw [w_i64 (by omega) (by omega)]; omega
      have d4 : wTF16_4.den S1 = some [b2i true] := tr (p := (IntKind.i64.wrap (S1.ρ 5 + (1 : Int))) < (4194304 : Int)) c4
      obtain ⟨o5, h_o5⟩ : ∃ o : Int, o = (IntKind.i64.wrap (S1.ρ 5 + (1 : Int))) := ⟨_, rfl⟩
      obtain ⟨o4, h_o4⟩ : ∃ o : Int, o = (IntKind.i64.wrap (S1.ρ 4 + (1 : Int))) := ⟨_, rfl⟩
      have u4 := h_o4
      rw [w_i64 (by omega) (by omega)] at u4
      have u5 := h_o5
      rw [w_i64 (by omega) (by omega)] at u5
      exact ⟨S1.set (upd S1.ρ [(5, o5), (4, o4)]) [(60, (fun j => ifE j (S1.ρ 5) ((16 : Int)) ((fun j => S1.Φ 60 [j]) j))), (61, (fun j => ifE j (S1.ρ 5) ((16 : Int)) ((fun j => S1.Φ 61 [j]) j))), (62, (fun j => ifE j (S1.ρ 5) ((4 : Int)) ((fun j => S1.Φ 62 [j]) j)))] 60 rfl hK, ⟨_, [], _, 1000, _, [(0, 3)], (ai wTF16_4 true d4 (ai wTF16_3 true d3 (ai wTF16_2 true d2 (ai wTF16_1 true d1 (ai wTF16_0 true d0 (ain szF .i64 16 (sm hk) (AlOk.nil _))))))), hcs, LkOk.no _ _ _ _, (an 5 (.bin .add (.var .i64 5) (.lit .i64 1)) (sm h_o5.symm) (av 1 .i64 (av 1 .i64 (an 4 (.bin .add (.var .i64 4) (.lit .i64 1)) (sm h_o4.symm) (an 5 (.bin .add (.var .i64 5) (.lit .i64 1)) (sm h_o5.symm) (ar 60 (ar_upd (.var .i64 5) (.lit .i64 16) (i := S1.ρ 5) (v := (16 : Int)) rfl rfl (by kernel_rfl) (ar_var 60)) (ar 61 (ar_upd (.var .i64 5) (.lit .i64 16) (i := S1.ρ 5) (v := (16 : Int)) rfl rfl (by kernel_rfl) (ar_var 61)) (ar 62 (ar_upd (.var .i64 5) (.lit .i64 4) (i := S1.ρ 5) (v := (4 : Int)) rfl rfl (by kernel_rfl) (ar_var 62)) (asg_nil rfl))))))))), fun G => by kernel_rfl⟩, (show o4 = S1.ρ 4 + 1 by omega), (show 0 < o5 ∧ o5 ≤ S1.ρ 4 + 1 by omega), fun j hj => isC_upd (f := fun j => S1.Φ 60 [j]) (g := fun j => S1.Φ 61 [j]) (h := fun j => S1.Φ 62 [j]) 1 ⟨rfl, rfl, rfl⟩ hr (show (j : Int) < S1.ρ 5 + 1 from by have h9 : (j : Int) < o5 := hj; omega), (Stay.refl [4, 5] [60, 61, 62] _).set rfl rfl⟩
    · have c0 : S1.ρ 4 < S1.ρ 1 := by omega
      have d0 : wTF24_0.den S1 = some [b2i true] := tr (p := S1.ρ 4 < S1.ρ 1) c0
      have c1 : ¬ (S1.ρ 4 < (0 : Int)) := by omega
      have d1 : wTF24_1.den S1 = some [b2i true] := tr (p := (0 : Int) ≤ S1.ρ 4) (Int.not_lt.1 c1)
      have c2 : ¬ (S1.ρ 5 < (0 : Int)) := by omega
      have d2 : wTF24_2.den S1 = some [b2i true] := tr (p := (0 : Int) ≤ S1.ρ 5) (Int.not_lt.1 c2)
      have c3 : S1.ρ 5 < (4194304 : Int) := by omega
      have d3 : wTF24_3.den S1 = some [b2i true] := tr (p := S1.ρ 5 < (4194304 : Int)) c3
      have c4 : (IntKind.i64.wrap (S1.ρ 5 + (1 : Int))) < (4194304 : Int) := by rw [w_i64 (by omega) (by omega)]; omega
      have d4 : wTF24_4.den S1 = some [b2i true] := tr (p := (IntKind.i64.wrap (S1.ρ 5 + (1 : Int))) < (4194304 : Int)) c4
      obtain ⟨o5, h_o5⟩ : ∃ o : Int, o = (IntKind.i64.wrap (S1.ρ 5 + (1 : Int))) := ⟨_, rfl⟩
      obtain ⟨o4, h_o4⟩ : ∃ o : Int, o = (IntKind.i64.wrap (S1.ρ 4 + (1 : Int))) := ⟨_, rfl⟩
      have u4 := h_o4
      rw [w_i64 (by omega) (by omega)] at u4
      have u5 := h_o5
      rw [w_i64 (by omega) (by omega)] at u5
      exact ⟨S1.set (upd S1.ρ [(5, o5), (4, o4)]) [(60, (fun j => ifE j (S1.ρ 5) ((24 : Int)) ((fun j => S1.Φ 60 [j]) j))), (61, (fun j => ifE j (S1.ρ 5) ((8 : Int)) ((fun j => S1.Φ 61 [j]) j))), (62, (fun j => ifE j (S1.ρ 5) ((2 : Int)) ((fun j => S1.Φ 62 [j]) j)))] 60 rfl hK, ⟨_, [], _, 1000, _, [(0, 3)], (ai wTF24_4 true d4 (ai wTF24_3 true d3 (ai wTF24_2 true d2 (ai wTF24_1 true d1 (ai wTF24_0 true d0 (ain szF .i64 24 (sm hk) (AlOk.nil _))))))), hcs, LkOk.no _ _ _ _, (an 5 (.bin .add (.var .i64 5) (.lit .i64 1)) (sm h_o5.symm) (av 1 .i64 (av 1 .i64 (an 4 (.bin .add (.var .i64 4) (.lit .i64 1)) (sm h_o4.symm) (an 5 (.bin .add (.var .i64 5) (.lit .i64 1)) (sm h_o5.symm) (ar 60 (ar_upd (.var .i64 5) (.lit .i64 24) (i := S1.ρ 5) (v := (24 : Int)) rfl rfl (by kernel_rfl) (ar_var 60)) (ar 61 (ar_upd (.var .i64 5) (.lit .i64 8) (i := S1.ρ 5) (v := (8 : Int)) rfl rfl (by kernel_rfl) (ar_var 61)) (ar 62 (ar_upd (.var .i64 5) (.lit .i64 2) (i := S1.ρ 5) (v := (2 : Int)) rfl rfl (by kernel_rfl) (ar_var 62)) (asg_nil rfl))))))))), fun G => by kernel_rfl⟩, (show o4 = S1.ρ 4 + 1 by omega), (show 0 < o5 ∧ o5 ≤ S1.ρ 4 + 1 by omega), fun j hj => isC_upd (f := fun j => S1.Φ 60 [j]) (g := fun j => S1.Φ 61 [j]) (h := fun j => S1.Φ 62 [j]) 2 ⟨rfl, rfl, rfl⟩ hr (show (j : Int) < S1.ρ 5 + 1 from by have h9 : (j : Int) < o5 := hj; omega), (Stay.refl [4, 5] [60, 61, 62] _).set rfl rfl⟩
    · have c0 : S1.ρ 4 < S1.ρ 1 := by omega
      have d0 : wTF32_0.den S1 = some [b2i true] := tr (p := S1.ρ 4 < S1.ρ 1) c0
      have c1 : ¬ (S1.ρ 4 < (0 : Int)) := by omega
      have d1 : wTF32_1.den S1 = some [b2i true] := tr (p := (0 : Int) ≤ S1.ρ 4) (Int.not_lt.1 c1)
      have c2 : ¬ (S1.ρ 5 < (0 : Int)) := by omega
      have d2 : wTF32_2.den S1 = some [b2i true] := tr (p := (0 : Int) ≤ S1.ρ 5) (Int.not_lt.1 c2)
      have c3 : S1.ρ 5 < (4194304 : Int) := by omega
      have d3 : wTF32_3.den S1 = some [b2i true] := tr (p := S1.ρ 5 < (4194304 : Int)) c3
      have c4 : (IntKind.i64.wrap (S1.ρ 5 + (1 : Int))) < (4194304 : Int) := by rw [w_i64 (by omega) (by omega)]; omega
      have d4 : wTF32_4.den S1 = some [b2i true] := tr (p := (IntKind.i64.wrap (S1.ρ 5 + (1 : Int))) < (4194304 : Int)) c4
      obtain ⟨o5, h_o5⟩ : ∃ o : Int, o = (IntKind.i64.wrap (S1.ρ 5 + (1 : Int))) := ⟨_, rfl⟩
      obtain ⟨o4, h_o4⟩ : ∃ o : Int, o = (IntKind.i64.wrap (S1.ρ 4 + (1 : Int))) := ⟨_, rfl⟩
      have u4 := h_o4
      rw [w_i64 (by omega) (by omega)] at u4
      have u5 := h_o5
      rw [w_i64 (by omega) (by omega)] at u5
      exact ⟨S1.set (upd S1.ρ [(5, o5), (4, o4)]) [(60, (fun j => ifE j (S1.ρ 5) ((32 : Int)) ((fun j => S1.Φ 60 [j]) j))), (61, (fun j => ifE j (S1.ρ 5) ((32 : Int)) ((fun j => S1.Φ 61 [j]) j))), (62, (fun j => ifE j (S1.ρ 5) ((2 : Int)) ((fun j => S1.Φ 62 [j]) j)))] 60 rfl hK, ⟨_, [], _, 1000, _, [(0, 3)], (ai wTF32_4 true d4 (ai wTF32_3 true d3 (ai wTF32_2 true d2 (ai wTF32_1 true d1 (ai wTF32_0 true d0 (ain szF .i64 32 (sm hk) (AlOk.nil _))))))), hcs, LkOk.no _ _ _ _, (an 5 (.bin .add (.var .i64 5) (.lit .i64 1)) (sm h_o5.symm) (av 1 .i64 (av 1 .i64 (an 4 (.bin .add (.var .i64 4) (.lit .i64 1)) (sm h_o4.symm) (an 5 (.bin .add (.var .i64 5) (.lit .i64 1)) (sm h_o5.symm) (ar 60 (ar_upd (.var .i64 5) (.lit .i64 32) (i := S1.ρ 5) (v := (32 : Int)) rfl rfl (by kernel_rfl) (ar_var 60)) (ar 61 (ar_upd (.var .i64 5) (.lit .i64 32) (i := S1.ρ 5) (v := (32 : Int)) rfl rfl (by kernel_rfl) (ar_var 61)) (ar 62 (ar_upd (.var .i64 5) (.lit .i64 2) (i := S1.ρ 5) (v := (2 : Int)) rfl rfl (by kernel_rfl) (ar_var 62)) (asg_nil rfl))))))))), fun G => by kernel_rfl⟩, (show o4 = S1.ρ 4 + 1 by omega), (show 0 < o5 ∧ o5 ≤ S1.ρ 4 + 1 by omega), fun j hj => isC_upd (f := fun j => S1.Φ 60 [j]) (g := fun j => S1.Φ 61 [j]) (h := fun j => S1.Φ 62 [j]) 3 ⟨rfl, rfl, rfl⟩ hr (show (j : Int) < S1.ρ 5 + 1 from by have h9 : (j : Int) < o5 := hj; omega), (Stay.refl [4, 5] [60, 61, 62] _).set rfl rfl⟩
    · have c0 : S1.ρ 4 < S1.ρ 1 := by omega
      have d0 : wTF40_0.den S1 = some [b2i true] := tr (p := S1.ρ 4 < S1.ρ 1) c0
      have c1 : ¬ (S1.ρ 4 < (0 : Int)) := by omega
      have d1 : wTF40_1.den S1 = some [b2i true] := tr (p := (0 : Int) ≤ S1.ρ 4) (Int.not_lt.1 c1)
      have c2 : ¬ (S1.ρ 5 < (0 : Int)) := by omega
      have d2 : wTF40_2.den S1 = some [b2i true] := tr (p := (0 : Int) ≤ S1.ρ 5) (Int.not_lt.1 c2)
      have c3 : S1.ρ 5 < (4194304 : Int) := by omega
      have d3 : wTF40_3.den S1 = some [b2i true] := tr (p := S1.ρ 5 < (4194304 : Int)) c3
      have c4 : (IntKind.i64.wrap (S1.ρ 5 + (1 : Int))) < (4194304 : Int) := by rw [w_i64 (by omega) (by omega)]; omega
      have d4 : wTF40_4.den S1 = some [b2i true] := tr (p := (IntKind.i64.wrap (S1.ρ 5 + (1 : Int))) < (4194304 : Int)) c4
      obtain ⟨o5, h_o5⟩ : ∃ o : Int, o = (IntKind.i64.wrap (S1.ρ 5 + (1 : Int))) := ⟨_, rfl⟩
      obtain ⟨o4, h_o4⟩ : ∃ o : Int, o = (IntKind.i64.wrap (S1.ρ 4 + (1 : Int))) := ⟨_, rfl⟩
      have u4 := h_o4
      rw [w_i64 (by omega) (by omega)] at u4
      have u5 := h_o5
      rw [w_i64 (by omega) (by omega)] at u5
      exact ⟨S1.set (upd S1.ρ [(5, o5), (4, o4)]) [(60, (fun j => ifE j (S1.ρ 5) ((40 : Int)) ((fun j => S1.Φ 60 [j]) j))), (61, (fun j => ifE j (S1.ρ 5) ((8 : Int)) ((fun j => S1.Φ 61 [j]) j))), (62, (fun j => ifE j (S1.ρ 5) ((1 : Int)) ((fun j => S1.Φ 62 [j]) j)))] 60 rfl hK, ⟨_, [], _, 1000, _, [(0, 3)], (ai wTF40_4 true d4 (ai wTF40_3 true d3 (ai wTF40_2 true d2 (ai wTF40_1 true d1 (ai wTF40_0 true d0 (ain szF .i64 40 (sm hk) (AlOk.nil _))))))), hcs, LkOk.no _ _ _ _, (an 5 (.bin .add (.var .i64 5) (.lit .i64 1)) (sm h_o5.symm) (av 1 .i64 (av 1 .i64 (an 4 (.bin .add (.var .i64 4) (.lit .i64 1)) (sm h_o4.symm) (an 5 (.bin .add (.var .i64 5) (.lit .i64 1)) (sm h_o5.symm) (ar 60 (ar_upd (.var .i64 5) (.lit .i64 40) (i := S1.ρ 5) (v := (40 : Int)) rfl rfl (by kernel_rfl) (ar_var 60)) (ar 61 (ar_upd (.var .i64 5) (.lit .i64 8) (i := S1.ρ 5) (v := (8 : Int)) rfl rfl (by kernel_rfl) (ar_var 61)) (ar 62 (ar_upd (.var .i64 5) (.lit .i64 1) (i := S1.ρ 5) (v := (1 : Int)) rfl rfl (by kernel_rfl) (ar_var 62)) (asg_nil rfl))))))))), fun G => by kernel_rfl⟩, (show o4 = S1.ρ 4 + 1 by omega), (show 0 < o5 ∧ o5 ≤ S1.ρ 4 + 1 by omega), fun j hj => isC_upd (f := fun j => S1.Φ 60 [j]) (g := fun j => S1.Φ 61 [j]) (h := fun j => S1.Φ 62 [j]) 4 ⟨rfl, rfl, rfl⟩ hr (show (j : Int) < S1.ρ 5 + 1 from by have h9 : (j : Int) < o5 := hj; omega), (Stay.refl [4, 5] [60, 61, 62] _).set rfl rfl⟩
    · have c0 : S1.ρ 4 < S1.ρ 1 := by omega
      have d0 : wTF48_0.den S1 = some [b2i true] := tr (p := S1.ρ 4 < S1.ρ 1) c0
      have c1 : ¬ (S1.ρ 4 < (0 : Int)) := by omega
      have d1 : wTF48_1.den S1 = some [b2i true] := tr (p := (0 : Int) ≤ S1.ρ 4) (Int.not_lt.1 c1)
      have c2 : ¬ (S1.ρ 5 < (0 : Int)) := by omega
      have d2 : wTF48_2.den S1 = some [b2i true] := tr (p := (0 : Int) ≤ S1.ρ 5) (Int.not_lt.1 c2)
      have c3 : S1.ρ 5 < (4194304 : Int) := by omega
      have d3 : wTF48_3.den S1 = some [b2i true] := tr (p := S1.ρ 5 < (4194304 : Int)) c3
      have c4 : (IntKind.i64.wrap (S1.ρ 5 + (1 : Int))) < (4194304 : Int) := by rw [w_i64 (by omega) (by omega)]; omega
      have d4 : wTF48_4.den S1 = some [b2i true] := tr (p := (IntKind.i64.wrap (S1.ρ 5 + (1 : Int))) < (4194304 : Int)) c4
      obtain ⟨o5, h_o5⟩ : ∃ o : Int, o = (IntKind.i64.wrap (S1.ρ 5 + (1 : Int))) := ⟨_, rfl⟩
      obtain ⟨o4, h_o4⟩ : ∃ o : Int, o = (IntKind.i64.wrap (S1.ρ 4 + (1 : Int))) := ⟨_, rfl⟩
      have u4 := h_o4
      rw [w_i64 (by omega) (by omega)] at u4
      have u5 := h_o5
      rw [w_i64 (by omega) (by omega)] at u5
      exact ⟨S1.set (upd S1.ρ [(5, o5), (4, o4)]) [(60, (fun j => ifE j (S1.ρ 5) ((48 : Int)) ((fun j => S1.Φ 60 [j]) j))), (61, (fun j => ifE j (S1.ρ 5) ((16 : Int)) ((fun j => S1.Φ 61 [j]) j))), (62, (fun j => ifE j (S1.ρ 5) ((1 : Int)) ((fun j => S1.Φ 62 [j]) j)))] 60 rfl hK, ⟨_, [], _, 1000, _, [(0, 3)], (ai wTF48_4 true d4 (ai wTF48_3 true d3 (ai wTF48_2 true d2 (ai wTF48_1 true d1 (ai wTF48_0 true d0 (ain szF .i64 48 (sm hk) (AlOk.nil _))))))), hcs, LkOk.no _ _ _ _, (an 5 (.bin .add (.var .i64 5) (.lit .i64 1)) (sm h_o5.symm) (av 1 .i64 (av 1 .i64 (an 4 (.bin .add (.var .i64 4) (.lit .i64 1)) (sm h_o4.symm) (an 5 (.bin .add (.var .i64 5) (.lit .i64 1)) (sm h_o5.symm) (ar 60 (ar_upd (.var .i64 5) (.lit .i64 48) (i := S1.ρ 5) (v := (48 : Int)) rfl rfl (by kernel_rfl) (ar_var 60)) (ar 61 (ar_upd (.var .i64 5) (.lit .i64 16) (i := S1.ρ 5) (v := (16 : Int)) rfl rfl (by kernel_rfl) (ar_var 61)) (ar 62 (ar_upd (.var .i64 5) (.lit .i64 1) (i := S1.ρ 5) (v := (1 : Int)) rfl rfl (by kernel_rfl) (ar_var 62)) (asg_nil rfl))))))))), fun G => by kernel_rfl⟩, (show o4 = S1.ρ 4 + 1 by omega), (show 0 < o5 ∧ o5 ≤ S1.ρ 4 + 1 by omega), fun j hj => isC_upd (f := fun j => S1.Φ 60 [j]) (g := fun j => S1.Φ 61 [j]) (h := fun j => S1.Φ 62 [j]) 5 ⟨rfl, rfl, rfl⟩ hr (show (j : Int) < S1.ρ 5 + 1 from by have h9 : (j : Int) < o5 := hj; omega), (Stay.refl [4, 5] [60, 61, 62] _).set rfl rfl⟩
    · have c0 : S1.ρ 4 < S1.ρ 1 := by omega
      have d0 : wTF56_0.den S1 = some [b2i true] := tr (p := S1.ρ 4 < S1.ρ 1) c0
      have c1 : ¬ (S1.ρ 4 < (0 : Int)) := by omega
      have d1 : wTF56_1.den S1 = some [b2i true] := tr (p := (0 : Int) ≤ S1.ρ 4) (Int.not_lt.1 c1)
      have c2 : ¬ (S1.ρ 5 < (0 : Int)) := by omega
      have d2 : wTF56_2.den S1 = some [b2i true] := tr (p := (0 : Int) ≤ S1.ρ 5) (Int.not_lt.1 c2)
      have c3 : S1.ρ 5 < (4194304 : Int) := by omega
      have d3 : wTF56_3.den S1 = some [b2i true] := tr (p := S1.ρ 5 < (4194304 : Int)) c3
      have c4 : (IntKind.i64.wrap (S1.ρ 5 + (1 : Int))) < (4194304 : Int) := by rw [w_i64 (by omega) (by omega)]; omega
      have d4 : wTF56_4.den S1 = some [b2i true] := tr (p := (IntKind.i64.wrap (S1.ρ 5 + (1 : Int))) < (4194304 : Int)) c4
      obtain ⟨o5, h_o5⟩ : ∃ o : Int, o = (IntKind.i64.wrap (S1.ρ 5 + (1 : Int))) := ⟨_, rfl⟩
      obtain ⟨o4, h_o4⟩ : ∃ o : Int, o = (IntKind.i64.wrap (S1.ρ 4 + (1 : Int))) := ⟨_, rfl⟩
      have u4 := h_o4
      rw [w_i64 (by omega) (by omega)] at u4
      have u5 := h_o5
      rw [w_i64 (by omega) (by omega)] at u5
      exact ⟨S1.set (upd S1.ρ [(5, o5), (4, o4)]) [(60, (fun j => ifE j (S1.ρ 5) ((56 : Int)) ((fun j => S1.Φ 60 [j]) j))), (61, (fun j => ifE j (S1.ρ 5) ((8 : Int)) ((fun j => S1.Φ 61 [j]) j))), (62, (fun j => ifE j (S1.ρ 5) ((1 : Int)) ((fun j => S1.Φ 62 [j]) j)))] 60 rfl hK, ⟨_, [], _, 1000, _, [(0, 3)], (ai wTF56_4 true d4 (ai wTF56_3 true d3 (ai wTF56_2 true d2 (ai wTF56_1 true d1 (ai wTF56_0 true d0 (ain szF .i64 56 (sm hk) (AlOk.nil _))))))), hcs, LkOk.no _ _ _ _, (an 5 (.bin .add (.var .i64 5) (.lit .i64 1)) (sm h_o5.symm) (av 1 .i64 (av 1 .i64 (an 4 (.bin .add (.var .i64 4) (.lit .i64 1)) (sm h_o4.symm) (an 5 (.bin .add (.var .i64 5) (.lit .i64 1)) (sm h_o5.symm) (ar 60 (ar_upd (.var .i64 5) (.lit .i64 56) (i := S1.ρ 5) (v := (56 : Int)) rfl rfl (by kernel_rfl) (ar_var 60)) (ar 61 (ar_upd (.var .i64 5) (.lit .i64 8) (i := S1.ρ 5) (v := (8 : Int)) rfl rfl (by kernel_rfl) (ar_var 61)) (ar 62 (ar_upd (.var .i64 5) (.lit .i64 1) (i := S1.ρ 5) (v := (1 : Int)) rfl rfl (by kernel_rfl) (ar_var 62)) (asg_nil rfl))))))))), fun G => by kernel_rfl⟩, (show o4 = S1.ρ 4 + 1 by omega), (show 0 < o5 ∧ o5 ≤ S1.ρ 4 + 1 by omega), fun j hj => isC_upd (f := fun j => S1.Φ 60 [j]) (g := fun j => S1.Φ 61 [j]) (h := fun j => S1.Φ 62 [j]) 6 ⟨rfl, rfl, rfl⟩ hr (show (j : Int) < S1.ρ 5 + 1 from by have h9 : (j : Int) < o5 := hj; omega), (Stay.refl [4, 5] [60, 61, 62] _).set rfl rfl⟩
    · have c0 : S1.ρ 4 < S1.ρ 1 := by omega
      have d0 : wTF64_0.den S1 = some [b2i true] := tr (p := S1.ρ 4 < S1.ρ 1) c0
      have c1 : ¬ (S1.ρ 4 < (0 : Int)) := by omega
      have d1 : wTF64_1.den S1 = some [b2i true] := tr (p := (0 : Int) ≤ S1.ρ 4) (Int.not_lt.1 c1)
      have c2 : ¬ (S1.ρ 5 < (0 : Int)) := by omega
      have d2 : wTF64_2.den S1 = some [b2i true] := tr (p := (0 : Int) ≤ S1.ρ 5) (Int.not_lt.1 c2)
      have c3 : S1.ρ 5 < (4194304 : Int) := by omega
      have d3 : wTF64_3.den S1 = some [b2i true] := tr (p := S1.ρ 5 < (4194304 : Int)) c3
      have c4 : (IntKind.i64.wrap (S1.ρ 5 + (1 : Int))) < (4194304 : Int) := by rw [w_i64 (by omega) (by omega)]; omega
      have d4 : wTF64_4.den S1 = some [b2i true] := tr (p := (IntKind.i64.wrap (S1.ρ 5 + (1 : Int))) < (4194304 : Int)) c4
      obtain ⟨o5, h_o5⟩ : ∃ o : Int, o = (IntKind.i64.wrap (S1.ρ 5 + (1 : Int))) := ⟨_, rfl⟩
      obtain ⟨o4, h_o4⟩ : ∃ o : Int, o = (IntKind.i64.wrap (S1.ρ 4 + (1 : Int))) := ⟨_, rfl⟩
      have u4 := h_o4
      rw [w_i64 (by omega) (by omega)] at u4
      have u5 := h_o5
      rw [w_i64 (by omega) (by omega)] at u5
      exact ⟨S1.set (upd S1.ρ [(5, o5), (4, o4)]) [(60, (fun j => ifE j (S1.ρ 5) ((64 : Int)) ((fun j => S1.Φ 60 [j]) j))), (61, (fun j => ifE j (S1.ρ 5) ((64 : Int)) ((fun j => S1.Φ 61 [j]) j))), (62, (fun j => ifE j (S1.ρ 5) ((1 : Int)) ((fun j => S1.Φ 62 [j]) j)))] 60 rfl hK, ⟨_, [], _, 1000, _, [(0, 3)], (ai wTF64_4 true d4 (ai wTF64_3 true d3 (ai wTF64_2 true d2 (ai wTF64_1 true d1 (ai wTF64_0 true d0 (ain szF .i64 64 (sm hk) (AlOk.nil _))))))), hcs, LkOk.no _ _ _ _, (an 5 (.bin .add (.var .i64 5) (.lit .i64 1)) (sm h_o5.symm) (av 1 .i64 (av 1 .i64 (an 4 (.bin .add (.var .i64 4) (.lit .i64 1)) (sm h_o4.symm) (an 5 (.bin .add (.var .i64 5) (.lit .i64 1)) (sm h_o5.symm) (ar 60 (ar_upd (.var .i64 5) (.lit .i64 64) (i := S1.ρ 5) (v := (64 : Int)) rfl rfl (by kernel_rfl) (ar_var 60)) (ar 61 (ar_upd (.var .i64 5) (.lit .i64 64) (i := S1.ρ 5) (v := (64 : Int)) rfl rfl (by kernel_rfl) (ar_var 61)) (ar 62 (ar_upd (.var .i64 5) (.lit .i64 1) (i := S1.ρ 5) (v := (1 : Int)) rfl rfl (by kernel_rfl) (ar_var 62)) (asg_nil rfl))))))))), fun G => by kernel_rfl⟩, (show o4 = S1.ρ 4 + 1 by omega), (show 0 < o5 ∧ o5 ≤ S1.ρ 4 + 1 by omega), fun j hj => isC_upd (f := fun j => S1.Φ 60 [j]) (g := fun j => S1.Φ 61 [j]) (h := fun j => S1.Φ 62 [j]) 7 ⟨rfl, rfl, rfl⟩ hr (show (j : Int) < S1.ρ 5 + 1 from by have h9 : (j : Int) < o5 := hj; omega), (Stay.refl [4, 5] [60, 61, 62] _).set rfl rfl⟩
  · have c0 : S1.ρ 4 < S1.ρ 1 := by omega
    have d0 : wRF0.den S1 = some [b2i true] := tr (p := S1.ρ 4 < S1.ρ 1) c0
    have c1 : ¬ (S1.ρ 4 < (0 : Int)) := by omega
    have d1 : wRF1.den S1 = some [b2i true] := tr (p := (0 : Int) ≤ S1.ρ 4) (Int.not_lt.1 c1)
    by_cases c2 : (S1.Φ 20 [S1.ρ 4]) < (8 : Int)
    · have d2 : wRF2.den S1 = some [b2i false] := fls (p := (8 : Int) ≤ (S1.Φ 20 [S1.ρ 4])) (Int.not_le.2 c2)
      obtain ⟨o4, h_o4⟩ : ∃ o : Int, o = (IntKind.i64.wrap (S1.ρ 4 + (1 : Int))) := ⟨_, rfl⟩
      have u4 := h_o4
      rw [w_i64 (by omega) (by omega)] at u4
      exact ⟨S1.set (upd S1.ρ [(4, o4)]) [] 60 rfl hK, ⟨_, [], _, 1000, _, [], (ai wRF2 false d2 (ai wRF1 true d1 (ai wRF0 true d0 (AlOk.nil _)))), hcs, LkOk.no _ _ _ _, (av 5 .i64 (av 1 .i64 (av 1 .i64 (an 4 (.bin .add (.var .i64 4) (.lit .i64 1)) (sm h_o4.symm) (av 5 .i64 (ar 60 (ar_var 60) (ar 61 (ar_var 61) (ar 62 (ar_var 62) (asg_nil rfl))))))))), fun G => by kernel_rfl⟩, (show o4 = S1.ρ 4 + 1 by omega), (show 0 < S1.ρ 5 ∧ S1.ρ 5 ≤ S1.ρ 4 + 1 by omega), hr, (Stay.refl [4, 5] [60, 61, 62] _).set rfl rfl⟩
    · have d2 : wRF2.den S1 = some [b2i true] := tr (p := (8 : Int) ≤ (S1.Φ 20 [S1.ρ 4])) (Int.not_lt.1 c2)
      by_cases c3 : (64 : Int) < (S1.Φ 20 [S1.ρ 4])
      · have d3 : wRF3.den S1 = some [b2i false] := fls (p := (S1.Φ 20 [S1.ρ 4]) ≤ (64 : Int)) (Int.not_le.2 c3)
        obtain ⟨o4, h_o4⟩ : ∃ o : Int, o = (IntKind.i64.wrap (S1.ρ 4 + (1 : Int))) := ⟨_, rfl⟩
        have u4 := h_o4
        rw [w_i64 (by omega) (by omega)] at u4
        exact ⟨S1.set (upd S1.ρ [(4, o4)]) [] 60 rfl hK, ⟨_, [], _, 1000, _, [], (ai wRF3 false d3 (ai wRF2 true d2 (ai wRF1 true d1 (ai wRF0 true d0 (AlOk.nil _))))), hcs, LkOk.no _ _ _ _, (av 5 .i64 (av 1 .i64 (av 1 .i64 (an 4 (.bin .add (.var .i64 4) (.lit .i64 1)) (sm h_o4.symm) (av 5 .i64 (ar 60 (ar_var 60) (ar 61 (ar_var 61) (ar 62 (ar_var 62) (asg_nil rfl))))))))), fun G => by kernel_rfl⟩, (show o4 = S1.ρ 4 + 1 by omega), (show 0 < S1.ρ 5 ∧ S1.ρ 5 ≤ S1.ρ 4 + 1 by omega), hr, (Stay.refl [4, 5] [60, 61, 62] _).set rfl rfl⟩
      · have d3 : wRF3.den S1 = some [b2i true] := tr (p := (S1.Φ 20 [S1.ρ 4]) ≤ (64 : Int)) (Int.not_lt.1 c3)
        have c4 : ¬ ((((S1.Φ 20 [S1.ρ 4])).tmod (8 : Int)) = (0 : Int)) := by intro hh; exact hv ⟨by omega, by omega, hh⟩
        have d4 : wRF4.den S1 = some [b2i false] := fls (p := (((S1.Φ 20 [S1.ρ 4])).tmod (8 : Int)) = (0 : Int)) c4
        obtain ⟨o4, h_o4⟩ : ∃ o : Int, o = (IntKind.i64.wrap (S1.ρ 4 + (1 : Int))) := ⟨_, rfl⟩
        have u4 := h_o4
        rw [w_i64 (by omega) (by omega)] at u4
        exact ⟨S1.set (upd S1.ρ [(4, o4)]) [] 60 rfl hK, ⟨_, [], _, 1000, _, [], (ai wRF4 false d4 (ai wRF3 true d3 (ai wRF2 true d2 (ai wRF1 true d1 (ai wRF0 true d0 (AlOk.nil _)))))), hcs, LkOk.no _ _ _ _, (av 5 .i64 (av 1 .i64 (av 1 .i64 (an 4 (.bin .add (.var .i64 4) (.lit .i64 1)) (sm h_o4.symm) (av 5 .i64 (ar 60 (ar_var 60) (ar 61 (ar_var 61) (ar 62 (ar_var 62) (asg_nil rfl))))))))), fun G => by kernel_rfl⟩, (show o4 = S1.ρ 4 + 1 by omega), (show 0 < S1.ρ 5 ∧ S1.ρ 5 ≤ S1.ρ 4 + 1 by omega), hr, (Stay.refl [4, 5] [60, 61, 62] _).set rfl rfl⟩
def wPF0 : Tm := (.bin .lss (.var .i64 4) (.var .i64 1))
theorem rowOutF {S1 T : Sy} (h1 : S1.ρ 4 = S1.ρ 1) (hT : Same [5] [60, 61, 62] S1 T) : StepOut Try.prog ftF ΛF [] (cAt Try.prog lpFM) X1F F1F (.exit 0) 0 S1 T := by
  have hcs : ∀ c ∈ ([] : List Ctr), CtrOk Try.prog S1 [] c := fun c hc => by simp at hc
  have c0 : ¬ (S1.ρ 4 < S1.ρ 1) := by omega
  have d0 : wPF0.den S1 = some [b2i false] := fls (p := S1.ρ 4 < S1.ρ 1) c0
  exact ⟨_, [], _, 1000, _, [], (ai wPF0 false d0 (AlOk.nil _)), hcs, LkOk.no _ _ _ _, (an 5 (.var .i64 5) (sm (hT.num 5 rfl)) (an 5 (.var .i64 5) (sm (hT.num 5 rfl)) (asg_arr (i := 60) (hT.row 60 rfl) (asg_arr (i := 61) (hT.row 61 rfl) (asg_arr (i := 62) (hT.row 62 rfl) (asg_nil hT.1)))))), fun G => by kernel_rfl⟩
def wC8_0 : Tm := (.bin .lss (.var .i64 6) (.var .i64 5))
def wC8_1 : Tm := (.bin .geq (.var .i64 6) (.lit .i64 0))
def wC16_0 : Tm := (.bin .lss (.var .i64 6) (.var .i64 5))
def wC16_1 : Tm := (.bin .geq (.var .i64 6) (.lit .i64 0))
def wC24_0 : Tm := (.bin .lss (.var .i64 6) (.var .i64 5))
def wC24_1 : Tm := (.bin .geq (.var .i64 6) (.lit .i64 0))
def wC32_0 : Tm := (.bin .lss (.var .i64 6) (.var .i64 5))
def wC32_1 : Tm := (.bin .geq (.var .i64 6) (.lit .i64 0))
def wC40_0 : Tm := (.bin .lss (.var .i64 6) (.var .i64 5))
def wC40_1 : Tm := (.bin .geq (.var .i64 6) (.lit .i64 0))
def wC48_0 : Tm := (.bin .lss (.var .i64 6) (.var .i64 5))
def wC48_1 : Tm := (.bin .geq (.var .i64 6) (.lit .i64 0))
def wC56_0 : Tm := (.bin .lss (.var .i64 6) (.var .i64 5))
def wC56_1 : Tm := (.bin .geq (.var .i64 6) (.lit .i64 0))
def wC64_0 : Tm := (.bin .lss (.var .i64 6) (.var .i64 5))
def wC64_1 : Tm := (.bin .geq (.var .i64 6) (.lit .i64 0))
theorem chkTo {S1 : Sy} (h0 : 0 ≤ S1.ρ 6) (h1 : S1.ρ 6 < S1.ρ 5) (h2 : S1.ρ 5 ≤ 4096) (hr : isC (S1.Φ 60 [S1.ρ 6]) (S1.Φ 61 [S1.ρ 6]) (S1.Φ 62 [S1.ρ 6])) (hK : ∀ x ∈ S1.I, x.f + x.ks.length ≤ 60) :
    ∃ S2, StepTo Try.prog ftF ΛF [] (cAt Try.prog lpFC) X2F F2F 1 S1 S2 ∧ S2.ρ 6 = S1.ρ 6 + 1 ∧ Stay [6] [] S1 S2 := by
  have hcs : ∀ c ∈ ([] : List Ctr), CtrOk Try.prog S1 [] c := fun c hc => by simp at hc
  rcases hr with hk | hk | hk | hk | hk | hk | hk | hk
  · have c0 : S1.ρ 6 < S1.ρ 5 := by omega
    have d0 : wC8_0.den S1 = some [b2i true] := tr (p := S1.ρ 6 < S1.ρ 5) c0
    have c1 : ¬ (S1.ρ 6 < (0 : Int)) := by omega
    have d1 : wC8_1.den S1 = some [b2i true] := tr (p := (0 : Int) ≤ S1.ρ 6) (Int.not_lt.1 c1)
    obtain ⟨o6, h_o6⟩ : ∃ o : Int, o = (IntKind.i64.wrap (S1.ρ 6 + (1 : Int))) := ⟨_, rfl⟩
    have u6 := h_o6
    rw [w_i64 (by omega) (by omega)] at u6
    exact ⟨S1.set (upd S1.ρ [(6, o6)]) [] 60 rfl hK, ⟨_, [], _, 1000, _, [], (ai wC8_1 true d1 (ai wC8_0 true d0 (ain (at3F 60) .i64 8 (sm hk.1) (ain (at3F 61) .i64 8 (sm hk.2.1) (ain (at3F 62) .i64 8 (sm hk.2.2) (AlOk.nil _)))))), hcs, LkOk.no _ _ _ _, (av 2 .i64 (av 3 .i64 (av 5 .i64 (an 6 (.bin .add (.var .i64 6) (.lit .i64 1)) (sm h_o6.symm) (av 5 .i64 (ar 60 (ar_var 60) (ar 61 (ar_var 61) (ar 62 (ar_var 62) (asg_nil rfl))))))))), fun G => by kernel_rfl⟩, (show o6 = S1.ρ 6 + 1 by omega), (Stay.refl [6] [] _).set rfl rfl⟩
  · have c0 : S1.ρ 6 < S1.ρ 5 := by omega
    have d0 : wC16_0.den S1 = some [b2i true] := tr (p := S1.ρ 6 < S1.ρ 5) c0
    have c1 : ¬ (S1.ρ 6 < (0 : Int)) := by omega
    have d1 : wC16_1.den S1 = some [b2i true] := tr (p := (0 : Int) ≤ S1.ρ 6) (Int.not_lt.1 c1)
    obtain ⟨o6, h_o6⟩ : ∃ o : Int, o = (IntKind.i64.wrap (S1.ρ 6 + (1 : Int))) := ⟨_, rfl⟩
    have u6 := h_o6
    rw [w_i64 (by omega) (by omega)] at u6
    exact ⟨S1.set (upd S1.ρ [(6, o6)]) [] 60 rfl hK, ⟨_, [], _, 1000, _, [], (ai wC16_1 true d1 (ai wC16_0 true d0 (ain (at3F 60) .i64 16 (sm hk.1) (ain (at3F 61) .i64 16 (sm hk.2.1) (ain (at3F 62) .i64 4 (sm hk.2.2) (AlOk.nil _)))))), hcs, LkOk.no _ _ _ _, (av 2 .i64 (av 3 .i64 (av 5 .i64 (an 6 (.bin .add (.var .i64 6) (.lit .i64 1)) (sm h_o6.symm) (av 5 .i64 (ar 60 (ar_var 60) (ar 61 (ar_var 61) (ar 62 (ar_var 62) (asg_nil rfl))))))))), fun G => by kernel_rfl⟩, (show o6 = S1.ρ 6 + 1 by omega), (Stay.refl [6] [] _).set rfl rfl⟩
  · have c0 : S1.ρ 6 < S1.ρ 5 := by omega
    have d0 : wC24_0.den S1 = some [b2i true] := tr (p := S1.ρ 6 < S1.ρ 5) c0
    have c1 : ¬ (S1.ρ 6 < (0 : Int)) := by omega
    have d1 : wC24_1.den S1 = some [b2i true] := tr (p := (0 : Int) ≤ S1.ρ 6) (Int.not_lt.1 c1)
    obtain ⟨o6, h_o6⟩ : ∃ o : Int, o = (IntKind.i64.wrap (S1.ρ 6 + (1 : Int))) := ⟨_, rfl⟩
    have u6 := h_o6
    rw [w_i64 (by omega) (by omega)] at u6
    exact ⟨S1.set (upd S1.ρ [(6, o6)]) [] 60 rfl hK, ⟨_, [], _, 1000, _, [], (ai wC24_1 true d1 (ai wC24_0 true d0 (ain (at3F 60) .i64 24 (sm hk.1) (ain (at3F 61) .i64 8 (sm hk.2.1) (ain (at3F 62) .i64 2 (sm hk.2.2) (AlOk.nil _)))))), hcs, LkOk.no _ _ _ _, (av 2 .i64 (av 3 .i64 (av 5 .i64 (an 6 (.bin .add (.var .i64 6) (.lit .i64 1)) (sm h_o6.symm) (av 5 .i64 (ar 60 (ar_var 60) (ar 61 (ar_var 61) (ar 62 (ar_var 62) (asg_nil rfl))))))))), fun G => by kernel_rfl⟩, (show o6 = S1.ρ 6 + 1 by omega), (Stay.refl [6] [] _).set rfl rfl⟩
  · have c0 : S1.ρ 6 < S1.ρ 5 := by omega
    have d0 : wC32_0.den S1 = some [b2i true] := tr (p := S1.ρ 6 < S1.ρ 5) c0
    have c1 : ¬ (S1.ρ 6 < (0 : Int)) := by omega
    have d1 : wC32_1.den S1 = some [b2i true] := tr (p := (0 : Int) ≤ S1.ρ 6) (Int.not_lt.1 c1)
    obtain ⟨o6, h_o6⟩ : ∃ o : Int, o = (IntKind.i64.wrap (S1.ρ 6 + (1 : Int))) := ⟨_, rfl⟩
    have u6 := h_o6
    rw [w_i64 (by omega) (by omega)] at u6
    exact ⟨S1.set (upd S1.ρ [(6, o6)]) [] 60 rfl hK, ⟨_, [], _, 1000, _, [], (ai wC32_1 true d1 (ai wC32_0 true d0 (ain (at3F 60) .i64 32 (sm hk.1) (ain (at3F 61) .i64 32 (sm hk.2.1) (ain (at3F 62) .i64 2 (sm hk.2.2) (AlOk.nil _)))))), hcs, LkOk.no _ _ _ _, (av 2 .i64 (av 3 .i64 (av 5 .i64 (an 6 (.bin .add (.var .i64 6) (.lit .i64 1)) (sm h_o6.symm) (av 5 .i64 (ar 60 (ar_var 60) (ar 61 (ar_var 61) (ar 62 (ar_var 62) (asg_nil rfl))))))))), fun G => by kernel_rfl⟩, (show o6 = S1.ρ 6 + 1 by omega), (Stay.refl [6] [] _).set rfl rfl⟩
  · have c0 : S1.ρ 6 < S1.ρ 5 := by omega
    have d0 : wC40_0.den S1 = some [b2i true] := tr (p := S1.ρ 6 < S1.ρ 5) c0
    have c1 : ¬ (S1.ρ 6 < (0 : Int)) := by omega
    have d1 : wC40_1.den S1 = some [b2i true] := tr (p := (0 : Int) ≤ S1.ρ 6) (Int.not_lt.1 c1)
    obtain ⟨o6, h_o6⟩ : ∃ o : Int, o = (IntKind.i64.wrap (S1.ρ 6 + (1 : Int))) := ⟨_, rfl⟩
    have u6 := h_o6
    rw [w_i64 (by omega) (by omega)] at u6
    exact ⟨S1.set (upd S1.ρ [(6, o6)]) [] 60 rfl hK, ⟨_, [], _, 1000, _, [], (ai wC40_1 true d1 (ai wC40_0 true d0 (ain (at3F 60) .i64 40 (sm hk.1) (ain (at3F 61) .i64 8 (sm hk.2.1) (ain (at3F 62) .i64 1 (sm hk.2.2) (AlOk.nil _)))))), hcs, LkOk.no _ _ _ _, (av 2 .i64 (av 3 .i64 (av 5 .i64 (an 6 (.bin .add (.var .i64 6) (.lit .i64 1)) (sm h_o6.symm) (av 5 .i64 (ar 60 (ar_var 60) (ar 61 (ar_var 61) (ar 62 (ar_var 62) (asg_nil rfl))))))))), fun G => by kernel_rfl⟩, (show o6 = S1.ρ 6 + 1 by omega), (Stay.refl [6] [] _).set rfl rfl⟩
  · have c0 : S1.ρ 6 < S1.ρ 5 := by omega
    have d0 : wC48_0.den S1 = some [b2i true] := tr (p := S1.ρ 6 < S1.ρ 5) c0
    have c1 : ¬ (S1.ρ 6 < (0 : Int)) := by omega
    have d1 : wC48_1.den S1 = some [b2i true] := tr (p := (0 : Int) ≤ S1.ρ 6) (Int.not_lt.1 c1)
    obtain ⟨o6, h_o6⟩ : ∃ o : Int, o = (IntKind.i64.wrap (S1.ρ 6 + (1 : Int))) := ⟨_, rfl⟩
    have u6 := h_o6
    rw [w_i64 (by omega) (by omega)] at u6
    exact ⟨S1.set (upd S1.ρ [(6, o6)]) [] 60 rfl hK, ⟨_, [], _, 1000, _, [], (ai wC48_1 true d1 (ai wC48_0 true d0 (ain (at3F 60) .i64 48 (sm hk.1) (ain (at3F 61) .i64 16 (sm hk.2.1) (ain (at3F 62) .i64 1 (sm hk.2.2) (AlOk.nil _)))))), hcs, LkOk.no _ _ _ _, (av 2 .i64 (av 3 .i64 (av 5 .i64 (an 6 (.bin .add (.var .i64 6) (.lit .i64 1)) (sm h_o6.symm) (av 5 .i64 (ar 60 (ar_var 60) (ar 61 (ar_var 61) (ar 62 (ar_var 62) (asg_nil rfl))))))))), fun G => by kernel_rfl⟩, (show o6 = S1.ρ 6 + 1 by omega), (Stay.refl [6] [] _).set rfl rfl⟩
  · have c0 : S1.ρ 6 < S1.ρ 5 := by omega
    have d0 : wC56_0.den S1 = some [b2i true] := tr (p := S1.ρ 6 < S1.ρ 5) c0
    have c1 : ¬ (S1.ρ 6 < (0 : Int)) := by omega
    have d1 : wC56_1.den S1 = some [b2i true] := tr (p := (0 : Int) ≤ S1.ρ 6) (Int.not_lt.1 c1)
    obtain ⟨o6, h_o6⟩ : ∃ o : Int, o = (IntKind.i64.wrap (S1.ρ 6 + (1 : Int))) := ⟨_, rfl⟩
    have u6 := h_o6
    rw [w_i64 (by omega) (by omega)] at u6
    exact ⟨S1.set (upd S1.ρ [(6, o6)]) [] 60 rfl hK, ⟨_, [], _, 1000, _, [], (ai wC56_1 true d1 (ai wC56_0 true d0 (ain (at3F 60) .i64 56 (sm hk.1) (ain (at3F 61) .i64 8 (sm hk.2.1) (ain (at3F 62) .i64 1 (sm hk.2.2) (AlOk.nil _)))))), hcs, LkOk.no _ _ _ _, (av 2 .i64 (av 3 .i64 (av 5 .i64 (an 6 (.bin .add (.var .i64 6) (.lit .i64 1)) (sm h_o6.symm) (av 5 .i64 (ar 60 (ar_var 60) (ar 61 (ar_var 61) (ar 62 (ar_var 62) (asg_nil rfl))))))))), fun G => by kernel_rfl⟩, (show o6 = S1.ρ 6 + 1 by omega), (Stay.refl [6] [] _).set rfl rfl⟩
  · have c0 : S1.ρ 6 < S1.ρ 5 := by omega
    have d0 : wC64_0.den S1 = some [b2i true] := tr (p := S1.ρ 6 < S1.ρ 5) c0
    have c1 : ¬ (S1.ρ 6 < (0 : Int)) := by omega
    have d1 : wC64_1.den S1 = some [b2i true] := tr (p := (0 : Int) ≤ S1.ρ 6) (Int.not_lt.1 c1)
    obtain ⟨o6, h_o6⟩ : ∃ o : Int, o = (IntKind.i64.wrap (S1.ρ 6 + (1 : Int))) := ⟨_, rfl⟩
    have u6 := h_o6
    rw [w_i64 (by omega) (by omega)] at u6
    exact ⟨S1.set (upd S1.ρ [(6, o6)]) [] 60 rfl hK, ⟨_, [], _, 1000, _, [], (ai wC64_1 true d1 (ai wC64_0 true d0 (ain (at3F 60) .i64 64 (sm hk.1) (ain (at3F 61) .i64 64 (sm hk.2.1) (ain (at3F 62) .i64 1 (sm hk.2.2) (AlOk.nil _)))))), hcs, LkOk.no _ _ _ _, (av 2 .i64 (av 3 .i64 (av 5 .i64 (an 6 (.bin .add (.var .i64 6) (.lit .i64 1)) (sm h_o6.symm) (av 5 .i64 (ar 60 (ar_var 60) (ar 61 (ar_var 61) (ar 62 (ar_var 62) (asg_nil rfl))))))))), fun G => by kernel_rfl⟩, (show o6 = S1.ρ 6 + 1 by omega), (Stay.refl [6] [] _).set rfl rfl⟩
def wCO0 : Tm := (.bin .lss (.var .i64 6) (.var .i64 5))
theorem chkOut {S1 T : Sy} (h1 : S1.ρ 6 = S1.ρ 5) (hT : Same [2, 3] [] S1 T) : StepOut Try.prog ftF ΛF [] (cAt Try.prog lpFC) X2F F2F (.exit 0) 1 S1 T := by
  have hcs : ∀ c ∈ ([] : List Ctr), CtrOk Try.prog S1 [] c := fun c hc => by simp at hc
  have c0 : ¬ (S1.ρ 6 < S1.ρ 5) := by omega
  have d0 : wCO0.den S1 = some [b2i false] := fls (p := S1.ρ 6 < S1.ρ 5) c0
  exact ⟨_, [], _, 1000, _, [], (ai wCO0 false d0 (AlOk.nil _)), hcs, LkOk.no _ _ _ _, (an 2 (.var .i64 2) (sm (hT.num 2 rfl)) (an 3 (.var .i64 3) (sm (hT.num 3 rfl)) (asg_nil hT.1))), fun G => by kernel_rfl⟩
/-! ### Chains of rounds -/
theorem stay_weak {vs fs vs' fs' : List Nat} {S T : Sy} (h : Stay vs fs S T) (hv : (vs.all fun v => vs'.any fun u => Nat.beq u v) = true) (hf : (fs.all fun v => fs'.any fun u => Nat.beq u v) = true) : Stay vs' fs' S T := by
  have key : ∀ {xs ys : List Nat} {v : Nat}, (xs.all fun v => ys.any fun u => Nat.beq u v) = true → (ys.any fun u => Nat.beq u v) = false → (xs.any fun u => Nat.beq u v) = false := fun {xs ys v} h1 h2 => by
    cases hb : xs.any fun u => Nat.beq u v with
    | false => rfl
    | true =>
      obtain ⟨u, hu, e⟩ := List.any_eq_true.1 hb
      have := List.all_eq_true.1 h1 u hu
      rw [Nat.eq_of_beq_eq_true e, h2] at this
      simp at this
  exact ⟨h.1, fun v hh => h.2.1 v (key hv hh), fun f hh => h.2.2 f (key hf hh)⟩
theorem least {p : Nat → Prop} (h : ∃ j, p j) : ∃ j, p j ∧ ∀ i, i < j → ¬ p i := by
  obtain ⟨j, hj⟩ := h
  induction j using Nat.strongRecOn with
  | _ j ih =>
    by_cases hh : ∃ i, i < j ∧ p i
    · obtain ⟨i, hi, hp⟩ := hh
      exact ih i hi hp
    · exact ⟨j, hj, fun i hi hp => hh ⟨i, hi, hp⟩⟩
theorem nilChainG : ∀ (m : Nat) (S0 : Sy), 0 ≤ S0.ρ 4 → S0.ρ 4 + m ≤ S0.ρ 1 → S0.ρ 1 ≤ 4096 → (∀ j : Nat, j < m → ¬ okS (S0.Φ 20 [S0.ρ 4 + j])) → (∀ x ∈ S0.I, x.f + x.ks.length ≤ 60) →
    ∃ Sa, Chain (StepTo Try.prog ftG ΛG [] (cAt Try.prog lpFM) X0F F0F 0) m S0 Sa ∧ Sa.ρ 4 = S0.ρ 4 + m ∧ Stay [4] [] S0 Sa
  | 0, S0, _, _, _, _, _ => ⟨S0, .nil _, by simp, Stay.refl _ _ _⟩
  | m + 1, S0, h0, h1, h2, hv, hK => by
    obtain ⟨S2, st, e4, y⟩ := nilToG h0 (by omega) h2 (by have := hv 0 (by omega); simpa using this) hK
    have e1 := y.num 1 rfl
    obtain ⟨Sa, ch, f4, z⟩ := nilChainG m S2 (by omega) (by omega) (by omega) (fun j hj => by
      have := hv (j + 1) (by omega)
      rw [y.fn 20 rfl, e4]
      rwa [show S0.ρ 4 + 1 + (j : Int) = S0.ρ 4 + ((j + 1 : Nat) : Int) by omega]) (by rw [y.1]; exact hK)
    exact ⟨Sa, .cons st ch, by omega, stay_weak (y.trans z) rfl rfl⟩
theorem nilChainF : ∀ (m : Nat) (S0 : Sy), 0 ≤ S0.ρ 4 → S0.ρ 4 + m ≤ S0.ρ 1 → S0.ρ 1 ≤ 4096 → (∀ j : Nat, j < m → ¬ okS (S0.Φ 20 [S0.ρ 4 + j])) → (∀ x ∈ S0.I, x.f + x.ks.length ≤ 60) →
    ∃ Sa, Chain (StepTo Try.prog ftF ΛF [] (cAt Try.prog lpFM) X0F F1F 0) m S0 Sa ∧ Sa.ρ 4 = S0.ρ 4 + m ∧ Stay [4] [] S0 Sa
  | 0, S0, _, _, _, _, _ => ⟨S0, .nil _, by simp, Stay.refl _ _ _⟩
  | m + 1, S0, h0, h1, h2, hv, hK => by
    obtain ⟨S2, st, e4, y⟩ := nilToF h0 (by omega) h2 (by have := hv 0 (by omega); simpa using this) hK
    have e1 := y.num 1 rfl
    obtain ⟨Sa, ch, f4, z⟩ := nilChainF m S2 (by omega) (by omega) (by omega) (fun j hj => by
      have := hv (j + 1) (by omega)
      rw [y.fn 20 rfl, e4]
      rwa [show S0.ρ 4 + 1 + (j : Int) = S0.ρ 4 + ((j + 1 : Nat) : Int) by omega]) (by rw [y.1]; exact hK)
    exact ⟨Sa, .cons st ch, by omega, stay_weak (y.trans z) rfl rfl⟩
theorem rowChainF : ∀ (m : Nat) (S0 : Sy), 0 ≤ S0.ρ 4 → S0.ρ 4 + m ≤ S0.ρ 1 → S0.ρ 1 ≤ 4096 → (0 < S0.ρ 5 ∧ S0.ρ 5 ≤ S0.ρ 4) → (∀ j : Nat, (j : Int) < S0.ρ 5 → isC (S0.Φ 60 [(j : Int)]) (S0.Φ 61 [(j : Int)]) (S0.Φ 62 [(j : Int)])) → (∀ x ∈ S0.I, x.f + x.ks.length ≤ 60) →
    ∃ Sa, Chain (StepTo Try.prog ftF ΛF [] (cAt Try.prog lpFM) X1F F1F 0) m S0 Sa ∧ Sa.ρ 4 = S0.ρ 4 + m ∧ (0 < Sa.ρ 5 ∧ Sa.ρ 5 ≤ Sa.ρ 4) ∧ (∀ j : Nat, (j : Int) < Sa.ρ 5 → isC (Sa.Φ 60 [(j : Int)]) (Sa.Φ 61 [(j : Int)]) (Sa.Φ 62 [(j : Int)])) ∧ Stay [4, 5] [60, 61, 62] S0 Sa
  | 0, S0, _, _, _, h5, hr, _ => ⟨S0, .nil _, by simp, h5, hr, Stay.refl _ _ _⟩
  | m + 1, S0, h0, h1, h2, h5, hr, hK => by
    obtain ⟨S2, st, e4, e5, hr2, y⟩ := rowToF h0 (by omega) h2 h5 hr hK
    have e1 := y.num 1 rfl
    obtain ⟨Sa, ch, f4, f5, hr3, z⟩ := rowChainF m S2 (by omega) (by omega) (by omega) (by omega) hr2 (by rw [y.1]; exact hK)
    exact ⟨Sa, .cons st ch, by omega, f5, hr3, stay_weak (y.trans z) rfl rfl⟩
theorem chkChain : ∀ (m : Nat) (S0 : Sy), 0 ≤ S0.ρ 6 → S0.ρ 6 + m ≤ S0.ρ 5 → S0.ρ 5 ≤ 4096 → (∀ j : Nat, (j : Int) < S0.ρ 5 → isC (S0.Φ 60 [(j : Int)]) (S0.Φ 61 [(j : Int)]) (S0.Φ 62 [(j : Int)])) → (∀ x ∈ S0.I, x.f + x.ks.length ≤ 60) →
    ∃ Sa, Chain (StepTo Try.prog ftF ΛF [] (cAt Try.prog lpFC) X2F F2F 1) m S0 Sa ∧ Sa.ρ 6 = S0.ρ 6 + m ∧ Stay [6] [] S0 Sa
  | 0, S0, _, _, _, _, _ => ⟨S0, .nil _, by simp, Stay.refl _ _ _⟩
  | m + 1, S0, h0, h1, h2, hr, hK => by
    obtain ⟨S2, st, e6, y⟩ := chkTo h0 (by omega) h2 (by have := hr (S0.ρ 6).toNat (by omega); rwa [show (((S0.ρ 6).toNat : Nat) : Int) = S0.ρ 6 by omega] at this) hK
    have e5 := y.num 5 rfl
    obtain ⟨Sa, ch, f6, z⟩ := chkChain m S2 (by omega) (by omega) (by omega) (fun j hj => by
      rw [y.fn 60 rfl, y.fn 61 rfl, y.fn 62 rfl]
      exact hr j (by omega)) (by rw [y.1]; exact hK)
    exact ⟨Sa, .cons st ch, by omega, stay_weak (y.trans z) rfl rfl⟩
def gtT : Tm := .bin .gtr (.var .i64 1) (.lit .i64 12)
def la0 : Tm := (.bin .lss (.var .i64 2) (.lit .i64 1))
def la1 : Tm := (.bin .gtr (.var .i64 2) (.lit .i64 0))
def la2 : Tm := (.bin .lss (.var .i64 3) (.lit .i64 1))
def la3 : Tm := (.bin .gtr (.var .i64 3) (.lit .i64 0))
def la4 : Tm := (.bin .neq (.bin .and (.var .i64 3) (.bin .sub (.var .i64 3) (.lit .i64 1))) (.lit .i64 0))
def la5 : Tm := (.bin .geq (.lit .i64 8) (.var .i64 2))
def la6 : Tm := (.bin .geq (.lit .i64 16) (.var .i64 2))
def la7 : Tm := (.bin .geq (.lit .i64 24) (.var .i64 2))
def la8 : Tm := (.bin .geq (.lit .i64 32) (.var .i64 2))
def la9 : Tm := (.bin .eql (.bin .and (.var .i64 3) (.bin .sub (.var .i64 3) (.lit .i64 1))) (.lit .i64 0))
def la10 : Tm := (.bin .geq (.lit .i64 32) (.var .i64 3))
def la11 : Tm := (.bin .geq (.lit .i64 8) (.var .i64 3))
def la12 : Tm := (.bin .geq (.lit .i64 16) (.var .i64 3))
def lb0 : Tm := (.bin .lss (.var .i64 2) (.lit .i64 1))
def lb1 : Tm := (.bin .gtr (.var .i64 2) (.lit .i64 0))
def lb2 : Tm := (.bin .lss (.var .i64 3) (.lit .i64 1))
def lb3 : Tm := (.bin .gtr (.var .i64 3) (.lit .i64 0))
def lb4 : Tm := (.bin .neq (.bin .and (.var .i64 3) (.bin .sub (.var .i64 3) (.lit .i64 1))) (.lit .i64 0))
def lb5 : Tm := (.bin .geq (.lit .i64 8) (.var .i64 2))
def lb6 : Tm := (.bin .geq (.lit .i64 16) (.var .i64 2))
def lb7 : Tm := (.bin .geq (.lit .i64 24) (.var .i64 2))
def lb8 : Tm := (.bin .geq (.lit .i64 32) (.var .i64 2))
def lb9 : Tm := (.bin .eql (.bin .and (.var .i64 3) (.bin .sub (.var .i64 3) (.lit .i64 1))) (.lit .i64 0))
def lb10 : Tm := (.bin .geq (.lit .i64 32) (.var .i64 3))
def lb11 : Tm := (.bin .geq (.lit .i64 8) (.var .i64 3))
def lb12 : Tm := (.bin .geq (.lit .i64 16) (.var .i64 3))
set_option maxHeartbeats 4000000 in
theorem lawA {T : Sy} {a b : Int} {x : Inp} {w : World} (hΦ9 : T.Φ 9 [] = 1) (t1 : ¬ (12 : Int) < T.ρ 1) (hvs : ∀ G ι, VsOk T G ι [vv .i64 2, vv .i64 3, inLF] [.int .i64 a, .int .i64 b, .slice x.a x.n x.cap]) (hin : ∀ b o, inpL T.I b = some o → w.heap[b]? = some o) (hlk : LkOk Try.prog T [] ΛG (lkL [lkLoopR Try.prog 0 [] X0F F0F (.exit 0) [(1, .num (Tm.enc (.var .i64 1))), (1, .num (Tm.enc (.var .i64 1))), (4, .num (Tm.enc (.lit .i64 0)))]])) : Calls Try.prog 4 #[.int .i64 a, .int .i64 b, .slice x.a x.n x.cap] w fun e w' => e = .returned (.bool true) ∧ Quiet w w' := by
  have hgt : gtT.den T = some [b2i false] := fls (p := (12 : Int) < T.ρ 1) t1
  by_cases c0 : T.ρ 2 < (1 : Int)
  · have d0 : la0.den T = some [b2i true] := tr (p := T.ρ 2 < (1 : Int)) c0
    have c1 : ¬ ((0 : Int) < T.ρ 2) := by omega
    have d1 : la1.den T = some [b2i false] := fls (p := (0 : Int) < T.ρ 2) c1
    exact symRunI envG (ai la1 false d1 (ai la0 true d0 (ai gtT false hgt (ai awT true (aw_den hΦ9) (AlOk.nil _))))) (two_ok hΦ9) hlk (n := 1000) (args := [vv .i64 2, vv .i64 3, inLF]) (args' := [.int .i64 a, .int .i64 b, .slice x.a x.n x.cap]) (res := [.one .bool]) (vs := [.bool true]) (rcs := [litB true]) (rs := [1]) rfl ⟨ev_litB _ true, trivial⟩ (fun G => by kernel_rfl) hvs w (gok w) hin
  · have d0 : la0.den T = some [b2i false] := fls (p := T.ρ 2 < (1 : Int)) c0
    by_cases c1 : T.ρ 3 < (1 : Int)
    · have d1 : la2.den T = some [b2i true] := tr (p := T.ρ 3 < (1 : Int)) c1
      have c2 : (0 : Int) < T.ρ 2 := by omega
      have d2 : la1.den T = some [b2i true] := tr (p := (0 : Int) < T.ρ 2) c2
      have c3 : ¬ ((0 : Int) < T.ρ 3) := by omega
      have d3 : la3.den T = some [b2i false] := fls (p := (0 : Int) < T.ρ 3) c3
      exact symRunI envG (ai la3 false d3 (ai la1 true d2 (ai la2 true d1 (ai la0 false d0 (ai gtT false hgt (ai awT true (aw_den hΦ9) (AlOk.nil _))))))) (two_ok hΦ9) hlk (n := 1000) (args := [vv .i64 2, vv .i64 3, inLF]) (args' := [.int .i64 a, .int .i64 b, .slice x.a x.n x.cap]) (res := [.one .bool]) (vs := [.bool true]) (rcs := [litB true]) (rs := [1]) rfl ⟨ev_litB _ true, trivial⟩ (fun G => by kernel_rfl) hvs w (gok w) hin
    · have d1 : la2.den T = some [b2i false] := fls (p := T.ρ 3 < (1 : Int)) c1
      by_cases c2 : (opZ .and .i64 (T.ρ 3) ((IntKind.i64.wrap (T.ρ 3 - (1 : Int))))) = (0 : Int)
      · have d2 : la4.den T = some [b2i false] := fls (p := (opZ .and .i64 (T.ρ 3) ((IntKind.i64.wrap (T.ρ 3 - (1 : Int))))) ≠ (0 : Int)) (fun hh => hh c2)
        by_cases c3 : (8 : Int) < T.ρ 2
        · have d3 : la5.den T = some [b2i false] := fls (p := T.ρ 2 ≤ (8 : Int)) (Int.not_le.2 c3)
          by_cases c4 : (16 : Int) < T.ρ 2
          · have d4 : la6.den T = some [b2i false] := fls (p := T.ρ 2 ≤ (16 : Int)) (Int.not_le.2 c4)
            by_cases c5 : (24 : Int) < T.ρ 2
            · have d5 : la7.den T = some [b2i false] := fls (p := T.ρ 2 ≤ (24 : Int)) (Int.not_le.2 c5)
              by_cases c6 : (32 : Int) < T.ρ 2
              · have d6 : la8.den T = some [b2i false] := fls (p := T.ρ 2 ≤ (32 : Int)) (Int.not_le.2 c6)
                have c7 : (0 : Int) < T.ρ 2 := by omega
                have d7 : la1.den T = some [b2i true] := tr (p := (0 : Int) < T.ρ 2) c7
                have c8 : (0 : Int) < T.ρ 3 := by omega
                have d8 : la3.den T = some [b2i true] := tr (p := (0 : Int) < T.ρ 3) c8
                have d9 : la9.den T = some [b2i true] := tr (p := (opZ .and .i64 (T.ρ 3) ((IntKind.i64.wrap (T.ρ 3 - (1 : Int))))) = (0 : Int)) c2
                exact symRunI envG (ai la9 true d9 (ai la3 true d8 (ai la1 true d7 (ai la8 false d6 (ai la7 false d5 (ai la6 false d4 (ai la5 false d3 (ai la4 false d2 (ai la2 false d1 (ai la0 false d0 (ai gtT false hgt (ai awT true (aw_den hΦ9) (AlOk.nil _))))))))))))) (two_ok hΦ9) hlk (n := 1000) (args := [vv .i64 2, vv .i64 3, inLF]) (args' := [.int .i64 a, .int .i64 b, .slice x.a x.n x.cap]) (res := [.one .bool]) (vs := [.bool true]) (rcs := [litB true]) (rs := [1]) rfl ⟨ev_litB _ true, trivial⟩ (fun G => by kernel_rfl) hvs w (gok w) hin
              · have d6 : la8.den T = some [b2i true] := tr (p := T.ρ 2 ≤ (32 : Int)) (Int.not_lt.1 c6)
                by_cases c7 : (32 : Int) < T.ρ 3
                · have d7 : la10.den T = some [b2i false] := fls (p := T.ρ 3 ≤ (32 : Int)) (Int.not_le.2 c7)
                  have c8 : (0 : Int) < T.ρ 2 := by omega
                  have d8 : la1.den T = some [b2i true] := tr (p := (0 : Int) < T.ρ 2) c8
                  have c9 : (0 : Int) < T.ρ 3 := by omega
                  have d9 : la3.den T = some [b2i true] := tr (p := (0 : Int) < T.ρ 3) c9
                  have d10 : la9.den T = some [b2i true] := tr (p := (opZ .and .i64 (T.ρ 3) ((IntKind.i64.wrap (T.ρ 3 - (1 : Int))))) = (0 : Int)) c2
                  exact symRunI envG (ai la9 true d10 (ai la3 true d9 (ai la1 true d8 (ai la10 false d7 (ai la8 true d6 (ai la7 false d5 (ai la6 false d4 (ai la5 false d3 (ai la4 false d2 (ai la2 false d1 (ai la0 false d0 (ai gtT false hgt (ai awT true (aw_den hΦ9) (AlOk.nil _)))))))))))))) (two_ok hΦ9) hlk (n := 1000) (args := [vv .i64 2, vv .i64 3, inLF]) (args' := [.int .i64 a, .int .i64 b, .slice x.a x.n x.cap]) (res := [.one .bool]) (vs := [.bool true]) (rcs := [litB true]) (rs := [1]) rfl ⟨ev_litB _ true, trivial⟩ (fun G => by kernel_rfl) hvs w (gok w) hin
                · have d7 : la10.den T = some [b2i true] := tr (p := T.ρ 3 ≤ (32 : Int)) (Int.not_lt.1 c7)
                  have c8 : (0 : Int) < T.ρ 2 := by omega
                  have d8 : la1.den T = some [b2i true] := tr (p := (0 : Int) < T.ρ 2) c8
                  have c9 : (0 : Int) < T.ρ 3 := by omega
                  have d9 : la3.den T = some [b2i true] := tr (p := (0 : Int) < T.ρ 3) c9
                  have d10 : la9.den T = some [b2i true] := tr (p := (opZ .and .i64 (T.ρ 3) ((IntKind.i64.wrap (T.ρ 3 - (1 : Int))))) = (0 : Int)) c2
                  exact symRunI envG (ai la9 true d10 (ai la3 true d9 (ai la1 true d8 (ai la10 true d7 (ai la8 true d6 (ai la7 false d5 (ai la6 false d4 (ai la5 false d3 (ai la4 false d2 (ai la2 false d1 (ai la0 false d0 (ai gtT false hgt (ai awT true (aw_den hΦ9) (AlOk.nil _)))))))))))))) (two_ok hΦ9) hlk (n := 1000) (args := [vv .i64 2, vv .i64 3, inLF]) (args' := [.int .i64 a, .int .i64 b, .slice x.a x.n x.cap]) (res := [.one .bool]) (vs := [.bool true]) (rcs := [litB true]) (rs := [1]) rfl ⟨ev_litB _ true, trivial⟩ (fun G => by kernel_rfl) hvs w (gok w) hin
            · have d5 : la7.den T = some [b2i true] := tr (p := T.ρ 2 ≤ (24 : Int)) (Int.not_lt.1 c5)
              by_cases c6 : (8 : Int) < T.ρ 3
              · have d6 : la11.den T = some [b2i false] := fls (p := T.ρ 3 ≤ (8 : Int)) (Int.not_le.2 c6)
                have c7 : ¬ ((32 : Int) < T.ρ 2) := by omega
                have d7 : la8.den T = some [b2i true] := tr (p := T.ρ 2 ≤ (32 : Int)) (Int.not_lt.1 c7)
                by_cases c8 : (32 : Int) < T.ρ 3
                · have d8 : la10.den T = some [b2i false] := fls (p := T.ρ 3 ≤ (32 : Int)) (Int.not_le.2 c8)
                  have c9 : (0 : Int) < T.ρ 2 := by omega
                  have d9 : la1.den T = some [b2i true] := tr (p := (0 : Int) < T.ρ 2) c9
                  have c10 : (0 : Int) < T.ρ 3 := by omega
                  have d10 : la3.den T = some [b2i true] := tr (p := (0 : Int) < T.ρ 3) c10
                  have d11 : la9.den T = some [b2i true] := tr (p := (opZ .and .i64 (T.ρ 3) ((IntKind.i64.wrap (T.ρ 3 - (1 : Int))))) = (0 : Int)) c2
                  exact symRunI envG (ai la9 true d11 (ai la3 true d10 (ai la1 true d9 (ai la10 false d8 (ai la8 true d7 (ai la11 false d6 (ai la7 true d5 (ai la6 false d4 (ai la5 false d3 (ai la4 false d2 (ai la2 false d1 (ai la0 false d0 (ai gtT false hgt (ai awT true (aw_den hΦ9) (AlOk.nil _))))))))))))))) (two_ok hΦ9) hlk (n := 1000) (args := [vv .i64 2, vv .i64 3, inLF]) (args' := [.int .i64 a, .int .i64 b, .slice x.a x.n x.cap]) (res := [.one .bool]) (vs := [.bool true]) (rcs := [litB true]) (rs := [1]) rfl ⟨ev_litB _ true, trivial⟩ (fun G => by kernel_rfl) hvs w (gok w) hin
                · have d8 : la10.den T = some [b2i true] := tr (p := T.ρ 3 ≤ (32 : Int)) (Int.not_lt.1 c8)
                  have c9 : (0 : Int) < T.ρ 2 := by omega
                  have d9 : la1.den T = some [b2i true] := tr (p := (0 : Int) < T.ρ 2) c9
                  have c10 : (0 : Int) < T.ρ 3 := by omega
                  have d10 : la3.den T = some [b2i true] := tr (p := (0 : Int) < T.ρ 3) c10
                  have d11 : la9.den T = some [b2i true] := tr (p := (opZ .and .i64 (T.ρ 3) ((IntKind.i64.wrap (T.ρ 3 - (1 : Int))))) = (0 : Int)) c2
                  exact symRunI envG (ai la9 true d11 (ai la3 true d10 (ai la1 true d9 (ai la10 true d8 (ai la8 true d7 (ai la11 false d6 (ai la7 true d5 (ai la6 false d4 (ai la5 false d3 (ai la4 false d2 (ai la2 false d1 (ai la0 false d0 (ai gtT false hgt (ai awT true (aw_den hΦ9) (AlOk.nil _))))))))))))))) (two_ok hΦ9) hlk (n := 1000) (args := [vv .i64 2, vv .i64 3, inLF]) (args' := [.int .i64 a, .int .i64 b, .slice x.a x.n x.cap]) (res := [.one .bool]) (vs := [.bool true]) (rcs := [litB true]) (rs := [1]) rfl ⟨ev_litB _ true, trivial⟩ (fun G => by kernel_rfl) hvs w (gok w) hin
              · have d6 : la11.den T = some [b2i true] := tr (p := T.ρ 3 ≤ (8 : Int)) (Int.not_lt.1 c6)
                have c7 : (0 : Int) < T.ρ 2 := by omega
                have d7 : la1.den T = some [b2i true] := tr (p := (0 : Int) < T.ρ 2) c7
                have c8 : (0 : Int) < T.ρ 3 := by omega
                have d8 : la3.den T = some [b2i true] := tr (p := (0 : Int) < T.ρ 3) c8
                have d9 : la9.den T = some [b2i true] := tr (p := (opZ .and .i64 (T.ρ 3) ((IntKind.i64.wrap (T.ρ 3 - (1 : Int))))) = (0 : Int)) c2
                have c10 : ¬ ((32 : Int) < T.ρ 2) := by omega
                have d10 : la8.den T = some [b2i true] := tr (p := T.ρ 2 ≤ (32 : Int)) (Int.not_lt.1 c10)
                exact symRunI envG (ai la8 true d10 (ai la9 true d9 (ai la3 true d8 (ai la1 true d7 (ai la11 true d6 (ai la7 true d5 (ai la6 false d4 (ai la5 false d3 (ai la4 false d2 (ai la2 false d1 (ai la0 false d0 (ai gtT false hgt (ai awT true (aw_den hΦ9) (AlOk.nil _)))))))))))))) (two_ok hΦ9) hlk (n := 1000) (args := [vv .i64 2, vv .i64 3, inLF]) (args' := [.int .i64 a, .int .i64 b, .slice x.a x.n x.cap]) (res := [.one .bool]) (vs := [.bool true]) (rcs := [litB true]) (rs := [1]) rfl ⟨ev_litB _ true, trivial⟩ (fun G => by kernel_rfl) hvs w (gok w) hin
          · have d4 : la6.den T = some [b2i true] := tr (p := T.ρ 2 ≤ (16 : Int)) (Int.not_lt.1 c4)
            by_cases c5 : (16 : Int) < T.ρ 3
            · have d5 : la12.den T = some [b2i false] := fls (p := T.ρ 3 ≤ (16 : Int)) (Int.not_le.2 c5)
              have c6 : ¬ ((24 : Int) < T.ρ 2) := by omega
              have d6 : la7.den T = some [b2i true] := tr (p := T.ρ 2 ≤ (24 : Int)) (Int.not_lt.1 c6)
              have c7 : (8 : Int) < T.ρ 3 := by omega
              have d7 : la11.den T = some [b2i false] := fls (p := T.ρ 3 ≤ (8 : Int)) (Int.not_le.2 c7)
              have c8 : ¬ ((32 : Int) < T.ρ 2) := by omega
              have d8 : la8.den T = some [b2i true] := tr (p := T.ρ 2 ≤ (32 : Int)) (Int.not_lt.1 c8)
              by_cases c9 : (32 : Int) < T.ρ 3
              · have d9 : la10.den T = some [b2i false] := fls (p := T.ρ 3 ≤ (32 : Int)) (Int.not_le.2 c9)
                have c10 : (0 : Int) < T.ρ 2 := by omega
                have d10 : la1.den T = some [b2i true] := tr (p := (0 : Int) < T.ρ 2) c10
                have c11 : (0 : Int) < T.ρ 3 := by omega
                have d11 : la3.den T = some [b2i true] := tr (p := (0 : Int) < T.ρ 3) c11
                have d12 : la9.den T = some [b2i true] := tr (p := (opZ .and .i64 (T.ρ 3) ((IntKind.i64.wrap (T.ρ 3 - (1 : Int))))) = (0 : Int)) c2
                exact symRunI envG (ai la9 true d12 (ai la3 true d11 (ai la1 true d10 (ai la10 false d9 (ai la8 true d8 (ai la11 false d7 (ai la7 true d6 (ai la12 false d5 (ai la6 true d4 (ai la5 false d3 (ai la4 false d2 (ai la2 false d1 (ai la0 false d0 (ai gtT false hgt (ai awT true (aw_den hΦ9) (AlOk.nil _)))))))))))))))) (two_ok hΦ9) hlk (n := 1000) (args := [vv .i64 2, vv .i64 3, inLF]) (args' := [.int .i64 a, .int .i64 b, .slice x.a x.n x.cap]) (res := [.one .bool]) (vs := [.bool true]) (rcs := [litB true]) (rs := [1]) rfl ⟨ev_litB _ true, trivial⟩ (fun G => by kernel_rfl) hvs w (gok w) hin
              · have d9 : la10.den T = some [b2i true] := tr (p := T.ρ 3 ≤ (32 : Int)) (Int.not_lt.1 c9)
                have c10 : (0 : Int) < T.ρ 2 := by omega
                have d10 : la1.den T = some [b2i true] := tr (p := (0 : Int) < T.ρ 2) c10
                have c11 : (0 : Int) < T.ρ 3 := by omega
                have d11 : la3.den T = some [b2i true] := tr (p := (0 : Int) < T.ρ 3) c11
                have d12 : la9.den T = some [b2i true] := tr (p := (opZ .and .i64 (T.ρ 3) ((IntKind.i64.wrap (T.ρ 3 - (1 : Int))))) = (0 : Int)) c2
                exact symRunI envG (ai la9 true d12 (ai la3 true d11 (ai la1 true d10 (ai la10 true d9 (ai la8 true d8 (ai la11 false d7 (ai la7 true d6 (ai la12 false d5 (ai la6 true d4 (ai la5 false d3 (ai la4 false d2 (ai la2 false d1 (ai la0 false d0 (ai gtT false hgt (ai awT true (aw_den hΦ9) (AlOk.nil _)))))))))))))))) (two_ok hΦ9) hlk (n := 1000) (args := [vv .i64 2, vv .i64 3, inLF]) (args' := [.int .i64 a, .int .i64 b, .slice x.a x.n x.cap]) (res := [.one .bool]) (vs := [.bool true]) (rcs := [litB true]) (rs := [1]) rfl ⟨ev_litB _ true, trivial⟩ (fun G => by kernel_rfl) hvs w (gok w) hin
            · have d5 : la12.den T = some [b2i true] := tr (p := T.ρ 3 ≤ (16 : Int)) (Int.not_lt.1 c5)
              have c6 : (0 : Int) < T.ρ 2 := by omega
              have d6 : la1.den T = some [b2i true] := tr (p := (0 : Int) < T.ρ 2) c6
              have c7 : (0 : Int) < T.ρ 3 := by omega
              have d7 : la3.den T = some [b2i true] := tr (p := (0 : Int) < T.ρ 3) c7
              have d8 : la9.den T = some [b2i true] := tr (p := (opZ .and .i64 (T.ρ 3) ((IntKind.i64.wrap (T.ρ 3 - (1 : Int))))) = (0 : Int)) c2
              have c9 : ¬ ((24 : Int) < T.ρ 2) := by omega
              have d9 : la7.den T = some [b2i true] := tr (p := T.ρ 2 ≤ (24 : Int)) (Int.not_lt.1 c9)
              have c10 : ¬ ((32 : Int) < T.ρ 2) := by omega
              have d10 : la8.den T = some [b2i true] := tr (p := T.ρ 2 ≤ (32 : Int)) (Int.not_lt.1 c10)
              exact symRunI envG (ai la8 true d10 (ai la7 true d9 (ai la9 true d8 (ai la3 true d7 (ai la1 true d6 (ai la12 true d5 (ai la6 true d4 (ai la5 false d3 (ai la4 false d2 (ai la2 false d1 (ai la0 false d0 (ai gtT false hgt (ai awT true (aw_den hΦ9) (AlOk.nil _)))))))))))))) (two_ok hΦ9) hlk (n := 1000) (args := [vv .i64 2, vv .i64 3, inLF]) (args' := [.int .i64 a, .int .i64 b, .slice x.a x.n x.cap]) (res := [.one .bool]) (vs := [.bool true]) (rcs := [litB true]) (rs := [1]) rfl ⟨ev_litB _ true, trivial⟩ (fun G => by kernel_rfl) hvs w (gok w) hin
        · have d3 : la5.den T = some [b2i true] := tr (p := T.ρ 2 ≤ (8 : Int)) (Int.not_lt.1 c3)
          by_cases c4 : (8 : Int) < T.ρ 3
          · have d4 : la11.den T = some [b2i false] := fls (p := T.ρ 3 ≤ (8 : Int)) (Int.not_le.2 c4)
            have c5 : ¬ ((16 : Int) < T.ρ 2) := by omega
            have d5 : la6.den T = some [b2i true] := tr (p := T.ρ 2 ≤ (16 : Int)) (Int.not_lt.1 c5)
            by_cases c6 : (16 : Int) < T.ρ 3
            · have d6 : la12.den T = some [b2i false] := fls (p := T.ρ 3 ≤ (16 : Int)) (Int.not_le.2 c6)
              have c7 : ¬ ((24 : Int) < T.ρ 2) := by omega
              have d7 : la7.den T = some [b2i true] := tr (p := T.ρ 2 ≤ (24 : Int)) (Int.not_lt.1 c7)
              have c8 : ¬ ((32 : Int) < T.ρ 2) := by omega
              have d8 : la8.den T = some [b2i true] := tr (p := T.ρ 2 ≤ (32 : Int)) (Int.not_lt.1 c8)
              by_cases c9 : (32 : Int) < T.ρ 3
              · have d9 : la10.den T = some [b2i false] := fls (p := T.ρ 3 ≤ (32 : Int)) (Int.not_le.2 c9)
                have c10 : (0 : Int) < T.ρ 2 := by omega
                have d10 : la1.den T = some [b2i true] := tr (p := (0 : Int) < T.ρ 2) c10
                have c11 : (0 : Int) < T.ρ 3 := by omega
                have d11 : la3.den T = some [b2i true] := tr (p := (0 : Int) < T.ρ 3) c11
                have d12 : la9.den T = some [b2i true] := tr (p := (opZ .and .i64 (T.ρ 3) ((IntKind.i64.wrap (T.ρ 3 - (1 : Int))))) = (0 : Int)) c2
                exact symRunI envG (ai la9 true d12 (ai la3 true d11 (ai la1 true d10 (ai la10 false d9 (ai la8 true d8 (ai la7 true d7 (ai la12 false d6 (ai la6 true d5 (ai la11 false d4 (ai la5 true d3 (ai la4 false d2 (ai la2 false d1 (ai la0 false d0 (ai gtT false hgt (ai awT true (aw_den hΦ9) (AlOk.nil _)))))))))))))))) (two_ok hΦ9) hlk (n := 1000) (args := [vv .i64 2, vv .i64 3, inLF]) (args' := [.int .i64 a, .int .i64 b, .slice x.a x.n x.cap]) (res := [.one .bool]) (vs := [.bool true]) (rcs := [litB true]) (rs := [1]) rfl ⟨ev_litB _ true, trivial⟩ (fun G => by kernel_rfl) hvs w (gok w) hin
              · have d9 : la10.den T = some [b2i true] := tr (p := T.ρ 3 ≤ (32 : Int)) (Int.not_lt.1 c9)
                have c10 : (0 : Int) < T.ρ 2 := by omega
                have d10 : la1.den T = some [b2i true] := tr (p := (0 : Int) < T.ρ 2) c10
                have c11 : (0 : Int) < T.ρ 3 := by omega
                have d11 : la3.den T = some [b2i true] := tr (p := (0 : Int) < T.ρ 3) c11
                have d12 : la9.den T = some [b2i true] := tr (p := (opZ .and .i64 (T.ρ 3) ((IntKind.i64.wrap (T.ρ 3 - (1 : Int))))) = (0 : Int)) c2
                exact symRunI envG (ai la9 true d12 (ai la3 true d11 (ai la1 true d10 (ai la10 true d9 (ai la8 true d8 (ai la7 true d7 (ai la12 false d6 (ai la6 true d5 (ai la11 false d4 (ai la5 true d3 (ai la4 false d2 (ai la2 false d1 (ai la0 false d0 (ai gtT false hgt (ai awT true (aw_den hΦ9) (AlOk.nil _)))))))))))))))) (two_ok hΦ9) hlk (n := 1000) (args := [vv .i64 2, vv .i64 3, inLF]) (args' := [.int .i64 a, .int .i64 b, .slice x.a x.n x.cap]) (res := [.one .bool]) (vs := [.bool true]) (rcs := [litB true]) (rs := [1]) rfl ⟨ev_litB _ true, trivial⟩ (fun G => by kernel_rfl) hvs w (gok w) hin
            · have d6 : la12.den T = some [b2i true] := tr (p := T.ρ 3 ≤ (16 : Int)) (Int.not_lt.1 c6)
              have c7 : (0 : Int) < T.ρ 2 := by omega
              have d7 : la1.den T = some [b2i true] := tr (p := (0 : Int) < T.ρ 2) c7
              have c8 : (0 : Int) < T.ρ 3 := by omega
              have d8 : la3.den T = some [b2i true] := tr (p := (0 : Int) < T.ρ 3) c8
              have d9 : la9.den T = some [b2i true] := tr (p := (opZ .and .i64 (T.ρ 3) ((IntKind.i64.wrap (T.ρ 3 - (1 : Int))))) = (0 : Int)) c2
              have c10 : ¬ ((24 : Int) < T.ρ 2) := by omega
              have d10 : la7.den T = some [b2i true] := tr (p := T.ρ 2 ≤ (24 : Int)) (Int.not_lt.1 c10)
              have c11 : ¬ ((32 : Int) < T.ρ 2) := by omega
              have d11 : la8.den T = some [b2i true] := tr (p := T.ρ 2 ≤ (32 : Int)) (Int.not_lt.1 c11)
              exact symRunI envG (ai la8 true d11 (ai la7 true d10 (ai la9 true d9 (ai la3 true d8 (ai la1 true d7 (ai la12 true d6 (ai la6 true d5 (ai la11 false d4 (ai la5 true d3 (ai la4 false d2 (ai la2 false d1 (ai la0 false d0 (ai gtT false hgt (ai awT true (aw_den hΦ9) (AlOk.nil _))))))))))))))) (two_ok hΦ9) hlk (n := 1000) (args := [vv .i64 2, vv .i64 3, inLF]) (args' := [.int .i64 a, .int .i64 b, .slice x.a x.n x.cap]) (res := [.one .bool]) (vs := [.bool true]) (rcs := [litB true]) (rs := [1]) rfl ⟨ev_litB _ true, trivial⟩ (fun G => by kernel_rfl) hvs w (gok w) hin
          · have d4 : la11.den T = some [b2i true] := tr (p := T.ρ 3 ≤ (8 : Int)) (Int.not_lt.1 c4)
            have c5 : (0 : Int) < T.ρ 2 := by omega
            have d5 : la1.den T = some [b2i true] := tr (p := (0 : Int) < T.ρ 2) c5
            have c6 : (0 : Int) < T.ρ 3 := by omega
            have d6 : la3.den T = some [b2i true] := tr (p := (0 : Int) < T.ρ 3) c6
            have d7 : la9.den T = some [b2i true] := tr (p := (opZ .and .i64 (T.ρ 3) ((IntKind.i64.wrap (T.ρ 3 - (1 : Int))))) = (0 : Int)) c2
            have c8 : ¬ ((16 : Int) < T.ρ 2) := by omega
            have d8 : la6.den T = some [b2i true] := tr (p := T.ρ 2 ≤ (16 : Int)) (Int.not_lt.1 c8)
            have c9 : ¬ ((24 : Int) < T.ρ 2) := by omega
            have d9 : la7.den T = some [b2i true] := tr (p := T.ρ 2 ≤ (24 : Int)) (Int.not_lt.1 c9)
            have c10 : ¬ ((32 : Int) < T.ρ 2) := by omega
            have d10 : la8.den T = some [b2i true] := tr (p := T.ρ 2 ≤ (32 : Int)) (Int.not_lt.1 c10)
            exact symRunI envG (ai la8 true d10 (ai la7 true d9 (ai la6 true d8 (ai la9 true d7 (ai la3 true d6 (ai la1 true d5 (ai la11 true d4 (ai la5 true d3 (ai la4 false d2 (ai la2 false d1 (ai la0 false d0 (ai gtT false hgt (ai awT true (aw_den hΦ9) (AlOk.nil _)))))))))))))) (two_ok hΦ9) hlk (n := 1000) (args := [vv .i64 2, vv .i64 3, inLF]) (args' := [.int .i64 a, .int .i64 b, .slice x.a x.n x.cap]) (res := [.one .bool]) (vs := [.bool true]) (rcs := [litB true]) (rs := [1]) rfl ⟨ev_litB _ true, trivial⟩ (fun G => by kernel_rfl) hvs w (gok w) hin
      · have d2 : la4.den T = some [b2i true] := tr (p := (opZ .and .i64 (T.ρ 3) ((IntKind.i64.wrap (T.ρ 3 - (1 : Int))))) ≠ (0 : Int)) c2
        have c3 : (0 : Int) < T.ρ 2 := by omega
        have d3 : la1.den T = some [b2i true] := tr (p := (0 : Int) < T.ρ 2) c3
        have c4 : (0 : Int) < T.ρ 3 := by omega
        have d4 : la3.den T = some [b2i true] := tr (p := (0 : Int) < T.ρ 3) c4
        have d5 : la9.den T = some [b2i false] := fls (p := (opZ .and .i64 (T.ρ 3) ((IntKind.i64.wrap (T.ρ 3 - (1 : Int))))) = (0 : Int)) c2
        exact symRunI envG (ai la9 false d5 (ai la3 true d4 (ai la1 true d3 (ai la4 true d2 (ai la2 false d1 (ai la0 false d0 (ai gtT false hgt (ai awT true (aw_den hΦ9) (AlOk.nil _))))))))) (two_ok hΦ9) hlk (n := 1000) (args := [vv .i64 2, vv .i64 3, inLF]) (args' := [.int .i64 a, .int .i64 b, .slice x.a x.n x.cap]) (res := [.one .bool]) (vs := [.bool true]) (rcs := [litB true]) (rs := [1]) rfl ⟨ev_litB _ true, trivial⟩ (fun G => by kernel_rfl) hvs w (gok w) hin
set_option maxHeartbeats 4000000 in
theorem lawB {T : Sy} {a b : Int} {x : Inp} {w : World} (hΦ9 : T.Φ 9 [] = 1) (t1 : ¬ (12 : Int) < T.ρ 1) (hvs : ∀ G ι, VsOk T G ι [vv .i64 2, vv .i64 3, inLF] [.int .i64 a, .int .i64 b, .slice x.a x.n x.cap]) (hin : ∀ b o, inpL T.I b = some o → w.heap[b]? = some o) (hlk : LkOk Try.prog T [] ΛF (lkL [lkLoopR Try.prog 0 [] X0F F1F (.exit 0) [(1, .num (Tm.enc (.var .i64 1))), (1, .num (Tm.enc (.var .i64 1))), (4, .num (Tm.enc (.lit .i64 0)))], lkLoopR Try.prog 1 [] X2F F2F (.exit 0) [(2, .num (Tm.enc (.var .i64 2))), (3, .num (Tm.enc (.var .i64 3))), (5, .num (Tm.enc (.var .i64 5))), (6, .num (Tm.enc (.lit .i64 0))), (5, .num (Tm.enc (.var .i64 5))), (60, .arr (.var 60)), (61, .arr (.var 61)), (62, .arr (.var 62))]])) : Calls Try.prog 4 #[.int .i64 a, .int .i64 b, .slice x.a x.n x.cap] w fun e w' => e = .returned (.bool true) ∧ Quiet w w' := by
  have hgt : gtT.den T = some [b2i false] := fls (p := (12 : Int) < T.ρ 1) t1
  by_cases c0 : T.ρ 2 < (1 : Int)
  · have d0 : lb0.den T = some [b2i true] := tr (p := T.ρ 2 < (1 : Int)) c0
    have c1 : ¬ ((0 : Int) < T.ρ 2) := by omega
    have d1 : lb1.den T = some [b2i false] := fls (p := (0 : Int) < T.ρ 2) c1
    exact symRunI envF (ai lb1 false d1 (ai lb0 true d0 (ai gtT false hgt (ai awT true (aw_den hΦ9) (AlOk.nil _))))) (two_ok hΦ9) hlk (n := 1000) (args := [vv .i64 2, vv .i64 3, inLF]) (args' := [.int .i64 a, .int .i64 b, .slice x.a x.n x.cap]) (res := [.one .bool]) (vs := [.bool true]) (rcs := [litB true]) (rs := [1]) rfl ⟨ev_litB _ true, trivial⟩ (fun G => by kernel_rfl) hvs w (gok w) hin
  · have d0 : lb0.den T = some [b2i false] := fls (p := T.ρ 2 < (1 : Int)) c0
    by_cases c1 : T.ρ 3 < (1 : Int)
    · have d1 : lb2.den T = some [b2i true] := tr (p := T.ρ 3 < (1 : Int)) c1
      have c2 : (0 : Int) < T.ρ 2 := by omega
      have d2 : lb1.den T = some [b2i true] := tr (p := (0 : Int) < T.ρ 2) c2
      have c3 : ¬ ((0 : Int) < T.ρ 3) := by omega
      have d3 : lb3.den T = some [b2i false] := fls (p := (0 : Int) < T.ρ 3) c3
      exact symRunI envF (ai lb3 false d3 (ai lb1 true d2 (ai lb2 true d1 (ai lb0 false d0 (ai gtT false hgt (ai awT true (aw_den hΦ9) (AlOk.nil _))))))) (two_ok hΦ9) hlk (n := 1000) (args := [vv .i64 2, vv .i64 3, inLF]) (args' := [.int .i64 a, .int .i64 b, .slice x.a x.n x.cap]) (res := [.one .bool]) (vs := [.bool true]) (rcs := [litB true]) (rs := [1]) rfl ⟨ev_litB _ true, trivial⟩ (fun G => by kernel_rfl) hvs w (gok w) hin
    · have d1 : lb2.den T = some [b2i false] := fls (p := T.ρ 3 < (1 : Int)) c1
      by_cases c2 : (opZ .and .i64 (T.ρ 3) ((IntKind.i64.wrap (T.ρ 3 - (1 : Int))))) = (0 : Int)
      · have d2 : lb4.den T = some [b2i false] := fls (p := (opZ .and .i64 (T.ρ 3) ((IntKind.i64.wrap (T.ρ 3 - (1 : Int))))) ≠ (0 : Int)) (fun hh => hh c2)
        by_cases c3 : (8 : Int) < T.ρ 2
        · have d3 : lb5.den T = some [b2i false] := fls (p := T.ρ 2 ≤ (8 : Int)) (Int.not_le.2 c3)
          by_cases c4 : (16 : Int) < T.ρ 2
          · have d4 : lb6.den T = some [b2i false] := fls (p := T.ρ 2 ≤ (16 : Int)) (Int.not_le.2 c4)
            by_cases c5 : (24 : Int) < T.ρ 2
            · have d5 : lb7.den T = some [b2i false] := fls (p := T.ρ 2 ≤ (24 : Int)) (Int.not_le.2 c5)
              by_cases c6 : (32 : Int) < T.ρ 2
              · have d6 : lb8.den T = some [b2i false] := fls (p := T.ρ 2 ≤ (32 : Int)) (Int.not_le.2 c6)
                have c7 : (0 : Int) < T.ρ 2 := by omega
                have d7 : lb1.den T = some [b2i true] := tr (p := (0 : Int) < T.ρ 2) c7
                have c8 : (0 : Int) < T.ρ 3 := by omega
                have d8 : lb3.den T = some [b2i true] := tr (p := (0 : Int) < T.ρ 3) c8
                have d9 : lb9.den T = some [b2i true] := tr (p := (opZ .and .i64 (T.ρ 3) ((IntKind.i64.wrap (T.ρ 3 - (1 : Int))))) = (0 : Int)) c2
                exact symRunI envF (ai lb9 true d9 (ai lb3 true d8 (ai lb1 true d7 (ai lb8 false d6 (ai lb7 false d5 (ai lb6 false d4 (ai lb5 false d3 (ai lb4 false d2 (ai lb2 false d1 (ai lb0 false d0 (ai gtT false hgt (ai awT true (aw_den hΦ9) (AlOk.nil _))))))))))))) (two_ok hΦ9) hlk (n := 1000) (args := [vv .i64 2, vv .i64 3, inLF]) (args' := [.int .i64 a, .int .i64 b, .slice x.a x.n x.cap]) (res := [.one .bool]) (vs := [.bool true]) (rcs := [litB true]) (rs := [1]) rfl ⟨ev_litB _ true, trivial⟩ (fun G => by kernel_rfl) hvs w (gok w) hin
              · have d6 : lb8.den T = some [b2i true] := tr (p := T.ρ 2 ≤ (32 : Int)) (Int.not_lt.1 c6)
                by_cases c7 : (32 : Int) < T.ρ 3
                · have d7 : lb10.den T = some [b2i false] := fls (p := T.ρ 3 ≤ (32 : Int)) (Int.not_le.2 c7)
                  have c8 : (0 : Int) < T.ρ 2 := by omega
                  have d8 : lb1.den T = some [b2i true] := tr (p := (0 : Int) < T.ρ 2) c8
                  have c9 : (0 : Int) < T.ρ 3 := by omega
                  have d9 : lb3.den T = some [b2i true] := tr (p := (0 : Int) < T.ρ 3) c9
                  have d10 : lb9.den T = some [b2i true] := tr (p := (opZ .and .i64 (T.ρ 3) ((IntKind.i64.wrap (T.ρ 3 - (1 : Int))))) = (0 : Int)) c2
                  exact symRunI envF (ai lb9 true d10 (ai lb3 true d9 (ai lb1 true d8 (ai lb10 false d7 (ai lb8 true d6 (ai lb7 false d5 (ai lb6 false d4 (ai lb5 false d3 (ai lb4 false d2 (ai lb2 false d1 (ai lb0 false d0 (ai gtT false hgt (ai awT true (aw_den hΦ9) (AlOk.nil _)))))))))))))) (two_ok hΦ9) hlk (n := 1000) (args := [vv .i64 2, vv .i64 3, inLF]) (args' := [.int .i64 a, .int .i64 b, .slice x.a x.n x.cap]) (res := [.one .bool]) (vs := [.bool true]) (rcs := [litB true]) (rs := [1]) rfl ⟨ev_litB _ true, trivial⟩ (fun G => by kernel_rfl) hvs w (gok w) hin
                · have d7 : lb10.den T = some [b2i true] := tr (p := T.ρ 3 ≤ (32 : Int)) (Int.not_lt.1 c7)
                  have c8 : (0 : Int) < T.ρ 2 := by omega
                  have d8 : lb1.den T = some [b2i true] := tr (p := (0 : Int) < T.ρ 2) c8
                  have c9 : (0 : Int) < T.ρ 3 := by omega
                  have d9 : lb3.den T = some [b2i true] := tr (p := (0 : Int) < T.ρ 3) c9
                  have d10 : lb9.den T = some [b2i true] := tr (p := (opZ .and .i64 (T.ρ 3) ((IntKind.i64.wrap (T.ρ 3 - (1 : Int))))) = (0 : Int)) c2
                  exact symRunI envF (ai lb9 true d10 (ai lb3 true d9 (ai lb1 true d8 (ai lb10 true d7 (ai lb8 true d6 (ai lb7 false d5 (ai lb6 false d4 (ai lb5 false d3 (ai lb4 false d2 (ai lb2 false d1 (ai lb0 false d0 (ai gtT false hgt (ai awT true (aw_den hΦ9) (AlOk.nil _)))))))))))))) (two_ok hΦ9) hlk (n := 1000) (args := [vv .i64 2, vv .i64 3, inLF]) (args' := [.int .i64 a, .int .i64 b, .slice x.a x.n x.cap]) (res := [.one .bool]) (vs := [.bool true]) (rcs := [litB true]) (rs := [1]) rfl ⟨ev_litB _ true, trivial⟩ (fun G => by kernel_rfl) hvs w (gok w) hin
            · have d5 : lb7.den T = some [b2i true] := tr (p := T.ρ 2 ≤ (24 : Int)) (Int.not_lt.1 c5)
              by_cases c6 : (8 : Int) < T.ρ 3
              · have d6 : lb11.den T = some [b2i false] := fls (p := T.ρ 3 ≤ (8 : Int)) (Int.not_le.2 c6)
                have c7 : ¬ ((32 : Int) < T.ρ 2) := by omega
                have d7 : lb8.den T = some [b2i true] := tr (p := T.ρ 2 ≤ (32 : Int)) (Int.not_lt.1 c7)
                by_cases c8 : (32 : Int) < T.ρ 3
                · have d8 : lb10.den T = some [b2i false] := fls (p := T.ρ 3 ≤ (32 : Int)) (Int.not_le.2 c8)
                  have c9 : (0 : Int) < T.ρ 2 := by omega
                  have d9 : lb1.den T = some [b2i true] := tr (p := (0 : Int) < T.ρ 2) c9
                  have c10 : (0 : Int) < T.ρ 3 := by omega
                  have d10 : lb3.den T = some [b2i true] := tr (p := (0 : Int) < T.ρ 3) c10
                  have d11 : lb9.den T = some [b2i true] := tr (p := (opZ .and .i64 (T.ρ 3) ((IntKind.i64.wrap (T.ρ 3 - (1 : Int))))) = (0 : Int)) c2
                  exact symRunI envF (ai lb9 true d11 (ai lb3 true d10 (ai lb1 true d9 (ai lb10 false d8 (ai lb8 true d7 (ai lb11 false d6 (ai lb7 true d5 (ai lb6 false d4 (ai lb5 false d3 (ai lb4 false d2 (ai lb2 false d1 (ai lb0 false d0 (ai gtT false hgt (ai awT true (aw_den hΦ9) (AlOk.nil _))))))))))))))) (two_ok hΦ9) hlk (n := 1000) (args := [vv .i64 2, vv .i64 3, inLF]) (args' := [.int .i64 a, .int .i64 b, .slice x.a x.n x.cap]) (res := [.one .bool]) (vs := [.bool true]) (rcs := [litB true]) (rs := [1]) rfl ⟨ev_litB _ true, trivial⟩ (fun G => by kernel_rfl) hvs w (gok w) hin
                · have d8 : lb10.den T = some [b2i true] := tr (p := T.ρ 3 ≤ (32 : Int)) (Int.not_lt.1 c8)
                  have c9 : (0 : Int) < T.ρ 2 := by omega
                  have d9 : lb1.den T = some [b2i true] := tr (p := (0 : Int) < T.ρ 2) c9
                  have c10 : (0 : Int) < T.ρ 3 := by omega
                  have d10 : lb3.den T = some [b2i true] := tr (p := (0 : Int) < T.ρ 3) c10
                  have d11 : lb9.den T = some [b2i true] := tr (p := (opZ .and .i64 (T.ρ 3) ((IntKind.i64.wrap (T.ρ 3 - (1 : Int))))) = (0 : Int)) c2
                  exact symRunI envF (ai lb9 true d11 (ai lb3 true d10 (ai lb1 true d9 (ai lb10 true d8 (ai lb8 true d7 (ai lb11 false d6 (ai lb7 true d5 (ai lb6 false d4 (ai lb5 false d3 (ai lb4 false d2 (ai lb2 false d1 (ai lb0 false d0 (ai gtT false hgt (ai awT true (aw_den hΦ9) (AlOk.nil _))))))))))))))) (two_ok hΦ9) hlk (n := 1000) (args := [vv .i64 2, vv .i64 3, inLF]) (args' := [.int .i64 a, .int .i64 b, .slice x.a x.n x.cap]) (res := [.one .bool]) (vs := [.bool true]) (rcs := [litB true]) (rs := [1]) rfl ⟨ev_litB _ true, trivial⟩ (fun G => by kernel_rfl) hvs w (gok w) hin
              · have d6 : lb11.den T = some [b2i true] := tr (p := T.ρ 3 ≤ (8 : Int)) (Int.not_lt.1 c6)
                have c7 : (0 : Int) < T.ρ 2 := by omega
                have d7 : lb1.den T = some [b2i true] := tr (p := (0 : Int) < T.ρ 2) c7
                have c8 : (0 : Int) < T.ρ 3 := by omega
                have d8 : lb3.den T = some [b2i true] := tr (p := (0 : Int) < T.ρ 3) c8
                have d9 : lb9.den T = some [b2i true] := tr (p := (opZ .and .i64 (T.ρ 3) ((IntKind.i64.wrap (T.ρ 3 - (1 : Int))))) = (0 : Int)) c2
                have c10 : ¬ ((32 : Int) < T.ρ 2) := by omega
                have d10 : lb8.den T = some [b2i true] := tr (p := T.ρ 2 ≤ (32 : Int)) (Int.not_lt.1 c10)
                exact symRunI envF (ai lb8 true d10 (ai lb9 true d9 (ai lb3 true d8 (ai lb1 true d7 (ai lb11 true d6 (ai lb7 true d5 (ai lb6 false d4 (ai lb5 false d3 (ai lb4 false d2 (ai lb2 false d1 (ai lb0 false d0 (ai gtT false hgt (ai awT true (aw_den hΦ9) (AlOk.nil _)))))))))))))) (two_ok hΦ9) hlk (n := 1000) (args := [vv .i64 2, vv .i64 3, inLF]) (args' := [.int .i64 a, .int .i64 b, .slice x.a x.n x.cap]) (res := [.one .bool]) (vs := [.bool true]) (rcs := [litB true]) (rs := [1]) rfl ⟨ev_litB _ true, trivial⟩ (fun G => by kernel_rfl) hvs w (gok w) hin
          · have d4 : lb6.den T = some [b2i true] := tr (p := T.ρ 2 ≤ (16 : Int)) (Int.not_lt.1 c4)
            by_cases c5 : (16 : Int) < T.ρ 3
            · have d5 : lb12.den T = some [b2i false] := fls (p := T.ρ 3 ≤ (16 : Int)) (Int.not_le.2 c5)
              have c6 : ¬ ((24 : Int) < T.ρ 2) := by omega
              have d6 : lb7.den T = some [b2i true] := tr (p := T.ρ 2 ≤ (24 : Int)) (Int.not_lt.1 c6)
              have c7 : (8 : Int) < T.ρ 3 := by omega
              have d7 : lb11.den T = some [b2i false] := fls (p := T.ρ 3 ≤ (8 : Int)) (Int.not_le.2 c7)
              have c8 : ¬ ((32 : Int) < T.ρ 2) := by omega
              have d8 : lb8.den T = some [b2i true] := tr (p := T.ρ 2 ≤ (32 : Int)) (Int.not_lt.1 c8)
              by_cases c9 : (32 : Int) < T.ρ 3
              · have d9 : lb10.den T = some [b2i false] := fls (p := T.ρ 3 ≤ (32 : Int)) (Int.not_le.2 c9)
                have c10 : (0 : Int) < T.ρ 2 := by omega
                have d10 : lb1.den T = some [b2i true] := tr (p := (0 : Int) < T.ρ 2) c10
                have c11 : (0 : Int) < T.ρ 3 := by omega
                have d11 : lb3.den T = some [b2i true] := tr (p := (0 : Int) < T.ρ 3) c11
                have d12 : lb9.den T = some [b2i true] := tr (p := (opZ .and .i64 (T.ρ 3) ((IntKind.i64.wrap (T.ρ 3 - (1 : Int))))) = (0 : Int)) c2
                exact symRunI envF (ai lb9 true d12 (ai lb3 true d11 (ai lb1 true d10 (ai lb10 false d9 (ai lb8 true d8 (ai lb11 false d7 (ai lb7 true d6 (ai lb12 false d5 (ai lb6 true d4 (ai lb5 false d3 (ai lb4 false d2 (ai lb2 false d1 (ai lb0 false d0 (ai gtT false hgt (ai awT true (aw_den hΦ9) (AlOk.nil _)))))))))))))))) (two_ok hΦ9) hlk (n := 1000) (args := [vv .i64 2, vv .i64 3, inLF]) (args' := [.int .i64 a, .int .i64 b, .slice x.a x.n x.cap]) (res := [.one .bool]) (vs := [.bool true]) (rcs := [litB true]) (rs := [1]) rfl ⟨ev_litB _ true, trivial⟩ (fun G => by kernel_rfl) hvs w (gok w) hin
              · have d9 : lb10.den T = some [b2i true] := tr (p := T.ρ 3 ≤ (32 : Int)) (Int.not_lt.1 c9)
                have c10 : (0 : Int) < T.ρ 2 := by omega
                have d10 : lb1.den T = some [b2i true] := tr (p := (0 : Int) < T.ρ 2) c10
                have c11 : (0 : Int) < T.ρ 3 := by omega
                have d11 : lb3.den T = some [b2i true] := tr (p := (0 : Int) < T.ρ 3) c11
                have d12 : lb9.den T = some [b2i true] := tr (p := (opZ .and .i64 (T.ρ 3) ((IntKind.i64.wrap (T.ρ 3 - (1 : Int))))) = (0 : Int)) c2
                exact symRunI envF (ai lb9 true d12 (ai lb3 true d11 (ai lb1 true d10 (ai lb10 true d9 (ai lb8 true d8 (ai lb11 false d7 (ai lb7 true d6 (ai lb12 false d5 (ai lb6 true d4 (ai lb5 false d3 (ai lb4 false d2 (ai lb2 false d1 (ai lb0 false d0 (ai gtT false hgt (ai awT true (aw_den hΦ9) (AlOk.nil _)))))))))))))))) (two_ok hΦ9) hlk (n := 1000) (args := [vv .i64 2, vv .i64 3, inLF]) (args' := [.int .i64 a, .int .i64 b, .slice x.a x.n x.cap]) (res := [.one .bool]) (vs := [.bool true]) (rcs := [litB true]) (rs := [1]) rfl ⟨ev_litB _ true, trivial⟩ (fun G => by kernel_rfl) hvs w (gok w) hin
            · have d5 : lb12.den T = some [b2i true] := tr (p := T.ρ 3 ≤ (16 : Int)) (Int.not_lt.1 c5)
              have c6 : (0 : Int) < T.ρ 2 := by omega
              have d6 : lb1.den T = some [b2i true] := tr (p := (0 : Int) < T.ρ 2) c6
              have c7 : (0 : Int) < T.ρ 3 := by omega
              have d7 : lb3.den T = some [b2i true] := tr (p := (0 : Int) < T.ρ 3) c7
              have d8 : lb9.den T = some [b2i true] := tr (p := (opZ .and .i64 (T.ρ 3) ((IntKind.i64.wrap (T.ρ 3 - (1 : Int))))) = (0 : Int)) c2
              have c9 : ¬ ((24 : Int) < T.ρ 2) := by omega
              have d9 : lb7.den T = some [b2i true] := tr (p := T.ρ 2 ≤ (24 : Int)) (Int.not_lt.1 c9)
              have c10 : ¬ ((32 : Int) < T.ρ 2) := by omega
              have d10 : lb8.den T = some [b2i true] := tr (p := T.ρ 2 ≤ (32 : Int)) (Int.not_lt.1 c10)
              exact symRunI envF (ai lb8 true d10 (ai lb7 true d9 (ai lb9 true d8 (ai lb3 true d7 (ai lb1 true d6 (ai lb12 true d5 (ai lb6 true d4 (ai lb5 false d3 (ai lb4 false d2 (ai lb2 false d1 (ai lb0 false d0 (ai gtT false hgt (ai awT true (aw_den hΦ9) (AlOk.nil _)))))))))))))) (two_ok hΦ9) hlk (n := 1000) (args := [vv .i64 2, vv .i64 3, inLF]) (args' := [.int .i64 a, .int .i64 b, .slice x.a x.n x.cap]) (res := [.one .bool]) (vs := [.bool true]) (rcs := [litB true]) (rs := [1]) rfl ⟨ev_litB _ true, trivial⟩ (fun G => by kernel_rfl) hvs w (gok w) hin
        · have d3 : lb5.den T = some [b2i true] := tr (p := T.ρ 2 ≤ (8 : Int)) (Int.not_lt.1 c3)
          by_cases c4 : (8 : Int) < T.ρ 3
          · have d4 : lb11.den T = some [b2i false] := fls (p := T.ρ 3 ≤ (8 : Int)) (Int.not_le.2 c4)
            have c5 : ¬ ((16 : Int) < T.ρ 2) := by omega
            have d5 : lb6.den T = some [b2i true] := tr (p := T.ρ 2 ≤ (16 : Int)) (Int.not_lt.1 c5)
            by_cases c6 : (16 : Int) < T.ρ 3
            · have d6 : lb12.den T = some [b2i false] := fls (p := T.ρ 3 ≤ (16 : Int)) (Int.not_le.2 c6)
              have c7 : ¬ ((24 : Int) < T.ρ 2) := by omega
              have d7 : lb7.den T = some [b2i true] := tr (p := T.ρ 2 ≤ (24 : Int)) (Int.not_lt.1 c7)
              have c8 : ¬ ((32 : Int) < T.ρ 2) := by omega
              have d8 : lb8.den T = some [b2i true] := tr (p := T.ρ 2 ≤ (32 : Int)) (Int.not_lt.1 c8)
              by_cases c9 : (32 : Int) < T.ρ 3
              · have d9 : lb10.den T = some [b2i false] := fls (p := T.ρ 3 ≤ (32 : Int)) (Int.not_le.2 c9)
                have c10 : (0 : Int) < T.ρ 2 := by omega
                have d10 : lb1.den T = some [b2i true] := tr (p := (0 : Int) < T.ρ 2) c10
                have c11 : (0 : Int) < T.ρ 3 := by omega
                have d11 : lb3.den T = some [b2i true] := tr (p := (0 : Int) < T.ρ 3) c11
                have d12 : lb9.den T = some [b2i true] := tr (p := (opZ .and .i64 (T.ρ 3) ((IntKind.i64.wrap (T.ρ 3 - (1 : Int))))) = (0 : Int)) c2
                exact symRunI envF (ai lb9 true d12 (ai lb3 true d11 (ai lb1 true d10 (ai lb10 false d9 (ai lb8 true d8 (ai lb7 true d7 (ai lb12 false d6 (ai lb6 true d5 (ai lb11 false d4 (ai lb5 true d3 (ai lb4 false d2 (ai lb2 false d1 (ai lb0 false d0 (ai gtT false hgt (ai awT true (aw_den hΦ9) (AlOk.nil _)))))))))))))))) (two_ok hΦ9) hlk (n := 1000) (args := [vv .i64 2, vv .i64 3, inLF]) (args' := [.int .i64 a, .int .i64 b, .slice x.a x.n x.cap]) (res := [.one .bool]) (vs := [.bool true]) (rcs := [litB true]) (rs := [1]) rfl ⟨ev_litB _ true, trivial⟩ (fun G => by kernel_rfl) hvs w (gok w) hin
              · have d9 : lb10.den T = some [b2i true] := tr (p := T.ρ 3 ≤ (32 : Int)) (Int.not_lt.1 c9)
                have c10 : (0 : Int) < T.ρ 2 := by omega
                have d10 : lb1.den T = some [b2i true] := tr (p := (0 : Int) < T.ρ 2) c10
                have c11 : (0 : Int) < T.ρ 3 := by omega
                have d11 : lb3.den T = some [b2i true] := tr (p := (0 : Int) < T.ρ 3) c11
                have d12 : lb9.den T = some [b2i true] := tr (p := (opZ .and .i64 (T.ρ 3) ((IntKind.i64.wrap (T.ρ 3 - (1 : Int))))) = (0 : Int)) c2
                exact symRunI envF (ai lb9 true d12 (ai lb3 true d11 (ai lb1 true d10 (ai lb10 true d9 (ai lb8 true d8 (ai lb7 true d7 (ai lb12 false d6 (ai lb6 true d5 (ai lb11 false d4 (ai lb5 true d3 (ai lb4 false d2 (ai lb2 false d1 (ai lb0 false d0 (ai gtT false hgt (ai awT true (aw_den hΦ9) (AlOk.nil _)))))))))))))))) (two_ok hΦ9) hlk (n := 1000) (args := [vv .i64 2, vv .i64 3, inLF]) (args' := [.int .i64 a, .int .i64 b, .slice x.a x.n x.cap]) (res := [.one .bool]) (vs := [.bool true]) (rcs := [litB true]) (rs := [1]) rfl ⟨ev_litB _ true, trivial⟩ (fun G => by kernel_rfl) hvs w (gok w) hin
            · have d6 : lb12.den T = some [b2i true] := tr (p := T.ρ 3 ≤ (16 : Int)) (Int.not_lt.1 c6)
              have c7 : (0 : Int) < T.ρ 2 := by omega
              have d7 : lb1.den T = some [b2i true] := tr (p := (0 : Int) < T.ρ 2) c7
              have c8 : (0 : Int) < T.ρ 3 := by omega
              have d8 : lb3.den T = some [b2i true] := tr (p := (0 : Int) < T.ρ 3) c8
              have d9 : lb9.den T = some [b2i true] := tr (p := (opZ .and .i64 (T.ρ 3) ((IntKind.i64.wrap (T.ρ 3 - (1 : Int))))) = (0 : Int)) c2
              have c10 : ¬ ((24 : Int) < T.ρ 2) := by omega
              have d10 : lb7.den T = some [b2i true] := tr (p := T.ρ 2 ≤ (24 : Int)) (Int.not_lt.1 c10)
              have c11 : ¬ ((32 : Int) < T.ρ 2) := by omega
              have d11 : lb8.den T = some [b2i true] := tr (p := T.ρ 2 ≤ (32 : Int)) (Int.not_lt.1 c11)
              exact symRunI envF (ai lb8 true d11 (ai lb7 true d10 (ai lb9 true d9 (ai lb3 true d8 (ai lb1 true d7 (ai lb12 true d6 (ai lb6 true d5 (ai lb11 false d4 (ai lb5 true d3 (ai lb4 false d2 (ai lb2 false d1 (ai lb0 false d0 (ai gtT false hgt (ai awT true (aw_den hΦ9) (AlOk.nil _))))))))))))))) (two_ok hΦ9) hlk (n := 1000) (args := [vv .i64 2, vv .i64 3, inLF]) (args' := [.int .i64 a, .int .i64 b, .slice x.a x.n x.cap]) (res := [.one .bool]) (vs := [.bool true]) (rcs := [litB true]) (rs := [1]) rfl ⟨ev_litB _ true, trivial⟩ (fun G => by kernel_rfl) hvs w (gok w) hin
          · have d4 : lb11.den T = some [b2i true] := tr (p := T.ρ 3 ≤ (8 : Int)) (Int.not_lt.1 c4)
            have c5 : (0 : Int) < T.ρ 2 := by omega
            have d5 : lb1.den T = some [b2i true] := tr (p := (0 : Int) < T.ρ 2) c5
            have c6 : (0 : Int) < T.ρ 3 := by omega
            have d6 : lb3.den T = some [b2i true] := tr (p := (0 : Int) < T.ρ 3) c6
            have d7 : lb9.den T = some [b2i true] := tr (p := (opZ .and .i64 (T.ρ 3) ((IntKind.i64.wrap (T.ρ 3 - (1 : Int))))) = (0 : Int)) c2
            have c8 : ¬ ((16 : Int) < T.ρ 2) := by omega
            have d8 : lb6.den T = some [b2i true] := tr (p := T.ρ 2 ≤ (16 : Int)) (Int.not_lt.1 c8)
            have c9 : ¬ ((24 : Int) < T.ρ 2) := by omega
            have d9 : lb7.den T = some [b2i true] := tr (p := T.ρ 2 ≤ (24 : Int)) (Int.not_lt.1 c9)
            have c10 : ¬ ((32 : Int) < T.ρ 2) := by omega
            have d10 : lb8.den T = some [b2i true] := tr (p := T.ρ 2 ≤ (32 : Int)) (Int.not_lt.1 c10)
            exact symRunI envF (ai lb8 true d10 (ai lb7 true d9 (ai lb6 true d8 (ai lb9 true d7 (ai lb3 true d6 (ai lb1 true d5 (ai lb11 true d4 (ai lb5 true d3 (ai lb4 false d2 (ai lb2 false d1 (ai lb0 false d0 (ai gtT false hgt (ai awT true (aw_den hΦ9) (AlOk.nil _)))))))))))))) (two_ok hΦ9) hlk (n := 1000) (args := [vv .i64 2, vv .i64 3, inLF]) (args' := [.int .i64 a, .int .i64 b, .slice x.a x.n x.cap]) (res := [.one .bool]) (vs := [.bool true]) (rcs := [litB true]) (rs := [1]) rfl ⟨ev_litB _ true, trivial⟩ (fun G => by kernel_rfl) hvs w (gok w) hin
      · have d2 : lb4.den T = some [b2i true] := tr (p := (opZ .and .i64 (T.ρ 3) ((IntKind.i64.wrap (T.ρ 3 - (1 : Int))))) ≠ (0 : Int)) c2
        have c3 : (0 : Int) < T.ρ 2 := by omega
        have d3 : lb1.den T = some [b2i true] := tr (p := (0 : Int) < T.ρ 2) c3
        have c4 : (0 : Int) < T.ρ 3 := by omega
        have d4 : lb3.den T = some [b2i true] := tr (p := (0 : Int) < T.ρ 3) c4
        have d5 : lb9.den T = some [b2i false] := fls (p := (opZ .and .i64 (T.ρ 3) ((IntKind.i64.wrap (T.ρ 3 - (1 : Int))))) = (0 : Int)) c2
        exact symRunI envF (ai lb9 false d5 (ai lb3 true d4 (ai lb1 true d3 (ai lb4 true d2 (ai lb2 false d1 (ai lb0 false d0 (ai gtT false hgt (ai awT true (aw_den hΦ9) (AlOk.nil _))))))))) (two_ok hΦ9) hlk (n := 1000) (args := [vv .i64 2, vv .i64 3, inLF]) (args' := [.int .i64 a, .int .i64 b, .slice x.a x.n x.cap]) (res := [.one .bool]) (vs := [.bool true]) (rcs := [litB true]) (rs := [1]) rfl ⟨ev_litB _ true, trivial⟩ (fun G => by kernel_rfl) hvs w (gok w) hin
theorem lawGreat {T : Sy} {a b : Int} {x : Inp} {w : World} (hΦ9 : T.Φ 9 [] = 1) (t1 : (12 : Int) < T.ρ 1) (hvs : ∀ G ι, VsOk T G ι [vv .i64 2, vv .i64 3, inLF] [.int .i64 a, .int .i64 b, .slice x.a x.n x.cap]) (hin : ∀ b o, inpL T.I b = some o → w.heap[b]? = some o) : Calls Try.prog 4 #[.int .i64 a, .int .i64 b, .slice x.a x.n x.cap] w fun e w' => e = .returned (.bool true) ∧ Quiet w w' :=
  symRunI envG (ai gtT true (tr (p := (12 : Int) < T.ρ 1) t1) (ai awT true (aw_den hΦ9) (AlOk.nil _))) (two_ok hΦ9) (LkOk.no _ _ _ _) (n := 1000) (args := [vv .i64 2, vv .i64 3, inLF]) (args' := [.int .i64 a, .int .i64 b, .slice x.a x.n x.cap]) (res := [.one .bool]) (vs := [.bool true]) (rcs := [litB true]) (rs := [1]) rfl ⟨ev_litB _ true, trivial⟩ (fun G => by kernel_rfl) hvs w (gok w) hin
set_option maxHeartbeats 4000000 in
theorem fits_any (a b : Int) (v : Value) (w : World) (hs : SlIn w [some .i64] v) : Calls Try.prog 4 #[.int .i64 a, .int .i64 b, v] w fun e w' => e = .returned (.bool true) ∧ Quiet w w' := by
  obtain ⟨x, F, hks, hf, rfl, hx, _, hok⟩ := inpw_of (by decide) hs 20
  have hall : ∀ z ∈ [x], ∃ F, InpW w z F := fun z hz => by
    rw [List.mem_singleton] at hz
    subst hz
    exact ⟨F, hok⟩
  have hxok : InpOk [x] (phi 20 1 F) x := inps_ok hall List.mem_cons_self hok fun m j hm => by
    rw [hks] at hm
    rw [hf]
    exact phi_in hm
  obtain ⟨SS, hSS⟩ : ∃ SS : Sy, SS = ⟨upd (fun _ => 0) [(1, (x.n : Int)), (2, a), (3, b)], phi 20 1 F, [x], fun z hz => by rw [List.mem_singleton] at hz; subst hz; exact hxok⟩ := ⟨_, rfl⟩
  have i1 : SS.ρ 1 = x.n := by rw [hSS]; rfl
  have i2 : SS.ρ 2 = a := by rw [hSS]; rfl
  have i3 : SS.ρ 3 = b := by rw [hSS]; rfl
  have iI : SS.I = [x] := by rw [hSS]
  have i9 : SS.Φ 9 [] = 1 := by rw [hSS]; exact phi_9 (f := 20) (m := 1) (F := F) (by decide)
  have hin0 : ∀ b o, inpL [x] b = some o → w.heap[b]? = some o := inps_in hall
  have hK : ∀ z ∈ SS.I, z.f + z.ks.length ≤ 60 := fun z hz => by
    rw [iI, List.mem_singleton] at hz
    subst hz
    rw [hf, hks]; decide
  have mk : ∀ T : Sy, T.I = SS.I → T.ρ 1 = SS.ρ 1 → T.ρ 2 = SS.ρ 2 → T.ρ 3 = SS.ρ 3 → (∀ G ι, VsOk T G ι [vv .i64 2, vv .i64 3, inLF] [.int .i64 a, .int .i64 b, .slice x.a x.n x.cap]) ∧ ∀ b o, inpL T.I b = some o → w.heap[b]? = some o := fun T tI t1 t2 t3 =>
    ⟨fun G ι => vs_sym (t2.trans i2) (vs_sym (t3.trans i3) (vs_inp0 (x := x) (by decide) (by rw [tI, iI]; rfl) (by rw [hks]; decide +kernel) (by rw [hf]; decide +kernel) (t1.trans i1) vs_nil)), by rw [tI, iI]; exact hin0⟩
  by_cases hg : x.n ≤ 12
  case neg =>
    obtain ⟨m1, m2⟩ := mk SS rfl rfl rfl rfl
    exact lawGreat i9 (by omega) m1 m2
  obtain ⟨S0, hS0⟩ : ∃ S0 : Sy, S0 = SS.set (upd SS.ρ [(4, (0 : Int))]) [] 60 rfl hK := ⟨_, rfl⟩
  have q0 : Stay [4] [] SS S0 := by rw [hS0]; exact (Stay.refl [4] [] _).set rfl rfl
  have s4 : S0.ρ 4 = 0 := by rw [hS0]; rfl
  have s1 : S0.ρ 1 = x.n := (q0.num 1 rfl).trans i1
  have hK0 : ∀ z ∈ S0.I, z.f + z.ks.length ≤ 60 := by rw [q0.1]; exact hK
  by_cases hv : ∃ j : Nat, j < x.n ∧ okS (S0.Φ 20 [(j : Int)])
  case neg =>
    obtain ⟨Sa, ch, e4, y⟩ := nilChainG x.n S0 (by omega) (by omega) (by omega) (fun j hj hh => hv ⟨j, hj, by rwa [s4, Int.zero_add] at hh⟩) hK0
    have y1 := y.num 1 rfl
    have p := q0.trans y
    have hlk := LkOk.all (P := Try.prog) (S := Sa) (gs := []) (ms := [lpFM]) (fs := [lkLoopR Try.prog 0 [] X0F F0F (.exit 0) [(1, .num (Tm.enc (.var .i64 1))), (1, .num (Tm.enc (.var .i64 1))), (4, .num (Tm.enc (.lit .i64 0)))]]) ⟨⟨_, codeFM, loop_chain envG (ann_self _) fineFM (show X0F.N = F0F.N from rfl) (Nat.le_of_ble_eq_true rfl) ch (nilOutG (by omega) rfl) (an 1 (.var .i64 1) (sm y1) (an 1 (.var .i64 1) (sm y1) (an 4 (.lit .i64 0) (sm s4.symm) (asg_nil y.1.symm))))⟩, trivial⟩
    obtain ⟨m1, m2⟩ := mk Sa p.1 (p.num 1 rfl) (p.num 2 rfl) (p.num 3 rfl)
    exact lawA ((p.fn 9 rfl []).trans i9) (by omega) m1 m2 hlk
  obtain ⟨j0, ⟨hj, hok0⟩, hmin⟩ := least hv
  obtain ⟨Sa, ch, e4, y⟩ := nilChainF j0 S0 (by omega) (by omega) (by omega) (fun j hj' hh => hmin j hj' ⟨by omega, by rwa [s4, Int.zero_add] at hh⟩) hK0
  have y1 := y.num 1 rfl
  have hKa : ∀ z ∈ Sa.I, z.f + z.ks.length ≤ 60 := by rw [y.1]; exact hK0
  have ea : Sa.ρ 4 = j0 := by omega
  obtain ⟨Sb, cx, f4, f5, hrb, yb⟩ := crossToF (S1 := Sa) (by omega) (by omega) (by omega) (by rw [ea, y.fn 20 rfl]; exact hok0) hKa
  have b1 := yb.num 1 rfl
  have hKb : ∀ z ∈ Sb.I, z.f + z.ks.length ≤ 60 := by rw [yb.1]; exact hKa
  obtain ⟨Sf, ch2, g4, g5, hrf, yf⟩ := rowChainF (x.n - (j0 + 1)) Sb (by omega) (by omega) (by omega) (by omega) (by rw [f5]; exact hrb) hKb
  have f1 := yf.num 1 rfl
  have hKf : ∀ z ∈ Sf.I, z.f + z.ks.length ≤ 60 := by rw [yf.1]; exact hKb
  obtain ⟨S6, hS6⟩ : ∃ S6 : Sy, S6 = Sf.set (upd Sf.ρ [(6, (0 : Int))]) [] 60 rfl hKf := ⟨_, rfl⟩
  have q6 : Stay [6] [] Sf S6 := by rw [hS6]; exact (Stay.refl [6] [] _).set rfl rfl
  have s6 : S6.ρ 6 = 0 := by rw [hS6]; rfl
  have s5 := q6.num 5 rfl
  have hK6 : ∀ z ∈ S6.I, z.f + z.ks.length ≤ 60 := by rw [q6.1]; exact hKf
  obtain ⟨m5, hm5⟩ : ∃ m : Nat, S6.ρ 5 = m := ⟨(S6.ρ 5).toNat, by omega⟩
  obtain ⟨T, ch3, k6, yt⟩ := chkChain m5 S6 (by omega) (by omega) (by omega) (fun j hj => by
    rw [q6.fn 60 rfl, q6.fn 61 rfl, q6.fn 62 rfl]
    exact hrf j (by omega)) hK6
  have t5 := yt.num 5 rfl
  have pf : Stay [6] [] Sf T := stay_weak (q6.trans yt) rfl rfl
  have p : Stay [4, 5, 6] [60, 61, 62] S0 T := stay_weak (y.trans (yb.trans (yf.trans pf))) rfl rfl
  have P := q0.trans p
  have r : ∀ f, ([6].any fun u => Nat.beq u f) = false → ∀ j : Nat, aden T (.var f) j = some (S6.Φ f [(j : Int)]) := fun f _ j => congrArg some (yt.2.2 f rfl [(j : Int)])
  have hlk := LkOk.all (P := Try.prog) (S := T) (gs := []) (ms := [lpFM, lpFC]) (fs := [lkLoopR Try.prog 0 [] X0F F1F (.exit 0) [(1, .num (Tm.enc (.var .i64 1))), (1, .num (Tm.enc (.var .i64 1))), (4, .num (Tm.enc (.lit .i64 0)))], lkLoopR Try.prog 1 [] X2F F2F (.exit 0) [(2, .num (Tm.enc (.var .i64 2))), (3, .num (Tm.enc (.var .i64 3))), (5, .num (Tm.enc (.var .i64 5))), (6, .num (Tm.enc (.lit .i64 0))), (5, .num (Tm.enc (.var .i64 5))), (60, .arr (.var 60)), (61, .arr (.var 61)), (62, .arr (.var 62))]])
    ⟨⟨_, codeFM, loop_chain2 envF (ann_self _) fineFM (show X0F.N = F1F.N from rfl) (show X1F.N = F1F.N from rfl) (Nat.le_of_ble_eq_true rfl) ch cx ch2 (rowOutF (by omega) (pf.same rfl rfl)) (an 1 (.var .i64 1) (sm (p.num 1 rfl)) (an 1 (.var .i64 1) (sm (p.num 1 rfl)) (an 4 (.lit .i64 0) (sm s4.symm) (asg_nil p.1.symm))))⟩,
     ⟨_, codeFC, loop_chain envF (ann_self _) fineFC (show X2F.N = F2F.N from rfl) (Nat.le_of_ble_eq_true rfl) ch3 (chkOut (by omega) (Same.refl _ _ _)) (an 2 (.var .i64 2) (sm (yt.num 2 rfl)) (an 3 (.var .i64 3) (sm (yt.num 3 rfl)) (an 5 (.var .i64 5) (sm t5) (an 6 (.lit .i64 0) (sm s6.symm) (an 5 (.var .i64 5) (sm t5) (asg_arr (i := 60) (r 60 rfl) (asg_arr (i := 61) (r 61 rfl) (asg_arr (i := 62) (r 62 rfl) (asg_nil yt.1.symm)))))))))⟩, trivial⟩
  obtain ⟨m1, m2⟩ := mk T P.1 (P.num 1 rfl) (P.num 2 rfl) (P.num 3 rfl)
  exact lawB ((P.fn 9 rfl []).trans i9) (by have := P.num 1 rfl; omega) m1 m2 hlk
end Go.Proofs.Ytokcoabcflpbbaa
