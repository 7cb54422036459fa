/-
  Stage 6: what the functions of package class come to, further ones. Conditions: those each says.
-/
import Derived.Test.YthaibdajbpdkcaaC1b
namespace Go.Proofs.Ythaibdajbpdkcaa
open Go.Ev Go.RowKit
set_option maxRecDepth 100000
def t_rof43_0 : Tm := (.bin .gtr (.var .i64 0) (.lit .i64 0))
def t_rof43_1 : Tm := (.bin .leq (.var .i64 0) (.lit .i64 8))
def t_rof43_2 : Tm := (.bin .leq (.var .i64 0) (.lit .i64 16))
def t_rof43_3 : Tm := (.bin .leq (.var .i64 0) (.lit .i64 24))
def t_rof43_4 : Tm := (.bin .leq (.var .i64 0) (.lit .i64 32))
theorem rof43 (x0 : Int) (w : World) : Calls Try.prog 16 #[.int .i64 x0, .int .i64 8796093022208] w fun e w' => e = .returned (bundle (fillP [.one (.int .i64)] [ofZ x0 8796093022208])) ∧ Quiet w w' := by
  obtain ⟨S, hS⟩ : ∃ S : Sy, S = ⟨upd (fun _ => 0) [(0, x0)], fun _ _ => 0, [], fun _ h => by simp at h⟩ := ⟨_, rfl⟩
  have i0 : S.ρ 0 = x0 := by rw [hS]; rfl
  have hI : S.I = [] := by rw [hS]
  have hvs : ∀ G ι, VsOk S G ι [vv .i64 0, .int .i64 8796093022208] [.int .i64 x0, .int .i64 8796093022208] := fun G ι => (vs_sym i0 (vs_int vs_nil))
  subst i0
  by_cases c0 : (0 : Int) < S.ρ 0
  · have d0 : t_rof43_0.den S = some [b2i true] := tr (p := (0 : Int) < S.ρ 0) c0
    by_cases c1 : (8 : Int) < S.ρ 0
    · have d1 : t_rof43_1.den S = some [b2i false] := fls (p := S.ρ 0 ≤ (8 : Int)) (Int.not_le.2 c1)
      by_cases c2 : (16 : Int) < S.ρ 0
      · have d2 : t_rof43_2.den S = some [b2i false] := fls (p := S.ρ 0 ≤ (16 : Int)) (Int.not_le.2 c2)
        by_cases c3 : (24 : Int) < S.ρ 0
        · have d3 : t_rof43_3.den S = some [b2i false] := fls (p := S.ρ 0 ≤ (24 : Int)) (Int.not_le.2 c3)
          by_cases c4 : (32 : Int) < S.ρ 0
          · have d4 : t_rof43_4.den S = some [b2i false] := fls (p := S.ρ 0 ≤ (32 : Int)) (Int.not_le.2 c4)
            have r0 : ofZ (S.ρ 0) 8796093022208 = (-1 : Int) := by exact if_pos (Or.inr (by decide))
            rw [r0]
            exact symL env gok (ai t_rof43_4 false d4 (ai t_rof43_3 false d3 (ai t_rof43_2 false d2 (ai t_rof43_1 false d1 (ai t_rof43_0 true d0 (AlOk.nil _)))))) (hcs0 _) hvs w hI [.int .i64 (-1)] (csT (.lit .i64 (-1)) rfl cs_nil) (by kernel_rfl) (fun G => by kernel_rfl)
          · have d4 : t_rof43_4.den S = some [b2i true] := tr (p := S.ρ 0 ≤ (32 : Int)) (Int.not_lt.1 c4)
            have r0 : ofZ (S.ρ 0) 8796093022208 = (-1 : Int) := by exact if_pos (Or.inr (by decide))
            rw [r0]
            exact symL env gok (ai t_rof43_4 true d4 (ai t_rof43_3 false d3 (ai t_rof43_2 false d2 (ai t_rof43_1 false d1 (ai t_rof43_0 true d0 (AlOk.nil _)))))) (hcs0 _) hvs w hI [.int .i64 (-1)] (csT (.lit .i64 (-1)) rfl cs_nil) (by kernel_rfl) (fun G => by kernel_rfl)
        · have d3 : t_rof43_3.den S = some [b2i true] := tr (p := S.ρ 0 ≤ (24 : Int)) (Int.not_lt.1 c3)
          have c4 : ¬ ((32 : Int) < S.ρ 0) := by omega
          have d4 : t_rof43_4.den S = some [b2i true] := tr (p := S.ρ 0 ≤ (32 : Int)) (Int.not_lt.1 c4)
          have r0 : ofZ (S.ρ 0) 8796093022208 = (-1 : Int) := by exact if_pos (Or.inr (by decide))
          rw [r0]
          exact symL env gok (ai t_rof43_4 true d4 (ai t_rof43_3 true d3 (ai t_rof43_2 false d2 (ai t_rof43_1 false d1 (ai t_rof43_0 true d0 (AlOk.nil _)))))) (hcs0 _) hvs w hI [.int .i64 (-1)] (csT (.lit .i64 (-1)) rfl cs_nil) (by kernel_rfl) (fun G => by kernel_rfl)
      · have d2 : t_rof43_2.den S = some [b2i true] := tr (p := S.ρ 0 ≤ (16 : Int)) (Int.not_lt.1 c2)
        have c3 : ¬ ((24 : Int) < S.ρ 0) := by omega
        have d3 : t_rof43_3.den S = some [b2i true] := tr (p := S.ρ 0 ≤ (24 : Int)) (Int.not_lt.1 c3)
        have c4 : ¬ ((32 : Int) < S.ρ 0) := by omega
        have d4 : t_rof43_4.den S = some [b2i true] := tr (p := S.ρ 0 ≤ (32 : Int)) (Int.not_lt.1 c4)
        have r0 : ofZ (S.ρ 0) 8796093022208 = (-1 : Int) := by exact if_pos (Or.inr (by decide))
        rw [r0]
        exact symL env gok (ai t_rof43_4 true d4 (ai t_rof43_3 true d3 (ai t_rof43_2 true d2 (ai t_rof43_1 false d1 (ai t_rof43_0 true d0 (AlOk.nil _)))))) (hcs0 _) hvs w hI [.int .i64 (-1)] (csT (.lit .i64 (-1)) rfl cs_nil) (by kernel_rfl) (fun G => by kernel_rfl)
    · have d1 : t_rof43_1.den S = some [b2i true] := tr (p := S.ρ 0 ≤ (8 : Int)) (Int.not_lt.1 c1)
      have c2 : ¬ ((16 : Int) < S.ρ 0) := by omega
      have d2 : t_rof43_2.den S = some [b2i true] := tr (p := S.ρ 0 ≤ (16 : Int)) (Int.not_lt.1 c2)
      have c3 : ¬ ((24 : Int) < S.ρ 0) := by omega
      have d3 : t_rof43_3.den S = some [b2i true] := tr (p := S.ρ 0 ≤ (24 : Int)) (Int.not_lt.1 c3)
      have c4 : ¬ ((32 : Int) < S.ρ 0) := by omega
      have d4 : t_rof43_4.den S = some [b2i true] := tr (p := S.ρ 0 ≤ (32 : Int)) (Int.not_lt.1 c4)
      have r0 : ofZ (S.ρ 0) 8796093022208 = (-1 : Int) := by exact if_pos (Or.inr (by decide))
      rw [r0]
      exact symL env gok (ai t_rof43_4 true d4 (ai t_rof43_3 true d3 (ai t_rof43_2 true d2 (ai t_rof43_1 true d1 (ai t_rof43_0 true d0 (AlOk.nil _)))))) (hcs0 _) hvs w hI [.int .i64 (-1)] (csT (.lit .i64 (-1)) rfl cs_nil) (by kernel_rfl) (fun G => by kernel_rfl)
  · have d0 : t_rof43_0.den S = some [b2i false] := fls (p := (0 : Int) < S.ρ 0) c0
    have r0 : ofZ (S.ρ 0) 8796093022208 = (-1 : Int) := by exact if_pos (Or.inr (by decide))
    rw [r0]
    exact symL env gok (ai t_rof43_0 false d0 (AlOk.nil _)) (hcs0 _) hvs w hI [.int .i64 (-1)] (csT (.lit .i64 (-1)) rfl cs_nil) (by kernel_rfl) (fun G => by kernel_rfl)
def t_rof44_0 : Tm := (.bin .gtr (.var .i64 0) (.lit .i64 0))
def t_rof44_1 : Tm := (.bin .leq (.var .i64 0) (.lit .i64 8))
def t_rof44_2 : Tm := (.bin .leq (.var .i64 0) (.lit .i64 16))
def t_rof44_3 : Tm := (.bin .leq (.var .i64 0) (.lit .i64 24))
def t_rof44_4 : Tm := (.bin .leq (.var .i64 0) (.lit .i64 32))
theorem rof44 (x0 : Int) (w : World) : Calls Try.prog 16 #[.int .i64 x0, .int .i64 17592186044416] w fun e w' => e = .returned (bundle (fillP [.one (.int .i64)] [ofZ x0 17592186044416])) ∧ Quiet w w' := by
  obtain ⟨S, hS⟩ : ∃ S : Sy, S = ⟨upd (fun _ => 0) [(0, x0)], fun _ _ => 0, [], fun _ h => by simp at h⟩ := ⟨_, rfl⟩
  have i0 : S.ρ 0 = x0 := by rw [hS]; rfl
  have hI : S.I = [] := by rw [hS]
  have hvs : ∀ G ι, VsOk S G ι [vv .i64 0, .int .i64 17592186044416] [.int .i64 x0, .int .i64 17592186044416] := fun G ι => (vs_sym i0 (vs_int vs_nil))
  subst i0
  by_cases c0 : (0 : Int) < S.ρ 0
  · have d0 : t_rof44_0.den S = some [b2i true] := tr (p := (0 : Int) < S.ρ 0) c0
    by_cases c1 : (8 : Int) < S.ρ 0
    · have d1 : t_rof44_1.den S = some [b2i false] := fls (p := S.ρ 0 ≤ (8 : Int)) (Int.not_le.2 c1)
      by_cases c2 : (16 : Int) < S.ρ 0
      · have d2 : t_rof44_2.den S = some [b2i false] := fls (p := S.ρ 0 ≤ (16 : Int)) (Int.not_le.2 c2)
        by_cases c3 : (24 : Int) < S.ρ 0
        · have d3 : t_rof44_3.den S = some [b2i false] := fls (p := S.ρ 0 ≤ (24 : Int)) (Int.not_le.2 c3)
          by_cases c4 : (32 : Int) < S.ρ 0
          · have d4 : t_rof44_4.den S = some [b2i false] := fls (p := S.ρ 0 ≤ (32 : Int)) (Int.not_le.2 c4)
            have r0 : ofZ (S.ρ 0) 17592186044416 = (-1 : Int) := by exact if_pos (Or.inr (by decide))
            rw [r0]
            exact symL env gok (ai t_rof44_4 false d4 (ai t_rof44_3 false d3 (ai t_rof44_2 false d2 (ai t_rof44_1 false d1 (ai t_rof44_0 true d0 (AlOk.nil _)))))) (hcs0 _) hvs w hI [.int .i64 (-1)] (csT (.lit .i64 (-1)) rfl cs_nil) (by kernel_rfl) (fun G => by kernel_rfl)
          · have d4 : t_rof44_4.den S = some [b2i true] := tr (p := S.ρ 0 ≤ (32 : Int)) (Int.not_lt.1 c4)
            have r0 : ofZ (S.ρ 0) 17592186044416 = (-1 : Int) := by exact if_pos (Or.inr (by decide))
            rw [r0]
            exact symL env gok (ai t_rof44_4 true d4 (ai t_rof44_3 false d3 (ai t_rof44_2 false d2 (ai t_rof44_1 false d1 (ai t_rof44_0 true d0 (AlOk.nil _)))))) (hcs0 _) hvs w hI [.int .i64 (-1)] (csT (.lit .i64 (-1)) rfl cs_nil) (by kernel_rfl) (fun G => by kernel_rfl)
        · have d3 : t_rof44_3.den S = some [b2i true] := tr (p := S.ρ 0 ≤ (24 : Int)) (Int.not_lt.1 c3)
          have c4 : ¬ ((32 : Int) < S.ρ 0) := by omega
          have d4 : t_rof44_4.den S = some [b2i true] := tr (p := S.ρ 0 ≤ (32 : Int)) (Int.not_lt.1 c4)
          have r0 : ofZ (S.ρ 0) 17592186044416 = (-1 : Int) := by exact if_pos (Or.inr (by decide))
          rw [r0]
          exact symL env gok (ai t_rof44_4 true d4 (ai t_rof44_3 true d3 (ai t_rof44_2 false d2 (ai t_rof44_1 false d1 (ai t_rof44_0 true d0 (AlOk.nil _)))))) (hcs0 _) hvs w hI [.int .i64 (-1)] (csT (.lit .i64 (-1)) rfl cs_nil) (by kernel_rfl) (fun G => by kernel_rfl)
      · have d2 : t_rof44_2.den S = some [b2i true] := tr (p := S.ρ 0 ≤ (16 : Int)) (Int.not_lt.1 c2)
        have c3 : ¬ ((24 : Int) < S.ρ 0) := by omega
        have d3 : t_rof44_3.den S = some [b2i true] := tr (p := S.ρ 0 ≤ (24 : Int)) (Int.not_lt.1 c3)
        have c4 : ¬ ((32 : Int) < S.ρ 0) := by omega
        have d4 : t_rof44_4.den S = some [b2i true] := tr (p := S.ρ 0 ≤ (32 : Int)) (Int.not_lt.1 c4)
        have r0 : ofZ (S.ρ 0) 17592186044416 = (-1 : Int) := by exact if_pos (Or.inr (by decide))
        rw [r0]
        exact symL env gok (ai t_rof44_4 true d4 (ai t_rof44_3 true d3 (ai t_rof44_2 true d2 (ai t_rof44_1 false d1 (ai t_rof44_0 true d0 (AlOk.nil _)))))) (hcs0 _) hvs w hI [.int .i64 (-1)] (csT (.lit .i64 (-1)) rfl cs_nil) (by kernel_rfl) (fun G => by kernel_rfl)
    · have d1 : t_rof44_1.den S = some [b2i true] := tr (p := S.ρ 0 ≤ (8 : Int)) (Int.not_lt.1 c1)
      have c2 : ¬ ((16 : Int) < S.ρ 0) := by omega
      have d2 : t_rof44_2.den S = some [b2i true] := tr (p := S.ρ 0 ≤ (16 : Int)) (Int.not_lt.1 c2)
      have c3 : ¬ ((24 : Int) < S.ρ 0) := by omega
      have d3 : t_rof44_3.den S = some [b2i true] := tr (p := S.ρ 0 ≤ (24 : Int)) (Int.not_lt.1 c3)
      have c4 : ¬ ((32 : Int) < S.ρ 0) := by omega
      have d4 : t_rof44_4.den S = some [b2i true] := tr (p := S.ρ 0 ≤ (32 : Int)) (Int.not_lt.1 c4)
      have r0 : ofZ (S.ρ 0) 17592186044416 = (-1 : Int) := by exact if_pos (Or.inr (by decide))
      rw [r0]
      exact symL env gok (ai t_rof44_4 true d4 (ai t_rof44_3 true d3 (ai t_rof44_2 true d2 (ai t_rof44_1 true d1 (ai t_rof44_0 true d0 (AlOk.nil _)))))) (hcs0 _) hvs w hI [.int .i64 (-1)] (csT (.lit .i64 (-1)) rfl cs_nil) (by kernel_rfl) (fun G => by kernel_rfl)
  · have d0 : t_rof44_0.den S = some [b2i false] := fls (p := (0 : Int) < S.ρ 0) c0
    have r0 : ofZ (S.ρ 0) 17592186044416 = (-1 : Int) := by exact if_pos (Or.inr (by decide))
    rw [r0]
    exact symL env gok (ai t_rof44_0 false d0 (AlOk.nil _)) (hcs0 _) hvs w hI [.int .i64 (-1)] (csT (.lit .i64 (-1)) rfl cs_nil) (by kernel_rfl) (fun G => by kernel_rfl)
def t_rof45_0 : Tm := (.bin .gtr (.var .i64 0) (.lit .i64 0))
def t_rof45_1 : Tm := (.bin .leq (.var .i64 0) (.lit .i64 8))
def t_rof45_2 : Tm := (.bin .leq (.var .i64 0) (.lit .i64 16))
def t_rof45_3 : Tm := (.bin .leq (.var .i64 0) (.lit .i64 24))
def t_rof45_4 : Tm := (.bin .leq (.var .i64 0) (.lit .i64 32))
theorem rof45 (x0 : Int) (w : World) : Calls Try.prog 16 #[.int .i64 x0, .int .i64 35184372088832] w fun e w' => e = .returned (bundle (fillP [.one (.int .i64)] [ofZ x0 35184372088832])) ∧ Quiet w w' := by
  obtain ⟨S, hS⟩ : ∃ S : Sy, S = ⟨upd (fun _ => 0) [(0, x0)], fun _ _ => 0, [], fun _ h => by simp at h⟩ := ⟨_, rfl⟩
  have i0 : S.ρ 0 = x0 := by rw [hS]; rfl
  have hI : S.I = [] := by rw [hS]
  have hvs : ∀ G ι, VsOk S G ι [vv .i64 0, .int .i64 35184372088832] [.int .i64 x0, .int .i64 35184372088832] := fun G ι => (vs_sym i0 (vs_int vs_nil))
  subst i0
  by_cases c0 : (0 : Int) < S.ρ 0
  · have d0 : t_rof45_0.den S = some [b2i true] := tr (p := (0 : Int) < S.ρ 0) c0
    by_cases c1 : (8 : Int) < S.ρ 0
    · have d1 : t_rof45_1.den S = some [b2i false] := fls (p := S.ρ 0 ≤ (8 : Int)) (Int.not_le.2 c1)
      by_cases c2 : (16 : Int) < S.ρ 0
      · have d2 : t_rof45_2.den S = some [b2i false] := fls (p := S.ρ 0 ≤ (16 : Int)) (Int.not_le.2 c2)
        by_cases c3 : (24 : Int) < S.ρ 0
        · have d3 : t_rof45_3.den S = some [b2i false] := fls (p := S.ρ 0 ≤ (24 : Int)) (Int.not_le.2 c3)
          by_cases c4 : (32 : Int) < S.ρ 0
          · have d4 : t_rof45_4.den S = some [b2i false] := fls (p := S.ρ 0 ≤ (32 : Int)) (Int.not_le.2 c4)
            have r0 : ofZ (S.ρ 0) 35184372088832 = (-1 : Int) := by exact if_pos (Or.inr (by decide))
            rw [r0]
            exact symL env gok (ai t_rof45_4 false d4 (ai t_rof45_3 false d3 (ai t_rof45_2 false d2 (ai t_rof45_1 false d1 (ai t_rof45_0 true d0 (AlOk.nil _)))))) (hcs0 _) hvs w hI [.int .i64 (-1)] (csT (.lit .i64 (-1)) rfl cs_nil) (by kernel_rfl) (fun G => by kernel_rfl)
          · have d4 : t_rof45_4.den S = some [b2i true] := tr (p := S.ρ 0 ≤ (32 : Int)) (Int.not_lt.1 c4)
            have r0 : ofZ (S.ρ 0) 35184372088832 = (-1 : Int) := by exact if_pos (Or.inr (by decide))
            rw [r0]
            exact symL env gok (ai t_rof45_4 true d4 (ai t_rof45_3 false d3 (ai t_rof45_2 false d2 (ai t_rof45_1 false d1 (ai t_rof45_0 true d0 (AlOk.nil _)))))) (hcs0 _) hvs w hI [.int .i64 (-1)] (csT (.lit .i64 (-1)) rfl cs_nil) (by kernel_rfl) (fun G => by kernel_rfl)
        · have d3 : t_rof45_3.den S = some [b2i true] := tr (p := S.ρ 0 ≤ (24 : Int)) (Int.not_lt.1 c3)
          have c4 : ¬ ((32 : Int) < S.ρ 0) := by omega
          have d4 : t_rof45_4.den S = some [b2i true] := tr (p := S.ρ 0 ≤ (32 : Int)) (Int.not_lt.1 c4)
          have r0 : ofZ (S.ρ 0) 35184372088832 = (-1 : Int) := by exact if_pos (Or.inr (by decide))
          rw [r0]
          exact symL env gok (ai t_rof45_4 true d4 (ai t_rof45_3 true d3 (ai t_rof45_2 false d2 (ai t_rof45_1 false d1 (ai t_rof45_0 true d0 (AlOk.nil _)))))) (hcs0 _) hvs w hI [.int .i64 (-1)] (csT (.lit .i64 (-1)) rfl cs_nil) (by kernel_rfl) (fun G => by kernel_rfl)
      · have d2 : t_rof45_2.den S = some [b2i true] := tr (p := S.ρ 0 ≤ (16 : Int)) (Int.not_lt.1 c2)
        have c3 : ¬ ((24 : Int) < S.ρ 0) := by omega
        have d3 : t_rof45_3.den S = some [b2i true] := tr (p := S.ρ 0 ≤ (24 : Int)) (Int.not_lt.1 c3)
        have c4 : ¬ ((32 : Int) < S.ρ 0) := by omega
        have d4 : t_rof45_4.den S = some [b2i true] := tr (p := S.ρ 0 ≤ (32 : Int)) (Int.not_lt.1 c4)
        have r0 : ofZ (S.ρ 0) 35184372088832 = (-1 : Int) := by exact if_pos (Or.inr (by decide))
        rw [r0]
        exact symL env gok (ai t_rof45_4 true d4 (ai t_rof45_3 true d3 (ai t_rof45_2 true d2 (ai t_rof45_1 false d1 (ai t_rof45_0 true d0 (AlOk.nil _)))))) (hcs0 _) hvs w hI [.int .i64 (-1)] (csT (.lit .i64 (-1)) rfl cs_nil) (by kernel_rfl) (fun G => by kernel_rfl)
    · have d1 : t_rof45_1.den S = some [b2i true] := tr (p := S.ρ 0 ≤ (8 : Int)) (Int.not_lt.1 c1)
      have c2 : ¬ ((16 : Int) < S.ρ 0) := by omega
      have d2 : t_rof45_2.den S = some [b2i true] := tr (p := S.ρ 0 ≤ (16 : Int)) (Int.not_lt.1 c2)
      have c3 : ¬ ((24 : Int) < S.ρ 0) := by omega
      have d3 : t_rof45_3.den S = some [b2i true] := tr (p := S.ρ 0 ≤ (24 : Int)) (Int.not_lt.1 c3)
      have c4 : ¬ ((32 : Int) < S.ρ 0) := by omega
      have d4 : t_rof45_4.den S = some [b2i true] := tr (p := S.ρ 0 ≤ (32 : Int)) (Int.not_lt.1 c4)
      have r0 : ofZ (S.ρ 0) 35184372088832 = (-1 : Int) := by exact if_pos (Or.inr (by decide))
      rw [r0]
      exact symL env gok (ai t_rof45_4 true d4 (ai t_rof45_3 true d3 (ai t_rof45_2 true d2 (ai t_rof45_1 true d1 (ai t_rof45_0 true d0 (AlOk.nil _)))))) (hcs0 _) hvs w hI [.int .i64 (-1)] (csT (.lit .i64 (-1)) rfl cs_nil) (by kernel_rfl) (fun G => by kernel_rfl)
  · have d0 : t_rof45_0.den S = some [b2i false] := fls (p := (0 : Int) < S.ρ 0) c0
    have r0 : ofZ (S.ρ 0) 35184372088832 = (-1 : Int) := by exact if_pos (Or.inr (by decide))
    rw [r0]
    exact symL env gok (ai t_rof45_0 false d0 (AlOk.nil _)) (hcs0 _) hvs w hI [.int .i64 (-1)] (csT (.lit .i64 (-1)) rfl cs_nil) (by kernel_rfl) (fun G => by kernel_rfl)
def t_rof46_0 : Tm := (.bin .gtr (.var .i64 0) (.lit .i64 0))
def t_rof46_1 : Tm := (.bin .leq (.var .i64 0) (.lit .i64 8))
def t_rof46_2 : Tm := (.bin .leq (.var .i64 0) (.lit .i64 16))
def t_rof46_3 : Tm := (.bin .leq (.var .i64 0) (.lit .i64 24))
def t_rof46_4 : Tm := (.bin .leq (.var .i64 0) (.lit .i64 32))
theorem rof46 (x0 : Int) (w : World) : Calls Try.prog 16 #[.int .i64 x0, .int .i64 70368744177664] w fun e w' => e = .returned (bundle (fillP [.one (.int .i64)] [ofZ x0 70368744177664])) ∧ Quiet w w' := by
  obtain ⟨S, hS⟩ : ∃ S : Sy, S = ⟨upd (fun _ => 0) [(0, x0)], fun _ _ => 0, [], fun _ h => by simp at h⟩ := ⟨_, rfl⟩
  have i0 : S.ρ 0 = x0 := by rw [hS]; rfl
  have hI : S.I = [] := by rw [hS]
  have hvs : ∀ G ι, VsOk S G ι [vv .i64 0, .int .i64 70368744177664] [.int .i64 x0, .int .i64 70368744177664] := fun G ι => (vs_sym i0 (vs_int vs_nil))
  subst i0
  by_cases c0 : (0 : Int) < S.ρ 0
  · have d0 : t_rof46_0.den S = some [b2i true] := tr (p := (0 : Int) < S.ρ 0) c0
    by_cases c1 : (8 : Int) < S.ρ 0
    · have d1 : t_rof46_1.den S = some [b2i false] := fls (p := S.ρ 0 ≤ (8 : Int)) (Int.not_le.2 c1)
      by_cases c2 : (16 : Int) < S.ρ 0
      · have d2 : t_rof46_2.den S = some [b2i false] := fls (p := S.ρ 0 ≤ (16 : Int)) (Int.not_le.2 c2)
        by_cases c3 : (24 : Int) < S.ρ 0
        · have d3 : t_rof46_3.den S = some [b2i false] := fls (p := S.ρ 0 ≤ (24 : Int)) (Int.not_le.2 c3)
          by_cases c4 : (32 : Int) < S.ρ 0
          · have d4 : t_rof46_4.den S = some [b2i false] := fls (p := S.ρ 0 ≤ (32 : Int)) (Int.not_le.2 c4)
            have r0 : ofZ (S.ρ 0) 70368744177664 = (-1 : Int) := by exact if_pos (Or.inr (by decide))
            rw [r0]
            exact symL env gok (ai t_rof46_4 false d4 (ai t_rof46_3 false d3 (ai t_rof46_2 false d2 (ai t_rof46_1 false d1 (ai t_rof46_0 true d0 (AlOk.nil _)))))) (hcs0 _) hvs w hI [.int .i64 (-1)] (csT (.lit .i64 (-1)) rfl cs_nil) (by kernel_rfl) (fun G => by kernel_rfl)
          · have d4 : t_rof46_4.den S = some [b2i true] := tr (p := S.ρ 0 ≤ (32 : Int)) (Int.not_lt.1 c4)
            have r0 : ofZ (S.ρ 0) 70368744177664 = (-1 : Int) := by exact if_pos (Or.inr (by decide))
            rw [r0]
            exact symL env gok (ai t_rof46_4 true d4 (ai t_rof46_3 false d3 (ai t_rof46_2 false d2 (ai t_rof46_1 false d1 (ai t_rof46_0 true d0 (AlOk.nil _)))))) (hcs0 _) hvs w hI [.int .i64 (-1)] (csT (.lit .i64 (-1)) rfl cs_nil) (by kernel_rfl) (fun G => by kernel_rfl)
        · have d3 : t_rof46_3.den S = some [b2i true] := tr (p := S.ρ 0 ≤ (24 : Int)) (Int.not_lt.1 c3)
          have c4 : ¬ ((32 : Int) < S.ρ 0) := by omega
          have d4 : t_rof46_4.den S = some [b2i true] := tr (p := S.ρ 0 ≤ (32 : Int)) (Int.not_lt.1 c4)
          have r0 : ofZ (S.ρ 0) 70368744177664 = (-1 : Int) := by exact if_pos (Or.inr (by decide))
          rw [r0]
          exact symL env gok (ai t_rof46_4 true d4 (ai t_rof46_3 true d3 (ai t_rof46_2 false d2 (ai t_rof46_1 false d1 (ai t_rof46_0 true d0 (AlOk.nil _)))))) (hcs0 _) hvs w hI [.int .i64 (-1)] (csT (.lit .i64 (-1)) rfl cs_nil) (by kernel_rfl) (fun G => by kernel_rfl)
      · have d2 : t_rof46_2.den S = some [b2i true] := tr (p := S.ρ 0 ≤ (16 : Int)) (Int.not_lt.1 c2)
        have c3 : ¬ ((24 : Int) < S.ρ 0) := by omega
        have d3 : t_rof46_3.den S = some [b2i true] := tr (p := S.ρ 0 ≤ (24 : Int)) (Int.not_lt.1 c3)
        have c4 : ¬ ((32 : Int) < S.ρ 0) := by omega
        have d4 : t_rof46_4.den S = some [b2i true] := tr (p := S.ρ 0 ≤ (32 : Int)) (Int.not_lt.1 c4)
        have r0 : ofZ (S.ρ 0) 70368744177664 = (-1 : Int) := by exact if_pos (Or.inr (by decide))
        rw [r0]
        exact symL env gok (ai t_rof46_4 true d4 (ai t_rof46_3 true d3 (ai t_rof46_2 true d2 (ai t_rof46_1 false d1 (ai t_rof46_0 true d0 (AlOk.nil _)))))) (hcs0 _) hvs w hI [.int .i64 (-1)] (csT (.lit .i64 (-1)) rfl cs_nil) (by kernel_rfl) (fun G => by kernel_rfl)
    · have d1 : t_rof46_1.den S = some [b2i true] := tr (p := S.ρ 0 ≤ (8 : Int)) (Int.not_lt.1 c1)
      have c2 : ¬ ((16 : Int) < S.ρ 0) := by omega
      have d2 : t_rof46_2.den S = some [b2i true] := tr (p := S.ρ 0 ≤ (16 : Int)) (Int.not_lt.1 c2)
      have c3 : ¬ ((24 : Int) < S.ρ 0) := by omega
      have d3 : t_rof46_3.den S = some [b2i true] := tr (p := S.ρ 0 ≤ (24 : Int)) (Int.not_lt.1 c3)
      have c4 : ¬ ((32 : Int) < S.ρ 0) := by omega
      have d4 : t_rof46_4.den S = some [b2i true] := tr (p := S.ρ 0 ≤ (32 : Int)) (Int.not_lt.1 c4)
      have r0 : ofZ (S.ρ 0) 70368744177664 = (-1 : Int) := by exact if_pos (Or.inr (by decide))
      rw [r0]
      exact symL env gok (ai t_rof46_4 true d4 (ai t_rof46_3 true d3 (ai t_rof46_2 true d2 (ai t_rof46_1 true d1 (ai t_rof46_0 true d0 (AlOk.nil _)))))) (hcs0 _) hvs w hI [.int .i64 (-1)] (csT (.lit .i64 (-1)) rfl cs_nil) (by kernel_rfl) (fun G => by kernel_rfl)
  · have d0 : t_rof46_0.den S = some [b2i false] := fls (p := (0 : Int) < S.ρ 0) c0
    have r0 : ofZ (S.ρ 0) 70368744177664 = (-1 : Int) := by exact if_pos (Or.inr (by decide))
    rw [r0]
    exact symL env gok (ai t_rof46_0 false d0 (AlOk.nil _)) (hcs0 _) hvs w hI [.int .i64 (-1)] (csT (.lit .i64 (-1)) rfl cs_nil) (by kernel_rfl) (fun G => by kernel_rfl)
def t_rof47_0 : Tm := (.bin .gtr (.var .i64 0) (.lit .i64 0))
def t_rof47_1 : Tm := (.bin .leq (.var .i64 0) (.lit .i64 8))
def t_rof47_2 : Tm := (.bin .leq (.var .i64 0) (.lit .i64 16))
def t_rof47_3 : Tm := (.bin .leq (.var .i64 0) (.lit .i64 24))
def t_rof47_4 : Tm := (.bin .leq (.var .i64 0) (.lit .i64 32))
theorem rof47 (x0 : Int) (w : World) : Calls Try.prog 16 #[.int .i64 x0, .int .i64 140737488355328] w fun e w' => e = .returned (bundle (fillP [.one (.int .i64)] [ofZ x0 140737488355328])) ∧ Quiet w w' := by
  obtain ⟨S, hS⟩ : ∃ S : Sy, S = ⟨upd (fun _ => 0) [(0, x0)], fun _ _ => 0, [], fun _ h => by simp at h⟩ := ⟨_, rfl⟩
  have i0 : S.ρ 0 = x0 := by rw [hS]; rfl
  have hI : S.I = [] := by rw [hS]
  have hvs : ∀ G ι, VsOk S G ι [vv .i64 0, .int .i64 140737488355328] [.int .i64 x0, .int .i64 140737488355328] := fun G ι => (vs_sym i0 (vs_int vs_nil))
  subst i0
  by_cases c0 : (0 : Int) < S.ρ 0
  · have d0 : t_rof47_0.den S = some [b2i true] := tr (p := (0 : Int) < S.ρ 0) c0
    by_cases c1 : (8 : Int) < S.ρ 0
    · have d1 : t_rof47_1.den S = some [b2i false] := fls (p := S.ρ 0 ≤ (8 : Int)) (Int.not_le.2 c1)
      by_cases c2 : (16 : Int) < S.ρ 0
      · have d2 : t_rof47_2.den S = some [b2i false] := fls (p := S.ρ 0 ≤ (16 : Int)) (Int.not_le.2 c2)
        by_cases c3 : (24 : Int) < S.ρ 0
        · have d3 : t_rof47_3.den S = some [b2i false] := fls (p := S.ρ 0 ≤ (24 : Int)) (Int.not_le.2 c3)
          by_cases c4 : (32 : Int) < S.ρ 0
          · have d4 : t_rof47_4.den S = some [b2i false] := fls (p := S.ρ 0 ≤ (32 : Int)) (Int.not_le.2 c4)
            have r0 : ofZ (S.ρ 0) 140737488355328 = (-1 : Int) := by exact if_pos (Or.inr (by decide))
            rw [r0]
            exact symL env gok (ai t_rof47_4 false d4 (ai t_rof47_3 false d3 (ai t_rof47_2 false d2 (ai t_rof47_1 false d1 (ai t_rof47_0 true d0 (AlOk.nil _)))))) (hcs0 _) hvs w hI [.int .i64 (-1)] (csT (.lit .i64 (-1)) rfl cs_nil) (by kernel_rfl) (fun G => by kernel_rfl)
          · have d4 : t_rof47_4.den S = some [b2i true] := tr (p := S.ρ 0 ≤ (32 : Int)) (Int.not_lt.1 c4)
            have r0 : ofZ (S.ρ 0) 140737488355328 = (-1 : Int) := by exact if_pos (Or.inr (by decide))
            rw [r0]
            exact symL env gok (ai t_rof47_4 true d4 (ai t_rof47_3 false d3 (ai t_rof47_2 false d2 (ai t_rof47_1 false d1 (ai t_rof47_0 true d0 (AlOk.nil _)))))) (hcs0 _) hvs w hI [.int .i64 (-1)] (csT (.lit .i64 (-1)) rfl cs_nil) (by kernel_rfl) (fun G => by kernel_rfl)
        · have d3 : t_rof47_3.den S = some [b2i true] := tr (p := S.ρ 0 ≤ (24 : Int)) (Int.not_lt.1 c3)
          have c4 : ¬ ((32 : Int) < S.ρ 0) := by omega
          have d4 : t_rof47_4.den S = some [b2i true] := tr (p := S.ρ 0 ≤ (32 : Int)) (Int.not_lt.1 c4)
          have r0 : ofZ (S.ρ 0) 140737488355328 = (-1 : Int) := by exact if_pos (Or.inr (by decide))
          rw [r0]
          exact symL env gok (ai t_rof47_4 true d4 (ai t_rof47_3 true d3 (ai t_rof47_2 false d2 (ai t_rof47_1 false d1 (ai t_rof47_0 true d0 (AlOk.nil _)))))) (hcs0 _) hvs w hI [.int .i64 (-1)] (csT (.lit .i64 (-1)) rfl cs_nil) (by kernel_rfl) (fun G => by kernel_rfl)
      · have d2 : t_rof47_2.den S = some [b2i true] := tr (p := S.ρ 0 ≤ (16 : Int)) (Int.not_lt.1 c2)
        have c3 : ¬ ((24 : Int) < S.ρ 0) := by omega
        have d3 : t_rof47_3.den S = some [b2i true] := tr (p := S.ρ 0 ≤ (24 : Int)) (Int.not_lt.1 c3)
        have c4 : ¬ ((32 : Int) < S.ρ 0) := by omega
        have d4 : t_rof47_4.den S = some [b2i true] := tr (p := S.ρ 0 ≤ (32 : Int)) (Int.not_lt.1 c4)
        have r0 : ofZ (S.ρ 0) 140737488355328 = (-1 : Int) := by exact if_pos (Or.inr (by decide))
        rw [r0]
        exact symL env gok (ai t_rof47_4 true d4 (ai t_rof47_3 true d3 (ai t_rof47_2 true d2 (ai t_rof47_1 false d1 (ai t_rof47_0 true d0 (AlOk.nil _)))))) (hcs0 _) hvs w hI [.int .i64 (-1)] (csT (.lit .i64 (-1)) rfl cs_nil) (by kernel_rfl) (fun G => by kernel_rfl)
    · have d1 : t_rof47_1.den S = some [b2i true] := tr (p := S.ρ 0 ≤ (8 : Int)) (Int.not_lt.1 c1)
      have c2 : ¬ ((16 : Int) < S.ρ 0) := by omega
      have d2 : t_rof47_2.den S = some [b2i true] := tr (p := S.ρ 0 ≤ (16 : Int)) (Int.not_lt.1 c2)
      have c3 : ¬ ((24 : Int) < S.ρ 0) := by omega
      have d3 : t_rof47_3.den S = some [b2i true] := tr (p := S.ρ 0 ≤ (24 : Int)) (Int.not_lt.1 c3)
      have c4 : ¬ ((32 : Int) < S.ρ 0) := by omega
      have d4 : t_rof47_4.den S = some [b2i true] := tr (p := S.ρ 0 ≤ (32 : Int)) (Int.not_lt.1 c4)
      have r0 : ofZ (S.ρ 0) 140737488355328 = (-1 : Int) := by exact if_pos (Or.inr (by decide))
      rw [r0]
      exact symL env gok (ai t_rof47_4 true d4 (ai t_rof47_3 true d3 (ai t_rof47_2 true d2 (ai t_rof47_1 true d1 (ai t_rof47_0 true d0 (AlOk.nil _)))))) (hcs0 _) hvs w hI [.int .i64 (-1)] (csT (.lit .i64 (-1)) rfl cs_nil) (by kernel_rfl) (fun G => by kernel_rfl)
  · have d0 : t_rof47_0.den S = some [b2i false] := fls (p := (0 : Int) < S.ρ 0) c0
    have r0 : ofZ (S.ρ 0) 140737488355328 = (-1 : Int) := by exact if_pos (Or.inr (by decide))
    rw [r0]
    exact symL env gok (ai t_rof47_0 false d0 (AlOk.nil _)) (hcs0 _) hvs w hI [.int .i64 (-1)] (csT (.lit .i64 (-1)) rfl cs_nil) (by kernel_rfl) (fun G => by kernel_rfl)
def t_rof48_0 : Tm := (.bin .gtr (.var .i64 0) (.lit .i64 0))
def t_rof48_1 : Tm := (.bin .leq (.var .i64 0) (.lit .i64 8))
def t_rof48_2 : Tm := (.bin .leq (.var .i64 0) (.lit .i64 16))
def t_rof48_3 : Tm := (.bin .leq (.var .i64 0) (.lit .i64 24))
def t_rof48_4 : Tm := (.bin .leq (.var .i64 0) (.lit .i64 32))
theorem rof48 (x0 : Int) (w : World) : Calls Try.prog 16 #[.int .i64 x0, .int .i64 281474976710656] w fun e w' => e = .returned (bundle (fillP [.one (.int .i64)] [ofZ x0 281474976710656])) ∧ Quiet w w' := by
  obtain ⟨S, hS⟩ : ∃ S : Sy, S = ⟨upd (fun _ => 0) [(0, x0)], fun _ _ => 0, [], fun _ h => by simp at h⟩ := ⟨_, rfl⟩
  have i0 : S.ρ 0 = x0 := by rw [hS]; rfl
  have hI : S.I = [] := by rw [hS]
  have hvs : ∀ G ι, VsOk S G ι [vv .i64 0, .int .i64 281474976710656] [.int .i64 x0, .int .i64 281474976710656] := fun G ι => (vs_sym i0 (vs_int vs_nil))
  subst i0
  by_cases c0 : (0 : Int) < S.ρ 0
  · have d0 : t_rof48_0.den S = some [b2i true] := tr (p := (0 : Int) < S.ρ 0) c0
    by_cases c1 : (8 : Int) < S.ρ 0
    · have d1 : t_rof48_1.den S = some [b2i false] := fls (p := S.ρ 0 ≤ (8 : Int)) (Int.not_le.2 c1)
      by_cases c2 : (16 : Int) < S.ρ 0
      · have d2 : t_rof48_2.den S = some [b2i false] := fls (p := S.ρ 0 ≤ (16 : Int)) (Int.not_le.2 c2)
        by_cases c3 : (24 : Int) < S.ρ 0
        · have d3 : t_rof48_3.den S = some [b2i false] := fls (p := S.ρ 0 ≤ (24 : Int)) (Int.not_le.2 c3)
          by_cases c4 : (32 : Int) < S.ρ 0
          · have d4 : t_rof48_4.den S = some [b2i false] := fls (p := S.ρ 0 ≤ (32 : Int)) (Int.not_le.2 c4)
            have r0 : ofZ (S.ρ 0) 281474976710656 = (-1 : Int) := by exact if_pos (Or.inr (by decide))
            rw [r0]
            exact symL env gok (ai t_rof48_4 false d4 (ai t_rof48_3 false d3 (ai t_rof48_2 false d2 (ai t_rof48_1 false d1 (ai t_rof48_0 true d0 (AlOk.nil _)))))) (hcs0 _) hvs w hI [.int .i64 (-1)] (csT (.lit .i64 (-1)) rfl cs_nil) (by kernel_rfl) (fun G => by kernel_rfl)
          · have d4 : t_rof48_4.den S = some [b2i true] := tr (p := S.ρ 0 ≤ (32 : Int)) (Int.not_lt.1 c4)
            have r0 : ofZ (S.ρ 0) 281474976710656 = (-1 : Int) := by exact if_pos (Or.inr (by decide))
            rw [r0]
            exact symL env gok (ai t_rof48_4 true d4 (ai t_rof48_3 false d3 (ai t_rof48_2 false d2 (ai t_rof48_1 false d1 (ai t_rof48_0 true d0 (AlOk.nil _)))))) (hcs0 _) hvs w hI [.int .i64 (-1)] (csT (.lit .i64 (-1)) rfl cs_nil) (by kernel_rfl) (fun G => by kernel_rfl)
        · have d3 : t_rof48_3.den S = some [b2i true] := tr (p := S.ρ 0 ≤ (24 : Int)) (Int.not_lt.1 c3)
          have c4 : ¬ ((32 : Int) < S.ρ 0) := by omega
          have d4 : t_rof48_4.den S = some [b2i true] := tr (p := S.ρ 0 ≤ (32 : Int)) (Int.not_lt.1 c4)
          have r0 : ofZ (S.ρ 0) 281474976710656 = (-1 : Int) := by exact if_pos (Or.inr (by decide))
          rw [r0]
          exact symL env gok (ai t_rof48_4 true d4 (ai t_rof48_3 true d3 (ai t_rof48_2 false d2 (ai t_rof48_1 false d1 (ai t_rof48_0 true d0 (AlOk.nil _)))))) (hcs0 _) hvs w hI [.int .i64 (-1)] (csT (.lit .i64 (-1)) rfl cs_nil) (by kernel_rfl) (fun G => by kernel_rfl)
      · have d2 : t_rof48_2.den S = some [b2i true] := tr (p := S.ρ 0 ≤ (16 : Int)) (Int.not_lt.1 c2)
        have c3 : ¬ ((24 : Int) < S.ρ 0) := by omega
        have d3 : t_rof48_3.den S = some [b2i true] := tr (p := S.ρ 0 ≤ (24 : Int)) (Int.not_lt.1 c3)
        have c4 : ¬ ((32 : Int) < S.ρ 0) := by omega
        have d4 : t_rof48_4.den S = some [b2i true] := tr (p := S.ρ 0 ≤ (32 : Int)) (Int.not_lt.1 c4)
        have r0 : ofZ (S.ρ 0) 281474976710656 = (-1 : Int) := by exact if_pos (Or.inr (by decide))
        rw [r0]
        exact symL env gok (ai t_rof48_4 true d4 (ai t_rof48_3 true d3 (ai t_rof48_2 true d2 (ai t_rof48_1 false d1 (ai t_rof48_0 true d0 (AlOk.nil _)))))) (hcs0 _) hvs w hI [.int .i64 (-1)] (csT (.lit .i64 (-1)) rfl cs_nil) (by kernel_rfl) (fun G => by kernel_rfl)
    · have d1 : t_rof48_1.den S = some [b2i true] := tr (p := S.ρ 0 ≤ (8 : Int)) (Int.not_lt.1 c1)
      have c2 : ¬ ((16 : Int) < S.ρ 0) := by omega
      have d2 : t_rof48_2.den S = some [b2i true] := tr (p := S.ρ 0 ≤ (16 : Int)) (Int.not_lt.1 c2)
      have c3 : ¬ ((24 : Int) < S.ρ 0) := by omega
      have d3 : t_rof48_3.den S = some [b2i true] := tr (p := S.ρ 0 ≤ (24 : Int)) (Int.not_lt.1 c3)
      have c4 : ¬ ((32 : Int) < S.ρ 0) := by omega
      have d4 : t_rof48_4.den S = some [b2i true] := tr (p := S.ρ 0 ≤ (32 : Int)) (Int.not_lt.1 c4)
      have r0 : ofZ (S.ρ 0) 281474976710656 = (-1 : Int) := by exact if_pos (Or.inr (by decide))
      rw [r0]
      exact symL env gok (ai t_rof48_4 true d4 (ai t_rof48_3 true d3 (ai t_rof48_2 true d2 (ai t_rof48_1 true d1 (ai t_rof48_0 true d0 (AlOk.nil _)))))) (hcs0 _) hvs w hI [.int .i64 (-1)] (csT (.lit .i64 (-1)) rfl cs_nil) (by kernel_rfl) (fun G => by kernel_rfl)
  · have d0 : t_rof48_0.den S = some [b2i false] := fls (p := (0 : Int) < S.ρ 0) c0
    have r0 : ofZ (S.ρ 0) 281474976710656 = (-1 : Int) := by exact if_pos (Or.inr (by decide))
    rw [r0]
    exact symL env gok (ai t_rof48_0 false d0 (AlOk.nil _)) (hcs0 _) hvs w hI [.int .i64 (-1)] (csT (.lit .i64 (-1)) rfl cs_nil) (by kernel_rfl) (fun G => by kernel_rfl)
def t_rof49_0 : Tm := (.bin .gtr (.var .i64 0) (.lit .i64 0))
def t_rof49_1 : Tm := (.bin .leq (.var .i64 0) (.lit .i64 8))
def t_rof49_2 : Tm := (.bin .leq (.var .i64 0) (.lit .i64 16))
def t_rof49_3 : Tm := (.bin .leq (.var .i64 0) (.lit .i64 24))
def t_rof49_4 : Tm := (.bin .leq (.var .i64 0) (.lit .i64 32))
theorem rof49 (x0 : Int) (w : World) : Calls Try.prog 16 #[.int .i64 x0, .int .i64 562949953421312] w fun e w' => e = .returned (bundle (fillP [.one (.int .i64)] [ofZ x0 562949953421312])) ∧ Quiet w w' := by
  obtain ⟨S, hS⟩ : ∃ S : Sy, S = ⟨upd (fun _ => 0) [(0, x0)], fun _ _ => 0, [], fun _ h => by simp at h⟩ := ⟨_, rfl⟩
  have i0 : S.ρ 0 = x0 := by rw [hS]; rfl
  have hI : S.I = [] := by rw [hS]
  have hvs : ∀ G ι, VsOk S G ι [vv .i64 0, .int .i64 562949953421312] [.int .i64 x0, .int .i64 562949953421312] := fun G ι => (vs_sym i0 (vs_int vs_nil))
  subst i0
  by_cases c0 : (0 : Int) < S.ρ 0
  · have d0 : t_rof49_0.den S = some [b2i true] := tr (p := (0 : Int) < S.ρ 0) c0
    by_cases c1 : (8 : Int) < S.ρ 0
    · have d1 : t_rof49_1.den S = some [b2i false] := fls (p := S.ρ 0 ≤ (8 : Int)) (Int.not_le.2 c1)
      by_cases c2 : (16 : Int) < S.ρ 0
      · have d2 : t_rof49_2.den S = some [b2i false] := fls (p := S.ρ 0 ≤ (16 : Int)) (Int.not_le.2 c2)
        by_cases c3 : (24 : Int) < S.ρ 0
        · have d3 : t_rof49_3.den S = some [b2i false] := fls (p := S.ρ 0 ≤ (24 : Int)) (Int.not_le.2 c3)
          by_cases c4 : (32 : Int) < S.ρ 0
          · have d4 : t_rof49_4.den S = some [b2i false] := fls (p := S.ρ 0 ≤ (32 : Int)) (Int.not_le.2 c4)
            have r0 : ofZ (S.ρ 0) 562949953421312 = (-1 : Int) := by exact if_pos (Or.inr (by decide))
            rw [r0]
            exact symL env gok (ai t_rof49_4 false d4 (ai t_rof49_3 false d3 (ai t_rof49_2 false d2 (ai t_rof49_1 false d1 (ai t_rof49_0 true d0 (AlOk.nil _)))))) (hcs0 _) hvs w hI [.int .i64 (-1)] (csT (.lit .i64 (-1)) rfl cs_nil) (by kernel_rfl) (fun G => by kernel_rfl)
          · have d4 : t_rof49_4.den S = some [b2i true] := tr (p := S.ρ 0 ≤ (32 : Int)) (Int.not_lt.1 c4)
            have r0 : ofZ (S.ρ 0) 562949953421312 = (-1 : Int) := by exact if_pos (Or.inr (by decide))
            rw [r0]
            exact symL env gok (ai t_rof49_4 true d4 (ai t_rof49_3 false d3 (ai t_rof49_2 false d2 (ai t_rof49_1 false d1 (ai t_rof49_0 true d0 (AlOk.nil _)))))) (hcs0 _) hvs w hI [.int .i64 (-1)] (csT (.lit .i64 (-1)) rfl cs_nil) (by kernel_rfl) (fun G => by kernel_rfl)
        · have d3 : t_rof49_3.den S = some [b2i true] := tr (p := S.ρ 0 ≤ (24 : Int)) (Int.not_lt.1 c3)
          have c4 : ¬ ((32 : Int) < S.ρ 0) := by omega
          have d4 : t_rof49_4.den S = some [b2i true] := tr (p := S.ρ 0 ≤ (32 : Int)) (Int.not_lt.1 c4)
          have r0 : ofZ (S.ρ 0) 562949953421312 = (-1 : Int) := by exact if_pos (Or.inr (by decide))
          rw [r0]
          exact symL env gok (ai t_rof49_4 true d4 (ai t_rof49_3 true d3 (ai t_rof49_2 false d2 (ai t_rof49_1 false d1 (ai t_rof49_0 true d0 (AlOk.nil _)))))) (hcs0 _) hvs w hI [.int .i64 (-1)] (csT (.lit .i64 (-1)) rfl cs_nil) (by kernel_rfl) (fun G => by kernel_rfl)
      · have d2 : t_rof49_2.den S = some [b2i true] := tr (p := S.ρ 0 ≤ (16 : Int)) (Int.not_lt.1 c2)
        have c3 : ¬ ((24 : Int) < S.ρ 0) := by omega
        have d3 : t_rof49_3.den S = some [b2i true] := tr (p := S.ρ 0 ≤ (24 : Int)) (Int.not_lt.1 c3)
        have c4 : ¬ ((32 : Int) < S.ρ 0) := by omega
        have d4 : t_rof49_4.den S = some [b2i true] := tr (p := S.ρ 0 ≤ (32 : Int)) (Int.not_lt.1 c4)
        have r0 : ofZ (S.ρ 0) 562949953421312 = (-1 : Int) := by exact if_pos (Or.inr (by decide))
        rw [r0]
        exact symL env gok (ai t_rof49_4 true d4 (ai t_rof49_3 true d3 (ai t_rof49_2 true d2 (ai t_rof49_1 false d1 (ai t_rof49_0 true d0 (AlOk.nil _)))))) (hcs0 _) hvs w hI [.int .i64 (-1)] (csT (.lit .i64 (-1)) rfl cs_nil) (by kernel_rfl) (fun G => by kernel_rfl)
    · have d1 : t_rof49_1.den S = some [b2i true] := tr (p := S.ρ 0 ≤ (8 : Int)) (Int.not_lt.1 c1)
      have c2 : ¬ ((16 : Int) < S.ρ 0) := by omega
      have d2 : t_rof49_2.den S = some [b2i true] := tr (p := S.ρ 0 ≤ (16 : Int)) (Int.not_lt.1 c2)
      have c3 : ¬ ((24 : Int) < S.ρ 0) := by omega
      have d3 : t_rof49_3.den S = some [b2i true] := tr (p := S.ρ 0 ≤ (24 : Int)) (Int.not_lt.1 c3)
      have c4 : ¬ ((32 : Int) < S.ρ 0) := by omega
      have d4 : t_rof49_4.den S = some [b2i true] := tr (p := S.ρ 0 ≤ (32 : Int)) (Int.not_lt.1 c4)
      have r0 : ofZ (S.ρ 0) 562949953421312 = (-1 : Int) := by exact if_pos (Or.inr (by decide))
      rw [r0]
      exact symL env gok (ai t_rof49_4 true d4 (ai t_rof49_3 true d3 (ai t_rof49_2 true d2 (ai t_rof49_1 true d1 (ai t_rof49_0 true d0 (AlOk.nil _)))))) (hcs0 _) hvs w hI [.int .i64 (-1)] (csT (.lit .i64 (-1)) rfl cs_nil) (by kernel_rfl) (fun G => by kernel_rfl)
  · have d0 : t_rof49_0.den S = some [b2i false] := fls (p := (0 : Int) < S.ρ 0) c0
    have r0 : ofZ (S.ρ 0) 562949953421312 = (-1 : Int) := by exact if_pos (Or.inr (by decide))
    rw [r0]
    exact symL env gok (ai t_rof49_0 false d0 (AlOk.nil _)) (hcs0 _) hvs w hI [.int .i64 (-1)] (csT (.lit .i64 (-1)) rfl cs_nil) (by kernel_rfl) (fun G => by kernel_rfl)
def t_rof50_0 : Tm := (.bin .gtr (.var .i64 0) (.lit .i64 0))
def t_rof50_1 : Tm := (.bin .leq (.var .i64 0) (.lit .i64 8))
def t_rof50_2 : Tm := (.bin .leq (.var .i64 0) (.lit .i64 16))
def t_rof50_3 : Tm := (.bin .leq (.var .i64 0) (.lit .i64 24))
def t_rof50_4 : Tm := (.bin .leq (.var .i64 0) (.lit .i64 32))
theorem rof50 (x0 : Int) (w : World) : Calls Try.prog 16 #[.int .i64 x0, .int .i64 1125899906842624] w fun e w' => e = .returned (bundle (fillP [.one (.int .i64)] [ofZ x0 1125899906842624])) ∧ Quiet w w' := by
  obtain ⟨S, hS⟩ : ∃ S : Sy, S = ⟨upd (fun _ => 0) [(0, x0)], fun _ _ => 0, [], fun _ h => by simp at h⟩ := ⟨_, rfl⟩
  have i0 : S.ρ 0 = x0 := by rw [hS]; rfl
  have hI : S.I = [] := by rw [hS]
  have hvs : ∀ G ι, VsOk S G ι [vv .i64 0, .int .i64 1125899906842624] [.int .i64 x0, .int .i64 1125899906842624] := fun G ι => (vs_sym i0 (vs_int vs_nil))
  subst i0
  by_cases c0 : (0 : Int) < S.ρ 0
  · have d0 : t_rof50_0.den S = some [b2i true] := tr (p := (0 : Int) < S.ρ 0) c0
    by_cases c1 : (8 : Int) < S.ρ 0
    · have d1 : t_rof50_1.den S = some [b2i false] := fls (p := S.ρ 0 ≤ (8 : Int)) (Int.not_le.2 c1)
      by_cases c2 : (16 : Int) < S.ρ 0
      · have d2 : t_rof50_2.den S = some [b2i false] := fls (p := S.ρ 0 ≤ (16 : Int)) (Int.not_le.2 c2)
        by_cases c3 : (24 : Int) < S.ρ 0
        · have d3 : t_rof50_3.den S = some [b2i false] := fls (p := S.ρ 0 ≤ (24 : Int)) (Int.not_le.2 c3)
          by_cases c4 : (32 : Int) < S.ρ 0
          · have d4 : t_rof50_4.den S = some [b2i false] := fls (p := S.ρ 0 ≤ (32 : Int)) (Int.not_le.2 c4)
            have r0 : ofZ (S.ρ 0) 1125899906842624 = (-1 : Int) := by exact if_pos (Or.inr (by decide))
            rw [r0]
            exact symL env gok (ai t_rof50_4 false d4 (ai t_rof50_3 false d3 (ai t_rof50_2 false d2 (ai t_rof50_1 false d1 (ai t_rof50_0 true d0 (AlOk.nil _)))))) (hcs0 _) hvs w hI [.int .i64 (-1)] (csT (.lit .i64 (-1)) rfl cs_nil) (by kernel_rfl) (fun G => by kernel_rfl)
          · have d4 : t_rof50_4.den S = some [b2i true] := tr (p := S.ρ 0 ≤ (32 : Int)) (Int.not_lt.1 c4)
            have r0 : ofZ (S.ρ 0) 1125899906842624 = (-1 : Int) := by exact if_pos (Or.inr (by decide))
            rw [r0]
            exact symL env gok (ai t_rof50_4 true d4 (ai t_rof50_3 false d3 (ai t_rof50_2 false d2 (ai t_rof50_1 false d1 (ai t_rof50_0 true d0 (AlOk.nil _)))))) (hcs0 _) hvs w hI [.int .i64 (-1)] (csT (.lit .i64 (-1)) rfl cs_nil) (by kernel_rfl) (fun G => by kernel_rfl)
        · have d3 : t_rof50_3.den S = some [b2i true] := tr (p := S.ρ 0 ≤ (24 : Int)) (Int.not_lt.1 c3)
          have c4 : ¬ ((32 : Int) < S.ρ 0) := by omega
          have d4 : t_rof50_4.den S = some [b2i true] := tr (p := S.ρ 0 ≤ (32 : Int)) (Int.not_lt.1 c4)
          have r0 : ofZ (S.ρ 0) 1125899906842624 = (-1 : Int) := by exact if_pos (Or.inr (by decide))
          rw [r0]
          exact symL env gok (ai t_rof50_4 true d4 (ai t_rof50_3 true d3 (ai t_rof50_2 false d2 (ai t_rof50_1 false d1 (ai t_rof50_0 true d0 (AlOk.nil _)))))) (hcs0 _) hvs w hI [.int .i64 (-1)] (csT (.lit .i64 (-1)) rfl cs_nil) (by kernel_rfl) (fun G => by kernel_rfl)
      · have d2 : t_rof50_2.den S = some [b2i true] := tr (p := S.ρ 0 ≤ (16 : Int)) (Int.not_lt.1 c2)
        have c3 : ¬ ((24 : Int) < S.ρ 0) := by omega
        have d3 : t_rof50_3.den S = some [b2i true] := tr (p := S.ρ 0 ≤ (24 : Int)) (Int.not_lt.1 c3)
        have c4 : ¬ ((32 : Int) < S.ρ 0) := by omega
        have d4 : t_rof50_4.den S = some [b2i true] := tr (p := S.ρ 0 ≤ (32 : Int)) (Int.not_lt.1 c4)
        have r0 : ofZ (S.ρ 0) 1125899906842624 = (-1 : Int) := by exact if_pos (Or.inr (by decide))
        rw [r0]
        exact symL env gok (ai t_rof50_4 true d4 (ai t_rof50_3 true d3 (ai t_rof50_2 true d2 (ai t_rof50_1 false d1 (ai t_rof50_0 true d0 (AlOk.nil _)))))) (hcs0 _) hvs w hI [.int .i64 (-1)] (csT (.lit .i64 (-1)) rfl cs_nil) (by kernel_rfl) (fun G => by kernel_rfl)
    · have d1 : t_rof50_1.den S = some [b2i true] := tr (p := S.ρ 0 ≤ (8 : Int)) (Int.not_lt.1 c1)
      have c2 : ¬ ((16 : Int) < S.ρ 0) := by omega
      have d2 : t_rof50_2.den S = some [b2i true] := tr (p := S.ρ 0 ≤ (16 : Int)) (Int.not_lt.1 c2)
      have c3 : ¬ ((24 : Int) < S.ρ 0) := by omega
      have d3 : t_rof50_3.den S = some [b2i true] := tr (p := S.ρ 0 ≤ (24 : Int)) (Int.not_lt.1 c3)
      have c4 : ¬ ((32 : Int) < S.ρ 0) := by omega
      have d4 : t_rof50_4.den S = some [b2i true] := tr (p := S.ρ 0 ≤ (32 : Int)) (Int.not_lt.1 c4)
      have r0 : ofZ (S.ρ 0) 1125899906842624 = (-1 : Int) := by exact if_pos (Or.inr (by decide))
      rw [r0]
      exact symL env gok (ai t_rof50_4 true d4 (ai t_rof50_3 true d3 (ai t_rof50_2 true d2 (ai t_rof50_1 true d1 (ai t_rof50_0 true d0 (AlOk.nil _)))))) (hcs0 _) hvs w hI [.int .i64 (-1)] (csT (.lit .i64 (-1)) rfl cs_nil) (by kernel_rfl) (fun G => by kernel_rfl)
  · have d0 : t_rof50_0.den S = some [b2i false] := fls (p := (0 : Int) < S.ρ 0) c0
    have r0 : ofZ (S.ρ 0) 1125899906842624 = (-1 : Int) := by exact if_pos (Or.inr (by decide))
    rw [r0]
    exact symL env gok (ai t_rof50_0 false d0 (AlOk.nil _)) (hcs0 _) hvs w hI [.int .i64 (-1)] (csT (.lit .i64 (-1)) rfl cs_nil) (by kernel_rfl) (fun G => by kernel_rfl)
def t_rof51_0 : Tm := (.bin .gtr (.var .i64 0) (.lit .i64 0))
def t_rof51_1 : Tm := (.bin .leq (.var .i64 0) (.lit .i64 8))
def t_rof51_2 : Tm := (.bin .leq (.var .i64 0) (.lit .i64 16))
def t_rof51_3 : Tm := (.bin .leq (.var .i64 0) (.lit .i64 24))
def t_rof51_4 : Tm := (.bin .leq (.var .i64 0) (.lit .i64 32))
theorem rof51 (x0 : Int) (w : World) : Calls Try.prog 16 #[.int .i64 x0, .int .i64 2251799813685248] w fun e w' => e = .returned (bundle (fillP [.one (.int .i64)] [ofZ x0 2251799813685248])) ∧ Quiet w w' := by
  obtain ⟨S, hS⟩ : ∃ S : Sy, S = ⟨upd (fun _ => 0) [(0, x0)], fun _ _ => 0, [], fun _ h => by simp at h⟩ := ⟨_, rfl⟩
  have i0 : S.ρ 0 = x0 := by rw [hS]; rfl
  have hI : S.I = [] := by rw [hS]
  have hvs : ∀ G ι, VsOk S G ι [vv .i64 0, .int .i64 2251799813685248] [.int .i64 x0, .int .i64 2251799813685248] := fun G ι => (vs_sym i0 (vs_int vs_nil))
  subst i0
  by_cases c0 : (0 : Int) < S.ρ 0
  · have d0 : t_rof51_0.den S = some [b2i true] := tr (p := (0 : Int) < S.ρ 0) c0
    by_cases c1 : (8 : Int) < S.ρ 0
    · have d1 : t_rof51_1.den S = some [b2i false] := fls (p := S.ρ 0 ≤ (8 : Int)) (Int.not_le.2 c1)
      by_cases c2 : (16 : Int) < S.ρ 0
      · have d2 : t_rof51_2.den S = some [b2i false] := fls (p := S.ρ 0 ≤ (16 : Int)) (Int.not_le.2 c2)
        by_cases c3 : (24 : Int) < S.ρ 0
        · have d3 : t_rof51_3.den S = some [b2i false] := fls (p := S.ρ 0 ≤ (24 : Int)) (Int.not_le.2 c3)
          by_cases c4 : (32 : Int) < S.ρ 0
          · have d4 : t_rof51_4.den S = some [b2i false] := fls (p := S.ρ 0 ≤ (32 : Int)) (Int.not_le.2 c4)
            have r0 : ofZ (S.ρ 0) 2251799813685248 = (-1 : Int) := by exact if_pos (Or.inr (by decide))
            rw [r0]
            exact symL env gok (ai t_rof51_4 false d4 (ai t_rof51_3 false d3 (ai t_rof51_2 false d2 (ai t_rof51_1 false d1 (ai t_rof51_0 true d0 (AlOk.nil _)))))) (hcs0 _) hvs w hI [.int .i64 (-1)] (csT (.lit .i64 (-1)) rfl cs_nil) (by kernel_rfl) (fun G => by kernel_rfl)
          · have d4 : t_rof51_4.den S = some [b2i true] := tr (p := S.ρ 0 ≤ (32 : Int)) (Int.not_lt.1 c4)
            have r0 : ofZ (S.ρ 0) 2251799813685248 = (-1 : Int) := by exact if_pos (Or.inr (by decide))
            rw [r0]
            exact symL env gok (ai t_rof51_4 true d4 (ai t_rof51_3 false d3 (ai t_rof51_2 false d2 (ai t_rof51_1 false d1 (ai t_rof51_0 true d0 (AlOk.nil _)))))) (hcs0 _) hvs w hI [.int .i64 (-1)] (csT (.lit .i64 (-1)) rfl cs_nil) (by kernel_rfl) (fun G => by kernel_rfl)
        · have d3 : t_rof51_3.den S = some [b2i true] := tr (p := S.ρ 0 ≤ (24 : Int)) (Int.not_lt.1 c3)
          have c4 : ¬ ((32 : Int) < S.ρ 0) := by omega
          have d4 : t_rof51_4.den S = some [b2i true] := tr (p := S.ρ 0 ≤ (32 : Int)) (Int.not_lt.1 c4)
          have r0 : ofZ (S.ρ 0) 2251799813685248 = (-1 : Int) := by exact if_pos (Or.inr (by decide))
          rw [r0]
          exact symL env gok (ai t_rof51_4 true d4 (ai t_rof51_3 true d3 (ai t_rof51_2 false d2 (ai t_rof51_1 false d1 (ai t_rof51_0 true d0 (AlOk.nil _)))))) (hcs0 _) hvs w hI [.int .i64 (-1)] (csT (.lit .i64 (-1)) rfl cs_nil) (by kernel_rfl) (fun G => by kernel_rfl)
      · have d2 : t_rof51_2.den S = some [b2i true] := tr (p := S.ρ 0 ≤ (16 : Int)) (Int.not_lt.1 c2)
        have c3 : ¬ ((24 : Int) < S.ρ 0) := by omega
        have d3 : t_rof51_3.den S = some [b2i true] := tr (p := S.ρ 0 ≤ (24 : Int)) (Int.not_lt.1 c3)
        have c4 : ¬ ((32 : Int) < S.ρ 0) := by omega
        have d4 : t_rof51_4.den S = some [b2i true] := tr (p := S.ρ 0 ≤ (32 : Int)) (Int.not_lt.1 c4)
        have r0 : ofZ (S.ρ 0) 2251799813685248 = (-1 : Int) := by exact if_pos (Or.inr (by decide))
        rw [r0]
        exact symL env gok (ai t_rof51_4 true d4 (ai t_rof51_3 true d3 (ai t_rof51_2 true d2 (ai t_rof51_1 false d1 (ai t_rof51_0 true d0 (AlOk.nil _)))))) (hcs0 _) hvs w hI [.int .i64 (-1)] (csT (.lit .i64 (-1)) rfl cs_nil) (by kernel_rfl) (fun G => by kernel_rfl)
    · have d1 : t_rof51_1.den S = some [b2i true] := tr (p := S.ρ 0 ≤ (8 : Int)) (Int.not_lt.1 c1)
      have c2 : ¬ ((16 : Int) < S.ρ 0) := by omega
      have d2 : t_rof51_2.den S = some [b2i true] := tr (p := S.ρ 0 ≤ (16 : Int)) (Int.not_lt.1 c2)
      have c3 : ¬ ((24 : Int) < S.ρ 0) := by omega
      have d3 : t_rof51_3.den S = some [b2i true] := tr (p := S.ρ 0 ≤ (24 : Int)) (Int.not_lt.1 c3)
      have c4 : ¬ ((32 : Int) < S.ρ 0) := by omega
      have d4 : t_rof51_4.den S = some [b2i true] := tr (p := S.ρ 0 ≤ (32 : Int)) (Int.not_lt.1 c4)
      have r0 : ofZ (S.ρ 0) 2251799813685248 = (-1 : Int) := by exact if_pos (Or.inr (by decide))
      rw [r0]
      exact symL env gok (ai t_rof51_4 true d4 (ai t_rof51_3 true d3 (ai t_rof51_2 true d2 (ai t_rof51_1 true d1 (ai t_rof51_0 true d0 (AlOk.nil _)))))) (hcs0 _) hvs w hI [.int .i64 (-1)] (csT (.lit .i64 (-1)) rfl cs_nil) (by kernel_rfl) (fun G => by kernel_rfl)
  · have d0 : t_rof51_0.den S = some [b2i false] := fls (p := (0 : Int) < S.ρ 0) c0
    have r0 : ofZ (S.ρ 0) 2251799813685248 = (-1 : Int) := by exact if_pos (Or.inr (by decide))
    rw [r0]
    exact symL env gok (ai t_rof51_0 false d0 (AlOk.nil _)) (hcs0 _) hvs w hI [.int .i64 (-1)] (csT (.lit .i64 (-1)) rfl cs_nil) (by kernel_rfl) (fun G => by kernel_rfl)
def t_rof52_0 : Tm := (.bin .gtr (.var .i64 0) (.lit .i64 0))
def t_rof52_1 : Tm := (.bin .leq (.var .i64 0) (.lit .i64 8))
def t_rof52_2 : Tm := (.bin .leq (.var .i64 0) (.lit .i64 16))
def t_rof52_3 : Tm := (.bin .leq (.var .i64 0) (.lit .i64 24))
def t_rof52_4 : Tm := (.bin .leq (.var .i64 0) (.lit .i64 32))
theorem rof52 (x0 : Int) (w : World) : Calls Try.prog 16 #[.int .i64 x0, .int .i64 4503599627370496] w fun e w' => e = .returned (bundle (fillP [.one (.int .i64)] [ofZ x0 4503599627370496])) ∧ Quiet w w' := by
  obtain ⟨S, hS⟩ : ∃ S : Sy, S = ⟨upd (fun _ => 0) [(0, x0)], fun _ _ => 0, [], fun _ h => by simp at h⟩ := ⟨_, rfl⟩
  have i0 : S.ρ 0 = x0 := by rw [hS]; rfl
  have hI : S.I = [] := by rw [hS]
  have hvs : ∀ G ι, VsOk S G ι [vv .i64 0, .int .i64 4503599627370496] [.int .i64 x0, .int .i64 4503599627370496] := fun G ι => (vs_sym i0 (vs_int vs_nil))
  subst i0
  by_cases c0 : (0 : Int) < S.ρ 0
  · have d0 : t_rof52_0.den S = some [b2i true] := tr (p := (0 : Int) < S.ρ 0) c0
    by_cases c1 : (8 : Int) < S.ρ 0
    · have d1 : t_rof52_1.den S = some [b2i false] := fls (p := S.ρ 0 ≤ (8 : Int)) (Int.not_le.2 c1)
      by_cases c2 : (16 : Int) < S.ρ 0
      · have d2 : t_rof52_2.den S = some [b2i false] := fls (p := S.ρ 0 ≤ (16 : Int)) (Int.not_le.2 c2)
        by_cases c3 : (24 : Int) < S.ρ 0
        · have d3 : t_rof52_3.den S = some [b2i false] := fls (p := S.ρ 0 ≤ (24 : Int)) (Int.not_le.2 c3)
          by_cases c4 : (32 : Int) < S.ρ 0
          · have d4 : t_rof52_4.den S = some [b2i false] := fls (p := S.ρ 0 ≤ (32 : Int)) (Int.not_le.2 c4)
            have r0 : ofZ (S.ρ 0) 4503599627370496 = (-1 : Int) := by exact if_pos (Or.inr (by decide))
            rw [r0]
            exact symL env gok (ai t_rof52_4 false d4 (ai t_rof52_3 false d3 (ai t_rof52_2 false d2 (ai t_rof52_1 false d1 (ai t_rof52_0 true d0 (AlOk.nil _)))))) (hcs0 _) hvs w hI [.int .i64 (-1)] (csT (.lit .i64 (-1)) rfl cs_nil) (by kernel_rfl) (fun G => by kernel_rfl)
          · have d4 : t_rof52_4.den S = some [b2i true] := tr (p := S.ρ 0 ≤ (32 : Int)) (Int.not_lt.1 c4)
            have r0 : ofZ (S.ρ 0) 4503599627370496 = (-1 : Int) := by exact if_pos (Or.inr (by decide))
            rw [r0]
            exact symL env gok (ai t_rof52_4 true d4 (ai t_rof52_3 false d3 (ai t_rof52_2 false d2 (ai t_rof52_1 false d1 (ai t_rof52_0 true d0 (AlOk.nil _)))))) (hcs0 _) hvs w hI [.int .i64 (-1)] (csT (.lit .i64 (-1)) rfl cs_nil) (by kernel_rfl) (fun G => by kernel_rfl)
        · have d3 : t_rof52_3.den S = some [b2i true] := tr (p := S.ρ 0 ≤ (24 : Int)) (Int.not_lt.1 c3)
          have c4 : ¬ ((32 : Int) < S.ρ 0) := by omega
          have d4 : t_rof52_4.den S = some [b2i true] := tr (p := S.ρ 0 ≤ (32 : Int)) (Int.not_lt.1 c4)
          have r0 : ofZ (S.ρ 0) 4503599627370496 = (-1 : Int) := by exact if_pos (Or.inr (by decide))
          rw [r0]
          exact symL env gok (ai t_rof52_4 true d4 (ai t_rof52_3 true d3 (ai t_rof52_2 false d2 (ai t_rof52_1 false d1 (ai t_rof52_0 true d0 (AlOk.nil _)))))) (hcs0 _) hvs w hI [.int .i64 (-1)] (csT (.lit .i64 (-1)) rfl cs_nil) (by kernel_rfl) (fun G => by kernel_rfl)
      · have d2 : t_rof52_2.den S = some [b2i true] := tr (p := S.ρ 0 ≤ (16 : Int)) (Int.not_lt.1 c2)
        have c3 : ¬ ((24 : Int) < S.ρ 0) := by omega
        have d3 : t_rof52_3.den S = some [b2i true] := tr (p := S.ρ 0 ≤ (24 : Int)) (Int.not_lt.1 c3)
        have c4 : ¬ ((32 : Int) < S.ρ 0) := by omega
        have d4 : t_rof52_4.den S = some [b2i true] := tr (p := S.ρ 0 ≤ (32 : Int)) (Int.not_lt.1 c4)
        have r0 : ofZ (S.ρ 0) 4503599627370496 = (-1 : Int) := by exact if_pos (Or.inr (by decide))
        rw [r0]
        exact symL env gok (ai t_rof52_4 true d4 (ai t_rof52_3 true d3 (ai t_rof52_2 true d2 (ai t_rof52_1 false d1 (ai t_rof52_0 true d0 (AlOk.nil _)))))) (hcs0 _) hvs w hI [.int .i64 (-1)] (csT (.lit .i64 (-1)) rfl cs_nil) (by kernel_rfl) (fun G => by kernel_rfl)
    · have d1 : t_rof52_1.den S = some [b2i true] := tr (p := S.ρ 0 ≤ (8 : Int)) (Int.not_lt.1 c1)
      have c2 : ¬ ((16 : Int) < S.ρ 0) := by omega
      have d2 : t_rof52_2.den S = some [b2i true] := tr (p := S.ρ 0 ≤ (16 : Int)) (Int.not_lt.1 c2)
      have c3 : ¬ ((24 : Int) < S.ρ 0) := by omega
      have d3 : t_rof52_3.den S = some [b2i true] := tr (p := S.ρ 0 ≤ (24 : Int)) (Int.not_lt.1 c3)
      have c4 : ¬ ((32 : Int) < S.ρ 0) := by omega
      have d4 : t_rof52_4.den S = some [b2i true] := tr (p := S.ρ 0 ≤ (32 : Int)) (Int.not_lt.1 c4)
      have r0 : ofZ (S.ρ 0) 4503599627370496 = (-1 : Int) := by exact if_pos (Or.inr (by decide))
      rw [r0]
      exact symL env gok (ai t_rof52_4 true d4 (ai t_rof52_3 true d3 (ai t_rof52_2 true d2 (ai t_rof52_1 true d1 (ai t_rof52_0 true d0 (AlOk.nil _)))))) (hcs0 _) hvs w hI [.int .i64 (-1)] (csT (.lit .i64 (-1)) rfl cs_nil) (by kernel_rfl) (fun G => by kernel_rfl)
  · have d0 : t_rof52_0.den S = some [b2i false] := fls (p := (0 : Int) < S.ρ 0) c0
    have r0 : ofZ (S.ρ 0) 4503599627370496 = (-1 : Int) := by exact if_pos (Or.inr (by decide))
    rw [r0]
    exact symL env gok (ai t_rof52_0 false d0 (AlOk.nil _)) (hcs0 _) hvs w hI [.int .i64 (-1)] (csT (.lit .i64 (-1)) rfl cs_nil) (by kernel_rfl) (fun G => by kernel_rfl)
def t_rof53_0 : Tm := (.bin .gtr (.var .i64 0) (.lit .i64 0))
def t_rof53_1 : Tm := (.bin .leq (.var .i64 0) (.lit .i64 8))
def t_rof53_2 : Tm := (.bin .leq (.var .i64 0) (.lit .i64 16))
def t_rof53_3 : Tm := (.bin .leq (.var .i64 0) (.lit .i64 24))
def t_rof53_4 : Tm := (.bin .leq (.var .i64 0) (.lit .i64 32))
theorem rof53 (x0 : Int) (w : World) : Calls Try.prog 16 #[.int .i64 x0, .int .i64 9007199254740992] w fun e w' => e = .returned (bundle (fillP [.one (.int .i64)] [ofZ x0 9007199254740992])) ∧ Quiet w w' := by
  obtain ⟨S, hS⟩ : ∃ S : Sy, S = ⟨upd (fun _ => 0) [(0, x0)], fun _ _ => 0, [], fun _ h => by simp at h⟩ := ⟨_, rfl⟩
  have i0 : S.ρ 0 = x0 := by rw [hS]; rfl
  have hI : S.I = [] := by rw [hS]
  have hvs : ∀ G ι, VsOk S G ι [vv .i64 0, .int .i64 9007199254740992] [.int .i64 x0, .int .i64 9007199254740992] := fun G ι => (vs_sym i0 (vs_int vs_nil))
  subst i0
  by_cases c0 : (0 : Int) < S.ρ 0
  · have d0 : t_rof53_0.den S = some [b2i true] := tr (p := (0 : Int) < S.ρ 0) c0
    by_cases c1 : (8 : Int) < S.ρ 0
    · have d1 : t_rof53_1.den S = some [b2i false] := fls (p := S.ρ 0 ≤ (8 : Int)) (Int.not_le.2 c1)
      by_cases c2 : (16 : Int) < S.ρ 0
      · have d2 : t_rof53_2.den S = some [b2i false] := fls (p := S.ρ 0 ≤ (16 : Int)) (Int.not_le.2 c2)
        by_cases c3 : (24 : Int) < S.ρ 0
        · have d3 : t_rof53_3.den S = some [b2i false] := fls (p := S.ρ 0 ≤ (24 : Int)) (Int.not_le.2 c3)
          by_cases c4 : (32 : Int) < S.ρ 0
          · have d4 : t_rof53_4.den S = some [b2i false] := fls (p := S.ρ 0 ≤ (32 : Int)) (Int.not_le.2 c4)
            have r0 : ofZ (S.ρ 0) 9007199254740992 = (-1 : Int) := by exact if_pos (Or.inr (by decide))
            rw [r0]
            exact symL env gok (ai t_rof53_4 false d4 (ai t_rof53_3 false d3 (ai t_rof53_2 false d2 (ai t_rof53_1 false d1 (ai t_rof53_0 true d0 (AlOk.nil _)))))) (hcs0 _) hvs w hI [.int .i64 (-1)] (csT (.lit .i64 (-1)) rfl cs_nil) (by kernel_rfl) (fun G => by kernel_rfl)
          · have d4 : t_rof53_4.den S = some [b2i true] := tr (p := S.ρ 0 ≤ (32 : Int)) (Int.not_lt.1 c4)
            have r0 : ofZ (S.ρ 0) 9007199254740992 = (-1 : Int) := by exact if_pos (Or.inr (by decide))
            rw [r0]
            exact symL env gok (ai t_rof53_4 true d4 (ai t_rof53_3 false d3 (ai t_rof53_2 false d2 (ai t_rof53_1 false d1 (ai t_rof53_0 true d0 (AlOk.nil _)))))) (hcs0 _) hvs w hI [.int .i64 (-1)] (csT (.lit .i64 (-1)) rfl cs_nil) (by kernel_rfl) (fun G => by kernel_rfl)
        · have d3 : t_rof53_3.den S = some [b2i true] := tr (p := S.ρ 0 ≤ (24 : Int)) (Int.not_lt.1 c3)
          have c4 : ¬ ((32 : Int) < S.ρ 0) := by omega
          have d4 : t_rof53_4.den S = some [b2i true] := tr (p := S.ρ 0 ≤ (32 : Int)) (Int.not_lt.1 c4)
          have r0 : ofZ (S.ρ 0) 9007199254740992 = (-1 : Int) := by exact if_pos (Or.inr (by decide))
          rw [r0]
          exact symL env gok (ai t_rof53_4 true d4 (ai t_rof53_3 true d3 (ai t_rof53_2 false d2 (ai t_rof53_1 false d1 (ai t_rof53_0 true d0 (AlOk.nil _)))))) (hcs0 _) hvs w hI [.int .i64 (-1)] (csT (.lit .i64 (-1)) rfl cs_nil) (by kernel_rfl) (fun G => by kernel_rfl)
      · have d2 : t_rof53_2.den S = some [b2i true] := tr (p := S.ρ 0 ≤ (16 : Int)) (Int.not_lt.1 c2)
        have c3 : ¬ ((24 : Int) < S.ρ 0) := by omega
        have d3 : t_rof53_3.den S = some [b2i true] := tr (p := S.ρ 0 ≤ (24 : Int)) (Int.not_lt.1 c3)
        have c4 : ¬ ((32 : Int) < S.ρ 0) := by omega
        have d4 : t_rof53_4.den S = some [b2i true] := tr (p := S.ρ 0 ≤ (32 : Int)) (Int.not_lt.1 c4)
        have r0 : ofZ (S.ρ 0) 9007199254740992 = (-1 : Int) := by exact if_pos (Or.inr (by decide))
        rw [r0]
        exact symL env gok (ai t_rof53_4 true d4 (ai t_rof53_3 true d3 (ai t_rof53_2 true d2 (ai t_rof53_1 false d1 (ai t_rof53_0 true d0 (AlOk.nil _)))))) (hcs0 _) hvs w hI [.int .i64 (-1)] (csT (.lit .i64 (-1)) rfl cs_nil) (by kernel_rfl) (fun G => by kernel_rfl)
    · have d1 : t_rof53_1.den S = some [b2i true] := tr (p := S.ρ 0 ≤ (8 : Int)) (Int.not_lt.1 c1)
      have c2 : ¬ ((16 : Int) < S.ρ 0) := by omega
      have d2 : t_rof53_2.den S = some [b2i true] := tr (p := S.ρ 0 ≤ (16 : Int)) (Int.not_lt.1 c2)
      have c3 : ¬ ((24 : Int) < S.ρ 0) := by omega
      have d3 : t_rof53_3.den S = some [b2i true] := tr (p := S.ρ 0 ≤ (24 : Int)) (Int.not_lt.1 c3)
      have c4 : ¬ ((32 : Int) < S.ρ 0) := by omega
      have d4 : t_rof53_4.den S = some [b2i true] := tr (p := S.ρ 0 ≤ (32 : Int)) (Int.not_lt.1 c4)
      have r0 : ofZ (S.ρ 0) 9007199254740992 = (-1 : Int) := by exact if_pos (Or.inr (by decide))
      rw [r0]
      exact symL env gok (ai t_rof53_4 true d4 (ai t_rof53_3 true d3 (ai t_rof53_2 true d2 (ai t_rof53_1 true d1 (ai t_rof53_0 true d0 (AlOk.nil _)))))) (hcs0 _) hvs w hI [.int .i64 (-1)] (csT (.lit .i64 (-1)) rfl cs_nil) (by kernel_rfl) (fun G => by kernel_rfl)
  · have d0 : t_rof53_0.den S = some [b2i false] := fls (p := (0 : Int) < S.ρ 0) c0
    have r0 : ofZ (S.ρ 0) 9007199254740992 = (-1 : Int) := by exact if_pos (Or.inr (by decide))
    rw [r0]
    exact symL env gok (ai t_rof53_0 false d0 (AlOk.nil _)) (hcs0 _) hvs w hI [.int .i64 (-1)] (csT (.lit .i64 (-1)) rfl cs_nil) (by kernel_rfl) (fun G => by kernel_rfl)
def t_rof54_0 : Tm := (.bin .gtr (.var .i64 0) (.lit .i64 0))
def t_rof54_1 : Tm := (.bin .leq (.var .i64 0) (.lit .i64 8))
def t_rof54_2 : Tm := (.bin .leq (.var .i64 0) (.lit .i64 16))
def t_rof54_3 : Tm := (.bin .leq (.var .i64 0) (.lit .i64 24))
def t_rof54_4 : Tm := (.bin .leq (.var .i64 0) (.lit .i64 32))
theorem rof54 (x0 : Int) (w : World) : Calls Try.prog 16 #[.int .i64 x0, .int .i64 18014398509481984] w fun e w' => e = .returned (bundle (fillP [.one (.int .i64)] [ofZ x0 18014398509481984])) ∧ Quiet w w' := by
  obtain ⟨S, hS⟩ : ∃ S : Sy, S = ⟨upd (fun _ => 0) [(0, x0)], fun _ _ => 0, [], fun _ h => by simp at h⟩ := ⟨_, rfl⟩
  have i0 : S.ρ 0 = x0 := by rw [hS]; rfl
  have hI : S.I = [] := by rw [hS]
  have hvs : ∀ G ι, VsOk S G ι [vv .i64 0, .int .i64 18014398509481984] [.int .i64 x0, .int .i64 18014398509481984] := fun G ι => (vs_sym i0 (vs_int vs_nil))
  subst i0
  by_cases c0 : (0 : Int) < S.ρ 0
  · have d0 : t_rof54_0.den S = some [b2i true] := tr (p := (0 : Int) < S.ρ 0) c0
    by_cases c1 : (8 : Int) < S.ρ 0
    · have d1 : t_rof54_1.den S = some [b2i false] := fls (p := S.ρ 0 ≤ (8 : Int)) (Int.not_le.2 c1)
      by_cases c2 : (16 : Int) < S.ρ 0
      · have d2 : t_rof54_2.den S = some [b2i false] := fls (p := S.ρ 0 ≤ (16 : Int)) (Int.not_le.2 c2)
        by_cases c3 : (24 : Int) < S.ρ 0
        · have d3 : t_rof54_3.den S = some [b2i false] := fls (p := S.ρ 0 ≤ (24 : Int)) (Int.not_le.2 c3)
          by_cases c4 : (32 : Int) < S.ρ 0
          · have d4 : t_rof54_4.den S = some [b2i false] := fls (p := S.ρ 0 ≤ (32 : Int)) (Int.not_le.2 c4)
            have r0 : ofZ (S.ρ 0) 18014398509481984 = (-1 : Int) := by exact if_pos (Or.inr (by decide))
            rw [r0]
            exact symL env gok (ai t_rof54_4 false d4 (ai t_rof54_3 false d3 (ai t_rof54_2 false d2 (ai t_rof54_1 false d1 (ai t_rof54_0 true d0 (AlOk.nil _)))))) (hcs0 _) hvs w hI [.int .i64 (-1)] (csT (.lit .i64 (-1)) rfl cs_nil) (by kernel_rfl) (fun G => by kernel_rfl)
          · have d4 : t_rof54_4.den S = some [b2i true] := tr (p := S.ρ 0 ≤ (32 : Int)) (Int.not_lt.1 c4)
            have r0 : ofZ (S.ρ 0) 18014398509481984 = (-1 : Int) := by exact if_pos (Or.inr (by decide))
            rw [r0]
            exact symL env gok (ai t_rof54_4 true d4 (ai t_rof54_3 false d3 (ai t_rof54_2 false d2 (ai t_rof54_1 false d1 (ai t_rof54_0 true d0 (AlOk.nil _)))))) (hcs0 _) hvs w hI [.int .i64 (-1)] (csT (.lit .i64 (-1)) rfl cs_nil) (by kernel_rfl) (fun G => by kernel_rfl)
        · have d3 : t_rof54_3.den S = some [b2i true] := tr (p := S.ρ 0 ≤ (24 : Int)) (Int.not_lt.1 c3)
          have c4 : ¬ ((32 : Int) < S.ρ 0) := by omega
          have d4 : t_rof54_4.den S = some [b2i true] := tr (p := S.ρ 0 ≤ (32 : Int)) (Int.not_lt.1 c4)
          have r0 : ofZ (S.ρ 0) 18014398509481984 = (-1 : Int) := by exact if_pos (Or.inr (by decide))
          rw [r0]
          exact symL env gok (ai t_rof54_4 true d4 (ai t_rof54_3 true d3 (ai t_rof54_2 false d2 (ai t_rof54_1 false d1 (ai t_rof54_0 true d0 (AlOk.nil _)))))) (hcs0 _) hvs w hI [.int .i64 (-1)] (csT (.lit .i64 (-1)) rfl cs_nil) (by kernel_rfl) (fun G => by kernel_rfl)
      · have d2 : t_rof54_2.den S = some [b2i true] := tr (p := S.ρ 0 ≤ (16 : Int)) (Int.not_lt.1 c2)
        have c3 : ¬ ((24 : Int) < S.ρ 0) := by omega
        have d3 : t_rof54_3.den S = some [b2i true] := tr (p := S.ρ 0 ≤ (24 : Int)) (Int.not_lt.1 c3)
        have c4 : ¬ ((32 : Int) < S.ρ 0) := by omega
        have d4 : t_rof54_4.den S = some [b2i true] := tr (p := S.ρ 0 ≤ (32 : Int)) (Int.not_lt.1 c4)
        have r0 : ofZ (S.ρ 0) 18014398509481984 = (-1 : Int) := by exact if_pos (Or.inr (by decide))
        rw [r0]
        exact symL env gok (ai t_rof54_4 true d4 (ai t_rof54_3 true d3 (ai t_rof54_2 true d2 (ai t_rof54_1 false d1 (ai t_rof54_0 true d0 (AlOk.nil _)))))) (hcs0 _) hvs w hI [.int .i64 (-1)] (csT (.lit .i64 (-1)) rfl cs_nil) (by kernel_rfl) (fun G => by kernel_rfl)
    · have d1 : t_rof54_1.den S = some [b2i true] := tr (p := S.ρ 0 ≤ (8 : Int)) (Int.not_lt.1 c1)
      have c2 : ¬ ((16 : Int) < S.ρ 0) := by omega
      have d2 : t_rof54_2.den S = some [b2i true] := tr (p := S.ρ 0 ≤ (16 : Int)) (Int.not_lt.1 c2)
      have c3 : ¬ ((24 : Int) < S.ρ 0) := by omega
      have d3 : t_rof54_3.den S = some [b2i true] := tr (p := S.ρ 0 ≤ (24 : Int)) (Int.not_lt.1 c3)
      have c4 : ¬ ((32 : Int) < S.ρ 0) := by omega
      have d4 : t_rof54_4.den S = some [b2i true] := tr (p := S.ρ 0 ≤ (32 : Int)) (Int.not_lt.1 c4)
      have r0 : ofZ (S.ρ 0) 18014398509481984 = (-1 : Int) := by exact if_pos (Or.inr (by decide))
      rw [r0]
      exact symL env gok (ai t_rof54_4 true d4 (ai t_rof54_3 true d3 (ai t_rof54_2 true d2 (ai t_rof54_1 true d1 (ai t_rof54_0 true d0 (AlOk.nil _)))))) (hcs0 _) hvs w hI [.int .i64 (-1)] (csT (.lit .i64 (-1)) rfl cs_nil) (by kernel_rfl) (fun G => by kernel_rfl)
  · have d0 : t_rof54_0.den S = some [b2i false] := fls (p := (0 : Int) < S.ρ 0) c0
    have r0 : ofZ (S.ρ 0) 18014398509481984 = (-1 : Int) := by exact if_pos (Or.inr (by decide))
    rw [r0]
    exact symL env gok (ai t_rof54_0 false d0 (AlOk.nil _)) (hcs0 _) hvs w hI [.int .i64 (-1)] (csT (.lit .i64 (-1)) rfl cs_nil) (by kernel_rfl) (fun G => by kernel_rfl)
def t_rof55_0 : Tm := (.bin .gtr (.var .i64 0) (.lit .i64 0))
def t_rof55_1 : Tm := (.bin .leq (.var .i64 0) (.lit .i64 8))
def t_rof55_2 : Tm := (.bin .leq (.var .i64 0) (.lit .i64 16))
def t_rof55_3 : Tm := (.bin .leq (.var .i64 0) (.lit .i64 24))
def t_rof55_4 : Tm := (.bin .leq (.var .i64 0) (.lit .i64 32))
theorem rof55 (x0 : Int) (w : World) : Calls Try.prog 16 #[.int .i64 x0, .int .i64 36028797018963968] w fun e w' => e = .returned (bundle (fillP [.one (.int .i64)] [ofZ x0 36028797018963968])) ∧ Quiet w w' := by
  obtain ⟨S, hS⟩ : ∃ S : Sy, S = ⟨upd (fun _ => 0) [(0, x0)], fun _ _ => 0, [], fun _ h => by simp at h⟩ := ⟨_, rfl⟩
  have i0 : S.ρ 0 = x0 := by rw [hS]; rfl
  have hI : S.I = [] := by rw [hS]
  have hvs : ∀ G ι, VsOk S G ι [vv .i64 0, .int .i64 36028797018963968] [.int .i64 x0, .int .i64 36028797018963968] := fun G ι => (vs_sym i0 (vs_int vs_nil))
  subst i0
  by_cases c0 : (0 : Int) < S.ρ 0
  · have d0 : t_rof55_0.den S = some [b2i true] := tr (p := (0 : Int) < S.ρ 0) c0
    by_cases c1 : (8 : Int) < S.ρ 0
    · have d1 : t_rof55_1.den S = some [b2i false] := fls (p := S.ρ 0 ≤ (8 : Int)) (Int.not_le.2 c1)
      by_cases c2 : (16 : Int) < S.ρ 0
      · have d2 : t_rof55_2.den S = some [b2i false] := fls (p := S.ρ 0 ≤ (16 : Int)) (Int.not_le.2 c2)
        by_cases c3 : (24 : Int) < S.ρ 0
        · have d3 : t_rof55_3.den S = some [b2i false] := fls (p := S.ρ 0 ≤ (24 : Int)) (Int.not_le.2 c3)
          by_cases c4 : (32 : Int) < S.ρ 0
          · have d4 : t_rof55_4.den S = some [b2i false] := fls (p := S.ρ 0 ≤ (32 : Int)) (Int.not_le.2 c4)
            have r0 : ofZ (S.ρ 0) 36028797018963968 = (-1 : Int) := by exact if_pos (Or.inr (by decide))
            rw [r0]
            exact symL env gok (ai t_rof55_4 false d4 (ai t_rof55_3 false d3 (ai t_rof55_2 false d2 (ai t_rof55_1 false d1 (ai t_rof55_0 true d0 (AlOk.nil _)))))) (hcs0 _) hvs w hI [.int .i64 (-1)] (csT (.lit .i64 (-1)) rfl cs_nil) (by kernel_rfl) (fun G => by kernel_rfl)
          · have d4 : t_rof55_4.den S = some [b2i true] := tr (p := S.ρ 0 ≤ (32 : Int)) (Int.not_lt.1 c4)
            have r0 : ofZ (S.ρ 0) 36028797018963968 = (-1 : Int) := by exact if_pos (Or.inr (by decide))
            rw [r0]
            exact symL env gok (ai t_rof55_4 true d4 (ai t_rof55_3 false d3 (ai t_rof55_2 false d2 (ai t_rof55_1 false d1 (ai t_rof55_0 true d0 (AlOk.nil _)))))) (hcs0 _) hvs w hI [.int .i64 (-1)] (csT (.lit .i64 (-1)) rfl cs_nil) (by kernel_rfl) (fun G => by kernel_rfl)
        · have d3 : t_rof55_3.den S = some [b2i true] := tr (p := S.ρ 0 ≤ (24 : Int)) (Int.not_lt.1 c3)
          have c4 : ¬ ((32 : Int) < S.ρ 0) := by omega
          have d4 : t_rof55_4.den S = some [b2i true] := tr (p := S.ρ 0 ≤ (32 : Int)) (Int.not_lt.1 c4)
          have r0 : ofZ (S.ρ 0) 36028797018963968 = (-1 : Int) := by exact if_pos (Or.inr (by decide))
          rw [r0]
          exact symL env gok (ai t_rof55_4 true d4 (ai t_rof55_3 true d3 (ai t_rof55_2 false d2 (ai t_rof55_1 false d1 (ai t_rof55_0 true d0 (AlOk.nil _)))))) (hcs0 _) hvs w hI [.int .i64 (-1)] (csT (.lit .i64 (-1)) rfl cs_nil) (by kernel_rfl) (fun G => by kernel_rfl)
      · have d2 : t_rof55_2.den S = some [b2i true] := tr (p := S.ρ 0 ≤ (16 : Int)) (Int.not_lt.1 c2)
        have c3 : ¬ ((24 : Int) < S.ρ 0) := by omega
        have d3 : t_rof55_3.den S = some [b2i true] := tr (p := S.ρ 0 ≤ (24 : Int)) (Int.not_lt.1 c3)
        have c4 : ¬ ((32 : Int) < S.ρ 0) := by omega
        have d4 : t_rof55_4.den S = some [b2i true] := tr (p := S.ρ 0 ≤ (32 : Int)) (Int.not_lt.1 c4)
        have r0 : ofZ (S.ρ 0) 36028797018963968 = (-1 : Int) := by exact if_pos (Or.inr (by decide))
        rw [r0]
        exact symL env gok (ai t_rof55_4 true d4 (ai t_rof55_3 true d3 (ai t_rof55_2 true d2 (ai t_rof55_1 false d1 (ai t_rof55_0 true d0 (AlOk.nil _)))))) (hcs0 _) hvs w hI [.int .i64 (-1)] (csT (.lit .i64 (-1)) rfl cs_nil) (by kernel_rfl) (fun G => by kernel_rfl)
    · have d1 : t_rof55_1.den S = some [b2i true] := tr (p := S.ρ 0 ≤ (8 : Int)) (Int.not_lt.1 c1)
      have c2 : ¬ ((16 : Int) < S.ρ 0) := by omega
      have d2 : t_rof55_2.den S = some [b2i true] := tr (p := S.ρ 0 ≤ (16 : Int)) (Int.not_lt.1 c2)
      have c3 : ¬ ((24 : Int) < S.ρ 0) := by omega
      have d3 : t_rof55_3.den S = some [b2i true] := tr (p := S.ρ 0 ≤ (24 : Int)) (Int.not_lt.1 c3)
      have c4 : ¬ ((32 : Int) < S.ρ 0) := by omega
      have d4 : t_rof55_4.den S = some [b2i true] := tr (p := S.ρ 0 ≤ (32 : Int)) (Int.not_lt.1 c4)
      have r0 : ofZ (S.ρ 0) 36028797018963968 = (-1 : Int) := by exact if_pos (Or.inr (by decide))
      rw [r0]
      exact symL env gok (ai t_rof55_4 true d4 (ai t_rof55_3 true d3 (ai t_rof55_2 true d2 (ai t_rof55_1 true d1 (ai t_rof55_0 true d0 (AlOk.nil _)))))) (hcs0 _) hvs w hI [.int .i64 (-1)] (csT (.lit .i64 (-1)) rfl cs_nil) (by kernel_rfl) (fun G => by kernel_rfl)
  · have d0 : t_rof55_0.den S = some [b2i false] := fls (p := (0 : Int) < S.ρ 0) c0
    have r0 : ofZ (S.ρ 0) 36028797018963968 = (-1 : Int) := by exact if_pos (Or.inr (by decide))
    rw [r0]
    exact symL env gok (ai t_rof55_0 false d0 (AlOk.nil _)) (hcs0 _) hvs w hI [.int .i64 (-1)] (csT (.lit .i64 (-1)) rfl cs_nil) (by kernel_rfl) (fun G => by kernel_rfl)
def t_rof56_0 : Tm := (.bin .gtr (.var .i64 0) (.lit .i64 0))
def t_rof56_1 : Tm := (.bin .leq (.var .i64 0) (.lit .i64 8))
def t_rof56_2 : Tm := (.bin .leq (.var .i64 0) (.lit .i64 16))
def t_rof56_3 : Tm := (.bin .leq (.var .i64 0) (.lit .i64 24))
def t_rof56_4 : Tm := (.bin .leq (.var .i64 0) (.lit .i64 32))
theorem rof56 (x0 : Int) (w : World) : Calls Try.prog 16 #[.int .i64 x0, .int .i64 72057594037927936] w fun e w' => e = .returned (bundle (fillP [.one (.int .i64)] [ofZ x0 72057594037927936])) ∧ Quiet w w' := by
  obtain ⟨S, hS⟩ : ∃ S : Sy, S = ⟨upd (fun _ => 0) [(0, x0)], fun _ _ => 0, [], fun _ h => by simp at h⟩ := ⟨_, rfl⟩
  have i0 : S.ρ 0 = x0 := by rw [hS]; rfl
  have hI : S.I = [] := by rw [hS]
  have hvs : ∀ G ι, VsOk S G ι [vv .i64 0, .int .i64 72057594037927936] [.int .i64 x0, .int .i64 72057594037927936] := fun G ι => (vs_sym i0 (vs_int vs_nil))
  subst i0
  by_cases c0 : (0 : Int) < S.ρ 0
  · have d0 : t_rof56_0.den S = some [b2i true] := tr (p := (0 : Int) < S.ρ 0) c0
    by_cases c1 : (8 : Int) < S.ρ 0
    · have d1 : t_rof56_1.den S = some [b2i false] := fls (p := S.ρ 0 ≤ (8 : Int)) (Int.not_le.2 c1)
      by_cases c2 : (16 : Int) < S.ρ 0
      · have d2 : t_rof56_2.den S = some [b2i false] := fls (p := S.ρ 0 ≤ (16 : Int)) (Int.not_le.2 c2)
        by_cases c3 : (24 : Int) < S.ρ 0
        · have d3 : t_rof56_3.den S = some [b2i false] := fls (p := S.ρ 0 ≤ (24 : Int)) (Int.not_le.2 c3)
          by_cases c4 : (32 : Int) < S.ρ 0
          · have d4 : t_rof56_4.den S = some [b2i false] := fls (p := S.ρ 0 ≤ (32 : Int)) (Int.not_le.2 c4)
            have r0 : ofZ (S.ρ 0) 72057594037927936 = (-1 : Int) := by exact if_pos (Or.inr (by decide))
            rw [r0]
            exact symL env gok (ai t_rof56_4 false d4 (ai t_rof56_3 false d3 (ai t_rof56_2 false d2 (ai t_rof56_1 false d1 (ai t_rof56_0 true d0 (AlOk.nil _)))))) (hcs0 _) hvs w hI [.int .i64 (-1)] (csT (.lit .i64 (-1)) rfl cs_nil) (by kernel_rfl) (fun G => by kernel_rfl)
          · have d4 : t_rof56_4.den S = some [b2i true] := tr (p := S.ρ 0 ≤ (32 : Int)) (Int.not_lt.1 c4)
            have r0 : ofZ (S.ρ 0) 72057594037927936 = (-1 : Int) := by exact if_pos (Or.inr (by decide))
            rw [r0]
            exact symL env gok (ai t_rof56_4 true d4 (ai t_rof56_3 false d3 (ai t_rof56_2 false d2 (ai t_rof56_1 false d1 (ai t_rof56_0 true d0 (AlOk.nil _)))))) (hcs0 _) hvs w hI [.int .i64 (-1)] (csT (.lit .i64 (-1)) rfl cs_nil) (by kernel_rfl) (fun G => by kernel_rfl)
        · have d3 : t_rof56_3.den S = some [b2i true] := tr (p := S.ρ 0 ≤ (24 : Int)) (Int.not_lt.1 c3)
          have c4 : ¬ ((32 : Int) < S.ρ 0) := by omega
          have d4 : t_rof56_4.den S = some [b2i true] := tr (p := S.ρ 0 ≤ (32 : Int)) (Int.not_lt.1 c4)
          have r0 : ofZ (S.ρ 0) 72057594037927936 = (-1 : Int) := by exact if_pos (Or.inr (by decide))
          rw [r0]
          exact symL env gok (ai t_rof56_4 true d4 (ai t_rof56_3 true d3 (ai t_rof56_2 false d2 (ai t_rof56_1 false d1 (ai t_rof56_0 true d0 (AlOk.nil _)))))) (hcs0 _) hvs w hI [.int .i64 (-1)] (csT (.lit .i64 (-1)) rfl cs_nil) (by kernel_rfl) (fun G => by kernel_rfl)
      · have d2 : t_rof56_2.den S = some [b2i true] := tr (p := S.ρ 0 ≤ (16 : Int)) (Int.not_lt.1 c2)
        have c3 : ¬ ((24 : Int) < S.ρ 0) := by omega
        have d3 : t_rof56_3.den S = some [b2i true] := tr (p := S.ρ 0 ≤ (24 : Int)) (Int.not_lt.1 c3)
        have c4 : ¬ ((32 : Int) < S.ρ 0) := by omega
        have d4 : t_rof56_4.den S = some [b2i true] := tr (p := S.ρ 0 ≤ (32 : Int)) (Int.not_lt.1 c4)
        have r0 : ofZ (S.ρ 0) 72057594037927936 = (-1 : Int) := by exact if_pos (Or.inr (by decide))
        rw [r0]
        exact symL env gok (ai t_rof56_4 true d4 (ai t_rof56_3 true d3 (ai t_rof56_2 true d2 (ai t_rof56_1 false d1 (ai t_rof56_0 true d0 (AlOk.nil _)))))) (hcs0 _) hvs w hI [.int .i64 (-1)] (csT (.lit .i64 (-1)) rfl cs_nil) (by kernel_rfl) (fun G => by kernel_rfl)
    · have d1 : t_rof56_1.den S = some [b2i true] := tr (p := S.ρ 0 ≤ (8 : Int)) (Int.not_lt.1 c1)
      have c2 : ¬ ((16 : Int) < S.ρ 0) := by omega
      have d2 : t_rof56_2.den S = some [b2i true] := tr (p := S.ρ 0 ≤ (16 : Int)) (Int.not_lt.1 c2)
      have c3 : ¬ ((24 : Int) < S.ρ 0) := by omega
      have d3 : t_rof56_3.den S = some [b2i true] := tr (p := S.ρ 0 ≤ (24 : Int)) (Int.not_lt.1 c3)
      have c4 : ¬ ((32 : Int) < S.ρ 0) := by omega
      have d4 : t_rof56_4.den S = some [b2i true] := tr (p := S.ρ 0 ≤ (32 : Int)) (Int.not_lt.1 c4)
      have r0 : ofZ (S.ρ 0) 72057594037927936 = (-1 : Int) := by exact if_pos (Or.inr (by decide))
      rw [r0]
      exact symL env gok (ai t_rof56_4 true d4 (ai t_rof56_3 true d3 (ai t_rof56_2 true d2 (ai t_rof56_1 true d1 (ai t_rof56_0 true d0 (AlOk.nil _)))))) (hcs0 _) hvs w hI [.int .i64 (-1)] (csT (.lit .i64 (-1)) rfl cs_nil) (by kernel_rfl) (fun G => by kernel_rfl)
  · have d0 : t_rof56_0.den S = some [b2i false] := fls (p := (0 : Int) < S.ρ 0) c0
    have r0 : ofZ (S.ρ 0) 72057594037927936 = (-1 : Int) := by exact if_pos (Or.inr (by decide))
    rw [r0]
    exact symL env gok (ai t_rof56_0 false d0 (AlOk.nil _)) (hcs0 _) hvs w hI [.int .i64 (-1)] (csT (.lit .i64 (-1)) rfl cs_nil) (by kernel_rfl) (fun G => by kernel_rfl)
def t_rof57_0 : Tm := (.bin .gtr (.var .i64 0) (.lit .i64 0))
def t_rof57_1 : Tm := (.bin .leq (.var .i64 0) (.lit .i64 8))
def t_rof57_2 : Tm := (.bin .leq (.var .i64 0) (.lit .i64 16))
def t_rof57_3 : Tm := (.bin .leq (.var .i64 0) (.lit .i64 24))
def t_rof57_4 : Tm := (.bin .leq (.var .i64 0) (.lit .i64 32))
theorem rof57 (x0 : Int) (w : World) : Calls Try.prog 16 #[.int .i64 x0, .int .i64 144115188075855872] w fun e w' => e = .returned (bundle (fillP [.one (.int .i64)] [ofZ x0 144115188075855872])) ∧ Quiet w w' := by
  obtain ⟨S, hS⟩ : ∃ S : Sy, S = ⟨upd (fun _ => 0) [(0, x0)], fun _ _ => 0, [], fun _ h => by simp at h⟩ := ⟨_, rfl⟩
  have i0 : S.ρ 0 = x0 := by rw [hS]; rfl
  have hI : S.I = [] := by rw [hS]
  have hvs : ∀ G ι, VsOk S G ι [vv .i64 0, .int .i64 144115188075855872] [.int .i64 x0, .int .i64 144115188075855872] := fun G ι => (vs_sym i0 (vs_int vs_nil))
  subst i0
  by_cases c0 : (0 : Int) < S.ρ 0
  · have d0 : t_rof57_0.den S = some [b2i true] := tr (p := (0 : Int) < S.ρ 0) c0
    by_cases c1 : (8 : Int) < S.ρ 0
    · have d1 : t_rof57_1.den S = some [b2i false] := fls (p := S.ρ 0 ≤ (8 : Int)) (Int.not_le.2 c1)
      by_cases c2 : (16 : Int) < S.ρ 0
      · have d2 : t_rof57_2.den S = some [b2i false] := fls (p := S.ρ 0 ≤ (16 : Int)) (Int.not_le.2 c2)
        by_cases c3 : (24 : Int) < S.ρ 0
        · have d3 : t_rof57_3.den S = some [b2i false] := fls (p := S.ρ 0 ≤ (24 : Int)) (Int.not_le.2 c3)
          by_cases c4 : (32 : Int) < S.ρ 0
          · have d4 : t_rof57_4.den S = some [b2i false] := fls (p := S.ρ 0 ≤ (32 : Int)) (Int.not_le.2 c4)
            have r0 : ofZ (S.ρ 0) 144115188075855872 = (-1 : Int) := by exact if_pos (Or.inr (by decide))
            rw [r0]
            exact symL env gok (ai t_rof57_4 false d4 (ai t_rof57_3 false d3 (ai t_rof57_2 false d2 (ai t_rof57_1 false d1 (ai t_rof57_0 true d0 (AlOk.nil _)))))) (hcs0 _) hvs w hI [.int .i64 (-1)] (csT (.lit .i64 (-1)) rfl cs_nil) (by kernel_rfl) (fun G => by kernel_rfl)
          · have d4 : t_rof57_4.den S = some [b2i true] := tr (p := S.ρ 0 ≤ (32 : Int)) (Int.not_lt.1 c4)
            have r0 : ofZ (S.ρ 0) 144115188075855872 = (-1 : Int) := by exact if_pos (Or.inr (by decide))
            rw [r0]
            exact symL env gok (ai t_rof57_4 true d4 (ai t_rof57_3 false d3 (ai t_rof57_2 false d2 (ai t_rof57_1 false d1 (ai t_rof57_0 true d0 (AlOk.nil _)))))) (hcs0 _) hvs w hI [.int .i64 (-1)] (csT (.lit .i64 (-1)) rfl cs_nil) (by kernel_rfl) (fun G => by kernel_rfl)
        · have d3 : t_rof57_3.den S = some [b2i true] := tr (p := S.ρ 0 ≤ (24 : Int)) (Int.not_lt.1 c3)
          have c4 : ¬ ((32 : Int) < S.ρ 0) := by omega
          have d4 : t_rof57_4.den S = some [b2i true] := tr (p := S.ρ 0 ≤ (32 : Int)) (Int.not_lt.1 c4)
          have r0 : ofZ (S.ρ 0) 144115188075855872 = (-1 : Int) := by exact if_pos (Or.inr (by decide))
          rw [r0]
          exact symL env gok (ai t_rof57_4 true d4 (ai t_rof57_3 true d3 (ai t_rof57_2 false d2 (ai t_rof57_1 false d1 (ai t_rof57_0 true d0 (AlOk.nil _)))))) (hcs0 _) hvs w hI [.int .i64 (-1)] (csT (.lit .i64 (-1)) rfl cs_nil) (by kernel_rfl) (fun G => by kernel_rfl)
      · have d2 : t_rof57_2.den S = some [b2i true] := tr (p := S.ρ 0 ≤ (16 : Int)) (Int.not_lt.1 c2)
        have c3 : ¬ ((24 : Int) < S.ρ 0) := by omega
        have d3 : t_rof57_3.den S = some [b2i true] := tr (p := S.ρ 0 ≤ (24 : Int)) (Int.not_lt.1 c3)
        have c4 : ¬ ((32 : Int) < S.ρ 0) := by omega
        have d4 : t_rof57_4.den S = some [b2i true] := tr (p := S.ρ 0 ≤ (32 : Int)) (Int.not_lt.1 c4)
        have r0 : ofZ (S.ρ 0) 144115188075855872 = (-1 : Int) := by exact if_pos (Or.inr (by decide))
        rw [r0]
        exact symL env gok (ai t_rof57_4 true d4 (ai t_rof57_3 true d3 (ai t_rof57_2 true d2 (ai t_rof57_1 false d1 (ai t_rof57_0 true d0 (AlOk.nil _)))))) (hcs0 _) hvs w hI [.int .i64 (-1)] (csT (.lit .i64 (-1)) rfl cs_nil) (by kernel_rfl) (fun G => by kernel_rfl)
    · have d1 : t_rof57_1.den S = some [b2i true] := tr (p := S.ρ 0 ≤ (8 : Int)) (Int.not_lt.1 c1)
      have c2 : ¬ ((16 : Int) < S.ρ 0) := by omega
      have d2 : t_rof57_2.den S = some [b2i true] := tr (p := S.ρ 0 ≤ (16 : Int)) (Int.not_lt.1 c2)
      have c3 : ¬ ((24 : Int) < S.ρ 0) := by omega
      have d3 : t_rof57_3.den S = some [b2i true] := tr (p := S.ρ 0 ≤ (24 : Int)) (Int.not_lt.1 c3)
      have c4 : ¬ ((32 : Int) < S.ρ 0) := by omega
      have d4 : t_rof57_4.den S = some [b2i true] := tr (p := S.ρ 0 ≤ (32 : Int)) (Int.not_lt.1 c4)
      have r0 : ofZ (S.ρ 0) 144115188075855872 = (-1 : Int) := by exact if_pos (Or.inr (by decide))
      rw [r0]
      exact symL env gok (ai t_rof57_4 true d4 (ai t_rof57_3 true d3 (ai t_rof57_2 true d2 (ai t_rof57_1 true d1 (ai t_rof57_0 true d0 (AlOk.nil _)))))) (hcs0 _) hvs w hI [.int .i64 (-1)] (csT (.lit .i64 (-1)) rfl cs_nil) (by kernel_rfl) (fun G => by kernel_rfl)
  · have d0 : t_rof57_0.den S = some [b2i false] := fls (p := (0 : Int) < S.ρ 0) c0
    have r0 : ofZ (S.ρ 0) 144115188075855872 = (-1 : Int) := by exact if_pos (Or.inr (by decide))
    rw [r0]
    exact symL env gok (ai t_rof57_0 false d0 (AlOk.nil _)) (hcs0 _) hvs w hI [.int .i64 (-1)] (csT (.lit .i64 (-1)) rfl cs_nil) (by kernel_rfl) (fun G => by kernel_rfl)
def t_rof58_0 : Tm := (.bin .gtr (.var .i64 0) (.lit .i64 0))
def t_rof58_1 : Tm := (.bin .leq (.var .i64 0) (.lit .i64 8))
def t_rof58_2 : Tm := (.bin .leq (.var .i64 0) (.lit .i64 16))
def t_rof58_3 : Tm := (.bin .leq (.var .i64 0) (.lit .i64 24))
def t_rof58_4 : Tm := (.bin .leq (.var .i64 0) (.lit .i64 32))
theorem rof58 (x0 : Int) (w : World) : Calls Try.prog 16 #[.int .i64 x0, .int .i64 288230376151711744] w fun e w' => e = .returned (bundle (fillP [.one (.int .i64)] [ofZ x0 288230376151711744])) ∧ Quiet w w' := by
  obtain ⟨S, hS⟩ : ∃ S : Sy, S = ⟨upd (fun _ => 0) [(0, x0)], fun _ _ => 0, [], fun _ h => by simp at h⟩ := ⟨_, rfl⟩
  have i0 : S.ρ 0 = x0 := by rw [hS]; rfl
  have hI : S.I = [] := by rw [hS]
  have hvs : ∀ G ι, VsOk S G ι [vv .i64 0, .int .i64 288230376151711744] [.int .i64 x0, .int .i64 288230376151711744] := fun G ι => (vs_sym i0 (vs_int vs_nil))
  subst i0
  by_cases c0 : (0 : Int) < S.ρ 0
  · have d0 : t_rof58_0.den S = some [b2i true] := tr (p := (0 : Int) < S.ρ 0) c0
    by_cases c1 : (8 : Int) < S.ρ 0
    · have d1 : t_rof58_1.den S = some [b2i false] := fls (p := S.ρ 0 ≤ (8 : Int)) (Int.not_le.2 c1)
      by_cases c2 : (16 : Int) < S.ρ 0
      · have d2 : t_rof58_2.den S = some [b2i false] := fls (p := S.ρ 0 ≤ (16 : Int)) (Int.not_le.2 c2)
        by_cases c3 : (24 : Int) < S.ρ 0
        · have d3 : t_rof58_3.den S = some [b2i false] := fls (p := S.ρ 0 ≤ (24 : Int)) (Int.not_le.2 c3)
          by_cases c4 : (32 : Int) < S.ρ 0
          · have d4 : t_rof58_4.den S = some [b2i false] := fls (p := S.ρ 0 ≤ (32 : Int)) (Int.not_le.2 c4)
            have r0 : ofZ (S.ρ 0) 288230376151711744 = (-1 : Int) := by exact if_pos (Or.inr (by decide))
            rw [r0]
            exact symL env gok (ai t_rof58_4 false d4 (ai t_rof58_3 false d3 (ai t_rof58_2 false d2 (ai t_rof58_1 false d1 (ai t_rof58_0 true d0 (AlOk.nil _)))))) (hcs0 _) hvs w hI [.int .i64 (-1)] (csT (.lit .i64 (-1)) rfl cs_nil) (by kernel_rfl) (fun G => by kernel_rfl)
          · have d4 : t_rof58_4.den S = some [b2i true] := tr (p := S.ρ 0 ≤ (32 : Int)) (Int.not_lt.1 c4)
            have r0 : ofZ (S.ρ 0) 288230376151711744 = (-1 : Int) := by exact if_pos (Or.inr (by decide))
            rw [r0]
            exact symL env gok (ai t_rof58_4 true d4 (ai t_rof58_3 false d3 (ai t_rof58_2 false d2 (ai t_rof58_1 false d1 (ai t_rof58_0 true d0 (AlOk.nil _)))))) (hcs0 _) hvs w hI [.int .i64 (-1)] (csT (.lit .i64 (-1)) rfl cs_nil) (by kernel_rfl) (fun G => by kernel_rfl)
        · have d3 : t_rof58_3.den S = some [b2i true] := tr (p := S.ρ 0 ≤ (24 : Int)) (Int.not_lt.1 c3)
          have c4 : ¬ ((32 : Int) < S.ρ 0) := by omega
          have d4 : t_rof58_4.den S = some [b2i true] := tr (p := S.ρ 0 ≤ (32 : Int)) (Int.not_lt.1 c4)
          have r0 : ofZ (S.ρ 0) 288230376151711744 = (-1 : Int) := by exact if_pos (Or.inr (by decide))
          rw [r0]
          exact symL env gok (ai t_rof58_4 true d4 (ai t_rof58_3 true d3 (ai t_rof58_2 false d2 (ai t_rof58_1 false d1 (ai t_rof58_0 true d0 (AlOk.nil _)))))) (hcs0 _) hvs w hI [.int .i64 (-1)] (csT (.lit .i64 (-1)) rfl cs_nil) (by kernel_rfl) (fun G => by kernel_rfl)
      · have d2 : t_rof58_2.den S = some [b2i true] := tr (p := S.ρ 0 ≤ (16 : Int)) (Int.not_lt.1 c2)
        have c3 : ¬ ((24 : Int) < S.ρ 0) := by omega
        have d3 : t_rof58_3.den S = some [b2i true] := tr (p := S.ρ 0 ≤ (24 : Int)) (Int.not_lt.1 c3)
        have c4 : ¬ ((32 : Int) < S.ρ 0) := by omega
        have d4 : t_rof58_4.den S = some [b2i true] := tr (p := S.ρ 0 ≤ (32 : Int)) (Int.not_lt.1 c4)
        have r0 : ofZ (S.ρ 0) 288230376151711744 = (-1 : Int) := by exact if_pos (Or.inr (by decide))
        rw [r0]
        exact symL env gok (ai t_rof58_4 true d4 (ai t_rof58_3 true d3 (ai t_rof58_2 true d2 (ai t_rof58_1 false d1 (ai t_rof58_0 true d0 (AlOk.nil _)))))) (hcs0 _) hvs w hI [.int .i64 (-1)] (csT (.lit .i64 (-1)) rfl cs_nil) (by kernel_rfl) (fun G => by kernel_rfl)
    · have d1 : t_rof58_1.den S = some [b2i true] := tr (p := S.ρ 0 ≤ (8 : Int)) (Int.not_lt.1 c1)
      have c2 : ¬ ((16 : Int) < S.ρ 0) := by omega
      have d2 : t_rof58_2.den S = some [b2i true] := tr (p := S.ρ 0 ≤ (16 : Int)) (Int.not_lt.1 c2)
      have c3 : ¬ ((24 : Int) < S.ρ 0) := by omega
      have d3 : t_rof58_3.den S = some [b2i true] := tr (p := S.ρ 0 ≤ (24 : Int)) (Int.not_lt.1 c3)
      have c4 : ¬ ((32 : Int) < S.ρ 0) := by omega
      have d4 : t_rof58_4.den S = some [b2i true] := tr (p := S.ρ 0 ≤ (32 : Int)) (Int.not_lt.1 c4)
      have r0 : ofZ (S.ρ 0) 288230376151711744 = (-1 : Int) := by exact if_pos (Or.inr (by decide))
      rw [r0]
      exact symL env gok (ai t_rof58_4 true d4 (ai t_rof58_3 true d3 (ai t_rof58_2 true d2 (ai t_rof58_1 true d1 (ai t_rof58_0 true d0 (AlOk.nil _)))))) (hcs0 _) hvs w hI [.int .i64 (-1)] (csT (.lit .i64 (-1)) rfl cs_nil) (by kernel_rfl) (fun G => by kernel_rfl)
  · have d0 : t_rof58_0.den S = some [b2i false] := fls (p := (0 : Int) < S.ρ 0) c0
    have r0 : ofZ (S.ρ 0) 288230376151711744 = (-1 : Int) := by exact if_pos (Or.inr (by decide))
    rw [r0]
    exact symL env gok (ai t_rof58_0 false d0 (AlOk.nil _)) (hcs0 _) hvs w hI [.int .i64 (-1)] (csT (.lit .i64 (-1)) rfl cs_nil) (by kernel_rfl) (fun G => by kernel_rfl)
def t_rof59_0 : Tm := (.bin .gtr (.var .i64 0) (.lit .i64 0))
def t_rof59_1 : Tm := (.bin .leq (.var .i64 0) (.lit .i64 8))
def t_rof59_2 : Tm := (.bin .leq (.var .i64 0) (.lit .i64 16))
def t_rof59_3 : Tm := (.bin .leq (.var .i64 0) (.lit .i64 24))
def t_rof59_4 : Tm := (.bin .leq (.var .i64 0) (.lit .i64 32))
theorem rof59 (x0 : Int) (w : World) : Calls Try.prog 16 #[.int .i64 x0, .int .i64 576460752303423488] w fun e w' => e = .returned (bundle (fillP [.one (.int .i64)] [ofZ x0 576460752303423488])) ∧ Quiet w w' := by
  obtain ⟨S, hS⟩ : ∃ S : Sy, S = ⟨upd (fun _ => 0) [(0, x0)], fun _ _ => 0, [], fun _ h => by simp at h⟩ := ⟨_, rfl⟩
  have i0 : S.ρ 0 = x0 := by rw [hS]; rfl
  have hI : S.I = [] := by rw [hS]
  have hvs : ∀ G ι, VsOk S G ι [vv .i64 0, .int .i64 576460752303423488] [.int .i64 x0, .int .i64 576460752303423488] := fun G ι => (vs_sym i0 (vs_int vs_nil))
  subst i0
  by_cases c0 : (0 : Int) < S.ρ 0
  · have d0 : t_rof59_0.den S = some [b2i true] := tr (p := (0 : Int) < S.ρ 0) c0
    by_cases c1 : (8 : Int) < S.ρ 0
    · have d1 : t_rof59_1.den S = some [b2i false] := fls (p := S.ρ 0 ≤ (8 : Int)) (Int.not_le.2 c1)
      by_cases c2 : (16 : Int) < S.ρ 0
      · have d2 : t_rof59_2.den S = some [b2i false] := fls (p := S.ρ 0 ≤ (16 : Int)) (Int.not_le.2 c2)
        by_cases c3 : (24 : Int) < S.ρ 0
        · have d3 : t_rof59_3.den S = some [b2i false] := fls (p := S.ρ 0 ≤ (24 : Int)) (Int.not_le.2 c3)
          by_cases c4 : (32 : Int) < S.ρ 0
          · have d4 : t_rof59_4.den S = some [b2i false] := fls (p := S.ρ 0 ≤ (32 : Int)) (Int.not_le.2 c4)
            have r0 : ofZ (S.ρ 0) 576460752303423488 = (-1 : Int) := by exact if_pos (Or.inr (by decide))
            rw [r0]
            exact symL env gok (ai t_rof59_4 false d4 (ai t_rof59_3 false d3 (ai t_rof59_2 false d2 (ai t_rof59_1 false d1 (ai t_rof59_0 true d0 (AlOk.nil _)))))) (hcs0 _) hvs w hI [.int .i64 (-1)] (csT (.lit .i64 (-1)) rfl cs_nil) (by kernel_rfl) (fun G => by kernel_rfl)
          · have d4 : t_rof59_4.den S = some [b2i true] := tr (p := S.ρ 0 ≤ (32 : Int)) (Int.not_lt.1 c4)
            have r0 : ofZ (S.ρ 0) 576460752303423488 = (-1 : Int) := by exact if_pos (Or.inr (by decide))
            rw [r0]
            exact symL env gok (ai t_rof59_4 true d4 (ai t_rof59_3 false d3 (ai t_rof59_2 false d2 (ai t_rof59_1 false d1 (ai t_rof59_0 true d0 (AlOk.nil _)))))) (hcs0 _) hvs w hI [.int .i64 (-1)] (csT (.lit .i64 (-1)) rfl cs_nil) (by kernel_rfl) (fun G => by kernel_rfl)
        · have d3 : t_rof59_3.den S = some [b2i true] := tr (p := S.ρ 0 ≤ (24 : Int)) (Int.not_lt.1 c3)
          have c4 : ¬ ((32 : Int) < S.ρ 0) := by omega
          have d4 : t_rof59_4.den S = some [b2i true] := tr (p := S.ρ 0 ≤ (32 : Int)) (Int.not_lt.1 c4)
          have r0 : ofZ (S.ρ 0) 576460752303423488 = (-1 : Int) := by exact if_pos (Or.inr (by decide))
          rw [r0]
          exact symL env gok (ai t_rof59_4 true d4 (ai t_rof59_3 true d3 (ai t_rof59_2 false d2 (ai t_rof59_1 false d1 (ai t_rof59_0 true d0 (AlOk.nil _)))))) (hcs0 _) hvs w hI [.int .i64 (-1)] (csT (.lit .i64 (-1)) rfl cs_nil) (by kernel_rfl) (fun G => by kernel_rfl)
      · have d2 : t_rof59_2.den S = some [b2i true] := tr (p := S.ρ 0 ≤ (16 : Int)) (Int.not_lt.1 c2)
        have c3 : ¬ ((24 : Int) < S.ρ 0) := by omega
        have d3 : t_rof59_3.den S = some [b2i true] := tr (p := S.ρ 0 ≤ (24 : Int)) (Int.not_lt.1 c3)
        have c4 : ¬ ((32 : Int) < S.ρ 0) := by omega
        have d4 : t_rof59_4.den S = some [b2i true] := tr (p := S.ρ 0 ≤ (32 : Int)) (Int.not_lt.1 c4)
        have r0 : ofZ (S.ρ 0) 576460752303423488 = (-1 : Int) := by exact if_pos (Or.inr (by decide))
        rw [r0]
        exact symL env gok (ai t_rof59_4 true d4 (ai t_rof59_3 true d3 (ai t_rof59_2 true d2 (ai t_rof59_1 false d1 (ai t_rof59_0 true d0 (AlOk.nil _)))))) (hcs0 _) hvs w hI [.int .i64 (-1)] (csT (.lit .i64 (-1)) rfl cs_nil) (by kernel_rfl) (fun G => by kernel_rfl)
    · have d1 : t_rof59_1.den S = some [b2i true] := tr (p := S.ρ 0 ≤ (8 : Int)) (Int.not_lt.1 c1)
      have c2 : ¬ ((16 : Int) < S.ρ 0) := by omega
      have d2 : t_rof59_2.den S = some [b2i true] := tr (p := S.ρ 0 ≤ (16 : Int)) (Int.not_lt.1 c2)
      have c3 : ¬ ((24 : Int) < S.ρ 0) := by omega
      have d3 : t_rof59_3.den S = some [b2i true] := tr (p := S.ρ 0 ≤ (24 : Int)) (Int.not_lt.1 c3)
      have c4 : ¬ ((32 : Int) < S.ρ 0) := by omega
      have d4 : t_rof59_4.den S = some [b2i true] := tr (p := S.ρ 0 ≤ (32 : Int)) (Int.not_lt.1 c4)
      have r0 : ofZ (S.ρ 0) 576460752303423488 = (-1 : Int) := by exact if_pos (Or.inr (by decide))
      rw [r0]
      exact symL env gok (ai t_rof59_4 true d4 (ai t_rof59_3 true d3 (ai t_rof59_2 true d2 (ai t_rof59_1 true d1 (ai t_rof59_0 true d0 (AlOk.nil _)))))) (hcs0 _) hvs w hI [.int .i64 (-1)] (csT (.lit .i64 (-1)) rfl cs_nil) (by kernel_rfl) (fun G => by kernel_rfl)
  · have d0 : t_rof59_0.den S = some [b2i false] := fls (p := (0 : Int) < S.ρ 0) c0
    have r0 : ofZ (S.ρ 0) 576460752303423488 = (-1 : Int) := by exact if_pos (Or.inr (by decide))
    rw [r0]
    exact symL env gok (ai t_rof59_0 false d0 (AlOk.nil _)) (hcs0 _) hvs w hI [.int .i64 (-1)] (csT (.lit .i64 (-1)) rfl cs_nil) (by kernel_rfl) (fun G => by kernel_rfl)
def t_rof60_0 : Tm := (.bin .gtr (.var .i64 0) (.lit .i64 0))
def t_rof60_1 : Tm := (.bin .leq (.var .i64 0) (.lit .i64 8))
def t_rof60_2 : Tm := (.bin .leq (.var .i64 0) (.lit .i64 16))
def t_rof60_3 : Tm := (.bin .leq (.var .i64 0) (.lit .i64 24))
def t_rof60_4 : Tm := (.bin .leq (.var .i64 0) (.lit .i64 32))
theorem rof60 (x0 : Int) (w : World) : Calls Try.prog 16 #[.int .i64 x0, .int .i64 1152921504606846976] w fun e w' => e = .returned (bundle (fillP [.one (.int .i64)] [ofZ x0 1152921504606846976])) ∧ Quiet w w' := by
  obtain ⟨S, hS⟩ : ∃ S : Sy, S = ⟨upd (fun _ => 0) [(0, x0)], fun _ _ => 0, [], fun _ h => by simp at h⟩ := ⟨_, rfl⟩
  have i0 : S.ρ 0 = x0 := by rw [hS]; rfl
  have hI : S.I = [] := by rw [hS]
  have hvs : ∀ G ι, VsOk S G ι [vv .i64 0, .int .i64 1152921504606846976] [.int .i64 x0, .int .i64 1152921504606846976] := fun G ι => (vs_sym i0 (vs_int vs_nil))
  subst i0
  by_cases c0 : (0 : Int) < S.ρ 0
  · have d0 : t_rof60_0.den S = some [b2i true] := tr (p := (0 : Int) < S.ρ 0) c0
    by_cases c1 : (8 : Int) < S.ρ 0
    · have d1 : t_rof60_1.den S = some [b2i false] := fls (p := S.ρ 0 ≤ (8 : Int)) (Int.not_le.2 c1)
      by_cases c2 : (16 : Int) < S.ρ 0
      · have d2 : t_rof60_2.den S = some [b2i false] := fls (p := S.ρ 0 ≤ (16 : Int)) (Int.not_le.2 c2)
        by_cases c3 : (24 : Int) < S.ρ 0
        · have d3 : t_rof60_3.den S = some [b2i false] := fls (p := S.ρ 0 ≤ (24 : Int)) (Int.not_le.2 c3)
          by_cases c4 : (32 : Int) < S.ρ 0
          · have d4 : t_rof60_4.den S = some [b2i false] := fls (p := S.ρ 0 ≤ (32 : Int)) (Int.not_le.2 c4)
            have r0 : ofZ (S.ρ 0) 1152921504606846976 = (-1 : Int) := by exact if_pos (Or.inr (by decide))
            rw [r0]
            exact symL env gok (ai t_rof60_4 false d4 (ai t_rof60_3 false d3 (ai t_rof60_2 false d2 (ai t_rof60_1 false d1 (ai t_rof60_0 true d0 (AlOk.nil _)))))) (hcs0 _) hvs w hI [.int .i64 (-1)] (csT (.lit .i64 (-1)) rfl cs_nil) (by kernel_rfl) (fun G => by kernel_rfl)
          · have d4 : t_rof60_4.den S = some [b2i true] := tr (p := S.ρ 0 ≤ (32 : Int)) (Int.not_lt.1 c4)
            have r0 : ofZ (S.ρ 0) 1152921504606846976 = (-1 : Int) := by exact if_pos (Or.inr (by decide))
            rw [r0]
            exact symL env gok (ai t_rof60_4 true d4 (ai t_rof60_3 false d3 (ai t_rof60_2 false d2 (ai t_rof60_1 false d1 (ai t_rof60_0 true d0 (AlOk.nil _)))))) (hcs0 _) hvs w hI [.int .i64 (-1)] (csT (.lit .i64 (-1)) rfl cs_nil) (by kernel_rfl) (fun G => by kernel_rfl)
        · have d3 : t_rof60_3.den S = some [b2i true] := tr (p := S.ρ 0 ≤ (24 : Int)) (Int.not_lt.1 c3)
          have c4 : ¬ ((32 : Int) < S.ρ 0) := by omega
          have d4 : t_rof60_4.den S = some [b2i true] := tr (p := S.ρ 0 ≤ (32 : Int)) (Int.not_lt.1 c4)
          have r0 : ofZ (S.ρ 0) 1152921504606846976 = (-1 : Int) := by exact if_pos (Or.inr (by decide))
          rw [r0]
          exact symL env gok (ai t_rof60_4 true d4 (ai t_rof60_3 true d3 (ai t_rof60_2 false d2 (ai t_rof60_1 false d1 (ai t_rof60_0 true d0 (AlOk.nil _)))))) (hcs0 _) hvs w hI [.int .i64 (-1)] (csT (.lit .i64 (-1)) rfl cs_nil) (by kernel_rfl) (fun G => by kernel_rfl)
      · have d2 : t_rof60_2.den S = some [b2i true] := tr (p := S.ρ 0 ≤ (16 : Int)) (Int.not_lt.1 c2)
        have c3 : ¬ ((24 : Int) < S.ρ 0) := by omega
        have d3 : t_rof60_3.den S = some [b2i true] := tr (p := S.ρ 0 ≤ (24 : Int)) (Int.not_lt.1 c3)
        have c4 : ¬ ((32 : Int) < S.ρ 0) := by omega
        have d4 : t_rof60_4.den S = some [b2i true] := tr (p := S.ρ 0 ≤ (32 : Int)) (Int.not_lt.1 c4)
        have r0 : ofZ (S.ρ 0) 1152921504606846976 = (-1 : Int) := by exact if_pos (Or.inr (by decide))
        rw [r0]
        exact symL env gok (ai t_rof60_4 true d4 (ai t_rof60_3 true d3 (ai t_rof60_2 true d2 (ai t_rof60_1 false d1 (ai t_rof60_0 true d0 (AlOk.nil _)))))) (hcs0 _) hvs w hI [.int .i64 (-1)] (csT (.lit .i64 (-1)) rfl cs_nil) (by kernel_rfl) (fun G => by kernel_rfl)
    · have d1 : t_rof60_1.den S = some [b2i true] := tr (p := S.ρ 0 ≤ (8 : Int)) (Int.not_lt.1 c1)
      have c2 : ¬ ((16 : Int) < S.ρ 0) := by omega
      have d2 : t_rof60_2.den S = some [b2i true] := tr (p := S.ρ 0 ≤ (16 : Int)) (Int.not_lt.1 c2)
      have c3 : ¬ ((24 : Int) < S.ρ 0) := by omega
      have d3 : t_rof60_3.den S = some [b2i true] := tr (p := S.ρ 0 ≤ (24 : Int)) (Int.not_lt.1 c3)
      have c4 : ¬ ((32 : Int) < S.ρ 0) := by omega
      have d4 : t_rof60_4.den S = some [b2i true] := tr (p := S.ρ 0 ≤ (32 : Int)) (Int.not_lt.1 c4)
      have r0 : ofZ (S.ρ 0) 1152921504606846976 = (-1 : Int) := by exact if_pos (Or.inr (by decide))
      rw [r0]
      exact symL env gok (ai t_rof60_4 true d4 (ai t_rof60_3 true d3 (ai t_rof60_2 true d2 (ai t_rof60_1 true d1 (ai t_rof60_0 true d0 (AlOk.nil _)))))) (hcs0 _) hvs w hI [.int .i64 (-1)] (csT (.lit .i64 (-1)) rfl cs_nil) (by kernel_rfl) (fun G => by kernel_rfl)
  · have d0 : t_rof60_0.den S = some [b2i false] := fls (p := (0 : Int) < S.ρ 0) c0
    have r0 : ofZ (S.ρ 0) 1152921504606846976 = (-1 : Int) := by exact if_pos (Or.inr (by decide))
    rw [r0]
    exact symL env gok (ai t_rof60_0 false d0 (AlOk.nil _)) (hcs0 _) hvs w hI [.int .i64 (-1)] (csT (.lit .i64 (-1)) rfl cs_nil) (by kernel_rfl) (fun G => by kernel_rfl)
def t_rof61_0 : Tm := (.bin .gtr (.var .i64 0) (.lit .i64 0))
def t_rof61_1 : Tm := (.bin .leq (.var .i64 0) (.lit .i64 8))
def t_rof61_2 : Tm := (.bin .leq (.var .i64 0) (.lit .i64 16))
def t_rof61_3 : Tm := (.bin .leq (.var .i64 0) (.lit .i64 24))
def t_rof61_4 : Tm := (.bin .leq (.var .i64 0) (.lit .i64 32))
theorem rof61 (x0 : Int) (w : World) : Calls Try.prog 16 #[.int .i64 x0, .int .i64 2305843009213693952] w fun e w' => e = .returned (bundle (fillP [.one (.int .i64)] [ofZ x0 2305843009213693952])) ∧ Quiet w w' := by
  obtain ⟨S, hS⟩ : ∃ S : Sy, S = ⟨upd (fun _ => 0) [(0, x0)], fun _ _ => 0, [], fun _ h => by simp at h⟩ := ⟨_, rfl⟩
  have i0 : S.ρ 0 = x0 := by rw [hS]; rfl
  have hI : S.I = [] := by rw [hS]
  have hvs : ∀ G ι, VsOk S G ι [vv .i64 0, .int .i64 2305843009213693952] [.int .i64 x0, .int .i64 2305843009213693952] := fun G ι => (vs_sym i0 (vs_int vs_nil))
  subst i0
  by_cases c0 : (0 : Int) < S.ρ 0
  · have d0 : t_rof61_0.den S = some [b2i true] := tr (p := (0 : Int) < S.ρ 0) c0
    by_cases c1 : (8 : Int) < S.ρ 0
    · have d1 : t_rof61_1.den S = some [b2i false] := fls (p := S.ρ 0 ≤ (8 : Int)) (Int.not_le.2 c1)
      by_cases c2 : (16 : Int) < S.ρ 0
      · have d2 : t_rof61_2.den S = some [b2i false] := fls (p := S.ρ 0 ≤ (16 : Int)) (Int.not_le.2 c2)
        by_cases c3 : (24 : Int) < S.ρ 0
        · have d3 : t_rof61_3.den S = some [b2i false] := fls (p := S.ρ 0 ≤ (24 : Int)) (Int.not_le.2 c3)
          by_cases c4 : (32 : Int) < S.ρ 0
          · have d4 : t_rof61_4.den S = some [b2i false] := fls (p := S.ρ 0 ≤ (32 : Int)) (Int.not_le.2 c4)
            have r0 : ofZ (S.ρ 0) 2305843009213693952 = (-1 : Int) := by exact if_pos (Or.inr (by decide))
            rw [r0]
            exact symL env gok (ai t_rof61_4 false d4 (ai t_rof61_3 false d3 (ai t_rof61_2 false d2 (ai t_rof61_1 false d1 (ai t_rof61_0 true d0 (AlOk.nil _)))))) (hcs0 _) hvs w hI [.int .i64 (-1)] (csT (.lit .i64 (-1)) rfl cs_nil) (by kernel_rfl) (fun G => by kernel_rfl)
          · have d4 : t_rof61_4.den S = some [b2i true] := tr (p := S.ρ 0 ≤ (32 : Int)) (Int.not_lt.1 c4)
            have r0 : ofZ (S.ρ 0) 2305843009213693952 = (-1 : Int) := by exact if_pos (Or.inr (by decide))
            rw [r0]
            exact symL env gok (ai t_rof61_4 true d4 (ai t_rof61_3 false d3 (ai t_rof61_2 false d2 (ai t_rof61_1 false d1 (ai t_rof61_0 true d0 (AlOk.nil _)))))) (hcs0 _) hvs w hI [.int .i64 (-1)] (csT (.lit .i64 (-1)) rfl cs_nil) (by kernel_rfl) (fun G => by kernel_rfl)
        · have d3 : t_rof61_3.den S = some [b2i true] := tr (p := S.ρ 0 ≤ (24 : Int)) (Int.not_lt.1 c3)
          have c4 : ¬ ((32 : Int) < S.ρ 0) := by omega
          have d4 : t_rof61_4.den S = some [b2i true] := tr (p := S.ρ 0 ≤ (32 : Int)) (Int.not_lt.1 c4)
          have r0 : ofZ (S.ρ 0) 2305843009213693952 = (-1 : Int) := by exact if_pos (Or.inr (by decide))
          rw [r0]
          exact symL env gok (ai t_rof61_4 true d4 (ai t_rof61_3 true d3 (ai t_rof61_2 false d2 (ai t_rof61_1 false d1 (ai t_rof61_0 true d0 (AlOk.nil _)))))) (hcs0 _) hvs w hI [.int .i64 (-1)] (csT (.lit .i64 (-1)) rfl cs_nil) (by kernel_rfl) (fun G => by kernel_rfl)
      · have d2 : t_rof61_2.den S = some [b2i true] := tr (p := S.ρ 0 ≤ (16 : Int)) (Int.not_lt.1 c2)
        have c3 : ¬ ((24 : Int) < S.ρ 0) := by omega
        have d3 : t_rof61_3.den S = some [b2i true] := tr (p := S.ρ 0 ≤ (24 : Int)) (Int.not_lt.1 c3)
        have c4 : ¬ ((32 : Int) < S.ρ 0) := by omega
        have d4 : t_rof61_4.den S = some [b2i true] := tr (p := S.ρ 0 ≤ (32 : Int)) (Int.not_lt.1 c4)
        have r0 : ofZ (S.ρ 0) 2305843009213693952 = (-1 : Int) := by exact if_pos (Or.inr (by decide))
        rw [r0]
        exact symL env gok (ai t_rof61_4 true d4 (ai t_rof61_3 true d3 (ai t_rof61_2 true d2 (ai t_rof61_1 false d1 (ai t_rof61_0 true d0 (AlOk.nil _)))))) (hcs0 _) hvs w hI [.int .i64 (-1)] (csT (.lit .i64 (-1)) rfl cs_nil) (by kernel_rfl) (fun G => by kernel_rfl)
    · have d1 : t_rof61_1.den S = some [b2i true] := tr (p := S.ρ 0 ≤ (8 : Int)) (Int.not_lt.1 c1)
      have c2 : ¬ ((16 : Int) < S.ρ 0) := by omega
      have d2 : t_rof61_2.den S = some [b2i true] := tr (p := S.ρ 0 ≤ (16 : Int)) (Int.not_lt.1 c2)
      have c3 : ¬ ((24 : Int) < S.ρ 0) := by omega
      have d3 : t_rof61_3.den S = some [b2i true] := tr (p := S.ρ 0 ≤ (24 : Int)) (Int.not_lt.1 c3)
      have c4 : ¬ ((32 : Int) < S.ρ 0) := by omega
      have d4 : t_rof61_4.den S = some [b2i true] := tr (p := S.ρ 0 ≤ (32 : Int)) (Int.not_lt.1 c4)
      have r0 : ofZ (S.ρ 0) 2305843009213693952 = (-1 : Int) := by exact if_pos (Or.inr (by decide))
      rw [r0]
      exact symL env gok (ai t_rof61_4 true d4 (ai t_rof61_3 true d3 (ai t_rof61_2 true d2 (ai t_rof61_1 true d1 (ai t_rof61_0 true d0 (AlOk.nil _)))))) (hcs0 _) hvs w hI [.int .i64 (-1)] (csT (.lit .i64 (-1)) rfl cs_nil) (by kernel_rfl) (fun G => by kernel_rfl)
  · have d0 : t_rof61_0.den S = some [b2i false] := fls (p := (0 : Int) < S.ρ 0) c0
    have r0 : ofZ (S.ρ 0) 2305843009213693952 = (-1 : Int) := by exact if_pos (Or.inr (by decide))
    rw [r0]
    exact symL env gok (ai t_rof61_0 false d0 (AlOk.nil _)) (hcs0 _) hvs w hI [.int .i64 (-1)] (csT (.lit .i64 (-1)) rfl cs_nil) (by kernel_rfl) (fun G => by kernel_rfl)
def t_rof_no_0 : Tm := (.bin .eql (.var .i64 1) (.lit .i64 1))
def t_rof_no_1 : Tm := (.bin .eql (.var .i64 1) (.lit .i64 2))
def t_rof_no_2 : Tm := (.bin .eql (.var .i64 1) (.lit .i64 4))
def t_rof_no_3 : Tm := (.bin .eql (.var .i64 1) (.lit .i64 8))
def t_rof_no_4 : Tm := (.bin .eql (.var .i64 1) (.lit .i64 16))
def t_rof_no_5 : Tm := (.bin .eql (.var .i64 1) (.lit .i64 32))
def t_rof_no_6 : Tm := (.bin .eql (.var .i64 1) (.lit .i64 64))
def t_rof_no_7 : Tm := (.bin .eql (.var .i64 1) (.lit .i64 128))
def t_rof_no_8 : Tm := (.bin .eql (.var .i64 1) (.lit .i64 256))
def t_rof_no_9 : Tm := (.bin .eql (.var .i64 1) (.lit .i64 512))
def t_rof_no_10 : Tm := (.bin .eql (.var .i64 1) (.lit .i64 1024))
def t_rof_no_11 : Tm := (.bin .eql (.var .i64 1) (.lit .i64 2048))
def t_rof_no_12 : Tm := (.bin .eql (.var .i64 1) (.lit .i64 4096))
def t_rof_no_13 : Tm := (.bin .eql (.var .i64 1) (.lit .i64 8192))
def t_rof_no_14 : Tm := (.bin .eql (.var .i64 1) (.lit .i64 16384))
def t_rof_no_15 : Tm := (.bin .eql (.var .i64 1) (.lit .i64 32768))
def t_rof_no_16 : Tm := (.bin .eql (.var .i64 1) (.lit .i64 65536))
def t_rof_no_17 : Tm := (.bin .eql (.var .i64 1) (.lit .i64 131072))
def t_rof_no_18 : Tm := (.bin .eql (.var .i64 1) (.lit .i64 262144))
def t_rof_no_19 : Tm := (.bin .eql (.var .i64 1) (.lit .i64 524288))
def t_rof_no_20 : Tm := (.bin .eql (.var .i64 1) (.lit .i64 1048576))
def t_rof_no_21 : Tm := (.bin .eql (.var .i64 1) (.lit .i64 2097152))
def t_rof_no_22 : Tm := (.bin .eql (.var .i64 1) (.lit .i64 4194304))
def t_rof_no_23 : Tm := (.bin .eql (.var .i64 1) (.lit .i64 8388608))
def t_rof_no_24 : Tm := (.bin .eql (.var .i64 1) (.lit .i64 16777216))
def t_rof_no_25 : Tm := (.bin .eql (.var .i64 1) (.lit .i64 33554432))
def t_rof_no_26 : Tm := (.bin .eql (.var .i64 1) (.lit .i64 67108864))
def t_rof_no_27 : Tm := (.bin .eql (.var .i64 1) (.lit .i64 134217728))
def t_rof_no_28 : Tm := (.bin .eql (.var .i64 1) (.lit .i64 268435456))
def t_rof_no_29 : Tm := (.bin .eql (.var .i64 1) (.lit .i64 536870912))
def t_rof_no_30 : Tm := (.bin .eql (.var .i64 1) (.lit .i64 1073741824))
def t_rof_no_31 : Tm := (.bin .eql (.var .i64 1) (.lit .i64 2147483648))
def t_rof_no_32 : Tm := (.bin .eql (.var .i64 1) (.lit .i64 4294967296))
def t_rof_no_33 : Tm := (.bin .eql (.var .i64 1) (.lit .i64 8589934592))
def t_rof_no_34 : Tm := (.bin .eql (.var .i64 1) (.lit .i64 17179869184))
def t_rof_no_35 : Tm := (.bin .eql (.var .i64 1) (.lit .i64 34359738368))
def t_rof_no_36 : Tm := (.bin .eql (.var .i64 1) (.lit .i64 68719476736))
def t_rof_no_37 : Tm := (.bin .eql (.var .i64 1) (.lit .i64 137438953472))
def t_rof_no_38 : Tm := (.bin .eql (.var .i64 1) (.lit .i64 274877906944))
def t_rof_no_39 : Tm := (.bin .eql (.var .i64 1) (.lit .i64 549755813888))
def t_rof_no_40 : Tm := (.bin .eql (.var .i64 1) (.lit .i64 1099511627776))
def t_rof_no_41 : Tm := (.bin .eql (.var .i64 1) (.lit .i64 2199023255552))
def t_rof_no_42 : Tm := (.bin .eql (.var .i64 1) (.lit .i64 4398046511104))
def t_rof_no_43 : Tm := (.bin .eql (.var .i64 1) (.lit .i64 8796093022208))
def t_rof_no_44 : Tm := (.bin .eql (.var .i64 1) (.lit .i64 17592186044416))
def t_rof_no_45 : Tm := (.bin .eql (.var .i64 1) (.lit .i64 35184372088832))
def t_rof_no_46 : Tm := (.bin .eql (.var .i64 1) (.lit .i64 70368744177664))
def t_rof_no_47 : Tm := (.bin .eql (.var .i64 1) (.lit .i64 140737488355328))
def t_rof_no_48 : Tm := (.bin .eql (.var .i64 1) (.lit .i64 281474976710656))
def t_rof_no_49 : Tm := (.bin .eql (.var .i64 1) (.lit .i64 562949953421312))
def t_rof_no_50 : Tm := (.bin .eql (.var .i64 1) (.lit .i64 1125899906842624))
def t_rof_no_51 : Tm := (.bin .eql (.var .i64 1) (.lit .i64 2251799813685248))
def t_rof_no_52 : Tm := (.bin .eql (.var .i64 1) (.lit .i64 4503599627370496))
def t_rof_no_53 : Tm := (.bin .eql (.var .i64 1) (.lit .i64 9007199254740992))
def t_rof_no_54 : Tm := (.bin .eql (.var .i64 1) (.lit .i64 18014398509481984))
def t_rof_no_55 : Tm := (.bin .eql (.var .i64 1) (.lit .i64 36028797018963968))
def t_rof_no_56 : Tm := (.bin .eql (.var .i64 1) (.lit .i64 72057594037927936))
def t_rof_no_57 : Tm := (.bin .eql (.var .i64 1) (.lit .i64 144115188075855872))
def t_rof_no_58 : Tm := (.bin .eql (.var .i64 1) (.lit .i64 288230376151711744))
def t_rof_no_59 : Tm := (.bin .eql (.var .i64 1) (.lit .i64 576460752303423488))
def t_rof_no_60 : Tm := (.bin .eql (.var .i64 1) (.lit .i64 1152921504606846976))
def t_rof_no_61 : Tm := (.bin .eql (.var .i64 1) (.lit .i64 2305843009213693952))
theorem rof_no (x0 : Int) (x1 : Int) (hx : x1 ≠ 1 ∧ x1 ≠ 2 ∧ x1 ≠ 4 ∧ x1 ≠ 8 ∧ x1 ≠ 16 ∧ x1 ≠ 32 ∧ x1 ≠ 64 ∧ x1 ≠ 128 ∧ x1 ≠ 256 ∧ x1 ≠ 512 ∧ x1 ≠ 1024 ∧ x1 ≠ 2048 ∧ x1 ≠ 4096 ∧ x1 ≠ 8192 ∧ x1 ≠ 16384 ∧ x1 ≠ 32768 ∧ x1 ≠ 65536 ∧ x1 ≠ 131072 ∧ x1 ≠ 262144 ∧ x1 ≠ 524288 ∧ x1 ≠ 1048576 ∧ x1 ≠ 2097152 ∧ x1 ≠ 4194304 ∧ x1 ≠ 8388608 ∧ x1 ≠ 16777216 ∧ x1 ≠ 33554432 ∧ x1 ≠ 67108864 ∧ x1 ≠ 134217728 ∧ x1 ≠ 268435456 ∧ x1 ≠ 536870912 ∧ x1 ≠ 1073741824 ∧ x1 ≠ 2147483648 ∧ x1 ≠ 4294967296 ∧ x1 ≠ 8589934592 ∧ x1 ≠ 17179869184 ∧ x1 ≠ 34359738368 ∧ x1 ≠ 68719476736 ∧ x1 ≠ 137438953472 ∧ x1 ≠ 274877906944 ∧ x1 ≠ 549755813888 ∧ x1 ≠ 1099511627776 ∧ x1 ≠ 2199023255552 ∧ x1 ≠ 4398046511104 ∧ x1 ≠ 8796093022208 ∧ x1 ≠ 17592186044416 ∧ x1 ≠ 35184372088832 ∧ x1 ≠ 70368744177664 ∧ x1 ≠ 140737488355328 ∧ x1 ≠ 281474976710656 ∧ x1 ≠ 562949953421312 ∧ x1 ≠ 1125899906842624 ∧ x1 ≠ 2251799813685248 ∧ x1 ≠ 4503599627370496 ∧ x1 ≠ 9007199254740992 ∧ x1 ≠ 18014398509481984 ∧ x1 ≠ 36028797018963968 ∧ x1 ≠ 72057594037927936 ∧ x1 ≠ 144115188075855872 ∧ x1 ≠ 288230376151711744 ∧ x1 ≠ 576460752303423488 ∧ x1 ≠ 1152921504606846976 ∧ x1 ≠ 2305843009213693952) (w : World) : Calls Try.prog 16 #[.int .i64 x0, .int .i64 x1] w fun e w' => e = .returned (bundle (fillP [.one (.int .i64)] [ofZ x0 x1])) ∧ Quiet w w' := by
  obtain ⟨S, hS⟩ : ∃ S : Sy, S = ⟨upd (fun _ => 0) [(0, x0), (1, x1)], fun _ _ => 0, [], fun _ h => by simp at h⟩ := ⟨_, rfl⟩
  have i0 : S.ρ 0 = x0 := by rw [hS]; rfl
  have i1 : S.ρ 1 = x1 := by rw [hS]; rfl
  have hI : S.I = [] := by rw [hS]
  have hvs : ∀ G ι, VsOk S G ι [vv .i64 0, vv .i64 1] [.int .i64 x0, .int .i64 x1] := fun G ι => (vs_sym i0 (vs_sym i1 vs_nil))
  subst i0
  subst i1
  have c0 : ¬ (S.ρ 1 = (1 : Int)) := by exact (hx.1)
  have d0 : t_rof_no_0.den S = some [b2i false] := fls (p := S.ρ 1 = (1 : Int)) c0
  have c1 : ¬ (S.ρ 1 = (2 : Int)) := by exact (hx.2.1)
  have d1 : t_rof_no_1.den S = some [b2i false] := fls (p := S.ρ 1 = (2 : Int)) c1
  have c2 : ¬ (S.ρ 1 = (4 : Int)) := by exact (hx.2.2.1)
  have d2 : t_rof_no_2.den S = some [b2i false] := fls (p := S.ρ 1 = (4 : Int)) c2
  have c3 : ¬ (S.ρ 1 = (8 : Int)) := by exact (hx.2.2.2.1)
  have d3 : t_rof_no_3.den S = some [b2i false] := fls (p := S.ρ 1 = (8 : Int)) c3
  have c4 : ¬ (S.ρ 1 = (16 : Int)) := by exact (hx.2.2.2.2.1)
  have d4 : t_rof_no_4.den S = some [b2i false] := fls (p := S.ρ 1 = (16 : Int)) c4
  have c5 : ¬ (S.ρ 1 = (32 : Int)) := by exact (hx.2.2.2.2.2.1)
  have d5 : t_rof_no_5.den S = some [b2i false] := fls (p := S.ρ 1 = (32 : Int)) c5
  have c6 : ¬ (S.ρ 1 = (64 : Int)) := by exact (hx.2.2.2.2.2.2.1)
  have d6 : t_rof_no_6.den S = some [b2i false] := fls (p := S.ρ 1 = (64 : Int)) c6
  have c7 : ¬ (S.ρ 1 = (128 : Int)) := by exact (hx.2.2.2.2.2.2.2.1)
  have d7 : t_rof_no_7.den S = some [b2i false] := fls (p := S.ρ 1 = (128 : Int)) c7
  have c8 : ¬ (S.ρ 1 = (256 : Int)) := by exact (hx.2.2.2.2.2.2.2.2.1)
  have d8 : t_rof_no_8.den S = some [b2i false] := fls (p := S.ρ 1 = (256 : Int)) c8
  have c9 : ¬ (S.ρ 1 = (512 : Int)) := by exact (hx.2.2.2.2.2.2.2.2.2.1)
  have d9 : t_rof_no_9.den S = some [b2i false] := fls (p := S.ρ 1 = (512 : Int)) c9
  have c10 : ¬ (S.ρ 1 = (1024 : Int)) := by exact (hx.2.2.2.2.2.2.2.2.2.2.1)
  have d10 : t_rof_no_10.den S = some [b2i false] := fls (p := S.ρ 1 = (1024 : Int)) c10
  have c11 : ¬ (S.ρ 1 = (2048 : Int)) := by exact (hx.2.2.2.2.2.2.2.2.2.2.2.1)
  have d11 : t_rof_no_11.den S = some [b2i false] := fls (p := S.ρ 1 = (2048 : Int)) c11
  have c12 : ¬ (S.ρ 1 = (4096 : Int)) := by exact (hx.2.2.2.2.2.2.2.2.2.2.2.2.1)
  have d12 : t_rof_no_12.den S = some [b2i false] := fls (p := S.ρ 1 = (4096 : Int)) c12
  have c13 : ¬ (S.ρ 1 = (8192 : Int)) := by exact (hx.2.2.2.2.2.2.2.2.2.2.2.2.2.1)
  have d13 : t_rof_no_13.den S = some [b2i false] := fls (p := S.ρ 1 = (8192 : Int)) c13
  have c14 : ¬ (S.ρ 1 = (16384 : Int)) := by exact (hx.2.2.2.2.2.2.2.2.2.2.2.2.2.2.1)
  have d14 : t_rof_no_14.den S = some [b2i false] := fls (p := S.ρ 1 = (16384 : Int)) c14
  have c15 : ¬ (S.ρ 1 = (32768 : Int)) := by exact (hx.2.2.2.2.2.2.2.2.2.2.2.2.2.2.2.1)
  have d15 : t_rof_no_15.den S = some [b2i false] := fls (p := S.ρ 1 = (32768 : Int)) c15
  have c16 : ¬ (S.ρ 1 = (65536 : Int)) := by exact (hx.2.2.2.2.2.2.2.2.2.2.2.2.2.2.2.2.1)
  have d16 : t_rof_no_16.den S = some [b2i false] := fls (p := S.ρ 1 = (65536 : Int)) c16
  have c17 : ¬ (S.ρ 1 = (131072 : Int)) := by exact (hx.2.2.2.2.2.2.2.2.2.2.2.2.2.2.2.2.2.1)
  have d17 : t_rof_no_17.den S = some [b2i false] := fls (p := S.ρ 1 = (131072 : Int)) c17
  have c18 : ¬ (S.ρ 1 = (262144 : Int)) := by exact (hx.2.2.2.2.2.2.2.2.2.2.2.2.2.2.2.2.2.2.1)
  have d18 : t_rof_no_18.den S = some [b2i false] := fls (p := S.ρ 1 = (262144 : Int)) c18
  have c19 : ¬ (S.ρ 1 = (524288 : Int)) := by exact (hx.2.2.2.2.2.2.2.2.2.2.2.2.2.2.2.2.2.2.2.1)
  have d19 : t_rof_no_19.den S = some [b2i false] := fls (p := S.ρ 1 = (524288 : Int)) c19
  have c20 : ¬ (S.ρ 1 = (1048576 : Int)) := by exact (hx.2.2.2.2.2.2.2.2.2.2.2.2.2.2.2.2.2.2.2.2.1)
  have d20 : t_rof_no_20.den S = some [b2i false] := fls (p := S.ρ 1 = (1048576 : Int)) c20
  have c21 : ¬ (S.ρ 1 = (2097152 : Int)) := by exact (hx.2.2.2.2.2.2.2.2.2.2.2.2.2.2.2.2.2.2.2.2.2.1)
  have d21 : t_rof_no_21.den S = some [b2i false] := fls (p := S.ρ 1 = (2097152 : Int)) c21
  have c22 : ¬ (S.ρ 1 = (4194304 : Int)) := by exact (hx.2.2.2.2.2.2.2.2.2.2.2.2.2.2.2.2.2.2.2.2.2.2.1)
  have d22 : t_rof_no_22.den S = some [b2i false] := fls (p := S.ρ 1 = (4194304 : Int)) c22
  have c23 : ¬ (S.ρ 1 = (8388608 : Int)) := by exact (hx.2.2.2.2.2.2.2.2.2.2.2.2.2.2.2.2.2.2.2.2.2.2.2.1)
  have d23 : t_rof_no_23.den S = some [b2i false] := fls (p := S.ρ 1 = (8388608 : Int)) c23
  have c24 : ¬ (S.ρ 1 = (16777216 : Int)) := by exact (hx.2.2.2.2.2.2.2.2.2.2.2.2.2.2.2.2.2.2.2.2.2.2.2.2.1)
  have d24 : t_rof_no_24.den S = some [b2i false] := fls (p := S.ρ 1 = (16777216 : Int)) c24
  have c25 : ¬ (S.ρ 1 = (33554432 : Int)) := by exact (hx.2.2.2.2.2.2.2.2.2.2.2.2.2.2.2.2.2.2.2.2.2.2.2.2.2.1)
  have d25 : t_rof_no_25.den S = some [b2i false] := fls (p := S.ρ 1 = (33554432 : Int)) c25
  have c26 : ¬ (S.ρ 1 = (67108864 : Int)) := by exact (hx.2.2.2.2.2.2.2.2.2.2.2.2.2.2.2.2.2.2.2.2.2.2.2.2.2.2.1)
  have d26 : t_rof_no_26.den S = some [b2i false] := fls (p := S.ρ 1 = (67108864 : Int)) c26
  have c27 : ¬ (S.ρ 1 = (134217728 : Int)) := by exact (hx.2.2.2.2.2.2.2.2.2.2.2.2.2.2.2.2.2.2.2.2.2.2.2.2.2.2.2.1)
  have d27 : t_rof_no_27.den S = some [b2i false] := fls (p := S.ρ 1 = (134217728 : Int)) c27
  have c28 : ¬ (S.ρ 1 = (268435456 : Int)) := by exact (hx.2.2.2.2.2.2.2.2.2.2.2.2.2.2.2.2.2.2.2.2.2.2.2.2.2.2.2.2.1)
  have d28 : t_rof_no_28.den S = some [b2i false] := fls (p := S.ρ 1 = (268435456 : Int)) c28
  have c29 : ¬ (S.ρ 1 = (536870912 : Int)) := by exact (hx.2.2.2.2.2.2.2.2.2.2.2.2.2.2.2.2.2.2.2.2.2.2.2.2.2.2.2.2.2.1)
  have d29 : t_rof_no_29.den S = some [b2i false] := fls (p := S.ρ 1 = (536870912 : Int)) c29
  have c30 : ¬ (S.ρ 1 = (1073741824 : Int)) := by exact (hx.2.2.2.2.2.2.2.2.2.2.2.2.2.2.2.2.2.2.2.2.2.2.2.2.2.2.2.2.2.2.1)
  have d30 : t_rof_no_30.den S = some [b2i false] := fls (p := S.ρ 1 = (1073741824 : Int)) c30
  have c31 : ¬ (S.ρ 1 = (2147483648 : Int)) := by exact (hx.2.2.2.2.2.2.2.2.2.2.2.2.2.2.2.2.2.2.2.2.2.2.2.2.2.2.2.2.2.2.2.1)
  have d31 : t_rof_no_31.den S = some [b2i false] := fls (p := S.ρ 1 = (2147483648 : Int)) c31
  have c32 : ¬ (S.ρ 1 = (4294967296 : Int)) := by exact (hx.2.2.2.2.2.2.2.2.2.2.2.2.2.2.2.2.2.2.2.2.2.2.2.2.2.2.2.2.2.2.2.2.1)
  have d32 : t_rof_no_32.den S = some [b2i false] := fls (p := S.ρ 1 = (4294967296 : Int)) c32
  have c33 : ¬ (S.ρ 1 = (8589934592 : Int)) := by exact (hx.2.2.2.2.2.2.2.2.2.2.2.2.2.2.2.2.2.2.2.2.2.2.2.2.2.2.2.2.2.2.2.2.2.1)
  have d33 : t_rof_no_33.den S = some [b2i false] := fls (p := S.ρ 1 = (8589934592 : Int)) c33
  have c34 : ¬ (S.ρ 1 = (17179869184 : Int)) := by exact (hx.2.2.2.2.2.2.2.2.2.2.2.2.2.2.2.2.2.2.2.2.2.2.2.2.2.2.2.2.2.2.2.2.2.2.1)
  have d34 : t_rof_no_34.den S = some [b2i false] := fls (p := S.ρ 1 = (17179869184 : Int)) c34
  have c35 : ¬ (S.ρ 1 = (34359738368 : Int)) := by exact (hx.2.2.2.2.2.2.2.2.2.2.2.2.2.2.2.2.2.2.2.2.2.2.2.2.2.2.2.2.2.2.2.2.2.2.2.1)
  have d35 : t_rof_no_35.den S = some [b2i false] := fls (p := S.ρ 1 = (34359738368 : Int)) c35
  have c36 : ¬ (S.ρ 1 = (68719476736 : Int)) := by exact (hx.2.2.2.2.2.2.2.2.2.2.2.2.2.2.2.2.2.2.2.2.2.2.2.2.2.2.2.2.2.2.2.2.2.2.2.2.1)
  have d36 : t_rof_no_36.den S = some [b2i false] := fls (p := S.ρ 1 = (68719476736 : Int)) c36
  have c37 : ¬ (S.ρ 1 = (137438953472 : Int)) := by exact (hx.2.2.2.2.2.2.2.2.2.2.2.2.2.2.2.2.2.2.2.2.2.2.2.2.2.2.2.2.2.2.2.2.2.2.2.2.2.1)
  have d37 : t_rof_no_37.den S = some [b2i false] := fls (p := S.ρ 1 = (137438953472 : Int)) c37
  have c38 : ¬ (S.ρ 1 = (274877906944 : Int)) := by exact (hx.2.2.2.2.2.2.2.2.2.2.2.2.2.2.2.2.2.2.2.2.2.2.2.2.2.2.2.2.2.2.2.2.2.2.2.2.2.2.1)
  have d38 : t_rof_no_38.den S = some [b2i false] := fls (p := S.ρ 1 = (274877906944 : Int)) c38
  have c39 : ¬ (S.ρ 1 = (549755813888 : Int)) := by exact (hx.2.2.2.2.2.2.2.2.2.2.2.2.2.2.2.2.2.2.2.2.2.2.2.2.2.2.2.2.2.2.2.2.2.2.2.2.2.2.2.1)
  have d39 : t_rof_no_39.den S = some [b2i false] := fls (p := S.ρ 1 = (549755813888 : Int)) c39
  have c40 : ¬ (S.ρ 1 = (1099511627776 : Int)) := by exact (hx.2.2.2.2.2.2.2.2.2.2.2.2.2.2.2.2.2.2.2.2.2.2.2.2.2.2.2.2.2.2.2.2.2.2.2.2.2.2.2.2.1)
  have d40 : t_rof_no_40.den S = some [b2i false] := fls (p := S.ρ 1 = (1099511627776 : Int)) c40
  have c41 : ¬ (S.ρ 1 = (2199023255552 : Int)) := by exact (hx.2.2.2.2.2.2.2.2.2.2.2.2.2.2.2.2.2.2.2.2.2.2.2.2.2.2.2.2.2.2.2.2.2.2.2.2.2.2.2.2.2.1)
  have d41 : t_rof_no_41.den S = some [b2i false] := fls (p := S.ρ 1 = (2199023255552 : Int)) c41
  have c42 : ¬ (S.ρ 1 = (4398046511104 : Int)) := by exact (hx.2.2.2.2.2.2.2.2.2.2.2.2.2.2.2.2.2.2.2.2.2.2.2.2.2.2.2.2.2.2.2.2.2.2.2.2.2.2.2.2.2.2.1)
  have d42 : t_rof_no_42.den S = some [b2i false] := fls (p := S.ρ 1 = (4398046511104 : Int)) c42
  have c43 : ¬ (S.ρ 1 = (8796093022208 : Int)) := by exact (hx.2.2.2.2.2.2.2.2.2.2.2.2.2.2.2.2.2.2.2.2.2.2.2.2.2.2.2.2.2.2.2.2.2.2.2.2.2.2.2.2.2.2.2.1)
  have d43 : t_rof_no_43.den S = some [b2i false] := fls (p := S.ρ 1 = (8796093022208 : Int)) c43
  have c44 : ¬ (S.ρ 1 = (17592186044416 : Int)) := by exact (hx.2.2.2.2.2.2.2.2.2.2.2.2.2.2.2.2.2.2.2.2.2.2.2.2.2.2.2.2.2.2.2.2.2.2.2.2.2.2.2.2.2.2.2.2.1)
  have d44 : t_rof_no_44.den S = some [b2i false] := fls (p := S.ρ 1 = (17592186044416 : Int)) c44
  have c45 : ¬ (S.ρ 1 = (35184372088832 : Int)) := by exact (hx.2.2.2.2.2.2.2.2.2.2.2.2.2.2.2.2.2.2.2.2.2.2.2.2.2.2.2.2.2.2.2.2.2.2.2.2.2.2.2.2.2.2.2.2.2.1)
  have d45 : t_rof_no_45.den S = some [b2i false] := fls (p := S.ρ 1 = (35184372088832 : Int)) c45
  have c46 : ¬ (S.ρ 1 = (70368744177664 : Int)) := by exact (hx.2.2.2.2.2.2.2.2.2.2.2.2.2.2.2.2.2.2.2.2.2.2.2.2.2.2.2.2.2.2.2.2.2.2.2.2.2.2.2.2.2.2.2.2.2.2.1)
  have d46 : t_rof_no_46.den S = some [b2i false] := fls (p := S.ρ 1 = (70368744177664 : Int)) c46
  have c47 : ¬ (S.ρ 1 = (140737488355328 : Int)) := by exact (hx.2.2.2.2.2.2.2.2.2.2.2.2.2.2.2.2.2.2.2.2.2.2.2.2.2.2.2.2.2.2.2.2.2.2.2.2.2.2.2.2.2.2.2.2.2.2.2.1)
  have d47 : t_rof_no_47.den S = some [b2i false] := fls (p := S.ρ 1 = (140737488355328 : Int)) c47
  have c48 : ¬ (S.ρ 1 = (281474976710656 : Int)) := by exact (hx.2.2.2.2.2.2.2.2.2.2.2.2.2.2.2.2.2.2.2.2.2.2.2.2.2.2.2.2.2.2.2.2.2.2.2.2.2.2.2.2.2.2.2.2.2.2.2.2.1)
  have d48 : t_rof_no_48.den S = some [b2i false] := fls (p := S.ρ 1 = (281474976710656 : Int)) c48
  have c49 : ¬ (S.ρ 1 = (562949953421312 : Int)) := by exact (hx.2.2.2.2.2.2.2.2.2.2.2.2.2.2.2.2.2.2.2.2.2.2.2.2.2.2.2.2.2.2.2.2.2.2.2.2.2.2.2.2.2.2.2.2.2.2.2.2.2.1)
  have d49 : t_rof_no_49.den S = some [b2i false] := fls (p := S.ρ 1 = (562949953421312 : Int)) c49
  have c50 : ¬ (S.ρ 1 = (1125899906842624 : Int)) := by exact (hx.2.2.2.2.2.2.2.2.2.2.2.2.2.2.2.2.2.2.2.2.2.2.2.2.2.2.2.2.2.2.2.2.2.2.2.2.2.2.2.2.2.2.2.2.2.2.2.2.2.2.1)
  have d50 : t_rof_no_50.den S = some [b2i false] := fls (p := S.ρ 1 = (1125899906842624 : Int)) c50
  have c51 : ¬ (S.ρ 1 = (2251799813685248 : Int)) := by exact (hx.2.2.2.2.2.2.2.2.2.2.2.2.2.2.2.2.2.2.2.2.2.2.2.2.2.2.2.2.2.2.2.2.2.2.2.2.2.2.2.2.2.2.2.2.2.2.2.2.2.2.2.1)
  have d51 : t_rof_no_51.den S = some [b2i false] := fls (p := S.ρ 1 = (2251799813685248 : Int)) c51
  have c52 : ¬ (S.ρ 1 = (4503599627370496 : Int)) := by exact (hx.2.2.2.2.2.2.2.2.2.2.2.2.2.2.2.2.2.2.2.2.2.2.2.2.2.2.2.2.2.2.2.2.2.2.2.2.2.2.2.2.2.2.2.2.2.2.2.2.2.2.2.2.1)
  have d52 : t_rof_no_52.den S = some [b2i false] := fls (p := S.ρ 1 = (4503599627370496 : Int)) c52
  have c53 : ¬ (S.ρ 1 = (9007199254740992 : Int)) := by exact (hx.2.2.2.2.2.2.2.2.2.2.2.2.2.2.2.2.2.2.2.2.2.2.2.2.2.2.2.2.2.2.2.2.2.2.2.2.2.2.2.2.2.2.2.2.2.2.2.2.2.2.2.2.2.1)
  have d53 : t_rof_no_53.den S = some [b2i false] := fls (p := S.ρ 1 = (9007199254740992 : Int)) c53
  have c54 : ¬ (S.ρ 1 = (18014398509481984 : Int)) := by exact (hx.2.2.2.2.2.2.2.2.2.2.2.2.2.2.2.2.2.2.2.2.2.2.2.2.2.2.2.2.2.2.2.2.2.2.2.2.2.2.2.2.2.2.2.2.2.2.2.2.2.2.2.2.2.2.1)
  have d54 : t_rof_no_54.den S = some [b2i false] := fls (p := S.ρ 1 = (18014398509481984 : Int)) c54
  have c55 : ¬ (S.ρ 1 = (36028797018963968 : Int)) := by exact (hx.2.2.2.2.2.2.2.2.2.2.2.2.2.2.2.2.2.2.2.2.2.2.2.2.2.2.2.2.2.2.2.2.2.2.2.2.2.2.2.2.2.2.2.2.2.2.2.2.2.2.2.2.2.2.2.1)
  have d55 : t_rof_no_55.den S = some [b2i false] := fls (p := S.ρ 1 = (36028797018963968 : Int)) c55
  have c56 : ¬ (S.ρ 1 = (72057594037927936 : Int)) := by exact (hx.2.2.2.2.2.2.2.2.2.2.2.2.2.2.2.2.2.2.2.2.2.2.2.2.2.2.2.2.2.2.2.2.2.2.2.2.2.2.2.2.2.2.2.2.2.2.2.2.2.2.2.2.2.2.2.2.1)
  have d56 : t_rof_no_56.den S = some [b2i false] := fls (p := S.ρ 1 = (72057594037927936 : Int)) c56
  have c57 : ¬ (S.ρ 1 = (144115188075855872 : Int)) := by exact (hx.2.2.2.2.2.2.2.2.2.2.2.2.2.2.2.2.2.2.2.2.2.2.2.2.2.2.2.2.2.2.2.2.2.2.2.2.2.2.2.2.2.2.2.2.2.2.2.2.2.2.2.2.2.2.2.2.2.1)
  have d57 : t_rof_no_57.den S = some [b2i false] := fls (p := S.ρ 1 = (144115188075855872 : Int)) c57
  have c58 : ¬ (S.ρ 1 = (288230376151711744 : Int)) := by exact (hx.2.2.2.2.2.2.2.2.2.2.2.2.2.2.2.2.2.2.2.2.2.2.2.2.2.2.2.2.2.2.2.2.2.2.2.2.2.2.2.2.2.2.2.2.2.2.2.2.2.2.2.2.2.2.2.2.2.2.1)
  have d58 : t_rof_no_58.den S = some [b2i false] := fls (p := S.ρ 1 = (288230376151711744 : Int)) c58
  have c59 : ¬ (S.ρ 1 = (576460752303423488 : Int)) := by exact (hx.2.2.2.2.2.2.2.2.2.2.2.2.2.2.2.2.2.2.2.2.2.2.2.2.2.2.2.2.2.2.2.2.2.2.2.2.2.2.2.2.2.2.2.2.2.2.2.2.2.2.2.2.2.2.2.2.2.2.2.1)
  have d59 : t_rof_no_59.den S = some [b2i false] := fls (p := S.ρ 1 = (576460752303423488 : Int)) c59
  have c60 : ¬ (S.ρ 1 = (1152921504606846976 : Int)) := by exact (hx.2.2.2.2.2.2.2.2.2.2.2.2.2.2.2.2.2.2.2.2.2.2.2.2.2.2.2.2.2.2.2.2.2.2.2.2.2.2.2.2.2.2.2.2.2.2.2.2.2.2.2.2.2.2.2.2.2.2.2.2.1)
  have d60 : t_rof_no_60.den S = some [b2i false] := fls (p := S.ρ 1 = (1152921504606846976 : Int)) c60
  have c61 : ¬ (S.ρ 1 = (2305843009213693952 : Int)) := by exact (hx.2.2.2.2.2.2.2.2.2.2.2.2.2.2.2.2.2.2.2.2.2.2.2.2.2.2.2.2.2.2.2.2.2.2.2.2.2.2.2.2.2.2.2.2.2.2.2.2.2.2.2.2.2.2.2.2.2.2.2.2.2)
  have d61 : t_rof_no_61.den S = some [b2i false] := fls (p := S.ρ 1 = (2305843009213693952 : Int)) c61
  have r0 : ofZ (S.ρ 0) (S.ρ 1) = (-1 : Int) := by unfold ofZ; rw [if_pos (Or.inr (by unfold Pw; omega))]
  rw [r0]
  exact symL env gok (ai t_rof_no_61 false d61 (ai t_rof_no_60 false d60 (ai t_rof_no_59 false d59 (ai t_rof_no_58 false d58 (ai t_rof_no_57 false d57 (ai t_rof_no_56 false d56 (ai t_rof_no_55 false d55 (ai t_rof_no_54 false d54 (ai t_rof_no_53 false d53 (ai t_rof_no_52 false d52 (ai t_rof_no_51 false d51 (ai t_rof_no_50 false d50 (ai t_rof_no_49 false d49 (ai t_rof_no_48 false d48 (ai t_rof_no_47 false d47 (ai t_rof_no_46 false d46 (ai t_rof_no_45 false d45 (ai t_rof_no_44 false d44 (ai t_rof_no_43 false d43 (ai t_rof_no_42 false d42 (ai t_rof_no_41 false d41 (ai t_rof_no_40 false d40 (ai t_rof_no_39 false d39 (ai t_rof_no_38 false d38 (ai t_rof_no_37 false d37 (ai t_rof_no_36 false d36 (ai t_rof_no_35 false d35 (ai t_rof_no_34 false d34 (ai t_rof_no_33 false d33 (ai t_rof_no_32 false d32 (ai t_rof_no_31 false d31 (ai t_rof_no_30 false d30 (ai t_rof_no_29 false d29 (ai t_rof_no_28 false d28 (ai t_rof_no_27 false d27 (ai t_rof_no_26 false d26 (ai t_rof_no_25 false d25 (ai t_rof_no_24 false d24 (ai t_rof_no_23 false d23 (ai t_rof_no_22 false d22 (ai t_rof_no_21 false d21 (ai t_rof_no_20 false d20 (ai t_rof_no_19 false d19 (ai t_rof_no_18 false d18 (ai t_rof_no_17 false d17 (ai t_rof_no_16 false d16 (ai t_rof_no_15 false d15 (ai t_rof_no_14 false d14 (ai t_rof_no_13 false d13 (ai t_rof_no_12 false d12 (ai t_rof_no_11 false d11 (ai t_rof_no_10 false d10 (ai t_rof_no_9 false d9 (ai t_rof_no_8 false d8 (ai t_rof_no_7 false d7 (ai t_rof_no_6 false d6 (ai t_rof_no_5 false d5 (ai t_rof_no_4 false d4 (ai t_rof_no_3 false d3 (ai t_rof_no_2 false d2 (ai t_rof_no_1 false d1 (ai t_rof_no_0 false d0 (AlOk.nil _))))))))))))))))))))))))))))))))))))))))))))))))))))))))))))))) (hcs0 _) hvs w hI [.int .i64 (-1)] (csT (.lit .i64 (-1)) rfl cs_nil) (by kernel_rfl) (fun G => by kernel_rfl)
theorem rof_any (x0 x1 : Int) (w : World) : Calls Try.prog 16 #[.int .i64 x0, .int .i64 x1] w fun e w' => e = .returned (bundle (fillP [.one (.int .i64)] [ofZ x0 x1])) ∧ Quiet w w' := by
  by_cases h0 : x1 = 1
  · subst h0; exact rof0 x0 w
  by_cases h1 : x1 = 2
  · subst h1; exact rof1 x0 w
  by_cases h2 : x1 = 4
  · subst h2; exact rof2 x0 w
  by_cases h3 : x1 = 8
  · subst h3; exact rof3 x0 w
  by_cases h4 : x1 = 16
  · subst h4; exact rof4 x0 w
  by_cases h5 : x1 = 32
  · subst h5; exact rof5 x0 w
  by_cases h6 : x1 = 64
  · subst h6; exact rof6 x0 w
  by_cases h7 : x1 = 128
  · subst h7; exact rof7 x0 w
  by_cases h8 : x1 = 256
  · subst h8; exact rof8 x0 w
  by_cases h9 : x1 = 512
  · subst h9; exact rof9 x0 w
  by_cases h10 : x1 = 1024
  · subst h10; exact rof10 x0 w
  by_cases h11 : x1 = 2048
  · subst h11; exact rof11 x0 w
  by_cases h12 : x1 = 4096
  · subst h12; exact rof12 x0 w
  by_cases h13 : x1 = 8192
  · subst h13; exact rof13 x0 w
  by_cases h14 : x1 = 16384
  · subst h14; exact rof14 x0 w
  by_cases h15 : x1 = 32768
  · subst h15; exact rof15 x0 w
  by_cases h16 : x1 = 65536
  · subst h16; exact rof16 x0 w
  by_cases h17 : x1 = 131072
  · subst h17; exact rof17 x0 w
  by_cases h18 : x1 = 262144
  · subst h18; exact rof18 x0 w
  by_cases h19 : x1 = 524288
  · subst h19; exact rof19 x0 w
  by_cases h20 : x1 = 1048576
  · subst h20; exact rof20 x0 w
  by_cases h21 : x1 = 2097152
  · subst h21; exact rof21 x0 w
  by_cases h22 : x1 = 4194304
  · subst h22; exact rof22 x0 w
  by_cases h23 : x1 = 8388608
  · subst h23; exact rof23 x0 w
  by_cases h24 : x1 = 16777216
  · subst h24; exact rof24 x0 w
  by_cases h25 : x1 = 33554432
  · subst h25; exact rof25 x0 w
  by_cases h26 : x1 = 67108864
  · subst h26; exact rof26 x0 w
  by_cases h27 : x1 = 134217728
  · subst h27; exact rof27 x0 w
  by_cases h28 : x1 = 268435456
  · subst h28; exact rof28 x0 w
  by_cases h29 : x1 = 536870912
  · subst h29; exact rof29 x0 w
  by_cases h30 : x1 = 1073741824
  · subst h30; exact rof30 x0 w
  by_cases h31 : x1 = 2147483648
  · subst h31; exact rof31 x0 w
  by_cases h32 : x1 = 4294967296
  · subst h32; exact rof32 x0 w
  by_cases h33 : x1 = 8589934592
  · subst h33; exact rof33 x0 w
  by_cases h34 : x1 = 17179869184
  · subst h34; exact rof34 x0 w
  by_cases h35 : x1 = 34359738368
  · subst h35; exact rof35 x0 w
  by_cases h36 : x1 = 68719476736
  · subst h36; exact rof36 x0 w
  by_cases h37 : x1 = 137438953472
  · subst h37; exact rof37 x0 w
  by_cases h38 : x1 = 274877906944
  · subst h38; exact rof38 x0 w
  by_cases h39 : x1 = 549755813888
  · subst h39; exact rof39 x0 w
  by_cases h40 : x1 = 1099511627776
  · subst h40; exact rof40 x0 w
  by_cases h41 : x1 = 2199023255552
  · subst h41; exact rof41 x0 w
  by_cases h42 : x1 = 4398046511104
  · subst h42; exact rof42 x0 w
  by_cases h43 : x1 = 8796093022208
  · subst h43; exact rof43 x0 w
  by_cases h44 : x1 = 17592186044416
  · subst h44; exact rof44 x0 w
  by_cases h45 : x1 = 35184372088832
  · subst h45; exact rof45 x0 w
  by_cases h46 : x1 = 70368744177664
  · subst h46; exact rof46 x0 w
  by_cases h47 : x1 = 140737488355328
  · subst h47; exact rof47 x0 w
  by_cases h48 : x1 = 281474976710656
  · subst h48; exact rof48 x0 w
  by_cases h49 : x1 = 562949953421312
  · subst h49; exact rof49 x0 w
  by_cases h50 : x1 = 1125899906842624
  · subst h50; exact rof50 x0 w
  by_cases h51 : x1 = 2251799813685248
  · subst h51; exact rof51 x0 w
  by_cases h52 : x1 = 4503599627370496
  · subst h52; exact rof52 x0 w
  by_cases h53 : x1 = 9007199254740992
  · subst h53; exact rof53 x0 w
  by_cases h54 : x1 = 18014398509481984
  · subst h54; exact rof54 x0 w
  by_cases h55 : x1 = 36028797018963968
  · subst h55; exact rof55 x0 w
  by_cases h56 : x1 = 72057594037927936
  · subst h56; exact rof56 x0 w
  by_cases h57 : x1 = 144115188075855872
  · subst h57; exact rof57 x0 w
  by_cases h58 : x1 = 288230376151711744
  · subst h58; exact rof58 x0 w
  by_cases h59 : x1 = 576460752303423488
  · subst h59; exact rof59 x0 w
  by_cases h60 : x1 = 1152921504606846976
  · subst h60; exact rof60 x0 w
  by_cases h61 : x1 = 2305843009213693952
  · subst h61; exact rof61 x0 w
  exact rof_no x0 x1 ⟨h0, h1, h2, h3, h4, h5, h6, h7, h8, h9, h10, h11, h12, h13, h14, h15, h16, h17, h18, h19, h20, h21, h22, h23, h24, h25, h26, h27, h28, h29, h30, h31, h32, h33, h34, h35, h36, h37, h38, h39, h40, h41, h42, h43, h44, h45, h46, h47, h48, h49, h50, h51, h52, h53, h54, h55, h56, h57, h58, h59, h60, h61⟩ w
end Go.Proofs.Ythaibdajbpdkcaa
