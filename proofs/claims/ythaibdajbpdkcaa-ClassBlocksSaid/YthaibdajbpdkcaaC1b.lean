/-
  Stage 6: what the functions of package class come to, further ones. Conditions: those each says.
-/
import Derived.Test.YthaibdajbpdkcaaC1a
namespace Go.Proofs.Ythaibdajbpdkcaa
open Go.Ev Go.RowKit
set_option maxRecDepth 100000
def t_rof21_0 : Tm := (.bin .gtr (.var .i64 0) (.lit .i64 0))
def t_rof21_1 : Tm := (.bin .leq (.var .i64 0) (.lit .i64 8))
def t_rof21_2 : Tm := (.bin .leq (.var .i64 0) (.lit .i64 16))
def t_rof21_3 : Tm := (.bin .leq (.var .i64 0) (.lit .i64 24))
def t_rof21_4 : Tm := (.bin .leq (.var .i64 0) (.lit .i64 32))
theorem rof21 (x0 : Int) (w : World) : Calls Try.prog 16 #[.int .i64 x0, .int .i64 2097152] w fun e w' => e = .returned (bundle (fillP [.one (.int .i64)] [ofZ x0 2097152])) ∧ Quiet w w' := by
  obtain ⟨S, hS⟩ : ∃ S : Sy, S = ⟨upd (fun _ => 0) [(0, x0)], fun _ _ => 0, [], fun _ h => by simp at h⟩ := ⟨_, rfl⟩
  have i0 : S.ρ 0 = x0 := by rw [hS]; rfl
  have hI : S.I = [] := by rw [hS]
  have hvs : ∀ G ι, VsOk S G ι [vv .i64 0, .int .i64 2097152] [.int .i64 x0, .int .i64 2097152] := fun G ι => (vs_sym i0 (vs_int vs_nil))
  subst i0
  by_cases c0 : (0 : Int) < S.ρ 0
  · have d0 : t_rof21_0.den S = some [b2i true] := tr (p := (0 : Int) < S.ρ 0) c0
    by_cases c1 : (8 : Int) < S.ρ 0
    · have d1 : t_rof21_1.den S = some [b2i false] := fls (p := S.ρ 0 ≤ (8 : Int)) (Int.not_le.2 c1)
      by_cases c2 : (16 : Int) < S.ρ 0
      · have d2 : t_rof21_2.den S = some [b2i false] := fls (p := S.ρ 0 ≤ (16 : Int)) (Int.not_le.2 c2)
        by_cases c3 : (24 : Int) < S.ρ 0
        · have d3 : t_rof21_3.den S = some [b2i false] := fls (p := S.ρ 0 ≤ (24 : Int)) (Int.not_le.2 c3)
          by_cases c4 : (32 : Int) < S.ρ 0
          · have d4 : t_rof21_4.den S = some [b2i false] := fls (p := S.ρ 0 ≤ (32 : Int)) (Int.not_le.2 c4)
            have r0 : ofZ (S.ρ 0) 2097152 = (-1 : Int) := by exact if_pos (Or.inr (by decide))
            rw [r0]
            exact symL env gok (ai t_rof21_4 false d4 (ai t_rof21_3 false d3 (ai t_rof21_2 false d2 (ai t_rof21_1 false d1 (ai t_rof21_0 true d0 (AlOk.nil _)))))) (hcs0 _) hvs w hI [.int .i64 (-1)] (csT (.lit .i64 (-1)) rfl cs_nil) (by kernel_rfl) (fun G => by kernel_rfl)
          · have d4 : t_rof21_4.den S = some [b2i true] := tr (p := S.ρ 0 ≤ (32 : Int)) (Int.not_lt.1 c4)
            have r0 : ofZ (S.ρ 0) 2097152 = (-1 : Int) := by exact if_pos (Or.inr (by decide))
            rw [r0]
            exact symL env gok (ai t_rof21_4 true d4 (ai t_rof21_3 false d3 (ai t_rof21_2 false d2 (ai t_rof21_1 false d1 (ai t_rof21_0 true d0 (AlOk.nil _)))))) (hcs0 _) hvs w hI [.int .i64 (-1)] (csT (.lit .i64 (-1)) rfl cs_nil) (by kernel_rfl) (fun G => by kernel_rfl)
        · have d3 : t_rof21_3.den S = some [b2i true] := tr (p := S.ρ 0 ≤ (24 : Int)) (Int.not_lt.1 c3)
          have c4 : ¬ ((32 : Int) < S.ρ 0) := by omega
          have d4 : t_rof21_4.den S = some [b2i true] := tr (p := S.ρ 0 ≤ (32 : Int)) (Int.not_lt.1 c4)
          have r0 : ofZ (S.ρ 0) 2097152 = (-1 : Int) := by exact if_pos (Or.inr (by decide))
          rw [r0]
          exact symL env gok (ai t_rof21_4 true d4 (ai t_rof21_3 true d3 (ai t_rof21_2 false d2 (ai t_rof21_1 false d1 (ai t_rof21_0 true d0 (AlOk.nil _)))))) (hcs0 _) hvs w hI [.int .i64 (-1)] (csT (.lit .i64 (-1)) rfl cs_nil) (by kernel_rfl) (fun G => by kernel_rfl)
      · have d2 : t_rof21_2.den S = some [b2i true] := tr (p := S.ρ 0 ≤ (16 : Int)) (Int.not_lt.1 c2)
        have c3 : ¬ ((24 : Int) < S.ρ 0) := by omega
        have d3 : t_rof21_3.den S = some [b2i true] := tr (p := S.ρ 0 ≤ (24 : Int)) (Int.not_lt.1 c3)
        have c4 : ¬ ((32 : Int) < S.ρ 0) := by omega
        have d4 : t_rof21_4.den S = some [b2i true] := tr (p := S.ρ 0 ≤ (32 : Int)) (Int.not_lt.1 c4)
        have r0 : ofZ (S.ρ 0) 2097152 = (-1 : Int) := by exact if_pos (Or.inr (by decide))
        rw [r0]
        exact symL env gok (ai t_rof21_4 true d4 (ai t_rof21_3 true d3 (ai t_rof21_2 true d2 (ai t_rof21_1 false d1 (ai t_rof21_0 true d0 (AlOk.nil _)))))) (hcs0 _) hvs w hI [.int .i64 (-1)] (csT (.lit .i64 (-1)) rfl cs_nil) (by kernel_rfl) (fun G => by kernel_rfl)
    · have d1 : t_rof21_1.den S = some [b2i true] := tr (p := S.ρ 0 ≤ (8 : Int)) (Int.not_lt.1 c1)
      have c2 : ¬ ((16 : Int) < S.ρ 0) := by omega
      have d2 : t_rof21_2.den S = some [b2i true] := tr (p := S.ρ 0 ≤ (16 : Int)) (Int.not_lt.1 c2)
      have c3 : ¬ ((24 : Int) < S.ρ 0) := by omega
      have d3 : t_rof21_3.den S = some [b2i true] := tr (p := S.ρ 0 ≤ (24 : Int)) (Int.not_lt.1 c3)
      have c4 : ¬ ((32 : Int) < S.ρ 0) := by omega
      have d4 : t_rof21_4.den S = some [b2i true] := tr (p := S.ρ 0 ≤ (32 : Int)) (Int.not_lt.1 c4)
      have r0 : ofZ (S.ρ 0) 2097152 = (-1 : Int) := by exact if_pos (Or.inr (by decide))
      rw [r0]
      exact symL env gok (ai t_rof21_4 true d4 (ai t_rof21_3 true d3 (ai t_rof21_2 true d2 (ai t_rof21_1 true d1 (ai t_rof21_0 true d0 (AlOk.nil _)))))) (hcs0 _) hvs w hI [.int .i64 (-1)] (csT (.lit .i64 (-1)) rfl cs_nil) (by kernel_rfl) (fun G => by kernel_rfl)
  · have d0 : t_rof21_0.den S = some [b2i false] := fls (p := (0 : Int) < S.ρ 0) c0
    have r0 : ofZ (S.ρ 0) 2097152 = (-1 : Int) := by exact if_pos (Or.inr (by decide))
    rw [r0]
    exact symL env gok (ai t_rof21_0 false d0 (AlOk.nil _)) (hcs0 _) hvs w hI [.int .i64 (-1)] (csT (.lit .i64 (-1)) rfl cs_nil) (by kernel_rfl) (fun G => by kernel_rfl)
def t_rof22_0 : Tm := (.bin .gtr (.var .i64 0) (.lit .i64 0))
def t_rof22_1 : Tm := (.bin .leq (.var .i64 0) (.lit .i64 8))
def t_rof22_2 : Tm := (.bin .leq (.var .i64 0) (.lit .i64 16))
def t_rof22_3 : Tm := (.bin .leq (.var .i64 0) (.lit .i64 24))
def t_rof22_4 : Tm := (.bin .leq (.var .i64 0) (.lit .i64 32))
theorem rof22 (x0 : Int) (w : World) : Calls Try.prog 16 #[.int .i64 x0, .int .i64 4194304] w fun e w' => e = .returned (bundle (fillP [.one (.int .i64)] [ofZ x0 4194304])) ∧ Quiet w w' := by
  obtain ⟨S, hS⟩ : ∃ S : Sy, S = ⟨upd (fun _ => 0) [(0, x0)], fun _ _ => 0, [], fun _ h => by simp at h⟩ := ⟨_, rfl⟩
  have i0 : S.ρ 0 = x0 := by rw [hS]; rfl
  have hI : S.I = [] := by rw [hS]
  have hvs : ∀ G ι, VsOk S G ι [vv .i64 0, .int .i64 4194304] [.int .i64 x0, .int .i64 4194304] := fun G ι => (vs_sym i0 (vs_int vs_nil))
  subst i0
  by_cases c0 : (0 : Int) < S.ρ 0
  · have d0 : t_rof22_0.den S = some [b2i true] := tr (p := (0 : Int) < S.ρ 0) c0
    by_cases c1 : (8 : Int) < S.ρ 0
    · have d1 : t_rof22_1.den S = some [b2i false] := fls (p := S.ρ 0 ≤ (8 : Int)) (Int.not_le.2 c1)
      by_cases c2 : (16 : Int) < S.ρ 0
      · have d2 : t_rof22_2.den S = some [b2i false] := fls (p := S.ρ 0 ≤ (16 : Int)) (Int.not_le.2 c2)
        by_cases c3 : (24 : Int) < S.ρ 0
        · have d3 : t_rof22_3.den S = some [b2i false] := fls (p := S.ρ 0 ≤ (24 : Int)) (Int.not_le.2 c3)
          by_cases c4 : (32 : Int) < S.ρ 0
          · have d4 : t_rof22_4.den S = some [b2i false] := fls (p := S.ρ 0 ≤ (32 : Int)) (Int.not_le.2 c4)
            have r0 : ofZ (S.ρ 0) 4194304 = (-1 : Int) := by exact if_pos (Or.inr (by decide))
            rw [r0]
            exact symL env gok (ai t_rof22_4 false d4 (ai t_rof22_3 false d3 (ai t_rof22_2 false d2 (ai t_rof22_1 false d1 (ai t_rof22_0 true d0 (AlOk.nil _)))))) (hcs0 _) hvs w hI [.int .i64 (-1)] (csT (.lit .i64 (-1)) rfl cs_nil) (by kernel_rfl) (fun G => by kernel_rfl)
          · have d4 : t_rof22_4.den S = some [b2i true] := tr (p := S.ρ 0 ≤ (32 : Int)) (Int.not_lt.1 c4)
            have r0 : ofZ (S.ρ 0) 4194304 = (-1 : Int) := by exact if_pos (Or.inr (by decide))
            rw [r0]
            exact symL env gok (ai t_rof22_4 true d4 (ai t_rof22_3 false d3 (ai t_rof22_2 false d2 (ai t_rof22_1 false d1 (ai t_rof22_0 true d0 (AlOk.nil _)))))) (hcs0 _) hvs w hI [.int .i64 (-1)] (csT (.lit .i64 (-1)) rfl cs_nil) (by kernel_rfl) (fun G => by kernel_rfl)
        · have d3 : t_rof22_3.den S = some [b2i true] := tr (p := S.ρ 0 ≤ (24 : Int)) (Int.not_lt.1 c3)
          have c4 : ¬ ((32 : Int) < S.ρ 0) := by omega
          have d4 : t_rof22_4.den S = some [b2i true] := tr (p := S.ρ 0 ≤ (32 : Int)) (Int.not_lt.1 c4)
          have r0 : ofZ (S.ρ 0) 4194304 = (-1 : Int) := by exact if_pos (Or.inr (by decide))
          rw [r0]
          exact symL env gok (ai t_rof22_4 true d4 (ai t_rof22_3 true d3 (ai t_rof22_2 false d2 (ai t_rof22_1 false d1 (ai t_rof22_0 true d0 (AlOk.nil _)))))) (hcs0 _) hvs w hI [.int .i64 (-1)] (csT (.lit .i64 (-1)) rfl cs_nil) (by kernel_rfl) (fun G => by kernel_rfl)
      · have d2 : t_rof22_2.den S = some [b2i true] := tr (p := S.ρ 0 ≤ (16 : Int)) (Int.not_lt.1 c2)
        have c3 : ¬ ((24 : Int) < S.ρ 0) := by omega
        have d3 : t_rof22_3.den S = some [b2i true] := tr (p := S.ρ 0 ≤ (24 : Int)) (Int.not_lt.1 c3)
        have c4 : ¬ ((32 : Int) < S.ρ 0) := by omega
        have d4 : t_rof22_4.den S = some [b2i true] := tr (p := S.ρ 0 ≤ (32 : Int)) (Int.not_lt.1 c4)
        have r0 : ofZ (S.ρ 0) 4194304 = (-1 : Int) := by exact if_pos (Or.inr (by decide))
        rw [r0]
        exact symL env gok (ai t_rof22_4 true d4 (ai t_rof22_3 true d3 (ai t_rof22_2 true d2 (ai t_rof22_1 false d1 (ai t_rof22_0 true d0 (AlOk.nil _)))))) (hcs0 _) hvs w hI [.int .i64 (-1)] (csT (.lit .i64 (-1)) rfl cs_nil) (by kernel_rfl) (fun G => by kernel_rfl)
    · have d1 : t_rof22_1.den S = some [b2i true] := tr (p := S.ρ 0 ≤ (8 : Int)) (Int.not_lt.1 c1)
      have c2 : ¬ ((16 : Int) < S.ρ 0) := by omega
      have d2 : t_rof22_2.den S = some [b2i true] := tr (p := S.ρ 0 ≤ (16 : Int)) (Int.not_lt.1 c2)
      have c3 : ¬ ((24 : Int) < S.ρ 0) := by omega
      have d3 : t_rof22_3.den S = some [b2i true] := tr (p := S.ρ 0 ≤ (24 : Int)) (Int.not_lt.1 c3)
      have c4 : ¬ ((32 : Int) < S.ρ 0) := by omega
      have d4 : t_rof22_4.den S = some [b2i true] := tr (p := S.ρ 0 ≤ (32 : Int)) (Int.not_lt.1 c4)
      have r0 : ofZ (S.ρ 0) 4194304 = (-1 : Int) := by exact if_pos (Or.inr (by decide))
      rw [r0]
      exact symL env gok (ai t_rof22_4 true d4 (ai t_rof22_3 true d3 (ai t_rof22_2 true d2 (ai t_rof22_1 true d1 (ai t_rof22_0 true d0 (AlOk.nil _)))))) (hcs0 _) hvs w hI [.int .i64 (-1)] (csT (.lit .i64 (-1)) rfl cs_nil) (by kernel_rfl) (fun G => by kernel_rfl)
  · have d0 : t_rof22_0.den S = some [b2i false] := fls (p := (0 : Int) < S.ρ 0) c0
    have r0 : ofZ (S.ρ 0) 4194304 = (-1 : Int) := by exact if_pos (Or.inr (by decide))
    rw [r0]
    exact symL env gok (ai t_rof22_0 false d0 (AlOk.nil _)) (hcs0 _) hvs w hI [.int .i64 (-1)] (csT (.lit .i64 (-1)) rfl cs_nil) (by kernel_rfl) (fun G => by kernel_rfl)
def t_rof23_0 : Tm := (.bin .gtr (.var .i64 0) (.lit .i64 0))
def t_rof23_1 : Tm := (.bin .leq (.var .i64 0) (.lit .i64 8))
def t_rof23_2 : Tm := (.bin .leq (.var .i64 0) (.lit .i64 16))
def t_rof23_3 : Tm := (.bin .leq (.var .i64 0) (.lit .i64 24))
def t_rof23_4 : Tm := (.bin .leq (.var .i64 0) (.lit .i64 32))
theorem rof23 (x0 : Int) (w : World) : Calls Try.prog 16 #[.int .i64 x0, .int .i64 8388608] w fun e w' => e = .returned (bundle (fillP [.one (.int .i64)] [ofZ x0 8388608])) ∧ Quiet w w' := by
  obtain ⟨S, hS⟩ : ∃ S : Sy, S = ⟨upd (fun _ => 0) [(0, x0)], fun _ _ => 0, [], fun _ h => by simp at h⟩ := ⟨_, rfl⟩
  have i0 : S.ρ 0 = x0 := by rw [hS]; rfl
  have hI : S.I = [] := by rw [hS]
  have hvs : ∀ G ι, VsOk S G ι [vv .i64 0, .int .i64 8388608] [.int .i64 x0, .int .i64 8388608] := fun G ι => (vs_sym i0 (vs_int vs_nil))
  subst i0
  by_cases c0 : (0 : Int) < S.ρ 0
  · have d0 : t_rof23_0.den S = some [b2i true] := tr (p := (0 : Int) < S.ρ 0) c0
    by_cases c1 : (8 : Int) < S.ρ 0
    · have d1 : t_rof23_1.den S = some [b2i false] := fls (p := S.ρ 0 ≤ (8 : Int)) (Int.not_le.2 c1)
      by_cases c2 : (16 : Int) < S.ρ 0
      · have d2 : t_rof23_2.den S = some [b2i false] := fls (p := S.ρ 0 ≤ (16 : Int)) (Int.not_le.2 c2)
        by_cases c3 : (24 : Int) < S.ρ 0
        · have d3 : t_rof23_3.den S = some [b2i false] := fls (p := S.ρ 0 ≤ (24 : Int)) (Int.not_le.2 c3)
          by_cases c4 : (32 : Int) < S.ρ 0
          · have d4 : t_rof23_4.den S = some [b2i false] := fls (p := S.ρ 0 ≤ (32 : Int)) (Int.not_le.2 c4)
            have r0 : ofZ (S.ρ 0) 8388608 = (-1 : Int) := by exact if_pos (Or.inr (by decide))
            rw [r0]
            exact symL env gok (ai t_rof23_4 false d4 (ai t_rof23_3 false d3 (ai t_rof23_2 false d2 (ai t_rof23_1 false d1 (ai t_rof23_0 true d0 (AlOk.nil _)))))) (hcs0 _) hvs w hI [.int .i64 (-1)] (csT (.lit .i64 (-1)) rfl cs_nil) (by kernel_rfl) (fun G => by kernel_rfl)
          · have d4 : t_rof23_4.den S = some [b2i true] := tr (p := S.ρ 0 ≤ (32 : Int)) (Int.not_lt.1 c4)
            have r0 : ofZ (S.ρ 0) 8388608 = (-1 : Int) := by exact if_pos (Or.inr (by decide))
            rw [r0]
            exact symL env gok (ai t_rof23_4 true d4 (ai t_rof23_3 false d3 (ai t_rof23_2 false d2 (ai t_rof23_1 false d1 (ai t_rof23_0 true d0 (AlOk.nil _)))))) (hcs0 _) hvs w hI [.int .i64 (-1)] (csT (.lit .i64 (-1)) rfl cs_nil) (by kernel_rfl) (fun G => by kernel_rfl)
        · have d3 : t_rof23_3.den S = some [b2i true] := tr (p := S.ρ 0 ≤ (24 : Int)) (Int.not_lt.1 c3)
          have c4 : ¬ ((32 : Int) < S.ρ 0) := by omega
          have d4 : t_rof23_4.den S = some [b2i true] := tr (p := S.ρ 0 ≤ (32 : Int)) (Int.not_lt.1 c4)
          have r0 : ofZ (S.ρ 0) 8388608 = (-1 : Int) := by exact if_pos (Or.inr (by decide))
          rw [r0]
          exact symL env gok (ai t_rof23_4 true d4 (ai t_rof23_3 true d3 (ai t_rof23_2 false d2 (ai t_rof23_1 false d1 (ai t_rof23_0 true d0 (AlOk.nil _)))))) (hcs0 _) hvs w hI [.int .i64 (-1)] (csT (.lit .i64 (-1)) rfl cs_nil) (by kernel_rfl) (fun G => by kernel_rfl)
      · have d2 : t_rof23_2.den S = some [b2i true] := tr (p := S.ρ 0 ≤ (16 : Int)) (Int.not_lt.1 c2)
        have c3 : ¬ ((24 : Int) < S.ρ 0) := by omega
        have d3 : t_rof23_3.den S = some [b2i true] := tr (p := S.ρ 0 ≤ (24 : Int)) (Int.not_lt.1 c3)
        have c4 : ¬ ((32 : Int) < S.ρ 0) := by omega
        have d4 : t_rof23_4.den S = some [b2i true] := tr (p := S.ρ 0 ≤ (32 : Int)) (Int.not_lt.1 c4)
        have r0 : ofZ (S.ρ 0) 8388608 = (-1 : Int) := by exact if_pos (Or.inr (by decide))
        rw [r0]
        exact symL env gok (ai t_rof23_4 true d4 (ai t_rof23_3 true d3 (ai t_rof23_2 true d2 (ai t_rof23_1 false d1 (ai t_rof23_0 true d0 (AlOk.nil _)))))) (hcs0 _) hvs w hI [.int .i64 (-1)] (csT (.lit .i64 (-1)) rfl cs_nil) (by kernel_rfl) (fun G => by kernel_rfl)
    · have d1 : t_rof23_1.den S = some [b2i true] := tr (p := S.ρ 0 ≤ (8 : Int)) (Int.not_lt.1 c1)
      have c2 : ¬ ((16 : Int) < S.ρ 0) := by omega
      have d2 : t_rof23_2.den S = some [b2i true] := tr (p := S.ρ 0 ≤ (16 : Int)) (Int.not_lt.1 c2)
      have c3 : ¬ ((24 : Int) < S.ρ 0) := by omega
      have d3 : t_rof23_3.den S = some [b2i true] := tr (p := S.ρ 0 ≤ (24 : Int)) (Int.not_lt.1 c3)
      have c4 : ¬ ((32 : Int) < S.ρ 0) := by omega
      have d4 : t_rof23_4.den S = some [b2i true] := tr (p := S.ρ 0 ≤ (32 : Int)) (Int.not_lt.1 c4)
      have r0 : ofZ (S.ρ 0) 8388608 = (-1 : Int) := by exact if_pos (Or.inr (by decide))
      rw [r0]
      exact symL env gok (ai t_rof23_4 true d4 (ai t_rof23_3 true d3 (ai t_rof23_2 true d2 (ai t_rof23_1 true d1 (ai t_rof23_0 true d0 (AlOk.nil _)))))) (hcs0 _) hvs w hI [.int .i64 (-1)] (csT (.lit .i64 (-1)) rfl cs_nil) (by kernel_rfl) (fun G => by kernel_rfl)
  · have d0 : t_rof23_0.den S = some [b2i false] := fls (p := (0 : Int) < S.ρ 0) c0
    have r0 : ofZ (S.ρ 0) 8388608 = (-1 : Int) := by exact if_pos (Or.inr (by decide))
    rw [r0]
    exact symL env gok (ai t_rof23_0 false d0 (AlOk.nil _)) (hcs0 _) hvs w hI [.int .i64 (-1)] (csT (.lit .i64 (-1)) rfl cs_nil) (by kernel_rfl) (fun G => by kernel_rfl)
def t_rof24_0 : Tm := (.bin .gtr (.var .i64 0) (.lit .i64 0))
def t_rof24_1 : Tm := (.bin .leq (.var .i64 0) (.lit .i64 8))
def t_rof24_2 : Tm := (.bin .leq (.var .i64 0) (.lit .i64 16))
def t_rof24_3 : Tm := (.bin .leq (.var .i64 0) (.lit .i64 24))
def t_rof24_4 : Tm := (.bin .leq (.var .i64 0) (.lit .i64 32))
theorem rof24 (x0 : Int) (w : World) : Calls Try.prog 16 #[.int .i64 x0, .int .i64 16777216] w fun e w' => e = .returned (bundle (fillP [.one (.int .i64)] [ofZ x0 16777216])) ∧ Quiet w w' := by
  obtain ⟨S, hS⟩ : ∃ S : Sy, S = ⟨upd (fun _ => 0) [(0, x0)], fun _ _ => 0, [], fun _ h => by simp at h⟩ := ⟨_, rfl⟩
  have i0 : S.ρ 0 = x0 := by rw [hS]; rfl
  have hI : S.I = [] := by rw [hS]
  have hvs : ∀ G ι, VsOk S G ι [vv .i64 0, .int .i64 16777216] [.int .i64 x0, .int .i64 16777216] := fun G ι => (vs_sym i0 (vs_int vs_nil))
  subst i0
  by_cases c0 : (0 : Int) < S.ρ 0
  · have d0 : t_rof24_0.den S = some [b2i true] := tr (p := (0 : Int) < S.ρ 0) c0
    by_cases c1 : (8 : Int) < S.ρ 0
    · have d1 : t_rof24_1.den S = some [b2i false] := fls (p := S.ρ 0 ≤ (8 : Int)) (Int.not_le.2 c1)
      by_cases c2 : (16 : Int) < S.ρ 0
      · have d2 : t_rof24_2.den S = some [b2i false] := fls (p := S.ρ 0 ≤ (16 : Int)) (Int.not_le.2 c2)
        by_cases c3 : (24 : Int) < S.ρ 0
        · have d3 : t_rof24_3.den S = some [b2i false] := fls (p := S.ρ 0 ≤ (24 : Int)) (Int.not_le.2 c3)
          by_cases c4 : (32 : Int) < S.ρ 0
          · have d4 : t_rof24_4.den S = some [b2i false] := fls (p := S.ρ 0 ≤ (32 : Int)) (Int.not_le.2 c4)
            have r0 : ofZ (S.ρ 0) 16777216 = (-1 : Int) := by exact if_pos (Or.inr (by decide))
            rw [r0]
            exact symL env gok (ai t_rof24_4 false d4 (ai t_rof24_3 false d3 (ai t_rof24_2 false d2 (ai t_rof24_1 false d1 (ai t_rof24_0 true d0 (AlOk.nil _)))))) (hcs0 _) hvs w hI [.int .i64 (-1)] (csT (.lit .i64 (-1)) rfl cs_nil) (by kernel_rfl) (fun G => by kernel_rfl)
          · have d4 : t_rof24_4.den S = some [b2i true] := tr (p := S.ρ 0 ≤ (32 : Int)) (Int.not_lt.1 c4)
            have r0 : ofZ (S.ρ 0) 16777216 = (-1 : Int) := by exact if_pos (Or.inr (by decide))
            rw [r0]
            exact symL env gok (ai t_rof24_4 true d4 (ai t_rof24_3 false d3 (ai t_rof24_2 false d2 (ai t_rof24_1 false d1 (ai t_rof24_0 true d0 (AlOk.nil _)))))) (hcs0 _) hvs w hI [.int .i64 (-1)] (csT (.lit .i64 (-1)) rfl cs_nil) (by kernel_rfl) (fun G => by kernel_rfl)
        · have d3 : t_rof24_3.den S = some [b2i true] := tr (p := S.ρ 0 ≤ (24 : Int)) (Int.not_lt.1 c3)
          have c4 : ¬ ((32 : Int) < S.ρ 0) := by omega
          have d4 : t_rof24_4.den S = some [b2i true] := tr (p := S.ρ 0 ≤ (32 : Int)) (Int.not_lt.1 c4)
          have r0 : ofZ (S.ρ 0) 16777216 = (-1 : Int) := by exact if_pos (Or.inr (by decide))
          rw [r0]
          exact symL env gok (ai t_rof24_4 true d4 (ai t_rof24_3 true d3 (ai t_rof24_2 false d2 (ai t_rof24_1 false d1 (ai t_rof24_0 true d0 (AlOk.nil _)))))) (hcs0 _) hvs w hI [.int .i64 (-1)] (csT (.lit .i64 (-1)) rfl cs_nil) (by kernel_rfl) (fun G => by kernel_rfl)
      · have d2 : t_rof24_2.den S = some [b2i true] := tr (p := S.ρ 0 ≤ (16 : Int)) (Int.not_lt.1 c2)
        have c3 : ¬ ((24 : Int) < S.ρ 0) := by omega
        have d3 : t_rof24_3.den S = some [b2i true] := tr (p := S.ρ 0 ≤ (24 : Int)) (Int.not_lt.1 c3)
        have c4 : ¬ ((32 : Int) < S.ρ 0) := by omega
        have d4 : t_rof24_4.den S = some [b2i true] := tr (p := S.ρ 0 ≤ (32 : Int)) (Int.not_lt.1 c4)
        have r0 : ofZ (S.ρ 0) 16777216 = (-1 : Int) := by exact if_pos (Or.inr (by decide))
        rw [r0]
        exact symL env gok (ai t_rof24_4 true d4 (ai t_rof24_3 true d3 (ai t_rof24_2 true d2 (ai t_rof24_1 false d1 (ai t_rof24_0 true d0 (AlOk.nil _)))))) (hcs0 _) hvs w hI [.int .i64 (-1)] (csT (.lit .i64 (-1)) rfl cs_nil) (by kernel_rfl) (fun G => by kernel_rfl)
    · have d1 : t_rof24_1.den S = some [b2i true] := tr (p := S.ρ 0 ≤ (8 : Int)) (Int.not_lt.1 c1)
      have c2 : ¬ ((16 : Int) < S.ρ 0) := by omega
      have d2 : t_rof24_2.den S = some [b2i true] := tr (p := S.ρ 0 ≤ (16 : Int)) (Int.not_lt.1 c2)
      have c3 : ¬ ((24 : Int) < S.ρ 0) := by omega
      have d3 : t_rof24_3.den S = some [b2i true] := tr (p := S.ρ 0 ≤ (24 : Int)) (Int.not_lt.1 c3)
      have c4 : ¬ ((32 : Int) < S.ρ 0) := by omega
      have d4 : t_rof24_4.den S = some [b2i true] := tr (p := S.ρ 0 ≤ (32 : Int)) (Int.not_lt.1 c4)
      have r0 : ofZ (S.ρ 0) 16777216 = (-1 : Int) := by exact if_pos (Or.inr (by decide))
      rw [r0]
      exact symL env gok (ai t_rof24_4 true d4 (ai t_rof24_3 true d3 (ai t_rof24_2 true d2 (ai t_rof24_1 true d1 (ai t_rof24_0 true d0 (AlOk.nil _)))))) (hcs0 _) hvs w hI [.int .i64 (-1)] (csT (.lit .i64 (-1)) rfl cs_nil) (by kernel_rfl) (fun G => by kernel_rfl)
  · have d0 : t_rof24_0.den S = some [b2i false] := fls (p := (0 : Int) < S.ρ 0) c0
    have r0 : ofZ (S.ρ 0) 16777216 = (-1 : Int) := by exact if_pos (Or.inr (by decide))
    rw [r0]
    exact symL env gok (ai t_rof24_0 false d0 (AlOk.nil _)) (hcs0 _) hvs w hI [.int .i64 (-1)] (csT (.lit .i64 (-1)) rfl cs_nil) (by kernel_rfl) (fun G => by kernel_rfl)
def t_rof25_0 : Tm := (.bin .gtr (.var .i64 0) (.lit .i64 0))
def t_rof25_1 : Tm := (.bin .leq (.var .i64 0) (.lit .i64 8))
def t_rof25_2 : Tm := (.bin .leq (.var .i64 0) (.lit .i64 16))
def t_rof25_3 : Tm := (.bin .leq (.var .i64 0) (.lit .i64 24))
def t_rof25_4 : Tm := (.bin .leq (.var .i64 0) (.lit .i64 32))
theorem rof25 (x0 : Int) (w : World) : Calls Try.prog 16 #[.int .i64 x0, .int .i64 33554432] w fun e w' => e = .returned (bundle (fillP [.one (.int .i64)] [ofZ x0 33554432])) ∧ Quiet w w' := by
  obtain ⟨S, hS⟩ : ∃ S : Sy, S = ⟨upd (fun _ => 0) [(0, x0)], fun _ _ => 0, [], fun _ h => by simp at h⟩ := ⟨_, rfl⟩
  have i0 : S.ρ 0 = x0 := by rw [hS]; rfl
  have hI : S.I = [] := by rw [hS]
  have hvs : ∀ G ι, VsOk S G ι [vv .i64 0, .int .i64 33554432] [.int .i64 x0, .int .i64 33554432] := fun G ι => (vs_sym i0 (vs_int vs_nil))
  subst i0
  by_cases c0 : (0 : Int) < S.ρ 0
  · have d0 : t_rof25_0.den S = some [b2i true] := tr (p := (0 : Int) < S.ρ 0) c0
    by_cases c1 : (8 : Int) < S.ρ 0
    · have d1 : t_rof25_1.den S = some [b2i false] := fls (p := S.ρ 0 ≤ (8 : Int)) (Int.not_le.2 c1)
      by_cases c2 : (16 : Int) < S.ρ 0
      · have d2 : t_rof25_2.den S = some [b2i false] := fls (p := S.ρ 0 ≤ (16 : Int)) (Int.not_le.2 c2)
        by_cases c3 : (24 : Int) < S.ρ 0
        · have d3 : t_rof25_3.den S = some [b2i false] := fls (p := S.ρ 0 ≤ (24 : Int)) (Int.not_le.2 c3)
          by_cases c4 : (32 : Int) < S.ρ 0
          · have d4 : t_rof25_4.den S = some [b2i false] := fls (p := S.ρ 0 ≤ (32 : Int)) (Int.not_le.2 c4)
            have r0 : ofZ (S.ρ 0) 33554432 = (-1 : Int) := by exact if_pos (Or.inr (by decide))
            rw [r0]
            exact symL env gok (ai t_rof25_4 false d4 (ai t_rof25_3 false d3 (ai t_rof25_2 false d2 (ai t_rof25_1 false d1 (ai t_rof25_0 true d0 (AlOk.nil _)))))) (hcs0 _) hvs w hI [.int .i64 (-1)] (csT (.lit .i64 (-1)) rfl cs_nil) (by kernel_rfl) (fun G => by kernel_rfl)
          · have d4 : t_rof25_4.den S = some [b2i true] := tr (p := S.ρ 0 ≤ (32 : Int)) (Int.not_lt.1 c4)
            have r0 : ofZ (S.ρ 0) 33554432 = (-1 : Int) := by exact if_pos (Or.inr (by decide))
            rw [r0]
            exact symL env gok (ai t_rof25_4 true d4 (ai t_rof25_3 false d3 (ai t_rof25_2 false d2 (ai t_rof25_1 false d1 (ai t_rof25_0 true d0 (AlOk.nil _)))))) (hcs0 _) hvs w hI [.int .i64 (-1)] (csT (.lit .i64 (-1)) rfl cs_nil) (by kernel_rfl) (fun G => by kernel_rfl)
        · have d3 : t_rof25_3.den S = some [b2i true] := tr (p := S.ρ 0 ≤ (24 : Int)) (Int.not_lt.1 c3)
          have c4 : ¬ ((32 : Int) < S.ρ 0) := by omega
          have d4 : t_rof25_4.den S = some [b2i true] := tr (p := S.ρ 0 ≤ (32 : Int)) (Int.not_lt.1 c4)
          have r0 : ofZ (S.ρ 0) 33554432 = (-1 : Int) := by exact if_pos (Or.inr (by decide))
          rw [r0]
          exact symL env gok (ai t_rof25_4 true d4 (ai t_rof25_3 true d3 (ai t_rof25_2 false d2 (ai t_rof25_1 false d1 (ai t_rof25_0 true d0 (AlOk.nil _)))))) (hcs0 _) hvs w hI [.int .i64 (-1)] (csT (.lit .i64 (-1)) rfl cs_nil) (by kernel_rfl) (fun G => by kernel_rfl)
      · have d2 : t_rof25_2.den S = some [b2i true] := tr (p := S.ρ 0 ≤ (16 : Int)) (Int.not_lt.1 c2)
        have c3 : ¬ ((24 : Int) < S.ρ 0) := by omega
        have d3 : t_rof25_3.den S = some [b2i true] := tr (p := S.ρ 0 ≤ (24 : Int)) (Int.not_lt.1 c3)
        have c4 : ¬ ((32 : Int) < S.ρ 0) := by omega
        have d4 : t_rof25_4.den S = some [b2i true] := tr (p := S.ρ 0 ≤ (32 : Int)) (Int.not_lt.1 c4)
        have r0 : ofZ (S.ρ 0) 33554432 = (-1 : Int) := by exact if_pos (Or.inr (by decide))
        rw [r0]
        exact symL env gok (ai t_rof25_4 true d4 (ai t_rof25_3 true d3 (ai t_rof25_2 true d2 (ai t_rof25_1 false d1 (ai t_rof25_0 true d0 (AlOk.nil _)))))) (hcs0 _) hvs w hI [.int .i64 (-1)] (csT (.lit .i64 (-1)) rfl cs_nil) (by kernel_rfl) (fun G => by kernel_rfl)
    · have d1 : t_rof25_1.den S = some [b2i true] := tr (p := S.ρ 0 ≤ (8 : Int)) (Int.not_lt.1 c1)
      have c2 : ¬ ((16 : Int) < S.ρ 0) := by omega
      have d2 : t_rof25_2.den S = some [b2i true] := tr (p := S.ρ 0 ≤ (16 : Int)) (Int.not_lt.1 c2)
      have c3 : ¬ ((24 : Int) < S.ρ 0) := by omega
      have d3 : t_rof25_3.den S = some [b2i true] := tr (p := S.ρ 0 ≤ (24 : Int)) (Int.not_lt.1 c3)
      have c4 : ¬ ((32 : Int) < S.ρ 0) := by omega
      have d4 : t_rof25_4.den S = some [b2i true] := tr (p := S.ρ 0 ≤ (32 : Int)) (Int.not_lt.1 c4)
      have r0 : ofZ (S.ρ 0) 33554432 = (-1 : Int) := by exact if_pos (Or.inr (by decide))
      rw [r0]
      exact symL env gok (ai t_rof25_4 true d4 (ai t_rof25_3 true d3 (ai t_rof25_2 true d2 (ai t_rof25_1 true d1 (ai t_rof25_0 true d0 (AlOk.nil _)))))) (hcs0 _) hvs w hI [.int .i64 (-1)] (csT (.lit .i64 (-1)) rfl cs_nil) (by kernel_rfl) (fun G => by kernel_rfl)
  · have d0 : t_rof25_0.den S = some [b2i false] := fls (p := (0 : Int) < S.ρ 0) c0
    have r0 : ofZ (S.ρ 0) 33554432 = (-1 : Int) := by exact if_pos (Or.inr (by decide))
    rw [r0]
    exact symL env gok (ai t_rof25_0 false d0 (AlOk.nil _)) (hcs0 _) hvs w hI [.int .i64 (-1)] (csT (.lit .i64 (-1)) rfl cs_nil) (by kernel_rfl) (fun G => by kernel_rfl)
def t_rof26_0 : Tm := (.bin .gtr (.var .i64 0) (.lit .i64 0))
def t_rof26_1 : Tm := (.bin .leq (.var .i64 0) (.lit .i64 8))
def t_rof26_2 : Tm := (.bin .leq (.var .i64 0) (.lit .i64 16))
def t_rof26_3 : Tm := (.bin .leq (.var .i64 0) (.lit .i64 24))
def t_rof26_4 : Tm := (.bin .leq (.var .i64 0) (.lit .i64 32))
theorem rof26 (x0 : Int) (w : World) : Calls Try.prog 16 #[.int .i64 x0, .int .i64 67108864] w fun e w' => e = .returned (bundle (fillP [.one (.int .i64)] [ofZ x0 67108864])) ∧ Quiet w w' := by
  obtain ⟨S, hS⟩ : ∃ S : Sy, S = ⟨upd (fun _ => 0) [(0, x0)], fun _ _ => 0, [], fun _ h => by simp at h⟩ := ⟨_, rfl⟩
  have i0 : S.ρ 0 = x0 := by rw [hS]; rfl
  have hI : S.I = [] := by rw [hS]
  have hvs : ∀ G ι, VsOk S G ι [vv .i64 0, .int .i64 67108864] [.int .i64 x0, .int .i64 67108864] := fun G ι => (vs_sym i0 (vs_int vs_nil))
  subst i0
  by_cases c0 : (0 : Int) < S.ρ 0
  · have d0 : t_rof26_0.den S = some [b2i true] := tr (p := (0 : Int) < S.ρ 0) c0
    by_cases c1 : (8 : Int) < S.ρ 0
    · have d1 : t_rof26_1.den S = some [b2i false] := fls (p := S.ρ 0 ≤ (8 : Int)) (Int.not_le.2 c1)
      by_cases c2 : (16 : Int) < S.ρ 0
      · have d2 : t_rof26_2.den S = some [b2i false] := fls (p := S.ρ 0 ≤ (16 : Int)) (Int.not_le.2 c2)
        by_cases c3 : (24 : Int) < S.ρ 0
        · have d3 : t_rof26_3.den S = some [b2i false] := fls (p := S.ρ 0 ≤ (24 : Int)) (Int.not_le.2 c3)
          by_cases c4 : (32 : Int) < S.ρ 0
          · have d4 : t_rof26_4.den S = some [b2i false] := fls (p := S.ρ 0 ≤ (32 : Int)) (Int.not_le.2 c4)
            have r0 : ofZ (S.ρ 0) 67108864 = (-1 : Int) := by exact if_pos (Or.inr (by decide))
            rw [r0]
            exact symL env gok (ai t_rof26_4 false d4 (ai t_rof26_3 false d3 (ai t_rof26_2 false d2 (ai t_rof26_1 false d1 (ai t_rof26_0 true d0 (AlOk.nil _)))))) (hcs0 _) hvs w hI [.int .i64 (-1)] (csT (.lit .i64 (-1)) rfl cs_nil) (by kernel_rfl) (fun G => by kernel_rfl)
          · have d4 : t_rof26_4.den S = some [b2i true] := tr (p := S.ρ 0 ≤ (32 : Int)) (Int.not_lt.1 c4)
            have r0 : ofZ (S.ρ 0) 67108864 = (-1 : Int) := by exact if_pos (Or.inr (by decide))
            rw [r0]
            exact symL env gok (ai t_rof26_4 true d4 (ai t_rof26_3 false d3 (ai t_rof26_2 false d2 (ai t_rof26_1 false d1 (ai t_rof26_0 true d0 (AlOk.nil _)))))) (hcs0 _) hvs w hI [.int .i64 (-1)] (csT (.lit .i64 (-1)) rfl cs_nil) (by kernel_rfl) (fun G => by kernel_rfl)
        · have d3 : t_rof26_3.den S = some [b2i true] := tr (p := S.ρ 0 ≤ (24 : Int)) (Int.not_lt.1 c3)
          have c4 : ¬ ((32 : Int) < S.ρ 0) := by omega
          have d4 : t_rof26_4.den S = some [b2i true] := tr (p := S.ρ 0 ≤ (32 : Int)) (Int.not_lt.1 c4)
          have r0 : ofZ (S.ρ 0) 67108864 = (-1 : Int) := by exact if_pos (Or.inr (by decide))
          rw [r0]
          exact symL env gok (ai t_rof26_4 true d4 (ai t_rof26_3 true d3 (ai t_rof26_2 false d2 (ai t_rof26_1 false d1 (ai t_rof26_0 true d0 (AlOk.nil _)))))) (hcs0 _) hvs w hI [.int .i64 (-1)] (csT (.lit .i64 (-1)) rfl cs_nil) (by kernel_rfl) (fun G => by kernel_rfl)
      · have d2 : t_rof26_2.den S = some [b2i true] := tr (p := S.ρ 0 ≤ (16 : Int)) (Int.not_lt.1 c2)
        have c3 : ¬ ((24 : Int) < S.ρ 0) := by omega
        have d3 : t_rof26_3.den S = some [b2i true] := tr (p := S.ρ 0 ≤ (24 : Int)) (Int.not_lt.1 c3)
        have c4 : ¬ ((32 : Int) < S.ρ 0) := by omega
        have d4 : t_rof26_4.den S = some [b2i true] := tr (p := S.ρ 0 ≤ (32 : Int)) (Int.not_lt.1 c4)
        have r0 : ofZ (S.ρ 0) 67108864 = (-1 : Int) := by exact if_pos (Or.inr (by decide))
        rw [r0]
        exact symL env gok (ai t_rof26_4 true d4 (ai t_rof26_3 true d3 (ai t_rof26_2 true d2 (ai t_rof26_1 false d1 (ai t_rof26_0 true d0 (AlOk.nil _)))))) (hcs0 _) hvs w hI [.int .i64 (-1)] (csT (.lit .i64 (-1)) rfl cs_nil) (by kernel_rfl) (fun G => by kernel_rfl)
    · have d1 : t_rof26_1.den S = some [b2i true] := tr (p := S.ρ 0 ≤ (8 : Int)) (Int.not_lt.1 c1)
      have c2 : ¬ ((16 : Int) < S.ρ 0) := by omega
      have d2 : t_rof26_2.den S = some [b2i true] := tr (p := S.ρ 0 ≤ (16 : Int)) (Int.not_lt.1 c2)
      have c3 : ¬ ((24 : Int) < S.ρ 0) := by omega
      have d3 : t_rof26_3.den S = some [b2i true] := tr (p := S.ρ 0 ≤ (24 : Int)) (Int.not_lt.1 c3)
      have c4 : ¬ ((32 : Int) < S.ρ 0) := by omega
      have d4 : t_rof26_4.den S = some [b2i true] := tr (p := S.ρ 0 ≤ (32 : Int)) (Int.not_lt.1 c4)
      have r0 : ofZ (S.ρ 0) 67108864 = (-1 : Int) := by exact if_pos (Or.inr (by decide))
      rw [r0]
      exact symL env gok (ai t_rof26_4 true d4 (ai t_rof26_3 true d3 (ai t_rof26_2 true d2 (ai t_rof26_1 true d1 (ai t_rof26_0 true d0 (AlOk.nil _)))))) (hcs0 _) hvs w hI [.int .i64 (-1)] (csT (.lit .i64 (-1)) rfl cs_nil) (by kernel_rfl) (fun G => by kernel_rfl)
  · have d0 : t_rof26_0.den S = some [b2i false] := fls (p := (0 : Int) < S.ρ 0) c0
    have r0 : ofZ (S.ρ 0) 67108864 = (-1 : Int) := by exact if_pos (Or.inr (by decide))
    rw [r0]
    exact symL env gok (ai t_rof26_0 false d0 (AlOk.nil _)) (hcs0 _) hvs w hI [.int .i64 (-1)] (csT (.lit .i64 (-1)) rfl cs_nil) (by kernel_rfl) (fun G => by kernel_rfl)
def t_rof27_0 : Tm := (.bin .gtr (.var .i64 0) (.lit .i64 0))
def t_rof27_1 : Tm := (.bin .leq (.var .i64 0) (.lit .i64 8))
def t_rof27_2 : Tm := (.bin .leq (.var .i64 0) (.lit .i64 16))
def t_rof27_3 : Tm := (.bin .leq (.var .i64 0) (.lit .i64 24))
def t_rof27_4 : Tm := (.bin .leq (.var .i64 0) (.lit .i64 32))
theorem rof27 (x0 : Int) (w : World) : Calls Try.prog 16 #[.int .i64 x0, .int .i64 134217728] w fun e w' => e = .returned (bundle (fillP [.one (.int .i64)] [ofZ x0 134217728])) ∧ Quiet w w' := by
  obtain ⟨S, hS⟩ : ∃ S : Sy, S = ⟨upd (fun _ => 0) [(0, x0)], fun _ _ => 0, [], fun _ h => by simp at h⟩ := ⟨_, rfl⟩
  have i0 : S.ρ 0 = x0 := by rw [hS]; rfl
  have hI : S.I = [] := by rw [hS]
  have hvs : ∀ G ι, VsOk S G ι [vv .i64 0, .int .i64 134217728] [.int .i64 x0, .int .i64 134217728] := fun G ι => (vs_sym i0 (vs_int vs_nil))
  subst i0
  by_cases c0 : (0 : Int) < S.ρ 0
  · have d0 : t_rof27_0.den S = some [b2i true] := tr (p := (0 : Int) < S.ρ 0) c0
    by_cases c1 : (8 : Int) < S.ρ 0
    · have d1 : t_rof27_1.den S = some [b2i false] := fls (p := S.ρ 0 ≤ (8 : Int)) (Int.not_le.2 c1)
      by_cases c2 : (16 : Int) < S.ρ 0
      · have d2 : t_rof27_2.den S = some [b2i false] := fls (p := S.ρ 0 ≤ (16 : Int)) (Int.not_le.2 c2)
        by_cases c3 : (24 : Int) < S.ρ 0
        · have d3 : t_rof27_3.den S = some [b2i false] := fls (p := S.ρ 0 ≤ (24 : Int)) (Int.not_le.2 c3)
          by_cases c4 : (32 : Int) < S.ρ 0
          · have d4 : t_rof27_4.den S = some [b2i false] := fls (p := S.ρ 0 ≤ (32 : Int)) (Int.not_le.2 c4)
            have r0 : ofZ (S.ρ 0) 134217728 = (-1 : Int) := by exact if_pos (Or.inr (by decide))
            rw [r0]
            exact symL env gok (ai t_rof27_4 false d4 (ai t_rof27_3 false d3 (ai t_rof27_2 false d2 (ai t_rof27_1 false d1 (ai t_rof27_0 true d0 (AlOk.nil _)))))) (hcs0 _) hvs w hI [.int .i64 (-1)] (csT (.lit .i64 (-1)) rfl cs_nil) (by kernel_rfl) (fun G => by kernel_rfl)
          · have d4 : t_rof27_4.den S = some [b2i true] := tr (p := S.ρ 0 ≤ (32 : Int)) (Int.not_lt.1 c4)
            have r0 : ofZ (S.ρ 0) 134217728 = (-1 : Int) := by exact if_pos (Or.inr (by decide))
            rw [r0]
            exact symL env gok (ai t_rof27_4 true d4 (ai t_rof27_3 false d3 (ai t_rof27_2 false d2 (ai t_rof27_1 false d1 (ai t_rof27_0 true d0 (AlOk.nil _)))))) (hcs0 _) hvs w hI [.int .i64 (-1)] (csT (.lit .i64 (-1)) rfl cs_nil) (by kernel_rfl) (fun G => by kernel_rfl)
        · have d3 : t_rof27_3.den S = some [b2i true] := tr (p := S.ρ 0 ≤ (24 : Int)) (Int.not_lt.1 c3)
          have c4 : ¬ ((32 : Int) < S.ρ 0) := by omega
          have d4 : t_rof27_4.den S = some [b2i true] := tr (p := S.ρ 0 ≤ (32 : Int)) (Int.not_lt.1 c4)
          have r0 : ofZ (S.ρ 0) 134217728 = (-1 : Int) := by exact if_pos (Or.inr (by decide))
          rw [r0]
          exact symL env gok (ai t_rof27_4 true d4 (ai t_rof27_3 true d3 (ai t_rof27_2 false d2 (ai t_rof27_1 false d1 (ai t_rof27_0 true d0 (AlOk.nil _)))))) (hcs0 _) hvs w hI [.int .i64 (-1)] (csT (.lit .i64 (-1)) rfl cs_nil) (by kernel_rfl) (fun G => by kernel_rfl)
      · have d2 : t_rof27_2.den S = some [b2i true] := tr (p := S.ρ 0 ≤ (16 : Int)) (Int.not_lt.1 c2)
        have c3 : ¬ ((24 : Int) < S.ρ 0) := by omega
        have d3 : t_rof27_3.den S = some [b2i true] := tr (p := S.ρ 0 ≤ (24 : Int)) (Int.not_lt.1 c3)
        have c4 : ¬ ((32 : Int) < S.ρ 0) := by omega
        have d4 : t_rof27_4.den S = some [b2i true] := tr (p := S.ρ 0 ≤ (32 : Int)) (Int.not_lt.1 c4)
        have r0 : ofZ (S.ρ 0) 134217728 = (-1 : Int) := by exact if_pos (Or.inr (by decide))
        rw [r0]
        exact symL env gok (ai t_rof27_4 true d4 (ai t_rof27_3 true d3 (ai t_rof27_2 true d2 (ai t_rof27_1 false d1 (ai t_rof27_0 true d0 (AlOk.nil _)))))) (hcs0 _) hvs w hI [.int .i64 (-1)] (csT (.lit .i64 (-1)) rfl cs_nil) (by kernel_rfl) (fun G => by kernel_rfl)
    · have d1 : t_rof27_1.den S = some [b2i true] := tr (p := S.ρ 0 ≤ (8 : Int)) (Int.not_lt.1 c1)
      have c2 : ¬ ((16 : Int) < S.ρ 0) := by omega
      have d2 : t_rof27_2.den S = some [b2i true] := tr (p := S.ρ 0 ≤ (16 : Int)) (Int.not_lt.1 c2)
      have c3 : ¬ ((24 : Int) < S.ρ 0) := by omega
      have d3 : t_rof27_3.den S = some [b2i true] := tr (p := S.ρ 0 ≤ (24 : Int)) (Int.not_lt.1 c3)
      have c4 : ¬ ((32 : Int) < S.ρ 0) := by omega
      have d4 : t_rof27_4.den S = some [b2i true] := tr (p := S.ρ 0 ≤ (32 : Int)) (Int.not_lt.1 c4)
      have r0 : ofZ (S.ρ 0) 134217728 = (-1 : Int) := by exact if_pos (Or.inr (by decide))
      rw [r0]
      exact symL env gok (ai t_rof27_4 true d4 (ai t_rof27_3 true d3 (ai t_rof27_2 true d2 (ai t_rof27_1 true d1 (ai t_rof27_0 true d0 (AlOk.nil _)))))) (hcs0 _) hvs w hI [.int .i64 (-1)] (csT (.lit .i64 (-1)) rfl cs_nil) (by kernel_rfl) (fun G => by kernel_rfl)
  · have d0 : t_rof27_0.den S = some [b2i false] := fls (p := (0 : Int) < S.ρ 0) c0
    have r0 : ofZ (S.ρ 0) 134217728 = (-1 : Int) := by exact if_pos (Or.inr (by decide))
    rw [r0]
    exact symL env gok (ai t_rof27_0 false d0 (AlOk.nil _)) (hcs0 _) hvs w hI [.int .i64 (-1)] (csT (.lit .i64 (-1)) rfl cs_nil) (by kernel_rfl) (fun G => by kernel_rfl)
def t_rof28_0 : Tm := (.bin .gtr (.var .i64 0) (.lit .i64 0))
def t_rof28_1 : Tm := (.bin .leq (.var .i64 0) (.lit .i64 8))
def t_rof28_2 : Tm := (.bin .leq (.var .i64 0) (.lit .i64 16))
def t_rof28_3 : Tm := (.bin .leq (.var .i64 0) (.lit .i64 24))
def t_rof28_4 : Tm := (.bin .leq (.var .i64 0) (.lit .i64 32))
theorem rof28 (x0 : Int) (w : World) : Calls Try.prog 16 #[.int .i64 x0, .int .i64 268435456] w fun e w' => e = .returned (bundle (fillP [.one (.int .i64)] [ofZ x0 268435456])) ∧ Quiet w w' := by
  obtain ⟨S, hS⟩ : ∃ S : Sy, S = ⟨upd (fun _ => 0) [(0, x0)], fun _ _ => 0, [], fun _ h => by simp at h⟩ := ⟨_, rfl⟩
  have i0 : S.ρ 0 = x0 := by rw [hS]; rfl
  have hI : S.I = [] := by rw [hS]
  have hvs : ∀ G ι, VsOk S G ι [vv .i64 0, .int .i64 268435456] [.int .i64 x0, .int .i64 268435456] := fun G ι => (vs_sym i0 (vs_int vs_nil))
  subst i0
  by_cases c0 : (0 : Int) < S.ρ 0
  · have d0 : t_rof28_0.den S = some [b2i true] := tr (p := (0 : Int) < S.ρ 0) c0
    by_cases c1 : (8 : Int) < S.ρ 0
    · have d1 : t_rof28_1.den S = some [b2i false] := fls (p := S.ρ 0 ≤ (8 : Int)) (Int.not_le.2 c1)
      by_cases c2 : (16 : Int) < S.ρ 0
      · have d2 : t_rof28_2.den S = some [b2i false] := fls (p := S.ρ 0 ≤ (16 : Int)) (Int.not_le.2 c2)
        by_cases c3 : (24 : Int) < S.ρ 0
        · have d3 : t_rof28_3.den S = some [b2i false] := fls (p := S.ρ 0 ≤ (24 : Int)) (Int.not_le.2 c3)
          by_cases c4 : (32 : Int) < S.ρ 0
          · have d4 : t_rof28_4.den S = some [b2i false] := fls (p := S.ρ 0 ≤ (32 : Int)) (Int.not_le.2 c4)
            have r0 : ofZ (S.ρ 0) 268435456 = (-1 : Int) := by exact if_pos (Or.inr (by decide))
            rw [r0]
            exact symL env gok (ai t_rof28_4 false d4 (ai t_rof28_3 false d3 (ai t_rof28_2 false d2 (ai t_rof28_1 false d1 (ai t_rof28_0 true d0 (AlOk.nil _)))))) (hcs0 _) hvs w hI [.int .i64 (-1)] (csT (.lit .i64 (-1)) rfl cs_nil) (by kernel_rfl) (fun G => by kernel_rfl)
          · have d4 : t_rof28_4.den S = some [b2i true] := tr (p := S.ρ 0 ≤ (32 : Int)) (Int.not_lt.1 c4)
            have r0 : ofZ (S.ρ 0) 268435456 = (-1 : Int) := by exact if_pos (Or.inr (by decide))
            rw [r0]
            exact symL env gok (ai t_rof28_4 true d4 (ai t_rof28_3 false d3 (ai t_rof28_2 false d2 (ai t_rof28_1 false d1 (ai t_rof28_0 true d0 (AlOk.nil _)))))) (hcs0 _) hvs w hI [.int .i64 (-1)] (csT (.lit .i64 (-1)) rfl cs_nil) (by kernel_rfl) (fun G => by kernel_rfl)
        · have d3 : t_rof28_3.den S = some [b2i true] := tr (p := S.ρ 0 ≤ (24 : Int)) (Int.not_lt.1 c3)
          have c4 : ¬ ((32 : Int) < S.ρ 0) := by omega
          have d4 : t_rof28_4.den S = some [b2i true] := tr (p := S.ρ 0 ≤ (32 : Int)) (Int.not_lt.1 c4)
          have r0 : ofZ (S.ρ 0) 268435456 = (-1 : Int) := by exact if_pos (Or.inr (by decide))
          rw [r0]
          exact symL env gok (ai t_rof28_4 true d4 (ai t_rof28_3 true d3 (ai t_rof28_2 false d2 (ai t_rof28_1 false d1 (ai t_rof28_0 true d0 (AlOk.nil _)))))) (hcs0 _) hvs w hI [.int .i64 (-1)] (csT (.lit .i64 (-1)) rfl cs_nil) (by kernel_rfl) (fun G => by kernel_rfl)
      · have d2 : t_rof28_2.den S = some [b2i true] := tr (p := S.ρ 0 ≤ (16 : Int)) (Int.not_lt.1 c2)
        have c3 : ¬ ((24 : Int) < S.ρ 0) := by omega
        have d3 : t_rof28_3.den S = some [b2i true] := tr (p := S.ρ 0 ≤ (24 : Int)) (Int.not_lt.1 c3)
        have c4 : ¬ ((32 : Int) < S.ρ 0) := by omega
        have d4 : t_rof28_4.den S = some [b2i true] := tr (p := S.ρ 0 ≤ (32 : Int)) (Int.not_lt.1 c4)
        have r0 : ofZ (S.ρ 0) 268435456 = (-1 : Int) := by exact if_pos (Or.inr (by decide))
        rw [r0]
        exact symL env gok (ai t_rof28_4 true d4 (ai t_rof28_3 true d3 (ai t_rof28_2 true d2 (ai t_rof28_1 false d1 (ai t_rof28_0 true d0 (AlOk.nil _)))))) (hcs0 _) hvs w hI [.int .i64 (-1)] (csT (.lit .i64 (-1)) rfl cs_nil) (by kernel_rfl) (fun G => by kernel_rfl)
    · have d1 : t_rof28_1.den S = some [b2i true] := tr (p := S.ρ 0 ≤ (8 : Int)) (Int.not_lt.1 c1)
      have c2 : ¬ ((16 : Int) < S.ρ 0) := by omega
      have d2 : t_rof28_2.den S = some [b2i true] := tr (p := S.ρ 0 ≤ (16 : Int)) (Int.not_lt.1 c2)
      have c3 : ¬ ((24 : Int) < S.ρ 0) := by omega
      have d3 : t_rof28_3.den S = some [b2i true] := tr (p := S.ρ 0 ≤ (24 : Int)) (Int.not_lt.1 c3)
      have c4 : ¬ ((32 : Int) < S.ρ 0) := by omega
      have d4 : t_rof28_4.den S = some [b2i true] := tr (p := S.ρ 0 ≤ (32 : Int)) (Int.not_lt.1 c4)
      have r0 : ofZ (S.ρ 0) 268435456 = (-1 : Int) := by exact if_pos (Or.inr (by decide))
      rw [r0]
      exact symL env gok (ai t_rof28_4 true d4 (ai t_rof28_3 true d3 (ai t_rof28_2 true d2 (ai t_rof28_1 true d1 (ai t_rof28_0 true d0 (AlOk.nil _)))))) (hcs0 _) hvs w hI [.int .i64 (-1)] (csT (.lit .i64 (-1)) rfl cs_nil) (by kernel_rfl) (fun G => by kernel_rfl)
  · have d0 : t_rof28_0.den S = some [b2i false] := fls (p := (0 : Int) < S.ρ 0) c0
    have r0 : ofZ (S.ρ 0) 268435456 = (-1 : Int) := by exact if_pos (Or.inr (by decide))
    rw [r0]
    exact symL env gok (ai t_rof28_0 false d0 (AlOk.nil _)) (hcs0 _) hvs w hI [.int .i64 (-1)] (csT (.lit .i64 (-1)) rfl cs_nil) (by kernel_rfl) (fun G => by kernel_rfl)
def t_rof29_0 : Tm := (.bin .gtr (.var .i64 0) (.lit .i64 0))
def t_rof29_1 : Tm := (.bin .leq (.var .i64 0) (.lit .i64 8))
def t_rof29_2 : Tm := (.bin .leq (.var .i64 0) (.lit .i64 16))
def t_rof29_3 : Tm := (.bin .leq (.var .i64 0) (.lit .i64 24))
def t_rof29_4 : Tm := (.bin .leq (.var .i64 0) (.lit .i64 32))
theorem rof29 (x0 : Int) (w : World) : Calls Try.prog 16 #[.int .i64 x0, .int .i64 536870912] w fun e w' => e = .returned (bundle (fillP [.one (.int .i64)] [ofZ x0 536870912])) ∧ Quiet w w' := by
  obtain ⟨S, hS⟩ : ∃ S : Sy, S = ⟨upd (fun _ => 0) [(0, x0)], fun _ _ => 0, [], fun _ h => by simp at h⟩ := ⟨_, rfl⟩
  have i0 : S.ρ 0 = x0 := by rw [hS]; rfl
  have hI : S.I = [] := by rw [hS]
  have hvs : ∀ G ι, VsOk S G ι [vv .i64 0, .int .i64 536870912] [.int .i64 x0, .int .i64 536870912] := fun G ι => (vs_sym i0 (vs_int vs_nil))
  subst i0
  by_cases c0 : (0 : Int) < S.ρ 0
  · have d0 : t_rof29_0.den S = some [b2i true] := tr (p := (0 : Int) < S.ρ 0) c0
    by_cases c1 : (8 : Int) < S.ρ 0
    · have d1 : t_rof29_1.den S = some [b2i false] := fls (p := S.ρ 0 ≤ (8 : Int)) (Int.not_le.2 c1)
      by_cases c2 : (16 : Int) < S.ρ 0
      · have d2 : t_rof29_2.den S = some [b2i false] := fls (p := S.ρ 0 ≤ (16 : Int)) (Int.not_le.2 c2)
        by_cases c3 : (24 : Int) < S.ρ 0
        · have d3 : t_rof29_3.den S = some [b2i false] := fls (p := S.ρ 0 ≤ (24 : Int)) (Int.not_le.2 c3)
          by_cases c4 : (32 : Int) < S.ρ 0
          · have d4 : t_rof29_4.den S = some [b2i false] := fls (p := S.ρ 0 ≤ (32 : Int)) (Int.not_le.2 c4)
            have r0 : ofZ (S.ρ 0) 536870912 = (-1 : Int) := by exact if_pos (Or.inr (by decide))
            rw [r0]
            exact symL env gok (ai t_rof29_4 false d4 (ai t_rof29_3 false d3 (ai t_rof29_2 false d2 (ai t_rof29_1 false d1 (ai t_rof29_0 true d0 (AlOk.nil _)))))) (hcs0 _) hvs w hI [.int .i64 (-1)] (csT (.lit .i64 (-1)) rfl cs_nil) (by kernel_rfl) (fun G => by kernel_rfl)
          · have d4 : t_rof29_4.den S = some [b2i true] := tr (p := S.ρ 0 ≤ (32 : Int)) (Int.not_lt.1 c4)
            have r0 : ofZ (S.ρ 0) 536870912 = (-1 : Int) := by exact if_pos (Or.inr (by decide))
            rw [r0]
            exact symL env gok (ai t_rof29_4 true d4 (ai t_rof29_3 false d3 (ai t_rof29_2 false d2 (ai t_rof29_1 false d1 (ai t_rof29_0 true d0 (AlOk.nil _)))))) (hcs0 _) hvs w hI [.int .i64 (-1)] (csT (.lit .i64 (-1)) rfl cs_nil) (by kernel_rfl) (fun G => by kernel_rfl)
        · have d3 : t_rof29_3.den S = some [b2i true] := tr (p := S.ρ 0 ≤ (24 : Int)) (Int.not_lt.1 c3)
          have c4 : ¬ ((32 : Int) < S.ρ 0) := by omega
          have d4 : t_rof29_4.den S = some [b2i true] := tr (p := S.ρ 0 ≤ (32 : Int)) (Int.not_lt.1 c4)
          have r0 : ofZ (S.ρ 0) 536870912 = (-1 : Int) := by exact if_pos (Or.inr (by decide))
          rw [r0]
          exact symL env gok (ai t_rof29_4 true d4 (ai t_rof29_3 true d3 (ai t_rof29_2 false d2 (ai t_rof29_1 false d1 (ai t_rof29_0 true d0 (AlOk.nil _)))))) (hcs0 _) hvs w hI [.int .i64 (-1)] (csT (.lit .i64 (-1)) rfl cs_nil) (by kernel_rfl) (fun G => by kernel_rfl)
      · have d2 : t_rof29_2.den S = some [b2i true] := tr (p := S.ρ 0 ≤ (16 : Int)) (Int.not_lt.1 c2)
        have c3 : ¬ ((24 : Int) < S.ρ 0) := by omega
        have d3 : t_rof29_3.den S = some [b2i true] := tr (p := S.ρ 0 ≤ (24 : Int)) (Int.not_lt.1 c3)
        have c4 : ¬ ((32 : Int) < S.ρ 0) := by omega
        have d4 : t_rof29_4.den S = some [b2i true] := tr (p := S.ρ 0 ≤ (32 : Int)) (Int.not_lt.1 c4)
        have r0 : ofZ (S.ρ 0) 536870912 = (-1 : Int) := by exact if_pos (Or.inr (by decide))
        rw [r0]
        exact symL env gok (ai t_rof29_4 true d4 (ai t_rof29_3 true d3 (ai t_rof29_2 true d2 (ai t_rof29_1 false d1 (ai t_rof29_0 true d0 (AlOk.nil _)))))) (hcs0 _) hvs w hI [.int .i64 (-1)] (csT (.lit .i64 (-1)) rfl cs_nil) (by kernel_rfl) (fun G => by kernel_rfl)
    · have d1 : t_rof29_1.den S = some [b2i true] := tr (p := S.ρ 0 ≤ (8 : Int)) (Int.not_lt.1 c1)
      have c2 : ¬ ((16 : Int) < S.ρ 0) := by omega
      have d2 : t_rof29_2.den S = some [b2i true] := tr (p := S.ρ 0 ≤ (16 : Int)) (Int.not_lt.1 c2)
      have c3 : ¬ ((24 : Int) < S.ρ 0) := by omega
      have d3 : t_rof29_3.den S = some [b2i true] := tr (p := S.ρ 0 ≤ (24 : Int)) (Int.not_lt.1 c3)
      have c4 : ¬ ((32 : Int) < S.ρ 0) := by omega
      have d4 : t_rof29_4.den S = some [b2i true] := tr (p := S.ρ 0 ≤ (32 : Int)) (Int.not_lt.1 c4)
      have r0 : ofZ (S.ρ 0) 536870912 = (-1 : Int) := by exact if_pos (Or.inr (by decide))
      rw [r0]
      exact symL env gok (ai t_rof29_4 true d4 (ai t_rof29_3 true d3 (ai t_rof29_2 true d2 (ai t_rof29_1 true d1 (ai t_rof29_0 true d0 (AlOk.nil _)))))) (hcs0 _) hvs w hI [.int .i64 (-1)] (csT (.lit .i64 (-1)) rfl cs_nil) (by kernel_rfl) (fun G => by kernel_rfl)
  · have d0 : t_rof29_0.den S = some [b2i false] := fls (p := (0 : Int) < S.ρ 0) c0
    have r0 : ofZ (S.ρ 0) 536870912 = (-1 : Int) := by exact if_pos (Or.inr (by decide))
    rw [r0]
    exact symL env gok (ai t_rof29_0 false d0 (AlOk.nil _)) (hcs0 _) hvs w hI [.int .i64 (-1)] (csT (.lit .i64 (-1)) rfl cs_nil) (by kernel_rfl) (fun G => by kernel_rfl)
def t_rof30_0 : Tm := (.bin .gtr (.var .i64 0) (.lit .i64 0))
def t_rof30_1 : Tm := (.bin .leq (.var .i64 0) (.lit .i64 8))
def t_rof30_2 : Tm := (.bin .leq (.var .i64 0) (.lit .i64 16))
def t_rof30_3 : Tm := (.bin .leq (.var .i64 0) (.lit .i64 24))
def t_rof30_4 : Tm := (.bin .leq (.var .i64 0) (.lit .i64 32))
theorem rof30 (x0 : Int) (w : World) : Calls Try.prog 16 #[.int .i64 x0, .int .i64 1073741824] w fun e w' => e = .returned (bundle (fillP [.one (.int .i64)] [ofZ x0 1073741824])) ∧ Quiet w w' := by
  obtain ⟨S, hS⟩ : ∃ S : Sy, S = ⟨upd (fun _ => 0) [(0, x0)], fun _ _ => 0, [], fun _ h => by simp at h⟩ := ⟨_, rfl⟩
  have i0 : S.ρ 0 = x0 := by rw [hS]; rfl
  have hI : S.I = [] := by rw [hS]
  have hvs : ∀ G ι, VsOk S G ι [vv .i64 0, .int .i64 1073741824] [.int .i64 x0, .int .i64 1073741824] := fun G ι => (vs_sym i0 (vs_int vs_nil))
  subst i0
  by_cases c0 : (0 : Int) < S.ρ 0
  · have d0 : t_rof30_0.den S = some [b2i true] := tr (p := (0 : Int) < S.ρ 0) c0
    by_cases c1 : (8 : Int) < S.ρ 0
    · have d1 : t_rof30_1.den S = some [b2i false] := fls (p := S.ρ 0 ≤ (8 : Int)) (Int.not_le.2 c1)
      by_cases c2 : (16 : Int) < S.ρ 0
      · have d2 : t_rof30_2.den S = some [b2i false] := fls (p := S.ρ 0 ≤ (16 : Int)) (Int.not_le.2 c2)
        by_cases c3 : (24 : Int) < S.ρ 0
        · have d3 : t_rof30_3.den S = some [b2i false] := fls (p := S.ρ 0 ≤ (24 : Int)) (Int.not_le.2 c3)
          by_cases c4 : (32 : Int) < S.ρ 0
          · have d4 : t_rof30_4.den S = some [b2i false] := fls (p := S.ρ 0 ≤ (32 : Int)) (Int.not_le.2 c4)
            have r0 : ofZ (S.ρ 0) 1073741824 = (-1 : Int) := by exact if_pos (Or.inr (by decide))
            rw [r0]
            exact symL env gok (ai t_rof30_4 false d4 (ai t_rof30_3 false d3 (ai t_rof30_2 false d2 (ai t_rof30_1 false d1 (ai t_rof30_0 true d0 (AlOk.nil _)))))) (hcs0 _) hvs w hI [.int .i64 (-1)] (csT (.lit .i64 (-1)) rfl cs_nil) (by kernel_rfl) (fun G => by kernel_rfl)
          · have d4 : t_rof30_4.den S = some [b2i true] := tr (p := S.ρ 0 ≤ (32 : Int)) (Int.not_lt.1 c4)
            have r0 : ofZ (S.ρ 0) 1073741824 = (-1 : Int) := by exact if_pos (Or.inr (by decide))
            rw [r0]
            exact symL env gok (ai t_rof30_4 true d4 (ai t_rof30_3 false d3 (ai t_rof30_2 false d2 (ai t_rof30_1 false d1 (ai t_rof30_0 true d0 (AlOk.nil _)))))) (hcs0 _) hvs w hI [.int .i64 (-1)] (csT (.lit .i64 (-1)) rfl cs_nil) (by kernel_rfl) (fun G => by kernel_rfl)
        · have d3 : t_rof30_3.den S = some [b2i true] := tr (p := S.ρ 0 ≤ (24 : Int)) (Int.not_lt.1 c3)
          have c4 : ¬ ((32 : Int) < S.ρ 0) := by omega
          have d4 : t_rof30_4.den S = some [b2i true] := tr (p := S.ρ 0 ≤ (32 : Int)) (Int.not_lt.1 c4)
          have r0 : ofZ (S.ρ 0) 1073741824 = (-1 : Int) := by exact if_pos (Or.inr (by decide))
          rw [r0]
          exact symL env gok (ai t_rof30_4 true d4 (ai t_rof30_3 true d3 (ai t_rof30_2 false d2 (ai t_rof30_1 false d1 (ai t_rof30_0 true d0 (AlOk.nil _)))))) (hcs0 _) hvs w hI [.int .i64 (-1)] (csT (.lit .i64 (-1)) rfl cs_nil) (by kernel_rfl) (fun G => by kernel_rfl)
      · have d2 : t_rof30_2.den S = some [b2i true] := tr (p := S.ρ 0 ≤ (16 : Int)) (Int.not_lt.1 c2)
        have c3 : ¬ ((24 : Int) < S.ρ 0) := by omega
        have d3 : t_rof30_3.den S = some [b2i true] := tr (p := S.ρ 0 ≤ (24 : Int)) (Int.not_lt.1 c3)
        have c4 : ¬ ((32 : Int) < S.ρ 0) := by omega
        have d4 : t_rof30_4.den S = some [b2i true] := tr (p := S.ρ 0 ≤ (32 : Int)) (Int.not_lt.1 c4)
        have r0 : ofZ (S.ρ 0) 1073741824 = (-1 : Int) := by exact if_pos (Or.inr (by decide))
        rw [r0]
        exact symL env gok (ai t_rof30_4 true d4 (ai t_rof30_3 true d3 (ai t_rof30_2 true d2 (ai t_rof30_1 false d1 (ai t_rof30_0 true d0 (AlOk.nil _)))))) (hcs0 _) hvs w hI [.int .i64 (-1)] (csT (.lit .i64 (-1)) rfl cs_nil) (by kernel_rfl) (fun G => by kernel_rfl)
    · have d1 : t_rof30_1.den S = some [b2i true] := tr (p := S.ρ 0 ≤ (8 : Int)) (Int.not_lt.1 c1)
      have c2 : ¬ ((16 : Int) < S.ρ 0) := by omega
      have d2 : t_rof30_2.den S = some [b2i true] := tr (p := S.ρ 0 ≤ (16 : Int)) (Int.not_lt.1 c2)
      have c3 : ¬ ((24 : Int) < S.ρ 0) := by omega
      have d3 : t_rof30_3.den S = some [b2i true] := tr (p := S.ρ 0 ≤ (24 : Int)) (Int.not_lt.1 c3)
      have c4 : ¬ ((32 : Int) < S.ρ 0) := by omega
      have d4 : t_rof30_4.den S = some [b2i true] := tr (p := S.ρ 0 ≤ (32 : Int)) (Int.not_lt.1 c4)
      have r0 : ofZ (S.ρ 0) 1073741824 = (-1 : Int) := by exact if_pos (Or.inr (by decide))
      rw [r0]
      exact symL env gok (ai t_rof30_4 true d4 (ai t_rof30_3 true d3 (ai t_rof30_2 true d2 (ai t_rof30_1 true d1 (ai t_rof30_0 true d0 (AlOk.nil _)))))) (hcs0 _) hvs w hI [.int .i64 (-1)] (csT (.lit .i64 (-1)) rfl cs_nil) (by kernel_rfl) (fun G => by kernel_rfl)
  · have d0 : t_rof30_0.den S = some [b2i false] := fls (p := (0 : Int) < S.ρ 0) c0
    have r0 : ofZ (S.ρ 0) 1073741824 = (-1 : Int) := by exact if_pos (Or.inr (by decide))
    rw [r0]
    exact symL env gok (ai t_rof30_0 false d0 (AlOk.nil _)) (hcs0 _) hvs w hI [.int .i64 (-1)] (csT (.lit .i64 (-1)) rfl cs_nil) (by kernel_rfl) (fun G => by kernel_rfl)
def t_rof31_0 : Tm := (.bin .gtr (.var .i64 0) (.lit .i64 0))
def t_rof31_1 : Tm := (.bin .leq (.var .i64 0) (.lit .i64 8))
def t_rof31_2 : Tm := (.bin .leq (.var .i64 0) (.lit .i64 16))
def t_rof31_3 : Tm := (.bin .leq (.var .i64 0) (.lit .i64 24))
def t_rof31_4 : Tm := (.bin .leq (.var .i64 0) (.lit .i64 32))
theorem rof31 (x0 : Int) (w : World) : Calls Try.prog 16 #[.int .i64 x0, .int .i64 2147483648] w fun e w' => e = .returned (bundle (fillP [.one (.int .i64)] [ofZ x0 2147483648])) ∧ Quiet w w' := by
  obtain ⟨S, hS⟩ : ∃ S : Sy, S = ⟨upd (fun _ => 0) [(0, x0)], fun _ _ => 0, [], fun _ h => by simp at h⟩ := ⟨_, rfl⟩
  have i0 : S.ρ 0 = x0 := by rw [hS]; rfl
  have hI : S.I = [] := by rw [hS]
  have hvs : ∀ G ι, VsOk S G ι [vv .i64 0, .int .i64 2147483648] [.int .i64 x0, .int .i64 2147483648] := fun G ι => (vs_sym i0 (vs_int vs_nil))
  subst i0
  by_cases c0 : (0 : Int) < S.ρ 0
  · have d0 : t_rof31_0.den S = some [b2i true] := tr (p := (0 : Int) < S.ρ 0) c0
    by_cases c1 : (8 : Int) < S.ρ 0
    · have d1 : t_rof31_1.den S = some [b2i false] := fls (p := S.ρ 0 ≤ (8 : Int)) (Int.not_le.2 c1)
      by_cases c2 : (16 : Int) < S.ρ 0
      · have d2 : t_rof31_2.den S = some [b2i false] := fls (p := S.ρ 0 ≤ (16 : Int)) (Int.not_le.2 c2)
        by_cases c3 : (24 : Int) < S.ρ 0
        · have d3 : t_rof31_3.den S = some [b2i false] := fls (p := S.ρ 0 ≤ (24 : Int)) (Int.not_le.2 c3)
          by_cases c4 : (32 : Int) < S.ρ 0
          · have d4 : t_rof31_4.den S = some [b2i false] := fls (p := S.ρ 0 ≤ (32 : Int)) (Int.not_le.2 c4)
            have r0 : ofZ (S.ρ 0) 2147483648 = (-1 : Int) := by exact if_pos (Or.inr (by decide))
            rw [r0]
            exact symL env gok (ai t_rof31_4 false d4 (ai t_rof31_3 false d3 (ai t_rof31_2 false d2 (ai t_rof31_1 false d1 (ai t_rof31_0 true d0 (AlOk.nil _)))))) (hcs0 _) hvs w hI [.int .i64 (-1)] (csT (.lit .i64 (-1)) rfl cs_nil) (by kernel_rfl) (fun G => by kernel_rfl)
          · have d4 : t_rof31_4.den S = some [b2i true] := tr (p := S.ρ 0 ≤ (32 : Int)) (Int.not_lt.1 c4)
            have r0 : ofZ (S.ρ 0) 2147483648 = (-1 : Int) := by exact if_pos (Or.inr (by decide))
            rw [r0]
            exact symL env gok (ai t_rof31_4 true d4 (ai t_rof31_3 false d3 (ai t_rof31_2 false d2 (ai t_rof31_1 false d1 (ai t_rof31_0 true d0 (AlOk.nil _)))))) (hcs0 _) hvs w hI [.int .i64 (-1)] (csT (.lit .i64 (-1)) rfl cs_nil) (by kernel_rfl) (fun G => by kernel_rfl)
        · have d3 : t_rof31_3.den S = some [b2i true] := tr (p := S.ρ 0 ≤ (24 : Int)) (Int.not_lt.1 c3)
          have c4 : ¬ ((32 : Int) < S.ρ 0) := by omega
          have d4 : t_rof31_4.den S = some [b2i true] := tr (p := S.ρ 0 ≤ (32 : Int)) (Int.not_lt.1 c4)
          have r0 : ofZ (S.ρ 0) 2147483648 = (-1 : Int) := by exact if_pos (Or.inr (by decide))
          rw [r0]
          exact symL env gok (ai t_rof31_4 true d4 (ai t_rof31_3 true d3 (ai t_rof31_2 false d2 (ai t_rof31_1 false d1 (ai t_rof31_0 true d0 (AlOk.nil _)))))) (hcs0 _) hvs w hI [.int .i64 (-1)] (csT (.lit .i64 (-1)) rfl cs_nil) (by kernel_rfl) (fun G => by kernel_rfl)
      · have d2 : t_rof31_2.den S = some [b2i true] := tr (p := S.ρ 0 ≤ (16 : Int)) (Int.not_lt.1 c2)
        have c3 : ¬ ((24 : Int) < S.ρ 0) := by omega
        have d3 : t_rof31_3.den S = some [b2i true] := tr (p := S.ρ 0 ≤ (24 : Int)) (Int.not_lt.1 c3)
        have c4 : ¬ ((32 : Int) < S.ρ 0) := by omega
        have d4 : t_rof31_4.den S = some [b2i true] := tr (p := S.ρ 0 ≤ (32 : Int)) (Int.not_lt.1 c4)
        have r0 : ofZ (S.ρ 0) 2147483648 = (-1 : Int) := by exact if_pos (Or.inr (by decide))
        rw [r0]
        exact symL env gok (ai t_rof31_4 true d4 (ai t_rof31_3 true d3 (ai t_rof31_2 true d2 (ai t_rof31_1 false d1 (ai t_rof31_0 true d0 (AlOk.nil _)))))) (hcs0 _) hvs w hI [.int .i64 (-1)] (csT (.lit .i64 (-1)) rfl cs_nil) (by kernel_rfl) (fun G => by kernel_rfl)
    · have d1 : t_rof31_1.den S = some [b2i true] := tr (p := S.ρ 0 ≤ (8 : Int)) (Int.not_lt.1 c1)
      have c2 : ¬ ((16 : Int) < S.ρ 0) := by omega
      have d2 : t_rof31_2.den S = some [b2i true] := tr (p := S.ρ 0 ≤ (16 : Int)) (Int.not_lt.1 c2)
      have c3 : ¬ ((24 : Int) < S.ρ 0) := by omega
      have d3 : t_rof31_3.den S = some [b2i true] := tr (p := S.ρ 0 ≤ (24 : Int)) (Int.not_lt.1 c3)
      have c4 : ¬ ((32 : Int) < S.ρ 0) := by omega
      have d4 : t_rof31_4.den S = some [b2i true] := tr (p := S.ρ 0 ≤ (32 : Int)) (Int.not_lt.1 c4)
      have r0 : ofZ (S.ρ 0) 2147483648 = (-1 : Int) := by exact if_pos (Or.inr (by decide))
      rw [r0]
      exact symL env gok (ai t_rof31_4 true d4 (ai t_rof31_3 true d3 (ai t_rof31_2 true d2 (ai t_rof31_1 true d1 (ai t_rof31_0 true d0 (AlOk.nil _)))))) (hcs0 _) hvs w hI [.int .i64 (-1)] (csT (.lit .i64 (-1)) rfl cs_nil) (by kernel_rfl) (fun G => by kernel_rfl)
  · have d0 : t_rof31_0.den S = some [b2i false] := fls (p := (0 : Int) < S.ρ 0) c0
    have r0 : ofZ (S.ρ 0) 2147483648 = (-1 : Int) := by exact if_pos (Or.inr (by decide))
    rw [r0]
    exact symL env gok (ai t_rof31_0 false d0 (AlOk.nil _)) (hcs0 _) hvs w hI [.int .i64 (-1)] (csT (.lit .i64 (-1)) rfl cs_nil) (by kernel_rfl) (fun G => by kernel_rfl)
def t_rof32_0 : Tm := (.bin .gtr (.var .i64 0) (.lit .i64 0))
def t_rof32_1 : Tm := (.bin .leq (.var .i64 0) (.lit .i64 8))
def t_rof32_2 : Tm := (.bin .leq (.var .i64 0) (.lit .i64 16))
def t_rof32_3 : Tm := (.bin .leq (.var .i64 0) (.lit .i64 24))
def t_rof32_4 : Tm := (.bin .leq (.var .i64 0) (.lit .i64 32))
theorem rof32 (x0 : Int) (w : World) : Calls Try.prog 16 #[.int .i64 x0, .int .i64 4294967296] w fun e w' => e = .returned (bundle (fillP [.one (.int .i64)] [ofZ x0 4294967296])) ∧ Quiet w w' := by
  obtain ⟨S, hS⟩ : ∃ S : Sy, S = ⟨upd (fun _ => 0) [(0, x0)], fun _ _ => 0, [], fun _ h => by simp at h⟩ := ⟨_, rfl⟩
  have i0 : S.ρ 0 = x0 := by rw [hS]; rfl
  have hI : S.I = [] := by rw [hS]
  have hvs : ∀ G ι, VsOk S G ι [vv .i64 0, .int .i64 4294967296] [.int .i64 x0, .int .i64 4294967296] := fun G ι => (vs_sym i0 (vs_int vs_nil))
  subst i0
  by_cases c0 : (0 : Int) < S.ρ 0
  · have d0 : t_rof32_0.den S = some [b2i true] := tr (p := (0 : Int) < S.ρ 0) c0
    by_cases c1 : (8 : Int) < S.ρ 0
    · have d1 : t_rof32_1.den S = some [b2i false] := fls (p := S.ρ 0 ≤ (8 : Int)) (Int.not_le.2 c1)
      by_cases c2 : (16 : Int) < S.ρ 0
      · have d2 : t_rof32_2.den S = some [b2i false] := fls (p := S.ρ 0 ≤ (16 : Int)) (Int.not_le.2 c2)
        by_cases c3 : (24 : Int) < S.ρ 0
        · have d3 : t_rof32_3.den S = some [b2i false] := fls (p := S.ρ 0 ≤ (24 : Int)) (Int.not_le.2 c3)
          by_cases c4 : (32 : Int) < S.ρ 0
          · have d4 : t_rof32_4.den S = some [b2i false] := fls (p := S.ρ 0 ≤ (32 : Int)) (Int.not_le.2 c4)
            have r0 : ofZ (S.ρ 0) 4294967296 = (-1 : Int) := by exact if_pos (Or.inr (by decide))
            rw [r0]
            exact symL env gok (ai t_rof32_4 false d4 (ai t_rof32_3 false d3 (ai t_rof32_2 false d2 (ai t_rof32_1 false d1 (ai t_rof32_0 true d0 (AlOk.nil _)))))) (hcs0 _) hvs w hI [.int .i64 (-1)] (csT (.lit .i64 (-1)) rfl cs_nil) (by kernel_rfl) (fun G => by kernel_rfl)
          · have d4 : t_rof32_4.den S = some [b2i true] := tr (p := S.ρ 0 ≤ (32 : Int)) (Int.not_lt.1 c4)
            have r0 : ofZ (S.ρ 0) 4294967296 = (-1 : Int) := by exact if_pos (Or.inr (by decide))
            rw [r0]
            exact symL env gok (ai t_rof32_4 true d4 (ai t_rof32_3 false d3 (ai t_rof32_2 false d2 (ai t_rof32_1 false d1 (ai t_rof32_0 true d0 (AlOk.nil _)))))) (hcs0 _) hvs w hI [.int .i64 (-1)] (csT (.lit .i64 (-1)) rfl cs_nil) (by kernel_rfl) (fun G => by kernel_rfl)
        · have d3 : t_rof32_3.den S = some [b2i true] := tr (p := S.ρ 0 ≤ (24 : Int)) (Int.not_lt.1 c3)
          have c4 : ¬ ((32 : Int) < S.ρ 0) := by omega
          have d4 : t_rof32_4.den S = some [b2i true] := tr (p := S.ρ 0 ≤ (32 : Int)) (Int.not_lt.1 c4)
          have r0 : ofZ (S.ρ 0) 4294967296 = (-1 : Int) := by exact if_pos (Or.inr (by decide))
          rw [r0]
          exact symL env gok (ai t_rof32_4 true d4 (ai t_rof32_3 true d3 (ai t_rof32_2 false d2 (ai t_rof32_1 false d1 (ai t_rof32_0 true d0 (AlOk.nil _)))))) (hcs0 _) hvs w hI [.int .i64 (-1)] (csT (.lit .i64 (-1)) rfl cs_nil) (by kernel_rfl) (fun G => by kernel_rfl)
      · have d2 : t_rof32_2.den S = some [b2i true] := tr (p := S.ρ 0 ≤ (16 : Int)) (Int.not_lt.1 c2)
        have c3 : ¬ ((24 : Int) < S.ρ 0) := by omega
        have d3 : t_rof32_3.den S = some [b2i true] := tr (p := S.ρ 0 ≤ (24 : Int)) (Int.not_lt.1 c3)
        have c4 : ¬ ((32 : Int) < S.ρ 0) := by omega
        have d4 : t_rof32_4.den S = some [b2i true] := tr (p := S.ρ 0 ≤ (32 : Int)) (Int.not_lt.1 c4)
        have r0 : ofZ (S.ρ 0) 4294967296 = (-1 : Int) := by exact if_pos (Or.inr (by decide))
        rw [r0]
        exact symL env gok (ai t_rof32_4 true d4 (ai t_rof32_3 true d3 (ai t_rof32_2 true d2 (ai t_rof32_1 false d1 (ai t_rof32_0 true d0 (AlOk.nil _)))))) (hcs0 _) hvs w hI [.int .i64 (-1)] (csT (.lit .i64 (-1)) rfl cs_nil) (by kernel_rfl) (fun G => by kernel_rfl)
    · have d1 : t_rof32_1.den S = some [b2i true] := tr (p := S.ρ 0 ≤ (8 : Int)) (Int.not_lt.1 c1)
      have c2 : ¬ ((16 : Int) < S.ρ 0) := by omega
      have d2 : t_rof32_2.den S = some [b2i true] := tr (p := S.ρ 0 ≤ (16 : Int)) (Int.not_lt.1 c2)
      have c3 : ¬ ((24 : Int) < S.ρ 0) := by omega
      have d3 : t_rof32_3.den S = some [b2i true] := tr (p := S.ρ 0 ≤ (24 : Int)) (Int.not_lt.1 c3)
      have c4 : ¬ ((32 : Int) < S.ρ 0) := by omega
      have d4 : t_rof32_4.den S = some [b2i true] := tr (p := S.ρ 0 ≤ (32 : Int)) (Int.not_lt.1 c4)
      have r0 : ofZ (S.ρ 0) 4294967296 = (-1 : Int) := by exact if_pos (Or.inr (by decide))
      rw [r0]
      exact symL env gok (ai t_rof32_4 true d4 (ai t_rof32_3 true d3 (ai t_rof32_2 true d2 (ai t_rof32_1 true d1 (ai t_rof32_0 true d0 (AlOk.nil _)))))) (hcs0 _) hvs w hI [.int .i64 (-1)] (csT (.lit .i64 (-1)) rfl cs_nil) (by kernel_rfl) (fun G => by kernel_rfl)
  · have d0 : t_rof32_0.den S = some [b2i false] := fls (p := (0 : Int) < S.ρ 0) c0
    have r0 : ofZ (S.ρ 0) 4294967296 = (-1 : Int) := by exact if_pos (Or.inr (by decide))
    rw [r0]
    exact symL env gok (ai t_rof32_0 false d0 (AlOk.nil _)) (hcs0 _) hvs w hI [.int .i64 (-1)] (csT (.lit .i64 (-1)) rfl cs_nil) (by kernel_rfl) (fun G => by kernel_rfl)
def t_rof33_0 : Tm := (.bin .gtr (.var .i64 0) (.lit .i64 0))
def t_rof33_1 : Tm := (.bin .leq (.var .i64 0) (.lit .i64 8))
def t_rof33_2 : Tm := (.bin .leq (.var .i64 0) (.lit .i64 16))
def t_rof33_3 : Tm := (.bin .leq (.var .i64 0) (.lit .i64 24))
def t_rof33_4 : Tm := (.bin .leq (.var .i64 0) (.lit .i64 32))
theorem rof33 (x0 : Int) (w : World) : Calls Try.prog 16 #[.int .i64 x0, .int .i64 8589934592] w fun e w' => e = .returned (bundle (fillP [.one (.int .i64)] [ofZ x0 8589934592])) ∧ Quiet w w' := by
  obtain ⟨S, hS⟩ : ∃ S : Sy, S = ⟨upd (fun _ => 0) [(0, x0)], fun _ _ => 0, [], fun _ h => by simp at h⟩ := ⟨_, rfl⟩
  have i0 : S.ρ 0 = x0 := by rw [hS]; rfl
  have hI : S.I = [] := by rw [hS]
  have hvs : ∀ G ι, VsOk S G ι [vv .i64 0, .int .i64 8589934592] [.int .i64 x0, .int .i64 8589934592] := fun G ι => (vs_sym i0 (vs_int vs_nil))
  subst i0
  by_cases c0 : (0 : Int) < S.ρ 0
  · have d0 : t_rof33_0.den S = some [b2i true] := tr (p := (0 : Int) < S.ρ 0) c0
    by_cases c1 : (8 : Int) < S.ρ 0
    · have d1 : t_rof33_1.den S = some [b2i false] := fls (p := S.ρ 0 ≤ (8 : Int)) (Int.not_le.2 c1)
      by_cases c2 : (16 : Int) < S.ρ 0
      · have d2 : t_rof33_2.den S = some [b2i false] := fls (p := S.ρ 0 ≤ (16 : Int)) (Int.not_le.2 c2)
        by_cases c3 : (24 : Int) < S.ρ 0
        · have d3 : t_rof33_3.den S = some [b2i false] := fls (p := S.ρ 0 ≤ (24 : Int)) (Int.not_le.2 c3)
          by_cases c4 : (32 : Int) < S.ρ 0
          · have d4 : t_rof33_4.den S = some [b2i false] := fls (p := S.ρ 0 ≤ (32 : Int)) (Int.not_le.2 c4)
            have r0 : ofZ (S.ρ 0) 8589934592 = (-1 : Int) := by exact if_pos (Or.inr (by decide))
            rw [r0]
            exact symL env gok (ai t_rof33_4 false d4 (ai t_rof33_3 false d3 (ai t_rof33_2 false d2 (ai t_rof33_1 false d1 (ai t_rof33_0 true d0 (AlOk.nil _)))))) (hcs0 _) hvs w hI [.int .i64 (-1)] (csT (.lit .i64 (-1)) rfl cs_nil) (by kernel_rfl) (fun G => by kernel_rfl)
          · have d4 : t_rof33_4.den S = some [b2i true] := tr (p := S.ρ 0 ≤ (32 : Int)) (Int.not_lt.1 c4)
            have r0 : ofZ (S.ρ 0) 8589934592 = (-1 : Int) := by exact if_pos (Or.inr (by decide))
            rw [r0]
            exact symL env gok (ai t_rof33_4 true d4 (ai t_rof33_3 false d3 (ai t_rof33_2 false d2 (ai t_rof33_1 false d1 (ai t_rof33_0 true d0 (AlOk.nil _)))))) (hcs0 _) hvs w hI [.int .i64 (-1)] (csT (.lit .i64 (-1)) rfl cs_nil) (by kernel_rfl) (fun G => by kernel_rfl)
        · have d3 : t_rof33_3.den S = some [b2i true] := tr (p := S.ρ 0 ≤ (24 : Int)) (Int.not_lt.1 c3)
          have c4 : ¬ ((32 : Int) < S.ρ 0) := by omega
          have d4 : t_rof33_4.den S = some [b2i true] := tr (p := S.ρ 0 ≤ (32 : Int)) (Int.not_lt.1 c4)
          have r0 : ofZ (S.ρ 0) 8589934592 = (-1 : Int) := by exact if_pos (Or.inr (by decide))
          rw [r0]
          exact symL env gok (ai t_rof33_4 true d4 (ai t_rof33_3 true d3 (ai t_rof33_2 false d2 (ai t_rof33_1 false d1 (ai t_rof33_0 true d0 (AlOk.nil _)))))) (hcs0 _) hvs w hI [.int .i64 (-1)] (csT (.lit .i64 (-1)) rfl cs_nil) (by kernel_rfl) (fun G => by kernel_rfl)
      · have d2 : t_rof33_2.den S = some [b2i true] := tr (p := S.ρ 0 ≤ (16 : Int)) (Int.not_lt.1 c2)
        have c3 : ¬ ((24 : Int) < S.ρ 0) := by omega
        have d3 : t_rof33_3.den S = some [b2i true] := tr (p := S.ρ 0 ≤ (24 : Int)) (Int.not_lt.1 c3)
        have c4 : ¬ ((32 : Int) < S.ρ 0) := by omega
        have d4 : t_rof33_4.den S = some [b2i true] := tr (p := S.ρ 0 ≤ (32 : Int)) (Int.not_lt.1 c4)
        have r0 : ofZ (S.ρ 0) 8589934592 = (-1 : Int) := by exact if_pos (Or.inr (by decide))
        rw [r0]
        exact symL env gok (ai t_rof33_4 true d4 (ai t_rof33_3 true d3 (ai t_rof33_2 true d2 (ai t_rof33_1 false d1 (ai t_rof33_0 true d0 (AlOk.nil _)))))) (hcs0 _) hvs w hI [.int .i64 (-1)] (csT (.lit .i64 (-1)) rfl cs_nil) (by kernel_rfl) (fun G => by kernel_rfl)
    · have d1 : t_rof33_1.den S = some [b2i true] := tr (p := S.ρ 0 ≤ (8 : Int)) (Int.not_lt.1 c1)
      have c2 : ¬ ((16 : Int) < S.ρ 0) := by omega
      have d2 : t_rof33_2.den S = some [b2i true] := tr (p := S.ρ 0 ≤ (16 : Int)) (Int.not_lt.1 c2)
      have c3 : ¬ ((24 : Int) < S.ρ 0) := by omega
      have d3 : t_rof33_3.den S = some [b2i true] := tr (p := S.ρ 0 ≤ (24 : Int)) (Int.not_lt.1 c3)
      have c4 : ¬ ((32 : Int) < S.ρ 0) := by omega
      have d4 : t_rof33_4.den S = some [b2i true] := tr (p := S.ρ 0 ≤ (32 : Int)) (Int.not_lt.1 c4)
      have r0 : ofZ (S.ρ 0) 8589934592 = (-1 : Int) := by exact if_pos (Or.inr (by decide))
      rw [r0]
      exact symL env gok (ai t_rof33_4 true d4 (ai t_rof33_3 true d3 (ai t_rof33_2 true d2 (ai t_rof33_1 true d1 (ai t_rof33_0 true d0 (AlOk.nil _)))))) (hcs0 _) hvs w hI [.int .i64 (-1)] (csT (.lit .i64 (-1)) rfl cs_nil) (by kernel_rfl) (fun G => by kernel_rfl)
  · have d0 : t_rof33_0.den S = some [b2i false] := fls (p := (0 : Int) < S.ρ 0) c0
    have r0 : ofZ (S.ρ 0) 8589934592 = (-1 : Int) := by exact if_pos (Or.inr (by decide))
    rw [r0]
    exact symL env gok (ai t_rof33_0 false d0 (AlOk.nil _)) (hcs0 _) hvs w hI [.int .i64 (-1)] (csT (.lit .i64 (-1)) rfl cs_nil) (by kernel_rfl) (fun G => by kernel_rfl)
def t_rof34_0 : Tm := (.bin .gtr (.var .i64 0) (.lit .i64 0))
def t_rof34_1 : Tm := (.bin .leq (.var .i64 0) (.lit .i64 8))
def t_rof34_2 : Tm := (.bin .leq (.var .i64 0) (.lit .i64 16))
def t_rof34_3 : Tm := (.bin .leq (.var .i64 0) (.lit .i64 24))
def t_rof34_4 : Tm := (.bin .leq (.var .i64 0) (.lit .i64 32))
theorem rof34 (x0 : Int) (w : World) : Calls Try.prog 16 #[.int .i64 x0, .int .i64 17179869184] w fun e w' => e = .returned (bundle (fillP [.one (.int .i64)] [ofZ x0 17179869184])) ∧ Quiet w w' := by
  obtain ⟨S, hS⟩ : ∃ S : Sy, S = ⟨upd (fun _ => 0) [(0, x0)], fun _ _ => 0, [], fun _ h => by simp at h⟩ := ⟨_, rfl⟩
  have i0 : S.ρ 0 = x0 := by rw [hS]; rfl
  have hI : S.I = [] := by rw [hS]
  have hvs : ∀ G ι, VsOk S G ι [vv .i64 0, .int .i64 17179869184] [.int .i64 x0, .int .i64 17179869184] := fun G ι => (vs_sym i0 (vs_int vs_nil))
  subst i0
  by_cases c0 : (0 : Int) < S.ρ 0
  · have d0 : t_rof34_0.den S = some [b2i true] := tr (p := (0 : Int) < S.ρ 0) c0
    by_cases c1 : (8 : Int) < S.ρ 0
    · have d1 : t_rof34_1.den S = some [b2i false] := fls (p := S.ρ 0 ≤ (8 : Int)) (Int.not_le.2 c1)
      by_cases c2 : (16 : Int) < S.ρ 0
      · have d2 : t_rof34_2.den S = some [b2i false] := fls (p := S.ρ 0 ≤ (16 : Int)) (Int.not_le.2 c2)
        by_cases c3 : (24 : Int) < S.ρ 0
        · have d3 : t_rof34_3.den S = some [b2i false] := fls (p := S.ρ 0 ≤ (24 : Int)) (Int.not_le.2 c3)
          by_cases c4 : (32 : Int) < S.ρ 0
          · have d4 : t_rof34_4.den S = some [b2i false] := fls (p := S.ρ 0 ≤ (32 : Int)) (Int.not_le.2 c4)
            have r0 : ofZ (S.ρ 0) 17179869184 = (-1 : Int) := by exact if_pos (Or.inr (by decide))
            rw [r0]
            exact symL env gok (ai t_rof34_4 false d4 (ai t_rof34_3 false d3 (ai t_rof34_2 false d2 (ai t_rof34_1 false d1 (ai t_rof34_0 true d0 (AlOk.nil _)))))) (hcs0 _) hvs w hI [.int .i64 (-1)] (csT (.lit .i64 (-1)) rfl cs_nil) (by kernel_rfl) (fun G => by kernel_rfl)
          · have d4 : t_rof34_4.den S = some [b2i true] := tr (p := S.ρ 0 ≤ (32 : Int)) (Int.not_lt.1 c4)
            have r0 : ofZ (S.ρ 0) 17179869184 = (-1 : Int) := by exact if_pos (Or.inr (by decide))
            rw [r0]
            exact symL env gok (ai t_rof34_4 true d4 (ai t_rof34_3 false d3 (ai t_rof34_2 false d2 (ai t_rof34_1 false d1 (ai t_rof34_0 true d0 (AlOk.nil _)))))) (hcs0 _) hvs w hI [.int .i64 (-1)] (csT (.lit .i64 (-1)) rfl cs_nil) (by kernel_rfl) (fun G => by kernel_rfl)
        · have d3 : t_rof34_3.den S = some [b2i true] := tr (p := S.ρ 0 ≤ (24 : Int)) (Int.not_lt.1 c3)
          have c4 : ¬ ((32 : Int) < S.ρ 0) := by omega
          have d4 : t_rof34_4.den S = some [b2i true] := tr (p := S.ρ 0 ≤ (32 : Int)) (Int.not_lt.1 c4)
          have r0 : ofZ (S.ρ 0) 17179869184 = (-1 : Int) := by exact if_pos (Or.inr (by decide))
          rw [r0]
          exact symL env gok (ai t_rof34_4 true d4 (ai t_rof34_3 true d3 (ai t_rof34_2 false d2 (ai t_rof34_1 false d1 (ai t_rof34_0 true d0 (AlOk.nil _)))))) (hcs0 _) hvs w hI [.int .i64 (-1)] (csT (.lit .i64 (-1)) rfl cs_nil) (by kernel_rfl) (fun G => by kernel_rfl)
      · have d2 : t_rof34_2.den S = some [b2i true] := tr (p := S.ρ 0 ≤ (16 : Int)) (Int.not_lt.1 c2)
        have c3 : ¬ ((24 : Int) < S.ρ 0) := by omega
        have d3 : t_rof34_3.den S = some [b2i true] := tr (p := S.ρ 0 ≤ (24 : Int)) (Int.not_lt.1 c3)
        have c4 : ¬ ((32 : Int) < S.ρ 0) := by omega
        have d4 : t_rof34_4.den S = some [b2i true] := tr (p := S.ρ 0 ≤ (32 : Int)) (Int.not_lt.1 c4)
        have r0 : ofZ (S.ρ 0) 17179869184 = (-1 : Int) := by exact if_pos (Or.inr (by decide))
        rw [r0]
        exact symL env gok (ai t_rof34_4 true d4 (ai t_rof34_3 true d3 (ai t_rof34_2 true d2 (ai t_rof34_1 false d1 (ai t_rof34_0 true d0 (AlOk.nil _)))))) (hcs0 _) hvs w hI [.int .i64 (-1)] (csT (.lit .i64 (-1)) rfl cs_nil) (by kernel_rfl) (fun G => by kernel_rfl)
    · have d1 : t_rof34_1.den S = some [b2i true] := tr (p := S.ρ 0 ≤ (8 : Int)) (Int.not_lt.1 c1)
      have c2 : ¬ ((16 : Int) < S.ρ 0) := by omega
      have d2 : t_rof34_2.den S = some [b2i true] := tr (p := S.ρ 0 ≤ (16 : Int)) (Int.not_lt.1 c2)
      have c3 : ¬ ((24 : Int) < S.ρ 0) := by omega
      have d3 : t_rof34_3.den S = some [b2i true] := tr (p := S.ρ 0 ≤ (24 : Int)) (Int.not_lt.1 c3)
      have c4 : ¬ ((32 : Int) < S.ρ 0) := by omega
      have d4 : t_rof34_4.den S = some [b2i true] := tr (p := S.ρ 0 ≤ (32 : Int)) (Int.not_lt.1 c4)
      have r0 : ofZ (S.ρ 0) 17179869184 = (-1 : Int) := by exact if_pos (Or.inr (by decide))
      rw [r0]
      exact symL env gok (ai t_rof34_4 true d4 (ai t_rof34_3 true d3 (ai t_rof34_2 true d2 (ai t_rof34_1 true d1 (ai t_rof34_0 true d0 (AlOk.nil _)))))) (hcs0 _) hvs w hI [.int .i64 (-1)] (csT (.lit .i64 (-1)) rfl cs_nil) (by kernel_rfl) (fun G => by kernel_rfl)
  · have d0 : t_rof34_0.den S = some [b2i false] := fls (p := (0 : Int) < S.ρ 0) c0
    have r0 : ofZ (S.ρ 0) 17179869184 = (-1 : Int) := by exact if_pos (Or.inr (by decide))
    rw [r0]
    exact symL env gok (ai t_rof34_0 false d0 (AlOk.nil _)) (hcs0 _) hvs w hI [.int .i64 (-1)] (csT (.lit .i64 (-1)) rfl cs_nil) (by kernel_rfl) (fun G => by kernel_rfl)
def t_rof35_0 : Tm := (.bin .gtr (.var .i64 0) (.lit .i64 0))
def t_rof35_1 : Tm := (.bin .leq (.var .i64 0) (.lit .i64 8))
def t_rof35_2 : Tm := (.bin .leq (.var .i64 0) (.lit .i64 16))
def t_rof35_3 : Tm := (.bin .leq (.var .i64 0) (.lit .i64 24))
def t_rof35_4 : Tm := (.bin .leq (.var .i64 0) (.lit .i64 32))
theorem rof35 (x0 : Int) (w : World) : Calls Try.prog 16 #[.int .i64 x0, .int .i64 34359738368] w fun e w' => e = .returned (bundle (fillP [.one (.int .i64)] [ofZ x0 34359738368])) ∧ Quiet w w' := by
  obtain ⟨S, hS⟩ : ∃ S : Sy, S = ⟨upd (fun _ => 0) [(0, x0)], fun _ _ => 0, [], fun _ h => by simp at h⟩ := ⟨_, rfl⟩
  have i0 : S.ρ 0 = x0 := by rw [hS]; rfl
  have hI : S.I = [] := by rw [hS]
  have hvs : ∀ G ι, VsOk S G ι [vv .i64 0, .int .i64 34359738368] [.int .i64 x0, .int .i64 34359738368] := fun G ι => (vs_sym i0 (vs_int vs_nil))
  subst i0
  by_cases c0 : (0 : Int) < S.ρ 0
  · have d0 : t_rof35_0.den S = some [b2i true] := tr (p := (0 : Int) < S.ρ 0) c0
    by_cases c1 : (8 : Int) < S.ρ 0
    · have d1 : t_rof35_1.den S = some [b2i false] := fls (p := S.ρ 0 ≤ (8 : Int)) (Int.not_le.2 c1)
      by_cases c2 : (16 : Int) < S.ρ 0
      · have d2 : t_rof35_2.den S = some [b2i false] := fls (p := S.ρ 0 ≤ (16 : Int)) (Int.not_le.2 c2)
        by_cases c3 : (24 : Int) < S.ρ 0
        · have d3 : t_rof35_3.den S = some [b2i false] := fls (p := S.ρ 0 ≤ (24 : Int)) (Int.not_le.2 c3)
          by_cases c4 : (32 : Int) < S.ρ 0
          · have d4 : t_rof35_4.den S = some [b2i false] := fls (p := S.ρ 0 ≤ (32 : Int)) (Int.not_le.2 c4)
            have r0 : ofZ (S.ρ 0) 34359738368 = (-1 : Int) := by exact if_pos (Or.inr (by decide))
            rw [r0]
            exact symL env gok (ai t_rof35_4 false d4 (ai t_rof35_3 false d3 (ai t_rof35_2 false d2 (ai t_rof35_1 false d1 (ai t_rof35_0 true d0 (AlOk.nil _)))))) (hcs0 _) hvs w hI [.int .i64 (-1)] (csT (.lit .i64 (-1)) rfl cs_nil) (by kernel_rfl) (fun G => by kernel_rfl)
          · have d4 : t_rof35_4.den S = some [b2i true] := tr (p := S.ρ 0 ≤ (32 : Int)) (Int.not_lt.1 c4)
            have r0 : ofZ (S.ρ 0) 34359738368 = (-1 : Int) := by exact if_pos (Or.inr (by decide))
            rw [r0]
            exact symL env gok (ai t_rof35_4 true d4 (ai t_rof35_3 false d3 (ai t_rof35_2 false d2 (ai t_rof35_1 false d1 (ai t_rof35_0 true d0 (AlOk.nil _)))))) (hcs0 _) hvs w hI [.int .i64 (-1)] (csT (.lit .i64 (-1)) rfl cs_nil) (by kernel_rfl) (fun G => by kernel_rfl)
        · have d3 : t_rof35_3.den S = some [b2i true] := tr (p := S.ρ 0 ≤ (24 : Int)) (Int.not_lt.1 c3)
          have c4 : ¬ ((32 : Int) < S.ρ 0) := by omega
          have d4 : t_rof35_4.den S = some [b2i true] := tr (p := S.ρ 0 ≤ (32 : Int)) (Int.not_lt.1 c4)
          have r0 : ofZ (S.ρ 0) 34359738368 = (-1 : Int) := by exact if_pos (Or.inr (by decide))
          rw [r0]
          exact symL env gok (ai t_rof35_4 true d4 (ai t_rof35_3 true d3 (ai t_rof35_2 false d2 (ai t_rof35_1 false d1 (ai t_rof35_0 true d0 (AlOk.nil _)))))) (hcs0 _) hvs w hI [.int .i64 (-1)] (csT (.lit .i64 (-1)) rfl cs_nil) (by kernel_rfl) (fun G => by kernel_rfl)
      · have d2 : t_rof35_2.den S = some [b2i true] := tr (p := S.ρ 0 ≤ (16 : Int)) (Int.not_lt.1 c2)
        have c3 : ¬ ((24 : Int) < S.ρ 0) := by omega
        have d3 : t_rof35_3.den S = some [b2i true] := tr (p := S.ρ 0 ≤ (24 : Int)) (Int.not_lt.1 c3)
        have c4 : ¬ ((32 : Int) < S.ρ 0) := by omega
        have d4 : t_rof35_4.den S = some [b2i true] := tr (p := S.ρ 0 ≤ (32 : Int)) (Int.not_lt.1 c4)
        have r0 : ofZ (S.ρ 0) 34359738368 = (-1 : Int) := by exact if_pos (Or.inr (by decide))
        rw [r0]
        exact symL env gok (ai t_rof35_4 true d4 (ai t_rof35_3 true d3 (ai t_rof35_2 true d2 (ai t_rof35_1 false d1 (ai t_rof35_0 true d0 (AlOk.nil _)))))) (hcs0 _) hvs w hI [.int .i64 (-1)] (csT (.lit .i64 (-1)) rfl cs_nil) (by kernel_rfl) (fun G => by kernel_rfl)
    · have d1 : t_rof35_1.den S = some [b2i true] := tr (p := S.ρ 0 ≤ (8 : Int)) (Int.not_lt.1 c1)
      have c2 : ¬ ((16 : Int) < S.ρ 0) := by omega
      have d2 : t_rof35_2.den S = some [b2i true] := tr (p := S.ρ 0 ≤ (16 : Int)) (Int.not_lt.1 c2)
      have c3 : ¬ ((24 : Int) < S.ρ 0) := by omega
      have d3 : t_rof35_3.den S = some [b2i true] := tr (p := S.ρ 0 ≤ (24 : Int)) (Int.not_lt.1 c3)
      have c4 : ¬ ((32 : Int) < S.ρ 0) := by omega
      have d4 : t_rof35_4.den S = some [b2i true] := tr (p := S.ρ 0 ≤ (32 : Int)) (Int.not_lt.1 c4)
      have r0 : ofZ (S.ρ 0) 34359738368 = (-1 : Int) := by exact if_pos (Or.inr (by decide))
      rw [r0]
      exact symL env gok (ai t_rof35_4 true d4 (ai t_rof35_3 true d3 (ai t_rof35_2 true d2 (ai t_rof35_1 true d1 (ai t_rof35_0 true d0 (AlOk.nil _)))))) (hcs0 _) hvs w hI [.int .i64 (-1)] (csT (.lit .i64 (-1)) rfl cs_nil) (by kernel_rfl) (fun G => by kernel_rfl)
  · have d0 : t_rof35_0.den S = some [b2i false] := fls (p := (0 : Int) < S.ρ 0) c0
    have r0 : ofZ (S.ρ 0) 34359738368 = (-1 : Int) := by exact if_pos (Or.inr (by decide))
    rw [r0]
    exact symL env gok (ai t_rof35_0 false d0 (AlOk.nil _)) (hcs0 _) hvs w hI [.int .i64 (-1)] (csT (.lit .i64 (-1)) rfl cs_nil) (by kernel_rfl) (fun G => by kernel_rfl)
def t_rof36_0 : Tm := (.bin .gtr (.var .i64 0) (.lit .i64 0))
def t_rof36_1 : Tm := (.bin .leq (.var .i64 0) (.lit .i64 8))
def t_rof36_2 : Tm := (.bin .leq (.var .i64 0) (.lit .i64 16))
def t_rof36_3 : Tm := (.bin .leq (.var .i64 0) (.lit .i64 24))
def t_rof36_4 : Tm := (.bin .leq (.var .i64 0) (.lit .i64 32))
theorem rof36 (x0 : Int) (w : World) : Calls Try.prog 16 #[.int .i64 x0, .int .i64 68719476736] w fun e w' => e = .returned (bundle (fillP [.one (.int .i64)] [ofZ x0 68719476736])) ∧ Quiet w w' := by
  obtain ⟨S, hS⟩ : ∃ S : Sy, S = ⟨upd (fun _ => 0) [(0, x0)], fun _ _ => 0, [], fun _ h => by simp at h⟩ := ⟨_, rfl⟩
  have i0 : S.ρ 0 = x0 := by rw [hS]; rfl
  have hI : S.I = [] := by rw [hS]
  have hvs : ∀ G ι, VsOk S G ι [vv .i64 0, .int .i64 68719476736] [.int .i64 x0, .int .i64 68719476736] := fun G ι => (vs_sym i0 (vs_int vs_nil))
  subst i0
  by_cases c0 : (0 : Int) < S.ρ 0
  · have d0 : t_rof36_0.den S = some [b2i true] := tr (p := (0 : Int) < S.ρ 0) c0
    by_cases c1 : (8 : Int) < S.ρ 0
    · have d1 : t_rof36_1.den S = some [b2i false] := fls (p := S.ρ 0 ≤ (8 : Int)) (Int.not_le.2 c1)
      by_cases c2 : (16 : Int) < S.ρ 0
      · have d2 : t_rof36_2.den S = some [b2i false] := fls (p := S.ρ 0 ≤ (16 : Int)) (Int.not_le.2 c2)
        by_cases c3 : (24 : Int) < S.ρ 0
        · have d3 : t_rof36_3.den S = some [b2i false] := fls (p := S.ρ 0 ≤ (24 : Int)) (Int.not_le.2 c3)
          by_cases c4 : (32 : Int) < S.ρ 0
          · have d4 : t_rof36_4.den S = some [b2i false] := fls (p := S.ρ 0 ≤ (32 : Int)) (Int.not_le.2 c4)
            have r0 : ofZ (S.ρ 0) 68719476736 = (-1 : Int) := by exact if_pos (Or.inr (by decide))
            rw [r0]
            exact symL env gok (ai t_rof36_4 false d4 (ai t_rof36_3 false d3 (ai t_rof36_2 false d2 (ai t_rof36_1 false d1 (ai t_rof36_0 true d0 (AlOk.nil _)))))) (hcs0 _) hvs w hI [.int .i64 (-1)] (csT (.lit .i64 (-1)) rfl cs_nil) (by kernel_rfl) (fun G => by kernel_rfl)
          · have d4 : t_rof36_4.den S = some [b2i true] := tr (p := S.ρ 0 ≤ (32 : Int)) (Int.not_lt.1 c4)
            have r0 : ofZ (S.ρ 0) 68719476736 = (-1 : Int) := by exact if_pos (Or.inr (by decide))
            rw [r0]
            exact symL env gok (ai t_rof36_4 true d4 (ai t_rof36_3 false d3 (ai t_rof36_2 false d2 (ai t_rof36_1 false d1 (ai t_rof36_0 true d0 (AlOk.nil _)))))) (hcs0 _) hvs w hI [.int .i64 (-1)] (csT (.lit .i64 (-1)) rfl cs_nil) (by kernel_rfl) (fun G => by kernel_rfl)
        · have d3 : t_rof36_3.den S = some [b2i true] := tr (p := S.ρ 0 ≤ (24 : Int)) (Int.not_lt.1 c3)
          have c4 : ¬ ((32 : Int) < S.ρ 0) := by omega
          have d4 : t_rof36_4.den S = some [b2i true] := tr (p := S.ρ 0 ≤ (32 : Int)) (Int.not_lt.1 c4)
          have r0 : ofZ (S.ρ 0) 68719476736 = (-1 : Int) := by exact if_pos (Or.inr (by decide))
          rw [r0]
          exact symL env gok (ai t_rof36_4 true d4 (ai t_rof36_3 true d3 (ai t_rof36_2 false d2 (ai t_rof36_1 false d1 (ai t_rof36_0 true d0 (AlOk.nil _)))))) (hcs0 _) hvs w hI [.int .i64 (-1)] (csT (.lit .i64 (-1)) rfl cs_nil) (by kernel_rfl) (fun G => by kernel_rfl)
      · have d2 : t_rof36_2.den S = some [b2i true] := tr (p := S.ρ 0 ≤ (16 : Int)) (Int.not_lt.1 c2)
        have c3 : ¬ ((24 : Int) < S.ρ 0) := by omega
        have d3 : t_rof36_3.den S = some [b2i true] := tr (p := S.ρ 0 ≤ (24 : Int)) (Int.not_lt.1 c3)
        have c4 : ¬ ((32 : Int) < S.ρ 0) := by omega
        have d4 : t_rof36_4.den S = some [b2i true] := tr (p := S.ρ 0 ≤ (32 : Int)) (Int.not_lt.1 c4)
        have r0 : ofZ (S.ρ 0) 68719476736 = (-1 : Int) := by exact if_pos (Or.inr (by decide))
        rw [r0]
        exact symL env gok (ai t_rof36_4 true d4 (ai t_rof36_3 true d3 (ai t_rof36_2 true d2 (ai t_rof36_1 false d1 (ai t_rof36_0 true d0 (AlOk.nil _)))))) (hcs0 _) hvs w hI [.int .i64 (-1)] (csT (.lit .i64 (-1)) rfl cs_nil) (by kernel_rfl) (fun G => by kernel_rfl)
    · have d1 : t_rof36_1.den S = some [b2i true] := tr (p := S.ρ 0 ≤ (8 : Int)) (Int.not_lt.1 c1)
      have c2 : ¬ ((16 : Int) < S.ρ 0) := by omega
      have d2 : t_rof36_2.den S = some [b2i true] := tr (p := S.ρ 0 ≤ (16 : Int)) (Int.not_lt.1 c2)
      have c3 : ¬ ((24 : Int) < S.ρ 0) := by omega
      have d3 : t_rof36_3.den S = some [b2i true] := tr (p := S.ρ 0 ≤ (24 : Int)) (Int.not_lt.1 c3)
      have c4 : ¬ ((32 : Int) < S.ρ 0) := by omega
      have d4 : t_rof36_4.den S = some [b2i true] := tr (p := S.ρ 0 ≤ (32 : Int)) (Int.not_lt.1 c4)
      have r0 : ofZ (S.ρ 0) 68719476736 = (-1 : Int) := by exact if_pos (Or.inr (by decide))
      rw [r0]
      exact symL env gok (ai t_rof36_4 true d4 (ai t_rof36_3 true d3 (ai t_rof36_2 true d2 (ai t_rof36_1 true d1 (ai t_rof36_0 true d0 (AlOk.nil _)))))) (hcs0 _) hvs w hI [.int .i64 (-1)] (csT (.lit .i64 (-1)) rfl cs_nil) (by kernel_rfl) (fun G => by kernel_rfl)
  · have d0 : t_rof36_0.den S = some [b2i false] := fls (p := (0 : Int) < S.ρ 0) c0
    have r0 : ofZ (S.ρ 0) 68719476736 = (-1 : Int) := by exact if_pos (Or.inr (by decide))
    rw [r0]
    exact symL env gok (ai t_rof36_0 false d0 (AlOk.nil _)) (hcs0 _) hvs w hI [.int .i64 (-1)] (csT (.lit .i64 (-1)) rfl cs_nil) (by kernel_rfl) (fun G => by kernel_rfl)
def t_rof37_0 : Tm := (.bin .gtr (.var .i64 0) (.lit .i64 0))
def t_rof37_1 : Tm := (.bin .leq (.var .i64 0) (.lit .i64 8))
def t_rof37_2 : Tm := (.bin .leq (.var .i64 0) (.lit .i64 16))
def t_rof37_3 : Tm := (.bin .leq (.var .i64 0) (.lit .i64 24))
def t_rof37_4 : Tm := (.bin .leq (.var .i64 0) (.lit .i64 32))
theorem rof37 (x0 : Int) (w : World) : Calls Try.prog 16 #[.int .i64 x0, .int .i64 137438953472] w fun e w' => e = .returned (bundle (fillP [.one (.int .i64)] [ofZ x0 137438953472])) ∧ Quiet w w' := by
  obtain ⟨S, hS⟩ : ∃ S : Sy, S = ⟨upd (fun _ => 0) [(0, x0)], fun _ _ => 0, [], fun _ h => by simp at h⟩ := ⟨_, rfl⟩
  have i0 : S.ρ 0 = x0 := by rw [hS]; rfl
  have hI : S.I = [] := by rw [hS]
  have hvs : ∀ G ι, VsOk S G ι [vv .i64 0, .int .i64 137438953472] [.int .i64 x0, .int .i64 137438953472] := fun G ι => (vs_sym i0 (vs_int vs_nil))
  subst i0
  by_cases c0 : (0 : Int) < S.ρ 0
  · have d0 : t_rof37_0.den S = some [b2i true] := tr (p := (0 : Int) < S.ρ 0) c0
    by_cases c1 : (8 : Int) < S.ρ 0
    · have d1 : t_rof37_1.den S = some [b2i false] := fls (p := S.ρ 0 ≤ (8 : Int)) (Int.not_le.2 c1)
      by_cases c2 : (16 : Int) < S.ρ 0
      · have d2 : t_rof37_2.den S = some [b2i false] := fls (p := S.ρ 0 ≤ (16 : Int)) (Int.not_le.2 c2)
        by_cases c3 : (24 : Int) < S.ρ 0
        · have d3 : t_rof37_3.den S = some [b2i false] := fls (p := S.ρ 0 ≤ (24 : Int)) (Int.not_le.2 c3)
          by_cases c4 : (32 : Int) < S.ρ 0
          · have d4 : t_rof37_4.den S = some [b2i false] := fls (p := S.ρ 0 ≤ (32 : Int)) (Int.not_le.2 c4)
            have r0 : ofZ (S.ρ 0) 137438953472 = (-1 : Int) := by exact if_pos (Or.inr (by decide))
            rw [r0]
            exact symL env gok (ai t_rof37_4 false d4 (ai t_rof37_3 false d3 (ai t_rof37_2 false d2 (ai t_rof37_1 false d1 (ai t_rof37_0 true d0 (AlOk.nil _)))))) (hcs0 _) hvs w hI [.int .i64 (-1)] (csT (.lit .i64 (-1)) rfl cs_nil) (by kernel_rfl) (fun G => by kernel_rfl)
          · have d4 : t_rof37_4.den S = some [b2i true] := tr (p := S.ρ 0 ≤ (32 : Int)) (Int.not_lt.1 c4)
            have r0 : ofZ (S.ρ 0) 137438953472 = (-1 : Int) := by exact if_pos (Or.inr (by decide))
            rw [r0]
            exact symL env gok (ai t_rof37_4 true d4 (ai t_rof37_3 false d3 (ai t_rof37_2 false d2 (ai t_rof37_1 false d1 (ai t_rof37_0 true d0 (AlOk.nil _)))))) (hcs0 _) hvs w hI [.int .i64 (-1)] (csT (.lit .i64 (-1)) rfl cs_nil) (by kernel_rfl) (fun G => by kernel_rfl)
        · have d3 : t_rof37_3.den S = some [b2i true] := tr (p := S.ρ 0 ≤ (24 : Int)) (Int.not_lt.1 c3)
          have c4 : ¬ ((32 : Int) < S.ρ 0) := by omega
          have d4 : t_rof37_4.den S = some [b2i true] := tr (p := S.ρ 0 ≤ (32 : Int)) (Int.not_lt.1 c4)
          have r0 : ofZ (S.ρ 0) 137438953472 = (-1 : Int) := by exact if_pos (Or.inr (by decide))
          rw [r0]
          exact symL env gok (ai t_rof37_4 true d4 (ai t_rof37_3 true d3 (ai t_rof37_2 false d2 (ai t_rof37_1 false d1 (ai t_rof37_0 true d0 (AlOk.nil _)))))) (hcs0 _) hvs w hI [.int .i64 (-1)] (csT (.lit .i64 (-1)) rfl cs_nil) (by kernel_rfl) (fun G => by kernel_rfl)
      · have d2 : t_rof37_2.den S = some [b2i true] := tr (p := S.ρ 0 ≤ (16 : Int)) (Int.not_lt.1 c2)
        have c3 : ¬ ((24 : Int) < S.ρ 0) := by omega
        have d3 : t_rof37_3.den S = some [b2i true] := tr (p := S.ρ 0 ≤ (24 : Int)) (Int.not_lt.1 c3)
        have c4 : ¬ ((32 : Int) < S.ρ 0) := by omega
        have d4 : t_rof37_4.den S = some [b2i true] := tr (p := S.ρ 0 ≤ (32 : Int)) (Int.not_lt.1 c4)
        have r0 : ofZ (S.ρ 0) 137438953472 = (-1 : Int) := by exact if_pos (Or.inr (by decide))
        rw [r0]
        exact symL env gok (ai t_rof37_4 true d4 (ai t_rof37_3 true d3 (ai t_rof37_2 true d2 (ai t_rof37_1 false d1 (ai t_rof37_0 true d0 (AlOk.nil _)))))) (hcs0 _) hvs w hI [.int .i64 (-1)] (csT (.lit .i64 (-1)) rfl cs_nil) (by kernel_rfl) (fun G => by kernel_rfl)
    · have d1 : t_rof37_1.den S = some [b2i true] := tr (p := S.ρ 0 ≤ (8 : Int)) (Int.not_lt.1 c1)
      have c2 : ¬ ((16 : Int) < S.ρ 0) := by omega
      have d2 : t_rof37_2.den S = some [b2i true] := tr (p := S.ρ 0 ≤ (16 : Int)) (Int.not_lt.1 c2)
      have c3 : ¬ ((24 : Int) < S.ρ 0) := by omega
      have d3 : t_rof37_3.den S = some [b2i true] := tr (p := S.ρ 0 ≤ (24 : Int)) (Int.not_lt.1 c3)
      have c4 : ¬ ((32 : Int) < S.ρ 0) := by omega
      have d4 : t_rof37_4.den S = some [b2i true] := tr (p := S.ρ 0 ≤ (32 : Int)) (Int.not_lt.1 c4)
      have r0 : ofZ (S.ρ 0) 137438953472 = (-1 : Int) := by exact if_pos (Or.inr (by decide))
      rw [r0]
      exact symL env gok (ai t_rof37_4 true d4 (ai t_rof37_3 true d3 (ai t_rof37_2 true d2 (ai t_rof37_1 true d1 (ai t_rof37_0 true d0 (AlOk.nil _)))))) (hcs0 _) hvs w hI [.int .i64 (-1)] (csT (.lit .i64 (-1)) rfl cs_nil) (by kernel_rfl) (fun G => by kernel_rfl)
  · have d0 : t_rof37_0.den S = some [b2i false] := fls (p := (0 : Int) < S.ρ 0) c0
    have r0 : ofZ (S.ρ 0) 137438953472 = (-1 : Int) := by exact if_pos (Or.inr (by decide))
    rw [r0]
    exact symL env gok (ai t_rof37_0 false d0 (AlOk.nil _)) (hcs0 _) hvs w hI [.int .i64 (-1)] (csT (.lit .i64 (-1)) rfl cs_nil) (by kernel_rfl) (fun G => by kernel_rfl)
def t_rof38_0 : Tm := (.bin .gtr (.var .i64 0) (.lit .i64 0))
def t_rof38_1 : Tm := (.bin .leq (.var .i64 0) (.lit .i64 8))
def t_rof38_2 : Tm := (.bin .leq (.var .i64 0) (.lit .i64 16))
def t_rof38_3 : Tm := (.bin .leq (.var .i64 0) (.lit .i64 24))
def t_rof38_4 : Tm := (.bin .leq (.var .i64 0) (.lit .i64 32))
theorem rof38 (x0 : Int) (w : World) : Calls Try.prog 16 #[.int .i64 x0, .int .i64 274877906944] w fun e w' => e = .returned (bundle (fillP [.one (.int .i64)] [ofZ x0 274877906944])) ∧ Quiet w w' := by
  obtain ⟨S, hS⟩ : ∃ S : Sy, S = ⟨upd (fun _ => 0) [(0, x0)], fun _ _ => 0, [], fun _ h => by simp at h⟩ := ⟨_, rfl⟩
  have i0 : S.ρ 0 = x0 := by rw [hS]; rfl
  have hI : S.I = [] := by rw [hS]
  have hvs : ∀ G ι, VsOk S G ι [vv .i64 0, .int .i64 274877906944] [.int .i64 x0, .int .i64 274877906944] := fun G ι => (vs_sym i0 (vs_int vs_nil))
  subst i0
  by_cases c0 : (0 : Int) < S.ρ 0
  · have d0 : t_rof38_0.den S = some [b2i true] := tr (p := (0 : Int) < S.ρ 0) c0
    by_cases c1 : (8 : Int) < S.ρ 0
    · have d1 : t_rof38_1.den S = some [b2i false] := fls (p := S.ρ 0 ≤ (8 : Int)) (Int.not_le.2 c1)
      by_cases c2 : (16 : Int) < S.ρ 0
      · have d2 : t_rof38_2.den S = some [b2i false] := fls (p := S.ρ 0 ≤ (16 : Int)) (Int.not_le.2 c2)
        by_cases c3 : (24 : Int) < S.ρ 0
        · have d3 : t_rof38_3.den S = some [b2i false] := fls (p := S.ρ 0 ≤ (24 : Int)) (Int.not_le.2 c3)
          by_cases c4 : (32 : Int) < S.ρ 0
          · have d4 : t_rof38_4.den S = some [b2i false] := fls (p := S.ρ 0 ≤ (32 : Int)) (Int.not_le.2 c4)
            have r0 : ofZ (S.ρ 0) 274877906944 = (-1 : Int) := by exact if_pos (Or.inr (by decide))
            rw [r0]
            exact symL env gok (ai t_rof38_4 false d4 (ai t_rof38_3 false d3 (ai t_rof38_2 false d2 (ai t_rof38_1 false d1 (ai t_rof38_0 true d0 (AlOk.nil _)))))) (hcs0 _) hvs w hI [.int .i64 (-1)] (csT (.lit .i64 (-1)) rfl cs_nil) (by kernel_rfl) (fun G => by kernel_rfl)
          · have d4 : t_rof38_4.den S = some [b2i true] := tr (p := S.ρ 0 ≤ (32 : Int)) (Int.not_lt.1 c4)
            have r0 : ofZ (S.ρ 0) 274877906944 = (-1 : Int) := by exact if_pos (Or.inr (by decide))
            rw [r0]
            exact symL env gok (ai t_rof38_4 true d4 (ai t_rof38_3 false d3 (ai t_rof38_2 false d2 (ai t_rof38_1 false d1 (ai t_rof38_0 true d0 (AlOk.nil _)))))) (hcs0 _) hvs w hI [.int .i64 (-1)] (csT (.lit .i64 (-1)) rfl cs_nil) (by kernel_rfl) (fun G => by kernel_rfl)
        · have d3 : t_rof38_3.den S = some [b2i true] := tr (p := S.ρ 0 ≤ (24 : Int)) (Int.not_lt.1 c3)
          have c4 : ¬ ((32 : Int) < S.ρ 0) := by omega
          have d4 : t_rof38_4.den S = some [b2i true] := tr (p := S.ρ 0 ≤ (32 : Int)) (Int.not_lt.1 c4)
          have r0 : ofZ (S.ρ 0) 274877906944 = (-1 : Int) := by exact if_pos (Or.inr (by decide))
          rw [r0]
          exact symL env gok (ai t_rof38_4 true d4 (ai t_rof38_3 true d3 (ai t_rof38_2 false d2 (ai t_rof38_1 false d1 (ai t_rof38_0 true d0 (AlOk.nil _)))))) (hcs0 _) hvs w hI [.int .i64 (-1)] (csT (.lit .i64 (-1)) rfl cs_nil) (by kernel_rfl) (fun G => by kernel_rfl)
      · have d2 : t_rof38_2.den S = some [b2i true] := tr (p := S.ρ 0 ≤ (16 : Int)) (Int.not_lt.1 c2)
        have c3 : ¬ ((24 : Int) < S.ρ 0) := by omega
        have d3 : t_rof38_3.den S = some [b2i true] := tr (p := S.ρ 0 ≤ (24 : Int)) (Int.not_lt.1 c3)
        have c4 : ¬ ((32 : Int) < S.ρ 0) := by omega
        have d4 : t_rof38_4.den S = some [b2i true] := tr (p := S.ρ 0 ≤ (32 : Int)) (Int.not_lt.1 c4)
        have r0 : ofZ (S.ρ 0) 274877906944 = (-1 : Int) := by exact if_pos (Or.inr (by decide))
        rw [r0]
        exact symL env gok (ai t_rof38_4 true d4 (ai t_rof38_3 true d3 (ai t_rof38_2 true d2 (ai t_rof38_1 false d1 (ai t_rof38_0 true d0 (AlOk.nil _)))))) (hcs0 _) hvs w hI [.int .i64 (-1)] (csT (.lit .i64 (-1)) rfl cs_nil) (by kernel_rfl) (fun G => by kernel_rfl)
    · have d1 : t_rof38_1.den S = some [b2i true] := tr (p := S.ρ 0 ≤ (8 : Int)) (Int.not_lt.1 c1)
      have c2 : ¬ ((16 : Int) < S.ρ 0) := by omega
      have d2 : t_rof38_2.den S = some [b2i true] := tr (p := S.ρ 0 ≤ (16 : Int)) (Int.not_lt.1 c2)
      have c3 : ¬ ((24 : Int) < S.ρ 0) := by omega
      have d3 : t_rof38_3.den S = some [b2i true] := tr (p := S.ρ 0 ≤ (24 : Int)) (Int.not_lt.1 c3)
      have c4 : ¬ ((32 : Int) < S.ρ 0) := by omega
      have d4 : t_rof38_4.den S = some [b2i true] := tr (p := S.ρ 0 ≤ (32 : Int)) (Int.not_lt.1 c4)
      have r0 : ofZ (S.ρ 0) 274877906944 = (-1 : Int) := by exact if_pos (Or.inr (by decide))
      rw [r0]
      exact symL env gok (ai t_rof38_4 true d4 (ai t_rof38_3 true d3 (ai t_rof38_2 true d2 (ai t_rof38_1 true d1 (ai t_rof38_0 true d0 (AlOk.nil _)))))) (hcs0 _) hvs w hI [.int .i64 (-1)] (csT (.lit .i64 (-1)) rfl cs_nil) (by kernel_rfl) (fun G => by kernel_rfl)
  · have d0 : t_rof38_0.den S = some [b2i false] := fls (p := (0 : Int) < S.ρ 0) c0
    have r0 : ofZ (S.ρ 0) 274877906944 = (-1 : Int) := by exact if_pos (Or.inr (by decide))
    rw [r0]
    exact symL env gok (ai t_rof38_0 false d0 (AlOk.nil _)) (hcs0 _) hvs w hI [.int .i64 (-1)] (csT (.lit .i64 (-1)) rfl cs_nil) (by kernel_rfl) (fun G => by kernel_rfl)
def t_rof39_0 : Tm := (.bin .gtr (.var .i64 0) (.lit .i64 0))
def t_rof39_1 : Tm := (.bin .leq (.var .i64 0) (.lit .i64 8))
def t_rof39_2 : Tm := (.bin .leq (.var .i64 0) (.lit .i64 16))
def t_rof39_3 : Tm := (.bin .leq (.var .i64 0) (.lit .i64 24))
def t_rof39_4 : Tm := (.bin .leq (.var .i64 0) (.lit .i64 32))
theorem rof39 (x0 : Int) (w : World) : Calls Try.prog 16 #[.int .i64 x0, .int .i64 549755813888] w fun e w' => e = .returned (bundle (fillP [.one (.int .i64)] [ofZ x0 549755813888])) ∧ Quiet w w' := by
  obtain ⟨S, hS⟩ : ∃ S : Sy, S = ⟨upd (fun _ => 0) [(0, x0)], fun _ _ => 0, [], fun _ h => by simp at h⟩ := ⟨_, rfl⟩
  have i0 : S.ρ 0 = x0 := by rw [hS]; rfl
  have hI : S.I = [] := by rw [hS]
  have hvs : ∀ G ι, VsOk S G ι [vv .i64 0, .int .i64 549755813888] [.int .i64 x0, .int .i64 549755813888] := fun G ι => (vs_sym i0 (vs_int vs_nil))
  subst i0
  by_cases c0 : (0 : Int) < S.ρ 0
  · have d0 : t_rof39_0.den S = some [b2i true] := tr (p := (0 : Int) < S.ρ 0) c0
    by_cases c1 : (8 : Int) < S.ρ 0
    · have d1 : t_rof39_1.den S = some [b2i false] := fls (p := S.ρ 0 ≤ (8 : Int)) (Int.not_le.2 c1)
      by_cases c2 : (16 : Int) < S.ρ 0
      · have d2 : t_rof39_2.den S = some [b2i false] := fls (p := S.ρ 0 ≤ (16 : Int)) (Int.not_le.2 c2)
        by_cases c3 : (24 : Int) < S.ρ 0
        · have d3 : t_rof39_3.den S = some [b2i false] := fls (p := S.ρ 0 ≤ (24 : Int)) (Int.not_le.2 c3)
          by_cases c4 : (32 : Int) < S.ρ 0
          · have d4 : t_rof39_4.den S = some [b2i false] := fls (p := S.ρ 0 ≤ (32 : Int)) (Int.not_le.2 c4)
            have r0 : ofZ (S.ρ 0) 549755813888 = (-1 : Int) := by exact if_pos (Or.inr (by decide))
            rw [r0]
            exact symL env gok (ai t_rof39_4 false d4 (ai t_rof39_3 false d3 (ai t_rof39_2 false d2 (ai t_rof39_1 false d1 (ai t_rof39_0 true d0 (AlOk.nil _)))))) (hcs0 _) hvs w hI [.int .i64 (-1)] (csT (.lit .i64 (-1)) rfl cs_nil) (by kernel_rfl) (fun G => by kernel_rfl)
          · have d4 : t_rof39_4.den S = some [b2i true] := tr (p := S.ρ 0 ≤ (32 : Int)) (Int.not_lt.1 c4)
            have r0 : ofZ (S.ρ 0) 549755813888 = (-1 : Int) := by exact if_pos (Or.inr (by decide))
            rw [r0]
            exact symL env gok (ai t_rof39_4 true d4 (ai t_rof39_3 false d3 (ai t_rof39_2 false d2 (ai t_rof39_1 false d1 (ai t_rof39_0 true d0 (AlOk.nil _)))))) (hcs0 _) hvs w hI [.int .i64 (-1)] (csT (.lit .i64 (-1)) rfl cs_nil) (by kernel_rfl) (fun G => by kernel_rfl)
        · have d3 : t_rof39_3.den S = some [b2i true] := tr (p := S.ρ 0 ≤ (24 : Int)) (Int.not_lt.1 c3)
          have c4 : ¬ ((32 : Int) < S.ρ 0) := by omega
          have d4 : t_rof39_4.den S = some [b2i true] := tr (p := S.ρ 0 ≤ (32 : Int)) (Int.not_lt.1 c4)
          have r0 : ofZ (S.ρ 0) 549755813888 = (-1 : Int) := by exact if_pos (Or.inr (by decide))
          rw [r0]
          exact symL env gok (ai t_rof39_4 true d4 (ai t_rof39_3 true d3 (ai t_rof39_2 false d2 (ai t_rof39_1 false d1 (ai t_rof39_0 true d0 (AlOk.nil _)))))) (hcs0 _) hvs w hI [.int .i64 (-1)] (csT (.lit .i64 (-1)) rfl cs_nil) (by kernel_rfl) (fun G => by kernel_rfl)
      · have d2 : t_rof39_2.den S = some [b2i true] := tr (p := S.ρ 0 ≤ (16 : Int)) (Int.not_lt.1 c2)
        have c3 : ¬ ((24 : Int) < S.ρ 0) := by omega
        have d3 : t_rof39_3.den S = some [b2i true] := tr (p := S.ρ 0 ≤ (24 : Int)) (Int.not_lt.1 c3)
        have c4 : ¬ ((32 : Int) < S.ρ 0) := by omega
        have d4 : t_rof39_4.den S = some [b2i true] := tr (p := S.ρ 0 ≤ (32 : Int)) (Int.not_lt.1 c4)
        have r0 : ofZ (S.ρ 0) 549755813888 = (-1 : Int) := by exact if_pos (Or.inr (by decide))
        rw [r0]
        exact symL env gok (ai t_rof39_4 true d4 (ai t_rof39_3 true d3 (ai t_rof39_2 true d2 (ai t_rof39_1 false d1 (ai t_rof39_0 true d0 (AlOk.nil _)))))) (hcs0 _) hvs w hI [.int .i64 (-1)] (csT (.lit .i64 (-1)) rfl cs_nil) (by kernel_rfl) (fun G => by kernel_rfl)
    · have d1 : t_rof39_1.den S = some [b2i true] := tr (p := S.ρ 0 ≤ (8 : Int)) (Int.not_lt.1 c1)
      have c2 : ¬ ((16 : Int) < S.ρ 0) := by omega
      have d2 : t_rof39_2.den S = some [b2i true] := tr (p := S.ρ 0 ≤ (16 : Int)) (Int.not_lt.1 c2)
      have c3 : ¬ ((24 : Int) < S.ρ 0) := by omega
      have d3 : t_rof39_3.den S = some [b2i true] := tr (p := S.ρ 0 ≤ (24 : Int)) (Int.not_lt.1 c3)
      have c4 : ¬ ((32 : Int) < S.ρ 0) := by omega
      have d4 : t_rof39_4.den S = some [b2i true] := tr (p := S.ρ 0 ≤ (32 : Int)) (Int.not_lt.1 c4)
      have r0 : ofZ (S.ρ 0) 549755813888 = (-1 : Int) := by exact if_pos (Or.inr (by decide))
      rw [r0]
      exact symL env gok (ai t_rof39_4 true d4 (ai t_rof39_3 true d3 (ai t_rof39_2 true d2 (ai t_rof39_1 true d1 (ai t_rof39_0 true d0 (AlOk.nil _)))))) (hcs0 _) hvs w hI [.int .i64 (-1)] (csT (.lit .i64 (-1)) rfl cs_nil) (by kernel_rfl) (fun G => by kernel_rfl)
  · have d0 : t_rof39_0.den S = some [b2i false] := fls (p := (0 : Int) < S.ρ 0) c0
    have r0 : ofZ (S.ρ 0) 549755813888 = (-1 : Int) := by exact if_pos (Or.inr (by decide))
    rw [r0]
    exact symL env gok (ai t_rof39_0 false d0 (AlOk.nil _)) (hcs0 _) hvs w hI [.int .i64 (-1)] (csT (.lit .i64 (-1)) rfl cs_nil) (by kernel_rfl) (fun G => by kernel_rfl)
def t_rof40_0 : Tm := (.bin .gtr (.var .i64 0) (.lit .i64 0))
def t_rof40_1 : Tm := (.bin .leq (.var .i64 0) (.lit .i64 8))
def t_rof40_2 : Tm := (.bin .leq (.var .i64 0) (.lit .i64 16))
def t_rof40_3 : Tm := (.bin .leq (.var .i64 0) (.lit .i64 24))
def t_rof40_4 : Tm := (.bin .leq (.var .i64 0) (.lit .i64 32))
theorem rof40 (x0 : Int) (w : World) : Calls Try.prog 16 #[.int .i64 x0, .int .i64 1099511627776] w fun e w' => e = .returned (bundle (fillP [.one (.int .i64)] [ofZ x0 1099511627776])) ∧ Quiet w w' := by
  obtain ⟨S, hS⟩ : ∃ S : Sy, S = ⟨upd (fun _ => 0) [(0, x0)], fun _ _ => 0, [], fun _ h => by simp at h⟩ := ⟨_, rfl⟩
  have i0 : S.ρ 0 = x0 := by rw [hS]; rfl
  have hI : S.I = [] := by rw [hS]
  have hvs : ∀ G ι, VsOk S G ι [vv .i64 0, .int .i64 1099511627776] [.int .i64 x0, .int .i64 1099511627776] := fun G ι => (vs_sym i0 (vs_int vs_nil))
  subst i0
  by_cases c0 : (0 : Int) < S.ρ 0
  · have d0 : t_rof40_0.den S = some [b2i true] := tr (p := (0 : Int) < S.ρ 0) c0
    by_cases c1 : (8 : Int) < S.ρ 0
    · have d1 : t_rof40_1.den S = some [b2i false] := fls (p := S.ρ 0 ≤ (8 : Int)) (Int.not_le.2 c1)
      by_cases c2 : (16 : Int) < S.ρ 0
      · have d2 : t_rof40_2.den S = some [b2i false] := fls (p := S.ρ 0 ≤ (16 : Int)) (Int.not_le.2 c2)
        by_cases c3 : (24 : Int) < S.ρ 0
        · have d3 : t_rof40_3.den S = some [b2i false] := fls (p := S.ρ 0 ≤ (24 : Int)) (Int.not_le.2 c3)
          by_cases c4 : (32 : Int) < S.ρ 0
          · have d4 : t_rof40_4.den S = some [b2i false] := fls (p := S.ρ 0 ≤ (32 : Int)) (Int.not_le.2 c4)
            have r0 : ofZ (S.ρ 0) 1099511627776 = (-1 : Int) := by exact if_pos (Or.inr (by decide))
            rw [r0]
            exact symL env gok (ai t_rof40_4 false d4 (ai t_rof40_3 false d3 (ai t_rof40_2 false d2 (ai t_rof40_1 false d1 (ai t_rof40_0 true d0 (AlOk.nil _)))))) (hcs0 _) hvs w hI [.int .i64 (-1)] (csT (.lit .i64 (-1)) rfl cs_nil) (by kernel_rfl) (fun G => by kernel_rfl)
          · have d4 : t_rof40_4.den S = some [b2i true] := tr (p := S.ρ 0 ≤ (32 : Int)) (Int.not_lt.1 c4)
            have r0 : ofZ (S.ρ 0) 1099511627776 = (-1 : Int) := by exact if_pos (Or.inr (by decide))
            rw [r0]
            exact symL env gok (ai t_rof40_4 true d4 (ai t_rof40_3 false d3 (ai t_rof40_2 false d2 (ai t_rof40_1 false d1 (ai t_rof40_0 true d0 (AlOk.nil _)))))) (hcs0 _) hvs w hI [.int .i64 (-1)] (csT (.lit .i64 (-1)) rfl cs_nil) (by kernel_rfl) (fun G => by kernel_rfl)
        · have d3 : t_rof40_3.den S = some [b2i true] := tr (p := S.ρ 0 ≤ (24 : Int)) (Int.not_lt.1 c3)
          have c4 : ¬ ((32 : Int) < S.ρ 0) := by omega
          have d4 : t_rof40_4.den S = some [b2i true] := tr (p := S.ρ 0 ≤ (32 : Int)) (Int.not_lt.1 c4)
          have r0 : ofZ (S.ρ 0) 1099511627776 = (-1 : Int) := by exact if_pos (Or.inr (by decide))
          rw [r0]
          exact symL env gok (ai t_rof40_4 true d4 (ai t_rof40_3 true d3 (ai t_rof40_2 false d2 (ai t_rof40_1 false d1 (ai t_rof40_0 true d0 (AlOk.nil _)))))) (hcs0 _) hvs w hI [.int .i64 (-1)] (csT (.lit .i64 (-1)) rfl cs_nil) (by kernel_rfl) (fun G => by kernel_rfl)
      · have d2 : t_rof40_2.den S = some [b2i true] := tr (p := S.ρ 0 ≤ (16 : Int)) (Int.not_lt.1 c2)
        have c3 : ¬ ((24 : Int) < S.ρ 0) := by omega
        have d3 : t_rof40_3.den S = some [b2i true] := tr (p := S.ρ 0 ≤ (24 : Int)) (Int.not_lt.1 c3)
        have c4 : ¬ ((32 : Int) < S.ρ 0) := by omega
        have d4 : t_rof40_4.den S = some [b2i true] := tr (p := S.ρ 0 ≤ (32 : Int)) (Int.not_lt.1 c4)
        have r0 : ofZ (S.ρ 0) 1099511627776 = (-1 : Int) := by exact if_pos (Or.inr (by decide))
        rw [r0]
        exact symL env gok (ai t_rof40_4 true d4 (ai t_rof40_3 true d3 (ai t_rof40_2 true d2 (ai t_rof40_1 false d1 (ai t_rof40_0 true d0 (AlOk.nil _)))))) (hcs0 _) hvs w hI [.int .i64 (-1)] (csT (.lit .i64 (-1)) rfl cs_nil) (by kernel_rfl) (fun G => by kernel_rfl)
    · have d1 : t_rof40_1.den S = some [b2i true] := tr (p := S.ρ 0 ≤ (8 : Int)) (Int.not_lt.1 c1)
      have c2 : ¬ ((16 : Int) < S.ρ 0) := by omega
      have d2 : t_rof40_2.den S = some [b2i true] := tr (p := S.ρ 0 ≤ (16 : Int)) (Int.not_lt.1 c2)
      have c3 : ¬ ((24 : Int) < S.ρ 0) := by omega
      have d3 : t_rof40_3.den S = some [b2i true] := tr (p := S.ρ 0 ≤ (24 : Int)) (Int.not_lt.1 c3)
      have c4 : ¬ ((32 : Int) < S.ρ 0) := by omega
      have d4 : t_rof40_4.den S = some [b2i true] := tr (p := S.ρ 0 ≤ (32 : Int)) (Int.not_lt.1 c4)
      have r0 : ofZ (S.ρ 0) 1099511627776 = (-1 : Int) := by exact if_pos (Or.inr (by decide))
      rw [r0]
      exact symL env gok (ai t_rof40_4 true d4 (ai t_rof40_3 true d3 (ai t_rof40_2 true d2 (ai t_rof40_1 true d1 (ai t_rof40_0 true d0 (AlOk.nil _)))))) (hcs0 _) hvs w hI [.int .i64 (-1)] (csT (.lit .i64 (-1)) rfl cs_nil) (by kernel_rfl) (fun G => by kernel_rfl)
  · have d0 : t_rof40_0.den S = some [b2i false] := fls (p := (0 : Int) < S.ρ 0) c0
    have r0 : ofZ (S.ρ 0) 1099511627776 = (-1 : Int) := by exact if_pos (Or.inr (by decide))
    rw [r0]
    exact symL env gok (ai t_rof40_0 false d0 (AlOk.nil _)) (hcs0 _) hvs w hI [.int .i64 (-1)] (csT (.lit .i64 (-1)) rfl cs_nil) (by kernel_rfl) (fun G => by kernel_rfl)
def t_rof41_0 : Tm := (.bin .gtr (.var .i64 0) (.lit .i64 0))
def t_rof41_1 : Tm := (.bin .leq (.var .i64 0) (.lit .i64 8))
def t_rof41_2 : Tm := (.bin .leq (.var .i64 0) (.lit .i64 16))
def t_rof41_3 : Tm := (.bin .leq (.var .i64 0) (.lit .i64 24))
def t_rof41_4 : Tm := (.bin .leq (.var .i64 0) (.lit .i64 32))
theorem rof41 (x0 : Int) (w : World) : Calls Try.prog 16 #[.int .i64 x0, .int .i64 2199023255552] w fun e w' => e = .returned (bundle (fillP [.one (.int .i64)] [ofZ x0 2199023255552])) ∧ Quiet w w' := by
  obtain ⟨S, hS⟩ : ∃ S : Sy, S = ⟨upd (fun _ => 0) [(0, x0)], fun _ _ => 0, [], fun _ h => by simp at h⟩ := ⟨_, rfl⟩
  have i0 : S.ρ 0 = x0 := by rw [hS]; rfl
  have hI : S.I = [] := by rw [hS]
  have hvs : ∀ G ι, VsOk S G ι [vv .i64 0, .int .i64 2199023255552] [.int .i64 x0, .int .i64 2199023255552] := fun G ι => (vs_sym i0 (vs_int vs_nil))
  subst i0
  by_cases c0 : (0 : Int) < S.ρ 0
  · have d0 : t_rof41_0.den S = some [b2i true] := tr (p := (0 : Int) < S.ρ 0) c0
    by_cases c1 : (8 : Int) < S.ρ 0
    · have d1 : t_rof41_1.den S = some [b2i false] := fls (p := S.ρ 0 ≤ (8 : Int)) (Int.not_le.2 c1)
      by_cases c2 : (16 : Int) < S.ρ 0
      · have d2 : t_rof41_2.den S = some [b2i false] := fls (p := S.ρ 0 ≤ (16 : Int)) (Int.not_le.2 c2)
        by_cases c3 : (24 : Int) < S.ρ 0
        · have d3 : t_rof41_3.den S = some [b2i false] := fls (p := S.ρ 0 ≤ (24 : Int)) (Int.not_le.2 c3)
          by_cases c4 : (32 : Int) < S.ρ 0
          · have d4 : t_rof41_4.den S = some [b2i false] := fls (p := S.ρ 0 ≤ (32 : Int)) (Int.not_le.2 c4)
            have r0 : ofZ (S.ρ 0) 2199023255552 = (-1 : Int) := by exact if_pos (Or.inr (by decide))
            rw [r0]
            exact symL env gok (ai t_rof41_4 false d4 (ai t_rof41_3 false d3 (ai t_rof41_2 false d2 (ai t_rof41_1 false d1 (ai t_rof41_0 true d0 (AlOk.nil _)))))) (hcs0 _) hvs w hI [.int .i64 (-1)] (csT (.lit .i64 (-1)) rfl cs_nil) (by kernel_rfl) (fun G => by kernel_rfl)
          · have d4 : t_rof41_4.den S = some [b2i true] := tr (p := S.ρ 0 ≤ (32 : Int)) (Int.not_lt.1 c4)
            have r0 : ofZ (S.ρ 0) 2199023255552 = (-1 : Int) := by exact if_pos (Or.inr (by decide))
            rw [r0]
            exact symL env gok (ai t_rof41_4 true d4 (ai t_rof41_3 false d3 (ai t_rof41_2 false d2 (ai t_rof41_1 false d1 (ai t_rof41_0 true d0 (AlOk.nil _)))))) (hcs0 _) hvs w hI [.int .i64 (-1)] (csT (.lit .i64 (-1)) rfl cs_nil) (by kernel_rfl) (fun G => by kernel_rfl)
        · have d3 : t_rof41_3.den S = some [b2i true] := tr (p := S.ρ 0 ≤ (24 : Int)) (Int.not_lt.1 c3)
          have c4 : ¬ ((32 : Int) < S.ρ 0) := by omega
          have d4 : t_rof41_4.den S = some [b2i true] := tr (p := S.ρ 0 ≤ (32 : Int)) (Int.not_lt.1 c4)
          have r0 : ofZ (S.ρ 0) 2199023255552 = (-1 : Int) := by exact if_pos (Or.inr (by decide))
          rw [r0]
          exact symL env gok (ai t_rof41_4 true d4 (ai t_rof41_3 true d3 (ai t_rof41_2 false d2 (ai t_rof41_1 false d1 (ai t_rof41_0 true d0 (AlOk.nil _)))))) (hcs0 _) hvs w hI [.int .i64 (-1)] (csT (.lit .i64 (-1)) rfl cs_nil) (by kernel_rfl) (fun G => by kernel_rfl)
      · have d2 : t_rof41_2.den S = some [b2i true] := tr (p := S.ρ 0 ≤ (16 : Int)) (Int.not_lt.1 c2)
        have c3 : ¬ ((24 : Int) < S.ρ 0) := by omega
        have d3 : t_rof41_3.den S = some [b2i true] := tr (p := S.ρ 0 ≤ (24 : Int)) (Int.not_lt.1 c3)
        have c4 : ¬ ((32 : Int) < S.ρ 0) := by omega
        have d4 : t_rof41_4.den S = some [b2i true] := tr (p := S.ρ 0 ≤ (32 : Int)) (Int.not_lt.1 c4)
        have r0 : ofZ (S.ρ 0) 2199023255552 = (-1 : Int) := by exact if_pos (Or.inr (by decide))
        rw [r0]
        exact symL env gok (ai t_rof41_4 true d4 (ai t_rof41_3 true d3 (ai t_rof41_2 true d2 (ai t_rof41_1 false d1 (ai t_rof41_0 true d0 (AlOk.nil _)))))) (hcs0 _) hvs w hI [.int .i64 (-1)] (csT (.lit .i64 (-1)) rfl cs_nil) (by kernel_rfl) (fun G => by kernel_rfl)
    · have d1 : t_rof41_1.den S = some [b2i true] := tr (p := S.ρ 0 ≤ (8 : Int)) (Int.not_lt.1 c1)
      have c2 : ¬ ((16 : Int) < S.ρ 0) := by omega
      have d2 : t_rof41_2.den S = some [b2i true] := tr (p := S.ρ 0 ≤ (16 : Int)) (Int.not_lt.1 c2)
      have c3 : ¬ ((24 : Int) < S.ρ 0) := by omega
      have d3 : t_rof41_3.den S = some [b2i true] := tr (p := S.ρ 0 ≤ (24 : Int)) (Int.not_lt.1 c3)
      have c4 : ¬ ((32 : Int) < S.ρ 0) := by omega
      have d4 : t_rof41_4.den S = some [b2i true] := tr (p := S.ρ 0 ≤ (32 : Int)) (Int.not_lt.1 c4)
      have r0 : ofZ (S.ρ 0) 2199023255552 = (-1 : Int) := by exact if_pos (Or.inr (by decide))
      rw [r0]
      exact symL env gok (ai t_rof41_4 true d4 (ai t_rof41_3 true d3 (ai t_rof41_2 true d2 (ai t_rof41_1 true d1 (ai t_rof41_0 true d0 (AlOk.nil _)))))) (hcs0 _) hvs w hI [.int .i64 (-1)] (csT (.lit .i64 (-1)) rfl cs_nil) (by kernel_rfl) (fun G => by kernel_rfl)
  · have d0 : t_rof41_0.den S = some [b2i false] := fls (p := (0 : Int) < S.ρ 0) c0
    have r0 : ofZ (S.ρ 0) 2199023255552 = (-1 : Int) := by exact if_pos (Or.inr (by decide))
    rw [r0]
    exact symL env gok (ai t_rof41_0 false d0 (AlOk.nil _)) (hcs0 _) hvs w hI [.int .i64 (-1)] (csT (.lit .i64 (-1)) rfl cs_nil) (by kernel_rfl) (fun G => by kernel_rfl)
def t_rof42_0 : Tm := (.bin .gtr (.var .i64 0) (.lit .i64 0))
def t_rof42_1 : Tm := (.bin .leq (.var .i64 0) (.lit .i64 8))
def t_rof42_2 : Tm := (.bin .leq (.var .i64 0) (.lit .i64 16))
def t_rof42_3 : Tm := (.bin .leq (.var .i64 0) (.lit .i64 24))
def t_rof42_4 : Tm := (.bin .leq (.var .i64 0) (.lit .i64 32))
theorem rof42 (x0 : Int) (w : World) : Calls Try.prog 16 #[.int .i64 x0, .int .i64 4398046511104] w fun e w' => e = .returned (bundle (fillP [.one (.int .i64)] [ofZ x0 4398046511104])) ∧ Quiet w w' := by
  obtain ⟨S, hS⟩ : ∃ S : Sy, S = ⟨upd (fun _ => 0) [(0, x0)], fun _ _ => 0, [], fun _ h => by simp at h⟩ := ⟨_, rfl⟩
  have i0 : S.ρ 0 = x0 := by rw [hS]; rfl
  have hI : S.I = [] := by rw [hS]
  have hvs : ∀ G ι, VsOk S G ι [vv .i64 0, .int .i64 4398046511104] [.int .i64 x0, .int .i64 4398046511104] := fun G ι => (vs_sym i0 (vs_int vs_nil))
  subst i0
  by_cases c0 : (0 : Int) < S.ρ 0
  · have d0 : t_rof42_0.den S = some [b2i true] := tr (p := (0 : Int) < S.ρ 0) c0
    by_cases c1 : (8 : Int) < S.ρ 0
    · have d1 : t_rof42_1.den S = some [b2i false] := fls (p := S.ρ 0 ≤ (8 : Int)) (Int.not_le.2 c1)
      by_cases c2 : (16 : Int) < S.ρ 0
      · have d2 : t_rof42_2.den S = some [b2i false] := fls (p := S.ρ 0 ≤ (16 : Int)) (Int.not_le.2 c2)
        by_cases c3 : (24 : Int) < S.ρ 0
        · have d3 : t_rof42_3.den S = some [b2i false] := fls (p := S.ρ 0 ≤ (24 : Int)) (Int.not_le.2 c3)
          by_cases c4 : (32 : Int) < S.ρ 0
          · have d4 : t_rof42_4.den S = some [b2i false] := fls (p := S.ρ 0 ≤ (32 : Int)) (Int.not_le.2 c4)
            have r0 : ofZ (S.ρ 0) 4398046511104 = (-1 : Int) := by exact if_pos (Or.inr (by decide))
            rw [r0]
            exact symL env gok (ai t_rof42_4 false d4 (ai t_rof42_3 false d3 (ai t_rof42_2 false d2 (ai t_rof42_1 false d1 (ai t_rof42_0 true d0 (AlOk.nil _)))))) (hcs0 _) hvs w hI [.int .i64 (-1)] (csT (.lit .i64 (-1)) rfl cs_nil) (by kernel_rfl) (fun G => by kernel_rfl)
          · have d4 : t_rof42_4.den S = some [b2i true] := tr (p := S.ρ 0 ≤ (32 : Int)) (Int.not_lt.1 c4)
            have r0 : ofZ (S.ρ 0) 4398046511104 = (-1 : Int) := by exact if_pos (Or.inr (by decide))
            rw [r0]
            exact symL env gok (ai t_rof42_4 true d4 (ai t_rof42_3 false d3 (ai t_rof42_2 false d2 (ai t_rof42_1 false d1 (ai t_rof42_0 true d0 (AlOk.nil _)))))) (hcs0 _) hvs w hI [.int .i64 (-1)] (csT (.lit .i64 (-1)) rfl cs_nil) (by kernel_rfl) (fun G => by kernel_rfl)
        · have d3 : t_rof42_3.den S = some [b2i true] := tr (p := S.ρ 0 ≤ (24 : Int)) (Int.not_lt.1 c3)
          have c4 : ¬ ((32 : Int) < S.ρ 0) := by omega
          have d4 : t_rof42_4.den S = some [b2i true] := tr (p := S.ρ 0 ≤ (32 : Int)) (Int.not_lt.1 c4)
          have r0 : ofZ (S.ρ 0) 4398046511104 = (-1 : Int) := by exact if_pos (Or.inr (by decide))
          rw [r0]
          exact symL env gok (ai t_rof42_4 true d4 (ai t_rof42_3 true d3 (ai t_rof42_2 false d2 (ai t_rof42_1 false d1 (ai t_rof42_0 true d0 (AlOk.nil _)))))) (hcs0 _) hvs w hI [.int .i64 (-1)] (csT (.lit .i64 (-1)) rfl cs_nil) (by kernel_rfl) (fun G => by kernel_rfl)
      · have d2 : t_rof42_2.den S = some [b2i true] := tr (p := S.ρ 0 ≤ (16 : Int)) (Int.not_lt.1 c2)
        have c3 : ¬ ((24 : Int) < S.ρ 0) := by omega
        have d3 : t_rof42_3.den S = some [b2i true] := tr (p := S.ρ 0 ≤ (24 : Int)) (Int.not_lt.1 c3)
        have c4 : ¬ ((32 : Int) < S.ρ 0) := by omega
        have d4 : t_rof42_4.den S = some [b2i true] := tr (p := S.ρ 0 ≤ (32 : Int)) (Int.not_lt.1 c4)
        have r0 : ofZ (S.ρ 0) 4398046511104 = (-1 : Int) := by exact if_pos (Or.inr (by decide))
        rw [r0]
        exact symL env gok (ai t_rof42_4 true d4 (ai t_rof42_3 true d3 (ai t_rof42_2 true d2 (ai t_rof42_1 false d1 (ai t_rof42_0 true d0 (AlOk.nil _)))))) (hcs0 _) hvs w hI [.int .i64 (-1)] (csT (.lit .i64 (-1)) rfl cs_nil) (by kernel_rfl) (fun G => by kernel_rfl)
    · have d1 : t_rof42_1.den S = some [b2i true] := tr (p := S.ρ 0 ≤ (8 : Int)) (Int.not_lt.1 c1)
      have c2 : ¬ ((16 : Int) < S.ρ 0) := by omega
      have d2 : t_rof42_2.den S = some [b2i true] := tr (p := S.ρ 0 ≤ (16 : Int)) (Int.not_lt.1 c2)
      have c3 : ¬ ((24 : Int) < S.ρ 0) := by omega
      have d3 : t_rof42_3.den S = some [b2i true] := tr (p := S.ρ 0 ≤ (24 : Int)) (Int.not_lt.1 c3)
      have c4 : ¬ ((32 : Int) < S.ρ 0) := by omega
      have d4 : t_rof42_4.den S = some [b2i true] := tr (p := S.ρ 0 ≤ (32 : Int)) (Int.not_lt.1 c4)
      have r0 : ofZ (S.ρ 0) 4398046511104 = (-1 : Int) := by exact if_pos (Or.inr (by decide))
      rw [r0]
      exact symL env gok (ai t_rof42_4 true d4 (ai t_rof42_3 true d3 (ai t_rof42_2 true d2 (ai t_rof42_1 true d1 (ai t_rof42_0 true d0 (AlOk.nil _)))))) (hcs0 _) hvs w hI [.int .i64 (-1)] (csT (.lit .i64 (-1)) rfl cs_nil) (by kernel_rfl) (fun G => by kernel_rfl)
  · have d0 : t_rof42_0.den S = some [b2i false] := fls (p := (0 : Int) < S.ρ 0) c0
    have r0 : ofZ (S.ρ 0) 4398046511104 = (-1 : Int) := by exact if_pos (Or.inr (by decide))
    rw [r0]
    exact symL env gok (ai t_rof42_0 false d0 (AlOk.nil _)) (hcs0 _) hvs w hI [.int .i64 (-1)] (csT (.lit .i64 (-1)) rfl cs_nil) (by kernel_rfl) (fun G => by kernel_rfl)
end Go.Proofs.Ythaibdajbpdkcaa
