/-
  What Of and Pages of package class come to, as contracts. Conditions: those each says.
-/
import Derived.Test.YtokcoabcflpbbaaF0
import Derived.Test.YtokcoabcflpbbaaEvC1
namespace Go.Proofs.Ytokcoabcflpbbaa
open Go.Ev Go.RowKit
set_option maxRecDepth 100000
def Pw (a : Int) : Prop := a = 1 ∨ a = 2 ∨ a = 4 ∨ a = 8 ∨ a = 16 ∨ a = 32
instance (a : Int) : Decidable (Pw a) := by unfold Pw; infer_instance
def ofZ (s a : Int) : Int := if s < 1 ∨ ¬ Pw a then -1 else if s ≤ 8 ∧ a ≤ 8 then 0 else if s ≤ 16 ∧ a ≤ 16 then 1 else if s ≤ 24 ∧ a ≤ 8 then 2 else if s ≤ 32 then 3 else -1
theorem ofp {s a r : Int} (h1 : Pw a → ofZ s a = r) (h2 : ¬ Pw a → ofZ s a = r) : ofZ s a = r := (Classical.em (Pw a)).elim h1 h2
def pgZ (s : Int) : Int := if s < 1 then 0 else (s + 63) / 64
theorem pw_small {a : Int} (h1 : 1 ≤ a) (h2 : a ≤ 32) (h : opZ .and .i64 a (IntKind.i64.wrap (a - 1)) = 0) : Pw a := by
  rcases (show a = 1 ∨ a = 2 ∨ a = 3 ∨ a = 4 ∨ a = 5 ∨ a = 6 ∨ a = 7 ∨ a = 8 ∨ a = 9 ∨ a = 10 ∨ a = 11 ∨ a = 12 ∨ a = 13 ∨ a = 14 ∨ a = 15 ∨ a = 16 ∨ a = 17 ∨ a = 18 ∨ a = 19 ∨ a = 20 ∨ a = 21 ∨ a = 22 ∨ a = 23 ∨ a = 24 ∨ a = 25 ∨ a = 26 ∨ a = 27 ∨ a = 28 ∨ a = 29 ∨ a = 30 ∨ a = 31 ∨ a = 32 from by omega) with rfl | rfl | rfl | rfl | rfl | rfl | rfl | rfl | rfl | rfl | rfl | rfl | rfl | rfl | rfl | rfl | rfl | rfl | rfl | rfl | rfl | rfl | rfl | rfl | rfl | rfl | rfl | rfl | rfl | rfl | rfl | rfl <;> first | decide | exact absurd h (by decide)
theorem pw_not {a : Int} (h : opZ .and .i64 a (IntKind.i64.wrap (a - 1)) ≠ 0) : ¬ Pw a := by
  intro hp
  rcases hp with rfl | rfl | rfl | rfl | rfl | rfl <;> exact h (by decide)
def t_of_any_0 : Tm := (.bin .lss (.var .i64 0) (.lit .i64 1))
def t_of_any_1 : Tm := (.bin .lss (.var .i64 1) (.lit .i64 1))
def t_of_any_2 : Tm := (.bin .neq (.bin .and (.var .i64 1) (.bin .sub (.var .i64 1) (.lit .i64 1))) (.lit .i64 0))
def t_of_any_3 : Tm := (.bin .geq (.lit .i64 8) (.var .i64 0))
def t_of_any_4 : Tm := (.bin .geq (.lit .i64 16) (.var .i64 0))
def t_of_any_5 : Tm := (.bin .geq (.lit .i64 24) (.var .i64 0))
def t_of_any_6 : Tm := (.bin .geq (.lit .i64 32) (.var .i64 0))
def t_of_any_7 : Tm := (.bin .geq (.lit .i64 32) (.var .i64 1))
def t_of_any_8 : Tm := (.bin .geq (.lit .i64 8) (.var .i64 1))
def t_of_any_9 : Tm := (.bin .geq (.lit .i64 16) (.var .i64 1))
theorem of_any (x0 : Int) (x1 : Int) (w : World) : Calls Try.prog 16 #[.int .i64 x0, .int .i64 x1] w fun e w' => e = .returned (bundle (fillP [.one (.int .i64)] [ofZ x0 x1])) ∧ Quiet w w' := by
  obtain ⟨S, hS⟩ : ∃ S : Sy, S = ⟨upd (fun _ => 0) [(0, x0), (1, x1)], fun _ _ => 0, [], fun _ h => by simp at h⟩ := ⟨_, rfl⟩
  have i0 : S.ρ 0 = x0 := by rw [hS]; rfl
  have i1 : S.ρ 1 = x1 := by rw [hS]; rfl
  have hI : S.I = [] := by rw [hS]
  have hvs : ∀ G ι, VsOk S G ι [vv .i64 0, vv .i64 1] [.int .i64 x0, .int .i64 x1] := fun G ι => (vs_sym i0 (vs_sym i1 vs_nil))
  subst i0
  subst i1
  by_cases c0 : S.ρ 0 < (1 : Int)
  · have d0 : t_of_any_0.den S = some [b2i true] := tr (p := S.ρ 0 < (1 : Int)) c0
    have r0 : ofZ (S.ρ 0) (S.ρ 1) = (-1 : Int) := by exact ofp (fun hp => by unfold ofZ; first | (rw [if_pos (Or.inl (by omega))]; done) | (exact absurd hp (pw_not c2)) | (rw [if_neg (by rintro (h | h); omega; exact h hp)]; unfold Pw at hp; (repeat split) <;> omega)) (fun hp => by unfold ofZ; first | (rw [if_pos (Or.inr hp)]; done) | (exact absurd (pw_small (by omega) (by omega) (Classical.not_not.1 c2)) hp) | (exact absurd (pw_small (by omega) (by omega) c2) hp))
    rw [r0]
    exact symL env gok (ai t_of_any_0 true d0 (AlOk.nil _)) (hcs0 _) hvs w hI [.int .i64 (-1)] (csT (.lit .i64 (-1)) rfl cs_nil) (by kernel_rfl) (fun G => by kernel_rfl)
  · have d0 : t_of_any_0.den S = some [b2i false] := fls (p := S.ρ 0 < (1 : Int)) c0
    by_cases c1 : S.ρ 1 < (1 : Int)
    · have d1 : t_of_any_1.den S = some [b2i true] := tr (p := S.ρ 1 < (1 : Int)) c1
      have r0 : ofZ (S.ρ 0) (S.ρ 1) = (-1 : Int) := by exact ofp (fun hp => by unfold ofZ; first | (rw [if_pos (Or.inl (by omega))]; done) | (exact absurd hp (pw_not c2)) | (rw [if_neg (by rintro (h | h); omega; exact h hp)]; unfold Pw at hp; (repeat split) <;> omega)) (fun hp => by unfold ofZ; first | (rw [if_pos (Or.inr hp)]; done) | (exact absurd (pw_small (by omega) (by omega) (Classical.not_not.1 c2)) hp) | (exact absurd (pw_small (by omega) (by omega) c2) hp))
      rw [r0]
      exact symL env gok (ai t_of_any_1 true d1 (ai t_of_any_0 false d0 (AlOk.nil _))) (hcs0 _) hvs w hI [.int .i64 (-1)] (csT (.lit .i64 (-1)) rfl cs_nil) (by kernel_rfl) (fun G => by kernel_rfl)
    · have d1 : t_of_any_1.den S = some [b2i false] := fls (p := S.ρ 1 < (1 : Int)) c1
      by_cases c2 : (opZ .and .i64 (S.ρ 1) ((IntKind.i64.wrap (S.ρ 1 - (1 : Int))))) = (0 : Int)
      · have d2 : t_of_any_2.den S = some [b2i false] := fls (p := (opZ .and .i64 (S.ρ 1) ((IntKind.i64.wrap (S.ρ 1 - (1 : Int))))) ≠ (0 : Int)) (fun hh => hh c2)
        by_cases c3 : (8 : Int) < S.ρ 0
        · have d3 : t_of_any_3.den S = some [b2i false] := fls (p := S.ρ 0 ≤ (8 : Int)) (Int.not_le.2 c3)
          by_cases c4 : (16 : Int) < S.ρ 0
          · have d4 : t_of_any_4.den S = some [b2i false] := fls (p := S.ρ 0 ≤ (16 : Int)) (Int.not_le.2 c4)
            by_cases c5 : (24 : Int) < S.ρ 0
            · have d5 : t_of_any_5.den S = some [b2i false] := fls (p := S.ρ 0 ≤ (24 : Int)) (Int.not_le.2 c5)
              by_cases c6 : (32 : Int) < S.ρ 0
              · have d6 : t_of_any_6.den S = some [b2i false] := fls (p := S.ρ 0 ≤ (32 : Int)) (Int.not_le.2 c6)
                have r0 : ofZ (S.ρ 0) (S.ρ 1) = (-1 : Int) := by exact ofp (fun hp => by unfold ofZ; first | (rw [if_pos (Or.inl (by omega))]; done) | (exact absurd hp (pw_not c2)) | (rw [if_neg (by rintro (h | h); omega; exact h hp)]; unfold Pw at hp; (repeat split) <;> omega)) (fun hp => by unfold ofZ; first | (rw [if_pos (Or.inr hp)]; done) | (exact absurd (pw_small (by omega) (by omega) (Classical.not_not.1 c2)) hp) | (exact absurd (pw_small (by omega) (by omega) c2) hp))
                rw [r0]
                exact symL env gok (ai t_of_any_6 false d6 (ai t_of_any_5 false d5 (ai t_of_any_4 false d4 (ai t_of_any_3 false d3 (ai t_of_any_2 false d2 (ai t_of_any_1 false d1 (ai t_of_any_0 false d0 (AlOk.nil _)))))))) (hcs0 _) hvs w hI [.int .i64 (-1)] (csT (.lit .i64 (-1)) rfl cs_nil) (by kernel_rfl) (fun G => by kernel_rfl)
              · have d6 : t_of_any_6.den S = some [b2i true] := tr (p := S.ρ 0 ≤ (32 : Int)) (Int.not_lt.1 c6)
                by_cases c7 : (32 : Int) < S.ρ 1
                · have d7 : t_of_any_7.den S = some [b2i false] := fls (p := S.ρ 1 ≤ (32 : Int)) (Int.not_le.2 c7)
                  have r0 : ofZ (S.ρ 0) (S.ρ 1) = (-1 : Int) := by exact ofp (fun hp => by unfold ofZ; first | (rw [if_pos (Or.inl (by omega))]; done) | (exact absurd hp (pw_not c2)) | (rw [if_neg (by rintro (h | h); omega; exact h hp)]; unfold Pw at hp; (repeat split) <;> omega)) (fun hp => by unfold ofZ; first | (rw [if_pos (Or.inr hp)]; done) | (exact absurd (pw_small (by omega) (by omega) (Classical.not_not.1 c2)) hp) | (exact absurd (pw_small (by omega) (by omega) c2) hp))
                  rw [r0]
                  exact symL env gok (ai t_of_any_7 false d7 (ai t_of_any_6 true d6 (ai t_of_any_5 false d5 (ai t_of_any_4 false d4 (ai t_of_any_3 false d3 (ai t_of_any_2 false d2 (ai t_of_any_1 false d1 (ai t_of_any_0 false d0 (AlOk.nil _))))))))) (hcs0 _) hvs w hI [.int .i64 (-1)] (csT (.lit .i64 (-1)) rfl cs_nil) (by kernel_rfl) (fun G => by kernel_rfl)
                · have d7 : t_of_any_7.den S = some [b2i true] := tr (p := S.ρ 1 ≤ (32 : Int)) (Int.not_lt.1 c7)
                  have r0 : ofZ (S.ρ 0) (S.ρ 1) = (3 : Int) := by exact ofp (fun hp => by unfold ofZ; first | (rw [if_pos (Or.inl (by omega))]; done) | (exact absurd hp (pw_not c2)) | (rw [if_neg (by rintro (h | h); omega; exact h hp)]; unfold Pw at hp; (repeat split) <;> omega)) (fun hp => by unfold ofZ; first | (rw [if_pos (Or.inr hp)]; done) | (exact absurd (pw_small (by omega) (by omega) (Classical.not_not.1 c2)) hp) | (exact absurd (pw_small (by omega) (by omega) c2) hp))
                  rw [r0]
                  exact symL env gok (ai t_of_any_7 true d7 (ai t_of_any_6 true d6 (ai t_of_any_5 false d5 (ai t_of_any_4 false d4 (ai t_of_any_3 false d3 (ai t_of_any_2 false d2 (ai t_of_any_1 false d1 (ai t_of_any_0 false d0 (AlOk.nil _))))))))) (hcs0 _) hvs w hI [.int .i64 (3)] (csT (.lit .i64 3) rfl cs_nil) (by kernel_rfl) (fun G => by kernel_rfl)
            · have d5 : t_of_any_5.den S = some [b2i true] := tr (p := S.ρ 0 ≤ (24 : Int)) (Int.not_lt.1 c5)
              by_cases c6 : (8 : Int) < S.ρ 1
              · have d6 : t_of_any_8.den S = some [b2i false] := fls (p := S.ρ 1 ≤ (8 : Int)) (Int.not_le.2 c6)
                have c7 : ¬ ((32 : Int) < S.ρ 0) := by omega
                have d7 : t_of_any_6.den S = some [b2i true] := tr (p := S.ρ 0 ≤ (32 : Int)) (Int.not_lt.1 c7)
                by_cases c8 : (32 : Int) < S.ρ 1
                · have d8 : t_of_any_7.den S = some [b2i false] := fls (p := S.ρ 1 ≤ (32 : Int)) (Int.not_le.2 c8)
                  have r0 : ofZ (S.ρ 0) (S.ρ 1) = (-1 : Int) := by exact ofp (fun hp => by unfold ofZ; first | (rw [if_pos (Or.inl (by omega))]; done) | (exact absurd hp (pw_not c2)) | (rw [if_neg (by rintro (h | h); omega; exact h hp)]; unfold Pw at hp; (repeat split) <;> omega)) (fun hp => by unfold ofZ; first | (rw [if_pos (Or.inr hp)]; done) | (exact absurd (pw_small (by omega) (by omega) (Classical.not_not.1 c2)) hp) | (exact absurd (pw_small (by omega) (by omega) c2) hp))
                  rw [r0]
                  exact symL env gok (ai t_of_any_7 false d8 (ai t_of_any_6 true d7 (ai t_of_any_8 false d6 (ai t_of_any_5 true d5 (ai t_of_any_4 false d4 (ai t_of_any_3 false d3 (ai t_of_any_2 false d2 (ai t_of_any_1 false d1 (ai t_of_any_0 false d0 (AlOk.nil _)))))))))) (hcs0 _) hvs w hI [.int .i64 (-1)] (csT (.lit .i64 (-1)) rfl cs_nil) (by kernel_rfl) (fun G => by kernel_rfl)
                · have d8 : t_of_any_7.den S = some [b2i true] := tr (p := S.ρ 1 ≤ (32 : Int)) (Int.not_lt.1 c8)
                  have r0 : ofZ (S.ρ 0) (S.ρ 1) = (3 : Int) := by exact ofp (fun hp => by unfold ofZ; first | (rw [if_pos (Or.inl (by omega))]; done) | (exact absurd hp (pw_not c2)) | (rw [if_neg (by rintro (h | h); omega; exact h hp)]; unfold Pw at hp; (repeat split) <;> omega)) (fun hp => by unfold ofZ; first | (rw [if_pos (Or.inr hp)]; done) | (exact absurd (pw_small (by omega) (by omega) (Classical.not_not.1 c2)) hp) | (exact absurd (pw_small (by omega) (by omega) c2) hp))
                  rw [r0]
                  exact symL env gok (ai t_of_any_7 true d8 (ai t_of_any_6 true d7 (ai t_of_any_8 false d6 (ai t_of_any_5 true d5 (ai t_of_any_4 false d4 (ai t_of_any_3 false d3 (ai t_of_any_2 false d2 (ai t_of_any_1 false d1 (ai t_of_any_0 false d0 (AlOk.nil _)))))))))) (hcs0 _) hvs w hI [.int .i64 (3)] (csT (.lit .i64 3) rfl cs_nil) (by kernel_rfl) (fun G => by kernel_rfl)
              · have d6 : t_of_any_8.den S = some [b2i true] := tr (p := S.ρ 1 ≤ (8 : Int)) (Int.not_lt.1 c6)
                have r0 : ofZ (S.ρ 0) (S.ρ 1) = (2 : Int) := by exact ofp (fun hp => by unfold ofZ; first | (rw [if_pos (Or.inl (by omega))]; done) | (exact absurd hp (pw_not c2)) | (rw [if_neg (by rintro (h | h); omega; exact h hp)]; unfold Pw at hp; (repeat split) <;> omega)) (fun hp => by unfold ofZ; first | (rw [if_pos (Or.inr hp)]; done) | (exact absurd (pw_small (by omega) (by omega) (Classical.not_not.1 c2)) hp) | (exact absurd (pw_small (by omega) (by omega) c2) hp))
                rw [r0]
                exact symL env gok (ai t_of_any_8 true d6 (ai t_of_any_5 true d5 (ai t_of_any_4 false d4 (ai t_of_any_3 false d3 (ai t_of_any_2 false d2 (ai t_of_any_1 false d1 (ai t_of_any_0 false d0 (AlOk.nil _)))))))) (hcs0 _) hvs w hI [.int .i64 (2)] (csT (.lit .i64 2) rfl cs_nil) (by kernel_rfl) (fun G => by kernel_rfl)
          · have d4 : t_of_any_4.den S = some [b2i true] := tr (p := S.ρ 0 ≤ (16 : Int)) (Int.not_lt.1 c4)
            by_cases c5 : (16 : Int) < S.ρ 1
            · have d5 : t_of_any_9.den S = some [b2i false] := fls (p := S.ρ 1 ≤ (16 : Int)) (Int.not_le.2 c5)
              have c6 : ¬ ((24 : Int) < S.ρ 0) := by omega
              have d6 : t_of_any_5.den S = some [b2i true] := tr (p := S.ρ 0 ≤ (24 : Int)) (Int.not_lt.1 c6)
              have c7 : (8 : Int) < S.ρ 1 := by omega
              have d7 : t_of_any_8.den S = some [b2i false] := fls (p := S.ρ 1 ≤ (8 : Int)) (Int.not_le.2 c7)
              have c8 : ¬ ((32 : Int) < S.ρ 0) := by omega
              have d8 : t_of_any_6.den S = some [b2i true] := tr (p := S.ρ 0 ≤ (32 : Int)) (Int.not_lt.1 c8)
              by_cases c9 : (32 : Int) < S.ρ 1
              · have d9 : t_of_any_7.den S = some [b2i false] := fls (p := S.ρ 1 ≤ (32 : Int)) (Int.not_le.2 c9)
                have r0 : ofZ (S.ρ 0) (S.ρ 1) = (-1 : Int) := by exact ofp (fun hp => by unfold ofZ; first | (rw [if_pos (Or.inl (by omega))]; done) | (exact absurd hp (pw_not c2)) | (rw [if_neg (by rintro (h | h); omega; exact h hp)]; unfold Pw at hp; (repeat split) <;> omega)) (fun hp => by unfold ofZ; first | (rw [if_pos (Or.inr hp)]; done) | (exact absurd (pw_small (by omega) (by omega) (Classical.not_not.1 c2)) hp) | (exact absurd (pw_small (by omega) (by omega) c2) hp))
                rw [r0]
                exact symL env gok (ai t_of_any_7 false d9 (ai t_of_any_6 true d8 (ai t_of_any_8 false d7 (ai t_of_any_5 true d6 (ai t_of_any_9 false d5 (ai t_of_any_4 true d4 (ai t_of_any_3 false d3 (ai t_of_any_2 false d2 (ai t_of_any_1 false d1 (ai t_of_any_0 false d0 (AlOk.nil _))))))))))) (hcs0 _) hvs w hI [.int .i64 (-1)] (csT (.lit .i64 (-1)) rfl cs_nil) (by kernel_rfl) (fun G => by kernel_rfl)
              · have d9 : t_of_any_7.den S = some [b2i true] := tr (p := S.ρ 1 ≤ (32 : Int)) (Int.not_lt.1 c9)
                have r0 : ofZ (S.ρ 0) (S.ρ 1) = (3 : Int) := by exact ofp (fun hp => by unfold ofZ; first | (rw [if_pos (Or.inl (by omega))]; done) | (exact absurd hp (pw_not c2)) | (rw [if_neg (by rintro (h | h); omega; exact h hp)]; unfold Pw at hp; (repeat split) <;> omega)) (fun hp => by unfold ofZ; first | (rw [if_pos (Or.inr hp)]; done) | (exact absurd (pw_small (by omega) (by omega) (Classical.not_not.1 c2)) hp) | (exact absurd (pw_small (by omega) (by omega) c2) hp))
                rw [r0]
                exact symL env gok (ai t_of_any_7 true d9 (ai t_of_any_6 true d8 (ai t_of_any_8 false d7 (ai t_of_any_5 true d6 (ai t_of_any_9 false d5 (ai t_of_any_4 true d4 (ai t_of_any_3 false d3 (ai t_of_any_2 false d2 (ai t_of_any_1 false d1 (ai t_of_any_0 false d0 (AlOk.nil _))))))))))) (hcs0 _) hvs w hI [.int .i64 (3)] (csT (.lit .i64 3) rfl cs_nil) (by kernel_rfl) (fun G => by kernel_rfl)
            · have d5 : t_of_any_9.den S = some [b2i true] := tr (p := S.ρ 1 ≤ (16 : Int)) (Int.not_lt.1 c5)
              have r0 : ofZ (S.ρ 0) (S.ρ 1) = (1 : Int) := by exact ofp (fun hp => by unfold ofZ; first | (rw [if_pos (Or.inl (by omega))]; done) | (exact absurd hp (pw_not c2)) | (rw [if_neg (by rintro (h | h); omega; exact h hp)]; unfold Pw at hp; (repeat split) <;> omega)) (fun hp => by unfold ofZ; first | (rw [if_pos (Or.inr hp)]; done) | (exact absurd (pw_small (by omega) (by omega) (Classical.not_not.1 c2)) hp) | (exact absurd (pw_small (by omega) (by omega) c2) hp))
              rw [r0]
              exact symL env gok (ai t_of_any_9 true d5 (ai t_of_any_4 true d4 (ai t_of_any_3 false d3 (ai t_of_any_2 false d2 (ai t_of_any_1 false d1 (ai t_of_any_0 false d0 (AlOk.nil _))))))) (hcs0 _) hvs w hI [.int .i64 (1)] (csT (.lit .i64 1) rfl cs_nil) (by kernel_rfl) (fun G => by kernel_rfl)
        · have d3 : t_of_any_3.den S = some [b2i true] := tr (p := S.ρ 0 ≤ (8 : Int)) (Int.not_lt.1 c3)
          by_cases c4 : (8 : Int) < S.ρ 1
          · have d4 : t_of_any_8.den S = some [b2i false] := fls (p := S.ρ 1 ≤ (8 : Int)) (Int.not_le.2 c4)
            have c5 : ¬ ((16 : Int) < S.ρ 0) := by omega
            have d5 : t_of_any_4.den S = some [b2i true] := tr (p := S.ρ 0 ≤ (16 : Int)) (Int.not_lt.1 c5)
            by_cases c6 : (16 : Int) < S.ρ 1
            · have d6 : t_of_any_9.den S = some [b2i false] := fls (p := S.ρ 1 ≤ (16 : Int)) (Int.not_le.2 c6)
              have c7 : ¬ ((24 : Int) < S.ρ 0) := by omega
              have d7 : t_of_any_5.den S = some [b2i true] := tr (p := S.ρ 0 ≤ (24 : Int)) (Int.not_lt.1 c7)
              have c8 : ¬ ((32 : Int) < S.ρ 0) := by omega
              have d8 : t_of_any_6.den S = some [b2i true] := tr (p := S.ρ 0 ≤ (32 : Int)) (Int.not_lt.1 c8)
              by_cases c9 : (32 : Int) < S.ρ 1
              · have d9 : t_of_any_7.den S = some [b2i false] := fls (p := S.ρ 1 ≤ (32 : Int)) (Int.not_le.2 c9)
                have r0 : ofZ (S.ρ 0) (S.ρ 1) = (-1 : Int) := by exact ofp (fun hp => by unfold ofZ; first | (rw [if_pos (Or.inl (by omega))]; done) | (exact absurd hp (pw_not c2)) | (rw [if_neg (by rintro (h | h); omega; exact h hp)]; unfold Pw at hp; (repeat split) <;> omega)) (fun hp => by unfold ofZ; first | (rw [if_pos (Or.inr hp)]; done) | (exact absurd (pw_small (by omega) (by omega) (Classical.not_not.1 c2)) hp) | (exact absurd (pw_small (by omega) (by omega) c2) hp))
                rw [r0]
                exact symL env gok (ai t_of_any_7 false d9 (ai t_of_any_6 true d8 (ai t_of_any_5 true d7 (ai t_of_any_9 false d6 (ai t_of_any_4 true d5 (ai t_of_any_8 false d4 (ai t_of_any_3 true d3 (ai t_of_any_2 false d2 (ai t_of_any_1 false d1 (ai t_of_any_0 false d0 (AlOk.nil _))))))))))) (hcs0 _) hvs w hI [.int .i64 (-1)] (csT (.lit .i64 (-1)) rfl cs_nil) (by kernel_rfl) (fun G => by kernel_rfl)
              · have d9 : t_of_any_7.den S = some [b2i true] := tr (p := S.ρ 1 ≤ (32 : Int)) (Int.not_lt.1 c9)
                have r0 : ofZ (S.ρ 0) (S.ρ 1) = (3 : Int) := by exact ofp (fun hp => by unfold ofZ; first | (rw [if_pos (Or.inl (by omega))]; done) | (exact absurd hp (pw_not c2)) | (rw [if_neg (by rintro (h | h); omega; exact h hp)]; unfold Pw at hp; (repeat split) <;> omega)) (fun hp => by unfold ofZ; first | (rw [if_pos (Or.inr hp)]; done) | (exact absurd (pw_small (by omega) (by omega) (Classical.not_not.1 c2)) hp) | (exact absurd (pw_small (by omega) (by omega) c2) hp))
                rw [r0]
                exact symL env gok (ai t_of_any_7 true d9 (ai t_of_any_6 true d8 (ai t_of_any_5 true d7 (ai t_of_any_9 false d6 (ai t_of_any_4 true d5 (ai t_of_any_8 false d4 (ai t_of_any_3 true d3 (ai t_of_any_2 false d2 (ai t_of_any_1 false d1 (ai t_of_any_0 false d0 (AlOk.nil _))))))))))) (hcs0 _) hvs w hI [.int .i64 (3)] (csT (.lit .i64 3) rfl cs_nil) (by kernel_rfl) (fun G => by kernel_rfl)
            · have d6 : t_of_any_9.den S = some [b2i true] := tr (p := S.ρ 1 ≤ (16 : Int)) (Int.not_lt.1 c6)
              have r0 : ofZ (S.ρ 0) (S.ρ 1) = (1 : Int) := by exact ofp (fun hp => by unfold ofZ; first | (rw [if_pos (Or.inl (by omega))]; done) | (exact absurd hp (pw_not c2)) | (rw [if_neg (by rintro (h | h); omega; exact h hp)]; unfold Pw at hp; (repeat split) <;> omega)) (fun hp => by unfold ofZ; first | (rw [if_pos (Or.inr hp)]; done) | (exact absurd (pw_small (by omega) (by omega) (Classical.not_not.1 c2)) hp) | (exact absurd (pw_small (by omega) (by omega) c2) hp))
              rw [r0]
              exact symL env gok (ai t_of_any_9 true d6 (ai t_of_any_4 true d5 (ai t_of_any_8 false d4 (ai t_of_any_3 true d3 (ai t_of_any_2 false d2 (ai t_of_any_1 false d1 (ai t_of_any_0 false d0 (AlOk.nil _)))))))) (hcs0 _) hvs w hI [.int .i64 (1)] (csT (.lit .i64 1) rfl cs_nil) (by kernel_rfl) (fun G => by kernel_rfl)
          · have d4 : t_of_any_8.den S = some [b2i true] := tr (p := S.ρ 1 ≤ (8 : Int)) (Int.not_lt.1 c4)
            have r0 : ofZ (S.ρ 0) (S.ρ 1) = (0 : Int) := by exact ofp (fun hp => by unfold ofZ; first | (rw [if_pos (Or.inl (by omega))]; done) | (exact absurd hp (pw_not c2)) | (rw [if_neg (by rintro (h | h); omega; exact h hp)]; unfold Pw at hp; (repeat split) <;> omega)) (fun hp => by unfold ofZ; first | (rw [if_pos (Or.inr hp)]; done) | (exact absurd (pw_small (by omega) (by omega) (Classical.not_not.1 c2)) hp) | (exact absurd (pw_small (by omega) (by omega) c2) hp))
            rw [r0]
            exact symL env gok (ai t_of_any_8 true d4 (ai t_of_any_3 true d3 (ai t_of_any_2 false d2 (ai t_of_any_1 false d1 (ai t_of_any_0 false d0 (AlOk.nil _)))))) (hcs0 _) hvs w hI [.int .i64 (0)] (csT (.lit .i64 0) rfl cs_nil) (by kernel_rfl) (fun G => by kernel_rfl)
      · have d2 : t_of_any_2.den S = some [b2i true] := tr (p := (opZ .and .i64 (S.ρ 1) ((IntKind.i64.wrap (S.ρ 1 - (1 : Int))))) ≠ (0 : Int)) c2
        have r0 : ofZ (S.ρ 0) (S.ρ 1) = (-1 : Int) := by exact ofp (fun hp => by unfold ofZ; first | (rw [if_pos (Or.inl (by omega))]; done) | (exact absurd hp (pw_not c2)) | (rw [if_neg (by rintro (h | h); omega; exact h hp)]; unfold Pw at hp; (repeat split) <;> omega)) (fun hp => by unfold ofZ; first | (rw [if_pos (Or.inr hp)]; done) | (exact absurd (pw_small (by omega) (by omega) (Classical.not_not.1 c2)) hp) | (exact absurd (pw_small (by omega) (by omega) c2) hp))
        rw [r0]
        exact symL env gok (ai t_of_any_2 true d2 (ai t_of_any_1 false d1 (ai t_of_any_0 false d0 (AlOk.nil _)))) (hcs0 _) hvs w hI [.int .i64 (-1)] (csT (.lit .i64 (-1)) rfl cs_nil) (by kernel_rfl) (fun G => by kernel_rfl)
def t_pg_any_0 : Tm := (.bin .lss (.var .i64 0) (.lit .i64 1))
theorem pg_any (x0 : Int) (hx : -9223372036854775808 ≤ x0 ∧ x0 < 9223372036854775808) (w : World) : Calls Try.prog 18 #[.int .i64 x0] w fun e w' => e = .returned (bundle (fillP [.one (.int .i64)] [pgZ x0])) ∧ Quiet w w' := by
  obtain ⟨S, hS⟩ : ∃ S : Sy, S = ⟨upd (fun _ => 0) [(0, x0)], fun _ _ => 0, [], fun _ h => by simp at h⟩ := ⟨_, rfl⟩
  have i0 : S.ρ 0 = x0 := by rw [hS]; rfl
  have hI : S.I = [] := by rw [hS]
  have hvs : ∀ G ι, VsOk S G ι [vv .i64 0] [.int .i64 x0] := fun G ι => (vs_sym i0 vs_nil)
  subst i0
  have t1 : ∀ y : Int, 0 ≤ y → y.tdiv 64 = y / 64 := fun y h => Int.tdiv_eq_ediv_of_nonneg h
  have t2 : ∀ y : Int, 0 ≤ y → y.tmod 64 = y % 64 := fun y h => Int.tmod_eq_emod_of_nonneg h
  by_cases c0 : S.ρ 0 < (1 : Int)
  · have d0 : t_pg_any_0.den S = some [b2i true] := tr (p := S.ρ 0 < (1 : Int)) c0
    have r0 : pgZ (S.ρ 0) = (0 : Int) := by unfold pgZ; first | rw [if_pos (by omega)] | (rw [if_neg (by omega)]; (try rw [w_i64 (x := S.ρ 0 - 1) (by omega) (by omega)]); rw [t1 _ (by omega), w_i64 (x := _ / 64) (by omega) (by omega)]; have t3 := t2 (S.ρ 0) (by omega); first | (rw [w_i64 (by omega) (by omega)]; omega) | omega)
    rw [r0]
    exact symL env gok (ai t_pg_any_0 true d0 (AlOk.nil _)) (hcs0 _) hvs w hI [.int .i64 (0)] (csT (.lit .i64 0) rfl cs_nil) (by kernel_rfl) (fun G => by kernel_rfl)
  · have d0 : t_pg_any_0.den S = some [b2i false] := fls (p := S.ρ 0 < (1 : Int)) c0
    have r0 : pgZ (S.ρ 0) = (IntKind.i64.wrap ((IntKind.i64.wrap (((IntKind.i64.wrap (S.ρ 0 - (1 : Int)))).tdiv (64 : Int))) + (1 : Int))) := by unfold pgZ; first | rw [if_pos (by omega)] | (rw [if_neg (by omega)]; (try rw [w_i64 (x := S.ρ 0 - 1) (by omega) (by omega)]); rw [t1 _ (by omega), w_i64 (x := _ / 64) (by omega) (by omega)]; have t3 := t2 (S.ρ 0) (by omega); first | (rw [w_i64 (by omega) (by omega)]; omega) | omega)
    rw [r0]
    exact symL env gok (ai t_pg_any_0 false d0 (AlOk.nil _)) (hcs0 _) hvs w hI [.float .f64 ((.bin .add (.bin .quo (.bin .sub (.var .i64 0) (.lit .i64 1)) (.lit .i64 64)) (.lit .i64 1)) : Tm).enc] (csT (.bin .add (.bin .quo (.bin .sub (.var .i64 0) (.lit .i64 1)) (.lit .i64 64)) (.lit .i64 1)) rfl cs_nil) (by kernel_rfl) (fun G => by kernel_rfl)
end Go.Proofs.Ytokcoabcflpbbaa
