/-
  Stage 6: what the functions of package class and of the document's own answers come to, as contracts. Conditions: those each says.
-/
import Derived.Test.YthaibdajbpdkcaaC0
import Derived.Test.YthaibdajbpdkcaaEvC1
namespace Go.Proofs.Ythaibdajbpdkcaa
open Go.Ev Go.RowKit
set_option maxRecDepth 100000
def Pw (a : Int) : Prop := a = 1 ∨ a = 2 ∨ a = 4 ∨ a = 8 ∨ a = 16 ∨ a = 32
instance (a : Int) : Decidable (Pw a) := by unfold Pw; infer_instance
def ofZ (s a : Int) : Int := if s < 1 ∨ ¬ Pw a then -1 else if s ≤ 8 ∧ a ≤ 8 then 0 else if s ≤ 16 ∧ a ≤ 16 then 1 else if s ≤ 24 ∧ a ≤ 8 then 2 else if s ≤ 32 then 3 else -1
theorem ofp {s a r : Int} (h1 : Pw a → ofZ s a = r) (h2 : ¬ Pw a → ofZ s a = r) : ofZ s a = r := (Classical.em (Pw a)).elim h1 h2
def pgZ (s : Int) : Int := if s < 1 then 0 else (s + 63) / 64
def bz (z n o : Int) : Int := if 0 ≤ o ∧ o % z = 0 ∧ o / z < n then o / z else -1
theorem bz_no {z n o : Int} (h : ¬ (0 ≤ o ∧ o % z = 0 ∧ o / z < n)) : bz z n o = -1 := if_neg h
theorem bz_yes {z n o : Int} (h : 0 ≤ o ∧ o % z = 0 ∧ o / z < n) : bz z n o = o / z := if_pos h
def blkZ (c o : Int) : Int := if c = 0 then bz 8 8 o else if c = 1 then bz 16 4 o else if c = 2 then bz 24 2 o else if c = 3 then bz 32 2 o else -1
theorem blk_no {c o : Int} (h : c < 0 ∨ 3 < c) : blkZ c o = -1 := by
  unfold blkZ
  rw [if_neg (by omega), if_neg (by omega), if_neg (by omega), if_neg (by omega)]
theorem pw_small {a : Int} (h1 : 1 ≤ a) (h2 : a ≤ 32) (h : opZ .and .i64 a (IntKind.i64.wrap (a - 1)) = 0) : Pw a := by
  rcases (show a = 1 ∨ a = 2 ∨ a = 3 ∨ a = 4 ∨ a = 5 ∨ a = 6 ∨ a = 7 ∨ a = 8 ∨ a = 9 ∨ a = 10 ∨ a = 11 ∨ a = 12 ∨ a = 13 ∨ a = 14 ∨ a = 15 ∨ a = 16 ∨ a = 17 ∨ a = 18 ∨ a = 19 ∨ a = 20 ∨ a = 21 ∨ a = 22 ∨ a = 23 ∨ a = 24 ∨ a = 25 ∨ a = 26 ∨ a = 27 ∨ a = 28 ∨ a = 29 ∨ a = 30 ∨ a = 31 ∨ a = 32 from by omega) with rfl | rfl | rfl | rfl | rfl | rfl | rfl | rfl | rfl | rfl | rfl | rfl | rfl | rfl | rfl | rfl | rfl | rfl | rfl | rfl | rfl | rfl | rfl | rfl | rfl | rfl | rfl | rfl | rfl | rfl | rfl | rfl <;> first | decide | exact absurd h (by decide)
theorem pw_not {a : Int} (h : opZ .and .i64 a (IntKind.i64.wrap (a - 1)) ≠ 0) : ¬ Pw a := by
  intro hp
  rcases hp with rfl | rfl | rfl | rfl | rfl | rfl <;> exact h (by decide)
def t_of_any_0 : Tm := (.bin .lss (.var .i64 0) (.lit .i64 1))
def t_of_any_1 : Tm := (.bin .lss (.var .i64 1) (.lit .i64 1))
def t_of_any_2 : Tm := (.bin .neq (.bin .and (.var .i64 1) (.bin .sub (.var .i64 1) (.lit .i64 1))) (.lit .i64 0))
def t_of_any_3 : Tm := (.bin .geq (.lit .i64 8) (.var .i64 0))
def t_of_any_4 : Tm := (.bin .geq (.lit .i64 16) (.var .i64 0))
def t_of_any_5 : Tm := (.bin .geq (.lit .i64 24) (.var .i64 0))
def t_of_any_6 : Tm := (.bin .geq (.lit .i64 32) (.var .i64 0))
def t_of_any_7 : Tm := (.bin .geq (.lit .i64 32) (.var .i64 1))
def t_of_any_8 : Tm := (.bin .geq (.lit .i64 8) (.var .i64 1))
def t_of_any_9 : Tm := (.bin .geq (.lit .i64 16) (.var .i64 1))
theorem of_any (x0 : Int) (x1 : Int) (w : World) : Calls Try.prog 12 #[.int .i64 x0, .int .i64 x1] w fun e w' => e = .returned (bundle (fillP [.one (.int .i64)] [ofZ x0 x1])) ∧ Quiet w w' := by
  obtain ⟨S, hS⟩ : ∃ S : Sy, S = ⟨upd (fun _ => 0) [(0, x0), (1, x1)], fun _ _ => 0, [], fun _ h => by simp at h⟩ := ⟨_, rfl⟩
  have i0 : S.ρ 0 = x0 := by rw [hS]; rfl
  have i1 : S.ρ 1 = x1 := by rw [hS]; rfl
  have hI : S.I = [] := by rw [hS]
  have hvs : ∀ G ι, VsOk S G ι [vv .i64 0, vv .i64 1] [.int .i64 x0, .int .i64 x1] := fun G ι => (vs_sym i0 (vs_sym i1 vs_nil))
  subst i0
  subst i1
  by_cases c0 : S.ρ 0 < (1 : Int)
  · have d0 : t_of_any_0.den S = some [b2i true] := tr (p := S.ρ 0 < (1 : Int)) c0
    have r0 : ofZ (S.ρ 0) (S.ρ 1) = (-1 : Int) := by exact ofp (fun hp => by unfold ofZ; first | (rw [if_pos (Or.inl (by omega))]; done) | (exact absurd hp (pw_not c2)) | (rw [if_neg (by rintro (h | h); omega; exact h hp)]; unfold Pw at hp; (repeat split) <;> omega)) (fun hp => by unfold ofZ; first | (rw [if_pos (Or.inr hp)]; done) | (exact absurd (pw_small (by omega) (by omega) (Classical.not_not.1 c2)) hp) | (exact absurd (pw_small (by omega) (by omega) c2) hp))
    rw [r0]
    exact symL env gok (ai t_of_any_0 true d0 (AlOk.nil _)) (hcs0 _) hvs w hI [.int .i64 (-1)] (csT (.lit .i64 (-1)) rfl cs_nil) (by kernel_rfl) (fun G => by kernel_rfl)
  · have d0 : t_of_any_0.den S = some [b2i false] := fls (p := S.ρ 0 < (1 : Int)) c0
    by_cases c1 : S.ρ 1 < (1 : Int)
    · have d1 : t_of_any_1.den S = some [b2i true] := tr (p := S.ρ 1 < (1 : Int)) c1
      have r0 : ofZ (S.ρ 0) (S.ρ 1) = (-1 : Int) := by exact ofp (fun hp => by unfold ofZ; first | (rw [if_pos (Or.inl (by omega))]; done) | (exact absurd hp (pw_not c2)) | (rw [if_neg (by rintro (h | h); omega; exact h hp)]; unfold Pw at hp; (repeat split) <;> omega)) (fun hp => by unfold ofZ; first | (rw [if_pos (Or.inr hp)]; done) | (exact absurd (pw_small (by omega) (by omega) (Classical.not_not.1 c2)) hp) | (exact absurd (pw_small (by omega) (by omega) c2) hp))
      rw [r0]
      exact symL env gok (ai t_of_any_1 true d1 (ai t_of_any_0 false d0 (AlOk.nil _))) (hcs0 _) hvs w hI [.int .i64 (-1)] (csT (.lit .i64 (-1)) rfl cs_nil) (by kernel_rfl) (fun G => by kernel_rfl)
    · have d1 : t_of_any_1.den S = some [b2i false] := fls (p := S.ρ 1 < (1 : Int)) c1
      by_cases c2 : (opZ .and .i64 (S.ρ 1) ((IntKind.i64.wrap (S.ρ 1 - (1 : Int))))) = (0 : Int)
      · have d2 : t_of_any_2.den S = some [b2i false] := fls (p := (opZ .and .i64 (S.ρ 1) ((IntKind.i64.wrap (S.ρ 1 - (1 : Int))))) ≠ (0 : Int)) (fun hh => hh c2)
        by_cases c3 : (8 : Int) < S.ρ 0
        · have d3 : t_of_any_3.den S = some [b2i false] := fls (p := S.ρ 0 ≤ (8 : Int)) (Int.not_le.2 c3)
          by_cases c4 : (16 : Int) < S.ρ 0
          · have d4 : t_of_any_4.den S = some [b2i false] := fls (p := S.ρ 0 ≤ (16 : Int)) (Int.not_le.2 c4)
            by_cases c5 : (24 : Int) < S.ρ 0
            · have d5 : t_of_any_5.den S = some [b2i false] := fls (p := S.ρ 0 ≤ (24 : Int)) (Int.not_le.2 c5)
              by_cases c6 : (32 : Int) < S.ρ 0
              · have d6 : t_of_any_6.den S = some [b2i false] := fls (p := S.ρ 0 ≤ (32 : Int)) (Int.not_le.2 c6)
                have r0 : ofZ (S.ρ 0) (S.ρ 1) = (-1 : Int) := by exact ofp (fun hp => by unfold ofZ; first | (rw [if_pos (Or.inl (by omega))]; done) | (exact absurd hp (pw_not c2)) | (rw [if_neg (by rintro (h | h); omega; exact h hp)]; unfold Pw at hp; (repeat split) <;> omega)) (fun hp => by unfold ofZ; first | (rw [if_pos (Or.inr hp)]; done) | (exact absurd (pw_small (by omega) (by omega) (Classical.not_not.1 c2)) hp) | (exact absurd (pw_small (by omega) (by omega) c2) hp))
                rw [r0]
                exact symL env gok (ai t_of_any_6 false d6 (ai t_of_any_5 false d5 (ai t_of_any_4 false d4 (ai t_of_any_3 false d3 (ai t_of_any_2 false d2 (ai t_of_any_1 false d1 (ai t_of_any_0 false d0 (AlOk.nil _)))))))) (hcs0 _) hvs w hI [.int .i64 (-1)] (csT (.lit .i64 (-1)) rfl cs_nil) (by kernel_rfl) (fun G => by kernel_rfl)
              · have d6 : t_of_any_6.den S = some [b2i true] := tr (p := S.ρ 0 ≤ (32 : Int)) (Int.not_lt.1 c6)
                by_cases c7 : (32 : Int) < S.ρ 1
                · have d7 : t_of_any_7.den S = some [b2i false] := fls (p := S.ρ 1 ≤ (32 : Int)) (Int.not_le.2 c7)
                  have r0 : ofZ (S.ρ 0) (S.ρ 1) = (-1 : Int) := by exact ofp (fun hp => by unfold ofZ; first | (rw [if_pos (Or.inl (by omega))]; done) | (exact absurd hp (pw_not c2)) | (rw [if_neg (by rintro (h | h); omega; exact h hp)]; unfold Pw at hp; (repeat split) <;> omega)) (fun hp => by unfold ofZ; first | (rw [if_pos (Or.inr hp)]; done) | (exact absurd (pw_small (by omega) (by omega) (Classical.not_not.1 c2)) hp) | (exact absurd (pw_small (by omega) (by omega) c2) hp))
                  rw [r0]
                  exact symL env gok (ai t_of_any_7 false d7 (ai t_of_any_6 true d6 (ai t_of_any_5 false d5 (ai t_of_any_4 false d4 (ai t_of_any_3 false d3 (ai t_of_any_2 false d2 (ai t_of_any_1 false d1 (ai t_of_any_0 false d0 (AlOk.nil _))))))))) (hcs0 _) hvs w hI [.int .i64 (-1)] (csT (.lit .i64 (-1)) rfl cs_nil) (by kernel_rfl) (fun G => by kernel_rfl)
                · have d7 : t_of_any_7.den S = some [b2i true] := tr (p := S.ρ 1 ≤ (32 : Int)) (Int.not_lt.1 c7)
                  have r0 : ofZ (S.ρ 0) (S.ρ 1) = (3 : Int) := by exact ofp (fun hp => by unfold ofZ; first | (rw [if_pos (Or.inl (by omega))]; done) | (exact absurd hp (pw_not c2)) | (rw [if_neg (by rintro (h | h); omega; exact h hp)]; unfold Pw at hp; (repeat split) <;> omega)) (fun hp => by unfold ofZ; first | (rw [if_pos (Or.inr hp)]; done) | (exact absurd (pw_small (by omega) (by omega) (Classical.not_not.1 c2)) hp) | (exact absurd (pw_small (by omega) (by omega) c2) hp))
                  rw [r0]
                  exact symL env gok (ai t_of_any_7 true d7 (ai t_of_any_6 true d6 (ai t_of_any_5 false d5 (ai t_of_any_4 false d4 (ai t_of_any_3 false d3 (ai t_of_any_2 false d2 (ai t_of_any_1 false d1 (ai t_of_any_0 false d0 (AlOk.nil _))))))))) (hcs0 _) hvs w hI [.int .i64 (3)] (csT (.lit .i64 3) rfl cs_nil) (by kernel_rfl) (fun G => by kernel_rfl)
            · have d5 : t_of_any_5.den S = some [b2i true] := tr (p := S.ρ 0 ≤ (24 : Int)) (Int.not_lt.1 c5)
              by_cases c6 : (8 : Int) < S.ρ 1
              · have d6 : t_of_any_8.den S = some [b2i false] := fls (p := S.ρ 1 ≤ (8 : Int)) (Int.not_le.2 c6)
                have c7 : ¬ ((32 : Int) < S.ρ 0) := by omega
                have d7 : t_of_any_6.den S = some [b2i true] := tr (p := S.ρ 0 ≤ (32 : Int)) (Int.not_lt.1 c7)
                by_cases c8 : (32 : Int) < S.ρ 1
                · have d8 : t_of_any_7.den S = some [b2i false] := fls (p := S.ρ 1 ≤ (32 : Int)) (Int.not_le.2 c8)
                  have r0 : ofZ (S.ρ 0) (S.ρ 1) = (-1 : Int) := by exact ofp (fun hp => by unfold ofZ; first | (rw [if_pos (Or.inl (by omega))]; done) | (exact absurd hp (pw_not c2)) | (rw [if_neg (by rintro (h | h); omega; exact h hp)]; unfold Pw at hp; (repeat split) <;> omega)) (fun hp => by unfold ofZ; first | (rw [if_pos (Or.inr hp)]; done) | (exact absurd (pw_small (by omega) (by omega) (Classical.not_not.1 c2)) hp) | (exact absurd (pw_small (by omega) (by omega) c2) hp))
                  rw [r0]
                  exact symL env gok (ai t_of_any_7 false d8 (ai t_of_any_6 true d7 (ai t_of_any_8 false d6 (ai t_of_any_5 true d5 (ai t_of_any_4 false d4 (ai t_of_any_3 false d3 (ai t_of_any_2 false d2 (ai t_of_any_1 false d1 (ai t_of_any_0 false d0 (AlOk.nil _)))))))))) (hcs0 _) hvs w hI [.int .i64 (-1)] (csT (.lit .i64 (-1)) rfl cs_nil) (by kernel_rfl) (fun G => by kernel_rfl)
                · have d8 : t_of_any_7.den S = some [b2i true] := tr (p := S.ρ 1 ≤ (32 : Int)) (Int.not_lt.1 c8)
                  have r0 : ofZ (S.ρ 0) (S.ρ 1) = (3 : Int) := by exact ofp (fun hp => by unfold ofZ; first | (rw [if_pos (Or.inl (by omega))]; done) | (exact absurd hp (pw_not c2)) | (rw [if_neg (by rintro (h | h); omega; exact h hp)]; unfold Pw at hp; (repeat split) <;> omega)) (fun hp => by unfold ofZ; first | (rw [if_pos (Or.inr hp)]; done) | (exact absurd (pw_small (by omega) (by omega) (Classical.not_not.1 c2)) hp) | (exact absurd (pw_small (by omega) (by omega) c2) hp))
                  rw [r0]
                  exact symL env gok (ai t_of_any_7 true d8 (ai t_of_any_6 true d7 (ai t_of_any_8 false d6 (ai t_of_any_5 true d5 (ai t_of_any_4 false d4 (ai t_of_any_3 false d3 (ai t_of_any_2 false d2 (ai t_of_any_1 false d1 (ai t_of_any_0 false d0 (AlOk.nil _)))))))))) (hcs0 _) hvs w hI [.int .i64 (3)] (csT (.lit .i64 3) rfl cs_nil) (by kernel_rfl) (fun G => by kernel_rfl)
              · have d6 : t_of_any_8.den S = some [b2i true] := tr (p := S.ρ 1 ≤ (8 : Int)) (Int.not_lt.1 c6)
                have r0 : ofZ (S.ρ 0) (S.ρ 1) = (2 : Int) := by exact ofp (fun hp => by unfold ofZ; first | (rw [if_pos (Or.inl (by omega))]; done) | (exact absurd hp (pw_not c2)) | (rw [if_neg (by rintro (h | h); omega; exact h hp)]; unfold Pw at hp; (repeat split) <;> omega)) (fun hp => by unfold ofZ; first | (rw [if_pos (Or.inr hp)]; done) | (exact absurd (pw_small (by omega) (by omega) (Classical.not_not.1 c2)) hp) | (exact absurd (pw_small (by omega) (by omega) c2) hp))
                rw [r0]
                exact symL env gok (ai t_of_any_8 true d6 (ai t_of_any_5 true d5 (ai t_of_any_4 false d4 (ai t_of_any_3 false d3 (ai t_of_any_2 false d2 (ai t_of_any_1 false d1 (ai t_of_any_0 false d0 (AlOk.nil _)))))))) (hcs0 _) hvs w hI [.int .i64 (2)] (csT (.lit .i64 2) rfl cs_nil) (by kernel_rfl) (fun G => by kernel_rfl)
          · have d4 : t_of_any_4.den S = some [b2i true] := tr (p := S.ρ 0 ≤ (16 : Int)) (Int.not_lt.1 c4)
            by_cases c5 : (16 : Int) < S.ρ 1
            · have d5 : t_of_any_9.den S = some [b2i false] := fls (p := S.ρ 1 ≤ (16 : Int)) (Int.not_le.2 c5)
              have c6 : ¬ ((24 : Int) < S.ρ 0) := by omega
              have d6 : t_of_any_5.den S = some [b2i true] := tr (p := S.ρ 0 ≤ (24 : Int)) (Int.not_lt.1 c6)
              have c7 : (8 : Int) < S.ρ 1 := by omega
              have d7 : t_of_any_8.den S = some [b2i false] := fls (p := S.ρ 1 ≤ (8 : Int)) (Int.not_le.2 c7)
              have c8 : ¬ ((32 : Int) < S.ρ 0) := by omega
              have d8 : t_of_any_6.den S = some [b2i true] := tr (p := S.ρ 0 ≤ (32 : Int)) (Int.not_lt.1 c8)
              by_cases c9 : (32 : Int) < S.ρ 1
              · have d9 : t_of_any_7.den S = some [b2i false] := fls (p := S.ρ 1 ≤ (32 : Int)) (Int.not_le.2 c9)
                have r0 : ofZ (S.ρ 0) (S.ρ 1) = (-1 : Int) := by exact ofp (fun hp => by unfold ofZ; first | (rw [if_pos (Or.inl (by omega))]; done) | (exact absurd hp (pw_not c2)) | (rw [if_neg (by rintro (h | h); omega; exact h hp)]; unfold Pw at hp; (repeat split) <;> omega)) (fun hp => by unfold ofZ; first | (rw [if_pos (Or.inr hp)]; done) | (exact absurd (pw_small (by omega) (by omega) (Classical.not_not.1 c2)) hp) | (exact absurd (pw_small (by omega) (by omega) c2) hp))
                rw [r0]
                exact symL env gok (ai t_of_any_7 false d9 (ai t_of_any_6 true d8 (ai t_of_any_8 false d7 (ai t_of_any_5 true d6 (ai t_of_any_9 false d5 (ai t_of_any_4 true d4 (ai t_of_any_3 false d3 (ai t_of_any_2 false d2 (ai t_of_any_1 false d1 (ai t_of_any_0 false d0 (AlOk.nil _))))))))))) (hcs0 _) hvs w hI [.int .i64 (-1)] (csT (.lit .i64 (-1)) rfl cs_nil) (by kernel_rfl) (fun G => by kernel_rfl)
              · have d9 : t_of_any_7.den S = some [b2i true] := tr (p := S.ρ 1 ≤ (32 : Int)) (Int.not_lt.1 c9)
                have r0 : ofZ (S.ρ 0) (S.ρ 1) = (3 : Int) := by exact ofp (fun hp => by unfold ofZ; first | (rw [if_pos (Or.inl (by omega))]; done) | (exact absurd hp (pw_not c2)) | (rw [if_neg (by rintro (h | h); omega; exact h hp)]; unfold Pw at hp; (repeat split) <;> omega)) (fun hp => by unfold ofZ; first | (rw [if_pos (Or.inr hp)]; done) | (exact absurd (pw_small (by omega) (by omega) (Classical.not_not.1 c2)) hp) | (exact absurd (pw_small (by omega) (by omega) c2) hp))
                rw [r0]
                exact symL env gok (ai t_of_any_7 true d9 (ai t_of_any_6 true d8 (ai t_of_any_8 false d7 (ai t_of_any_5 true d6 (ai t_of_any_9 false d5 (ai t_of_any_4 true d4 (ai t_of_any_3 false d3 (ai t_of_any_2 false d2 (ai t_of_any_1 false d1 (ai t_of_any_0 false d0 (AlOk.nil _))))))))))) (hcs0 _) hvs w hI [.int .i64 (3)] (csT (.lit .i64 3) rfl cs_nil) (by kernel_rfl) (fun G => by kernel_rfl)
            · have d5 : t_of_any_9.den S = some [b2i true] := tr (p := S.ρ 1 ≤ (16 : Int)) (Int.not_lt.1 c5)
              have r0 : ofZ (S.ρ 0) (S.ρ 1) = (1 : Int) := by exact ofp (fun hp => by unfold ofZ; first | (rw [if_pos (Or.inl (by omega))]; done) | (exact absurd hp (pw_not c2)) | (rw [if_neg (by rintro (h | h); omega; exact h hp)]; unfold Pw at hp; (repeat split) <;> omega)) (fun hp => by unfold ofZ; first | (rw [if_pos (Or.inr hp)]; done) | (exact absurd (pw_small (by omega) (by omega) (Classical.not_not.1 c2)) hp) | (exact absurd (pw_small (by omega) (by omega) c2) hp))
              rw [r0]
              exact symL env gok (ai t_of_any_9 true d5 (ai t_of_any_4 true d4 (ai t_of_any_3 false d3 (ai t_of_any_2 false d2 (ai t_of_any_1 false d1 (ai t_of_any_0 false d0 (AlOk.nil _))))))) (hcs0 _) hvs w hI [.int .i64 (1)] (csT (.lit .i64 1) rfl cs_nil) (by kernel_rfl) (fun G => by kernel_rfl)
        · have d3 : t_of_any_3.den S = some [b2i true] := tr (p := S.ρ 0 ≤ (8 : Int)) (Int.not_lt.1 c3)
          by_cases c4 : (8 : Int) < S.ρ 1
          · have d4 : t_of_any_8.den S = some [b2i false] := fls (p := S.ρ 1 ≤ (8 : Int)) (Int.not_le.2 c4)
            have c5 : ¬ ((16 : Int) < S.ρ 0) := by omega
            have d5 : t_of_any_4.den S = some [b2i true] := tr (p := S.ρ 0 ≤ (16 : Int)) (Int.not_lt.1 c5)
            by_cases c6 : (16 : Int) < S.ρ 1
            · have d6 : t_of_any_9.den S = some [b2i false] := fls (p := S.ρ 1 ≤ (16 : Int)) (Int.not_le.2 c6)
              have c7 : ¬ ((24 : Int) < S.ρ 0) := by omega
              have d7 : t_of_any_5.den S = some [b2i true] := tr (p := S.ρ 0 ≤ (24 : Int)) (Int.not_lt.1 c7)
              have c8 : ¬ ((32 : Int) < S.ρ 0) := by omega
              have d8 : t_of_any_6.den S = some [b2i true] := tr (p := S.ρ 0 ≤ (32 : Int)) (Int.not_lt.1 c8)
              by_cases c9 : (32 : Int) < S.ρ 1
              · have d9 : t_of_any_7.den S = some [b2i false] := fls (p := S.ρ 1 ≤ (32 : Int)) (Int.not_le.2 c9)
                have r0 : ofZ (S.ρ 0) (S.ρ 1) = (-1 : Int) := by exact ofp (fun hp => by unfold ofZ; first | (rw [if_pos (Or.inl (by omega))]; done) | (exact absurd hp (pw_not c2)) | (rw [if_neg (by rintro (h | h); omega; exact h hp)]; unfold Pw at hp; (repeat split) <;> omega)) (fun hp => by unfold ofZ; first | (rw [if_pos (Or.inr hp)]; done) | (exact absurd (pw_small (by omega) (by omega) (Classical.not_not.1 c2)) hp) | (exact absurd (pw_small (by omega) (by omega) c2) hp))
                rw [r0]
                exact symL env gok (ai t_of_any_7 false d9 (ai t_of_any_6 true d8 (ai t_of_any_5 true d7 (ai t_of_any_9 false d6 (ai t_of_any_4 true d5 (ai t_of_any_8 false d4 (ai t_of_any_3 true d3 (ai t_of_any_2 false d2 (ai t_of_any_1 false d1 (ai t_of_any_0 false d0 (AlOk.nil _))))))))))) (hcs0 _) hvs w hI [.int .i64 (-1)] (csT (.lit .i64 (-1)) rfl cs_nil) (by kernel_rfl) (fun G => by kernel_rfl)
              · have d9 : t_of_any_7.den S = some [b2i true] := tr (p := S.ρ 1 ≤ (32 : Int)) (Int.not_lt.1 c9)
                have r0 : ofZ (S.ρ 0) (S.ρ 1) = (3 : Int) := by exact ofp (fun hp => by unfold ofZ; first | (rw [if_pos (Or.inl (by omega))]; done) | (exact absurd hp (pw_not c2)) | (rw [if_neg (by rintro (h | h); omega; exact h hp)]; unfold Pw at hp; (repeat split) <;> omega)) (fun hp => by unfold ofZ; first | (rw [if_pos (Or.inr hp)]; done) | (exact absurd (pw_small (by omega) (by omega) (Classical.not_not.1 c2)) hp) | (exact absurd (pw_small (by omega) (by omega) c2) hp))
                rw [r0]
                exact symL env gok (ai t_of_any_7 true d9 (ai t_of_any_6 true d8 (ai t_of_any_5 true d7 (ai t_of_any_9 false d6 (ai t_of_any_4 true d5 (ai t_of_any_8 false d4 (ai t_of_any_3 true d3 (ai t_of_any_2 false d2 (ai t_of_any_1 false d1 (ai t_of_any_0 false d0 (AlOk.nil _))))))))))) (hcs0 _) hvs w hI [.int .i64 (3)] (csT (.lit .i64 3) rfl cs_nil) (by kernel_rfl) (fun G => by kernel_rfl)
            · have d6 : t_of_any_9.den S = some [b2i true] := tr (p := S.ρ 1 ≤ (16 : Int)) (Int.not_lt.1 c6)
              have r0 : ofZ (S.ρ 0) (S.ρ 1) = (1 : Int) := by exact ofp (fun hp => by unfold ofZ; first | (rw [if_pos (Or.inl (by omega))]; done) | (exact absurd hp (pw_not c2)) | (rw [if_neg (by rintro (h | h); omega; exact h hp)]; unfold Pw at hp; (repeat split) <;> omega)) (fun hp => by unfold ofZ; first | (rw [if_pos (Or.inr hp)]; done) | (exact absurd (pw_small (by omega) (by omega) (Classical.not_not.1 c2)) hp) | (exact absurd (pw_small (by omega) (by omega) c2) hp))
              rw [r0]
              exact symL env gok (ai t_of_any_9 true d6 (ai t_of_any_4 true d5 (ai t_of_any_8 false d4 (ai t_of_any_3 true d3 (ai t_of_any_2 false d2 (ai t_of_any_1 false d1 (ai t_of_any_0 false d0 (AlOk.nil _)))))))) (hcs0 _) hvs w hI [.int .i64 (1)] (csT (.lit .i64 1) rfl cs_nil) (by kernel_rfl) (fun G => by kernel_rfl)
          · have d4 : t_of_any_8.den S = some [b2i true] := tr (p := S.ρ 1 ≤ (8 : Int)) (Int.not_lt.1 c4)
            have r0 : ofZ (S.ρ 0) (S.ρ 1) = (0 : Int) := by exact ofp (fun hp => by unfold ofZ; first | (rw [if_pos (Or.inl (by omega))]; done) | (exact absurd hp (pw_not c2)) | (rw [if_neg (by rintro (h | h); omega; exact h hp)]; unfold Pw at hp; (repeat split) <;> omega)) (fun hp => by unfold ofZ; first | (rw [if_pos (Or.inr hp)]; done) | (exact absurd (pw_small (by omega) (by omega) (Classical.not_not.1 c2)) hp) | (exact absurd (pw_small (by omega) (by omega) c2) hp))
            rw [r0]
            exact symL env gok (ai t_of_any_8 true d4 (ai t_of_any_3 true d3 (ai t_of_any_2 false d2 (ai t_of_any_1 false d1 (ai t_of_any_0 false d0 (AlOk.nil _)))))) (hcs0 _) hvs w hI [.int .i64 (0)] (csT (.lit .i64 0) rfl cs_nil) (by kernel_rfl) (fun G => by kernel_rfl)
      · have d2 : t_of_any_2.den S = some [b2i true] := tr (p := (opZ .and .i64 (S.ρ 1) ((IntKind.i64.wrap (S.ρ 1 - (1 : Int))))) ≠ (0 : Int)) c2
        have r0 : ofZ (S.ρ 0) (S.ρ 1) = (-1 : Int) := by exact ofp (fun hp => by unfold ofZ; first | (rw [if_pos (Or.inl (by omega))]; done) | (exact absurd hp (pw_not c2)) | (rw [if_neg (by rintro (h | h); omega; exact h hp)]; unfold Pw at hp; (repeat split) <;> omega)) (fun hp => by unfold ofZ; first | (rw [if_pos (Or.inr hp)]; done) | (exact absurd (pw_small (by omega) (by omega) (Classical.not_not.1 c2)) hp) | (exact absurd (pw_small (by omega) (by omega) c2) hp))
        rw [r0]
        exact symL env gok (ai t_of_any_2 true d2 (ai t_of_any_1 false d1 (ai t_of_any_0 false d0 (AlOk.nil _)))) (hcs0 _) hvs w hI [.int .i64 (-1)] (csT (.lit .i64 (-1)) rfl cs_nil) (by kernel_rfl) (fun G => by kernel_rfl)
def t_rof0_0 : Tm := (.bin .gtr (.var .i64 0) (.lit .i64 0))
def t_rof0_1 : Tm := (.bin .leq (.var .i64 0) (.lit .i64 8))
def t_rof0_2 : Tm := (.bin .leq (.var .i64 0) (.lit .i64 16))
def t_rof0_3 : Tm := (.bin .leq (.var .i64 0) (.lit .i64 24))
def t_rof0_4 : Tm := (.bin .leq (.var .i64 0) (.lit .i64 32))
theorem rof0 (x0 : Int) (w : World) : Calls Try.prog 16 #[.int .i64 x0, .int .i64 1] w fun e w' => e = .returned (bundle (fillP [.one (.int .i64)] [ofZ x0 1])) ∧ Quiet w w' := by
  obtain ⟨S, hS⟩ : ∃ S : Sy, S = ⟨upd (fun _ => 0) [(0, x0)], fun _ _ => 0, [], fun _ h => by simp at h⟩ := ⟨_, rfl⟩
  have i0 : S.ρ 0 = x0 := by rw [hS]; rfl
  have hI : S.I = [] := by rw [hS]
  have hvs : ∀ G ι, VsOk S G ι [vv .i64 0, .int .i64 1] [.int .i64 x0, .int .i64 1] := fun G ι => (vs_sym i0 (vs_int vs_nil))
  subst i0
  by_cases c0 : (0 : Int) < S.ρ 0
  · have d0 : t_rof0_0.den S = some [b2i true] := tr (p := (0 : Int) < S.ρ 0) c0
    by_cases c1 : (8 : Int) < S.ρ 0
    · have d1 : t_rof0_1.den S = some [b2i false] := fls (p := S.ρ 0 ≤ (8 : Int)) (Int.not_le.2 c1)
      by_cases c2 : (16 : Int) < S.ρ 0
      · have d2 : t_rof0_2.den S = some [b2i false] := fls (p := S.ρ 0 ≤ (16 : Int)) (Int.not_le.2 c2)
        by_cases c3 : (24 : Int) < S.ρ 0
        · have d3 : t_rof0_3.den S = some [b2i false] := fls (p := S.ρ 0 ≤ (24 : Int)) (Int.not_le.2 c3)
          by_cases c4 : (32 : Int) < S.ρ 0
          · have d4 : t_rof0_4.den S = some [b2i false] := fls (p := S.ρ 0 ≤ (32 : Int)) (Int.not_le.2 c4)
            have r0 : ofZ (S.ρ 0) 1 = (-1 : Int) := by unfold ofZ; simp only [show Pw 1 = True from by unfold Pw; simp, not_true_eq_false, or_false]; (repeat split) <;> omega
            rw [r0]
            exact symL env gok (ai t_rof0_4 false d4 (ai t_rof0_3 false d3 (ai t_rof0_2 false d2 (ai t_rof0_1 false d1 (ai t_rof0_0 true d0 (AlOk.nil _)))))) (hcs0 _) hvs w hI [.int .i64 (-1)] (csT (.lit .i64 (-1)) rfl cs_nil) (by kernel_rfl) (fun G => by kernel_rfl)
          · have d4 : t_rof0_4.den S = some [b2i true] := tr (p := S.ρ 0 ≤ (32 : Int)) (Int.not_lt.1 c4)
            have r0 : ofZ (S.ρ 0) 1 = (3 : Int) := by unfold ofZ; simp only [show Pw 1 = True from by unfold Pw; simp, not_true_eq_false, or_false]; (repeat split) <;> omega
            rw [r0]
            exact symL env gok (ai t_rof0_4 true d4 (ai t_rof0_3 false d3 (ai t_rof0_2 false d2 (ai t_rof0_1 false d1 (ai t_rof0_0 true d0 (AlOk.nil _)))))) (hcs0 _) hvs w hI [.int .i64 (3)] (csT (.lit .i64 3) rfl cs_nil) (by kernel_rfl) (fun G => by kernel_rfl)
        · have d3 : t_rof0_3.den S = some [b2i true] := tr (p := S.ρ 0 ≤ (24 : Int)) (Int.not_lt.1 c3)
          have r0 : ofZ (S.ρ 0) 1 = (2 : Int) := by unfold ofZ; simp only [show Pw 1 = True from by unfold Pw; simp, not_true_eq_false, or_false]; (repeat split) <;> omega
          rw [r0]
          exact symL env gok (ai t_rof0_3 true d3 (ai t_rof0_2 false d2 (ai t_rof0_1 false d1 (ai t_rof0_0 true d0 (AlOk.nil _))))) (hcs0 _) hvs w hI [.int .i64 (2)] (csT (.lit .i64 2) rfl cs_nil) (by kernel_rfl) (fun G => by kernel_rfl)
      · have d2 : t_rof0_2.den S = some [b2i true] := tr (p := S.ρ 0 ≤ (16 : Int)) (Int.not_lt.1 c2)
        have r0 : ofZ (S.ρ 0) 1 = (1 : Int) := by unfold ofZ; simp only [show Pw 1 = True from by unfold Pw; simp, not_true_eq_false, or_false]; (repeat split) <;> omega
        rw [r0]
        exact symL env gok (ai t_rof0_2 true d2 (ai t_rof0_1 false d1 (ai t_rof0_0 true d0 (AlOk.nil _)))) (hcs0 _) hvs w hI [.int .i64 (1)] (csT (.lit .i64 1) rfl cs_nil) (by kernel_rfl) (fun G => by kernel_rfl)
    · have d1 : t_rof0_1.den S = some [b2i true] := tr (p := S.ρ 0 ≤ (8 : Int)) (Int.not_lt.1 c1)
      have r0 : ofZ (S.ρ 0) 1 = (0 : Int) := by unfold ofZ; simp only [show Pw 1 = True from by unfold Pw; simp, not_true_eq_false, or_false]; (repeat split) <;> omega
      rw [r0]
      exact symL env gok (ai t_rof0_1 true d1 (ai t_rof0_0 true d0 (AlOk.nil _))) (hcs0 _) hvs w hI [.int .i64 (0)] (csT (.lit .i64 0) rfl cs_nil) (by kernel_rfl) (fun G => by kernel_rfl)
  · have d0 : t_rof0_0.den S = some [b2i false] := fls (p := (0 : Int) < S.ρ 0) c0
    have r0 : ofZ (S.ρ 0) 1 = (-1 : Int) := by unfold ofZ; simp only [show Pw 1 = True from by unfold Pw; simp, not_true_eq_false, or_false]; (repeat split) <;> omega
    rw [r0]
    exact symL env gok (ai t_rof0_0 false d0 (AlOk.nil _)) (hcs0 _) hvs w hI [.int .i64 (-1)] (csT (.lit .i64 (-1)) rfl cs_nil) (by kernel_rfl) (fun G => by kernel_rfl)
def t_rof1_0 : Tm := (.bin .gtr (.var .i64 0) (.lit .i64 0))
def t_rof1_1 : Tm := (.bin .leq (.var .i64 0) (.lit .i64 8))
def t_rof1_2 : Tm := (.bin .leq (.var .i64 0) (.lit .i64 16))
def t_rof1_3 : Tm := (.bin .leq (.var .i64 0) (.lit .i64 24))
def t_rof1_4 : Tm := (.bin .leq (.var .i64 0) (.lit .i64 32))
theorem rof1 (x0 : Int) (w : World) : Calls Try.prog 16 #[.int .i64 x0, .int .i64 2] w fun e w' => e = .returned (bundle (fillP [.one (.int .i64)] [ofZ x0 2])) ∧ Quiet w w' := by
  obtain ⟨S, hS⟩ : ∃ S : Sy, S = ⟨upd (fun _ => 0) [(0, x0)], fun _ _ => 0, [], fun _ h => by simp at h⟩ := ⟨_, rfl⟩
  have i0 : S.ρ 0 = x0 := by rw [hS]; rfl
  have hI : S.I = [] := by rw [hS]
  have hvs : ∀ G ι, VsOk S G ι [vv .i64 0, .int .i64 2] [.int .i64 x0, .int .i64 2] := fun G ι => (vs_sym i0 (vs_int vs_nil))
  subst i0
  by_cases c0 : (0 : Int) < S.ρ 0
  · have d0 : t_rof1_0.den S = some [b2i true] := tr (p := (0 : Int) < S.ρ 0) c0
    by_cases c1 : (8 : Int) < S.ρ 0
    · have d1 : t_rof1_1.den S = some [b2i false] := fls (p := S.ρ 0 ≤ (8 : Int)) (Int.not_le.2 c1)
      by_cases c2 : (16 : Int) < S.ρ 0
      · have d2 : t_rof1_2.den S = some [b2i false] := fls (p := S.ρ 0 ≤ (16 : Int)) (Int.not_le.2 c2)
        by_cases c3 : (24 : Int) < S.ρ 0
        · have d3 : t_rof1_3.den S = some [b2i false] := fls (p := S.ρ 0 ≤ (24 : Int)) (Int.not_le.2 c3)
          by_cases c4 : (32 : Int) < S.ρ 0
          · have d4 : t_rof1_4.den S = some [b2i false] := fls (p := S.ρ 0 ≤ (32 : Int)) (Int.not_le.2 c4)
            have r0 : ofZ (S.ρ 0) 2 = (-1 : Int) := by unfold ofZ; simp only [show Pw 2 = True from by unfold Pw; simp, not_true_eq_false, or_false]; (repeat split) <;> omega
            rw [r0]
            exact symL env gok (ai t_rof1_4 false d4 (ai t_rof1_3 false d3 (ai t_rof1_2 false d2 (ai t_rof1_1 false d1 (ai t_rof1_0 true d0 (AlOk.nil _)))))) (hcs0 _) hvs w hI [.int .i64 (-1)] (csT (.lit .i64 (-1)) rfl cs_nil) (by kernel_rfl) (fun G => by kernel_rfl)
          · have d4 : t_rof1_4.den S = some [b2i true] := tr (p := S.ρ 0 ≤ (32 : Int)) (Int.not_lt.1 c4)
            have r0 : ofZ (S.ρ 0) 2 = (3 : Int) := by unfold ofZ; simp only [show Pw 2 = True from by unfold Pw; simp, not_true_eq_false, or_false]; (repeat split) <;> omega
            rw [r0]
            exact symL env gok (ai t_rof1_4 true d4 (ai t_rof1_3 false d3 (ai t_rof1_2 false d2 (ai t_rof1_1 false d1 (ai t_rof1_0 true d0 (AlOk.nil _)))))) (hcs0 _) hvs w hI [.int .i64 (3)] (csT (.lit .i64 3) rfl cs_nil) (by kernel_rfl) (fun G => by kernel_rfl)
        · have d3 : t_rof1_3.den S = some [b2i true] := tr (p := S.ρ 0 ≤ (24 : Int)) (Int.not_lt.1 c3)
          have r0 : ofZ (S.ρ 0) 2 = (2 : Int) := by unfold ofZ; simp only [show Pw 2 = True from by unfold Pw; simp, not_true_eq_false, or_false]; (repeat split) <;> omega
          rw [r0]
          exact symL env gok (ai t_rof1_3 true d3 (ai t_rof1_2 false d2 (ai t_rof1_1 false d1 (ai t_rof1_0 true d0 (AlOk.nil _))))) (hcs0 _) hvs w hI [.int .i64 (2)] (csT (.lit .i64 2) rfl cs_nil) (by kernel_rfl) (fun G => by kernel_rfl)
      · have d2 : t_rof1_2.den S = some [b2i true] := tr (p := S.ρ 0 ≤ (16 : Int)) (Int.not_lt.1 c2)
        have r0 : ofZ (S.ρ 0) 2 = (1 : Int) := by unfold ofZ; simp only [show Pw 2 = True from by unfold Pw; simp, not_true_eq_false, or_false]; (repeat split) <;> omega
        rw [r0]
        exact symL env gok (ai t_rof1_2 true d2 (ai t_rof1_1 false d1 (ai t_rof1_0 true d0 (AlOk.nil _)))) (hcs0 _) hvs w hI [.int .i64 (1)] (csT (.lit .i64 1) rfl cs_nil) (by kernel_rfl) (fun G => by kernel_rfl)
    · have d1 : t_rof1_1.den S = some [b2i true] := tr (p := S.ρ 0 ≤ (8 : Int)) (Int.not_lt.1 c1)
      have r0 : ofZ (S.ρ 0) 2 = (0 : Int) := by unfold ofZ; simp only [show Pw 2 = True from by unfold Pw; simp, not_true_eq_false, or_false]; (repeat split) <;> omega
      rw [r0]
      exact symL env gok (ai t_rof1_1 true d1 (ai t_rof1_0 true d0 (AlOk.nil _))) (hcs0 _) hvs w hI [.int .i64 (0)] (csT (.lit .i64 0) rfl cs_nil) (by kernel_rfl) (fun G => by kernel_rfl)
  · have d0 : t_rof1_0.den S = some [b2i false] := fls (p := (0 : Int) < S.ρ 0) c0
    have r0 : ofZ (S.ρ 0) 2 = (-1 : Int) := by unfold ofZ; simp only [show Pw 2 = True from by unfold Pw; simp, not_true_eq_false, or_false]; (repeat split) <;> omega
    rw [r0]
    exact symL env gok (ai t_rof1_0 false d0 (AlOk.nil _)) (hcs0 _) hvs w hI [.int .i64 (-1)] (csT (.lit .i64 (-1)) rfl cs_nil) (by kernel_rfl) (fun G => by kernel_rfl)
def t_rof2_0 : Tm := (.bin .gtr (.var .i64 0) (.lit .i64 0))
def t_rof2_1 : Tm := (.bin .leq (.var .i64 0) (.lit .i64 8))
def t_rof2_2 : Tm := (.bin .leq (.var .i64 0) (.lit .i64 16))
def t_rof2_3 : Tm := (.bin .leq (.var .i64 0) (.lit .i64 24))
def t_rof2_4 : Tm := (.bin .leq (.var .i64 0) (.lit .i64 32))
theorem rof2 (x0 : Int) (w : World) : Calls Try.prog 16 #[.int .i64 x0, .int .i64 4] w fun e w' => e = .returned (bundle (fillP [.one (.int .i64)] [ofZ x0 4])) ∧ Quiet w w' := by
  obtain ⟨S, hS⟩ : ∃ S : Sy, S = ⟨upd (fun _ => 0) [(0, x0)], fun _ _ => 0, [], fun _ h => by simp at h⟩ := ⟨_, rfl⟩
  have i0 : S.ρ 0 = x0 := by rw [hS]; rfl
  have hI : S.I = [] := by rw [hS]
  have hvs : ∀ G ι, VsOk S G ι [vv .i64 0, .int .i64 4] [.int .i64 x0, .int .i64 4] := fun G ι => (vs_sym i0 (vs_int vs_nil))
  subst i0
  by_cases c0 : (0 : Int) < S.ρ 0
  · have d0 : t_rof2_0.den S = some [b2i true] := tr (p := (0 : Int) < S.ρ 0) c0
    by_cases c1 : (8 : Int) < S.ρ 0
    · have d1 : t_rof2_1.den S = some [b2i false] := fls (p := S.ρ 0 ≤ (8 : Int)) (Int.not_le.2 c1)
      by_cases c2 : (16 : Int) < S.ρ 0
      · have d2 : t_rof2_2.den S = some [b2i false] := fls (p := S.ρ 0 ≤ (16 : Int)) (Int.not_le.2 c2)
        by_cases c3 : (24 : Int) < S.ρ 0
        · have d3 : t_rof2_3.den S = some [b2i false] := fls (p := S.ρ 0 ≤ (24 : Int)) (Int.not_le.2 c3)
          by_cases c4 : (32 : Int) < S.ρ 0
          · have d4 : t_rof2_4.den S = some [b2i false] := fls (p := S.ρ 0 ≤ (32 : Int)) (Int.not_le.2 c4)
            have r0 : ofZ (S.ρ 0) 4 = (-1 : Int) := by unfold ofZ; simp only [show Pw 4 = True from by unfold Pw; simp, not_true_eq_false, or_false]; (repeat split) <;> omega
            rw [r0]
            exact symL env gok (ai t_rof2_4 false d4 (ai t_rof2_3 false d3 (ai t_rof2_2 false d2 (ai t_rof2_1 false d1 (ai t_rof2_0 true d0 (AlOk.nil _)))))) (hcs0 _) hvs w hI [.int .i64 (-1)] (csT (.lit .i64 (-1)) rfl cs_nil) (by kernel_rfl) (fun G => by kernel_rfl)
          · have d4 : t_rof2_4.den S = some [b2i true] := tr (p := S.ρ 0 ≤ (32 : Int)) (Int.not_lt.1 c4)
            have r0 : ofZ (S.ρ 0) 4 = (3 : Int) := by unfold ofZ; simp only [show Pw 4 = True from by unfold Pw; simp, not_true_eq_false, or_false]; (repeat split) <;> omega
            rw [r0]
            exact symL env gok (ai t_rof2_4 true d4 (ai t_rof2_3 false d3 (ai t_rof2_2 false d2 (ai t_rof2_1 false d1 (ai t_rof2_0 true d0 (AlOk.nil _)))))) (hcs0 _) hvs w hI [.int .i64 (3)] (csT (.lit .i64 3) rfl cs_nil) (by kernel_rfl) (fun G => by kernel_rfl)
        · have d3 : t_rof2_3.den S = some [b2i true] := tr (p := S.ρ 0 ≤ (24 : Int)) (Int.not_lt.1 c3)
          have r0 : ofZ (S.ρ 0) 4 = (2 : Int) := by unfold ofZ; simp only [show Pw 4 = True from by unfold Pw; simp, not_true_eq_false, or_false]; (repeat split) <;> omega
          rw [r0]
          exact symL env gok (ai t_rof2_3 true d3 (ai t_rof2_2 false d2 (ai t_rof2_1 false d1 (ai t_rof2_0 true d0 (AlOk.nil _))))) (hcs0 _) hvs w hI [.int .i64 (2)] (csT (.lit .i64 2) rfl cs_nil) (by kernel_rfl) (fun G => by kernel_rfl)
      · have d2 : t_rof2_2.den S = some [b2i true] := tr (p := S.ρ 0 ≤ (16 : Int)) (Int.not_lt.1 c2)
        have r0 : ofZ (S.ρ 0) 4 = (1 : Int) := by unfold ofZ; simp only [show Pw 4 = True from by unfold Pw; simp, not_true_eq_false, or_false]; (repeat split) <;> omega
        rw [r0]
        exact symL env gok (ai t_rof2_2 true d2 (ai t_rof2_1 false d1 (ai t_rof2_0 true d0 (AlOk.nil _)))) (hcs0 _) hvs w hI [.int .i64 (1)] (csT (.lit .i64 1) rfl cs_nil) (by kernel_rfl) (fun G => by kernel_rfl)
    · have d1 : t_rof2_1.den S = some [b2i true] := tr (p := S.ρ 0 ≤ (8 : Int)) (Int.not_lt.1 c1)
      have r0 : ofZ (S.ρ 0) 4 = (0 : Int) := by unfold ofZ; simp only [show Pw 4 = True from by unfold Pw; simp, not_true_eq_false, or_false]; (repeat split) <;> omega
      rw [r0]
      exact symL env gok (ai t_rof2_1 true d1 (ai t_rof2_0 true d0 (AlOk.nil _))) (hcs0 _) hvs w hI [.int .i64 (0)] (csT (.lit .i64 0) rfl cs_nil) (by kernel_rfl) (fun G => by kernel_rfl)
  · have d0 : t_rof2_0.den S = some [b2i false] := fls (p := (0 : Int) < S.ρ 0) c0
    have r0 : ofZ (S.ρ 0) 4 = (-1 : Int) := by unfold ofZ; simp only [show Pw 4 = True from by unfold Pw; simp, not_true_eq_false, or_false]; (repeat split) <;> omega
    rw [r0]
    exact symL env gok (ai t_rof2_0 false d0 (AlOk.nil _)) (hcs0 _) hvs w hI [.int .i64 (-1)] (csT (.lit .i64 (-1)) rfl cs_nil) (by kernel_rfl) (fun G => by kernel_rfl)
def t_rof3_0 : Tm := (.bin .gtr (.var .i64 0) (.lit .i64 0))
def t_rof3_1 : Tm := (.bin .leq (.var .i64 0) (.lit .i64 8))
def t_rof3_2 : Tm := (.bin .leq (.var .i64 0) (.lit .i64 16))
def t_rof3_3 : Tm := (.bin .leq (.var .i64 0) (.lit .i64 24))
def t_rof3_4 : Tm := (.bin .leq (.var .i64 0) (.lit .i64 32))
theorem rof3 (x0 : Int) (w : World) : Calls Try.prog 16 #[.int .i64 x0, .int .i64 8] w fun e w' => e = .returned (bundle (fillP [.one (.int .i64)] [ofZ x0 8])) ∧ Quiet w w' := by
  obtain ⟨S, hS⟩ : ∃ S : Sy, S = ⟨upd (fun _ => 0) [(0, x0)], fun _ _ => 0, [], fun _ h => by simp at h⟩ := ⟨_, rfl⟩
  have i0 : S.ρ 0 = x0 := by rw [hS]; rfl
  have hI : S.I = [] := by rw [hS]
  have hvs : ∀ G ι, VsOk S G ι [vv .i64 0, .int .i64 8] [.int .i64 x0, .int .i64 8] := fun G ι => (vs_sym i0 (vs_int vs_nil))
  subst i0
  by_cases c0 : (0 : Int) < S.ρ 0
  · have d0 : t_rof3_0.den S = some [b2i true] := tr (p := (0 : Int) < S.ρ 0) c0
    by_cases c1 : (8 : Int) < S.ρ 0
    · have d1 : t_rof3_1.den S = some [b2i false] := fls (p := S.ρ 0 ≤ (8 : Int)) (Int.not_le.2 c1)
      by_cases c2 : (16 : Int) < S.ρ 0
      · have d2 : t_rof3_2.den S = some [b2i false] := fls (p := S.ρ 0 ≤ (16 : Int)) (Int.not_le.2 c2)
        by_cases c3 : (24 : Int) < S.ρ 0
        · have d3 : t_rof3_3.den S = some [b2i false] := fls (p := S.ρ 0 ≤ (24 : Int)) (Int.not_le.2 c3)
          by_cases c4 : (32 : Int) < S.ρ 0
          · have d4 : t_rof3_4.den S = some [b2i false] := fls (p := S.ρ 0 ≤ (32 : Int)) (Int.not_le.2 c4)
            have r0 : ofZ (S.ρ 0) 8 = (-1 : Int) := by unfold ofZ; simp only [show Pw 8 = True from by unfold Pw; simp, not_true_eq_false, or_false]; (repeat split) <;> omega
            rw [r0]
            exact symL env gok (ai t_rof3_4 false d4 (ai t_rof3_3 false d3 (ai t_rof3_2 false d2 (ai t_rof3_1 false d1 (ai t_rof3_0 true d0 (AlOk.nil _)))))) (hcs0 _) hvs w hI [.int .i64 (-1)] (csT (.lit .i64 (-1)) rfl cs_nil) (by kernel_rfl) (fun G => by kernel_rfl)
          · have d4 : t_rof3_4.den S = some [b2i true] := tr (p := S.ρ 0 ≤ (32 : Int)) (Int.not_lt.1 c4)
            have r0 : ofZ (S.ρ 0) 8 = (3 : Int) := by unfold ofZ; simp only [show Pw 8 = True from by unfold Pw; simp, not_true_eq_false, or_false]; (repeat split) <;> omega
            rw [r0]
            exact symL env gok (ai t_rof3_4 true d4 (ai t_rof3_3 false d3 (ai t_rof3_2 false d2 (ai t_rof3_1 false d1 (ai t_rof3_0 true d0 (AlOk.nil _)))))) (hcs0 _) hvs w hI [.int .i64 (3)] (csT (.lit .i64 3) rfl cs_nil) (by kernel_rfl) (fun G => by kernel_rfl)
        · have d3 : t_rof3_3.den S = some [b2i true] := tr (p := S.ρ 0 ≤ (24 : Int)) (Int.not_lt.1 c3)
          have r0 : ofZ (S.ρ 0) 8 = (2 : Int) := by unfold ofZ; simp only [show Pw 8 = True from by unfold Pw; simp, not_true_eq_false, or_false]; (repeat split) <;> omega
          rw [r0]
          exact symL env gok (ai t_rof3_3 true d3 (ai t_rof3_2 false d2 (ai t_rof3_1 false d1 (ai t_rof3_0 true d0 (AlOk.nil _))))) (hcs0 _) hvs w hI [.int .i64 (2)] (csT (.lit .i64 2) rfl cs_nil) (by kernel_rfl) (fun G => by kernel_rfl)
      · have d2 : t_rof3_2.den S = some [b2i true] := tr (p := S.ρ 0 ≤ (16 : Int)) (Int.not_lt.1 c2)
        have r0 : ofZ (S.ρ 0) 8 = (1 : Int) := by unfold ofZ; simp only [show Pw 8 = True from by unfold Pw; simp, not_true_eq_false, or_false]; (repeat split) <;> omega
        rw [r0]
        exact symL env gok (ai t_rof3_2 true d2 (ai t_rof3_1 false d1 (ai t_rof3_0 true d0 (AlOk.nil _)))) (hcs0 _) hvs w hI [.int .i64 (1)] (csT (.lit .i64 1) rfl cs_nil) (by kernel_rfl) (fun G => by kernel_rfl)
    · have d1 : t_rof3_1.den S = some [b2i true] := tr (p := S.ρ 0 ≤ (8 : Int)) (Int.not_lt.1 c1)
      have r0 : ofZ (S.ρ 0) 8 = (0 : Int) := by unfold ofZ; simp only [show Pw 8 = True from by unfold Pw; simp, not_true_eq_false, or_false]; (repeat split) <;> omega
      rw [r0]
      exact symL env gok (ai t_rof3_1 true d1 (ai t_rof3_0 true d0 (AlOk.nil _))) (hcs0 _) hvs w hI [.int .i64 (0)] (csT (.lit .i64 0) rfl cs_nil) (by kernel_rfl) (fun G => by kernel_rfl)
  · have d0 : t_rof3_0.den S = some [b2i false] := fls (p := (0 : Int) < S.ρ 0) c0
    have r0 : ofZ (S.ρ 0) 8 = (-1 : Int) := by unfold ofZ; simp only [show Pw 8 = True from by unfold Pw; simp, not_true_eq_false, or_false]; (repeat split) <;> omega
    rw [r0]
    exact symL env gok (ai t_rof3_0 false d0 (AlOk.nil _)) (hcs0 _) hvs w hI [.int .i64 (-1)] (csT (.lit .i64 (-1)) rfl cs_nil) (by kernel_rfl) (fun G => by kernel_rfl)
def t_rof4_0 : Tm := (.bin .gtr (.var .i64 0) (.lit .i64 0))
def t_rof4_1 : Tm := (.bin .leq (.var .i64 0) (.lit .i64 8))
def t_rof4_2 : Tm := (.bin .leq (.var .i64 0) (.lit .i64 16))
def t_rof4_3 : Tm := (.bin .leq (.var .i64 0) (.lit .i64 24))
def t_rof4_4 : Tm := (.bin .leq (.var .i64 0) (.lit .i64 32))
theorem rof4 (x0 : Int) (w : World) : Calls Try.prog 16 #[.int .i64 x0, .int .i64 16] w fun e w' => e = .returned (bundle (fillP [.one (.int .i64)] [ofZ x0 16])) ∧ Quiet w w' := by
  obtain ⟨S, hS⟩ : ∃ S : Sy, S = ⟨upd (fun _ => 0) [(0, x0)], fun _ _ => 0, [], fun _ h => by simp at h⟩ := ⟨_, rfl⟩
  have i0 : S.ρ 0 = x0 := by rw [hS]; rfl
  have hI : S.I = [] := by rw [hS]
  have hvs : ∀ G ι, VsOk S G ι [vv .i64 0, .int .i64 16] [.int .i64 x0, .int .i64 16] := fun G ι => (vs_sym i0 (vs_int vs_nil))
  subst i0
  by_cases c0 : (0 : Int) < S.ρ 0
  · have d0 : t_rof4_0.den S = some [b2i true] := tr (p := (0 : Int) < S.ρ 0) c0
    by_cases c1 : (8 : Int) < S.ρ 0
    · have d1 : t_rof4_1.den S = some [b2i false] := fls (p := S.ρ 0 ≤ (8 : Int)) (Int.not_le.2 c1)
      by_cases c2 : (16 : Int) < S.ρ 0
      · have d2 : t_rof4_2.den S = some [b2i false] := fls (p := S.ρ 0 ≤ (16 : Int)) (Int.not_le.2 c2)
        by_cases c3 : (24 : Int) < S.ρ 0
        · have d3 : t_rof4_3.den S = some [b2i false] := fls (p := S.ρ 0 ≤ (24 : Int)) (Int.not_le.2 c3)
          by_cases c4 : (32 : Int) < S.ρ 0
          · have d4 : t_rof4_4.den S = some [b2i false] := fls (p := S.ρ 0 ≤ (32 : Int)) (Int.not_le.2 c4)
            have r0 : ofZ (S.ρ 0) 16 = (-1 : Int) := by unfold ofZ; simp only [show Pw 16 = True from by unfold Pw; simp, not_true_eq_false, or_false]; (repeat split) <;> omega
            rw [r0]
            exact symL env gok (ai t_rof4_4 false d4 (ai t_rof4_3 false d3 (ai t_rof4_2 false d2 (ai t_rof4_1 false d1 (ai t_rof4_0 true d0 (AlOk.nil _)))))) (hcs0 _) hvs w hI [.int .i64 (-1)] (csT (.lit .i64 (-1)) rfl cs_nil) (by kernel_rfl) (fun G => by kernel_rfl)
          · have d4 : t_rof4_4.den S = some [b2i true] := tr (p := S.ρ 0 ≤ (32 : Int)) (Int.not_lt.1 c4)
            have r0 : ofZ (S.ρ 0) 16 = (3 : Int) := by unfold ofZ; simp only [show Pw 16 = True from by unfold Pw; simp, not_true_eq_false, or_false]; (repeat split) <;> omega
            rw [r0]
            exact symL env gok (ai t_rof4_4 true d4 (ai t_rof4_3 false d3 (ai t_rof4_2 false d2 (ai t_rof4_1 false d1 (ai t_rof4_0 true d0 (AlOk.nil _)))))) (hcs0 _) hvs w hI [.int .i64 (3)] (csT (.lit .i64 3) rfl cs_nil) (by kernel_rfl) (fun G => by kernel_rfl)
        · have d3 : t_rof4_3.den S = some [b2i true] := tr (p := S.ρ 0 ≤ (24 : Int)) (Int.not_lt.1 c3)
          have c4 : ¬ ((32 : Int) < S.ρ 0) := by omega
          have d4 : t_rof4_4.den S = some [b2i true] := tr (p := S.ρ 0 ≤ (32 : Int)) (Int.not_lt.1 c4)
          have r0 : ofZ (S.ρ 0) 16 = (3 : Int) := by unfold ofZ; simp only [show Pw 16 = True from by unfold Pw; simp, not_true_eq_false, or_false]; (repeat split) <;> omega
          rw [r0]
          exact symL env gok (ai t_rof4_4 true d4 (ai t_rof4_3 true d3 (ai t_rof4_2 false d2 (ai t_rof4_1 false d1 (ai t_rof4_0 true d0 (AlOk.nil _)))))) (hcs0 _) hvs w hI [.int .i64 (3)] (csT (.lit .i64 3) rfl cs_nil) (by kernel_rfl) (fun G => by kernel_rfl)
      · have d2 : t_rof4_2.den S = some [b2i true] := tr (p := S.ρ 0 ≤ (16 : Int)) (Int.not_lt.1 c2)
        have r0 : ofZ (S.ρ 0) 16 = (1 : Int) := by unfold ofZ; simp only [show Pw 16 = True from by unfold Pw; simp, not_true_eq_false, or_false]; (repeat split) <;> omega
        rw [r0]
        exact symL env gok (ai t_rof4_2 true d2 (ai t_rof4_1 false d1 (ai t_rof4_0 true d0 (AlOk.nil _)))) (hcs0 _) hvs w hI [.int .i64 (1)] (csT (.lit .i64 1) rfl cs_nil) (by kernel_rfl) (fun G => by kernel_rfl)
    · have d1 : t_rof4_1.den S = some [b2i true] := tr (p := S.ρ 0 ≤ (8 : Int)) (Int.not_lt.1 c1)
      have c2 : ¬ ((16 : Int) < S.ρ 0) := by omega
      have d2 : t_rof4_2.den S = some [b2i true] := tr (p := S.ρ 0 ≤ (16 : Int)) (Int.not_lt.1 c2)
      have r0 : ofZ (S.ρ 0) 16 = (1 : Int) := by unfold ofZ; simp only [show Pw 16 = True from by unfold Pw; simp, not_true_eq_false, or_false]; (repeat split) <;> omega
      rw [r0]
      exact symL env gok (ai t_rof4_2 true d2 (ai t_rof4_1 true d1 (ai t_rof4_0 true d0 (AlOk.nil _)))) (hcs0 _) hvs w hI [.int .i64 (1)] (csT (.lit .i64 1) rfl cs_nil) (by kernel_rfl) (fun G => by kernel_rfl)
  · have d0 : t_rof4_0.den S = some [b2i false] := fls (p := (0 : Int) < S.ρ 0) c0
    have r0 : ofZ (S.ρ 0) 16 = (-1 : Int) := by unfold ofZ; simp only [show Pw 16 = True from by unfold Pw; simp, not_true_eq_false, or_false]; (repeat split) <;> omega
    rw [r0]
    exact symL env gok (ai t_rof4_0 false d0 (AlOk.nil _)) (hcs0 _) hvs w hI [.int .i64 (-1)] (csT (.lit .i64 (-1)) rfl cs_nil) (by kernel_rfl) (fun G => by kernel_rfl)
def t_rof5_0 : Tm := (.bin .gtr (.var .i64 0) (.lit .i64 0))
def t_rof5_1 : Tm := (.bin .leq (.var .i64 0) (.lit .i64 8))
def t_rof5_2 : Tm := (.bin .leq (.var .i64 0) (.lit .i64 16))
def t_rof5_3 : Tm := (.bin .leq (.var .i64 0) (.lit .i64 24))
def t_rof5_4 : Tm := (.bin .leq (.var .i64 0) (.lit .i64 32))
theorem rof5 (x0 : Int) (w : World) : Calls Try.prog 16 #[.int .i64 x0, .int .i64 32] w fun e w' => e = .returned (bundle (fillP [.one (.int .i64)] [ofZ x0 32])) ∧ Quiet w w' := by
  obtain ⟨S, hS⟩ : ∃ S : Sy, S = ⟨upd (fun _ => 0) [(0, x0)], fun _ _ => 0, [], fun _ h => by simp at h⟩ := ⟨_, rfl⟩
  have i0 : S.ρ 0 = x0 := by rw [hS]; rfl
  have hI : S.I = [] := by rw [hS]
  have hvs : ∀ G ι, VsOk S G ι [vv .i64 0, .int .i64 32] [.int .i64 x0, .int .i64 32] := fun G ι => (vs_sym i0 (vs_int vs_nil))
  subst i0
  by_cases c0 : (0 : Int) < S.ρ 0
  · have d0 : t_rof5_0.den S = some [b2i true] := tr (p := (0 : Int) < S.ρ 0) c0
    by_cases c1 : (8 : Int) < S.ρ 0
    · have d1 : t_rof5_1.den S = some [b2i false] := fls (p := S.ρ 0 ≤ (8 : Int)) (Int.not_le.2 c1)
      by_cases c2 : (16 : Int) < S.ρ 0
      · have d2 : t_rof5_2.den S = some [b2i false] := fls (p := S.ρ 0 ≤ (16 : Int)) (Int.not_le.2 c2)
        by_cases c3 : (24 : Int) < S.ρ 0
        · have d3 : t_rof5_3.den S = some [b2i false] := fls (p := S.ρ 0 ≤ (24 : Int)) (Int.not_le.2 c3)
          by_cases c4 : (32 : Int) < S.ρ 0
          · have d4 : t_rof5_4.den S = some [b2i false] := fls (p := S.ρ 0 ≤ (32 : Int)) (Int.not_le.2 c4)
            have r0 : ofZ (S.ρ 0) 32 = (-1 : Int) := by unfold ofZ; simp only [show Pw 32 = True from by unfold Pw; simp, not_true_eq_false, or_false]; (repeat split) <;> omega
            rw [r0]
            exact symL env gok (ai t_rof5_4 false d4 (ai t_rof5_3 false d3 (ai t_rof5_2 false d2 (ai t_rof5_1 false d1 (ai t_rof5_0 true d0 (AlOk.nil _)))))) (hcs0 _) hvs w hI [.int .i64 (-1)] (csT (.lit .i64 (-1)) rfl cs_nil) (by kernel_rfl) (fun G => by kernel_rfl)
          · have d4 : t_rof5_4.den S = some [b2i true] := tr (p := S.ρ 0 ≤ (32 : Int)) (Int.not_lt.1 c4)
            have r0 : ofZ (S.ρ 0) 32 = (3 : Int) := by unfold ofZ; simp only [show Pw 32 = True from by unfold Pw; simp, not_true_eq_false, or_false]; (repeat split) <;> omega
            rw [r0]
            exact symL env gok (ai t_rof5_4 true d4 (ai t_rof5_3 false d3 (ai t_rof5_2 false d2 (ai t_rof5_1 false d1 (ai t_rof5_0 true d0 (AlOk.nil _)))))) (hcs0 _) hvs w hI [.int .i64 (3)] (csT (.lit .i64 3) rfl cs_nil) (by kernel_rfl) (fun G => by kernel_rfl)
        · have d3 : t_rof5_3.den S = some [b2i true] := tr (p := S.ρ 0 ≤ (24 : Int)) (Int.not_lt.1 c3)
          have c4 : ¬ ((32 : Int) < S.ρ 0) := by omega
          have d4 : t_rof5_4.den S = some [b2i true] := tr (p := S.ρ 0 ≤ (32 : Int)) (Int.not_lt.1 c4)
          have r0 : ofZ (S.ρ 0) 32 = (3 : Int) := by unfold ofZ; simp only [show Pw 32 = True from by unfold Pw; simp, not_true_eq_false, or_false]; (repeat split) <;> omega
          rw [r0]
          exact symL env gok (ai t_rof5_4 true d4 (ai t_rof5_3 true d3 (ai t_rof5_2 false d2 (ai t_rof5_1 false d1 (ai t_rof5_0 true d0 (AlOk.nil _)))))) (hcs0 _) hvs w hI [.int .i64 (3)] (csT (.lit .i64 3) rfl cs_nil) (by kernel_rfl) (fun G => by kernel_rfl)
      · have d2 : t_rof5_2.den S = some [b2i true] := tr (p := S.ρ 0 ≤ (16 : Int)) (Int.not_lt.1 c2)
        have c3 : ¬ ((24 : Int) < S.ρ 0) := by omega
        have d3 : t_rof5_3.den S = some [b2i true] := tr (p := S.ρ 0 ≤ (24 : Int)) (Int.not_lt.1 c3)
        have c4 : ¬ ((32 : Int) < S.ρ 0) := by omega
        have d4 : t_rof5_4.den S = some [b2i true] := tr (p := S.ρ 0 ≤ (32 : Int)) (Int.not_lt.1 c4)
        have r0 : ofZ (S.ρ 0) 32 = (3 : Int) := by unfold ofZ; simp only [show Pw 32 = True from by unfold Pw; simp, not_true_eq_false, or_false]; (repeat split) <;> omega
        rw [r0]
        exact symL env gok (ai t_rof5_4 true d4 (ai t_rof5_3 true d3 (ai t_rof5_2 true d2 (ai t_rof5_1 false d1 (ai t_rof5_0 true d0 (AlOk.nil _)))))) (hcs0 _) hvs w hI [.int .i64 (3)] (csT (.lit .i64 3) rfl cs_nil) (by kernel_rfl) (fun G => by kernel_rfl)
    · have d1 : t_rof5_1.den S = some [b2i true] := tr (p := S.ρ 0 ≤ (8 : Int)) (Int.not_lt.1 c1)
      have c2 : ¬ ((16 : Int) < S.ρ 0) := by omega
      have d2 : t_rof5_2.den S = some [b2i true] := tr (p := S.ρ 0 ≤ (16 : Int)) (Int.not_lt.1 c2)
      have c3 : ¬ ((24 : Int) < S.ρ 0) := by omega
      have d3 : t_rof5_3.den S = some [b2i true] := tr (p := S.ρ 0 ≤ (24 : Int)) (Int.not_lt.1 c3)
      have c4 : ¬ ((32 : Int) < S.ρ 0) := by omega
      have d4 : t_rof5_4.den S = some [b2i true] := tr (p := S.ρ 0 ≤ (32 : Int)) (Int.not_lt.1 c4)
      have r0 : ofZ (S.ρ 0) 32 = (3 : Int) := by unfold ofZ; simp only [show Pw 32 = True from by unfold Pw; simp, not_true_eq_false, or_false]; (repeat split) <;> omega
      rw [r0]
      exact symL env gok (ai t_rof5_4 true d4 (ai t_rof5_3 true d3 (ai t_rof5_2 true d2 (ai t_rof5_1 true d1 (ai t_rof5_0 true d0 (AlOk.nil _)))))) (hcs0 _) hvs w hI [.int .i64 (3)] (csT (.lit .i64 3) rfl cs_nil) (by kernel_rfl) (fun G => by kernel_rfl)
  · have d0 : t_rof5_0.den S = some [b2i false] := fls (p := (0 : Int) < S.ρ 0) c0
    have r0 : ofZ (S.ρ 0) 32 = (-1 : Int) := by unfold ofZ; simp only [show Pw 32 = True from by unfold Pw; simp, not_true_eq_false, or_false]; (repeat split) <;> omega
    rw [r0]
    exact symL env gok (ai t_rof5_0 false d0 (AlOk.nil _)) (hcs0 _) hvs w hI [.int .i64 (-1)] (csT (.lit .i64 (-1)) rfl cs_nil) (by kernel_rfl) (fun G => by kernel_rfl)
def t_rof6_0 : Tm := (.bin .gtr (.var .i64 0) (.lit .i64 0))
def t_rof6_1 : Tm := (.bin .leq (.var .i64 0) (.lit .i64 8))
def t_rof6_2 : Tm := (.bin .leq (.var .i64 0) (.lit .i64 16))
def t_rof6_3 : Tm := (.bin .leq (.var .i64 0) (.lit .i64 24))
def t_rof6_4 : Tm := (.bin .leq (.var .i64 0) (.lit .i64 32))
theorem rof6 (x0 : Int) (w : World) : Calls Try.prog 16 #[.int .i64 x0, .int .i64 64] w fun e w' => e = .returned (bundle (fillP [.one (.int .i64)] [ofZ x0 64])) ∧ Quiet w w' := by
  obtain ⟨S, hS⟩ : ∃ S : Sy, S = ⟨upd (fun _ => 0) [(0, x0)], fun _ _ => 0, [], fun _ h => by simp at h⟩ := ⟨_, rfl⟩
  have i0 : S.ρ 0 = x0 := by rw [hS]; rfl
  have hI : S.I = [] := by rw [hS]
  have hvs : ∀ G ι, VsOk S G ι [vv .i64 0, .int .i64 64] [.int .i64 x0, .int .i64 64] := fun G ι => (vs_sym i0 (vs_int vs_nil))
  subst i0
  by_cases c0 : (0 : Int) < S.ρ 0
  · have d0 : t_rof6_0.den S = some [b2i true] := tr (p := (0 : Int) < S.ρ 0) c0
    by_cases c1 : (8 : Int) < S.ρ 0
    · have d1 : t_rof6_1.den S = some [b2i false] := fls (p := S.ρ 0 ≤ (8 : Int)) (Int.not_le.2 c1)
      by_cases c2 : (16 : Int) < S.ρ 0
      · have d2 : t_rof6_2.den S = some [b2i false] := fls (p := S.ρ 0 ≤ (16 : Int)) (Int.not_le.2 c2)
        by_cases c3 : (24 : Int) < S.ρ 0
        · have d3 : t_rof6_3.den S = some [b2i false] := fls (p := S.ρ 0 ≤ (24 : Int)) (Int.not_le.2 c3)
          by_cases c4 : (32 : Int) < S.ρ 0
          · have d4 : t_rof6_4.den S = some [b2i false] := fls (p := S.ρ 0 ≤ (32 : Int)) (Int.not_le.2 c4)
            have r0 : ofZ (S.ρ 0) 64 = (-1 : Int) := by exact if_pos (Or.inr (by decide))
            rw [r0]
            exact symL env gok (ai t_rof6_4 false d4 (ai t_rof6_3 false d3 (ai t_rof6_2 false d2 (ai t_rof6_1 false d1 (ai t_rof6_0 true d0 (AlOk.nil _)))))) (hcs0 _) hvs w hI [.int .i64 (-1)] (csT (.lit .i64 (-1)) rfl cs_nil) (by kernel_rfl) (fun G => by kernel_rfl)
          · have d4 : t_rof6_4.den S = some [b2i true] := tr (p := S.ρ 0 ≤ (32 : Int)) (Int.not_lt.1 c4)
            have r0 : ofZ (S.ρ 0) 64 = (-1 : Int) := by exact if_pos (Or.inr (by decide))
            rw [r0]
            exact symL env gok (ai t_rof6_4 true d4 (ai t_rof6_3 false d3 (ai t_rof6_2 false d2 (ai t_rof6_1 false d1 (ai t_rof6_0 true d0 (AlOk.nil _)))))) (hcs0 _) hvs w hI [.int .i64 (-1)] (csT (.lit .i64 (-1)) rfl cs_nil) (by kernel_rfl) (fun G => by kernel_rfl)
        · have d3 : t_rof6_3.den S = some [b2i true] := tr (p := S.ρ 0 ≤ (24 : Int)) (Int.not_lt.1 c3)
          have c4 : ¬ ((32 : Int) < S.ρ 0) := by omega
          have d4 : t_rof6_4.den S = some [b2i true] := tr (p := S.ρ 0 ≤ (32 : Int)) (Int.not_lt.1 c4)
          have r0 : ofZ (S.ρ 0) 64 = (-1 : Int) := by exact if_pos (Or.inr (by decide))
          rw [r0]
          exact symL env gok (ai t_rof6_4 true d4 (ai t_rof6_3 true d3 (ai t_rof6_2 false d2 (ai t_rof6_1 false d1 (ai t_rof6_0 true d0 (AlOk.nil _)))))) (hcs0 _) hvs w hI [.int .i64 (-1)] (csT (.lit .i64 (-1)) rfl cs_nil) (by kernel_rfl) (fun G => by kernel_rfl)
      · have d2 : t_rof6_2.den S = some [b2i true] := tr (p := S.ρ 0 ≤ (16 : Int)) (Int.not_lt.1 c2)
        have c3 : ¬ ((24 : Int) < S.ρ 0) := by omega
        have d3 : t_rof6_3.den S = some [b2i true] := tr (p := S.ρ 0 ≤ (24 : Int)) (Int.not_lt.1 c3)
        have c4 : ¬ ((32 : Int) < S.ρ 0) := by omega
        have d4 : t_rof6_4.den S = some [b2i true] := tr (p := S.ρ 0 ≤ (32 : Int)) (Int.not_lt.1 c4)
        have r0 : ofZ (S.ρ 0) 64 = (-1 : Int) := by exact if_pos (Or.inr (by decide))
        rw [r0]
        exact symL env gok (ai t_rof6_4 true d4 (ai t_rof6_3 true d3 (ai t_rof6_2 true d2 (ai t_rof6_1 false d1 (ai t_rof6_0 true d0 (AlOk.nil _)))))) (hcs0 _) hvs w hI [.int .i64 (-1)] (csT (.lit .i64 (-1)) rfl cs_nil) (by kernel_rfl) (fun G => by kernel_rfl)
    · have d1 : t_rof6_1.den S = some [b2i true] := tr (p := S.ρ 0 ≤ (8 : Int)) (Int.not_lt.1 c1)
      have c2 : ¬ ((16 : Int) < S.ρ 0) := by omega
      have d2 : t_rof6_2.den S = some [b2i true] := tr (p := S.ρ 0 ≤ (16 : Int)) (Int.not_lt.1 c2)
      have c3 : ¬ ((24 : Int) < S.ρ 0) := by omega
      have d3 : t_rof6_3.den S = some [b2i true] := tr (p := S.ρ 0 ≤ (24 : Int)) (Int.not_lt.1 c3)
      have c4 : ¬ ((32 : Int) < S.ρ 0) := by omega
      have d4 : t_rof6_4.den S = some [b2i true] := tr (p := S.ρ 0 ≤ (32 : Int)) (Int.not_lt.1 c4)
      have r0 : ofZ (S.ρ 0) 64 = (-1 : Int) := by exact if_pos (Or.inr (by decide))
      rw [r0]
      exact symL env gok (ai t_rof6_4 true d4 (ai t_rof6_3 true d3 (ai t_rof6_2 true d2 (ai t_rof6_1 true d1 (ai t_rof6_0 true d0 (AlOk.nil _)))))) (hcs0 _) hvs w hI [.int .i64 (-1)] (csT (.lit .i64 (-1)) rfl cs_nil) (by kernel_rfl) (fun G => by kernel_rfl)
  · have d0 : t_rof6_0.den S = some [b2i false] := fls (p := (0 : Int) < S.ρ 0) c0
    have r0 : ofZ (S.ρ 0) 64 = (-1 : Int) := by exact if_pos (Or.inr (by decide))
    rw [r0]
    exact symL env gok (ai t_rof6_0 false d0 (AlOk.nil _)) (hcs0 _) hvs w hI [.int .i64 (-1)] (csT (.lit .i64 (-1)) rfl cs_nil) (by kernel_rfl) (fun G => by kernel_rfl)
def t_rof7_0 : Tm := (.bin .gtr (.var .i64 0) (.lit .i64 0))
def t_rof7_1 : Tm := (.bin .leq (.var .i64 0) (.lit .i64 8))
def t_rof7_2 : Tm := (.bin .leq (.var .i64 0) (.lit .i64 16))
def t_rof7_3 : Tm := (.bin .leq (.var .i64 0) (.lit .i64 24))
def t_rof7_4 : Tm := (.bin .leq (.var .i64 0) (.lit .i64 32))
theorem rof7 (x0 : Int) (w : World) : Calls Try.prog 16 #[.int .i64 x0, .int .i64 128] w fun e w' => e = .returned (bundle (fillP [.one (.int .i64)] [ofZ x0 128])) ∧ Quiet w w' := by
  obtain ⟨S, hS⟩ : ∃ S : Sy, S = ⟨upd (fun _ => 0) [(0, x0)], fun _ _ => 0, [], fun _ h => by simp at h⟩ := ⟨_, rfl⟩
  have i0 : S.ρ 0 = x0 := by rw [hS]; rfl
  have hI : S.I = [] := by rw [hS]
  have hvs : ∀ G ι, VsOk S G ι [vv .i64 0, .int .i64 128] [.int .i64 x0, .int .i64 128] := fun G ι => (vs_sym i0 (vs_int vs_nil))
  subst i0
  by_cases c0 : (0 : Int) < S.ρ 0
  · have d0 : t_rof7_0.den S = some [b2i true] := tr (p := (0 : Int) < S.ρ 0) c0
    by_cases c1 : (8 : Int) < S.ρ 0
    · have d1 : t_rof7_1.den S = some [b2i false] := fls (p := S.ρ 0 ≤ (8 : Int)) (Int.not_le.2 c1)
      by_cases c2 : (16 : Int) < S.ρ 0
      · have d2 : t_rof7_2.den S = some [b2i false] := fls (p := S.ρ 0 ≤ (16 : Int)) (Int.not_le.2 c2)
        by_cases c3 : (24 : Int) < S.ρ 0
        · have d3 : t_rof7_3.den S = some [b2i false] := fls (p := S.ρ 0 ≤ (24 : Int)) (Int.not_le.2 c3)
          by_cases c4 : (32 : Int) < S.ρ 0
          · have d4 : t_rof7_4.den S = some [b2i false] := fls (p := S.ρ 0 ≤ (32 : Int)) (Int.not_le.2 c4)
            have r0 : ofZ (S.ρ 0) 128 = (-1 : Int) := by exact if_pos (Or.inr (by decide))
            rw [r0]
            exact symL env gok (ai t_rof7_4 false d4 (ai t_rof7_3 false d3 (ai t_rof7_2 false d2 (ai t_rof7_1 false d1 (ai t_rof7_0 true d0 (AlOk.nil _)))))) (hcs0 _) hvs w hI [.int .i64 (-1)] (csT (.lit .i64 (-1)) rfl cs_nil) (by kernel_rfl) (fun G => by kernel_rfl)
          · have d4 : t_rof7_4.den S = some [b2i true] := tr (p := S.ρ 0 ≤ (32 : Int)) (Int.not_lt.1 c4)
            have r0 : ofZ (S.ρ 0) 128 = (-1 : Int) := by exact if_pos (Or.inr (by decide))
            rw [r0]
            exact symL env gok (ai t_rof7_4 true d4 (ai t_rof7_3 false d3 (ai t_rof7_2 false d2 (ai t_rof7_1 false d1 (ai t_rof7_0 true d0 (AlOk.nil _)))))) (hcs0 _) hvs w hI [.int .i64 (-1)] (csT (.lit .i64 (-1)) rfl cs_nil) (by kernel_rfl) (fun G => by kernel_rfl)
        · have d3 : t_rof7_3.den S = some [b2i true] := tr (p := S.ρ 0 ≤ (24 : Int)) (Int.not_lt.1 c3)
          have c4 : ¬ ((32 : Int) < S.ρ 0) := by omega
          have d4 : t_rof7_4.den S = some [b2i true] := tr (p := S.ρ 0 ≤ (32 : Int)) (Int.not_lt.1 c4)
          have r0 : ofZ (S.ρ 0) 128 = (-1 : Int) := by exact if_pos (Or.inr (by decide))
          rw [r0]
          exact symL env gok (ai t_rof7_4 true d4 (ai t_rof7_3 true d3 (ai t_rof7_2 false d2 (ai t_rof7_1 false d1 (ai t_rof7_0 true d0 (AlOk.nil _)))))) (hcs0 _) hvs w hI [.int .i64 (-1)] (csT (.lit .i64 (-1)) rfl cs_nil) (by kernel_rfl) (fun G => by kernel_rfl)
      · have d2 : t_rof7_2.den S = some [b2i true] := tr (p := S.ρ 0 ≤ (16 : Int)) (Int.not_lt.1 c2)
        have c3 : ¬ ((24 : Int) < S.ρ 0) := by omega
        have d3 : t_rof7_3.den S = some [b2i true] := tr (p := S.ρ 0 ≤ (24 : Int)) (Int.not_lt.1 c3)
        have c4 : ¬ ((32 : Int) < S.ρ 0) := by omega
        have d4 : t_rof7_4.den S = some [b2i true] := tr (p := S.ρ 0 ≤ (32 : Int)) (Int.not_lt.1 c4)
        have r0 : ofZ (S.ρ 0) 128 = (-1 : Int) := by exact if_pos (Or.inr (by decide))
        rw [r0]
        exact symL env gok (ai t_rof7_4 true d4 (ai t_rof7_3 true d3 (ai t_rof7_2 true d2 (ai t_rof7_1 false d1 (ai t_rof7_0 true d0 (AlOk.nil _)))))) (hcs0 _) hvs w hI [.int .i64 (-1)] (csT (.lit .i64 (-1)) rfl cs_nil) (by kernel_rfl) (fun G => by kernel_rfl)
    · have d1 : t_rof7_1.den S = some [b2i true] := tr (p := S.ρ 0 ≤ (8 : Int)) (Int.not_lt.1 c1)
      have c2 : ¬ ((16 : Int) < S.ρ 0) := by omega
      have d2 : t_rof7_2.den S = some [b2i true] := tr (p := S.ρ 0 ≤ (16 : Int)) (Int.not_lt.1 c2)
      have c3 : ¬ ((24 : Int) < S.ρ 0) := by omega
      have d3 : t_rof7_3.den S = some [b2i true] := tr (p := S.ρ 0 ≤ (24 : Int)) (Int.not_lt.1 c3)
      have c4 : ¬ ((32 : Int) < S.ρ 0) := by omega
      have d4 : t_rof7_4.den S = some [b2i true] := tr (p := S.ρ 0 ≤ (32 : Int)) (Int.not_lt.1 c4)
      have r0 : ofZ (S.ρ 0) 128 = (-1 : Int) := by exact if_pos (Or.inr (by decide))
      rw [r0]
      exact symL env gok (ai t_rof7_4 true d4 (ai t_rof7_3 true d3 (ai t_rof7_2 true d2 (ai t_rof7_1 true d1 (ai t_rof7_0 true d0 (AlOk.nil _)))))) (hcs0 _) hvs w hI [.int .i64 (-1)] (csT (.lit .i64 (-1)) rfl cs_nil) (by kernel_rfl) (fun G => by kernel_rfl)
  · have d0 : t_rof7_0.den S = some [b2i false] := fls (p := (0 : Int) < S.ρ 0) c0
    have r0 : ofZ (S.ρ 0) 128 = (-1 : Int) := by exact if_pos (Or.inr (by decide))
    rw [r0]
    exact symL env gok (ai t_rof7_0 false d0 (AlOk.nil _)) (hcs0 _) hvs w hI [.int .i64 (-1)] (csT (.lit .i64 (-1)) rfl cs_nil) (by kernel_rfl) (fun G => by kernel_rfl)
def t_rof8_0 : Tm := (.bin .gtr (.var .i64 0) (.lit .i64 0))
def t_rof8_1 : Tm := (.bin .leq (.var .i64 0) (.lit .i64 8))
def t_rof8_2 : Tm := (.bin .leq (.var .i64 0) (.lit .i64 16))
def t_rof8_3 : Tm := (.bin .leq (.var .i64 0) (.lit .i64 24))
def t_rof8_4 : Tm := (.bin .leq (.var .i64 0) (.lit .i64 32))
theorem rof8 (x0 : Int) (w : World) : Calls Try.prog 16 #[.int .i64 x0, .int .i64 256] w fun e w' => e = .returned (bundle (fillP [.one (.int .i64)] [ofZ x0 256])) ∧ Quiet w w' := by
  obtain ⟨S, hS⟩ : ∃ S : Sy, S = ⟨upd (fun _ => 0) [(0, x0)], fun _ _ => 0, [], fun _ h => by simp at h⟩ := ⟨_, rfl⟩
  have i0 : S.ρ 0 = x0 := by rw [hS]; rfl
  have hI : S.I = [] := by rw [hS]
  have hvs : ∀ G ι, VsOk S G ι [vv .i64 0, .int .i64 256] [.int .i64 x0, .int .i64 256] := fun G ι => (vs_sym i0 (vs_int vs_nil))
  subst i0
  by_cases c0 : (0 : Int) < S.ρ 0
  · have d0 : t_rof8_0.den S = some [b2i true] := tr (p := (0 : Int) < S.ρ 0) c0
    by_cases c1 : (8 : Int) < S.ρ 0
    · have d1 : t_rof8_1.den S = some [b2i false] := fls (p := S.ρ 0 ≤ (8 : Int)) (Int.not_le.2 c1)
      by_cases c2 : (16 : Int) < S.ρ 0
      · have d2 : t_rof8_2.den S = some [b2i false] := fls (p := S.ρ 0 ≤ (16 : Int)) (Int.not_le.2 c2)
        by_cases c3 : (24 : Int) < S.ρ 0
        · have d3 : t_rof8_3.den S = some [b2i false] := fls (p := S.ρ 0 ≤ (24 : Int)) (Int.not_le.2 c3)
          by_cases c4 : (32 : Int) < S.ρ 0
          · have d4 : t_rof8_4.den S = some [b2i false] := fls (p := S.ρ 0 ≤ (32 : Int)) (Int.not_le.2 c4)
            have r0 : ofZ (S.ρ 0) 256 = (-1 : Int) := by exact if_pos (Or.inr (by decide))
            rw [r0]
            exact symL env gok (ai t_rof8_4 false d4 (ai t_rof8_3 false d3 (ai t_rof8_2 false d2 (ai t_rof8_1 false d1 (ai t_rof8_0 true d0 (AlOk.nil _)))))) (hcs0 _) hvs w hI [.int .i64 (-1)] (csT (.lit .i64 (-1)) rfl cs_nil) (by kernel_rfl) (fun G => by kernel_rfl)
          · have d4 : t_rof8_4.den S = some [b2i true] := tr (p := S.ρ 0 ≤ (32 : Int)) (Int.not_lt.1 c4)
            have r0 : ofZ (S.ρ 0) 256 = (-1 : Int) := by exact if_pos (Or.inr (by decide))
            rw [r0]
            exact symL env gok (ai t_rof8_4 true d4 (ai t_rof8_3 false d3 (ai t_rof8_2 false d2 (ai t_rof8_1 false d1 (ai t_rof8_0 true d0 (AlOk.nil _)))))) (hcs0 _) hvs w hI [.int .i64 (-1)] (csT (.lit .i64 (-1)) rfl cs_nil) (by kernel_rfl) (fun G => by kernel_rfl)
        · have d3 : t_rof8_3.den S = some [b2i true] := tr (p := S.ρ 0 ≤ (24 : Int)) (Int.not_lt.1 c3)
          have c4 : ¬ ((32 : Int) < S.ρ 0) := by omega
          have d4 : t_rof8_4.den S = some [b2i true] := tr (p := S.ρ 0 ≤ (32 : Int)) (Int.not_lt.1 c4)
          have r0 : ofZ (S.ρ 0) 256 = (-1 : Int) := by exact if_pos (Or.inr (by decide))
          rw [r0]
          exact symL env gok (ai t_rof8_4 true d4 (ai t_rof8_3 true d3 (ai t_rof8_2 false d2 (ai t_rof8_1 false d1 (ai t_rof8_0 true d0 (AlOk.nil _)))))) (hcs0 _) hvs w hI [.int .i64 (-1)] (csT (.lit .i64 (-1)) rfl cs_nil) (by kernel_rfl) (fun G => by kernel_rfl)
      · have d2 : t_rof8_2.den S = some [b2i true] := tr (p := S.ρ 0 ≤ (16 : Int)) (Int.not_lt.1 c2)
        have c3 : ¬ ((24 : Int) < S.ρ 0) := by omega
        have d3 : t_rof8_3.den S = some [b2i true] := tr (p := S.ρ 0 ≤ (24 : Int)) (Int.not_lt.1 c3)
        have c4 : ¬ ((32 : Int) < S.ρ 0) := by omega
        have d4 : t_rof8_4.den S = some [b2i true] := tr (p := S.ρ 0 ≤ (32 : Int)) (Int.not_lt.1 c4)
        have r0 : ofZ (S.ρ 0) 256 = (-1 : Int) := by exact if_pos (Or.inr (by decide))
        rw [r0]
        exact symL env gok (ai t_rof8_4 true d4 (ai t_rof8_3 true d3 (ai t_rof8_2 true d2 (ai t_rof8_1 false d1 (ai t_rof8_0 true d0 (AlOk.nil _)))))) (hcs0 _) hvs w hI [.int .i64 (-1)] (csT (.lit .i64 (-1)) rfl cs_nil) (by kernel_rfl) (fun G => by kernel_rfl)
    · have d1 : t_rof8_1.den S = some [b2i true] := tr (p := S.ρ 0 ≤ (8 : Int)) (Int.not_lt.1 c1)
      have c2 : ¬ ((16 : Int) < S.ρ 0) := by omega
      have d2 : t_rof8_2.den S = some [b2i true] := tr (p := S.ρ 0 ≤ (16 : Int)) (Int.not_lt.1 c2)
      have c3 : ¬ ((24 : Int) < S.ρ 0) := by omega
      have d3 : t_rof8_3.den S = some [b2i true] := tr (p := S.ρ 0 ≤ (24 : Int)) (Int.not_lt.1 c3)
      have c4 : ¬ ((32 : Int) < S.ρ 0) := by omega
      have d4 : t_rof8_4.den S = some [b2i true] := tr (p := S.ρ 0 ≤ (32 : Int)) (Int.not_lt.1 c4)
      have r0 : ofZ (S.ρ 0) 256 = (-1 : Int) := by exact if_pos (Or.inr (by decide))
      rw [r0]
      exact symL env gok (ai t_rof8_4 true d4 (ai t_rof8_3 true d3 (ai t_rof8_2 true d2 (ai t_rof8_1 true d1 (ai t_rof8_0 true d0 (AlOk.nil _)))))) (hcs0 _) hvs w hI [.int .i64 (-1)] (csT (.lit .i64 (-1)) rfl cs_nil) (by kernel_rfl) (fun G => by kernel_rfl)
  · have d0 : t_rof8_0.den S = some [b2i false] := fls (p := (0 : Int) < S.ρ 0) c0
    have r0 : ofZ (S.ρ 0) 256 = (-1 : Int) := by exact if_pos (Or.inr (by decide))
    rw [r0]
    exact symL env gok (ai t_rof8_0 false d0 (AlOk.nil _)) (hcs0 _) hvs w hI [.int .i64 (-1)] (csT (.lit .i64 (-1)) rfl cs_nil) (by kernel_rfl) (fun G => by kernel_rfl)
def t_rof9_0 : Tm := (.bin .gtr (.var .i64 0) (.lit .i64 0))
def t_rof9_1 : Tm := (.bin .leq (.var .i64 0) (.lit .i64 8))
def t_rof9_2 : Tm := (.bin .leq (.var .i64 0) (.lit .i64 16))
def t_rof9_3 : Tm := (.bin .leq (.var .i64 0) (.lit .i64 24))
def t_rof9_4 : Tm := (.bin .leq (.var .i64 0) (.lit .i64 32))
theorem rof9 (x0 : Int) (w : World) : Calls Try.prog 16 #[.int .i64 x0, .int .i64 512] w fun e w' => e = .returned (bundle (fillP [.one (.int .i64)] [ofZ x0 512])) ∧ Quiet w w' := by
  obtain ⟨S, hS⟩ : ∃ S : Sy, S = ⟨upd (fun _ => 0) [(0, x0)], fun _ _ => 0, [], fun _ h => by simp at h⟩ := ⟨_, rfl⟩
  have i0 : S.ρ 0 = x0 := by rw [hS]; rfl
  have hI : S.I = [] := by rw [hS]
  have hvs : ∀ G ι, VsOk S G ι [vv .i64 0, .int .i64 512] [.int .i64 x0, .int .i64 512] := fun G ι => (vs_sym i0 (vs_int vs_nil))
  subst i0
  by_cases c0 : (0 : Int) < S.ρ 0
  · have d0 : t_rof9_0.den S = some [b2i true] := tr (p := (0 : Int) < S.ρ 0) c0
    by_cases c1 : (8 : Int) < S.ρ 0
    · have d1 : t_rof9_1.den S = some [b2i false] := fls (p := S.ρ 0 ≤ (8 : Int)) (Int.not_le.2 c1)
      by_cases c2 : (16 : Int) < S.ρ 0
      · have d2 : t_rof9_2.den S = some [b2i false] := fls (p := S.ρ 0 ≤ (16 : Int)) (Int.not_le.2 c2)
        by_cases c3 : (24 : Int) < S.ρ 0
        · have d3 : t_rof9_3.den S = some [b2i false] := fls (p := S.ρ 0 ≤ (24 : Int)) (Int.not_le.2 c3)
          by_cases c4 : (32 : Int) < S.ρ 0
          · have d4 : t_rof9_4.den S = some [b2i false] := fls (p := S.ρ 0 ≤ (32 : Int)) (Int.not_le.2 c4)
            have r0 : ofZ (S.ρ 0) 512 = (-1 : Int) := by exact if_pos (Or.inr (by decide))
            rw [r0]
            exact symL env gok (ai t_rof9_4 false d4 (ai t_rof9_3 false d3 (ai t_rof9_2 false d2 (ai t_rof9_1 false d1 (ai t_rof9_0 true d0 (AlOk.nil _)))))) (hcs0 _) hvs w hI [.int .i64 (-1)] (csT (.lit .i64 (-1)) rfl cs_nil) (by kernel_rfl) (fun G => by kernel_rfl)
          · have d4 : t_rof9_4.den S = some [b2i true] := tr (p := S.ρ 0 ≤ (32 : Int)) (Int.not_lt.1 c4)
            have r0 : ofZ (S.ρ 0) 512 = (-1 : Int) := by exact if_pos (Or.inr (by decide))
            rw [r0]
            exact symL env gok (ai t_rof9_4 true d4 (ai t_rof9_3 false d3 (ai t_rof9_2 false d2 (ai t_rof9_1 false d1 (ai t_rof9_0 true d0 (AlOk.nil _)))))) (hcs0 _) hvs w hI [.int .i64 (-1)] (csT (.lit .i64 (-1)) rfl cs_nil) (by kernel_rfl) (fun G => by kernel_rfl)
        · have d3 : t_rof9_3.den S = some [b2i true] := tr (p := S.ρ 0 ≤ (24 : Int)) (Int.not_lt.1 c3)
          have c4 : ¬ ((32 : Int) < S.ρ 0) := by omega
          have d4 : t_rof9_4.den S = some [b2i true] := tr (p := S.ρ 0 ≤ (32 : Int)) (Int.not_lt.1 c4)
          have r0 : ofZ (S.ρ 0) 512 = (-1 : Int) := by exact if_pos (Or.inr (by decide))
          rw [r0]
          exact symL env gok (ai t_rof9_4 true d4 (ai t_rof9_3 true d3 (ai t_rof9_2 false d2 (ai t_rof9_1 false d1 (ai t_rof9_0 true d0 (AlOk.nil _)))))) (hcs0 _) hvs w hI [.int .i64 (-1)] (csT (.lit .i64 (-1)) rfl cs_nil) (by kernel_rfl) (fun G => by kernel_rfl)
      · have d2 : t_rof9_2.den S = some [b2i true] := tr (p := S.ρ 0 ≤ (16 : Int)) (Int.not_lt.1 c2)
        have c3 : ¬ ((24 : Int) < S.ρ 0) := by omega
        have d3 : t_rof9_3.den S = some [b2i true] := tr (p := S.ρ 0 ≤ (24 : Int)) (Int.not_lt.1 c3)
        have c4 : ¬ ((32 : Int) < S.ρ 0) := by omega
        have d4 : t_rof9_4.den S = some [b2i true] := tr (p := S.ρ 0 ≤ (32 : Int)) (Int.not_lt.1 c4)
        have r0 : ofZ (S.ρ 0) 512 = (-1 : Int) := by exact if_pos (Or.inr (by decide))
        rw [r0]
        exact symL env gok (ai t_rof9_4 true d4 (ai t_rof9_3 true d3 (ai t_rof9_2 true d2 (ai t_rof9_1 false d1 (ai t_rof9_0 true d0 (AlOk.nil _)))))) (hcs0 _) hvs w hI [.int .i64 (-1)] (csT (.lit .i64 (-1)) rfl cs_nil) (by kernel_rfl) (fun G => by kernel_rfl)
    · have d1 : t_rof9_1.den S = some [b2i true] := tr (p := S.ρ 0 ≤ (8 : Int)) (Int.not_lt.1 c1)
      have c2 : ¬ ((16 : Int) < S.ρ 0) := by omega
      have d2 : t_rof9_2.den S = some [b2i true] := tr (p := S.ρ 0 ≤ (16 : Int)) (Int.not_lt.1 c2)
      have c3 : ¬ ((24 : Int) < S.ρ 0) := by omega
      have d3 : t_rof9_3.den S = some [b2i true] := tr (p := S.ρ 0 ≤ (24 : Int)) (Int.not_lt.1 c3)
      have c4 : ¬ ((32 : Int) < S.ρ 0) := by omega
      have d4 : t_rof9_4.den S = some [b2i true] := tr (p := S.ρ 0 ≤ (32 : Int)) (Int.not_lt.1 c4)
      have r0 : ofZ (S.ρ 0) 512 = (-1 : Int) := by exact if_pos (Or.inr (by decide))
      rw [r0]
      exact symL env gok (ai t_rof9_4 true d4 (ai t_rof9_3 true d3 (ai t_rof9_2 true d2 (ai t_rof9_1 true d1 (ai t_rof9_0 true d0 (AlOk.nil _)))))) (hcs0 _) hvs w hI [.int .i64 (-1)] (csT (.lit .i64 (-1)) rfl cs_nil) (by kernel_rfl) (fun G => by kernel_rfl)
  · have d0 : t_rof9_0.den S = some [b2i false] := fls (p := (0 : Int) < S.ρ 0) c0
    have r0 : ofZ (S.ρ 0) 512 = (-1 : Int) := by exact if_pos (Or.inr (by decide))
    rw [r0]
    exact symL env gok (ai t_rof9_0 false d0 (AlOk.nil _)) (hcs0 _) hvs w hI [.int .i64 (-1)] (csT (.lit .i64 (-1)) rfl cs_nil) (by kernel_rfl) (fun G => by kernel_rfl)
def t_rof10_0 : Tm := (.bin .gtr (.var .i64 0) (.lit .i64 0))
def t_rof10_1 : Tm := (.bin .leq (.var .i64 0) (.lit .i64 8))
def t_rof10_2 : Tm := (.bin .leq (.var .i64 0) (.lit .i64 16))
def t_rof10_3 : Tm := (.bin .leq (.var .i64 0) (.lit .i64 24))
def t_rof10_4 : Tm := (.bin .leq (.var .i64 0) (.lit .i64 32))
theorem rof10 (x0 : Int) (w : World) : Calls Try.prog 16 #[.int .i64 x0, .int .i64 1024] w fun e w' => e = .returned (bundle (fillP [.one (.int .i64)] [ofZ x0 1024])) ∧ Quiet w w' := by
  obtain ⟨S, hS⟩ : ∃ S : Sy, S = ⟨upd (fun _ => 0) [(0, x0)], fun _ _ => 0, [], fun _ h => by simp at h⟩ := ⟨_, rfl⟩
  have i0 : S.ρ 0 = x0 := by rw [hS]; rfl
  have hI : S.I = [] := by rw [hS]
  have hvs : ∀ G ι, VsOk S G ι [vv .i64 0, .int .i64 1024] [.int .i64 x0, .int .i64 1024] := fun G ι => (vs_sym i0 (vs_int vs_nil))
  subst i0
  by_cases c0 : (0 : Int) < S.ρ 0
  · have d0 : t_rof10_0.den S = some [b2i true] := tr (p := (0 : Int) < S.ρ 0) c0
    by_cases c1 : (8 : Int) < S.ρ 0
    · have d1 : t_rof10_1.den S = some [b2i false] := fls (p := S.ρ 0 ≤ (8 : Int)) (Int.not_le.2 c1)
      by_cases c2 : (16 : Int) < S.ρ 0
      · have d2 : t_rof10_2.den S = some [b2i false] := fls (p := S.ρ 0 ≤ (16 : Int)) (Int.not_le.2 c2)
        by_cases c3 : (24 : Int) < S.ρ 0
        · have d3 : t_rof10_3.den S = some [b2i false] := fls (p := S.ρ 0 ≤ (24 : Int)) (Int.not_le.2 c3)
          by_cases c4 : (32 : Int) < S.ρ 0
          · have d4 : t_rof10_4.den S = some [b2i false] := fls (p := S.ρ 0 ≤ (32 : Int)) (Int.not_le.2 c4)
            have r0 : ofZ (S.ρ 0) 1024 = (-1 : Int) := by exact if_pos (Or.inr (by decide))
            rw [r0]
            exact symL env gok (ai t_rof10_4 false d4 (ai t_rof10_3 false d3 (ai t_rof10_2 false d2 (ai t_rof10_1 false d1 (ai t_rof10_0 true d0 (AlOk.nil _)))))) (hcs0 _) hvs w hI [.int .i64 (-1)] (csT (.lit .i64 (-1)) rfl cs_nil) (by kernel_rfl) (fun G => by kernel_rfl)
          · have d4 : t_rof10_4.den S = some [b2i true] := tr (p := S.ρ 0 ≤ (32 : Int)) (Int.not_lt.1 c4)
            have r0 : ofZ (S.ρ 0) 1024 = (-1 : Int) := by exact if_pos (Or.inr (by decide))
            rw [r0]
            exact symL env gok (ai t_rof10_4 true d4 (ai t_rof10_3 false d3 (ai t_rof10_2 false d2 (ai t_rof10_1 false d1 (ai t_rof10_0 true d0 (AlOk.nil _)))))) (hcs0 _) hvs w hI [.int .i64 (-1)] (csT (.lit .i64 (-1)) rfl cs_nil) (by kernel_rfl) (fun G => by kernel_rfl)
        · have d3 : t_rof10_3.den S = some [b2i true] := tr (p := S.ρ 0 ≤ (24 : Int)) (Int.not_lt.1 c3)
          have c4 : ¬ ((32 : Int) < S.ρ 0) := by omega
          have d4 : t_rof10_4.den S = some [b2i true] := tr (p := S.ρ 0 ≤ (32 : Int)) (Int.not_lt.1 c4)
          have r0 : ofZ (S.ρ 0) 1024 = (-1 : Int) := by exact if_pos (Or.inr (by decide))
          rw [r0]
          exact symL env gok (ai t_rof10_4 true d4 (ai t_rof10_3 true d3 (ai t_rof10_2 false d2 (ai t_rof10_1 false d1 (ai t_rof10_0 true d0 (AlOk.nil _)))))) (hcs0 _) hvs w hI [.int .i64 (-1)] (csT (.lit .i64 (-1)) rfl cs_nil) (by kernel_rfl) (fun G => by kernel_rfl)
      · have d2 : t_rof10_2.den S = some [b2i true] := tr (p := S.ρ 0 ≤ (16 : Int)) (Int.not_lt.1 c2)
        have c3 : ¬ ((24 : Int) < S.ρ 0) := by omega
        have d3 : t_rof10_3.den S = some [b2i true] := tr (p := S.ρ 0 ≤ (24 : Int)) (Int.not_lt.1 c3)
        have c4 : ¬ ((32 : Int) < S.ρ 0) := by omega
        have d4 : t_rof10_4.den S = some [b2i true] := tr (p := S.ρ 0 ≤ (32 : Int)) (Int.not_lt.1 c4)
        have r0 : ofZ (S.ρ 0) 1024 = (-1 : Int) := by exact if_pos (Or.inr (by decide))
        rw [r0]
        exact symL env gok (ai t_rof10_4 true d4 (ai t_rof10_3 true d3 (ai t_rof10_2 true d2 (ai t_rof10_1 false d1 (ai t_rof10_0 true d0 (AlOk.nil _)))))) (hcs0 _) hvs w hI [.int .i64 (-1)] (csT (.lit .i64 (-1)) rfl cs_nil) (by kernel_rfl) (fun G => by kernel_rfl)
    · have d1 : t_rof10_1.den S = some [b2i true] := tr (p := S.ρ 0 ≤ (8 : Int)) (Int.not_lt.1 c1)
      have c2 : ¬ ((16 : Int) < S.ρ 0) := by omega
      have d2 : t_rof10_2.den S = some [b2i true] := tr (p := S.ρ 0 ≤ (16 : Int)) (Int.not_lt.1 c2)
      have c3 : ¬ ((24 : Int) < S.ρ 0) := by omega
      have d3 : t_rof10_3.den S = some [b2i true] := tr (p := S.ρ 0 ≤ (24 : Int)) (Int.not_lt.1 c3)
      have c4 : ¬ ((32 : Int) < S.ρ 0) := by omega
      have d4 : t_rof10_4.den S = some [b2i true] := tr (p := S.ρ 0 ≤ (32 : Int)) (Int.not_lt.1 c4)
      have r0 : ofZ (S.ρ 0) 1024 = (-1 : Int) := by exact if_pos (Or.inr (by decide))
      rw [r0]
      exact symL env gok (ai t_rof10_4 true d4 (ai t_rof10_3 true d3 (ai t_rof10_2 true d2 (ai t_rof10_1 true d1 (ai t_rof10_0 true d0 (AlOk.nil _)))))) (hcs0 _) hvs w hI [.int .i64 (-1)] (csT (.lit .i64 (-1)) rfl cs_nil) (by kernel_rfl) (fun G => by kernel_rfl)
  · have d0 : t_rof10_0.den S = some [b2i false] := fls (p := (0 : Int) < S.ρ 0) c0
    have r0 : ofZ (S.ρ 0) 1024 = (-1 : Int) := by exact if_pos (Or.inr (by decide))
    rw [r0]
    exact symL env gok (ai t_rof10_0 false d0 (AlOk.nil _)) (hcs0 _) hvs w hI [.int .i64 (-1)] (csT (.lit .i64 (-1)) rfl cs_nil) (by kernel_rfl) (fun G => by kernel_rfl)
def t_rof11_0 : Tm := (.bin .gtr (.var .i64 0) (.lit .i64 0))
def t_rof11_1 : Tm := (.bin .leq (.var .i64 0) (.lit .i64 8))
def t_rof11_2 : Tm := (.bin .leq (.var .i64 0) (.lit .i64 16))
def t_rof11_3 : Tm := (.bin .leq (.var .i64 0) (.lit .i64 24))
def t_rof11_4 : Tm := (.bin .leq (.var .i64 0) (.lit .i64 32))
theorem rof11 (x0 : Int) (w : World) : Calls Try.prog 16 #[.int .i64 x0, .int .i64 2048] w fun e w' => e = .returned (bundle (fillP [.one (.int .i64)] [ofZ x0 2048])) ∧ Quiet w w' := by
  obtain ⟨S, hS⟩ : ∃ S : Sy, S = ⟨upd (fun _ => 0) [(0, x0)], fun _ _ => 0, [], fun _ h => by simp at h⟩ := ⟨_, rfl⟩
  have i0 : S.ρ 0 = x0 := by rw [hS]; rfl
  have hI : S.I = [] := by rw [hS]
  have hvs : ∀ G ι, VsOk S G ι [vv .i64 0, .int .i64 2048] [.int .i64 x0, .int .i64 2048] := fun G ι => (vs_sym i0 (vs_int vs_nil))
  subst i0
  by_cases c0 : (0 : Int) < S.ρ 0
  · have d0 : t_rof11_0.den S = some [b2i true] := tr (p := (0 : Int) < S.ρ 0) c0
    by_cases c1 : (8 : Int) < S.ρ 0
    · have d1 : t_rof11_1.den S = some [b2i false] := fls (p := S.ρ 0 ≤ (8 : Int)) (Int.not_le.2 c1)
      by_cases c2 : (16 : Int) < S.ρ 0
      · have d2 : t_rof11_2.den S = some [b2i false] := fls (p := S.ρ 0 ≤ (16 : Int)) (Int.not_le.2 c2)
        by_cases c3 : (24 : Int) < S.ρ 0
        · have d3 : t_rof11_3.den S = some [b2i false] := fls (p := S.ρ 0 ≤ (24 : Int)) (Int.not_le.2 c3)
          by_cases c4 : (32 : Int) < S.ρ 0
          · have d4 : t_rof11_4.den S = some [b2i false] := fls (p := S.ρ 0 ≤ (32 : Int)) (Int.not_le.2 c4)
            have r0 : ofZ (S.ρ 0) 2048 = (-1 : Int) := by exact if_pos (Or.inr (by decide))
            rw [r0]
            exact symL env gok (ai t_rof11_4 false d4 (ai t_rof11_3 false d3 (ai t_rof11_2 false d2 (ai t_rof11_1 false d1 (ai t_rof11_0 true d0 (AlOk.nil _)))))) (hcs0 _) hvs w hI [.int .i64 (-1)] (csT (.lit .i64 (-1)) rfl cs_nil) (by kernel_rfl) (fun G => by kernel_rfl)
          · have d4 : t_rof11_4.den S = some [b2i true] := tr (p := S.ρ 0 ≤ (32 : Int)) (Int.not_lt.1 c4)
            have r0 : ofZ (S.ρ 0) 2048 = (-1 : Int) := by exact if_pos (Or.inr (by decide))
            rw [r0]
            exact symL env gok (ai t_rof11_4 true d4 (ai t_rof11_3 false d3 (ai t_rof11_2 false d2 (ai t_rof11_1 false d1 (ai t_rof11_0 true d0 (AlOk.nil _)))))) (hcs0 _) hvs w hI [.int .i64 (-1)] (csT (.lit .i64 (-1)) rfl cs_nil) (by kernel_rfl) (fun G => by kernel_rfl)
        · have d3 : t_rof11_3.den S = some [b2i true] := tr (p := S.ρ 0 ≤ (24 : Int)) (Int.not_lt.1 c3)
          have c4 : ¬ ((32 : Int) < S.ρ 0) := by omega
          have d4 : t_rof11_4.den S = some [b2i true] := tr (p := S.ρ 0 ≤ (32 : Int)) (Int.not_lt.1 c4)
          have r0 : ofZ (S.ρ 0) 2048 = (-1 : Int) := by exact if_pos (Or.inr (by decide))
          rw [r0]
          exact symL env gok (ai t_rof11_4 true d4 (ai t_rof11_3 true d3 (ai t_rof11_2 false d2 (ai t_rof11_1 false d1 (ai t_rof11_0 true d0 (AlOk.nil _)))))) (hcs0 _) hvs w hI [.int .i64 (-1)] (csT (.lit .i64 (-1)) rfl cs_nil) (by kernel_rfl) (fun G => by kernel_rfl)
      · have d2 : t_rof11_2.den S = some [b2i true] := tr (p := S.ρ 0 ≤ (16 : Int)) (Int.not_lt.1 c2)
        have c3 : ¬ ((24 : Int) < S.ρ 0) := by omega
        have d3 : t_rof11_3.den S = some [b2i true] := tr (p := S.ρ 0 ≤ (24 : Int)) (Int.not_lt.1 c3)
        have c4 : ¬ ((32 : Int) < S.ρ 0) := by omega
        have d4 : t_rof11_4.den S = some [b2i true] := tr (p := S.ρ 0 ≤ (32 : Int)) (Int.not_lt.1 c4)
        have r0 : ofZ (S.ρ 0) 2048 = (-1 : Int) := by exact if_pos (Or.inr (by decide))
        rw [r0]
        exact symL env gok (ai t_rof11_4 true d4 (ai t_rof11_3 true d3 (ai t_rof11_2 true d2 (ai t_rof11_1 false d1 (ai t_rof11_0 true d0 (AlOk.nil _)))))) (hcs0 _) hvs w hI [.int .i64 (-1)] (csT (.lit .i64 (-1)) rfl cs_nil) (by kernel_rfl) (fun G => by kernel_rfl)
    · have d1 : t_rof11_1.den S = some [b2i true] := tr (p := S.ρ 0 ≤ (8 : Int)) (Int.not_lt.1 c1)
      have c2 : ¬ ((16 : Int) < S.ρ 0) := by omega
      have d2 : t_rof11_2.den S = some [b2i true] := tr (p := S.ρ 0 ≤ (16 : Int)) (Int.not_lt.1 c2)
      have c3 : ¬ ((24 : Int) < S.ρ 0) := by omega
      have d3 : t_rof11_3.den S = some [b2i true] := tr (p := S.ρ 0 ≤ (24 : Int)) (Int.not_lt.1 c3)
      have c4 : ¬ ((32 : Int) < S.ρ 0) := by omega
      have d4 : t_rof11_4.den S = some [b2i true] := tr (p := S.ρ 0 ≤ (32 : Int)) (Int.not_lt.1 c4)
      have r0 : ofZ (S.ρ 0) 2048 = (-1 : Int) := by exact if_pos (Or.inr (by decide))
      rw [r0]
      exact symL env gok (ai t_rof11_4 true d4 (ai t_rof11_3 true d3 (ai t_rof11_2 true d2 (ai t_rof11_1 true d1 (ai t_rof11_0 true d0 (AlOk.nil _)))))) (hcs0 _) hvs w hI [.int .i64 (-1)] (csT (.lit .i64 (-1)) rfl cs_nil) (by kernel_rfl) (fun G => by kernel_rfl)
  · have d0 : t_rof11_0.den S = some [b2i false] := fls (p := (0 : Int) < S.ρ 0) c0
    have r0 : ofZ (S.ρ 0) 2048 = (-1 : Int) := by exact if_pos (Or.inr (by decide))
    rw [r0]
    exact symL env gok (ai t_rof11_0 false d0 (AlOk.nil _)) (hcs0 _) hvs w hI [.int .i64 (-1)] (csT (.lit .i64 (-1)) rfl cs_nil) (by kernel_rfl) (fun G => by kernel_rfl)
def t_rof12_0 : Tm := (.bin .gtr (.var .i64 0) (.lit .i64 0))
def t_rof12_1 : Tm := (.bin .leq (.var .i64 0) (.lit .i64 8))
def t_rof12_2 : Tm := (.bin .leq (.var .i64 0) (.lit .i64 16))
def t_rof12_3 : Tm := (.bin .leq (.var .i64 0) (.lit .i64 24))
def t_rof12_4 : Tm := (.bin .leq (.var .i64 0) (.lit .i64 32))
theorem rof12 (x0 : Int) (w : World) : Calls Try.prog 16 #[.int .i64 x0, .int .i64 4096] w fun e w' => e = .returned (bundle (fillP [.one (.int .i64)] [ofZ x0 4096])) ∧ Quiet w w' := by
  obtain ⟨S, hS⟩ : ∃ S : Sy, S = ⟨upd (fun _ => 0) [(0, x0)], fun _ _ => 0, [], fun _ h => by simp at h⟩ := ⟨_, rfl⟩
  have i0 : S.ρ 0 = x0 := by rw [hS]; rfl
  have hI : S.I = [] := by rw [hS]
  have hvs : ∀ G ι, VsOk S G ι [vv .i64 0, .int .i64 4096] [.int .i64 x0, .int .i64 4096] := fun G ι => (vs_sym i0 (vs_int vs_nil))
  subst i0
  by_cases c0 : (0 : Int) < S.ρ 0
  · have d0 : t_rof12_0.den S = some [b2i true] := tr (p := (0 : Int) < S.ρ 0) c0
    by_cases c1 : (8 : Int) < S.ρ 0
    · have d1 : t_rof12_1.den S = some [b2i false] := fls (p := S.ρ 0 ≤ (8 : Int)) (Int.not_le.2 c1)
      by_cases c2 : (16 : Int) < S.ρ 0
      · have d2 : t_rof12_2.den S = some [b2i false] := fls (p := S.ρ 0 ≤ (16 : Int)) (Int.not_le.2 c2)
        by_cases c3 : (24 : Int) < S.ρ 0
        · have d3 : t_rof12_3.den S = some [b2i false] := fls (p := S.ρ 0 ≤ (24 : Int)) (Int.not_le.2 c3)
          by_cases c4 : (32 : Int) < S.ρ 0
          · have d4 : t_rof12_4.den S = some [b2i false] := fls (p := S.ρ 0 ≤ (32 : Int)) (Int.not_le.2 c4)
            have r0 : ofZ (S.ρ 0) 4096 = (-1 : Int) := by exact if_pos (Or.inr (by decide))
            rw [r0]
            exact symL env gok (ai t_rof12_4 false d4 (ai t_rof12_3 false d3 (ai t_rof12_2 false d2 (ai t_rof12_1 false d1 (ai t_rof12_0 true d0 (AlOk.nil _)))))) (hcs0 _) hvs w hI [.int .i64 (-1)] (csT (.lit .i64 (-1)) rfl cs_nil) (by kernel_rfl) (fun G => by kernel_rfl)
          · have d4 : t_rof12_4.den S = some [b2i true] := tr (p := S.ρ 0 ≤ (32 : Int)) (Int.not_lt.1 c4)
            have r0 : ofZ (S.ρ 0) 4096 = (-1 : Int) := by exact if_pos (Or.inr (by decide))
            rw [r0]
            exact symL env gok (ai t_rof12_4 true d4 (ai t_rof12_3 false d3 (ai t_rof12_2 false d2 (ai t_rof12_1 false d1 (ai t_rof12_0 true d0 (AlOk.nil _)))))) (hcs0 _) hvs w hI [.int .i64 (-1)] (csT (.lit .i64 (-1)) rfl cs_nil) (by kernel_rfl) (fun G => by kernel_rfl)
        · have d3 : t_rof12_3.den S = some [b2i true] := tr (p := S.ρ 0 ≤ (24 : Int)) (Int.not_lt.1 c3)
          have c4 : ¬ ((32 : Int) < S.ρ 0) := by omega
          have d4 : t_rof12_4.den S = some [b2i true] := tr (p := S.ρ 0 ≤ (32 : Int)) (Int.not_lt.1 c4)
          have r0 : ofZ (S.ρ 0) 4096 = (-1 : Int) := by exact if_pos (Or.inr (by decide))
          rw [r0]
          exact symL env gok (ai t_rof12_4 true d4 (ai t_rof12_3 true d3 (ai t_rof12_2 false d2 (ai t_rof12_1 false d1 (ai t_rof12_0 true d0 (AlOk.nil _)))))) (hcs0 _) hvs w hI [.int .i64 (-1)] (csT (.lit .i64 (-1)) rfl cs_nil) (by kernel_rfl) (fun G => by kernel_rfl)
      · have d2 : t_rof12_2.den S = some [b2i true] := tr (p := S.ρ 0 ≤ (16 : Int)) (Int.not_lt.1 c2)
        have c3 : ¬ ((24 : Int) < S.ρ 0) := by omega
        have d3 : t_rof12_3.den S = some [b2i true] := tr (p := S.ρ 0 ≤ (24 : Int)) (Int.not_lt.1 c3)
        have c4 : ¬ ((32 : Int) < S.ρ 0) := by omega
        have d4 : t_rof12_4.den S = some [b2i true] := tr (p := S.ρ 0 ≤ (32 : Int)) (Int.not_lt.1 c4)
        have r0 : ofZ (S.ρ 0) 4096 = (-1 : Int) := by exact if_pos (Or.inr (by decide))
        rw [r0]
        exact symL env gok (ai t_rof12_4 true d4 (ai t_rof12_3 true d3 (ai t_rof12_2 true d2 (ai t_rof12_1 false d1 (ai t_rof12_0 true d0 (AlOk.nil _)))))) (hcs0 _) hvs w hI [.int .i64 (-1)] (csT (.lit .i64 (-1)) rfl cs_nil) (by kernel_rfl) (fun G => by kernel_rfl)
    · have d1 : t_rof12_1.den S = some [b2i true] := tr (p := S.ρ 0 ≤ (8 : Int)) (Int.not_lt.1 c1)
      have c2 : ¬ ((16 : Int) < S.ρ 0) := by omega
      have d2 : t_rof12_2.den S = some [b2i true] := tr (p := S.ρ 0 ≤ (16 : Int)) (Int.not_lt.1 c2)
      have c3 : ¬ ((24 : Int) < S.ρ 0) := by omega
      have d3 : t_rof12_3.den S = some [b2i true] := tr (p := S.ρ 0 ≤ (24 : Int)) (Int.not_lt.1 c3)
      have c4 : ¬ ((32 : Int) < S.ρ 0) := by omega
      have d4 : t_rof12_4.den S = some [b2i true] := tr (p := S.ρ 0 ≤ (32 : Int)) (Int.not_lt.1 c4)
      have r0 : ofZ (S.ρ 0) 4096 = (-1 : Int) := by exact if_pos (Or.inr (by decide))
      rw [r0]
      exact symL env gok (ai t_rof12_4 true d4 (ai t_rof12_3 true d3 (ai t_rof12_2 true d2 (ai t_rof12_1 true d1 (ai t_rof12_0 true d0 (AlOk.nil _)))))) (hcs0 _) hvs w hI [.int .i64 (-1)] (csT (.lit .i64 (-1)) rfl cs_nil) (by kernel_rfl) (fun G => by kernel_rfl)
  · have d0 : t_rof12_0.den S = some [b2i false] := fls (p := (0 : Int) < S.ρ 0) c0
    have r0 : ofZ (S.ρ 0) 4096 = (-1 : Int) := by exact if_pos (Or.inr (by decide))
    rw [r0]
    exact symL env gok (ai t_rof12_0 false d0 (AlOk.nil _)) (hcs0 _) hvs w hI [.int .i64 (-1)] (csT (.lit .i64 (-1)) rfl cs_nil) (by kernel_rfl) (fun G => by kernel_rfl)
def t_rof13_0 : Tm := (.bin .gtr (.var .i64 0) (.lit .i64 0))
def t_rof13_1 : Tm := (.bin .leq (.var .i64 0) (.lit .i64 8))
def t_rof13_2 : Tm := (.bin .leq (.var .i64 0) (.lit .i64 16))
def t_rof13_3 : Tm := (.bin .leq (.var .i64 0) (.lit .i64 24))
def t_rof13_4 : Tm := (.bin .leq (.var .i64 0) (.lit .i64 32))
theorem rof13 (x0 : Int) (w : World) : Calls Try.prog 16 #[.int .i64 x0, .int .i64 8192] w fun e w' => e = .returned (bundle (fillP [.one (.int .i64)] [ofZ x0 8192])) ∧ Quiet w w' := by
  obtain ⟨S, hS⟩ : ∃ S : Sy, S = ⟨upd (fun _ => 0) [(0, x0)], fun _ _ => 0, [], fun _ h => by simp at h⟩ := ⟨_, rfl⟩
  have i0 : S.ρ 0 = x0 := by rw [hS]; rfl
  have hI : S.I = [] := by rw [hS]
  have hvs : ∀ G ι, VsOk S G ι [vv .i64 0, .int .i64 8192] [.int .i64 x0, .int .i64 8192] := fun G ι => (vs_sym i0 (vs_int vs_nil))
  subst i0
  by_cases c0 : (0 : Int) < S.ρ 0
  · have d0 : t_rof13_0.den S = some [b2i true] := tr (p := (0 : Int) < S.ρ 0) c0
    by_cases c1 : (8 : Int) < S.ρ 0
    · have d1 : t_rof13_1.den S = some [b2i false] := fls (p := S.ρ 0 ≤ (8 : Int)) (Int.not_le.2 c1)
      by_cases c2 : (16 : Int) < S.ρ 0
      · have d2 : t_rof13_2.den S = some [b2i false] := fls (p := S.ρ 0 ≤ (16 : Int)) (Int.not_le.2 c2)
        by_cases c3 : (24 : Int) < S.ρ 0
        · have d3 : t_rof13_3.den S = some [b2i false] := fls (p := S.ρ 0 ≤ (24 : Int)) (Int.not_le.2 c3)
          by_cases c4 : (32 : Int) < S.ρ 0
          · have d4 : t_rof13_4.den S = some [b2i false] := fls (p := S.ρ 0 ≤ (32 : Int)) (Int.not_le.2 c4)
            have r0 : ofZ (S.ρ 0) 8192 = (-1 : Int) := by exact if_pos (Or.inr (by decide))
            rw [r0]
            exact symL env gok (ai t_rof13_4 false d4 (ai t_rof13_3 false d3 (ai t_rof13_2 false d2 (ai t_rof13_1 false d1 (ai t_rof13_0 true d0 (AlOk.nil _)))))) (hcs0 _) hvs w hI [.int .i64 (-1)] (csT (.lit .i64 (-1)) rfl cs_nil) (by kernel_rfl) (fun G => by kernel_rfl)
          · have d4 : t_rof13_4.den S = some [b2i true] := tr (p := S.ρ 0 ≤ (32 : Int)) (Int.not_lt.1 c4)
            have r0 : ofZ (S.ρ 0) 8192 = (-1 : Int) := by exact if_pos (Or.inr (by decide))
            rw [r0]
            exact symL env gok (ai t_rof13_4 true d4 (ai t_rof13_3 false d3 (ai t_rof13_2 false d2 (ai t_rof13_1 false d1 (ai t_rof13_0 true d0 (AlOk.nil _)))))) (hcs0 _) hvs w hI [.int .i64 (-1)] (csT (.lit .i64 (-1)) rfl cs_nil) (by kernel_rfl) (fun G => by kernel_rfl)
        · have d3 : t_rof13_3.den S = some [b2i true] := tr (p := S.ρ 0 ≤ (24 : Int)) (Int.not_lt.1 c3)
          have c4 : ¬ ((32 : Int) < S.ρ 0) := by omega
          have d4 : t_rof13_4.den S = some [b2i true] := tr (p := S.ρ 0 ≤ (32 : Int)) (Int.not_lt.1 c4)
          have r0 : ofZ (S.ρ 0) 8192 = (-1 : Int) := by exact if_pos (Or.inr (by decide))
          rw [r0]
          exact symL env gok (ai t_rof13_4 true d4 (ai t_rof13_3 true d3 (ai t_rof13_2 false d2 (ai t_rof13_1 false d1 (ai t_rof13_0 true d0 (AlOk.nil _)))))) (hcs0 _) hvs w hI [.int .i64 (-1)] (csT (.lit .i64 (-1)) rfl cs_nil) (by kernel_rfl) (fun G => by kernel_rfl)
      · have d2 : t_rof13_2.den S = some [b2i true] := tr (p := S.ρ 0 ≤ (16 : Int)) (Int.not_lt.1 c2)
        have c3 : ¬ ((24 : Int) < S.ρ 0) := by omega
        have d3 : t_rof13_3.den S = some [b2i true] := tr (p := S.ρ 0 ≤ (24 : Int)) (Int.not_lt.1 c3)
        have c4 : ¬ ((32 : Int) < S.ρ 0) := by omega
        have d4 : t_rof13_4.den S = some [b2i true] := tr (p := S.ρ 0 ≤ (32 : Int)) (Int.not_lt.1 c4)
        have r0 : ofZ (S.ρ 0) 8192 = (-1 : Int) := by exact if_pos (Or.inr (by decide))
        rw [r0]
        exact symL env gok (ai t_rof13_4 true d4 (ai t_rof13_3 true d3 (ai t_rof13_2 true d2 (ai t_rof13_1 false d1 (ai t_rof13_0 true d0 (AlOk.nil _)))))) (hcs0 _) hvs w hI [.int .i64 (-1)] (csT (.lit .i64 (-1)) rfl cs_nil) (by kernel_rfl) (fun G => by kernel_rfl)
    · have d1 : t_rof13_1.den S = some [b2i true] := tr (p := S.ρ 0 ≤ (8 : Int)) (Int.not_lt.1 c1)
      have c2 : ¬ ((16 : Int) < S.ρ 0) := by omega
      have d2 : t_rof13_2.den S = some [b2i true] := tr (p := S.ρ 0 ≤ (16 : Int)) (Int.not_lt.1 c2)
      have c3 : ¬ ((24 : Int) < S.ρ 0) := by omega
      have d3 : t_rof13_3.den S = some [b2i true] := tr (p := S.ρ 0 ≤ (24 : Int)) (Int.not_lt.1 c3)
      have c4 : ¬ ((32 : Int) < S.ρ 0) := by omega
      have d4 : t_rof13_4.den S = some [b2i true] := tr (p := S.ρ 0 ≤ (32 : Int)) (Int.not_lt.1 c4)
      have r0 : ofZ (S.ρ 0) 8192 = (-1 : Int) := by exact if_pos (Or.inr (by decide))
      rw [r0]
      exact symL env gok (ai t_rof13_4 true d4 (ai t_rof13_3 true d3 (ai t_rof13_2 true d2 (ai t_rof13_1 true d1 (ai t_rof13_0 true d0 (AlOk.nil _)))))) (hcs0 _) hvs w hI [.int .i64 (-1)] (csT (.lit .i64 (-1)) rfl cs_nil) (by kernel_rfl) (fun G => by kernel_rfl)
  · have d0 : t_rof13_0.den S = some [b2i false] := fls (p := (0 : Int) < S.ρ 0) c0
    have r0 : ofZ (S.ρ 0) 8192 = (-1 : Int) := by exact if_pos (Or.inr (by decide))
    rw [r0]
    exact symL env gok (ai t_rof13_0 false d0 (AlOk.nil _)) (hcs0 _) hvs w hI [.int .i64 (-1)] (csT (.lit .i64 (-1)) rfl cs_nil) (by kernel_rfl) (fun G => by kernel_rfl)
def t_rof14_0 : Tm := (.bin .gtr (.var .i64 0) (.lit .i64 0))
def t_rof14_1 : Tm := (.bin .leq (.var .i64 0) (.lit .i64 8))
def t_rof14_2 : Tm := (.bin .leq (.var .i64 0) (.lit .i64 16))
def t_rof14_3 : Tm := (.bin .leq (.var .i64 0) (.lit .i64 24))
def t_rof14_4 : Tm := (.bin .leq (.var .i64 0) (.lit .i64 32))
theorem rof14 (x0 : Int) (w : World) : Calls Try.prog 16 #[.int .i64 x0, .int .i64 16384] w fun e w' => e = .returned (bundle (fillP [.one (.int .i64)] [ofZ x0 16384])) ∧ Quiet w w' := by
  obtain ⟨S, hS⟩ : ∃ S : Sy, S = ⟨upd (fun _ => 0) [(0, x0)], fun _ _ => 0, [], fun _ h => by simp at h⟩ := ⟨_, rfl⟩
  have i0 : S.ρ 0 = x0 := by rw [hS]; rfl
  have hI : S.I = [] := by rw [hS]
  have hvs : ∀ G ι, VsOk S G ι [vv .i64 0, .int .i64 16384] [.int .i64 x0, .int .i64 16384] := fun G ι => (vs_sym i0 (vs_int vs_nil))
  subst i0
  by_cases c0 : (0 : Int) < S.ρ 0
  · have d0 : t_rof14_0.den S = some [b2i true] := tr (p := (0 : Int) < S.ρ 0) c0
    by_cases c1 : (8 : Int) < S.ρ 0
    · have d1 : t_rof14_1.den S = some [b2i false] := fls (p := S.ρ 0 ≤ (8 : Int)) (Int.not_le.2 c1)
      by_cases c2 : (16 : Int) < S.ρ 0
      · have d2 : t_rof14_2.den S = some [b2i false] := fls (p := S.ρ 0 ≤ (16 : Int)) (Int.not_le.2 c2)
        by_cases c3 : (24 : Int) < S.ρ 0
        · have d3 : t_rof14_3.den S = some [b2i false] := fls (p := S.ρ 0 ≤ (24 : Int)) (Int.not_le.2 c3)
          by_cases c4 : (32 : Int) < S.ρ 0
          · have d4 : t_rof14_4.den S = some [b2i false] := fls (p := S.ρ 0 ≤ (32 : Int)) (Int.not_le.2 c4)
            have r0 : ofZ (S.ρ 0) 16384 = (-1 : Int) := by exact if_pos (Or.inr (by decide))
            rw [r0]
            exact symL env gok (ai t_rof14_4 false d4 (ai t_rof14_3 false d3 (ai t_rof14_2 false d2 (ai t_rof14_1 false d1 (ai t_rof14_0 true d0 (AlOk.nil _)))))) (hcs0 _) hvs w hI [.int .i64 (-1)] (csT (.lit .i64 (-1)) rfl cs_nil) (by kernel_rfl) (fun G => by kernel_rfl)
          · have d4 : t_rof14_4.den S = some [b2i true] := tr (p := S.ρ 0 ≤ (32 : Int)) (Int.not_lt.1 c4)
            have r0 : ofZ (S.ρ 0) 16384 = (-1 : Int) := by exact if_pos (Or.inr (by decide))
            rw [r0]
            exact symL env gok (ai t_rof14_4 true d4 (ai t_rof14_3 false d3 (ai t_rof14_2 false d2 (ai t_rof14_1 false d1 (ai t_rof14_0 true d0 (AlOk.nil _)))))) (hcs0 _) hvs w hI [.int .i64 (-1)] (csT (.lit .i64 (-1)) rfl cs_nil) (by kernel_rfl) (fun G => by kernel_rfl)
        · have d3 : t_rof14_3.den S = some [b2i true] := tr (p := S.ρ 0 ≤ (24 : Int)) (Int.not_lt.1 c3)
          have c4 : ¬ ((32 : Int) < S.ρ 0) := by omega
          have d4 : t_rof14_4.den S = some [b2i true] := tr (p := S.ρ 0 ≤ (32 : Int)) (Int.not_lt.1 c4)
          have r0 : ofZ (S.ρ 0) 16384 = (-1 : Int) := by exact if_pos (Or.inr (by decide))
          rw [r0]
          exact symL env gok (ai t_rof14_4 true d4 (ai t_rof14_3 true d3 (ai t_rof14_2 false d2 (ai t_rof14_1 false d1 (ai t_rof14_0 true d0 (AlOk.nil _)))))) (hcs0 _) hvs w hI [.int .i64 (-1)] (csT (.lit .i64 (-1)) rfl cs_nil) (by kernel_rfl) (fun G => by kernel_rfl)
      · have d2 : t_rof14_2.den S = some [b2i true] := tr (p := S.ρ 0 ≤ (16 : Int)) (Int.not_lt.1 c2)
        have c3 : ¬ ((24 : Int) < S.ρ 0) := by omega
        have d3 : t_rof14_3.den S = some [b2i true] := tr (p := S.ρ 0 ≤ (24 : Int)) (Int.not_lt.1 c3)
        have c4 : ¬ ((32 : Int) < S.ρ 0) := by omega
        have d4 : t_rof14_4.den S = some [b2i true] := tr (p := S.ρ 0 ≤ (32 : Int)) (Int.not_lt.1 c4)
        have r0 : ofZ (S.ρ 0) 16384 = (-1 : Int) := by exact if_pos (Or.inr (by decide))
        rw [r0]
        exact symL env gok (ai t_rof14_4 true d4 (ai t_rof14_3 true d3 (ai t_rof14_2 true d2 (ai t_rof14_1 false d1 (ai t_rof14_0 true d0 (AlOk.nil _)))))) (hcs0 _) hvs w hI [.int .i64 (-1)] (csT (.lit .i64 (-1)) rfl cs_nil) (by kernel_rfl) (fun G => by kernel_rfl)
    · have d1 : t_rof14_1.den S = some [b2i true] := tr (p := S.ρ 0 ≤ (8 : Int)) (Int.not_lt.1 c1)
      have c2 : ¬ ((16 : Int) < S.ρ 0) := by omega
      have d2 : t_rof14_2.den S = some [b2i true] := tr (p := S.ρ 0 ≤ (16 : Int)) (Int.not_lt.1 c2)
      have c3 : ¬ ((24 : Int) < S.ρ 0) := by omega
      have d3 : t_rof14_3.den S = some [b2i true] := tr (p := S.ρ 0 ≤ (24 : Int)) (Int.not_lt.1 c3)
      have c4 : ¬ ((32 : Int) < S.ρ 0) := by omega
      have d4 : t_rof14_4.den S = some [b2i true] := tr (p := S.ρ 0 ≤ (32 : Int)) (Int.not_lt.1 c4)
      have r0 : ofZ (S.ρ 0) 16384 = (-1 : Int) := by exact if_pos (Or.inr (by decide))
      rw [r0]
      exact symL env gok (ai t_rof14_4 true d4 (ai t_rof14_3 true d3 (ai t_rof14_2 true d2 (ai t_rof14_1 true d1 (ai t_rof14_0 true d0 (AlOk.nil _)))))) (hcs0 _) hvs w hI [.int .i64 (-1)] (csT (.lit .i64 (-1)) rfl cs_nil) (by kernel_rfl) (fun G => by kernel_rfl)
  · have d0 : t_rof14_0.den S = some [b2i false] := fls (p := (0 : Int) < S.ρ 0) c0
    have r0 : ofZ (S.ρ 0) 16384 = (-1 : Int) := by exact if_pos (Or.inr (by decide))
    rw [r0]
    exact symL env gok (ai t_rof14_0 false d0 (AlOk.nil _)) (hcs0 _) hvs w hI [.int .i64 (-1)] (csT (.lit .i64 (-1)) rfl cs_nil) (by kernel_rfl) (fun G => by kernel_rfl)
def t_rof15_0 : Tm := (.bin .gtr (.var .i64 0) (.lit .i64 0))
def t_rof15_1 : Tm := (.bin .leq (.var .i64 0) (.lit .i64 8))
def t_rof15_2 : Tm := (.bin .leq (.var .i64 0) (.lit .i64 16))
def t_rof15_3 : Tm := (.bin .leq (.var .i64 0) (.lit .i64 24))
def t_rof15_4 : Tm := (.bin .leq (.var .i64 0) (.lit .i64 32))
theorem rof15 (x0 : Int) (w : World) : Calls Try.prog 16 #[.int .i64 x0, .int .i64 32768] w fun e w' => e = .returned (bundle (fillP [.one (.int .i64)] [ofZ x0 32768])) ∧ Quiet w w' := by
  obtain ⟨S, hS⟩ : ∃ S : Sy, S = ⟨upd (fun _ => 0) [(0, x0)], fun _ _ => 0, [], fun _ h => by simp at h⟩ := ⟨_, rfl⟩
  have i0 : S.ρ 0 = x0 := by rw [hS]; rfl
  have hI : S.I = [] := by rw [hS]
  have hvs : ∀ G ι, VsOk S G ι [vv .i64 0, .int .i64 32768] [.int .i64 x0, .int .i64 32768] := fun G ι => (vs_sym i0 (vs_int vs_nil))
  subst i0
  by_cases c0 : (0 : Int) < S.ρ 0
  · have d0 : t_rof15_0.den S = some [b2i true] := tr (p := (0 : Int) < S.ρ 0) c0
    by_cases c1 : (8 : Int) < S.ρ 0
    · have d1 : t_rof15_1.den S = some [b2i false] := fls (p := S.ρ 0 ≤ (8 : Int)) (Int.not_le.2 c1)
      by_cases c2 : (16 : Int) < S.ρ 0
      · have d2 : t_rof15_2.den S = some [b2i false] := fls (p := S.ρ 0 ≤ (16 : Int)) (Int.not_le.2 c2)
        by_cases c3 : (24 : Int) < S.ρ 0
        · have d3 : t_rof15_3.den S = some [b2i false] := fls (p := S.ρ 0 ≤ (24 : Int)) (Int.not_le.2 c3)
          by_cases c4 : (32 : Int) < S.ρ 0
          · have d4 : t_rof15_4.den S = some [b2i false] := fls (p := S.ρ 0 ≤ (32 : Int)) (Int.not_le.2 c4)
            have r0 : ofZ (S.ρ 0) 32768 = (-1 : Int) := by exact if_pos (Or.inr (by decide))
            rw [r0]
            exact symL env gok (ai t_rof15_4 false d4 (ai t_rof15_3 false d3 (ai t_rof15_2 false d2 (ai t_rof15_1 false d1 (ai t_rof15_0 true d0 (AlOk.nil _)))))) (hcs0 _) hvs w hI [.int .i64 (-1)] (csT (.lit .i64 (-1)) rfl cs_nil) (by kernel_rfl) (fun G => by kernel_rfl)
          · have d4 : t_rof15_4.den S = some [b2i true] := tr (p := S.ρ 0 ≤ (32 : Int)) (Int.not_lt.1 c4)
            have r0 : ofZ (S.ρ 0) 32768 = (-1 : Int) := by exact if_pos (Or.inr (by decide))
            rw [r0]
            exact symL env gok (ai t_rof15_4 true d4 (ai t_rof15_3 false d3 (ai t_rof15_2 false d2 (ai t_rof15_1 false d1 (ai t_rof15_0 true d0 (AlOk.nil _)))))) (hcs0 _) hvs w hI [.int .i64 (-1)] (csT (.lit .i64 (-1)) rfl cs_nil) (by kernel_rfl) (fun G => by kernel_rfl)
        · have d3 : t_rof15_3.den S = some [b2i true] := tr (p := S.ρ 0 ≤ (24 : Int)) (Int.not_lt.1 c3)
          have c4 : ¬ ((32 : Int) < S.ρ 0) := by omega
          have d4 : t_rof15_4.den S = some [b2i true] := tr (p := S.ρ 0 ≤ (32 : Int)) (Int.not_lt.1 c4)
          have r0 : ofZ (S.ρ 0) 32768 = (-1 : Int) := by exact if_pos (Or.inr (by decide))
          rw [r0]
          exact symL env gok (ai t_rof15_4 true d4 (ai t_rof15_3 true d3 (ai t_rof15_2 false d2 (ai t_rof15_1 false d1 (ai t_rof15_0 true d0 (AlOk.nil _)))))) (hcs0 _) hvs w hI [.int .i64 (-1)] (csT (.lit .i64 (-1)) rfl cs_nil) (by kernel_rfl) (fun G => by kernel_rfl)
      · have d2 : t_rof15_2.den S = some [b2i true] := tr (p := S.ρ 0 ≤ (16 : Int)) (Int.not_lt.1 c2)
        have c3 : ¬ ((24 : Int) < S.ρ 0) := by omega
        have d3 : t_rof15_3.den S = some [b2i true] := tr (p := S.ρ 0 ≤ (24 : Int)) (Int.not_lt.1 c3)
        have c4 : ¬ ((32 : Int) < S.ρ 0) := by omega
        have d4 : t_rof15_4.den S = some [b2i true] := tr (p := S.ρ 0 ≤ (32 : Int)) (Int.not_lt.1 c4)
        have r0 : ofZ (S.ρ 0) 32768 = (-1 : Int) := by exact if_pos (Or.inr (by decide))
        rw [r0]
        exact symL env gok (ai t_rof15_4 true d4 (ai t_rof15_3 true d3 (ai t_rof15_2 true d2 (ai t_rof15_1 false d1 (ai t_rof15_0 true d0 (AlOk.nil _)))))) (hcs0 _) hvs w hI [.int .i64 (-1)] (csT (.lit .i64 (-1)) rfl cs_nil) (by kernel_rfl) (fun G => by kernel_rfl)
    · have d1 : t_rof15_1.den S = some [b2i true] := tr (p := S.ρ 0 ≤ (8 : Int)) (Int.not_lt.1 c1)
      have c2 : ¬ ((16 : Int) < S.ρ 0) := by omega
      have d2 : t_rof15_2.den S = some [b2i true] := tr (p := S.ρ 0 ≤ (16 : Int)) (Int.not_lt.1 c2)
      have c3 : ¬ ((24 : Int) < S.ρ 0) := by omega
      have d3 : t_rof15_3.den S = some [b2i true] := tr (p := S.ρ 0 ≤ (24 : Int)) (Int.not_lt.1 c3)
      have c4 : ¬ ((32 : Int) < S.ρ 0) := by omega
      have d4 : t_rof15_4.den S = some [b2i true] := tr (p := S.ρ 0 ≤ (32 : Int)) (Int.not_lt.1 c4)
      have r0 : ofZ (S.ρ 0) 32768 = (-1 : Int) := by exact if_pos (Or.inr (by decide))
      rw [r0]
      exact symL env gok (ai t_rof15_4 true d4 (ai t_rof15_3 true d3 (ai t_rof15_2 true d2 (ai t_rof15_1 true d1 (ai t_rof15_0 true d0 (AlOk.nil _)))))) (hcs0 _) hvs w hI [.int .i64 (-1)] (csT (.lit .i64 (-1)) rfl cs_nil) (by kernel_rfl) (fun G => by kernel_rfl)
  · have d0 : t_rof15_0.den S = some [b2i false] := fls (p := (0 : Int) < S.ρ 0) c0
    have r0 : ofZ (S.ρ 0) 32768 = (-1 : Int) := by exact if_pos (Or.inr (by decide))
    rw [r0]
    exact symL env gok (ai t_rof15_0 false d0 (AlOk.nil _)) (hcs0 _) hvs w hI [.int .i64 (-1)] (csT (.lit .i64 (-1)) rfl cs_nil) (by kernel_rfl) (fun G => by kernel_rfl)
def t_rof16_0 : Tm := (.bin .gtr (.var .i64 0) (.lit .i64 0))
def t_rof16_1 : Tm := (.bin .leq (.var .i64 0) (.lit .i64 8))
def t_rof16_2 : Tm := (.bin .leq (.var .i64 0) (.lit .i64 16))
def t_rof16_3 : Tm := (.bin .leq (.var .i64 0) (.lit .i64 24))
def t_rof16_4 : Tm := (.bin .leq (.var .i64 0) (.lit .i64 32))
theorem rof16 (x0 : Int) (w : World) : Calls Try.prog 16 #[.int .i64 x0, .int .i64 65536] w fun e w' => e = .returned (bundle (fillP [.one (.int .i64)] [ofZ x0 65536])) ∧ Quiet w w' := by
  obtain ⟨S, hS⟩ : ∃ S : Sy, S = ⟨upd (fun _ => 0) [(0, x0)], fun _ _ => 0, [], fun _ h => by simp at h⟩ := ⟨_, rfl⟩
  have i0 : S.ρ 0 = x0 := by rw [hS]; rfl
  have hI : S.I = [] := by rw [hS]
  have hvs : ∀ G ι, VsOk S G ι [vv .i64 0, .int .i64 65536] [.int .i64 x0, .int .i64 65536] := fun G ι => (vs_sym i0 (vs_int vs_nil))
  subst i0
  by_cases c0 : (0 : Int) < S.ρ 0
  · have d0 : t_rof16_0.den S = some [b2i true] := tr (p := (0 : Int) < S.ρ 0) c0
    by_cases c1 : (8 : Int) < S.ρ 0
    · have d1 : t_rof16_1.den S = some [b2i false] := fls (p := S.ρ 0 ≤ (8 : Int)) (Int.not_le.2 c1)
      by_cases c2 : (16 : Int) < S.ρ 0
      · have d2 : t_rof16_2.den S = some [b2i false] := fls (p := S.ρ 0 ≤ (16 : Int)) (Int.not_le.2 c2)
        by_cases c3 : (24 : Int) < S.ρ 0
        · have d3 : t_rof16_3.den S = some [b2i false] := fls (p := S.ρ 0 ≤ (24 : Int)) (Int.not_le.2 c3)
          by_cases c4 : (32 : Int) < S.ρ 0
          · have d4 : t_rof16_4.den S = some [b2i false] := fls (p := S.ρ 0 ≤ (32 : Int)) (Int.not_le.2 c4)
            have r0 : ofZ (S.ρ 0) 65536 = (-1 : Int) := by exact if_pos (Or.inr (by decide))
            rw [r0]
            exact symL env gok (ai t_rof16_4 false d4 (ai t_rof16_3 false d3 (ai t_rof16_2 false d2 (ai t_rof16_1 false d1 (ai t_rof16_0 true d0 (AlOk.nil _)))))) (hcs0 _) hvs w hI [.int .i64 (-1)] (csT (.lit .i64 (-1)) rfl cs_nil) (by kernel_rfl) (fun G => by kernel_rfl)
          · have d4 : t_rof16_4.den S = some [b2i true] := tr (p := S.ρ 0 ≤ (32 : Int)) (Int.not_lt.1 c4)
            have r0 : ofZ (S.ρ 0) 65536 = (-1 : Int) := by exact if_pos (Or.inr (by decide))
            rw [r0]
            exact symL env gok (ai t_rof16_4 true d4 (ai t_rof16_3 false d3 (ai t_rof16_2 false d2 (ai t_rof16_1 false d1 (ai t_rof16_0 true d0 (AlOk.nil _)))))) (hcs0 _) hvs w hI [.int .i64 (-1)] (csT (.lit .i64 (-1)) rfl cs_nil) (by kernel_rfl) (fun G => by kernel_rfl)
        · have d3 : t_rof16_3.den S = some [b2i true] := tr (p := S.ρ 0 ≤ (24 : Int)) (Int.not_lt.1 c3)
          have c4 : ¬ ((32 : Int) < S.ρ 0) := by omega
          have d4 : t_rof16_4.den S = some [b2i true] := tr (p := S.ρ 0 ≤ (32 : Int)) (Int.not_lt.1 c4)
          have r0 : ofZ (S.ρ 0) 65536 = (-1 : Int) := by exact if_pos (Or.inr (by decide))
          rw [r0]
          exact symL env gok (ai t_rof16_4 true d4 (ai t_rof16_3 true d3 (ai t_rof16_2 false d2 (ai t_rof16_1 false d1 (ai t_rof16_0 true d0 (AlOk.nil _)))))) (hcs0 _) hvs w hI [.int .i64 (-1)] (csT (.lit .i64 (-1)) rfl cs_nil) (by kernel_rfl) (fun G => by kernel_rfl)
      · have d2 : t_rof16_2.den S = some [b2i true] := tr (p := S.ρ 0 ≤ (16 : Int)) (Int.not_lt.1 c2)
        have c3 : ¬ ((24 : Int) < S.ρ 0) := by omega
        have d3 : t_rof16_3.den S = some [b2i true] := tr (p := S.ρ 0 ≤ (24 : Int)) (Int.not_lt.1 c3)
        have c4 : ¬ ((32 : Int) < S.ρ 0) := by omega
        have d4 : t_rof16_4.den S = some [b2i true] := tr (p := S.ρ 0 ≤ (32 : Int)) (Int.not_lt.1 c4)
        have r0 : ofZ (S.ρ 0) 65536 = (-1 : Int) := by exact if_pos (Or.inr (by decide))
        rw [r0]
        exact symL env gok (ai t_rof16_4 true d4 (ai t_rof16_3 true d3 (ai t_rof16_2 true d2 (ai t_rof16_1 false d1 (ai t_rof16_0 true d0 (AlOk.nil _)))))) (hcs0 _) hvs w hI [.int .i64 (-1)] (csT (.lit .i64 (-1)) rfl cs_nil) (by kernel_rfl) (fun G => by kernel_rfl)
    · have d1 : t_rof16_1.den S = some [b2i true] := tr (p := S.ρ 0 ≤ (8 : Int)) (Int.not_lt.1 c1)
      have c2 : ¬ ((16 : Int) < S.ρ 0) := by omega
      have d2 : t_rof16_2.den S = some [b2i true] := tr (p := S.ρ 0 ≤ (16 : Int)) (Int.not_lt.1 c2)
      have c3 : ¬ ((24 : Int) < S.ρ 0) := by omega
      have d3 : t_rof16_3.den S = some [b2i true] := tr (p := S.ρ 0 ≤ (24 : Int)) (Int.not_lt.1 c3)
      have c4 : ¬ ((32 : Int) < S.ρ 0) := by omega
      have d4 : t_rof16_4.den S = some [b2i true] := tr (p := S.ρ 0 ≤ (32 : Int)) (Int.not_lt.1 c4)
      have r0 : ofZ (S.ρ 0) 65536 = (-1 : Int) := by exact if_pos (Or.inr (by decide))
      rw [r0]
      exact symL env gok (ai t_rof16_4 true d4 (ai t_rof16_3 true d3 (ai t_rof16_2 true d2 (ai t_rof16_1 true d1 (ai t_rof16_0 true d0 (AlOk.nil _)))))) (hcs0 _) hvs w hI [.int .i64 (-1)] (csT (.lit .i64 (-1)) rfl cs_nil) (by kernel_rfl) (fun G => by kernel_rfl)
  · have d0 : t_rof16_0.den S = some [b2i false] := fls (p := (0 : Int) < S.ρ 0) c0
    have r0 : ofZ (S.ρ 0) 65536 = (-1 : Int) := by exact if_pos (Or.inr (by decide))
    rw [r0]
    exact symL env gok (ai t_rof16_0 false d0 (AlOk.nil _)) (hcs0 _) hvs w hI [.int .i64 (-1)] (csT (.lit .i64 (-1)) rfl cs_nil) (by kernel_rfl) (fun G => by kernel_rfl)
def t_rof17_0 : Tm := (.bin .gtr (.var .i64 0) (.lit .i64 0))
def t_rof17_1 : Tm := (.bin .leq (.var .i64 0) (.lit .i64 8))
def t_rof17_2 : Tm := (.bin .leq (.var .i64 0) (.lit .i64 16))
def t_rof17_3 : Tm := (.bin .leq (.var .i64 0) (.lit .i64 24))
def t_rof17_4 : Tm := (.bin .leq (.var .i64 0) (.lit .i64 32))
theorem rof17 (x0 : Int) (w : World) : Calls Try.prog 16 #[.int .i64 x0, .int .i64 131072] w fun e w' => e = .returned (bundle (fillP [.one (.int .i64)] [ofZ x0 131072])) ∧ Quiet w w' := by
  obtain ⟨S, hS⟩ : ∃ S : Sy, S = ⟨upd (fun _ => 0) [(0, x0)], fun _ _ => 0, [], fun _ h => by simp at h⟩ := ⟨_, rfl⟩
  have i0 : S.ρ 0 = x0 := by rw [hS]; rfl
  have hI : S.I = [] := by rw [hS]
  have hvs : ∀ G ι, VsOk S G ι [vv .i64 0, .int .i64 131072] [.int .i64 x0, .int .i64 131072] := fun G ι => (vs_sym i0 (vs_int vs_nil))
  subst i0
  by_cases c0 : (0 : Int) < S.ρ 0
  · have d0 : t_rof17_0.den S = some [b2i true] := tr (p := (0 : Int) < S.ρ 0) c0
    by_cases c1 : (8 : Int) < S.ρ 0
    · have d1 : t_rof17_1.den S = some [b2i false] := fls (p := S.ρ 0 ≤ (8 : Int)) (Int.not_le.2 c1)
      by_cases c2 : (16 : Int) < S.ρ 0
      · have d2 : t_rof17_2.den S = some [b2i false] := fls (p := S.ρ 0 ≤ (16 : Int)) (Int.not_le.2 c2)
        by_cases c3 : (24 : Int) < S.ρ 0
        · have d3 : t_rof17_3.den S = some [b2i false] := fls (p := S.ρ 0 ≤ (24 : Int)) (Int.not_le.2 c3)
          by_cases c4 : (32 : Int) < S.ρ 0
          · have d4 : t_rof17_4.den S = some [b2i false] := fls (p := S.ρ 0 ≤ (32 : Int)) (Int.not_le.2 c4)
            have r0 : ofZ (S.ρ 0) 131072 = (-1 : Int) := by exact if_pos (Or.inr (by decide))
            rw [r0]
            exact symL env gok (ai t_rof17_4 false d4 (ai t_rof17_3 false d3 (ai t_rof17_2 false d2 (ai t_rof17_1 false d1 (ai t_rof17_0 true d0 (AlOk.nil _)))))) (hcs0 _) hvs w hI [.int .i64 (-1)] (csT (.lit .i64 (-1)) rfl cs_nil) (by kernel_rfl) (fun G => by kernel_rfl)
          · have d4 : t_rof17_4.den S = some [b2i true] := tr (p := S.ρ 0 ≤ (32 : Int)) (Int.not_lt.1 c4)
            have r0 : ofZ (S.ρ 0) 131072 = (-1 : Int) := by exact if_pos (Or.inr (by decide))
            rw [r0]
            exact symL env gok (ai t_rof17_4 true d4 (ai t_rof17_3 false d3 (ai t_rof17_2 false d2 (ai t_rof17_1 false d1 (ai t_rof17_0 true d0 (AlOk.nil _)))))) (hcs0 _) hvs w hI [.int .i64 (-1)] (csT (.lit .i64 (-1)) rfl cs_nil) (by kernel_rfl) (fun G => by kernel_rfl)
        · have d3 : t_rof17_3.den S = some [b2i true] := tr (p := S.ρ 0 ≤ (24 : Int)) (Int.not_lt.1 c3)
          have c4 : ¬ ((32 : Int) < S.ρ 0) := by omega
          have d4 : t_rof17_4.den S = some [b2i true] := tr (p := S.ρ 0 ≤ (32 : Int)) (Int.not_lt.1 c4)
          have r0 : ofZ (S.ρ 0) 131072 = (-1 : Int) := by exact if_pos (Or.inr (by decide))
          rw [r0]
          exact symL env gok (ai t_rof17_4 true d4 (ai t_rof17_3 true d3 (ai t_rof17_2 false d2 (ai t_rof17_1 false d1 (ai t_rof17_0 true d0 (AlOk.nil _)))))) (hcs0 _) hvs w hI [.int .i64 (-1)] (csT (.lit .i64 (-1)) rfl cs_nil) (by kernel_rfl) (fun G => by kernel_rfl)
      · have d2 : t_rof17_2.den S = some [b2i true] := tr (p := S.ρ 0 ≤ (16 : Int)) (Int.not_lt.1 c2)
        have c3 : ¬ ((24 : Int) < S.ρ 0) := by omega
        have d3 : t_rof17_3.den S = some [b2i true] := tr (p := S.ρ 0 ≤ (24 : Int)) (Int.not_lt.1 c3)
        have c4 : ¬ ((32 : Int) < S.ρ 0) := by omega
        have d4 : t_rof17_4.den S = some [b2i true] := tr (p := S.ρ 0 ≤ (32 : Int)) (Int.not_lt.1 c4)
        have r0 : ofZ (S.ρ 0) 131072 = (-1 : Int) := by exact if_pos (Or.inr (by decide))
        rw [r0]
        exact symL env gok (ai t_rof17_4 true d4 (ai t_rof17_3 true d3 (ai t_rof17_2 true d2 (ai t_rof17_1 false d1 (ai t_rof17_0 true d0 (AlOk.nil _)))))) (hcs0 _) hvs w hI [.int .i64 (-1)] (csT (.lit .i64 (-1)) rfl cs_nil) (by kernel_rfl) (fun G => by kernel_rfl)
    · have d1 : t_rof17_1.den S = some [b2i true] := tr (p := S.ρ 0 ≤ (8 : Int)) (Int.not_lt.1 c1)
      have c2 : ¬ ((16 : Int) < S.ρ 0) := by omega
      have d2 : t_rof17_2.den S = some [b2i true] := tr (p := S.ρ 0 ≤ (16 : Int)) (Int.not_lt.1 c2)
      have c3 : ¬ ((24 : Int) < S.ρ 0) := by omega
      have d3 : t_rof17_3.den S = some [b2i true] := tr (p := S.ρ 0 ≤ (24 : Int)) (Int.not_lt.1 c3)
      have c4 : ¬ ((32 : Int) < S.ρ 0) := by omega
      have d4 : t_rof17_4.den S = some [b2i true] := tr (p := S.ρ 0 ≤ (32 : Int)) (Int.not_lt.1 c4)
      have r0 : ofZ (S.ρ 0) 131072 = (-1 : Int) := by exact if_pos (Or.inr (by decide))
      rw [r0]
      exact symL env gok (ai t_rof17_4 true d4 (ai t_rof17_3 true d3 (ai t_rof17_2 true d2 (ai t_rof17_1 true d1 (ai t_rof17_0 true d0 (AlOk.nil _)))))) (hcs0 _) hvs w hI [.int .i64 (-1)] (csT (.lit .i64 (-1)) rfl cs_nil) (by kernel_rfl) (fun G => by kernel_rfl)
  · have d0 : t_rof17_0.den S = some [b2i false] := fls (p := (0 : Int) < S.ρ 0) c0
    have r0 : ofZ (S.ρ 0) 131072 = (-1 : Int) := by exact if_pos (Or.inr (by decide))
    rw [r0]
    exact symL env gok (ai t_rof17_0 false d0 (AlOk.nil _)) (hcs0 _) hvs w hI [.int .i64 (-1)] (csT (.lit .i64 (-1)) rfl cs_nil) (by kernel_rfl) (fun G => by kernel_rfl)
def t_rof18_0 : Tm := (.bin .gtr (.var .i64 0) (.lit .i64 0))
def t_rof18_1 : Tm := (.bin .leq (.var .i64 0) (.lit .i64 8))
def t_rof18_2 : Tm := (.bin .leq (.var .i64 0) (.lit .i64 16))
def t_rof18_3 : Tm := (.bin .leq (.var .i64 0) (.lit .i64 24))
def t_rof18_4 : Tm := (.bin .leq (.var .i64 0) (.lit .i64 32))
theorem rof18 (x0 : Int) (w : World) : Calls Try.prog 16 #[.int .i64 x0, .int .i64 262144] w fun e w' => e = .returned (bundle (fillP [.one (.int .i64)] [ofZ x0 262144])) ∧ Quiet w w' := by
  obtain ⟨S, hS⟩ : ∃ S : Sy, S = ⟨upd (fun _ => 0) [(0, x0)], fun _ _ => 0, [], fun _ h => by simp at h⟩ := ⟨_, rfl⟩
  have i0 : S.ρ 0 = x0 := by rw [hS]; rfl
  have hI : S.I = [] := by rw [hS]
  have hvs : ∀ G ι, VsOk S G ι [vv .i64 0, .int .i64 262144] [.int .i64 x0, .int .i64 262144] := fun G ι => (vs_sym i0 (vs_int vs_nil))
  subst i0
  by_cases c0 : (0 : Int) < S.ρ 0
  · have d0 : t_rof18_0.den S = some [b2i true] := tr (p := (0 : Int) < S.ρ 0) c0
    by_cases c1 : (8 : Int) < S.ρ 0
    · have d1 : t_rof18_1.den S = some [b2i false] := fls (p := S.ρ 0 ≤ (8 : Int)) (Int.not_le.2 c1)
      by_cases c2 : (16 : Int) < S.ρ 0
      · have d2 : t_rof18_2.den S = some [b2i false] := fls (p := S.ρ 0 ≤ (16 : Int)) (Int.not_le.2 c2)
        by_cases c3 : (24 : Int) < S.ρ 0
        · have d3 : t_rof18_3.den S = some [b2i false] := fls (p := S.ρ 0 ≤ (24 : Int)) (Int.not_le.2 c3)
          by_cases c4 : (32 : Int) < S.ρ 0
          · have d4 : t_rof18_4.den S = some [b2i false] := fls (p := S.ρ 0 ≤ (32 : Int)) (Int.not_le.2 c4)
            have r0 : ofZ (S.ρ 0) 262144 = (-1 : Int) := by exact if_pos (Or.inr (by decide))
            rw [r0]
            exact symL env gok (ai t_rof18_4 false d4 (ai t_rof18_3 false d3 (ai t_rof18_2 false d2 (ai t_rof18_1 false d1 (ai t_rof18_0 true d0 (AlOk.nil _)))))) (hcs0 _) hvs w hI [.int .i64 (-1)] (csT (.lit .i64 (-1)) rfl cs_nil) (by kernel_rfl) (fun G => by kernel_rfl)
          · have d4 : t_rof18_4.den S = some [b2i true] := tr (p := S.ρ 0 ≤ (32 : Int)) (Int.not_lt.1 c4)
            have r0 : ofZ (S.ρ 0) 262144 = (-1 : Int) := by exact if_pos (Or.inr (by decide))
            rw [r0]
            exact symL env gok (ai t_rof18_4 true d4 (ai t_rof18_3 false d3 (ai t_rof18_2 false d2 (ai t_rof18_1 false d1 (ai t_rof18_0 true d0 (AlOk.nil _)))))) (hcs0 _) hvs w hI [.int .i64 (-1)] (csT (.lit .i64 (-1)) rfl cs_nil) (by kernel_rfl) (fun G => by kernel_rfl)
        · have d3 : t_rof18_3.den S = some [b2i true] := tr (p := S.ρ 0 ≤ (24 : Int)) (Int.not_lt.1 c3)
          have c4 : ¬ ((32 : Int) < S.ρ 0) := by omega
          have d4 : t_rof18_4.den S = some [b2i true] := tr (p := S.ρ 0 ≤ (32 : Int)) (Int.not_lt.1 c4)
          have r0 : ofZ (S.ρ 0) 262144 = (-1 : Int) := by exact if_pos (Or.inr (by decide))
          rw [r0]
          exact symL env gok (ai t_rof18_4 true d4 (ai t_rof18_3 true d3 (ai t_rof18_2 false d2 (ai t_rof18_1 false d1 (ai t_rof18_0 true d0 (AlOk.nil _)))))) (hcs0 _) hvs w hI [.int .i64 (-1)] (csT (.lit .i64 (-1)) rfl cs_nil) (by kernel_rfl) (fun G => by kernel_rfl)
      · have d2 : t_rof18_2.den S = some [b2i true] := tr (p := S.ρ 0 ≤ (16 : Int)) (Int.not_lt.1 c2)
        have c3 : ¬ ((24 : Int) < S.ρ 0) := by omega
        have d3 : t_rof18_3.den S = some [b2i true] := tr (p := S.ρ 0 ≤ (24 : Int)) (Int.not_lt.1 c3)
        have c4 : ¬ ((32 : Int) < S.ρ 0) := by omega
        have d4 : t_rof18_4.den S = some [b2i true] := tr (p := S.ρ 0 ≤ (32 : Int)) (Int.not_lt.1 c4)
        have r0 : ofZ (S.ρ 0) 262144 = (-1 : Int) := by exact if_pos (Or.inr (by decide))
        rw [r0]
        exact symL env gok (ai t_rof18_4 true d4 (ai t_rof18_3 true d3 (ai t_rof18_2 true d2 (ai t_rof18_1 false d1 (ai t_rof18_0 true d0 (AlOk.nil _)))))) (hcs0 _) hvs w hI [.int .i64 (-1)] (csT (.lit .i64 (-1)) rfl cs_nil) (by kernel_rfl) (fun G => by kernel_rfl)
    · have d1 : t_rof18_1.den S = some [b2i true] := tr (p := S.ρ 0 ≤ (8 : Int)) (Int.not_lt.1 c1)
      have c2 : ¬ ((16 : Int) < S.ρ 0) := by omega
      have d2 : t_rof18_2.den S = some [b2i true] := tr (p := S.ρ 0 ≤ (16 : Int)) (Int.not_lt.1 c2)
      have c3 : ¬ ((24 : Int) < S.ρ 0) := by omega
      have d3 : t_rof18_3.den S = some [b2i true] := tr (p := S.ρ 0 ≤ (24 : Int)) (Int.not_lt.1 c3)
      have c4 : ¬ ((32 : Int) < S.ρ 0) := by omega
      have d4 : t_rof18_4.den S = some [b2i true] := tr (p := S.ρ 0 ≤ (32 : Int)) (Int.not_lt.1 c4)
      have r0 : ofZ (S.ρ 0) 262144 = (-1 : Int) := by exact if_pos (Or.inr (by decide))
      rw [r0]
      exact symL env gok (ai t_rof18_4 true d4 (ai t_rof18_3 true d3 (ai t_rof18_2 true d2 (ai t_rof18_1 true d1 (ai t_rof18_0 true d0 (AlOk.nil _)))))) (hcs0 _) hvs w hI [.int .i64 (-1)] (csT (.lit .i64 (-1)) rfl cs_nil) (by kernel_rfl) (fun G => by kernel_rfl)
  · have d0 : t_rof18_0.den S = some [b2i false] := fls (p := (0 : Int) < S.ρ 0) c0
    have r0 : ofZ (S.ρ 0) 262144 = (-1 : Int) := by exact if_pos (Or.inr (by decide))
    rw [r0]
    exact symL env gok (ai t_rof18_0 false d0 (AlOk.nil _)) (hcs0 _) hvs w hI [.int .i64 (-1)] (csT (.lit .i64 (-1)) rfl cs_nil) (by kernel_rfl) (fun G => by kernel_rfl)
def t_rof19_0 : Tm := (.bin .gtr (.var .i64 0) (.lit .i64 0))
def t_rof19_1 : Tm := (.bin .leq (.var .i64 0) (.lit .i64 8))
def t_rof19_2 : Tm := (.bin .leq (.var .i64 0) (.lit .i64 16))
def t_rof19_3 : Tm := (.bin .leq (.var .i64 0) (.lit .i64 24))
def t_rof19_4 : Tm := (.bin .leq (.var .i64 0) (.lit .i64 32))
theorem rof19 (x0 : Int) (w : World) : Calls Try.prog 16 #[.int .i64 x0, .int .i64 524288] w fun e w' => e = .returned (bundle (fillP [.one (.int .i64)] [ofZ x0 524288])) ∧ Quiet w w' := by
  obtain ⟨S, hS⟩ : ∃ S : Sy, S = ⟨upd (fun _ => 0) [(0, x0)], fun _ _ => 0, [], fun _ h => by simp at h⟩ := ⟨_, rfl⟩
  have i0 : S.ρ 0 = x0 := by rw [hS]; rfl
  have hI : S.I = [] := by rw [hS]
  have hvs : ∀ G ι, VsOk S G ι [vv .i64 0, .int .i64 524288] [.int .i64 x0, .int .i64 524288] := fun G ι => (vs_sym i0 (vs_int vs_nil))
  subst i0
  by_cases c0 : (0 : Int) < S.ρ 0
  · have d0 : t_rof19_0.den S = some [b2i true] := tr (p := (0 : Int) < S.ρ 0) c0
    by_cases c1 : (8 : Int) < S.ρ 0
    · have d1 : t_rof19_1.den S = some [b2i false] := fls (p := S.ρ 0 ≤ (8 : Int)) (Int.not_le.2 c1)
      by_cases c2 : (16 : Int) < S.ρ 0
      · have d2 : t_rof19_2.den S = some [b2i false] := fls (p := S.ρ 0 ≤ (16 : Int)) (Int.not_le.2 c2)
        by_cases c3 : (24 : Int) < S.ρ 0
        · have d3 : t_rof19_3.den S = some [b2i false] := fls (p := S.ρ 0 ≤ (24 : Int)) (Int.not_le.2 c3)
          by_cases c4 : (32 : Int) < S.ρ 0
          · have d4 : t_rof19_4.den S = some [b2i false] := fls (p := S.ρ 0 ≤ (32 : Int)) (Int.not_le.2 c4)
            have r0 : ofZ (S.ρ 0) 524288 = (-1 : Int) := by exact if_pos (Or.inr (by decide))
            rw [r0]
            exact symL env gok (ai t_rof19_4 false d4 (ai t_rof19_3 false d3 (ai t_rof19_2 false d2 (ai t_rof19_1 false d1 (ai t_rof19_0 true d0 (AlOk.nil _)))))) (hcs0 _) hvs w hI [.int .i64 (-1)] (csT (.lit .i64 (-1)) rfl cs_nil) (by kernel_rfl) (fun G => by kernel_rfl)
          · have d4 : t_rof19_4.den S = some [b2i true] := tr (p := S.ρ 0 ≤ (32 : Int)) (Int.not_lt.1 c4)
            have r0 : ofZ (S.ρ 0) 524288 = (-1 : Int) := by exact if_pos (Or.inr (by decide))
            rw [r0]
            exact symL env gok (ai t_rof19_4 true d4 (ai t_rof19_3 false d3 (ai t_rof19_2 false d2 (ai t_rof19_1 false d1 (ai t_rof19_0 true d0 (AlOk.nil _)))))) (hcs0 _) hvs w hI [.int .i64 (-1)] (csT (.lit .i64 (-1)) rfl cs_nil) (by kernel_rfl) (fun G => by kernel_rfl)
        · have d3 : t_rof19_3.den S = some [b2i true] := tr (p := S.ρ 0 ≤ (24 : Int)) (Int.not_lt.1 c3)
          have c4 : ¬ ((32 : Int) < S.ρ 0) := by omega
          have d4 : t_rof19_4.den S = some [b2i true] := tr (p := S.ρ 0 ≤ (32 : Int)) (Int.not_lt.1 c4)
          have r0 : ofZ (S.ρ 0) 524288 = (-1 : Int) := by exact if_pos (Or.inr (by decide))
          rw [r0]
          exact symL env gok (ai t_rof19_4 true d4 (ai t_rof19_3 true d3 (ai t_rof19_2 false d2 (ai t_rof19_1 false d1 (ai t_rof19_0 true d0 (AlOk.nil _)))))) (hcs0 _) hvs w hI [.int .i64 (-1)] (csT (.lit .i64 (-1)) rfl cs_nil) (by kernel_rfl) (fun G => by kernel_rfl)
      · have d2 : t_rof19_2.den S = some [b2i true] := tr (p := S.ρ 0 ≤ (16 : Int)) (Int.not_lt.1 c2)
        have c3 : ¬ ((24 : Int) < S.ρ 0) := by omega
        have d3 : t_rof19_3.den S = some [b2i true] := tr (p := S.ρ 0 ≤ (24 : Int)) (Int.not_lt.1 c3)
        have c4 : ¬ ((32 : Int) < S.ρ 0) := by omega
        have d4 : t_rof19_4.den S = some [b2i true] := tr (p := S.ρ 0 ≤ (32 : Int)) (Int.not_lt.1 c4)
        have r0 : ofZ (S.ρ 0) 524288 = (-1 : Int) := by exact if_pos (Or.inr (by decide))
        rw [r0]
        exact symL env gok (ai t_rof19_4 true d4 (ai t_rof19_3 true d3 (ai t_rof19_2 true d2 (ai t_rof19_1 false d1 (ai t_rof19_0 true d0 (AlOk.nil _)))))) (hcs0 _) hvs w hI [.int .i64 (-1)] (csT (.lit .i64 (-1)) rfl cs_nil) (by kernel_rfl) (fun G => by kernel_rfl)
    · have d1 : t_rof19_1.den S = some [b2i true] := tr (p := S.ρ 0 ≤ (8 : Int)) (Int.not_lt.1 c1)
      have c2 : ¬ ((16 : Int) < S.ρ 0) := by omega
      have d2 : t_rof19_2.den S = some [b2i true] := tr (p := S.ρ 0 ≤ (16 : Int)) (Int.not_lt.1 c2)
      have c3 : ¬ ((24 : Int) < S.ρ 0) := by omega
      have d3 : t_rof19_3.den S = some [b2i true] := tr (p := S.ρ 0 ≤ (24 : Int)) (Int.not_lt.1 c3)
      have c4 : ¬ ((32 : Int) < S.ρ 0) := by omega
      have d4 : t_rof19_4.den S = some [b2i true] := tr (p := S.ρ 0 ≤ (32 : Int)) (Int.not_lt.1 c4)
      have r0 : ofZ (S.ρ 0) 524288 = (-1 : Int) := by exact if_pos (Or.inr (by decide))
      rw [r0]
      exact symL env gok (ai t_rof19_4 true d4 (ai t_rof19_3 true d3 (ai t_rof19_2 true d2 (ai t_rof19_1 true d1 (ai t_rof19_0 true d0 (AlOk.nil _)))))) (hcs0 _) hvs w hI [.int .i64 (-1)] (csT (.lit .i64 (-1)) rfl cs_nil) (by kernel_rfl) (fun G => by kernel_rfl)
  · have d0 : t_rof19_0.den S = some [b2i false] := fls (p := (0 : Int) < S.ρ 0) c0
    have r0 : ofZ (S.ρ 0) 524288 = (-1 : Int) := by exact if_pos (Or.inr (by decide))
    rw [r0]
    exact symL env gok (ai t_rof19_0 false d0 (AlOk.nil _)) (hcs0 _) hvs w hI [.int .i64 (-1)] (csT (.lit .i64 (-1)) rfl cs_nil) (by kernel_rfl) (fun G => by kernel_rfl)
def t_rof20_0 : Tm := (.bin .gtr (.var .i64 0) (.lit .i64 0))
def t_rof20_1 : Tm := (.bin .leq (.var .i64 0) (.lit .i64 8))
def t_rof20_2 : Tm := (.bin .leq (.var .i64 0) (.lit .i64 16))
def t_rof20_3 : Tm := (.bin .leq (.var .i64 0) (.lit .i64 24))
def t_rof20_4 : Tm := (.bin .leq (.var .i64 0) (.lit .i64 32))
theorem rof20 (x0 : Int) (w : World) : Calls Try.prog 16 #[.int .i64 x0, .int .i64 1048576] w fun e w' => e = .returned (bundle (fillP [.one (.int .i64)] [ofZ x0 1048576])) ∧ Quiet w w' := by
  obtain ⟨S, hS⟩ : ∃ S : Sy, S = ⟨upd (fun _ => 0) [(0, x0)], fun _ _ => 0, [], fun _ h => by simp at h⟩ := ⟨_, rfl⟩
  have i0 : S.ρ 0 = x0 := by rw [hS]; rfl
  have hI : S.I = [] := by rw [hS]
  have hvs : ∀ G ι, VsOk S G ι [vv .i64 0, .int .i64 1048576] [.int .i64 x0, .int .i64 1048576] := fun G ι => (vs_sym i0 (vs_int vs_nil))
  subst i0
  by_cases c0 : (0 : Int) < S.ρ 0
  · have d0 : t_rof20_0.den S = some [b2i true] := tr (p := (0 : Int) < S.ρ 0) c0
    by_cases c1 : (8 : Int) < S.ρ 0
    · have d1 : t_rof20_1.den S = some [b2i false] := fls (p := S.ρ 0 ≤ (8 : Int)) (Int.not_le.2 c1)
      by_cases c2 : (16 : Int) < S.ρ 0
      · have d2 : t_rof20_2.den S = some [b2i false] := fls (p := S.ρ 0 ≤ (16 : Int)) (Int.not_le.2 c2)
        by_cases c3 : (24 : Int) < S.ρ 0
        · have d3 : t_rof20_3.den S = some [b2i false] := fls (p := S.ρ 0 ≤ (24 : Int)) (Int.not_le.2 c3)
          by_cases c4 : (32 : Int) < S.ρ 0
          · have d4 : t_rof20_4.den S = some [b2i false] := fls (p := S.ρ 0 ≤ (32 : Int)) (Int.not_le.2 c4)
            have r0 : ofZ (S.ρ 0) 1048576 = (-1 : Int) := by exact if_pos (Or.inr (by decide))
            rw [r0]
            exact symL env gok (ai t_rof20_4 false d4 (ai t_rof20_3 false d3 (ai t_rof20_2 false d2 (ai t_rof20_1 false d1 (ai t_rof20_0 true d0 (AlOk.nil _)))))) (hcs0 _) hvs w hI [.int .i64 (-1)] (csT (.lit .i64 (-1)) rfl cs_nil) (by kernel_rfl) (fun G => by kernel_rfl)
          · have d4 : t_rof20_4.den S = some [b2i true] := tr (p := S.ρ 0 ≤ (32 : Int)) (Int.not_lt.1 c4)
            have r0 : ofZ (S.ρ 0) 1048576 = (-1 : Int) := by exact if_pos (Or.inr (by decide))
            rw [r0]
            exact symL env gok (ai t_rof20_4 true d4 (ai t_rof20_3 false d3 (ai t_rof20_2 false d2 (ai t_rof20_1 false d1 (ai t_rof20_0 true d0 (AlOk.nil _)))))) (hcs0 _) hvs w hI [.int .i64 (-1)] (csT (.lit .i64 (-1)) rfl cs_nil) (by kernel_rfl) (fun G => by kernel_rfl)
        · have d3 : t_rof20_3.den S = some [b2i true] := tr (p := S.ρ 0 ≤ (24 : Int)) (Int.not_lt.1 c3)
          have c4 : ¬ ((32 : Int) < S.ρ 0) := by omega
          have d4 : t_rof20_4.den S = some [b2i true] := tr (p := S.ρ 0 ≤ (32 : Int)) (Int.not_lt.1 c4)
          have r0 : ofZ (S.ρ 0) 1048576 = (-1 : Int) := by exact if_pos (Or.inr (by decide))
          rw [r0]
          exact symL env gok (ai t_rof20_4 true d4 (ai t_rof20_3 true d3 (ai t_rof20_2 false d2 (ai t_rof20_1 false d1 (ai t_rof20_0 true d0 (AlOk.nil _)))))) (hcs0 _) hvs w hI [.int .i64 (-1)] (csT (.lit .i64 (-1)) rfl cs_nil) (by kernel_rfl) (fun G => by kernel_rfl)
      · have d2 : t_rof20_2.den S = some [b2i true] := tr (p := S.ρ 0 ≤ (16 : Int)) (Int.not_lt.1 c2)
        have c3 : ¬ ((24 : Int) < S.ρ 0) := by omega
        have d3 : t_rof20_3.den S = some [b2i true] := tr (p := S.ρ 0 ≤ (24 : Int)) (Int.not_lt.1 c3)
        have c4 : ¬ ((32 : Int) < S.ρ 0) := by omega
        have d4 : t_rof20_4.den S = some [b2i true] := tr (p := S.ρ 0 ≤ (32 : Int)) (Int.not_lt.1 c4)
        have r0 : ofZ (S.ρ 0) 1048576 = (-1 : Int) := by exact if_pos (Or.inr (by decide))
        rw [r0]
        exact symL env gok (ai t_rof20_4 true d4 (ai t_rof20_3 true d3 (ai t_rof20_2 true d2 (ai t_rof20_1 false d1 (ai t_rof20_0 true d0 (AlOk.nil _)))))) (hcs0 _) hvs w hI [.int .i64 (-1)] (csT (.lit .i64 (-1)) rfl cs_nil) (by kernel_rfl) (fun G => by kernel_rfl)
    · have d1 : t_rof20_1.den S = some [b2i true] := tr (p := S.ρ 0 ≤ (8 : Int)) (Int.not_lt.1 c1)
      have c2 : ¬ ((16 : Int) < S.ρ 0) := by omega
      have d2 : t_rof20_2.den S = some [b2i true] := tr (p := S.ρ 0 ≤ (16 : Int)) (Int.not_lt.1 c2)
      have c3 : ¬ ((24 : Int) < S.ρ 0) := by omega
      have d3 : t_rof20_3.den S = some [b2i true] := tr (p := S.ρ 0 ≤ (24 : Int)) (Int.not_lt.1 c3)
      have c4 : ¬ ((32 : Int) < S.ρ 0) := by omega
      have d4 : t_rof20_4.den S = some [b2i true] := tr (p := S.ρ 0 ≤ (32 : Int)) (Int.not_lt.1 c4)
      have r0 : ofZ (S.ρ 0) 1048576 = (-1 : Int) := by exact if_pos (Or.inr (by decide))
      rw [r0]
      exact symL env gok (ai t_rof20_4 true d4 (ai t_rof20_3 true d3 (ai t_rof20_2 true d2 (ai t_rof20_1 true d1 (ai t_rof20_0 true d0 (AlOk.nil _)))))) (hcs0 _) hvs w hI [.int .i64 (-1)] (csT (.lit .i64 (-1)) rfl cs_nil) (by kernel_rfl) (fun G => by kernel_rfl)
  · have d0 : t_rof20_0.den S = some [b2i false] := fls (p := (0 : Int) < S.ρ 0) c0
    have r0 : ofZ (S.ρ 0) 1048576 = (-1 : Int) := by exact if_pos (Or.inr (by decide))
    rw [r0]
    exact symL env gok (ai t_rof20_0 false d0 (AlOk.nil _)) (hcs0 _) hvs w hI [.int .i64 (-1)] (csT (.lit .i64 (-1)) rfl cs_nil) (by kernel_rfl) (fun G => by kernel_rfl)
end Go.Proofs.Ythaibdajbpdkcaa
