/-
  MemStays: all its cases together. Condition: what is said of the slice (SlIn), and of the numbers' types.
-/
import Derived.Test.YtokcoabcflpbbaaMS11a
import Derived.Test.YtokcoabcflpbbaaMS11b
import Derived.Test.YtokcoabcflpbbaaMS11c
import Derived.Test.YtokcoabcflpbbaaMS11d
import Derived.Test.YtokcoabcflpbbaaMS01
import Derived.Test.YtokcoabcflpbbaaMS10
import Derived.Test.YtokcoabcflpbbaaMS00
namespace Go.Proofs.Ytokcoabcflpbbaa
open Go.Ev Go.RowKit
set_option maxRecDepth 100000
set_option linter.unusedVariables false
theorem den_wS {S : Sy} {t : Tm} {i : Nat} {a : Int} (ha : 0 ≤ a) (ht : t = .conv .i64 (.bin .rem (.var .u8 i) (.lit .u8 41))) (hi : S.ρ i = a) : t.den S = some [a % 41] := by
  subst ht
  refine den_conv .i64 (x := a % 41) (den_bin (k := .u8) (r := a % 41) rfl (den_lit _ _) ?_) (w_i64 (by omega) (by omega))
  show (if (41 : Int) = 0 then none else some (Value.int .u8 ((S.ρ i).tmod 41))) = _
  rw [if_neg (by decide), hi, Int.tmod_eq_emod_of_nonneg ha]
/-- What is known behind the accesses ahead: of that valuation, and of each later one. -/
structure Base (S : Sy) (w : World) (l : List Value) : Prop where
  hK : ∀ x ∈ S.I, x.f + x.ks.length ≤ 60
  r5 : 0 ≤ S.ρ 5 ∧ S.ρ 5 < 41
  r6 : 0 ≤ S.ρ 6 ∧ S.ρ 6 < 41
  r10 : 0 ≤ S.ρ 10 ∧ S.ρ 10 < 256
  law : ∀ T, Stay [] [70, 71] S T → LawIn T w l
  lk0 : ∀ T, Stay [] [70, 71] S T → LkAt Try.prog T [] (.loop (cAt Try.prog lpS0)) kS0
theorem setno {S : Sy} (hK : ∀ x ∈ S.I, x.f + x.ks.length ≤ 60) : ∃ T : Sy, Stay [] [70, 71] S T ∧ (∀ j : Int, T.Φ 70 [j] = (fun j => T.Φ 60 [j]) j) ∧ (∀ j : Int, T.Φ 71 [j] = (fun j => T.Φ 61 [j]) j) := by
  obtain ⟨T, q, h70, h71⟩ := setT S hK (fun j => S.Φ 60 [j]) (fun j => S.Φ 61 [j])
  exact ⟨T, q, (fun j => by rw [h70]; show S.Φ 60 [j] = T.Φ 60 [j]; simp only [(show ∀ l, T.Φ 60 l = S.Φ 60 l from q.fn 60 rfl)]), (fun j => by rw [h71]; show S.Φ 61 [j] = T.Φ 61 [j]; simp only [(show ∀ l, T.Φ 61 l = S.Φ 61 l from q.fn 61 rfl)])⟩
theorem setst {S : Sy} (hK : ∀ x ∈ S.I, x.f + x.ks.length ≤ 60) : ∃ T : Sy, Stay [] [70, 71] S T ∧ (∀ j : Int, T.Φ 70 [j] = (fun j => ifE j (T.ρ 11) (T.ρ 12) (T.Φ 60 [j])) j) ∧ (∀ j : Int, T.Φ 71 [j] = (fun j => T.Φ 61 [j]) j) := by
  obtain ⟨T, q, h70, h71⟩ := setT S hK (fun j => ifE j (S.ρ 11) (S.ρ 12) (S.Φ 60 [j])) (fun j => S.Φ 61 [j])
  exact ⟨T, q, (fun j => by rw [h70]; show ifE j (S.ρ 11) (S.ρ 12) (S.Φ 60 [j]) = ifE j (T.ρ 11) (T.ρ 12) (T.Φ 60 [j]); simp only [q.num 11 rfl, q.num 12 rfl, (show ∀ l, T.Φ 60 l = S.Φ 60 l from q.fn 60 rfl)]), (fun j => by rw [h71]; show S.Φ 61 [j] = T.Φ 61 [j]; simp only [(show ∀ l, T.Φ 61 l = S.Φ 61 l from q.fn 61 rfl)])⟩
theorem setca {S : Sy} (hK : ∀ x ∈ S.I, x.f + x.ks.length ≤ 60) : ∃ T : Sy, Stay [] [70, 71] S T ∧ (∀ j : Int, T.Φ 70 [j] = (fun j => ifE j (T.ρ 11) (T.ρ 13) (T.Φ 60 [j])) j) ∧ (∀ j : Int, T.Φ 71 [j] = (fun j => T.Φ 61 [j]) j) := by
  obtain ⟨T, q, h70, h71⟩ := setT S hK (fun j => ifE j (S.ρ 11) (S.ρ 13) (S.Φ 60 [j])) (fun j => S.Φ 61 [j])
  exact ⟨T, q, (fun j => by rw [h70]; show ifE j (S.ρ 11) (S.ρ 13) (S.Φ 60 [j]) = ifE j (T.ρ 11) (T.ρ 13) (T.Φ 60 [j]); simp only [q.num 11 rfl, q.num 13 rfl, (show ∀ l, T.Φ 60 l = S.Φ 60 l from q.fn 60 rfl)]), (fun j => by rw [h71]; show S.Φ 61 [j] = T.Φ 61 [j]; simp only [(show ∀ l, T.Φ 61 l = S.Φ 61 l from q.fn 61 rfl)])⟩
theorem setad {S : Sy} (hK : ∀ x ∈ S.I, x.f + x.ks.length ≤ 60) : ∃ T : Sy, Stay [] [70, 71] S T ∧ (∀ j : Int, T.Φ 70 [j] = (fun j => ifE j (T.ρ 11) (IntKind.u64.wrap (T.Φ 60 [T.ρ 11] + T.ρ 12)) (T.Φ 60 [j])) j) ∧ (∀ j : Int, T.Φ 71 [j] = (fun j => T.Φ 61 [j]) j) := by
  obtain ⟨T, q, h70, h71⟩ := setT S hK (fun j => ifE j (S.ρ 11) (IntKind.u64.wrap (S.Φ 60 [S.ρ 11] + S.ρ 12)) (S.Φ 60 [j])) (fun j => S.Φ 61 [j])
  exact ⟨T, q, (fun j => by rw [h70]; show ifE j (S.ρ 11) (IntKind.u64.wrap (S.Φ 60 [S.ρ 11] + S.ρ 12)) (S.Φ 60 [j]) = ifE j (T.ρ 11) (IntKind.u64.wrap (T.Φ 60 [T.ρ 11] + T.ρ 12)) (T.Φ 60 [j]); simp only [q.num 11 rfl, q.num 12 rfl, (show ∀ l, T.Φ 60 l = S.Φ 60 l from q.fn 60 rfl)]), (fun j => by rw [h71]; show S.Φ 61 [j] = T.Φ 61 [j]; simp only [(show ∀ l, T.Φ 61 l = S.Φ 61 l from q.fn 61 rfl)])⟩
theorem setpu {S : Sy} (hK : ∀ x ∈ S.I, x.f + x.ks.length ≤ 60) : ∃ T : Sy, Stay [] [70, 71] S T ∧ (∀ j : Int, T.Φ 70 [j] = (fun j => T.Φ 60 [j]) j) ∧ (∀ j : Int, T.Φ 71 [j] = (fun j => ifE j (T.ρ 11) (IntKind.u8.wrap (T.ρ 12)) (T.Φ 61 [j])) j) := by
  obtain ⟨T, q, h70, h71⟩ := setT S hK (fun j => S.Φ 60 [j]) (fun j => ifE j (S.ρ 11) (IntKind.u8.wrap (S.ρ 12)) (S.Φ 61 [j]))
  exact ⟨T, q, (fun j => by rw [h70]; show S.Φ 60 [j] = T.Φ 60 [j]; simp only [(show ∀ l, T.Φ 60 l = S.Φ 60 l from q.fn 60 rfl)]), (fun j => by rw [h71]; show ifE j (S.ρ 11) (IntKind.u8.wrap (S.ρ 12)) (S.Φ 61 [j]) = ifE j (T.ρ 11) (IntKind.u8.wrap (T.ρ 12)) (T.Φ 61 [j]); simp only [q.num 11 rfl, q.num 12 rfl, (show ∀ l, T.Φ 61 l = S.Φ 61 l from q.fn 61 rfl)])⟩
set_option maxHeartbeats 4000000 in
theorem shape11 {S : Sy} {w : World} {l : List Value} (B : Base S w l) (s1 : 0 < S.ρ 5) (s2 : 0 < S.ρ 6) : Holds w l := by
  have r := B.r10
  rcases (show S.ρ 10 = 0 ∨ S.ρ 10 = 1 ∨ S.ρ 10 = 2 ∨ S.ρ 10 = 3 ∨ S.ρ 10 = 4 ∨ S.ρ 10 = 5 ∨ S.ρ 10 = 6 ∨ (7 ≤ S.ρ 10 ∧ S.ρ 10 < 256) from by omega) with hk | hk | hk | hk | hk | hk | hk | hk
  · obtain ⟨T, q, z70, z71⟩ := setno B.hK
    exact law11_0 (B.law T q) (by rw [q.num 5 rfl]; exact s1) (by rw [q.num 6 rfl]; exact s2) ((q.num 10 rfl).trans hk) z70 z71 (lks11 (B.law T q).r5 (B.law T q).r6 (by rw [q.1]; exact B.hK) z70 z71 (B.lk0 T q))
  · obtain ⟨T, q, z70, z71⟩ := setno B.hK
    exact law11_1 (B.law T q) (by rw [q.num 5 rfl]; exact s1) (by rw [q.num 6 rfl]; exact s2) ((q.num 10 rfl).trans hk) z70 z71 (lks11 (B.law T q).r5 (B.law T q).r6 (by rw [q.1]; exact B.hK) z70 z71 (B.lk0 T q))
  · by_cases hm : (0 ≤ S.ρ 11 ∧ S.ρ 11 < S.ρ 5)
    · obtain ⟨T, q, z70, z71⟩ := setst B.hK
      exact law11_2st (B.law T q) (by rw [q.num 5 rfl]; exact s1) (by rw [q.num 6 rfl]; exact s2) ((q.num 10 rfl).trans hk) (by rw [q.num 11 rfl, q.num 5 rfl]; exact hm) z70 z71 (lks11st (B.law T q).r5 (B.law T q).r6 (by rw [q.1]; exact B.hK) z70 z71 (B.lk0 T q))
    · obtain ⟨T, q, z70, z71⟩ := setno B.hK
      exact law11_2 (B.law T q) (by rw [q.num 5 rfl]; exact s1) (by rw [q.num 6 rfl]; exact s2) ((q.num 10 rfl).trans hk) (by rw [q.num 11 rfl, q.num 5 rfl]; exact hm) z70 z71 (lks11 (B.law T q).r5 (B.law T q).r6 (by rw [q.1]; exact B.hK) z70 z71 (B.lk0 T q))
  · by_cases hm : ((0 ≤ S.ρ 11 ∧ S.ρ 11 < S.ρ 5) ∧ S.Φ 60 [S.ρ 11] = S.ρ 12)
    · obtain ⟨T, q, z70, z71⟩ := setca B.hK
      exact law11_3ca (B.law T q) (by rw [q.num 5 rfl]; exact s1) (by rw [q.num 6 rfl]; exact s2) ((q.num 10 rfl).trans hk) (by rw [q.num 11 rfl, q.num 5 rfl, q.fn 60 rfl, q.num 12 rfl]; exact hm) z70 z71 (lks11ca (B.law T q).r5 (B.law T q).r6 (by rw [q.1]; exact B.hK) z70 z71 (B.lk0 T q))
    · obtain ⟨T, q, z70, z71⟩ := setno B.hK
      exact law11_3 (B.law T q) (by rw [q.num 5 rfl]; exact s1) (by rw [q.num 6 rfl]; exact s2) ((q.num 10 rfl).trans hk) (by rw [q.num 11 rfl, q.num 5 rfl, q.fn 60 rfl, q.num 12 rfl]; exact hm) z70 z71 (lks11 (B.law T q).r5 (B.law T q).r6 (by rw [q.1]; exact B.hK) z70 z71 (B.lk0 T q))
  · by_cases hm : (0 ≤ S.ρ 11 ∧ S.ρ 11 < S.ρ 5)
    · obtain ⟨T, q, z70, z71⟩ := setad B.hK
      exact law11_4ad (B.law T q) (by rw [q.num 5 rfl]; exact s1) (by rw [q.num 6 rfl]; exact s2) ((q.num 10 rfl).trans hk) (by rw [q.num 11 rfl, q.num 5 rfl]; exact hm) z70 z71 (lks11ad (B.law T q).r5 (B.law T q).r6 (by rw [q.1]; exact B.hK) z70 z71 (B.lk0 T q))
    · obtain ⟨T, q, z70, z71⟩ := setno B.hK
      exact law11_4 (B.law T q) (by rw [q.num 5 rfl]; exact s1) (by rw [q.num 6 rfl]; exact s2) ((q.num 10 rfl).trans hk) (by rw [q.num 11 rfl, q.num 5 rfl]; exact hm) z70 z71 (lks11 (B.law T q).r5 (B.law T q).r6 (by rw [q.1]; exact B.hK) z70 z71 (B.lk0 T q))
  · obtain ⟨T, q, z70, z71⟩ := setno B.hK
    exact law11_5 (B.law T q) (by rw [q.num 5 rfl]; exact s1) (by rw [q.num 6 rfl]; exact s2) ((q.num 10 rfl).trans hk) z70 z71 (lks11 (B.law T q).r5 (B.law T q).r6 (by rw [q.1]; exact B.hK) z70 z71 (B.lk0 T q))
  · by_cases hm : (0 ≤ S.ρ 11 ∧ S.ρ 11 < S.ρ 6)
    · obtain ⟨T, q, z70, z71⟩ := setpu B.hK
      exact law11_6pu (B.law T q) (by rw [q.num 5 rfl]; exact s1) (by rw [q.num 6 rfl]; exact s2) ((q.num 10 rfl).trans hk) (by rw [q.num 11 rfl, q.num 6 rfl]; exact hm) z70 z71 (lks11pu (B.law T q).r5 (B.law T q).r6 (by rw [q.1]; exact B.hK) z70 z71 (B.lk0 T q))
    · obtain ⟨T, q, z70, z71⟩ := setno B.hK
      exact law11_6 (B.law T q) (by rw [q.num 5 rfl]; exact s1) (by rw [q.num 6 rfl]; exact s2) ((q.num 10 rfl).trans hk) (by rw [q.num 11 rfl, q.num 6 rfl]; exact hm) z70 z71 (lks11 (B.law T q).r5 (B.law T q).r6 (by rw [q.1]; exact B.hK) z70 z71 (B.lk0 T q))
  · obtain ⟨T, q, z70, z71⟩ := setno B.hK
    exact law11_7 (B.law T q) (by rw [q.num 5 rfl]; exact s1) (by rw [q.num 6 rfl]; exact s2) (by rw [q.num 10 rfl]; exact hk) z70 z71 (lks11 (B.law T q).r5 (B.law T q).r6 (by rw [q.1]; exact B.hK) z70 z71 (B.lk0 T q))
set_option maxHeartbeats 4000000 in
theorem shape01 {S : Sy} {w : World} {l : List Value} (B : Base S w l) (s1 : S.ρ 5 = 0) (s2 : 0 < S.ρ 6) : Holds w l := by
  have r := B.r10
  rcases (show S.ρ 10 = 0 ∨ S.ρ 10 = 1 ∨ S.ρ 10 = 2 ∨ S.ρ 10 = 3 ∨ S.ρ 10 = 4 ∨ S.ρ 10 = 5 ∨ S.ρ 10 = 6 ∨ (7 ≤ S.ρ 10 ∧ S.ρ 10 < 256) from by omega) with hk | hk | hk | hk | hk | hk | hk | hk
  · obtain ⟨T, q, z70, z71⟩ := setno B.hK
    exact law01_0 (B.law T q) (by rw [q.num 5 rfl]; exact s1) (by rw [q.num 6 rfl]; exact s2) ((q.num 10 rfl).trans hk) z70 z71 (lks01 (B.law T q).r5 (B.law T q).r6 (by rw [q.1]; exact B.hK) z70 z71 (B.lk0 T q))
  · obtain ⟨T, q, z70, z71⟩ := setno B.hK
    exact law01_1 (B.law T q) (by rw [q.num 5 rfl]; exact s1) (by rw [q.num 6 rfl]; exact s2) ((q.num 10 rfl).trans hk) z70 z71 (lks01 (B.law T q).r5 (B.law T q).r6 (by rw [q.1]; exact B.hK) z70 z71 (B.lk0 T q))
  · obtain ⟨T, q, z70, z71⟩ := setno B.hK
    exact law01_2 (B.law T q) (by rw [q.num 5 rfl]; exact s1) (by rw [q.num 6 rfl]; exact s2) ((q.num 10 rfl).trans hk) z70 z71 (lks01 (B.law T q).r5 (B.law T q).r6 (by rw [q.1]; exact B.hK) z70 z71 (B.lk0 T q))
  · obtain ⟨T, q, z70, z71⟩ := setno B.hK
    exact law01_3 (B.law T q) (by rw [q.num 5 rfl]; exact s1) (by rw [q.num 6 rfl]; exact s2) ((q.num 10 rfl).trans hk) z70 z71 (lks01 (B.law T q).r5 (B.law T q).r6 (by rw [q.1]; exact B.hK) z70 z71 (B.lk0 T q))
  · obtain ⟨T, q, z70, z71⟩ := setno B.hK
    exact law01_4 (B.law T q) (by rw [q.num 5 rfl]; exact s1) (by rw [q.num 6 rfl]; exact s2) ((q.num 10 rfl).trans hk) z70 z71 (lks01 (B.law T q).r5 (B.law T q).r6 (by rw [q.1]; exact B.hK) z70 z71 (B.lk0 T q))
  · obtain ⟨T, q, z70, z71⟩ := setno B.hK
    exact law01_5 (B.law T q) (by rw [q.num 5 rfl]; exact s1) (by rw [q.num 6 rfl]; exact s2) ((q.num 10 rfl).trans hk) z70 z71 (lks01 (B.law T q).r5 (B.law T q).r6 (by rw [q.1]; exact B.hK) z70 z71 (B.lk0 T q))
  · by_cases hm : (0 ≤ S.ρ 11 ∧ S.ρ 11 < S.ρ 6)
    · obtain ⟨T, q, z70, z71⟩ := setpu B.hK
      exact law01_6pu (B.law T q) (by rw [q.num 5 rfl]; exact s1) (by rw [q.num 6 rfl]; exact s2) ((q.num 10 rfl).trans hk) (by rw [q.num 11 rfl, q.num 6 rfl]; exact hm) z70 z71 (lks01pu (B.law T q).r5 (B.law T q).r6 (by rw [q.1]; exact B.hK) z70 z71 (B.lk0 T q))
    · obtain ⟨T, q, z70, z71⟩ := setno B.hK
      exact law01_6 (B.law T q) (by rw [q.num 5 rfl]; exact s1) (by rw [q.num 6 rfl]; exact s2) ((q.num 10 rfl).trans hk) (by rw [q.num 11 rfl, q.num 6 rfl]; exact hm) z70 z71 (lks01 (B.law T q).r5 (B.law T q).r6 (by rw [q.1]; exact B.hK) z70 z71 (B.lk0 T q))
  · obtain ⟨T, q, z70, z71⟩ := setno B.hK
    exact law01_7 (B.law T q) (by rw [q.num 5 rfl]; exact s1) (by rw [q.num 6 rfl]; exact s2) (by rw [q.num 10 rfl]; exact hk) z70 z71 (lks01 (B.law T q).r5 (B.law T q).r6 (by rw [q.1]; exact B.hK) z70 z71 (B.lk0 T q))
set_option maxHeartbeats 4000000 in
theorem shape10 {S : Sy} {w : World} {l : List Value} (B : Base S w l) (s1 : 0 < S.ρ 5) (s2 : S.ρ 6 = 0) : Holds w l := by
  have r := B.r10
  rcases (show S.ρ 10 = 0 ∨ S.ρ 10 = 1 ∨ S.ρ 10 = 2 ∨ S.ρ 10 = 3 ∨ S.ρ 10 = 4 ∨ S.ρ 10 = 5 ∨ S.ρ 10 = 6 ∨ (7 ≤ S.ρ 10 ∧ S.ρ 10 < 256) from by omega) with hk | hk | hk | hk | hk | hk | hk | hk
  · obtain ⟨T, q, z70, z71⟩ := setno B.hK
    exact law10_0 (B.law T q) (by rw [q.num 5 rfl]; exact s1) (by rw [q.num 6 rfl]; exact s2) ((q.num 10 rfl).trans hk) z70 z71 (lks10 (B.law T q).r5 (B.law T q).r6 (by rw [q.1]; exact B.hK) z70 z71 (B.lk0 T q))
  · obtain ⟨T, q, z70, z71⟩ := setno B.hK
    exact law10_1 (B.law T q) (by rw [q.num 5 rfl]; exact s1) (by rw [q.num 6 rfl]; exact s2) ((q.num 10 rfl).trans hk) z70 z71 (lks10 (B.law T q).r5 (B.law T q).r6 (by rw [q.1]; exact B.hK) z70 z71 (B.lk0 T q))
  · by_cases hm : (0 ≤ S.ρ 11 ∧ S.ρ 11 < S.ρ 5)
    · obtain ⟨T, q, z70, z71⟩ := setst B.hK
      exact law10_2st (B.law T q) (by rw [q.num 5 rfl]; exact s1) (by rw [q.num 6 rfl]; exact s2) ((q.num 10 rfl).trans hk) (by rw [q.num 11 rfl, q.num 5 rfl]; exact hm) z70 z71 (lks10st (B.law T q).r5 (B.law T q).r6 (by rw [q.1]; exact B.hK) z70 z71 (B.lk0 T q))
    · obtain ⟨T, q, z70, z71⟩ := setno B.hK
      exact law10_2 (B.law T q) (by rw [q.num 5 rfl]; exact s1) (by rw [q.num 6 rfl]; exact s2) ((q.num 10 rfl).trans hk) (by rw [q.num 11 rfl, q.num 5 rfl]; exact hm) z70 z71 (lks10 (B.law T q).r5 (B.law T q).r6 (by rw [q.1]; exact B.hK) z70 z71 (B.lk0 T q))
  · by_cases hm : ((0 ≤ S.ρ 11 ∧ S.ρ 11 < S.ρ 5) ∧ S.Φ 60 [S.ρ 11] = S.ρ 12)
    · obtain ⟨T, q, z70, z71⟩ := setca B.hK
      exact law10_3ca (B.law T q) (by rw [q.num 5 rfl]; exact s1) (by rw [q.num 6 rfl]; exact s2) ((q.num 10 rfl).trans hk) (by rw [q.num 11 rfl, q.num 5 rfl, q.fn 60 rfl, q.num 12 rfl]; exact hm) z70 z71 (lks10ca (B.law T q).r5 (B.law T q).r6 (by rw [q.1]; exact B.hK) z70 z71 (B.lk0 T q))
    · obtain ⟨T, q, z70, z71⟩ := setno B.hK
      exact law10_3 (B.law T q) (by rw [q.num 5 rfl]; exact s1) (by rw [q.num 6 rfl]; exact s2) ((q.num 10 rfl).trans hk) (by rw [q.num 11 rfl, q.num 5 rfl, q.fn 60 rfl, q.num 12 rfl]; exact hm) z70 z71 (lks10 (B.law T q).r5 (B.law T q).r6 (by rw [q.1]; exact B.hK) z70 z71 (B.lk0 T q))
  · by_cases hm : (0 ≤ S.ρ 11 ∧ S.ρ 11 < S.ρ 5)
    · obtain ⟨T, q, z70, z71⟩ := setad B.hK
      exact law10_4ad (B.law T q) (by rw [q.num 5 rfl]; exact s1) (by rw [q.num 6 rfl]; exact s2) ((q.num 10 rfl).trans hk) (by rw [q.num 11 rfl, q.num 5 rfl]; exact hm) z70 z71 (lks10ad (B.law T q).r5 (B.law T q).r6 (by rw [q.1]; exact B.hK) z70 z71 (B.lk0 T q))
    · obtain ⟨T, q, z70, z71⟩ := setno B.hK
      exact law10_4 (B.law T q) (by rw [q.num 5 rfl]; exact s1) (by rw [q.num 6 rfl]; exact s2) ((q.num 10 rfl).trans hk) (by rw [q.num 11 rfl, q.num 5 rfl]; exact hm) z70 z71 (lks10 (B.law T q).r5 (B.law T q).r6 (by rw [q.1]; exact B.hK) z70 z71 (B.lk0 T q))
  · obtain ⟨T, q, z70, z71⟩ := setno B.hK
    exact law10_5 (B.law T q) (by rw [q.num 5 rfl]; exact s1) (by rw [q.num 6 rfl]; exact s2) ((q.num 10 rfl).trans hk) z70 z71 (lks10 (B.law T q).r5 (B.law T q).r6 (by rw [q.1]; exact B.hK) z70 z71 (B.lk0 T q))
  · obtain ⟨T, q, z70, z71⟩ := setno B.hK
    exact law10_6 (B.law T q) (by rw [q.num 5 rfl]; exact s1) (by rw [q.num 6 rfl]; exact s2) ((q.num 10 rfl).trans hk) z70 z71 (lks10 (B.law T q).r5 (B.law T q).r6 (by rw [q.1]; exact B.hK) z70 z71 (B.lk0 T q))
  · obtain ⟨T, q, z70, z71⟩ := setno B.hK
    exact law10_7 (B.law T q) (by rw [q.num 5 rfl]; exact s1) (by rw [q.num 6 rfl]; exact s2) (by rw [q.num 10 rfl]; exact hk) z70 z71 (lks10 (B.law T q).r5 (B.law T q).r6 (by rw [q.1]; exact B.hK) z70 z71 (B.lk0 T q))
set_option maxHeartbeats 4000000 in
theorem shape00 {S : Sy} {w : World} {l : List Value} (B : Base S w l) (s1 : S.ρ 5 = 0) (s2 : S.ρ 6 = 0) : Holds w l := by
  have r := B.r10
  rcases (show S.ρ 10 = 0 ∨ S.ρ 10 = 1 ∨ S.ρ 10 = 2 ∨ S.ρ 10 = 3 ∨ S.ρ 10 = 4 ∨ S.ρ 10 = 5 ∨ S.ρ 10 = 6 ∨ (7 ≤ S.ρ 10 ∧ S.ρ 10 < 256) from by omega) with hk | hk | hk | hk | hk | hk | hk | hk
  · obtain ⟨T, q, z70, z71⟩ := setno B.hK
    exact law00_0 (B.law T q) (by rw [q.num 5 rfl]; exact s1) (by rw [q.num 6 rfl]; exact s2) ((q.num 10 rfl).trans hk) z70 z71 (lks00 (B.law T q).r5 (B.law T q).r6 (by rw [q.1]; exact B.hK) z70 z71 (B.lk0 T q))
  · obtain ⟨T, q, z70, z71⟩ := setno B.hK
    exact law00_1 (B.law T q) (by rw [q.num 5 rfl]; exact s1) (by rw [q.num 6 rfl]; exact s2) ((q.num 10 rfl).trans hk) z70 z71 (lks00 (B.law T q).r5 (B.law T q).r6 (by rw [q.1]; exact B.hK) z70 z71 (B.lk0 T q))
  · obtain ⟨T, q, z70, z71⟩ := setno B.hK
    exact law00_2 (B.law T q) (by rw [q.num 5 rfl]; exact s1) (by rw [q.num 6 rfl]; exact s2) ((q.num 10 rfl).trans hk) z70 z71 (lks00 (B.law T q).r5 (B.law T q).r6 (by rw [q.1]; exact B.hK) z70 z71 (B.lk0 T q))
  · obtain ⟨T, q, z70, z71⟩ := setno B.hK
    exact law00_3 (B.law T q) (by rw [q.num 5 rfl]; exact s1) (by rw [q.num 6 rfl]; exact s2) ((q.num 10 rfl).trans hk) z70 z71 (lks00 (B.law T q).r5 (B.law T q).r6 (by rw [q.1]; exact B.hK) z70 z71 (B.lk0 T q))
  · obtain ⟨T, q, z70, z71⟩ := setno B.hK
    exact law00_4 (B.law T q) (by rw [q.num 5 rfl]; exact s1) (by rw [q.num 6 rfl]; exact s2) ((q.num 10 rfl).trans hk) z70 z71 (lks00 (B.law T q).r5 (B.law T q).r6 (by rw [q.1]; exact B.hK) z70 z71 (B.lk0 T q))
  · obtain ⟨T, q, z70, z71⟩ := setno B.hK
    exact law00_5 (B.law T q) (by rw [q.num 5 rfl]; exact s1) (by rw [q.num 6 rfl]; exact s2) ((q.num 10 rfl).trans hk) z70 z71 (lks00 (B.law T q).r5 (B.law T q).r6 (by rw [q.1]; exact B.hK) z70 z71 (B.lk0 T q))
  · obtain ⟨T, q, z70, z71⟩ := setno B.hK
    exact law00_6 (B.law T q) (by rw [q.num 5 rfl]; exact s1) (by rw [q.num 6 rfl]; exact s2) ((q.num 10 rfl).trans hk) z70 z71 (lks00 (B.law T q).r5 (B.law T q).r6 (by rw [q.1]; exact B.hK) z70 z71 (B.lk0 T q))
  · obtain ⟨T, q, z70, z71⟩ := setno B.hK
    exact law00_7 (B.law T q) (by rw [q.num 5 rfl]; exact s1) (by rw [q.num 6 rfl]; exact s2) (by rw [q.num 10 rfl]; exact hk) z70 z71 (lks00 (B.law T q).r5 (B.law T q).r6 (by rw [q.1]; exact B.hK) z70 z71 (B.lk0 T q))
theorem lawIn_of {T : Sy} {w : World} {x : Inp} {a b k c d e p : Int} (ha : 0 ≤ a) (hb : 0 ≤ b) (tI : T.I = [x]) (hks : x.ks = [some .u8, some .i64, some .u64, some .u64]) (hf : x.f = 20) (hin0 : ∀ b o, inpL [x] b = some o → w.heap[b]? = some o)
    (t1 : T.ρ 1 = x.n) (hg : x.n ≤ 60) (t2 : T.ρ 2 = a) (t3 : T.ρ 3 = b) (t5 : T.ρ 5 = a % 41) (t6 : T.ρ 6 = b % 41) (t10 : T.ρ 10 = k) (t11 : T.ρ 11 = c) (t12 : T.ρ 12 = d) (t13 : T.ρ 13 = e) (t14 : T.ρ 14 = p) (h9 : T.Φ 9 [] = 1) :
    LawIn T w [.int .u8 a, .int .u8 b, .slice x.a x.n x.cap, .agg #[.int .u8 k, .int .i64 c, .int .u64 d, .int .u64 e], .int .i64 p] where
  hvs G ι := vs_sym t2 (vs_sym t3 (vs_inp0 (x := x) (by decide) (by rw [tI]; rfl) (by rw [hks]; decide +kernel) (by rw [hf]; decide +kernel) t1 (vs_agg (vs_sym t10 (vs_sym t11 (vs_sym t12 (vs_sym t13 vs_nil)))) (vs_sym t14 vs_nil))))
  hin := by rw [tI]; exact hin0
  h9 := h9
  dw := by rw [t5]; exact den_wS ha rfl t2
  db := by rw [t6]; exact den_wS hb rfl t3
  r5 := by rw [t5]; omega
  r6 := by rw [t6]; omega
  gr := by rw [t1]; omega
noncomputable def alG : List (Nat × Value) := [(awT.enc, .bool true), (aS0.enc, .bool true)]
theorem alG_ok {T : Sy} (h9 : T.Φ 9 [] = 1) (h : 60 < T.ρ 1) : AlOk T alG := ai awT true (aw_den h9) (ai aS0 true (tr (p := 60 < T.ρ 1) h) (AlOk.nil _))
set_option maxHeartbeats 4000000 in
theorem stays_any (a b : Int) (ha : 0 ≤ a) (hb : 0 ≤ b) (k c d e p : Int) (hk : 0 ≤ k ∧ k < 256) (v : Value) (w : World) (hs : SlIn w [some .u8, some .i64, some .u64, some .u64] v) :
    Calls Try.prog 3 #[.int .u8 a, .int .u8 b, v, .agg #[.int .u8 k, .int .i64 c, .int .u64 d, .int .u64 e], .int .i64 p] w fun e w' => e = .returned (.bool true) ∧ Quiet w w' := by
  obtain ⟨x, F, hks, hf, rfl, hx, hwf, hok⟩ := inpw_of (by decide) hs 20
  have hall : ∀ z ∈ [x], ∃ F, InpW w z F := fun z hz => by
    rw [List.mem_singleton] at hz
    subst hz
    exact ⟨F, hok⟩
  have hxok : InpOk [x] (phi 20 4 F) x := inps_ok hall List.mem_cons_self hok fun m j hm => by
    rw [hks] at hm
    rw [hf]
    exact phi_in hm
  obtain ⟨SS, hSS⟩ : ∃ SS : Sy, SS = ⟨upd (fun _ => 0) [(1, (x.n : Int)), (2, a), (3, b), (5, a % 41), (6, b % 41), (10, k), (11, c), (12, d), (13, e), (14, p)], phi 20 4 F, [x], fun z hz => by rw [List.mem_singleton] at hz; subst hz; exact hxok⟩ := ⟨_, rfl⟩
  have i1 : SS.ρ 1 = x.n := by rw [hSS]; rfl
  have i2 : SS.ρ 2 = a := by rw [hSS]; rfl
  have i3 : SS.ρ 3 = b := by rw [hSS]; rfl
  have i5 : SS.ρ 5 = a % 41 := by rw [hSS]; rfl
  have i6 : SS.ρ 6 = b % 41 := by rw [hSS]; rfl
  have i10 : SS.ρ 10 = k := by rw [hSS]; rfl
  have i11 : SS.ρ 11 = c := by rw [hSS]; rfl
  have i12 : SS.ρ 12 = d := by rw [hSS]; rfl
  have i13 : SS.ρ 13 = e := by rw [hSS]; rfl
  have i14 : SS.ρ 14 = p := by rw [hSS]; rfl
  have iI : SS.I = [x] := by rw [hSS]
  have i9 : SS.Φ 9 [] = 1 := by rw [hSS]; exact phi_9 (f := 20) (m := 4) (F := F) (by decide)
  have hr20 : ∀ j : Nat, j < x.n → (0 ≤ SS.Φ 20 [(j : Int)] ∧ SS.Φ 20 [(j : Int)] < 256) := fun j hj => by
    have e : SS.Φ 20 [(j : Int)] = F 0 j := by rw [hSS]; exact phi_in (f := 20) (m := 4) (i := 0) (by decide)
    rw [e]
    exact wf_u8 (hwf 0 .u8 j rfl hj)
  have h5 : 0 ≤ SS.ρ 5 ∧ SS.ρ 5 < 41 := by omega
  have h6 : 0 ≤ SS.ρ 6 ∧ SS.ρ 6 < 41 := by omega
  have hin0 : ∀ b o, inpL [x] b = some o → w.heap[b]? = some o := inps_in hall
  have hK : ∀ z ∈ SS.I, z.f + z.ks.length ≤ 60 := fun z hz => by
    rw [iI, List.mem_singleton] at hz
    subst hz
    rw [hf, hks]; decide
  by_cases hg : x.n ≤ 60
  · obtain ⟨Sf, y, lk0⟩ := lkZero (by omega) i1 h5 h6 hr20 hK
    have B : Base Sf w [.int .u8 a, .int .u8 b, .slice x.a x.n x.cap, .agg #[.int .u8 k, .int .i64 c, .int .u64 d, .int .u64 e], .int .i64 p] := {
      hK := by rw [y.1]; exact hK
      r5 := by rw [y.num 5 rfl]; exact h5
      r6 := by rw [y.num 6 rfl]; exact h6
      r10 := by rw [y.num 10 rfl, i10]; exact hk
      law := fun T q => by
        have z := y.trans q
        exact lawIn_of ha hb (z.1.trans iI) hks hf hin0 ((z.num 1 rfl).trans i1) hg ((z.num 2 rfl).trans i2) ((z.num 3 rfl).trans i3) ((z.num 5 rfl).trans i5) ((z.num 6 rfl).trans i6) ((z.num 10 rfl).trans i10) ((z.num 11 rfl).trans i11) ((z.num 12 rfl).trans i12) ((z.num 13 rfl).trans i13) ((z.num 14 rfl).trans i14) ((z.fn 9 rfl []).trans i9)
      lk0 := lk0 }
    have r5 := B.r5; have r6 := B.r6
    rcases (show Sf.ρ 5 = 0 ∨ 0 < Sf.ρ 5 from by omega) with s1 | s1 <;> rcases (show Sf.ρ 6 = 0 ∨ 0 < Sf.ρ 6 from by omega) with s2 | s2
    · exact shape00 B s1 s2
    · exact shape01 B s1 s2
    · exact shape10 B s1 s2
    · exact shape11 B s1 s2
  · refine symRunI envS (alG_ok i9 (by omega)) (one_ok7 i9) (LkOk.no _ _ _ _) (n := 1000) (args := argsS) (args' := [.int .u8 a, .int .u8 b, .slice x.a x.n x.cap, .agg #[.int .u8 k, .int .i64 c, .int .u64 d, .int .u64 e], .int .i64 p]) (res := [.one .bool]) (vs := [.bool true]) (rcs := [litB true]) (rs := [1]) rfl ⟨ev_litB _ true, trivial⟩ (fun G => by kernel_rfl) (fun G ι => ?_) w (gok w) (by rw [iI]; exact hin0)
    exact vs_sym i2 (vs_sym i3 (vs_inp0 (x := x) (by decide) (by rw [iI]; rfl) (by rw [hks]; decide +kernel) (by rw [hf]; decide +kernel) i1 (vs_agg (vs_sym i10 (vs_sym i11 (vs_sym i12 (vs_sym i13 vs_nil)))) (vs_sym i14 vs_nil))))
end Go.Proofs.Ytokcoabcflpbbaa
