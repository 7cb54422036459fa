/-
  MemStays: its ways, by shape and kind. Conditions: those each says.
-/
import Derived.Test.YtokcoabcflpbbaaMS1
namespace Go.Proofs.Ytokcoabcflpbbaa
open Go.Ev Go.RowKit
set_option maxRecDepth 100000
set_option linter.unusedVariables false
set_option maxHeartbeats 4000000 in
theorem law01_0 {T : Sy} {w : World} {l : List Value} (N : LawIn T w l) (s1 : T.ρ 5 = 0) (s2 : 0 < T.ρ 6) (hk : T.ρ 10 = 0) (z70 : ∀ j : Int, T.Φ 70 [j] = (fun j => T.Φ 60 [j]) j) (z71 : ∀ j : Int, T.Φ 71 [j] = (fun j => T.Φ 61 [j]) j) (hlk : LkOk Try.prog T [] ΛS01 (lkL [kS0, orL kB01 kB01Z70])) : Holds w l := by
  have r5 := N.r5; have r6 := N.r6
  have al0 := (AlOk.app (alK_ok (k := 0) hk (by decide)) (alB_ok N (show true = _ from by rw [decide_eq_true (by omega)]) (show false = _ from by rw [decide_eq_false (by omega)])))
  by_cases c1 : T.ρ 14 < (0 : Int)
  · have d1 : u0.den T = some [b2i true] := tr (p := T.ρ 14 < (0 : Int)) c1
    exact runS01 N hlk (ai u0 true d1 al0) fun G => by kernel_rfl
  · have d1 : u0.den T = some [b2i false] := fls (p := T.ρ 14 < (0 : Int)) c1
    have c2 : ¬ (T.ρ 14 < T.ρ 5) := by omega
    have d2 : u1.den T = some [b2i true] := tr (p := T.ρ 5 ≤ T.ρ 14) (Int.not_lt.1 c2)
    by_cases c3 : T.ρ 14 < T.ρ 6
    · have d3 : u4.den T = some [b2i false] := fls (p := T.ρ 6 ≤ T.ρ 14) (Int.not_le.2 c3)
      have d4 : u2.den T = some [b2i true] := tr (p := (0 : Int) ≤ T.ρ 14) (Int.not_lt.1 c1)
      have d5 : u5.den T = some [b2i true] := tr (p := T.ρ 14 < T.ρ 6) c3
      have c10 : (IntKind.u8.wrap ((IntKind.u64.wrap ((T.Φ 71 [T.ρ 14]))))) = (IntKind.u8.wrap ((IntKind.u64.wrap ((T.Φ 61 [T.ρ 14]))))) := by simp only [z71]
      have d10 : u7.den T = some [b2i false] := fls (p := (IntKind.u8.wrap ((IntKind.u64.wrap ((T.Φ 71 [T.ρ 14]))))) ≠ (IntKind.u8.wrap ((IntKind.u64.wrap ((T.Φ 61 [T.ρ 14])))))) (fun hh => hh c10)
      exact runS01 N hlk (ai u7 false d10 (ai u5 true d5 (ai u2 true d4 (ai u4 false d3 (ai u1 true d2 (ai u0 false d1 al0)))))) fun G => by kernel_rfl
    · have d3 : u4.den T = some [b2i true] := tr (p := T.ρ 6 ≤ T.ρ 14) (Int.not_lt.1 c3)
      have d7 : u2.den T = some [b2i true] := tr (p := (0 : Int) ≤ T.ρ 14) (Int.not_lt.1 c1)
      exact runS01 N hlk (ai u2 true d7 (ai u4 true d3 (ai u1 true d2 (ai u0 false d1 al0)))) fun G => by kernel_rfl
set_option maxHeartbeats 4000000 in
theorem law01_1 {T : Sy} {w : World} {l : List Value} (N : LawIn T w l) (s1 : T.ρ 5 = 0) (s2 : 0 < T.ρ 6) (hk : T.ρ 10 = 1) (z70 : ∀ j : Int, T.Φ 70 [j] = (fun j => T.Φ 60 [j]) j) (z71 : ∀ j : Int, T.Φ 71 [j] = (fun j => T.Φ 61 [j]) j) (hlk : LkOk Try.prog T [] ΛS01 (lkL [kS0, orL kB01 kB01Z70])) : Holds w l := by
  have r5 := N.r5; have r6 := N.r6
  have al0 := (AlOk.app (alK_ok (k := 1) hk (by decide)) (alB_ok N (show true = _ from by rw [decide_eq_true (by omega)]) (show false = _ from by rw [decide_eq_false (by omega)])))
  by_cases c1 : T.ρ 14 < (0 : Int)
  · have d1 : u0.den T = some [b2i true] := tr (p := T.ρ 14 < (0 : Int)) c1
    by_cases c2 : T.ρ 11 < (0 : Int)
    · have d2 : u8.den T = some [b2i true] := tr (p := T.ρ 11 < (0 : Int)) c2
      exact runS01 N hlk (ai u8 true d2 (ai u0 true d1 al0)) fun G => by kernel_rfl
    · have d2 : u8.den T = some [b2i false] := fls (p := T.ρ 11 < (0 : Int)) c2
      have c3 : ¬ (T.ρ 11 < T.ρ 5) := by omega
      have d3 : u9.den T = some [b2i true] := tr (p := T.ρ 5 ≤ T.ρ 11) (Int.not_lt.1 c3)
      have d7 : u10.den T = some [b2i true] := tr (p := (0 : Int) ≤ T.ρ 11) (Int.not_lt.1 c2)
      exact runS01 N hlk (ai u10 true d7 (ai u9 true d3 (ai u8 false d2 (ai u0 true d1 al0)))) fun G => by kernel_rfl
  · have d1 : u0.den T = some [b2i false] := fls (p := T.ρ 14 < (0 : Int)) c1
    have c2 : ¬ (T.ρ 14 < T.ρ 5) := by omega
    have d2 : u1.den T = some [b2i true] := tr (p := T.ρ 5 ≤ T.ρ 14) (Int.not_lt.1 c2)
    by_cases c3 : T.ρ 14 < T.ρ 6
    · have d3 : u4.den T = some [b2i false] := fls (p := T.ρ 6 ≤ T.ρ 14) (Int.not_le.2 c3)
      have d4 : u2.den T = some [b2i true] := tr (p := (0 : Int) ≤ T.ρ 14) (Int.not_lt.1 c1)
      have d5 : u5.den T = some [b2i true] := tr (p := T.ρ 14 < T.ρ 6) c3
      by_cases c6 : T.ρ 11 < (0 : Int)
      · have d6 : u8.den T = some [b2i true] := tr (p := T.ρ 11 < (0 : Int)) c6
        have c11 : (IntKind.u8.wrap ((IntKind.u64.wrap ((T.Φ 71 [T.ρ 14]))))) = (IntKind.u8.wrap ((IntKind.u64.wrap ((T.Φ 61 [T.ρ 14]))))) := by simp only [z71]
        have d11 : u7.den T = some [b2i false] := fls (p := (IntKind.u8.wrap ((IntKind.u64.wrap ((T.Φ 71 [T.ρ 14]))))) ≠ (IntKind.u8.wrap ((IntKind.u64.wrap ((T.Φ 61 [T.ρ 14])))))) (fun hh => hh c11)
        exact runS01 N hlk (ai u7 false d11 (ai u8 true d6 (ai u5 true d5 (ai u2 true d4 (ai u4 false d3 (ai u1 true d2 (ai u0 false d1 al0))))))) fun G => by kernel_rfl
      · have d6 : u8.den T = some [b2i false] := fls (p := T.ρ 11 < (0 : Int)) c6
        have c7 : ¬ (T.ρ 11 < T.ρ 5) := by omega
        have d7 : u9.den T = some [b2i true] := tr (p := T.ρ 5 ≤ T.ρ 11) (Int.not_lt.1 c7)
        have c12 : (IntKind.u8.wrap ((IntKind.u64.wrap ((T.Φ 71 [T.ρ 14]))))) = (IntKind.u8.wrap ((IntKind.u64.wrap ((T.Φ 61 [T.ρ 14]))))) := by simp only [z71]
        have d12 : u7.den T = some [b2i false] := fls (p := (IntKind.u8.wrap ((IntKind.u64.wrap ((T.Φ 71 [T.ρ 14]))))) ≠ (IntKind.u8.wrap ((IntKind.u64.wrap ((T.Φ 61 [T.ρ 14])))))) (fun hh => hh c12)
        have d13 : u10.den T = some [b2i true] := tr (p := (0 : Int) ≤ T.ρ 11) (Int.not_lt.1 c6)
        exact runS01 N hlk (ai u10 true d13 (ai u7 false d12 (ai u9 true d7 (ai u8 false d6 (ai u5 true d5 (ai u2 true d4 (ai u4 false d3 (ai u1 true d2 (ai u0 false d1 al0))))))))) fun G => by kernel_rfl
    · have d3 : u4.den T = some [b2i true] := tr (p := T.ρ 6 ≤ T.ρ 14) (Int.not_lt.1 c3)
      by_cases c4 : T.ρ 11 < (0 : Int)
      · have d4 : u8.den T = some [b2i true] := tr (p := T.ρ 11 < (0 : Int)) c4
        have d8 : u2.den T = some [b2i true] := tr (p := (0 : Int) ≤ T.ρ 14) (Int.not_lt.1 c1)
        exact runS01 N hlk (ai u2 true d8 (ai u8 true d4 (ai u4 true d3 (ai u1 true d2 (ai u0 false d1 al0))))) fun G => by kernel_rfl
      · have d4 : u8.den T = some [b2i false] := fls (p := T.ρ 11 < (0 : Int)) c4
        have c5 : ¬ (T.ρ 11 < T.ρ 5) := by omega
        have d5 : u9.den T = some [b2i true] := tr (p := T.ρ 5 ≤ T.ρ 11) (Int.not_lt.1 c5)
        have d9 : u2.den T = some [b2i true] := tr (p := (0 : Int) ≤ T.ρ 14) (Int.not_lt.1 c1)
        have d10 : u10.den T = some [b2i true] := tr (p := (0 : Int) ≤ T.ρ 11) (Int.not_lt.1 c4)
        exact runS01 N hlk (ai u10 true d10 (ai u2 true d9 (ai u9 true d5 (ai u8 false d4 (ai u4 true d3 (ai u1 true d2 (ai u0 false d1 al0))))))) fun G => by kernel_rfl
set_option maxHeartbeats 4000000 in
theorem law01_2 {T : Sy} {w : World} {l : List Value} (N : LawIn T w l) (s1 : T.ρ 5 = 0) (s2 : 0 < T.ρ 6) (hk : T.ρ 10 = 2) (z70 : ∀ j : Int, T.Φ 70 [j] = (fun j => T.Φ 60 [j]) j) (z71 : ∀ j : Int, T.Φ 71 [j] = (fun j => T.Φ 61 [j]) j) (hlk : LkOk Try.prog T [] ΛS01 (lkL [kS0, orL kB01 kB01Z70])) : Holds w l := by
  have r5 := N.r5; have r6 := N.r6
  have al0 := (AlOk.app (alK_ok (k := 2) hk (by decide)) (alB_ok N (show true = _ from by rw [decide_eq_true (by omega)]) (show false = _ from by rw [decide_eq_false (by omega)])))
  by_cases c1 : T.ρ 14 < (0 : Int)
  · have d1 : u0.den T = some [b2i true] := tr (p := T.ρ 14 < (0 : Int)) c1
    by_cases c2 : T.ρ 11 < (0 : Int)
    · have d2 : u8.den T = some [b2i true] := tr (p := T.ρ 11 < (0 : Int)) c2
      exact runS01 N hlk (ai u8 true d2 (ai u0 true d1 al0)) fun G => by kernel_rfl
    · have d2 : u8.den T = some [b2i false] := fls (p := T.ρ 11 < (0 : Int)) c2
      have c3 : ¬ (T.ρ 11 < T.ρ 5) := by omega
      have d3 : u9.den T = some [b2i true] := tr (p := T.ρ 5 ≤ T.ρ 11) (Int.not_lt.1 c3)
      have d7 : u10.den T = some [b2i true] := tr (p := (0 : Int) ≤ T.ρ 11) (Int.not_lt.1 c2)
      exact runS01 N hlk (ai u10 true d7 (ai u9 true d3 (ai u8 false d2 (ai u0 true d1 al0)))) fun G => by kernel_rfl
  · have d1 : u0.den T = some [b2i false] := fls (p := T.ρ 14 < (0 : Int)) c1
    have c2 : ¬ (T.ρ 14 < T.ρ 5) := by omega
    have d2 : u1.den T = some [b2i true] := tr (p := T.ρ 5 ≤ T.ρ 14) (Int.not_lt.1 c2)
    by_cases c3 : T.ρ 14 < T.ρ 6
    · have d3 : u4.den T = some [b2i false] := fls (p := T.ρ 6 ≤ T.ρ 14) (Int.not_le.2 c3)
      have d4 : u2.den T = some [b2i true] := tr (p := (0 : Int) ≤ T.ρ 14) (Int.not_lt.1 c1)
      have d5 : u5.den T = some [b2i true] := tr (p := T.ρ 14 < T.ρ 6) c3
      by_cases c6 : T.ρ 11 < (0 : Int)
      · have d6 : u8.den T = some [b2i true] := tr (p := T.ρ 11 < (0 : Int)) c6
        have c11 : (IntKind.u8.wrap ((IntKind.u64.wrap ((T.Φ 71 [T.ρ 14]))))) = (IntKind.u8.wrap ((IntKind.u64.wrap ((T.Φ 61 [T.ρ 14]))))) := by simp only [z71]
        have d11 : u7.den T = some [b2i false] := fls (p := (IntKind.u8.wrap ((IntKind.u64.wrap ((T.Φ 71 [T.ρ 14]))))) ≠ (IntKind.u8.wrap ((IntKind.u64.wrap ((T.Φ 61 [T.ρ 14])))))) (fun hh => hh c11)
        exact runS01 N hlk (ai u7 false d11 (ai u8 true d6 (ai u5 true d5 (ai u2 true d4 (ai u4 false d3 (ai u1 true d2 (ai u0 false d1 al0))))))) fun G => by kernel_rfl
      · have d6 : u8.den T = some [b2i false] := fls (p := T.ρ 11 < (0 : Int)) c6
        have c7 : ¬ (T.ρ 11 < T.ρ 5) := by omega
        have d7 : u9.den T = some [b2i true] := tr (p := T.ρ 5 ≤ T.ρ 11) (Int.not_lt.1 c7)
        have c12 : (IntKind.u8.wrap ((IntKind.u64.wrap ((T.Φ 71 [T.ρ 14]))))) = (IntKind.u8.wrap ((IntKind.u64.wrap ((T.Φ 61 [T.ρ 14]))))) := by simp only [z71]
        have d12 : u7.den T = some [b2i false] := fls (p := (IntKind.u8.wrap ((IntKind.u64.wrap ((T.Φ 71 [T.ρ 14]))))) ≠ (IntKind.u8.wrap ((IntKind.u64.wrap ((T.Φ 61 [T.ρ 14])))))) (fun hh => hh c12)
        have d13 : u10.den T = some [b2i true] := tr (p := (0 : Int) ≤ T.ρ 11) (Int.not_lt.1 c6)
        exact runS01 N hlk (ai u10 true d13 (ai u7 false d12 (ai u9 true d7 (ai u8 false d6 (ai u5 true d5 (ai u2 true d4 (ai u4 false d3 (ai u1 true d2 (ai u0 false d1 al0))))))))) fun G => by kernel_rfl
    · have d3 : u4.den T = some [b2i true] := tr (p := T.ρ 6 ≤ T.ρ 14) (Int.not_lt.1 c3)
      by_cases c4 : T.ρ 11 < (0 : Int)
      · have d4 : u8.den T = some [b2i true] := tr (p := T.ρ 11 < (0 : Int)) c4
        have d8 : u2.den T = some [b2i true] := tr (p := (0 : Int) ≤ T.ρ 14) (Int.not_lt.1 c1)
        exact runS01 N hlk (ai u2 true d8 (ai u8 true d4 (ai u4 true d3 (ai u1 true d2 (ai u0 false d1 al0))))) fun G => by kernel_rfl
      · have d4 : u8.den T = some [b2i false] := fls (p := T.ρ 11 < (0 : Int)) c4
        have c5 : ¬ (T.ρ 11 < T.ρ 5) := by omega
        have d5 : u9.den T = some [b2i true] := tr (p := T.ρ 5 ≤ T.ρ 11) (Int.not_lt.1 c5)
        have d9 : u2.den T = some [b2i true] := tr (p := (0 : Int) ≤ T.ρ 14) (Int.not_lt.1 c1)
        have d10 : u10.den T = some [b2i true] := tr (p := (0 : Int) ≤ T.ρ 11) (Int.not_lt.1 c4)
        exact runS01 N hlk (ai u10 true d10 (ai u2 true d9 (ai u9 true d5 (ai u8 false d4 (ai u4 true d3 (ai u1 true d2 (ai u0 false d1 al0))))))) fun G => by kernel_rfl
set_option maxHeartbeats 4000000 in
theorem law01_3 {T : Sy} {w : World} {l : List Value} (N : LawIn T w l) (s1 : T.ρ 5 = 0) (s2 : 0 < T.ρ 6) (hk : T.ρ 10 = 3) (z70 : ∀ j : Int, T.Φ 70 [j] = (fun j => T.Φ 60 [j]) j) (z71 : ∀ j : Int, T.Φ 71 [j] = (fun j => T.Φ 61 [j]) j) (hlk : LkOk Try.prog T [] ΛS01 (lkL [kS0, orL kB01 kB01Z70])) : Holds w l := by
  have r5 := N.r5; have r6 := N.r6
  have al0 := (AlOk.app (alK_ok (k := 3) hk (by decide)) (alB_ok N (show true = _ from by rw [decide_eq_true (by omega)]) (show false = _ from by rw [decide_eq_false (by omega)])))
  by_cases c1 : T.ρ 14 < (0 : Int)
  · have d1 : u0.den T = some [b2i true] := tr (p := T.ρ 14 < (0 : Int)) c1
    by_cases c2 : T.ρ 11 < (0 : Int)
    · have d2 : u8.den T = some [b2i true] := tr (p := T.ρ 11 < (0 : Int)) c2
      exact runS01 N hlk (ai u8 true d2 (ai u0 true d1 al0)) fun G => by kernel_rfl
    · have d2 : u8.den T = some [b2i false] := fls (p := T.ρ 11 < (0 : Int)) c2
      have c3 : ¬ (T.ρ 11 < T.ρ 5) := by omega
      have d3 : u9.den T = some [b2i true] := tr (p := T.ρ 5 ≤ T.ρ 11) (Int.not_lt.1 c3)
      have d7 : u10.den T = some [b2i true] := tr (p := (0 : Int) ≤ T.ρ 11) (Int.not_lt.1 c2)
      exact runS01 N hlk (ai u10 true d7 (ai u9 true d3 (ai u8 false d2 (ai u0 true d1 al0)))) fun G => by kernel_rfl
  · have d1 : u0.den T = some [b2i false] := fls (p := T.ρ 14 < (0 : Int)) c1
    have c2 : ¬ (T.ρ 14 < T.ρ 5) := by omega
    have d2 : u1.den T = some [b2i true] := tr (p := T.ρ 5 ≤ T.ρ 14) (Int.not_lt.1 c2)
    by_cases c3 : T.ρ 14 < T.ρ 6
    · have d3 : u4.den T = some [b2i false] := fls (p := T.ρ 6 ≤ T.ρ 14) (Int.not_le.2 c3)
      have d4 : u2.den T = some [b2i true] := tr (p := (0 : Int) ≤ T.ρ 14) (Int.not_lt.1 c1)
      have d5 : u5.den T = some [b2i true] := tr (p := T.ρ 14 < T.ρ 6) c3
      by_cases c6 : T.ρ 11 < (0 : Int)
      · have d6 : u8.den T = some [b2i true] := tr (p := T.ρ 11 < (0 : Int)) c6
        have c11 : (IntKind.u8.wrap ((IntKind.u64.wrap ((T.Φ 71 [T.ρ 14]))))) = (IntKind.u8.wrap ((IntKind.u64.wrap ((T.Φ 61 [T.ρ 14]))))) := by simp only [z71]
        have d11 : u7.den T = some [b2i false] := fls (p := (IntKind.u8.wrap ((IntKind.u64.wrap ((T.Φ 71 [T.ρ 14]))))) ≠ (IntKind.u8.wrap ((IntKind.u64.wrap ((T.Φ 61 [T.ρ 14])))))) (fun hh => hh c11)
        exact runS01 N hlk (ai u7 false d11 (ai u8 true d6 (ai u5 true d5 (ai u2 true d4 (ai u4 false d3 (ai u1 true d2 (ai u0 false d1 al0))))))) fun G => by kernel_rfl
      · have d6 : u8.den T = some [b2i false] := fls (p := T.ρ 11 < (0 : Int)) c6
        have c7 : ¬ (T.ρ 11 < T.ρ 5) := by omega
        have d7 : u9.den T = some [b2i true] := tr (p := T.ρ 5 ≤ T.ρ 11) (Int.not_lt.1 c7)
        have c12 : (IntKind.u8.wrap ((IntKind.u64.wrap ((T.Φ 71 [T.ρ 14]))))) = (IntKind.u8.wrap ((IntKind.u64.wrap ((T.Φ 61 [T.ρ 14]))))) := by simp only [z71]
        have d12 : u7.den T = some [b2i false] := fls (p := (IntKind.u8.wrap ((IntKind.u64.wrap ((T.Φ 71 [T.ρ 14]))))) ≠ (IntKind.u8.wrap ((IntKind.u64.wrap ((T.Φ 61 [T.ρ 14])))))) (fun hh => hh c12)
        have d13 : u10.den T = some [b2i true] := tr (p := (0 : Int) ≤ T.ρ 11) (Int.not_lt.1 c6)
        exact runS01 N hlk (ai u10 true d13 (ai u7 false d12 (ai u9 true d7 (ai u8 false d6 (ai u5 true d5 (ai u2 true d4 (ai u4 false d3 (ai u1 true d2 (ai u0 false d1 al0))))))))) fun G => by kernel_rfl
    · have d3 : u4.den T = some [b2i true] := tr (p := T.ρ 6 ≤ T.ρ 14) (Int.not_lt.1 c3)
      by_cases c4 : T.ρ 11 < (0 : Int)
      · have d4 : u8.den T = some [b2i true] := tr (p := T.ρ 11 < (0 : Int)) c4
        have d8 : u2.den T = some [b2i true] := tr (p := (0 : Int) ≤ T.ρ 14) (Int.not_lt.1 c1)
        exact runS01 N hlk (ai u2 true d8 (ai u8 true d4 (ai u4 true d3 (ai u1 true d2 (ai u0 false d1 al0))))) fun G => by kernel_rfl
      · have d4 : u8.den T = some [b2i false] := fls (p := T.ρ 11 < (0 : Int)) c4
        have c5 : ¬ (T.ρ 11 < T.ρ 5) := by omega
        have d5 : u9.den T = some [b2i true] := tr (p := T.ρ 5 ≤ T.ρ 11) (Int.not_lt.1 c5)
        have d9 : u2.den T = some [b2i true] := tr (p := (0 : Int) ≤ T.ρ 14) (Int.not_lt.1 c1)
        have d10 : u10.den T = some [b2i true] := tr (p := (0 : Int) ≤ T.ρ 11) (Int.not_lt.1 c4)
        exact runS01 N hlk (ai u10 true d10 (ai u2 true d9 (ai u9 true d5 (ai u8 false d4 (ai u4 true d3 (ai u1 true d2 (ai u0 false d1 al0))))))) fun G => by kernel_rfl
set_option maxHeartbeats 4000000 in
theorem law01_4 {T : Sy} {w : World} {l : List Value} (N : LawIn T w l) (s1 : T.ρ 5 = 0) (s2 : 0 < T.ρ 6) (hk : T.ρ 10 = 4) (z70 : ∀ j : Int, T.Φ 70 [j] = (fun j => T.Φ 60 [j]) j) (z71 : ∀ j : Int, T.Φ 71 [j] = (fun j => T.Φ 61 [j]) j) (hlk : LkOk Try.prog T [] ΛS01 (lkL [kS0, orL kB01 kB01Z70])) : Holds w l := by
  have r5 := N.r5; have r6 := N.r6
  have al0 := (AlOk.app (alK_ok (k := 4) hk (by decide)) (alB_ok N (show true = _ from by rw [decide_eq_true (by omega)]) (show false = _ from by rw [decide_eq_false (by omega)])))
  by_cases c1 : T.ρ 14 < (0 : Int)
  · have d1 : u0.den T = some [b2i true] := tr (p := T.ρ 14 < (0 : Int)) c1
    by_cases c2 : T.ρ 11 < (0 : Int)
    · have d2 : u8.den T = some [b2i true] := tr (p := T.ρ 11 < (0 : Int)) c2
      exact runS01 N hlk (ai u8 true d2 (ai u0 true d1 al0)) fun G => by kernel_rfl
    · have d2 : u8.den T = some [b2i false] := fls (p := T.ρ 11 < (0 : Int)) c2
      have c3 : ¬ (T.ρ 11 < T.ρ 5) := by omega
      have d3 : u9.den T = some [b2i true] := tr (p := T.ρ 5 ≤ T.ρ 11) (Int.not_lt.1 c3)
      have d7 : u10.den T = some [b2i true] := tr (p := (0 : Int) ≤ T.ρ 11) (Int.not_lt.1 c2)
      exact runS01 N hlk (ai u10 true d7 (ai u9 true d3 (ai u8 false d2 (ai u0 true d1 al0)))) fun G => by kernel_rfl
  · have d1 : u0.den T = some [b2i false] := fls (p := T.ρ 14 < (0 : Int)) c1
    have c2 : ¬ (T.ρ 14 < T.ρ 5) := by omega
    have d2 : u1.den T = some [b2i true] := tr (p := T.ρ 5 ≤ T.ρ 14) (Int.not_lt.1 c2)
    by_cases c3 : T.ρ 14 < T.ρ 6
    · have d3 : u4.den T = some [b2i false] := fls (p := T.ρ 6 ≤ T.ρ 14) (Int.not_le.2 c3)
      have d4 : u2.den T = some [b2i true] := tr (p := (0 : Int) ≤ T.ρ 14) (Int.not_lt.1 c1)
      have d5 : u5.den T = some [b2i true] := tr (p := T.ρ 14 < T.ρ 6) c3
      by_cases c6 : T.ρ 11 < (0 : Int)
      · have d6 : u8.den T = some [b2i true] := tr (p := T.ρ 11 < (0 : Int)) c6
        have c11 : (IntKind.u8.wrap ((IntKind.u64.wrap ((T.Φ 71 [T.ρ 14]))))) = (IntKind.u8.wrap ((IntKind.u64.wrap ((T.Φ 61 [T.ρ 14]))))) := by simp only [z71]
        have d11 : u7.den T = some [b2i false] := fls (p := (IntKind.u8.wrap ((IntKind.u64.wrap ((T.Φ 71 [T.ρ 14]))))) ≠ (IntKind.u8.wrap ((IntKind.u64.wrap ((T.Φ 61 [T.ρ 14])))))) (fun hh => hh c11)
        exact runS01 N hlk (ai u7 false d11 (ai u8 true d6 (ai u5 true d5 (ai u2 true d4 (ai u4 false d3 (ai u1 true d2 (ai u0 false d1 al0))))))) fun G => by kernel_rfl
      · have d6 : u8.den T = some [b2i false] := fls (p := T.ρ 11 < (0 : Int)) c6
        have c7 : ¬ (T.ρ 11 < T.ρ 5) := by omega
        have d7 : u9.den T = some [b2i true] := tr (p := T.ρ 5 ≤ T.ρ 11) (Int.not_lt.1 c7)
        have c12 : (IntKind.u8.wrap ((IntKind.u64.wrap ((T.Φ 71 [T.ρ 14]))))) = (IntKind.u8.wrap ((IntKind.u64.wrap ((T.Φ 61 [T.ρ 14]))))) := by simp only [z71]
        have d12 : u7.den T = some [b2i false] := fls (p := (IntKind.u8.wrap ((IntKind.u64.wrap ((T.Φ 71 [T.ρ 14]))))) ≠ (IntKind.u8.wrap ((IntKind.u64.wrap ((T.Φ 61 [T.ρ 14])))))) (fun hh => hh c12)
        have d13 : u10.den T = some [b2i true] := tr (p := (0 : Int) ≤ T.ρ 11) (Int.not_lt.1 c6)
        exact runS01 N hlk (ai u10 true d13 (ai u7 false d12 (ai u9 true d7 (ai u8 false d6 (ai u5 true d5 (ai u2 true d4 (ai u4 false d3 (ai u1 true d2 (ai u0 false d1 al0))))))))) fun G => by kernel_rfl
    · have d3 : u4.den T = some [b2i true] := tr (p := T.ρ 6 ≤ T.ρ 14) (Int.not_lt.1 c3)
      by_cases c4 : T.ρ 11 < (0 : Int)
      · have d4 : u8.den T = some [b2i true] := tr (p := T.ρ 11 < (0 : Int)) c4
        have d8 : u2.den T = some [b2i true] := tr (p := (0 : Int) ≤ T.ρ 14) (Int.not_lt.1 c1)
        exact runS01 N hlk (ai u2 true d8 (ai u8 true d4 (ai u4 true d3 (ai u1 true d2 (ai u0 false d1 al0))))) fun G => by kernel_rfl
      · have d4 : u8.den T = some [b2i false] := fls (p := T.ρ 11 < (0 : Int)) c4
        have c5 : ¬ (T.ρ 11 < T.ρ 5) := by omega
        have d5 : u9.den T = some [b2i true] := tr (p := T.ρ 5 ≤ T.ρ 11) (Int.not_lt.1 c5)
        have d9 : u2.den T = some [b2i true] := tr (p := (0 : Int) ≤ T.ρ 14) (Int.not_lt.1 c1)
        have d10 : u10.den T = some [b2i true] := tr (p := (0 : Int) ≤ T.ρ 11) (Int.not_lt.1 c4)
        exact runS01 N hlk (ai u10 true d10 (ai u2 true d9 (ai u9 true d5 (ai u8 false d4 (ai u4 true d3 (ai u1 true d2 (ai u0 false d1 al0))))))) fun G => by kernel_rfl
set_option maxHeartbeats 4000000 in
theorem law01_5 {T : Sy} {w : World} {l : List Value} (N : LawIn T w l) (s1 : T.ρ 5 = 0) (s2 : 0 < T.ρ 6) (hk : T.ρ 10 = 5) (z70 : ∀ j : Int, T.Φ 70 [j] = (fun j => T.Φ 60 [j]) j) (z71 : ∀ j : Int, T.Φ 71 [j] = (fun j => T.Φ 61 [j]) j) (hlk : LkOk Try.prog T [] ΛS01 (lkL [kS0, orL kB01 kB01Z70])) : Holds w l := by
  have r5 := N.r5; have r6 := N.r6
  have al0 := (AlOk.app (alK_ok (k := 5) hk (by decide)) (alB_ok N (show true = _ from by rw [decide_eq_true (by omega)]) (show false = _ from by rw [decide_eq_false (by omega)])))
  by_cases c1 : T.ρ 14 < (0 : Int)
  · have d1 : u0.den T = some [b2i true] := tr (p := T.ρ 14 < (0 : Int)) c1
    by_cases c2 : T.ρ 11 < (0 : Int)
    · have d2 : u8.den T = some [b2i true] := tr (p := T.ρ 11 < (0 : Int)) c2
      exact runS01 N hlk (ai u8 true d2 (ai u0 true d1 al0)) fun G => by kernel_rfl
    · have d2 : u8.den T = some [b2i false] := fls (p := T.ρ 11 < (0 : Int)) c2
      by_cases c3 : T.ρ 11 < T.ρ 6
      · have d3 : u18.den T = some [b2i false] := fls (p := T.ρ 6 ≤ T.ρ 11) (Int.not_le.2 c3)
        have d4 : u10.den T = some [b2i true] := tr (p := (0 : Int) ≤ T.ρ 11) (Int.not_lt.1 c2)
        have d5 : u19.den T = some [b2i true] := tr (p := T.ρ 11 < T.ρ 6) c3
        have c6 : ¬ (T.ρ 11 = T.ρ 14) := by omega
        have d6 : u12.den T = some [b2i true] := tr (p := T.ρ 11 ≠ T.ρ 14) c6
        exact runS01 N hlk (ai u12 true d6 (ai u19 true d5 (ai u10 true d4 (ai u18 false d3 (ai u8 false d2 (ai u0 true d1 al0)))))) fun G => by kernel_rfl
      · have d3 : u18.den T = some [b2i true] := tr (p := T.ρ 6 ≤ T.ρ 11) (Int.not_lt.1 c3)
        exact runS01 N hlk (ai u18 true d3 (ai u8 false d2 (ai u0 true d1 al0))) fun G => by kernel_rfl
  · have d1 : u0.den T = some [b2i false] := fls (p := T.ρ 14 < (0 : Int)) c1
    have c2 : ¬ (T.ρ 14 < T.ρ 5) := by omega
    have d2 : u1.den T = some [b2i true] := tr (p := T.ρ 5 ≤ T.ρ 14) (Int.not_lt.1 c2)
    by_cases c3 : T.ρ 14 < T.ρ 6
    · have d3 : u4.den T = some [b2i false] := fls (p := T.ρ 6 ≤ T.ρ 14) (Int.not_le.2 c3)
      have d4 : u2.den T = some [b2i true] := tr (p := (0 : Int) ≤ T.ρ 14) (Int.not_lt.1 c1)
      have d5 : u5.den T = some [b2i true] := tr (p := T.ρ 14 < T.ρ 6) c3
      by_cases c6 : T.ρ 11 < (0 : Int)
      · have d6 : u8.den T = some [b2i true] := tr (p := T.ρ 11 < (0 : Int)) c6
        have c11 : (IntKind.u8.wrap ((IntKind.u64.wrap ((T.Φ 71 [T.ρ 14]))))) = (IntKind.u8.wrap ((IntKind.u64.wrap ((T.Φ 61 [T.ρ 14]))))) := by simp only [z71]
        have d11 : u7.den T = some [b2i false] := fls (p := (IntKind.u8.wrap ((IntKind.u64.wrap ((T.Φ 71 [T.ρ 14]))))) ≠ (IntKind.u8.wrap ((IntKind.u64.wrap ((T.Φ 61 [T.ρ 14])))))) (fun hh => hh c11)
        exact runS01 N hlk (ai u7 false d11 (ai u8 true d6 (ai u5 true d5 (ai u2 true d4 (ai u4 false d3 (ai u1 true d2 (ai u0 false d1 al0))))))) fun G => by kernel_rfl
      · have d6 : u8.den T = some [b2i false] := fls (p := T.ρ 11 < (0 : Int)) c6
        by_cases c7 : T.ρ 11 < T.ρ 6
        · have d7 : u18.den T = some [b2i false] := fls (p := T.ρ 6 ≤ T.ρ 11) (Int.not_le.2 c7)
          have d8 : u10.den T = some [b2i true] := tr (p := (0 : Int) ≤ T.ρ 11) (Int.not_lt.1 c6)
          have d9 : u19.den T = some [b2i true] := tr (p := T.ρ 11 < T.ρ 6) c7
          by_cases c10 : T.ρ 11 = T.ρ 14
          · have d10 : u12.den T = some [b2i false] := fls (p := T.ρ 11 ≠ T.ρ 14) (fun hh => hh c10)
            exact runS01 N hlk (ai u12 false d10 (ai u19 true d9 (ai u10 true d8 (ai u18 false d7 (ai u8 false d6 (ai u5 true d5 (ai u2 true d4 (ai u4 false d3 (ai u1 true d2 (ai u0 false d1 al0)))))))))) fun G => by kernel_rfl
          · have d10 : u12.den T = some [b2i true] := tr (p := T.ρ 11 ≠ T.ρ 14) c10
            exact runS01 N hlk (ai u12 true d10 (ai u19 true d9 (ai u10 true d8 (ai u18 false d7 (ai u8 false d6 (ai u5 true d5 (ai u2 true d4 (ai u4 false d3 (ai u1 true d2 (ai u0 false d1 al0)))))))))) fun G => by kernel_rfl
        · have d7 : u18.den T = some [b2i true] := tr (p := T.ρ 6 ≤ T.ρ 11) (Int.not_lt.1 c7)
          have c12 : (IntKind.u8.wrap ((IntKind.u64.wrap ((T.Φ 71 [T.ρ 14]))))) = (IntKind.u8.wrap ((IntKind.u64.wrap ((T.Φ 61 [T.ρ 14]))))) := by simp only [z71]
          have d12 : u7.den T = some [b2i false] := fls (p := (IntKind.u8.wrap ((IntKind.u64.wrap ((T.Φ 71 [T.ρ 14]))))) ≠ (IntKind.u8.wrap ((IntKind.u64.wrap ((T.Φ 61 [T.ρ 14])))))) (fun hh => hh c12)
          exact runS01 N hlk (ai u7 false d12 (ai u18 true d7 (ai u8 false d6 (ai u5 true d5 (ai u2 true d4 (ai u4 false d3 (ai u1 true d2 (ai u0 false d1 al0)))))))) fun G => by kernel_rfl
    · have d3 : u4.den T = some [b2i true] := tr (p := T.ρ 6 ≤ T.ρ 14) (Int.not_lt.1 c3)
      by_cases c4 : T.ρ 11 < (0 : Int)
      · have d4 : u8.den T = some [b2i true] := tr (p := T.ρ 11 < (0 : Int)) c4
        have d8 : u2.den T = some [b2i true] := tr (p := (0 : Int) ≤ T.ρ 14) (Int.not_lt.1 c1)
        exact runS01 N hlk (ai u2 true d8 (ai u8 true d4 (ai u4 true d3 (ai u1 true d2 (ai u0 false d1 al0))))) fun G => by kernel_rfl
      · have d4 : u8.den T = some [b2i false] := fls (p := T.ρ 11 < (0 : Int)) c4
        by_cases c5 : T.ρ 11 < T.ρ 6
        · have d5 : u18.den T = some [b2i false] := fls (p := T.ρ 6 ≤ T.ρ 11) (Int.not_le.2 c5)
          have d6 : u10.den T = some [b2i true] := tr (p := (0 : Int) ≤ T.ρ 11) (Int.not_lt.1 c4)
          have d7 : u19.den T = some [b2i true] := tr (p := T.ρ 11 < T.ρ 6) c5
          by_cases c8 : T.ρ 11 = T.ρ 14
          · have d8 : u12.den T = some [b2i false] := fls (p := T.ρ 11 ≠ T.ρ 14) (fun hh => hh c8)
            have d9 : u2.den T = some [b2i true] := tr (p := (0 : Int) ≤ T.ρ 14) (Int.not_lt.1 c1)
            exact runS01 N hlk (ai u2 true d9 (ai u12 false d8 (ai u19 true d7 (ai u10 true d6 (ai u18 false d5 (ai u8 false d4 (ai u4 true d3 (ai u1 true d2 (ai u0 false d1 al0))))))))) fun G => by kernel_rfl
          · have d8 : u12.den T = some [b2i true] := tr (p := T.ρ 11 ≠ T.ρ 14) c8
            have d9 : u2.den T = some [b2i true] := tr (p := (0 : Int) ≤ T.ρ 14) (Int.not_lt.1 c1)
            exact runS01 N hlk (ai u2 true d9 (ai u12 true d8 (ai u19 true d7 (ai u10 true d6 (ai u18 false d5 (ai u8 false d4 (ai u4 true d3 (ai u1 true d2 (ai u0 false d1 al0))))))))) fun G => by kernel_rfl
        · have d5 : u18.den T = some [b2i true] := tr (p := T.ρ 6 ≤ T.ρ 11) (Int.not_lt.1 c5)
          have d9 : u2.den T = some [b2i true] := tr (p := (0 : Int) ≤ T.ρ 14) (Int.not_lt.1 c1)
          exact runS01 N hlk (ai u2 true d9 (ai u18 true d5 (ai u8 false d4 (ai u4 true d3 (ai u1 true d2 (ai u0 false d1 al0)))))) fun G => by kernel_rfl
set_option maxHeartbeats 4000000 in
theorem law01_6 {T : Sy} {w : World} {l : List Value} (N : LawIn T w l) (s1 : T.ρ 5 = 0) (s2 : 0 < T.ρ 6) (hk : T.ρ 10 = 6) (hm : ¬ (0 ≤ T.ρ 11 ∧ T.ρ 11 < T.ρ 6)) (z70 : ∀ j : Int, T.Φ 70 [j] = (fun j => T.Φ 60 [j]) j) (z71 : ∀ j : Int, T.Φ 71 [j] = (fun j => T.Φ 61 [j]) j) (hlk : LkOk Try.prog T [] ΛS01 (lkL [kS0, orL kB01 kB01Z70])) : Holds w l := by
  have r5 := N.r5; have r6 := N.r6
  have al0 := (AlOk.app (alK_ok (k := 6) hk (by decide)) (alB_ok N (show true = _ from by rw [decide_eq_true (by omega)]) (show false = _ from by rw [decide_eq_false (by omega)])))
  by_cases c1 : T.ρ 14 < (0 : Int)
  · have d1 : u0.den T = some [b2i true] := tr (p := T.ρ 14 < (0 : Int)) c1
    by_cases c2 : T.ρ 11 < (0 : Int)
    · have d2 : u8.den T = some [b2i true] := tr (p := T.ρ 11 < (0 : Int)) c2
      exact runS01 N hlk (ai u8 true d2 (ai u0 true d1 al0)) fun G => by kernel_rfl
    · have d2 : u8.den T = some [b2i false] := fls (p := T.ρ 11 < (0 : Int)) c2
      have c3 : ¬ (T.ρ 11 < T.ρ 6) := by omega
      have d3 : u18.den T = some [b2i true] := tr (p := T.ρ 6 ≤ T.ρ 11) (Int.not_lt.1 c3)
      exact runS01 N hlk (ai u18 true d3 (ai u8 false d2 (ai u0 true d1 al0))) fun G => by kernel_rfl
  · have d1 : u0.den T = some [b2i false] := fls (p := T.ρ 14 < (0 : Int)) c1
    have c2 : ¬ (T.ρ 14 < T.ρ 5) := by omega
    have d2 : u1.den T = some [b2i true] := tr (p := T.ρ 5 ≤ T.ρ 14) (Int.not_lt.1 c2)
    by_cases c3 : T.ρ 14 < T.ρ 6
    · have d3 : u4.den T = some [b2i false] := fls (p := T.ρ 6 ≤ T.ρ 14) (Int.not_le.2 c3)
      have d4 : u2.den T = some [b2i true] := tr (p := (0 : Int) ≤ T.ρ 14) (Int.not_lt.1 c1)
      have d5 : u5.den T = some [b2i true] := tr (p := T.ρ 14 < T.ρ 6) c3
      by_cases c6 : T.ρ 11 < (0 : Int)
      · have d6 : u8.den T = some [b2i true] := tr (p := T.ρ 11 < (0 : Int)) c6
        have c11 : (IntKind.u8.wrap ((IntKind.u64.wrap ((T.Φ 71 [T.ρ 14]))))) = (IntKind.u8.wrap ((IntKind.u64.wrap ((T.Φ 61 [T.ρ 14]))))) := by simp only [z71]
        have d11 : u7.den T = some [b2i false] := fls (p := (IntKind.u8.wrap ((IntKind.u64.wrap ((T.Φ 71 [T.ρ 14]))))) ≠ (IntKind.u8.wrap ((IntKind.u64.wrap ((T.Φ 61 [T.ρ 14])))))) (fun hh => hh c11)
        exact runS01 N hlk (ai u7 false d11 (ai u8 true d6 (ai u5 true d5 (ai u2 true d4 (ai u4 false d3 (ai u1 true d2 (ai u0 false d1 al0))))))) fun G => by kernel_rfl
      · have d6 : u8.den T = some [b2i false] := fls (p := T.ρ 11 < (0 : Int)) c6
        have c7 : ¬ (T.ρ 11 < T.ρ 6) := by omega
        have d7 : u18.den T = some [b2i true] := tr (p := T.ρ 6 ≤ T.ρ 11) (Int.not_lt.1 c7)
        have c12 : (IntKind.u8.wrap ((IntKind.u64.wrap ((T.Φ 71 [T.ρ 14]))))) = (IntKind.u8.wrap ((IntKind.u64.wrap ((T.Φ 61 [T.ρ 14]))))) := by simp only [z71]
        have d12 : u7.den T = some [b2i false] := fls (p := (IntKind.u8.wrap ((IntKind.u64.wrap ((T.Φ 71 [T.ρ 14]))))) ≠ (IntKind.u8.wrap ((IntKind.u64.wrap ((T.Φ 61 [T.ρ 14])))))) (fun hh => hh c12)
        exact runS01 N hlk (ai u7 false d12 (ai u18 true d7 (ai u8 false d6 (ai u5 true d5 (ai u2 true d4 (ai u4 false d3 (ai u1 true d2 (ai u0 false d1 al0)))))))) fun G => by kernel_rfl
    · have d3 : u4.den T = some [b2i true] := tr (p := T.ρ 6 ≤ T.ρ 14) (Int.not_lt.1 c3)
      by_cases c4 : T.ρ 11 < (0 : Int)
      · have d4 : u8.den T = some [b2i true] := tr (p := T.ρ 11 < (0 : Int)) c4
        have d8 : u2.den T = some [b2i true] := tr (p := (0 : Int) ≤ T.ρ 14) (Int.not_lt.1 c1)
        exact runS01 N hlk (ai u2 true d8 (ai u8 true d4 (ai u4 true d3 (ai u1 true d2 (ai u0 false d1 al0))))) fun G => by kernel_rfl
      · have d4 : u8.den T = some [b2i false] := fls (p := T.ρ 11 < (0 : Int)) c4
        have c5 : ¬ (T.ρ 11 < T.ρ 6) := by omega
        have d5 : u18.den T = some [b2i true] := tr (p := T.ρ 6 ≤ T.ρ 11) (Int.not_lt.1 c5)
        have d9 : u2.den T = some [b2i true] := tr (p := (0 : Int) ≤ T.ρ 14) (Int.not_lt.1 c1)
        exact runS01 N hlk (ai u2 true d9 (ai u18 true d5 (ai u8 false d4 (ai u4 true d3 (ai u1 true d2 (ai u0 false d1 al0)))))) fun G => by kernel_rfl
set_option maxHeartbeats 4000000 in
theorem law01_6pu {T : Sy} {w : World} {l : List Value} (N : LawIn T w l) (s1 : T.ρ 5 = 0) (s2 : 0 < T.ρ 6) (hk : T.ρ 10 = 6) (hm : (0 ≤ T.ρ 11 ∧ T.ρ 11 < T.ρ 6)) (z70 : ∀ j : Int, T.Φ 70 [j] = (fun j => T.Φ 60 [j]) j) (z71 : ∀ j : Int, T.Φ 71 [j] = (fun j => ifE j (T.ρ 11) (IntKind.u8.wrap (T.ρ 12)) (T.Φ 61 [j])) j) (hlk : LkOk Try.prog T [] ΛS01 (lkL [kS0, kB01pu])) : Holds w l := by
  have r5 := N.r5; have r6 := N.r6
  have al0 := (AlOk.app (alK_ok (k := 6) hk (by decide)) (alB_ok N (show true = _ from by rw [decide_eq_true (by omega)]) (show false = _ from by rw [decide_eq_false (by omega)])))
  by_cases c1 : T.ρ 14 < (0 : Int)
  · have d1 : u0.den T = some [b2i true] := tr (p := T.ρ 14 < (0 : Int)) c1
    have c2 : ¬ (T.ρ 11 < (0 : Int)) := by omega
    have d2 : u8.den T = some [b2i false] := fls (p := T.ρ 11 < (0 : Int)) c2
    have c3 : T.ρ 11 < T.ρ 6 := by omega
    have d3 : u18.den T = some [b2i false] := fls (p := T.ρ 6 ≤ T.ρ 11) (Int.not_le.2 c3)
    have d4 : u10.den T = some [b2i true] := tr (p := (0 : Int) ≤ T.ρ 11) (Int.not_lt.1 c2)
    have d5 : u19.den T = some [b2i true] := tr (p := T.ρ 11 < T.ρ 6) c3
    have c6 : ¬ (T.ρ 11 = T.ρ 14) := by omega
    have d6 : u12.den T = some [b2i true] := tr (p := T.ρ 11 ≠ T.ρ 14) c6
    exact runS01 N hlk (ai u12 true d6 (ai u19 true d5 (ai u10 true d4 (ai u18 false d3 (ai u8 false d2 (ai u0 true d1 al0)))))) fun G => by kernel_rfl
  · have d1 : u0.den T = some [b2i false] := fls (p := T.ρ 14 < (0 : Int)) c1
    have c2 : ¬ (T.ρ 14 < T.ρ 5) := by omega
    have d2 : u1.den T = some [b2i true] := tr (p := T.ρ 5 ≤ T.ρ 14) (Int.not_lt.1 c2)
    by_cases c3 : T.ρ 14 < T.ρ 6
    · have d3 : u4.den T = some [b2i false] := fls (p := T.ρ 6 ≤ T.ρ 14) (Int.not_le.2 c3)
      have d4 : u2.den T = some [b2i true] := tr (p := (0 : Int) ≤ T.ρ 14) (Int.not_lt.1 c1)
      have d5 : u5.den T = some [b2i true] := tr (p := T.ρ 14 < T.ρ 6) c3
      have c6 : ¬ (T.ρ 11 < (0 : Int)) := by omega
      have d6 : u8.den T = some [b2i false] := fls (p := T.ρ 11 < (0 : Int)) c6
      have c7 : T.ρ 11 < T.ρ 6 := by omega
      have d7 : u18.den T = some [b2i false] := fls (p := T.ρ 6 ≤ T.ρ 11) (Int.not_le.2 c7)
      have d8 : u10.den T = some [b2i true] := tr (p := (0 : Int) ≤ T.ρ 11) (Int.not_lt.1 c6)
      have d9 : u19.den T = some [b2i true] := tr (p := T.ρ 11 < T.ρ 6) c7
      by_cases c10 : T.ρ 11 = T.ρ 14
      · have d10 : u12.den T = some [b2i false] := fls (p := T.ρ 11 ≠ T.ρ 14) (fun hh => hh c10)
        exact runS01 N hlk (ai u12 false d10 (ai u19 true d9 (ai u10 true d8 (ai u18 false d7 (ai u8 false d6 (ai u5 true d5 (ai u2 true d4 (ai u4 false d3 (ai u1 true d2 (ai u0 false d1 al0)))))))))) fun G => by kernel_rfl
      · have d10 : u12.den T = some [b2i true] := tr (p := T.ρ 11 ≠ T.ρ 14) c10
        by_cases c11 : T.ρ 14 = T.ρ 11
        · have d11 : u13.den T = some [b2i true] := tr (p := T.ρ 14 = T.ρ 11) c11
          have c12 : (IntKind.u8.wrap ((IntKind.u64.wrap ((IntKind.u8.wrap (T.ρ 12)))))) = (IntKind.u8.wrap ((IntKind.u64.wrap ((T.Φ 61 [T.ρ 14]))))) := by omega
          have d12 : u20.den T = some [b2i false] := fls (p := (IntKind.u8.wrap ((IntKind.u64.wrap ((IntKind.u8.wrap (T.ρ 12)))))) ≠ (IntKind.u8.wrap ((IntKind.u64.wrap ((T.Φ 61 [T.ρ 14])))))) (fun hh => hh c12)
          exact runS01 N hlk (ai u20 false d12 (ai u13 true d11 (ai u12 true d10 (ai u19 true d9 (ai u10 true d8 (ai u18 false d7 (ai u8 false d6 (ai u5 true d5 (ai u2 true d4 (ai u4 false d3 (ai u1 true d2 (ai u0 false d1 al0)))))))))))) fun G => by kernel_rfl
        · have d11 : u13.den T = some [b2i false] := fls (p := T.ρ 14 = T.ρ 11) c11
          exact runS01 N hlk (ai u13 false d11 (ai u12 true d10 (ai u19 true d9 (ai u10 true d8 (ai u18 false d7 (ai u8 false d6 (ai u5 true d5 (ai u2 true d4 (ai u4 false d3 (ai u1 true d2 (ai u0 false d1 al0))))))))))) fun G => by kernel_rfl
    · have d3 : u4.den T = some [b2i true] := tr (p := T.ρ 6 ≤ T.ρ 14) (Int.not_lt.1 c3)
      have c4 : ¬ (T.ρ 11 < (0 : Int)) := by omega
      have d4 : u8.den T = some [b2i false] := fls (p := T.ρ 11 < (0 : Int)) c4
      have c5 : T.ρ 11 < T.ρ 6 := by omega
      have d5 : u18.den T = some [b2i false] := fls (p := T.ρ 6 ≤ T.ρ 11) (Int.not_le.2 c5)
      have d6 : u10.den T = some [b2i true] := tr (p := (0 : Int) ≤ T.ρ 11) (Int.not_lt.1 c4)
      have d7 : u19.den T = some [b2i true] := tr (p := T.ρ 11 < T.ρ 6) c5
      by_cases c8 : T.ρ 11 = T.ρ 14
      · have d8 : u12.den T = some [b2i false] := fls (p := T.ρ 11 ≠ T.ρ 14) (fun hh => hh c8)
        have d9 : u2.den T = some [b2i true] := tr (p := (0 : Int) ≤ T.ρ 14) (Int.not_lt.1 c1)
        exact runS01 N hlk (ai u2 true d9 (ai u12 false d8 (ai u19 true d7 (ai u10 true d6 (ai u18 false d5 (ai u8 false d4 (ai u4 true d3 (ai u1 true d2 (ai u0 false d1 al0))))))))) fun G => by kernel_rfl
      · have d8 : u12.den T = some [b2i true] := tr (p := T.ρ 11 ≠ T.ρ 14) c8
        have d9 : u2.den T = some [b2i true] := tr (p := (0 : Int) ≤ T.ρ 14) (Int.not_lt.1 c1)
        exact runS01 N hlk (ai u2 true d9 (ai u12 true d8 (ai u19 true d7 (ai u10 true d6 (ai u18 false d5 (ai u8 false d4 (ai u4 true d3 (ai u1 true d2 (ai u0 false d1 al0))))))))) fun G => by kernel_rfl
set_option maxHeartbeats 4000000 in
theorem law01_7 {T : Sy} {w : World} {l : List Value} (N : LawIn T w l) (s1 : T.ρ 5 = 0) (s2 : 0 < T.ρ 6) (hk : 7 ≤ T.ρ 10 ∧ T.ρ 10 < 256) (z70 : ∀ j : Int, T.Φ 70 [j] = (fun j => T.Φ 60 [j]) j) (z71 : ∀ j : Int, T.Φ 71 [j] = (fun j => T.Φ 61 [j]) j) (hlk : LkOk Try.prog T [] ΛS01 (lkL [kS0, orL kB01 kB01Z70])) : Holds w l := by
  have r5 := N.r5; have r6 := N.r6
  have al0 := (AlOk.app (alK7_ok hk.1 hk.2) (alB_ok N (show true = _ from by rw [decide_eq_true (by omega)]) (show false = _ from by rw [decide_eq_false (by omega)])))
  by_cases c1 : T.ρ 14 < (0 : Int)
  · have d1 : u0.den T = some [b2i true] := tr (p := T.ρ 14 < (0 : Int)) c1
    exact runS01 N hlk (ai u0 true d1 al0) fun G => by kernel_rfl
  · have d1 : u0.den T = some [b2i false] := fls (p := T.ρ 14 < (0 : Int)) c1
    have c2 : ¬ (T.ρ 14 < T.ρ 5) := by omega
    have d2 : u1.den T = some [b2i true] := tr (p := T.ρ 5 ≤ T.ρ 14) (Int.not_lt.1 c2)
    by_cases c3 : T.ρ 14 < T.ρ 6
    · have d3 : u4.den T = some [b2i false] := fls (p := T.ρ 6 ≤ T.ρ 14) (Int.not_le.2 c3)
      have d4 : u2.den T = some [b2i true] := tr (p := (0 : Int) ≤ T.ρ 14) (Int.not_lt.1 c1)
      have d5 : u5.den T = some [b2i true] := tr (p := T.ρ 14 < T.ρ 6) c3
      have c10 : (IntKind.u8.wrap ((IntKind.u64.wrap ((T.Φ 71 [T.ρ 14]))))) = (IntKind.u8.wrap ((IntKind.u64.wrap ((T.Φ 61 [T.ρ 14]))))) := by simp only [z71]
      have d10 : u7.den T = some [b2i false] := fls (p := (IntKind.u8.wrap ((IntKind.u64.wrap ((T.Φ 71 [T.ρ 14]))))) ≠ (IntKind.u8.wrap ((IntKind.u64.wrap ((T.Φ 61 [T.ρ 14])))))) (fun hh => hh c10)
      exact runS01 N hlk (ai u7 false d10 (ai u5 true d5 (ai u2 true d4 (ai u4 false d3 (ai u1 true d2 (ai u0 false d1 al0)))))) fun G => by kernel_rfl
    · have d3 : u4.den T = some [b2i true] := tr (p := T.ρ 6 ≤ T.ρ 14) (Int.not_lt.1 c3)
      have d7 : u2.den T = some [b2i true] := tr (p := (0 : Int) ≤ T.ρ 14) (Int.not_lt.1 c1)
      exact runS01 N hlk (ai u2 true d7 (ai u4 true d3 (ai u1 true d2 (ai u0 false d1 al0)))) fun G => by kernel_rfl
end Go.Proofs.Ytokcoabcflpbbaa
