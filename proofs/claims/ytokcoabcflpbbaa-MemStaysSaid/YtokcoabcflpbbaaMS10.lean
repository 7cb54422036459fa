/-
  MemStays: its ways, by shape and kind. Conditions: those each says.
-/
import Derived.Test.YtokcoabcflpbbaaMS1
namespace Go.Proofs.Ytokcoabcflpbbaa
open Go.Ev Go.RowKit
set_option maxRecDepth 100000
set_option linter.unusedVariables false
set_option maxHeartbeats 4000000 in
theorem law10_0 {T : Sy} {w : World} {l : List Value} (N : LawIn T w l) (s1 : 0 < T.ρ 5) (s2 : T.ρ 6 = 0) (hk : T.ρ 10 = 0) (z70 : ∀ j : Int, T.Φ 70 [j] = (fun j => T.Φ 60 [j]) j) (z71 : ∀ j : Int, T.Φ 71 [j] = (fun j => T.Φ 61 [j]) j) (hlk : LkOk Try.prog T [] ΛS10 (lkL [kS0, orL kW10 kW10Z70])) : Holds w l := by
  have r5 := N.r5; have r6 := N.r6
  have al0 := (AlOk.app (alK_ok (k := 0) hk (by decide)) (alB_ok N (show false = _ from by rw [decide_eq_false (by omega)]) (show true = _ from by rw [decide_eq_true (by omega)])))
  by_cases c1 : T.ρ 14 < (0 : Int)
  · have d1 : u0.den T = some [b2i true] := tr (p := T.ρ 14 < (0 : Int)) c1
    exact runS10 N hlk (ai u0 true d1 al0) fun G => by kernel_rfl
  · have d1 : u0.den T = some [b2i false] := fls (p := T.ρ 14 < (0 : Int)) c1
    by_cases c2 : T.ρ 14 < T.ρ 5
    · have d2 : u1.den T = some [b2i false] := fls (p := T.ρ 5 ≤ T.ρ 14) (Int.not_le.2 c2)
      have d3 : u2.den T = some [b2i true] := tr (p := (0 : Int) ≤ T.ρ 14) (Int.not_lt.1 c1)
      have d4 : u3.den T = some [b2i true] := tr (p := T.ρ 14 < T.ρ 5) c2
      have c5 : ¬ (T.ρ 14 < T.ρ 6) := by omega
      have d5 : u4.den T = some [b2i true] := tr (p := T.ρ 6 ≤ T.ρ 14) (Int.not_lt.1 c5)
      have c10 : (T.Φ 70 [T.ρ 14]) = (T.Φ 60 [T.ρ 14]) := by simp only [z70]
      have d10 : u6.den T = some [b2i false] := fls (p := (T.Φ 70 [T.ρ 14]) ≠ (T.Φ 60 [T.ρ 14])) (fun hh => hh c10)
      exact runS10 N hlk (ai u6 false d10 (ai u4 true d5 (ai u3 true d4 (ai u2 true d3 (ai u1 false d2 (ai u0 false d1 al0)))))) fun G => by kernel_rfl
    · have d2 : u1.den T = some [b2i true] := tr (p := T.ρ 5 ≤ T.ρ 14) (Int.not_lt.1 c2)
      have c3 : ¬ (T.ρ 14 < T.ρ 6) := by omega
      have d3 : u4.den T = some [b2i true] := tr (p := T.ρ 6 ≤ T.ρ 14) (Int.not_lt.1 c3)
      have d7 : u2.den T = some [b2i true] := tr (p := (0 : Int) ≤ T.ρ 14) (Int.not_lt.1 c1)
      exact runS10 N hlk (ai u2 true d7 (ai u4 true d3 (ai u1 true d2 (ai u0 false d1 al0)))) fun G => by kernel_rfl
set_option maxHeartbeats 4000000 in
theorem law10_1 {T : Sy} {w : World} {l : List Value} (N : LawIn T w l) (s1 : 0 < T.ρ 5) (s2 : T.ρ 6 = 0) (hk : T.ρ 10 = 1) (z70 : ∀ j : Int, T.Φ 70 [j] = (fun j => T.Φ 60 [j]) j) (z71 : ∀ j : Int, T.Φ 71 [j] = (fun j => T.Φ 61 [j]) j) (hlk : LkOk Try.prog T [] ΛS10 (lkL [kS0, orL kW10 kW10Z70])) : Holds w l := by
  have r5 := N.r5; have r6 := N.r6
  have al0 := (AlOk.app (alK_ok (k := 1) hk (by decide)) (alB_ok N (show false = _ from by rw [decide_eq_false (by omega)]) (show true = _ from by rw [decide_eq_true (by omega)])))
  by_cases c1 : T.ρ 14 < (0 : Int)
  · have d1 : u0.den T = some [b2i true] := tr (p := T.ρ 14 < (0 : Int)) c1
    by_cases c2 : T.ρ 11 < (0 : Int)
    · have d2 : u8.den T = some [b2i true] := tr (p := T.ρ 11 < (0 : Int)) c2
      exact runS10 N hlk (ai u8 true d2 (ai u0 true d1 al0)) fun G => by kernel_rfl
    · have d2 : u8.den T = some [b2i false] := fls (p := T.ρ 11 < (0 : Int)) c2
      by_cases c3 : T.ρ 11 < T.ρ 5
      · have d3 : u9.den T = some [b2i false] := fls (p := T.ρ 5 ≤ T.ρ 11) (Int.not_le.2 c3)
        have d4 : u10.den T = some [b2i true] := tr (p := (0 : Int) ≤ T.ρ 11) (Int.not_lt.1 c2)
        have d5 : u11.den T = some [b2i true] := tr (p := T.ρ 11 < T.ρ 5) c3
        have c6 : ¬ (T.ρ 11 = T.ρ 14) := by omega
        have d6 : u12.den T = some [b2i true] := tr (p := T.ρ 11 ≠ T.ρ 14) c6
        exact runS10 N hlk (ai u12 true d6 (ai u11 true d5 (ai u10 true d4 (ai u9 false d3 (ai u8 false d2 (ai u0 true d1 al0)))))) fun G => by kernel_rfl
      · have d3 : u9.den T = some [b2i true] := tr (p := T.ρ 5 ≤ T.ρ 11) (Int.not_lt.1 c3)
        exact runS10 N hlk (ai u9 true d3 (ai u8 false d2 (ai u0 true d1 al0))) fun G => by kernel_rfl
  · have d1 : u0.den T = some [b2i false] := fls (p := T.ρ 14 < (0 : Int)) c1
    by_cases c2 : T.ρ 14 < T.ρ 5
    · have d2 : u1.den T = some [b2i false] := fls (p := T.ρ 5 ≤ T.ρ 14) (Int.not_le.2 c2)
      have d3 : u2.den T = some [b2i true] := tr (p := (0 : Int) ≤ T.ρ 14) (Int.not_lt.1 c1)
      have d4 : u3.den T = some [b2i true] := tr (p := T.ρ 14 < T.ρ 5) c2
      have c5 : ¬ (T.ρ 14 < T.ρ 6) := by omega
      have d5 : u4.den T = some [b2i true] := tr (p := T.ρ 6 ≤ T.ρ 14) (Int.not_lt.1 c5)
      by_cases c6 : T.ρ 11 < (0 : Int)
      · have d6 : u8.den T = some [b2i true] := tr (p := T.ρ 11 < (0 : Int)) c6
        have c11 : (T.Φ 70 [T.ρ 14]) = (T.Φ 60 [T.ρ 14]) := by simp only [z70]
        have d11 : u6.den T = some [b2i false] := fls (p := (T.Φ 70 [T.ρ 14]) ≠ (T.Φ 60 [T.ρ 14])) (fun hh => hh c11)
        exact runS10 N hlk (ai u6 false d11 (ai u8 true d6 (ai u4 true d5 (ai u3 true d4 (ai u2 true d3 (ai u1 false d2 (ai u0 false d1 al0))))))) fun G => by kernel_rfl
      · have d6 : u8.den T = some [b2i false] := fls (p := T.ρ 11 < (0 : Int)) c6
        by_cases c7 : T.ρ 11 < T.ρ 5
        · have d7 : u9.den T = some [b2i false] := fls (p := T.ρ 5 ≤ T.ρ 11) (Int.not_le.2 c7)
          have d8 : u10.den T = some [b2i true] := tr (p := (0 : Int) ≤ T.ρ 11) (Int.not_lt.1 c6)
          have d9 : u11.den T = some [b2i true] := tr (p := T.ρ 11 < T.ρ 5) c7
          by_cases c10 : T.ρ 11 = T.ρ 14
          · have d10 : u12.den T = some [b2i false] := fls (p := T.ρ 11 ≠ T.ρ 14) (fun hh => hh c10)
            exact runS10 N hlk (ai u12 false d10 (ai u11 true d9 (ai u10 true d8 (ai u9 false d7 (ai u8 false d6 (ai u4 true d5 (ai u3 true d4 (ai u2 true d3 (ai u1 false d2 (ai u0 false d1 al0)))))))))) fun G => by kernel_rfl
          · have d10 : u12.den T = some [b2i true] := tr (p := T.ρ 11 ≠ T.ρ 14) c10
            exact runS10 N hlk (ai u12 true d10 (ai u11 true d9 (ai u10 true d8 (ai u9 false d7 (ai u8 false d6 (ai u4 true d5 (ai u3 true d4 (ai u2 true d3 (ai u1 false d2 (ai u0 false d1 al0)))))))))) fun G => by kernel_rfl
        · have d7 : u9.den T = some [b2i true] := tr (p := T.ρ 5 ≤ T.ρ 11) (Int.not_lt.1 c7)
          have c12 : (T.Φ 70 [T.ρ 14]) = (T.Φ 60 [T.ρ 14]) := by simp only [z70]
          have d12 : u6.den T = some [b2i false] := fls (p := (T.Φ 70 [T.ρ 14]) ≠ (T.Φ 60 [T.ρ 14])) (fun hh => hh c12)
          exact runS10 N hlk (ai u6 false d12 (ai u9 true d7 (ai u8 false d6 (ai u4 true d5 (ai u3 true d4 (ai u2 true d3 (ai u1 false d2 (ai u0 false d1 al0)))))))) fun G => by kernel_rfl
    · have d2 : u1.den T = some [b2i true] := tr (p := T.ρ 5 ≤ T.ρ 14) (Int.not_lt.1 c2)
      have c3 : ¬ (T.ρ 14 < T.ρ 6) := by omega
      have d3 : u4.den T = some [b2i true] := tr (p := T.ρ 6 ≤ T.ρ 14) (Int.not_lt.1 c3)
      by_cases c4 : T.ρ 11 < (0 : Int)
      · have d4 : u8.den T = some [b2i true] := tr (p := T.ρ 11 < (0 : Int)) c4
        have d8 : u2.den T = some [b2i true] := tr (p := (0 : Int) ≤ T.ρ 14) (Int.not_lt.1 c1)
        exact runS10 N hlk (ai u2 true d8 (ai u8 true d4 (ai u4 true d3 (ai u1 true d2 (ai u0 false d1 al0))))) fun G => by kernel_rfl
      · have d4 : u8.den T = some [b2i false] := fls (p := T.ρ 11 < (0 : Int)) c4
        by_cases c5 : T.ρ 11 < T.ρ 5
        · have d5 : u9.den T = some [b2i false] := fls (p := T.ρ 5 ≤ T.ρ 11) (Int.not_le.2 c5)
          have d6 : u10.den T = some [b2i true] := tr (p := (0 : Int) ≤ T.ρ 11) (Int.not_lt.1 c4)
          have d7 : u11.den T = some [b2i true] := tr (p := T.ρ 11 < T.ρ 5) c5
          by_cases c8 : T.ρ 11 = T.ρ 14
          · have d8 : u12.den T = some [b2i false] := fls (p := T.ρ 11 ≠ T.ρ 14) (fun hh => hh c8)
            have d9 : u2.den T = some [b2i true] := tr (p := (0 : Int) ≤ T.ρ 14) (Int.not_lt.1 c1)
            exact runS10 N hlk (ai u2 true d9 (ai u12 false d8 (ai u11 true d7 (ai u10 true d6 (ai u9 false d5 (ai u8 false d4 (ai u4 true d3 (ai u1 true d2 (ai u0 false d1 al0))))))))) fun G => by kernel_rfl
          · have d8 : u12.den T = some [b2i true] := tr (p := T.ρ 11 ≠ T.ρ 14) c8
            have d9 : u2.den T = some [b2i true] := tr (p := (0 : Int) ≤ T.ρ 14) (Int.not_lt.1 c1)
            exact runS10 N hlk (ai u2 true d9 (ai u12 true d8 (ai u11 true d7 (ai u10 true d6 (ai u9 false d5 (ai u8 false d4 (ai u4 true d3 (ai u1 true d2 (ai u0 false d1 al0))))))))) fun G => by kernel_rfl
        · have d5 : u9.den T = some [b2i true] := tr (p := T.ρ 5 ≤ T.ρ 11) (Int.not_lt.1 c5)
          have d9 : u2.den T = some [b2i true] := tr (p := (0 : Int) ≤ T.ρ 14) (Int.not_lt.1 c1)
          exact runS10 N hlk (ai u2 true d9 (ai u9 true d5 (ai u8 false d4 (ai u4 true d3 (ai u1 true d2 (ai u0 false d1 al0)))))) fun G => by kernel_rfl
set_option maxHeartbeats 4000000 in
theorem law10_2 {T : Sy} {w : World} {l : List Value} (N : LawIn T w l) (s1 : 0 < T.ρ 5) (s2 : T.ρ 6 = 0) (hk : T.ρ 10 = 2) (hm : ¬ (0 ≤ T.ρ 11 ∧ T.ρ 11 < T.ρ 5)) (z70 : ∀ j : Int, T.Φ 70 [j] = (fun j => T.Φ 60 [j]) j) (z71 : ∀ j : Int, T.Φ 71 [j] = (fun j => T.Φ 61 [j]) j) (hlk : LkOk Try.prog T [] ΛS10 (lkL [kS0, orL kW10 kW10Z70])) : Holds w l := by
  have r5 := N.r5; have r6 := N.r6
  have al0 := (AlOk.app (alK_ok (k := 2) hk (by decide)) (alB_ok N (show false = _ from by rw [decide_eq_false (by omega)]) (show true = _ from by rw [decide_eq_true (by omega)])))
  by_cases c1 : T.ρ 14 < (0 : Int)
  · have d1 : u0.den T = some [b2i true] := tr (p := T.ρ 14 < (0 : Int)) c1
    by_cases c2 : T.ρ 11 < (0 : Int)
    · have d2 : u8.den T = some [b2i true] := tr (p := T.ρ 11 < (0 : Int)) c2
      exact runS10 N hlk (ai u8 true d2 (ai u0 true d1 al0)) fun G => by kernel_rfl
    · have d2 : u8.den T = some [b2i false] := fls (p := T.ρ 11 < (0 : Int)) c2
      have c3 : ¬ (T.ρ 11 < T.ρ 5) := by omega
      have d3 : u9.den T = some [b2i true] := tr (p := T.ρ 5 ≤ T.ρ 11) (Int.not_lt.1 c3)
      exact runS10 N hlk (ai u9 true d3 (ai u8 false d2 (ai u0 true d1 al0))) fun G => by kernel_rfl
  · have d1 : u0.den T = some [b2i false] := fls (p := T.ρ 14 < (0 : Int)) c1
    by_cases c2 : T.ρ 14 < T.ρ 5
    · have d2 : u1.den T = some [b2i false] := fls (p := T.ρ 5 ≤ T.ρ 14) (Int.not_le.2 c2)
      have d3 : u2.den T = some [b2i true] := tr (p := (0 : Int) ≤ T.ρ 14) (Int.not_lt.1 c1)
      have d4 : u3.den T = some [b2i true] := tr (p := T.ρ 14 < T.ρ 5) c2
      have c5 : ¬ (T.ρ 14 < T.ρ 6) := by omega
      have d5 : u4.den T = some [b2i true] := tr (p := T.ρ 6 ≤ T.ρ 14) (Int.not_lt.1 c5)
      by_cases c6 : T.ρ 11 < (0 : Int)
      · have d6 : u8.den T = some [b2i true] := tr (p := T.ρ 11 < (0 : Int)) c6
        have c11 : (T.Φ 70 [T.ρ 14]) = (T.Φ 60 [T.ρ 14]) := by simp only [z70]
        have d11 : u6.den T = some [b2i false] := fls (p := (T.Φ 70 [T.ρ 14]) ≠ (T.Φ 60 [T.ρ 14])) (fun hh => hh c11)
        exact runS10 N hlk (ai u6 false d11 (ai u8 true d6 (ai u4 true d5 (ai u3 true d4 (ai u2 true d3 (ai u1 false d2 (ai u0 false d1 al0))))))) fun G => by kernel_rfl
      · have d6 : u8.den T = some [b2i false] := fls (p := T.ρ 11 < (0 : Int)) c6
        have c7 : ¬ (T.ρ 11 < T.ρ 5) := by omega
        have d7 : u9.den T = some [b2i true] := tr (p := T.ρ 5 ≤ T.ρ 11) (Int.not_lt.1 c7)
        have c12 : (T.Φ 70 [T.ρ 14]) = (T.Φ 60 [T.ρ 14]) := by simp only [z70]
        have d12 : u6.den T = some [b2i false] := fls (p := (T.Φ 70 [T.ρ 14]) ≠ (T.Φ 60 [T.ρ 14])) (fun hh => hh c12)
        exact runS10 N hlk (ai u6 false d12 (ai u9 true d7 (ai u8 false d6 (ai u4 true d5 (ai u3 true d4 (ai u2 true d3 (ai u1 false d2 (ai u0 false d1 al0)))))))) fun G => by kernel_rfl
    · have d2 : u1.den T = some [b2i true] := tr (p := T.ρ 5 ≤ T.ρ 14) (Int.not_lt.1 c2)
      have c3 : ¬ (T.ρ 14 < T.ρ 6) := by omega
      have d3 : u4.den T = some [b2i true] := tr (p := T.ρ 6 ≤ T.ρ 14) (Int.not_lt.1 c3)
      by_cases c4 : T.ρ 11 < (0 : Int)
      · have d4 : u8.den T = some [b2i true] := tr (p := T.ρ 11 < (0 : Int)) c4
        have d8 : u2.den T = some [b2i true] := tr (p := (0 : Int) ≤ T.ρ 14) (Int.not_lt.1 c1)
        exact runS10 N hlk (ai u2 true d8 (ai u8 true d4 (ai u4 true d3 (ai u1 true d2 (ai u0 false d1 al0))))) fun G => by kernel_rfl
      · have d4 : u8.den T = some [b2i false] := fls (p := T.ρ 11 < (0 : Int)) c4
        have c5 : ¬ (T.ρ 11 < T.ρ 5) := by omega
        have d5 : u9.den T = some [b2i true] := tr (p := T.ρ 5 ≤ T.ρ 11) (Int.not_lt.1 c5)
        have d9 : u2.den T = some [b2i true] := tr (p := (0 : Int) ≤ T.ρ 14) (Int.not_lt.1 c1)
        exact runS10 N hlk (ai u2 true d9 (ai u9 true d5 (ai u8 false d4 (ai u4 true d3 (ai u1 true d2 (ai u0 false d1 al0)))))) fun G => by kernel_rfl
set_option maxHeartbeats 4000000 in
theorem law10_2st {T : Sy} {w : World} {l : List Value} (N : LawIn T w l) (s1 : 0 < T.ρ 5) (s2 : T.ρ 6 = 0) (hk : T.ρ 10 = 2) (hm : (0 ≤ T.ρ 11 ∧ T.ρ 11 < T.ρ 5)) (z70 : ∀ j : Int, T.Φ 70 [j] = (fun j => ifE j (T.ρ 11) (T.ρ 12) (T.Φ 60 [j])) j) (z71 : ∀ j : Int, T.Φ 71 [j] = (fun j => T.Φ 61 [j]) j) (hlk : LkOk Try.prog T [] ΛS10 (lkL [kS0, kW10st])) : Holds w l := by
  have r5 := N.r5; have r6 := N.r6
  have al0 := (AlOk.app (alK_ok (k := 2) hk (by decide)) (alB_ok N (show false = _ from by rw [decide_eq_false (by omega)]) (show true = _ from by rw [decide_eq_true (by omega)])))
  by_cases c1 : T.ρ 14 < (0 : Int)
  · have d1 : u0.den T = some [b2i true] := tr (p := T.ρ 14 < (0 : Int)) c1
    have c2 : ¬ (T.ρ 11 < (0 : Int)) := by omega
    have d2 : u8.den T = some [b2i false] := fls (p := T.ρ 11 < (0 : Int)) c2
    have c3 : T.ρ 11 < T.ρ 5 := by omega
    have d3 : u9.den T = some [b2i false] := fls (p := T.ρ 5 ≤ T.ρ 11) (Int.not_le.2 c3)
    have d4 : u10.den T = some [b2i true] := tr (p := (0 : Int) ≤ T.ρ 11) (Int.not_lt.1 c2)
    have d5 : u11.den T = some [b2i true] := tr (p := T.ρ 11 < T.ρ 5) c3
    have c6 : ¬ (T.ρ 11 = T.ρ 14) := by omega
    have d6 : u12.den T = some [b2i true] := tr (p := T.ρ 11 ≠ T.ρ 14) c6
    exact runS10 N hlk (ai u12 true d6 (ai u11 true d5 (ai u10 true d4 (ai u9 false d3 (ai u8 false d2 (ai u0 true d1 al0)))))) fun G => by kernel_rfl
  · have d1 : u0.den T = some [b2i false] := fls (p := T.ρ 14 < (0 : Int)) c1
    by_cases c2 : T.ρ 14 < T.ρ 5
    · have d2 : u1.den T = some [b2i false] := fls (p := T.ρ 5 ≤ T.ρ 14) (Int.not_le.2 c2)
      have d3 : u2.den T = some [b2i true] := tr (p := (0 : Int) ≤ T.ρ 14) (Int.not_lt.1 c1)
      have d4 : u3.den T = some [b2i true] := tr (p := T.ρ 14 < T.ρ 5) c2
      have c5 : ¬ (T.ρ 14 < T.ρ 6) := by omega
      have d5 : u4.den T = some [b2i true] := tr (p := T.ρ 6 ≤ T.ρ 14) (Int.not_lt.1 c5)
      have c6 : ¬ (T.ρ 11 < (0 : Int)) := by omega
      have d6 : u8.den T = some [b2i false] := fls (p := T.ρ 11 < (0 : Int)) c6
      have c7 : T.ρ 11 < T.ρ 5 := by omega
      have d7 : u9.den T = some [b2i false] := fls (p := T.ρ 5 ≤ T.ρ 11) (Int.not_le.2 c7)
      have d8 : u10.den T = some [b2i true] := tr (p := (0 : Int) ≤ T.ρ 11) (Int.not_lt.1 c6)
      have d9 : u11.den T = some [b2i true] := tr (p := T.ρ 11 < T.ρ 5) c7
      by_cases c10 : T.ρ 11 = T.ρ 14
      · have d10 : u12.den T = some [b2i false] := fls (p := T.ρ 11 ≠ T.ρ 14) (fun hh => hh c10)
        exact runS10 N hlk (ai u12 false d10 (ai u11 true d9 (ai u10 true d8 (ai u9 false d7 (ai u8 false d6 (ai u4 true d5 (ai u3 true d4 (ai u2 true d3 (ai u1 false d2 (ai u0 false d1 al0)))))))))) fun G => by kernel_rfl
      · have d10 : u12.den T = some [b2i true] := tr (p := T.ρ 11 ≠ T.ρ 14) c10
        by_cases c11 : T.ρ 14 = T.ρ 11
        · have d11 : u13.den T = some [b2i true] := tr (p := T.ρ 14 = T.ρ 11) c11
          have c12 : T.ρ 12 = (T.Φ 60 [T.ρ 14]) := by omega
          have d12 : u14.den T = some [b2i false] := fls (p := T.ρ 12 ≠ (T.Φ 60 [T.ρ 14])) (fun hh => hh c12)
          exact runS10 N hlk (ai u14 false d12 (ai u13 true d11 (ai u12 true d10 (ai u11 true d9 (ai u10 true d8 (ai u9 false d7 (ai u8 false d6 (ai u4 true d5 (ai u3 true d4 (ai u2 true d3 (ai u1 false d2 (ai u0 false d1 al0)))))))))))) fun G => by kernel_rfl
        · have d11 : u13.den T = some [b2i false] := fls (p := T.ρ 14 = T.ρ 11) c11
          exact runS10 N hlk (ai u13 false d11 (ai u12 true d10 (ai u11 true d9 (ai u10 true d8 (ai u9 false d7 (ai u8 false d6 (ai u4 true d5 (ai u3 true d4 (ai u2 true d3 (ai u1 false d2 (ai u0 false d1 al0))))))))))) fun G => by kernel_rfl
    · have d2 : u1.den T = some [b2i true] := tr (p := T.ρ 5 ≤ T.ρ 14) (Int.not_lt.1 c2)
      have c3 : ¬ (T.ρ 14 < T.ρ 6) := by omega
      have d3 : u4.den T = some [b2i true] := tr (p := T.ρ 6 ≤ T.ρ 14) (Int.not_lt.1 c3)
      have c4 : ¬ (T.ρ 11 < (0 : Int)) := by omega
      have d4 : u8.den T = some [b2i false] := fls (p := T.ρ 11 < (0 : Int)) c4
      have c5 : T.ρ 11 < T.ρ 5 := by omega
      have d5 : u9.den T = some [b2i false] := fls (p := T.ρ 5 ≤ T.ρ 11) (Int.not_le.2 c5)
      have d6 : u10.den T = some [b2i true] := tr (p := (0 : Int) ≤ T.ρ 11) (Int.not_lt.1 c4)
      have d7 : u11.den T = some [b2i true] := tr (p := T.ρ 11 < T.ρ 5) c5
      by_cases c8 : T.ρ 11 = T.ρ 14
      · have d8 : u12.den T = some [b2i false] := fls (p := T.ρ 11 ≠ T.ρ 14) (fun hh => hh c8)
        have d9 : u2.den T = some [b2i true] := tr (p := (0 : Int) ≤ T.ρ 14) (Int.not_lt.1 c1)
        exact runS10 N hlk (ai u2 true d9 (ai u12 false d8 (ai u11 true d7 (ai u10 true d6 (ai u9 false d5 (ai u8 false d4 (ai u4 true d3 (ai u1 true d2 (ai u0 false d1 al0))))))))) fun G => by kernel_rfl
      · have d8 : u12.den T = some [b2i true] := tr (p := T.ρ 11 ≠ T.ρ 14) c8
        have d9 : u2.den T = some [b2i true] := tr (p := (0 : Int) ≤ T.ρ 14) (Int.not_lt.1 c1)
        exact runS10 N hlk (ai u2 true d9 (ai u12 true d8 (ai u11 true d7 (ai u10 true d6 (ai u9 false d5 (ai u8 false d4 (ai u4 true d3 (ai u1 true d2 (ai u0 false d1 al0))))))))) fun G => by kernel_rfl
set_option maxHeartbeats 4000000 in
theorem law10_3 {T : Sy} {w : World} {l : List Value} (N : LawIn T w l) (s1 : 0 < T.ρ 5) (s2 : T.ρ 6 = 0) (hk : T.ρ 10 = 3) (hm : ¬ ((0 ≤ T.ρ 11 ∧ T.ρ 11 < T.ρ 5) ∧ T.Φ 60 [T.ρ 11] = T.ρ 12)) (z70 : ∀ j : Int, T.Φ 70 [j] = (fun j => T.Φ 60 [j]) j) (z71 : ∀ j : Int, T.Φ 71 [j] = (fun j => T.Φ 61 [j]) j) (hlk : LkOk Try.prog T [] ΛS10 (lkL [kS0, orL kW10 kW10Z70])) : Holds w l := by
  have r5 := N.r5; have r6 := N.r6
  have al0 := (AlOk.app (alK_ok (k := 3) hk (by decide)) (alB_ok N (show false = _ from by rw [decide_eq_false (by omega)]) (show true = _ from by rw [decide_eq_true (by omega)])))
  by_cases c1 : T.ρ 14 < (0 : Int)
  · have d1 : u0.den T = some [b2i true] := tr (p := T.ρ 14 < (0 : Int)) c1
    by_cases c2 : T.ρ 11 < (0 : Int)
    · have d2 : u8.den T = some [b2i true] := tr (p := T.ρ 11 < (0 : Int)) c2
      exact runS10 N hlk (ai u8 true d2 (ai u0 true d1 al0)) fun G => by kernel_rfl
    · have d2 : u8.den T = some [b2i false] := fls (p := T.ρ 11 < (0 : Int)) c2
      by_cases c3 : T.ρ 11 < T.ρ 5
      · have d3 : u9.den T = some [b2i false] := fls (p := T.ρ 5 ≤ T.ρ 11) (Int.not_le.2 c3)
        have d4 : u10.den T = some [b2i true] := tr (p := (0 : Int) ≤ T.ρ 11) (Int.not_lt.1 c2)
        have d5 : u11.den T = some [b2i true] := tr (p := T.ρ 11 < T.ρ 5) c3
        have c6 : ¬ ((T.Φ 60 [T.ρ 11]) = T.ρ 12) := by omega
        have d6 : u15.den T = some [b2i true] := tr (p := (T.Φ 60 [T.ρ 11]) ≠ T.ρ 12) c6
        have c7 : ¬ (T.ρ 11 = T.ρ 14) := by omega
        have d7 : u12.den T = some [b2i true] := tr (p := T.ρ 11 ≠ T.ρ 14) c7
        exact runS10 N hlk (ai u12 true d7 (ai u15 true d6 (ai u11 true d5 (ai u10 true d4 (ai u9 false d3 (ai u8 false d2 (ai u0 true d1 al0))))))) fun G => by kernel_rfl
      · have d3 : u9.den T = some [b2i true] := tr (p := T.ρ 5 ≤ T.ρ 11) (Int.not_lt.1 c3)
        exact runS10 N hlk (ai u9 true d3 (ai u8 false d2 (ai u0 true d1 al0))) fun G => by kernel_rfl
  · have d1 : u0.den T = some [b2i false] := fls (p := T.ρ 14 < (0 : Int)) c1
    by_cases c2 : T.ρ 14 < T.ρ 5
    · have d2 : u1.den T = some [b2i false] := fls (p := T.ρ 5 ≤ T.ρ 14) (Int.not_le.2 c2)
      have d3 : u2.den T = some [b2i true] := tr (p := (0 : Int) ≤ T.ρ 14) (Int.not_lt.1 c1)
      have d4 : u3.den T = some [b2i true] := tr (p := T.ρ 14 < T.ρ 5) c2
      have c5 : ¬ (T.ρ 14 < T.ρ 6) := by omega
      have d5 : u4.den T = some [b2i true] := tr (p := T.ρ 6 ≤ T.ρ 14) (Int.not_lt.1 c5)
      by_cases c6 : T.ρ 11 < (0 : Int)
      · have d6 : u8.den T = some [b2i true] := tr (p := T.ρ 11 < (0 : Int)) c6
        have c11 : (T.Φ 70 [T.ρ 14]) = (T.Φ 60 [T.ρ 14]) := by simp only [z70]
        have d11 : u6.den T = some [b2i false] := fls (p := (T.Φ 70 [T.ρ 14]) ≠ (T.Φ 60 [T.ρ 14])) (fun hh => hh c11)
        exact runS10 N hlk (ai u6 false d11 (ai u8 true d6 (ai u4 true d5 (ai u3 true d4 (ai u2 true d3 (ai u1 false d2 (ai u0 false d1 al0))))))) fun G => by kernel_rfl
      · have d6 : u8.den T = some [b2i false] := fls (p := T.ρ 11 < (0 : Int)) c6
        by_cases c7 : T.ρ 11 < T.ρ 5
        · have d7 : u9.den T = some [b2i false] := fls (p := T.ρ 5 ≤ T.ρ 11) (Int.not_le.2 c7)
          have d8 : u10.den T = some [b2i true] := tr (p := (0 : Int) ≤ T.ρ 11) (Int.not_lt.1 c6)
          have d9 : u11.den T = some [b2i true] := tr (p := T.ρ 11 < T.ρ 5) c7
          have c10 : ¬ ((T.Φ 60 [T.ρ 11]) = T.ρ 12) := by omega
          have d10 : u15.den T = some [b2i true] := tr (p := (T.Φ 60 [T.ρ 11]) ≠ T.ρ 12) c10
          by_cases c11 : T.ρ 11 = T.ρ 14
          · have d11 : u12.den T = some [b2i false] := fls (p := T.ρ 11 ≠ T.ρ 14) (fun hh => hh c11)
            exact runS10 N hlk (ai u12 false d11 (ai u15 true d10 (ai u11 true d9 (ai u10 true d8 (ai u9 false d7 (ai u8 false d6 (ai u4 true d5 (ai u3 true d4 (ai u2 true d3 (ai u1 false d2 (ai u0 false d1 al0))))))))))) fun G => by kernel_rfl
          · have d11 : u12.den T = some [b2i true] := tr (p := T.ρ 11 ≠ T.ρ 14) c11
            exact runS10 N hlk (ai u12 true d11 (ai u15 true d10 (ai u11 true d9 (ai u10 true d8 (ai u9 false d7 (ai u8 false d6 (ai u4 true d5 (ai u3 true d4 (ai u2 true d3 (ai u1 false d2 (ai u0 false d1 al0))))))))))) fun G => by kernel_rfl
        · have d7 : u9.den T = some [b2i true] := tr (p := T.ρ 5 ≤ T.ρ 11) (Int.not_lt.1 c7)
          have c12 : (T.Φ 70 [T.ρ 14]) = (T.Φ 60 [T.ρ 14]) := by simp only [z70]
          have d12 : u6.den T = some [b2i false] := fls (p := (T.Φ 70 [T.ρ 14]) ≠ (T.Φ 60 [T.ρ 14])) (fun hh => hh c12)
          exact runS10 N hlk (ai u6 false d12 (ai u9 true d7 (ai u8 false d6 (ai u4 true d5 (ai u3 true d4 (ai u2 true d3 (ai u1 false d2 (ai u0 false d1 al0)))))))) fun G => by kernel_rfl
    · have d2 : u1.den T = some [b2i true] := tr (p := T.ρ 5 ≤ T.ρ 14) (Int.not_lt.1 c2)
      have c3 : ¬ (T.ρ 14 < T.ρ 6) := by omega
      have d3 : u4.den T = some [b2i true] := tr (p := T.ρ 6 ≤ T.ρ 14) (Int.not_lt.1 c3)
      by_cases c4 : T.ρ 11 < (0 : Int)
      · have d4 : u8.den T = some [b2i true] := tr (p := T.ρ 11 < (0 : Int)) c4
        have d8 : u2.den T = some [b2i true] := tr (p := (0 : Int) ≤ T.ρ 14) (Int.not_lt.1 c1)
        exact runS10 N hlk (ai u2 true d8 (ai u8 true d4 (ai u4 true d3 (ai u1 true d2 (ai u0 false d1 al0))))) fun G => by kernel_rfl
      · have d4 : u8.den T = some [b2i false] := fls (p := T.ρ 11 < (0 : Int)) c4
        by_cases c5 : T.ρ 11 < T.ρ 5
        · have d5 : u9.den T = some [b2i false] := fls (p := T.ρ 5 ≤ T.ρ 11) (Int.not_le.2 c5)
          have d6 : u10.den T = some [b2i true] := tr (p := (0 : Int) ≤ T.ρ 11) (Int.not_lt.1 c4)
          have d7 : u11.den T = some [b2i true] := tr (p := T.ρ 11 < T.ρ 5) c5
          have c8 : ¬ ((T.Φ 60 [T.ρ 11]) = T.ρ 12) := by omega
          have d8 : u15.den T = some [b2i true] := tr (p := (T.Φ 60 [T.ρ 11]) ≠ T.ρ 12) c8
          by_cases c9 : T.ρ 11 = T.ρ 14
          · have d9 : u12.den T = some [b2i false] := fls (p := T.ρ 11 ≠ T.ρ 14) (fun hh => hh c9)
            have d10 : u2.den T = some [b2i true] := tr (p := (0 : Int) ≤ T.ρ 14) (Int.not_lt.1 c1)
            exact runS10 N hlk (ai u2 true d10 (ai u12 false d9 (ai u15 true d8 (ai u11 true d7 (ai u10 true d6 (ai u9 false d5 (ai u8 false d4 (ai u4 true d3 (ai u1 true d2 (ai u0 false d1 al0)))))))))) fun G => by kernel_rfl
          · have d9 : u12.den T = some [b2i true] := tr (p := T.ρ 11 ≠ T.ρ 14) c9
            have d10 : u2.den T = some [b2i true] := tr (p := (0 : Int) ≤ T.ρ 14) (Int.not_lt.1 c1)
            exact runS10 N hlk (ai u2 true d10 (ai u12 true d9 (ai u15 true d8 (ai u11 true d7 (ai u10 true d6 (ai u9 false d5 (ai u8 false d4 (ai u4 true d3 (ai u1 true d2 (ai u0 false d1 al0)))))))))) fun G => by kernel_rfl
        · have d5 : u9.den T = some [b2i true] := tr (p := T.ρ 5 ≤ T.ρ 11) (Int.not_lt.1 c5)
          have d9 : u2.den T = some [b2i true] := tr (p := (0 : Int) ≤ T.ρ 14) (Int.not_lt.1 c1)
          exact runS10 N hlk (ai u2 true d9 (ai u9 true d5 (ai u8 false d4 (ai u4 true d3 (ai u1 true d2 (ai u0 false d1 al0)))))) fun G => by kernel_rfl
set_option maxHeartbeats 4000000 in
theorem law10_3ca {T : Sy} {w : World} {l : List Value} (N : LawIn T w l) (s1 : 0 < T.ρ 5) (s2 : T.ρ 6 = 0) (hk : T.ρ 10 = 3) (hm : ((0 ≤ T.ρ 11 ∧ T.ρ 11 < T.ρ 5) ∧ T.Φ 60 [T.ρ 11] = T.ρ 12)) (z70 : ∀ j : Int, T.Φ 70 [j] = (fun j => ifE j (T.ρ 11) (T.ρ 13) (T.Φ 60 [j])) j) (z71 : ∀ j : Int, T.Φ 71 [j] = (fun j => T.Φ 61 [j]) j) (hlk : LkOk Try.prog T [] ΛS10 (lkL [kS0, kW10ca])) : Holds w l := by
  have r5 := N.r5; have r6 := N.r6
  have al0 := (AlOk.app (alK_ok (k := 3) hk (by decide)) (alB_ok N (show false = _ from by rw [decide_eq_false (by omega)]) (show true = _ from by rw [decide_eq_true (by omega)])))
  by_cases c1 : T.ρ 14 < (0 : Int)
  · have d1 : u0.den T = some [b2i true] := tr (p := T.ρ 14 < (0 : Int)) c1
    have c2 : ¬ (T.ρ 11 < (0 : Int)) := by omega
    have d2 : u8.den T = some [b2i false] := fls (p := T.ρ 11 < (0 : Int)) c2
    have c3 : T.ρ 11 < T.ρ 5 := by omega
    have d3 : u9.den T = some [b2i false] := fls (p := T.ρ 5 ≤ T.ρ 11) (Int.not_le.2 c3)
    have d4 : u10.den T = some [b2i true] := tr (p := (0 : Int) ≤ T.ρ 11) (Int.not_lt.1 c2)
    have d5 : u11.den T = some [b2i true] := tr (p := T.ρ 11 < T.ρ 5) c3
    have c6 : (T.Φ 60 [T.ρ 11]) = T.ρ 12 := by omega
    have d6 : u15.den T = some [b2i false] := fls (p := (T.Φ 60 [T.ρ 11]) ≠ T.ρ 12) (fun hh => hh c6)
    have c7 : ¬ (T.ρ 11 = T.ρ 14) := by omega
    have d7 : u12.den T = some [b2i true] := tr (p := T.ρ 11 ≠ T.ρ 14) c7
    exact runS10 N hlk (ai u12 true d7 (ai u15 false d6 (ai u11 true d5 (ai u10 true d4 (ai u9 false d3 (ai u8 false d2 (ai u0 true d1 al0))))))) fun G => by kernel_rfl
  · have d1 : u0.den T = some [b2i false] := fls (p := T.ρ 14 < (0 : Int)) c1
    by_cases c2 : T.ρ 14 < T.ρ 5
    · have d2 : u1.den T = some [b2i false] := fls (p := T.ρ 5 ≤ T.ρ 14) (Int.not_le.2 c2)
      have d3 : u2.den T = some [b2i true] := tr (p := (0 : Int) ≤ T.ρ 14) (Int.not_lt.1 c1)
      have d4 : u3.den T = some [b2i true] := tr (p := T.ρ 14 < T.ρ 5) c2
      have c5 : ¬ (T.ρ 14 < T.ρ 6) := by omega
      have d5 : u4.den T = some [b2i true] := tr (p := T.ρ 6 ≤ T.ρ 14) (Int.not_lt.1 c5)
      have c6 : ¬ (T.ρ 11 < (0 : Int)) := by omega
      have d6 : u8.den T = some [b2i false] := fls (p := T.ρ 11 < (0 : Int)) c6
      have c7 : T.ρ 11 < T.ρ 5 := by omega
      have d7 : u9.den T = some [b2i false] := fls (p := T.ρ 5 ≤ T.ρ 11) (Int.not_le.2 c7)
      have d8 : u10.den T = some [b2i true] := tr (p := (0 : Int) ≤ T.ρ 11) (Int.not_lt.1 c6)
      have d9 : u11.den T = some [b2i true] := tr (p := T.ρ 11 < T.ρ 5) c7
      have c10 : (T.Φ 60 [T.ρ 11]) = T.ρ 12 := by omega
      have d10 : u15.den T = some [b2i false] := fls (p := (T.Φ 60 [T.ρ 11]) ≠ T.ρ 12) (fun hh => hh c10)
      by_cases c11 : T.ρ 11 = T.ρ 14
      · have d11 : u12.den T = some [b2i false] := fls (p := T.ρ 11 ≠ T.ρ 14) (fun hh => hh c11)
        exact runS10 N hlk (ai u12 false d11 (ai u15 false d10 (ai u11 true d9 (ai u10 true d8 (ai u9 false d7 (ai u8 false d6 (ai u4 true d5 (ai u3 true d4 (ai u2 true d3 (ai u1 false d2 (ai u0 false d1 al0))))))))))) fun G => by kernel_rfl
      · have d11 : u12.den T = some [b2i true] := tr (p := T.ρ 11 ≠ T.ρ 14) c11
        by_cases c12 : T.ρ 14 = T.ρ 11
        · have d12 : u13.den T = some [b2i true] := tr (p := T.ρ 14 = T.ρ 11) c12
          have c13 : T.ρ 13 = (T.Φ 60 [T.ρ 14]) := by omega
          have d13 : u16.den T = some [b2i false] := fls (p := T.ρ 13 ≠ (T.Φ 60 [T.ρ 14])) (fun hh => hh c13)
          exact runS10 N hlk (ai u16 false d13 (ai u13 true d12 (ai u12 true d11 (ai u15 false d10 (ai u11 true d9 (ai u10 true d8 (ai u9 false d7 (ai u8 false d6 (ai u4 true d5 (ai u3 true d4 (ai u2 true d3 (ai u1 false d2 (ai u0 false d1 al0))))))))))))) fun G => by kernel_rfl
        · have d12 : u13.den T = some [b2i false] := fls (p := T.ρ 14 = T.ρ 11) c12
          exact runS10 N hlk (ai u13 false d12 (ai u12 true d11 (ai u15 false d10 (ai u11 true d9 (ai u10 true d8 (ai u9 false d7 (ai u8 false d6 (ai u4 true d5 (ai u3 true d4 (ai u2 true d3 (ai u1 false d2 (ai u0 false d1 al0)))))))))))) fun G => by kernel_rfl
    · have d2 : u1.den T = some [b2i true] := tr (p := T.ρ 5 ≤ T.ρ 14) (Int.not_lt.1 c2)
      have c3 : ¬ (T.ρ 14 < T.ρ 6) := by omega
      have d3 : u4.den T = some [b2i true] := tr (p := T.ρ 6 ≤ T.ρ 14) (Int.not_lt.1 c3)
      have c4 : ¬ (T.ρ 11 < (0 : Int)) := by omega
      have d4 : u8.den T = some [b2i false] := fls (p := T.ρ 11 < (0 : Int)) c4
      have c5 : T.ρ 11 < T.ρ 5 := by omega
      have d5 : u9.den T = some [b2i false] := fls (p := T.ρ 5 ≤ T.ρ 11) (Int.not_le.2 c5)
      have d6 : u10.den T = some [b2i true] := tr (p := (0 : Int) ≤ T.ρ 11) (Int.not_lt.1 c4)
      have d7 : u11.den T = some [b2i true] := tr (p := T.ρ 11 < T.ρ 5) c5
      have c8 : (T.Φ 60 [T.ρ 11]) = T.ρ 12 := by omega
      have d8 : u15.den T = some [b2i false] := fls (p := (T.Φ 60 [T.ρ 11]) ≠ T.ρ 12) (fun hh => hh c8)
      by_cases c9 : T.ρ 11 = T.ρ 14
      · have d9 : u12.den T = some [b2i false] := fls (p := T.ρ 11 ≠ T.ρ 14) (fun hh => hh c9)
        have d10 : u2.den T = some [b2i true] := tr (p := (0 : Int) ≤ T.ρ 14) (Int.not_lt.1 c1)
        exact runS10 N hlk (ai u2 true d10 (ai u12 false d9 (ai u15 false d8 (ai u11 true d7 (ai u10 true d6 (ai u9 false d5 (ai u8 false d4 (ai u4 true d3 (ai u1 true d2 (ai u0 false d1 al0)))))))))) fun G => by kernel_rfl
      · have d9 : u12.den T = some [b2i true] := tr (p := T.ρ 11 ≠ T.ρ 14) c9
        have d10 : u2.den T = some [b2i true] := tr (p := (0 : Int) ≤ T.ρ 14) (Int.not_lt.1 c1)
        exact runS10 N hlk (ai u2 true d10 (ai u12 true d9 (ai u15 false d8 (ai u11 true d7 (ai u10 true d6 (ai u9 false d5 (ai u8 false d4 (ai u4 true d3 (ai u1 true d2 (ai u0 false d1 al0)))))))))) fun G => by kernel_rfl
set_option maxHeartbeats 4000000 in
theorem law10_4 {T : Sy} {w : World} {l : List Value} (N : LawIn T w l) (s1 : 0 < T.ρ 5) (s2 : T.ρ 6 = 0) (hk : T.ρ 10 = 4) (hm : ¬ (0 ≤ T.ρ 11 ∧ T.ρ 11 < T.ρ 5)) (z70 : ∀ j : Int, T.Φ 70 [j] = (fun j => T.Φ 60 [j]) j) (z71 : ∀ j : Int, T.Φ 71 [j] = (fun j => T.Φ 61 [j]) j) (hlk : LkOk Try.prog T [] ΛS10 (lkL [kS0, orL kW10 kW10Z70])) : Holds w l := by
  have r5 := N.r5; have r6 := N.r6
  have al0 := (AlOk.app (alK_ok (k := 4) hk (by decide)) (alB_ok N (show false = _ from by rw [decide_eq_false (by omega)]) (show true = _ from by rw [decide_eq_true (by omega)])))
  by_cases c1 : T.ρ 14 < (0 : Int)
  · have d1 : u0.den T = some [b2i true] := tr (p := T.ρ 14 < (0 : Int)) c1
    by_cases c2 : T.ρ 11 < (0 : Int)
    · have d2 : u8.den T = some [b2i true] := tr (p := T.ρ 11 < (0 : Int)) c2
      exact runS10 N hlk (ai u8 true d2 (ai u0 true d1 al0)) fun G => by kernel_rfl
    · have d2 : u8.den T = some [b2i false] := fls (p := T.ρ 11 < (0 : Int)) c2
      have c3 : ¬ (T.ρ 11 < T.ρ 5) := by omega
      have d3 : u9.den T = some [b2i true] := tr (p := T.ρ 5 ≤ T.ρ 11) (Int.not_lt.1 c3)
      exact runS10 N hlk (ai u9 true d3 (ai u8 false d2 (ai u0 true d1 al0))) fun G => by kernel_rfl
  · have d1 : u0.den T = some [b2i false] := fls (p := T.ρ 14 < (0 : Int)) c1
    by_cases c2 : T.ρ 14 < T.ρ 5
    · have d2 : u1.den T = some [b2i false] := fls (p := T.ρ 5 ≤ T.ρ 14) (Int.not_le.2 c2)
      have d3 : u2.den T = some [b2i true] := tr (p := (0 : Int) ≤ T.ρ 14) (Int.not_lt.1 c1)
      have d4 : u3.den T = some [b2i true] := tr (p := T.ρ 14 < T.ρ 5) c2
      have c5 : ¬ (T.ρ 14 < T.ρ 6) := by omega
      have d5 : u4.den T = some [b2i true] := tr (p := T.ρ 6 ≤ T.ρ 14) (Int.not_lt.1 c5)
      by_cases c6 : T.ρ 11 < (0 : Int)
      · have d6 : u8.den T = some [b2i true] := tr (p := T.ρ 11 < (0 : Int)) c6
        have c11 : (T.Φ 70 [T.ρ 14]) = (T.Φ 60 [T.ρ 14]) := by simp only [z70]
        have d11 : u6.den T = some [b2i false] := fls (p := (T.Φ 70 [T.ρ 14]) ≠ (T.Φ 60 [T.ρ 14])) (fun hh => hh c11)
        exact runS10 N hlk (ai u6 false d11 (ai u8 true d6 (ai u4 true d5 (ai u3 true d4 (ai u2 true d3 (ai u1 false d2 (ai u0 false d1 al0))))))) fun G => by kernel_rfl
      · have d6 : u8.den T = some [b2i false] := fls (p := T.ρ 11 < (0 : Int)) c6
        have c7 : ¬ (T.ρ 11 < T.ρ 5) := by omega
        have d7 : u9.den T = some [b2i true] := tr (p := T.ρ 5 ≤ T.ρ 11) (Int.not_lt.1 c7)
        have c12 : (T.Φ 70 [T.ρ 14]) = (T.Φ 60 [T.ρ 14]) := by simp only [z70]
        have d12 : u6.den T = some [b2i false] := fls (p := (T.Φ 70 [T.ρ 14]) ≠ (T.Φ 60 [T.ρ 14])) (fun hh => hh c12)
        exact runS10 N hlk (ai u6 false d12 (ai u9 true d7 (ai u8 false d6 (ai u4 true d5 (ai u3 true d4 (ai u2 true d3 (ai u1 false d2 (ai u0 false d1 al0)))))))) fun G => by kernel_rfl
    · have d2 : u1.den T = some [b2i true] := tr (p := T.ρ 5 ≤ T.ρ 14) (Int.not_lt.1 c2)
      have c3 : ¬ (T.ρ 14 < T.ρ 6) := by omega
      have d3 : u4.den T = some [b2i true] := tr (p := T.ρ 6 ≤ T.ρ 14) (Int.not_lt.1 c3)
      by_cases c4 : T.ρ 11 < (0 : Int)
      · have d4 : u8.den T = some [b2i true] := tr (p := T.ρ 11 < (0 : Int)) c4
        have d8 : u2.den T = some [b2i true] := tr (p := (0 : Int) ≤ T.ρ 14) (Int.not_lt.1 c1)
        exact runS10 N hlk (ai u2 true d8 (ai u8 true d4 (ai u4 true d3 (ai u1 true d2 (ai u0 false d1 al0))))) fun G => by kernel_rfl
      · have d4 : u8.den T = some [b2i false] := fls (p := T.ρ 11 < (0 : Int)) c4
        have c5 : ¬ (T.ρ 11 < T.ρ 5) := by omega
        have d5 : u9.den T = some [b2i true] := tr (p := T.ρ 5 ≤ T.ρ 11) (Int.not_lt.1 c5)
        have d9 : u2.den T = some [b2i true] := tr (p := (0 : Int) ≤ T.ρ 14) (Int.not_lt.1 c1)
        exact runS10 N hlk (ai u2 true d9 (ai u9 true d5 (ai u8 false d4 (ai u4 true d3 (ai u1 true d2 (ai u0 false d1 al0)))))) fun G => by kernel_rfl
set_option maxHeartbeats 4000000 in
theorem law10_4ad {T : Sy} {w : World} {l : List Value} (N : LawIn T w l) (s1 : 0 < T.ρ 5) (s2 : T.ρ 6 = 0) (hk : T.ρ 10 = 4) (hm : (0 ≤ T.ρ 11 ∧ T.ρ 11 < T.ρ 5)) (z70 : ∀ j : Int, T.Φ 70 [j] = (fun j => ifE j (T.ρ 11) (IntKind.u64.wrap (T.Φ 60 [T.ρ 11] + T.ρ 12)) (T.Φ 60 [j])) j) (z71 : ∀ j : Int, T.Φ 71 [j] = (fun j => T.Φ 61 [j]) j) (hlk : LkOk Try.prog T [] ΛS10 (lkL [kS0, kW10ad])) : Holds w l := by
  have r5 := N.r5; have r6 := N.r6
  have al0 := (AlOk.app (alK_ok (k := 4) hk (by decide)) (alB_ok N (show false = _ from by rw [decide_eq_false (by omega)]) (show true = _ from by rw [decide_eq_true (by omega)])))
  by_cases c1 : T.ρ 14 < (0 : Int)
  · have d1 : u0.den T = some [b2i true] := tr (p := T.ρ 14 < (0 : Int)) c1
    have c2 : ¬ (T.ρ 11 < (0 : Int)) := by omega
    have d2 : u8.den T = some [b2i false] := fls (p := T.ρ 11 < (0 : Int)) c2
    have c3 : T.ρ 11 < T.ρ 5 := by omega
    have d3 : u9.den T = some [b2i false] := fls (p := T.ρ 5 ≤ T.ρ 11) (Int.not_le.2 c3)
    have d4 : u10.den T = some [b2i true] := tr (p := (0 : Int) ≤ T.ρ 11) (Int.not_lt.1 c2)
    have d5 : u11.den T = some [b2i true] := tr (p := T.ρ 11 < T.ρ 5) c3
    have c6 : ¬ (T.ρ 11 = T.ρ 14) := by omega
    have d6 : u12.den T = some [b2i true] := tr (p := T.ρ 11 ≠ T.ρ 14) c6
    exact runS10 N hlk (ai u12 true d6 (ai u11 true d5 (ai u10 true d4 (ai u9 false d3 (ai u8 false d2 (ai u0 true d1 al0)))))) fun G => by kernel_rfl
  · have d1 : u0.den T = some [b2i false] := fls (p := T.ρ 14 < (0 : Int)) c1
    by_cases c2 : T.ρ 14 < T.ρ 5
    · have d2 : u1.den T = some [b2i false] := fls (p := T.ρ 5 ≤ T.ρ 14) (Int.not_le.2 c2)
      have d3 : u2.den T = some [b2i true] := tr (p := (0 : Int) ≤ T.ρ 14) (Int.not_lt.1 c1)
      have d4 : u3.den T = some [b2i true] := tr (p := T.ρ 14 < T.ρ 5) c2
      have c5 : ¬ (T.ρ 14 < T.ρ 6) := by omega
      have d5 : u4.den T = some [b2i true] := tr (p := T.ρ 6 ≤ T.ρ 14) (Int.not_lt.1 c5)
      have c6 : ¬ (T.ρ 11 < (0 : Int)) := by omega
      have d6 : u8.den T = some [b2i false] := fls (p := T.ρ 11 < (0 : Int)) c6
      have c7 : T.ρ 11 < T.ρ 5 := by omega
      have d7 : u9.den T = some [b2i false] := fls (p := T.ρ 5 ≤ T.ρ 11) (Int.not_le.2 c7)
      have d8 : u10.den T = some [b2i true] := tr (p := (0 : Int) ≤ T.ρ 11) (Int.not_lt.1 c6)
      have d9 : u11.den T = some [b2i true] := tr (p := T.ρ 11 < T.ρ 5) c7
      by_cases c10 : T.ρ 11 = T.ρ 14
      · have d10 : u12.den T = some [b2i false] := fls (p := T.ρ 11 ≠ T.ρ 14) (fun hh => hh c10)
        exact runS10 N hlk (ai u12 false d10 (ai u11 true d9 (ai u10 true d8 (ai u9 false d7 (ai u8 false d6 (ai u4 true d5 (ai u3 true d4 (ai u2 true d3 (ai u1 false d2 (ai u0 false d1 al0)))))))))) fun G => by kernel_rfl
      · have d10 : u12.den T = some [b2i true] := tr (p := T.ρ 11 ≠ T.ρ 14) c10
        by_cases c11 : T.ρ 14 = T.ρ 11
        · have d11 : u13.den T = some [b2i true] := tr (p := T.ρ 14 = T.ρ 11) c11
          have c12 : (IntKind.u64.wrap ((T.Φ 60 [T.ρ 11]) + T.ρ 12)) = (T.Φ 60 [T.ρ 14]) := by omega
          have d12 : u17.den T = some [b2i false] := fls (p := (IntKind.u64.wrap ((T.Φ 60 [T.ρ 11]) + T.ρ 12)) ≠ (T.Φ 60 [T.ρ 14])) (fun hh => hh c12)
          exact runS10 N hlk (ai u17 false d12 (ai u13 true d11 (ai u12 true d10 (ai u11 true d9 (ai u10 true d8 (ai u9 false d7 (ai u8 false d6 (ai u4 true d5 (ai u3 true d4 (ai u2 true d3 (ai u1 false d2 (ai u0 false d1 al0)))))))))))) fun G => by kernel_rfl
        · have d11 : u13.den T = some [b2i false] := fls (p := T.ρ 14 = T.ρ 11) c11
          exact runS10 N hlk (ai u13 false d11 (ai u12 true d10 (ai u11 true d9 (ai u10 true d8 (ai u9 false d7 (ai u8 false d6 (ai u4 true d5 (ai u3 true d4 (ai u2 true d3 (ai u1 false d2 (ai u0 false d1 al0))))))))))) fun G => by kernel_rfl
    · have d2 : u1.den T = some [b2i true] := tr (p := T.ρ 5 ≤ T.ρ 14) (Int.not_lt.1 c2)
      have c3 : ¬ (T.ρ 14 < T.ρ 6) := by omega
      have d3 : u4.den T = some [b2i true] := tr (p := T.ρ 6 ≤ T.ρ 14) (Int.not_lt.1 c3)
      have c4 : ¬ (T.ρ 11 < (0 : Int)) := by omega
      have d4 : u8.den T = some [b2i false] := fls (p := T.ρ 11 < (0 : Int)) c4
      have c5 : T.ρ 11 < T.ρ 5 := by omega
      have d5 : u9.den T = some [b2i false] := fls (p := T.ρ 5 ≤ T.ρ 11) (Int.not_le.2 c5)
      have d6 : u10.den T = some [b2i true] := tr (p := (0 : Int) ≤ T.ρ 11) (Int.not_lt.1 c4)
      have d7 : u11.den T = some [b2i true] := tr (p := T.ρ 11 < T.ρ 5) c5
      by_cases c8 : T.ρ 11 = T.ρ 14
      · have d8 : u12.den T = some [b2i false] := fls (p := T.ρ 11 ≠ T.ρ 14) (fun hh => hh c8)
        have d9 : u2.den T = some [b2i true] := tr (p := (0 : Int) ≤ T.ρ 14) (Int.not_lt.1 c1)
        exact runS10 N hlk (ai u2 true d9 (ai u12 false d8 (ai u11 true d7 (ai u10 true d6 (ai u9 false d5 (ai u8 false d4 (ai u4 true d3 (ai u1 true d2 (ai u0 false d1 al0))))))))) fun G => by kernel_rfl
      · have d8 : u12.den T = some [b2i true] := tr (p := T.ρ 11 ≠ T.ρ 14) c8
        have d9 : u2.den T = some [b2i true] := tr (p := (0 : Int) ≤ T.ρ 14) (Int.not_lt.1 c1)
        exact runS10 N hlk (ai u2 true d9 (ai u12 true d8 (ai u11 true d7 (ai u10 true d6 (ai u9 false d5 (ai u8 false d4 (ai u4 true d3 (ai u1 true d2 (ai u0 false d1 al0))))))))) fun G => by kernel_rfl
set_option maxHeartbeats 4000000 in
theorem law10_5 {T : Sy} {w : World} {l : List Value} (N : LawIn T w l) (s1 : 0 < T.ρ 5) (s2 : T.ρ 6 = 0) (hk : T.ρ 10 = 5) (z70 : ∀ j : Int, T.Φ 70 [j] = (fun j => T.Φ 60 [j]) j) (z71 : ∀ j : Int, T.Φ 71 [j] = (fun j => T.Φ 61 [j]) j) (hlk : LkOk Try.prog T [] ΛS10 (lkL [kS0, orL kW10 kW10Z70])) : Holds w l := by
  have r5 := N.r5; have r6 := N.r6
  have al0 := (AlOk.app (alK_ok (k := 5) hk (by decide)) (alB_ok N (show false = _ from by rw [decide_eq_false (by omega)]) (show true = _ from by rw [decide_eq_true (by omega)])))
  by_cases c1 : T.ρ 14 < (0 : Int)
  · have d1 : u0.den T = some [b2i true] := tr (p := T.ρ 14 < (0 : Int)) c1
    by_cases c2 : T.ρ 11 < (0 : Int)
    · have d2 : u8.den T = some [b2i true] := tr (p := T.ρ 11 < (0 : Int)) c2
      exact runS10 N hlk (ai u8 true d2 (ai u0 true d1 al0)) fun G => by kernel_rfl
    · have d2 : u8.den T = some [b2i false] := fls (p := T.ρ 11 < (0 : Int)) c2
      have c3 : ¬ (T.ρ 11 < T.ρ 6) := by omega
      have d3 : u18.den T = some [b2i true] := tr (p := T.ρ 6 ≤ T.ρ 11) (Int.not_lt.1 c3)
      have d7 : u10.den T = some [b2i true] := tr (p := (0 : Int) ≤ T.ρ 11) (Int.not_lt.1 c2)
      exact runS10 N hlk (ai u10 true d7 (ai u18 true d3 (ai u8 false d2 (ai u0 true d1 al0)))) fun G => by kernel_rfl
  · have d1 : u0.den T = some [b2i false] := fls (p := T.ρ 14 < (0 : Int)) c1
    by_cases c2 : T.ρ 14 < T.ρ 5
    · have d2 : u1.den T = some [b2i false] := fls (p := T.ρ 5 ≤ T.ρ 14) (Int.not_le.2 c2)
      have d3 : u2.den T = some [b2i true] := tr (p := (0 : Int) ≤ T.ρ 14) (Int.not_lt.1 c1)
      have d4 : u3.den T = some [b2i true] := tr (p := T.ρ 14 < T.ρ 5) c2
      have c5 : ¬ (T.ρ 14 < T.ρ 6) := by omega
      have d5 : u4.den T = some [b2i true] := tr (p := T.ρ 6 ≤ T.ρ 14) (Int.not_lt.1 c5)
      by_cases c6 : T.ρ 11 < (0 : Int)
      · have d6 : u8.den T = some [b2i true] := tr (p := T.ρ 11 < (0 : Int)) c6
        have c11 : (T.Φ 70 [T.ρ 14]) = (T.Φ 60 [T.ρ 14]) := by simp only [z70]
        have d11 : u6.den T = some [b2i false] := fls (p := (T.Φ 70 [T.ρ 14]) ≠ (T.Φ 60 [T.ρ 14])) (fun hh => hh c11)
        exact runS10 N hlk (ai u6 false d11 (ai u8 true d6 (ai u4 true d5 (ai u3 true d4 (ai u2 true d3 (ai u1 false d2 (ai u0 false d1 al0))))))) fun G => by kernel_rfl
      · have d6 : u8.den T = some [b2i false] := fls (p := T.ρ 11 < (0 : Int)) c6
        have c7 : ¬ (T.ρ 11 < T.ρ 6) := by omega
        have d7 : u18.den T = some [b2i true] := tr (p := T.ρ 6 ≤ T.ρ 11) (Int.not_lt.1 c7)
        have c12 : (T.Φ 70 [T.ρ 14]) = (T.Φ 60 [T.ρ 14]) := by simp only [z70]
        have d12 : u6.den T = some [b2i false] := fls (p := (T.Φ 70 [T.ρ 14]) ≠ (T.Φ 60 [T.ρ 14])) (fun hh => hh c12)
        have d13 : u10.den T = some [b2i true] := tr (p := (0 : Int) ≤ T.ρ 11) (Int.not_lt.1 c6)
        exact runS10 N hlk (ai u10 true d13 (ai u6 false d12 (ai u18 true d7 (ai u8 false d6 (ai u4 true d5 (ai u3 true d4 (ai u2 true d3 (ai u1 false d2 (ai u0 false d1 al0))))))))) fun G => by kernel_rfl
    · have d2 : u1.den T = some [b2i true] := tr (p := T.ρ 5 ≤ T.ρ 14) (Int.not_lt.1 c2)
      have c3 : ¬ (T.ρ 14 < T.ρ 6) := by omega
      have d3 : u4.den T = some [b2i true] := tr (p := T.ρ 6 ≤ T.ρ 14) (Int.not_lt.1 c3)
      by_cases c4 : T.ρ 11 < (0 : Int)
      · have d4 : u8.den T = some [b2i true] := tr (p := T.ρ 11 < (0 : Int)) c4
        have d8 : u2.den T = some [b2i true] := tr (p := (0 : Int) ≤ T.ρ 14) (Int.not_lt.1 c1)
        exact runS10 N hlk (ai u2 true d8 (ai u8 true d4 (ai u4 true d3 (ai u1 true d2 (ai u0 false d1 al0))))) fun G => by kernel_rfl
      · have d4 : u8.den T = some [b2i false] := fls (p := T.ρ 11 < (0 : Int)) c4
        have c5 : ¬ (T.ρ 11 < T.ρ 6) := by omega
        have d5 : u18.den T = some [b2i true] := tr (p := T.ρ 6 ≤ T.ρ 11) (Int.not_lt.1 c5)
        have d9 : u2.den T = some [b2i true] := tr (p := (0 : Int) ≤ T.ρ 14) (Int.not_lt.1 c1)
        have d10 : u10.den T = some [b2i true] := tr (p := (0 : Int) ≤ T.ρ 11) (Int.not_lt.1 c4)
        exact runS10 N hlk (ai u10 true d10 (ai u2 true d9 (ai u18 true d5 (ai u8 false d4 (ai u4 true d3 (ai u1 true d2 (ai u0 false d1 al0))))))) fun G => by kernel_rfl
set_option maxHeartbeats 4000000 in
theorem law10_6 {T : Sy} {w : World} {l : List Value} (N : LawIn T w l) (s1 : 0 < T.ρ 5) (s2 : T.ρ 6 = 0) (hk : T.ρ 10 = 6) (z70 : ∀ j : Int, T.Φ 70 [j] = (fun j => T.Φ 60 [j]) j) (z71 : ∀ j : Int, T.Φ 71 [j] = (fun j => T.Φ 61 [j]) j) (hlk : LkOk Try.prog T [] ΛS10 (lkL [kS0, orL kW10 kW10Z70])) : Holds w l := by
  have r5 := N.r5; have r6 := N.r6
  have al0 := (AlOk.app (alK_ok (k := 6) hk (by decide)) (alB_ok N (show false = _ from by rw [decide_eq_false (by omega)]) (show true = _ from by rw [decide_eq_true (by omega)])))
  by_cases c1 : T.ρ 14 < (0 : Int)
  · have d1 : u0.den T = some [b2i true] := tr (p := T.ρ 14 < (0 : Int)) c1
    by_cases c2 : T.ρ 11 < (0 : Int)
    · have d2 : u8.den T = some [b2i true] := tr (p := T.ρ 11 < (0 : Int)) c2
      exact runS10 N hlk (ai u8 true d2 (ai u0 true d1 al0)) fun G => by kernel_rfl
    · have d2 : u8.den T = some [b2i false] := fls (p := T.ρ 11 < (0 : Int)) c2
      have c3 : ¬ (T.ρ 11 < T.ρ 6) := by omega
      have d3 : u18.den T = some [b2i true] := tr (p := T.ρ 6 ≤ T.ρ 11) (Int.not_lt.1 c3)
      have d7 : u10.den T = some [b2i true] := tr (p := (0 : Int) ≤ T.ρ 11) (Int.not_lt.1 c2)
      exact runS10 N hlk (ai u10 true d7 (ai u18 true d3 (ai u8 false d2 (ai u0 true d1 al0)))) fun G => by kernel_rfl
  · have d1 : u0.den T = some [b2i false] := fls (p := T.ρ 14 < (0 : Int)) c1
    by_cases c2 : T.ρ 14 < T.ρ 5
    · have d2 : u1.den T = some [b2i false] := fls (p := T.ρ 5 ≤ T.ρ 14) (Int.not_le.2 c2)
      have d3 : u2.den T = some [b2i true] := tr (p := (0 : Int) ≤ T.ρ 14) (Int.not_lt.1 c1)
      have d4 : u3.den T = some [b2i true] := tr (p := T.ρ 14 < T.ρ 5) c2
      have c5 : ¬ (T.ρ 14 < T.ρ 6) := by omega
      have d5 : u4.den T = some [b2i true] := tr (p := T.ρ 6 ≤ T.ρ 14) (Int.not_lt.1 c5)
      by_cases c6 : T.ρ 11 < (0 : Int)
      · have d6 : u8.den T = some [b2i true] := tr (p := T.ρ 11 < (0 : Int)) c6
        have c11 : (T.Φ 70 [T.ρ 14]) = (T.Φ 60 [T.ρ 14]) := by simp only [z70]
        have d11 : u6.den T = some [b2i false] := fls (p := (T.Φ 70 [T.ρ 14]) ≠ (T.Φ 60 [T.ρ 14])) (fun hh => hh c11)
        exact runS10 N hlk (ai u6 false d11 (ai u8 true d6 (ai u4 true d5 (ai u3 true d4 (ai u2 true d3 (ai u1 false d2 (ai u0 false d1 al0))))))) fun G => by kernel_rfl
      · have d6 : u8.den T = some [b2i false] := fls (p := T.ρ 11 < (0 : Int)) c6
        have c7 : ¬ (T.ρ 11 < T.ρ 6) := by omega
        have d7 : u18.den T = some [b2i true] := tr (p := T.ρ 6 ≤ T.ρ 11) (Int.not_lt.1 c7)
        have c12 : (T.Φ 70 [T.ρ 14]) = (T.Φ 60 [T.ρ 14]) := by simp only [z70]
        have d12 : u6.den T = some [b2i false] := fls (p := (T.Φ 70 [T.ρ 14]) ≠ (T.Φ 60 [T.ρ 14])) (fun hh => hh c12)
        have d13 : u10.den T = some [b2i true] := tr (p := (0 : Int) ≤ T.ρ 11) (Int.not_lt.1 c6)
        exact runS10 N hlk (ai u10 true d13 (ai u6 false d12 (ai u18 true d7 (ai u8 false d6 (ai u4 true d5 (ai u3 true d4 (ai u2 true d3 (ai u1 false d2 (ai u0 false d1 al0))))))))) fun G => by kernel_rfl
    · have d2 : u1.den T = some [b2i true] := tr (p := T.ρ 5 ≤ T.ρ 14) (Int.not_lt.1 c2)
      have c3 : ¬ (T.ρ 14 < T.ρ 6) := by omega
      have d3 : u4.den T = some [b2i true] := tr (p := T.ρ 6 ≤ T.ρ 14) (Int.not_lt.1 c3)
      by_cases c4 : T.ρ 11 < (0 : Int)
      · have d4 : u8.den T = some [b2i true] := tr (p := T.ρ 11 < (0 : Int)) c4
        have d8 : u2.den T = some [b2i true] := tr (p := (0 : Int) ≤ T.ρ 14) (Int.not_lt.1 c1)
        exact runS10 N hlk (ai u2 true d8 (ai u8 true d4 (ai u4 true d3 (ai u1 true d2 (ai u0 false d1 al0))))) fun G => by kernel_rfl
      · have d4 : u8.den T = some [b2i false] := fls (p := T.ρ 11 < (0 : Int)) c4
        have c5 : ¬ (T.ρ 11 < T.ρ 6) := by omega
        have d5 : u18.den T = some [b2i true] := tr (p := T.ρ 6 ≤ T.ρ 11) (Int.not_lt.1 c5)
        have d9 : u2.den T = some [b2i true] := tr (p := (0 : Int) ≤ T.ρ 14) (Int.not_lt.1 c1)
        have d10 : u10.den T = some [b2i true] := tr (p := (0 : Int) ≤ T.ρ 11) (Int.not_lt.1 c4)
        exact runS10 N hlk (ai u10 true d10 (ai u2 true d9 (ai u18 true d5 (ai u8 false d4 (ai u4 true d3 (ai u1 true d2 (ai u0 false d1 al0))))))) fun G => by kernel_rfl
set_option maxHeartbeats 4000000 in
theorem law10_7 {T : Sy} {w : World} {l : List Value} (N : LawIn T w l) (s1 : 0 < T.ρ 5) (s2 : T.ρ 6 = 0) (hk : 7 ≤ T.ρ 10 ∧ T.ρ 10 < 256) (z70 : ∀ j : Int, T.Φ 70 [j] = (fun j => T.Φ 60 [j]) j) (z71 : ∀ j : Int, T.Φ 71 [j] = (fun j => T.Φ 61 [j]) j) (hlk : LkOk Try.prog T [] ΛS10 (lkL [kS0, orL kW10 kW10Z70])) : Holds w l := by
  have r5 := N.r5; have r6 := N.r6
  have al0 := (AlOk.app (alK7_ok hk.1 hk.2) (alB_ok N (show false = _ from by rw [decide_eq_false (by omega)]) (show true = _ from by rw [decide_eq_true (by omega)])))
  by_cases c1 : T.ρ 14 < (0 : Int)
  · have d1 : u0.den T = some [b2i true] := tr (p := T.ρ 14 < (0 : Int)) c1
    exact runS10 N hlk (ai u0 true d1 al0) fun G => by kernel_rfl
  · have d1 : u0.den T = some [b2i false] := fls (p := T.ρ 14 < (0 : Int)) c1
    by_cases c2 : T.ρ 14 < T.ρ 5
    · have d2 : u1.den T = some [b2i false] := fls (p := T.ρ 5 ≤ T.ρ 14) (Int.not_le.2 c2)
      have d3 : u2.den T = some [b2i true] := tr (p := (0 : Int) ≤ T.ρ 14) (Int.not_lt.1 c1)
      have d4 : u3.den T = some [b2i true] := tr (p := T.ρ 14 < T.ρ 5) c2
      have c5 : ¬ (T.ρ 14 < T.ρ 6) := by omega
      have d5 : u4.den T = some [b2i true] := tr (p := T.ρ 6 ≤ T.ρ 14) (Int.not_lt.1 c5)
      have c10 : (T.Φ 70 [T.ρ 14]) = (T.Φ 60 [T.ρ 14]) := by simp only [z70]
      have d10 : u6.den T = some [b2i false] := fls (p := (T.Φ 70 [T.ρ 14]) ≠ (T.Φ 60 [T.ρ 14])) (fun hh => hh c10)
      exact runS10 N hlk (ai u6 false d10 (ai u4 true d5 (ai u3 true d4 (ai u2 true d3 (ai u1 false d2 (ai u0 false d1 al0)))))) fun G => by kernel_rfl
    · have d2 : u1.den T = some [b2i true] := tr (p := T.ρ 5 ≤ T.ρ 14) (Int.not_lt.1 c2)
      have c3 : ¬ (T.ρ 14 < T.ρ 6) := by omega
      have d3 : u4.den T = some [b2i true] := tr (p := T.ρ 6 ≤ T.ρ 14) (Int.not_lt.1 c3)
      have d7 : u2.den T = some [b2i true] := tr (p := (0 : Int) ≤ T.ρ 14) (Int.not_lt.1 c1)
      exact runS10 N hlk (ai u2 true d7 (ai u4 true d3 (ai u1 true d2 (ai u0 false d1 al0)))) fun G => by kernel_rfl
end Go.Proofs.Ytokcoabcflpbbaa
