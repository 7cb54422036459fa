/-
  MemStays: its ways, by shape and kind. Conditions: those each says.
-/
import Derived.Test.YtokcoabcflpbbaaMS1
namespace Go.Proofs.Ytokcoabcflpbbaa
open Go.Ev Go.RowKit
set_option maxRecDepth 100000
set_option linter.unusedVariables false
set_option maxHeartbeats 4000000 in
theorem law00_0 {T : Sy} {w : World} {l : List Value} (N : LawIn T w l) (s1 : T.ρ 5 = 0) (s2 : T.ρ 6 = 0) (hk : T.ρ 10 = 0) (z70 : ∀ j : Int, T.Φ 70 [j] = (fun j => T.Φ 60 [j]) j) (z71 : ∀ j : Int, T.Φ 71 [j] = (fun j => T.Φ 61 [j]) j) (hlk : LkOk Try.prog T [] ΛS00 (lkL [kS0])) : Holds w l := by
  have r5 := N.r5; have r6 := N.r6
  have al0 := (AlOk.app (alK_ok (k := 0) hk (by decide)) (alB_ok N (show true = _ from by rw [decide_eq_true (by omega)]) (show true = _ from by rw [decide_eq_true (by omega)])))
  by_cases c0 : T.ρ 14 < (0 : Int)
  · have d0 : u0.den T = some [b2i true] := tr (p := T.ρ 14 < (0 : Int)) c0
    exact runS00 N hlk (ai u0 true d0 al0) fun G => by kernel_rfl
  · have d0 : u0.den T = some [b2i false] := fls (p := T.ρ 14 < (0 : Int)) c0
    have c1 : ¬ (T.ρ 14 < T.ρ 5) := by omega
    have d1 : u1.den T = some [b2i true] := tr (p := T.ρ 5 ≤ T.ρ 14) (Int.not_lt.1 c1)
    have c2 : ¬ (T.ρ 14 < T.ρ 6) := by omega
    have d2 : u4.den T = some [b2i true] := tr (p := T.ρ 6 ≤ T.ρ 14) (Int.not_lt.1 c2)
    have d7 : u2.den T = some [b2i true] := tr (p := (0 : Int) ≤ T.ρ 14) (Int.not_lt.1 c0)
    exact runS00 N hlk (ai u2 true d7 (ai u4 true d2 (ai u1 true d1 (ai u0 false d0 al0)))) fun G => by kernel_rfl
set_option maxHeartbeats 4000000 in
theorem law00_1 {T : Sy} {w : World} {l : List Value} (N : LawIn T w l) (s1 : T.ρ 5 = 0) (s2 : T.ρ 6 = 0) (hk : T.ρ 10 = 1) (z70 : ∀ j : Int, T.Φ 70 [j] = (fun j => T.Φ 60 [j]) j) (z71 : ∀ j : Int, T.Φ 71 [j] = (fun j => T.Φ 61 [j]) j) (hlk : LkOk Try.prog T [] ΛS00 (lkL [kS0])) : Holds w l := by
  have r5 := N.r5; have r6 := N.r6
  have al0 := (AlOk.app (alK_ok (k := 1) hk (by decide)) (alB_ok N (show true = _ from by rw [decide_eq_true (by omega)]) (show true = _ from by rw [decide_eq_true (by omega)])))
  by_cases c0 : T.ρ 14 < (0 : Int)
  · have d0 : u0.den T = some [b2i true] := tr (p := T.ρ 14 < (0 : Int)) c0
    by_cases c1 : T.ρ 11 < (0 : Int)
    · have d1 : u8.den T = some [b2i true] := tr (p := T.ρ 11 < (0 : Int)) c1
      exact runS00 N hlk (ai u8 true d1 (ai u0 true d0 al0)) fun G => by kernel_rfl
    · have d1 : u8.den T = some [b2i false] := fls (p := T.ρ 11 < (0 : Int)) c1
      have c2 : ¬ (T.ρ 11 < T.ρ 5) := by omega
      have d2 : u9.den T = some [b2i true] := tr (p := T.ρ 5 ≤ T.ρ 11) (Int.not_lt.1 c2)
      have d7 : u10.den T = some [b2i true] := tr (p := (0 : Int) ≤ T.ρ 11) (Int.not_lt.1 c1)
      exact runS00 N hlk (ai u10 true d7 (ai u9 true d2 (ai u8 false d1 (ai u0 true d0 al0)))) fun G => by kernel_rfl
  · have d0 : u0.den T = some [b2i false] := fls (p := T.ρ 14 < (0 : Int)) c0
    have c1 : ¬ (T.ρ 14 < T.ρ 5) := by omega
    have d1 : u1.den T = some [b2i true] := tr (p := T.ρ 5 ≤ T.ρ 14) (Int.not_lt.1 c1)
    have c2 : ¬ (T.ρ 14 < T.ρ 6) := by omega
    have d2 : u4.den T = some [b2i true] := tr (p := T.ρ 6 ≤ T.ρ 14) (Int.not_lt.1 c2)
    by_cases c3 : T.ρ 11 < (0 : Int)
    · have d3 : u8.den T = some [b2i true] := tr (p := T.ρ 11 < (0 : Int)) c3
      have d8 : u2.den T = some [b2i true] := tr (p := (0 : Int) ≤ T.ρ 14) (Int.not_lt.1 c0)
      exact runS00 N hlk (ai u2 true d8 (ai u8 true d3 (ai u4 true d2 (ai u1 true d1 (ai u0 false d0 al0))))) fun G => by kernel_rfl
    · have d3 : u8.den T = some [b2i false] := fls (p := T.ρ 11 < (0 : Int)) c3
      have c4 : ¬ (T.ρ 11 < T.ρ 5) := by omega
      have d4 : u9.den T = some [b2i true] := tr (p := T.ρ 5 ≤ T.ρ 11) (Int.not_lt.1 c4)
      have d9 : u2.den T = some [b2i true] := tr (p := (0 : Int) ≤ T.ρ 14) (Int.not_lt.1 c0)
      have d10 : u10.den T = some [b2i true] := tr (p := (0 : Int) ≤ T.ρ 11) (Int.not_lt.1 c3)
      exact runS00 N hlk (ai u10 true d10 (ai u2 true d9 (ai u9 true d4 (ai u8 false d3 (ai u4 true d2 (ai u1 true d1 (ai u0 false d0 al0))))))) fun G => by kernel_rfl
set_option maxHeartbeats 4000000 in
theorem law00_2 {T : Sy} {w : World} {l : List Value} (N : LawIn T w l) (s1 : T.ρ 5 = 0) (s2 : T.ρ 6 = 0) (hk : T.ρ 10 = 2) (z70 : ∀ j : Int, T.Φ 70 [j] = (fun j => T.Φ 60 [j]) j) (z71 : ∀ j : Int, T.Φ 71 [j] = (fun j => T.Φ 61 [j]) j) (hlk : LkOk Try.prog T [] ΛS00 (lkL [kS0])) : Holds w l := by
  have r5 := N.r5; have r6 := N.r6
  have al0 := (AlOk.app (alK_ok (k := 2) hk (by decide)) (alB_ok N (show true = _ from by rw [decide_eq_true (by omega)]) (show true = _ from by rw [decide_eq_true (by omega)])))
  by_cases c0 : T.ρ 14 < (0 : Int)
  · have d0 : u0.den T = some [b2i true] := tr (p := T.ρ 14 < (0 : Int)) c0
    by_cases c1 : T.ρ 11 < (0 : Int)
    · have d1 : u8.den T = some [b2i true] := tr (p := T.ρ 11 < (0 : Int)) c1
      exact runS00 N hlk (ai u8 true d1 (ai u0 true d0 al0)) fun G => by kernel_rfl
    · have d1 : u8.den T = some [b2i false] := fls (p := T.ρ 11 < (0 : Int)) c1
      have c2 : ¬ (T.ρ 11 < T.ρ 5) := by omega
      have d2 : u9.den T = some [b2i true] := tr (p := T.ρ 5 ≤ T.ρ 11) (Int.not_lt.1 c2)
      have d7 : u10.den T = some [b2i true] := tr (p := (0 : Int) ≤ T.ρ 11) (Int.not_lt.1 c1)
      exact runS00 N hlk (ai u10 true d7 (ai u9 true d2 (ai u8 false d1 (ai u0 true d0 al0)))) fun G => by kernel_rfl
  · have d0 : u0.den T = some [b2i false] := fls (p := T.ρ 14 < (0 : Int)) c0
    have c1 : ¬ (T.ρ 14 < T.ρ 5) := by omega
    have d1 : u1.den T = some [b2i true] := tr (p := T.ρ 5 ≤ T.ρ 14) (Int.not_lt.1 c1)
    have c2 : ¬ (T.ρ 14 < T.ρ 6) := by omega
    have d2 : u4.den T = some [b2i true] := tr (p := T.ρ 6 ≤ T.ρ 14) (Int.not_lt.1 c2)
    by_cases c3 : T.ρ 11 < (0 : Int)
    · have d3 : u8.den T = some [b2i true] := tr (p := T.ρ 11 < (0 : Int)) c3
      have d8 : u2.den T = some [b2i true] := tr (p := (0 : Int) ≤ T.ρ 14) (Int.not_lt.1 c0)
      exact runS00 N hlk (ai u2 true d8 (ai u8 true d3 (ai u4 true d2 (ai u1 true d1 (ai u0 false d0 al0))))) fun G => by kernel_rfl
    · have d3 : u8.den T = some [b2i false] := fls (p := T.ρ 11 < (0 : Int)) c3
      have c4 : ¬ (T.ρ 11 < T.ρ 5) := by omega
      have d4 : u9.den T = some [b2i true] := tr (p := T.ρ 5 ≤ T.ρ 11) (Int.not_lt.1 c4)
      have d9 : u2.den T = some [b2i true] := tr (p := (0 : Int) ≤ T.ρ 14) (Int.not_lt.1 c0)
      have d10 : u10.den T = some [b2i true] := tr (p := (0 : Int) ≤ T.ρ 11) (Int.not_lt.1 c3)
      exact runS00 N hlk (ai u10 true d10 (ai u2 true d9 (ai u9 true d4 (ai u8 false d3 (ai u4 true d2 (ai u1 true d1 (ai u0 false d0 al0))))))) fun G => by kernel_rfl
set_option maxHeartbeats 4000000 in
theorem law00_3 {T : Sy} {w : World} {l : List Value} (N : LawIn T w l) (s1 : T.ρ 5 = 0) (s2 : T.ρ 6 = 0) (hk : T.ρ 10 = 3) (z70 : ∀ j : Int, T.Φ 70 [j] = (fun j => T.Φ 60 [j]) j) (z71 : ∀ j : Int, T.Φ 71 [j] = (fun j => T.Φ 61 [j]) j) (hlk : LkOk Try.prog T [] ΛS00 (lkL [kS0])) : Holds w l := by
  have r5 := N.r5; have r6 := N.r6
  have al0 := (AlOk.app (alK_ok (k := 3) hk (by decide)) (alB_ok N (show true = _ from by rw [decide_eq_true (by omega)]) (show true = _ from by rw [decide_eq_true (by omega)])))
  by_cases c0 : T.ρ 14 < (0 : Int)
  · have d0 : u0.den T = some [b2i true] := tr (p := T.ρ 14 < (0 : Int)) c0
    by_cases c1 : T.ρ 11 < (0 : Int)
    · have d1 : u8.den T = some [b2i true] := tr (p := T.ρ 11 < (0 : Int)) c1
      exact runS00 N hlk (ai u8 true d1 (ai u0 true d0 al0)) fun G => by kernel_rfl
    · have d1 : u8.den T = some [b2i false] := fls (p := T.ρ 11 < (0 : Int)) c1
      have c2 : ¬ (T.ρ 11 < T.ρ 5) := by omega
      have d2 : u9.den T = some [b2i true] := tr (p := T.ρ 5 ≤ T.ρ 11) (Int.not_lt.1 c2)
      have d7 : u10.den T = some [b2i true] := tr (p := (0 : Int) ≤ T.ρ 11) (Int.not_lt.1 c1)
      exact runS00 N hlk (ai u10 true d7 (ai u9 true d2 (ai u8 false d1 (ai u0 true d0 al0)))) fun G => by kernel_rfl
  · have d0 : u0.den T = some [b2i false] := fls (p := T.ρ 14 < (0 : Int)) c0
    have c1 : ¬ (T.ρ 14 < T.ρ 5) := by omega
    have d1 : u1.den T = some [b2i true] := tr (p := T.ρ 5 ≤ T.ρ 14) (Int.not_lt.1 c1)
    have c2 : ¬ (T.ρ 14 < T.ρ 6) := by omega
    have d2 : u4.den T = some [b2i true] := tr (p := T.ρ 6 ≤ T.ρ 14) (Int.not_lt.1 c2)
    by_cases c3 : T.ρ 11 < (0 : Int)
    · have d3 : u8.den T = some [b2i true] := tr (p := T.ρ 11 < (0 : Int)) c3
      have d8 : u2.den T = some [b2i true] := tr (p := (0 : Int) ≤ T.ρ 14) (Int.not_lt.1 c0)
      exact runS00 N hlk (ai u2 true d8 (ai u8 true d3 (ai u4 true d2 (ai u1 true d1 (ai u0 false d0 al0))))) fun G => by kernel_rfl
    · have d3 : u8.den T = some [b2i false] := fls (p := T.ρ 11 < (0 : Int)) c3
      have c4 : ¬ (T.ρ 11 < T.ρ 5) := by omega
      have d4 : u9.den T = some [b2i true] := tr (p := T.ρ 5 ≤ T.ρ 11) (Int.not_lt.1 c4)
      have d9 : u2.den T = some [b2i true] := tr (p := (0 : Int) ≤ T.ρ 14) (Int.not_lt.1 c0)
      have d10 : u10.den T = some [b2i true] := tr (p := (0 : Int) ≤ T.ρ 11) (Int.not_lt.1 c3)
      exact runS00 N hlk (ai u10 true d10 (ai u2 true d9 (ai u9 true d4 (ai u8 false d3 (ai u4 true d2 (ai u1 true d1 (ai u0 false d0 al0))))))) fun G => by kernel_rfl
set_option maxHeartbeats 4000000 in
theorem law00_4 {T : Sy} {w : World} {l : List Value} (N : LawIn T w l) (s1 : T.ρ 5 = 0) (s2 : T.ρ 6 = 0) (hk : T.ρ 10 = 4) (z70 : ∀ j : Int, T.Φ 70 [j] = (fun j => T.Φ 60 [j]) j) (z71 : ∀ j : Int, T.Φ 71 [j] = (fun j => T.Φ 61 [j]) j) (hlk : LkOk Try.prog T [] ΛS00 (lkL [kS0])) : Holds w l := by
  have r5 := N.r5; have r6 := N.r6
  have al0 := (AlOk.app (alK_ok (k := 4) hk (by decide)) (alB_ok N (show true = _ from by rw [decide_eq_true (by omega)]) (show true = _ from by rw [decide_eq_true (by omega)])))
  by_cases c0 : T.ρ 14 < (0 : Int)
  · have d0 : u0.den T = some [b2i true] := tr (p := T.ρ 14 < (0 : Int)) c0
    by_cases c1 : T.ρ 11 < (0 : Int)
    · have d1 : u8.den T = some [b2i true] := tr (p := T.ρ 11 < (0 : Int)) c1
      exact runS00 N hlk (ai u8 true d1 (ai u0 true d0 al0)) fun G => by kernel_rfl
    · have d1 : u8.den T = some [b2i false] := fls (p := T.ρ 11 < (0 : Int)) c1
      have c2 : ¬ (T.ρ 11 < T.ρ 5) := by omega
      have d2 : u9.den T = some [b2i true] := tr (p := T.ρ 5 ≤ T.ρ 11) (Int.not_lt.1 c2)
      have d7 : u10.den T = some [b2i true] := tr (p := (0 : Int) ≤ T.ρ 11) (Int.not_lt.1 c1)
      exact runS00 N hlk (ai u10 true d7 (ai u9 true d2 (ai u8 false d1 (ai u0 true d0 al0)))) fun G => by kernel_rfl
  · have d0 : u0.den T = some [b2i false] := fls (p := T.ρ 14 < (0 : Int)) c0
    have c1 : ¬ (T.ρ 14 < T.ρ 5) := by omega
    have d1 : u1.den T = some [b2i true] := tr (p := T.ρ 5 ≤ T.ρ 14) (Int.not_lt.1 c1)
    have c2 : ¬ (T.ρ 14 < T.ρ 6) := by omega
    have d2 : u4.den T = some [b2i true] := tr (p := T.ρ 6 ≤ T.ρ 14) (Int.not_lt.1 c2)
    by_cases c3 : T.ρ 11 < (0 : Int)
    · have d3 : u8.den T = some [b2i true] := tr (p := T.ρ 11 < (0 : Int)) c3
      have d8 : u2.den T = some [b2i true] := tr (p := (0 : Int) ≤ T.ρ 14) (Int.not_lt.1 c0)
      exact runS00 N hlk (ai u2 true d8 (ai u8 true d3 (ai u4 true d2 (ai u1 true d1 (ai u0 false d0 al0))))) fun G => by kernel_rfl
    · have d3 : u8.den T = some [b2i false] := fls (p := T.ρ 11 < (0 : Int)) c3
      have c4 : ¬ (T.ρ 11 < T.ρ 5) := by omega
      have d4 : u9.den T = some [b2i true] := tr (p := T.ρ 5 ≤ T.ρ 11) (Int.not_lt.1 c4)
      have d9 : u2.den T = some [b2i true] := tr (p := (0 : Int) ≤ T.ρ 14) (Int.not_lt.1 c0)
      have d10 : u10.den T = some [b2i true] := tr (p := (0 : Int) ≤ T.ρ 11) (Int.not_lt.1 c3)
      exact runS00 N hlk (ai u10 true d10 (ai u2 true d9 (ai u9 true d4 (ai u8 false d3 (ai u4 true d2 (ai u1 true d1 (ai u0 false d0 al0))))))) fun G => by kernel_rfl
set_option maxHeartbeats 4000000 in
theorem law00_5 {T : Sy} {w : World} {l : List Value} (N : LawIn T w l) (s1 : T.ρ 5 = 0) (s2 : T.ρ 6 = 0) (hk : T.ρ 10 = 5) (z70 : ∀ j : Int, T.Φ 70 [j] = (fun j => T.Φ 60 [j]) j) (z71 : ∀ j : Int, T.Φ 71 [j] = (fun j => T.Φ 61 [j]) j) (hlk : LkOk Try.prog T [] ΛS00 (lkL [kS0])) : Holds w l := by
  have r5 := N.r5; have r6 := N.r6
  have al0 := (AlOk.app (alK_ok (k := 5) hk (by decide)) (alB_ok N (show true = _ from by rw [decide_eq_true (by omega)]) (show true = _ from by rw [decide_eq_true (by omega)])))
  by_cases c0 : T.ρ 14 < (0 : Int)
  · have d0 : u0.den T = some [b2i true] := tr (p := T.ρ 14 < (0 : Int)) c0
    by_cases c1 : T.ρ 11 < (0 : Int)
    · have d1 : u8.den T = some [b2i true] := tr (p := T.ρ 11 < (0 : Int)) c1
      exact runS00 N hlk (ai u8 true d1 (ai u0 true d0 al0)) fun G => by kernel_rfl
    · have d1 : u8.den T = some [b2i false] := fls (p := T.ρ 11 < (0 : Int)) c1
      have c2 : ¬ (T.ρ 11 < T.ρ 6) := by omega
      have d2 : u18.den T = some [b2i true] := tr (p := T.ρ 6 ≤ T.ρ 11) (Int.not_lt.1 c2)
      have d7 : u10.den T = some [b2i true] := tr (p := (0 : Int) ≤ T.ρ 11) (Int.not_lt.1 c1)
      exact runS00 N hlk (ai u10 true d7 (ai u18 true d2 (ai u8 false d1 (ai u0 true d0 al0)))) fun G => by kernel_rfl
  · have d0 : u0.den T = some [b2i false] := fls (p := T.ρ 14 < (0 : Int)) c0
    have c1 : ¬ (T.ρ 14 < T.ρ 5) := by omega
    have d1 : u1.den T = some [b2i true] := tr (p := T.ρ 5 ≤ T.ρ 14) (Int.not_lt.1 c1)
    have c2 : ¬ (T.ρ 14 < T.ρ 6) := by omega
    have d2 : u4.den T = some [b2i true] := tr (p := T.ρ 6 ≤ T.ρ 14) (Int.not_lt.1 c2)
    by_cases c3 : T.ρ 11 < (0 : Int)
    · have d3 : u8.den T = some [b2i true] := tr (p := T.ρ 11 < (0 : Int)) c3
      have d8 : u2.den T = some [b2i true] := tr (p := (0 : Int) ≤ T.ρ 14) (Int.not_lt.1 c0)
      exact runS00 N hlk (ai u2 true d8 (ai u8 true d3 (ai u4 true d2 (ai u1 true d1 (ai u0 false d0 al0))))) fun G => by kernel_rfl
    · have d3 : u8.den T = some [b2i false] := fls (p := T.ρ 11 < (0 : Int)) c3
      have c4 : ¬ (T.ρ 11 < T.ρ 6) := by omega
      have d4 : u18.den T = some [b2i true] := tr (p := T.ρ 6 ≤ T.ρ 11) (Int.not_lt.1 c4)
      have d9 : u2.den T = some [b2i true] := tr (p := (0 : Int) ≤ T.ρ 14) (Int.not_lt.1 c0)
      have d10 : u10.den T = some [b2i true] := tr (p := (0 : Int) ≤ T.ρ 11) (Int.not_lt.1 c3)
      exact runS00 N hlk (ai u10 true d10 (ai u2 true d9 (ai u18 true d4 (ai u8 false d3 (ai u4 true d2 (ai u1 true d1 (ai u0 false d0 al0))))))) fun G => by kernel_rfl
set_option maxHeartbeats 4000000 in
theorem law00_6 {T : Sy} {w : World} {l : List Value} (N : LawIn T w l) (s1 : T.ρ 5 = 0) (s2 : T.ρ 6 = 0) (hk : T.ρ 10 = 6) (z70 : ∀ j : Int, T.Φ 70 [j] = (fun j => T.Φ 60 [j]) j) (z71 : ∀ j : Int, T.Φ 71 [j] = (fun j => T.Φ 61 [j]) j) (hlk : LkOk Try.prog T [] ΛS00 (lkL [kS0])) : Holds w l := by
  have r5 := N.r5; have r6 := N.r6
  have al0 := (AlOk.app (alK_ok (k := 6) hk (by decide)) (alB_ok N (show true = _ from by rw [decide_eq_true (by omega)]) (show true = _ from by rw [decide_eq_true (by omega)])))
  by_cases c0 : T.ρ 14 < (0 : Int)
  · have d0 : u0.den T = some [b2i true] := tr (p := T.ρ 14 < (0 : Int)) c0
    by_cases c1 : T.ρ 11 < (0 : Int)
    · have d1 : u8.den T = some [b2i true] := tr (p := T.ρ 11 < (0 : Int)) c1
      exact runS00 N hlk (ai u8 true d1 (ai u0 true d0 al0)) fun G => by kernel_rfl
    · have d1 : u8.den T = some [b2i false] := fls (p := T.ρ 11 < (0 : Int)) c1
      have c2 : ¬ (T.ρ 11 < T.ρ 6) := by omega
      have d2 : u18.den T = some [b2i true] := tr (p := T.ρ 6 ≤ T.ρ 11) (Int.not_lt.1 c2)
      have d7 : u10.den T = some [b2i true] := tr (p := (0 : Int) ≤ T.ρ 11) (Int.not_lt.1 c1)
      exact runS00 N hlk (ai u10 true d7 (ai u18 true d2 (ai u8 false d1 (ai u0 true d0 al0)))) fun G => by kernel_rfl
  · have d0 : u0.den T = some [b2i false] := fls (p := T.ρ 14 < (0 : Int)) c0
    have c1 : ¬ (T.ρ 14 < T.ρ 5) := by omega
    have d1 : u1.den T = some [b2i true] := tr (p := T.ρ 5 ≤ T.ρ 14) (Int.not_lt.1 c1)
    have c2 : ¬ (T.ρ 14 < T.ρ 6) := by omega
    have d2 : u4.den T = some [b2i true] := tr (p := T.ρ 6 ≤ T.ρ 14) (Int.not_lt.1 c2)
    by_cases c3 : T.ρ 11 < (0 : Int)
    · have d3 : u8.den T = some [b2i true] := tr (p := T.ρ 11 < (0 : Int)) c3
      have d8 : u2.den T = some [b2i true] := tr (p := (0 : Int) ≤ T.ρ 14) (Int.not_lt.1 c0)
      exact runS00 N hlk (ai u2 true d8 (ai u8 true d3 (ai u4 true d2 (ai u1 true d1 (ai u0 false d0 al0))))) fun G => by kernel_rfl
    · have d3 : u8.den T = some [b2i false] := fls (p := T.ρ 11 < (0 : Int)) c3
      have c4 : ¬ (T.ρ 11 < T.ρ 6) := by omega
      have d4 : u18.den T = some [b2i true] := tr (p := T.ρ 6 ≤ T.ρ 11) (Int.not_lt.1 c4)
      have d9 : u2.den T = some [b2i true] := tr (p := (0 : Int) ≤ T.ρ 14) (Int.not_lt.1 c0)
      have d10 : u10.den T = some [b2i true] := tr (p := (0 : Int) ≤ T.ρ 11) (Int.not_lt.1 c3)
      exact runS00 N hlk (ai u10 true d10 (ai u2 true d9 (ai u18 true d4 (ai u8 false d3 (ai u4 true d2 (ai u1 true d1 (ai u0 false d0 al0))))))) fun G => by kernel_rfl
set_option maxHeartbeats 4000000 in
theorem law00_7 {T : Sy} {w : World} {l : List Value} (N : LawIn T w l) (s1 : T.ρ 5 = 0) (s2 : T.ρ 6 = 0) (hk : 7 ≤ T.ρ 10 ∧ T.ρ 10 < 256) (z70 : ∀ j : Int, T.Φ 70 [j] = (fun j => T.Φ 60 [j]) j) (z71 : ∀ j : Int, T.Φ 71 [j] = (fun j => T.Φ 61 [j]) j) (hlk : LkOk Try.prog T [] ΛS00 (lkL [kS0])) : Holds w l := by
  have r5 := N.r5; have r6 := N.r6
  have al0 := (AlOk.app (alK7_ok hk.1 hk.2) (alB_ok N (show true = _ from by rw [decide_eq_true (by omega)]) (show true = _ from by rw [decide_eq_true (by omega)])))
  by_cases c0 : T.ρ 14 < (0 : Int)
  · have d0 : u0.den T = some [b2i true] := tr (p := T.ρ 14 < (0 : Int)) c0
    exact runS00 N hlk (ai u0 true d0 al0) fun G => by kernel_rfl
  · have d0 : u0.den T = some [b2i false] := fls (p := T.ρ 14 < (0 : Int)) c0
    have c1 : ¬ (T.ρ 14 < T.ρ 5) := by omega
    have d1 : u1.den T = some [b2i true] := tr (p := T.ρ 5 ≤ T.ρ 14) (Int.not_lt.1 c1)
    have c2 : ¬ (T.ρ 14 < T.ρ 6) := by omega
    have d2 : u4.den T = some [b2i true] := tr (p := T.ρ 6 ≤ T.ρ 14) (Int.not_lt.1 c2)
    have d7 : u2.den T = some [b2i true] := tr (p := (0 : Int) ≤ T.ρ 14) (Int.not_lt.1 c0)
    exact runS00 N hlk (ai u2 true d7 (ai u4 true d2 (ai u1 true d1 (ai u0 false d0 al0)))) fun G => by kernel_rfl
end Go.Proofs.Ytokcoabcflpbbaa
