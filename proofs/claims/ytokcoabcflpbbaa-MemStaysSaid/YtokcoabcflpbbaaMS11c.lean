/-
  MemStays: its ways, by shape and kind. Conditions: those each says.
-/
import Derived.Test.YtokcoabcflpbbaaMS1
namespace Go.Proofs.Ytokcoabcflpbbaa
open Go.Ev Go.RowKit
set_option maxRecDepth 100000
set_option linter.unusedVariables false
set_option maxHeartbeats 4000000 in
theorem law11_3ca {T : Sy} {w : World} {l : List Value} (N : LawIn T w l) (s1 : 0 < T.ρ 5) (s2 : 0 < T.ρ 6) (hk : T.ρ 10 = 3) (hm : ((0 ≤ T.ρ 11 ∧ T.ρ 11 < T.ρ 5) ∧ T.Φ 60 [T.ρ 11] = T.ρ 12)) (z70 : ∀ j : Int, T.Φ 70 [j] = (fun j => ifE j (T.ρ 11) (T.ρ 13) (T.Φ 60 [j])) j) (z71 : ∀ j : Int, T.Φ 71 [j] = (fun j => T.Φ 61 [j]) j) (hlk : LkOk Try.prog T [] ΛS (lkL [kS0, kW11ca, kB1170])) : Holds w l := by
  have r5 := N.r5; have r6 := N.r6
  have al0 := (AlOk.app (alK_ok (k := 3) hk (by decide)) (alB_ok N (show false = _ from by rw [decide_eq_false (by omega)]) (show false = _ from by rw [decide_eq_false (by omega)])))
  by_cases c2 : T.ρ 14 < (0 : Int)
  · have d2 : u0.den T = some [b2i true] := tr (p := T.ρ 14 < (0 : Int)) c2
    have c3 : ¬ (T.ρ 11 < (0 : Int)) := by omega
    have d3 : u8.den T = some [b2i false] := fls (p := T.ρ 11 < (0 : Int)) c3
    have c4 : T.ρ 11 < T.ρ 5 := by omega
    have d4 : u9.den T = some [b2i false] := fls (p := T.ρ 5 ≤ T.ρ 11) (Int.not_le.2 c4)
    have d5 : u10.den T = some [b2i true] := tr (p := (0 : Int) ≤ T.ρ 11) (Int.not_lt.1 c3)
    have d6 : u11.den T = some [b2i true] := tr (p := T.ρ 11 < T.ρ 5) c4
    have c7 : (T.Φ 60 [T.ρ 11]) = T.ρ 12 := by omega
    have d7 : u15.den T = some [b2i false] := fls (p := (T.Φ 60 [T.ρ 11]) ≠ T.ρ 12) (fun hh => hh c7)
    have c8 : ¬ (T.ρ 11 = T.ρ 14) := by omega
    have d8 : u12.den T = some [b2i true] := tr (p := T.ρ 11 ≠ T.ρ 14) c8
    exact runS N hlk (ai u12 true d8 (ai u15 false d7 (ai u11 true d6 (ai u10 true d5 (ai u9 false d4 (ai u8 false d3 (ai u0 true d2 al0))))))) fun G => by kernel_rfl
  · have d2 : u0.den T = some [b2i false] := fls (p := T.ρ 14 < (0 : Int)) c2
    by_cases c3 : T.ρ 14 < T.ρ 5
    · have d3 : u1.den T = some [b2i false] := fls (p := T.ρ 5 ≤ T.ρ 14) (Int.not_le.2 c3)
      have d4 : u2.den T = some [b2i true] := tr (p := (0 : Int) ≤ T.ρ 14) (Int.not_lt.1 c2)
      have d5 : u3.den T = some [b2i true] := tr (p := T.ρ 14 < T.ρ 5) c3
      by_cases c6 : T.ρ 14 < T.ρ 6
      · have d6 : u4.den T = some [b2i false] := fls (p := T.ρ 6 ≤ T.ρ 14) (Int.not_le.2 c6)
        have d7 : u5.den T = some [b2i true] := tr (p := T.ρ 14 < T.ρ 6) c6
        have c8 : ¬ (T.ρ 11 < (0 : Int)) := by omega
        have d8 : u8.den T = some [b2i false] := fls (p := T.ρ 11 < (0 : Int)) c8
        have c9 : T.ρ 11 < T.ρ 5 := by omega
        have d9 : u9.den T = some [b2i false] := fls (p := T.ρ 5 ≤ T.ρ 11) (Int.not_le.2 c9)
        have d10 : u10.den T = some [b2i true] := tr (p := (0 : Int) ≤ T.ρ 11) (Int.not_lt.1 c8)
        have d11 : u11.den T = some [b2i true] := tr (p := T.ρ 11 < T.ρ 5) c9
        have c12 : (T.Φ 60 [T.ρ 11]) = T.ρ 12 := by omega
        have d12 : u15.den T = some [b2i false] := fls (p := (T.Φ 60 [T.ρ 11]) ≠ T.ρ 12) (fun hh => hh c12)
        by_cases c13 : T.ρ 11 = T.ρ 14
        · have d13 : u12.den T = some [b2i false] := fls (p := T.ρ 11 ≠ T.ρ 14) (fun hh => hh c13)
          exact runS N hlk (ai u12 false d13 (ai u15 false d12 (ai u11 true d11 (ai u10 true d10 (ai u9 false d9 (ai u8 false d8 (ai u5 true d7 (ai u4 false d6 (ai u3 true d5 (ai u2 true d4 (ai u1 false d3 (ai u0 false d2 al0)))))))))))) fun G => by kernel_rfl
        · have d13 : u12.den T = some [b2i true] := tr (p := T.ρ 11 ≠ T.ρ 14) c13
          by_cases c14 : T.ρ 14 = T.ρ 11
          · have d14 : u13.den T = some [b2i true] := tr (p := T.ρ 14 = T.ρ 11) c14
            have c15 : T.ρ 13 = (T.Φ 60 [T.ρ 14]) := by omega
            have d15 : u16.den T = some [b2i false] := fls (p := T.ρ 13 ≠ (T.Φ 60 [T.ρ 14])) (fun hh => hh c15)
            exact runS N hlk (ai u16 false d15 (ai u13 true d14 (ai u12 true d13 (ai u15 false d12 (ai u11 true d11 (ai u10 true d10 (ai u9 false d9 (ai u8 false d8 (ai u5 true d7 (ai u4 false d6 (ai u3 true d5 (ai u2 true d4 (ai u1 false d3 (ai u0 false d2 al0)))))))))))))) fun G => by kernel_rfl
          · have d14 : u13.den T = some [b2i false] := fls (p := T.ρ 14 = T.ρ 11) c14
            exact runS N hlk (ai u13 false d14 (ai u12 true d13 (ai u15 false d12 (ai u11 true d11 (ai u10 true d10 (ai u9 false d9 (ai u8 false d8 (ai u5 true d7 (ai u4 false d6 (ai u3 true d5 (ai u2 true d4 (ai u1 false d3 (ai u0 false d2 al0))))))))))))) fun G => by kernel_rfl
      · have d6 : u4.den T = some [b2i true] := tr (p := T.ρ 6 ≤ T.ρ 14) (Int.not_lt.1 c6)
        have c7 : ¬ (T.ρ 11 < (0 : Int)) := by omega
        have d7 : u8.den T = some [b2i false] := fls (p := T.ρ 11 < (0 : Int)) c7
        have c8 : T.ρ 11 < T.ρ 5 := by omega
        have d8 : u9.den T = some [b2i false] := fls (p := T.ρ 5 ≤ T.ρ 11) (Int.not_le.2 c8)
        have d9 : u10.den T = some [b2i true] := tr (p := (0 : Int) ≤ T.ρ 11) (Int.not_lt.1 c7)
        have d10 : u11.den T = some [b2i true] := tr (p := T.ρ 11 < T.ρ 5) c8
        have c11 : (T.Φ 60 [T.ρ 11]) = T.ρ 12 := by omega
        have d11 : u15.den T = some [b2i false] := fls (p := (T.Φ 60 [T.ρ 11]) ≠ T.ρ 12) (fun hh => hh c11)
        by_cases c12 : T.ρ 11 = T.ρ 14
        · have d12 : u12.den T = some [b2i false] := fls (p := T.ρ 11 ≠ T.ρ 14) (fun hh => hh c12)
          exact runS N hlk (ai u12 false d12 (ai u15 false d11 (ai u11 true d10 (ai u10 true d9 (ai u9 false d8 (ai u8 false d7 (ai u4 true d6 (ai u3 true d5 (ai u2 true d4 (ai u1 false d3 (ai u0 false d2 al0))))))))))) fun G => by kernel_rfl
        · have d12 : u12.den T = some [b2i true] := tr (p := T.ρ 11 ≠ T.ρ 14) c12
          by_cases c13 : T.ρ 14 = T.ρ 11
          · have d13 : u13.den T = some [b2i true] := tr (p := T.ρ 14 = T.ρ 11) c13
            have c14 : T.ρ 13 = (T.Φ 60 [T.ρ 14]) := by omega
            have d14 : u16.den T = some [b2i false] := fls (p := T.ρ 13 ≠ (T.Φ 60 [T.ρ 14])) (fun hh => hh c14)
            exact runS N hlk (ai u16 false d14 (ai u13 true d13 (ai u12 true d12 (ai u15 false d11 (ai u11 true d10 (ai u10 true d9 (ai u9 false d8 (ai u8 false d7 (ai u4 true d6 (ai u3 true d5 (ai u2 true d4 (ai u1 false d3 (ai u0 false d2 al0))))))))))))) fun G => by kernel_rfl
          · have d13 : u13.den T = some [b2i false] := fls (p := T.ρ 14 = T.ρ 11) c13
            exact runS N hlk (ai u13 false d13 (ai u12 true d12 (ai u15 false d11 (ai u11 true d10 (ai u10 true d9 (ai u9 false d8 (ai u8 false d7 (ai u4 true d6 (ai u3 true d5 (ai u2 true d4 (ai u1 false d3 (ai u0 false d2 al0)))))))))))) fun G => by kernel_rfl
    · have d3 : u1.den T = some [b2i true] := tr (p := T.ρ 5 ≤ T.ρ 14) (Int.not_lt.1 c3)
      by_cases c4 : T.ρ 14 < T.ρ 6
      · have d4 : u4.den T = some [b2i false] := fls (p := T.ρ 6 ≤ T.ρ 14) (Int.not_le.2 c4)
        have d5 : u2.den T = some [b2i true] := tr (p := (0 : Int) ≤ T.ρ 14) (Int.not_lt.1 c2)
        have d6 : u5.den T = some [b2i true] := tr (p := T.ρ 14 < T.ρ 6) c4
        have c7 : ¬ (T.ρ 11 < (0 : Int)) := by omega
        have d7 : u8.den T = some [b2i false] := fls (p := T.ρ 11 < (0 : Int)) c7
        have c8 : T.ρ 11 < T.ρ 5 := by omega
        have d8 : u9.den T = some [b2i false] := fls (p := T.ρ 5 ≤ T.ρ 11) (Int.not_le.2 c8)
        have d9 : u10.den T = some [b2i true] := tr (p := (0 : Int) ≤ T.ρ 11) (Int.not_lt.1 c7)
        have d10 : u11.den T = some [b2i true] := tr (p := T.ρ 11 < T.ρ 5) c8
        have c11 : (T.Φ 60 [T.ρ 11]) = T.ρ 12 := by omega
        have d11 : u15.den T = some [b2i false] := fls (p := (T.Φ 60 [T.ρ 11]) ≠ T.ρ 12) (fun hh => hh c11)
        by_cases c12 : T.ρ 11 = T.ρ 14
        · have d12 : u12.den T = some [b2i false] := fls (p := T.ρ 11 ≠ T.ρ 14) (fun hh => hh c12)
          exact runS N hlk (ai u12 false d12 (ai u15 false d11 (ai u11 true d10 (ai u10 true d9 (ai u9 false d8 (ai u8 false d7 (ai u5 true d6 (ai u2 true d5 (ai u4 false d4 (ai u1 true d3 (ai u0 false d2 al0))))))))))) fun G => by kernel_rfl
        · have d12 : u12.den T = some [b2i true] := tr (p := T.ρ 11 ≠ T.ρ 14) c12
          exact runS N hlk (ai u12 true d12 (ai u15 false d11 (ai u11 true d10 (ai u10 true d9 (ai u9 false d8 (ai u8 false d7 (ai u5 true d6 (ai u2 true d5 (ai u4 false d4 (ai u1 true d3 (ai u0 false d2 al0))))))))))) fun G => by kernel_rfl
      · have d4 : u4.den T = some [b2i true] := tr (p := T.ρ 6 ≤ T.ρ 14) (Int.not_lt.1 c4)
        have c5 : ¬ (T.ρ 11 < (0 : Int)) := by omega
        have d5 : u8.den T = some [b2i false] := fls (p := T.ρ 11 < (0 : Int)) c5
        have c6 : T.ρ 11 < T.ρ 5 := by omega
        have d6 : u9.den T = some [b2i false] := fls (p := T.ρ 5 ≤ T.ρ 11) (Int.not_le.2 c6)
        have d7 : u10.den T = some [b2i true] := tr (p := (0 : Int) ≤ T.ρ 11) (Int.not_lt.1 c5)
        have d8 : u11.den T = some [b2i true] := tr (p := T.ρ 11 < T.ρ 5) c6
        have c9 : (T.Φ 60 [T.ρ 11]) = T.ρ 12 := by omega
        have d9 : u15.den T = some [b2i false] := fls (p := (T.Φ 60 [T.ρ 11]) ≠ T.ρ 12) (fun hh => hh c9)
        by_cases c10 : T.ρ 11 = T.ρ 14
        · have d10 : u12.den T = some [b2i false] := fls (p := T.ρ 11 ≠ T.ρ 14) (fun hh => hh c10)
          exact runS N hlk (ai u12 false d10 (ai u15 false d9 (ai u11 true d8 (ai u10 true d7 (ai u9 false d6 (ai u8 false d5 (ai u4 true d4 (ai u1 true d3 (ai u0 false d2 al0))))))))) fun G => by kernel_rfl
        · have d10 : u12.den T = some [b2i true] := tr (p := T.ρ 11 ≠ T.ρ 14) c10
          exact runS N hlk (ai u12 true d10 (ai u15 false d9 (ai u11 true d8 (ai u10 true d7 (ai u9 false d6 (ai u8 false d5 (ai u4 true d4 (ai u1 true d3 (ai u0 false d2 al0))))))))) fun G => by kernel_rfl
set_option maxHeartbeats 4000000 in
theorem law11_4 {T : Sy} {w : World} {l : List Value} (N : LawIn T w l) (s1 : 0 < T.ρ 5) (s2 : 0 < T.ρ 6) (hk : T.ρ 10 = 4) (hm : ¬ (0 ≤ T.ρ 11 ∧ T.ρ 11 < T.ρ 5)) (z70 : ∀ j : Int, T.Φ 70 [j] = (fun j => T.Φ 60 [j]) j) (z71 : ∀ j : Int, T.Φ 71 [j] = (fun j => T.Φ 61 [j]) j) (hlk : LkOk Try.prog T [] ΛS (lkL [kS0, orL kW11 kW11Z70, orL kB1170 kB11Z70])) : Holds w l := by
  have r5 := N.r5; have r6 := N.r6
  have al0 := (AlOk.app (alK_ok (k := 4) hk (by decide)) (alB_ok N (show false = _ from by rw [decide_eq_false (by omega)]) (show false = _ from by rw [decide_eq_false (by omega)])))
  by_cases c2 : T.ρ 14 < (0 : Int)
  · have d2 : u0.den T = some [b2i true] := tr (p := T.ρ 14 < (0 : Int)) c2
    by_cases c3 : T.ρ 11 < (0 : Int)
    · have d3 : u8.den T = some [b2i true] := tr (p := T.ρ 11 < (0 : Int)) c3
      exact runS N hlk (ai u8 true d3 (ai u0 true d2 al0)) fun G => by kernel_rfl
    · have d3 : u8.den T = some [b2i false] := fls (p := T.ρ 11 < (0 : Int)) c3
      have c4 : ¬ (T.ρ 11 < T.ρ 5) := by omega
      have d4 : u9.den T = some [b2i true] := tr (p := T.ρ 5 ≤ T.ρ 11) (Int.not_lt.1 c4)
      exact runS N hlk (ai u9 true d4 (ai u8 false d3 (ai u0 true d2 al0))) fun G => by kernel_rfl
  · have d2 : u0.den T = some [b2i false] := fls (p := T.ρ 14 < (0 : Int)) c2
    by_cases c3 : T.ρ 14 < T.ρ 5
    · have d3 : u1.den T = some [b2i false] := fls (p := T.ρ 5 ≤ T.ρ 14) (Int.not_le.2 c3)
      have d4 : u2.den T = some [b2i true] := tr (p := (0 : Int) ≤ T.ρ 14) (Int.not_lt.1 c2)
      have d5 : u3.den T = some [b2i true] := tr (p := T.ρ 14 < T.ρ 5) c3
      by_cases c6 : T.ρ 14 < T.ρ 6
      · have d6 : u4.den T = some [b2i false] := fls (p := T.ρ 6 ≤ T.ρ 14) (Int.not_le.2 c6)
        have d7 : u5.den T = some [b2i true] := tr (p := T.ρ 14 < T.ρ 6) c6
        by_cases c8 : T.ρ 11 < (0 : Int)
        · have d8 : u8.den T = some [b2i true] := tr (p := T.ρ 11 < (0 : Int)) c8
          have c13 : (T.Φ 70 [T.ρ 14]) = (T.Φ 60 [T.ρ 14]) := by simp only [z70]
          have d13 : u6.den T = some [b2i false] := fls (p := (T.Φ 70 [T.ρ 14]) ≠ (T.Φ 60 [T.ρ 14])) (fun hh => hh c13)
          have c14 : (IntKind.u8.wrap ((IntKind.u64.wrap ((T.Φ 71 [T.ρ 14]))))) = (IntKind.u8.wrap ((IntKind.u64.wrap ((T.Φ 61 [T.ρ 14]))))) := by simp only [z71]
          have d14 : u7.den T = some [b2i false] := fls (p := (IntKind.u8.wrap ((IntKind.u64.wrap ((T.Φ 71 [T.ρ 14]))))) ≠ (IntKind.u8.wrap ((IntKind.u64.wrap ((T.Φ 61 [T.ρ 14])))))) (fun hh => hh c14)
          exact runS N hlk (ai u7 false d14 (ai u6 false d13 (ai u8 true d8 (ai u5 true d7 (ai u4 false d6 (ai u3 true d5 (ai u2 true d4 (ai u1 false d3 (ai u0 false d2 al0))))))))) fun G => by kernel_rfl
        · have d8 : u8.den T = some [b2i false] := fls (p := T.ρ 11 < (0 : Int)) c8
          have c9 : ¬ (T.ρ 11 < T.ρ 5) := by omega
          have d9 : u9.den T = some [b2i true] := tr (p := T.ρ 5 ≤ T.ρ 11) (Int.not_lt.1 c9)
          have c14 : (T.Φ 70 [T.ρ 14]) = (T.Φ 60 [T.ρ 14]) := by simp only [z70]
          have d14 : u6.den T = some [b2i false] := fls (p := (T.Φ 70 [T.ρ 14]) ≠ (T.Φ 60 [T.ρ 14])) (fun hh => hh c14)
          have c15 : (IntKind.u8.wrap ((IntKind.u64.wrap ((T.Φ 71 [T.ρ 14]))))) = (IntKind.u8.wrap ((IntKind.u64.wrap ((T.Φ 61 [T.ρ 14]))))) := by simp only [z71]
          have d15 : u7.den T = some [b2i false] := fls (p := (IntKind.u8.wrap ((IntKind.u64.wrap ((T.Φ 71 [T.ρ 14]))))) ≠ (IntKind.u8.wrap ((IntKind.u64.wrap ((T.Φ 61 [T.ρ 14])))))) (fun hh => hh c15)
          exact runS N hlk (ai u7 false d15 (ai u6 false d14 (ai u9 true d9 (ai u8 false d8 (ai u5 true d7 (ai u4 false d6 (ai u3 true d5 (ai u2 true d4 (ai u1 false d3 (ai u0 false d2 al0)))))))))) fun G => by kernel_rfl
      · have d6 : u4.den T = some [b2i true] := tr (p := T.ρ 6 ≤ T.ρ 14) (Int.not_lt.1 c6)
        by_cases c7 : T.ρ 11 < (0 : Int)
        · have d7 : u8.den T = some [b2i true] := tr (p := T.ρ 11 < (0 : Int)) c7
          have c11 : (T.Φ 70 [T.ρ 14]) = (T.Φ 60 [T.ρ 14]) := by simp only [z70]
          have d11 : u6.den T = some [b2i false] := fls (p := (T.Φ 70 [T.ρ 14]) ≠ (T.Φ 60 [T.ρ 14])) (fun hh => hh c11)
          exact runS N hlk (ai u6 false d11 (ai u8 true d7 (ai u4 true d6 (ai u3 true d5 (ai u2 true d4 (ai u1 false d3 (ai u0 false d2 al0))))))) fun G => by kernel_rfl
        · have d7 : u8.den T = some [b2i false] := fls (p := T.ρ 11 < (0 : Int)) c7
          have c8 : ¬ (T.ρ 11 < T.ρ 5) := by omega
          have d8 : u9.den T = some [b2i true] := tr (p := T.ρ 5 ≤ T.ρ 11) (Int.not_lt.1 c8)
          have c12 : (T.Φ 70 [T.ρ 14]) = (T.Φ 60 [T.ρ 14]) := by simp only [z70]
          have d12 : u6.den T = some [b2i false] := fls (p := (T.Φ 70 [T.ρ 14]) ≠ (T.Φ 60 [T.ρ 14])) (fun hh => hh c12)
          exact runS N hlk (ai u6 false d12 (ai u9 true d8 (ai u8 false d7 (ai u4 true d6 (ai u3 true d5 (ai u2 true d4 (ai u1 false d3 (ai u0 false d2 al0)))))))) fun G => by kernel_rfl
    · have d3 : u1.den T = some [b2i true] := tr (p := T.ρ 5 ≤ T.ρ 14) (Int.not_lt.1 c3)
      by_cases c4 : T.ρ 14 < T.ρ 6
      · have d4 : u4.den T = some [b2i false] := fls (p := T.ρ 6 ≤ T.ρ 14) (Int.not_le.2 c4)
        have d5 : u2.den T = some [b2i true] := tr (p := (0 : Int) ≤ T.ρ 14) (Int.not_lt.1 c2)
        have d6 : u5.den T = some [b2i true] := tr (p := T.ρ 14 < T.ρ 6) c4
        by_cases c7 : T.ρ 11 < (0 : Int)
        · have d7 : u8.den T = some [b2i true] := tr (p := T.ρ 11 < (0 : Int)) c7
          have c11 : (IntKind.u8.wrap ((IntKind.u64.wrap ((T.Φ 71 [T.ρ 14]))))) = (IntKind.u8.wrap ((IntKind.u64.wrap ((T.Φ 61 [T.ρ 14]))))) := by simp only [z71]
          have d11 : u7.den T = some [b2i false] := fls (p := (IntKind.u8.wrap ((IntKind.u64.wrap ((T.Φ 71 [T.ρ 14]))))) ≠ (IntKind.u8.wrap ((IntKind.u64.wrap ((T.Φ 61 [T.ρ 14])))))) (fun hh => hh c11)
          exact runS N hlk (ai u7 false d11 (ai u8 true d7 (ai u5 true d6 (ai u2 true d5 (ai u4 false d4 (ai u1 true d3 (ai u0 false d2 al0))))))) fun G => by kernel_rfl
        · have d7 : u8.den T = some [b2i false] := fls (p := T.ρ 11 < (0 : Int)) c7
          have c8 : ¬ (T.ρ 11 < T.ρ 5) := by omega
          have d8 : u9.den T = some [b2i true] := tr (p := T.ρ 5 ≤ T.ρ 11) (Int.not_lt.1 c8)
          have c12 : (IntKind.u8.wrap ((IntKind.u64.wrap ((T.Φ 71 [T.ρ 14]))))) = (IntKind.u8.wrap ((IntKind.u64.wrap ((T.Φ 61 [T.ρ 14]))))) := by simp only [z71]
          have d12 : u7.den T = some [b2i false] := fls (p := (IntKind.u8.wrap ((IntKind.u64.wrap ((T.Φ 71 [T.ρ 14]))))) ≠ (IntKind.u8.wrap ((IntKind.u64.wrap ((T.Φ 61 [T.ρ 14])))))) (fun hh => hh c12)
          exact runS N hlk (ai u7 false d12 (ai u9 true d8 (ai u8 false d7 (ai u5 true d6 (ai u2 true d5 (ai u4 false d4 (ai u1 true d3 (ai u0 false d2 al0)))))))) fun G => by kernel_rfl
      · have d4 : u4.den T = some [b2i true] := tr (p := T.ρ 6 ≤ T.ρ 14) (Int.not_lt.1 c4)
        by_cases c5 : T.ρ 11 < (0 : Int)
        · have d5 : u8.den T = some [b2i true] := tr (p := T.ρ 11 < (0 : Int)) c5
          exact runS N hlk (ai u8 true d5 (ai u4 true d4 (ai u1 true d3 (ai u0 false d2 al0)))) fun G => by kernel_rfl
        · have d5 : u8.den T = some [b2i false] := fls (p := T.ρ 11 < (0 : Int)) c5
          have c6 : ¬ (T.ρ 11 < T.ρ 5) := by omega
          have d6 : u9.den T = some [b2i true] := tr (p := T.ρ 5 ≤ T.ρ 11) (Int.not_lt.1 c6)
          exact runS N hlk (ai u9 true d6 (ai u8 false d5 (ai u4 true d4 (ai u1 true d3 (ai u0 false d2 al0))))) fun G => by kernel_rfl
end Go.Proofs.Ytokcoabcflpbbaa
