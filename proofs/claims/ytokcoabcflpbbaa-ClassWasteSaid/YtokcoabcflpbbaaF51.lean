/-
  What the numbers of ClassWaste may be: twenty ways. Conditions: what is said of the numbers (Nums).
-/
import Derived.Test.YtokcoabcflpbbaaF50
namespace Go.Proofs.Ytokcoabcflpbbaa
open Go.Ev Go.RowKit
set_option maxRecDepth 100000
def vn0 : Tm := (.bin .leq (.var .i64 5) (.lit .i64 32))
def vn1 : Tm := (.bin .gtr (.var .i64 5) (.lit .i64 32))
def vn2 : Tm := (.bin .geq (.bin .sub (.bin .mul (.app .i64 21 (.cons (.var .i64 5) .nil)) (.lit .i64 64)) (.var .i64 5)) (.lit .i64 64))
def vn3 : Tm := (.bin .geq (.app .i64 20 (.cons (.var .i64 5) (.cons (.mx true (.var .i64 6) (.var .i64 7)) .nil))) (.lit .i64 0))
def vn4 : Tm := (.bin .geq (.app .i64 20 (.cons (.bin .add (.var .i64 5) (.lit .i64 1)) (.cons (.var .i64 6) .nil))) (.lit .i64 0))
def vn5 : Tm := (.bin .lss (.app .i64 20 (.cons (.var .i64 5) (.cons (.var .i64 6) .nil))) (.lit .i64 0))
def vn6 : Tm := (.bin .gtr (.app .i64 20 (.cons (.var .i64 5) (.cons (.var .i64 6) .nil))) (.app .i64 20 (.cons (.bin .add (.var .i64 5) (.lit .i64 1)) (.cons (.var .i64 6) .nil))))
def vn7 : Tm := (.bin .lss (.app .i64 20 (.cons (.var .i64 5) (.cons (.mx false (.var .i64 6) (.var .i64 7)) .nil))) (.lit .i64 0))
def vn8 : Tm := (.bin .gtr (.app .i64 20 (.cons (.var .i64 5) (.cons (.mx false (.var .i64 6) (.var .i64 7)) .nil))) (.app .i64 20 (.cons (.var .i64 5) (.cons (.mx true (.var .i64 6) (.var .i64 7)) .nil))))
def vn9 : Tm := (.bin .geq (.bin .sub (.lit .i64 8) (.var .i64 5)) (.lit .i64 8))
def vn10 : Tm := (.bin .lss (.lit .i64 8) (.var .i64 5))
def vn11 : Tm := (.bin .geq (.bin .sub (.lit .i64 16) (.var .i64 5)) (.lit .i64 8))
def vn12 : Tm := (.bin .lss (.lit .i64 16) (.var .i64 5))
def vn13 : Tm := (.bin .geq (.bin .sub (.lit .i64 24) (.var .i64 5)) (.lit .i64 8))
def vn14 : Tm := (.bin .lss (.lit .i64 24) (.var .i64 5))
def vn15 : Tm := (.bin .geq (.bin .sub (.lit .i64 32) (.var .i64 5)) (.lit .i64 8))
def vn16 : Tm := (.bin .lss (.lit .i64 32) (.var .i64 5))
theorem num_ways {T : Sy} (N : Nums T) {al : List (Nat × Value)} (hAL : AlOk T al) : AlOk T ((vn4.enc, .bool false) :: (vn3.enc, .bool false) :: (vn2.enc, .bool false) :: (vn1.enc, .bool true) :: (vn0.enc, .bool false) :: (ofT.enc, .int .i64 (-1)) :: al) ∨ AlOk T ((vn6.enc, .bool false) :: (vn5.enc, .bool false) :: (vn4.enc, .bool true) :: (vn3.enc, .bool false) :: (vn2.enc, .bool false) :: (vn1.enc, .bool true) :: (vn0.enc, .bool false) :: (ofT.enc, .int .i64 (-1)) :: al) ∨ AlOk T ((vn4.enc, .bool false) :: (vn8.enc, .bool false) :: (vn7.enc, .bool false) :: (vn3.enc, .bool true) :: (vn2.enc, .bool false) :: (vn1.enc, .bool true) :: (vn0.enc, .bool false) :: (ofT.enc, .int .i64 (-1)) :: al) ∨ AlOk T ((vn6.enc, .bool false) :: (vn5.enc, .bool false) :: (vn4.enc, .bool true) :: (vn8.enc, .bool false) :: (vn7.enc, .bool false) :: (vn3.enc, .bool true) :: (vn2.enc, .bool false) :: (vn1.enc, .bool true) :: (vn0.enc, .bool false) :: (ofT.enc, .int .i64 (-1)) :: al) ∨ AlOk T ((vn4.enc, .bool false) :: (vn3.enc, .bool false) :: (vn2.enc, .bool false) :: (vn1.enc, .bool false) :: (vn10.enc, .bool false) :: (vn9.enc, .bool false) :: (vn0.enc, .bool true) :: (ofT.enc, .int .i64 (0)) :: al) ∨ AlOk T ((vn6.enc, .bool false) :: (vn5.enc, .bool false) :: (vn4.enc, .bool true) :: (vn3.enc, .bool false) :: (vn2.enc, .bool false) :: (vn1.enc, .bool false) :: (vn10.enc, .bool false) :: (vn9.enc, .bool false) :: (vn0.enc, .bool true) :: (ofT.enc, .int .i64 (0)) :: al) ∨ AlOk T ((vn4.enc, .bool false) :: (vn8.enc, .bool false) :: (vn7.enc, .bool false) :: (vn3.enc, .bool true) :: (vn2.enc, .bool false) :: (vn1.enc, .bool false) :: (vn10.enc, .bool false) :: (vn9.enc, .bool false) :: (vn0.enc, .bool true) :: (ofT.enc, .int .i64 (0)) :: al) ∨ AlOk T ((vn6.enc, .bool false) :: (vn5.enc, .bool false) :: (vn4.enc, .bool true) :: (vn8.enc, .bool false) :: (vn7.enc, .bool false) :: (vn3.enc, .bool true) :: (vn2.enc, .bool false) :: (vn1.enc, .bool false) :: (vn10.enc, .bool false) :: (vn9.enc, .bool false) :: (vn0.enc, .bool true) :: (ofT.enc, .int .i64 (0)) :: al) ∨ AlOk T ((vn4.enc, .bool false) :: (vn3.enc, .bool false) :: (vn2.enc, .bool false) :: (vn1.enc, .bool false) :: (vn12.enc, .bool false) :: (vn11.enc, .bool false) :: (vn0.enc, .bool true) :: (ofT.enc, .int .i64 (1)) :: al) ∨ AlOk T ((vn6.enc, .bool false) :: (vn5.enc, .bool false) :: (vn4.enc, .bool true) :: (vn3.enc, .bool false) :: (vn2.enc, .bool false) :: (vn1.enc, .bool false) :: (vn12.enc, .bool false) :: (vn11.enc, .bool false) :: (vn0.enc, .bool true) :: (ofT.enc, .int .i64 (1)) :: al) ∨ AlOk T ((vn4.enc, .bool false) :: (vn8.enc, .bool false) :: (vn7.enc, .bool false) :: (vn3.enc, .bool true) :: (vn2.enc, .bool false) :: (vn1.enc, .bool false) :: (vn12.enc, .bool false) :: (vn11.enc, .bool false) :: (vn0.enc, .bool true) :: (ofT.enc, .int .i64 (1)) :: al) ∨ AlOk T ((vn6.enc, .bool false) :: (vn5.enc, .bool false) :: (vn4.enc, .bool true) :: (vn8.enc, .bool false) :: (vn7.enc, .bool false) :: (vn3.enc, .bool true) :: (vn2.enc, .bool false) :: (vn1.enc, .bool false) :: (vn12.enc, .bool false) :: (vn11.enc, .bool false) :: (vn0.enc, .bool true) :: (ofT.enc, .int .i64 (1)) :: al) ∨ AlOk T ((vn4.enc, .bool false) :: (vn3.enc, .bool false) :: (vn2.enc, .bool false) :: (vn1.enc, .bool false) :: (vn14.enc, .bool false) :: (vn13.enc, .bool false) :: (vn0.enc, .bool true) :: (ofT.enc, .int .i64 (2)) :: al) ∨ AlOk T ((vn6.enc, .bool false) :: (vn5.enc, .bool false) :: (vn4.enc, .bool true) :: (vn3.enc, .bool false) :: (vn2.enc, .bool false) :: (vn1.enc, .bool false) :: (vn14.enc, .bool false) :: (vn13.enc, .bool false) :: (vn0.enc, .bool true) :: (ofT.enc, .int .i64 (2)) :: al) ∨ AlOk T ((vn4.enc, .bool false) :: (vn8.enc, .bool false) :: (vn7.enc, .bool false) :: (vn3.enc, .bool true) :: (vn2.enc, .bool false) :: (vn1.enc, .bool false) :: (vn14.enc, .bool false) :: (vn13.enc, .bool false) :: (vn0.enc, .bool true) :: (ofT.enc, .int .i64 (2)) :: al) ∨ AlOk T ((vn6.enc, .bool false) :: (vn5.enc, .bool false) :: (vn4.enc, .bool true) :: (vn8.enc, .bool false) :: (vn7.enc, .bool false) :: (vn3.enc, .bool true) :: (vn2.enc, .bool false) :: (vn1.enc, .bool false) :: (vn14.enc, .bool false) :: (vn13.enc, .bool false) :: (vn0.enc, .bool true) :: (ofT.enc, .int .i64 (2)) :: al) ∨ AlOk T ((vn4.enc, .bool false) :: (vn3.enc, .bool false) :: (vn2.enc, .bool false) :: (vn1.enc, .bool false) :: (vn16.enc, .bool false) :: (vn15.enc, .bool false) :: (vn0.enc, .bool true) :: (ofT.enc, .int .i64 (3)) :: al) ∨ AlOk T ((vn6.enc, .bool false) :: (vn5.enc, .bool false) :: (vn4.enc, .bool true) :: (vn3.enc, .bool false) :: (vn2.enc, .bool false) :: (vn1.enc, .bool false) :: (vn16.enc, .bool false) :: (vn15.enc, .bool false) :: (vn0.enc, .bool true) :: (ofT.enc, .int .i64 (3)) :: al) ∨ AlOk T ((vn4.enc, .bool false) :: (vn8.enc, .bool false) :: (vn7.enc, .bool false) :: (vn3.enc, .bool true) :: (vn2.enc, .bool false) :: (vn1.enc, .bool false) :: (vn16.enc, .bool false) :: (vn15.enc, .bool false) :: (vn0.enc, .bool true) :: (ofT.enc, .int .i64 (3)) :: al) ∨ AlOk T ((vn6.enc, .bool false) :: (vn5.enc, .bool false) :: (vn4.enc, .bool true) :: (vn8.enc, .bool false) :: (vn7.enc, .bool false) :: (vn3.enc, .bool true) :: (vn2.enc, .bool false) :: (vn1.enc, .bool false) :: (vn16.enc, .bool false) :: (vn15.enc, .bool false) :: (vn0.enc, .bool true) :: (ofT.enc, .int .i64 (3)) :: al) := by
  have n1 := N.n1
  have hW64 : IntKind.i64.wrap (IntKind.i64.wrap (T.Φ 21 [T.ρ 5] * (64 : Int)) - T.ρ 5) = 64 - T.ρ 5 := by rw [N.pg, w_i64 (x := (1 : Int) * 64) (by decide) (by decide), w_i64 (by omega) (by omega)]; omega
  have hW8 : IntKind.i64.wrap ((8 : Int) - T.ρ 5) = 8 - T.ρ 5 := w_i64 (by omega) (by omega)
  have hW16 : IntKind.i64.wrap ((16 : Int) - T.ρ 5) = 16 - T.ρ 5 := w_i64 (by omega) (by omega)
  have hW24 : IntKind.i64.wrap ((24 : Int) - T.ρ 5) = 24 - T.ρ 5 := w_i64 (by omega) (by omega)
  have hW32 : IntKind.i64.wrap ((32 : Int) - T.ρ 5) = 32 - T.ρ 5 := w_i64 (by omega) (by omega)
  have hM : 0 ≤ T.Φ 20 [T.ρ 5, (if T.ρ 6 < T.ρ 7 then T.ρ 7 else T.ρ 6)] → 0 ≤ T.Φ 20 [T.ρ 5, (if T.ρ 7 < T.ρ 6 then T.ρ 7 else T.ρ 6)] ∧ T.Φ 20 [T.ρ 5, (if T.ρ 7 < T.ρ 6 then T.ρ 7 else T.ρ 6)] ≤ T.Φ 20 [T.ρ 5, (if T.ρ 6 < T.ρ 7 then T.ρ 7 else T.ρ 6)] := fun h => by
    rw [N.of_] at h
    rw [N.of_, N.of_]
    exact ofZ_mono (by split; exact N.p7; exact N.p6) (by split; exact N.p7; exact N.p6) (by split <;> split <;> omega) n1.1 h
  have hU : 0 ≤ T.Φ 20 [(IntKind.i64.wrap (T.ρ 5 + (1 : Int))), T.ρ 6] → 0 ≤ T.Φ 20 [T.ρ 5, T.ρ 6] ∧ T.Φ 20 [T.ρ 5, T.ρ 6] ≤ T.Φ 20 [(IntKind.i64.wrap (T.ρ 5 + (1 : Int))), T.ρ 6] := fun h => by
    rw [w_i64 (x := T.ρ 5 + 1) (by omega) (by omega), N.of_] at h
    rw [w_i64 (x := T.ρ 5 + 1) (by omega) (by omega), N.of_, N.of_]
    exact ofZ_up N.p6 n1.1 h
  have h1 := ofZ_one n1.1
  rw [← N.of_] at h1
  rcases h1 with ⟨hk, hr⟩ | ⟨hk, hr⟩ | ⟨hk, hr⟩ | ⟨hk, hr⟩ | ⟨hk, hr⟩
  · have c0 : (32 : Int) < T.ρ 5 := by first | omega | (rw [w_i64 (by omega) (by omega)]; omega)
    have d0 : vn0.den T = some [b2i false] := fls (p := T.ρ 5 ≤ (32 : Int)) (Int.not_le.2 c0)
    have d1 : vn1.den T = some [b2i true] := tr (p := (32 : Int) < T.ρ 5) c0
    have c2 : (IntKind.i64.wrap ((IntKind.i64.wrap ((T.Φ 21 [T.ρ 5]) * (64 : Int))) - T.ρ 5)) < (64 : Int) := by first | omega | (rw [w_i64 (by omega) (by omega)]; omega)
    have d2 : vn2.den T = some [b2i false] := fls (p := (64 : Int) ≤ (IntKind.i64.wrap ((IntKind.i64.wrap ((T.Φ 21 [T.ρ 5]) * (64 : Int))) - T.ρ 5))) (Int.not_le.2 c2)
    by_cases c3 : (T.Φ 20 [T.ρ 5, (if T.ρ 6 < T.ρ 7 then T.ρ 7 else T.ρ 6)]) < (0 : Int)
    · have d3 : vn3.den T = some [b2i false] := fls (p := (0 : Int) ≤ (T.Φ 20 [T.ρ 5, (if T.ρ 6 < T.ρ 7 then T.ρ 7 else T.ρ 6)])) (Int.not_le.2 c3)
      by_cases c4 : (T.Φ 20 [(IntKind.i64.wrap (T.ρ 5 + (1 : Int))), T.ρ 6]) < (0 : Int)
      · have d4 : vn4.den T = some [b2i false] := fls (p := (0 : Int) ≤ (T.Φ 20 [(IntKind.i64.wrap (T.ρ 5 + (1 : Int))), T.ρ 6])) (Int.not_le.2 c4)
        exact .inl (ai vn4 false d4 (ai vn3 false d3 (ai vn2 false d2 (ai vn1 true d1 (ai vn0 false d0 (ain ofT .i64 (-1) (sm hk) hAL))))))
      · have d4 : vn4.den T = some [b2i true] := tr (p := (0 : Int) ≤ (T.Φ 20 [(IntKind.i64.wrap (T.ρ 5 + (1 : Int))), T.ρ 6])) (Int.not_lt.1 c4)
        have c5 : ¬ ((T.Φ 20 [T.ρ 5, T.ρ 6]) < (0 : Int)) := by first | omega | (rw [w_i64 (by omega) (by omega)]; omega)
        have d5 : vn5.den T = some [b2i false] := fls (p := (T.Φ 20 [T.ρ 5, T.ρ 6]) < (0 : Int)) c5
        have c6 : ¬ ((T.Φ 20 [(IntKind.i64.wrap (T.ρ 5 + (1 : Int))), T.ρ 6]) < (T.Φ 20 [T.ρ 5, T.ρ 6])) := by first | omega | (rw [w_i64 (by omega) (by omega)]; omega)
        have d6 : vn6.den T = some [b2i false] := fls (p := (T.Φ 20 [(IntKind.i64.wrap (T.ρ 5 + (1 : Int))), T.ρ 6]) < (T.Φ 20 [T.ρ 5, T.ρ 6])) c6
        exact .inr (.inl (ai vn6 false d6 (ai vn5 false d5 (ai vn4 true d4 (ai vn3 false d3 (ai vn2 false d2 (ai vn1 true d1 (ai vn0 false d0 (ain ofT .i64 (-1) (sm hk) hAL)))))))))
    · have d3 : vn3.den T = some [b2i true] := tr (p := (0 : Int) ≤ (T.Φ 20 [T.ρ 5, (if T.ρ 6 < T.ρ 7 then T.ρ 7 else T.ρ 6)])) (Int.not_lt.1 c3)
      have c4 : ¬ ((T.Φ 20 [T.ρ 5, (if T.ρ 7 < T.ρ 6 then T.ρ 7 else T.ρ 6)]) < (0 : Int)) := by first | omega | (rw [w_i64 (by omega) (by omega)]; omega)
      have d4 : vn7.den T = some [b2i false] := fls (p := (T.Φ 20 [T.ρ 5, (if T.ρ 7 < T.ρ 6 then T.ρ 7 else T.ρ 6)]) < (0 : Int)) c4
      have c5 : ¬ ((T.Φ 20 [T.ρ 5, (if T.ρ 6 < T.ρ 7 then T.ρ 7 else T.ρ 6)]) < (T.Φ 20 [T.ρ 5, (if T.ρ 7 < T.ρ 6 then T.ρ 7 else T.ρ 6)])) := by first | omega | (rw [w_i64 (by omega) (by omega)]; omega)
      have d5 : vn8.den T = some [b2i false] := fls (p := (T.Φ 20 [T.ρ 5, (if T.ρ 6 < T.ρ 7 then T.ρ 7 else T.ρ 6)]) < (T.Φ 20 [T.ρ 5, (if T.ρ 7 < T.ρ 6 then T.ρ 7 else T.ρ 6)])) c5
      by_cases c6 : (T.Φ 20 [(IntKind.i64.wrap (T.ρ 5 + (1 : Int))), T.ρ 6]) < (0 : Int)
      · have d6 : vn4.den T = some [b2i false] := fls (p := (0 : Int) ≤ (T.Φ 20 [(IntKind.i64.wrap (T.ρ 5 + (1 : Int))), T.ρ 6])) (Int.not_le.2 c6)
        exact .inr (.inr (.inl (ai vn4 false d6 (ai vn8 false d5 (ai vn7 false d4 (ai vn3 true d3 (ai vn2 false d2 (ai vn1 true d1 (ai vn0 false d0 (ain ofT .i64 (-1) (sm hk) hAL))))))))))
      · have d6 : vn4.den T = some [b2i true] := tr (p := (0 : Int) ≤ (T.Φ 20 [(IntKind.i64.wrap (T.ρ 5 + (1 : Int))), T.ρ 6])) (Int.not_lt.1 c6)
        have c7 : ¬ ((T.Φ 20 [T.ρ 5, T.ρ 6]) < (0 : Int)) := by first | omega | (rw [w_i64 (by omega) (by omega)]; omega)
        have d7 : vn5.den T = some [b2i false] := fls (p := (T.Φ 20 [T.ρ 5, T.ρ 6]) < (0 : Int)) c7
        have c8 : ¬ ((T.Φ 20 [(IntKind.i64.wrap (T.ρ 5 + (1 : Int))), T.ρ 6]) < (T.Φ 20 [T.ρ 5, T.ρ 6])) := by first | omega | (rw [w_i64 (by omega) (by omega)]; omega)
        have d8 : vn6.den T = some [b2i false] := fls (p := (T.Φ 20 [(IntKind.i64.wrap (T.ρ 5 + (1 : Int))), T.ρ 6]) < (T.Φ 20 [T.ρ 5, T.ρ 6])) c8
        exact .inr (.inr (.inr (.inl (ai vn6 false d8 (ai vn5 false d7 (ai vn4 true d6 (ai vn8 false d5 (ai vn7 false d4 (ai vn3 true d3 (ai vn2 false d2 (ai vn1 true d1 (ai vn0 false d0 (ain ofT .i64 (-1) (sm hk) hAL)))))))))))))
  · have c0 : ¬ ((32 : Int) < T.ρ 5) := by first | omega | (rw [w_i64 (by omega) (by omega)]; omega)
    have d0 : vn0.den T = some [b2i true] := tr (p := T.ρ 5 ≤ (32 : Int)) (Int.not_lt.1 c0)
    have c1 : (IntKind.i64.wrap ((8 : Int) - T.ρ 5)) < (8 : Int) := by first | omega | (rw [w_i64 (by omega) (by omega)]; omega)
    have d1 : vn9.den T = some [b2i false] := fls (p := (8 : Int) ≤ (IntKind.i64.wrap ((8 : Int) - T.ρ 5))) (Int.not_le.2 c1)
    have c2 : ¬ ((8 : Int) < T.ρ 5) := by first | omega | (rw [w_i64 (by omega) (by omega)]; omega)
    have d2 : vn10.den T = some [b2i false] := fls (p := (8 : Int) < T.ρ 5) c2
    have d3 : vn1.den T = some [b2i false] := fls (p := (32 : Int) < T.ρ 5) c0
    have c4 : (IntKind.i64.wrap ((IntKind.i64.wrap ((T.Φ 21 [T.ρ 5]) * (64 : Int))) - T.ρ 5)) < (64 : Int) := by first | omega | (rw [w_i64 (by omega) (by omega)]; omega)
    have d4 : vn2.den T = some [b2i false] := fls (p := (64 : Int) ≤ (IntKind.i64.wrap ((IntKind.i64.wrap ((T.Φ 21 [T.ρ 5]) * (64 : Int))) - T.ρ 5))) (Int.not_le.2 c4)
    by_cases c5 : (T.Φ 20 [T.ρ 5, (if T.ρ 6 < T.ρ 7 then T.ρ 7 else T.ρ 6)]) < (0 : Int)
    · have d5 : vn3.den T = some [b2i false] := fls (p := (0 : Int) ≤ (T.Φ 20 [T.ρ 5, (if T.ρ 6 < T.ρ 7 then T.ρ 7 else T.ρ 6)])) (Int.not_le.2 c5)
      by_cases c6 : (T.Φ 20 [(IntKind.i64.wrap (T.ρ 5 + (1 : Int))), T.ρ 6]) < (0 : Int)
      · have d6 : vn4.den T = some [b2i false] := fls (p := (0 : Int) ≤ (T.Φ 20 [(IntKind.i64.wrap (T.ρ 5 + (1 : Int))), T.ρ 6])) (Int.not_le.2 c6)
        exact .inr (.inr (.inr (.inr (.inl (ai vn4 false d6 (ai vn3 false d5 (ai vn2 false d4 (ai vn1 false d3 (ai vn10 false d2 (ai vn9 false d1 (ai vn0 true d0 (ain ofT .i64 (0) (sm hk) hAL))))))))))))
      · have d6 : vn4.den T = some [b2i true] := tr (p := (0 : Int) ≤ (T.Φ 20 [(IntKind.i64.wrap (T.ρ 5 + (1 : Int))), T.ρ 6])) (Int.not_lt.1 c6)
        have c7 : ¬ ((T.Φ 20 [T.ρ 5, T.ρ 6]) < (0 : Int)) := by first | omega | (rw [w_i64 (by omega) (by omega)]; omega)
        have d7 : vn5.den T = some [b2i false] := fls (p := (T.Φ 20 [T.ρ 5, T.ρ 6]) < (0 : Int)) c7
        have c8 : ¬ ((T.Φ 20 [(IntKind.i64.wrap (T.ρ 5 + (1 : Int))), T.ρ 6]) < (T.Φ 20 [T.ρ 5, T.ρ 6])) := by first | omega | (rw [w_i64 (by omega) (by omega)]; omega)
        have d8 : vn6.den T = some [b2i false] := fls (p := (T.Φ 20 [(IntKind.i64.wrap (T.ρ 5 + (1 : Int))), T.ρ 6]) < (T.Φ 20 [T.ρ 5, T.ρ 6])) c8
        exact .inr (.inr (.inr (.inr (.inr (.inl (ai vn6 false d8 (ai vn5 false d7 (ai vn4 true d6 (ai vn3 false d5 (ai vn2 false d4 (ai vn1 false d3 (ai vn10 false d2 (ai vn9 false d1 (ai vn0 true d0 (ain ofT .i64 (0) (sm hk) hAL)))))))))))))))
    · have d5 : vn3.den T = some [b2i true] := tr (p := (0 : Int) ≤ (T.Φ 20 [T.ρ 5, (if T.ρ 6 < T.ρ 7 then T.ρ 7 else T.ρ 6)])) (Int.not_lt.1 c5)
      have c6 : ¬ ((T.Φ 20 [T.ρ 5, (if T.ρ 7 < T.ρ 6 then T.ρ 7 else T.ρ 6)]) < (0 : Int)) := by first | omega | (rw [w_i64 (by omega) (by omega)]; omega)
      have d6 : vn7.den T = some [b2i false] := fls (p := (T.Φ 20 [T.ρ 5, (if T.ρ 7 < T.ρ 6 then T.ρ 7 else T.ρ 6)]) < (0 : Int)) c6
      have c7 : ¬ ((T.Φ 20 [T.ρ 5, (if T.ρ 6 < T.ρ 7 then T.ρ 7 else T.ρ 6)]) < (T.Φ 20 [T.ρ 5, (if T.ρ 7 < T.ρ 6 then T.ρ 7 else T.ρ 6)])) := by first | omega | (rw [w_i64 (by omega) (by omega)]; omega)
      have d7 : vn8.den T = some [b2i false] := fls (p := (T.Φ 20 [T.ρ 5, (if T.ρ 6 < T.ρ 7 then T.ρ 7 else T.ρ 6)]) < (T.Φ 20 [T.ρ 5, (if T.ρ 7 < T.ρ 6 then T.ρ 7 else T.ρ 6)])) c7
      by_cases c8 : (T.Φ 20 [(IntKind.i64.wrap (T.ρ 5 + (1 : Int))), T.ρ 6]) < (0 : Int)
      · have d8 : vn4.den T = some [b2i false] := fls (p := (0 : Int) ≤ (T.Φ 20 [(IntKind.i64.wrap (T.ρ 5 + (1 : Int))), T.ρ 6])) (Int.not_le.2 c8)
        exact .inr (.inr (.inr (.inr (.inr (.inr (.inl (ai vn4 false d8 (ai vn8 false d7 (ai vn7 false d6 (ai vn3 true d5 (ai vn2 false d4 (ai vn1 false d3 (ai vn10 false d2 (ai vn9 false d1 (ai vn0 true d0 (ain ofT .i64 (0) (sm hk) hAL))))))))))))))))
      · have d8 : vn4.den T = some [b2i true] := tr (p := (0 : Int) ≤ (T.Φ 20 [(IntKind.i64.wrap (T.ρ 5 + (1 : Int))), T.ρ 6])) (Int.not_lt.1 c8)
        have c9 : ¬ ((T.Φ 20 [T.ρ 5, T.ρ 6]) < (0 : Int)) := by first | omega | (rw [w_i64 (by omega) (by omega)]; omega)
        have d9 : vn5.den T = some [b2i false] := fls (p := (T.Φ 20 [T.ρ 5, T.ρ 6]) < (0 : Int)) c9
        have c10 : ¬ ((T.Φ 20 [(IntKind.i64.wrap (T.ρ 5 + (1 : Int))), T.ρ 6]) < (T.Φ 20 [T.ρ 5, T.ρ 6])) := by first | omega | (rw [w_i64 (by omega) (by omega)]; omega)
        have d10 : vn6.den T = some [b2i false] := fls (p := (T.Φ 20 [(IntKind.i64.wrap (T.ρ 5 + (1 : Int))), T.ρ 6]) < (T.Φ 20 [T.ρ 5, T.ρ 6])) c10
        exact .inr (.inr (.inr (.inr (.inr (.inr (.inr (.inl (ai vn6 false d10 (ai vn5 false d9 (ai vn4 true d8 (ai vn8 false d7 (ai vn7 false d6 (ai vn3 true d5 (ai vn2 false d4 (ai vn1 false d3 (ai vn10 false d2 (ai vn9 false d1 (ai vn0 true d0 (ain ofT .i64 (0) (sm hk) hAL)))))))))))))))))))
  · have c0 : ¬ ((32 : Int) < T.ρ 5) := by first | omega | (rw [w_i64 (by omega) (by omega)]; omega)
    have d0 : vn0.den T = some [b2i true] := tr (p := T.ρ 5 ≤ (32 : Int)) (Int.not_lt.1 c0)
    have c1 : (IntKind.i64.wrap ((16 : Int) - T.ρ 5)) < (8 : Int) := by first | omega | (rw [w_i64 (by omega) (by omega)]; omega)
    have d1 : vn11.den T = some [b2i false] := fls (p := (8 : Int) ≤ (IntKind.i64.wrap ((16 : Int) - T.ρ 5))) (Int.not_le.2 c1)
    have c2 : ¬ ((16 : Int) < T.ρ 5) := by first | omega | (rw [w_i64 (by omega) (by omega)]; omega)
    have d2 : vn12.den T = some [b2i false] := fls (p := (16 : Int) < T.ρ 5) c2
    have d3 : vn1.den T = some [b2i false] := fls (p := (32 : Int) < T.ρ 5) c0
    have c4 : (IntKind.i64.wrap ((IntKind.i64.wrap ((T.Φ 21 [T.ρ 5]) * (64 : Int))) - T.ρ 5)) < (64 : Int) := by first | omega | (rw [w_i64 (by omega) (by omega)]; omega)
    have d4 : vn2.den T = some [b2i false] := fls (p := (64 : Int) ≤ (IntKind.i64.wrap ((IntKind.i64.wrap ((T.Φ 21 [T.ρ 5]) * (64 : Int))) - T.ρ 5))) (Int.not_le.2 c4)
    by_cases c5 : (T.Φ 20 [T.ρ 5, (if T.ρ 6 < T.ρ 7 then T.ρ 7 else T.ρ 6)]) < (0 : Int)
    · have d5 : vn3.den T = some [b2i false] := fls (p := (0 : Int) ≤ (T.Φ 20 [T.ρ 5, (if T.ρ 6 < T.ρ 7 then T.ρ 7 else T.ρ 6)])) (Int.not_le.2 c5)
      by_cases c6 : (T.Φ 20 [(IntKind.i64.wrap (T.ρ 5 + (1 : Int))), T.ρ 6]) < (0 : Int)
      · have d6 : vn4.den T = some [b2i false] := fls (p := (0 : Int) ≤ (T.Φ 20 [(IntKind.i64.wrap (T.ρ 5 + (1 : Int))), T.ρ 6])) (Int.not_le.2 c6)
        exact .inr (.inr (.inr (.inr (.inr (.inr (.inr (.inr (.inl (ai vn4 false d6 (ai vn3 false d5 (ai vn2 false d4 (ai vn1 false d3 (ai vn12 false d2 (ai vn11 false d1 (ai vn0 true d0 (ain ofT .i64 (1) (sm hk) hAL))))))))))))))))
      · have d6 : vn4.den T = some [b2i true] := tr (p := (0 : Int) ≤ (T.Φ 20 [(IntKind.i64.wrap (T.ρ 5 + (1 : Int))), T.ρ 6])) (Int.not_lt.1 c6)
        have c7 : ¬ ((T.Φ 20 [T.ρ 5, T.ρ 6]) < (0 : Int)) := by first | omega | (rw [w_i64 (by omega) (by omega)]; omega)
        have d7 : vn5.den T = some [b2i false] := fls (p := (T.Φ 20 [T.ρ 5, T.ρ 6]) < (0 : Int)) c7
        have c8 : ¬ ((T.Φ 20 [(IntKind.i64.wrap (T.ρ 5 + (1 : Int))), T.ρ 6]) < (T.Φ 20 [T.ρ 5, T.ρ 6])) := by first | omega | (rw [w_i64 (by omega) (by omega)]; omega)
        have d8 : vn6.den T = some [b2i false] := fls (p := (T.Φ 20 [(IntKind.i64.wrap (T.ρ 5 + (1 : Int))), T.ρ 6]) < (T.Φ 20 [T.ρ 5, T.ρ 6])) c8
        exact .inr (.inr (.inr (.inr (.inr (.inr (.inr (.inr (.inr (.inl (ai vn6 false d8 (ai vn5 false d7 (ai vn4 true d6 (ai vn3 false d5 (ai vn2 false d4 (ai vn1 false d3 (ai vn12 false d2 (ai vn11 false d1 (ai vn0 true d0 (ain ofT .i64 (1) (sm hk) hAL)))))))))))))))))))
    · have d5 : vn3.den T = some [b2i true] := tr (p := (0 : Int) ≤ (T.Φ 20 [T.ρ 5, (if T.ρ 6 < T.ρ 7 then T.ρ 7 else T.ρ 6)])) (Int.not_lt.1 c5)
      have c6 : ¬ ((T.Φ 20 [T.ρ 5, (if T.ρ 7 < T.ρ 6 then T.ρ 7 else T.ρ 6)]) < (0 : Int)) := by first | omega | (rw [w_i64 (by omega) (by omega)]; omega)
      have d6 : vn7.den T = some [b2i false] := fls (p := (T.Φ 20 [T.ρ 5, (if T.ρ 7 < T.ρ 6 then T.ρ 7 else T.ρ 6)]) < (0 : Int)) c6
      have c7 : ¬ ((T.Φ 20 [T.ρ 5, (if T.ρ 6 < T.ρ 7 then T.ρ 7 else T.ρ 6)]) < (T.Φ 20 [T.ρ 5, (if T.ρ 7 < T.ρ 6 then T.ρ 7 else T.ρ 6)])) := by first | omega | (rw [w_i64 (by omega) (by omega)]; omega)
      have d7 : vn8.den T = some [b2i false] := fls (p := (T.Φ 20 [T.ρ 5, (if T.ρ 6 < T.ρ 7 then T.ρ 7 else T.ρ 6)]) < (T.Φ 20 [T.ρ 5, (if T.ρ 7 < T.ρ 6 then T.ρ 7 else T.ρ 6)])) c7
      by_cases c8 : (T.Φ 20 [(IntKind.i64.wrap (T.ρ 5 + (1 : Int))), T.ρ 6]) < (0 : Int)
      · have d8 : vn4.den T = some [b2i false] := fls (p := (0 : Int) ≤ (T.Φ 20 [(IntKind.i64.wrap (T.ρ 5 + (1 : Int))), T.ρ 6])) (Int.not_le.2 c8)
        exact .inr (.inr (.inr (.inr (.inr (.inr (.inr (.inr (.inr (.inr (.inl (ai vn4 false d8 (ai vn8 false d7 (ai vn7 false d6 (ai vn3 true d5 (ai vn2 false d4 (ai vn1 false d3 (ai vn12 false d2 (ai vn11 false d1 (ai vn0 true d0 (ain ofT .i64 (1) (sm hk) hAL))))))))))))))))))))
      · have d8 : vn4.den T = some [b2i true] := tr (p := (0 : Int) ≤ (T.Φ 20 [(IntKind.i64.wrap (T.ρ 5 + (1 : Int))), T.ρ 6])) (Int.not_lt.1 c8)
        have c9 : ¬ ((T.Φ 20 [T.ρ 5, T.ρ 6]) < (0 : Int)) := by first | omega | (rw [w_i64 (by omega) (by omega)]; omega)
        have d9 : vn5.den T = some [b2i false] := fls (p := (T.Φ 20 [T.ρ 5, T.ρ 6]) < (0 : Int)) c9
        have c10 : ¬ ((T.Φ 20 [(IntKind.i64.wrap (T.ρ 5 + (1 : Int))), T.ρ 6]) < (T.Φ 20 [T.ρ 5, T.ρ 6])) := by first | omega | (rw [w_i64 (by omega) (by omega)]; omega)
        have d10 : vn6.den T = some [b2i false] := fls (p := (T.Φ 20 [(IntKind.i64.wrap (T.ρ 5 + (1 : Int))), T.ρ 6]) < (T.Φ 20 [T.ρ 5, T.ρ 6])) c10
        exact .inr (.inr (.inr (.inr (.inr (.inr (.inr (.inr (.inr (.inr (.inr (.inl (ai vn6 false d10 (ai vn5 false d9 (ai vn4 true d8 (ai vn8 false d7 (ai vn7 false d6 (ai vn3 true d5 (ai vn2 false d4 (ai vn1 false d3 (ai vn12 false d2 (ai vn11 false d1 (ai vn0 true d0 (ain ofT .i64 (1) (sm hk) hAL)))))))))))))))))))))))
  · have c0 : ¬ ((32 : Int) < T.ρ 5) := by first | omega | (rw [w_i64 (by omega) (by omega)]; omega)
    have d0 : vn0.den T = some [b2i true] := tr (p := T.ρ 5 ≤ (32 : Int)) (Int.not_lt.1 c0)
    have c1 : (IntKind.i64.wrap ((24 : Int) - T.ρ 5)) < (8 : Int) := by first | omega | (rw [w_i64 (by omega) (by omega)]; omega)
    have d1 : vn13.den T = some [b2i false] := fls (p := (8 : Int) ≤ (IntKind.i64.wrap ((24 : Int) - T.ρ 5))) (Int.not_le.2 c1)
    have c2 : ¬ ((24 : Int) < T.ρ 5) := by first | omega | (rw [w_i64 (by omega) (by omega)]; omega)
    have d2 : vn14.den T = some [b2i false] := fls (p := (24 : Int) < T.ρ 5) c2
    have d3 : vn1.den T = some [b2i false] := fls (p := (32 : Int) < T.ρ 5) c0
    have c4 : (IntKind.i64.wrap ((IntKind.i64.wrap ((T.Φ 21 [T.ρ 5]) * (64 : Int))) - T.ρ 5)) < (64 : Int) := by first | omega | (rw [w_i64 (by omega) (by omega)]; omega)
    have d4 : vn2.den T = some [b2i false] := fls (p := (64 : Int) ≤ (IntKind.i64.wrap ((IntKind.i64.wrap ((T.Φ 21 [T.ρ 5]) * (64 : Int))) - T.ρ 5))) (Int.not_le.2 c4)
    by_cases c5 : (T.Φ 20 [T.ρ 5, (if T.ρ 6 < T.ρ 7 then T.ρ 7 else T.ρ 6)]) < (0 : Int)
    · have d5 : vn3.den T = some [b2i false] := fls (p := (0 : Int) ≤ (T.Φ 20 [T.ρ 5, (if T.ρ 6 < T.ρ 7 then T.ρ 7 else T.ρ 6)])) (Int.not_le.2 c5)
      by_cases c6 : (T.Φ 20 [(IntKind.i64.wrap (T.ρ 5 + (1 : Int))), T.ρ 6]) < (0 : Int)
      · have d6 : vn4.den T = some [b2i false] := fls (p := (0 : Int) ≤ (T.Φ 20 [(IntKind.i64.wrap (T.ρ 5 + (1 : Int))), T.ρ 6])) (Int.not_le.2 c6)
        exact .inr (.inr (.inr (.inr (.inr (.inr (.inr (.inr (.inr (.inr (.inr (.inr (.inl (ai vn4 false d6 (ai vn3 false d5 (ai vn2 false d4 (ai vn1 false d3 (ai vn14 false d2 (ai vn13 false d1 (ai vn0 true d0 (ain ofT .i64 (2) (sm hk) hAL))))))))))))))))))))
      · have d6 : vn4.den T = some [b2i true] := tr (p := (0 : Int) ≤ (T.Φ 20 [(IntKind.i64.wrap (T.ρ 5 + (1 : Int))), T.ρ 6])) (Int.not_lt.1 c6)
        have c7 : ¬ ((T.Φ 20 [T.ρ 5, T.ρ 6]) < (0 : Int)) := by first | omega | (rw [w_i64 (by omega) (by omega)]; omega)
        have d7 : vn5.den T = some [b2i false] := fls (p := (T.Φ 20 [T.ρ 5, T.ρ 6]) < (0 : Int)) c7
        have c8 : ¬ ((T.Φ 20 [(IntKind.i64.wrap (T.ρ 5 + (1 : Int))), T.ρ 6]) < (T.Φ 20 [T.ρ 5, T.ρ 6])) := by first | omega | (rw [w_i64 (by omega) (by omega)]; omega)
        have d8 : vn6.den T = some [b2i false] := fls (p := (T.Φ 20 [(IntKind.i64.wrap (T.ρ 5 + (1 : Int))), T.ρ 6]) < (T.Φ 20 [T.ρ 5, T.ρ 6])) c8
        exact .inr (.inr (.inr (.inr (.inr (.inr (.inr (.inr (.inr (.inr (.inr (.inr (.inr (.inl (ai vn6 false d8 (ai vn5 false d7 (ai vn4 true d6 (ai vn3 false d5 (ai vn2 false d4 (ai vn1 false d3 (ai vn14 false d2 (ai vn13 false d1 (ai vn0 true d0 (ain ofT .i64 (2) (sm hk) hAL)))))))))))))))))))))))
    · have d5 : vn3.den T = some [b2i true] := tr (p := (0 : Int) ≤ (T.Φ 20 [T.ρ 5, (if T.ρ 6 < T.ρ 7 then T.ρ 7 else T.ρ 6)])) (Int.not_lt.1 c5)
      have c6 : ¬ ((T.Φ 20 [T.ρ 5, (if T.ρ 7 < T.ρ 6 then T.ρ 7 else T.ρ 6)]) < (0 : Int)) := by first | omega | (rw [w_i64 (by omega) (by omega)]; omega)
      have d6 : vn7.den T = some [b2i false] := fls (p := (T.Φ 20 [T.ρ 5, (if T.ρ 7 < T.ρ 6 then T.ρ 7 else T.ρ 6)]) < (0 : Int)) c6
      have c7 : ¬ ((T.Φ 20 [T.ρ 5, (if T.ρ 6 < T.ρ 7 then T.ρ 7 else T.ρ 6)]) < (T.Φ 20 [T.ρ 5, (if T.ρ 7 < T.ρ 6 then T.ρ 7 else T.ρ 6)])) := by first | omega | (rw [w_i64 (by omega) (by omega)]; omega)
      have d7 : vn8.den T = some [b2i false] := fls (p := (T.Φ 20 [T.ρ 5, (if T.ρ 6 < T.ρ 7 then T.ρ 7 else T.ρ 6)]) < (T.Φ 20 [T.ρ 5, (if T.ρ 7 < T.ρ 6 then T.ρ 7 else T.ρ 6)])) c7
      by_cases c8 : (T.Φ 20 [(IntKind.i64.wrap (T.ρ 5 + (1 : Int))), T.ρ 6]) < (0 : Int)
      · have d8 : vn4.den T = some [b2i false] := fls (p := (0 : Int) ≤ (T.Φ 20 [(IntKind.i64.wrap (T.ρ 5 + (1 : Int))), T.ρ 6])) (Int.not_le.2 c8)
        exact .inr (.inr (.inr (.inr (.inr (.inr (.inr (.inr (.inr (.inr (.inr (.inr (.inr (.inr (.inl (ai vn4 false d8 (ai vn8 false d7 (ai vn7 false d6 (ai vn3 true d5 (ai vn2 false d4 (ai vn1 false d3 (ai vn14 false d2 (ai vn13 false d1 (ai vn0 true d0 (ain ofT .i64 (2) (sm hk) hAL))))))))))))))))))))))))
      · have d8 : vn4.den T = some [b2i true] := tr (p := (0 : Int) ≤ (T.Φ 20 [(IntKind.i64.wrap (T.ρ 5 + (1 : Int))), T.ρ 6])) (Int.not_lt.1 c8)
        have c9 : ¬ ((T.Φ 20 [T.ρ 5, T.ρ 6]) < (0 : Int)) := by first | omega | (rw [w_i64 (by omega) (by omega)]; omega)
        have d9 : vn5.den T = some [b2i false] := fls (p := (T.Φ 20 [T.ρ 5, T.ρ 6]) < (0 : Int)) c9
        have c10 : ¬ ((T.Φ 20 [(IntKind.i64.wrap (T.ρ 5 + (1 : Int))), T.ρ 6]) < (T.Φ 20 [T.ρ 5, T.ρ 6])) := by first | omega | (rw [w_i64 (by omega) (by omega)]; omega)
        have d10 : vn6.den T = some [b2i false] := fls (p := (T.Φ 20 [(IntKind.i64.wrap (T.ρ 5 + (1 : Int))), T.ρ 6]) < (T.Φ 20 [T.ρ 5, T.ρ 6])) c10
        exact .inr (.inr (.inr (.inr (.inr (.inr (.inr (.inr (.inr (.inr (.inr (.inr (.inr (.inr (.inr (.inl (ai vn6 false d10 (ai vn5 false d9 (ai vn4 true d8 (ai vn8 false d7 (ai vn7 false d6 (ai vn3 true d5 (ai vn2 false d4 (ai vn1 false d3 (ai vn14 false d2 (ai vn13 false d1 (ai vn0 true d0 (ain ofT .i64 (2) (sm hk) hAL)))))))))))))))))))))))))))
  · have c0 : ¬ ((32 : Int) < T.ρ 5) := by first | omega | (rw [w_i64 (by omega) (by omega)]; omega)
    have d0 : vn0.den T = some [b2i true] := tr (p := T.ρ 5 ≤ (32 : Int)) (Int.not_lt.1 c0)
    have c1 : (IntKind.i64.wrap ((32 : Int) - T.ρ 5)) < (8 : Int) := by first | omega | (rw [w_i64 (by omega) (by omega)]; omega)
    have d1 : vn15.den T = some [b2i false] := fls (p := (8 : Int) ≤ (IntKind.i64.wrap ((32 : Int) - T.ρ 5))) (Int.not_le.2 c1)
    have d2 : vn16.den T = some [b2i false] := fls (p := (32 : Int) < T.ρ 5) c0
    have d3 : vn1.den T = some [b2i false] := fls (p := (32 : Int) < T.ρ 5) c0
    have c4 : (IntKind.i64.wrap ((IntKind.i64.wrap ((T.Φ 21 [T.ρ 5]) * (64 : Int))) - T.ρ 5)) < (64 : Int) := by first | omega | (rw [w_i64 (by omega) (by omega)]; omega)
    have d4 : vn2.den T = some [b2i false] := fls (p := (64 : Int) ≤ (IntKind.i64.wrap ((IntKind.i64.wrap ((T.Φ 21 [T.ρ 5]) * (64 : Int))) - T.ρ 5))) (Int.not_le.2 c4)
    by_cases c5 : (T.Φ 20 [T.ρ 5, (if T.ρ 6 < T.ρ 7 then T.ρ 7 else T.ρ 6)]) < (0 : Int)
    · have d5 : vn3.den T = some [b2i false] := fls (p := (0 : Int) ≤ (T.Φ 20 [T.ρ 5, (if T.ρ 6 < T.ρ 7 then T.ρ 7 else T.ρ 6)])) (Int.not_le.2 c5)
      by_cases c6 : (T.Φ 20 [(IntKind.i64.wrap (T.ρ 5 + (1 : Int))), T.ρ 6]) < (0 : Int)
      · have d6 : vn4.den T = some [b2i false] := fls (p := (0 : Int) ≤ (T.Φ 20 [(IntKind.i64.wrap (T.ρ 5 + (1 : Int))), T.ρ 6])) (Int.not_le.2 c6)
        exact .inr (.inr (.inr (.inr (.inr (.inr (.inr (.inr (.inr (.inr (.inr (.inr (.inr (.inr (.inr (.inr (.inl (ai vn4 false d6 (ai vn3 false d5 (ai vn2 false d4 (ai vn1 false d3 (ai vn16 false d2 (ai vn15 false d1 (ai vn0 true d0 (ain ofT .i64 (3) (sm hk) hAL))))))))))))))))))))))))
      · have d6 : vn4.den T = some [b2i true] := tr (p := (0 : Int) ≤ (T.Φ 20 [(IntKind.i64.wrap (T.ρ 5 + (1 : Int))), T.ρ 6])) (Int.not_lt.1 c6)
        have c7 : ¬ ((T.Φ 20 [T.ρ 5, T.ρ 6]) < (0 : Int)) := by first | omega | (rw [w_i64 (by omega) (by omega)]; omega)
        have d7 : vn5.den T = some [b2i false] := fls (p := (T.Φ 20 [T.ρ 5, T.ρ 6]) < (0 : Int)) c7
        have c8 : ¬ ((T.Φ 20 [(IntKind.i64.wrap (T.ρ 5 + (1 : Int))), T.ρ 6]) < (T.Φ 20 [T.ρ 5, T.ρ 6])) := by first | omega | (rw [w_i64 (by omega) (by omega)]; omega)
        have d8 : vn6.den T = some [b2i false] := fls (p := (T.Φ 20 [(IntKind.i64.wrap (T.ρ 5 + (1 : Int))), T.ρ 6]) < (T.Φ 20 [T.ρ 5, T.ρ 6])) c8
        exact .inr (.inr (.inr (.inr (.inr (.inr (.inr (.inr (.inr (.inr (.inr (.inr (.inr (.inr (.inr (.inr (.inr (.inl (ai vn6 false d8 (ai vn5 false d7 (ai vn4 true d6 (ai vn3 false d5 (ai vn2 false d4 (ai vn1 false d3 (ai vn16 false d2 (ai vn15 false d1 (ai vn0 true d0 (ain ofT .i64 (3) (sm hk) hAL)))))))))))))))))))))))))))
    · have d5 : vn3.den T = some [b2i true] := tr (p := (0 : Int) ≤ (T.Φ 20 [T.ρ 5, (if T.ρ 6 < T.ρ 7 then T.ρ 7 else T.ρ 6)])) (Int.not_lt.1 c5)
      have c6 : ¬ ((T.Φ 20 [T.ρ 5, (if T.ρ 7 < T.ρ 6 then T.ρ 7 else T.ρ 6)]) < (0 : Int)) := by first | omega | (rw [w_i64 (by omega) (by omega)]; omega)
      have d6 : vn7.den T = some [b2i false] := fls (p := (T.Φ 20 [T.ρ 5, (if T.ρ 7 < T.ρ 6 then T.ρ 7 else T.ρ 6)]) < (0 : Int)) c6
      have c7 : ¬ ((T.Φ 20 [T.ρ 5, (if T.ρ 6 < T.ρ 7 then T.ρ 7 else T.ρ 6)]) < (T.Φ 20 [T.ρ 5, (if T.ρ 7 < T.ρ 6 then T.ρ 7 else T.ρ 6)])) := by first | omega | (rw [w_i64 (by omega) (by omega)]; omega)
      have d7 : vn8.den T = some [b2i false] := fls (p := (T.Φ 20 [T.ρ 5, (if T.ρ 6 < T.ρ 7 then T.ρ 7 else T.ρ 6)]) < (T.Φ 20 [T.ρ 5, (if T.ρ 7 < T.ρ 6 then T.ρ 7 else T.ρ 6)])) c7
      by_cases c8 : (T.Φ 20 [(IntKind.i64.wrap (T.ρ 5 + (1 : Int))), T.ρ 6]) < (0 : Int)
      · have d8 : vn4.den T = some [b2i false] := fls (p := (0 : Int) ≤ (T.Φ 20 [(IntKind.i64.wrap (T.ρ 5 + (1 : Int))), T.ρ 6])) (Int.not_le.2 c8)
        exact .inr (.inr (.inr (.inr (.inr (.inr (.inr (.inr (.inr (.inr (.inr (.inr (.inr (.inr (.inr (.inr (.inr (.inr (.inl (ai vn4 false d8 (ai vn8 false d7 (ai vn7 false d6 (ai vn3 true d5 (ai vn2 false d4 (ai vn1 false d3 (ai vn16 false d2 (ai vn15 false d1 (ai vn0 true d0 (ain ofT .i64 (3) (sm hk) hAL))))))))))))))))))))))))))))
      · have d8 : vn4.den T = some [b2i true] := tr (p := (0 : Int) ≤ (T.Φ 20 [(IntKind.i64.wrap (T.ρ 5 + (1 : Int))), T.ρ 6])) (Int.not_lt.1 c8)
        have c9 : ¬ ((T.Φ 20 [T.ρ 5, T.ρ 6]) < (0 : Int)) := by first | omega | (rw [w_i64 (by omega) (by omega)]; omega)
        have d9 : vn5.den T = some [b2i false] := fls (p := (T.Φ 20 [T.ρ 5, T.ρ 6]) < (0 : Int)) c9
        have c10 : ¬ ((T.Φ 20 [(IntKind.i64.wrap (T.ρ 5 + (1 : Int))), T.ρ 6]) < (T.Φ 20 [T.ρ 5, T.ρ 6])) := by first | omega | (rw [w_i64 (by omega) (by omega)]; omega)
        have d10 : vn6.den T = some [b2i false] := fls (p := (T.Φ 20 [(IntKind.i64.wrap (T.ρ 5 + (1 : Int))), T.ρ 6]) < (T.Φ 20 [T.ρ 5, T.ρ 6])) c10
        exact .inr (.inr (.inr (.inr (.inr (.inr (.inr (.inr (.inr (.inr (.inr (.inr (.inr (.inr (.inr (.inr (.inr (.inr (.inr ((ai vn6 false d10 (ai vn5 false d9 (ai vn4 true d8 (ai vn8 false d7 (ai vn7 false d6 (ai vn3 true d5 (ai vn2 false d4 (ai vn1 false d3 (ai vn16 false d2 (ai vn15 false d1 (ai vn0 true d0 (ain ofT .i64 (3) (sm hk) hAL)))))))))))))))))))))))))))))))
end Go.Proofs.Ytokcoabcflpbbaa
