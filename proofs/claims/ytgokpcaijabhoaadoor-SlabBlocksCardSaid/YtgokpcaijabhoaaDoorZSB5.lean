/- Texts of a proof, one behind the other. Conditions: those each says. -/
import Derived.Test.YtgokpcaijabhoaaDoorZSB4a
import Derived.Test.YtgokpcaijabhoaaDoorZSB4b
import Derived.Test.YtgokpcaijabhoaaDoorZSB4c
import Derived.Test.YtgokpcaijabhoaaDoorZSB4d
namespace Go.Proofs.YtgokpcaijabhoaaDoor
open Go.Ev Go.RowKit
set_option maxRecDepth 100000
set_option linter.unusedVariables false
def Φ3 : Nat → List Int → Int
  | 9, [] => 1
  | 30, [x] => lg x
  | 32, [_, _, _, _, _, _, _, _, _, _, _, _, _, _, _, _, _, _, _, _, _, _, x] => 22 + x
  | 33, [n, _, _, _, _, _, _, _, _, _, _, _, _, _, _, _, _, _, _, _, _, _, x] => 22 + n + x
  | 34, [n, _, _, _, _, _, _, _, _, _, _, _, _, _, _, _, _, _, _, _, _, _, x] => 22 + 2 * n + x
  | _, _ => 0
set_option maxHeartbeats 8000000 in
theorem blocks_any (a b c : Int) (ha : 0 ≤ a) (hb : 0 ≤ b ∧ b < 256) (hc : 0 ≤ c) (ty : TypeId) (w : World) (hw : GOk Tryd.prog (gsT ty) w) : Calls Tryd.prog 3 #[.int .u8 a, .int .u8 b, .int .u8 c] w fun e w' => e = .returned (.bool true) ∧ Quiet w w' := by
  obtain ⟨n, hn⟩ : ∃ n : Int, n = a % 20 + 1 := ⟨_, rfl⟩
  have bn : 1 ≤ n ∧ n ≤ 20 := by omega
  have m1 := Int.emod_nonneg b (show n ≠ 0 by omega)
  have m2 := Int.emod_lt_of_pos b (show 0 < n by omega)
  obtain ⟨SS, hSS⟩ : ∃ SS : Sy, SS = ⟨upd (fun _ => 0) [(2, a), (3, b), (4, c), (5, n), (17, b % n), (20, c % 4), (45, n - 1), (71, 21 + n), (62, lg n), (64, 7 + lg n), (6, 8 * n), (15, n + 1), (16, 4 * n + 4), (7, 4 * n + 9), (8, 32 * n + 72), (18, 64 * n), (31, 22 + n), (32, 22 + 2 * n), (33, 22 + 3 * n), (34, 22 + 11 * n), (35, 22 + 19 * n), (36, 30 + 19 * n), (37, 34 + 19 * n), (38, 36 + 19 * n), (39, 37 + 19 * n), (40, 41 + 19 * n), (41, 50 + 23 * n), (42, 122 + 55 * n)], Φ3, [], fun z hz => by simp at hz⟩ := ⟨_, rfl⟩
  have i2 : SS.ρ 2 = a := by rw [hSS]; rfl
  have i3 : SS.ρ 3 = b := by rw [hSS]; rfl
  have i4 : SS.ρ 4 = c := by rw [hSS]; rfl
  have i5 : SS.ρ 5 = n := by rw [hSS]; rfl
  have i17 : SS.ρ 17 = b % n := by rw [hSS]; rfl
  have i20 : SS.ρ 20 = c % 4 := by rw [hSS]; rfl
  have i45 : SS.ρ 45 = n - 1 := by rw [hSS]; rfl
  have i71 : SS.ρ 71 = 21 + n := by rw [hSS]; rfl
  have i62 : SS.ρ 62 = lg n := by rw [hSS]; rfl
  have i64 : SS.ρ 64 = 7 + lg n := by rw [hSS]; rfl
  have i6 : SS.ρ 6 = 8 * n := by rw [hSS]; rfl
  have i15 : SS.ρ 15 = n + 1 := by rw [hSS]; rfl
  have i16 : SS.ρ 16 = 4 * n + 4 := by rw [hSS]; rfl
  have i7 : SS.ρ 7 = 4 * n + 9 := by rw [hSS]; rfl
  have i8 : SS.ρ 8 = 32 * n + 72 := by rw [hSS]; rfl
  have i18 : SS.ρ 18 = 64 * n := by rw [hSS]; rfl
  have i31 : SS.ρ 31 = 22 + n := by rw [hSS]; rfl
  have i32 : SS.ρ 32 = 22 + 2 * n := by rw [hSS]; rfl
  have i33 : SS.ρ 33 = 22 + 3 * n := by rw [hSS]; rfl
  have i34 : SS.ρ 34 = 22 + 11 * n := by rw [hSS]; rfl
  have i35 : SS.ρ 35 = 22 + 19 * n := by rw [hSS]; rfl
  have i36 : SS.ρ 36 = 30 + 19 * n := by rw [hSS]; rfl
  have i37 : SS.ρ 37 = 34 + 19 * n := by rw [hSS]; rfl
  have i38 : SS.ρ 38 = 36 + 19 * n := by rw [hSS]; rfl
  have i39 : SS.ρ 39 = 37 + 19 * n := by rw [hSS]; rfl
  have i40 : SS.ρ 40 = 41 + 19 * n := by rw [hSS]; rfl
  have i41 : SS.ρ 41 = 50 + 23 * n := by rw [hSS]; rfl
  have i42 : SS.ρ 42 = 122 + 55 * n := by rw [hSS]; rfl
  have iI : SS.I = [] := by rw [hSS]
  have h9 : SS.Φ 9 [] = 1 := by rw [hSS]; rfl
  have hlg : ∀ x : Int, SS.Φ 30 [x] = lg x := fun x => by rw [hSS]; rfl
  have hpg : ∀ x : Int, SS.Φ 32 (glS SS x) = 22 + x := fun x => by rw [hSS]; rfl
  have hbt : ∀ x : Int, SS.Φ 33 (glS SS x) = 22 + SS.ρ 5 + x := fun x => by rw [hSS]; rfl
  have hrm : ∀ x : Int, SS.Φ 34 (glS SS x) = 22 + 2 * SS.ρ 5 + x := fun x => by rw [hSS]; rfl
  clear hSS
  have g : GeoS SS := ⟨iI, hlg, hpg, hbt, hrm, by rw [i5]; exact bn, by rw [i6, i5], by rw [i15, i5], by rw [i16, i5], by rw [i7, i5], by rw [i8, i5], by rw [i18, i5], by rw [i31, i5], by rw [i32, i5], by rw [i33, i5], by rw [i34, i5], by rw [i35, i5], by rw [i36, i5], by rw [i37, i5], by rw [i38, i5], by rw [i39, i5], by rw [i40, i5], by rw [i41, i5], by rw [i42, i5], by rw [i17, i5]; exact ⟨m1, m2⟩, by rw [i20]; omega⟩
  rw [← i2, ← i3, ← i4]
  have v : Giv SS := ⟨g, by rw [i2]; exact ha, by rw [i5, i2]; exact hn, by rw [i3]; exact hb, by rw [i17, i3, i5], by rw [i4]; exact hc, by rw [i20, i4], by rw [i45, i5], by rw [i71, i5], by rw [i62, i5], by rw [i64, i62], h9⟩
  have gn := g.n; have gw := g.w; have gc := g.c
  clear i2 i3 i4 i5 i17 i20 i45 i71 i62 i64
  rcases (show SS.ρ 20 = 0 ∨ SS.ρ 20 = 1 ∨ SS.ρ 20 = 2 ∨ SS.ρ 20 = 3 from by omega) with hd | hd | hd | hd
  · by_cases hm : 1 < SS.ρ 5
    · by_cases h0 : SS.ρ 5 - SS.ρ 17 - 1 = 0
      · exact wayL0010 v hm h0 hd ty w hw
      by_cases h1 : SS.ρ 5 - SS.ρ 17 - 1 = 1
      · exact wayL1010 v hm h1 (by have := lg_ne (x := SS.ρ 5 - SS.ρ 17) (y := SS.ρ 5 - SS.ρ 17 - 1) (by omega) h1; omega) hd ty w hw
      by_cases hs : 7 + lg (SS.ρ 5 - SS.ρ 17 - 1) = 7 + lg (SS.ρ 5 - SS.ρ 17)
      · exact wayL2110 v hm (by omega) hs hd ty w hw
      · exact wayL2010 v hm (by omega) hs hd ty w hw
    · exact wayL0000 v (by omega) (by omega) hd ty w hw
  · by_cases hm : 1 < SS.ρ 5
    · by_cases h0 : SS.ρ 5 - SS.ρ 17 - 1 = 0
      · exact wayL0011 v hm h0 hd ty w hw
      by_cases h1 : SS.ρ 5 - SS.ρ 17 - 1 = 1
      · exact wayL1011 v hm h1 (by have := lg_ne (x := SS.ρ 5 - SS.ρ 17) (y := SS.ρ 5 - SS.ρ 17 - 1) (by omega) h1; omega) hd ty w hw
      by_cases hs : 7 + lg (SS.ρ 5 - SS.ρ 17 - 1) = 7 + lg (SS.ρ 5 - SS.ρ 17)
      · exact wayL2111 v hm (by omega) hs hd ty w hw
      · exact wayL2011 v hm (by omega) hs hd ty w hw
    · exact wayL0001 v (by omega) (by omega) hd ty w hw
  · by_cases hm : 1 < SS.ρ 5
    · by_cases h0 : SS.ρ 5 - SS.ρ 17 - 1 = 0
      · exact wayL0012 v hm h0 hd ty w hw
      by_cases h1 : SS.ρ 5 - SS.ρ 17 - 1 = 1
      · exact wayL1012 v hm h1 (by have := lg_ne (x := SS.ρ 5 - SS.ρ 17) (y := SS.ρ 5 - SS.ρ 17 - 1) (by omega) h1; omega) hd ty w hw
      by_cases hs : 7 + lg (SS.ρ 5 - SS.ρ 17 - 1) = 7 + lg (SS.ρ 5 - SS.ρ 17)
      · exact wayL2112 v hm (by omega) hs hd ty w hw
      · exact wayL2012 v hm (by omega) hs hd ty w hw
    · exact wayL0002 v (by omega) (by omega) hd ty w hw
  · by_cases hm : 1 < SS.ρ 5
    · by_cases h0 : SS.ρ 5 - SS.ρ 17 - 1 = 0
      · exact wayL0013 v hm h0 hd ty w hw
      by_cases h1 : SS.ρ 5 - SS.ρ 17 - 1 = 1
      · exact wayL1013 v hm h1 (by have := lg_ne (x := SS.ρ 5 - SS.ρ 17) (y := SS.ρ 5 - SS.ρ 17 - 1) (by omega) h1; omega) hd ty w hw
      by_cases hs : 7 + lg (SS.ρ 5 - SS.ρ 17 - 1) = 7 + lg (SS.ρ 5 - SS.ρ 17)
      · exact wayL2113 v hm (by omega) hs hd ty w hw
      · exact wayL2013 v hm (by omega) hs hd ty w hw
    · exact wayL0003 v (by omega) (by omega) hd ty w hw
end Go.Proofs.YtgokpcaijabhoaaDoor
