/-
  CacheTells, by its ways. Conditions: those each says.
-/
import Derived.Test.YtmeppoihgfdgaaaDoorCA3a
import Derived.Test.YtmeppoihgfdgaaaDoorCA3b
import Derived.Test.YtmeppoihgfdgaaaDoorCA3c
import Derived.Test.YtmeppoihgfdgaaaDoorCA3d
import Derived.Test.YtmeppoihgfdgaaaDoorCA3e
namespace Go.Proofs.YtmeppoihgfdgaaaDoor
open Go.Ev Go.RowKit
set_option maxRecDepth 100000
set_option linter.unusedVariables false
def Φ9 : Nat → List Int → Int
  | 9, [] => 1
  | _, _ => 0
set_option maxHeartbeats 8000000 in
theorem tells_any (a b c k u v x : Int) (ha : 0 ≤ a) (hb : 0 ≤ b ∧ b < 256) (hc : 0 ≤ c ∧ c < 256) (ty : TypeId) (w : World) (hw : GOk Tryd.prog (gsT ty) w) : Calls Tryd.prog 4 #[.int .u8 a, .int .u8 b, .int .u8 c, .int .i64 k, .int .u64 u, .int .u64 v, .int .u64 x] w fun e w' => e = .returned (.bool true) ∧ Quiet w w' := by
  obtain ⟨t, ht⟩ : ∃ t : Int, t = a % 8 + 1 := ⟨_, rfl⟩
  have bt : 1 ≤ t ∧ t ≤ 8 := by omega
  obtain ⟨k14, k24⟩ := nonlin1 bt
  have m1 := Int.emod_nonneg b (show t ≠ 0 by omega)
  have m2 := Int.emod_lt_of_pos b (show 0 < t by omega)
  have m3 := Int.emod_nonneg c (show t ≠ 0 by omega)
  have m4 := Int.emod_lt_of_pos c (show 0 < t by omega)
  obtain ⟨SS, hSS⟩ : ∃ SS : Sy, SS = ⟨upd (fun _ => 0) [(9, t), (10, 4 * t), (11, 8 * t), (12, 2 * t), (13, 2 * t + 2), (14, t * (2 * t + 2)), (23, 2 * t + 3), (24, t * (2 * t + 3)), (7, 8 * t + t * (2 * t + 3)), (8, 8 * (8 * t + t * (2 * t + 3))), (30, 21 + t), (31, 22 + t), (32, 23 + t), (33, 24 + t), (34, 32 + t), (35, 40 + t), (36, 40 + 9 * t), (37, 40 + 13 * t), (38, 40 + 15 * t), (39, 40 + 16 * t), (40, 40 + 16 * t + t * (2 * t + 2)), (41, 40 + 16 * t + t * (2 * t + 2) + (8 * t + t * (2 * t + 3))), (42, 40 + 16 * t + t * (2 * t + 2) + 9 * (8 * t + t * (2 * t + 3))), (2, a), (3, b), (4, c), (20, k), (21, u), (22, v), (25, x), (17, b % t), (18, c % t), (50, 4 * (b % t)), (51, 4 * (b % t) + k), (52, 8 * (b % t) + 2 * k), (53, 8 * (b % t) + 2 * k + 1), (54, (40 + t) + (8 * (b % t) + 2 * k)), (55, (40 + t) + (8 * (b % t) + 2 * k) + 1), (70, 4 * (c % t)), (71, 4 * (c % t) + k), (72, 8 * (c % t) + 2 * k), (73, 8 * (c % t) + 2 * k + 1), (74, (40 + t) + (8 * (c % t) + 2 * k)), (75, (40 + t) + (8 * (c % t) + 2 * k) + 1)], Φ9, [], fun z hz => by simp at hz⟩ := ⟨_, rfl⟩
  have i9 : SS.ρ 9 = t := by rw [hSS]; rfl
  have i10 : SS.ρ 10 = 4 * t := by rw [hSS]; rfl
  have i11 : SS.ρ 11 = 8 * t := by rw [hSS]; rfl
  have i12 : SS.ρ 12 = 2 * t := by rw [hSS]; rfl
  have i13 : SS.ρ 13 = 2 * t + 2 := by rw [hSS]; rfl
  have i14 : SS.ρ 14 = t * (2 * t + 2) := by rw [hSS]; rfl
  have i23 : SS.ρ 23 = 2 * t + 3 := by rw [hSS]; rfl
  have i24 : SS.ρ 24 = t * (2 * t + 3) := by rw [hSS]; rfl
  have i7 : SS.ρ 7 = 8 * t + t * (2 * t + 3) := by rw [hSS]; rfl
  have i8 : SS.ρ 8 = 8 * (8 * t + t * (2 * t + 3)) := by rw [hSS]; rfl
  have i30 : SS.ρ 30 = 21 + t := by rw [hSS]; rfl
  have i31 : SS.ρ 31 = 22 + t := by rw [hSS]; rfl
  have i32 : SS.ρ 32 = 23 + t := by rw [hSS]; rfl
  have i33 : SS.ρ 33 = 24 + t := by rw [hSS]; rfl
  have i34 : SS.ρ 34 = 32 + t := by rw [hSS]; rfl
  have i35 : SS.ρ 35 = 40 + t := by rw [hSS]; rfl
  have i36 : SS.ρ 36 = 40 + 9 * t := by rw [hSS]; rfl
  have i37 : SS.ρ 37 = 40 + 13 * t := by rw [hSS]; rfl
  have i38 : SS.ρ 38 = 40 + 15 * t := by rw [hSS]; rfl
  have i39 : SS.ρ 39 = 40 + 16 * t := by rw [hSS]; rfl
  have i40 : SS.ρ 40 = 40 + 16 * t + t * (2 * t + 2) := by rw [hSS]; rfl
  have i41 : SS.ρ 41 = 40 + 16 * t + t * (2 * t + 2) + (8 * t + t * (2 * t + 3)) := by rw [hSS]; rfl
  have i42 : SS.ρ 42 = 40 + 16 * t + t * (2 * t + 2) + 9 * (8 * t + t * (2 * t + 3)) := by rw [hSS]; rfl
  have i2 : SS.ρ 2 = a := by rw [hSS]; rfl
  have i3 : SS.ρ 3 = b := by rw [hSS]; rfl
  have i4 : SS.ρ 4 = c := by rw [hSS]; rfl
  have i20 : SS.ρ 20 = k := by rw [hSS]; rfl
  have i21 : SS.ρ 21 = u := by rw [hSS]; rfl
  have i22 : SS.ρ 22 = v := by rw [hSS]; rfl
  have i25 : SS.ρ 25 = x := by rw [hSS]; rfl
  have i17 : SS.ρ 17 = b % t := by rw [hSS]; rfl
  have i18 : SS.ρ 18 = c % t := by rw [hSS]; rfl
  have i50 : SS.ρ 50 = 4 * (b % t) := by rw [hSS]; rfl
  have i51 : SS.ρ 51 = 4 * (b % t) + k := by rw [hSS]; rfl
  have i52 : SS.ρ 52 = 8 * (b % t) + 2 * k := by rw [hSS]; rfl
  have i53 : SS.ρ 53 = 8 * (b % t) + 2 * k + 1 := by rw [hSS]; rfl
  have i54 : SS.ρ 54 = (40 + t) + (8 * (b % t) + 2 * k) := by rw [hSS]; rfl
  have i55 : SS.ρ 55 = (40 + t) + (8 * (b % t) + 2 * k) + 1 := by rw [hSS]; rfl
  have i70 : SS.ρ 70 = 4 * (c % t) := by rw [hSS]; rfl
  have i71 : SS.ρ 71 = 4 * (c % t) + k := by rw [hSS]; rfl
  have i72 : SS.ρ 72 = 8 * (c % t) + 2 * k := by rw [hSS]; rfl
  have i73 : SS.ρ 73 = 8 * (c % t) + 2 * k + 1 := by rw [hSS]; rfl
  have i74 : SS.ρ 74 = (40 + t) + (8 * (c % t) + 2 * k) := by rw [hSS]; rfl
  have i75 : SS.ρ 75 = (40 + t) + (8 * (c % t) + 2 * k) + 1 := by rw [hSS]; rfl
  have iI : SS.I = [] := by rw [hSS]
  have h9 : SS.Φ 9 [] = 1 := by rw [hSS]; rfl
  clear hSS
  have geo : Geo1 SS := ⟨iI, by rw [i9]; omega, by rw [i9, i10], by rw [i9, i11], by rw [i9, i12], by rw [i9, i13], by rw [i9, i13, i14], by rw [i9, i23], by rw [i9, i23, i24], by rw [i7, i11, i24], by rw [i7, i8], by rw [i14]; exact k14, by rw [i24]; exact k24, by rw [i9, i30], by rw [i9, i31], by rw [i9, i32], by rw [i9, i33], by rw [i9, i34], by rw [i9, i35], by rw [i9, i36], by rw [i9, i37], by rw [i9, i38], by rw [i9, i39], by rw [i9, i14, i40], by rw [i7, i9, i14, i41], by rw [i7, i9, i14, i42]⟩
  have h : TIn SS := { toGeo1 := geo, e9 := by rw [i2, i9]; exact ht, h2 := by rw [i2]; exact ha, h3 := by rw [i3]; exact hb, h4 := by rw [i4]; exact hc, e17 := by rw [i3, i9, i17], e18 := by rw [i4, i9, i18], b17 := by rw [i9, i17]; exact ⟨m1, m2⟩, b18 := by rw [i9, i18]; exact ⟨m3, m4⟩, e50 := by rw [i17, i50], e51 := by rw [i17, i20, i51], e52 := by rw [i17, i20, i52], e53 := by rw [i17, i20, i53], e54 := by rw [i35, i52, i54], e55 := by rw [i35, i52, i55], e70 := by rw [i18, i70], e71 := by rw [i18, i20, i71], e72 := by rw [i18, i20, i72], e73 := by rw [i18, i20, i73], e74 := by rw [i35, i72, i74], e75 := by rw [i35, i72, i75] }
  rw [← i2, ← i3, ← i4, ← i20, ← i21, ← i22, ← i25]
  by_cases c1 : SS.ρ 20 < 0
  · by_cases d : SS.ρ 25 = 0
    · exact tellsN1 h c1 d h9 ty w hw
    · exact tellsN0 h c1 d h9 ty w hw
  by_cases c2 : 3 < SS.ρ 20
  · by_cases d : SS.ρ 25 = 0
    · exact tellsH1 h c2 d h9 ty w hw
    · exact tellsH0 h c2 d h9 ty w hw
  have hc : 0 ≤ SS.ρ 20 ∧ SS.ρ 20 ≤ 3 := by omega
  by_cases d1 : SS.ρ 21 = 0 <;> by_cases d2 : SS.ρ 22 = 0 <;> by_cases d3 : SS.ρ 25 = 0
  · exact tells111 h hc d1 d2 d3 h9 ty w hw
  · exact tells110 h hc d1 d2 d3 h9 ty w hw
  · exact tells101 h hc d1 d2 d3 h9 ty w hw
  · exact tells100 h hc d1 d2 d3 h9 ty w hw
  · exact tells011 h hc d1 d2 d3 h9 ty w hw
  · exact tells010 h hc d1 d2 d3 h9 ty w hw
  · exact tells001 h hc d1 d2 d3 h9 ty w hw
  · exact tells000 h hc d1 d2 d3 h9 ty w hw
end Go.Proofs.YtmeppoihgfdgaaaDoor
