/-
  Stage 2: GeomWithin, run with symbols. Conditions: its number a fits its kind.
-/
import Derived.Test.YtacdbgepncimgabDoorG4
namespace Go.Proofs.YtacdbgepncimgabDoor
open Go.Ev Go.RowKit
set_option maxRecDepth 100000
theorem wrapI (x : Int) : IntKind.i64.wrap x = (x + 9223372036854775808) % 18446744073709551616 - 9223372036854775808 := by
  simp only [IntKind.wrap, IntKind.bits, IntKind.signed]
  simp
  split <;> omega
theorem low17 (p t x : Int) (hp : 1 ≤ p) (hp2 : p ≤ 256) (ht : 1 ≤ t) (ht2 : t ≤ 64) (hx : -9223372036854775808 ≤ x) (ha : x < 0) : atV p t 17 (IntKind.i64.wrap (x - 1)) 0 0 = -1 := by
  obtain ⟨⟨r1, r2⟩, ⟨k1, k2⟩, l1, l2⟩ := big p t hp hp2 ht ht2
  have h := wrapI (x - 1)
  simp only [atV, place, dims]
  rw [if_pos (by omega)]
theorem low18 (p t x y : Int) (hp : 1 ≤ p) (hp2 : p ≤ 256) (ht : 1 ≤ t) (ht2 : t ≤ 64) (hx : -9223372036854775808 ≤ x) (ha : x < 0) : atV p t 18 (IntKind.i64.wrap (x - 1)) y 0 = -1 := by
  obtain ⟨⟨r1, r2⟩, ⟨k1, k2⟩, l1, l2⟩ := big p t hp hp2 ht ht2
  have h := wrapI (x - 1)
  simp only [atV, place, dims]
  rw [if_pos (by omega)]
theorem cs_ok (ty : TypeId) (p t x y z : Int) (hp : 1 ≤ p) (hp2 : p ≤ 256) (ht : 1 ≤ t) (ht2 : t ≤ 64) : ∀ c ∈ [c32, c28], CtrOk Tryd.prog (gS p t x y z) (gsT ty) c := by
  intro c hc
  rcases List.mem_cons.1 hc with h | hc
  · rw [h]; exact c32_ok ty p t x y z hp hp2 ht ht2
  rcases List.mem_cons.1 hc with h | hc
  · rw [h]; exact c28_ok ty p t x y z
  exact absurd hc List.not_mem_nil
theorem c28s_ok (ty : TypeId) (p t x y z : Int) : ∀ c ∈ [c28], CtrOk Tryd.prog (gS p t x y z) (gsT ty) c := by
  intro c hc
  rcases List.mem_cons.1 hc with h | hc
  · rw [h]; exact c28_ok ty p t x y z
  exact absurd hc List.not_mem_nil
def awT : Tm := .appB 90 .nil
theorem within_bad0 (p t x y z : Int) (h0 : (p < 1)) (ty : TypeId) (w : World) (hw : GOk Tryd.prog (gsT ty) w) : Calls Tryd.prog 5 #[.int .i64 p, .int .i64 t, .int .i64 x, .int .i64 y, .int .i64 z] w fun e w' => e = .returned (.bool true) ∧ Quiet w w' := by
  exact symIs env (al_is awT true (by kernel_rfl) rfl (al_is (.bin .lss (.var .i64 0) (.lit .i64 1)) true (by kernel_rfl) (tr h0) (AlOk.nil (gS p t x y z)))) (c28s_ok ty p t x y z) (n := 1000) (f := 5) (args := [.float .f64 (0 * 512 + kI .i64), .float .f64 (1 * 512 + kI .i64), .float .f64 (60 * 512 + kI .i64), .float .f64 (61 * 512 + kI .i64), .float .f64 (62 * 512 + kI .i64)]) (args' := [.int .i64 p, .int .i64 t, .int .i64 x, .int .i64 y, .int .i64 z]) true (fun G => by kernel_rfl) (fun G ι => vs_sym rfl (vs_sym rfl (vs_sym rfl (vs_sym rfl (vs_sym rfl vs_nil))))) w hw
theorem within_bad1 (p t x y z : Int) (h0 : ¬ (p < 1)) (h1 : (256 < p)) (ty : TypeId) (w : World) (hw : GOk Tryd.prog (gsT ty) w) : Calls Tryd.prog 5 #[.int .i64 p, .int .i64 t, .int .i64 x, .int .i64 y, .int .i64 z] w fun e w' => e = .returned (.bool true) ∧ Quiet w w' := by
  exact symIs env (al_is awT true (by kernel_rfl) rfl (al_is (.bin .gtr (.var .i64 0) (.lit .i64 256)) true (by kernel_rfl) (tr h1) (al_is (.bin .lss (.var .i64 0) (.lit .i64 1)) false (by kernel_rfl) (fl h0) (AlOk.nil (gS p t x y z))))) (c28s_ok ty p t x y z) (n := 1000) (f := 5) (args := [.float .f64 (0 * 512 + kI .i64), .float .f64 (1 * 512 + kI .i64), .float .f64 (60 * 512 + kI .i64), .float .f64 (61 * 512 + kI .i64), .float .f64 (62 * 512 + kI .i64)]) (args' := [.int .i64 p, .int .i64 t, .int .i64 x, .int .i64 y, .int .i64 z]) true (fun G => by kernel_rfl) (fun G ι => vs_sym rfl (vs_sym rfl (vs_sym rfl (vs_sym rfl (vs_sym rfl vs_nil))))) w hw
theorem within_bad2 (p t x y z : Int) (h0 : ¬ (p < 1)) (h1 : ¬ (256 < p)) (h2 : (t < 1)) (ty : TypeId) (w : World) (hw : GOk Tryd.prog (gsT ty) w) : Calls Tryd.prog 5 #[.int .i64 p, .int .i64 t, .int .i64 x, .int .i64 y, .int .i64 z] w fun e w' => e = .returned (.bool true) ∧ Quiet w w' := by
  exact symIs env (al_is awT true (by kernel_rfl) rfl (al_is (.bin .lss (.var .i64 1) (.lit .i64 1)) true (by kernel_rfl) (tr h2) (al_is (.bin .gtr (.var .i64 0) (.lit .i64 256)) false (by kernel_rfl) (fl h1) (al_is (.bin .lss (.var .i64 0) (.lit .i64 1)) false (by kernel_rfl) (fl h0) (AlOk.nil (gS p t x y z)))))) (c28s_ok ty p t x y z) (n := 1000) (f := 5) (args := [.float .f64 (0 * 512 + kI .i64), .float .f64 (1 * 512 + kI .i64), .float .f64 (60 * 512 + kI .i64), .float .f64 (61 * 512 + kI .i64), .float .f64 (62 * 512 + kI .i64)]) (args' := [.int .i64 p, .int .i64 t, .int .i64 x, .int .i64 y, .int .i64 z]) true (fun G => by kernel_rfl) (fun G ι => vs_sym rfl (vs_sym rfl (vs_sym rfl (vs_sym rfl (vs_sym rfl vs_nil))))) w hw
theorem within_bad3 (p t x y z : Int) (h0 : ¬ (p < 1)) (h1 : ¬ (256 < p)) (h2 : ¬ (t < 1)) (h3 : (64 < t)) (ty : TypeId) (w : World) (hw : GOk Tryd.prog (gsT ty) w) : Calls Tryd.prog 5 #[.int .i64 p, .int .i64 t, .int .i64 x, .int .i64 y, .int .i64 z] w fun e w' => e = .returned (.bool true) ∧ Quiet w w' := by
  exact symIs env (al_is awT true (by kernel_rfl) rfl (al_is (.bin .gtr (.var .i64 1) (.lit .i64 64)) true (by kernel_rfl) (tr h3) (al_is (.bin .lss (.var .i64 1) (.lit .i64 1)) false (by kernel_rfl) (fl h2) (al_is (.bin .gtr (.var .i64 0) (.lit .i64 256)) false (by kernel_rfl) (fl h1) (al_is (.bin .lss (.var .i64 0) (.lit .i64 1)) false (by kernel_rfl) (fl h0) (AlOk.nil (gS p t x y z))))))) (c28s_ok ty p t x y z) (n := 1000) (f := 5) (args := [.float .f64 (0 * 512 + kI .i64), .float .f64 (1 * 512 + kI .i64), .float .f64 (60 * 512 + kI .i64), .float .f64 (61 * 512 + kI .i64), .float .f64 (62 * 512 + kI .i64)]) (args' := [.int .i64 p, .int .i64 t, .int .i64 x, .int .i64 y, .int .i64 z]) true (fun G => by kernel_rfl) (fun G ι => vs_sym rfl (vs_sym rfl (vs_sym rfl (vs_sym rfl (vs_sym rfl vs_nil))))) w hw
theorem within_nn (p t x y z : Int) (hp : 1 ≤ p) (hp2 : p ≤ 256) (ht : 1 ≤ t) (ht2 : t ≤ 64) (hx : -9223372036854775808 ≤ x) (ha : x < 0) (hb : ¬ 0 ≤ y) (ty : TypeId) (w : World) (hw : GOk Tryd.prog (gsT ty) w) : Calls Tryd.prog 5 #[.int .i64 p, .int .i64 t, .int .i64 x, .int .i64 y, .int .i64 z] w fun e w' => e = .returned (.bool true) ∧ Quiet w w' := by
  have g0 := alG_ok p t x y z hp hp2 ht ht2
  have g1 := al_is (.bin .lss (.var .i64 0) (.lit .i64 1)) false (by kernel_rfl) (fl (show ¬ (p < 1) by omega)) g0
  have g2 := al_is (.bin .gtr (.var .i64 0) (.lit .i64 256)) false (by kernel_rfl) (fl (show ¬ (256 < p) by omega)) g1
  have g3 := al_is (.bin .lss (.var .i64 1) (.lit .i64 1)) false (by kernel_rfl) (fl (show ¬ (t < 1) by omega)) g2
  have g4 := al_is (.bin .gtr (.var .i64 1) (.lit .i64 64)) false (by kernel_rfl) (fl (show ¬ (64 < t) by omega)) g3
  have g5 := al_is (.bin .lss (.var .i64 60) (.lit .i64 0)) true (by kernel_rfl) (tr ha) g4
  have g6 := al_is (.bin .geq (.var .i64 61) (.lit .i64 0)) false (by kernel_rfl) (fl hb) g5
  have n0 := in2 p t (x) hp hp2 ht ht2
  have g7 := al_is (.bin .lss (.app .i64 100 aC0) (.lit .i64 (-1))) false (by kernel_rfl) (fl (show ¬ atV p t 2 (x) (0) (0) < -1 by omega)) g6
  have g8 := al_is (.bin .geq (.app .i64 100 aC0) (.var .i64 21)) false (by kernel_rfl) (fl (show ¬ 21 + 16 * t + 19 * p + t * (2 * t + 2) + (4 * t * (p + 1) + t * (2 * t + 3)) + 8 * (4 * t * (p + 1) + t * (2 * t + 3)) ≤ atV p t 2 (x) (0) (0) by omega)) g7
  have g9 := al_is (.bin .neq (.app .i64 100 aC0) (.lit .i64 (-1))) false (by kernel_rfl) (fl (show ¬ atV p t 2 (x) (0) (0) ≠ -1 by rw [neg2 p t (x) ha]; decide)) g8
  have n1 := in3 p t (x) hp hp2 ht ht2
  have g10 := al_is (.bin .lss (.app .i64 100 aC1) (.lit .i64 (-1))) false (by kernel_rfl) (fl (show ¬ atV p t 3 (x) (0) (0) < -1 by omega)) g9
  have g11 := al_is (.bin .geq (.app .i64 100 aC1) (.var .i64 21)) false (by kernel_rfl) (fl (show ¬ 21 + 16 * t + 19 * p + t * (2 * t + 2) + (4 * t * (p + 1) + t * (2 * t + 3)) + 8 * (4 * t * (p + 1) + t * (2 * t + 3)) ≤ atV p t 3 (x) (0) (0) by omega)) g10
  have g12 := al_is (.bin .neq (.app .i64 100 aC1) (.lit .i64 (-1))) false (by kernel_rfl) (fl (show ¬ atV p t 3 (x) (0) (0) ≠ -1 by rw [neg3 p t (x) ha]; decide)) g11
  have n2 := in5 p t (x) hp hp2 ht ht2
  have g13 := al_is (.bin .lss (.app .i64 100 aC2) (.lit .i64 (-1))) false (by kernel_rfl) (fl (show ¬ atV p t 5 (x) (0) (0) < -1 by omega)) g12
  have g14 := al_is (.bin .geq (.app .i64 100 aC2) (.var .i64 21)) false (by kernel_rfl) (fl (show ¬ 21 + 16 * t + 19 * p + t * (2 * t + 2) + (4 * t * (p + 1) + t * (2 * t + 3)) + 8 * (4 * t * (p + 1) + t * (2 * t + 3)) ≤ atV p t 5 (x) (0) (0) by omega)) g13
  have g15 := al_is (.bin .neq (.app .i64 100 aC2) (.lit .i64 (-1))) false (by kernel_rfl) (fl (show ¬ atV p t 5 (x) (0) (0) ≠ -1 by rw [neg5 p t (x) ha]; decide)) g14
  have n3 := in6 p t (x) hp hp2 ht ht2
  have g16 := al_is (.bin .lss (.app .i64 100 aC3) (.lit .i64 (-1))) false (by kernel_rfl) (fl (show ¬ atV p t 6 (x) (0) (0) < -1 by omega)) g15
  have g17 := al_is (.bin .geq (.app .i64 100 aC3) (.var .i64 21)) false (by kernel_rfl) (fl (show ¬ 21 + 16 * t + 19 * p + t * (2 * t + 2) + (4 * t * (p + 1) + t * (2 * t + 3)) + 8 * (4 * t * (p + 1) + t * (2 * t + 3)) ≤ atV p t 6 (x) (0) (0) by omega)) g16
  have g18 := al_is (.bin .neq (.app .i64 100 aC3) (.lit .i64 (-1))) false (by kernel_rfl) (fl (show ¬ atV p t 6 (x) (0) (0) ≠ -1 by rw [neg6 p t (x) ha]; decide)) g17
  have n4 := in7 p t (x) hp hp2 ht ht2
  have g19 := al_is (.bin .lss (.app .i64 100 aC4) (.lit .i64 (-1))) false (by kernel_rfl) (fl (show ¬ atV p t 7 (x) (0) (0) < -1 by omega)) g18
  have g20 := al_is (.bin .geq (.app .i64 100 aC4) (.var .i64 21)) false (by kernel_rfl) (fl (show ¬ 21 + 16 * t + 19 * p + t * (2 * t + 2) + (4 * t * (p + 1) + t * (2 * t + 3)) + 8 * (4 * t * (p + 1) + t * (2 * t + 3)) ≤ atV p t 7 (x) (0) (0) by omega)) g19
  have g21 := al_is (.bin .neq (.app .i64 100 aC4) (.lit .i64 (-1))) false (by kernel_rfl) (fl (show ¬ atV p t 7 (x) (0) (0) ≠ -1 by rw [neg7 p t (x) ha]; decide)) g20
  have n5 := in8 p t (x) hp hp2 ht ht2
  have g22 := al_is (.bin .lss (.app .i64 100 aC5) (.lit .i64 (-1))) false (by kernel_rfl) (fl (show ¬ atV p t 8 (x) (0) (0) < -1 by omega)) g21
  have g23 := al_is (.bin .geq (.app .i64 100 aC5) (.var .i64 21)) false (by kernel_rfl) (fl (show ¬ 21 + 16 * t + 19 * p + t * (2 * t + 2) + (4 * t * (p + 1) + t * (2 * t + 3)) + 8 * (4 * t * (p + 1) + t * (2 * t + 3)) ≤ atV p t 8 (x) (0) (0) by omega)) g22
  have g24 := al_is (.bin .neq (.app .i64 100 aC5) (.lit .i64 (-1))) false (by kernel_rfl) (fl (show ¬ atV p t 8 (x) (0) (0) ≠ -1 by rw [neg8 p t (x) ha]; decide)) g23
  have n6 := in9 p t (x) hp hp2 ht ht2
  have g25 := al_is (.bin .lss (.app .i64 100 aC6) (.lit .i64 (-1))) false (by kernel_rfl) (fl (show ¬ atV p t 9 (x) (0) (0) < -1 by omega)) g24
  have g26 := al_is (.bin .geq (.app .i64 100 aC6) (.var .i64 21)) false (by kernel_rfl) (fl (show ¬ 21 + 16 * t + 19 * p + t * (2 * t + 2) + (4 * t * (p + 1) + t * (2 * t + 3)) + 8 * (4 * t * (p + 1) + t * (2 * t + 3)) ≤ atV p t 9 (x) (0) (0) by omega)) g25
  have g27 := al_is (.bin .neq (.app .i64 100 aC6) (.lit .i64 (-1))) false (by kernel_rfl) (fl (show ¬ atV p t 9 (x) (0) (0) ≠ -1 by rw [neg9 p t (x) ha]; decide)) g26
  have n7 := in10 p t (x) hp hp2 ht ht2
  have g28 := al_is (.bin .lss (.app .i64 100 aC7) (.lit .i64 (-1))) false (by kernel_rfl) (fl (show ¬ atV p t 10 (x) (0) (0) < -1 by omega)) g27
  have g29 := al_is (.bin .geq (.app .i64 100 aC7) (.var .i64 21)) false (by kernel_rfl) (fl (show ¬ 21 + 16 * t + 19 * p + t * (2 * t + 2) + (4 * t * (p + 1) + t * (2 * t + 3)) + 8 * (4 * t * (p + 1) + t * (2 * t + 3)) ≤ atV p t 10 (x) (0) (0) by omega)) g28
  have g30 := al_is (.bin .neq (.app .i64 100 aC7) (.lit .i64 (-1))) false (by kernel_rfl) (fl (show ¬ atV p t 10 (x) (0) (0) ≠ -1 by rw [neg10 p t (x) ha]; decide)) g29
  have n8 := in11 p t (x) hp hp2 ht ht2
  have g31 := al_is (.bin .lss (.app .i64 100 aC8) (.lit .i64 (-1))) false (by kernel_rfl) (fl (show ¬ atV p t 11 (x) (0) (0) < -1 by omega)) g30
  have g32 := al_is (.bin .geq (.app .i64 100 aC8) (.var .i64 21)) false (by kernel_rfl) (fl (show ¬ 21 + 16 * t + 19 * p + t * (2 * t + 2) + (4 * t * (p + 1) + t * (2 * t + 3)) + 8 * (4 * t * (p + 1) + t * (2 * t + 3)) ≤ atV p t 11 (x) (0) (0) by omega)) g31
  have g33 := al_is (.bin .neq (.app .i64 100 aC8) (.lit .i64 (-1))) false (by kernel_rfl) (fl (show ¬ atV p t 11 (x) (0) (0) ≠ -1 by rw [neg11 p t (x) ha]; decide)) g32
  have n9 := in12 p t (x) (y) (z) hp hp2 ht ht2
  have g34 := al_is (.bin .lss (.app .i64 100 aC9) (.lit .i64 (-1))) false (by kernel_rfl) (fl (show ¬ atV p t 12 (x) (y) (z) < -1 by omega)) g33
  have g35 := al_is (.bin .geq (.app .i64 100 aC9) (.var .i64 21)) false (by kernel_rfl) (fl (show ¬ 21 + 16 * t + 19 * p + t * (2 * t + 2) + (4 * t * (p + 1) + t * (2 * t + 3)) + 8 * (4 * t * (p + 1) + t * (2 * t + 3)) ≤ atV p t 12 (x) (y) (z) by omega)) g34
  have g36 := al_is (.bin .neq (.app .i64 100 aC9) (.lit .i64 (-1))) false (by kernel_rfl) (fl (show ¬ atV p t 12 (x) (y) (z) ≠ -1 by rw [neg12 p t (x) (y) (z) ha]; decide)) g35
  have n10 := in13 p t (x) (y) hp hp2 ht ht2
  have g37 := al_is (.bin .lss (.app .i64 100 aC10) (.lit .i64 (-1))) false (by kernel_rfl) (fl (show ¬ atV p t 13 (x) (y) (0) < -1 by omega)) g36
  have g38 := al_is (.bin .geq (.app .i64 100 aC10) (.var .i64 21)) false (by kernel_rfl) (fl (show ¬ 21 + 16 * t + 19 * p + t * (2 * t + 2) + (4 * t * (p + 1) + t * (2 * t + 3)) + 8 * (4 * t * (p + 1) + t * (2 * t + 3)) ≤ atV p t 13 (x) (y) (0) by omega)) g37
  have g39 := al_is (.bin .neq (.app .i64 100 aC10) (.lit .i64 (-1))) false (by kernel_rfl) (fl (show ¬ atV p t 13 (x) (y) (0) ≠ -1 by rw [neg13 p t (x) (y) ha]; decide)) g38
  have n11 := in14 p t (x) (y) hp hp2 ht ht2
  have g40 := al_is (.bin .lss (.app .i64 100 aC11) (.lit .i64 (-1))) false (by kernel_rfl) (fl (show ¬ atV p t 14 (x) (y) (0) < -1 by omega)) g39
  have g41 := al_is (.bin .geq (.app .i64 100 aC11) (.var .i64 21)) false (by kernel_rfl) (fl (show ¬ 21 + 16 * t + 19 * p + t * (2 * t + 2) + (4 * t * (p + 1) + t * (2 * t + 3)) + 8 * (4 * t * (p + 1) + t * (2 * t + 3)) ≤ atV p t 14 (x) (y) (0) by omega)) g40
  have g42 := al_is (.bin .neq (.app .i64 100 aC11) (.lit .i64 (-1))) false (by kernel_rfl) (fl (show ¬ atV p t 14 (x) (y) (0) ≠ -1 by rw [neg14 p t (x) (y) ha]; decide)) g41
  have n12 := in15 p t (x) hp hp2 ht ht2
  have g43 := al_is (.bin .lss (.app .i64 100 aC12) (.lit .i64 (-1))) false (by kernel_rfl) (fl (show ¬ atV p t 15 (x) (0) (0) < -1 by omega)) g42
  have g44 := al_is (.bin .geq (.app .i64 100 aC12) (.var .i64 21)) false (by kernel_rfl) (fl (show ¬ 21 + 16 * t + 19 * p + t * (2 * t + 2) + (4 * t * (p + 1) + t * (2 * t + 3)) + 8 * (4 * t * (p + 1) + t * (2 * t + 3)) ≤ atV p t 15 (x) (0) (0) by omega)) g43
  have g45 := al_is (.bin .neq (.app .i64 100 aC12) (.lit .i64 (-1))) false (by kernel_rfl) (fl (show ¬ atV p t 15 (x) (0) (0) ≠ -1 by rw [neg15 p t (x) ha]; decide)) g44
  have n13 := in16 p t (x) (y) hp hp2 ht ht2
  have g46 := al_is (.bin .lss (.app .i64 100 aC13) (.lit .i64 (-1))) false (by kernel_rfl) (fl (show ¬ atV p t 16 (x) (y) (0) < -1 by omega)) g45
  have g47 := al_is (.bin .geq (.app .i64 100 aC13) (.var .i64 21)) false (by kernel_rfl) (fl (show ¬ 21 + 16 * t + 19 * p + t * (2 * t + 2) + (4 * t * (p + 1) + t * (2 * t + 3)) + 8 * (4 * t * (p + 1) + t * (2 * t + 3)) ≤ atV p t 16 (x) (y) (0) by omega)) g46
  have g48 := al_is (.bin .neq (.app .i64 100 aC13) (.lit .i64 (-1))) false (by kernel_rfl) (fl (show ¬ atV p t 16 (x) (y) (0) ≠ -1 by rw [neg16 p t (x) (y) ha]; decide)) g47
  have n14 := in17 p t (IntKind.i64.wrap (x - 1)) hp hp2 ht ht2
  have g49 := al_is (.bin .lss (.app .i64 100 aC14) (.lit .i64 (-1))) false (by kernel_rfl) (fl (show ¬ atV p t 17 (IntKind.i64.wrap (x - 1)) (0) (0) < -1 by omega)) g48
  have g50 := al_is (.bin .geq (.app .i64 100 aC14) (.var .i64 21)) false (by kernel_rfl) (fl (show ¬ 21 + 16 * t + 19 * p + t * (2 * t + 2) + (4 * t * (p + 1) + t * (2 * t + 3)) + 8 * (4 * t * (p + 1) + t * (2 * t + 3)) ≤ atV p t 17 (IntKind.i64.wrap (x - 1)) (0) (0) by omega)) g49
  have g51 := al_is (.bin .neq (.app .i64 100 aC14) (.lit .i64 (-1))) false (by kernel_rfl) (fl (show ¬ atV p t 17 (IntKind.i64.wrap (x - 1)) (0) (0) ≠ -1 by rw [low17 p t x  hp hp2 ht ht2 hx ha]; decide)) g50
  have n15 := in18 p t (IntKind.i64.wrap (x - 1)) (y) hp hp2 ht ht2
  have g52 := al_is (.bin .lss (.app .i64 100 aC15) (.lit .i64 (-1))) false (by kernel_rfl) (fl (show ¬ atV p t 18 (IntKind.i64.wrap (x - 1)) (y) (0) < -1 by omega)) g51
  have g53 := al_is (.bin .geq (.app .i64 100 aC15) (.var .i64 21)) false (by kernel_rfl) (fl (show ¬ 21 + 16 * t + 19 * p + t * (2 * t + 2) + (4 * t * (p + 1) + t * (2 * t + 3)) + 8 * (4 * t * (p + 1) + t * (2 * t + 3)) ≤ atV p t 18 (IntKind.i64.wrap (x - 1)) (y) (0) by omega)) g52
  have g54 := al_is (.bin .neq (.app .i64 100 aC15) (.lit .i64 (-1))) false (by kernel_rfl) (fl (show ¬ atV p t 18 (IntKind.i64.wrap (x - 1)) (y) (0) ≠ -1 by rw [low18 p t x y hp hp2 ht ht2 hx ha]; decide)) g53
  have g55 := al_is (.bin .eql (.app .i64 100 aC10) (.lit .i64 (-1))) true (by kernel_rfl) (tr (show atV p t 13 x y 0 = -1 by simp [atV, place, dims, show y < 0 by omega])) g54
  have g56 := al_is (.bin .eql (.app .i64 100 aC15) (.lit .i64 (-1))) true (by kernel_rfl) (tr (show atV p t 18 (IntKind.i64.wrap (x - 1)) y 0 = -1 by simp [atV, place, dims, show y < 0 by omega])) g55
  exact symIs env (al_is awT true (by kernel_rfl) rfl g56) (cs_ok ty p t x y z hp hp2 ht ht2) (n := 1000) (f := 5) (args := [.float .f64 (0 * 512 + kI .i64), .float .f64 (1 * 512 + kI .i64), .float .f64 (60 * 512 + kI .i64), .float .f64 (61 * 512 + kI .i64), .float .f64 (62 * 512 + kI .i64)]) (args' := [.int .i64 p, .int .i64 t, .int .i64 x, .int .i64 y, .int .i64 z]) true (fun G => by kernel_rfl) (fun G ι => vs_sym rfl (vs_sym rfl (vs_sym rfl (vs_sym rfl (vs_sym rfl vs_nil))))) w hw
theorem within_np (p t x y z : Int) (hp : 1 ≤ p) (hp2 : p ≤ 256) (ht : 1 ≤ t) (ht2 : t ≤ 64) (hx : -9223372036854775808 ≤ x) (ha : x < 0) (hb : 0 ≤ y) (ty : TypeId) (w : World) (hw : GOk Tryd.prog (gsT ty) w) : Calls Tryd.prog 5 #[.int .i64 p, .int .i64 t, .int .i64 x, .int .i64 y, .int .i64 z] w fun e w' => e = .returned (.bool true) ∧ Quiet w w' := by
  have g0 := alG_ok p t x y z hp hp2 ht ht2
  have g1 := al_is (.bin .lss (.var .i64 0) (.lit .i64 1)) false (by kernel_rfl) (fl (show ¬ (p < 1) by omega)) g0
  have g2 := al_is (.bin .gtr (.var .i64 0) (.lit .i64 256)) false (by kernel_rfl) (fl (show ¬ (256 < p) by omega)) g1
  have g3 := al_is (.bin .lss (.var .i64 1) (.lit .i64 1)) false (by kernel_rfl) (fl (show ¬ (t < 1) by omega)) g2
  have g4 := al_is (.bin .gtr (.var .i64 1) (.lit .i64 64)) false (by kernel_rfl) (fl (show ¬ (64 < t) by omega)) g3
  have g5 := al_is (.bin .lss (.var .i64 60) (.lit .i64 0)) true (by kernel_rfl) (tr ha) g4
  have g6 := al_is (.bin .geq (.var .i64 61) (.lit .i64 0)) true (by kernel_rfl) (tr hb) g5
  have n0 := in2 p t (x) hp hp2 ht ht2
  have g7 := al_is (.bin .lss (.app .i64 100 aC0) (.lit .i64 (-1))) false (by kernel_rfl) (fl (show ¬ atV p t 2 (x) (0) (0) < -1 by omega)) g6
  have g8 := al_is (.bin .geq (.app .i64 100 aC0) (.var .i64 21)) false (by kernel_rfl) (fl (show ¬ 21 + 16 * t + 19 * p + t * (2 * t + 2) + (4 * t * (p + 1) + t * (2 * t + 3)) + 8 * (4 * t * (p + 1) + t * (2 * t + 3)) ≤ atV p t 2 (x) (0) (0) by omega)) g7
  have g9 := al_is (.bin .neq (.app .i64 100 aC0) (.lit .i64 (-1))) false (by kernel_rfl) (fl (show ¬ atV p t 2 (x) (0) (0) ≠ -1 by rw [neg2 p t (x) ha]; decide)) g8
  have n1 := in3 p t (x) hp hp2 ht ht2
  have g10 := al_is (.bin .lss (.app .i64 100 aC1) (.lit .i64 (-1))) false (by kernel_rfl) (fl (show ¬ atV p t 3 (x) (0) (0) < -1 by omega)) g9
  have g11 := al_is (.bin .geq (.app .i64 100 aC1) (.var .i64 21)) false (by kernel_rfl) (fl (show ¬ 21 + 16 * t + 19 * p + t * (2 * t + 2) + (4 * t * (p + 1) + t * (2 * t + 3)) + 8 * (4 * t * (p + 1) + t * (2 * t + 3)) ≤ atV p t 3 (x) (0) (0) by omega)) g10
  have g12 := al_is (.bin .neq (.app .i64 100 aC1) (.lit .i64 (-1))) false (by kernel_rfl) (fl (show ¬ atV p t 3 (x) (0) (0) ≠ -1 by rw [neg3 p t (x) ha]; decide)) g11
  have n2 := in5 p t (x) hp hp2 ht ht2
  have g13 := al_is (.bin .lss (.app .i64 100 aC2) (.lit .i64 (-1))) false (by kernel_rfl) (fl (show ¬ atV p t 5 (x) (0) (0) < -1 by omega)) g12
  have g14 := al_is (.bin .geq (.app .i64 100 aC2) (.var .i64 21)) false (by kernel_rfl) (fl (show ¬ 21 + 16 * t + 19 * p + t * (2 * t + 2) + (4 * t * (p + 1) + t * (2 * t + 3)) + 8 * (4 * t * (p + 1) + t * (2 * t + 3)) ≤ atV p t 5 (x) (0) (0) by omega)) g13
  have g15 := al_is (.bin .neq (.app .i64 100 aC2) (.lit .i64 (-1))) false (by kernel_rfl) (fl (show ¬ atV p t 5 (x) (0) (0) ≠ -1 by rw [neg5 p t (x) ha]; decide)) g14
  have n3 := in6 p t (x) hp hp2 ht ht2
  have g16 := al_is (.bin .lss (.app .i64 100 aC3) (.lit .i64 (-1))) false (by kernel_rfl) (fl (show ¬ atV p t 6 (x) (0) (0) < -1 by omega)) g15
  have g17 := al_is (.bin .geq (.app .i64 100 aC3) (.var .i64 21)) false (by kernel_rfl) (fl (show ¬ 21 + 16 * t + 19 * p + t * (2 * t + 2) + (4 * t * (p + 1) + t * (2 * t + 3)) + 8 * (4 * t * (p + 1) + t * (2 * t + 3)) ≤ atV p t 6 (x) (0) (0) by omega)) g16
  have g18 := al_is (.bin .neq (.app .i64 100 aC3) (.lit .i64 (-1))) false (by kernel_rfl) (fl (show ¬ atV p t 6 (x) (0) (0) ≠ -1 by rw [neg6 p t (x) ha]; decide)) g17
  have n4 := in7 p t (x) hp hp2 ht ht2
  have g19 := al_is (.bin .lss (.app .i64 100 aC4) (.lit .i64 (-1))) false (by kernel_rfl) (fl (show ¬ atV p t 7 (x) (0) (0) < -1 by omega)) g18
  have g20 := al_is (.bin .geq (.app .i64 100 aC4) (.var .i64 21)) false (by kernel_rfl) (fl (show ¬ 21 + 16 * t + 19 * p + t * (2 * t + 2) + (4 * t * (p + 1) + t * (2 * t + 3)) + 8 * (4 * t * (p + 1) + t * (2 * t + 3)) ≤ atV p t 7 (x) (0) (0) by omega)) g19
  have g21 := al_is (.bin .neq (.app .i64 100 aC4) (.lit .i64 (-1))) false (by kernel_rfl) (fl (show ¬ atV p t 7 (x) (0) (0) ≠ -1 by rw [neg7 p t (x) ha]; decide)) g20
  have n5 := in8 p t (x) hp hp2 ht ht2
  have g22 := al_is (.bin .lss (.app .i64 100 aC5) (.lit .i64 (-1))) false (by kernel_rfl) (fl (show ¬ atV p t 8 (x) (0) (0) < -1 by omega)) g21
  have g23 := al_is (.bin .geq (.app .i64 100 aC5) (.var .i64 21)) false (by kernel_rfl) (fl (show ¬ 21 + 16 * t + 19 * p + t * (2 * t + 2) + (4 * t * (p + 1) + t * (2 * t + 3)) + 8 * (4 * t * (p + 1) + t * (2 * t + 3)) ≤ atV p t 8 (x) (0) (0) by omega)) g22
  have g24 := al_is (.bin .neq (.app .i64 100 aC5) (.lit .i64 (-1))) false (by kernel_rfl) (fl (show ¬ atV p t 8 (x) (0) (0) ≠ -1 by rw [neg8 p t (x) ha]; decide)) g23
  have n6 := in9 p t (x) hp hp2 ht ht2
  have g25 := al_is (.bin .lss (.app .i64 100 aC6) (.lit .i64 (-1))) false (by kernel_rfl) (fl (show ¬ atV p t 9 (x) (0) (0) < -1 by omega)) g24
  have g26 := al_is (.bin .geq (.app .i64 100 aC6) (.var .i64 21)) false (by kernel_rfl) (fl (show ¬ 21 + 16 * t + 19 * p + t * (2 * t + 2) + (4 * t * (p + 1) + t * (2 * t + 3)) + 8 * (4 * t * (p + 1) + t * (2 * t + 3)) ≤ atV p t 9 (x) (0) (0) by omega)) g25
  have g27 := al_is (.bin .neq (.app .i64 100 aC6) (.lit .i64 (-1))) false (by kernel_rfl) (fl (show ¬ atV p t 9 (x) (0) (0) ≠ -1 by rw [neg9 p t (x) ha]; decide)) g26
  have n7 := in10 p t (x) hp hp2 ht ht2
  have g28 := al_is (.bin .lss (.app .i64 100 aC7) (.lit .i64 (-1))) false (by kernel_rfl) (fl (show ¬ atV p t 10 (x) (0) (0) < -1 by omega)) g27
  have g29 := al_is (.bin .geq (.app .i64 100 aC7) (.var .i64 21)) false (by kernel_rfl) (fl (show ¬ 21 + 16 * t + 19 * p + t * (2 * t + 2) + (4 * t * (p + 1) + t * (2 * t + 3)) + 8 * (4 * t * (p + 1) + t * (2 * t + 3)) ≤ atV p t 10 (x) (0) (0) by omega)) g28
  have g30 := al_is (.bin .neq (.app .i64 100 aC7) (.lit .i64 (-1))) false (by kernel_rfl) (fl (show ¬ atV p t 10 (x) (0) (0) ≠ -1 by rw [neg10 p t (x) ha]; decide)) g29
  have n8 := in11 p t (x) hp hp2 ht ht2
  have g31 := al_is (.bin .lss (.app .i64 100 aC8) (.lit .i64 (-1))) false (by kernel_rfl) (fl (show ¬ atV p t 11 (x) (0) (0) < -1 by omega)) g30
  have g32 := al_is (.bin .geq (.app .i64 100 aC8) (.var .i64 21)) false (by kernel_rfl) (fl (show ¬ 21 + 16 * t + 19 * p + t * (2 * t + 2) + (4 * t * (p + 1) + t * (2 * t + 3)) + 8 * (4 * t * (p + 1) + t * (2 * t + 3)) ≤ atV p t 11 (x) (0) (0) by omega)) g31
  have g33 := al_is (.bin .neq (.app .i64 100 aC8) (.lit .i64 (-1))) false (by kernel_rfl) (fl (show ¬ atV p t 11 (x) (0) (0) ≠ -1 by rw [neg11 p t (x) ha]; decide)) g32
  have n9 := in12 p t (x) (y) (z) hp hp2 ht ht2
  have g34 := al_is (.bin .lss (.app .i64 100 aC9) (.lit .i64 (-1))) false (by kernel_rfl) (fl (show ¬ atV p t 12 (x) (y) (z) < -1 by omega)) g33
  have g35 := al_is (.bin .geq (.app .i64 100 aC9) (.var .i64 21)) false (by kernel_rfl) (fl (show ¬ 21 + 16 * t + 19 * p + t * (2 * t + 2) + (4 * t * (p + 1) + t * (2 * t + 3)) + 8 * (4 * t * (p + 1) + t * (2 * t + 3)) ≤ atV p t 12 (x) (y) (z) by omega)) g34
  have g36 := al_is (.bin .neq (.app .i64 100 aC9) (.lit .i64 (-1))) false (by kernel_rfl) (fl (show ¬ atV p t 12 (x) (y) (z) ≠ -1 by rw [neg12 p t (x) (y) (z) ha]; decide)) g35
  have n10 := in13 p t (x) (y) hp hp2 ht ht2
  have g37 := al_is (.bin .lss (.app .i64 100 aC10) (.lit .i64 (-1))) false (by kernel_rfl) (fl (show ¬ atV p t 13 (x) (y) (0) < -1 by omega)) g36
  have g38 := al_is (.bin .geq (.app .i64 100 aC10) (.var .i64 21)) false (by kernel_rfl) (fl (show ¬ 21 + 16 * t + 19 * p + t * (2 * t + 2) + (4 * t * (p + 1) + t * (2 * t + 3)) + 8 * (4 * t * (p + 1) + t * (2 * t + 3)) ≤ atV p t 13 (x) (y) (0) by omega)) g37
  have g39 := al_is (.bin .neq (.app .i64 100 aC10) (.lit .i64 (-1))) false (by kernel_rfl) (fl (show ¬ atV p t 13 (x) (y) (0) ≠ -1 by rw [neg13 p t (x) (y) ha]; decide)) g38
  have n11 := in14 p t (x) (y) hp hp2 ht ht2
  have g40 := al_is (.bin .lss (.app .i64 100 aC11) (.lit .i64 (-1))) false (by kernel_rfl) (fl (show ¬ atV p t 14 (x) (y) (0) < -1 by omega)) g39
  have g41 := al_is (.bin .geq (.app .i64 100 aC11) (.var .i64 21)) false (by kernel_rfl) (fl (show ¬ 21 + 16 * t + 19 * p + t * (2 * t + 2) + (4 * t * (p + 1) + t * (2 * t + 3)) + 8 * (4 * t * (p + 1) + t * (2 * t + 3)) ≤ atV p t 14 (x) (y) (0) by omega)) g40
  have g42 := al_is (.bin .neq (.app .i64 100 aC11) (.lit .i64 (-1))) false (by kernel_rfl) (fl (show ¬ atV p t 14 (x) (y) (0) ≠ -1 by rw [neg14 p t (x) (y) ha]; decide)) g41
  have n12 := in15 p t (x) hp hp2 ht ht2
  have g43 := al_is (.bin .lss (.app .i64 100 aC12) (.lit .i64 (-1))) false (by kernel_rfl) (fl (show ¬ atV p t 15 (x) (0) (0) < -1 by omega)) g42
  have g44 := al_is (.bin .geq (.app .i64 100 aC12) (.var .i64 21)) false (by kernel_rfl) (fl (show ¬ 21 + 16 * t + 19 * p + t * (2 * t + 2) + (4 * t * (p + 1) + t * (2 * t + 3)) + 8 * (4 * t * (p + 1) + t * (2 * t + 3)) ≤ atV p t 15 (x) (0) (0) by omega)) g43
  have g45 := al_is (.bin .neq (.app .i64 100 aC12) (.lit .i64 (-1))) false (by kernel_rfl) (fl (show ¬ atV p t 15 (x) (0) (0) ≠ -1 by rw [neg15 p t (x) ha]; decide)) g44
  have n13 := in16 p t (x) (y) hp hp2 ht ht2
  have g46 := al_is (.bin .lss (.app .i64 100 aC13) (.lit .i64 (-1))) false (by kernel_rfl) (fl (show ¬ atV p t 16 (x) (y) (0) < -1 by omega)) g45
  have g47 := al_is (.bin .geq (.app .i64 100 aC13) (.var .i64 21)) false (by kernel_rfl) (fl (show ¬ 21 + 16 * t + 19 * p + t * (2 * t + 2) + (4 * t * (p + 1) + t * (2 * t + 3)) + 8 * (4 * t * (p + 1) + t * (2 * t + 3)) ≤ atV p t 16 (x) (y) (0) by omega)) g46
  have g48 := al_is (.bin .neq (.app .i64 100 aC13) (.lit .i64 (-1))) false (by kernel_rfl) (fl (show ¬ atV p t 16 (x) (y) (0) ≠ -1 by rw [neg16 p t (x) (y) ha]; decide)) g47
  have n14 := in17 p t (IntKind.i64.wrap (x - 1)) hp hp2 ht ht2
  have g49 := al_is (.bin .lss (.app .i64 100 aC14) (.lit .i64 (-1))) false (by kernel_rfl) (fl (show ¬ atV p t 17 (IntKind.i64.wrap (x - 1)) (0) (0) < -1 by omega)) g48
  have g50 := al_is (.bin .geq (.app .i64 100 aC14) (.var .i64 21)) false (by kernel_rfl) (fl (show ¬ 21 + 16 * t + 19 * p + t * (2 * t + 2) + (4 * t * (p + 1) + t * (2 * t + 3)) + 8 * (4 * t * (p + 1) + t * (2 * t + 3)) ≤ atV p t 17 (IntKind.i64.wrap (x - 1)) (0) (0) by omega)) g49
  have g51 := al_is (.bin .neq (.app .i64 100 aC14) (.lit .i64 (-1))) false (by kernel_rfl) (fl (show ¬ atV p t 17 (IntKind.i64.wrap (x - 1)) (0) (0) ≠ -1 by rw [low17 p t x  hp hp2 ht ht2 hx ha]; decide)) g50
  have n15 := in18 p t (IntKind.i64.wrap (x - 1)) (y) hp hp2 ht ht2
  have g52 := al_is (.bin .lss (.app .i64 100 aC15) (.lit .i64 (-1))) false (by kernel_rfl) (fl (show ¬ atV p t 18 (IntKind.i64.wrap (x - 1)) (y) (0) < -1 by omega)) g51
  have g53 := al_is (.bin .geq (.app .i64 100 aC15) (.var .i64 21)) false (by kernel_rfl) (fl (show ¬ 21 + 16 * t + 19 * p + t * (2 * t + 2) + (4 * t * (p + 1) + t * (2 * t + 3)) + 8 * (4 * t * (p + 1) + t * (2 * t + 3)) ≤ atV p t 18 (IntKind.i64.wrap (x - 1)) (y) (0) by omega)) g52
  have g54 := al_is (.bin .neq (.app .i64 100 aC15) (.lit .i64 (-1))) false (by kernel_rfl) (fl (show ¬ atV p t 18 (IntKind.i64.wrap (x - 1)) (y) (0) ≠ -1 by rw [low18 p t x y hp hp2 ht ht2 hx ha]; decide)) g53
  exact symIs env (al_is awT true (by kernel_rfl) rfl g54) (cs_ok ty p t x y z hp hp2 ht ht2) (n := 1000) (f := 5) (args := [.float .f64 (0 * 512 + kI .i64), .float .f64 (1 * 512 + kI .i64), .float .f64 (60 * 512 + kI .i64), .float .f64 (61 * 512 + kI .i64), .float .f64 (62 * 512 + kI .i64)]) (args' := [.int .i64 p, .int .i64 t, .int .i64 x, .int .i64 y, .int .i64 z]) true (fun G => by kernel_rfl) (fun G ι => vs_sym rfl (vs_sym rfl (vs_sym rfl (vs_sym rfl (vs_sym rfl vs_nil))))) w hw
theorem within_pn (p t x y z : Int) (hp : 1 ≤ p) (hp2 : p ≤ 256) (ht : 1 ≤ t) (ht2 : t ≤ 64) (_hx : -9223372036854775808 ≤ x) (ha : ¬ x < 0) (hb : ¬ 0 ≤ y) (ty : TypeId) (w : World) (hw : GOk Tryd.prog (gsT ty) w) : Calls Tryd.prog 5 #[.int .i64 p, .int .i64 t, .int .i64 x, .int .i64 y, .int .i64 z] w fun e w' => e = .returned (.bool true) ∧ Quiet w w' := by
  have g0 := alG_ok p t x y z hp hp2 ht ht2
  have g1 := al_is (.bin .lss (.var .i64 0) (.lit .i64 1)) false (by kernel_rfl) (fl (show ¬ (p < 1) by omega)) g0
  have g2 := al_is (.bin .gtr (.var .i64 0) (.lit .i64 256)) false (by kernel_rfl) (fl (show ¬ (256 < p) by omega)) g1
  have g3 := al_is (.bin .lss (.var .i64 1) (.lit .i64 1)) false (by kernel_rfl) (fl (show ¬ (t < 1) by omega)) g2
  have g4 := al_is (.bin .gtr (.var .i64 1) (.lit .i64 64)) false (by kernel_rfl) (fl (show ¬ (64 < t) by omega)) g3
  have g5 := al_is (.bin .lss (.var .i64 60) (.lit .i64 0)) false (by kernel_rfl) (fl ha) g4
  have g6 := al_is (.bin .geq (.var .i64 61) (.lit .i64 0)) false (by kernel_rfl) (fl hb) g5
  have n0 := in2 p t (x) hp hp2 ht ht2
  have g7 := al_is (.bin .lss (.app .i64 100 aC0) (.lit .i64 (-1))) false (by kernel_rfl) (fl (show ¬ atV p t 2 (x) (0) (0) < -1 by omega)) g6
  have g8 := al_is (.bin .geq (.app .i64 100 aC0) (.var .i64 21)) false (by kernel_rfl) (fl (show ¬ 21 + 16 * t + 19 * p + t * (2 * t + 2) + (4 * t * (p + 1) + t * (2 * t + 3)) + 8 * (4 * t * (p + 1) + t * (2 * t + 3)) ≤ atV p t 2 (x) (0) (0) by omega)) g7
  have n1 := in3 p t (x) hp hp2 ht ht2
  have g9 := al_is (.bin .lss (.app .i64 100 aC1) (.lit .i64 (-1))) false (by kernel_rfl) (fl (show ¬ atV p t 3 (x) (0) (0) < -1 by omega)) g8
  have g10 := al_is (.bin .geq (.app .i64 100 aC1) (.var .i64 21)) false (by kernel_rfl) (fl (show ¬ 21 + 16 * t + 19 * p + t * (2 * t + 2) + (4 * t * (p + 1) + t * (2 * t + 3)) + 8 * (4 * t * (p + 1) + t * (2 * t + 3)) ≤ atV p t 3 (x) (0) (0) by omega)) g9
  have n2 := in5 p t (x) hp hp2 ht ht2
  have g11 := al_is (.bin .lss (.app .i64 100 aC2) (.lit .i64 (-1))) false (by kernel_rfl) (fl (show ¬ atV p t 5 (x) (0) (0) < -1 by omega)) g10
  have g12 := al_is (.bin .geq (.app .i64 100 aC2) (.var .i64 21)) false (by kernel_rfl) (fl (show ¬ 21 + 16 * t + 19 * p + t * (2 * t + 2) + (4 * t * (p + 1) + t * (2 * t + 3)) + 8 * (4 * t * (p + 1) + t * (2 * t + 3)) ≤ atV p t 5 (x) (0) (0) by omega)) g11
  have n3 := in6 p t (x) hp hp2 ht ht2
  have g13 := al_is (.bin .lss (.app .i64 100 aC3) (.lit .i64 (-1))) false (by kernel_rfl) (fl (show ¬ atV p t 6 (x) (0) (0) < -1 by omega)) g12
  have g14 := al_is (.bin .geq (.app .i64 100 aC3) (.var .i64 21)) false (by kernel_rfl) (fl (show ¬ 21 + 16 * t + 19 * p + t * (2 * t + 2) + (4 * t * (p + 1) + t * (2 * t + 3)) + 8 * (4 * t * (p + 1) + t * (2 * t + 3)) ≤ atV p t 6 (x) (0) (0) by omega)) g13
  have n4 := in7 p t (x) hp hp2 ht ht2
  have g15 := al_is (.bin .lss (.app .i64 100 aC4) (.lit .i64 (-1))) false (by kernel_rfl) (fl (show ¬ atV p t 7 (x) (0) (0) < -1 by omega)) g14
  have g16 := al_is (.bin .geq (.app .i64 100 aC4) (.var .i64 21)) false (by kernel_rfl) (fl (show ¬ 21 + 16 * t + 19 * p + t * (2 * t + 2) + (4 * t * (p + 1) + t * (2 * t + 3)) + 8 * (4 * t * (p + 1) + t * (2 * t + 3)) ≤ atV p t 7 (x) (0) (0) by omega)) g15
  have n5 := in8 p t (x) hp hp2 ht ht2
  have g17 := al_is (.bin .lss (.app .i64 100 aC5) (.lit .i64 (-1))) false (by kernel_rfl) (fl (show ¬ atV p t 8 (x) (0) (0) < -1 by omega)) g16
  have g18 := al_is (.bin .geq (.app .i64 100 aC5) (.var .i64 21)) false (by kernel_rfl) (fl (show ¬ 21 + 16 * t + 19 * p + t * (2 * t + 2) + (4 * t * (p + 1) + t * (2 * t + 3)) + 8 * (4 * t * (p + 1) + t * (2 * t + 3)) ≤ atV p t 8 (x) (0) (0) by omega)) g17
  have n6 := in9 p t (x) hp hp2 ht ht2
  have g19 := al_is (.bin .lss (.app .i64 100 aC6) (.lit .i64 (-1))) false (by kernel_rfl) (fl (show ¬ atV p t 9 (x) (0) (0) < -1 by omega)) g18
  have g20 := al_is (.bin .geq (.app .i64 100 aC6) (.var .i64 21)) false (by kernel_rfl) (fl (show ¬ 21 + 16 * t + 19 * p + t * (2 * t + 2) + (4 * t * (p + 1) + t * (2 * t + 3)) + 8 * (4 * t * (p + 1) + t * (2 * t + 3)) ≤ atV p t 9 (x) (0) (0) by omega)) g19
  have n7 := in10 p t (x) hp hp2 ht ht2
  have g21 := al_is (.bin .lss (.app .i64 100 aC7) (.lit .i64 (-1))) false (by kernel_rfl) (fl (show ¬ atV p t 10 (x) (0) (0) < -1 by omega)) g20
  have g22 := al_is (.bin .geq (.app .i64 100 aC7) (.var .i64 21)) false (by kernel_rfl) (fl (show ¬ 21 + 16 * t + 19 * p + t * (2 * t + 2) + (4 * t * (p + 1) + t * (2 * t + 3)) + 8 * (4 * t * (p + 1) + t * (2 * t + 3)) ≤ atV p t 10 (x) (0) (0) by omega)) g21
  have n8 := in11 p t (x) hp hp2 ht ht2
  have g23 := al_is (.bin .lss (.app .i64 100 aC8) (.lit .i64 (-1))) false (by kernel_rfl) (fl (show ¬ atV p t 11 (x) (0) (0) < -1 by omega)) g22
  have g24 := al_is (.bin .geq (.app .i64 100 aC8) (.var .i64 21)) false (by kernel_rfl) (fl (show ¬ 21 + 16 * t + 19 * p + t * (2 * t + 2) + (4 * t * (p + 1) + t * (2 * t + 3)) + 8 * (4 * t * (p + 1) + t * (2 * t + 3)) ≤ atV p t 11 (x) (0) (0) by omega)) g23
  have n9 := in12 p t (x) (y) (z) hp hp2 ht ht2
  have g25 := al_is (.bin .lss (.app .i64 100 aC9) (.lit .i64 (-1))) false (by kernel_rfl) (fl (show ¬ atV p t 12 (x) (y) (z) < -1 by omega)) g24
  have g26 := al_is (.bin .geq (.app .i64 100 aC9) (.var .i64 21)) false (by kernel_rfl) (fl (show ¬ 21 + 16 * t + 19 * p + t * (2 * t + 2) + (4 * t * (p + 1) + t * (2 * t + 3)) + 8 * (4 * t * (p + 1) + t * (2 * t + 3)) ≤ atV p t 12 (x) (y) (z) by omega)) g25
  have n10 := in13 p t (x) (y) hp hp2 ht ht2
  have g27 := al_is (.bin .lss (.app .i64 100 aC10) (.lit .i64 (-1))) false (by kernel_rfl) (fl (show ¬ atV p t 13 (x) (y) (0) < -1 by omega)) g26
  have g28 := al_is (.bin .geq (.app .i64 100 aC10) (.var .i64 21)) false (by kernel_rfl) (fl (show ¬ 21 + 16 * t + 19 * p + t * (2 * t + 2) + (4 * t * (p + 1) + t * (2 * t + 3)) + 8 * (4 * t * (p + 1) + t * (2 * t + 3)) ≤ atV p t 13 (x) (y) (0) by omega)) g27
  have n11 := in14 p t (x) (y) hp hp2 ht ht2
  have g29 := al_is (.bin .lss (.app .i64 100 aC11) (.lit .i64 (-1))) false (by kernel_rfl) (fl (show ¬ atV p t 14 (x) (y) (0) < -1 by omega)) g28
  have g30 := al_is (.bin .geq (.app .i64 100 aC11) (.var .i64 21)) false (by kernel_rfl) (fl (show ¬ 21 + 16 * t + 19 * p + t * (2 * t + 2) + (4 * t * (p + 1) + t * (2 * t + 3)) + 8 * (4 * t * (p + 1) + t * (2 * t + 3)) ≤ atV p t 14 (x) (y) (0) by omega)) g29
  have n12 := in15 p t (x) hp hp2 ht ht2
  have g31 := al_is (.bin .lss (.app .i64 100 aC12) (.lit .i64 (-1))) false (by kernel_rfl) (fl (show ¬ atV p t 15 (x) (0) (0) < -1 by omega)) g30
  have g32 := al_is (.bin .geq (.app .i64 100 aC12) (.var .i64 21)) false (by kernel_rfl) (fl (show ¬ 21 + 16 * t + 19 * p + t * (2 * t + 2) + (4 * t * (p + 1) + t * (2 * t + 3)) + 8 * (4 * t * (p + 1) + t * (2 * t + 3)) ≤ atV p t 15 (x) (0) (0) by omega)) g31
  have n13 := in16 p t (x) (y) hp hp2 ht ht2
  have g33 := al_is (.bin .lss (.app .i64 100 aC13) (.lit .i64 (-1))) false (by kernel_rfl) (fl (show ¬ atV p t 16 (x) (y) (0) < -1 by omega)) g32
  have g34 := al_is (.bin .geq (.app .i64 100 aC13) (.var .i64 21)) false (by kernel_rfl) (fl (show ¬ 21 + 16 * t + 19 * p + t * (2 * t + 2) + (4 * t * (p + 1) + t * (2 * t + 3)) + 8 * (4 * t * (p + 1) + t * (2 * t + 3)) ≤ atV p t 16 (x) (y) (0) by omega)) g33
  have n14 := in17 p t (IntKind.i64.wrap (x - 1)) hp hp2 ht ht2
  have g35 := al_is (.bin .lss (.app .i64 100 aC14) (.lit .i64 (-1))) false (by kernel_rfl) (fl (show ¬ atV p t 17 (IntKind.i64.wrap (x - 1)) (0) (0) < -1 by omega)) g34
  have g36 := al_is (.bin .geq (.app .i64 100 aC14) (.var .i64 21)) false (by kernel_rfl) (fl (show ¬ 21 + 16 * t + 19 * p + t * (2 * t + 2) + (4 * t * (p + 1) + t * (2 * t + 3)) + 8 * (4 * t * (p + 1) + t * (2 * t + 3)) ≤ atV p t 17 (IntKind.i64.wrap (x - 1)) (0) (0) by omega)) g35
  have n15 := in18 p t (IntKind.i64.wrap (x - 1)) (y) hp hp2 ht ht2
  have g37 := al_is (.bin .lss (.app .i64 100 aC15) (.lit .i64 (-1))) false (by kernel_rfl) (fl (show ¬ atV p t 18 (IntKind.i64.wrap (x - 1)) (y) (0) < -1 by omega)) g36
  have g38 := al_is (.bin .geq (.app .i64 100 aC15) (.var .i64 21)) false (by kernel_rfl) (fl (show ¬ 21 + 16 * t + 19 * p + t * (2 * t + 2) + (4 * t * (p + 1) + t * (2 * t + 3)) + 8 * (4 * t * (p + 1) + t * (2 * t + 3)) ≤ atV p t 18 (IntKind.i64.wrap (x - 1)) (y) (0) by omega)) g37
  have g39 := al_is (.bin .eql (.app .i64 100 aC10) (.lit .i64 (-1))) true (by kernel_rfl) (tr (show atV p t 13 x y 0 = -1 by simp [atV, place, dims, show y < 0 by omega])) g38
  have g40 := al_is (.bin .eql (.app .i64 100 aC15) (.lit .i64 (-1))) true (by kernel_rfl) (tr (show atV p t 18 (IntKind.i64.wrap (x - 1)) y 0 = -1 by simp [atV, place, dims, show y < 0 by omega])) g39
  exact symIs env (al_is awT true (by kernel_rfl) rfl g40) (cs_ok ty p t x y z hp hp2 ht ht2) (n := 1000) (f := 5) (args := [.float .f64 (0 * 512 + kI .i64), .float .f64 (1 * 512 + kI .i64), .float .f64 (60 * 512 + kI .i64), .float .f64 (61 * 512 + kI .i64), .float .f64 (62 * 512 + kI .i64)]) (args' := [.int .i64 p, .int .i64 t, .int .i64 x, .int .i64 y, .int .i64 z]) true (fun G => by kernel_rfl) (fun G ι => vs_sym rfl (vs_sym rfl (vs_sym rfl (vs_sym rfl (vs_sym rfl vs_nil))))) w hw
theorem within_pp (p t x y z : Int) (hp : 1 ≤ p) (hp2 : p ≤ 256) (ht : 1 ≤ t) (ht2 : t ≤ 64) (_hx : -9223372036854775808 ≤ x) (ha : ¬ x < 0) (hb : 0 ≤ y) (ty : TypeId) (w : World) (hw : GOk Tryd.prog (gsT ty) w) : Calls Tryd.prog 5 #[.int .i64 p, .int .i64 t, .int .i64 x, .int .i64 y, .int .i64 z] w fun e w' => e = .returned (.bool true) ∧ Quiet w w' := by
  have g0 := alG_ok p t x y z hp hp2 ht ht2
  have g1 := al_is (.bin .lss (.var .i64 0) (.lit .i64 1)) false (by kernel_rfl) (fl (show ¬ (p < 1) by omega)) g0
  have g2 := al_is (.bin .gtr (.var .i64 0) (.lit .i64 256)) false (by kernel_rfl) (fl (show ¬ (256 < p) by omega)) g1
  have g3 := al_is (.bin .lss (.var .i64 1) (.lit .i64 1)) false (by kernel_rfl) (fl (show ¬ (t < 1) by omega)) g2
  have g4 := al_is (.bin .gtr (.var .i64 1) (.lit .i64 64)) false (by kernel_rfl) (fl (show ¬ (64 < t) by omega)) g3
  have g5 := al_is (.bin .lss (.var .i64 60) (.lit .i64 0)) false (by kernel_rfl) (fl ha) g4
  have g6 := al_is (.bin .geq (.var .i64 61) (.lit .i64 0)) true (by kernel_rfl) (tr hb) g5
  have n0 := in2 p t (x) hp hp2 ht ht2
  have g7 := al_is (.bin .lss (.app .i64 100 aC0) (.lit .i64 (-1))) false (by kernel_rfl) (fl (show ¬ atV p t 2 (x) (0) (0) < -1 by omega)) g6
  have g8 := al_is (.bin .geq (.app .i64 100 aC0) (.var .i64 21)) false (by kernel_rfl) (fl (show ¬ 21 + 16 * t + 19 * p + t * (2 * t + 2) + (4 * t * (p + 1) + t * (2 * t + 3)) + 8 * (4 * t * (p + 1) + t * (2 * t + 3)) ≤ atV p t 2 (x) (0) (0) by omega)) g7
  have n1 := in3 p t (x) hp hp2 ht ht2
  have g9 := al_is (.bin .lss (.app .i64 100 aC1) (.lit .i64 (-1))) false (by kernel_rfl) (fl (show ¬ atV p t 3 (x) (0) (0) < -1 by omega)) g8
  have g10 := al_is (.bin .geq (.app .i64 100 aC1) (.var .i64 21)) false (by kernel_rfl) (fl (show ¬ 21 + 16 * t + 19 * p + t * (2 * t + 2) + (4 * t * (p + 1) + t * (2 * t + 3)) + 8 * (4 * t * (p + 1) + t * (2 * t + 3)) ≤ atV p t 3 (x) (0) (0) by omega)) g9
  have n2 := in5 p t (x) hp hp2 ht ht2
  have g11 := al_is (.bin .lss (.app .i64 100 aC2) (.lit .i64 (-1))) false (by kernel_rfl) (fl (show ¬ atV p t 5 (x) (0) (0) < -1 by omega)) g10
  have g12 := al_is (.bin .geq (.app .i64 100 aC2) (.var .i64 21)) false (by kernel_rfl) (fl (show ¬ 21 + 16 * t + 19 * p + t * (2 * t + 2) + (4 * t * (p + 1) + t * (2 * t + 3)) + 8 * (4 * t * (p + 1) + t * (2 * t + 3)) ≤ atV p t 5 (x) (0) (0) by omega)) g11
  have n3 := in6 p t (x) hp hp2 ht ht2
  have g13 := al_is (.bin .lss (.app .i64 100 aC3) (.lit .i64 (-1))) false (by kernel_rfl) (fl (show ¬ atV p t 6 (x) (0) (0) < -1 by omega)) g12
  have g14 := al_is (.bin .geq (.app .i64 100 aC3) (.var .i64 21)) false (by kernel_rfl) (fl (show ¬ 21 + 16 * t + 19 * p + t * (2 * t + 2) + (4 * t * (p + 1) + t * (2 * t + 3)) + 8 * (4 * t * (p + 1) + t * (2 * t + 3)) ≤ atV p t 6 (x) (0) (0) by omega)) g13
  have n4 := in7 p t (x) hp hp2 ht ht2
  have g15 := al_is (.bin .lss (.app .i64 100 aC4) (.lit .i64 (-1))) false (by kernel_rfl) (fl (show ¬ atV p t 7 (x) (0) (0) < -1 by omega)) g14
  have g16 := al_is (.bin .geq (.app .i64 100 aC4) (.var .i64 21)) false (by kernel_rfl) (fl (show ¬ 21 + 16 * t + 19 * p + t * (2 * t + 2) + (4 * t * (p + 1) + t * (2 * t + 3)) + 8 * (4 * t * (p + 1) + t * (2 * t + 3)) ≤ atV p t 7 (x) (0) (0) by omega)) g15
  have n5 := in8 p t (x) hp hp2 ht ht2
  have g17 := al_is (.bin .lss (.app .i64 100 aC5) (.lit .i64 (-1))) false (by kernel_rfl) (fl (show ¬ atV p t 8 (x) (0) (0) < -1 by omega)) g16
  have g18 := al_is (.bin .geq (.app .i64 100 aC5) (.var .i64 21)) false (by kernel_rfl) (fl (show ¬ 21 + 16 * t + 19 * p + t * (2 * t + 2) + (4 * t * (p + 1) + t * (2 * t + 3)) + 8 * (4 * t * (p + 1) + t * (2 * t + 3)) ≤ atV p t 8 (x) (0) (0) by omega)) g17
  have n6 := in9 p t (x) hp hp2 ht ht2
  have g19 := al_is (.bin .lss (.app .i64 100 aC6) (.lit .i64 (-1))) false (by kernel_rfl) (fl (show ¬ atV p t 9 (x) (0) (0) < -1 by omega)) g18
  have g20 := al_is (.bin .geq (.app .i64 100 aC6) (.var .i64 21)) false (by kernel_rfl) (fl (show ¬ 21 + 16 * t + 19 * p + t * (2 * t + 2) + (4 * t * (p + 1) + t * (2 * t + 3)) + 8 * (4 * t * (p + 1) + t * (2 * t + 3)) ≤ atV p t 9 (x) (0) (0) by omega)) g19
  have n7 := in10 p t (x) hp hp2 ht ht2
  have g21 := al_is (.bin .lss (.app .i64 100 aC7) (.lit .i64 (-1))) false (by kernel_rfl) (fl (show ¬ atV p t 10 (x) (0) (0) < -1 by omega)) g20
  have g22 := al_is (.bin .geq (.app .i64 100 aC7) (.var .i64 21)) false (by kernel_rfl) (fl (show ¬ 21 + 16 * t + 19 * p + t * (2 * t + 2) + (4 * t * (p + 1) + t * (2 * t + 3)) + 8 * (4 * t * (p + 1) + t * (2 * t + 3)) ≤ atV p t 10 (x) (0) (0) by omega)) g21
  have n8 := in11 p t (x) hp hp2 ht ht2
  have g23 := al_is (.bin .lss (.app .i64 100 aC8) (.lit .i64 (-1))) false (by kernel_rfl) (fl (show ¬ atV p t 11 (x) (0) (0) < -1 by omega)) g22
  have g24 := al_is (.bin .geq (.app .i64 100 aC8) (.var .i64 21)) false (by kernel_rfl) (fl (show ¬ 21 + 16 * t + 19 * p + t * (2 * t + 2) + (4 * t * (p + 1) + t * (2 * t + 3)) + 8 * (4 * t * (p + 1) + t * (2 * t + 3)) ≤ atV p t 11 (x) (0) (0) by omega)) g23
  have n9 := in12 p t (x) (y) (z) hp hp2 ht ht2
  have g25 := al_is (.bin .lss (.app .i64 100 aC9) (.lit .i64 (-1))) false (by kernel_rfl) (fl (show ¬ atV p t 12 (x) (y) (z) < -1 by omega)) g24
  have g26 := al_is (.bin .geq (.app .i64 100 aC9) (.var .i64 21)) false (by kernel_rfl) (fl (show ¬ 21 + 16 * t + 19 * p + t * (2 * t + 2) + (4 * t * (p + 1) + t * (2 * t + 3)) + 8 * (4 * t * (p + 1) + t * (2 * t + 3)) ≤ atV p t 12 (x) (y) (z) by omega)) g25
  have n10 := in13 p t (x) (y) hp hp2 ht ht2
  have g27 := al_is (.bin .lss (.app .i64 100 aC10) (.lit .i64 (-1))) false (by kernel_rfl) (fl (show ¬ atV p t 13 (x) (y) (0) < -1 by omega)) g26
  have g28 := al_is (.bin .geq (.app .i64 100 aC10) (.var .i64 21)) false (by kernel_rfl) (fl (show ¬ 21 + 16 * t + 19 * p + t * (2 * t + 2) + (4 * t * (p + 1) + t * (2 * t + 3)) + 8 * (4 * t * (p + 1) + t * (2 * t + 3)) ≤ atV p t 13 (x) (y) (0) by omega)) g27
  have n11 := in14 p t (x) (y) hp hp2 ht ht2
  have g29 := al_is (.bin .lss (.app .i64 100 aC11) (.lit .i64 (-1))) false (by kernel_rfl) (fl (show ¬ atV p t 14 (x) (y) (0) < -1 by omega)) g28
  have g30 := al_is (.bin .geq (.app .i64 100 aC11) (.var .i64 21)) false (by kernel_rfl) (fl (show ¬ 21 + 16 * t + 19 * p + t * (2 * t + 2) + (4 * t * (p + 1) + t * (2 * t + 3)) + 8 * (4 * t * (p + 1) + t * (2 * t + 3)) ≤ atV p t 14 (x) (y) (0) by omega)) g29
  have n12 := in15 p t (x) hp hp2 ht ht2
  have g31 := al_is (.bin .lss (.app .i64 100 aC12) (.lit .i64 (-1))) false (by kernel_rfl) (fl (show ¬ atV p t 15 (x) (0) (0) < -1 by omega)) g30
  have g32 := al_is (.bin .geq (.app .i64 100 aC12) (.var .i64 21)) false (by kernel_rfl) (fl (show ¬ 21 + 16 * t + 19 * p + t * (2 * t + 2) + (4 * t * (p + 1) + t * (2 * t + 3)) + 8 * (4 * t * (p + 1) + t * (2 * t + 3)) ≤ atV p t 15 (x) (0) (0) by omega)) g31
  have n13 := in16 p t (x) (y) hp hp2 ht ht2
  have g33 := al_is (.bin .lss (.app .i64 100 aC13) (.lit .i64 (-1))) false (by kernel_rfl) (fl (show ¬ atV p t 16 (x) (y) (0) < -1 by omega)) g32
  have g34 := al_is (.bin .geq (.app .i64 100 aC13) (.var .i64 21)) false (by kernel_rfl) (fl (show ¬ 21 + 16 * t + 19 * p + t * (2 * t + 2) + (4 * t * (p + 1) + t * (2 * t + 3)) + 8 * (4 * t * (p + 1) + t * (2 * t + 3)) ≤ atV p t 16 (x) (y) (0) by omega)) g33
  have n14 := in17 p t (IntKind.i64.wrap (x - 1)) hp hp2 ht ht2
  have g35 := al_is (.bin .lss (.app .i64 100 aC14) (.lit .i64 (-1))) false (by kernel_rfl) (fl (show ¬ atV p t 17 (IntKind.i64.wrap (x - 1)) (0) (0) < -1 by omega)) g34
  have g36 := al_is (.bin .geq (.app .i64 100 aC14) (.var .i64 21)) false (by kernel_rfl) (fl (show ¬ 21 + 16 * t + 19 * p + t * (2 * t + 2) + (4 * t * (p + 1) + t * (2 * t + 3)) + 8 * (4 * t * (p + 1) + t * (2 * t + 3)) ≤ atV p t 17 (IntKind.i64.wrap (x - 1)) (0) (0) by omega)) g35
  have n15 := in18 p t (IntKind.i64.wrap (x - 1)) (y) hp hp2 ht ht2
  have g37 := al_is (.bin .lss (.app .i64 100 aC15) (.lit .i64 (-1))) false (by kernel_rfl) (fl (show ¬ atV p t 18 (IntKind.i64.wrap (x - 1)) (y) (0) < -1 by omega)) g36
  have g38 := al_is (.bin .geq (.app .i64 100 aC15) (.var .i64 21)) false (by kernel_rfl) (fl (show ¬ 21 + 16 * t + 19 * p + t * (2 * t + 2) + (4 * t * (p + 1) + t * (2 * t + 3)) + 8 * (4 * t * (p + 1) + t * (2 * t + 3)) ≤ atV p t 18 (IntKind.i64.wrap (x - 1)) (y) (0) by omega)) g37
  exact symIs env (al_is awT true (by kernel_rfl) rfl g38) (cs_ok ty p t x y z hp hp2 ht ht2) (n := 1000) (f := 5) (args := [.float .f64 (0 * 512 + kI .i64), .float .f64 (1 * 512 + kI .i64), .float .f64 (60 * 512 + kI .i64), .float .f64 (61 * 512 + kI .i64), .float .f64 (62 * 512 + kI .i64)]) (args' := [.int .i64 p, .int .i64 t, .int .i64 x, .int .i64 y, .int .i64 z]) true (fun G => by kernel_rfl) (fun G ι => vs_sym rfl (vs_sym rfl (vs_sym rfl (vs_sym rfl (vs_sym rfl vs_nil))))) w hw
end Go.Proofs.YtacdbgepncimgabDoor
