/-
  Stage 2: at, of regions that are told by one number. Conditions: 1 to 256 pages, 1 to 64 threads.
-/
import Derived.Test.YtacdbgepncimgabDoorG1
namespace Go.Proofs.YtacdbgepncimgabDoor
open Go.Ev Go.RowKit
set_option maxRecDepth 100000
theorem at2 (p t x : Int) (hp : 1 ≤ p) (hp2 : p ≤ 256) (ht : 1 ≤ t) (ht2 : t ≤ 64) (ty : TypeId) (w : World) (hw : GOk Tryd.prog (gsT ty) w) :
    Calls Tryd.prog 32 #[.agg (geoV p t).toArray, .int .i64 2, .int .i64 x, .int .i64 0, .int .i64 0] w fun e w' => e = .returned (.int .i64 (atV p t 2 x 0 0)) ∧ Quiet w w' := by
  obtain ⟨⟨r1, r2⟩, ⟨k1, k2⟩, l1, l2⟩ := big p t hp hp2 ht ht2
  have g0 := alG_ok p t x 0 0 hp hp2 ht ht2
  have g1 := al_is (.bin .eql (.var .i64 0) (.lit .i64 0)) false (by kernel_rfl) (fl (show ¬ p = 0 by omega)) g0
  by_cases h0a : x < 0
  · have q := symInt (al_is (.bin .lss (.var .i64 60) (.lit .i64 0)) true (by kernel_rfl) (tr h0a) g1) (hcs0 _ (gsT ty)) (n := 1000) (f := 32) (args := [.agg geoS.toArray, .int .i64 2, .float .f64 (60 * 512 + kI .i64), .int .i64 0, .int .i64 0]) (args' := [.agg (geoV p t).toArray, .int .i64 2, .int .i64 x, .int .i64 0, .int .i64 0]) (-1) (fun G => by kernel_rfl) (fun G ι => vs_agg (geo_vs p t x 0 0 G ι) (vs_int (vs_sym rfl (vs_int (vs_int (vs_nil)))))) w hw
    rwa [show atV p t 2 x 0 0 = -1 by simp [atV, place, dims, h0a]]
  have g2 := al_is (.bin .lss (.var .i64 60) (.lit .i64 0)) false (by kernel_rfl) (fl h0a) g1
  by_cases h0b : 5 ≤ x
  · have q := symInt (al_is (.bin .geq (.var .i64 60) (.lit .i64 5)) true (by kernel_rfl) (tr h0b) g2) (hcs0 _ (gsT ty)) (n := 1000) (f := 32) (args := [.agg geoS.toArray, .int .i64 2, .float .f64 (60 * 512 + kI .i64), .int .i64 0, .int .i64 0]) (args' := [.agg (geoV p t).toArray, .int .i64 2, .int .i64 x, .int .i64 0, .int .i64 0]) (-1) (fun G => by kernel_rfl) (fun G ι => vs_agg (geo_vs p t x 0 0 G ι) (vs_int (vs_sym rfl (vs_int (vs_int (vs_nil)))))) w hw
    rwa [show atV p t 2 x 0 0 = -1 by simp [atV, place, dims, h0b]]
  have g3 := al_is (.bin .geq (.var .i64 60) (.lit .i64 5)) false (by kernel_rfl) (fl h0b) g2
  have g4 := al_op .add (.lit .i64 0) (.var .i64 60) (.var .i64 60) 0 x x (by kernel_rfl) rfl rfl rfl (v_add (by omega) (by omega) (by omega)) g3
  have g5 := al_op .mul (.var .i64 60) (.lit .i64 1) (.var .i64 60) x 1 x (by kernel_rfl) rfl rfl rfl (v_mul (by omega) (by omega) (by omega)) g4
  have g6 := al_op .add (.var .i64 60) (.lit .i64 0) (.var .i64 60) x 0 x (by kernel_rfl) rfl rfl rfl (v_add (by omega) (by omega) (by omega)) g5
  have q := symOne env g6 (hcs0 _ (gsT ty)) (n := 1000) (f := 32) (args := [.agg geoS.toArray, .int .i64 2, .float .f64 (60 * 512 + kI .i64), .int .i64 0, .int .i64 0]) (args' := [.agg (geoV p t).toArray, .int .i64 2, .int .i64 x, .int .i64 0, .int .i64 0]) (k := .i64) (.bin .add (.lit .i64 2) (.var .i64 60)) (by kernel_rfl) (by kernel_rfl) (den_b (k := .i64) (a := 2) (b := x) (r := 2 + x) rfl rfl (v_add rfl (by omega) (by omega))) (fun G => by kernel_rfl) (fun G ι => vs_agg (geo_vs p t x 0 0 G ι) (vs_int (vs_sym rfl (vs_int (vs_int (vs_nil)))))) w hw
  rwa [show atV p t 2 x 0 0 = 2 + x by simp [atV, place, dims, base, h0a, h0b]]
theorem at3 (p t x : Int) (hp : 1 ≤ p) (hp2 : p ≤ 256) (ht : 1 ≤ t) (ht2 : t ≤ 64) (ty : TypeId) (w : World) (hw : GOk Tryd.prog (gsT ty) w) :
    Calls Tryd.prog 32 #[.agg (geoV p t).toArray, .int .i64 3, .int .i64 x, .int .i64 0, .int .i64 0] w fun e w' => e = .returned (.int .i64 (atV p t 3 x 0 0)) ∧ Quiet w w' := by
  obtain ⟨⟨r1, r2⟩, ⟨k1, k2⟩, l1, l2⟩ := big p t hp hp2 ht ht2
  have g0 := alG_ok p t x 0 0 hp hp2 ht ht2
  have g1 := al_is (.bin .eql (.var .i64 0) (.lit .i64 0)) false (by kernel_rfl) (fl (show ¬ p = 0 by omega)) g0
  by_cases h0a : x < 0
  · have q := symInt (al_is (.bin .lss (.var .i64 60) (.lit .i64 0)) true (by kernel_rfl) (tr h0a) g1) (hcs0 _ (gsT ty)) (n := 1000) (f := 32) (args := [.agg geoS.toArray, .int .i64 3, .float .f64 (60 * 512 + kI .i64), .int .i64 0, .int .i64 0]) (args' := [.agg (geoV p t).toArray, .int .i64 3, .int .i64 x, .int .i64 0, .int .i64 0]) (-1) (fun G => by kernel_rfl) (fun G ι => vs_agg (geo_vs p t x 0 0 G ι) (vs_int (vs_sym rfl (vs_int (vs_int (vs_nil)))))) w hw
    rwa [show atV p t 3 x 0 0 = -1 by simp [atV, place, dims, h0a]]
  have g2 := al_is (.bin .lss (.var .i64 60) (.lit .i64 0)) false (by kernel_rfl) (fl h0a) g1
  by_cases h0b : 9 ≤ x
  · have q := symInt (al_is (.bin .geq (.var .i64 60) (.lit .i64 9)) true (by kernel_rfl) (tr h0b) g2) (hcs0 _ (gsT ty)) (n := 1000) (f := 32) (args := [.agg geoS.toArray, .int .i64 3, .float .f64 (60 * 512 + kI .i64), .int .i64 0, .int .i64 0]) (args' := [.agg (geoV p t).toArray, .int .i64 3, .int .i64 x, .int .i64 0, .int .i64 0]) (-1) (fun G => by kernel_rfl) (fun G ι => vs_agg (geo_vs p t x 0 0 G ι) (vs_int (vs_sym rfl (vs_int (vs_int (vs_nil)))))) w hw
    rwa [show atV p t 3 x 0 0 = -1 by simp [atV, place, dims, h0b]]
  have g3 := al_is (.bin .geq (.var .i64 60) (.lit .i64 9)) false (by kernel_rfl) (fl h0b) g2
  have g4 := al_op .add (.lit .i64 0) (.var .i64 60) (.var .i64 60) 0 x x (by kernel_rfl) rfl rfl rfl (v_add (by omega) (by omega) (by omega)) g3
  have g5 := al_op .mul (.var .i64 60) (.lit .i64 1) (.var .i64 60) x 1 x (by kernel_rfl) rfl rfl rfl (v_mul (by omega) (by omega) (by omega)) g4
  have g6 := al_op .add (.var .i64 60) (.lit .i64 0) (.var .i64 60) x 0 x (by kernel_rfl) rfl rfl rfl (v_add (by omega) (by omega) (by omega)) g5
  have q := symOne env g6 (hcs0 _ (gsT ty)) (n := 1000) (f := 32) (args := [.agg geoS.toArray, .int .i64 3, .float .f64 (60 * 512 + kI .i64), .int .i64 0, .int .i64 0]) (args' := [.agg (geoV p t).toArray, .int .i64 3, .int .i64 x, .int .i64 0, .int .i64 0]) (k := .i64) (.bin .add (.lit .i64 7) (.var .i64 60)) (by kernel_rfl) (by kernel_rfl) (den_b (k := .i64) (a := 7) (b := x) (r := 7 + x) rfl rfl (v_add rfl (by omega) (by omega))) (fun G => by kernel_rfl) (fun G ι => vs_agg (geo_vs p t x 0 0 G ι) (vs_int (vs_sym rfl (vs_int (vs_int (vs_nil)))))) w hw
  rwa [show atV p t 3 x 0 0 = 7 + x by simp [atV, place, dims, base, h0a, h0b]]
theorem at5 (p t x : Int) (hp : 1 ≤ p) (hp2 : p ≤ 256) (ht : 1 ≤ t) (ht2 : t ≤ 64) (ty : TypeId) (w : World) (hw : GOk Tryd.prog (gsT ty) w) :
    Calls Tryd.prog 32 #[.agg (geoV p t).toArray, .int .i64 5, .int .i64 x, .int .i64 0, .int .i64 0] w fun e w' => e = .returned (.int .i64 (atV p t 5 x 0 0)) ∧ Quiet w w' := by
  obtain ⟨⟨r1, r2⟩, ⟨k1, k2⟩, l1, l2⟩ := big p t hp hp2 ht ht2
  have g0 := alG_ok p t x 0 0 hp hp2 ht ht2
  have g1 := al_is (.bin .eql (.var .i64 0) (.lit .i64 0)) false (by kernel_rfl) (fl (show ¬ p = 0 by omega)) g0
  by_cases h0a : x < 0
  · have q := symInt (al_is (.bin .lss (.var .i64 60) (.lit .i64 0)) true (by kernel_rfl) (tr h0a) g1) (hcs0 _ (gsT ty)) (n := 1000) (f := 32) (args := [.agg geoS.toArray, .int .i64 5, .float .f64 (60 * 512 + kI .i64), .int .i64 0, .int .i64 0]) (args' := [.agg (geoV p t).toArray, .int .i64 5, .int .i64 x, .int .i64 0, .int .i64 0]) (-1) (fun G => by kernel_rfl) (fun G ι => vs_agg (geo_vs p t x 0 0 G ι) (vs_int (vs_sym rfl (vs_int (vs_int (vs_nil)))))) w hw
    rwa [show atV p t 5 x 0 0 = -1 by simp [atV, place, dims, h0a]]
  have g2 := al_is (.bin .lss (.var .i64 60) (.lit .i64 0)) false (by kernel_rfl) (fl h0a) g1
  by_cases h0b : 4 ≤ x
  · have q := symInt (al_is (.bin .geq (.var .i64 60) (.lit .i64 4)) true (by kernel_rfl) (tr h0b) g2) (hcs0 _ (gsT ty)) (n := 1000) (f := 32) (args := [.agg geoS.toArray, .int .i64 5, .float .f64 (60 * 512 + kI .i64), .int .i64 0, .int .i64 0]) (args' := [.agg (geoV p t).toArray, .int .i64 5, .int .i64 x, .int .i64 0, .int .i64 0]) (-1) (fun G => by kernel_rfl) (fun G ι => vs_agg (geo_vs p t x 0 0 G ι) (vs_int (vs_sym rfl (vs_int (vs_int (vs_nil)))))) w hw
    rwa [show atV p t 5 x 0 0 = -1 by simp [atV, place, dims, h0b]]
  have g3 := al_is (.bin .geq (.var .i64 60) (.lit .i64 4)) false (by kernel_rfl) (fl h0b) g2
  have g4 := al_op .add (.lit .i64 0) (.var .i64 60) (.var .i64 60) 0 x x (by kernel_rfl) rfl rfl rfl (v_add (by omega) (by omega) (by omega)) g3
  have g5 := al_op .mul (.var .i64 60) (.lit .i64 1) (.var .i64 60) x 1 x (by kernel_rfl) rfl rfl rfl (v_mul (by omega) (by omega) (by omega)) g4
  have g6 := al_op .add (.var .i64 60) (.lit .i64 0) (.var .i64 60) x 0 x (by kernel_rfl) rfl rfl rfl (v_add (by omega) (by omega) (by omega)) g5
  have q := symOne env g6 (hcs0 _ (gsT ty)) (n := 1000) (f := 32) (args := [.agg geoS.toArray, .int .i64 5, .float .f64 (60 * 512 + kI .i64), .int .i64 0, .int .i64 0]) (args' := [.agg (geoV p t).toArray, .int .i64 5, .int .i64 x, .int .i64 0, .int .i64 0]) (k := .i64) (.bin .add (.lit .i64 17) (.var .i64 60)) (by kernel_rfl) (by kernel_rfl) (den_b (k := .i64) (a := 17) (b := x) (r := 17 + x) rfl rfl (v_add rfl (by omega) (by omega))) (fun G => by kernel_rfl) (fun G ι => vs_agg (geo_vs p t x 0 0 G ι) (vs_int (vs_sym rfl (vs_int (vs_int (vs_nil)))))) w hw
  rwa [show atV p t 5 x 0 0 = 17 + x by simp [atV, place, dims, base, h0a, h0b]]
theorem at6 (p t x : Int) (hp : 1 ≤ p) (hp2 : p ≤ 256) (ht : 1 ≤ t) (ht2 : t ≤ 64) (ty : TypeId) (w : World) (hw : GOk Tryd.prog (gsT ty) w) :
    Calls Tryd.prog 32 #[.agg (geoV p t).toArray, .int .i64 6, .int .i64 x, .int .i64 0, .int .i64 0] w fun e w' => e = .returned (.int .i64 (atV p t 6 x 0 0)) ∧ Quiet w w' := by
  obtain ⟨⟨r1, r2⟩, ⟨k1, k2⟩, l1, l2⟩ := big p t hp hp2 ht ht2
  have g0 := alG_ok p t x 0 0 hp hp2 ht ht2
  have g1 := al_is (.bin .eql (.var .i64 0) (.lit .i64 0)) false (by kernel_rfl) (fl (show ¬ p = 0 by omega)) g0
  by_cases h0a : x < 0
  · have q := symInt (al_is (.bin .lss (.var .i64 60) (.lit .i64 0)) true (by kernel_rfl) (tr h0a) g1) (hcs0 _ (gsT ty)) (n := 1000) (f := 32) (args := [.agg geoS.toArray, .int .i64 6, .float .f64 (60 * 512 + kI .i64), .int .i64 0, .int .i64 0]) (args' := [.agg (geoV p t).toArray, .int .i64 6, .int .i64 x, .int .i64 0, .int .i64 0]) (-1) (fun G => by kernel_rfl) (fun G ι => vs_agg (geo_vs p t x 0 0 G ι) (vs_int (vs_sym rfl (vs_int (vs_int (vs_nil)))))) w hw
    rwa [show atV p t 6 x 0 0 = -1 by simp [atV, place, dims, h0a]]
  have g2 := al_is (.bin .lss (.var .i64 60) (.lit .i64 0)) false (by kernel_rfl) (fl h0a) g1
  by_cases h0b : t ≤ x
  · have q := symInt (al_is (.bin .geq (.var .i64 60) (.var .i64 1)) true (by kernel_rfl) (tr h0b) g2) (hcs0 _ (gsT ty)) (n := 1000) (f := 32) (args := [.agg geoS.toArray, .int .i64 6, .float .f64 (60 * 512 + kI .i64), .int .i64 0, .int .i64 0]) (args' := [.agg (geoV p t).toArray, .int .i64 6, .int .i64 x, .int .i64 0, .int .i64 0]) (-1) (fun G => by kernel_rfl) (fun G ι => vs_agg (geo_vs p t x 0 0 G ι) (vs_int (vs_sym rfl (vs_int (vs_int (vs_nil)))))) w hw
    rwa [show atV p t 6 x 0 0 = -1 by simp [atV, place, dims, h0b]]
  have g3 := al_is (.bin .geq (.var .i64 60) (.var .i64 1)) false (by kernel_rfl) (fl h0b) g2
  have g4 := al_num .mul (.lit .i64 0) (.var .i64 1) 0 (t) 0 (by kernel_rfl) rfl rfl (v_mul (by omega) (by omega) (by omega)) g3
  have g5 := al_op .add (.lit .i64 0) (.var .i64 60) (.var .i64 60) 0 x x (by kernel_rfl) rfl rfl rfl (v_add (by omega) (by omega) (by omega)) g4
  have g6 := al_op .mul (.var .i64 60) (.lit .i64 1) (.var .i64 60) x 1 x (by kernel_rfl) rfl rfl rfl (v_mul (by omega) (by omega) (by omega)) g5
  have g7 := al_op .add (.var .i64 60) (.lit .i64 0) (.var .i64 60) x 0 x (by kernel_rfl) rfl rfl rfl (v_add (by omega) (by omega) (by omega)) g6
  have q := symOne env g7 (hcs0 _ (gsT ty)) (n := 1000) (f := 32) (args := [.agg geoS.toArray, .int .i64 6, .float .f64 (60 * 512 + kI .i64), .int .i64 0, .int .i64 0]) (args' := [.agg (geoV p t).toArray, .int .i64 6, .int .i64 x, .int .i64 0, .int .i64 0]) (k := .i64) (.bin .add (.lit .i64 21) (.var .i64 60)) (by kernel_rfl) (by kernel_rfl) (den_b (k := .i64) (a := 21) (b := x) (r := 21 + x) rfl rfl (v_add rfl (by omega) (by omega))) (fun G => by kernel_rfl) (fun G ι => vs_agg (geo_vs p t x 0 0 G ι) (vs_int (vs_sym rfl (vs_int (vs_int (vs_nil)))))) w hw
  rwa [show atV p t 6 x 0 0 = 21 + x by simp [atV, place, dims, base, h0a, h0b]]
theorem at7 (p t x : Int) (hp : 1 ≤ p) (hp2 : p ≤ 256) (ht : 1 ≤ t) (ht2 : t ≤ 64) (ty : TypeId) (w : World) (hw : GOk Tryd.prog (gsT ty) w) :
    Calls Tryd.prog 32 #[.agg (geoV p t).toArray, .int .i64 7, .int .i64 x, .int .i64 0, .int .i64 0] w fun e w' => e = .returned (.int .i64 (atV p t 7 x 0 0)) ∧ Quiet w w' := by
  obtain ⟨⟨r1, r2⟩, ⟨k1, k2⟩, l1, l2⟩ := big p t hp hp2 ht ht2
  have g0 := alG_ok p t x 0 0 hp hp2 ht ht2
  have g1 := al_is (.bin .eql (.var .i64 0) (.lit .i64 0)) false (by kernel_rfl) (fl (show ¬ p = 0 by omega)) g0
  by_cases h0a : x < 0
  · have q := symInt (al_is (.bin .lss (.var .i64 60) (.lit .i64 0)) true (by kernel_rfl) (tr h0a) g1) (hcs0 _ (gsT ty)) (n := 1000) (f := 32) (args := [.agg geoS.toArray, .int .i64 7, .float .f64 (60 * 512 + kI .i64), .int .i64 0, .int .i64 0]) (args' := [.agg (geoV p t).toArray, .int .i64 7, .int .i64 x, .int .i64 0, .int .i64 0]) (-1) (fun G => by kernel_rfl) (fun G ι => vs_agg (geo_vs p t x 0 0 G ι) (vs_int (vs_sym rfl (vs_int (vs_int (vs_nil)))))) w hw
    rwa [show atV p t 7 x 0 0 = -1 by simp [atV, place, dims, h0a]]
  have g2 := al_is (.bin .lss (.var .i64 60) (.lit .i64 0)) false (by kernel_rfl) (fl h0a) g1
  by_cases h0b : p ≤ x
  · have q := symInt (al_is (.bin .geq (.var .i64 60) (.var .i64 0)) true (by kernel_rfl) (tr h0b) g2) (hcs0 _ (gsT ty)) (n := 1000) (f := 32) (args := [.agg geoS.toArray, .int .i64 7, .float .f64 (60 * 512 + kI .i64), .int .i64 0, .int .i64 0]) (args' := [.agg (geoV p t).toArray, .int .i64 7, .int .i64 x, .int .i64 0, .int .i64 0]) (-1) (fun G => by kernel_rfl) (fun G ι => vs_agg (geo_vs p t x 0 0 G ι) (vs_int (vs_sym rfl (vs_int (vs_int (vs_nil)))))) w hw
    rwa [show atV p t 7 x 0 0 = -1 by simp [atV, place, dims, h0b]]
  have g3 := al_is (.bin .geq (.var .i64 60) (.var .i64 0)) false (by kernel_rfl) (fl h0b) g2
  have g4 := al_num .mul (.lit .i64 0) (.var .i64 0) 0 (p) 0 (by kernel_rfl) rfl rfl (v_mul (by omega) (by omega) (by omega)) g3
  have g5 := al_op .add (.lit .i64 0) (.var .i64 60) (.var .i64 60) 0 x x (by kernel_rfl) rfl rfl rfl (v_add (by omega) (by omega) (by omega)) g4
  have g6 := al_op .mul (.var .i64 60) (.lit .i64 1) (.var .i64 60) x 1 x (by kernel_rfl) rfl rfl rfl (v_mul (by omega) (by omega) (by omega)) g5
  have g7 := al_op .add (.var .i64 60) (.lit .i64 0) (.var .i64 60) x 0 x (by kernel_rfl) rfl rfl rfl (v_add (by omega) (by omega) (by omega)) g6
  have q := symOne env g7 (hcs0 _ (gsT ty)) (n := 1000) (f := 32) (args := [.agg geoS.toArray, .int .i64 7, .float .f64 (60 * 512 + kI .i64), .int .i64 0, .int .i64 0]) (args' := [.agg (geoV p t).toArray, .int .i64 7, .int .i64 x, .int .i64 0, .int .i64 0]) (k := .i64) (.bin .add (.var .i64 9) (.var .i64 60)) (by kernel_rfl) (by kernel_rfl) (den_b (k := .i64) (a := 21 + t) (b := x) (r := 21 + t + x) rfl rfl (v_add rfl (by omega) (by omega))) (fun G => by kernel_rfl) (fun G ι => vs_agg (geo_vs p t x 0 0 G ι) (vs_int (vs_sym rfl (vs_int (vs_int (vs_nil)))))) w hw
  rwa [show atV p t 7 x 0 0 = 21 + t + x by simp [atV, place, dims, base, h0a, h0b]]
theorem at8 (p t x : Int) (hp : 1 ≤ p) (hp2 : p ≤ 256) (ht : 1 ≤ t) (ht2 : t ≤ 64) (ty : TypeId) (w : World) (hw : GOk Tryd.prog (gsT ty) w) :
    Calls Tryd.prog 32 #[.agg (geoV p t).toArray, .int .i64 8, .int .i64 x, .int .i64 0, .int .i64 0] w fun e w' => e = .returned (.int .i64 (atV p t 8 x 0 0)) ∧ Quiet w w' := by
  obtain ⟨⟨r1, r2⟩, ⟨k1, k2⟩, l1, l2⟩ := big p t hp hp2 ht ht2
  have g0 := alG_ok p t x 0 0 hp hp2 ht ht2
  have g1 := al_is (.bin .eql (.var .i64 0) (.lit .i64 0)) false (by kernel_rfl) (fl (show ¬ p = 0 by omega)) g0
  by_cases h0a : x < 0
  · have q := symInt (al_is (.bin .lss (.var .i64 60) (.lit .i64 0)) true (by kernel_rfl) (tr h0a) g1) (hcs0 _ (gsT ty)) (n := 1000) (f := 32) (args := [.agg geoS.toArray, .int .i64 8, .float .f64 (60 * 512 + kI .i64), .int .i64 0, .int .i64 0]) (args' := [.agg (geoV p t).toArray, .int .i64 8, .int .i64 x, .int .i64 0, .int .i64 0]) (-1) (fun G => by kernel_rfl) (fun G ι => vs_agg (geo_vs p t x 0 0 G ι) (vs_int (vs_sym rfl (vs_int (vs_int (vs_nil)))))) w hw
    rwa [show atV p t 8 x 0 0 = -1 by simp [atV, place, dims, h0a]]
  have g2 := al_is (.bin .lss (.var .i64 60) (.lit .i64 0)) false (by kernel_rfl) (fl h0a) g1
  by_cases h0b : p ≤ x
  · have q := symInt (al_is (.bin .geq (.var .i64 60) (.var .i64 0)) true (by kernel_rfl) (tr h0b) g2) (hcs0 _ (gsT ty)) (n := 1000) (f := 32) (args := [.agg geoS.toArray, .int .i64 8, .float .f64 (60 * 512 + kI .i64), .int .i64 0, .int .i64 0]) (args' := [.agg (geoV p t).toArray, .int .i64 8, .int .i64 x, .int .i64 0, .int .i64 0]) (-1) (fun G => by kernel_rfl) (fun G ι => vs_agg (geo_vs p t x 0 0 G ι) (vs_int (vs_sym rfl (vs_int (vs_int (vs_nil)))))) w hw
    rwa [show atV p t 8 x 0 0 = -1 by simp [atV, place, dims, h0b]]
  have g3 := al_is (.bin .geq (.var .i64 60) (.var .i64 0)) false (by kernel_rfl) (fl h0b) g2
  have g4 := al_num .mul (.lit .i64 0) (.var .i64 0) 0 (p) 0 (by kernel_rfl) rfl rfl (v_mul (by omega) (by omega) (by omega)) g3
  have g5 := al_op .add (.lit .i64 0) (.var .i64 60) (.var .i64 60) 0 x x (by kernel_rfl) rfl rfl rfl (v_add (by omega) (by omega) (by omega)) g4
  have g6 := al_op .mul (.var .i64 60) (.lit .i64 1) (.var .i64 60) x 1 x (by kernel_rfl) rfl rfl rfl (v_mul (by omega) (by omega) (by omega)) g5
  have g7 := al_op .add (.var .i64 60) (.lit .i64 0) (.var .i64 60) x 0 x (by kernel_rfl) rfl rfl rfl (v_add (by omega) (by omega) (by omega)) g6
  have q := symOne env g7 (hcs0 _ (gsT ty)) (n := 1000) (f := 32) (args := [.agg geoS.toArray, .int .i64 8, .float .f64 (60 * 512 + kI .i64), .int .i64 0, .int .i64 0]) (args' := [.agg (geoV p t).toArray, .int .i64 8, .int .i64 x, .int .i64 0, .int .i64 0]) (k := .i64) (.bin .add (.var .i64 10) (.var .i64 60)) (by kernel_rfl) (by kernel_rfl) (den_b (k := .i64) (a := 21 + t + p) (b := x) (r := 21 + t + p + x) rfl rfl (v_add rfl (by omega) (by omega))) (fun G => by kernel_rfl) (fun G ι => vs_agg (geo_vs p t x 0 0 G ι) (vs_int (vs_sym rfl (vs_int (vs_int (vs_nil)))))) w hw
  rwa [show atV p t 8 x 0 0 = 21 + t + p + x by simp [atV, place, dims, base, h0a, h0b]]
theorem at9 (p t x : Int) (hp : 1 ≤ p) (hp2 : p ≤ 256) (ht : 1 ≤ t) (ht2 : t ≤ 64) (ty : TypeId) (w : World) (hw : GOk Tryd.prog (gsT ty) w) :
    Calls Tryd.prog 32 #[.agg (geoV p t).toArray, .int .i64 9, .int .i64 x, .int .i64 0, .int .i64 0] w fun e w' => e = .returned (.int .i64 (atV p t 9 x 0 0)) ∧ Quiet w w' := by
  obtain ⟨⟨r1, r2⟩, ⟨k1, k2⟩, l1, l2⟩ := big p t hp hp2 ht ht2
  have g0 := alG_ok p t x 0 0 hp hp2 ht ht2
  have g1 := al_is (.bin .eql (.var .i64 0) (.lit .i64 0)) false (by kernel_rfl) (fl (show ¬ p = 0 by omega)) g0
  by_cases h0a : x < 0
  · have q := symInt (al_is (.bin .lss (.var .i64 60) (.lit .i64 0)) true (by kernel_rfl) (tr h0a) g1) (hcs0 _ (gsT ty)) (n := 1000) (f := 32) (args := [.agg geoS.toArray, .int .i64 9, .float .f64 (60 * 512 + kI .i64), .int .i64 0, .int .i64 0]) (args' := [.agg (geoV p t).toArray, .int .i64 9, .int .i64 x, .int .i64 0, .int .i64 0]) (-1) (fun G => by kernel_rfl) (fun G ι => vs_agg (geo_vs p t x 0 0 G ι) (vs_int (vs_sym rfl (vs_int (vs_int (vs_nil)))))) w hw
    rwa [show atV p t 9 x 0 0 = -1 by simp [atV, place, dims, h0a]]
  have g2 := al_is (.bin .lss (.var .i64 60) (.lit .i64 0)) false (by kernel_rfl) (fl h0a) g1
  by_cases h0b : p ≤ x
  · have q := symInt (al_is (.bin .geq (.var .i64 60) (.var .i64 0)) true (by kernel_rfl) (tr h0b) g2) (hcs0 _ (gsT ty)) (n := 1000) (f := 32) (args := [.agg geoS.toArray, .int .i64 9, .float .f64 (60 * 512 + kI .i64), .int .i64 0, .int .i64 0]) (args' := [.agg (geoV p t).toArray, .int .i64 9, .int .i64 x, .int .i64 0, .int .i64 0]) (-1) (fun G => by kernel_rfl) (fun G ι => vs_agg (geo_vs p t x 0 0 G ι) (vs_int (vs_sym rfl (vs_int (vs_int (vs_nil)))))) w hw
    rwa [show atV p t 9 x 0 0 = -1 by simp [atV, place, dims, h0b]]
  have g3 := al_is (.bin .geq (.var .i64 60) (.var .i64 0)) false (by kernel_rfl) (fl h0b) g2
  have g4 := al_num .mul (.lit .i64 0) (.var .i64 0) 0 (p) 0 (by kernel_rfl) rfl rfl (v_mul (by omega) (by omega) (by omega)) g3
  have g5 := al_op .add (.lit .i64 0) (.var .i64 60) (.var .i64 60) 0 x x (by kernel_rfl) rfl rfl rfl (v_add (by omega) (by omega) (by omega)) g4
  have g6 := al_op .mul (.var .i64 60) (.lit .i64 1) (.var .i64 60) x 1 x (by kernel_rfl) rfl rfl rfl (v_mul (by omega) (by omega) (by omega)) g5
  have g7 := al_op .add (.var .i64 60) (.lit .i64 0) (.var .i64 60) x 0 x (by kernel_rfl) rfl rfl rfl (v_add (by omega) (by omega) (by omega)) g6
  have q := symOne env g7 (hcs0 _ (gsT ty)) (n := 1000) (f := 32) (args := [.agg geoS.toArray, .int .i64 9, .float .f64 (60 * 512 + kI .i64), .int .i64 0, .int .i64 0]) (args' := [.agg (geoV p t).toArray, .int .i64 9, .int .i64 x, .int .i64 0, .int .i64 0]) (k := .i64) (.bin .add (.var .i64 11) (.var .i64 60)) (by kernel_rfl) (by kernel_rfl) (den_b (k := .i64) (a := 21 + t + 2 * p) (b := x) (r := 21 + t + 2 * p + x) rfl rfl (v_add rfl (by omega) (by omega))) (fun G => by kernel_rfl) (fun G ι => vs_agg (geo_vs p t x 0 0 G ι) (vs_int (vs_sym rfl (vs_int (vs_int (vs_nil)))))) w hw
  rwa [show atV p t 9 x 0 0 = 21 + t + 2 * p + x by simp [atV, place, dims, base, h0a, h0b]]
theorem at10 (p t x : Int) (hp : 1 ≤ p) (hp2 : p ≤ 256) (ht : 1 ≤ t) (ht2 : t ≤ 64) (ty : TypeId) (w : World) (hw : GOk Tryd.prog (gsT ty) w) :
    Calls Tryd.prog 32 #[.agg (geoV p t).toArray, .int .i64 10, .int .i64 x, .int .i64 0, .int .i64 0] w fun e w' => e = .returned (.int .i64 (atV p t 10 x 0 0)) ∧ Quiet w w' := by
  obtain ⟨⟨r1, r2⟩, ⟨k1, k2⟩, l1, l2⟩ := big p t hp hp2 ht ht2
  have g0 := alG_ok p t x 0 0 hp hp2 ht ht2
  have g1 := al_is (.bin .eql (.var .i64 0) (.lit .i64 0)) false (by kernel_rfl) (fl (show ¬ p = 0 by omega)) g0
  by_cases h0a : x < 0
  · have q := symInt (al_is (.bin .lss (.var .i64 60) (.lit .i64 0)) true (by kernel_rfl) (tr h0a) g1) (hcs0 _ (gsT ty)) (n := 1000) (f := 32) (args := [.agg geoS.toArray, .int .i64 10, .float .f64 (60 * 512 + kI .i64), .int .i64 0, .int .i64 0]) (args' := [.agg (geoV p t).toArray, .int .i64 10, .int .i64 x, .int .i64 0, .int .i64 0]) (-1) (fun G => by kernel_rfl) (fun G ι => vs_agg (geo_vs p t x 0 0 G ι) (vs_int (vs_sym rfl (vs_int (vs_int (vs_nil)))))) w hw
    rwa [show atV p t 10 x 0 0 = -1 by simp [atV, place, dims, h0a]]
  have g2 := al_is (.bin .lss (.var .i64 60) (.lit .i64 0)) false (by kernel_rfl) (fl h0a) g1
  by_cases h0b : 8 * p ≤ x
  · have q := symInt (al_is (.bin .geq (.var .i64 60) (.var .i64 40)) true (by kernel_rfl) (tr h0b) g2) (hcs0 _ (gsT ty)) (n := 1000) (f := 32) (args := [.agg geoS.toArray, .int .i64 10, .float .f64 (60 * 512 + kI .i64), .int .i64 0, .int .i64 0]) (args' := [.agg (geoV p t).toArray, .int .i64 10, .int .i64 x, .int .i64 0, .int .i64 0]) (-1) (fun G => by kernel_rfl) (fun G ι => vs_agg (geo_vs p t x 0 0 G ι) (vs_int (vs_sym rfl (vs_int (vs_int (vs_nil)))))) w hw
    rwa [show atV p t 10 x 0 0 = -1 by simp [atV, place, dims, h0b]]
  have g3 := al_is (.bin .geq (.var .i64 60) (.var .i64 40)) false (by kernel_rfl) (fl h0b) g2
  have g4 := al_num .mul (.lit .i64 0) (.var .i64 40) 0 (8 * p) 0 (by kernel_rfl) rfl rfl (v_mul (by omega) (by omega) (by omega)) g3
  have g5 := al_op .add (.lit .i64 0) (.var .i64 60) (.var .i64 60) 0 x x (by kernel_rfl) rfl rfl rfl (v_add (by omega) (by omega) (by omega)) g4
  have g6 := al_op .mul (.var .i64 60) (.lit .i64 1) (.var .i64 60) x 1 x (by kernel_rfl) rfl rfl rfl (v_mul (by omega) (by omega) (by omega)) g5
  have g7 := al_op .add (.var .i64 60) (.lit .i64 0) (.var .i64 60) x 0 x (by kernel_rfl) rfl rfl rfl (v_add (by omega) (by omega) (by omega)) g6
  have q := symOne env g7 (hcs0 _ (gsT ty)) (n := 1000) (f := 32) (args := [.agg geoS.toArray, .int .i64 10, .float .f64 (60 * 512 + kI .i64), .int .i64 0, .int .i64 0]) (args' := [.agg (geoV p t).toArray, .int .i64 10, .int .i64 x, .int .i64 0, .int .i64 0]) (k := .i64) (.bin .add (.var .i64 12) (.var .i64 60)) (by kernel_rfl) (by kernel_rfl) (den_b (k := .i64) (a := 21 + t + 3 * p) (b := x) (r := 21 + t + 3 * p + x) rfl rfl (v_add rfl (by omega) (by omega))) (fun G => by kernel_rfl) (fun G ι => vs_agg (geo_vs p t x 0 0 G ι) (vs_int (vs_sym rfl (vs_int (vs_int (vs_nil)))))) w hw
  rwa [show atV p t 10 x 0 0 = 21 + t + 3 * p + x by simp [atV, place, dims, base, h0a, h0b]]
theorem at11 (p t x : Int) (hp : 1 ≤ p) (hp2 : p ≤ 256) (ht : 1 ≤ t) (ht2 : t ≤ 64) (ty : TypeId) (w : World) (hw : GOk Tryd.prog (gsT ty) w) :
    Calls Tryd.prog 32 #[.agg (geoV p t).toArray, .int .i64 11, .int .i64 x, .int .i64 0, .int .i64 0] w fun e w' => e = .returned (.int .i64 (atV p t 11 x 0 0)) ∧ Quiet w w' := by
  obtain ⟨⟨r1, r2⟩, ⟨k1, k2⟩, l1, l2⟩ := big p t hp hp2 ht ht2
  have g0 := alG_ok p t x 0 0 hp hp2 ht ht2
  have g1 := al_is (.bin .eql (.var .i64 0) (.lit .i64 0)) false (by kernel_rfl) (fl (show ¬ p = 0 by omega)) g0
  by_cases h0a : x < 0
  · have q := symInt (al_is (.bin .lss (.var .i64 60) (.lit .i64 0)) true (by kernel_rfl) (tr h0a) g1) (hcs0 _ (gsT ty)) (n := 1000) (f := 32) (args := [.agg geoS.toArray, .int .i64 11, .float .f64 (60 * 512 + kI .i64), .int .i64 0, .int .i64 0]) (args' := [.agg (geoV p t).toArray, .int .i64 11, .int .i64 x, .int .i64 0, .int .i64 0]) (-1) (fun G => by kernel_rfl) (fun G ι => vs_agg (geo_vs p t x 0 0 G ι) (vs_int (vs_sym rfl (vs_int (vs_int (vs_nil)))))) w hw
    rwa [show atV p t 11 x 0 0 = -1 by simp [atV, place, dims, h0a]]
  have g2 := al_is (.bin .lss (.var .i64 60) (.lit .i64 0)) false (by kernel_rfl) (fl h0a) g1
  by_cases h0b : 8 * p ≤ x
  · have q := symInt (al_is (.bin .geq (.var .i64 60) (.var .i64 40)) true (by kernel_rfl) (tr h0b) g2) (hcs0 _ (gsT ty)) (n := 1000) (f := 32) (args := [.agg geoS.toArray, .int .i64 11, .float .f64 (60 * 512 + kI .i64), .int .i64 0, .int .i64 0]) (args' := [.agg (geoV p t).toArray, .int .i64 11, .int .i64 x, .int .i64 0, .int .i64 0]) (-1) (fun G => by kernel_rfl) (fun G ι => vs_agg (geo_vs p t x 0 0 G ι) (vs_int (vs_sym rfl (vs_int (vs_int (vs_nil)))))) w hw
    rwa [show atV p t 11 x 0 0 = -1 by simp [atV, place, dims, h0b]]
  have g3 := al_is (.bin .geq (.var .i64 60) (.var .i64 40)) false (by kernel_rfl) (fl h0b) g2
  have g4 := al_num .mul (.lit .i64 0) (.var .i64 40) 0 (8 * p) 0 (by kernel_rfl) rfl rfl (v_mul (by omega) (by omega) (by omega)) g3
  have g5 := al_op .add (.lit .i64 0) (.var .i64 60) (.var .i64 60) 0 x x (by kernel_rfl) rfl rfl rfl (v_add (by omega) (by omega) (by omega)) g4
  have g6 := al_op .mul (.var .i64 60) (.lit .i64 1) (.var .i64 60) x 1 x (by kernel_rfl) rfl rfl rfl (v_mul (by omega) (by omega) (by omega)) g5
  have g7 := al_op .add (.var .i64 60) (.lit .i64 0) (.var .i64 60) x 0 x (by kernel_rfl) rfl rfl rfl (v_add (by omega) (by omega) (by omega)) g6
  have q := symOne env g7 (hcs0 _ (gsT ty)) (n := 1000) (f := 32) (args := [.agg geoS.toArray, .int .i64 11, .float .f64 (60 * 512 + kI .i64), .int .i64 0, .int .i64 0]) (args' := [.agg (geoV p t).toArray, .int .i64 11, .int .i64 x, .int .i64 0, .int .i64 0]) (k := .i64) (.bin .add (.var .i64 13) (.var .i64 60)) (by kernel_rfl) (by kernel_rfl) (den_b (k := .i64) (a := 21 + t + 11 * p) (b := x) (r := 21 + t + 11 * p + x) rfl rfl (v_add rfl (by omega) (by omega))) (fun G => by kernel_rfl) (fun G ι => vs_agg (geo_vs p t x 0 0 G ι) (vs_int (vs_sym rfl (vs_int (vs_int (vs_nil)))))) w hw
  rwa [show atV p t 11 x 0 0 = 21 + t + 11 * p + x by simp [atV, place, dims, base, h0a, h0b]]
theorem at15 (p t x : Int) (hp : 1 ≤ p) (hp2 : p ≤ 256) (ht : 1 ≤ t) (ht2 : t ≤ 64) (ty : TypeId) (w : World) (hw : GOk Tryd.prog (gsT ty) w) :
    Calls Tryd.prog 32 #[.agg (geoV p t).toArray, .int .i64 15, .int .i64 x, .int .i64 0, .int .i64 0] w fun e w' => e = .returned (.int .i64 (atV p t 15 x 0 0)) ∧ Quiet w w' := by
  obtain ⟨⟨r1, r2⟩, ⟨k1, k2⟩, l1, l2⟩ := big p t hp hp2 ht ht2
  have g0 := alG_ok p t x 0 0 hp hp2 ht ht2
  have g1 := al_is (.bin .eql (.var .i64 0) (.lit .i64 0)) false (by kernel_rfl) (fl (show ¬ p = 0 by omega)) g0
  by_cases h0a : x < 0
  · have q := symInt (al_is (.bin .lss (.var .i64 60) (.lit .i64 0)) true (by kernel_rfl) (tr h0a) g1) (hcs0 _ (gsT ty)) (n := 1000) (f := 32) (args := [.agg geoS.toArray, .int .i64 15, .float .f64 (60 * 512 + kI .i64), .int .i64 0, .int .i64 0]) (args' := [.agg (geoV p t).toArray, .int .i64 15, .int .i64 x, .int .i64 0, .int .i64 0]) (-1) (fun G => by kernel_rfl) (fun G ι => vs_agg (geo_vs p t x 0 0 G ι) (vs_int (vs_sym rfl (vs_int (vs_int (vs_nil)))))) w hw
    rwa [show atV p t 15 x 0 0 = -1 by simp [atV, place, dims, h0a]]
  have g2 := al_is (.bin .lss (.var .i64 60) (.lit .i64 0)) false (by kernel_rfl) (fl h0a) g1
  by_cases h0b : t ≤ x
  · have q := symInt (al_is (.bin .geq (.var .i64 60) (.var .i64 1)) true (by kernel_rfl) (tr h0b) g2) (hcs0 _ (gsT ty)) (n := 1000) (f := 32) (args := [.agg geoS.toArray, .int .i64 15, .float .f64 (60 * 512 + kI .i64), .int .i64 0, .int .i64 0]) (args' := [.agg (geoV p t).toArray, .int .i64 15, .int .i64 x, .int .i64 0, .int .i64 0]) (-1) (fun G => by kernel_rfl) (fun G ι => vs_agg (geo_vs p t x 0 0 G ι) (vs_int (vs_sym rfl (vs_int (vs_int (vs_nil)))))) w hw
    rwa [show atV p t 15 x 0 0 = -1 by simp [atV, place, dims, h0b]]
  have g3 := al_is (.bin .geq (.var .i64 60) (.var .i64 1)) false (by kernel_rfl) (fl h0b) g2
  have g4 := al_num .mul (.lit .i64 0) (.var .i64 1) 0 (t) 0 (by kernel_rfl) rfl rfl (v_mul (by omega) (by omega) (by omega)) g3
  have g5 := al_op .add (.lit .i64 0) (.var .i64 60) (.var .i64 60) 0 x x (by kernel_rfl) rfl rfl rfl (v_add (by omega) (by omega) (by omega)) g4
  have g6 := al_op .mul (.var .i64 60) (.lit .i64 1) (.var .i64 60) x 1 x (by kernel_rfl) rfl rfl rfl (v_mul (by omega) (by omega) (by omega)) g5
  have g7 := al_op .add (.var .i64 60) (.lit .i64 0) (.var .i64 60) x 0 x (by kernel_rfl) rfl rfl rfl (v_add (by omega) (by omega) (by omega)) g6
  have q := symOne env g7 (hcs0 _ (gsT ty)) (n := 1000) (f := 32) (args := [.agg geoS.toArray, .int .i64 15, .float .f64 (60 * 512 + kI .i64), .int .i64 0, .int .i64 0]) (args' := [.agg (geoV p t).toArray, .int .i64 15, .int .i64 x, .int .i64 0, .int .i64 0]) (k := .i64) (.bin .add (.var .i64 17) (.var .i64 60)) (by kernel_rfl) (by kernel_rfl) (den_b (k := .i64) (a := 21 + 15 * t + 19 * p) (b := x) (r := 21 + 15 * t + 19 * p + x) rfl rfl (v_add rfl (by omega) (by omega))) (fun G => by kernel_rfl) (fun G ι => vs_agg (geo_vs p t x 0 0 G ι) (vs_int (vs_sym rfl (vs_int (vs_int (vs_nil)))))) w hw
  rwa [show atV p t 15 x 0 0 = 21 + 15 * t + 19 * p + x by simp [atV, place, dims, base, h0a, h0b]]
theorem at17 (p t x : Int) (hp : 1 ≤ p) (hp2 : p ≤ 256) (ht : 1 ≤ t) (ht2 : t ≤ 64) (ty : TypeId) (w : World) (hw : GOk Tryd.prog (gsT ty) w) :
    Calls Tryd.prog 32 #[.agg (geoV p t).toArray, .int .i64 17, .int .i64 x, .int .i64 0, .int .i64 0] w fun e w' => e = .returned (.int .i64 (atV p t 17 x 0 0)) ∧ Quiet w w' := by
  obtain ⟨⟨r1, r2⟩, ⟨k1, k2⟩, l1, l2⟩ := big p t hp hp2 ht ht2
  have g0 := alG_ok p t x 0 0 hp hp2 ht ht2
  have g1 := al_is (.bin .eql (.var .i64 0) (.lit .i64 0)) false (by kernel_rfl) (fl (show ¬ p = 0 by omega)) g0
  by_cases h0a : x < 0
  · have q := symInt (al_is (.bin .lss (.var .i64 60) (.lit .i64 0)) true (by kernel_rfl) (tr h0a) g1) (hcs0 _ (gsT ty)) (n := 1000) (f := 32) (args := [.agg geoS.toArray, .int .i64 17, .float .f64 (60 * 512 + kI .i64), .int .i64 0, .int .i64 0]) (args' := [.agg (geoV p t).toArray, .int .i64 17, .int .i64 x, .int .i64 0, .int .i64 0]) (-1) (fun G => by kernel_rfl) (fun G ι => vs_agg (geo_vs p t x 0 0 G ι) (vs_int (vs_sym rfl (vs_int (vs_int (vs_nil)))))) w hw
    rwa [show atV p t 17 x 0 0 = -1 by simp [atV, place, dims, h0a]]
  have g2 := al_is (.bin .lss (.var .i64 60) (.lit .i64 0)) false (by kernel_rfl) (fl h0a) g1
  by_cases h0b : 4 * t * (p + 1) + t * (2 * t + 3) ≤ x
  · have q := symInt (al_is (.bin .geq (.var .i64 60) (.var .i64 51)) true (by kernel_rfl) (tr h0b) g2) (hcs0 _ (gsT ty)) (n := 1000) (f := 32) (args := [.agg geoS.toArray, .int .i64 17, .float .f64 (60 * 512 + kI .i64), .int .i64 0, .int .i64 0]) (args' := [.agg (geoV p t).toArray, .int .i64 17, .int .i64 x, .int .i64 0, .int .i64 0]) (-1) (fun G => by kernel_rfl) (fun G ι => vs_agg (geo_vs p t x 0 0 G ι) (vs_int (vs_sym rfl (vs_int (vs_int (vs_nil)))))) w hw
    rwa [show atV p t 17 x 0 0 = -1 by simp [atV, place, dims, h0b]]
  have g3 := al_is (.bin .geq (.var .i64 60) (.var .i64 51)) false (by kernel_rfl) (fl h0b) g2
  have g4 := al_num .mul (.lit .i64 0) (.var .i64 51) 0 (4 * t * (p + 1) + t * (2 * t + 3)) 0 (by kernel_rfl) rfl rfl (v_mul (by omega) (by omega) (by omega)) g3
  have g5 := al_op .add (.lit .i64 0) (.var .i64 60) (.var .i64 60) 0 x x (by kernel_rfl) rfl rfl rfl (v_add (by omega) (by omega) (by omega)) g4
  have g6 := al_op .mul (.var .i64 60) (.lit .i64 1) (.var .i64 60) x 1 x (by kernel_rfl) rfl rfl rfl (v_mul (by omega) (by omega) (by omega)) g5
  have g7 := al_op .add (.var .i64 60) (.lit .i64 0) (.var .i64 60) x 0 x (by kernel_rfl) rfl rfl rfl (v_add (by omega) (by omega) (by omega)) g6
  have q := symOne env g7 (hcs0 _ (gsT ty)) (n := 1000) (f := 32) (args := [.agg geoS.toArray, .int .i64 17, .float .f64 (60 * 512 + kI .i64), .int .i64 0, .int .i64 0]) (args' := [.agg (geoV p t).toArray, .int .i64 17, .int .i64 x, .int .i64 0, .int .i64 0]) (k := .i64) (.bin .add (.var .i64 19) (.var .i64 60)) (by kernel_rfl) (by kernel_rfl) (den_b (k := .i64) (a := 21 + 16 * t + 19 * p + t * (2 * t + 2)) (b := x) (r := 21 + 16 * t + 19 * p + t * (2 * t + 2) + x) rfl rfl (v_add rfl (by omega) (by omega))) (fun G => by kernel_rfl) (fun G ι => vs_agg (geo_vs p t x 0 0 G ι) (vs_int (vs_sym rfl (vs_int (vs_int (vs_nil)))))) w hw
  rwa [show atV p t 17 x 0 0 = 21 + 16 * t + 19 * p + t * (2 * t + 2) + x by simp [atV, place, dims, base, h0a, h0b]]
end Go.Proofs.YtacdbgepncimgabDoor
