/-
  Stage 2: at, of regions that are told by two or three numbers. Conditions: 1 to 256 pages, 1 to 64 threads.
-/
import Derived.Test.YtacdbgepncimgabDoorG1
namespace Go.Proofs.YtacdbgepncimgabDoor
open Go.Ev Go.RowKit
set_option maxRecDepth 100000
theorem at12 (p t x y z : Int) (hp : 1 ≤ p) (hp2 : p ≤ 256) (ht : 1 ≤ t) (ht2 : t ≤ 64) (ty : TypeId) (w : World) (hw : GOk Tryd.prog (gsT ty) w) :
    Calls Tryd.prog 32 #[.agg (geoV p t).toArray, .int .i64 12, .int .i64 x, .int .i64 y, .int .i64 z] w fun e w' => e = .returned (.int .i64 (atV p t 12 x y z)) ∧ Quiet w w' := by
  obtain ⟨⟨r1, r2⟩, ⟨k1, k2⟩, l1, l2⟩ := big p t hp hp2 ht ht2
  have g0 := alG_ok p t x y z hp hp2 ht ht2
  have g1 := al_is (.bin .eql (.var .i64 0) (.lit .i64 0)) false (by kernel_rfl) (fl (show ¬ p = 0 by omega)) g0
  by_cases h0a : x < 0
  · have q := symInt (al_is (.bin .lss (.var .i64 60) (.lit .i64 0)) true (by kernel_rfl) (tr h0a) g1) (hcs0 _ (gsT ty)) (n := 1000) (f := 32) (args := [.agg geoS.toArray, .int .i64 12, .float .f64 (60 * 512 + kI .i64), .float .f64 (61 * 512 + kI .i64), .float .f64 (62 * 512 + kI .i64)]) (args' := [.agg (geoV p t).toArray, .int .i64 12, .int .i64 x, .int .i64 y, .int .i64 z]) (-1) (fun G => by kernel_rfl) (fun G ι => vs_agg (geo_vs p t x y z G ι) (vs_int (vs_sym rfl (vs_sym rfl (vs_sym rfl (vs_nil)))))) w hw
    rwa [show atV p t 12 x y z = -1 by simp [atV, place, dims, h0a]]
  have g2 := al_is (.bin .lss (.var .i64 60) (.lit .i64 0)) false (by kernel_rfl) (fl h0a) g1
  by_cases h0b : t ≤ x
  · have q := symInt (al_is (.bin .geq (.var .i64 60) (.var .i64 1)) true (by kernel_rfl) (tr h0b) g2) (hcs0 _ (gsT ty)) (n := 1000) (f := 32) (args := [.agg geoS.toArray, .int .i64 12, .float .f64 (60 * 512 + kI .i64), .float .f64 (61 * 512 + kI .i64), .float .f64 (62 * 512 + kI .i64)]) (args' := [.agg (geoV p t).toArray, .int .i64 12, .int .i64 x, .int .i64 y, .int .i64 z]) (-1) (fun G => by kernel_rfl) (fun G ι => vs_agg (geo_vs p t x y z G ι) (vs_int (vs_sym rfl (vs_sym rfl (vs_sym rfl (vs_nil)))))) w hw
    rwa [show atV p t 12 x y z = -1 by simp [atV, place, dims, h0b]]
  have g3 := al_is (.bin .geq (.var .i64 60) (.var .i64 1)) false (by kernel_rfl) (fl h0b) g2
  by_cases h1a : y < 0
  · have q := symInt (al_is (.bin .lss (.var .i64 61) (.lit .i64 0)) true (by kernel_rfl) (tr h1a) g3) (hcs0 _ (gsT ty)) (n := 1000) (f := 32) (args := [.agg geoS.toArray, .int .i64 12, .float .f64 (60 * 512 + kI .i64), .float .f64 (61 * 512 + kI .i64), .float .f64 (62 * 512 + kI .i64)]) (args' := [.agg (geoV p t).toArray, .int .i64 12, .int .i64 x, .int .i64 y, .int .i64 z]) (-1) (fun G => by kernel_rfl) (fun G ι => vs_agg (geo_vs p t x y z G ι) (vs_int (vs_sym rfl (vs_sym rfl (vs_sym rfl (vs_nil)))))) w hw
    rwa [show atV p t 12 x y z = -1 by simp [atV, place, dims, h1a]]
  have g4 := al_is (.bin .lss (.var .i64 61) (.lit .i64 0)) false (by kernel_rfl) (fl h1a) g3
  by_cases h1b : 4 ≤ y
  · have q := symInt (al_is (.bin .geq (.var .i64 61) (.lit .i64 4)) true (by kernel_rfl) (tr h1b) g4) (hcs0 _ (gsT ty)) (n := 1000) (f := 32) (args := [.agg geoS.toArray, .int .i64 12, .float .f64 (60 * 512 + kI .i64), .float .f64 (61 * 512 + kI .i64), .float .f64 (62 * 512 + kI .i64)]) (args' := [.agg (geoV p t).toArray, .int .i64 12, .int .i64 x, .int .i64 y, .int .i64 z]) (-1) (fun G => by kernel_rfl) (fun G ι => vs_agg (geo_vs p t x y z G ι) (vs_int (vs_sym rfl (vs_sym rfl (vs_sym rfl (vs_nil)))))) w hw
    rwa [show atV p t 12 x y z = -1 by simp [atV, place, dims, h1b]]
  have g5 := al_is (.bin .geq (.var .i64 61) (.lit .i64 4)) false (by kernel_rfl) (fl h1b) g4
  by_cases h2a : z < 0
  · have q := symInt (al_is (.bin .lss (.var .i64 62) (.lit .i64 0)) true (by kernel_rfl) (tr h2a) g5) (hcs0 _ (gsT ty)) (n := 1000) (f := 32) (args := [.agg geoS.toArray, .int .i64 12, .float .f64 (60 * 512 + kI .i64), .float .f64 (61 * 512 + kI .i64), .float .f64 (62 * 512 + kI .i64)]) (args' := [.agg (geoV p t).toArray, .int .i64 12, .int .i64 x, .int .i64 y, .int .i64 z]) (-1) (fun G => by kernel_rfl) (fun G ι => vs_agg (geo_vs p t x y z G ι) (vs_int (vs_sym rfl (vs_sym rfl (vs_sym rfl (vs_nil)))))) w hw
    rwa [show atV p t 12 x y z = -1 by simp [atV, place, dims, h2a]]
  have g6 := al_is (.bin .lss (.var .i64 62) (.lit .i64 0)) false (by kernel_rfl) (fl h2a) g5
  by_cases h2b : 2 ≤ z
  · have q := symInt (al_is (.bin .geq (.var .i64 62) (.lit .i64 2)) true (by kernel_rfl) (tr h2b) g6) (hcs0 _ (gsT ty)) (n := 1000) (f := 32) (args := [.agg geoS.toArray, .int .i64 12, .float .f64 (60 * 512 + kI .i64), .float .f64 (61 * 512 + kI .i64), .float .f64 (62 * 512 + kI .i64)]) (args' := [.agg (geoV p t).toArray, .int .i64 12, .int .i64 x, .int .i64 y, .int .i64 z]) (-1) (fun G => by kernel_rfl) (fun G ι => vs_agg (geo_vs p t x y z G ι) (vs_int (vs_sym rfl (vs_sym rfl (vs_sym rfl (vs_nil)))))) w hw
    rwa [show atV p t 12 x y z = -1 by simp [atV, place, dims, h2b]]
  have g7 := al_is (.bin .geq (.var .i64 62) (.lit .i64 2)) false (by kernel_rfl) (fl h2b) g6
  have g8 := al_num .mul (.lit .i64 0) (.var .i64 1) 0 (t) 0 (by kernel_rfl) rfl rfl (v_mul (by omega) (by omega) (by omega)) g7
  have g9 := al_op .add (.lit .i64 0) (.var .i64 60) (.var .i64 60) 0 x x (by kernel_rfl) rfl rfl rfl (v_add (by omega) (by omega) (by omega)) g8
  have q := symOne env g9 (hcs0 _ (gsT ty)) (n := 1000) (f := 32) (args := [.agg geoS.toArray, .int .i64 12, .float .f64 (60 * 512 + kI .i64), .float .f64 (61 * 512 + kI .i64), .float .f64 (62 * 512 + kI .i64)]) (args' := [.agg (geoV p t).toArray, .int .i64 12, .int .i64 x, .int .i64 y, .int .i64 z]) (k := .i64) (.bin .add (.var .i64 14) (.bin .add (.bin .mul (.bin .add (.bin .mul (.var .i64 60) (.lit .i64 4)) (.var .i64 61)) (.lit .i64 2)) (.var .i64 62))) (by kernel_rfl) (by kernel_rfl) (den_b (k := .i64) (a := 21 + t + 19 * p) (b := (x * 4 + y) * 2 + z) (r := 21 + t + 19 * p + ((x * 4 + y) * 2 + z)) rfl (den_b (k := .i64) (a := (x * 4 + y) * 2) (b := z) (r := (x * 4 + y) * 2 + z) (den_b (k := .i64) (a := x * 4 + y) (b := 2) (r := (x * 4 + y) * 2) (den_b (k := .i64) (a := x * 4) (b := y) (r := x * 4 + y) (den_b (k := .i64) (a := x) (b := 4) (r := x * 4) rfl rfl (v_mul rfl (by omega) (by omega))) rfl (v_add rfl (by omega) (by omega))) rfl (v_mul rfl (by omega) (by omega))) rfl (v_add rfl (by omega) (by omega))) (v_add rfl (by omega) (by omega))) (fun G => by kernel_rfl) (fun G ι => vs_agg (geo_vs p t x y z G ι) (vs_int (vs_sym rfl (vs_sym rfl (vs_sym rfl (vs_nil)))))) w hw
  rwa [show atV p t 12 x y z = 21 + t + 19 * p + ((x * 4 + y) * 2 + z) by simp [atV, place, dims, base, h0a, h0b, h1a, h1b, h2a, h2b]]
theorem at13 (p t x y : Int) (hp : 1 ≤ p) (hp2 : p ≤ 256) (ht : 1 ≤ t) (ht2 : t ≤ 64) (ty : TypeId) (w : World) (hw : GOk Tryd.prog (gsT ty) w) :
    Calls Tryd.prog 32 #[.agg (geoV p t).toArray, .int .i64 13, .int .i64 x, .int .i64 y, .int .i64 0] w fun e w' => e = .returned (.int .i64 (atV p t 13 x y 0)) ∧ Quiet w w' := by
  obtain ⟨⟨r1, r2⟩, ⟨k1, k2⟩, l1, l2⟩ := big p t hp hp2 ht ht2
  have g0 := alG_ok p t x y 0 hp hp2 ht ht2
  have g1 := al_is (.bin .eql (.var .i64 0) (.lit .i64 0)) false (by kernel_rfl) (fl (show ¬ p = 0 by omega)) g0
  by_cases h0a : x < 0
  · have q := symInt (al_is (.bin .lss (.var .i64 60) (.lit .i64 0)) true (by kernel_rfl) (tr h0a) g1) (hcs0 _ (gsT ty)) (n := 1000) (f := 32) (args := [.agg geoS.toArray, .int .i64 13, .float .f64 (60 * 512 + kI .i64), .float .f64 (61 * 512 + kI .i64), .int .i64 0]) (args' := [.agg (geoV p t).toArray, .int .i64 13, .int .i64 x, .int .i64 y, .int .i64 0]) (-1) (fun G => by kernel_rfl) (fun G ι => vs_agg (geo_vs p t x y 0 G ι) (vs_int (vs_sym rfl (vs_sym rfl (vs_int (vs_nil)))))) w hw
    rwa [show atV p t 13 x y 0 = -1 by simp [atV, place, dims, h0a]]
  have g2 := al_is (.bin .lss (.var .i64 60) (.lit .i64 0)) false (by kernel_rfl) (fl h0a) g1
  by_cases h0b : t ≤ x
  · have q := symInt (al_is (.bin .geq (.var .i64 60) (.var .i64 1)) true (by kernel_rfl) (tr h0b) g2) (hcs0 _ (gsT ty)) (n := 1000) (f := 32) (args := [.agg geoS.toArray, .int .i64 13, .float .f64 (60 * 512 + kI .i64), .float .f64 (61 * 512 + kI .i64), .int .i64 0]) (args' := [.agg (geoV p t).toArray, .int .i64 13, .int .i64 x, .int .i64 y, .int .i64 0]) (-1) (fun G => by kernel_rfl) (fun G ι => vs_agg (geo_vs p t x y 0 G ι) (vs_int (vs_sym rfl (vs_sym rfl (vs_int (vs_nil)))))) w hw
    rwa [show atV p t 13 x y 0 = -1 by simp [atV, place, dims, h0b]]
  have g3 := al_is (.bin .geq (.var .i64 60) (.var .i64 1)) false (by kernel_rfl) (fl h0b) g2
  by_cases h1a : y < 0
  · have q := symInt (al_is (.bin .lss (.var .i64 61) (.lit .i64 0)) true (by kernel_rfl) (tr h1a) g3) (hcs0 _ (gsT ty)) (n := 1000) (f := 32) (args := [.agg geoS.toArray, .int .i64 13, .float .f64 (60 * 512 + kI .i64), .float .f64 (61 * 512 + kI .i64), .int .i64 0]) (args' := [.agg (geoV p t).toArray, .int .i64 13, .int .i64 x, .int .i64 y, .int .i64 0]) (-1) (fun G => by kernel_rfl) (fun G ι => vs_agg (geo_vs p t x y 0 G ι) (vs_int (vs_sym rfl (vs_sym rfl (vs_int (vs_nil)))))) w hw
    rwa [show atV p t 13 x y 0 = -1 by simp [atV, place, dims, h1a]]
  have g4 := al_is (.bin .lss (.var .i64 61) (.lit .i64 0)) false (by kernel_rfl) (fl h1a) g3
  by_cases h1b : 4 ≤ y
  · have q := symInt (al_is (.bin .geq (.var .i64 61) (.lit .i64 4)) true (by kernel_rfl) (tr h1b) g4) (hcs0 _ (gsT ty)) (n := 1000) (f := 32) (args := [.agg geoS.toArray, .int .i64 13, .float .f64 (60 * 512 + kI .i64), .float .f64 (61 * 512 + kI .i64), .int .i64 0]) (args' := [.agg (geoV p t).toArray, .int .i64 13, .int .i64 x, .int .i64 y, .int .i64 0]) (-1) (fun G => by kernel_rfl) (fun G ι => vs_agg (geo_vs p t x y 0 G ι) (vs_int (vs_sym rfl (vs_sym rfl (vs_int (vs_nil)))))) w hw
    rwa [show atV p t 13 x y 0 = -1 by simp [atV, place, dims, h1b]]
  have g5 := al_is (.bin .geq (.var .i64 61) (.lit .i64 4)) false (by kernel_rfl) (fl h1b) g4
  have g6 := al_num .mul (.lit .i64 0) (.var .i64 1) 0 (t) 0 (by kernel_rfl) rfl rfl (v_mul (by omega) (by omega) (by omega)) g5
  have g7 := al_op .add (.lit .i64 0) (.var .i64 60) (.var .i64 60) 0 x x (by kernel_rfl) rfl rfl rfl (v_add (by omega) (by omega) (by omega)) g6
  have q := symOne env g7 (hcs0 _ (gsT ty)) (n := 1000) (f := 32) (args := [.agg geoS.toArray, .int .i64 13, .float .f64 (60 * 512 + kI .i64), .float .f64 (61 * 512 + kI .i64), .int .i64 0]) (args' := [.agg (geoV p t).toArray, .int .i64 13, .int .i64 x, .int .i64 y, .int .i64 0]) (k := .i64) (.bin .add (.var .i64 15) (.bin .add (.bin .mul (.bin .add (.bin .mul (.var .i64 60) (.lit .i64 4)) (.var .i64 61)) (.lit .i64 1)) (.lit .i64 0))) (by kernel_rfl) (by kernel_rfl) (den_b (k := .i64) (a := 21 + 9 * t + 19 * p) (b := x * 4 + y) (r := 21 + 9 * t + 19 * p + (x * 4 + y)) rfl (den_b (k := .i64) (a := x * 4 + y) (b := 0) (r := x * 4 + y) (den_b (k := .i64) (a := x * 4 + y) (b := 1) (r := x * 4 + y) (den_b (k := .i64) (a := x * 4) (b := y) (r := x * 4 + y) (den_b (k := .i64) (a := x) (b := 4) (r := x * 4) rfl rfl (v_mul rfl (by omega) (by omega))) rfl (v_add rfl (by omega) (by omega))) rfl (v_mul (by omega) (by omega) (by omega))) rfl (v_add (by omega) (by omega) (by omega))) (v_add rfl (by omega) (by omega))) (fun G => by kernel_rfl) (fun G ι => vs_agg (geo_vs p t x y 0 G ι) (vs_int (vs_sym rfl (vs_sym rfl (vs_int (vs_nil)))))) w hw
  rwa [show atV p t 13 x y 0 = 21 + 9 * t + 19 * p + (x * 4 + y) by simp [atV, place, dims, base, h0a, h0b, h1a, h1b]]
theorem at14 (p t x y : Int) (hp : 1 ≤ p) (hp2 : p ≤ 256) (ht : 1 ≤ t) (ht2 : t ≤ 64) (ty : TypeId) (w : World) (hw : GOk Tryd.prog (gsT ty) w) :
    Calls Tryd.prog 32 #[.agg (geoV p t).toArray, .int .i64 14, .int .i64 x, .int .i64 y, .int .i64 0] w fun e w' => e = .returned (.int .i64 (atV p t 14 x y 0)) ∧ Quiet w w' := by
  obtain ⟨⟨r1, r2⟩, ⟨k1, k2⟩, l1, l2⟩ := big p t hp hp2 ht ht2
  have g0 := alG_ok p t x y 0 hp hp2 ht ht2
  have g1 := al_is (.bin .eql (.var .i64 0) (.lit .i64 0)) false (by kernel_rfl) (fl (show ¬ p = 0 by omega)) g0
  by_cases h0a : x < 0
  · have q := symInt (al_is (.bin .lss (.var .i64 60) (.lit .i64 0)) true (by kernel_rfl) (tr h0a) g1) (hcs0 _ (gsT ty)) (n := 1000) (f := 32) (args := [.agg geoS.toArray, .int .i64 14, .float .f64 (60 * 512 + kI .i64), .float .f64 (61 * 512 + kI .i64), .int .i64 0]) (args' := [.agg (geoV p t).toArray, .int .i64 14, .int .i64 x, .int .i64 y, .int .i64 0]) (-1) (fun G => by kernel_rfl) (fun G ι => vs_agg (geo_vs p t x y 0 G ι) (vs_int (vs_sym rfl (vs_sym rfl (vs_int (vs_nil)))))) w hw
    rwa [show atV p t 14 x y 0 = -1 by simp [atV, place, dims, h0a]]
  have g2 := al_is (.bin .lss (.var .i64 60) (.lit .i64 0)) false (by kernel_rfl) (fl h0a) g1
  by_cases h0b : t ≤ x
  · have q := symInt (al_is (.bin .geq (.var .i64 60) (.var .i64 1)) true (by kernel_rfl) (tr h0b) g2) (hcs0 _ (gsT ty)) (n := 1000) (f := 32) (args := [.agg geoS.toArray, .int .i64 14, .float .f64 (60 * 512 + kI .i64), .float .f64 (61 * 512 + kI .i64), .int .i64 0]) (args' := [.agg (geoV p t).toArray, .int .i64 14, .int .i64 x, .int .i64 y, .int .i64 0]) (-1) (fun G => by kernel_rfl) (fun G ι => vs_agg (geo_vs p t x y 0 G ι) (vs_int (vs_sym rfl (vs_sym rfl (vs_int (vs_nil)))))) w hw
    rwa [show atV p t 14 x y 0 = -1 by simp [atV, place, dims, h0b]]
  have g3 := al_is (.bin .geq (.var .i64 60) (.var .i64 1)) false (by kernel_rfl) (fl h0b) g2
  by_cases h1a : y < 0
  · have q := symInt (al_is (.bin .lss (.var .i64 61) (.lit .i64 0)) true (by kernel_rfl) (tr h1a) g3) (hcs0 _ (gsT ty)) (n := 1000) (f := 32) (args := [.agg geoS.toArray, .int .i64 14, .float .f64 (60 * 512 + kI .i64), .float .f64 (61 * 512 + kI .i64), .int .i64 0]) (args' := [.agg (geoV p t).toArray, .int .i64 14, .int .i64 x, .int .i64 y, .int .i64 0]) (-1) (fun G => by kernel_rfl) (fun G ι => vs_agg (geo_vs p t x y 0 G ι) (vs_int (vs_sym rfl (vs_sym rfl (vs_int (vs_nil)))))) w hw
    rwa [show atV p t 14 x y 0 = -1 by simp [atV, place, dims, h1a]]
  have g4 := al_is (.bin .lss (.var .i64 61) (.lit .i64 0)) false (by kernel_rfl) (fl h1a) g3
  by_cases h1b : 2 ≤ y
  · have q := symInt (al_is (.bin .geq (.var .i64 61) (.lit .i64 2)) true (by kernel_rfl) (tr h1b) g4) (hcs0 _ (gsT ty)) (n := 1000) (f := 32) (args := [.agg geoS.toArray, .int .i64 14, .float .f64 (60 * 512 + kI .i64), .float .f64 (61 * 512 + kI .i64), .int .i64 0]) (args' := [.agg (geoV p t).toArray, .int .i64 14, .int .i64 x, .int .i64 y, .int .i64 0]) (-1) (fun G => by kernel_rfl) (fun G ι => vs_agg (geo_vs p t x y 0 G ι) (vs_int (vs_sym rfl (vs_sym rfl (vs_int (vs_nil)))))) w hw
    rwa [show atV p t 14 x y 0 = -1 by simp [atV, place, dims, h1b]]
  have g5 := al_is (.bin .geq (.var .i64 61) (.lit .i64 2)) false (by kernel_rfl) (fl h1b) g4
  have g6 := al_num .mul (.lit .i64 0) (.var .i64 1) 0 (t) 0 (by kernel_rfl) rfl rfl (v_mul (by omega) (by omega) (by omega)) g5
  have g7 := al_op .add (.lit .i64 0) (.var .i64 60) (.var .i64 60) 0 x x (by kernel_rfl) rfl rfl rfl (v_add (by omega) (by omega) (by omega)) g6
  have q := symOne env g7 (hcs0 _ (gsT ty)) (n := 1000) (f := 32) (args := [.agg geoS.toArray, .int .i64 14, .float .f64 (60 * 512 + kI .i64), .float .f64 (61 * 512 + kI .i64), .int .i64 0]) (args' := [.agg (geoV p t).toArray, .int .i64 14, .int .i64 x, .int .i64 y, .int .i64 0]) (k := .i64) (.bin .add (.var .i64 16) (.bin .add (.bin .mul (.bin .add (.bin .mul (.var .i64 60) (.lit .i64 2)) (.var .i64 61)) (.lit .i64 1)) (.lit .i64 0))) (by kernel_rfl) (by kernel_rfl) (den_b (k := .i64) (a := 21 + 13 * t + 19 * p) (b := x * 2 + y) (r := 21 + 13 * t + 19 * p + (x * 2 + y)) rfl (den_b (k := .i64) (a := x * 2 + y) (b := 0) (r := x * 2 + y) (den_b (k := .i64) (a := x * 2 + y) (b := 1) (r := x * 2 + y) (den_b (k := .i64) (a := x * 2) (b := y) (r := x * 2 + y) (den_b (k := .i64) (a := x) (b := 2) (r := x * 2) rfl rfl (v_mul rfl (by omega) (by omega))) rfl (v_add rfl (by omega) (by omega))) rfl (v_mul (by omega) (by omega) (by omega))) rfl (v_add (by omega) (by omega) (by omega))) (v_add rfl (by omega) (by omega))) (fun G => by kernel_rfl) (fun G ι => vs_agg (geo_vs p t x y 0 G ι) (vs_int (vs_sym rfl (vs_sym rfl (vs_int (vs_nil)))))) w hw
  rwa [show atV p t 14 x y 0 = 21 + 13 * t + 19 * p + (x * 2 + y) by simp [atV, place, dims, base, h0a, h0b, h1a, h1b]]
theorem at16 (p t x y : Int) (hp : 1 ≤ p) (hp2 : p ≤ 256) (ht : 1 ≤ t) (ht2 : t ≤ 64) (ty : TypeId) (w : World) (hw : GOk Tryd.prog (gsT ty) w) :
    Calls Tryd.prog 32 #[.agg (geoV p t).toArray, .int .i64 16, .int .i64 x, .int .i64 y, .int .i64 0] w fun e w' => e = .returned (.int .i64 (atV p t 16 x y 0)) ∧ Quiet w w' := by
  obtain ⟨⟨r1, r2⟩, ⟨k1, k2⟩, l1, l2⟩ := big p t hp hp2 ht ht2
  have g0 := alG_ok p t x y 0 hp hp2 ht ht2
  have g1 := al_is (.bin .eql (.var .i64 0) (.lit .i64 0)) false (by kernel_rfl) (fl (show ¬ p = 0 by omega)) g0
  by_cases h0a : x < 0
  · have q := symInt (al_is (.bin .lss (.var .i64 60) (.lit .i64 0)) true (by kernel_rfl) (tr h0a) g1) (hcs0 _ (gsT ty)) (n := 1000) (f := 32) (args := [.agg geoS.toArray, .int .i64 16, .float .f64 (60 * 512 + kI .i64), .float .f64 (61 * 512 + kI .i64), .int .i64 0]) (args' := [.agg (geoV p t).toArray, .int .i64 16, .int .i64 x, .int .i64 y, .int .i64 0]) (-1) (fun G => by kernel_rfl) (fun G ι => vs_agg (geo_vs p t x y 0 G ι) (vs_int (vs_sym rfl (vs_sym rfl (vs_int (vs_nil)))))) w hw
    rwa [show atV p t 16 x y 0 = -1 by simp [atV, place, dims, h0a]]
  have g2 := al_is (.bin .lss (.var .i64 60) (.lit .i64 0)) false (by kernel_rfl) (fl h0a) g1
  by_cases h0b : t ≤ x
  · have q := symInt (al_is (.bin .geq (.var .i64 60) (.var .i64 1)) true (by kernel_rfl) (tr h0b) g2) (hcs0 _ (gsT ty)) (n := 1000) (f := 32) (args := [.agg geoS.toArray, .int .i64 16, .float .f64 (60 * 512 + kI .i64), .float .f64 (61 * 512 + kI .i64), .int .i64 0]) (args' := [.agg (geoV p t).toArray, .int .i64 16, .int .i64 x, .int .i64 y, .int .i64 0]) (-1) (fun G => by kernel_rfl) (fun G ι => vs_agg (geo_vs p t x y 0 G ι) (vs_int (vs_sym rfl (vs_sym rfl (vs_int (vs_nil)))))) w hw
    rwa [show atV p t 16 x y 0 = -1 by simp [atV, place, dims, h0b]]
  have g3 := al_is (.bin .geq (.var .i64 60) (.var .i64 1)) false (by kernel_rfl) (fl h0b) g2
  by_cases h1a : y < 0
  · have q := symInt (al_is (.bin .lss (.var .i64 61) (.lit .i64 0)) true (by kernel_rfl) (tr h1a) g3) (hcs0 _ (gsT ty)) (n := 1000) (f := 32) (args := [.agg geoS.toArray, .int .i64 16, .float .f64 (60 * 512 + kI .i64), .float .f64 (61 * 512 + kI .i64), .int .i64 0]) (args' := [.agg (geoV p t).toArray, .int .i64 16, .int .i64 x, .int .i64 y, .int .i64 0]) (-1) (fun G => by kernel_rfl) (fun G ι => vs_agg (geo_vs p t x y 0 G ι) (vs_int (vs_sym rfl (vs_sym rfl (vs_int (vs_nil)))))) w hw
    rwa [show atV p t 16 x y 0 = -1 by simp [atV, place, dims, h1a]]
  have g4 := al_is (.bin .lss (.var .i64 61) (.lit .i64 0)) false (by kernel_rfl) (fl h1a) g3
  by_cases h1b : 2 * t + 2 ≤ y
  · have q := symInt (al_is (.bin .geq (.var .i64 61) (.var .i64 45)) true (by kernel_rfl) (tr h1b) g4) (hcs0 _ (gsT ty)) (n := 1000) (f := 32) (args := [.agg geoS.toArray, .int .i64 16, .float .f64 (60 * 512 + kI .i64), .float .f64 (61 * 512 + kI .i64), .int .i64 0]) (args' := [.agg (geoV p t).toArray, .int .i64 16, .int .i64 x, .int .i64 y, .int .i64 0]) (-1) (fun G => by kernel_rfl) (fun G ι => vs_agg (geo_vs p t x y 0 G ι) (vs_int (vs_sym rfl (vs_sym rfl (vs_int (vs_nil)))))) w hw
    rwa [show atV p t 16 x y 0 = -1 by simp [atV, place, dims, h1b]]
  have g5 := al_is (.bin .geq (.var .i64 61) (.var .i64 45)) false (by kernel_rfl) (fl h1b) g4
  have g6 := al_num .mul (.lit .i64 0) (.var .i64 1) 0 (t) 0 (by kernel_rfl) rfl rfl (v_mul (by omega) (by omega) (by omega)) g5
  have g7 := al_op .add (.lit .i64 0) (.var .i64 60) (.var .i64 60) 0 x x (by kernel_rfl) rfl rfl rfl (v_add (by omega) (by omega) (by omega)) g6
  have hx0 : 0 ≤ x * (2 * t + 2) := Int.mul_nonneg (by omega) (by omega)
  have hx1 : x * (2 * t + 2) ≤ 64 * 130 := Int.mul_le_mul (by omega) (by omega) (by omega) (by decide)
  have q := symOne env g7 (hcs0 _ (gsT ty)) (n := 1000) (f := 32) (args := [.agg geoS.toArray, .int .i64 16, .float .f64 (60 * 512 + kI .i64), .float .f64 (61 * 512 + kI .i64), .int .i64 0]) (args' := [.agg (geoV p t).toArray, .int .i64 16, .int .i64 x, .int .i64 y, .int .i64 0]) (k := .i64) (.bin .add (.var .i64 18) (.bin .add (.bin .mul (.bin .add (.bin .mul (.var .i64 60) (.var .i64 45)) (.var .i64 61)) (.lit .i64 1)) (.lit .i64 0))) (by kernel_rfl) (by kernel_rfl) (den_b (k := .i64) (a := 21 + 16 * t + 19 * p) (b := x * (2 * t + 2) + y) (r := 21 + 16 * t + 19 * p + (x * (2 * t + 2) + y)) rfl (den_b (k := .i64) (a := x * (2 * t + 2) + y) (b := 0) (r := x * (2 * t + 2) + y) (den_b (k := .i64) (a := x * (2 * t + 2) + y) (b := 1) (r := x * (2 * t + 2) + y) (den_b (k := .i64) (a := x * (2 * t + 2)) (b := y) (r := x * (2 * t + 2) + y) (den_b (k := .i64) (a := x) (b := 2 * t + 2) (r := x * (2 * t + 2)) rfl rfl (v_mul rfl (by omega) (by omega))) rfl (v_add rfl (by omega) (by omega))) rfl (v_mul (by omega) (by omega) (by omega))) rfl (v_add (by omega) (by omega) (by omega))) (v_add rfl (by omega) (by omega))) (fun G => by kernel_rfl) (fun G ι => vs_agg (geo_vs p t x y 0 G ι) (vs_int (vs_sym rfl (vs_sym rfl (vs_int (vs_nil)))))) w hw
  rwa [show atV p t 16 x y 0 = 21 + 16 * t + 19 * p + (x * (2 * t + 2) + y) by simp [atV, place, dims, base, h0a, h0b, h1a, h1b]]
theorem at18 (p t x y : Int) (hp : 1 ≤ p) (hp2 : p ≤ 256) (ht : 1 ≤ t) (ht2 : t ≤ 64) (ty : TypeId) (w : World) (hw : GOk Tryd.prog (gsT ty) w) :
    Calls Tryd.prog 32 #[.agg (geoV p t).toArray, .int .i64 18, .int .i64 x, .int .i64 y, .int .i64 0] w fun e w' => e = .returned (.int .i64 (atV p t 18 x y 0)) ∧ Quiet w w' := by
  obtain ⟨⟨r1, r2⟩, ⟨k1, k2⟩, l1, l2⟩ := big p t hp hp2 ht ht2
  have g0 := alG_ok p t x y 0 hp hp2 ht ht2
  have g1 := al_is (.bin .eql (.var .i64 0) (.lit .i64 0)) false (by kernel_rfl) (fl (show ¬ p = 0 by omega)) g0
  by_cases h0a : x < 0
  · have q := symInt (al_is (.bin .lss (.var .i64 60) (.lit .i64 0)) true (by kernel_rfl) (tr h0a) g1) (hcs0 _ (gsT ty)) (n := 1000) (f := 32) (args := [.agg geoS.toArray, .int .i64 18, .float .f64 (60 * 512 + kI .i64), .float .f64 (61 * 512 + kI .i64), .int .i64 0]) (args' := [.agg (geoV p t).toArray, .int .i64 18, .int .i64 x, .int .i64 y, .int .i64 0]) (-1) (fun G => by kernel_rfl) (fun G ι => vs_agg (geo_vs p t x y 0 G ι) (vs_int (vs_sym rfl (vs_sym rfl (vs_int (vs_nil)))))) w hw
    rwa [show atV p t 18 x y 0 = -1 by simp [atV, place, dims, h0a]]
  have g2 := al_is (.bin .lss (.var .i64 60) (.lit .i64 0)) false (by kernel_rfl) (fl h0a) g1
  by_cases h0b : 4 * t * (p + 1) + t * (2 * t + 3) ≤ x
  · have q := symInt (al_is (.bin .geq (.var .i64 60) (.var .i64 51)) true (by kernel_rfl) (tr h0b) g2) (hcs0 _ (gsT ty)) (n := 1000) (f := 32) (args := [.agg geoS.toArray, .int .i64 18, .float .f64 (60 * 512 + kI .i64), .float .f64 (61 * 512 + kI .i64), .int .i64 0]) (args' := [.agg (geoV p t).toArray, .int .i64 18, .int .i64 x, .int .i64 y, .int .i64 0]) (-1) (fun G => by kernel_rfl) (fun G ι => vs_agg (geo_vs p t x y 0 G ι) (vs_int (vs_sym rfl (vs_sym rfl (vs_int (vs_nil)))))) w hw
    rwa [show atV p t 18 x y 0 = -1 by simp [atV, place, dims, h0b]]
  have g3 := al_is (.bin .geq (.var .i64 60) (.var .i64 51)) false (by kernel_rfl) (fl h0b) g2
  by_cases h1a : y < 0
  · have q := symInt (al_is (.bin .lss (.var .i64 61) (.lit .i64 0)) true (by kernel_rfl) (tr h1a) g3) (hcs0 _ (gsT ty)) (n := 1000) (f := 32) (args := [.agg geoS.toArray, .int .i64 18, .float .f64 (60 * 512 + kI .i64), .float .f64 (61 * 512 + kI .i64), .int .i64 0]) (args' := [.agg (geoV p t).toArray, .int .i64 18, .int .i64 x, .int .i64 y, .int .i64 0]) (-1) (fun G => by kernel_rfl) (fun G ι => vs_agg (geo_vs p t x y 0 G ι) (vs_int (vs_sym rfl (vs_sym rfl (vs_int (vs_nil)))))) w hw
    rwa [show atV p t 18 x y 0 = -1 by simp [atV, place, dims, h1a]]
  have g4 := al_is (.bin .lss (.var .i64 61) (.lit .i64 0)) false (by kernel_rfl) (fl h1a) g3
  by_cases h1b : 8 ≤ y
  · have q := symInt (al_is (.bin .geq (.var .i64 61) (.lit .i64 8)) true (by kernel_rfl) (tr h1b) g4) (hcs0 _ (gsT ty)) (n := 1000) (f := 32) (args := [.agg geoS.toArray, .int .i64 18, .float .f64 (60 * 512 + kI .i64), .float .f64 (61 * 512 + kI .i64), .int .i64 0]) (args' := [.agg (geoV p t).toArray, .int .i64 18, .int .i64 x, .int .i64 y, .int .i64 0]) (-1) (fun G => by kernel_rfl) (fun G ι => vs_agg (geo_vs p t x y 0 G ι) (vs_int (vs_sym rfl (vs_sym rfl (vs_int (vs_nil)))))) w hw
    rwa [show atV p t 18 x y 0 = -1 by simp [atV, place, dims, h1b]]
  have g5 := al_is (.bin .geq (.var .i64 61) (.lit .i64 8)) false (by kernel_rfl) (fl h1b) g4
  have g6 := al_num .mul (.lit .i64 0) (.var .i64 51) 0 (4 * t * (p + 1) + t * (2 * t + 3)) 0 (by kernel_rfl) rfl rfl (v_mul (by omega) (by omega) (by omega)) g5
  have g7 := al_op .add (.lit .i64 0) (.var .i64 60) (.var .i64 60) 0 x x (by kernel_rfl) rfl rfl rfl (v_add (by omega) (by omega) (by omega)) g6
  have q := symOne env g7 (hcs0 _ (gsT ty)) (n := 1000) (f := 32) (args := [.agg geoS.toArray, .int .i64 18, .float .f64 (60 * 512 + kI .i64), .float .f64 (61 * 512 + kI .i64), .int .i64 0]) (args' := [.agg (geoV p t).toArray, .int .i64 18, .int .i64 x, .int .i64 y, .int .i64 0]) (k := .i64) (.bin .add (.var .i64 20) (.bin .add (.bin .mul (.bin .add (.bin .mul (.var .i64 60) (.lit .i64 8)) (.var .i64 61)) (.lit .i64 1)) (.lit .i64 0))) (by kernel_rfl) (by kernel_rfl) (den_b (k := .i64) (a := 21 + 16 * t + 19 * p + t * (2 * t + 2) + (4 * t * (p + 1) + t * (2 * t + 3))) (b := x * 8 + y) (r := 21 + 16 * t + 19 * p + t * (2 * t + 2) + (4 * t * (p + 1) + t * (2 * t + 3)) + (x * 8 + y)) rfl (den_b (k := .i64) (a := x * 8 + y) (b := 0) (r := x * 8 + y) (den_b (k := .i64) (a := x * 8 + y) (b := 1) (r := x * 8 + y) (den_b (k := .i64) (a := x * 8) (b := y) (r := x * 8 + y) (den_b (k := .i64) (a := x) (b := 8) (r := x * 8) rfl rfl (v_mul rfl (by omega) (by omega))) rfl (v_add rfl (by omega) (by omega))) rfl (v_mul (by omega) (by omega) (by omega))) rfl (v_add (by omega) (by omega) (by omega))) (v_add rfl (by omega) (by omega))) (fun G => by kernel_rfl) (fun G ι => vs_agg (geo_vs p t x y 0 G ι) (vs_int (vs_sym rfl (vs_sym rfl (vs_int (vs_nil)))))) w hw
  rwa [show atV p t 18 x y 0 = 21 + 16 * t + 19 * p + t * (2 * t + 2) + (4 * t * (p + 1) + t * (2 * t + 3)) + (x * 8 + y) by simp [atV, place, dims, base, h0a, h0b, h1a, h1b]]
end Go.Proofs.YtacdbgepncimgabDoor
