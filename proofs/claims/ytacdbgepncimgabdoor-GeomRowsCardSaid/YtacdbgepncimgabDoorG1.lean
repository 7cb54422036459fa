/-
  Stage 2: a geometry's numbers as symbols, and what sums and products of them come to. Conditions: 1 to 256 pages, 1 to 64 threads.
-/
import Derived.Test.YtacdbgepncimgabDoorEnv2
namespace Go.Proofs.YtacdbgepncimgabDoor
open Go.Ev Go.RowKit
set_option maxRecDepth 100000

theorem wi64 {x : Int} (h0 : -9223372036854775808 ≤ x) (h1 : x < 9223372036854775808) : IntKind.i64.wrap x = x := by
  simp only [IntKind.wrap, IntKind.bits, IntKind.signed]
  simp
  split <;> omega
theorem v_add {x y r : Int} (h : x + y = r) (h1 : -9223372036854775808 ≤ r) (h2 : r < 9223372036854775808) : vBin .add .i64 x y = some (.int .i64 r) := by
  subst h
  show some (Value.int .i64 (IntKind.i64.wrap (x + y))) = _
  rw [wi64 h1 h2]
theorem v_mul {x y r : Int} (h : x * y = r) (h1 : -9223372036854775808 ≤ r) (h2 : r < 9223372036854775808) : vBin .mul .i64 x y = some (.int .i64 r) := by
  subst h
  show some (Value.int .i64 (IntKind.i64.wrap (x * y))) = _
  rw [wi64 h1 h2]
theorem den_b {S : Sy} {A B : Tm} {a b r : Int} {k : IntKind} {op : BinOp} (hA : A.den S = some [a]) (hB : B.den S = some [b]) (h : vBin op A.kd a b = some (.int k r)) : (Tm.bin op A B).den S = some [r] := by
  simp only [Tm.den, hA, hB, h, numV]
theorem den_c {S : Sy} {A B : Tm} {a b : Int} {r : Bool} {op : BinOp} (hA : A.den S = some [a]) (hB : B.den S = some [b]) (h : vBin op A.kd a b = some (.bool r)) : (Tm.bin op A B).den S = some [b2i r] := by
  simp only [Tm.den, hA, hB, h, numV]
theorem tr {p : Prop} [Decidable p] (h : p) : some [b2i (decide p)] = some [b2i true] := by rw [decide_eq_true h]
theorem fl {p : Prop} [Decidable p] (h : ¬ p) : some [b2i (decide p)] = some [b2i false] := by rw [decide_eq_false h]
theorem al_op {S : Sy} {al : List (Nat × Value)} (op : BinOp) (A B U : Tm) (a b r : Int) (he : ((Tm.bin op A B).ok && U.ok && Nat.beq (cK (Tm.bin op A B).enc) (cK U.enc) && (isBc U.enc == isBc (Tm.bin op A B).enc)) = true) (hA : A.den S = some [a]) (hB : B.den S = some [b]) (hU : U.den S = some [r])
    (hv : vBin op A.kd a b = some (.int .i64 r)) (ha : AlOk S al) : AlOk S (((Tm.bin op A B).enc, .float .f64 U.enc) :: al) := by
  simp only [Bool.and_eq_true] at he
  obtain ⟨⟨⟨h1, h2⟩, h3⟩, h4⟩ := he
  refine al_sym (Tm.bin op A B) U ?_ (den_b hA hB hv) hU ha
  simp only [Bool.and_eq_true]
  exact ⟨⟨⟨⟨⟨Nat.beq_refl _, h1⟩, Nat.beq_refl _⟩, h2⟩, h3⟩, h4⟩
theorem al_num {S : Sy} {al : List (Nat × Value)} (op : BinOp) (A B : Tm) (a b n : Int) (he : ((Tm.bin op A B).ok && Nat.beq (cK (Tm.bin op A B).enc) (kI .i64) && !isBc (Tm.bin op A B).enc) = true) (hA : A.den S = some [a]) (hB : B.den S = some [b])
    (hv : vBin op A.kd a b = some (.int .i64 n)) (ha : AlOk S al) : AlOk S (((Tm.bin op A B).enc, .int .i64 n) :: al) := by
  simp only [Bool.and_eq_true] at he
  refine al_int (Tm.bin op A B) .i64 n ?_ (den_b hA hB hv) ha
  simp only [Bool.and_eq_true]
  exact ⟨⟨⟨Nat.beq_refl _, he.1.1⟩, he.1.2⟩, he.2⟩
/-- What nonlinear numbers come to at most. -/
theorem big (p t : Int) (hp : 1 ≤ p) (hp2 : p ≤ 256) (ht : 1 ≤ t) (ht2 : t ≤ 64) : (4 ≤ t * (2 * t + 2) ∧ t * (2 * t + 2) ≤ 8320) ∧ (8 ≤ 4 * t * (p + 1) ∧ 4 * t * (p + 1) ≤ 65792) ∧ (5 ≤ t * (2 * t + 3) ∧ t * (2 * t + 3) ≤ 8384) := by
  refine ⟨⟨?_, ?_⟩, ⟨?_, ?_⟩, ?_, ?_⟩
  · have := Int.mul_le_mul ht (show (4 : Int) ≤ 2 * t + 2 by omega) (by decide) (by omega); omega
  · have := Int.mul_le_mul ht2 (show 2 * t + 2 ≤ 130 by omega) (by omega) (by decide); omega
  · have := Int.mul_le_mul (show (4 : Int) ≤ 4 * t by omega) (show (2 : Int) ≤ p + 1 by omega) (by decide) (by omega); omega
  · have := Int.mul_le_mul (show 4 * t ≤ 256 by omega) (show p + 1 ≤ 257 by omega) (by omega) (by decide); omega
  · have := Int.mul_le_mul ht (show (5 : Int) ≤ 2 * t + 3 by omega) (by decide) (by omega); omega
  · have := Int.mul_le_mul ht2 (show 2 * t + 3 ≤ 131 by omega) (by omega) (by decide); omega
def gρ (p t x y z : Int) : Nat → Int
  | 0 => p
  | 1 => t
  | 9 => 21 + t
  | 10 => 21 + t + p
  | 11 => 21 + t + 2 * p
  | 12 => 21 + t + 3 * p
  | 13 => 21 + t + 11 * p
  | 14 => 21 + t + 19 * p
  | 15 => 21 + 9 * t + 19 * p
  | 16 => 21 + 13 * t + 19 * p
  | 17 => 21 + 15 * t + 19 * p
  | 18 => 21 + 16 * t + 19 * p
  | 19 => 21 + 16 * t + 19 * p + t * (2 * t + 2)
  | 20 => 21 + 16 * t + 19 * p + t * (2 * t + 2) + (4 * t * (p + 1) + t * (2 * t + 3))
  | 21 => 21 + 16 * t + 19 * p + t * (2 * t + 2) + (4 * t * (p + 1) + t * (2 * t + 3)) + 8 * (4 * t * (p + 1) + t * (2 * t + 3))
  | 40 => 8 * p
  | 41 => 4 * t
  | 42 => 8 * t
  | 43 => 2 * t
  | 45 => 2 * t + 2
  | 46 => t * (2 * t + 2)
  | 47 => p + 1
  | 48 => 4 * t * (p + 1)
  | 49 => 2 * t + 3
  | 50 => t * (2 * t + 3)
  | 51 => 4 * t * (p + 1) + t * (2 * t + 3)
  | 52 => 8 * (4 * t * (p + 1) + t * (2 * t + 3))
  | 60 => x
  | 61 => y
  | 62 => z
  | _ => 0
/-- How many there are of what a region's words are told by. -/
def dims (p t : Int) : Int → List Int
  | 2 => [5]
  | 3 => [9]
  | 5 => [4]
  | 6 => [t]
  | 7 => [p]
  | 8 => [p]
  | 9 => [p]
  | 10 => [8 * p]
  | 11 => [8 * p]
  | 12 => [t, 4, 2]
  | 13 => [t, 4]
  | 14 => [t, 2]
  | 15 => [t]
  | 16 => [t, 2 * t + 2]
  | 17 => [4 * t * (p + 1) + t * (2 * t + 3)]
  | 18 => [4 * t * (p + 1) + t * (2 * t + 3), 8]
  | _ => []
def base (p t : Int) : Int → Int
  | 0 => 0
  | 1 => 1
  | 2 => 2
  | 3 => 7
  | 4 => 16
  | 5 => 17
  | 6 => 21
  | 7 => 21 + t
  | 8 => 21 + t + p
  | 9 => 21 + t + 2 * p
  | 10 => 21 + t + 3 * p
  | 11 => 21 + t + 11 * p
  | 12 => 21 + t + 19 * p
  | 13 => 21 + 9 * t + 19 * p
  | 14 => 21 + 13 * t + 19 * p
  | 15 => 21 + 15 * t + 19 * p
  | 16 => 21 + 16 * t + 19 * p
  | 17 => 21 + 16 * t + 19 * p + t * (2 * t + 2)
  | 18 => 21 + 16 * t + 19 * p + t * (2 * t + 2) + (4 * t * (p + 1) + t * (2 * t + 3))
  | 19 => 21 + 16 * t + 19 * p + t * (2 * t + 2) + (4 * t * (p + 1) + t * (2 * t + 3)) + 8 * (4 * t * (p + 1) + t * (2 * t + 3))
  | _ => 0
def place (b : Int) : List Int → Int → Int → Int → Int
  | [], _, _, _ => b
  | [m], x, _, _ => if x < 0 ∨ m ≤ x then -1 else b + x
  | [m, n], x, y, _ => if x < 0 ∨ m ≤ x ∨ y < 0 ∨ n ≤ y then -1 else b + (x * n + y)
  | [m, n, k], x, y, z => if x < 0 ∨ m ≤ x ∨ y < 0 ∨ n ≤ y ∨ z < 0 ∨ k ≤ z then -1 else b + ((x * n + y) * k + z)
  | _, _, _, _ => 0
/-- The number of a region's word. -/
def atV (p t r x y z : Int) : Int := place (base p t r) (dims p t r) x y z
def Φg : Nat → List Int → Int
  | 90, [] => 1
  | 100, [p, t, _, _, _, _, _, _, _, _, _, _, _, _, _, _, _, _, _, _, _, _, r, x, y, z] => atV p t r x y z
  | _, _ => 0
def gS (p t x y z : Int) : Sy := ⟨gρ p t x y z, Φg⟩
def alG : List (Nat × Value) := [((Tm.bin .mul (.lit .i64 1) (.var .i64 1)).enc, .float .f64 (Tm.var .i64 1).enc),
  ((Tm.bin .mul (.var .i64 1) (.lit .i64 1)).enc, .float .f64 (Tm.var .i64 1).enc),
  ((Tm.bin .mul (.lit .i64 1) (.var .i64 0)).enc, .float .f64 (Tm.var .i64 0).enc),
  ((Tm.bin .mul (.var .i64 0) (.lit .i64 1)).enc, .float .f64 (Tm.var .i64 0).enc),
  ((Tm.bin .mul (.var .i64 0) (.lit .i64 8)).enc, .float .f64 (Tm.var .i64 40).enc),
  ((Tm.bin .mul (.lit .i64 1) (.var .i64 40)).enc, .float .f64 (Tm.var .i64 40).enc),
  ((Tm.bin .mul (.var .i64 40) (.lit .i64 1)).enc, .float .f64 (Tm.var .i64 40).enc),
  ((Tm.bin .mul (.var .i64 1) (.lit .i64 4)).enc, .float .f64 (Tm.var .i64 41).enc),
  ((Tm.bin .mul (.var .i64 41) (.lit .i64 2)).enc, .float .f64 (Tm.var .i64 42).enc),
  ((Tm.bin .mul (.var .i64 41) (.lit .i64 1)).enc, .float .f64 (Tm.var .i64 41).enc),
  ((Tm.bin .mul (.var .i64 1) (.lit .i64 2)).enc, .float .f64 (Tm.var .i64 43).enc),
  ((Tm.bin .mul (.var .i64 43) (.lit .i64 1)).enc, .float .f64 (Tm.var .i64 43).enc),
  ((Tm.bin .mul (.lit .i64 2) (.var .i64 1)).enc, .float .f64 (Tm.var .i64 43).enc),
  ((Tm.bin .add (.var .i64 43) (.lit .i64 2)).enc, .float .f64 (Tm.var .i64 45).enc),
  ((Tm.bin .mul (.var .i64 1) (.var .i64 45)).enc, .float .f64 (Tm.var .i64 46).enc),
  ((Tm.bin .mul (.var .i64 46) (.lit .i64 1)).enc, .float .f64 (Tm.var .i64 46).enc),
  ((Tm.bin .add (.var .i64 0) (.lit .i64 1)).enc, .float .f64 (Tm.var .i64 47).enc),
  ((Tm.bin .mul (.var .i64 41) (.var .i64 47)).enc, .float .f64 (Tm.var .i64 48).enc),
  ((Tm.bin .add (.var .i64 43) (.lit .i64 3)).enc, .float .f64 (Tm.var .i64 49).enc),
  ((Tm.bin .mul (.var .i64 1) (.var .i64 49)).enc, .float .f64 (Tm.var .i64 50).enc),
  ((Tm.bin .add (.var .i64 48) (.var .i64 50)).enc, .float .f64 (Tm.var .i64 51).enc),
  ((Tm.bin .mul (.lit .i64 1) (.var .i64 51)).enc, .float .f64 (Tm.var .i64 51).enc),
  ((Tm.bin .mul (.var .i64 51) (.lit .i64 1)).enc, .float .f64 (Tm.var .i64 51).enc),
  ((Tm.bin .mul (.var .i64 51) (.lit .i64 8)).enc, .float .f64 (Tm.var .i64 52).enc),
  ((Tm.bin .mul (.var .i64 52) (.lit .i64 1)).enc, .float .f64 (Tm.var .i64 52).enc),
  ((Tm.bin .add (.lit .i64 21) (.var .i64 1)).enc, .float .f64 (Tm.var .i64 9).enc),
  ((Tm.bin .add (.var .i64 9) (.var .i64 0)).enc, .float .f64 (Tm.var .i64 10).enc),
  ((Tm.bin .add (.var .i64 10) (.var .i64 0)).enc, .float .f64 (Tm.var .i64 11).enc),
  ((Tm.bin .add (.var .i64 11) (.var .i64 0)).enc, .float .f64 (Tm.var .i64 12).enc),
  ((Tm.bin .add (.var .i64 12) (.var .i64 40)).enc, .float .f64 (Tm.var .i64 13).enc),
  ((Tm.bin .add (.var .i64 13) (.var .i64 40)).enc, .float .f64 (Tm.var .i64 14).enc),
  ((Tm.bin .add (.var .i64 14) (.var .i64 42)).enc, .float .f64 (Tm.var .i64 15).enc),
  ((Tm.bin .add (.var .i64 15) (.var .i64 41)).enc, .float .f64 (Tm.var .i64 16).enc),
  ((Tm.bin .add (.var .i64 16) (.var .i64 43)).enc, .float .f64 (Tm.var .i64 17).enc),
  ((Tm.bin .add (.var .i64 17) (.var .i64 1)).enc, .float .f64 (Tm.var .i64 18).enc),
  ((Tm.bin .add (.var .i64 18) (.var .i64 46)).enc, .float .f64 (Tm.var .i64 19).enc),
  ((Tm.bin .add (.var .i64 19) (.var .i64 51)).enc, .float .f64 (Tm.var .i64 20).enc),
  ((Tm.bin .add (.var .i64 20) (.var .i64 52)).enc, .float .f64 (Tm.var .i64 21).enc)]
theorem alG_ok (p t x y z : Int) (hp : 1 ≤ p) (hp2 : p ≤ 256) (ht : 1 ≤ t) (ht2 : t ≤ 64) : AlOk (gS p t x y z) alG := by
  obtain ⟨⟨r1, r2⟩, ⟨k1, k2⟩, l1, l2⟩ := big p t hp hp2 ht ht2
  exact al_op .mul (.lit .i64 1) (.var .i64 1) (.var .i64 1) (1) (t) (t) (by kernel_rfl) rfl rfl rfl (v_mul (by omega) (by omega) (by omega)) (
    al_op .mul (.var .i64 1) (.lit .i64 1) (.var .i64 1) (t) (1) (t) (by kernel_rfl) rfl rfl rfl (v_mul (by omega) (by omega) (by omega)) (
    al_op .mul (.lit .i64 1) (.var .i64 0) (.var .i64 0) (1) (p) (p) (by kernel_rfl) rfl rfl rfl (v_mul (by omega) (by omega) (by omega)) (
    al_op .mul (.var .i64 0) (.lit .i64 1) (.var .i64 0) (p) (1) (p) (by kernel_rfl) rfl rfl rfl (v_mul (by omega) (by omega) (by omega)) (
    al_op .mul (.var .i64 0) (.lit .i64 8) (.var .i64 40) (p) (8) (8 * p) (by kernel_rfl) rfl rfl rfl (v_mul (by omega) (by omega) (by omega)) (
    al_op .mul (.lit .i64 1) (.var .i64 40) (.var .i64 40) (1) (8 * p) (8 * p) (by kernel_rfl) rfl rfl rfl (v_mul (by omega) (by omega) (by omega)) (
    al_op .mul (.var .i64 40) (.lit .i64 1) (.var .i64 40) (8 * p) (1) (8 * p) (by kernel_rfl) rfl rfl rfl (v_mul (by omega) (by omega) (by omega)) (
    al_op .mul (.var .i64 1) (.lit .i64 4) (.var .i64 41) (t) (4) (4 * t) (by kernel_rfl) rfl rfl rfl (v_mul (by omega) (by omega) (by omega)) (
    al_op .mul (.var .i64 41) (.lit .i64 2) (.var .i64 42) (4 * t) (2) (8 * t) (by kernel_rfl) rfl rfl rfl (v_mul (by omega) (by omega) (by omega)) (
    al_op .mul (.var .i64 41) (.lit .i64 1) (.var .i64 41) (4 * t) (1) (4 * t) (by kernel_rfl) rfl rfl rfl (v_mul (by omega) (by omega) (by omega)) (
    al_op .mul (.var .i64 1) (.lit .i64 2) (.var .i64 43) (t) (2) (2 * t) (by kernel_rfl) rfl rfl rfl (v_mul (by omega) (by omega) (by omega)) (
    al_op .mul (.var .i64 43) (.lit .i64 1) (.var .i64 43) (2 * t) (1) (2 * t) (by kernel_rfl) rfl rfl rfl (v_mul (by omega) (by omega) (by omega)) (
    al_op .mul (.lit .i64 2) (.var .i64 1) (.var .i64 43) (2) (t) (2 * t) (by kernel_rfl) rfl rfl rfl (v_mul (by omega) (by omega) (by omega)) (
    al_op .add (.var .i64 43) (.lit .i64 2) (.var .i64 45) (2 * t) (2) (2 * t + 2) (by kernel_rfl) rfl rfl rfl (v_add (by omega) (by omega) (by omega)) (
    al_op .mul (.var .i64 1) (.var .i64 45) (.var .i64 46) (t) (2 * t + 2) (t * (2 * t + 2)) (by kernel_rfl) rfl rfl rfl (v_mul (by rfl) (by omega) (by omega)) (
    al_op .mul (.var .i64 46) (.lit .i64 1) (.var .i64 46) (t * (2 * t + 2)) (1) (t * (2 * t + 2)) (by kernel_rfl) rfl rfl rfl (v_mul (by omega) (by omega) (by omega)) (
    al_op .add (.var .i64 0) (.lit .i64 1) (.var .i64 47) (p) (1) (p + 1) (by kernel_rfl) rfl rfl rfl (v_add (by omega) (by omega) (by omega)) (
    al_op .mul (.var .i64 41) (.var .i64 47) (.var .i64 48) (4 * t) (p + 1) (4 * t * (p + 1)) (by kernel_rfl) rfl rfl rfl (v_mul (by rfl) (by omega) (by omega)) (
    al_op .add (.var .i64 43) (.lit .i64 3) (.var .i64 49) (2 * t) (3) (2 * t + 3) (by kernel_rfl) rfl rfl rfl (v_add (by omega) (by omega) (by omega)) (
    al_op .mul (.var .i64 1) (.var .i64 49) (.var .i64 50) (t) (2 * t + 3) (t * (2 * t + 3)) (by kernel_rfl) rfl rfl rfl (v_mul (by rfl) (by omega) (by omega)) (
    al_op .add (.var .i64 48) (.var .i64 50) (.var .i64 51) (4 * t * (p + 1)) (t * (2 * t + 3)) (4 * t * (p + 1) + t * (2 * t + 3)) (by kernel_rfl) rfl rfl rfl (v_add (by omega) (by omega) (by omega)) (
    al_op .mul (.lit .i64 1) (.var .i64 51) (.var .i64 51) (1) (4 * t * (p + 1) + t * (2 * t + 3)) (4 * t * (p + 1) + t * (2 * t + 3)) (by kernel_rfl) rfl rfl rfl (v_mul (by omega) (by omega) (by omega)) (
    al_op .mul (.var .i64 51) (.lit .i64 1) (.var .i64 51) (4 * t * (p + 1) + t * (2 * t + 3)) (1) (4 * t * (p + 1) + t * (2 * t + 3)) (by kernel_rfl) rfl rfl rfl (v_mul (by omega) (by omega) (by omega)) (
    al_op .mul (.var .i64 51) (.lit .i64 8) (.var .i64 52) (4 * t * (p + 1) + t * (2 * t + 3)) (8) (8 * (4 * t * (p + 1) + t * (2 * t + 3))) (by kernel_rfl) rfl rfl rfl (v_mul (by omega) (by omega) (by omega)) (
    al_op .mul (.var .i64 52) (.lit .i64 1) (.var .i64 52) (8 * (4 * t * (p + 1) + t * (2 * t + 3))) (1) (8 * (4 * t * (p + 1) + t * (2 * t + 3))) (by kernel_rfl) rfl rfl rfl (v_mul (by omega) (by omega) (by omega)) (
    al_op .add (.lit .i64 21) (.var .i64 1) (.var .i64 9) (21) (t) (21 + t) (by kernel_rfl) rfl rfl rfl (v_add (by omega) (by omega) (by omega)) (
    al_op .add (.var .i64 9) (.var .i64 0) (.var .i64 10) (21 + t) (p) (21 + t + p) (by kernel_rfl) rfl rfl rfl (v_add (by omega) (by omega) (by omega)) (
    al_op .add (.var .i64 10) (.var .i64 0) (.var .i64 11) (21 + t + p) (p) (21 + t + 2 * p) (by kernel_rfl) rfl rfl rfl (v_add (by omega) (by omega) (by omega)) (
    al_op .add (.var .i64 11) (.var .i64 0) (.var .i64 12) (21 + t + 2 * p) (p) (21 + t + 3 * p) (by kernel_rfl) rfl rfl rfl (v_add (by omega) (by omega) (by omega)) (
    al_op .add (.var .i64 12) (.var .i64 40) (.var .i64 13) (21 + t + 3 * p) (8 * p) (21 + t + 11 * p) (by kernel_rfl) rfl rfl rfl (v_add (by omega) (by omega) (by omega)) (
    al_op .add (.var .i64 13) (.var .i64 40) (.var .i64 14) (21 + t + 11 * p) (8 * p) (21 + t + 19 * p) (by kernel_rfl) rfl rfl rfl (v_add (by omega) (by omega) (by omega)) (
    al_op .add (.var .i64 14) (.var .i64 42) (.var .i64 15) (21 + t + 19 * p) (8 * t) (21 + 9 * t + 19 * p) (by kernel_rfl) rfl rfl rfl (v_add (by omega) (by omega) (by omega)) (
    al_op .add (.var .i64 15) (.var .i64 41) (.var .i64 16) (21 + 9 * t + 19 * p) (4 * t) (21 + 13 * t + 19 * p) (by kernel_rfl) rfl rfl rfl (v_add (by omega) (by omega) (by omega)) (
    al_op .add (.var .i64 16) (.var .i64 43) (.var .i64 17) (21 + 13 * t + 19 * p) (2 * t) (21 + 15 * t + 19 * p) (by kernel_rfl) rfl rfl rfl (v_add (by omega) (by omega) (by omega)) (
    al_op .add (.var .i64 17) (.var .i64 1) (.var .i64 18) (21 + 15 * t + 19 * p) (t) (21 + 16 * t + 19 * p) (by kernel_rfl) rfl rfl rfl (v_add (by omega) (by omega) (by omega)) (
    al_op .add (.var .i64 18) (.var .i64 46) (.var .i64 19) (21 + 16 * t + 19 * p) (t * (2 * t + 2)) (21 + 16 * t + 19 * p + t * (2 * t + 2)) (by kernel_rfl) rfl rfl rfl (v_add (by omega) (by omega) (by omega)) (
    al_op .add (.var .i64 19) (.var .i64 51) (.var .i64 20) (21 + 16 * t + 19 * p + t * (2 * t + 2)) (4 * t * (p + 1) + t * (2 * t + 3)) (21 + 16 * t + 19 * p + t * (2 * t + 2) + (4 * t * (p + 1) + t * (2 * t + 3))) (by kernel_rfl) rfl rfl rfl (v_add (by omega) (by omega) (by omega)) (
    al_op .add (.var .i64 20) (.var .i64 52) (.var .i64 21) (21 + 16 * t + 19 * p + t * (2 * t + 2) + (4 * t * (p + 1) + t * (2 * t + 3))) (8 * (4 * t * (p + 1) + t * (2 * t + 3))) (21 + 16 * t + 19 * p + t * (2 * t + 2) + (4 * t * (p + 1) + t * (2 * t + 3)) + 8 * (4 * t * (p + 1) + t * (2 * t + 3))) (by kernel_rfl) rfl rfl rfl (v_add (by omega) (by omega) (by omega)) (
    AlOk.nil _))))))))))))))))))))))))))))))))))))))
theorem symInt {gs : Gs} {al : List (Nat × Value)} {S : Sy} (ha : AlOk S al) {cs : List Ctr} (hcs : ∀ c ∈ cs, CtrOk Tryd.prog S gs c) {n : Nat} {f : FuncId} {args args' : List Value} (r : Int)
    (hrun : ∀ G, outV (runS Tryd.prog (ftOf Tryd.prog) ha cs G n (.fn f args.toArray) (H0g Tryd.prog gs)) = some (.int .i64 r)) (hrel : ∀ G ι, VsOk S G ι args args') (w : World) (hw : GOk Tryd.prog gs w) :
    Calls Tryd.prog f args'.toArray w fun e w' => e = .returned (.int .i64 r) ∧ Quiet w w' :=
  symRun env ha hcs (res := [.one (.int .i64)]) (vs := [.int .i64 r]) (rcs := [lit .i64 r]) (rs := [r]) (by simp [codesP, leafC, vcode, lit_B, lit_K]) ⟨ev_lit S .i64 r, trivial⟩ hrun hrel w hw
theorem hcs0 (S : Sy) (gs : Gs) : ∀ c ∈ ([] : List Ctr), CtrOk Tryd.prog S gs c := fun c hc => by simp at hc
/-- A geometry, as symbols and as it is. -/
def geoS : List Value := [.float .f64 (0 * 512 + kI .i64), .float .f64 (1 * 512 + kI .i64), .int .i64 0, .int .i64 1, .int .i64 2, .int .i64 7, .int .i64 16, .int .i64 17, .int .i64 21, .float .f64 (9 * 512 + kI .i64), .float .f64 (10 * 512 + kI .i64), .float .f64 (11 * 512 + kI .i64), .float .f64 (12 * 512 + kI .i64), .float .f64 (13 * 512 + kI .i64), .float .f64 (14 * 512 + kI .i64), .float .f64 (15 * 512 + kI .i64), .float .f64 (16 * 512 + kI .i64), .float .f64 (17 * 512 + kI .i64), .float .f64 (18 * 512 + kI .i64), .float .f64 (19 * 512 + kI .i64), .float .f64 (20 * 512 + kI .i64), .float .f64 (21 * 512 + kI .i64)]
def geoV (p t : Int) : List Value := [.int .i64 p, .int .i64 t, .int .i64 0, .int .i64 1, .int .i64 2, .int .i64 7, .int .i64 16, .int .i64 17, .int .i64 21, .int .i64 (21 + t), .int .i64 (21 + t + p), .int .i64 (21 + t + 2 * p), .int .i64 (21 + t + 3 * p), .int .i64 (21 + t + 11 * p), .int .i64 (21 + t + 19 * p), .int .i64 (21 + 9 * t + 19 * p), .int .i64 (21 + 13 * t + 19 * p), .int .i64 (21 + 15 * t + 19 * p), .int .i64 (21 + 16 * t + 19 * p), .int .i64 (21 + 16 * t + 19 * p + t * (2 * t + 2)), .int .i64 (21 + 16 * t + 19 * p + t * (2 * t + 2) + (4 * t * (p + 1) + t * (2 * t + 3))), .int .i64 (21 + 16 * t + 19 * p + t * (2 * t + 2) + (4 * t * (p + 1) + t * (2 * t + 3)) + 8 * (4 * t * (p + 1) + t * (2 * t + 3)))]
theorem geo_vs (p t x y z : Int) (G : Nat → Option Obj) (ι : Inj) : VsOk (gS p t x y z) G ι geoS (geoV p t) :=
  vs_sym rfl (vs_sym rfl (vs_int (vs_int (vs_int (vs_int (vs_int (vs_int (vs_int (vs_sym rfl (vs_sym rfl (vs_sym rfl (vs_sym rfl (vs_sym rfl (vs_sym rfl (vs_sym rfl (vs_sym rfl (vs_sym rfl (vs_sym rfl (vs_sym rfl (vs_sym rfl (vs_sym rfl (vs_nil))))))))))))))))))))))
end Go.Proofs.YtacdbgepncimgabDoor
