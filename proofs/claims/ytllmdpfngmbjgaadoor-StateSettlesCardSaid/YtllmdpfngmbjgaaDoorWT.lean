/-
  Fields of words as terms: what they stand for. No condition but those each says.
-/
import Derived.Test.YtllmdpfngmbjgaaDoorEvR
import Derived.Test.YtllmdpfngmbjgaaDoorWM
namespace Go.Ev
theorem vb_and (x m : Int) (n : Nat) (hm : m = 2 ^ n - 1) (hn : n ≤ 64) : vBin .and .u64 x m = some (.int .u64 (x % 2 ^ n)) := by
  show some (Value.int .u64 (IntKind.u64.wrap (((BitVec.ofInt 64 x) &&& (BitVec.ofInt 64 m)).toNat : Int))) = _
  rw [u64_and x m n hm hn]
theorem vb_or (a b : Int) (n : Nat) (h1 : 0 ≤ a) (h2 : a < 2 ^ n) (h3 : 0 ≤ b) (h4 : b % 2 ^ n = 0) (h5 : a + b < 18446744073709551616) : vBin .or .u64 a b = some (.int .u64 (a + b)) := by
  show some (Value.int .u64 (IntKind.u64.wrap (((BitVec.ofInt 64 a) ||| (BitVec.ofInt 64 b)).toNat : Int))) = _
  rw [u64_or a b n h1 h2 h3 h4 h5]
theorem vb_shr (x : Int) (s : Nat) (hs : s < 64) : vBin .shr .u64 x s = some (.int .u64 (x / 2 ^ s)) := by
  unfold vBin
  dsimp only
  rw [if_neg (by omega), show min (Int.toNat (s : Int)) IntKind.u64.bits = s by simp [IntKind.bits]; omega, fdiv_pow]
theorem vb_shl (x : Int) (s : Nat) (hs : s < 64) (h1 : 0 ≤ x * 2 ^ s) (h2 : x * 2 ^ s < 18446744073709551616) : vBin .shl .u64 x s = some (.int .u64 (x * 2 ^ s)) := by
  unfold vBin
  dsimp only
  rw [if_neg (by omega), show min (Int.toNat (s : Int)) IntKind.u64.bits = s by simp [IntKind.bits]; omega, wrap_u64, Int.emod_eq_of_lt h1 h2]
theorem den_bin {S : Sy} {A B : Tm} {a b r : Int} {k : IntKind} {op : BinOp} (hA : A.den S = some [a]) (hB : B.den S = some [b]) (h : vBin op A.kd a b = some (.int k r)) : (Tm.bin op A B).den S = some [r] := by
  simp only [Tm.den, hA, hB, h, numV]
theorem den_cmp {S : Sy} {A B : Tm} {a b : Int} {r : Bool} {op : BinOp} (hA : A.den S = some [a]) (hB : B.den S = some [b]) (h : vBin op A.kd a b = some (.bool r)) : (Tm.bin op A B).den S = some [b2i r] := by
  simp only [Tm.den, hA, hB, h, numV]
theorem den_lit {S : Sy} (k : IntKind) (n : Int) : (Tm.lit k n).den S = some [n] := rfl
theorem den_conv {S : Sy} {X : Tm} {x y : Int} (k : IntKind) (hx : X.den S = some [x]) (h : k.wrap x = y) : (Tm.conv k X).den S = some [y] := by
  simp only [Tm.den, hx, h]
/-- A field laid where it stands. -/
theorem den_lay {S : Sy} {X : Tm} {x : Int} (hx : X.den S = some [x]) (m : Int) (n s : Nat) (hm : m = 2 ^ n - 1) (hn : n ≤ 64) (hs : s < 64) (hns : n + s ≤ 64) :
    (Tm.bin .shl (.bin .and (.conv .u64 X) (.lit .u64 m)) (.lit .u64 s)).den S = some [x % 2 ^ n * 2 ^ s] := by
  have h1 : (0 : Int) < 2 ^ n := by exact_mod_cast Nat.two_pow_pos n
  have h2 : (0 : Int) < 2 ^ s := by exact_mod_cast Nat.two_pow_pos s
  have h3 := Int.emod_nonneg x (show (2 ^ n : Int) ≠ 0 by omega)
  have h4 := Int.emod_lt_of_pos x h1
  have h5 : (2 ^ n * 2 ^ s : Int) ≤ 2 ^ 64 := by rw [← Int.pow_add]; exact_mod_cast Nat.pow_le_pow_right (by decide) hns
  have h6 : x % 2 ^ n * 2 ^ s < 2 ^ n * 2 ^ s := Int.mul_lt_mul_of_pos_right h4 h2
  have h7 : 0 ≤ x % 2 ^ n * 2 ^ s := Int.mul_nonneg h3 (by omega)
  have h64 : (2 : Int) ^ 64 = 18446744073709551616 := by decide
  have hc : (IntKind.u64.wrap x) % 2 ^ n = x % 2 ^ n := by
    rw [wrap_u64, ← h64]
    exact Int.emod_emod_of_dvd _ (by exact_mod_cast Nat.pow_dvd_pow 2 hn)
  refine den_bin (k := .u64) (den_bin (k := .u64) (den_conv .u64 hx rfl) (den_lit _ _) (vb_and _ m n hm hn)) (den_lit _ _) ?_
  rw [hc]
  exact vb_shl _ s hs h7 (by omega)
/-- Two that do not overlap. -/
theorem den_or {S : Sy} {A B : Tm} {a b : Int} (n : Nat) (hA : A.den S = some [a]) (hB : B.den S = some [b]) (hk : A.kd = .u64) (h1 : 0 ≤ a) (h2 : a < 2 ^ n) (h3 : 0 ≤ b) (h4 : b % 2 ^ n = 0) (h5 : a + b < 18446744073709551616) :
    (Tm.bin .or A B).den S = some [a + b] :=
  den_bin (k := .u64) hA hB (by rw [hk]; exact vb_or a b n h1 h2 h3 h4 h5)
theorem den_or3 {S : Sy} {A B : Tm} (m v c : Int) (hA : A.den S = some [m + v * 4294967296]) (hB : B.den S = some [c * 256]) (hk : A.kd = .u64) (hm : 0 ≤ m) (hm2 : m < 256) (hv : 0 ≤ v) (hv2 : v < 4294967296) (hc : 0 ≤ c) (hc2 : c < 16777216) :
    (Tm.bin .or A B).den S = some [m + v * 4294967296 + c * 256] :=
  den_bin (k := .u64) hA hB (by
    rw [hk]
    show some (Value.int .u64 (IntKind.u64.wrap (((BitVec.ofInt 64 (m + v * 4294967296)) ||| (BitVec.ofInt 64 (c * 256))).toNat : Int))) = _
    rw [u64_or3 m v c hm hm2 hv hv2 hc hc2])
/-- A field cut out. -/
theorem den_and {S : Sy} {X : Tm} {x : Int} (hx : X.den S = some [x]) (hk : X.kd = .u64) (m : Int) (n s : Nat) (hm : m = 2 ^ n - 1) (hn : n ≤ 64) (hs : s < 64) :
    (Tm.bin .and (.bin .shr X (.lit .u64 s)) (.lit .u64 m)).den S = some [x / 2 ^ s % 2 ^ n] :=
  den_bin (k := .u64) (den_bin (k := .u64) hx (den_lit _ _) (by rw [hk]; exact vb_shr x s hs)) (den_lit _ _) (by
    show vBin .and X.kd _ _ = _
    rw [hk]
    exact vb_and _ m n hm hn)
theorem den_add {S : Sy} {A B : Tm} {a b : Int} (hA : A.den S = some [a]) (hB : B.den S = some [b]) (hk : A.kd = .u64) (h1 : 0 ≤ a + b) (h2 : a + b < 18446744073709551616) : (Tm.bin .add A B).den S = some [a + b] :=
  den_bin (k := .u64) hA hB (by rw [hk]; show some (Value.int .u64 (IntKind.u64.wrap (a + b))) = _; rw [wrap_u64, Int.emod_eq_of_lt h1 h2])
/-- The lowest bits, by a remainder. -/
theorem den_low {S : Sy} {X : Tm} {x : Int} (hx : X.den S = some [x]) (m : Int) (hm : 0 < m) (hd : (18446744073709551616 : Int) % m = 0) : (Tm.bin .rem (.conv .u64 X) (.lit .u64 m)).den S = some [x % m] := by
  refine den_bin (k := .u64) (den_conv .u64 hx rfl) (den_lit _ _) ?_
  show (if m = 0 then none else some (Value.int .u64 ((IntKind.u64.wrap x).tmod m))) = _
  rw [if_neg (by omega), wrap_u64, Int.tmod_eq_emod_of_nonneg (Int.emod_nonneg _ (by decide)), Int.emod_emod_of_dvd _ (Int.dvd_of_emod_eq_zero hd)]
theorem den_mul {S : Sy} {X : Tm} {x : Int} (hx : X.den S = some [x]) (hk : X.kd = .u64) (m : Int) (h1 : 0 ≤ x * m) (h2 : x * m < 18446744073709551616) : (Tm.bin .mul X (.lit .u64 m)).den S = some [x * m] :=
  den_bin (k := .u64) hx (den_lit _ _) (by rw [hk]; show some (Value.int .u64 (IntKind.u64.wrap (x * m))) = _; rw [wrap_u64, Int.emod_eq_of_lt h1 h2])
/-- The highest half. -/
theorem den_ver {S : Sy} {X : Tm} {x : Int} (hx : X.den S = some [x]) : (Tm.bin .mul (.conv .u64 X) (.lit .u64 4294967296)).den S = some [x % 4294967296 * 4294967296] := by
  refine den_bin (k := .u64) (den_conv .u64 hx rfl) (den_lit _ _) ?_
  show some (Value.int .u64 (IntKind.u64.wrap (IntKind.u64.wrap x * 4294967296))) = _
  rw [wrap_u64, wrap_u64]
  congr 2
  omega
end Go.Ev
