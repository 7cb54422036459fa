/-
  Plain mathematics of words: masks, shifts, sums of fields that do not overlap. No condition but those each says.
-/
import GoSem.Dispatch
namespace Go.Ev
theorem wrap_u64 (x : Int) : IntKind.u64.wrap x = x % 18446744073709551616 := by
  simp [IntKind.wrap, IntKind.bits, IntKind.signed]
theorem wrap_u32 (x : Int) : IntKind.u32.wrap x = x % 4294967296 := by
  simp [IntKind.wrap, IntKind.bits, IntKind.signed]
theorem wrap_u16 (x : Int) : IntKind.u16.wrap x = x % 65536 := by
  simp [IntKind.wrap, IntKind.bits, IntKind.signed]
theorem wrap_u8 (x : Int) : IntKind.u8.wrap x = x % 256 := by
  simp [IntKind.wrap, IntKind.bits, IntKind.signed]
theorem wrap_i64 (x : Int) : IntKind.i64.wrap x = (x + 9223372036854775808) % 18446744073709551616 - 9223372036854775808 := by
  simp only [IntKind.wrap, IntKind.bits, IntKind.signed]
  simp
  split <;> omega
theorem ofInt_nat (w : Nat) (x : Int) : (BitVec.ofInt w x).toNat = (x % 2 ^ w).toNat := by
  rw [BitVec.toNat_ofInt]
  norm_cast
/-- A mask of the lowest n bits. -/
theorem and_mask {w n : Nat} (hn : n ≤ w) (x : Int) : (((BitVec.ofInt w x) &&& (BitVec.ofInt w (2 ^ n - 1))).toNat : Int) = x % 2 ^ n := by
  rw [BitVec.toNat_and, ofInt_nat, ofInt_nat]
  have h1 : ((2 ^ n - 1 : Int) % 2 ^ w).toNat = 2 ^ n - 1 := by
    have h2 : (2 ^ n : Int) ≤ 2 ^ w := by exact_mod_cast Nat.pow_le_pow_right (by decide) hn
    have h3 : (0 : Int) < 2 ^ n := by exact_mod_cast Nat.two_pow_pos n
    rw [Int.emod_eq_of_lt (by omega) (by omega)]
    have : (2 ^ n : Int) = ((2 ^ n : Nat) : Int) := by norm_cast
    rw [this]
    have := Nat.two_pow_pos n
    omega
  rw [h1, Nat.and_two_pow_sub_one_eq_mod]
  have hpos : (0 : Int) < 2 ^ w := by exact_mod_cast Nat.two_pow_pos w
  have h0 : 0 ≤ x % 2 ^ w := Int.emod_nonneg _ (by omega)
  have e : (((x % 2 ^ w).toNat % 2 ^ n : Nat) : Int) = (x % 2 ^ w) % 2 ^ n := by
    rw [Int.natCast_emod, Int.toNat_of_nonneg h0]
    norm_cast
  rw [e, Int.emod_emod_of_dvd]
  exact_mod_cast Nat.pow_dvd_pow 2 hn
/-- Fields that do not overlap: or is plus. -/
theorem or_apart {w n : Nat} {a b : Int} (ha : 0 ≤ a) (han : a < 2 ^ n) (hb : 0 ≤ b) (hbw : b * 2 ^ n + a < 2 ^ w) : (((BitVec.ofInt w a) ||| (BitVec.ofInt w (b * 2 ^ n))).toNat : Int) = a + b * 2 ^ n := by
  obtain ⟨a, rfl⟩ := Int.eq_ofNat_of_zero_le ha
  obtain ⟨b, rfl⟩ := Int.eq_ofNat_of_zero_le hb
  have han' : a < 2 ^ n := by exact_mod_cast han
  have hbw' : b * 2 ^ n + a < 2 ^ w := by exact_mod_cast hbw
  rw [BitVec.toNat_or, ofInt_nat, ofInt_nat]
  have e1 : (((a : Int)) % 2 ^ w).toNat = a := by
    have hlt : a < 2 ^ w := by omega
    rw [Int.emod_eq_of_lt (by omega) (by exact_mod_cast hlt), Int.toNat_natCast]
  have e2 : (((b : Int) * 2 ^ n) % 2 ^ w).toNat = b * 2 ^ n := by
    have hc : ((b : Int) * 2 ^ n) = ((b * 2 ^ n : Nat) : Int) := by norm_cast
    have hlt : b * 2 ^ n < 2 ^ w := by omega
    rw [hc, Int.emod_eq_of_lt (by omega) (by exact_mod_cast hlt), Int.toNat_natCast]
  rw [e1, e2, Nat.or_comm, Nat.mul_comm b, ← Nat.two_pow_add_eq_or_of_lt han', Int.natCast_add, Int.natCast_mul, Int.mul_comm, Int.add_comm, Int.natCast_pow]
  rfl
end Go.Ev
namespace Go.Ev
theorem u64_and (x m : Int) (n : Nat) (hm : m = 2 ^ n - 1) (hn : n ≤ 64) : IntKind.u64.wrap (((BitVec.ofInt 64 x) &&& (BitVec.ofInt 64 m)).toNat : Int) = x % 2 ^ n := by
  subst hm
  rw [wrap_u64, and_mask hn]
  have h1 : (0 : Int) < 2 ^ n := by exact_mod_cast Nat.two_pow_pos n
  have h2 : (2 ^ n : Int) ≤ 2 ^ 64 := by exact_mod_cast Nat.pow_le_pow_right (by decide) hn
  have h3 := Int.emod_nonneg x (show (2 ^ n : Int) ≠ 0 by omega)
  have h4 := Int.emod_lt_of_pos x h1
  exact Int.emod_eq_of_lt h3 (by omega)
theorem u64_or (a b : Int) (n : Nat) (ha : 0 ≤ a) (han : a < 2 ^ n) (hb : 0 ≤ b) (hbn : b % 2 ^ n = 0) (hab : a + b < 18446744073709551616) : IntKind.u64.wrap (((BitVec.ofInt 64 a) ||| (BitVec.ofInt 64 b)).toNat : Int) = a + b := by
  have h1 : (0 : Int) < 2 ^ n := by exact_mod_cast Nat.two_pow_pos n
  have hb' : b = b / 2 ^ n * 2 ^ n := by
    have := Int.emod_add_mul_ediv b (2 ^ n)
    rw [hbn, Int.mul_comm] at this
    omega
  have h0 : 0 ≤ b / 2 ^ n := Int.ediv_nonneg hb (by omega)
  have h64 : (2 : Int) ^ 64 = 18446744073709551616 := by decide
  have := or_apart (w := 64) (n := n) (a := a) (b := b / 2 ^ n) ha han h0 (by rw [← hb', h64]; omega)
  rw [← hb'] at this
  rw [this, wrap_u64]
  exact Int.emod_eq_of_lt (by omega) hab
theorem fdiv_pow (x : Int) (n : Nat) : x.fdiv (2 ^ n) = x / 2 ^ n := Int.fdiv_eq_ediv_of_nonneg _ (by exact_mod_cast Nat.zero_le (2 ^ n))
end Go.Ev
namespace Go.Ev
theorem bv_or (a b : Int) (n : Nat) (ha : 0 ≤ a) (han : a < 2 ^ n) (hb : 0 ≤ b) (hbn : b % 2 ^ n = 0) (hab : a + b < 18446744073709551616) : BitVec.ofInt 64 a ||| BitVec.ofInt 64 b = BitVec.ofInt 64 (a + b) := by
  have h := u64_or a b n ha han hb hbn hab
  have h64 : (2 : Int) ^ 64 = 18446744073709551616 := by decide
  refine BitVec.eq_of_toNat_eq ?_
  rw [wrap_u64] at h
  have h1 : ((BitVec.ofInt 64 a ||| BitVec.ofInt 64 b).toNat : Int) < 18446744073709551616 := by
    have := (BitVec.ofInt 64 a ||| BitVec.ofInt 64 b).isLt
    omega
  rw [Int.emod_eq_of_lt (by omega) h1] at h
  rw [ofInt_nat, h64, Int.emod_eq_of_lt (by omega) hab]
  omega
/-- A field between two others. -/
theorem u64_or3 (m v c : Int) (hm : 0 ≤ m) (hm2 : m < 256) (hv : 0 ≤ v) (hv2 : v < 4294967296) (hc : 0 ≤ c) (hc2 : c < 16777216) :
    IntKind.u64.wrap (((BitVec.ofInt 64 (m + v * 4294967296)) ||| (BitVec.ofInt 64 (c * 256))).toNat : Int) = m + v * 4294967296 + c * 256 := by
  rw [← bv_or m (v * 4294967296) 32 hm (by omega) (by omega) (by omega) (by omega), BitVec.or_assoc, BitVec.or_comm (BitVec.ofInt 64 (v * 4294967296)), ← BitVec.or_assoc, bv_or m (c * 256) 8 hm (by omega) (by omega) (by omega) (by omega),
    u64_or (m + c * 256) (v * 4294967296) 32 (by omega) (by omega) (by omega) (by omega) (by omega)]
  omega
end Go.Ev
