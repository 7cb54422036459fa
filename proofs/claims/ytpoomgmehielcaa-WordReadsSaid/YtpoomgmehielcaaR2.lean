/-
  Stage 1 again, over this seat: Power, Bit, Field by walks. No condition.
-/
import Derived.Test.YtpoomgmehielcaaR1
import Derived.WalkKit
import Derived.LoopTactic
import Derived.Lib.Hide
namespace Go.Proofs.Ytpoomgmehielcaa
open Go.Ev Go.RowKit
theorem pow_lt (k : Nat) (h : k ≤ 63) : (0 : Int) < 2 ^ k ∧ (2 : Int) ^ k ≤ 9223372036854775808 := by
  have h1 : 0 < 2 ^ k := Nat.two_pow_pos k
  have h2 : 2 ^ k ≤ 2 ^ 63 := Nat.pow_le_pow_right (by decide) h
  have e : ((2 : Int) ^ k) = ((2 ^ k : Nat) : Int) := by norm_cast
  rw [e]
  omega
set_option maxHeartbeats 400000 in
theorem power_any (n : Nat) (hn : n ≤ 63) (w : World) : Calls Try.prog 36 #[.int .i64 (n : Int)] w fun e w' => e = .returned (.int .u64 (2 ^ n)) ∧ w = w' := by
  go_enter Try.func36, Try.ntmps36
  go_wp2
  go_loop [3, 4] (fun x i => ∃ k : Nat, k ≤ n ∧ i = .int .i64 k ∧ x = .int .u64 (2 ^ k)) (fun _ i => n - (intOf i).toNat)
  case atStart => exact ⟨0, Nat.zero_le _, rfl, rfl⟩
  case round =>
    obtain ⟨k, hk, rfl, rfl⟩ := hrel
    by_cases hlt : k < n
    · have hp := pow_lt (k + 1) (by omega)
      have hq : IntKind.u64.wrap (2 * 2 ^ k) = 2 ^ (k + 1) := by
        rw [wrap_u64, Int.pow_succ, Int.mul_comm, Int.emod_eq_of_lt (by rw [← Int.pow_succ]; omega) (by rw [← Int.pow_succ]; omega)]
      go_wp2
      go_round
      case rel => exact ⟨k + 1, by omega, by go_num, by rw [← hq]⟩
      case measure => simp [intOf]; omega
    · have : k = n := by omega
      subst this
      go_wp2
      go_ret
      exact ⟨rfl, rfl⟩
set_option maxHeartbeats 400000 in
theorem bit_any (x : Int) (hx : 0 ≤ x) (hx2 : x < 18446744073709551616) (n : Nat) (hn : n ≤ 63) (w : World) : Calls Try.prog 15 #[.int .u64 x, .int .i64 (n : Int)] w fun e w' => e = .returned (.bool (decide (x / 2 ^ n % 2 = 1))) ∧ w = w' := by
  have hp := pow_lt n hn
  have h1 : x.tdiv (2 ^ n) = x / 2 ^ n := Int.tdiv_eq_ediv_of_nonneg hx
  have h2 : 0 ≤ x / 2 ^ n := Int.ediv_nonneg hx (by omega)
  have h3 : x / 2 ^ n ≤ x := Int.ediv_le_self _ hx
  have h4 : IntKind.u64.wrap (x.tdiv (2 ^ n)) = x / 2 ^ n := by rw [h1, wrap_u64, Int.emod_eq_of_lt h2 (by omega)]
  have h5 : (x / 2 ^ n).tmod 2 = x / 2 ^ n % 2 := Int.tmod_eq_emod_of_nonneg h2
  have h6 : ((2 : Int) ^ n == 0) = false := by simp; omega
  go_enter Try.func15, Try.ntmps15
  go_wp2_with (go_at_call 36; refine (power_any n hn _).mono ?_; rintro e w' ⟨rfl, rfl⟩)
  go_ret
  refine ⟨?_, rfl⟩
  show Ending.returned (.bool (x / 2 ^ n % 2 == 1)) = _
  rw [show (x / 2 ^ n % 2 == 1) = decide (x / 2 ^ n % 2 = 1) by rw [Bool.eq_iff_iff]; simp]

theorem bit_t (x : Int) (hx : 0 ≤ x) (hx2 : x < 18446744073709551616) (n : Nat) (hn : n ≤ 63) (h : x / 2 ^ n % 2 = 1) (w : World) : Calls Try.prog 15 #[.int .u64 x, .int .i64 (n : Int)] w fun e w' => e = .returned (.bool true) ∧ w = w' := by
  have := bit_any x hx hx2 n hn w
  rwa [decide_eq_true h] at this
theorem bit_f (x : Int) (hx : 0 ≤ x) (hx2 : x < 18446744073709551616) (n : Nat) (hn : n ≤ 63) (h : ¬ x / 2 ^ n % 2 = 1) (w : World) : Calls Try.prog 15 #[.int .u64 x, .int .i64 (n : Int)] w fun e w' => e = .returned (.bool false) ∧ w = w' := by
  have := bit_any x hx hx2 n hn w
  rwa [decide_eq_false h] at this
theorem half (y M : Int) (hM : 0 < M) : y % (2 * M) = 2 * (y / 2 % M) + y % 2 := by
  have h1 := Int.emod_add_mul_ediv y 2
  have h2 := Int.emod_add_mul_ediv (y / 2) M
  have h3 := Int.emod_nonneg (y / 2) (show M ≠ 0 by omega)
  have h4 := Int.emod_lt_of_pos (y / 2) hM
  have e : y = (2 * (y / 2 % M) + y % 2) + (2 * M) * (y / 2 / M) := by
    rw [Int.mul_assoc]
    generalize M * (y / 2 / M) = z at *
    omega
  have h5 : (2 * (y / 2 % M) + y % 2) % (2 * M) = 2 * (y / 2 % M) + y % 2 := Int.emod_eq_of_lt (by omega) (by omega)
  calc y % (2 * M) = ((2 * (y / 2 % M) + y % 2) + (2 * M) * (y / 2 / M)) % (2 * M) := by rw [← e]
    _ = (2 * (y / 2 % M) + y % 2) % (2 * M) := Int.add_mul_emod_self_left _ _ _
    _ = _ := h5
theorem field_step (x : Int) (s j : Nat) : x / 2 ^ s % 2 ^ (j + 1) = 2 * (x / 2 ^ (s + 1) % 2 ^ j) + x / 2 ^ s % 2 := by
  have h1 : (0 : Int) < 2 ^ j := by exact_mod_cast Nat.two_pow_pos j
  have h2 : (0 : Int) < 2 ^ s := by exact_mod_cast Nat.two_pow_pos s
  have e := @Int.ediv_ediv x (2 ^ s) 2
  rw [if_neg (by omega), Int.sub_zero] at e
  rw [Int.pow_succ, Int.mul_comm (2 ^ j), half _ _ h1, Int.pow_succ, e]
set_option maxHeartbeats 1000000 in
theorem field_any (x : Int) (hx : 0 ≤ x) (hx2 : x < 18446744073709551616) (s m : Nat) (hm : m ≤ 30) (hsm : s + m ≤ 63) (w : World) : Calls Try.prog 14 #[.int .u64 x, .int .i64 (s : Int), .int .i64 (m : Int)] w fun e w' => e = .returned (.int .i64 (x / 2 ^ s % 2 ^ m)) ∧ w = w' := by
  go_enter Try.func14, Try.ntmps14
  go_wp2
  go_loop [7, 8] (fun n i => ∃ k : Nat, k ≤ m ∧ i = .int .i64 ((k : Int) - 1) ∧ n = .int .i64 (x / 2 ^ (s + k) % 2 ^ (m - k))) (fun _ i => (intOf i + 1).toNat)
  case atStart => exact ⟨m, Nat.le_refl _, rfl, by simp [Int.emod_one]⟩
  case round =>
    obtain ⟨k, hk, rfl, rfl⟩ := hrel
    have p0 : (0 : Int) < 2 ^ (m - k) := by exact_mod_cast Nat.two_pow_pos _
    have p1 : (2 ^ (m - k) : Int) ≤ 2 ^ 30 := by exact_mod_cast Nat.pow_le_pow_right (by decide) (by omega)
    have p2 : (2 : Int) ^ 30 = 1073741824 := by decide
    have p3 := Int.emod_nonneg (x / 2 ^ (s + k)) (show (2 ^ (m - k) : Int) ≠ 0 by omega)
    have p4 := Int.emod_lt_of_pos (x / 2 ^ (s + k)) p0
    rw [p2] at p1
    cases k with
    | zero =>
      clear p0 p1 p2 p3 p4
      go_wp2
      go_ret
      exact ⟨rfl, rfl⟩
    | succ k =>
      have st := field_step x (s + k) (m - (k + 1))
      rw [show m - (k + 1) + 1 = m - k by omega, show s + k + 1 = s + (k + 1) by omega] at st
      have hst : Hid (x / 2 ^ (s + k) % 2 ^ (m - k) = 2 * (x / 2 ^ (s + (k + 1)) % 2 ^ (m - (k + 1))) + x / 2 ^ (s + k) % 2) := Lib.hid st
      have q1 : x / 2 ^ (s + (k + 1)) % 2 ^ (m - (k + 1)) < 1073741824 := by omega
      clear st p0 p1 p2 p4
      generalize x / 2 ^ (s + (k + 1)) % 2 ^ (m - (k + 1)) = n at *
      by_cases hb : x / 2 ^ (s + k) % 2 = 1
      · go_wp2_with (go_at_call 15; refine (bit_t x hx hx2 (s + k) (by omega) hb _).mono ?_; rintro e w' ⟨rfl, rfl⟩)
        go_round
        case rel => exact ⟨k, by omega, by go_num, by rw [hst.out, hb]⟩
        case measure => simp [intOf]
      · have hz : x / 2 ^ (s + k) % 2 = 0 := by omega
        have HZ := Lib.hid hz
        clear hz
        go_wp2_with (go_at_call 15; refine (bit_f x hx hx2 (s + k) (by omega) hb _).mono ?_; rintro e w' ⟨rfl, rfl⟩)
        go_round
        case rel => exact ⟨k, by omega, by go_num, by rw [hst.out, HZ.out, Int.add_zero]⟩
        case measure => simp [intOf]
end Go.Proofs.Ytpoomgmehielcaa
