/-
  Stage 1: WordBack, run with symbols. Conditions: the numbers fit their kinds.
-/
import Derived.Test.YtacdbgepncimgaaW2
namespace Go.Proofs.Ytacdbgepncimgaa
open Go.Ev Go.RowKit
set_option maxRecDepth 100000
def bktrue0 : Tm := (.and (.bin .eql (.app .i64 16 (.cons (.app .u64 0 (.cons (.bin .and (.var .i64 0) (.lit .i64 16777215)) (.cons (.bin .neq (.var .u8 1) (.lit .u8 0)) (.cons (.var .u32 2) .nil)))) .nil)) (.bin .and (.var .i64 0) (.lit .i64 16777215))) (.and (.beq (.appB 17 (.cons (.app .u64 0 (.cons (.bin .and (.var .i64 0) (.lit .i64 16777215)) (.cons (.bin .neq (.var .u8 1) (.lit .u8 0)) (.cons (.var .u32 2) .nil)))) .nil)) (.bin .neq (.var .u8 1) (.lit .u8 0))) (.bin .eql (.app .u32 18 (.cons (.app .u64 0 (.cons (.bin .and (.var .i64 0) (.lit .i64 16777215)) (.cons (.bin .neq (.var .u8 1) (.lit .u8 0)) (.cons (.var .u32 2) .nil)))) .nil)) (.var .u32 2))))
def bktrue1 : Tm := (.and (.bin .eql (.app .i64 24 (.cons (.app .u64 1 (.cons (.bin .and (.var .i64 3) (.lit .i64 3)) (.cons (.bin .and (.var .i64 4) (.lit .i64 65535)) (.cons (.bin .and (.var .i64 5) (.lit .i64 4095)) (.cons (.var .u32 6) .nil))))) .nil)) (.bin .and (.var .i64 3) (.lit .i64 3))) (.and (.bin .eql (.app .i64 25 (.cons (.app .u64 1 (.cons (.bin .and (.var .i64 3) (.lit .i64 3)) (.cons (.bin .and (.var .i64 4) (.lit .i64 65535)) (.cons (.bin .and (.var .i64 5) (.lit .i64 4095)) (.cons (.var .u32 6) .nil))))) .nil)) (.bin .and (.var .i64 4) (.lit .i64 65535))) (.and (.bin .eql (.app .i64 26 (.cons (.app .u64 1 (.cons (.bin .and (.var .i64 3) (.lit .i64 3)) (.cons (.bin .and (.var .i64 4) (.lit .i64 65535)) (.cons (.bin .and (.var .i64 5) (.lit .i64 4095)) (.cons (.var .u32 6) .nil))))) .nil)) (.bin .and (.var .i64 5) (.lit .i64 4095))) (.bin .eql (.app .u32 27 (.cons (.app .u64 1 (.cons (.bin .and (.var .i64 3) (.lit .i64 3)) (.cons (.bin .and (.var .i64 4) (.lit .i64 65535)) (.cons (.bin .and (.var .i64 5) (.lit .i64 4095)) (.cons (.var .u32 6) .nil))))) .nil)) (.var .u32 6)))))
def bktrue2 : Tm := (.and (.bin .eql (.app .i64 32 (.cons (.app .u64 2 (.cons (.bin .and (.var .i64 7) (.lit .i64 7)) (.cons (.bin .and (.var .i64 8) (.lit .i64 1023)) (.cons (.bin .and (.var .i64 9) (.lit .i64 3)) (.cons (.bin .and (.var .i64 10) (.lit .i64 127)) .nil))))) .nil)) (.bin .and (.var .i64 7) (.lit .i64 7))) (.and (.bin .eql (.app .i64 33 (.cons (.app .u64 2 (.cons (.bin .and (.var .i64 7) (.lit .i64 7)) (.cons (.bin .and (.var .i64 8) (.lit .i64 1023)) (.cons (.bin .and (.var .i64 9) (.lit .i64 3)) (.cons (.bin .and (.var .i64 10) (.lit .i64 127)) .nil))))) .nil)) (.bin .and (.var .i64 8) (.lit .i64 1023))) (.and (.bin .eql (.app .i64 34 (.cons (.app .u64 2 (.cons (.bin .and (.var .i64 7) (.lit .i64 7)) (.cons (.bin .and (.var .i64 8) (.lit .i64 1023)) (.cons (.bin .and (.var .i64 9) (.lit .i64 3)) (.cons (.bin .and (.var .i64 10) (.lit .i64 127)) .nil))))) .nil)) (.bin .and (.var .i64 9) (.lit .i64 3))) (.bin .eql (.app .i64 35 (.cons (.app .u64 2 (.cons (.bin .and (.var .i64 7) (.lit .i64 7)) (.cons (.bin .and (.var .i64 8) (.lit .i64 1023)) (.cons (.bin .and (.var .i64 9) (.lit .i64 3)) (.cons (.bin .and (.var .i64 10) (.lit .i64 127)) .nil))))) .nil)) (.bin .and (.var .i64 10) (.lit .i64 127))))))
def bktrue3 : Tm := (.and (.bin .eql (.app .u8 40 (.cons (.app .u64 3 (.cons (.var .u8 11) (.cons (.blit true) (.cons (.bin .and (.var .i64 13) (.lit .i64 3)) (.cons (.var .u32 14) .nil))))) .nil)) (.var .u8 11)) (.and (.beq (.appB 41 (.cons (.app .u64 3 (.cons (.var .u8 11) (.cons (.blit true) (.cons (.bin .and (.var .i64 13) (.lit .i64 3)) (.cons (.var .u32 14) .nil))))) .nil)) (.blit true)) (.and (.bin .eql (.app .i64 42 (.cons (.app .u64 3 (.cons (.var .u8 11) (.cons (.blit true) (.cons (.bin .and (.var .i64 13) (.lit .i64 3)) (.cons (.var .u32 14) .nil))))) .nil)) (.bin .and (.var .i64 13) (.lit .i64 3))) (.bin .eql (.app .u32 43 (.cons (.app .u64 3 (.cons (.var .u8 11) (.cons (.blit true) (.cons (.bin .and (.var .i64 13) (.lit .i64 3)) (.cons (.var .u32 14) .nil))))) .nil)) (.var .u32 14)))))
def bkfalse3 : Tm := (.and (.bin .eql (.app .u8 40 (.cons (.app .u64 3 (.cons (.var .u8 11) (.cons (.blit false) (.cons (.lit .i64 0) (.cons (.var .u32 14) .nil))))) .nil)) (.var .u8 11)) (.and (.beq (.appB 41 (.cons (.app .u64 3 (.cons (.var .u8 11) (.cons (.blit false) (.cons (.lit .i64 0) (.cons (.var .u32 14) .nil))))) .nil)) (.blit false)) (.and (.bin .eql (.app .i64 42 (.cons (.app .u64 3 (.cons (.var .u8 11) (.cons (.blit false) (.cons (.lit .i64 0) (.cons (.var .u32 14) .nil))))) .nil)) (.lit .i64 0)) (.bin .eql (.app .u32 43 (.cons (.app .u64 3 (.cons (.var .u8 11) (.cons (.blit false) (.cons (.lit .i64 0) (.cons (.var .u32 14) .nil))))) .nil)) (.var .u32 14)))))
theorem vb_and64 (x m : Int) (n : Nat) (hm : m = 2 ^ n - 1) (hn : n ≤ 62) : vBin .and .i64 x m = some (.int .i64 (x % 2 ^ n)) := by
  show some (Value.int .i64 (IntKind.i64.wrap (((BitVec.ofInt 64 x) &&& (BitVec.ofInt 64 m)).toNat : Int))) = _
  subst hm
  rw [and_mask (by omega)]
  have h1 : (0 : Int) < 2 ^ n := by exact_mod_cast Nat.two_pow_pos n
  have h2 : (2 ^ n : Int) ≤ 2 ^ 62 := by exact_mod_cast Nat.pow_le_pow_right (by decide) hn
  have h3 := Int.emod_nonneg x (show (2 ^ n : Int) ≠ 0 by omega)
  have h4 := Int.emod_lt_of_pos x h1
  have h62 : (2 : Int) ^ 62 = 4611686018427387904 := by decide
  rw [wi64 h3 (by omega)]
theorem den_mask {S : Sy} {i : Nat} {x : Int} (hx : S.ρ i = x) (m : Int) (n : Nat) (N : Int) (hN : N = 2 ^ n) (hm : m = 2 ^ n - 1) (hn : n ≤ 62) : (Tm.bin .and (.var .i64 i) (.lit .i64 m)).den S = some [x % N] := by
  subst hN
  subst hx
  exact den_bin (k := .i64) rfl rfl (vb_and64 _ m n hm hn)
theorem bk0_d (i b v : Int) (l : List Int) (h0 : (sy l).ρ 0 = i) (h1 : (sy l).ρ 1 = b) (h2 : (sy l).ρ 2 = v) (hv : 0 ≤ v) (hv2 : v < 4294967296) : bktrue0.den (sy l) = some [b2i true] := by
  have e0 := den_mask h0 16777215 24 16777216 (by decide) (by decide) (by decide)
  unfold bktrue0
  generalize (Tm.bin .and (.var .i64 0) (.lit .i64 16777215)) = A at e0 ⊢
  have hΦ : (sy l).Φ = Φw := rfl
  simp [Tm.den, e0, h1, h2, vBin, numV, hΦ, Φw, b2i0, b2i_inj, refW]
  by_cases hb : b = 0 <;> simp [hb] <;> omega
theorem bk1_d (k s o v : Int) (l : List Int) (h3 : (sy l).ρ 3 = k) (h4 : (sy l).ρ 4 = s) (h5 : (sy l).ρ 5 = o) (e3 : (sy l).ρ 6 = v) (hv : 0 ≤ v) (hv2 : v < 4294967296) : bktrue1.den (sy l) = some [b2i true] := by
  have e0 := den_mask h3 3 2 4 (by decide) (by decide) (by decide)
  have e1 := den_mask h4 65535 16 65536 (by decide) (by decide) (by decide)
  have e2 := den_mask h5 4095 12 4096 (by decide) (by decide) (by decide)
  unfold bktrue1
  generalize (Tm.bin .and (.var .i64 3) (.lit .i64 3)) = A at e0 ⊢
  generalize (Tm.bin .and (.var .i64 4) (.lit .i64 65535)) = B at e1 ⊢
  generalize (Tm.bin .and (.var .i64 5) (.lit .i64 4095)) = C at e2 ⊢
  have hΦ : (sy l).Φ = Φw := rfl
  simp [Tm.den, e0, e1, e2, e3, vBin, numV, hΦ, Φw, b2i0, b2i_inj, stateW]
  omega
theorem bk2_d (k s o v : Int) (l : List Int) (h7 : (sy l).ρ 7 = k) (h8 : (sy l).ρ 8 = s) (h9 : (sy l).ρ 9 = o) (h10 : (sy l).ρ 10 = v) : bktrue2.den (sy l) = some [b2i true] := by
  have e0 := den_mask h7 7 3 8 (by decide) (by decide) (by decide)
  have e1 := den_mask h8 1023 10 1024 (by decide) (by decide) (by decide)
  have e2 := den_mask h9 3 2 4 (by decide) (by decide) (by decide)
  have e3 := den_mask h10 127 7 128 (by decide) (by decide) (by decide)
  unfold bktrue2
  generalize (Tm.bin .and (.var .i64 7) (.lit .i64 7)) = A at e0 ⊢
  generalize (Tm.bin .and (.var .i64 8) (.lit .i64 1023)) = B at e1 ⊢
  generalize (Tm.bin .and (.var .i64 9) (.lit .i64 3)) = C at e2 ⊢
  generalize (Tm.bin .and (.var .i64 10) (.lit .i64 127)) = D at e3 ⊢
  have hΦ : (sy l).Φ = Φw := rfl
  simp [Tm.den, e0, e1, e2, e3, vBin, numV, hΦ, Φw, b2i0, b2i_inj, pageW]
  omega
theorem bk3t_d (m c v : Int) (l : List Int) (h11 : (sy l).ρ 11 = m) (h13 : (sy l).ρ 13 = c) (h14 : (sy l).ρ 14 = v) (hm : 0 ≤ m) (hm2 : m < 256) (hv : 0 ≤ v) (hv2 : v < 4294967296) : bktrue3.den (sy l) = some [b2i true] := by
  have e0 := den_mask h13 3 2 4 (by decide) (by decide) (by decide)
  unfold bktrue3
  generalize (Tm.bin .and (.var .i64 13) (.lit .i64 3)) = A at e0 ⊢
  have hΦ : (sy l).Φ = Φw := rfl
  simp [Tm.den, e0, h11, h14, vBin, numV, hΦ, Φw, b2i0, b2i_inj, bitsW]
  omega
theorem bk3f_d (m v : Int) (l : List Int) (h11 : (sy l).ρ 11 = m) (h14 : (sy l).ρ 14 = v) (hm : 0 ≤ m) (hm2 : m < 256) (hv : 0 ≤ v) (hv2 : v < 4294967296) : bkfalse3.den (sy l) = some [b2i true] := by
  unfold bkfalse3
  have hΦ : (sy l).Φ = Φw := rfl
  simp [Tm.den, h11, h14, vBin, numV, hΦ, Φw, b2i0, b2i_inj, bitsW]
  omega
theorem back_true (i : Int) (b : Bool) (v k s o v2 k2 l2 c2 o2 m c v3 : Int) (hv : 0 ≤ v) (hv1 : v < 4294967296) (hv2 : 0 ≤ v2) (hv22 : v2 < 4294967296) (hm : 0 ≤ m) (hm2 : m < 256) (hv3 : 0 ≤ v3) (hv32 : v3 < 4294967296) (w : World) :
    Calls Try.prog 6 #[.agg #[.int .i64 i, .bool b, .int .u32 v], .agg #[.int .i64 k, .int .i64 s, .int .i64 o, .int .u32 v2], .agg #[.int .i64 k2, .int .i64 l2, .int .i64 c2, .int .i64 o2], .agg #[.int .u8 m, .bool true, .int .i64 c, .int .u32 v3]] w
      fun e w' => e = .returned (.bool true) ∧ Quiet w w' :=
  symIs env (S := sy [i, b2i b, v, k, s, o, v2, k2, l2, c2, o2, m, 0, c, v3]) (al_is awT true (by kernel_rfl) (aw_den _) (al_is bktrue3 true (by kernel_rfl) (bk3t_d m c v3 _ rfl rfl rfl hm hm2 hv3 hv32) (al_is bktrue2 true (by kernel_rfl) (bk2_d k2 l2 c2 o2 _ rfl rfl rfl rfl) (al_is bktrue1 true (by kernel_rfl) (bk1_d k s o v2 _ rfl rfl rfl rfl hv2 hv22) (al_is bktrue0 true (by kernel_rfl) (bk0_d i (b2i b) v _ rfl rfl rfl hv hv1) (AlOk.nil _)))))) (ctrs_ok _) (n := 1000)
    (args := [.agg #[.float .f64 (0 * 512 + kI .i64), .float .f64 (bsym 1), .float .f64 (2 * 512 + kI .u32)], .agg #[.float .f64 (3 * 512 + kI .i64), .float .f64 (4 * 512 + kI .i64), .float .f64 (5 * 512 + kI .i64), .float .f64 (6 * 512 + kI .u32)],
      .agg #[.float .f64 (7 * 512 + kI .i64), .float .f64 (8 * 512 + kI .i64), .float .f64 (9 * 512 + kI .i64), .float .f64 (10 * 512 + kI .i64)], .agg #[.float .f64 (11 * 512 + kI .u8), .bool true, .float .f64 (13 * 512 + kI .i64), .float .f64 (14 * 512 + kI .u32)]])
    (args' := [.agg #[.int .i64 i, .bool b, .int .u32 v], .agg #[.int .i64 k, .int .i64 s, .int .i64 o, .int .u32 v2], .agg #[.int .i64 k2, .int .i64 l2, .int .i64 c2, .int .i64 o2], .agg #[.int .u8 m, .bool true, .int .i64 c, .int .u32 v3]]) true (fun G => by kernel_rfl)
    (fun G ι => vs_agg (vs_sym rfl (vs_bsym (by kernel_rfl) rfl (vs_sym rfl vs_nil))) (vs_agg (vs_sym rfl (vs_sym rfl (vs_sym rfl (vs_sym rfl vs_nil)))) (vs_agg (vs_sym rfl (vs_sym rfl (vs_sym rfl (vs_sym rfl vs_nil)))) (vs_agg (vs_sym rfl (vs_bool (vs_sym rfl (vs_sym rfl vs_nil)))) vs_nil)))) w (gok w)
theorem back_false (i : Int) (b : Bool) (v k s o v2 k2 l2 c2 o2 m c v3 : Int) (hv : 0 ≤ v) (hv1 : v < 4294967296) (hv2 : 0 ≤ v2) (hv22 : v2 < 4294967296) (hm : 0 ≤ m) (hm2 : m < 256) (hv3 : 0 ≤ v3) (hv32 : v3 < 4294967296) (w : World) :
    Calls Try.prog 6 #[.agg #[.int .i64 i, .bool b, .int .u32 v], .agg #[.int .i64 k, .int .i64 s, .int .i64 o, .int .u32 v2], .agg #[.int .i64 k2, .int .i64 l2, .int .i64 c2, .int .i64 o2], .agg #[.int .u8 m, .bool false, .int .i64 c, .int .u32 v3]] w
      fun e w' => e = .returned (.bool true) ∧ Quiet w w' :=
  symIs env (S := sy [i, b2i b, v, k, s, o, v2, k2, l2, c2, o2, m, 0, c, v3]) (al_is awT true (by kernel_rfl) (aw_den _) (al_is bkfalse3 true (by kernel_rfl) (bk3f_d m v3 _ rfl rfl hm hm2 hv3 hv32) (al_is bktrue2 true (by kernel_rfl) (bk2_d k2 l2 c2 o2 _ rfl rfl rfl rfl) (al_is bktrue1 true (by kernel_rfl) (bk1_d k s o v2 _ rfl rfl rfl rfl hv2 hv22) (al_is bktrue0 true (by kernel_rfl) (bk0_d i (b2i b) v _ rfl rfl rfl hv hv1) (AlOk.nil _)))))) (ctrs_ok _) (n := 1000)
    (args := [.agg #[.float .f64 (0 * 512 + kI .i64), .float .f64 (bsym 1), .float .f64 (2 * 512 + kI .u32)], .agg #[.float .f64 (3 * 512 + kI .i64), .float .f64 (4 * 512 + kI .i64), .float .f64 (5 * 512 + kI .i64), .float .f64 (6 * 512 + kI .u32)],
      .agg #[.float .f64 (7 * 512 + kI .i64), .float .f64 (8 * 512 + kI .i64), .float .f64 (9 * 512 + kI .i64), .float .f64 (10 * 512 + kI .i64)], .agg #[.float .f64 (11 * 512 + kI .u8), .bool false, .float .f64 (13 * 512 + kI .i64), .float .f64 (14 * 512 + kI .u32)]])
    (args' := [.agg #[.int .i64 i, .bool b, .int .u32 v], .agg #[.int .i64 k, .int .i64 s, .int .i64 o, .int .u32 v2], .agg #[.int .i64 k2, .int .i64 l2, .int .i64 c2, .int .i64 o2], .agg #[.int .u8 m, .bool false, .int .i64 c, .int .u32 v3]]) true (fun G => by kernel_rfl)
    (fun G ι => vs_agg (vs_sym rfl (vs_bsym (by kernel_rfl) rfl (vs_sym rfl vs_nil))) (vs_agg (vs_sym rfl (vs_sym rfl (vs_sym rfl (vs_sym rfl vs_nil)))) (vs_agg (vs_sym rfl (vs_sym rfl (vs_sym rfl (vs_sym rfl vs_nil)))) (vs_agg (vs_sym rfl (vs_bool (vs_sym rfl (vs_sym rfl vs_nil)))) vs_nil)))) w (gok w)
end Go.Proofs.Ytacdbgepncimgaa
