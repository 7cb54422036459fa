/-
  Stage 1 again, over this seat: what WordReads' callees come to. No condition.
-/
import Derived.Test.YtpoomgmehielcaaM0
import Derived.Test.YtpoomgmehielcaaWT
import Derived.WalkKit
import Derived.ProofKit
namespace Go.Proofs.Ytpoomgmehielcaa
open Go.Ev Go.RowKit
set_option maxRecDepth 100000
def sy (l : List Int) : Sy := ⟨fun i => l.getD i 0, fun _ _ => 0⟩
theorem awakeRunW (G : Nat → Option Obj) : outIs true (run0 Try.prog (ftOf Try.prog) no G 1000 (.fn 19 #[]) (H0g Try.prog [])) = true := by kernel_rfl
theorem awakeW_any (w : World) : Calls Try.prog 19 #[] w fun e w' => e = .returned (.bool true) ∧ Quiet w w' :=
  closed0 env (K := no) (n := 1000) (gs := []) (b := true) (by kernel_rfl) w (fun _ _ _ h => by simp [no] at h) awakeRunW (gok w)
def refOf0 : Tm := (.conv .i64 (.bin .and (.bin .shr (.var .u64 0) (.lit .u64 0)) (.lit .u64 16777215)))
def refOf1 : Tm := (.bin .eql (.conv .i64 (.bin .and (.bin .shr (.var .u64 0) (.lit .u64 24)) (.lit .u64 1))) (.lit .i64 1))
def refOf2 : Tm := (.conv .u32 (.bin .and (.bin .shr (.var .u64 0) (.lit .u64 32)) (.lit .u64 4294967295)))
def stateOf0 : Tm := (.conv .i64 (.bin .and (.bin .shr (.var .u64 0) (.lit .u64 0)) (.lit .u64 3)))
def stateOf1 : Tm := (.conv .i64 (.bin .and (.bin .shr (.var .u64 0) (.lit .u64 2)) (.lit .u64 65535)))
def stateOf2 : Tm := (.conv .i64 (.bin .and (.bin .shr (.var .u64 0) (.lit .u64 18)) (.lit .u64 4095)))
def stateOf3 : Tm := (.conv .u32 (.bin .and (.bin .shr (.var .u64 0) (.lit .u64 32)) (.lit .u64 4294967295)))
def pageOf0 : Tm := (.conv .i64 (.bin .and (.bin .shr (.var .u64 0) (.lit .u64 0)) (.lit .u64 7)))
def pageOf1 : Tm := (.conv .i64 (.bin .and (.bin .shr (.var .u64 0) (.lit .u64 3)) (.lit .u64 1023)))
def pageOf2 : Tm := (.conv .i64 (.bin .and (.bin .shr (.var .u64 0) (.lit .u64 13)) (.lit .u64 3)))
def pageOf3 : Tm := (.conv .i64 (.bin .and (.bin .shr (.var .u64 0) (.lit .u64 16)) (.lit .u64 127)))
def bitsOftrue0 : Tm := (.conv .u8 (.bin .and (.bin .shr (.var .u64 0) (.lit .u64 0)) (.lit .u64 255)))
def bitsOftrue2 : Tm := (.bin .sub (.conv .i64 (.bin .and (.bin .shr (.var .u64 0) (.lit .u64 8)) (.lit .u64 7))) (.lit .i64 1))
def bitsOftrue3 : Tm := (.conv .u32 (.bin .and (.bin .shr (.var .u64 0) (.lit .u64 32)) (.lit .u64 4294967295)))
def bitsOffalse0 : Tm := (.conv .u8 (.bin .and (.bin .shr (.var .u64 0) (.lit .u64 0)) (.lit .u64 255)))
def bitsOffalse3 : Tm := (.conv .u32 (.bin .and (.bin .shr (.var .u64 0) (.lit .u64 32)) (.lit .u64 4294967295)))
theorem hcs0 (S : Sy) : ∀ c ∈ ([] : List Ctr), CtrOk Try.prog S [] c := fun c hc => by simp at hc
def refA : List Lf := [.int .i64, .bool, .int .u32]
def stateA : List Lf := [.int .i64, .int .i64, .int .i64, .int .u32]
def pageA : List Lf := [.int .i64, .int .i64, .int .i64, .int .i64]
def bitsA : List Lf := [.int .u8, .bool, .int .i64, .int .u32]

/-! ### The counterparts -/
theorem wi64 {x : Int} (h0 : 0 ≤ x) (h1 : x < 9223372036854775808) : IntKind.i64.wrap x = x := by rw [wrap_i64]; omega
theorem wu32 {x : Int} (h0 : 0 ≤ x) (h1 : x < 4294967296) : IntKind.u32.wrap x = x := by rw [wrap_u32]; omega
theorem wu8 {x : Int} (h0 : 0 ≤ x) (h1 : x < 256) : IntKind.u8.wrap x = x := by rw [wrap_u8]; omega
theorem cuts (x : Int) (m : Int) (n s : Nat) (N M : Int) (hN : N = 2 ^ n) (hM : M = 2 ^ s) (hm : m = 2 ^ n - 1) (hn : n ≤ 64) (hs : s < 64) : (Tm.bin .and (.bin .shr (.var .u64 0) (.lit .u64 s)) (.lit .u64 m)).den (sy [x]) = some [x / M % N] := by
  subst hN
  subst hM
  exact den_and (X := .var .u64 0) rfl rfl m n s hm hn hs
theorem ref_of (x : Int) (w : World) : Calls Try.prog 10 #[.int .u64 x] w fun e w' => e = .returned (.agg #[.int .i64 (x % 16777216), .bool (decide (x / 16777216 % 2 ≠ 0)), .int .u32 (x / 4294967296 % 4294967296)]) ∧ Quiet w w' := by
  refine Calls.mono (symRun env (AlOk.nil (sy [x])) (hcs0 _) (n := 1000) (args := [.float .f64 (0 * 512 + kI .u64)]) (args' := [.int .u64 x]) (res := [.agg refA]) (vs := [.agg #[.float .f64 refOf0.enc, .float .f64 refOf1.enc, .float .f64 refOf2.enc]]) (rcs := [refOf0.enc, refOf1.enc, refOf2.enc])
    (rs := [x % 16777216, b2i (decide (x / 16777216 % 2 = 1)), x / 4294967296 % 4294967296]) (by kernel_rfl) ?_ (fun G => by kernel_rfl) (fun G ι => vs_sym rfl vs_nil) w (gok w)) fun e w' ⟨h1, h2⟩ => ⟨?_, h2⟩
  · refine ⟨(refOf0.ev_enc _ (by kernel_rfl)).trans ?_, (refOf1.ev_enc _ (by kernel_rfl)).trans ?_, (refOf2.ev_enc _ (by kernel_rfl)).trans ?_, trivial⟩
    · exact den_conv .i64 (cuts x 16777215 24 0 16777216 1 (by decide) (by decide) (by decide) (by decide) (by decide)) (by rw [wi64 (by omega) (by omega)]; omega)
    · exact den_cmp (den_conv .i64 (cuts x 1 1 24 2 16777216 (by decide) (by decide) (by decide) (by decide) (by decide)) (wi64 (by omega) (by omega))) (den_lit _ _) rfl
    · exact den_conv .u32 (cuts x 4294967295 32 32 4294967296 4294967296 (by decide) (by decide) (by decide) (by decide) (by decide)) (wu32 (by omega) (by omega))
  · rw [h1]
    show Ending.returned (.agg #[.int .i64 (x % 16777216), .bool (decide (b2i (decide (x / 16777216 % 2 = 1)) ≠ 0)), .int .u32 (x / 4294967296 % 4294967296)]) = _
    rw [b2i_ne, show decide (x / 16777216 % 2 = 1) = decide (x / 16777216 % 2 ≠ 0) by rw [Bool.eq_iff_iff]; simp; omega]
theorem state_of (x : Int) (w : World) : Calls Try.prog 11 #[.int .u64 x] w fun e w' => e = .returned (.agg #[.int .i64 (x % 4), .int .i64 (x / 4 % 65536), .int .i64 (x / 262144 % 4096), .int .u32 (x / 4294967296 % 4294967296)]) ∧ Quiet w w' := by
  refine Calls.mono (symRun env (AlOk.nil (sy [x])) (hcs0 _) (n := 1000) (args := [.float .f64 (0 * 512 + kI .u64)]) (args' := [.int .u64 x]) (res := [.agg stateA]) (vs := [.agg #[.float .f64 stateOf0.enc, .float .f64 stateOf1.enc, .float .f64 stateOf2.enc, .float .f64 stateOf3.enc]]) (rcs := [stateOf0.enc, stateOf1.enc, stateOf2.enc, stateOf3.enc])
    (rs := [x % 4, x / 4 % 65536, x / 262144 % 4096, x / 4294967296 % 4294967296]) (by kernel_rfl) ?_ (fun G => by kernel_rfl) (fun G ι => vs_sym rfl vs_nil) w (gok w)) fun e w' ⟨h1, h2⟩ => ⟨h1, h2⟩
  refine ⟨(stateOf0.ev_enc _ (by kernel_rfl)).trans ?_, (stateOf1.ev_enc _ (by kernel_rfl)).trans ?_, (stateOf2.ev_enc _ (by kernel_rfl)).trans ?_, (stateOf3.ev_enc _ (by kernel_rfl)).trans ?_, trivial⟩
  · exact den_conv .i64 (cuts x 3 2 0 4 1 (by decide) (by decide) (by decide) (by decide) (by decide)) (by rw [wi64 (by omega) (by omega)]; omega)
  · exact den_conv .i64 (cuts x 65535 16 2 65536 4 (by decide) (by decide) (by decide) (by decide) (by decide)) (wi64 (by omega) (by omega))
  · exact den_conv .i64 (cuts x 4095 12 18 4096 262144 (by decide) (by decide) (by decide) (by decide) (by decide)) (wi64 (by omega) (by omega))
  · exact den_conv .u32 (cuts x 4294967295 32 32 4294967296 4294967296 (by decide) (by decide) (by decide) (by decide) (by decide)) (wu32 (by omega) (by omega))
theorem page_of (x : Int) (w : World) : Calls Try.prog 12 #[.int .u64 x] w fun e w' => e = .returned (.agg #[.int .i64 (x % 8), .int .i64 (x / 8 % 1024), .int .i64 (x / 8192 % 4), .int .i64 (x / 65536 % 128)]) ∧ Quiet w w' := by
  refine Calls.mono (symRun env (AlOk.nil (sy [x])) (hcs0 _) (n := 1000) (args := [.float .f64 (0 * 512 + kI .u64)]) (args' := [.int .u64 x]) (res := [.agg pageA]) (vs := [.agg #[.float .f64 pageOf0.enc, .float .f64 pageOf1.enc, .float .f64 pageOf2.enc, .float .f64 pageOf3.enc]]) (rcs := [pageOf0.enc, pageOf1.enc, pageOf2.enc, pageOf3.enc])
    (rs := [x % 8, x / 8 % 1024, x / 8192 % 4, x / 65536 % 128]) (by kernel_rfl) ?_ (fun G => by kernel_rfl) (fun G ι => vs_sym rfl vs_nil) w (gok w)) fun e w' ⟨h1, h2⟩ => ⟨h1, h2⟩
  refine ⟨(pageOf0.ev_enc _ (by kernel_rfl)).trans ?_, (pageOf1.ev_enc _ (by kernel_rfl)).trans ?_, (pageOf2.ev_enc _ (by kernel_rfl)).trans ?_, (pageOf3.ev_enc _ (by kernel_rfl)).trans ?_, trivial⟩
  · exact den_conv .i64 (cuts x 7 3 0 8 1 (by decide) (by decide) (by decide) (by decide) (by decide)) (by rw [wi64 (by omega) (by omega)]; omega)
  · exact den_conv .i64 (cuts x 1023 10 3 1024 8 (by decide) (by decide) (by decide) (by decide) (by decide)) (wi64 (by omega) (by omega))
  · exact den_conv .i64 (cuts x 3 2 13 4 8192 (by decide) (by decide) (by decide) (by decide) (by decide)) (wi64 (by omega) (by omega))
  · exact den_conv .i64 (cuts x 127 7 16 128 65536 (by decide) (by decide) (by decide) (by decide) (by decide)) (wi64 (by omega) (by omega))
/-- Has a word of Bits a class? -/
def hasT : Tm := .bin .neq (.conv .i64 (.bin .and (.bin .shr (.var .u64 0) (.lit .u64 8)) (.lit .u64 7))) (.lit .i64 0)
theorem bits_of (x : Int) (w : World) : Calls Try.prog 13 #[.int .u64 x] w fun e w' => e = .returned (.agg #[.int .u8 (x % 256), .bool (decide (x / 256 % 8 ≠ 0)), .int .i64 (if x / 256 % 8 = 0 then 0 else x / 256 % 8 - 1), .int .u32 (x / 4294967296 % 4294967296)]) ∧ Quiet w w' := by
  have c := den_conv .i64 (cuts x 7 3 8 8 256 (by decide) (by decide) (by decide) (by decide) (by decide)) (wi64 (by omega) (by omega))
  have h0 : bitsOftrue0.den (sy [x]) = some [x % 256] := den_conv .u8 (cuts x 255 8 0 256 1 (by decide) (by decide) (by decide) (by decide) (by decide)) (by rw [wu8 (by omega) (by omega)]; omega)
  have h3 : bitsOftrue3.den (sy [x]) = some [x / 4294967296 % 4294967296] := den_conv .u32 (cuts x 4294967295 32 32 4294967296 4294967296 (by decide) (by decide) (by decide) (by decide) (by decide)) (wu32 (by omega) (by omega))
  have hh : hasT.den (sy [x]) = some [b2i (decide (x / 256 % 8 ≠ 0))] := den_cmp c (den_lit _ _) rfl
  by_cases hz : x / 256 % 8 = 0
  · refine Calls.mono (symRun env (al_is hasT false (by kernel_rfl) (by rw [hh]; simp [hz]) (AlOk.nil (sy [x]))) (hcs0 _) (n := 1000) (args := [.float .f64 (0 * 512 + kI .u64)]) (args' := [.int .u64 x]) (res := [.agg bitsA])
      (vs := [.agg #[.float .f64 bitsOftrue0.enc, .bool false, .int .i64 0, .float .f64 bitsOftrue3.enc]]) (rcs := [bitsOftrue0.enc, litB false, lit .i64 0, bitsOftrue3.enc])
      (rs := [x % 256, 0, 0, x / 4294967296 % 4294967296]) (by kernel_rfl) ⟨(bitsOftrue0.ev_enc _ (by kernel_rfl)).trans h0, ev_litB _ _, ev_lit _ _ _, (bitsOftrue3.ev_enc _ (by kernel_rfl)).trans h3, trivial⟩ (fun G => by kernel_rfl) (fun G ι => vs_sym rfl vs_nil) w (gok w)) fun e w' ⟨h1, h2⟩ => ⟨?_, h2⟩
    rw [h1, if_pos hz, show decide (x / 256 % 8 ≠ 0) = false by simp [hz]]
    rfl
  · refine Calls.mono (symRun env (al_is hasT true (by kernel_rfl) (by rw [hh]; simp [hz]) (AlOk.nil (sy [x]))) (hcs0 _) (n := 1000) (args := [.float .f64 (0 * 512 + kI .u64)]) (args' := [.int .u64 x]) (res := [.agg bitsA])
      (vs := [.agg #[.float .f64 bitsOftrue0.enc, .bool true, .float .f64 bitsOftrue2.enc, .float .f64 bitsOftrue3.enc]]) (rcs := [bitsOftrue0.enc, litB true, bitsOftrue2.enc, bitsOftrue3.enc])
      (rs := [x % 256, 1, x / 256 % 8 - 1, x / 4294967296 % 4294967296]) (by kernel_rfl) ⟨(bitsOftrue0.ev_enc _ (by kernel_rfl)).trans h0, ev_litB _ _, (bitsOftrue2.ev_enc _ (by kernel_rfl)).trans ?_, (bitsOftrue3.ev_enc _ (by kernel_rfl)).trans h3, trivial⟩ (fun G => by kernel_rfl) (fun G ι => vs_sym rfl vs_nil) w (gok w)) fun e w' ⟨h1, h2⟩ => ⟨?_, h2⟩
    · exact den_bin (k := .i64) c (den_lit _ _) (by show some (Value.int .i64 (IntKind.i64.wrap _)) = _; rw [wi64 (by omega) (by omega)])
    · rw [h1, if_neg hz, show decide (x / 256 % 8 ≠ 0) = true by simp [hz]]
      rfl
end Go.Proofs.Ytpoomgmehielcaa
