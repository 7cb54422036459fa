/-
  Stage 1: what the words' functions come to: Word and its counterparts, beside the document's own. No condition.
-/
import Derived.Test.YtacdbgepncimgaaWEnv
import Derived.Test.YtacdbgepncimgaaWT
namespace Go.Proofs.Ytacdbgepncimgaa
open Go.Ev Go.RowKit
set_option maxRecDepth 100000
def tReftrue0 : Tm := (.bin .or (.bin .or (.bin .shl (.bin .and (.conv .u64 (.var .i64 0)) (.lit .u64 16777215)) (.lit .u64 0)) (.lit .u64 16777216)) (.bin .shl (.bin .and (.conv .u64 (.var .u32 2)) (.lit .u64 4294967295)) (.lit .u64 32)))
def qReftrue0 : Tm := (.bin .add (.bin .add (.bin .rem (.conv .u64 (.var .i64 0)) (.lit .u64 16777216)) (.bin .mul (.conv .u64 (.var .u32 2)) (.lit .u64 4294967296))) (.lit .u64 16777216))
def tBitstrue0 : Tm := (.bin .or (.bin .or (.bin .shl (.bin .and (.conv .u64 (.var .u8 0)) (.lit .u64 255)) (.lit .u64 0)) (.bin .shl (.bin .and (.conv .u64 (.var .u32 3)) (.lit .u64 4294967295)) (.lit .u64 32))) (.bin .shl (.bin .and (.conv .u64 (.bin .add (.var .i64 2) (.lit .i64 1))) (.lit .u64 7)) (.lit .u64 8)))
def qBitstrue0 : Tm := (.bin .add (.bin .add (.conv .u64 (.var .u8 0)) (.bin .mul (.conv .u64 (.var .u32 3)) (.lit .u64 4294967296))) (.bin .mul (.bin .rem (.conv .u64 (.bin .add (.var .i64 2) (.lit .i64 1))) (.lit .u64 8)) (.lit .u64 256)))
def tReffalse0 : Tm := (.bin .or (.bin .or (.bin .shl (.bin .and (.conv .u64 (.var .i64 0)) (.lit .u64 16777215)) (.lit .u64 0)) (.lit .u64 0)) (.bin .shl (.bin .and (.conv .u64 (.var .u32 2)) (.lit .u64 4294967295)) (.lit .u64 32)))
def qReffalse0 : Tm := (.bin .add (.bin .rem (.conv .u64 (.var .i64 0)) (.lit .u64 16777216)) (.bin .mul (.conv .u64 (.var .u32 2)) (.lit .u64 4294967296)))
def tBitsfalse0 : Tm := (.bin .or (.bin .shl (.bin .and (.conv .u64 (.var .u8 0)) (.lit .u64 255)) (.lit .u64 0)) (.bin .shl (.bin .and (.conv .u64 (.var .u32 3)) (.lit .u64 4294967295)) (.lit .u64 32)))
def qBitsfalse0 : Tm := (.bin .add (.conv .u64 (.var .u8 0)) (.bin .mul (.conv .u64 (.var .u32 3)) (.lit .u64 4294967296)))
def tState0 : Tm := (.bin .or (.bin .or (.bin .or (.bin .shl (.bin .and (.conv .u64 (.var .i64 0)) (.lit .u64 3)) (.lit .u64 0)) (.bin .shl (.bin .and (.conv .u64 (.var .i64 1)) (.lit .u64 65535)) (.lit .u64 2))) (.bin .shl (.bin .and (.conv .u64 (.var .i64 2)) (.lit .u64 4095)) (.lit .u64 18))) (.bin .shl (.bin .and (.conv .u64 (.var .u32 3)) (.lit .u64 4294967295)) (.lit .u64 32)))
def qState0 : Tm := (.bin .add (.bin .add (.bin .add (.bin .rem (.conv .u64 (.var .i64 0)) (.lit .u64 4)) (.bin .mul (.bin .rem (.conv .u64 (.var .i64 1)) (.lit .u64 65536)) (.lit .u64 4))) (.bin .mul (.bin .rem (.conv .u64 (.var .i64 2)) (.lit .u64 4096)) (.lit .u64 262144))) (.bin .mul (.conv .u64 (.var .u32 3)) (.lit .u64 4294967296)))
def tPage0 : Tm := (.bin .or (.bin .or (.bin .or (.bin .shl (.bin .and (.conv .u64 (.var .i64 0)) (.lit .u64 7)) (.lit .u64 0)) (.bin .shl (.bin .and (.conv .u64 (.var .i64 1)) (.lit .u64 1023)) (.lit .u64 3))) (.bin .shl (.bin .and (.conv .u64 (.var .i64 2)) (.lit .u64 3)) (.lit .u64 13))) (.bin .shl (.bin .and (.conv .u64 (.var .i64 3)) (.lit .u64 127)) (.lit .u64 16)))
def qPage0 : Tm := (.bin .add (.bin .add (.bin .add (.bin .rem (.conv .u64 (.var .i64 0)) (.lit .u64 8)) (.bin .mul (.bin .rem (.conv .u64 (.var .i64 1)) (.lit .u64 1024)) (.lit .u64 8))) (.bin .mul (.bin .rem (.conv .u64 (.var .i64 2)) (.lit .u64 4)) (.lit .u64 8192))) (.bin .mul (.bin .rem (.conv .u64 (.var .i64 3)) (.lit .u64 128)) (.lit .u64 65536)))
def refOf0 : Tm := (.conv .i64 (.bin .and (.bin .shr (.var .u64 0) (.lit .u64 0)) (.lit .u64 16777215)))
def refOf1 : Tm := (.bin .eql (.conv .i64 (.bin .and (.bin .shr (.var .u64 0) (.lit .u64 24)) (.lit .u64 1))) (.lit .i64 1))
def refOf2 : Tm := (.conv .u32 (.bin .and (.bin .shr (.var .u64 0) (.lit .u64 32)) (.lit .u64 4294967295)))
def stateOf0 : Tm := (.conv .i64 (.bin .and (.bin .shr (.var .u64 0) (.lit .u64 0)) (.lit .u64 3)))
def stateOf1 : Tm := (.conv .i64 (.bin .and (.bin .shr (.var .u64 0) (.lit .u64 2)) (.lit .u64 65535)))
def stateOf2 : Tm := (.conv .i64 (.bin .and (.bin .shr (.var .u64 0) (.lit .u64 18)) (.lit .u64 4095)))
def stateOf3 : Tm := (.conv .u32 (.bin .and (.bin .shr (.var .u64 0) (.lit .u64 32)) (.lit .u64 4294967295)))
def pageOf0 : Tm := (.conv .i64 (.bin .and (.bin .shr (.var .u64 0) (.lit .u64 0)) (.lit .u64 7)))
def pageOf1 : Tm := (.conv .i64 (.bin .and (.bin .shr (.var .u64 0) (.lit .u64 3)) (.lit .u64 1023)))
def pageOf2 : Tm := (.conv .i64 (.bin .and (.bin .shr (.var .u64 0) (.lit .u64 13)) (.lit .u64 3)))
def pageOf3 : Tm := (.conv .i64 (.bin .and (.bin .shr (.var .u64 0) (.lit .u64 16)) (.lit .u64 127)))
def bitsOftrue0 : Tm := (.conv .u8 (.bin .and (.bin .shr (.var .u64 0) (.lit .u64 0)) (.lit .u64 255)))
def bitsOftrue2 : Tm := (.bin .sub (.conv .i64 (.bin .and (.bin .shr (.var .u64 0) (.lit .u64 8)) (.lit .u64 7))) (.lit .i64 1))
def bitsOftrue3 : Tm := (.conv .u32 (.bin .and (.bin .shr (.var .u64 0) (.lit .u64 32)) (.lit .u64 4294967295)))
def bitsOffalse0 : Tm := (.conv .u8 (.bin .and (.bin .shr (.var .u64 0) (.lit .u64 0)) (.lit .u64 255)))
def bitsOffalse3 : Tm := (.conv .u32 (.bin .and (.bin .shr (.var .u64 0) (.lit .u64 32)) (.lit .u64 4294967295)))
theorem hcs0 (S : Sy) : ∀ c ∈ ([] : List Ctr), CtrOk Try.prog S [] c := fun c hc => by simp at hc
def refA : List Lf := [.int .i64, .bool, .int .u32]
def stateA : List Lf := [.int .i64, .int .i64, .int .i64, .int .u32]
def pageA : List Lf := [.int .i64, .int .i64, .int .i64, .int .i64]
def bitsA : List Lf := [.int .u8, .bool, .int .i64, .int .u32]

theorem ref_t (i : Int) (b : Bool) (v : Int) (w : World) : Calls Try.prog 9 #[.agg #[.int .i64 i, .bool b, .int .u32 v]] w fun e w' => e = .returned (.int .u64 (refW i (b2i b) v)) ∧ Quiet w w' := by
  have e0 : (Tm.var .i64 0).den (sy [i, 0, v]) = some [i] := rfl
  have e2 : (Tm.var .u32 2).den (sy [i, 0, v]) = some [v] := rfl
  have f0 := den_lay e0 16777215 24 0 (by decide) (by decide) (by decide) (by decide)
  have f2 := den_lay e2 4294967295 32 32 (by decide) (by decide) (by decide) (by decide)
  simp only [show (2 : Int) ^ 24 = 16777216 by decide, show (2 : Int) ^ 32 = 4294967296 by decide, Int.pow_zero, Int.mul_one] at f0 f2
  cases b with
  | true =>
    refine symOne env (AlOk.nil (sy [i, 0, v])) (hcs0 _) (n := 1000) (args := [.agg #[.float .f64 (0 * 512 + kI .i64), .bool true, .float .f64 (2 * 512 + kI .u32)]]) (args' := [.agg #[.int .i64 i, .bool true, .int .u32 v]]) (k := .u64) tReftrue0 (by kernel_rfl) (by kernel_rfl) ?_ (fun G => by kernel_rfl) (fun G ι => vs_agg (vs_sym rfl (vs_bool (vs_sym rfl vs_nil))) vs_nil) w (gok w)
    have g := den_or 32 (den_or (B := .lit .u64 16777216) 24 f0 rfl rfl (by omega) (by omega) (by decide) (by decide) (by omega)) f2 rfl (by omega) (by omega) (by omega) (by omega) (by omega)
    exact g
  | false =>
    refine symOne env (AlOk.nil (sy [i, 0, v])) (hcs0 _) (n := 1000) (args := [.agg #[.float .f64 (0 * 512 + kI .i64), .bool false, .float .f64 (2 * 512 + kI .u32)]]) (args' := [.agg #[.int .i64 i, .bool false, .int .u32 v]]) (k := .u64) tReffalse0 (by kernel_rfl) (by kernel_rfl) ?_ (fun G => by kernel_rfl) (fun G ι => vs_agg (vs_sym rfl (vs_bool (vs_sym rfl vs_nil))) vs_nil) w (gok w)
    have g := den_or 32 (den_or (B := .lit .u64 0) 24 f0 rfl rfl (by omega) (by omega) (by decide) (by decide) (by omega)) f2 rfl (by omega) (by omega) (by omega) (by omega) (by omega)
    exact g

theorem ref_q (i : Int) (b : Bool) (v : Int) (w : World) : Calls Try.prog 10 #[.int .i64 i, .bool b, .int .u32 v] w fun e w' => e = .returned (.int .u64 (refW i (b2i b) v)) ∧ Quiet w w' := by
  have e0 : (Tm.var .i64 0).den (sy [i, 0, v]) = some [i] := rfl
  have e2 : (Tm.var .u32 2).den (sy [i, 0, v]) = some [v] := rfl
  have f0 := den_low e0 16777216 (by decide) (by decide)
  have f2 := den_ver e2
  have g := den_add f0 f2 rfl (by omega) (by omega)
  cases b with
  | true =>
    refine symOne env (AlOk.nil (sy [i, 0, v])) (hcs0 _) (n := 1000) (args := [.float .f64 (0 * 512 + kI .i64), .bool true, .float .f64 (2 * 512 + kI .u32)]) (args' := [.int .i64 i, .bool true, .int .u32 v]) (k := .u64) qReftrue0 (by kernel_rfl) (by kernel_rfl) ?_ (fun G => by kernel_rfl) (fun G ι => vs_sym rfl (vs_bool (vs_sym rfl vs_nil))) w (gok w)
    have := den_add (B := .lit .u64 16777216) g rfl rfl (by omega) (by omega)
    rw [show refW i (b2i true) v = i % 16777216 + v % 4294967296 * 4294967296 + 16777216 by unfold refW b2i; simp; omega]
    exact this
  | false =>
    refine symOne env (AlOk.nil (sy [i, 0, v])) (hcs0 _) (n := 1000) (args := [.float .f64 (0 * 512 + kI .i64), .bool false, .float .f64 (2 * 512 + kI .u32)]) (args' := [.int .i64 i, .bool false, .int .u32 v]) (k := .u64) qReffalse0 (by kernel_rfl) (by kernel_rfl) ?_ (fun G => by kernel_rfl) (fun G ι => vs_sym rfl (vs_bool (vs_sym rfl vs_nil))) w (gok w)
    rw [show refW i (b2i false) v = i % 16777216 + v % 4294967296 * 4294967296 by unfold refW b2i; simp]
    exact g
theorem state_t (k s o v : Int) (w : World) : Calls Try.prog 11 #[.agg #[.int .i64 k, .int .i64 s, .int .i64 o, .int .u32 v]] w fun e w' => e = .returned (.int .u64 (stateW k s o v)) ∧ Quiet w w' := by
  have e0 : (Tm.var .i64 0).den (sy [k, s, o, v]) = some [k] := rfl
  have e1 : (Tm.var .i64 1).den (sy [k, s, o, v]) = some [s] := rfl
  have e2 : (Tm.var .i64 2).den (sy [k, s, o, v]) = some [o] := rfl
  have e3 : (Tm.var .u32 3).den (sy [k, s, o, v]) = some [v] := rfl
  have f0 := den_lay e0 3 2 0 (by decide) (by decide) (by decide) (by decide)
  have f1 := den_lay e1 65535 16 2 (by decide) (by decide) (by decide) (by decide)
  have f2 := den_lay e2 4095 12 18 (by decide) (by decide) (by decide) (by decide)
  have f3 := den_lay e3 4294967295 32 32 (by decide) (by decide) (by decide) (by decide)
  simp only [show (2 : Int) ^ 2 = 4 by decide, show (2 : Int) ^ 12 = 4096 by decide, show (2 : Int) ^ 16 = 65536 by decide, show (2 : Int) ^ 18 = 262144 by decide, show (2 : Int) ^ 32 = 4294967296 by decide, Int.pow_zero, Int.mul_one] at f0 f1 f2 f3
  exact symOne env (AlOk.nil (sy [k, s, o, v])) (hcs0 _) (n := 1000) (args := [.agg #[.float .f64 (0 * 512 + kI .i64), .float .f64 (1 * 512 + kI .i64), .float .f64 (2 * 512 + kI .i64), .float .f64 (3 * 512 + kI .u32)]]) (args' := [.agg #[.int .i64 k, .int .i64 s, .int .i64 o, .int .u32 v]]) (k := .u64) tState0 (by kernel_rfl) (by kernel_rfl) (den_or 32 (den_or 18 (den_or 2 f0 f1 rfl (by omega) (by omega) (by omega) (by omega) (by omega)) f2 rfl (by omega) (by omega) (by omega) (by omega) (by omega)) f3 rfl (by omega) (by omega) (by omega) (by omega) (by omega)) (fun G => by kernel_rfl) (fun G ι => vs_agg (vs_sym rfl (vs_sym rfl (vs_sym rfl (vs_sym rfl vs_nil)))) vs_nil) w (gok w)
theorem state_q (k s o v : Int) (w : World) : Calls Try.prog 12 #[.int .i64 k, .int .i64 s, .int .i64 o, .int .u32 v] w fun e w' => e = .returned (.int .u64 (stateW k s o v)) ∧ Quiet w w' := by
  have e0 : (Tm.var .i64 0).den (sy [k, s, o, v]) = some [k] := rfl
  have e1 : (Tm.var .i64 1).den (sy [k, s, o, v]) = some [s] := rfl
  have e2 : (Tm.var .i64 2).den (sy [k, s, o, v]) = some [o] := rfl
  have e3 : (Tm.var .u32 3).den (sy [k, s, o, v]) = some [v] := rfl
  have f0 := den_low e0 4 (by decide) (by decide)
  have f1 := den_mul (den_low e1 65536 (by decide) (by decide)) rfl 4 (by omega) (by omega)
  have f2 := den_mul (den_low e2 4096 (by decide) (by decide)) rfl 262144 (by omega) (by omega)
  have f3 := den_ver e3
  exact symOne env (AlOk.nil (sy [k, s, o, v])) (hcs0 _) (n := 1000) (args := [.float .f64 (0 * 512 + kI .i64), .float .f64 (1 * 512 + kI .i64), .float .f64 (2 * 512 + kI .i64), .float .f64 (3 * 512 + kI .u32)]) (args' := [.int .i64 k, .int .i64 s, .int .i64 o, .int .u32 v]) (k := .u64) qState0 (by kernel_rfl) (by kernel_rfl) (den_add (den_add (den_add f0 f1 rfl (by omega) (by omega)) f2 rfl (by omega) (by omega)) f3 rfl (by omega) (by omega)) (fun G => by kernel_rfl) (fun G ι => vs_sym rfl (vs_sym rfl (vs_sym rfl (vs_sym rfl vs_nil)))) w (gok w)
theorem page_t (k l c o : Int) (w : World) : Calls Try.prog 13 #[.agg #[.int .i64 k, .int .i64 l, .int .i64 c, .int .i64 o]] w fun e w' => e = .returned (.int .u64 (pageW k l c o)) ∧ Quiet w w' := by
  have e0 : (Tm.var .i64 0).den (sy [k, l, c, o]) = some [k] := rfl
  have e1 : (Tm.var .i64 1).den (sy [k, l, c, o]) = some [l] := rfl
  have e2 : (Tm.var .i64 2).den (sy [k, l, c, o]) = some [c] := rfl
  have e3 : (Tm.var .i64 3).den (sy [k, l, c, o]) = some [o] := rfl
  have f0 := den_lay e0 7 3 0 (by decide) (by decide) (by decide) (by decide)
  have f1 := den_lay e1 1023 10 3 (by decide) (by decide) (by decide) (by decide)
  have f2 := den_lay e2 3 2 13 (by decide) (by decide) (by decide) (by decide)
  have f3 := den_lay e3 127 7 16 (by decide) (by decide) (by decide) (by decide)
  simp only [show (2 : Int) ^ 2 = 4 by decide, show (2 : Int) ^ 3 = 8 by decide, show (2 : Int) ^ 7 = 128 by decide, show (2 : Int) ^ 10 = 1024 by decide, show (2 : Int) ^ 13 = 8192 by decide, show (2 : Int) ^ 16 = 65536 by decide, Int.pow_zero, Int.mul_one] at f0 f1 f2 f3
  exact symOne env (AlOk.nil (sy [k, l, c, o])) (hcs0 _) (n := 1000) (args := [.agg #[.float .f64 (0 * 512 + kI .i64), .float .f64 (1 * 512 + kI .i64), .float .f64 (2 * 512 + kI .i64), .float .f64 (3 * 512 + kI .i64)]]) (args' := [.agg #[.int .i64 k, .int .i64 l, .int .i64 c, .int .i64 o]]) (k := .u64) tPage0 (by kernel_rfl) (by kernel_rfl) (den_or 16 (den_or 13 (den_or 3 f0 f1 rfl (by omega) (by omega) (by omega) (by omega) (by omega)) f2 rfl (by omega) (by omega) (by omega) (by omega) (by omega)) f3 rfl (by omega) (by omega) (by omega) (by omega) (by omega)) (fun G => by kernel_rfl) (fun G ι => vs_agg (vs_sym rfl (vs_sym rfl (vs_sym rfl (vs_sym rfl vs_nil)))) vs_nil) w (gok w)
theorem page_q (k l c o : Int) (w : World) : Calls Try.prog 14 #[.int .i64 k, .int .i64 l, .int .i64 c, .int .i64 o] w fun e w' => e = .returned (.int .u64 (pageW k l c o)) ∧ Quiet w w' := by
  have e0 : (Tm.var .i64 0).den (sy [k, l, c, o]) = some [k] := rfl
  have e1 : (Tm.var .i64 1).den (sy [k, l, c, o]) = some [l] := rfl
  have e2 : (Tm.var .i64 2).den (sy [k, l, c, o]) = some [c] := rfl
  have e3 : (Tm.var .i64 3).den (sy [k, l, c, o]) = some [o] := rfl
  have f0 := den_low e0 8 (by decide) (by decide)
  have f1 := den_mul (den_low e1 1024 (by decide) (by decide)) rfl 8 (by omega) (by omega)
  have f2 := den_mul (den_low e2 4 (by decide) (by decide)) rfl 8192 (by omega) (by omega)
  have f3 := den_mul (den_low e3 128 (by decide) (by decide)) rfl 65536 (by omega) (by omega)
  exact symOne env (AlOk.nil (sy [k, l, c, o])) (hcs0 _) (n := 1000) (args := [.float .f64 (0 * 512 + kI .i64), .float .f64 (1 * 512 + kI .i64), .float .f64 (2 * 512 + kI .i64), .float .f64 (3 * 512 + kI .i64)]) (args' := [.int .i64 k, .int .i64 l, .int .i64 c, .int .i64 o]) (k := .u64) qPage0 (by kernel_rfl) (by kernel_rfl) (den_add (den_add (den_add f0 f1 rfl (by omega) (by omega)) f2 rfl (by omega) (by omega)) f3 rfl (by omega) (by omega)) (fun G => by kernel_rfl) (fun G ι => vs_sym rfl (vs_sym rfl (vs_sym rfl (vs_sym rfl vs_nil)))) w (gok w)

theorem i64_mod8 (c : Int) : IntKind.i64.wrap (c + 1) % 8 = (c + 1) % 8 := by rw [wrap_i64]; omega
theorem bits_t (m : Int) (b : Bool) (c v : Int) (w : World) : Calls Try.prog 15 #[.agg #[.int .u8 m, .bool b, .int .i64 c, .int .u32 v]] w fun e w' => e = .returned (.int .u64 (bitsW m (b2i b) c v)) ∧ Quiet w w' := by
  have e0 : (Tm.var .u8 0).den (sy [m, 0, c, v]) = some [m] := rfl
  have e2 : (Tm.bin .add (.var .i64 2) (.lit .i64 1)).den (sy [m, 0, c, v]) = some [IntKind.i64.wrap (c + 1)] := rfl
  have e3 : (Tm.var .u32 3).den (sy [m, 0, c, v]) = some [v] := rfl
  have f0 := den_lay e0 255 8 0 (by decide) (by decide) (by decide) (by decide)
  have f2 := den_lay e2 7 3 8 (by decide) (by decide) (by decide) (by decide)
  have f3 := den_lay e3 4294967295 32 32 (by decide) (by decide) (by decide) (by decide)
  simp only [show (2 : Int) ^ 8 = 256 by decide, show (2 : Int) ^ 3 = 8 by decide, show (2 : Int) ^ 32 = 4294967296 by decide, Int.pow_zero, Int.mul_one, i64_mod8] at f0 f2 f3
  have g := den_or 32 f0 f3 rfl (by omega) (by omega) (by omega) (by omega) (by omega)
  cases b with
  | true =>
    refine symOne env (AlOk.nil (sy [m, 0, c, v])) (hcs0 _) (n := 1000) (args := [.agg #[.float .f64 (0 * 512 + kI .u8), .bool true, .float .f64 (2 * 512 + kI .i64), .float .f64 (3 * 512 + kI .u32)]]) (args' := [.agg #[.int .u8 m, .bool true, .int .i64 c, .int .u32 v]]) (k := .u64) tBitstrue0 (by kernel_rfl) (by kernel_rfl) ?_ (fun G => by kernel_rfl) (fun G ι => vs_agg (vs_sym rfl (vs_bool (vs_sym rfl (vs_sym rfl vs_nil)))) vs_nil) w (gok w)
    exact den_or3 (m % 256) (v % 4294967296) ((c + 1) % 8) g f2 rfl (by omega) (by omega) (by omega) (by omega) (by omega) (by omega)
  | false =>
    refine symOne env (AlOk.nil (sy [m, 0, c, v])) (hcs0 _) (n := 1000) (args := [.agg #[.float .f64 (0 * 512 + kI .u8), .bool false, .float .f64 (2 * 512 + kI .i64), .float .f64 (3 * 512 + kI .u32)]]) (args' := [.agg #[.int .u8 m, .bool false, .int .i64 c, .int .u32 v]]) (k := .u64) tBitsfalse0 (by kernel_rfl) (by kernel_rfl) ?_ (fun G => by kernel_rfl) (fun G ι => vs_agg (vs_sym rfl (vs_bool (vs_sym rfl (vs_sym rfl vs_nil)))) vs_nil) w (gok w)
    rw [show bitsW m (b2i false) c v = m % 256 + v % 4294967296 * 4294967296 by unfold bitsW b2i; simp]
    exact g
theorem bits_q (m : Int) (b : Bool) (c v : Int) (w : World) : Calls Try.prog 16 #[.int .u8 m, .bool b, .int .i64 c, .int .u32 v] w fun e w' => e = .returned (.int .u64 (bitsR m (b2i b) c v)) ∧ Quiet w w' := by
  have e0 : (Tm.conv .u64 (.var .u8 0)).den (sy [m, 0, c, v]) = some [m % 18446744073709551616] := den_conv .u64 rfl (wrap_u64 m)
  have e2 : (Tm.bin .add (.var .i64 2) (.lit .i64 1)).den (sy [m, 0, c, v]) = some [IntKind.i64.wrap (c + 1)] := rfl
  have e3 : (Tm.var .u32 3).den (sy [m, 0, c, v]) = some [v] := rfl
  have f3 := den_ver e3
  have f2 := den_mul (den_low e2 8 (by decide) (by decide)) rfl 256 (by omega) (by omega)
  rw [i64_mod8] at f2
  have hu : ∀ (A B : Tm) (a b : Int), A.den (sy [m, 0, c, v]) = some [a] → B.den (sy [m, 0, c, v]) = some [b] → A.kd = .u64 → (Tm.bin .add A B).den (sy [m, 0, c, v]) = some [(a + b) % 18446744073709551616] := fun A B a b hA hB hk =>
    den_bin (k := .u64) hA hB (by rw [hk]; show some (Value.int .u64 (IntKind.u64.wrap (a + b))) = _; rw [wrap_u64])
  have g := hu _ _ _ _ e0 f3 rfl
  cases b with
  | true =>
    refine symOne env (AlOk.nil (sy [m, 0, c, v])) (hcs0 _) (n := 1000) (args := [.float .f64 (0 * 512 + kI .u8), .bool true, .float .f64 (2 * 512 + kI .i64), .float .f64 (3 * 512 + kI .u32)]) (args' := [.int .u8 m, .bool true, .int .i64 c, .int .u32 v]) (k := .u64) qBitstrue0 (by kernel_rfl) (by kernel_rfl) ?_ (fun G => by kernel_rfl) (fun G ι => vs_sym rfl (vs_bool (vs_sym rfl (vs_sym rfl vs_nil)))) w (gok w)
    have := hu _ _ _ _ g f2 rfl
    rw [show bitsR m (b2i true) c v = ((m % 18446744073709551616 + v % 4294967296 * 4294967296) % 18446744073709551616 + (c + 1) % 8 * 256) % 18446744073709551616 from rfl]
    exact this
  | false =>
    refine symOne env (AlOk.nil (sy [m, 0, c, v])) (hcs0 _) (n := 1000) (args := [.float .f64 (0 * 512 + kI .u8), .bool false, .float .f64 (2 * 512 + kI .i64), .float .f64 (3 * 512 + kI .u32)]) (args' := [.int .u8 m, .bool false, .int .i64 c, .int .u32 v]) (k := .u64) qBitsfalse0 (by kernel_rfl) (by kernel_rfl) ?_ (fun G => by kernel_rfl) (fun G ι => vs_sym rfl (vs_bool (vs_sym rfl (vs_sym rfl vs_nil)))) w (gok w)
    exact g

/-! ### The counterparts -/
theorem wi64 {x : Int} (h0 : 0 ≤ x) (h1 : x < 9223372036854775808) : IntKind.i64.wrap x = x := by rw [wrap_i64]; omega
theorem wu32 {x : Int} (h0 : 0 ≤ x) (h1 : x < 4294967296) : IntKind.u32.wrap x = x := by rw [wrap_u32]; omega
theorem wu8 {x : Int} (h0 : 0 ≤ x) (h1 : x < 256) : IntKind.u8.wrap x = x := by rw [wrap_u8]; omega
theorem cuts (x : Int) (m : Int) (n s : Nat) (N M : Int) (hN : N = 2 ^ n) (hM : M = 2 ^ s) (hm : m = 2 ^ n - 1) (hn : n ≤ 64) (hs : s < 64) : (Tm.bin .and (.bin .shr (.var .u64 0) (.lit .u64 s)) (.lit .u64 m)).den (sy [x]) = some [x / M % N] := by
  subst hN
  subst hM
  exact den_and (X := .var .u64 0) rfl rfl m n s hm hn hs
theorem ref_of (x : Int) (w : World) : Calls Try.prog 18 #[.int .u64 x] w fun e w' => e = .returned (.agg #[.int .i64 (x % 16777216), .bool (decide (x / 16777216 % 2 ≠ 0)), .int .u32 (x / 4294967296 % 4294967296)]) ∧ Quiet w w' := by
  refine Calls.mono (symRun env (AlOk.nil (sy [x])) (hcs0 _) (n := 1000) (args := [.float .f64 (0 * 512 + kI .u64)]) (args' := [.int .u64 x]) (res := [.agg refA]) (vs := [.agg #[.float .f64 refOf0.enc, .float .f64 refOf1.enc, .float .f64 refOf2.enc]]) (rcs := [refOf0.enc, refOf1.enc, refOf2.enc])
    (rs := [x % 16777216, b2i (decide (x / 16777216 % 2 = 1)), x / 4294967296 % 4294967296]) (by kernel_rfl) ?_ (fun G => by kernel_rfl) (fun G ι => vs_sym rfl vs_nil) w (gok w)) fun e w' ⟨h1, h2⟩ => ⟨?_, h2⟩
  · refine ⟨(refOf0.ev_enc _ (by kernel_rfl)).trans ?_, (refOf1.ev_enc _ (by kernel_rfl)).trans ?_, (refOf2.ev_enc _ (by kernel_rfl)).trans ?_, trivial⟩
    · exact den_conv .i64 (cuts x 16777215 24 0 16777216 1 (by decide) (by decide) (by decide) (by decide) (by decide)) (by rw [wi64 (by omega) (by omega)]; omega)
    · exact den_cmp (den_conv .i64 (cuts x 1 1 24 2 16777216 (by decide) (by decide) (by decide) (by decide) (by decide)) (wi64 (by omega) (by omega))) (den_lit _ _) rfl
    · exact den_conv .u32 (cuts x 4294967295 32 32 4294967296 4294967296 (by decide) (by decide) (by decide) (by decide) (by decide)) (wu32 (by omega) (by omega))
  · rw [h1]
    show Ending.returned (.agg #[.int .i64 (x % 16777216), .bool (decide (b2i (decide (x / 16777216 % 2 = 1)) ≠ 0)), .int .u32 (x / 4294967296 % 4294967296)]) = _
    rw [b2i_ne, show decide (x / 16777216 % 2 = 1) = decide (x / 16777216 % 2 ≠ 0) by rw [Bool.eq_iff_iff]; simp; omega]
theorem state_of (x : Int) (w : World) : Calls Try.prog 19 #[.int .u64 x] w fun e w' => e = .returned (.agg #[.int .i64 (x % 4), .int .i64 (x / 4 % 65536), .int .i64 (x / 262144 % 4096), .int .u32 (x / 4294967296 % 4294967296)]) ∧ Quiet w w' := by
  refine Calls.mono (symRun env (AlOk.nil (sy [x])) (hcs0 _) (n := 1000) (args := [.float .f64 (0 * 512 + kI .u64)]) (args' := [.int .u64 x]) (res := [.agg stateA]) (vs := [.agg #[.float .f64 stateOf0.enc, .float .f64 stateOf1.enc, .float .f64 stateOf2.enc, .float .f64 stateOf3.enc]]) (rcs := [stateOf0.enc, stateOf1.enc, stateOf2.enc, stateOf3.enc])
    (rs := [x % 4, x / 4 % 65536, x / 262144 % 4096, x / 4294967296 % 4294967296]) (by kernel_rfl) ?_ (fun G => by kernel_rfl) (fun G ι => vs_sym rfl vs_nil) w (gok w)) fun e w' ⟨h1, h2⟩ => ⟨h1, h2⟩
  refine ⟨(stateOf0.ev_enc _ (by kernel_rfl)).trans ?_, (stateOf1.ev_enc _ (by kernel_rfl)).trans ?_, (stateOf2.ev_enc _ (by kernel_rfl)).trans ?_, (stateOf3.ev_enc _ (by kernel_rfl)).trans ?_, trivial⟩
  · exact den_conv .i64 (cuts x 3 2 0 4 1 (by decide) (by decide) (by decide) (by decide) (by decide)) (by rw [wi64 (by omega) (by omega)]; omega)
  · exact den_conv .i64 (cuts x 65535 16 2 65536 4 (by decide) (by decide) (by decide) (by decide) (by decide)) (wi64 (by omega) (by omega))
  · exact den_conv .i64 (cuts x 4095 12 18 4096 262144 (by decide) (by decide) (by decide) (by decide) (by decide)) (wi64 (by omega) (by omega))
  · exact den_conv .u32 (cuts x 4294967295 32 32 4294967296 4294967296 (by decide) (by decide) (by decide) (by decide) (by decide)) (wu32 (by omega) (by omega))
theorem page_of (x : Int) (w : World) : Calls Try.prog 20 #[.int .u64 x] w fun e w' => e = .returned (.agg #[.int .i64 (x % 8), .int .i64 (x / 8 % 1024), .int .i64 (x / 8192 % 4), .int .i64 (x / 65536 % 128)]) ∧ Quiet w w' := by
  refine Calls.mono (symRun env (AlOk.nil (sy [x])) (hcs0 _) (n := 1000) (args := [.float .f64 (0 * 512 + kI .u64)]) (args' := [.int .u64 x]) (res := [.agg pageA]) (vs := [.agg #[.float .f64 pageOf0.enc, .float .f64 pageOf1.enc, .float .f64 pageOf2.enc, .float .f64 pageOf3.enc]]) (rcs := [pageOf0.enc, pageOf1.enc, pageOf2.enc, pageOf3.enc])
    (rs := [x % 8, x / 8 % 1024, x / 8192 % 4, x / 65536 % 128]) (by kernel_rfl) ?_ (fun G => by kernel_rfl) (fun G ι => vs_sym rfl vs_nil) w (gok w)) fun e w' ⟨h1, h2⟩ => ⟨h1, h2⟩
  refine ⟨(pageOf0.ev_enc _ (by kernel_rfl)).trans ?_, (pageOf1.ev_enc _ (by kernel_rfl)).trans ?_, (pageOf2.ev_enc _ (by kernel_rfl)).trans ?_, (pageOf3.ev_enc _ (by kernel_rfl)).trans ?_, trivial⟩
  · exact den_conv .i64 (cuts x 7 3 0 8 1 (by decide) (by decide) (by decide) (by decide) (by decide)) (by rw [wi64 (by omega) (by omega)]; omega)
  · exact den_conv .i64 (cuts x 1023 10 3 1024 8 (by decide) (by decide) (by decide) (by decide) (by decide)) (wi64 (by omega) (by omega))
  · exact den_conv .i64 (cuts x 3 2 13 4 8192 (by decide) (by decide) (by decide) (by decide) (by decide)) (wi64 (by omega) (by omega))
  · exact den_conv .i64 (cuts x 127 7 16 128 65536 (by decide) (by decide) (by decide) (by decide) (by decide)) (wi64 (by omega) (by omega))
/-- Has a word of Bits a class? -/
def hasT : Tm := .bin .neq (.conv .i64 (.bin .and (.bin .shr (.var .u64 0) (.lit .u64 8)) (.lit .u64 7))) (.lit .i64 0)
theorem bits_of (x : Int) (w : World) : Calls Try.prog 21 #[.int .u64 x] w fun e w' => e = .returned (.agg #[.int .u8 (x % 256), .bool (decide (x / 256 % 8 ≠ 0)), .int .i64 (if x / 256 % 8 = 0 then 0 else x / 256 % 8 - 1), .int .u32 (x / 4294967296 % 4294967296)]) ∧ Quiet w w' := by
  have c := den_conv .i64 (cuts x 7 3 8 8 256 (by decide) (by decide) (by decide) (by decide) (by decide)) (wi64 (by omega) (by omega))
  have h0 : bitsOftrue0.den (sy [x]) = some [x % 256] := den_conv .u8 (cuts x 255 8 0 256 1 (by decide) (by decide) (by decide) (by decide) (by decide)) (by rw [wu8 (by omega) (by omega)]; omega)
  have h3 : bitsOftrue3.den (sy [x]) = some [x / 4294967296 % 4294967296] := den_conv .u32 (cuts x 4294967295 32 32 4294967296 4294967296 (by decide) (by decide) (by decide) (by decide) (by decide)) (wu32 (by omega) (by omega))
  have hh : hasT.den (sy [x]) = some [b2i (decide (x / 256 % 8 ≠ 0))] := den_cmp c (den_lit _ _) rfl
  by_cases hz : x / 256 % 8 = 0
  · refine Calls.mono (symRun env (al_is hasT false (by kernel_rfl) (by rw [hh]; simp [hz]) (AlOk.nil (sy [x]))) (hcs0 _) (n := 1000) (args := [.float .f64 (0 * 512 + kI .u64)]) (args' := [.int .u64 x]) (res := [.agg bitsA])
      (vs := [.agg #[.float .f64 bitsOftrue0.enc, .bool false, .int .i64 0, .float .f64 bitsOftrue3.enc]]) (rcs := [bitsOftrue0.enc, litB false, lit .i64 0, bitsOftrue3.enc])
      (rs := [x % 256, 0, 0, x / 4294967296 % 4294967296]) (by kernel_rfl) ⟨(bitsOftrue0.ev_enc _ (by kernel_rfl)).trans h0, ev_litB _ _, ev_lit _ _ _, (bitsOftrue3.ev_enc _ (by kernel_rfl)).trans h3, trivial⟩ (fun G => by kernel_rfl) (fun G ι => vs_sym rfl vs_nil) w (gok w)) fun e w' ⟨h1, h2⟩ => ⟨?_, h2⟩
    rw [h1, if_pos hz, show decide (x / 256 % 8 ≠ 0) = false by simp [hz]]
    rfl
  · refine Calls.mono (symRun env (al_is hasT true (by kernel_rfl) (by rw [hh]; simp [hz]) (AlOk.nil (sy [x]))) (hcs0 _) (n := 1000) (args := [.float .f64 (0 * 512 + kI .u64)]) (args' := [.int .u64 x]) (res := [.agg bitsA])
      (vs := [.agg #[.float .f64 bitsOftrue0.enc, .bool true, .float .f64 bitsOftrue2.enc, .float .f64 bitsOftrue3.enc]]) (rcs := [bitsOftrue0.enc, litB true, bitsOftrue2.enc, bitsOftrue3.enc])
      (rs := [x % 256, 1, x / 256 % 8 - 1, x / 4294967296 % 4294967296]) (by kernel_rfl) ⟨(bitsOftrue0.ev_enc _ (by kernel_rfl)).trans h0, ev_litB _ _, (bitsOftrue2.ev_enc _ (by kernel_rfl)).trans ?_, (bitsOftrue3.ev_enc _ (by kernel_rfl)).trans h3, trivial⟩ (fun G => by kernel_rfl) (fun G ι => vs_sym rfl vs_nil) w (gok w)) fun e w' ⟨h1, h2⟩ => ⟨?_, h2⟩
    · exact den_bin (k := .i64) c (den_lit _ _) (by show some (Value.int .i64 (IntKind.i64.wrap _)) = _; rw [wi64 (by omega) (by omega)])
    · rw [h1, if_neg hz, show decide (x / 256 % 8 ≠ 0) = true by simp [hz]]
      rfl
end Go.Proofs.Ytacdbgepncimgaa
