/-
  Stage 1: WordPacks, run with symbols. No condition.
-/
import Derived.Test.YtacdbgepncimgaaW2
namespace Go.Proofs.Ytacdbgepncimgaa
open Go.Ev Go.RowKit
set_option maxRecDepth 100000
def pk0 : Tm := (.bin .eql (.app .u64 0 (.cons (.var .i64 0) (.cons (.bin .neq (.var .u8 1) (.lit .u8 0)) (.cons (.var .u32 2) .nil)))) (.app .u64 0 (.cons (.var .i64 0) (.cons (.bin .neq (.var .u8 1) (.lit .u8 0)) (.cons (.var .u32 2) .nil)))))
def pk1 : Tm := (.bin .eql (.app .u64 1 (.cons (.var .i64 3) (.cons (.var .i64 4) (.cons (.var .i64 5) (.cons (.var .u32 6) .nil))))) (.app .u64 1 (.cons (.var .i64 3) (.cons (.var .i64 4) (.cons (.var .i64 5) (.cons (.var .u32 6) .nil))))))
def pk2 : Tm := (.bin .eql (.app .u64 2 (.cons (.var .i64 7) (.cons (.var .i64 8) (.cons (.var .i64 9) (.cons (.var .i64 10) .nil))))) (.app .u64 2 (.cons (.var .i64 7) (.cons (.var .i64 8) (.cons (.var .i64 9) (.cons (.var .i64 10) .nil))))))
def pk3 : Tm := (.bin .eql (.app .u64 3 (.cons (.var .u8 11) (.cons (.bin .neq (.var .u8 12) (.lit .u8 0)) (.cons (.var .i64 13) (.cons (.var .u32 14) .nil))))) (.app .u64 4 (.cons (.var .u8 11) (.cons (.bin .neq (.var .u8 12) (.lit .u8 0)) (.cons (.var .i64 13) (.cons (.var .u32 14) .nil))))))
theorem packs_any (i : Int) (b : Bool) (v k s o v2 k2 l2 c2 o2 m : Int) (h : Bool) (c v3 : Int) (hm : 0 ≤ m) (hm2 : m < 256) (w : World) :
    Calls Try.prog 3 #[.agg #[.int .i64 i, .bool b, .int .u32 v], .agg #[.int .i64 k, .int .i64 s, .int .i64 o, .int .u32 v2], .agg #[.int .i64 k2, .int .i64 l2, .int .i64 c2, .int .i64 o2], .agg #[.int .u8 m, .bool h, .int .i64 c, .int .u32 v3]] w
      fun e w' => e = .returned (.bool true) ∧ Quiet w w' := by
  obtain ⟨l, hl⟩ : ∃ l, l = [i, b2i b, v, k, s, o, v2, k2, l2, c2, o2, m, b2i h, c, v3] := ⟨_, rfl⟩
  have d0 : pk0.den (sy l) = some [b2i true] := tr rfl
  have d1 : pk1.den (sy l) = some [b2i true] := tr rfl
  have d2 : pk2.den (sy l) = some [b2i true] := tr rfl
  have d3 : pk3.den (sy l) = some [b2i true] := by
    subst hl
    refine tr (p := bitsW m (b2i (decide (b2i h ≠ 0))) c v3 = bitsR m (b2i (decide (b2i h ≠ 0))) c v3) ?_
    unfold bitsW bitsR
    split <;> omega
  exact symIs env (al_is awT true (by kernel_rfl) (aw_den l) (al_is pk3 true (by kernel_rfl) d3 (al_is pk2 true (by kernel_rfl) d2 (al_is pk1 true (by kernel_rfl) d1 (al_is pk0 true (by kernel_rfl) d0 (AlOk.nil _)))))) (ctrs_ok l) (n := 1000)
    (args := [.agg #[.float .f64 (0 * 512 + kI .i64), .float .f64 (bsym 1), .float .f64 (2 * 512 + kI .u32)], .agg #[.float .f64 (3 * 512 + kI .i64), .float .f64 (4 * 512 + kI .i64), .float .f64 (5 * 512 + kI .i64), .float .f64 (6 * 512 + kI .u32)],
      .agg #[.float .f64 (7 * 512 + kI .i64), .float .f64 (8 * 512 + kI .i64), .float .f64 (9 * 512 + kI .i64), .float .f64 (10 * 512 + kI .i64)], .agg #[.float .f64 (11 * 512 + kI .u8), .float .f64 (bsym 12), .float .f64 (13 * 512 + kI .i64), .float .f64 (14 * 512 + kI .u32)]])
    (args' := [.agg #[.int .i64 i, .bool b, .int .u32 v], .agg #[.int .i64 k, .int .i64 s, .int .i64 o, .int .u32 v2], .agg #[.int .i64 k2, .int .i64 l2, .int .i64 c2, .int .i64 o2], .agg #[.int .u8 m, .bool h, .int .i64 c, .int .u32 v3]]) true (fun G => by kernel_rfl)
    (fun G ι => by
      subst hl
      exact vs_agg (vs_sym rfl (vs_bsym (by kernel_rfl) rfl (vs_sym rfl vs_nil))) (vs_agg (vs_sym rfl (vs_sym rfl (vs_sym rfl (vs_sym rfl vs_nil)))) (vs_agg (vs_sym rfl (vs_sym rfl (vs_sym rfl (vs_sym rfl vs_nil)))) (vs_agg (vs_sym rfl (vs_bsym (by kernel_rfl) rfl (vs_sym rfl (vs_sym rfl vs_nil)))) vs_nil)))) w (gok w)
end Go.Proofs.Ytacdbgepncimgaa
