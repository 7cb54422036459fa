/-
  Stage 1: WordApart, run with symbols. No condition.
-/
import Derived.Test.YtacdbgepncimgaaW2
namespace Go.Proofs.Ytacdbgepncimgaa
open Go.Ev Go.RowKit
set_option maxRecDepth 100000
def ap0 : Tm := (.bin .geq (.app .i64 16 (.cons (.var .u64 0) .nil)) (.lit .i64 0))
def ap1 : Tm := (.not (.bin .lss (.app .i64 16 (.cons (.var .u64 0) .nil)) (.lit .i64 16777216)))
def ap2 : Tm := (.bin .geq (.app .i64 24 (.cons (.var .u64 0) .nil)) (.lit .i64 0))
def ap3 : Tm := (.not (.bin .lss (.app .i64 24 (.cons (.var .u64 0) .nil)) (.lit .i64 4)))
def ap4 : Tm := (.bin .geq (.app .i64 25 (.cons (.var .u64 0) .nil)) (.lit .i64 0))
def ap5 : Tm := (.not (.bin .lss (.app .i64 25 (.cons (.var .u64 0) .nil)) (.lit .i64 65536)))
def ap6 : Tm := (.bin .geq (.app .i64 26 (.cons (.var .u64 0) .nil)) (.lit .i64 0))
def ap7 : Tm := (.not (.bin .lss (.app .i64 26 (.cons (.var .u64 0) .nil)) (.lit .i64 4096)))
def ap8 : Tm := (.bin .geq (.app .i64 32 (.cons (.var .u64 0) .nil)) (.lit .i64 0))
def ap9 : Tm := (.not (.bin .lss (.app .i64 32 (.cons (.var .u64 0) .nil)) (.lit .i64 8)))
def ap10 : Tm := (.bin .geq (.app .i64 33 (.cons (.var .u64 0) .nil)) (.lit .i64 0))
def ap11 : Tm := (.not (.bin .lss (.app .i64 33 (.cons (.var .u64 0) .nil)) (.lit .i64 1024)))
def ap12 : Tm := (.bin .geq (.app .i64 34 (.cons (.var .u64 0) .nil)) (.lit .i64 0))
def ap13 : Tm := (.not (.bin .lss (.app .i64 34 (.cons (.var .u64 0) .nil)) (.lit .i64 4)))
def ap14 : Tm := (.bin .geq (.app .i64 35 (.cons (.var .u64 0) .nil)) (.lit .i64 0))
def ap15 : Tm := (.not (.bin .lss (.app .i64 35 (.cons (.var .u64 0) .nil)) (.lit .i64 128)))
def ap16 : Tm := (.bin .geq (.app .i64 42 (.cons (.var .u64 0) .nil)) (.lit .i64 0))
def ap17 : Tm := (.not (.bin .lss (.app .i64 42 (.cons (.var .u64 0) .nil)) (.lit .i64 8)))
def ap18 : Tm := (.beq (.bin .eql (.app .u64 0 (.cons (.app .i64 16 (.cons (.var .u64 0) .nil)) (.cons (.appB 17 (.cons (.var .u64 0) .nil)) (.cons (.app .u32 18 (.cons (.var .u64 0) .nil)) .nil)))) (.app .u64 0 (.cons (.app .i64 16 (.cons (.var .u64 1) .nil)) (.cons (.appB 17 (.cons (.var .u64 1) .nil)) (.cons (.app .u32 18 (.cons (.var .u64 1) .nil)) .nil))))) (.and (.bin .eql (.app .i64 16 (.cons (.var .u64 0) .nil)) (.app .i64 16 (.cons (.var .u64 1) .nil))) (.and (.beq (.appB 17 (.cons (.var .u64 0) .nil)) (.appB 17 (.cons (.var .u64 1) .nil))) (.bin .eql (.app .u32 18 (.cons (.var .u64 0) .nil)) (.app .u32 18 (.cons (.var .u64 1) .nil))))))
def ap19 : Tm := (.beq (.bin .eql (.app .u64 1 (.cons (.app .i64 24 (.cons (.var .u64 0) .nil)) (.cons (.app .i64 25 (.cons (.var .u64 0) .nil)) (.cons (.app .i64 26 (.cons (.var .u64 0) .nil)) (.cons (.app .u32 27 (.cons (.var .u64 0) .nil)) .nil))))) (.app .u64 1 (.cons (.app .i64 24 (.cons (.var .u64 1) .nil)) (.cons (.app .i64 25 (.cons (.var .u64 1) .nil)) (.cons (.app .i64 26 (.cons (.var .u64 1) .nil)) (.cons (.app .u32 27 (.cons (.var .u64 1) .nil)) .nil)))))) (.and (.bin .eql (.app .i64 24 (.cons (.var .u64 0) .nil)) (.app .i64 24 (.cons (.var .u64 1) .nil))) (.and (.bin .eql (.app .i64 25 (.cons (.var .u64 0) .nil)) (.app .i64 25 (.cons (.var .u64 1) .nil))) (.and (.bin .eql (.app .i64 26 (.cons (.var .u64 0) .nil)) (.app .i64 26 (.cons (.var .u64 1) .nil))) (.bin .eql (.app .u32 27 (.cons (.var .u64 0) .nil)) (.app .u32 27 (.cons (.var .u64 1) .nil)))))))
def ap20 : Tm := (.beq (.bin .eql (.app .u64 2 (.cons (.app .i64 32 (.cons (.var .u64 0) .nil)) (.cons (.app .i64 33 (.cons (.var .u64 0) .nil)) (.cons (.app .i64 34 (.cons (.var .u64 0) .nil)) (.cons (.app .i64 35 (.cons (.var .u64 0) .nil)) .nil))))) (.app .u64 2 (.cons (.app .i64 32 (.cons (.var .u64 1) .nil)) (.cons (.app .i64 33 (.cons (.var .u64 1) .nil)) (.cons (.app .i64 34 (.cons (.var .u64 1) .nil)) (.cons (.app .i64 35 (.cons (.var .u64 1) .nil)) .nil)))))) (.and (.bin .eql (.app .i64 32 (.cons (.var .u64 0) .nil)) (.app .i64 32 (.cons (.var .u64 1) .nil))) (.and (.bin .eql (.app .i64 33 (.cons (.var .u64 0) .nil)) (.app .i64 33 (.cons (.var .u64 1) .nil))) (.and (.bin .eql (.app .i64 34 (.cons (.var .u64 0) .nil)) (.app .i64 34 (.cons (.var .u64 1) .nil))) (.bin .eql (.app .i64 35 (.cons (.var .u64 0) .nil)) (.app .i64 35 (.cons (.var .u64 1) .nil)))))))
def ap21 : Tm := (.beq (.bin .eql (.app .u64 3 (.cons (.app .u8 40 (.cons (.var .u64 0) .nil)) (.cons (.appB 41 (.cons (.var .u64 0) .nil)) (.cons (.app .i64 42 (.cons (.var .u64 0) .nil)) (.cons (.app .u32 43 (.cons (.var .u64 0) .nil)) .nil))))) (.app .u64 3 (.cons (.app .u8 40 (.cons (.var .u64 1) .nil)) (.cons (.appB 41 (.cons (.var .u64 1) .nil)) (.cons (.app .i64 42 (.cons (.var .u64 1) .nil)) (.cons (.app .u32 43 (.cons (.var .u64 1) .nil)) .nil)))))) (.and (.bin .eql (.app .u8 40 (.cons (.var .u64 0) .nil)) (.app .u8 40 (.cons (.var .u64 1) .nil))) (.and (.beq (.appB 41 (.cons (.var .u64 0) .nil)) (.appB 41 (.cons (.var .u64 1) .nil))) (.and (.bin .eql (.app .i64 42 (.cons (.var .u64 0) .nil)) (.app .i64 42 (.cons (.var .u64 1) .nil))) (.bin .eql (.app .u32 43 (.cons (.var .u64 0) .nil)) (.app .u32 43 (.cons (.var .u64 1) .nil)))))))
theorem ap18_d (x y : Int) : ap18.den (sy [x, y]) = some [b2i true] := by
  simp [ap18, Tm.den, vBin, numV, sy, Φw, b2i0, b2i_inj, refW]
  rw [Bool.eq_iff_iff]
  by_cases hx : x / 16777216 % 2 = 0 <;> by_cases hy : y / 16777216 % 2 = 0 <;> simp [hx, hy] <;> omega
theorem ap19_d (x y : Int) : ap19.den (sy [x, y]) = some [b2i true] := by
  simp [ap19, Tm.den, vBin, numV, sy, Φw, b2i0, b2i_inj, stateW]
  rw [Bool.eq_iff_iff]
  simp
  omega
theorem ap20_d (x y : Int) : ap20.den (sy [x, y]) = some [b2i true] := by
  simp [ap20, Tm.den, vBin, numV, sy, Φw, b2i0, b2i_inj, pageW]
  rw [Bool.eq_iff_iff]
  simp
  omega
theorem ap21_d (x y : Int) : ap21.den (sy [x, y]) = some [b2i true] := by
  simp [ap21, Tm.den, vBin, numV, sy, Φw, b2i0, b2i_inj, bitsW]
  rw [Bool.eq_iff_iff]
  by_cases hx : x / 256 % 8 = 0 <;> by_cases hy : y / 256 % 8 = 0 <;> simp [hx, hy] <;> omega
theorem apart_any (x y : Int) (w : World) : Calls Try.prog 7 #[.int .u64 x, .int .u64 y] w fun e w' => e = .returned (.bool true) ∧ Quiet w w' := by
  have a0 : ap0.den (sy [x, y]) = some [b2i true] := tr (show (0 : Int) ≤ x % 16777216 by omega)
  have a1 : ap1.den (sy [x, y]) = some [b2i false] := fl (show ¬ b2i (decide (x % 16777216 < 16777216)) = 0 by rw [b2i0, decide_eq_false_iff_not]; omega)
  have a2 : ap2.den (sy [x, y]) = some [b2i true] := tr (show (0 : Int) ≤ x % 4 by omega)
  have a3 : ap3.den (sy [x, y]) = some [b2i false] := fl (show ¬ b2i (decide (x % 4 < 4)) = 0 by rw [b2i0, decide_eq_false_iff_not]; omega)
  have a4 : ap4.den (sy [x, y]) = some [b2i true] := tr (show (0 : Int) ≤ x / 4 % 65536 by omega)
  have a5 : ap5.den (sy [x, y]) = some [b2i false] := fl (show ¬ b2i (decide (x / 4 % 65536 < 65536)) = 0 by rw [b2i0, decide_eq_false_iff_not]; omega)
  have a6 : ap6.den (sy [x, y]) = some [b2i true] := tr (show (0 : Int) ≤ x / 262144 % 4096 by omega)
  have a7 : ap7.den (sy [x, y]) = some [b2i false] := fl (show ¬ b2i (decide (x / 262144 % 4096 < 4096)) = 0 by rw [b2i0, decide_eq_false_iff_not]; omega)
  have a8 : ap8.den (sy [x, y]) = some [b2i true] := tr (show (0 : Int) ≤ x % 8 by omega)
  have a9 : ap9.den (sy [x, y]) = some [b2i false] := fl (show ¬ b2i (decide (x % 8 < 8)) = 0 by rw [b2i0, decide_eq_false_iff_not]; omega)
  have a10 : ap10.den (sy [x, y]) = some [b2i true] := tr (show (0 : Int) ≤ x / 8 % 1024 by omega)
  have a11 : ap11.den (sy [x, y]) = some [b2i false] := fl (show ¬ b2i (decide (x / 8 % 1024 < 1024)) = 0 by rw [b2i0, decide_eq_false_iff_not]; omega)
  have a12 : ap12.den (sy [x, y]) = some [b2i true] := tr (show (0 : Int) ≤ x / 8192 % 4 by omega)
  have a13 : ap13.den (sy [x, y]) = some [b2i false] := fl (show ¬ b2i (decide (x / 8192 % 4 < 4)) = 0 by rw [b2i0, decide_eq_false_iff_not]; omega)
  have a14 : ap14.den (sy [x, y]) = some [b2i true] := tr (show (0 : Int) ≤ x / 65536 % 128 by omega)
  have a15 : ap15.den (sy [x, y]) = some [b2i false] := fl (show ¬ b2i (decide (x / 65536 % 128 < 128)) = 0 by rw [b2i0, decide_eq_false_iff_not]; omega)
  have a16 : ap16.den (sy [x, y]) = some [b2i true] := tr (show (0 : Int) ≤ (if x / 256 % 8 = 0 then 0 else x / 256 % 8 - 1) by split <;> omega)
  have a17 : ap17.den (sy [x, y]) = some [b2i false] := fl (show ¬ b2i (decide ((if x / 256 % 8 = 0 then 0 else x / 256 % 8 - 1) < 8)) = 0 by rw [b2i0, decide_eq_false_iff_not]; split <;> omega)
  exact symIs env (al_is awT true (by kernel_rfl) (aw_den _) (al_is ap21 true (by kernel_rfl) (ap21_d x y) (al_is ap20 true (by kernel_rfl) (ap20_d x y) (al_is ap19 true (by kernel_rfl) (ap19_d x y) (al_is ap18 true (by kernel_rfl) (ap18_d x y) (al_is ap17 false (by kernel_rfl) a17 (al_is ap16 true (by kernel_rfl) a16 (al_is ap15 false (by kernel_rfl) a15 (al_is ap14 true (by kernel_rfl) a14 (al_is ap13 false (by kernel_rfl) a13 (al_is ap12 true (by kernel_rfl) a12 (al_is ap11 false (by kernel_rfl) a11 (al_is ap10 true (by kernel_rfl) a10 (al_is ap9 false (by kernel_rfl) a9 (al_is ap8 true (by kernel_rfl) a8 (al_is ap7 false (by kernel_rfl) a7 (al_is ap6 true (by kernel_rfl) a6 (al_is ap5 false (by kernel_rfl) a5 (al_is ap4 true (by kernel_rfl) a4 (al_is ap3 false (by kernel_rfl) a3 (al_is ap2 true (by kernel_rfl) a2 (al_is ap1 false (by kernel_rfl) a1 (al_is ap0 true (by kernel_rfl) a0 (AlOk.nil _)))))))))))))))))))))))) (ctrs_ok [x, y]) (n := 1000) (args := [.float .f64 (0 * 512 + kI .u64), .float .f64 (1 * 512 + kI .u64)]) (args' := [.int .u64 x, .int .u64 y]) true (fun G => by kernel_rfl) (fun G ι => vs_sym rfl (vs_sym rfl vs_nil)) w (gok w)
end Go.Proofs.Ytacdbgepncimgaa
