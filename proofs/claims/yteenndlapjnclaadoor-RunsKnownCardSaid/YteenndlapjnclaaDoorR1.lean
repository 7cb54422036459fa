/-
  Calls that are known ahead: each entry by a run of its own. Condition: the variable holds its table.
-/
import Derived.Test.YteenndlapjnclaaDoorR0
import Derived.Test.YteenndlapjnclaaDoorEvKn2
namespace Go.Proofs.YteenndlapjnclaaDoor
open Go.Ev Go.RowKit
set_option maxRecDepth 100000
abbrev val1 : Value := .agg #[.int .i64 1, .int .i64 8, .int .i64 0, .int .i64 0]
abbrev val4 : Value := .agg #[.int .i64 4, .int .i64 3, .int .i64 0, .int .i64 0]
abbrev val5 : Value := .agg #[.int .i64 1, .int .i64 5, .int .i64 0, .int .i64 0]
abbrev val9 : Value := .agg #[.int .i64 1, .int .i64 1, .int .i64 0, .int .i64 0]
abbrev val11 : Value := .agg #[.int .i64 4, .int .i64 1, .int .i64 0, .int .i64 0]
abbrev val12 : Value := .agg #[.int .i64 1, .int .i64 3, .int .i64 0, .int .i64 0]
abbrev val14 : Value := .agg #[.int .i64 4, .int .i64 2, .int .i64 0, .int .i64 0]
abbrev val16 : Value := .agg #[.int .i64 1, .int .i64 2, .int .i64 0, .int .i64 0]
abbrev val18 : Value := .agg #[.int .i64 5, .int .i64 3, .int .i64 0, .int .i64 0]
abbrev val19 : Value := .agg #[.int .i64 0, .int .i64 0, .int .i64 0, .int .i64 0]
abbrev val23 : Value := .agg #[.int .i64 1, .int .i64 256, .int .i64 0, .int .i64 0]
abbrev val25 : Value := .agg #[.int .i64 1, .int .i64 255, .int .i64 0, .int .i64 0]
abbrev val28 : Value := .agg #[.int .i64 1, .int .i64 127, .int .i64 0, .int .i64 0]
abbrev val31 : Value := .agg #[.int .i64 4, .int .i64 100, .int .i64 0, .int .i64 0]
abbrev val32 : Value := .agg #[.int .i64 1, .int .i64 27, .int .i64 0, .int .i64 0]
abbrev val36 : Value := .agg #[.int .i64 4, .int .i64 64, .int .i64 0, .int .i64 0]
abbrev val37 : Value := .agg #[.int .i64 2, .int .i64 63, .int .i64 0, .int .i64 0]
abbrev val38 : Value := .agg #[.int .i64 2, .int .i64 128, .int .i64 0, .int .i64 0]
def kn0 : Kn := ⟨52, #[.int .i64 8], .int .i64 3⟩
def kn1 : Kn := ⟨22, #[.int .u64 65], val1⟩
def kn2 : Kn := ⟨39, #[.int .i64 0, .int .i64 1], .int .i64 0⟩
def kn3 : Kn := ⟨52, #[.int .i64 5], .int .i64 2⟩
def kn4 : Kn := ⟨22, #[.int .u64 28], val4⟩
def kn5 : Kn := ⟨22, #[.int .u64 41], val5⟩
def kn6 : Kn := ⟨39, #[.int .i64 3, .int .i64 4], .int .i64 4⟩
def kn7 : Kn := ⟨52, #[.int .i64 1], .int .i64 0⟩
def kn8 : Kn := ⟨52, #[.int .i64 3], .int .i64 1⟩
def kn9 : Kn := ⟨22, #[.int .u64 9], val9⟩
def kn10 : Kn := ⟨39, #[.int .i64 3, .int .i64 1], .int .i64 3⟩
def kn11 : Kn := ⟨22, #[.int .u64 12], val11⟩
def kn12 : Kn := ⟨22, #[.int .u64 25], val12⟩
def kn13 : Kn := ⟨39, #[.int .i64 5, .int .i64 1], .int .i64 5⟩
def kn14 : Kn := ⟨22, #[.int .u64 20], val14⟩
def kn15 : Kn := ⟨52, #[.int .i64 2], .int .i64 1⟩
def kn16 : Kn := ⟨22, #[.int .u64 17], val16⟩
def kn17 : Kn := ⟨39, #[.int .i64 7, .int .i64 1], .int .i64 7⟩
def kn18 : Kn := ⟨22, #[.int .u64 29], val18⟩
def kn19 : Kn := ⟨22, #[.int .u64 0], val19⟩
def kn20 : Kn := ⟨52, #[.int .i64 256], .int .i64 8⟩
def kn21 : Kn := ⟨39, #[.int .i64 0, .int .i64 256], .int .i64 0⟩
def kn22 : Kn := ⟨39, #[.int .i64 0, .int .i64 1000000], .int .i64 0⟩
def kn23 : Kn := ⟨22, #[.int .u64 2049], val23⟩
def kn24 : Kn := ⟨52, #[.int .i64 255], .int .i64 7⟩
def kn25 : Kn := ⟨22, #[.int .u64 2041], val25⟩
def kn26 : Kn := ⟨39, #[.int .i64 1, .int .i64 128], .int .i64 128⟩
def kn27 : Kn := ⟨52, #[.int .i64 127], .int .i64 6⟩
def kn28 : Kn := ⟨22, #[.int .u64 1017], val28⟩
def kn29 : Kn := ⟨39, #[.int .i64 1, .int .i64 1], .int .i64 1⟩
def kn30 : Kn := ⟨52, #[.int .i64 27], .int .i64 4⟩
def kn31 : Kn := ⟨22, #[.int .u64 804], val31⟩
def kn32 : Kn := ⟨22, #[.int .u64 217], val32⟩
def kn33 : Kn := ⟨39, #[.int .i64 129, .int .i64 64], .int .i64 192⟩
def kn34 : Kn := ⟨52, #[.int .i64 63], .int .i64 5⟩
def kn35 : Kn := ⟨52, #[.int .i64 128], .int .i64 7⟩
def kn36 : Kn := ⟨22, #[.int .u64 516], val36⟩
def kn37 : Kn := ⟨22, #[.int .u64 506], val37⟩
def kn38 : Kn := ⟨22, #[.int .u64 1026], val38⟩
theorem kn0_run (t : TypeId) (G : Nat → Option Obj) : outEq kn0.v (run0 Tryd.prog (ftOf Tryd.prog) (fun _ _ => none) G 100000 (.fn kn0.f kn0.args) (H0g Tryd.prog (gsT t))) = true := by kernel_rfl
theorem kn0_ok {t : TypeId} {w : World} (hw : GOk Tryd.prog (gsT t) w) : KnOk Tryd.prog w kn0 := KnOk.run env (by kernel_rfl) (fun G => kn0_run t G) hw
theorem kn1_run (t : TypeId) (G : Nat → Option Obj) : outEq kn1.v (run0 Tryd.prog (ftOf Tryd.prog) (fun _ _ => none) G 100000 (.fn kn1.f kn1.args) (H0g Tryd.prog (gsT t))) = true := by kernel_rfl
theorem kn1_ok {t : TypeId} {w : World} (hw : GOk Tryd.prog (gsT t) w) : KnOk Tryd.prog w kn1 := KnOk.run env (by kernel_rfl) (fun G => kn1_run t G) hw
theorem kn2_run (t : TypeId) (G : Nat → Option Obj) : outEq kn2.v (run0 Tryd.prog (ftOf Tryd.prog) (fun _ _ => none) G 100000 (.fn kn2.f kn2.args) (H0g Tryd.prog (gsT t))) = true := by kernel_rfl
theorem kn2_ok {t : TypeId} {w : World} (hw : GOk Tryd.prog (gsT t) w) : KnOk Tryd.prog w kn2 := KnOk.run env (by kernel_rfl) (fun G => kn2_run t G) hw
theorem kn3_run (t : TypeId) (G : Nat → Option Obj) : outEq kn3.v (run0 Tryd.prog (ftOf Tryd.prog) (fun _ _ => none) G 100000 (.fn kn3.f kn3.args) (H0g Tryd.prog (gsT t))) = true := by kernel_rfl
theorem kn3_ok {t : TypeId} {w : World} (hw : GOk Tryd.prog (gsT t) w) : KnOk Tryd.prog w kn3 := KnOk.run env (by kernel_rfl) (fun G => kn3_run t G) hw
theorem kn4_run (t : TypeId) (G : Nat → Option Obj) : outEq kn4.v (run0 Tryd.prog (ftOf Tryd.prog) (fun _ _ => none) G 100000 (.fn kn4.f kn4.args) (H0g Tryd.prog (gsT t))) = true := by kernel_rfl
theorem kn4_ok {t : TypeId} {w : World} (hw : GOk Tryd.prog (gsT t) w) : KnOk Tryd.prog w kn4 := KnOk.run env (by kernel_rfl) (fun G => kn4_run t G) hw
theorem kn5_run (t : TypeId) (G : Nat → Option Obj) : outEq kn5.v (run0 Tryd.prog (ftOf Tryd.prog) (fun _ _ => none) G 100000 (.fn kn5.f kn5.args) (H0g Tryd.prog (gsT t))) = true := by kernel_rfl
theorem kn5_ok {t : TypeId} {w : World} (hw : GOk Tryd.prog (gsT t) w) : KnOk Tryd.prog w kn5 := KnOk.run env (by kernel_rfl) (fun G => kn5_run t G) hw
theorem kn6_run (t : TypeId) (G : Nat → Option Obj) : outEq kn6.v (run0 Tryd.prog (ftOf Tryd.prog) (fun _ _ => none) G 100000 (.fn kn6.f kn6.args) (H0g Tryd.prog (gsT t))) = true := by kernel_rfl
theorem kn6_ok {t : TypeId} {w : World} (hw : GOk Tryd.prog (gsT t) w) : KnOk Tryd.prog w kn6 := KnOk.run env (by kernel_rfl) (fun G => kn6_run t G) hw
theorem kn7_run (t : TypeId) (G : Nat → Option Obj) : outEq kn7.v (run0 Tryd.prog (ftOf Tryd.prog) (fun _ _ => none) G 100000 (.fn kn7.f kn7.args) (H0g Tryd.prog (gsT t))) = true := by kernel_rfl
theorem kn7_ok {t : TypeId} {w : World} (hw : GOk Tryd.prog (gsT t) w) : KnOk Tryd.prog w kn7 := KnOk.run env (by kernel_rfl) (fun G => kn7_run t G) hw
theorem kn8_run (t : TypeId) (G : Nat → Option Obj) : outEq kn8.v (run0 Tryd.prog (ftOf Tryd.prog) (fun _ _ => none) G 100000 (.fn kn8.f kn8.args) (H0g Tryd.prog (gsT t))) = true := by kernel_rfl
theorem kn8_ok {t : TypeId} {w : World} (hw : GOk Tryd.prog (gsT t) w) : KnOk Tryd.prog w kn8 := KnOk.run env (by kernel_rfl) (fun G => kn8_run t G) hw
theorem kn9_run (t : TypeId) (G : Nat → Option Obj) : outEq kn9.v (run0 Tryd.prog (ftOf Tryd.prog) (fun _ _ => none) G 100000 (.fn kn9.f kn9.args) (H0g Tryd.prog (gsT t))) = true := by kernel_rfl
theorem kn9_ok {t : TypeId} {w : World} (hw : GOk Tryd.prog (gsT t) w) : KnOk Tryd.prog w kn9 := KnOk.run env (by kernel_rfl) (fun G => kn9_run t G) hw
theorem kn10_run (t : TypeId) (G : Nat → Option Obj) : outEq kn10.v (run0 Tryd.prog (ftOf Tryd.prog) (fun _ _ => none) G 100000 (.fn kn10.f kn10.args) (H0g Tryd.prog (gsT t))) = true := by kernel_rfl
theorem kn10_ok {t : TypeId} {w : World} (hw : GOk Tryd.prog (gsT t) w) : KnOk Tryd.prog w kn10 := KnOk.run env (by kernel_rfl) (fun G => kn10_run t G) hw
theorem kn11_run (t : TypeId) (G : Nat → Option Obj) : outEq kn11.v (run0 Tryd.prog (ftOf Tryd.prog) (fun _ _ => none) G 100000 (.fn kn11.f kn11.args) (H0g Tryd.prog (gsT t))) = true := by kernel_rfl
theorem kn11_ok {t : TypeId} {w : World} (hw : GOk Tryd.prog (gsT t) w) : KnOk Tryd.prog w kn11 := KnOk.run env (by kernel_rfl) (fun G => kn11_run t G) hw
theorem kn12_run (t : TypeId) (G : Nat → Option Obj) : outEq kn12.v (run0 Tryd.prog (ftOf Tryd.prog) (fun _ _ => none) G 100000 (.fn kn12.f kn12.args) (H0g Tryd.prog (gsT t))) = true := by kernel_rfl
theorem kn12_ok {t : TypeId} {w : World} (hw : GOk Tryd.prog (gsT t) w) : KnOk Tryd.prog w kn12 := KnOk.run env (by kernel_rfl) (fun G => kn12_run t G) hw
theorem kn13_run (t : TypeId) (G : Nat → Option Obj) : outEq kn13.v (run0 Tryd.prog (ftOf Tryd.prog) (fun _ _ => none) G 100000 (.fn kn13.f kn13.args) (H0g Tryd.prog (gsT t))) = true := by kernel_rfl
theorem kn13_ok {t : TypeId} {w : World} (hw : GOk Tryd.prog (gsT t) w) : KnOk Tryd.prog w kn13 := KnOk.run env (by kernel_rfl) (fun G => kn13_run t G) hw
theorem kn14_run (t : TypeId) (G : Nat → Option Obj) : outEq kn14.v (run0 Tryd.prog (ftOf Tryd.prog) (fun _ _ => none) G 100000 (.fn kn14.f kn14.args) (H0g Tryd.prog (gsT t))) = true := by kernel_rfl
theorem kn14_ok {t : TypeId} {w : World} (hw : GOk Tryd.prog (gsT t) w) : KnOk Tryd.prog w kn14 := KnOk.run env (by kernel_rfl) (fun G => kn14_run t G) hw
theorem kn15_run (t : TypeId) (G : Nat → Option Obj) : outEq kn15.v (run0 Tryd.prog (ftOf Tryd.prog) (fun _ _ => none) G 100000 (.fn kn15.f kn15.args) (H0g Tryd.prog (gsT t))) = true := by kernel_rfl
theorem kn15_ok {t : TypeId} {w : World} (hw : GOk Tryd.prog (gsT t) w) : KnOk Tryd.prog w kn15 := KnOk.run env (by kernel_rfl) (fun G => kn15_run t G) hw
theorem kn16_run (t : TypeId) (G : Nat → Option Obj) : outEq kn16.v (run0 Tryd.prog (ftOf Tryd.prog) (fun _ _ => none) G 100000 (.fn kn16.f kn16.args) (H0g Tryd.prog (gsT t))) = true := by kernel_rfl
theorem kn16_ok {t : TypeId} {w : World} (hw : GOk Tryd.prog (gsT t) w) : KnOk Tryd.prog w kn16 := KnOk.run env (by kernel_rfl) (fun G => kn16_run t G) hw
theorem kn17_run (t : TypeId) (G : Nat → Option Obj) : outEq kn17.v (run0 Tryd.prog (ftOf Tryd.prog) (fun _ _ => none) G 100000 (.fn kn17.f kn17.args) (H0g Tryd.prog (gsT t))) = true := by kernel_rfl
theorem kn17_ok {t : TypeId} {w : World} (hw : GOk Tryd.prog (gsT t) w) : KnOk Tryd.prog w kn17 := KnOk.run env (by kernel_rfl) (fun G => kn17_run t G) hw
theorem kn18_run (t : TypeId) (G : Nat → Option Obj) : outEq kn18.v (run0 Tryd.prog (ftOf Tryd.prog) (fun _ _ => none) G 100000 (.fn kn18.f kn18.args) (H0g Tryd.prog (gsT t))) = true := by kernel_rfl
theorem kn18_ok {t : TypeId} {w : World} (hw : GOk Tryd.prog (gsT t) w) : KnOk Tryd.prog w kn18 := KnOk.run env (by kernel_rfl) (fun G => kn18_run t G) hw
theorem kn19_run (t : TypeId) (G : Nat → Option Obj) : outEq kn19.v (run0 Tryd.prog (ftOf Tryd.prog) (fun _ _ => none) G 100000 (.fn kn19.f kn19.args) (H0g Tryd.prog (gsT t))) = true := by kernel_rfl
theorem kn19_ok {t : TypeId} {w : World} (hw : GOk Tryd.prog (gsT t) w) : KnOk Tryd.prog w kn19 := KnOk.run env (by kernel_rfl) (fun G => kn19_run t G) hw
theorem kn20_run (t : TypeId) (G : Nat → Option Obj) : outEq kn20.v (run0 Tryd.prog (ftOf Tryd.prog) (fun _ _ => none) G 100000 (.fn kn20.f kn20.args) (H0g Tryd.prog (gsT t))) = true := by kernel_rfl
theorem kn20_ok {t : TypeId} {w : World} (hw : GOk Tryd.prog (gsT t) w) : KnOk Tryd.prog w kn20 := KnOk.run env (by kernel_rfl) (fun G => kn20_run t G) hw
theorem kn21_run (t : TypeId) (G : Nat → Option Obj) : outEq kn21.v (run0 Tryd.prog (ftOf Tryd.prog) (fun _ _ => none) G 100000 (.fn kn21.f kn21.args) (H0g Tryd.prog (gsT t))) = true := by kernel_rfl
theorem kn21_ok {t : TypeId} {w : World} (hw : GOk Tryd.prog (gsT t) w) : KnOk Tryd.prog w kn21 := KnOk.run env (by kernel_rfl) (fun G => kn21_run t G) hw
theorem kn22_run (t : TypeId) (G : Nat → Option Obj) : outEq kn22.v (run0 Tryd.prog (ftOf Tryd.prog) (fun _ _ => none) G 100000 (.fn kn22.f kn22.args) (H0g Tryd.prog (gsT t))) = true := by kernel_rfl
theorem kn22_ok {t : TypeId} {w : World} (hw : GOk Tryd.prog (gsT t) w) : KnOk Tryd.prog w kn22 := KnOk.run env (by kernel_rfl) (fun G => kn22_run t G) hw
theorem kn23_run (t : TypeId) (G : Nat → Option Obj) : outEq kn23.v (run0 Tryd.prog (ftOf Tryd.prog) (fun _ _ => none) G 100000 (.fn kn23.f kn23.args) (H0g Tryd.prog (gsT t))) = true := by kernel_rfl
theorem kn23_ok {t : TypeId} {w : World} (hw : GOk Tryd.prog (gsT t) w) : KnOk Tryd.prog w kn23 := KnOk.run env (by kernel_rfl) (fun G => kn23_run t G) hw
theorem kn24_run (t : TypeId) (G : Nat → Option Obj) : outEq kn24.v (run0 Tryd.prog (ftOf Tryd.prog) (fun _ _ => none) G 100000 (.fn kn24.f kn24.args) (H0g Tryd.prog (gsT t))) = true := by kernel_rfl
theorem kn24_ok {t : TypeId} {w : World} (hw : GOk Tryd.prog (gsT t) w) : KnOk Tryd.prog w kn24 := KnOk.run env (by kernel_rfl) (fun G => kn24_run t G) hw
theorem kn25_run (t : TypeId) (G : Nat → Option Obj) : outEq kn25.v (run0 Tryd.prog (ftOf Tryd.prog) (fun _ _ => none) G 100000 (.fn kn25.f kn25.args) (H0g Tryd.prog (gsT t))) = true := by kernel_rfl
theorem kn25_ok {t : TypeId} {w : World} (hw : GOk Tryd.prog (gsT t) w) : KnOk Tryd.prog w kn25 := KnOk.run env (by kernel_rfl) (fun G => kn25_run t G) hw
theorem kn26_run (t : TypeId) (G : Nat → Option Obj) : outEq kn26.v (run0 Tryd.prog (ftOf Tryd.prog) (fun _ _ => none) G 100000 (.fn kn26.f kn26.args) (H0g Tryd.prog (gsT t))) = true := by kernel_rfl
theorem kn26_ok {t : TypeId} {w : World} (hw : GOk Tryd.prog (gsT t) w) : KnOk Tryd.prog w kn26 := KnOk.run env (by kernel_rfl) (fun G => kn26_run t G) hw
theorem kn27_run (t : TypeId) (G : Nat → Option Obj) : outEq kn27.v (run0 Tryd.prog (ftOf Tryd.prog) (fun _ _ => none) G 100000 (.fn kn27.f kn27.args) (H0g Tryd.prog (gsT t))) = true := by kernel_rfl
theorem kn27_ok {t : TypeId} {w : World} (hw : GOk Tryd.prog (gsT t) w) : KnOk Tryd.prog w kn27 := KnOk.run env (by kernel_rfl) (fun G => kn27_run t G) hw
theorem kn28_run (t : TypeId) (G : Nat → Option Obj) : outEq kn28.v (run0 Tryd.prog (ftOf Tryd.prog) (fun _ _ => none) G 100000 (.fn kn28.f kn28.args) (H0g Tryd.prog (gsT t))) = true := by kernel_rfl
theorem kn28_ok {t : TypeId} {w : World} (hw : GOk Tryd.prog (gsT t) w) : KnOk Tryd.prog w kn28 := KnOk.run env (by kernel_rfl) (fun G => kn28_run t G) hw
theorem kn29_run (t : TypeId) (G : Nat → Option Obj) : outEq kn29.v (run0 Tryd.prog (ftOf Tryd.prog) (fun _ _ => none) G 100000 (.fn kn29.f kn29.args) (H0g Tryd.prog (gsT t))) = true := by kernel_rfl
theorem kn29_ok {t : TypeId} {w : World} (hw : GOk Tryd.prog (gsT t) w) : KnOk Tryd.prog w kn29 := KnOk.run env (by kernel_rfl) (fun G => kn29_run t G) hw
theorem kn30_run (t : TypeId) (G : Nat → Option Obj) : outEq kn30.v (run0 Tryd.prog (ftOf Tryd.prog) (fun _ _ => none) G 100000 (.fn kn30.f kn30.args) (H0g Tryd.prog (gsT t))) = true := by kernel_rfl
theorem kn30_ok {t : TypeId} {w : World} (hw : GOk Tryd.prog (gsT t) w) : KnOk Tryd.prog w kn30 := KnOk.run env (by kernel_rfl) (fun G => kn30_run t G) hw
theorem kn31_run (t : TypeId) (G : Nat → Option Obj) : outEq kn31.v (run0 Tryd.prog (ftOf Tryd.prog) (fun _ _ => none) G 100000 (.fn kn31.f kn31.args) (H0g Tryd.prog (gsT t))) = true := by kernel_rfl
theorem kn31_ok {t : TypeId} {w : World} (hw : GOk Tryd.prog (gsT t) w) : KnOk Tryd.prog w kn31 := KnOk.run env (by kernel_rfl) (fun G => kn31_run t G) hw
theorem kn32_run (t : TypeId) (G : Nat → Option Obj) : outEq kn32.v (run0 Tryd.prog (ftOf Tryd.prog) (fun _ _ => none) G 100000 (.fn kn32.f kn32.args) (H0g Tryd.prog (gsT t))) = true := by kernel_rfl
theorem kn32_ok {t : TypeId} {w : World} (hw : GOk Tryd.prog (gsT t) w) : KnOk Tryd.prog w kn32 := KnOk.run env (by kernel_rfl) (fun G => kn32_run t G) hw
theorem kn33_run (t : TypeId) (G : Nat → Option Obj) : outEq kn33.v (run0 Tryd.prog (ftOf Tryd.prog) (fun _ _ => none) G 100000 (.fn kn33.f kn33.args) (H0g Tryd.prog (gsT t))) = true := by kernel_rfl
theorem kn33_ok {t : TypeId} {w : World} (hw : GOk Tryd.prog (gsT t) w) : KnOk Tryd.prog w kn33 := KnOk.run env (by kernel_rfl) (fun G => kn33_run t G) hw
theorem kn34_run (t : TypeId) (G : Nat → Option Obj) : outEq kn34.v (run0 Tryd.prog (ftOf Tryd.prog) (fun _ _ => none) G 100000 (.fn kn34.f kn34.args) (H0g Tryd.prog (gsT t))) = true := by kernel_rfl
theorem kn34_ok {t : TypeId} {w : World} (hw : GOk Tryd.prog (gsT t) w) : KnOk Tryd.prog w kn34 := KnOk.run env (by kernel_rfl) (fun G => kn34_run t G) hw
theorem kn35_run (t : TypeId) (G : Nat → Option Obj) : outEq kn35.v (run0 Tryd.prog (ftOf Tryd.prog) (fun _ _ => none) G 100000 (.fn kn35.f kn35.args) (H0g Tryd.prog (gsT t))) = true := by kernel_rfl
theorem kn35_ok {t : TypeId} {w : World} (hw : GOk Tryd.prog (gsT t) w) : KnOk Tryd.prog w kn35 := KnOk.run env (by kernel_rfl) (fun G => kn35_run t G) hw
theorem kn36_run (t : TypeId) (G : Nat → Option Obj) : outEq kn36.v (run0 Tryd.prog (ftOf Tryd.prog) (fun _ _ => none) G 100000 (.fn kn36.f kn36.args) (H0g Tryd.prog (gsT t))) = true := by kernel_rfl
theorem kn36_ok {t : TypeId} {w : World} (hw : GOk Tryd.prog (gsT t) w) : KnOk Tryd.prog w kn36 := KnOk.run env (by kernel_rfl) (fun G => kn36_run t G) hw
theorem kn37_run (t : TypeId) (G : Nat → Option Obj) : outEq kn37.v (run0 Tryd.prog (ftOf Tryd.prog) (fun _ _ => none) G 100000 (.fn kn37.f kn37.args) (H0g Tryd.prog (gsT t))) = true := by kernel_rfl
theorem kn37_ok {t : TypeId} {w : World} (hw : GOk Tryd.prog (gsT t) w) : KnOk Tryd.prog w kn37 := KnOk.run env (by kernel_rfl) (fun G => kn37_run t G) hw
theorem kn38_run (t : TypeId) (G : Nat → Option Obj) : outEq kn38.v (run0 Tryd.prog (ftOf Tryd.prog) (fun _ _ => none) G 100000 (.fn kn38.f kn38.args) (H0g Tryd.prog (gsT t))) = true := by kernel_rfl
theorem kn38_ok {t : TypeId} {w : World} (hw : GOk Tryd.prog (gsT t) w) : KnOk Tryd.prog w kn38 := KnOk.run env (by kernel_rfl) (fun G => kn38_run t G) hw
def kng : KnG := [(52, [([.int .i64 8], .int .i64 3), ([.int .i64 5], .int .i64 2), ([.int .i64 1], .int .i64 0), ([.int .i64 3], .int .i64 1), ([.int .i64 2], .int .i64 1), ([.int .i64 256], .int .i64 8), ([.int .i64 255], .int .i64 7), ([.int .i64 127], .int .i64 6), ([.int .i64 27], .int .i64 4), ([.int .i64 63], .int .i64 5), ([.int .i64 128], .int .i64 7)]), (22, [([.int .u64 65], val1), ([.int .u64 28], val4), ([.int .u64 41], val5), ([.int .u64 9], val9), ([.int .u64 12], val11), ([.int .u64 25], val12), ([.int .u64 20], val14), ([.int .u64 17], val16), ([.int .u64 29], val18), ([.int .u64 0], val19), ([.int .u64 2049], val23), ([.int .u64 2041], val25), ([.int .u64 1017], val28), ([.int .u64 804], val31), ([.int .u64 217], val32), ([.int .u64 516], val36), ([.int .u64 506], val37), ([.int .u64 1026], val38)]), (39, [([.int .i64 1, .int .i64 0], .int .i64 0), ([.int .i64 4, .int .i64 3], .int .i64 4), ([.int .i64 1, .int .i64 3], .int .i64 3), ([.int .i64 1, .int .i64 5], .int .i64 5), ([.int .i64 1, .int .i64 7], .int .i64 7), ([.int .i64 256, .int .i64 0], .int .i64 0), ([.int .i64 1000000, .int .i64 0], .int .i64 0), ([.int .i64 128, .int .i64 1], .int .i64 128), ([.int .i64 1, .int .i64 1], .int .i64 1), ([.int .i64 64, .int .i64 129], .int .i64 192)])]
def kns : List Kn := [kn0, kn3, kn7, kn8, kn15, kn20, kn24, kn27, kn30, kn34, kn35, kn1, kn4, kn5, kn9, kn11, kn12, kn14, kn16, kn18, kn19, kn23, kn25, kn28, kn31, kn32, kn36, kn37, kn38, kn2, kn6, kn10, kn13, kn17, kn21, kn22, kn26, kn29, kn33]
theorem kng_flat : flatG kng = kns := by kernel_rfl
theorem fcons {p : Kn → Prop} {x : Kn} {l : List Kn} (h : p x) (t : ∀ y ∈ l, p y) : ∀ y ∈ x :: l, p y := List.forall_mem_cons.2 ⟨h, t⟩
theorem kng_ok {t : TypeId} {w : World} (hw : GOk Tryd.prog (gsT t) w) : ∀ x ∈ flatG kng, KnOk Tryd.prog w x := by
  rw [kng_flat]
  unfold kns
  refine fcons (kn0_ok hw) ?_
  refine fcons (kn3_ok hw) ?_
  refine fcons (kn7_ok hw) ?_
  refine fcons (kn8_ok hw) ?_
  refine fcons (kn15_ok hw) ?_
  refine fcons (kn20_ok hw) ?_
  refine fcons (kn24_ok hw) ?_
  refine fcons (kn27_ok hw) ?_
  refine fcons (kn30_ok hw) ?_
  refine fcons (kn34_ok hw) ?_
  refine fcons (kn35_ok hw) ?_
  refine fcons (kn1_ok hw) ?_
  refine fcons (kn4_ok hw) ?_
  refine fcons (kn5_ok hw) ?_
  refine fcons (kn9_ok hw) ?_
  refine fcons (kn11_ok hw) ?_
  refine fcons (kn12_ok hw) ?_
  refine fcons (kn14_ok hw) ?_
  refine fcons (kn16_ok hw) ?_
  refine fcons (kn18_ok hw) ?_
  refine fcons (kn19_ok hw) ?_
  refine fcons (kn23_ok hw) ?_
  refine fcons (kn25_ok hw) ?_
  refine fcons (kn28_ok hw) ?_
  refine fcons (kn31_ok hw) ?_
  refine fcons (kn32_ok hw) ?_
  refine fcons (kn36_ok hw) ?_
  refine fcons (kn37_ok hw) ?_
  refine fcons (kn38_ok hw) ?_
  refine fcons (kn2_ok hw) ?_
  refine fcons (kn6_ok hw) ?_
  refine fcons (kn10_ok hw) ?_
  refine fcons (kn13_ok hw) ?_
  refine fcons (kn17_ok hw) ?_
  refine fcons (kn21_ok hw) ?_
  refine fcons (kn22_ok hw) ?_
  refine fcons (kn26_ok hw) ?_
  refine fcons (kn29_ok hw) ?_
  refine fcons (kn33_ok hw) ?_
  exact fun _ h => absurd h List.not_mem_nil
end Go.Proofs.YteenndlapjnclaaDoor
