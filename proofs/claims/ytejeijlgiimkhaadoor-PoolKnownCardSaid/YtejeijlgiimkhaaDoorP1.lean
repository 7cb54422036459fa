/-
  Calls that are known ahead: each entry by a run of its own. Condition: the variable holds its table.
-/
import Derived.Test.YtejeijlgiimkhaaDoorP0
import Derived.Test.YtejeijlgiimkhaaDoorEvKn
namespace Go.Proofs.YtejeijlgiimkhaaDoor
open Go.Ev Go.RowKit
set_option maxRecDepth 100000
abbrev val0 : Value := .agg #[.int .i64 1, .int .i64 1, .int .i64 0, .int .i64 1, .int .i64 2, .int .i64 7, .int .i64 16, .int .i64 17, .int .i64 21, .int .i64 22, .int .i64 23, .int .i64 24, .int .i64 25, .int .i64 33, .int .i64 41, .int .i64 49, .int .i64 53, .int .i64 55, .int .i64 56, .int .i64 60, .int .i64 73, .int .i64 177]
def kn0 : Kn := ⟨6, #[.int .u8 0, .int .u8 0], val0⟩
def kn1 : Kn := ⟨10, #[val0], .int .i64 13⟩
def kn2 : Kn := ⟨37, #[val0], .int .i64 177⟩
def kn3 : Kn := ⟨14, #[val0], .int .i64 16⟩
def kn4 : Kn := ⟨47, #[val0, .int .i64 0], .int .i64 (-1)⟩
def kn5 : Kn := ⟨47, #[val0, .int .i64 1], .int .i64 60⟩
def kn6 : Kn := ⟨47, #[val0, .int .i64 2], .int .i64 61⟩
def kn7 : Kn := ⟨47, #[val0, .int .i64 3], .int .i64 62⟩
def kn8 : Kn := ⟨47, #[val0, .int .i64 4], .int .i64 63⟩
def kn9 : Kn := ⟨47, #[val0, .int .i64 5], .int .i64 64⟩
def kn10 : Kn := ⟨47, #[val0, .int .i64 6], .int .i64 65⟩
def kn11 : Kn := ⟨47, #[val0, .int .i64 7], .int .i64 66⟩
def kn12 : Kn := ⟨47, #[val0, .int .i64 8], .int .i64 67⟩
def kn13 : Kn := ⟨47, #[val0, .int .i64 9], .int .i64 68⟩
def kn14 : Kn := ⟨47, #[val0, .int .i64 10], .int .i64 69⟩
def kn15 : Kn := ⟨47, #[val0, .int .i64 11], .int .i64 70⟩
def kn16 : Kn := ⟨47, #[val0, .int .i64 12], .int .i64 71⟩
def kn17 : Kn := ⟨47, #[val0, .int .i64 13], .int .i64 72⟩
def kn18 : Kn := ⟨47, #[val0, .int .i64 14], .int .i64 (-1)⟩
def kn19 : Kn := ⟨30, #[val0, .int .i64 0], .int .i64 55⟩
def kn20 : Kn := ⟨32, #[val0, .int .i64 0, .int .i64 0], .int .i64 53⟩
def kn21 : Kn := ⟨32, #[val0, .int .i64 0, .int .i64 1], .int .i64 54⟩
def kn22 : Kn := ⟨31, #[val0, .int .i64 0, .int .i64 0], .int .i64 56⟩
def kn23 : Kn := ⟨31, #[val0, .int .i64 0, .int .i64 1], .int .i64 57⟩
def kn24 : Kn := ⟨31, #[val0, .int .i64 0, .int .i64 2], .int .i64 58⟩
def kn25 : Kn := ⟨50, #[val0], .int .i64 3⟩
theorem kn0_run (t : TypeId) (G : Nat → Option Obj) : outEq kn0.v (run0 Tryd.prog (ftOf Tryd.prog) (fun _ _ => none) G 100000 (.fn kn0.f kn0.args) (H0g Tryd.prog (gsT t))) = true := by kernel_rfl
theorem kn0_ok {t : TypeId} {w : World} (hw : GOk Tryd.prog (gsT t) w) : KnOk Tryd.prog w kn0 := KnOk.run env (by kernel_rfl) (fun G => kn0_run t G) hw
theorem kn1_run (t : TypeId) (G : Nat → Option Obj) : outEq kn1.v (run0 Tryd.prog (ftOf Tryd.prog) (fun _ _ => none) G 100000 (.fn kn1.f kn1.args) (H0g Tryd.prog (gsT t))) = true := by kernel_rfl
theorem kn1_ok {t : TypeId} {w : World} (hw : GOk Tryd.prog (gsT t) w) : KnOk Tryd.prog w kn1 := KnOk.run env (by kernel_rfl) (fun G => kn1_run t G) hw
theorem kn2_run (t : TypeId) (G : Nat → Option Obj) : outEq kn2.v (run0 Tryd.prog (ftOf Tryd.prog) (fun _ _ => none) G 100000 (.fn kn2.f kn2.args) (H0g Tryd.prog (gsT t))) = true := by kernel_rfl
theorem kn2_ok {t : TypeId} {w : World} (hw : GOk Tryd.prog (gsT t) w) : KnOk Tryd.prog w kn2 := KnOk.run env (by kernel_rfl) (fun G => kn2_run t G) hw
theorem kn3_run (t : TypeId) (G : Nat → Option Obj) : outEq kn3.v (run0 Tryd.prog (ftOf Tryd.prog) (fun _ _ => none) G 100000 (.fn kn3.f kn3.args) (H0g Tryd.prog (gsT t))) = true := by kernel_rfl
theorem kn3_ok {t : TypeId} {w : World} (hw : GOk Tryd.prog (gsT t) w) : KnOk Tryd.prog w kn3 := KnOk.run env (by kernel_rfl) (fun G => kn3_run t G) hw
theorem kn4_run (t : TypeId) (G : Nat → Option Obj) : outEq kn4.v (run0 Tryd.prog (ftOf Tryd.prog) (fun _ _ => none) G 100000 (.fn kn4.f kn4.args) (H0g Tryd.prog (gsT t))) = true := by kernel_rfl
theorem kn4_ok {t : TypeId} {w : World} (hw : GOk Tryd.prog (gsT t) w) : KnOk Tryd.prog w kn4 := KnOk.run env (by kernel_rfl) (fun G => kn4_run t G) hw
theorem kn5_run (t : TypeId) (G : Nat → Option Obj) : outEq kn5.v (run0 Tryd.prog (ftOf Tryd.prog) (fun _ _ => none) G 100000 (.fn kn5.f kn5.args) (H0g Tryd.prog (gsT t))) = true := by kernel_rfl
theorem kn5_ok {t : TypeId} {w : World} (hw : GOk Tryd.prog (gsT t) w) : KnOk Tryd.prog w kn5 := KnOk.run env (by kernel_rfl) (fun G => kn5_run t G) hw
theorem kn6_run (t : TypeId) (G : Nat → Option Obj) : outEq kn6.v (run0 Tryd.prog (ftOf Tryd.prog) (fun _ _ => none) G 100000 (.fn kn6.f kn6.args) (H0g Tryd.prog (gsT t))) = true := by kernel_rfl
theorem kn6_ok {t : TypeId} {w : World} (hw : GOk Tryd.prog (gsT t) w) : KnOk Tryd.prog w kn6 := KnOk.run env (by kernel_rfl) (fun G => kn6_run t G) hw
theorem kn7_run (t : TypeId) (G : Nat → Option Obj) : outEq kn7.v (run0 Tryd.prog (ftOf Tryd.prog) (fun _ _ => none) G 100000 (.fn kn7.f kn7.args) (H0g Tryd.prog (gsT t))) = true := by kernel_rfl
theorem kn7_ok {t : TypeId} {w : World} (hw : GOk Tryd.prog (gsT t) w) : KnOk Tryd.prog w kn7 := KnOk.run env (by kernel_rfl) (fun G => kn7_run t G) hw
theorem kn8_run (t : TypeId) (G : Nat → Option Obj) : outEq kn8.v (run0 Tryd.prog (ftOf Tryd.prog) (fun _ _ => none) G 100000 (.fn kn8.f kn8.args) (H0g Tryd.prog (gsT t))) = true := by kernel_rfl
theorem kn8_ok {t : TypeId} {w : World} (hw : GOk Tryd.prog (gsT t) w) : KnOk Tryd.prog w kn8 := KnOk.run env (by kernel_rfl) (fun G => kn8_run t G) hw
theorem kn9_run (t : TypeId) (G : Nat → Option Obj) : outEq kn9.v (run0 Tryd.prog (ftOf Tryd.prog) (fun _ _ => none) G 100000 (.fn kn9.f kn9.args) (H0g Tryd.prog (gsT t))) = true := by kernel_rfl
theorem kn9_ok {t : TypeId} {w : World} (hw : GOk Tryd.prog (gsT t) w) : KnOk Tryd.prog w kn9 := KnOk.run env (by kernel_rfl) (fun G => kn9_run t G) hw
theorem kn10_run (t : TypeId) (G : Nat → Option Obj) : outEq kn10.v (run0 Tryd.prog (ftOf Tryd.prog) (fun _ _ => none) G 100000 (.fn kn10.f kn10.args) (H0g Tryd.prog (gsT t))) = true := by kernel_rfl
theorem kn10_ok {t : TypeId} {w : World} (hw : GOk Tryd.prog (gsT t) w) : KnOk Tryd.prog w kn10 := KnOk.run env (by kernel_rfl) (fun G => kn10_run t G) hw
theorem kn11_run (t : TypeId) (G : Nat → Option Obj) : outEq kn11.v (run0 Tryd.prog (ftOf Tryd.prog) (fun _ _ => none) G 100000 (.fn kn11.f kn11.args) (H0g Tryd.prog (gsT t))) = true := by kernel_rfl
theorem kn11_ok {t : TypeId} {w : World} (hw : GOk Tryd.prog (gsT t) w) : KnOk Tryd.prog w kn11 := KnOk.run env (by kernel_rfl) (fun G => kn11_run t G) hw
theorem kn12_run (t : TypeId) (G : Nat → Option Obj) : outEq kn12.v (run0 Tryd.prog (ftOf Tryd.prog) (fun _ _ => none) G 100000 (.fn kn12.f kn12.args) (H0g Tryd.prog (gsT t))) = true := by kernel_rfl
theorem kn12_ok {t : TypeId} {w : World} (hw : GOk Tryd.prog (gsT t) w) : KnOk Tryd.prog w kn12 := KnOk.run env (by kernel_rfl) (fun G => kn12_run t G) hw
theorem kn13_run (t : TypeId) (G : Nat → Option Obj) : outEq kn13.v (run0 Tryd.prog (ftOf Tryd.prog) (fun _ _ => none) G 100000 (.fn kn13.f kn13.args) (H0g Tryd.prog (gsT t))) = true := by kernel_rfl
theorem kn13_ok {t : TypeId} {w : World} (hw : GOk Tryd.prog (gsT t) w) : KnOk Tryd.prog w kn13 := KnOk.run env (by kernel_rfl) (fun G => kn13_run t G) hw
theorem kn14_run (t : TypeId) (G : Nat → Option Obj) : outEq kn14.v (run0 Tryd.prog (ftOf Tryd.prog) (fun _ _ => none) G 100000 (.fn kn14.f kn14.args) (H0g Tryd.prog (gsT t))) = true := by kernel_rfl
theorem kn14_ok {t : TypeId} {w : World} (hw : GOk Tryd.prog (gsT t) w) : KnOk Tryd.prog w kn14 := KnOk.run env (by kernel_rfl) (fun G => kn14_run t G) hw
theorem kn15_run (t : TypeId) (G : Nat → Option Obj) : outEq kn15.v (run0 Tryd.prog (ftOf Tryd.prog) (fun _ _ => none) G 100000 (.fn kn15.f kn15.args) (H0g Tryd.prog (gsT t))) = true := by kernel_rfl
theorem kn15_ok {t : TypeId} {w : World} (hw : GOk Tryd.prog (gsT t) w) : KnOk Tryd.prog w kn15 := KnOk.run env (by kernel_rfl) (fun G => kn15_run t G) hw
theorem kn16_run (t : TypeId) (G : Nat → Option Obj) : outEq kn16.v (run0 Tryd.prog (ftOf Tryd.prog) (fun _ _ => none) G 100000 (.fn kn16.f kn16.args) (H0g Tryd.prog (gsT t))) = true := by kernel_rfl
theorem kn16_ok {t : TypeId} {w : World} (hw : GOk Tryd.prog (gsT t) w) : KnOk Tryd.prog w kn16 := KnOk.run env (by kernel_rfl) (fun G => kn16_run t G) hw
theorem kn17_run (t : TypeId) (G : Nat → Option Obj) : outEq kn17.v (run0 Tryd.prog (ftOf Tryd.prog) (fun _ _ => none) G 100000 (.fn kn17.f kn17.args) (H0g Tryd.prog (gsT t))) = true := by kernel_rfl
theorem kn17_ok {t : TypeId} {w : World} (hw : GOk Tryd.prog (gsT t) w) : KnOk Tryd.prog w kn17 := KnOk.run env (by kernel_rfl) (fun G => kn17_run t G) hw
theorem kn18_run (t : TypeId) (G : Nat → Option Obj) : outEq kn18.v (run0 Tryd.prog (ftOf Tryd.prog) (fun _ _ => none) G 100000 (.fn kn18.f kn18.args) (H0g Tryd.prog (gsT t))) = true := by kernel_rfl
theorem kn18_ok {t : TypeId} {w : World} (hw : GOk Tryd.prog (gsT t) w) : KnOk Tryd.prog w kn18 := KnOk.run env (by kernel_rfl) (fun G => kn18_run t G) hw
theorem kn19_run (t : TypeId) (G : Nat → Option Obj) : outEq kn19.v (run0 Tryd.prog (ftOf Tryd.prog) (fun _ _ => none) G 100000 (.fn kn19.f kn19.args) (H0g Tryd.prog (gsT t))) = true := by kernel_rfl
theorem kn19_ok {t : TypeId} {w : World} (hw : GOk Tryd.prog (gsT t) w) : KnOk Tryd.prog w kn19 := KnOk.run env (by kernel_rfl) (fun G => kn19_run t G) hw
theorem kn20_run (t : TypeId) (G : Nat → Option Obj) : outEq kn20.v (run0 Tryd.prog (ftOf Tryd.prog) (fun _ _ => none) G 100000 (.fn kn20.f kn20.args) (H0g Tryd.prog (gsT t))) = true := by kernel_rfl
theorem kn20_ok {t : TypeId} {w : World} (hw : GOk Tryd.prog (gsT t) w) : KnOk Tryd.prog w kn20 := KnOk.run env (by kernel_rfl) (fun G => kn20_run t G) hw
theorem kn21_run (t : TypeId) (G : Nat → Option Obj) : outEq kn21.v (run0 Tryd.prog (ftOf Tryd.prog) (fun _ _ => none) G 100000 (.fn kn21.f kn21.args) (H0g Tryd.prog (gsT t))) = true := by kernel_rfl
theorem kn21_ok {t : TypeId} {w : World} (hw : GOk Tryd.prog (gsT t) w) : KnOk Tryd.prog w kn21 := KnOk.run env (by kernel_rfl) (fun G => kn21_run t G) hw
theorem kn22_run (t : TypeId) (G : Nat → Option Obj) : outEq kn22.v (run0 Tryd.prog (ftOf Tryd.prog) (fun _ _ => none) G 100000 (.fn kn22.f kn22.args) (H0g Tryd.prog (gsT t))) = true := by kernel_rfl
theorem kn22_ok {t : TypeId} {w : World} (hw : GOk Tryd.prog (gsT t) w) : KnOk Tryd.prog w kn22 := KnOk.run env (by kernel_rfl) (fun G => kn22_run t G) hw
theorem kn23_run (t : TypeId) (G : Nat → Option Obj) : outEq kn23.v (run0 Tryd.prog (ftOf Tryd.prog) (fun _ _ => none) G 100000 (.fn kn23.f kn23.args) (H0g Tryd.prog (gsT t))) = true := by kernel_rfl
theorem kn23_ok {t : TypeId} {w : World} (hw : GOk Tryd.prog (gsT t) w) : KnOk Tryd.prog w kn23 := KnOk.run env (by kernel_rfl) (fun G => kn23_run t G) hw
theorem kn24_run (t : TypeId) (G : Nat → Option Obj) : outEq kn24.v (run0 Tryd.prog (ftOf Tryd.prog) (fun _ _ => none) G 100000 (.fn kn24.f kn24.args) (H0g Tryd.prog (gsT t))) = true := by kernel_rfl
theorem kn24_ok {t : TypeId} {w : World} (hw : GOk Tryd.prog (gsT t) w) : KnOk Tryd.prog w kn24 := KnOk.run env (by kernel_rfl) (fun G => kn24_run t G) hw
theorem kn25_run (t : TypeId) (G : Nat → Option Obj) : outEq kn25.v (run0 Tryd.prog (ftOf Tryd.prog) (fun _ _ => none) G 100000 (.fn kn25.f kn25.args) (H0g Tryd.prog (gsT t))) = true := by kernel_rfl
theorem kn25_ok {t : TypeId} {w : World} (hw : GOk Tryd.prog (gsT t) w) : KnOk Tryd.prog w kn25 := KnOk.run env (by kernel_rfl) (fun G => kn25_run t G) hw
def kns : List Kn := [kn0, kn1, kn2, kn3, kn4, kn5, kn6, kn7, kn8, kn9, kn10, kn11, kn12, kn13, kn14, kn15, kn16, kn17, kn18, kn19, kn20, kn21, kn22, kn23, kn24, kn25]
theorem kns_ok {t : TypeId} {w : World} (hw : GOk Tryd.prog (gsT t) w) : ∀ x ∈ kns, KnOk Tryd.prog w x := by
  unfold kns
  simp only [List.mem_cons, List.not_mem_nil, or_false]
  rintro y (rfl | rfl | rfl | rfl | rfl | rfl | rfl | rfl | rfl | rfl | rfl | rfl | rfl | rfl | rfl | rfl | rfl | rfl | rfl | rfl | rfl | rfl | rfl | rfl | rfl | rfl)
  · exact kn0_ok hw
  · exact kn1_ok hw
  · exact kn2_ok hw
  · exact kn3_ok hw
  · exact kn4_ok hw
  · exact kn5_ok hw
  · exact kn6_ok hw
  · exact kn7_ok hw
  · exact kn8_ok hw
  · exact kn9_ok hw
  · exact kn10_ok hw
  · exact kn11_ok hw
  · exact kn12_ok hw
  · exact kn13_ok hw
  · exact kn14_ok hw
  · exact kn15_ok hw
  · exact kn16_ok hw
  · exact kn17_ok hw
  · exact kn18_ok hw
  · exact kn19_ok hw
  · exact kn20_ok hw
  · exact kn21_ok hw
  · exact kn22_ok hw
  · exact kn23_ok hw
  · exact kn24_ok hw
  · exact kn25_ok hw
end Go.Proofs.YtejeijlgiimkhaaDoor
