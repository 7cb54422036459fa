/-
  Calls that are known ahead: each entry by a run of its own. Condition: the variable holds its table.
-/
import Derived.Test.YtigbcepnbpibaaaGreatDoorS0
import Derived.Test.YtigbcepnbpibaaaGreatDoorEvKn2
namespace Go.Proofs.YtigbcepnbpibaaaGreatDoor
open Go.Ev Go.RowKit
set_option maxRecDepth 100000
abbrev val1 : Value := .agg #[.int .i64 1, .int .i64 2, .int .i64 0, .int .i64 0]
abbrev val4 : Value := .agg #[.int .i64 8, .int .i64 8, .int .i64 8, .int .i64 16, .int .i64 16, .int .i64 4, .int .i64 24, .int .i64 8, .int .i64 2, .int .i64 32, .int .i64 32, .int .i64 2]
abbrev val5 : Value := .agg #[.int .u8 0, .bool false, .int .i64 0, .int .u32 0]
abbrev val6 : Value := .agg #[.int .i64 3, .int .i64 1, .int .i64 1, .int .i64 2]
abbrev val7 : Value := .agg #[.int .i64 1, .int .i64 1, .int .i64 0, .int .i64 0]
abbrev val8 : Value := .agg #[.int .u8 14, .bool true, .int .i64 1, .int .u32 1]
abbrev val11 : Value := .agg #[.int .u8 12, .bool true, .int .i64 1, .int .u32 1]
abbrev val12 : Value := .agg #[.int .u8 8, .bool true, .int .i64 1, .int .u32 1]
abbrev val13 : Value := .agg #[.int .u8 10, .bool true, .int .i64 1, .int .u32 1]
abbrev val14 : Value := .agg #[.int .u8 15, .bool true, .int .i64 1, .int .u32 1]
abbrev val15 : Value := .agg #[.int .u8 0, .bool false, .int .i64 0, .int .u32 2]
abbrev val16 : Value := .agg #[.int .i64 4, .int .i64 1, .int .i64 0, .int .i64 0]
abbrev val18 : Value := .agg #[.int .u8 2, .bool true, .int .i64 2, .int .u32 1]
abbrev val19 : Value := .agg #[.int .u8 0, .bool true, .int .i64 2, .int .u32 1]
abbrev val20 : Value := .agg #[.int .u8 1, .bool true, .int .i64 2, .int .u32 1]
abbrev val21 : Value := .agg #[.int .u8 3, .bool true, .int .i64 2, .int .u32 1]
abbrev val22 : Value := .agg #[.int .i64 3, .int .i64 1, .int .i64 2, .int .i64 0]
def kn0 : Kn := ⟨86, #[.int .i64 2], .int .i64 1⟩
def kn1 : Kn := ⟨40, #[.int .u64 17], val1⟩
def kn2 : Kn := ⟨74, #[.int .i64 0, .int .i64 1], .int .i64 0⟩
def kn3 : Kn := ⟨86, #[.int .i64 1], .int .i64 0⟩
def kn4 : Kn := ⟨79, #[], val4⟩
def kn5 : Kn := ⟨9, #[.int .u64 0], val5⟩
def kn6 : Kn := ⟨40, #[.int .u64 139275], val6⟩
def kn7 : Kn := ⟨40, #[.int .u64 9], val7⟩
def kn8 : Kn := ⟨9, #[.int .u64 4294967822], val8⟩
def kn9 : Kn := ⟨52, #[.int .u64 0], .int .i64 (-1)⟩
def kn10 : Kn := ⟨83, #[val8], .int .i64 1⟩
def kn11 : Kn := ⟨9, #[.int .u64 4294967820], val11⟩
def kn12 : Kn := ⟨9, #[.int .u64 4294967816], val12⟩
def kn13 : Kn := ⟨9, #[.int .u64 4294967818], val13⟩
def kn14 : Kn := ⟨9, #[.int .u64 4294967823], val14⟩
def kn15 : Kn := ⟨9, #[.int .u64 8589934592], val15⟩
def kn16 : Kn := ⟨40, #[.int .u64 12], val16⟩
def kn17 : Kn := ⟨74, #[.int .i64 1, .int .i64 1], .int .i64 1⟩
def kn18 : Kn := ⟨9, #[.int .u64 4294968066], val18⟩
def kn19 : Kn := ⟨9, #[.int .u64 4294968064], val19⟩
def kn20 : Kn := ⟨9, #[.int .u64 4294968065], val20⟩
def kn21 : Kn := ⟨9, #[.int .u64 4294968067], val21⟩
def kn22 : Kn := ⟨40, #[.int .u64 16395], val22⟩
theorem kn0_run (t : TypeId) (G : Nat → Option Obj) : outEq kn0.v (run0 Tryz.prog (ftOf Tryz.prog) (fun _ _ => none) G 100000 (.fn kn0.f kn0.args) (H0g Tryz.prog (gsT t))) = true := by kernel_rfl
theorem kn0_ok {t : TypeId} {w : World} (hw : GOk Tryz.prog (gsT t) w) : KnOk Tryz.prog w kn0 := KnOk.run env (by kernel_rfl) (fun G => kn0_run t G) hw
theorem kn1_run (t : TypeId) (G : Nat → Option Obj) : outEq kn1.v (run0 Tryz.prog (ftOf Tryz.prog) (fun _ _ => none) G 100000 (.fn kn1.f kn1.args) (H0g Tryz.prog (gsT t))) = true := by kernel_rfl
theorem kn1_ok {t : TypeId} {w : World} (hw : GOk Tryz.prog (gsT t) w) : KnOk Tryz.prog w kn1 := KnOk.run env (by kernel_rfl) (fun G => kn1_run t G) hw
theorem kn2_run (t : TypeId) (G : Nat → Option Obj) : outEq kn2.v (run0 Tryz.prog (ftOf Tryz.prog) (fun _ _ => none) G 100000 (.fn kn2.f kn2.args) (H0g Tryz.prog (gsT t))) = true := by kernel_rfl
theorem kn2_ok {t : TypeId} {w : World} (hw : GOk Tryz.prog (gsT t) w) : KnOk Tryz.prog w kn2 := KnOk.run env (by kernel_rfl) (fun G => kn2_run t G) hw
theorem kn3_run (t : TypeId) (G : Nat → Option Obj) : outEq kn3.v (run0 Tryz.prog (ftOf Tryz.prog) (fun _ _ => none) G 100000 (.fn kn3.f kn3.args) (H0g Tryz.prog (gsT t))) = true := by kernel_rfl
theorem kn3_ok {t : TypeId} {w : World} (hw : GOk Tryz.prog (gsT t) w) : KnOk Tryz.prog w kn3 := KnOk.run env (by kernel_rfl) (fun G => kn3_run t G) hw
theorem kn4_run (t : TypeId) (G : Nat → Option Obj) : outEq kn4.v (run0 Tryz.prog (ftOf Tryz.prog) (fun _ _ => none) G 100000 (.fn kn4.f kn4.args) (H0g Tryz.prog (gsT t))) = true := by kernel_rfl
theorem kn4_ok {t : TypeId} {w : World} (hw : GOk Tryz.prog (gsT t) w) : KnOk Tryz.prog w kn4 := KnOk.run env (by kernel_rfl) (fun G => kn4_run t G) hw
theorem kn5_run (t : TypeId) (G : Nat → Option Obj) : outEq kn5.v (run0 Tryz.prog (ftOf Tryz.prog) (fun _ _ => none) G 100000 (.fn kn5.f kn5.args) (H0g Tryz.prog (gsT t))) = true := by kernel_rfl
theorem kn5_ok {t : TypeId} {w : World} (hw : GOk Tryz.prog (gsT t) w) : KnOk Tryz.prog w kn5 := KnOk.run env (by kernel_rfl) (fun G => kn5_run t G) hw
theorem kn6_run (t : TypeId) (G : Nat → Option Obj) : outEq kn6.v (run0 Tryz.prog (ftOf Tryz.prog) (fun _ _ => none) G 100000 (.fn kn6.f kn6.args) (H0g Tryz.prog (gsT t))) = true := by kernel_rfl
theorem kn6_ok {t : TypeId} {w : World} (hw : GOk Tryz.prog (gsT t) w) : KnOk Tryz.prog w kn6 := KnOk.run env (by kernel_rfl) (fun G => kn6_run t G) hw
theorem kn7_run (t : TypeId) (G : Nat → Option Obj) : outEq kn7.v (run0 Tryz.prog (ftOf Tryz.prog) (fun _ _ => none) G 100000 (.fn kn7.f kn7.args) (H0g Tryz.prog (gsT t))) = true := by kernel_rfl
theorem kn7_ok {t : TypeId} {w : World} (hw : GOk Tryz.prog (gsT t) w) : KnOk Tryz.prog w kn7 := KnOk.run env (by kernel_rfl) (fun G => kn7_run t G) hw
theorem kn8_run (t : TypeId) (G : Nat → Option Obj) : outEq kn8.v (run0 Tryz.prog (ftOf Tryz.prog) (fun _ _ => none) G 100000 (.fn kn8.f kn8.args) (H0g Tryz.prog (gsT t))) = true := by kernel_rfl
theorem kn8_ok {t : TypeId} {w : World} (hw : GOk Tryz.prog (gsT t) w) : KnOk Tryz.prog w kn8 := KnOk.run env (by kernel_rfl) (fun G => kn8_run t G) hw
theorem kn9_run (t : TypeId) (G : Nat → Option Obj) : outEq kn9.v (run0 Tryz.prog (ftOf Tryz.prog) (fun _ _ => none) G 100000 (.fn kn9.f kn9.args) (H0g Tryz.prog (gsT t))) = true := by kernel_rfl
theorem kn9_ok {t : TypeId} {w : World} (hw : GOk Tryz.prog (gsT t) w) : KnOk Tryz.prog w kn9 := KnOk.run env (by kernel_rfl) (fun G => kn9_run t G) hw
theorem kn10_run (t : TypeId) (G : Nat → Option Obj) : outEq kn10.v (run0 Tryz.prog (ftOf Tryz.prog) (fun _ _ => none) G 100000 (.fn kn10.f kn10.args) (H0g Tryz.prog (gsT t))) = true := by kernel_rfl
theorem kn10_ok {t : TypeId} {w : World} (hw : GOk Tryz.prog (gsT t) w) : KnOk Tryz.prog w kn10 := KnOk.run env (by kernel_rfl) (fun G => kn10_run t G) hw
theorem kn11_run (t : TypeId) (G : Nat → Option Obj) : outEq kn11.v (run0 Tryz.prog (ftOf Tryz.prog) (fun _ _ => none) G 100000 (.fn kn11.f kn11.args) (H0g Tryz.prog (gsT t))) = true := by kernel_rfl
theorem kn11_ok {t : TypeId} {w : World} (hw : GOk Tryz.prog (gsT t) w) : KnOk Tryz.prog w kn11 := KnOk.run env (by kernel_rfl) (fun G => kn11_run t G) hw
theorem kn12_run (t : TypeId) (G : Nat → Option Obj) : outEq kn12.v (run0 Tryz.prog (ftOf Tryz.prog) (fun _ _ => none) G 100000 (.fn kn12.f kn12.args) (H0g Tryz.prog (gsT t))) = true := by kernel_rfl
theorem kn12_ok {t : TypeId} {w : World} (hw : GOk Tryz.prog (gsT t) w) : KnOk Tryz.prog w kn12 := KnOk.run env (by kernel_rfl) (fun G => kn12_run t G) hw
theorem kn13_run (t : TypeId) (G : Nat → Option Obj) : outEq kn13.v (run0 Tryz.prog (ftOf Tryz.prog) (fun _ _ => none) G 100000 (.fn kn13.f kn13.args) (H0g Tryz.prog (gsT t))) = true := by kernel_rfl
theorem kn13_ok {t : TypeId} {w : World} (hw : GOk Tryz.prog (gsT t) w) : KnOk Tryz.prog w kn13 := KnOk.run env (by kernel_rfl) (fun G => kn13_run t G) hw
theorem kn14_run (t : TypeId) (G : Nat → Option Obj) : outEq kn14.v (run0 Tryz.prog (ftOf Tryz.prog) (fun _ _ => none) G 100000 (.fn kn14.f kn14.args) (H0g Tryz.prog (gsT t))) = true := by kernel_rfl
theorem kn14_ok {t : TypeId} {w : World} (hw : GOk Tryz.prog (gsT t) w) : KnOk Tryz.prog w kn14 := KnOk.run env (by kernel_rfl) (fun G => kn14_run t G) hw
theorem kn15_run (t : TypeId) (G : Nat → Option Obj) : outEq kn15.v (run0 Tryz.prog (ftOf Tryz.prog) (fun _ _ => none) G 100000 (.fn kn15.f kn15.args) (H0g Tryz.prog (gsT t))) = true := by kernel_rfl
theorem kn15_ok {t : TypeId} {w : World} (hw : GOk Tryz.prog (gsT t) w) : KnOk Tryz.prog w kn15 := KnOk.run env (by kernel_rfl) (fun G => kn15_run t G) hw
theorem kn16_run (t : TypeId) (G : Nat → Option Obj) : outEq kn16.v (run0 Tryz.prog (ftOf Tryz.prog) (fun _ _ => none) G 100000 (.fn kn16.f kn16.args) (H0g Tryz.prog (gsT t))) = true := by kernel_rfl
theorem kn16_ok {t : TypeId} {w : World} (hw : GOk Tryz.prog (gsT t) w) : KnOk Tryz.prog w kn16 := KnOk.run env (by kernel_rfl) (fun G => kn16_run t G) hw
theorem kn17_run (t : TypeId) (G : Nat → Option Obj) : outEq kn17.v (run0 Tryz.prog (ftOf Tryz.prog) (fun _ _ => none) G 100000 (.fn kn17.f kn17.args) (H0g Tryz.prog (gsT t))) = true := by kernel_rfl
theorem kn17_ok {t : TypeId} {w : World} (hw : GOk Tryz.prog (gsT t) w) : KnOk Tryz.prog w kn17 := KnOk.run env (by kernel_rfl) (fun G => kn17_run t G) hw
theorem kn18_run (t : TypeId) (G : Nat → Option Obj) : outEq kn18.v (run0 Tryz.prog (ftOf Tryz.prog) (fun _ _ => none) G 100000 (.fn kn18.f kn18.args) (H0g Tryz.prog (gsT t))) = true := by kernel_rfl
theorem kn18_ok {t : TypeId} {w : World} (hw : GOk Tryz.prog (gsT t) w) : KnOk Tryz.prog w kn18 := KnOk.run env (by kernel_rfl) (fun G => kn18_run t G) hw
theorem kn19_run (t : TypeId) (G : Nat → Option Obj) : outEq kn19.v (run0 Tryz.prog (ftOf Tryz.prog) (fun _ _ => none) G 100000 (.fn kn19.f kn19.args) (H0g Tryz.prog (gsT t))) = true := by kernel_rfl
theorem kn19_ok {t : TypeId} {w : World} (hw : GOk Tryz.prog (gsT t) w) : KnOk Tryz.prog w kn19 := KnOk.run env (by kernel_rfl) (fun G => kn19_run t G) hw
theorem kn20_run (t : TypeId) (G : Nat → Option Obj) : outEq kn20.v (run0 Tryz.prog (ftOf Tryz.prog) (fun _ _ => none) G 100000 (.fn kn20.f kn20.args) (H0g Tryz.prog (gsT t))) = true := by kernel_rfl
theorem kn20_ok {t : TypeId} {w : World} (hw : GOk Tryz.prog (gsT t) w) : KnOk Tryz.prog w kn20 := KnOk.run env (by kernel_rfl) (fun G => kn20_run t G) hw
theorem kn21_run (t : TypeId) (G : Nat → Option Obj) : outEq kn21.v (run0 Tryz.prog (ftOf Tryz.prog) (fun _ _ => none) G 100000 (.fn kn21.f kn21.args) (H0g Tryz.prog (gsT t))) = true := by kernel_rfl
theorem kn21_ok {t : TypeId} {w : World} (hw : GOk Tryz.prog (gsT t) w) : KnOk Tryz.prog w kn21 := KnOk.run env (by kernel_rfl) (fun G => kn21_run t G) hw
theorem kn22_run (t : TypeId) (G : Nat → Option Obj) : outEq kn22.v (run0 Tryz.prog (ftOf Tryz.prog) (fun _ _ => none) G 100000 (.fn kn22.f kn22.args) (H0g Tryz.prog (gsT t))) = true := by kernel_rfl
theorem kn22_ok {t : TypeId} {w : World} (hw : GOk Tryz.prog (gsT t) w) : KnOk Tryz.prog w kn22 := KnOk.run env (by kernel_rfl) (fun G => kn22_run t G) hw
def kng : KnG := [(86, [([.int .i64 2], .int .i64 1), ([.int .i64 1], .int .i64 0)]), (40, [([.int .u64 17], val1), ([.int .u64 139275], val6), ([.int .u64 9], val7), ([.int .u64 12], val16), ([.int .u64 16395], val22)]), (74, [([.int .i64 1, .int .i64 0], .int .i64 0), ([.int .i64 1, .int .i64 1], .int .i64 1)]), (79, [([], val4)]), (9, [([.int .u64 0], val5), ([.int .u64 4294967822], val8), ([.int .u64 4294967820], val11), ([.int .u64 4294967816], val12), ([.int .u64 4294967818], val13), ([.int .u64 4294967823], val14), ([.int .u64 8589934592], val15), ([.int .u64 4294968066], val18), ([.int .u64 4294968064], val19), ([.int .u64 4294968065], val20), ([.int .u64 4294968067], val21)]), (52, [([.int .u64 0], .int .i64 (-1))]), (83, [([val8], .int .i64 1)])]
def kns : List Kn := [kn0, kn3, kn1, kn6, kn7, kn16, kn22, kn2, kn17, kn4, kn5, kn8, kn11, kn12, kn13, kn14, kn15, kn18, kn19, kn20, kn21, kn9, kn10]
theorem kng_flat : flatG kng = kns := by kernel_rfl
theorem fcons {p : Kn → Prop} {x : Kn} {l : List Kn} (h : p x) (t : ∀ y ∈ l, p y) : ∀ y ∈ x :: l, p y := List.forall_mem_cons.2 ⟨h, t⟩
theorem kng_ok {t : TypeId} {w : World} (hw : GOk Tryz.prog (gsT t) w) : ∀ x ∈ flatG kng, KnOk Tryz.prog w x := by
  rw [kng_flat]
  unfold kns
  refine fcons (kn0_ok hw) ?_
  refine fcons (kn3_ok hw) ?_
  refine fcons (kn1_ok hw) ?_
  refine fcons (kn6_ok hw) ?_
  refine fcons (kn7_ok hw) ?_
  refine fcons (kn16_ok hw) ?_
  refine fcons (kn22_ok hw) ?_
  refine fcons (kn2_ok hw) ?_
  refine fcons (kn17_ok hw) ?_
  refine fcons (kn4_ok hw) ?_
  refine fcons (kn5_ok hw) ?_
  refine fcons (kn8_ok hw) ?_
  refine fcons (kn11_ok hw) ?_
  refine fcons (kn12_ok hw) ?_
  refine fcons (kn13_ok hw) ?_
  refine fcons (kn14_ok hw) ?_
  refine fcons (kn15_ok hw) ?_
  refine fcons (kn18_ok hw) ?_
  refine fcons (kn19_ok hw) ?_
  refine fcons (kn20_ok hw) ?_
  refine fcons (kn21_ok hw) ?_
  refine fcons (kn9_ok hw) ?_
  refine fcons (kn10_ok hw) ?_
  exact fun _ h => absurd h List.not_mem_nil
end Go.Proofs.YtigbcepnbpibaaaGreatDoor
