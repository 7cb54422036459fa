/-
  Calls that are known ahead: each entry by a run of its own. Condition: the variable holds its table.
-/
import Derived.Test.YtllmdpfngmbjgaaDoorST0
import Derived.Test.YtllmdpfngmbjgaaDoorEvKn2
namespace Go.Proofs.YtllmdpfngmbjgaaDoor
open Go.Ev Go.RowKit
set_option maxRecDepth 100000
abbrev val1 : Value := .agg #[.int .i64 1, .int .i64 20, .int .i64 0, .int .u32 64]
abbrev val3 : Value := .agg #[.int .i64 2, .int .i64 40, .int .i64 3, .int .u32 65]
abbrev val4 : Value := .agg #[.int .i64 3, .int .i64 0, .int .i64 5, .int .u32 65]
abbrev val6 : Value := .agg #[.int .i64 1, .int .i64 40, .int .i64 0, .int .u32 65]
abbrev val7 : Value := .agg #[.int .i64 0, .int .i64 0, .int .i64 0, .int .u32 0]
abbrev val8 : Value := .agg #[.int .i64 1, .int .i64 8, .int .i64 0, .int .u32 128]
abbrev val10 : Value := .agg #[.int .i64 1, .int .i64 9, .int .i64 0, .int .u32 129]
def kn0 : Kn := ⟨26, #[.int .i64 20, .int .u32 64], .int .u64 274877907025⟩
def kn1 : Kn := ⟨35, #[.int .u64 274877907025], val1⟩
def kn2 : Kn := ⟨29, #[.int .i64 3, .int .i64 40, .int .u32 65], .int .u64 279173660834⟩
def kn3 : Kn := ⟨35, #[.int .u64 279173660834], val3⟩
def kn4 : Kn := ⟨35, #[.int .u64 279174184963], val4⟩
def kn5 : Kn := ⟨26, #[.int .i64 40, .int .u32 65], .int .u64 279172874401⟩
def kn6 : Kn := ⟨35, #[.int .u64 279172874401], val6⟩
def kn7 : Kn := ⟨35, #[.int .u64 0], val7⟩
def kn8 : Kn := ⟨35, #[.int .u64 549755813921], val8⟩
def kn9 : Kn := ⟨30, #[val8], .int .u64 549755813921⟩
def kn10 : Kn := ⟨35, #[.int .u64 554050781221], val10⟩
theorem kn0_run (t : TypeId) (G : Nat → Option Obj) : outEq kn0.v (run0 Tryd.prog (ftOf Tryd.prog) (fun _ _ => none) G 100000 (.fn kn0.f kn0.args) (H0g Tryd.prog (gsT t))) = true := by kernel_rfl
theorem kn0_ok {t : TypeId} {w : World} (hw : GOk Tryd.prog (gsT t) w) : KnOk Tryd.prog w kn0 := KnOk.run env (by kernel_rfl) (fun G => kn0_run t G) hw
theorem kn1_run (t : TypeId) (G : Nat → Option Obj) : outEq kn1.v (run0 Tryd.prog (ftOf Tryd.prog) (fun _ _ => none) G 100000 (.fn kn1.f kn1.args) (H0g Tryd.prog (gsT t))) = true := by kernel_rfl
theorem kn1_ok {t : TypeId} {w : World} (hw : GOk Tryd.prog (gsT t) w) : KnOk Tryd.prog w kn1 := KnOk.run env (by kernel_rfl) (fun G => kn1_run t G) hw
theorem kn2_run (t : TypeId) (G : Nat → Option Obj) : outEq kn2.v (run0 Tryd.prog (ftOf Tryd.prog) (fun _ _ => none) G 100000 (.fn kn2.f kn2.args) (H0g Tryd.prog (gsT t))) = true := by kernel_rfl
theorem kn2_ok {t : TypeId} {w : World} (hw : GOk Tryd.prog (gsT t) w) : KnOk Tryd.prog w kn2 := KnOk.run env (by kernel_rfl) (fun G => kn2_run t G) hw
theorem kn3_run (t : TypeId) (G : Nat → Option Obj) : outEq kn3.v (run0 Tryd.prog (ftOf Tryd.prog) (fun _ _ => none) G 100000 (.fn kn3.f kn3.args) (H0g Tryd.prog (gsT t))) = true := by kernel_rfl
theorem kn3_ok {t : TypeId} {w : World} (hw : GOk Tryd.prog (gsT t) w) : KnOk Tryd.prog w kn3 := KnOk.run env (by kernel_rfl) (fun G => kn3_run t G) hw
theorem kn4_run (t : TypeId) (G : Nat → Option Obj) : outEq kn4.v (run0 Tryd.prog (ftOf Tryd.prog) (fun _ _ => none) G 100000 (.fn kn4.f kn4.args) (H0g Tryd.prog (gsT t))) = true := by kernel_rfl
theorem kn4_ok {t : TypeId} {w : World} (hw : GOk Tryd.prog (gsT t) w) : KnOk Tryd.prog w kn4 := KnOk.run env (by kernel_rfl) (fun G => kn4_run t G) hw
theorem kn5_run (t : TypeId) (G : Nat → Option Obj) : outEq kn5.v (run0 Tryd.prog (ftOf Tryd.prog) (fun _ _ => none) G 100000 (.fn kn5.f kn5.args) (H0g Tryd.prog (gsT t))) = true := by kernel_rfl
theorem kn5_ok {t : TypeId} {w : World} (hw : GOk Tryd.prog (gsT t) w) : KnOk Tryd.prog w kn5 := KnOk.run env (by kernel_rfl) (fun G => kn5_run t G) hw
theorem kn6_run (t : TypeId) (G : Nat → Option Obj) : outEq kn6.v (run0 Tryd.prog (ftOf Tryd.prog) (fun _ _ => none) G 100000 (.fn kn6.f kn6.args) (H0g Tryd.prog (gsT t))) = true := by kernel_rfl
theorem kn6_ok {t : TypeId} {w : World} (hw : GOk Tryd.prog (gsT t) w) : KnOk Tryd.prog w kn6 := KnOk.run env (by kernel_rfl) (fun G => kn6_run t G) hw
theorem kn7_run (t : TypeId) (G : Nat → Option Obj) : outEq kn7.v (run0 Tryd.prog (ftOf Tryd.prog) (fun _ _ => none) G 100000 (.fn kn7.f kn7.args) (H0g Tryd.prog (gsT t))) = true := by kernel_rfl
theorem kn7_ok {t : TypeId} {w : World} (hw : GOk Tryd.prog (gsT t) w) : KnOk Tryd.prog w kn7 := KnOk.run env (by kernel_rfl) (fun G => kn7_run t G) hw
theorem kn8_run (t : TypeId) (G : Nat → Option Obj) : outEq kn8.v (run0 Tryd.prog (ftOf Tryd.prog) (fun _ _ => none) G 100000 (.fn kn8.f kn8.args) (H0g Tryd.prog (gsT t))) = true := by kernel_rfl
theorem kn8_ok {t : TypeId} {w : World} (hw : GOk Tryd.prog (gsT t) w) : KnOk Tryd.prog w kn8 := KnOk.run env (by kernel_rfl) (fun G => kn8_run t G) hw
theorem kn9_run (t : TypeId) (G : Nat → Option Obj) : outEq kn9.v (run0 Tryd.prog (ftOf Tryd.prog) (fun _ _ => none) G 100000 (.fn kn9.f kn9.args) (H0g Tryd.prog (gsT t))) = true := by kernel_rfl
theorem kn9_ok {t : TypeId} {w : World} (hw : GOk Tryd.prog (gsT t) w) : KnOk Tryd.prog w kn9 := KnOk.run env (by kernel_rfl) (fun G => kn9_run t G) hw
theorem kn10_run (t : TypeId) (G : Nat → Option Obj) : outEq kn10.v (run0 Tryd.prog (ftOf Tryd.prog) (fun _ _ => none) G 100000 (.fn kn10.f kn10.args) (H0g Tryd.prog (gsT t))) = true := by kernel_rfl
theorem kn10_ok {t : TypeId} {w : World} (hw : GOk Tryd.prog (gsT t) w) : KnOk Tryd.prog w kn10 := KnOk.run env (by kernel_rfl) (fun G => kn10_run t G) hw
def kng : KnG := [(26, [([.int .u32 64, .int .i64 20], .int .u64 274877907025), ([.int .u32 65, .int .i64 40], .int .u64 279172874401)]), (35, [([.int .u64 274877907025], val1), ([.int .u64 279173660834], val3), ([.int .u64 279174184963], val4), ([.int .u64 279172874401], val6), ([.int .u64 0], val7), ([.int .u64 549755813921], val8), ([.int .u64 554050781221], val10)]), (29, [([.int .u32 65, .int .i64 40, .int .i64 3], .int .u64 279173660834)]), (30, [([val8], .int .u64 549755813921)])]
def kns : List Kn := [kn0, kn5, kn1, kn3, kn4, kn6, kn7, kn8, kn10, kn2, kn9]
theorem kng_flat : flatG kng = kns := by kernel_rfl
theorem fcons {p : Kn → Prop} {x : Kn} {l : List Kn} (h : p x) (t : ∀ y ∈ l, p y) : ∀ y ∈ x :: l, p y := List.forall_mem_cons.2 ⟨h, t⟩
theorem kng_ok {t : TypeId} {w : World} (hw : GOk Tryd.prog (gsT t) w) : ∀ x ∈ flatG kng, KnOk Tryd.prog w x := by
  rw [kng_flat]
  unfold kns
  refine fcons (kn0_ok hw) ?_
  refine fcons (kn5_ok hw) ?_
  refine fcons (kn1_ok hw) ?_
  refine fcons (kn3_ok hw) ?_
  refine fcons (kn4_ok hw) ?_
  refine fcons (kn6_ok hw) ?_
  refine fcons (kn7_ok hw) ?_
  refine fcons (kn8_ok hw) ?_
  refine fcons (kn10_ok hw) ?_
  refine fcons (kn2_ok hw) ?_
  refine fcons (kn9_ok hw) ?_
  exact fun _ h => absurd h List.not_mem_nil
end Go.Proofs.YtllmdpfngmbjgaaDoor
