/-
  What the evaluator asks of this program; its one listed variable: its cells out of what it reads as, a world that has it so; closed statements, run. Condition: the variable reads as it is laid.
-/
import Derived.Test.YtllmdpfngmbjgaaDoorEvKn
import Derived.Test.YtllmdpfngmbjgaaDoorEvZ
import Derived.Test.YtllmdpfngmbjgaaDoorRows
import Derived.LaidHandle
import Derived.Handed
import Derived.JoinedOf
import Derived.RowKitTokens
import Derived.Stop.Joined
import Derived.SevenTiedAt
namespace Go.Proofs.YtllmdpfngmbjgaaDoor
open Go.Ev Go.RowKit
set_option maxRecDepth 100000
theorem env : EnvOk Tryd.prog (ftOf Tryd.prog) := envOk (by kernel_rfl) (by kernel_rfl) (by kernel_rfl)
instance : NoFloat Tryd.prog := noFloat (by kernel_rfl)
/-- The cells of the table. -/
def tab : Array Value := #[.int .i64 0, .int .i64 0, .int .i64 0, .int .i64 0, .int .i64 0, .int .i64 0, .int .i64 1, .int .i64 0, .int .i64 0, .int .i64 2, .int .i64 0, .int .i64 0, .int .i64 0, .int .i64 0, .int .i64 0, .int .i64 3, .int .i64 0, .int .i64 0, .int .i64 7, .int .i64 0, .int .i64 0, .int .i64 8, .int .i64 0, .int .i64 0, .int .i64 8, .int .i64 0, .int .i64 0, .int .i64 8, .int .i64 0, .int .i64 0, .int .i64 9, .int .i64 0, .int .i64 0, .int .i64 9, .int .i64 0, .int .i64 0, .int .i64 7, .int .i64 3, .int .i64 4, .int .i64 7, .int .i64 3, .int .i64 0, .int .i64 7, .int .i64 5, .int .i64 0, .int .i64 7, .int .i64 0, .int .i64 0, .int .i64 7, .int .i64 10, .int .i64 0, .int .i64 11, .int .i64 0, .int .i64 0, .int .i64 11, .int .i64 6, .int .i64 0]
def gsT (t : TypeId) : Gs := [(0, tab, t)]
noncomputable def no : FuncId → Array Value → Option Value := fun _ _ => none
theorem told : Tryd.prog.globalNamed "quillet/geom.told" = some 0 := by kernel_rfl
theorem toldType : (Tryd.prog.globals[0]?).map (·.type) = some 80 := by kernel_rfl
theorem plainTold : PlainT Tryd.prog 80 := .array (e := 79) (n := 19) (by kernel_rfl) (by kernel_rfl) (.array (e := 3) (n := 3) (by kernel_rfl) (by kernel_rfl) (.int (k := .i64) (by kernel_rfl)))
theorem laid_gok {W : World} (h : laidMetH Tryd.prog [("quillet/geom.told", Rows.laid_quillet_geom_told)] W) : ∃ ty, GOk Tryd.prog (gsT ty) W :=
  gok_of_laid (name := "quillet/geom.told") (g := 0) (t := 80) (cs := tab) (d := Rows.laid_quillet_geom_told) (w := W) h told toldType plainTold (f := 4) (by kernel_rfl) (by kernel_rfl) (by decide) (by kernel_rfl)
noncomputable def laidWorld (os : Os) : World :=
  { World.holding Tryd.prog os ⟨#[], #[], []⟩ with heap := (World.holding Tryd.prog os ⟨#[], #[], []⟩).heap.modify 0 fun
      | .cells _ t frozen => .cells tab t frozen
      | o => o }
theorem laidWorld_met (os : Os) (args : Array Value) : laidMetH Tryd.prog [("quillet/geom.told", Rows.laid_quillet_geom_told)] ((laidWorld os).forCall (fun _ _ => 0) ⟨#[], args, []⟩).memory :=
  laidMetH_of_parts (laidMet_of_run' 8 (by kernel_rfl) (by kernel_rfl)) (by kernel_rfl)
theorem noStand (ts : Array TypeId) (h : (ts.toList.all fun t => !Tryd.prog.wantsStandIn t) = true) (j : Nat) (t : TypeId) (ht : ts[j]? = some t) : Tryd.prog.wantsStandIn t = false := by
  rw [List.all_eq_true] at h
  have := h t (by have := Array.mem_of_getElem? ht; simpa using this)
  simpa using this
end Go.Proofs.YtllmdpfngmbjgaaDoor
