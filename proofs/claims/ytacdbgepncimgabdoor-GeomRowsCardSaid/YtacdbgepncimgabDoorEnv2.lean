/-
  Stage 2: what the evaluator asks of this program; what its one variable holds. Condition: the variable reads as it is laid.
-/
import Derived.Test.YtacdbgepncimgabDoorEvR
import Derived.Test.YtacdbgepncimgabDoorRows
namespace Go.Proofs.YtacdbgepncimgabDoor
open Go.Ev Go.RowKit
set_option maxRecDepth 100000
theorem env : EnvOk Tryd.prog (ftOf Tryd.prog) := envOk (by kernel_rfl) (by kernel_rfl) (by kernel_rfl)
instance : NoFloat Tryd.prog := noFloat (by kernel_rfl)
/-- The cells of the table. -/
def tab : Array Value := #[.int .i64 0, .int .i64 0, .int .i64 0, .int .i64 0, .int .i64 0, .int .i64 0, .int .i64 1, .int .i64 0, .int .i64 0, .int .i64 2, .int .i64 0, .int .i64 0, .int .i64 0, .int .i64 0, .int .i64 0, .int .i64 3, .int .i64 0, .int .i64 0, .int .i64 7, .int .i64 0, .int .i64 0, .int .i64 8, .int .i64 0, .int .i64 0, .int .i64 8, .int .i64 0, .int .i64 0, .int .i64 8, .int .i64 0, .int .i64 0, .int .i64 9, .int .i64 0, .int .i64 0, .int .i64 9, .int .i64 0, .int .i64 0, .int .i64 7, .int .i64 3, .int .i64 4, .int .i64 7, .int .i64 3, .int .i64 0, .int .i64 7, .int .i64 5, .int .i64 0, .int .i64 7, .int .i64 0, .int .i64 0, .int .i64 7, .int .i64 10, .int .i64 0, .int .i64 11, .int .i64 0, .int .i64 0, .int .i64 11, .int .i64 6, .int .i64 0]
def gsT (t : TypeId) : Gs := [(0, tab, t)]
noncomputable def no : FuncId → Array Value → Option Value := fun _ _ => none
end Go.Proofs.YtacdbgepncimgabDoor
