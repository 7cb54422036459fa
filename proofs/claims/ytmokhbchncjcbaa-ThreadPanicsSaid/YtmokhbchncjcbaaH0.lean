/-
  Stage 5: what the plays ask of this program. No condition.
-/
import Derived.Test.YtmokhbchncjcbaaTkR
import Derived.Test.YtmokhbchncjcbaaRows
namespace Go.Proofs.Ytmokhbchncjcbaa
open Go.Ev Go.RowKit Go.Conc
set_option maxRecDepth 100000
theorem env : @EnvOk noMarks Try.prog (ftOf Try.prog) := envOk (by kernel_rfl) (by kernel_rfl) (by kernel_rfl)
instance : NoFloat Try.prog := noFloat (by kernel_rfl)
theorem noGlobals : Try.prog.globals.size = 0 := by kernel_rfl
theorem gok (w : World) : GOk Try.prog [] w := ⟨by rw [noGlobals]; exact Nat.zero_le _, rfl, fun x hx => by simp at hx⟩
end Go.Proofs.Ytmokhbchncjcbaa
