/-
  Stage 1: what the evaluator asks of this program, and the law's own look 'awake'. No condition.
-/
import Derived.Test.YtghgpmfofnhjlaaEvL
import Derived.Test.YtghgpmfofnhjlaaRows
namespace Go.Proofs.Ytghgpmfofnhjlaa
open Go.Ev Go.RowKit
set_option maxRecDepth 100000
theorem env : EnvOk Try.prog (ftOf Try.prog) := envOk (by kernel_rfl) (by kernel_rfl) (by kernel_rfl)
theorem noGlobals : Try.prog.globals.size = 0 := by kernel_rfl
theorem awakeRun : outIs true (run Try.prog (ftOf Try.prog) 1000 (.fn 17 #[]) (H0 Try.prog)) = true := by kernel_rfl
theorem knownRun : outIs true (run Try.prog (ftOf Try.prog) 1000 (.fn 5 #[]) (H0 Try.prog)) = true := by kernel_rfl
/-- The law's own look is known. -/
noncomputable def aw : FuncId → Array Value → Option Value := know1 17 true fun _ _ => none
theorem awOk : KOk Try.prog aw := know1_ok env noK awakeRun
theorem awake_any (w : World) : Calls Try.prog 17 #[] w fun e w' => e = .returned (.bool true) ∧ Grown w w' :=
  closed_bool env (by kernel_rfl) awakeRun w (by rw [noGlobals]; exact Nat.zero_le _)
theorem known_any (w : World) : Calls Try.prog 5 #[] w fun e w' => e = .returned (.bool true) ∧ Grown w w' :=
  closed_bool env (by kernel_rfl) knownRun w (by rw [noGlobals]; exact Nat.zero_le _)
end Go.Proofs.Ytghgpmfofnhjlaa
