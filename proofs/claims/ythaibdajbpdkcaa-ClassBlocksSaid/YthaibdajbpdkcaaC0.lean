/-
  Stage 6: what the evaluator asks of this program; the closed statement ClassKnown and the law's own look, run. No condition.
-/
import Derived.Test.YthaibdajbpdkcaaEvSl
import Derived.Test.YthaibdajbpdkcaaRows
namespace Go.Proofs.Ythaibdajbpdkcaa
open Go.Ev Go.RowKit
set_option maxRecDepth 100000
theorem env : EnvOk Try.prog (ftOf Try.prog) := envOk (by kernel_rfl) (by kernel_rfl) (by kernel_rfl)
instance : NoFloat Try.prog := noFloat (by kernel_rfl)
theorem noGlobals : Try.prog.globals.size = 0 := by kernel_rfl
theorem gok (w : World) : GOk Try.prog [] w := ⟨by rw [noGlobals]; exact Nat.zero_le _, rfl, fun x hx => by simp at hx⟩
noncomputable def no : FuncId → Array Value → Option Value := fun _ _ => none
theorem awakeRun (G : Nat → Option Obj) : outIs true (run0 Try.prog (ftOf Try.prog) no G 1000 (.fn 14 #[]) (H0g Try.prog [])) = true := by kernel_rfl
theorem awake_any (w : World) : Calls Try.prog 14 #[] w fun e w' => e = .returned (.bool true) ∧ Quiet w w' :=
  closed0 env (K := no) (n := 1000) (gs := []) (b := true) (by kernel_rfl) w (fun _ _ _ h => by simp [no] at h) awakeRun (gok w)
theorem knownRun (G : Nat → Option Obj) : outIs true (run0 Try.prog (ftOf Try.prog) no G 1000 (.fn 3 #[]) (H0g Try.prog [])) = true := by kernel_rfl
theorem known_any (w : World) : Calls Try.prog 3 #[] w fun e w' => e = .returned (.bool true) ∧ Quiet w w' :=
  closed0 env (K := no) (n := 1000) (gs := []) (b := true) (by kernel_rfl) w (fun _ _ _ h => by simp [no] at h) knownRun (gok w)
end Go.Proofs.Ythaibdajbpdkcaa
