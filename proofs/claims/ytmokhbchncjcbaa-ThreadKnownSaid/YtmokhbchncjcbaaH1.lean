/-
  Stage 5: the closed statement ThreadKnown, played. No condition.
-/
import Derived.Test.YtmokhbchncjcbaaTkQ
import Derived.Test.YtmokhbchncjcbaaRows
namespace Go.Proofs.Ytmokhbchncjcbaa
open Go.Ev Go.RowKit Go.Conc
set_option maxRecDepth 100000
theorem env : @EnvOk noMarks Try.prog (ftOf Try.prog) := envOk (by kernel_rfl) (by kernel_rfl) (by kernel_rfl)
instance : NoFloat Try.prog := noFloat (by kernel_rfl)
theorem noGlobals : Try.prog.globals.size = 0 := by kernel_rfl
theorem gok (w : World) : GOk Try.prog [] w := ⟨by rw [noGlobals]; exact Nat.zero_le _, rfl, fun x hx => by simp at hx⟩
def knownMoves : List Mv := [.walk 79, .chans 5 4 [5, 6, 7], .walk 24, .marks [(0, 64), (6, 18)], .hire [0, 6] [2, 5, 3, 4] 27, .walk 45, .last 5 1 5, .walk 214, .chans 5 4 [5, 6, 7], .walk 8, .marks [(0, 0), (6, 0)], .walk 16, .marks [(0, 64), (14, 30)], .hire [0, 14] [10, 13, 2, 3, 4, 5, 11, 12] 27, .walk 72, .join 5 5, .give 10 0 17, .walk 166, .shut 12 1 10, .walk 40, .last 13 0 5, .walk 485, .chans 5 4 [5, 6, 7], .walk 24, .marks [(0, 0), (14, 0), (23, 64), (30, 30)], .hire [23, 30] [26, 29, 2, 3, 4, 5, 10, 11, 12, 13, 27, 28] 27, .walk 92, .join 5 5, .give 26 0 17, .walk 114, .give 27 0 27, .walk 90, .join 5 5, .give 26 0 17, .walk 114, .give 27 0 27, .walk 62, .last 29 1 5, .walk 220]
theorem knownPlay (X : Nat → Option Obj) : @playOk (noSyms X) Try.prog _ (ftOf Try.prog) [] 100 4 #[] knownMoves = true := by kernel_rfl
theorem known_any (W : World) : ∃ N last o w' t', runNT Try.prog (N + 1) (solo (G (Frame.enter Try.prog 4 #[] .normal) []) W) #[] = (.ended o w', t') ∧ runN Try.prog N (solo (G (Frame.enter Try.prog 4 #[] .normal) []) W) = .next last ∧
    step Try.prog last = .ended o w' ∧ Go.Conc.Good Try.prog (fun v w' => v = .bool true ∧ Quiet W w') last o w' t' := playedCall env W (knownPlay _) (fun _ => @ARel.nil (noSyms _) _) (gok W)
end Go.Proofs.Ytmokhbchncjcbaa
