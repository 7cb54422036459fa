/-
  A call that starts goroutines, played from its entry to its end, in whatever world, on whatever tape. Conditions: EnvOk; no code stands for other code; the variables hold what is known of them.
-/
import Derived.Test.YtmokhbchncjcbaaTkP
import Derived.Conc.LeavingOf
namespace Go.Ev
open Go.Conc
set_option linter.unusedSectionVars false
noncomputable def playOk [Syms] (P : Program) [NoFloat P] (ft : Nat → Option Func) (gs : Gs) (M : Nat) (f : FuncId) (args : Array Value) (l : List Mv) : Bool := match enterA ft f args false with
  | some fr => doneS P ft M (plays P ft M l (.alone (fr, []) (H0g P gs)))
  | none => false
theorem playedCall {P : Program} [NoFloat P] {ft : Nat → Option Func} (hE : @EnvOk noMarks P ft) {gs : Gs} {M : Nat} {f : FuncId} {args args' : Array Value} {l : List Mv} (W : World) (hrun : @playOk (noSyms fun b => W.heap[b]?) P _ ft gs M f args l = true) (ha : ∀ ι, @ARel (noSyms fun b => W.heap[b]?) ι args args') (hw : GOk P gs W) :
    ∃ N last o w' t', runNT P (N + 1) (solo (G (Frame.enter P f args' .normal) []) W) #[] = (.ended o w', t') ∧ runN P N (solo (G (Frame.enter P f args' .normal) []) W) = .next last ∧ step P last = .ended o w' ∧ Go.Conc.Good P (fun v w' => v = .bool true ∧ Quiet W w') last o w' t' := by
  letI := noSyms fun b => W.heap[b]?
  unfold playOk at hrun
  cases he : enterA ft f args false with
  | none => rw [he] at hrun; simp at hrun
  | some fr =>
    rw [he] at hrun
    have hrel : Rel P (ι0g P gs) (H0g P gs) W := rel0g hw ⟨fun _ _ => rfl, fun _ _ h => by simp at h⟩
    have hA : Alone P M (W.heap.size - (H0g P gs).next) W (ι0g P gs) (fr, []) (H0g P gs) (solo (G (Frame.enter P f args' .normal) []) W) #[] := by
      refine ⟨ι0g P gs, #[G (Frame.enter P f args' .normal) []], W, none, fun _ => 0, G (Frame.enter P f args' .normal) [], ⟨solo_eq_crowd _ _, rfl, hrel, ⟨rfl, rfl, enterA_ok hE he (ha _), trivial⟩, ?_, Ext.refl _ _, leavers_one _ _, past_nil.mono (Nat.zero_le _)⟩⟩
      have := hrel.room
      show W.heap.size = (H0g P gs).next + (W.heap.size - (H0g P gs).next)
      have e : (H0g P gs).next = P.globals.size := rfl
      have e2 : (H0g P gs).base = P.globals.size := rfl
      omega
    obtain ⟨N, last, o, w', t', h1, h2, h3, h4⟩ := played hE hrun hA
    exact ⟨N, last, o, w', t', h1, h2, h3, h4.mono fun v ⟨e, ι', x⟩ => ⟨e, x.quiet⟩⟩
end Go.Ev
