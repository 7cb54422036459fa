/-
  A row of steps of the small record is a walk of the goroutine's, in the company of others that only draw. Conditions: EnvOk; no code stands for other code.
-/
import Derived.Test.YtmokhbchncjcbaaTkB
import Derived.Conc.Token
namespace Go.Ev
open Go.Conc
set_option linter.unusedSectionVars false
variable [Syms] {P : Program} [NoFloat P] {ft : Nat → Option Func} {main : Bool}

noncomputable def stepsA (P : Program) [NoFloat P] (ft : Nat → Option Func) : Nat → AG → Heap → Option (AG × Heap)
  | 0, g, H => some (g, H)
  | n + 1, g, H => match stepA P ft g H with
    | some (g', H') => stepsA P ft n g' H'
    | none => none

theorem stepsA_next (hE : @EnvOk noMarks P ft) : ∀ (n : Nat) (g : AG) (H : Heap) (g' : AG) (H' : Heap), stepsA P ft n g H = some (g', H') → ∀ (ι : Inj) (a : Goroutine) (w : World), Rel P ι H w → GRel P ι g a → H.next ≤ H'.next
  | 0, g, H, g', H', h, _, _, _, _, _ => by
    simp only [stepsA, Option.some.injEq, Prod.mk.injEq] at h
    obtain ⟨rfl, rfl⟩ := h
    exact Nat.le_refl _
  | n + 1, g, H, g', H', h, ι, a, w, hw, hg => by
    simp only [stepsA] at h
    split at h
    · rename_i g1 H1 h1
      obtain ⟨ι1, a1, w1, es, e1, x1, r1, q1, ev, ro, z1⟩ := stepA_ok (main := true) hE h1 hw hg
      exact Nat.le_trans ro.next (stepsA_next hE n g1 H1 g' H' h ι1 a1 w1 r1 q1)
    · simp at h

/-- WHAT IS ASKED OF A STEP, AND OF WHAT IS HELD: from a world in which the small heap is right to one in which it is, by such accesses; M: how far names go. -/
structure Lets (P : Program) (M : Nat) (Inv : Inj → Heap → World → Prop) (D : World → World → Array Event → Prop) : Prop where
  step : ∀ ι H w ι' H' w' es, Rel P ι H w → Ext P ι w ι' w' → Rel P ι' H' w' → (∀ e ∈ es, EvOk ι H w' e) → Ro H H' → w'.heap.size + H.next = w.heap.size + H'.next → H'.next ≤ M → Inv ι H w → D w w' es ∧ Inv ι' H' w'
  draw : ∀ ι H w d, Inv ι H w → Inv ι H (w.at d)

theorem goes_steps (hE : @EnvOk noMarks P ft) {M : Nat} {Inv : Inj → Heap → World → Prop} {D : World → World → Array Event → Prop} (hD : Lets P M Inv D) {Stop : Goroutine → World → Prop} : ∀ (n : Nat) (g : AG) (H : Heap) (g' : AG) (H' : Heap), stepsA P ft n g H = some (g', H') → H'.next ≤ M →
    ∀ (ι : Inj) (a : Goroutine) (w : World), Rel P ι H w → GRel P ι g a → Inv ι H w → (∀ ι' a' w', Sub ι ι' → Rel P ι' H' w' → GRel P ι' g' a' → Inv ι' H' w' → Stop a' w') → Goes P main AtRel D Stop n a w
  | 0, g, H, g', H', h, _, ι, a, w, hw, hg, hi, hS => by
    simp only [stepsA, Option.some.injEq, Prod.mk.injEq] at h
    obtain ⟨rfl, rfl⟩ := h
    rintro w₁ ⟨d, rfl⟩
    exact hS ι a _ (Sub.refl ι) (hw.draw d) hg (hD.draw _ _ _ d hi)
  | n + 1, g, H, g', H', h, hM, ι, a, w, hw, hg, hi, hS => by
    simp only [stepsA] at h
    split at h
    · rename_i g1 H1 h1
      refine Goes.step hg.status ?_
      rintro w₁ ⟨d, rfl⟩
      obtain ⟨ι1, a1, w1, es, e1, x1, r1, q1, ev, ro, z1⟩ := stepA_ok (main := main) hE h1 (hw.draw d) hg
      have hn := stepsA_next hE n g1 H1 g' H' h ι1 a1 w1 r1 q1
      obtain ⟨hd, hi1⟩ := hD.step ι H _ ι1 H1 w1 es (hw.draw d) x1 r1 ev ro z1 (Nat.le_trans hn hM) (hD.draw _ _ _ d hi)
      have e1' : stepG P main a (w.at d) = .go a1 w1 es := e1
      rw [e1', goes_go]
      exact ⟨hd, goes_steps hE hD n g1 H1 g' H' h hM ι1 a1 w1 r1 q1 hi1 fun ι' a' w' hs => hS ι' a' w' (x1.sub.trans hs)⟩
    · simp at h
end Go.Ev
