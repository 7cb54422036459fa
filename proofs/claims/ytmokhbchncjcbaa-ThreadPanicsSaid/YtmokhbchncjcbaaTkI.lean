/-
  Regions whose order is drawn: each order that may be drawn is walked. Conditions: EnvOk; no code stands for other code.
-/
import Derived.Test.YtmokhbchncjcbaaTkH
namespace Go.Ev
open Go.Conc
set_option linter.unusedSectionVars false
/-- All orders that may be drawn. -/
def ordersFrom (ops : Array Oper) : Nat → Array Bool → List Nat → List (List Nat)
  | 0, _, acc => [acc.reverse]
  | n + 1, L, acc =>
    match (List.range ops.size).filter fun i => !L.getD i true && ((ops[i]?).map (·.after.all fun e => !Region.binds .any e || L.getD e.on false)).getD false with
    | [] => [acc.reverse]
    | i :: r => (i :: r).flatMap fun i => ordersFrom ops n (L.setIfInBounds i true) (i :: acc)
def ordersOf (ops : Array Oper) : List (List Nat) := ordersFrom ops ops.size (Array.replicate ops.size false) []
theorem go_mem (ops : Array Oper) : ∀ (n t : Nat) (L : Array Bool) (acc : List Nat), Region.linearise.go .any ops n t L acc ∈ ordersFrom ops n L acc
  | 0, t, L, acc => by simp [Region.linearise.go, ordersFrom]
  | n + 1, t, L, acc => by
    unfold Region.linearise.go ordersFrom
    generalize (List.range ops.size).filter (fun i => !L.getD i true && ((ops[i]?).map (·.after.all fun e => !Region.binds .any e || L.getD e.on false)).getD false) = rs
    cases rs with
    | nil => simp
    | cons i r =>
      dsimp only
      have hlt : t % (i :: r).length < (i :: r).length := Nat.mod_lt _ (by simp)
      rw [List.getElem?_eq_getElem hlt]
      exact List.mem_flatMap.2 ⟨_, List.getElem_mem hlt, go_mem ops n _ _ _⟩
theorem schedule_mem {ops : Array Oper} (t : Nat) : Region.schedule true ops t ∈ ordersOf ops := by
  unfold Region.schedule Region.linearise ordersOf
  simp only [Bool.true_or, if_true]
  exact go_mem ops _ _ _ _

variable [Syms] {P : Program} [NoFloat P] {ι : Inj} {H : Heap} {ft : Nat → Option Func} {main : Bool}
theorem goes_draw (hE : @EnvOk noMarks P ft) {M : Nat} {Inv : Inj → Heap → World → Prop} {D : World → World → Array Event → Prop} (hD : Lets P M Inv D) (hM : H.next ≤ M) {Stop : Goroutine → World → Prop} {n : Nat} {f : AFrame} {cs : List AFrame} {id : Nat} {ops : Array Oper} {k : List Item}
    (hm : f.mode = .run) (ht : f.todo = .code (.region id ops true) :: k) {a : Goroutine} {w : World} (hw : Rel P ι H w) (hg : GRel P ι (f, cs) a) (hi : Inv ι H w)
    (hn : ∀ σ ∈ ordersOf ops, ∀ a' w', Rel P ι H w' → GRel P ι ({ f with todo := .inRegion ops σ :: k }, cs) a' → Inv ι H w' → Goes P main AtRel D Stop n a' w') : Goes P main AtRel D Stop (n + 1) a w := by
  refine Goes.step hg.status ?_
  rintro w₁ ⟨d, rfl⟩
  have hF := hg.frame
  have hmd := hF.mode
  simp only [hm] at hmd
  have hmode : a.frame.mode = .run := by
    revert hmd
    cases a.frame.mode <;> simp [MdRel]
  have htd : a.frame.todo = .code (.region id ops true) :: k := hF.todo.trans ht
  have hfine := hF.fine
  simp only [ht] at hfine
  obtain ⟨h1, h2⟩ := fine_tail hfine
  simp only [fineI, fineC] at h1
  have hst : ∃ t, stepG P main a (w.at d) = .go (goG { a.frame with todo := .inRegion ops (Region.schedule true ops t) :: k } a.callers) { (w.at d) with drawn := (w.at d).drawn + 1 } #[] := by
    refine ⟨(w.at d).tape (w.at d).drawn (.order a.frame.fn id), ?_⟩
    rw [stepG_run hg.dying hmode]
    simp [stepG.exec, htd, goG, choose, Sem.run, Question.forced, Question.cut, hE.mixed]
  obtain ⟨t, e1⟩ := hst
  rw [e1, goes_go]
  have hw1 : Rel P ι H (w.at d) := hw.draw d
  have hw2 : Rel P ι H { (w.at d) with drawn := (w.at d).drawn + 1 } := hw1.draw _
  obtain ⟨q1, q2⟩ := hD.step ι H (w.at d) ι H _ #[] hw1 (Ext.draw ι _ _) hw2 (fun e he => by simp at he) (.refl _) rfl hM (hD.draw _ _ _ d hi)
  exact ⟨q1, hn _ (schedule_mem t) _ _ hw2 ⟨rfl, rfl, ⟨hF.fn, rfl, hF.kind, hF.round, hF.opn, hF.A, hF.defers, hF.mode, by simp only [List.all_cons, fineI, h1, h2, Bool.and_self]⟩, hg.callers⟩ q2⟩
end Go.Ev
