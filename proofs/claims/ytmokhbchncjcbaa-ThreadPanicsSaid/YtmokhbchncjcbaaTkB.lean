/-
  Each step of the small record is the model's own step. Conditions: EnvOk; no code stands for other code.
-/
import Derived.Test.YtmokhbchncjcbaaTkA
import Derived.Conc.Listed
namespace Go.Ev
open Go.Conc
set_option linter.unusedSectionVars false
theorem annEq {c c0 : Code} (h : @Ann noMarks c c0) : c = c0 := by
  letI : Marks := noMarks
  induction h with
  | same => rfl
  | mark hn => simp [Marks.code] at hn
  | seq _ _ h1 h2 => rw [h1, h2]
  | cond _ _ h1 h2 => rw [h1, h2]
  | block _ h1 => rw [h1]
  | loop _ h1 => rw [h1]
  | scope _ h1 => rw [h1]

variable [Syms] {P : Program} [NoFloat P] {ft : Nat → Option Func} {ι : Inj} {main : Bool}

/-- Nothing is known of symbols here. -/
@[instance_reducible] def anyOrc (P : Program) : Orc P := @Orc.mk P _ (fun _ _ => none) (fun _ _ _ _ h => by simp at h) (fun _ _ => false) (fun _ _ _ => none) (fun _ _ _ _ _ h => by simp at h) (fun _ _ _ => none) (fun _ _ _ _ _ _ _ _ h => by simp at h) (fun _ _ _ _ => none) (fun _ _ _ _ _ _ h => by simp at h) (fun _ _ _ _ _ _ _ _ _ _ _ h => by simp at h) (fun _ => false)
local instance : Orc P := anyOrc P

/-- The accesses that a step lists. -/
def opEvs (P : Program) (fr : Frame) (s : Sem Next) (w : World) : Array Event := seen P fr.fn (s.events P w #[])
/-- What a step comes to. -/
def StepOk (P : Program) (main : Bool) (ι : Inj) (g' : AG) (H H' : Heap) (a : Goroutine) (w : World) : Prop :=
  ∃ ι' a' w' es, stepG P main a w = .go a' w' es ∧ Ext P ι w ι' w' ∧ Rel P ι' H' w' ∧ GRel P ι' g' a' ∧ (∀ e ∈ es, EvOk ι H w' e) ∧ Ro H H' ∧ w'.heap.size + H.next = w.heap.size + H'.next
theorem opEvs_ok {fr : Frame} {s : Sem Next} {H : Heap} {w w' : World} (h : EvsOk P ι H s w w') : ∀ e ∈ opEvs P fr s w, EvOk ι H w' e := fun e he => h e (mem_seen he)
def goG (fr : Frame) (cs : List Frame) : Goroutine := { frame := fr, callers := cs, status := .running, dying := none }

theorem stepG_run {a : Goroutine} {w : World} (hd : a.dying = none) (hm : a.frame.mode = .run) : stepG P main a w = stepG.exec P main true a.frame a.callers none w := by
  obtain ⟨fr, cs, st, dy, of⟩ := a
  simp only at hd hm
  subst hd
  simp [stepG, hm]
theorem stepG_unw {a : Goroutine} {w : World} (hd : a.dying = none) (hm : a.frame.mode ≠ .run) : stepG P main a w = unwind P main a.frame a.callers none w := by
  obtain ⟨fr, cs, st, dy, of⟩ := a
  simp only at hd hm
  subst hd
  cases h : fr.mode with
  | run => exact absurd h hm
  | _ => simp [stepG, h]

theorem fine_tail {x : Item} {k : List Item} {n : Nat} (h : (x :: k).all (fineI n) = true) : fineI n x = true ∧ k.all (fineI n) = true := by
  rwa [List.all_cons, Bool.and_eq_true] at h

theorem StepOk.same {g' : AG} {H : Heap} {a : Goroutine} {w : World} {fr : Frame} (hs : stepG P main a w = .go (goG fr a.callers) w #[]) (hw : Rel P ι H w) (hf : FrmRel P ι g'.1 fr) (hc : FsRel P ι g'.2 a.callers) : StepOk P main ι g' H H a w :=
  ⟨ι, goG fr a.callers, w, #[], hs, Ext.refl _ _, hw, ⟨rfl, rfl, hf, hc⟩, fun e he => by simp at he, .refl _, rfl⟩

theorem exitTo_fine {n id : Nat} : ∀ {k k' : List Item}, exitTo id k = some k' → k.all (fineI n) = true → k'.all (fineI n) = true
  | [], k', h, _ => by simp [exitTo] at h
  | x :: k, k', h, hf => by
    have h2 := (fine_tail hf).2
    cases x with
    | inBlock j =>
      simp only [exitTo] at h
      split at h
      · simp only [Option.some.injEq] at h; subst h; exact h2
      · exact exitTo_fine h h2
    | _ => exact exitTo_fine (by simpa [exitTo] using h) h2

def actOf (fr : Frame) : Act := { tmps := fr.tmps, defers := fr.defers }
theorem evalF (fr : Frame) (x : Operand) : fr.eval x = (actOf fr).eval x := by cases x <;> rfl
theorem FrmRel.opv {f : AFrame} {fr : Frame} (h : FrmRel P ι f fr) {H : Heap} {w : World} (hw : Rel P ι H w) {x : Operand} (hx : fineX P.globals.size x = true) : VRel ι (opv f.A.get x) (fr.eval x) := by
  rw [evalF]
  exact opv_rel (a := actOf fr) hw h.A hx fun _ _ => .inl h.opn

theorem finA_ok {f f' : AFrame} {fr : Frame} {v v' : Value} (h : finA f v = some f') (hF : FrmRel P ι f fr) (hv : VRel ι v v') : FrmRel P ι f' (fr.finish v') := by
  unfold finA at h
  split at h
  · rename_i ops i r k ht
    split at h
    · rename_i A' hp
      simp only [Option.some.injEq] at h
      subst h
      have htd : fr.todo = .inRegion ops (i :: r) :: k := hF.todo.trans ht
      have hA := FRel.put (a := actOf fr) hF.A hv hp
      have hfine := hF.fine
      simp only [ht] at hfine
      obtain ⟨h1, h2⟩ := fine_tail hfine
      have e : fr.finish v' = { fr with tmps := ((actOf fr).put ((ops[i]?).bind (·.dst)) v').tmps, todo := .inRegion ops r :: k } := by
        unfold Frame.finish
        rw [htd]
        dsimp only
        cases (ops[i]?).bind (·.dst) <;> rfl
      rw [e]
      exact ⟨hF.fn, rfl, hF.kind, hF.round, (put_get hp).2.1.trans hF.opn, hA, hF.defers, hF.mode, by rw [List.all_cons, Bool.and_eq_true]; exact ⟨h1, h2⟩⟩
    · simp at h
  · simp at h
theorem FrmRel.wanted {f : AFrame} {fr : Frame} (h : FrmRel P ι f fr) (ops : Array Oper) (o : Oper) : Region.wanted o (yielded ops fr.tmps) = Region.wanted o (yieldA ops f.A) :=
  (wanted_eq h.A ops o (by unfold lookOk; rw [h.opn]; rfl)).symm

/-- The moves of control: each leaves the world as it is. -/
theorem runA_gen {f : AFrame} {cs : List AFrame} {H H' : Heap} {g' : AG} {Q : AG → Heap → Prop} (h : runA P ft f cs H = some (g', H')) {a : Goroutine} {w : World} (hw : Rel P ι H w) (hg : GRel P ι (f, cs) a) (hm : f.mode = .run)
    (same : ∀ (g1 : AG) (fr : Frame), (∀ w, stepG P main a w = .go (goG fr a.callers) w #[]) → FrmRel P ι g1.1 fr → FsRel P ι g1.2 a.callers → Q g1 H)
    (hop : ∀ ops i r k o, f.todo = .inRegion ops (i :: r) :: k → ops[i]? = some o → Region.wanted o (yieldA ops f.A) = true → operA P ft o f cs H = some (g', H') → Q g' H') : Q g' H' := by
  have hF := hg.frame
  have hmode : a.frame.mode = .run := by
    have := hF.mode
    simp only [hm] at this
    revert this
    cases a.frame.mode <;> simp [MdRel]
  have he : ∀ w, stepG P main a w = stepG.exec P main true a.frame a.callers none w := fun w => stepG_run (P := P) (main := main) (w := w) hg.dying hmode
  have htd : a.frame.todo = f.todo := hF.todo
  have hround : a.frame.roundOf = none := hF.round
  have stp : ∀ (k : List Item), k.all (fineI P.globals.size) = true → FrmRel P ι { f with todo := k } { a.frame with todo := k } := fun k hk => ⟨hF.fn, rfl, hF.kind, hF.round, hF.opn, hF.A, hF.defers, hF.mode, hk⟩
  have ret : FrmRel P ι { f with mode := .returning } { a.frame with mode := .returning } := ⟨hF.fn, hF.todo, hF.kind, hF.round, hF.opn, hF.A, hF.defers, trivial, hF.fine⟩
  have hfine := hF.fine
  unfold runA at h
  split at h
  · rename_i ht
    simp only [Option.some.injEq, Prod.mk.injEq] at h
    obtain ⟨rfl, rfl⟩ := h
    refine same (_, _) { a.frame with mode := .returning } ?_ ret hg.callers
    intro w; rw [he]; simp [stepG.exec, htd, ht, hround, goG]
  · rename_i ht
    simp only [Option.some.injEq, Prod.mk.injEq] at h
    obtain ⟨rfl, rfl⟩ := h
    refine same (_, _) { a.frame with mode := .returning } ?_ ret hg.callers
    intro w; rw [he]; simp [stepG.exec, htd, ht, hround, goG]
  all_goals (rename_i ht)
  case h_3 | h_4 | h_5 | h_6 =>
    simp only [Option.some.injEq, Prod.mk.injEq] at h
    obtain ⟨rfl, rfl⟩ := h
    simp only [ht] at hfine
    refine same (_, _) _ ?_ (stp _ (fine_tail hfine).2) hg.callers
    intro w; rw [he]; simp [stepG.exec, htd, ht, goG]
  case h_7 =>
    simp only [Option.some.injEq, Prod.mk.injEq] at h
    obtain ⟨rfl, rfl⟩ := h
    simp only [ht] at hfine
    obtain ⟨h1, h2⟩ := fine_tail hfine
    simp only [fineI, fineC, Bool.and_eq_true] at h1
    refine same (_, _) _ ?_ (stp _ (by simp [fineI, h1.1, h1.2, h2])) hg.callers
    intro w; rw [he]; simp [stepG.exec, htd, ht, goG]
  case h_8 =>
    simp only [ht] at hfine
    obtain ⟨h1, h2⟩ := fine_tail hfine
    simp only [fineI, fineC, Bool.and_eq_true] at h1
    rename_i c x y k
    split at h
    · rename_i t hv
      simp only [Option.some.injEq, Prod.mk.injEq] at h
      obtain ⟨rfl, rfl⟩ := h
      have hx := hF.opv hw h1.1.1
      rw [hv] at hx
      have hx' : a.frame.eval c = .bool t := by
        revert hx
        generalize a.frame.eval c = z
        intro hx
        cases hx; rfl
      refine same (_, _) _ ?_ (stp _ (by cases t <;> simp [fineI, h1.1.2, h1.2, h2])) hg.callers
      intro w; rw [he]; simp [stepG.exec, htd, ht, goG, hx']
    · simp at h
  case h_9 =>
    simp only [Option.some.injEq, Prod.mk.injEq] at h
    obtain ⟨rfl, rfl⟩ := h
    simp only [ht] at hfine
    obtain ⟨h1, h2⟩ := fine_tail hfine
    simp only [fineI, fineC] at h1
    refine same (_, _) _ ?_ (stp _ (by simp [fineI, h1, h2])) hg.callers
    intro w; rw [he]; simp [stepG.exec, htd, ht, goG]
  case h_10 | h_11 | h_12 =>
    simp only [Option.some.injEq, Prod.mk.injEq] at h
    obtain ⟨rfl, rfl⟩ := h
    simp only [ht] at hfine
    obtain ⟨h1, h2⟩ := fine_tail hfine
    simp only [fineI, fineC] at h1
    refine same (_, _) _ ?_ (stp _ (by simp [fineI, h1, h2])) hg.callers
    intro w; rw [he]; simp [stepG.exec, htd, ht, goG]
  case h_13 =>
    simp only [ht] at hfine
    obtain ⟨h1, h2⟩ := fine_tail hfine
    split at h
    · rename_i k' hk
      simp only [Option.some.injEq, Prod.mk.injEq] at h
      obtain ⟨rfl, rfl⟩ := h
      refine same (_, _) _ ?_ (stp _ (exitTo_fine hk h2)) hg.callers
      intro w; rw [he]; simp [stepG.exec, htd, ht, goG, hk]
    · simp at h
  case h_14 =>
    simp only [Option.some.injEq, Prod.mk.injEq] at h
    obtain ⟨rfl, rfl⟩ := h
    simp only [ht] at hfine
    obtain ⟨h1, h2⟩ := fine_tail hfine
    simp only [fineI, fineC] at h1
    refine same (_, _) _ ?_ (stp _ (by simp only [List.all_cons, fineI, h1, h2, Bool.and_self])) hg.callers
    intro w; rw [he]; simp [stepG.exec, htd, ht, goG]
  case h_15 =>
    simp only [Option.some.injEq, Prod.mk.injEq] at h
    obtain ⟨rfl, rfl⟩ := h
    simp only [ht] at hfine
    refine same (_, _) _ ?_ (stp _ (fine_tail hfine).2) hg.callers
    intro w; rw [he]; simp [stepG.exec, htd, ht, goG]
  case h_16 =>
    rename_i ops i r k
    split at h
    · rename_i o ho
      cases hwt : Region.wanted o (yieldA _ f.A) with
      | true =>
        rw [hwt, cond_true] at h
        exact hop _ _ _ _ o ht ho hwt h
      | false =>
        rw [hwt, cond_false] at h
        split at h
        · rename_i f' hf
          simp only [Option.some.injEq, Prod.mk.injEq] at h
          obtain ⟨rfl, rfl⟩ := h
          refine same (_, _) _ ?_ (finA_ok hf hF VRel.undf) hg.callers
          intro w; rw [he]
          have := hF.wanted (P := P) ops o
          rw [hwt] at this
          simp [stepG.exec, htd, ht, goG, ho, this]
          rfl
        · simp at h
    · simp at h
  case h_17 => simp at h

theorem runA_ok {f : AFrame} {cs : List AFrame} {H H' : Heap} {g' : AG} (h : runA P ft f cs H = some (g', H')) {a : Goroutine} {w : World} (hw : Rel P ι H w) (hg : GRel P ι (f, cs) a) (hm : f.mode = .run)
    (hop : ∀ ops i r k o, f.todo = .inRegion ops (i :: r) :: k → ops[i]? = some o → Region.wanted o (yieldA ops f.A) = true → operA P ft o f cs H = some (g', H') → StepOk P main ι g' H H' a w) : StepOk P main ι g' H H' a w :=
  runA_gen (main := main) (Q := fun g1 H1 => StepOk P main ι g1 H H1 a w) h hw hg hm (fun _ _ hs hf hc => .same (hs w) hw hf hc) hop

/-! ### Operations -/
theorem notEarly {f : AFrame} {fr : Frame} (h : FrmRel P ι f fr) : (fr.kind == CallKind.early) = false := by
  rw [h.kind]
  cases f.dfr <;> rfl
theorem step_oper {f : AFrame} {cs : List AFrame} {a : Goroutine} {w : World} (hg : GRel P ι (f, cs) a) (hm : f.mode = .run) {ops : Array Oper} {i : Nat} {r : List Nat} {k : List Item} {o : Oper} (ht : f.todo = .inRegion ops (i :: r) :: k) (ho : ops[i]? = some o)
    (hwt : Region.wanted o (yieldA ops f.A) = true) : stepG P main a w = stepG.apply P true a.frame a.callers none (execOp a.frame.eval o) w := by
  have hF := hg.frame
  have hmode : a.frame.mode = .run := by
    have := hF.mode
    simp only [hm] at this
    revert this
    cases a.frame.mode <;> simp [MdRel]
  rw [stepG_run (P := P) (main := main) (w := w) hg.dying hmode]
  have htd : a.frame.todo = .inRegion ops (i :: r) :: k := hF.todo.trans ht
  have hw := hF.wanted (P := P) ops o
  rw [hwt] at hw
  have hround : a.frame.roundOf = none := hF.round
  simp [stepG.exec, stepG.oper, Frame.oper?, htd, ho, hw, hround]
theorem enterA_ok (hE : @EnvOk noMarks P ft) {g : FuncId} {args args' : Array Value} {dfr : Bool} {f' : AFrame} (h : enterA ft g args dfr = some f') (ha : ARel ι args args') : FrmRel P ι f' (Frame.enter P g args' (cond dfr .deferred .normal)) := by
  unfold enterA at h
  cases hf : ft g with
  | none => rw [hf] at h; simp at h
  | some fn =>
    rw [hf] at h
    obtain ⟨fo, c, c', h1, h2, h3, h3', hann, hfine, hnt, hres0⟩ := hE.fn g fn hf
    simp only [h3', Option.some.injEq] at h
    subst h
    obtain rfl := annEq hann
    have e : Fr.enter fn args = Fr.enter fo args := by unfold Fr.enter; rw [hnt]
    refine ⟨rfl, by simp [Frame.enter, h1, h3], rfl, rfl, rfl, ?_, trivial, trivial, by simp [fineI, hfine]⟩
    rw [e]
    have := FRel.enter (fn := fo) ha
    simpa [Frame.enter, h1] using this
theorem apply_value {fr : Frame} {cs : List Frame} {s : Sem Next} {w w' : World} {v : Value} (hk : (fr.kind == CallKind.early) = false) (hr : s.run P w = .ok (.value v) w') : stepG.apply P true fr cs none s w = .go (goG (fr.finish v) cs) w' (opEvs P fr s w) := by
  simp [stepG.apply, hr, hk, GStep.after, goG, opEvs]
theorem apply_skip {fr : Frame} {cs : List Frame} {s : Sem Next} {w w' : World} (hk : (fr.kind == CallKind.early) = false) (hr : s.run P w = .ok .skip w') : stepG.apply P true fr cs none s w = .go (goG (fr.finish undef) cs) w' (opEvs P fr s w) := by
  simp [stepG.apply, hr, hk, GStep.after, goG, opEvs]
theorem apply_enter {fr : Frame} {cs : List Frame} {s : Sem Next} {w w' : World} {f : FuncId} {args : Array Value} {ops : Array Oper} {l : List Nat} {k : List Item} (ht : fr.todo = .inRegion ops l :: k) (hk : (fr.kind == CallKind.early) = false) (hr : s.run P w = .ok (.enter f args) w') :
    stepG.apply P true fr cs none s w = .go (goG (Frame.enter P f args .normal) (fr :: cs)) w' (opEvs P fr s w) := by
  simp [stepG.apply, hr, hk, GStep.after, goG, ht, opEvs]
theorem apply_defer {fr : Frame} {cs : List Frame} {s : Sem Next} {w w' : World} {d : Deferred} (hk : (fr.kind == CallKind.early) = false) (hr : s.run P w = .ok (.defer d) w') : stepG.apply P true fr cs none s w = .go (goG ({ fr with defers := d :: fr.defers }.finish undef) cs) w' (opEvs P fr s w) := by
  simp [stepG.apply, hr, hk, GStep.after, goG, opEvs]
theorem apply_panic {fr : Frame} {cs : List Frame} {s : Sem Next} {w w' : World} {v : Value} (hk : (fr.kind == CallKind.early) = false) (hr : s.run P w = .halt (.panic v) w') : stepG.apply P true fr cs none s w = .go (goG (fr.raise [{ v, recovered := false }]) cs) w' (opEvs P fr s w) := by
  simp [stepG.apply, hr, hk, GStep.after, goG, opEvs]
theorem apply_recover {fr : Frame} {cs : List Frame} {s : Sem Next} {w w' : World} (hround : fr.roundOf = none) (hk : (fr.kind == CallKind.early) = false) (hr : s.run P w = .ok .recover w') :
    stepG.apply P true fr cs none s w = .go (match tryRecover fr cs with | some (v, cs') => goG (fr.finish v) cs' | none => goG (fr.finish .nilIface) cs) w' (opEvs P fr s w) := by
  cases h : tryRecover fr cs <;> simp [stepG.apply, hr, hk, hround, h, GStep.after, goG, opEvs]

theorem recoverA_ok {f : AFrame} {cs : List AFrame} {fr : Frame} {frs : List Frame} (hF : FrmRel P ι f fr) (hc : FsRel P ι cs frs) :
    ∃ v', (match tryRecover fr frs with | some (v, cs') => (v, cs') | none => (.nilIface, frs)) = (v', (match tryRecover fr frs with | some (_, cs') => cs' | none => frs)) ∧ VRel ι (recoverA f cs).1 v' ∧ FsRel P ι (recoverA f cs).2 (match tryRecover fr frs with | some (_, cs') => cs' | none => frs) := by
  have hk := hF.kind
  cases hd : f.dfr with
  | false =>
    rw [hd] at hk
    have e : tryRecover fr frs = none := by
      cases frs <;> simp [tryRecover, hk]
    have e2 : recoverA f cs = (.nilIface, cs) := by simp [recoverA, hd]
    rw [e, e2]
    exact ⟨_, rfl, .nilIface, hc⟩
  | true =>
    rw [hd] at hk
    cases cs with
    | nil =>
      cases frs with
      | nil =>
        have e2 : recoverA f [] = (.nilIface, []) := by simp [recoverA, hd]
        have e : tryRecover fr [] = none := by simp [tryRecover, hk]
        rw [e, e2]
        exact ⟨_, rfl, .nilIface, trivial⟩
      | cons x y => exact hc.elim
    | cons c r =>
      cases frs with
      | nil => exact hc.elim
      | cons C R =>
        obtain ⟨hC, hR⟩ := hc
        have hm := hC.mode
        cases hcm : c.mode with
        | run =>
          rw [hcm] at hm
          have e2 : recoverA f (c :: r) = (.nilIface, c :: r) := by simp [recoverA, hd, hcm]
          have e : tryRecover fr (C :: R) = none := by
            cases hCm : C.mode <;> rw [hCm] at hm <;> simp [MdRel] at hm <;> simp [tryRecover, hk, hCm]
          rw [e, e2]
          exact ⟨_, rfl, .nilIface, hC, hR⟩
        | returning =>
          rw [hcm] at hm
          have e2 : recoverA f (c :: r) = (.nilIface, c :: r) := by simp [recoverA, hd, hcm]
          have e : tryRecover fr (C :: R) = none := by
            cases hCm : C.mode <;> rw [hCm] at hm <;> simp [MdRel] at hm <;> simp [tryRecover, hk, hCm]
          rw [e, e2]
          exact ⟨_, rfl, .nilIface, hC, hR⟩
        | leaving =>
          rw [hcm] at hm
          have e2 : recoverA f (c :: r) = (.nilIface, c :: r) := by simp [recoverA, hd, hcm]
          have e : tryRecover fr (C :: R) = none := by
            cases hCm : C.mode with
            | panicking CH =>
              rw [hCm] at hm
              have hm : CH = [goexitEntry] := hm
              subst hm
              simp [tryRecover, hk, hCm, goexitEntry]
            | _ => rw [hCm] at hm; exact hm.elim
          rw [e, e2]
          exact ⟨_, rfl, .nilIface, hC, hR⟩
        | panicking ch =>
          rw [hcm] at hm
          cases hCm : C.mode with
          | run => rw [hCm] at hm; exact hm.elim
          | returning => rw [hCm] at hm; exact hm.elim
          | panicking CH =>
            rw [hCm] at hm
            have hm : ChRel ι ch CH := hm
            cases ch with
            | nil =>
              cases CH with
              | cons x y => exact hm.elim
              | nil =>
                have e2 : recoverA f (c :: r) = (.nilIface, c :: r) := by simp [recoverA, hd, hcm]
                have e : tryRecover fr (C :: R) = none := by simp [tryRecover, hk, hCm]
                rw [e, e2]
                exact ⟨_, rfl, .nilIface, hC, hR⟩
            | cons p ps =>
              cases CH with
              | nil => exact hm.elim
              | cons q qs =>
                obtain ⟨⟨h1, h2, h3⟩, h4⟩ := hm
                obtain ⟨v, b⟩ := p
                obtain ⟨v', b', g'⟩ := q
                simp only at h1 h2 h3
                subst h2 h3
                cases b' with
                | true =>
                  have e2 : recoverA f (c :: r) = (.nilIface, c :: r) := by simp [recoverA, hd, hcm]
                  have e : tryRecover fr (C :: R) = none := by simp [tryRecover, hk, hCm]
                  rw [e, e2]
                  exact ⟨_, rfl, .nilIface, hC, hR⟩
                | false =>
                  have e2 : recoverA f (c :: r) = (v, { c with mode := .panicking ((v, true) :: ps) } :: r) := by simp [recoverA, hd, hcm]
                  have e : tryRecover fr (C :: R) = some (v', { C with mode := .panicking ({ v := v', recovered := true } :: qs) } :: R) := by simp [tryRecover, hk, hCm]
                  rw [e, e2]
                  exact ⟨_, rfl, h1, ⟨hC.fn, hC.todo, hC.kind, hC.round, hC.opn, hC.A, hC.defers, ⟨⟨h1, rfl, rfl⟩, h4⟩, hC.fine⟩, hR⟩

theorem raiseA_ok {f : AFrame} {fr : Frame} (hF : FrmRel P ι f fr) (hnl : f.mode ≠ .leaving) {c : List (Value × Bool)} {C : List PanicEntry} (hc : ChRel ι c C) : FrmRel P ι (raiseA f c) (fr.raise C) := by
  have hm := hF.mode
  have app : ∀ {c : List (Value × Bool)} {C : List PanicEntry} {d : List (Value × Bool)} {D : List PanicEntry}, ChRel ι c C → ChRel ι d D → ChRel ι (c ++ d) (C ++ D) := by
    intro c
    induction c with
    | nil => intro C d D h h'; cases C with
      | nil => exact h'
      | cons _ _ => exact h.elim
    | cons x xs ih => intro C d D h h'; cases C with
      | nil => exact h.elim
      | cons y ys => exact ⟨h.1, ih h.2 h'⟩
  unfold raiseA Frame.raise
  cases h1 : f.mode with
  | leaving => exact absurd h1 hnl
  | panicking ch =>
    rw [h1] at hm
    cases h2 : fr.mode with
    | panicking CH =>
      rw [h2] at hm
      exact ⟨hF.fn, hF.todo, hF.kind, hF.round, hF.opn, hF.A, hF.defers, app hc hm, hF.fine⟩
    | _ => rw [h2] at hm; exact hm.elim
  | run =>
    rw [h1] at hm
    cases h2 : fr.mode with
    | run => exact ⟨hF.fn, hF.todo, hF.kind, hF.round, hF.opn, hF.A, hF.defers, hc, hF.fine⟩
    | _ => rw [h2] at hm; exact hm.elim
  | returning =>
    rw [h1] at hm
    cases h2 : fr.mode with
    | returning => exact ⟨hF.fn, hF.todo, hF.kind, hF.round, hF.opn, hF.A, hF.defers, hc, hF.fine⟩
    | _ => rw [h2] at hm; exact hm.elim

/-- A channel is made. -/
theorem run_make {ρ : Operand → Value} {o : Oper} {t : TypeId} {s : Operand} {v : Value} (ho : o.op = .makeChan t s) (h : makes P t v = true) (hv : VRel ι v (ρ s)) (w : World) :
    (execOp ρ o).run P w = .ok (.value (.chan (some w.heap.size))) { w with heap := w.heap.push (.chan 0 #[] false 0 0 false) } ∧ (execOp ρ o).events P w #[] = #[] := by
  unfold makes at h
  split at h
  · split at h
    · rename_i dir elem ht
      cases hi : P.info? elem with
      | none => rw [hi] at h; simp at h
      | some i =>
        have e0 : ρ s = .int .i64 0 := by
          revert hv
          generalize ρ s = z
          intro hv
          cases hv; rfl
        unfold execOp
        rw [ho]
        dsimp only
        rw [e0]
        constructor <;> simp [Instr.makeChan, asInt, asIntOf, ht, hi, Go.underlying, Go.typeInfo, IntKind.max] <;> exact fun hlt => absurd hlt (by decide)
    · simp at h
  · simp at h

theorem operA_ok (hE : @EnvOk noMarks P ft) {o : Oper} {f : AFrame} {cs : List AFrame} {H H' : Heap} {g' : AG} (h : operA P ft o f cs H = some (g', H')) {a : Goroutine} {w : World} (hw : Rel P ι H w) (hg : GRel P ι (f, cs) a) (hm : f.mode = .run)
    {ops : Array Oper} {i : Nat} {r : List Nat} {k : List Item} (ht : f.todo = .inRegion ops (i :: r) :: k) (ho : ops[i]? = some o) (hwt : Region.wanted o (yieldA ops f.A) = true) : StepOk P main ι g' H H' a w := by
  have hF := hg.frame
  have hs := step_oper (P := P) (main := main) (w := w) hg hm ht ho hwt
  have hk := notEarly (P := P) hF
  have htd : a.frame.todo = .inRegion ops (i :: r) :: k := hF.todo.trans ht
  have hfo : fineO P.globals.size o = true := by
    have hfine := hF.fine
    simp only [ht] at hfine
    have h1 := (fine_tail hfine).1
    simp only [fineI] at h1
    rw [Array.all_eq_true_iff_forall_mem] at h1
    exact h1 o (Array.mem_of_getElem? ho)
  have hops : ∀ x ∈ o.op.operands, VRel ι (opv f.A.get x) (a.frame.eval x) := fun x hx => hF.opv hw (by
    unfold fineO at hfo
    rw [Array.all_eq_true_iff_forall_mem] at hfo
    exact hfo x hx)
  unfold operA at h
  cases hkk : tkOp o with
  | false => rw [hkk] at h; simp at h
  | true =>
  rw [hkk, cond_true] at h
  cases hr : aexecN P ft f.A.get o H with
  | some q =>
    obtain ⟨n, H1⟩ := q
    rw [hr] at h
    have hrG : aexecG P ft f.A.get o H = some (n, H1) := by
      unfold aexecN at hr
      cases hf : fast P ft f.A.get o H with
      | none => rw [hf] at hr; exact hr
      | some r' => rw [hf] at hr; rw [fast_ok hf]; exact hr
    obtain ⟨ι1, n', w1, e1, x1, r1, q1, v1, ro, z1⟩ := @OkE.aexecG _ P _ noMarks ι ft hE f.A.get a.frame.eval o hkk hops H n H1 hrG w hw
    have hev := opEvs_ok (P := P) (fr := a.frame) v1
    cases n with
    | value v =>
      simp only at h
      split at h
      · rename_i f' hf
        simp only [Option.some.injEq, Prod.mk.injEq] at h
        obtain ⟨rfl, rfl⟩ := h
        cases n' <;> first | exact q1.elim | skip
        exact ⟨ι1, _, w1, _, hs.trans (apply_value hk e1), x1, r1, ⟨rfl, rfl, finA_ok hf (hF.mono x1.sub) q1, hg.callers.mono x1.sub⟩, hev, ro, z1⟩
      · simp at h
    | skip =>
      simp only at h
      split at h
      · rename_i f' hf
        simp only [Option.some.injEq, Prod.mk.injEq] at h
        obtain ⟨rfl, rfl⟩ := h
        cases n' <;> first | exact q1.elim | skip
        exact ⟨ι1, _, w1, _, hs.trans (apply_skip hk e1), x1, r1, ⟨rfl, rfl, finA_ok hf (hF.mono x1.sub) VRel.undf, hg.callers.mono x1.sub⟩, hev, ro, z1⟩
      · simp at h
    | enter g args =>
      simp only at h
      split at h
      · rename_i f' hf
        simp only [Option.some.injEq, Prod.mk.injEq] at h
        obtain ⟨rfl, rfl⟩ := h
        cases n' <;> first | exact q1.elim | skip
        rename_i g2 args2
        obtain ⟨rfl, q2⟩ := q1
        exact ⟨ι1, _, w1, _, hs.trans (apply_enter htd hk e1), x1, r1, ⟨rfl, rfl, enterA_ok hE hf q2, hF.mono x1.sub, hg.callers.mono x1.sub⟩, hev, ro, z1⟩
      · simp at h
  | none =>
    rw [hr] at h
    simp only at h
    split at h
    · rename_i c hop
      split at h
      · rename_i x hc
        split at h
        · rename_i k' first cap hx
          split at h
          · rename_i f' hf
            simp only [Option.some.injEq, Prod.mk.injEq] at h
            obtain ⟨rfl, rfl⟩ := h
            have hx' := hops x (by rw [hop]; simp [Op.operands, Call.operands, hc])
            rw [hx] at hx'
            have hargs : ARel ι (c.args.map (opv f.A.get)) (c.args.map a.frame.eval) := argsRel fun y hy => hops y (by rw [hop]; simp [Op.operands, Call.operands, hy])
            revert hx'
            generalize hz : a.frame.eval x = z
            intro hx'
            cases hx' with
            | func fn h1 h2 h3 h4 =>
              rename_i ys vs
              have e1 : (execOp a.frame.eval o).run P w = .ok (.defer { target := .fn (.func k') vs, args := ys ++ c.args.map a.frame.eval }) w := by
                unfold execOp
                rw [hop]
                simp only [resolve, hc, hz, Deferred.ofValue]
                rfl
              have hd : DRel ι ⟨k', first ++ c.args.map (opv f.A.get) ++ cap⟩ { target := .fn (.func k') vs, args := ys ++ c.args.map a.frame.eval } := ⟨_, _, rfl, ((show ARel ι first ys from ⟨h1, h2⟩).append hargs).append ⟨h3, h4⟩⟩
              have hF2 : FrmRel P ι { f with defers := ⟨k', first ++ c.args.map (opv f.A.get) ++ cap⟩ :: f.defers } { a.frame with defers := { target := .fn (.func k') vs, args := ys ++ c.args.map a.frame.eval } :: a.frame.defers } := ⟨hF.fn, hF.todo, hF.kind, hF.round, hF.opn, hF.A, ⟨hd, hF.defers⟩, hF.mode, hF.fine⟩
              have e2 : (execOp a.frame.eval o).events P w #[] = #[] := by
                unfold execOp
                rw [hop]
                simp only [resolve, hc, hz, Deferred.ofValue]
                rfl
              exact ⟨ι, _, w, _, hs.trans (apply_defer hk e1), Ext.refl _ _, hw, ⟨rfl, rfl, finA_ok hf hF2 VRel.undf, hg.callers⟩, opEvs_ok (.none e2), .refl _, rfl⟩
          · simp at h
        · simp at h
      · simp at h
    · rename_i c hop
      split at h
      · rename_i hc
        split at h
        · rename_i f' hf
          simp only [Option.some.injEq, Prod.mk.injEq] at h
          obtain ⟨rfl, rfl⟩ := h
          have e1 : (execOp a.frame.eval o).run P w = .ok .recover w := by
            unfold execOp
            rw [hop]
            simp only [resolve, hc]
            rfl
          obtain ⟨v', e2, hv, hcs⟩ := recoverA_ok (P := P) hF hg.callers
          have e3 : (match tryRecover a.frame a.callers with | some (v, cs') => goG (a.frame.finish v) cs' | none => goG (a.frame.finish .nilIface) a.callers) = goG (a.frame.finish v') (match tryRecover a.frame a.callers with | some (_, cs') => cs' | none => a.callers) := by
            cases htr : tryRecover a.frame a.callers with
            | none => rw [htr] at e2; simp only [Prod.mk.injEq] at e2; rw [e2.1]
            | some q => rw [htr] at e2; simp only [Prod.mk.injEq] at e2; rw [← e2.1]
          have e4 : (execOp a.frame.eval o).events P w #[] = #[] := by
            unfold execOp
            rw [hop]
            simp only [resolve, hc]
            rfl
          exact ⟨ι, _, w, opEvs P a.frame (execOp a.frame.eval o) w, hs.trans ((apply_recover hF.round hk e1).trans (by rw [e3])), Ext.refl _ _, hw, ⟨rfl, rfl, finA_ok hf hF hv, hcs⟩, opEvs_ok (.none e4), .refl _, rfl⟩
        · simp at h
      · simp at h
    · rename_i x hop
      split at h
      · rename_i t v hx
        simp only [Option.some.injEq, Prod.mk.injEq] at h
        obtain ⟨rfl, rfl⟩ := h
        have hx' := hops x (by rw [hop]; simp [Op.operands])
        rw [hx] at hx'
        revert hx'
        generalize hz : a.frame.eval x = z
        intro hx'
        cases hx' with
        | iface _ hv =>
          rename_i v'
          have e1 : (execOp a.frame.eval o).run P w = .halt (.panic (.iface t v')) w := by
            unfold execOp
            rw [hop]
            simp only [hz, Instr.panic]
            rfl
          have e2 : (execOp a.frame.eval o).events P w #[] = #[] := by
            unfold execOp
            rw [hop]
            simp only [hz, Instr.panic]
            rfl
          exact ⟨ι, _, w, _, hs.trans (apply_panic hk e1), Ext.refl _ _, hw, ⟨rfl, rfl, raiseA_ok hF (by rw [hm]; simp) (c := [(.iface t v, false)]) (C := [{ v := .iface t v', recovered := false }]) ⟨⟨.iface t hv, rfl, rfl⟩, trivial⟩, hg.callers⟩, opEvs_ok (.none e2), .refl _, rfl⟩
      · simp at h
    · rename_i t s hop
      cases hmk : makes P t (opv f.A.get s) with
      | false => rw [hmk] at h; simp at h
      | true =>
        rw [hmk, cond_true] at h
        split at h
        · rename_i f' hf
          simp only [Option.some.injEq, Prod.mk.injEq] at h
          obtain ⟨rfl, rfl⟩ := h
          obtain ⟨e1, e2⟩ := run_make (ρ := a.frame.eval) hop hmk (hops s (by rw [hop]; simp [Op.operands])) w
          have hn := hw.new (b := .chan 0 0 false) (o := .chan 0 #[] false 0 0 false) (i := ⟨w.heap.size, 0, 0, 0, 1⟩) rfl ⟨rfl, rfl⟩
          have hx : (ι.with H.next ⟨w.heap.size, 0, 0, 0, 1⟩) H.next = some ⟨w.heap.size, 0, 0, 0, 1⟩ := by simp [Inj.with]
          exact ⟨_, _, _, _, hs.trans (apply_value hk e1), hn.2.1, hn.2.2, ⟨rfl, rfl, finA_ok hf (hF.mono hn.1) (.chn hx rfl), hg.callers.mono hn.1⟩, opEvs_ok (.none e2), .new _ _, by simp [Heap.new]; omega⟩
        · simp at h
    · simp at h

/-! ### Coming back -/
theorem ChRel.drop : ∀ {c : List (Value × Bool)} {C : List PanicEntry}, ChRel ι c C → C.dropWhile (!·.goexit) = []
  | [], [], _ => rfl
  | [], _ :: _, h => h.elim
  | _ :: _, [], h => h.elim
  | _ :: _, e :: es, h => by
    rw [List.dropWhile_cons, if_pos (by rw [h.1.2.2]; rfl)]
    exact ChRel.drop h.2
theorem backA_ok {c : AFrame} {C : Frame} (hC : FrmRel P ι c C) : FrmRel P ι (backA c) (match C.mode with
        | .panicking ({ recovered := true, .. } :: older) =>
          match older.dropWhile (!·.goexit) with
          | [] => { C with mode := .returning }
          | rest => { C with mode := .panicking rest }
        | _ => C) := by
  have hm := hC.mode
  unfold backA
  cases h1 : c.mode with
  | leaving =>
    rw [h1] at hm
    cases h2 : C.mode with
    | panicking CH =>
      rw [h2] at hm
      have hm : CH = [goexitEntry] := hm
      subst hm
      exact hC
    | _ => rw [h2] at hm; exact hm.elim
  | run =>
    rw [h1] at hm
    cases h2 : C.mode with
    | run => exact hC
    | _ => rw [h2] at hm; exact hm.elim
  | returning =>
    rw [h1] at hm
    cases h2 : C.mode with
    | returning => exact hC
    | _ => rw [h2] at hm; exact hm.elim
  | panicking ch =>
    rw [h1] at hm
    cases h2 : C.mode with
    | run => rw [h2] at hm; exact hm.elim
    | returning => rw [h2] at hm; exact hm.elim
    | panicking CH =>
      rw [h2] at hm
      have hm : ChRel ι ch CH := hm
      cases ch with
      | nil =>
        cases CH with
        | nil => exact hC
        | cons x y => exact hm.elim
      | cons p ps =>
        cases CH with
        | nil => exact hm.elim
        | cons q qs =>
          obtain ⟨⟨a1, a2, a3⟩, a4⟩ := hm
          obtain ⟨v, b⟩ := p
          obtain ⟨v', b', g'⟩ := q
          simp only at a1 a2 a3
          subst a2 a3
          cases b' with
          | false => exact hC
          | true =>
            have hd := ChRel.drop a4
            simp only [hd]
            exact ⟨hC.fn, hC.todo, hC.kind, hC.round, hC.opn, hC.A, hC.defers, trivial, hC.fine⟩
theorem catches_false {f : AFrame} {fr : Frame} (hF : FrmRel P ι f fr) : fr.catches P = false := by
  unfold Frame.catches
  have hfine := hF.fine
  rw [← hF.todo] at hfine
  split
  · rename_i h1 h2
    rw [h2] at hfine
    simp [fineI] at hfine
  · rfl

theorem unwindA_ok (hE : @EnvOk noMarks P ft) {f : AFrame} {cs : List AFrame} {H H' : Heap} {g' : AG} (h : unwindA P ft f cs H = some (g', H')) {a : Goroutine} {w : World} (hw : Rel P ι H w) (hg : GRel P ι (f, cs) a) (hm : f.mode ≠ .run) : StepOk P main ι g' H H' a w := by
  letI : Marks := noMarks
  letI : Lps P := noLps P
  have hF := hg.frame
  have hmode : a.frame.mode ≠ .run := by
    intro e
    have := hF.mode
    rw [e] at this
    revert this
    cases hf : f.mode with
    | run => exact fun _ => hm hf
    | _ => exact fun h => h.elim
  have hs := stepG_unw (P := P) (main := main) (w := w) hg.dying hmode
  unfold unwindA at h
  have hds := hF.defers
  cases hd : f.defers with
  | cons d ds =>
    rw [hd] at h hds
    simp only at h
    cases hD : a.frame.defers with
    | nil => rw [hD] at hds; exact hds.elim
    | cons D Ds =>
      rw [hD] at hds
      obtain ⟨⟨args, cap, rfl, har⟩, hDs⟩ := hds
      split at h
      · rename_i f' hf
        simp only [Option.some.injEq, Prod.mk.injEq] at h
        obtain ⟨rfl, rfl⟩ := h
        have hft : ∃ fn, ft d.f = some fn := by
          unfold enterA at hf
          cases hx : ft d.f with
          | none => rw [hx] at hf; simp at hf
          | some fn => exact ⟨fn, rfl⟩
        obtain ⟨fn, hft⟩ := hft
        obtain ⟨ι1, n', w1, e1, x1, r1, q1, v1, ro, z1⟩ := @OkE.callF _ P _ noMarks ι ft hE d.f d.args (args ++ cap) har H (.enter d.f d.args) H (by unfold Ev.callF; rw [hft]) w hw
        cases n' <;> first | exact q1.elim | skip
        rename_i g2 args2
        obtain ⟨rfl, q2⟩ := q1
        have hst : stepG P main a w = .go (goG (Frame.enter P d.f args2 .deferred) ({ a.frame with defers := Ds } :: a.callers)) w1 (seen P a.frame.fn ((Go.callFunc d.f (args ++ cap)).events P w #[])) := by
          rw [hs]
          simp [unwind, hD, callDeferred, invoke, e1, GStep.after, goG]
        exact ⟨ι1, _, w1, _, hst, x1, r1, ⟨rfl, rfl, enterA_ok hE hf q2, ⟨(hF.mono x1.sub).fn, hF.todo, hF.kind, hF.round, hF.opn, hF.A.mono x1.sub, hDs.mono x1.sub, hF.mode.mono x1.sub, hF.fine⟩, hg.callers.mono x1.sub⟩, fun e he => v1 e (mem_seen he), ro, z1⟩
      · simp at h
  | nil =>
    rw [hd] at h hds
    simp only at h
    have hD : a.frame.defers = [] := by
      cases hD : a.frame.defers with
      | nil => rfl
      | cons D Ds => rw [hD] at hds; exact hds.elim
    cases hmo : f.mode with
    | run => exact absurd hmo hm
    | leaving => rw [hmo] at h; simp at h
    | panicking c =>
      rw [hmo] at h
      simp only at h
      have hmd := hF.mode
      rw [hmo] at hmd
      cases hM : a.frame.mode with
      | run => rw [hM] at hmd; exact hmd.elim
      | returning => rw [hM] at hmd; exact hmd.elim
      | panicking C =>
        rw [hM] at hmd
        cases cs with
        | nil => simp at h
        | cons p r =>
          have hpl : p.mode ≠ .leaving := fun e => by simp [e] at h
          have h : some ((raiseA p c, r), H) = some (g', H') := by
            rw [← h]
            cases e : p.mode with
            | leaving => exact absurd e hpl
            | _ => simp only [e]
          simp only [Option.some.injEq, Prod.mk.injEq] at h
          obtain ⟨rfl, rfl⟩ := h
          have hcal := hg.callers
          cases hR : a.callers with
          | nil => rw [hR] at hcal; exact hcal.elim
          | cons q Q =>
            rw [hR] at hcal
            have hst : stepG P main a w = .go (goG (q.raise C) Q) w #[] := by
              rw [hs]
              simp [unwind, hD, hM, hR, catches_false (P := P) hF, goG]
            exact ⟨ι, _, w, _, hst, Ext.refl _ _, hw, ⟨rfl, rfl, raiseA_ok hcal.1 hpl hmd, hcal.2⟩, fun e he => by simp at he, .refl _, rfl⟩
    | returning =>
      rw [hmo] at h
      simp only at h
      have hmd := hF.mode
      rw [hmo] at hmd
      have hM : a.frame.mode = .returning := by
        cases hM : a.frame.mode with
        | returning => rfl
        | _ => rw [hM] at hmd; exact hmd.elim
      cases hf : ft f.fn with
      | none => rw [hf] at h; simp at h
      | some fn =>
        rw [hf] at h
        simp only at h
        obtain ⟨fo, c, c', h1, h2, h3, h3', hann, hfine, hnt, hres0⟩ := hE.fn f.fn fn hf
        have e2 : ∀ g, resA fn g = resA fo g := fun g => by unfold resA; rw [hres0]
        unfold resV at h
        rw [e2] at h
        cases hres : arun P (resA fo f.A.get) H with
        | none => rw [hres] at h; simp at h
        | some q =>
          obtain ⟨vs, H2⟩ := q
          rw [hres] at h
          simp only at h
          obtain ⟨ι2, v', w2, q1, q2, q3, q4⟩ := results_ok hres hw hF.A (by unfold resOk; rw [hF.opn]; rfl)
          have hww := results_same fo a.frame.tmps w v' w2 q1
          subst hww
          have hrv : (∀ e ∈ (results fo a.frame.tmps).events P w2 #[], EvOk ι H w2 e) ∧ w2.heap.size + H.next = w2.heap.size + H2.next := by
            obtain ⟨ι3, vs3, w3, e3, x3, r3, q3', v3, z3⟩ := results_sim (P := P) (fn := fo) hF.A (by unfold resOk; rw [hF.opn]; rfl) H vs H2 hres w2 hw
            have hw3 : w3 = w2 := by
              have := q1
              rw [results_eq, e3] at this
              simp only [Result.andThen_ok] at this
              have h2 : (Result.ok (if h : vs3.size = 1 then vs3[0] else .tuple vs3) w3 : Result Value) = .ok v' w2 := this
              simp only [Result.ok.injEq] at h2
              exact h2.2
            subst hw3
            refine ⟨fun e he => ?_, z3⟩
            refine v3 e ?_
            have e4 : (results fo a.frame.tmps).events P w3 #[] = (resA fo fun t => a.frame.tmps.getD t undef).events P w3 #[] := by
              rw [show results fo a.frame.tmps = (resA fo (fun t => a.frame.tmps.getD t undef) >>= fun vs => Pure.pure (if h : vs.size = 1 then vs[0] else .tuple vs)) from rfl, Sem.events_bind, e3]
              rfl
            rw [← e4]; exact he
          have hro : Ro H H2 := arun_ro _ hres
          have hse : ∀ e ∈ seen P a.frame.fn ((results fo a.frame.tmps).events P w2 #[]) ++ #[], EvOk ι H w2 e := fun e he => by
            rw [Array.append_empty] at he
            exact hrv.1 e (mem_seen he)
          cases cs with
          | nil => simp at h
          | cons p r =>
            have hcal := hg.callers
            cases hR : a.callers with
            | nil => rw [hR] at hcal; exact hcal.elim
            | cons q Q =>
              rw [hR] at hcal
              have hfn : P.funcs[a.frame.fn]? = some fo := by rw [hF.fn]; exact h1
              have hun : stepG P main a w2 = GStep.after (seen P a.frame.fn ((results fo a.frame.tmps).events P w2 #[])) (doReturn P main a.frame (q :: Q) none v' w2) := by
                rw [hs]
                simp [unwind, hD, hM, hfn, q1, hR]
              have hkind := hF.kind
              simp only at h
              cases hdf : f.dfr with
              | true =>
                rw [hdf, cond_true] at h hkind
                simp only [Option.some.injEq, Prod.mk.injEq] at h
                obtain ⟨rfl, rfl⟩ := h
                have hb := backA_ok (P := P) (hcal.1.mono q2.sub)
                refine ⟨ι2, goG _ Q, w2, seen P a.frame.fn ((results fo a.frame.tmps).events P w2 #[]) ++ #[], hun.trans ?_, q2, q3, ⟨rfl, rfl, hb, hcal.2.mono q2.sub⟩, hse, hro, hrv.2⟩
                simp only [doReturn, hkind, GStep.after, goG]
                rfl
              | false =>
                rw [hdf, cond_false] at h hkind
                split at h
                · rename_i p' hp
                  simp only [Option.some.injEq, Prod.mk.injEq] at h
                  obtain ⟨rfl, rfl⟩ := h
                  have hb := finA_ok hp (hcal.1.mono q2.sub) q4
                  refine ⟨ι2, goG _ Q, w2, seen P a.frame.fn ((results fo a.frame.tmps).events P w2 #[]) ++ #[], hun.trans ?_, q2, q3, ⟨rfl, rfl, hb, hcal.2.mono q2.sub⟩, hse, hro, hrv.2⟩
                  simp only [doReturn, hkind, GStep.after, goG]
                  rfl
                · simp at h

/-- EACH STEP OF THE SMALL RECORD IS THE MODEL's. -/
theorem stepA_ok (hE : @EnvOk noMarks P ft) {g g' : AG} {H H' : Heap} (h : stepA P ft g H = some (g', H')) {a : Goroutine} {w : World} (hw : Rel P ι H w) (hg : GRel P ι g a) : StepOk P main ι g' H H' a w := by
  obtain ⟨f, cs⟩ := g
  unfold stepA at h
  cases hm : f.mode with
  | run =>
    simp only [hm] at h
    exact runA_ok h hw hg hm fun ops i r k o ht ho hwt hop => operA_ok hE hop hw hg hm ht ho hwt
  | _ =>
    simp only [hm] at h
    exact unwindA_ok hE h hw hg (by rw [hm]; simp)
end Go.Ev
