/-
  Who leaves: from the last send to the goroutine's end, whatever the world is. Conditions: EnvOk; no code stands for other code.
-/
import Derived.Test.YtmokhbchncjcbaaTkG
import Derived.Conc.EventLaws
namespace Go.Ev
open Go.Conc
set_option linter.unusedSectionVars false
variable [Syms] {P : Program} [NoFloat P] {ι : Inj} {H : Heap} {ft : Nat → Option Func} {main : Bool}

/-- No operation is to be carried out. -/
noncomputable def calm (g : AG) : Bool := match g.1.todo with
  | .inRegion ops (i :: _) :: _ => match ops[i]? with
    | some o => !Region.wanted o (yieldA ops g.1.A)
    | none => false
  | _ => true
/-- It comes back from a function that hands nothing back. -/
def void (ft : Nat → Option Func) (g : AG) : Bool := match g.1.defers, ft g.1.fn with
  | [], some fn => Nat.beq fn.results.size 0
  | _, _ => false
noncomputable def quitN (P : Program) [NoFloat P] (ft : Nat → Option Func) (H : Heap) : Nat → AG → Bool
  | 0, _ => false
  | n + 1, g => match g.1.mode with
    | .leaving => match g.1.defers, g.2 with
      | [], [] => true
      | _, _ => false
    | .run => cond (calm g) (match stepA P ft g H with
      | some (g', _) => quitN P ft H n g'
      | none => false) false
    | .returning => cond (void ft g) (match stepA P ft g H with
      | some (g', _) => quitN P ft H n g'
      | none => false) false
    | .panicking _ => false
/-- The same step in any world. -/
def Calm (P : Program) (main : Bool) (ι : Inj) (g' : AG) (a : Goroutine) : Prop := ∃ a', (∀ w, stepG P main a w = .go a' w #[]) ∧ GRel P ι g' a'
theorem calm_run {f : AFrame} {cs : List AFrame} {g' : AG} {H' : Heap} (h : runA P ft f cs H = some (g', H')) (hq : calm (f, cs) = true) (hm : f.mode = .run) {a : Goroutine} {w : World} (hw : Rel P ι H w) (hg : GRel P ι (f, cs) a) : Calm P main ι g' a := by
  refine runA_gen (main := main) (Q := fun g1 _ => Calm P main ι g1 a) h hw hg hm (fun g1 fr hs hf hc => ⟨_, hs, ⟨rfl, rfl, hf, hc⟩⟩) fun ops i r k o ht ho hwt h2 => ?_
  simp [calm, ht, ho, hwt] at hq
theorem calm_end {f : AFrame} {a : Goroutine} (hm : f.mode = .leaving) (hd : f.defers = []) (hg : GRel P ι (f, []) a) : ∃ a', (∀ w, stepG P main a w = .go a' w #[]) ∧ a'.status = .finished := by
  have hF := hg.frame
  have hmd := hF.mode
  simp only [hm] at hmd
  have hds := hF.defers
  simp only [hd] at hds
  have hcal := hg.callers
  cases hM : a.frame.mode with
  | panicking C =>
    rw [hM] at hmd
    have hmd : C = [goexitEntry] := hmd
    subst hmd
    cases hD : a.frame.defers with
    | cons D Ds => rw [hD] at hds; exact hds.elim
    | nil =>
      cases hR : a.callers with
      | cons q Q => rw [hR] at hcal; exact hcal.elim
      | nil =>
        refine ⟨{ frame := a.frame, callers := [], status := .finished, dying := none }, fun w => ?_, rfl⟩
        rw [stepG_unw hg.dying (by rw [hM]; simp)]
        simp [unwind, hD, hM, hR, catches_false (P := P) hF, goexitEntry]
  | _ => rw [hM] at hmd; exact hmd.elim
theorem calm_back (hE : @EnvOk noMarks P ft) {f : AFrame} {cs : List AFrame} {g' : AG} {H' : Heap} (h : unwindA P ft f cs H = some (g', H')) (hq : void ft (f, cs) = true) (hm : f.mode = .returning) {a : Goroutine} (hg : GRel P ι (f, cs) a) : Calm P main ι g' a := by
  have hF := hg.frame
  have hmd := hF.mode
  rw [hm] at hmd
  have hM : a.frame.mode = .returning := by
    cases hM : a.frame.mode with
    | returning => rfl
    | _ => rw [hM] at hmd; exact hmd.elim
  unfold void at hq
  simp only at hq
  split at hq
  · rename_i fn hd hf
    have hds := hF.defers
    simp only [hd] at hds
    have hD : a.frame.defers = [] := by
      cases hD : a.frame.defers with
      | nil => rfl
      | cons D Ds => rw [hD] at hds; exact hds.elim
    obtain ⟨fo, c, c', h1, h2, h3, h3', hann, hfine, hnt, hres0⟩ := hE.fn f.fn fn hf
    have hz : fn.results = #[] := Array.eq_empty_of_size_eq_zero (by simpa using hq)
    have hz0 : fo.results = #[] := hres0 ▸ hz
    have hfn : P.funcs[a.frame.fn]? = some fo := by rw [hF.fn]; exact h1
    have hr : ∀ w, (results fo a.frame.tmps).run P w = .ok (.tuple #[]) w ∧ (results fo a.frame.tmps).events P w #[] = #[] := fun w => by
      constructor <;> simp [results, hz0]
    unfold unwindA at h
    simp only [hd, hm, hf] at h
    have hv : resV P fn f.A H = some (.tuple #[], H) := by
      simp [resV, resA, hz]
    rw [hv] at h
    cases cs with
    | nil => simp at h
    | cons p r =>
      have hcal := hg.callers
      cases hR : a.callers with
      | nil => rw [hR] at hcal; exact hcal.elim
      | cons q Q =>
        rw [hR] at hcal
        have hun : ∀ w, stepG P main a w = GStep.after #[] (doReturn P main a.frame (q :: Q) none (.tuple #[]) w) := fun w => by
          rw [stepG_unw hg.dying (by rw [hM]; simp)]
          simp [unwind, hD, hM, hfn, (hr w).1, (hr w).2, hR, seen]
        have hkind := hF.kind
        simp only at h
        cases hdf : f.dfr with
        | true =>
          rw [hdf, cond_true] at h hkind
          simp only [Option.some.injEq, Prod.mk.injEq] at h
          obtain ⟨rfl, rfl⟩ := h
          refine ⟨goG _ Q, fun w => (hun w).trans ?_, ⟨rfl, rfl, backA_ok (P := P) hcal.1, hcal.2⟩⟩
          simp only [doReturn, hkind, GStep.after, goG]
          rfl
        | false =>
          rw [hdf, cond_false] at h hkind
          split at h
          · rename_i p' hp
            simp only [Option.some.injEq, Prod.mk.injEq] at h
            obtain ⟨rfl, rfl⟩ := h
            refine ⟨goG _ Q, fun w => (hun w).trans ?_, ⟨rfl, rfl, finA_ok hp hcal.1 (.tuple rfl fun k hk => by simp at hk), hcal.2⟩⟩
            simp only [doReturn, hkind, GStep.after, goG]
            rfl
          · simp at h
  · simp at hq
/-- IT LEAVES. -/
theorem quits_ok (hE : @EnvOk noMarks P ft) {w : World} (hw : Rel P ι H w) : ∀ (n : Nat) (g : AG), quitN P ft H n g = true → ∀ a, GRel P ι g a → QuitsD P n 0 a
  | 0, g, h, _, _ => by simp [quitN] at h
  | n + 1, g, h, a, hg => by
    obtain ⟨f, cs⟩ := g
    have mute : ∀ e ∈ (#[] : Array Event), Event.mute e = true := fun e he => by simp at he
    unfold quitN at h
    split at h
    · rename_i hm
      split at h
      · rename_i hd hc
        simp only at hc hm hd
        subst hc
        obtain ⟨a', e1, e2⟩ := calm_end (main := false) hm hd hg
        refine .inr ⟨hg.status, a', #[], mute, e1, ?_⟩
        cases n with
        | zero => exact ⟨e2, rfl⟩
        | succ n => exact .inl ⟨e2, rfl⟩
      · simp at h
    · rename_i hm
      cases hq : calm (f, cs) with
      | false => rw [hq] at h; simp at h
      | true =>
        rw [hq, cond_true] at h
        split at h
        · rename_i g' H' hs
          simp only at hm
          simp only [stepA, hm] at hs
          obtain ⟨a', e1, q1⟩ := calm_run (main := false) hs hq hm hw hg
          exact .inr ⟨hg.status, a', #[], mute, e1, quits_ok hE hw n g' h a' q1⟩
        · simp at h
    · rename_i hm
      cases hq : void ft (f, cs) with
      | false => rw [hq] at h; simp at h
      | true =>
        rw [hq, cond_true] at h
        split at h
        · rename_i g' H' hs
          simp only at hm
          simp only [stepA, hm] at hs
          obtain ⟨a', e1, q1⟩ := calm_back (main := false) hE hs hq hm hg
          exact .inr ⟨hg.status, a', #[], mute, e1, quits_ok hE hw n g' h a' q1⟩
        · simp at h
    · simp at h
/-! ### Closes -/
/-- Which channel it closes; and what it is behind that. -/
noncomputable def closesA (g : AG) : Option (Nat × AG) := (atOp g).bind fun o => match o.op with
  | .call c => match c.callee with
    | .builtin .close => match c.args.toList with
      | [x] => (chanN (opv g.1.A.get x)).bind fun n => (finA g.1 (.tuple #[])).map fun f' => (n, (f', g.2))
      | _ => none
    | _ => none
  | _ => none
theorem close_ok {g g' : AG} {n : Nat} (h : closesA g = some (n, g')) {a : Goroutine} (hg : GRel P ι g a) {w : World} (hw : Rel P ι H w) :
    mayWake P a = true ∧ ∃ a', GRel P ι g' a' ∧ ∀ d cap k, w.heap[chanAt ι n]? = some (.chan cap #[] false k k false) → stepG P main a (w.at d) = .go a' ((w.at d).setChan (chanAt ι n) cap #[] true k k false) (closeEvents (chanAt ι n)) := by
  obtain ⟨f, cs⟩ := g
  unfold closesA at h
  cases h1 : atOp (f, cs) with
  | none => rw [h1] at h; simp at h
  | some o =>
    rw [h1] at h
    simp only [Option.bind_some] at h
    obtain ⟨hm, ops, i, r, k, ht, ho, hwt⟩ := atOp_ok h1
    have hF := hg.frame
    have hops := opsRel hF hw ht ho
    have hmd := hF.mode
    simp only [hm] at hmd
    have hM : a.frame.mode = .run := by
      revert hmd
      cases a.frame.mode <;> simp [MdRel]
    have htd : a.frame.todo = .inRegion ops (i :: r) :: k := hF.todo.trans ht
    split at h
    · rename_i c hop
      split at h
      · rename_i hc
        split at h
        · rename_i x hl
          have hargs : c.args = #[x] := Array.ext' hl
          cases h3 : chanN (opv f.A.get x) with
          | none => rw [h3] at h; simp at h
          | some m =>
            rw [h3] at h
            cases hf : finA f (.tuple #[]) with
            | none => rw [hf] at h; simp at h
            | some f' =>
              rw [hf] at h
              simp only [Option.bind_some, Option.map_some, Option.some.injEq, Prod.mk.injEq] at h
              obtain ⟨rfl, rfl⟩ := h
              have e1 := chanN_ok h3 (hops x (by rw [hop]; simp [Op.operands, Call.operands, hargs]))
              have hmw : mayWake P a = true := by
                simp only [mayWake, hM, htd, ho, Option.map_some, hop]
                obtain ⟨cal, as, ts⟩ := c
                simp only at hc
                subst hc
                rfl
              refine ⟨hmw, goG (a.frame.finish (.tuple #[])) a.callers, ⟨rfl, rfl, finA_ok hf hF (.tuple rfl fun k hk => by simp at hk), hg.callers⟩, fun d cap j hcell => ?_⟩
              have hcell' : (w.at d).heap[chanAt ι m]? = some (.chan cap #[] false j j false) := hcell
              have e2 : (execOp a.frame.eval o).run P (w.at d) = .ok (.value (.tuple #[])) ((w.at d).setChan (chanAt ι m) cap #[] true j j false) ∧ (execOp a.frame.eval o).events P (w.at d) #[] = closeEvents (chanAt ι m) := by
                have e0 : execOp a.frame.eval o = (do Pure.pure (.value (← Builtin.close_ c.argTypes o.type #[.chan (some (chanAt ι m))]))) := by
                  unfold execOp
                  rw [hop]
                  dsimp only
                  simp only [resolve, hc, hargs]
                  have ea : Array.map a.frame.eval #[x] = #[.chan (some (chanAt ι m))] := by simp [e1]
                  rw [ea]
                  rfl
                rw [e0, Sem.run_bind, Sem.events_bind, run_close_open _ _ hcell', events_close_open _ _ hcell']
                exact ⟨rfl, rfl⟩
              rw [step_oper hg hm ht ho hwt, apply_value (notEarly hF) e2.1]
              have e3 : opEvs P a.frame (execOp a.frame.eval o) (w.at d) = closeEvents (chanAt ι m) := by
                unfold opEvs
                rw [e2.2, seen_def]
                simp [closeEvents, seenStep]
              rw [e3]
        · simp at h
      · simp at h
    · simp at h
end Go.Ev
