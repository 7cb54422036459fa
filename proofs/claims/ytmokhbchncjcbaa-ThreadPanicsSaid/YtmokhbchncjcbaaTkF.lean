/-
  The way to a seat: steps that read still cells alone leave the world as it is. Conditions: EnvOk; no code stands for other code.
-/
import Derived.Test.YtmokhbchncjcbaaTkD
namespace Go.Ev
open Go.Conc
set_option linter.unusedSectionVars false
variable [Syms] {P : Program} [NoFloat P] {ι : Inj} {Hs : Heap} {B : Nat}

/-- Plain reads of still cells, of blocks below B. -/
def Reads (ι : Inj) (Hs : Heap) (B : Nat) (es : Array Event) : Prop := ∀ e ∈ es, EvC (StillOf ι Hs) B e
/-- A run over cells that stand still: the world stays. -/
def QS (P : Program) (ι : Inj) (Hs : Heap) (B : Nat) {α β : Type} (R : Inj → α → β → Prop) (s : Sem α) (s' : Sem β) : Prop :=
  ∀ a H', arun P s Hs = some (a, H') → ∀ w, Rel P ι Hs w → H' = Hs ∧ ∃ b, s'.run P w = .ok b w ∧ R ι a b ∧ Reads ι Hs B (s'.events P w #[])
theorem Reads.none : Reads ι Hs B #[] := fun e he => by simp at he
theorem QS.pure {α β : Type} {R : Inj → α → β → Prop} {a : α} {b : β} (h : R ι a b) : QS P ι Hs B R (Pure.pure a) (Pure.pure b) := by
  intro x H' hr w _
  simp at hr
  obtain ⟨rfl, rfl⟩ := hr
  exact ⟨rfl, b, rfl, h, Reads.none⟩
theorem QS.bind {α β γ δ : Type} {R : Inj → α → β → Prop} {R' : Inj → γ → δ → Prop} {s : Sem α} {s' : Sem β} {f : α → Sem γ} {f' : β → Sem δ}
    (h : QS P ι Hs B R s s') (hf : ∀ a b, R ι a b → QS P ι Hs B R' (f a) (f' b)) : QS P ι Hs B R' (s >>= f) (s' >>= f') := by
  intro c H'' hr w hw
  rw [arun_bind] at hr
  cases h1 : arun P s Hs with
  | none => rw [h1] at hr; simp at hr
  | some r =>
    obtain ⟨a, H'⟩ := r
    rw [h1] at hr
    simp only [Option.bind_some] at hr
    obtain ⟨rfl, b, e1, q1, v1⟩ := h a H' h1 w hw
    obtain ⟨rfl, d, e2, q2, v2⟩ := hf a b q1 c H'' hr w hw
    refine ⟨rfl, d, by rw [Sem.run_bind, e1]; exact e2, q2, fun e he => ?_⟩
    rw [Sem.events_bind, e1] at he
    have he' : e ∈ (f' b).events P w (s'.events P w #[]) := he
    rw [Sem.events_acc] at he'
    rcases Array.mem_append.1 he' with h4 | h4
    · exact v1 e h4
    · exact v2 e h4
theorem Static.qs {α : Type} {s : Sem α} (h : Static P s) : QS P ι Hs B EqR s s := fun a H' hr w _ => by
  obtain ⟨rfl, h2⟩ := h Hs a H' hr
  exact ⟨rfl, a, (h2 w).1, rfl, fun e he => by rw [(h2 w).2] at he; simp at he⟩
theorem QS.dead {α β : Type} {R : Inj → α → β → Prop} {s : Sem α} {s' : Sem β} (h : Dead P s) : QS P ι Hs B R s s' := fun x H' hr => by rw [h Hs] at hr; simp at hr

/-- What is known in part alone, and lies below B. -/
structure Low (P : Program) (ι : Inj) (Hs : Heap) (B : Nat) : Prop where
  parts : ∀ n b, Hs.get n = some b → ∃ c, b = .part c
  below : ∀ n i, ι n = some i → i.blk < B
theorem QS.load (hl : Low P ι Hs B) {a a' : Addr} (ha : AddrRel ι a a') : QS P ι Hs B VRel (Go.load a) (Go.load a') := by
  intro v H' hr w hw
  simp only [Go.load, arun] at hr
  cases h : Hs.load a with
  | none => rw [h] at hr; simp at hr
  | some x =>
    rw [h] at hr
    simp only [Option.some.injEq, Prod.mk.injEq] at hr
    obtain ⟨rfl, rfl⟩ := hr
    obtain ⟨v', hc, hv⟩ := hw.cell ha h
    refine ⟨rfl, v', by rw [run_load, hc], hv, fun e he => ?_⟩
    rw [events_load, hc] at he
    simp only [List.push_toArray, List.nil_append, List.mem_toArray, List.mem_cons, List.not_mem_nil, or_false] at he
    subst he
    obtain ⟨i, hi, rfl⟩ := ha
    refine ⟨_, rfl, ?_, hl.below _ _ hi⟩
    unfold Heap.load at h
    cases hb : Hs.get a.block with
    | none => rw [hb] at h; simp at h
    | some b =>
      obtain ⟨c, rfl⟩ := hl.parts _ _ hb
      rw [hb] at h
      simp only at h
      split at h
      · rename_i hk
        simp only [Bool.and_eq_true, decide_eq_true_eq] at hk
        have hs : a.spot = none := by simpa using hk.1.1
        exact ⟨_, c, i, a.off, hb, hi, hk.1.2, hk.2, by rw [hs]⟩
      · simp at h
theorem QS.loadCellsFrom (hl : Low P ι Hs B) : ∀ (n i : Nat) (a a' : Addr) (acc acc' : Array Value), AddrRel ι a a' → ARel ι acc acc' →
    QS P ι Hs B ARelR (Go.loadCellsFrom a i n acc) (Go.loadCellsFrom a' i n acc')
  | 0, _, _, _, _, _, _, h => QS.pure h
  | n + 1, i, a, a', acc, acc', ha, h => by
    unfold Go.loadCellsFrom
    exact (QS.load hl (ha.add i)).bind fun v v' hv => QS.loadCellsFrom hl n (i + 1) a a' _ _ ha (h.push hv)
theorem QS.loadVar (hl : Low P ι Hs B) (t : TypeId) {a a' : Addr} (ha : AddrRel ι a a') : QS P ι Hs B VRel (Go.loadVar t a) (Go.loadVar t a') := by
  unfold Go.loadVar
  refine (Static.isAgg t).qs.bind fun b b' e => ?_
  cases e
  split
  · refine (Static.sizeOf t).qs.bind fun n n' e => ?_
    cases e
    exact (QS.loadCellsFrom hl n 0 _ _ _ _ ha ARel.nil).bind fun cs cs' h => QS.pure h.agg
  · exact QS.load hl ha
theorem QS.sureAddr {v v' : Value} (h : VRel ι v v') : QS P ι Hs B AddrR (Instr.sureAddr v) (Instr.sureAddr v') := by
  cases h with
  | ptr h => exact QS.pure ⟨_, h, rfl⟩
  | _ => exact QS.dead (Dead.stuck _)
theorem QS.loadAt (hl : Low P ι Hs B) (t : TypeId) {v v' : Value} (h : VRel ι v v') : QS P ι Hs B VRel (Instr.loadAt t v) (Instr.loadAt t v') :=
  (QS.sureAddr h).bind fun _ _ ha => QS.loadVar hl t ha
/-- A part of a struct that has cells. -/
theorem QS.fieldPlace {a a' : Addr} (h : AddrRel ι a a') (f : Field) (hz : ∀ i, P.info? f.type = some i → i.size ≠ 0) : QS P ι Hs B AddrR (Go.fieldPlace a f) (Go.fieldPlace a' f) := by
  unfold Go.fieldPlace
  have : QS P ι Hs B (fun _ (a b : Nat) => a = b ∧ a ≠ 0) (Go.sizeOf f.type) (Go.sizeOf f.type) := by
    intro n H' hr w hw
    obtain ⟨h1, n', h2, rfl, h3⟩ := (Static.sizeOf (P := P) f.type).qs (ι := ι) (B := B) n H' hr w hw
    refine ⟨h1, n, h2, ⟨rfl, ?_⟩, h3⟩
    cases hi : P.info? f.type with
    | none =>
      simp [Go.sizeOf, Go.typeInfo, Go.program, arun_bind, arun, hi, Go.stuck] at hr
      cases (show (none : Option (Nat × Heap)) = some (n, H') from hr)
    | some i =>
      rw [arun_sizeOf hi] at hr
      simp only [Option.some.injEq, Prod.mk.injEq] at hr
      rw [← hr.1]
      exact hz i hi
  refine this.bind fun n n' e => ?_
  obtain ⟨rfl, hn⟩ := e
  rw [if_neg hn, if_neg hn]
  exact QS.pure (h.add _)
theorem QS.fieldAt (s : TypeId) {v v' : Value} (h : VRel ι v v') (f : Nat) (hz : ∀ fields, P.underlying s = some (.struct fields) → ∀ fl, fields[f]? = some fl → ∀ i, P.info? fl.type = some i → i.size ≠ 0) : QS P ι Hs B VRel (Instr.fieldAt s v f) (Instr.fieldAt s v' f) := by
  unfold Instr.fieldAt
  have hu : QS P ι Hs B (fun _ (a b : TypeDesc) => a = b ∧ P.underlying s = some a) (Go.underlying s) (Go.underlying s) := by
    intro d H' hr w hw
    obtain ⟨h1, d', h2, rfl, h3⟩ := (Static.underlying (P := P) s).qs (ι := ι) (B := B) d H' hr w hw
    refine ⟨h1, d, h2, ⟨rfl, ?_⟩, h3⟩
    cases hi : P.underlying s with
    | none =>
      simp [Go.underlying, Go.program, arun_bind, arun, hi, Go.stuck] at hr
    | some i =>
      rw [arun_underlying hi] at hr
      simp only [Option.some.injEq, Prod.mk.injEq] at hr
      rw [hr.1]
  refine hu.bind fun d d' e => ?_
  obtain ⟨rfl, hd⟩ := e
  cases d with
  | struct fields =>
    dsimp only
    cases hf : fields[f]? with
    | none => exact QS.dead (Dead.stuck _)
    | some fl => exact (QS.sureAddr h).bind fun a a' ha => (QS.fieldPlace ha fl (hz fields hd fl hf)).bind fun _ _ hb => QS.pure (AddrRel.ptr hb)
  | _ => exact QS.dead (Dead.stuck _)

/-! ### Operations -/
/-- A part of the struct that has cells. -/
def partly (P : Program) (s : TypeId) (f : Nat) : Bool := match P.underlying s with
  | some (.struct fields) => match fields[f]? with
    | some fl => match P.info? fl.type with
      | some i => !Nat.beq i.size 0
      | none => false
    | none => false
  | _ => false
theorem partly_ok {s : TypeId} {f : Nat} (h : partly P s f = true) : ∀ fields, P.underlying s = some (.struct fields) → ∀ fl, fields[f]? = some fl → ∀ i, P.info? fl.type = some i → i.size ≠ 0 := by
  intro fields h1 fl h2 i h3 h4
  simp [partly, h1, h2, h3, h4] at h
/-- What may be done on the way to a seat. -/
def quietO (P : Program) (g : Nat → Value) (o : Oper) : Bool := match o.op with
  | .move _ | .assign _ | .load .. => true
  | .nilCheck x => match opv g x with
    | .pointer (some _) => true
    | _ => false
  | .fieldAddr s _ f => partly P s f
  | .call c => match c.callee with
    | .value (.func _) => true
    | _ => false
  | _ => false
/-- What an answer of the small run has beside it, where the world stays. -/
def OkQ (P : Program) (ι : Inj) (Hs : Heap) (B : Nat) (r : Option (ANext × Heap)) (s' : Sem Next) : Prop :=
  ∀ n H', r = some (n, H') → ∀ w, Rel P ι Hs w → H' = Hs ∧ ∃ n', s'.run P w = .ok n' w ∧ NR ι n n' ∧ Reads ι Hs B (s'.events P w #[])
theorem OkQ.value {v v' : Value} (h : VRel ι v v') : OkQ P ι Hs B (some (.value v, Hs)) (Pure.pure (.value v')) := by
  intro n H' hr w _
  simp only [Option.some.injEq, Prod.mk.injEq] at hr
  obtain ⟨rfl, rfl⟩ := hr
  exact ⟨rfl, .value v', rfl, h, Reads.none⟩
theorem OkQ.gen {s s' : Sem Value} (h : QS P ι Hs B VRel s s') : OkQ P ι Hs B (gen P (do Pure.pure (.value (← s))) Hs) (do Pure.pure (.value (← s'))) := by
  intro n H' hr w hw
  have hq : QS P ι Hs B XR (do Pure.pure (.value (← s)) : Sem Next) (do Pure.pure (.value (← s'))) := h.bind fun _ _ hv => QS.pure hv
  unfold Ev.gen at hr
  split at hr
  · rename_i v H1 he
    simp only [Option.some.injEq, Prod.mk.injEq] at hr
    obtain ⟨rfl, rfl⟩ := hr
    obtain ⟨h1, n', e1, q1, v1⟩ := hq _ _ he w hw
    refine ⟨h1, n', e1, ?_, v1⟩
    cases n' <;> first | exact q1 | exact q1.elim
  · rename_i H1 he
    simp only [Option.some.injEq, Prod.mk.injEq] at hr
    obtain ⟨rfl, rfl⟩ := hr
    obtain ⟨h1, n', e1, q1, v1⟩ := hq _ _ he w hw
    refine ⟨h1, n', e1, ?_, v1⟩
    cases n' <;> first | exact q1 | exact q1.elim
  · simp at hr
theorem OkQ.callF {ft : Nat → Option Func} (hE : @EnvOk noMarks P ft) {f : FuncId} {as as' : Array Value} (ha : ARel ι as as') : OkQ P ι Hs B (callF ft f as Hs) (Go.callFunc f as') := by
  letI : Marks := noMarks
  intro n H' hr w hw
  unfold Ev.callF at hr
  cases hf : ft f with
  | none => rw [hf] at hr; simp at hr
  | some fn =>
    rw [hf] at hr
    simp only [Option.some.injEq, Prod.mk.injEq] at hr
    obtain ⟨rfl, rfl⟩ := hr
    obtain ⟨fo, c, c', h1, h2, h3, _⟩ := hE.fn f fn hf
    refine ⟨rfl, .enter f as', MuLone.run_callFunc_enter h1 h2 h3 as' w, ⟨rfl, ha⟩, fun e he => ?_⟩
    rw [show (Go.callFunc f as').events P w #[] = #[] by simp [Go.callFunc, h1, h3]] at he
    simp at he
theorem OkQ.exec {ft : Nat → Option Func} (hE : @EnvOk noMarks P ft) (hl : Low P ι Hs B) {g : Nat → Value} {ρ : Operand → Value} {o : Oper} (hq : quietO P g o = true)
    (h : ∀ x ∈ o.op.operands, VRel ι (opv g x) (ρ x)) : OkQ P ι Hs B (aexecG P ft g o Hs) (execOp ρ o) := by
  unfold aexecG
  unfold quietO at hq
  cases ho : o.op with
  | move x =>
    rw [ho] at h
    unfold execOp; rw [ho]
    exact OkQ.value (h x (by simp [Op.operands]))
  | assign x =>
    rw [ho] at h
    unfold execOp; rw [ho]
    exact OkQ.value (h x (by simp [Op.operands]))
  | load t x =>
    rw [ho] at h
    have e : ∀ ρ, execOp ρ o = (do Pure.pure (.value (← Instr.loadAt t (ρ x)))) := fun ρ => by unfold execOp; rw [ho]
    dsimp only
    rw [e, e]
    exact OkQ.gen (QS.loadAt hl t (h x (by simp [Op.operands])))
  | fieldAddr s x f =>
    rw [ho] at h hq
    have e : ∀ ρ, execOp ρ o = (do Pure.pure (.value (← Instr.fieldAt s (ρ x) f))) := fun ρ => by unfold execOp; rw [ho]
    dsimp only
    rw [e, e]
    exact OkQ.gen (QS.fieldAt s (h x (by simp [Op.operands])) f (partly_ok hq))
  | nilCheck x =>
    rw [ho] at h hq
    have hx := h x (by simp [Op.operands])
    unfold execOp
    rw [ho]
    dsimp only at hq ⊢
    revert hx hq
    generalize opv g x = y
    generalize ρ x = y'
    intro hq hx
    cases hx <;> first | exact OkQ.value (.ptr (by assumption)) | simp at hq
  | call c =>
    rw [ho] at h hq
    dsimp only at hq ⊢
    have hargs : ARel ι (c.args.map (opv g)) (c.args.map ρ) := argsRel fun x hx => h x (by simp [Op.operands, Call.operands, hx])
    cases hc : c.callee with
    | value f =>
      rw [hc] at hq
      cases f with
      | func k =>
        have hf := h (.func k) (by simp [Op.operands, Call.operands, hc])
        have e : execOp ρ o = (do let d ← resolve ρ c o.type; invoke d.target d.args) := by unfold execOp; rw [ho]
        rw [e]
        unfold Ev.acall resolve
        rw [hc]
        dsimp only [opv]
        revert hf
        generalize ρ (.func k) = z
        intro hf
        cases hf with
        | func fn h1 h2 h3 h4 =>
          rename_i ys vs
          have a1 : ARel ι #[] ys := ⟨h1, h2⟩
          have a2 : ARel ι #[] vs := ⟨h3, h4⟩
          exact OkQ.callF hE ((a1.append hargs).append a2)
      | _ => simp at hq
    | _ => rw [hc] at hq; simp at hq
  | _ => rw [ho] at hq; simp at hq

/-! ### Steps -/
variable {ft : Nat → Option Func} {main : Bool}
/-- A step on the way to a seat: control, or such an operation. -/
noncomputable def quietG (P : Program) (g : AG) : Bool := match g.1.mode with
  | .run => match g.1.todo with
    | .inRegion ops (i :: _) :: _ => match ops[i]? with
      | some o => cond (Region.wanted o (yieldA ops g.1.A)) (quietO P g.1.A.get o) true
      | none => false
    | _ => true
  | _ => false
/-- What a quiet step comes to. -/
def StepQ (P : Program) (main : Bool) (ι : Inj) (Hs : Heap) (B : Nat) (g' : AG) (H' : Heap) (a : Goroutine) (w : World) : Prop :=
  H' = Hs ∧ ∃ a' es, stepG P main a w = .go a' w es ∧ GRel P ι g' a' ∧ Reads ι Hs B es
theorem Reads.seen {fr : Frame} {s : Sem Next} {w : World} (h : Reads ι Hs B (s.events P w #[])) : Reads ι Hs B (opEvs P fr s w) := fun e he => h e (mem_seen he)
theorem operQ (hE : @EnvOk noMarks P ft) (hl : Low P ι Hs B) {f : AFrame} {cs : List AFrame} {H' : Heap} {g' : AG} {a : Goroutine} {w : World} (hw : Rel P ι Hs w) (hg : GRel P ι (f, cs) a) (hm : f.mode = .run)
    {ops : Array Oper} {i : Nat} {r : List Nat} {k : List Item} {o : Oper} (ht : f.todo = .inRegion ops (i :: r) :: k) (ho : ops[i]? = some o) (hwt : Region.wanted o (yieldA ops f.A) = true)
    (hq : quietO P f.A.get o = true) (h : operA P ft o f cs Hs = some (g', H')) : StepQ P main ι Hs B g' H' a w := by
  have hF := hg.frame
  have hk := notEarly hF
  have hs := step_oper (main := main) (w := w) hg hm ht ho hwt
  have htd : a.frame.todo = .inRegion ops (i :: r) :: k := hF.todo.trans ht
  have hfine := hF.fine
  simp only [ht] at hfine
  have hfo : fineO P.globals.size o = true := by
    have := (fine_tail hfine).1
    simp only [fineI] at this
    rw [Array.all_eq_true_iff_forall_mem] at this
    exact this o (Array.mem_of_getElem? ho)
  have hops : ∀ x ∈ o.op.operands, VRel ι (opv f.A.get x) (a.frame.eval x) := fun x hx => hF.opv hw (by
    unfold fineO at hfo
    rw [Array.all_eq_true_iff_forall_mem] at hfo
    exact hfo x hx)
  unfold operA at h
  cases hkk : tkOp o with
  | false => rw [hkk] at h; simp at h
  | true =>
  rw [hkk, cond_true] at h
  cases hr : aexecN P ft f.A.get o Hs with
  | some q =>
    obtain ⟨n, H1⟩ := q
    rw [hr] at h
    have hrG : aexecG P ft f.A.get o Hs = some (n, H1) := by
      unfold aexecN at hr
      cases hf : fast P ft f.A.get o Hs with
      | none => rw [hf] at hr; exact hr
      | some r' => rw [hf] at hr; rw [fast_ok hf]; exact hr
    obtain ⟨rfl, n', e1, q1, v1⟩ := OkQ.exec (ρ := a.frame.eval) hE hl hq hops n H1 hrG w hw
    have hev := Reads.seen (P := P) (fr := a.frame) v1
    cases n with
    | value v =>
      simp only at h
      split at h
      · rename_i f' hf
        simp only [Option.some.injEq, Prod.mk.injEq] at h
        obtain ⟨rfl, rfl⟩ := h
        cases n' <;> first | exact q1.elim | skip
        exact ⟨rfl, _, _, hs.trans (apply_value hk e1), ⟨rfl, rfl, finA_ok hf hF q1, hg.callers⟩, hev⟩
      · simp at h
    | skip =>
      simp only at h
      split at h
      · rename_i f' hf
        simp only [Option.some.injEq, Prod.mk.injEq] at h
        obtain ⟨rfl, rfl⟩ := h
        cases n' <;> first | exact q1.elim | skip
        exact ⟨rfl, _, _, hs.trans (apply_skip hk e1), ⟨rfl, rfl, finA_ok hf hF VRel.undf, hg.callers⟩, hev⟩
      · simp at h
    | enter g args =>
      simp only at h
      split at h
      · rename_i f' hf
        simp only [Option.some.injEq, Prod.mk.injEq] at h
        obtain ⟨rfl, rfl⟩ := h
        cases n' <;> first | exact q1.elim | skip
        rename_i g2 args2
        obtain ⟨rfl, q2⟩ := q1
        exact ⟨rfl, _, _, hs.trans (apply_enter htd hk e1), ⟨rfl, rfl, enterA_ok hE hf q2, hF, hg.callers⟩, hev⟩
      · simp at h
  | none =>
    rw [hr] at h
    simp only at h
    unfold quietO at hq
    split at h
    · rename_i c hop
      rw [hop] at hq; simp at hq
    · rename_i c hop
      rw [hop] at hq
      dsimp only at hq
      split at h
      · rename_i hc; rw [hc] at hq; simp at hq
      · simp at h
    · rename_i x hop
      rw [hop] at hq; simp at hq
    · rename_i t s hop
      rw [hop] at hq; simp at hq
    · simp at h
/-- A QUIET STEP: the model's own step leaves the world as it is, and reads still cells alone. -/
theorem stepQ (hE : @EnvOk noMarks P ft) (hl : Low P ι Hs B) {g g' : AG} {H' : Heap} (h : stepA P ft g Hs = some (g', H')) (hq : quietG P g = true) {a : Goroutine} {w : World} (hw : Rel P ι Hs w) (hg : GRel P ι g a) : StepQ P main ι Hs B g' H' a w := by
  obtain ⟨f, cs⟩ := g
  unfold stepA at h
  unfold quietG at hq
  cases hm : f.mode with
  | run =>
    simp only [hm] at h hq
    refine runA_gen (main := main) (Q := fun g1 H1 => StepQ P main ι Hs B g1 H1 a w) h hw hg hm (fun g1 fr hs hf hc => ⟨rfl, _, _, hs w, ⟨rfl, rfl, hf, hc⟩, Reads.none⟩) fun ops i r k o ht ho hwt h2 => ?_
    simp only [ht, ho, hwt, cond_true] at hq
    exact operQ hE hl hw hg hm ht ho hwt hq h2
  | returning => simp only [hm] at hq; simp at hq
  | panicking c => simp only [hm] at hq; simp at hq
  | leaving => simp only [hm] at hq; simp at hq

/-! ### The way to a seat -/
noncomputable def quietN (P : Program) [NoFloat P] (ft : Nat → Option Func) (Hs : Heap) : Nat → AG → Option AG
  | 0, g => some g
  | n + 1, g => cond (quietG P g) (match stepA P ft g Hs with
    | some (g', _) => quietN P ft Hs n g'
    | none => none) none
theorem goes_quiet (hE : @EnvOk noMarks P ft) (hl : Low P ι Hs B) {Stop : Goroutine → World → Prop} : ∀ (n : Nat) (g g' : AG), quietN P ft Hs n g = some g' → ∀ (a : Goroutine) (w : World), GRel P ι g a → (∀ a' w', Rel P ι Hs w' → GRel P ι g' a' → Stop a' w') →
    Goes P main (RK (Rel P ι Hs)) (DS (StillOf ι Hs) B) Stop n a w
  | 0, g, g', h, a, w, hg, hS => by
    simp only [quietN, Option.some.injEq] at h
    subst h
    exact fun w₁ hK => hS a w₁ hK hg
  | n + 1, g, g', h, a, w, hg, hS => by
    simp only [quietN] at h
    cases hq : quietG P g with
    | false => rw [hq] at h; simp at h
    | true =>
      rw [hq, cond_true] at h
      split at h
      · rename_i g1 H1 h1
        refine Goes.step hg.status fun w₁ hK => ?_
        obtain ⟨_, a1, es, e1, q1, r1⟩ := stepQ (main := main) hE hl h1 hq hK hg
        rw [e1, goes_go]
        exact ⟨⟨rfl, r1⟩, goes_quiet hE hl n g1 g' h a1 w₁ q1 hS⟩
      · simp at h
end Go.Ev
