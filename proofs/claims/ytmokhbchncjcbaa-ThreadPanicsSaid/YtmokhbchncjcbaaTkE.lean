/-
  What accesses an operation lists: below the heap's end, no cell written that nobody writes. For the kinds of operations that a goroutine's record may meet (tkOp). Conditions: EnvOk. (Printed by wip/xp/gen_tke.py.)
-/
import Derived.Test.YtmokhbchncjcbaaEvW
namespace Go.Ev
set_option linter.unusedSectionVars false
variable [Syms] {P : Program} [NoFloat P] [Marks] {ι : Inj}
/-- What an answer of the small run has beside it, with the accesses. -/
def OkE (P : Program) (ι : Inj) (H : Heap) (r : Option (ANext × Heap)) (s' : Sem Next) : Prop :=
  ∀ n H', r = some (n, H') → ∀ w, Rel P ι H w → ∃ ι' n' w', s'.run P w = .ok n' w' ∧ Ext P ι w ι' w' ∧ Rel P ι' H' w' ∧ NR ι' n n' ∧ EvsOk P ι H s' w w' ∧ Ro H H' ∧ w'.heap.size + H.next = w.heap.size + H'.next
theorem OkE.none {H : Heap} {s' : Sem Next} : OkE P ι H none s' := fun n H' h => by simp at h
theorem OkE.gen {s s' : Sem Next} (h : Sim P ι XR s s') (H : Heap) : OkE P ι H (gen P s H) s' := by
  intro n H' hr w hw
  unfold Ev.gen at hr
  split at hr
  · rename_i v H1 he
    simp only [Option.some.injEq, Prod.mk.injEq] at hr
    obtain ⟨rfl, rfl⟩ := hr
    obtain ⟨ι', n', w', e1, x1, r1, q1, v1, z1⟩ := h _ _ _ he w hw
    refine ⟨ι', n', w', e1, x1, r1, ?_, v1, arun_ro _ he, z1⟩
    cases n' <;> first | exact q1 | exact q1.elim
  · rename_i H1 he
    simp only [Option.some.injEq, Prod.mk.injEq] at hr
    obtain ⟨rfl, rfl⟩ := hr
    obtain ⟨ι', n', w', e1, x1, r1, q1, v1, z1⟩ := h _ _ _ he w hw
    refine ⟨ι', n', w', e1, x1, r1, ?_, v1, arun_ro _ he, z1⟩
    cases n' <;> first | exact q1 | exact q1.elim
  · simp at hr
theorem OkE.genG {s s' : Sem Next} (h : Sim P ι XGR s s') (H : Heap) : OkE P ι H (genG P s H) s' := by
  intro n H' hr w hw
  unfold Ev.genG at hr
  split at hr
  · rename_i v H1 he
    split at hr
    · rename_i hg
      simp only [Option.some.injEq, Prod.mk.injEq] at hr
      obtain ⟨rfl, rfl⟩ := hr
      obtain ⟨ι', n', w', e1, x1, r1, q1, v1, z1⟩ := h _ _ _ he w hw
      refine ⟨ι', n', w', e1, x1, r1, ?_, v1, arun_ro _ he, z1⟩
      cases n' <;> first | exact q1 hg | exact q1.elim
    · simp at hr
  · simp at hr
theorem OkE.value {H : Heap} {v v' : Value} (h : VRel ι v v') : OkE P ι H (some (.value v, H)) (Pure.pure (.value v')) := by
  intro n H' hr w hw
  simp only [Option.some.injEq, Prod.mk.injEq] at hr
  obtain ⟨rfl, rfl⟩ := hr
  exact ⟨ι, .value v', w, rfl, Ext.refl _ _, hw, h, .none rfl, .refl _, rfl⟩
theorem OkE.bindPure {α : Type} {H : Heap} {r : Option (ANext × Heap)} {x : α} {f : α → Sem Next} (h : OkE P ι H r (f x)) : OkE P ι H r (Pure.pure x >>= f) := by
  intro n H' hr w hw
  obtain ⟨ι', n', w', e1, x1, r1, q1, v1, ro, z1⟩ := h n H' hr w hw
  refine ⟨ι', n', w', by rw [Sem.run_bind]; exact e1, x1, r1, q1, fun e he => v1 e ?_, ro, z1⟩
  rw [Sem.events_bind] at he
  exact he
theorem arunP_ev {α : Type} (s : Sem α) : ∀ a, arunP P s = some a → ∀ w es, s.events P w es = es := by
  induction s with
  | pure x => intro a h w es; rfl
  | program k ih => intro a h w es; exact ih P a h w es
  | _ => intro a h; simp [arunP] at h
theorem OkE.callF {ft : Nat → Option Func} (hE : EnvOk P ft) {f : FuncId} {as as' : Array Value} (ha : ARel ι as as') (H : Heap) : OkE P ι H (callF ft f as H) (Go.callFunc f as') := by
  intro n H' hr w hw
  unfold Ev.callF at hr
  cases hf : ft f with
  | none => rw [hf] at hr; simp at hr
  | some fn =>
    rw [hf] at hr
    simp only [Option.some.injEq, Prod.mk.injEq] at hr
    obtain ⟨rfl, rfl⟩ := hr
    obtain ⟨fo, c, c', h1, h2, h3, _⟩ := hE.fn f fn hf
    refine ⟨ι, .enter f as', w, MuLone.run_callFunc_enter h1 h2 h3 as' w, Ext.refl _ _, hw, ⟨rfl, ha⟩, .none ?_, .refl _, rfl⟩
    simp [Go.callFunc, h1, h3]
theorem OkE.callM {ft : Nat → Option Func} (hE : EnvOk P ft) {recv recv' : Value} (hr : VRel ι recv recv') (name : String) {as as' : Array Value} (ha : ARel ι as as') (H : Heap) :
    OkE P ι H (callM P ft recv name as H) (Go.callMethod recv' name as') := by
  cases hr with
  | @iface t v v' hv =>
    intro n H' hr w hw
    unfold Ev.callM at hr
    dsimp only at hr
    cases he : arun P (Go.method (P.types.size + Made.depth) t v name) H with
    | none => rw [he] at hr; simp at hr
    | some r =>
      obtain ⟨fr, H1⟩ := r
      rw [he] at hr
      simp only at hr
      obtain ⟨ι1, b, w1, e1, x1, r1, q1, v1, z1⟩ := Sim.method (P := P) _ t ι v v' name hv _ _ _ he w hw
      obtain ⟨q1, q2⟩ := q1
      obtain ⟨ι2, n', w2, e2, x2, r2, q3, v2, ro, z2⟩ := OkE.callF hE ((ARel.one q2).append (ha.mono x1.sub)) H1 n H' hr w1 r1
      refine ⟨ι2, n', w2, ?_, x1.trans x2, r2, q3, fun e hev => ?_, (arun_ro _ he).trans ro, by omega⟩
      · unfold Go.callMethod
        simp only [Sem.run_bind, run_program, Result.andThen_ok, e1]
        rw [q1] at e2
        exact e2
      · have hev' : e ∈ (Go.callFunc b.1 (#[b.2] ++ as')).events P w1 ((Go.method (P.types.size + Made.depth) t v' name).events P w #[]) := by
          unfold Go.callMethod at hev
          simp only [Sem.events_bind, run_program, events_program, Result.evThen_ok, e1] at hev
          exact hev
        rw [Sem.events_acc] at hev'
        rcases Array.mem_append.1 hev' with h3 | h3
        · exact (v1 e h3).more x2.size
        · rw [← q1] at h3
          exact (v2 e h3).back x1.sub ((arun_ro _ he).lives hw.fresh)
  | _ => exact OkE.none
/-- The kinds. -/
def tkOp (o : Oper) : Bool := match o.op with
  | .slice .. | .makeSlice .. | .makeMap .. | .lookup .. | .mapUpdate .. | .insert .. => false
  | .call c => match c.callee with
    | .builtin .append | .builtin .copy | .builtin .cap | .builtin .delete => false
    | _ => true
  | _ => true
theorem OkE.acall {ft : Nat → Option Func} (hE : EnvOk P ft) {g : Nat → Value} {ρ : Operand → Value} {c : Call} {o : Oper} (ho : o.op = .call c) (hk : tkOp o = true)
    (h : ∀ x ∈ c.operands, VRel ι (opv g x) (ρ x)) (H : Heap) : OkE P ι H (acall P ft g c o H) (execOp ρ o) := by
  have hargs : ARel ι (c.args.map (opv g)) (c.args.map ρ) := argsRel fun x hx => h x (by simp [Call.operands, hx])
  have he : execOp ρ o = (do let d ← resolve ρ c o.type; invoke d.target d.args) := by unfold execOp; rw [ho]
  rw [he]
  unfold Ev.acall resolve
  cases hc : c.callee with
  | value f =>
    dsimp only
    have hf := h f (by simp [Call.operands, hc])
    revert hf
    generalize opv g f = x
    generalize ρ f = x'
    intro hf
    cases hf with
    | func fn h1 h2 h3 h4 =>
      rename_i xs ys us vs
      have a1 : ARel ι xs ys := ⟨h1, h2⟩
      have a2 : ARel ι us vs := ⟨h3, h4⟩
      cases fn with
      | func k => exact OkE.bindPure (OkE.callF hE ((a1.append hargs).append a2) H)
      | method name =>
        refine OkE.bindPure ?_
        dsimp only [invoke]
        cases h0 : (xs ++ c.args.map (opv g))[0]? with
        | none => exact OkE.none
        | some recv =>
          obtain ⟨recv', h0', hv⟩ := (a1.append hargs).get? h0
          rw [h0']
          exact OkE.callM hE hv name ((a1.append hargs).1 ▸ (a1.append hargs).extract 1 _) H
      | _ => exact OkE.none
    | _ => exact OkE.none
  | invoke r name =>
    dsimp only
    have hr := h r (by simp [Call.operands, hc])
    refine OkE.bindPure ?_
    show OkE P ι H _ (do
      let some recv := (#[ρ r] ++ c.args.map ρ)[0]? | stuck _
      Go.callMethod recv name ((#[ρ r] ++ c.args.map ρ).extract 1 (#[ρ r] ++ c.args.map ρ).size))
    have e0 : (#[ρ r] ++ c.args.map ρ)[0]? = some (ρ r) := by rw [Array.getElem?_append_left (by simp)]; rfl
    have e1 : (#[ρ r] ++ c.args.map ρ).extract 1 (#[ρ r] ++ c.args.map ρ).size = c.args.map ρ := by
      apply Array.ext'
      simp [List.take_of_length_le]
    rw [e0, e1]
    exact OkE.callM hE hr name hargs H
  | builtin b =>
    cases b with
    | len =>
      dsimp only
      have hx : execOp (opv g) o = (do let d ← resolve (opv g) c o.type; invoke d.target d.args) := by unfold execOp; rw [ho]
      rw [hx]
      unfold resolve
      rw [hc]
      refine OkE.bindPure ?_
      refine OkE.gen ?_ H
      exact simV (Sim.len hargs)
    | append => simp [tkOp, ho, hc] at hk
    | copy => simp [tkOp, ho, hc] at hk
    | cap => simp [tkOp, ho, hc] at hk
    | delete => simp [tkOp, ho, hc] at hk
    | min =>
      dsimp only
      split
      · rename_i hall
        have hx : execOp (opv g) o = (do let d ← resolve (opv g) c o.type; invoke d.target d.args) := by unfold execOp; rw [ho]
        rw [hx]
        unfold resolve
        rw [hc]
        refine OkE.bindPure ?_
        have heq : c.args.map ρ = c.args.map (opv g) := Array.toList_inj.1 (ints_eq hargs.list hall)
        rw [heq]
        refine OkE.genG ?_ H
        exact simG ((Sim.static (Static.min_ _ _ _ hall)).mono fun _ _ _ _ h => h.2)
      · exact OkE.none
    | max =>
      dsimp only
      split
      · rename_i hall
        have hx : execOp (opv g) o = (do let d ← resolve (opv g) c o.type; invoke d.target d.args) := by unfold execOp; rw [ho]
        rw [hx]
        unfold resolve
        rw [hc]
        refine OkE.bindPure ?_
        have heq : c.args.map ρ = c.args.map (opv g) := Array.toList_inj.1 (ints_eq hargs.list hall)
        rw [heq]
        refine OkE.genG ?_ H
        exact simG ((Sim.static (Static.max_ _ _ _ hall)).mono fun _ _ _ _ h => h.2)
      · exact OkE.none
    | _ => exact OkE.none

theorem OkE.aexecG {ft : Nat → Option Func} (hE : EnvOk P ft) {g : Nat → Value} {ρ : Operand → Value} {o : Oper} (hk : tkOp o = true)
    (h : ∀ x ∈ o.op.operands, VRel ι (opv g x) (ρ x)) (H : Heap) : OkE P ι H (aexecG P ft g o H) (execOp ρ o) := by
  unfold Ev.aexecG
  cases ho : o.op with
  | move x =>
    rw [ho] at h
    have e : execOp ρ o = Pure.pure (.value (ρ x)) := by unfold execOp; rw [ho]
    rw [e]; exact OkE.value (h x (by simp [Op.operands]))
  | assign x =>
    rw [ho] at h
    have e : execOp ρ o = Pure.pure (.value (ρ x)) := by unfold execOp; rw [ho]
    rw [e]; exact OkE.value (h x (by simp [Op.operands]))
  | pick c a b =>
    rw [ho] at h
    have e : execOp ρ o = (do Pure.pure (.value (if ← asBool (ρ c) then ρ a else ρ b))) := by unfold execOp; rw [ho]
    rw [e]
    have hc := h c (by simp [Op.operands])
    have ha := h a (by simp [Op.operands])
    have hb := h b (by simp [Op.operands])
    dsimp only
    revert hc
    generalize opv g c = x
    generalize ρ c = x'
    intro hc
    cases hc with
    | bool t =>
      dsimp only [asBool]
      refine OkE.bindPure ?_
      cases t
      · exact OkE.value hb
      · exact OkE.value ha
    | _ => exact OkE.none
  | binOp op t x y yt =>
    rw [ho] at h
    have e : ∀ ρ, execOp ρ o = (do Pure.pure (.value (← (do Go.eqGuard op t x y (ρ x) (ρ y); Go.binOp op t (ρ x) (ρ y))))) := fun ρ => by unfold execOp; rw [ho]
    dsimp only
    split
    · rename_i hfit
      rw [e, e]
      have hx := h x (by simp [Op.operands])
      have hy := h y (by simp [Op.operands])
      refine OkE.genG (simG ?_) H
      exact (Sim.eqGuard op t x y hx hy).bind fun ι1 _ _ hs _ => Sim.binOp op t (hx.mono hs) (hy.mono hs) hfit
    · exact OkE.none
  | unOp op t x =>
    rw [ho] at h
    have e : ∀ ρ, execOp ρ o = (do Pure.pure (.value (← Op.unary op (ρ x)))) := fun ρ => by unfold execOp; rw [ho]
    dsimp only
    rw [e, e]
    split
    · rename_i hfl
      exact OkE.genG (simG (Sim.unary op (h x (by simp [Op.operands])) hfl)) H
    · exact OkE.none
  | convert src dst x =>
    rw [ho] at h
    have e : ∀ ρ, execOp ρ o = (do Pure.pure (.value (← Go.convert src dst (ρ x)))) := fun ρ => by unfold execOp; rw [ho]
    dsimp only
    split
    · rename_i hc
      simp only [Bool.and_eq_true] at hc
      rw [e, e]
      refine OkE.gen (simV (Sim.convert src dst (h x (by simp [Op.operands])) ?_ ?_)) H
      · have h1 := hc.1
        unfold isIntT at h1
        split at h1
        · exact ⟨_, by assumption⟩
        · simp at h1
      · have h2 := hc.2
        unfold isIntV at h2
        split at h2
        · exact ⟨_, _, by assumption⟩
        · simp at h2
    · exact OkE.none
  | alloc t =>
    have e : ∀ ρ, execOp ρ o = (do Pure.pure (.value (← Instr.alloc t true (.tuple #[])))) := fun ρ => by unfold execOp; rw [ho]
    dsimp only
    split
    · rename_i ht
      rw [e, e]
      exact OkE.gen (simV (Sim.alloc hE.zero t ht)) H
    · exact OkE.none
  | box t x =>
    rw [ho] at h
    have e : ∀ ρ, execOp ρ o = (do Pure.pure (.value (← Instr.box t (ρ x)))) := fun ρ => by unfold execOp; rw [ho]
    dsimp only
    rw [e, e]
    exact OkE.gen (simV (Sim.box t (h x (by simp [Op.operands])))) H
  | build t ps =>
    rw [ho] at h
    have e : ∀ ρ : Operand → Value, execOp ρ o = (do Pure.pure (.value (← Instr.build t (ps.map fun p => (p.1, ρ p.2))))) := fun ρ => by unfold execOp; rw [ho]
    dsimp only
    split
    · rename_i ht
      rw [e, e]
      refine OkE.gen (simV (Sim.build hE.zero t ht ?_)) H
      have := partsRel (ι := ι) (g := g) (ρ := ρ) ps.toList fun x hx => h x (by simpa [Op.operands] using hx)
      simpa using this
    · exact OkE.none
  | buildSlice t n ps =>
    rw [ho] at h
    have e : ∀ ρ : Operand → Value, execOp ρ o = (do Pure.pure (.value (← Instr.buildSlice t n (ps.map fun p => (p.1, ρ p.2))))) := fun ρ => by unfold execOp; rw [ho]
    dsimp only
    split
    · rename_i ht
      rw [e, e]
      refine OkE.gen (simV (Sim.buildSlice hE.zero t (elemSmall_ok ht) n ?_)) H
      have := partsRel (ι := ι) (g := g) (ρ := ρ) ps.toList fun x hx => h x (by simpa [Op.operands] using hx)
      simpa using this
    · exact OkE.none
  | load t x =>
    rw [ho] at h
    have e : ∀ ρ, execOp ρ o = (do Pure.pure (.value (← Instr.loadAt t (ρ x)))) := fun ρ => by unfold execOp; rw [ho]
    dsimp only
    rw [e, e]
    exact OkE.gen (simV (Sim.loadAt t (h x (by simp [Op.operands])))) H
  | store t x y =>
    rw [ho] at h
    have e : ∀ ρ, execOp ρ o = (do Instr.storeAt t (ρ x) (ρ y); Pure.pure .skip) := fun ρ => by unfold execOp; rw [ho]
    dsimp only
    rw [e, e]
    exact OkE.gen (simU (Sim.storeAt t (h x (by simp [Op.operands])) (h y (by simp [Op.operands])))) H
  | makeInterface t x =>
    rw [ho] at h
    have e : ∀ ρ, execOp ρ o = (do Pure.pure (.value (← Instr.makeInterface t (ρ x)))) := fun ρ => by unfold execOp; rw [ho]
    dsimp only
    rw [e, e]
    exact OkE.gen (simV (Sim.makeInterface t (h x (by simp [Op.operands])))) H
  | makeFunc fn first cap =>
    rw [ho] at h
    have e : ∀ ρ, execOp ρ o = (do Pure.pure (.value (← Instr.makeFunc fn (first.map ρ) (cap.map ρ)))) := fun ρ => by unfold execOp; rw [ho]
    dsimp only
    rw [e, e]
    exact OkE.gen (simV (Sim.makeFunc fn (argsRel fun x hx => h x (by simp [Op.operands, hx])) (argsRel fun x hx => h x (by simp [Op.operands, hx])))) H
  | fieldAddr t x f =>
    rw [ho] at h
    have e : ∀ ρ, execOp ρ o = (do Pure.pure (.value (← Instr.fieldAt t (ρ x) f))) := fun ρ => by unfold execOp; rw [ho]
    dsimp only
    rw [e, e]
    exact OkE.gen (simV (Sim.fieldAt t (h x (by simp [Op.operands])) f)) H
  | field t x f =>
    rw [ho] at h
    have e : ∀ ρ, execOp ρ o = (do Pure.pure (.value (← Instr.field t (ρ x) f))) := fun ρ => by unfold execOp; rw [ho]
    dsimp only
    rw [e, e]
    exact OkE.gen (simV (Sim.field t (h x (by simp [Op.operands])) f)) H
  | indexAddr t x i =>
    rw [ho] at h
    have e : ∀ ρ, execOp ρ o = (do Pure.pure (.value (← Instr.indexAt t (ρ x) (ρ i)))) := fun ρ => by unfold execOp; rw [ho]
    dsimp only
    rw [e, e]
    exact OkE.gen (simV (Sim.indexAt t (h x (by simp [Op.operands])) (h i (by simp [Op.operands])))) H
  | index t x i =>
    rw [ho] at h
    have e : ∀ ρ, execOp ρ o = (do Pure.pure (.value (← Instr.index t (ρ x) (ρ i)))) := fun ρ => by unfold execOp; rw [ho]
    dsimp only
    rw [e, e]
    exact OkE.gen (simV (Sim.index t (h x (by simp [Op.operands])) (h i (by simp [Op.operands])))) H
  | extract x ix =>
    rw [ho] at h
    have e : ∀ ρ, execOp ρ o = (do Pure.pure (.value (← Instr.extract (ρ x) ix))) := fun ρ => by unfold execOp; rw [ho]
    dsimp only
    rw [e, e]
    exact OkE.gen (simV (Sim.extract (h x (by simp [Op.operands])) ix)) H
  | nilCheck x =>
    rw [ho] at h
    have hx := h x (by simp [Op.operands])
    unfold execOp
    rw [ho]
    dsimp only
    revert hx
    generalize opv g x = y
    generalize ρ x = y'
    intro hx
    cases hx with
    | ptr h => exact OkE.value (.ptr h)
    | iface t h => exact OkE.value (.iface t h)
    | func fn h1 h2 h3 h4 =>
      rename_i xs ys us vs
      cases fn with
      | func k => exact OkE.value (.func (.func k) h1 h2 h3 h4)
      | method name =>
        unfold nilV
        dsimp only
        cases hf : (xs[0]? : Option Value) with
        | none => exact OkE.none
        | some z =>
          obtain ⟨z', hz', hz⟩ := ARel.get? (xs := xs) (ys := ys) ⟨h1, h2⟩ hf
          rw [hz']
          cases hz with
          | iface t hw =>
            cases hw with
            | ptr hp =>
              rename_i a i
              dsimp only
              cases hr : arunP P (Go.nilAhead (P.types.size + Made.depth) t (.pointer (some a)) name) with
              | none => exact OkE.none
              | some r =>
                cases r with
                | none => exact OkE.none
                | some b =>
                  cases b with
                  | true => exact OkE.none
                  | false =>
                    intro n H' hn w hw
                    simp only [Option.some.injEq, Prod.mk.injEq] at hn
                    obtain ⟨rfl, rfl⟩ := hn
                    refine ⟨ι, .value (.func (.method name) ys vs), w, ?_, Ext.refl _ _, hw, VRel.func (.method name) h1 h2 h3 h4, .none ?_, .refl _, rfl⟩
                    · rw [Sem.run_bind]
                      show ((Go.nilAhead (P.types.size + Made.depth) t _ name) >>= _ : Sem _).run P w = _
                      rw [Sem.run_bind, nilAhead_ptr _ _ _ a, arunP_run _ _ hr w]
                      rfl
                    · rw [Sem.events_bind]
                      show ((Go.nilAhead (P.types.size + Made.depth) t _ name) >>= _ : Sem _).events P w _ = _
                      rw [Sem.events_bind, nilAhead_ptr _ _ _ a, arunP_run _ _ hr w, arunP_ev _ _ hr w]
                      rfl
            | _ => exact OkE.none
          | _ => exact OkE.none
      | _ => exact OkE.none
    | _ => exact OkE.none
  | makeSlice t l c => simp [tkOp, ho] at hk
  | slice t x lo hi mx => simp [tkOp, ho] at hk
  | makeMap t r => simp [tkOp, ho] at hk
  | lookup t m k ok => simp [tkOp, ho] at hk
  | mapUpdate t m k x => simp [tkOp, ho] at hk
  | insert t m k x => simp [tkOp, ho] at hk
  | call c =>
    rw [ho] at h
    exact OkE.acall hE ho hk (fun x hx => h x (by simpa [Op.operands] using hx)) H
  | _ => exact OkE.none

end Go.Ev
