/-
  The evaluator: one operation. Conditions: what is said of the program (its zero values hold no address; the table of its functions is its own).
-/
import Derived.Test.YtmeppoihgfdgaaaDoorEvU
import Derived.Conc.MuLone
namespace Go.Ev
set_option linter.unusedSectionVars false      -- the symbols' class stands for all texts
/-- A run that reads no memory at all. -/
noncomputable def arunP (P : Program) {α : Type} : Sem α → Option α
  | .pure a => some a
  | .program k => arunP P (k P)
  | _ => none
theorem arunP_run {P : Program} {α : Type} (s : Sem α) : ∀ a, arunP P s = some a → ∀ w, s.run P w = .ok a w := by
  induction s with
  | pure x => intro a h w; simp [arunP] at h; subst h; rfl
  | program k ih => intro a h w; exact ih P a h w
  | _ => intro a h; simp [arunP] at h
variable [Syms] {P : Program} [NoFloat P] {ι : Inj}

inductive ANext where
  | value (v : Value)
  | skip
  | enter (f : FuncId) (args : Array Value)

def opv (g : Nat → Value) : Operand → Value
  | .tmp t => g t
  | .const v => v
  | .global n => .pointer (some ⟨n, 0, none⟩)
  | .func f => .func (.func f) #[] #[]

noncomputable def gen (P : Program) (s : Sem Next) (H : Heap) : Option (ANext × Heap) :=
  match arun P s H with
  | some (.value v, H') => some (.value v, H')
  | some (.skip, H') => some (.skip, H')
  | _ => none

noncomputable def genG (P : Program) (s : Sem Next) (H : Heap) : Option (ANext × Heap) :=
  match arun P s H with
  | some (.value v, H') => if ground v then some (.value v, H') else none
  | _ => none

noncomputable def callF (ft : Nat → Option Func) (f : FuncId) (args : Array Value) (H : Heap) : Option (ANext × Heap) :=
  match ft f with
  | some _ => some (.enter f args, H)
  | none => none

noncomputable def callM (P : Program) (ft : Nat → Option Func) (recv : Value) (name : String) (args : Array Value) (H : Heap) : Option (ANext × Heap) :=
  match recv with
  | .iface t v => match arun P (Go.method (P.types.size + Made.depth) t v name) H with
    | some (r, H') => callF ft r.1 (#[r.2] ++ args) H'
    | none => none
  | _ => none

def isIntT (P : Program) (t : TypeId) : Bool := match P.underlying t with | some (.int _) => true | _ => false
def elemSmall (P : Program) (t : TypeId) : Bool := match P.underlying t with | some (.slice e) => decide (e < P.types.size) | _ => false
theorem elemSmall_ok {t : TypeId} (h : elemSmall P t = true) (e : TypeId) (he : P.underlying t = some (.slice e)) : e < P.types.size := by
  unfold elemSmall at h
  rw [he] at h
  simpa using h
def isIntV : Value → Bool | .int .. => true | _ => false

def valH : Option (Value × Heap) → Option (ANext × Heap)
  | some (v, H) => some (.value v, H)
  | none => none
def updH : Option Heap → Option (ANext × Heap)
  | some H => some (.skip, H)
  | none => none
def valS (v : Option Value) (H : Heap) : Option (ANext × Heap) :=
  match v with
  | some v => some (.value v, H)
  | none => none

/-- What 'nilCheck' hands on; none, where it isn't sure that nothing nil is there. -/
noncomputable def nilV (P : Program) (v : Value) : Option Value :=
  match v with
  | .pointer (some a) => some (.pointer (some a))
  | .iface t v => some (.iface t v)
  | .func (.func k) f c => some (.func (.func k) f c)
  | .func (.method name) f c => match (f[0]? : Option Value) with
    | some (.iface t (.pointer (some a))) => match arunP P (Go.nilAhead (P.types.size + Made.depth) t (.pointer (some a)) name) with
      | some (some false) => some (.func (.method name) f c)
      | _ => none
    | _ => none
  | _ => none
theorem nilAhead_ptr (n : Nat) (t : TypeId) (a a' : Addr) (name : String) : Go.nilAhead n t (.pointer (some a)) name = Go.nilAhead n t (.pointer (some a')) name := by
  cases n with
  | zero => rfl
  | succ n =>
    unfold Go.nilAhead
    refine congrArg _ (funext fun ti => ?_)
    cases ti.methods.find? (·.name == name) with
    | none => rfl
    | some m =>
      dsimp only
      cases m.path.toList with
      | nil =>
        unfold Go.followBlind
        dsimp only [Pure.pure, Bind.bind, Sem.bind]
        cases m.func with
        | none => rfl
        | some fp =>
          obtain ⟨f, b⟩ := fp
          cases b with
          | true => rfl
          | false =>
            refine congrArg (Sem.bind (Go.underlying t)) (funext fun d => ?_)
            cases d <;> rfl
      | cons s rest =>
        have e : Go.followBlind (s :: rest) t (some (.pointer (some a))) = Go.followBlind (s :: rest) t (some (.pointer (some a'))) := by
          unfold Go.followBlind
          refine congrArg _ (funext fun d => ?_)
          cases d with
          | struct fields =>
            dsimp only
            cases fields[s.index]? with
            | none => rfl
            | some f => cases s.deref <;> rfl
          | _ => rfl
        rw [e]

noncomputable def acall (P : Program) (ft : Nat → Option Func) (g : Nat → Value) (c : Call) (o : Oper) (H : Heap) : Option (ANext × Heap) :=
  match c.callee with
  | .value f => match opv g f with
    | .func (.func k) first cap => callF ft k (first ++ c.args.map (opv g) ++ cap) H
    | .func (.method name) first _ => match (first ++ c.args.map (opv g))[0]? with
      | some recv => callM P ft recv name ((first ++ c.args.map (opv g)).extract 1 (first ++ c.args.map (opv g)).size) H
      | none => none
    | _ => none
  | .invoke r name => callM P ft (opv g r) name (c.args.map (opv g)) H
  | .builtin .len => gen P (execOp (opv g) o) H
  | .builtin .append => valH (aappend P c.argTypes (c.args.map (opv g)) H)
  | .builtin .copy => valH (acopy P c.argTypes (c.args.map (opv g)) H)
  | .builtin .cap => valS (acap P c.argTypes (c.args.map (opv g)) H) H
  | .builtin .delete => match adelete P c.argTypes (c.args.map (opv g)) H with
    | some H' => some (.value (.tuple #[]), H')
    | none => none
  | .builtin .min | .builtin .max => if (c.args.map (opv g)).toList.all isInt then genG P (execOp (opv g) o) H else none
  | _ => none

noncomputable def aexecG (P : Program) (ft : Nat → Option Func) (g : Nat → Value) (o : Oper) (H : Heap) : Option (ANext × Heap) :=
  match o.op with
  | .move x | .assign x => some (.value (opv g x), H)
  | .pick c a b => match opv g c with
    | .bool t => some (.value (if t then opv g a else opv g b), H)
    | _ => none
  | .binOp op _ x y _ => if binFit op (opv g x) (opv g y) then genG P (execOp (opv g) o) H else none
  | .unOp _ _ x => if noFl (opv g x) then genG P (execOp (opv g) o) H else none
  | .convert _ dst x => if isIntT P dst && isIntV (opv g x) then gen P (execOp (opv g) o) H else none
  | .alloc t | .build t _ => if t < P.types.size then gen P (execOp (opv g) o) H else none
  | .buildSlice t .. => if elemSmall P t then gen P (execOp (opv g) o) H else none
  | .box .. | .load .. | .store .. | .makeInterface .. | .makeFunc .. | .fieldAddr .. | .field .. | .indexAddr .. | .index .. | .extract .. =>
    gen P (execOp (opv g) o) H
  | .nilCheck x => match nilV P (opv g x) with
    | some v => some (.value v, H)
    | none => none
  | .makeSlice t l c => valH (amake P t (opv g l) (opv g c) H)
  | .slice t x lo hi mx => match opv g x with
    | .slice (some a) len cap => valS (acut P t a len cap (lo.map (opv g)) (hi.map (opv g)) (mx.map (opv g)) H) H
    | _ => gen P (execOp (opv g) o) H
  | .makeMap .. => gen P (execOp (opv g) o) H
  | .lookup t m k ok => valS (alookup P t (opv g m) (opv g k) ok H) H
  | .mapUpdate t m k x | .insert t m k x => updH (aupdate P t (opv g m) (opv g k) (opv g x) H)
  | .call c => acall P ft g c o H
  | _ => none

/-! ### It is the model's -/
def NR : Inj → ANext → Next → Prop := fun ι n n' =>
  match n, n' with
  | .value v, .value v' => VRel ι v v'
  | .skip, .skip => True
  | .enter f as, .enter f' as' => f = f' ∧ ARel ι as as'
  | _, _ => False
def XR : Inj → Next → Next → Prop := fun ι n n' =>
  match n, n' with
  | .value v, .value v' => VRel ι v v'
  | .skip, .skip => True
  | _, _ => False
def XGR : Inj → Next → Next → Prop := fun ι n n' =>
  match n, n' with
  | .value v, .value v' => GR ι v v'
  | _, _ => False

/-- What an answer of the small run has beside it. -/
def Ok (P : Program) (ι : Inj) (H : Heap) (r : Option (ANext × Heap)) (s' : Sem Next) : Prop :=
  ∀ n H', r = some (n, H') → ∀ w, Rel P ι H w → ∃ ι' n' w', s'.run P w = .ok n' w' ∧ Ext P ι w ι' w' ∧ Rel P ι' H' w' ∧ NR ι' n n'

theorem Ok.none {H : Heap} {s' : Sem Next} : Ok P ι H none s' := fun n H' h => by simp at h

theorem Ok.gen {s s' : Sem Next} (h : Sim P ι XR s s') (H : Heap) : Ok P ι H (gen P s H) s' := by
  intro n H' hr w hw
  unfold Ev.gen at hr
  split at hr
  · rename_i v H1 he
    simp only [Option.some.injEq, Prod.mk.injEq] at hr
    obtain ⟨rfl, rfl⟩ := hr
    obtain ⟨ι', n', w', e1, x1, r1, q1, _⟩ := h _ _ _ he w hw
    refine ⟨ι', n', w', e1, x1, r1, ?_⟩
    cases n' <;> first | exact q1 | exact q1.elim
  · rename_i H1 he
    simp only [Option.some.injEq, Prod.mk.injEq] at hr
    obtain ⟨rfl, rfl⟩ := hr
    obtain ⟨ι', n', w', e1, x1, r1, q1, _⟩ := h _ _ _ he w hw
    refine ⟨ι', n', w', e1, x1, r1, ?_⟩
    cases n' <;> first | exact q1 | exact q1.elim
  · simp at hr

theorem Ok.genG {s s' : Sem Next} (h : Sim P ι XGR s s') (H : Heap) : Ok P ι H (genG P s H) s' := by
  intro n H' hr w hw
  unfold Ev.genG at hr
  split at hr
  · rename_i v H1 he
    split at hr
    · rename_i hg
      simp only [Option.some.injEq, Prod.mk.injEq] at hr
      obtain ⟨rfl, rfl⟩ := hr
      obtain ⟨ι', n', w', e1, x1, r1, q1, _⟩ := h _ _ _ he w hw
      refine ⟨ι', n', w', e1, x1, r1, ?_⟩
      cases n' <;> first | exact q1 hg | exact q1.elim
    · simp at hr
  · simp at hr

theorem Ok.value {H : Heap} {v v' : Value} (h : VRel ι v v') : Ok P ι H (some (.value v, H)) (Pure.pure (.value v')) := by
  intro n H' hr w hw
  simp only [Option.some.injEq, Prod.mk.injEq] at hr
  obtain ⟨rfl, rfl⟩ := hr
  exact ⟨ι, .value v', w, rfl, Ext.refl _ _, hw, h⟩

theorem simV {s s' : Sem Value} (h : Sim P ι VRel s s') : Sim P ι XR (do Pure.pure (.value (← s))) (do Pure.pure (.value (← s'))) :=
  h.bind fun _ _ _ _ hv => Sim.pure hv
theorem simU {s s' : Sem Unit} (h : Sim P ι TrueR s s') : Sim P ι XR (do s; Pure.pure .skip) (do s'; Pure.pure .skip) :=
  h.bind fun _ _ _ _ _ => Sim.pure trivial
theorem simG {s s' : Sem Value} (h : Sim P ι GR s s') : Sim P ι XGR (do Pure.pure (.value (← s))) (do Pure.pure (.value (← s'))) :=
  h.bind fun _ _ _ _ hv => Sim.pure hv

/-! ### Operands that hold no address of their own -/
def fineX (base : Nat) : Operand → Bool
  | .const v => ground v
  | .global n => decide (n < base)
  | _ => true
def fineO (base : Nat) (o : Oper) : Bool := o.op.operands.all (fineX base)
def fineC (base : Nat) : Code → Bool
  | .region _ ops _ => ops.all (fineO base)
  | .seq a b => fineC base a && fineC base b
  | .cond c a b => fineX base c && fineC base a && fineC base b
  | .block _ c | .loop c | .scope c => fineC base c
  | .rangeFunc .. => false
  | _ => true

/-! ### Code that stands for other code -/
/-- What marks stand for. -/
class Marks where
  code : Nat → Option Code
instance noMarks : Marks := ⟨fun _ => none⟩
abbrev markC (n : Nat) : Code := .rangeFunc (.tmp n) #[] .skip .skip
inductive Ann [Marks] : Code → Code → Prop
  | same (c : Code) : Ann c c
  | mark {n : Nat} {c : Code} : Marks.code n = some c → Ann (markC n) c
  | seq {a b a' b' : Code} : Ann a' a → Ann b' b → Ann (.seq a' b') (.seq a b)
  | cond {x : Operand} {a b a' b' : Code} : Ann a' a → Ann b' b → Ann (.cond x a' b') (.cond x a b)
  | block {id : Nat} {c c' : Code} : Ann c' c → Ann (.block id c') (.block id c)
  | loop {c c' : Code} : Ann c' c → Ann (.loop c') (.loop c)
  | scope {c c' : Code} : Ann c' c → Ann (.scope c') (.scope c)
variable [Marks]
structure EnvOk (P : Program) (ft : Nat → Option Func) : Prop where
  zero : ZeroOk P
  mixed : P.follows .mixedOrders = true
  fn : ∀ f fn, ft f = some fn → ∃ fo c c', P.funcs[f]? = some fo ∧ (fo.name == "runtime.NumGoroutine") = false ∧ fo.body = some c ∧ fn.body = some c' ∧ Ann c' c ∧ fineC P.globals.size c = true ∧ fn.ntmps = fo.ntmps ∧ fn.results = fo.results

theorem Ok.callF {ft : Nat → Option Func} (hE : EnvOk P ft) {f : FuncId} {as as' : Array Value} (ha : ARel ι as as') (H : Heap) : Ok P ι H (callF ft f as H) (Go.callFunc f as') := by
  intro n H' hr w hw
  unfold Ev.callF at hr
  cases hf : ft f with
  | none => rw [hf] at hr; simp at hr
  | some fn =>
    rw [hf] at hr
    simp only [Option.some.injEq, Prod.mk.injEq] at hr
    obtain ⟨rfl, rfl⟩ := hr
    obtain ⟨fo, c, c', h1, h2, h3, _⟩ := hE.fn f fn hf
    exact ⟨ι, .enter f as', w, MuLone.run_callFunc_enter h1 h2 h3 as' w, Ext.refl _ _, hw, rfl, ha⟩

theorem Ok.callM {ft : Nat → Option Func} (hE : EnvOk P ft) {recv recv' : Value} (hr : VRel ι recv recv') (name : String) {as as' : Array Value} (ha : ARel ι as as') (H : Heap) :
    Ok P ι H (callM P ft recv name as H) (Go.callMethod recv' name as') := by
  cases hr with
  | @iface t v v' hv =>
    intro n H' hr w hw
    unfold Ev.callM at hr
    dsimp only at hr
    cases he : arun P (Go.method (P.types.size + Made.depth) t v name) H with
    | none => rw [he] at hr; simp at hr
    | some r =>
      obtain ⟨fr, H1⟩ := r
      rw [he] at hr
      simp only at hr
      obtain ⟨ι1, b, w1, e1, x1, r1, q1, _⟩ := Sim.method (P := P) _ t ι v v' name hv _ _ _ he w hw
      obtain ⟨q1, q2⟩ := q1
      obtain ⟨ι2, n', w2, e2, x2, r2, q3⟩ := Ok.callF hE ((ARel.one q2).append (ha.mono x1.sub)) H1 n H' hr w1 r1
      refine ⟨ι2, n', w2, ?_, x1.trans x2, r2, q3⟩
      unfold Go.callMethod
      simp only [Sem.run_bind, run_program, Result.andThen_ok, e1]
      rw [q1] at e2
      exact e2
  | _ => exact Ok.none

theorem Ok.valH {H : Heap} {r : Option (Value × Heap)} {s' : Sem Value} (h : ∀ v H', r = some (v, H') → ∀ w, Rel P ι H w → ∃ ι' v' w', s'.run P w = .ok v' w' ∧ Ext P ι w ι' w' ∧ Rel P ι' H' w' ∧ VRel ι' v v') :
    Ok P ι H (valH r) (do Pure.pure (.value (← s'))) := by
  intro n H' hr w hw
  cases r with
  | none => simp [Ev.valH] at hr
  | some p =>
    obtain ⟨v, H1⟩ := p
    simp only [Ev.valH, Option.some.injEq, Prod.mk.injEq] at hr
    obtain ⟨rfl, rfl⟩ := hr
    obtain ⟨ι', v', w', e1, x1, r1, q1⟩ := h v H1 rfl w hw
    exact ⟨ι', .value v', w', by rw [Sem.run_bind, e1]; rfl, x1, r1, q1⟩
theorem Ok.valS {H : Heap} {r : Option Value} {s' : Sem Value} (h : ∀ v, r = some v → ∀ w, Rel P ι H w → ∃ v', s'.run P w = .ok v' w ∧ VRel ι v v') :
    Ok P ι H (valS r H) (do Pure.pure (.value (← s'))) := by
  intro n H' hr w hw
  cases r with
  | none => simp [Ev.valS] at hr
  | some v =>
    simp only [Ev.valS, Option.some.injEq, Prod.mk.injEq] at hr
    obtain ⟨rfl, rfl⟩ := hr
    obtain ⟨v', e1, q1⟩ := h v rfl w hw
    exact ⟨ι, .value v', w, by rw [Sem.run_bind, e1]; rfl, Ext.refl _ _, hw, q1⟩

theorem Ok.bindPure {α : Type} {H : Heap} {r : Option (ANext × Heap)} {x : α} {f : α → Sem Next} (h : Ok P ι H r (f x)) : Ok P ι H r (Pure.pure x >>= f) := by
  intro n H' hr w hw
  obtain ⟨ι', n', w', e1, rest⟩ := h n H' hr w hw
  exact ⟨ι', n', w', by rw [Sem.run_bind]; exact e1, rest⟩

theorem Ok.upd {H : Heap} {r : Option Heap} {s' : Sem Unit} (h : ∀ H', r = some H' → ∀ w, Rel P ι H w → ∃ ι' w', s'.run P w = .ok () w' ∧ Ext P ι w ι' w' ∧ Rel P ι' H' w') :
    Ok P ι H (updH r) (do s'; Pure.pure .skip) := by
  intro n H' hr w hw
  cases r with
  | none => simp [updH] at hr
  | some H1 =>
    simp only [updH, Option.some.injEq, Prod.mk.injEq] at hr
    obtain ⟨rfl, rfl⟩ := hr
    obtain ⟨ι', w', e1, x1, r1⟩ := h H1 rfl w hw
    exact ⟨ι', .skip, w', by rw [Sem.run_bind, e1]; rfl, x1, r1, trivial⟩

theorem argsRel {g : Nat → Value} {ρ : Operand → Value} {xs : Array Operand} (h : ∀ x ∈ xs, VRel ι (opv g x) (ρ x)) : ARel ι (xs.map (opv g)) (xs.map ρ) := by
  refine ⟨by simp, fun k hk => ?_⟩
  have hk' : k < xs.size := by simpa using hk
  have e1 : (xs.map (opv g)).getD k undf = opv g xs[k] := by simp [hk']
  have e2 : (xs.map ρ).getD k undf = ρ xs[k] := by simp [hk']
  rw [e1, e2]
  exact h _ (Array.getElem_mem hk')

theorem partsRel {g : Nat → Value} {ρ : Operand → Value} : ∀ (ps : List (Nat × Operand)), (∀ x ∈ ps.map (·.2), VRel ι (opv g x) (ρ x)) →
    PRel ι (ps.map fun p => (p.1, opv g p.2)) (ps.map fun p => (p.1, ρ p.2))
  | [], _ => trivial
  | p :: ps, h => ⟨rfl, h p.2 (by simp), partsRel ps fun x hx => h x (List.mem_cons_of_mem _ hx)⟩

theorem Sim.len {tys : Array TypeId} {ty : TypeId} {as as' : Array Value} (ha : ARel ι as as') : Sim P ι VRel (Builtin.len_ tys ty as) (Builtin.len_ tys ty as') := by
  unfold Builtin.len_
  cases ht : tys[0]? with
  | none => exact Sim.dead (Dead.stuck _)
  | some t =>
    cases hx : as[0]? with
    | none => exact Sim.dead (Dead.stuck _)
    | some x =>
      obtain ⟨x', hx', hv⟩ := ha.get? hx
      rw [hx']
      dsimp only
      refine (Static.underlying t).sim.bind fun ι1 d d' hs e => ?_
      cases e
      replace hv := hv.mono hs
      cases d with
      | string => cases hv with
        | string s => exact Sim.pure (.int _ _)
        | _ => exact Sim.dead (Dead.stuck _)
      | array n e => exact Sim.pure (.int _ _)
      | pointer arr =>
        dsimp only
        refine (Static.underlying arr).sim.bind fun ι2 d d' hs e => ?_
        cases e
        split
        · exact Sim.pure (.int _ _)
        · exact Sim.dead (Dead.stuck _)
      | slice e => cases hv with
        | nilSlice => exact Sim.pure (.int _ _)
        | slice => exact Sim.pure (.int _ _)
        | emptySlice => exact Sim.pure (.int _ _)
        | _ => exact Sim.dead (Dead.stuck _)
      | map k e => cases hv with
        | nilMap => exact Sim.pure (.int _ _)
        | @map n i h =>
          dsimp only
          refine (Sim.getMap ⟨i, h, rfl⟩).bind fun ι2 o o' hs2 ho => ?_
          obtain ⟨es, es', clock, rfl, rfl, he⟩ := ho
          dsimp only
          rw [he.1]
          exact Sim.pure (.int _ _)
        | _ => exact Sim.dead (Dead.stuck _)
      | chan a b => cases hv with
        | nilChan => exact Sim.pure (.int _ _)
        | _ => exact Sim.dead (Dead.stuck _)
      | _ => exact Sim.dead (Dead.stuck _)

theorem Ok.acall {ft : Nat → Option Func} (hE : EnvOk P ft) {g : Nat → Value} {ρ : Operand → Value} {c : Call} {o : Oper} (ho : o.op = .call c)
    (h : ∀ x ∈ c.operands, VRel ι (opv g x) (ρ x)) (H : Heap) : Ok P ι H (acall P ft g c o H) (execOp ρ o) := by
  have hargs : ARel ι (c.args.map (opv g)) (c.args.map ρ) := argsRel fun x hx => h x (by simp [Call.operands, hx])
  have he : execOp ρ o = (do let d ← resolve ρ c o.type; invoke d.target d.args) := by unfold execOp; rw [ho]
  rw [he]
  unfold Ev.acall resolve
  cases hc : c.callee with
  | value f =>
    dsimp only
    have hf := h f (by simp [Call.operands, hc])
    revert hf
    generalize opv g f = x
    generalize ρ f = x'
    intro hf
    cases hf with
    | func fn h1 h2 h3 h4 =>
      rename_i xs ys us vs
      have a1 : ARel ι xs ys := ⟨h1, h2⟩
      have a2 : ARel ι us vs := ⟨h3, h4⟩
      cases fn with
      | func k => exact Ok.bindPure (Ok.callF hE ((a1.append hargs).append a2) H)
      | method name =>
        refine Ok.bindPure ?_
        dsimp only [invoke]
        cases h0 : (xs ++ c.args.map (opv g))[0]? with
        | none => exact Ok.none
        | some recv =>
          obtain ⟨recv', h0', hv⟩ := (a1.append hargs).get? h0
          rw [h0']
          exact Ok.callM hE hv name ((a1.append hargs).1 ▸ (a1.append hargs).extract 1 _) H
      | _ => exact Ok.none
    | _ => exact Ok.none
  | invoke r name =>
    dsimp only
    have hr := h r (by simp [Call.operands, hc])
    refine Ok.bindPure ?_
    show Ok P ι H _ (do
      let some recv := (#[ρ r] ++ c.args.map ρ)[0]? | stuck _
      Go.callMethod recv name ((#[ρ r] ++ c.args.map ρ).extract 1 (#[ρ r] ++ c.args.map ρ).size))
    have e0 : (#[ρ r] ++ c.args.map ρ)[0]? = some (ρ r) := by rw [Array.getElem?_append_left (by simp)]; rfl
    have e1 : (#[ρ r] ++ c.args.map ρ).extract 1 (#[ρ r] ++ c.args.map ρ).size = c.args.map ρ := by
      apply Array.ext'
      simp [List.take_of_length_le]
    rw [e0, e1]
    exact Ok.callM hE hr name hargs H
  | builtin b =>
    cases b with
    | len =>
      dsimp only
      have hx : execOp (opv g) o = (do let d ← resolve (opv g) c o.type; invoke d.target d.args) := by unfold execOp; rw [ho]
      rw [hx]
      unfold resolve
      rw [hc]
      refine Ok.bindPure ?_
      refine Ok.gen ?_ H
      exact simV (Sim.len hargs)
    | append =>
      dsimp only
      refine Ok.bindPure (Ok.valH fun v H' h w hw => ?_)
      exact aappend_ok hargs h hw
    | copy =>
      dsimp only
      refine Ok.bindPure (Ok.valH fun v H' h w hw => ?_)
      exact acopy_ok hargs h hw
    | cap =>
      dsimp only
      refine Ok.bindPure (Ok.valS fun v h w hw => ?_)
      exact acap_ok hargs h hw
    | delete =>
      refine Ok.bindPure ?_
      intro n H' hr w hw
      cases hd : adelete P c.argTypes (c.args.map (opv g)) H with
      | none => rw [hd] at hr; simp at hr
      | some H1 =>
        rw [hd] at hr
        simp only [Option.some.injEq, Prod.mk.injEq] at hr
        obtain ⟨rfl, rfl⟩ := hr
        obtain ⟨ι', w', e1, x1, r1⟩ := adelete_ok (ty := o.type) hargs hd hw
        refine ⟨ι', .value (.tuple #[]), w', ?_, x1, r1, ARel.nil.tuple⟩
        show (do Pure.pure (.value (← Builtin.delete_ c.argTypes o.type (c.args.map ρ))) : Sem Next).run P w = _
        rw [Sem.run_bind, e1]
        rfl
    | min =>
      dsimp only
      split
      · rename_i hall
        have hx : execOp (opv g) o = (do let d ← resolve (opv g) c o.type; invoke d.target d.args) := by unfold execOp; rw [ho]
        rw [hx]
        unfold resolve
        rw [hc]
        refine Ok.bindPure ?_
        have heq : c.args.map ρ = c.args.map (opv g) := Array.toList_inj.1 (ints_eq hargs.list hall)
        rw [heq]
        refine Ok.genG ?_ H
        exact simG ((Sim.static (Static.min_ _ _ _ hall)).mono fun _ _ _ _ h => h.2)
      · exact Ok.none
    | max =>
      dsimp only
      split
      · rename_i hall
        have hx : execOp (opv g) o = (do let d ← resolve (opv g) c o.type; invoke d.target d.args) := by unfold execOp; rw [ho]
        rw [hx]
        unfold resolve
        rw [hc]
        refine Ok.bindPure ?_
        have heq : c.args.map ρ = c.args.map (opv g) := Array.toList_inj.1 (ints_eq hargs.list hall)
        rw [heq]
        refine Ok.genG ?_ H
        exact simG ((Sim.static (Static.max_ _ _ _ hall)).mono fun _ _ _ _ h => h.2)
      · exact Ok.none
    | _ => exact Ok.none

theorem Ok.aexecG {ft : Nat → Option Func} (hE : EnvOk P ft) {g : Nat → Value} {ρ : Operand → Value} {o : Oper}
    (h : ∀ x ∈ o.op.operands, VRel ι (opv g x) (ρ x)) (H : Heap) : Ok P ι H (aexecG P ft g o H) (execOp ρ o) := by
  unfold Ev.aexecG
  cases ho : o.op with
  | move x =>
    rw [ho] at h
    have e : execOp ρ o = Pure.pure (.value (ρ x)) := by unfold execOp; rw [ho]
    rw [e]; exact Ok.value (h x (by simp [Op.operands]))
  | assign x =>
    rw [ho] at h
    have e : execOp ρ o = Pure.pure (.value (ρ x)) := by unfold execOp; rw [ho]
    rw [e]; exact Ok.value (h x (by simp [Op.operands]))
  | pick c a b =>
    rw [ho] at h
    have e : execOp ρ o = (do Pure.pure (.value (if ← asBool (ρ c) then ρ a else ρ b))) := by unfold execOp; rw [ho]
    rw [e]
    have hc := h c (by simp [Op.operands])
    have ha := h a (by simp [Op.operands])
    have hb := h b (by simp [Op.operands])
    dsimp only
    revert hc
    generalize opv g c = x
    generalize ρ c = x'
    intro hc
    cases hc with
    | bool t =>
      dsimp only [asBool]
      refine Ok.bindPure ?_
      cases t
      · exact Ok.value hb
      · exact Ok.value ha
    | _ => exact Ok.none
  | binOp op t x y yt =>
    rw [ho] at h
    have e : ∀ ρ, execOp ρ o = (do Pure.pure (.value (← (do Go.eqGuard op t x y (ρ x) (ρ y); Go.binOp op t (ρ x) (ρ y))))) := fun ρ => by unfold execOp; rw [ho]
    dsimp only
    split
    · rename_i hfit
      rw [e, e]
      have hx := h x (by simp [Op.operands])
      have hy := h y (by simp [Op.operands])
      refine Ok.genG (simG ?_) H
      exact (Sim.eqGuard op t x y hx hy).bind fun ι1 _ _ hs _ => Sim.binOp op t (hx.mono hs) (hy.mono hs) hfit
    · exact Ok.none
  | unOp op t x =>
    rw [ho] at h
    have e : ∀ ρ, execOp ρ o = (do Pure.pure (.value (← Op.unary op (ρ x)))) := fun ρ => by unfold execOp; rw [ho]
    dsimp only
    rw [e, e]
    split
    · rename_i hfl
      exact Ok.genG (simG (Sim.unary op (h x (by simp [Op.operands])) hfl)) H
    · exact Ok.none
  | convert src dst x =>
    rw [ho] at h
    have e : ∀ ρ, execOp ρ o = (do Pure.pure (.value (← Go.convert src dst (ρ x)))) := fun ρ => by unfold execOp; rw [ho]
    dsimp only
    split
    · rename_i hc
      simp only [Bool.and_eq_true] at hc
      rw [e, e]
      refine Ok.gen (simV (Sim.convert src dst (h x (by simp [Op.operands])) ?_ ?_)) H
      · have h1 := hc.1
        unfold isIntT at h1
        split at h1
        · exact ⟨_, by assumption⟩
        · simp at h1
      · have h2 := hc.2
        unfold isIntV at h2
        split at h2
        · exact ⟨_, _, by assumption⟩
        · simp at h2
    · exact Ok.none
  | alloc t =>
    have e : ∀ ρ, execOp ρ o = (do Pure.pure (.value (← Instr.alloc t true (.tuple #[])))) := fun ρ => by unfold execOp; rw [ho]
    dsimp only
    split
    · rename_i ht
      rw [e, e]
      exact Ok.gen (simV (Sim.alloc hE.zero t ht)) H
    · exact Ok.none
  | box t x =>
    rw [ho] at h
    have e : ∀ ρ, execOp ρ o = (do Pure.pure (.value (← Instr.box t (ρ x)))) := fun ρ => by unfold execOp; rw [ho]
    dsimp only
    rw [e, e]
    exact Ok.gen (simV (Sim.box t (h x (by simp [Op.operands])))) H
  | build t ps =>
    rw [ho] at h
    have e : ∀ ρ : Operand → Value, execOp ρ o = (do Pure.pure (.value (← Instr.build t (ps.map fun p => (p.1, ρ p.2))))) := fun ρ => by unfold execOp; rw [ho]
    dsimp only
    split
    · rename_i ht
      rw [e, e]
      refine Ok.gen (simV (Sim.build hE.zero t ht ?_)) H
      have := partsRel (ι := ι) (g := g) (ρ := ρ) ps.toList fun x hx => h x (by simpa [Op.operands] using hx)
      simpa using this
    · exact Ok.none
  | buildSlice t n ps =>
    rw [ho] at h
    have e : ∀ ρ : Operand → Value, execOp ρ o = (do Pure.pure (.value (← Instr.buildSlice t n (ps.map fun p => (p.1, ρ p.2))))) := fun ρ => by unfold execOp; rw [ho]
    dsimp only
    split
    · rename_i ht
      rw [e, e]
      refine Ok.gen (simV (Sim.buildSlice hE.zero t (elemSmall_ok ht) n ?_)) H
      have := partsRel (ι := ι) (g := g) (ρ := ρ) ps.toList fun x hx => h x (by simpa [Op.operands] using hx)
      simpa using this
    · exact Ok.none
  | load t x =>
    rw [ho] at h
    have e : ∀ ρ, execOp ρ o = (do Pure.pure (.value (← Instr.loadAt t (ρ x)))) := fun ρ => by unfold execOp; rw [ho]
    dsimp only
    rw [e, e]
    exact Ok.gen (simV (Sim.loadAt t (h x (by simp [Op.operands])))) H
  | store t x y =>
    rw [ho] at h
    have e : ∀ ρ, execOp ρ o = (do Instr.storeAt t (ρ x) (ρ y); Pure.pure .skip) := fun ρ => by unfold execOp; rw [ho]
    dsimp only
    rw [e, e]
    exact Ok.gen (simU (Sim.storeAt t (h x (by simp [Op.operands])) (h y (by simp [Op.operands])))) H
  | makeInterface t x =>
    rw [ho] at h
    have e : ∀ ρ, execOp ρ o = (do Pure.pure (.value (← Instr.makeInterface t (ρ x)))) := fun ρ => by unfold execOp; rw [ho]
    dsimp only
    rw [e, e]
    exact Ok.gen (simV (Sim.makeInterface t (h x (by simp [Op.operands])))) H
  | makeFunc fn first cap =>
    rw [ho] at h
    have e : ∀ ρ, execOp ρ o = (do Pure.pure (.value (← Instr.makeFunc fn (first.map ρ) (cap.map ρ)))) := fun ρ => by unfold execOp; rw [ho]
    dsimp only
    rw [e, e]
    exact Ok.gen (simV (Sim.makeFunc fn (argsRel fun x hx => h x (by simp [Op.operands, hx])) (argsRel fun x hx => h x (by simp [Op.operands, hx])))) H
  | fieldAddr t x f =>
    rw [ho] at h
    have e : ∀ ρ, execOp ρ o = (do Pure.pure (.value (← Instr.fieldAt t (ρ x) f))) := fun ρ => by unfold execOp; rw [ho]
    dsimp only
    rw [e, e]
    exact Ok.gen (simV (Sim.fieldAt t (h x (by simp [Op.operands])) f)) H
  | field t x f =>
    rw [ho] at h
    have e : ∀ ρ, execOp ρ o = (do Pure.pure (.value (← Instr.field t (ρ x) f))) := fun ρ => by unfold execOp; rw [ho]
    dsimp only
    rw [e, e]
    exact Ok.gen (simV (Sim.field t (h x (by simp [Op.operands])) f)) H
  | indexAddr t x i =>
    rw [ho] at h
    have e : ∀ ρ, execOp ρ o = (do Pure.pure (.value (← Instr.indexAt t (ρ x) (ρ i)))) := fun ρ => by unfold execOp; rw [ho]
    dsimp only
    rw [e, e]
    exact Ok.gen (simV (Sim.indexAt t (h x (by simp [Op.operands])) (h i (by simp [Op.operands])))) H
  | index t x i =>
    rw [ho] at h
    have e : ∀ ρ, execOp ρ o = (do Pure.pure (.value (← Instr.index t (ρ x) (ρ i)))) := fun ρ => by unfold execOp; rw [ho]
    dsimp only
    rw [e, e]
    exact Ok.gen (simV (Sim.index t (h x (by simp [Op.operands])) (h i (by simp [Op.operands])))) H
  | extract x ix =>
    rw [ho] at h
    have e : ∀ ρ, execOp ρ o = (do Pure.pure (.value (← Instr.extract (ρ x) ix))) := fun ρ => by unfold execOp; rw [ho]
    dsimp only
    rw [e, e]
    exact Ok.gen (simV (Sim.extract (h x (by simp [Op.operands])) ix)) H
  | nilCheck x =>
    rw [ho] at h
    have hx := h x (by simp [Op.operands])
    unfold execOp
    rw [ho]
    dsimp only
    revert hx
    generalize opv g x = y
    generalize ρ x = y'
    intro hx
    cases hx with
    | ptr h => exact Ok.value (.ptr h)
    | iface t h => exact Ok.value (.iface t h)
    | func fn h1 h2 h3 h4 =>
      rename_i xs ys us vs
      cases fn with
      | func k => exact Ok.value (.func (.func k) h1 h2 h3 h4)
      | method name =>
        unfold nilV
        dsimp only
        cases hf : (xs[0]? : Option Value) with
        | none => exact Ok.none
        | some z =>
          obtain ⟨z', hz', hz⟩ := ARel.get? (xs := xs) (ys := ys) ⟨h1, h2⟩ hf
          rw [hz']
          cases hz with
          | iface t hw =>
            cases hw with
            | ptr hp =>
              rename_i a i
              dsimp only
              cases hr : arunP P (Go.nilAhead (P.types.size + Made.depth) t (.pointer (some a)) name) with
              | none => exact Ok.none
              | some r =>
                cases r with
                | none => exact Ok.none
                | some b =>
                  cases b with
                  | true => exact Ok.none
                  | false =>
                    intro n H' hn w hw
                    simp only [Option.some.injEq, Prod.mk.injEq] at hn
                    obtain ⟨rfl, rfl⟩ := hn
                    refine ⟨ι, .value (.func (.method name) ys vs), w, ?_, Ext.refl _ _, hw, VRel.func (.method name) h1 h2 h3 h4⟩
                    rw [Sem.run_bind]
                    show ((Go.nilAhead (P.types.size + Made.depth) t _ name) >>= _ : Sem _).run P w = _
                    rw [Sem.run_bind, nilAhead_ptr _ _ _ a, arunP_run _ _ hr w]
                    rfl
            | _ => exact Ok.none
          | _ => exact Ok.none
      | _ => exact Ok.none
    | _ => exact Ok.none
  | makeSlice t l c =>
    rw [ho] at h
    have e : execOp ρ o = (do Pure.pure (.value (← Instr.makeSlice t (ρ l) (ρ c)))) := by unfold execOp; rw [ho]
    dsimp only
    rw [e]
    exact Ok.valH fun v H' hr w hw => amake_ok hE.zero (h l (by simp [Op.operands])) (h c (by simp [Op.operands])) hr hw
  | slice t x lo hi mx =>
    rw [ho] at h
    have e : ∀ ρ, execOp ρ o = (do Pure.pure (.value (← Instr.sliceAt t (ρ x) (lo.map ρ) (hi.map ρ) (mx.map ρ)))) := fun ρ => by unfold execOp; rw [ho]
    have ol : ∀ y : Option Operand, (∀ z, y = some z → VRel ι (opv g z) (ρ z)) → ORel ι (y.map (opv g)) (y.map ρ) := fun y hy => by
      cases y with
      | none => exact trivial
      | some z => exact hy z rfl
    have h1 := ol lo fun z hz => h z (by simp [Op.operands, hz])
    have h2 := ol hi fun z hz => h z (by simp [Op.operands, hz])
    have h3 := ol mx fun z hz => h z (by simp [Op.operands, hz])
    have hx := h x (by simp [Op.operands])
    dsimp only
    split
    · rename_i a len cap hxa
      rw [e]
      rw [hxa] at hx
      exact Ok.valS fun v hr w hw => acut_ok hx h1 h2 h3 hr hw
    · rename_i hno
      rw [e, e]
      exact Ok.gen (simV (Sim.sliceAt t hx (fun a l c hh => hno a l c hh) h1 h2 h3)) H
  | makeMap t r =>
    rw [ho] at h
    have e : ∀ ρ, execOp ρ o = (do Pure.pure (.value (← Instr.makeMap t (r.map ρ)))) := fun ρ => by unfold execOp; rw [ho]
    dsimp only
    rw [e, e]
    refine Ok.gen (simV (Sim.makeMap t ?_)) H
    cases r with
    | none => exact trivial
    | some z => exact h z (by simp [Op.operands])
  | lookup t m k ok =>
    rw [ho] at h
    have e : execOp ρ o = (do Pure.pure (.value (← Instr.lookup t (ρ m) (ρ k) ok))) := by unfold execOp; rw [ho]
    dsimp only
    rw [e]
    exact Ok.valS fun v hr w hw => alookup_ok hE.zero (h m (by simp [Op.operands])) (h k (by simp [Op.operands])) hr hw
  | mapUpdate t m k x =>
    rw [ho] at h
    have e : execOp ρ o = (do Instr.mapUpdate t (ρ m) (ρ k) (ρ x); Pure.pure .skip) := by unfold execOp; rw [ho]
    dsimp only
    rw [e]
    exact Ok.upd fun H' hr w hw => aupdate_ok (h m (by simp [Op.operands])) (h k (by simp [Op.operands])) (h x (by simp [Op.operands])) hr hw
  | insert t m k x =>
    rw [ho] at h
    have e : execOp ρ o = (do Instr.mapUpdate t (ρ m) (ρ k) (ρ x); Pure.pure .skip) := by unfold execOp; rw [ho]
    dsimp only
    rw [e]
    exact Ok.upd fun H' hr w hw => aupdate_ok (h m (by simp [Op.operands])) (h k (by simp [Op.operands])) (h x (by simp [Op.operands])) hr hw
  | call c =>
    rw [ho] at h
    exact Ok.acall hE ho (fun x hx => h x (by simpa [Op.operands] using hx)) H
  | _ => exact Ok.none

end Go.Ev
