/-
  The evaluator: frames, operations in their row, code, calls; and that what it answers is what the model does. Conditions: what is said of the program (EnvOk), and of each function's code (its constants hold no address).
-/
import Derived.Test.YtmeppoihgfdgaaaDoorEvV
import Derived.Tactics
import Derived.LoopN
import Derived.Scope
import Derived.Orders
namespace Go.Ev
set_option linter.unusedSectionVars false      -- the symbols' class stands for all texts
variable [Syms] {P : Program} [NoFloat P] [Marks] [Orc P] {ι : Inj}

/-! ### Frames -/
structure Fr where
  size : Nat
  m : T Value
  /-- May some be unknown? -/
  opn : Bool := false
/-- What is unknown, and is not looked at. -/
def isP : Value → Bool | .complex .. => true | _ => false
noncomputable def Fr.get (A : Fr) (t : Nat) : Value := (A.m.get t).getD undf
/-- A value, handed on when its head is there. -/
noncomputable def headV {β : Type} (v : Value) (k : Value → β) : β :=
  match v with
  | .bool b => cond b (k (.bool true)) (k (.bool false))
  | .int i n => k (.int i n)
  | .pointer a => k (.pointer a)
  | .slice a l c => k (.slice a l c)
  | .agg cs => k (.agg cs)
  | v => k v
theorem headV_eq {β : Type} (v : Value) (k : Value → β) : headV v k = k v := by
  cases v with
  | bool b => cases b <;> rfl
  | _ => rfl
noncomputable def Fr.put (A : Fr) (d : Option Tmp) (v : Value) : Option Fr :=
  match A, d with
  | ⟨s, m, o⟩, some d => cond (Nat.ble (Nat.succ d) s) (headV v fun v' => m.setK d (some v') fun m' => some ⟨s, m', o⟩) none
  | ⟨s, m, o⟩, none => some ⟨s, m, o⟩
theorem Fr.put_none (A : Fr) (v : Value) : A.put none v = some A := by cases A; rfl
theorem Fr.put_some (A : Fr) (d : Tmp) (v : Value) : A.put (some d) v = if d < A.size then some { A with m := A.m.set d (some v) } else none := by
  cases A with
  | mk s m o =>
    show cond (Nat.ble (Nat.succ d) s) (headV v fun v' => m.setK d (some v') fun m' => some (Fr.mk s m' o)) none = _
    by_cases h : d < s
    · rw [if_pos h, Nat.ble_eq_true_of_le h, cond_true, headV_eq, T.setK_eq]
    · rw [if_neg h]
      have : Nat.ble (Nat.succ d) s = false := by
        cases hb : Nat.ble (Nat.succ d) s with
        | true => exact absurd (Nat.le_of_ble_eq_true hb) h
        | false => rfl
      rw [this, cond_false]

def PRelV (ι : Inj) (o : Bool) (v v' : Value) : Prop := (o = true ∧ isP v = true) ∨ VRel ι v v'
theorem PRelV.mono {ι ι' : Inj} (hs : Sub ι ι') {o : Bool} {v v' : Value} (h : PRelV ι o v v') : PRelV ι' o v v' := h.imp id (·.mono hs)
theorem PRelV.known {o : Bool} {v v' : Value} (h : PRelV ι o v v') (hk : o = false ∨ isP v = false) : VRel ι v v' := by
  rcases h with ⟨h1, h2⟩ | h
  · rcases hk with hk | hk
    · rw [hk] at h1; simp at h1
    · rw [hk] at h2; simp at h2
  · exact h
def FRel (ι : Inj) (A : Fr) (a : Array Value) : Prop := a.size = A.size ∧ ∀ t, PRelV ι A.opn (A.get t) (a.getD t undf)
theorem FRel.mono {ι ι' : Inj} (hs : Sub ι ι') {A : Fr} {a : Array Value} (h : FRel ι A a) : FRel ι' A a := ⟨h.1, fun t => (h.2 t).mono hs⟩
/-- Is what an operation looks at known? -/
noncomputable def lookOk (ops : Array Oper) (A : Fr) (o : Oper) : Bool := cond A.opn ((o.looksAt ops).all fun t => !isP (A.get t)) true
theorem lookOk_ok {ops : Array Oper} {A : Fr} {o : Oper} (h : lookOk ops A o = true) {t : Tmp} (ht : t ∈ o.looksAt ops) : A.opn = false ∨ isP (A.get t) = false := by
  unfold lookOk at h
  cases ho : A.opn with
  | false => exact .inl rfl
  | true =>
    rw [ho, cond_true, List.all_eq_true] at h
    exact .inr (by simpa using h t ht)
noncomputable def resOk (fn : Func) (A : Fr) : Bool := cond A.opn (fn.results.toList.all fun r => match r with | .tmp t => !isP (A.get t) | .cell t _ => !isP (A.get t)) true
theorem FRel.put {A A' : Fr} {a : Act} (h : FRel ι A a.tmps) {d : Option Tmp} {v v' : Value} (hv : VRel ι v v') (hp : A.put d v = some A') : FRel ι A' (a.put d v').tmps := by
  cases d with
  | none =>
    simp only [Fr.put_none, Option.some.injEq] at hp
    subst hp
    exact h
  | some d =>
    simp only [Fr.put_some] at hp
    by_cases hd : d < A.size
    · rw [if_pos hd] at hp
      simp only [Option.some.injEq] at hp
      subst hp
      refine ⟨by simpa [Act.put] using h.1, fun t => ?_⟩
      show PRelV ι A.opn (((A.m.set d (some v)).get t).getD undf) ((a.tmps.setIfInBounds d v').getD t undf)
      rw [T.get_set]
      by_cases ht : t = d
      · subst ht
        rw [if_pos rfl]
        have : (a.tmps.setIfInBounds t v').getD t undf = v' := by simp [h.1, hd]
        rw [this]; exact .inr hv
      · rw [if_neg ht]
        have : (a.tmps.setIfInBounds d v').getD t undf = a.tmps.getD t undf := by simp [show ¬ d = t from fun e => ht e.symm]
        rw [this]; exact h.2 t
    · rw [if_neg hd] at hp; simp at hp
theorem put_defers (a : Act) (d : Option Tmp) (v : Value) : (a.put d v).defers = a.defers := by cases d <;> rfl

noncomputable def Fr.enter (fn : Func) (args : Array Value) : Fr := { size := args.size + (fn.ntmps - args.size), m := T.ofL args.toList 0 .leaf }
theorem FRel.enter {fn : Func} {as as' : Array Value} (h : ARel ι as as') : FRel ι (Fr.enter fn as) (as' ++ Array.replicate (fn.ntmps - as'.size) undef) := by
  refine ⟨by simp [Fr.enter, h.1], fun t => ?_⟩
  unfold Fr.enter Fr.get
  simp only [T.get_ofL]
  by_cases ht : t < as.size
  · rw [if_pos (by simp; omega)]
    have e : (as' ++ Array.replicate (fn.ntmps - as'.size) undef).getD t undf = as'.getD t undf := by
      have := h.1
      simp [Array.getElem?_append, show t < as'.size by omega]
    rw [e]
    have := h.2 t ht
    exact .inr (by simpa using this)
  · rw [if_neg (by simp; omega)]
    have e : (as' ++ Array.replicate (fn.ntmps - as'.size) undef).getD t undf = undf := by
      have := h.1
      simp only [Array.getD_eq_getD_getElem?, Array.getElem?_append, show ¬ t < as'.size by omega, if_false, Array.getElem?_replicate]
      split <;> rfl
    rw [e]
    exact .inr VRel.undf

theorem opv_rel {H : Heap} {w : World} (hw : Rel P ι H w) {A : Fr} {a : Act} (hA : FRel ι A a.tmps) {x : Operand} (hx : fineX P.globals.size x = true) (hp : ∀ t, x = .tmp t → A.opn = false ∨ isP (A.get t) = false) : VRel ι (opv A.get x) (a.eval x) := by
  cases x with
  | tmp t => exact (hA.2 t).known (hp t rfl)
  | const v => exact ground_rel hx
  | global n =>
    have hn : n < P.globals.size := by simpa [fineX] using hx
    obtain ⟨i, h1, h2, h3⟩ := hw.glob n (by rw [hw.gsize]; exact hn)
    have := AddrRel.ptr (ι := ι) (a := ⟨n, 0, none⟩) (a' := ⟨n, 0, none⟩) ⟨i, h1, by simp [h2, h3]⟩
    exact this
  | func f => exact .func _ rfl (fun k hk => by simp at hk) rfl (fun k hk => by simp at hk)

/-- A truth that is not known: not to be had by a run. -/
def symB (c : Nat) : Option Bool := match Syms.val c with | some (.bool b) => some b | _ => none
noncomputable def yieldA (ops : Array Oper) (A : Fr) (j : Nat) : Option Bool :=
  match (ops[j]?).bind (·.dst) with
  | some d => if d < A.size then (match A.get d with | .bool b => some b | .float .f64 c => symB c | _ => none) else none
  | none => none

theorem yieldA_at {A : Fr} {a : Array Value} (hs : a.size = A.size) (ops : Array Oper) (j : Nat) (h : ∀ d, (ops[j]?).bind (·.dst) = some d → VRel ι (A.get d) (a.getD d undf)) : yieldA ops A j = yielded ops a j := by
  unfold yieldA yielded
  cases hj : (ops[j]?).bind (·.dst) with
  | none => rfl
  | some d =>
    dsimp only [Option.bind_some]
    by_cases hd : d < A.size
    · rw [if_pos hd]
      have hd' : d < a.size := hs ▸ hd
      have e : a[d]? = some (a.getD d undf) := getD_eq _ _ _ hd'
      rw [e]
      have hv := h d hj
      revert hv
      generalize A.get d = x
      generalize a.getD d undf = y
      intro hv
      cases hv <;> first | rfl | skip
      · rename_i hs0
        dsimp only [symB]
        rw [hs0]
        rcases Syms.cases hs0 with ⟨_, _, rfl⟩ | ⟨_, rfl⟩ <;> rfl
      · rename_i hs0
        rcases Syms.refs hs0 with ⟨_, _, _, rfl⟩ | ⟨_, rfl⟩ <;> rfl
    · rw [if_neg hd]
      have : a[d]? = none := Array.getElem?_eq_none (by rw [hs]; exact Nat.le_of_not_lt hd)
      rw [this]
theorem wanted_eq {A : Fr} {a : Array Value} (h : FRel ι A a) (ops : Array Oper) (o : Oper) (hl : lookOk ops A o = true) : Region.wanted o (yieldA ops A) = Region.wanted o (yielded ops a) := by
  unfold Region.wanted
  cases hg : o.guard with
  | none => rfl
  | some gw =>
    obtain ⟨g, want⟩ := gw
    have : yieldA ops A g = yielded ops a g := yieldA_at h.1 ops g fun d hd => (h.2 d).known (lookOk_ok hl (List.mem_append_right _ (by simp [hg, hd])))
    dsimp only
    rw [this]

/-! ### Exits -/
inductive AExit where
  | normal
  | exit (id : Nat)
  | ret
def AExit.conv : AExit → Exit
  | .normal => .normal
  | .exit id => .exit id
  | .ret => .ret

def PostF (P : Program) (ι : Inj) (w : World) (v : Value) (H' : Heap) : Ending → World → Prop :=
  fun e w' => ∃ ι' v', e = .returned v' ∧ Ext P ι w ι' w' ∧ Rel P ι' H' w' ∧ VRel ι' v v'
def PostC (P : Program) (ι : Inj) (w : World) (a : Act) (e : AExit) (A' : Fr) (H' : Heap) : Exit → Act → World → Prop :=
  fun e' a' w' => ∃ ι', e' = e.conv ∧ Ext P ι w ι' w' ∧ Rel P ι' H' w' ∧ FRel ι' A' a'.tmps ∧ a'.defers = a.defers

/-- What is known of marked code. -/
class Lps (P : Program) where
  lk : Nat → Fr → Heap → Option (AExit × Fr × Heap)
def LpsOk (P : Program) [Syms] [Marks] [Lps P] : Prop :=
  ∀ n c A H e A' H', Marks.code n = some c → Lps.lk P n A H = some (e, A', H') → ∀ ι a w, Rel P ι H w → FRel ι A a.tmps → c.wp P (PostC P ι w a e A' H') a w
@[instance_reducible] def noLps (P : Program) : Lps P := ⟨fun _ _ _ => none⟩
theorem noLps_ok (P : Program) [Syms] [Marks] : @LpsOk P _ _ (noLps P) := fun _ _ _ _ _ _ _ _ h => by simp at h
variable [Lps P]

inductive Job where
  | fn (f : FuncId) (args : Array Value)
  | code (c : Code) (A : Fr)
  | loop (c : Code) (A : Fr)
inductive Out where
  | val (v : Value)
  | exit (e : AExit) (A : Fr)

abbrev Runner := Job → Heap → Option (Out × Heap)

/-- What a function hands back. -/
noncomputable def resA (fn : Func) (g : Nat → Value) : Sem (Array Value) := fn.results.mapM fun
  | .tmp t => Pure.pure (g t)
  | .cell a t => do Go.loadVar t (← Go.asAddr (g a))

section
variable (P) (ft : Nat → Option Func) (ih : Runner)

/-- One operation and what it hands on. -/
noncomputable def stepOp (o : Oper) (A : Fr) (H : Heap) : Option (Fr × Heap) :=
  match aexec P ft A.get o H with
  | some (.value v, H') => match A.put o.dst v with
    | some A' => some (A', H')
    | none => none
  | some (.skip, H') => match A.put o.dst undf with
    | some A' => some (A', H')
    | none => none
  | some (.enter f args, H') => match ih (.fn f args) H' with
    | some (.val v, H'') => match A.put o.dst v with
      | some A' => some (A', H'')
      | none => none
    | _ => none
  | none => none

noncomputable def runOps (ops : Array Oper) (l : List Oper) : Fr → Heap → Option (Fr × Heap) :=
  List.rec (motive := fun _ => Fr → Heap → Option (Fr × Heap)) (fun A H => some (A, H)) (fun o _ next A H => cond (lookOk ops A o)
    (cond (Region.wanted o (yieldA ops A))
      (match stepOp P ft ih o A H with
      | some (A', H') => next A' H'
      | none => none)
      (match A.put o.dst undf with
      | some A' => next A' H
      | none => none)) none) l
theorem runOps_nil (ops : Array Oper) (A : Fr) (H : Heap) : runOps P ft ih ops [] A H = some (A, H) := rfl
theorem runOps_cons (ops : Array Oper) (o : Oper) (rest : List Oper) (A : Fr) (H : Heap) : runOps P ft ih ops (o :: rest) A H =
    if lookOk ops A o then (if Region.wanted o (yieldA ops A) then
      match stepOp P ft ih o A H with
      | some (A', H') => runOps P ft ih ops rest A' H'
      | none => none
    else match A.put o.dst undf with
      | some A' => runOps P ft ih ops rest A' H
      | none => none) else none := by
  show cond (lookOk ops A o) (cond (Region.wanted o (yieldA ops A)) _ _) _ = _
  cases lookOk ops A o
  · rfl
  · cases Region.wanted o (yieldA ops A) <;> rfl

/-- What a step over code does: 'draw' is what regions that draw their order do. -/
noncomputable def stepRun (draw : Array Oper → Fr → Heap → Option (Fr × Heap)) : Runner
  | .fn f args, H =>
    match ft f with
    | none => none
    | some fn => match fn.body with
      | none => none
      | some c => match ih (.code c (Fr.enter fn args)) H with
          | some (.exit .normal A, H') | some (.exit .ret A, H') => cond (resOk fn A) (match arun P (resA fn A.get) H' with
            | some (vs, H'') => some (.val (if h : vs.size = 1 then vs[0] else .tuple vs), H'')
            | none => none) none
          | _ => none
  | .code .skip A, H | .code (.label _) A, H => some (.exit .normal A, H)
  | .code (.region _ ops d) A, H => match (if d then draw ops A H else runOps P ft ih ops ops.toList A H) with
    | some (A', H') => some (.exit .normal A', H')
    | none => none
  | .code (.seq a b) A, H => match ih (.code a A) H with
    | some (.exit .normal A', H') => ih (.code b A') H'
    | r => r
  | .code (.cond c a b) A, H => match opv A.get c with
    | .bool t => ih (.code (if t then a else b) A) H
    | _ => none
  | .code (.block id c) A, H => match ih (.code c A) H with
    | some (.exit (.exit id') A', H') => some (.exit (if id' = id then .normal else .exit id') A', H')
    | r => r
  | .code (.loop c) A, H => ih (.loop c A) H
  | .code (.scope c) A, H => ih (.code c A) H
  | .code (.exit id) A, H => some (.exit (.exit id) A, H)
  | .code .ret A, H => some (.exit .ret A, H)
  | .code (.rangeFunc (.tmp n) _ _ _) A, H => match Lps.lk P n A H with
    | some (e, A', H') => some (.exit e A', H')
    | none => none
  | .code _ _, _ => none
  | .loop c A, H => match ih (.code c A) H with
    | some (.exit .normal A', H') => ih (.loop c A') H'
    | r => r
end

/-! ### It is the model's -/
structure Good (P : Program) (ih : Runner) : Prop where
  fn : ∀ f args H v H', ih (.fn f args) H = some (.val v, H') → ∀ ι args' w, Rel P ι H w → ARel ι args args' → Calls P f args' w (PostF P ι w v H')
  code : ∀ c' A H e A' H', ih (.code c' A) H = some (.exit e A', H') → ∀ c, Ann c' c → fineC P.globals.size c = true → ∀ ι a w, Rel P ι H w → FRel ι A a.tmps → c.wp P (PostC P ι w a e A' H') a w
  loop : ∀ c' A H e A' H', ih (.loop c' A) H = some (.exit e A', H') → ∀ c, Ann c' c → fineC P.globals.size c = true → ∃ n, ∀ ι a w, Rel P ι H w → FRel ι A a.tmps → Code.rounds P c (PostC P ι w a e A' H') n a w
  noVal : ∀ c A H v H', ih (.code c A) H ≠ some (.val v, H')
  noValL : ∀ c A H v H', ih (.loop c A) H ≠ some (.val v, H')

theorem PostC.trans {P : Program} {ι ι1 : Inj} {w w1 : World} {a a1 : Act} {e : AExit} {A' : Fr} {H' : Heap} (hx : Ext P ι w ι1 w1) (hd : a1.defers = a.defers) {e' : Exit} {a' : Act} {w' : World}
    (h : PostC P ι1 w1 a1 e A' H' e' a' w') : PostC P ι w a e A' H' e' a' w' := by
  obtain ⟨ι', h1, h2, h3, h4, h5⟩ := h
  exact ⟨ι', h1, hx.trans h2, h3, h4, h5.trans hd⟩

variable {ft : Nat → Option Func} {ih : Runner}

/-- One operation. -/
theorem stepOp_ok (hE : EnvOk P ft) (hg : Good P ih) {o : Oper} {A A' : Fr} {H H' : Heap} (h : stepOp P ft ih o A H = some (A', H')) {ι : Inj} {a : Act} {w : World}
    (hw : Rel P ι H w) (hA : FRel ι A a.tmps) (hf : fineO P.globals.size o = true) {ops : Array Oper} (hl : lookOk ops A o = true) {K : Act → World → Prop} {Q : Exit → Act → World → Prop}
    (hK : ∀ ι' a' w', Ext P ι w ι' w' → Rel P ι' H' w' → FRel ι' A' a'.tmps → a'.defers = a.defers → K a' w') : o.wp P a w K Q := by
  have hops : ∀ x ∈ o.op.operands, VRel ι (opv A.get x) (a.eval x) := fun x hx => opv_rel hw hA (by
    unfold fineO at hf
    rw [Array.all_eq_true_iff_forall_mem] at hf
    exact hf x hx) fun t ht => lookOk_ok hl (List.mem_append_left _ (List.mem_filterMap.2 ⟨.tmp t, by simpa [ht] using hx, rfl⟩))
  unfold Oper.wp
  unfold stepOp at h
  cases hr : aexec P ft A.get o H with
  | none => rw [hr] at h; simp at h
  | some r =>
    obtain ⟨n, H1⟩ := r
    rw [hr] at h
    obtain ⟨ι1, n', w1, e1, x1, r1, q1⟩ := Ok.aexec hE hops H n H1 hr w hw
    rw [e1]
    cases n with
    | value v =>
      simp only at h
      cases hp : A.put o.dst v with
      | none => rw [hp] at h; simp at h
      | some A1 =>
        rw [hp] at h
        simp only [Option.some.injEq, Prod.mk.injEq] at h
        obtain ⟨rfl, rfl⟩ := h
        cases n' <;> first | exact q1.elim | skip
        exact hK ι1 _ w1 x1 r1 ((hA.mono x1.sub).put q1 hp) (put_defers _ _ _)
    | skip =>
      simp only at h
      cases hp : A.put o.dst undf with
      | none => rw [hp] at h; simp at h
      | some A1 =>
        rw [hp] at h
        simp only [Option.some.injEq, Prod.mk.injEq] at h
        obtain ⟨rfl, rfl⟩ := h
        cases n' <;> first | exact q1.elim | skip
        exact hK ι1 _ w1 x1 r1 ((hA.mono x1.sub).put VRel.undf hp) (put_defers _ _ _)
    | enter f args =>
      simp only at h
      cases hc : ih (.fn f args) H1 with
      | none => rw [hc] at h; simp at h
      | some r2 =>
        obtain ⟨out, H2⟩ := r2
        rw [hc] at h
        cases out with
        | exit e A => simp at h
        | val v =>
          simp only at h
          cases hp : A.put o.dst v with
          | none => rw [hp] at h; simp at h
          | some A1 =>
            rw [hp] at h
            simp only [Option.some.injEq, Prod.mk.injEq] at h
            obtain ⟨rfl, rfl⟩ := h
            cases n' <;> first | exact q1.elim | skip
            rename_i f' args'
            obtain ⟨rfl, q2⟩ := q1
            refine Calls.mono (hg.fn _ _ _ _ _ hc ι1 args' w1 r1 q2) fun e w2 he => ?_
            obtain ⟨ι2, v', rfl, x2, r2, hv⟩ := he
            exact hK ι2 _ w2 (x1.trans x2) r2 ((hA.mono (x1.sub.trans x2.sub)).put hv hp) (put_defers _ _ _)

theorem runOps_ok (hE : EnvOk P ft) (hg : Good P ih) {ops : Array Oper} {Q : Exit → Act → World → Prop} : ∀ (l : List Oper) (A A' : Fr) (H H' : Heap), runOps P ft ih ops l A H = some (A', H') →
    (∀ o ∈ l, fineO P.globals.size o = true) → ∀ (ι : Inj) (a : Act) (w : World), Rel P ι H w → FRel ι A a.tmps →
    (∀ ι' a' w', Ext P ι w ι' w' → Rel P ι' H' w' → FRel ι' A' a'.tmps → a'.defers = a.defers → Q .normal a' w') → wpList P ops Q l a w
  | [], A, A', H, H', h, _, ι, a, w, hw, hA, hQ => by
    simp only [runOps_nil, Option.some.injEq, Prod.mk.injEq] at h
    obtain ⟨rfl, rfl⟩ := h
    exact hQ ι a w (Ext.refl _ _) hw hA rfl
  | o :: l, A, A', H, H', h, hf, ι, a, w, hw, hA, hQ => by
    rw [runOps_cons] at h
    unfold wpList
    by_cases hl : lookOk ops A o = true
    case neg => rw [if_neg hl] at h; simp at h
    rw [if_pos hl, wanted_eq hA ops o hl] at h
    by_cases hwt : Region.wanted o (yielded ops a.tmps) = true
    · rw [if_pos hwt] at h ⊢
      cases hs : stepOp P ft ih o A H with
      | none => rw [hs] at h; simp at h
      | some r =>
        obtain ⟨A1, H1⟩ := r
        rw [hs] at h
        refine .inl (stepOp_ok hE hg hs hw hA (hf o (by simp)) hl fun ι1 a1 w1 x1 r1 f1 d1 => ?_)
        exact runOps_ok hE hg l A1 A' H1 H' h (fun o ho => hf o (by simp [ho])) ι1 a1 w1 r1 f1 fun ι2 a2 w2 x2 r2 f2 d2 => hQ ι2 a2 w2 (x1.trans x2) r2 f2 (d2.trans d1)
    · rw [if_neg hwt] at h ⊢
      cases hp : A.put o.dst undf with
      | none => rw [hp] at h; simp at h
      | some A1 =>
        rw [hp] at h
        refine runOps_ok hE hg l A1 A' H H' h (fun o ho => hf o (by simp [ho])) ι _ w hw (hA.put VRel.undf hp) fun ι2 a2 w2 x2 r2 f2 d2 => hQ ι2 a2 w2 x2 r2 f2 (d2.trans (put_defers _ _ _))

/-- What is asked of the regions that draw their order. -/
def DrawOk (P : Program) (draw : Array Oper → Fr → Heap → Option (Fr × Heap)) : Prop :=
  ∀ ops id A A' H H', draw ops A H = some (A', H') → ops.all (fineO P.globals.size) = true → ∀ ι a w, Rel P ι H w → FRel ι A a.tmps →
    (Code.region id ops true).wp P (PostC P ι w a .normal A' H') a w

theorem Sim.mapL {α : Type} {f g : α → Sem Value} : ∀ (l : List α) (ι : Inj), (∀ a ι', a ∈ l → Sub ι ι' → Sim P ι' VRel (f a) (g a)) → Sim P ι (fun ι' a b => LRel ι' a b) (l.mapM f) (l.mapM g)
  | [], ι, _ => by simpa using Sim.pure ⟨rfl, fun k hk => by simp at hk⟩
  | x :: xs, ι, h => by
    rw [List.mapM_cons, List.mapM_cons]
    refine (h x ι List.mem_cons_self (Sub.refl _)).bind fun ι1 v v' hs hv => ?_
    refine (Sim.mapL xs ι1 fun a ι' ha hs' => h a ι' (List.mem_cons_of_mem _ ha) (hs.trans hs')).bind fun ι2 vs vs' hs2 hvs => ?_
    refine Sim.pure ⟨by simp [hvs.1], fun k hk => ?_⟩
    cases k with
    | zero => simpa using hv.mono hs2
    | succ k => simpa using hvs.2 k (by simpa using hk)

theorem results_eq (fn : Func) (a : Array Value) (w : World) : (results fn a).run P w = ((resA fn fun t => a.getD t undef).run P w).andThen fun vs w' => .ok (if h : vs.size = 1 then vs[0] else .tuple vs) w' := by
  unfold results
  rw [Sem.run_bind]
  rfl

theorem results_sim {fn : Func} {A : Fr} {ι : Inj} {a : Array Value} (hA : FRel ι A a) (hro : resOk fn A = true) : Sim P ι ARelR (resA fn A.get) (resA fn fun t => a.getD t undef) := by
  unfold resA
  rw [Array.mapM_eq_mapM_toList, Array.mapM_eq_mapM_toList]
  refine (Sim.mapL fn.results.toList ι fun r ι' hr hs => ?_).bind fun ι1 l l' hs hl => Sim.pure hl.array
  have hk : A.opn = false ∨ ∀ t, (∃ ty, r = .cell t ty) ∨ r = .tmp t → isP (A.get t) = false := by
    unfold resOk at hro
    cases ho : A.opn with
    | false => exact .inl rfl
    | true =>
      rw [ho, cond_true, List.all_eq_true] at hro
      refine .inr fun t ht => ?_
      have := hro r hr
      rcases ht with ⟨ty, rfl⟩ | rfl <;> simpa using this
  cases r with
  | tmp t => exact Sim.pure (((hA.2 t).known (hk.imp id fun h => h t (.inr rfl))).mono hs)
  | cell x t => exact (Sim.asAddr (((hA.2 x).known (hk.imp id fun h => h x (.inl ⟨t, rfl⟩))).mono hs)).bind fun _ _ _ _ ha => Sim.loadVar t ha
theorem results_ok {fn : Func} {A : Fr} {H H' : Heap} {vs : Array Value} (h : arun P (resA fn A.get) H = some (vs, H')) {ι : Inj} {a : Array Value} {w : World} (hw : Rel P ι H w) (hA : FRel ι A a) (hro : resOk fn A = true) :
    ∃ ι' v' w', (results fn a).run P w = .ok v' w' ∧ Ext P ι w ι' w' ∧ Rel P ι' H' w' ∧ VRel ι' (if h : vs.size = 1 then vs[0] else .tuple vs) v' := by
  have hs := results_sim (P := P) hA hro
  obtain ⟨ι1, vs', w1, e1, x1, r1, q1, _⟩ := hs _ _ _ h w hw
  refine ⟨ι1, if h : vs'.size = 1 then vs'[0] else .tuple vs', w1, ?_, x1, r1, ?_⟩
  · rw [results_eq, e1]
    rfl
  · have hsz : vs.size = vs'.size := q1.1
    by_cases h1 : vs.size = 1
    · rw [dif_pos h1, dif_pos (hsz ▸ h1)]
      have := q1.2 0 (by omega)
      have e1 : vs.getD 0 undf = vs[0] := by simp [h1]
      have e2 : vs'.getD 0 undf = vs'[0] := by simp [show 0 < vs'.size by omega]
      rw [e1, e2] at this
      exact this
    · rw [dif_neg h1, dif_neg (hsz ▸ h1)]
      exact ARel.tuple q1

theorem rounds_mono {c : Code} {Q Q' : Exit → Act → World → Prop} (hq : ∀ e a w, Q e a w → Q' e a w) : ∀ (n : Nat) (a : Act) (w : World), Code.rounds P c Q n a w → Code.rounds P c Q' n a w
  | 0, _, _, h => h.elim
  | n + 1, a, w, h => wp_mono (c := c) h fun e a' w' hp => by
    cases e <;> first | exact rounds_mono hq n _ _ hp | exact hq _ _ _ hp

/-- What reads leaves the world. -/
def Keeps (P : Program) {α : Type} (s : Sem α) : Prop := ∀ w a w', s.run P w = .ok a w' → w' = w
theorem Keeps.bind {α β : Type} {s : Sem α} {f : α → Sem β} (h : Keeps P s) (hf : ∀ a, Keeps P (f a)) : Keeps P (s >>= f) := by
  intro w b w' hr
  rw [Sem.run_bind] at hr
  cases h1 : s.run P w with
  | halt x w1 => rw [h1] at hr; simp at hr
  | ok a w1 =>
    rw [h1] at hr
    have := h _ _ _ h1
    subst this
    exact hf a _ _ _ hr
theorem Keeps.pure {α : Type} (a : α) : Keeps P (Pure.pure a : Sem α) := by
  intro w b w' hr
  simp at hr
  exact hr.2.symm
theorem Keeps.halt {α : Type} (x : Halt) : Keeps P (Sem.halt x : Sem α) := by
  intro w b w' hr
  simp at hr
theorem Keeps.load (a : Addr) (m : Mode) : Keeps P (Go.load a m) := by
  intro w b w' hr
  rw [run_load] at hr
  split at hr
  · simp at hr; exact hr.2.symm
  · split at hr
    · simp at hr; exact hr.2.symm
    · simp at hr
theorem Keeps.program : Keeps P Go.program := by
  intro w b w' hr
  simp at hr
  exact hr.2.symm
theorem Keeps.underlying (t : TypeId) : Keeps P (Go.underlying t) := by
  unfold Go.underlying
  refine Keeps.program.bind fun p => ?_
  split
  · exact Keeps.pure _
  · exact Keeps.halt _
theorem Keeps.sizeOf (t : TypeId) : Keeps P (Go.sizeOf t) := by
  unfold Go.sizeOf Go.typeInfo
  refine Keeps.bind (Keeps.program.bind fun p => ?_) fun _ => Keeps.pure _
  split
  · exact Keeps.pure _
  · exact Keeps.halt _
theorem Keeps.isAgg (t : TypeId) : Keeps P (Go.isAgg t) := by
  unfold Go.isAgg
  refine (Keeps.underlying t).bind fun p => ?_
  split <;> exact Keeps.pure _
theorem Keeps.loadCellsFrom (a : Addr) : ∀ (n i : Nat) (acc : Array Value), Keeps P (Go.loadCellsFrom a i n acc)
  | 0, _, _ => Keeps.pure _
  | n + 1, i, acc => by
    unfold Go.loadCellsFrom
    exact (Keeps.load _ _).bind fun _ => Keeps.loadCellsFrom a n _ _
theorem Keeps.loadVar (t : TypeId) (a : Addr) : Keeps P (Go.loadVar t a) := by
  unfold Go.loadVar
  refine (Keeps.isAgg t).bind fun b => ?_
  split
  · exact (Keeps.sizeOf t).bind fun n => Keeps.bind (Keeps.loadCellsFrom _ _ _ _) fun _ => Keeps.pure _
  · exact Keeps.load _ _
theorem Keeps.mapL {α β : Type} {f : α → Sem β} (h : ∀ a, Keeps P (f a)) : ∀ l : List α, Keeps P (l.mapM f)
  | [] => by simpa using Keeps.pure (P := P) ([] : List β)
  | x :: xs => by
    rw [List.mapM_cons]
    exact (h x).bind fun _ => (Keeps.mapL h xs).bind fun _ => Keeps.pure _
theorem Keeps.asAddr (v : Value) : Keeps P (Go.asAddr v) := by
  unfold Go.asAddr
  split
  · exact Keeps.pure _
  · unfold Go.runtimePanic
    exact Keeps.program.bind fun _ => Keeps.halt _
  · exact Keeps.halt _
theorem results_same (fn : Func) (a : Array Value) (w : World) (v : Value) (w' : World) (h : (results fn a).run P w = .ok v w') : w' = w := by
  have hk : Keeps P (resA fn fun t => a.getD t undef) := by
    unfold resA
    rw [Array.mapM_eq_mapM_toList]
    refine Keeps.bind (Keeps.mapL (fun r => ?_) _) fun _ => Keeps.pure _
    cases r with
    | tmp t => exact Keeps.pure _
    | cell x t => exact (Keeps.asAddr _).bind fun _ => Keeps.loadVar _ _
  rw [results_eq] at h
  cases hr : (resA fn fun t => a.getD t undef).run P w with
  | halt x w1 => rw [hr] at h; simp at h
  | ok vs w1 =>
    rw [hr] at h
    simp at h
    rw [← h.2]
    exact hk _ _ _ hr

theorem wp_loop_of {c : Code} {Q : Exit → Act → World → Prop} {a : Act} {w : World} (h : ∃ n, Code.rounds P c Q n a w) : (Code.loop c).wp P Q a w :=
  let ⟨n, h⟩ := h
  wp_loop_rounds n h

theorem Ann.skip_inv {c : Code} (h : Ann .skip c) : c = .skip := by cases h; rfl
theorem Ann.label_inv {l : Nat} {c : Code} (h : Ann (.label l) c) : c = .label l := by cases h; rfl
theorem Ann.exit_inv {l : Nat} {c : Code} (h : Ann (.exit l) c) : c = .exit l := by cases h; rfl
theorem Ann.ret_inv {c : Code} (h : Ann .ret c) : c = .ret := by cases h; rfl
theorem Ann.region_inv {id : Nat} {ops : Array Oper} {d : Bool} {c : Code} (h : Ann (.region id ops d) c) : c = .region id ops d := by cases h; rfl
theorem Ann.seq_inv {a b c : Code} (h : Ann (.seq a b) c) : ∃ a0 b0, c = .seq a0 b0 ∧ Ann a a0 ∧ Ann b b0 := by
  cases h with
  | same => exact ⟨_, _, rfl, .same _, .same _⟩
  | seq h1 h2 => exact ⟨_, _, rfl, h1, h2⟩
theorem Ann.cond_inv {x : Operand} {a b c : Code} (h : Ann (.cond x a b) c) : ∃ a0 b0, c = .cond x a0 b0 ∧ Ann a a0 ∧ Ann b b0 := by
  cases h with
  | same => exact ⟨_, _, rfl, .same _, .same _⟩
  | cond h1 h2 => exact ⟨_, _, rfl, h1, h2⟩
theorem Ann.block_inv {id : Nat} {a c : Code} (h : Ann (.block id a) c) : ∃ a0, c = .block id a0 ∧ Ann a a0 := by
  cases h with
  | same => exact ⟨_, rfl, .same _⟩
  | block h1 => exact ⟨_, rfl, h1⟩
theorem Ann.loop_inv {a c : Code} (h : Ann (.loop a) c) : ∃ a0, c = .loop a0 ∧ Ann a a0 := by
  cases h with
  | same => exact ⟨_, rfl, .same _⟩
  | loop h1 => exact ⟨_, rfl, h1⟩
theorem Ann.scope_inv {a c : Code} (h : Ann (.scope a) c) : ∃ a0, c = .scope a0 ∧ Ann a a0 := by
  cases h with
  | same => exact ⟨_, rfl, .same _⟩
  | scope h1 => exact ⟨_, rfl, h1⟩

theorem Good.step (hE : EnvOk P ft) (hL : LpsOk P) (hg : Good P ih) {draw : Array Oper → Fr → Heap → Option (Fr × Heap)} (hd : DrawOk P draw) : Good P (stepRun P ft ih draw) := by
  constructor
  · -- a call
    intro f args H v H' h ι args' w hw ha
    simp only [stepRun] at h
    cases hf : ft f with
    | none => rw [hf] at h; simp at h
    | some fn =>
      rw [hf] at h
      simp only at h
      obtain ⟨fo, c, c', h1, h2, h3, h3', hann, hfine, hnt, hres0⟩ := hE.fn f fn hf
      rw [h3'] at h
      have e1 : Fr.enter fn args = Fr.enter fo args := by unfold Fr.enter; rw [hnt]
      have e2 : ∀ g, resA fn g = resA fo g := fun g => by unfold resA; rw [hres0]
      have e3 : ∀ A, resOk fn A = resOk fo A := fun A => by unfold resOk; rw [hres0]
      simp only [e1, e2, e3] at h
      · refine calls_of_wp h1 h3 ?_
        cases hc : ih (.code c' (Fr.enter fo args)) H with
        | none => rw [hc] at h; simp at h
        | some r =>
          obtain ⟨out, H1⟩ := r
          rw [hc] at h
          cases out with
          | val v => simp at h
          | exit e A =>
            have hwp := hg.code _ _ _ _ _ _ hc c hann hfine ι { tmps := args' ++ Array.replicate (fo.ntmps - args'.size) undef, defers := [] } w hw (FRel.enter ha)
            refine wp_mono hwp fun e' a' w' hpost => ?_
            obtain ⟨ι1, rfl, x1, r1, f1, d1⟩ := hpost
            have fin : ∀ (h : cond (resOk fo A) (match arun P (resA fo A.get) H1 with
              | some (vs, H'') => some (Out.val (if h : vs.size = 1 then vs[0] else .tuple vs), H'')
              | none => none) none = some (Out.val v, H')), ∃ v', (results fo a'.tmps).run P w' = .ok v' w' ∧ PostF P ι w v H' (.returned v') w' := by
              intro h
              cases hro : resOk fo A with
              | false => rw [hro] at h; simp at h
              | true =>
              rw [hro, cond_true] at h
              cases hres : arun P (resA fo A.get) H1 with
              | none => rw [hres] at h; simp at h
              | some r =>
                obtain ⟨vs, H2⟩ := r
                rw [hres] at h
                simp only [Option.some.injEq, Prod.mk.injEq, Out.val.injEq] at h
                obtain ⟨rfl, rfl⟩ := h
                obtain ⟨ι2, v', w2, q1, q2, q3, q4⟩ := results_ok hres r1 f1 hro
                have hww := results_same fo a'.tmps w' v' w2 q1
                subst hww
                exact ⟨v', q1, ι2, v', rfl, x1.trans q2, q3, q4⟩
            cases e with
            | normal => obtain ⟨v', q1, q2⟩ := fin h; exact ⟨d1, v', q1, q2⟩
            | ret => obtain ⟨v', q1, q2⟩ := fin h; exact ⟨d1, v', q1, q2⟩
            | exit id => simp at h
  · -- code
    intro c1 A H e A' H' h c hann hf ι a w hw hA
    cases c1 with
    | skip =>
      obtain rfl := hann.skip_inv
      simp only [stepRun, Option.some.injEq, Prod.mk.injEq, Out.exit.injEq] at h
      obtain ⟨⟨rfl, rfl⟩, rfl⟩ := h
      exact wp_skip ⟨ι, rfl, Ext.refl _ _, hw, hA, rfl⟩
    | label l =>
      obtain rfl := hann.label_inv
      simp only [stepRun, Option.some.injEq, Prod.mk.injEq, Out.exit.injEq] at h
      obtain ⟨⟨rfl, rfl⟩, rfl⟩ := h
      exact wp_label ⟨ι, rfl, Ext.refl _ _, hw, hA, rfl⟩
    | region id ops d =>
      obtain rfl := hann.region_inv
      simp only [stepRun] at h
      cases d with
      | true =>
        simp only [if_true] at h
        cases hr : draw ops A H with
        | none => rw [hr] at h; simp at h
        | some r =>
          obtain ⟨A1, H1⟩ := r
          rw [hr] at h
          simp only [Option.some.injEq, Prod.mk.injEq, Out.exit.injEq] at h
          obtain ⟨⟨rfl, rfl⟩, rfl⟩ := h
          exact hd ops id A A1 H H1 hr (by simpa [fineC] using hf) ι a w hw hA
      | false =>
        simp only [Bool.false_eq_true, if_false] at h
        cases hr : runOps P ft ih ops ops.toList A H with
        | none => rw [hr] at h; simp at h
        | some r =>
          obtain ⟨A1, H1⟩ := r
          rw [hr] at h
          simp only [Option.some.injEq, Prod.mk.injEq, Out.exit.injEq] at h
          obtain ⟨⟨rfl, rfl⟩, rfl⟩ := h
          refine wp_region_list (runOps_ok hE hg ops.toList A A1 H H1 hr ?_ ι a w hw hA fun ι1 a1 w1 x1 r1 f1 d1 => ⟨ι1, rfl, x1, r1, f1, d1⟩)
          intro o ho
          have := hf
          unfold fineC at this
          rw [Array.all_eq_true_iff_forall_mem] at this
          exact this o (by simpa using ho)
    | seq x y =>
      obtain ⟨x0, y0, rfl, an1, an2⟩ := hann.seq_inv
      simp only [fineC, Bool.and_eq_true] at hf
      simp only [stepRun] at h
      refine wp_seq ?_
      cases hx : ih (.code x A) H with
      | none => rw [hx] at h; simp at h
      | some r =>
        obtain ⟨out, H1⟩ := r
        cases out with
        | val v => exact absurd hx (hg.noVal _ _ _ _ _)
        | exit e1 A1 =>
          rw [hx] at h
          refine wp_mono (hg.code _ _ _ _ _ _ hx x0 an1 hf.1 ι a w hw hA) fun e' a' w' hpost => ?_
          obtain ⟨ι1, rfl, x1, r1, f1, d1⟩ := hpost
          cases e1 with
          | normal =>
            simp only at h
            exact wp_mono (hg.code _ _ _ _ _ _ h y0 an2 hf.2 ι1 a' w' r1 f1) fun _ _ _ hp => hp.trans x1 d1
          | exit id =>
            simp only [Option.some.injEq, Prod.mk.injEq, Out.exit.injEq] at h
            obtain ⟨⟨rfl, rfl⟩, rfl⟩ := h
            exact ⟨ι1, rfl, x1, r1, f1, d1⟩
          | ret =>
            simp only [Option.some.injEq, Prod.mk.injEq, Out.exit.injEq] at h
            obtain ⟨⟨rfl, rfl⟩, rfl⟩ := h
            exact ⟨ι1, rfl, x1, r1, f1, d1⟩
    | cond c x y =>
      obtain ⟨x0, y0, rfl, an1, an2⟩ := hann.cond_inv
      simp only [fineC, Bool.and_eq_true] at hf
      simp only [stepRun] at h
      have hp : ∀ t, c = .tmp t → A.opn = false ∨ isP (A.get t) = false := by
        intro t ht
        subst ht
        right
        have e : opv A.get (.tmp t) = A.get t := rfl
        rw [e] at h
        cases hq : A.get t <;> rw [hq] at h <;> first | rfl | simp at h
      have hc := opv_rel hw hA hf.1.1 hp
      revert hc h
      generalize opv A.get c = u
      generalize hu : a.eval c = u'
      intro h hc
      cases hc with
      | bool t =>
        simp only at h
        refine wp_cond hu ?_
        cases t
        · exact hg.code _ _ _ _ _ _ h y0 an2 hf.2 ι a w hw hA
        · exact hg.code _ _ _ _ _ _ h x0 an1 hf.1.2 ι a w hw hA
      | _ => simp at h
    | block id c =>
      obtain ⟨c0, rfl, an⟩ := hann.block_inv
      simp only [fineC] at hf
      simp only [stepRun] at h
      refine wp_block ?_
      cases hx : ih (.code c A) H with
      | none => rw [hx] at h; simp at h
      | some r =>
        obtain ⟨out, H1⟩ := r
        cases out with
        | val v => exact absurd hx (hg.noVal _ _ _ _ _)
        | exit e1 A1 =>
          rw [hx] at h
          refine wp_mono (hg.code _ _ _ _ _ _ hx c0 an hf ι a w hw hA) fun e' a' w' hpost => ?_
          obtain ⟨ι1, rfl, x1, r1, f1, d1⟩ := hpost
          cases e1 with
          | normal =>
            simp only [Option.some.injEq, Prod.mk.injEq, Out.exit.injEq] at h
            obtain ⟨⟨rfl, rfl⟩, rfl⟩ := h
            exact ⟨ι1, rfl, x1, r1, f1, d1⟩
          | exit id' =>
            simp only [Option.some.injEq, Prod.mk.injEq, Out.exit.injEq] at h
            obtain ⟨⟨rfl, rfl⟩, rfl⟩ := h
            by_cases hid : id' = id
            · subst hid
              simp only [AExit.conv, Exit.inBlock, if_true]
              exact ⟨ι1, rfl, x1, r1, f1, d1⟩
            · simp only [AExit.conv, Exit.inBlock, hid, if_false]
              exact ⟨ι1, rfl, x1, r1, f1, d1⟩
          | ret =>
            simp only [Option.some.injEq, Prod.mk.injEq, Out.exit.injEq] at h
            obtain ⟨⟨rfl, rfl⟩, rfl⟩ := h
            exact ⟨ι1, rfl, x1, r1, f1, d1⟩
    | loop c =>
      obtain ⟨c0, rfl, an⟩ := hann.loop_inv
      simp only [fineC] at hf
      simp only [stepRun] at h
      obtain ⟨n, hn⟩ := hg.loop _ _ _ _ _ _ h c0 an hf
      exact wp_loop_rounds n (hn ι a w hw hA)
    | scope c =>
      obtain ⟨c0, rfl, an⟩ := hann.scope_inv
      simp only [fineC] at hf
      simp only [stepRun] at h
      refine wp_scope_straight (wp_mono (hg.code _ _ _ _ _ _ h c0 an hf ι a w hw hA) fun e' a' w' hpost => ?_)
      obtain ⟨ι1, rfl, x1, r1, f1, d1⟩ := hpost
      cases e <;> exact ⟨ι1, rfl, x1, r1, f1, d1⟩
    | exit id =>
      obtain rfl := hann.exit_inv
      simp only [stepRun, Option.some.injEq, Prod.mk.injEq, Out.exit.injEq] at h
      obtain ⟨⟨rfl, rfl⟩, rfl⟩ := h
      exact wp_exit ⟨ι, rfl, Ext.refl _ _, hw, hA, rfl⟩
    | ret =>
      obtain rfl := hann.ret_inv
      simp only [stepRun, Option.some.injEq, Prod.mk.injEq, Out.exit.injEq] at h
      obtain ⟨⟨rfl, rfl⟩, rfl⟩ := h
      exact wp_ret ⟨ι, rfl, Ext.refl _ _, hw, hA, rfl⟩
    | goto l => simp [stepRun] at h
    | rangeFunc f ps x y =>
      cases hann with
      | same => simp [fineC] at hf
      | @mark n _ hm =>
        simp only [stepRun] at h
        cases hk : Lps.lk P n A H with
        | none => rw [hk] at h; simp at h
        | some r =>
          obtain ⟨e1, A1, H1⟩ := r
          rw [hk] at h
          simp only [Option.some.injEq, Prod.mk.injEq, Out.exit.injEq] at h
          obtain ⟨⟨rfl, rfl⟩, rfl⟩ := h
          exact hL n c A H _ _ _ hm hk ι a w hw hA
    | refuse s => simp [stepRun] at h
  · -- a loop
    intro c1 A H e A' H' h c hann hf
    simp only [stepRun] at h
    cases hx : ih (.code c1 A) H with
    | none => rw [hx] at h; simp at h
    | some r =>
      obtain ⟨out, H1⟩ := r
      cases out with
      | val v => exact absurd hx (hg.noVal _ _ _ _ _)
      | exit e1 A1 =>
        rw [hx] at h
        cases e1 with
        | normal =>
          simp only at h
          obtain ⟨n, hn⟩ := hg.loop _ _ _ _ _ _ h c hann hf
          refine ⟨n + 1, fun ι a w hw hA => wp_mono (hg.code _ _ _ _ _ _ hx c hann hf ι a w hw hA) fun e' a' w' hpost => ?_⟩
          obtain ⟨ι1, rfl, x1, r1, f1, d1⟩ := hpost
          exact rounds_mono (fun _ _ _ hp => hp.trans x1 d1) n a' w' (hn ι1 a' w' r1 f1)
        | exit id =>
          simp only [Option.some.injEq, Prod.mk.injEq, Out.exit.injEq] at h
          obtain ⟨⟨rfl, rfl⟩, rfl⟩ := h
          refine ⟨1, fun ι a w hw hA => wp_mono (hg.code _ _ _ _ _ _ hx c hann hf ι a w hw hA) fun e' a' w' hpost => ?_⟩
          obtain ⟨ι1, rfl, x1, r1, f1, d1⟩ := hpost
          exact ⟨ι1, rfl, x1, r1, f1, d1⟩
        | ret =>
          simp only [Option.some.injEq, Prod.mk.injEq, Out.exit.injEq] at h
          obtain ⟨⟨rfl, rfl⟩, rfl⟩ := h
          refine ⟨1, fun ι a w hw hA => wp_mono (hg.code _ _ _ _ _ _ hx c hann hf ι a w hw hA) fun e' a' w' hpost => ?_⟩
          obtain ⟨ι1, rfl, x1, r1, f1, d1⟩ := hpost
          exact ⟨ι1, rfl, x1, r1, f1, d1⟩
  · intro c A H v H' h
    cases c with
    | region id ops d => simp only [stepRun] at h; split at h <;> simp at h
    | seq x y =>
      simp only [stepRun] at h
      cases hx : ih (.code x A) H with
      | none => rw [hx] at h; simp at h
      | some r =>
        obtain ⟨out, H1⟩ := r
        rw [hx] at h
        cases out with
        | val v => exact absurd hx (hg.noVal _ _ _ _ _)
        | exit e1 A1 =>
          cases e1 with
          | normal => exact hg.noVal _ _ _ _ _ h
          | _ => simp at h
    | cond c x y =>
      simp only [stepRun] at h
      split at h
      · exact hg.noVal _ _ _ _ _ h
      · simp at h
    | block id c =>
      simp only [stepRun] at h
      cases hx : ih (.code c A) H with
      | none => rw [hx] at h; simp at h
      | some r =>
        obtain ⟨out, H1⟩ := r
        rw [hx] at h
        cases out with
        | val v => exact absurd hx (hg.noVal _ _ _ _ _)
        | exit e1 A1 => cases e1 <;> simp at h
    | loop c => exact hg.noValL _ _ _ _ _ h
    | scope c => exact hg.noVal _ _ _ _ _ h
    | rangeFunc f ps x y =>
      cases f <;> simp only [stepRun] at h <;> first | (split at h <;> simp at h) | simp at h
    | _ => simp [stepRun] at h
  · intro c A H v H' h
    simp only [stepRun] at h
    cases hx : ih (.code c A) H with
    | none => rw [hx] at h; simp at h
    | some r =>
      obtain ⟨out, H1⟩ := r
      rw [hx] at h
      cases out with
      | val v => exact absurd hx (hg.noVal _ _ _ _ _)
      | exit e1 A1 =>
        cases e1 with
        | normal => exact hg.noValL _ _ _ _ _ h
        | _ => simp at h

end Go.Ev
