/-
  Regions whose order is drawn, of reads with one operation that comes last: all orders come to the same. Conditions: EnvOk; no code stands for other code.
-/
import Derived.Test.YtmokhbchncjcbaaTkI
namespace Go.Ev
open Go.Conc
set_option linter.unusedSectionVars false
/-- Two values are the same. -/
def veqC (a b : Value) : Bool := match chanN a, chanN b with
  | some n, some m => Nat.beq n m
  | none, none => veq a b
  | _, _ => false
theorem veqC_ok [Syms] {a b : Value} (h : veqC a b = true) : a = b := by
  unfold veqC at h
  split at h
  · rename_i n m h1 h2
    have : n = m := by simpa using h
    subst this
    have key : ∀ {v : Value} {n : Nat}, chanN v = some n → v = .complex .f32 n 0 := by
      intro v n hv
      unfold chanN at hv
      split at hv
      · simp only [Option.some.injEq] at hv; subst hv; rfl
      · simp at hv
    rw [key h1, key h2]
  · exact veq_ok h
  · simp at h
def oeq : Option Value → Option Value → Bool
  | some a, some b => veqC a b
  | none, none => true
  | _, _ => false
theorem oeq_ok [Syms] {a b : Option Value} (h : oeq a b = true) : a = b := by
  unfold oeq at h
  split at h
  · rw [veqC_ok h]
  · rfl
  · simp at h
noncomputable def teq (t : T Value) : T Value → Bool :=
  T.rec (motive := fun _ => T Value → Bool) (fun u => match u with | .leaf => true | _ => false) (fun v _ _ fl fr u => match u with | .leaf => false | .node v' l' r' => oeq v v' && (fl l' && fr r')) t
theorem teq_ok [Syms] : ∀ {t u : T Value}, teq t u = true → t = u := by
  intro t
  induction t with
  | leaf => intro u h; cases u with
    | leaf => rfl
    | node v l r => simp [teq] at h
  | node v l r il ir => intro u h; cases u with
    | leaf => simp [teq] at h
    | node v' l' r' =>
      have h : (oeq v v' && (teq l l' && teq r r')) = true := h
      rw [Bool.and_eq_true, Bool.and_eq_true] at h
      rw [oeq_ok h.1, il h.2.1, ir h.2.2]
noncomputable def aeq (A B : Fr) : Bool := Nat.beq A.size B.size && (teq A.m B.m && (A.opn == B.opn))
theorem aeq_ok [Syms] {A B : Fr} (h : aeq A B = true) : A = B := by
  obtain ⟨s, m, o⟩ := A
  obtain ⟨s', m', o'⟩ := B
  simp only [aeq, Bool.and_eq_true, beq_iff_eq] at h
  obtain ⟨h1, h2, h3⟩ := h
  have : s = s' := by simpa using h1
  rw [this, teq_ok h2, h3]
variable [Syms] {P : Program} [NoFloat P] {ι : Inj} {H : Heap} {ft : Nat → Option Func} {main : Bool}
/-- A reader's answer; the heap stays. -/
theorem aexecN_read {g : Nat → Value} {o : Oper} {v : Value} (h : rexecN P ft g o H = some v) : aexecN P ft g o H = some (.value v, H) := by
  letI : Marks := noMarks
  letI : Orc P := anyOrc P
  have hG := rexec_okG h
  unfold aexecN
  cases hf : fast P ft g o H with
  | none => exact hG
  | some r =>
    have := fast_ok hf
    rw [hG] at this
    exact this.symm
/-- A reader of a region's. -/
noncomputable def readA (P : Program) [NoFloat P] (ft : Nat → Option Func) (f : AFrame) (H : Heap) : Option AFrame := match f.todo with
  | .inRegion ops (i :: _) :: _ => match ops[i]? with
    | some o => cond (Region.wanted o (yieldA ops f.A) && tkOp o) (match rexecN P ft f.A.get o H with
      | some v => finA f v
      | none => none) none
    | none => none
  | _ => none
theorem readA_step {f f' : AFrame} {cs : List AFrame} (hm : f.mode = .run) (h : readA P ft f H = some f') : stepA P ft (f, cs) H = some ((f', cs), H) := by
  unfold readA at h
  split at h
  · rename_i ops i r k ht
    split at h
    · rename_i o ho
      cases hc : (Region.wanted o (yieldA ops f.A) && tkOp o) with
      | false => rw [hc] at h; simp at h
      | true =>
        rw [hc, cond_true] at h
        rw [Bool.and_eq_true] at hc
        split at h
        · rename_i v he
          simp only [stepA, hm, runA, ht, ho, hc.1, cond_true, operA, hc.2, aexecN_read he, h]
        · simp at h
    · simp at h
  · simp at h
theorem finA_eq {f f' : AFrame} {v : Value} {ops : Array Oper} {i : Nat} {r : List Nat} {k : List Item} (ht : f.todo = .inRegion ops (i :: r) :: k) (h : finA f v = some f') : f' = { f with A := f'.A, todo := .inRegion ops r :: k } := by
  unfold finA at h
  rw [ht] at h
  dsimp only at h
  split at h
  · simp only [Option.some.injEq] at h
    subst h
    rfl
  · simp at h
noncomputable def readsA (P : Program) [NoFloat P] (ft : Nat → Option Func) (H : Heap) : Nat → AFrame → Option AFrame
  | 0, f => some f
  | n + 1, f => match readA P ft f H with
    | some f' => readsA P ft H n f'
    | none => none
theorem readA_eq {f f' : AFrame} {ops : Array Oper} {σ : List Nat} {k : List Item} (ht : f.todo = .inRegion ops σ :: k) (h : readA P ft f H = some f') : f' = { f with A := f'.A, todo := .inRegion ops (σ.drop 1) :: k } := by
  unfold readA at h
  rw [ht] at h
  cases σ with
  | nil => simp at h
  | cons i r =>
    simp only at h
    split at h
    · rename_i o ho
      cases hc : (Region.wanted o (yieldA ops f.A) && tkOp o) with
      | false => rw [hc] at h; simp at h
      | true =>
        rw [hc, cond_true] at h
        split at h
        · exact finA_eq ht h
        · simp at h
    · simp at h
theorem readsA_ok : ∀ (n : Nat) (f f' : AFrame) (ops : Array Oper) (σ : List Nat) (k : List Item) (cs : List AFrame), f.mode = .run → f.todo = .inRegion ops σ :: k → readsA P ft H n f = some f' → stepsA P ft n (f, cs) H = some ((f', cs), H) ∧ f' = { f with A := f'.A, todo := .inRegion ops (σ.drop n) :: k }
  | 0, f, f', ops, σ, k, cs, hm, ht, h => by
    simp only [readsA, Option.some.injEq] at h
    subst h
    exact ⟨rfl, by rw [List.drop_zero, ← ht]⟩
  | n + 1, f, f', ops, σ, k, cs, hm, ht, h => by
    simp only [readsA] at h
    split at h
    · rename_i f1 h1
      have e1 := readA_eq ht h1
      obtain ⟨i1, i2⟩ := readsA_ok n f1 f' ops (σ.drop 1) k cs (by rw [e1]; exact hm) (by rw [e1]) h
      refine ⟨?_, ?_⟩
      · simp only [stepsA, readA_step hm h1]
        exact i1
      · rw [i2, e1]
        simp
    · simp at h
/-- All orders come to the same, ahead of the last operation. -/
noncomputable def joins (P : Program) [NoFloat P] (ft : Nat → Option Func) (H : Heap) (f : AFrame) (ops : Array Oper) (k : List Item) (n last : Nat) (A : Fr) : Bool :=
  (ordersOf ops).all fun σ => (match σ.drop n with | [x] => Nat.beq x last | _ => false) && (match readsA P ft H n { f with todo := .inRegion ops σ :: k } with
    | some x => aeq x.A A
    | none => false)
theorem joins_ok {f : AFrame} {ops : Array Oper} {k : List Item} {n last : Nat} {A : Fr} (hm : f.mode = .run) (h : joins P ft H f ops k n last A = true) (cs : List AFrame) : ∀ σ ∈ ordersOf ops, stepsA P ft n ({ f with todo := .inRegion ops σ :: k }, cs) H = some (({ f with A := A, todo := .inRegion ops [last] :: k }, cs), H) := by
  intro σ hσ
  unfold joins at h
  rw [List.all_eq_true] at h
  have := h σ hσ
  rw [Bool.and_eq_true] at this
  obtain ⟨h1, h2⟩ := this
  split at h1
  · rename_i x hd
    have hx : x = last := by simpa using h1
    subst hx
    split at h2
    · rename_i y hy
      obtain ⟨i1, i2⟩ := readsA_ok n { f with todo := .inRegion ops σ :: k } y ops σ k cs hm rfl hy
      rw [i1, i2, hd, aeq_ok h2]
    · simp at h2
  · simp at h1
/-- A DRAWN REGION, up to its last operation. -/
theorem goes_join (hE : @EnvOk noMarks P ft) {M : Nat} {Inv : Inj → Heap → World → Prop} {D : World → World → Array Event → Prop} (hD : Lets P M Inv D) (hM : H.next ≤ M) {Stop : Goroutine → World → Prop} {n last : Nat} {A : Fr} {f : AFrame} {cs : List AFrame} {id : Nat} {ops : Array Oper} {k : List Item}
    (hm : f.mode = .run) (ht : f.todo = .code (.region id ops true) :: k) (hj : joins P ft H f ops k n last A = true) {a : Goroutine} {w : World} (hw : Rel P ι H w) (hg : GRel P ι (f, cs) a) (hi : Inv ι H w)
    (hS : ∀ ι' a' w', Sub ι ι' → Rel P ι' H w' → GRel P ι' ({ f with A := A, todo := .inRegion ops [last] :: k }, cs) a' → Inv ι' H w' → Stop a' w') : Goes P main AtRel D Stop (n + 1) a w :=
  goes_draw hE hD hM hm ht hw hg hi fun σ hσ a' w' hw' hg' hi' => goes_steps hE hD n _ H _ H (joins_ok hm hj cs σ hσ) hM ι a' w' hw' hg' hi' hS
end Go.Ev
