/-
  The evaluator: regions that draw their order: one run in the text's order, and a look that says that every other order comes to the same. Conditions: EnvOk.
-/
import Derived.Test.YtmeppoihgfdgaaaDoorEvH
import Derived.Orders
namespace Go.Ev
set_option linter.unusedSectionVars false      -- the symbols' class stands for all texts
variable [Syms] {P : Program} [NoFloat P] [Marks] [Orc P]

/-! ### Reading alone -/
/-- A run that only reads. -/
noncomputable def arunR (P : Program) {α : Type} : Sem α → Heap → Option α
  | .pure a, _ => some a
  | .load _ a k, H => match H.load a with
    | some v => arunR P (k v) H
    | none => none
  | .shape r k, H => match H.get r with
    | some (.cells c) => if c.opn then none else arunR P (k (some (c.elem, c.size))) H
    | _ => none
  | .frozen a k, H => match H.get a.block with
    | some _ => arunR P (k false) H
    | none => none
  | .getObj r k, H => match H.get r with
    | some (.map es clock) => arunR P (k (.map es clock)) H
    | _ => none
  | .program k, H => arunR P (k P) H
  | _, _ => none

theorem arunP_ok {α : Type} (s : Sem α) : ∀ a, arunP P s = some a → ∀ H, arun P s H = some (a, H) := by
  induction s with
  | pure x => intro a h H; simp [arunP] at h; subst h; rfl
  | program k ih => intro a h H; exact ih P a h H
  | _ => intro a h; simp [arunP] at h

theorem arunR_ok {α : Type} (s : Sem α) : ∀ a H, arunR P s H = some a → arun P s H = some (a, H) := by
  induction s with
  | pure x => intro a H h; simp [arunR] at h; subst h; rfl
  | program k ih => intro a H h; exact ih P a H h
  | load m x k ih =>
    intro a H h
    simp only [arunR] at h
    simp only [arun]
    split at h
    · rename_i v hv; rw [hv]; exact ih _ a H h
    · simp at h
  | shape r k ih =>
    intro a H h
    simp only [arunR] at h
    simp only [arun]
    split at h
    · rename_i c hc
      rw [hc]
      simp only
      split at h
      · simp at h
      · rename_i ho; rw [if_neg ho]; exact ih _ a H h
    · simp at h
  | frozen x k ih =>
    intro a H h
    simp only [arunR] at h
    simp only [arun]
    split at h
    · rename_i v hv; rw [hv]; exact ih _ a H h
    · simp at h
  | getObj r k ih =>
    intro a H h
    simp only [arunR] at h
    simp only [arun]
    split at h
    · rename_i es clock hc; rw [hc]; exact ih _ a H h
    · simp at h
  | _ => intro a H h; simp [arunR] at h

theorem arunP_R {α : Type} (s : Sem α) : ∀ a, arunP P s = some a → ∀ H, arunR P s H = some a := by
  induction s with
  | pure x => intro a h H; simp [arunP] at h; subst h; rfl
  | program k ih => intro a h H; exact ih P a h H
  | _ => intro a h; simp [arunP] at h
noncomputable def genR (P : Program) (s : Sem Next) (H : Heap) : Option Value :=
  match arunR P s H with
  | some (.value v) => some v
  | _ => none

/-- The operations that only read. -/
def reader (o : Oper) : Bool :=
  match o.op with
  | .move _ | .assign _ | .pick .. | .binOp .. | .unOp .. | .convert .. | .build .. | .load .. | .makeInterface .. | .makeFunc .. | .fieldAddr .. | .field .. | .indexAddr .. | .index .. | .extract .. | .nilCheck _ | .slice .. => true
  | .call { callee := .builtin .len, .. } => true
  | _ => false

/-- What such an operation answers. -/
noncomputable def rexecN (P : Program) (ft : Nat → Option Func) (g : Nat → Value) (o : Oper) (H : Heap) : Option Value :=
  match o.op with
  | .move _ | .assign _ | .pick .. => match aexecG P ft g o H with
    | some (.value v, _) => some v
    | _ => none
  | .nilCheck x => nilV P (opv g x)
  | .binOp op _ x y _ => if binFit op (opv g x) (opv g y) then (match genR P (execOp (opv g) o) H with | some v => if ground v then some v else none | none => none) else none
  | .unOp _ _ x => if noFl (opv g x) then (match genR P (execOp (opv g) o) H with | some v => if ground v then some v else none | none => none) else none
  | .convert _ dst x => if isIntT P dst && isIntV (opv g x) then genR P (execOp (opv g) o) H else none
  | .build t _ => if t < P.types.size then genR P (execOp (opv g) o) H else none
  | .load .. | .makeInterface .. | .makeFunc .. | .fieldAddr .. | .field .. | .indexAddr .. | .index .. | .extract .. => genR P (execOp (opv g) o) H
  | .slice t x lo hi mx => match opv g x with
    | .slice (some a) len cap => acut P t a len cap (lo.map (opv g)) (hi.map (opv g)) (mx.map (opv g)) H
    | _ => genR P (execOp (opv g) o) H
  | .call { callee := .builtin .len, .. } => genR P (execOp (opv g) o) H
  | _ => none

theorem genR_gen {s : Sem Next} {H : Heap} {v : Value} (h : genR P s H = some v) : gen P s H = some (.value v, H) := by
  unfold genR at h
  split at h
  · rename_i u hu
    simp only [Option.some.injEq] at h
    subst h
    unfold gen
    rw [arunR_ok _ _ _ hu]
  · simp at h
theorem genR_genG {s : Sem Next} {H : Heap} {v : Value} (h : (match genR P s H with | some v => if ground v then some v else none | none => none) = some v) : genG P s H = some (.value v, H) := by
  cases hr : genR P s H with
  | none => rw [hr] at h; simp at h
  | some u =>
    rw [hr] at h
    simp only at h
    split at h
    · rename_i hg
      simp only [Option.some.injEq] at h
      subst h
      unfold genR at hr
      split at hr
      · rename_i u' hu
        simp only [Option.some.injEq] at hr
        subst hr
        unfold genG
        rw [arunR_ok _ _ _ hu]
        simp only [hg, if_true]
      · simp at hr
    · simp at h

theorem rexec_okG {ft : Nat → Option Func} {g : Nat → Value} {o : Oper} {H : Heap} {v : Value} (h : rexecN P ft g o H = some v) : aexecG P ft g o H = some (.value v, H) := by
  unfold rexecN at h
  unfold aexecG at h ⊢
  cases ho : o.op with
  | move x => rw [ho] at h; simpa using h
  | assign x => rw [ho] at h; simpa using h
  | pick c a b =>
    rw [ho] at h
    simp only at h ⊢
    split at h
    · rename_i u H1 hu
      simp only [Option.some.injEq] at h
      subst h
      cases hc : opv g c <;> rw [hc] at hu <;> simp at hu
      simp only [Option.some.injEq, Prod.mk.injEq, ANext.value.injEq]
      exact ⟨hu.1, trivial⟩
    · simp at h
  | nilCheck x =>
    rw [ho] at h
    simp only at h ⊢
    rw [h]
  | binOp op t x y yt =>
    rw [ho] at h
    simp only at h ⊢
    split at h
    · rename_i hf
      rw [if_pos hf]
      exact genR_genG h
    · simp at h
  | unOp op t x =>
    rw [ho] at h
    simp only at h ⊢
    split at h
    · rename_i hf
      rw [if_pos hf]
      exact genR_genG h
    · simp at h
  | convert s d x =>
    rw [ho] at h
    simp only at h ⊢
    split at h
    · rename_i hf
      rw [if_pos hf]
      exact genR_gen h
    · simp at h
  | build t ps =>
    rw [ho] at h
    simp only at h ⊢
    split at h
    · rename_i hf
      rw [if_pos hf]
      exact genR_gen h
    · simp at h
  | load t x => rw [ho] at h; exact genR_gen h
  | makeInterface t x => rw [ho] at h; exact genR_gen h
  | makeFunc f x y => rw [ho] at h; exact genR_gen h
  | fieldAddr t x f => rw [ho] at h; exact genR_gen h
  | field t x f => rw [ho] at h; exact genR_gen h
  | indexAddr t x f => rw [ho] at h; exact genR_gen h
  | index t x f => rw [ho] at h; exact genR_gen h
  | extract t x => rw [ho] at h; exact genR_gen h
  | slice t x lo hi mx =>
    rw [ho] at h
    simp only at h ⊢
    split
    · rename_i a len cap hx
      rw [hx] at h
      simp only at h
      rw [h]
      rfl
    · rename_i hno
      split at h
      · rename_i a len cap hx
        exact absurd hx (hno a len cap)
      · exact genR_gen h
  | call c =>
    rw [ho] at h
    obtain ⟨callee, args, tys⟩ := c
    cases callee with
    | builtin b =>
      cases b with
      | len => exact genR_gen h
      | _ => simp at h
    | _ => simp at h
  | _ => rw [ho] at h; simp at h

def kindPure (o : Oper) : Bool :=
  match o.op with
  | .move _ | .assign _ | .binOp .. | .fieldAddr .. | .indexAddr .. | .convert .. => true
  | _ => false
def kindRead (o : Oper) : Bool :=
  match o.op with
  | .move _ | .assign _ | .binOp .. | .fieldAddr .. | .indexAddr .. | .convert .. | .load .. => true
  | _ => false
theorem fast_pure {ft : Nat → Option Func} {g : Nat → Value} {o : Oper} (hk : kindPure o = true) {H : Heap} {r : ANext × Heap} (h : fast P ft g o H = some r) :
    ∃ v, ∀ H2, fast P ft g o H2 = some (.value v, H2) := by
  unfold kindPure at hk
  unfold fast at h ⊢
  cases ho : o.op <;> rw [ho] at h hk <;> simp only [Bool.false_eq_true] at hk h ⊢
  case move x => exact ⟨_, fun _ => rfl⟩
  case assign x => exact ⟨_, fun _ => rfl⟩
  case binOp op t x y yt =>
    unfold fBin at h ⊢
    split at h
    · rename_i k a k' b hx hy
      obtain ⟨v, hv, rfl⟩ := valS_some h
      exact ⟨v, fun _ => by simp only [hv, valS]⟩
    · simp at h
  case fieldAddr t x f =>
    unfold fField at h ⊢
    split at h
    · split at h
      · rename_i n hn
        exact ⟨_, fun _ => rfl⟩
      · simp at h
    · simp at h
  case indexAddr t x i =>
    unfold fIndex at h ⊢
    split at h
    · split at h
      · rename_i s hs
        cases hc : (leI 0 _ && !leI _ _) with
        | false => rw [hc] at h; simp at h
        | true => exact ⟨_, fun _ => rfl⟩
      · simp at h
    · split at h
      · rename_i s hs
        cases hc : (leI 0 _ && !leI _ _) with
        | false => rw [hc] at h; simp at h
        | true => exact ⟨_, fun _ => rfl⟩
      · simp at h
    · simp at h
  case convert s d x =>
    unfold fConv at h ⊢
    split at h
    · split at h
      · rename_i k hk2
        cases hc : (P.underlying s).isSome with
        | false => rw [hc] at h; simp at h
        | true => exact ⟨_, fun _ => rfl⟩
      · simp at h
    · simp at h
theorem fast_keep {ft : Nat → Option Func} {g : Nat → Value} {o : Oper} (hk : kindRead o = true) {H : Heap} {r : ANext × Heap} (h : fast P ft g o H = some r) : ∃ v, r = (.value v, H) := by
  cases hp : kindPure o with
  | true =>
    obtain ⟨v, hv⟩ := fast_pure hp h
    rw [hv H] at h
    exact ⟨v, (Option.some.inj h).symm⟩
  | false =>
    unfold kindPure at hp
    unfold kindRead at hk
    unfold fast at h
    cases ho : o.op <;> rw [ho] at h hk hp <;> simp only [Bool.false_eq_true, Bool.true_eq_false] at hk hp h
    case load t x =>
      unfold fLoad at h
      split at h
      · cases hc : scalarT P t with
        | false => rw [hc] at h; simp at h
        | true =>
          rw [hc] at h
          obtain ⟨v, _, rfl⟩ := valS_some h
          exact ⟨v, rfl⟩
      · simp at h

noncomputable def valOf (r : Option (ANext × Heap)) : Option Value := match r with
  | some (.value v, _) => some v
  | _ => none
noncomputable def rexec (P : Program) [Orc P] (ft : Nat → Option Func) (g : Nat → Value) (o : Oper) (H : Heap) : Option Value :=
  match Orc.orc P o g with
  | some v => some v
  | none => cond (Orc.orcQ P o g) (Orc.orcR P o g H) (match (if kindRead o then valOf (fast P ft g o H) else none) with
    | some v => some v
    | none => rexecN P ft g o H)
theorem rexec_ok {ft : Nat → Option Func} {g : Nat → Value} {o : Oper} {H : Heap} {v : Value} (h : rexec P ft g o H = some v) : aexec P ft g o H = some (.value v, H) := by
  unfold rexec at h
  unfold aexec
  cases ho : Orc.orc P o g with
  | some u => rw [ho] at h; simp only [Option.some.injEq] at h; rw [h]
  | none =>
    rw [ho] at h
    simp only at h ⊢
    cases hq : Orc.orcQ P o g with
    | true =>
      rw [hq, cond_true] at h
      rw [cond_true, h]
    | false =>
      rw [hq, cond_false] at h
      rw [cond_false]
      refine aexecO_of ?_
      cases hk : kindRead o with
      | false => rw [hk] at h; exact aexecN_of (rexec_okG h)
      | true =>
        rw [hk] at h
        simp only [if_true] at h
        cases hf : fast P ft g o H with
        | none => rw [hf] at h; exact aexecN_of (rexec_okG h)
        | some r =>
          obtain ⟨u, rfl⟩ := fast_keep hk hf
          rw [hf] at h
          simp only [valOf, Option.some.injEq] at h
          subst h
          unfold aexecN
          rw [hf]

/-- The same, of those that read no memory. -/
noncomputable def pexecN (P : Program) (g : Nat → Value) (o : Oper) : Option Value :=
  match o.op with
  | .move x | .assign x => some (opv g x)
  | .nilCheck x => nilV P (opv g x)
  | .binOp op _ x y _ => if binFit op (opv g x) (opv g y) then (match arunP P (execOp (opv g) o) with | some (.value v) => if ground v then some v else none | _ => none) else none
  | .unOp _ _ x => if noFl (opv g x) then (match arunP P (execOp (opv g) o) with | some (.value v) => if ground v then some v else none | _ => none) else none
  | .convert _ dst x => if isIntT P dst && isIntV (opv g x) then (match arunP P (execOp (opv g) o) with | some (.value v) => some v | _ => none) else none
  | .build t _ => if t < P.types.size then (match arunP P (execOp (opv g) o) with | some (.value v) => some v | _ => none) else none
  | .makeInterface .. | .makeFunc .. | .fieldAddr .. | .field .. | .indexAddr .. | .index .. | .extract .. => match arunP P (execOp (opv g) o) with | some (.value v) => some v | _ => none
  | .slice _ x _ _ _ => match opv g x with
    | .slice (some _) _ _ => none
    | _ => match arunP P (execOp (opv g) o) with | some (.value v) => some v | _ => none
  | _ => none

theorem pgen {s : Sem Next} {v : Value} (h : (match arunP P s with | some (.value v) => some v | _ => none) = some v) (H : Heap) : genR P s H = some v := by
  split at h
  · rename_i u hu
    unfold genR
    rw [arunP_R _ _ hu]
    exact h
  · simp at h
theorem pgenG {s : Sem Next} {v : Value} (h : (match arunP P s with | some (.value v) => if ground v then some v else none | _ => none) = some v) (H : Heap) :
    (match genR P s H with | some v => if ground v then some v else none | none => none) = some v := by
  split at h
  · rename_i u hu
    unfold genR
    rw [arunP_R _ _ hu]
    exact h
  · simp at h

theorem pexecN_ok {ft : Nat → Option Func} {g : Nat → Value} {o : Oper} {v : Value} (h : pexecN P g o = some v) (H : Heap) : rexecN P ft g o H = some v := by
  unfold pexecN at h
  unfold rexecN
  cases ho : o.op with
  | move x => rw [ho] at h; unfold aexecG; rw [ho]; exact h
  | assign x => rw [ho] at h; unfold aexecG; rw [ho]; exact h
  | nilCheck x => rw [ho] at h; exact h
  | binOp op t x y yt =>
    rw [ho] at h
    simp only at h ⊢
    split at h
    · rename_i hf
      rw [if_pos hf]
      exact pgenG h H
    · simp at h
  | unOp op t x =>
    rw [ho] at h
    simp only at h ⊢
    split at h
    · rename_i hf
      rw [if_pos hf]
      exact pgenG h H
    · simp at h
  | convert s d x =>
    rw [ho] at h
    simp only at h ⊢
    split at h
    · rename_i hf
      rw [if_pos hf]
      exact pgen h H
    · simp at h
  | build t ps =>
    rw [ho] at h
    simp only at h ⊢
    split at h
    · rename_i hf
      rw [if_pos hf]
      exact pgen h H
    · simp at h
  | makeInterface t x => rw [ho] at h; exact pgen h H
  | makeFunc f x y => rw [ho] at h; exact pgen h H
  | fieldAddr t x f => rw [ho] at h; exact pgen h H
  | field t x f => rw [ho] at h; exact pgen h H
  | indexAddr t x f => rw [ho] at h; exact pgen h H
  | index t x f => rw [ho] at h; exact pgen h H
  | extract t x => rw [ho] at h; exact pgen h H
  | slice t x lo hi mx =>
    rw [ho] at h
    simp only at h ⊢
    cases hx : opv g x with
    | slice a len cap =>
      cases a with
      | none => rw [hx] at h; exact pgen h H
      | some a => rw [hx] at h; simp at h
    | _ => rw [hx] at h; exact pgen h H
  | _ => rw [ho] at h; simp at h

noncomputable def pexec (P : Program) [Orc P] (g : Nat → Value) (o : Oper) : Option Value :=
  match Orc.orc P o g with
  | some v => some v
  | none => cond (Orc.orcQ P o g) none (match (if kindPure o then valOf (fast P (fun _ => none) g o { base := 0, next := 0, m := .leaf }) else none) with
    | some v => some v
    | none => pexecN P g o)
theorem fast_ft {ft ft' : Nat → Option Func} {g : Nat → Value} {o : Oper} (hk : kindPure o = true) (H : Heap) : fast P ft g o H = fast P ft' g o H := by
  unfold kindPure at hk
  unfold fast
  cases ho : o.op <;> rw [ho] at hk <;> simp only [Bool.false_eq_true] at hk ⊢
theorem pexec_ok {ft : Nat → Option Func} {g : Nat → Value} {o : Oper} {v : Value} (h : pexec P g o = some v) (H : Heap) : rexec P ft g o H = some v := by
  unfold pexec at h
  unfold rexec
  cases ho : Orc.orc P o g with
  | some u => rw [ho] at h; exact h
  | none =>
    rw [ho] at h
    simp only at h ⊢
    cases hq : Orc.orcQ P o g with
    | true => rw [hq, cond_true] at h; simp at h
    | false =>
    rw [hq, cond_false] at h
    rw [cond_false]
    have hr : kindPure o = true → kindRead o = true := by
      unfold kindPure kindRead
      cases o.op <;> simp
    cases hk : kindPure o with
    | true =>
      rw [hk] at h
      simp only [if_true] at h
      rw [hr hk]
      simp only [if_true]
      cases hf : fast P (fun _ => none) g o { base := 0, next := 0, m := .leaf } with
      | some r =>
        obtain ⟨u, hu⟩ := fast_pure hk hf
        rw [fast_ft (ft' := fun _ => none) hk, hu H]
        rw [hu] at h
        exact h
      | none =>
        rw [hf] at h
        have h2 := pexecN_ok (ft := ft) h H
        cases hf2 : fast P ft g o H with
        | none => exact h2
        | some r =>
          obtain ⟨u, hu⟩ := fast_pure hk hf2
          rw [fast_ft (ft' := ft) hk, hu] at hf
          simp at hf
    | false =>
      rw [hk] at h
      have h2 := pexecN_ok (ft := ft) h H
      cases hk2 : kindRead o with
      | false => exact h2
      | true =>
        simp only [if_true]
        cases hf2 : fast P ft g o H with
        | none => exact h2
        | some r =>
          have h3 := fast_ok hf2
          rw [rexec_okG h2] at h3
          cases Option.some.inj h3
          exact rfl


/-! ### Two values that are the same -/
def veq1 : Value → Value → Bool
  | .bool a, .bool b => a == b
  | .int k a, .int j b => decide (k = j) && decide (a = b)
  | .float .f64 a, .float .f64 b => Nat.beq a b
  | .float .f32 a, .float .f32 b => Nat.beq a b
  | .pointer none, .pointer none => true
  | .pointer (some a), .pointer (some b) => decide (a = b)
  | .slice none l c, .slice none l' c' => Nat.beq l l' && Nat.beq c c'
  | .slice (some a) l c, .slice (some b) l' c' => decide (a = b) && Nat.beq l l' && Nat.beq c c'
  | .map none, .map none => true
  | .map (some a), .map (some b) => Nat.beq a b
  | .string a, .string b => decide (a = b)
  | .nilFunc, .nilFunc => true
  | .nilIface, .nilIface => true
  | .func (.func f) x y, .func (.func g) x' y' => Nat.beq f g && x.isEmpty && y.isEmpty && x'.isEmpty && y'.isEmpty
  | _, _ => false
def veq2 : Value → Value → Bool
  | .iface t v, .iface u w => Nat.beq t u && veq1 v w
  | a, b => veq1 a b
def veqL : List Value → List Value → Bool
  | [], [] => true
  | x :: xs, y :: ys => veq2 x y && veqL xs ys
  | _, _ => false
def veq : Value → Value → Bool
  | .agg x, .agg y => veqL x.toList y.toList
  | .tuple x, .tuple y => veqL x.toList y.toList
  | .iface t v, .iface u w => Nat.beq t u && veq1 v w
  | a, b => veq1 a b

theorem veq1_ok {a b : Value} (h : veq1 a b = true) : a = b := by
  unfold veq1 at h
  split at h <;> simp_all
theorem veq2_ok {a b : Value} (h : veq2 a b = true) : a = b := by
  unfold veq2 at h
  split at h
  · simp only [Bool.and_eq_true] at h
    rw [Nat.eq_of_beq_eq_true h.1, veq1_ok h.2]
  · exact veq1_ok h
theorem veqL_ok : ∀ {a b : List Value}, veqL a b = true → a = b
  | [], [], _ => rfl
  | x :: xs, y :: ys, h => by
    simp only [veqL, Bool.and_eq_true] at h
    rw [veq2_ok h.1, veqL_ok h.2]
  | [], _ :: _, h => by simp [veqL] at h
  | _ :: _, [], h => by simp [veqL] at h
theorem veq_ok {a b : Value} (h : veq a b = true) : a = b := by
  unfold veq at h
  split at h
  · rename_i x y
    have := veqL_ok h
    congr 1
    exact Array.toList_inj.1 this
  · rename_i x y
    have := veqL_ok h
    congr 1
    exact Array.toList_inj.1 this
  · rename_i t v u w
    simp only [Bool.and_eq_true] at h
    rw [Nat.eq_of_beq_eq_true h.1, veq1_ok h.2]
  · exact veq1_ok h

end Go.Ev
