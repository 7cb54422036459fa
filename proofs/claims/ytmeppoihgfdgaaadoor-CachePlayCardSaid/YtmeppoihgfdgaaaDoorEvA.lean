/-
  A small evaluator of one call, over a heap of its own, and what holds a world of the model against that heap. This text: the trie, the heap, the relation, the effects one by one. No condition.
-/
import GoSem.Dispatch
import Derived.Laws.Sem
import Derived.Laws.World
import Derived.Conc.Events
namespace Go.Ev
set_option linter.unusedSectionVars false      -- the symbols' class stands for all texts

/-! ### A trie by numbers -/
inductive T (α : Type) where
  | leaf
  | node (v : Option α) (l r : T α)

namespace T
variable {α : Type}
noncomputable def get (t : T α) : Nat → Option α :=
  T.rec (motive := fun _ => Nat → Option α) (fun _ => none) (fun v _ _ gl gr n => Bool.rec (motive := fun _ => Option α) (Bool.rec (motive := fun _ => Option α) (gr (Nat.pred (Nat.div n 2))) (gl (Nat.div n 2)) (Nat.beq (Nat.mod n 2) 1)) v (Nat.beq n 0)) t

theorem cond_beq {β : Type} (n m : Nat) (x y : β) : cond (Nat.beq n m) x y = if n = m then x else y := by
  by_cases h : n = m
  · subst h; simp
  · have : Nat.beq n m = false := by
      cases hb : Nat.beq n m with
      | true => exact absurd (Nat.eq_of_beq_eq_true hb) h
      | false => rfl
    rw [this, if_neg h]; rfl

theorem brec {β : Type} (b : Bool) (x y : β) : Bool.rec (motive := fun _ => β) y x b = cond b x y := by cases b <;> rfl

theorem get_leaf (n : Nat) : (T.leaf : T α).get n = none := rfl
theorem get_node (v : Option α) (l r : T α) (n : Nat) : (T.node v l r).get n = if n = 0 then v else if n % 2 = 1 then l.get (n / 2) else r.get (n / 2 - 1) := by
  show Bool.rec (motive := fun _ => Option α) (Bool.rec (motive := fun _ => Option α) (r.get (n / 2 - 1)) (l.get (n / 2)) (Nat.beq (n % 2) 1)) v (Nat.beq n 0) = _
  rw [brec, brec, cond_beq, cond_beq]

noncomputable def kid (v : Option α) (l r : T α) (n : Nat) (x : Option α) (ih : T α → Nat → Option α → T α) : T α :=
  Bool.rec (motive := fun _ => T α) (Bool.rec (motive := fun _ => T α) (.node v l (ih r (Nat.pred (Nat.div n 2)) x)) (.node v (ih l (Nat.div n 2) x) r) (Nat.beq (Nat.mod n 2) 1)) (.node x l r) (Nat.beq n 0)

noncomputable def setF (f : Nat) : T α → Nat → Option α → T α :=
  Nat.rec (motive := fun _ => T α → Nat → Option α → T α) (fun t _ _ => t)
    (fun _ ih t n x => T.rec (motive := fun _ => T α) (kid none .leaf .leaf n x ih) (fun v l r _ _ => kid v l r n x ih) t) f

theorem kid_eq (v : Option α) (l r : T α) (n : Nat) (x : Option α) (ih : T α → Nat → Option α → T α) :
    kid v l r n x ih = if n = 0 then .node x l r else if n % 2 = 1 then .node v (ih l (n / 2) x) r else .node v l (ih r (n / 2 - 1) x) := by
  show Bool.rec (motive := fun _ => T α) (Bool.rec (motive := fun _ => T α) (.node v l (ih r (n / 2 - 1) x)) (.node v (ih l (n / 2) x) r) (Nat.beq (n % 2) 1)) (.node x l r) (Nat.beq n 0) = _
  rw [brec, brec, cond_beq, cond_beq]

theorem get_setF (f : Nat) : ∀ (t : T α) (n : Nat) (x : Option α) (m : Nat), n < f → (setF f t n x).get m = if m = n then x else t.get m := by
  induction f with
  | zero => intro t n x m h; omega
  | succ f ih =>
    have key : ∀ (v : Option α) (l r : T α) (n : Nat) (x : Option α) (m : Nat), n < f + 1 → (kid v l r n x (setF f)).get m = if m = n then x else (T.node v l r).get m := by
      intro v l r n x m h
      rw [kid_eq]
      by_cases h0 : n = 0
      · subst h0
        rw [if_pos rfl, get_node, get_node]
        by_cases hm : m = 0
        · subst hm; simp
        · simp [hm]
      · rw [if_neg h0]
        by_cases h1 : n % 2 = 1
        · rw [if_pos h1, get_node, get_node]
          by_cases hm : m = 0
          · subst hm; rw [if_pos rfl, if_pos rfl, if_neg (by omega)]
          · rw [if_neg hm, if_neg hm]
            by_cases hm1 : m % 2 = 1
            · rw [if_pos hm1, if_pos hm1, ih _ _ _ _ (by omega)]
              by_cases hmn : m = n
              · subst hmn; simp
              · rw [if_neg (by omega), if_neg hmn]
            · rw [if_neg hm1, if_neg hm1, if_neg (by omega)]
        · rw [if_neg h1, get_node, get_node]
          by_cases hm : m = 0
          · subst hm; rw [if_pos rfl, if_pos rfl, if_neg (by omega)]
          · rw [if_neg hm, if_neg hm]
            by_cases hm1 : m % 2 = 1
            · rw [if_pos hm1, if_pos hm1, if_neg (by omega)]
            · rw [if_neg hm1, if_neg hm1, ih _ _ _ _ (by omega)]
              by_cases hmn : m = n
              · subst hmn; simp
              · rw [if_neg (by omega), if_neg hmn]
    intro t n x m h
    cases t with
    | leaf =>
      show (kid none .leaf .leaf n x (setF f)).get m = _
      rw [key _ _ _ _ _ _ h, get_node]
      simp [get_leaf]
    | node v l r => exact key v l r n x m h

noncomputable def set (t : T α) (n : Nat) (x : Option α) : T α := setF (Nat.succ n) t n x

theorem get_set (t : T α) (n : Nat) (x : Option α) (m : Nat) : (t.set n x).get m = if m = n then x else t.get m := get_setF _ _ _ _ _ (Nat.lt_succ_self n)

/-- The same set, handed on when it is whole: what was ahead of it is not kept. -/
noncomputable def kidK {β : Type} (v : Option α) (l r : T α) (n : Nat) (x : Option α) (ih : T α → Nat → Option α → (T α → β) → β) (k : T α → β) : β :=
  Bool.rec (motive := fun _ => β) (Bool.rec (motive := fun _ => β) (ih r (Nat.pred (Nat.div n 2)) x fun r' => k (.node v l r')) (ih l (Nat.div n 2) x fun l' => k (.node v l' r)) (Nat.beq (Nat.mod n 2) 1)) (k (.node x l r)) (Nat.beq n 0)
noncomputable def setKF {β : Type} (f : Nat) : T α → Nat → Option α → (T α → β) → β :=
  Nat.rec (motive := fun _ => T α → Nat → Option α → (T α → β) → β) (fun t _ _ k => k t)
    (fun _ ih t n x k => T.rec (motive := fun _ => β) (kidK none .leaf .leaf n x ih k) (fun v l r _ _ => kidK v l r n x ih k) t) f
theorem setKF_eq {β : Type} (f : Nat) : ∀ (t : T α) (n : Nat) (x : Option α) (k : T α → β), setKF f t n x k = k (setF f t n x) := by
  induction f with
  | zero => intro t n x k; rfl
  | succ f ih =>
    have key : ∀ (v : Option α) (l r : T α) (n : Nat) (x : Option α) (k : T α → β), kidK v l r n x (setKF f) k = k (kid v l r n x (setF f)) := by
      intro v l r n x k
      unfold kidK kid
      cases Nat.beq n 0 with
      | true => rfl
      | false => cases Nat.beq (Nat.mod n 2) 1 with
        | true => exact ih _ _ _ _
        | false => exact ih _ _ _ _
    intro t n x k
    cases t with
    | leaf => exact key _ _ _ _ _ _
    | node v l r => exact key _ _ _ _ _ _
noncomputable def setK {β : Type} (t : T α) (n : Nat) (x : Option α) (k : T α → β) : β := setKF (Nat.succ n) t n x k
theorem setK_eq {β : Type} (t : T α) (n : Nat) (x : Option α) (k : T α → β) : setK t n x k = k (t.set n x) := setKF_eq _ _ _ _ _

noncomputable def ofL : List α → Nat → T α → T α
  | [], _, t => t
  | x :: xs, i, t => ofL xs (i + 1) (t.set i (some x))

theorem get_ofL : ∀ (l : List α) (i : Nat) (t : T α) (m : Nat), (ofL l i t).get m = if i ≤ m ∧ m < i + l.length then l[m - i]? else t.get m
  | [], i, t, m => by simp only [ofL, List.length_nil]; rw [if_neg (by omega)]
  | x :: xs, i, t, m => by
    simp only [ofL, List.length_cons]
    rw [get_ofL xs (i + 1), get_set]
    by_cases h : m = i
    · subst h; rw [if_neg (by omega), if_pos rfl, if_pos (by omega)]; simp
    · rw [if_neg h]
      by_cases h2 : i ≤ m ∧ m < i + (xs.length + 1)
      · rw [if_pos (by omega), if_pos h2]
        obtain ⟨k, rfl⟩ : ∃ k, m = i + 1 + k := ⟨m - i - 1, by omega⟩
        rw [show i + 1 + k - (i + 1) = k by omega, show i + 1 + k - i = k + 1 by omega]; simp
      · rw [if_neg (by omega), if_neg h2]
end T

/-! ### The heap -/
structure Cells where
  size : Nat
  m : T Value
  dflt : Value
  elem : TypeId
  opn : Bool
  esz : Nat
  /-- Cells that nobody writes any more, as bits. -/
  ro : Nat := 0

noncomputable def Cells.get (c : Cells) (k : Nat) : Value := (c.m.get k).getD c.dflt
noncomputable def Cells.set (c : Cells) (k : Nat) (v : Value) : Cells := { c with m := c.m.set k (some v) }
theorem Cells.get_set (c : Cells) (k j : Nat) (v : Value) : (c.set k v).get j = if j = k then v else c.get j := by
  unfold Cells.get Cells.set
  simp only [T.get_set]
  split <;> rfl

/-- An array of numbers, by what is not known of it: a variable, zeros, another one with one number changed (index and number by codes), two of them one behind the other (the first one's length by its code). -/
inductive ACode where
  | var (f : Nat)
  | zero
  | upd (a : ACode) (i v : Nat)
  | cat (a : ACode) (n : Nat) (b : ACode)
/-- A row whose length is not known: n is the length's code; of each cell of an element its kind (none: a truth), and the array of all these cells. -/
structure ArrB where
  n : Nat
  cs : List (Option IntKind × ACode)
  elem : TypeId
inductive Blk where
  | cells (c : Cells)
  | map (es : Array MapEntry) (clock : Nat)
  | arr (r : ArrB)
  /-- A channel at rest: its room, how many sends and receives so far, whether it is closed. -/
  | chan (room k : Nat) (closed : Bool)
  /-- Cells of which those alone are known that nobody writes any more. -/
  | part (c : Cells)

structure Heap where
  base : Nat
  next : Nat
  m : T Blk
  /-- Names that are kept for blocks that are still to be made. -/
  hole : List Nat := []

noncomputable def Heap.get (H : Heap) (n : Nat) : Option Blk := H.m.get n
noncomputable def Heap.put (H : Heap) (n : Nat) (b : Blk) : Heap := { H with m := H.m.set n (some b) }
noncomputable def Heap.kill (H : Heap) (n : Nat) : Heap := { H with m := H.m.set n none }
noncomputable def Heap.new (H : Heap) (b : Blk) : Heap := { base := H.base, next := H.next + 1, m := H.m.set H.next (some b), hole := H.hole }
@[simp] theorem Heap.get_put (H : Heap) (n m : Nat) (b : Blk) : (H.put n b).get m = if m = n then some b else H.get m := T.get_set _ _ _ _
@[simp] theorem Heap.get_kill (H : Heap) (n m : Nat) : (H.kill n).get m = if m = n then none else H.get m := T.get_set _ _ _ _
@[simp] theorem Heap.get_new (H : Heap) (m : Nat) (b : Blk) : (H.new b).get m = if m = H.next then some b else H.get m := T.get_set _ _ _ _
@[simp] theorem Heap.next_put (H : Heap) (n : Nat) (b : Blk) : (H.put n b).next = H.next := rfl
@[simp] theorem Heap.next_kill (H : Heap) (n : Nat) : (H.kill n).next = H.next := rfl
@[simp] theorem Heap.base_put (H : Heap) (n : Nat) (b : Blk) : (H.put n b).base = H.base := rfl
@[simp] theorem Heap.base_kill (H : Heap) (n : Nat) : (H.kill n).base = H.base := rfl
@[simp] theorem Heap.base_new (H : Heap) (b : Blk) : (H.new b).base = H.base := rfl
@[simp] theorem Heap.next_new (H : Heap) (b : Blk) : (H.new b).next = H.next + 1 := rfl

/-! ### Where names lie in a world -/
structure Info where
  blk : Nat
  off : Nat
  size : Nat
  extra : Nat
  esz : Nat

abbrev Inj := Nat → Option Info

def undf : Value := .tuple #[]

/-- Numbers that are not known, by what they are called: in the small heap each is a float of that name. -/
def scal : Value → Bool
  | .int .. => true
  | .bool _ => true
  | _ => false
def isRef : Value → Bool
  | .slice .. => true
  | .pointer _ => true
  | _ => false
class Syms where
  val : Nat → Option Value
  scal : ∀ c v, val c = some v → scal v = true
  /-- What the program's variables hold. -/
  glob : Nat → Option Obj
  /-- Slices that were given, and places in them, by what they are called. -/
  ptr : Nat → Option Value
  ref : ∀ c v, ptr c = some v → isRef v = true
  /-- What is given, and never changes. -/
  inp : Nat → Option Obj
  /-- A slice of a block of one's own (true), of some length; a place in it (false), at some cell. -/
  own : Nat → Option (Bool × Nat × Nat)
  /-- The length of a row; and what its cells hold. -/
  len : ArrB → Option Nat
  at_ : ArrB → Nat → Option Value
abbrev symV (c : Nat) : Value := .float .f64 c
variable [Syms]

inductive VRel (ι : Inj) : Value → Value → Prop
  | bool (b : Bool) : VRel ι (.bool b) (.bool b)
  | int (k : IntKind) (n : Int) : VRel ι (.int k n) (.int k n)
  | string (s : ByteArray) : VRel ι (.string s) (.string s)
  | nilPtr : VRel ι (.pointer none) (.pointer none)
  | ptr {a : Addr} {i : Info} : ι a.block = some i → VRel ι (.pointer (some a)) (.pointer (some ⟨i.blk, i.off + a.off, a.spot⟩))
  | nilSlice (l c : Nat) : VRel ι (.slice none l c) (.slice none l c)
  | slice {a : Addr} {i : Info} {l c c' : Nat} : ι a.block = some i → (c' = c ∨ (a.off + c * i.esz = i.size ∧ c' * i.esz = c * i.esz + i.extra)) → c ≤ c' →
      VRel ι (.slice (some a) l c) (.slice (some ⟨i.blk, i.off + a.off, a.spot⟩) l c')
  | emptySlice (a a' : Addr) : VRel ι (.slice (some a) 0 0) (.slice (some a') 0 0)
  | nilMap : VRel ι (.map none) (.map none)
  | map {n : Nat} {i : Info} : ι n = some i → VRel ι (.map (some n)) (.map (some i.blk))
  | nilChan : VRel ι (.chan none) (.chan none)
  | chn {n : Nat} {i : Info} : ι n = some i → i.off = 0 → VRel ι (.complex .f32 n 0) (.chan (some i.blk))
  | nilFunc : VRel ι .nilFunc .nilFunc
  | func (fn : Fn) {xs ys us vs : Array Value} : xs.size = ys.size → (∀ k, k < xs.size → VRel ι (xs.getD k undf) (ys.getD k undf)) →
      us.size = vs.size → (∀ k, k < us.size → VRel ι (us.getD k undf) (vs.getD k undf)) → VRel ι (.func fn xs us) (.func fn ys vs)
  | nilIface : VRel ι .nilIface .nilIface
  | iface (t : TypeId) {v v' : Value} : VRel ι v v' → VRel ι (.iface t v) (.iface t v')
  | agg {xs ys : Array Value} : xs.size = ys.size → (∀ k, k < xs.size → VRel ι (xs.getD k undf) (ys.getD k undf)) → VRel ι (.agg xs) (.agg ys)
  | tuple {xs ys : Array Value} : xs.size = ys.size → (∀ k, k < xs.size → VRel ι (xs.getD k undf) (ys.getD k undf)) → VRel ι (.tuple xs) (.tuple ys)
  | sym {c : Nat} {v : Value} : Syms.val c = some v → VRel ι (.float .f64 c) v
  | inp {c : Nat} {v : Value} : Syms.ptr c = some v → VRel ι (.float .f32 c) v
  | ownS {c b n cap : Nat} {i : Info} : Syms.own c = some (true, b, n) → ι b = some i → n ≤ cap → (cap = n ∨ cap * i.esz ≤ i.size + i.extra) → VRel ι (.float .f32 c) (.slice (some ⟨i.blk, i.off, none⟩) n cap)
  | ownP {c b k : Nat} {i : Info} : Syms.own c = some (false, b, k) → ι b = some i → VRel ι (.float .f32 c) (.pointer (some ⟨i.blk, i.off + k, none⟩))

theorem Syms.refs {c : Nat} {v : Value} (h : Syms.ptr c = some v) : (∃ a l n, v = .slice a l n) ∨ ∃ a, v = .pointer a := by
  have := Syms.ref c v h
  cases v <;> first | exact .inl ⟨_, _, _, rfl⟩ | exact .inr ⟨_, rfl⟩ | simp [isRef] at this
theorem Syms.cases {c : Nat} {v : Value} (h : Syms.val c = some v) : (∃ k n, v = .int k n) ∨ ∃ b, v = .bool b := by
  have := Syms.scal c v h
  cases v <;> first | exact .inl ⟨_, _, rfl⟩ | exact .inr ⟨_, rfl⟩ | simp [Ev.scal] at this

def Sub (ι ι' : Inj) : Prop := ∀ n i, ι n = some i → ι' n = some i
theorem Sub.refl (ι : Inj) : Sub ι ι := fun _ _ h => h
theorem Sub.trans {a b c : Inj} (h : Sub a b) (h' : Sub b c) : Sub a c := fun n i x => h' n i (h n i x)

theorem VRel.mono {ι ι' : Inj} (hs : Sub ι ι') {v v' : Value} (h : VRel ι v v') : VRel ι' v v' := by
  induction h with
  | bool b => exact .bool b
  | int k n => exact .int k n
  | string s => exact .string s
  | nilPtr => exact .nilPtr
  | ptr h => exact .ptr (hs _ _ h)
  | nilSlice l c => exact .nilSlice l c
  | slice h h2 h3 => exact .slice (hs _ _ h) h2 h3
  | emptySlice a a' => exact .emptySlice a a'
  | nilMap => exact .nilMap
  | map h => exact .map (hs _ _ h)
  | nilChan => exact .nilChan
  | chn h ho => exact .chn (hs _ _ h) ho
  | nilFunc => exact .nilFunc
  | func fn h1 _ h3 _ ih1 ih2 => exact .func fn h1 ih1 h3 ih2
  | nilIface => exact .nilIface
  | iface t _ ih => exact .iface t ih
  | agg h1 _ ih => exact .agg h1 ih
  | tuple h1 _ ih => exact .tuple h1 ih
  | sym h => exact .sym h
  | inp h => exact .inp h
  | ownS h h2 h3 h4 => exact .ownS h (hs _ _ h2) h3 h4
  | ownP h h2 => exact .ownP h (hs _ _ h2)

def ARel (ι : Inj) (xs ys : Array Value) : Prop := xs.size = ys.size ∧ ∀ k, k < xs.size → VRel ι (xs.getD k undf) (ys.getD k undf)
def AddrRel (ι : Inj) (a a' : Addr) : Prop := ∃ i, ι a.block = some i ∧ a' = ⟨i.blk, i.off + a.off, a.spot⟩
theorem AddrRel.mono {ι ι' : Inj} (hs : Sub ι ι') {a a' : Addr} (h : AddrRel ι a a') : AddrRel ι' a a' := ⟨h.choose, hs _ _ h.choose_spec.1, h.choose_spec.2⟩
theorem AddrRel.ptr {ι : Inj} {a a' : Addr} (h : AddrRel ι a a') : VRel ι (.pointer (some a)) (.pointer (some a')) := by
  obtain ⟨i, h1, rfl⟩ := h
  exact .ptr h1
theorem AddrRel.add {ι : Inj} {a a' : Addr} (h : AddrRel ι a a') (n : Nat) : AddrRel ι (a.add n) (a'.add n) := by
  obtain ⟨i, h1, rfl⟩ := h
  unfold Addr.add
  by_cases hn : n = 0
  · simp only [hn, if_true]; exact ⟨i, h1, rfl⟩
  · simp only [hn, if_false]; exact ⟨i, h1, by simp [Nat.add_assoc]⟩
theorem VRel.ptr_inv {ι : Inj} {a : Addr} {v' : Value} (h : VRel ι (.pointer (some a)) v') : ∃ a', v' = .pointer (some a') ∧ AddrRel ι a a' := by
  cases h with
  | ptr h => exact ⟨_, rfl, _, h, rfl⟩
theorem ARel.mono {ι ι' : Inj} (hs : Sub ι ι') {xs ys : Array Value} (h : ARel ι xs ys) : ARel ι' xs ys := ⟨h.1, fun k hk => (h.2 k hk).mono hs⟩
theorem ARel.agg {ι : Inj} {xs ys : Array Value} (h : ARel ι xs ys) : VRel ι (.agg xs) (.agg ys) := .agg h.1 h.2
theorem ARel.tuple {ι : Inj} {xs ys : Array Value} (h : ARel ι xs ys) : VRel ι (.tuple xs) (.tuple ys) := .tuple h.1 h.2
theorem ARel.nil {ι : Inj} : ARel ι #[] #[] := ⟨rfl, fun k hk => by simp at hk⟩
theorem VRel.undf {ι : Inj} : VRel ι undf undf := ARel.nil.tuple

/-- One entry of a map. -/
def ERel (ι : Inj) (e e' : MapEntry) : Prop := VRel ι e.key e'.key ∧ VRel ι e.val e'.val ∧ e.born = e'.born
def dflE : MapEntry := ⟨undf, undf, 0⟩
def EsRel (ι : Inj) (es es' : Array MapEntry) : Prop := es.size = es'.size ∧ ∀ k, k < es.size → ERel ι (es.getD k dflE) (es'.getD k dflE)
theorem ERel.mono {ι ι' : Inj} (hs : Sub ι ι') {e e' : MapEntry} (h : ERel ι e e') : ERel ι' e e' := ⟨h.1.mono hs, h.2.1.mono hs, h.2.2⟩
theorem EsRel.mono {ι ι' : Inj} (hs : Sub ι ι') {e e' : Array MapEntry} (h : EsRel ι e e') : EsRel ι' e e' := ⟨h.1, fun k hk => (h.2 k hk).mono hs⟩

def CRel (ι : Inj) (i : Info) (o : Obj) (c : Cells) : Prop :=
  (i.size = c.size ∧ i.esz = c.esz ∧ 0 < c.esz) ∧ ∃ cs : Array Value, o = .cells cs c.elem (0, 0) ∧ i.off + c.size + i.extra ≤ cs.size ∧
    (c.opn = false → i.extra = 0 ∧ i.off = 0 ∧ cs.size = c.size) ∧ ∀ k, k < c.size → VRel ι (c.get k) (cs.getD (i.off + k) undf)

/-- A row. -/
def NRel (i : Info) (o : Obj) (r : ArrB) : Prop :=
  (i.esz = r.cs.length ∧ 0 < r.cs.length) ∧ ∃ (cs : Array Value) (n : Nat), o = .cells cs r.elem (0, 0) ∧ Syms.len r = some n ∧ i.off + i.size + i.extra ≤ cs.size ∧ i.off + n * r.cs.length ≤ cs.size ∧
    ∀ j, j < n * r.cs.length → ∃ v, Syms.at_ r j = some v ∧ cs[i.off + j]? = some v
def BRel (ι : Inj) (i : Info) (o : Obj) : Blk → Prop
  | .cells c => CRel ι i o c
  | .arr r => NRel i o r
  | .map es clock => ∃ es', o = .map es' clock ∧ EsRel ι es es'
  | .chan room k cl => i.off = 0 ∧ o = .chan room #[] cl k k false
  | .part c => ∃ cs : Array Value, o = .cells cs c.elem (0, 0) ∧ i.off + c.size ≤ cs.size ∧ ∀ k, k < c.size → c.ro.testBit k = true → VRel ι (c.get k) (cs.getD (i.off + k) undf)

theorem BRel.mono {ι ι' : Inj} (hs : Sub ι ι') {i : Info} {o : Obj} {b : Blk} (h : BRel ι i o b) : BRel ι' i o b := by
  cases b with
  | cells c =>
    obtain ⟨h1, cs, h2, h3, h4, h5⟩ := h
    exact ⟨h1, cs, h2, h3, h4, fun k hk => (h5 k hk).mono hs⟩
  | arr r => exact h
  | map es clock =>
    obtain ⟨es', h1, h2⟩ := h
    exact ⟨es', h1, h2.mono hs⟩
  | chan room k cl => exact h
  | part c =>
    obtain ⟨cs, h1, h2, h3⟩ := h
    exact ⟨cs, h1, h2, fun k hk hr => (h3 k hk hr).mono hs⟩

structure Rel (P : Program) (ι : Inj) (H : Heap) (w : World) : Prop where
  glb : (∀ b, b < P.globals.size → w.heap[b]? = Syms.glob b) ∧ ∀ b o, Syms.inp b = some o → w.heap[b]? = some o
  gsize : H.base = P.globals.size
  glob : ∀ g, g < H.base → ∃ i, ι g = some i ∧ i.blk = g ∧ i.off = 0
  over : ∀ n i, ι n = some i → H.base ≤ n → H.base ≤ i.blk ∧ Syms.inp i.blk = none
  next : H.base ≤ H.next
  room : H.base ≤ w.heap.size
  fresh : ∀ n, H.next ≤ n → ι n = none
  hole : ∀ n, n ∈ H.hole → n < H.next ∧ ι n = none
  below : ∀ n i, ι n = some i → i.blk < w.heap.size
  live : ∀ n b, H.get n = some b → ∃ i o, ι n = some i ∧ w.heap[i.blk]? = some o ∧ BRel ι i o b
  inj : ∀ n m b c i j, H.get n = some b → H.get m = some c → ι n = some i → ι m = some j → i.blk = j.blk → n = m

structure Ext (P : Program) (ι : Inj) (w : World) (ι' : Inj) (w' : World) : Prop where
  sub : Sub ι ι'
  size : w.heap.size ≤ w'.heap.size
  img : ∀ n i, ι' n = some i → P.globals.size ≤ n → (∃ m j, ι m = some j ∧ P.globals.size ≤ m ∧ j.blk = i.blk) ∨ w.heap.size ≤ i.blk
  keep : ∀ b, b < w.heap.size → (∀ n i, ι n = some i → P.globals.size ≤ n → i.blk ≠ b) → w'.heap[b]? = w.heap[b]?
  froz : ∀ a, w'.frozen? a = w.frozen? a
  tape : w'.tape = w.tape
  os : w'.os = w.os
  output : w'.output = w.output

theorem Ext.refl {P : Program} (ι : Inj) (w : World) : Ext P ι w ι w := ⟨Sub.refl ι, Nat.le_refl _, fun n i h h' => .inl ⟨n, i, h, h', rfl⟩, fun _ _ _ => rfl, fun _ => rfl, rfl, rfl, rfl⟩

theorem Ext.trans {P : Program} {ι ι' ι'' : Inj} {w w' w'' : World} (h : Ext P ι w ι' w') (h' : Ext P ι' w' ι'' w'') : Ext P ι w ι'' w'' := by
  refine ⟨h.sub.trans h'.sub, Nat.le_trans h.size h'.size, fun n i hn hg => ?_, fun b hb hne => ?_, fun a => (h'.froz a).trans (h.froz a), h'.tape.trans h.tape, h'.os.trans h.os, h'.output.trans h.output⟩
  · rcases h'.img n i hn hg with ⟨m, j, hm, hgm, hj⟩ | hge
    · rcases h.img m j hm hgm with ⟨m', j', hm', hgm', hj'⟩ | hge
      · exact .inl ⟨m', j', hm', hgm', hj'.trans hj⟩
      · exact .inr (hj ▸ hge)
    · exact .inr (Nat.le_trans h.size hge)
  · rw [h'.keep b (Nat.lt_of_lt_of_le hb h.size) (fun n i hn hg he => ?_), h.keep b hb hne]
    rcases h.img n i hn hg with ⟨m, j, hm, hgm, hj⟩ | hge
    · exact hne m j hm hgm (hj.trans he)
    · omega

/-- A draw, and nothing else. -/
theorem Ext.draw {P : Program} (ι : Inj) (w : World) (n : Nat) : Ext P ι w ι { w with drawn := n } := ⟨Sub.refl ι, Nat.le_refl _, fun n i h h' => .inl ⟨n, i, h, h', rfl⟩, fun _ _ _ => rfl, fun _ => rfl, rfl, rfl, rfl⟩
theorem Rel.draw {P : Program} {ι : Inj} {H : Heap} {w : World} (h : Rel P ι H w) (n : Nat) : Rel P ι H { w with drawn := n } := ⟨h.glb, h.gsize, h.glob, h.over, h.next, h.room, h.fresh, h.hole, h.below, h.live, h.inj⟩

theorem Rel.inpLt {P : Program} {ι : Inj} {H : Heap} {w : World} (hw : Rel P ι H w) {b : Nat} {o : Obj} (h : Syms.inp b = some o) : b < w.heap.size := by
  have := hw.glb.2 b o h
  exact (Array.getElem?_eq_some_iff.1 this).1
theorem Rel.inpNew {P : Program} {ι : Inj} {H : Heap} {w : World} (hw : Rel P ι H w) {b : Nat} (h : w.heap.size ≤ b) : Syms.inp b = none := by
  cases e : Syms.inp b with
  | none => rfl
  | some o => have := hw.inpLt e; omega
theorem Rel.keepG {P : Program} {ι : Inj} {H : Heap} {w w' : World} (hw : Rel P ι H w) (hk : ∀ b, b < w.heap.size → (∀ n i, ι n = some i → P.globals.size ≤ n → i.blk ≠ b) → w'.heap[b]? = w.heap[b]?) :
    (∀ b, b < P.globals.size → w'.heap[b]? = Syms.glob b) ∧ ∀ b o, Syms.inp b = some o → w'.heap[b]? = some o := by
  refine ⟨fun b hb => ?_, fun b o ho => ?_⟩
  · rw [hk b (by have := hw.room; rw [hw.gsize] at this; omega) (fun n i hn hg => by have := (hw.over n i hn (by rw [hw.gsize]; exact hg)).1; rw [hw.gsize] at this; omega)]
    exact hw.glb.1 b hb
  · rw [hk b (hw.inpLt ho) (fun n i hn hg e => by have := (hw.over n i hn (by rw [hw.gsize]; exact hg)).2; rw [e, ho] at this; simp at this)]
    exact hw.glb.2 b o ho

/-! ### The effects -/
noncomputable def Heap.load (H : Heap) (a : Addr) : Option Value :=
  match H.get a.block with
  | some (.cells c) => if a.spot.isNone && a.off < c.size then some (c.get a.off) else none
  | some (.part c) => if a.spot.isNone && a.off < c.size && c.ro.testBit a.off then some (c.get a.off) else none
  | _ => none

def oneCell : Value → Bool
  | .agg _ | .tuple _ => false
  | _ => true

noncomputable def Heap.store (H : Heap) (a : Addr) (v : Value) : Option Heap :=
  match H.get a.block with
  | some (.cells c) => if a.spot.isNone && a.off < c.size && oneCell v && Nat.ble H.base a.block && (Nat.beq c.ro 0 || !c.ro.testBit a.off) then some (H.put a.block (.cells (c.set a.off v))) else none
  | _ => none

noncomputable def mkCells (cs : Array Value) (elem : TypeId) : Cells := { size := cs.size, m := T.ofL cs.toList 0 .leaf, dflt := undf, elem, opn := false, esz := 1 }

theorem mkCells_get (cs : Array Value) (elem : TypeId) (k : Nat) (hk : k < cs.size) : (mkCells cs elem).get k = cs.getD k undf := by
  unfold mkCells Cells.get
  simp only [T.get_ofL]
  rw [if_pos (by simp; omega)]
  simp [hk]

noncomputable def arun (P : Program) {α : Type} : Sem α → Heap → Option (α × Heap)
  | .pure a, H => some (a, H)
  | .load _ a k, H => match H.load a with
    | some v => arun P (k v) H
    | none => none
  | .store _ a v k, H => match H.store a v with
    | some H' => arun P k H'
    | none => none
  | .new o k, H => match o with
    | .cells c elem fz => if fz.1 = 0 ∧ fz.2 = 0 then arun P (k H.next) (H.new (.cells (mkCells c elem))) else none
    | .map es clock => arun P (k H.next) (H.new (.map es clock))
    | _ => none
  | .shape r k, H => match H.get r with
    | some (.cells c) => if c.opn then none else arun P (k (some (c.elem, c.size))) H
    | _ => none
  | .freeze .., _ => none
  | .frozen a k, H => match H.get a.block with
    | some _ => arun P (k false) H
    | none => none
  | .getObj r k, H => match H.get r with
    | some (.map es clock) => arun P (k (.map es clock)) H
    | _ => none
  | .setObj r o k, H => match H.get r, o with
    | some (.map ..), .map es clock => if Nat.ble H.base r then arun P k (H.put r (.map es clock)) else none
    | _, _ => none
  | .choose q k, H => if q.forced then arun P (k 0) H else none
  | .sys .., _ => none
  | .program k, H => arun P (k P) H
  | .mark .., _ => none
  | .halt _, _ => none

theorem arun_bind' (P : Program) {α β : Type} (x : Sem α) (f : α → Sem β) : ∀ H, arun P (x.bind f) H = (arun P x H).bind fun r => arun P (f r.1) r.2 := by
  induction x with
  | pure a => intro H; simp [Sem.bind, arun]
  | load m a k ih => intro H; simp only [Sem.bind, arun]; split <;> simp [ih]
  | store m a v k ih => intro H; simp only [Sem.bind, arun]; split <;> simp [ih]
  | new o k ih =>
    intro H; simp only [Sem.bind, arun]
    split
    · split <;> simp [ih]
    · simp [ih]
    · simp
  | shape r k ih => intro H; simp only [Sem.bind, arun]; split <;> (try split) <;> simp [ih]
  | freeze a n k ih => intro H; simp [Sem.bind, arun]
  | frozen a k ih => intro H; simp only [Sem.bind, arun]; split <;> simp [ih]
  | getObj r k ih => intro H; simp only [Sem.bind, arun]; split <;> simp [ih]
  | setObj r o k ih => intro H; simp only [Sem.bind, arun]; split <;> (try split) <;> simp [ih]
  | choose q k ih => intro H; simp only [Sem.bind, arun]; split <;> simp [ih]
  | sys c k ih => intro H; simp [Sem.bind, arun]
  | program k ih => intro H; simp [Sem.bind, arun, ih]
  | mark m k ih => intro H; simp [Sem.bind, arun]
  | halt h => intro H; simp [Sem.bind, arun]

theorem arun_bind (P : Program) {α β : Type} (x : Sem α) (f : α → Sem β) (H : Heap) : arun P (x >>= f) H = (arun P x H).bind fun r => arun P (f r.1) r.2 := arun_bind' P x f H
@[simp] theorem arun_pure (P : Program) {α : Type} (a : α) (H : Heap) : arun P (Pure.pure a : Sem α) H = some (a, H) := rfl

/-- What a run leaves as it was: how large rows of cells are, which of their cells nobody writes, and what these hold; channels. -/
structure Ro (H H' : Heap) : Prop where
  next : H.next ≤ H'.next
  cells : ∀ n c, n < H.next → H.get n = some (.cells c) → ∃ c', H'.get n = some (.cells c') ∧ c'.ro = c.ro ∧ c'.size = c.size ∧ (∀ off, c.ro.testBit off = true → c'.get off = c.get off) ∧ c'.elem = c.elem
  chan : ∀ n r k cl, n < H.next → H.get n = some (.chan r k cl) → H'.get n = some (.chan r k cl)
theorem Ro.refl (H : Heap) : Ro H H := ⟨Nat.le_refl _, fun _ c _ hc => ⟨c, hc, rfl, rfl, fun _ _ => rfl, rfl⟩, fun _ _ _ _ _ h => h⟩
theorem Ro.trans {H H' H'' : Heap} (h : Ro H H') (h' : Ro H' H'') : Ro H H'' := by
  refine ⟨Nat.le_trans h.next h'.next, fun n c hn hc => ?_, fun n r k cl hn hc => h'.chan n r k cl (Nat.lt_of_lt_of_le hn h.next) (h.chan n r k cl hn hc)⟩
  obtain ⟨c1, a1, a2, a3, a4, a5⟩ := h.cells n c hn hc
  obtain ⟨c2, b1, b2, b3, b4, b5⟩ := h'.cells n c1 (Nat.lt_of_lt_of_le hn h.next) a1
  exact ⟨c2, b1, b2.trans a2, b3.trans a3, fun off ho => (b4 off (by rw [a2]; exact ho)).trans (a4 off ho), b5.trans a5⟩
theorem Ro.new (H : Heap) (b : Blk) : Ro H (H.new b) := by
  refine ⟨Nat.le_succ _, fun n c hn hc => ⟨c, ?_, rfl, rfl, fun _ _ => rfl, rfl⟩, fun n r k cl hn hc => ?_⟩ <;> (rw [Heap.get_new, if_neg (by omega)]; exact hc)
theorem Ro.store {H H' : Heap} {a : Addr} {v : Value} (hs : H.store a v = some H') : Ro H H' := by
  unfold Heap.store at hs
  split at hs
  · rename_i c1 hc1
    split at hs
    · rename_i hk
      simp only [Option.some.injEq] at hs
      subst hs
      simp only [Bool.and_eq_true, Bool.or_eq_true, Bool.not_eq_true', Nat.beq_eq] at hk
      refine ⟨Nat.le_refl _, fun n c hn hc => ?_, fun n r k cl hn hc => ?_⟩
      · by_cases e : n = a.block
        · subst e
          rw [hc1] at hc
          simp only [Option.some.injEq, Blk.cells.injEq] at hc
          subst hc
          refine ⟨c1.set a.off v, by simp, rfl, rfl, fun off ho => ?_, rfl⟩
          rw [Cells.get_set, if_neg]
          intro e2
          subst e2
          rcases hk.2 with h0 | h0
          · rw [h0] at ho; simp at ho
          · rw [h0] at ho; simp at ho
        · exact ⟨c, by simp [e, hc], rfl, rfl, fun _ _ => rfl, rfl⟩
      · by_cases e : n = a.block
        · subst e; rw [hc1] at hc; simp at hc
        · simp [e, hc]
    · simp at hs
  · simp at hs
theorem Ro.putMap {H : Heap} {r : Nat} {es es' : Array MapEntry} {k k' : Nat} (hg : H.get r = some (.map es k)) : Ro H (H.put r (.map es' k')) := by
  refine ⟨Nat.le_refl _, fun n c hn hc => ⟨c, ?_, rfl, rfl, fun _ _ => rfl, rfl⟩, fun n r' k cl hn hc => ?_⟩ <;>
    (rw [Heap.get_put, if_neg]
     · exact hc
     · intro e; subst e; rw [hg] at hc; simp at hc)
theorem arun_ro {P : Program} {α : Type} (s : Sem α) : ∀ {H H' : Heap} {a : α}, arun P s H = some (a, H') → Ro H H' := by
  induction s with
  | pure x => intro H H' a h; simp only [arun, Option.some.injEq, Prod.mk.injEq] at h; obtain ⟨_, rfl⟩ := h; exact Ro.refl _
  | load m a k ih => intro H H' x h; simp only [arun] at h; split at h <;> first | exact ih _ h | simp at h
  | store m a v k ih =>
    intro H H' x h
    simp only [arun] at h
    split at h
    · rename_i H1 hs
      exact (Ro.store hs).trans (ih h)
    · simp at h
  | new o k ih =>
    intro H H' x h
    simp only [arun] at h
    split at h
    · split at h
      · exact (Ro.new _ _).trans (ih _ h)
      · simp at h
    · exact (Ro.new _ _).trans (ih _ h)
    · simp at h
  | shape r k ih => intro H H' x h; simp only [arun] at h; split at h <;> (try split at h) <;> first | exact ih _ h | simp at h
  | freeze a n k ih => intro H H' x h; simp [arun] at h
  | frozen a k ih => intro H H' x h; simp only [arun] at h; split at h <;> first | exact ih _ h | simp at h
  | getObj r k ih => intro H H' x h; simp only [arun] at h; split at h <;> first | exact ih _ h | simp at h
  | setObj r o k ih =>
    intro H H' x h
    simp only [arun] at h
    cases hg : H.get r with
    | none => rw [hg] at h; simp at h
    | some b =>
      rw [hg] at h
      cases b with
      | map es0 c0 =>
        cases o with
        | map es clock =>
          simp only at h
          split at h
          · exact (Ro.putMap hg).trans (ih h)
          · simp at h
        | _ => simp at h
      | _ => simp at h
  | choose q k ih => intro H H' x h; simp only [arun] at h; split at h <;> first | exact ih _ h | simp at h
  | sys c k ih => intro H H' x h; simp [arun] at h
  | program k ih => intro H H' x h; exact ih _ h
  | mark m k ih => intro H H' x h; simp [arun] at h
  | halt y => intro H H' x h; simp [arun] at h
theorem Ro.lives {H H' : Heap} (h : Ro H H') {ι : Inj} (hf : ∀ n, H.next ≤ n → ι n = none) : ∀ n c, H.get n = some (.cells c) → (∃ i, ι n = some i) → ∃ c', H'.get n = some (.cells c') ∧ c'.ro = c.ro ∧ c'.size = c.size := fun n c hn ⟨i, hi⟩ => by
  obtain ⟨c', a1, a2, a3, _⟩ := h.cells n c (by
    rcases Nat.lt_or_ge n H.next with hlt | hge
    · exact hlt
    · rw [hf n hge] at hi; simp at hi) hn
  exact ⟨c', a1, a2, a3⟩

/-- What an access may be: below the heap's end; no cell that nobody writes is written. -/
def EvOk (ι : Inj) (H : Heap) (w' : World) (e : Event) : Prop :=
  match e.loc with
  | .cell a => a.block < w'.heap.size ∧ (e.write = true → ∀ n c i off, H.get n = some (.cells c) → ι n = some i → i.blk = a.block → a.off = i.off + off → off < c.size → c.ro.testBit off = false)
  | .obj r => r < w'.heap.size
  | _ => False
def EvsOk (P : Program) (ι : Inj) (H : Heap) {β : Type} (s' : Sem β) (w w' : World) : Prop := ∀ e ∈ s'.events P w #[], EvOk ι H w' e
theorem EvOk.more {ι : Inj} {H : Heap} {w w' : World} {e : Event} (h : EvOk ι H w e) (hs : w.heap.size ≤ w'.heap.size) : EvOk ι H w' e := by
  unfold EvOk at h ⊢
  cases hl : e.loc with
  | cell a => rw [hl] at h; exact ⟨Nat.lt_of_lt_of_le h.1 hs, h.2⟩
  | obj r => rw [hl] at h; exact Nat.lt_of_lt_of_le (show r < w.heap.size from h) hs
  | _ => rw [hl] at h; exact h
theorem EvsOk.none {P : Program} {ι : Inj} {H : Heap} {β : Type} {s' : Sem β} {w w' : World} (h : s'.events P w #[] = #[]) : EvsOk P ι H s' w w' := fun e he => by rw [h] at he; simp at he
theorem EvOk.back {ι ι' : Inj} {H H' : Heap} {w : World} {e : Event} (h : EvOk ι' H' w e) (hsub : Sub ι ι') (hro : ∀ n c, H.get n = some (.cells c) → (∃ i, ι n = some i) → ∃ c', H'.get n = some (.cells c') ∧ c'.ro = c.ro ∧ c'.size = c.size) : EvOk ι H w e := by
  unfold EvOk at h ⊢
  split
  · rename_i a hl
    rw [hl] at h
    refine ⟨h.1, fun hw n c i off hn hi hb ho hlt => ?_⟩
    obtain ⟨c', q1, q2, q3⟩ := hro n c hn ⟨i, hi⟩
    rw [← q2]
    exact h.2 hw n c' i off q1 (hsub _ _ hi) hb ho (by omega)
  · rename_i r hl
    rw [hl] at h; exact h
  · rename_i h1 h2
    revert h
    cases hl : e.loc with
    | cell a => exact absurd hl (h1 a)
    | obj r => exact absurd hl (h2 r)
    | _ => exact id

/-- What a run of the one side has beside it on the other. -/
def Sim (P : Program) (ι : Inj) {α β : Type} (R : Inj → α → β → Prop) (s : Sem α) (s' : Sem β) : Prop :=
  ∀ H a H', arun P s H = some (a, H') → ∀ w, Rel P ι H w → ∃ ι' b w', s'.run P w = .ok b w' ∧ Ext P ι w ι' w' ∧ Rel P ι' H' w' ∧ R ι' a b ∧ EvsOk P ι H s' w w' ∧ w'.heap.size + H.next = w.heap.size + H'.next

section
variable {P : Program} {ι : Inj}

theorem Sim.bind {α β γ δ : Type} {R : Inj → α → β → Prop} {R' : Inj → γ → δ → Prop} {s : Sem α} {s' : Sem β} {f : α → Sem γ} {f' : β → Sem δ}
    (h : Sim P ι R s s') (hf : ∀ ι' a b, Sub ι ι' → R ι' a b → Sim P ι' R' (f a) (f' b)) : Sim P ι R' (s >>= f) (s' >>= f') := by
  intro H c H'' hr w hw
  rw [arun_bind] at hr
  cases h1 : arun P s H with
  | none => rw [h1] at hr; simp at hr
  | some r =>
    obtain ⟨a, H'⟩ := r
    rw [h1] at hr
    simp only [Option.bind_some] at hr
    obtain ⟨ι', b, w', e1, x1, r1, q1, v1, z1⟩ := h H a H' h1 w hw
    obtain ⟨ι'', d, w'', e2, x2, r2, q2, v2, z2⟩ := hf ι' a b x1.sub q1 H' c H'' hr w' r1
    refine ⟨ι'', d, w'', by rw [Sem.run_bind, e1]; exact e2, x1.trans x2, r2, q2, fun e he => ?_, by omega⟩
    rw [Sem.events_bind, e1] at he
    have he' : e ∈ (f' b).events P w' (s'.events P w #[]) := he
    rw [Sem.events_acc] at he'
    rcases Array.mem_append.1 he' with h3 | h3
    · exact (v1 e h3).more x2.size
    · exact (v2 e h3).back x1.sub ((arun_ro s h1).lives hw.fresh)

theorem Sim.pure {α β : Type} {R : Inj → α → β → Prop} {a : α} {b : β} (h : R ι a b) : Sim P ι R (Pure.pure a) (Pure.pure b) := by
  intro H x H' hr w hw
  simp at hr
  obtain ⟨rfl, rfl⟩ := hr
  exact ⟨ι, b, w, rfl, Ext.refl _ _, hw, h, .none rfl, rfl⟩

theorem Sim.halt {α β : Type} {R : Inj → α → β → Prop} {h : Halt} {s' : Sem β} : Sim P ι R (Sem.halt h : Sem α) s' := by
  intro H x H' hr
  simp [arun] at hr

theorem Sim.mono {α β : Type} {R R' : Inj → α → β → Prop} {s : Sem α} {s' : Sem β} (h : Sim P ι R s s') (hr : ∀ ι' a b, Sub ι ι' → R ι' a b → R' ι' a b) : Sim P ι R' s s' := by
  intro H a H' e w hw
  obtain ⟨ι', b, w', e1, x1, r1, q1, v1, z1⟩ := h H a H' e w hw
  exact ⟨ι', b, w', e1, x1, r1, hr _ _ _ x1.sub q1, v1, z1⟩

def EqR {α : Type} : Inj → α → α → Prop := fun _ a b => a = b
theorem Sim.program : Sim P ι EqR program program := by
  intro H x H' hr w hw
  simp only [Go.program, arun, Option.some.injEq, Prod.mk.injEq] at hr
  obtain ⟨rfl, rfl⟩ := hr
  exact ⟨ι, P, w, rfl, Ext.refl _ _, hw, rfl, .none rfl, rfl⟩

theorem Sim.prog : Sim P ι (fun _ a b => a = P ∧ b = P) Go.program Go.program := by
  intro H x H' hr w hw
  simp only [Go.program, arun, Option.some.injEq, Prod.mk.injEq] at hr
  obtain ⟨rfl, rfl⟩ := hr
  exact ⟨ι, _, w, rfl, Ext.refl _ _, hw, ⟨rfl, rfl⟩, .none rfl, rfl⟩

end

end Go.Ev
