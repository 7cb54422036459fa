/- An evaluator of calls, with its laws. No condition. -/
import GoSem.Dispatch
import Derived.Laws.Sem
import Derived.Laws.World
import Derived.Conc.Events
import Derived.IntWalk
namespace Go.Ev
set_option linter.unusedSectionVars false      -- the symbols' class stands for all texts
inductive T (α : Type) where
  | leaf
  | node (v : Option α) (l r : T α)
namespace T
variable {α : Type}
noncomputable def get (t : T α) : Nat → Option α :=
  T.rec (motive := fun _ => Nat → Option α) (fun _ => none) (fun v _ _ gl gr n => Bool.rec (motive := fun _ => Option α) (Bool.rec (motive := fun _ => Option α) (gr (Nat.pred (Nat.div n 2))) (gl (Nat.div n 2)) (Nat.beq (Nat.mod n 2) 1)) v (Nat.beq n 0)) t
theorem cond_beq {β : Type} (n m : Nat) (x y : β) : cond (Nat.beq n m) x y = if n = m then x else y := by
  by_cases h : n = m
  · subst h; simp
  · have : Nat.beq n m = false := by
      cases hb : Nat.beq n m with
      | true => exact absurd (Nat.eq_of_beq_eq_true hb) h
      | false => rfl
    rw [this, if_neg h]; rfl
theorem brec {β : Type} (b : Bool) (x y : β) : Bool.rec (motive := fun _ => β) y x b = cond b x y := by cases b <;> rfl
theorem get_leaf (n : Nat) : (T.leaf : T α).get n = none := rfl
theorem get_node (v : Option α) (l r : T α) (n : Nat) : (T.node v l r).get n = if n = 0 then v else if n % 2 = 1 then l.get (n / 2) else r.get (n / 2 - 1) := by
  show Bool.rec (motive := fun _ => Option α) (Bool.rec (motive := fun _ => Option α) (r.get (n / 2 - 1)) (l.get (n / 2)) (Nat.beq (n % 2) 1)) v (Nat.beq n 0) = _
  rw [brec, brec, cond_beq, cond_beq]
noncomputable def kid (v : Option α) (l r : T α) (n : Nat) (x : Option α) (ih : T α → Nat → Option α → T α) : T α :=
  Bool.rec (motive := fun _ => T α) (Bool.rec (motive := fun _ => T α) (.node v l (ih r (Nat.pred (Nat.div n 2)) x)) (.node v (ih l (Nat.div n 2) x) r) (Nat.beq (Nat.mod n 2) 1)) (.node x l r) (Nat.beq n 0)
noncomputable def setF (f : Nat) : T α → Nat → Option α → T α :=
  Nat.rec (motive := fun _ => T α → Nat → Option α → T α) (fun t _ _ => t)
    (fun _ ih t n x => T.rec (motive := fun _ => T α) (kid none .leaf .leaf n x ih) (fun v l r _ _ => kid v l r n x ih) t) f
theorem kid_eq (v : Option α) (l r : T α) (n : Nat) (x : Option α) (ih : T α → Nat → Option α → T α) :
    kid v l r n x ih = if n = 0 then .node x l r else if n % 2 = 1 then .node v (ih l (n / 2) x) r else .node v l (ih r (n / 2 - 1) x) := by
  show Bool.rec (motive := fun _ => T α) (Bool.rec (motive := fun _ => T α) (.node v l (ih r (n / 2 - 1) x)) (.node v (ih l (n / 2) x) r) (Nat.beq (n % 2) 1)) (.node x l r) (Nat.beq n 0) = _
  rw [brec, brec, cond_beq, cond_beq]
theorem get_setF (f : Nat) : ∀ (t : T α) (n : Nat) (x : Option α) (m : Nat), n < f → (setF f t n x).get m = if m = n then x else t.get m := by
  induction f with
  | zero => intro t n x m h; omega
  | succ f ih =>
    have key : ∀ (v : Option α) (l r : T α) (n : Nat) (x : Option α) (m : Nat), n < f + 1 → (kid v l r n x (setF f)).get m = if m = n then x else (T.node v l r).get m := by
      intro v l r n x m h
      rw [kid_eq]
      by_cases h0 : n = 0
      · subst h0
        rw [if_pos rfl, get_node, get_node]
        by_cases hm : m = 0
        · subst hm; simp
        · simp [hm]
      · rw [if_neg h0]
        by_cases h1 : n % 2 = 1
        · rw [if_pos h1, get_node, get_node]
          by_cases hm : m = 0
          · subst hm; rw [if_pos rfl, if_pos rfl, if_neg (by omega)]
          · rw [if_neg hm, if_neg hm]
            by_cases hm1 : m % 2 = 1
            · rw [if_pos hm1, if_pos hm1, ih _ _ _ _ (by omega)]
              by_cases hmn : m = n
              · subst hmn; simp
              · rw [if_neg (by omega), if_neg hmn]
            · rw [if_neg hm1, if_neg hm1, if_neg (by omega)]
        · rw [if_neg h1, get_node, get_node]
          by_cases hm : m = 0
          · subst hm; rw [if_pos rfl, if_pos rfl, if_neg (by omega)]
          · rw [if_neg hm, if_neg hm]
            by_cases hm1 : m % 2 = 1
            · rw [if_pos hm1, if_pos hm1, if_neg (by omega)]
            · rw [if_neg hm1, if_neg hm1, ih _ _ _ _ (by omega)]
              by_cases hmn : m = n
              · subst hmn; simp
              · rw [if_neg (by omega), if_neg hmn]
    intro t n x m h
    cases t with
    | leaf =>
      show (kid none .leaf .leaf n x (setF f)).get m = _
      rw [key _ _ _ _ _ _ h, get_node]
      simp [get_leaf]
    | node v l r => exact key v l r n x m h
noncomputable def set (t : T α) (n : Nat) (x : Option α) : T α := setF (Nat.succ n) t n x
theorem get_set (t : T α) (n : Nat) (x : Option α) (m : Nat) : (t.set n x).get m = if m = n then x else t.get m := get_setF _ _ _ _ _ (Nat.lt_succ_self n)
noncomputable def kidK {β : Type} (v : Option α) (l r : T α) (n : Nat) (x : Option α) (ih : T α → Nat → Option α → (T α → β) → β) (k : T α → β) : β :=
  Bool.rec (motive := fun _ => β) (Bool.rec (motive := fun _ => β) (ih r (Nat.pred (Nat.div n 2)) x fun r' => k (.node v l r')) (ih l (Nat.div n 2) x fun l' => k (.node v l' r)) (Nat.beq (Nat.mod n 2) 1)) (k (.node x l r)) (Nat.beq n 0)
noncomputable def setKF {β : Type} (f : Nat) : T α → Nat → Option α → (T α → β) → β :=
  Nat.rec (motive := fun _ => T α → Nat → Option α → (T α → β) → β) (fun t _ _ k => k t)
    (fun _ ih t n x k => T.rec (motive := fun _ => β) (kidK none .leaf .leaf n x ih k) (fun v l r _ _ => kidK v l r n x ih k) t) f
theorem setKF_eq {β : Type} (f : Nat) : ∀ (t : T α) (n : Nat) (x : Option α) (k : T α → β), setKF f t n x k = k (setF f t n x) := by
  induction f with
  | zero => intro t n x k; rfl
  | succ f ih =>
    have key : ∀ (v : Option α) (l r : T α) (n : Nat) (x : Option α) (k : T α → β), kidK v l r n x (setKF f) k = k (kid v l r n x (setF f)) := by
      intro v l r n x k
      unfold kidK kid
      cases Nat.beq n 0 with
      | true => rfl
      | false => cases Nat.beq (Nat.mod n 2) 1 with
        | true => exact ih _ _ _ _
        | false => exact ih _ _ _ _
    intro t n x k
    cases t with
    | leaf => exact key _ _ _ _ _ _
    | node v l r => exact key _ _ _ _ _ _
noncomputable def setK {β : Type} (t : T α) (n : Nat) (x : Option α) (k : T α → β) : β := setKF (Nat.succ n) t n x k
theorem setK_eq {β : Type} (t : T α) (n : Nat) (x : Option α) (k : T α → β) : setK t n x k = k (t.set n x) := setKF_eq _ _ _ _ _
noncomputable def ofL : List α → Nat → T α → T α
  | [], _, t => t
  | x :: xs, i, t => ofL xs (i + 1) (t.set i (some x))
theorem get_ofL : ∀ (l : List α) (i : Nat) (t : T α) (m : Nat), (ofL l i t).get m = if i ≤ m ∧ m < i + l.length then l[m - i]? else t.get m
  | [], i, t, m => by simp only [ofL, List.length_nil]; rw [if_neg (by omega)]
  | x :: xs, i, t, m => by
    simp only [ofL, List.length_cons]
    rw [get_ofL xs (i + 1), get_set]
    by_cases h : m = i
    · subst h; rw [if_neg (by omega), if_pos rfl, if_pos (by omega)]; simp
    · rw [if_neg h]
      by_cases h2 : i ≤ m ∧ m < i + (xs.length + 1)
      · rw [if_pos (by omega), if_pos h2]
        obtain ⟨k, rfl⟩ : ∃ k, m = i + 1 + k := ⟨m - i - 1, by omega⟩
        rw [show i + 1 + k - (i + 1) = k by omega, show i + 1 + k - i = k + 1 by omega]; simp
      · rw [if_neg (by omega), if_neg h2]
end T
structure Cells where
  size : Nat
  m : T Value
  dflt : Value
  elem : TypeId
  opn : Bool
  esz : Nat
  ro : Nat := 0
noncomputable def Cells.get (c : Cells) (k : Nat) : Value := (c.m.get k).getD c.dflt
noncomputable def Cells.set (c : Cells) (k : Nat) (v : Value) : Cells := { c with m := c.m.set k (some v) }
theorem Cells.get_set (c : Cells) (k j : Nat) (v : Value) : (c.set k v).get j = if j = k then v else c.get j := by
  unfold Cells.get Cells.set
  simp only [T.get_set]
  split <;> rfl
inductive ACode where
  | var (f : Nat)
  | zero
  | upd (a : ACode) (i v : Nat)
  | cat (a : ACode) (n : Nat) (b : ACode)
structure ArrB where
  n : Nat
  cs : List (Option IntKind × ACode)
  elem : TypeId
inductive Blk where
  | cells (c : Cells)
  | map (es : Array MapEntry) (clock : Nat)
  | arr (r : ArrB)
  | chan (room k : Nat) (closed : Bool)
  | part (c : Cells)
structure Heap where
  base : Nat
  next : Nat
  m : T Blk
  hole : List Nat := []
noncomputable def Heap.get (H : Heap) (n : Nat) : Option Blk := H.m.get n
noncomputable def Heap.put (H : Heap) (n : Nat) (b : Blk) : Heap := { H with m := H.m.set n (some b) }
noncomputable def Heap.kill (H : Heap) (n : Nat) : Heap := { H with m := H.m.set n none }
noncomputable def Heap.new (H : Heap) (b : Blk) : Heap := { base := H.base, next := H.next + 1, m := H.m.set H.next (some b), hole := H.hole }
@[simp] theorem Heap.get_put (H : Heap) (n m : Nat) (b : Blk) : (H.put n b).get m = if m = n then some b else H.get m := T.get_set _ _ _ _
@[simp] theorem Heap.get_kill (H : Heap) (n m : Nat) : (H.kill n).get m = if m = n then none else H.get m := T.get_set _ _ _ _
@[simp] theorem Heap.get_new (H : Heap) (m : Nat) (b : Blk) : (H.new b).get m = if m = H.next then some b else H.get m := T.get_set _ _ _ _
@[simp] theorem Heap.next_put (H : Heap) (n : Nat) (b : Blk) : (H.put n b).next = H.next := rfl
@[simp] theorem Heap.next_kill (H : Heap) (n : Nat) : (H.kill n).next = H.next := rfl
@[simp] theorem Heap.base_put (H : Heap) (n : Nat) (b : Blk) : (H.put n b).base = H.base := rfl
@[simp] theorem Heap.base_kill (H : Heap) (n : Nat) : (H.kill n).base = H.base := rfl
@[simp] theorem Heap.base_new (H : Heap) (b : Blk) : (H.new b).base = H.base := rfl
@[simp] theorem Heap.next_new (H : Heap) (b : Blk) : (H.new b).next = H.next + 1 := rfl
structure Info where
  blk : Nat
  off : Nat
  size : Nat
  extra : Nat
  esz : Nat
abbrev Inj := Nat → Option Info
def undf : Value := .tuple #[]
def scal : Value → Bool
  | .int .. => true
  | .bool _ => true
  | _ => false
def isRef : Value → Bool
  | .slice .. => true
  | .pointer _ => true
  | _ => false
class Syms where
  val : Nat → Option Value
  scal : ∀ c v, val c = some v → scal v = true
  glob : Nat → Option Obj
  ptr : Nat → Option Value
  ref : ∀ c v, ptr c = some v → isRef v = true
  inp : Nat → Option Obj
  own : Nat → Option (Bool × Nat × Nat)
  len : ArrB → Option Nat
  at_ : ArrB → Nat → Option Value
abbrev symV (c : Nat) : Value := .float .f64 c
variable [Syms]
inductive VRel (ι : Inj) : Value → Value → Prop
  | bool (b : Bool) : VRel ι (.bool b) (.bool b)
  | int (k : IntKind) (n : Int) : VRel ι (.int k n) (.int k n)
  | string (s : ByteArray) : VRel ι (.string s) (.string s)
  | nilPtr : VRel ι (.pointer none) (.pointer none)
  | ptr {a : Addr} {i : Info} : ι a.block = some i → VRel ι (.pointer (some a)) (.pointer (some ⟨i.blk, i.off + a.off, a.spot⟩))
  | nilSlice (l c : Nat) : VRel ι (.slice none l c) (.slice none l c)
  | slice {a : Addr} {i : Info} {l c c' : Nat} : ι a.block = some i → (c' = c ∨ (a.off + c * i.esz = i.size ∧ c' * i.esz = c * i.esz + i.extra)) → c ≤ c' →
      VRel ι (.slice (some a) l c) (.slice (some ⟨i.blk, i.off + a.off, a.spot⟩) l c')
  | emptySlice (a a' : Addr) : VRel ι (.slice (some a) 0 0) (.slice (some a') 0 0)
  | nilMap : VRel ι (.map none) (.map none)
  | map {n : Nat} {i : Info} : ι n = some i → VRel ι (.map (some n)) (.map (some i.blk))
  | nilChan : VRel ι (.chan none) (.chan none)
  | chn {n : Nat} {i : Info} : ι n = some i → i.off = 0 → VRel ι (.complex .f32 n 0) (.chan (some i.blk))
  | nilFunc : VRel ι .nilFunc .nilFunc
  | func (fn : Fn) {xs ys us vs : Array Value} : xs.size = ys.size → (∀ k, k < xs.size → VRel ι (xs.getD k undf) (ys.getD k undf)) →
      us.size = vs.size → (∀ k, k < us.size → VRel ι (us.getD k undf) (vs.getD k undf)) → VRel ι (.func fn xs us) (.func fn ys vs)
  | nilIface : VRel ι .nilIface .nilIface
  | iface (t : TypeId) {v v' : Value} : VRel ι v v' → VRel ι (.iface t v) (.iface t v')
  | agg {xs ys : Array Value} : xs.size = ys.size → (∀ k, k < xs.size → VRel ι (xs.getD k undf) (ys.getD k undf)) → VRel ι (.agg xs) (.agg ys)
  | tuple {xs ys : Array Value} : xs.size = ys.size → (∀ k, k < xs.size → VRel ι (xs.getD k undf) (ys.getD k undf)) → VRel ι (.tuple xs) (.tuple ys)
  | sym {c : Nat} {v : Value} : Syms.val c = some v → VRel ι (.float .f64 c) v
  | inp {c : Nat} {v : Value} : Syms.ptr c = some v → VRel ι (.float .f32 c) v
  | ownS {c b n cap : Nat} {i : Info} : Syms.own c = some (true, b, n) → ι b = some i → n ≤ cap → (cap = n ∨ cap * i.esz ≤ i.size + i.extra) → VRel ι (.float .f32 c) (.slice (some ⟨i.blk, i.off, none⟩) n cap)
  | ownP {c b k : Nat} {i : Info} : Syms.own c = some (false, b, k) → ι b = some i → VRel ι (.float .f32 c) (.pointer (some ⟨i.blk, i.off + k, none⟩))
theorem Syms.refs {c : Nat} {v : Value} (h : Syms.ptr c = some v) : (∃ a l n, v = .slice a l n) ∨ ∃ a, v = .pointer a := by
  have := Syms.ref c v h
  cases v <;> first | exact .inl ⟨_, _, _, rfl⟩ | exact .inr ⟨_, rfl⟩ | simp [isRef] at this
theorem Syms.cases {c : Nat} {v : Value} (h : Syms.val c = some v) : (∃ k n, v = .int k n) ∨ ∃ b, v = .bool b := by
  have := Syms.scal c v h
  cases v <;> first | exact .inl ⟨_, _, rfl⟩ | exact .inr ⟨_, rfl⟩ | simp [Ev.scal] at this
def Sub (ι ι' : Inj) : Prop := ∀ n i, ι n = some i → ι' n = some i
theorem Sub.refl (ι : Inj) : Sub ι ι := fun _ _ h => h
theorem Sub.trans {a b c : Inj} (h : Sub a b) (h' : Sub b c) : Sub a c := fun n i x => h' n i (h n i x)
theorem VRel.mono {ι ι' : Inj} (hs : Sub ι ι') {v v' : Value} (h : VRel ι v v') : VRel ι' v v' := by
  induction h with
  | bool b => exact .bool b
  | int k n => exact .int k n
  | string s => exact .string s
  | nilPtr => exact .nilPtr
  | ptr h => exact .ptr (hs _ _ h)
  | nilSlice l c => exact .nilSlice l c
  | slice h h2 h3 => exact .slice (hs _ _ h) h2 h3
  | emptySlice a a' => exact .emptySlice a a'
  | nilMap => exact .nilMap
  | map h => exact .map (hs _ _ h)
  | nilChan => exact .nilChan
  | chn h ho => exact .chn (hs _ _ h) ho
  | nilFunc => exact .nilFunc
  | func fn h1 _ h3 _ ih1 ih2 => exact .func fn h1 ih1 h3 ih2
  | nilIface => exact .nilIface
  | iface t _ ih => exact .iface t ih
  | agg h1 _ ih => exact .agg h1 ih
  | tuple h1 _ ih => exact .tuple h1 ih
  | sym h => exact .sym h
  | inp h => exact .inp h
  | ownS h h2 h3 h4 => exact .ownS h (hs _ _ h2) h3 h4
  | ownP h h2 => exact .ownP h (hs _ _ h2)
def ARel (ι : Inj) (xs ys : Array Value) : Prop := xs.size = ys.size ∧ ∀ k, k < xs.size → VRel ι (xs.getD k undf) (ys.getD k undf)
def AddrRel (ι : Inj) (a a' : Addr) : Prop := ∃ i, ι a.block = some i ∧ a' = ⟨i.blk, i.off + a.off, a.spot⟩
theorem AddrRel.mono {ι ι' : Inj} (hs : Sub ι ι') {a a' : Addr} (h : AddrRel ι a a') : AddrRel ι' a a' := ⟨h.choose, hs _ _ h.choose_spec.1, h.choose_spec.2⟩
theorem AddrRel.ptr {ι : Inj} {a a' : Addr} (h : AddrRel ι a a') : VRel ι (.pointer (some a)) (.pointer (some a')) := by
  obtain ⟨i, h1, rfl⟩ := h
  exact .ptr h1
theorem AddrRel.add {ι : Inj} {a a' : Addr} (h : AddrRel ι a a') (n : Nat) : AddrRel ι (a.add n) (a'.add n) := by
  obtain ⟨i, h1, rfl⟩ := h
  unfold Addr.add
  by_cases hn : n = 0
  · simp only [hn, if_true]; exact ⟨i, h1, rfl⟩
  · simp only [hn, if_false]; exact ⟨i, h1, by simp [Nat.add_assoc]⟩
theorem VRel.ptr_inv {ι : Inj} {a : Addr} {v' : Value} (h : VRel ι (.pointer (some a)) v') : ∃ a', v' = .pointer (some a') ∧ AddrRel ι a a' := by
  cases h with
  | ptr h => exact ⟨_, rfl, _, h, rfl⟩
theorem ARel.mono {ι ι' : Inj} (hs : Sub ι ι') {xs ys : Array Value} (h : ARel ι xs ys) : ARel ι' xs ys := ⟨h.1, fun k hk => (h.2 k hk).mono hs⟩
theorem ARel.agg {ι : Inj} {xs ys : Array Value} (h : ARel ι xs ys) : VRel ι (.agg xs) (.agg ys) := .agg h.1 h.2
theorem ARel.tuple {ι : Inj} {xs ys : Array Value} (h : ARel ι xs ys) : VRel ι (.tuple xs) (.tuple ys) := .tuple h.1 h.2
theorem ARel.nil {ι : Inj} : ARel ι #[] #[] := ⟨rfl, fun k hk => by simp at hk⟩
theorem VRel.undf {ι : Inj} : VRel ι undf undf := ARel.nil.tuple
def ERel (ι : Inj) (e e' : MapEntry) : Prop := VRel ι e.key e'.key ∧ VRel ι e.val e'.val ∧ e.born = e'.born
def dflE : MapEntry := ⟨undf, undf, 0⟩
def EsRel (ι : Inj) (es es' : Array MapEntry) : Prop := es.size = es'.size ∧ ∀ k, k < es.size → ERel ι (es.getD k dflE) (es'.getD k dflE)
theorem ERel.mono {ι ι' : Inj} (hs : Sub ι ι') {e e' : MapEntry} (h : ERel ι e e') : ERel ι' e e' := ⟨h.1.mono hs, h.2.1.mono hs, h.2.2⟩
theorem EsRel.mono {ι ι' : Inj} (hs : Sub ι ι') {e e' : Array MapEntry} (h : EsRel ι e e') : EsRel ι' e e' := ⟨h.1, fun k hk => (h.2 k hk).mono hs⟩
def CRel (ι : Inj) (i : Info) (o : Obj) (c : Cells) : Prop :=
  (i.size = c.size ∧ i.esz = c.esz ∧ 0 < c.esz) ∧ ∃ cs : Array Value, o = .cells cs c.elem (0, 0) ∧ i.off + c.size + i.extra ≤ cs.size ∧
    (c.opn = false → i.extra = 0 ∧ i.off = 0 ∧ cs.size = c.size) ∧ ∀ k, k < c.size → VRel ι (c.get k) (cs.getD (i.off + k) undf)
def NRel (i : Info) (o : Obj) (r : ArrB) : Prop :=
  (i.esz = r.cs.length ∧ 0 < r.cs.length) ∧ ∃ (cs : Array Value) (n : Nat), o = .cells cs r.elem (0, 0) ∧ Syms.len r = some n ∧ i.off + i.size + i.extra ≤ cs.size ∧ i.off + n * r.cs.length ≤ cs.size ∧
    ∀ j, j < n * r.cs.length → ∃ v, Syms.at_ r j = some v ∧ cs[i.off + j]? = some v
def BRel (ι : Inj) (i : Info) (o : Obj) : Blk → Prop
  | .cells c => CRel ι i o c
  | .arr r => NRel i o r
  | .map es clock => ∃ es', o = .map es' clock ∧ EsRel ι es es'
  | .chan room k cl => i.off = 0 ∧ o = .chan room #[] cl k k false
  | .part c => ∃ cs : Array Value, o = .cells cs c.elem (0, 0) ∧ i.off + c.size ≤ cs.size ∧ ∀ k, k < c.size → c.ro.testBit k = true → VRel ι (c.get k) (cs.getD (i.off + k) undf)
theorem BRel.mono {ι ι' : Inj} (hs : Sub ι ι') {i : Info} {o : Obj} {b : Blk} (h : BRel ι i o b) : BRel ι' i o b := by
  cases b with
  | cells c =>
    obtain ⟨h1, cs, h2, h3, h4, h5⟩ := h
    exact ⟨h1, cs, h2, h3, h4, fun k hk => (h5 k hk).mono hs⟩
  | arr r => exact h
  | map es clock =>
    obtain ⟨es', h1, h2⟩ := h
    exact ⟨es', h1, h2.mono hs⟩
  | chan room k cl => exact h
  | part c =>
    obtain ⟨cs, h1, h2, h3⟩ := h
    exact ⟨cs, h1, h2, fun k hk hr => (h3 k hk hr).mono hs⟩
structure Rel (P : Program) (ι : Inj) (H : Heap) (w : World) : Prop where
  glb : (∀ b, b < P.globals.size → w.heap[b]? = Syms.glob b) ∧ ∀ b o, Syms.inp b = some o → w.heap[b]? = some o
  gsize : H.base = P.globals.size
  glob : ∀ g, g < H.base → ∃ i, ι g = some i ∧ i.blk = g ∧ i.off = 0
  over : ∀ n i, ι n = some i → H.base ≤ n → H.base ≤ i.blk ∧ Syms.inp i.blk = none
  next : H.base ≤ H.next
  room : H.base ≤ w.heap.size
  fresh : ∀ n, H.next ≤ n → ι n = none
  hole : ∀ n, n ∈ H.hole → n < H.next ∧ ι n = none
  below : ∀ n i, ι n = some i → i.blk < w.heap.size
  live : ∀ n b, H.get n = some b → ∃ i o, ι n = some i ∧ w.heap[i.blk]? = some o ∧ BRel ι i o b
  inj : ∀ n m b c i j, H.get n = some b → H.get m = some c → ι n = some i → ι m = some j → i.blk = j.blk → n = m
structure Ext (P : Program) (ι : Inj) (w : World) (ι' : Inj) (w' : World) : Prop where
  sub : Sub ι ι'
  size : w.heap.size ≤ w'.heap.size
  img : ∀ n i, ι' n = some i → P.globals.size ≤ n → (∃ m j, ι m = some j ∧ P.globals.size ≤ m ∧ j.blk = i.blk) ∨ w.heap.size ≤ i.blk
  keep : ∀ b, b < w.heap.size → (∀ n i, ι n = some i → P.globals.size ≤ n → i.blk ≠ b) → w'.heap[b]? = w.heap[b]?
  froz : ∀ a, w'.frozen? a = w.frozen? a
  tape : w'.tape = w.tape
  os : w'.os = w.os
  output : w'.output = w.output
theorem Ext.refl {P : Program} (ι : Inj) (w : World) : Ext P ι w ι w := ⟨Sub.refl ι, Nat.le_refl _, fun n i h h' => .inl ⟨n, i, h, h', rfl⟩, fun _ _ _ => rfl, fun _ => rfl, rfl, rfl, rfl⟩
theorem Ext.trans {P : Program} {ι ι' ι'' : Inj} {w w' w'' : World} (h : Ext P ι w ι' w') (h' : Ext P ι' w' ι'' w'') : Ext P ι w ι'' w'' := by
  refine ⟨h.sub.trans h'.sub, Nat.le_trans h.size h'.size, fun n i hn hg => ?_, fun b hb hne => ?_, fun a => (h'.froz a).trans (h.froz a), h'.tape.trans h.tape, h'.os.trans h.os, h'.output.trans h.output⟩
  · rcases h'.img n i hn hg with ⟨m, j, hm, hgm, hj⟩ | hge
    · rcases h.img m j hm hgm with ⟨m', j', hm', hgm', hj'⟩ | hge
      · exact .inl ⟨m', j', hm', hgm', hj'.trans hj⟩
      · exact .inr (hj ▸ hge)
    · exact .inr (Nat.le_trans h.size hge)
  · rw [h'.keep b (Nat.lt_of_lt_of_le hb h.size) (fun n i hn hg he => ?_), h.keep b hb hne]
    rcases h.img n i hn hg with ⟨m, j, hm, hgm, hj⟩ | hge
    · exact hne m j hm hgm (hj.trans he)
    · omega
theorem Ext.draw {P : Program} (ι : Inj) (w : World) (n : Nat) : Ext P ι w ι { w with drawn := n } := ⟨Sub.refl ι, Nat.le_refl _, fun n i h h' => .inl ⟨n, i, h, h', rfl⟩, fun _ _ _ => rfl, fun _ => rfl, rfl, rfl, rfl⟩
theorem Rel.draw {P : Program} {ι : Inj} {H : Heap} {w : World} (h : Rel P ι H w) (n : Nat) : Rel P ι H { w with drawn := n } := ⟨h.glb, h.gsize, h.glob, h.over, h.next, h.room, h.fresh, h.hole, h.below, h.live, h.inj⟩
theorem Rel.inpLt {P : Program} {ι : Inj} {H : Heap} {w : World} (hw : Rel P ι H w) {b : Nat} {o : Obj} (h : Syms.inp b = some o) : b < w.heap.size := by
  have := hw.glb.2 b o h
  exact (Array.getElem?_eq_some_iff.1 this).1
theorem Rel.inpNew {P : Program} {ι : Inj} {H : Heap} {w : World} (hw : Rel P ι H w) {b : Nat} (h : w.heap.size ≤ b) : Syms.inp b = none := by
  cases e : Syms.inp b with
  | none => rfl
  | some o => have := hw.inpLt e; omega
theorem Rel.keepG {P : Program} {ι : Inj} {H : Heap} {w w' : World} (hw : Rel P ι H w) (hk : ∀ b, b < w.heap.size → (∀ n i, ι n = some i → P.globals.size ≤ n → i.blk ≠ b) → w'.heap[b]? = w.heap[b]?) :
    (∀ b, b < P.globals.size → w'.heap[b]? = Syms.glob b) ∧ ∀ b o, Syms.inp b = some o → w'.heap[b]? = some o := by
  refine ⟨fun b hb => ?_, fun b o ho => ?_⟩
  · rw [hk b (by have := hw.room; rw [hw.gsize] at this; omega) (fun n i hn hg => by have := (hw.over n i hn (by rw [hw.gsize]; exact hg)).1; rw [hw.gsize] at this; omega)]
    exact hw.glb.1 b hb
  · rw [hk b (hw.inpLt ho) (fun n i hn hg e => by have := (hw.over n i hn (by rw [hw.gsize]; exact hg)).2; rw [e, ho] at this; simp at this)]
    exact hw.glb.2 b o ho
noncomputable def Heap.load (H : Heap) (a : Addr) : Option Value :=
  match H.get a.block with
  | some (.cells c) => if a.spot.isNone && a.off < c.size then some (c.get a.off) else none
  | some (.part c) => if a.spot.isNone && a.off < c.size && c.ro.testBit a.off then some (c.get a.off) else none
  | _ => none
def oneCell : Value → Bool
  | .agg _ | .tuple _ => false
  | _ => true
noncomputable def Heap.store (H : Heap) (a : Addr) (v : Value) : Option Heap :=
  match H.get a.block with
  | some (.cells c) => if a.spot.isNone && a.off < c.size && oneCell v && Nat.ble H.base a.block && (Nat.beq c.ro 0 || !c.ro.testBit a.off) then some (H.put a.block (.cells (c.set a.off v))) else none
  | _ => none
noncomputable def mkCells (cs : Array Value) (elem : TypeId) : Cells := { size := cs.size, m := T.ofL cs.toList 0 .leaf, dflt := undf, elem, opn := false, esz := 1 }
theorem mkCells_get (cs : Array Value) (elem : TypeId) (k : Nat) (hk : k < cs.size) : (mkCells cs elem).get k = cs.getD k undf := by
  unfold mkCells Cells.get
  simp only [T.get_ofL]
  rw [if_pos (by simp; omega)]
  simp [hk]
noncomputable def arun (P : Program) {α : Type} : Sem α → Heap → Option (α × Heap)
  | .pure a, H => some (a, H)
  | .load _ a k, H => match H.load a with
    | some v => arun P (k v) H
    | none => none
  | .store _ a v k, H => match H.store a v with
    | some H' => arun P k H'
    | none => none
  | .new o k, H => match o with
    | .cells c elem fz => if fz.1 = 0 ∧ fz.2 = 0 then arun P (k H.next) (H.new (.cells (mkCells c elem))) else none
    | .map es clock => arun P (k H.next) (H.new (.map es clock))
    | _ => none
  | .shape r k, H => match H.get r with
    | some (.cells c) => if c.opn then none else arun P (k (some (c.elem, c.size))) H
    | _ => none
  | .freeze .., _ => none
  | .frozen a k, H => match H.get a.block with
    | some _ => arun P (k false) H
    | none => none
  | .getObj r k, H => match H.get r with
    | some (.map es clock) => arun P (k (.map es clock)) H
    | _ => none
  | .setObj r o k, H => match H.get r, o with
    | some (.map ..), .map es clock => if Nat.ble H.base r then arun P k (H.put r (.map es clock)) else none
    | _, _ => none
  | .choose q k, H => if q.forced then arun P (k 0) H else none
  | .sys .., _ => none
  | .program k, H => arun P (k P) H
  | .mark .., _ => none
  | .halt _, _ => none
theorem arun_bind' (P : Program) {α β : Type} (x : Sem α) (f : α → Sem β) : ∀ H, arun P (x.bind f) H = (arun P x H).bind fun r => arun P (f r.1) r.2 := by
  induction x with
  | pure a => intro H; simp [Sem.bind, arun]
  | load m a k ih => intro H; simp only [Sem.bind, arun]; split <;> simp [ih]
  | store m a v k ih => intro H; simp only [Sem.bind, arun]; split <;> simp [ih]
  | new o k ih =>
    intro H; simp only [Sem.bind, arun]
    split
    · split <;> simp [ih]
    · simp [ih]
    · simp
  | shape r k ih => intro H; simp only [Sem.bind, arun]; split <;> (try split) <;> simp [ih]
  | freeze a n k ih => intro H; simp [Sem.bind, arun]
  | frozen a k ih => intro H; simp only [Sem.bind, arun]; split <;> simp [ih]
  | getObj r k ih => intro H; simp only [Sem.bind, arun]; split <;> simp [ih]
  | setObj r o k ih => intro H; simp only [Sem.bind, arun]; split <;> (try split) <;> simp [ih]
  | choose q k ih => intro H; simp only [Sem.bind, arun]; split <;> simp [ih]
  | sys c k ih => intro H; simp [Sem.bind, arun]
  | program k ih => intro H; simp [Sem.bind, arun, ih]
  | mark m k ih => intro H; simp [Sem.bind, arun]
  | halt h => intro H; simp [Sem.bind, arun]
theorem arun_bind (P : Program) {α β : Type} (x : Sem α) (f : α → Sem β) (H : Heap) : arun P (x >>= f) H = (arun P x H).bind fun r => arun P (f r.1) r.2 := arun_bind' P x f H
@[simp] theorem arun_pure (P : Program) {α : Type} (a : α) (H : Heap) : arun P (Pure.pure a : Sem α) H = some (a, H) := rfl
structure Ro (H H' : Heap) : Prop where
  next : H.next ≤ H'.next
  cells : ∀ n c, n < H.next → H.get n = some (.cells c) → ∃ c', H'.get n = some (.cells c') ∧ c'.ro = c.ro ∧ c'.size = c.size ∧ (∀ off, c.ro.testBit off = true → c'.get off = c.get off) ∧ c'.elem = c.elem
  chan : ∀ n r k cl, n < H.next → H.get n = some (.chan r k cl) → H'.get n = some (.chan r k cl)
theorem Ro.refl (H : Heap) : Ro H H := ⟨Nat.le_refl _, fun _ c _ hc => ⟨c, hc, rfl, rfl, fun _ _ => rfl, rfl⟩, fun _ _ _ _ _ h => h⟩
theorem Ro.trans {H H' H'' : Heap} (h : Ro H H') (h' : Ro H' H'') : Ro H H'' := by
  refine ⟨Nat.le_trans h.next h'.next, fun n c hn hc => ?_, fun n r k cl hn hc => h'.chan n r k cl (Nat.lt_of_lt_of_le hn h.next) (h.chan n r k cl hn hc)⟩
  obtain ⟨c1, a1, a2, a3, a4, a5⟩ := h.cells n c hn hc
  obtain ⟨c2, b1, b2, b3, b4, b5⟩ := h'.cells n c1 (Nat.lt_of_lt_of_le hn h.next) a1
  exact ⟨c2, b1, b2.trans a2, b3.trans a3, fun off ho => (b4 off (by rw [a2]; exact ho)).trans (a4 off ho), b5.trans a5⟩
theorem Ro.new (H : Heap) (b : Blk) : Ro H (H.new b) := by
  refine ⟨Nat.le_succ _, fun n c hn hc => ⟨c, ?_, rfl, rfl, fun _ _ => rfl, rfl⟩, fun n r k cl hn hc => ?_⟩ <;> (rw [Heap.get_new, if_neg (by omega)]; exact hc)
theorem Ro.store {H H' : Heap} {a : Addr} {v : Value} (hs : H.store a v = some H') : Ro H H' := by
  unfold Heap.store at hs
  split at hs
  · rename_i c1 hc1
    split at hs
    · rename_i hk
      simp only [Option.some.injEq] at hs
      subst hs
      simp only [Bool.and_eq_true, Bool.or_eq_true, Bool.not_eq_true', Nat.beq_eq] at hk
      refine ⟨Nat.le_refl _, fun n c hn hc => ?_, fun n r k cl hn hc => ?_⟩
      · by_cases e : n = a.block
        · subst e
          rw [hc1] at hc
          simp only [Option.some.injEq, Blk.cells.injEq] at hc
          subst hc
          refine ⟨c1.set a.off v, by simp, rfl, rfl, fun off ho => ?_, rfl⟩
          rw [Cells.get_set, if_neg]
          intro e2
          subst e2
          rcases hk.2 with h0 | h0
          · rw [h0] at ho; simp at ho
          · rw [h0] at ho; simp at ho
        · exact ⟨c, by simp [e, hc], rfl, rfl, fun _ _ => rfl, rfl⟩
      · by_cases e : n = a.block
        · subst e; rw [hc1] at hc; simp at hc
        · simp [e, hc]
    · simp at hs
  · simp at hs
theorem Ro.putMap {H : Heap} {r : Nat} {es es' : Array MapEntry} {k k' : Nat} (hg : H.get r = some (.map es k)) : Ro H (H.put r (.map es' k')) := by
  refine ⟨Nat.le_refl _, fun n c hn hc => ⟨c, ?_, rfl, rfl, fun _ _ => rfl, rfl⟩, fun n r' k cl hn hc => ?_⟩ <;>
    (rw [Heap.get_put, if_neg]
     · exact hc
     · intro e; subst e; rw [hg] at hc; simp at hc)
theorem arun_ro {P : Program} {α : Type} (s : Sem α) : ∀ {H H' : Heap} {a : α}, arun P s H = some (a, H') → Ro H H' := by
  induction s with
  | pure x => intro H H' a h; simp only [arun, Option.some.injEq, Prod.mk.injEq] at h; obtain ⟨_, rfl⟩ := h; exact Ro.refl _
  | load m a k ih => intro H H' x h; simp only [arun] at h; split at h <;> first | exact ih _ h | simp at h
  | store m a v k ih =>
    intro H H' x h
    simp only [arun] at h
    split at h
    · rename_i H1 hs
      exact (Ro.store hs).trans (ih h)
    · simp at h
  | new o k ih =>
    intro H H' x h
    simp only [arun] at h
    split at h
    · split at h
      · exact (Ro.new _ _).trans (ih _ h)
      · simp at h
    · exact (Ro.new _ _).trans (ih _ h)
    · simp at h
  | shape r k ih => intro H H' x h; simp only [arun] at h; split at h <;> (try split at h) <;> first | exact ih _ h | simp at h
  | freeze a n k ih => intro H H' x h; simp [arun] at h
  | frozen a k ih => intro H H' x h; simp only [arun] at h; split at h <;> first | exact ih _ h | simp at h
  | getObj r k ih => intro H H' x h; simp only [arun] at h; split at h <;> first | exact ih _ h | simp at h
  | setObj r o k ih =>
    intro H H' x h
    simp only [arun] at h
    cases hg : H.get r with
    | none => rw [hg] at h; simp at h
    | some b =>
      rw [hg] at h
      cases b with
      | map es0 c0 =>
        cases o with
        | map es clock =>
          simp only at h
          split at h
          · exact (Ro.putMap hg).trans (ih h)
          · simp at h
        | _ => simp at h
      | _ => simp at h
  | choose q k ih => intro H H' x h; simp only [arun] at h; split at h <;> first | exact ih _ h | simp at h
  | sys c k ih => intro H H' x h; simp [arun] at h
  | program k ih => intro H H' x h; exact ih _ h
  | mark m k ih => intro H H' x h; simp [arun] at h
  | halt y => intro H H' x h; simp [arun] at h
theorem Ro.lives {H H' : Heap} (h : Ro H H') {ι : Inj} (hf : ∀ n, H.next ≤ n → ι n = none) : ∀ n c, H.get n = some (.cells c) → (∃ i, ι n = some i) → ∃ c', H'.get n = some (.cells c') ∧ c'.ro = c.ro ∧ c'.size = c.size := fun n c hn ⟨i, hi⟩ => by
  obtain ⟨c', a1, a2, a3, _⟩ := h.cells n c (by
    rcases Nat.lt_or_ge n H.next with hlt | hge
    · exact hlt
    · rw [hf n hge] at hi; simp at hi) hn
  exact ⟨c', a1, a2, a3⟩
def EvOk (ι : Inj) (H : Heap) (w' : World) (e : Event) : Prop :=
  match e.loc with
  | .cell a => a.block < w'.heap.size ∧ (e.write = true → ∀ n c i off, H.get n = some (.cells c) → ι n = some i → i.blk = a.block → a.off = i.off + off → off < c.size → c.ro.testBit off = false)
  | .obj r => r < w'.heap.size
  | _ => False
def EvsOk (P : Program) (ι : Inj) (H : Heap) {β : Type} (s' : Sem β) (w w' : World) : Prop := ∀ e ∈ s'.events P w #[], EvOk ι H w' e
theorem EvOk.more {ι : Inj} {H : Heap} {w w' : World} {e : Event} (h : EvOk ι H w e) (hs : w.heap.size ≤ w'.heap.size) : EvOk ι H w' e := by
  unfold EvOk at h ⊢
  cases hl : e.loc with
  | cell a => rw [hl] at h; exact ⟨Nat.lt_of_lt_of_le h.1 hs, h.2⟩
  | obj r => rw [hl] at h; exact Nat.lt_of_lt_of_le (show r < w.heap.size from h) hs
  | _ => rw [hl] at h; exact h
theorem EvsOk.none {P : Program} {ι : Inj} {H : Heap} {β : Type} {s' : Sem β} {w w' : World} (h : s'.events P w #[] = #[]) : EvsOk P ι H s' w w' := fun e he => by rw [h] at he; simp at he
theorem EvOk.back {ι ι' : Inj} {H H' : Heap} {w : World} {e : Event} (h : EvOk ι' H' w e) (hsub : Sub ι ι') (hro : ∀ n c, H.get n = some (.cells c) → (∃ i, ι n = some i) → ∃ c', H'.get n = some (.cells c') ∧ c'.ro = c.ro ∧ c'.size = c.size) : EvOk ι H w e := by
  unfold EvOk at h ⊢
  split
  · rename_i a hl
    rw [hl] at h
    refine ⟨h.1, fun hw n c i off hn hi hb ho hlt => ?_⟩
    obtain ⟨c', q1, q2, q3⟩ := hro n c hn ⟨i, hi⟩
    rw [← q2]
    exact h.2 hw n c' i off q1 (hsub _ _ hi) hb ho (by omega)
  · rename_i r hl
    rw [hl] at h; exact h
  · rename_i h1 h2
    revert h
    cases hl : e.loc with
    | cell a => exact absurd hl (h1 a)
    | obj r => exact absurd hl (h2 r)
    | _ => exact id
def Sim (P : Program) (ι : Inj) {α β : Type} (R : Inj → α → β → Prop) (s : Sem α) (s' : Sem β) : Prop :=
  ∀ H a H', arun P s H = some (a, H') → ∀ w, Rel P ι H w → ∃ ι' b w', s'.run P w = .ok b w' ∧ Ext P ι w ι' w' ∧ Rel P ι' H' w' ∧ R ι' a b ∧ EvsOk P ι H s' w w' ∧ w'.heap.size + H.next = w.heap.size + H'.next
section
variable {P : Program} {ι : Inj}
theorem Sim.bind {α β γ δ : Type} {R : Inj → α → β → Prop} {R' : Inj → γ → δ → Prop} {s : Sem α} {s' : Sem β} {f : α → Sem γ} {f' : β → Sem δ}
    (h : Sim P ι R s s') (hf : ∀ ι' a b, Sub ι ι' → R ι' a b → Sim P ι' R' (f a) (f' b)) : Sim P ι R' (s >>= f) (s' >>= f') := by
  intro H c H'' hr w hw
  rw [arun_bind] at hr
  cases h1 : arun P s H with
  | none => rw [h1] at hr; simp at hr
  | some r =>
    obtain ⟨a, H'⟩ := r
    rw [h1] at hr
    simp only [Option.bind_some] at hr
    obtain ⟨ι', b, w', e1, x1, r1, q1, v1, z1⟩ := h H a H' h1 w hw
    obtain ⟨ι'', d, w'', e2, x2, r2, q2, v2, z2⟩ := hf ι' a b x1.sub q1 H' c H'' hr w' r1
    refine ⟨ι'', d, w'', by rw [Sem.run_bind, e1]; exact e2, x1.trans x2, r2, q2, fun e he => ?_, by omega⟩
    rw [Sem.events_bind, e1] at he
    have he' : e ∈ (f' b).events P w' (s'.events P w #[]) := he
    rw [Sem.events_acc] at he'
    rcases Array.mem_append.1 he' with h3 | h3
    · exact (v1 e h3).more x2.size
    · exact (v2 e h3).back x1.sub ((arun_ro s h1).lives hw.fresh)
theorem Sim.pure {α β : Type} {R : Inj → α → β → Prop} {a : α} {b : β} (h : R ι a b) : Sim P ι R (Pure.pure a) (Pure.pure b) := by
  intro H x H' hr w hw
  simp at hr
  obtain ⟨rfl, rfl⟩ := hr
  exact ⟨ι, b, w, rfl, Ext.refl _ _, hw, h, .none rfl, rfl⟩
theorem Sim.halt {α β : Type} {R : Inj → α → β → Prop} {h : Halt} {s' : Sem β} : Sim P ι R (Sem.halt h : Sem α) s' := by
  intro H x H' hr
  simp [arun] at hr
theorem Sim.mono {α β : Type} {R R' : Inj → α → β → Prop} {s : Sem α} {s' : Sem β} (h : Sim P ι R s s') (hr : ∀ ι' a b, Sub ι ι' → R ι' a b → R' ι' a b) : Sim P ι R' s s' := by
  intro H a H' e w hw
  obtain ⟨ι', b, w', e1, x1, r1, q1, v1, z1⟩ := h H a H' e w hw
  exact ⟨ι', b, w', e1, x1, r1, hr _ _ _ x1.sub q1, v1, z1⟩
def EqR {α : Type} : Inj → α → α → Prop := fun _ a b => a = b
theorem Sim.program : Sim P ι EqR program program := by
  intro H x H' hr w hw
  simp only [Go.program, arun, Option.some.injEq, Prod.mk.injEq] at hr
  obtain ⟨rfl, rfl⟩ := hr
  exact ⟨ι, P, w, rfl, Ext.refl _ _, hw, rfl, .none rfl, rfl⟩
theorem Sim.prog : Sim P ι (fun _ a b => a = P ∧ b = P) Go.program Go.program := by
  intro H x H' hr w hw
  simp only [Go.program, arun, Option.some.injEq, Prod.mk.injEq] at hr
  obtain ⟨rfl, rfl⟩ := hr
  exact ⟨ι, _, w, rfl, Ext.refl _ _, hw, ⟨rfl, rfl⟩, .none rfl, rfl⟩
end
end Go.Ev
namespace Go.Ev
set_option linter.unusedSectionVars false      -- the symbols' class stands for all texts
variable [Syms] {P : Program} {ι : Inj}
theorem getD_eq {α : Type} (xs : Array α) (k : Nat) (d : α) (h : k < xs.size) : xs[k]? = some (xs.getD k d) := by
  simp [h]
theorem Rel.cell {H : Heap} {w : World} (hw : Rel P ι H w) {a a' : Addr} (ha : AddrRel ι a a') {v : Value} (h : H.load a = some v) :
    ∃ v', w.cell? a' = some v' ∧ VRel ι v v' := by
  obtain ⟨i, hi, rfl⟩ := ha
  unfold Heap.load at h
  cases hb : H.get a.block with
  | none => rw [hb] at h; simp at h
  | some b =>
    obtain ⟨j, o, hj, ho, hrel⟩ := hw.live _ _ hb
    obtain rfl : i = j := by rw [hi] at hj; exact Option.some.inj hj
    cases b with
    | map es clock => rw [hb] at h; simp at h
    | arr r => rw [hb] at h; simp at h
    | chan _ _ _ => rw [hb] at h; simp at h
    | part c =>
      rw [hb] at h
      simp only at h
      split at h
      · rename_i hk
        simp only [Bool.and_eq_true, decide_eq_true_eq] at hk
        have hs : a.spot = none := by simpa using hk.1.1
        simp only [Option.some.injEq] at h
        subst h
        obtain ⟨cs, rfl, h3, h5⟩ := hrel
        refine ⟨cs.getD (i.off + a.off) undf, ?_, h5 _ hk.1.2 hk.2⟩
        have := hk.1.2
        simp only [World.cell?, ho, hs, Option.isSome_none, Bool.false_eq_true, if_false]
        exact getD_eq _ _ _ (by omega)
      · simp at h
    | cells c =>
      rw [hb] at h
      simp only at h
      by_cases hk : a.spot.isNone = true ∧ a.off < c.size
      · have hs : a.spot = none := by simpa using hk.1
        rw [if_pos (by simp [hs, hk.2])] at h
        simp only [Option.some.injEq] at h
        subst h
        obtain ⟨h1, cs, rfl, h3, h4, h5⟩ := hrel
        refine ⟨cs.getD (i.off + a.off) undf, ?_, h5 _ hk.2⟩
        simp only [World.cell?, ho, hs, Option.isSome_none, Bool.false_eq_true, if_false]
        exact getD_eq _ _ _ (by omega)
      · rw [if_neg (by simpa using hk)] at h; simp at h
theorem cell_lt {w : World} {a : Addr} {v : Value} (h : w.cell? a = some v) : a.block < w.heap.size := by
  unfold World.cell? at h
  cases ho : w.heap[a.block]? with
  | none => rw [ho] at h; simp at h
  | some o => exact (Array.getElem?_eq_some_iff.1 ho).1
theorem Sim.load {a a' : Addr} (ha : AddrRel ι a a') (m : Mode) : Sim P ι VRel (Go.load a m) (Go.load a' m) := by
  intro H v H' hr w hw
  simp only [Go.load, arun] at hr
  cases hl : H.load a with
  | none => rw [hl] at hr; simp at hr
  | some x =>
    rw [hl] at hr
    simp only [Option.some.injEq, Prod.mk.injEq] at hr
    obtain ⟨rfl, rfl⟩ := hr
    obtain ⟨v', hc, hv⟩ := hw.cell ha hl
    refine ⟨ι, v', w, by rw [run_load, hc], Ext.refl _ _, hw, hv, fun e he => ?_, rfl⟩
    rw [events_load, hc] at he
    simp only [List.push_toArray, List.nil_append, List.mem_toArray, List.mem_cons, List.not_mem_nil, or_false] at he
    subst he
    exact ⟨cell_lt hc, fun h => by simp at h⟩
theorem VRel.oneCell {v v' : Value} (h : VRel ι v v') : oneCell v = oneCell v' := by
  cases h <;> first | rfl | skip
  · rename_i h
    rcases Syms.cases h with ⟨k, n, rfl⟩ | ⟨b, rfl⟩ <;> rfl
  · rename_i h
    rcases Syms.refs h with ⟨a, l, n, rfl⟩ | ⟨a, rfl⟩ <;> rfl
theorem oneCell_eq (v : Value) : oneCell v = v.oneCell' := by cases v <;> rfl
theorem Rel.store {H H' : Heap} {w : World} (hw : Rel P ι H w) {a a' : Addr} (ha : AddrRel ι a a') {v v' : Value} (hv : VRel ι v v') (h : H.store a v = some H') :
    (∃ x, w.cell? a' = some x) ∧ w.frozen? a' = false ∧ v'.oneCell' = true ∧ Ext P ι w ι (w.setCell a' v') ∧ Rel P ι H' (w.setCell a' v') := by
  obtain ⟨i, hi, rfl⟩ := ha
  unfold Heap.store at h
  cases hb : H.get a.block with
  | none => rw [hb] at h; simp at h
  | some b =>
    obtain ⟨j, o, hj, ho, hrel⟩ := hw.live _ _ hb
    obtain rfl : i = j := by rw [hi] at hj; exact Option.some.inj hj
    cases b with
    | map es clock => rw [hb] at h; simp at h
    | arr r => rw [hb] at h; simp at h
    | chan _ _ _ => rw [hb] at h; simp at h
    | part _ => rw [hb] at h; simp at h
    | cells c =>
      rw [hb] at h
      simp only at h
      by_cases hk : (a.spot.isNone && decide (a.off < c.size) && Ev.oneCell v && Nat.ble H.base a.block && (Nat.beq c.ro 0 || !c.ro.testBit a.off)) = true
      · rw [if_pos hk] at h
        simp only [Bool.and_eq_true, decide_eq_true_eq] at hk
        obtain ⟨⟨⟨⟨hk1, hk2⟩, hk3⟩, hk4⟩, _⟩ := hk
        have hkg : P.globals.size ≤ a.block := by rw [← hw.gsize]; exact Nat.le_of_ble_eq_true hk4
        have hs : a.spot = none := by simpa using hk1
        simp only [Option.some.injEq] at h
        subst h
        obtain ⟨h1, cs, rfl, h3, h4, h5⟩ := hrel
        have hsz : i.blk < w.heap.size := hw.below _ _ hi
        have hcell : w.cell? ⟨i.blk, i.off + a.off, a.spot⟩ = some (cs.getD (i.off + a.off) undf) := by
          simp only [World.cell?, ho, hs, Option.isSome_none, Bool.false_eq_true, if_false]
          exact getD_eq _ _ _ (by omega)
        have hheap : ∀ b, (w.setCell ⟨i.blk, i.off + a.off, a.spot⟩ v').heap[b]? = if b = i.blk then some (.cells (cs.setIfInBounds (i.off + a.off) v') c.elem (0, 0)) else w.heap[b]? := by
          intro b
          simp only [World.setCell, Array.getElem?_modify]
          by_cases hbb : b = i.blk
          · subst hbb; simp [ho, hs]
          · rw [if_neg (fun e => hbb e.symm), if_neg hbb]
        have hsize : (w.setCell ⟨i.blk, i.off + a.off, a.spot⟩ v').heap.size = w.heap.size := by simp [World.setCell]
        refine ⟨⟨_, hcell⟩, ?_, ?_, ?_, ?_⟩
        · simp [World.frozen?, ho]
        · rw [← oneCell_eq, ← hv.oneCell]; exact hk3
        · refine ⟨Sub.refl ι, by rw [hsize]; exact Nat.le_refl _, fun n i h h' => .inl ⟨n, i, h, h', rfl⟩, fun b _ hne => ?_, fun x => World.frozen?_setCell _ _ _ _, rfl, rfl, rfl⟩
          rw [hheap, if_neg (fun e => hne _ _ hi hkg e.symm)]
        · refine ⟨hw.keepG fun b _ hne => by rw [hheap, if_neg (fun e => hne _ _ hi hkg e.symm)], hw.gsize, hw.glob, hw.over, hw.next, by rw [hsize]; exact hw.room, hw.fresh, hw.hole, fun n k hk => by rw [hsize]; exact hw.below _ _ hk, fun n b hn => ?_, fun n m b d i' j' hn hm hi' hj' he => ?_⟩
          · simp only [Heap.get_put] at hn
            by_cases hna : n = a.block
            · subst hna
              rw [if_pos rfl] at hn
              simp only [Option.some.injEq] at hn
              subst hn
              refine ⟨i, _, hi, by rw [hheap, if_pos rfl], ?_⟩
              refine ⟨h1, _, rfl, by simpa [Cells.set] using h3, fun ho => ?_, fun k hk => ?_⟩
              · obtain ⟨q1, q2, q3⟩ := h4 ho
                exact ⟨q1, q2, by simpa [Cells.set] using q3⟩
              · rw [Cells.get_set]
                have hk' : k < c.size := hk
                by_cases hka : k = a.off
                · subst hka
                  rw [if_pos rfl]
                  have : (cs.setIfInBounds (i.off + a.off) v').getD (i.off + a.off) undf = v' := by
                    simp [show i.off + a.off < cs.size by omega]
                  rw [this]; exact hv
                · rw [if_neg hka]
                  have : (cs.setIfInBounds (i.off + a.off) v').getD (i.off + k) undf = cs.getD (i.off + k) undf := by
                    simp [show ¬ a.off = k from fun e => hka e.symm]
                  rw [this]; exact h5 _ hk'
            · rw [if_neg hna] at hn
              obtain ⟨j, o, hj, ho', hr'⟩ := hw.live _ _ hn
              refine ⟨j, o, hj, ?_, hr'⟩
              rw [hheap, if_neg]
              · exact ho'
              · intro e
                exact hna (hw.inj _ _ _ _ _ _ hn hb hj hi e)
          · simp only [Heap.get_put] at hn hm
            have g1 : ∃ b, H.get n = some b := by
              by_cases hna : n = a.block
              · subst hna; exact ⟨_, hb⟩
              · rw [if_neg hna] at hn; exact ⟨_, hn⟩
            have g2 : ∃ b, H.get m = some b := by
              by_cases hna : m = a.block
              · subst hna; exact ⟨_, hb⟩
              · rw [if_neg hna] at hm; exact ⟨_, hm⟩
            obtain ⟨_, g1⟩ := g1
            obtain ⟨_, g2⟩ := g2
            exact hw.inj _ _ _ _ _ _ g1 g2 hi' hj' he
      · rw [if_neg hk] at h; simp at h
theorem Sim.store {a a' : Addr} (ha : AddrRel ι a a') {v v' : Value} (hv : VRel ι v v') (m : Mode) : Sim P ι (fun _ _ _ => True) (Go.store a v m) (Go.store a' v' m) := by
  intro H x H' hr w hw
  simp only [Go.store, arun] at hr
  cases hl : H.store a v with
  | none => rw [hl] at hr; simp at hr
  | some H1 =>
    rw [hl] at hr
    simp only [Option.some.injEq, Prod.mk.injEq] at hr
    obtain ⟨_, rfl⟩ := hr
    obtain ⟨⟨y, hc⟩, hf, ho, he, hr⟩ := hw.store ha hv hl
    have hnx : H1.next = H.next := by
      unfold Heap.store at hl
      split at hl <;> (try split at hl) <;> simp at hl <;> (subst hl; rfl)
    refine ⟨ι, (), _, by rw [run_store P w a' v' m ho, hc]; simp [hf], he, hr, trivial, fun e hev => ?_, by rw [hnx]; simp [World.setCell]⟩
    rw [events_store P w _ a' v' m ho, hc] at hev
    simp only [hf, Bool.false_eq_true, if_false, List.push_toArray, List.nil_append, List.mem_toArray, List.mem_cons, List.not_mem_nil, or_false] at hev
    subst hev
    refine ⟨Nat.lt_of_lt_of_le (cell_lt hc) he.size, fun _ n c i off hn hi hb hoff hlt => ?_⟩
    obtain ⟨i0, hi0, rfl⟩ := ha
    unfold Heap.store at hl
    split at hl
    · rename_i c1 hc1
      split at hl
      · rename_i hk
        simp only [Bool.and_eq_true, Bool.or_eq_true, Bool.not_eq_true', Nat.beq_eq] at hk
        have hn2 : n = a.block := hw.inj _ _ _ _ _ _ hn hc1 hi hi0 hb
        subst hn2
        rw [hi0] at hi
        obtain rfl := Option.some.inj hi
        rw [hc1] at hn
        simp only [Option.some.injEq, Blk.cells.injEq] at hn
        subst hn
        have : off = a.off := by simp only at hoff; omega
        subst this
        rcases hk.2 with h0 | h0
        · rw [h0]; simp
        · exact h0
      · simp at hl
    · simp at hl
theorem heap_push (w : World) (o : Obj) (b : Nat) : (w.heap.push o)[b]? = if b = w.heap.size then some o else w.heap[b]? := Array.getElem?_push
def warm : Obj → Bool
  | .cells _ _ (lo, hi) => decide (hi ≤ lo)
  | _ => true
theorem frozen_warm {w : World} {b : Nat} {o : Obj} (h : w.heap[b]? = some o) (ho : warm o = true) (a : Addr) (ha : a.block = b) : w.frozen? a = false := by
  subst ha
  unfold World.frozen?
  rw [h]
  cases o with
  | cells c t fz =>
    obtain ⟨lo, hi⟩ := fz
    have : hi ≤ lo := by simpa [warm] using ho
    simp only [Bool.and_eq_false_iff, decide_eq_false_iff_not]
    by_cases hl : lo ≤ a.off
    · exact .inr (by omega)
    · exact .inl hl
  | _ => rfl
theorem frozen_push (w : World) (o : Obj) (ho : warm o = true) (a : Addr) : ({ w with heap := w.heap.push o } : World).frozen? a = w.frozen? a := by
  by_cases h : a.block = w.heap.size
  · have e1 : (w.heap.push o)[a.block]? = some o := by rw [heap_push, if_pos h]
    rw [frozen_warm (w := { w with heap := w.heap.push o }) e1 ho a rfl]
    have e2 : w.heap[a.block]? = none := by rw [h]; simp
    simp [World.frozen?, e2]
  · have e1 : (w.heap.push o)[a.block]? = w.heap[a.block]? := by rw [heap_push, if_neg h]
    simp [World.frozen?, e1]
theorem BRel.warm {i : Info} {o : Obj} {b : Blk} (h : BRel ι i o b) : warm o = true := by
  cases b with
  | cells c => obtain ⟨_, cs, rfl, _⟩ := h; rfl
  | map es clock => obtain ⟨es', rfl, _⟩ := h; rfl
  | arr r => obtain ⟨_, cs, n, rfl, _⟩ := h; rfl
  | chan _ _ _ => obtain ⟨_, rfl⟩ := h; rfl
  | part _ => obtain ⟨_, rfl, _⟩ := h; rfl
def Inj.with (ι : Inj) (n : Nat) (i : Info) : Inj := fun m => if m = n then some i else ι m
theorem Rel.new {H : Heap} {w : World} (hw : Rel P ι H w) {b : Blk} {o : Obj} {i : Info} (hi : i.blk = w.heap.size) (hb : BRel ι i o b) :
    Sub ι (ι.with H.next i) ∧ Ext P ι w (ι.with H.next i) { w with heap := w.heap.push o } ∧ Rel P (ι.with H.next i) (H.new b) { w with heap := w.heap.push o } := by
  have hsub : Sub ι (ι.with H.next i) := fun n j hn => by
    unfold Inj.with
    rw [if_neg]
    · exact hn
    · intro e
      subst e
      rw [hw.fresh _ (Nat.le_refl _)] at hn
      simp at hn
  refine ⟨hsub, ⟨hsub, by simp, fun n j hn hgn => ?_, fun b hb' _ => ?_, fun x => frozen_push w o hb.warm x, rfl, rfl, rfl⟩, ⟨hw.keepG fun b hb' _ => by show (w.heap.push o)[b]? = _; rw [Array.getElem?_push, if_neg (by omega)], hw.gsize, fun g hg => ?_, fun n j hn hb' => ?_, by have := hw.next; simp only [Heap.base_new, Heap.next_new]; omega, by have := hw.room; show H.base ≤ (w.heap.push o).size; simp only [Array.size_push]; omega, fun n hn => ?_, fun n hn => ⟨by have := (hw.hole n hn).1; simp only [Heap.next_new]; omega, by unfold Inj.with; have h9 := hw.hole n hn; rw [if_neg (by omega)]; exact h9.2⟩, fun n j hn => ?_, fun n b' hn => ?_, fun n m b1 b2 i1 i2 h1 h2 e1 e2 he => ?_⟩⟩
  · unfold Inj.with at hn
    by_cases h : n = H.next
    · rw [if_pos h] at hn; simp at hn; subst hn; exact .inr (by omega)
    · rw [if_neg h] at hn; exact .inl ⟨n, j, hn, hgn, rfl⟩
  · show (w.heap.push o)[b]? = _
    rw [heap_push, if_neg (by omega)]
  · obtain ⟨k, h1, h2⟩ := hw.glob g hg
    exact ⟨k, hsub _ _ h1, h2⟩
  · unfold Inj.with at hn
    by_cases h : n = H.next
    · rw [if_pos h] at hn; simp at hn; subst hn; rw [hi]; exact ⟨hw.room, hw.inpNew (Nat.le_refl _)⟩
    · rw [if_neg h] at hn; exact hw.over _ _ hn hb'
  · simp only [Heap.next_new] at hn
    unfold Inj.with
    rw [if_neg (by omega)]
    exact hw.fresh _ (by omega)
  · unfold Inj.with at hn
    show j.blk < (w.heap.push o).size
    simp only [Array.size_push]
    by_cases h : n = H.next
    · rw [if_pos h] at hn; simp at hn; subst hn; omega
    · rw [if_neg h] at hn; have := hw.below _ _ hn; omega
  · simp only [Heap.get_new] at hn
    by_cases h : n = H.next
    · rw [if_pos h] at hn
      simp at hn
      subst hn
      refine ⟨i, o, by simp [Inj.with, h], ?_, hb.mono hsub⟩
      show (w.heap.push o)[i.blk]? = _
      rw [heap_push, if_pos hi]
    · rw [if_neg h] at hn
      obtain ⟨j, o', hj, ho', hr'⟩ := hw.live _ _ hn
      refine ⟨j, o', hsub _ _ hj, ?_, hr'.mono hsub⟩
      have := hw.below _ _ hj
      show (w.heap.push o)[j.blk]? = _
      rw [heap_push, if_neg (by omega)]
      exact ho'
  · simp only [Heap.get_new] at h1 h2
    unfold Inj.with at e1 e2
    by_cases g1 : n = H.next <;> by_cases g2 : m = H.next
    · omega
    · rw [if_pos g1] at e1; rw [if_neg g2] at e2; simp at e1; subst e1
      have := hw.below _ _ e2; omega
    · rw [if_neg g1] at e1; rw [if_pos g2] at e2; simp at e2; subst e2
      have := hw.below _ _ e1; omega
    · rw [if_neg g1] at e1 h1; rw [if_neg g2] at e2 h2
      exact hw.inj _ _ _ _ _ _ h1 h2 e1 e2 he
theorem Rel.same {H H' : Heap} {w : World} (hw : Rel P ι H w) (hb : H'.base = H.base) (hn : H.next ≤ H'.next) (hh : ∀ n, n ∈ H'.hole → n ∈ H.hole ∨ (n < H'.next ∧ ι n = none)) (hg : ∀ n, H'.get n = H.get n) : Rel P ι H' w :=
  ⟨hw.glb, by rw [hb]; exact hw.gsize, fun g h => hw.glob g (by rw [← hb]; exact h), fun n i h h' => by rw [hb] at h' ⊢; exact hw.over n i h h', by rw [hb]; exact Nat.le_trans hw.next hn, by rw [hb]; exact hw.room,
    fun n h => hw.fresh n (Nat.le_trans hn h), fun n h => (hh n h).elim (fun h => ⟨Nat.lt_of_lt_of_le (hw.hole n h).1 hn, (hw.hole n h).2⟩) id, hw.below, fun n b h => hw.live n b (by rw [← hg]; exact h), fun n m b c i j h1 h2 => hw.inj n m b c i j (by rw [← hg]; exact h1) (by rw [← hg]; exact h2)⟩
theorem Rel.newAt {H H' : Heap} {w : World} (hw : Rel P ι H w) {b : Blk} {o : Obj} {i : Info} (hi : i.blk = w.heap.size) (hb : BRel ι i o b) {N : Nat} (hN : ι N = none) (hbase : H'.base = H.base) (hnx : H.next ≤ H'.next) (hlt : N < H'.next)
    (hhole : ∀ n, n ∈ H'.hole → n ∈ H.hole ∧ n ≠ N) (hget : ∀ m, H'.get m = if m = N then some b else H.get m) :
    Sub ι (ι.with N i) ∧ Ext P ι w (ι.with N i) { w with heap := w.heap.push o } ∧ Rel P (ι.with N i) H' { w with heap := w.heap.push o } := by
  have hsub : Sub ι (ι.with N i) := fun n j hn => by
    unfold Inj.with
    rw [if_neg]
    · exact hn
    · intro e
      subst e
      rw [hN] at hn
      simp at hn
  refine ⟨hsub, ⟨hsub, by simp, fun n j hn hgn => ?_, fun b hb' _ => ?_, fun x => frozen_push w o hb.warm x, rfl, rfl, rfl⟩, ⟨hw.keepG fun b hb' _ => by show (w.heap.push o)[b]? = _; rw [Array.getElem?_push, if_neg (by omega)], by rw [hbase]; exact hw.gsize, fun g hg => ?_, fun n j hn hb' => ?_, by rw [hbase]; exact Nat.le_trans hw.next hnx, by rw [hbase]; have := hw.room; show H.base ≤ (w.heap.push o).size; simp only [Array.size_push]; omega, fun n hn => ?_, fun n hn => ⟨Nat.lt_of_lt_of_le (hw.hole n (hhole n hn).1).1 hnx, by unfold Inj.with; rw [if_neg (hhole n hn).2]; exact (hw.hole n (hhole n hn).1).2⟩, fun n j hn => ?_, fun n b' hn => ?_, fun n m b1 b2 i1 i2 h1 h2 e1 e2 he => ?_⟩⟩
  · unfold Inj.with at hn
    by_cases h : n = N
    · rw [if_pos h] at hn; simp at hn; subst hn; exact .inr (by omega)
    · rw [if_neg h] at hn; exact .inl ⟨n, j, hn, hgn, rfl⟩
  · show (w.heap.push o)[b]? = _
    rw [heap_push, if_neg (by omega)]
  · rw [hbase] at hg
    obtain ⟨k, h1, h2⟩ := hw.glob g hg
    exact ⟨k, hsub _ _ h1, h2⟩
  · rw [hbase] at hb' ⊢
    unfold Inj.with at hn
    by_cases h : n = N
    · rw [if_pos h] at hn; simp at hn; subst hn; rw [hi]; exact ⟨hw.room, hw.inpNew (Nat.le_refl _)⟩
    · rw [if_neg h] at hn; exact hw.over _ _ hn hb'
  · unfold Inj.with
    rw [if_neg (by omega)]
    exact hw.fresh _ (by omega)
  · unfold Inj.with at hn
    show j.blk < (w.heap.push o).size
    simp only [Array.size_push]
    by_cases h : n = N
    · rw [if_pos h] at hn; simp at hn; subst hn; omega
    · rw [if_neg h] at hn; have := hw.below _ _ hn; omega
  · rw [hget] at hn
    by_cases h : n = N
    · rw [if_pos h] at hn
      simp at hn
      subst hn
      refine ⟨i, o, by simp [Inj.with, h], ?_, hb.mono hsub⟩
      show (w.heap.push o)[i.blk]? = _
      rw [heap_push, if_pos hi]
    · rw [if_neg h] at hn
      obtain ⟨j, o', hj, ho', hr'⟩ := hw.live _ _ hn
      refine ⟨j, o', hsub _ _ hj, ?_, hr'.mono hsub⟩
      have := hw.below _ _ hj
      show (w.heap.push o)[j.blk]? = _
      rw [heap_push, if_neg (by omega)]
      exact ho'
  · rw [hget] at h1 h2
    unfold Inj.with at e1 e2
    by_cases g1 : n = N <;> by_cases g2 : m = N
    · omega
    · rw [if_pos g1] at e1; rw [if_neg g2] at e2; simp at e1; subst e1
      have := hw.below _ _ e2; omega
    · rw [if_neg g1] at e1; rw [if_pos g2] at e2; simp at e2; subst e2
      have := hw.below _ _ e1; omega
    · rw [if_neg g1] at e1 h1; rw [if_neg g2] at e2 h2
      exact hw.inj _ _ _ _ _ _ h1 h2 e1 e2 he
def NewR : Inj → Nat → Nat → Prop := fun ι n n' => ∃ i, ι n = some i ∧ i.blk = n' ∧ i.off = 0
def NewC (size : Nat) : Inj → Nat → Nat → Prop := fun ι n n' => ∃ i, ι n = some i ∧ i.blk = n' ∧ i.off = 0 ∧ i.size = size ∧ i.extra = 0 ∧ i.esz = 1
theorem CRel.fresh {xs ys : Array Value} (h : ARel ι xs ys) (n : Nat) (elem : TypeId) : CRel ι ⟨n, 0, xs.size, 0, 1⟩ (.cells ys elem (0, 0)) (mkCells xs elem) := by
  refine ⟨⟨rfl, rfl, Nat.one_pos⟩, ys, rfl, by simp [mkCells, h.1], fun _ => ⟨rfl, rfl, h.1.symm⟩, fun k hk => ?_⟩
  rw [mkCells_get _ _ _ hk]
  simpa using h.2 k hk
theorem Sim.newCells {xs ys : Array Value} (h : ARel ι xs ys) (elem : TypeId) : Sim P ι (NewC xs.size) (newObj (.cells xs elem)) (newObj (.cells ys elem)) := by
  intro H x H' hr w hw
  simp only [newObj, arun, and_self, if_true, Option.some.injEq, Prod.mk.injEq] at hr
  obtain ⟨rfl, rfl⟩ := hr
  have := hw.new (b := .cells (mkCells xs elem)) (o := .cells ys elem) (i := ⟨w.heap.size, 0, xs.size, 0, 1⟩) rfl (CRel.fresh h _ elem)
  exact ⟨_, w.heap.size, _, rfl, this.2.1, this.2.2, ⟨⟨w.heap.size, 0, xs.size, 0, 1⟩, by simp [Inj.with], rfl, rfl, rfl, rfl, rfl⟩, .none rfl, by simp [Heap.new]; omega⟩
theorem Sim.newMap {es es' : Array MapEntry} (h : EsRel ι es es') (clock : Nat) : Sim P ι NewR (newObj (.map es clock)) (newObj (.map es' clock)) := by
  intro H x H' hr w hw
  simp only [newObj, arun, Option.some.injEq, Prod.mk.injEq] at hr
  obtain ⟨rfl, rfl⟩ := hr
  have := hw.new (b := .map es clock) (o := .map es' clock) (i := ⟨w.heap.size, 0, 0, 0, 1⟩) rfl ⟨es', rfl, h⟩
  exact ⟨_, w.heap.size, _, rfl, this.2.1, this.2.2, ⟨⟨w.heap.size, 0, 0, 0, 1⟩, by simp [Inj.with], rfl, rfl⟩, .none rfl, by simp [Heap.new]; omega⟩
theorem Sim.shape {n n' : Nat} (h : ∃ i, ι n = some i ∧ i.blk = n') :
    Sim P ι (fun ι' s s' => s = s' ∧ ∃ e k i, s = some (e, k) ∧ ι' n = some i ∧ i.blk = n' ∧ i.off = 0) (Go.shape n) (Go.shape n') := by
  intro H x H' hr w hw
  obtain ⟨i, hi, rfl⟩ := h
  simp only [Go.shape, arun] at hr
  cases hb : H.get n with
  | none => rw [hb] at hr; simp at hr
  | some b =>
    obtain ⟨j, o, hj, ho, hrel⟩ := hw.live _ _ hb
    obtain rfl : i = j := by rw [hi] at hj; exact Option.some.inj hj
    cases b with
    | map es clock => rw [hb] at hr; simp at hr
    | arr r => rw [hb] at hr; simp at hr
    | chan _ _ _ => rw [hb] at hr; simp at hr
    | part _ => rw [hb] at hr; simp at hr
    | cells c =>
      rw [hb] at hr
      simp only at hr
      cases hopn : c.opn with
      | true => rw [hopn] at hr; simp at hr
      | false =>
        rw [hopn] at hr
        simp only [Bool.false_eq_true, if_false, Option.some.injEq, Prod.mk.injEq] at hr
        obtain ⟨rfl, rfl⟩ := hr
        obtain ⟨h1, cs, rfl, h3, h4, h5⟩ := hrel
        obtain ⟨q1, q2, q3⟩ := h4 hopn
        refine ⟨ι, _, w, rfl, Ext.refl _ _, hw, ⟨?_, _, _, _, rfl, hi, rfl, q2⟩, .none rfl, rfl⟩
        simp [World.shape?, ho, q3]
theorem Sim.frozen {a a' : Addr} (ha : AddrRel ι a a') : Sim P ι (fun _ b b' => b = false ∧ b' = false) (Go.frozen a) (Go.frozen a') := by
  intro H x H' hr w hw
  obtain ⟨i, hi, rfl⟩ := ha
  simp only [Go.frozen, arun] at hr
  cases hb : H.get a.block with
  | none => rw [hb] at hr; simp at hr
  | some b =>
    rw [hb] at hr
    simp only [Option.some.injEq, Prod.mk.injEq] at hr
    obtain ⟨rfl, rfl⟩ := hr
    obtain ⟨j, o, hj, ho, hrel⟩ := hw.live _ _ hb
    obtain rfl : i = j := by rw [hi] at hj; exact Option.some.inj hj
    refine ⟨ι, _, w, rfl, Ext.refl _ _, hw, ⟨rfl, ?_⟩, .none rfl, rfl⟩
    cases b with
    | map es clock => obtain ⟨es', rfl, _⟩ := hrel; simp [World.frozen?, ho]
    | arr r => obtain ⟨_, cs, n, rfl, _⟩ := hrel; simp [World.frozen?, ho]
    | chan _ _ _ => obtain ⟨_, rfl⟩ := hrel; simp [World.frozen?, ho]
    | part _ => obtain ⟨_, rfl, _⟩ := hrel; simp [World.frozen?, ho]
    | cells c => obtain ⟨h1, cs, rfl, _⟩ := hrel; simp [World.frozen?, ho]
theorem Sim.getMap {n n' : Nat} (h : ∃ i, ι n = some i ∧ i.blk = n') :
    Sim P ι (fun ι' o o' => ∃ es es' clock, o = .map es clock ∧ o' = .map es' clock ∧ EsRel ι' es es') (Go.getObj n) (Go.getObj n') := by
  intro H x H' hr w hw
  obtain ⟨i, hi, rfl⟩ := h
  simp only [Go.getObj, arun] at hr
  cases hb : H.get n with
  | none => rw [hb] at hr; simp at hr
  | some b =>
    obtain ⟨j, o, hj, ho, hrel⟩ := hw.live _ _ hb
    obtain rfl : i = j := by rw [hi] at hj; exact Option.some.inj hj
    cases b with
    | cells c => rw [hb] at hr; simp at hr
    | arr r => rw [hb] at hr; simp at hr
    | chan _ _ _ => rw [hb] at hr; simp at hr
    | part _ => rw [hb] at hr; simp at hr
    | map es clock =>
      rw [hb] at hr
      simp only [Option.some.injEq, Prod.mk.injEq] at hr
      obtain ⟨rfl, rfl⟩ := hr
      obtain ⟨es', rfl, he⟩ := hrel
      refine ⟨ι, .map es' clock, w, by simp [Go.getObj, Sem.run, ho], Ext.refl _ _, hw, ⟨es, es', clock, rfl, rfl, he⟩, fun e hev => ?_, rfl⟩
      have hev' : e ∈ (#[⟨.obj i.blk, false, false⟩] : Array Event) := by
        have h1 : (Go.getObj i.blk).events P w #[] = #[⟨.obj i.blk, false, false⟩] := by simp only [Go.getObj, Sem.events, Sem.runT, ho]; rfl
        rw [h1] at hev; exact hev
      simp only [List.mem_toArray, List.mem_cons, List.not_mem_nil, or_false] at hev'
      subst hev'
      exact hw.below _ _ hi
theorem Sim.setMap {n n' : Nat} (h : ∃ i, ι n = some i ∧ i.blk = n') {es es' : Array MapEntry} (he : EsRel ι es es') (clock : Nat) :
    Sim P ι (fun _ _ _ => True) (Go.setObj n (.map es clock)) (Go.setObj n' (.map es' clock)) := by
  intro H x H' hr w hw
  obtain ⟨i, hi, rfl⟩ := h
  simp only [Go.setObj, arun] at hr
  cases hb : H.get n with
  | none => rw [hb] at hr; simp at hr
  | some b =>
    obtain ⟨j, o, hj, ho, hrel⟩ := hw.live _ _ hb
    obtain rfl : i = j := by rw [hi] at hj; exact Option.some.inj hj
    cases b with
    | cells c => rw [hb] at hr; simp at hr
    | arr r => rw [hb] at hr; simp at hr
    | chan _ _ _ => rw [hb] at hr; simp at hr
    | part _ => rw [hb] at hr; simp at hr
    | map es0 clock0 =>
      rw [hb] at hr
      by_cases hgb : Nat.ble H.base n = true
      case neg => simp [hgb] at hr
      have hkg : P.globals.size ≤ n := by rw [← hw.gsize]; exact Nat.le_of_ble_eq_true hgb
      simp only [hgb, if_true, Option.some.injEq, Prod.mk.injEq] at hr
      obtain ⟨_, rfl⟩ := hr
      obtain ⟨es0', rfl, he0⟩ := hrel
      have hheap : ∀ b, (w.heap.setIfInBounds i.blk (.map es' clock))[b]? = if b = i.blk then some (.map es' clock) else w.heap[b]? := by
        intro b
        by_cases hbb : b = i.blk
        · subst hbb; simp [hw.below _ _ hi]
        · rw [if_neg hbb]; simp [show ¬ i.blk = b from fun e => hbb e.symm]
      refine ⟨ι, (), { w with heap := w.heap.setIfInBounds i.blk (.map es' clock) }, by simp [Go.setObj, Sem.run, ho], ?_, ?_, trivial, fun e hev => ?_, by simp⟩
      case refine_3 =>
        have h1 : (Go.setObj i.blk (.map es' clock)).events P w #[] = #[⟨.obj i.blk, true, false⟩] := by simp only [Go.setObj, Sem.events, Sem.runT, ho]; rfl
        rw [h1] at hev
        simp only [List.mem_toArray, List.mem_cons, List.not_mem_nil, or_false] at hev
        subst hev
        show i.blk < _
        simpa using hw.below _ _ hi
      · refine ⟨Sub.refl ι, by simp, fun n i h h' => .inl ⟨n, i, h, h', rfl⟩, fun b _ hne => ?_, fun x => ?_, rfl, rfl, rfl⟩
        case refine_2 =>
          by_cases hx : x.block = i.blk
          · rw [frozen_warm (w := { w with heap := w.heap.setIfInBounds i.blk (.map es' clock) }) (b := i.blk) (by show (w.heap.setIfInBounds i.blk (.map es' clock))[i.blk]? = _; rw [hheap, if_pos rfl]) rfl x hx, frozen_warm ho rfl x hx]
          · have e1 : (w.heap.setIfInBounds i.blk (.map es' clock))[x.block]? = w.heap[x.block]? := by rw [hheap, if_neg hx]
            simp [World.frozen?, e1]
        show (w.heap.setIfInBounds i.blk (.map es' clock))[b]? = _
        rw [hheap, if_neg (fun e => hne _ _ hi hkg e.symm)]
      · refine ⟨hw.keepG fun b _ hne => by show (w.heap.setIfInBounds i.blk (.map es' clock))[b]? = _; rw [hheap, if_neg (fun e => hne _ _ hi hkg e.symm)], hw.gsize, hw.glob, hw.over, hw.next, by simpa using hw.room, hw.fresh, hw.hole, fun n k hk => by simpa using hw.below _ _ hk, fun m b hm => ?_, fun p q b d i' j' hp hq hi' hj' heq => ?_⟩
        · simp only [Heap.get_put] at hm
          by_cases hmn : m = n
          · subst hmn
            rw [if_pos rfl] at hm
            simp at hm
            subst hm
            exact ⟨i, _, hi, by rw [hheap, if_pos rfl], es', rfl, he⟩
          · rw [if_neg hmn] at hm
            obtain ⟨j, o, hj, ho', hr'⟩ := hw.live _ _ hm
            refine ⟨j, o, hj, ?_, hr'⟩
            rw [hheap, if_neg]
            · exact ho'
            · intro e; exact hmn (hw.inj _ _ _ _ _ _ hm hb hj hi e)
        · simp only [Heap.get_put] at hp hq
          have g : ∀ x b, (if x = n then some (Blk.map es clock) else H.get x) = some b → ∃ b, H.get x = some b := by
            intro x b hx
            by_cases hxn : x = n
            · subst hxn; exact ⟨_, hb⟩
            · rw [if_neg hxn] at hx; exact ⟨_, hx⟩
          obtain ⟨_, g1⟩ := g _ _ hp
          obtain ⟨_, g2⟩ := g _ _ hq
          exact hw.inj _ _ _ _ _ _ g1 g2 hi' hj' heq
def Dead (P : Program) {α : Type} (s : Sem α) : Prop := ∀ H, arun P s H = none
theorem Sim.dead {α β : Type} {R : Inj → α → β → Prop} {s : Sem α} {s' : Sem β} (h : Dead P s) : Sim P ι R s s' := fun H a H' hr => by rw [h H] at hr; simp at hr
theorem Dead.bind {α β : Type} {x : Sem α} {f : α → Sem β} (h : ∀ a, Dead P (f a)) : Dead P (x >>= f) := fun H => by
  rw [arun_bind]
  cases arun P x H with
  | none => rfl
  | some r => exact h _ _
theorem Dead.first {α β : Type} {x : Sem α} {f : α → Sem β} (h : Dead P x) : Dead P (x >>= f) := fun H => by rw [arun_bind, h H]; rfl
theorem Dead.halt {α : Type} (h : Halt) : Dead P (Sem.halt h : Sem α) := fun _ => rfl
theorem Dead.stuck {α : Type} (s : String) : Dead P (stuck s : Sem α) := fun _ => rfl
theorem Dead.unsupported {α : Type} (s : Unsupported) : Dead P (unsupported s : Sem α) := fun _ => rfl
theorem Dead.goPanic {α : Type} (s : Value) : Dead P (goPanic s : Sem α) := fun _ => rfl
theorem Dead.runtimePanic {α : Type} (e : RuntimeError) : Dead P (runtimePanic e : Sem α) := by
  unfold Go.runtimePanic
  refine Dead.bind fun p => ?_
  cases e with
  | bounds x y s c => exact Dead.goPanic _
  | error m => exact Dead.goPanic _
  | plain m => exact Dead.goPanic _
  | nilDeref => exact Dead.goPanic _
  | typeAssertion i c a m => exact Dead.bind fun r => Dead.bind fun r => Dead.goPanic _
  | panicNil => exact Dead.bind fun r => Dead.bind fun r => Dead.goPanic _
  | unhashable t => exact Dead.goPanic _
theorem Dead.boundsPanic {α : Type} (k : IntKind) (x y : Int) (c : BoundsCode) : Dead P (boundsPanic k x y c : Sem α) := by
  unfold Go.boundsPanic
  dsimp only
  split
  · exact Dead.bind fun _ => Dead.runtimePanic _
  · exact Dead.bind fun _ => Dead.runtimePanic _
def Static (P : Program) {α : Type} (s : Sem α) : Prop := ∀ H a H', arun P s H = some (a, H') → H' = H ∧ ∀ w, s.run P w = .ok a w ∧ ∀ es, s.events P w es = es
theorem Static.sim {α : Type} {s : Sem α} (h : Static P s) : Sim P ι EqR s s := fun H a H' hr w hw => by
  obtain ⟨rfl, h2⟩ := h _ _ _ hr
  exact ⟨ι, a, w, (h2 w).1, Ext.refl _ _, hw, rfl, .none ((h2 w).2 _), rfl⟩
theorem Static.pure {α : Type} (a : α) : Static P (Pure.pure a : Sem α) := fun H x H' hr => by
  simp at hr
  obtain ⟨rfl, rfl⟩ := hr
  exact ⟨rfl, fun _ => ⟨rfl, fun _ => rfl⟩⟩
theorem Static.dead {α : Type} {s : Sem α} (h : Dead P s) : Static P s := fun H x H' hr => by rw [h H] at hr; simp at hr
theorem Static.bind {α β : Type} {s : Sem α} {f : α → Sem β} (h : Static P s) (hf : ∀ a, Static P (f a)) : Static P (s >>= f) := fun H x H' hr => by
  rw [arun_bind] at hr
  cases h1 : arun P s H with
  | none => rw [h1] at hr; simp at hr
  | some r =>
    obtain ⟨a, H1⟩ := r
    rw [h1] at hr
    obtain ⟨rfl, g⟩ := h _ _ _ h1
    obtain ⟨rfl, g2⟩ := hf a _ _ _ hr
    exact ⟨rfl, fun w => ⟨by rw [Sem.run_bind, (g w).1]; exact (g2 w).1, fun es => by rw [Sem.events_bind, (g w).1, (g w).2]; exact (g2 w).2 es⟩⟩
theorem Static.program : Static P Go.program := fun H x H' hr => by
  simp only [Go.program, arun, Option.some.injEq, Prod.mk.injEq] at hr
  obtain ⟨rfl, rfl⟩ := hr
  exact ⟨rfl, fun _ => ⟨rfl, fun _ => rfl⟩⟩
theorem Static.ite {α : Type} {c : Prop} [Decidable c] {s t : Sem α} (h : Static P s) (h' : Static P t) : Static P (if c then s else t) := by split <;> assumption
theorem Static.typeInfo (t : TypeId) : Static P (Go.typeInfo t) := by
  unfold Go.typeInfo
  refine Static.program.bind fun p => ?_
  split
  · exact Static.pure _
  · exact Static.dead (Dead.stuck _)
theorem Static.underlying (t : TypeId) : Static P (Go.underlying t) := by
  unfold Go.underlying
  refine Static.program.bind fun p => ?_
  split
  · exact Static.pure _
  · exact Static.dead (Dead.stuck _)
theorem Static.zeroValue (t : TypeId) : Static P (Go.zeroValue t) := by
  unfold Go.zeroValue
  refine (Static.typeInfo t).bind fun p => ?_
  split
  · exact Static.pure _
  · exact Static.dead (Dead.unsupported _)
theorem Static.sizeOf (t : TypeId) : Static P (Go.sizeOf t) := (Static.typeInfo t).bind fun _ => Static.pure _
theorem Static.isAgg (t : TypeId) : Static P (Go.isAgg t) := by
  unfold Go.isAgg
  refine (Static.underlying t).bind fun p => ?_
  split <;> exact Static.pure _
theorem Static.elemOf (t : TypeId) : Static P (Go.elemOf t) := by
  unfold Go.elemOf
  refine (Static.underlying t).bind fun p => ?_
  split
  · exact Static.pure _
  · exact Static.dead (Dead.stuck _)
theorem Static.asIntOf (v : Value) : Static P (Go.asIntOf v) := by
  unfold Go.asIntOf
  split
  · exact Static.pure _
  · exact Static.dead (Dead.unsupported _)
  · exact Static.dead (Dead.stuck _)
theorem Static.asInt (v : Value) : Static P (Go.asInt v) := (Static.asIntOf v).bind fun _ => Static.pure _
theorem Static.asBool (v : Value) : Static P (Go.asBool v) := by
  unfold Go.asBool
  split
  · exact Static.pure _
  · exact Static.dead (Dead.stuck _)
theorem Static.asString (v : Value) : Static P (Go.asString v) := by
  unfold Go.asString
  split
  · exact Static.pure _
  · exact Static.dead (Dead.stuck _)
theorem Static.mapL {α β : Type} {f : α → Sem β} (h : ∀ a, Static P (f a)) : ∀ l : List α, Static P (l.mapM f)
  | [] => by simpa using Static.pure (P := P) ([] : List β)
  | x :: xs => by
    rw [List.mapM_cons]
    exact (h x).bind fun _ => (Static.mapL h xs).bind fun _ => Static.pure _
theorem Static.mapA {α β : Type} {f : α → Sem β} (h : ∀ a, Static P (f a)) (xs : Array α) : Static P (xs.mapM f) := by
  rw [Array.mapM_eq_mapM_toList]
  exact (Static.mapL h xs.toList).bind fun _ => Static.pure _
end Go.Ev
namespace Go.Ev
set_option linter.unusedSectionVars false      -- the symbols' class stands for all texts
variable [Syms] {P : Program} {ι : Inj}
def ground1 : Value → Bool
  | .bool _ | .int .. | .string _ | .pointer none | .slice none _ _ | .map none | .chan none | .nilFunc | .nilIface => true
  | .func _ xs ys => xs.isEmpty && ys.isEmpty
  | _ => false
def groundA : Value → Bool
  | .agg cs => cs.all ground1
  | v => ground1 v
def ground : Value → Bool
  | .agg cs => cs.all ground1
  | .tuple cs => cs.all groundA
  | .iface _ v => ground1 v
  | v => ground1 v
theorem ground1_rel {v : Value} (h : ground1 v = true) : VRel ι v v := by
  cases v with
  | bool b => exact .bool b
  | int k n => exact .int k n
  | string s => exact .string s
  | pointer a => cases a with
    | none => exact .nilPtr
    | some a => simp [ground1] at h
  | slice a l c => cases a with
    | none => exact .nilSlice l c
    | some a => simp [ground1] at h
  | map r => cases r with
    | none => exact .nilMap
    | some a => simp [ground1] at h
  | chan r => cases r with
    | none => exact .nilChan
    | some a => simp [ground1] at h
  | func fn xs ys =>
    simp [ground1] at h
    obtain ⟨rfl, rfl⟩ := h
    exact .func fn rfl (fun k hk => by simp at hk) rfl (fun k hk => by simp at hk)
  | nilFunc => exact .nilFunc
  | nilIface => exact .nilIface
  | _ => simp [ground1] at h
theorem ground_arr {cs : Array Value} (h : cs.all ground1 = true) : ARel ι cs cs := by
  refine ⟨rfl, fun k hk => ?_⟩
  rw [Array.all_eq_true] at h
  have := h k hk
  have e : cs.getD k undf = cs[k] := by simp [hk]
  rw [e]
  exact ground1_rel this
theorem groundA_rel {v : Value} (h : groundA v = true) : VRel ι v v := by
  cases v with
  | agg cs => exact (ground_arr h).agg
  | _ => exact ground1_rel h
theorem groundA_arr {cs : Array Value} (h : cs.all groundA = true) : ARel ι cs cs := by
  refine ⟨rfl, fun k hk => ?_⟩
  rw [Array.all_eq_true] at h
  have := h k hk
  have e : cs.getD k undf = cs[k] := by simp [hk]
  rw [e]
  exact groundA_rel this
theorem ground_rel {v : Value} (h : ground v = true) : VRel ι v v := by
  cases v with
  | agg cs => exact (ground_arr h).agg
  | tuple cs => exact (groundA_arr h).tuple
  | iface t v => exact .iface t (ground1_rel h)
  | _ => exact ground1_rel h
def LRel (ι : Inj) (xs ys : List Value) : Prop := xs.length = ys.length ∧ ∀ k, k < xs.length → VRel ι (xs.getD k undf) (ys.getD k undf)
theorem LRel.mono {ι ι' : Inj} (hs : Sub ι ι') {xs ys : List Value} (h : LRel ι xs ys) : LRel ι' xs ys := ⟨h.1, fun k hk => (h.2 k hk).mono hs⟩
theorem ARel.list {xs ys : Array Value} (h : ARel ι xs ys) : LRel ι xs.toList ys.toList := ⟨by simpa using h.1, fun k hk => by simpa using h.2 k (by simpa using hk)⟩
theorem LRel.array {xs ys : List Value} (h : LRel ι xs ys) : ARel ι xs.toArray ys.toArray := ⟨by simpa using h.1, fun k hk => by simpa using h.2 k (by simpa using hk)⟩
theorem LRel.cons_inv {x : Value} {xs : List Value} {l : List Value} (h : LRel ι (x :: xs) l) : ∃ y ys, l = y :: ys ∧ VRel ι x y ∧ LRel ι xs ys := by
  cases l with
  | nil => have := h.1; simp at this
  | cons y ys =>
    refine ⟨y, ys, rfl, by simpa using h.2 0 (by simp), by simpa using h.1, fun k hk => by simpa using h.2 (k + 1) (by simpa using hk)⟩
theorem LRel.nil_inv {l : List Value} (h : LRel ι [] l) : l = [] := by
  cases l with
  | nil => rfl
  | cons y ys => have := h.1; simp at this
theorem ARel.push {xs ys : Array Value} (h : ARel ι xs ys) {x y : Value} (hv : VRel ι x y) : ARel ι (xs.push x) (ys.push y) := by
  refine ⟨by simp [h.1], fun k hk => ?_⟩
  simp only [Array.size_push] at hk
  by_cases hks : k < xs.size
  · have e1 : (xs.push x).getD k undf = xs.getD k undf := by simp [Array.getElem?_push, show ¬ k = xs.size by omega]
    have e2 : (ys.push y).getD k undf = ys.getD k undf := by have := h.1; simp [Array.getElem?_push, show ¬ k = ys.size by omega]
    rw [e1, e2]; exact h.2 k hks
  · have hk' : k = xs.size := by omega
    have e1 : (xs.push x).getD k undf = x := by simp [hk']
    have e2 : (ys.push y).getD k undf = y := by simp [hk', h.1]
    rw [e1, e2]; exact hv
theorem ARel.append {xs ys us vs : Array Value} (h : ARel ι xs ys) (h' : ARel ι us vs) : ARel ι (xs ++ us) (ys ++ vs) := by
  refine ⟨by simp [h.1, h'.1], fun k hk => ?_⟩
  simp only [Array.size_append] at hk
  by_cases hks : k < xs.size
  · have e1 : (xs ++ us).getD k undf = xs.getD k undf := by simp [Array.getElem?_append, hks]
    have e2 : (ys ++ vs).getD k undf = ys.getD k undf := by have := h.1; simp [Array.getElem?_append, show k < ys.size by omega]
    rw [e1, e2]; exact h.2 k hks
  · have e1 : (xs ++ us).getD k undf = us.getD (k - xs.size) undf := by simp [Array.getElem?_append, hks]
    have e2 : (ys ++ vs).getD k undf = vs.getD (k - xs.size) undf := by have := h.1; simp [Array.getElem?_append, show ¬ k < ys.size by omega, this]
    rw [e1, e2]; exact h'.2 _ (by omega)
theorem ARel.extract {xs ys : Array Value} (h : ARel ι xs ys) (a b : Nat) : ARel ι (xs.extract a b) (ys.extract a b) := by
  refine ⟨by simp [h.1], fun k hk => ?_⟩
  simp only [Array.size_extract] at hk
  have e1 : (xs.extract a b).getD k undf = xs.getD (a + k) undf := by
    simp only [Array.getD_eq_getD_getElem?, Array.getElem?_extract]; rw [if_pos (by omega)]
  have e2 : (ys.extract a b).getD k undf = ys.getD (a + k) undf := by
    simp only [Array.getD_eq_getD_getElem?, Array.getElem?_extract]; rw [if_pos (by rw [← h.1]; omega)]
  rw [e1, e2]; exact h.2 _ (by omega)
theorem ARel.set {xs ys : Array Value} (h : ARel ι xs ys) (i : Nat) {x y : Value} (hv : VRel ι x y) : ARel ι (xs.setIfInBounds i x) (ys.setIfInBounds i y) := by
  refine ⟨by simp [h.1], fun k hk => ?_⟩
  simp only [Array.size_setIfInBounds] at hk
  have hk2 : k < ys.size := h.1 ▸ hk
  by_cases hik : i = k
  · subst hik
    have e1 : (xs.setIfInBounds i x).getD i undf = x := by simp [hk]
    have e2 : (ys.setIfInBounds i y).getD i undf = y := by simp [hk2]
    rw [e1, e2]; exact hv
  · have e1 : (xs.setIfInBounds i x).getD k undf = xs.getD k undf := by simp [hik]
    have e2 : (ys.setIfInBounds i y).getD k undf = ys.getD k undf := by simp [hik]
    rw [e1, e2]; exact h.2 k hk
theorem ARel.get? {xs ys : Array Value} (h : ARel ι xs ys) {k : Nat} {x : Value} (hx : xs[k]? = some x) : ∃ y, ys[k]? = some y ∧ VRel ι x y := by
  obtain ⟨hk, rfl⟩ := Array.getElem?_eq_some_iff.1 hx
  have := h.2 k hk
  refine ⟨ys.getD k undf, getD_eq _ _ _ (h.1 ▸ hk), ?_⟩
  have e : xs.getD k undf = xs[k] := by simp [hk]
  rwa [e] at this
theorem ARel.getNone {xs ys : Array Value} (h : ARel ι xs ys) {k : Nat} (hx : xs[k]? = none) : ys[k]? = none := by
  rw [Array.getElem?_eq_none_iff] at *
  rw [← h.1]; exact hx
theorem ARel.one {x y : Value} (h : VRel ι x y) : ARel ι #[x] #[y] := ⟨rfl, fun k hk => by
  have : k = 0 := by simpa using hk
  subst this
  exact h⟩
theorem ARel.getD' {xs ys : Array Value} (h : ARel ι xs ys) (k : Nat) : VRel ι (xs.getD k undf) (ys.getD k undf) := by
  by_cases hk : k < xs.size
  · exact h.2 k hk
  · have e1 : xs.getD k undf = undf := by simp [show xs.size ≤ k by omega]
    have e2 : ys.getD k undf = undf := by have := h.1; simp [show ys.size ≤ k by omega]
    rw [e1, e2]; exact .undf
theorem VRel.cells {v v' : Value} (h : VRel ι v v') : ARel ι v.cells v'.cells := by
  cases h with
  | agg h1 h2 => exact ⟨h1, h2⟩
  | bool b => exact ARel.one (.bool b)
  | int k n => exact ARel.one (.int k n)
  | string s => exact ARel.one (.string s)
  | nilPtr => exact ARel.one .nilPtr
  | ptr h => exact ARel.one (.ptr h)
  | nilSlice l c => exact ARel.one (.nilSlice l c)
  | slice h h2 h3 => exact ARel.one (.slice h h2 h3)
  | emptySlice a a' => exact ARel.one (.emptySlice a a')
  | nilMap => exact ARel.one .nilMap
  | map h => exact ARel.one (.map h)
  | nilChan => exact ARel.one .nilChan
  | chn h ho => exact ARel.one (.chn h ho)
  | nilFunc => exact ARel.one .nilFunc
  | func fn h1 h2 h3 h4 => exact ARel.one (.func fn h1 h2 h3 h4)
  | nilIface => exact ARel.one .nilIface
  | iface t h => exact ARel.one (.iface t h)
  | tuple h1 h2 => exact ARel.one (.tuple h1 h2)
  | sym h => rcases Syms.cases h with ⟨k, n, rfl⟩ | ⟨b, rfl⟩ <;> exact ARel.one (.sym h)
  | inp h => rcases Syms.refs h with ⟨a, l, n, rfl⟩ | ⟨a, rfl⟩ <;> exact ARel.one (.inp h)
  | ownS h h2 h3 h4 => exact ARel.one (.ownS h h2 h3 h4)
  | ownP h h2 => exact ARel.one (.ownP h h2)
def ARelR : Inj → Array Value → Array Value → Prop := fun ι a b => ARel ι a b
def AddrR : Inj → Addr → Addr → Prop := fun ι a b => AddrRel ι a b
def TrueR {α β : Type} : Inj → α → β → Prop := fun _ _ _ => True
theorem Sim.loadCellsFrom : ∀ (n i : Nat) (ι : Inj) (a a' : Addr) (acc acc' : Array Value), AddrRel ι a a' → ARel ι acc acc' →
    Sim P ι ARelR (Go.loadCellsFrom a i n acc) (Go.loadCellsFrom a' i n acc')
  | 0, _, _, _, _, _, _, _, h => Sim.pure h
  | n + 1, i, ι, a, a', acc, acc', ha, h => by
    unfold Go.loadCellsFrom
    exact (Sim.load (ha.add i) _).bind fun ι' v v' hs hv => Sim.loadCellsFrom n (i + 1) ι' a a' _ _ (ha.mono hs) ((h.mono hs).push hv)
theorem Sim.loadCells {a a' : Addr} (ha : AddrRel ι a a') (n : Nat) : Sim P ι ARelR (Go.loadCells a n) (Go.loadCells a' n) :=
  Sim.loadCellsFrom n 0 ι a a' _ _ ha ARel.nil
theorem Sim.storeCells : ∀ (vs vs' : List Value) (i : Nat) (ι : Inj) (a a' : Addr), AddrRel ι a a' → LRel ι vs vs' →
    Sim P ι TrueR (Go.storeCells a vs i) (Go.storeCells a' vs' i)
  | [], vs', i, ι, a, a', _, h => by
    obtain rfl := h.nil_inv
    exact Sim.pure trivial
  | x :: xs, vs', i, ι, a, a', ha, h => by
    obtain ⟨y, ys, rfl, hv, hr⟩ := h.cons_inv
    unfold Go.storeCells
    exact (Sim.store (ha.add i) hv _).bind fun ι' _ _ hs _ => Sim.storeCells xs ys (i + 1) ι' a a' (ha.mono hs) (hr.mono hs)
theorem Sim.loadVar (t : TypeId) {a a' : Addr} (ha : AddrRel ι a a') : Sim P ι VRel (Go.loadVar t a) (Go.loadVar t a') := by
  unfold Go.loadVar
  refine (Static.isAgg t).sim.bind fun ι1 b b' hs e => ?_
  cases e
  split
  · refine (Static.sizeOf t).sim.bind fun ι2 n n' hs2 e => ?_
    cases e
    exact (Sim.loadCells ((ha.mono hs).mono hs2) n).bind fun ι3 cs cs' _ h => Sim.pure h.agg
  · exact Sim.load (ha.mono hs) _
theorem Sim.storeVar (t : TypeId) {a a' : Addr} (ha : AddrRel ι a a') {v v' : Value} (hv : VRel ι v v') : Sim P ι TrueR (Go.storeVar t a v) (Go.storeVar t a' v') := by
  unfold Go.storeVar
  refine (Static.sizeOf t).sim.bind fun ι1 n n' hs e => ?_
  cases e
  dsimp only
  by_cases h : v.cells.size = n
  · have h' : v'.cells.size = n := hv.cells.1 ▸ h
    simp only [ne_eq, h, h', not_true, if_false]
    exact Sim.storeCells _ _ 0 ι1 a a' (ha.mono hs) (hv.cells.list.mono hs)
  · simp only [ne_eq, h, not_false_iff, if_true]
    exact Sim.dead (Dead.first (Dead.stuck _))
def NewA (n : Nat) : Inj → Addr → Addr → Prop := fun ι a a' => ∃ i, ι a.block = some i ∧ a = ⟨a.block, 0, none⟩ ∧ a' = ⟨i.blk, 0, none⟩ ∧ i.off = 0 ∧ i.size = n ∧ i.extra = 0 ∧ i.esz = 1
theorem NewA.addr {n : Nat} {a a' : Addr} (h : NewA n ι a a') : AddrRel ι a a' := by
  obtain ⟨i, h1, h2, h3, h4, _⟩ := h
  refine ⟨i, h1, ?_⟩
  rw [h3, h2]; simp [h4]
theorem Sim.newRow (elem : TypeId) {xs ys : Array Value} (h : ARel ι xs ys) : Sim P ι (NewA xs.size) (Go.newRow elem xs) (Go.newRow elem ys) := by
  unfold Go.newRow
  refine (Sim.newCells h elem).bind fun ι1 n n' hs hn => ?_
  obtain ⟨i, h1, h2, h3, h4⟩ := hn
  exact Sim.pure ⟨i, h1, rfl, by rw [h2], h3, h4⟩
theorem Sim.newVar (t : TypeId) {v v' : Value} (hv : VRel ι v v') : Sim P ι (NewA v.cells.size) (Go.newVar t v) (Go.newVar t v') := Sim.newRow t hv.cells
def ZeroOk (P : Program) : Prop := ∀ (t : TypeId) i z, t < P.types.size → P.types[t]? = some i → i.zero = some z → ground z = true
theorem Sim.zeroValue (hz : ZeroOk P) (t : TypeId) (ht : t < P.types.size) : Sim P ι (fun ι' a b => a = b ∧ VRel ι' a b) (Go.zeroValue t) (Go.zeroValue t) := by
  intro H a H' hr w hw
  obtain ⟨rfl, h2⟩ := (Static.zeroValue t) _ _ _ hr
  refine ⟨ι, a, w, (h2 w).1, Ext.refl _ _, hw, ⟨rfl, ground_rel ?_⟩, .none ((h2 w).2 _), rfl⟩
  simp only [Go.zeroValue, Go.typeInfo, Go.program, arun_bind, arun, Option.bind_some] at hr
  cases hi : P.info? t with
  | none => rw [hi] at hr; simp [Go.stuck, arun] at hr
  | some i =>
    rw [hi] at hr
    simp only [arun_pure, Option.bind_some] at hr
    cases hzz : i.zero with
    | none => rw [hzz] at hr; simp [Go.unsupported, arun] at hr
    | some z =>
      rw [hzz] at hr
      simp only [arun_pure, Option.some.injEq, Prod.mk.injEq] at hr
      rw [← hr.1]
      have hi' : P.types[t]? = some i := by
        unfold Tables.info? at hi
        rw [if_pos ht] at hi
        exact hi
      exact hz t i z ht hi' hzz
theorem Sim.underlying (t : TypeId) : Sim P ι (fun _ a b => a = b ∧ P.underlying t = some a) (Go.underlying t) (Go.underlying t) := by
  intro H a H' hr w hw
  obtain ⟨rfl, h2⟩ := (Static.underlying t) _ _ _ hr
  refine ⟨ι, a, w, (h2 w).1, Ext.refl _ _, hw, ⟨rfl, ?_⟩, .none ((h2 w).2 _), rfl⟩
  simp only [Go.underlying, Go.program, arun_bind, arun, Option.bind_some] at hr
  cases hi : P.underlying t with
  | none => rw [hi] at hr; simp [Go.stuck, arun] at hr
  | some i =>
    rw [hi] at hr
    simp at hr
    rw [hr]
theorem Sim.alloc (hz : ZeroOk P) (t : TypeId) (ht : t < P.types.size) : Sim P ι VRel (Instr.alloc t true (.tuple #[])) (Instr.alloc t true (.tuple #[])) := by
  unfold Instr.alloc
  refine (Sim.zeroValue hz t ht).bind fun ι1 z z' hs h => ?_
  dsimp only
  exact (Sim.newVar t h.2).bind fun ι2 a a' _ h => Sim.pure h.addr.ptr
theorem Sim.box (t : TypeId) {v v' : Value} (hv : VRel ι v v') : Sim P ι VRel (Instr.box t v) (Instr.box t v') := by
  unfold Instr.box
  exact (Sim.newVar t hv).bind fun ι2 a a' _ h => Sim.pure h.addr.ptr
theorem Sim.part (t : TypeId) {xs ys : Array Value} (h : ARel ι xs ys) (off : Nat) : Sim P ι VRel (Go.part t xs off) (Go.part t ys off) := by
  unfold Go.part
  refine (Static.isAgg t).sim.bind fun ι1 b b' hs e => ?_
  cases e
  split
  · refine (Static.sizeOf t).sim.bind fun ι2 n n' hs2 e => ?_
    cases e
    exact Sim.pure (((h.mono hs).mono hs2).extract _ _).agg
  · cases hx : xs[off]? with
    | none => exact Sim.dead (Dead.stuck _)
    | some x =>
      obtain ⟨y, hy, hv⟩ := h.get? hx
      rw [hy]
      exact Sim.pure (hv.mono hs)
def PRel (ι : Inj) : List (Nat × Value) → List (Nat × Value) → Prop
  | [], [] => True
  | x :: xs, y :: ys => x.1 = y.1 ∧ VRel ι x.2 y.2 ∧ PRel ι xs ys
  | _, _ => False
theorem PRel.mono {ι ι' : Inj} (hs : Sub ι ι') : ∀ {xs ys : List (Nat × Value)}, PRel ι xs ys → PRel ι' xs ys
  | [], [], _ => trivial
  | _ :: _, _ :: _, ⟨h1, h2, h3⟩ => ⟨h1, h2.mono hs, PRel.mono hs h3⟩
  | [], _ :: _, h => h.elim
  | _ :: _, [], h => h.elim
theorem foldSet (off : Nat) : ∀ (l l' : List Value) (k : Nat) (cs cs' : Array Value), LRel ι l l' → ARel ι cs cs' →
    ARel ι ((l.zipIdx k).foldl (fun cs x => cs.setIfInBounds (off + x.2) x.1) cs) ((l'.zipIdx k).foldl (fun cs x => cs.setIfInBounds (off + x.2) x.1) cs')
  | [], l', k, cs, cs', h, hc => by
    obtain rfl := h.nil_inv
    exact hc
  | x :: xs, l', k, cs, cs', h, hc => by
    obtain ⟨y, ys, rfl, hv, hr⟩ := h.cons_inv
    simp only [List.zipIdx_cons, List.foldl_cons]
    exact foldSet off xs ys (k + 1) _ _ hr (hc.set _ hv)
theorem fill_rel (place : Nat → Option (Nat × Nat)) : ∀ (ps ps' : List (Nat × Value)) (cs cs' : Array Value), PRel ι ps ps' → ARel ι cs cs' →
    ∀ r, Instr.fill place cs ps = some r → ∃ r', Instr.fill place cs' ps' = some r' ∧ ARel ι r r'
  | [], [], cs, cs', _, hc, r, hr => by
    simp only [Instr.fill, Option.some.injEq] at hr
    subst hr
    exact ⟨cs', rfl, hc⟩
  | [], _ :: _, _, _, h, _, _, _ => h.elim
  | _ :: _, [], _, _, h, _, _, _ => h.elim
  | (i, v) :: ps, (i', v') :: ps', cs, cs', ⟨h1, h2, h3⟩, hc, r, hr => by
    have h1' : i = i' := h1
    subst h1'
    simp only [Instr.fill] at hr ⊢
    cases hp : place i with
    | none => rw [hp] at hr; simp at hr
    | some os =>
      obtain ⟨off, size⟩ := os
      rw [hp] at hr
      simp only at hr ⊢
      have hvc := VRel.cells h2
      simp only at hvc
      rw [← hvc.1, ← hc.1]
      by_cases hb : v.cells.size ≠ size ∨ off + v.cells.size > cs.size
      · rw [if_pos (by simpa using hb)] at hr; simp at hr
      · rw [if_neg (by simpa using hb)] at hr ⊢
        refine fill_rel place ps ps' _ _ h3 ?_ r hr
        have := foldSet off v.cells.toList v'.cells.toList 0 cs cs' hvc.list hc
        rw [← Array.foldl_toList, ← Array.foldl_toList, Array.toList_zipIdx, Array.toList_zipIdx]
        exact this
theorem Sim.build (hz : ZeroOk P) (t : TypeId) (ht : t < P.types.size) {ps ps' : Array (Nat × Value)} (h : PRel ι ps.toList ps'.toList) : Sim P ι VRel (Instr.build t ps) (Instr.build t ps') := by
  unfold Instr.build
  refine (Sim.zeroValue hz t ht).bind fun ι1 z z' hs hzz => ?_
  obtain ⟨rfl, hzr⟩ := hzz
  refine (Static.underlying t).sim.bind fun ι2 d d' hs2 e => ?_
  cases e
  have hp := (h.mono hs).mono hs2
  have hc := (hzr.mono hs2).cells
  cases d with
  | struct fields =>
    refine (Static.mapA (fun f => (Static.sizeOf f.type).bind fun _ => Static.pure _) fields).sim.bind fun ι3 pl pl' hs3 e => ?_
    cases e
    cases hf : Instr.fill (fun x => pl[x]?) z.cells ps.toList with
    | none => exact Sim.dead (Dead.stuck _)
    | some r =>
      obtain ⟨r', hr', hrr⟩ := fill_rel _ _ _ _ _ (hp.mono hs3) (hc.mono hs3) r hf
      rw [hr']
      exact Sim.pure hrr.agg
  | array len elem =>
    refine (Static.sizeOf elem).sim.bind fun ι3 n n' hs3 e => ?_
    cases e
    cases hf : Instr.fill (fun i => some (i * n, n)) z.cells ps.toList with
    | none => exact Sim.dead (Dead.stuck _)
    | some r =>
      obtain ⟨r', hr', hrr⟩ := fill_rel _ _ _ _ _ (hp.mono hs3) (hc.mono hs3) r hf
      rw [hr']
      exact Sim.pure hrr.agg
  | _ => exact Sim.dead (Dead.stuck _)
theorem ARel.same_of_map {f : Nat → Value} (l : Array Nat) (h : ∀ k, VRel ι (f k) (f k)) : ARel ι (l.map f) (l.map f) := by
  refine ⟨rfl, fun k hk => ?_⟩
  have hk' : k < l.size := by simpa using hk
  have e : (l.map f).getD k undf = f l[k] := by simp [hk']
  rw [e]; exact h _
theorem VRel.dflt : VRel ι (default : Value) default := .bool false
theorem zeroAt {cs cs' : Array Value} (hc : ARel ι cs cs') (i : Nat) : VRel ι cs[i]! cs'[i]! := by
  by_cases hi : i < cs.size
  · have h1 : cs[i]! = cs.getD i undf := by simp [hi]
    have h2 : cs'[i]! = cs'.getD i undf := by have := hc.1; simp [show i < cs'.size by omega]
    rw [h1, h2]; exact hc.2 i hi
  · have h1 : cs[i]! = default := by simp [show cs.size ≤ i by omega]
    have h2 : cs'[i]! = default := by have := hc.1; simp [show cs'.size ≤ i by omega]
    rw [h1, h2]; exact .dflt
theorem ARel.map2 {cs cs' : Array Value} (hc : ARel ι cs cs') (l : Array Nat) : ARel ι (l.map fun i => cs[i % cs.size]!) (l.map fun i => cs'[i % cs'.size]!) := by
  refine ⟨by simp, fun k hk => ?_⟩
  have hk' : k < l.size := by simpa using hk
  have e1 : (l.map fun i => cs[i % cs.size]!).getD k undf = cs[l[k] % cs.size]! := by simp [hk']
  have e2 : (l.map fun i => cs'[i % cs'.size]!).getD k undf = cs'[l[k] % cs'.size]! := by simp [hk']
  rw [e1, e2, ← hc.1]; exact zeroAt hc _
theorem Sim.buildSlice (hz : ZeroOk P) (t : TypeId) (ht : ∀ e, P.underlying t = some (.slice e) → e < P.types.size) (len : Nat) {ps ps' : Array (Nat × Value)} (h : PRel ι ps.toList ps'.toList) :
    Sim P ι VRel (Instr.buildSlice t len ps) (Instr.buildSlice t len ps') := by
  unfold Instr.buildSlice
  refine (Sim.underlying t).bind fun ι2 d d' hs2 e => ?_
  obtain ⟨rfl, hd⟩ := e
  have hp := h.mono hs2
  cases d with
  | slice elem =>
    refine (Static.sizeOf elem).sim.bind fun ι3 n n' hs3 e => ?_
    cases e
    dsimp only
    have hp := hp.mono hs3
    split
    · exact Sim.dead (Dead.first (Dead.unsupported _))
    · have key : ∀ (why : String) (ι4 : Inj) (z z' : Array Value), Sub ι3 ι4 → ARel ι4 z z' → Sim P ι4 VRel
          (do let some cells := Instr.fill (fun i => some (i * n, n)) ((Array.range (len * n)).map (z[· % z.size]!)) ps.toList
                | stuck why
              Pure.pure (Value.slice (some (← Go.newRow elem cells)) len len))
          (do let some cells := Instr.fill (fun i => some (i * n, n)) ((Array.range (len * n)).map (z'[· % z'.size]!)) ps'.toList
                | stuck why
              Pure.pure (Value.slice (some (← Go.newRow elem cells)) len len)) := by
        intro why ι4 z z' hs4 hzz
        cases hf : Instr.fill (fun i => some (i * n, n)) ((Array.range (len * n)).map (z[· % z.size]!)) ps.toList with
        | none => exact Sim.dead (Dead.stuck _)
        | some r =>
          obtain ⟨r', hr', hrr⟩ := fill_rel _ _ _ _ _ (hp.mono hs4) (hzz.map2 _) r hf
          rw [hr']
          refine (Sim.newRow elem hrr).bind fun ι5 a a' hs5 ha => Sim.pure ?_
          obtain ⟨i, h1, h2, h3, h4, h5⟩ := ha
          have := VRel.slice (l := len) (c := len) (c' := len) h1 (.inl rfl) (Nat.le_refl _)
          rw [h2] at this ⊢
          rw [h3]
          simpa [h4] using this
      split
      · exact key _ ι3 #[] #[] (Sub.refl _) ARel.nil
      · exact (Sim.zeroValue hz elem (ht elem hd)).bind fun ι4 z z' hs4 hzz => key _ ι4 z.cells z'.cells hs4 hzz.2.cells
  | _ => exact Sim.dead (Dead.stuck _)
end Go.Ev
namespace Go.Ev
set_option linter.unusedSectionVars false      -- the symbols' class stands for all texts
variable [Syms] {P : Program} {ι : Inj}
theorem Sim.sureAddr {v v' : Value} (h : VRel ι v v') : Sim P ι AddrR (Instr.sureAddr v) (Instr.sureAddr v') := by
  cases h with
  | ptr h => exact Sim.pure ⟨_, h, rfl⟩
  | _ => exact Sim.dead (Dead.stuck _)
theorem Sim.asAddr {v v' : Value} (h : VRel ι v v') : Sim P ι AddrR (Go.asAddr v) (Go.asAddr v') := by
  cases h with
  | ptr h => exact Sim.pure ⟨_, h, rfl⟩
  | nilPtr => unfold Go.asAddr; exact Sim.dead (Dead.runtimePanic _)
  | _ => exact Sim.dead (Dead.stuck _)
theorem Sim.loadAt (t : TypeId) {v v' : Value} (h : VRel ι v v') : Sim P ι VRel (Instr.loadAt t v) (Instr.loadAt t v') :=
  (Sim.sureAddr h).bind fun _ _ _ _ ha => Sim.loadVar t ha
theorem Sim.storeAt (t : TypeId) {v v' x x' : Value} (h : VRel ι v v') (hx : VRel ι x x') : Sim P ι TrueR (Instr.storeAt t v x) (Instr.storeAt t v' x') :=
  (Sim.sureAddr h).bind fun _ _ _ hs ha => Sim.storeVar t ha (hx.mono hs)
theorem Sim.viewAt {n n' : Nat} (h : ∃ i, ι n = some i ∧ i.blk = n') : Sim P ι (fun _ a b => a = none ∧ b = none) (Go.viewAt n) (Go.viewAt n') := by
  unfold Go.viewAt
  refine (Sim.shape h).bind fun ι1 s s' hs hss => ?_
  obtain ⟨rfl, e, k, i, rfl, _⟩ := hss
  exact Sim.pure ⟨rfl, rfl⟩
theorem Sim.noView {a a' : Addr} (h : AddrRel ι a a') : Sim P ι TrueR (Go.noView a) (Go.noView a') := by
  unfold Go.noView
  obtain ⟨i, h1, rfl⟩ := h
  refine (Sim.viewAt ⟨i, h1, rfl⟩).bind fun ι1 s s' hs hss => ?_
  obtain ⟨rfl, rfl⟩ := hss
  exact Sim.pure trivial
theorem Sim.byteOf {a a' : Addr} (h : AddrRel ι a a') : Sim P ι EqR (Go.byteOf a) (Go.byteOf a') := by
  unfold Go.byteOf
  obtain ⟨i, h1, rfl⟩ := h
  cases hsp : a.spot with
  | some s => exact Sim.pure rfl
  | none =>
    refine Sim.program.bind fun ι1 p p' hs e => ?_
    cases e
    refine (Sim.noView (a := a) (a' := ⟨i.blk, i.off + a.off, none⟩) ⟨i, hs _ _ h1, by rw [hsp]⟩).bind fun ι2 _ _ hs2 _ => ?_
    refine (Sim.shape ⟨i, hs2 _ _ (hs _ _ h1), rfl⟩).bind fun ι3 s s' hs3 hss => ?_
    obtain ⟨rfl, e, k, j, rfl, hj, hj2, hj3⟩ := hss
    have hij : i = j := by
      have := hs3 _ _ (hs2 _ _ (hs _ _ h1))
      rw [hj] at this
      exact (Option.some.inj this).symm
    subst hij
    simp only [hj3, Nat.zero_add]
    split
    · exact Sim.pure rfl
    · split
      · exact Sim.pure rfl
      · exact Sim.dead (Dead.stuck _)
theorem Sim.fieldPlace {a a' : Addr} (h : AddrRel ι a a') (f : Field) : Sim P ι AddrR (Go.fieldPlace a f) (Go.fieldPlace a' f) := by
  unfold Go.fieldPlace
  refine (Static.sizeOf _).sim.bind fun ι1 n n' hs e => ?_
  cases e
  have h := h.mono hs
  split
  · unfold Go.partAt
    refine (Sim.byteOf h).bind fun ι2 b b' hs2 e => ?_
    cases e
    obtain ⟨i, h1, rfl⟩ := h
    have hp : AddrRel ι2 { block := a.block, off := a.off + f.offset } { block := i.blk, off := i.off + a.off + f.offset } := ⟨i, hs2 _ _ h1, by simp [Nat.add_assoc]⟩
    refine (Sim.byteOf hp).bind fun ι3 c c' hs3 e => ?_
    cases e
    split
    · exact Sim.pure (hp.mono hs3)
    · exact Sim.pure ⟨i, hs3 _ _ (hs2 _ _ h1), by simp [Nat.add_assoc]⟩
  · exact Sim.pure (h.add _)
theorem Sim.fieldAt (s : TypeId) {v v' : Value} (h : VRel ι v v') (f : Nat) : Sim P ι VRel (Instr.fieldAt s v f) (Instr.fieldAt s v' f) := by
  unfold Instr.fieldAt
  refine (Static.underlying s).sim.bind fun ι1 d d' hs e => ?_
  cases e
  cases d with
  | struct fields =>
    dsimp only
    cases fields[f]? with
    | none => exact Sim.dead (Dead.stuck _)
    | some fl => exact (Sim.sureAddr (h.mono hs)).bind fun ι2 a a' hs2 ha => (Sim.fieldPlace ha fl).bind fun ι3 _ _ _ hb => Sim.pure (AddrRel.ptr hb)
  | _ => exact Sim.dead (Dead.stuck _)
theorem Sim.asAgg {v v' : Value} (h : VRel ι v v') : Sim P ι ARelR (Go.asAgg v) (Go.asAgg v') := by
  cases h with
  | agg h1 h2 => exact Sim.pure ⟨h1, h2⟩
  | _ => exact Sim.dead (Dead.stuck _)
theorem Sim.field (t : TypeId) {v v' : Value} (h : VRel ι v v') (f : Nat) : Sim P ι VRel (Instr.field t v f) (Instr.field t v' f) := by
  unfold Instr.field
  refine (Static.underlying t).sim.bind fun ι1 d d' hs e => ?_
  cases e
  cases d with
  | struct fields =>
    dsimp only
    cases fields[f]? with
    | none => exact Sim.dead (Dead.stuck _)
    | some fl => exact (Sim.asAgg (h.mono hs)).bind fun ι2 a a' hs2 ha => Sim.part _ ha _
  | _ => exact Sim.dead (Dead.stuck _)
theorem Sim.asIntOf {v v' : Value} (h : VRel ι v v') : Sim P ι (fun _ a b => a = b) (Go.asIntOf v) (Go.asIntOf v') := by
  cases h with
  | int k n => exact Sim.pure rfl
  | ptr h => exact Sim.dead (Dead.unsupported _)
  | _ => exact Sim.dead (Dead.stuck _)
theorem Sim.asInt {v v' : Value} (h : VRel ι v v') : Sim P ι (fun _ a b => a = b) (Go.asInt v) (Go.asInt v') :=
  (Sim.asIntOf h).bind fun _ a b _ e => by cases e; exact Sim.pure rfl
theorem Sim.asBool {v v' : Value} (h : VRel ι v v') : Sim P ι (fun _ a b => a = b) (Go.asBool v) (Go.asBool v') := by
  cases h with
  | bool b => exact Sim.pure rfl
  | _ => exact Sim.dead (Dead.stuck _)
theorem Static.kindIs (t : TypeId) (f : TypeDesc → Bool) : Static P (do let d ← Go.underlying t; Pure.pure (f d)) := (Static.underlying t).bind fun _ => Static.pure _
theorem Sim.indexAt (t : TypeId) {x x' i i' : Value} (hx : VRel ι x x') (hi : VRel ι i i') : Sim P ι VRel (Instr.indexAt t x i) (Instr.indexAt t x' i') := by
  unfold Instr.indexAt
  refine (Sim.asIntOf hi).bind fun ι1 ki ki' hs e => ?_
  cases e
  have hx := hx.mono hs
  obtain ⟨k, n⟩ := ki
  dsimp only
  refine (Static.underlying t).sim.bind fun ι2 d d' hs2 e => ?_
  cases e
  have hx := hx.mono hs2
  have fin : ∀ (ι3 : Inj) (a a' : Addr) (len : Nat) (elem : TypeId), AddrRel ι3 a a' → ∀ (tiny : Bool) (u : Unsupported), Sim P ι3 VRel
      (if 0 ≤ n ∧ n < (len : Int) then do Pure.pure (Value.pointer (some (a.add (n.toNat * (← Go.sizeOf elem)))))
        else if tiny = true then unsupported u else Go.boundsPanic k n len .index)
      (if 0 ≤ n ∧ n < (len : Int) then do Pure.pure (Value.pointer (some (a'.add (n.toNat * (← Go.sizeOf elem)))))
        else if tiny = true then unsupported u else Go.boundsPanic k n len .index) := by
    intro ι3 a a' len elem ha tiny u
    split
    · refine (Static.sizeOf elem).sim.bind fun ι4 s s' hs4 e => ?_
      cases e
      exact Sim.pure ((ha.mono hs4).add _).ptr
    · split
      · exact Sim.dead (Dead.unsupported _)
      · exact Sim.dead (Dead.boundsPanic _ _ _ _)
  cases d with
  | array len elem =>
    dsimp only
    refine (Sim.sureAddr hx).bind fun ι3 a a' hs3 ha => ?_
    dsimp only [Pure.pure, Sem.bind, Bind.bind]
    refine (Static.underlying t).sim.bind fun ι4 d d' hs4 e => ?_
    cases e
    exact fin _ _ _ _ _ (ha.mono hs4) _ _
  | slice elem =>
    cases hx with
    | nilSlice l c =>
      dsimp only [Pure.pure, Sem.bind, Bind.bind]
      refine (Static.underlying t).sim.bind fun ι4 d d' hs4 e => ?_
      exact Sim.dead (Dead.boundsPanic _ _ _ _)
    | @slice a inf l c c' h h2 h3 =>
      dsimp only [Pure.pure, Sem.bind, Bind.bind]
      refine (Static.underlying t).sim.bind fun ι4 d d' hs4 e => ?_
      cases e
      exact fin _ _ _ _ _ (AddrRel.mono hs4 ⟨inf, h, rfl⟩) _ _
    | emptySlice a a' =>
      dsimp only [Pure.pure, Sem.bind, Bind.bind]
      refine (Static.underlying t).sim.bind fun ι4 d d' hs4 e => ?_
      cases e
      rw [if_neg (by omega)]
      split
      · exact Sim.dead (Dead.unsupported _)
      · exact Sim.dead (Dead.boundsPanic _ _ _ _)
    | _ => exact Sim.dead (Dead.first (Dead.stuck _))
  | _ => exact Sim.dead (Dead.first (Dead.stuck _))
theorem Sim.index (t : TypeId) {x x' i i' : Value} (hx : VRel ι x x') (hi : VRel ι i i') : Sim P ι VRel (Instr.index t x i) (Instr.index t x' i') := by
  unfold Instr.index
  refine (Sim.asIntOf hi).bind fun ι1 ki ki' hs e => ?_
  cases e
  have hx := hx.mono hs
  obtain ⟨k, n⟩ := ki
  dsimp only
  refine (Static.underlying t).sim.bind fun ι2 d d' hs2 e => ?_
  cases e
  have hx := hx.mono hs2
  cases d with
  | array len elem =>
    cases hx with
    | agg h1 h2 =>
      dsimp only
      split
      · refine (Static.sizeOf elem).sim.bind fun ι4 s s' hs4 e => ?_
        cases e
        exact Sim.part _ (ARel.mono hs4 ⟨h1, h2⟩) _
      · exact Sim.dead (Dead.boundsPanic _ _ _ _)
    | _ => exact Sim.dead (Dead.stuck _)
  | string =>
    cases hx with
    | string s =>
      dsimp only
      split
      · exact Sim.pure (.int _ _)
      · exact Sim.dead (Dead.boundsPanic _ _ _ _)
    | _ => exact Sim.dead (Dead.stuck _)
  | _ => exact Sim.dead (Dead.stuck _)
theorem Sim.makeInterface (t : TypeId) {v v' : Value} (h : VRel ι v v') : Sim P ι VRel (Instr.makeInterface t v) (Instr.makeInterface t v') := by
  unfold Instr.makeInterface
  refine (Static.underlying t).sim.bind fun ι1 d d' hs e => ?_
  cases e
  split
  · exact Sim.dead (Dead.stuck _)
  · exact Sim.pure (.iface _ (h.mono hs))
theorem Sim.makeFunc (fn : Fn) {xs ys us vs : Array Value} (h : ARel ι xs ys) (h' : ARel ι us vs) : Sim P ι VRel (Instr.makeFunc fn xs us) (Instr.makeFunc fn ys vs) :=
  Sim.pure (.func fn h.1 h.2 h'.1 h'.2)
theorem Sim.extract {v v' : Value} (h : VRel ι v v') (ix : Nat) : Sim P ι VRel (Instr.extract v ix) (Instr.extract v' ix) := by
  cases h with
  | @tuple xs ys h1 h2 =>
    unfold Instr.extract
    dsimp only
    cases hx : xs[ix]? with
    | none => exact Sim.dead (Dead.stuck _)
    | some x =>
      obtain ⟨y, hy, hv⟩ := ARel.get? ⟨h1, h2⟩ hx
      rw [hy]
      exact Sim.pure hv
  | _ => exact Sim.dead (Dead.stuck _)
inductive PlRel (ι : Inj) : Go.Place → Go.Place → Prop
  | val {v v' : Value} : VRel ι v v' → PlRel ι (.val v) (.val v')
  | var {a a' : Addr} : AddrRel ι a a' → PlRel ι (.var a) (.var a')
theorem PlRel.mono {ι ι' : Inj} (hs : Sub ι ι') {x y : Go.Place} (h : PlRel ι x y) : PlRel ι' x y := by
  cases h with
  | val h => exact .val (h.mono hs)
  | var h => exact .var (h.mono hs)
theorem Sim.placeGet (t : TypeId) {x y : Go.Place} (h : PlRel ι x y) : Sim P ι VRel (x.get t) (y.get t) := by
  cases h with
  | val h => exact Sim.pure h
  | var h => exact Sim.loadVar t h
theorem Sim.follow : ∀ (path : List FieldStep) (t : TypeId) (ι : Inj) (x y : Go.Place), PlRel ι x y →
    Sim P ι (fun ι' a b => a.1 = b.1 ∧ PlRel ι' a.2 b.2) (Go.follow path t x) (Go.follow path t y)
  | [], t, ι, x, y, h => Sim.pure ⟨rfl, h⟩
  | s :: rest, t, ι, x, y, h => by
    unfold Go.follow
    refine (Static.underlying _).sim.bind fun ι1 d d' hs e => ?_
    cases e
    have h := h.mono hs
    cases d with
    | struct fields =>
      dsimp only
      cases fields[s.index]? with
      | none => exact Sim.dead (Dead.stuck _)
      | some f =>
        dsimp only
        split
        · refine (Sim.placeGet t h).bind fun ι2 v v' hs2 hv => ?_
          exact (Sim.asAddr hv).bind fun ι3 a a' hs3 ha => (Sim.fieldPlace ha f).bind fun ι4 b b' hs4 hb => Sim.follow rest f.type ι4 _ _ (.var hb)
        · cases h with
          | var ha => exact (Sim.fieldPlace ha f).bind fun ι4 b b' hs4 hb => Sim.follow rest f.type ι4 _ _ (.var hb)
          | val hv =>
            cases hv with
            | agg h1 h2 => exact (Sim.part f.type ⟨h1, h2⟩ f.offset).bind fun ι4 b b' hs4 hb => Sim.follow rest f.type ι4 _ _ (.val hb)
            | _ => exact Sim.dead (Dead.stuck _)
    | _ => exact Sim.dead (Dead.stuck _)
theorem Dead.choose {q : Question} (h : q.forced = false) : Dead P (Go.choose q) := fun H => by
  simp [Go.choose, arun, h]
theorem Sim.wrapChk (xt : TypeId) (name : String) {v v' : Value} (h : VRel ι v v') :
    Sim P ι VRel (Builtin.ssaWrapNilChk_ #[xt] xt #[v, strVal "", strVal name]) (Builtin.ssaWrapNilChk_ #[xt] xt #[v', strVal "", strVal name]) := by
  cases h with
  | ptr h => exact Sim.pure (.ptr h)
  | nilPtr => exact Sim.dead (Dead.first (Dead.choose rfl))
  | _ => exact Sim.dead (Dead.stuck _)
theorem Sim.receiverAt (t : TypeId) {x y : Go.Place} (h : PlRel ι x y) (ptr : Bool) (wrapper : Option String) : Sim P ι VRel (Go.receiverAt t x ptr wrapper) (Go.receiverAt t y ptr wrapper) := by
  unfold Go.receiverAt
  refine (Static.underlying t).sim.bind fun ι1 d d' hs e => ?_
  cases e
  replace h := h.mono hs
  cases d with
  | pointer elem =>
    cases ptr with
    | true => exact Sim.placeGet t h
    | false =>
      dsimp only
      refine (Sim.placeGet t h).bind fun ι2 v v' hs2 hv => ?_
      cases wrapper with
      | none =>
        dsimp only [Pure.pure, Sem.bind, Bind.bind]
        exact (Sim.asAddr hv).bind fun ι3 a a' hs3 ha => Sim.loadVar elem ha
      | some name =>
        exact (Sim.wrapChk t name hv).bind fun ι3 u u' hs3 hu => (Sim.asAddr hu).bind fun ι4 a a' hs4 ha => Sim.loadVar elem ha
  | _ =>
    cases ptr with
    | false => exact Sim.placeGet t h
    | true =>
      cases h with
      | val hq => exact Sim.dead (Dead.stuck _)
      | var hq => exact Sim.pure (AddrRel.ptr hq)
def MR : Inj → FuncId × Value → FuncId × Value → Prop := fun ι a b => a.1 = b.1 ∧ VRel ι a.2 b.2
theorem Sim.method : ∀ (fuel : Nat) (t : TypeId) (ι : Inj) (v v' : Value) (name : String), VRel ι v v' → Sim P ι MR (Go.method fuel t v name) (Go.method fuel t v' name)
  | 0, _, _, _, _, _, _ => Sim.dead (Dead.unsupported _)
  | fuel + 1, t, ι, v, v', name, h => by
    unfold Go.method
    refine (Static.typeInfo t).sim.bind fun ι1 d d' hs e => ?_
    cases e
    cases d.methods.find? (·.name == name) with
    | none => exact Sim.dead (Dead.stuck _)
    | some m =>
      dsimp only
      refine (Sim.follow m.path.toList t ι1 _ _ (.val (h.mono hs))).bind fun ι2 a b hs2 hab => ?_
      obtain ⟨xt, x⟩ := a
      obtain ⟨yt, y⟩ := b
      obtain ⟨e, hp⟩ := hab
      have e' : xt = yt := e
      subst e'
      dsimp only
      cases m.func with
      | none =>
        dsimp only
        refine (Sim.placeGet xt hp).bind fun ι3 u u' hs3 hu => ?_
        cases hu with
        | iface t' hv => exact Sim.method fuel t' ι3 _ _ name hv
        | nilIface => exact Sim.dead (Dead.runtimePanic _)
        | _ => exact Sim.dead (Dead.stuck _)
      | some fp =>
        obtain ⟨f, pr⟩ := fp
        exact (Sim.receiverAt xt hp pr _).bind fun ι3 u u' hs3 hu => Sim.pure ⟨rfl, hu⟩
theorem Sim.receiverVia (t : TypeId) {v v' : Value} (h : VRel ι v v') (path : Array FieldStep) (ptr : Bool) : Sim P ι VRel (Go.receiverVia t v path ptr) (Go.receiverVia t v' path ptr) := by
  unfold Go.receiverVia
  refine (Sim.follow path.toList t ι _ _ (.val h)).bind fun ι2 a b hs2 hab => ?_
  obtain ⟨xt, x⟩ := a
  obtain ⟨yt, y⟩ := b
  obtain ⟨e, hp⟩ := hab
  have e' : xt = yt := e
  subst e'
  exact Sim.receiverAt xt hp ptr none
end Go.Ev
namespace Go.Ev
set_option linter.unusedSectionVars false      -- the symbols' class stands for all texts
class NoFloat (P : Program) : Prop where
  no : ∀ t k, P.underlying t ≠ some (.float k)
  noC : ∀ t k, P.underlying t ≠ some (.complex k)
variable [Syms] {P : Program} [NoFloat P] {ι : Inj}
theorem Sim.forInL {α β : Type} {f g : α → β → Sem (ForInStep β)} (h : ∀ ι', Sub ι ι' → ∀ a b, Sim P ι' EqR (f a b) (g a b)) :
    ∀ (l : List α) (ι1 : Inj), Sub ι ι1 → ∀ b, Sim P ι1 EqR (forIn l b f) (forIn l b g)
  | [], ι1, hs, b => by rw [List.forIn_nil, List.forIn_nil]; exact Sim.pure rfl
  | x :: xs, ι1, hs, b => by
    rw [List.forIn_cons, List.forIn_cons]
    refine (h ι1 hs x b).bind fun ι2 r r' hs2 e => ?_
    have e' : r = r' := e
    subst e'
    cases r with
    | done c => exact Sim.pure rfl
    | yield c => exact Sim.forInL h xs ι2 (hs.trans hs2) c
theorem Sim.forInA {α β : Type} {f g : α → β → Sem (ForInStep β)} (h : ∀ ι', Sub ι ι' → ∀ a b, Sim P ι' EqR (f a b) (g a b)) (xs : Array α) (b : β) :
    Sim P ι EqR (forIn xs b f) (forIn xs b g) := by
  rw [← Array.forIn_toList, ← Array.forIn_toList]
  exact Sim.forInL h xs.toList ι (Sub.refl _) b
theorem Sim.forInR {β : Type} {f g : Nat → β → Sem (ForInStep β)} (h : ∀ ι', Sub ι ι' → ∀ a b, Sim P ι' EqR (f a b) (g a b)) (r : Std.Legacy.Range) (b : β) :
    Sim P ι EqR (forIn r b f) (forIn r b g) := by
  rw [Std.Legacy.Range.forIn_eq_forIn_range', Std.Legacy.Range.forIn_eq_forIn_range']
  exact Sim.forInL h _ ι (Sub.refl _) b
theorem Sim.stringish {a a' : Addr} (h : AddrRel ι a a') : Sim P ι (fun _ x y => x = false ∧ y = false) (Go.stringish a) (Go.stringish a') := by
  unfold Go.stringish
  refine (Sim.frozen h).bind fun ι1 x y hs e => ?_
  obtain ⟨rfl, rfl⟩ := e
  obtain ⟨i, h1, rfl⟩ := h
  refine (Sim.shape ⟨i, hs _ _ h1, rfl⟩).bind fun ι2 s s' hs2 hss => ?_
  obtain ⟨rfl, e, k, j, rfl, hj, hj2, hj3⟩ := hss
  refine Sim.frozen ⟨j, hj, ?_⟩
  have hij : i = j := by
    have := hs2 _ _ (hs _ _ h1)
    rw [hj] at this
    exact (Option.some.inj this).symm
  subst hij
  simp [hj3]
theorem Sim.sameAddr {a a' b b' : Addr} (ha : AddrRel ι a a') (hb : AddrRel ι b b') : Sim P ι EqR (Go.sameAddr a b) (Go.sameAddr a' b') := by
  obtain ⟨i, hi, rfl⟩ := ha
  obtain ⟨j, hj, rfl⟩ := hb
  by_cases hab : a.block = b.block
  · have hij : i = j := by rw [hab, hj] at hi; exact (Option.some.inj hi).symm
    subst hij
    unfold Go.sameAddr
    simp only [hab, BEq.rfl, if_true]
    refine Sim.pure ?_
    show (a == b) = _
    rw [Bool.eq_iff_iff, beq_iff_eq, beq_iff_eq]
    obtain ⟨ab, ao, as⟩ := a
    obtain ⟨bb, bo, bs⟩ := b
    have hab' : ab = bb := hab
    subst hab'
    simp
  · intro H r H' hr w hw
    have hlive : (∃ x, H.get a.block = some x) ∧ (∃ x, H.get b.block = some x) := by
      unfold Go.sameAddr at hr
      rw [if_neg (by simpa using hab)] at hr
      rw [arun_bind] at hr
      cases hfa : H.get a.block with
      | none => simp [Go.frozen, arun, hfa] at hr
      | some x =>
        refine ⟨⟨x, rfl⟩, ?_⟩
        simp only [Go.frozen, arun, hfa, Option.bind_some] at hr
        rw [arun_bind] at hr
        cases hfb : H.get b.block with
        | none => simp [arun, hfb] at hr
        | some y => exact ⟨y, rfl⟩
    obtain ⟨⟨x, hx⟩, y, hy⟩ := hlive
    have hne : i.blk ≠ j.blk := fun e => hab (hw.inj _ _ _ _ _ _ hx hy hi hj e)
    refine (?_ : Sim P ι EqR (Go.sameAddr a b) (Go.sameAddr _ _)) H r H' hr w hw
    unfold Go.sameAddr
    have g1 : (a.block == b.block) = false := by simpa using hab
    have g2 : (i.blk == j.blk) = false := by simpa using hne
    simp only [g1, g2, Bool.false_eq_true, if_false]
    have ha : AddrRel ι a ⟨i.blk, i.off + a.off, a.spot⟩ := ⟨i, hi, rfl⟩
    have hb : AddrRel ι b ⟨j.blk, j.off + b.off, b.spot⟩ := ⟨j, hj, rfl⟩
    refine (Sim.frozen ha).bind fun ι1 x y hs e => ?_
    obtain ⟨rfl, rfl⟩ := e
    refine (Sim.frozen (hb.mono hs)).bind fun ι2 x y hs2 e => ?_
    obtain ⟨rfl, rfl⟩ := e
    simp only [Bool.false_and, Bool.false_eq_true, if_false]
    refine (Sim.noView ((ha.mono hs).mono hs2)).bind fun ι3 _ _ hs3 _ => ?_
    refine (Sim.noView (((hb.mono hs).mono hs2).mono hs3)).bind fun ι4 _ _ hs4 _ => ?_
    have ha4 := (((ha.mono hs).mono hs2).mono hs3).mono hs4
    have hb4 := (((hb.mono hs).mono hs2).mono hs3).mono hs4
    refine Sim.bind (R := fun _ x y => x = false ∧ y = false) ?_ fun ι5 x y hs5 e => ?_
    · unfold Go.mayBeOne
      refine (Sim.stringish ha4).bind fun ι5 x y hs5 e => ?_
      obtain ⟨rfl, rfl⟩ := e
      refine (Sim.stringish (hb4.mono hs5)).bind fun ι6 x y hs6 e => ?_
      obtain ⟨rfl, rfl⟩ := e
      dsimp only
      refine Sim.bind (R := TrueR) ?_ fun ι7 x y hs7 _ => ?_
      · exact (Sim.shape ⟨i, hs6 _ _ (hs5 _ _ (hs4 _ _ (hs3 _ _ (hs2 _ _ (hs _ _ hi))))), rfl⟩).bind fun _ _ _ _ _ => Sim.pure trivial
      · refine Sim.bind (R := TrueR) ?_ fun ι8 x y hs8 _ => ?_
        · exact (Sim.shape ⟨j, hs7 _ _ (hs6 _ _ (hs5 _ _ (hs4 _ _ (hs3 _ _ (hs2 _ _ (hs _ _ hj)))))), rfl⟩).bind fun _ _ _ _ _ => Sim.pure trivial
        · exact Sim.pure ⟨by simp, by simp⟩
    · obtain ⟨rfl, rfl⟩ := e
      exact Sim.pure rfl
theorem VRel.nilSlice_inv {v' : Value} {l c : Nat} (h : VRel ι (.slice none l c) v') : v' = .slice none l c := by cases h; rfl
theorem Static.typeStr (t : TypeId) : Static P (Go.typeStr t) := by
  unfold Go.typeStr
  refine (Static.typeInfo t).bind fun i => ?_
  dsimp only
  split
  · exact Static.dead (Dead.unsupported _)
  · exact Static.pure _
theorem Sim.behind {a a' : Addr} (ha : AddrRel ι a a') : Sim P ι (fun _ x y => x = (a, false) ∧ y = (a', false)) (Go.behindNumber a) (Go.behindNumber a') := by
  obtain ⟨i, h1, rfl⟩ := ha
  unfold Go.behindNumber Go.numberAt
  refine Sim.bind (R := fun _ x y => x = none ∧ y = none) ((Sim.shape ⟨i, h1, rfl⟩).bind fun ι1 s s' hs hss => ?_) fun ι1 x y hs e => ?_
  · obtain ⟨rfl, e, k, j, rfl, _⟩ := hss
    exact Sim.pure ⟨rfl, rfl⟩
  · obtain ⟨rfl, rfl⟩ := e
    exact Sim.pure ⟨rfl, rfl⟩
theorem Sim.underlying' (t : TypeId) : Sim P ι (fun _ a b => a = b ∧ P.underlying t = some a) (Go.underlying t) (Go.underlying t) := by
  intro H a H' hr w hw
  obtain ⟨rfl, h2⟩ := (Static.underlying t) _ _ _ hr
  refine ⟨ι, a, w, (h2 w).1, Ext.refl _ _, hw, ⟨rfl, ?_⟩, .none ((h2 w).2 _), rfl⟩
  have e : arun P (Go.underlying t) H' = arun P (match P.underlying t with | some d => Pure.pure d | none => Go.stuck "no such type") H' := rfl
  rw [e] at hr
  cases hu : P.underlying t with
  | none => rw [hu] at hr; exact absurd hr (by simp [Go.stuck, arun])
  | some d =>
    rw [hu] at hr
    simp at hr
    rw [hr]
theorem Sim.equalIn : ∀ (d : Nat) (t : TypeId) (ι : Inj) (x x' y y' : Value), VRel ι x x' → VRel ι y y' → Sim P ι EqR (Op.equalIn d t x y) (Op.equalIn d t x' y')
  | 0, _, _, _, _, _, _, _, _ => Sim.dead (Dead.unsupported _)
  | d + 1, t, ι, x, x', y, y', hx, hy => by
    unfold Op.equalIn
    refine (Sim.underlying' t).bind fun ι1 k k' hs e => ?_
    obtain ⟨e, hk⟩ := e
    cases e
    replace hx := hx.mono hs
    replace hy := hy.mono hs
    cases k with
    | bool =>
      cases hx with
      | bool a => cases hy with
        | bool b => exact Sim.pure rfl
        | _ => exact Sim.dead (Dead.stuck _)
      | _ => exact Sim.dead (Dead.stuck _)
    | int kk =>
      cases hx with
      | int k1 a => cases hy with
        | int k2 b =>
          show Sim P ι1 EqR (if k1 = k2 then Pure.pure (a == b) else Go.stuck _) (if k1 = k2 then Pure.pure (a == b) else Go.stuck _)
          split
          · exact Sim.pure rfl
          · exact Sim.dead (Dead.stuck _)
        | ptr h =>
          by_cases ha : a = 0
          · subst ha; exact Sim.pure rfl
          · refine Sim.dead ?_
            split <;> first | exact Dead.unsupported _ | exact Dead.stuck _ | (simp_all; done) | skip
        | nilPtr => exact Sim.dead (Dead.unsupported _)
        | _ => exact Sim.dead (Dead.stuck _)
      | @ptr a i0 h => cases hy with
        | int k2 b =>
          by_cases ha : b = 0
          · subst ha; exact Sim.pure rfl
          · refine Sim.dead ?_
            split <;> first | exact Dead.unsupported _ | exact Dead.stuck _ | (simp_all; done) | skip
        | @ptr b j0 h' =>
          have ha : AddrRel ι1 _ _ := ⟨_, h, rfl⟩
          have hb : AddrRel ι1 _ _ := ⟨_, h', rfl⟩
          refine (Sim.behind ha).bind fun ι1 x y hs e => ?_
          obtain ⟨rfl, rfl⟩ := e
          refine (Sim.behind (hb.mono hs)).bind fun ι2 x y hs2 e => ?_
          obtain ⟨rfl, rfl⟩ := e
          dsimp only
          clear ha hb
          have hi : ι2 a.block = some i0 := hs2 _ _ (hs _ _ h)
          have hj : ι2 b.block = some j0 := hs2 _ _ (hs _ _ h')
          obtain ⟨i, ei⟩ : ∃ i, i = i0 := ⟨_, rfl⟩
          obtain ⟨j, ej⟩ : ∃ j, j = j0 := ⟨_, rfl⟩
          subst ei
          subst ej
          intro H r H' hr w hw
          have hG : ∀ (n : Nat) (k : Info), ι2 n = some k → ((n < P.globals.size) ↔ (k.blk < P.globals.size)) := by
            intro n k hk
            rw [← hw.gsize]
            by_cases hn : n < H.base
            · obtain ⟨k', h1, h2, _⟩ := hw.glob n hn
              rw [hk] at h1
              cases h1
              rw [h2]
            · have := hw.over n k hk (by omega)
              omega
          refine (?_ : Sim P ι2 EqR _ _) H r H' hr w hw
          refine Sim.prog.bind fun ι3 p p' hs3 e => ?_
          obtain ⟨e1, e2⟩ := e
          simp only [e1, e2]
          clear e1 e2
          by_cases hab : a.block = b.block
          · have hij : i = j := by rw [hab, hj] at hi; exact (Option.some.inj hi).symm
            subst hij
            have hg := hG _ _ hi
            by_cases hlt : a.block < P.globals.size
            · have hlt' := hg.1 hlt
              simp only [hab, BEq.rfl, show b.block < P.globals.size from hab ▸ hlt, hlt', decide_true, Bool.and_self, if_true]
              refine (Sim.byteOf ⟨i, hs3 _ _ hi, rfl⟩).bind fun ι4 x x' hs4 e => ?_
              cases e
              refine (Sim.byteOf ⟨i, hs4 _ _ (hs3 _ _ hj), rfl⟩).bind fun ι5 y y' hs5 e => ?_
              cases e
              exact Sim.pure rfl
            · have hlt' : ¬ i.blk < P.globals.size := fun h => hlt (hg.2 h)
              have hlt2 : ¬ b.block < P.globals.size := hab ▸ hlt
              simp only [hab, BEq.rfl, hlt2, hlt', decide_false, Bool.and_false, Bool.false_eq_true, if_false]
              refine (Static.typeInfo t).sim.bind fun ι4 d d' hs4 e => ?_
              cases e
              split
              · have heq : (a == b) = (({ block := i.blk, off := i.off + a.off, spot := a.spot } : Addr) == { block := i.blk, off := i.off + b.off, spot := b.spot }) := by
                  rw [Bool.eq_iff_iff, beq_iff_eq, beq_iff_eq]
                  obtain ⟨ab, ao, as⟩ := a
                  obtain ⟨bb, bo, bs⟩ := b
                  have hab' : ab = bb := hab
                  subst hab'
                  simp
                rw [← heq]
                split
                · exact Sim.pure rfl
                · exact Sim.dead (Dead.unsupported _)
              · exact Sim.dead (Dead.unsupported _)
          · have g1 : (a.block == b.block) = false := by simpa using hab
            simp only [g1, Bool.false_and, Bool.false_eq_true, if_false]
            refine Sim.dead (Dead.bind fun d => ?_)
            split
            · have g2 : (a == b) = false := by
                rw [beq_eq_false_iff_ne]
                intro e
                exact hab (by rw [e])
              simp only [g2, Bool.false_eq_true, if_false]
              exact Dead.unsupported _
            · exact Dead.unsupported _
        | _ => exact Sim.dead (Dead.unsupported _)
      | nilPtr => cases hy <;> exact Sim.dead (Dead.unsupported _)
      | _ => cases hy <;> first | exact Sim.dead (Dead.stuck _) | exact Sim.dead (Dead.unsupported _)
    | string =>
      cases hx with
      | string a => cases hy with
        | string b => exact Sim.pure rfl
        | _ => exact Sim.dead (Dead.stuck _)
      | _ => exact Sim.dead (Dead.stuck _)
    | pointer elem =>
      cases hx with
      | nilPtr => cases hy with
        | nilPtr => exact Sim.pure rfl
        | ptr h => exact Sim.pure rfl
        | _ => exact Sim.dead (Dead.stuck _)
      | @ptr a i h => cases hy with
        | nilPtr => exact Sim.pure rfl
        | @ptr b j h' =>
          refine (Static.sizeOf elem).sim.bind fun ι2 n n' hs2 e => ?_
          cases e
          split
          · exact Sim.sameAddr ⟨i, hs2 _ _ h, rfl⟩ ⟨j, hs2 _ _ h', rfl⟩
          · by_cases hab : a = b
            · subst hab
              have hij : i = j := by rw [h] at h'; exact Option.some.inj h'
              subst hij
              simp only [BEq.rfl, if_true]
              exact Sim.pure rfl
            · have g : (a == b) = false := by simpa using hab
              simp only [g, Bool.false_eq_true, if_false]
              exact Sim.dead (Dead.first (Dead.choose rfl))
        | _ => exact Sim.dead (Dead.stuck _)
      | _ => exact Sim.dead (Dead.stuck _)
    | interface ms =>
      cases hx with
      | nilIface => cases hy with
        | nilIface => exact Sim.pure rfl
        | iface t' h' => exact Sim.pure rfl
        | _ => exact Sim.dead (Dead.stuck _)
      | iface t1 h1 => cases hy with
        | nilIface => exact Sim.pure rfl
        | iface t2 h2 =>
          dsimp only
          split
          · exact Sim.pure rfl
          · refine (Static.typeInfo t1).sim.bind fun ι2 n n' hs2 e => ?_
            cases e
            split
            · refine Sim.dead (Dead.bind fun _ => Dead.bind fun _ => ?_)
              split
              · exact Dead.first (Dead.unsupported _)
              · exact Dead.bind fun _ => Dead.runtimePanic _
            · exact Sim.equalIn d t1 ι2 _ _ _ _ (h1.mono hs2) (h2.mono hs2)
        | _ => exact Sim.dead (Dead.stuck _)
      | _ => exact Sim.dead (Dead.stuck _)
    | struct fields =>
      cases hx with
      | agg h1 h2 => cases hy with
        | agg h3 h4 =>
          refine Sim.program.bind fun ι2 p p' hs2 e => ?_
          cases e
          dsimp only
          split
          · exact Sim.dead (Dead.first (Dead.unsupported _))
          · refine Sim.bind (R := EqR) (Sim.forInA (fun ι3 hs3 f s => ?_) fields _) fun ι3 r r' hs3 e => ?_
            · split
              · refine (Sim.part f.type (ARel.mono (hs2.trans hs3) ⟨h1, h2⟩) f.offset).bind fun ι4 u u' hs4 hu => ?_
                refine (Sim.part f.type (ARel.mono ((hs2.trans hs3).trans hs4) ⟨h3, h4⟩) f.offset).bind fun ι5 v v' hs5 hv => ?_
                refine (Sim.equalIn d f.type ι5 _ _ _ _ (hu.mono hs5) hv).bind fun ι6 b b' hs6 e => ?_
                cases e
                split <;> exact Sim.pure rfl
              · exact Sim.pure rfl
            · cases e
              obtain ⟨r1, r2⟩ := r
              cases r1 <;> exact Sim.pure rfl
        | _ => exact Sim.dead (Dead.stuck _)
      | _ => exact Sim.dead (Dead.stuck _)
    | array len elem =>
      cases hx with
      | agg h1 h2 => cases hy with
        | agg h3 h4 =>
          refine (Static.sizeOf elem).sim.bind fun ι2 n n' hs2 e => ?_
          cases e
          refine Sim.bind (R := EqR) (Sim.forInR (fun ι3 hs3 f s => ?_) _ _) fun ι3 r r' hs3 e => ?_
          · refine (Sim.part elem (ARel.mono (hs2.trans hs3) ⟨h1, h2⟩) _).bind fun ι4 u u' hs4 hu => ?_
            refine (Sim.part elem (ARel.mono ((hs2.trans hs3).trans hs4) ⟨h3, h4⟩) _).bind fun ι5 v v' hs5 hv => ?_
            refine (Sim.equalIn d elem ι5 _ _ _ _ (hu.mono hs5) hv).bind fun ι6 b b' hs6 e => ?_
            cases e
            split <;> exact Sim.pure rfl
          · cases e
            obtain ⟨r1, r2⟩ := r
            cases r1 <;> exact Sim.pure rfl
        | _ => exact Sim.dead (Dead.stuck _)
      | _ => exact Sim.dead (Dead.stuck _)
    | slice elem =>
      cases hx with
      | nilSlice l c => cases hy with
        | nilSlice => exact Sim.pure rfl
        | slice h => exact Sim.pure rfl
        | emptySlice => exact Sim.pure rfl
        | _ => exact Sim.dead (Dead.stuck _)
      | slice h => cases hy with
        | nilSlice => exact Sim.pure rfl
        | _ => exact Sim.dead (Dead.stuck _)
      | emptySlice => cases hy with
        | nilSlice => exact Sim.pure rfl
        | _ => exact Sim.dead (Dead.stuck _)
      | _ => exact Sim.dead (Dead.stuck _)
    | map k e =>
      cases hx with
      | nilMap => cases hy with
        | nilMap => exact Sim.pure rfl
        | map h => exact Sim.pure rfl
        | _ => exact Sim.dead (Dead.stuck _)
      | map h => cases hy with
        | nilMap => exact Sim.pure rfl
        | _ => exact Sim.dead (Dead.stuck _)
      | _ => exact Sim.dead (Dead.stuck _)
    | func a b c =>
      cases hx with
      | nilFunc => cases hy with
        | nilFunc => exact Sim.pure rfl
        | func => exact Sim.pure rfl
        | _ => exact Sim.dead (Dead.stuck _)
      | func => cases hy with
        | nilFunc => exact Sim.pure rfl
        | _ => exact Sim.dead (Dead.stuck _)
      | _ => exact Sim.dead (Dead.stuck _)
    | chan a b =>
      cases hx with
      | nilChan => cases hy with
        | nilChan => exact Sim.pure rfl
        | _ => exact Sim.dead (Dead.stuck _)
      | _ => exact Sim.dead (Dead.stuck _)
    | unsafePointer =>
      cases hx with
      | nilPtr => cases hy with
        | nilPtr => exact Sim.pure rfl
        | ptr h => exact Sim.pure rfl
        | _ => exact Sim.dead (Dead.stuck _)
      | @ptr a i h => cases hy with
        | nilPtr => exact Sim.pure rfl
        | @ptr b j h' => exact Sim.sameAddr ⟨i, h, rfl⟩ ⟨j, h', rfl⟩
        | _ => exact Sim.dead (Dead.stuck _)
      | _ => exact Sim.dead (Dead.stuck _)
    | float kk => exact absurd hk (NoFloat.no t kk)
    | complex kk => exact absurd hk (NoFloat.noC t kk)
    | _ => exact Sim.dead (Dead.stuck _)
end Go.Ev
namespace Go.Ev
set_option linter.unusedSectionVars false      -- the symbols' class stands for all texts
variable [Syms] {P : Program} [NoFloat P] {ι : Inj}
theorem ground1_eq {v v' : Value} (h : ground1 v = true) (hv : VRel ι v v') : v' = v := by
  cases hv with
  | func fn h1 h2 h3 h4 =>
    simp [ground1] at h
    obtain ⟨rfl, rfl⟩ := h
    simp at h1 h3
    have e1 := Array.eq_empty_of_size_eq_zero h1.symm
    have e2 := Array.eq_empty_of_size_eq_zero h3.symm
    rw [e1, e2]
  | bool | int | string | nilPtr | nilSlice | nilMap | nilChan | nilFunc | nilIface => rfl
  | sym => simp [ground1] at h
  | inp => simp [ground1] at h
  | ownS => simp [ground1] at h
  | ownP => simp [ground1] at h
  | _ => simp [ground1] at h
theorem Static.shift (op : BinOp) (k : IntKind) (x : Int) (yk : IntKind) (y : Int) : Static P (Op.shift op k x yk y) := by
  unfold Op.shift
  split
  · exact Static.dead (Dead.runtimePanic _)
  · cases op <;> first | exact Static.pure _ | exact Static.dead (Dead.stuck _)
theorem Static.intArith (op : BinOp) (k : IntKind) (x y : Int) : Static P (Op.intArith op k x y) := by
  unfold Op.intArith
  cases op <;> first | exact Static.pure _ | exact Static.dead (Dead.stuck _)
theorem Static.intBits (op : BinOp) (k : IntKind) (x y : Int) : Static P (Op.intBits op k x y) := by
  unfold Op.intBits
  cases op <;> first | exact Static.pure _ | exact Static.dead (Dead.stuck _)
theorem Static.intCmp (op : BinOp) (x y : Int) : Static P (Op.intCmp op x y) := by
  unfold Op.intCmp
  cases op <;> first | exact Static.pure _ | exact Static.dead (Dead.stuck _)
theorem Static.intDiv (op : BinOp) (k : IntKind) (x y : Int) : Static P (Op.intDiv op k x y) := by
  unfold Op.intDiv
  split
  · exact Static.dead (Dead.runtimePanic _)
  · cases op <;> first | exact Static.pure _ | exact Static.dead (Dead.stuck _)
theorem Static.stringOp (op : BinOp) (x y : ByteArray) : Static P (Op.stringOp op x y) := by
  unfold Op.stringOp
  cases op <;> first | exact Static.pure _ | exact Static.dead (Dead.stuck _) | skip
  dsimp only
  split
  · exact Static.dead (Dead.unsupported _)
  · exact Static.pure _
def binFit (op : BinOp) : Value → Value → Bool
  | .int .., .int .. => true
  | .string _, .string _ => true
  | .float .., _ => false
  | _, .float .. => false
  | .complex .., _ => false
  | _, .complex .. => false
  | _, _ => op == .eql || op == .neq
theorem Static.binInt (op : BinOp) (t : TypeId) (k k' : IntKind) (a b : Int) : Static P (Go.binOp op t (.int k a) (.int k' b)) := by
  have rest : ∀ (why : String) (f : Sem Value), Static P f → Static P (if k ≠ k' then stuck why else f) := fun why f hf => by
    split
    · exact Static.dead (Dead.stuck _)
    · exact hf
  cases op <;> unfold Go.binOp <;> dsimp only <;> first
    | exact Static.shift _ _ _ _ _
    | exact rest _ _ (Static.intArith _ _ _ _)
    | exact rest _ _ (Static.intDiv _ _ _ _)
    | exact rest _ _ (Static.intBits _ _ _ _)
    | exact rest _ _ (Static.intCmp _ _ _)
theorem Static.binString (op : BinOp) (t : TypeId) (a b : ByteArray) : Static P (Go.binOp op t (.string a) (.string b)) := by
  cases op <;> unfold Go.binOp <;> exact Static.stringOp _ _ _
theorem Sim.static {s : Sem Value} (h : Static P s) : Sim P ι (fun ι' a b => a = b ∧ (ground a = true → VRel ι' a b)) s s :=
  h.sim.mono fun ι' a b _ e => by
    cases e
    exact ⟨rfl, fun g => ground_rel g⟩
def GR : Inj → Value → Value → Prop := fun ι a b => ground a = true → VRel ι a b
theorem Sim.binEq (t : TypeId) {x x' y y' : Value} (hx : VRel ι x x') (hy : VRel ι y y') :
    Sim P ι VRel (do Pure.pure (.bool (← Op.equal t x y))) (do Pure.pure (.bool (← Op.equal t x' y'))) :=
  (Sim.equalIn Op.maxDepth t ι x x' y y' hx hy).bind fun _ a b _ e => by
    cases e
    exact Sim.pure (.bool _)
theorem Sim.binNe (t : TypeId) {x x' y y' : Value} (hx : VRel ι x x') (hy : VRel ι y y') :
    Sim P ι VRel (do Pure.pure (.bool (!(← Op.equal t x y)))) (do Pure.pure (.bool (!(← Op.equal t x' y')))) :=
  (Sim.equalIn Op.maxDepth t ι x x' y y' hx hy).bind fun _ a b _ e => by
    cases e
    exact Sim.pure (.bool _)
theorem Sim.binOp (op : BinOp) (t : TypeId) {x x' y y' : Value} (hx : VRel ι x x') (hy : VRel ι y y') (hf : binFit op x y = true) :
    Sim P ι GR (Go.binOp op t x y) (Go.binOp op t x' y') := by
  by_cases hi : (∃ k a k' b, x = .int k a ∧ y = .int k' b) ∨ ∃ a b, x = .string a ∧ y = .string b
  · rcases hi with ⟨k, a, k', b, rfl, rfl⟩ | ⟨a, b, rfl, rfl⟩
    · cases hx
      cases hy
      exact (Sim.static (Static.binInt op t k k' a b)).mono fun _ _ _ _ h => h.2
    · cases hx
      cases hy
      exact (Sim.static (Static.binString op t a b)).mono fun _ _ _ _ h => h.2
  · have hop : op = .eql ∨ op = .neq := by
      unfold binFit at hf
      split at hf
      · exact absurd (.inl ⟨_, _, _, _, rfl, rfl⟩) hi
      · exact absurd (.inr ⟨_, _, rfl, rfl⟩) hi
      · exact absurd hf (by simp)
      · exact absurd hf (by simp)
      · exact absurd hf (by simp)
      · exact absurd hf (by simp)
      · simpa using hf
    have e1 := Sim.binEq (P := P) t hx hy
    have e2 := Sim.binNe (P := P) t hx hy
    rcases hop with rfl | rfl
    · refine Sim.mono (R := VRel) ?_ fun _ _ _ _ h _ => h
      unfold Go.binOp
      cases hx <;> cases hy <;> first | exact e1 | exact absurd (.inl ⟨_, _, _, _, rfl, rfl⟩) hi | exact absurd (.inr ⟨_, _, rfl, rfl⟩) hi | exact absurd hf (by simp [binFit])
    · refine Sim.mono (R := VRel) ?_ fun _ _ _ _ h _ => h
      unfold Go.binOp
      cases hx <;> cases hy <;> first | exact e2 | exact absurd (.inl ⟨_, _, _, _, rfl, rfl⟩) hi | exact absurd (.inr ⟨_, _, rfl, rfl⟩) hi | exact absurd hf (by simp [binFit])
theorem Sim.eqGuardIn : ∀ (d : Nat) (t : TypeId) (ι : Inj) (x x' y y' : Value), VRel ι x x' → VRel ι y y' → Sim P ι EqR (Op.eqGuardIn d t x y) (Op.eqGuardIn d t x' y')
  | 0, _, _, _, _, _, _, _, _ => Sim.dead (Dead.unsupported _)
  | d + 1, t, ι, x, x', y, y', hx, hy => by
    unfold Op.eqGuardIn
    refine (Static.underlying t).sim.bind fun ι1 k k' hs e => ?_
    cases e
    replace hx := hx.mono hs
    replace hy := hy.mono hs
    cases k with
    | interface ms =>
      cases hx with
      | nilIface => cases hy <;> first | exact Sim.pure rfl | (rename_i hs0; rcases Syms.cases hs0 with ⟨_, _, rfl⟩ | ⟨_, rfl⟩ <;> exact Sim.pure rfl) | (rename_i hs0; rcases Syms.refs hs0 with ⟨_, _, _, rfl⟩ | ⟨_, rfl⟩ <;> exact Sim.pure rfl)
      | sym hs0 => rcases Syms.cases hs0 with ⟨_, _, rfl⟩ | ⟨_, rfl⟩ <;> exact Sim.pure rfl
      | inp hs0 => rcases Syms.refs hs0 with ⟨_, _, _, rfl⟩ | ⟨_, rfl⟩ <;> exact Sim.pure rfl
      | _ => exact Sim.pure rfl
    | struct fields =>
      cases hx with
      | agg h1 h2 => cases hy with
        | agg h3 h4 =>
          refine Sim.bind (R := EqR) (Sim.forInA (fun ι3 hs3 f s => ?_) fields _) fun ι3 r r' hs3 e => ?_
          · split
            · refine (Sim.part f.type (ARel.mono hs3 ⟨h1, h2⟩) f.offset).bind fun ι4 u u' hs4 hu => ?_
              refine (Sim.part f.type (ARel.mono (hs3.trans hs4) ⟨h3, h4⟩) f.offset).bind fun ι5 v v' hs5 hv => ?_
              refine (Sim.eqGuardIn d f.type ι5 _ _ _ _ (hu.mono hs5) hv).bind fun ι6 b b' hs6 e => ?_
              cases e
              split <;> exact Sim.pure rfl
            · exact Sim.pure rfl
          · cases e
            obtain ⟨r1, r2⟩ := r
            cases r1 <;> exact Sim.pure rfl
        | sym hs0 => rcases Syms.cases hs0 with ⟨_, _, rfl⟩ | ⟨_, rfl⟩ <;> exact Sim.pure rfl
        | inp hs0 => rcases Syms.refs hs0 with ⟨_, _, _, rfl⟩ | ⟨_, rfl⟩ <;> exact Sim.pure rfl
        | _ => exact Sim.pure rfl
      | sym hs0 => rcases Syms.cases hs0 with ⟨_, _, rfl⟩ | ⟨_, rfl⟩ <;> exact Sim.pure rfl
      | inp hs0 => rcases Syms.refs hs0 with ⟨_, _, _, rfl⟩ | ⟨_, rfl⟩ <;> exact Sim.pure rfl
      | _ => exact Sim.pure rfl
    | array len elem =>
      cases hx with
      | agg h1 h2 => cases hy with
        | agg h3 h4 =>
          refine (Static.sizeOf elem).sim.bind fun ι2 n n' hs2 e => ?_
          cases e
          refine Sim.bind (R := EqR) (Sim.forInR (fun ι3 hs3 f s => ?_) _ _) fun ι3 r r' hs3 e => ?_
          · refine (Sim.part elem (ARel.mono (hs2.trans hs3) ⟨h1, h2⟩) _).bind fun ι4 u u' hs4 hu => ?_
            refine (Sim.part elem (ARel.mono ((hs2.trans hs3).trans hs4) ⟨h3, h4⟩) _).bind fun ι5 v v' hs5 hv => ?_
            refine (Sim.eqGuardIn d elem ι5 _ _ _ _ (hu.mono hs5) hv).bind fun ι6 b b' hs6 e => ?_
            cases e
            split <;> exact Sim.pure rfl
          · cases e
            obtain ⟨r1, r2⟩ := r
            cases r1 <;> exact Sim.pure rfl
        | sym hs0 => rcases Syms.cases hs0 with ⟨_, _, rfl⟩ | ⟨_, rfl⟩ <;> exact Sim.pure rfl
        | inp hs0 => rcases Syms.refs hs0 with ⟨_, _, _, rfl⟩ | ⟨_, rfl⟩ <;> exact Sim.pure rfl
        | _ => exact Sim.pure rfl
      | sym hs0 => rcases Syms.cases hs0 with ⟨_, _, rfl⟩ | ⟨_, rfl⟩ <;> exact Sim.pure rfl
      | inp hs0 => rcases Syms.refs hs0 with ⟨_, _, _, rfl⟩ | ⟨_, rfl⟩ <;> exact Sim.pure rfl
      | _ => exact Sim.pure rfl
    | _ => exact Sim.pure rfl
theorem Sim.eqGuard (op : BinOp) (t : TypeId) (x y : Operand) {a a' b b' : Value} (ha : VRel ι a a') (hb : VRel ι b b') :
    Sim P ι TrueR (Go.eqGuard op t x y a b) (Go.eqGuard op t x y a' b') := by
  have q := fun ι1 hs => Sim.eqGuardIn (P := P) Op.maxDepth t ι1 a a' b b' (VRel.mono hs ha) (VRel.mono hs hb)
  have two : ∀ u : Unsupported, Sim P ι TrueR
      (do if ← Op.eqGuardIn Op.maxDepth t a b then unsupported u)
      (do if ← Op.eqGuardIn Op.maxDepth t a' b' then unsupported u) := by
    intro u
    refine (q ι (Sub.refl _)).bind fun ι1 v v' hs e => ?_
    cases e
    split
    · exact Sim.dead (Dead.unsupported _)
    · exact Sim.pure trivial
  have agg : ∀ u : Unsupported, Sim P ι TrueR
      (do
        if !(← Go.program).eqGuardType (← Go.program).depth t then return
        if ← Op.eqGuardIn Op.maxDepth t a b then unsupported u)
      (do
        if !(← Go.program).eqGuardType (← Go.program).depth t then return
        if ← Op.eqGuardIn Op.maxDepth t a' b' then unsupported u) := by
    intro u
    refine Sim.program.bind fun ι1 p p' hs1 e => ?_
    cases e
    refine Sim.program.bind fun ι2 p2 p2' hs2 e => ?_
    cases e
    split
    · exact Sim.pure trivial
    · refine (q ι2 (hs1.trans hs2)).bind fun ι1 v v' hs e => ?_
      cases e
      split
      · exact Sim.dead (Dead.unsupported _)
      · exact Sim.pure trivial
  clear q
  unfold Go.eqGuard
  cases op <;> first
    | exact Sim.pure trivial
    | (cases ha with
        | nilIface => cases hb with
          | nilIface => cases x <;> cases y <;> first | exact Sim.pure trivial | exact two _
          | sym hs0 => rcases Syms.cases hs0 with ⟨_, _, rfl⟩ | ⟨_, rfl⟩ <;> exact Sim.pure trivial
          | inp hs0 => rcases Syms.refs hs0 with ⟨_, _, _, rfl⟩ | ⟨_, rfl⟩ <;> exact Sim.pure trivial
          | _ => exact Sim.pure trivial
        | agg h1 h2 => cases hb with
          | agg h3 h4 => exact agg _
          | sym hs0 => rcases Syms.cases hs0 with ⟨_, _, rfl⟩ | ⟨_, rfl⟩ <;> exact Sim.pure trivial
          | inp hs0 => rcases Syms.refs hs0 with ⟨_, _, _, rfl⟩ | ⟨_, rfl⟩ <;> exact Sim.pure trivial
          | _ => exact Sim.pure trivial
        | sym hs0 => rcases Syms.cases hs0 with ⟨_, _, rfl⟩ | ⟨_, rfl⟩ <;> exact Sim.pure trivial
        | inp hs0 => rcases Syms.refs hs0 with ⟨_, _, _, rfl⟩ | ⟨_, rfl⟩ <;> exact Sim.pure trivial
        | _ => exact Sim.pure trivial)
def noFl : Value → Bool
  | .float .. => false
  | .complex .. => false
  | _ => true
theorem Sim.unary (op : UnOp) {x x' : Value} (hx : VRel ι x x') (hf : noFl x = true) : Sim P ι GR (Op.unary op x) (Op.unary op x') := by
  unfold Op.unary
  cases hx with
  | int k n =>
    cases op with
    | neg => exact (Sim.static (Static.intArith _ _ _ _)).mono fun _ _ _ _ h => h.2
    | xor => exact (Sim.static (Static.intBits _ _ _ _)).mono fun _ _ _ _ h => h.2
    | _ => exact Sim.dead (Dead.stuck _)
  | bool b =>
    cases op with
    | not => exact Sim.pure fun _ => .bool _
    | _ => exact Sim.dead (Dead.stuck _)
  | ptr h => cases op <;> first | exact Sim.dead (Dead.unsupported _) | exact Sim.dead (Dead.stuck _)
  | sym => simp [noFl] at hf
  | inp => simp [noFl] at hf
  | ownS => simp [noFl] at hf
  | ownP => simp [noFl] at hf
  | chn => simp [noFl] at hf
  | _ => cases op <;> exact Sim.dead (Dead.stuck _)
theorem Sim.convert (src dst : TypeId) {x x' : Value} (hx : VRel ι x x') (hi : ∃ k, P.underlying dst = some (.int k)) (hn : ∃ k n, x = .int k n) :
    Sim P ι VRel (Go.convert src dst x) (Go.convert src dst x') := by
  obtain ⟨k, hk⟩ := hi
  obtain ⟨k0, n, rfl⟩ := hn
  cases hx
  unfold Go.convert
  refine (Static.underlying src).sim.bind fun ι1 s s' hs e => ?_
  cases e
  have hst : Static P (Go.underlying dst) := Static.underlying dst
  intro H a H' hr w hw
  have e0 : arun P (Go.underlying dst) H = some (.int k, H) := by
    simp [Go.underlying, Go.program, arun_bind, arun, hk]
  have e1 : ∀ w, (Go.underlying dst).run P w = .ok (.int k) w := fun w => ((hst _ _ _ e0).2 w).1
  have e2 : ∀ w es, (Go.underlying dst).events P w es = es := fun w => ((hst _ _ _ e0).2 w).2
  rw [arun_bind, e0] at hr
  refine ⟨ι1, .int k (k.wrap n), w, ?_, Ext.refl _ _, ?_⟩
  · rw [Sem.run_bind, e1]
    cases s <;> rfl
  · have : arun P (Conv.intToInt k n) H = some (a, H') := by
      rw [← hr]
      cases s <;> rfl
    simp only [Conv.intToInt, arun_pure, Option.some.injEq, Prod.mk.injEq] at this
    obtain ⟨rfl, rfl⟩ := this
    refine ⟨hw, .int _ _, .none ?_, rfl⟩
    rw [Sem.events_bind, e1, e2]
    cases s <;> rfl
end Go.Ev
namespace Go.Ev
set_option linter.unusedSectionVars false      -- the symbols' class stands for all texts
variable [Syms] {P : Program} {ι : Inj}
theorem run_typeInfo' {t : TypeId} {i : TypeInfo} (h : P.info? t = some i) (w : World) : (Go.typeInfo t).run P w = .ok i w := by
  unfold Go.typeInfo
  rw [Sem.run_bind]
  simp [h]
theorem run_underlying' {t : TypeId} {d : TypeDesc} (h : P.underlying t = some d) (w : World) : (Go.underlying t).run P w = .ok d w := by
  unfold Go.underlying
  rw [Sem.run_bind]
  simp [h]
theorem run_sizeOf' {t : TypeId} {i : TypeInfo} (h : P.info? t = some i) (w : World) : (Go.sizeOf t).run P w = .ok i.size w := by
  unfold Go.sizeOf
  rw [Sem.run_bind, run_typeInfo' h]
  rfl
theorem run_zeroValue' {t : TypeId} {i : TypeInfo} {z : Value} (h : P.info? t = some i) (hz : i.zero = some z) (w : World) : (Go.zeroValue t).run P w = .ok z w := by
  unfold Go.zeroValue
  rw [Sem.run_bind, run_typeInfo' h]
  simp [hz]
noncomputable def amake (P : Program) (t : TypeId) (len cap : Value) (H : Heap) : Option (Value × Heap) :=
  match P.underlying t, len, cap with
  | some (.slice e), .int _ l, .int _ c =>
    match P.info? e with
    | some i => match i.zero with
      | some z => if e < P.types.size ∧ i.size = 1 ∧ Ev.oneCell z = true ∧ 0 ≤ l ∧ l ≤ c ∧ c ≤ 1099511627776 ∧ (i.bytes : Int) * c ≤ 140737488355328 then
          some (.slice (some ⟨H.next, 0, none⟩) l.toNat c.toNat, H.new (.cells { size := c.toNat, m := .leaf, dflt := z, elem := e, opn := false, esz := 1 }))
        else none
      | none => none
    | none => none
  | _, _, _ => none
theorem cells_one {z : Value} (h : Ev.oneCell z = true) : z.cells = #[z] := by
  cases z <;> first | rfl | simp [Ev.oneCell] at h
theorem amake_ok (hz : ZeroOk P) {t : TypeId} {len cap len' cap' : Value} (hl : VRel ι len len') (hc : VRel ι cap cap') {H H' : Heap} {v : Value} (h : amake P t len cap H = some (v, H')) {w : World} (hw : Rel P ι H w) :
    ∃ ι' v' w', (Instr.makeSlice t len' cap').run P w = .ok v' w' ∧ Ext P ι w ι' w' ∧ Rel P ι' H' w' ∧ VRel ι' v v' := by
  unfold amake at h
  split at h
  · rename_i e k l k' c hu
    cases hl
    cases hc
    split at h
    · rename_i i hi
      split at h
      · rename_i z hzz
        split at h
        · rename_i hcond
          obtain ⟨c1, c2, c3, c4, c5, c6, c7⟩ := hcond
          simp only [Option.some.injEq, Prod.mk.injEq] at h
          obtain ⟨rfl, rfl⟩ := h
          have hg : ground z = true := hz e i z c1 (by unfold Tables.info? at hi; rw [if_pos c1] at hi; exact hi) hzz
          have hrow : CRel ι ⟨w.heap.size, 0, c.toNat, 0, 1⟩ (.cells ((Array.range (c.toNat * i.size)).map fun x => #[z][x % (#[z] : Array Value).size]!) e (0, 0)) { size := c.toNat, m := .leaf, dflt := z, elem := e, opn := false, esz := 1 } := by
            refine ⟨⟨rfl, rfl, Nat.one_pos⟩, _, rfl, by simp [c2], fun _ => ⟨rfl, rfl, by simp [c2]⟩, fun k hk => ?_⟩
            have hk' : k < c.toNat := hk
            have e1 : (((Array.range (c.toNat * i.size)).map fun x => #[z][x % (#[z] : Array Value).size]!)).getD (0 + k) undf = z := by
              simp [c2, hk', Nat.mod_one]
            rw [e1]
            exact ground_rel hg
          obtain ⟨q1, q2, q3⟩ := hw.new (b := .cells { size := c.toNat, m := .leaf, dflt := z, elem := e, opn := false, esz := 1 }) (i := ⟨w.heap.size, 0, c.toNat, 0, 1⟩) rfl hrow
          refine ⟨_, .slice (some ⟨w.heap.size, 0, none⟩) l.toNat c.toNat, _, ?_, q2, q3, ?_⟩
          · have wl : IntKind.i64.wrap l = l := IntWalk.i64_in _ (by omega)
            have wc : IntKind.i64.wrap c = c := IntWalk.i64_in _ (by omega)
            have n1 : ¬ (c < 0 ∨ (i.bytes : Int) * c > 2 ^ 48) := by
              intro hh
              rcases hh with hh | hh
              · omega
              · have : (2 : Int) ^ 48 = 281474976710656 := by decide
                omega
            have hcc : ¬ c < 0 := by omega
            have hll : ¬ l < 0 := by omega
            have hlc : ¬ l > c := by omega
            have hbb : ¬ (i.bytes : Int) * c > 2 ^ 48 := fun hh => n1 (.inr hh)
            unfold Instr.makeSlice
            simp only [Sem.run_bind, run_underlying' hu, Result.andThen_ok, Go.asInt, Go.asIntOf, Sem.run_pure, run_typeInfo' hi, wl, wc, hcc, hll, hlc, hbb, decide_false, Bool.or_self, Bool.false_eq_true, if_false, run_askRoom, run_sizeOf' hi]
            by_cases h0 : c.toNat * i.size = 0
            · have e0 : ∀ f : Nat → Value, (Array.range 0).map f = #[] := fun f => by simp
              rw [if_pos h0, h0]
              simp only [e0]
              rfl
            · rw [if_neg h0, Sem.run_bind, run_zeroValue' hi hzz]
              simp only [Result.andThen_ok, cells_one c3]
              rfl
          · have := VRel.slice (ι := ι.with H.next ⟨w.heap.size, 0, c.toNat, 0, 1⟩) (a := ⟨H.next, 0, none⟩) (i := ⟨w.heap.size, 0, c.toNat, 0, 1⟩) (l := l.toNat) (c := c.toNat) (c' := c.toNat) (by simp [Inj.with]) (.inl rfl) (Nat.le_refl _)
            simpa using this
        · simp at h
      · simp at h
    · simp at h
  · simp at h
theorem amake_at (hz : ZeroOk P) {t : TypeId} {len cap len' cap' : Value} (hl : VRel ι len len') (hc : VRel ι cap cap') {H H' : Heap} {v : Value} (h : amake P t len cap H = some (v, H')) {w : World} {X X' : Heap} (hw : Rel P ι X w)
    (hN : ι H.next = none) (hbase : X'.base = X.base) (hnx : X.next ≤ X'.next) (hlt : H.next < X'.next) (hhole : ∀ n, n ∈ X'.hole → n ∈ X.hole ∧ n ≠ H.next) (hget : ∀ m, X'.get m = if m = H.next then H'.get H.next else X.get m) :
    ∃ i v' w', (Instr.makeSlice t len' cap').run P w = .ok v' w' ∧ Ext P ι w (ι.with H.next i) w' ∧ Rel P (ι.with H.next i) X' w' ∧ VRel (ι.with H.next i) v v' := by
  unfold amake at h
  split at h
  · rename_i e k l k' c hu
    cases hl
    cases hc
    split at h
    · rename_i i hi
      split at h
      · rename_i z hzz
        split at h
        · rename_i hcond
          obtain ⟨c1, c2, c3, c4, c5, c6, c7⟩ := hcond
          simp only [Option.some.injEq, Prod.mk.injEq] at h
          obtain ⟨rfl, rfl⟩ := h
          have hg : ground z = true := hz e i z c1 (by unfold Tables.info? at hi; rw [if_pos c1] at hi; exact hi) hzz
          have hrow : CRel ι ⟨w.heap.size, 0, c.toNat, 0, 1⟩ (.cells ((Array.range (c.toNat * i.size)).map fun x => #[z][x % (#[z] : Array Value).size]!) e (0, 0)) { size := c.toNat, m := .leaf, dflt := z, elem := e, opn := false, esz := 1 } := by
            refine ⟨⟨rfl, rfl, Nat.one_pos⟩, _, rfl, by simp [c2], fun _ => ⟨rfl, rfl, by simp [c2]⟩, fun k hk => ?_⟩
            have hk' : k < c.toNat := hk
            have e1 : (((Array.range (c.toNat * i.size)).map fun x => #[z][x % (#[z] : Array Value).size]!)).getD (0 + k) undf = z := by
              simp [c2, hk', Nat.mod_one]
            rw [e1]
            exact ground_rel hg
          obtain ⟨q1, q2, q3⟩ := hw.newAt (H' := X') (b := .cells { size := c.toNat, m := .leaf, dflt := z, elem := e, opn := false, esz := 1 }) (i := ⟨w.heap.size, 0, c.toNat, 0, 1⟩) rfl hrow hN hbase hnx hlt hhole (fun m => by rw [hget m]; simp)
          refine ⟨_, .slice (some ⟨w.heap.size, 0, none⟩) l.toNat c.toNat, _, ?_, q2, q3, ?_⟩
          · have wl : IntKind.i64.wrap l = l := IntWalk.i64_in _ (by omega)
            have wc : IntKind.i64.wrap c = c := IntWalk.i64_in _ (by omega)
            have n1 : ¬ (c < 0 ∨ (i.bytes : Int) * c > 2 ^ 48) := by
              intro hh
              rcases hh with hh | hh
              · omega
              · have : (2 : Int) ^ 48 = 281474976710656 := by decide
                omega
            have hcc : ¬ c < 0 := by omega
            have hll : ¬ l < 0 := by omega
            have hlc : ¬ l > c := by omega
            have hbb : ¬ (i.bytes : Int) * c > 2 ^ 48 := fun hh => n1 (.inr hh)
            unfold Instr.makeSlice
            simp only [Sem.run_bind, run_underlying' hu, Result.andThen_ok, Go.asInt, Go.asIntOf, Sem.run_pure, run_typeInfo' hi, wl, wc, hcc, hll, hlc, hbb, decide_false, Bool.or_self, Bool.false_eq_true, if_false, run_askRoom, run_sizeOf' hi]
            by_cases h0 : c.toNat * i.size = 0
            · have e0 : ∀ f : Nat → Value, (Array.range 0).map f = #[] := fun f => by simp
              rw [if_pos h0, h0]
              simp only [e0]
              rfl
            · rw [if_neg h0, Sem.run_bind, run_zeroValue' hi hzz]
              simp only [Result.andThen_ok, cells_one c3]
              rfl
          · have := VRel.slice (ι := ι.with H.next ⟨w.heap.size, 0, c.toNat, 0, 1⟩) (a := ⟨H.next, 0, none⟩) (i := ⟨w.heap.size, 0, c.toNat, 0, 1⟩) (l := l.toNat) (c := c.toNat) (c' := c.toNat) (by simp [Inj.with]) (.inl rfl) (Nat.le_refl _)
            simpa using this
        · simp at h
      · simp at h
    · simp at h
  · simp at h
theorem amake_new {t : TypeId} {len cap : Value} {H H' : Heap} {v : Value} (h : amake P t len cap H = some (v, H')) : ∃ b, H' = H.new b := by
  unfold amake at h
  split at h
  · split at h
    · split at h
      · split at h
        · simp only [Option.some.injEq, Prod.mk.injEq] at h
          exact ⟨_, h.2.symm⟩
        · simp at h
      · simp at h
    · simp at h
  · simp at h
def natOf : Option Value → Nat → Option Nat
  | none, d => some d
  | some (.int _ n), _ => if 0 ≤ n then some n.toNat else none
  | _, _ => none
def ORel (ι : Inj) : Option Value → Option Value → Prop
  | none, none => True
  | some a, some b => VRel ι a b
  | _, _ => False
theorem Sim.sliceBound {x x' : Value} (h : VRel ι x x') (y : Nat) (c : BoundsCode) : Sim P ι EqR (Instr.sliceBound x y c) (Instr.sliceBound x' y c) := by
  unfold Instr.sliceBound
  refine (Sim.asIntOf h).bind fun ι1 a b hs e => ?_
  cases e
  dsimp only
  split
  · exact Sim.pure rfl
  · exact Sim.dead (Dead.boundsPanic _ _ _ _)
noncomputable def lowB (lo : Option Value) (h m : Nat) (c : BoundsCode) : Sem (Nat × Nat × Nat) :=
  match lo with
  | some v => (do let l ← Instr.sliceBound v h c; Pure.pure (l, h, m))
  | none => Pure.pure (0, h, m)
theorem Sim.lowB {lo lo' : Option Value} (h1 : ORel ι lo lo') (h m : Nat) (c : BoundsCode) : Sim P ι EqR (Ev.lowB lo h m c) (Ev.lowB lo' h m c) := by
  cases lo with
  | none => cases lo' with
    | none => exact Sim.pure rfl
    | some v' => exact h1.elim
  | some v => cases lo' with
    | none => exact h1.elim
    | some v' =>
      refine (Sim.sliceBound h1 _ _).bind fun ι2 a b _ e => ?_
      cases e
      exact Sim.pure rfl
theorem ORel.mono {ι ι' : Inj} (hs : Sub ι ι') {a b : Option Value} (h : ORel ι a b) : ORel ι' a b := by
  cases a <;> cases b <;> first | exact h | exact VRel.mono hs h
theorem Sim.sliceBounds (sl : Bool) (len cap : Nat) {lo lo' hi hi' mx mx' : Option Value} (h1 : ORel ι lo lo') (h2 : ORel ι hi hi') (h3 : ORel ι mx mx') :
    Sim P ι EqR (Instr.sliceBounds sl len cap lo hi mx) (Instr.sliceBounds sl len cap lo' hi' mx') := by
  unfold Instr.sliceBounds
  cases mx with
  | none => cases mx' with
    | some v' => exact h3.elim
    | none =>
      dsimp only [Pure.pure, Bind.bind, Sem.bind]
      cases hi with
      | none => cases hi' with
        | some v' => exact h2.elim
        | none => exact Sim.lowB h1 len cap _
      | some v => cases hi' with
        | none => exact h2.elim
        | some v' =>
          refine (Sim.sliceBound h2 _ _).bind fun ι2 a b hs e => ?_
          cases e
          exact Sim.lowB (h1.mono hs) a cap _
  | some m => cases mx' with
    | none => exact h3.elim
    | some m' =>
      refine (Sim.sliceBound h3 _ _).bind fun ι2 a b hs e => ?_
      cases e
      cases hi with
      | none => cases hi' with
        | some v' => exact h2.elim
        | none => exact Sim.dead (Dead.first (Dead.stuck _))
      | some v => cases hi' with
        | none => exact h2.elim
        | some v' =>
          refine (Sim.sliceBound (VRel.mono hs h2) _ _).bind fun ι3 a' b' hs2 e => ?_
          cases e
          exact Sim.lowB (h1.mono (hs.trans hs2)) a' a _
theorem Sim.sliceAt (t : TypeId) {x x' : Value} (hx : VRel ι x x') (hn : ∀ a l c, x ≠ .slice (some a) l c) {lo lo' hi hi' mx mx' : Option Value} (h1 : ORel ι lo lo') (h2 : ORel ι hi hi') (h3 : ORel ι mx mx') :
    Sim P ι VRel (Instr.sliceAt t x lo hi mx) (Instr.sliceAt t x' lo' hi' mx') := by
  have om : ∀ {a b : Option Value} {ι' : Inj}, Sub ι ι' → ORel ι a b → ORel ι' a b := fun hs h => h.mono hs
  have ptr : ∀ (ι1 : Inj) (a a' : Addr) (n : Nat) (elem : TypeId), Sub ι ι1 → AddrRel ι1 a a' → Sim P ι1 VRel
      (do let (l, h, m) ← Instr.sliceBounds false n n lo hi mx
          let size ← Go.sizeOf elem
          Pure.pure (Value.slice (some (if m = l then a else a.add (l * size))) (h - l) (m - l)))
      (do let (l, h, m) ← Instr.sliceBounds false n n lo' hi' mx'
          let size ← Go.sizeOf elem
          Pure.pure (Value.slice (some (if m = l then a' else a'.add (l * size))) (h - l) (m - l))) := by
    intro ι1 a a' n elem hs ha
    refine (Sim.sliceBounds false n n (om hs h1) (om hs h2) (om hs h3)).bind fun ι2 r r' hs2 e => ?_
    cases e
    obtain ⟨l, h, m⟩ := r
    dsimp only
    refine (Static.sizeOf elem).sim.bind fun ι3 z z' hs3 e => ?_
    cases e
    refine Sim.pure ?_
    split
    · obtain ⟨i, hi1, rfl⟩ := (ha.mono hs2).mono hs3
      exact .slice hi1 (.inl rfl) (Nat.le_refl _)
    · obtain ⟨i, hi1, e2⟩ := AddrRel.add ((ha.mono hs2).mono hs3) (l * z)
      rw [e2]
      exact .slice hi1 (.inl rfl) (Nat.le_refl _)
  have plain : ∀ ι1, Sub ι ι1 → Sim P ι1 VRel (Instr.slice t x lo hi mx) (Instr.slice t x' lo' hi' mx') := by
    intro ι1 hs
    unfold Instr.slice
    refine (Static.underlying t).sim.bind fun ι2 d d' hs2 e => ?_
    cases e
    have hx2 := (hx.mono hs).mono hs2
    cases d with
    | string =>
      cases hx2 with
      | string s =>
        cases mx with
        | none => cases mx' with
          | some v => exact h3.elim
          | none =>
            dsimp only
            refine (Sim.sliceBounds false s.size s.size (om (hs.trans hs2) h1) (om (hs.trans hs2) h2) (show ORel ι2 none none from trivial)).bind fun ι3 r r' hs3 e => ?_
            cases e
            exact Sim.pure (.string _)
        | some v => exact Sim.dead (Dead.first (Dead.stuck _))
      | _ => exact Sim.dead (Dead.stuck _)
    | slice elem =>
      cases hx2 with
      | nilSlice len cap =>
        dsimp only
        refine (Sim.sliceBounds true len cap (om (hs.trans hs2) h1) (om (hs.trans hs2) h2) (om (hs.trans hs2) h3)).bind fun ι3 r r' hs3 e => ?_
        cases e
        obtain ⟨l, h, m⟩ := r
        dsimp only
        refine (Static.sizeOf elem).sim.bind fun ι4 z z' hs4 e => ?_
        cases e
        refine Sim.pure ?_
        split <;> exact .nilSlice _ _
      | slice h => exact absurd rfl (hn _ _ _)
      | emptySlice => exact absurd rfl (hn _ _ _)
      | _ => exact Sim.dead (Dead.stuck _)
    | pointer arr =>
      dsimp only
      refine (Sim.asAddr hx2).bind fun ι3 a a' hs3 ha => ?_
      refine (Static.underlying arr).sim.bind fun ι4 d d' hs4 e => ?_
      cases e
      cases d with
      | array n elem => exact ptr ι4 a a' n elem (((hs.trans hs2).trans hs3).trans hs4) (ha.mono hs4)
      | _ => exact Sim.dead (Dead.stuck _)
    | _ => exact Sim.dead (Dead.stuck _)
  unfold Instr.sliceAt
  refine (Static.underlying t).sim.bind fun ι1 d d' hs e => ?_
  cases e
  cases d with
  | array n elem => exact (Sim.sureAddr (hx.mono hs)).bind fun ι2 a a' hs2 ha => ptr ι2 a a' n elem (hs.trans hs2) ha
  | _ => exact plain ι1 hs
noncomputable def acut (P : Program) (t : TypeId) (a : Addr) (len cap : Nat) (lo hi mx : Option Value) (H : Heap) : Option Value :=
  match P.underlying t with
  | some (.slice e) => match P.info? e with
    | some i => match natOf lo 0, natOf hi len, natOf mx cap with
      | some l, some h, some m =>
        if l ≤ h ∧ h ≤ m ∧ m ≤ cap ∧ (mx.isSome = true → hi.isSome = true) then
          if l = 0 then some (.slice (some a) h m)
          else match H.get a.block with
            | some (.cells c) =>
              if c.opn then
                if mx.isSome then (if m = l then some (.slice (some a) 0 0) else some (.slice (some (a.add (l * i.size))) (h - l) (m - l)))
                else if i.size = c.esz then some (.slice (some (a.add (l * i.size))) (h - l) (m - l)) else none
              else some (.slice (some (if m = l then a else a.add (l * i.size))) (h - l) (m - l))
            | _ => none
        else none
      | _, _, _ => none
    | none => none
  | _ => none
theorem natOf_rel {v v' : Option Value} (h : ORel ι v v') {d n : Nat} (hn : natOf v d = some n) : (v = none ∧ v' = none ∧ n = d) ∨ ∃ k, v = some (.int k (n : Int)) ∧ v' = some (.int k (n : Int)) := by
  cases v with
  | none => cases v' with
    | none => simp [natOf] at hn; exact .inl ⟨rfl, rfl, hn.symm⟩
    | some v' => exact h.elim
  | some x => cases v' with
    | none => exact h.elim
    | some y =>
      have h' : VRel ι x y := h
      cases h' with
      | int k m =>
        simp only [natOf] at hn
        split at hn
        · rename_i hm
          simp only [Option.some.injEq] at hn
          subst hn
          exact .inr ⟨k, by rw [Int.toNat_of_nonneg hm], by rw [Int.toNat_of_nonneg hm]⟩
        · simp at hn
      | sym => simp [natOf] at hn
      | inp => simp [natOf] at hn
      | ownS => simp [natOf] at hn
      | ownP => simp [natOf] at hn
      | _ => simp [natOf] at hn
theorem run_sliceBound {k : IntKind} {n y : Nat} (h : n ≤ y) (c : BoundsCode) (w : World) : (Instr.sliceBound (.int k (n : Int)) y c).run P w = .ok n w := by
  unfold Instr.sliceBound
  rw [Sem.run_bind]
  have : (0 : Int) ≤ n ∧ (n : Int) ≤ y := ⟨by omega, by omega⟩
  simp [Go.asIntOf, this]
theorem run_cut {t e : TypeId} {i : TypeInfo} (hu : P.underlying t = some (.slice e)) (hi : P.info? e = some i) {lo hi' mx : Option Value} {l h m len cap : Nat} (base : Option Addr)
    (hl : (lo = none ∧ l = 0) ∨ ∃ k, lo = some (.int k (l : Int))) (hh : (hi' = none ∧ h = len) ∨ ∃ k, hi' = some (.int k (h : Int))) (hm : (mx = none ∧ m = cap) ∨ ∃ k, mx = some (.int k (m : Int)))
    (h1 : l ≤ h) (h2 : h ≤ m) (h3 : m ≤ cap) (h4 : mx.isSome = true → hi'.isSome = true) (w : World) :
    (Instr.sliceAt t (.slice base len cap) lo hi' mx).run P w = .ok (.slice (if m = l then base else base.map (·.add (l * i.size))) (h - l) (m - l)) w := by
  have hb : (Instr.sliceBounds true len cap lo hi' mx).run P w = .ok (l, h, m) w := by
    unfold Instr.sliceBounds
    rcases hm with ⟨rfl, rfl⟩ | ⟨km, rfl⟩
    · rcases hh with ⟨rfl, rfl⟩ | ⟨kh, rfl⟩
      · rcases hl with ⟨rfl, rfl⟩ | ⟨kl, rfl⟩
        · simp
        · simp [run_sliceBound h1]
      · rcases hl with ⟨rfl, rfl⟩ | ⟨kl, rfl⟩
        · simp [run_sliceBound h2]
        · simp [run_sliceBound h1, run_sliceBound h2]
    · rcases hh with ⟨rfl, rfl⟩ | ⟨kh, rfl⟩
      · simp at h4
      · rcases hl with ⟨rfl, rfl⟩ | ⟨kl, rfl⟩
        · simp [run_sliceBound h2, run_sliceBound h3]
        · simp [run_sliceBound h1, run_sliceBound h2, run_sliceBound h3]
  unfold Instr.sliceAt Instr.slice
  simp only [Sem.run_bind, run_underlying' hu, Result.andThen_ok, hb, run_sizeOf' hi, Sem.run_pure]
theorem acut_ok {t : TypeId} {a : Addr} {len cap : Nat} {x' : Value} (hx : VRel ι (.slice (some a) len cap) x') {lo lo' hi hi' mx mx' : Option Value} (h1 : ORel ι lo lo') (h2 : ORel ι hi hi') (h3 : ORel ι mx mx')
    {H : Heap} {v : Value} (h : acut P t a len cap lo hi mx H = some v) {w : World} (hw : Rel P ι H w) :
    ∃ v', (Instr.sliceAt t x' lo' hi' mx').run P w = .ok v' w ∧ VRel ι v v' := by
  unfold acut at h
  split at h
  · rename_i e hu
    split at h
    · rename_i i hi1
      split at h
      · rename_i l hh m hl0 hh0 hm0
        split at h
        · rename_i hc
          obtain ⟨c1, c2, c3, c4⟩ := hc
          have nl := natOf_rel h1 hl0
          have nh := natOf_rel h2 hh0
          have nm := natOf_rel h3 hm0
          have bl : (lo' = none ∧ l = 0) ∨ ∃ k, lo' = some (.int k (l : Int)) := nl.imp (fun h => ⟨h.2.1, h.2.2⟩) fun ⟨k, _, h⟩ => ⟨k, h⟩
          have bh : (hi' = none ∧ hh = len) ∨ ∃ k, hi' = some (.int k (hh : Int)) := nh.imp (fun h => ⟨h.2.1, h.2.2⟩) fun ⟨k, _, h⟩ => ⟨k, h⟩
          have c4' : mx'.isSome = true → hi'.isSome = true := by
            intro hms
            rcases nm with ⟨_, rfl, _⟩ | ⟨k, hmx, _⟩
            · simp at hms
            · rcases nh with ⟨hhi, _, _⟩ | ⟨k', _, hhi'⟩
              · have := c4 (by rw [hmx]; rfl)
                rw [hhi] at this
                simp at this
              · rw [hhi']; rfl
          -- the other side's bound on what is there
          have other : ∀ cap', cap ≤ cap' → ∃ m', ((mx' = none ∧ m' = cap') ∨ ∃ k, mx' = some (.int k (m' : Int))) ∧ m ≤ m' ∧ m' ≤ cap' ∧ (mx.isSome = true → m' = m) ∧ (mx = none → m = cap ∧ m' = cap') := by
            intro cap' hcap
            rcases nm with ⟨e1, e2, e3⟩ | ⟨k, e1, e2⟩
            · exact ⟨cap', .inl ⟨e2, rfl⟩, by omega, Nat.le_refl _, fun h => by rw [e1] at h; simp at h, fun _ => ⟨e3, rfl⟩⟩
            · exact ⟨m, .inr ⟨k, e2⟩, Nat.le_refl _, by omega, fun _ => rfl, fun h => by rw [e1] at h; simp at h⟩
          cases hx with
          | emptySlice _ a' =>
            obtain ⟨m', q1, q2, q3, q4, q5⟩ := other 0 (Nat.le_refl _)
            have hm' : m' = 0 := by omega
            subst hm'
            have hl : l = 0 := by omega
            have hhz : hh = 0 := by omega
            have hmz : m = 0 := by omega
            subst hl hhz hmz
            rw [if_pos rfl] at h
            simp only [Option.some.injEq] at h
            subst h
            refine ⟨_, run_cut hu hi1 (some a') bl bh q1 (Nat.le_refl _) (Nat.le_refl _) (Nat.le_refl _) c4' w, ?_⟩
            simp only [if_true]
            exact .emptySlice _ _
          | @slice _ inf _ _ cap' g1 g2 g3 =>
            obtain ⟨m', q1, q2, q3, q4, q5⟩ := other cap' g3
            refine ⟨_, run_cut hu hi1 (some ⟨inf.blk, inf.off + a.off, a.spot⟩) bl bh q1 c1 (by omega) q3 c4' w, ?_⟩
            by_cases hl : l = 0
            · subst hl
              rw [if_pos rfl] at h
              simp only [Option.some.injEq] at h
              subst h
              have hp : (if m' = 0 then some (⟨inf.blk, inf.off + a.off, a.spot⟩ : Addr) else (some (⟨inf.blk, inf.off + a.off, a.spot⟩ : Addr)).map (·.add (0 * i.size))) = some ⟨inf.blk, inf.off + a.off, a.spot⟩ := by
                split
                · rfl
                · simp [Addr.add]
              rw [hp]
              refine .slice g1 ?_ q2
              cases hmx : mx with
              | none =>
                obtain ⟨r1, r2⟩ := q5 hmx
                subst r1 r2
                exact g2
              | some y => exact .inl (q4 (by rw [hmx]; rfl))
            · rw [if_neg hl] at h
              cases hb : H.get a.block with
              | none => rw [hb] at h; simp at h
              | some b =>
                cases b with
                | map es clock => rw [hb] at h; simp at h
                | arr r => rw [hb] at h; simp at h
                | chan _ _ _ => rw [hb] at h; simp at h
                | part _ => rw [hb] at h; simp at h
                | cells c =>
                  rw [hb] at h
                  simp only at h
                  obtain ⟨j, o, hj, ho, hrel⟩ := hw.live _ _ hb
                  obtain rfl : inf = j := by rw [g1] at hj; exact Option.some.inj hj
                  obtain ⟨⟨r1, r2, r3⟩, cs, rfl, r4, r5, r6⟩ := hrel
                  have adv : ∀ n, AddrRel ι (a.add n) ((⟨inf.blk, inf.off + a.off, a.spot⟩ : Addr).add n) := fun n => AddrRel.add ⟨inf, g1, rfl⟩ n
                  -- behind a bound of its own, and in a block of known room, both sides are alike
                  have same : m' = m → v = .slice (some (if m = l then a else a.add (l * i.size))) (hh - l) (m - l) → VRel ι v (.slice (if m' = l then some (⟨inf.blk, inf.off + a.off, a.spot⟩ : Addr) else (some (⟨inf.blk, inf.off + a.off, a.spot⟩ : Addr)).map (·.add (l * i.size))) (hh - l) (m' - l)) := by
                    intro hmm hv
                    subst hmm hv
                    split
                    · exact .slice g1 (.inl rfl) (Nat.le_refl _)
                    · obtain ⟨k, hk, e2⟩ := adv (l * i.size)
                      simp only [Option.map_some]
                      rw [e2]
                      exact .slice hk (.inl rfl) (Nat.le_refl _)
                  cases hop : c.opn with
                  | false =>
                    rw [hop] at h
                    simp only [Bool.false_eq_true, if_false, Option.some.injEq] at h
                    obtain ⟨s1, s2, s3⟩ := r5 hop
                    have hcc : cap' = cap := by
                      rcases g2 with g2 | ⟨_, g2⟩
                      · exact g2
                      · rw [s1, Nat.add_zero] at g2
                        exact Nat.eq_of_mul_eq_mul_right (by omega) g2
                    refine same ?_ h.symm
                    cases hmx : mx with
                    | none => obtain ⟨t1, t2⟩ := q5 hmx; omega
                    | some y => exact q4 (by rw [hmx]; rfl)
                  | true =>
                    rw [hop] at h
                    simp only [if_true] at h
                    cases hmx : mx with
                    | some y =>
                      rw [hmx] at h
                      simp only [Option.isSome_some, if_true] at h
                      have hm' := q4 (by rw [hmx]; rfl)
                      by_cases hml : m = l
                      · rw [if_pos hml] at h
                        simp only [Option.some.injEq] at h
                        subst h
                        have e1 : hh - l = 0 := by omega
                        have e2 : m' - l = 0 := by omega
                        rw [if_pos (by omega), e1, e2]
                        exact .emptySlice _ _
                      · rw [if_neg hml] at h
                        simp only [Option.some.injEq] at h
                        exact same hm' (by rw [if_neg hml]; exact h.symm)
                    | none =>
                      rw [hmx] at h
                      simp only [Option.isSome_none, Bool.false_eq_true, if_false] at h
                      obtain ⟨t1, t2⟩ := q5 hmx
                      split at h
                      · rename_i hsz
                        simp only [Option.some.injEq] at h
                        subst h
                        obtain ⟨k, hk, e2⟩ := adv (l * i.size)
                        have hlz : l * i.size ≠ 0 := by
                          rw [hsz]
                          exact Nat.mul_ne_zero hl (by omega)
                        by_cases hml : m' = l
                        · rw [if_pos hml]
                          have e1 : hh - l = 0 := by omega
                          have e3 : m - l = 0 := by omega
                          have e4 : m' - l = 0 := by omega
                          rw [e1, e3, e4]
                          exact .emptySlice _ _
                        · rw [if_neg hml]
                          simp only [Option.map_some]
                          rw [e2]
                          have hka : k = inf := by
                            have : (a.add (l * i.size)).block = a.block := by unfold Addr.add; rw [if_neg hlz]
                            rw [this, g1] at hk
                            exact (Option.some.inj hk).symm
                          subst hka
                          have hao : (a.add (l * i.size)).off = a.off + l * i.size := by unfold Addr.add; rw [if_neg hlz]
                          refine .slice hk ?_ (by omega)
                          rcases g2 with g2 | ⟨g4, g5⟩
                          · exact .inl (by omega)
                          · refine .inr ?_
                            rw [hao]
                            have hse : i.size = k.esz := by omega
                            rw [hse]
                            have f1 : cap = l + (m - l) := by omega
                            have f2 : cap' = l + (m' - l) := by omega
                            rw [f1, Nat.add_mul] at g4 g5
                            rw [f2, Nat.add_mul] at g5
                            exact ⟨by omega, by omega⟩
                      · simp at h
        · simp at h
      · simp at h
    · simp at h
  · simp at h
end Go.Ev
namespace Go.Ev
set_option linter.unusedSectionVars false      -- the symbols' class stands for all texts
variable [Syms] {P : Program} {ι : Inj}
noncomputable def loads (H : Heap) (a : Addr) : Nat → Nat → Option (List Value)
  | _, 0 => some []
  | i, n + 1 => match H.load (a.add i) with
    | some v => match loads H a (i + 1) n with
      | some l => some (v :: l)
      | none => none
    | none => none
noncomputable def stores (H : Heap) (a : Addr) : Nat → List Value → Option Heap
  | _, [] => some H
  | i, v :: l => match H.store (a.add i) v with
    | some H' => stores H' a (i + 1) l
    | none => none
theorem loads_ok {H : Heap} {a a' : Addr} (ha : AddrRel ι a a') {w : World} (hw : Rel P ι H w) : ∀ (n i : Nat) (l : List Value), loads H a i n = some l → ∀ acc,
    ∃ l', (Go.loadCellsFrom a' i n acc).run P w = .ok (acc ++ l'.toArray) w ∧ LRel ι l l' ∧ l.length = n
  | 0, i, l, h, acc => by
    simp only [loads, Option.some.injEq] at h
    subst h
    exact ⟨[], by simp [Go.loadCellsFrom], ⟨rfl, fun k hk => by simp at hk⟩, rfl⟩
  | n + 1, i, l, h, acc => by
    simp only [loads] at h
    cases hv : H.load (a.add i) with
    | none => rw [hv] at h; simp at h
    | some v =>
      rw [hv] at h
      simp only at h
      cases hl : loads H a (i + 1) n with
      | none => rw [hl] at h; simp at h
      | some l1 =>
        rw [hl] at h
        simp only [Option.some.injEq] at h
        subst h
        obtain ⟨v', hc, hvv⟩ := hw.cell (ha.add i) hv
        obtain ⟨l', e1, r1, e2⟩ := loads_ok ha hw n (i + 1) l1 hl (acc.push v')
        refine ⟨v' :: l', ?_, ⟨by simp [r1.1], fun k hk => ?_⟩, by simp [e2]⟩
        · unfold Go.loadCellsFrom
          rw [Sem.run_bind, run_load, hc]
          simp only [Result.andThen_ok]
          rw [e1]
          simp
        · cases k with
          | zero => simpa using hvv
          | succ k => simpa using r1.2 k (by simpa using hk)
theorem stores_ok : ∀ (l l' : List Value) (i : Nat) (ι : Inj) (H H' : Heap) (a a' : Addr) (w : World), AddrRel ι a a' → LRel ι l l' → Rel P ι H w → stores H a i l = some H' →
    ∃ w', (Go.storeCells a' l' i).run P w = .ok () w' ∧ Ext P ι w ι w' ∧ Rel P ι H' w'
  | [], l', i, ι, H, H', a, a', w, _, hl, hw, h => by
    obtain rfl := hl.nil_inv
    simp only [stores, Option.some.injEq] at h
    subst h
    exact ⟨w, rfl, Ext.refl _ _, hw⟩
  | x :: xs, l', i, ι, H, H', a, a', w, ha, hl, hw, h => by
    obtain ⟨y, ys, rfl, hv, hr⟩ := hl.cons_inv
    simp only [stores] at h
    cases hs : H.store (a.add i) x with
    | none => rw [hs] at h; simp at h
    | some H1 =>
      rw [hs] at h
      obtain ⟨⟨z, hc⟩, hf, ho, x1, r1⟩ := hw.store (ha.add i) hv hs
      obtain ⟨w', e2, x2, r2⟩ := stores_ok xs ys (i + 1) ι H1 H' a a' _ ha hr r1 h
      refine ⟨w', ?_, x1.trans x2, r2⟩
      unfold Go.storeCells
      rw [Sem.run_bind, run_store P w _ _ _ ho, hc]
      simp only [hf, Bool.false_eq_true, if_false, Result.andThen_ok]
      exact e2
noncomputable def news (H : Heap) (size : Nat) : Value → Option (Nat × List Value)
  | .slice (some b) n _ => match loads H b 0 (n * size) with
    | some l => some (n, l)
    | none => none
  | .slice none 0 _ => some (0, [])
  | .string s => some (s.size, (s.data.toList.map fun b => .int .u8 b.toNat))
  | _ => none
theorem news_ok {H : Heap} {w : World} (hw : Rel P ι H w) {size : Nat} {x x' : Value} (hx : VRel ι x x') {n : Nat} {l : List Value} (h : news H size x = some (n, l)) :
    (∀ w0 : World, (Builtin.lenOf x').run P w0 = .ok n w0) ∧ ∃ l', (Builtin.firstCells size n x').run P w = .ok l'.toArray w ∧ LRel ι l l' := by
  cases hx with
  | slice g1 g2 g3 =>
    rename_i a i ln c c'
    simp only [news] at h
    cases hl : loads H a 0 (ln * size) with
    | none => rw [hl] at h; simp at h
    | some l1 =>
      rw [hl] at h
      simp only [Option.some.injEq, Prod.mk.injEq] at h
      obtain ⟨rfl, rfl⟩ := h
      obtain ⟨l', e1, r1, _⟩ := loads_ok ⟨i, g1, rfl⟩ hw _ _ _ hl #[]
      exact ⟨fun _ => rfl, l', by simpa [Builtin.firstCells, Go.loadCells] using e1, r1⟩
  | emptySlice a a' =>
    simp only [news] at h
    cases hl : loads H a 0 (0 * size) with
    | none => rw [hl] at h; simp at h
    | some l1 =>
      rw [hl] at h
      simp only [Option.some.injEq, Prod.mk.injEq] at h
      obtain ⟨rfl, rfl⟩ := h
      rw [Nat.zero_mul] at hl
      simp only [loads, Option.some.injEq] at hl
      subst hl
      exact ⟨fun _ => rfl, [], by simp [Builtin.firstCells, Go.loadCells, Go.loadCellsFrom], ⟨rfl, fun k hk => by simp at hk⟩⟩
  | nilSlice ln c =>
    cases ln with
    | zero =>
      simp only [news, Option.some.injEq, Prod.mk.injEq] at h
      obtain ⟨rfl, rfl⟩ := h
      exact ⟨fun _ => rfl, [], rfl, ⟨rfl, fun k hk => by simp at hk⟩⟩
    | succ n => simp [news] at h
  | string s =>
    simp only [news, Option.some.injEq, Prod.mk.injEq] at h
    obtain ⟨rfl, rfl⟩ := h
    refine ⟨fun _ => rfl, s.data.toList.map fun b => .int .u8 b.toNat, ?_, ⟨rfl, fun k hk => ?_⟩⟩
    · have e1 : s.extract 0 s.size = s := by simp
      show (Result.ok ((s.extract 0 s.size).data.map fun b => Value.int .u8 b.toNat) w : Result (Array Value)) = _
      rw [e1]
      congr 1
      apply Array.ext'
      simp
    · have hk' : k < s.data.toList.length := by simpa using hk
      have e : (s.data.toList.map fun b => Value.int .u8 b.toNat).getD k undf = .int .u8 (s.data.toList[k]).toNat := by
        rw [List.getD_eq_getElem?_getD, List.getElem?_map, List.getElem?_eq_getElem hk']; rfl
      rw [e]
      exact .int _ _
  | sym => simp [news] at h
  | inp => simp [news] at h
  | ownS => simp [news] at h
  | ownP => simp [news] at h
  | _ => simp [news] at h
theorem growBy_le (n : Nat) : ∀ (r c : Nat), Builtin.growBy n r c ≤ 2 ^ r * (c + 192) ∨ Builtin.growBy n r c = c
  | 0, c => .inr rfl
  | r + 1, c => by
    unfold Builtin.growBy
    split
    · exact .inr rfl
    · refine .inl ?_
      have h1 : c + (c + 768) / 4 + 192 ≤ 2 * (c + 192) := by omega
      rcases growBy_le n r (c + (c + 768) / 4) with h | h
      · refine Nat.le_trans h ?_
        rw [Nat.pow_succ, Nat.mul_assoc]
        exact Nat.mul_le_mul_left _ h1
      · rw [h, Nat.pow_succ, Nat.mul_assoc]
        have : 1 ≤ 2 ^ r := Nat.one_le_two_pow
        calc c + (c + 768) / 4 ≤ 2 * (c + 192) := by omega
          _ ≤ 2 ^ r * (2 * (c + 192)) := Nat.le_mul_of_pos_left _ this
theorem nextcap_le (n o : Nat) (h : o < n) : Builtin.nextslicecap n o ≤ 16 * n + 3072 := by
  unfold Builtin.nextslicecap
  split
  · omega
  · split
    · omega
    · rcases growBy_le n 4 o with h1 | h1
      · omega
      · omega
def isIntD : TypeDesc → Bool
  | .int _ => true
  | _ => false
noncomputable def aappend (P : Program) (tys : Array TypeId) (args : Array Value) (H : Heap) : Option (Value × Heap) :=
  match tys[0]?, tys[1]?, args[0]?, args[1]? with
  | some st, some xt, some (Value.slice base sl sc), some x =>
    match P.underlying st, P.underlying xt with
    | some (.slice e), some xd =>
      match P.info? e with
      | some i => match i.zero, news H i.size x with
        | some z, some (n, new) =>
          if isIntD xd = false ∧ e < P.types.size ∧ 0 < i.size ∧ z.cells.size = i.size ∧ (16 * (sl + n) + 3072) * i.bytes ≤ 140737488355328 ∧ sl + n ≤ 1099511627776 ∧ new.length = n * i.size ∧ new.all Ev.oneCell = true then
            match base with
            | none => if sl = 0 ∧ sc = 0 then
                if n = 0 then some (.slice none 0 0, H)
                else some (.slice (some ⟨H.next, 0, none⟩) n n, H.new (.cells { size := n * i.size, m := T.ofL new 0 .leaf, dflt := undf, elem := e, opn := true, esz := i.size }))
              else none
            | some a => match H.get a.block with
              | some (.cells c) =>
                if sl + n ≤ sc then
                  match stores H (a.add (sl * i.size)) 0 new with
                  | some H' => some (.slice (some a) (sl + n) sc, H')
                  | none => none
                else match loads H a 0 (sl * i.size) with
                  | some old =>
                    if c.opn then
                      if c.esz = i.size ∧ a.spot = none ∧ H.base ≤ a.block ∧ c.elem = e then
                        some (.slice (some ⟨H.next, 0, none⟩) (sl + n) (sl + n), (H.kill a.block).new (.cells { size := (sl + n) * i.size, m := T.ofL (old ++ new) 0 .leaf, dflt := undf, elem := e, opn := true, esz := i.size }))
                      else none
                    else some (.slice (some ⟨H.next, 0, none⟩) (sl + n) (sl + n), H.new (.cells { size := (sl + n) * i.size, m := T.ofL (old ++ new) 0 .leaf, dflt := undf, elem := e, opn := true, esz := i.size }))
                  | none => none
              | _ => none
          else none
        | _, _ => none
      | none => none
    | _, _ => none
  | _, _, _, _ => none
theorem run_append_fits {tys : Array TypeId} {st xt e ty : TypeId} {xd : TypeDesc} {i : TypeInfo} (ht0 : tys[0]? = some st) (ht1 : tys[1]? = some xt) (hs : P.underlying st = some (.slice e)) (hx : P.underlying xt = some xd)
    (hxd : isIntD xd = false) (hi : P.info? e = some i) {base : Option Addr} {sl sc n : Nat} {x : Value} {args : Array Value} (ha0 : args[0]? = some (.slice base sl sc)) (ha1 : args[1]? = some x)
    {w : World} {new : Array Value} (hlen : ∀ w0 : World, (Builtin.lenOf x).run P w0 = .ok n w0) (hnew : (Builtin.firstCells i.size n x).run P w = .ok new w) (hfit : sl + n ≤ sc) :
    (Builtin.append_ tys ty args).run P w = (match base with
      | some a => ((Go.storeCells (a.add (sl * i.size)) new.toList).run P w).andThen fun _ w' => .ok (.slice base (sl + n) sc) w'
      | none => .ok (.slice base (sl + n) sc) w) := by
  unfold Builtin.append_
  rw [ht0, ha0, ha1]
  simp only [Sem.run_bind, run_underlying' hs, Result.andThen_ok, run_sizeOf' hi, ht1, run_underlying' hx, Sem.run_pure]
  cases xd <;> first
    | (simp [isIntD] at hxd; done)
    | (simp only [Bool.false_eq_true, if_false, Sem.run_bind, hlen, Result.andThen_ok, Bool.not_false, if_true, hfit, hnew]
       cases base with
       | none => rfl
       | some a => simp only [Sem.run_bind, Sem.run_pure])
def room (w : World) (need sc : Nat) (e : TypeId) : Nat := (Question.appendCap need sc e).cut (w.tape w.drawn (.appendCap need sc e))
theorem room_ge (w : World) (need sc : Nat) (e : TypeId) : need ≤ room w need sc e := Nat.le_add_right _ _
theorem run_append_grows {tys : Array TypeId} {st xt e ty : TypeId} {xd : TypeDesc} {i : TypeInfo} {z : Value} (ht0 : tys[0]? = some st) (ht1 : tys[1]? = some xt) (hs : P.underlying st = some (.slice e)) (hx : P.underlying xt = some xd)
    (hxd : isIntD xd = false) (hi : P.info? e = some i) (hz : i.zero = some z) {base : Option Addr} {sl sc n : Nat} {x : Value} {args : Array Value} (ha0 : args[0]? = some (.slice base sl sc)) (ha1 : args[1]? = some x)
    {w : World} {old new : Array Value} (hlen : ∀ w0 : World, (Builtin.lenOf x).run P w0 = .ok n w0) (hold : (Builtin.firstCells i.size sl (.slice base sl sc)).run P { w with drawn := w.drawn + 1 } = .ok old { w with drawn := w.drawn + 1 })
    (hnew : (Builtin.firstCells i.size n x).run P { w with drawn := w.drawn + 1 } = .ok new { w with drawn := w.drawn + 1 }) (hfit : ¬ sl + n ≤ sc)
    (h1 : ¬ ((sl + n : Nat) : Int) > IntKind.i64.max) (h2 : ¬ Builtin.nextslicecap (sl + n) sc * i.bytes > 2 ^ 48) :
    (Builtin.append_ tys ty args).run P w = .ok (.slice (some ⟨w.heap.size, 0, none⟩) (sl + n) (room w (sl + n) sc e))
      { w with drawn := w.drawn + 1, heap := w.heap.push (.cells (old ++ new ++ Builtin.zeroCells z.cells (room w (sl + n) sc e - (sl + n))) e) } := by
  unfold Builtin.append_
  rw [ht0, ha0, ha1]
  simp only [Sem.run_bind, run_underlying' hs, Result.andThen_ok, run_sizeOf' hi, ht1, run_underlying' hx, Sem.run_pure]
  cases xd <;> first
    | (simp [isIntD] at hxd; done)
    | (simp only [Bool.false_eq_true, if_false, Sem.run_bind, hlen, Result.andThen_ok, Bool.not_false, if_true, hfit, run_typeInfo' hi, h1, false_and, h2, run_choose, Question.forced, run_askRoom]
       rw [show (Sem.run P (Builtin.firstCells i.size sl (Value.slice base sl sc)) { heap := w.heap, tape := w.tape, drawn := w.drawn + 1, os := w.os, output := w.output }) = _ from hold]
       simp only [Result.andThen_ok]
       rw [show (Sem.run P (Builtin.firstCells i.size n x) { heap := w.heap, tape := w.tape, drawn := w.drawn + 1, os := w.os, output := w.output }) = _ from hnew]
       simp only [Result.andThen_ok, run_zeroValue' hi hz]
       rfl)
theorem Rel.kill {H : Heap} {w : World} (hw : Rel P ι H w) (n : Nat) : Rel P ι (H.kill n) w := by
  refine ⟨hw.glb, hw.gsize, hw.glob, hw.over, hw.next, hw.room, hw.fresh, hw.hole, hw.below, fun m b hm => ?_, fun m k b c i j hm hk => ?_⟩
  · simp only [Heap.get_kill] at hm
    split at hm
    · simp at hm
    · exact hw.live m b hm
  · simp only [Heap.get_kill] at hm hk
    split at hm
    · simp at hm
    · split at hk
      · simp at hk
      · exact hw.inj m k b c i j hm hk
theorem ofL_get (l : List Value) (k : Nat) (hk : k < l.length) (c : Cells) (hc : c.m = T.ofL l 0 .leaf) : c.get k = l.getD k undf := by
  unfold Cells.get
  rw [hc, T.get_ofL, if_pos (by omega)]
  simp [List.getD_eq_getElem?_getD, hk]
theorem zeroCells_size (z : Array Value) (n : Nat) : (Builtin.zeroCells z n).size = n * z.size := by simp [Builtin.zeroCells]
theorem new_open {H : Heap} {w : World} (hw : Rel P ι H w) {l l' : List Value} (hl : LRel ι l l') {N size cap : Nat} (hlen : l.length = N * size) (hN : N ≤ cap) (hsz : 0 < size) (z : Array Value) (hz : z.size = size) (e : TypeId) :
    ∃ ι', Ext P ι w ι' { w with heap := w.heap.push (.cells (l'.toArray ++ Builtin.zeroCells z (cap - N)) e) } ∧
      Rel P ι' (H.new (.cells { size := N * size, m := T.ofL l 0 .leaf, dflt := undf, elem := e, opn := true, esz := size })) { w with heap := w.heap.push (.cells (l'.toArray ++ Builtin.zeroCells z (cap - N)) e) } ∧
      VRel ι' (.slice (some ⟨H.next, 0, none⟩) N N) (.slice (some ⟨w.heap.size, 0, none⟩) N cap) := by
  have hl' : l'.length = N * size := hl.1 ▸ hlen
  have hmul : N * size + (cap - N) * size = cap * size := by rw [← Nat.add_mul]; congr 1; omega
  have hrow : CRel ι ⟨w.heap.size, 0, N * size, (cap - N) * size, size⟩ (.cells (l'.toArray ++ Builtin.zeroCells z (cap - N)) e (0, 0)) { size := N * size, m := T.ofL l 0 .leaf, dflt := undf, elem := e, opn := true, esz := size } := by
    refine ⟨⟨rfl, rfl, hsz⟩, _, rfl, by simp [zeroCells_size, hl', hz], fun h => by simp at h, fun k hk => ?_⟩
    have hk' : k < N * size := hk
    rw [ofL_get l k (by omega) _ rfl]
    have e1 : (l'.toArray ++ Builtin.zeroCells z (cap - N)).getD (0 + k) undf = l'.getD k undf := by
      simp [Array.getElem?_append, show k < l'.length by omega]
    show VRel ι (l.getD k undf) ((l'.toArray ++ Builtin.zeroCells z (cap - N)).getD (0 + k) undf)
    rw [e1]
    exact hl.2 k (by omega)
  obtain ⟨q1, q2, q3⟩ := hw.new (b := .cells { size := N * size, m := T.ofL l 0 .leaf, dflt := undf, elem := e, opn := true, esz := size }) rfl hrow
  refine ⟨_, q2, q3, ?_⟩
  have := VRel.slice (ι := ι.with H.next ⟨w.heap.size, 0, N * size, (cap - N) * size, size⟩) (a := ⟨H.next, 0, none⟩) (i := ⟨w.heap.size, 0, N * size, (cap - N) * size, size⟩) (l := N) (c := N) (c' := cap) (by simp [Inj.with])
    (.inr ⟨by simp, by show cap * size = N * size + (cap - N) * size; omega⟩) hN
  simpa using this
theorem storeRun (b : Nat) (e : TypeId) (p : Nat) : ∀ (l : List Value) (i : Nat) (w : World) (cs : Array Value), (∀ v ∈ l, v.oneCell' = true) → w.heap[b]? = some (.cells cs e (0, 0)) → p + i + l.length ≤ cs.size →
    ∃ w' cs', (Go.storeCells ⟨b, p, none⟩ l i).run P w = .ok () w' ∧ w'.heap[b]? = some (.cells cs' e (0, 0)) ∧ cs'.size = cs.size ∧ (∀ k, k < l.length → cs'.getD (p + i + k) undf = l.getD k undf) ∧
      (∀ j, j < p + i → cs'.getD j undf = cs.getD j undf) ∧ (∀ b', b' ≠ b → w'.heap[b']? = w.heap[b']?) ∧ w'.heap.size = w.heap.size ∧ (∀ a, w'.frozen? a = w.frozen? a) ∧ w'.tape = w.tape ∧ w'.os = w.os ∧ w'.output = w.output
  | [], i, w, cs, _, hb, _ => ⟨w, cs, rfl, hb, rfl, fun k hk => by simp at hk, fun _ _ => rfl, fun _ _ => rfl, rfl, fun _ => rfl, rfl, rfl, rfl⟩
  | v :: l, i, w, cs, hv, hb, hsz => by
    have ha : (⟨b, p, none⟩ : Addr).add i = ⟨b, p + i, none⟩ := by
      unfold Addr.add
      by_cases h0 : i = 0
      · simp [h0]
      · simp [h0]
    simp only [List.length_cons] at hsz
    have hcell : w.cell? ⟨b, p + i, none⟩ = some (cs.getD (p + i) undf) := by
      simp only [World.cell?, hb, Option.isSome_none, Bool.false_eq_true, if_false]
      exact getD_eq _ _ _ (by omega)
    have hfz : w.frozen? ⟨b, p + i, none⟩ = false := by simp [World.frozen?, hb]
    have hheap : ∀ b', (w.setCell ⟨b, p + i, none⟩ v).heap[b']? = if b' = b then some (.cells (cs.setIfInBounds (p + i) v) e (0, 0)) else w.heap[b']? := by
      intro b'
      simp only [World.setCell, Array.getElem?_modify]
      by_cases hbb : b' = b
      · subst hbb; simp [hb]
      · rw [if_neg (fun e => hbb e.symm), if_neg hbb]
    obtain ⟨w', cs', r1, r2, r3, r4, r5, r6, r7, r8, r9, r10, r11⟩ := storeRun b e p l (i + 1) (w.setCell ⟨b, p + i, none⟩ v) (cs.setIfInBounds (p + i) v) (fun x hx => hv x (by simp [hx])) (by rw [hheap, if_pos rfl]) (by simp; omega)
    refine ⟨w', cs', ?_, r2, by simpa using r3, fun k hk => ?_, fun j hj => ?_, fun b' hb' => ?_, by simpa [World.setCell] using r7, fun a => (r8 a).trans (World.frozen?_setCell _ _ _ _), r9, r10, r11⟩
    · unfold Go.storeCells
      rw [ha, Sem.run_bind, run_store P w _ _ _ (hv v (by simp)), hcell]
      simp only [hfz, Bool.false_eq_true, if_false, Result.andThen_ok]
      exact r1
    · cases k with
      | zero =>
        have := r5 (p + i) (by omega)
        rw [Nat.add_zero, this]
        simp [show p + i < cs.size by omega]
      | succ k =>
        have := r4 k (by simpa using hk)
        rw [show p + (i + 1) + k = p + i + (k + 1) by omega] at this
        rw [this]
        simp
    · rw [r5 j (by omega)]
      simp [show ¬ p + i = j by omega]
    · rw [r6 b' hb', hheap, if_neg hb']
theorem loads_get {H : Heap} {a : Addr} : ∀ (n i : Nat) (l : List Value), loads H a i n = some l → ∀ k, k < n → H.load (a.add (i + k)) = some (l.getD k undf)
  | 0, _, _, _, k, hk => by omega
  | n + 1, i, l, h, k, hk => by
    simp only [loads] at h
    cases hv : H.load (a.add i) with
    | none => rw [hv] at h; simp at h
    | some v =>
      rw [hv] at h
      simp only at h
      cases hl : loads H a (i + 1) n with
      | none => rw [hl] at h; simp at h
      | some l1 =>
        rw [hl] at h
        simp only [Option.some.injEq] at h
        subst h
        cases k with
        | zero => simpa using hv
        | succ k =>
          have := loads_get n (i + 1) l1 hl k (by omega)
          rw [show i + 1 + k = i + (k + 1) by omega] at this
          simpa using this
theorem LRel.append {a b c d : List Value} (h : LRel ι a b) (h' : LRel ι c d) : LRel ι (a ++ c) (b ++ d) := by
  have := ARel.append h.array h'.array
  have := this.list
  simpa using this
theorem oneCells {l l' : List Value} (h : LRel ι l l') (ho : l.all Ev.oneCell = true) : ∀ v ∈ l', v.oneCell' = true := by
  intro v hv
  obtain ⟨k, hk, rfl⟩ := List.getElem_of_mem hv
  have hk' : k < l.length := h.1 ▸ hk
  have h1 := h.2 k hk'
  have e1 : l.getD k undf = l[k] := by simp [List.getD_eq_getElem?_getD, hk']
  have e2 : l'.getD k undf = l'[k] := by simp [List.getD_eq_getElem?_getD, hk]
  rw [e1, e2] at h1
  rw [← oneCell_eq, ← h1.oneCell]
  rw [List.all_eq_true] at ho
  exact ho _ (List.getElem_mem hk')
theorem aappend_ok {tys : Array TypeId} {ty : TypeId} {args args' : Array Value} (ha : ARel ι args args') {H H' : Heap} {v : Value} (h : aappend P tys args H = some (v, H')) {w : World} (hw : Rel P ι H w) :
    ∃ ι' v' w', (Builtin.append_ tys ty args').run P w = .ok v' w' ∧ Ext P ι w ι' w' ∧ Rel P ι' H' w' ∧ VRel ι' v v' := by
  unfold aappend at h
  split at h
  · rename_i st xt base sl sc x ht0 ht1 h0 h1
    split at h
    · rename_i e xd hs hx
      split at h
      · rename_i i hi
        split at h
        · rename_i z n new hz hnew
          split at h
          · rename_i hcond
            obtain ⟨c1, c2, c3, c4, c5, c6, c7, c8⟩ := hcond
            obtain ⟨s', h0', hsv⟩ := ha.get? h0
            obtain ⟨x', h1', hxv⟩ := ha.get? h1
            obtain ⟨hlen, l', hl', hlr⟩ := news_ok hw hxv hnew
            obtain ⟨_, l2, hl2, hlr2⟩ := news_ok (hw.draw (w.drawn + 1)) hxv hnew
            have hneed : ¬ ((sl + n : Nat) : Int) > IntKind.i64.max := by
              have : IntKind.i64.max = 9223372036854775807 := by decide
              omega
            have hcapb : ∀ sc', ¬ sl + n ≤ sc' → ¬ Builtin.nextslicecap (sl + n) sc' * i.bytes > 2 ^ 48 := by
              intro sc' hsc
              have h1 := Nat.mul_le_mul_right i.bytes (nextcap_le (sl + n) sc' (by omega))
              have : (2 : Nat) ^ 48 = 281474976710656 := by decide
              omega
            -- what grows
            have grows : ∀ (base' : Option Addr) (sc' : Nat) (H1 : Heap) (old old' : List Value), s' = .slice base' sl sc' → ¬ sl + n ≤ sc' → Rel P ι H1 w → H1.next = H.next →
                (Builtin.firstCells i.size sl (.slice base' sl sc')).run P { w with drawn := w.drawn + 1 } = .ok old'.toArray { w with drawn := w.drawn + 1 } → LRel ι old old' → old.length = sl * i.size →
                ∃ ι' v' w', (Builtin.append_ tys ty args').run P w = .ok v' w' ∧ Ext P ι w ι' w' ∧ Rel P ι' (H1.new (.cells { size := (sl + n) * i.size, m := T.ofL (old ++ new) 0 .leaf, dflt := undf, elem := e, opn := true, esz := i.size })) w' ∧
                  VRel ι' (.slice (some ⟨H.next, 0, none⟩) (sl + n) (sl + n)) v' := by
              intro base' sc' H1 old old' hs' hf hw1 hnx hold hor hol
              subst hs'
              have hrun := run_append_grows (ty := ty) ht0 ht1 hs hx c1 hi hz h0' h1' hlen hold hl2 hf hneed (hcapb sc' hf)
              obtain ⟨ι', x1, r1, v1⟩ := new_open (hw1.draw (w.drawn + 1)) (hor.append hlr2) (N := sl + n) (size := i.size) (cap := room w (sl + n) sc' e) (by rw [List.length_append, hol, c7, Nat.add_mul]) (room_ge _ _ _ _) c3 z.cells c4 e
              have eqs : (old'.toArray ++ l2.toArray ++ Builtin.zeroCells z.cells (room w (sl + n) sc' e - (sl + n))) = ((old' ++ l2).toArray ++ Builtin.zeroCells z.cells (room w (sl + n) sc' e - (sl + n))) := by simp
              rw [eqs] at hrun
              rw [hnx] at v1
              exact ⟨ι', _, _, hrun, (Ext.draw ι w (w.drawn + 1)).trans x1, r1, v1⟩
            cases base with
            | none =>
              obtain rfl := hsv.nilSlice_inv
              simp only at h
              split at h
              · rename_i hz0
                obtain ⟨rfl, rfl⟩ := hz0
                split at h
                · rename_i hn0
                  subst hn0
                  simp only [Option.some.injEq, Prod.mk.injEq] at h
                  obtain ⟨rfl, rfl⟩ := h
                  exact ⟨ι, _, w, run_append_fits (ty := ty) ht0 ht1 hs hx c1 hi h0' h1' hlen hl' (Nat.le_refl _), Ext.refl _ _, hw, .nilSlice 0 0⟩
                · rename_i hn0
                  simp only [Option.some.injEq, Prod.mk.injEq] at h
                  obtain ⟨rfl, rfl⟩ := h
                  have := grows none 0 H [] [] rfl (by omega) hw rfl rfl ⟨rfl, fun k hk => by simp at hk⟩ (by simp)
                  simpa using this
              · simp at h
            | some a =>
              simp only at h
              cases hb : H.get a.block with
              | none => rw [hb] at h; simp at h
              | some b =>
                cases b with
                | map es clock => rw [hb] at h; simp at h
                | arr r => rw [hb] at h; simp at h
                | chan _ _ _ => rw [hb] at h; simp at h
                | part _ => rw [hb] at h; simp at h
                | cells c =>
                  rw [hb] at h
                  simp only at h
                  by_cases hfit : sl + n ≤ sc
                  · rw [if_pos hfit] at h
                    cases hst : stores H (a.add (sl * i.size)) 0 new with
                    | none => rw [hst] at h; simp at h
                    | some H1 =>
                      rw [hst] at h
                      simp only [Option.some.injEq, Prod.mk.injEq] at h
                      obtain ⟨rfl, rfl⟩ := h
                      cases hsv with
                      | @slice _ inf _ _ c' g1 g2 g3 =>
                        obtain ⟨w', e1, x1, r1⟩ := stores_ok new l' 0 ι H H1 _ _ w (AddrRel.add ⟨inf, g1, rfl⟩ (sl * i.size)) hlr hw hst
                        refine ⟨ι, _, w', ?_, x1, r1, .slice g1 g2 g3⟩
                        rw [run_append_fits (ty := ty) ht0 ht1 hs hx c1 hi h0' h1' hlen hl' (by omega)]
                        simp only [e1, Result.andThen_ok]
                      | emptySlice _ a' =>
                        have hn0 : n = 0 := by omega
                        subst hn0
                        have hnil : new = [] := List.length_eq_zero_iff.1 (by rw [c7]; simp)
                        subst hnil
                        have hl0 : l' = [] := hlr.nil_inv
                        subst hl0
                        simp only [stores, Option.some.injEq] at hst
                        subst hst
                        refine ⟨ι, _, w, ?_, Ext.refl _ _, hw, .emptySlice _ a'⟩
                        rw [run_append_fits (ty := ty) ht0 ht1 hs hx c1 hi h0' h1' hlen hl' (by omega)]
                        rfl
                  · rw [if_neg hfit] at h
                    cases hld : loads H a 0 (sl * i.size) with
                    | none => rw [hld] at h; simp at h
                    | some old =>
                      rw [hld] at h
                      simp only at h
                      have hol : old.length = sl * i.size := by
                        have := hw.live _ _ hb
                        obtain ⟨j, o, hj, _⟩ := this
                        exact (loads_ok ⟨j, hj, rfl⟩ hw _ _ _ hld #[]).choose_spec.2.2
                      -- the empty one
                      cases hsv with
                      | emptySlice _ a' =>
                        have hnil : old = [] := List.length_eq_zero_iff.1 (by rw [hol]; simp)
                        have hg : ∀ H1 : Heap, Rel P ι H1 w → H1.next = H.next → ∃ ι' v' w', (Builtin.append_ tys ty args').run P w = .ok v' w' ∧ Ext P ι w ι' w' ∧ Rel P ι' (H1.new (.cells { size := (0 + n) * i.size, m := T.ofL (old ++ new) 0 .leaf, dflt := undf, elem := e, opn := true, esz := i.size })) w' ∧ VRel ι' (.slice (some ⟨H.next, 0, none⟩) (0 + n) (0 + n)) v' := fun H1 hw1 hnx => grows (some a') 0 H1 old [] rfl (by omega) hw1 hnx (by simp [Builtin.firstCells, Go.loadCells, Go.loadCellsFrom]) (by rw [hnil]; exact ⟨rfl, fun k hk => by simp at hk⟩) hol
                        cases hop : c.opn with
                        | false =>
                          rw [hop] at h
                          simp only [Bool.false_eq_true, if_false, Option.some.injEq, Prod.mk.injEq] at h
                          obtain ⟨rfl, rfl⟩ := h
                          exact hg H hw rfl
                        | true =>
                          rw [hop] at h
                          simp only [if_true] at h
                          split at h
                          · simp only [Option.some.injEq, Prod.mk.injEq] at h
                            obtain ⟨rfl, rfl⟩ := h
                            exact hg (H.kill a.block) (hw.kill _) rfl
                          · simp at h
                      | @slice _ inf _ _ c' g1 g2 g3 =>
                        obtain ⟨j, o, hj, ho, hrel⟩ := hw.live _ _ hb
                        obtain rfl : inf = j := by rw [g1] at hj; exact Option.some.inj hj
                        obtain ⟨⟨r1, r2, r3⟩, cs, rfl, r4, r5, r6⟩ := hrel
                        have hg : ¬ sl + n ≤ c' → ∀ H1 : Heap, Rel P ι H1 w → H1.next = H.next → ∃ ι' v' w', (Builtin.append_ tys ty args').run P w = .ok v' w' ∧ Ext P ι w ι' w' ∧ Rel P ι' (H1.new (.cells { size := (sl + n) * i.size, m := T.ofL (old ++ new) 0 .leaf, dflt := undf, elem := e, opn := true, esz := i.size })) w' ∧ VRel ι' (.slice (some ⟨H.next, 0, none⟩) (sl + n) (sl + n)) v' := fun hf H1 hw1 hnx => by
                          obtain ⟨old', q1, q2, q3⟩ := loads_ok ⟨inf, g1, rfl⟩ (hw.draw (w.drawn + 1)) _ _ _ hld #[]
                          exact grows (some ⟨inf.blk, inf.off + a.off, a.spot⟩) c' H1 old old' rfl hf hw1 hnx (by simpa [Builtin.firstCells, Go.loadCells] using q1) q2 hol
                        cases hop : c.opn with
                        | false =>
                          rw [hop] at h
                          simp only [Bool.false_eq_true, if_false, Option.some.injEq, Prod.mk.injEq] at h
                          obtain ⟨rfl, rfl⟩ := h
                          obtain ⟨s1, s2, s3⟩ := r5 hop
                          have hcc : c' = sc := by
                            rcases g2 with g2 | ⟨_, g2⟩
                            · exact g2
                            · rw [s1, Nat.add_zero] at g2
                              exact Nat.eq_of_mul_eq_mul_right (by omega) g2
                          exact hg (by omega) H hw rfl
                        | true =>
                          rw [hop] at h
                          simp only [if_true] at h
                          split at h
                          · rename_i hc3
                            obtain ⟨k1, k2, k3, k4⟩ := hc3
                            simp only [Option.some.injEq, Prod.mk.injEq] at h
                            obtain ⟨rfl, rfl⟩ := h
                            by_cases hf : sl + n ≤ c'
                            · -- there is room behind, that nobody has seen
                              have hcl : a.off + sc * inf.esz = inf.size ∧ c' * inf.esz = sc * inf.esz + inf.extra := g2.resolve_left (by omega)
                              obtain ⟨hc1, hc2⟩ := hcl
                              have hes : inf.esz = i.size := by omega
                              rw [hes] at hc1 hc2
                              have hmn : (sl + n) * i.size ≤ c' * i.size := Nat.mul_le_mul_right _ hf
                              have hms : sl * i.size ≤ sc * i.size := by
                                have hlt : sl ≤ sc ∨ sc < sl := by omega
                                rcases hlt with hlt | hlt
                                · exact Nat.mul_le_mul_right _ hlt
                                · exfalso
                                  have := loads_get _ 0 old hld (sl * i.size - 1)
                                  have hpos : sc * i.size < sl * i.size := Nat.mul_lt_mul_of_pos_right hlt c3
                                  have h2 := this (by omega)
                                  unfold Heap.load at h2
                                  have hblk : (a.add (0 + (sl * i.size - 1))).block = a.block := by unfold Addr.add; split <;> rfl
                                  have hoff : (a.add (0 + (sl * i.size - 1))).off = a.off + (sl * i.size - 1) := by
                                    unfold Addr.add
                                    split
                                    · rename_i hz0; omega
                                    · simp
                                  rw [hblk, hb] at h2
                                  simp only [hoff] at h2
                                  split at h2
                                  · rename_i hcc
                                    simp only [Bool.and_eq_true, decide_eq_true_eq] at hcc
                                    omega
                                  · simp at h2
                              have hadd : (sl + n) * i.size = sl * i.size + n * i.size := Nat.add_mul _ _ _
                              have hll : l'.length = n * i.size := hlr.1 ▸ c7
                              have hnat : (⟨inf.blk, inf.off + a.off, a.spot⟩ : Addr).add (sl * i.size) = ⟨inf.blk, inf.off + a.off + sl * i.size, none⟩ := by
                                unfold Addr.add
                                split
                                · rename_i hz0; rw [hz0, k2]; rfl
                                · rfl
                              obtain ⟨w', cs', t1, t2, t3, t4, t5, t6, t7, t8, t9, t10, t11⟩ := storeRun inf.blk c.elem (inf.off + a.off + sl * i.size) l' 0 w cs (oneCells hlr c8) ho (by omega)
                              have hrun := run_append_fits (ty := ty) ht0 ht1 hs hx c1 hi h0' h1' hlen hl' hf
                              simp only [hnat] at hrun
                              rw [t1] at hrun
                              simp only [Result.andThen_ok] at hrun
                              have hfr : ι H.next = none := hw.fresh _ (Nat.le_refl _)
                              have hgs : P.globals.size ≤ a.block := by rw [← hw.gsize]; exact k3
                              have hsub : Sub ι (ι.with H.next ⟨inf.blk, inf.off + a.off, (sl + n) * i.size, (c' - (sl + n)) * i.size, i.size⟩) := fun m j hm => by
                                unfold Inj.with
                                rw [if_neg]
                                · exact hm
                                · intro e; subst e; rw [hfr] at hm; simp at hm
                              have hsubm : c' * i.size = (sl + n) * i.size + (c' - (sl + n)) * i.size := by rw [← Nat.add_mul]; congr 1; omega
                              have hrow : CRel ι ⟨inf.blk, inf.off + a.off, (sl + n) * i.size, (c' - (sl + n)) * i.size, i.size⟩ (.cells cs' c.elem (0, 0)) { size := (sl + n) * i.size, m := T.ofL (old ++ new) 0 .leaf, dflt := undf, elem := c.elem, opn := true, esz := i.size } := by
                                refine ⟨⟨rfl, rfl, c3⟩, cs', rfl, by show inf.off + a.off + (sl + n) * i.size + (c' - (sl + n)) * i.size ≤ cs'.size; omega, fun h => by simp at h, fun k hk => ?_⟩
                                have hk' : k < (sl + n) * i.size := hk
                                have hlen2 : (old ++ new).length = (sl + n) * i.size := by rw [List.length_append, hol, c7, hadd]
                                rw [ofL_get (old ++ new) k (by omega) _ rfl]
                                show VRel ι ((old ++ new).getD k undf) (cs'.getD (inf.off + a.off + k) undf)
                                by_cases hko : k < sl * i.size
                                · have e1 : (old ++ new).getD k undf = old.getD k undf := by simp [List.getD_eq_getElem?_getD, List.getElem?_append, show k < old.length by omega]
                                  rw [e1, t5 _ (by omega)]
                                  have hla := loads_get _ 0 old hld k hko
                                  obtain ⟨v', hcv, hvv⟩ := hw.cell (AddrRel.add ⟨inf, g1, rfl⟩ (0 + k)) hla
                                  have hva : (⟨inf.blk, inf.off + a.off, a.spot⟩ : Addr).add (0 + k) = ⟨inf.blk, inf.off + a.off + k, none⟩ := by
                                    unfold Addr.add
                                    split
                                    · rename_i hz0; have : k = 0 := by omega
                                      subst this; rw [k2]; rfl
                                    · simp
                                  rw [hva] at hcv
                                  simp only [World.cell?, ho, Option.isSome_none, Bool.false_eq_true, if_false] at hcv
                                  have : cs.getD (inf.off + a.off + k) undf = v' := by rw [Array.getD_eq_getD_getElem?, hcv]; rfl
                                  rw [this]; exact hvv
                                · have e1 : (old ++ new).getD k undf = new.getD (k - sl * i.size) undf := by simp [List.getD_eq_getElem?_getD, List.getElem?_append, hol, hko]
                                  have := t4 (k - sl * i.size) (by omega)
                                  rw [show inf.off + a.off + sl * i.size + 0 + (k - sl * i.size) = inf.off + a.off + k by omega] at this
                                  rw [e1, this]
                                  exact hlr.2 _ (by omega)
                              have helem : c.elem = e := k4
                              rw [helem] at hrow t2
                              refine ⟨ι.with H.next ⟨inf.blk, inf.off + a.off, (sl + n) * i.size, (c' - (sl + n)) * i.size, i.size⟩, _, w', hrun, ⟨hsub, by omega, fun m j hm hgm => ?_, fun b hb' hne => ?_, t8, t9, t10, t11⟩, ⟨hw.keepG fun b _ hne => t6 b (fun e => hne _ _ g1 hgs e.symm), hw.gsize, fun g hg => ?_, fun m j hm hbm => ?_, ?_, ?_, fun m hm => ?_, fun n hn => ⟨by have := (hw.hole n hn).1; simp only [Heap.next_new, Heap.next_kill]; omega, by unfold Inj.with; have h9 := hw.hole n hn; rw [if_neg (by omega)]; exact h9.2⟩, fun m j hm => ?_, fun m b hm => ?_, fun m k b d j j' hm hk hj hj' he => ?_⟩, ?_⟩
                              · unfold Inj.with at hm
                                split at hm
                                · simp only [Option.some.injEq] at hm; subst hm; exact .inl ⟨a.block, inf, g1, hgs, rfl⟩
                                · exact .inl ⟨m, j, hm, hgm, rfl⟩
                              · exact t6 b (fun e => hne _ _ g1 hgs e.symm)
                              · obtain ⟨j, h1, h2⟩ := hw.glob g hg
                                exact ⟨j, hsub _ _ h1, h2⟩
                              · unfold Inj.with at hm
                                split at hm
                                · simp only [Option.some.injEq] at hm; subst hm; exact (show H.base ≤ inf.blk ∧ Syms.inp inf.blk = none from hw.over _ _ g1 k3)
                                · exact hw.over _ _ hm hbm
                              · have := hw.next; simp only [Heap.base_new, Heap.next_new, Heap.base_kill, Heap.next_kill]; omega
                              · have := hw.room; simp only [Heap.base_new, Heap.base_kill]; omega
                              · simp only [Heap.next_new, Heap.next_kill] at hm
                                unfold Inj.with
                                rw [if_neg (by omega)]
                                exact hw.fresh _ (by omega)
                              · rw [t7]
                                unfold Inj.with at hm
                                split at hm
                                · simp only [Option.some.injEq] at hm; subst hm; exact (show inf.blk < w.heap.size from hw.below _ _ g1)
                                · exact hw.below _ _ hm
                              · simp only [Heap.get_new, Heap.next_kill, Heap.get_kill] at hm
                                by_cases hmn : m = H.next
                                · rw [if_pos hmn] at hm
                                  simp only [Option.some.injEq] at hm
                                  subst hm
                                  exact ⟨⟨inf.blk, inf.off + a.off, (sl + n) * i.size, (c' - (sl + n)) * i.size, i.size⟩, _, by simp [Inj.with, hmn], t2, BRel.mono (b := .cells _) hsub hrow⟩
                                · rw [if_neg hmn] at hm
                                  split at hm
                                  · simp at hm
                                  · rename_i hma
                                    obtain ⟨j, o, hj, ho', hr'⟩ := hw.live _ _ hm
                                    refine ⟨j, o, hsub _ _ hj, ?_, hr'.mono hsub⟩
                                    rw [t6]
                                    · exact ho'
                                    · intro e; exact hma (hw.inj _ _ _ _ _ _ hm hb hj g1 e)
                              · simp only [Heap.get_new, Heap.next_kill, Heap.get_kill] at hm hk
                                unfold Inj.with at hj hj'
                                by_cases q1 : m = H.next <;> by_cases q2 : k = H.next
                                · omega
                                · rw [if_pos q1] at hj; rw [if_neg q2] at hj' hk
                                  simp only [Option.some.injEq] at hj; subst hj
                                  split at hk
                                  · simp at hk
                                  · rename_i hka; exact absurd (hw.inj _ _ _ _ _ _ hk hb hj' g1 he.symm) hka
                                · rw [if_neg q1] at hj hm; rw [if_pos q2] at hj'
                                  simp only [Option.some.injEq] at hj'; subst hj'
                                  split at hm
                                  · simp at hm
                                  · rename_i hka; exact absurd (hw.inj _ _ _ _ _ _ hm hb hj g1 he) hka
                                · rw [if_neg q1] at hj hm; rw [if_neg q2] at hj' hk
                                  split at hm
                                  · simp at hm
                                  · split at hk
                                    · simp at hk
                                    · exact hw.inj _ _ _ _ _ _ hm hk hj hj' he
                              · have := VRel.slice (ι := ι.with H.next ⟨inf.blk, inf.off + a.off, (sl + n) * i.size, (c' - (sl + n)) * i.size, i.size⟩) (a := ⟨H.next, 0, none⟩) (i := ⟨inf.blk, inf.off + a.off, (sl + n) * i.size, (c' - (sl + n)) * i.size, i.size⟩) (l := sl + n) (c := sl + n) (c' := c') (by simp [Inj.with])
                                  (.inr ⟨by simp, hsubm⟩) hf
                                rw [k2]
                                simpa using this
                            · exact hg hf (H.kill a.block) (hw.kill _) rfl
                          · simp at h
          · simp at h
        · simp at h
      · simp at h
    · simp at h
  · simp at h
end Go.Ev
namespace Go.Ev
set_option linter.unusedSectionVars false      -- the symbols' class stands for all texts
variable [Syms] {P : Program} {ι : Inj}
noncomputable def acopy (P : Program) (tys : Array TypeId) (args : Array Value) (H : Heap) : Option (Value × Heap) :=
  match tys[0]?, args[0]?, args[1]? with
  | some dt, some (Value.slice base dl _), some (Value.slice sb sl _) =>
    match P.underlying dt with
    | some (.slice e) => match P.info? e with
      | some i =>
        match (match sb with
          | some b => loads H b 0 (Nat.min sl dl * i.size)
          | none => some []) with
        | some l => match base with
          | some a => if Nat.min sl dl = 0 then some (.int .i64 0, H) else match stores H a 0 l with
            | some H' => some (.int .i64 (Nat.min sl dl), H')
            | none => none
          | none => some (.int .i64 (Nat.min sl dl), H)
        | none => none
      | none => none
    | _ => none
  | _, _, _ => none
theorem run_copy {tys : Array TypeId} {dt e ty : TypeId} {i : TypeInfo} (ht : tys[0]? = some dt) (hs : P.underlying dt = some (.slice e)) (hi : P.info? e = some i) {base sb : Option Addr} {dl dc sl sc : Nat} {args : Array Value}
    (h0 : args[0]? = some (.slice base dl dc)) (h1 : args[1]? = some (.slice sb sl sc)) {w : World} {l : List Value} (hr : (Builtin.firstCells i.size (Nat.min sl dl) (.slice sb sl sc)).run P w = .ok l.toArray w) :
    (Builtin.copy_ tys ty args).run P w = (match base with
      | some a => ((Go.storeCells a l).run P w).andThen fun _ w' => .ok (goInt (Nat.min sl dl)) w'
      | none => .ok (goInt (Nat.min sl dl)) w) := by
  unfold Builtin.copy_
  rw [ht, h0, h1]
  simp only [Sem.run_bind, run_underlying' hs, Result.andThen_ok, Builtin.lenOf, Sem.run_pure, run_sizeOf' hi]
  rw [hr]
  cases base with
  | none => rfl
  | some a => simp only [Result.andThen_ok, Sem.run_bind, Sem.run_pure]
theorem acopy_ok {tys : Array TypeId} {ty : TypeId} {args args' : Array Value} (ha : ARel ι args args') {H H' : Heap} {v : Value} (h : acopy P tys args H = some (v, H')) {w : World} (hw : Rel P ι H w) :
    ∃ ι' v' w', (Builtin.copy_ tys ty args').run P w = .ok v' w' ∧ Ext P ι w ι' w' ∧ Rel P ι' H' w' ∧ VRel ι' v v' := by
  unfold acopy at h
  split at h
  · rename_i dt base dl dc sb sl sc ht h0 h1
    split at h
    · rename_i e hs
      split at h
      · rename_i i hi
        obtain ⟨s', h0', hsv⟩ := ha.get? h0
        obtain ⟨x', h1', hxv⟩ := ha.get? h1
        -- both sides' shape
        have hd : ∃ base' dc', s' = .slice base' dl dc' ∧ (base = none → base' = none) ∧ (∀ a, base = some a → ∃ a', base' = some a' ∧ (0 < dl → AddrRel ι a a')) := by
          cases hsv with
          | nilSlice => exact ⟨none, _, rfl, fun _ => rfl, fun a h => by simp at h⟩
          | @slice a inf l c c' g1 g2 g3 => exact ⟨_, _, rfl, fun h => by simp at h, fun b hb => ⟨_, rfl, fun _ => by cases hb; exact ⟨inf, g1, rfl⟩⟩⟩
          | emptySlice a a' => exact ⟨_, _, rfl, fun h => by simp at h, fun b hb => ⟨_, rfl, fun hp => absurd hp (by omega)⟩⟩
        have hx : ∃ sb' sc', x' = .slice sb' sl sc' ∧ (sb = none → sb' = none) ∧ (∀ a, sb = some a → ∃ a', sb' = some a' ∧ (0 < sl → AddrRel ι a a')) := by
          cases hxv with
          | nilSlice => exact ⟨none, _, rfl, fun _ => rfl, fun a h => by simp at h⟩
          | @slice a inf l c c' g1 g2 g3 => exact ⟨_, _, rfl, fun h => by simp at h, fun b hb => ⟨_, rfl, fun _ => by cases hb; exact ⟨inf, g1, rfl⟩⟩⟩
          | emptySlice a a' => exact ⟨_, _, rfl, fun h => by simp at h, fun b hb => ⟨_, rfl, fun hp => absurd hp (by omega)⟩⟩
        obtain ⟨base', dc', rfl, hb1, hb2⟩ := hd
        obtain ⟨sb', sc', rfl, hx1, hx2⟩ := hx
        split at h
        · rename_i l hl
          have hread : ∃ l', (Builtin.firstCells i.size (Nat.min sl dl) (.slice sb' sl sc')).run P w = .ok l'.toArray w ∧ (0 < Nat.min sl dl → LRel ι l l') ∧ (Nat.min sl dl = 0 → l' = []) := by
            cases hsb : sb with
            | none =>
              rw [hsb] at hl
              simp only [Option.some.injEq] at hl
              subst hl
              rw [hx1 hsb]
              exact ⟨[], rfl, fun _ => ⟨rfl, fun k hk => by simp at hk⟩, fun _ => rfl⟩
            | some b =>
              rw [hsb] at hl
              simp only at hl
              obtain ⟨b', e1, e2⟩ := hx2 b hsb
              rw [e1]
              by_cases hz : Nat.min sl dl = 0
              · refine ⟨[], ?_, fun hp => absurd hp (by omega), fun _ => rfl⟩
                simp [Builtin.firstCells, Go.loadCells, hz, Go.loadCellsFrom]
              · have hsl : 0 < sl := by have := Nat.min_le_left sl dl; have h2 : Nat.min sl dl ≠ 0 := hz; change min sl dl ≤ sl at this; change min sl dl ≠ 0 at h2; omega
                obtain ⟨l', q1, q2, _⟩ := loads_ok (e2 hsl) hw _ _ _ hl #[]
                exact ⟨l', by simpa [Builtin.firstCells, Go.loadCells] using q1, fun _ => q2, fun hz' => absurd hz' hz⟩
          obtain ⟨l', hr, hlr, hl0⟩ := hread
          have hrun := run_copy (ty := ty) ht hs hi h0' h1' hr
          cases hb : base with
          | none =>
            rw [hb] at h
            simp only [Option.some.injEq, Prod.mk.injEq] at h
            obtain ⟨rfl, rfl⟩ := h
            have hbn := hb1 hb
            subst hbn
            exact ⟨ι, _, w, hrun, Ext.refl _ _, hw, .int _ _⟩
          | some a =>
            rw [hb] at h
            simp only at h
            obtain ⟨a', e1, e2⟩ := hb2 a hb
            subst e1
            by_cases hz : Nat.min sl dl = 0
            · rw [if_pos hz] at h
              simp only [Option.some.injEq, Prod.mk.injEq] at h
              obtain ⟨rfl, rfl⟩ := h
              rw [hl0 hz, hz] at hrun
              exact ⟨ι, .int .i64 0, w, hrun, Ext.refl _ _, hw, .int _ _⟩
            · rw [if_neg hz] at h
              cases hst : stores H a 0 l with
              | none => rw [hst] at h; simp at h
              | some H1 =>
                rw [hst] at h
                simp only [Option.some.injEq, Prod.mk.injEq] at h
                obtain ⟨rfl, rfl⟩ := h
                have hdl : 0 < dl := by have := Nat.min_le_right sl dl; have h2 : Nat.min sl dl ≠ 0 := hz; change min sl dl ≤ dl at this; change min sl dl ≠ 0 at h2; omega
                obtain ⟨w', q1, x1, r1⟩ := stores_ok l l' 0 ι H H1 a a' w (e2 hdl) (hlr (by omega)) hw hst
                simp only [q1, Result.andThen_ok] at hrun
                exact ⟨ι, _, w', hrun, x1, r1, .int _ _⟩
        · simp at h
      · simp at h
    · simp at h
  · simp at h
def isInt : Value → Bool | .int .. => true | _ => false
theorem ints_eq {xs ys : List Value} (h : LRel ι xs ys) (hi : xs.all isInt = true) : ys = xs := by
  induction xs generalizing ys with
  | nil => exact h.nil_inv
  | cons x xs ih =>
    obtain ⟨y, ys', rfl, hv, hr⟩ := h.cons_inv
    simp only [List.all_cons, Bool.and_eq_true] at hi
    rw [ih hr hi.2]
    cases hv <;> first | rfl | (simp [isInt] at hi)
theorem Static.foldMin (f : Value → Value → Sem Value) (hf : ∀ k a k' b, ∃ n, f (.int k a) (.int k' b) = Pure.pure (.int k n)) : ∀ (l : List Value) (k : IntKind) (a : Int), l.all isInt = true → Static P (l.foldlM f (.int k a))
  | [], k, a, _ => by simpa using Static.pure (P := P) (Value.int k a)
  | x :: l, k, a, h => by
    simp only [List.all_cons, Bool.and_eq_true] at h
    cases x with
    | int k' b =>
      obtain ⟨n, hn⟩ := hf k a k' b
      rw [List.foldlM_cons, hn, pure_bind]
      exact Static.foldMin f hf l k n h.2
    | _ => simp [isInt] at h
theorem Static.min_ (tys : Array TypeId) (ty : TypeId) (args : Array Value) (h : args.toList.all isInt = true) : Static P (Builtin.min_ tys ty args) := by
  unfold Builtin.min_
  cases hl : args.toList with
  | nil => exact Static.dead (Dead.stuck _)
  | cons x l =>
    rw [hl] at h
    simp only [List.all_cons, Bool.and_eq_true] at h
    cases x with
    | int k a => exact Static.foldMin Builtin.min2 (fun k a k' b => ⟨_, rfl⟩) l k a h.2
    | _ => simp [isInt] at h
theorem Static.max_ (tys : Array TypeId) (ty : TypeId) (args : Array Value) (h : args.toList.all isInt = true) : Static P (Builtin.max_ tys ty args) := by
  unfold Builtin.max_
  cases hl : args.toList with
  | nil => exact Static.dead (Dead.stuck _)
  | cons x l =>
    rw [hl] at h
    simp only [List.all_cons, Bool.and_eq_true] at h
    cases x with
    | int k a => exact Static.foldMin Builtin.max2 (fun k a k' b => ⟨_, rfl⟩) l k a h.2
    | _ => simp [isInt] at h
def isIntD' (P : Program) (t : TypeId) : Bool := match P.underlying t with | some (.int _) => true | _ => false
def afind (k : IntKind) (n : Int) : List MapEntry → Nat → Option (Option (Nat × Value))
  | [], _ => some none
  | e :: es, i => match e.key with
    | .int k' m => if k = k' then (if n = m then some (some (i, e.val)) else afind k n es (i + 1)) else none
    | _ => none
def ELRel (ι : Inj) : List MapEntry → List MapEntry → Prop
  | [], [] => True
  | e :: es, e' :: es' => ERel ι e e' ∧ ELRel ι es es'
  | _, _ => False
theorem ELRel.of : ∀ {es es' : List MapEntry}, es.length = es'.length → (∀ k, k < es.length → ERel ι (es.getD k dflE) (es'.getD k dflE)) → ELRel ι es es'
  | [], [], _, _ => trivial
  | [], _ :: _, h, _ => by simp at h
  | _ :: _, [], h, _ => by simp at h
  | e :: es, e' :: es', h, hr => ⟨by simpa using hr 0 (by simp), ELRel.of (by simpa using h) fun k hk => by simpa using hr (k + 1) (by simpa using hk)⟩
theorem EsRel.list {es es' : Array MapEntry} (h : EsRel ι es es') : ELRel ι es.toList es'.toList := ELRel.of (by simpa using h.1) fun k hk => by simpa using h.2 k (by simpa using hk)
theorem afind_ok {kk : IntKind} {k : IntKind} {n : Int} : ∀ {es es' : List MapEntry} (i : Nat), ELRel ι es es' → ∀ r, afind k n es i = some r →
    (r = none ∧ Instr.findNow (.int kk) (.int k n) es' i = some none) ∨ ∃ j v v', r = some (j, v) ∧ Instr.findNow (.int kk) (.int k n) es' i = some (some (j, v')) ∧ VRel ι v v' ∧ i ≤ j ∧ (∃ e e', es[j - i]? = some e ∧ es'[j - i]? = some e' ∧ e.key = .int k n ∧ e'.key = .int k n)
  | [], [], i, _, r, h => by simp [afind] at h; exact .inl ⟨h.symm, rfl⟩
  | [], _ :: _, _, h, _, _ => h.elim
  | _ :: _, [], _, h, _, _ => h.elim
  | e :: es, e' :: es', i, ⟨⟨h1, h2, h3⟩, hr⟩, r, h => by
    simp only [afind] at h
    cases hk : e.key with
    | int k' m =>
      rw [hk] at h h1
      simp only at h
      cases hk' : e'.key <;> rw [hk'] at h1 <;> cases h1
      by_cases hkk : k = k'
      · rw [if_pos hkk] at h
        by_cases hnm : n = m
        · rw [if_pos hnm] at h
          simp only [Option.some.injEq] at h
          subst h
          refine .inr ⟨i, e.val, e'.val, rfl, ?_, h2, Nat.le_refl _, e, e', by simp, by simp, by rw [hk, hkk, hnm], by rw [hk', hkk, hnm]⟩
          simp [Instr.findNow, hk', Instr.sameNow, hkk, hnm]
        · rw [if_neg hnm] at h
          have hf : Instr.findNow (.int kk) (.int k n) (e' :: es') i = Instr.findNow (.int kk) (.int k n) es' (i + 1) := by
            have : (n == m) = false := by simpa using hnm
            simp [Instr.findNow, hk', Instr.sameNow, hkk, this]
          rw [hf]
          rcases afind_ok (i + 1) hr r h with hh | ⟨j, v, v', q1, q2, q3, q4, e1, e1', q5, q6, q7, q8⟩
          · exact .inl hh
          · refine .inr ⟨j, v, v', q1, q2, q3, by omega, e1, e1', ?_, ?_, q7, q8⟩
            · rw [show j - i = (j - (i + 1)) + 1 by omega]; simpa using q5
            · rw [show j - i = (j - (i + 1)) + 1 by omega]; simpa using q6
      · rw [if_neg hkk] at h; simp at h
    | _ => rw [hk] at h; simp at h
theorem run_checkKey {kt : TypeId} {kk : IntKind} (hk : P.underlying kt = some (.int kk)) (b : Bool) (k : IntKind) (n : Int) (w : World) : (Instr.checkKey b 10000 kt (.int k n)).run P w = .ok () w := by
  show (Instr.checkKey b (9999 + 1) kt (.int k n)).run P w = .ok () w
  unfold Instr.checkKey
  rw [Sem.run_bind, run_underlying' hk]
  rfl
theorem run_findKey {kt : TypeId} {kk : IntKind} (hk : P.underlying kt = some (.int kk)) {k : IntKind} {n : Int} {es : List MapEntry} {r : Option (Nat × Value)} (h : Instr.findNow (.int kk) (.int k n) es 0 = some r) (w : World) :
    (Instr.findKey kt (.int k n) es).run P w = .ok r w := by
  unfold Instr.findKey
  rw [Sem.run_bind, run_underlying' hk]
  simp only [Result.andThen_ok, h]
  rfl
noncomputable def mapAt (H : Heap) : Value → Option (Array MapEntry)
  | .map none => some #[]
  | .map (some r) => match H.get r with
    | some (.map es _) => some es
    | _ => none
  | _ => none
noncomputable def alookup (P : Program) (t : TypeId) (m key : Value) (ok : Bool) (H : Heap) : Option Value :=
  match P.underlying t, key, mapAt H m with
  | some (.map kt et), .int k n, some es =>
    if isIntD' P kt then match afind k n es.toList 0 with
      | some (some (_, v)) => some (if ok then .tuple #[v, .bool true] else v)
      | some none => if et < P.types.size then match P.info? et with
          | some i => match i.zero with
            | some z => some (if ok then .tuple #[z, .bool false] else z)
            | none => none
          | none => none
        else none
      | none => none
    else none
  | _, _, _ => none
theorem pairRel {v v' : Value} (h : VRel ι v v') (b : Bool) : VRel ι (.tuple #[v, .bool b]) (.tuple #[v', .bool b]) :=
  ARel.tuple ⟨rfl, fun k hk => by
    have hk' : k < 2 := hk
    match k, hk' with
    | 0, _ => exact h
    | 1, _ => exact .bool b⟩
theorem run_lookup {t kt et : TypeId} {kk : IntKind} (hu : P.underlying t = some (.map kt et)) (hkk : P.underlying kt = some (.int kk)) {m : Value} {es : Array MapEntry} {w : World}
    (hm : (m = .map none ∧ es = #[]) ∨ ∃ r clock, m = .map (some r) ∧ (Go.getObj r).run P w = .ok (.map es clock) w) {k : IntKind} {n : Int} {r : Option (Nat × Value)} (hf : Instr.findNow (.int kk) (.int k n) es.toList 0 = some r) (ok : Bool)
    {z : Value} (hz : r = none → (Go.zeroValue et).run P w = .ok z w) :
    (Instr.lookup t m (.int k n) ok).run P w = .ok (match r with
      | some (_, v) => if ok then .tuple #[v, .bool true] else v
      | none => if ok then .tuple #[z, .bool false] else z) w := by
  unfold Instr.lookup
  rcases hm with ⟨rfl, rfl⟩ | ⟨rr, clock, rfl, ho⟩
  · simp only [Sem.run_bind, run_underlying' hu, Result.andThen_ok, Sem.run_pure, run_checkKey hkk, run_findKey hkk hf]
    cases r with
    | none =>
      simp only [Sem.run_bind, hz rfl, Result.andThen_ok, Sem.run_pure]
    | some p => cases ok <;> rfl
  · simp only [Sem.run_bind, run_underlying' hu, Result.andThen_ok, Sem.run_pure, ho, run_checkKey hkk, run_findKey hkk hf]
    cases r with
    | none =>
      simp only [Sem.run_bind, hz rfl, Result.andThen_ok, Sem.run_pure]
    | some p => cases ok <;> rfl
theorem mapAt_ok {H : Heap} {w : World} (hw : Rel P ι H w) {m m' : Value} (hm : VRel ι m m') {es : Array MapEntry} (h : mapAt H m = some es) :
    ∃ es', EsRel ι es es' ∧ ((m' = .map none ∧ es' = #[]) ∨ ∃ r clock, m' = .map (some r) ∧ (Go.getObj r).run P w = .ok (.map es' clock) w) := by
  cases hm with
  | nilMap =>
    simp only [mapAt, Option.some.injEq] at h
    subst h
    exact ⟨#[], ⟨rfl, fun k hk => by simp at hk⟩, .inl ⟨rfl, rfl⟩⟩
  | @map r i hi =>
    simp only [mapAt] at h
    cases hb : H.get r with
    | none => rw [hb] at h; simp at h
    | some b =>
      cases b with
      | cells c => rw [hb] at h; simp at h
      | arr r => rw [hb] at h; simp at h
      | chan _ _ _ => rw [hb] at h; simp at h
      | part _ => rw [hb] at h; simp at h
      | map es0 clock =>
        rw [hb] at h
        simp only [Option.some.injEq] at h
        subst h
        obtain ⟨j, o, hj, ho, hrel⟩ := hw.live _ _ hb
        obtain rfl : i = j := by rw [hi] at hj; exact Option.some.inj hj
        obtain ⟨es', rfl, he⟩ := hrel
        exact ⟨es', he, .inr ⟨_, clock, rfl, by simp [Go.getObj, Sem.run, ho]⟩⟩
  | _ => simp [mapAt] at h
theorem alookup_ok (hz : ZeroOk P) {t : TypeId} {m m' key key' : Value} (hm : VRel ι m m') (hk : VRel ι key key') {ok : Bool} {H : Heap} {v : Value} (h : alookup P t m key ok H = some v) {w : World} (hw : Rel P ι H w) :
    ∃ v', (Instr.lookup t m' key' ok).run P w = .ok v' w ∧ VRel ι v v' := by
  unfold alookup at h
  split at h
  · rename_i kt et k n es hu hes
    cases hk
    split at h
    · rename_i hik
      obtain ⟨kk, hkk⟩ : ∃ kk, P.underlying kt = some (.int kk) := by
        unfold isIntD' at hik
        split at hik
        · exact ⟨_, by assumption⟩
        · simp at hik
      obtain ⟨es', hel, hmm⟩ := mapAt_ok hw hm hes
      split at h
      · rename_i j u haf
        simp only [Option.some.injEq] at h
        subst h
        rcases afind_ok (kk := kk) 0 hel.list _ haf with ⟨hh, _⟩ | ⟨j', u', v', q1, q2, q3, _⟩
        · simp at hh
        · simp only [Option.some.injEq, Prod.mk.injEq] at q1
          obtain ⟨rfl, rfl⟩ := q1
          refine ⟨_, run_lookup hu hkk hmm q2 ok (z := .nilFunc) (fun h => by simp at h), ?_⟩
          cases ok
          · exact q3
          · exact pairRel q3 true
      · rename_i haf
        split at h
        · rename_i het
          split at h
          · rename_i i hi
            split at h
            · rename_i z hzz
              simp only [Option.some.injEq] at h
              subst h
              rcases afind_ok (kk := kk) 0 hel.list _ haf with ⟨_, hh⟩ | ⟨j', u', v', q1, _⟩
              · have hg : ground z = true := hz et i z het (by unfold Tables.info? at hi; rw [if_pos het] at hi; exact hi) hzz
                refine ⟨_, run_lookup hu hkk hmm hh ok (z := z) (fun _ => run_zeroValue' hi hzz w), ?_⟩
                cases ok
                · exact ground_rel hg
                · exact pairRel (ground_rel hg) false
              · simp at q1
            · simp at h
          · simp at h
        · simp at h
      · simp at h
    · simp at h
  · simp at h
noncomputable def aupdate (P : Program) (t : TypeId) (m key v : Value) (H : Heap) : Option Heap :=
  match P.underlying t, key, m with
  | some (.map kt _), .int k n, .map (some r) =>
    match H.get r with
    | some (.map es clock) =>
      if isIntD' P kt && Nat.ble H.base r then match afind k n es.toList 0 with
        | some (some (i, _)) => some (H.put r (.map (es.modify i fun e => { e with key := .int k n, val := v }) clock))
        | some none => some (H.put r (.map (es.push { key := .int k n, val := v, born := clock }) (clock + 1)))
        | none => none
      else none
    | _ => none
  | _, _, _ => none
theorem Rel.setMap {H : Heap} {w : World} (hw : Rel P ι H w) {n : Nat} {i : Info} (hi : ι n = some i) {es0 : Array MapEntry} {clock0 : Nat} (hb : H.get n = some (.map es0 clock0)) (hg : Nat.ble H.base n = true) {es es' : Array MapEntry} (he : EsRel ι es es') (clock : Nat) :
    ∃ ι' w', (Go.setObj i.blk (.map es' clock)).run P w = .ok () w' ∧ Ext P ι w ι' w' ∧ Rel P ι' (H.put n (.map es clock)) w' := by
  obtain ⟨ι', b, w', e1, x1, r1, _⟩ := Sim.setMap (P := P) (ι := ι) (n := n) (n' := i.blk) ⟨i, hi, rfl⟩ he clock H () (H.put n (.map es clock)) (by simp [Go.setObj, arun, hb, hg]) w hw
  exact ⟨ι', w', e1, x1, r1⟩
theorem EsRel.push {es es' : Array MapEntry} (h : EsRel ι es es') {e e' : MapEntry} (he : ERel ι e e') : EsRel ι (es.push e) (es'.push e') := by
  refine ⟨by simp [h.1], fun k hk => ?_⟩
  simp only [Array.size_push] at hk
  by_cases hks : k < es.size
  · have e1 : (es.push e).getD k dflE = es.getD k dflE := by simp [Array.getElem?_push, show ¬ k = es.size by omega]
    have e2 : (es'.push e').getD k dflE = es'.getD k dflE := by have := h.1; simp [Array.getElem?_push, show ¬ k = es'.size by omega]
    rw [e1, e2]; exact h.2 k hks
  · have hk' : k = es.size := by omega
    have e1 : (es.push e).getD k dflE = e := by simp [hk']
    have e2 : (es'.push e').getD k dflE = e' := by simp [hk', h.1]
    rw [e1, e2]; exact he
theorem EsRel.modify {es es' : Array MapEntry} (h : EsRel ι es es') (i : Nat) {f f' : MapEntry → MapEntry} (hf : ∀ e e', ERel ι e e' → ERel ι (f e) (f' e')) : EsRel ι (es.modify i f) (es'.modify i f') := by
  refine ⟨by simp [h.1], fun k hk => ?_⟩
  simp only [Array.size_modify] at hk
  have hk2 : k < es'.size := h.1 ▸ hk
  have hkk := h.2 k hk
  have e1 : (es.modify i f).getD k dflE = if i = k then f (es.getD k dflE) else es.getD k dflE := by
    simp only [Array.getD_eq_getD_getElem?, Array.getElem?_modify]
    split
    · simp [hk]
    · rfl
  have e2 : (es'.modify i f').getD k dflE = if i = k then f' (es'.getD k dflE) else es'.getD k dflE := by
    simp only [Array.getD_eq_getD_getElem?, Array.getElem?_modify]
    split
    · simp [hk2]
    · rfl
  rw [e1, e2]
  by_cases hik : i = k
  · rw [if_pos hik, if_pos hik]; exact hf _ _ hkk
  · rw [if_neg hik, if_neg hik]; exact hkk
theorem run_update {t kt et : TypeId} {kk : IntKind} (hu : P.underlying t = some (.map kt et)) (hkk : P.underlying kt = some (.int kk)) {r clock : Nat} {es : Array MapEntry} {w : World}
    (ho : (Go.getObj r).run P w = .ok (.map es clock) w) {k : IntKind} {n : Int} {res : Option (Nat × Value)} (hf : Instr.findNow (.int kk) (.int k n) es.toList 0 = some res) (v : Value)
    (hold : ∀ j u, res = some (j, u) → ∃ e, es[j]? = some e ∧ e.key = .int k n) :
    (Instr.mapUpdate t (.map (some r)) (.int k n) v).run P w = (Go.setObj r (match res with
      | some (i, _) => .map (es.modify i fun e => { e with key := .int k n, val := v }) clock
      | none => .map (es.push { key := .int k n, val := v, born := clock }) (clock + 1))).run P w := by
  unfold Instr.mapUpdate
  simp only [Sem.run_bind, run_underlying' hu, Result.andThen_ok, ho, run_checkKey hkk, run_findKey hkk hf]
  cases res with
  | none => rfl
  | some p =>
    obtain ⟨j, u⟩ := p
    obtain ⟨e, he, hek⟩ := hold j u rfl
    have : (Instr.keyThatStays (((es[j]?).map (·.key)).getD (.int k n)) (.int k n)).run P w = .ok (.int k n) w := by
      rw [he]
      simp only [Option.map_some, Option.getD_some, hek]
      show (Instr.keyThatStays (.int k n) (.int k n)).run P w = _
      unfold Instr.keyThatStays
      have : Instr.sameBits 10000 (.int k n) (.int k n) = true := by
        show Instr.sameBits (9999 + 1) (.int k n) (.int k n) = true
        simp [Instr.sameBits]
      rw [this]
      rfl
    simp only [Sem.run_bind, this, Result.andThen_ok]
theorem aupdate_ok {t : TypeId} {m m' key key' v v' : Value} (hm : VRel ι m m') (hk : VRel ι key key') (hv : VRel ι v v') {H H' : Heap} (h : aupdate P t m key v H = some H') {w : World} (hw : Rel P ι H w) :
    ∃ ι' w', (Instr.mapUpdate t m' key' v').run P w = .ok () w' ∧ Ext P ι w ι' w' ∧ Rel P ι' H' w' := by
  unfold aupdate at h
  split at h
  · rename_i kt et k n r hu
    cases hk
    cases hm with
    | @map _ i hi =>
      split at h
      · rename_i es clock hb
        split at h
        · rename_i hc
          simp only [Bool.and_eq_true] at hc
          obtain ⟨hik, hg⟩ := hc
          obtain ⟨kk, hkk⟩ : ∃ kk, P.underlying kt = some (.int kk) := by
            unfold isIntD' at hik
            split at hik
            · exact ⟨_, by assumption⟩
            · simp at hik
          obtain ⟨j, o, hj, ho, hrel⟩ := hw.live _ _ hb
          obtain rfl : i = j := by rw [hi] at hj; exact Option.some.inj hj
          obtain ⟨es', rfl, hel⟩ := hrel
          have hobj : (Go.getObj i.blk).run P w = .ok (.map es' clock) w := by simp [Go.getObj, Sem.run, ho]
          split at h
          · rename_i jj u haf
            simp only [Option.some.injEq] at h
            subst h
            rcases afind_ok (kk := kk) 0 hel.list _ haf with ⟨hh, _⟩ | ⟨j', u', v'', q1, q2, q3, q4, e1, e1', q5, q6, q7, q8⟩
            · simp at hh
            · simp only [Option.some.injEq, Prod.mk.injEq] at q1
              obtain ⟨rfl, rfl⟩ := q1
              have hrun := run_update hu hkk hobj q2 v' (fun j u hju => by
                simp only [Option.some.injEq, Prod.mk.injEq] at hju
                obtain ⟨rfl, rfl⟩ := hju
                exact ⟨e1', by simpa using q6, q8⟩)
              obtain ⟨ι', w', r1, r2, r3⟩ := hw.setMap hi hb hg (hel.modify jj (f := fun e => { e with key := .int k n, val := v }) (f' := fun e => { e with key := .int k n, val := v' }) fun e e' he => ⟨.int _ _, hv, he.2.2⟩) clock
              exact ⟨ι', w', by rw [hrun]; exact r1, r2, r3⟩
          · rename_i haf
            simp only [Option.some.injEq] at h
            subst h
            rcases afind_ok (kk := kk) 0 hel.list _ haf with ⟨_, hh⟩ | ⟨j', u', v'', q1, _⟩
            · have hrun := run_update hu hkk hobj hh v' (fun j u hju => by simp at hju)
              obtain ⟨ι', w', r1, r2, r3⟩ := hw.setMap hi hb hg (hel.push (e := { key := .int k n, val := v, born := clock }) (e' := { key := .int k n, val := v', born := clock }) ⟨.int _ _, hv, rfl⟩) (clock + 1)
              exact ⟨ι', w', by rw [hrun]; exact r1, r2, r3⟩
            · simp at q1
          · simp at h
        · simp at h
      · simp at h
  · simp at h
noncomputable def adelete (P : Program) (tys : Array TypeId) (args : Array Value) (H : Heap) : Option Heap :=
  match tys[0]?, args[0]?, args[1]? with
  | some t, some (Value.map (some r)), some (Value.int k n) =>
    match P.underlying t, H.get r with
    | some (.map kt _), some (.map es clock) =>
      if isIntD' P kt && Nat.ble H.base r then match afind k n es.toList 0 with
        | some (some (i, _)) => some (H.put r (.map (es.eraseIdxIfInBounds i) clock))
        | some none => some (H.put r (.map es clock))
        | none => none
      else none
    | _, _ => none
  | _, _, _ => none
theorem EsRel.erase {es es' : Array MapEntry} (h : EsRel ι es es') (i : Nat) : EsRel ι (es.eraseIdxIfInBounds i) (es'.eraseIdxIfInBounds i) := by
  by_cases hi : i < es.size
  · have hi' : i < es'.size := h.1 ▸ hi
    have s1 : es.eraseIdxIfInBounds i = es.eraseIdx i hi := by simp [Array.eraseIdxIfInBounds, hi]
    have s2 : es'.eraseIdxIfInBounds i = es'.eraseIdx i hi' := by simp [Array.eraseIdxIfInBounds, hi']
    rw [s1, s2]
    refine ⟨by simp [h.1], fun k hk => ?_⟩
    simp only [Array.size_eraseIdx] at hk
    have e1 : (es.eraseIdx i hi).getD k dflE = es.getD (if k < i then k else k + 1) dflE := by
      simp only [Array.getD_eq_getD_getElem?, Array.getElem?_eraseIdx]
      split <;> rfl
    have e2 : (es'.eraseIdx i hi').getD k dflE = es'.getD (if k < i then k else k + 1) dflE := by
      simp only [Array.getD_eq_getD_getElem?, Array.getElem?_eraseIdx]
      split <;> rfl
    rw [e1, e2]
    exact h.2 _ (by split <;> omega)
  · have hi' : ¬ i < es'.size := h.1 ▸ hi
    have s1 : es.eraseIdxIfInBounds i = es := by simp [Array.eraseIdxIfInBounds, hi]
    have s2 : es'.eraseIdxIfInBounds i = es' := by simp [Array.eraseIdxIfInBounds, hi']
    rw [s1, s2]; exact h
theorem run_delete {tys : Array TypeId} {t kt et ty : TypeId} {kk : IntKind} (ht : tys[0]? = some t) (hu : P.underlying t = some (.map kt et)) (hkk : P.underlying kt = some (.int kk)) {r clock : Nat} {es : Array MapEntry} {w : World} {args : Array Value} {k : IntKind} {n : Int}
    (h0 : args[0]? = some (.map (some r))) (h1 : args[1]? = some (.int k n)) (ho : (Go.getObj r).run P w = .ok (.map es clock) w) {res : Option (Nat × Value)} (hf : Instr.findNow (.int kk) (.int k n) es.toList 0 = some res) :
    (Builtin.delete_ tys ty args).run P w = ((Go.setObj r (match res with
      | some (i, _) => .map (es.eraseIdxIfInBounds i) clock
      | none => .map es clock)).run P w).andThen fun _ w' => .ok (.tuple #[]) w' := by
  unfold Builtin.delete_
  rw [ht, h0, h1]
  simp only [Sem.run_bind, run_underlying' hu, Result.andThen_ok, ho, run_checkKey hkk, run_findKey hkk hf]
  cases res with
  | none => simp only [Sem.run_bind, Sem.run_pure]
  | some p => simp only [Sem.run_bind, Sem.run_pure]
theorem adelete_ok {tys : Array TypeId} {ty : TypeId} {args args' : Array Value} (ha : ARel ι args args') {H H' : Heap} (h : adelete P tys args H = some H') {w : World} (hw : Rel P ι H w) :
    ∃ ι' w', (Builtin.delete_ tys ty args').run P w = .ok (.tuple #[]) w' ∧ Ext P ι w ι' w' ∧ Rel P ι' H' w' := by
  unfold adelete at h
  split at h
  · rename_i t r k n ht h0 h1
    obtain ⟨m', h0', hm⟩ := ha.get? h0
    obtain ⟨k', h1', hk⟩ := ha.get? h1
    cases hk
    cases hm with
    | @map _ i hi =>
      split at h
      · rename_i kt et es clock hu hb
        split at h
        · rename_i hc
          simp only [Bool.and_eq_true] at hc
          obtain ⟨hik, hg⟩ := hc
          obtain ⟨kk, hkk⟩ : ∃ kk, P.underlying kt = some (.int kk) := by
            unfold isIntD' at hik
            split at hik
            · exact ⟨_, by assumption⟩
            · simp at hik
          obtain ⟨j, o, hj, ho, hrel⟩ := hw.live _ _ hb
          obtain rfl : i = j := by rw [hi] at hj; exact Option.some.inj hj
          obtain ⟨es', rfl, hel⟩ := hrel
          have hobj : (Go.getObj i.blk).run P w = .ok (.map es' clock) w := by simp [Go.getObj, Sem.run, ho]
          split at h
          · rename_i jj u haf
            simp only [Option.some.injEq] at h
            subst h
            rcases afind_ok (kk := kk) 0 hel.list _ haf with ⟨hh, _⟩ | ⟨j', u', v'', q1, q2, q3, q4, e1, e1', q5, q6, q7, q8⟩
            · simp at hh
            · simp only [Option.some.injEq, Prod.mk.injEq] at q1
              obtain ⟨rfl, rfl⟩ := q1
              have hrun := run_delete (ty := ty) ht hu hkk h0' h1' hobj q2
              obtain ⟨ι', w', r1, r2, r3⟩ := hw.setMap hi hb hg (hel.erase jj) clock
              refine ⟨ι', w', ?_, r2, r3⟩
              rw [hrun]
              simp only [r1, Result.andThen_ok]
          · rename_i haf
            simp only [Option.some.injEq] at h
            subst h
            rcases afind_ok (kk := kk) 0 hel.list _ haf with ⟨_, hh⟩ | ⟨j', u', v'', q1, _⟩
            · have hrun := run_delete (ty := ty) ht hu hkk h0' h1' hobj hh
              obtain ⟨ι', w', r1, r2, r3⟩ := hw.setMap hi hb hg hel clock
              refine ⟨ι', w', ?_, r2, r3⟩
              rw [hrun]
              simp only [r1, Result.andThen_ok]
            · simp at q1
          · simp at h
        · simp at h
      · simp at h
  · simp at h
theorem Sim.makeMap (t : TypeId) {r r' : Option Value} (h : ORel ι r r') : Sim P ι VRel (Instr.makeMap t r) (Instr.makeMap t r') := by
  have fin : ∀ ι1, Sim P ι1 VRel (do Pure.pure (.map (some (← newObj (.map #[] 0)))) : Sem Value) (do Pure.pure (.map (some (← newObj (.map #[] 0))))) := fun ι1 => by
    refine (Sim.newMap ⟨rfl, fun k hk => by simp at hk⟩ 0).bind fun ι1 n n' hs hn => ?_
    obtain ⟨i, h1, rfl, _⟩ := hn
    exact Sim.pure (.map h1)
  unfold Instr.makeMap
  cases r with
  | none => cases r' with
    | none => exact fin ι
    | some _ => exact h.elim
  | some x => cases r' with
    | none => exact h.elim
    | some y =>
      refine (Static.underlying t).sim.bind fun ι1 d d' hs e => ?_
      cases e
      cases d with
      | map k e => exact (Sim.asInt (VRel.mono hs h)).bind fun ι2 _ _ _ _ => fin ι2
      | _ => exact Sim.dead (Dead.first (Dead.stuck _))
noncomputable def acap (P : Program) (tys : Array TypeId) (args : Array Value) (H : Heap) : Option Value :=
  match tys[0]?, args[0]? with
  | some t, some (Value.slice (some a) l c) =>
    match P.underlying t, H.get a.block with
    | some (.slice _), some (.cells cc) => if cc.opn || (Nat.beq l 0 && Nat.beq c 0) then none else some (.int .i64 c)
    | _, _ => none
  | some t, some (Value.slice none _ c) => match P.underlying t with
    | some (.slice _) => some (.int .i64 c)
    | _ => none
  | _, _ => none
theorem acap_ok {tys : Array TypeId} {ty : TypeId} {args args' : Array Value} (ha : ARel ι args args') {H : Heap} {v : Value} (h : acap P tys args H = some v) {w : World} (hw : Rel P ι H w) :
    ∃ v', (Builtin.cap_ tys ty args').run P w = .ok v' w ∧ VRel ι v v' := by
  have key : ∀ {t e : TypeId} {b : Option Addr} {l c : Nat}, tys[0]? = some t → P.underlying t = some (.slice e) → args'[0]? = some (.slice b l c) → (Builtin.cap_ tys ty args').run P w = .ok (goInt c) w := by
    intro t e b l c ht hu h0
    unfold Builtin.cap_
    rw [ht, h0]
    simp only [Sem.run_bind, run_underlying' hu, Result.andThen_ok]
    rfl
  unfold acap at h
  split at h
  · rename_i t a l c ht h0
    obtain ⟨x', h0', hv⟩ := ha.get? h0
    split at h
    · rename_i e cc hu hb
      split at h
      · simp at h
      · rename_i hc
        simp only [Option.some.injEq] at h
        subst h
        simp only [Bool.or_eq_true, Bool.and_eq_true, not_or, Bool.not_eq_true] at hc
        cases hv with
        | emptySlice a a' => simp at hc
        | @slice _ inf _ _ c' g1 g2 g3 =>
          obtain ⟨j, o, hj, ho, hrel⟩ := hw.live _ _ hb
          obtain rfl : inf = j := by rw [g1] at hj; exact Option.some.inj hj
          obtain ⟨⟨r1, r2, r3⟩, cs, rfl, r4, r5, r6⟩ := hrel
          obtain ⟨s1, s2, s3⟩ := r5 hc.1
          have hcc : c' = c := by
            rcases g2 with g2 | ⟨_, g2⟩
            · exact g2
            · rw [s1, Nat.add_zero] at g2
              exact Nat.eq_of_mul_eq_mul_right (by omega) g2
          subst hcc
          exact ⟨_, key ht hu h0', .int _ _⟩
    · simp at h
  · rename_i t l c ht h0
    obtain ⟨x', h0', hv⟩ := ha.get? h0
    obtain rfl := hv.nilSlice_inv
    split at h
    · rename_i e hu
      simp only [Option.some.injEq] at h
      subst h
      exact ⟨_, key ht hu h0', .int _ _⟩
    · simp at h
  · simp at h
end Go.Ev
