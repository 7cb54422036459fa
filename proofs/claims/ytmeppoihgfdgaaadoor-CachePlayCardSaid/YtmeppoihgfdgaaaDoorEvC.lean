/-
  The evaluator: the model's operations have their like over the small heap. No condition.
-/
import Derived.Test.YtmeppoihgfdgaaaDoorEvB
namespace Go.Ev
set_option linter.unusedSectionVars false      -- the symbols' class stands for all texts
variable [Syms] {P : Program} {ι : Inj}

/-! ### Values that hold no address -/
def ground1 : Value → Bool
  | .bool _ | .int .. | .string _ | .pointer none | .slice none _ _ | .map none | .chan none | .nilFunc | .nilIface => true
  | .func _ xs ys => xs.isEmpty && ys.isEmpty
  | _ => false
def groundA : Value → Bool
  | .agg cs => cs.all ground1
  | v => ground1 v
def ground : Value → Bool
  | .agg cs => cs.all ground1
  | .tuple cs => cs.all groundA
  | .iface _ v => ground1 v
  | v => ground1 v

theorem ground1_rel {v : Value} (h : ground1 v = true) : VRel ι v v := by
  cases v with
  | bool b => exact .bool b
  | int k n => exact .int k n
  | string s => exact .string s
  | pointer a => cases a with
    | none => exact .nilPtr
    | some a => simp [ground1] at h
  | slice a l c => cases a with
    | none => exact .nilSlice l c
    | some a => simp [ground1] at h
  | map r => cases r with
    | none => exact .nilMap
    | some a => simp [ground1] at h
  | chan r => cases r with
    | none => exact .nilChan
    | some a => simp [ground1] at h
  | func fn xs ys =>
    simp [ground1] at h
    obtain ⟨rfl, rfl⟩ := h
    exact .func fn rfl (fun k hk => by simp at hk) rfl (fun k hk => by simp at hk)
  | nilFunc => exact .nilFunc
  | nilIface => exact .nilIface
  | _ => simp [ground1] at h

theorem ground_arr {cs : Array Value} (h : cs.all ground1 = true) : ARel ι cs cs := by
  refine ⟨rfl, fun k hk => ?_⟩
  rw [Array.all_eq_true] at h
  have := h k hk
  have e : cs.getD k undf = cs[k] := by simp [hk]
  rw [e]
  exact ground1_rel this

theorem groundA_rel {v : Value} (h : groundA v = true) : VRel ι v v := by
  cases v with
  | agg cs => exact (ground_arr h).agg
  | _ => exact ground1_rel h
theorem groundA_arr {cs : Array Value} (h : cs.all groundA = true) : ARel ι cs cs := by
  refine ⟨rfl, fun k hk => ?_⟩
  rw [Array.all_eq_true] at h
  have := h k hk
  have e : cs.getD k undf = cs[k] := by simp [hk]
  rw [e]
  exact groundA_rel this
theorem ground_rel {v : Value} (h : ground v = true) : VRel ι v v := by
  cases v with
  | agg cs => exact (ground_arr h).agg
  | tuple cs => exact (groundA_arr h).tuple
  | iface t v => exact .iface t (ground1_rel h)
  | _ => exact ground1_rel h

/-! ### Lists and arrays -/
def LRel (ι : Inj) (xs ys : List Value) : Prop := xs.length = ys.length ∧ ∀ k, k < xs.length → VRel ι (xs.getD k undf) (ys.getD k undf)
theorem LRel.mono {ι ι' : Inj} (hs : Sub ι ι') {xs ys : List Value} (h : LRel ι xs ys) : LRel ι' xs ys := ⟨h.1, fun k hk => (h.2 k hk).mono hs⟩
theorem ARel.list {xs ys : Array Value} (h : ARel ι xs ys) : LRel ι xs.toList ys.toList := ⟨by simpa using h.1, fun k hk => by simpa using h.2 k (by simpa using hk)⟩
theorem LRel.array {xs ys : List Value} (h : LRel ι xs ys) : ARel ι xs.toArray ys.toArray := ⟨by simpa using h.1, fun k hk => by simpa using h.2 k (by simpa using hk)⟩
theorem LRel.cons_inv {x : Value} {xs : List Value} {l : List Value} (h : LRel ι (x :: xs) l) : ∃ y ys, l = y :: ys ∧ VRel ι x y ∧ LRel ι xs ys := by
  cases l with
  | nil => have := h.1; simp at this
  | cons y ys =>
    refine ⟨y, ys, rfl, by simpa using h.2 0 (by simp), by simpa using h.1, fun k hk => by simpa using h.2 (k + 1) (by simpa using hk)⟩
theorem LRel.nil_inv {l : List Value} (h : LRel ι [] l) : l = [] := by
  cases l with
  | nil => rfl
  | cons y ys => have := h.1; simp at this
theorem ARel.push {xs ys : Array Value} (h : ARel ι xs ys) {x y : Value} (hv : VRel ι x y) : ARel ι (xs.push x) (ys.push y) := by
  refine ⟨by simp [h.1], fun k hk => ?_⟩
  simp only [Array.size_push] at hk
  by_cases hks : k < xs.size
  · have e1 : (xs.push x).getD k undf = xs.getD k undf := by simp [Array.getElem?_push, show ¬ k = xs.size by omega]
    have e2 : (ys.push y).getD k undf = ys.getD k undf := by have := h.1; simp [Array.getElem?_push, show ¬ k = ys.size by omega]
    rw [e1, e2]; exact h.2 k hks
  · have hk' : k = xs.size := by omega
    have e1 : (xs.push x).getD k undf = x := by simp [hk']
    have e2 : (ys.push y).getD k undf = y := by simp [hk', h.1]
    rw [e1, e2]; exact hv
theorem ARel.append {xs ys us vs : Array Value} (h : ARel ι xs ys) (h' : ARel ι us vs) : ARel ι (xs ++ us) (ys ++ vs) := by
  refine ⟨by simp [h.1, h'.1], fun k hk => ?_⟩
  simp only [Array.size_append] at hk
  by_cases hks : k < xs.size
  · have e1 : (xs ++ us).getD k undf = xs.getD k undf := by simp [Array.getElem?_append, hks]
    have e2 : (ys ++ vs).getD k undf = ys.getD k undf := by have := h.1; simp [Array.getElem?_append, show k < ys.size by omega]
    rw [e1, e2]; exact h.2 k hks
  · have e1 : (xs ++ us).getD k undf = us.getD (k - xs.size) undf := by simp [Array.getElem?_append, hks]
    have e2 : (ys ++ vs).getD k undf = vs.getD (k - xs.size) undf := by have := h.1; simp [Array.getElem?_append, show ¬ k < ys.size by omega, this]
    rw [e1, e2]; exact h'.2 _ (by omega)
theorem ARel.extract {xs ys : Array Value} (h : ARel ι xs ys) (a b : Nat) : ARel ι (xs.extract a b) (ys.extract a b) := by
  refine ⟨by simp [h.1], fun k hk => ?_⟩
  simp only [Array.size_extract] at hk
  have e1 : (xs.extract a b).getD k undf = xs.getD (a + k) undf := by
    simp only [Array.getD_eq_getD_getElem?, Array.getElem?_extract]; rw [if_pos (by omega)]
  have e2 : (ys.extract a b).getD k undf = ys.getD (a + k) undf := by
    simp only [Array.getD_eq_getD_getElem?, Array.getElem?_extract]; rw [if_pos (by rw [← h.1]; omega)]
  rw [e1, e2]; exact h.2 _ (by omega)
theorem ARel.set {xs ys : Array Value} (h : ARel ι xs ys) (i : Nat) {x y : Value} (hv : VRel ι x y) : ARel ι (xs.setIfInBounds i x) (ys.setIfInBounds i y) := by
  refine ⟨by simp [h.1], fun k hk => ?_⟩
  simp only [Array.size_setIfInBounds] at hk
  have hk2 : k < ys.size := h.1 ▸ hk
  by_cases hik : i = k
  · subst hik
    have e1 : (xs.setIfInBounds i x).getD i undf = x := by simp [hk]
    have e2 : (ys.setIfInBounds i y).getD i undf = y := by simp [hk2]
    rw [e1, e2]; exact hv
  · have e1 : (xs.setIfInBounds i x).getD k undf = xs.getD k undf := by simp [hik]
    have e2 : (ys.setIfInBounds i y).getD k undf = ys.getD k undf := by simp [hik]
    rw [e1, e2]; exact h.2 k hk
theorem ARel.get? {xs ys : Array Value} (h : ARel ι xs ys) {k : Nat} {x : Value} (hx : xs[k]? = some x) : ∃ y, ys[k]? = some y ∧ VRel ι x y := by
  obtain ⟨hk, rfl⟩ := Array.getElem?_eq_some_iff.1 hx
  have := h.2 k hk
  refine ⟨ys.getD k undf, getD_eq _ _ _ (h.1 ▸ hk), ?_⟩
  have e : xs.getD k undf = xs[k] := by simp [hk]
  rwa [e] at this
theorem ARel.getNone {xs ys : Array Value} (h : ARel ι xs ys) {k : Nat} (hx : xs[k]? = none) : ys[k]? = none := by
  rw [Array.getElem?_eq_none_iff] at *
  rw [← h.1]; exact hx
theorem ARel.one {x y : Value} (h : VRel ι x y) : ARel ι #[x] #[y] := ⟨rfl, fun k hk => by
  have : k = 0 := by simpa using hk
  subst this
  exact h⟩
theorem ARel.getD' {xs ys : Array Value} (h : ARel ι xs ys) (k : Nat) : VRel ι (xs.getD k undf) (ys.getD k undf) := by
  by_cases hk : k < xs.size
  · exact h.2 k hk
  · have e1 : xs.getD k undf = undf := by simp [show xs.size ≤ k by omega]
    have e2 : ys.getD k undf = undf := by have := h.1; simp [show ys.size ≤ k by omega]
    rw [e1, e2]; exact .undf

theorem VRel.cells {v v' : Value} (h : VRel ι v v') : ARel ι v.cells v'.cells := by
  cases h with
  | agg h1 h2 => exact ⟨h1, h2⟩
  | bool b => exact ARel.one (.bool b)
  | int k n => exact ARel.one (.int k n)
  | string s => exact ARel.one (.string s)
  | nilPtr => exact ARel.one .nilPtr
  | ptr h => exact ARel.one (.ptr h)
  | nilSlice l c => exact ARel.one (.nilSlice l c)
  | slice h h2 h3 => exact ARel.one (.slice h h2 h3)
  | emptySlice a a' => exact ARel.one (.emptySlice a a')
  | nilMap => exact ARel.one .nilMap
  | map h => exact ARel.one (.map h)
  | nilChan => exact ARel.one .nilChan
  | chn h ho => exact ARel.one (.chn h ho)
  | nilFunc => exact ARel.one .nilFunc
  | func fn h1 h2 h3 h4 => exact ARel.one (.func fn h1 h2 h3 h4)
  | nilIface => exact ARel.one .nilIface
  | iface t h => exact ARel.one (.iface t h)
  | tuple h1 h2 => exact ARel.one (.tuple h1 h2)
  | sym h => rcases Syms.cases h with ⟨k, n, rfl⟩ | ⟨b, rfl⟩ <;> exact ARel.one (.sym h)
  | inp h => rcases Syms.refs h with ⟨a, l, n, rfl⟩ | ⟨a, rfl⟩ <;> exact ARel.one (.inp h)
  | ownS h h2 h3 h4 => exact ARel.one (.ownS h h2 h3 h4)
  | ownP h h2 => exact ARel.one (.ownP h h2)

/-! ### Rows of cells -/
def ARelR : Inj → Array Value → Array Value → Prop := fun ι a b => ARel ι a b
def AddrR : Inj → Addr → Addr → Prop := fun ι a b => AddrRel ι a b
def TrueR {α β : Type} : Inj → α → β → Prop := fun _ _ _ => True

theorem Sim.loadCellsFrom : ∀ (n i : Nat) (ι : Inj) (a a' : Addr) (acc acc' : Array Value), AddrRel ι a a' → ARel ι acc acc' →
    Sim P ι ARelR (Go.loadCellsFrom a i n acc) (Go.loadCellsFrom a' i n acc')
  | 0, _, _, _, _, _, _, _, h => Sim.pure h
  | n + 1, i, ι, a, a', acc, acc', ha, h => by
    unfold Go.loadCellsFrom
    exact (Sim.load (ha.add i) _).bind fun ι' v v' hs hv => Sim.loadCellsFrom n (i + 1) ι' a a' _ _ (ha.mono hs) ((h.mono hs).push hv)

theorem Sim.loadCells {a a' : Addr} (ha : AddrRel ι a a') (n : Nat) : Sim P ι ARelR (Go.loadCells a n) (Go.loadCells a' n) :=
  Sim.loadCellsFrom n 0 ι a a' _ _ ha ARel.nil

theorem Sim.storeCells : ∀ (vs vs' : List Value) (i : Nat) (ι : Inj) (a a' : Addr), AddrRel ι a a' → LRel ι vs vs' →
    Sim P ι TrueR (Go.storeCells a vs i) (Go.storeCells a' vs' i)
  | [], vs', i, ι, a, a', _, h => by
    obtain rfl := h.nil_inv
    exact Sim.pure trivial
  | x :: xs, vs', i, ι, a, a', ha, h => by
    obtain ⟨y, ys, rfl, hv, hr⟩ := h.cons_inv
    unfold Go.storeCells
    exact (Sim.store (ha.add i) hv _).bind fun ι' _ _ hs _ => Sim.storeCells xs ys (i + 1) ι' a a' (ha.mono hs) (hr.mono hs)

theorem Sim.loadVar (t : TypeId) {a a' : Addr} (ha : AddrRel ι a a') : Sim P ι VRel (Go.loadVar t a) (Go.loadVar t a') := by
  unfold Go.loadVar
  refine (Static.isAgg t).sim.bind fun ι1 b b' hs e => ?_
  cases e
  split
  · refine (Static.sizeOf t).sim.bind fun ι2 n n' hs2 e => ?_
    cases e
    exact (Sim.loadCells ((ha.mono hs).mono hs2) n).bind fun ι3 cs cs' _ h => Sim.pure h.agg
  · exact Sim.load (ha.mono hs) _

theorem Sim.storeVar (t : TypeId) {a a' : Addr} (ha : AddrRel ι a a') {v v' : Value} (hv : VRel ι v v') : Sim P ι TrueR (Go.storeVar t a v) (Go.storeVar t a' v') := by
  unfold Go.storeVar
  refine (Static.sizeOf t).sim.bind fun ι1 n n' hs e => ?_
  cases e
  dsimp only
  by_cases h : v.cells.size = n
  · have h' : v'.cells.size = n := hv.cells.1 ▸ h
    simp only [ne_eq, h, h', not_true, if_false]
    exact Sim.storeCells _ _ 0 ι1 a a' (ha.mono hs) (hv.cells.list.mono hs)
  · simp only [ne_eq, h, not_false_iff, if_true]
    exact Sim.dead (Dead.first (Dead.stuck _))

def NewA (n : Nat) : Inj → Addr → Addr → Prop := fun ι a a' => ∃ i, ι a.block = some i ∧ a = ⟨a.block, 0, none⟩ ∧ a' = ⟨i.blk, 0, none⟩ ∧ i.off = 0 ∧ i.size = n ∧ i.extra = 0 ∧ i.esz = 1
theorem NewA.addr {n : Nat} {a a' : Addr} (h : NewA n ι a a') : AddrRel ι a a' := by
  obtain ⟨i, h1, h2, h3, h4, _⟩ := h
  refine ⟨i, h1, ?_⟩
  rw [h3, h2]; simp [h4]
theorem Sim.newRow (elem : TypeId) {xs ys : Array Value} (h : ARel ι xs ys) : Sim P ι (NewA xs.size) (Go.newRow elem xs) (Go.newRow elem ys) := by
  unfold Go.newRow
  refine (Sim.newCells h elem).bind fun ι1 n n' hs hn => ?_
  obtain ⟨i, h1, h2, h3, h4⟩ := hn
  exact Sim.pure ⟨i, h1, rfl, by rw [h2], h3, h4⟩
theorem Sim.newVar (t : TypeId) {v v' : Value} (hv : VRel ι v v') : Sim P ι (NewA v.cells.size) (Go.newVar t v) (Go.newVar t v') := Sim.newRow t hv.cells

/-- Zero values hold no address. -/
def ZeroOk (P : Program) : Prop := ∀ (t : TypeId) i z, t < P.types.size → P.types[t]? = some i → i.zero = some z → ground z = true
theorem Sim.zeroValue (hz : ZeroOk P) (t : TypeId) (ht : t < P.types.size) : Sim P ι (fun ι' a b => a = b ∧ VRel ι' a b) (Go.zeroValue t) (Go.zeroValue t) := by
  intro H a H' hr w hw
  obtain ⟨rfl, h2⟩ := (Static.zeroValue t) _ _ _ hr
  refine ⟨ι, a, w, (h2 w).1, Ext.refl _ _, hw, ⟨rfl, ground_rel ?_⟩, .none ((h2 w).2 _), rfl⟩
  simp only [Go.zeroValue, Go.typeInfo, Go.program, arun_bind, arun, Option.bind_some] at hr
  cases hi : P.info? t with
  | none => rw [hi] at hr; simp [Go.stuck, arun] at hr
  | some i =>
    rw [hi] at hr
    simp only [arun_pure, Option.bind_some] at hr
    cases hzz : i.zero with
    | none => rw [hzz] at hr; simp [Go.unsupported, arun] at hr
    | some z =>
      rw [hzz] at hr
      simp only [arun_pure, Option.some.injEq, Prod.mk.injEq] at hr
      rw [← hr.1]
      have hi' : P.types[t]? = some i := by
        unfold Tables.info? at hi
        rw [if_pos ht] at hi
        exact hi
      exact hz t i z ht hi' hzz

theorem Sim.underlying (t : TypeId) : Sim P ι (fun _ a b => a = b ∧ P.underlying t = some a) (Go.underlying t) (Go.underlying t) := by
  intro H a H' hr w hw
  obtain ⟨rfl, h2⟩ := (Static.underlying t) _ _ _ hr
  refine ⟨ι, a, w, (h2 w).1, Ext.refl _ _, hw, ⟨rfl, ?_⟩, .none ((h2 w).2 _), rfl⟩
  simp only [Go.underlying, Go.program, arun_bind, arun, Option.bind_some] at hr
  cases hi : P.underlying t with
  | none => rw [hi] at hr; simp [Go.stuck, arun] at hr
  | some i =>
    rw [hi] at hr
    simp at hr
    rw [hr]

theorem Sim.alloc (hz : ZeroOk P) (t : TypeId) (ht : t < P.types.size) : Sim P ι VRel (Instr.alloc t true (.tuple #[])) (Instr.alloc t true (.tuple #[])) := by
  unfold Instr.alloc
  refine (Sim.zeroValue hz t ht).bind fun ι1 z z' hs h => ?_
  dsimp only
  exact (Sim.newVar t h.2).bind fun ι2 a a' _ h => Sim.pure h.addr.ptr

theorem Sim.box (t : TypeId) {v v' : Value} (hv : VRel ι v v') : Sim P ι VRel (Instr.box t v) (Instr.box t v') := by
  unfold Instr.box
  exact (Sim.newVar t hv).bind fun ι2 a a' _ h => Sim.pure h.addr.ptr

theorem Sim.part (t : TypeId) {xs ys : Array Value} (h : ARel ι xs ys) (off : Nat) : Sim P ι VRel (Go.part t xs off) (Go.part t ys off) := by
  unfold Go.part
  refine (Static.isAgg t).sim.bind fun ι1 b b' hs e => ?_
  cases e
  split
  · refine (Static.sizeOf t).sim.bind fun ι2 n n' hs2 e => ?_
    cases e
    exact Sim.pure (((h.mono hs).mono hs2).extract _ _).agg
  · cases hx : xs[off]? with
    | none => exact Sim.dead (Dead.stuck _)
    | some x =>
      obtain ⟨y, hy, hv⟩ := h.get? hx
      rw [hy]
      exact Sim.pure (hv.mono hs)

/-! ### Structs, arrays and slices that are written out -/
def PRel (ι : Inj) : List (Nat × Value) → List (Nat × Value) → Prop
  | [], [] => True
  | x :: xs, y :: ys => x.1 = y.1 ∧ VRel ι x.2 y.2 ∧ PRel ι xs ys
  | _, _ => False
theorem PRel.mono {ι ι' : Inj} (hs : Sub ι ι') : ∀ {xs ys : List (Nat × Value)}, PRel ι xs ys → PRel ι' xs ys
  | [], [], _ => trivial
  | _ :: _, _ :: _, ⟨h1, h2, h3⟩ => ⟨h1, h2.mono hs, PRel.mono hs h3⟩
  | [], _ :: _, h => h.elim
  | _ :: _, [], h => h.elim

theorem foldSet (off : Nat) : ∀ (l l' : List Value) (k : Nat) (cs cs' : Array Value), LRel ι l l' → ARel ι cs cs' →
    ARel ι ((l.zipIdx k).foldl (fun cs x => cs.setIfInBounds (off + x.2) x.1) cs) ((l'.zipIdx k).foldl (fun cs x => cs.setIfInBounds (off + x.2) x.1) cs')
  | [], l', k, cs, cs', h, hc => by
    obtain rfl := h.nil_inv
    exact hc
  | x :: xs, l', k, cs, cs', h, hc => by
    obtain ⟨y, ys, rfl, hv, hr⟩ := h.cons_inv
    simp only [List.zipIdx_cons, List.foldl_cons]
    exact foldSet off xs ys (k + 1) _ _ hr (hc.set _ hv)

theorem fill_rel (place : Nat → Option (Nat × Nat)) : ∀ (ps ps' : List (Nat × Value)) (cs cs' : Array Value), PRel ι ps ps' → ARel ι cs cs' →
    ∀ r, Instr.fill place cs ps = some r → ∃ r', Instr.fill place cs' ps' = some r' ∧ ARel ι r r'
  | [], [], cs, cs', _, hc, r, hr => by
    simp only [Instr.fill, Option.some.injEq] at hr
    subst hr
    exact ⟨cs', rfl, hc⟩
  | [], _ :: _, _, _, h, _, _, _ => h.elim
  | _ :: _, [], _, _, h, _, _, _ => h.elim
  | (i, v) :: ps, (i', v') :: ps', cs, cs', ⟨h1, h2, h3⟩, hc, r, hr => by
    have h1' : i = i' := h1
    subst h1'
    simp only [Instr.fill] at hr ⊢
    cases hp : place i with
    | none => rw [hp] at hr; simp at hr
    | some os =>
      obtain ⟨off, size⟩ := os
      rw [hp] at hr
      simp only at hr ⊢
      have hvc := VRel.cells h2
      simp only at hvc
      rw [← hvc.1, ← hc.1]
      by_cases hb : v.cells.size ≠ size ∨ off + v.cells.size > cs.size
      · rw [if_pos (by simpa using hb)] at hr; simp at hr
      · rw [if_neg (by simpa using hb)] at hr ⊢
        refine fill_rel place ps ps' _ _ h3 ?_ r hr
        have := foldSet off v.cells.toList v'.cells.toList 0 cs cs' hvc.list hc
        rw [← Array.foldl_toList, ← Array.foldl_toList, Array.toList_zipIdx, Array.toList_zipIdx]
        exact this

theorem Sim.build (hz : ZeroOk P) (t : TypeId) (ht : t < P.types.size) {ps ps' : Array (Nat × Value)} (h : PRel ι ps.toList ps'.toList) : Sim P ι VRel (Instr.build t ps) (Instr.build t ps') := by
  unfold Instr.build
  refine (Sim.zeroValue hz t ht).bind fun ι1 z z' hs hzz => ?_
  obtain ⟨rfl, hzr⟩ := hzz
  refine (Static.underlying t).sim.bind fun ι2 d d' hs2 e => ?_
  cases e
  have hp := (h.mono hs).mono hs2
  have hc := (hzr.mono hs2).cells
  cases d with
  | struct fields =>
    refine (Static.mapA (fun f => (Static.sizeOf f.type).bind fun _ => Static.pure _) fields).sim.bind fun ι3 pl pl' hs3 e => ?_
    cases e
    cases hf : Instr.fill (fun x => pl[x]?) z.cells ps.toList with
    | none => exact Sim.dead (Dead.stuck _)
    | some r =>
      obtain ⟨r', hr', hrr⟩ := fill_rel _ _ _ _ _ (hp.mono hs3) (hc.mono hs3) r hf
      rw [hr']
      exact Sim.pure hrr.agg
  | array len elem =>
    refine (Static.sizeOf elem).sim.bind fun ι3 n n' hs3 e => ?_
    cases e
    cases hf : Instr.fill (fun i => some (i * n, n)) z.cells ps.toList with
    | none => exact Sim.dead (Dead.stuck _)
    | some r =>
      obtain ⟨r', hr', hrr⟩ := fill_rel _ _ _ _ _ (hp.mono hs3) (hc.mono hs3) r hf
      rw [hr']
      exact Sim.pure hrr.agg
  | _ => exact Sim.dead (Dead.stuck _)

theorem ARel.same_of_map {f : Nat → Value} (l : Array Nat) (h : ∀ k, VRel ι (f k) (f k)) : ARel ι (l.map f) (l.map f) := by
  refine ⟨rfl, fun k hk => ?_⟩
  have hk' : k < l.size := by simpa using hk
  have e : (l.map f).getD k undf = f l[k] := by simp [hk']
  rw [e]; exact h _

theorem VRel.dflt : VRel ι (default : Value) default := .bool false

theorem zeroAt {cs cs' : Array Value} (hc : ARel ι cs cs') (i : Nat) : VRel ι cs[i]! cs'[i]! := by
  by_cases hi : i < cs.size
  · have h1 : cs[i]! = cs.getD i undf := by simp [hi]
    have h2 : cs'[i]! = cs'.getD i undf := by have := hc.1; simp [show i < cs'.size by omega]
    rw [h1, h2]; exact hc.2 i hi
  · have h1 : cs[i]! = default := by simp [show cs.size ≤ i by omega]
    have h2 : cs'[i]! = default := by have := hc.1; simp [show cs'.size ≤ i by omega]
    rw [h1, h2]; exact .dflt

theorem ARel.map2 {cs cs' : Array Value} (hc : ARel ι cs cs') (l : Array Nat) : ARel ι (l.map fun i => cs[i % cs.size]!) (l.map fun i => cs'[i % cs'.size]!) := by
  refine ⟨by simp, fun k hk => ?_⟩
  have hk' : k < l.size := by simpa using hk
  have e1 : (l.map fun i => cs[i % cs.size]!).getD k undf = cs[l[k] % cs.size]! := by simp [hk']
  have e2 : (l.map fun i => cs'[i % cs'.size]!).getD k undf = cs'[l[k] % cs'.size]! := by simp [hk']
  rw [e1, e2, ← hc.1]; exact zeroAt hc _

theorem Sim.buildSlice (hz : ZeroOk P) (t : TypeId) (ht : ∀ e, P.underlying t = some (.slice e) → e < P.types.size) (len : Nat) {ps ps' : Array (Nat × Value)} (h : PRel ι ps.toList ps'.toList) :
    Sim P ι VRel (Instr.buildSlice t len ps) (Instr.buildSlice t len ps') := by
  unfold Instr.buildSlice
  refine (Sim.underlying t).bind fun ι2 d d' hs2 e => ?_
  obtain ⟨rfl, hd⟩ := e
  have hp := h.mono hs2
  cases d with
  | slice elem =>
    refine (Static.sizeOf elem).sim.bind fun ι3 n n' hs3 e => ?_
    cases e
    dsimp only
    have hp := hp.mono hs3
    split
    · exact Sim.dead (Dead.first (Dead.unsupported _))
    · have key : ∀ (why : String) (ι4 : Inj) (z z' : Array Value), Sub ι3 ι4 → ARel ι4 z z' → Sim P ι4 VRel
          (do let some cells := Instr.fill (fun i => some (i * n, n)) ((Array.range (len * n)).map (z[· % z.size]!)) ps.toList
                | stuck why
              Pure.pure (Value.slice (some (← Go.newRow elem cells)) len len))
          (do let some cells := Instr.fill (fun i => some (i * n, n)) ((Array.range (len * n)).map (z'[· % z'.size]!)) ps'.toList
                | stuck why
              Pure.pure (Value.slice (some (← Go.newRow elem cells)) len len)) := by
        intro why ι4 z z' hs4 hzz
        cases hf : Instr.fill (fun i => some (i * n, n)) ((Array.range (len * n)).map (z[· % z.size]!)) ps.toList with
        | none => exact Sim.dead (Dead.stuck _)
        | some r =>
          obtain ⟨r', hr', hrr⟩ := fill_rel _ _ _ _ _ (hp.mono hs4) (hzz.map2 _) r hf
          rw [hr']
          refine (Sim.newRow elem hrr).bind fun ι5 a a' hs5 ha => Sim.pure ?_
          obtain ⟨i, h1, h2, h3, h4, h5⟩ := ha
          have := VRel.slice (l := len) (c := len) (c' := len) h1 (.inl rfl) (Nat.le_refl _)
          rw [h2] at this ⊢
          rw [h3]
          simpa [h4] using this
      split
      · exact key _ ι3 #[] #[] (Sub.refl _) ARel.nil
      · exact (Sim.zeroValue hz elem (ht elem hd)).bind fun ι4 z z' hs4 hzz => key _ ι4 z.cells z'.cells hs4 hzz.2.cells
  | _ => exact Sim.dead (Dead.stuck _)

end Go.Ev
