/-
  Regions whose order is drawn and that make channels: whatever the order, they come to the same but for the channels' names. Conditions: EnvOk; no code stands for other code.
-/
import Derived.Test.YtmokhbchncjcbaaTkN
namespace Go.Ev
open Go.Conc
set_option linter.unusedSectionVars false

/-! ### Values whose names lie below a bound -/
def lowV (N : Nat) : Nat → Value → Bool
  | 0, _ => false
  | f + 1, v => match v with
    | .bool _ | .int .. | .string _ | .pointer none | .slice none _ _ | .map none | .chan none | .nilFunc | .nilIface => true
    | .pointer (some a) => Nat.blt a.block N
    | .slice (some a) _ _ => Nat.blt a.block N
    | .map (some n) => Nat.blt n N
    | .complex .f32 n _ => Nat.blt n N
    | .func _ x y => x.toList.all (lowV N f) && y.toList.all (lowV N f)
    | .iface _ v => lowV N f v
    | .agg x | .tuple x => x.toList.all (lowV N f)
    | _ => false
section
variable [Syms] {ι ι' : Inj} {N : Nat}
theorem low_arr {f : Nat} {xs ys : Array Value} (ih : ∀ v v', lowV N f v = true → VRel ι v v' → VRel ι' v v') (h : xs.toList.all (lowV N f) = true) (hr : ∀ k, k < xs.size → VRel ι (xs.getD k undf) (ys.getD k undf)) : ∀ k, k < xs.size → VRel ι' (xs.getD k undf) (ys.getD k undf) := fun k hk => by
  rw [List.all_eq_true] at h
  refine ih _ _ (h _ ?_) (hr k hk)
  simp [hk]
theorem lowV_ok (hs : ∀ n, n < N → ι' n = ι n) : ∀ (f : Nat) (v v' : Value), lowV N f v = true → VRel ι v v' → VRel ι' v v'
  | 0, v, v', h, _ => by simp [lowV] at h
  | f + 1, v, v', h, r => by
    have ih := lowV_ok hs f
    have lt : ∀ {n : Nat} {i : Info}, Nat.blt n N = true → ι n = some i → ι' n = some i := fun {n i} hn hi => by
      rw [hs n (by simpa [Nat.blt_eq] using hn)]; exact hi
    cases r with
    | bool b => exact .bool b
    | int k n => exact .int k n
    | string s => exact .string s
    | nilPtr => exact .nilPtr
    | ptr hi => exact .ptr (lt h hi)
    | nilSlice l c => exact .nilSlice l c
    | slice hi h1 h2 => exact .slice (lt h hi) h1 h2
    | emptySlice a a' => exact .emptySlice a a'
    | nilMap => exact .nilMap
    | map hi => exact .map (lt h hi)
    | nilChan => exact .nilChan
    | chn hi ho => exact .chn (lt h hi) ho
    | nilFunc => exact .nilFunc
    | func fn h1 h2 h3 h4 =>
      simp only [lowV, Bool.and_eq_true] at h
      exact .func fn h1 (low_arr ih h.1 h2) h3 (low_arr ih h.2 h4)
    | nilIface => exact .nilIface
    | iface t hv => exact .iface t (ih _ _ (by simpa [lowV] using h) hv)
    | agg h1 h2 => exact .agg h1 (low_arr ih (by simpa [lowV] using h) h2)
    | tuple h1 h2 => exact .tuple h1 (low_arr ih (by simpa [lowV] using h) h2)
    | sym hv => simp [lowV] at h
    | inp hv => simp [lowV] at h
    | ownS h1 => simp [lowV] at h
    | ownP h1 => simp [lowV] at h
/-- All of a trie's values. -/
def oall {α : Type} (p : α → Bool) : Option α → Bool
  | some x => p x
  | none => true
noncomputable def tall {α : Type} (p : α → Bool) (t : T α) : Bool :=
  T.rec (motive := fun _ => Bool) true (fun v _ _ fl fr => oall p v && (fl && fr)) t
theorem tall_get {α : Type} {p : α → Bool} : ∀ {t : T α}, tall p t = true → ∀ {n : Nat} {v : α}, t.get n = some v → p v = true := by
  intro t
  induction t with
  | leaf => intro _ n v h; rw [T.get_leaf] at h; simp at h
  | node x l r il ir =>
    intro h n v hg
    have h : (oall p x && (tall p l && tall p r)) = true := h
    rw [Bool.and_eq_true, Bool.and_eq_true] at h
    rw [T.get_node] at hg
    split at hg
    · subst hg; exact h.1
    · split at hg
      · exact il h.2.1 hg
      · exact ir h.2.2 hg
/-- Two tries, value by value. -/
def opair (p : Value → Value → Bool) : Option Value → Option Value → Bool
  | some x, some y => p x y
  | none, none => true
  | _, _ => false
noncomputable def tpair (p : Value → Value → Bool) (t : T Value) : T Value → Bool :=
  T.rec (motive := fun _ => T Value → Bool) (fun u => match u with | .leaf => true | _ => false) (fun v _ _ fl fr u => match u with | .leaf => false | .node v' l' r' => opair p v v' && (fl l' && fr r')) t
theorem tpair_get {p : Value → Value → Bool} : ∀ {t u : T Value}, tpair p t u = true → ∀ n, (t.get n = none ∧ u.get n = none) ∨ ∃ a b, t.get n = some a ∧ u.get n = some b ∧ p a b = true := by
  intro t
  induction t with
  | leaf => intro u h n; cases u with
    | leaf => exact .inl ⟨T.get_leaf n, T.get_leaf n⟩
    | node v l r => simp [tpair] at h
  | node v l r il ir => intro u h n; cases u with
    | leaf => simp [tpair] at h
    | node v' l' r' =>
      have h : (opair p v v' && (tpair p l l' && tpair p r r')) = true := h
      rw [Bool.and_eq_true, Bool.and_eq_true] at h
      rw [T.get_node, T.get_node]
      by_cases e : n = 0
      · rw [if_pos e, if_pos e]
        have h1 := h.1
        cases v with
        | none => cases v' with
          | none => exact .inl ⟨rfl, rfl⟩
          | some y => simp [opair] at h1
        | some x => cases v' with
          | none => simp [opair] at h1
          | some y => exact .inr ⟨x, y, rfl, rfl, h1⟩
      · rw [if_neg e, if_neg e]
        by_cases e2 : n % 2 = 1
        · rw [if_pos e2, if_pos e2]; exact il h.2.1 _
        · rw [if_neg e2, if_neg e2]; exact ir h.2.2 _
end

/-! ### Names change among themselves -/
def permI (ι : Inj) (N : Nat) (pm : List Nat) : Inj := fun n => if N ≤ n ∧ n < N + pm.length then ι (N + pm.getD (n - N) 0) else ι n
def pairV (N : Nat) (pm : List Nat) (a b : Value) : Bool := match chanN a, chanN b with
  | some n, some n' => cond (Nat.ble N n) (Nat.blt (n - N) pm.length && Nat.ble N n' && Nat.beq (pm.getD (n - N) 0) (n' - N)) (Nat.beq n n')
  | none, none => veq a b && lowV N 64 a
  | _, _ => false
theorem chanN_eq {v : Value} {n : Nat} (h : chanN v = some n) : v = .complex .f32 n 0 := by
  unfold chanN at h
  split at h
  · simp only [Option.some.injEq] at h; subst h; rfl
  · simp at h
section
variable [Syms] {ι : Inj} {N : Nat} {pm : List Nat}
theorem permI_low {n : Nat} (h : n < N) : permI ι N pm n = ι n := by
  unfold permI
  rw [if_neg (by omega)]
theorem pairV_ok {a b v' : Value} (h : pairV N pm a b = true) (hv : VRel ι b v') : VRel (permI ι N pm) a v' := by
  unfold pairV at h
  split at h
  · rename_i n n' h1 h2
    rw [chanN_eq h1]
    rw [chanN_eq h2] at hv
    cases hb : Nat.ble N n with
    | true =>
      rw [hb, cond_true] at h
      simp only [Bool.and_eq_true] at h
      obtain ⟨⟨p1, p2⟩, p3⟩ := h
      have q0 : N ≤ n := Nat.le_of_ble_eq_true hb
      have q1 : n - N < pm.length := by simpa [Nat.blt_eq] using p1
      have q2 : N ≤ n' := Nat.le_of_ble_eq_true p2
      have q3 : pm.getD (n - N) 0 = n' - N := Nat.eq_of_beq_eq_true p3
      cases hv with
      | chn hi ho =>
        refine .chn ?_ ho
        unfold permI
        rw [if_pos ⟨q0, by omega⟩, q3, show N + (n' - N) = n' by omega]
        exact hi
    | false =>
      rw [hb, cond_false] at h
      have e : n = n' := Nat.eq_of_beq_eq_true h
      subst e
      have hlt : n < N := by
        rcases Nat.lt_or_ge n N with h | h
        · exact h
        · rw [Nat.ble_eq_true_of_le h] at hb; simp at hb
      cases hv with
      | chn hi ho => exact .chn (by rw [permI_low hlt]; exact hi) ho
  · rw [Bool.and_eq_true] at h
    have := veq_ok h.1
    subst this
    exact lowV_ok (fun n hn => permI_low hn) 64 _ _ h.2 hv
  · simp at h
/-- The frame in which the order shows, and the one of the text's order. -/
noncomputable def pairA (N : Nat) (pm : List Nat) (A B : Fr) : Bool := Nat.beq A.size B.size && (!A.opn && !B.opn && tpair (pairV N pm) A.m B.m)
theorem pairA_ok {A B : Fr} {a : Array Value} (h : pairA N pm A B = true) (hB : FRel ι B a) : FRel (permI ι N pm) A a := by
  unfold pairA at h
  simp only [Bool.and_eq_true, Bool.not_eq_true'] at h
  obtain ⟨h1, ⟨h2, h3⟩, h4⟩ := h
  refine ⟨by rw [hB.1]; exact (Nat.eq_of_beq_eq_true h1).symm, fun t => .inr ?_⟩
  have hv := (hB.2 t).known (.inl h3)
  unfold Fr.get at hv ⊢
  rcases tpair_get h4 t with ⟨e1, e2⟩ | ⟨x, y, e1, e2, e3⟩
  · rw [e1]
    rw [e2] at hv
    exact lowV_ok (N := N) (fun n hn => permI_low hn) 64 _ _ rfl hv
  · rw [e1]
    rw [e2] at hv
    exact pairV_ok e3 hv
def lowD (N : Nat) (d : ADef) : Bool := d.args.toList.all (lowV N 64)
def lowM (N : Nat) : AMode → Bool
  | .panicking c => c.all fun p => lowV N 64 p.1
  | _ => true
noncomputable def lowF (N : Nat) (f : AFrame) : Bool := !f.A.opn && tall (lowV N 64) f.A.m && f.defers.all (lowD N) && lowM N f.mode
variable {ι' : Inj} {P : Program}
theorem lowDs (hs : ∀ n, n < N → ι' n = ι n) : ∀ {ds : List ADef} {Ds : List Deferred}, ds.all (lowD N) = true → DsRel ι ds Ds → DsRel ι' ds Ds
  | [], [], _, _ => trivial
  | d :: ds, D :: Ds, h, r => by
    simp only [List.all_cons, Bool.and_eq_true] at h
    obtain ⟨args, cap, e, ha⟩ := r.1
    exact ⟨⟨args, cap, e, ha.1, low_arr (fun v v' hl hv => lowV_ok hs 64 v v' hl hv) h.1 ha.2⟩, lowDs hs h.2 r.2⟩
  | [], _ :: _, _, r => r.elim
  | _ :: _, [], _, r => r.elim
theorem lowCh (hs : ∀ n, n < N → ι' n = ι n) : ∀ {c : List (Value × Bool)} {C : List PanicEntry}, (c.all fun p => lowV N 64 p.1) = true → ChRel ι c C → ChRel ι' c C
  | [], [], _, _ => trivial
  | p :: ps, e :: es, h, r => by
    simp only [List.all_cons, Bool.and_eq_true] at h
    exact ⟨⟨lowV_ok hs 64 _ _ h.1 r.1.1, r.1.2⟩, lowCh hs h.2 r.2⟩
  | [], _ :: _, _, r => r.elim
  | _ :: _, [], _, r => r.elim
theorem lowMd (hs : ∀ n, n < N → ι' n = ι n) {m : AMode} {M : FrameMode} (h : lowM N m = true) (r : MdRel ι m M) : MdRel ι' m M := by
  cases m <;> cases M <;> first | exact r | exact lowCh hs h r
theorem lowF_ok (hs : ∀ n, n < N → ι' n = ι n) {f : AFrame} {fr : Frame} (h : lowF N f = true) (r : FrmRel P ι f fr) : FrmRel P ι' f fr := by
  unfold lowF at h
  simp only [Bool.and_eq_true, Bool.not_eq_true'] at h
  obtain ⟨⟨⟨h1, h2⟩, h3⟩, h4⟩ := h
  refine ⟨r.fn, r.todo, r.kind, r.round, r.opn, ⟨r.A.1, fun t => .inr ?_⟩, lowDs hs h3 r.defers, lowMd hs h4 r.mode, r.fine⟩
  have hv := (r.A.2 t).known (.inl h1)
  refine lowV_ok hs 64 _ _ ?_ hv
  unfold Fr.get
  cases e : f.A.m.get t with
  | none => rfl
  | some x => exact tall_get h2 e
theorem lowFs (hs : ∀ n, n < N → ι' n = ι n) : ∀ {fs : List AFrame} {frs : List Frame}, fs.all (lowF N) = true → FsRel P ι fs frs → FsRel P ι' fs frs
  | [], [], _, _ => trivial
  | f :: fs, fr :: frs, h, r => by
    simp only [List.all_cons, Bool.and_eq_true] at h
    exact ⟨lowF_ok hs h.1 r.1, lowFs hs h.2 r.2⟩
  | [], _ :: _, _, r => r.elim
  | _ :: _, [], _, r => r.elim
theorem grel_perm {f : AFrame} {cs : List AFrame} {A B : Fr} {a : Goroutine} (hp : pairA N pm A B = true) (hd : f.defers.all (lowD N) = true) (hm : lowM N f.mode = true) (hc : cs.all (lowF N) = true) (h : GRel P ι ({ f with A := B }, cs) a) : GRel P (permI ι N pm) ({ f with A := A }, cs) a := by
  have hs : ∀ n, n < N → permI ι N pm n = ι n := fun n hn => permI_low hn
  have hF := h.frame
  have hop : A.opn = false := by
    unfold pairA at hp
    simp only [Bool.and_eq_true, Bool.not_eq_true'] at hp
    exact hp.2.1.1
  exact ⟨h.status, h.dying, ⟨hF.fn, hF.todo, hF.kind, hF.round, hop, pairA_ok hp hF.A, lowDs hs hd hF.defers, lowMd hs hm hF.mode, hF.fine⟩, lowFs hs hc h.callers⟩
/-! ### The channels that are made -/
noncomputable def newC (H : Heap) : Nat → Heap
  | 0 => H
  | c + 1 => (newC H c).new (.chan 0 0 false)
theorem newC_next (H : Heap) : ∀ c, (newC H c).next = H.next + c ∧ (newC H c).base = H.base ∧ (newC H c).hole = H.hole
  | 0 => ⟨rfl, rfl, rfl⟩
  | c + 1 => by
    obtain ⟨h1, h2, h3⟩ := newC_next H c
    refine ⟨?_, h2, h3⟩
    show (newC H c).next + 1 = _
    omega
theorem newC_get (H : Heap) : ∀ (c n : Nat), (newC H c).get n = if H.next ≤ n ∧ n < H.next + c then some (.chan 0 0 false) else H.get n
  | 0, n => by rw [if_neg (by omega)]; rfl
  | c + 1, n => by
    show ((newC H c).new (.chan 0 0 false)).get n = _
    rw [Heap.get_new, (newC_next H c).1, newC_get H c n]
    by_cases e : n = H.next + c
    · rw [if_pos e, if_pos (by omega)]
    · rw [if_neg e]
      by_cases e2 : H.next ≤ n ∧ n < H.next + c
      · rw [if_pos e2, if_pos (by omega)]
      · rw [if_neg e2, if_neg (by omega)]
noncomputable def blkLow (N : Nat) : Blk → Bool
  | .cells c => tall (lowV N 64) c.m && lowV N 64 c.dflt
  | .chan .. | .arr _ => true
  | _ => false
noncomputable def heapLow (N : Nat) (H : Heap) : Bool := tall (blkLow N) H.m
theorem blkLow_ok (hs : ∀ n, n < N → ι' n = ι n) {b : Blk} (h : blkLow N b = true) {i : Info} {o : Obj} (r : BRel ι i o b) : BRel ι' i o b := by
  cases b with
  | cells c =>
    simp only [blkLow, Bool.and_eq_true] at h
    obtain ⟨h1, cs, h2, h3, h4, h5⟩ := r
    refine ⟨h1, cs, h2, h3, h4, fun k hk => lowV_ok hs 64 _ _ ?_ (h5 k hk)⟩
    unfold Cells.get
    cases e : c.m.get k with
    | none => exact h.2
    | some x => exact tall_get h.1 e
  | chan room k cl => exact r
  | arr x => exact r
  | _ => simp [blkLow] at h
/-- Each place once. -/
def permOk (pm : List Nat) : Bool := distinctN pm && pm.all fun p => Nat.blt p pm.length
theorem rel_perm {H : Heap} {w : World} (hp : permOk pm = true) (hlo : heapLow H.next H = true) (hh : H.hole = []) (hb : H.base ≤ H.next) (hw : Rel P ι (newC H pm.length) w) : Rel P (permI ι H.next pm) (newC H pm.length) w := by
  unfold permOk at hp
  rw [Bool.and_eq_true, List.all_eq_true] at hp
  have hnd := distinctN_ok hp.1
  obtain ⟨e1, e2, e3⟩ := newC_next H pm.length
  have hlt : ∀ p, p < pm.length → pm.getD p 0 < pm.length := fun p hpl => by
    have := hp.2 (pm.getD p 0) (by rw [List.getD_eq_getElem?_getD, List.getElem?_eq_getElem hpl]; exact List.getElem_mem hpl)
    simpa [Nat.blt_eq] using this
  have hinj : ∀ p p', p < pm.length → p' < pm.length → pm.getD p 0 = pm.getD p' 0 → p = p' := fun p p' h h' e => by
    rw [List.getD_eq_getElem?_getD, List.getD_eq_getElem?_getD, List.getElem?_eq_getElem h, List.getElem?_eq_getElem h'] at e
    exact (List.getElem_inj (hnd)).1 e
  have hρ : ∀ n, ∃ n', permI ι H.next pm n = ι n' ∧ (newC H pm.length).get n' = (newC H pm.length).get n ∧ (H.next ≤ n → H.next ≤ n') ∧ (n < H.next → n' = n) ∧ (H.next + pm.length ≤ n → n' = n) ∧ (H.next ≤ n ∧ n < H.next + pm.length → n' = H.next + pm.getD (n - H.next) 0) ∧ (¬ (H.next ≤ n ∧ n < H.next + pm.length) → n' = n) := fun n => by
    unfold permI
    by_cases e : H.next ≤ n ∧ n < H.next + pm.length
    · rw [if_pos e]
      have := hlt (n - H.next) (by omega)
      refine ⟨_, rfl, ?_, fun _ => by omega, fun h => by omega, fun h => by omega, fun _ => rfl, fun h => absurd e h⟩
      rw [newC_get, newC_get, if_pos ⟨by omega, by omega⟩, if_pos e]
    · rw [if_neg e]
      exact ⟨n, rfl, rfl, id, fun _ => rfl, fun _ => rfl, fun h => absurd h e, fun _ => rfl⟩
  refine ⟨hw.glb, hw.gsize, fun g hg => ?_, fun n i hi hbn => ?_, hw.next, hw.room, fun n hn => ?_, fun n hn => ?_, fun n i hi => ?_, fun n b hn => ?_, fun n m b c i j hn hm hi hj e => ?_⟩
  · rw [permI_low (by rw [e2] at hg; omega)]
    exact hw.glob g hg
  · obtain ⟨n', q1, _, q3, q4, _, _, _⟩ := hρ n
    rw [q1] at hi
    refine hw.over n' i hi ?_
    rw [e2] at hbn ⊢
    rcases Nat.lt_or_ge n H.next with h | h
    · rw [q4 h]; exact hbn
    · have := q3 h; omega
  · obtain ⟨n', q1, _, _, _, q5, _, _⟩ := hρ n
    rw [e1] at hn
    rw [q1, q5 hn]
    exact hw.fresh n (by rw [e1]; exact hn)
  · rw [e3, hh] at hn; simp at hn
  · obtain ⟨n', q1, _⟩ := hρ n
    rw [q1] at hi
    exact hw.below n' i hi
  · obtain ⟨n', q1, q2, q3, q4, q5, q6, q7⟩ := hρ n
    rw [← q2] at hn
    obtain ⟨i, o, h1, h2, h3⟩ := hw.live n' b hn
    refine ⟨i, o, by rw [q1]; exact h1, h2, ?_⟩
    have hlb : blkLow H.next b = true := by
      rw [newC_get] at hn
      split at hn
      · simp only [Option.some.injEq] at hn; subst hn; rfl
      · exact tall_get hlo hn
    exact blkLow_ok (fun n hn => permI_low hn) hlb h3
  · obtain ⟨n', q1, q2, q3, q4, q5, q6, q7⟩ := hρ n
    obtain ⟨m', r1, r2, r3, r4, r5, r6, r7⟩ := hρ m
    rw [q1] at hi
    rw [r1] at hj
    rw [← q2] at hn
    rw [← r2] at hm
    have e' := hw.inj n' m' b c i j hn hm hi hj e
    by_cases h1 : H.next ≤ n ∧ n < H.next + pm.length
    · by_cases h2 : H.next ≤ m ∧ m < H.next + pm.length
      · have f1 := q6 h1
        have f2 := r6 h2
        have := hinj (n - H.next) (m - H.next) (by omega) (by omega) (by omega)
        omega
      · have f1 := q6 h1
        have := hlt (n - H.next) (by omega)
        have f2 := r7 h2
        omega
    · have f1 := q7 h1
      by_cases h2 : H.next ≤ m ∧ m < H.next + pm.length
      · have f2 := r6 h2
        have := hlt (m - H.next) (by omega)
        omega
      · have f2 := r7 h2
        omega
theorem agree_perm : Agree N ι (permI ι N pm) := by
  refine ⟨fun n hn => permI_low hn, fun n i hi hn => ?_⟩
  unfold permI at hi
  split at hi
  · exact ⟨_, by omega, hi⟩
  · exact ⟨n, hn, hi⟩
end

/-! ### Such a region -/
section
variable [Syms] {P : Program} [NoFloat P] {ft : Nat → Option Func}
/-- A reader, or a channel that is made. -/
noncomputable def mkA (P : Program) [NoFloat P] (ft : Nat → Option Func) (f : AFrame) (H : Heap) : Option (AFrame × Bool) := match readA P ft f H with
  | some f' => some (f', false)
  | none => match f.todo with
    | .inRegion ops (i :: _) :: _ => match ops[i]? with
      | some o => cond (Region.wanted o (yieldA ops f.A)) (match o.op with
        | .makeChan t s => cond (makes P t (opv f.A.get s)) (match aexecN P ft f.A.get o H with
          | none => (finA f (.complex .f32 H.next 0)).map fun f' => (f', true)
          | some _ => none) none
        | _ => none) none
      | none => none
    | _ => none
theorem mkA_step {f f' : AFrame} {cs : List AFrame} {H : Heap} {b : Bool} (hm : f.mode = .run) (h : mkA P ft f H = some (f', b)) : stepA P ft (f, cs) H = some ((f', cs), cond b (H.new (.chan 0 0 false)) H) := by
  unfold mkA at h
  cases hr : readA P ft f H with
  | some f1 =>
    rw [hr] at h
    simp only [Option.some.injEq, Prod.mk.injEq] at h
    obtain ⟨rfl, rfl⟩ := h
    exact readA_step hm hr
  | none =>
    rw [hr] at h
    dsimp only at h
    split at h
    · rename_i ops i r k ht
      split at h
      · rename_i o ho
        cases hw : Region.wanted o (yieldA ops f.A) with
        | false => rw [hw] at h; simp at h
        | true =>
          rw [hw, cond_true] at h
          split at h
          · rename_i t s hop
            cases hmk : makes P t (opv f.A.get s) with
            | false => rw [hmk] at h; simp at h
            | true =>
              rw [hmk, cond_true] at h
              cases hx : aexecN P ft f.A.get o H with
              | some q => rw [hx] at h; simp at h
              | none =>
                rw [hx] at h
                cases hf : finA f (.complex .f32 H.next 0) with
                | none => rw [hf] at h; simp at h
                | some f1 =>
                  rw [hf] at h
                  simp only [Option.map_some, Option.some.injEq, Prod.mk.injEq] at h
                  obtain ⟨rfl, rfl⟩ := h
                  have htk : tkOp o = true := by simp [tkOp, hop]
                  simp only [stepA, hm, runA, ht, ho, hw, cond_true, operA, htk, hx, hop, hmk, hf]
          · simp at h
      · simp at h
    · simp at h
theorem mkA_eq {f f' : AFrame} {H : Heap} {b : Bool} {ops : Array Oper} {σ : List Nat} {k : List Item} (ht : f.todo = .inRegion ops σ :: k) (h : mkA P ft f H = some (f', b)) : f' = { f with A := f'.A, todo := .inRegion ops (σ.drop 1) :: k } := by
  unfold mkA at h
  cases hr : readA P ft f H with
  | some f1 =>
    rw [hr] at h
    simp only [Option.some.injEq, Prod.mk.injEq] at h
    obtain ⟨rfl, rfl⟩ := h
    exact readA_eq ht hr
  | none =>
    rw [hr] at h
    rw [ht] at h
    cases σ with
    | nil => simp at h
    | cons i r =>
      simp only at h
      split at h
      · rename_i o ho
        cases hw : Region.wanted o (yieldA ops f.A) with
        | false => rw [hw] at h; simp at h
        | true =>
          rw [hw, cond_true] at h
          split at h
          · rename_i t s hop
            cases hmk : makes P t (opv f.A.get s) with
            | false => rw [hmk] at h; simp at h
            | true =>
              rw [hmk, cond_true] at h
              split at h
              · cases hf : finA f (.complex .f32 H.next 0) with
                | none => rw [hf] at h; simp at h
                | some f1 =>
                  rw [hf] at h
                  simp only [Option.map_some, Option.some.injEq, Prod.mk.injEq] at h
                  obtain ⟨rfl, rfl⟩ := h
                  exact finA_eq ht hf
              · simp at h
          · simp at h
      · simp at h
noncomputable def mksA (P : Program) [NoFloat P] (ft : Nat → Option Func) (H : Heap) : Nat → AFrame → Nat → Option (AFrame × Nat)
  | 0, f, c => some (f, c)
  | n + 1, f, c => match mkA P ft f (newC H c) with
    | some (f', b) => mksA P ft H n f' (cond b (c + 1) c)
    | none => none
theorem mksA_ok {H : Heap} : ∀ (n : Nat) (f f' : AFrame) (c c' : Nat) (ops : Array Oper) (σ : List Nat) (k : List Item) (cs : List AFrame), f.mode = .run → f.todo = .inRegion ops σ :: k → mksA P ft H n f c = some (f', c') →
    stepsA P ft n (f, cs) (newC H c) = some ((f', cs), newC H c') ∧ f' = { f with A := f'.A, todo := .inRegion ops (σ.drop n) :: k }
  | 0, f, f', c, c', ops, σ, k, cs, hm, ht, h => by
    simp only [mksA, Option.some.injEq, Prod.mk.injEq] at h
    obtain ⟨rfl, rfl⟩ := h
    exact ⟨rfl, by rw [List.drop_zero, ← ht]⟩
  | n + 1, f, f', c, c', ops, σ, k, cs, hm, ht, h => by
    simp only [mksA] at h
    cases h1 : mkA P ft f (newC H c) with
    | none => rw [h1] at h; simp at h
    | some q =>
      obtain ⟨f1, b⟩ := q
      rw [h1] at h
      have e1 := mkA_eq ht h1
      have st := mkA_step (cs := cs) hm h1
      have eH : cond b ((newC H c).new (.chan 0 0 false)) (newC H c) = newC H (cond b (c + 1) c) := by cases b <;> rfl
      rw [eH] at st
      obtain ⟨i1, i2⟩ := mksA_ok n f1 f' _ c' ops (σ.drop 1) k cs (by rw [e1]; exact hm) (by rw [e1]) h
      refine ⟨?_, ?_⟩
      · simp only [stepsA, st]
        exact i1
      · rw [i2, e1]
        simp
/-- In which row an order makes what the text makes in its row. -/
def isMk (ops : Array Oper) (i : Nat) : Bool := match ops[i]? with
  | some o => (match o.op with | .makeChan .. => true | _ => false)
  | none => false
def findN : List Nat → Nat → Nat → Nat
  | [], _, _ => 0
  | x :: l, i, p => cond (Nat.beq x i) p (findN l i (p + 1))
def permOf (ops : Array Oper) (n : Nat) (σ : List Nat) : List Nat := ((List.range ops.size).filter (isMk ops)).map fun i => findN ((σ.take n).filter (isMk ops)) i 0
/-- All orders come to the same, but for the channels' names. -/
noncomputable def chansJ (P : Program) [NoFloat P] (ft : Nat → Option Func) (H : Heap) (f : AFrame) (cs : List AFrame) (ops : Array Oper) (k : List Item) (n m : Nat) (tail : List Nat) (A : Fr) : Bool :=
  (ordersOf ops).all (fun σ => decide (σ.drop n = tail) && Nat.beq (permOf ops n σ).length m && permOk (permOf ops n σ) && (match mksA P ft H n { f with todo := .inRegion ops σ :: k } 0 with
    | some (x, c) => Nat.beq c m && pairA H.next (permOf ops n σ) A x.A
    | none => false)) && (f.defers.all (lowD H.next) && lowM H.next f.mode && cs.all (lowF H.next) && heapLow H.next H && H.hole.isEmpty)
theorem moves_chans (hE : @EnvOk noMarks P ft) {M n m : Nat} {tail : List Nat} {A : Fr} {f : AFrame} {cs : List AFrame} {H : Heap} {id : Nat} {ops : Array Oper} {k : List Item} (hM : H.next + m ≤ M)
    (hm : f.mode = .run) (ht : f.todo = .code (.region id ops true) :: k) (hj : chansJ P ft H f cs ops k n m tail A = true) : Moves P M (f, cs) H ({ f with A := A, todo := .inRegion ops tail :: k }, cs) (newC H m) := by
  unfold chansJ at hj
  simp only [Bool.and_eq_true, List.all_eq_true] at hj
  obtain ⟨hj, ⟨⟨⟨hd, hmd⟩, hcs⟩, hlo⟩, hho⟩ := hj
  intro main
  refine ⟨n + 1, fun Inv D hD hP Stop ι a w hw hg hi hS => goes_draw hE hD (by omega) hm ht hw hg hi fun σ hσ a' w' hw' hg' hi' => ?_⟩
  obtain ⟨⟨⟨h1, h2⟩, h3⟩, h4⟩ := hj σ hσ
  split at h4
  · rename_i x c hx
    rw [Bool.and_eq_true] at h4
    have ec : c = m := Nat.eq_of_beq_eq_true h4.1
    subst ec
    have el : (permOf ops n σ).length = c := Nat.eq_of_beq_eq_true h2
    have et : σ.drop n = tail := of_decide_eq_true h1
    obtain ⟨i1, i2⟩ := mksA_ok n { f with todo := .inRegion ops σ :: k } x 0 c ops σ k cs hm rfl hx
    refine goes_steps hE hD n _ H _ (newC H c) i1 (by rw [(newC_next H c).1]; exact hM) ι a' w' hw' hg' hi' fun ι2 a2 w2 s2 r2 g2 v2 => ?_
    have hb : H.base ≤ H.next := hw.next
    rw [← el] at r2
    have r3 := rel_perm h3 hlo (by simpa using hho) hb r2
    rw [el] at r3
    refine hS (permI ι2 H.next (permOf ops n σ)) a2 w2 (fun n i hni => ?_) r3 ?_ (hP H.next ι2 _ _ w2 (Nat.le_refl _) v2 agree_perm)
    · have hlt : n < H.next := by
        rcases Nat.lt_or_ge n H.next with h | h
        · exact h
        · rw [hw.fresh n h] at hni; cases hni
      rw [permI_low hlt]
      exact s2 n i hni
    · have g3 : GRel P ι2 ({ ({ f with todo := .inRegion ops tail :: k } : AFrame) with A := x.A }, cs) a2 := by
        have : x = { ({ f with todo := .inRegion ops tail :: k } : AFrame) with A := x.A } := by
          conv => lhs; rw [i2]
          rw [et]
        rw [← this]; exact g2
      exact grel_perm (f := { f with todo := .inRegion ops tail :: k }) h4.2 (by rw [List.all_eq_true]; exact hd) hmd (by rw [List.all_eq_true]; exact hcs) g3
  · simp at h4
end
end Go.Ev
