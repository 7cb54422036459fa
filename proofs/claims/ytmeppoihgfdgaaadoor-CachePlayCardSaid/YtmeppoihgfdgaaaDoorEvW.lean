/-
  The evaluator: regions that draw their order and make cells in any order; all of it. Conditions: EnvOk.
-/
import Derived.Test.YtmeppoihgfdgaaaDoorEvKa
namespace Go.Ev
set_option linter.unusedSectionVars false      -- the symbols' class stands for all texts
variable [Syms] {P : Program} [NoFloat P] [Marks] [Orc P] [Lps P] {ft : Nat → Option Func} {ih : Runner}

/-! ### Regions in which cells are made in any order -/
def loose (o : Oper) : Bool := match o.op with | .makeSlice .. => true | _ => false
def looseAt (ops : Array Oper) (k : Nat) : Bool := ((ops[k]?).map loose).getD false
def ordAt (ops : Array Oper) (k : Nat) : Bool := !readerAt ops k && !looseAt ops k
theorem loose_not_reader {o : Oper} (h : loose o = true) : reader o = false := by
  unfold loose at h
  unfold reader
  cases ho : o.op <;> rw [ho] at h <;> simp at h ⊢
/-- Who makes cells waits for all that do else, and they for it. -/
def stLo (ms : List Nat) : List Oper → Nat → Nat → Nat → Bool
  | [], _, _, _ => true
  | o :: l, i, lo, od => (reader o || (if loose o then subM od (ms.getD i 0) else subM (lo ||| od) (ms.getD i 0))) &&
    stLo ms l (i + 1) (if loose o then lo ||| 2 ^ i else lo) (if reader o || loose o then od else od ||| 2 ^ i)
theorem stLo_ok {ops : Array Oper} {ms : List Nat} : ∀ (l : List Oper) (i lo od : Nat), (∀ j, l[j]? = ops[i + j]?) → stLo ms l i lo od = true →
    (∀ k x, k < i → ops[k]? = some x → (loose x = true → lo.testBit k = true) ∧ (reader x = false → loose x = false → od.testBit k = true)) →
    ∀ k j x y, k < j → i ≤ j → ops[k]? = some x → ops[j]? = some y → reader x = false → reader y = false → (loose x && loose y) = false → pr ms k j = true
  | [], i, lo, od, hl, h, hi => by
    intro k j x y _ hj _ hy
    have := hl (j - i)
    rw [show i + (j - i) = j by omega, hy] at this
    simp at this
  | o :: l, i, lo, od, hl, h, hi => by
    have ho : ops[i]? = some o := by have := hl 0; simpa using this.symm
    simp only [stLo, Bool.and_eq_true] at h
    obtain ⟨h1, h2⟩ := h
    have hr := stLo_ok l (i + 1) _ _ (fun j => by
      have := hl (j + 1)
      simp only [List.getElem?_cons_succ] at this
      rw [this, show i + (j + 1) = i + 1 + j by omega]) h2 (fun k x hk hx => by
      rcases Nat.lt_or_ge k i with hki | hki
      · obtain ⟨a1, a2⟩ := hi k x hki hx
        refine ⟨fun hq => ?_, fun hq hq2 => ?_⟩
        · split
          · rw [Nat.testBit_or, a1 hq]; rfl
          · exact a1 hq
        · split
          · exact a2 hq hq2
          · rw [Nat.testBit_or, a2 hq hq2]; rfl
      · have hki : k = i := by omega
        subst hki
        rw [ho] at hx
        cases hx
        refine ⟨fun hq => ?_, fun hq hq2 => ?_⟩
        · rw [if_pos hq, Nat.testBit_or, Nat.testBit_two_pow]; simp
        · rw [if_neg (by simp [hq, hq2]), Nat.testBit_or, Nat.testBit_two_pow]; simp)
    intro k j x y hkj hj hx hy hrx hry hlo
    rcases Nat.lt_or_ge i j with hij | hij
    · exact hr k j x y hkj (by omega) hx hy hrx hry hlo
    · have hji : j = i := by omega
      subst hji
      rw [ho] at hy
      cases hy
      obtain ⟨a1, a2⟩ := hi k x hkj hx
      rw [hry, Bool.false_or] at h1
      cases hlo2 : loose o with
      | true =>
        rw [hlo2] at h1 hlo
        rw [Bool.and_true] at hlo
        rw [if_pos rfl] at h1
        exact subM_bit h1 (a2 hrx hlo)
      | false =>
        rw [hlo2, if_neg (by simp)] at h1
        refine subM_bit h1 ?_
        rw [Nat.testBit_or]
        cases hlx : loose x with
        | true => rw [a1 hlx]; rfl
        | false => rw [a2 hrx hlx, Bool.or_true]

structure Plan2 (P : Program) [Orc P] (ft : Nat → Option Func) (ih : Runner) (ops : Array Oper) (ms : List Nat) (FA : Nat → Fr) (FH : Nat → Heap) (val : Nat → Value) (wt : Nat → Bool) : Prop where
  just : Just ops.toList ms
  low : ∀ (i : Nat) (o : Oper), ops[i]? = some o → ∀ e ∈ o.after, Region.binds .any e = true → e.on < i
  dist : Distinct ops
  data : ∀ (i : Nat) (o : Oper) (k : Nat) (t : Tmp), ops[i]? = some o → k < ops.size → dstOf ops k = some t → t ∈ o.looksAt ops → (k < i → pr ms k i = true) ∧ (i < k → pr ms i k = true)
  eff : ∀ i k, i < ops.size → k < ops.size → readerAt ops i = false → readerAt ops k = false → (looseAt ops i && looseAt ops k) = false → k < i → pr ms k i = true
  tr : Tr P ft ih ops ops.toList FA FH val wt
  rd : ∀ (i : Nat) (o : Oper), ops[i]? = some o → reader o = true → wt i = true → pexec P (FA i).get o = some (val i)
  nw : ∀ (i : Nat) (o : Oper), ops[i]? = some o → loose o = true → wt i = true → ∃ t l c, o.op = .makeSlice t l c ∧ amakeO P t (opv (FA i).get l) (opv (FA i).get c) (FH i) = some (val i, FH (i + 1))
  hole : ∀ i, i ≤ ops.size → (FH i).hole = []
  fine : ∀ (i : Nat) (o : Oper), ops[i]? = some o → fineO P.globals.size o = true

section
variable {ops : Array Oper} {ms : List Nat} {FA : Nat → Fr} {FH : Nat → Heap} {val : Nat → Value} {wt : Nat → Bool}

theorem Plan2.prLow (h : Plan2 P ft ih ops ms FA FH val wt) : ∀ i k, pr ms k i = true → k < i := by
  intro i
  induction i using Nat.strongRecOn with
  | _ i ihi =>
    intro k hk
    obtain ⟨o, e, h1, h2, h3, h4⟩ := h.just i k hk
    have := h.low i o (by simpa using h1) e (by simpa using h2) h3
    rcases h4 with rfl | ⟨h5, h6⟩
    · exact this
    · have := ihi e.on h5 k h6
      omega
theorem Plan2.s1 (h : Plan2 P ft ih ops ms FA FH val wt) {L : Array Bool} (hd : DC ops L) : ∀ i, L.getD i false = true → ∀ k, pr ms k i = true → L.getD k false = true := by
  intro i
  induction i using Nat.strongRecOn with
  | _ i ihi =>
    intro hi k hk
    obtain ⟨o, e, h1, h2, h3, h4⟩ := h.just i k hk
    have := hd i hi o (by simpa using h1) e (by simpa using h2) h3
    rcases h4 with rfl | ⟨h5, h6⟩
    · exact this
    · exact ihi e.on h5 this k h6
theorem Plan2.s1r (h : Plan2 P ft ih ops ms FA FH val wt) {L : Array Bool} (hd : DC ops L) {i : Nat} (hi : i ∈ Region.ready .any ops L) (k : Nat) (hk : pr ms k i = true) : L.getD k false = true := by
  obtain ⟨o, e, h1, h2, h3, h4⟩ := h.just i k hk
  obtain ⟨_, o', ho', hall⟩ := mem_ready.1 hi
  have e1 : o = o' := by rw [Array.getElem?_toList] at h1; rw [h1] at ho'; exact Option.some.inj ho'
  subst e1
  have := hall e (by simpa using h2) h3
  rcases h4 with rfl | ⟨h5, h6⟩
  · exact this
  · exact h.s1 hd e.on this k h6

/-- What does not do else leaves the heap, but for new names. -/
structure Grow (ops : Array Oper) (FH : Nat → Heap) (wt : Nat → Bool) (a b : Nat) : Prop where
  base : (FH b).base = (FH a).base
  next : (FH a).next ≤ (FH b).next
  get : ∀ n, (∀ k, a ≤ k → k < b → looseAt ops k = true → wt k = true → n ≠ (FH k).next) → (FH b).get n = (FH a).get n
  nid : ∀ k, a ≤ k → k < b → looseAt ops k = true → wt k = true → (FH a).next ≤ (FH k).next ∧ (FH k).next < (FH b).next
theorem Plan2.one (h : Plan2 P ft ih ops ms FA FH val wt) {b : Nat} (hb : b < ops.size) (hn : ordAt ops b = false) : (FH (b + 1) = FH b ∧ (looseAt ops b && wt b) = false) ∨ (looseAt ops b = true ∧ wt b = true ∧ ∃ x, FH (b + 1) = (FH b).new x) := by
  have ho : ops[b]? = some ops[b] := by simp [hb]
  have hol : ops.toList[b]? = some ops[b] := by simp [hb]
  have hlo : looseAt ops b = loose ops[b] := by unfold looseAt; rw [ho]; rfl
  have hrd : readerAt ops b = reader ops[b] := by unfold readerAt; rw [ho]; rfl
  cases hw : wt b with
  | false => exact .inl ⟨(h.tr.no _ _ hol hw).2, by simp⟩
  | true =>
    cases hl : loose ops[b] with
    | true =>
      obtain ⟨t, l, c, _, h2⟩ := h.nw b _ ho hl hw
      exact .inr ⟨hlo.trans hl, rfl, amakeO_new h2⟩
    | false =>
      refine .inl ⟨?_, by rw [hlo, hl]; rfl⟩
      have hr : reader ops[b] = true := by
        unfold ordAt at hn
        rw [hlo, hl, hrd] at hn
        simpa using hn
      have h1 := h.rd b _ ho hr hw
      have h2 := h.tr.yes _ _ hol hw
      unfold stepVal at h2
      rw [rexec_ok (pexec_ok h1 (FH b))] at h2
      simp only [Option.some.injEq, Prod.mk.injEq, true_and] at h2
      exact h2.symm
theorem Plan2.grow (h : Plan2 P ft ih ops ms FA FH val wt) {a : Nat} : ∀ d, a + d ≤ ops.size → (∀ k, a ≤ k → k < a + d → ordAt ops k = false) → Grow ops FH wt a (a + d)
  | 0, _, _ => ⟨rfl, Nat.le_refl _, fun _ _ => rfl, fun k h1 h2 => by omega⟩
  | d + 1, hd, hn => by
    have g := h.grow d (by omega) fun k h1 h2 => hn k h1 (by omega)
    rcases h.one (b := a + d) (by omega) (hn _ (by omega) (by omega)) with ⟨e, hno⟩ | ⟨hl, hw, x, e⟩
    · refine ⟨?_, ?_, fun n hq => ?_, fun k h1 h2 h3 h4 => ?_⟩
      · show (FH (a + d + 1)).base = _
        rw [e]; exact g.base
      · show _ ≤ (FH (a + d + 1)).next
        rw [e]; exact g.next
      · show (FH (a + d + 1)).get n = _
        rw [e]; exact g.get n fun k h1 h2 => hq k h1 (by omega)
      · show _ ∧ _ < (FH (a + d + 1)).next
        rw [e]
        rcases Nat.lt_or_ge k (a + d) with hk | hk
        · exact g.nid k h1 hk h3 h4
        · have hkk : k = a + d := by omega
          subst hkk
          rw [h3, h4] at hno
          simp at hno
    · refine ⟨?_, ?_, fun n hq => ?_, fun k h1 h2 h3 h4 => ?_⟩
      · show (FH (a + d + 1)).base = _
        rw [e, Heap.base_new]; exact g.base
      · show _ ≤ (FH (a + d + 1)).next
        rw [e, Heap.next_new]; have := g.next; omega
      · show (FH (a + d + 1)).get n = _
        rw [e, Heap.get_new, if_neg (hq (a + d) (by omega) (by omega) hl hw)]
        exact g.get n fun k h1 h2 => hq k h1 (by omega)
      · show _ ∧ _ < (FH (a + d + 1)).next
        rw [e, Heap.next_new]
        rcases Nat.lt_or_ge k (a + d) with hk | hk
        · have := g.nid k h1 hk h3 h4; omega
        · have hkk : k = a + d := by omega
          subst hkk
          exact ⟨g.next, by omega⟩
theorem nextOrd (ops : Array Oper) : ∀ d a, a + d = ops.size → ∃ c, a ≤ c ∧ c ≤ ops.size ∧ (c < ops.size → ordAt ops c = true) ∧ ∀ k, a ≤ k → k < c → ordAt ops k = false
  | 0, a, h => ⟨a, Nat.le_refl _, by omega, fun hlt => by omega, fun k h1 h2 => by omega⟩
  | d + 1, a, h => by
    cases hb : ordAt ops a with
    | true => exact ⟨a, Nat.le_refl _, by omega, fun _ => hb, fun k h1 h2 => by omega⟩
    | false =>
      obtain ⟨c, h1, h2, h3, h4⟩ := nextOrd ops d (a + 1) (by omega)
      exact ⟨c, by omega, h2, h3, fun k q1 q2 => by
        rcases Nat.lt_or_ge a k with hk | hk
        · exact h4 k hk q2
        · have : k = a := by omega
          subst this; exact hb⟩

/-- The names of cells that are not made yet. -/
def Gone (ops : Array Oper) (FH : Nat → Heap) (wt : Nat → Bool) (L : Nat → Bool) (c : Nat) (n : Nat) : Prop := ∃ k, k < c ∧ looseAt ops k = true ∧ wt k = true ∧ L k = false ∧ n = (FH k).next
structure HeapAt (P : Program) (ops : Array Oper) (FH : Nat → Heap) (wt : Nat → Bool) (L : Nat → Bool) (ι : Inj) (w : World) (c : Nat) (X : Heap) : Prop where
  le : c ≤ ops.size
  ord : c < ops.size → ordAt ops c = true
  done : ∀ k, k < ops.size → ordAt ops k = true → (k < c ↔ L k = true)
  made : ∀ k, k < ops.size → looseAt ops k = true → L k = true → k < c
  base : X.base = (FH c).base
  next : X.next = (FH c).next
  get : ∀ n, ¬ Gone ops FH wt L c n → X.get n = (FH c).get n
  gone : ∀ n, Gone ops FH wt L c n → X.get n = none ∧ n ∈ X.hole
  rel : Rel P ι X w

/-- Behind what does else all up to the next of the kind is set. -/
theorem Plan2.settle (h : Plan2 P ft ih ops ms FA FH val wt) {L : Nat → Bool} {ι : Inj} {w : World} {a : Nat} (ha : a ≤ ops.size) (hr : Rel P ι (FH a) w) (hd : ∀ k, k < ops.size → ordAt ops k = true → (k < a ↔ L k = true))
    (hm : ∀ k, k < a → looseAt ops k = true → L k = true) (hu : ∀ k, a ≤ k → k < ops.size → looseAt ops k = true → L k = false) : ∃ c X, HeapAt P ops FH wt L ι w c X := by
  let gl (c : Nat) : List Nat := (List.range c).filterMap fun k => if looseAt ops k && wt k && !L k then some (FH k).next else none
  have hgl : ∀ c n, n ∈ gl c ↔ Gone ops FH wt L c n := fun c n => by
    simp only [gl, List.mem_filterMap, List.mem_range]
    constructor
    · rintro ⟨k, k1, k2⟩
      split at k2
      · rename_i hc
        simp only [Bool.and_eq_true, Bool.not_eq_true'] at hc
        simp only [Option.some.injEq] at k2
        exact ⟨k, k1, hc.1.1, hc.1.2, hc.2, k2.symm⟩
      · simp at k2
    · rintro ⟨k, k1, k2, k3, k4, rfl⟩
      exact ⟨k, k1, by rw [k2, k3, k4]; rfl⟩
  obtain ⟨c, c1, c2, c3, c4⟩ := nextOrd ops (ops.size - a) a (by omega)
  have g := h.grow (a := a) (c - a) (by omega) fun k h1 h2 => c4 k h1 (by omega)
  rw [show a + (c - a) = c by omega] at g
  have hgone : ∀ n, Gone ops FH wt L c n → ∃ k, a ≤ k ∧ k < c ∧ looseAt ops k = true ∧ wt k = true ∧ n = (FH k).next := fun n ⟨k, k1, k2, k3, k4, k5⟩ => by
    rcases Nat.lt_or_ge k a with hk | hk
    · rw [hm k hk k2] at k4; simp at k4
    · exact ⟨k, hk, k1, k2, k3, k5⟩
  refine ⟨c, { base := (FH a).base, next := (FH c).next, m := (FH a).m, hole := gl c }, c2, c3, fun k hk ho => ?_, fun k hk hl hL => ?_, g.base.symm, rfl, fun n hn => ?_, fun n hn => ?_, hr.same rfl g.next (fun n hn => .inr ?_) fun _ => rfl⟩
  · rw [← hd k hk ho]
    constructor
    · intro hkc
      rcases Nat.lt_or_ge k a with hka | hka
      · exact hka
      · rw [c4 k hka hkc] at ho; simp at ho
    · intro hka; omega
  · rcases Nat.lt_or_ge k a with hka | hka
    · omega
    · rw [hu k hka hk hl] at hL; simp at hL
  · refine (g.get n fun k k1 k2 k3 k4 e => hn ⟨k, k2, k3, k4, hu k k1 (by omega) k3, e⟩).symm
  · obtain ⟨k, k1, k2, k3, k4, rfl⟩ := hgone n hn
    have hge := (g.nid k k1 k2 k3 k4).1
    have hι := hr.fresh _ hge
    refine ⟨?_, (hgl c _).2 hn⟩
    show (FH a).get (FH k).next = none
    cases hq : (FH a).get (FH k).next with
    | none => rfl
    | some b =>
      obtain ⟨i, o, hi, _⟩ := hr.live _ _ hq
      rw [hι] at hi
      simp at hi
  · obtain ⟨k, k1, k2, k3, k4, rfl⟩ := hgone n ((hgl c n).1 hn)
    have hge := (g.nid k k1 k2 k3 k4).1
    exact ⟨(g.nid k k1 k2 k3 k4).2, hr.fresh _ hge⟩

structure Inv2 (P : Program) (ops : Array Oper) (A0 : Fr) (FH : Nat → Heap) (val : Nat → Value) (wt : Nat → Bool) (ι0 : Inj) (w0 : World) (a0 : Act) (L : Array Bool) (ι : Inj) (a : Act) (w : World) : Prop where
  size : L.size = ops.size
  dc : DC ops L
  ext : Ext P ι0 w0 ι w
  heap : ∃ c X, HeapAt P ops FH wt (fun k => L.getD k false) ι w c X
  tsize : a.tmps.size = A0.size
  frame : ∀ t, PRelV ι A0.opn (cur ops A0 val (fun k => L.getD k false) t) (a.tmps.getD t undf)
  defers : a.defers = a0.defers

theorem Plan2.step (hE : EnvOk P ft) (hg : Good P ih) (h : Plan2 P ft ih ops ms FA FH val wt) {ι0 : Inj} {w0 : World} {a0 : Act} {L : Array Bool} {ι : Inj} {a : Act} {w : World}
    (hv : Inv2 P ops (FA 0) FH val wt ι0 w0 a0 L ι a w) {i : Nat} (hi : i ∈ Region.ready .any ops L) {K : Act → World → Prop} {Q : Exit → Act → World → Prop}
    (hK : ∀ ι' a' w', Inv2 P ops (FA 0) FH val wt ι0 w0 a0 (L.setIfInBounds i true) ι' a' w' → K a' w') : wpOp P ops Q i K a w := by
  obtain ⟨hun, o, ho, hall⟩ := mem_ready.1 hi
  have hin : i < ops.size := (Array.getElem?_eq_some_iff.1 ho).1
  have hol : ops.toList[i]? = some o := by simpa using ho
  have hiL : i < L.size := by rw [hv.size]; exact hin
  have hLi : L.getD i false = false := by
    have : L.getD i true = L.getD i false := by simp [hiL]
    rw [← this]; exact hun
  -- who is there
  have later : ∀ k, pr ms i k = true → L.getD k false = false := fun k hk => by
    cases hb : L.getD k false with
    | false => rfl
    | true => rw [h.s1 hv.dc k hb i hk] at hLi; exact absurd hLi (by simp)
  have earlier : ∀ k, pr ms k i = true → L.getD k false = true := fun k hk => h.s1r hv.dc hi k hk
  -- the frame that it looks at
  have looks : ∀ t, t ∈ o.looksAt ops → cur ops (FA 0) val (fun k => L.getD k false) t = (FA i).get t := by
    intro t ht
    rw [(lexFrame h.dist h.tr i (by omega)).2.2 t]
    rcases dst_cases ops t with ⟨k, hk, hkt⟩ | hno
    · rw [cur_of h.dist hk hkt, cur_of h.dist hk hkt]
      obtain ⟨d1, d2⟩ := h.data i o k t ho hk hkt ht
      rcases Nat.lt_trichotomy k i with hlt | heq | hgt
      · simp [earlier k (d1 hlt), hlt]
      · subst heq; simp [hLi]
      · simp [later k (d2 hgt), show ¬ k < i by omega]
    · rw [cur_none hno, cur_none hno]
  have hsz : (FA i).size = (FA 0).size := (lexFrame h.dist h.tr i (by omega)).1
  have hlook : ∀ t, t ∈ o.looksAt ops → VRel ι ((FA i).get t) (a.tmps.getD t undf) := fun t ht => by
    have h1 := hv.frame t
    rw [looks t ht, ← (lexFrame h.dist h.tr i (by omega)).2.1] at h1
    exact h1.known (lookOk_ok (h.tr.look i o hol) ht)
  obtain ⟨c, X, hX⟩ := hv.heap
  have hrel := hX.rel
  have hops : ∀ x ∈ o.op.operands, VRel ι (opv (FA i).get x) (a.eval x) := by
    intro x hx
    have hf : fineX P.globals.size x = true := by
      have := h.fine i o ho
      unfold fineO at this
      rw [Array.all_eq_true_iff_forall_mem] at this
      exact this x hx
    cases x with
    | tmp t => exact hlook t (List.mem_append_left _ (List.mem_filterMap.2 ⟨.tmp t, by simpa using hx, rfl⟩))
    | const v => exact ground_rel hf
    | global n =>
      have hn : n < P.globals.size := by simpa [fineX] using hf
      obtain ⟨j, h1, h2, h3⟩ := hrel.glob n (by rw [hrel.gsize]; exact hn)
      exact AddrRel.ptr (ι := ι) (a := ⟨n, 0, none⟩) (a' := ⟨n, 0, none⟩) ⟨j, h1, by simp [h2, h3]⟩
    | func f => exact .func _ rfl (fun k hk => by simp at hk) rfl (fun k hk => by simp at hk)
  -- whether it is carried out
  have hwant : Region.wanted o (yielded ops a.tmps) = wt i := by
    rw [h.tr.wanted i o hol]
    unfold Region.wanted
    cases hgd : o.guard with
    | none => rfl
    | some gw =>
      obtain ⟨g, want⟩ := gw
      have : yieldA ops (FA i) g = yielded ops a.tmps g := yieldA_at (by rw [hv.tsize, ← hsz]) ops g fun d hd => hlook d (List.mem_append_right _ (by simp [hgd, hd]))
      simp only [this]
  -- what is listed then
  have hset := set_get hiL
  have hdc' : DC ops (L.setIfInBounds i true) := by
    intro k hk o' ho' e he hb
    rw [hset] at hk ⊢
    by_cases hki : k = i
    · subst hki
      rw [ho] at ho'
      cases ho'
      split
      · rfl
      · exact hall e he hb
    · rw [if_neg hki] at hk
      split
      · rfl
      · exact hv.dc k hk o' ho' e he hb
  have hframe : ∀ ι' v', Sub ι ι' → VRel ι' (val i) v' → (a.put o.dst v').tmps.size = (FA 0).size ∧ ∀ t, PRelV ι' (FA 0).opn (cur ops (FA 0) val (fun k => (L.setIfInBounds i true).getD k false) t) ((a.put o.dst v').tmps.getD t undf) := by
    intro ι' v' hs hvv
    have hdi : dstOf ops i = o.dst := by simp [dstOf, ho]
    have hput := h.tr.put i o hol
    refine ⟨by cases hd : o.dst <;> simp [Act.put, hv.tsize], fun t => ?_⟩
    by_cases htd : o.dst = some t
    · rw [cur_of h.dist hin (hdi.trans htd), if_pos (by rw [hset, if_pos rfl])]
      have htlt : t < a.tmps.size := by
        rw [hv.tsize, ← hsz]
        rw [htd] at hput
        simp only [Fr.put_some] at hput
        split at hput
        · assumption
        · simp at hput
      have : (a.put o.dst v').tmps.getD t undf = v' := by rw [htd]; simp [Act.put, htlt]
      rw [this]; exact .inr hvv
    · have e1 : (a.put o.dst v').tmps.getD t undf = a.tmps.getD t undf := by
        cases hd : o.dst with
        | none => rfl
        | some d =>
          have hne : ¬ d = t := fun e => htd (by rw [hd, e])
          simp [Act.put, hne]
      rw [e1]
      have e2 : cur ops (FA 0) val (fun k => (L.setIfInBounds i true).getD k false) t = cur ops (FA 0) val (fun k => L.getD k false) t := by
        rcases dst_cases ops t with ⟨k, hk, hkt⟩ | hno
        · have hki : k ≠ i := by
            intro e
            subst e
            exact htd (hdi.symm.trans hkt)
          rw [cur_of h.dist hk hkt, cur_of h.dist hk hkt, hset, if_neg hki]
        · rw [cur_none hno, cur_none hno]
      rw [e2]
      exact (hv.frame t).mono hs
  -- where the heap stands
  have hset' : ∀ k, (fun k => (L.setIfInBounds i true).getD k false) k = if k = i then true else L.getD k false := hset
  have keepN : ∀ ι' w', Rel P ι' X w' → (looseAt ops i && wt i) = false → ordAt ops i = false → HeapAt P ops FH wt (fun k => (L.setIfInBounds i true).getD k false) ι' w' c X := by
    intro ι' w' hr' hno hoi
    have hgo : ∀ n, Gone ops FH wt (fun k => (L.setIfInBounds i true).getD k false) c n ↔ Gone ops FH wt (fun k => L.getD k false) c n := by
      intro n
      constructor
      · rintro ⟨k, k1, k2, k3, k4, k5⟩
        (try dsimp only at k4); rw [hset] at k4
        refine ⟨k, k1, k2, k3, ?_, k5⟩
        split at k4
        · simp at k4
        · exact k4
      · rintro ⟨k, k1, k2, k3, k4, k5⟩
        refine ⟨k, k1, k2, k3, ?_, k5⟩
        (try dsimp only); rw [hset, if_neg]
        · exact k4
        · intro e
          subst e
          rw [k2, k3] at hno
          simp at hno
    refine ⟨hX.le, hX.ord, fun k hk hok => ?_, fun k hk hl hL => ?_, hX.base, hX.next, fun n hn => hX.get n fun hq => hn ((hgo n).2 hq), fun n hn => hX.gone n ((hgo n).1 hn), hr'⟩
    · (try dsimp only); rw [hset, if_neg]
      · exact hX.done k hk hok
      · intro e; subst e; rw [hoi] at hok; simp at hok
    · (try dsimp only at hL); rw [hset] at hL
      split at hL
      · rename_i e
        subst e
        have hic : c ≤ k → False := fun hck => by
          rcases Nat.eq_or_lt_of_le hck with e | hlt
          · subst e
            have := hX.ord hk
            rw [hoi] at this; simp at this
          · have hcs : c < ops.size := by omega
            have hco := hX.ord hcs
            have hcr : readerAt ops c = false := by unfold ordAt at hco; simp at hco; exact hco.1
            have hclo : looseAt ops c = false := by unfold ordAt at hco; simp at hco; exact hco.2
            have hkr : readerAt ops k = false := by
              unfold looseAt at hl
              unfold readerAt
              rw [ho] at hl ⊢
              exact loose_not_reader hl
            have := earlier c (h.eff k c hk hcs hkr hcr (by rw [hclo, Bool.and_false]) hlt)
            have := (hX.done c hcs hco).2 this
            omega
        rcases Nat.lt_or_ge k c with hlt | hge
        · exact hlt
        · exact (hic hge).elim
      · exact hX.made k hk hl hL
  have hlo : looseAt ops i = loose o := by unfold looseAt; rw [ho]; rfl
  have hrdi : readerAt ops i = reader o := by unfold readerAt; rw [ho]; rfl
  have looseLt : looseAt ops i = true → i < c := by
    intro hli
    have hlo' : loose o = true := hlo.symm.trans hli
    have hkr : readerAt ops i = false := hrdi.trans (loose_not_reader hlo')
    rcases Nat.lt_or_ge i c with hlt | hge
    · exact hlt
    · have hcs : c < ops.size := by omega
      have hco := hX.ord hcs
      have hcr : readerAt ops c = false := by unfold ordAt at hco; simp at hco; exact hco.1
      have hclo : looseAt ops c = false := by unfold ordAt at hco; simp at hco; exact hco.2
      have hne : c ≠ i := by intro e; subst e; rw [hli] at hclo; simp at hclo
      have h1 := earlier c (h.eff i c hin hcs hkr hcr (by rw [hclo, Bool.and_false]) (by omega))
      have := (hX.done c hcs hco).2 h1
      omega
  have ordC : ordAt ops i = true → i = c := by
    intro hoi
    have h1 := hX.done i hin hoi
    have : ¬ i < c := fun hlt => by rw [h1.1 hlt] at hLi; simp at hLi
    rcases Nat.eq_or_lt_of_le (Nat.le_of_not_lt this) with e | hlt
    · exact e.symm
    · have hcs : c < ops.size := by omega
      have hco := hX.ord hcs
      have hcr : readerAt ops c = false := by unfold ordAt at hco; simp at hco; exact hco.1
      have hclo : looseAt ops c = false := by unfold ordAt at hco; simp at hco; exact hco.2
      have hir : readerAt ops i = false := by unfold ordAt at hoi; simp at hoi; exact hoi.1
      have h2 := earlier c (h.eff i c hin hcs hir hcr (by rw [hclo, Bool.and_false]) hlt)
      have := (hX.done c hcs hco).2 h2
      omega
  have loseN : ordAt ops i = true → ∀ k, looseAt ops k = true → k < ops.size → (k < i → L.getD k false = true) ∧ (i < k → L.getD k false = false) := by
    intro hoi k hk hks
    have hir : readerAt ops i = false := by unfold ordAt at hoi; simp at hoi; exact hoi.1
    have hil : looseAt ops i = false := by unfold ordAt at hoi; simp at hoi; exact hoi.2
    have hkr : readerAt ops k = false := by
      have ho' : ops[k]? = some ops[k] := by simp [hks]
      unfold looseAt at hk
      unfold readerAt
      rw [ho'] at hk ⊢
      exact loose_not_reader hk
    exact ⟨fun hlt => earlier k (h.eff i k hin hks hir hkr (by rw [hil]; rfl) hlt), fun hlt => later k (h.eff k i hks hin hkr hir (by rw [hil, Bool.and_false]) hlt)⟩
  have ordX : ordAt ops i = true → Rel P ι (FH i) w := by
    intro hoi
    have hic := ordC hoi
    have hng : ∀ n, ¬ Gone ops FH wt (fun k => L.getD k false) c n := by
      rintro n ⟨k, k1, k2, k3, k4, k5⟩
      have := (loseN hoi k k2 (by have := hX.le; omega)).1 (by omega)
      dsimp only at k4
      rw [this] at k4
      simp at k4
    rw [hic]
    exact hX.rel.same hX.base.symm (by rw [hX.next]; exact Nat.le_refl _) (fun n hn => by rw [h.hole c hX.le] at hn; simp at hn) fun n => (hX.get n (hng n)).symm
  have ordN : ordAt ops i = true → ∀ ι' w', Rel P ι' (FH (i + 1)) w' → ∃ c X, HeapAt P ops FH wt (fun k => (L.setIfInBounds i true).getD k false) ι' w' c X := by
    intro hoi ι' w' hr'
    have hic := ordC hoi
    refine h.settle (by omega) hr' (fun k hk hok => ?_) (fun k hk hkl => ?_) (fun k hk hks hkl => ?_)
    · (try dsimp only); rw [hset]
      by_cases hki : k = i
      · rw [if_pos hki]; simp; omega
      · rw [if_neg hki, ← hX.done k hk hok]
        constructor
        · intro _; omega
        · intro _; omega
    · (try dsimp only); rw [hset]
      by_cases hki : k = i
      · rw [if_pos hki]
      · rw [if_neg hki]
        exact (loseN hoi k hkl (by omega)).1 (by omega)
    · (try dsimp only); rw [hset, if_neg (by omega)]
      exact (loseN hoi k hkl hks).2 (by omega)
  unfold wpOp
  simp only [ho]
  rw [hwant]
  have inv2 : ∀ ι' a' w' v', Ext P ι w ι' w' → VRel ι' (val i) v' → a' = a.put o.dst v' → (∃ c X, HeapAt P ops FH wt (fun k => (L.setIfInBounds i true).getD k false) ι' w' c X) → K a' w' := by
    intro ι' a' w' v' x1 hvv ha' hh
    subst ha'
    obtain ⟨f1, f2⟩ := hframe ι' v' x1.sub hvv
    exact hK ι' _ w' ⟨by simpa using hv.size, hdc', hv.ext.trans x1, hh, f1, f2, (put_defers _ _ _).trans hv.defers⟩
  have noEff : wt i = false → K (a.put o.dst undef) w := by
    intro hw
    refine inv2 ι _ w undef (Ext.refl _ _) (by rw [(h.tr.no i o hol hw).1]; exact VRel.undf) rfl ?_
    cases hoi : ordAt ops i with
    | false => exact ⟨c, X, keepN ι w hX.rel (by rw [hw, Bool.and_false]) hoi⟩
    | true => exact ordN hoi ι w (by rw [(h.tr.no i o hol hw).2]; exact ordX hoi)
  cases hw : wt i with
  | false =>
    rw [if_neg (by simp)]
    exact noEff hw
  | true =>
    rw [if_pos rfl]
    refine .inl ?_
    cases hrd : reader o with
    | true =>
      have hno : loose o = false := by
        cases hl : loose o with
        | false => rfl
        | true => rw [loose_not_reader hl] at hrd; simp at hrd
      have h1 := pexec_ok (ft := ft) (h.rd i o ho hrd hw) X
      have h2 : stepVal P ft ih o (FA i) X = some (val i, X) := by unfold stepVal; rw [rexec_ok h1]
      exact stepVal_ok hE hg h2 hX.rel hops fun ι' v' w' x1 r1 hvv => inv2 ι' _ w' v' x1 hvv rfl ⟨c, X, keepN ι' w' r1 (by rw [hlo, hno]; rfl) (by unfold ordAt; rw [hrdi, hrd]; rfl)⟩
    | false =>
      cases hl : loose o with
      | false =>
        have hoi : ordAt ops i = true := by unfold ordAt; rw [hrdi, hlo, hrd, hl]; rfl
        exact stepVal_ok hE hg (h.tr.yes i o hol hw) (ordX hoi) hops fun ι' v' w' x1 r1 hvv => inv2 ι' _ w' v' x1 hvv rfl (ordN hoi ι' w' r1)
      | true =>
        obtain ⟨t, l, m, hop, hmk⟩ := h.nw i o ho hl hw
        have hli : looseAt ops i = true := hlo.trans hl
        have hgone : Gone ops FH wt (fun k => L.getD k false) c (FH i).next := ⟨i, looseLt hli, hli, hw, hLi, rfl⟩
        have hic := looseLt hli
        obtain ⟨b, hb⟩ := amakeO_new hmk
        obtain ⟨g0, g1⟩ := hX.gone _ hgone
        obtain ⟨g2, g3⟩ := hX.rel.hole _ g1
        have hgr := h.grow (a := i + 1) (c - (i + 1)) (by have := hX.le; omega) fun k h1 h2 => by
          cases hok : ordAt ops k with
          | false => rfl
          | true =>
            have hks : k < ops.size := by have := hX.le; omega
            have hkd := (hX.done k hks hok).1 (by omega)
            have hkr : readerAt ops k = false := by unfold ordAt at hok; simp at hok; exact hok.1
            have hkl : looseAt ops k = false := by unfold ordAt at hok; simp at hok; exact hok.2
            have := later k (h.eff k i hks hin hkr (hrdi.trans hrd) (by rw [hkl]; rfl) (by omega))
            rw [this] at hkd
            simp at hkd
        rw [show i + 1 + (c - (i + 1)) = c by omega] at hgr
        have hnid : ∀ k, k < c → looseAt ops k = true → wt k = true → k ≠ i → (k < i → L.getD k false = false) → (FH k).next ≠ (FH i).next := by
          intro k hk hkl hkw hki hku
          rcases Nat.lt_or_ge k i with hlt | hge
          · have g' := h.grow (a := k) (i - k) (by omega) (fun j h1 h2 => by
              cases hok : ordAt ops j with
              | false => rfl
              | true =>
                have hjs : j < ops.size := by omega
                have hjd := (hX.done j hjs hok).1 (by omega)
                have hjr : readerAt ops j = false := by unfold ordAt at hok; simp at hok; exact hok.1
                have hjl : looseAt ops j = false := by unfold ordAt at hok; simp at hok; exact hok.2
                have hkr : readerAt ops k = false := by
                  have ho' : ops[k]? = some ops[k] := by simp [show k < ops.size by omega]
                  unfold looseAt at hkl
                  unfold readerAt
                  rw [ho'] at hkl ⊢
                  exact loose_not_reader hkl
                have hkj : k ≠ j := by intro e; subst e; rw [hkl] at hjl; simp at hjl
                have h3 := h.s1 hv.dc j hjd k (h.eff j k hjs (by omega) hjr hkr (by rw [hjl]; rfl) (by omega))
                rw [hku hlt] at h3
                simp at h3)
            rw [show k + (i - k) = i by omega] at g'
            have := (g'.nid k (Nat.le_refl _) hlt hkl hkw).2
            omega
          · have := (hgr.nid k (by omega) hk hkl hkw).1
            rw [hb, Heap.next_new] at this
            omega
        let X' : Heap := { X with m := X.m.set (FH i).next (some b), hole := X.hole.filter fun n => decide (n ≠ (FH i).next) }
        have hX'get : ∀ n, X'.get n = if n = (FH i).next then some b else X.get n := fun n => T.get_set _ _ _ _
        unfold Oper.wp
        have e : execOp a.eval o = (do Pure.pure (.value (← Instr.makeSlice t (a.eval l) (a.eval m)))) := by unfold execOp; rw [hop]
        obtain ⟨j, v', w', e1, x1, r1, q1⟩ := amakeO_at hE.zero (hops l (by rw [hop]; simp [Op.operands])) (hops m (by rw [hop]; simp [Op.operands])) hmk hX.rel (X' := X') g3 rfl (Nat.le_refl _) g2 (fun n hn => by
          have := List.mem_filter.1 hn
          exact ⟨this.1, by simpa using this.2⟩) (fun n => by rw [hX'get n, hb]; simp)
        rw [e, Sem.run_bind, e1]
        refine inv2 _ _ w' v' x1 q1 rfl ⟨c, X', hX.le, hX.ord, fun k hk hok => ?_, fun k hk hkl hL => ?_, hX.base, hX.next, fun n hn => ?_, fun n hn => ?_, r1⟩
        · (try dsimp only); rw [hset, if_neg]
          · exact hX.done k hk hok
          · intro e; subst e; unfold ordAt at hok; rw [hli] at hok; simp at hok
        · (try dsimp only at hL); rw [hset] at hL
          split at hL
          · rename_i e; subst e; exact hic
          · exact hX.made k hk hkl hL
        · rw [hX'get]
          split
          · rename_i e
            subst e
            rw [hgr.get _ (fun k h1 h2 h3 h4 => fun e => hnid k (by omega) h3 h4 (by omega) (fun hlt => by omega) e.symm), hb, Heap.get_new, if_pos rfl]
          · rename_i hne
            refine hX.get n fun ⟨k, k1, k2, k3, k4, k5⟩ => hn ⟨k, k1, k2, k3, ?_, k5⟩
            (try dsimp only); rw [hset, if_neg]
            · exact k4
            · intro e; subst e; exact hne k5
        · obtain ⟨k, k1, k2, k3, k4, k5⟩ := hn
          (try dsimp only at k4); rw [hset] at k4
          split at k4
          · simp at k4
          · rename_i hki
            obtain ⟨z1, z2⟩ := hX.gone n ⟨k, k1, k2, k3, k4, k5⟩
            have hne : n ≠ (FH i).next := by rw [k5]; exact hnid k k1 k2 k3 hki fun _ => k4
            exact ⟨by rw [hX'get, if_neg hne]; exact z1, List.mem_filter.2 ⟨z2, by simpa using hne⟩⟩

theorem Plan2.all (h : Plan2 P ft ih ops ms FA FH val wt) {L : Array Bool} (hs : L.size = ops.size) (hr : Region.ready .any ops L = []) : ∀ i, i < ops.size → L.getD i false = true := by
  intro i
  induction i using Nat.strongRecOn with
  | _ i ihi =>
    intro hi
    cases hb : L.getD i false with
    | true => rfl
    | false =>
      have ho : ops[i]? = some ops[i] := by simp [hi]
      have : i ∈ Region.ready .any ops L := mem_ready.2 ⟨by
        have : L.getD i true = L.getD i false := by simp [show i < L.size by omega]
        rw [this]; exact hb, ops[i], ho, fun e he hbb => ihi e.on (h.low i _ ho e he hbb) (by have := h.low i _ ho e he hbb; omega)⟩
      rw [hr] at this
      simp at this

theorem Plan2.fin (h : Plan2 P ft ih ops ms FA FH val wt) {ι0 : Inj} {w0 : World} {a0 : Act} {L : Array Bool} {ι : Inj} {a : Act} {w : World}
    (hv : Inv2 P ops (FA 0) FH val wt ι0 w0 a0 L ι a w) (hall : ∀ i, i < ops.size → L.getD i false = true) : PostC P ι0 w0 a0 .normal (FA ops.size) (FH ops.size) .normal a w := by
  obtain ⟨s1, p1, g1⟩ := lexFrame h.dist h.tr ops.size (Nat.le_refl _)
  obtain ⟨c, X, hX⟩ := hv.heap
  have hc : c = ops.size := by
    rcases Nat.eq_or_lt_of_le hX.le with e | hlt
    · exact e
    · have := (hX.done c hlt (hX.ord hlt)).2 (hall c hlt)
      omega
  subst hc
  refine ⟨ι, rfl, hv.ext, ?_, ⟨by rw [hv.tsize, s1], fun t => ?_⟩, hv.defers⟩
  · refine hX.rel.same hX.base.symm (by rw [hX.next]; exact Nat.le_refl _) (fun n hn => by rw [h.hole _ (Nat.le_refl _)] at hn; simp at hn) fun n => (hX.get n ?_).symm
    rintro ⟨k, k1, k2, k3, k4, k5⟩
    have := hall k k1
    dsimp only at k4
    rw [this] at k4
    simp at k4
  · rw [g1, p1]
    have : cur ops (FA 0) val (fun k => decide (k < ops.size)) t = cur ops (FA 0) val (fun k => L.getD k false) t := by
      rcases dst_cases ops t with ⟨k, hk, hkt⟩ | hno
      · rw [cur_of h.dist hk hkt, cur_of h.dist hk hkt, hall k hk]; simp [hk]
      · rw [cur_none hno, cur_none hno]
    rw [this]
    exact hv.frame t

theorem Plan2.any (hE : EnvOk P ft) (hg : Good P ih) (h : Plan2 P ft ih ops ms FA FH val wt) {ι0 : Inj} {w0 : World} {a0 : Act} : ∀ (fuel : Nat) (L : Array Bool) (ι : Inj) (a : Act) (w : World),
    Inv2 P ops (FA 0) FH val wt ι0 w0 a0 L ι a w → ((List.range ops.size).filter fun k => !L.getD k false).length ≤ fuel →
    wpAny P .any ops (PostC P ι0 w0 a0 .normal (FA ops.size) (FH ops.size)) fuel L a w
  | 0, L, ι, a, w, hv, hf => by
    have hall : ∀ i, i < ops.size → L.getD i false = true := by
      intro i hi
      cases hb : L.getD i false with
      | true => rfl
      | false =>
        have hm : i ∈ (List.range ops.size).filter fun k => !L.getD k false := List.mem_filter.2 ⟨List.mem_range.2 hi, by rw [hb]; rfl⟩
        have := List.length_pos_of_mem hm
        omega
    refine ⟨?_, h.fin hv hall⟩
    cases hr : Region.ready .any ops L with
    | nil => rfl
    | cons i l =>
      have hi : i ∈ Region.ready .any ops L := by rw [hr]; simp
      obtain ⟨hun, o, ho, _⟩ := mem_ready.1 hi
      have hin : i < ops.size := (Array.getElem?_eq_some_iff.1 ho).1
      have h1 := hall i hin
      have : L.getD i true = L.getD i false := by simp [show i < L.size by rw [hv.size]; exact hin]
      rw [this, h1] at hun
      simp at hun
  | fuel + 1, L, ι, a, w, hv, hf => by
    refine ⟨fun hr => h.fin hv (h.all hv.size hr), fun i hi => h.step hE hg hv hi fun ι' a' w' hv' => h.any hE hg fuel _ ι' a' w' hv' ?_⟩
    obtain ⟨hun, o, ho, _⟩ := mem_ready.1 hi
    have hin : i < ops.size := (Array.getElem?_eq_some_iff.1 ho).1
    have hiL : i < L.size := by rw [hv.size]; exact hin
    have hLi : L.getD i false = false := by
      have : L.getD i true = L.getD i false := by simp [hiL]
      rw [← this]; exact hun
    have := filter_lt (p := fun k => !L.getD k false) (q := fun k => !(L.setIfInBounds i true).getD k false) (List.range ops.size) (fun x hx => by
      rw [set_get hiL] at hx
      split at hx
      · simp at hx
      · exact hx) ⟨i, List.mem_range.2 hin, by rw [hLi]; rfl, by rw [set_get hiL]; simp⟩
    omega
end

/-! ### What the look says -/
noncomputable def pureOk (P : Program) [Orc P] (ops : Array Oper) (tr : List Ent) (D : Ent) : Bool :=
  allN ops.size fun i => match ops[i]? with
    | some o => !(tr.getD i D).wt || !(reader o || loose o) || (if loose o then (match Orc.orc P o (tr.getD i D).A.get with | some _ => false | none => !Orc.orcQ P o (tr.getD i D).A.get) else (pexec P (tr.getD i D).A.get o).isSome)
    | none => true
/-- A variable's cells are made there, and the plain look would not do. -/
noncomputable def preA (ops : Array Oper) : Bool := cond (atAlloc ops.toList 0).isSome (!staticQ reader ops (masks ops.toList [])) false
noncomputable def drawRun2 (P : Program) [Orc P] (ft : Nat → Option Func) (ih : Runner) (ops : Array Oper) (A : Fr) (H : Heap) : Option (Fr × Heap) :=
  match cond (preA ops) (drawRunA P ft ih ops A H) none with
  | some r => some r
  | none => match drawRun3 P ft ih ops A H with
  | some r => some r
  | none => match lexRun P ft ih ops ops.toList A H with
    | some (tr, A', H') => if staticQ (fun o => reader o || loose o) ops (masks ops.toList []) && stLo (masks ops.toList []) ops.toList 0 0 0 && pureOk P ops tr ⟨A', H', undf, false⟩ &&
        (H'.hole.isEmpty && tr.all fun e => e.H.hole.isEmpty) then some (A', H') else none
    | none => none

theorem aexec_make {g : Nat → Value} {o : Oper} {H : Heap} {t : TypeId} {l c : Operand} (ho : o.op = .makeSlice t l c) (horc : Orc.orc P o g = none) (hq : Orc.orcQ P o g = false) : aexec P ft g o H = valH (amakeO P t (opv g l) (opv g c) H) := by
  unfold aexec
  rw [horc]
  dsimp only
  rw [hq, cond_false]
  unfold aexecO
  rw [ho]

theorem drawRun2_ok (hE : EnvOk P ft) (hg : Good P ih) : DrawOk P (drawRun2 P ft ih) := by
  intro ops id A A' H H' h hfine ι a w hw hA
  unfold drawRun2 at h
  split at h
  · rename_i r hd
    simp only [Option.some.injEq] at h
    subst h
    cases hp : preA ops with
    | false => rw [hp] at hd; simp at hd
    | true =>
      rw [hp] at hd
      exact drawRunA_ok hE hg ops id A A' H H' hd hfine ι a w hw hA
  split at h
  · rename_i r hd
    simp only [Option.some.injEq] at h
    subst h
    exact drawRun_ok hE hg ops id A A' H H' (drawRun3_sub hd) hfine ι a w hw hA
  split at h
  · rename_i tr A1 H1 hl
    split at h
    · rename_i hck
      simp only [Option.some.injEq, Prod.mk.injEq] at h
      obtain ⟨rfl, rfl⟩ := h
      simp only [Bool.and_eq_true] at hck
      obtain ⟨⟨⟨hst, hlo⟩, hpu⟩, hho1, hho2⟩ := hck
      obtain ⟨q1, q2, q3, q4⟩ := lexRun_tr _ _ _ _ _ _ hl
      obtain ⟨s1, s2, s3, s4⟩ := staticQ_plan hst
      have hpure : ∀ (i : Nat) (o : Oper), ops[i]? = some o → (tr.getD i ⟨A1, H1, undf, false⟩).wt = true → (reader o || loose o) = true →
          (if loose o then (match Orc.orc P o (tr.getD i ⟨A1, H1, undf, false⟩).A.get with | some _ => false | none => !Orc.orcQ P o (tr.getD i ⟨A1, H1, undf, false⟩).A.get) else (pexec P (tr.getD i ⟨A1, H1, undf, false⟩).A.get o).isSome) = true := by
        intro i o ho hwt hk
        have hi : i < ops.size := (Array.getElem?_eq_some_iff.1 ho).1
        have h1 := allN_ok hpu i hi
        rw [ho] at h1
        simp only [hwt, hk, Bool.not_true, Bool.false_or] at h1
        exact h1
      have hplan : Plan2 P ft ih ops (masks ops.toList []) (fun i => (tr.getD i ⟨A1, H1, undf, false⟩).A) (fun i => (tr.getD i ⟨A1, H1, undf, false⟩).H) (fun i => (tr.getD i ⟨A1, H1, undf, false⟩).v) (fun i => (tr.getD i ⟨A1, H1, undf, false⟩).wt) := {
        just := masks_just ops.toList ops.toList [] (fun j => by simp) (fun i k hik => by simp [pr] at hik)
        low := s1
        dist := s2
        data := s3
        eff := fun i k hi hk hri hrk hll hlt => by
          have hoi : ops[i]? = some ops[i] := by simp [hi]
          have hok : ops[k]? = some ops[k] := by simp [hk]
          have e1 : readerAt ops i = reader ops[i] := by unfold readerAt; rw [hoi]; rfl
          have e2 : readerAt ops k = reader ops[k] := by unfold readerAt; rw [hok]; rfl
          have e3 : looseAt ops i = loose ops[i] := by unfold looseAt; rw [hoi]; rfl
          have e4 : looseAt ops k = loose ops[k] := by unfold looseAt; rw [hok]; rfl
          exact stLo_ok ops.toList 0 0 0 (fun j => by simp) hlo (fun k x hk => by omega) k i _ _ hlt (Nat.zero_le _) hok hoi (e2.symm.trans hrk) (e1.symm.trans hri) (by rw [← e3, ← e4, Bool.and_comm]; exact hll)
        tr := q4
        rd := fun i o ho hr hwt => by
          have h1 := hpure i o ho hwt (by rw [hr]; rfl)
          have hno : loose o = false := by
            cases hl : loose o with
            | false => rfl
            | true => rw [loose_not_reader hl] at hr; simp at hr
          rw [hno, if_neg (by simp)] at h1
          cases hp : pexec P (tr.getD i ⟨A1, H1, undf, false⟩).A.get o with
          | none => rw [hp] at h1; simp at h1
          | some v =>
            have hy := q4.yes i o (by simpa using ho) hwt
            unfold stepVal at hy
            have := rexec_ok (pexec_ok (ft := ft) hp (tr.getD i ⟨A1, H1, undf, false⟩).H)
            rw [this] at hy
            simp only [Option.some.injEq, Prod.mk.injEq] at hy
            rw [hy.1]
        nw := fun i o ho hl hwt => by
          have h1 := hpure i o ho hwt (by rw [hl, Bool.or_true])
          rw [hl, if_pos rfl] at h1
          have hy := q4.yes i o (by simpa using ho) hwt
          have hop : ∃ t l c, o.op = .makeSlice t l c := by
            unfold loose at hl
            cases hq : o.op <;> rw [hq] at hl <;> first | exact ⟨_, _, _, rfl⟩ | simp at hl
          obtain ⟨t, l, c, hop⟩ := hop
          refine ⟨t, l, c, hop, ?_⟩
          cases horc : Orc.orc P o (tr.getD i ⟨A1, H1, undf, false⟩).A.get with
          | some u => rw [horc] at h1; simp at h1
          | none =>
            unfold stepVal at hy
            rw [horc] at h1
            rw [aexec_make hop horc (by simpa using h1)] at hy
            cases hm : amakeO P t (opv (tr.getD i ⟨A1, H1, undf, false⟩).A.get l) (opv (tr.getD i ⟨A1, H1, undf, false⟩).A.get c) (tr.getD i ⟨A1, H1, undf, false⟩).H with
            | none => rw [hm] at hy; simp [valH] at hy
            | some r =>
              rw [hm] at hy
              simp only [valH, Option.some.injEq, Prod.mk.injEq] at hy
              show some r = _
              obtain ⟨y1, y2⟩ := hy
              rw [← y1, ← y2]
        hole := fun i hi => by
          rcases Nat.lt_or_ge i tr.length with hlt | hge
          · rw [List.all_eq_true] at hho2
            have e : tr.getD i ⟨A1, H1, undf, false⟩ = tr[i] := by simp [List.getD_eq_getElem?_getD, hlt]
            show (tr.getD i ⟨A1, H1, undf, false⟩).H.hole = []
            rw [e]
            exact List.isEmpty_iff.1 (hho2 _ (List.getElem_mem hlt))
          · have e : tr.getD i ⟨A1, H1, undf, false⟩ = ⟨A1, H1, undf, false⟩ := by rw [List.getD_eq_getElem?_getD, List.getElem?_eq_none hge]; rfl
            show (tr.getD i ⟨A1, H1, undf, false⟩).H.hole = []
            rw [e]
            exact List.isEmpty_iff.1 hho1
        fine := fun i o ho => by
          rw [Array.all_eq_true_iff_forall_mem] at hfine
          exact hfine o (Array.mem_of_getElem? ho) }
      have hlen : tr.length = ops.size := by simpa using q1
      have hfin : tr.getD ops.size ⟨A1, H1, undf, false⟩ = ⟨A1, H1, undf, false⟩ := by
        rw [List.getD_eq_getElem?_getD, List.getElem?_eq_none (by omega)]; rfl
      have hrep : ∀ k, (Array.replicate ops.size false).getD k false = false := by
        intro k
        simp only [Array.getD_eq_getD_getElem?, Array.getElem?_replicate]
        split <;> rfl
      have hw0 : Rel P ι (tr.getD 0 ⟨A1, H1, undf, false⟩).H { w with drawn := w.drawn + 1 } := by rw [q3]; exact hw.draw _
      have hinv : Inv2 P ops (tr.getD 0 ⟨A1, H1, undf, false⟩).A (fun i => (tr.getD i ⟨A1, H1, undf, false⟩).H) (fun i => (tr.getD i ⟨A1, H1, undf, false⟩).v) (fun i => (tr.getD i ⟨A1, H1, undf, false⟩).wt) ι w a (Array.replicate ops.size false) ι a { w with drawn := w.drawn + 1 } := by
        refine ⟨by simp, fun i hi => by rw [hrep] at hi; simp at hi, Ext.draw _ _ _, ?_, ?_, fun t => ?_, rfl⟩
        · exact hplan.settle (a := 0) (Nat.zero_le _) hw0 (fun k _ _ => by rw [hrep]; simp) (fun k hk => by omega) (fun k _ _ _ => hrep k)
        · rw [q2]; exact hA.1
        · have : cur ops (tr.getD 0 ⟨A1, H1, undf, false⟩).A (fun i => (tr.getD i ⟨A1, H1, undf, false⟩).v) (fun k => (Array.replicate ops.size false).getD k false) t = A.get t := by
            rw [q2]
            rcases dst_cases ops t with ⟨k, hk, hkt⟩ | hno
            · rw [cur_of s2 hk hkt, hrep]; rfl
            · rw [cur_none hno]
          rw [this, q2]; exact hA.2 t
      have := hplan.any hE hg (ι0 := ι) (w0 := w) (a0 := a) ops.size (Array.replicate ops.size false) ι a { w with drawn := w.drawn + 1 } hinv (by
        refine Nat.le_trans (List.length_filter_le _ _) (by simp))
      simp only [hfin] at this
      exact wp_region_any hE.mixed this
    · simp at h
  · simp at h

/-! ### All of it -/
/-- Calls whose answer is known already, and that leave the small heap as it is. -/
noncomputable def known (K : FuncId → Array Value → Option Value) (r : Runner) : Runner
  | .fn f args, H => match K f args with
    | some v => some (.val v, H)
    | none => r (.fn f args) H
  | .code c A, H => r (.code c A) H
  | .loop c A, H => r (.loop c A) H
def KOk (P : Program) (K : FuncId → Array Value → Option Value) : Prop :=
  ∀ f args v, K f args = some v → ∀ ι H args' w, Rel P ι H w → ARel ι args args' → Calls P f args' w (PostF P ι w v H)
theorem known_good {K : FuncId → Array Value → Option Value} (hK : KOk P K) {r : Runner} (hr : Good P r) : Good P (known K r) := by
  refine ⟨fun f args H v H' h ι args' w hw ha => ?_, fun c A H e A' H' h => hr.code c A H e A' H' h, fun c A H e A' H' h => hr.loop c A H e A' H' h, fun c A H v H' h => hr.noVal c A H v H' h, fun c A H v H' h => hr.noValL c A H v H' h⟩
  simp only [known] at h
  cases hk : K f args with
  | none => rw [hk] at h; exact hr.fn f args H v H' h ι args' w hw ha
  | some u =>
    rw [hk] at h
    simp only [Option.some.injEq, Prod.mk.injEq, Out.val.injEq] at h
    obtain ⟨rfl, rfl⟩ := h
    exact hK f args u hk ι H args' w hw ha
noncomputable def runK (P : Program) [Orc P] [Marks] [Lps P] (ft : Nat → Option Func) (K : FuncId → Array Value → Option Value) (n : Nat) : Runner :=
  Nat.rec (motive := fun _ => Runner) (fun _ _ => none) (fun _ ih => known K (stepRun P ft ih (drawRun2 P ft ih))) n

theorem runK_good (hE : EnvOk P ft) (hL : LpsOk P) {K : FuncId → Array Value → Option Value} (hK : KOk P K) : ∀ n, Good P (runK P ft K n)
  | 0 => ⟨fun _ _ _ _ _ h => by simp [runK] at h, fun _ _ _ _ _ _ h => by simp [runK] at h, fun _ _ _ _ _ _ h => by simp [runK] at h, fun _ _ _ _ _ h => by simp [runK] at h, fun _ _ _ _ _ h => by simp [runK] at h⟩
  | n + 1 => known_good hK (Good.step hE hL (runK_good hE hL hK n) (drawRun2_ok hE (runK_good hE hL hK n)))

noncomputable def run (P : Program) [Orc P] [Marks] [Lps P] (ft : Nat → Option Func) (n : Nat) : Runner := runK P ft (fun _ _ => none) n
theorem run_good (hE : EnvOk P ft) (hL : LpsOk P) (n : Nat) : Good P (run P ft n) := runK_good hE hL (fun _ _ _ h => by simp at h) n

end Go.Ev
