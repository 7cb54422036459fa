/- An evaluator of calls, with its laws. No condition. -/
import Derived.Test.YtllmdpfngmbjgaaDoorKB
import Derived.RowKit3
import Derived.ChangeMade
import Derived.LaidLaws
import Derived.LaidSub
namespace Go.Ev
set_option linter.unusedSectionVars false      -- the symbols' class stands for all texts
variable [Syms] {P : Program} [NoFloat P] [Marks] [Orc P] [Lps P] {ft : Nat → Option Func} {ih : Runner}
def loose (o : Oper) : Bool := match o.op with | .makeSlice .. => true | _ => false
def looseAt (ops : Array Oper) (k : Nat) : Bool := ((ops[k]?).map loose).getD false
def ordAt (ops : Array Oper) (k : Nat) : Bool := !readerAt ops k && !looseAt ops k
theorem loose_not_reader {o : Oper} (h : loose o = true) : reader o = false := by
  unfold loose at h
  unfold reader
  cases ho : o.op <;> rw [ho] at h <;> simp at h ⊢
def stLo (ms : List Nat) : List Oper → Nat → Nat → Nat → Bool
  | [], _, _, _ => true
  | o :: l, i, lo, od => (reader o || (if loose o then subM od (ms.getD i 0) else subM (lo ||| od) (ms.getD i 0))) &&
    stLo ms l (i + 1) (if loose o then lo ||| 2 ^ i else lo) (if reader o || loose o then od else od ||| 2 ^ i)
theorem stLo_ok {ops : Array Oper} {ms : List Nat} : ∀ (l : List Oper) (i lo od : Nat), (∀ j, l[j]? = ops[i + j]?) → stLo ms l i lo od = true →
    (∀ k x, k < i → ops[k]? = some x → (loose x = true → lo.testBit k = true) ∧ (reader x = false → loose x = false → od.testBit k = true)) →
    ∀ k j x y, k < j → i ≤ j → ops[k]? = some x → ops[j]? = some y → reader x = false → reader y = false → (loose x && loose y) = false → pr ms k j = true
  | [], i, lo, od, hl, h, hi => by
    intro k j x y _ hj _ hy
    have := hl (j - i)
    rw [show i + (j - i) = j by omega, hy] at this
    simp at this
  | o :: l, i, lo, od, hl, h, hi => by
    have ho : ops[i]? = some o := by have := hl 0; simpa using this.symm
    simp only [stLo, Bool.and_eq_true] at h
    obtain ⟨h1, h2⟩ := h
    have hr := stLo_ok l (i + 1) _ _ (fun j => by
      have := hl (j + 1)
      simp only [List.getElem?_cons_succ] at this
      rw [this, show i + (j + 1) = i + 1 + j by omega]) h2 (fun k x hk hx => by
      rcases Nat.lt_or_ge k i with hki | hki
      · obtain ⟨a1, a2⟩ := hi k x hki hx
        refine ⟨fun hq => ?_, fun hq hq2 => ?_⟩
        · split
          · rw [Nat.testBit_or, a1 hq]; rfl
          · exact a1 hq
        · split
          · exact a2 hq hq2
          · rw [Nat.testBit_or, a2 hq hq2]; rfl
      · have hki : k = i := by omega
        subst hki
        rw [ho] at hx
        cases hx
        refine ⟨fun hq => ?_, fun hq hq2 => ?_⟩
        · rw [if_pos hq, Nat.testBit_or, Nat.testBit_two_pow]; simp
        · rw [if_neg (by simp [hq, hq2]), Nat.testBit_or, Nat.testBit_two_pow]; simp)
    intro k j x y hkj hj hx hy hrx hry hlo
    rcases Nat.lt_or_ge i j with hij | hij
    · exact hr k j x y hkj (by omega) hx hy hrx hry hlo
    · have hji : j = i := by omega
      subst hji
      rw [ho] at hy
      cases hy
      obtain ⟨a1, a2⟩ := hi k x hkj hx
      rw [hry, Bool.false_or] at h1
      cases hlo2 : loose o with
      | true =>
        rw [hlo2] at h1 hlo
        rw [Bool.and_true] at hlo
        rw [if_pos rfl] at h1
        exact subM_bit h1 (a2 hrx hlo)
      | false =>
        rw [hlo2, if_neg (by simp)] at h1
        refine subM_bit h1 ?_
        rw [Nat.testBit_or]
        cases hlx : loose x with
        | true => rw [a1 hlx]; rfl
        | false => rw [a2 hrx hlx, Bool.or_true]
structure Plan2 (P : Program) [Orc P] (ft : Nat → Option Func) (ih : Runner) (ops : Array Oper) (ms : List Nat) (FA : Nat → Fr) (FH : Nat → Heap) (val : Nat → Value) (wt : Nat → Bool) : Prop where
  just : Just ops.toList ms
  low : ∀ (i : Nat) (o : Oper), ops[i]? = some o → ∀ e ∈ o.after, Region.binds .any e = true → e.on < i
  dist : Distinct ops
  data : ∀ (i : Nat) (o : Oper) (k : Nat) (t : Tmp), ops[i]? = some o → k < ops.size → dstOf ops k = some t → t ∈ o.looksAt ops → (k < i → pr ms k i = true) ∧ (i < k → pr ms i k = true)
  eff : ∀ i k, i < ops.size → k < ops.size → readerAt ops i = false → readerAt ops k = false → (looseAt ops i && looseAt ops k) = false → k < i → pr ms k i = true
  tr : Tr P ft ih ops ops.toList FA FH val wt
  rd : ∀ (i : Nat) (o : Oper), ops[i]? = some o → reader o = true → wt i = true → pexec P (FA i).get o = some (val i)
  nw : ∀ (i : Nat) (o : Oper), ops[i]? = some o → loose o = true → wt i = true → ∃ t l c, o.op = .makeSlice t l c ∧ amakeO P t (opv (FA i).get l) (opv (FA i).get c) (FH i) = some (val i, FH (i + 1))
  hole : ∀ i, i ≤ ops.size → (FH i).hole = []
  fine : ∀ (i : Nat) (o : Oper), ops[i]? = some o → fineO P.globals.size o = true
section
variable {ops : Array Oper} {ms : List Nat} {FA : Nat → Fr} {FH : Nat → Heap} {val : Nat → Value} {wt : Nat → Bool}
theorem Plan2.prLow (h : Plan2 P ft ih ops ms FA FH val wt) : ∀ i k, pr ms k i = true → k < i := by
  intro i
  induction i using Nat.strongRecOn with
  | _ i ihi =>
    intro k hk
    obtain ⟨o, e, h1, h2, h3, h4⟩ := h.just i k hk
    have := h.low i o (by simpa using h1) e (by simpa using h2) h3
    rcases h4 with rfl | ⟨h5, h6⟩
    · exact this
    · have := ihi e.on h5 k h6
      omega
theorem Plan2.s1 (h : Plan2 P ft ih ops ms FA FH val wt) {L : Array Bool} (hd : DC ops L) : ∀ i, L.getD i false = true → ∀ k, pr ms k i = true → L.getD k false = true := by
  intro i
  induction i using Nat.strongRecOn with
  | _ i ihi =>
    intro hi k hk
    obtain ⟨o, e, h1, h2, h3, h4⟩ := h.just i k hk
    have := hd i hi o (by simpa using h1) e (by simpa using h2) h3
    rcases h4 with rfl | ⟨h5, h6⟩
    · exact this
    · exact ihi e.on h5 this k h6
theorem Plan2.s1r (h : Plan2 P ft ih ops ms FA FH val wt) {L : Array Bool} (hd : DC ops L) {i : Nat} (hi : i ∈ Region.ready .any ops L) (k : Nat) (hk : pr ms k i = true) : L.getD k false = true := by
  obtain ⟨o, e, h1, h2, h3, h4⟩ := h.just i k hk
  obtain ⟨_, o', ho', hall⟩ := mem_ready.1 hi
  have e1 : o = o' := by rw [Array.getElem?_toList] at h1; rw [h1] at ho'; exact Option.some.inj ho'
  subst e1
  have := hall e (by simpa using h2) h3
  rcases h4 with rfl | ⟨h5, h6⟩
  · exact this
  · exact h.s1 hd e.on this k h6
structure Grow (ops : Array Oper) (FH : Nat → Heap) (wt : Nat → Bool) (a b : Nat) : Prop where
  base : (FH b).base = (FH a).base
  next : (FH a).next ≤ (FH b).next
  get : ∀ n, (∀ k, a ≤ k → k < b → looseAt ops k = true → wt k = true → n ≠ (FH k).next) → (FH b).get n = (FH a).get n
  nid : ∀ k, a ≤ k → k < b → looseAt ops k = true → wt k = true → (FH a).next ≤ (FH k).next ∧ (FH k).next < (FH b).next
theorem Plan2.one (h : Plan2 P ft ih ops ms FA FH val wt) {b : Nat} (hb : b < ops.size) (hn : ordAt ops b = false) : (FH (b + 1) = FH b ∧ (looseAt ops b && wt b) = false) ∨ (looseAt ops b = true ∧ wt b = true ∧ ∃ x, FH (b + 1) = (FH b).new x) := by
  have ho : ops[b]? = some ops[b] := by simp [hb]
  have hol : ops.toList[b]? = some ops[b] := by simp [hb]
  have hlo : looseAt ops b = loose ops[b] := by unfold looseAt; rw [ho]; rfl
  have hrd : readerAt ops b = reader ops[b] := by unfold readerAt; rw [ho]; rfl
  cases hw : wt b with
  | false => exact .inl ⟨(h.tr.no _ _ hol hw).2, by simp⟩
  | true =>
    cases hl : loose ops[b] with
    | true =>
      obtain ⟨t, l, c, _, h2⟩ := h.nw b _ ho hl hw
      exact .inr ⟨hlo.trans hl, rfl, amakeO_new h2⟩
    | false =>
      refine .inl ⟨?_, by rw [hlo, hl]; rfl⟩
      have hr : reader ops[b] = true := by
        unfold ordAt at hn
        rw [hlo, hl, hrd] at hn
        simpa using hn
      have h1 := h.rd b _ ho hr hw
      have h2 := h.tr.yes _ _ hol hw
      unfold stepVal at h2
      rw [rexec_ok (pexec_ok h1 (FH b))] at h2
      simp only [Option.some.injEq, Prod.mk.injEq, true_and] at h2
      exact h2.symm
theorem Plan2.grow (h : Plan2 P ft ih ops ms FA FH val wt) {a : Nat} : ∀ d, a + d ≤ ops.size → (∀ k, a ≤ k → k < a + d → ordAt ops k = false) → Grow ops FH wt a (a + d)
  | 0, _, _ => ⟨rfl, Nat.le_refl _, fun _ _ => rfl, fun k h1 h2 => by omega⟩
  | d + 1, hd, hn => by
    have g := h.grow d (by omega) fun k h1 h2 => hn k h1 (by omega)
    rcases h.one (b := a + d) (by omega) (hn _ (by omega) (by omega)) with ⟨e, hno⟩ | ⟨hl, hw, x, e⟩
    · refine ⟨?_, ?_, fun n hq => ?_, fun k h1 h2 h3 h4 => ?_⟩
      · show (FH (a + d + 1)).base = _
        rw [e]; exact g.base
      · show _ ≤ (FH (a + d + 1)).next
        rw [e]; exact g.next
      · show (FH (a + d + 1)).get n = _
        rw [e]; exact g.get n fun k h1 h2 => hq k h1 (by omega)
      · show _ ∧ _ < (FH (a + d + 1)).next
        rw [e]
        rcases Nat.lt_or_ge k (a + d) with hk | hk
        · exact g.nid k h1 hk h3 h4
        · have hkk : k = a + d := by omega
          subst hkk
          rw [h3, h4] at hno
          simp at hno
    · refine ⟨?_, ?_, fun n hq => ?_, fun k h1 h2 h3 h4 => ?_⟩
      · show (FH (a + d + 1)).base = _
        rw [e, Heap.base_new]; exact g.base
      · show _ ≤ (FH (a + d + 1)).next
        rw [e, Heap.next_new]; have := g.next; omega
      · show (FH (a + d + 1)).get n = _
        rw [e, Heap.get_new, if_neg (hq (a + d) (by omega) (by omega) hl hw)]
        exact g.get n fun k h1 h2 => hq k h1 (by omega)
      · show _ ∧ _ < (FH (a + d + 1)).next
        rw [e, Heap.next_new]
        rcases Nat.lt_or_ge k (a + d) with hk | hk
        · have := g.nid k h1 hk h3 h4; omega
        · have hkk : k = a + d := by omega
          subst hkk
          exact ⟨g.next, by omega⟩
theorem nextOrd (ops : Array Oper) : ∀ d a, a + d = ops.size → ∃ c, a ≤ c ∧ c ≤ ops.size ∧ (c < ops.size → ordAt ops c = true) ∧ ∀ k, a ≤ k → k < c → ordAt ops k = false
  | 0, a, h => ⟨a, Nat.le_refl _, by omega, fun hlt => by omega, fun k h1 h2 => by omega⟩
  | d + 1, a, h => by
    cases hb : ordAt ops a with
    | true => exact ⟨a, Nat.le_refl _, by omega, fun _ => hb, fun k h1 h2 => by omega⟩
    | false =>
      obtain ⟨c, h1, h2, h3, h4⟩ := nextOrd ops d (a + 1) (by omega)
      exact ⟨c, by omega, h2, h3, fun k q1 q2 => by
        rcases Nat.lt_or_ge a k with hk | hk
        · exact h4 k hk q2
        · have : k = a := by omega
          subst this; exact hb⟩
def Gone (ops : Array Oper) (FH : Nat → Heap) (wt : Nat → Bool) (L : Nat → Bool) (c : Nat) (n : Nat) : Prop := ∃ k, k < c ∧ looseAt ops k = true ∧ wt k = true ∧ L k = false ∧ n = (FH k).next
structure HeapAt (P : Program) (ops : Array Oper) (FH : Nat → Heap) (wt : Nat → Bool) (L : Nat → Bool) (ι : Inj) (w : World) (c : Nat) (X : Heap) : Prop where
  le : c ≤ ops.size
  ord : c < ops.size → ordAt ops c = true
  done : ∀ k, k < ops.size → ordAt ops k = true → (k < c ↔ L k = true)
  made : ∀ k, k < ops.size → looseAt ops k = true → L k = true → k < c
  base : X.base = (FH c).base
  next : X.next = (FH c).next
  get : ∀ n, ¬ Gone ops FH wt L c n → X.get n = (FH c).get n
  gone : ∀ n, Gone ops FH wt L c n → X.get n = none ∧ n ∈ X.hole
  rel : Rel P ι X w
theorem Plan2.settle (h : Plan2 P ft ih ops ms FA FH val wt) {L : Nat → Bool} {ι : Inj} {w : World} {a : Nat} (ha : a ≤ ops.size) (hr : Rel P ι (FH a) w) (hd : ∀ k, k < ops.size → ordAt ops k = true → (k < a ↔ L k = true))
    (hm : ∀ k, k < a → looseAt ops k = true → L k = true) (hu : ∀ k, a ≤ k → k < ops.size → looseAt ops k = true → L k = false) : ∃ c X, HeapAt P ops FH wt L ι w c X := by
  let gl (c : Nat) : List Nat := (List.range c).filterMap fun k => if looseAt ops k && wt k && !L k then some (FH k).next else none
  have hgl : ∀ c n, n ∈ gl c ↔ Gone ops FH wt L c n := fun c n => by
    simp only [gl, List.mem_filterMap, List.mem_range]
    constructor
    · rintro ⟨k, k1, k2⟩
      split at k2
      · rename_i hc
        simp only [Bool.and_eq_true, Bool.not_eq_true'] at hc
        simp only [Option.some.injEq] at k2
        exact ⟨k, k1, hc.1.1, hc.1.2, hc.2, k2.symm⟩
      · simp at k2
    · rintro ⟨k, k1, k2, k3, k4, rfl⟩
      exact ⟨k, k1, by rw [k2, k3, k4]; rfl⟩
  obtain ⟨c, c1, c2, c3, c4⟩ := nextOrd ops (ops.size - a) a (by omega)
  have g := h.grow (a := a) (c - a) (by omega) fun k h1 h2 => c4 k h1 (by omega)
  rw [show a + (c - a) = c by omega] at g
  have hgone : ∀ n, Gone ops FH wt L c n → ∃ k, a ≤ k ∧ k < c ∧ looseAt ops k = true ∧ wt k = true ∧ n = (FH k).next := fun n ⟨k, k1, k2, k3, k4, k5⟩ => by
    rcases Nat.lt_or_ge k a with hk | hk
    · rw [hm k hk k2] at k4; simp at k4
    · exact ⟨k, hk, k1, k2, k3, k5⟩
  refine ⟨c, { base := (FH a).base, next := (FH c).next, m := (FH a).m, hole := gl c }, c2, c3, fun k hk ho => ?_, fun k hk hl hL => ?_, g.base.symm, rfl, fun n hn => ?_, fun n hn => ?_, hr.same rfl g.next (fun n hn => .inr ?_) fun _ => rfl⟩
  · rw [← hd k hk ho]
    constructor
    · intro hkc
      rcases Nat.lt_or_ge k a with hka | hka
      · exact hka
      · rw [c4 k hka hkc] at ho; simp at ho
    · intro hka; omega
  · rcases Nat.lt_or_ge k a with hka | hka
    · omega
    · rw [hu k hka hk hl] at hL; simp at hL
  · refine (g.get n fun k k1 k2 k3 k4 e => hn ⟨k, k2, k3, k4, hu k k1 (by omega) k3, e⟩).symm
  · obtain ⟨k, k1, k2, k3, k4, rfl⟩ := hgone n hn
    have hge := (g.nid k k1 k2 k3 k4).1
    have hι := hr.fresh _ hge
    refine ⟨?_, (hgl c _).2 hn⟩
    show (FH a).get (FH k).next = none
    cases hq : (FH a).get (FH k).next with
    | none => rfl
    | some b =>
      obtain ⟨i, o, hi, _⟩ := hr.live _ _ hq
      rw [hι] at hi
      simp at hi
  · obtain ⟨k, k1, k2, k3, k4, rfl⟩ := hgone n ((hgl c n).1 hn)
    have hge := (g.nid k k1 k2 k3 k4).1
    exact ⟨(g.nid k k1 k2 k3 k4).2, hr.fresh _ hge⟩
structure Inv2 (P : Program) (ops : Array Oper) (A0 : Fr) (FH : Nat → Heap) (val : Nat → Value) (wt : Nat → Bool) (ι0 : Inj) (w0 : World) (a0 : Act) (L : Array Bool) (ι : Inj) (a : Act) (w : World) : Prop where
  size : L.size = ops.size
  dc : DC ops L
  ext : Ext P ι0 w0 ι w
  heap : ∃ c X, HeapAt P ops FH wt (fun k => L.getD k false) ι w c X
  tsize : a.tmps.size = A0.size
  frame : ∀ t, PRelV ι A0.opn (cur ops A0 val (fun k => L.getD k false) t) (a.tmps.getD t undf)
  defers : a.defers = a0.defers
theorem Plan2.step (hE : EnvOk P ft) (hg : Good P ih) (h : Plan2 P ft ih ops ms FA FH val wt) {ι0 : Inj} {w0 : World} {a0 : Act} {L : Array Bool} {ι : Inj} {a : Act} {w : World}
    (hv : Inv2 P ops (FA 0) FH val wt ι0 w0 a0 L ι a w) {i : Nat} (hi : i ∈ Region.ready .any ops L) {K : Act → World → Prop} {Q : Exit → Act → World → Prop}
    (hK : ∀ ι' a' w', Inv2 P ops (FA 0) FH val wt ι0 w0 a0 (L.setIfInBounds i true) ι' a' w' → K a' w') : wpOp P ops Q i K a w := by
  obtain ⟨hun, o, ho, hall⟩ := mem_ready.1 hi
  have hin : i < ops.size := (Array.getElem?_eq_some_iff.1 ho).1
  have hol : ops.toList[i]? = some o := by simpa using ho
  have hiL : i < L.size := by rw [hv.size]; exact hin
  have hLi : L.getD i false = false := by
    have : L.getD i true = L.getD i false := by simp [hiL]
    rw [← this]; exact hun
  -- who is there
  have later : ∀ k, pr ms i k = true → L.getD k false = false := fun k hk => by
    cases hb : L.getD k false with
    | false => rfl
    | true => rw [h.s1 hv.dc k hb i hk] at hLi; exact absurd hLi (by simp)
  have earlier : ∀ k, pr ms k i = true → L.getD k false = true := fun k hk => h.s1r hv.dc hi k hk
  -- the frame that it looks at
  have looks : ∀ t, t ∈ o.looksAt ops → cur ops (FA 0) val (fun k => L.getD k false) t = (FA i).get t := by
    intro t ht
    rw [(lexFrame h.dist h.tr i (by omega)).2.2 t]
    rcases dst_cases ops t with ⟨k, hk, hkt⟩ | hno
    · rw [cur_of h.dist hk hkt, cur_of h.dist hk hkt]
      obtain ⟨d1, d2⟩ := h.data i o k t ho hk hkt ht
      rcases Nat.lt_trichotomy k i with hlt | heq | hgt
      · simp [earlier k (d1 hlt), hlt]
      · subst heq; simp [hLi]
      · simp [later k (d2 hgt), show ¬ k < i by omega]
    · rw [cur_none hno, cur_none hno]
  have hsz : (FA i).size = (FA 0).size := (lexFrame h.dist h.tr i (by omega)).1
  have hlook : ∀ t, t ∈ o.looksAt ops → VRel ι ((FA i).get t) (a.tmps.getD t undf) := fun t ht => by
    have h1 := hv.frame t
    rw [looks t ht, ← (lexFrame h.dist h.tr i (by omega)).2.1] at h1
    exact h1.known (lookOk_ok (h.tr.look i o hol) ht)
  obtain ⟨c, X, hX⟩ := hv.heap
  have hrel := hX.rel
  have hops : ∀ x ∈ o.op.operands, VRel ι (opv (FA i).get x) (a.eval x) := by
    intro x hx
    have hf : fineX P.globals.size x = true := by
      have := h.fine i o ho
      unfold fineO at this
      rw [Array.all_eq_true_iff_forall_mem] at this
      exact this x hx
    cases x with
    | tmp t => exact hlook t (List.mem_append_left _ (List.mem_filterMap.2 ⟨.tmp t, by simpa using hx, rfl⟩))
    | const v => exact ground_rel hf
    | global n =>
      have hn : n < P.globals.size := by simpa [fineX] using hf
      obtain ⟨j, h1, h2, h3⟩ := hrel.glob n (by rw [hrel.gsize]; exact hn)
      exact AddrRel.ptr (ι := ι) (a := ⟨n, 0, none⟩) (a' := ⟨n, 0, none⟩) ⟨j, h1, by simp [h2, h3]⟩
    | func f => exact .func _ rfl (fun k hk => by simp at hk) rfl (fun k hk => by simp at hk)
  -- whether it is carried out
  have hwant : Region.wanted o (yielded ops a.tmps) = wt i := by
    rw [h.tr.wanted i o hol]
    unfold Region.wanted
    cases hgd : o.guard with
    | none => rfl
    | some gw =>
      obtain ⟨g, want⟩ := gw
      have : yieldA ops (FA i) g = yielded ops a.tmps g := yieldA_at (by rw [hv.tsize, ← hsz]) ops g fun d hd => hlook d (List.mem_append_right _ (by simp [hgd, hd]))
      simp only [this]
  -- what is listed then
  have hset := set_get hiL
  have hdc' : DC ops (L.setIfInBounds i true) := by
    intro k hk o' ho' e he hb
    rw [hset] at hk ⊢
    by_cases hki : k = i
    · subst hki
      rw [ho] at ho'
      cases ho'
      split
      · rfl
      · exact hall e he hb
    · rw [if_neg hki] at hk
      split
      · rfl
      · exact hv.dc k hk o' ho' e he hb
  have hframe : ∀ ι' v', Sub ι ι' → VRel ι' (val i) v' → (a.put o.dst v').tmps.size = (FA 0).size ∧ ∀ t, PRelV ι' (FA 0).opn (cur ops (FA 0) val (fun k => (L.setIfInBounds i true).getD k false) t) ((a.put o.dst v').tmps.getD t undf) := by
    intro ι' v' hs hvv
    have hdi : dstOf ops i = o.dst := by simp [dstOf, ho]
    have hput := h.tr.put i o hol
    refine ⟨by cases hd : o.dst <;> simp [Act.put, hv.tsize], fun t => ?_⟩
    by_cases htd : o.dst = some t
    · rw [cur_of h.dist hin (hdi.trans htd), if_pos (by rw [hset, if_pos rfl])]
      have htlt : t < a.tmps.size := by
        rw [hv.tsize, ← hsz]
        rw [htd] at hput
        simp only [Fr.put_some] at hput
        split at hput
        · assumption
        · simp at hput
      have : (a.put o.dst v').tmps.getD t undf = v' := by rw [htd]; simp [Act.put, htlt]
      rw [this]; exact .inr hvv
    · have e1 : (a.put o.dst v').tmps.getD t undf = a.tmps.getD t undf := by
        cases hd : o.dst with
        | none => rfl
        | some d =>
          have hne : ¬ d = t := fun e => htd (by rw [hd, e])
          simp [Act.put, hne]
      rw [e1]
      have e2 : cur ops (FA 0) val (fun k => (L.setIfInBounds i true).getD k false) t = cur ops (FA 0) val (fun k => L.getD k false) t := by
        rcases dst_cases ops t with ⟨k, hk, hkt⟩ | hno
        · have hki : k ≠ i := by
            intro e
            subst e
            exact htd (hdi.symm.trans hkt)
          rw [cur_of h.dist hk hkt, cur_of h.dist hk hkt, hset, if_neg hki]
        · rw [cur_none hno, cur_none hno]
      rw [e2]
      exact (hv.frame t).mono hs
  -- where the heap stands
  have hset' : ∀ k, (fun k => (L.setIfInBounds i true).getD k false) k = if k = i then true else L.getD k false := hset
  have keepN : ∀ ι' w', Rel P ι' X w' → (looseAt ops i && wt i) = false → ordAt ops i = false → HeapAt P ops FH wt (fun k => (L.setIfInBounds i true).getD k false) ι' w' c X := by
    intro ι' w' hr' hno hoi
    have hgo : ∀ n, Gone ops FH wt (fun k => (L.setIfInBounds i true).getD k false) c n ↔ Gone ops FH wt (fun k => L.getD k false) c n := by
      intro n
      constructor
      · rintro ⟨k, k1, k2, k3, k4, k5⟩
        (try dsimp only at k4); rw [hset] at k4
        refine ⟨k, k1, k2, k3, ?_, k5⟩
        split at k4
        · simp at k4
        · exact k4
      · rintro ⟨k, k1, k2, k3, k4, k5⟩
        refine ⟨k, k1, k2, k3, ?_, k5⟩
        (try dsimp only); rw [hset, if_neg]
        · exact k4
        · intro e
          subst e
          rw [k2, k3] at hno
          simp at hno
    refine ⟨hX.le, hX.ord, fun k hk hok => ?_, fun k hk hl hL => ?_, hX.base, hX.next, fun n hn => hX.get n fun hq => hn ((hgo n).2 hq), fun n hn => hX.gone n ((hgo n).1 hn), hr'⟩
    · (try dsimp only); rw [hset, if_neg]
      · exact hX.done k hk hok
      · intro e; subst e; rw [hoi] at hok; simp at hok
    · (try dsimp only at hL); rw [hset] at hL
      split at hL
      · rename_i e
        subst e
        have hic : c ≤ k → False := fun hck => by
          rcases Nat.eq_or_lt_of_le hck with e | hlt
          · subst e
            have := hX.ord hk
            rw [hoi] at this; simp at this
          · have hcs : c < ops.size := by omega
            have hco := hX.ord hcs
            have hcr : readerAt ops c = false := by unfold ordAt at hco; simp at hco; exact hco.1
            have hclo : looseAt ops c = false := by unfold ordAt at hco; simp at hco; exact hco.2
            have hkr : readerAt ops k = false := by
              unfold looseAt at hl
              unfold readerAt
              rw [ho] at hl ⊢
              exact loose_not_reader hl
            have := earlier c (h.eff k c hk hcs hkr hcr (by rw [hclo, Bool.and_false]) hlt)
            have := (hX.done c hcs hco).2 this
            omega
        rcases Nat.lt_or_ge k c with hlt | hge
        · exact hlt
        · exact (hic hge).elim
      · exact hX.made k hk hl hL
  have hlo : looseAt ops i = loose o := by unfold looseAt; rw [ho]; rfl
  have hrdi : readerAt ops i = reader o := by unfold readerAt; rw [ho]; rfl
  have looseLt : looseAt ops i = true → i < c := by
    intro hli
    have hlo' : loose o = true := hlo.symm.trans hli
    have hkr : readerAt ops i = false := hrdi.trans (loose_not_reader hlo')
    rcases Nat.lt_or_ge i c with hlt | hge
    · exact hlt
    · have hcs : c < ops.size := by omega
      have hco := hX.ord hcs
      have hcr : readerAt ops c = false := by unfold ordAt at hco; simp at hco; exact hco.1
      have hclo : looseAt ops c = false := by unfold ordAt at hco; simp at hco; exact hco.2
      have hne : c ≠ i := by intro e; subst e; rw [hli] at hclo; simp at hclo
      have h1 := earlier c (h.eff i c hin hcs hkr hcr (by rw [hclo, Bool.and_false]) (by omega))
      have := (hX.done c hcs hco).2 h1
      omega
  have ordC : ordAt ops i = true → i = c := by
    intro hoi
    have h1 := hX.done i hin hoi
    have : ¬ i < c := fun hlt => by rw [h1.1 hlt] at hLi; simp at hLi
    rcases Nat.eq_or_lt_of_le (Nat.le_of_not_lt this) with e | hlt
    · exact e.symm
    · have hcs : c < ops.size := by omega
      have hco := hX.ord hcs
      have hcr : readerAt ops c = false := by unfold ordAt at hco; simp at hco; exact hco.1
      have hclo : looseAt ops c = false := by unfold ordAt at hco; simp at hco; exact hco.2
      have hir : readerAt ops i = false := by unfold ordAt at hoi; simp at hoi; exact hoi.1
      have h2 := earlier c (h.eff i c hin hcs hir hcr (by rw [hclo, Bool.and_false]) hlt)
      have := (hX.done c hcs hco).2 h2
      omega
  have loseN : ordAt ops i = true → ∀ k, looseAt ops k = true → k < ops.size → (k < i → L.getD k false = true) ∧ (i < k → L.getD k false = false) := by
    intro hoi k hk hks
    have hir : readerAt ops i = false := by unfold ordAt at hoi; simp at hoi; exact hoi.1
    have hil : looseAt ops i = false := by unfold ordAt at hoi; simp at hoi; exact hoi.2
    have hkr : readerAt ops k = false := by
      have ho' : ops[k]? = some ops[k] := by simp [hks]
      unfold looseAt at hk
      unfold readerAt
      rw [ho'] at hk ⊢
      exact loose_not_reader hk
    exact ⟨fun hlt => earlier k (h.eff i k hin hks hir hkr (by rw [hil]; rfl) hlt), fun hlt => later k (h.eff k i hks hin hkr hir (by rw [hil, Bool.and_false]) hlt)⟩
  have ordX : ordAt ops i = true → Rel P ι (FH i) w := by
    intro hoi
    have hic := ordC hoi
    have hng : ∀ n, ¬ Gone ops FH wt (fun k => L.getD k false) c n := by
      rintro n ⟨k, k1, k2, k3, k4, k5⟩
      have := (loseN hoi k k2 (by have := hX.le; omega)).1 (by omega)
      dsimp only at k4
      rw [this] at k4
      simp at k4
    rw [hic]
    exact hX.rel.same hX.base.symm (by rw [hX.next]; exact Nat.le_refl _) (fun n hn => by rw [h.hole c hX.le] at hn; simp at hn) fun n => (hX.get n (hng n)).symm
  have ordN : ordAt ops i = true → ∀ ι' w', Rel P ι' (FH (i + 1)) w' → ∃ c X, HeapAt P ops FH wt (fun k => (L.setIfInBounds i true).getD k false) ι' w' c X := by
    intro hoi ι' w' hr'
    have hic := ordC hoi
    refine h.settle (by omega) hr' (fun k hk hok => ?_) (fun k hk hkl => ?_) (fun k hk hks hkl => ?_)
    · (try dsimp only); rw [hset]
      by_cases hki : k = i
      · rw [if_pos hki]; simp; omega
      · rw [if_neg hki, ← hX.done k hk hok]
        constructor
        · intro _; omega
        · intro _; omega
    · (try dsimp only); rw [hset]
      by_cases hki : k = i
      · rw [if_pos hki]
      · rw [if_neg hki]
        exact (loseN hoi k hkl (by omega)).1 (by omega)
    · (try dsimp only); rw [hset, if_neg (by omega)]
      exact (loseN hoi k hkl hks).2 (by omega)
  unfold wpOp
  simp only [ho]
  rw [hwant]
  have inv2 : ∀ ι' a' w' v', Ext P ι w ι' w' → VRel ι' (val i) v' → a' = a.put o.dst v' → (∃ c X, HeapAt P ops FH wt (fun k => (L.setIfInBounds i true).getD k false) ι' w' c X) → K a' w' := by
    intro ι' a' w' v' x1 hvv ha' hh
    subst ha'
    obtain ⟨f1, f2⟩ := hframe ι' v' x1.sub hvv
    exact hK ι' _ w' ⟨by simpa using hv.size, hdc', hv.ext.trans x1, hh, f1, f2, (put_defers _ _ _).trans hv.defers⟩
  have noEff : wt i = false → K (a.put o.dst undef) w := by
    intro hw
    refine inv2 ι _ w undef (Ext.refl _ _) (by rw [(h.tr.no i o hol hw).1]; exact VRel.undf) rfl ?_
    cases hoi : ordAt ops i with
    | false => exact ⟨c, X, keepN ι w hX.rel (by rw [hw, Bool.and_false]) hoi⟩
    | true => exact ordN hoi ι w (by rw [(h.tr.no i o hol hw).2]; exact ordX hoi)
  cases hw : wt i with
  | false =>
    rw [if_neg (by simp)]
    exact noEff hw
  | true =>
    rw [if_pos rfl]
    refine .inl ?_
    cases hrd : reader o with
    | true =>
      have hno : loose o = false := by
        cases hl : loose o with
        | false => rfl
        | true => rw [loose_not_reader hl] at hrd; simp at hrd
      have h1 := pexec_ok (ft := ft) (h.rd i o ho hrd hw) X
      have h2 : stepVal P ft ih o (FA i) X = some (val i, X) := by unfold stepVal; rw [rexec_ok h1]
      exact stepVal_ok hE hg h2 hX.rel hops fun ι' v' w' x1 r1 hvv => inv2 ι' _ w' v' x1 hvv rfl ⟨c, X, keepN ι' w' r1 (by rw [hlo, hno]; rfl) (by unfold ordAt; rw [hrdi, hrd]; rfl)⟩
    | false =>
      cases hl : loose o with
      | false =>
        have hoi : ordAt ops i = true := by unfold ordAt; rw [hrdi, hlo, hrd, hl]; rfl
        exact stepVal_ok hE hg (h.tr.yes i o hol hw) (ordX hoi) hops fun ι' v' w' x1 r1 hvv => inv2 ι' _ w' v' x1 hvv rfl (ordN hoi ι' w' r1)
      | true =>
        obtain ⟨t, l, m, hop, hmk⟩ := h.nw i o ho hl hw
        have hli : looseAt ops i = true := hlo.trans hl
        have hgone : Gone ops FH wt (fun k => L.getD k false) c (FH i).next := ⟨i, looseLt hli, hli, hw, hLi, rfl⟩
        have hic := looseLt hli
        obtain ⟨b, hb⟩ := amakeO_new hmk
        obtain ⟨g0, g1⟩ := hX.gone _ hgone
        obtain ⟨g2, g3⟩ := hX.rel.hole _ g1
        have hgr := h.grow (a := i + 1) (c - (i + 1)) (by have := hX.le; omega) fun k h1 h2 => by
          cases hok : ordAt ops k with
          | false => rfl
          | true =>
            have hks : k < ops.size := by have := hX.le; omega
            have hkd := (hX.done k hks hok).1 (by omega)
            have hkr : readerAt ops k = false := by unfold ordAt at hok; simp at hok; exact hok.1
            have hkl : looseAt ops k = false := by unfold ordAt at hok; simp at hok; exact hok.2
            have := later k (h.eff k i hks hin hkr (hrdi.trans hrd) (by rw [hkl]; rfl) (by omega))
            rw [this] at hkd
            simp at hkd
        rw [show i + 1 + (c - (i + 1)) = c by omega] at hgr
        have hnid : ∀ k, k < c → looseAt ops k = true → wt k = true → k ≠ i → (k < i → L.getD k false = false) → (FH k).next ≠ (FH i).next := by
          intro k hk hkl hkw hki hku
          rcases Nat.lt_or_ge k i with hlt | hge
          · have g' := h.grow (a := k) (i - k) (by omega) (fun j h1 h2 => by
              cases hok : ordAt ops j with
              | false => rfl
              | true =>
                have hjs : j < ops.size := by omega
                have hjd := (hX.done j hjs hok).1 (by omega)
                have hjr : readerAt ops j = false := by unfold ordAt at hok; simp at hok; exact hok.1
                have hjl : looseAt ops j = false := by unfold ordAt at hok; simp at hok; exact hok.2
                have hkr : readerAt ops k = false := by
                  have ho' : ops[k]? = some ops[k] := by simp [show k < ops.size by omega]
                  unfold looseAt at hkl
                  unfold readerAt
                  rw [ho'] at hkl ⊢
                  exact loose_not_reader hkl
                have hkj : k ≠ j := by intro e; subst e; rw [hkl] at hjl; simp at hjl
                have h3 := h.s1 hv.dc j hjd k (h.eff j k hjs (by omega) hjr hkr (by rw [hjl]; rfl) (by omega))
                rw [hku hlt] at h3
                simp at h3)
            rw [show k + (i - k) = i by omega] at g'
            have := (g'.nid k (Nat.le_refl _) hlt hkl hkw).2
            omega
          · have := (hgr.nid k (by omega) hk hkl hkw).1
            rw [hb, Heap.next_new] at this
            omega
        let X' : Heap := { X with m := X.m.set (FH i).next (some b), hole := X.hole.filter fun n => decide (n ≠ (FH i).next) }
        have hX'get : ∀ n, X'.get n = if n = (FH i).next then some b else X.get n := fun n => T.get_set _ _ _ _
        unfold Oper.wp
        have e : execOp a.eval o = (do Pure.pure (.value (← Instr.makeSlice t (a.eval l) (a.eval m)))) := by unfold execOp; rw [hop]
        obtain ⟨j, v', w', e1, x1, r1, q1⟩ := amakeO_at hE.zero (hops l (by rw [hop]; simp [Op.operands])) (hops m (by rw [hop]; simp [Op.operands])) hmk hX.rel (X' := X') g3 rfl (Nat.le_refl _) g2 (fun n hn => by
          have := List.mem_filter.1 hn
          exact ⟨this.1, by simpa using this.2⟩) (fun n => by rw [hX'get n, hb]; simp)
        rw [e, Sem.run_bind, e1]
        refine inv2 _ _ w' v' x1 q1 rfl ⟨c, X', hX.le, hX.ord, fun k hk hok => ?_, fun k hk hkl hL => ?_, hX.base, hX.next, fun n hn => ?_, fun n hn => ?_, r1⟩
        · (try dsimp only); rw [hset, if_neg]
          · exact hX.done k hk hok
          · intro e; subst e; unfold ordAt at hok; rw [hli] at hok; simp at hok
        · (try dsimp only at hL); rw [hset] at hL
          split at hL
          · rename_i e; subst e; exact hic
          · exact hX.made k hk hkl hL
        · rw [hX'get]
          split
          · rename_i e
            subst e
            rw [hgr.get _ (fun k h1 h2 h3 h4 => fun e => hnid k (by omega) h3 h4 (by omega) (fun hlt => by omega) e.symm), hb, Heap.get_new, if_pos rfl]
          · rename_i hne
            refine hX.get n fun ⟨k, k1, k2, k3, k4, k5⟩ => hn ⟨k, k1, k2, k3, ?_, k5⟩
            (try dsimp only); rw [hset, if_neg]
            · exact k4
            · intro e; subst e; exact hne k5
        · obtain ⟨k, k1, k2, k3, k4, k5⟩ := hn
          (try dsimp only at k4); rw [hset] at k4
          split at k4
          · simp at k4
          · rename_i hki
            obtain ⟨z1, z2⟩ := hX.gone n ⟨k, k1, k2, k3, k4, k5⟩
            have hne : n ≠ (FH i).next := by rw [k5]; exact hnid k k1 k2 k3 hki fun _ => k4
            exact ⟨by rw [hX'get, if_neg hne]; exact z1, List.mem_filter.2 ⟨z2, by simpa using hne⟩⟩
theorem Plan2.all (h : Plan2 P ft ih ops ms FA FH val wt) {L : Array Bool} (hs : L.size = ops.size) (hr : Region.ready .any ops L = []) : ∀ i, i < ops.size → L.getD i false = true := by
  intro i
  induction i using Nat.strongRecOn with
  | _ i ihi =>
    intro hi
    cases hb : L.getD i false with
    | true => rfl
    | false =>
      have ho : ops[i]? = some ops[i] := by simp [hi]
      have : i ∈ Region.ready .any ops L := mem_ready.2 ⟨by
        have : L.getD i true = L.getD i false := by simp [show i < L.size by omega]
        rw [this]; exact hb, ops[i], ho, fun e he hbb => ihi e.on (h.low i _ ho e he hbb) (by have := h.low i _ ho e he hbb; omega)⟩
      rw [hr] at this
      simp at this
theorem Plan2.fin (h : Plan2 P ft ih ops ms FA FH val wt) {ι0 : Inj} {w0 : World} {a0 : Act} {L : Array Bool} {ι : Inj} {a : Act} {w : World}
    (hv : Inv2 P ops (FA 0) FH val wt ι0 w0 a0 L ι a w) (hall : ∀ i, i < ops.size → L.getD i false = true) : PostC P ι0 w0 a0 .normal (FA ops.size) (FH ops.size) .normal a w := by
  obtain ⟨s1, p1, g1⟩ := lexFrame h.dist h.tr ops.size (Nat.le_refl _)
  obtain ⟨c, X, hX⟩ := hv.heap
  have hc : c = ops.size := by
    rcases Nat.eq_or_lt_of_le hX.le with e | hlt
    · exact e
    · have := (hX.done c hlt (hX.ord hlt)).2 (hall c hlt)
      omega
  subst hc
  refine ⟨ι, rfl, hv.ext, ?_, ⟨by rw [hv.tsize, s1], fun t => ?_⟩, hv.defers⟩
  · refine hX.rel.same hX.base.symm (by rw [hX.next]; exact Nat.le_refl _) (fun n hn => by rw [h.hole _ (Nat.le_refl _)] at hn; simp at hn) fun n => (hX.get n ?_).symm
    rintro ⟨k, k1, k2, k3, k4, k5⟩
    have := hall k k1
    dsimp only at k4
    rw [this] at k4
    simp at k4
  · rw [g1, p1]
    have : cur ops (FA 0) val (fun k => decide (k < ops.size)) t = cur ops (FA 0) val (fun k => L.getD k false) t := by
      rcases dst_cases ops t with ⟨k, hk, hkt⟩ | hno
      · rw [cur_of h.dist hk hkt, cur_of h.dist hk hkt, hall k hk]; simp [hk]
      · rw [cur_none hno, cur_none hno]
    rw [this]
    exact hv.frame t
theorem Plan2.any (hE : EnvOk P ft) (hg : Good P ih) (h : Plan2 P ft ih ops ms FA FH val wt) {ι0 : Inj} {w0 : World} {a0 : Act} : ∀ (fuel : Nat) (L : Array Bool) (ι : Inj) (a : Act) (w : World),
    Inv2 P ops (FA 0) FH val wt ι0 w0 a0 L ι a w → ((List.range ops.size).filter fun k => !L.getD k false).length ≤ fuel →
    wpAny P .any ops (PostC P ι0 w0 a0 .normal (FA ops.size) (FH ops.size)) fuel L a w
  | 0, L, ι, a, w, hv, hf => by
    have hall : ∀ i, i < ops.size → L.getD i false = true := by
      intro i hi
      cases hb : L.getD i false with
      | true => rfl
      | false =>
        have hm : i ∈ (List.range ops.size).filter fun k => !L.getD k false := List.mem_filter.2 ⟨List.mem_range.2 hi, by rw [hb]; rfl⟩
        have := List.length_pos_of_mem hm
        omega
    refine ⟨?_, h.fin hv hall⟩
    cases hr : Region.ready .any ops L with
    | nil => rfl
    | cons i l =>
      have hi : i ∈ Region.ready .any ops L := by rw [hr]; simp
      obtain ⟨hun, o, ho, _⟩ := mem_ready.1 hi
      have hin : i < ops.size := (Array.getElem?_eq_some_iff.1 ho).1
      have h1 := hall i hin
      have : L.getD i true = L.getD i false := by simp [show i < L.size by rw [hv.size]; exact hin]
      rw [this, h1] at hun
      simp at hun
  | fuel + 1, L, ι, a, w, hv, hf => by
    refine ⟨fun hr => h.fin hv (h.all hv.size hr), fun i hi => h.step hE hg hv hi fun ι' a' w' hv' => h.any hE hg fuel _ ι' a' w' hv' ?_⟩
    obtain ⟨hun, o, ho, _⟩ := mem_ready.1 hi
    have hin : i < ops.size := (Array.getElem?_eq_some_iff.1 ho).1
    have hiL : i < L.size := by rw [hv.size]; exact hin
    have hLi : L.getD i false = false := by
      have : L.getD i true = L.getD i false := by simp [hiL]
      rw [← this]; exact hun
    have := filter_lt (p := fun k => !L.getD k false) (q := fun k => !(L.setIfInBounds i true).getD k false) (List.range ops.size) (fun x hx => by
      rw [set_get hiL] at hx
      split at hx
      · simp at hx
      · exact hx) ⟨i, List.mem_range.2 hin, by rw [hLi]; rfl, by rw [set_get hiL]; simp⟩
    omega
end
noncomputable def pureOk (P : Program) [Orc P] (ops : Array Oper) (tr : List Ent) (D : Ent) : Bool :=
  allN ops.size fun i => match ops[i]? with
    | some o => !(tr.getD i D).wt || !(reader o || loose o) || (if loose o then (match Orc.orc P o (tr.getD i D).A.get with | some _ => false | none => !Orc.orcQ P o (tr.getD i D).A.get) else (pexec P (tr.getD i D).A.get o).isSome)
    | none => true
noncomputable def preA (ops : Array Oper) : Bool := cond (atAlloc ops.toList 0).isSome (!staticQ reader ops (masks ops.toList [])) false
noncomputable def drawRun2 (P : Program) [Orc P] (ft : Nat → Option Func) (ih : Runner) (ops : Array Oper) (A : Fr) (H : Heap) : Option (Fr × Heap) :=
  match cond (preA ops) (drawRunA P ft ih ops A H) none with
  | some r => some r
  | none => match drawRun3 P ft ih ops A H with
  | some r => some r
  | none => match lexRun P ft ih ops ops.toList A H with
    | some (tr, A', H') => if staticQ (fun o => reader o || loose o) ops (masks ops.toList []) && stLo (masks ops.toList []) ops.toList 0 0 0 && pureOk P ops tr ⟨A', H', undf, false⟩ &&
        (H'.hole.isEmpty && tr.all fun e => e.H.hole.isEmpty) then some (A', H') else none
    | none => none
theorem aexec_make {g : Nat → Value} {o : Oper} {H : Heap} {t : TypeId} {l c : Operand} (ho : o.op = .makeSlice t l c) (horc : Orc.orc P o g = none) (hq : Orc.orcQ P o g = false) : aexec P ft g o H = valH (amakeO P t (opv g l) (opv g c) H) := by
  unfold aexec
  rw [horc]
  dsimp only
  rw [hq, cond_false]
  unfold aexecO
  rw [ho]
theorem drawRun2_ok (hE : EnvOk P ft) (hg : Good P ih) : DrawOk P (drawRun2 P ft ih) := by
  intro ops id A A' H H' h hfine ι a w hw hA
  unfold drawRun2 at h
  split at h
  · rename_i r hd
    simp only [Option.some.injEq] at h
    subst h
    cases hp : preA ops with
    | false => rw [hp] at hd; simp at hd
    | true =>
      rw [hp] at hd
      exact drawRunA_ok hE hg ops id A A' H H' hd hfine ι a w hw hA
  split at h
  · rename_i r hd
    simp only [Option.some.injEq] at h
    subst h
    exact drawRun_ok hE hg ops id A A' H H' (drawRun3_sub hd) hfine ι a w hw hA
  split at h
  · rename_i tr A1 H1 hl
    split at h
    · rename_i hck
      simp only [Option.some.injEq, Prod.mk.injEq] at h
      obtain ⟨rfl, rfl⟩ := h
      simp only [Bool.and_eq_true] at hck
      obtain ⟨⟨⟨hst, hlo⟩, hpu⟩, hho1, hho2⟩ := hck
      obtain ⟨q1, q2, q3, q4⟩ := lexRun_tr _ _ _ _ _ _ hl
      obtain ⟨s1, s2, s3, s4⟩ := staticQ_plan hst
      have hpure : ∀ (i : Nat) (o : Oper), ops[i]? = some o → (tr.getD i ⟨A1, H1, undf, false⟩).wt = true → (reader o || loose o) = true →
          (if loose o then (match Orc.orc P o (tr.getD i ⟨A1, H1, undf, false⟩).A.get with | some _ => false | none => !Orc.orcQ P o (tr.getD i ⟨A1, H1, undf, false⟩).A.get) else (pexec P (tr.getD i ⟨A1, H1, undf, false⟩).A.get o).isSome) = true := by
        intro i o ho hwt hk
        have hi : i < ops.size := (Array.getElem?_eq_some_iff.1 ho).1
        have h1 := allN_ok hpu i hi
        rw [ho] at h1
        simp only [hwt, hk, Bool.not_true, Bool.false_or] at h1
        exact h1
      have hplan : Plan2 P ft ih ops (masks ops.toList []) (fun i => (tr.getD i ⟨A1, H1, undf, false⟩).A) (fun i => (tr.getD i ⟨A1, H1, undf, false⟩).H) (fun i => (tr.getD i ⟨A1, H1, undf, false⟩).v) (fun i => (tr.getD i ⟨A1, H1, undf, false⟩).wt) := {
        just := masks_just ops.toList ops.toList [] (fun j => by simp) (fun i k hik => by simp [pr] at hik)
        low := s1
        dist := s2
        data := s3
        eff := fun i k hi hk hri hrk hll hlt => by
          have hoi : ops[i]? = some ops[i] := by simp [hi]
          have hok : ops[k]? = some ops[k] := by simp [hk]
          have e1 : readerAt ops i = reader ops[i] := by unfold readerAt; rw [hoi]; rfl
          have e2 : readerAt ops k = reader ops[k] := by unfold readerAt; rw [hok]; rfl
          have e3 : looseAt ops i = loose ops[i] := by unfold looseAt; rw [hoi]; rfl
          have e4 : looseAt ops k = loose ops[k] := by unfold looseAt; rw [hok]; rfl
          exact stLo_ok ops.toList 0 0 0 (fun j => by simp) hlo (fun k x hk => by omega) k i _ _ hlt (Nat.zero_le _) hok hoi (e2.symm.trans hrk) (e1.symm.trans hri) (by rw [← e3, ← e4, Bool.and_comm]; exact hll)
        tr := q4
        rd := fun i o ho hr hwt => by
          have h1 := hpure i o ho hwt (by rw [hr]; rfl)
          have hno : loose o = false := by
            cases hl : loose o with
            | false => rfl
            | true => rw [loose_not_reader hl] at hr; simp at hr
          rw [hno, if_neg (by simp)] at h1
          cases hp : pexec P (tr.getD i ⟨A1, H1, undf, false⟩).A.get o with
          | none => rw [hp] at h1; simp at h1
          | some v =>
            have hy := q4.yes i o (by simpa using ho) hwt
            unfold stepVal at hy
            have := rexec_ok (pexec_ok (ft := ft) hp (tr.getD i ⟨A1, H1, undf, false⟩).H)
            rw [this] at hy
            simp only [Option.some.injEq, Prod.mk.injEq] at hy
            rw [hy.1]
        nw := fun i o ho hl hwt => by
          have h1 := hpure i o ho hwt (by rw [hl, Bool.or_true])
          rw [hl, if_pos rfl] at h1
          have hy := q4.yes i o (by simpa using ho) hwt
          have hop : ∃ t l c, o.op = .makeSlice t l c := by
            unfold loose at hl
            cases hq : o.op <;> rw [hq] at hl <;> first | exact ⟨_, _, _, rfl⟩ | simp at hl
          obtain ⟨t, l, c, hop⟩ := hop
          refine ⟨t, l, c, hop, ?_⟩
          cases horc : Orc.orc P o (tr.getD i ⟨A1, H1, undf, false⟩).A.get with
          | some u => rw [horc] at h1; simp at h1
          | none =>
            unfold stepVal at hy
            rw [horc] at h1
            rw [aexec_make hop horc (by simpa using h1)] at hy
            cases hm : amakeO P t (opv (tr.getD i ⟨A1, H1, undf, false⟩).A.get l) (opv (tr.getD i ⟨A1, H1, undf, false⟩).A.get c) (tr.getD i ⟨A1, H1, undf, false⟩).H with
            | none => rw [hm] at hy; simp [valH] at hy
            | some r =>
              rw [hm] at hy
              simp only [valH, Option.some.injEq, Prod.mk.injEq] at hy
              show some r = _
              obtain ⟨y1, y2⟩ := hy
              rw [← y1, ← y2]
        hole := fun i hi => by
          rcases Nat.lt_or_ge i tr.length with hlt | hge
          · rw [List.all_eq_true] at hho2
            have e : tr.getD i ⟨A1, H1, undf, false⟩ = tr[i] := by simp [List.getD_eq_getElem?_getD, hlt]
            show (tr.getD i ⟨A1, H1, undf, false⟩).H.hole = []
            rw [e]
            exact List.isEmpty_iff.1 (hho2 _ (List.getElem_mem hlt))
          · have e : tr.getD i ⟨A1, H1, undf, false⟩ = ⟨A1, H1, undf, false⟩ := by rw [List.getD_eq_getElem?_getD, List.getElem?_eq_none hge]; rfl
            show (tr.getD i ⟨A1, H1, undf, false⟩).H.hole = []
            rw [e]
            exact List.isEmpty_iff.1 hho1
        fine := fun i o ho => by
          rw [Array.all_eq_true_iff_forall_mem] at hfine
          exact hfine o (Array.mem_of_getElem? ho) }
      have hlen : tr.length = ops.size := by simpa using q1
      have hfin : tr.getD ops.size ⟨A1, H1, undf, false⟩ = ⟨A1, H1, undf, false⟩ := by
        rw [List.getD_eq_getElem?_getD, List.getElem?_eq_none (by omega)]; rfl
      have hrep : ∀ k, (Array.replicate ops.size false).getD k false = false := by
        intro k
        simp only [Array.getD_eq_getD_getElem?, Array.getElem?_replicate]
        split <;> rfl
      have hw0 : Rel P ι (tr.getD 0 ⟨A1, H1, undf, false⟩).H { w with drawn := w.drawn + 1 } := by rw [q3]; exact hw.draw _
      have hinv : Inv2 P ops (tr.getD 0 ⟨A1, H1, undf, false⟩).A (fun i => (tr.getD i ⟨A1, H1, undf, false⟩).H) (fun i => (tr.getD i ⟨A1, H1, undf, false⟩).v) (fun i => (tr.getD i ⟨A1, H1, undf, false⟩).wt) ι w a (Array.replicate ops.size false) ι a { w with drawn := w.drawn + 1 } := by
        refine ⟨by simp, fun i hi => by rw [hrep] at hi; simp at hi, Ext.draw _ _ _, ?_, ?_, fun t => ?_, rfl⟩
        · exact hplan.settle (a := 0) (Nat.zero_le _) hw0 (fun k _ _ => by rw [hrep]; simp) (fun k hk => by omega) (fun k _ _ _ => hrep k)
        · rw [q2]; exact hA.1
        · have : cur ops (tr.getD 0 ⟨A1, H1, undf, false⟩).A (fun i => (tr.getD i ⟨A1, H1, undf, false⟩).v) (fun k => (Array.replicate ops.size false).getD k false) t = A.get t := by
            rw [q2]
            rcases dst_cases ops t with ⟨k, hk, hkt⟩ | hno
            · rw [cur_of s2 hk hkt, hrep]; rfl
            · rw [cur_none hno]
          rw [this, q2]; exact hA.2 t
      have := hplan.any hE hg (ι0 := ι) (w0 := w) (a0 := a) ops.size (Array.replicate ops.size false) ι a { w with drawn := w.drawn + 1 } hinv (by
        refine Nat.le_trans (List.length_filter_le _ _) (by simp))
      simp only [hfin] at this
      exact wp_region_any hE.mixed this
    · simp at h
  · simp at h
noncomputable def known (K : FuncId → Array Value → Option Value) (r : Runner) : Runner
  | .fn f args, H => match K f args with
    | some v => some (.val v, H)
    | none => r (.fn f args) H
  | .code c A, H => r (.code c A) H
  | .loop c A, H => r (.loop c A) H
def KOk (P : Program) (K : FuncId → Array Value → Option Value) : Prop :=
  ∀ f args v, K f args = some v → ∀ ι H args' w, Rel P ι H w → ARel ι args args' → Calls P f args' w (PostF P ι w v H)
theorem known_good {K : FuncId → Array Value → Option Value} (hK : KOk P K) {r : Runner} (hr : Good P r) : Good P (known K r) := by
  refine ⟨fun f args H v H' h ι args' w hw ha => ?_, fun c A H e A' H' h => hr.code c A H e A' H' h, fun c A H e A' H' h => hr.loop c A H e A' H' h, fun c A H v H' h => hr.noVal c A H v H' h, fun c A H v H' h => hr.noValL c A H v H' h⟩
  simp only [known] at h
  cases hk : K f args with
  | none => rw [hk] at h; exact hr.fn f args H v H' h ι args' w hw ha
  | some u =>
    rw [hk] at h
    simp only [Option.some.injEq, Prod.mk.injEq, Out.val.injEq] at h
    obtain ⟨rfl, rfl⟩ := h
    exact hK f args u hk ι H args' w hw ha
noncomputable def runK (P : Program) [Orc P] [Marks] [Lps P] (ft : Nat → Option Func) (K : FuncId → Array Value → Option Value) (n : Nat) : Runner :=
  Nat.rec (motive := fun _ => Runner) (fun _ _ => none) (fun _ ih => known K (stepRun P ft ih (drawRun2 P ft ih))) n
theorem runK_good (hE : EnvOk P ft) (hL : LpsOk P) {K : FuncId → Array Value → Option Value} (hK : KOk P K) : ∀ n, Good P (runK P ft K n)
  | 0 => ⟨fun _ _ _ _ _ h => by simp [runK] at h, fun _ _ _ _ _ _ h => by simp [runK] at h, fun _ _ _ _ _ _ h => by simp [runK] at h, fun _ _ _ _ _ h => by simp [runK] at h, fun _ _ _ _ _ h => by simp [runK] at h⟩
  | n + 1 => known_good hK (Good.step hE hL (runK_good hE hL hK n) (drawRun2_ok hE (runK_good hE hL hK n)))
noncomputable def run (P : Program) [Orc P] [Marks] [Lps P] (ft : Nat → Option Func) (n : Nat) : Runner := runK P ft (fun _ _ => none) n
theorem run_good (hE : EnvOk P ft) (hL : LpsOk P) (n : Nat) : Good P (run P ft n) := runK_good hE hL (fun _ _ _ h => by simp at h) n
end Go.Ev
namespace Go.Ev
set_option linter.unusedSectionVars false      -- the symbols' class stands for all texts
open Go.RowKit
structure Quiet (w w' : World) : Prop where
  size : w.heap.size ≤ w'.heap.size
  keep : ∀ b, b < w.heap.size → w'.heap[b]? = w.heap[b]?
  froz : ∀ a, w'.frozen? a = w.frozen? a
  tape : w'.tape = w.tape
  os : w'.os = w.os
  output : w'.output = w.output
theorem Quiet.grown {w w' : World} (x : Quiet w w') : Grown w w' := by
  refine ⟨⟨x.os, x.output, fun i hi => ?_⟩, x.froz, x.size⟩
  rw [x.keep i hi]
  cases w.heap[i]? with
  | none => rfl
  | some o => cases o with
    | cells c t fr => exact ⟨rfl, rfl, rfl, fun _ _ => rfl⟩
    | map es clock => exact .inr ⟨rfl, rfl⟩
    | _ => rfl
variable [Syms] {P : Program} {ft : Nat → Option Func}
theorem Ext.grown {ι : Inj} (hι : ∀ n i, ι n = some i → n < P.globals.size) {w : World} {ι' : Inj} {w' : World} (h : Ext P ι w ι' w') : Grown w w' := by
  refine ⟨⟨h.os, h.output, fun i hi => ?_⟩, h.froz, h.size⟩
  have e := h.keep i hi fun n j hn hg _ => by have := hι n j hn; omega
  rw [e]
  cases w.heap[i]? with
  | none => rfl
  | some o => cases o with
    | cells c t fr => exact ⟨rfl, rfl, rfl, fun _ _ => rfl⟩
    | map es clock => exact .inr ⟨rfl, rfl⟩
    | _ => rfl
abbrev Gs := List (Nat × Array Value × TypeId)
noncomputable def gtrie : Gs → T Blk
  | [] => .leaf
  | x :: r => (gtrie r).set x.1 (some (.cells (mkCells x.2.1 x.2.2)))
theorem gtrie_get : ∀ (gs : Gs) (n : Nat) (b : Blk), (gtrie gs).get n = some b → ∃ x ∈ gs, n = x.1 ∧ b = .cells (mkCells x.2.1 x.2.2)
  | [], n, b, h => by simp [gtrie, T.get_leaf] at h
  | x :: r, n, b, h => by
    simp only [gtrie, T.get_set] at h
    split at h
    · rename_i hn
      simp only [Option.some.injEq] at h
      exact ⟨x, List.mem_cons_self, hn, h.symm⟩
    · obtain ⟨y, hy, e⟩ := gtrie_get r n b h
      exact ⟨y, List.mem_cons_of_mem _ hy, e⟩
def gsGround (gs : Gs) : Bool := gs.all fun x => x.2.1.all ground1
structure GOk (P : Program) (gs : Gs) (w : World) : Prop where
  room : P.globals.size ≤ w.heap.size
  grd : gsGround gs = true
  has : ∀ x ∈ gs, x.1 < P.globals.size ∧ w.heap[x.1]? = some (.cells x.2.1 x.2.2 (0, 0))
theorem GOk.nil {w : World} (h : P.globals.size ≤ w.heap.size) : GOk P [] w := ⟨h, rfl, fun x hx => by simp at hx⟩
theorem GOk.quiet {gs : Gs} {w w' : World} (h : GOk P gs w) (x : Quiet w w') : GOk P gs w' :=
  ⟨Nat.le_trans h.room x.size, h.grd, fun y hy => ⟨(h.has y hy).1, by rw [x.keep _ (Nat.lt_of_lt_of_le (h.has y hy).1 h.room)]; exact (h.has y hy).2⟩⟩
theorem GOk.of {gs : Gs} {w w' : World} (h : GOk P gs w) (hr : P.globals.size ≤ w'.heap.size) (hk : ∀ b, b < P.globals.size → w'.heap[b]? = w.heap[b]?) : GOk P gs w' :=
  ⟨hr, h.grd, fun y hy => ⟨(h.has y hy).1, by rw [hk _ (h.has y hy).1]; exact (h.has y hy).2⟩⟩
noncomputable def H0g (P : Program) (gs : Gs) : Heap := { base := P.globals.size, next := P.globals.size, m := gtrie gs }
noncomputable def ι0g (P : Program) (gs : Gs) : Inj := fun n => if n < P.globals.size then some (match (gtrie gs).get n with | some (.cells c) => ⟨n, 0, c.size, 0, 1⟩ | _ => ⟨n, 0, 0, 0, 1⟩) else none
noncomputable def H0 (P : Program) : Heap := H0g P []
theorem ι0g_some {gs : Gs} {n : Nat} {i : Info} (h : ι0g P gs n = some i) : n < P.globals.size ∧ i.blk = n ∧ i.off = 0 := by
  unfold ι0g at h
  by_cases hn : n < P.globals.size
  · rw [if_pos hn] at h
    simp only [Option.some.injEq] at h
    subst h
    refine ⟨hn, ?_⟩
    split <;> exact ⟨rfl, rfl⟩
  · rw [if_neg hn] at h; simp at h
theorem rel0g {gs : Gs} {w : World} (hw : GOk P gs w) (hg : (∀ b, b < P.globals.size → w.heap[b]? = Syms.glob b) ∧ ∀ b o, Syms.inp b = some o → w.heap[b]? = some o) : Rel P (ι0g P gs) (H0g P gs) w := by
  refine ⟨hg, rfl, fun g hgl => ?_, fun n i h hb => ?_, Nat.le_refl _, hw.room, fun n hn => ?_, fun n hn => by simp [H0g] at hn, fun n i h => ?_, fun n b h => ?_, fun n m b c i j h1 h2 hi hj e => ?_⟩
  · have hgl' : g < P.globals.size := hgl
    have h0 : ι0g P gs g = some (match (gtrie gs).get g with | some (.cells c) => ⟨g, 0, c.size, 0, 1⟩ | _ => ⟨g, 0, 0, 0, 1⟩) := by unfold ι0g; exact if_pos hgl'
    have h := ι0g_some h0
    exact ⟨_, h0, h.2.1, h.2.2⟩
  · have := ι0g_some h
    have hb' : P.globals.size ≤ n := hb
    omega
  · have hn' : P.globals.size ≤ n := hn
    unfold ι0g
    rw [if_neg (Nat.not_lt.2 hn')]
  · have h1 := ι0g_some h
    have := hw.room
    omega
  · obtain ⟨x, hx, rfl, rfl⟩ := gtrie_get gs n b h
    obtain ⟨q1, q2⟩ := hw.has x hx
    have hgt : (gtrie gs).get x.1 = some (.cells (mkCells x.2.1 x.2.2)) := h
    refine ⟨⟨x.1, 0, x.2.1.size, 0, 1⟩, _, ?_, q2, ⟨rfl, rfl, Nat.one_pos⟩, x.2.1, rfl, by simp [mkCells], fun _ => ⟨rfl, rfl, rfl⟩, fun k hk => ?_⟩
    · unfold ι0g
      rw [if_pos q1, hgt]
      rfl
    · have hk' : k < x.2.1.size := hk
      rw [mkCells_get _ _ _ hk']
      have hgr := hw.grd
      unfold gsGround at hgr
      rw [List.all_eq_true] at hgr
      have := (ground_arr (ι := ι0g P gs) (hgr x hx)).2 k hk'
      simpa using this
  · have a1 := (ι0g_some hi).2.1
    have a2 := (ι0g_some hj).2.1
    omega
def outIs (b : Bool) : Option (Out × Heap) → Bool
  | some (.val (.bool c), _) => b == c
  | _ => false
theorem Ext.quiet {gs : Gs} {w w' : World} {ι' : Inj} (x : Ext P (ι0g P gs) w ι' w') : Quiet w w' :=
  ⟨x.size, fun b hb => x.keep b hb fun _ _ h hg => absurd (ι0g_some h).1 (Nat.not_lt.2 hg), x.froz, x.tape, x.os, x.output⟩
theorem Quiet.ext {w w' : World} (x : Quiet w w') (ι : Inj) : Ext P ι w ι w' :=
  ⟨Sub.refl ι, x.size, fun n i h h' => .inl ⟨n, i, h, h', rfl⟩, fun b hb _ => x.keep b hb, x.froz, x.tape, x.os, x.output⟩
theorem Quiet.rel {w w' : World} (x : Quiet w w') {ι : Inj} {H : Heap} (hw : Rel P ι H w) : Rel P ι H w' :=
  ⟨hw.keepG fun b hb _ => x.keep b hb, hw.gsize, hw.glob, hw.over, hw.next, Nat.le_trans hw.room x.size, hw.fresh, hw.hole, fun n i h => Nat.lt_of_lt_of_le (hw.below n i h) x.size, fun n b h => by
    obtain ⟨i, o, h1, h2, h3⟩ := hw.live n b h
    exact ⟨i, o, h1, by rw [x.keep _ (hw.below n i h1)]; exact h2, h3⟩, hw.inj⟩
theorem callK [NoFloat P] [Marks] [Orc P] [Lps P] (hE : EnvOk P ft) (hL : LpsOk P) {K : FuncId → Array Value → Option Value} (hK : KOk P K) {gs : Gs} {n : Nat} {f : FuncId} {args args' : Array Value} {v : Value} {H' : Heap} (hargs : ∀ ι, ARel ι args args')
    (hrun : runK P ft K n (.fn f args) (H0g P gs) = some (.val v, H')) (w : World) (hw : GOk P gs w) (hg : (∀ b, b < P.globals.size → w.heap[b]? = Syms.glob b) ∧ ∀ b o, Syms.inp b = some o → w.heap[b]? = some o) : Calls P f args' w fun e w' => ∃ ι' v', e = .returned v' ∧ VRel ι' v v' ∧ Quiet w w' := by
  refine Calls.mono ((runK_good hE hL hK n).fn f args (H0g P gs) _ H' hrun (ι0g P gs) args' w (rel0g hw hg) (hargs _)) fun e w' he => ?_
  obtain ⟨ι', v', rfl, x1, r1, q1⟩ := he
  exact ⟨ι', v', rfl, q1, x1.quiet⟩
theorem closedK_quiet [NoFloat P] [Marks] [Orc P] [Lps P] (hE : EnvOk P ft) (hL : LpsOk P) {K : FuncId → Array Value → Option Value} (hK : KOk P K) {gs : Gs} {n : Nat} {f : FuncId} {args args' : Array Value} {b : Bool} (hargs : ∀ ι, ARel ι args args')
    (hrun : outIs b (runK P ft K n (.fn f args) (H0g P gs)) = true) (w : World) (hw : GOk P gs w) (hg : (∀ b, b < P.globals.size → w.heap[b]? = Syms.glob b) ∧ ∀ b o, Syms.inp b = some o → w.heap[b]? = some o) : Calls P f args' w fun e w' => e = .returned (.bool b) ∧ Quiet w w' := by
  cases hr : runK P ft K n (.fn f args) (H0g P gs) with
  | none => rw [hr] at hrun; simp [outIs] at hrun
  | some r =>
    obtain ⟨out, H'⟩ := r
    rw [hr] at hrun
    cases out with
    | exit e A => simp [outIs] at hrun
    | val v =>
      cases v <;> simp [outIs] at hrun
      subst hrun
      refine Calls.mono (callK hE hL hK hargs hr w hw hg) fun e w' he => ?_
      obtain ⟨ι', v', rfl, q1, x1⟩ := he
      cases q1
      exact ⟨rfl, x1⟩
def know1 (g : FuncId) (b : Bool) (K : FuncId → Array Value → Option Value) : FuncId → Array Value → Option Value := fun f args =>
  if Nat.beq f g && Nat.beq args.size 0 then some (.bool b) else K f args
theorem know1_ok {K : FuncId → Array Value → Option Value} (hK : KOk P K) {g : FuncId} {b : Bool}
    (hC : ∀ w, P.globals.size ≤ w.heap.size → (∀ b, b < P.globals.size → w.heap[b]? = Syms.glob b) → Calls P g #[] w fun e w' => e = .returned (.bool b) ∧ Quiet w w') : KOk P (know1 g b K) := by
  intro f args v h ι H args' w hw ha
  unfold know1 at h
  split at h
  · rename_i hc
    simp only [Bool.and_eq_true, Nat.beq_eq] at hc
    obtain ⟨rfl, hs⟩ := hc
    simp only [Option.some.injEq] at h
    subst h
    have hs' : args'.size = 0 := by rw [← ha.1]; exact hs
    have e : args' = #[] := Array.eq_empty_of_size_eq_zero hs'
    subst e
    refine Calls.mono (hC w (by rw [← hw.gsize]; exact hw.room) hw.glb.1) fun e w' ⟨h1, x⟩ => ?_
    exact ⟨ι, .bool b, h1, x.ext ι, x.rel hw, ground_rel rfl⟩
  · exact hK f args v h ι H args' w hw ha
theorem noK : KOk P (fun _ _ => none) := fun _ _ _ h => by simp at h
end Go.Ev
namespace Go.Ev
@[instance_reducible] def noSyms (G : Nat → Option Obj) : Syms := ⟨fun _ => none, fun _ _ h => by simp at h, G, fun _ => none, fun _ _ h => by simp at h, fun _ => none, fun _ => none, fun _ => none, fun _ _ => none⟩
@[instance_reducible] def noOrc (P : Program) (G : Nat → Option Obj) : @Orc P (noSyms G) := @Orc.mk P (noSyms G) (fun _ _ => none) (fun _ _ _ _ h => by simp at h) (fun _ _ => false) (fun _ _ _ => none) (fun _ _ _ _ _ h => by simp at h) (fun _ _ _ => none) (fun _ _ _ _ _ _ _ _ h => by simp at h) (fun _ _ _ _ => none) (fun _ _ _ _ _ _ h => by simp at h) (fun _ _ _ _ _ _ _ _ _ _ _ h => by simp at h) (fun _ => false)
noncomputable def run0 (P : Program) (ft : Nat → Option Func) (K : FuncId → Array Value → Option Value) (G : Nat → Option Obj) (n : Nat) : Runner := @runK (noSyms G) P (noOrc P G) noMarks (noLps P) ft K n
theorem closed0 {P : Program} [NoFloat P] {ft : Nat → Option Func} (hE : EnvOk P ft) {K : FuncId → Array Value → Option Value} {gs : Gs} {n : Nat} {f : FuncId} {args : Array Value} {b : Bool} (hargs : args.all ground1 = true) (w : World) (hK : @KOk (noSyms fun b => w.heap[b]?) P K)
    (hrun : ∀ G, outIs b (run0 P ft K G n (.fn f args) (H0g P gs)) = true) (hw : GOk P gs w) : Calls P f args w fun e w' => e = .returned (.bool b) ∧ Quiet w w' :=
  @closedK_quiet (noSyms fun b => w.heap[b]?) P ft _ noMarks (noOrc P _) (noLps P) hE (fun _ _ _ _ _ _ _ _ h => by simp [Lps.lk] at h) K hK gs n f args args b (fun _ => @ground_arr (noSyms _) _ _ hargs) (hrun _) w hw ⟨fun _ _ => rfl, fun _ _ h => by simp at h⟩
variable {P : Program} {ft : Nat → Option Func}
def isCx : TypeDesc → Bool | .complex _ => true | _ => false
theorem struct_cx {info : TypeId → Option TypeInfo} {fs : Array Field} {i : TypeInfo} (h : Made.reckonStruct info fs = some i) : isCx i.desc = false := by
  unfold Made.reckonStruct at h
  simp only [bind, Option.bind_eq_some_iff, pure] at h
  obtain ⟨a, _, h⟩ := h
  split at h <;> (cases h; rfl)
theorem reckon_cx {info : TypeId → Option TypeInfo} {d : TypeDesc} {i : TypeInfo} (h : Made.reckon info d = some i) : isCx i.desc = false := by
  cases d with
  | struct fs => exact struct_cx h
  | complex k => simp [Made.reckon] at h
  | _ =>
    simp only [Made.reckon, bind, Option.bind_eq_some_iff, pure] at h
    first
      | (cases h; done)
      | (obtain ⟨_, _, h⟩ := h; split at h <;> first | (cases h; done) | (split at h <;> first | (cases h; done) | (obtain ⟨_, _, h⟩ := h; cases h; rfl)) | (obtain ⟨_, _, h⟩ := h; cases h; rfl))
      | (obtain ⟨_, _, _, _, h⟩ := h; cases h; rfl)
      | (obtain ⟨_, _, _, _, _, _, _, _, h⟩ := h; cases h; rfl)
      | (obtain ⟨a, _, h⟩ := h; generalize a.desc = q at h; cases q <;> dsimp only at h <;> first | (cases h; done) | (split at h <;> first | (cases h; done) | (obtain ⟨_, _, h⟩ := Option.bind_eq_some_iff.1 h; cases h; rfl)) | (obtain ⟨_, _, h⟩ := Option.bind_eq_some_iff.1 h; cases h; rfl))
      | (obtain ⟨_, ⟨_, _, _⟩, h⟩ := h; cases h; rfl)
      | (obtain ⟨_, _, _, _, _, _, h⟩ := h; cases h; rfl)
      | (obtain ⟨_, _, h⟩ := h; cases h; rfl)
theorem beyond_cx {T : Tables} {t : TypeId} {i : TypeInfo} (ht : ¬ t < T.types.size) (h : T.info? t = some i) : isCx i.desc = false := by
  unfold Tables.info? Made.depth Made.infoAt at h
  rw [if_neg ht, if_neg ht] at h
  obtain ⟨d, _, h⟩ := Option.bind_eq_some_iff.1 h
  exact reckon_cx h
theorem noFloat (h : (P.types.all fun i => match i.desc with | .float _ => false | .complex _ => false | _ => true) = true) : NoFloat P := by
  rw [Array.all_eq_true_iff_forall_mem] at h
  have key : ∀ t i, P.info? t = some i → ∀ k, i.desc ≠ .float k ∧ i.desc ≠ .complex k := fun t i hi k => by
    by_cases ht : t < P.types.size
    · unfold Tables.info? at hi
      rw [if_pos ht] at hi
      have := h i (Array.mem_of_getElem? hi)
      refine ⟨fun e => ?_, fun e => ?_⟩ <;> (rw [e] at this; simp at this)
    · have h1 := Tables.info?_beyond ht hi
      have h2 := beyond_cx ht hi
      refine ⟨fun e => ?_, fun e => ?_⟩
      · rw [e] at h1; simp [TypeDesc.tableOnly] at h1
      · rw [e] at h2; simp [isCx] at h2
  have under : ∀ t d, P.underlying t = some d → ∃ i u, P.info? u = some i ∧ i.desc = d := fun t d e => by
    unfold Program.underlying at e
    split at e
    · rename_i u _ _ _ _ _ _ _ _ _ _
      generalize hu : P.info? _ = r at e
      cases r with
      | none => simp at e
      | some j => simp only [Option.map_some, Option.some.injEq] at e; exact ⟨j, _, hu, e⟩
    · rename_i i _ hi
      simp only [Option.some.injEq] at e
      exact ⟨i, t, hi, e⟩
    · simp at e
  refine ⟨fun t k e => ?_, fun t k e => ?_⟩
  · obtain ⟨i, u, h1, h2⟩ := under t _ e
    exact (key u i h1 k).1 h2
  · obtain ⟨i, u, h1, h2⟩ := under t _ e
    exact (key u i h1 k).2 h2
noncomputable def ftab (P : Program) : T Func := T.ofL P.funcs.toList 0 .leaf
noncomputable def ftOf (P : Program) (f : Nat) : Option Func := match (ftab P).get f with
  | some fn => if fn.body.isSome && !(fn.name == "runtime.NumGoroutine") then some fn else none
  | none => none
theorem envOk (hm : P.follows .mixedOrders = true) (hfine : (P.funcs.all fun fn => match fn.body with | some c => fineC P.globals.size c | none => true) = true) (hz : (P.types.all fun i => match i.zero with | some z => ground z | none => true) = true) : EnvOk P (ftOf P) := by
  refine ⟨fun t i z ht hi hzz => ?_, hm, fun f fn h => ?_⟩
  · rw [Array.all_eq_true_iff_forall_mem] at hz
    have := hz i (Array.mem_of_getElem? hi)
    rw [hzz] at this
    exact this
  · unfold ftOf at h
    split at h
    · rename_i fn' hf
      split at h
      · rename_i hc
        simp only [Option.some.injEq] at h
        subst h
        simp only [Bool.and_eq_true, Bool.not_eq_true'] at hc
        unfold ftab at hf
        rw [T.get_ofL] at hf
        split at hf
        · have hg : P.funcs[f]? = some fn' := by simpa using hf
          obtain ⟨c, hb⟩ := Option.isSome_iff_exists.1 hc.1
          refine ⟨fn', c, c, hg, hc.2, hb, hb, .same c, ?_, rfl, rfl⟩
          rw [Array.all_eq_true_iff_forall_mem] at hfine
          have := hfine fn' (Array.mem_of_getElem? hg)
          rw [hb] at this
          exact this
        · rw [T.get_leaf] at hf; simp at hf
      · simp at h
    · simp at h
end Go.Ev
namespace Go.Ev
open Go.RowKit
set_option linter.unusedSectionVars false
def plain1 : Value → Bool
  | .int .. => true
  | .bool .. => true
  | _ => false
def plainA : Value → Bool
  | .agg x => x.toList.all plain1
  | v => plain1 v
section
variable [Syms] {ι : Inj}
theorem plain1_eq {v v' : Value} (h : plain1 v = true) (r : VRel ι v v') : v' = v := by
  cases r <;> first | rfl | simp [plain1] at h
theorem list_eq {xs ys : List Value} (hs : xs.length = ys.length) (hr : ∀ k, k < xs.length → ys.getD k undf = xs.getD k undf) : ys = xs := by
  apply List.ext_getElem hs.symm
  intro k h1 h2
  have := hr k (by omega)
  simpa [List.getD_eq_getElem?_getD, h1, h2] using this
theorem plainA_eq {v v' : Value} (h : plainA v = true) (r : VRel ι v v') : v' = v := by
  cases r with
  | agg hs hr =>
    rename_i xs ys
    have hp : ∀ k, k < xs.size → plain1 (xs.getD k undf) = true := by
      intro k hk
      have h' : xs.toList.all plain1 = true := h
      rw [List.all_eq_true] at h'
      exact h' _ (by simp [hk])
    congr 1
    apply Array.toList_inj.1
    refine list_eq (by simpa using hs) fun k hk => ?_
    have hk' : k < xs.size := by simpa using hk
    have := plain1_eq (hp k hk') (hr k hk')
    simpa using this
  | _ => first | rfl | exact absurd h (by simp [plainA, plain1])
theorem plainAs_eq {xs ys : Array Value} (h : xs.toList.all plainA = true) (r : ARel ι xs ys) : ys = xs := by
  apply Array.toList_inj.1
  refine list_eq (by simpa using r.1) fun k hk => ?_
  have hk' : k < xs.size := by simpa using hk
  rw [List.all_eq_true] at h
  have := plainA_eq (h _ (by simp [hk'])) (r.2 k hk')
  simpa using this
theorem plain1_rel {v : Value} (h : plain1 v = true) : VRel ι v v := by
  cases v <;> simp [plain1] at h
  · exact .bool _
  · exact .int _ _
theorem plainA_rel {v : Value} (h : plainA v = true) : VRel ι v v := by
  cases v with
  | agg x =>
    have h' : x.toList.all plain1 = true := h
    rw [List.all_eq_true] at h'
    exact .agg rfl fun k hk => plain1_rel (h' _ (by simp [hk]))
  | _ => exact plain1_rel h
theorem plainAs_rel {xs : Array Value} (h : xs.toList.all plainA = true) : ARel ι xs xs := by
  rw [List.all_eq_true] at h
  exact ⟨rfl, fun k hk => plainA_rel (h _ (by simp [hk]))⟩
end
structure Kn where
  f : FuncId
  args : Array Value
  v : Value
def Kn.ok (x : Kn) : Bool := x.args.toList.all plainA && plainA x.v
def knT : List Kn → (FuncId → Array Value → Option Value) → FuncId → Array Value → Option Value
  | [], K, f, args => K f args
  | x :: r, K, f, args => cond (Nat.beq f x.f) (cond (veqAs args.toList x.args.toList) (some x.v) (knT r K f args)) (knT r K f args)
where
  veqAs : List Value → List Value → Bool
  | [], [] => true
  | x :: xs, y :: ys => cond (veq x y) (veqAs xs ys) false
  | _, _ => false
theorem veqAs_ok : ∀ {a b : List Value}, knT.veqAs a b = true → a = b
  | [], [], _ => rfl
  | x :: xs, y :: ys, h => by
    cases hv : veq x y with
    | false => rw [show knT.veqAs (x :: xs) (y :: ys) = cond (veq x y) (knT.veqAs xs ys) false from rfl, hv] at h; simp at h
    | true =>
      rw [show knT.veqAs (x :: xs) (y :: ys) = cond (veq x y) (knT.veqAs xs ys) false from rfl, hv] at h
      letI : Syms := noSyms fun _ => none
      rw [veq_ok hv, veqAs_ok h]
  | [], _ :: _, h => by simp [knT.veqAs] at h
  | _ :: _, [], h => by simp [knT.veqAs] at h
def KnOk (P : Program) (w : World) (x : Kn) : Prop :=
  ∀ w₁, P.globals.size ≤ w₁.heap.size → (∀ b, b < P.globals.size → w₁.heap[b]? = w.heap[b]?) → Calls P x.f x.args w₁ fun e w' => e = .returned x.v ∧ Quiet w₁ w'
variable {P : Program} {ft : Nat → Option Func}
theorem knT_ok {G : Nat → Option Obj} {w : World} (hG : ∀ b, b < P.globals.size → G b = w.heap[b]?) {K : FuncId → Array Value → Option Value} (hK : @KOk (noSyms G) P K) : ∀ (tb : List Kn), (tb.all Kn.ok = true) → (∀ x ∈ tb, KnOk P w x) → @KOk (noSyms G) P (knT tb K)
  | [], _, _ => hK
  | x :: r, hp, hx => by
    rw [List.all_cons, Bool.and_eq_true] at hp
    have ih := knT_ok hG hK r hp.2 fun y hy => hx y (List.mem_cons_of_mem _ hy)
    intro f args v h ι H args' w₁ hw ha
    letI := noSyms G
    have e : knT (x :: r) K f args = cond (Nat.beq f x.f) (cond (knT.veqAs args.toList x.args.toList) (some x.v) (knT r K f args)) (knT r K f args) := rfl
    rw [e] at h
    cases h1 : Nat.beq f x.f with
    | false => rw [h1] at h; exact ih f args v h ι H args' w₁ hw ha
    | true =>
      rw [h1] at h
      cases h2 : knT.veqAs args.toList x.args.toList with
      | false => rw [h2] at h; exact ih f args v h ι H args' w₁ hw ha
      | true =>
        rw [h2] at h
        simp only [cond_true, Option.some.injEq] at h
        subst h
        have e1 : f = x.f := Nat.eq_of_beq_eq_true h1
        have e2 : args = x.args := Array.toList_inj.1 (veqAs_ok h2)
        subst e1 e2
        have hp1 := hp.1
        unfold Kn.ok at hp1
        rw [Bool.and_eq_true] at hp1
        obtain rfl := @plainAs_eq (noSyms G) _ _ _ hp1.1 ha
        refine Calls.mono (hx x List.mem_cons_self w₁ ?_ ?_) fun e w' ⟨h1, xq⟩ => ?_
        · have := @Rel.gsize (noSyms G) P ι H w₁ hw; have := @Rel.room (noSyms G) P ι H w₁ hw; omega
        · intro b hb
          rw [(@Rel.glb (noSyms G) P ι H w₁ hw).1 b hb]
          exact hG b hb
        · exact ⟨ι, x.v, h1, @Quiet.ext (noSyms G) P _ _ xq ι, @Quiet.rel (noSyms G) P _ _ xq ι H hw, @plainA_rel (noSyms G) ι _ hp1.2⟩
def outEq (v : Value) : Option (Out × Heap) → Bool
  | some (.val u, _) => veq u v
  | _ => false
theorem closedV [NoFloat P] (hE : EnvOk P ft) {K : FuncId → Array Value → Option Value} {gs : Gs} {n : Nat} {f : FuncId} {args : Array Value} {v : Value} (hargs : args.toList.all plainA = true) (hv : plainA v = true) (w : World) (hK : @KOk (noSyms fun b => w.heap[b]?) P K)
    (hrun : ∀ G, outEq v (run0 P ft K G n (.fn f args) (H0g P gs)) = true) (hw : GOk P gs w) : Calls P f args w fun e w' => e = .returned v ∧ Quiet w w' := by
  have hr := hrun fun b => w.heap[b]?
  cases hr' : run0 P ft K (fun b => w.heap[b]?) n (.fn f args) (H0g P gs) with
  | none => rw [hr'] at hr; simp [outEq] at hr
  | some r =>
    obtain ⟨out, H'⟩ := r
    rw [hr'] at hr
    letI := noSyms fun b => w.heap[b]?
    cases out with
    | exit e A => simp [outEq] at hr
    | val u =>
      have hu : u = v := veq_ok hr
      subst hu
      refine Calls.mono (@callK (noSyms fun b => w.heap[b]?) P ft _ noMarks (noOrc P _) (noLps P) hE (fun _ _ _ _ _ _ _ _ h => by simp [Lps.lk] at h) K hK gs n f args args u H' (fun ι => @plainAs_rel (noSyms _) ι _ hargs) hr' w hw ⟨fun _ _ => rfl, fun _ _ h => by simp at h⟩) fun e w' he => ?_
      obtain ⟨ι', v', rfl, q1, x1⟩ := he
      rw [@plainA_eq (noSyms _) ι' _ _ hv q1]
      exact ⟨rfl, x1⟩
theorem KnOk.run [NoFloat P] (hE : EnvOk P ft) {gs : Gs} {n : Nat} {x : Kn} (hx : x.ok = true) (hrun : ∀ G, outEq x.v (run0 P ft (fun _ _ => none) G n (.fn x.f x.args) (H0g P gs)) = true) {w : World} (hw : GOk P gs w) : KnOk P w x := by
  intro w₁ hs hg
  unfold Kn.ok at hx
  rw [Bool.and_eq_true] at hx
  exact closedV hE hx.1 hx.2 w₁ (@noK (noSyms fun b => w₁.heap[b]?) P) hrun (@GOk.of (noSyms fun _ => none) _ _ _ _ hw hs hg)
theorem KnOk.runT [NoFloat P] (hE : EnvOk P ft) {gs : Gs} {n : Nat} {x : Kn} (hx : x.ok = true) (tb : List Kn) (htb : tb.all Kn.ok = true) (hrun : ∀ G, outEq x.v (run0 P ft (knT tb fun _ _ => none) G n (.fn x.f x.args) (H0g P gs)) = true) {w : World} (hw : GOk P gs w)
    (hT : ∀ y ∈ tb, KnOk P w y) : KnOk P w x := by
  intro w₁ hs hg
  unfold Kn.ok at hx
  rw [Bool.and_eq_true] at hx
  exact closedV hE hx.1 hx.2 w₁ (@knT_ok P (fun b => w₁.heap[b]?) w (fun b hb => hg b hb) _ (@noK (noSyms fun b => w₁.heap[b]?) P) tb htb hT) hrun (@GOk.of (noSyms fun _ => none) _ _ _ _ hw hs hg)
theorem KnOk.now {w : World} {x : Kn} (h : KnOk P w x) (hs : P.globals.size ≤ w.heap.size) : Calls P x.f x.args w fun e w' => e = .returned x.v ∧ Quiet w w' := h w hs fun _ _ => rfl
end Go.Ev
namespace Go.Ev
open Go.RowKit
set_option linter.unusedSectionVars false
def spine : Code → List Code
  | .seq a b => spine a ++ spine b
  | c => [c]
noncomputable def runL (r : Runner) : List Code → Fr → Heap → Option (AExit × Fr × Heap)
  | [], A, H => some (.normal, A, H)
  | c :: l, A, H => match r (.code c A) H with
    | some (.exit .normal A', H') => runL r l A' H'
    | some (.exit e A', H') => some (e, A', H')
    | _ => none
noncomputable def keepM (m : T Blk) : List Nat → T Blk → T Blk
  | [], t => t
  | n :: l, t => keepM m l (t.set n (m.get n))
noncomputable def Heap.keep (H : Heap) (live : List Nat) : Heap := { base := H.base, next := H.next, m := keepM H.m live .leaf, hole := H.hole }
theorem keepM_get (m : T Blk) : ∀ (l : List Nat) (t : T Blk) (n : Nat) (b : Blk), (keepM m l t).get n = some b → t.get n = some b ∨ m.get n = some b
  | [], t, n, b, h => .inl h
  | x :: l, t, n, b, h => by
    rcases keepM_get m l _ n b h with h | h
    · rw [T.get_set] at h
      split at h
      · rename_i e; subst e; exact .inr h
      · exact .inl h
    · exact .inr h
theorem Heap.keep_get {H : Heap} {live : List Nat} {n : Nat} {b : Blk} (h : (H.keep live).get n = some b) : H.get n = some b := by
  rcases keepM_get H.m live .leaf n b h with h | h
  · rw [T.get_leaf] at h; simp at h
  · exact h
noncomputable def runP (r : Runner) : List (Nat × List Nat) → List Code → Fr → Heap → Option (AExit × Fr × Heap)
  | [], l, A, H => runL r l A H
  | p :: ps, l, A, H => match runL r (l.take p.1) A H with
    | some (.normal, A1, H1) => runP r ps (l.drop p.1) A1 (H1.keep p.2)
    | x => x
theorem runP_step {r : Runner} {p : Nat × List Nat} {ps : List (Nat × List Nat)} {l : List Code} {A A1 : Fr} {H H1 : Heap} (h : (match runL r (l.take p.1) A H with
    | some (.normal, A1, H1) => some (A1, H1.keep p.2)
    | _ => none) = some (A1, H1)) : runP r (p :: ps) l A H = runP r ps (l.drop p.1) A1 H1 := by
  rw [show runP r (p :: ps) l A H = (match runL r (l.take p.1) A H with
    | some (.normal, A1, H1) => runP r ps (l.drop p.1) A1 (H1.keep p.2)
    | x => x) from rfl]
  cases hr : runL r (l.take p.1) A H with
  | none => rw [hr] at h; simp at h
  | some q =>
    obtain ⟨e, A2, H2⟩ := q
    rw [hr] at h
    cases e <;> simp at h
    obtain ⟨rfl, rfl⟩ := h
    rfl
noncomputable def piece (r : Runner) (n : Nat) (live : List Nat) (l : List Code) (A : Fr) (H : Heap) : Option (Fr × Heap) := match runL r (l.take n) A H with
    | some (.normal, A1, H1) => some (A1, H1.keep live)
    | _ => none
theorem runP_nil {r : Runner} {l : List Code} {A : Fr} {H : Heap} : runP r [] l A H = runL r l A H := rfl
theorem runP_cons {r : Runner} {p : Nat × List Nat} {ps : List (Nat × List Nat)} {l l' : List Code} {A A1 : Fr} {H H1 : Heap} (hl : l' = l.drop p.1) (h : piece r p.1 p.2 l A H = some (A1, H1)) : runP r (p :: ps) l A H = runP r ps l' A1 H1 := by
  rw [hl]
  exact runP_step h
def LOk (P : Program) : List Code → (Exit → Act → World → Prop) → Act → World → Prop
  | [], Q, a, w => Q .normal a w
  | c :: l, Q, a, w => c.wp P (Exit.then (LOk P l Q) Q) a w
theorem then_mono {K K' : Act → World → Prop} {Q Q' : Exit → Act → World → Prop} (hk : ∀ a w, K a w → K' a w) (hq : ∀ e a w, e ≠ .normal → Q e a w → Q' e a w) : ∀ e a w, Exit.then K Q e a w → Exit.then K' Q' e a w := by
  intro e a w h
  cases e with
  | normal => exact hk a w h
  | _ => exact hq _ a w (by simp) h
theorem LOk.mono {P : Program} {Q Q' : Exit → Act → World → Prop} (hq : ∀ e a w, Q e a w → Q' e a w) : ∀ (l : List Code) (a : Act) (w : World), LOk P l Q a w → LOk P l Q' a w
  | [], _, _, h => hq _ _ _ h
  | _ :: l, _, _, h => wp_mono h (then_mono (LOk.mono hq l) fun _ _ _ _ h => hq _ _ _ h)
theorem LOk.append {P : Program} {Q : Exit → Act → World → Prop} {m : List Code} : ∀ (l : List Code) (a : Act) (w : World), LOk P (l ++ m) Q a w → LOk P l (Exit.then (LOk P m Q) Q) a w
  | [], _, _, h => h
  | _ :: l, _, _, h => wp_mono h (then_mono (LOk.append l) fun e a w he h => by cases e <;> first | exact absurd rfl he | exact h)
theorem LOk.join {P : Program} {Q : Exit → Act → World → Prop} {m : List Code} : ∀ (l : List Code) (a : Act) (w : World), LOk P l (Exit.then (LOk P m Q) Q) a w → LOk P (l ++ m) Q a w
  | [], _, _, h => h
  | _ :: l, _, _, h => wp_mono h (then_mono (LOk.join l) fun e a w he h => by cases e <;> first | exact absurd rfl he | exact h)
theorem LOk.code {P : Program} : ∀ (c : Code) (Q : Exit → Act → World → Prop) (a : Act) (w : World), LOk P (spine c) Q a w → c.wp P Q a w := by
  intro c
  have one : ∀ (c : Code) (Q : Exit → Act → World → Prop) (a : Act) (w : World), LOk P [c] Q a w → c.wp P Q a w := fun c Q a w h => wp_mono h fun e a w h => by cases e <;> exact h
  induction c with
  | seq x y ihx ihy =>
    intro Q a w h
    exact wp_seq (ihx _ a w (wp_mono_l (LOk.append (spine x) a w h) ihy))
  | _ => exact one _
where
  wp_mono_l {P : Program} {y : Code} {l : List Code} {Q : Exit → Act → World → Prop} {a : Act} {w : World} (h : LOk P l (Exit.then (LOk P (spine y) Q) Q) a w) (ihy : ∀ Q a w, LOk P (spine y) Q a w → y.wp P Q a w) : LOk P l (Exit.then (fun a w => y.wp P Q a w) Q) a w :=
    LOk.mono (then_mono (fun a w h => ihy Q a w h) fun _ _ _ _ h => h) l a w h
theorem fine_spine {n : Nat} : ∀ (c : Code), fineC n c = true → ∀ x ∈ spine c, fineC n x = true := by
  intro c
  induction c with
  | seq x y ihx ihy =>
    intro h z hz
    simp only [fineC, Bool.and_eq_true] at h
    rcases List.mem_append.1 hz with hz | hz
    · exact ihx h.1 z hz
    · exact ihy h.2 z hz
  | _ => intro h z hz; obtain rfl := List.mem_singleton.1 hz; exact h
section
variable {P : Program} [NoFloat P] {G : Nat → Option Obj} {ι : Inj}
theorem Rel.keep [Syms] {H : Heap} {w : World} (h : Rel P ι H w) (live : List Nat) : Rel P ι (H.keep live) w :=
  ⟨h.glb, h.gsize, h.glob, h.over, h.next, h.room, h.fresh, h.hole, h.below, fun n b hn => h.live n b (Heap.keep_get hn), fun n m b c i j hn hm => h.inj n m b c i j (Heap.keep_get hn) (Heap.keep_get hm)⟩
theorem PostC.keep [Syms] {w : World} {a : Act} {e : AExit} {A' : Fr} {H' : Heap} (live : List Nat) {e' : Exit} {a' : Act} {w' : World} (h : PostC P ι w a e A' H' e' a' w') : PostC P ι w a e A' (H'.keep live) e' a' w' := by
  obtain ⟨ι1, h1, x1, r1, f1, d1⟩ := h
  exact ⟨ι1, h1, x1, r1.keep live, f1, d1⟩
theorem runL_ok {r : Runner} (hg : @Good (noSyms G) noMarks P r) : ∀ (l : List Code) (A : Fr) (H : Heap) (e : AExit) (A' : Fr) (H' : Heap), (∀ c ∈ l, fineC P.globals.size c = true) → runL r l A H = some (e, A', H') →
    ∀ ι a w, @Rel (noSyms G) P ι H w → @FRel (noSyms G) ι A a.tmps → LOk P l (@PostC (noSyms G) P ι w a e A' H') a w
  | [], A, H, e, A', H', _, h, ι, a, w, hw, hA => by
    letI := noSyms G
    have h' : some (AExit.normal, A, H) = some (e, A', H') := h
    simp only [Option.some.injEq, Prod.mk.injEq] at h'
    obtain ⟨rfl, rfl, rfl⟩ := h'
    exact ⟨ι, rfl, Ext.refl _ _, hw, hA, rfl⟩
  | c :: l, A, H, e, A', H', hf, h, ι, a, w, hw, hA => by
    letI := noSyms G
    letI : Marks := noMarks
    have h' : (match r (.code c A) H with
      | some (.exit .normal A', H') => runL r l A' H'
      | some (.exit e A', H') => some (e, A', H')
      | _ => none) = some (e, A', H') := h
    cases hr : r (.code c A) H with
    | none => rw [hr] at h'; simp at h'
    | some x =>
      obtain ⟨o, H1⟩ := x
      rw [hr] at h'
      cases o with
      | val v => simp at h'
      | exit e1 A1 =>
        have hc := hg.code _ _ _ _ _ _ hr c (.same c) (hf c List.mem_cons_self) ι a w hw hA
        refine wp_mono hc fun e' a' w' hpost => ?_
        obtain ⟨ι1, rfl, x1, r1, f1, d1⟩ := hpost
        cases e1 with
        | normal =>
          exact LOk.mono (fun _ _ _ hp => hp.trans x1 d1) l a' w' (runL_ok hg l A1 H1 e A' H' (fun c hc => hf c (List.mem_cons_of_mem _ hc)) h' ι1 a' w' r1 f1)
        | exit id =>
          simp only [Option.some.injEq, Prod.mk.injEq] at h'
          obtain ⟨rfl, rfl, rfl⟩ := h'
          exact ⟨ι1, rfl, x1, r1, f1, d1⟩
        | ret =>
          simp only [Option.some.injEq, Prod.mk.injEq] at h'
          obtain ⟨rfl, rfl, rfl⟩ := h'
          exact ⟨ι1, rfl, x1, r1, f1, d1⟩
theorem runP_ok {r : Runner} (hg : @Good (noSyms G) noMarks P r) : ∀ (ps : List (Nat × List Nat)) (l : List Code) (A : Fr) (H : Heap) (e : AExit) (A' : Fr) (H' : Heap), (∀ c ∈ l, fineC P.globals.size c = true) → runP r ps l A H = some (e, A', H') →
    ∀ ι a w, @Rel (noSyms G) P ι H w → @FRel (noSyms G) ι A a.tmps → LOk P l (@PostC (noSyms G) P ι w a e A' H') a w
  | [], l, A, H, e, A', H', hf, h, ι, a, w, hw, hA => runL_ok hg l A H e A' H' hf h ι a w hw hA
  | p :: ps, l, A, H, e, A', H', hf, h, ι, a, w, hw, hA => by
    letI := noSyms G
    letI : Marks := noMarks
    have h' : (match runL r (l.take p.1) A H with
      | some (.normal, A1, H1) => runP r ps (l.drop p.1) A1 (H1.keep p.2)
      | x => x) = some (e, A', H') := h
    rw [← List.take_append_drop p.1 l]
    refine LOk.join _ _ _ ?_
    cases hr : runL r (l.take p.1) A H with
    | none => rw [hr] at h'; simp at h'
    | some q =>
      obtain ⟨e1, A1, H1⟩ := q
      rw [hr] at h'
      have h1 := runL_ok hg (l.take p.1) A H e1 A1 H1 (fun c hc => hf c (List.mem_of_mem_take hc)) hr ι a w hw hA
      refine LOk.mono (fun e' a' w' hpost => ?_) _ _ _ h1
      obtain ⟨ι1, rfl, x1, r1, f1, d1⟩ := hpost
      cases e1 with
      | normal =>
        exact LOk.mono (fun _ _ _ hp => hp.trans x1 d1) _ a' w' (runP_ok hg ps (l.drop p.1) A1 (H1.keep p.2) e A' H' (fun c hc => hf c (List.mem_of_mem_drop hc)) h' ι1 a' w' (r1.keep p.2) f1)
      | exit id =>
        simp only [Option.some.injEq, Prod.mk.injEq] at h'
        obtain ⟨rfl, rfl, rfl⟩ := h'
        exact ⟨ι1, rfl, x1, r1, f1, d1⟩
      | ret =>
        simp only [Option.some.injEq, Prod.mk.injEq] at h'
        obtain ⟨rfl, rfl, rfl⟩ := h'
        exact ⟨ι1, rfl, x1, r1, f1, d1⟩
noncomputable def spineR (ps : List (Nat × List Nat)) (r : Runner) : Runner
  | .code c A, H => match runP r ps (spine c) A H with
    | some (e, A', H') => some (.exit e A', H')
    | none => none
  | .fn f a, H => r (.fn f a) H
  | .loop c A, H => r (.loop c A) H
theorem ann_eq {c c0 : Code} (h : @Ann noMarks c c0) : c = c0 := by
  letI : Marks := noMarks
  induction h with
  | same => rfl
  | mark hn => simp [Marks.code] at hn
  | seq _ _ h1 h2 => rw [h1, h2]
  | cond _ _ h1 h2 => rw [h1, h2]
  | block _ h1 => rw [h1]
  | loop _ h1 => rw [h1]
  | scope _ h1 => rw [h1]
theorem spineR_good {r : Runner} (hg : @Good (noSyms G) noMarks P r) (ps : List (Nat × List Nat)) : @Good (noSyms G) noMarks P (spineR ps r) := by
  letI := noSyms G
  letI : Marks := noMarks
  refine ⟨hg.fn, fun c A H e A' H' h => ?_, hg.loop, fun c A H v H' h => ?_, hg.noValL⟩
  · have h' : (match runP r ps (spine c) A H with
      | some (e, A', H') => some (Out.exit e A', H')
      | none => none) = some (.exit e A', H') := h
    cases hr : runP r ps (spine c) A H with
    | none => rw [hr] at h'; simp at h'
    | some q =>
      obtain ⟨e1, A1, H1⟩ := q
      rw [hr] at h'
      simp only [Option.some.injEq, Prod.mk.injEq, Out.exit.injEq] at h'
      obtain ⟨⟨rfl, rfl⟩, rfl⟩ := h'
      intro c0 hann hf ι a w hw hA
      obtain rfl := ann_eq hann
      exact LOk.code _ _ _ _ (runP_ok hg ps (spine c) A H _ _ _ (fine_spine c hf) hr ι a w hw hA)
  · have h' : (match runP r ps (spine c) A H with
      | some (e, A', H') => some (Out.exit e A', H')
      | none => none) = some (.val v, H') := h
    cases hr : runP r ps (spine c) A H with
    | none => rw [hr] at h'; simp at h'
    | some q =>
      obtain ⟨e1, A1, H1⟩ := q
      rw [hr] at h'
      simp at h'
end
noncomputable def finL (P : Program) (fn : Func) : Option (AExit × Fr × Heap) → Option (Out × Heap)
  | some (.normal, A, H') | some (.ret, A, H') => cond (resOk fn A) (match arun P (resA fn A.get) H' with
    | some (vs, H'') => some (.val (if h : vs.size = 1 then vs[0] else .tuple vs), H'')
    | none => none) none
  | _ => none
noncomputable def bodyS (ft : Nat → Option Func) (f : FuncId) : List Code := match ft f with
  | some fn => match fn.body with
    | some c => spine c
    | none => []
  | none => []
noncomputable def enterL (ft : Nat → Option Func) (f : FuncId) (args : Array Value) : Fr := match ft f with
  | some fn => Fr.enter fn args
  | none => { size := 0, m := .leaf }
noncomputable def endL (P : Program) (ft : Nat → Option Func) (f : FuncId) (x : Option (AExit × Fr × Heap)) : Option (Out × Heap) := match ft f with
  | some fn => finL P fn x
  | none => none
theorem step_body [Syms] {P : Program} [NoFloat P] [Marks] [Orc P] [Lps P] {ft : Nat → Option Func} {ps : List (Nat × List Nat)} {r : Runner} {draw : Array Oper → Fr → Heap → Option (Fr × Heap)} {f : FuncId} {args : Array Value} {H : Heap} {x : Out × Heap} (h : endL P ft f (runP r ps (bodyS ft f) (enterL ft f args) H) = some x) (hb : ((ft f).bind (·.body)).isSome = true) :
    stepRun P ft (spineR ps r) draw (.fn f args) H = some x := by
  unfold endL bodyS enterL at h
  simp only [stepRun]
  cases hf : ft f with
  | none => rw [hf] at h; simp at h
  | some fn =>
    rw [hf] at h hb
    cases hc : fn.body with
    | none => simp [hc] at hb
    | some c =>
      simp only [hc] at h ⊢
      rw [show spineR ps r (.code c (Fr.enter fn args)) H = (match runP r ps (spine c) (Fr.enter fn args) H with
        | some (e, A', H') => some (Out.exit e A', H')
        | none => none) from rfl]
      cases hr : runP r ps (spine c) (Fr.enter fn args) H with
      | none => rw [hr] at h; simp [finL] at h
      | some q =>
        obtain ⟨e1, A1, H1⟩ := q
        rw [hr] at h
        cases e1 <;> exact h
theorem callR [Syms] {P : Program} [NoFloat P] [Marks] [Orc P] [Lps P] {r : Runner} (hg : Good P r) {gs : Gs} {f : FuncId} {args args' : Array Value} {v : Value} {H' : Heap} (hargs : ∀ ι, ARel ι args args')
    (hrun : r (.fn f args) (H0g P gs) = some (.val v, H')) (w : World) (hw : GOk P gs w) (hgl : (∀ b, b < P.globals.size → w.heap[b]? = Syms.glob b) ∧ ∀ b o, Syms.inp b = some o → w.heap[b]? = some o) : Calls P f args' w fun e w' => ∃ ι' v', e = .returned v' ∧ VRel ι' v v' ∧ Quiet w w' := by
  refine Calls.mono (hg.fn f args (H0g P gs) _ H' hrun (ι0g P gs) args' w (rel0g hw hgl) (hargs _)) fun e w' he => ?_
  obtain ⟨ι', v', rfl, x1, r1, q1⟩ := he
  exact ⟨ι', v', rfl, q1, x1.quiet⟩
end Go.Ev
namespace Go.Ev
variable {P : Program} {ft : Nat → Option Func}
theorem KnOk.pieces [NoFloat P] (hE : EnvOk P ft) {gs : Gs} {n : Nat} {f : FuncId} {args : Array Value} {v : Value} (hx : Kn.ok ⟨f, args, v⟩ = true) (tb : List Kn) (htb : tb.all Kn.ok = true) {L : List Code} {A0 : Fr} (hL0 : L = bodyS ft f) (hA0 : A0 = enterL ft f args)
    (ps : List (Nat × List Nat)) (hrun : ∀ G, outEq v (endL P ft f (runP (run0 P ft (knT tb fun _ _ => none) G n) ps L A0 (H0g P gs))) = true) (hb : ((ft f).bind (·.body)).isSome = true) {w : World} (hw : GOk P gs w)
    (hT : ∀ y ∈ tb, KnOk P w y) : KnOk P w ⟨f, args, v⟩ := by
  subst hL0 hA0
  intro w₁ hs hgl
  unfold Kn.ok at hx
  rw [Bool.and_eq_true] at hx
  have hw1 : GOk P gs w₁ := @GOk.of (noSyms fun _ => none) _ _ _ _ hw hs hgl
  have hr := hrun fun b => w₁.heap[b]?
  letI i1 := noSyms fun b => w₁.heap[b]?
  letI i2 : Marks := noMarks
  letI i3 : Orc P := noOrc P _
  letI i4 : Lps P := noLps P
  have hK : KOk P (knT tb fun _ _ => none) := @knT_ok P (fun b => w₁.heap[b]?) w (fun b hb => hgl b hb) _ (@noK (noSyms fun b => w₁.heap[b]?) P) tb htb hT
  have hL : LpsOk P := fun _ _ _ _ _ _ _ _ h => by simp at h
  have hg : Good P (runK P ft (knT tb fun _ _ => none) n) := runK_good hE hL hK n
  have hg2 : Good P (stepRun P ft (spineR ps (runK P ft (knT tb fun _ _ => none) n)) (drawRun2 P ft (spineR ps (runK P ft (knT tb fun _ _ => none) n)))) := Good.step hE hL (spineR_good hg ps) (drawRun2_ok hE (spineR_good hg ps))
  cases he : endL P ft f (runP (run0 P ft (knT tb fun _ _ => none) (fun b => w₁.heap[b]?) n) ps (bodyS ft f) (enterL ft f args) (H0g P gs)) with
  | none => rw [he] at hr; simp [outEq] at hr
  | some q =>
    obtain ⟨out, H'⟩ := q
    rw [he] at hr
    cases out with
    | exit e A => simp [outEq] at hr
    | val u =>
      have hu : u = v := veq_ok hr
      subst hu
      refine Calls.mono (callR hg2 (args := args) (fun ι => plainAs_rel hx.1) (step_body he hb) w₁ hw1 ⟨fun _ _ => rfl, fun _ _ h => by simp at h⟩) fun e w' hh => ?_
      obtain ⟨ι', v', rfl, q1, x1⟩ := hh
      rw [plainA_eq hx.2 q1]
      exact ⟨rfl, x1⟩
end Go.Ev
namespace Go.Ev
open Go.RowKit
set_option linter.unusedSectionVars false
inductive Itm where
  | code (c : Code)
  | inLoop (c : Code)
  | inBlock (id : Nat)
  | ops (os : Array Oper) (l : List Oper)
noncomputable def unwI : List Itm → AExit → List Itm × AExit
  | [], e => ([], e)
  | .inBlock id :: l, .exit id' => cond (Nat.beq id' id) (l, .normal) (unwI l (.exit id'))
  | .code _ :: l, e => unwI l e
  | .inLoop _ :: l, e => unwI l e
  | .inBlock _ :: l, e => unwI l e
  | .ops .. :: l, e => unwI l e
noncomputable def opR (P : Program) (ft : Nat → Option Func) (G : Nat → Option Obj) (r : Runner) (os : Array Oper) (l : List Oper) (A : Fr) (H : Heap) : Option (Fr × Heap) :=
  letI := noSyms G
  letI := noOrc P G
  runOps P ft r os l A H
noncomputable def stI (P : Program) (ft : Nat → Option Func) (G : Nat → Option Obj) (r : Runner) : List Itm → Fr → Heap → Option (List Itm × AExit × Fr × Heap)
  | [], _, _ => none
  | .inBlock _ :: l, A, H => some (l, .normal, A, H)
  | .inLoop c :: l, A, H => some (.code c :: .inLoop c :: l, .normal, A, H)
  | .code (.seq a b) :: l, A, H => some (.code a :: .code b :: l, .normal, A, H)
  | .code (.block id c) :: l, A, H => some (.code c :: .inBlock id :: l, .normal, A, H)
  | .code (.loop c) :: l, A, H => some (.code c :: .inLoop c :: l, .normal, A, H)
  | .code (.cond x a b) :: l, A, H => match opv A.get x with
    | .bool t => some (.code (if t then a else b) :: l, .normal, A, H)
    | _ => none
  | .code (.region _ os false) :: l, A, H => some (.ops os os.toList :: l, .normal, A, H)
  | .ops _ [] :: l, A, H => some (l, .normal, A, H)
  | .ops os (o :: rest) :: l, A, H => match opR P ft G r os [o] A H with
    | some (A', H') => some (.ops os rest :: l, .normal, A', H')
    | none => none
  | .code c :: l, A, H => match r (.code c A) H with
    | some (.exit .normal A', H') => some (l, .normal, A', H')
    | some (.exit e A', H') => some ((unwI l e).1, (unwI l e).2, A', H')
    | _ => none
noncomputable def itN (P : Program) (ft : Nat → Option Func) (G : Nat → Option Obj) (r : Runner) : Nat → List Itm → Fr → Heap → Option (List Itm × AExit × Fr × Heap)
  | 0, l, A, H => some (l, .normal, A, H)
  | n + 1, l, A, H => match l with
    | [] => some ([], .normal, A, H)
    | x :: l => match stI P ft G r (x :: l) A H with
      | some (l', .normal, A', H') => itN P ft G r n l' A' H'
      | y => y
noncomputable def runQ (P : Program) (ft : Nat → Option Func) (G : Nat → Option Obj) (r : Runner) (big : Nat) : List (Nat × List Nat) → List Itm → Fr → Heap → Option (AExit × Fr × Heap)
  | [], l, A, H => match itN P ft G r big l A H with
    | some ([], e, A', H') => some (e, A', H')
    | _ => none
  | p :: ps, l, A, H => match itN P ft G r p.1 l A H with
    | some (l1, .normal, A1, H1) => runQ P ft G r big ps l1 A1 (H1.keep p.2)
    | _ => none
noncomputable def pieceI (P : Program) (ft : Nat → Option Func) (G : Nat → Option Obj) (r : Runner) (n : Nat) (live : List Nat) (l : List Itm) (A : Fr) (H : Heap) : Option (List Itm × Fr × Heap) := match itN P ft G r n l A H with
    | some (l1, .normal, A1, H1) => some (l1, A1, H1.keep live)
    | _ => none
theorem runQ_cons {P : Program} {ft : Nat → Option Func} {G : Nat → Option Obj} {r : Runner} {big : Nat} {p : Nat × List Nat} {ps : List (Nat × List Nat)} {l l1 : List Itm} {A A1 : Fr} {H H1 : Heap} (h : pieceI P ft G r p.1 p.2 l A H = some (l1, A1, H1)) : runQ P ft G r big (p :: ps) l A H = runQ P ft G r big ps l1 A1 H1 := by
  rw [show runQ P ft G r big (p :: ps) l A H = (match itN P ft G r p.1 l A H with
    | some (l1, .normal, A1, H1) => runQ P ft G r big ps l1 A1 (H1.keep p.2)
    | _ => none) from rfl]
  unfold pieceI at h
  cases hr : itN P ft G r p.1 l A H with
  | none => rw [hr] at h; simp at h
  | some q =>
    obtain ⟨l2, e, A2, H2⟩ := q
    rw [hr] at h
    cases e <;> simp at h
    obtain ⟨rfl, rfl, rfl⟩ := h
    rfl
def codePt : Code → List Nat → Code
  | c, [] => c
  | .seq a _, 0 :: p => codePt a p
  | .seq _ b, _ :: p => codePt b p
  | .cond _ a _, 0 :: p => codePt a p
  | .cond _ _ b, _ :: p => codePt b p
  | .block _ c, _ :: p => codePt c p
  | .loop c, _ :: p => codePt c p
  | c, _ => c
def itmsAt (ft : Nat → Option Func) (f : FuncId) (l : List (Nat × List Nat)) : List Itm := match ft f with
  | some fn => match fn.body with
    | some c => l.map fun x => match x.1 with
      | 0 => .code (codePt c x.2)
      | 1 => .inLoop (codePt c x.2)
      | 3 => (match codePt c x.2.dropLast with
        | .region _ os _ => .ops os (os.toList.drop (x.2.getLastD 0))
        | _ => .inBlock 0)
      | _ => .inBlock (x.2.headD 0)
    | none => []
  | none => []
def LWp (P : Program) (c : Code) (Q : Exit → Act → World → Prop) (a : Act) (w : World) : Prop :=
  ∀ (b : Frame) (k : List Item) (cs : List Frame), ∃ e a' w', Q e a' w' ∧ Arrives P (lone (b.at a (.inLoop c :: k)) cs w) b k cs e a' w'
theorem loop_pass {P : Program} {c : Code} {Q : Exit → Act → World → Prop} {a : Act} {w : World} (h : c.wp P (Exit.then (LWp P c Q) Q) a w) (b : Frame) (k : List Item) (cs : List Frame) :
    ∃ e a' w', Q e a' w' ∧ Arrives P (lone (b.at a (.code c :: .inLoop c :: k)) cs w) b k cs e a' w' := by
  obtain ⟨e, a₁, w₁, hq, harr⟩ := h b (.inLoop c :: k) cs
  cases e with
  | normal =>
    obtain ⟨e₂, a₂, w₂, hq₂, harr₂⟩ := hq b k cs
    exact ⟨e₂, a₂, w₂, hq₂, .of_steps harr harr₂⟩
  | exit id => exact ⟨_, a₁, w₁, hq, .pass (x := .inLoop c) rfl (fun _ _ => .inl (by simp)) harr⟩
  | goto l => exact ⟨_, a₁, w₁, hq, .pass (x := .inLoop c) rfl (fun _ _ => .inl (by simp)) harr⟩
  | ret => exact ⟨_, a₁, w₁, hq, .pass (x := .inLoop c) rfl (fun _ _ => .inl (by simp)) harr⟩
  | panic ch => exact ⟨_, a₁, w₁, hq, .pass (x := .inLoop c) rfl (fun _ _ => .inl (by simp)) harr⟩
  | outgrown => exact ⟨_, a₁, w₁, hq, .pass (x := .inLoop c) rfl (fun _ _ => .inl (by simp)) harr⟩
theorem LWp.of {P : Program} {c : Code} {Q : Exit → Act → World → Prop} {a : Act} {w : World} (h : c.wp P (Exit.then (LWp P c Q) Q) a w) : LWp P c Q a w := by
  intro b k cs
  obtain ⟨e, a', w', hq, harr⟩ := loop_pass h b k cs
  exact ⟨e, a', w', hq, .of_steps (.one step_inLoop) harr⟩
theorem loop_of {P : Program} {c : Code} {Q : Exit → Act → World → Prop} {a : Act} {w : World} (h : c.wp P (Exit.then (LWp P c Q) Q) a w) : (Code.loop c).wp P Q a w := by
  intro b k cs
  obtain ⟨e, a', w', hq, harr⟩ := loop_pass h b k cs
  exact ⟨e, a', w', hq, .of_steps (.one step_loop) harr⟩
theorem LWp.mono {P : Program} {c : Code} {Q Q' : Exit → Act → World → Prop} {a : Act} {w : World} (h : LWp P c Q a w) (hq : ∀ e a w, Q e a w → Q' e a w) : LWp P c Q' a w :=
  fun b k cs => let ⟨e, a', w', q, r⟩ := h b k cs; ⟨e, a', w', hq _ _ _ q, r⟩
def IX (P : Program) : List Itm → (Exit → Act → World → Prop) → Exit → Act → World → Prop
  | [], Q => Q
  | .code c :: l, Q => Exit.then (c.wp P (IX P l Q)) (IX P l Q)
  | .inLoop c :: l, Q => Exit.then (LWp P c (IX P l Q)) (IX P l Q)
  | .inBlock id :: l, Q => Exit.inBlock id (IX P l Q)
  | .ops os ol :: l, Q => Exit.then (wpList P os (IX P l Q) ol) (IX P l Q)
theorem IX.unw {P : Program} {Q : Exit → Act → World → Prop} {a : Act} {w : World} : ∀ (l : List Itm) (e : AExit), e ≠ .normal → IX P (unwI l e).1 Q (unwI l e).2.conv a w → IX P l Q e.conv a w
  | [], _, _, h => h
  | .code c :: l, e, he, h => by
    have h1 : IX P (unwI l e).1 Q (unwI l e).2.conv a w := by cases e <;> exact h
    have := IX.unw l e he h1
    cases e with
    | normal => exact absurd rfl he
    | exit id => exact this
    | ret => exact this
  | .inLoop c :: l, e, he, h => by
    have h1 : IX P (unwI l e).1 Q (unwI l e).2.conv a w := by cases e <;> exact h
    have := IX.unw l e he h1
    cases e with
    | normal => exact absurd rfl he
    | exit id => exact this
    | ret => exact this
  | .ops os ol :: l, e, he, h => by
    have h1 : IX P (unwI l e).1 Q (unwI l e).2.conv a w := by cases e <;> exact h
    have := IX.unw l e he h1
    cases e with
    | normal => exact absurd rfl he
    | exit id => exact this
    | ret => exact this
  | .inBlock id :: l, e, he, h => by
    cases e with
    | normal => exact absurd rfl he
    | ret => exact IX.unw l .ret he h
    | exit id' =>
      have h' : IX P (cond (Nat.beq id' id) (l, AExit.normal) (unwI l (.exit id'))).1 Q (cond (Nat.beq id' id) (l, AExit.normal) (unwI l (.exit id'))).2.conv a w := h
      show (if id' = id then IX P l Q .normal a w else IX P l Q (.exit id') a w)
      cases hb : Nat.beq id' id with
      | true =>
        rw [hb] at h'
        rw [if_pos (Nat.eq_of_beq_eq_true hb)]
        exact h'
      | false =>
        rw [hb] at h'
        rw [if_neg (fun e => by subst e; simp at hb)]
        exact IX.unw l (.exit id') he h'
def fineItm (n : Nat) : Itm → Bool
  | .code c | .inLoop c => fineC n c
  | .inBlock _ => true
  | .ops _ l => l.all (fineO n)
section
variable {P : Program} [NoFloat P] {G : Nat → Option Obj} {ι : Inj}
theorem fine_unw {n : Nat} : ∀ (l : List Itm) (e : AExit), (∀ x ∈ l, fineItm n x = true) → ∀ x ∈ (unwI l e).1, fineItm n x = true
  | [], e, _, x, hx => by cases e <;> simp [unwI] at hx
  | y :: l, e, h, x, hx => by
    have h' : ∀ x ∈ l, fineItm n x = true := fun x hx => h x (List.mem_cons_of_mem _ hx)
    cases y with
    | code c => exact fine_unw l e h' x (by cases e <;> exact hx)
    | inLoop c => exact fine_unw l e h' x (by cases e <;> exact hx)
    | ops os ol => exact fine_unw l e h' x (by cases e <;> exact hx)
    | inBlock id =>
      cases e with
      | normal => exact fine_unw l _ h' x hx
      | ret => exact fine_unw l _ h' x hx
      | exit id' =>
        have hx' : x ∈ (cond (Nat.beq id' id) (l, AExit.normal) (unwI l (.exit id'))).1 := hx
        cases hb : Nat.beq id' id with
        | true => rw [hb] at hx'; exact h' x hx'
        | false => rw [hb] at hx'; exact fine_unw l _ h' x hx'
theorem opR_ok {ft : Nat → Option Func} (hE : @EnvOk noMarks P ft) {r : Runner} (hg : @Good (noSyms G) noMarks P r) {os : Array Oper} {o : Oper} {rest : List Oper} {A A' : Fr} {H H' : Heap} (h : opR P ft G r os [o] A H = some (A', H')) (hf : fineO P.globals.size o = true) {Q : Exit → Act → World → Prop} {ι : Inj} {a : Act} {w : World} (hw : @Rel (noSyms G) P ι H w) (hA : @FRel (noSyms G) ι A a.tmps)
    (hQ : ∀ ι1 a1 w1, Ext P ι w ι1 w1 → @Rel (noSyms G) P ι1 H' w1 → @FRel (noSyms G) ι1 A' a1.tmps → a1.defers = a.defers → wpList P os Q rest a1 w1) : wpList P os Q (o :: rest) a w := by
  letI := noSyms G
  letI : Marks := noMarks
  letI : Orc P := noOrc P G
  letI : Lps P := noLps P
  have h' : runOps P ft r os [o] A H = some (A', H') := h
  rw [runOps_cons] at h'
  unfold wpList
  by_cases hl : lookOk os A o = true
  case neg => rw [if_neg hl] at h'; simp at h'
  rw [if_pos hl, wanted_eq hA os o hl] at h'
  by_cases hwt : Region.wanted o (yielded os a.tmps) = true
  · rw [if_pos hwt] at h' ⊢
    cases hs : stepOp P ft r o A H with
    | none => rw [hs] at h'; simp at h'
    | some q =>
      obtain ⟨A1, H1⟩ := q
      rw [hs] at h'
      simp only [runOps_nil, Option.some.injEq, Prod.mk.injEq] at h'
      obtain ⟨rfl, rfl⟩ := h'
      exact .inl (stepOp_ok hE hg hs hw hA hf hl hQ)
  · rw [if_neg hwt] at h' ⊢
    cases hp : A.put o.dst undf with
    | none => rw [hp] at h'; simp at h'
    | some A1 =>
      rw [hp] at h'
      simp only [runOps_nil, Option.some.injEq, Prod.mk.injEq] at h'
      obtain ⟨rfl, rfl⟩ := h'
      exact hQ ι _ w (Ext.refl _ _) hw (hA.put VRel.undf hp) (put_defers _ _ _)
theorem stI_ok {ft : Nat → Option Func} (hE : @EnvOk noMarks P ft) {r : Runner} (hg : @Good (noSyms G) noMarks P r) {l l' : List Itm} {A A' : Fr} {H H' : Heap} {e : AExit} (hf : ∀ x ∈ l, fineItm P.globals.size x = true) (h : stI P ft G r l A H = some (l', e, A', H'))
    {Q : Exit → Act → World → Prop} {ι : Inj} {a : Act} {w : World} (hw : @Rel (noSyms G) P ι H w) (hA : @FRel (noSyms G) ι A a.tmps)
    (hk : (∀ x ∈ l', fineItm P.globals.size x = true) → ∀ ι1 a1 w1, Ext P ι w ι1 w1 → @Rel (noSyms G) P ι1 H' w1 → @FRel (noSyms G) ι1 A' a1.tmps → a1.defers = a.defers → IX P l' Q e.conv a1 w1) : IX P l Q .normal a w := by
  letI := noSyms G
  letI : Marks := noMarks
  have leaf : ∀ (c : Code) (l : List Itm), (∀ x ∈ Itm.code c :: l, fineItm P.globals.size x = true) → (match r (.code c A) H with
    | some (.exit .normal A', H') => some (l, AExit.normal, A', H')
    | some (.exit e A', H') => some ((unwI l e).1, (unwI l e).2, A', H')
    | _ => none) = some (l', e, A', H') → IX P (.code c :: l) Q .normal a w := by
    intro c l hf h
    have hl : ∀ x ∈ l, fineItm P.globals.size x = true := fun x hx => hf x (List.mem_cons_of_mem _ hx)
    cases hr : r (.code c A) H with
    | none => rw [hr] at h; simp at h
    | some q =>
      obtain ⟨o, H1⟩ := q
      rw [hr] at h
      cases o with
      | val v => simp at h
      | exit e1 A1 =>
        refine wp_mono (hg.code _ _ _ _ _ _ hr c (.same c) (hf (.code c) List.mem_cons_self) ι a w hw hA) fun e' a' w' hpost => ?_
        obtain ⟨ι1, rfl, x1, r1, f1, d1⟩ := hpost
        cases e1 with
        | normal =>
          simp only [Option.some.injEq, Prod.mk.injEq] at h
          obtain ⟨rfl, rfl, rfl, rfl⟩ := h
          exact hk hl ι1 a' w' x1 r1 f1 d1
        | exit id =>
          simp only [Option.some.injEq, Prod.mk.injEq] at h
          obtain ⟨rfl, rfl, rfl, rfl⟩ := h
          exact IX.unw l _ (by simp) (hk (fine_unw l _ hl) ι1 a' w' x1 r1 f1 d1)
        | ret =>
          simp only [Option.some.injEq, Prod.mk.injEq] at h
          obtain ⟨rfl, rfl, rfl, rfl⟩ := h
          exact IX.unw l _ (by simp) (hk (fine_unw l _ hl) ι1 a' w' x1 r1 f1 d1)
  cases l with
  | nil => simp [stI] at h
  | cons y l =>
    have hl : ∀ x ∈ l, fineItm P.globals.size x = true := fun x hx => hf x (List.mem_cons_of_mem _ hx)
    have hy := hf y List.mem_cons_self
    cases y with
    | inBlock id =>
      simp only [stI, Option.some.injEq, Prod.mk.injEq] at h
      obtain ⟨rfl, rfl, rfl, rfl⟩ := h
      exact hk hl ι a w (Ext.refl _ _) hw hA rfl
    | inLoop c =>
      simp only [stI, Option.some.injEq, Prod.mk.injEq] at h
      obtain ⟨rfl, rfl, rfl, rfl⟩ := h
      exact LWp.of (hk (fun x hx => by
        rcases List.mem_cons.1 hx with rfl | hx
        · exact hy
        · exact hf x hx) ι a w (Ext.refl _ _) hw hA rfl)
    | ops os ol =>
      cases ol with
      | nil =>
        simp only [stI, Option.some.injEq, Prod.mk.injEq] at h
        obtain ⟨rfl, rfl, rfl, rfl⟩ := h
        exact hk hl ι a w (Ext.refl _ _) hw hA rfl
      | cons o rest =>
        simp only [stI] at h
        have hy' : (o :: rest).all (fineO P.globals.size) = true := hy
        simp only [List.all_cons, Bool.and_eq_true] at hy'
        split at h
        · rename_i A1 H1 hr
          simp only [Option.some.injEq, Prod.mk.injEq] at h
          obtain ⟨rfl, rfl, rfl, rfl⟩ := h
          exact opR_ok hE hg hr hy'.1 hw hA fun ι1 a1 w1 x1 r1 f1 d1 => hk (fun z hz => by
            rcases List.mem_cons.1 hz with rfl | hz
            · exact hy'.2
            · exact hl z hz) ι1 a1 w1 x1 r1 f1 d1
        · simp at h
    | code c =>
      cases c with
      | seq x y =>
        simp only [stI, Option.some.injEq, Prod.mk.injEq] at h
        obtain ⟨rfl, rfl, rfl, rfl⟩ := h
        have hy' : fineC P.globals.size (.seq x y) = true := hy
        simp only [fineC, Bool.and_eq_true] at hy'
        refine wp_seq (wp_mono (hk (fun z hz => by
          rcases List.mem_cons.1 hz with rfl | hz
          · exact hy'.1
          · rcases List.mem_cons.1 hz with rfl | hz
            · exact hy'.2
            · exact hl z hz) ι a w (Ext.refl _ _) hw hA rfl) fun e a w he => ?_)
        cases e <;> exact he
      | block id x =>
        simp only [stI, Option.some.injEq, Prod.mk.injEq] at h
        obtain ⟨rfl, rfl, rfl, rfl⟩ := h
        have hy' : fineC P.globals.size (.block id x) = true := hy
        simp only [fineC] at hy'
        exact wp_block (hk (fun z hz => by
          rcases List.mem_cons.1 hz with rfl | hz
          · exact hy'
          · rcases List.mem_cons.1 hz with rfl | hz
            · rfl
            · exact hl z hz) ι a w (Ext.refl _ _) hw hA rfl)
      | loop x =>
        simp only [stI, Option.some.injEq, Prod.mk.injEq] at h
        obtain ⟨rfl, rfl, rfl, rfl⟩ := h
        have hy' : fineC P.globals.size (.loop x) = true := hy
        simp only [fineC] at hy'
        exact loop_of (hk (fun z hz => by
          rcases List.mem_cons.1 hz with rfl | hz
          · exact hy'
          · rcases List.mem_cons.1 hz with rfl | hz
            · exact hy'
            · exact hl z hz) ι a w (Ext.refl _ _) hw hA rfl)
      | cond c x y =>
        have hy' : fineC P.globals.size (.cond c x y) = true := hy
        simp only [fineC, Bool.and_eq_true] at hy'
        simp only [stI] at h
        have hp : ∀ t, c = .tmp t → A.opn = false ∨ isP (A.get t) = false := by
          intro t ht
          subst ht
          right
          have e : opv A.get (.tmp t) = A.get t := rfl
          rw [e] at h
          cases hq : A.get t <;> rw [hq] at h <;> first | rfl | simp at h
        letI i3 : Orc P := noOrc P _
        letI i4 : Lps P := noLps P
        have hc := opv_rel hw hA hy'.1.1 hp
        revert hc h
        generalize opv A.get c = u
        generalize hu : a.eval c = u'
        intro h hc
        cases hc with
        | bool t =>
          simp only [Option.some.injEq, Prod.mk.injEq] at h
          obtain ⟨rfl, rfl, rfl, rfl⟩ := h
          have hk' := hk (fun z hz => by
            rcases List.mem_cons.1 hz with rfl | hz
            · cases t
              · exact hy'.2
              · exact hy'.1.2
            · exact hl z hz) ι a w (Ext.refl _ _) hw hA rfl
          exact wp_cond hu hk'
        | _ => simp at h
      | skip => exact leaf _ l hf h
      | region id ops d =>
        cases d with
        | true => exact leaf _ l hf h
        | false =>
          simp only [stI, Option.some.injEq, Prod.mk.injEq] at h
          obtain ⟨rfl, rfl, rfl, rfl⟩ := h
          have hy' : fineC P.globals.size (.region id ops false) = true := hy
          unfold fineC at hy'
          rw [Array.all_eq_true_iff_forall_mem] at hy'
          exact wp_region_list (hk (fun z hz => by
            rcases List.mem_cons.1 hz with rfl | hz
            · exact List.all_eq_true.2 fun o ho => hy' o (by simpa using ho)
            · exact hl z hz) ι a w (Ext.refl _ _) hw hA rfl)
      | rangeFunc f ps x y => exact leaf _ l hf h
      | exit id => exact leaf _ l hf h
      | scope x => exact leaf _ l hf h
      | label i => exact leaf _ l hf h
      | goto i => exact leaf _ l hf h
      | ret => exact leaf _ l hf h
      | refuse s => exact leaf _ l hf h
theorem itN_ok {ft : Nat → Option Func} (hE : @EnvOk noMarks P ft) {r : Runner} (hg : @Good (noSyms G) noMarks P r) {Q : Exit → Act → World → Prop} : ∀ (n : Nat) (l l' : List Itm) (A A' : Fr) (H H' : Heap) (e : AExit), (∀ x ∈ l, fineItm P.globals.size x = true) → itN P ft G r n l A H = some (l', e, A', H') →
    ∀ ι a w, @Rel (noSyms G) P ι H w → @FRel (noSyms G) ι A a.tmps →
    ((∀ x ∈ l', fineItm P.globals.size x = true) → ∀ ι1 a1 w1, Ext P ι w ι1 w1 → @Rel (noSyms G) P ι1 H' w1 → @FRel (noSyms G) ι1 A' a1.tmps → a1.defers = a.defers → IX P l' Q e.conv a1 w1) → IX P l Q .normal a w
  | 0, l, l', A, A', H, H', e, hf, h, ι, a, w, hw, hA, hk => by
    letI := noSyms G
    simp only [itN, Option.some.injEq, Prod.mk.injEq] at h
    obtain ⟨rfl, rfl, rfl, rfl⟩ := h
    exact hk hf ι a w (Ext.refl _ _) hw hA rfl
  | n + 1, [], l', A, A', H, H', e, hf, h, ι, a, w, hw, hA, hk => by
    letI := noSyms G
    simp only [itN, Option.some.injEq, Prod.mk.injEq] at h
    obtain ⟨rfl, rfl, rfl, rfl⟩ := h
    exact hk hf ι a w (Ext.refl _ _) hw hA rfl
  | n + 1, x :: l, l', A, A', H, H', e, hf, h, ι, a, w, hw, hA, hk => by
    letI := noSyms G
    simp only [itN] at h
    cases hs : stI P ft G r (x :: l) A H with
    | none => rw [hs] at h; simp at h
    | some q =>
      obtain ⟨l1, e1, A1, H1⟩ := q
      rw [hs] at h
      refine stI_ok hE hg hf hs hw hA fun hf1 ι1 a1 w1 x1 r1 f1 d1 => ?_
      cases e1 with
      | normal => exact itN_ok hE hg n l1 l' A1 A' H1 H' e hf1 h ι1 a1 w1 r1 f1 fun hf2 ι2 a2 w2 x2 r2 f2 d2 => hk hf2 ι2 a2 w2 (x1.trans x2) r2 f2 (d2.trans d1)
      | exit id =>
        simp only [Option.some.injEq, Prod.mk.injEq] at h
        obtain ⟨rfl, rfl, rfl, rfl⟩ := h
        exact hk hf1 ι1 a1 w1 x1 r1 f1 d1
      | ret =>
        simp only [Option.some.injEq, Prod.mk.injEq] at h
        obtain ⟨rfl, rfl, rfl, rfl⟩ := h
        exact hk hf1 ι1 a1 w1 x1 r1 f1 d1
theorem runQ_ok {ft : Nat → Option Func} (hE : @EnvOk noMarks P ft) {r : Runner} (hg : @Good (noSyms G) noMarks P r) {big : Nat} {w0 : World} {ι0 : Inj} {a0 : Act} : ∀ (ps : List (Nat × List Nat)) (l : List Itm) (A A' : Fr) (H H' : Heap) (e : AExit), (∀ x ∈ l, fineItm P.globals.size x = true) → runQ P ft G r big ps l A H = some (e, A', H') →
    ∀ ι a w, Ext P ι0 w0 ι w → a.defers = a0.defers → @Rel (noSyms G) P ι H w → @FRel (noSyms G) ι A a.tmps → IX P l (@PostC (noSyms G) P ι0 w0 a0 e A' H') .normal a w
  | [], l, A, A', H, H', e, hf, h, ι, a, w, hx, hd, hw, hA => by
    letI := noSyms G
    have h' : (match itN P ft G r big l A H with
      | some ([], e, A', H') => some (e, A', H')
      | _ => none) = some (e, A', H') := h
    cases hr : itN P ft G r big l A H with
    | none => rw [hr] at h'; simp at h'
    | some q =>
      obtain ⟨l1, e1, A1, H1⟩ := q
      rw [hr] at h'
      cases l1 with
      | cons => simp at h'
      | nil =>
        simp only [Option.some.injEq, Prod.mk.injEq] at h'
        obtain ⟨rfl, rfl, rfl⟩ := h'
        exact itN_ok hE hg big l [] A A1 H H1 e1 hf hr ι a w hw hA fun _ ι1 a1 w1 x1 r1 f1 d1 => ⟨ι1, rfl, hx.trans x1, r1, f1, d1.trans hd⟩
  | p :: ps, l, A, A', H, H', e, hf, h, ι, a, w, hx, hd, hw, hA => by
    letI := noSyms G
    have h' : (match itN P ft G r p.1 l A H with
      | some (l1, .normal, A1, H1) => runQ P ft G r big ps l1 A1 (H1.keep p.2)
      | _ => none) = some (e, A', H') := h
    cases hr : itN P ft G r p.1 l A H with
    | none => rw [hr] at h'; simp at h'
    | some q =>
      obtain ⟨l1, e1, A1, H1⟩ := q
      rw [hr] at h'
      cases e1 with
      | normal => exact itN_ok hE hg p.1 l l1 A A1 H H1 .normal hf hr ι a w hw hA fun hf1 ι1 a1 w1 x1 r1 f1 d1 => runQ_ok hE hg ps l1 A1 A' (H1.keep p.2) H' e hf1 h' ι1 a1 w1 (hx.trans x1) (d1.trans hd) (r1.keep p.2) f1
      | exit id => simp at h'
      | ret => simp at h'
noncomputable def itemR (P : Program) (ft : Nat → Option Func) (G : Nat → Option Obj) (big : Nat) (ps : List (Nat × List Nat)) (r : Runner) : Runner
  | .code c A, H => match runQ P ft G r big ps [.code c] A H with
    | some (e, A', H') => some (.exit e A', H')
    | none => none
  | .fn f a, H => r (.fn f a) H
  | .loop c A, H => r (.loop c A) H
theorem itemR_good {ft : Nat → Option Func} (hE : @EnvOk noMarks P ft) {r : Runner} (hg : @Good (noSyms G) noMarks P r) (big : Nat) (ps : List (Nat × List Nat)) : @Good (noSyms G) noMarks P (itemR P ft G big ps r) := by
  letI := noSyms G
  letI : Marks := noMarks
  refine ⟨hg.fn, fun c A H e A' H' h => ?_, hg.loop, fun c A H v H' h => ?_, hg.noValL⟩
  · have h' : (match runQ P ft G r big ps [.code c] A H with
      | some (e, A', H') => some (Out.exit e A', H')
      | none => none) = some (.exit e A', H') := h
    cases hr : runQ P ft G r big ps [.code c] A H with
    | none => rw [hr] at h'; simp at h'
    | some q =>
      obtain ⟨e1, A1, H1⟩ := q
      rw [hr] at h'
      simp only [Option.some.injEq, Prod.mk.injEq, Out.exit.injEq] at h'
      obtain ⟨⟨rfl, rfl⟩, rfl⟩ := h'
      intro c0 hann hf ι a w hw hA
      obtain rfl := ann_eq hann
      exact runQ_ok hE hg ps [.code c] A A1 H H1 e1 (fun x hx => by obtain rfl := List.mem_singleton.1 hx; exact hf) hr ι a w (Ext.refl _ _) rfl hw hA
  · have h' : (match runQ P ft G r big ps [.code c] A H with
      | some (e, A', H') => some (Out.exit e A', H')
      | none => none) = some (.val v, H') := h
    cases hr : runQ P ft G r big ps [.code c] A H with
    | none => rw [hr] at h'; simp at h'
    | some q =>
      obtain ⟨e1, A1, H1⟩ := q
      rw [hr] at h'
      simp at h'
end
noncomputable def bodyI (ft : Nat → Option Func) (f : FuncId) : List Itm := itmsAt ft f [(0, [])]
theorem step_items [Syms] {P : Program} [NoFloat P] [Marks] [Orc P] [Lps P] {ft : Nat → Option Func} {G : Nat → Option Obj} {big : Nat} {ps : List (Nat × List Nat)} {r : Runner} {draw : Array Oper → Fr → Heap → Option (Fr × Heap)} {f : FuncId} {args : Array Value} {H : Heap} {x : Out × Heap} (h : endL P ft f (runQ P ft G r big ps (bodyI ft f) (enterL ft f args) H) = some x) (hb : ((ft f).bind (·.body)).isSome = true) :
    stepRun P ft (itemR P ft G big ps r) draw (.fn f args) H = some x := by
  unfold endL bodyI enterL itmsAt at h
  simp only [stepRun]
  cases hf : ft f with
  | none => rw [hf] at h; simp at h
  | some fn =>
    rw [hf] at h hb
    cases hc : fn.body with
    | none => simp [hc] at hb
    | some c =>
      simp only [hc, List.map_cons, List.map_nil, codePt] at h ⊢
      rw [show itemR P ft G big ps r (.code c (Fr.enter fn args)) H = (match runQ P ft G r big ps [.code c] (Fr.enter fn args) H with
        | some (e, A', H') => some (Out.exit e A', H')
        | none => none) from rfl]
      cases hr : runQ P ft G r big ps [.code c] (Fr.enter fn args) H with
      | none => rw [hr] at h; simp [finL] at h
      | some q =>
        obtain ⟨e1, A1, H1⟩ := q
        rw [hr] at h
        cases e1 <;> exact h
variable {P : Program} {ft : Nat → Option Func}
theorem KnOk.items [NoFloat P] (hE : EnvOk P ft) {gs : Gs} {n big : Nat} {f : FuncId} {args : Array Value} {v : Value} (hx : Kn.ok ⟨f, args, v⟩ = true) (tb : List Kn) (htb : tb.all Kn.ok = true) {L : List Itm} {A0 : Fr} (hL0 : L = bodyI ft f) (hA0 : A0 = enterL ft f args)
    (ps : List (Nat × List Nat)) (hrun : ∀ G, outEq v (endL P ft f (runQ P ft G (run0 P ft (knT tb fun _ _ => none) G n) big ps L A0 (H0g P gs))) = true) (hb : ((ft f).bind (·.body)).isSome = true) {w : World} (hw : GOk P gs w)
    (hT : ∀ y ∈ tb, KnOk P w y) : KnOk P w ⟨f, args, v⟩ := by
  subst hL0 hA0
  intro w₁ hs hgl
  unfold Kn.ok at hx
  rw [Bool.and_eq_true] at hx
  have hw1 : GOk P gs w₁ := @GOk.of (noSyms fun _ => none) _ _ _ _ hw hs hgl
  have hr := hrun fun b => w₁.heap[b]?
  letI i1 := noSyms fun b => w₁.heap[b]?
  letI i2 : Marks := noMarks
  letI i3 : Orc P := noOrc P _
  letI i4 : Lps P := noLps P
  have hK : KOk P (knT tb fun _ _ => none) := @knT_ok P (fun b => w₁.heap[b]?) w (fun b hb => hgl b hb) _ (@noK (noSyms fun b => w₁.heap[b]?) P) tb htb hT
  have hL : LpsOk P := fun _ _ _ _ _ _ _ _ h => by simp at h
  have hg : Good P (runK P ft (knT tb fun _ _ => none) n) := runK_good hE hL hK n
  have hg2 : Good P (stepRun P ft (itemR P ft (fun b => w₁.heap[b]?) big ps (runK P ft (knT tb fun _ _ => none) n)) (drawRun2 P ft (itemR P ft (fun b => w₁.heap[b]?) big ps (runK P ft (knT tb fun _ _ => none) n)))) := Good.step hE hL (itemR_good hE hg big ps) (drawRun2_ok hE (itemR_good hE hg big ps))
  cases he : endL P ft f (runQ P ft (fun b => w₁.heap[b]?) (run0 P ft (knT tb fun _ _ => none) (fun b => w₁.heap[b]?) n) big ps (bodyI ft f) (enterL ft f args) (H0g P gs)) with
  | none => rw [he] at hr; simp [outEq] at hr
  | some q =>
    obtain ⟨out, H'⟩ := q
    rw [he] at hr
    cases out with
    | exit e A => simp [outEq] at hr
    | val u =>
      have hu : u = v := veq_ok hr
      subst hu
      refine Calls.mono (callR hg2 (args := args) (fun ι => plainAs_rel hx.1) (step_items he hb) w₁ hw1 ⟨fun _ _ => rfl, fun _ _ h => by simp at h⟩) fun e w' hh => ?_
      obtain ⟨ι', v', rfl, q1, x1⟩ := hh
      rw [plainA_eq hx.2 q1]
      exact ⟨rfl, x1⟩
end Go.Ev
namespace Go.Ev
open Go.RowKit
set_option linter.unusedSectionVars false
abbrev KnG := List (FuncId × List (List Value × Value))
def knGa : List (List Value × Value) → List Value → Option Value
  | [], _ => none
  | e :: r, x => cond (knT.veqAs x e.1) (some e.2) (knGa r x)
def knG : KnG → FuncId → Array Value → Option Value
  | [], _, _ => none
  | g :: r, f, args => cond (Nat.beq f g.1) (knGa g.2 args.toList.reverse) (knG r f args)
def flatG : KnG → List Kn
  | [] => []
  | g :: r => g.2.map (fun e => ⟨g.1, e.1.reverse.toArray, e.2⟩) ++ flatG r
theorem knGa_ok : ∀ {es : List (List Value × Value)} {x : List Value} {v : Value}, knGa es x = some v → ∃ e ∈ es, e.1 = x ∧ e.2 = v
  | [], _, _, h => by simp [knGa] at h
  | e :: r, x, v, h => by
    have h' : cond (knT.veqAs x e.1) (some e.2) (knGa r x) = some v := h
    cases hv : knT.veqAs x e.1 with
    | true =>
      rw [hv] at h'
      simp only [cond_true, Option.some.injEq] at h'
      exact ⟨e, List.mem_cons_self, (veqAs_ok hv).symm, h'⟩
    | false =>
      rw [hv] at h'
      obtain ⟨y, hy, q⟩ := knGa_ok (show knGa r x = some v from h')
      exact ⟨y, List.mem_cons_of_mem _ hy, q⟩
theorem knG_entry : ∀ {tb : KnG} {f : FuncId} {args : Array Value} {v : Value}, knG tb f args = some v → ∃ x ∈ flatG tb, x.f = f ∧ x.args = args ∧ x.v = v
  | [], _, _, _, h => by simp [knG] at h
  | g :: r, f, args, v, h => by
    have h' : cond (Nat.beq f g.1) (knGa g.2 args.toList.reverse) (knG r f args) = some v := h
    cases hb : Nat.beq f g.1 with
    | true =>
      rw [hb] at h'
      obtain ⟨e, he, q1, q2⟩ := knGa_ok (show knGa g.2 args.toList.reverse = some v from h')
      refine ⟨⟨g.1, e.1.reverse.toArray, e.2⟩, List.mem_append_left _ (List.mem_map.2 ⟨e, he, rfl⟩), (Nat.eq_of_beq_eq_true hb).symm, ?_, q2⟩
      show e.1.reverse.toArray = args
      rw [q1]
      simp
    | false =>
      rw [hb] at h'
      obtain ⟨x, hx, q⟩ := knG_entry (show knG r f args = some v from h')
      exact ⟨x, List.mem_append_right _ hx, q⟩
variable {P : Program} {ft : Nat → Option Func}
theorem knG_ok {G : Nat → Option Obj} {w : World} (hG : ∀ b, b < P.globals.size → G b = w.heap[b]?) (tb : KnG) (hp : (flatG tb).all Kn.ok = true) (hx : ∀ x ∈ flatG tb, KnOk P w x) : @KOk (noSyms G) P (knG tb) := by
  intro f args v h ι H args' w₁ hw ha
  letI := noSyms G
  obtain ⟨x, hm, rfl, rfl, rfl⟩ := knG_entry h
  rw [List.all_eq_true] at hp
  have hp1 := hp x hm
  unfold Kn.ok at hp1
  rw [Bool.and_eq_true] at hp1
  obtain rfl := @plainAs_eq (noSyms G) _ _ _ hp1.1 ha
  refine Calls.mono (hx x hm w₁ ?_ ?_) fun e w' ⟨h1, xq⟩ => ?_
  · have := @Rel.gsize (noSyms G) P ι H w₁ hw; have := @Rel.room (noSyms G) P ι H w₁ hw; omega
  · intro b hb
    rw [(@Rel.glb (noSyms G) P ι H w₁ hw).1 b hb]
    exact hG b hb
  · exact ⟨ι, x.v, h1, @Quiet.ext (noSyms G) P _ _ xq ι, @Quiet.rel (noSyms G) P _ _ xq ι H hw, @plainA_rel (noSyms G) ι _ hp1.2⟩
theorem KnOk.runG [NoFloat P] (hE : EnvOk P ft) {gs : Gs} {n : Nat} {x : Kn} (hx : x.ok = true) (tb : KnG) (htb : (flatG tb).all Kn.ok = true) (hrun : ∀ G, outEq x.v (run0 P ft (knG tb) G n (.fn x.f x.args) (H0g P gs)) = true) {w : World} (hw : GOk P gs w)
    (hT : ∀ y ∈ flatG tb, KnOk P w y) : KnOk P w x := by
  intro w₁ hs hg
  unfold Kn.ok at hx
  rw [Bool.and_eq_true] at hx
  exact closedV hE hx.1 hx.2 w₁ (@knG_ok P (fun b => w₁.heap[b]?) w (fun b hb => hg b hb) tb htb hT) hrun (@GOk.of (noSyms fun _ => none) _ _ _ _ hw hs hg)
theorem KnOk.itemsG [NoFloat P] (hE : EnvOk P ft) {gs : Gs} {n big : Nat} {f : FuncId} {args : Array Value} {v : Value} (hx : Kn.ok ⟨f, args, v⟩ = true) (tb : KnG) (htb : (flatG tb).all Kn.ok = true) {L : List Itm} {A0 : Fr} (hL0 : L = bodyI ft f) (hA0 : A0 = enterL ft f args)
    (ps : List (Nat × List Nat)) (hrun : ∀ G, outEq v (endL P ft f (runQ P ft G (run0 P ft (knG tb) G n) big ps L A0 (H0g P gs))) = true) (hb : ((ft f).bind (·.body)).isSome = true) {w : World} (hw : GOk P gs w)
    (hT : ∀ y ∈ flatG tb, KnOk P w y) : KnOk P w ⟨f, args, v⟩ := by
  subst hL0 hA0
  intro w₁ hs hgl
  unfold Kn.ok at hx
  rw [Bool.and_eq_true] at hx
  have hw1 : GOk P gs w₁ := @GOk.of (noSyms fun _ => none) _ _ _ _ hw hs hgl
  have hr := hrun fun b => w₁.heap[b]?
  letI i1 := noSyms fun b => w₁.heap[b]?
  letI i2 : Marks := noMarks
  letI i3 : Orc P := noOrc P _
  letI i4 : Lps P := noLps P
  have hK : KOk P (knG tb) := @knG_ok P (fun b => w₁.heap[b]?) w (fun b hb => hgl b hb) tb htb hT
  have hL : LpsOk P := fun _ _ _ _ _ _ _ _ h => by simp at h
  have hg : Good P (runK P ft (knG tb) n) := runK_good hE hL hK n
  have hg2 : Good P (stepRun P ft (itemR P ft (fun b => w₁.heap[b]?) big ps (runK P ft (knG tb) n)) (drawRun2 P ft (itemR P ft (fun b => w₁.heap[b]?) big ps (runK P ft (knG tb) n)))) := Good.step hE hL (itemR_good hE hg big ps) (drawRun2_ok hE (itemR_good hE hg big ps))
  cases he : endL P ft f (runQ P ft (fun b => w₁.heap[b]?) (run0 P ft (knG tb) (fun b => w₁.heap[b]?) n) big ps (bodyI ft f) (enterL ft f args) (H0g P gs)) with
  | none => rw [he] at hr; simp [outEq] at hr
  | some q =>
    obtain ⟨out, H'⟩ := q
    rw [he] at hr
    cases out with
    | exit e A => simp [outEq] at hr
    | val u =>
      have hu : u = v := veq_ok hr
      subst hu
      refine Calls.mono (callR hg2 (args := args) (fun ι => plainAs_rel hx.1) (step_items he hb) w₁ hw1 ⟨fun _ _ => rfl, fun _ _ h => by simp at h⟩) fun e w' hh => ?_
      obtain ⟨ι', v', rfl, q1, x1⟩ := hh
      rw [plainA_eq hx.2 q1]
      exact ⟨rfl, x1⟩
end Go.Ev
namespace Go.Ev
open Go.RowKit
set_option linter.unusedSectionVars false
structure Pc where
  r : Runner
  n : Nat
  live : List Nat
noncomputable def runPc (P : Program) (ft : Nat → Option Func) (G : Nat → Option Obj) (r : Runner) (big : Nat) : List Pc → List Itm → Fr → Heap → Option (AExit × Fr × Heap)
  | [], l, A, H => match itN P ft G r big l A H with
    | some ([], e, A', H') => some (e, A', H')
    | _ => none
  | p :: ps, l, A, H => match itN P ft G p.r p.n l A H with
    | some (l1, .normal, A1, H1) => runPc P ft G r big ps l1 A1 (H1.keep p.live)
    | _ => none
theorem runPc_cons {P : Program} {ft : Nat → Option Func} {G : Nat → Option Obj} {r : Runner} {big : Nat} {p : Pc} {ps : List Pc} {l l1 : List Itm} {A A1 : Fr} {H H1 : Heap} (h : pieceI P ft G p.r p.n p.live l A H = some (l1, A1, H1)) : runPc P ft G r big (p :: ps) l A H = runPc P ft G r big ps l1 A1 H1 := by
  rw [show runPc P ft G r big (p :: ps) l A H = (match itN P ft G p.r p.n l A H with
    | some (l1, .normal, A1, H1) => runPc P ft G r big ps l1 A1 (H1.keep p.live)
    | _ => none) from rfl]
  unfold pieceI at h
  cases hr : itN P ft G p.r p.n l A H with
  | none => rw [hr] at h; simp at h
  | some q =>
    obtain ⟨l2, e, A2, H2⟩ := q
    rw [hr] at h
    cases e <;> simp at h
    obtain ⟨rfl, rfl, rfl⟩ := h
    rfl
def PcsOk (P : Program) (G : Nat → Option Obj) : List Pc → Prop
  | [] => True
  | p :: ps => @Good (noSyms G) noMarks P p.r ∧ PcsOk P G ps
noncomputable def callAt (P : Program) (ft : Nat → Option Func) (G : Nat → Option Obj) (L : List Itm) (A : Fr) (H : Heap) : Option (FuncId × Array Value × Heap) :=
  letI := noSyms G
  letI := noOrc P G
  match L with
  | .ops os (o :: _) :: _ => cond (lookOk os A o) (cond (Region.wanted o (yieldA os A)) (match aexec P ft A.get o H with
    | some (.enter f args, H1) => some (f, args, H1)
    | _ => none) none) none
  | _ => none
noncomputable def callEnd (live : List Nat) (L : List Itm) (A : Fr) (v : Value) (H : Heap) : Option (List Itm × Fr × Heap) := match L with
  | .ops os (o :: rest) :: l => match A.put o.dst v with
    | some A2 => some (.ops os rest :: l, A2, H.keep live)
    | none => none
  | _ => none
theorem piece_call {P : Program} [NoFloat P] {ft : Nat → Option Func} {G : Nat → Option Obj} {r : Runner} {live : List Nat} {L L1 : List Itm} {A A1 : Fr} {H H1 H2 H3 : Heap} {f : FuncId} {args : Array Value} {v : Value} (h1 : callAt P ft G L A H = some (f, args, H1)) (E : r (.fn f args) H1 = some (.val v, H2))
    (h2 : callEnd live L A v H2 = some (L1, A1, H3)) : pieceI P ft G r 1 live L A H = some (L1, A1, H3) := by
  cases L with
  | nil => simp [callAt] at h1
  | cons x l => cases x with
    | code c => simp [callAt] at h1
    | inLoop c => simp [callAt] at h1
    | inBlock i => simp [callAt] at h1
    | ops os ol => cases ol with
      | nil => simp [callAt] at h1
      | cons o rest =>
        letI := noSyms G
        letI : Marks := noMarks
        letI := noOrc P G
        letI : Lps P := noLps P
        have h1' : cond (lookOk os A o) (cond (Region.wanted o (yieldA os A)) (match aexec P ft A.get o H with
          | some (.enter f args, H1) => some (f, args, H1)
          | _ => none) none) none = some (f, args, H1) := h1
        cases hl : lookOk os A o with
        | false => rw [hl] at h1'; simp at h1'
        | true =>
          rw [hl] at h1'
          cases hw : Region.wanted o (yieldA os A) with
          | false => rw [hw] at h1'; simp at h1'
          | true =>
            rw [hw] at h1'
            simp only [cond_true] at h1'
            cases hx : aexec P ft A.get o H with
            | none => rw [hx] at h1'; simp at h1'
            | some q =>
              obtain ⟨y, Hy⟩ := q
              rw [hx] at h1'
              cases y with
              | value u => simp at h1'
              | skip => simp at h1'
              | enter g us =>
                simp only [Option.some.injEq, Prod.mk.injEq] at h1'
                obtain ⟨rfl, rfl, rfl⟩ := h1'
                have h2' : (match A.put o.dst v with
                  | some A2 => some (Itm.ops os rest :: l, A2, H2.keep live)
                  | none => none) = some (L1, A1, H3) := h2
                cases hp : A.put o.dst v with
                | none => rw [hp] at h2'; simp at h2'
                | some A2 =>
                  rw [hp] at h2'
                  simp only [Option.some.injEq, Prod.mk.injEq] at h2'
                  obtain ⟨rfl, rfl, rfl⟩ := h2'
                  have hs : stepOp P ft r o A H = some (A2, H2) := by
                    unfold stepOp
                    rw [hx]
                    simp only [E, hp]
                  have ho : opR P ft G r os [o] A H = some (A2, H2) := by
                    show runOps P ft r os [o] A H = _
                    rw [runOps_cons, if_pos hl, if_pos hw, hs]
                    rfl
                  unfold pieceI
                  simp only [itN, stI, ho]
section
variable {P : Program} [NoFloat P] {G : Nat → Option Obj} {ι : Inj}
theorem runPc_ok {ft : Nat → Option Func} (hE : @EnvOk noMarks P ft) {r : Runner} (hg : @Good (noSyms G) noMarks P r) {big : Nat} {w0 : World} {ι0 : Inj} {a0 : Act} : ∀ (ps : List Pc) (l : List Itm) (A A' : Fr) (H H' : Heap) (e : AExit), PcsOk P G ps → (∀ x ∈ l, fineItm P.globals.size x = true) → runPc P ft G r big ps l A H = some (e, A', H') →
    ∀ ι a w, Ext P ι0 w0 ι w → a.defers = a0.defers → @Rel (noSyms G) P ι H w → @FRel (noSyms G) ι A a.tmps → IX P l (@PostC (noSyms G) P ι0 w0 a0 e A' H') .normal a w
  | [], l, A, A', H, H', e, _, hf, h, ι, a, w, hx, hd, hw, hA => by
    letI := noSyms G
    have h' : (match itN P ft G r big l A H with
      | some ([], e, A', H') => some (e, A', H')
      | _ => none) = some (e, A', H') := h
    cases hr : itN P ft G r big l A H with
    | none => rw [hr] at h'; simp at h'
    | some q =>
      obtain ⟨l1, e1, A1, H1⟩ := q
      rw [hr] at h'
      cases l1 with
      | cons => simp at h'
      | nil =>
        simp only [Option.some.injEq, Prod.mk.injEq] at h'
        obtain ⟨rfl, rfl, rfl⟩ := h'
        exact itN_ok hE hg big l [] A A1 H H1 e1 hf hr ι a w hw hA fun _ ι1 a1 w1 x1 r1 f1 d1 => ⟨ι1, rfl, hx.trans x1, r1, f1, d1.trans hd⟩
  | p :: ps, l, A, A', H, H', e, hp, hf, h, ι, a, w, hx, hd, hw, hA => by
    letI := noSyms G
    have h' : (match itN P ft G p.r p.n l A H with
      | some (l1, .normal, A1, H1) => runPc P ft G r big ps l1 A1 (H1.keep p.live)
      | _ => none) = some (e, A', H') := h
    cases hr : itN P ft G p.r p.n l A H with
    | none => rw [hr] at h'; simp at h'
    | some q =>
      obtain ⟨l1, e1, A1, H1⟩ := q
      rw [hr] at h'
      cases e1 with
      | normal => exact itN_ok hE hp.1 p.n l l1 A A1 H H1 .normal hf hr ι a w hw hA fun hf1 ι1 a1 w1 x1 r1 f1 d1 => runPc_ok hE hg ps l1 A1 A' (H1.keep p.live) H' e hp.2 hf1 h' ι1 a1 w1 (hx.trans x1) (d1.trans hd) (r1.keep p.live) f1
      | exit id => simp at h'
      | ret => simp at h'
noncomputable def itemPc (P : Program) (ft : Nat → Option Func) (G : Nat → Option Obj) (big : Nat) (ps : List Pc) (r : Runner) : Runner
  | .code c A, H => match runPc P ft G r big ps [.code c] A H with
    | some (e, A', H') => some (.exit e A', H')
    | none => none
  | .fn f a, H => r (.fn f a) H
  | .loop c A, H => r (.loop c A) H
theorem itemPc_good {ft : Nat → Option Func} (hE : @EnvOk noMarks P ft) {r : Runner} (hg : @Good (noSyms G) noMarks P r) (big : Nat) {ps : List Pc} (hp : PcsOk P G ps) : @Good (noSyms G) noMarks P (itemPc P ft G big ps r) := by
  letI := noSyms G
  letI : Marks := noMarks
  refine ⟨hg.fn, fun c A H e A' H' h => ?_, hg.loop, fun c A H v H' h => ?_, hg.noValL⟩
  · have h' : (match runPc P ft G r big ps [.code c] A H with
      | some (e, A', H') => some (Out.exit e A', H')
      | none => none) = some (.exit e A', H') := h
    cases hr : runPc P ft G r big ps [.code c] A H with
    | none => rw [hr] at h'; simp at h'
    | some q =>
      obtain ⟨e1, A1, H1⟩ := q
      rw [hr] at h'
      simp only [Option.some.injEq, Prod.mk.injEq, Out.exit.injEq] at h'
      obtain ⟨⟨rfl, rfl⟩, rfl⟩ := h'
      intro c0 hann hf ι a w hw hA
      obtain rfl := ann_eq hann
      exact runPc_ok hE hg ps [.code c] A A1 H H1 e1 hp (fun x hx => by obtain rfl := List.mem_singleton.1 hx; exact hf) hr ι a w (Ext.refl _ _) rfl hw hA
  · have h' : (match runPc P ft G r big ps [.code c] A H with
      | some (e, A', H') => some (Out.exit e A', H')
      | none => none) = some (.val v, H') := h
    cases hr : runPc P ft G r big ps [.code c] A H with
    | none => rw [hr] at h'; simp at h'
    | some q =>
      obtain ⟨e1, A1, H1⟩ := q
      rw [hr] at h'
      simp at h'
end
theorem step_itemsPc [Syms] {P : Program} [NoFloat P] [Marks] [Orc P] [Lps P] {ft : Nat → Option Func} {G : Nat → Option Obj} {big : Nat} {ps : List Pc} {r : Runner} {draw : Array Oper → Fr → Heap → Option (Fr × Heap)} {f : FuncId} {args : Array Value} {H : Heap} {x : Out × Heap} (h : endL P ft f (runPc P ft G r big ps (bodyI ft f) (enterL ft f args) H) = some x) (hb : ((ft f).bind (·.body)).isSome = true) :
    stepRun P ft (itemPc P ft G big ps r) draw (.fn f args) H = some x := by
  unfold endL bodyI enterL itmsAt at h
  simp only [stepRun]
  cases hf : ft f with
  | none => rw [hf] at h; simp at h
  | some fn =>
    rw [hf] at h hb
    cases hc : fn.body with
    | none => simp [hc] at hb
    | some c =>
      simp only [hc, List.map_cons, List.map_nil, codePt] at h ⊢
      rw [show itemPc P ft G big ps r (.code c (Fr.enter fn args)) H = (match runPc P ft G r big ps [.code c] (Fr.enter fn args) H with
        | some (e, A', H') => some (Out.exit e A', H')
        | none => none) from rfl]
      cases hr : runPc P ft G r big ps [.code c] (Fr.enter fn args) H with
      | none => rw [hr] at h; simp [finL] at h
      | some q =>
        obtain ⟨e1, A1, H1⟩ := q
        rw [hr] at h
        cases e1 <;> exact h
variable {P : Program} {ft : Nat → Option Func}
noncomputable def nestPc (P : Program) (ft : Nat → Option Func) (G : Nat → Option Obj) (big : Nat) (ps : List Pc) (r : Runner) : Runner :=
  letI := noSyms G
  letI : Marks := noMarks
  letI : Orc P := noOrc P G
  letI : Lps P := noLps P
  stepRun P ft (itemPc P ft G big ps r) (drawRun2 P ft (itemPc P ft G big ps r))
theorem nestPc_good [NoFloat P] (hE : EnvOk P ft) {G : Nat → Option Obj} {r : Runner} (hg : @Good (noSyms G) noMarks P r) (big : Nat) {ps : List Pc} (hp : PcsOk P G ps) : @Good (noSyms G) noMarks P (nestPc P ft G big ps r) := by
  letI := noSyms G
  letI : Marks := noMarks
  letI : Orc P := noOrc P G
  letI : Lps P := noLps P
  have hL : LpsOk P := fun _ _ _ _ _ _ _ _ h => by simp at h
  exact Good.step hE hL (itemPc_good hE hg big hp) (drawRun2_ok hE (itemPc_good hE hg big hp))
theorem nestPc_run [NoFloat P] {G : Nat → Option Obj} {r : Runner} {big : Nat} {ps : List Pc} {f : FuncId} {args : Array Value} {H : Heap} {x : Out × Heap} (h : endL P ft f (runPc P ft G r big ps (bodyI ft f) (enterL ft f args) H) = some x) (hb : ((ft f).bind (·.body)).isSome = true) : nestPc P ft G big ps r (.fn f args) H = some x := by
  letI := noSyms G
  letI : Marks := noMarks
  letI : Orc P := noOrc P G
  letI : Lps P := noLps P
  exact step_itemsPc h hb
theorem KnOk.itemsPc [NoFloat P] (hE : EnvOk P ft) {gs : Gs} {n big : Nat} {f : FuncId} {args : Array Value} {v : Value} (hx : Kn.ok ⟨f, args, v⟩ = true) (tb : KnG) (htb : (flatG tb).all Kn.ok = true) {L : List Itm} {A0 : Fr} (hL0 : L = bodyI ft f) (hA0 : A0 = enterL ft f args)
    (ps : (Nat → Option Obj) → List Pc) (hps : ∀ G, @Good (noSyms G) noMarks P (run0 P ft (knG tb) G n) → PcsOk P G (ps G)) (hrun : ∀ G, outEq v (endL P ft f (runPc P ft G (run0 P ft (knG tb) G n) big (ps G) L A0 (H0g P gs))) = true) (hb : ((ft f).bind (·.body)).isSome = true) {w : World} (hw : GOk P gs w)
    (hT : ∀ y ∈ flatG tb, KnOk P w y) : KnOk P w ⟨f, args, v⟩ := by
  subst hL0 hA0
  intro w₁ hs hgl
  unfold Kn.ok at hx
  rw [Bool.and_eq_true] at hx
  have hw1 : GOk P gs w₁ := @GOk.of (noSyms fun _ => none) _ _ _ _ hw hs hgl
  have hr := hrun fun b => w₁.heap[b]?
  letI := noSyms fun b => w₁.heap[b]?
  letI : Marks := noMarks
  letI : Orc P := noOrc P _
  letI : Lps P := noLps P
  have hK : KOk P (knG tb) := @knG_ok P (fun b => w₁.heap[b]?) w (fun b hb => hgl b hb) tb htb hT
  have hL : LpsOk P := fun _ _ _ _ _ _ _ _ h => by simp at h
  have hg : Good P (runK P ft (knG tb) n) := runK_good hE hL hK n
  have hp := hps (fun b => w₁.heap[b]?) hg
  have hg2 := nestPc_good (G := fun b => w₁.heap[b]?) hE hg big hp
  cases he : endL P ft f (runPc P ft (fun b => w₁.heap[b]?) (run0 P ft (knG tb) (fun b => w₁.heap[b]?) n) big (ps fun b => w₁.heap[b]?) (bodyI ft f) (enterL ft f args) (H0g P gs)) with
  | none => rw [he] at hr; simp [outEq] at hr
  | some q =>
    obtain ⟨out, H'⟩ := q
    rw [he] at hr
    cases out with
    | exit e A => simp [outEq] at hr
    | val u =>
      have hu : u = v := veq_ok hr
      subst hu
      refine Calls.mono (callR hg2 (args := args) (fun ι => plainAs_rel hx.1) (nestPc_run he hb) w₁ hw1 ⟨fun _ _ => rfl, fun _ _ h => by simp at h⟩) fun e w' hh => ?_
      obtain ⟨ι', v', rfl, q1, x1⟩ := hh
      rw [plainA_eq hx.2 q1]
      exact ⟨rfl, x1⟩
end Go.Ev
namespace Go.Ev
variable {P : Program}
def unlit {H : Type} : Nat → DataW H → Option (List Value)
  | 0, _ => none
  | _ + 1, .lit (.bool b) => some [.bool b]
  | _ + 1, .lit (.int k n) => some [.int k n]
  | f + 1, .agg parts => (parts.mapM (unlit f)).map List.flatten
  | _ + 1, _ => none
inductive PlainT (P : Program) : TypeId → Prop
  | int {t : TypeId} {k : IntKind} : P.underlying t = some (.int k) → PlainT P t
  | bool {t : TypeId} : P.underlying t = some .bool → PlainT P t
  | array {t e : TypeId} {n : Nat} : P.underlying t = some (.array n e) → P.cellsOf t = n * P.cellsOf e → PlainT P e → PlainT P t
theorem mapM_cons_some {α β : Type} {f : α → Option β} {x : α} {xs : List α} {r : List β} (h : (x :: xs).mapM f = some r) : ∃ y ys, f x = some y ∧ xs.mapM f = some ys ∧ r = y :: ys := by
  rw [List.mapM_cons] at h
  cases hx : f x with
  | none => rw [hx] at h; simp at h
  | some y =>
    rw [hx] at h
    cases hy : xs.mapM f with
    | none => rw [hy] at h; simp at h
    | some ys =>
      rw [hy] at h
      simp at h
      exact ⟨y, ys, rfl, rfl, h.symm⟩
theorem pieces {H : Type} {sz : Nat} {F : List Value → Option (DataW H × List MemPlace)} {g : Nat} (hF : ∀ cs d p, F cs = some (d, p) → ∀ vs, unlit g d = some vs → cs = vs) :
    ∀ (n i : Nat) (cs : List Value) (xs : List (DataW H × List MemPlace)), cs.length = (i + n) * sz → (List.range' i n).mapM (fun j => F ((cs.drop (j * sz)).take sz)) = some xs → ∀ vss, (xs.map (·.1)).mapM (unlit g) = some vss → cs.drop (i * sz) = vss.flatten
  | 0, i, cs, xs, hl, h, vss, hv => by
    simp at h
    subst h
    simp at hv
    subst hv
    rw [List.drop_eq_nil_of_le (by simp at hl; omega)]
    rfl
  | n + 1, i, cs, xs, hl, h, vss, hv => by
    rw [List.range'_succ] at h
    obtain ⟨y, ys, h1, h2, rfl⟩ := mapM_cons_some h
    rw [List.map_cons] at hv
    obtain ⟨vs, vss', h3, h4, rfl⟩ := mapM_cons_some hv
    obtain ⟨d, p⟩ := y
    have e1 := hF _ d p h1 vs h3
    have e2 := pieces hF n (i + 1) cs ys (by rw [hl]; congr 1; omega) h2 vss' h4
    rw [List.flatten_cons, ← e1, ← e2, Nat.add_mul, Nat.one_mul, ← List.drop_drop, List.take_append_drop]
theorem trod_unlit {H : Type} {enc : TypeId × Value → H} {w : World} {base : Nat} {sp : Nat → Bool} {held : Bool} : ∀ (fuel : Nat) (t : TypeId), PlainT P t → ∀ (cs : List Value) (d : DataW H) (p : List MemPlace), DataW.trod enc P w base sp held fuel t cs = some (d, p) →
    ∀ g vs, unlit g d = some vs → cs = vs
  | 0, _, _, _, _, _, h, _, _, _ => by simp [DataW.trod] at h
  | fuel + 1, t, ht, cs, d, p, h, g, vs, hv => by
    cases ht with
    | bool hu =>
      rcases cs with _ | ⟨v, _ | ⟨v2, r⟩⟩
      · simp [DataW.trod, hu] at h
      · cases v <;> simp [DataW.trod, hu] at h
        obtain ⟨rfl, _⟩ := h
        cases g with
        | zero => simp [unlit] at hv
        | succ g => simpa [unlit] using hv
      · cases v <;> simp [DataW.trod, hu] at h
    | int hu =>
      rcases cs with _ | ⟨v, _ | ⟨v2, r⟩⟩
      · simp [DataW.trod, hu] at h
      · cases v <;> simp [DataW.trod, hu] at h
        obtain ⟨⟨rfl, _⟩, rfl, _⟩ := h
        cases g with
        | zero => simp [unlit] at hv
        | succ g => simpa [unlit] using hv
      · cases v <;> simp [DataW.trod, hu] at h
    | @array t e n hu hc he =>
      simp only [DataW.trod, hu] at h
      split at h
      · rename_i hl
        simp only [Option.map_eq_some_iff] at h
        obtain ⟨xs, hx, hd⟩ := h
        simp only [Prod.mk.injEq] at hd
        obtain ⟨rfl, _⟩ := hd
        cases g with
        | zero => simp [unlit] at hv
        | succ g =>
          simp only [unlit, Option.map_eq_some_iff] at hv
          obtain ⟨vss, hvs, rfl⟩ := hv
          rw [List.range_eq_range'] at hx
          have := pieces (g := g) (fun cs d p h vs hv => trod_unlit fuel e he cs d p h g vs hv) n 0 cs xs (by rw [hl, hc]; simp) hx vss hvs
          simpa using this
      · simp at h
theorem gok_of_laid {name : String} {g : Nat} {t : TypeId} {cs : Array Value} {d : DataW Unit} {w : World} (h : laidMet P [(name, d)] w) (hg : P.globalNamed name = some g) (ht : (P.globals[g]?).map (·.type) = some t) (hT : PlainT P t) {f : Nat} (hd : unlit f d = some cs.toList)
    (hgr : cs.all ground1 = true) (h0 : 0 < cs.size) (hroom : P.globals.size = g + 1) : ∃ ty, GOk P [(g, cs, ty)] w := by
  obtain ⟨ps, ⟨g', t', cs', fuel, p, q, hg', ht', hvar, hd', _, hps⟩, _, hcell⟩ := h
  obtain rfl := Option.some.inj (hg.symm.trans hg')
  obtain rfl := Option.some.inj (ht.symm.trans ht')
  have e := trod_unlit fuel t hT cs'.toList d p hd' f cs.toList hd
  obtain rfl : cs' = cs := Array.toList_inj.1 e
  obtain ⟨⟨c, ty, hc⟩, _⟩ := hcell g 0 (by
    rw [hps]
    refine List.mem_append_left _ (List.mem_append_left _ ?_)
    unfold MemPlace.row
    refine List.mem_map.2 ⟨0, List.mem_range.2 h0, ?_⟩
    simp)
  have hvar' : w.heap[g]? = some (.cells cs' ty (0, 0)) := by
    unfold World.var? at hvar
    rw [hg, Option.bind_some, hc] at hvar
    simp only [Option.some.injEq] at hvar
    rw [hc, hvar]
  have hlt : g < w.heap.size := by
    by_cases h : g < w.heap.size
    · exact h
    · rw [Array.getElem?_eq_none (Nat.le_of_not_lt h)] at hvar'; simp at hvar'
  exact ⟨ty, by omega, by simp [gsGround, hgr], fun x hx => by
    simp only [List.mem_singleton] at hx
    subst hx
    exact ⟨by omega, hvar'⟩⟩
end Go.Ev
