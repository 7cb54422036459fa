/-
  The evaluator: regions that draw their order, the end. Conditions: EnvOk.
-/
import Derived.Test.YtmeppoihgfdgaaaDoorEvJ
namespace Go.Ev
set_option linter.unusedSectionVars false      -- the symbols' class stands for all texts
variable [Syms] {P : Program} [NoFloat P] [Marks] [Orc P] [Lps P] {ft : Nat → Option Func} {ih : Runner}

theorem filter_lt {α : Type} {p q : α → Bool} : ∀ (l : List α), (∀ x, q x = true → p x = true) → (∃ x, x ∈ l ∧ p x = true ∧ q x = false) → (l.filter q).length < (l.filter p).length
  | [], _, ⟨x, hx, _⟩ => by simp at hx
  | y :: l, h, ⟨x, hx, hp, hq⟩ => by
    have hle : ∀ l : List α, (l.filter q).length ≤ (l.filter p).length := by
      intro l
      induction l with
      | nil => simp
      | cons z l ihl =>
        simp only [List.filter_cons]
        cases hqz : q z
        · cases hpz : p z <;> simp <;> omega
        · simp [h z hqz]; exact ihl
    simp only [List.filter_cons]
    by_cases hyx : x = y
    · subst hyx
      have := hle l
      simp [hp, hq]; omega
    · have hl : (l.filter q).length < (l.filter p).length := filter_lt l h ⟨x, by simpa [hyx] using hx, hp, hq⟩
      cases hqy : q y
      · cases hpy : p y <;> simp <;> omega
      · simp [h y hqy]; exact hl

/-- One operation by its value. -/
theorem stepVal_ok (hE : EnvOk P ft) (hg : Good P ih) {o : Oper} {A : Fr} {H H' : Heap} {v : Value} (h : stepVal P ft ih o A H = some (v, H')) {ι : Inj} {a : Act} {w : World}
    (hw : Rel P ι H w) (hops : ∀ x ∈ o.op.operands, VRel ι (opv A.get x) (a.eval x)) {K : Act → World → Prop} {Q : Exit → Act → World → Prop}
    (hK : ∀ ι' v' w', Ext P ι w ι' w' → Rel P ι' H' w' → VRel ι' v v' → K (a.put o.dst v') w') : o.wp P a w K Q := by
  unfold Oper.wp
  unfold stepVal at h
  cases hr : aexec P ft A.get o H with
  | none => rw [hr] at h; simp at h
  | some r =>
    obtain ⟨n, H1⟩ := r
    rw [hr] at h
    obtain ⟨ι1, n', w1, e1, x1, r1, q1⟩ := Ok.aexec hE hops H n H1 hr w hw
    rw [e1]
    cases n with
    | value u =>
      simp only [Option.some.injEq, Prod.mk.injEq] at h
      obtain ⟨rfl, rfl⟩ := h
      cases n' <;> first | exact q1.elim | skip
      exact hK ι1 _ w1 x1 r1 q1
    | skip =>
      simp only [Option.some.injEq, Prod.mk.injEq] at h
      obtain ⟨rfl, rfl⟩ := h
      cases n' <;> first | exact q1.elim | skip
      exact hK ι1 _ w1 x1 r1 VRel.undf
    | enter f args =>
      simp only at h
      cases hc : ih (.fn f args) H1 with
      | none => rw [hc] at h; simp at h
      | some r2 =>
        obtain ⟨out, H2⟩ := r2
        rw [hc] at h
        cases out with
        | exit e A => simp at h
        | val u =>
          simp only [Option.some.injEq, Prod.mk.injEq] at h
          obtain ⟨rfl, rfl⟩ := h
          cases n' <;> first | exact q1.elim | skip
          rename_i f' args'
          obtain ⟨rfl, q2⟩ := q1
          refine Calls.mono (hg.fn _ _ _ _ _ hc ι1 args' w1 r1 q2) fun e w2 he => ?_
          obtain ⟨ι2, v', rfl, x2, r2, hv⟩ := he
          exact hK ι2 _ w2 (x1.trans x2) r2 hv

structure Plan (P : Program) [Orc P] (ft : Nat → Option Func) (ih : Runner) (ops : Array Oper) (ms : List Nat) (FA : Nat → Fr) (FH : Nat → Heap) (val : Nat → Value) (wt : Nat → Bool) : Prop where
  just : Just ops.toList ms
  low : ∀ (i : Nat) (o : Oper), ops[i]? = some o → ∀ e ∈ o.after, Region.binds .any e = true → e.on < i
  dist : Distinct ops
  data : ∀ (i : Nat) (o : Oper) (k : Nat) (t : Tmp), ops[i]? = some o → k < ops.size → dstOf ops k = some t → t ∈ o.looksAt ops → (k < i → pr ms k i = true) ∧ (i < k → pr ms i k = true)
  eff : ∀ i k, i < ops.size → k < ops.size → readerAt ops i = false → readerAt ops k = false → k < i → pr ms k i = true
  tr : Tr P ft ih ops ops.toList FA FH val wt
  dyn : ∀ (i : Nat) (o : Oper), ops[i]? = some o → reader o = true → wt i = true → ∀ c, c ≤ ops.size → (∀ k, k < ops.size → readerAt ops k = false → (pr ms k i = true → k < c) ∧ (pr ms i k = true → c ≤ k)) → rexec P ft (FA i).get o (FH c) = some (val i)
  fine : ∀ (i : Nat) (o : Oper), ops[i]? = some o → fineO P.globals.size o = true

section
variable {ops : Array Oper} {ms : List Nat} {FA : Nat → Fr} {FH : Nat → Heap} {val : Nat → Value} {wt : Nat → Bool}

theorem Plan.prLow (h : Plan P ft ih ops ms FA FH val wt) : ∀ i k, pr ms k i = true → k < i := by
  intro i
  induction i using Nat.strongRecOn with
  | _ i ihi =>
    intro k hk
    obtain ⟨o, e, h1, h2, h3, h4⟩ := h.just i k hk
    have := h.low i o (by simpa using h1) e (by simpa using h2) h3
    rcases h4 with rfl | ⟨h5, h6⟩
    · exact this
    · have := ihi e.on h5 k h6
      omega

def DC (ops : Array Oper) (L : Array Bool) : Prop := ∀ i, L.getD i false = true → ∀ o, ops[i]? = some o → ∀ e ∈ o.after, Region.binds .any e = true → L.getD e.on false = true

theorem Plan.s1 (h : Plan P ft ih ops ms FA FH val wt) {L : Array Bool} (hd : DC ops L) : ∀ i, L.getD i false = true → ∀ k, pr ms k i = true → L.getD k false = true := by
  intro i
  induction i using Nat.strongRecOn with
  | _ i ihi =>
    intro hi k hk
    obtain ⟨o, e, h1, h2, h3, h4⟩ := h.just i k hk
    have := hd i hi o (by simpa using h1) e (by simpa using h2) h3
    rcases h4 with rfl | ⟨h5, h6⟩
    · exact this
    · exact ihi e.on h5 this k h6

theorem Plan.s1r (h : Plan P ft ih ops ms FA FH val wt) {L : Array Bool} (hd : DC ops L) {i : Nat} (hi : i ∈ Region.ready .any ops L) (k : Nat) (hk : pr ms k i = true) : L.getD k false = true := by
  obtain ⟨o, e, h1, h2, h3, h4⟩ := h.just i k hk
  obtain ⟨_, o', ho', hall⟩ := mem_ready.1 hi
  have e1 : o = o' := by rw [Array.getElem?_toList] at h1; rw [h1] at ho'; exact Option.some.inj ho'
  subst e1
  have := hall e (by simpa using h2) h3
  rcases h4 with rfl | ⟨h5, h6⟩
  · exact this
  · exact h.s1 hd e.on this k h6

theorem Plan.const (h : Plan P ft ih ops ms FA FH val wt) : ∀ d c, c + d ≤ ops.size → (∀ k, c ≤ k → k < c + d → readerAt ops k = true) → FH (c + d) = FH c
  | 0, c, _, _ => rfl
  | d + 1, c, hc, hr => by
    have ih1 := h.const d c (by omega) fun k h1 h2 => hr k h1 (by omega)
    have hlt : c + d < ops.size := by omega
    have ho : ops[c + d]? = some ops[c + d] := by simp [hlt]
    have hol : ops.toList[c + d]? = some ops[c + d] := by simp [hlt]
    have hrd : reader ops[c + d] = true := by
      have := hr (c + d) (by omega) (by omega)
      unfold readerAt at this
      rw [ho] at this
      simpa using this
    cases hwt : wt (c + d) with
    | false => rw [← ih1]; exact (h.tr.no _ _ hol hwt).2
    | true =>
      have h1 := h.dyn _ _ ho hrd hwt (c + d) (by omega) fun k hk hkr => ⟨fun hp => h.prLow _ _ hp, fun hp => Nat.le_of_lt (h.prLow _ _ hp)⟩
      have h2 := h.tr.yes _ _ hol hwt
      unfold stepVal at h2
      rw [rexec_ok h1] at h2
      simp only [Option.some.injEq, Prod.mk.injEq, true_and] at h2
      rw [← ih1]
      exact h2.symm

structure Inv (P : Program) (ops : Array Oper) (A0 : Fr) (FH : Nat → Heap) (val : Nat → Value) (ι0 : Inj) (w0 : World) (a0 : Act) (L : Array Bool) (ι : Inj) (a : Act) (w : World) : Prop where
  size : L.size = ops.size
  dc : DC ops L
  ext : Ext P ι0 w0 ι w
  heap : ∃ c, c ≤ ops.size ∧ (∀ k, k < ops.size → readerAt ops k = false → (k < c ↔ L.getD k false = true)) ∧ Rel P ι (FH c) w
  tsize : a.tmps.size = A0.size
  frame : ∀ t, PRelV ι A0.opn (cur ops A0 val (fun k => L.getD k false) t) (a.tmps.getD t undf)
  defers : a.defers = a0.defers

theorem set_get {L : Array Bool} {i : Nat} (hi : i < L.size) (k : Nat) : (L.setIfInBounds i true).getD k false = if k = i then true else L.getD k false := by
  by_cases h : k = i
  · subst h; simp [hi]
  · rw [if_neg h]; simp [show ¬ i = k from fun e => h e.symm]

theorem Plan.step (hE : EnvOk P ft) (hg : Good P ih) (h : Plan P ft ih ops ms FA FH val wt) {ι0 : Inj} {w0 : World} {a0 : Act} {L : Array Bool} {ι : Inj} {a : Act} {w : World}
    (hv : Inv P ops (FA 0) FH val ι0 w0 a0 L ι a w) {i : Nat} (hi : i ∈ Region.ready .any ops L) {K : Act → World → Prop} {Q : Exit → Act → World → Prop}
    (hK : ∀ ι' a' w', Inv P ops (FA 0) FH val ι0 w0 a0 (L.setIfInBounds i true) ι' a' w' → K a' w') : wpOp P ops Q i K a w := by
  obtain ⟨hun, o, ho, hall⟩ := mem_ready.1 hi
  have hin : i < ops.size := (Array.getElem?_eq_some_iff.1 ho).1
  have hol : ops.toList[i]? = some o := by simpa using ho
  have hiL : i < L.size := by rw [hv.size]; exact hin
  have hLi : L.getD i false = false := by
    have : L.getD i true = L.getD i false := by simp [hiL]
    rw [← this]; exact hun
  -- who is there
  have later : ∀ k, pr ms i k = true → L.getD k false = false := fun k hk => by
    cases hb : L.getD k false with
    | false => rfl
    | true => rw [h.s1 hv.dc k hb i hk] at hLi; exact absurd hLi (by simp)
  have earlier : ∀ k, pr ms k i = true → L.getD k false = true := fun k hk => h.s1r hv.dc hi k hk
  -- the frame that it looks at
  have looks : ∀ t, t ∈ o.looksAt ops → cur ops (FA 0) val (fun k => L.getD k false) t = (FA i).get t := by
    intro t ht
    rw [(lexFrame h.dist h.tr i (by omega)).2.2 t]
    rcases dst_cases ops t with ⟨k, hk, hkt⟩ | hno
    · rw [cur_of h.dist hk hkt, cur_of h.dist hk hkt]
      obtain ⟨d1, d2⟩ := h.data i o k t ho hk hkt ht
      rcases Nat.lt_trichotomy k i with hlt | heq | hgt
      · simp [earlier k (d1 hlt), hlt]
      · subst heq; simp [hLi]
      · simp [later k (d2 hgt), show ¬ k < i by omega]
    · rw [cur_none hno, cur_none hno]
  have hsz : (FA i).size = (FA 0).size := (lexFrame h.dist h.tr i (by omega)).1
  have hlook : ∀ t, t ∈ o.looksAt ops → VRel ι ((FA i).get t) (a.tmps.getD t undf) := fun t ht => by
    have h1 := hv.frame t
    rw [looks t ht, ← (lexFrame h.dist h.tr i (by omega)).2.1] at h1
    exact h1.known (lookOk_ok (h.tr.look i o hol) ht)
  obtain ⟨c, hc, hcl, hrel⟩ := hv.heap
  have hops : ∀ x ∈ o.op.operands, VRel ι (opv (FA i).get x) (a.eval x) := by
    intro x hx
    have hf : fineX P.globals.size x = true := by
      have := h.fine i o ho
      unfold fineO at this
      rw [Array.all_eq_true_iff_forall_mem] at this
      exact this x hx
    cases x with
    | tmp t => exact hlook t (List.mem_append_left _ (List.mem_filterMap.2 ⟨.tmp t, by simpa using hx, rfl⟩))
    | const v => exact ground_rel hf
    | global n =>
      have hn : n < P.globals.size := by simpa [fineX] using hf
      obtain ⟨j, h1, h2, h3⟩ := hrel.glob n (by rw [hrel.gsize]; exact hn)
      exact AddrRel.ptr (ι := ι) (a := ⟨n, 0, none⟩) (a' := ⟨n, 0, none⟩) ⟨j, h1, by simp [h2, h3]⟩
    | func f => exact .func _ rfl (fun k hk => by simp at hk) rfl (fun k hk => by simp at hk)
  -- whether it is carried out
  have hwant : Region.wanted o (yielded ops a.tmps) = wt i := by
    rw [h.tr.wanted i o hol]
    unfold Region.wanted
    cases hgd : o.guard with
    | none => rfl
    | some gw =>
      obtain ⟨g, want⟩ := gw
      have : yieldA ops (FA i) g = yielded ops a.tmps g := yieldA_at (by rw [hv.tsize, ← hsz]) ops g fun d hd => hlook d (List.mem_append_right _ (by simp [hgd, hd]))
      simp only [this]
  -- what is listed then
  have hset := set_get hiL
  have hdc' : DC ops (L.setIfInBounds i true) := by
    intro k hk o' ho' e he hb
    rw [hset] at hk ⊢
    by_cases hki : k = i
    · subst hki
      rw [ho] at ho'
      cases ho'
      split
      · rfl
      · exact hall e he hb
    · rw [if_neg hki] at hk
      split
      · rfl
      · exact hv.dc k hk o' ho' e he hb
  have hframe : ∀ ι' v', Sub ι ι' → VRel ι' (val i) v' → (a.put o.dst v').tmps.size = (FA 0).size ∧ ∀ t, PRelV ι' (FA 0).opn (cur ops (FA 0) val (fun k => (L.setIfInBounds i true).getD k false) t) ((a.put o.dst v').tmps.getD t undf) := by
    intro ι' v' hs hvv
    have hdi : dstOf ops i = o.dst := by simp [dstOf, ho]
    have hput := h.tr.put i o hol
    refine ⟨by cases hd : o.dst <;> simp [Act.put, hv.tsize], fun t => ?_⟩
    by_cases htd : o.dst = some t
    · rw [cur_of h.dist hin (hdi.trans htd), if_pos (by rw [hset, if_pos rfl])]
      have htlt : t < a.tmps.size := by
        rw [hv.tsize, ← hsz]
        rw [htd] at hput
        simp only [Fr.put_some] at hput
        split at hput
        · assumption
        · simp at hput
      have : (a.put o.dst v').tmps.getD t undf = v' := by rw [htd]; simp [Act.put, htlt]
      rw [this]; exact .inr hvv
    · have e1 : (a.put o.dst v').tmps.getD t undf = a.tmps.getD t undf := by
        cases hd : o.dst with
        | none => rfl
        | some d =>
          have hne : ¬ d = t := fun e => htd (by rw [hd, e])
          simp [Act.put, hne]
      rw [e1]
      have e2 : cur ops (FA 0) val (fun k => (L.setIfInBounds i true).getD k false) t = cur ops (FA 0) val (fun k => L.getD k false) t := by
        rcases dst_cases ops t with ⟨k, hk, hkt⟩ | hno
        · have hki : k ≠ i := by
            intro e
            subst e
            exact htd (hdi.symm.trans hkt)
          rw [cur_of h.dist hk hkt, cur_of h.dist hk hkt, hset, if_neg hki]
        · rw [cur_none hno, cur_none hno]
      rw [e2]
      exact (hv.frame t).mono hs
  -- where the heap stands
  have hc' : ∃ c', c' ≤ ops.size ∧ (∀ k, k < ops.size → readerAt ops k = false → (k < c' ↔ (L.setIfInBounds i true).getD k false = true)) ∧
      (wt i = true → stepVal P ft ih o (FA i) (FH c) = some (val i, FH c')) ∧ (wt i = false → FH c' = FH c) := by
    cases hrd : reader o with
    | true =>
      refine ⟨c, hc, fun k hk hkr => ?_, fun hw => ?_, fun _ => rfl⟩
      · rw [hset, if_neg]
        · exact hcl k hk hkr
        · intro e
          subst e
          unfold readerAt at hkr
          rw [ho] at hkr
          simp [hrd] at hkr
      · have := h.dyn i o ho hrd hw c hc fun k hk hkr => ⟨fun hp => (hcl k hk hkr).2 (earlier k hp), fun hp => by
          rcases Nat.lt_or_ge k c with hlt | hge
          · have := (hcl k hk hkr).1 hlt
            rw [later k hp] at this
            simp at this
          · exact hge⟩
        unfold stepVal
        rw [rexec_ok this]
    | false =>
      have hri : readerAt ops i = false := by unfold readerAt; rw [ho]; simp [hrd]
      have hci : c ≤ i := by
        rcases Nat.lt_or_ge i c with hlt | hge
        · have := (hcl i hin hri).1 hlt
          rw [hLi] at this
          simp at this
        · exact hge
      have hFH : FH i = FH c := by
        have := h.const (i - c) c (by omega) fun k h1 h2 => by
          cases hkr : readerAt ops k with
          | true => rfl
          | false =>
            have := (hcl k (by omega) hkr).2 (earlier k (h.eff i k hin (by omega) hri hkr (by omega)))
            omega
        rw [show c + (i - c) = i by omega] at this
        exact this
      refine ⟨i + 1, by omega, fun k hk hkr => ?_, fun hw => ?_, fun hw => ?_⟩
      · rw [hset]
        rcases Nat.lt_trichotomy k i with hlt | heq | hgt
        · rw [if_neg (by omega)]
          simp [earlier k (h.eff i k hin hk hri hkr hlt), show k < i + 1 by omega]
        · subst heq; simp
        · rw [if_neg (by omega)]
          simp [later k (h.eff k i hk hin hkr hri hgt), show ¬ k < i + 1 by omega]
      · rw [← hFH]; exact h.tr.yes i o hol hw
      · rw [← hFH]; exact (h.tr.no i o hol hw).2
  obtain ⟨c', hc1, hc2, hc3, hc4⟩ := hc'
  unfold wpOp
  simp only [ho]
  rw [hwant]
  cases hw : wt i with
  | true =>
    rw [if_pos rfl]
    refine .inl (stepVal_ok hE hg (hc3 hw) hrel hops fun ι' v' w' x1 r1 hvv => hK ι' _ w' ?_)
    obtain ⟨f1, f2⟩ := hframe ι' v' x1.sub hvv
    exact ⟨by simpa using hv.size, hdc', hv.ext.trans x1, ⟨c', hc1, hc2, r1⟩, f1, f2, (put_defers _ _ _).trans hv.defers⟩
  | false =>
    rw [if_neg (by simp)]
    obtain ⟨f1, f2⟩ := hframe ι undef (Sub.refl _) (by rw [(h.tr.no i o hol hw).1]; exact VRel.undf)
    exact hK ι _ w ⟨by simpa using hv.size, hdc', hv.ext, ⟨c', hc1, hc2, by rw [hc4 hw]; exact hrel⟩, f1, f2, (put_defers _ _ _).trans hv.defers⟩

theorem Plan.all (h : Plan P ft ih ops ms FA FH val wt) {L : Array Bool} (hs : L.size = ops.size) (hr : Region.ready .any ops L = []) : ∀ i, i < ops.size → L.getD i false = true := by
  intro i
  induction i using Nat.strongRecOn with
  | _ i ihi =>
    intro hi
    cases hb : L.getD i false with
    | true => rfl
    | false =>
      have ho : ops[i]? = some ops[i] := by simp [hi]
      have : i ∈ Region.ready .any ops L := mem_ready.2 ⟨by
        have : L.getD i true = L.getD i false := by simp [show i < L.size by omega]
        rw [this]; exact hb, ops[i], ho, fun e he hbb => ihi e.on (h.low i _ ho e he hbb) (by have := h.low i _ ho e he hbb; omega)⟩
      rw [hr] at this
      simp at this

theorem Plan.fin (h : Plan P ft ih ops ms FA FH val wt) {ι0 : Inj} {w0 : World} {a0 : Act} {L : Array Bool} {ι : Inj} {a : Act} {w : World}
    (hv : Inv P ops (FA 0) FH val ι0 w0 a0 L ι a w) (hall : ∀ i, i < ops.size → L.getD i false = true) : PostC P ι0 w0 a0 .normal (FA ops.size) (FH ops.size) .normal a w := by
  obtain ⟨s1, p1, g1⟩ := lexFrame h.dist h.tr ops.size (Nat.le_refl _)
  obtain ⟨c, hc, hcl, hrel⟩ := hv.heap
  refine ⟨ι, rfl, hv.ext, ?_, ⟨by rw [hv.tsize, s1], fun t => ?_⟩, hv.defers⟩
  · have := h.const (ops.size - c) c (by omega) fun k h1 h2 => by
      cases hkr : readerAt ops k with
      | true => rfl
      | false =>
        have := (hcl k (by omega) hkr).2 (hall k (by omega))
        omega
    rw [show c + (ops.size - c) = ops.size by omega] at this
    rw [this]; exact hrel
  · rw [g1, p1]
    have : cur ops (FA 0) val (fun k => decide (k < ops.size)) t = cur ops (FA 0) val (fun k => L.getD k false) t := by
      rcases dst_cases ops t with ⟨k, hk, hkt⟩ | hno
      · rw [cur_of h.dist hk hkt, cur_of h.dist hk hkt, hall k hk]; simp [hk]
      · rw [cur_none hno, cur_none hno]
    rw [this]
    exact hv.frame t

theorem Plan.any (hE : EnvOk P ft) (hg : Good P ih) (h : Plan P ft ih ops ms FA FH val wt) {ι0 : Inj} {w0 : World} {a0 : Act} : ∀ (fuel : Nat) (L : Array Bool) (ι : Inj) (a : Act) (w : World),
    Inv P ops (FA 0) FH val ι0 w0 a0 L ι a w → ((List.range ops.size).filter fun k => !L.getD k false).length ≤ fuel →
    wpAny P .any ops (PostC P ι0 w0 a0 .normal (FA ops.size) (FH ops.size)) fuel L a w
  | 0, L, ι, a, w, hv, hf => by
    have hall : ∀ i, i < ops.size → L.getD i false = true := by
      intro i hi
      cases hb : L.getD i false with
      | true => rfl
      | false =>
        have hm : i ∈ (List.range ops.size).filter fun k => !L.getD k false := List.mem_filter.2 ⟨List.mem_range.2 hi, by rw [hb]; rfl⟩
        have := List.length_pos_of_mem hm
        omega
    refine ⟨?_, h.fin hv hall⟩
    cases hr : Region.ready .any ops L with
    | nil => rfl
    | cons i l =>
      have hi : i ∈ Region.ready .any ops L := by rw [hr]; simp
      obtain ⟨hun, o, ho, _⟩ := mem_ready.1 hi
      have hin : i < ops.size := (Array.getElem?_eq_some_iff.1 ho).1
      have h1 := hall i hin
      have : L.getD i true = L.getD i false := by simp [show i < L.size by rw [hv.size]; exact hin]
      rw [this, h1] at hun
      simp at hun
  | fuel + 1, L, ι, a, w, hv, hf => by
    refine ⟨fun hr => h.fin hv (h.all hv.size hr), fun i hi => h.step hE hg hv hi fun ι' a' w' hv' => h.any hE hg fuel _ ι' a' w' hv' ?_⟩
    obtain ⟨hun, o, ho, _⟩ := mem_ready.1 hi
    have hin : i < ops.size := (Array.getElem?_eq_some_iff.1 ho).1
    have hiL : i < L.size := by rw [hv.size]; exact hin
    have hLi : L.getD i false = false := by
      have : L.getD i true = L.getD i false := by simp [hiL]
      rw [← this]; exact hun
    have := filter_lt (p := fun k => !L.getD k false) (q := fun k => !(L.setIfInBounds i true).getD k false) (List.range ops.size) (fun x hx => by
      rw [set_get hiL] at hx
      split at hx
      · simp at hx
      · exact hx) ⟨i, List.mem_range.2 hin, by rw [hLi]; rfl, by rw [set_get hiL]; simp⟩
    omega
end

/-! ### What the look says -/
theorem drawRun_ok (hE : EnvOk P ft) (hg : Good P ih) : DrawOk P (drawRun P ft ih) := by
  intro ops id A A' H H' h hfine ι a w hw hA
  unfold drawRun at h
  split at h
  · rename_i tr A1 H1 hl
    split at h
    · rename_i hck
      simp only [Option.some.injEq, Prod.mk.injEq] at h
      obtain ⟨rfl, rfl⟩ := h
      simp only [Bool.and_eq_true] at hck
      obtain ⟨hst, hdy⟩ := hck
      obtain ⟨q1, q2, q3, q4⟩ := lexRun_tr _ _ _ _ _ _ hl
      obtain ⟨s1, s2, s3, s4⟩ := staticQ_plan hst
      have hplan : Plan P ft ih ops (masks ops.toList []) _ _ _ _ := {
        just := masks_just ops.toList ops.toList [] (fun j => by simp) (fun i k hik => by simp [pr] at hik)
        low := s1
        dist := s2
        data := s3
        eff := s4
        tr := q4
        dyn := fun i o ho hr hwt c hc hcomp => by
          have hi : i < ops.size := (Array.getElem?_eq_some_iff.1 ho).1
          have h1 := allN_ok hdy i hi
          rw [ho] at h1
          have hwt' : (tr.getD i ⟨A1, H1, undf, false⟩).wt = true := hwt
          simp only [hr, hwt', Bool.not_true, Bool.false_or, Bool.or_eq_true] at h1
          rcases h1 with h1 | h1
          · cases hp : pexec P (tr.getD i ⟨A1, H1, undf, false⟩).A.get o with
            | none => rw [hp] at h1; simp at h1
            | some v =>
              have hy := q4.yes i o (by simpa using ho) hwt
              unfold stepVal at hy
              have := rexec_ok (pexec_ok (ft := ft) hp (tr.getD i ⟨A1, H1, undf, false⟩).H)
              rw [this] at hy
              simp only [Option.some.injEq, Prod.mk.injEq] at hy
              rw [pexec_ok hp, hy.1]
          · have h2 := allN_ok h1 c (by omega)
            have hcm : compat ops (masks ops.toList []) c i = true := compat_of hcomp
            rw [hcm] at h2
            simp only [Bool.not_true, Bool.false_or] at h2
            split at h2
            · rename_i v hv
              rw [hv, veq_ok h2]
            · simp at h2
        fine := fun i o ho => by
          rw [Array.all_eq_true_iff_forall_mem] at hfine
          exact hfine o (Array.mem_of_getElem? ho) }
      have hlen : tr.length = ops.size := by simpa using q1
      have hfin : tr.getD ops.size ⟨A1, H1, undf, false⟩ = ⟨A1, H1, undf, false⟩ := by
        rw [List.getD_eq_getElem?_getD, List.getElem?_eq_none (by omega)]; rfl
      have hinv : Inv P ops (tr.getD 0 ⟨A1, H1, undf, false⟩).A (fun i => (tr.getD i ⟨A1, H1, undf, false⟩).H) (fun i => (tr.getD i ⟨A1, H1, undf, false⟩).v) ι w a (Array.replicate ops.size false) ι a { w with drawn := w.drawn + 1 } := by
        have hrep : ∀ k, (Array.replicate ops.size false).getD k false = false := by
          intro k
          simp only [Array.getD_eq_getD_getElem?, Array.getElem?_replicate]
          split <;> rfl
        refine ⟨by simp, fun i hi => by rw [hrep] at hi; simp at hi, Ext.draw _ _ _, ⟨0, Nat.zero_le _, fun k _ _ => by rw [hrep]; simp, ?_⟩, ?_, fun t => ?_, rfl⟩
        · show Rel P ι (tr.getD 0 ⟨A1, H1, undf, false⟩).H _
          rw [q3]; exact hw.draw _
        · rw [q2]; exact hA.1
        · have : cur ops (tr.getD 0 ⟨A1, H1, undf, false⟩).A (fun i => (tr.getD i ⟨A1, H1, undf, false⟩).v) (fun k => (Array.replicate ops.size false).getD k false) t = A.get t := by
            rw [q2]
            rcases dst_cases ops t with ⟨k, hk, hkt⟩ | hno
            · rw [cur_of s2 hk hkt, hrep]; rfl
            · rw [cur_none hno]
          rw [this, q2]; exact hA.2 t
      have := hplan.any hE hg (ι0 := ι) (w0 := w) (a0 := a) ops.size (Array.replicate ops.size false) ι a { w with drawn := w.drawn + 1 } hinv (by
        refine Nat.le_trans (List.length_filter_le _ _) (by simp))
      simp only [hfin] at this
      exact wp_region_any hE.mixed this
    · simp at h
  · simp at h

end Go.Ev
