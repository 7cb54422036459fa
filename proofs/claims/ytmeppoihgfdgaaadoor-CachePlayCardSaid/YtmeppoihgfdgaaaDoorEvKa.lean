/-
  The evaluator: regions that draw their order, in which a variable's cells may be made ahead of their place in the text. Conditions: EnvOk.
-/
import Derived.Test.YtmeppoihgfdgaaaDoorEvKf
namespace Go.Ev
set_option linter.unusedSectionVars false
variable [Syms] {P : Program} [NoFloat P] [Marks] [Orc P] [Lps P] {ft : Nat → Option Func} {ih : Runner} {ι : Inj}

/-! ### A block that has no name yet -/
theorem Rel.push {H : Heap} {w : World} (hw : Rel P ι H w) (o : Obj) : Rel P ι H { w with heap := w.heap.push o } :=
  ⟨hw.keepG fun b hb _ => by show (w.heap.push o)[b]? = _; rw [Array.getElem?_push, if_neg (by omega)], hw.gsize, hw.glob, hw.over, hw.next, by have := hw.room; show H.base ≤ (w.heap.push o).size; simp only [Array.size_push]; omega, hw.fresh, hw.hole,
    fun n i hi => by show i.blk < (w.heap.push o).size; have := hw.below n i hi; simp only [Array.size_push]; omega,
    fun n b hn => by
      obtain ⟨i, o', h1, h2, h3⟩ := hw.live n b hn
      refine ⟨i, o', h1, ?_, h3⟩
      have := hw.below _ _ h1
      show (w.heap.push o)[i.blk]? = _
      rw [Array.getElem?_push, if_neg (by omega)]
      exact h2, hw.inj⟩
theorem Ext.push {w : World} (ι : Inj) {o : Obj} (ho : ∃ cs t, o = .cells cs t (0, 0)) : Ext P ι w ι { w with heap := w.heap.push o } := by
  obtain ⟨cs, t, rfl⟩ := ho
  refine ⟨Sub.refl ι, by show w.heap.size ≤ (w.heap.push _).size; simp, fun n i h h' => .inl ⟨n, i, h, h', rfl⟩, fun b hb _ => by show (w.heap.push _)[b]? = _; rw [Array.getElem?_push, if_neg (by omega)], fun x => frozen_push w _ ?_ x, rfl, rfl, rfl⟩
  exact (show BRel (fun _ => none) ⟨0, 0, 0, 0, 1⟩ (.cells cs t (0, 0)) (.part ⟨0, .leaf, undf, t, false, 1, 0⟩) from ⟨cs, rfl, Nat.zero_le _, fun k hk => absurd hk (Nat.not_lt_zero k)⟩).warm
/-- It gets its name. -/
theorem Rel.adopt {H : Heap} {w : World} (hw : Rel P ι H w) {b : Blk} {o : Obj} {i : Info} (ho : w.heap[i.blk]? = some o) (hb : BRel ι i o b) (hB : H.base ≤ i.blk) (hin : Syms.inp i.blk = none) (hno : ∀ n j, ι n = some j → j.blk ≠ i.blk) :
    Sub ι (ι.with H.next i) ∧ Rel P (ι.with H.next i) (H.new b) w := by
  have hsub : Sub ι (ι.with H.next i) := fun n j hn => by
    unfold Inj.with
    rw [if_neg]
    · exact hn
    · intro e
      subst e
      rw [hw.fresh _ (Nat.le_refl _)] at hn
      simp at hn
  have hlt : i.blk < w.heap.size := (Array.getElem?_eq_some_iff.1 ho).1
  refine ⟨hsub, hw.glb, hw.gsize, fun g hg => ?_, fun n j hn hb' => ?_, by have := hw.next; simp only [Heap.base_new, Heap.next_new]; omega, hw.room, fun n hn => ?_, fun n hn => ⟨by have := (hw.hole n hn).1; simp only [Heap.next_new]; omega, by unfold Inj.with; have h9 := hw.hole n hn; rw [if_neg (by omega)]; exact h9.2⟩, fun n j hn => ?_, fun n b' hn => ?_, fun n m b1 b2 i1 i2 h1 h2 e1 e2 he => ?_⟩
  · obtain ⟨k, h1, h2⟩ := hw.glob g hg
    exact ⟨k, hsub _ _ h1, h2⟩
  · unfold Inj.with at hn
    by_cases h : n = H.next
    · rw [if_pos h] at hn; simp at hn; subst hn; exact ⟨hB, hin⟩
    · rw [if_neg h] at hn; exact hw.over _ _ hn hb'
  · simp only [Heap.next_new] at hn
    unfold Inj.with
    rw [if_neg (by omega)]
    exact hw.fresh _ (by omega)
  · unfold Inj.with at hn
    by_cases h : n = H.next
    · rw [if_pos h] at hn; simp at hn; subst hn; exact hlt
    · rw [if_neg h] at hn; exact hw.below _ _ hn
  · simp only [Heap.get_new] at hn
    by_cases h : n = H.next
    · rw [if_pos h] at hn
      simp at hn
      subst hn
      exact ⟨i, o, by simp [Inj.with, h], ho, hb.mono hsub⟩
    · rw [if_neg h] at hn
      obtain ⟨j, o', hj, ho', hr'⟩ := hw.live _ _ hn
      exact ⟨j, o', hsub _ _ hj, ho', hr'.mono hsub⟩
  · simp only [Heap.get_new] at h1 h2
    unfold Inj.with at e1 e2
    by_cases g1 : n = H.next <;> by_cases g2 : m = H.next
    · omega
    · rw [if_pos g1] at e1; rw [if_neg g2] at e2; simp at e1; subst e1
      exact absurd he.symm (hno _ _ e2)
    · rw [if_neg g1] at e1; rw [if_pos g2] at e2; simp at e2; subst e2
      exact absurd he (hno _ _ e1)
    · rw [if_neg g1] at e1 h1; rw [if_neg g2] at e2 h2
      exact hw.inj _ _ _ _ _ _ h1 h2 e1 e2 he
theorem Ext.adopt {ι0 : Inj} {w0 w : World} {n : Nat} {i : Info} (h : Ext P ι0 w0 ι w) (hs : Sub ι (ι.with n i)) (hB : w0.heap.size ≤ i.blk) : Ext P ι0 w0 (ι.with n i) w :=
  ⟨h.sub.trans hs, h.size, fun m j hm hg => by
    unfold Inj.with at hm
    by_cases e : m = n
    · rw [if_pos e] at hm; simp at hm; subst hm; exact .inr hB
    · rw [if_neg e] at hm; exact h.img m j hm hg, h.keep, h.froz, h.tape, h.os, h.output⟩

/-! ### One operation, in small and in the model -/
theorem allocA {t : TypeId} {H H' : Heap} {v : Value} (h : arun P (Instr.alloc t true (.tuple #[])) H = some (v, H')) :
    ∃ z, (P.info? t).bind (·.zero) = some z ∧ v = .pointer (some ⟨H.next, 0, none⟩) ∧ H' = H.new (.cells (mkCells z.cells t)) := by
  unfold Instr.alloc at h
  rw [arun_bind] at h
  cases hi : P.info? t with
  | none => simp [Go.zeroValue, Go.typeInfo, Go.program, arun_bind, arun, hi, Go.stuck] at h
  | some i =>
    cases hz : i.zero with
    | none => simp [Go.zeroValue, Go.typeInfo, Go.program, arun_bind, arun, hi, hz, Go.unsupported] at h
    | some z =>
      have e1 : arun P (Go.zeroValue t) H = some (z, H) := by simp [Go.zeroValue, Go.typeInfo, Go.program, arun_bind, arun, hi, hz]
      rw [e1] at h
      simp only [Option.bind_some] at h
      refine ⟨z, by simp [hz], ?_⟩
      have h2 : arun P (Go.newVar t z >>= fun a => Pure.pure (Value.pointer (some a))) H = some (v, H') := h
      have e3 : arun P (Go.newVar t z) H = some (⟨H.next, 0, none⟩, H.new (.cells (mkCells z.cells t))) := by
        unfold Go.newVar Go.newRow
        rw [arun_bind]
        simp [newObj, arun]
      rw [arun_bind, e3] at h2
      simp only [Option.bind_some, arun_pure, Option.some.injEq, Prod.mk.injEq] at h2
      exact ⟨h2.1.symm, h2.2.symm⟩
theorem allocW {t : TypeId} {z : Value} (h : (P.info? t).bind (·.zero) = some z) (w : World) :
    (Instr.alloc t true (.tuple #[])).run P w = .ok (.pointer (some ⟨w.heap.size, 0, none⟩)) { w with heap := w.heap.push (.cells z.cells t (0, 0)) } := by
  cases hi : P.info? t with
  | none => rw [hi] at h; simp at h
  | some i =>
    rw [hi] at h
    have hz : i.zero = some z := h
    have h1 : ∃ H : Heap, arun P (Go.zeroValue t) H = some (z, H) := ⟨⟨0, 0, .leaf, []⟩, by simp [Go.zeroValue, Go.typeInfo, Go.program, arun_bind, arun, hi, hz]⟩
    obtain ⟨H, h1⟩ := h1
    obtain ⟨_, h2⟩ := (Static.zeroValue t) _ _ _ h1
    unfold Instr.alloc
    rw [Sem.run_bind, (h2 w).1]
    rfl

structure PlanF (P : Program) [Orc P] (ft : Nat → Option Func) (ih : Runner) (ops : Array Oper) (ms : List Nat) (FA : Nat → Fr) (FH : Nat → Heap) (val : Nat → Value) (wt : Nat → Bool) (f : Nat) : Prop where
  just : Just ops.toList ms
  low : ∀ (i : Nat) (o : Oper), ops[i]? = some o → ∀ e ∈ o.after, Region.binds .any e = true → e.on < i
  dist : Distinct ops
  data : ∀ (i : Nat) (o : Oper) (k : Nat) (t : Tmp), ops[i]? = some o → k < ops.size → dstOf ops k = some t → t ∈ o.looksAt ops → (k < i → pr ms k i = true) ∧ (i < k → pr ms i k = true)
  eff : ∀ i k, i < ops.size → k < ops.size → readerAt ops i = false → readerAt ops k = false → k < i → i ≠ f → pr ms k i = true
  tr : Tr P ft ih ops ops.toList FA FH val wt
  dyn : ∀ (i : Nat) (o : Oper), ops[i]? = some o → reader o = true → wt i = true → ∀ c, c ≤ ops.size → (∀ k, k < ops.size → readerAt ops k = false → (pr ms k i = true → k < c) ∧ (pr ms i k = true → c ≤ k)) → rexec P ft (FA i).get o (FH c) = some (val i)
  fine : ∀ (i : Nat) (o : Oper), ops[i]? = some o → fineO P.globals.size o = true
  flt : f < ops.size
  frd : readerAt ops f = false
  wait : ∀ i, i < ops.size → pr ms f i = true → ∀ k, k < f → readerAt ops k = false → pr ms k i = true
  op : ∃ o t z, ops[f]? = some o ∧ o.op = .alloc t ∧ o.guard = none ∧ t < P.types.size ∧ (P.info? t).bind (·.zero) = some z ∧ val f = .pointer (some ⟨(FH f).next, 0, none⟩) ∧ FH (f + 1) = (FH f).new (.cells (mkCells z.cells t))

section
variable {ops : Array Oper} {ms : List Nat} {FA : Nat → Fr} {FH : Nat → Heap} {val : Nat → Value} {wt : Nat → Bool} {f : Nat}

theorem PlanF.prLow (h : PlanF P ft ih ops ms FA FH val wt f) : ∀ i k, pr ms k i = true → k < i := by
  intro i
  induction i using Nat.strongRecOn with
  | _ i ihi =>
    intro k hk
    obtain ⟨o, e, h1, h2, h3, h4⟩ := h.just i k hk
    have := h.low i o (by simpa using h1) e (by simpa using h2) h3
    rcases h4 with rfl | ⟨h5, h6⟩
    · exact this
    · have := ihi e.on h5 k h6
      omega
theorem PlanF.s1 (h : PlanF P ft ih ops ms FA FH val wt f) {L : Array Bool} (hd : DC ops L) : ∀ i, L.getD i false = true → ∀ k, pr ms k i = true → L.getD k false = true := by
  intro i
  induction i using Nat.strongRecOn with
  | _ i ihi =>
    intro hi k hk
    obtain ⟨o, e, h1, h2, h3, h4⟩ := h.just i k hk
    have := hd i hi o (by simpa using h1) e (by simpa using h2) h3
    rcases h4 with rfl | ⟨h5, h6⟩
    · exact this
    · exact ihi e.on h5 this k h6
theorem PlanF.s1r (h : PlanF P ft ih ops ms FA FH val wt f) {L : Array Bool} (hd : DC ops L) {i : Nat} (hi : i ∈ Region.ready .any ops L) (k : Nat) (hk : pr ms k i = true) : L.getD k false = true := by
  obtain ⟨o, e, h1, h2, h3, h4⟩ := h.just i k hk
  obtain ⟨_, o', ho', hall⟩ := mem_ready.1 hi
  have e1 : o = o' := by rw [Array.getElem?_toList] at h1; rw [h1] at ho'; exact Option.some.inj ho'
  subst e1
  have := hall e (by simpa using h2) h3
  rcases h4 with rfl | ⟨h5, h6⟩
  · exact this
  · exact h.s1 hd e.on this k h6
theorem PlanF.const (h : PlanF P ft ih ops ms FA FH val wt f) : ∀ d c, c + d ≤ ops.size → (∀ k, c ≤ k → k < c + d → readerAt ops k = true) → FH (c + d) = FH c
  | 0, c, _, _ => rfl
  | d + 1, c, hc, hr => by
    have ih1 := h.const d c (by omega) fun k h1 h2 => hr k h1 (by omega)
    have hlt : c + d < ops.size := by omega
    have ho : ops[c + d]? = some ops[c + d] := by simp [hlt]
    have hol : ops.toList[c + d]? = some ops[c + d] := by simp [hlt]
    have hrd : reader ops[c + d] = true := by
      have := hr (c + d) (by omega) (by omega)
      unfold readerAt at this
      rw [ho] at this
      simpa using this
    cases hwt : wt (c + d) with
    | false => rw [← ih1]; exact (h.tr.no _ _ hol hwt).2
    | true =>
      have h1 := h.dyn _ _ ho hrd hwt (c + d) (by omega) fun k hk hkr => ⟨fun hp => h.prLow _ _ hp, fun hp => Nat.le_of_lt (h.prLow _ _ hp)⟩
      have h2 := h.tr.yes _ _ hol hwt
      unfold stepVal at h2
      rw [rexec_ok h1] at h2
      simp only [Option.some.injEq, Prod.mk.injEq, true_and] at h2
      rw [← ih1]
      exact h2.symm
theorem PlanF.upto (h : PlanF P ft ih ops ms FA FH val wt f) {c i : Nat} (hc : c ≤ i) (hi : i ≤ ops.size) (hr : ∀ k, c ≤ k → k < i → readerAt ops k = true) : FH i = FH c := by
  have := h.const (i - c) c (by omega) fun k h1 h2 => hr k h1 (by omega)
  rwa [show c + (i - c) = i by omega] at this

/-- The heap as the text has it; or the variable's cells are there, and have no name yet. -/
structure Norm (P : Program) (ops : Array Oper) (A0 : Fr) (FH : Nat → Heap) (val : Nat → Value) (L : Array Bool) (ι : Inj) (a : Act) (w : World) (c : Nat) : Prop where
  le : c ≤ ops.size
  done : ∀ k, k < ops.size → readerAt ops k = false → (k < c ↔ L.getD k false = true)
  rel : Rel P ι (FH c) w
  frame : ∀ t, PRelV ι A0.opn (cur ops A0 val (fun k => L.getD k false) t) (a.tmps.getD t undf)
structure Pend (P : Program) (ops : Array Oper) (A0 : Fr) (FH : Nat → Heap) (val : Nat → Value) (w0 : World) (f : Nat) (L : Array Bool) (ι : Inj) (a : Act) (w : World) (c B : Nat) : Prop where
  le : c ≤ f
  made : L.getD f false = true
  open_ : ∃ k, k < f ∧ readerAt ops k = false ∧ L.getD k false = false
  done : ∀ k, k < ops.size → readerAt ops k = false → k ≠ f → (k < c ↔ L.getD k false = true)
  rel : Rel P ι (FH c) w
  frame : ∀ t, dstOf ops f ≠ some t → PRelV ι A0.opn (cur ops A0 val (fun k => L.getD k false) t) (a.tmps.getD t undf)
  ptr : ∀ t, dstOf ops f = some t → a.tmps.getD t undf = .pointer (some ⟨B, 0, none⟩)
  old : w0.heap.size ≤ B ∧ P.globals.size ≤ B ∧ Syms.inp B = none
  new : ∀ n j, ι n = some j → j.blk ≠ B
  obj : ∃ o t z, ops[f]? = some o ∧ o.op = .alloc t ∧ (P.info? t).bind (·.zero) = some z ∧ w.heap[B]? = some (.cells z.cells t (0, 0))
structure InvF (P : Program) (ops : Array Oper) (A0 : Fr) (FH : Nat → Heap) (val : Nat → Value) (ι0 : Inj) (w0 : World) (a0 : Act) (f : Nat) (L : Array Bool) (ι : Inj) (a : Act) (w : World) : Prop where
  size : L.size = ops.size
  dc : DC ops L
  ext : Ext P ι0 w0 ι w
  tsize : a.tmps.size = A0.size
  defers : a.defers = a0.defers
  st : (∃ c, Norm P ops A0 FH val L ι a w c) ∨ ∃ c B, Pend P ops A0 FH val w0 f L ι a w c B

/-- All ahead of it is done: the cells get their name. -/
theorem PlanF.settle (hE : EnvOk P ft) (h : PlanF P ft ih ops ms FA FH val wt f) {w0 : World} {ι0 : Inj} {L : Array Bool} {a : Act} {w : World} {c B : Nat} (hx : Ext P ι0 w0 ι w) (hle : c ≤ f) (hmade : L.getD f false = true) (hall : ∀ k, k < f → readerAt ops k = false → L.getD k false = true)
    (hdone : ∀ k, k < ops.size → readerAt ops k = false → k ≠ f → (k < c ↔ L.getD k false = true)) (hrel : Rel P ι (FH c) w)
    (hframe : ∀ t, dstOf ops f ≠ some t → PRelV ι (FA 0).opn (cur ops (FA 0) val (fun k => L.getD k false) t) (a.tmps.getD t undf)) (hptr : ∀ t, dstOf ops f = some t → a.tmps.getD t undf = .pointer (some ⟨B, 0, none⟩))
    (hold : w0.heap.size ≤ B ∧ P.globals.size ≤ B ∧ Syms.inp B = none) (hnew : ∀ n j, ι n = some j → j.blk ≠ B) (hobj : ∃ o t z, ops[f]? = some o ∧ o.op = .alloc t ∧ (P.info? t).bind (·.zero) = some z ∧ w.heap[B]? = some (.cells z.cells t (0, 0))) :
    ∃ ι', Ext P ι0 w0 ι' w ∧ ∃ c, Norm P ops (FA 0) FH val L ι' a w c := by
  have hfs := h.flt
  have e : FH f = FH c := h.upto hle (by omega) fun k h1 h2 => by
    cases hk : readerAt ops k with
    | true => rfl
    | false =>
      have := (hdone k (by omega) hk (by omega)).2 (hall k h2 hk)
      omega
  obtain ⟨o, t, z, p1, p2, p3, p4, p5, p6, p7⟩ := h.op
  obtain ⟨o', t', z', q1, q2, q3, q4⟩ := hobj
  have eo : o' = o := by rw [p1] at q1; exact (Option.some.inj q1).symm
  subst eo
  have et : t' = t := by rw [p2] at q2; exact (Op.alloc.inj q2).symm
  subst et
  have ez : z' = z := by rw [p5] at q3; exact (Option.some.inj q3).symm
  subst ez
  have hz : ground z' = true := by
    cases hi : P.info? t' with
    | none => rw [hi] at p5; simp at p5
    | some i =>
      rw [hi] at p5
      have hi' : P.types[t']? = some i := by
        unfold Tables.info? at hi
        rw [if_pos p4] at hi
        exact hi
      exact hE.zero t' i z' p4 hi' p5
  obtain ⟨s1, r1⟩ := hrel.adopt (b := .cells (mkCells z'.cells t')) (i := ⟨B, 0, z'.cells.size, 0, 1⟩) q4 (CRel.fresh (ground_rel hz).cells B t') (by rw [hrel.gsize]; exact hold.2.1) hold.2.2 hnew
  refine ⟨_, hx.adopt s1 hold.1, f + 1, by omega, fun k hk hkr => ?_, by rw [p7, e]; exact r1, fun t => ?_⟩
  · by_cases hkf : k = f
    · subst hkf; simp [hmade]
    · rcases Nat.lt_or_ge k f with hlt | hge
      · simp [hall k hlt hkr, show k < f + 1 by omega]
      · have : ¬ k < c := by omega
        rw [hdone k hk hkr hkf] at this
        simp [this, show ¬ k < f + 1 by omega]
  · by_cases hd : dstOf ops f = some t
    · rw [cur_of h.dist h.flt hd, hmade, hptr t hd, if_pos rfl, p6, e]
      have hn : (ι.with (FH c).next ⟨B, 0, z'.cells.size, 0, 1⟩) (FH c).next = some ⟨B, 0, z'.cells.size, 0, 1⟩ := by simp [Inj.with]
      exact .inr (AddrRel.ptr (a := ⟨(FH c).next, 0, none⟩) (a' := ⟨B, 0, none⟩) ⟨_, hn, by simp⟩)
    · exact (hframe t hd).mono s1

/-- One operation is carried out. -/
theorem PlanF.one (hE : EnvOk P ft) (hg : Good P ih) (h : PlanF P ft ih ops ms FA FH val wt f) {a : Act} {w : World} {i : Nat} {o : Oper} (ho : ops[i]? = some o) {c c' : Nat} (hrel : Rel P ι (FH c) w) (hops : ∀ x ∈ o.op.operands, VRel ι (opv (FA i).get x) (a.eval x))
    (hwant : Region.wanted o (yielded ops a.tmps) = wt i) (hc3 : wt i = true → stepVal P ft ih o (FA i) (FH c) = some (val i, FH c')) (hc4 : wt i = false → FH c' = FH c) {K : Act → World → Prop} {Q : Exit → Act → World → Prop}
    (hK : ∀ ι' v' w', Ext P ι w ι' w' → Rel P ι' (FH c') w' → VRel ι' (val i) v' → K (a.put o.dst v') w') : wpOp P ops Q i K a w := by
  have hin : i < ops.size := (Array.getElem?_eq_some_iff.1 ho).1
  have hol : ops.toList[i]? = some o := by simpa using ho
  unfold wpOp
  simp only [ho]
  rw [hwant]
  cases hw : wt i with
  | true =>
    rw [if_pos rfl]
    exact .inl (stepVal_ok hE hg (hc3 hw) hrel hops fun ι' v' w' x1 r1 hvv => hK ι' v' w' x1 r1 hvv)
  | false =>
    rw [if_neg (by simp)]
    exact hK ι undef w (Ext.refl _ _) (by rw [hc4 hw]; exact hrel) (by rw [(h.tr.no i o hol hw).1]; exact VRel.undf)

theorem PlanF.step (hE : EnvOk P ft) (hg : Good P ih) (h : PlanF P ft ih ops ms FA FH val wt f) {ι0 : Inj} {w0 : World} {a0 : Act} {L : Array Bool} {ι : Inj} {a : Act} {w : World}
    (hv : InvF P ops (FA 0) FH val ι0 w0 a0 f L ι a w) {i : Nat} (hi : i ∈ Region.ready .any ops L) {K : Act → World → Prop} {Q : Exit → Act → World → Prop}
    (hK : ∀ ι' a' w', InvF P ops (FA 0) FH val ι0 w0 a0 f (L.setIfInBounds i true) ι' a' w' → K a' w') : wpOp P ops Q i K a w := by
  obtain ⟨hun, o, ho, hall⟩ := mem_ready.1 hi
  have hin : i < ops.size := (Array.getElem?_eq_some_iff.1 ho).1
  have hol : ops.toList[i]? = some o := by simpa using ho
  have hiL : i < L.size := by rw [hv.size]; exact hin
  have hfs := h.flt
  have hLi : L.getD i false = false := by
    have : L.getD i true = L.getD i false := by simp [hiL]
    rw [← this]; exact hun
  have later : ∀ k, pr ms i k = true → L.getD k false = false := fun k hk => by
    cases hb : L.getD k false with
    | false => rfl
    | true => rw [h.s1 hv.dc k hb i hk] at hLi; exact absurd hLi (by simp)
  have earlier : ∀ k, pr ms k i = true → L.getD k false = true := fun k hk => h.s1r hv.dc hi k hk
  have looks : ∀ t, t ∈ o.looksAt ops → cur ops (FA 0) val (fun k => L.getD k false) t = (FA i).get t := by
    intro t ht
    rw [(lexFrame h.dist h.tr i (by omega)).2.2 t]
    rcases dst_cases ops t with ⟨k, hk, hkt⟩ | hno
    · rw [cur_of h.dist hk hkt, cur_of h.dist hk hkt]
      obtain ⟨d1, d2⟩ := h.data i o k t ho hk hkt ht
      rcases Nat.lt_trichotomy k i with hlt | heq | hgt
      · simp [earlier k (d1 hlt), hlt]
      · subst heq; simp [hLi]
      · simp [later k (d2 hgt), show ¬ k < i by omega]
    · rw [cur_none hno, cur_none hno]
  have hsz : (FA i).size = (FA 0).size := (lexFrame h.dist h.tr i (by omega)).1
  have known : ∀ t, t ∈ o.looksAt ops → PRelV ι (FA 0).opn (cur ops (FA 0) val (fun k => L.getD k false) t) (a.tmps.getD t undf) → VRel ι ((FA i).get t) (a.tmps.getD t undf) := fun t ht h1 => by
    rw [looks t ht, ← (lexFrame h.dist h.tr i (by omega)).2.1] at h1
    exact h1.known (lookOk_ok (h.tr.look i o hol) ht)
  have opsOf : ∀ c, Rel P ι (FH c) w → (∀ t, t ∈ o.looksAt ops → VRel ι ((FA i).get t) (a.tmps.getD t undf)) → ∀ x ∈ o.op.operands, VRel ι (opv (FA i).get x) (a.eval x) := by
    intro c hrel hlook x hx
    have hf : fineX P.globals.size x = true := by
      have := h.fine i o ho
      unfold fineO at this
      rw [Array.all_eq_true_iff_forall_mem] at this
      exact this x hx
    cases x with
    | tmp t => exact hlook t (List.mem_append_left _ (List.mem_filterMap.2 ⟨.tmp t, by simpa using hx, rfl⟩))
    | const v => exact ground_rel hf
    | global n =>
      have hn : n < P.globals.size := by simpa [fineX] using hf
      obtain ⟨j, h1, h2, h3⟩ := hrel.glob n (by rw [hrel.gsize]; exact hn)
      exact AddrRel.ptr (ι := ι) (a := ⟨n, 0, none⟩) (a' := ⟨n, 0, none⟩) ⟨j, h1, by simp [h2, h3]⟩
    | func f => exact .func _ rfl (fun k hk => by simp at hk) rfl (fun k hk => by simp at hk)
  have wantOf : (∀ t, t ∈ o.looksAt ops → VRel ι ((FA i).get t) (a.tmps.getD t undf)) → Region.wanted o (yielded ops a.tmps) = wt i := by
    intro hlook
    rw [h.tr.wanted i o hol]
    unfold Region.wanted
    cases hgd : o.guard with
    | none => rfl
    | some gw =>
      obtain ⟨g, want⟩ := gw
      have : yieldA ops (FA i) g = yielded ops a.tmps g := yieldA_at (by rw [hv.tsize, ← hsz]) ops g fun d hd => hlook d (List.mem_append_right _ (by simp [hgd, hd]))
      simp only [this]
  have hset := set_get hiL
  have hdc' : DC ops (L.setIfInBounds i true) := by
    intro k hk o' ho' e he hb
    rw [hset] at hk ⊢
    by_cases hki : k = i
    · subst hki
      rw [ho] at ho'
      cases ho'
      split
      · rfl
      · exact hall e he hb
    · rw [if_neg hki] at hk
      split
      · rfl
      · exact hv.dc k hk o' ho' e he hb
  have hdi : dstOf ops i = o.dst := by simp [dstOf, ho]
  have htlt : ∀ t, o.dst = some t → t < a.tmps.size := fun t htd => by
    have hput := h.tr.put i o hol
    rw [hv.tsize, ← hsz]
    rw [htd] at hput
    simp only [Fr.put_some] at hput
    split at hput
    · assumption
    · simp at hput
  have hself : ∀ v' t, o.dst = some t → (a.put o.dst v').tmps.getD t undf = v' := fun v' t htd => by
    have := htlt t htd
    rw [htd]; simp [Act.put, this]
  have hother : ∀ v' t, o.dst ≠ some t → (a.put o.dst v').tmps.getD t undf = a.tmps.getD t undf := fun v' t htd => by
    cases hd : o.dst with
    | none => rfl
    | some d =>
      have hne : ¬ d = t := fun e => htd (by rw [hd, e])
      simp [Act.put, hne]
  have hcur : ∀ t, o.dst ≠ some t → cur ops (FA 0) val (fun k => (L.setIfInBounds i true).getD k false) t = cur ops (FA 0) val (fun k => L.getD k false) t := fun t htd => by
    rcases dst_cases ops t with ⟨k, hk, hkt⟩ | hno
    · have hki : k ≠ i := by
        intro e
        subst e
        exact htd (hdi.symm.trans hkt)
      rw [cur_of h.dist hk hkt, cur_of h.dist hk hkt, hset, if_neg hki]
    · rw [cur_none hno, cur_none hno]
  have hcurI : ∀ t, o.dst = some t → cur ops (FA 0) val (fun k => (L.setIfInBounds i true).getD k false) t = val i := fun t htd => by
    rw [cur_of h.dist hin (hdi.trans htd), if_pos (by rw [hset, if_pos rfl])]
  have hts : ∀ v', (a.put o.dst v').tmps.size = (FA 0).size := fun v' => by cases hd : o.dst <;> simp [Act.put, hv.tsize]
  rcases hv.st with ⟨c, hN⟩ | ⟨c, B, hP⟩
  · -- as the text has it
    have hlook : ∀ t, t ∈ o.looksAt ops → VRel ι ((FA i).get t) (a.tmps.getD t undf) := fun t ht => known t ht (hN.frame t)
    have hops := opsOf c hN.rel hlook
    have hwant := wantOf hlook
    by_cases hex : i = f ∧ ∃ k, k < f ∧ readerAt ops k = false ∧ L.getD k false = false
    · -- ahead of its place
      obtain ⟨rfl, k0, hk0, hk0r, hk0L⟩ := hex
      obtain ⟨o1, t, z, p1, p2, p3, p4, p5, p6, p7⟩ := h.op
      have eo : o1 = o := by rw [ho] at p1; exact (Option.some.inj p1).symm
      subst eo
      have hc0 : c ≤ k0 := by
        rcases Nat.lt_or_ge k0 c with hlt | hge
        · rw [(hN.done k0 (by omega) hk0r).1 hlt] at hk0L; simp at hk0L
        · exact hge
      unfold wpOp
      simp only [ho]
      rw [show Region.wanted o1 (yielded ops a.tmps) = true by simp [Region.wanted, p3], if_pos rfl]
      refine .inl ?_
      unfold Oper.wp
      have e1 : execOp a.eval o1 = (do Pure.pure (.value (← Instr.alloc t true (.tuple #[])))) := by unfold execOp; rw [p2]
      have e2 : (execOp a.eval o1).run P w = .ok (.value (.pointer (some ⟨w.heap.size, 0, none⟩))) { w with heap := w.heap.push (.cells z.cells t (0, 0)) } := by
        rw [e1, Sem.run_bind, allocW p5]; rfl
      rw [e2]
      refine hK ι _ _ ⟨by simpa using hv.size, hdc', hv.ext.trans (Ext.push ι ⟨_, _, rfl⟩), hts _, (put_defers _ _ _).trans hv.defers, .inr ⟨c, w.heap.size, by omega, by rw [hset, if_pos rfl], ⟨k0, hk0, hk0r, by rw [hset, if_neg (by omega)]; exact hk0L⟩, fun k hk hkr hkf => by rw [hset, if_neg hkf]; exact hN.done k hk hkr, hN.rel.push _, fun t' ht' => ?_, fun t' ht' => ?_, ⟨hv.ext.size, by have := hN.rel.room; rw [hN.rel.gsize] at this; exact this, hN.rel.inpNew (Nat.le_refl _)⟩, fun n j hj => by have := hN.rel.below n j hj; omega, ⟨o1, t, z, ho, p2, p5, by show (w.heap.push _)[w.heap.size]? = _; simp⟩⟩⟩
      · rw [hdi] at ht'
        rw [hother _ _ ht', hcur _ ht']
        exact hN.frame t'
      · rw [hdi] at ht'
        exact hself _ _ ht'
    · -- in its place
      have hc' : ∃ c', c' ≤ ops.size ∧ (∀ k, k < ops.size → readerAt ops k = false → (k < c' ↔ (L.setIfInBounds i true).getD k false = true)) ∧
          (wt i = true → stepVal P ft ih o (FA i) (FH c) = some (val i, FH c')) ∧ (wt i = false → FH c' = FH c) := by
        cases hrd : reader o with
        | true =>
          refine ⟨c, hN.le, fun k hk hkr => ?_, fun hw => ?_, fun _ => rfl⟩
          · rw [hset, if_neg]
            · exact hN.done k hk hkr
            · intro e
              subst e
              unfold readerAt at hkr
              rw [ho] at hkr
              simp [hrd] at hkr
          · have := h.dyn i o ho hrd hw c hN.le fun k hk hkr => ⟨fun hp => (hN.done k hk hkr).2 (earlier k hp), fun hp => by
              rcases Nat.lt_or_ge k c with hlt | hge
              · have := (hN.done k hk hkr).1 hlt
                rw [later k hp] at this
                simp at this
              · exact hge⟩
            unfold stepVal
            rw [rexec_ok this]
        | false =>
          have hri : readerAt ops i = false := by unfold readerAt; rw [ho]; simp [hrd]
          have hci : c ≤ i := by
            rcases Nat.lt_or_ge i c with hlt | hge
            · have := (hN.done i hin hri).1 hlt
              rw [hLi] at this
              simp at this
            · exact hge
          have hbef : ∀ k, k < i → readerAt ops k = false → L.getD k false = true := fun k hk hkr => by
            by_cases hif : i = f
            · cases hb : L.getD k false with
              | true => rfl
              | false => exact absurd ⟨hif, k, by omega, hkr, hb⟩ hex
            · exact earlier k (h.eff i k hin (by omega) hri hkr hk hif)
          have hFH : FH i = FH c := h.upto hci (by omega) fun k h1 h2 => by
            cases hkr : readerAt ops k with
            | true => rfl
            | false =>
              have := (hN.done k (by omega) hkr).2 (hbef k h2 hkr)
              omega
          refine ⟨i + 1, by omega, fun k hk hkr => ?_, fun hw => ?_, fun hw => ?_⟩
          · rw [hset]
            rcases Nat.lt_trichotomy k i with hlt | heq | hgt
            · rw [if_neg (by omega)]
              simp [hbef k hlt hkr, show k < i + 1 by omega]
            · subst heq; simp
            · rw [if_neg (by omega)]
              have : ¬ k < c := by omega
              rw [hN.done k hk hkr] at this
              simp [this, show ¬ k < i + 1 by omega]
          · rw [← hFH]; exact h.tr.yes i o hol hw
          · rw [← hFH]; exact (h.tr.no i o hol hw).2
      obtain ⟨c', hc1, hc2, hc3, hc4⟩ := hc'
      refine h.one hE hg ho hN.rel hops hwant hc3 hc4 fun ι' v' w' x1 r1 hvv => hK ι' _ w' ⟨by simpa using hv.size, hdc', hv.ext.trans x1, hts _, (put_defers _ _ _).trans hv.defers, .inl ⟨c', hc1, hc2, r1, fun t => ?_⟩⟩
      by_cases htd : o.dst = some t
      · rw [hcurI t htd, hself _ _ htd]; exact .inr hvv
      · rw [hcur t htd, hother _ _ htd]; exact (hN.frame t).mono x1.sub
  · -- its cells have no name yet
    obtain ⟨k0, hk0, hk0r, hk0L⟩ := hP.open_
    have hif : i ≠ f := fun e => by subst e; rw [hP.made] at hLi; simp at hLi
    have hnf : pr ms f i = false := by
      cases hp : pr ms f i with
      | false => rfl
      | true =>
        have := earlier k0 (h.wait i hin hp k0 hk0 hk0r)
        rw [hk0L] at this
        simp at this
    have hni : pr ms i f = false := by
      cases hp : pr ms i f with
      | false => rfl
      | true =>
        have := later f hp
        rw [hP.made] at this
        simp at this
    have hnl : ∀ t, t ∈ o.looksAt ops → dstOf ops f ≠ some t := fun t ht e => by
      obtain ⟨d1, d2⟩ := h.data i o f t ho h.flt e ht
      rcases Nat.lt_or_ge f i with hlt | hge
      · rw [d1 hlt] at hnf; simp at hnf
      · rw [d2 (by omega)] at hni; simp at hni
    have hlook : ∀ t, t ∈ o.looksAt ops → VRel ι ((FA i).get t) (a.tmps.getD t undf) := fun t ht => known t ht (hP.frame t (hnl t ht))
    have hops := opsOf c hP.rel hlook
    have hwant := wantOf hlook
    have hc' : ∃ c', c' ≤ f ∧ (∀ k, k < ops.size → readerAt ops k = false → k ≠ f → (k < c' ↔ (L.setIfInBounds i true).getD k false = true)) ∧
        (wt i = true → stepVal P ft ih o (FA i) (FH c) = some (val i, FH c')) ∧ (wt i = false → FH c' = FH c) := by
      have hcl := hP.le
      cases hrd : reader o with
      | true =>
        refine ⟨c, hP.le, fun k hk hkr hkf => ?_, fun hw => ?_, fun _ => rfl⟩
        · rw [hset, if_neg]
          · exact hP.done k hk hkr hkf
          · intro e
            subst e
            unfold readerAt at hkr
            rw [ho] at hkr
            simp [hrd] at hkr
        · have := h.dyn i o ho hrd hw c (by omega) fun k hk hkr => by
            by_cases hkf : k = f
            · subst hkf
              exact ⟨fun hp => by rw [hp] at hnf; simp at hnf, fun _ => hcl⟩
            · refine ⟨fun hp => (hP.done k hk hkr hkf).2 (earlier k hp), fun hp => ?_⟩
              rcases Nat.lt_or_ge k c with hlt | hge
              · have := (hP.done k hk hkr hkf).1 hlt
                rw [later k hp] at this
                simp at this
              · exact hge
          unfold stepVal
          rw [rexec_ok this]
      | false =>
        have hri : readerAt ops i = false := by unfold readerAt; rw [ho]; simp [hrd]
        have hlt : i < f := by
          rcases Nat.lt_or_ge i f with hlt | hge
          · exact hlt
          · have := earlier k0 (h.eff i k0 hin (by omega) hri hk0r (by omega) hif)
            rw [hk0L] at this
            simp at this
        have hci : c ≤ i := by
          rcases Nat.lt_or_ge i c with hlt | hge
          · have := (hP.done i hin hri hif).1 hlt
            rw [hLi] at this
            simp at this
          · exact hge
        have hFH : FH i = FH c := h.upto hci (by omega) fun k h1 h2 => by
          cases hkr : readerAt ops k with
          | true => rfl
          | false =>
            have := (hP.done k (by omega) hkr (by omega)).2 (earlier k (h.eff i k hin (by omega) hri hkr h2 hif))
            omega
        refine ⟨i + 1, by omega, fun k hk hkr hkf => ?_, fun hw => ?_, fun hw => ?_⟩
        · rw [hset]
          rcases Nat.lt_trichotomy k i with hlt | heq | hgt
          · rw [if_neg (by omega)]
            simp [earlier k (h.eff i k hin hk hri hkr hlt hif), show k < i + 1 by omega]
          · subst heq; simp
          · rw [if_neg (by omega)]
            have : ¬ k < c := by omega
            rw [hP.done k hk hkr hkf] at this
            simp [this, show ¬ k < i + 1 by omega]
        · rw [← hFH]; exact h.tr.yes i o hol hw
        · rw [← hFH]; exact (h.tr.no i o hol hw).2
    obtain ⟨c', hc1, hc2, hc3, hc4⟩ := hc'
    refine h.one hE hg ho hP.rel hops hwant hc3 hc4 fun ι' v' w' x1 r1 hvv => ?_
    have hBlt : B < w.heap.size := by
      obtain ⟨_, _, _, _, _, _, e⟩ := hP.obj
      exact (Array.getElem?_eq_some_iff.1 e).1
    have hmade : (L.setIfInBounds i true).getD f false = true := by rw [hset, if_neg (fun e => hif e.symm)]; exact hP.made
    have hfr : ∀ t, dstOf ops f ≠ some t → PRelV ι' (FA 0).opn (cur ops (FA 0) val (fun k => (L.setIfInBounds i true).getD k false) t) ((a.put o.dst v').tmps.getD t undf) := fun t ht => by
      by_cases htd : o.dst = some t
      · rw [hcurI t htd, hself _ _ htd]; exact .inr hvv
      · rw [hcur t htd, hother _ _ htd]; exact (hP.frame t ht).mono x1.sub
    have hpt : ∀ t, dstOf ops f = some t → (a.put o.dst v').tmps.getD t undf = .pointer (some ⟨B, 0, none⟩) := fun t ht => by
      rw [hother _ _ fun e => hif (h.dist i f t hin h.flt (hdi.trans e) ht)]
      exact hP.ptr t ht
    have hnw : ∀ n j, ι' n = some j → j.blk ≠ B := fun n j hj e => by
      rcases Nat.lt_or_ge n P.globals.size with hlt | hge
      · obtain ⟨q, q1, q2, _⟩ := r1.glob n (by rw [r1.gsize]; exact hlt)
        rw [hj] at q1
        cases q1
        have := hP.old.2.1
        omega
      · rcases x1.img n j hj hge with ⟨m, q, q1, _, q2⟩ | hge2
        · exact hP.new m q q1 (q2.trans e)
        · omega
    have hob : ∃ o t z, ops[f]? = some o ∧ o.op = .alloc t ∧ (P.info? t).bind (·.zero) = some z ∧ w'.heap[B]? = some (.cells z.cells t (0, 0)) := by
      obtain ⟨o1, t, z, e1, e2, e3, e4⟩ := hP.obj
      exact ⟨o1, t, z, e1, e2, e3, by rw [x1.keep B hBlt fun n j hj _ => hP.new n j hj]; exact e4⟩
    by_cases hop : ∃ k, k < f ∧ readerAt ops k = false ∧ (L.setIfInBounds i true).getD k false = false
    · exact hK ι' _ w' ⟨by simpa using hv.size, hdc', hv.ext.trans x1, hts _, (put_defers _ _ _).trans hv.defers, .inr ⟨c', B, hc1, hmade, hop, hc2, r1, hfr, hpt, hP.old, hnw, hob⟩⟩
    · obtain ⟨ι2, x2, hn2⟩ := h.settle hE (hv.ext.trans x1) hc1 hmade (fun k hk hkr => by
        cases hb : (L.setIfInBounds i true).getD k false with
        | true => rfl
        | false => exact absurd ⟨k, hk, hkr, hb⟩ hop) hc2 r1 hfr hpt hP.old hnw hob
      exact hK ι2 _ w' ⟨by simpa using hv.size, hdc', x2, hts _, (put_defers _ _ _).trans hv.defers, .inl hn2⟩

theorem PlanF.all (h : PlanF P ft ih ops ms FA FH val wt f) {L : Array Bool} (hs : L.size = ops.size) (hr : Region.ready .any ops L = []) : ∀ i, i < ops.size → L.getD i false = true := by
  intro i
  induction i using Nat.strongRecOn with
  | _ i ihi =>
    intro hi
    cases hb : L.getD i false with
    | true => rfl
    | false =>
      have ho : ops[i]? = some ops[i] := by simp [hi]
      have : i ∈ Region.ready .any ops L := mem_ready.2 ⟨by
        have : L.getD i true = L.getD i false := by simp [show i < L.size by omega]
        rw [this]; exact hb, ops[i], ho, fun e he hbb => ihi e.on (h.low i _ ho e he hbb) (by have := h.low i _ ho e he hbb; omega)⟩
      rw [hr] at this
      simp at this
theorem PlanF.fin (h : PlanF P ft ih ops ms FA FH val wt f) {ι0 : Inj} {w0 : World} {a0 : Act} {L : Array Bool} {ι : Inj} {a : Act} {w : World}
    (hv : InvF P ops (FA 0) FH val ι0 w0 a0 f L ι a w) (hall : ∀ i, i < ops.size → L.getD i false = true) : PostC P ι0 w0 a0 .normal (FA ops.size) (FH ops.size) .normal a w := by
  obtain ⟨s1, p1, g1⟩ := lexFrame h.dist h.tr ops.size (Nat.le_refl _)
  have hfs := h.flt
  rcases hv.st with ⟨c, hN⟩ | ⟨c, B, hP⟩
  · refine ⟨ι, rfl, hv.ext, ?_, ⟨by rw [hv.tsize, s1], fun t => ?_⟩, hv.defers⟩
    · rw [h.upto hN.le (Nat.le_refl _) fun k h1 h2 => by
        cases hkr : readerAt ops k with
        | true => rfl
        | false =>
          have := (hN.done k (by omega) hkr).2 (hall k (by omega))
          omega]
      exact hN.rel
    · rw [g1, p1]
      have : cur ops (FA 0) val (fun k => decide (k < ops.size)) t = cur ops (FA 0) val (fun k => L.getD k false) t := by
        rcases dst_cases ops t with ⟨k, hk, hkt⟩ | hno
        · rw [cur_of h.dist hk hkt, cur_of h.dist hk hkt, hall k hk]; simp [hk]
        · rw [cur_none hno, cur_none hno]
      rw [this]
      exact hN.frame t
  · obtain ⟨k0, hk0, _, hk0L⟩ := hP.open_
    rw [hall k0 (by omega)] at hk0L
    simp at hk0L
theorem PlanF.any (hE : EnvOk P ft) (hg : Good P ih) (h : PlanF P ft ih ops ms FA FH val wt f) {ι0 : Inj} {w0 : World} {a0 : Act} : ∀ (fuel : Nat) (L : Array Bool) (ι : Inj) (a : Act) (w : World),
    InvF P ops (FA 0) FH val ι0 w0 a0 f L ι a w → ((List.range ops.size).filter fun k => !L.getD k false).length ≤ fuel →
    wpAny P .any ops (PostC P ι0 w0 a0 .normal (FA ops.size) (FH ops.size)) fuel L a w
  | 0, L, ι, a, w, hv, hf => by
    have hall : ∀ i, i < ops.size → L.getD i false = true := by
      intro i hi
      cases hb : L.getD i false with
      | true => rfl
      | false =>
        have hm : i ∈ (List.range ops.size).filter fun k => !L.getD k false := List.mem_filter.2 ⟨List.mem_range.2 hi, by rw [hb]; rfl⟩
        have := List.length_pos_of_mem hm
        omega
    refine ⟨?_, h.fin hv hall⟩
    cases hr : Region.ready .any ops L with
    | nil => rfl
    | cons i l =>
      have hi : i ∈ Region.ready .any ops L := by rw [hr]; simp
      obtain ⟨hun, o, ho, _⟩ := mem_ready.1 hi
      have hin : i < ops.size := (Array.getElem?_eq_some_iff.1 ho).1
      have h1 := hall i hin
      have : L.getD i true = L.getD i false := by simp [show i < L.size by rw [hv.size]; exact hin]
      rw [this, h1] at hun
      simp at hun
  | fuel + 1, L, ι, a, w, hv, hf => by
    refine ⟨fun hr => h.fin hv (h.all hv.size hr), fun i hi => h.step hE hg hv hi fun ι' a' w' hv' => h.any hE hg fuel _ ι' a' w' hv' ?_⟩
    obtain ⟨hun, o, ho, _⟩ := mem_ready.1 hi
    have hin : i < ops.size := (Array.getElem?_eq_some_iff.1 ho).1
    have hiL : i < L.size := by rw [hv.size]; exact hin
    have hLi : L.getD i false = false := by
      have : L.getD i true = L.getD i false := by simp [hiL]
      rw [← this]; exact hun
    have := filter_lt (p := fun k => !L.getD k false) (q := fun k => !(L.setIfInBounds i true).getD k false) (List.range ops.size) (fun x hx => by
      rw [set_get hiL] at hx
      split at hx
      · simp at hx
      · exact hx) ⟨i, List.mem_range.2 hin, by rw [hLi]; rfl, by rw [set_get hiL]; simp⟩
    omega
end

/-! ### What the look says -/
def isAllocO (o : Oper) : Bool := match o.op with
  | .alloc _ => o.guard.isNone
  | _ => false
def atAlloc : List Oper → Nat → Option Nat
  | [], _ => none
  | o :: l, i => cond (isAllocO o) (some i) (atAlloc l (i + 1))
/-- All of them wait for the cells, or need not. -/
noncomputable def floats (P : Program) [Orc P] (ops : Array Oper) (ms : List Nat) (tr : List Ent) (D : Ent) (f : Nat) : Bool :=
  match ops[f]? with
  | some o => (match o.op with
    | .alloc t => Nat.blt t P.types.size && (match o.guard, Orc.orc P o (tr.getD f D).A.get with
      | none, none => !Orc.orcQ P o (tr.getD f D).A.get
      | _, _ => false)
    | _ => false) && allN ops.size fun i =>
      (Nat.ble i f || rdAt reader ops i || pr ms f i) && (Nat.beq i f || rdAt reader ops i || allN i fun k => rdAt reader ops k || pr ms k i) && (!pr ms f i || allN f fun k => rdAt reader ops k || pr ms k i)
  | none => false
noncomputable def drawRunA (P : Program) [Orc P] (ft : Nat → Option Func) (ih : Runner) (ops : Array Oper) (A : Fr) (H : Heap) : Option (Fr × Heap) :=
  match atAlloc ops.toList 0 with
  | some f => match lexRun P ft ih ops ops.toList A H with
    | some (tr, A', H') => cond (staticQ (fun o => reader o || isAllocO o || true) ops (masks ops.toList [])) (cond (floats P ops (masks ops.toList []) tr ⟨A', H', undf, false⟩ f) (cond (dynOk P ft ops (masks ops.toList []) tr ⟨A', H', undf, false⟩) (some (A', H')) none) none) none
    | none => none
  | none => none
theorem drawRunA_ok (hE : EnvOk P ft) (hg : Good P ih) : DrawOk P (drawRunA P ft ih) := by
  intro ops id A A' H H' h hfine ι a w hw hA
  unfold drawRunA at h
  cases hfl : atAlloc ops.toList 0 with
  | none => rw [hfl] at h; simp at h
  | some f =>
  rw [hfl] at h
  dsimp only at h
  cases hl : lexRun P ft ih ops ops.toList A H with
  | none => rw [hl] at h; simp at h
  | some q =>
  obtain ⟨tr, A1, H1⟩ := q
  rw [hl] at h
  dsimp only at h
  cases hst : staticQ (fun o => reader o || isAllocO o || true) ops (masks ops.toList []) with
  | false => rw [hst] at h; simp at h
  | true =>
  rw [hst, cond_true] at h
  cases hflo : floats P ops (masks ops.toList []) tr ⟨A1, H1, undf, false⟩ f with
  | false => rw [hflo] at h; simp at h
  | true =>
  rw [hflo, cond_true] at h
  cases hdy : dynOk P ft ops (masks ops.toList []) tr ⟨A1, H1, undf, false⟩ with
  | false => rw [hdy] at h; simp at h
  | true =>
  rw [hdy, cond_true] at h
  simp only [Option.some.injEq, Prod.mk.injEq] at h
  obtain ⟨rfl, rfl⟩ := h
  obtain ⟨q1, q2, q3, q4⟩ := lexRun_tr _ _ _ _ _ _ hl
  obtain ⟨s1, s2, s3, _⟩ := staticQ_plan hst
  unfold floats at hflo
  split at hflo
  · rename_i o ho
    rw [Bool.and_eq_true] at hflo
    obtain ⟨hop, hal⟩ := hflo
    have hfs : f < ops.size := (Array.getElem?_eq_some_iff.1 ho).1
    have hol : ops.toList[f]? = some o := by simpa using ho
    split at hop
    · rename_i t hot
      rw [Bool.and_eq_true] at hop
      obtain ⟨htl, horc⟩ := hop
      have htlt : t < P.types.size := by simpa [Nat.blt_eq] using htl
      split at horc
      · rename_i hgn hor
        have hwt : (tr.getD f ⟨A1, H1, undf, false⟩).wt = true := by
          have := q4.wanted f o hol
          rw [this]
          simp [Region.wanted, hgn]
        have hyes := q4.yes f o hol hwt
        have hgen : ∃ v, arun P (Instr.alloc t true (.tuple #[])) (tr.getD f ⟨A1, H1, undf, false⟩).H = some (v, (tr.getD (f + 1) ⟨A1, H1, undf, false⟩).H) ∧ v = (tr.getD f ⟨A1, H1, undf, false⟩).v := by
          unfold stepVal Ev.aexec at hyes
          rw [hor] at hyes
          simp only at hyes
          rw [show Orc.orcQ P o (tr.getD f ⟨A1, H1, undf, false⟩).A.get = false by simpa using horc, cond_false] at hyes
          have e0 : aexecO P ft (tr.getD f ⟨A1, H1, undf, false⟩).A.get o (tr.getD f ⟨A1, H1, undf, false⟩).H = gen P (do Pure.pure (.value (← Instr.alloc t true (.tuple #[])))) (tr.getD f ⟨A1, H1, undf, false⟩).H := by
            unfold aexecO
            rw [hot]
            dsimp only
            unfold aexecN
            have ef : fast P ft (tr.getD f ⟨A1, H1, undf, false⟩).A.get o (tr.getD f ⟨A1, H1, undf, false⟩).H = none := by
              unfold fast
              rw [hot]
            rw [ef]
            dsimp only
            unfold aexecG
            rw [hot]
            dsimp only
            rw [if_pos htlt]
            congr 1
            unfold execOp
            rw [hot]
          rw [e0] at hyes
          cases har : arun P (Instr.alloc t true (.tuple #[])) (tr.getD f ⟨A1, H1, undf, false⟩).H with
          | none =>
            have : gen P (do Pure.pure (.value (← Instr.alloc t true (.tuple #[])))) (tr.getD f ⟨A1, H1, undf, false⟩).H = none := by
              unfold Ev.gen
              rw [arun_bind, har]
              rfl
            rw [this] at hyes
            simp at hyes
          | some q =>
            obtain ⟨v, H2⟩ := q
            rw [gen_value har] at hyes
            simp only [Option.some.injEq, Prod.mk.injEq] at hyes
            exact ⟨v, by rw [hyes.2], hyes.1⟩
        obtain ⟨v, hv1, hv2⟩ := hgen
        obtain ⟨z, hz1, hz2, hz3⟩ := allocA hv1
        have hrdf : readerAt ops f = false := by
          unfold readerAt
          rw [ho]
          simp [reader, hot]
        have hrd : ∀ k, rdAt reader ops k = readerAt ops k := fun k => rfl
        have hplan : PlanF P ft ih ops (masks ops.toList []) _ _ _ _ f := {
          just := masks_just ops.toList ops.toList [] (fun j => by simp) (fun i k hik => by simp [pr] at hik)
          low := s1
          dist := s2
          data := s3
          eff := fun i k hi hk hri hrk hki hif => by
            have h1 := allN_ok hal i hi
            simp only [Bool.and_eq_true, Bool.or_eq_true, hrd, hri, Bool.false_eq_true, or_false] at h1
            rcases h1.1.2 with h2 | h2
            · exact absurd (Nat.eq_of_beq_eq_true h2) hif
            · have := allN_ok h2 k hki
              simpa [hrk] using this
          tr := q4
          dyn := fun i o ho hr hwt c hc hcomp => by
            have hi : i < ops.size := (Array.getElem?_eq_some_iff.1 ho).1
            have h1 := allN_ok hdy i hi
            rw [ho] at h1
            have hwt' : (tr.getD i ⟨A1, H1, undf, false⟩).wt = true := hwt
            simp only [hr, hwt', Bool.not_true, Bool.false_or, Bool.or_eq_true] at h1
            rcases h1 with h1 | h1
            · cases hp : pexec P (tr.getD i ⟨A1, H1, undf, false⟩).A.get o with
              | none => rw [hp] at h1; simp at h1
              | some v =>
                have hy := q4.yes i o (by simpa using ho) hwt
                unfold stepVal at hy
                have := rexec_ok (pexec_ok (ft := ft) hp (tr.getD i ⟨A1, H1, undf, false⟩).H)
                rw [this] at hy
                simp only [Option.some.injEq, Prod.mk.injEq] at hy
                rw [pexec_ok hp, hy.1]
            · have h2 := allN_ok h1 c (by omega)
              have hcm : compat ops (masks ops.toList []) c i = true := compat_of hcomp
              rw [hcm] at h2
              simp only [Bool.not_true, Bool.false_or] at h2
              split at h2
              · rename_i v hv
                rw [hv, veq_ok h2]
              · simp at h2
          fine := fun i o ho => by
            rw [Array.all_eq_true_iff_forall_mem] at hfine
            exact hfine o (Array.mem_of_getElem? ho)
          flt := hfs
          frd := hrdf
          wait := fun i hi hp k hk hkr => by
            have h1 := allN_ok hal i hi
            simp only [Bool.and_eq_true, Bool.or_eq_true, hp, Bool.not_true, Bool.false_eq_true, false_or] at h1
            have := allN_ok h1.2 k hk
            simpa [hrd, hkr] using this
          op := ⟨o, t, z, ho, hot, hgn, htlt, hz1, by rw [← hv2]; exact hz2, hz3⟩ }
        have hlen : tr.length = ops.size := by simpa using q1
        have hfin : tr.getD ops.size ⟨A1, H1, undf, false⟩ = ⟨A1, H1, undf, false⟩ := by
          rw [List.getD_eq_getElem?_getD, List.getElem?_eq_none (by omega)]; rfl
        have hrep : ∀ k, (Array.replicate ops.size false).getD k false = false := by
          intro k
          simp only [Array.getD_eq_getD_getElem?, Array.getElem?_replicate]
          split <;> rfl
        have hinv : InvF P ops (tr.getD 0 ⟨A1, H1, undf, false⟩).A (fun i => (tr.getD i ⟨A1, H1, undf, false⟩).H) (fun i => (tr.getD i ⟨A1, H1, undf, false⟩).v) ι w a f (Array.replicate ops.size false) ι a { w with drawn := w.drawn + 1 } := by
          refine ⟨by simp, fun i hi => by rw [hrep] at hi; simp at hi, Ext.draw _ _ _, ?_, rfl, .inl ⟨0, Nat.zero_le _, fun k _ _ => by rw [hrep]; simp, ?_, fun t => ?_⟩⟩
          · rw [q2]; exact hA.1
          · show Rel P ι (tr.getD 0 ⟨A1, H1, undf, false⟩).H _
            rw [q3]; exact hw.draw _
          · have : cur ops (tr.getD 0 ⟨A1, H1, undf, false⟩).A (fun i => (tr.getD i ⟨A1, H1, undf, false⟩).v) (fun k => (Array.replicate ops.size false).getD k false) t = A.get t := by
              rw [q2]
              rcases dst_cases ops t with ⟨k, hk, hkt⟩ | hno
              · rw [cur_of s2 hk hkt, hrep]; rfl
              · rw [cur_none hno]
            rw [this, q2]; exact hA.2 t
        have := hplan.any hE hg (ι0 := ι) (w0 := w) (a0 := a) ops.size (Array.replicate ops.size false) ι a { w with drawn := w.drawn + 1 } hinv (by
          refine Nat.le_trans (List.length_filter_le _ _) (by simp))
        simp only [hfin] at this
        exact wp_region_any hE.mixed this
      · simp at horc
    · simp at hop
  · simp at hflo
end Go.Ev
