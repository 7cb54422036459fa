/-
  The evaluator: the theorem on regions that draw their order. Conditions: EnvOk.
-/
import Derived.Test.YtmeppoihgfdgaaaDoorEvI
namespace Go.Ev
set_option linter.unusedSectionVars false      -- the symbols' class stands for all texts
variable [Syms] {P : Program} [NoFloat P] [Marks] [Orc P] [Lps P]

/-! ### Who waits for whom -/
def maskOf (acc : List Nat) (o : Oper) : Nat := o.after.toList.foldl (fun s e => if Region.binds .any e then s ||| 2 ^ e.on ||| acc.getD e.on 0 else s) 0
def masks : List Oper → List Nat → List Nat
  | [], acc => acc
  | o :: l, acc => masks l (acc ++ [maskOf acc o])
def pr (ms : List Nat) (k i : Nat) : Bool := (ms.getD i 0).testBit k

def Just (L : List Oper) (ms : List Nat) : Prop :=
  ∀ i k, pr ms k i = true → ∃ o e, L[i]? = some o ∧ e ∈ o.after.toList ∧ Region.binds .any e = true ∧ (e.on = k ∨ (e.on < i ∧ pr ms k e.on = true))

theorem foldMask (acc : List Nat) (k : Nat) : ∀ (l : List Edge) (s : Nat), (l.foldl (fun s e => if Region.binds .any e then s ||| 2 ^ e.on ||| acc.getD e.on 0 else s) s).testBit k = true →
    s.testBit k = true ∨ ∃ e ∈ l, Region.binds .any e = true ∧ (e.on = k ∨ (acc.getD e.on 0).testBit k = true)
  | [], s, h => .inl h
  | e :: l, s, h => by
    simp only [List.foldl_cons] at h
    rcases foldMask acc k l _ h with h1 | ⟨e', he', h2⟩
    · split at h1
      · rename_i hb
        simp only [Nat.testBit_or, Bool.or_eq_true] at h1
        rcases h1 with (h1 | h1) | h1
        · exact .inl h1
        · refine .inr ⟨e, by simp, hb, .inl ?_⟩
          rw [Nat.testBit_two_pow] at h1
          simpa using h1
        · exact .inr ⟨e, by simp, hb, .inr h1⟩
      · exact .inl h1
    · exact .inr ⟨e', by simp [he'], h2⟩

theorem getD_append_lt {l : List Nat} {x : Nat} {i : Nat} (h : i < l.length) : (l ++ [x]).getD i 0 = l.getD i 0 := by
  simp [List.getD_eq_getElem?_getD, List.getElem?_append_left h]

theorem masks_just (L : List Oper) : ∀ (l : List Oper) (acc : List Nat), (∀ j, l[j]? = L[acc.length + j]?) → Just L acc → Just L (masks l acc)
  | [], acc, _, h => h
  | o :: l, acc, hl, h => by
    refine masks_just L l (acc ++ [maskOf acc o]) (fun j => ?_) fun i k hik => ?_
    · have := hl (j + 1)
      simp only [List.getElem?_cons_succ] at this
      rw [this]
      simp [Nat.add_assoc, Nat.add_comm 1 j]
    · have h0 : L[acc.length]? = some o := by have := hl 0; simpa using this.symm
      unfold pr at hik
      rcases Nat.lt_trichotomy i acc.length with hlt | heq | hgt
      · rw [getD_append_lt hlt] at hik
        obtain ⟨o', e, h1, h2, h3, h4⟩ := h i k hik
        refine ⟨o', e, h1, h2, h3, h4.imp id fun ⟨h5, h6⟩ => ⟨h5, ?_⟩⟩
        unfold pr
        rw [getD_append_lt (by omega)]
        exact h6
      · subst heq
        have e1 : (acc ++ [maskOf acc o]).getD acc.length 0 = maskOf acc o := by simp [List.getD_eq_getElem?_getD]
        rw [e1] at hik
        rcases foldMask acc k _ _ hik with hz | ⟨e, he, hb, hor⟩
        · simp at hz
        · refine ⟨o, e, h0, he, hb, hor.imp id fun h5 => ?_⟩
          have hlt : e.on < acc.length := by
            rcases Nat.lt_or_ge e.on acc.length with h' | h'
            · exact h'
            · rw [List.getD_eq_getElem?_getD, List.getElem?_eq_none h'] at h5
              simp at h5
          refine ⟨hlt, ?_⟩
          unfold pr
          rw [getD_append_lt hlt]
          exact h5
      · have e1 : (acc ++ [maskOf acc o]).getD i 0 = 0 := by
          rw [List.getD_eq_getElem?_getD, List.getElem?_eq_none (by simp; omega)]; rfl
        rw [e1] at hik
        simp at hik

/-! ### The look at the region's text -/
def allN (n : Nat) (f : Nat → Bool) : Bool := (List.range n).all f
theorem allN_ok {n : Nat} {f : Nat → Bool} (h : allN n f = true) (i : Nat) (hi : i < n) : f i = true := by
  unfold allN at h
  rw [List.all_eq_true] at h
  exact h i (List.mem_range.2 hi)

def dstOf (ops : Array Oper) (k : Nat) : Option Tmp := (ops[k]?).bind (·.dst)
def readerAt (ops : Array Oper) (k : Nat) : Bool := ((ops[k]?).map reader).getD true
def edgesLow (ops : Array Oper) (i : Nat) : Bool := ((ops[i]?).map fun o => o.after.toList.all fun e => !Region.binds .any e || decide (e.on < i)).getD true
/-! ### The look, in one pass -/
noncomputable def tb (t : T Nat) (n : Nat) : Nat := match t.get n with
  | some m => m
  | none => 0
theorem tb_set (t : T Nat) (n m x : Nat) : tb (t.set n (some x)) m = if m = n then x else tb t m := by
  unfold tb
  rw [T.get_set]
  by_cases h : m = n
  · rw [if_pos h, if_pos h]
  · rw [if_neg h, if_neg h]
noncomputable def addL (i : Nat) : List Tmp → T Nat → T Nat
  | [], L => L
  | t :: l, L => addL i l (L.set t (some (tb L t ||| 2 ^ i)))
theorem addL_bit (i : Nat) : ∀ (l : List Tmp) (L : T Nat) (t j : Nat), ((tb L t).testBit j = true ∨ (j = i ∧ t ∈ l)) → (tb (addL i l L) t).testBit j = true
  | [], L, t, j, h => by simpa [addL] using h
  | u :: l, L, t, j, h => by
    unfold addL
    refine addL_bit i l _ t j ?_
    rw [tb_set]
    rcases h with h | ⟨rfl, h⟩
    · left
      split
      · rename_i e; subst e; rw [Nat.testBit_or, h]; rfl
      · exact h
    · rcases List.mem_cons.1 h with e | h
      · left
        rw [if_pos e, Nat.testBit_or, Nat.testBit_two_pow]
        simp
      · exact .inr ⟨rfl, h⟩
def subM (a m : Nat) : Bool := Nat.beq (a &&& m) a
theorem subM_bit {a m j : Nat} (h : subM a m = true) (hj : a.testBit j = true) : m.testBit j = true := by
  unfold subM at h
  rw [Nat.beq_eq] at h
  rw [← h, Nat.testBit_and] at hj
  simp only [Bool.and_eq_true] at hj
  exact hj.2
def rdAt (rd : Oper → Bool) (ops : Array Oper) (k : Nat) : Bool := ((ops[k]?).map rd).getD true
noncomputable def stGo (rd : Oper → Bool) (ops : Array Oper) (ms : List Nat) : List Oper → Nat → T Nat → T Nat → Nat → Bool
  | [], _, _, _, _ => true
  | o :: l, i, D, L, eff =>
    (o.after.toList.all fun e => !Region.binds .any e || decide (e.on < i)) &&
    ((o.looksAt ops).all fun t => subM (tb D t) (ms.getD i 0)) &&
    (match o.dst with
      | some d => Nat.beq (tb D d) 0 && subM (tb L d) (ms.getD i 0)
      | none => true) &&
    (rd o || subM eff (ms.getD i 0)) &&
    stGo rd ops ms l (i + 1) (match o.dst with | some d => D.set d (some (2 ^ i)) | none => D) (addL i (o.looksAt ops) L) (if rd o then eff else eff ||| 2 ^ i)

/-- What a pair of places, the first one ahead, has to keep. -/
structure PairOk (rd : Oper → Bool) (ops : Array Oper) (ms : List Nat) (k i : Nat) (x y : Oper) : Prop where
  dist : ∀ d, x.dst = some d → y.dst = some d → False
  looks : ∀ t, x.dst = some t → t ∈ y.looksAt ops → pr ms k i = true
  looked : ∀ t, y.dst = some t → t ∈ x.looksAt ops → pr ms k i = true
  eff : rd x = false → rd y = false → pr ms k i = true

theorem stGo_ok {rd : Oper → Bool} {ops : Array Oper} {ms : List Nat} : ∀ (l : List Oper) (i : Nat) (D L : T Nat) (eff : Nat), (∀ j, l[j]? = ops[i + j]?) → stGo rd ops ms l i D L eff = true →
    (∀ k x, k < i → ops[k]? = some x → (∀ d, x.dst = some d → (tb D d).testBit k = true) ∧ (∀ t, t ∈ x.looksAt ops → (tb L t).testBit k = true) ∧ (rd x = false → eff.testBit k = true)) →
    (∀ k j x y, k < j → i ≤ j → ops[k]? = some x → ops[j]? = some y → PairOk rd ops ms k j x y) ∧ ∀ j, i ≤ j → edgesLow ops j = true
  | [], i, D, L, eff, hl, h, hi => by
    have hn : ∀ j, i ≤ j → ops[j]? = none := fun j hj => by
      have := hl (j - i)
      rw [show i + (j - i) = j by omega] at this
      simpa using this.symm
    exact ⟨fun k j x y _ hj _ hy => by rw [hn j hj] at hy; simp at hy, fun j hj => by unfold edgesLow; rw [hn j hj]; rfl⟩
  | o :: l, i, D, L, eff, hl, h, hi => by
    have ho : ops[i]? = some o := by have := hl 0; simpa using this.symm
    unfold stGo at h
    simp only [Bool.and_eq_true] at h
    obtain ⟨⟨⟨⟨h1, h2⟩, h3⟩, h4⟩, h5⟩ := h
    rw [List.all_eq_true] at h2
    obtain ⟨r1, r2⟩ := stGo_ok l (i + 1) _ _ _ (fun j => by
      have := hl (j + 1)
      simp only [List.getElem?_cons_succ] at this
      rw [this, show i + (j + 1) = i + 1 + j by omega]) h5 (fun k x hk hx => by
      rcases Nat.lt_or_ge k i with hki | hki
      · obtain ⟨a1, a2, a3⟩ := hi k x hki hx
        refine ⟨fun d hd => ?_, fun t ht => addL_bit _ _ _ _ _ (.inl (a2 t ht)), fun hr => ?_⟩
        · have hb := a1 d hd
          cases hod : o.dst with
          | none => exact hb
          | some d' =>
            rw [hod] at h3
            simp only [Bool.and_eq_true, Nat.beq_eq] at h3
            simp only [tb_set]
            split
            · rename_i e
              subst e
              rw [h3.1] at hb
              simp at hb
            · exact hb
        · split
          · exact a3 hr
          · rw [Nat.testBit_or, a3 hr]; rfl
      · have hki : k = i := by omega
        subst hki
        rw [ho] at hx
        cases hx
        refine ⟨fun d hd => ?_, fun t ht => addL_bit _ _ _ _ _ (.inr ⟨rfl, ht⟩), fun hr => ?_⟩
        · rw [hd]
          simp only [tb_set, if_true]
          rw [Nat.testBit_two_pow]
          simp
        · rw [if_neg (by simp [hr]), Nat.testBit_or, Nat.testBit_two_pow]
          simp)
    refine ⟨fun k j x y hkj hj hx hy => ?_, fun j hj => ?_⟩
    · rcases Nat.lt_or_ge i j with hij | hij
      · exact r1 k j x y hkj (by omega) hx hy
      · have hji : j = i := by omega
        subst hji
        rw [ho] at hy
        cases hy
        obtain ⟨a1, a2, a3⟩ := hi k x hkj hx
        refine ⟨fun d hd hod => ?_, fun t ht hlt => subM_bit (h2 t hlt) (a1 t ht), fun t hod ht => ?_, fun hrx hro => ?_⟩
        · rw [hod] at h3
          simp only [Bool.and_eq_true, Nat.beq_eq] at h3
          have := a1 d hd
          rw [h3.1] at this
          simp at this
        · rw [hod] at h3
          simp only [Bool.and_eq_true] at h3
          exact subM_bit h3.2 (a2 t ht)
        · rw [hro] at h4
          simp only [Bool.false_or] at h4
          exact subM_bit h4 (a3 hrx)
    · rcases Nat.lt_or_ge i j with hij | hij
      · exact r2 j (by omega)
      · have hji : j = i := by omega
        subst hji
        unfold edgesLow
        rw [ho]
        exact h1
noncomputable def staticQ (rd : Oper → Bool) (ops : Array Oper) (ms : List Nat) : Bool := stGo rd ops ms ops.toList 0 .leaf .leaf 0
theorem staticQ_plan {rd : Oper → Bool} {ops : Array Oper} {ms : List Nat} (h : staticQ rd ops ms = true) :
    (∀ (i : Nat) (o : Oper), ops[i]? = some o → ∀ e ∈ o.after, Region.binds .any e = true → e.on < i) ∧ (∀ i k d, i < ops.size → k < ops.size → dstOf ops i = some d → dstOf ops k = some d → i = k) ∧
    (∀ (i : Nat) (o : Oper) (k : Nat) (t : Tmp), ops[i]? = some o → k < ops.size → dstOf ops k = some t → t ∈ o.looksAt ops → (k < i → pr ms k i = true) ∧ (i < k → pr ms i k = true)) ∧
    (∀ i k, i < ops.size → k < ops.size → rdAt rd ops i = false → rdAt rd ops k = false → k < i → pr ms k i = true) := by
  obtain ⟨h1, h2⟩ := stGo_ok ops.toList 0 .leaf .leaf 0 (fun j => by simp) h (fun k x hk => by omega)
  have hget : ∀ i, i < ops.size → ops[i]? = some (ops.getD i default) := fun i hi => by simp [hi]
  have hdst : ∀ i d, i < ops.size → dstOf ops i = some d → (ops.getD i default).dst = some d := fun i d hi hd => by
    unfold dstOf at hd
    rw [hget i hi] at hd
    simpa using hd
  refine ⟨fun i o ho e he hb => ?_, fun i k d hi hk hdi hdk => ?_, fun i o k t ho hk hkt ht => ?_, fun i k hi hk hri hrk hlt => ?_⟩
  · have := h2 i (Nat.zero_le _)
    unfold edgesLow at this
    rw [ho] at this
    simp only [Option.map_some, Option.getD_some, List.all_eq_true] at this
    have := this e (by simpa using he)
    simpa [hb] using this
  · rcases Nat.lt_trichotomy i k with hlt | heq | hgt
    · exact ((h1 i k _ _ hlt (Nat.zero_le _) (hget i hi) (hget k hk)).dist d (hdst i d hi hdi) (hdst k d hk hdk)).elim
    · exact heq
    · exact ((h1 k i _ _ hgt (Nat.zero_le _) (hget k hk) (hget i hi)).dist d (hdst k d hk hdk) (hdst i d hi hdi)).elim
  · exact ⟨fun hlt => (h1 k i _ _ hlt (Nat.zero_le _) (hget k hk) ho).looks t (hdst k t hk hkt) ht, fun hlt => (h1 i k _ _ hlt (Nat.zero_le _) ho (hget k hk)).looked t (hdst k t hk hkt) ht⟩
  · have hrd : ∀ i, i < ops.size → rdAt rd ops i = false → rd (ops.getD i default) = false := fun i hi hr => by
      unfold rdAt at hr
      rw [hget i hi] at hr
      simpa using hr
    exact (h1 k i _ _ hlt (Nat.zero_le _) (hget k hk) (hget i hi)).eff (hrd k hk hrk) (hrd i hi hri)

/-- The places of a text's operations of some kind, as bits. -/
def selM (p : Oper → Nat → Bool) : List Oper → Nat → Nat → Nat
  | [], _, s => s
  | o :: l, k, s => selM p l (k + 1) (if p o k then s ||| 2 ^ k else s)
theorem selM_bit {p : Oper → Nat → Bool} : ∀ (l : List Oper) (k s j : Nat), (selM p l k s).testBit j = true → s.testBit j = true ∨ ∃ o, k ≤ j ∧ l[j - k]? = some o ∧ p o j = true
  | [], _, _, _, h => .inl h
  | o :: l, k, s, j, h => by
    rcases selM_bit l (k + 1) _ j h with h1 | ⟨o', h1, h2, h3⟩
    · split at h1
      · rename_i hp
        simp only [Nat.testBit_or, Bool.or_eq_true, Nat.testBit_two_pow, decide_eq_true_eq] at h1
        rcases h1 with h1 | rfl
        · exact .inl h1
        · exact .inr ⟨o, Nat.le_refl _, by simp, hp⟩
      · exact .inl h1
    · refine .inr ⟨o', by omega, ?_, h3⟩
      rw [show j - k = (j - (k + 1)) + 1 by omega]
      simpa using h2
def compat (ops : Array Oper) (ms : List Nat) (c i : Nat) : Bool :=
  Nat.beq ((ms.getD i 0 &&& selM (fun o _ => !reader o) ops.toList 0 0) >>> c) 0 && Nat.beq (selM (fun o k => !reader o && pr ms i k) ops.toList 0 0 &&& (2 ^ c - 1)) 0
theorem compat_of {ops : Array Oper} {ms : List Nat} {c i : Nat} (h : ∀ k, k < ops.size → readerAt ops k = false → (pr ms k i = true → k < c) ∧ (pr ms i k = true → c ≤ k)) : compat ops ms c i = true := by
  have hsel : ∀ (p : Oper → Nat → Bool) j, (selM p ops.toList 0 0).testBit j = true → ∃ o, ops[j]? = some o ∧ p o j = true := by
    intro p j hj
    rcases selM_bit _ _ _ _ hj with h1 | ⟨o, _, h2, h3⟩
    · simp at h1
    · exact ⟨o, by simpa using h2, h3⟩
  have hrd : ∀ j o, ops[j]? = some o → reader o = false → j < ops.size ∧ readerAt ops j = false := fun j o ho hr => ⟨(Array.getElem?_eq_some_iff.1 ho).1, by unfold readerAt; rw [ho]; simpa using hr⟩
  unfold compat
  rw [Bool.and_eq_true]
  refine ⟨Nat.beq_eq ▸ ?_, Nat.beq_eq ▸ ?_⟩
  · refine Nat.eq_of_testBit_eq fun j => ?_
    rw [Nat.testBit_shiftRight, Nat.testBit_and, Nat.zero_testBit]
    cases h1 : (ms.getD i 0).testBit (c + j) with
    | false => rfl
    | true => cases h2 : (selM (fun o _ => !reader o) ops.toList 0 0).testBit (c + j) with
      | false => rfl
      | true =>
        obtain ⟨o, ho, hp⟩ := hsel _ _ h2
        obtain ⟨l1, l2⟩ := hrd _ o ho (by simpa using hp)
        have := (h _ l1 l2).1 h1
        omega
  · refine Nat.eq_of_testBit_eq fun j => ?_
    rw [Nat.testBit_and, Nat.testBit_two_pow_sub_one, Nat.zero_testBit]
    cases h2 : (selM (fun o k => !reader o && pr ms i k) ops.toList 0 0).testBit j with
    | false => rfl
    | true =>
      obtain ⟨o, ho, hp⟩ := hsel _ _ h2
      simp only [Bool.and_eq_true, Bool.not_eq_true'] at hp
      obtain ⟨l1, l2⟩ := hrd _ o ho hp.1
      have := (h _ l1 l2).2 hp.2
      simp only [Bool.true_and, decide_eq_false_iff_not]
      omega

/-! ### The run in the text's order -/
structure Ent where
  A : Fr
  H : Heap
  v : Value
  wt : Bool

section
variable (P) (ft : Nat → Option Func) (ih : Runner)
noncomputable def stepVal (o : Oper) (A : Fr) (H : Heap) : Option (Value × Heap) :=
  match aexec P ft A.get o H with
  | some (.value v, H') => some (v, H')
  | some (.skip, H') => some (undf, H')
  | some (.enter f args, H') => match ih (.fn f args) H' with
    | some (.val v, H'') => some (v, H'')
    | _ => none
  | none => none

noncomputable def lexRun (ops : Array Oper) : List Oper → Fr → Heap → Option (List Ent × Fr × Heap)
  | [], A, H => some ([], A, H)
  | o :: rest, A, H =>
    let wt := Region.wanted o (yieldA ops A)
    match (if lookOk ops A o then (if wt then stepVal P ft ih o A H else some (undf, H)) else none) with
    | some (v, H1) => match A.put o.dst v with
      | some A1 => match lexRun ops rest A1 H1 with
        | some (tr, A', H') => some (⟨A, H, v, wt⟩ :: tr, A', H')
        | none => none
      | none => none
    | none => none

noncomputable def dynOk (ops : Array Oper) (ms : List Nat) (tr : List Ent) (D : Ent) : Bool :=
  allN ops.size fun i => match ops[i]? with
    | some o => !reader o || !(tr.getD i D).wt || (pexec P (tr.getD i D).A.get o).isSome ||
        allN (ops.size + 1) fun c => !compat ops ms c i || (match rexec P ft (tr.getD i D).A.get o (tr.getD c D).H with
          | some v => veq v (tr.getD i D).v
          | none => false)
    | none => true

noncomputable def drawRun (ops : Array Oper) (A : Fr) (H : Heap) : Option (Fr × Heap) :=
  match lexRun P ft ih ops ops.toList A H with
  | some (tr, A', H') => if staticQ reader ops (masks ops.toList []) && dynOk P ft ops (masks ops.toList []) tr ⟨A', H', undf, false⟩ then some (A', H') else none
  | none => none
end

variable {ft : Nat → Option Func} {ih : Runner}

structure Tr (P : Program) [Orc P] (ft : Nat → Option Func) (ih : Runner) (ops : Array Oper) (l : List Oper) (FA : Nat → Fr) (FH : Nat → Heap) (val : Nat → Value) (wt : Nat → Bool) : Prop where
  wanted : ∀ i o, l[i]? = some o → wt i = Region.wanted o (yieldA ops (FA i))
  yes : ∀ i o, l[i]? = some o → wt i = true → stepVal P ft ih o (FA i) (FH i) = some (val i, FH (i + 1))
  no : ∀ i o, l[i]? = some o → wt i = false → val i = undf ∧ FH (i + 1) = FH i
  put : ∀ i o, l[i]? = some o → (FA i).put o.dst (val i) = some (FA (i + 1))
  look : ∀ i o, l[i]? = some o → lookOk ops (FA i) o = true

theorem lexRun_tr {ops : Array Oper} : ∀ (l : List Oper) (A : Fr) (H : Heap) (tr : List Ent) (A' : Fr) (H' : Heap), lexRun P ft ih ops l A H = some (tr, A', H') →
    tr.length = l.length ∧ (tr.getD 0 ⟨A', H', undf, false⟩).A = A ∧ (tr.getD 0 ⟨A', H', undf, false⟩).H = H ∧
    Tr P ft ih ops l (fun i => (tr.getD i ⟨A', H', undf, false⟩).A) (fun i => (tr.getD i ⟨A', H', undf, false⟩).H) (fun i => (tr.getD i ⟨A', H', undf, false⟩).v) (fun i => (tr.getD i ⟨A', H', undf, false⟩).wt)
  | [], A, H, tr, A', H', h => by
    simp only [lexRun, Option.some.injEq, Prod.mk.injEq] at h
    obtain ⟨rfl, rfl, rfl⟩ := h
    exact ⟨rfl, rfl, rfl, ⟨fun i o h => by simp at h, fun i o h => by simp at h, fun i o h => by simp at h, fun i o h => by simp at h, fun i o h => by simp at h⟩⟩
  | o :: l, A, H, tr, A', H', h => by
    simp only [lexRun] at h
    split at h
    · rename_i v H1 hv
      have hlk : lookOk ops A o = true := by
        by_cases hl : lookOk ops A o = true
        · exact hl
        · rw [if_neg hl] at hv; simp at hv
      rw [if_pos hlk] at hv
      split at h
      · rename_i A1 hA1
        split at h
        · rename_i tr1 A2 H2 hr
          simp only [Option.some.injEq, Prod.mk.injEq] at h
          obtain ⟨rfl, rfl, rfl⟩ := h
          obtain ⟨q1, q2, q3, q4⟩ := lexRun_tr l A1 H1 tr1 A2 H2 hr
          refine ⟨by simp [q1], rfl, rfl, ⟨fun i o' hi => ?_, fun i o' hi hw => ?_, fun i o' hi hw => ?_, fun i o' hi => ?_, fun i o' hi => ?_⟩⟩
          · cases i with
            | zero => simp at hi; subst hi; rfl
            | succ i => exact q4.wanted i o' (by simpa using hi)
          · cases i with
            | zero =>
              simp at hi
              subst hi
              have hw' : Region.wanted o (yieldA ops A) = true := hw
              rw [if_pos hw'] at hv
              show stepVal P ft ih o A H = some (v, _)
              rw [hv]
              have : (tr1.getD 0 ⟨A2, H2, undf, false⟩).H = H1 := q3
              simp only [Option.some.injEq, Prod.mk.injEq, true_and]
              exact this.symm
            | succ i => exact q4.yes i o' (by simpa using hi) hw
          · cases i with
            | zero =>
              simp at hi
              subst hi
              have hw' : Region.wanted o (yieldA ops A) = false := hw
              rw [if_neg (by simp [hw'])] at hv
              simp only [Option.some.injEq, Prod.mk.injEq] at hv
              refine ⟨hv.1.symm, ?_⟩
              show (tr1.getD 0 ⟨A2, H2, undf, false⟩).H = H
              rw [q3]; exact hv.2.symm
            | succ i => exact q4.no i o' (by simpa using hi) hw
          · cases i with
            | zero =>
              simp at hi
              subst hi
              show A.put o.dst v = some (tr1.getD 0 ⟨A2, H2, undf, false⟩).A
              rw [q2]; exact hA1
            | succ i => exact q4.put i o' (by simpa using hi)
          · cases i with
            | zero => simp at hi; subst hi; exact hlk
            | succ i => exact q4.look i o' (by simpa using hi)
        · simp at h
      · simp at h
    · simp at h

/-! ### What a frame holds, when some have come up -/
noncomputable def cur (ops : Array Oper) (A : Fr) (val : Nat → Value) (L : Nat → Bool) (t : Tmp) : Value :=
  match (List.range ops.size).find? (fun k => decide (dstOf ops k = some t) && L k) with
  | some k => val k
  | none => A.get t

def Distinct (ops : Array Oper) : Prop := ∀ i k d, i < ops.size → k < ops.size → dstOf ops i = some d → dstOf ops k = some d → i = k

theorem cur_of {ops : Array Oper} (hd : Distinct ops) {A : Fr} {val : Nat → Value} {L : Nat → Bool} {t : Tmp} {k : Nat} (hk : k < ops.size) (ht : dstOf ops k = some t) :
    cur ops A val L t = if L k then val k else A.get t := by
  unfold cur
  cases hf : (List.range ops.size).find? (fun k => decide (dstOf ops k = some t) && L k) with
  | none =>
    rw [List.find?_eq_none] at hf
    have := hf k (List.mem_range.2 hk)
    simp [ht] at this
    simp [this]
  | some j =>
    have h1 := List.find?_some hf
    have h2 := List.mem_of_find?_eq_some hf
    simp only [Bool.and_eq_true, decide_eq_true_eq] at h1
    have : j = k := hd j k t (List.mem_range.1 h2) hk h1.1 ht
    subst this
    simp [h1.2]

theorem cur_none {ops : Array Oper} {A : Fr} {val : Nat → Value} {L : Nat → Bool} {t : Tmp} (h : ∀ k, k < ops.size → dstOf ops k ≠ some t) : cur ops A val L t = A.get t := by
  unfold cur
  cases hf : (List.range ops.size).find? (fun k => decide (dstOf ops k = some t) && L k) with
  | none => rfl
  | some j =>
    have h1 := List.find?_some hf
    have h2 := List.mem_of_find?_eq_some hf
    simp only [Bool.and_eq_true, decide_eq_true_eq] at h1
    exact absurd h1.1 (h j (List.mem_range.1 h2))

theorem dst_cases (ops : Array Oper) (t : Tmp) : (∃ k, k < ops.size ∧ dstOf ops k = some t) ∨ ∀ k, k < ops.size → dstOf ops k ≠ some t := by
  by_cases h : ∃ k, k < ops.size ∧ dstOf ops k = some t
  · exact .inl h
  · exact .inr fun k hk e => h ⟨k, hk, e⟩

theorem put_get {A A' : Fr} {d : Option Tmp} {v : Value} (h : A.put d v = some A') : A'.size = A.size ∧ A'.opn = A.opn ∧ ∀ t, A'.get t = if d = some t then v else A.get t := by
  cases d with
  | none => simp only [Fr.put_none, Option.some.injEq] at h; subst h; exact ⟨rfl, rfl, fun t => by simp⟩
  | some d =>
    simp only [Fr.put_some] at h
    split at h
    · simp only [Option.some.injEq] at h
      subst h
      refine ⟨rfl, rfl, fun t => ?_⟩
      show ((A.m.set d (some v)).get t).getD undf = _
      rw [T.get_set]
      by_cases ht : t = d
      · subst ht; simp
      · rw [if_neg ht, if_neg (by simpa using fun e => ht e.symm)]; rfl
    · simp at h

theorem lexFrame {ops : Array Oper} (hd : Distinct ops) {FA : Nat → Fr} {FH : Nat → Heap} {val : Nat → Value} {wt : Nat → Bool} (ht : Tr P ft ih ops ops.toList FA FH val wt) :
    ∀ i, i ≤ ops.size → (FA i).size = (FA 0).size ∧ (FA i).opn = (FA 0).opn ∧ ∀ t, (FA i).get t = cur ops (FA 0) val (fun k => decide (k < i)) t
  | 0, _ => ⟨rfl, rfl, fun t => by
      rcases dst_cases ops t with ⟨k, hk, hkt⟩ | h
      · rw [cur_of hd hk hkt]; simp
      · rw [cur_none h]⟩
  | i + 1, hi => by
    obtain ⟨s1, p1, g1⟩ := lexFrame hd ht i (by omega)
    have ho : ops.toList[i]? = some ops[i] := by simp
    obtain ⟨s2, p2, g2⟩ := put_get (ht.put i _ ho)
    refine ⟨s2.trans s1, p2.trans p1, fun t => ?_⟩
    rw [g2, g1]
    have hdi : dstOf ops i = (ops[i]).dst := by simp [dstOf, show i < ops.size by omega]
    rcases dst_cases ops t with ⟨k, hk, hkt⟩ | h
    · rw [cur_of hd hk hkt, cur_of hd hk hkt]
      by_cases hik : i = k
      · subst hik
        rw [if_pos (by rw [← hdi]; exact hkt)]
        simp
      · rw [if_neg (fun e => hik (hd i k t (by omega) hk (by rw [hdi]; exact e) hkt))]
        by_cases hlt : k < i
        · simp [hlt, show k < i + 1 by omega]
        · simp [hlt, show ¬ k < i + 1 by omega]
    · rw [if_neg (by rw [← hdi]; exact h i (by omega)), cur_none h, cur_none h]

end Go.Ev
