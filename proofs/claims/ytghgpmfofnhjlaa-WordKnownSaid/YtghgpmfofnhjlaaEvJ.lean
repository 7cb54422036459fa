/-
  The evaluator: the theorem on regions that draw their order. Conditions: EnvOk.
-/
import Derived.Test.YtghgpmfofnhjlaaEvI
namespace Go.Ev
variable {P : Program}

/-! ### Who waits for whom -/
def maskOf (acc : List Nat) (o : Oper) : Nat := o.after.toList.foldl (fun s e => if Region.binds .any e then s ||| 2 ^ e.on ||| acc.getD e.on 0 else s) 0
def masks : List Oper → List Nat → List Nat
  | [], acc => acc
  | o :: l, acc => masks l (acc ++ [maskOf acc o])
def pr (ms : List Nat) (k i : Nat) : Bool := (ms.getD i 0).testBit k

def Just (L : List Oper) (ms : List Nat) : Prop :=
  ∀ i k, pr ms k i = true → ∃ o e, L[i]? = some o ∧ e ∈ o.after.toList ∧ Region.binds .any e = true ∧ (e.on = k ∨ (e.on < i ∧ pr ms k e.on = true))

theorem foldMask (acc : List Nat) (k : Nat) : ∀ (l : List Edge) (s : Nat), (l.foldl (fun s e => if Region.binds .any e then s ||| 2 ^ e.on ||| acc.getD e.on 0 else s) s).testBit k = true →
    s.testBit k = true ∨ ∃ e ∈ l, Region.binds .any e = true ∧ (e.on = k ∨ (acc.getD e.on 0).testBit k = true)
  | [], s, h => .inl h
  | e :: l, s, h => by
    simp only [List.foldl_cons] at h
    rcases foldMask acc k l _ h with h1 | ⟨e', he', h2⟩
    · split at h1
      · rename_i hb
        simp only [Nat.testBit_or, Bool.or_eq_true] at h1
        rcases h1 with (h1 | h1) | h1
        · exact .inl h1
        · refine .inr ⟨e, by simp, hb, .inl ?_⟩
          rw [Nat.testBit_two_pow] at h1
          simpa using h1
        · exact .inr ⟨e, by simp, hb, .inr h1⟩
      · exact .inl h1
    · exact .inr ⟨e', by simp [he'], h2⟩

theorem getD_append_lt {l : List Nat} {x : Nat} {i : Nat} (h : i < l.length) : (l ++ [x]).getD i 0 = l.getD i 0 := by
  simp [List.getD_eq_getElem?_getD, List.getElem?_append_left h]

theorem masks_just (L : List Oper) : ∀ (l : List Oper) (acc : List Nat), (∀ j, l[j]? = L[acc.length + j]?) → Just L acc → Just L (masks l acc)
  | [], acc, _, h => h
  | o :: l, acc, hl, h => by
    refine masks_just L l (acc ++ [maskOf acc o]) (fun j => ?_) fun i k hik => ?_
    · have := hl (j + 1)
      simp only [List.getElem?_cons_succ] at this
      rw [this]
      simp [Nat.add_assoc, Nat.add_comm 1 j]
    · have h0 : L[acc.length]? = some o := by have := hl 0; simpa using this.symm
      unfold pr at hik
      rcases Nat.lt_trichotomy i acc.length with hlt | heq | hgt
      · rw [getD_append_lt hlt] at hik
        obtain ⟨o', e, h1, h2, h3, h4⟩ := h i k hik
        refine ⟨o', e, h1, h2, h3, h4.imp id fun ⟨h5, h6⟩ => ⟨h5, ?_⟩⟩
        unfold pr
        rw [getD_append_lt (by omega)]
        exact h6
      · subst heq
        have e1 : (acc ++ [maskOf acc o]).getD acc.length 0 = maskOf acc o := by simp [List.getD_eq_getElem?_getD]
        rw [e1] at hik
        rcases foldMask acc k _ _ hik with hz | ⟨e, he, hb, hor⟩
        · simp at hz
        · refine ⟨o, e, h0, he, hb, hor.imp id fun h5 => ?_⟩
          have hlt : e.on < acc.length := by
            rcases Nat.lt_or_ge e.on acc.length with h' | h'
            · exact h'
            · rw [List.getD_eq_getElem?_getD, List.getElem?_eq_none h'] at h5
              simp at h5
          refine ⟨hlt, ?_⟩
          unfold pr
          rw [getD_append_lt hlt]
          exact h5
      · have e1 : (acc ++ [maskOf acc o]).getD i 0 = 0 := by
          rw [List.getD_eq_getElem?_getD, List.getElem?_eq_none (by simp; omega)]; rfl
        rw [e1] at hik
        simp at hik

/-! ### The look at the region's text -/
def allN (n : Nat) (f : Nat → Bool) : Bool := (List.range n).all f
theorem allN_ok {n : Nat} {f : Nat → Bool} (h : allN n f = true) (i : Nat) (hi : i < n) : f i = true := by
  unfold allN at h
  rw [List.all_eq_true] at h
  exact h i (List.mem_range.2 hi)

def dstOf (ops : Array Oper) (k : Nat) : Option Tmp := (ops[k]?).bind (·.dst)
def readerAt (ops : Array Oper) (k : Nat) : Bool := ((ops[k]?).map reader).getD true
def edgesLow (ops : Array Oper) (i : Nat) : Bool := ((ops[i]?).map fun o => o.after.toList.all fun e => !Region.binds .any e || decide (e.on < i)).getD true
def dataOk (ops : Array Oper) (ms : List Nat) (i k : Nat) : Bool :=
  match ops[i]?, dstOf ops k with
  | some o, some t => !(o.looksAt ops).contains t || ((!decide (k < i) || pr ms k i) && (!decide (i < k) || pr ms i k))
  | _, _ => true
def staticOk (ops : Array Oper) (ms : List Nat) : Bool :=
  allN ops.size fun i => edgesLow ops i && allN ops.size fun k =>
    (decide (i = k) || (dstOf ops i).isNone || decide (dstOf ops i ≠ dstOf ops k)) && dataOk ops ms i k && (readerAt ops i || readerAt ops k || !decide (k < i) || pr ms k i)

def compat (ops : Array Oper) (ms : List Nat) (c i : Nat) : Bool :=
  allN ops.size fun k => readerAt ops k || ((!pr ms k i || decide (k < c)) && (!pr ms i k || decide (c ≤ k)))

/-! ### The run in the text's order -/
structure Ent where
  A : Fr
  H : Heap
  v : Value
  wt : Bool

section
variable (P) (ft : Nat → Option Func) (ih : Runner)
noncomputable def stepVal (o : Oper) (A : Fr) (H : Heap) : Option (Value × Heap) :=
  match aexec P ft A.get o H with
  | some (.value v, H') => some (v, H')
  | some (.skip, H') => some (undf, H')
  | some (.enter f args, H') => match ih (.fn f args) H' with
    | some (.val v, H'') => some (v, H'')
    | _ => none
  | none => none

noncomputable def lexRun (ops : Array Oper) : List Oper → Fr → Heap → Option (List Ent × Fr × Heap)
  | [], A, H => some ([], A, H)
  | o :: rest, A, H =>
    let wt := Region.wanted o (yieldA ops A)
    match (if wt then stepVal P ft ih o A H else some (undf, H)) with
    | some (v, H1) => match A.put o.dst v with
      | some A1 => match lexRun ops rest A1 H1 with
        | some (tr, A', H') => some (⟨A, H, v, wt⟩ :: tr, A', H')
        | none => none
      | none => none
    | none => none

noncomputable def dynOk (ops : Array Oper) (ms : List Nat) (tr : List Ent) (D : Ent) : Bool :=
  allN ops.size fun i => match ops[i]? with
    | some o => !reader o || !(tr.getD i D).wt || (pexec P (tr.getD i D).A.get o).isSome ||
        allN (ops.size + 1) fun c => !compat ops ms c i || (match rexec P ft (tr.getD i D).A.get o (tr.getD c D).H with
          | some v => veq v (tr.getD i D).v
          | none => false)
    | none => true

noncomputable def drawRun (ops : Array Oper) (A : Fr) (H : Heap) : Option (Fr × Heap) :=
  match lexRun P ft ih ops ops.toList A H with
  | some (tr, A', H') => if staticOk ops (masks ops.toList []) && dynOk P ft ops (masks ops.toList []) tr ⟨A', H', undf, false⟩ then some (A', H') else none
  | none => none
end

variable {ft : Nat → Option Func} {ih : Runner}

structure Tr (P : Program) (ft : Nat → Option Func) (ih : Runner) (ops : Array Oper) (l : List Oper) (FA : Nat → Fr) (FH : Nat → Heap) (val : Nat → Value) (wt : Nat → Bool) : Prop where
  wanted : ∀ i o, l[i]? = some o → wt i = Region.wanted o (yieldA ops (FA i))
  yes : ∀ i o, l[i]? = some o → wt i = true → stepVal P ft ih o (FA i) (FH i) = some (val i, FH (i + 1))
  no : ∀ i o, l[i]? = some o → wt i = false → val i = undf ∧ FH (i + 1) = FH i
  put : ∀ i o, l[i]? = some o → (FA i).put o.dst (val i) = some (FA (i + 1))

theorem lexRun_tr {ops : Array Oper} : ∀ (l : List Oper) (A : Fr) (H : Heap) (tr : List Ent) (A' : Fr) (H' : Heap), lexRun P ft ih ops l A H = some (tr, A', H') →
    tr.length = l.length ∧ (tr.getD 0 ⟨A', H', undf, false⟩).A = A ∧ (tr.getD 0 ⟨A', H', undf, false⟩).H = H ∧
    Tr P ft ih ops l (fun i => (tr.getD i ⟨A', H', undf, false⟩).A) (fun i => (tr.getD i ⟨A', H', undf, false⟩).H) (fun i => (tr.getD i ⟨A', H', undf, false⟩).v) (fun i => (tr.getD i ⟨A', H', undf, false⟩).wt)
  | [], A, H, tr, A', H', h => by
    simp only [lexRun, Option.some.injEq, Prod.mk.injEq] at h
    obtain ⟨rfl, rfl, rfl⟩ := h
    exact ⟨rfl, rfl, rfl, ⟨fun i o h => by simp at h, fun i o h => by simp at h, fun i o h => by simp at h, fun i o h => by simp at h⟩⟩
  | o :: l, A, H, tr, A', H', h => by
    simp only [lexRun] at h
    split at h
    · rename_i v H1 hv
      split at h
      · rename_i A1 hA1
        split at h
        · rename_i tr1 A2 H2 hr
          simp only [Option.some.injEq, Prod.mk.injEq] at h
          obtain ⟨rfl, rfl, rfl⟩ := h
          obtain ⟨q1, q2, q3, q4⟩ := lexRun_tr l A1 H1 tr1 A2 H2 hr
          refine ⟨by simp [q1], rfl, rfl, ⟨fun i o' hi => ?_, fun i o' hi hw => ?_, fun i o' hi hw => ?_, fun i o' hi => ?_⟩⟩
          · cases i with
            | zero => simp at hi; subst hi; rfl
            | succ i => exact q4.wanted i o' (by simpa using hi)
          · cases i with
            | zero =>
              simp at hi
              subst hi
              have hw' : Region.wanted o (yieldA ops A) = true := hw
              rw [if_pos hw'] at hv
              show stepVal P ft ih o A H = some (v, _)
              rw [hv]
              have : (tr1.getD 0 ⟨A2, H2, undf, false⟩).H = H1 := q3
              simp only [Option.some.injEq, Prod.mk.injEq, true_and]
              exact this.symm
            | succ i => exact q4.yes i o' (by simpa using hi) hw
          · cases i with
            | zero =>
              simp at hi
              subst hi
              have hw' : Region.wanted o (yieldA ops A) = false := hw
              rw [if_neg (by simp [hw'])] at hv
              simp only [Option.some.injEq, Prod.mk.injEq] at hv
              refine ⟨hv.1.symm, ?_⟩
              show (tr1.getD 0 ⟨A2, H2, undf, false⟩).H = H
              rw [q3]; exact hv.2.symm
            | succ i => exact q4.no i o' (by simpa using hi) hw
          · cases i with
            | zero =>
              simp at hi
              subst hi
              show A.put o.dst v = some (tr1.getD 0 ⟨A2, H2, undf, false⟩).A
              rw [q2]; exact hA1
            | succ i => exact q4.put i o' (by simpa using hi)
        · simp at h
      · simp at h
    · simp at h

/-! ### What a frame holds, when some have come up -/
noncomputable def cur (ops : Array Oper) (A : Fr) (val : Nat → Value) (L : Nat → Bool) (t : Tmp) : Value :=
  match (List.range ops.size).find? (fun k => decide (dstOf ops k = some t) && L k) with
  | some k => val k
  | none => A.get t

def Distinct (ops : Array Oper) : Prop := ∀ i k d, i < ops.size → k < ops.size → dstOf ops i = some d → dstOf ops k = some d → i = k

theorem cur_of {ops : Array Oper} (hd : Distinct ops) {A : Fr} {val : Nat → Value} {L : Nat → Bool} {t : Tmp} {k : Nat} (hk : k < ops.size) (ht : dstOf ops k = some t) :
    cur ops A val L t = if L k then val k else A.get t := by
  unfold cur
  cases hf : (List.range ops.size).find? (fun k => decide (dstOf ops k = some t) && L k) with
  | none =>
    rw [List.find?_eq_none] at hf
    have := hf k (List.mem_range.2 hk)
    simp [ht] at this
    simp [this]
  | some j =>
    have h1 := List.find?_some hf
    have h2 := List.mem_of_find?_eq_some hf
    simp only [Bool.and_eq_true, decide_eq_true_eq] at h1
    have : j = k := hd j k t (List.mem_range.1 h2) hk h1.1 ht
    subst this
    simp [h1.2]

theorem cur_none {ops : Array Oper} {A : Fr} {val : Nat → Value} {L : Nat → Bool} {t : Tmp} (h : ∀ k, k < ops.size → dstOf ops k ≠ some t) : cur ops A val L t = A.get t := by
  unfold cur
  cases hf : (List.range ops.size).find? (fun k => decide (dstOf ops k = some t) && L k) with
  | none => rfl
  | some j =>
    have h1 := List.find?_some hf
    have h2 := List.mem_of_find?_eq_some hf
    simp only [Bool.and_eq_true, decide_eq_true_eq] at h1
    exact absurd h1.1 (h j (List.mem_range.1 h2))

theorem dst_cases (ops : Array Oper) (t : Tmp) : (∃ k, k < ops.size ∧ dstOf ops k = some t) ∨ ∀ k, k < ops.size → dstOf ops k ≠ some t := by
  by_cases h : ∃ k, k < ops.size ∧ dstOf ops k = some t
  · exact .inl h
  · exact .inr fun k hk e => h ⟨k, hk, e⟩

theorem put_get {A A' : Fr} {d : Option Tmp} {v : Value} (h : A.put d v = some A') : A'.size = A.size ∧ ∀ t, A'.get t = if d = some t then v else A.get t := by
  cases d with
  | none => simp only [Fr.put, Option.some.injEq] at h; subst h; exact ⟨rfl, fun t => by simp⟩
  | some d =>
    simp only [Fr.put] at h
    split at h
    · simp only [Option.some.injEq] at h
      subst h
      refine ⟨rfl, fun t => ?_⟩
      show ((A.m.set d (some v)).get t).getD undf = _
      rw [T.get_set]
      by_cases ht : t = d
      · subst ht; simp
      · rw [if_neg ht, if_neg (by simpa using fun e => ht e.symm)]; rfl
    · simp at h

theorem lexFrame {ops : Array Oper} (hd : Distinct ops) {FA : Nat → Fr} {FH : Nat → Heap} {val : Nat → Value} {wt : Nat → Bool} (ht : Tr P ft ih ops ops.toList FA FH val wt) :
    ∀ i, i ≤ ops.size → (FA i).size = (FA 0).size ∧ ∀ t, (FA i).get t = cur ops (FA 0) val (fun k => decide (k < i)) t
  | 0, _ => ⟨rfl, fun t => by
      rcases dst_cases ops t with ⟨k, hk, hkt⟩ | h
      · rw [cur_of hd hk hkt]; simp
      · rw [cur_none h]⟩
  | i + 1, hi => by
    obtain ⟨s1, g1⟩ := lexFrame hd ht i (by omega)
    have ho : ops.toList[i]? = some ops[i] := by simp
    obtain ⟨s2, g2⟩ := put_get (ht.put i _ ho)
    refine ⟨s2.trans s1, fun t => ?_⟩
    rw [g2, g1]
    have hdi : dstOf ops i = (ops[i]).dst := by simp [dstOf, show i < ops.size by omega]
    rcases dst_cases ops t with ⟨k, hk, hkt⟩ | h
    · rw [cur_of hd hk hkt, cur_of hd hk hkt]
      by_cases hik : i = k
      · subst hik
        rw [if_pos (by rw [← hdi]; exact hkt)]
        simp
      · rw [if_neg (fun e => hik (hd i k t (by omega) hk (by rw [hdi]; exact e) hkt))]
        by_cases hlt : k < i
        · simp [hlt, show k < i + 1 by omega]
        · simp [hlt, show ¬ k < i + 1 by omega]
    · rw [if_neg (by rw [← hdi]; exact h i (by omega)), cur_none h, cur_none h]

end Go.Ev
