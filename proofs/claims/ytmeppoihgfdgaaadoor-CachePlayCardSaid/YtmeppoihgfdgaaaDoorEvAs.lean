/-
  The evaluator: rows of numbers whose length is not known: loads, stores, make, append. Conditions: AlOk.
-/
import Derived.Test.YtmeppoihgfdgaaaDoorEvAr
namespace Go.Ev
open Go.RowKit
variable {P : Program} {S : Sy} {G : Nat → Option Obj} {al : List (Nat × Value)} {ι : Inj}

theorem condS {b : Bool} {α : Type} {y : Option α} {v : α} (h : cond b y none = some v) : b = true ∧ y = some v := by
  cases b with
  | true => exact ⟨rfl, h⟩
  | false => simp at h
/-! ### An array's number -/
noncomputable def eqC (al : List (Nat × Value)) (a b : Nat) : Option Bool := match litI a, litI b with
  | some m, some n => some (eqI m n)
  | _, _ => cond (Nat.ble (sz b) 65535) (match fin al (mk 27 (kI .i64) a b) false with
    | some (.bool r) => some r
    | _ => none) none
theorem look_bool (ha : AlOk S al) {c : Nat} {b : Bool} (h : fin al c false = some (.bool b)) : ev S c = some [b2i b] := by
  unfold fin at h
  cases hl : look al c with
  | none => rw [hl] at h; simp [miss] at h
  | some v =>
    rw [hl] at h
    simp only [Option.some.injEq] at h
    subst h
    exact (look_ok ha hl).2
theorem eqC_ok (ha : AlOk S al) {a b : Nat} {m n : Int} {r : Bool} (h : eqC al a b = some r) (hm : ev S a = some [m]) (hn : ev S b = some [n]) : r = decide (m = n) := by
  unfold eqC at h
  split at h
  · rename_i x y hx hy
    have e1 := litI_ok (S := S) hx
    have e2 := litI_ok (S := S) hy
    rw [hm] at e1; rw [hn] at e2
    simp only [Option.some.injEq, List.cons.injEq, and_true] at e1 e2
    subst e1 e2
    simp only [Option.some.injEq] at h
    letI := noSyms fun _ => none
    rw [← h, eqI_eq, Bool.eq_iff_iff]
    simp
  · obtain ⟨hs, h⟩ := condS h
    have hs := Nat.le_of_ble_eq_true hs
    split at h
    · rename_i b' hb
      simp only [Option.some.injEq] at h
      subst h
      have e := look_bool ha hb
      rw [ev_mk S (kI_lt _) (by decide) (by decide) (by decide) (by omega), hm, hn] at e
      have e' : numV (vBin .eql .i64 m n) = some [b2i b'] := e
      simp only [vBin, numV, Option.some.injEq, List.cons.injEq, and_true] at e'
      have := congrArg (fun x : Int => decide (x ≠ 0)) e'
      simp only [b2i_ne] at this
      exact this.symm
    · simp at h
/-- A value of a kind by its code. -/
noncomputable def valK (al : List (Nat × Value)) (k : Option IntKind) (c : Nat) : Option Value := cond (codeK k c) (match litI c with
  | some n => (match k with
    | some k => some (.int k n)
    | none => none)
  | none => cond (Nat.beq (cT c) 15) (some (.bool (!Nat.beq (cN c) 0))) (fin al c true)) none
theorem valK_ok (ha : AlOk S al) {k : Option IntKind} {c : Nat} {v : Value} {n : Int} (h : valK al k c = some v) (hn : ev S c = some [n]) : @VRel (symS S G) ι v (kV k n) := by
  unfold valK at h
  obtain ⟨hi, h⟩ := condS h
  split at h
  · rename_i m hm
    have e := litI_ok (S := S) hm
    rw [hn] at e
    simp only [Option.some.injEq, List.cons.injEq, and_true] at e
    subst e
    cases k with
    | some k =>
      simp only [Option.some.injEq] at h
      subst h
      letI := symS S G
      exact .int _ _
    | none => simp at h
  · cases h15 : Nat.beq (cT c) 15 with
    | true =>
      rw [h15, cond_true] at h
      simp only [Option.some.injEq] at h
      subst h
      have h15 := Nat.eq_of_beq_eq_true h15
      have e : ev S c = some [b2i (decide (cN c ≠ 0))] := by rw [ev, if_neg (by omega), if_neg (by omega), if_neg (by omega), if_pos h15]
      rw [hn] at e
      simp only [Option.some.injEq, List.cons.injEq, and_true] at e
      subst e
      rw [← codeK_val hi]
      have hb : isBc c = true := by unfold isBc; rw [h15]; rfl
      unfold mkV
      rw [hb, cond_true, b2i_ne]
      have : (!Nat.beq (cN c) 0) = decide (cN c ≠ 0) := by
        cases hb : Nat.beq (cN c) 0 with
        | true => have := Nat.eq_of_beq_eq_true hb; simp [this]
        | false =>
          have : cN c ≠ 0 := fun e => by rw [e] at hb; simp at hb
          simp [this]
      rw [this]
      letI := symS S G
      exact .bool _
    | false =>
      rw [h15, cond_false] at h
      have := fin_num (G := G) (ι := ι) ha h hn
      rwa [codeK_val hi] at this
noncomputable def selA (al : List (Nat × Value)) (i : Nat) (k : Option IntKind) : ACode → Option Value
  | .var f => leafS al i f k
  | .zero => (match k with
    | some k => some (.int k 0)
    | none => some (.bool false))
  | .upd a j v => cond (Nat.beq i j) (valK al k v) (match eqC al i j with
    | some true => valK al k v
    | some false => selA al i k a
    | none => none)
  | .cat a n _ => cond (ltC al i n) (selA al i k a) none
theorem selA_ok (ha : AlOk S al) {i : Nat} (hs : sz (mk 7 0 i (mk 6 0 0 0)) < 65536) {k : Option IntKind} {n : Int} (hn : ev S i = some [n]) : ∀ (a : ACode) (v : Value) (x : Int), selA al i k a = some v → aden S a n = some x → @VRel (symS S G) ι v (kV k x)
  | .var f, v, x, h, hx => by
    simp only [aden, Option.some.injEq] at hx
    subst hx
    exact leafS_ok (G := G) (ι := ι) ha hs (k := k) h hn
  | .zero, v, x, h, hx => by
    simp only [aden, Option.some.injEq] at hx
    subst hx
    cases k with
    | some k =>
      simp only [selA, Option.some.injEq] at h
      subst h
      letI := symS S G
      exact .int _ _
    | none =>
      simp only [selA, Option.some.injEq] at h
      subst h
      letI := symS S G
      exact .bool _
  | .upd a j u, v, x, h, hx => by
    simp only [aden] at hx
    split at hx
    · rename_i j' u' hj hu
      simp only [selA] at h
      cases hb : Nat.beq i j with
      | true =>
        rw [hb, cond_true] at h
        have hij := Nat.eq_of_beq_eq_true hb
        subst hij
        rw [hn] at hj
        simp only [Option.some.injEq, List.cons.injEq, and_true] at hj
        rw [if_pos hj] at hx
        simp only [Option.some.injEq] at hx
        subst hx
        exact valK_ok (G := G) (ι := ι) ha h hu
      | false =>
        rw [hb, cond_false] at h
        split at h
        · rename_i he
          have := eqC_ok ha he hn hj
          rw [if_pos (by simpa using this.symm)] at hx
          simp only [Option.some.injEq] at hx
          subst hx
          exact valK_ok (G := G) (ι := ι) ha h hu
        · rename_i he
          have := eqC_ok ha he hn hj
          rw [if_neg (by simpa using this.symm)] at hx
          exact selA_ok ha hs hn a v x h hx
        · simp at h
    · simp at hx
  | .cat a m b, v, x, h, hx => by
    simp only [selA] at h
    obtain ⟨hl, h⟩ := condS h
    simp only [aden] at hx
    split at hx
    · rename_i m' hm
      rw [if_pos (ltC_ok ha hl hn hm)] at hx
      exact selA_ok ha hs hn a v x h hx
    · simp at hx
noncomputable def selAs (al : List (Nat × Value)) (i : Nat) : List (Option IntKind × ACode) → Option (List Value)
  | [] => some []
  | p :: l => match selA al i p.1 p.2, selAs al i l with
    | some v, some vs => some (v :: vs)
    | _, _ => none
theorem selAs_ok (ha : AlOk S al) {i : Nat} (hs : sz (mk 7 0 i (mk 6 0 0 0)) < 65536) {n : Int} (hn : ev S i = some [n]) : ∀ (l : List (Option IntKind × ACode)) (vs : List Value), selAs al i l = some vs →
    vs.length = l.length ∧ ∀ m p, l[m]? = some p → ∀ x, aden S p.2 n = some x → @VRel (symS S G) ι (vs.getD m undf) (kV p.1 x)
  | [], vs, h => by
    simp only [selAs, Option.some.injEq] at h
    subst h
    exact ⟨rfl, fun m p hm => by simp at hm⟩
  | p :: l, vs, h => by
    simp only [selAs] at h
    split at h
    · rename_i v us h1 h2
      simp only [Option.some.injEq] at h
      subst h
      obtain ⟨q1, q2⟩ := selAs_ok ha hs hn l us h2
      refine ⟨by simp [q1], fun m p' hm x hx => ?_⟩
      cases m with
      | zero =>
        simp only [List.getElem?_cons_zero, Option.some.injEq] at hm
        subst hm
        simpa using selA_ok (G := G) (ι := ι) ha hs hn p.2 v x h1 hx
      | succ m =>
        simp only [List.getElem?_cons_succ] at hm
        simpa using q2 m p' hm x hx
    · simp at h

/-! ### Loads and stores -/
theorem acol_at {cs : List (Option IntKind × ACode)} {m : Nat} {p : Option IntKind × ACode} (hc : cs[m]? = some p) (n : Nat) : acol S cs (n * cs.length + m) = (match aden S p.2 (n : Int) with
    | some x => some (kV p.1 x)
    | none => none) := by
  have hm : m < cs.length := by
    rcases Nat.lt_or_ge m cs.length with h | h
    · exact h
    · rw [List.getElem?_eq_none h] at hc; simp at hc
  have e1 : (n * cs.length + m) % cs.length = m := by rw [Nat.mul_comm, Nat.mul_add_mod]; exact Nat.mod_eq_of_lt hm
  have e2 : (n * cs.length + m) / cs.length = n := by
    rw [Nat.mul_comm, Nat.mul_add_div (by omega), Nat.div_eq_of_lt hm]
    rfl
  unfold acol
  rw [e1, e2, hc]
  cases p
  rfl
theorem acol_some {cs : List (Option IntKind × ACode)} {m : Nat} {p : Option IntKind × ACode} (hc : cs[m]? = some p) {n : Nat} {v : Value} (h : acol S cs (n * cs.length + m) = some v) : ∃ x, aden S p.2 (n : Int) = some x ∧ v = kV p.1 x := by
  rw [acol_at hc] at h
  split at h
  · rename_i x hx
    simp only [Option.some.injEq] at h
    exact ⟨x, hx, h.symm⟩
  · simp at h
theorem rowBound {n N s m : Nat} (h : n < N) (hm : m < s) : n * s + m < N * s := by
  have := Nat.mul_le_mul_right s (show n + 1 ≤ N from h)
  rw [Nat.add_mul, Nat.one_mul] at this
  omega
/-- A place in a row that is there. -/
noncomputable def placeA (al : List (Nat × Value)) (x : Value) (H : Heap) : Option (Nat × Nat × ArrB × Nat) := match x with
  | .float .f32 c => cond (Nat.beq (cT c) 4 && Nat.ble (sz (mk 7 0 (cB c) (mk 6 0 0 0))) 65535 && geC al (cB c)) (match H.get (oB (cA c)) with
    | some (.arr r) => cond (ltC al (cB c) r.n && Nat.beq (oS (cA c)) r.cs.length && Nat.ble (oM (cA c) + 1) r.cs.length) (some (oB (cA c), cB c, r, oM (cA c))) none
    | _ => none) none
  | _ => none
theorem placeA_ok (ha : AlOk S al) {x x' : Value} {H : Heap} {b ci m : Nat} {r : ArrB} (h : placeA al x H = some (b, ci, r, m)) (hx : @VRel (symS S G) ι x x') {w : World} (hw : @Rel (symS S G) P ι H w) :
    ∃ n i cs N, ev S ci = some [n] ∧ 0 ≤ n ∧ ev S r.n = some [N] ∧ n < N ∧ sz (mk 7 0 ci (mk 6 0 0 0)) < 65536 ∧ H.get b = some (.arr r) ∧ ι b = some i ∧ m < r.cs.length ∧ x' = .pointer (some ⟨i.blk, i.off + (n.toNat * r.cs.length + m), none⟩) ∧ w.heap[i.blk]? = some (.cells cs r.elem (0, 0)) ∧
      i.esz = r.cs.length ∧ i.off + i.size + i.extra ≤ cs.size ∧ i.off + N.toNat * r.cs.length ≤ cs.size ∧ (∀ j : Nat, j < N.toNat * r.cs.length → ∃ v, acol S r.cs j = some v ∧ cs[i.off + j]? = some v) := by
  unfold placeA at h
  split at h
  · rename_i c
    obtain ⟨g, h⟩ := condS h
    simp only [Bool.and_eq_true] at g
    obtain ⟨⟨g1, g2⟩, g3⟩ := g
    have g1 := Nat.eq_of_beq_eq_true g1
    have g2 := Nat.le_of_ble_eq_true g2
    split at h
    · rename_i r' hr
      obtain ⟨g4, h⟩ := condS h
      simp only [Option.some.injEq, Prod.mk.injEq] at h
      obtain ⟨rfl, rfl, rfl, rfl⟩ := h
      simp only [Bool.and_eq_true] at g4
      obtain ⟨⟨g4, g5⟩, g6⟩ := g4
      have g5 := Nat.eq_of_beq_eq_true g5
      have g6 := Nat.le_of_ble_eq_true g6
      rcases ref_inv hx with ⟨_, ht⟩ | ⟨_, _, _, ht, _⟩ | ⟨n, i, _, e1, e2, rfl⟩
      · omega
      · omega
      · have h0 := geC_ok ha g3 e1
        letI := symS S G
        obtain ⟨j, o, q1, q2, q3⟩ := hw.live _ _ hr
        obtain rfl : i = j := by rw [e2] at q1; exact Option.some.inj q1
        obtain ⟨⟨q4, q4'⟩, cs, m, rfl, q5, q6, q6', q7⟩ := (show NRel i o r' from q3)
        have q5' : (match ev S r'.n with | some [n] => some n.toNat | _ => none) = some m := q5
        split at q5'
        · rename_i N hN
          simp only [Option.some.injEq] at q5'
          subst q5'
          have hlt := ltC_ok ha g4 e1 hN
          exact ⟨n, i, cs, N, e1, h0, hN, hlt, by omega, hr, e2, by omega, by rw [g5], q2, q4, q6, q6', q7⟩
        · simp at q5'
    · simp at h
  · simp at h
noncomputable def loadA (P : Program) (al : List (Nat × Value)) (t : TypeId) (x : Value) (H : Heap) : Option Value := match P.underlying t, placeA al x H with
  | some d, some (_, ci, r, m) => cond (isAggD d) (match P.info? t with
    | some inf => cond (Nat.ble (m + inf.size) r.cs.length) (match selAs al ci ((r.cs.drop m).take inf.size) with
      | some vs => some (.agg vs.toArray)
      | none => none) none
    | none => none) (match r.cs[m]? with
    | some p => selA al ci p.1 p.2
    | none => none)
  | _, _ => none
theorem loadA_ok (ha : AlOk S al) {t : TypeId} {x x' v : Value} {H : Heap} (h : loadA P al t x H = some v) (hx : @VRel (symS S G) ι x x') {w : World} (hw : @Rel (symS S G) P ι H w) :
    ∃ v', (Instr.loadAt t x').run P w = .ok v' w ∧ @VRel (symS S G) ι v v' := by
  unfold loadA at h
  split at h
  · rename_i d b ci r m hd hp
    obtain ⟨n, i, cs, N, e1, h0, e2, hlt, hsz, e3, e4, e5, rfl, e6, e7, e8, e9, e10⟩ := placeA_ok ha hp hx hw
    have hn : ((n.toNat : Nat) : Int) = n := by omega
    have run1 : ∀ v', (Go.loadVar t ⟨i.blk, i.off + (n.toNat * r.cs.length + m), none⟩).run P w = .ok v' w → (Instr.loadAt t (.pointer (some ⟨i.blk, i.off + (n.toNat * r.cs.length + m), none⟩))).run P w = .ok v' w := by
      intro v' hr
      unfold Instr.loadAt
      simp only [Instr.sureAddr, Sem.run_bind, Sem.run_pure, Result.andThen_ok]
      exact hr
    have hcell : ∀ k, m + k < r.cs.length → ∃ p y, r.cs[m + k]? = some p ∧ aden S p.2 n = some y ∧ cs[i.off + (n.toNat * r.cs.length + m) + k]? = some (kV p.1 y) := fun k hk => by
      obtain ⟨v, a1, a2⟩ := e10 (n.toNat * r.cs.length + (m + k)) (rowBound (by omega) hk)
      have hp : r.cs[m + k]? = some r.cs[m + k] := List.getElem?_eq_getElem hk
      obtain ⟨y, b1, rfl⟩ := acol_some hp a1
      rw [hn] at b1
      exact ⟨_, y, hp, b1, by rw [← a2]; congr 1; omega⟩
    cases hag : isAggD d with
    | false =>
      rw [hag, cond_false] at h
      split at h
      · rename_i p hpm
        obtain ⟨p', y, a1, a2, a3⟩ := hcell 0 (by omega)
        rw [Nat.add_zero] at a1 a3
        obtain rfl : p = p' := by rw [hpm] at a1; exact Option.some.inj a1
        refine ⟨kV p.1 y, run1 _ (run_loadVar1 hd hag ?_), selA_ok ha hsz e1 p.2 v y h a2⟩
        simp only [World.cell?, e6, Option.isSome_none, Bool.false_eq_true, if_false]
        exact a3
      · simp at h
    | true =>
      rw [hag, cond_true] at h
      split at h
      · rename_i inf hinf
        obtain ⟨w1, h⟩ := condS h
        have w1 := Nat.le_of_ble_eq_true w1
        split at h
        · rename_i vs hvs
          simp only [Option.some.injEq] at h
          subst h
          obtain ⟨r1, r2⟩ := selAs_ok (G := G) (ι := ι) ha hsz e1 _ _ hvs
          have hlen : vs.length = inf.size := by rw [r1]; simp; omega
          let l : List Value := (List.range inf.size).map fun k => cs.getD (i.off + (n.toNat * r.cs.length + m) + k) undf
          have hl : l.length = inf.size := by simp [l]
          have hlg : ∀ k, k < inf.size → ∃ p y, r.cs[m + k]? = some p ∧ aden S p.2 n = some y ∧ cs[i.off + (n.toNat * r.cs.length + m) + k]? = some (kV p.1 y) ∧ l.getD k undf = kV p.1 y := fun k hk => by
            obtain ⟨p, y, a1, a2, a3⟩ := hcell k (by omega)
            refine ⟨p, y, a1, a2, a3, ?_⟩
            simp [l, hk, a3]
          refine ⟨.agg l.toArray, run1 _ (run_loadVarA hd hag hinf hl fun k hk => ?_), ?_⟩
          · rw [hl] at hk
            obtain ⟨p, y, _, _, a3, a4⟩ := hlg k hk
            rw [a4, cell_add e6]
            exact a3
          · letI := symS S G
            refine ARel.agg ⟨by simp [hl, hlen], fun k hk => ?_⟩
            have hk' : k < inf.size := by simpa [hlen] using hk
            obtain ⟨p, y, a1, a2, _, a4⟩ := hlg k hk'
            have := r2 k p (by rw [List.getElem?_take, if_pos hk', List.getElem?_drop]; exact a1) y a2
            have e1 : vs.toArray.getD k undf = vs.getD k undf := by simp
            have e2 : l.toArray.getD k undf = l.getD k undf := by simp
            rw [e1, e2, a4]
            exact this
        · simp at h
      · simp at h
  · simp at h

theorem Rel.setArr {H : Heap} {w : World} (hw : @Rel (symS S G) P ι H w) {b : Nat} {r r' : ArrB} {i : Info} (hb : H.get b = some (.arr r)) (hi : ι b = some i) (hg : H.base ≤ b) {cs' : Array Value} {e : TypeId}
    {w' : World} (hheap : ∀ k, w'.heap[k]? = if k = i.blk then some (.cells cs' e (0, 0)) else w.heap[k]?) (hsize : w'.heap.size = w.heap.size) (hN : @NRel (symS S G) i (.cells cs' e (0, 0)) r') (hf : ∀ a, w'.frozen? a = w.frozen? a) (ht : w'.tape = w.tape) (hos : w'.os = w.os) (hou : w'.output = w.output) :
    Ext P ι w ι w' ∧ @Rel (symS S G) P ι (H.put b (.arr r')) w' := by
  letI := symS S G
  have hkg : P.globals.size ≤ b := by rw [← hw.gsize]; exact hg
  have key : ∀ k, k < w.heap.size → (∀ n i, ι n = some i → P.globals.size ≤ n → i.blk ≠ k) → w'.heap[k]? = w.heap[k]? := fun k _ hne => by
    rw [hheap, if_neg (fun e => hne _ _ hi hkg e.symm)]
  refine ⟨⟨Sub.refl ι, by rw [hsize]; exact Nat.le_refl _, fun n i h h' => .inl ⟨n, i, h, h', rfl⟩, key, hf, ht, hos, hou⟩, ?_⟩
  refine ⟨hw.keepG key, hw.gsize, hw.glob, hw.over, hw.next, by rw [hsize]; exact hw.room, hw.fresh, hw.hole, fun n k hk => by rw [hsize]; exact hw.below _ _ hk, fun n b' hn => ?_, fun n m b' d i' j' hn hm hi' hj' he => ?_⟩
  · simp only [Heap.get_put] at hn
    by_cases hna : n = b
    · subst hna
      rw [if_pos rfl] at hn
      simp only [Option.some.injEq] at hn
      subst hn
      exact ⟨i, _, hi, by rw [hheap, if_pos rfl], hN⟩
    · rw [if_neg hna] at hn
      obtain ⟨j, o, hj, ho', hr'⟩ := hw.live _ _ hn
      refine ⟨j, o, hj, ?_, hr'⟩
      rw [hheap, if_neg]
      · exact ho'
      · intro e
        exact hna (hw.inj _ _ _ _ _ _ hn hb hj hi e)
  · simp only [Heap.get_put] at hn hm
    have g1 : ∃ b, H.get n = some b := by
      by_cases hna : n = b
      · subst hna; exact ⟨_, hb⟩
      · rw [if_neg hna] at hn; exact ⟨_, hn⟩
    have g2 : ∃ b, H.get m = some b := by
      by_cases hna : m = b
      · subst hna; exact ⟨_, hb⟩
      · rw [if_neg hna] at hm; exact ⟨_, hm⟩
    obtain ⟨_, g1⟩ := g1
    obtain ⟨_, g2⟩ := g2
    exact hw.inj _ _ _ _ _ _ g1 g2 hi' hj' he
noncomputable def storeA (P : Program) (al : List (Nat × Value)) (t : TypeId) (x v : Value) (H : Heap) : Option Heap := match placeA al x H, P.info? t, vcode v with
  | some (b, ci, r, m), some i, some cv => match r.cs[m]? with
    | some p => cond (Nat.beq i.size 1 && codeK p.1 cv && Nat.ble H.base b) (some (H.put b (.arr { r with cs := r.cs.set m (p.1, .upd p.2 ci cv) }))) none
    | none => none
  | _, _, _ => none
theorem kV_one (k : Option IntKind) (y : Int) : (kV k y).cells = #[kV k y] ∧ (kV k y).oneCell' = true := by cases k <;> exact ⟨rfl, rfl⟩
theorem storeA_ok (ha : AlOk S al) {t : TypeId} {x x' v v' : Value} {H H' : Heap} (h : storeA P al t x v H = some H') (hx : @VRel (symS S G) ι x x') (hv : @VRel (symS S G) ι v v') {w : World} (hw : @Rel (symS S G) P ι H w) :
    ∃ w', (Instr.storeAt t x' v').run P w = .ok () w' ∧ Ext P ι w ι w' ∧ @Rel (symS S G) P ι H' w' := by
  unfold storeA at h
  split at h
  · rename_i b ci r m inf cv hp hinf hcv
    split at h
    · rename_i p hpm
      obtain ⟨g, h⟩ := condS h
      simp only [Option.some.injEq] at h
      subst h
      simp only [Bool.and_eq_true] at g
      obtain ⟨⟨g1, g2⟩, g4⟩ := g
      have g1 := Nat.eq_of_beq_eq_true g1
      have g4 := Nat.le_of_ble_eq_true g4
      obtain ⟨n, i, cs, N, e1, h0, e2, hlt, hsz, e3, e4, e5, rfl, e6, e7, e8, e9, e10⟩ := placeA_ok ha hp hx hw
      have hn : ((n.toNat : Nat) : Int) = n := by omega
      obtain ⟨y, rfl, ey⟩ := vcode_ok hv hcv
      rw [codeK_val g2]
      obtain ⟨x0, a1, a2⟩ := e10 (n.toNat * r.cs.length + m) (rowBound (by omega) e5)
      have hnl : i.off + (n.toNat * r.cs.length + m) < cs.size := by
        have := rowBound (n := n.toNat) (N := N.toNat) (by omega) e5
        omega
      have hc : w.cell? ⟨i.blk, i.off + (n.toNat * r.cs.length + m), none⟩ = some x0 := by
        simp only [World.cell?, e6, Option.isSome_none, Bool.false_eq_true, if_false]
        exact a2
      have hfz : w.frozen? ⟨i.blk, i.off + (n.toNat * r.cs.length + m), none⟩ = false := by simp [World.frozen?, e6]
      have hheap : ∀ k, (w.setCell ⟨i.blk, i.off + (n.toNat * r.cs.length + m), none⟩ (kV p.1 y)).heap[k]? = if k = i.blk then some (.cells (cs.setIfInBounds (i.off + (n.toNat * r.cs.length + m)) (kV p.1 y)) r.elem (0, 0)) else w.heap[k]? := by
        intro k
        simp only [World.setCell, Array.getElem?_modify]
        by_cases hbb : k = i.blk
        · subst hbb; simp [e6]
        · rw [if_neg (fun e => hbb e.symm), if_neg hbb]
      have hsize : (w.setCell ⟨i.blk, i.off + (n.toNat * r.cs.length + m), none⟩ (kV p.1 y)).heap.size = w.heap.size := by simp [World.setCell]
      have hL : (r.cs.set m (p.1, .upd p.2 ci cv)).length = r.cs.length := by simp
      obtain ⟨r1, r2⟩ := Rel.setArr (r' := { r with cs := r.cs.set m (p.1, .upd p.2 ci cv) }) hw e3 e4 g4 hheap hsize (by
        letI := symS S G
        refine ⟨⟨e7.trans hL.symm, by rw [hL]; omega⟩, _, N.toNat, rfl, ?_, by simpa using e8, by rw [hL]; simpa using e9, fun j hj => ?_⟩
        · show (match ev S r.n with | some [n] => some n.toNat | _ => none) = some N.toNat
          rw [e2]
        · rw [hL] at hj
          show ∃ v, acol S (r.cs.set m (p.1, .upd p.2 ci cv)) j = some v ∧ _
          have hjm : j % r.cs.length < r.cs.length := Nat.mod_lt _ (by omega)
          have hjd : (j / r.cs.length) * r.cs.length + j % r.cs.length = j := by rw [Nat.mul_comm]; exact Nat.div_add_mod _ _
          obtain ⟨vj, b1, b2⟩ := e10 j hj
          by_cases hmj : j % r.cs.length = m
          · have hset : (r.cs.set m (p.1, ACode.upd p.2 ci cv))[m]? = some (p.1, .upd p.2 ci cv) := by simp [e5]
            have e : j = (j / r.cs.length) * (r.cs.set m (p.1, ACode.upd p.2 ci cv)).length + m := by rw [hL, ← hmj]; exact hjd.symm
            by_cases hjn : j / r.cs.length = n.toNat
            · refine ⟨kV p.1 y, ?_, ?_⟩
              · rw [e, acol_at hset]
                simp only [aden, e1, ey, hjn, hn, if_true]
              · have : j = n.toNat * r.cs.length + m := by rw [← hjd, hmj, hjn]
                rw [this]
                simp [hnl]
            · refine ⟨vj, ?_, ?_⟩
              · have hz : acol S r.cs ((j / r.cs.length) * r.cs.length + m) = some vj := by rw [← hmj, hjd]; exact b1
                obtain ⟨z, c1, rfl⟩ := acol_some hpm hz
                rw [e, acol_at hset]
                have hne : ¬ ((j / r.cs.length : Nat) : Int) = n := by omega
                simp only [aden, e1, ey, hne, if_false, c1]
              · have hne : ¬ i.off + (n.toNat * r.cs.length + m) = i.off + j := by
                  intro hh
                  have : n.toNat * r.cs.length + m = j := by omega
                  apply hjn
                  rw [← this, Nat.mul_comm, Nat.mul_add_div (by omega), Nat.div_eq_of_lt e5]
                  rfl
                rw [← b2, Array.getElem?_setIfInBounds_ne hne]
          · refine ⟨vj, ?_, ?_⟩
            · rw [← b1]
              unfold acol
              rw [hL]
              simp [show ¬ m = j % r.cs.length from fun e => hmj e.symm]
            · have hne : ¬ i.off + (n.toNat * r.cs.length + m) = i.off + j := by
                intro hh
                have : n.toNat * r.cs.length + m = j := by omega
                apply hmj
                rw [← this, Nat.mul_comm, Nat.mul_add_mod]
                exact Nat.mod_eq_of_lt e5
              rw [← b2, Array.getElem?_setIfInBounds_ne hne]) (fun x => World.frozen?_setCell _ _ _ _) rfl rfl rfl
      refine ⟨_, ?_, r1, r2⟩
      letI := noSyms fun _ => none
      unfold Instr.storeAt
      simp only [Instr.sureAddr, Sem.run_bind, Sem.run_pure, Result.andThen_ok]
      unfold Go.storeVar
      simp only [Sem.run_bind, run_sizeOf' hinf, Result.andThen_ok]
      rw [(kV_one _ _).1, g1]
      have hst : (Go.store (⟨i.blk, i.off + (n.toNat * r.cs.length + m), none⟩ : Addr) (kV p.1 y)).run P w = .ok () (w.setCell ⟨i.blk, i.off + (n.toNat * r.cs.length + m), none⟩ (kV p.1 y)) := by
        rw [run_store P w _ _ _ (kV_one _ _).2, hc]
        simp [hfz]
      simp only [List.size_toArray, List.length_cons, List.length_nil, Nat.zero_add, ne_eq, not_true_eq_false, if_false]
      simp only [Go.storeCells, addr_add, Nat.add_zero, Sem.run_bind, hst, Result.andThen_ok, Sem.run_pure]
    · simp at h
  · simp at h

/-! ### make and append -/
def maxRow : Int := 4194304
def zK : Value → Option (Option IntKind)
  | .int k z => cond (eqI z 0) (some (some k)) none
  | .bool b => cond b none (some none)
  | _ => none
def zKs : List Value → Option (List (Option IntKind × ACode))
  | [] => some []
  | v :: l => match zK v, zKs l with
    | some k, some r => some ((k, .zero) :: r)
    | _, _ => none
theorem zK_ok {v : Value} {k : Option IntKind} (h : zK v = some k) : v = kV k 0 := by
  letI := noSyms fun _ => none
  unfold zK at h
  split at h
  · rename_i k' z
    obtain ⟨g, h⟩ := condS h
    rw [eqI_eq] at g
    simp only [Option.some.injEq] at h
    subst h
    have : z = 0 := by simpa using g
    rw [this]; rfl
  · rename_i b
    cases b with
    | true => simp at h
    | false =>
      simp only [cond_false, Option.some.injEq] at h
      subst h
      rfl
  · simp at h
theorem zKs_ok : ∀ {l : List Value} {r : List (Option IntKind × ACode)}, zKs l = some r → r.length = l.length ∧ ∀ m, m < l.length → ∃ k, r[m]? = some (k, .zero) ∧ l[m]? = some (kV k 0)
  | [], r, h => by
    simp only [zKs, Option.some.injEq] at h
    subst h
    exact ⟨rfl, fun m hm => by simp at hm⟩
  | v :: l, r, h => by
    simp only [zKs] at h
    split at h
    · rename_i k r' h1 h2
      simp only [Option.some.injEq] at h
      subst h
      obtain ⟨q1, q2⟩ := zKs_ok h2
      refine ⟨by simp [q1], fun m hm => ?_⟩
      cases m with
      | zero => exact ⟨k, rfl, by rw [zK_ok h1]; rfl⟩
      | succ m => simpa using q2 m (by simpa using hm)
    · simp at h
noncomputable def mkArr (P : Program) (al : List (Nat × Value)) (t : TypeId) (l c : Value) (H : Heap) : Option (Value × Heap) := match P.underlying t, vcode l, vcode c with
  | some (.slice e), some lc, some cc => match P.info? e with
    | some i => match i.zero with
      | some z => match zKs z.cells.toList with
        | some cols => cond (Nat.beq lc cc && isI lc && Nat.ble (sz lc) 65535 && Nat.beq i.size cols.length && Nat.ble 1 cols.length && geC al lc && ltC al lc (lit .i64 maxRow) && Nat.ble i.bytes 64)
          (some (.float .f32 (mk 3 0 H.next lc), H.new (.arr ⟨lc, cols, e⟩))) none
        | none => none
      | _ => none
    | none => none
  | _, _, _ => none
theorem mkArr_new {t : TypeId} {l c : Value} {H H' : Heap} {v : Value} (h : mkArr P al t l c H = some (v, H')) : ∃ b, H' = H.new b := by
  unfold mkArr at h
  split at h
  · split at h
    · split at h
      · split at h
        · obtain ⟨_, h⟩ := condS h
          simp only [Option.some.injEq, Prod.mk.injEq] at h
          exact ⟨_, h.2.symm⟩
        · simp at h
      · simp at h
    · simp at h
  · simp at h
theorem own3 {H : Nat} {lc : Nat} {n : Int} (hs : sz lc < 65536) (hn : ev S lc = some [n]) (h0 : 0 ≤ n) : ownS S (mk 3 0 H lc) = some (true, H, n.toNat) := by
  unfold ownS
  rw [mk_T (by decide) (by decide), if_pos rfl, mk_B (by decide) (by decide) hs, hn]
  dsimp only
  rw [if_pos h0, mk_A (by decide) (by decide) hs]
theorem mkArr_at (ha : AlOk S al) {t : TypeId} {l c l' c' : Value} (hl : @VRel (symS S G) ι l l') (hc : @VRel (symS S G) ι c c') {H H' : Heap} {v : Value} (h : mkArr P al t l c H = some (v, H')) {w : World} {X X' : Heap} (hw : @Rel (symS S G) P ι X w)
    (hN : ι H.next = none) (hbase : X'.base = X.base) (hnx : X.next ≤ X'.next) (hlt : H.next < X'.next) (hhole : ∀ n, n ∈ X'.hole → n ∈ X.hole ∧ n ≠ H.next) (hget : ∀ m, X'.get m = if m = H.next then H'.get H.next else X.get m) :
    ∃ i v' w', (Instr.makeSlice t l' c').run P w = .ok v' w' ∧ Ext P ι w (ι.with H.next i) w' ∧ @Rel (symS S G) P (ι.with H.next i) X' w' ∧ @VRel (symS S G) (ι.with H.next i) v v' := by
  unfold mkArr at h
  split at h
  · rename_i e lc cc hu hvl hvc
    split at h
    · rename_i inf hi
      split at h
      · rename_i z hzz
        split at h
        · rename_i cols hcols
          obtain ⟨g, h⟩ := condS h
          simp only [Option.some.injEq, Prod.mk.injEq] at h
          obtain ⟨rfl, rfl⟩ := h
          simp only [Bool.and_eq_true] at g
          obtain ⟨⟨⟨⟨⟨⟨⟨g1, g2⟩, g3⟩, g4⟩, g5⟩, g6⟩, g7⟩, g8⟩ := g
          obtain rfl := Nat.eq_of_beq_eq_true g1
          have g3 := Nat.le_of_ble_eq_true g3
          have c2 := Nat.eq_of_beq_eq_true g4
          have g5 := Nat.le_of_ble_eq_true g5
          have g8 := Nat.le_of_ble_eq_true g8
          obtain ⟨z1, z2⟩ := zKs_ok hcols
          have zs : z.cells.size = cols.length := by simpa using z1.symm
          obtain ⟨n, rfl, en⟩ := vcodeI hvl g2 hl
          obtain ⟨n', rfl, en'⟩ := vcodeI hvc g2 hc
          obtain rfl : n' = n := by rw [en] at en'; simpa using en'.symm
          have h0 := geC_ok ha g6 en
          have h1 : n' < maxRow := ltC_ok ha g7 en (ev_lit S _ _)
          unfold maxRow at h1
          letI := symS S G
          have hrow : NRel ⟨w.heap.size, 0, n'.toNat * cols.length, 0, cols.length⟩ (.cells ((Array.range (n'.toNat * inf.size)).map fun x => z.cells[x % z.cells.size]!) e (0, 0)) ⟨lc, cols, e⟩ := by
            refine ⟨⟨rfl, g5⟩, _, n'.toNat, rfl, ?_, by simp [c2], by simp [c2], fun j hj => ?_⟩
            · show (match ev S lc with | some [n] => some n.toNat | _ => none) = some n'.toNat
              rw [en]
            · have hm : j % cols.length < cols.length := Nat.mod_lt _ (by omega)
              obtain ⟨k, k1, k2⟩ := z2 (j % cols.length) (by rw [← z1]; exact hm)
              refine ⟨kV k 0, ?_, ?_⟩
              · show acol S cols j = _
                unfold acol
                rw [k1]
                simp only [aden]
              · have k2' : z.cells[j % cols.length]? = some (kV k 0) := by simpa using k2
                have hj' : j < n'.toNat * inf.size := by rw [c2]; exact hj
                rw [Nat.zero_add, Array.getElem?_map, Array.getElem?_range, if_pos hj', Option.map_some, zs]
                congr 1
                simp [getElem!_def, k2']
          obtain ⟨q1, q2, q3⟩ := hw.newAt (H' := X') (b := .arr ⟨lc, cols, e⟩) (i := ⟨w.heap.size, 0, n'.toNat * cols.length, 0, cols.length⟩) rfl hrow hN hbase hnx hlt hhole (fun m => by rw [hget m]; simp)
          refine ⟨_, .slice (some ⟨w.heap.size, 0, none⟩) n'.toNat n'.toNat, _, ?_, q2, q3, ?_⟩
          · have wl : IntKind.i64.wrap n' = n' := IntWalk.i64_in _ (by omega)
            have hb2 : (inf.bytes : Int) * n' ≤ 64 * 4194304 := Int.mul_le_mul (by omega) (by omega) h0 (by decide)
            have hbb : ¬ (inf.bytes : Int) * n' > 2 ^ 48 := by
              have : (2 : Int) ^ 48 = 281474976710656 := by decide
              omega
            have hcc : ¬ n' < 0 := by omega
            have hlc : ¬ n' > n' := by omega
            unfold Instr.makeSlice
            simp only [Sem.run_bind, run_underlying' hu, Result.andThen_ok, Go.asInt, Go.asIntOf, Sem.run_pure, run_typeInfo' hi, wl, hcc, hlc, hbb, decide_false, Bool.or_self, Bool.false_eq_true, if_false, run_askRoom, run_sizeOf' hi]
            by_cases hz : n'.toNat * inf.size = 0
            · have e0 : ∀ f : Nat → Value, (Array.range 0).map f = #[] := fun f => by simp
              rw [if_pos hz, hz]
              simp only [e0]
              rfl
            · rw [if_neg hz, Sem.run_bind, run_zeroValue' hi hzz]
              simp only [Result.andThen_ok]
              rfl
          · exact VRel.ownS (i := ⟨w.heap.size, 0, n'.toNat * cols.length, 0, cols.length⟩) (b := H.next) (show ownS S _ = some _ from own3 (by omega) en h0) (by simp [Inj.with]) (Nat.le_refl _) (.inl rfl)
        · simp at h
      · simp at h
    · simp at h
  · simp at h

/-- An empty slice with no room. -/
def emptyA (base : Option Addr) (H : Heap) : Bool := match base with
  | some a => Nat.ble H.next a.block
  | none => true
noncomputable def emptyC (base : Option Addr) (H : Heap) : Bool := match base with
  | some a => match H.get a.block with
    | some (.cells c) => !c.opn
    | _ => Nat.ble H.next a.block
  | none => true
theorem emptyC_ok {base : Option Addr} {H : Heap} (h : emptyC base H = true) {w : World} (hw : @Rel (symS S G) P ι H w) {v' : Value} (hv : @VRel (symS S G) ι (.slice base 0 0) v') : ∃ b', v' = .slice b' 0 0 := by
  letI := symS S G
  cases hv with
  | nilSlice => exact ⟨none, rfl⟩
  | emptySlice a a' => exact ⟨some a', rfl⟩
  | @slice a i _ _ c' h1 h2 h3 =>
    unfold emptyC at h
    dsimp only at h
    have fr : ¬ H.next ≤ a.block := fun hle => by rw [hw.fresh _ hle] at h1; simp at h1
    rcases h2 with rfl | ⟨h4, h5⟩
    · exact ⟨_, rfl⟩
    · split at h
      · rename_i c hc
        obtain ⟨j, o, q1, q2, q3⟩ := hw.live _ _ hc
        obtain rfl : i = j := by rw [h1] at q1; exact Option.some.inj q1
        obtain ⟨⟨r1, r2, r3⟩, cs, r4, r5, r6, r7⟩ := (show CRel ι i o c from q3)
        have := (r6 (by simpa using h)).1
        rw [this] at h5
        have hz : c' * i.esz = 0 := by omega
        have : c' = 0 := by
          rcases Nat.mul_eq_zero.1 hz with h | h
          · exact h
          · omega
        subst this
        exact ⟨_, rfl⟩
      · exact absurd (Nat.le_of_ble_eq_true h) fr

/-! ### What is appended -/
def varCols : List (Option IntKind) → Nat → List (Option IntKind × ACode)
  | [], _ => []
  | k :: ks, f => (k, .var f) :: varCols ks (f + 1)
theorem varCols_len : ∀ (ks : List (Option IntKind)) (f : Nat), (varCols ks f).length = ks.length
  | [], _ => rfl
  | k :: ks, f => by simp [varCols, varCols_len ks (f + 1)]
theorem varCols_get : ∀ (ks : List (Option IntKind)) (f m : Nat) (k : Option IntKind), ks[m]? = some k → (varCols ks f)[m]? = some (k, .var (f + m))
  | [], _, m, k, h => by simp at h
  | k0 :: ks, f, m, k, h => by
    cases m with
    | zero =>
      simp only [List.getElem?_cons_zero, Option.some.injEq] at h
      subst h
      rfl
    | succ m =>
      have := varCols_get ks (f + 1) m k (by simpa using h)
      rw [show f + 1 + m = f + (m + 1) by omega] at this
      simpa [varCols] using this
/-- A row, or a given slice: its length, its cells. -/
noncomputable def srcA (size : Nat) (x : Value) (H : Heap) : Option (Nat × List (Option IntKind × ACode)) := match x with
  | .float .f32 c => cond (Nat.beq (cT c) 3) (match H.get (cA c) with
      | some (.arr r) => cond (Nat.beq (cB c) r.n && Nat.beq r.cs.length size) (some (r.n, r.cs)) none
      | _ => none)
      (cond (Nat.beq (cT c) 1 && Nat.beq (iM (cA c)) 0 && Nat.beq (ksOf 16 (dK (iD (cA c)))).length size && Nat.ble 1 size) (some (dL (iD (cA c)) * 512 + kI .i64, varCols (ksOf 16 (dK (iD (cA c)))) (dF (iD (cA c))))) none)
  | _ => none
/-- What a slice has, as the model's append asks for it. -/
structure Src (P : Program) (S : Sy) (size : Nat) (w : World) (x' : Value) (nc : Nat) (cols : List (Option IntKind × ACode)) (n : Nat) (new : List Value) : Prop where
  len : ev S nc = some [(n : Int)]
  wid : cols.length = size
  run : ∀ w0 : World, (Builtin.lenOf x').run P w0 = .ok n w0
  fst : ∀ d : Nat, (Builtin.firstCells size n x').run P { w with drawn := d } = .ok new.toArray { w with drawn := d }
  num : new.length = n * size
  has : ∀ j, j < n * size → ∃ v, acol S cols j = some v ∧ new[j]? = some v
theorem firsts_of {w : World} {b o n cap size : Nat} {cs : Array Value} {t : TypeId} {fz : Nat × Nat} (h : w.heap[b]? = some (.cells cs t fz)) (hs : o + n * size ≤ cs.size) :
    (Builtin.firstCells size n (.slice (some ⟨b, o, none⟩) n cap)).run P w = .ok ((List.range (n * size)).map fun j => cs.getD (o + j) undf).toArray w := by
  unfold Builtin.firstCells Go.loadCells
  have := run_loads (P := P) (w := w) (a := ⟨b, o, none⟩) ((List.range (n * size)).map fun j => cs.getD (o + j) undf) 0 #[] fun j hj => by
    have hj' : j < n * size := by simpa using hj
    rw [cell_add h]
    have hlt : o + j < cs.size := by omega
    simp [hj', hlt]
  simpa using this
theorem firsts_nil {w : World} {a : Option Addr} {n cap size : Nat} : (Builtin.firstCells size 0 (.slice a n cap)).run P w = .ok ([] : List Value).toArray w := by
  unfold Builtin.firstCells
  cases a with
  | none => rfl
  | some a => simp [Go.loadCells, Go.loadCellsFrom]
theorem srcA_ok {size : Nat} {x x' : Value} {H : Heap} {nc : Nat} {cols : List (Option IntKind × ACode)} (h : srcA size x H = some (nc, cols)) (hx : @VRel (symS S G) ι x x') {w : World} (hw : @Rel (symS S G) P ι H w) : ∃ n new, Src P S size w x' nc cols n new := by
  unfold srcA at h
  split at h
  · rename_i c
    cases h3 : Nat.beq (cT c) 3 with
    | true =>
      rw [h3, cond_true] at h
      have h3 := Nat.eq_of_beq_eq_true h3
      split at h
      · rename_i r hr
        obtain ⟨g, h⟩ := condS h
        simp only [Option.some.injEq, Prod.mk.injEq] at h
        obtain ⟨rfl, rfl⟩ := h
        simp only [Bool.and_eq_true] at g
        have g1 := Nat.eq_of_beq_eq_true g.1
        have g2 := Nat.eq_of_beq_eq_true g.2
        rcases ref_inv hx with ⟨_, ht⟩ | ⟨n, cap, i, _, ⟨q2, q2'⟩, q3, q4, q5, rfl⟩ | ⟨_, _, ht, _⟩
        · omega
        · letI := symS S G
          obtain ⟨j, o, p1, p2, p3⟩ := hw.live _ _ hr
          obtain rfl : i = j := by rw [q3] at p1; exact Option.some.inj p1
          obtain ⟨⟨p4, p4'⟩, cs, N, rfl, p5, p6, p6', p7⟩ := (show NRel i o r from p3)
          have hN : N = n.toNat := by
            have p5' : (match ev S r.n with | some [n] => some n.toNat | _ => none) = some N := p5
            rw [← g1, q2] at p5'
            simpa using p5'.symm
          subst hN
          rw [g2] at p6' p7
          refine ⟨n.toNat, _, by rw [← g1, q2]; congr 2; omega, g2, fun _ => rfl, fun d => firsts_of (w := { w with drawn := d }) p2 p6', by simp, fun j hj => ?_⟩
          obtain ⟨v, u1, u2⟩ := p7 j hj
          exact ⟨v, u1, by simp [hj, u2]⟩
        · omega
      · simp at h
    | false =>
      rw [h3, cond_false] at h
      obtain ⟨g, h⟩ := condS h
      simp only [Option.some.injEq, Prod.mk.injEq] at h
      obtain ⟨rfl, rfl⟩ := h
      simp only [Bool.and_eq_true] at g
      obtain ⟨⟨⟨g1, g2⟩, g3⟩, g4⟩ := g
      have g1 := Nat.eq_of_beq_eq_true g1
      have g2 := Nat.eq_of_beq_eq_true g2
      have g3 := Nat.eq_of_beq_eq_true g3
      have g4 := Nat.le_of_ble_eq_true g4
      rcases ref_inv hx with ⟨hp, _⟩ | ⟨_, _, _, ht, _⟩ | ⟨_, _, ht, _⟩
      · obtain ⟨X, q1, rfl, q2, q3, q4⟩ := ptr1 hp g1
        have hL : X.ks.length = size := by rw [q2]; exact g3
        have hnum : ev S (dL (iD (cA c)) * 512 + kI .i64) = some [(X.n : Int)] := by rw [ev_var, q4]
        rcases S.ok X (List.mem_of_getElem? q1) with hz | ⟨a, cs, t', fz, ha1, ha2, ha3, ha4, ha5⟩
        · refine ⟨0, [], by rw [hnum, hz], by rw [varCols_len]; exact g3, fun _ => by rw [hz]; rfl, fun d => by rw [hz]; exact firsts_nil, by simp, fun j hj => by simp at hj⟩
        · by_cases hz : X.n = 0
          · refine ⟨0, [], by rw [hnum, hz], by rw [varCols_len]; exact g3, fun _ => by rw [hz]; rfl, fun d => by rw [hz]; exact firsts_nil, by simp, fun j hj => by simp at hj⟩
          · have hheap : w.heap[a.block]? = some (.cells cs t' fz) := by rw [← ha4]; exact (@Rel.glb (symS S G) P ι H w hw).2 a.block X.obj ha3
            have haa : a = ⟨a.block, a.off, none⟩ := by cases a; simp_all
            have cellAt : ∀ j, j < X.n * size → ∃ v, acol S (varCols X.ks X.f) j = some v ∧ cs[a.off + j]? = some v := fun j hj => by
              have hm : j % size < size := Nat.mod_lt _ (by omega)
              have hd : j / size < X.n := Nat.div_lt_of_lt_mul (by rw [Nat.mul_comm]; exact hj)
              have hjd : (j / size) * size + j % size = j := by rw [Nat.mul_comm]; exact Nat.div_add_mod _ _
              obtain ⟨k, hk⟩ : ∃ k, X.ks[j % size]? = some k := ⟨_, List.getElem?_eq_getElem (by omega)⟩
              have u := ha5 (j / size) hd (j % size) k hk
              rw [hL, hjd] at u
              refine ⟨_, ?_, u⟩
              unfold acol
              rw [varCols_len, hL, varCols_get _ _ _ _ hk]
              simp only [aden]
            have hsz : a.off + X.n * size ≤ cs.size := by
              rcases Nat.lt_or_ge cs.size (a.off + X.n * size) with hlt | hge
              · have hpos : 0 < X.n * size := Nat.mul_pos (by omega) (by omega)
                obtain ⟨v, _, u⟩ := cellAt (X.n * size - 1) (by omega)
                have := (Array.getElem?_eq_some_iff.1 u).1
                omega
              · exact hge
            rw [← q2, ← q3]
            refine ⟨X.n, _, hnum, by rw [varCols_len]; exact hL, fun _ => rfl, fun d => by rw [ha1, haa]; exact firsts_of (w := { w with drawn := d }) hheap hsz, by simp, fun j hj => ?_⟩
            obtain ⟨v, u1, u2⟩ := cellAt j hj
            exact ⟨v, u1, by simp [hj, u2]⟩
      · omega
      · omega
  · simp at h

/-! ### Sums of lengths -/
noncomputable def sumC (al : List (Nat × Value)) (a b : Nat) : Option Nat := match litI a, litI b with
  | some m, some n => some (lit .i64 (m + n))
  | _, _ => cond (Nat.ble (sz b) 65535) (match fin al (mk 16 (kI .i64) a b) true with
    | some v => match vcode v with
      | some c => cond (isI c) (some c) none
      | none => none
    | none => none) none
theorem sumC_ok (ha : AlOk S al) {a b c : Nat} {m n : Int} (h : sumC al a b = some c) (hm : ev S a = some [m]) (hn : ev S b = some [n]) (h1 : 0 ≤ m ∧ m ≤ maxRow) (h2 : 0 ≤ n ∧ n ≤ maxRow) : ev S c = some [m + n] := by
  unfold maxRow at h1 h2
  unfold sumC at h
  split at h
  · rename_i x y hx hy
    have e1 := litI_ok (S := S) hx
    have e2 := litI_ok (S := S) hy
    rw [hm] at e1; rw [hn] at e2
    simp only [Option.some.injEq, List.cons.injEq, and_true] at e1 e2
    subst e1 e2
    simp only [Option.some.injEq] at h
    subst h
    exact ev_lit S _ _
  · obtain ⟨hs, h⟩ := condS h
    have hs := Nat.le_of_ble_eq_true hs
    split at h
    · rename_i v hv
      split at h
      · rename_i c' hc
        obtain ⟨hi, h⟩ := condS h
        simp only [Option.some.injEq] at h
        subst h
        have e : ev S (mk 16 (kI .i64) a b) = some [m + n] := by
          rw [ev_mk S (kI_lt _) (by decide) (by decide) (by decide) (by omega), hm, hn]
          show numV (vBin .add .i64 m n) = _
          simp only [vBin, numV]
          rw [IntWalk.i64_in _ (by omega)]
        have q := fin_num (G := fun _ => none) (ι := fun _ => none) ha hv e
        obtain ⟨r, e1, e2⟩ := vcode_ok q hc
        rw [isI_mkV hi] at e1
        unfold mkV at e1
        rw [isBc_mk (kI_lt _) (by decide), show (Nat.ble 27 16 || (Nat.ble 11 16 && Nat.ble 16 15)) = false from rfl, cond_false] at e1
        injection e1 with _ e1
        rw [e2, e1]
      · simp at h
    · simp at h

/-! ### Elements behind a row -/
noncomputable def updEl (ci : Nat) : List (Option IntKind × ACode) → List Value → Option (List (Option IntKind × ACode))
  | [], [] => some []
  | p :: cs, v :: l => match vcode v, updEl ci cs l with
    | some cv, some r => cond (codeK p.1 cv) (some ((p.1, .upd p.2 ci cv) :: r)) none
    | _, _ => none
  | _, _ => none
noncomputable def updEls (al : List (Nat × Value)) (n0 s : Nat) : Nat → Nat → List (Option IntKind × ACode) → List Value → Option (List (Option IntKind × ACode))
  | 0, _, cs, _ => some cs
  | N + 1, i, cs, l => match (cond (Nat.beq i 0) (some n0) (sumC al n0 (lit .i64 i))) with
    | some ci => match updEl ci cs (l.take s) with
      | some cs' => updEls al n0 s N (i + 1) cs' (l.drop s)
      | none => none
    | none => none
theorem updEl_ok {ci : Nat} {n : Nat} (hn : ev S ci = some [(n : Int)]) : ∀ (cs : List (Option IntKind × ACode)) (l : List Value) (r : List (Option IntKind × ACode)), updEl ci cs l = some r → ∀ g : Nat → Value, (∀ m, m < cs.length → @VRel (symS S G) ι (l.getD m undf) (g m)) →
    r.length = cs.length ∧ ∀ m p, cs[m]? = some p → ∃ p', r[m]? = some p' ∧ p'.1 = p.1 ∧ (∀ j : Nat, j ≠ n → aden S p'.2 (j : Int) = aden S p.2 (j : Int)) ∧ ∃ y, aden S p'.2 (n : Int) = some y ∧ g m = kV p.1 y
  | [], [], r, h, _, _ => by
    simp only [updEl, Option.some.injEq] at h
    subst h
    exact ⟨rfl, fun m p hm => by simp at hm⟩
  | p0 :: cs, v :: l, r, h, g, hg => by
    simp only [updEl] at h
    split at h
    · rename_i cv r' h1 h2
      obtain ⟨gk, h⟩ := condS h
      simp only [Option.some.injEq] at h
      subst h
      obtain ⟨q1, q2⟩ := updEl_ok hn cs l r' h2 (fun m => g (m + 1)) fun m hm => by simpa using hg (m + 1) (by simpa using hm)
      refine ⟨by simp [q1], fun m p hm => ?_⟩
      cases m with
      | zero =>
        simp only [List.getElem?_cons_zero, Option.some.injEq] at hm
        subst hm
        obtain ⟨y, hy, ey⟩ := vcode_ok (show @VRel (symS S G) ι v (g 0) by simpa using hg 0 (by simp)) h1
        refine ⟨_, rfl, rfl, fun j hj => ?_, y, ?_, by rw [hy, codeK_val gk]⟩
        · have hne : ¬ ((j : Nat) : Int) = (n : Int) := by omega
          simp only [aden, hn, ey, hne, if_false]
        · simp only [aden, hn, ey, if_true]
      | succ m =>
        simp only [List.getElem?_cons_succ] at hm ⊢
        exact q2 m p hm
    · simp at h
  | [], _ :: _, _, h, _, _ => by simp [updEl] at h
  | _ :: _, [], _, h, _, _ => by simp [updEl] at h
theorem updEls_ok (ha : AlOk S al) {c0 n0 s : Nat} (h0 : ev S c0 = some [(n0 : Int)]) (hmax : (n0 : Int) ≤ maxRow) (hs : 0 < s) (g : Nat → Value) : ∀ (N i : Nat) (cs : List (Option IntKind × ACode)) (l : List Value) (r : List (Option IntKind × ACode)), (i : Int) + (N : Int) ≤ maxRow → cs.length = s →
    updEls al c0 s N i cs l = some r → (∀ m, m < N * s → @VRel (symS S G) ι (l.getD m undf) (g (i * s + m))) →
    r.length = s ∧ (∀ j, j < (n0 + i) * s → acol S r j = acol S cs j) ∧ ∀ m, m < N * s → ∃ v, acol S r ((n0 + i) * s + m) = some v ∧ g (i * s + m) = v := by
  intro N
  induction N with
  | zero =>
    intro i cs l r _ hc h _
    simp only [updEls, Option.some.injEq] at h
    subst h
    exact ⟨hc, fun _ _ => rfl, fun m hm => by simp at hm⟩
  | succ N ih =>
    intro i cs l r hN hc h hg
    simp only [updEls] at h
    split at h
    · rename_i ci hci
      split at h
      · rename_i cs' hcs
        have hci' : ev S ci = some [((n0 + i : Nat) : Int)] := by
          cases hi : Nat.beq i 0 with
          | true =>
            rw [hi, cond_true] at hci
            have := Nat.eq_of_beq_eq_true hi
            simp only [Option.some.injEq] at hci
            rw [← hci, h0, this]
            rfl
          | false =>
            rw [hi, cond_false] at hci
            have := sumC_ok ha hci h0 (ev_lit S .i64 (i : Int)) ⟨by omega, hmax⟩ ⟨by omega, by omega⟩
            rw [this]
            congr 2
        obtain ⟨q1, q2⟩ := updEl_ok (G := G) (ι := ι) hci' cs (l.take s) cs' hcs (fun m => g (i * s + m)) fun m hm => by
          rw [hc] at hm
          have := hg m (by rw [Nat.add_mul]; omega)
          rwa [show (l.take s).getD m undf = l.getD m undf by simp [List.getD_eq_getElem?_getD, hm]]
        obtain ⟨r1, r2, r3⟩ := ih (i + 1) cs' (l.drop s) r (by omega) (q1.trans hc) h fun m hm => by
          have := hg (s + m) (by rw [Nat.add_mul]; omega)
          rw [show (l.drop s).getD m undf = l.getD (s + m) undf by simp [List.getD_eq_getElem?_getD, List.getElem?_drop]]
          rw [show (i + 1) * s + m = i * s + (s + m) by rw [Nat.add_mul]; omega]
          exact this
        have hstep : ∀ m, m < s → (∃ p p', cs[m]? = some p ∧ cs'[m]? = some p' ∧ p'.1 = p.1 ∧ (∀ j : Nat, j ≠ n0 + i → aden S p'.2 (j : Int) = aden S p.2 (j : Int)) ∧ ∃ y, aden S p'.2 ((n0 + i : Nat) : Int) = some y ∧ g (i * s + m) = kV p.1 y) := fun m hm => by
          have hp : cs[m]? = some cs[m] := List.getElem?_eq_getElem (by omega)
          obtain ⟨p', a1, a2, a3, a4⟩ := q2 m _ hp
          exact ⟨_, p', hp, a1, a2, a3, a4⟩
        refine ⟨r1, fun j hj => ?_, fun m hm => ?_⟩
        · rw [r2 j (by
            have : (n0 + i) * s ≤ (n0 + (i + 1)) * s := Nat.mul_le_mul_right _ (by omega)
            omega)]
          have hm : j % s < s := Nat.mod_lt _ hs
          have hd : j / s < n0 + i := Nat.div_lt_of_lt_mul (by rw [Nat.mul_comm]; exact hj)
          obtain ⟨p, p', a1, a2, a3, a4, _⟩ := hstep (j % s) hm
          unfold acol
          rw [q1, hc, a1, a2]
          dsimp only
          rw [a4 (j / s) (by omega), a3]
        · by_cases hm' : m < s
          · obtain ⟨p, p', a1, a2, a3, _, y, a5, a6⟩ := hstep m hm'
            refine ⟨kV p.1 y, ?_, a6⟩
            rw [r2 _ (by rw [show n0 + (i + 1) = n0 + i + 1 by omega, Nat.add_mul (n0 + i) 1]; omega)]
            have e := acol_at (S := S) a2 (n0 + i)
            rw [q1, hc] at e
            rw [e, a5, a3]
          · obtain ⟨v, b1, b2⟩ := r3 (m - s) (by rw [Nat.add_mul] at hm; omega)
            refine ⟨v, ?_, ?_⟩
            · rw [← b1]
              congr 1
              rw [show n0 + (i + 1) = n0 + i + 1 by omega, Nat.add_mul (n0 + i) 1]
              omega
            · rw [← b2]
              congr 1
              rw [Nat.add_mul]
              omega
      · simp at h
    · simp at h

/-! ### A row moved to a further name; append -/
theorem Rel.move {H H' : Heap} {w : World} (hw : @Rel (symS S G) P ι H w) {b : Nat} {X : Blk} {i : Info} (hb : H.get b = some X) (hi : ι b = some i) (hg : H.base ≤ b) (hbase : H'.base = H.base) (hnext : H'.next = H.next + 1) (hhole : H'.hole = H.hole)
    (hget : ∀ m, H'.get m = if m = H.next then some X else if m = b then none else H.get m) : Ext P ι w (ι.with H.next i) w ∧ @Rel (symS S G) P (ι.with H.next i) H' w := by
  letI := symS S G
  have hsub : Sub ι (ι.with H.next i) := fun n j hn => by
    unfold Inj.with
    rw [if_neg]
    · exact hn
    · intro e
      subst e
      rw [hw.fresh _ (Nat.le_refl _)] at hn
      simp at hn
  have hkg : P.globals.size ≤ b := by rw [← hw.gsize]; exact hg
  refine ⟨⟨hsub, Nat.le_refl _, fun n j hn hgn => ?_, fun _ _ _ => rfl, fun _ => rfl, rfl, rfl, rfl⟩, ⟨hw.glb, by rw [hbase]; exact hw.gsize, fun g hg' => ?_, fun n j hn hb' => ?_, by rw [hbase, hnext]; have := hw.next; omega, by rw [hbase]; exact hw.room, fun n hn => ?_, fun n hn => ?_, fun n j hn => ?_, fun n b' hn => ?_, fun n m b1 b2 i1 i2 h1 h2 e1 e2 he => ?_⟩⟩
  · unfold Inj.with at hn
    split at hn
    · simp only [Option.some.injEq] at hn
      subst hn
      exact .inl ⟨b, i, hi, hkg, rfl⟩
    · exact .inl ⟨n, j, hn, hgn, rfl⟩
  · rw [hbase] at hg'
    obtain ⟨j, q1, q2⟩ := hw.glob g hg'
    exact ⟨j, hsub _ _ q1, q2⟩
  · rw [hbase] at hb' ⊢
    unfold Inj.with at hn
    split at hn
    · simp only [Option.some.injEq] at hn
      subst hn
      exact hw.over b i hi hg
    · exact hw.over n j hn hb'
  · rw [hnext] at hn
    unfold Inj.with
    rw [if_neg (by omega)]
    exact hw.fresh n (by omega)
  · rw [hhole] at hn
    have h9 := hw.hole n hn
    refine ⟨by rw [hnext]; omega, ?_⟩
    unfold Inj.with
    rw [if_neg (by omega)]
    exact h9.2
  · unfold Inj.with at hn
    split at hn
    · simp only [Option.some.injEq] at hn
      subst hn
      exact hw.below b i hi
    · exact hw.below n j hn
  · rw [hget] at hn
    obtain ⟨i0, o, p1, p2, p3⟩ := hw.live _ _ hb
    split at hn
    · rename_i hnn
      subst hnn
      simp only [Option.some.injEq] at hn
      subst hn
      obtain rfl : i = i0 := by rw [hi] at p1; exact Option.some.inj p1
      exact ⟨i, o, by simp [Inj.with], p2, p3.mono hsub⟩
    · split at hn
      · simp at hn
      · obtain ⟨j, o', q1, q2, q3⟩ := hw.live _ _ hn
        exact ⟨j, o', hsub _ _ q1, q2, q3.mono hsub⟩
  · rw [hget] at h1 h2
    unfold Inj.with at e1 e2
    by_cases n1 : n = H.next
    · by_cases n2 : m = H.next
      · rw [n1, n2]
      · exfalso
        rw [if_pos n1] at e1
        rw [if_neg n2] at e2 h2
        simp only [Option.some.injEq] at e1
        subst e1
        split at h2
        · simp at h2
        · rename_i hmb
          exact hmb (hw.inj _ _ _ _ _ _ h2 hb e2 hi he.symm)
    · rw [if_neg n1] at e1 h1
      split at h1
      · simp at h1
      · rename_i hnb
        by_cases n2 : m = H.next
        · exfalso
          rw [if_pos n2] at e2
          simp only [Option.some.injEq] at e2
          subst e2
          exact hnb (hw.inj _ _ _ _ _ _ h1 hb e1 hi he)
        · rw [if_neg n2] at e2 h2
          split at h2
          · simp at h2
          · exact hw.inj _ _ _ _ _ _ h1 h2 e1 e2 he
/-- Where a new row lies. -/
theorem row_new {H : Heap} {w : World} (hw : @Rel (symS S G) P ι H w) {r : ArrB} {n : Nat} {s cap : Nat} (hn : ev S r.n = some [(n : Int)]) (hs : r.cs.length = s) (hpos : 0 < s) (hsz : sz r.n < 65536) (hcap : n ≤ cap) {all : List Value} (hl : all.length = n * s)
    (hall : ∀ j, j < n * s → ∃ v, acol S r.cs j = some v ∧ all[j]? = some v) {z : Array Value} (hz : z.size = s) :
    ∃ ι', Ext P ι w ι' { w with heap := w.heap.push (.cells (all.toArray ++ Builtin.zeroCells z (cap - n)) r.elem) } ∧ @Rel (symS S G) P ι' (H.new (.arr r)) { w with heap := w.heap.push (.cells (all.toArray ++ Builtin.zeroCells z (cap - n)) r.elem) } ∧
      @VRel (symS S G) ι' (.float .f32 (mk 3 0 H.next r.n)) (.slice (some ⟨w.heap.size, 0, none⟩) n cap) := by
  letI := symS S G
  have hmul : n * s + (cap - n) * s = cap * s := by rw [← Nat.add_mul]; congr 1; omega
  have hrow : NRel ⟨w.heap.size, 0, n * s, (cap - n) * s, s⟩ (.cells (all.toArray ++ Builtin.zeroCells z (cap - n)) r.elem (0, 0)) r := by
    refine ⟨⟨hs.symm, by omega⟩, _, n, rfl, ?_, ?_, ?_, fun j hj => ?_⟩
    · show (match ev S r.n with | some [n] => some n.toNat | _ => none) = some n
      rw [hn]
      simp
    · simp [zeroCells_size, hl, hz]
    · rw [hs]
      simp [hl]
    · rw [hs] at hj
      obtain ⟨v, u1, u2⟩ := hall j hj
      refine ⟨v, u1, ?_⟩
      rw [Nat.zero_add, Array.getElem?_append_left (by simp [hl, hj])]
      simpa using u2
  obtain ⟨r1, r2, r3⟩ := hw.new (b := .arr r) (i := ⟨w.heap.size, 0, n * s, (cap - n) * s, s⟩) rfl hrow
  refine ⟨_, r2, r3, ?_⟩
  exact VRel.ownS (i := ⟨w.heap.size, 0, n * s, (cap - n) * s, s⟩) (b := H.next) (show ownS S _ = some (true, H.next, n) by have := own3 (S := S) (H := H.next) hsz hn (by omega); simpa using this) (by simp [Inj.with]) hcap (.inr (by show cap * s ≤ n * s + (cap - n) * s; omega))
/-- Append, where a row is behind it: to an empty slice (none), or to a row (its name). -/
theorem row_append {tys : Array TypeId} {st xt e ty : TypeId} {xd : TypeDesc} {inf : TypeInfo} {z : Value} (ht0 : tys[0]? = some st) (ht1 : tys[1]? = some xt) (hs : P.underlying st = some (.slice e)) (hx : P.underlying xt = some xd)
    (hxd : isIntD xd = false) (hi : P.info? e = some inf) (hz' : inf.zero = some z) (hzs : z.cells.size = inf.size) (hb : inf.bytes ≤ 64) (hpos : 0 < inf.size) {H : Heap} {w : World} (hw : @Rel (symS S G) P ι H w)
    {b : Nat} {r : ArrB} {i : Info} {n0 cap : Nat} (hr : H.get b = some (.arr r)) (hib : ι b = some i) (hg : H.base ≤ b) (hn0 : ev S r.n = some [(n0 : Int)]) (hre : r.elem = e) (hrs : r.cs.length = inf.size) (hc1 : n0 ≤ cap) (hc2 : cap = n0 ∨ cap * i.esz ≤ i.size + i.extra)
    {x' : Value} {n : Nat} (hlen : ∀ w0 : World, (Builtin.lenOf x').run P w0 = .ok n w0)     {r' : ArrB} (hn' : ev S r'.n = some [((n0 + n : Nat) : Int)]) (hsz : sz r'.n < 65536) (hmax : ((n0 + n : Nat) : Int) ≤ maxRow) (hre' : r'.elem = e) (hrs' : r'.cs.length = inf.size) (hold : ∀ j, j < n0 * inf.size → acol S r'.cs j = acol S r.cs j)
    (hnew : ∀ d : Nat, ∃ new : List Value, (Builtin.firstCells inf.size n x').run P { w with drawn := d } = .ok new.toArray { w with drawn := d } ∧ new.length = n * inf.size ∧ (∀ v ∈ new, v.oneCell' = true) ∧ ∀ m, m < n * inf.size → ∃ v, acol S r'.cs (n0 * inf.size + m) = some v ∧ new[m]? = some v) :
    ∃ ι' v' w', (Builtin.append_ tys ty #[.slice (some ⟨i.blk, i.off, none⟩) n0 cap, x']).run P w = .ok v' w' ∧ Ext P ι w ι' w' ∧ @Rel (symS S G) P ι' ((H.kill b).new (.arr r')) w' ∧ @VRel (symS S G) ι' (.float .f32 (mk 3 0 H.next r'.n)) v' := by
  letI := symS S G
  unfold maxRow at hmax
  obtain ⟨j, o, p1, p2, p3⟩ := hw.live _ _ hr
  obtain rfl : i = j := by rw [hib] at p1; exact Option.some.inj p1
  obtain ⟨⟨p4, p4'⟩, cs, N, rfl, p5, p6, p6', p7⟩ := (show NRel i o r from p3)
  have hN : N = n0 := by
    have p5' : (match ev S r.n with | some [n] => some n.toNat | _ => none) = some N := p5
    rw [hn0] at p5'
    simpa using p5'.symm
  subst hN
  rw [hrs] at p4 p6' p7
  rw [hre] at p2
  by_cases hfit : N + n ≤ cap
  · obtain ⟨new, hnew, hnl, hone, hnw⟩ := hnew w.drawn
    have hrun := run_append_fits (P := P) (ty := ty) (w := w) (args := #[.slice (some ⟨i.blk, i.off, none⟩) N cap, x']) ht0 ht1 hs hx hxd hi (base := some ⟨i.blk, i.off, none⟩) (sl := N) (sc := cap) (n := n) rfl rfl hlen hnew hfit
    dsimp only at hrun
    rw [addr_add] at hrun
    have hroom : i.off + N * inf.size + 0 + new.length ≤ cs.size := by
      rw [hnl]
      rcases hc2 with hc2 | hc2
      · have : n = 0 := by omega
        subst this
        simpa using p6'
      · rw [p4] at hc2
        have := Nat.mul_le_mul_right inf.size hfit
        rw [Nat.add_mul] at this
        omega
    obtain ⟨w', cs', s1, s2, s3, s4, s5, s6, s7, s8, s9, s10, s11⟩ := storeRun i.blk e (i.off + N * inf.size) new 0 w cs hone p2 hroom (P := P)
    rw [s1] at hrun
    simp only [Result.andThen_ok] at hrun
    have hcell : ∀ j, j < (N + n) * inf.size → ∃ v, acol S r'.cs j = some v ∧ cs'[i.off + j]? = some v := fun j hj => by
      by_cases hjo : j < N * inf.size
      · obtain ⟨v, u1, u2⟩ := p7 j hjo
        refine ⟨v, (hold j hjo).trans u1, ?_⟩
        have h5 := s5 (i.off + j) (by omega)
        have hlt : i.off + j < cs.size := by omega
        have hlt' : i.off + j < cs'.size := by omega
        rw [Array.getElem?_eq_getElem hlt'] at ⊢
        rw [Array.getElem?_eq_getElem hlt] at u2
        simp only [Array.getD_eq_getD_getElem?, Array.getElem?_eq_getElem hlt', Array.getElem?_eq_getElem hlt, Option.getD_some] at h5
        rw [h5]
        exact u2
      · obtain ⟨v, u1, u2⟩ := hnw (j - N * inf.size) (by rw [Nat.add_mul] at hj; omega)
        refine ⟨v, by rw [← u1]; congr 1; omega, ?_⟩
        have h4 := s4 (j - N * inf.size) (by rw [hnl]; rw [Nat.add_mul] at hj; omega)
        have hlt' : i.off + j < cs'.size := by
          rw [Nat.add_mul] at hj
          omega
        rw [show i.off + N * inf.size + 0 + (j - N * inf.size) = i.off + j by omega] at h4
        rw [Array.getElem?_eq_getElem hlt']
        simp only [Array.getD_eq_getD_getElem?, Array.getElem?_eq_getElem hlt', Option.getD_some, List.getD_eq_getElem?_getD, u2] at h4
        rw [h4]
    obtain ⟨x1, r1⟩ := Rel.setArr (r' := r') hw hr hib hg (cs' := cs') (e := e) (w' := w') (fun k => by
      by_cases hk : k = i.blk
      · subst hk; rw [if_pos rfl]; exact s2
      · rw [if_neg hk]; exact s6 k hk) s7 (by
      refine ⟨⟨p4.trans hrs'.symm, by omega⟩, cs', N + n, by rw [hre'], ?_, by omega, ?_, fun j hj => ?_⟩
      · show (match ev S r'.n with | some [n] => some n.toNat | _ => none) = some (N + n)
        rw [hn']
        exact congrArg some (Int.toNat_natCast _)
      · rw [hrs', Nat.add_mul]
        omega
      · rw [hrs'] at hj
        exact hcell j hj) s8 s9 s10 s11
    obtain ⟨x2, r2⟩ := Rel.move (H := H.put b (.arr r')) (H' := (H.kill b).new (.arr r')) r1 (b := b) (X := .arr r') (i := i) (by simp) hib hg rfl rfl rfl (fun m => by
      simp only [Heap.get_new, Heap.get_kill, Heap.get_put]
      show (if m = H.next then _ else _) = if m = H.next then _ else _
      by_cases h1 : m = H.next
      · rw [if_pos h1, if_pos h1]
      · rw [if_neg h1, if_neg h1]
        by_cases h2 : m = b
        · rw [if_pos h2, if_pos h2]
        · rw [if_neg h2, if_neg h2, if_neg h2])
    refine ⟨_, _, w', hrun, x1.trans x2, r2, ?_⟩
    refine VRel.ownS (i := i) (b := H.next) (show ownS S _ = some (true, H.next, N + n) by have := own3 (S := S) (H := H.next) hsz hn' (by omega); rwa [Int.toNat_natCast] at this) (by simp [Inj.with]) hfit ?_
    rcases hc2 with hc2 | hc2
    · exact .inl (by omega)
    · exact .inr hc2
  · obtain ⟨new, hnew, hnl, hone, hnw⟩ := hnew (w.drawn + 1)
    have hnc : Builtin.nextslicecap (N + n) cap ≤ 16 * (N + n) + 3072 := nextcap_le _ _ (by omega)
    have hcap2 : ¬ Builtin.nextslicecap (N + n) cap * inf.bytes > 2 ^ 48 := by
      have e1 : Builtin.nextslicecap (N + n) cap * inf.bytes ≤ (16 * 4194304 + 3072) * 64 := Nat.mul_le_mul (by omega) hb
      have : (2 : Nat) ^ 48 = 281474976710656 := by decide
      omega
    have hold1 : (Builtin.firstCells inf.size N (.slice (some ⟨i.blk, i.off, none⟩) N cap)).run P { w with drawn := w.drawn + 1 } = .ok ((List.range (N * inf.size)).map fun j => cs.getD (i.off + j) undf).toArray { w with drawn := w.drawn + 1 } := firsts_of (w := { w with drawn := w.drawn + 1 }) p2 p6'
    have hrun := run_append_grows (P := P) (ty := ty) (w := w) (args := #[.slice (some ⟨i.blk, i.off, none⟩) N cap, x']) ht0 ht1 hs hx hxd hi hz' (base := some ⟨i.blk, i.off, none⟩) (sl := N) (sc := cap) (n := n) rfl rfl hlen hold1 hnew hfit
      (by have : IntKind.i64.max = 9223372036854775807 := by decide
          omega) hcap2
    have ea : ∀ (a b : List Value) (c : Array Value), a.toArray ++ b.toArray ++ c = (a ++ b).toArray ++ c := fun a b c => by simp
    rw [ea] at hrun
    have hk1 := (hw.draw (w.drawn + 1)).kill b
    obtain ⟨ι', x1, r1, v1⟩ := row_new (H := H.kill b) hk1 (r := r') (n := N + n) (s := inf.size) (cap := room w (N + n) cap e) hn' hrs' hpos hsz (room_ge _ _ _ _) (all := ((List.range (N * inf.size)).map fun j => cs.getD (i.off + j) undf) ++ new) (by simp [hnl, Nat.add_mul]) (fun j hj => by
      by_cases hjo : j < N * inf.size
      · obtain ⟨v, u1, u2⟩ := p7 j hjo
        refine ⟨v, (hold j hjo).trans u1, ?_⟩
        rw [List.getElem?_append_left (by simpa using hjo)]
        simp [hjo, u2]
      · obtain ⟨v, u1, u2⟩ := hnw (j - N * inf.size) (by rw [Nat.add_mul] at hj; omega)
        refine ⟨v, by rw [← u1]; congr 1; omega, ?_⟩
        rw [List.getElem?_append_right (by simpa using hjo)]
        simpa using u2) (z := z.cells) hzs
    rw [hre'] at x1 r1
    exact ⟨ι', _, _, hrun, (Ext.draw ι w (w.drawn + 1)).trans x1, r1, v1⟩
def sameK : List (Option IntKind × ACode) → List (Option IntKind × ACode) → Bool
  | [], [] => true
  | p :: l, q :: r => kEq p.1 q.1 && sameK l r
  | _, _ => false
def catCols (n : Nat) : List (Option IntKind × ACode) → List (Option IntKind × ACode) → List (Option IntKind × ACode)
  | p :: l, q :: r => (p.1, .cat p.2 n q.2) :: catCols n l r
  | _, _ => []
theorem catCols_ok {c n : Nat} (hn : ev S c = some [(n : Int)]) : ∀ {l r : List (Option IntKind × ACode)}, sameK l r = true → (catCols c l r).length = l.length ∧ r.length = l.length ∧ ∀ (m : Nat) (p : Option IntKind × ACode), l[m]? = some p → ∃ q : Option IntKind × ACode, r[m]? = some q ∧ q.1 = p.1 ∧ (catCols c l r)[m]? = some (p.1, ACode.cat p.2 c q.2)
  | [], [], _ => ⟨rfl, rfl, fun m p hm => by simp at hm⟩
  | p0 :: l, q0 :: r, h => by
    simp only [sameK, Bool.and_eq_true] at h
    obtain ⟨a1, a2, a3⟩ := catCols_ok (c := c) hn h.2
    refine ⟨by simp [catCols, a1], by simp [a2], fun m p hm => ?_⟩
    cases m with
    | zero =>
      simp only [List.getElem?_cons_zero, Option.some.injEq] at hm
      subst hm
      exact ⟨q0, rfl, (kEq_ok h.1).symm, rfl⟩
    | succ m =>
      obtain ⟨q, b1, b2, b3⟩ := a3 m p (by simpa using hm)
      exact ⟨q, by simpa using b1, b2, by simpa [catCols] using b3⟩
  | [], _ :: _, h => by simp [sameK] at h
  | _ :: _, [], h => by simp [sameK] at h
theorem cat_cells {c n N : Nat} (hn : ev S c = some [(n : Int)]) {l r : List (Option IntKind × ACode)} (h : sameK l r = true) (hpos : 0 < l.length) : (∀ j, j < n * l.length → acol S (catCols c l r) j = acol S l j) ∧ ∀ m, m < N * l.length → acol S (catCols c l r) (n * l.length + m) = acol S r m := by
  obtain ⟨a1, a2, a3⟩ := catCols_ok (c := c) hn h
  have colj : ∀ j, ∃ p q, l[j % l.length]? = some p ∧ r[j % l.length]? = some q ∧ q.1 = p.1 ∧ (catCols c l r)[j % l.length]? = some (p.1, .cat p.2 c q.2) := fun j => by
    have hp : l[j % l.length]? = some (l[j % l.length]'(Nat.mod_lt _ hpos)) := List.getElem?_eq_getElem _
    obtain ⟨q, b1, b2, b3⟩ := a3 _ _ hp
    exact ⟨_, q, hp, b1, b2, b3⟩
  refine ⟨fun j hj => ?_, fun m hm => ?_⟩
  · obtain ⟨p, q, b1, b2, b3, b4⟩ := colj j
    have hd : j / l.length < n := Nat.div_lt_of_lt_mul (by rw [Nat.mul_comm]; exact hj)
    unfold acol
    rw [a1, b1, b4]
    simp only [aden, hn]
    rw [if_pos (by omega)]
  · obtain ⟨p, q, b1, b2, b3, b4⟩ := colj m
    have e1 : (n * l.length + m) % l.length = m % l.length := by rw [Nat.mul_comm, Nat.mul_add_mod]
    have e2 : (n * l.length + m) / l.length = n + m / l.length := by rw [Nat.mul_comm, Nat.mul_add_div hpos]
    unfold acol
    rw [a1, e1, e2, b4, a2, b2]
    simp only [aden, hn]
    generalize m / l.length = d
    rw [if_neg (by omega), show (((n + d : Nat) : Int) - (n : Int)) = (d : Int) by omega, b3]
/-- The row that is behind an append to a row. -/
noncomputable def tailA (al : List (Nat × Value)) (size : Nat) (r : ArrB) (y : Value) (H : Heap) : Option ArrB := match srcA size y H with
  | some (nc, cols) => match sumC al r.n nc with
    | some n' => cond (sameK r.cs cols && geC al nc && ltC al nc (lit .i64 maxRow)) (some ⟨n', catCols r.n r.cs cols, r.elem⟩) none
    | none => none
  | none => match news H size y with
    | some (N, l) => match sumC al r.n (lit .i64 N), updEls al r.n size N 0 r.cs l with
      | some n', some cols => cond (Nat.beq l.length (N * size) && Nat.ble N 4096 && l.all Ev.oneCell) (some ⟨n', cols, r.elem⟩) none
      | _, _ => none
    | none => none
noncomputable def appendA (P : Program) (al : List (Nat × Value)) (tys : Array TypeId) (args : List Value) (H : Heap) : Option (Value × Heap) := match tys[0]?, tys[1]?, args with
  | some st, some xt, [x, y] => match P.underlying st, P.underlying xt with
    | some (.slice e), some xd => match P.info? e with
      | some i => match i.zero with
        | some z => cond (!isIntD xd && Nat.beq z.cells.size i.size && Nat.ble i.bytes 64 && Nat.ble 1 i.size) (match x with
          | .slice base 0 0 => match srcA i.size y H with
            | some (nc, cols) => cond (emptyC base H && Nat.ble (sz nc) 65535) (cond (ltC al nc (lit .i64 1)) (some (.slice base 0 0, H)) (cond (ltC al (lit .i64 0) nc && ltC al nc (lit .i64 maxRow)) (some (.float .f32 (mk 3 0 H.next nc), H.new (.arr ⟨nc, cols, e⟩))) none)) none
            | none => none
          | .float .f32 c => cond (Nat.beq (cT c) 3 && Nat.ble H.base (cA c)) (match H.get (cA c) with
            | some (.arr r) => match tailA al i.size r y H with
              | some r' => cond (Nat.beq (cB c) r.n && Nat.beq r.elem e && Nat.beq r.cs.length i.size && geC al r.n && ltC al r.n (lit .i64 maxRow) && Nat.ble (sz r'.n) 65535 && ltC al r'.n (lit .i64 maxRow)) (some (.float .f32 (mk 3 0 H.next r'.n), (H.kill (cA c)).new (.arr r'))) none
              | none => none
            | _ => none) none
          | _ => none) none
        | none => none
      | none => none
    | _, _ => none
  | _, _, _ => none
theorem one_of {size n : Nat} {cols : List (Option IntKind × ACode)} {new : List Value} (h : ∀ j, j < n * size → ∃ v, acol S cols j = some v ∧ new[j]? = some v) (hl : new.length = n * size) : ∀ v ∈ new, v.oneCell' = true := by
  intro v hv
  obtain ⟨j, hj, rfl⟩ := List.getElem_of_mem hv
  obtain ⟨v, u1, u2⟩ := h j (by omega)
  rw [List.getElem?_eq_getElem hj] at u2
  simp only [Option.some.injEq] at u2
  rw [u2]
  unfold acol at u1
  split at u1
  · split at u1
    · simp only [Option.some.injEq] at u1
      rw [← u1]
      exact (kV_one _ _).2
    · simp at u1
  · simp at u1
theorem appendA_ok (ha : AlOk S al) {tys : Array TypeId} {ty : TypeId} {x y x0 x1 : Value} {H H' : Heap} {v : Value} (h : appendA P al tys [x, y] H = some (v, H')) (h0 : @VRel (symS S G) ι x x0) (h1 : @VRel (symS S G) ι y x1) {w : World} (hw : @Rel (symS S G) P ι H w) :
    ∃ ι' v' w', (Builtin.append_ tys ty #[x0, x1]).run P w = .ok v' w' ∧ Ext P ι w ι' w' ∧ @Rel (symS S G) P ι' H' w' ∧ @VRel (symS S G) ι' v v' := by
  unfold appendA at h
  split at h
  · rename_i st xt xa ya hst hxt heq
    obtain ⟨rfl, rfl⟩ : x = xa ∧ y = ya := by simpa using heq
    split at h
    · rename_i e xd hus hux
      split at h
      · rename_i inf hi
        split at h
        · rename_i z hz
          obtain ⟨g, h⟩ := condS h
          simp only [Bool.and_eq_true, Bool.not_eq_true'] at g
          obtain ⟨⟨⟨g1, g2⟩, g3⟩, g4⟩ := g
          have g2 := Nat.eq_of_beq_eq_true g2
          have g3 := Nat.le_of_ble_eq_true g3
          have g4 := Nat.le_of_ble_eq_true g4
          split at h
          · -- to an empty slice
            rename_i base
            split at h
            · rename_i nc cols hsrc
              obtain ⟨k, h⟩ := condS h
              simp only [Bool.and_eq_true] at k
              have k2 := Nat.le_of_ble_eq_true k.2
              obtain ⟨b0, rfl⟩ := emptyC_ok k.1 hw h0
              have hw1 := @Rel.draw (symS S G) P ι H w hw (w.drawn + 1)
              obtain ⟨n, new, hS⟩ := srcA_ok hsrc h1 hw
              letI := symS S G
              cases hz0 : ltC al nc (lit .i64 1) with
              | true =>
                rw [hz0, cond_true] at h
                simp only [Option.some.injEq, Prod.mk.injEq] at h
                obtain ⟨rfl, rfl⟩ := h
                have hlt := ltC_ok ha hz0 hS.len (ev_lit S _ _)
                obtain rfl : n = 0 := by omega
                have hnil : new = [] := List.length_eq_zero_iff.1 (by rw [hS.num]; simp)
                subst hnil
                refine ⟨ι, _, w, ?_, Ext.refl _ _, hw, h0⟩
                rw [run_append_fits (P := P) (ty := ty) (w := w) (args := #[.slice b0 0 0, x1]) hst hxt hus hux g1 hi (base := b0) (sl := 0) (sc := 0) (n := 0) rfl rfl hS.run (hS.fst w.drawn) (Nat.le_refl _)]
                cases b0 with
                | none => rfl
                | some a => rfl
              | false =>
                rw [hz0, cond_false] at h
                obtain ⟨k3, h⟩ := condS h
                simp only [Option.some.injEq, Prod.mk.injEq] at h
                obtain ⟨rfl, rfl⟩ := h
                simp only [Bool.and_eq_true] at k3
                have hpos := ltC_ok ha k3.1 (ev_lit S _ _) hS.len
                have hmax := ltC_ok ha k3.2 hS.len (ev_lit S _ _)
                unfold maxRow at hmax
                have hnew1 := hS.fst (w.drawn + 1)
                have hold : (Builtin.firstCells inf.size 0 (.slice b0 0 0)).run P { w with drawn := w.drawn + 1 } = .ok #[] { w with drawn := w.drawn + 1 } := by
                  unfold Builtin.firstCells
                  cases b0 with
                  | none => rfl
                  | some a => simp [Go.loadCells, Go.loadCellsFrom]
                have hnc : Builtin.nextslicecap (0 + n) 0 ≤ 16 * (0 + n) + 3072 := nextcap_le _ _ (by omega)
                have hcap2 : ¬ Builtin.nextslicecap (0 + n) 0 * inf.bytes > 2 ^ 48 := by
                  have e1 : Builtin.nextslicecap (0 + n) 0 * inf.bytes ≤ (16 * 4194304 + 3072) * 64 := Nat.mul_le_mul (by omega) g3
                  have : (2 : Nat) ^ 48 = 281474976710656 := by decide
                  omega
                have hrun := run_append_grows (P := P) (ty := ty) (w := w) (args := #[.slice b0 0 0, x1]) hst hxt hus hux g1 hi hz (base := b0) (sl := 0) (sc := 0) (n := n) rfl rfl hS.run hold hnew1 (by omega)
                  (by have : IntKind.i64.max = 9223372036854775807 := by decide
                      omega) hcap2
                obtain ⟨ι', x1', r1, v1⟩ := row_new (H := H) hw1 (r := ⟨nc, cols, e⟩) (n := n) (s := inf.size) (cap := room w (0 + n) 0 e) hS.len hS.wid g4 (show sz nc < 65536 by omega) (by have := room_ge w (0 + n) 0 e; omega) (all := new) hS.num hS.has (z := z.cells) g2
                have ea : #[] ++ new.toArray ++ Builtin.zeroCells z.cells (room w (0 + n) 0 e - (0 + n)) = new.toArray ++ Builtin.zeroCells z.cells (room w (0 + n) 0 e - n) := by simp
                rw [ea, Nat.zero_add] at hrun
                rw [Nat.zero_add] at x1' r1 v1
                exact ⟨ι', _, _, hrun, (Ext.draw ι w (w.drawn + 1)).trans x1', r1, v1⟩
            · simp at h
          · -- to a row
            rename_i c
            obtain ⟨k, h⟩ := condS h
            simp only [Bool.and_eq_true] at k
            have k1 := Nat.eq_of_beq_eq_true k.1
            have k2 := Nat.le_of_ble_eq_true k.2
            split at h
            · rename_i r hr
              split at h
              · rename_i r' hr'
                obtain ⟨q, h⟩ := condS h
                simp only [Option.some.injEq, Prod.mk.injEq] at h
                obtain ⟨rfl, rfl⟩ := h
                simp only [Bool.and_eq_true] at q
                obtain ⟨⟨⟨⟨⟨⟨q1, q2⟩, q3⟩, q4⟩, q5⟩, q6⟩, q7⟩ := q
                have q1 := Nat.eq_of_beq_eq_true q1
                have q2 := Nat.eq_of_beq_eq_true q2
                have q3 := Nat.eq_of_beq_eq_true q3
                have q6 := Nat.le_of_ble_eq_true q6
                rcases ref_inv h0 with ⟨_, ht⟩ | ⟨n0, cap, i, _, ⟨e1, e1'⟩, e2, e3, e4, rfl⟩ | ⟨_, _, ht, _⟩
                · omega
                · rw [q1] at e1
                  have m0 : n0 < maxRow := ltC_ok ha q5 e1 (ev_lit S _ _)
                  have en0 : ev S r.n = some [((n0.toNat : Nat) : Int)] := by rw [e1]; congr 2; omega
                  unfold tailA at hr'
                  split at hr'
                  · rename_i nc cols hsrc
                    split at hr'
                    · rename_i n' hsum
                      obtain ⟨u, hr'⟩ := condS hr'
                      simp only [Option.some.injEq] at hr'
                      subst hr'
                      simp only [Bool.and_eq_true] at u
                      obtain ⟨n, new, hS⟩ := srcA_ok hsrc h1 hw
                      have hm : (n : Int) < maxRow := ltC_ok ha u.2 hS.len (ev_lit S _ _)
                      have en' : ev S n' = some [((n0.toNat + n : Nat) : Int)] := by
                        rw [sumC_ok ha hsum en0 hS.len ⟨by omega, by omega⟩ ⟨by omega, by omega⟩]
                        congr 2
                      have hmax : ((n0.toNat + n : Nat) : Int) < maxRow := ltC_ok ha q7 en' (ev_lit S _ _)
                      have hk := u.1.1
                      obtain ⟨c1, c2⟩ := cat_cells (N := n) en0 hk (by omega)
                      obtain ⟨l1, l2, _⟩ := catCols_ok (c := r.n) en0 hk
                      exact row_append hst hxt hus hux g1 hi hz g2 g3 g4 hw hr e2 k2 en0 q2 q3 e4 e3 hS.run (r' := ⟨n', catCols r.n r.cs cols, r.elem⟩) en' (by show sz n' < 65536; have : sz n' ≤ 65535 := q6; omega) (by omega) q2 (by show (catCols r.n r.cs cols).length = _; rw [l1, q3])
                        (fun j hj => c1 j (by rw [q3]; exact hj)) (fun d => ⟨new, hS.fst d, hS.num, one_of hS.has hS.num, fun m hm => by
                          obtain ⟨v, v1, v2⟩ := hS.has m hm
                          refine ⟨v, ?_, v2⟩
                          rw [← v1, ← q3]
                          exact c2 m (by rw [q3]; exact hm)⟩)
                    · simp at hr'
                  · split at hr'
                    · rename_i N l hnews
                      split at hr'
                      · rename_i n' cols hsum hupd
                        obtain ⟨u, hr'⟩ := condS hr'
                        simp only [Option.some.injEq] at hr'
                        subst hr'
                        simp only [Bool.and_eq_true] at u
                        have u1 := Nat.eq_of_beq_eq_true u.1.1
                        have u2 := Nat.le_of_ble_eq_true u.1.2
                        letI := symS S G
                        have hNm : ((N : Nat) : Int) ≤ maxRow := by unfold maxRow; omega
                        have en' : ev S n' = some [((n0.toNat + N : Nat) : Int)] := by
                          rw [sumC_ok ha hsum en0 (ev_lit S .i64 (N : Int)) ⟨by omega, by omega⟩ ⟨by omega, hNm⟩]
                          congr 2
                        have hmax : ((n0.toNat + N : Nat) : Int) < maxRow := ltC_ok ha q7 en' (ev_lit S _ _)
                        have upd : ∀ l' : List Value, LRel ι l l' → cols.length = inf.size ∧ (∀ j, j < (n0.toNat + 0) * inf.size → acol S cols j = acol S r.cs j) ∧ ∀ m, m < N * inf.size → ∃ v, acol S cols ((n0.toNat + 0) * inf.size + m) = some v ∧ l'.getD (0 * inf.size + m) undf = v := fun l' hlr =>
                          updEls_ok (G := G) (ι := ι) ha en0 (by omega) (show 0 < inf.size by omega) (fun m => l'.getD m undf) N 0 r.cs l cols (by omega) q3 hupd fun m hm => by
                            rw [Nat.zero_mul, Nat.zero_add]
                            exact hlr.2 m (by omega)
                        obtain ⟨hlen, l0, _, hlr0⟩ := news_ok hw h1 hnews
                        obtain ⟨c1, c2, _⟩ := upd l0 hlr0
                        exact row_append hst hxt hus hux g1 hi hz g2 g3 g4 hw hr e2 k2 en0 q2 q3 e4 e3 hlen (r' := ⟨n', cols, r.elem⟩) en' (by show sz n' < 65536; have : sz n' ≤ 65535 := q6; omega) (by omega) q2 c1
                          (fun j hj => c2 j (by simpa using hj)) (fun d => by
                            obtain ⟨_, l', hl', hlr⟩ := news_ok (hw.draw d) h1 hnews
                            obtain ⟨_, _, c3⟩ := upd l' hlr
                            have hll : l'.length = N * inf.size := by rw [← hlr.1]; exact u1
                            refine ⟨l', hl', hll, oneCells hlr u.2, fun m hm => ?_⟩
                            obtain ⟨v, v1, v2⟩ := c3 m hm
                            refine ⟨v, by simpa using v1, ?_⟩
                            rw [Nat.zero_mul, Nat.zero_add] at v2
                            rw [← v2]
                            have hlt : m < l'.length := by omega
                            simp [hlt])
                      · simp at hr'
                    · simp at hr'
                · omega
              · simp at h
            · simp at h
          · simp at h
        · simp at h
      · simp at h
    · simp at h
  · simp at h
/-! ### A whole element stored -/
theorem run_storeRow {blk o : Nat} {t : TypeId} : ∀ (l : List Value) (w : World) (cs : Array Value) (i : Nat), w.heap[blk]? = some (.cells cs t (0, 0)) → (∀ v ∈ l, v.oneCell' = true) → o + i + l.length ≤ cs.size →
    ∃ w' cs', (Go.storeCells (⟨blk, o, none⟩ : Addr) l i).run P w = .ok () w' ∧ (∀ k, w'.heap[k]? = if k = blk then some (.cells cs' t (0, 0)) else w.heap[k]?) ∧ w'.heap.size = w.heap.size ∧ (∀ a, w'.frozen? a = w.frozen? a) ∧ w'.tape = w.tape ∧ w'.os = w.os ∧ w'.output = w.output ∧ cs'.size = cs.size ∧
      (∀ j, j < l.length → cs'[o + i + j]? = some (l.getD j undf)) ∧ ∀ k, k < o + i ∨ o + i + l.length ≤ k → cs'[k]? = cs[k]?
  | [], w, cs, i, hb, _, _ => ⟨w, cs, by simp [Go.storeCells], fun k => by
      by_cases e : k = blk
      · rw [if_pos e, e]; exact hb
      · rw [if_neg e], rfl, fun _ => rfl, rfl, rfl, rfl, rfl, fun j hj => by simp at hj, fun _ _ => rfl⟩
  | v :: l, w, cs, i, hb, ho, hl => by
    have hl' : o + i + (l.length + 1) ≤ cs.size := hl
    have hc : w.cell? ⟨blk, o + i, none⟩ = some cs[o + i] := by
      simp only [World.cell?, hb, Option.isSome_none, Bool.false_eq_true, if_false]
      exact Array.getElem?_eq_getElem (by omega)
    have hfz : w.frozen? ⟨blk, o + i, none⟩ = false := by simp [World.frozen?, hb]
    have hst : (Go.store (⟨blk, o + i, none⟩ : Addr) v).run P w = .ok () (w.setCell ⟨blk, o + i, none⟩ v) := by
      rw [run_store P w _ _ _ (ho v List.mem_cons_self), hc]
      simp [hfz]
    have hheap : ∀ k, (w.setCell ⟨blk, o + i, none⟩ v).heap[k]? = if k = blk then some (.cells (cs.setIfInBounds (o + i) v) t (0, 0)) else w.heap[k]? := by
      intro k
      simp only [World.setCell, Array.getElem?_modify]
      by_cases hbb : k = blk
      · subst hbb; simp [hb]
      · rw [if_neg (fun e => hbb e.symm), if_neg hbb]
    obtain ⟨w', cs', r1, r2, r3, r4, r5, r6, r7, r8, r9, r10⟩ := run_storeRow (blk := blk) (o := o) (t := t) l (w.setCell ⟨blk, o + i, none⟩ v) (cs.setIfInBounds (o + i) v) (i + 1) (by rw [hheap, if_pos rfl]) (fun x hx => ho x (List.mem_cons_of_mem _ hx)) (by rw [Array.size_setIfInBounds]; omega)
    refine ⟨w', cs', ?_, fun k => ?_, ?_, fun a => ?_, ?_, ?_, ?_, ?_, fun j hj => ?_, fun k hk => ?_⟩
    · letI := noSyms fun _ => none
      rw [Go.storeCells, addr_add, Sem.run_bind, hst]
      exact r1
    · rw [r2, hheap]
      by_cases e : k = blk
      · rw [if_pos e, if_pos e]
      · rw [if_neg e, if_neg e, if_neg e]
    · rw [r3]; simp [World.setCell]
    · rw [r4]; exact World.frozen?_setCell _ _ _ _
    · rw [r5]; rfl
    · rw [r6]; rfl
    · rw [r7]; rfl
    · rw [r8, Array.size_setIfInBounds]
    · cases j with
      | zero =>
        rw [r10 (o + i + 0) (.inl (by omega))]
        simp only [Nat.add_zero, List.getD_cons_zero]
        rw [Array.getElem?_setIfInBounds_self_of_lt (by omega)]
      | succ j =>
        have := r9 j (by simpa using hj)
        rw [show o + i + (j + 1) = o + (i + 1) + j by omega, this]
        simp
    · rw [r10 k (by
        rcases hk with h | h
        · exact .inl (by omega)
        · exact .inr (by have h' : o + i + (l.length + 1) ≤ k := h; omega)), Array.getElem?_setIfInBounds_ne (by
        rcases hk with h | h
        · omega
        · have h' : o + i + (l.length + 1) ≤ k := h; omega)]
noncomputable def storeG (P : Program) (al : List (Nat × Value)) (t : TypeId) (x v : Value) (H : Heap) : Option Heap := match v, placeA al x H, P.info? t with
  | .agg vs, some (b, ci, r, m), some i => cond (Nat.beq i.size r.cs.length && Nat.beq m 0 && Nat.ble H.base b && Nat.beq vs.size r.cs.length) (match updEl ci r.cs vs.toList with
    | some cs' => some (H.put b (.arr { r with cs := cs' }))
    | none => none) none
  | _, _, _ => none
theorem storeG_ok (ha : AlOk S al) {t : TypeId} {x x' v v' : Value} {H H' : Heap} (h : storeG P al t x v H = some H') (hx : @VRel (symS S G) ι x x') (hv : @VRel (symS S G) ι v v') {w : World} (hw : @Rel (symS S G) P ι H w) :
    ∃ w', (Instr.storeAt t x' v').run P w = .ok () w' ∧ Ext P ι w ι w' ∧ @Rel (symS S G) P ι H' w' := by
  unfold storeG at h
  split at h
  · rename_i vs b ci r m inf hp hinf
    obtain ⟨g, h'⟩ := condS h
    clear h
    have h := h'
    clear h'
    simp only [Bool.and_eq_true] at g
    obtain ⟨⟨⟨g1, g2⟩, g3⟩, g4⟩ := g
    have g1 := Nat.eq_of_beq_eq_true g1
    have g3 := Nat.le_of_ble_eq_true g3
    have g4 := Nat.eq_of_beq_eq_true g4
    obtain rfl := Nat.eq_of_beq_eq_true g2
    split at h
    · rename_i cols hcols
      simp only [Option.some.injEq] at h
      subst h
      obtain ⟨n, i, cs, N, e1, h0, e2, hlt, hsz, e3, e4, e5, rfl, e6, e7, e8, e9, e10⟩ := placeA_ok ha hp hx hw
      have hn : ((n.toNat : Nat) : Int) = n := by omega
      obtain ⟨ys, rfl, hys, hyk⟩ : ∃ ys : Array Value, v' = .agg ys ∧ vs.size = ys.size ∧ ∀ k, k < vs.size → @VRel (symS S G) ι (vs.getD k undf) (ys.getD k undf) := by
        letI := symS S G
        cases hv with
        | agg a b => exact ⟨_, rfl, a, b⟩
      obtain ⟨u1, u2⟩ := updEl_ok (G := G) (ι := ι) (n := n.toNat) (by rw [hn]; exact e1) r.cs vs.toList cols hcols (fun k => ys.getD k undf) fun k hk => by
        have := hyk k (by omega)
        rwa [show vs.toList.getD k undf = vs.getD k undf by simp]
      have hone : ∀ y ∈ ys.toList, y.oneCell' = true := fun y hy => by
        obtain ⟨k, hk, rfl⟩ := List.getElem_of_mem hy
        have hl0 : ys.toList.length = ys.size := by simp
        have hk' : k < r.cs.length := by omega
        obtain ⟨p', _, _, _, z, _, ez⟩ := u2 k _ (List.getElem?_eq_getElem hk')
        have : ys.toList[k] = ys.getD k undf := by simp at hk; simp [hk]
        rw [this, ez]
        exact (kV_one _ _).2
      have hroom : n.toNat * r.cs.length + r.cs.length ≤ N.toNat * r.cs.length := by
        have := Nat.mul_le_mul_right r.cs.length (show n.toNat + 1 ≤ N.toNat by omega)
        rwa [Nat.add_mul, Nat.one_mul] at this
      have hl0 : ys.toList.length = ys.size := by simp
      have hlen : ys.toList.length = r.cs.length := by omega
      obtain ⟨w', cs', r1, r2, r3, r4, r5, r6, r7, r8, r9, r10⟩ := run_storeRow (P := P) (o := i.off + (n.toNat * r.cs.length + 0)) ys.toList w cs 0 e6 hone (by omega)
      obtain ⟨q1, q2⟩ := Rel.setArr (r' := { r with cs := cols }) hw e3 e4 g3 r2 r3 (by
        letI := symS S G
        refine ⟨⟨e7.trans u1.symm, by rw [u1]; omega⟩, _, N.toNat, rfl, ?_, by rw [r8]; exact e8, by rw [r8, u1]; exact e9, fun j hj => ?_⟩
        · show (match ev S r.n with | some [n] => some n.toNat | _ => none) = some N.toNat
          rw [e2]
        · rw [u1] at hj
          show ∃ v, acol S cols j = some v ∧ _
          have hjm : j % r.cs.length < r.cs.length := Nat.mod_lt _ (by omega)
          have hjd : (j / r.cs.length) * r.cs.length + j % r.cs.length = j := by rw [Nat.mul_comm]; exact Nat.div_add_mod _ _
          obtain ⟨vj, b1, b2⟩ := e10 j hj
          obtain ⟨pm, hpm⟩ : ∃ pm, r.cs[j % r.cs.length]? = some pm := ⟨_, List.getElem?_eq_getElem hjm⟩
          obtain ⟨p', p1, p2, p3, z, p4, p5⟩ := u2 (j % r.cs.length) _ hpm
          have e : j = (j / r.cs.length) * cols.length + j % r.cs.length := by rw [u1]; exact hjd.symm
          by_cases hjn : j / r.cs.length = n.toNat
          · refine ⟨kV p'.1 z, ?_, ?_⟩
            · rw [e, acol_at p1, hjn, p4]
            · have := r9 (j % r.cs.length) (by omega)
              rw [show i.off + (n.toNat * r.cs.length + 0) + 0 + j % r.cs.length = i.off + j by rw [← hjn]; omega] at this
              rw [this, p2, ← p5]
              simp
          · refine ⟨vj, ?_, ?_⟩
            · have hz : acol S r.cs ((j / r.cs.length) * r.cs.length + j % r.cs.length) = some vj := by rw [hjd]; exact b1
              obtain ⟨z', c1, rfl⟩ := acol_some hpm hz
              rw [e, acol_at p1, p3 _ hjn, c1, p2]
            · rw [r10 _ (by
                by_cases hle : j / r.cs.length < n.toNat
                · have := Nat.mul_le_mul_right r.cs.length (show j / r.cs.length + 1 ≤ n.toNat by omega)
                  rw [Nat.add_mul, Nat.one_mul] at this
                  exact .inl (by omega)
                · have := Nat.mul_le_mul_right r.cs.length (show n.toNat + 1 ≤ j / r.cs.length by omega)
                  rw [Nat.add_mul, Nat.one_mul] at this
                  exact .inr (by omega))]
              exact b2) r4 r5 r6 r7
      refine ⟨_, ?_, q1, q2⟩
      letI := noSyms fun _ => none
      unfold Instr.storeAt
      simp only [Instr.sureAddr, Sem.run_bind, Sem.run_pure, Result.andThen_ok]
      unfold Go.storeVar
      simp only [Sem.run_bind, run_sizeOf' hinf, Result.andThen_ok]
      rw [if_neg (by show ¬ ys.size ≠ inf.size; omega)]
      exact r1
    · simp at h
  · simp at h
noncomputable def storeB (P : Program) (al : List (Nat × Value)) (t : TypeId) (x v : Value) (H : Heap) : Option Heap := match v with
  | .agg _ => storeG P al t x v H
  | _ => storeA P al t x v H
theorem storeB_ok (ha : AlOk S al) {t : TypeId} {x x' v v' : Value} {H H' : Heap} (h : storeB P al t x v H = some H') (hx : @VRel (symS S G) ι x x') (hv : @VRel (symS S G) ι v v') {w : World} (hw : @Rel (symS S G) P ι H w) :
    ∃ w', (Instr.storeAt t x' v').run P w = .ok () w' ∧ Ext P ι w ι w' ∧ @Rel (symS S G) P ι H' w' := by
  unfold storeB at h
  split at h
  · exact storeG_ok ha h hx hv hw
  · exact storeA_ok ha h hx hv hw
end Go.Ev
