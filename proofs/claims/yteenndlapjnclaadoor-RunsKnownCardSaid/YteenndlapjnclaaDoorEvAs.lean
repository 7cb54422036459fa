/-
  The evaluator: rows of numbers whose length is not known: loads, stores, make, append. Conditions: AlOk.
-/
import Derived.Test.YteenndlapjnclaaDoorEvAr
namespace Go.Ev
open Go.RowKit
variable {P : Program} {S : Sy} {G : Nat → Option Obj} {al : List (Nat × Value)} {ι : Inj}

theorem condS {b : Bool} {α : Type} {y : Option α} {v : α} (h : cond b y none = some v) : b = true ∧ y = some v := by
  cases b with
  | true => exact ⟨rfl, h⟩
  | false => simp at h
/-! ### An array's number -/
noncomputable def eqC (al : List (Nat × Value)) (a b : Nat) : Option Bool := match litI a, litI b with
  | some m, some n => some (eqI m n)
  | _, _ => cond (Nat.ble (sz b) 65535) (match fin al (mk 27 (kI .i64) a b) false with
    | some (.bool r) => some r
    | _ => none) none
theorem look_bool (ha : AlOk S al) {c : Nat} {b : Bool} (h : fin al c false = some (.bool b)) : ev S c = some [b2i b] := by
  unfold fin at h
  cases hl : look al c with
  | none => rw [hl] at h; simp [miss] at h
  | some v =>
    rw [hl] at h
    simp only [Option.some.injEq] at h
    subst h
    exact (look_ok ha hl).2
theorem eqC_ok (ha : AlOk S al) {a b : Nat} {m n : Int} {r : Bool} (h : eqC al a b = some r) (hm : ev S a = some [m]) (hn : ev S b = some [n]) : r = decide (m = n) := by
  unfold eqC at h
  split at h
  · rename_i x y hx hy
    have e1 := litI_ok (S := S) hx
    have e2 := litI_ok (S := S) hy
    rw [hm] at e1; rw [hn] at e2
    simp only [Option.some.injEq, List.cons.injEq, and_true] at e1 e2
    subst e1 e2
    simp only [Option.some.injEq] at h
    letI := noSyms fun _ => none
    rw [← h, eqI_eq, Bool.eq_iff_iff]
    simp
  · obtain ⟨hs, h⟩ := condS h
    have hs := Nat.le_of_ble_eq_true hs
    split at h
    · rename_i b' hb
      simp only [Option.some.injEq] at h
      subst h
      have e := look_bool ha hb
      rw [ev_mk S (kI_lt _) (by decide) (by decide) (by decide) (by omega), hm, hn] at e
      have e' : numV (vBin .eql .i64 m n) = some [b2i b'] := e
      simp only [vBin, numV, Option.some.injEq, List.cons.injEq, and_true] at e'
      have := congrArg (fun x : Int => decide (x ≠ 0)) e'
      simp only [b2i_ne] at this
      exact this.symm
    · simp at h
/-- A number of a kind by its code. -/
noncomputable def numK (al : List (Nat × Value)) (k : IntKind) (c : Nat) : Option Value := cond (!isBc c && Nat.beq (cK c) (kI k)) (match litI c with
  | some n => some (.int k n)
  | none => fin al c true) none
theorem numK_ok (ha : AlOk S al) {k : IntKind} {c : Nat} {v : Value} {n : Int} (h : numK al k c = some v) (hn : ev S c = some [n]) : @VRel (symS S G) ι v (.int k n) := by
  unfold numK at h
  obtain ⟨hi, h⟩ := condS h
  simp only [Bool.and_eq_true, Bool.not_eq_true'] at hi
  split at h
  · rename_i m hm
    have e := litI_ok (S := S) hm
    rw [hn] at e
    simp only [Option.some.injEq, List.cons.injEq, and_true] at e
    subst e
    simp only [Option.some.injEq] at h
    subst h
    letI := symS S G
    exact .int _ _
  · have := fin_num (G := G) (ι := ι) ha h hn
    unfold mkV at this
    rwa [hi.1, cond_false, Nat.eq_of_beq_eq_true hi.2, kOf_kI] at this
noncomputable def selA (al : List (Nat × Value)) (i : Nat) (k : IntKind) : ACode → Option Value
  | .var f => leafS al i f (some k)
  | .zero => some (.int k 0)
  | .upd a j v => cond (Nat.beq i j) (numK al k v) (match eqC al i j with
    | some true => numK al k v
    | some false => selA al i k a
    | none => none)
theorem selA_ok (ha : AlOk S al) {i : Nat} (hs : sz (mk 7 0 i (mk 6 0 0 0)) < 65536) {k : IntKind} {n : Int} (hn : ev S i = some [n]) : ∀ (a : ACode) (v : Value) (x : Int), selA al i k a = some v → aden S a n = some x → @VRel (symS S G) ι v (.int k x)
  | .var f, v, x, h, hx => by
    simp only [aden, Option.some.injEq] at hx
    subst hx
    exact leafS_ok (G := G) (ι := ι) ha hs (k := some k) h hn
  | .zero, v, x, h, hx => by
    simp only [aden, Option.some.injEq] at hx
    subst hx
    simp only [selA, Option.some.injEq] at h
    subst h
    letI := symS S G
    exact .int _ _
  | .upd a j u, v, x, h, hx => by
    simp only [aden] at hx
    split at hx
    · rename_i j' u' hj hu
      simp only [selA] at h
      cases hb : Nat.beq i j with
      | true =>
        rw [hb, cond_true] at h
        have hij := Nat.eq_of_beq_eq_true hb
        subst hij
        rw [hn] at hj
        simp only [Option.some.injEq, List.cons.injEq, and_true] at hj
        rw [if_pos hj] at hx
        simp only [Option.some.injEq] at hx
        subst hx
        exact numK_ok (G := G) (ι := ι) ha h hu
      | false =>
        rw [hb, cond_false] at h
        split at h
        · rename_i he
          have := eqC_ok ha he hn hj
          rw [if_pos (by simpa using this.symm)] at hx
          simp only [Option.some.injEq] at hx
          subst hx
          exact numK_ok (G := G) (ι := ι) ha h hu
        · rename_i he
          have := eqC_ok ha he hn hj
          rw [if_neg (by simpa using this.symm)] at hx
          exact selA_ok ha hs hn a v x h hx
        · simp at h
    · simp at hx

/-! ### Loads and stores -/
/-- A place in a row that is there. -/
noncomputable def placeA (al : List (Nat × Value)) (x : Value) (H : Heap) : Option (Nat × Nat × ArrB) := match x with
  | .float .f32 c => cond (Nat.beq (cT c) 4 && Nat.ble (sz (mk 7 0 (cB c) (mk 6 0 0 0))) 65535 && geC al (cB c)) (match H.get (cA c) with
    | some (.arr r) => cond (ltC al (cB c) r.n) (some (cA c, cB c, r)) none
    | _ => none) none
  | _ => none
theorem placeA_ok (ha : AlOk S al) {x x' : Value} {H : Heap} {b ci : Nat} {r : ArrB} (h : placeA al x H = some (b, ci, r)) (hx : @VRel (symS S G) ι x x') {w : World} (hw : @Rel (symS S G) P ι H w) :
    ∃ n i cs N, ev S ci = some [n] ∧ 0 ≤ n ∧ ev S r.n = some [N] ∧ n < N ∧ sz (mk 7 0 ci (mk 6 0 0 0)) < 65536 ∧ H.get b = some (.arr r) ∧ ι b = some i ∧ i.off = 0 ∧ x' = .pointer (some ⟨i.blk, n.toNat, none⟩) ∧ w.heap[i.blk]? = some (.cells cs r.elem (0, 0)) ∧ N.toNat ≤ cs.size ∧
      (∀ j : Nat, j < N.toNat → ∃ x, aden S r.a j = some x ∧ cs[j]? = some (.int r.k x)) := by
  unfold placeA at h
  split at h
  · rename_i c
    obtain ⟨g, h⟩ := condS h
    simp only [Bool.and_eq_true] at g
    obtain ⟨⟨g1, g2⟩, g3⟩ := g
    have g1 := Nat.eq_of_beq_eq_true g1
    have g2 := Nat.le_of_ble_eq_true g2
    split at h
    · rename_i r' hr
      obtain ⟨g4, h⟩ := condS h
      simp only [Option.some.injEq, Prod.mk.injEq] at h
      obtain ⟨rfl, rfl, rfl⟩ := h
      rcases ref_inv hx with ⟨_, ht⟩ | ⟨_, _, _, ht, _⟩ | ⟨n, i, _, e1, e2, e3, rfl⟩
      · omega
      · omega
      · have h0 := geC_ok ha g3 e1
        letI := symS S G
        obtain ⟨j, o, q1, q2, q3⟩ := hw.live _ _ hr
        obtain rfl : i = j := by rw [e2] at q1; exact Option.some.inj q1
        obtain ⟨q4, cs, m, rfl, q5, q6, q7⟩ := (show NRel i o r' from q3)
        have q5' : (match ev S r'.n with | some [n] => some n.toNat | _ => none) = some m := q5
        split at q5'
        · rename_i N hN
          simp only [Option.some.injEq] at q5'
          subst q5'
          have hlt := ltC_ok ha g4 e1 hN
          refine ⟨n, i, cs, N, e1, h0, hN, hlt, by omega, hr, e2, e3, rfl, q2, q6, fun j hj => ?_⟩
          obtain ⟨v, a1, a2⟩ := q7 j hj
          have a1' : (match aden S r'.a j with | some n => some (Value.int r'.k n) | none => none) = some v := a1
          split at a1'
          · rename_i x hx'
            simp only [Option.some.injEq] at a1'
            exact ⟨x, hx', by rw [a2, a1']⟩
          · simp at a1'
        · simp at q5'
    · simp at h
  · simp at h
noncomputable def loadA (P : Program) (al : List (Nat × Value)) (t : TypeId) (x : Value) (H : Heap) : Option Value := match P.underlying t with
  | some d => cond (isAggD d) none (match placeA al x H with
    | some (_, ci, r) => selA al ci r.k r.a
    | none => none)
  | none => none
theorem loadA_ok (ha : AlOk S al) {t : TypeId} {x x' v : Value} {H : Heap} (h : loadA P al t x H = some v) (hx : @VRel (symS S G) ι x x') {w : World} (hw : @Rel (symS S G) P ι H w) :
    ∃ v', (Instr.loadAt t x').run P w = .ok v' w ∧ @VRel (symS S G) ι v v' := by
  unfold loadA at h
  split at h
  · rename_i d hd
    cases hag : isAggD d with
    | true => rw [hag] at h; simp at h
    | false =>
      rw [hag, cond_false] at h
      split at h
      · rename_i b ci r hp
        obtain ⟨n, i, cs, N, e1, h0, e2, hlt, hsz, e3, e4, e5, rfl, e6, e7, e8⟩ := placeA_ok ha hp hx hw
        obtain ⟨x, a1, a2⟩ := e8 n.toNat (by omega)
        rw [show ((n.toNat : Nat) : Int) = n by omega] at a1
        refine ⟨.int r.k x, ?_, selA_ok ha hsz e1 r.a v x h a1⟩
        have hc : w.cell? ⟨i.blk, n.toNat, none⟩ = some (.int r.k x) := by
          simp only [World.cell?, e6, Option.isSome_none, Bool.false_eq_true, if_false]
          exact a2
        unfold Instr.loadAt
        simp only [Instr.sureAddr, Sem.run_bind, Sem.run_pure, Result.andThen_ok]
        exact run_loadVar1 hd hag hc
      · simp at h
  · simp at h

theorem Rel.setArr {H : Heap} {w : World} (hw : @Rel (symS S G) P ι H w) {b : Nat} {r r' : ArrB} {i : Info} (hb : H.get b = some (.arr r)) (hi : ι b = some i) (hg : H.base ≤ b) {cs' : Array Value} {e : TypeId}
    {w' : World} (hheap : ∀ k, w'.heap[k]? = if k = i.blk then some (.cells cs' e (0, 0)) else w.heap[k]?) (hsize : w'.heap.size = w.heap.size) (hN : @NRel (symS S G) i (.cells cs' e (0, 0)) r') (hf : ∀ a, w'.frozen? a = w.frozen? a) (ht : w'.tape = w.tape) (hos : w'.os = w.os) (hou : w'.output = w.output) :
    Ext P ι w ι w' ∧ @Rel (symS S G) P ι (H.put b (.arr r')) w' := by
  letI := symS S G
  have hkg : P.globals.size ≤ b := by rw [← hw.gsize]; exact hg
  have key : ∀ k, k < w.heap.size → (∀ n i, ι n = some i → P.globals.size ≤ n → i.blk ≠ k) → w'.heap[k]? = w.heap[k]? := fun k _ hne => by
    rw [hheap, if_neg (fun e => hne _ _ hi hkg e.symm)]
  refine ⟨⟨Sub.refl ι, by rw [hsize]; exact Nat.le_refl _, fun n i h h' => .inl ⟨n, i, h, h', rfl⟩, key, hf, ht, hos, hou⟩, ?_⟩
  refine ⟨hw.keepG key, hw.gsize, hw.glob, hw.over, hw.next, by rw [hsize]; exact hw.room, hw.fresh, hw.hole, fun n k hk => by rw [hsize]; exact hw.below _ _ hk, fun n b' hn => ?_, fun n m b' d i' j' hn hm hi' hj' he => ?_⟩
  · simp only [Heap.get_put] at hn
    by_cases hna : n = b
    · subst hna
      rw [if_pos rfl] at hn
      simp only [Option.some.injEq] at hn
      subst hn
      exact ⟨i, _, hi, by rw [hheap, if_pos rfl], hN⟩
    · rw [if_neg hna] at hn
      obtain ⟨j, o, hj, ho', hr'⟩ := hw.live _ _ hn
      refine ⟨j, o, hj, ?_, hr'⟩
      rw [hheap, if_neg]
      · exact ho'
      · intro e
        exact hna (hw.inj _ _ _ _ _ _ hn hb hj hi e)
  · simp only [Heap.get_put] at hn hm
    have g1 : ∃ b, H.get n = some b := by
      by_cases hna : n = b
      · subst hna; exact ⟨_, hb⟩
      · rw [if_neg hna] at hn; exact ⟨_, hn⟩
    have g2 : ∃ b, H.get m = some b := by
      by_cases hna : m = b
      · subst hna; exact ⟨_, hb⟩
      · rw [if_neg hna] at hm; exact ⟨_, hm⟩
    obtain ⟨_, g1⟩ := g1
    obtain ⟨_, g2⟩ := g2
    exact hw.inj _ _ _ _ _ _ g1 g2 hi' hj' he
noncomputable def storeA (P : Program) (al : List (Nat × Value)) (t : TypeId) (x v : Value) (H : Heap) : Option Heap := match placeA al x H, P.info? t, vcode v with
  | some (b, ci, r), some i, some cv => cond (Nat.beq i.size 1 && !isBc cv && Nat.beq (cK cv) (kI r.k) && Nat.ble H.base b) (some (H.put b (.arr { r with a := .upd r.a ci cv }))) none
  | _, _, _ => none
theorem storeA_ok (ha : AlOk S al) {t : TypeId} {x x' v v' : Value} {H H' : Heap} (h : storeA P al t x v H = some H') (hx : @VRel (symS S G) ι x x') (hv : @VRel (symS S G) ι v v') {w : World} (hw : @Rel (symS S G) P ι H w) :
    ∃ w', (Instr.storeAt t x' v').run P w = .ok () w' ∧ Ext P ι w ι w' ∧ @Rel (symS S G) P ι H' w' := by
  unfold storeA at h
  split at h
  · rename_i b ci r inf cv hp hinf hcv
    obtain ⟨g, h⟩ := condS h
    simp only [Option.some.injEq] at h
    subst h
    simp only [Bool.and_eq_true, Bool.not_eq_true'] at g
    obtain ⟨⟨⟨g1, g2⟩, g3⟩, g4⟩ := g
    have g1 := Nat.eq_of_beq_eq_true g1
    have g3 := Nat.eq_of_beq_eq_true g3
    have g4 := Nat.le_of_ble_eq_true g4
    obtain ⟨n, i, cs, N, e1, h0, e2, hlt, hsz, e3, e4, e5, rfl, e6, e7, e8⟩ := placeA_ok ha hp hx hw
    obtain ⟨y, rfl, ey⟩ := vcode_ok hv hcv
    have hmk : mkV cv y = .int r.k y := by unfold mkV; rw [g2, cond_false, g3, kOf_kI]
    rw [hmk]
    obtain ⟨x0, a1, a2⟩ := e8 n.toNat (by omega)
    have hnl : n.toNat < cs.size := by omega
    have hc : w.cell? ⟨i.blk, n.toNat, none⟩ = some (.int r.k x0) := by
      simp only [World.cell?, e6, Option.isSome_none, Bool.false_eq_true, if_false]
      exact a2
    have hfz : w.frozen? ⟨i.blk, n.toNat, none⟩ = false := by simp [World.frozen?, e6]
    have hheap : ∀ k, (w.setCell ⟨i.blk, n.toNat, none⟩ (.int r.k y)).heap[k]? = if k = i.blk then some (.cells (cs.setIfInBounds n.toNat (.int r.k y)) r.elem (0, 0)) else w.heap[k]? := by
      intro k
      simp only [World.setCell, Array.getElem?_modify]
      by_cases hbb : k = i.blk
      · subst hbb; simp [e6]
      · rw [if_neg (fun e => hbb e.symm), if_neg hbb]
    have hsize : (w.setCell ⟨i.blk, n.toNat, none⟩ (.int r.k y)).heap.size = w.heap.size := by simp [World.setCell]
    obtain ⟨r1, r2⟩ := Rel.setArr (r' := { r with a := .upd r.a ci cv }) hw e3 e4 g4 hheap hsize (by
      letI := symS S G
      refine ⟨e5, _, N.toNat, rfl, ?_, by simpa using e7, fun j hj => ?_⟩
      · show (match ev S r.n with | some [n] => some n.toNat | _ => none) = some N.toNat
        rw [e2]
      · obtain ⟨xj, b1, b2⟩ := e8 j hj
        by_cases hjn : j = n.toNat
        · refine ⟨.int r.k y, ?_, by rw [hjn]; simp [hnl]⟩
          show (match aden S (.upd r.a ci cv) j with | some n => some (Value.int r.k n) | none => none) = some (.int r.k y)
          have : ((j : Nat) : Int) = n := by omega
          simp only [aden, e1, ey, this, if_true]
        · refine ⟨.int r.k xj, ?_, by rw [← b2]; simp [show ¬ n.toNat = j from fun e => hjn e.symm]⟩
          show (match aden S (.upd r.a ci cv) j with | some n => some (Value.int r.k n) | none => none) = some (.int r.k xj)
          have : ¬ ((j : Nat) : Int) = n := by omega
          simp only [aden, e1, ey, this, if_false, b1]) (fun x => World.frozen?_setCell _ _ _ _) rfl rfl rfl
    refine ⟨_, ?_, r1, r2⟩
    letI := noSyms fun _ => none
    unfold Instr.storeAt
    simp only [Instr.sureAddr, Sem.run_bind, Sem.run_pure, Result.andThen_ok]
    unfold Go.storeVar
    simp only [Sem.run_bind, run_sizeOf' hinf, Result.andThen_ok]
    have hcs : (Value.int r.k y).cells = #[.int r.k y] := rfl
    rw [hcs, g1]
    have hst : (Go.store (⟨i.blk, n.toNat, none⟩ : Addr) (.int r.k y)).run P w = .ok () (w.setCell ⟨i.blk, n.toNat, none⟩ (.int r.k y)) := by
      rw [run_store P w _ _ _ rfl, hc]
      simp [hfz]
    have hadd : (⟨i.blk, n.toNat, none⟩ : Addr).add 0 = ⟨i.blk, n.toNat, none⟩ := by simp [Addr.add]
    simp only [List.size_toArray, List.length_cons, List.length_nil, Nat.zero_add, ne_eq, not_true_eq_false, if_false]
    simp only [Go.storeCells, hadd, Sem.run_bind, hst, Result.andThen_ok, Sem.run_pure]
  · simp at h

/-! ### make and append -/
def maxRow : Int := 4194304
noncomputable def mkArr (P : Program) (al : List (Nat × Value)) (t : TypeId) (l c : Value) (H : Heap) : Option (Value × Heap) := match P.underlying t, vcode l, vcode c with
  | some (.slice e), some lc, some cc => match P.info? e with
    | some i => match i.zero with
      | some (.int k z) => cond (Nat.beq lc cc && isI lc && Nat.ble (sz lc) 65535 && Nat.beq i.size 1 && eqI z 0 && geC al lc && ltC al lc (lit .i64 maxRow) && Nat.ble i.bytes 64)
          (some (.float .f32 (mk 3 0 H.next lc), H.new (.arr ⟨lc, .zero, k, e⟩))) none
      | _ => none
    | none => none
  | _, _, _ => none
theorem mkArr_new {t : TypeId} {l c : Value} {H H' : Heap} {v : Value} (h : mkArr P al t l c H = some (v, H')) : ∃ b, H' = H.new b := by
  unfold mkArr at h
  split at h
  · split at h
    · split at h
      · obtain ⟨_, h⟩ := condS h
        simp only [Option.some.injEq, Prod.mk.injEq] at h
        exact ⟨_, h.2.symm⟩
      · simp at h
    · simp at h
  · simp at h
theorem own3 {H : Nat} {lc : Nat} {n : Int} (hs : sz lc < 65536) (hn : ev S lc = some [n]) (h0 : 0 ≤ n) : ownS S (mk 3 0 H lc) = some (true, H, n.toNat) := by
  unfold ownS
  rw [mk_T (by decide) (by decide), if_pos rfl, mk_B (by decide) (by decide) hs, hn]
  dsimp only
  rw [if_pos h0, mk_A (by decide) (by decide) hs]
theorem mkArr_at (ha : AlOk S al) {t : TypeId} {l c l' c' : Value} (hl : @VRel (symS S G) ι l l') (hc : @VRel (symS S G) ι c c') {H H' : Heap} {v : Value} (h : mkArr P al t l c H = some (v, H')) {w : World} {X X' : Heap} (hw : @Rel (symS S G) P ι X w)
    (hN : ι H.next = none) (hbase : X'.base = X.base) (hnx : X.next ≤ X'.next) (hlt : H.next < X'.next) (hhole : ∀ n, n ∈ X'.hole → n ∈ X.hole ∧ n ≠ H.next) (hget : ∀ m, X'.get m = if m = H.next then H'.get H.next else X.get m) :
    ∃ i v' w', (Instr.makeSlice t l' c').run P w = .ok v' w' ∧ Ext P ι w (ι.with H.next i) w' ∧ @Rel (symS S G) P (ι.with H.next i) X' w' ∧ @VRel (symS S G) (ι.with H.next i) v v' := by
  unfold mkArr at h
  split at h
  · rename_i e lc cc hu hvl hvc
    split at h
    · rename_i inf hi
      split at h
      · rename_i k z hzz
        obtain ⟨g, h⟩ := condS h
        simp only [Option.some.injEq, Prod.mk.injEq] at h
        obtain ⟨rfl, rfl⟩ := h
        simp only [Bool.and_eq_true] at g
        obtain ⟨⟨⟨⟨⟨⟨⟨g1, g2⟩, g3⟩, g4⟩, g5⟩, g6⟩, g7⟩, g8⟩ := g
        obtain rfl := Nat.eq_of_beq_eq_true g1
        have g3 := Nat.le_of_ble_eq_true g3
        have c2 := Nat.eq_of_beq_eq_true g4
        have g8 := Nat.le_of_ble_eq_true g8
        have hz0 : z = 0 := by
          letI := noSyms fun _ => none
          rw [eqI_eq] at g5
          simpa using g5
        subst hz0
        obtain ⟨n, rfl, en⟩ := vcodeI hvl g2 hl
        obtain ⟨n', rfl, en'⟩ := vcodeI hvc g2 hc
        obtain rfl : n' = n := by rw [en] at en'; simpa using en'.symm
        have h0 := geC_ok ha g6 en
        have h1 : n' < maxRow := ltC_ok ha g7 en (ev_lit S _ _)
        unfold maxRow at h1
        letI := symS S G
        have hrow : NRel ⟨w.heap.size, 0, n'.toNat, 0, 1⟩ (.cells ((Array.range (n'.toNat * inf.size)).map fun x => #[Value.int k 0][x % (#[Value.int k 0] : Array Value).size]!) e (0, 0)) ⟨lc, .zero, k, e⟩ := by
          refine ⟨rfl, _, n'.toNat, rfl, ?_, by simp [c2], fun j hj => ⟨.int k 0, rfl, ?_⟩⟩
          · show (match ev S lc with | some [n] => some n.toNat | _ => none) = some n'.toNat
            rw [en]
          · simp [c2, hj, Nat.mod_one]
        obtain ⟨q1, q2, q3⟩ := hw.newAt (H' := X') (b := .arr ⟨lc, .zero, k, e⟩) (i := ⟨w.heap.size, 0, n'.toNat, 0, 1⟩) rfl hrow hN hbase hnx hlt hhole (fun m => by rw [hget m]; simp)
        refine ⟨_, .slice (some ⟨w.heap.size, 0, none⟩) n'.toNat n'.toNat, _, ?_, q2, q3, ?_⟩
        · have wl : IntKind.i64.wrap n' = n' := IntWalk.i64_in _ (by omega)
          have hb2 : (inf.bytes : Int) * n' ≤ 64 * 4194304 := Int.mul_le_mul (by omega) (by omega) h0 (by decide)
          have hbb : ¬ (inf.bytes : Int) * n' > 2 ^ 48 := by
            have : (2 : Int) ^ 48 = 281474976710656 := by decide
            omega
          have hcc : ¬ n' < 0 := by omega
          have hlc : ¬ n' > n' := by omega
          unfold Instr.makeSlice
          simp only [Sem.run_bind, run_underlying' hu, Result.andThen_ok, Go.asInt, Go.asIntOf, Sem.run_pure, run_typeInfo' hi, wl, hcc, hlc, hbb, decide_false, Bool.or_self, Bool.false_eq_true, if_false, run_askRoom, run_sizeOf' hi]
          by_cases hz : n'.toNat * inf.size = 0
          · have e0 : ∀ f : Nat → Value, (Array.range 0).map f = #[] := fun f => by simp
            rw [if_pos hz, hz]
            simp only [e0]
            rfl
          · rw [if_neg hz, Sem.run_bind, run_zeroValue' hi hzz]
            simp only [Result.andThen_ok, cells_one (z := Value.int k 0) rfl]
            rfl
        · refine VRel.ownS (i := ⟨w.heap.size, 0, n'.toNat, 0, 1⟩) (b := H.next) (show ownS S _ = some _ from own3 (by omega) en h0) (by simp [Inj.with]) rfl (Nat.le_refl _)
      · simp at h
    · simp at h
  · simp at h

/-- An empty slice with no room. -/
def emptyA (base : Option Addr) (H : Heap) : Bool := match base with
  | some a => Nat.ble H.next a.block
  | none => true
noncomputable def emptyC (base : Option Addr) (H : Heap) : Bool := match base with
  | some a => match H.get a.block with
    | some (.cells c) => !c.opn
    | _ => Nat.ble H.next a.block
  | none => true
theorem emptyC_ok {base : Option Addr} {H : Heap} (h : emptyC base H = true) {w : World} (hw : @Rel (symS S G) P ι H w) {v' : Value} (hv : @VRel (symS S G) ι (.slice base 0 0) v') : ∃ b', v' = .slice b' 0 0 := by
  letI := symS S G
  cases hv with
  | nilSlice => exact ⟨none, rfl⟩
  | emptySlice a a' => exact ⟨some a', rfl⟩
  | @slice a i _ _ c' h1 h2 h3 =>
    unfold emptyC at h
    dsimp only at h
    have fr : ¬ H.next ≤ a.block := fun hle => by rw [hw.fresh _ hle] at h1; simp at h1
    rcases h2 with rfl | ⟨h4, h5⟩
    · exact ⟨_, rfl⟩
    · split at h
      · rename_i c hc
        obtain ⟨j, o, q1, q2, q3⟩ := hw.live _ _ hc
        obtain rfl : i = j := by rw [h1] at q1; exact Option.some.inj q1
        obtain ⟨⟨r1, r2, r3⟩, cs, r4, r5, r6, r7⟩ := (show CRel ι i o c from q3)
        have := (r6 (by simpa using h)).1
        rw [this] at h5
        have hz : c' * i.esz = 0 := by omega
        have : c' = 0 := by
          rcases Nat.mul_eq_zero.1 hz with h | h
          · exact h
          · omega
        subst this
        exact ⟨_, rfl⟩
      · exact absurd (Nat.le_of_ble_eq_true h) fr
noncomputable def appendA (P : Program) (al : List (Nat × Value)) (tys : Array TypeId) (args : List Value) (H : Heap) : Option (Value × Heap) := match tys[0]?, tys[1]?, args with
  | some st, some xt, [.slice base 0 0, .float .f32 c] => match P.underlying st, P.underlying xt, H.get (cA c) with
    | some (.slice e), some xd, some (.arr r) => match P.info? e with
      | some i => match i.zero with
        | some z => cond (Nat.beq (cT c) 3 && Nat.beq (cB c) r.n && !isIntD xd && Nat.beq i.size 1 && Ev.oneCell z && Nat.ble i.bytes 64 && Nat.ble (sz (cB c)) 65535 && ltC al (lit .i64 0) (cB c) && ltC al (cB c) (lit .i64 maxRow) && emptyC base H)
            (some (.float .f32 (mk 3 0 H.next (cB c)), H.new (.arr { r with elem := e }))) none
        | none => none
      | none => none
    | _, _, _ => none
  | _, _, _ => none
theorem appendA_ok (ha : AlOk S al) {tys : Array TypeId} {ty : TypeId} {base : Option Addr} {c : Nat} {x0 x1 : Value} {H H' : Heap} {v : Value} (h : appendA P al tys [.slice base 0 0, .float .f32 c] H = some (v, H')) (h0 : @VRel (symS S G) ι (.slice base 0 0) x0) (h1 : @VRel (symS S G) ι (.float .f32 c) x1) {w : World} (hw : @Rel (symS S G) P ι H w) :
    ∃ ι' v' w', (Builtin.append_ tys ty #[x0, x1]).run P w = .ok v' w' ∧ Ext P ι w ι' w' ∧ @Rel (symS S G) P ι' H' w' ∧ @VRel (symS S G) ι' v v' := by
  unfold appendA at h
  split at h
  · rename_i st xt base' c' hst hxt heq
    obtain ⟨rfl, rfl⟩ : base = base' ∧ c = c' := by simpa using heq
    split at h
    · rename_i e xd r hus hux hr
      split at h
      · rename_i inf hi
        split at h
        · rename_i z hz
          obtain ⟨g, h⟩ := condS h
          simp only [Option.some.injEq, Prod.mk.injEq] at h
          obtain ⟨rfl, rfl⟩ := h
          simp only [Bool.and_eq_true, Bool.not_eq_true'] at g
          obtain ⟨⟨⟨⟨⟨⟨⟨⟨⟨g1, g2⟩, g3⟩, g4⟩, g5⟩, g6⟩, g7⟩, g8⟩, g9⟩, g10⟩ := g
          have g1 := Nat.eq_of_beq_eq_true g1
          have g2 := Nat.eq_of_beq_eq_true g2
          have g4 := Nat.eq_of_beq_eq_true g4
          have g6 := Nat.le_of_ble_eq_true g6
          have g7 := Nat.le_of_ble_eq_true g7
          obtain ⟨b0, rfl⟩ := emptyC_ok g10 hw h0
          rcases ref_inv h1 with ⟨_, ht⟩ | ⟨n, cap, i, _, ⟨q2, q2'⟩, q3, q4, q5, rfl⟩ | ⟨_, _, ht, _⟩
          · omega
          · have hpos := ltC_ok ha g8 (ev_lit S _ _) q2
            have hmax : n < maxRow := ltC_ok ha g9 q2 (ev_lit S _ _)
            unfold maxRow at hmax
            letI := symS S G
            obtain ⟨j, o, p1, p2, p3⟩ := hw.live _ _ hr
            obtain rfl : i = j := by rw [q3] at p1; exact Option.some.inj p1
            obtain ⟨_, cs, N, rfl, p5, p6, p7⟩ := (show NRel i o r from p3)
            have hN : N = n.toNat := by
              have p5' : (match ev S r.n with | some [n] => some n.toNat | _ => none) = some N := p5
              rw [← g2, q2] at p5'
              simpa using p5'.symm
            subst hN
            let w1 : World := { w with drawn := w.drawn + 1 }
            have hcells : ∀ j, j < n.toNat → ∃ u, cs[j]? = some u := fun j hj => by
              obtain ⟨u, _, hu⟩ := p7 j hj
              exact ⟨u, hu⟩
            let new : List Value := (List.range n.toNat).map fun j => cs.getD j undf
            have hnl : new.length = n.toNat := by simp [new]
            have hng : ∀ j, j < n.toNat → cs[j]? = some (new.getD j undf) := fun j hj => by
              have : j < cs.size := by omega
              simp [new, hj, this]
            have hnew : (Builtin.firstCells inf.size n.toNat (.slice (some ⟨i.blk, 0, none⟩) n.toNat cap)).run P w1 = .ok new.toArray w1 := by
              unfold Builtin.firstCells
              rw [g4, Nat.mul_one]
              unfold Go.loadCells
              have := run_loads (P := P) (w := w1) (a := ⟨i.blk, 0, none⟩) new 0 #[] fun j hj => by
                rw [hnl] at hj
                rw [cell_add (w := w1) (cs := cs) (t := r.elem) (fz := (0, 0)) p2]
                simpa using hng j hj
              rw [hnl] at this
              simpa using this
            have hold : (Builtin.firstCells inf.size 0 (.slice b0 0 0)).run P w1 = .ok #[] w1 := by
              unfold Builtin.firstCells
              cases b0 with
              | none => rfl
              | some a => simp [Go.loadCells, Go.loadCellsFrom]
            have hnc : Builtin.nextslicecap (0 + n.toNat) 0 ≤ 16 * (0 + n.toNat) + 3072 := nextcap_le _ _ (by omega)
            have hcap2 : ¬ Builtin.nextslicecap (0 + n.toNat) 0 * inf.bytes > 2 ^ 48 := by
              have e1 : Builtin.nextslicecap (0 + n.toNat) 0 * inf.bytes ≤ (16 * 4194304 + 3072) * 64 := Nat.mul_le_mul (by omega) g6
              have : (2 : Nat) ^ 48 = 281474976710656 := by decide
              omega
            have hrun := run_append_grows (P := P) (ty := ty) (w := w) (args := #[.slice b0 0 0, .slice (some ⟨i.blk, 0, none⟩) n.toNat cap]) hst hxt hus hux g3 hi hz (base := b0) (sl := 0) (sc := 0) (n := n.toNat) rfl rfl
              (fun w0 => rfl) hold hnew (by omega) (by have : IntKind.i64.max = 9223372036854775807 := by decide
                                                       omega) hcap2
            have hroom := room_ge w (0 + n.toNat) 0 e
            have hrow : NRel ⟨w1.heap.size, 0, n.toNat, 0, 1⟩ (.cells (#[] ++ new.toArray ++ Builtin.zeroCells z.cells (room w (0 + n.toNat) 0 e - (0 + n.toNat))) e (0, 0)) { r with elem := e } := by
              refine ⟨rfl, _, n.toNat, rfl, p5, by simp [hnl], fun j hj => ?_⟩
              obtain ⟨u, u1, u2⟩ := p7 j hj
              refine ⟨u, u1, ?_⟩
              have e2 := hng j hj
              rw [u2] at e2
              have e3 : new[j]? = some u := by
                have hjl : j < new.length := by omega
                rw [List.getElem?_eq_getElem hjl]
                rw [List.getD_eq_getElem?_getD, List.getElem?_eq_getElem hjl] at e2
                exact e2.symm
              rw [Array.getElem?_append_left (by simp [hnl]; omega)]
              simpa using e3
            obtain ⟨r1, r2, r3⟩ := (hw.draw (w.drawn + 1)).new (b := .arr { r with elem := e }) (i := ⟨w1.heap.size, 0, n.toNat, 0, 1⟩) rfl hrow
            refine ⟨_, _, _, hrun, (Ext.draw ι w (w.drawn + 1)).trans r2, r3, ?_⟩
            rw [Nat.zero_add] at hroom ⊢
            exact VRel.ownS (i := ⟨w.heap.size, 0, n.toNat, 0, 1⟩) (b := H.next) (show ownS S _ = some _ from own3 (by omega) q2 q2') (by simp [Inj.with, w1]) rfl hroom
          · omega
        · simp at h
      · simp at h
    · simp at h
  · simp at h
end Go.Ev
