/-
  The evaluator: append; copy; min, max. No condition.
-/
import Derived.Test.YtmeppoihgfdgaaaDoorEvS
namespace Go.Ev
set_option linter.unusedSectionVars false      -- the symbols' class stands for all texts
variable [Syms] {P : Program} {ι : Inj}

/-! ### Rows of cells that are read and written -/
noncomputable def loads (H : Heap) (a : Addr) : Nat → Nat → Option (List Value)
  | _, 0 => some []
  | i, n + 1 => match H.load (a.add i) with
    | some v => match loads H a (i + 1) n with
      | some l => some (v :: l)
      | none => none
    | none => none
noncomputable def stores (H : Heap) (a : Addr) : Nat → List Value → Option Heap
  | _, [] => some H
  | i, v :: l => match H.store (a.add i) v with
    | some H' => stores H' a (i + 1) l
    | none => none

theorem loads_ok {H : Heap} {a a' : Addr} (ha : AddrRel ι a a') {w : World} (hw : Rel P ι H w) : ∀ (n i : Nat) (l : List Value), loads H a i n = some l → ∀ acc,
    ∃ l', (Go.loadCellsFrom a' i n acc).run P w = .ok (acc ++ l'.toArray) w ∧ LRel ι l l' ∧ l.length = n
  | 0, i, l, h, acc => by
    simp only [loads, Option.some.injEq] at h
    subst h
    exact ⟨[], by simp [Go.loadCellsFrom], ⟨rfl, fun k hk => by simp at hk⟩, rfl⟩
  | n + 1, i, l, h, acc => by
    simp only [loads] at h
    cases hv : H.load (a.add i) with
    | none => rw [hv] at h; simp at h
    | some v =>
      rw [hv] at h
      simp only at h
      cases hl : loads H a (i + 1) n with
      | none => rw [hl] at h; simp at h
      | some l1 =>
        rw [hl] at h
        simp only [Option.some.injEq] at h
        subst h
        obtain ⟨v', hc, hvv⟩ := hw.cell (ha.add i) hv
        obtain ⟨l', e1, r1, e2⟩ := loads_ok ha hw n (i + 1) l1 hl (acc.push v')
        refine ⟨v' :: l', ?_, ⟨by simp [r1.1], fun k hk => ?_⟩, by simp [e2]⟩
        · unfold Go.loadCellsFrom
          rw [Sem.run_bind, run_load, hc]
          simp only [Result.andThen_ok]
          rw [e1]
          simp
        · cases k with
          | zero => simpa using hvv
          | succ k => simpa using r1.2 k (by simpa using hk)

theorem stores_ok : ∀ (l l' : List Value) (i : Nat) (ι : Inj) (H H' : Heap) (a a' : Addr) (w : World), AddrRel ι a a' → LRel ι l l' → Rel P ι H w → stores H a i l = some H' →
    ∃ w', (Go.storeCells a' l' i).run P w = .ok () w' ∧ Ext P ι w ι w' ∧ Rel P ι H' w'
  | [], l', i, ι, H, H', a, a', w, _, hl, hw, h => by
    obtain rfl := hl.nil_inv
    simp only [stores, Option.some.injEq] at h
    subst h
    exact ⟨w, rfl, Ext.refl _ _, hw⟩
  | x :: xs, l', i, ι, H, H', a, a', w, ha, hl, hw, h => by
    obtain ⟨y, ys, rfl, hv, hr⟩ := hl.cons_inv
    simp only [stores] at h
    cases hs : H.store (a.add i) x with
    | none => rw [hs] at h; simp at h
    | some H1 =>
      rw [hs] at h
      obtain ⟨⟨z, hc⟩, hf, ho, x1, r1⟩ := hw.store (ha.add i) hv hs
      obtain ⟨w', e2, x2, r2⟩ := stores_ok xs ys (i + 1) ι H1 H' a a' _ ha hr r1 h
      refine ⟨w', ?_, x1.trans x2, r2⟩
      unfold Go.storeCells
      rw [Sem.run_bind, run_store P w _ _ _ ho, hc]
      simp only [hf, Bool.false_eq_true, if_false, Result.andThen_ok]
      exact e2

/-- The cells of what is appended. -/
noncomputable def news (H : Heap) (size : Nat) : Value → Option (Nat × List Value)
  | .slice (some b) n _ => match loads H b 0 (n * size) with
    | some l => some (n, l)
    | none => none
  | .slice none 0 _ => some (0, [])
  | .string s => some (s.size, (s.data.toList.map fun b => .int .u8 b.toNat))
  | _ => none

theorem news_ok {H : Heap} {w : World} (hw : Rel P ι H w) {size : Nat} {x x' : Value} (hx : VRel ι x x') {n : Nat} {l : List Value} (h : news H size x = some (n, l)) :
    (∀ w0 : World, (Builtin.lenOf x').run P w0 = .ok n w0) ∧ ∃ l', (Builtin.firstCells size n x').run P w = .ok l'.toArray w ∧ LRel ι l l' := by
  cases hx with
  | slice g1 g2 g3 =>
    rename_i a i ln c c'
    simp only [news] at h
    cases hl : loads H a 0 (ln * size) with
    | none => rw [hl] at h; simp at h
    | some l1 =>
      rw [hl] at h
      simp only [Option.some.injEq, Prod.mk.injEq] at h
      obtain ⟨rfl, rfl⟩ := h
      obtain ⟨l', e1, r1, _⟩ := loads_ok ⟨i, g1, rfl⟩ hw _ _ _ hl #[]
      exact ⟨fun _ => rfl, l', by simpa [Builtin.firstCells, Go.loadCells] using e1, r1⟩
  | emptySlice a a' =>
    simp only [news] at h
    cases hl : loads H a 0 (0 * size) with
    | none => rw [hl] at h; simp at h
    | some l1 =>
      rw [hl] at h
      simp only [Option.some.injEq, Prod.mk.injEq] at h
      obtain ⟨rfl, rfl⟩ := h
      rw [Nat.zero_mul] at hl
      simp only [loads, Option.some.injEq] at hl
      subst hl
      exact ⟨fun _ => rfl, [], by simp [Builtin.firstCells, Go.loadCells, Go.loadCellsFrom], ⟨rfl, fun k hk => by simp at hk⟩⟩
  | nilSlice ln c =>
    cases ln with
    | zero =>
      simp only [news, Option.some.injEq, Prod.mk.injEq] at h
      obtain ⟨rfl, rfl⟩ := h
      exact ⟨fun _ => rfl, [], rfl, ⟨rfl, fun k hk => by simp at hk⟩⟩
    | succ n => simp [news] at h
  | string s =>
    simp only [news, Option.some.injEq, Prod.mk.injEq] at h
    obtain ⟨rfl, rfl⟩ := h
    refine ⟨fun _ => rfl, s.data.toList.map fun b => .int .u8 b.toNat, ?_, ⟨rfl, fun k hk => ?_⟩⟩
    · have e1 : s.extract 0 s.size = s := by simp
      show (Result.ok ((s.extract 0 s.size).data.map fun b => Value.int .u8 b.toNat) w : Result (Array Value)) = _
      rw [e1]
      congr 1
      apply Array.ext'
      simp
    · have hk' : k < s.data.toList.length := by simpa using hk
      have e : (s.data.toList.map fun b => Value.int .u8 b.toNat).getD k undf = .int .u8 (s.data.toList[k]).toNat := by
        rw [List.getD_eq_getElem?_getD, List.getElem?_map, List.getElem?_eq_getElem hk']; rfl
      rw [e]
      exact .int _ _
  | sym => simp [news] at h
  | inp => simp [news] at h
  | ownS => simp [news] at h
  | ownP => simp [news] at h
  | _ => simp [news] at h

theorem growBy_le (n : Nat) : ∀ (r c : Nat), Builtin.growBy n r c ≤ 2 ^ r * (c + 192) ∨ Builtin.growBy n r c = c
  | 0, c => .inr rfl
  | r + 1, c => by
    unfold Builtin.growBy
    split
    · exact .inr rfl
    · refine .inl ?_
      have h1 : c + (c + 768) / 4 + 192 ≤ 2 * (c + 192) := by omega
      rcases growBy_le n r (c + (c + 768) / 4) with h | h
      · refine Nat.le_trans h ?_
        rw [Nat.pow_succ, Nat.mul_assoc]
        exact Nat.mul_le_mul_left _ h1
      · rw [h, Nat.pow_succ, Nat.mul_assoc]
        have : 1 ≤ 2 ^ r := Nat.one_le_two_pow
        calc c + (c + 768) / 4 ≤ 2 * (c + 192) := by omega
          _ ≤ 2 ^ r * (2 * (c + 192)) := Nat.le_mul_of_pos_left _ this

theorem nextcap_le (n o : Nat) (h : o < n) : Builtin.nextslicecap n o ≤ 16 * n + 3072 := by
  unfold Builtin.nextslicecap
  split
  · omega
  · split
    · omega
    · rcases growBy_le n 4 o with h1 | h1
      · omega
      · omega

def isIntD : TypeDesc → Bool
  | .int _ => true
  | _ => false

/-- append. -/
noncomputable def aappend (P : Program) (tys : Array TypeId) (args : Array Value) (H : Heap) : Option (Value × Heap) :=
  match tys[0]?, tys[1]?, args[0]?, args[1]? with
  | some st, some xt, some (Value.slice base sl sc), some x =>
    match P.underlying st, P.underlying xt with
    | some (.slice e), some xd =>
      match P.info? e with
      | some i => match i.zero, news H i.size x with
        | some z, some (n, new) =>
          if isIntD xd = false ∧ e < P.types.size ∧ 0 < i.size ∧ z.cells.size = i.size ∧ (16 * (sl + n) + 3072) * i.bytes ≤ 140737488355328 ∧ sl + n ≤ 1099511627776 ∧ new.length = n * i.size ∧ new.all Ev.oneCell = true then
            match base with
            | none => if sl = 0 ∧ sc = 0 then
                if n = 0 then some (.slice none 0 0, H)
                else some (.slice (some ⟨H.next, 0, none⟩) n n, H.new (.cells { size := n * i.size, m := T.ofL new 0 .leaf, dflt := undf, elem := e, opn := true, esz := i.size }))
              else none
            | some a => match H.get a.block with
              | some (.cells c) =>
                if sl + n ≤ sc then
                  match stores H (a.add (sl * i.size)) 0 new with
                  | some H' => some (.slice (some a) (sl + n) sc, H')
                  | none => none
                else match loads H a 0 (sl * i.size) with
                  | some old =>
                    if c.opn then
                      if c.esz = i.size ∧ a.spot = none ∧ H.base ≤ a.block ∧ c.elem = e then
                        some (.slice (some ⟨H.next, 0, none⟩) (sl + n) (sl + n), (H.kill a.block).new (.cells { size := (sl + n) * i.size, m := T.ofL (old ++ new) 0 .leaf, dflt := undf, elem := e, opn := true, esz := i.size }))
                      else none
                    else some (.slice (some ⟨H.next, 0, none⟩) (sl + n) (sl + n), H.new (.cells { size := (sl + n) * i.size, m := T.ofL (old ++ new) 0 .leaf, dflt := undf, elem := e, opn := true, esz := i.size }))
                  | none => none
              | _ => none
          else none
        | _, _ => none
      | none => none
    | _, _ => none
  | _, _, _, _ => none

/-- What the model's append does, its numbers known: it fits. -/
theorem run_append_fits {tys : Array TypeId} {st xt e ty : TypeId} {xd : TypeDesc} {i : TypeInfo} (ht0 : tys[0]? = some st) (ht1 : tys[1]? = some xt) (hs : P.underlying st = some (.slice e)) (hx : P.underlying xt = some xd)
    (hxd : isIntD xd = false) (hi : P.info? e = some i) {base : Option Addr} {sl sc n : Nat} {x : Value} {args : Array Value} (ha0 : args[0]? = some (.slice base sl sc)) (ha1 : args[1]? = some x)
    {w : World} {new : Array Value} (hlen : ∀ w0 : World, (Builtin.lenOf x).run P w0 = .ok n w0) (hnew : (Builtin.firstCells i.size n x).run P w = .ok new w) (hfit : sl + n ≤ sc) :
    (Builtin.append_ tys ty args).run P w = (match base with
      | some a => ((Go.storeCells (a.add (sl * i.size)) new.toList).run P w).andThen fun _ w' => .ok (.slice base (sl + n) sc) w'
      | none => .ok (.slice base (sl + n) sc) w) := by
  unfold Builtin.append_
  rw [ht0, ha0, ha1]
  simp only [Sem.run_bind, run_underlying' hs, Result.andThen_ok, run_sizeOf' hi, ht1, run_underlying' hx, Sem.run_pure]
  cases xd <;> first
    | (simp [isIntD] at hxd; done)
    | (simp only [Bool.false_eq_true, if_false, Sem.run_bind, hlen, Result.andThen_ok, Bool.not_false, if_true, hfit, hnew]
       cases base with
       | none => rfl
       | some a => simp only [Sem.run_bind, Sem.run_pure])

/-- How much room a slice gets that grows. -/
def room (w : World) (need sc : Nat) (e : TypeId) : Nat := (Question.appendCap need sc e).cut (w.tape w.drawn (.appendCap need sc e))
theorem room_ge (w : World) (need sc : Nat) (e : TypeId) : need ≤ room w need sc e := Nat.le_add_right _ _

/-- It grows. -/
theorem run_append_grows {tys : Array TypeId} {st xt e ty : TypeId} {xd : TypeDesc} {i : TypeInfo} {z : Value} (ht0 : tys[0]? = some st) (ht1 : tys[1]? = some xt) (hs : P.underlying st = some (.slice e)) (hx : P.underlying xt = some xd)
    (hxd : isIntD xd = false) (hi : P.info? e = some i) (hz : i.zero = some z) {base : Option Addr} {sl sc n : Nat} {x : Value} {args : Array Value} (ha0 : args[0]? = some (.slice base sl sc)) (ha1 : args[1]? = some x)
    {w : World} {old new : Array Value} (hlen : ∀ w0 : World, (Builtin.lenOf x).run P w0 = .ok n w0) (hold : (Builtin.firstCells i.size sl (.slice base sl sc)).run P { w with drawn := w.drawn + 1 } = .ok old { w with drawn := w.drawn + 1 })
    (hnew : (Builtin.firstCells i.size n x).run P { w with drawn := w.drawn + 1 } = .ok new { w with drawn := w.drawn + 1 }) (hfit : ¬ sl + n ≤ sc)
    (h1 : ¬ ((sl + n : Nat) : Int) > IntKind.i64.max) (h2 : ¬ Builtin.nextslicecap (sl + n) sc * i.bytes > 2 ^ 48) :
    (Builtin.append_ tys ty args).run P w = .ok (.slice (some ⟨w.heap.size, 0, none⟩) (sl + n) (room w (sl + n) sc e))
      { w with drawn := w.drawn + 1, heap := w.heap.push (.cells (old ++ new ++ Builtin.zeroCells z.cells (room w (sl + n) sc e - (sl + n))) e) } := by
  unfold Builtin.append_
  rw [ht0, ha0, ha1]
  simp only [Sem.run_bind, run_underlying' hs, Result.andThen_ok, run_sizeOf' hi, ht1, run_underlying' hx, Sem.run_pure]
  cases xd <;> first
    | (simp [isIntD] at hxd; done)
    | (simp only [Bool.false_eq_true, if_false, Sem.run_bind, hlen, Result.andThen_ok, Bool.not_false, if_true, hfit, run_typeInfo' hi, h1, false_and, h2, run_choose, Question.forced, run_askRoom]
       rw [show (Sem.run P (Builtin.firstCells i.size sl (Value.slice base sl sc)) { heap := w.heap, tape := w.tape, drawn := w.drawn + 1, os := w.os, output := w.output }) = _ from hold]
       simp only [Result.andThen_ok]
       rw [show (Sem.run P (Builtin.firstCells i.size n x) { heap := w.heap, tape := w.tape, drawn := w.drawn + 1, os := w.os, output := w.output }) = _ from hnew]
       simp only [Result.andThen_ok, run_zeroValue' hi hz]
       rfl)

theorem Rel.kill {H : Heap} {w : World} (hw : Rel P ι H w) (n : Nat) : Rel P ι (H.kill n) w := by
  refine ⟨hw.glb, hw.gsize, hw.glob, hw.over, hw.next, hw.room, hw.fresh, hw.hole, hw.below, fun m b hm => ?_, fun m k b c i j hm hk => ?_⟩
  · simp only [Heap.get_kill] at hm
    split at hm
    · simp at hm
    · exact hw.live m b hm
  · simp only [Heap.get_kill] at hm hk
    split at hm
    · simp at hm
    · split at hk
      · simp at hk
      · exact hw.inj m k b c i j hm hk

theorem ofL_get (l : List Value) (k : Nat) (hk : k < l.length) (c : Cells) (hc : c.m = T.ofL l 0 .leaf) : c.get k = l.getD k undf := by
  unfold Cells.get
  rw [hc, T.get_ofL, if_pos (by omega)]
  simp [List.getD_eq_getElem?_getD, hk]

theorem zeroCells_size (z : Array Value) (n : Nat) : (Builtin.zeroCells z n).size = n * z.size := by simp [Builtin.zeroCells]

/-- A new block with room of which nobody knows how much. -/
theorem new_open {H : Heap} {w : World} (hw : Rel P ι H w) {l l' : List Value} (hl : LRel ι l l') {N size cap : Nat} (hlen : l.length = N * size) (hN : N ≤ cap) (hsz : 0 < size) (z : Array Value) (hz : z.size = size) (e : TypeId) :
    ∃ ι', Ext P ι w ι' { w with heap := w.heap.push (.cells (l'.toArray ++ Builtin.zeroCells z (cap - N)) e) } ∧
      Rel P ι' (H.new (.cells { size := N * size, m := T.ofL l 0 .leaf, dflt := undf, elem := e, opn := true, esz := size })) { w with heap := w.heap.push (.cells (l'.toArray ++ Builtin.zeroCells z (cap - N)) e) } ∧
      VRel ι' (.slice (some ⟨H.next, 0, none⟩) N N) (.slice (some ⟨w.heap.size, 0, none⟩) N cap) := by
  have hl' : l'.length = N * size := hl.1 ▸ hlen
  have hmul : N * size + (cap - N) * size = cap * size := by rw [← Nat.add_mul]; congr 1; omega
  have hrow : CRel ι ⟨w.heap.size, 0, N * size, (cap - N) * size, size⟩ (.cells (l'.toArray ++ Builtin.zeroCells z (cap - N)) e (0, 0)) { size := N * size, m := T.ofL l 0 .leaf, dflt := undf, elem := e, opn := true, esz := size } := by
    refine ⟨⟨rfl, rfl, hsz⟩, _, rfl, by simp [zeroCells_size, hl', hz], fun h => by simp at h, fun k hk => ?_⟩
    have hk' : k < N * size := hk
    rw [ofL_get l k (by omega) _ rfl]
    have e1 : (l'.toArray ++ Builtin.zeroCells z (cap - N)).getD (0 + k) undf = l'.getD k undf := by
      simp [Array.getElem?_append, show k < l'.length by omega]
    show VRel ι (l.getD k undf) ((l'.toArray ++ Builtin.zeroCells z (cap - N)).getD (0 + k) undf)
    rw [e1]
    exact hl.2 k (by omega)
  obtain ⟨q1, q2, q3⟩ := hw.new (b := .cells { size := N * size, m := T.ofL l 0 .leaf, dflt := undf, elem := e, opn := true, esz := size }) rfl hrow
  refine ⟨_, q2, q3, ?_⟩
  have := VRel.slice (ι := ι.with H.next ⟨w.heap.size, 0, N * size, (cap - N) * size, size⟩) (a := ⟨H.next, 0, none⟩) (i := ⟨w.heap.size, 0, N * size, (cap - N) * size, size⟩) (l := N) (c := N) (c' := cap) (by simp [Inj.with])
    (.inr ⟨by simp, by show cap * size = N * size + (cap - N) * size; omega⟩) hN
  simpa using this

/-- Cells that are stored in a block that is known. -/
theorem storeRun (b : Nat) (e : TypeId) (p : Nat) : ∀ (l : List Value) (i : Nat) (w : World) (cs : Array Value), (∀ v ∈ l, v.oneCell' = true) → w.heap[b]? = some (.cells cs e (0, 0)) → p + i + l.length ≤ cs.size →
    ∃ w' cs', (Go.storeCells ⟨b, p, none⟩ l i).run P w = .ok () w' ∧ w'.heap[b]? = some (.cells cs' e (0, 0)) ∧ cs'.size = cs.size ∧ (∀ k, k < l.length → cs'.getD (p + i + k) undf = l.getD k undf) ∧
      (∀ j, j < p + i → cs'.getD j undf = cs.getD j undf) ∧ (∀ b', b' ≠ b → w'.heap[b']? = w.heap[b']?) ∧ w'.heap.size = w.heap.size ∧ (∀ a, w'.frozen? a = w.frozen? a) ∧ w'.tape = w.tape ∧ w'.os = w.os ∧ w'.output = w.output
  | [], i, w, cs, _, hb, _ => ⟨w, cs, rfl, hb, rfl, fun k hk => by simp at hk, fun _ _ => rfl, fun _ _ => rfl, rfl, fun _ => rfl, rfl, rfl, rfl⟩
  | v :: l, i, w, cs, hv, hb, hsz => by
    have ha : (⟨b, p, none⟩ : Addr).add i = ⟨b, p + i, none⟩ := by
      unfold Addr.add
      by_cases h0 : i = 0
      · simp [h0]
      · simp [h0]
    simp only [List.length_cons] at hsz
    have hcell : w.cell? ⟨b, p + i, none⟩ = some (cs.getD (p + i) undf) := by
      simp only [World.cell?, hb, Option.isSome_none, Bool.false_eq_true, if_false]
      exact getD_eq _ _ _ (by omega)
    have hfz : w.frozen? ⟨b, p + i, none⟩ = false := by simp [World.frozen?, hb]
    have hheap : ∀ b', (w.setCell ⟨b, p + i, none⟩ v).heap[b']? = if b' = b then some (.cells (cs.setIfInBounds (p + i) v) e (0, 0)) else w.heap[b']? := by
      intro b'
      simp only [World.setCell, Array.getElem?_modify]
      by_cases hbb : b' = b
      · subst hbb; simp [hb]
      · rw [if_neg (fun e => hbb e.symm), if_neg hbb]
    obtain ⟨w', cs', r1, r2, r3, r4, r5, r6, r7, r8, r9, r10, r11⟩ := storeRun b e p l (i + 1) (w.setCell ⟨b, p + i, none⟩ v) (cs.setIfInBounds (p + i) v) (fun x hx => hv x (by simp [hx])) (by rw [hheap, if_pos rfl]) (by simp; omega)
    refine ⟨w', cs', ?_, r2, by simpa using r3, fun k hk => ?_, fun j hj => ?_, fun b' hb' => ?_, by simpa [World.setCell] using r7, fun a => (r8 a).trans (World.frozen?_setCell _ _ _ _), r9, r10, r11⟩
    · unfold Go.storeCells
      rw [ha, Sem.run_bind, run_store P w _ _ _ (hv v (by simp)), hcell]
      simp only [hfz, Bool.false_eq_true, if_false, Result.andThen_ok]
      exact r1
    · cases k with
      | zero =>
        have := r5 (p + i) (by omega)
        rw [Nat.add_zero, this]
        simp [show p + i < cs.size by omega]
      | succ k =>
        have := r4 k (by simpa using hk)
        rw [show p + (i + 1) + k = p + i + (k + 1) by omega] at this
        rw [this]
        simp
    · rw [r5 j (by omega)]
      simp [show ¬ p + i = j by omega]
    · rw [r6 b' hb', hheap, if_neg hb']

theorem loads_get {H : Heap} {a : Addr} : ∀ (n i : Nat) (l : List Value), loads H a i n = some l → ∀ k, k < n → H.load (a.add (i + k)) = some (l.getD k undf)
  | 0, _, _, _, k, hk => by omega
  | n + 1, i, l, h, k, hk => by
    simp only [loads] at h
    cases hv : H.load (a.add i) with
    | none => rw [hv] at h; simp at h
    | some v =>
      rw [hv] at h
      simp only at h
      cases hl : loads H a (i + 1) n with
      | none => rw [hl] at h; simp at h
      | some l1 =>
        rw [hl] at h
        simp only [Option.some.injEq] at h
        subst h
        cases k with
        | zero => simpa using hv
        | succ k =>
          have := loads_get n (i + 1) l1 hl k (by omega)
          rw [show i + 1 + k = i + (k + 1) by omega] at this
          simpa using this

theorem LRel.append {a b c d : List Value} (h : LRel ι a b) (h' : LRel ι c d) : LRel ι (a ++ c) (b ++ d) := by
  have := ARel.append h.array h'.array
  have := this.list
  simpa using this

theorem oneCells {l l' : List Value} (h : LRel ι l l') (ho : l.all Ev.oneCell = true) : ∀ v ∈ l', v.oneCell' = true := by
  intro v hv
  obtain ⟨k, hk, rfl⟩ := List.getElem_of_mem hv
  have hk' : k < l.length := h.1 ▸ hk
  have h1 := h.2 k hk'
  have e1 : l.getD k undf = l[k] := by simp [List.getD_eq_getElem?_getD, hk']
  have e2 : l'.getD k undf = l'[k] := by simp [List.getD_eq_getElem?_getD, hk]
  rw [e1, e2] at h1
  rw [← oneCell_eq, ← h1.oneCell]
  rw [List.all_eq_true] at ho
  exact ho _ (List.getElem_mem hk')

theorem aappend_ok {tys : Array TypeId} {ty : TypeId} {args args' : Array Value} (ha : ARel ι args args') {H H' : Heap} {v : Value} (h : aappend P tys args H = some (v, H')) {w : World} (hw : Rel P ι H w) :
    ∃ ι' v' w', (Builtin.append_ tys ty args').run P w = .ok v' w' ∧ Ext P ι w ι' w' ∧ Rel P ι' H' w' ∧ VRel ι' v v' := by
  unfold aappend at h
  split at h
  · rename_i st xt base sl sc x ht0 ht1 h0 h1
    split at h
    · rename_i e xd hs hx
      split at h
      · rename_i i hi
        split at h
        · rename_i z n new hz hnew
          split at h
          · rename_i hcond
            obtain ⟨c1, c2, c3, c4, c5, c6, c7, c8⟩ := hcond
            obtain ⟨s', h0', hsv⟩ := ha.get? h0
            obtain ⟨x', h1', hxv⟩ := ha.get? h1
            obtain ⟨hlen, l', hl', hlr⟩ := news_ok hw hxv hnew
            obtain ⟨_, l2, hl2, hlr2⟩ := news_ok (hw.draw (w.drawn + 1)) hxv hnew
            have hneed : ¬ ((sl + n : Nat) : Int) > IntKind.i64.max := by
              have : IntKind.i64.max = 9223372036854775807 := by decide
              omega
            have hcapb : ∀ sc', ¬ sl + n ≤ sc' → ¬ Builtin.nextslicecap (sl + n) sc' * i.bytes > 2 ^ 48 := by
              intro sc' hsc
              have h1 := Nat.mul_le_mul_right i.bytes (nextcap_le (sl + n) sc' (by omega))
              have : (2 : Nat) ^ 48 = 281474976710656 := by decide
              omega
            -- what grows
            have grows : ∀ (base' : Option Addr) (sc' : Nat) (H1 : Heap) (old old' : List Value), s' = .slice base' sl sc' → ¬ sl + n ≤ sc' → Rel P ι H1 w → H1.next = H.next →
                (Builtin.firstCells i.size sl (.slice base' sl sc')).run P { w with drawn := w.drawn + 1 } = .ok old'.toArray { w with drawn := w.drawn + 1 } → LRel ι old old' → old.length = sl * i.size →
                ∃ ι' v' w', (Builtin.append_ tys ty args').run P w = .ok v' w' ∧ Ext P ι w ι' w' ∧ Rel P ι' (H1.new (.cells { size := (sl + n) * i.size, m := T.ofL (old ++ new) 0 .leaf, dflt := undf, elem := e, opn := true, esz := i.size })) w' ∧
                  VRel ι' (.slice (some ⟨H.next, 0, none⟩) (sl + n) (sl + n)) v' := by
              intro base' sc' H1 old old' hs' hf hw1 hnx hold hor hol
              subst hs'
              have hrun := run_append_grows (ty := ty) ht0 ht1 hs hx c1 hi hz h0' h1' hlen hold hl2 hf hneed (hcapb sc' hf)
              obtain ⟨ι', x1, r1, v1⟩ := new_open (hw1.draw (w.drawn + 1)) (hor.append hlr2) (N := sl + n) (size := i.size) (cap := room w (sl + n) sc' e) (by rw [List.length_append, hol, c7, Nat.add_mul]) (room_ge _ _ _ _) c3 z.cells c4 e
              have eqs : (old'.toArray ++ l2.toArray ++ Builtin.zeroCells z.cells (room w (sl + n) sc' e - (sl + n))) = ((old' ++ l2).toArray ++ Builtin.zeroCells z.cells (room w (sl + n) sc' e - (sl + n))) := by simp
              rw [eqs] at hrun
              rw [hnx] at v1
              exact ⟨ι', _, _, hrun, (Ext.draw ι w (w.drawn + 1)).trans x1, r1, v1⟩
            cases base with
            | none =>
              obtain rfl := hsv.nilSlice_inv
              simp only at h
              split at h
              · rename_i hz0
                obtain ⟨rfl, rfl⟩ := hz0
                split at h
                · rename_i hn0
                  subst hn0
                  simp only [Option.some.injEq, Prod.mk.injEq] at h
                  obtain ⟨rfl, rfl⟩ := h
                  exact ⟨ι, _, w, run_append_fits (ty := ty) ht0 ht1 hs hx c1 hi h0' h1' hlen hl' (Nat.le_refl _), Ext.refl _ _, hw, .nilSlice 0 0⟩
                · rename_i hn0
                  simp only [Option.some.injEq, Prod.mk.injEq] at h
                  obtain ⟨rfl, rfl⟩ := h
                  have := grows none 0 H [] [] rfl (by omega) hw rfl rfl ⟨rfl, fun k hk => by simp at hk⟩ (by simp)
                  simpa using this
              · simp at h
            | some a =>
              simp only at h
              cases hb : H.get a.block with
              | none => rw [hb] at h; simp at h
              | some b =>
                cases b with
                | map es clock => rw [hb] at h; simp at h
                | arr r => rw [hb] at h; simp at h
                | chan _ _ _ => rw [hb] at h; simp at h
                | part _ => rw [hb] at h; simp at h
                | cells c =>
                  rw [hb] at h
                  simp only at h
                  by_cases hfit : sl + n ≤ sc
                  · rw [if_pos hfit] at h
                    cases hst : stores H (a.add (sl * i.size)) 0 new with
                    | none => rw [hst] at h; simp at h
                    | some H1 =>
                      rw [hst] at h
                      simp only [Option.some.injEq, Prod.mk.injEq] at h
                      obtain ⟨rfl, rfl⟩ := h
                      cases hsv with
                      | @slice _ inf _ _ c' g1 g2 g3 =>
                        obtain ⟨w', e1, x1, r1⟩ := stores_ok new l' 0 ι H H1 _ _ w (AddrRel.add ⟨inf, g1, rfl⟩ (sl * i.size)) hlr hw hst
                        refine ⟨ι, _, w', ?_, x1, r1, .slice g1 g2 g3⟩
                        rw [run_append_fits (ty := ty) ht0 ht1 hs hx c1 hi h0' h1' hlen hl' (by omega)]
                        simp only [e1, Result.andThen_ok]
                      | emptySlice _ a' =>
                        have hn0 : n = 0 := by omega
                        subst hn0
                        have hnil : new = [] := List.length_eq_zero_iff.1 (by rw [c7]; simp)
                        subst hnil
                        have hl0 : l' = [] := hlr.nil_inv
                        subst hl0
                        simp only [stores, Option.some.injEq] at hst
                        subst hst
                        refine ⟨ι, _, w, ?_, Ext.refl _ _, hw, .emptySlice _ a'⟩
                        rw [run_append_fits (ty := ty) ht0 ht1 hs hx c1 hi h0' h1' hlen hl' (by omega)]
                        rfl
                  · rw [if_neg hfit] at h
                    cases hld : loads H a 0 (sl * i.size) with
                    | none => rw [hld] at h; simp at h
                    | some old =>
                      rw [hld] at h
                      simp only at h
                      have hol : old.length = sl * i.size := by
                        have := hw.live _ _ hb
                        obtain ⟨j, o, hj, _⟩ := this
                        exact (loads_ok ⟨j, hj, rfl⟩ hw _ _ _ hld #[]).choose_spec.2.2
                      -- the empty one
                      cases hsv with
                      | emptySlice _ a' =>
                        have hnil : old = [] := List.length_eq_zero_iff.1 (by rw [hol]; simp)
                        have hg : ∀ H1 : Heap, Rel P ι H1 w → H1.next = H.next → ∃ ι' v' w', (Builtin.append_ tys ty args').run P w = .ok v' w' ∧ Ext P ι w ι' w' ∧ Rel P ι' (H1.new (.cells { size := (0 + n) * i.size, m := T.ofL (old ++ new) 0 .leaf, dflt := undf, elem := e, opn := true, esz := i.size })) w' ∧ VRel ι' (.slice (some ⟨H.next, 0, none⟩) (0 + n) (0 + n)) v' := fun H1 hw1 hnx => grows (some a') 0 H1 old [] rfl (by omega) hw1 hnx (by simp [Builtin.firstCells, Go.loadCells, Go.loadCellsFrom]) (by rw [hnil]; exact ⟨rfl, fun k hk => by simp at hk⟩) hol
                        cases hop : c.opn with
                        | false =>
                          rw [hop] at h
                          simp only [Bool.false_eq_true, if_false, Option.some.injEq, Prod.mk.injEq] at h
                          obtain ⟨rfl, rfl⟩ := h
                          exact hg H hw rfl
                        | true =>
                          rw [hop] at h
                          simp only [if_true] at h
                          split at h
                          · simp only [Option.some.injEq, Prod.mk.injEq] at h
                            obtain ⟨rfl, rfl⟩ := h
                            exact hg (H.kill a.block) (hw.kill _) rfl
                          · simp at h
                      | @slice _ inf _ _ c' g1 g2 g3 =>
                        obtain ⟨j, o, hj, ho, hrel⟩ := hw.live _ _ hb
                        obtain rfl : inf = j := by rw [g1] at hj; exact Option.some.inj hj
                        obtain ⟨⟨r1, r2, r3⟩, cs, rfl, r4, r5, r6⟩ := hrel
                        have hg : ¬ sl + n ≤ c' → ∀ H1 : Heap, Rel P ι H1 w → H1.next = H.next → ∃ ι' v' w', (Builtin.append_ tys ty args').run P w = .ok v' w' ∧ Ext P ι w ι' w' ∧ Rel P ι' (H1.new (.cells { size := (sl + n) * i.size, m := T.ofL (old ++ new) 0 .leaf, dflt := undf, elem := e, opn := true, esz := i.size })) w' ∧ VRel ι' (.slice (some ⟨H.next, 0, none⟩) (sl + n) (sl + n)) v' := fun hf H1 hw1 hnx => by
                          obtain ⟨old', q1, q2, q3⟩ := loads_ok ⟨inf, g1, rfl⟩ (hw.draw (w.drawn + 1)) _ _ _ hld #[]
                          exact grows (some ⟨inf.blk, inf.off + a.off, a.spot⟩) c' H1 old old' rfl hf hw1 hnx (by simpa [Builtin.firstCells, Go.loadCells] using q1) q2 hol
                        cases hop : c.opn with
                        | false =>
                          rw [hop] at h
                          simp only [Bool.false_eq_true, if_false, Option.some.injEq, Prod.mk.injEq] at h
                          obtain ⟨rfl, rfl⟩ := h
                          obtain ⟨s1, s2, s3⟩ := r5 hop
                          have hcc : c' = sc := by
                            rcases g2 with g2 | ⟨_, g2⟩
                            · exact g2
                            · rw [s1, Nat.add_zero] at g2
                              exact Nat.eq_of_mul_eq_mul_right (by omega) g2
                          exact hg (by omega) H hw rfl
                        | true =>
                          rw [hop] at h
                          simp only [if_true] at h
                          split at h
                          · rename_i hc3
                            obtain ⟨k1, k2, k3, k4⟩ := hc3
                            simp only [Option.some.injEq, Prod.mk.injEq] at h
                            obtain ⟨rfl, rfl⟩ := h
                            by_cases hf : sl + n ≤ c'
                            · -- there is room behind, that nobody has seen
                              have hcl : a.off + sc * inf.esz = inf.size ∧ c' * inf.esz = sc * inf.esz + inf.extra := g2.resolve_left (by omega)
                              obtain ⟨hc1, hc2⟩ := hcl
                              have hes : inf.esz = i.size := by omega
                              rw [hes] at hc1 hc2
                              have hmn : (sl + n) * i.size ≤ c' * i.size := Nat.mul_le_mul_right _ hf
                              have hms : sl * i.size ≤ sc * i.size := by
                                have hlt : sl ≤ sc ∨ sc < sl := by omega
                                rcases hlt with hlt | hlt
                                · exact Nat.mul_le_mul_right _ hlt
                                · exfalso
                                  have := loads_get _ 0 old hld (sl * i.size - 1)
                                  have hpos : sc * i.size < sl * i.size := Nat.mul_lt_mul_of_pos_right hlt c3
                                  have h2 := this (by omega)
                                  unfold Heap.load at h2
                                  have hblk : (a.add (0 + (sl * i.size - 1))).block = a.block := by unfold Addr.add; split <;> rfl
                                  have hoff : (a.add (0 + (sl * i.size - 1))).off = a.off + (sl * i.size - 1) := by
                                    unfold Addr.add
                                    split
                                    · rename_i hz0; omega
                                    · simp
                                  rw [hblk, hb] at h2
                                  simp only [hoff] at h2
                                  split at h2
                                  · rename_i hcc
                                    simp only [Bool.and_eq_true, decide_eq_true_eq] at hcc
                                    omega
                                  · simp at h2
                              have hadd : (sl + n) * i.size = sl * i.size + n * i.size := Nat.add_mul _ _ _
                              have hll : l'.length = n * i.size := hlr.1 ▸ c7
                              have hnat : (⟨inf.blk, inf.off + a.off, a.spot⟩ : Addr).add (sl * i.size) = ⟨inf.blk, inf.off + a.off + sl * i.size, none⟩ := by
                                unfold Addr.add
                                split
                                · rename_i hz0; rw [hz0, k2]; rfl
                                · rfl
                              obtain ⟨w', cs', t1, t2, t3, t4, t5, t6, t7, t8, t9, t10, t11⟩ := storeRun inf.blk c.elem (inf.off + a.off + sl * i.size) l' 0 w cs (oneCells hlr c8) ho (by omega)
                              have hrun := run_append_fits (ty := ty) ht0 ht1 hs hx c1 hi h0' h1' hlen hl' hf
                              simp only [hnat] at hrun
                              rw [t1] at hrun
                              simp only [Result.andThen_ok] at hrun
                              have hfr : ι H.next = none := hw.fresh _ (Nat.le_refl _)
                              have hgs : P.globals.size ≤ a.block := by rw [← hw.gsize]; exact k3
                              have hsub : Sub ι (ι.with H.next ⟨inf.blk, inf.off + a.off, (sl + n) * i.size, (c' - (sl + n)) * i.size, i.size⟩) := fun m j hm => by
                                unfold Inj.with
                                rw [if_neg]
                                · exact hm
                                · intro e; subst e; rw [hfr] at hm; simp at hm
                              have hsubm : c' * i.size = (sl + n) * i.size + (c' - (sl + n)) * i.size := by rw [← Nat.add_mul]; congr 1; omega
                              have hrow : CRel ι ⟨inf.blk, inf.off + a.off, (sl + n) * i.size, (c' - (sl + n)) * i.size, i.size⟩ (.cells cs' c.elem (0, 0)) { size := (sl + n) * i.size, m := T.ofL (old ++ new) 0 .leaf, dflt := undf, elem := c.elem, opn := true, esz := i.size } := by
                                refine ⟨⟨rfl, rfl, c3⟩, cs', rfl, by show inf.off + a.off + (sl + n) * i.size + (c' - (sl + n)) * i.size ≤ cs'.size; omega, fun h => by simp at h, fun k hk => ?_⟩
                                have hk' : k < (sl + n) * i.size := hk
                                have hlen2 : (old ++ new).length = (sl + n) * i.size := by rw [List.length_append, hol, c7, hadd]
                                rw [ofL_get (old ++ new) k (by omega) _ rfl]
                                show VRel ι ((old ++ new).getD k undf) (cs'.getD (inf.off + a.off + k) undf)
                                by_cases hko : k < sl * i.size
                                · have e1 : (old ++ new).getD k undf = old.getD k undf := by simp [List.getD_eq_getElem?_getD, List.getElem?_append, show k < old.length by omega]
                                  rw [e1, t5 _ (by omega)]
                                  have hla := loads_get _ 0 old hld k hko
                                  obtain ⟨v', hcv, hvv⟩ := hw.cell (AddrRel.add ⟨inf, g1, rfl⟩ (0 + k)) hla
                                  have hva : (⟨inf.blk, inf.off + a.off, a.spot⟩ : Addr).add (0 + k) = ⟨inf.blk, inf.off + a.off + k, none⟩ := by
                                    unfold Addr.add
                                    split
                                    · rename_i hz0; have : k = 0 := by omega
                                      subst this; rw [k2]; rfl
                                    · simp
                                  rw [hva] at hcv
                                  simp only [World.cell?, ho, Option.isSome_none, Bool.false_eq_true, if_false] at hcv
                                  have : cs.getD (inf.off + a.off + k) undf = v' := by rw [Array.getD_eq_getD_getElem?, hcv]; rfl
                                  rw [this]; exact hvv
                                · have e1 : (old ++ new).getD k undf = new.getD (k - sl * i.size) undf := by simp [List.getD_eq_getElem?_getD, List.getElem?_append, hol, hko]
                                  have := t4 (k - sl * i.size) (by omega)
                                  rw [show inf.off + a.off + sl * i.size + 0 + (k - sl * i.size) = inf.off + a.off + k by omega] at this
                                  rw [e1, this]
                                  exact hlr.2 _ (by omega)
                              have helem : c.elem = e := k4
                              rw [helem] at hrow t2
                              refine ⟨ι.with H.next ⟨inf.blk, inf.off + a.off, (sl + n) * i.size, (c' - (sl + n)) * i.size, i.size⟩, _, w', hrun, ⟨hsub, by omega, fun m j hm hgm => ?_, fun b hb' hne => ?_, t8, t9, t10, t11⟩, ⟨hw.keepG fun b _ hne => t6 b (fun e => hne _ _ g1 hgs e.symm), hw.gsize, fun g hg => ?_, fun m j hm hbm => ?_, ?_, ?_, fun m hm => ?_, fun n hn => ⟨by have := (hw.hole n hn).1; simp only [Heap.next_new, Heap.next_kill]; omega, by unfold Inj.with; have h9 := hw.hole n hn; rw [if_neg (by omega)]; exact h9.2⟩, fun m j hm => ?_, fun m b hm => ?_, fun m k b d j j' hm hk hj hj' he => ?_⟩, ?_⟩
                              · unfold Inj.with at hm
                                split at hm
                                · simp only [Option.some.injEq] at hm; subst hm; exact .inl ⟨a.block, inf, g1, hgs, rfl⟩
                                · exact .inl ⟨m, j, hm, hgm, rfl⟩
                              · exact t6 b (fun e => hne _ _ g1 hgs e.symm)
                              · obtain ⟨j, h1, h2⟩ := hw.glob g hg
                                exact ⟨j, hsub _ _ h1, h2⟩
                              · unfold Inj.with at hm
                                split at hm
                                · simp only [Option.some.injEq] at hm; subst hm; exact (show H.base ≤ inf.blk ∧ Syms.inp inf.blk = none from hw.over _ _ g1 k3)
                                · exact hw.over _ _ hm hbm
                              · have := hw.next; simp only [Heap.base_new, Heap.next_new, Heap.base_kill, Heap.next_kill]; omega
                              · have := hw.room; simp only [Heap.base_new, Heap.base_kill]; omega
                              · simp only [Heap.next_new, Heap.next_kill] at hm
                                unfold Inj.with
                                rw [if_neg (by omega)]
                                exact hw.fresh _ (by omega)
                              · rw [t7]
                                unfold Inj.with at hm
                                split at hm
                                · simp only [Option.some.injEq] at hm; subst hm; exact (show inf.blk < w.heap.size from hw.below _ _ g1)
                                · exact hw.below _ _ hm
                              · simp only [Heap.get_new, Heap.next_kill, Heap.get_kill] at hm
                                by_cases hmn : m = H.next
                                · rw [if_pos hmn] at hm
                                  simp only [Option.some.injEq] at hm
                                  subst hm
                                  exact ⟨⟨inf.blk, inf.off + a.off, (sl + n) * i.size, (c' - (sl + n)) * i.size, i.size⟩, _, by simp [Inj.with, hmn], t2, BRel.mono (b := .cells _) hsub hrow⟩
                                · rw [if_neg hmn] at hm
                                  split at hm
                                  · simp at hm
                                  · rename_i hma
                                    obtain ⟨j, o, hj, ho', hr'⟩ := hw.live _ _ hm
                                    refine ⟨j, o, hsub _ _ hj, ?_, hr'.mono hsub⟩
                                    rw [t6]
                                    · exact ho'
                                    · intro e; exact hma (hw.inj _ _ _ _ _ _ hm hb hj g1 e)
                              · simp only [Heap.get_new, Heap.next_kill, Heap.get_kill] at hm hk
                                unfold Inj.with at hj hj'
                                by_cases q1 : m = H.next <;> by_cases q2 : k = H.next
                                · omega
                                · rw [if_pos q1] at hj; rw [if_neg q2] at hj' hk
                                  simp only [Option.some.injEq] at hj; subst hj
                                  split at hk
                                  · simp at hk
                                  · rename_i hka; exact absurd (hw.inj _ _ _ _ _ _ hk hb hj' g1 he.symm) hka
                                · rw [if_neg q1] at hj hm; rw [if_pos q2] at hj'
                                  simp only [Option.some.injEq] at hj'; subst hj'
                                  split at hm
                                  · simp at hm
                                  · rename_i hka; exact absurd (hw.inj _ _ _ _ _ _ hm hb hj g1 he) hka
                                · rw [if_neg q1] at hj hm; rw [if_neg q2] at hj' hk
                                  split at hm
                                  · simp at hm
                                  · split at hk
                                    · simp at hk
                                    · exact hw.inj _ _ _ _ _ _ hm hk hj hj' he
                              · have := VRel.slice (ι := ι.with H.next ⟨inf.blk, inf.off + a.off, (sl + n) * i.size, (c' - (sl + n)) * i.size, i.size⟩) (a := ⟨H.next, 0, none⟩) (i := ⟨inf.blk, inf.off + a.off, (sl + n) * i.size, (c' - (sl + n)) * i.size, i.size⟩) (l := sl + n) (c := sl + n) (c' := c') (by simp [Inj.with])
                                  (.inr ⟨by simp, hsubm⟩) hf
                                rw [k2]
                                simpa using this
                            · exact hg hf (H.kill a.block) (hw.kill _) rfl
                          · simp at h
          · simp at h
        · simp at h
      · simp at h
    · simp at h
  · simp at h

end Go.Ev
