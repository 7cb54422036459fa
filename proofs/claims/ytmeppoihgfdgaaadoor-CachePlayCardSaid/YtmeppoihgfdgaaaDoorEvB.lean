/-
  The evaluator: each effect of the model has its like over the small heap. No condition.
-/
import Derived.Test.YtmeppoihgfdgaaaDoorEvA
namespace Go.Ev
set_option linter.unusedSectionVars false      -- the symbols' class stands for all texts
variable [Syms] {P : Program} {ι : Inj}

theorem getD_eq {α : Type} (xs : Array α) (k : Nat) (d : α) (h : k < xs.size) : xs[k]? = some (xs.getD k d) := by
  simp [h]

/-! ### Loads -/
theorem Rel.cell {H : Heap} {w : World} (hw : Rel P ι H w) {a a' : Addr} (ha : AddrRel ι a a') {v : Value} (h : H.load a = some v) :
    ∃ v', w.cell? a' = some v' ∧ VRel ι v v' := by
  obtain ⟨i, hi, rfl⟩ := ha
  unfold Heap.load at h
  cases hb : H.get a.block with
  | none => rw [hb] at h; simp at h
  | some b =>
    obtain ⟨j, o, hj, ho, hrel⟩ := hw.live _ _ hb
    obtain rfl : i = j := by rw [hi] at hj; exact Option.some.inj hj
    cases b with
    | map es clock => rw [hb] at h; simp at h
    | arr r => rw [hb] at h; simp at h
    | chan _ _ _ => rw [hb] at h; simp at h
    | part c =>
      rw [hb] at h
      simp only at h
      split at h
      · rename_i hk
        simp only [Bool.and_eq_true, decide_eq_true_eq] at hk
        have hs : a.spot = none := by simpa using hk.1.1
        simp only [Option.some.injEq] at h
        subst h
        obtain ⟨cs, rfl, h3, h5⟩ := hrel
        refine ⟨cs.getD (i.off + a.off) undf, ?_, h5 _ hk.1.2 hk.2⟩
        have := hk.1.2
        simp only [World.cell?, ho, hs, Option.isSome_none, Bool.false_eq_true, if_false]
        exact getD_eq _ _ _ (by omega)
      · simp at h
    | cells c =>
      rw [hb] at h
      simp only at h
      by_cases hk : a.spot.isNone = true ∧ a.off < c.size
      · have hs : a.spot = none := by simpa using hk.1
        rw [if_pos (by simp [hs, hk.2])] at h
        simp only [Option.some.injEq] at h
        subst h
        obtain ⟨h1, cs, rfl, h3, h4, h5⟩ := hrel
        refine ⟨cs.getD (i.off + a.off) undf, ?_, h5 _ hk.2⟩
        simp only [World.cell?, ho, hs, Option.isSome_none, Bool.false_eq_true, if_false]
        exact getD_eq _ _ _ (by omega)
      · rw [if_neg (by simpa using hk)] at h; simp at h

theorem cell_lt {w : World} {a : Addr} {v : Value} (h : w.cell? a = some v) : a.block < w.heap.size := by
  unfold World.cell? at h
  cases ho : w.heap[a.block]? with
  | none => rw [ho] at h; simp at h
  | some o => exact (Array.getElem?_eq_some_iff.1 ho).1
theorem Sim.load {a a' : Addr} (ha : AddrRel ι a a') (m : Mode) : Sim P ι VRel (Go.load a m) (Go.load a' m) := by
  intro H v H' hr w hw
  simp only [Go.load, arun] at hr
  cases hl : H.load a with
  | none => rw [hl] at hr; simp at hr
  | some x =>
    rw [hl] at hr
    simp only [Option.some.injEq, Prod.mk.injEq] at hr
    obtain ⟨rfl, rfl⟩ := hr
    obtain ⟨v', hc, hv⟩ := hw.cell ha hl
    refine ⟨ι, v', w, by rw [run_load, hc], Ext.refl _ _, hw, hv, fun e he => ?_, rfl⟩
    rw [events_load, hc] at he
    simp only [List.push_toArray, List.nil_append, List.mem_toArray, List.mem_cons, List.not_mem_nil, or_false] at he
    subst he
    exact ⟨cell_lt hc, fun h => by simp at h⟩

/-! ### Stores -/
theorem VRel.oneCell {v v' : Value} (h : VRel ι v v') : oneCell v = oneCell v' := by
  cases h <;> first | rfl | skip
  · rename_i h
    rcases Syms.cases h with ⟨k, n, rfl⟩ | ⟨b, rfl⟩ <;> rfl
  · rename_i h
    rcases Syms.refs h with ⟨a, l, n, rfl⟩ | ⟨a, rfl⟩ <;> rfl
theorem oneCell_eq (v : Value) : oneCell v = v.oneCell' := by cases v <;> rfl

theorem Rel.store {H H' : Heap} {w : World} (hw : Rel P ι H w) {a a' : Addr} (ha : AddrRel ι a a') {v v' : Value} (hv : VRel ι v v') (h : H.store a v = some H') :
    (∃ x, w.cell? a' = some x) ∧ w.frozen? a' = false ∧ v'.oneCell' = true ∧ Ext P ι w ι (w.setCell a' v') ∧ Rel P ι H' (w.setCell a' v') := by
  obtain ⟨i, hi, rfl⟩ := ha
  unfold Heap.store at h
  cases hb : H.get a.block with
  | none => rw [hb] at h; simp at h
  | some b =>
    obtain ⟨j, o, hj, ho, hrel⟩ := hw.live _ _ hb
    obtain rfl : i = j := by rw [hi] at hj; exact Option.some.inj hj
    cases b with
    | map es clock => rw [hb] at h; simp at h
    | arr r => rw [hb] at h; simp at h
    | chan _ _ _ => rw [hb] at h; simp at h
    | part _ => rw [hb] at h; simp at h
    | cells c =>
      rw [hb] at h
      simp only at h
      by_cases hk : (a.spot.isNone && decide (a.off < c.size) && Ev.oneCell v && Nat.ble H.base a.block && (Nat.beq c.ro 0 || !c.ro.testBit a.off)) = true
      · rw [if_pos hk] at h
        simp only [Bool.and_eq_true, decide_eq_true_eq] at hk
        obtain ⟨⟨⟨⟨hk1, hk2⟩, hk3⟩, hk4⟩, _⟩ := hk
        have hkg : P.globals.size ≤ a.block := by rw [← hw.gsize]; exact Nat.le_of_ble_eq_true hk4
        have hs : a.spot = none := by simpa using hk1
        simp only [Option.some.injEq] at h
        subst h
        obtain ⟨h1, cs, rfl, h3, h4, h5⟩ := hrel
        have hsz : i.blk < w.heap.size := hw.below _ _ hi
        have hcell : w.cell? ⟨i.blk, i.off + a.off, a.spot⟩ = some (cs.getD (i.off + a.off) undf) := by
          simp only [World.cell?, ho, hs, Option.isSome_none, Bool.false_eq_true, if_false]
          exact getD_eq _ _ _ (by omega)
        have hheap : ∀ b, (w.setCell ⟨i.blk, i.off + a.off, a.spot⟩ v').heap[b]? = if b = i.blk then some (.cells (cs.setIfInBounds (i.off + a.off) v') c.elem (0, 0)) else w.heap[b]? := by
          intro b
          simp only [World.setCell, Array.getElem?_modify]
          by_cases hbb : b = i.blk
          · subst hbb; simp [ho, hs]
          · rw [if_neg (fun e => hbb e.symm), if_neg hbb]
        have hsize : (w.setCell ⟨i.blk, i.off + a.off, a.spot⟩ v').heap.size = w.heap.size := by simp [World.setCell]
        refine ⟨⟨_, hcell⟩, ?_, ?_, ?_, ?_⟩
        · simp [World.frozen?, ho]
        · rw [← oneCell_eq, ← hv.oneCell]; exact hk3
        · refine ⟨Sub.refl ι, by rw [hsize]; exact Nat.le_refl _, fun n i h h' => .inl ⟨n, i, h, h', rfl⟩, fun b _ hne => ?_, fun x => World.frozen?_setCell _ _ _ _, rfl, rfl, rfl⟩
          rw [hheap, if_neg (fun e => hne _ _ hi hkg e.symm)]
        · refine ⟨hw.keepG fun b _ hne => by rw [hheap, if_neg (fun e => hne _ _ hi hkg e.symm)], hw.gsize, hw.glob, hw.over, hw.next, by rw [hsize]; exact hw.room, hw.fresh, hw.hole, fun n k hk => by rw [hsize]; exact hw.below _ _ hk, fun n b hn => ?_, fun n m b d i' j' hn hm hi' hj' he => ?_⟩
          · simp only [Heap.get_put] at hn
            by_cases hna : n = a.block
            · subst hna
              rw [if_pos rfl] at hn
              simp only [Option.some.injEq] at hn
              subst hn
              refine ⟨i, _, hi, by rw [hheap, if_pos rfl], ?_⟩
              refine ⟨h1, _, rfl, by simpa [Cells.set] using h3, fun ho => ?_, fun k hk => ?_⟩
              · obtain ⟨q1, q2, q3⟩ := h4 ho
                exact ⟨q1, q2, by simpa [Cells.set] using q3⟩
              · rw [Cells.get_set]
                have hk' : k < c.size := hk
                by_cases hka : k = a.off
                · subst hka
                  rw [if_pos rfl]
                  have : (cs.setIfInBounds (i.off + a.off) v').getD (i.off + a.off) undf = v' := by
                    simp [show i.off + a.off < cs.size by omega]
                  rw [this]; exact hv
                · rw [if_neg hka]
                  have : (cs.setIfInBounds (i.off + a.off) v').getD (i.off + k) undf = cs.getD (i.off + k) undf := by
                    simp [show ¬ a.off = k from fun e => hka e.symm]
                  rw [this]; exact h5 _ hk'
            · rw [if_neg hna] at hn
              obtain ⟨j, o, hj, ho', hr'⟩ := hw.live _ _ hn
              refine ⟨j, o, hj, ?_, hr'⟩
              rw [hheap, if_neg]
              · exact ho'
              · intro e
                exact hna (hw.inj _ _ _ _ _ _ hn hb hj hi e)
          · simp only [Heap.get_put] at hn hm
            have g1 : ∃ b, H.get n = some b := by
              by_cases hna : n = a.block
              · subst hna; exact ⟨_, hb⟩
              · rw [if_neg hna] at hn; exact ⟨_, hn⟩
            have g2 : ∃ b, H.get m = some b := by
              by_cases hna : m = a.block
              · subst hna; exact ⟨_, hb⟩
              · rw [if_neg hna] at hm; exact ⟨_, hm⟩
            obtain ⟨_, g1⟩ := g1
            obtain ⟨_, g2⟩ := g2
            exact hw.inj _ _ _ _ _ _ g1 g2 hi' hj' he
      · rw [if_neg hk] at h; simp at h

theorem Sim.store {a a' : Addr} (ha : AddrRel ι a a') {v v' : Value} (hv : VRel ι v v') (m : Mode) : Sim P ι (fun _ _ _ => True) (Go.store a v m) (Go.store a' v' m) := by
  intro H x H' hr w hw
  simp only [Go.store, arun] at hr
  cases hl : H.store a v with
  | none => rw [hl] at hr; simp at hr
  | some H1 =>
    rw [hl] at hr
    simp only [Option.some.injEq, Prod.mk.injEq] at hr
    obtain ⟨_, rfl⟩ := hr
    obtain ⟨⟨y, hc⟩, hf, ho, he, hr⟩ := hw.store ha hv hl
    have hnx : H1.next = H.next := by
      unfold Heap.store at hl
      split at hl <;> (try split at hl) <;> simp at hl <;> (subst hl; rfl)
    refine ⟨ι, (), _, by rw [run_store P w a' v' m ho, hc]; simp [hf], he, hr, trivial, fun e hev => ?_, by rw [hnx]; simp [World.setCell]⟩
    rw [events_store P w _ a' v' m ho, hc] at hev
    simp only [hf, Bool.false_eq_true, if_false, List.push_toArray, List.nil_append, List.mem_toArray, List.mem_cons, List.not_mem_nil, or_false] at hev
    subst hev
    refine ⟨Nat.lt_of_lt_of_le (cell_lt hc) he.size, fun _ n c i off hn hi hb hoff hlt => ?_⟩
    obtain ⟨i0, hi0, rfl⟩ := ha
    unfold Heap.store at hl
    split at hl
    · rename_i c1 hc1
      split at hl
      · rename_i hk
        simp only [Bool.and_eq_true, Bool.or_eq_true, Bool.not_eq_true', Nat.beq_eq] at hk
        have hn2 : n = a.block := hw.inj _ _ _ _ _ _ hn hc1 hi hi0 hb
        subst hn2
        rw [hi0] at hi
        obtain rfl := Option.some.inj hi
        rw [hc1] at hn
        simp only [Option.some.injEq, Blk.cells.injEq] at hn
        subst hn
        have : off = a.off := by simp only at hoff; omega
        subst this
        rcases hk.2 with h0 | h0
        · rw [h0]; simp
        · exact h0
      · simp at hl
    · simp at hl

/-! ### New blocks -/
theorem heap_push (w : World) (o : Obj) (b : Nat) : (w.heap.push o)[b]? = if b = w.heap.size then some o else w.heap[b]? := Array.getElem?_push

/-- A block of which nothing is frozen. -/
def warm : Obj → Bool
  | .cells _ _ (lo, hi) => decide (hi ≤ lo)
  | _ => true
theorem frozen_warm {w : World} {b : Nat} {o : Obj} (h : w.heap[b]? = some o) (ho : warm o = true) (a : Addr) (ha : a.block = b) : w.frozen? a = false := by
  subst ha
  unfold World.frozen?
  rw [h]
  cases o with
  | cells c t fz =>
    obtain ⟨lo, hi⟩ := fz
    have : hi ≤ lo := by simpa [warm] using ho
    simp only [Bool.and_eq_false_iff, decide_eq_false_iff_not]
    by_cases hl : lo ≤ a.off
    · exact .inr (by omega)
    · exact .inl hl
  | _ => rfl
theorem frozen_push (w : World) (o : Obj) (ho : warm o = true) (a : Addr) : ({ w with heap := w.heap.push o } : World).frozen? a = w.frozen? a := by
  by_cases h : a.block = w.heap.size
  · have e1 : (w.heap.push o)[a.block]? = some o := by rw [heap_push, if_pos h]
    rw [frozen_warm (w := { w with heap := w.heap.push o }) e1 ho a rfl]
    have e2 : w.heap[a.block]? = none := by rw [h]; simp
    simp [World.frozen?, e2]
  · have e1 : (w.heap.push o)[a.block]? = w.heap[a.block]? := by rw [heap_push, if_neg h]
    simp [World.frozen?, e1]
theorem BRel.warm {i : Info} {o : Obj} {b : Blk} (h : BRel ι i o b) : warm o = true := by
  cases b with
  | cells c => obtain ⟨_, cs, rfl, _⟩ := h; rfl
  | map es clock => obtain ⟨es', rfl, _⟩ := h; rfl
  | arr r => obtain ⟨_, cs, n, rfl, _⟩ := h; rfl
  | chan _ _ _ => obtain ⟨_, rfl⟩ := h; rfl
  | part _ => obtain ⟨_, rfl, _⟩ := h; rfl

def Inj.with (ι : Inj) (n : Nat) (i : Info) : Inj := fun m => if m = n then some i else ι m

theorem Rel.new {H : Heap} {w : World} (hw : Rel P ι H w) {b : Blk} {o : Obj} {i : Info} (hi : i.blk = w.heap.size) (hb : BRel ι i o b) :
    Sub ι (ι.with H.next i) ∧ Ext P ι w (ι.with H.next i) { w with heap := w.heap.push o } ∧ Rel P (ι.with H.next i) (H.new b) { w with heap := w.heap.push o } := by
  have hsub : Sub ι (ι.with H.next i) := fun n j hn => by
    unfold Inj.with
    rw [if_neg]
    · exact hn
    · intro e
      subst e
      rw [hw.fresh _ (Nat.le_refl _)] at hn
      simp at hn
  refine ⟨hsub, ⟨hsub, by simp, fun n j hn hgn => ?_, fun b hb' _ => ?_, fun x => frozen_push w o hb.warm x, rfl, rfl, rfl⟩, ⟨hw.keepG fun b hb' _ => by show (w.heap.push o)[b]? = _; rw [Array.getElem?_push, if_neg (by omega)], hw.gsize, fun g hg => ?_, fun n j hn hb' => ?_, by have := hw.next; simp only [Heap.base_new, Heap.next_new]; omega, by have := hw.room; show H.base ≤ (w.heap.push o).size; simp only [Array.size_push]; omega, fun n hn => ?_, fun n hn => ⟨by have := (hw.hole n hn).1; simp only [Heap.next_new]; omega, by unfold Inj.with; have h9 := hw.hole n hn; rw [if_neg (by omega)]; exact h9.2⟩, fun n j hn => ?_, fun n b' hn => ?_, fun n m b1 b2 i1 i2 h1 h2 e1 e2 he => ?_⟩⟩
  · unfold Inj.with at hn
    by_cases h : n = H.next
    · rw [if_pos h] at hn; simp at hn; subst hn; exact .inr (by omega)
    · rw [if_neg h] at hn; exact .inl ⟨n, j, hn, hgn, rfl⟩
  · show (w.heap.push o)[b]? = _
    rw [heap_push, if_neg (by omega)]
  · obtain ⟨k, h1, h2⟩ := hw.glob g hg
    exact ⟨k, hsub _ _ h1, h2⟩
  · unfold Inj.with at hn
    by_cases h : n = H.next
    · rw [if_pos h] at hn; simp at hn; subst hn; rw [hi]; exact ⟨hw.room, hw.inpNew (Nat.le_refl _)⟩
    · rw [if_neg h] at hn; exact hw.over _ _ hn hb'
  · simp only [Heap.next_new] at hn
    unfold Inj.with
    rw [if_neg (by omega)]
    exact hw.fresh _ (by omega)
  · unfold Inj.with at hn
    show j.blk < (w.heap.push o).size
    simp only [Array.size_push]
    by_cases h : n = H.next
    · rw [if_pos h] at hn; simp at hn; subst hn; omega
    · rw [if_neg h] at hn; have := hw.below _ _ hn; omega
  · simp only [Heap.get_new] at hn
    by_cases h : n = H.next
    · rw [if_pos h] at hn
      simp at hn
      subst hn
      refine ⟨i, o, by simp [Inj.with, h], ?_, hb.mono hsub⟩
      show (w.heap.push o)[i.blk]? = _
      rw [heap_push, if_pos hi]
    · rw [if_neg h] at hn
      obtain ⟨j, o', hj, ho', hr'⟩ := hw.live _ _ hn
      refine ⟨j, o', hsub _ _ hj, ?_, hr'.mono hsub⟩
      have := hw.below _ _ hj
      show (w.heap.push o)[j.blk]? = _
      rw [heap_push, if_neg (by omega)]
      exact ho'
  · simp only [Heap.get_new] at h1 h2
    unfold Inj.with at e1 e2
    by_cases g1 : n = H.next <;> by_cases g2 : m = H.next
    · omega
    · rw [if_pos g1] at e1; rw [if_neg g2] at e2; simp at e1; subst e1
      have := hw.below _ _ e2; omega
    · rw [if_neg g1] at e1; rw [if_pos g2] at e2; simp at e2; subst e2
      have := hw.below _ _ e1; omega
    · rw [if_neg g1] at e1 h1; rw [if_neg g2] at e2 h2
      exact hw.inj _ _ _ _ _ _ h1 h2 e1 e2 he

theorem Rel.same {H H' : Heap} {w : World} (hw : Rel P ι H w) (hb : H'.base = H.base) (hn : H.next ≤ H'.next) (hh : ∀ n, n ∈ H'.hole → n ∈ H.hole ∨ (n < H'.next ∧ ι n = none)) (hg : ∀ n, H'.get n = H.get n) : Rel P ι H' w :=
  ⟨hw.glb, by rw [hb]; exact hw.gsize, fun g h => hw.glob g (by rw [← hb]; exact h), fun n i h h' => by rw [hb] at h' ⊢; exact hw.over n i h h', by rw [hb]; exact Nat.le_trans hw.next hn, by rw [hb]; exact hw.room,
    fun n h => hw.fresh n (Nat.le_trans hn h), fun n h => (hh n h).elim (fun h => ⟨Nat.lt_of_lt_of_le (hw.hole n h).1 hn, (hw.hole n h).2⟩) id, hw.below, fun n b h => hw.live n b (by rw [← hg]; exact h), fun n m b c i j h1 h2 => hw.inj n m b c i j (by rw [← hg]; exact h1) (by rw [← hg]; exact h2)⟩

/-- A new block at a name that is free. -/
theorem Rel.newAt {H H' : Heap} {w : World} (hw : Rel P ι H w) {b : Blk} {o : Obj} {i : Info} (hi : i.blk = w.heap.size) (hb : BRel ι i o b) {N : Nat} (hN : ι N = none) (hbase : H'.base = H.base) (hnx : H.next ≤ H'.next) (hlt : N < H'.next)
    (hhole : ∀ n, n ∈ H'.hole → n ∈ H.hole ∧ n ≠ N) (hget : ∀ m, H'.get m = if m = N then some b else H.get m) :
    Sub ι (ι.with N i) ∧ Ext P ι w (ι.with N i) { w with heap := w.heap.push o } ∧ Rel P (ι.with N i) H' { w with heap := w.heap.push o } := by
  have hsub : Sub ι (ι.with N i) := fun n j hn => by
    unfold Inj.with
    rw [if_neg]
    · exact hn
    · intro e
      subst e
      rw [hN] at hn
      simp at hn
  refine ⟨hsub, ⟨hsub, by simp, fun n j hn hgn => ?_, fun b hb' _ => ?_, fun x => frozen_push w o hb.warm x, rfl, rfl, rfl⟩, ⟨hw.keepG fun b hb' _ => by show (w.heap.push o)[b]? = _; rw [Array.getElem?_push, if_neg (by omega)], by rw [hbase]; exact hw.gsize, fun g hg => ?_, fun n j hn hb' => ?_, by rw [hbase]; exact Nat.le_trans hw.next hnx, by rw [hbase]; have := hw.room; show H.base ≤ (w.heap.push o).size; simp only [Array.size_push]; omega, fun n hn => ?_, fun n hn => ⟨Nat.lt_of_lt_of_le (hw.hole n (hhole n hn).1).1 hnx, by unfold Inj.with; rw [if_neg (hhole n hn).2]; exact (hw.hole n (hhole n hn).1).2⟩, fun n j hn => ?_, fun n b' hn => ?_, fun n m b1 b2 i1 i2 h1 h2 e1 e2 he => ?_⟩⟩
  · unfold Inj.with at hn
    by_cases h : n = N
    · rw [if_pos h] at hn; simp at hn; subst hn; exact .inr (by omega)
    · rw [if_neg h] at hn; exact .inl ⟨n, j, hn, hgn, rfl⟩
  · show (w.heap.push o)[b]? = _
    rw [heap_push, if_neg (by omega)]
  · rw [hbase] at hg
    obtain ⟨k, h1, h2⟩ := hw.glob g hg
    exact ⟨k, hsub _ _ h1, h2⟩
  · rw [hbase] at hb' ⊢
    unfold Inj.with at hn
    by_cases h : n = N
    · rw [if_pos h] at hn; simp at hn; subst hn; rw [hi]; exact ⟨hw.room, hw.inpNew (Nat.le_refl _)⟩
    · rw [if_neg h] at hn; exact hw.over _ _ hn hb'
  · unfold Inj.with
    rw [if_neg (by omega)]
    exact hw.fresh _ (by omega)
  · unfold Inj.with at hn
    show j.blk < (w.heap.push o).size
    simp only [Array.size_push]
    by_cases h : n = N
    · rw [if_pos h] at hn; simp at hn; subst hn; omega
    · rw [if_neg h] at hn; have := hw.below _ _ hn; omega
  · rw [hget] at hn
    by_cases h : n = N
    · rw [if_pos h] at hn
      simp at hn
      subst hn
      refine ⟨i, o, by simp [Inj.with, h], ?_, hb.mono hsub⟩
      show (w.heap.push o)[i.blk]? = _
      rw [heap_push, if_pos hi]
    · rw [if_neg h] at hn
      obtain ⟨j, o', hj, ho', hr'⟩ := hw.live _ _ hn
      refine ⟨j, o', hsub _ _ hj, ?_, hr'.mono hsub⟩
      have := hw.below _ _ hj
      show (w.heap.push o)[j.blk]? = _
      rw [heap_push, if_neg (by omega)]
      exact ho'
  · rw [hget] at h1 h2
    unfold Inj.with at e1 e2
    by_cases g1 : n = N <;> by_cases g2 : m = N
    · omega
    · rw [if_pos g1] at e1; rw [if_neg g2] at e2; simp at e1; subst e1
      have := hw.below _ _ e2; omega
    · rw [if_neg g1] at e1; rw [if_pos g2] at e2; simp at e2; subst e2
      have := hw.below _ _ e1; omega
    · rw [if_neg g1] at e1 h1; rw [if_neg g2] at e2 h2
      exact hw.inj _ _ _ _ _ _ h1 h2 e1 e2 he

/-- A new name of a block that begins at its first cell. -/
def NewR : Inj → Nat → Nat → Prop := fun ι n n' => ∃ i, ι n = some i ∧ i.blk = n' ∧ i.off = 0
def NewC (size : Nat) : Inj → Nat → Nat → Prop := fun ι n n' => ∃ i, ι n = some i ∧ i.blk = n' ∧ i.off = 0 ∧ i.size = size ∧ i.extra = 0 ∧ i.esz = 1

theorem CRel.fresh {xs ys : Array Value} (h : ARel ι xs ys) (n : Nat) (elem : TypeId) : CRel ι ⟨n, 0, xs.size, 0, 1⟩ (.cells ys elem (0, 0)) (mkCells xs elem) := by
  refine ⟨⟨rfl, rfl, Nat.one_pos⟩, ys, rfl, by simp [mkCells, h.1], fun _ => ⟨rfl, rfl, h.1.symm⟩, fun k hk => ?_⟩
  rw [mkCells_get _ _ _ hk]
  simpa using h.2 k hk

theorem Sim.newCells {xs ys : Array Value} (h : ARel ι xs ys) (elem : TypeId) : Sim P ι (NewC xs.size) (newObj (.cells xs elem)) (newObj (.cells ys elem)) := by
  intro H x H' hr w hw
  simp only [newObj, arun, and_self, if_true, Option.some.injEq, Prod.mk.injEq] at hr
  obtain ⟨rfl, rfl⟩ := hr
  have := hw.new (b := .cells (mkCells xs elem)) (o := .cells ys elem) (i := ⟨w.heap.size, 0, xs.size, 0, 1⟩) rfl (CRel.fresh h _ elem)
  exact ⟨_, w.heap.size, _, rfl, this.2.1, this.2.2, ⟨⟨w.heap.size, 0, xs.size, 0, 1⟩, by simp [Inj.with], rfl, rfl, rfl, rfl, rfl⟩, .none rfl, by simp [Heap.new]; omega⟩

theorem Sim.newMap {es es' : Array MapEntry} (h : EsRel ι es es') (clock : Nat) : Sim P ι NewR (newObj (.map es clock)) (newObj (.map es' clock)) := by
  intro H x H' hr w hw
  simp only [newObj, arun, Option.some.injEq, Prod.mk.injEq] at hr
  obtain ⟨rfl, rfl⟩ := hr
  have := hw.new (b := .map es clock) (o := .map es' clock) (i := ⟨w.heap.size, 0, 0, 0, 1⟩) rfl ⟨es', rfl, h⟩
  exact ⟨_, w.heap.size, _, rfl, this.2.1, this.2.2, ⟨⟨w.heap.size, 0, 0, 0, 1⟩, by simp [Inj.with], rfl, rfl⟩, .none rfl, by simp [Heap.new]; omega⟩

/-! ### What a block is -/
theorem Sim.shape {n n' : Nat} (h : ∃ i, ι n = some i ∧ i.blk = n') :
    Sim P ι (fun ι' s s' => s = s' ∧ ∃ e k i, s = some (e, k) ∧ ι' n = some i ∧ i.blk = n' ∧ i.off = 0) (Go.shape n) (Go.shape n') := by
  intro H x H' hr w hw
  obtain ⟨i, hi, rfl⟩ := h
  simp only [Go.shape, arun] at hr
  cases hb : H.get n with
  | none => rw [hb] at hr; simp at hr
  | some b =>
    obtain ⟨j, o, hj, ho, hrel⟩ := hw.live _ _ hb
    obtain rfl : i = j := by rw [hi] at hj; exact Option.some.inj hj
    cases b with
    | map es clock => rw [hb] at hr; simp at hr
    | arr r => rw [hb] at hr; simp at hr
    | chan _ _ _ => rw [hb] at hr; simp at hr
    | part _ => rw [hb] at hr; simp at hr
    | cells c =>
      rw [hb] at hr
      simp only at hr
      cases hopn : c.opn with
      | true => rw [hopn] at hr; simp at hr
      | false =>
        rw [hopn] at hr
        simp only [Bool.false_eq_true, if_false, Option.some.injEq, Prod.mk.injEq] at hr
        obtain ⟨rfl, rfl⟩ := hr
        obtain ⟨h1, cs, rfl, h3, h4, h5⟩ := hrel
        obtain ⟨q1, q2, q3⟩ := h4 hopn
        refine ⟨ι, _, w, rfl, Ext.refl _ _, hw, ⟨?_, _, _, _, rfl, hi, rfl, q2⟩, .none rfl, rfl⟩
        simp [World.shape?, ho, q3]

theorem Sim.frozen {a a' : Addr} (ha : AddrRel ι a a') : Sim P ι (fun _ b b' => b = false ∧ b' = false) (Go.frozen a) (Go.frozen a') := by
  intro H x H' hr w hw
  obtain ⟨i, hi, rfl⟩ := ha
  simp only [Go.frozen, arun] at hr
  cases hb : H.get a.block with
  | none => rw [hb] at hr; simp at hr
  | some b =>
    rw [hb] at hr
    simp only [Option.some.injEq, Prod.mk.injEq] at hr
    obtain ⟨rfl, rfl⟩ := hr
    obtain ⟨j, o, hj, ho, hrel⟩ := hw.live _ _ hb
    obtain rfl : i = j := by rw [hi] at hj; exact Option.some.inj hj
    refine ⟨ι, _, w, rfl, Ext.refl _ _, hw, ⟨rfl, ?_⟩, .none rfl, rfl⟩
    cases b with
    | map es clock => obtain ⟨es', rfl, _⟩ := hrel; simp [World.frozen?, ho]
    | arr r => obtain ⟨_, cs, n, rfl, _⟩ := hrel; simp [World.frozen?, ho]
    | chan _ _ _ => obtain ⟨_, rfl⟩ := hrel; simp [World.frozen?, ho]
    | part _ => obtain ⟨_, rfl, _⟩ := hrel; simp [World.frozen?, ho]
    | cells c => obtain ⟨h1, cs, rfl, _⟩ := hrel; simp [World.frozen?, ho]

theorem Sim.getMap {n n' : Nat} (h : ∃ i, ι n = some i ∧ i.blk = n') :
    Sim P ι (fun ι' o o' => ∃ es es' clock, o = .map es clock ∧ o' = .map es' clock ∧ EsRel ι' es es') (Go.getObj n) (Go.getObj n') := by
  intro H x H' hr w hw
  obtain ⟨i, hi, rfl⟩ := h
  simp only [Go.getObj, arun] at hr
  cases hb : H.get n with
  | none => rw [hb] at hr; simp at hr
  | some b =>
    obtain ⟨j, o, hj, ho, hrel⟩ := hw.live _ _ hb
    obtain rfl : i = j := by rw [hi] at hj; exact Option.some.inj hj
    cases b with
    | cells c => rw [hb] at hr; simp at hr
    | arr r => rw [hb] at hr; simp at hr
    | chan _ _ _ => rw [hb] at hr; simp at hr
    | part _ => rw [hb] at hr; simp at hr
    | map es clock =>
      rw [hb] at hr
      simp only [Option.some.injEq, Prod.mk.injEq] at hr
      obtain ⟨rfl, rfl⟩ := hr
      obtain ⟨es', rfl, he⟩ := hrel
      refine ⟨ι, .map es' clock, w, by simp [Go.getObj, Sem.run, ho], Ext.refl _ _, hw, ⟨es, es', clock, rfl, rfl, he⟩, fun e hev => ?_, rfl⟩
      have hev' : e ∈ (#[⟨.obj i.blk, false, false⟩] : Array Event) := by
        have h1 : (Go.getObj i.blk).events P w #[] = #[⟨.obj i.blk, false, false⟩] := by simp only [Go.getObj, Sem.events, Sem.runT, ho]; rfl
        rw [h1] at hev; exact hev
      simp only [List.mem_toArray, List.mem_cons, List.not_mem_nil, or_false] at hev'
      subst hev'
      exact hw.below _ _ hi

theorem Sim.setMap {n n' : Nat} (h : ∃ i, ι n = some i ∧ i.blk = n') {es es' : Array MapEntry} (he : EsRel ι es es') (clock : Nat) :
    Sim P ι (fun _ _ _ => True) (Go.setObj n (.map es clock)) (Go.setObj n' (.map es' clock)) := by
  intro H x H' hr w hw
  obtain ⟨i, hi, rfl⟩ := h
  simp only [Go.setObj, arun] at hr
  cases hb : H.get n with
  | none => rw [hb] at hr; simp at hr
  | some b =>
    obtain ⟨j, o, hj, ho, hrel⟩ := hw.live _ _ hb
    obtain rfl : i = j := by rw [hi] at hj; exact Option.some.inj hj
    cases b with
    | cells c => rw [hb] at hr; simp at hr
    | arr r => rw [hb] at hr; simp at hr
    | chan _ _ _ => rw [hb] at hr; simp at hr
    | part _ => rw [hb] at hr; simp at hr
    | map es0 clock0 =>
      rw [hb] at hr
      by_cases hgb : Nat.ble H.base n = true
      case neg => simp [hgb] at hr
      have hkg : P.globals.size ≤ n := by rw [← hw.gsize]; exact Nat.le_of_ble_eq_true hgb
      simp only [hgb, if_true, Option.some.injEq, Prod.mk.injEq] at hr
      obtain ⟨_, rfl⟩ := hr
      obtain ⟨es0', rfl, he0⟩ := hrel
      have hheap : ∀ b, (w.heap.setIfInBounds i.blk (.map es' clock))[b]? = if b = i.blk then some (.map es' clock) else w.heap[b]? := by
        intro b
        by_cases hbb : b = i.blk
        · subst hbb; simp [hw.below _ _ hi]
        · rw [if_neg hbb]; simp [show ¬ i.blk = b from fun e => hbb e.symm]
      refine ⟨ι, (), { w with heap := w.heap.setIfInBounds i.blk (.map es' clock) }, by simp [Go.setObj, Sem.run, ho], ?_, ?_, trivial, fun e hev => ?_, by simp⟩
      case refine_3 =>
        have h1 : (Go.setObj i.blk (.map es' clock)).events P w #[] = #[⟨.obj i.blk, true, false⟩] := by simp only [Go.setObj, Sem.events, Sem.runT, ho]; rfl
        rw [h1] at hev
        simp only [List.mem_toArray, List.mem_cons, List.not_mem_nil, or_false] at hev
        subst hev
        show i.blk < _
        simpa using hw.below _ _ hi
      · refine ⟨Sub.refl ι, by simp, fun n i h h' => .inl ⟨n, i, h, h', rfl⟩, fun b _ hne => ?_, fun x => ?_, rfl, rfl, rfl⟩
        case refine_2 =>
          by_cases hx : x.block = i.blk
          · rw [frozen_warm (w := { w with heap := w.heap.setIfInBounds i.blk (.map es' clock) }) (b := i.blk) (by show (w.heap.setIfInBounds i.blk (.map es' clock))[i.blk]? = _; rw [hheap, if_pos rfl]) rfl x hx, frozen_warm ho rfl x hx]
          · have e1 : (w.heap.setIfInBounds i.blk (.map es' clock))[x.block]? = w.heap[x.block]? := by rw [hheap, if_neg hx]
            simp [World.frozen?, e1]
        show (w.heap.setIfInBounds i.blk (.map es' clock))[b]? = _
        rw [hheap, if_neg (fun e => hne _ _ hi hkg e.symm)]
      · refine ⟨hw.keepG fun b _ hne => by show (w.heap.setIfInBounds i.blk (.map es' clock))[b]? = _; rw [hheap, if_neg (fun e => hne _ _ hi hkg e.symm)], hw.gsize, hw.glob, hw.over, hw.next, by simpa using hw.room, hw.fresh, hw.hole, fun n k hk => by simpa using hw.below _ _ hk, fun m b hm => ?_, fun p q b d i' j' hp hq hi' hj' heq => ?_⟩
        · simp only [Heap.get_put] at hm
          by_cases hmn : m = n
          · subst hmn
            rw [if_pos rfl] at hm
            simp at hm
            subst hm
            exact ⟨i, _, hi, by rw [hheap, if_pos rfl], es', rfl, he⟩
          · rw [if_neg hmn] at hm
            obtain ⟨j, o, hj, ho', hr'⟩ := hw.live _ _ hm
            refine ⟨j, o, hj, ?_, hr'⟩
            rw [hheap, if_neg]
            · exact ho'
            · intro e; exact hmn (hw.inj _ _ _ _ _ _ hm hb hj hi e)
        · simp only [Heap.get_put] at hp hq
          have g : ∀ x b, (if x = n then some (Blk.map es clock) else H.get x) = some b → ∃ b, H.get x = some b := by
            intro x b hx
            by_cases hxn : x = n
            · subst hxn; exact ⟨_, hb⟩
            · rw [if_neg hxn] at hx; exact ⟨_, hx⟩
          obtain ⟨_, g1⟩ := g _ _ hp
          obtain ⟨_, g2⟩ := g _ _ hq
          exact hw.inj _ _ _ _ _ _ g1 g2 hi' hj' heq

/-! ### What dies -/
def Dead (P : Program) {α : Type} (s : Sem α) : Prop := ∀ H, arun P s H = none
theorem Sim.dead {α β : Type} {R : Inj → α → β → Prop} {s : Sem α} {s' : Sem β} (h : Dead P s) : Sim P ι R s s' := fun H a H' hr => by rw [h H] at hr; simp at hr
theorem Dead.bind {α β : Type} {x : Sem α} {f : α → Sem β} (h : ∀ a, Dead P (f a)) : Dead P (x >>= f) := fun H => by
  rw [arun_bind]
  cases arun P x H with
  | none => rfl
  | some r => exact h _ _
theorem Dead.first {α β : Type} {x : Sem α} {f : α → Sem β} (h : Dead P x) : Dead P (x >>= f) := fun H => by rw [arun_bind, h H]; rfl
theorem Dead.halt {α : Type} (h : Halt) : Dead P (Sem.halt h : Sem α) := fun _ => rfl
theorem Dead.stuck {α : Type} (s : String) : Dead P (stuck s : Sem α) := fun _ => rfl
theorem Dead.unsupported {α : Type} (s : Unsupported) : Dead P (unsupported s : Sem α) := fun _ => rfl
theorem Dead.goPanic {α : Type} (s : Value) : Dead P (goPanic s : Sem α) := fun _ => rfl
theorem Dead.runtimePanic {α : Type} (e : RuntimeError) : Dead P (runtimePanic e : Sem α) := by
  unfold Go.runtimePanic
  refine Dead.bind fun p => ?_
  cases e with
  | bounds x y s c => exact Dead.goPanic _
  | error m => exact Dead.goPanic _
  | plain m => exact Dead.goPanic _
  | nilDeref => exact Dead.goPanic _
  | typeAssertion i c a m => exact Dead.bind fun r => Dead.bind fun r => Dead.goPanic _
  | panicNil => exact Dead.bind fun r => Dead.bind fun r => Dead.goPanic _
  | unhashable t => exact Dead.goPanic _
theorem Dead.boundsPanic {α : Type} (k : IntKind) (x y : Int) (c : BoundsCode) : Dead P (boundsPanic k x y c : Sem α) := by
  unfold Go.boundsPanic
  dsimp only
  split
  · exact Dead.bind fun _ => Dead.runtimePanic _
  · exact Dead.bind fun _ => Dead.runtimePanic _

/-! ### What hangs on the program alone -/
def Static (P : Program) {α : Type} (s : Sem α) : Prop := ∀ H a H', arun P s H = some (a, H') → H' = H ∧ ∀ w, s.run P w = .ok a w ∧ ∀ es, s.events P w es = es
theorem Static.sim {α : Type} {s : Sem α} (h : Static P s) : Sim P ι EqR s s := fun H a H' hr w hw => by
  obtain ⟨rfl, h2⟩ := h _ _ _ hr
  exact ⟨ι, a, w, (h2 w).1, Ext.refl _ _, hw, rfl, .none ((h2 w).2 _), rfl⟩
theorem Static.pure {α : Type} (a : α) : Static P (Pure.pure a : Sem α) := fun H x H' hr => by
  simp at hr
  obtain ⟨rfl, rfl⟩ := hr
  exact ⟨rfl, fun _ => ⟨rfl, fun _ => rfl⟩⟩
theorem Static.dead {α : Type} {s : Sem α} (h : Dead P s) : Static P s := fun H x H' hr => by rw [h H] at hr; simp at hr
theorem Static.bind {α β : Type} {s : Sem α} {f : α → Sem β} (h : Static P s) (hf : ∀ a, Static P (f a)) : Static P (s >>= f) := fun H x H' hr => by
  rw [arun_bind] at hr
  cases h1 : arun P s H with
  | none => rw [h1] at hr; simp at hr
  | some r =>
    obtain ⟨a, H1⟩ := r
    rw [h1] at hr
    obtain ⟨rfl, g⟩ := h _ _ _ h1
    obtain ⟨rfl, g2⟩ := hf a _ _ _ hr
    exact ⟨rfl, fun w => ⟨by rw [Sem.run_bind, (g w).1]; exact (g2 w).1, fun es => by rw [Sem.events_bind, (g w).1, (g w).2]; exact (g2 w).2 es⟩⟩
theorem Static.program : Static P Go.program := fun H x H' hr => by
  simp only [Go.program, arun, Option.some.injEq, Prod.mk.injEq] at hr
  obtain ⟨rfl, rfl⟩ := hr
  exact ⟨rfl, fun _ => ⟨rfl, fun _ => rfl⟩⟩
theorem Static.ite {α : Type} {c : Prop} [Decidable c] {s t : Sem α} (h : Static P s) (h' : Static P t) : Static P (if c then s else t) := by split <;> assumption
theorem Static.typeInfo (t : TypeId) : Static P (Go.typeInfo t) := by
  unfold Go.typeInfo
  refine Static.program.bind fun p => ?_
  split
  · exact Static.pure _
  · exact Static.dead (Dead.stuck _)
theorem Static.underlying (t : TypeId) : Static P (Go.underlying t) := by
  unfold Go.underlying
  refine Static.program.bind fun p => ?_
  split
  · exact Static.pure _
  · exact Static.dead (Dead.stuck _)
theorem Static.zeroValue (t : TypeId) : Static P (Go.zeroValue t) := by
  unfold Go.zeroValue
  refine (Static.typeInfo t).bind fun p => ?_
  split
  · exact Static.pure _
  · exact Static.dead (Dead.unsupported _)
theorem Static.sizeOf (t : TypeId) : Static P (Go.sizeOf t) := (Static.typeInfo t).bind fun _ => Static.pure _
theorem Static.isAgg (t : TypeId) : Static P (Go.isAgg t) := by
  unfold Go.isAgg
  refine (Static.underlying t).bind fun p => ?_
  split <;> exact Static.pure _
theorem Static.elemOf (t : TypeId) : Static P (Go.elemOf t) := by
  unfold Go.elemOf
  refine (Static.underlying t).bind fun p => ?_
  split
  · exact Static.pure _
  · exact Static.dead (Dead.stuck _)
theorem Static.asIntOf (v : Value) : Static P (Go.asIntOf v) := by
  unfold Go.asIntOf
  split
  · exact Static.pure _
  · exact Static.dead (Dead.unsupported _)
  · exact Static.dead (Dead.stuck _)
theorem Static.asInt (v : Value) : Static P (Go.asInt v) := (Static.asIntOf v).bind fun _ => Static.pure _
theorem Static.asBool (v : Value) : Static P (Go.asBool v) := by
  unfold Go.asBool
  split
  · exact Static.pure _
  · exact Static.dead (Dead.stuck _)
theorem Static.asString (v : Value) : Static P (Go.asString v) := by
  unfold Go.asString
  split
  · exact Static.pure _
  · exact Static.dead (Dead.stuck _)
theorem Static.mapL {α β : Type} {f : α → Sem β} (h : ∀ a, Static P (f a)) : ∀ l : List α, Static P (l.mapM f)
  | [] => by simpa using Static.pure (P := P) ([] : List β)
  | x :: xs => by
    rw [List.mapM_cons]
    exact (h x).bind fun _ => (Static.mapL h xs).bind fun _ => Static.pure _
theorem Static.mapA {α β : Type} {f : α → Sem β} (h : ∀ a, Static P (f a)) (xs : Array α) : Static P (xs.mapM f) := by
  rw [Array.mapM_eq_mapM_toList]
  exact (Static.mapL h xs.toList).bind fun _ => Static.pure _

end Go.Ev
