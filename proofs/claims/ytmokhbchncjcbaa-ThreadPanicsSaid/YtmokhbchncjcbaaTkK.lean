/-
  A hand-over, in the small heap: a channel's block is turned; cells are said to stand still. No condition.
-/
import Derived.Test.YtmokhbchncjcbaaTkJ
namespace Go.Ev
open Go.Conc
set_option linter.unusedSectionVars false
variable [Syms] {P : Program} [NoFloat P] {ι : Inj} {H : Heap}

theorem Rel.chanPut {w : World} (hw : Rel P ι H w) {n room k : Nat} {cl : Bool} (hg : H.get n = some (.chan room k cl)) (hb : H.base ≤ n) (k' : Nat) (cl' : Bool) : Rel P ι (H.put n (.chan room k' cl')) (w.setChan (chanAt ι n) room #[] cl' k' k' false) := by
  obtain ⟨i, o, hi, ho, hr⟩ := hw.live n _ hg
  have hc : chanAt ι n = i.blk := by simp [chanAt, hi]
  rw [hc]
  have hne : ∀ b, b ≠ i.blk → (w.setChan i.blk room #[] cl' k' k' false).heap[b]? = w.heap[b]? := fun b hb' => heap_setChan_ne w room #[] cl' k' k' false (fun e => hb' e.symm)
  have hsize : (w.setChan i.blk room #[] cl' k' k' false).heap.size = w.heap.size := by simp [World.setChan]
  obtain ⟨o1, o2⟩ := hw.over n i hi hb
  have hput : ∀ m b, (H.put n (.chan room k' cl')).get m = some b → (m = n ∧ b = .chan room k' cl') ∨ (m ≠ n ∧ H.get m = some b) := fun m b hm => by
    rw [Heap.get_put] at hm
    by_cases e : m = n
    · rw [if_pos e] at hm; exact .inl ⟨e, (Option.some.inj hm).symm⟩
    · rw [if_neg e] at hm; exact .inr ⟨e, hm⟩
  have hget : ∀ m b, (H.put n (.chan room k' cl')).get m = some b → ∃ b', H.get m = some b' := fun m b hm => by
    rcases hput m b hm with ⟨rfl, _⟩ | ⟨_, h⟩
    · exact ⟨_, hg⟩
    · exact ⟨_, h⟩
  refine ⟨⟨fun b hlt => by rw [hne b (by have := hw.gsize; omega)]; exact hw.glb.1 b hlt, fun b o' ho' => ?_⟩, hw.gsize, hw.glob, hw.over, hw.next, by rw [hsize]; exact hw.room, hw.fresh, hw.hole, fun m j hm => by rw [hsize]; exact hw.below m j hm, fun m b hm => ?_, fun m m' b b' j j' hm hm' hj hj' e => ?_⟩
  · have : b ≠ i.blk := fun e => by subst e; rw [o2] at ho'; simp at ho'
    rw [hne b this]; exact hw.glb.2 b o' ho'
  · rcases hput m b hm with ⟨rfl, rfl⟩ | ⟨hmn, h⟩
    · obtain ⟨hoff, _⟩ := hr
      exact ⟨i, _, hi, heap_setChan_self w ho room #[] cl' k' k' false, hoff, rfl⟩
    · obtain ⟨j, oj, hj, hoj, hrj⟩ := hw.live m b h
      have : j.blk ≠ i.blk := fun e => hmn (hw.inj m n _ _ j i h hg hj hi e)
      exact ⟨j, oj, hj, by rw [hne _ this]; exact hoj, hrj⟩
  · obtain ⟨c1, h1⟩ := hget m b hm
    obtain ⟨c2, h2⟩ := hget m' b' hm'
    exact hw.inj m m' c1 c2 j j' h1 h2 hj hj' e
/-- Cells that nobody is to write any more. -/
theorem Rel.mark {w : World} (hw : Rel P ι H w) {n : Nat} {c : Cells} (hg : H.get n = some (.cells c)) (ro : Nat) : Rel P ι (H.put n (.cells { c with ro := ro })) w := by
  have hput : ∀ m b, (H.put n (.cells { c with ro := ro })).get m = some b → (m = n ∧ b = .cells { c with ro := ro }) ∨ (m ≠ n ∧ H.get m = some b) := fun m b hm => by
    rw [Heap.get_put] at hm
    by_cases e : m = n
    · rw [if_pos e] at hm; exact .inl ⟨e, (Option.some.inj hm).symm⟩
    · rw [if_neg e] at hm; exact .inr ⟨e, hm⟩
  have hget : ∀ m b, (H.put n (.cells { c with ro := ro })).get m = some b → ∃ b', H.get m = some b' := fun m b hm => by
    rcases hput m b hm with ⟨rfl, _⟩ | ⟨_, h⟩
    · exact ⟨_, hg⟩
    · exact ⟨_, h⟩
  refine ⟨hw.glb, hw.gsize, hw.glob, hw.over, hw.next, hw.room, hw.fresh, hw.hole, hw.below, fun m b hm => ?_, fun m m' b b' j j' hm hm' hj hj' e => ?_⟩
  · rcases hput m b hm with ⟨rfl, rfl⟩ | ⟨_, h⟩
    · obtain ⟨i, o, hi, ho, hr⟩ := hw.live m _ hg
      exact ⟨i, o, hi, ho, hr⟩
    · exact hw.live m b h
  · obtain ⟨c1, h1⟩ := hget m b hm
    obtain ⟨c2, h2⟩ := hget m' b' hm'
    exact hw.inj m m' c1 c2 j j' h1 h2 hj hj' e
/-! ### What others lean on, out of the holder's heap -/
noncomputable def leanHeap (H : Heap) : List Nat → Heap
  | [] => { H with m := .leaf }
  | n :: ns => match H.get n with
    | some (.cells c) => (leanHeap H ns).put n (.part c)
    | _ => leanHeap H ns
theorem leanHeap_same (H : Heap) : ∀ ns, (leanHeap H ns).base = H.base ∧ (leanHeap H ns).next = H.next ∧ (leanHeap H ns).hole = H.hole
  | [] => ⟨rfl, rfl, rfl⟩
  | n :: ns => by
    unfold leanHeap
    split
    · exact leanHeap_same H ns
    · exact leanHeap_same H ns
theorem leanHeap_get (H : Heap) : ∀ (ns : List Nat) (m : Nat) (b : Blk), (leanHeap H ns).get m = some b → ∃ c, b = .part c ∧ H.get m = some (.cells c) ∧ m ∈ ns
  | [], m, b, h => by
    simp only [leanHeap, Heap.get] at h
    simp [T.get] at h
  | n :: ns, m, b, h => by
    unfold leanHeap at h
    split at h
    · rename_i c hc
      rw [Heap.get_put] at h
      by_cases e : m = n
      · rw [if_pos e] at h
        subst e
        exact ⟨c, (Option.some.inj h).symm, hc, by simp⟩
      · rw [if_neg e] at h
        obtain ⟨c', h1, h2, h3⟩ := leanHeap_get H ns m b h
        exact ⟨c', h1, h2, by simp [h3]⟩
    · obtain ⟨c', h1, h2, h3⟩ := leanHeap_get H ns m b h
      exact ⟨c', h1, h2, by simp [h3]⟩
theorem Rel.lean {w : World} (hw : Rel P ι H w) (ns : List Nat) : Rel P ι (leanHeap H ns) w := by
  obtain ⟨e1, e2, e3⟩ := leanHeap_same H ns
  refine ⟨hw.glb, e1.trans hw.gsize, by rw [e1]; exact hw.glob, by rw [e1]; exact hw.over, by rw [e1, e2]; exact hw.next, by rw [e1]; exact hw.room, by rw [e2]; exact hw.fresh, by rw [e3, e2]; exact hw.hole, hw.below, fun m b hm => ?_, fun m m' b b' j j' hm hm' hj hj' e => ?_⟩
  · obtain ⟨c, rfl, hc, _⟩ := leanHeap_get H ns m b hm
    obtain ⟨i, o, hi, ho, hr⟩ := hw.live m _ hc
    obtain ⟨_, cs, rfl, h3, h4, h5⟩ := hr
    exact ⟨i, _, hi, ho, cs, rfl, by omega, fun k hk _ => h5 k hk⟩
  · obtain ⟨c1, _, h1, _⟩ := leanHeap_get H ns m b hm
    obtain ⟨c2, _, h2, _⟩ := leanHeap_get H ns m' b' hm'
    exact hw.inj m m' _ _ j j' h1 h2 hj hj' e
/-- The cells that stand still hold fixed values. -/
noncomputable def stands (H : Heap) (ns : List Nat) : Bool := ns.all fun n => match H.get n with
  | some (.cells c) => (List.range c.size).all fun k => !c.ro.testBit k || fixedV (c.get k)
  | _ => true
theorem lean_ok (ns : List Nat) (h : stands H ns = true) : Lean P ι (leanHeap H ns) := by
  refine ⟨fun n b hn => ?_, fun n c k hn hk hb => ?_⟩
  · obtain ⟨c, e, _⟩ := leanHeap_get H ns n b hn
    exact ⟨c, e⟩
  · obtain ⟨c', e, hc, hm⟩ := leanHeap_get H ns n _ hn
    cases e
    unfold stands at h
    rw [List.all_eq_true] at h
    have := h n hm
    rw [hc] at this
    simp only [List.all_eq_true, List.mem_range] at this
    simpa [hb] using this k hk
noncomputable def chansIn (H : Heap) (Cs : List Nat) : Bool := Cs.all fun n => match H.get n with
  | some (.chan _ _ _) => true
  | _ => false
theorem holds_ok {w : World} (hw : Rel P ι H w) (ns Cs : List Nat) (h : chansIn H Cs = true) : Holds P ι (leanHeap H ns) Cs ι H := by
  have below : ∀ n b, H.get n = some b → n < H.next := fun n b hn => by
    obtain ⟨i, o, hi, _⟩ := hw.live n b hn
    rcases Nat.lt_or_ge n H.next with hlt | hge
    · exact hlt
    · rw [hw.fresh n hge] at hi; simp at hi
  refine ⟨Sub.refl ι, (leanHeap_same H ns).1, fun n c hn => ?_, fun n hn => ?_⟩
  · obtain ⟨c', e, hc, _⟩ := leanHeap_get H ns n _ hn
    cases e
    exact ⟨below n _ hc, c, hc, rfl, rfl, rfl, fun _ _ _ => rfl⟩
  · unfold chansIn at h
    rw [List.all_eq_true] at h
    have := h n hn
    split at this
    · rename_i r k cl hc
      exact ⟨below n _ hc, r, k, cl, hc⟩
    · simp at this
theorem low_ok {w : World} (hw : Rel P ι H w) (ns : List Nat) {B : Nat} (hB : w.heap.size ≤ B) : Low P ι (leanHeap H ns) B :=
  ⟨fun n b hn => by obtain ⟨c, e, _⟩ := leanHeap_get H ns n b hn; exact ⟨c, e⟩, fun n i hi => Nat.lt_of_lt_of_le (hw.below n i hi) hB⟩
/-- The seats' channels, by names. -/
theorem chansOf_ok {Cs : List Nat} {Inb : Nat → Option Seat} (hi : ∀ n ∈ Cs, (ι n).isSome = true) (h : ∀ j s, Inb j = some s → ∃ g l sh, s = seatAt P ι g l sh ∧ ∀ p ∈ l, p.1 ∈ Cs) : ChansOf ι Cs Inb := by
  intro j s c hs hc
  obtain ⟨g, l, sh, rfl, hl⟩ := h j s hs
  obtain ⟨p, hp, e⟩ := seatAt_has hc
  have := hi p.1 (hl p hp)
  cases h2 : ι p.1 with
  | none => rw [h2] at this; simp at this
  | some i => exact ⟨p.1, hl p hp, i, h2, by rw [← e]; simp [chanAt, h2]⟩
end Go.Ev
