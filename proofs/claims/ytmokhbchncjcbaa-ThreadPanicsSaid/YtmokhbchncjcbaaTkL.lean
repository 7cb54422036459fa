/-
  What others lean on may be said anew: the same still cells, by the holder's names as they are now. No condition.
-/
import Derived.Test.YtmokhbchncjcbaaTkK
namespace Go.Ev
open Go.Conc
open Go.ConcN (upd upd_same upd_ne)
set_option linter.unusedSectionVars false
variable [Syms] {P : Program} [NoFloat P] {ft : Nat → Option Func}

/-! ### More is leaned on -/
section
variable {K K' : World → Prop} {Still : Loc → Prop} {B : Nat} {main : Bool}
theorem goes_strong (hk : ∀ w, K' w → K w) {Stop Stop' : Goroutine → World → Prop} (hs : ∀ g w, Stop g w → Stop' g w) : ∀ {n : Nat} {g : Goroutine} {w : World}, Goes P main (RK K) (DS Still B) Stop n g w → Goes P main (RK K') (DS Still B) Stop' n g w
  | 0, _, _, hg => fun w₁ r => hs _ _ (hg w₁ (hk _ r))
  | n + 1, _, _, hg => by
    rcases hg with h | ⟨hr, hst⟩
    · exact .inl fun w₁ r => hs _ _ (h w₁ (hk _ r))
    · refine .inr ⟨hr, fun w₁ r => ?_⟩
      obtain ⟨g', w', es, e, hd, hn⟩ := goes_elim (hst w₁ (hk _ r))
      rw [e]
      exact ⟨hd, goes_strong hk hs hn⟩
theorem atIn_strong (hk : ∀ w, K' w → K w) {s : Seat} {g g₂ : Goroutine} (h : AtIn P main K Still B s g g₂) : AtIn P main K' Still B s g g₂ := by
  obtain ⟨h1, h2, h3, h4, h5, es, h6, h7⟩ := h
  exact ⟨h1, h2, h3, h4, h5, es, h6, fun w hw => h7 w (hk w hw)⟩
theorem sits_strong (hk : ∀ w, K' w → K w) {s : Seat} {n : Nat} {g : Goroutine} (h : Sits P main K Still B s n g) : Sits P main K' Still B s n g := by
  rcases h with ⟨k, w, e, hg⟩ | ⟨e, g₀, g₂, e2, hg⟩
  · exact .inl ⟨k, w, e, goes_strong hk (fun _ _ ⟨g₂, h⟩ => ⟨g₂, atIn_strong hk h⟩) hg⟩
  · exact .inr ⟨e, g₀, g₂, e2, atIn_strong hk hg⟩
theorem idle_strong (hk : ∀ w, K' w → K w) {T : Trace} {i n : Nat} {g : Goroutine} : ∀ {o : Option Seat}, Idle P K Still B T i n g o → Idle P K' Still B T i n g o
  | none, h => h
  | some _, h => sits_strong hk h
variable {Mem Mem' : Nat → Prop} {Inb : Nat → Option Seat} {h : Nat} {T : Trace} {gs : Array Goroutine} {w : World} {q : Nat → Nat}
theorem Ring.strong (C : Ring P K Still B Mem Inb h T gs w q) (hw : K' w) (hk : ∀ w, K' w → K w) : Ring P K' Still B Mem Inb h T gs w q :=
  ⟨fun i g hi hg => idle_strong hk (C.idle i g hi hg), C.chans, C.wf, C.live, C.inj, C.above, C.mem, C.nomem, C.lo, C.past, hw⟩
theorem Ring.remember (C : Ring P K Still B Mem Inb h T gs w q) (h1 : ∀ g, Mem' g → Mem g) (h2 : ∀ i s, Inb i = some s → Mem' i) (h3 : ∀ i, Mem' i → Inb i ≠ none ∨ i = h) : Ring P K Still B Mem' Inb h T gs w q :=
  ⟨C.idle, C.chans, C.wf, C.live, C.inj, C.above, fun i s e => ⟨h2 i s e, (C.mem i s e).2⟩, h3, C.lo, PastG.fewer C.past h1, C.keep⟩
end

/-! ### The same cells, later -/
noncomputable def cellsIn (H : Heap) (ns : List Nat) : Bool := ns.all fun n => match H.get n with
  | some (.cells _) => true
  | _ => false
theorem cellsIn_ok {H : Heap} {ns : List Nat} (h : cellsIn H ns = true) {n : Nat} (hn : n ∈ ns) : ∃ c, H.get n = some (.cells c) := by
  unfold cellsIn at h
  rw [List.all_eq_true] at h
  have := h n hn
  split at this
  · rename_i c hc; exact ⟨c, hc⟩
  · simp at this
theorem leanHeap_of {H : Heap} {n : Nat} {c : Cells} (hc : H.get n = some (.cells c)) : ∀ {ns : List Nat}, n ∈ ns → (leanHeap H ns).get n = some (.part c)
  | [], h => absurd h List.not_mem_nil
  | m :: ns, h => by
    unfold leanHeap
    by_cases e : m = n
    · subst e
      rw [hc]
      simp
    · have hn : n ∈ ns := (List.mem_cons.1 h).resolve_left fun x => e x.symm
      split
      · rw [Heap.get_put, if_neg fun x => e x.symm]
        exact leanHeap_of hc hn
      · exact leanHeap_of hc hn
theorem leanHeap_put {H : Heap} {m : Nat} {b : Blk} (hg : ∀ c, H.get m ≠ some (.cells c)) (hb : ∀ c, b ≠ .cells c) : ∀ ns, leanHeap (H.put m b) ns = leanHeap H ns
  | [] => rfl
  | n :: ns => by
    unfold leanHeap
    rw [leanHeap_put hg hb ns, Heap.get_put]
    by_cases e : n = m
    · subst e
      rw [if_pos rfl]
      cases b with
      | cells c => exact absurd rfl (hb c)
      | _ =>
        cases hq : H.get n with
        | none => rfl
        | some x =>
          cases x with
          | cells c => exact absurd hq (hg c)
          | _ => rfl
    · rw [if_neg e]
section
variable {ι ι' : Inj} {H H' : Heap} {ns Cs : List Nat} {w0 : World}
theorem still_same (hc : cellsIn H ns = true) (hw0 : Rel P ι H w0) (hh : Holds P ι (leanHeap H ns) Cs ι' H') : StillOf ι' (leanHeap H' ns) = StillOf ι (leanHeap H ns) := by
  funext l
  apply propext
  constructor
  · rintro ⟨n, c', i, k, h1, h2, h3, h4, h5⟩
    obtain ⟨c1, e, g1, hn⟩ := leanHeap_get H' ns n _ h1
    cases e
    obtain ⟨c, g0⟩ := cellsIn_ok hc hn
    obtain ⟨_, c2, q1, q2, q3, _, _⟩ := hh.parts n c (leanHeap_of g0 hn)
    rw [g1] at q1
    cases q1
    obtain ⟨j, o, hj, _, _⟩ := hw0.live n _ g0
    have := hh.sub _ _ hj
    rw [h2] at this
    cases this
    exact ⟨n, c, i, k, leanHeap_of g0 hn, hj, by rw [← q3]; exact h3, by rw [← q2]; exact h4, h5⟩
  · rintro ⟨n, c, i, k, h1, h2, h3, h4, h5⟩
    obtain ⟨_, c2, q1, q2, q3, _, _⟩ := hh.parts n c h1
    obtain ⟨_, e, _, hn⟩ := leanHeap_get H ns n _ h1
    exact ⟨n, c2, i, k, leanHeap_of q1 hn, hh.sub _ _ h2, by rw [q3]; exact h3, by rw [q2]; exact h4, h5⟩
/-- What was leaned on follows of what is leaned on now. -/
theorem lean_weak (hst : stands H ns = true) (hw0 : Rel P ι H w0) (hh : Holds P ι (leanHeap H ns) Cs ι' H') {w : World} (r : Rel P ι' (leanHeap H' ns) w) : Rel P ι (leanHeap H ns) w := by
  obtain ⟨e1, e2, e3⟩ := leanHeap_same H ns
  obtain ⟨e1', _, _⟩ := leanHeap_same H' ns
  have hbase : H.base = H'.base := by have := hh.base; rw [e1] at this; exact this
  have hl : Lean P ι (leanHeap H ns) := lean_ok ns hst
  refine ⟨r.glb, by rw [e1]; exact hw0.gsize, by rw [e1]; exact hw0.glob, by rw [e1]; exact hw0.over, by rw [e1, e2]; exact hw0.next, by rw [e1, hbase, ← e1']; exact r.room, by rw [e2]; exact hw0.fresh, by rw [e3, e2]; exact hw0.hole, fun n i hi => r.below n i (hh.sub _ _ hi), fun n b hn => ?_, fun n m b b' i j hn hm hi hj e => ?_⟩
  · obtain ⟨c, rfl, g0, hm⟩ := leanHeap_get H ns n b hn
    obtain ⟨_, c2, q1, q2, q3, q4, q5⟩ := hh.parts n c hn
    obtain ⟨i, o, hi, ho, cs, rfl, h1, h2⟩ := r.live n _ (leanHeap_of q1 hm)
    obtain ⟨j, o0, hj, ho0, hr0⟩ := hw0.live n _ g0
    have eij := hh.sub _ _ hj
    rw [hi] at eij
    cases eij
    obtain ⟨_, cs0, rfl, _, _, h3⟩ := hr0
    refine ⟨i, _, hj, ho, cs, by rw [q4], by rw [← q3]; exact h1, fun k hk hb => ?_⟩
    have a1 := h2 k (by rw [q3]; exact hk) (by rw [q2]; exact hb)
    rw [q5 k hk hb] at a1
    have a0 := h3 k hk
    rw [VRel.fixed hh.sub (hl.fixed n c k hn hk hb) a0 a1]
    exact a0
  · obtain ⟨c, rfl, g0, hm'⟩ := leanHeap_get H ns n b hn
    obtain ⟨c', rfl, g0', hm''⟩ := leanHeap_get H ns m b' hm
    obtain ⟨_, c2, q1, _⟩ := hh.parts n c hn
    obtain ⟨_, c3, q1', _⟩ := hh.parts m c' hm
    exact r.inj n m _ _ i j (leanHeap_of q1 hm') (leanHeap_of q1' hm'') (hh.sub _ _ hi) (hh.sub _ _ hj) e
/-- The frame, said anew. -/
theorem Ring.renew {B h : Nat} {Mem : Nat → Prop} {Inb : Nat → Option Seat} {T : Trace} {gs : Array Goroutine} {w : World} {q : Nat → Nat} (hc : cellsIn H ns = true) (hst : stands H ns = true) (hw0 : Rel P ι H w0) (hh : Holds P ι (leanHeap H ns) Cs ι' H') (hw : Rel P ι' H' w)
    (C : Ring P (Rel P ι (leanHeap H ns)) (StillOf ι (leanHeap H ns)) B Mem Inb h T gs w q) : Ring P (Rel P ι' (leanHeap H' ns)) (StillOf ι' (leanHeap H' ns)) B Mem Inb h T gs w q := by
  rw [still_same hc hw0 hh]
  exact Ring.strong C (hw.lean ns) fun w r => lean_weak hst hw0 hh r
theorem Holds.cells (hc : cellsIn H ns = true) (hh : Holds P ι (leanHeap H ns) Cs ι' H') : cellsIn H' ns = true := by
  unfold cellsIn
  rw [List.all_eq_true]
  intro n hn
  obtain ⟨c, g0⟩ := cellsIn_ok hc hn
  obtain ⟨_, c2, q1, _⟩ := hh.parts n c (leanHeap_of g0 hn)
  rw [q1]
end
end Go.Ev
