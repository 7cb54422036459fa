/-
  Two parties: one holds the token, the other one sits; or goroutine 0 is alone beside those who leave. What they come to by the holder's walks. Conditions: EnvOk; no code stands for other code.
-/
import Derived.Test.YtmokhbchncjcbaaTkL
namespace Go.Ev
open Go.Conc
open Go.ConcN (upd upd_same upd_ne)
set_option linter.unusedSectionVars false
variable [Syms] {P : Program} [NoFloat P] {ft : Nat → Option Func}

/-- All seats, by names of channels. -/
def Chairs (P : Program) (Cs : List Nat) (ι : Inj) (Inb : Nat → Option Seat) : Prop :=
  ∀ i s, Inb i = some s → ∃ ιo g l sh, s = seatAt P ιo g l sh ∧ Sub ιo ι ∧ ∀ p ∈ l, p.1 ∈ Cs ∧ (ιo p.1).isSome = true
theorem Chairs.chans {Cs : List Nat} {ι : Inj} {Inb : Nat → Option Seat} (h : Chairs P Cs ι Inb) : ChansOf ι Cs Inb := by
  intro i s c hs hc
  obtain ⟨ιo, g, l, sh, rfl, hsub, hl⟩ := h i s hs
  obtain ⟨p, hp, e⟩ := seatAt_has hc
  obtain ⟨h1, h2⟩ := hl p hp
  cases h3 : ιo p.1 with
  | none => rw [h3] at h2; simp at h2
  | some j => exact ⟨p.1, h1, j, hsub _ _ h3, by rw [← e]; simp [chanAt, h3]⟩
theorem Chairs.mono {Cs : List Nat} {ι ι' : Inj} {Inb : Nat → Option Seat} (h : Chairs P Cs ι Inb) (hs : Sub ι ι') : Chairs P Cs ι' Inb := fun i s e => by
  obtain ⟨ιo, g, l, sh, h1, h2, h3⟩ := h i s e
  exact ⟨ιo, g, l, sh, h1, h2.trans hs, h3⟩

structure HeldAt (P : Program) (M δ : Nat) (Wi : World) (ιi : Inj) (ns Cs : List Nat) (b : Bool) (g : AG) (H : Heap) (og : AG) (ol : List (Nat × Value)) (osh : CommShape) (m : Machine) (T : Trace)
    (ι ιo : Inj) (h j : Nat) (Inb : Nat → Option Seat) (gs : Array Goroutine) (w : World) (sl : Option (Nat × Nat)) (q : Nat → Nat) (a : Goroutine) : Prop where
  mach : m = crowd gs w sl
  ne : h ≠ j
  zero : (h == 0) = !b ∧ (j == 0) = b
  lt : j < gs.size
  at_ : gs[h]? = some a
  rel : Rel P ι H w
  grel : GRel P ι g a
  size : w.heap.size = H.next + δ
  ext : Ext P ιi Wi ι w
  chairs : Chairs P Cs ι Inb
  other : Inb j = some (seatAt P ιo og ol osh)
  osub : Sub ιo ι
  onames : ∀ p ∈ ol, p.1 ∈ Cs ∧ (ιo p.1).isSome = true
  rest : ∀ i, i ≠ h → i ≠ j → Inb i = none
  ring : Ring P (Rel P ι (leanHeap H ns)) (StillOf ι (leanHeap H ns)) (M + δ) (fun i => i = h ∨ i = j) Inb h T gs w q
/-- One holds (b: not goroutine 0), the other one sits. -/
def Held (P : Program) (M δ : Nat) (Wi : World) (ιi : Inj) (ns Cs : List Nat) (b : Bool) (g : AG) (H : Heap) (og : AG) (ol : List (Nat × Value)) (osh : CommShape) (m : Machine) (T : Trace) : Prop :=
  ∃ ι ιo h j Inb gs w sl q a, HeldAt P M δ Wi ιi ns Cs b g H og ol osh m T ι ιo h j Inb gs w sl q a
structure AloneAt (P : Program) (M δ : Nat) (Wi : World) (ιi : Inj) (g : AG) (H : Heap) (m : Machine) (T : Trace) (ι : Inj) (gs : Array Goroutine) (w : World) (sl : Option (Nat × Nat)) (q : Nat → Nat) (a : Goroutine) : Prop where
  mach : m = crowd gs w sl
  at_ : gs[0]? = some a
  rel : Rel P ι H w
  grel : GRel P ι g a
  size : w.heap.size = H.next + δ
  ext : Ext P ιi Wi ι w
  leave : Leavers P T gs q
  past : Past (fun _ => False) (M + δ) T
/-- Goroutine 0 beside those who leave. -/
def Alone (P : Program) (M δ : Nat) (Wi : World) (ιi : Inj) (g : AG) (H : Heap) (m : Machine) (T : Trace) : Prop := ∃ ι gs w sl q a, AloneAt P M δ Wi ιi g H m T ι gs w sl q a

/-! ### Walks -/
theorem Lets.ext {M : Nat} {Inv : Inj → Heap → World → Prop} {D : World → World → Array Event → Prop} (h : Lets P M Inv D) (Wi : World) (ιi : Inj) : Lets P M (fun ι H w => Inv ι H w ∧ Ext P ιi Wi ι w) D := by
  refine ⟨fun ι H w ι' H' w' es hw hx hw' ev ro z hM hi => ?_, fun ι H w d hi => ⟨h.draw ι H w d hi.1, hi.2.trans (Ext.draw ι w d)⟩⟩
  obtain ⟨h1, h2⟩ := h.step ι H w ι' H' w' es hw hx hw' ev ro z hM hi.1
  exact ⟨h1, h2, hi.2.trans hx⟩
/-- Names from N0 on have changed among themselves. -/
def Agree (N0 : Nat) (ι ι' : Inj) : Prop := (∀ n, n < N0 → ι' n = ι n) ∧ ∀ n i, ι' n = some i → N0 ≤ n → ∃ m, N0 ≤ m ∧ ι m = some i
def Perms (N : Nat) (Inv : Inj → Heap → World → Prop) : Prop := ∀ N0 ι ι' H w, N ≤ N0 → Inv ι H w → Agree N0 ι ι' → Inv ι' H w
theorem perms_held {ι0 ιi : Inj} {Hs : Heap} {Cs : List Nat} {δ N : Nat} {Wi : World} (hf : ∀ n, N ≤ n → ι0 n = none) (hs : Sub ιi ι0) (hb : P.globals.size ≤ N) : Perms N fun ι H w => Hld P ι0 Hs Cs δ ι H w ∧ Ext P ιi Wi ι w := by
  intro N0 ι ι' H w hN ⟨h1, h2⟩ ha
  have low : ∀ n i, ι0 n = some i → n < N0 := fun n i hi => by
    rcases Nat.lt_or_ge n N with h | h
    · omega
    · rw [hf n h] at hi; cases hi
  refine ⟨⟨⟨fun n i hi => ?_, h1.holds.base, h1.holds.parts, h1.holds.chans⟩, h1.size⟩, fun n i hi => ?_, h2.size, fun n i hi hg => ?_, h2.keep, h2.froz, h2.tape, h2.os, h2.output⟩
  · rw [ha.1 n (low n i hi)]; exact h1.holds.sub n i hi
  · rw [ha.1 n (low n i (hs n i hi))]; exact h2.sub n i hi
  · rcases Nat.lt_or_ge n N0 with h | h
    · rw [ha.1 n h] at hi; exact h2.img n i hi hg
    · obtain ⟨m, hm, e⟩ := ha.2 n i hi h
      exact h2.img m i e (by omega)
/-- From one record and heap to another one, on whatever tape. -/
def Moves (P : Program) (M : Nat) (g : AG) (H : Heap) (g' : AG) (H' : Heap) : Prop := ∀ main, ∃ k, ∀ (Inv : Inj → Heap → World → Prop) (D : World → World → Array Event → Prop), Lets P M Inv D → Perms H.next Inv → ∀ (Stop : Goroutine → World → Prop) (ι : Inj) (a : Goroutine) (w : World), Rel P ι H w → GRel P ι g a → Inv ι H w →
  (∀ ι' a' w', Sub ι ι' → Rel P ι' H' w' → GRel P ι' g' a' → Inv ι' H' w' → Stop a' w') → Goes P main AtRel D Stop k a w
theorem moves_steps (hE : @EnvOk noMarks P ft) {M n : Nat} {g g' : AG} {H H' : Heap} (h : stepsA P ft n g H = some (g', H')) (hM : H'.next ≤ M) : Moves P M g H g' H' := fun _ => ⟨n, fun _ _ hD _ _ ι a w hw hg hi hS => goes_steps hE hD n g H g' H' h hM ι a w hw hg hi hS⟩
theorem moves_join (hE : @EnvOk noMarks P ft) {M n last : Nat} {A : Fr} {f : AFrame} {cs : List AFrame} {H : Heap} {id : Nat} {ops : Array Oper} {k : List Item} (hM : H.next ≤ M)
    (hm : f.mode = .run) (ht : f.todo = .code (.region id ops true) :: k) (hj : joins P ft H f ops k n last A = true) : Moves P M (f, cs) H ({ f with A := A, todo := .inRegion ops [last] :: k }, cs) H :=
  fun _ => ⟨n + 1, fun _ _ hD _ _ _ _ _ hw hg hi hS => goes_join hE hD hM hm ht hj hw hg hi hS⟩

section
variable {M δ : Nat} {Wi : World} {ιi : Inj} {ns Cs : List Nat} {b : Bool} {g g' : AG} {H H' : Heap} {og : AG} {ol : List (Nat × Value)} {osh : CommShape} {m : Machine} {T : Trace}
/-- THE HOLDER WALKS. -/
theorem Held.walk (hst : stands H ns = true) (hcl : cellsIn H ns = true) (hch : chansIn H Cs = true) (hm : Moves P M g H g' H') (h : Held P M δ Wi ιi ns Cs b g H og ol osh m T) :
    ∃ N m' T', runNT P N m T = (.next m', T') ∧ Held P M δ Wi ιi ns Cs b g' H' og ol osh m' T' := by
  obtain ⟨ι, ιo, h, j, Inb, gs, w, sl, q, a, X⟩ := h
  have hl : Lean P ι (leanHeap H ns) := lean_ok ns hst
  have hD := (lets_holder (δ := δ) (M := M) hl X.chairs.chans).ext Wi ιi
  obtain ⟨k, hk⟩ := hm (h == 0)
  have hG := hk _ _ hD (perms_held X.rel.fresh X.ext.sub (by have := X.rel.next; rw [X.rel.gsize] at this; exact this)) (fun a' w' => ∃ ι', Sub ι ι' ∧ Rel P ι' H' w' ∧ GRel P ι' g' a' ∧ Hld P ι (leanHeap H ns) Cs δ ι' H' w' ∧ Ext P ιi Wi ι' w') ι a w X.rel X.grel ⟨⟨holds_ok X.rel ns Cs hch, X.size⟩, X.ext⟩ fun ι' a' w' hs hr hg hi => ⟨ι', hs, hr, hg, hi.1, hi.2⟩
  obtain ⟨N, gs', a', w', sl', T', q', hr, hsz, ha', ⟨ι', s1, r1, g1, h1, x1⟩, C'⟩ := hold_walk (sl := sl) (fun w d h => lean_draw d h) (fun _ _ _ h => h) X.at_ X.ring hG
  refine ⟨N, _, T', X.mach ▸ hr, ι', ιo, h, j, Inb, gs', w', sl', q', a', ⟨rfl, X.ne, X.zero, by rw [hsz]; exact X.lt, ha', r1, g1, h1.size, x1, X.chairs.mono s1, X.other, X.osub.trans s1, X.onames, X.rest, Ring.renew hcl hst X.rel h1.holds r1 C'⟩⟩
/-- Goroutine 0 alone, as a ring's holder. -/
theorem AloneAt.ring {ι : Inj} {gs : Array Goroutine} {w : World} {sl : Option (Nat × Nat)} {q : Nat → Nat} {a : Goroutine} (X : AloneAt P M δ Wi ιi g H m T ι gs w sl q a) (ns : List Nat) :
    Ring P (Rel P ι (leanHeap H ns)) (StillOf ι (leanHeap H ns)) (M + δ) (fun g => g = 0) (fun _ => none) 0 T gs w q :=
  ring_begin (fun l ⟨_, _, _, _, _, _, _, _, e⟩ => by subst e; rfl) X.leave X.past (X.rel.lean ns)
theorem Alone.walk (hm : Moves P M g H g' H') (h : Alone P M δ Wi ιi g H m T) : ∃ N m' T', runNT P N m T = (.next m', T') ∧ Alone P M δ Wi ιi g' H' m' T' := by
  obtain ⟨ι, gs, w, sl, q, a, X⟩ := h
  have hl : Lean P ι (leanHeap H []) := lean_ok [] rfl
  have hC : ChansOf ι [] (fun _ => none) := fun _ _ _ e => by cases e
  have hD := (lets_holder (δ := δ) (M := M) hl hC).ext Wi ιi
  obtain ⟨k, hk⟩ := hm true
  have hG := hk _ _ hD (perms_held X.rel.fresh X.ext.sub (by have := X.rel.next; rw [X.rel.gsize] at this; exact this)) (fun a' w' => ∃ ι', Sub ι ι' ∧ Rel P ι' H' w' ∧ GRel P ι' g' a' ∧ Hld P ι (leanHeap H []) [] δ ι' H' w' ∧ Ext P ιi Wi ι' w') ι a w X.rel X.grel ⟨⟨holds_ok X.rel [] [] rfl, X.size⟩, X.ext⟩ fun ι' a' w' hs hr hg hi => ⟨ι', hs, hr, hg, hi.1, hi.2⟩
  obtain ⟨N, gs', a', w', sl', T', q', hr, hsz, ha', ⟨ι', s1, r1, g1, h1, x1⟩, C'⟩ := hold_walk (sl := sl) (fun w d h => lean_draw d h) (fun _ _ _ h => h) X.at_ (X.ring []) hG
  obtain ⟨L, Pp⟩ := ring_end C' rfl fun _ _ => rfl
  exact ⟨N, _, T', X.mach ▸ hr, ι', gs', w', sl', q', a', ⟨rfl, ha', r1, g1, h1.size, x1, L, Pp⟩⟩
/-- Cells are said to stand still, or not to. -/
noncomputable def markH (H : Heap) (n ro : Nat) : Option Heap := match H.get n with
  | some (.cells c) => some (H.put n (.cells { c with ro := ro }))
  | _ => none
noncomputable def marksH : List (Nat × Nat) → Heap → Option Heap
  | [], H => some H
  | x :: r, H => match markH H x.1 x.2 with
    | some H' => marksH r H'
    | none => none
theorem marksH_rel {ι : Inj} {w : World} : ∀ {l : List (Nat × Nat)} {H H' : Heap}, marksH l H = some H' → Rel P ι H w → Rel P ι H' w ∧ H'.next = H.next
  | [], H, H', h, hw => by
    simp only [marksH, Option.some.injEq] at h
    subst h
    exact ⟨hw, rfl⟩
  | x :: r, H, H', h, hw => by
    simp only [marksH] at h
    cases h1 : markH H x.1 x.2 with
    | none => rw [h1] at h; simp at h
    | some H1 =>
      rw [h1] at h
      unfold markH at h1
      split at h1
      · rename_i c hc
        simp only [Option.some.injEq] at h1
        subst h1
        have h' : marksH r (H.put x.1 (.cells { c with ro := x.2 })) = some H' := h
        obtain ⟨q1, q2⟩ := marksH_rel h' (hw.mark hc x.2)
        exact ⟨q1, q2⟩
      · simp at h1
theorem Alone.marks {l : List (Nat × Nat)} (hm : marksH l H = some H') (h : Alone P M δ Wi ιi g H m T) : Alone P M δ Wi ιi g H' m T := by
  obtain ⟨ι, gs, w, sl, q, a, X⟩ := h
  obtain ⟨r, e⟩ := marksH_rel hm X.rel
  exact ⟨ι, gs, w, sl, q, a, ⟨X.mach, X.at_, r, X.grel, by rw [e]; exact X.size, X.ext, X.leave, X.past⟩⟩
end
end Go.Ev
