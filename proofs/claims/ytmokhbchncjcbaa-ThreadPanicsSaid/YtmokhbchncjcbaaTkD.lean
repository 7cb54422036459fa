/-
  What the holder's steps keep: what others lean on of the world (cells that nobody writes), the seats' channels; what they list. Conditions: those cells hold pointers, channels, numbers, truths or nothing; they, and the channels, are known in small.
-/
import Derived.Test.YtmokhbchncjcbaaTkC
namespace Go.Ev
open Go.Conc
set_option linter.unusedSectionVars false
variable [Syms] {P : Program} [NoFloat P]

/-- A value whose image is fixed by its names. -/
def fixedV : Value → Bool
  | .int .. | .bool _ | .pointer _ | .nilFunc | .nilIface => true
  | .complex .f32 _ 0 => true
  | _ => false
theorem VRel.fixed {ι ι' : Inj} (hs : Sub ι ι') {v x y : Value} (hf : fixedV v = true) (h : VRel ι v x) (h' : VRel ι' v y) : y = x := by
  cases h with
  | int => cases h'; rfl
  | bool => cases h'; rfl
  | nilPtr => cases h'; rfl
  | nilFunc => cases h'; rfl
  | nilIface => cases h'; rfl
  | ptr h1 =>
    cases h' with
    | ptr h2 => rw [hs _ _ h1] at h2; cases h2; rfl
  | chn h1 _ =>
    cases h' with
    | chn h2 _ => rw [hs _ _ h1] at h2; cases h2; rfl
  | _ => simp [fixedV] at hf

/-- What others lean on: the small heap Hs, of which blocks are known in part alone. -/
structure Lean (P : Program) (ι0 : Inj) (Hs : Heap) : Prop where
  parts : ∀ n b, Hs.get n = some b → ∃ c, b = .part c
  fixed : ∀ n c k, Hs.get n = some (.part c) → k < c.size → c.ro.testBit k = true → fixedV (c.get k) = true
/-- What is held of the holder's small heap: it knows all that, and the channels of the seats (by their names). -/
structure Holds (P : Program) (ι0 : Inj) (Hs : Heap) (Cs : List Nat) (ι : Inj) (H : Heap) : Prop where
  sub : Sub ι0 ι
  base : Hs.base = H.base
  parts : ∀ n c, Hs.get n = some (.part c) → n < H.next ∧ ∃ c2, H.get n = some (.cells c2) ∧ c2.ro = c.ro ∧ c2.size = c.size ∧ c2.elem = c.elem ∧ ∀ off, off < c.size → c.ro.testBit off = true → c2.get off = c.get off
  chans : ∀ n ∈ Cs, n < H.next ∧ ∃ r k cl, H.get n = some (.chan r k cl)
theorem Holds.step {ι0 ι ι' : Inj} {Hs H H' : Heap} {Cs : List Nat} (h : Holds P ι0 Hs Cs ι H) (hs : Sub ι ι') (hb : H'.base = H.base) (ro : Ro H H') : Holds P ι0 Hs Cs ι' H' := by
  refine ⟨h.sub.trans hs, h.base.trans hb.symm, fun n c hn => ?_, fun n hn => ?_⟩
  · obtain ⟨h1, c2, h2, h3, h4, h5, h6⟩ := h.parts n c hn
    obtain ⟨c3, a1, a2, a3, a4, a5⟩ := ro.cells n c2 h1 h2
    exact ⟨Nat.lt_of_lt_of_le h1 ro.next, c3, a1, a2.trans h3, a3.trans h4, a5.trans h5, fun off ho hr => (a4 off (by rw [h3]; exact hr)).trans (h6 off ho hr)⟩
  · obtain ⟨h1, r, k, cl, h2⟩ := h.chans n hn
    exact ⟨Nat.lt_of_lt_of_le h1 ro.next, r, k, cl, ro.chan n r k cl h1 h2⟩

/-- What others lean on is kept. -/
theorem keep_lean {ι0 ι ι' : Inj} {Hs H' : Heap} {Cs : List Nat} {w w' : World} (hl : Lean P ι0 Hs) (h : Holds P ι0 Hs Cs ι' H') (hw' : Rel P ι' H' w') (hx : Ext P ι w ι' w') (hK : Rel P ι0 Hs w) : Rel P ι0 Hs w' := by
  refine ⟨hw'.glb, hK.gsize, hK.glob, hK.over, hK.next, Nat.le_trans hK.room hx.size, hK.fresh, hK.hole, fun n i hi => Nat.lt_of_lt_of_le (hK.below n i hi) hx.size, fun n b hn => ?_, hK.inj⟩
  obtain ⟨c, rfl⟩ := hl.parts n b hn
  obtain ⟨i, o, hi, ho, hr⟩ := hK.live n _ hn
  obtain ⟨_, c2, h2, h3, h4, h5, h6⟩ := h.parts n c hn
  obtain ⟨j, o', hj, ho', hr'⟩ := hw'.live n _ h2
  have : i = j := by
    have := h.sub _ _ hi
    rw [hj] at this
    exact (Option.some.inj this).symm
  subst this
  obtain ⟨cs, rfl, hsz, hcell⟩ := hr
  obtain ⟨⟨q1, q2, q3⟩, cs', rfl, q5, q6, q7⟩ := hr'
  refine ⟨i, _, hi, ho', cs', by rw [h5], by omega, fun k hk hbit => ?_⟩
  have a1 := hcell k hk hbit
  have a2 := q7 k (by omega)
  rw [h6 k hk hbit] at a2
  rw [VRel.fixed h.sub (hl.fixed n c k hn hk hbit) a1 a2]
  exact a1

/-- Places that nobody writes: images of such cells. -/
def StillOf (ι0 : Inj) (Hs : Heap) (l : Loc) : Prop := ∃ n c i k, Hs.get n = some (.part c) ∧ ι0 n = some i ∧ k < c.size ∧ c.ro.testBit k = true ∧ l = .cell ⟨i.blk, i.off + k, none⟩
theorem EvOk.hd {ι0 ι : Inj} {Hs H : Heap} {Cs : List Nat} {w' : World} {e : Event} (h : Holds P ι0 Hs Cs ι H) (he : EvOk ι H w' e) {B : Nat} (hB : w'.heap.size ≤ B) : EvHd (StillOf ι0 Hs) B e := by
  obtain ⟨loc, wr, sy⟩ := e
  cases loc with
  | cell a =>
    obtain ⟨h1, h2⟩ := he
    refine ⟨fun x hx hS => ?_, by simp, by simp, ?_⟩
    · have hx' : x.loc = .cell a ∧ x.write = wr := by
        revert hx
        cases sy <;> cases wr <;> simp [MemAct.ofEvent, MemAct.touch?] <;> (rintro rfl; exact ⟨rfl, rfl⟩)
      cases wr with
      | false => exact hx'.2
      | true =>
        obtain ⟨n, c, i, k, g1, g2, g3, g4, g5⟩ := hS
        obtain ⟨_, c2, b1, b2, b3, _, _⟩ := h.parts n c g1
        rw [hx'.1] at g5
        simp only [Loc.cell.injEq] at g5
        subst g5
        have := h2 rfl n c2 i k b1 (h.sub _ _ g2) rfl rfl (by omega)
        rw [b2, g4] at this
        simp at this
    · cases sy <;> cases wr <;> exact Nat.lt_of_lt_of_le h1 hB
  | obj r =>
    have h1 : r < w'.heap.size := he
    refine ⟨fun x hx hS => ?_, by simp, by simp, ?_⟩
    · obtain ⟨n, c, i, k, g1, g2, g3, g4, g5⟩ := hS
      revert hx
      cases sy <;> cases wr <;> simp [MemAct.ofEvent, MemAct.touch?] <;> intro hx <;> (subst hx; simp at g5)
    · cases sy <;> cases wr <;> first | exact Nat.lt_of_lt_of_le h1 hB | trivial
  | _ => exact he.elim

/-- What is held, with the world: as many blocks as names, from some beginning on. -/
structure Hld (P : Program) (ι0 : Inj) (Hs : Heap) (Cs : List Nat) (δ : Nat) (ι : Inj) (H : Heap) (w : World) : Prop where
  holds : Holds P ι0 Hs Cs ι H
  size : w.heap.size = H.next + δ
/-- The seats' channels are images of these names. -/
def ChansOf (ι0 : Inj) (Cs : List Nat) (Inb : Nat → Option Seat) : Prop := ∀ i s c, Inb i = some s → s.has c → ∃ n ∈ Cs, ∃ j, ι0 n = some j ∧ j.blk = c

theorem lets_holder {ι0 : Inj} {Hs : Heap} {Cs : List Nat} {δ M : Nat} {Inb : Nat → Option Seat} (hl : Lean P ι0 Hs) (hC : ChansOf ι0 Cs Inb) : Lets P M (Hld P ι0 Hs Cs δ) (DH (Rel P ι0 Hs) (StillOf ι0 Hs) (M + δ) Inb) := by
  refine ⟨fun ι H w ι' H' w' es hw hx hw' ev ro z1 hM hi => ?_, fun ι H w d hi => ⟨hi.holds, hi.size⟩⟩
  have hsz : w'.heap.size = H'.next + δ := by have := hi.size; omega
  have hh' : Holds P ι0 Hs Cs ι' H' := hi.holds.step hx.sub (by rw [hw'.gsize, hw.gsize]) ro
  refine ⟨⟨fun hK => keep_lean hl hh' hw' hx hK, fun i s c hs hc => ?_, fun e he => (ev e he).hd hi.holds (by omega)⟩, hh', hsz⟩
  obtain ⟨n, hn, j, hj, rfl⟩ := hC i s c hs hc
  obtain ⟨hlt, r, k, cl, hg⟩ := hi.holds.chans n hn
  obtain ⟨j1, o1, h1, h2, h3⟩ := hw.live n _ hg
  obtain ⟨j2, o2, h4, h5, h6⟩ := hw'.live n _ (ro.chan n r k cl hlt hg)
  have e1 : j1 = j := by have := hi.holds.sub _ _ hj; rw [h1] at this; exact Option.some.inj this
  have e2 : j2 = j := by have := hx.sub _ _ (hi.holds.sub _ _ hj); rw [h4] at this; exact Option.some.inj this
  subst e1
  subst e2
  obtain ⟨_, rfl⟩ := h3
  obtain ⟨_, rfl⟩ := h6
  rw [h2, h5]

/-- A draw keeps what others lean on; so does a turning of another block than those. -/
theorem lean_draw {ι0 : Inj} {Hs : Heap} {w : World} (d : Nat) (h : Rel P ι0 Hs w) : Rel P ι0 Hs (w.at d) := h.draw d
theorem lean_chan {ι0 : Inj} {Hs : Heap} {w : World} {c : Nat} (hg : P.globals.size ≤ c) (hin : Syms.inp c = none) (hc : ∀ n b i, Hs.get n = some b → ι0 n = some i → i.blk ≠ c) (cap : Nat) (buf : Array Value) (cl : Bool) (s r : Nat) (tm : Bool) (h : Rel P ι0 Hs w) : Rel P ι0 Hs (w.setChan c cap buf cl s r tm) := by
  have hne : ∀ b, b ≠ c → (w.setChan c cap buf cl s r tm).heap[b]? = w.heap[b]? := fun b hb => heap_setChan_ne w cap buf cl s r tm (fun e => hb e.symm)
  have hsize : (w.setChan c cap buf cl s r tm).heap.size = w.heap.size := by simp [World.setChan]
  refine ⟨⟨fun b hb => by rw [hne b (by omega)]; exact h.glb.1 b hb, fun b o ho => ?_⟩, h.gsize, h.glob, h.over, h.next, by rw [hsize]; exact h.room, h.fresh, h.hole, fun n i hi => by rw [hsize]; exact h.below n i hi, fun n b hn => ?_, h.inj⟩
  · have : b ≠ c := fun e => by subst e; rw [hin] at ho; simp at ho
    rw [hne b this]; exact h.glb.2 b o ho
  · obtain ⟨i, o, h1, h2, h3⟩ := h.live n b hn
    exact ⟨i, o, h1, by rw [hne _ (hc n b i hn h1)]; exact h2, h3⟩
end Go.Ev
