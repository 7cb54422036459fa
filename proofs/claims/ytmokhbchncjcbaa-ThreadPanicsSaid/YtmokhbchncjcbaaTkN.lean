/-
  Hand-overs between two parties: a send that is met, a close, a go statement; who gives sits behind it, or leaves. Conditions: EnvOk; no code stands for other code.
-/
import Derived.Test.YtmokhbchncjcbaaTkM
namespace Go.Ev
open Go.Conc
open Go.ConcN (upd upd_same upd_ne)
set_option linter.unusedSectionVars false
variable [Syms] {P : Program} [NoFloat P] {ft : Nat → Option Func}

/-- A channel's block is turned. -/
theorem Ext.chan {ι : Inj} {w : World} {n : Nat} {i : Info} (hi : ι n = some i) (hn : P.globals.size ≤ n) {cap0 s0 r0 : Nat} {b0 : Array Value} {cl0 tm0 : Bool} (ho : w.heap[i.blk]? = some (.chan cap0 b0 cl0 s0 r0 tm0)) (cap : Nat) (buf : Array Value) (cl : Bool) (s r : Nat) (tm : Bool) :
    Ext P ι w ι (w.setChan i.blk cap buf cl s r tm) := by
  have hne : ∀ b, b ≠ i.blk → (w.setChan i.blk cap buf cl s r tm).heap[b]? = w.heap[b]? := fun b hb => heap_setChan_ne w cap buf cl s r tm (fun e => hb e.symm)
  refine ⟨Sub.refl ι, by simp [World.setChan], fun n i h h' => .inl ⟨n, i, h, h', rfl⟩, fun b _ hb => hne b fun e => hb n i hi hn e.symm, fun a => ?_, rfl, rfl, rfl⟩
  by_cases e : a.block = i.blk
  · rw [frozen_warm (heap_setChan_self w ho cap buf cl s r tm) rfl a e, frozen_warm ho rfl a e]
  · unfold World.frozen?
    rw [hne _ e]
/-! ### A seat that is taken -/
def distinctN : List Nat → Bool
  | [] => true
  | n :: l => (l.all fun m => !Nat.beq n m) && distinctN l
theorem distinctN_ok : ∀ {l : List Nat}, distinctN l = true → l.Nodup
  | [], _ => List.nodup_nil
  | n :: l, h => by
    unfold distinctN at h
    rw [Bool.and_eq_true, List.all_eq_true] at h
    refine List.nodup_cons.2 ⟨fun hm => ?_, distinctN_ok h.2⟩
    have := h.1 n hm
    simp at this
/-- Open channels, no two the same, none of them the other one's. -/
noncomputable def seatOk (P : Program) (H : Heap) (Cs : List Nat) (l : List (Nat × Value)) (ol : List (Nat × Value)) : Bool :=
  distinctN (l.map (·.1)) && l.all fun p => (match H.get p.1 with
    | some (.chan _ _ false) => true
    | _ => false) && Cs.any (fun c => Nat.beq c p.1) && Nat.ble P.globals.size p.1 && ol.all fun q => !Nat.beq q.1 p.1
structure SeatOk (P : Program) (H : Heap) (Cs : List Nat) (l : List (Nat × Value)) (ol : List (Nat × Value)) : Prop where
  dist : (l.map (·.1)).Nodup
  chan : ∀ p ∈ l, ∃ room k, H.get p.1 = some (.chan room k false)
  mem : ∀ p ∈ l, p.1 ∈ Cs
  low : ∀ p ∈ l, P.globals.size ≤ p.1
  apart : ∀ p ∈ l, ∀ q ∈ ol, q.1 ≠ p.1
theorem seatOk_ok {H : Heap} {Cs : List Nat} {l ol : List (Nat × Value)} (h : seatOk P H Cs l ol = true) : SeatOk P H Cs l ol := by
  unfold seatOk at h
  rw [Bool.and_eq_true, List.all_eq_true] at h
  obtain ⟨h1, h2⟩ := h
  have h3 : ∀ p ∈ l, (∃ room k, H.get p.1 = some (.chan room k false)) ∧ p.1 ∈ Cs ∧ P.globals.size ≤ p.1 ∧ ∀ q ∈ ol, q.1 ≠ p.1 := fun p hp => by
    have := h2 p hp
    simp only [Bool.and_eq_true, List.any_eq_true, List.all_eq_true] at this
    obtain ⟨⟨⟨a1, c, a2, a3⟩, a4⟩, a5⟩ := this
    refine ⟨?_, by rw [← Nat.eq_of_beq_eq_true a3]; exact a2, Nat.le_of_ble_eq_true a4, fun q hq e => ?_⟩
    · split at a1
      · rename_i room k hc; exact ⟨room, k, hc⟩
      · simp at a1
    · have := a5 q hq
      rw [e] at this
      simp at this
  exact ⟨distinctN_ok h1, fun p hp => (h3 p hp).1, fun p hp => (h3 p hp).2.1, fun p hp => (h3 p hp).2.2.1, fun p hp => (h3 p hp).2.2.2⟩
section
variable {M δ : Nat} {Wi : World} {ιi ι ιo : Inj} {ns Cs : List Nat} {b : Bool} {g g1 g2 : AG} {H : Heap} {og : AG} {ol l2 : List (Nat × Value)} {osh sh2 : CommShape} {m : Machine} {T : Trace} {w : World}
theorem chan_at (hw : Rel P ι H w) {n room k : Nat} {cl : Bool} (hg : H.get n = some (.chan room k cl)) : ∃ i, ι n = some i ∧ chanAt ι n = i.blk ∧ w.heap[i.blk]? = some (.chan room #[] cl k k false) := by
  obtain ⟨i, o, hi, ho, _, rfl⟩ := hw.live n _ hg
  exact ⟨i, hi, by simp [chanAt, hi], ho⟩
theorem chanAt_sub (hs : Sub ιo ι) {n : Nat} (h : (ιo n).isSome = true) : chanAt ιo n = chanAt ι n := by
  cases e : ιo n with
  | none => rw [e] at h; simp at h
  | some i => simp [chanAt, e, hs _ _ e]
/-- The new seat: well made, its channels at rest, below the bound, nobody else's. -/
theorem SeatOk.seat (h : SeatOk P H Cs l2 ol) (hw : Rel P ι H w) (g2 : AG) (sh2 : CommShape) {B : Nat} (hB : w.heap.size ≤ B) :
    (seatAt P ι g2 l2 sh2).Wf ∧ (∀ c, (seatAt P ι g2 l2 sh2).has c → ∃ cap k, w.heap[c]? = some (.chan cap #[] false k k false)) ∧ (∀ c, (seatAt P ι g2 l2 sh2).has c → c < B) ∧
    ∀ c ιo g sh, Sub ιo ι → (∀ p ∈ ol, (ιo p.1).isSome = true) → (∀ p ∈ ol, ∃ room k cl, H.get p.1 = some (.chan room k cl)) → (seatAt P ιo g ol sh).has c → ¬ (seatAt P ι g2 l2 sh2).has c := by
  refine ⟨seatAt_wf ?_, fun c hc => ?_, fun c hc => ?_, fun c ιo g sh hs hsome hlive hc hc2 => ?_⟩
  · have key : ∀ l : List (Nat × Value), (∀ p ∈ l, p ∈ l2) → (l.map (·.1)).Nodup → (l.map fun p => chanAt ι p.1).Nodup := by
      intro l
      induction l with
      | nil => intro _ _; exact List.nodup_nil
      | cons p l ih =>
        intro hin hnd
        rw [List.map_cons, List.nodup_cons] at hnd ⊢
        refine ⟨fun hm => ?_, ih (fun q hq => hin q (List.mem_cons_of_mem _ hq)) hnd.2⟩
        obtain ⟨q, hq, e⟩ := List.mem_map.1 hm
        obtain ⟨r1, k1, e1⟩ := h.chan p (hin p List.mem_cons_self)
        obtain ⟨r2, k2, e2⟩ := h.chan q (hin q (List.mem_cons_of_mem _ hq))
        obtain ⟨i1, f1, f2, _⟩ := chan_at hw e1
        obtain ⟨i2, f3, f4, _⟩ := chan_at hw e2
        have := hw.inj _ _ _ _ _ _ e2 e1 f3 f1 (by rw [← f2, ← f4]; exact e)
        exact hnd.1 (List.mem_map.2 ⟨q, hq, this⟩)
    exact key l2 (fun _ h => h) h.dist
  · obtain ⟨p, hp, rfl⟩ := seatAt_has hc
    obtain ⟨r, k, e⟩ := h.chan p hp
    obtain ⟨i, f1, f2, f3⟩ := chan_at hw e
    exact ⟨r, k, by rw [f2]; exact f3⟩
  · obtain ⟨p, hp, rfl⟩ := seatAt_has hc
    obtain ⟨r, k, e⟩ := h.chan p hp
    obtain ⟨i, f1, f2, f3⟩ := chan_at hw e
    rw [f2]
    exact Nat.lt_of_lt_of_le (hw.below _ _ f1) hB
  · obtain ⟨p, hp, e1⟩ := seatAt_has hc
    obtain ⟨q, hq, e2⟩ := seatAt_has hc2
    obtain ⟨r, k, cl, e3⟩ := hlive p hp
    obtain ⟨r', k', e4⟩ := h.chan q hq
    obtain ⟨i, f1, f2, _⟩ := chan_at hw e3
    obtain ⟨i', f3, f4, _⟩ := chan_at hw e4
    rw [chanAt_sub hs (hsome p hp)] at e1
    have := hw.inj _ _ _ _ _ _ e3 e4 f1 f3 (by rw [← f2, ← f4, e1, e2])
    exact h.apart q hq p hp this
noncomputable def chansOk (P : Program) (H : Heap) (Cs : List Nat) : Bool := chansIn H Cs && Cs.all fun n => Nat.ble P.globals.size n
theorem chansOk_ok {Cs : List Nat} (h : chansOk P H Cs = true) : chansIn H Cs = true ∧ ∀ n ∈ Cs, P.globals.size ≤ n ∧ ∃ r k cl, H.get n = some (.chan r k cl) := by
  unfold chansOk at h
  rw [Bool.and_eq_true, List.all_eq_true] at h
  refine ⟨h.1, fun n hn => ⟨Nat.le_of_ble_eq_true (h.2 n hn), ?_⟩⟩
  have h1 := h.1
  unfold chansIn at h1
  rw [List.all_eq_true] at h1
  have := h1 n hn
  split at this
  · rename_i r k cl hc; exact ⟨r, k, cl, hc⟩
  · simp at this
/-- What others lean on is kept where a seat's channel is turned. -/
theorem lean_seat {Inb : Nat → Option Seat} (hch : Chairs P Cs ι Inb) (hw : Rel P ι H w) (hC : ∀ n ∈ Cs, P.globals.size ≤ n ∧ ∃ r k cl, H.get n = some (.chan r k cl)) : ∀ w i s c cap buf cl a b tm, Inb i = some s → s.has c → Rel P ι (leanHeap H ns) w → Rel P ι (leanHeap H ns) (w.setChan c cap buf cl a b tm) := by
  intro w' i s c cap buf cl a b tm hi hc hK
  obtain ⟨n, hn, j, hj, rfl⟩ := hch.chans i s c hi hc
  obtain ⟨hb, r, k, cl', hg⟩ := hC n hn
  obtain ⟨i', f1, _, _⟩ := chan_at hw hg
  rw [hj] at f1
  cases f1
  have ho := hw.over n j hj (by rw [hw.gsize]; exact hb)
  refine lean_chan (by have := ho.1; rw [hw.gsize] at this; exact this) ho.2 (fun m b' i2 hm hi2 e => ?_) cap buf cl a b tm hK
  obtain ⟨c', rfl, hm', _⟩ := leanHeap_get H ns m b' hm
  have := hw.inj _ _ _ _ _ _ hm' hg hi2 hj e
  subst this
  rw [hg] at hm'
  simp at hm'
theorem case_at {kk nm : Nat} {z : Value} (hk : ol[kk]? = some (nm, z)) : (seatAt P ιo og ol osh).cases[kk]? = some (rcase (chanAt ιo nm) z) := by
  simp only [seatAt, casesAt, List.getElem?_toArray, List.getElem?_map, hk, Option.map_some]
end

section
variable {M δ : Nat} {Wi : World} {ιi : Inj} {ns Cs : List Nat} {b : Bool} {g g1 g2 : AG} {H : Heap} {og : AG} {ol l2 : List (Nat × Value)} {osh sh2 : CommShape} {m : Machine} {T : Trace}
/-- The holder says its seat, ahead of giving. -/
theorem HeldAt.reseat {ι ιo : Inj} {h j : Nat} {Inb : Nat → Option Seat} {gs : Array Goroutine} {w : World} {sl : Option (Nat × Nat)} {q : Nat → Nat} {a : Goroutine} (X : HeldAt P M δ Wi ιi ns Cs b g H og ol osh m T ι ιo h j Inb gs w sl q a) (hM : H.next ≤ M) (hCs : chansOk P H Cs = true) (hso : seatOk P H Cs l2 ol = true) :
    Ring P (Rel P ι (leanHeap H ns)) (StillOf ι (leanHeap H ns)) (M + δ) (fun i => i = h ∨ i = j) (upd Inb h (some (seatAt P ι g2 l2 sh2))) h T gs w q ∧ Chairs P Cs ι (upd Inb h (some (seatAt P ι g2 l2 sh2))) := by
  obtain ⟨hCs1, hCs2⟩ := chansOk_ok hCs
  have hso := seatOk_ok hso
  have hB : w.heap.size ≤ M + δ := by have := X.size; omega
  obtain ⟨s1, s2, s3, s4⟩ := hso.seat X.rel g2 sh2 hB
  refine ⟨Ring.reseat X.ring (.inl rfl) _ s1 (fun i s' c hi e hc => ?_) s2 s3, fun i s e => ?_⟩
  · by_cases hij : i = j
    · subst hij
      rw [X.other] at e
      cases e
      exact s4 c ιo og osh X.osub (fun p hp => (X.onames p hp).2) (fun p hp => (hCs2 p.1 (X.onames p hp).1).2) hc
    · rw [X.rest i hi hij] at e; cases e
  · by_cases hi : i = h
    · subst hi
      rw [upd_same] at e
      cases e
      refine ⟨ι, g2, l2, sh2, rfl, Sub.refl ι, fun p hp => ⟨hso.mem p hp, ?_⟩⟩
      obtain ⟨r, k, e1⟩ := hso.chan p hp
      obtain ⟨i, f1, _, _⟩ := chan_at X.rel e1
      rw [f1]; rfl
    · rw [upd_ne _ _ hi] at e
      exact X.chairs i s e
theorem SeatOk.names {ι : Inj} {w : World} (h : SeatOk P H Cs l2 ol) (hw : Rel P ι H w) : ∀ p ∈ l2, p.1 ∈ Cs ∧ (ι p.1).isSome = true := fun p hp => by
  obtain ⟨r, k, e1⟩ := h.chan p hp
  obtain ⟨i, f1, _, _⟩ := chan_at hw e1
  exact ⟨h.mem p hp, by rw [f1]; rfl⟩
/-- A SEND; the giver sits behind it. -/
theorem Held.give (hE : @EnvOk noMarks P ft) (hM : H.next ≤ M) (hCs : chansOk P H Cs = true) {nm room kc kk k : Nat} {v z : Value} {f1 f3 : AFrame} (hs : sendsA g = some (nm, v)) (hf : finA g.1 undf = some f1) (hq : quietN P ft (leanHeap H ns) k (f1, g.2) = some g2)
    (ha : standsA P g2 = some (l2, sh2)) (hso : seatOk P H Cs l2 ol = true) (hk : ol[kk]? = some (nm, z)) (hgr : ol.all (fun p => ground p.2) = true) (hf3 : finA og.1 (commV osh ol kk v true) = some f3) (hc : H.get nm = some (.chan room kc false))
    (h : Held P M δ Wi ιi ns Cs b g H og ol osh m T) :
    ∃ N m' T', runNT P N m T = (.next m', T') ∧ Held P M δ Wi ιi ns Cs (!b) (f3, og.2) (H.put nm (.chan room (kc + 1) false)) g2 l2 sh2 m' T' := by
  obtain ⟨ι, ιo, h, j, Inb, gs, w, sl, q, a, X⟩ := h
  obtain ⟨hCs1, hCs2⟩ := chansOk_ok hCs
  have hgr : ∀ p ∈ ol, ground p.2 = true := by rw [List.all_eq_true] at hgr; exact hgr
  have hB : w.heap.size ≤ M + δ := by have := X.size; omega
  obtain ⟨v', hv, hsend⟩ := send_ok (main := h == 0) hs X.grel X.rel
  obtain ⟨R1, hch1⟩ := X.reseat (g2 := g2) (sh2 := sh2) hM hCs hso
  have hnm : (nm, z) ∈ ol := List.mem_of_getElem? hk
  have hcat : chanAt ιo nm = chanAt ι nm := chanAt_sub X.osub (X.onames _ hnm).2
  have hlow : P.globals.size ≤ nm := (hCs2 nm (X.onames _ hnm).1).1
  obtain ⟨i, fi, fc, fo⟩ := chan_at X.rel hc
  have hgs : h < gs.size := (Array.getElem?_eq_some_iff.1 X.at_).1
  have g1r : GRel P ι (f1, g.2) (Go.Conc.served (goG a.frame a.callers) undef) := served_ok (f := g.1) (cs := g.2) (a₂ := goG a.frame a.callers) ⟨rfl, rfl, X.grel.frame, X.grel.callers⟩ VRel.undf hf
  obtain ⟨N, m', T', hr, gs', g₂, d, k', cap, sl', q', rfl, hsz, hgj, hhome, hcell, C2⟩ := Go.Conc.give (sl := sl) (j := j) (s := seatAt P ιo og ol osh) (c := chanAt ι nm) (kk := kk) (z := z) (fun w d h => lean_draw d h) (lean_seat hch1 X.rel hCs2) (fun e => X.ne e.symm) X.lt
    (by rw [upd_ne _ _ fun e => X.ne e.symm]; exact X.other) (by rw [← hcat]; exact case_at hk) (.inl rfl) X.at_ X.grel.status hsend (fun e he => by simp at he) R1 (Inb' := upd Inb h (some (seatAt P ι g2 l2 sh2))) (fun _ _ => rfl) (.inl rfl) (nh := k + 1)
    (fun T' _ => by
      rw [upd_same]
      exact .inl ⟨k, w, rfl, goes_quiet hE (low_ok X.rel ns hB) k _ g2 hq _ w g1r fun a' w' _ hg' => ⟨_, atIn_ok ha hg'⟩⟩)
  rw [fc, fo] at hcell
  simp only [Option.some.injEq, Obj.chan.injEq] at hcell
  obtain ⟨rfl, _, _, rfl, _⟩ := hcell
  have hbase : H.base ≤ nm := by rw [X.rel.gsize]; exact hlow
  have rel' := Rel.chanPut (X.rel.draw d) hc hbase (kc + 1) false
  have hsub' : Sub ιo ι := X.osub
  refine ⟨N, _, T', X.mach ▸ hr, ι, ι, j, h, upd Inb h (some (seatAt P ι g2 l2 sh2)), gs', _, sl', q', _, ⟨rfl, fun e => X.ne e.symm, ⟨by rw [X.zero.2]; simp, X.zero.1⟩, by rw [hsz]; exact hgs, hgj, rel', ?_, ?_, ?_, hch1, upd_same _ _ _, Sub.refl ι, (seatOk_ok hso).names X.rel, fun i hi hij => ?_, ?_⟩⟩
  · have hg₂ : GRel P ι og g₂ := GRel.mono hsub' hhome
    exact served_ok (f := og.1) (cs := og.2) hg₂ (commV_ok hgr hv true) hf3
  · show ((w.at d).setChan (chanAt ι nm) room #[] false (kc + 1) (kc + 1) false).heap.size = _
    simp only [World.setChan, Array.size_setIfInBounds, World.at]
    exact X.size
  · refine X.ext.trans ((Ext.draw ι w d).trans ?_)
    rw [fc]
    exact Ext.chan (w := w.at d) fi hlow fo _ _ _ _ _ _
  · rw [upd_ne _ _ hij]; exact X.rest i hij hi
  · rw [leanHeap_put (fun c e => by rw [hc] at e; cases e) (fun c e => by cases e)]
    refine Ring.remember C2 (fun i hi => ?_) (fun i s e => ?_) fun i hi => ?_
    · rcases hi with rfl | rfl
      · exact ⟨.inr rfl, .inr rfl⟩
      · exact ⟨.inl rfl, .inl (by rw [upd_same]; simp)⟩
    · by_cases e1 : i = h
      · exact .inr e1
      · by_cases e2 : i = j
        · exact .inl e2
        · rw [upd_ne _ _ e1, X.rest i e1 e2] at e; cases e
    · rcases hi with rfl | rfl
      · exact .inr rfl
      · exact .inl (by rw [upd_same]; simp)
/-- A SEND; the giver leaves. -/
theorem Held.last (hE : @EnvOk noMarks P ft) (hM : H.next ≤ M) (hCs : chansOk P H Cs = true) {nm room kc kk k : Nat} {v z : Value} {f1 f3 : AFrame} (hs : sendsA g = some (nm, v)) (hf : finA g.1 undf = some f1) (hq : quitN P ft H k (f1, g.2) = true)
    (hk : ol[kk]? = some (nm, z)) (hgr : ol.all (fun p => ground p.2) = true) (hf3 : finA og.1 (commV osh ol kk v true) = some f3) (hc : H.get nm = some (.chan room kc false))
    (h : Held P M δ Wi ιi ns Cs true g H og ol osh m T) :
    ∃ N m' T', runNT P N m T = (.next m', T') ∧ Alone P M δ Wi ιi (f3, og.2) (H.put nm (.chan room (kc + 1) false)) m' T' := by
  obtain ⟨ι, ιo, h, j, Inb, gs, w, sl, q, a, X⟩ := h
  obtain ⟨hCs1, hCs2⟩ := chansOk_ok hCs
  have hgr : ∀ p ∈ ol, ground p.2 = true := by rw [List.all_eq_true] at hgr; exact hgr
  have hB : w.heap.size ≤ M + δ := by have := X.size; omega
  obtain ⟨v', hv, hsend⟩ := send_ok (main := h == 0) hs X.grel X.rel
  have hnm : (nm, z) ∈ ol := List.mem_of_getElem? hk
  have hcat : chanAt ιo nm = chanAt ι nm := chanAt_sub X.osub (X.onames _ hnm).2
  have hlow : P.globals.size ≤ nm := (hCs2 nm (X.onames _ hnm).1).1
  obtain ⟨i, fi, fc, fo⟩ := chan_at X.rel hc
  have hj0 : j = 0 := by have := X.zero.2; simpa using this
  have hh0 : h ≠ 0 := by have := X.zero.1; simpa using this
  subst hj0
  have g1r : GRel P ι (f1, g.2) (Go.Conc.served (goG a.frame a.callers) undef) := served_ok (f := g.1) (cs := g.2) (a₂ := goG a.frame a.callers) ⟨rfl, rfl, X.grel.frame, X.grel.callers⟩ VRel.undf hf
  obtain ⟨N, m', T', hr, gs', g₂, d, k', cap, sl', q', rfl, hsz, hgj, hhome, hcell, C2⟩ := Go.Conc.give (sl := sl) (j := 0) (s := seatAt P ιo og ol osh) (c := chanAt ι nm) (kk := kk) (z := z) (fun w d h => lean_draw d h) (lean_seat X.chairs X.rel hCs2) (fun e => X.ne e.symm) X.lt
    X.other (by rw [← hcat]; exact case_at hk) (.inl rfl) X.at_ X.grel.status hsend (fun e he => by simp at he) X.ring (Inb' := fun i => if i = h then none else Inb i) (fun x hx => by simp [hx]) (.inr (by simp)) (nh := k)
    (fun T' hd => by
      simp only [if_true]
      exact ⟨Nat.pos_of_ne_zero hh0, hd ▸ quits_ok hE X.rel k _ hq _ g1r⟩)
  rw [fc, fo] at hcell
  simp only [Option.some.injEq, Obj.chan.injEq] at hcell
  obtain ⟨rfl, _, _, rfl, _⟩ := hcell
  have hbase : H.base ≤ nm := by rw [X.rel.gsize]; exact hlow
  have rel' := Rel.chanPut (X.rel.draw d) hc hbase (kc + 1) false
  obtain ⟨L, Pp⟩ := ring_end C2 ⟨.inr rfl, .inr rfl⟩ fun i hi => by
    by_cases e : i = h
    · simp [e]
    · simp only [e, if_false]; exact X.rest i e hi
  refine ⟨N, _, T', X.mach ▸ hr, ι, gs', _, sl', q', _, ⟨rfl, hgj, rel', ?_, ?_, ?_, L, Pp⟩⟩
  · have hg₂ : GRel P ι og g₂ := GRel.mono X.osub hhome
    exact served_ok (f := og.1) (cs := og.2) hg₂ (commV_ok hgr hv true) hf3
  · show ((w.at d).setChan (chanAt ι nm) room #[] false (kc + 1) (kc + 1) false).heap.size = _
    simp only [World.setChan, Array.size_setIfInBounds, World.at]
    exact X.size
  · refine X.ext.trans ((Ext.draw ι w d).trans ?_)
    rw [fc]
    exact Ext.chan (w := w.at d) fi hlow fo _ _ _ _ _ _
/-- A CLOSE; who closes sits behind it. -/
theorem Held.shut (hE : @EnvOk noMarks P ft) (hM : H.next ≤ M) (hCs : chansOk P H Cs = true) {nm room kc kk k : Nat} {z : Value} {f3 : AFrame} (hs : closesA g = some (nm, g1)) (hq : quietN P ft (leanHeap H ns) k g1 = some g2)
    (ha : standsA P g2 = some (l2, sh2)) (hso : seatOk P H Cs l2 ol = true) (hk : ol[kk]? = some (nm, z)) (hgr : ol.all (fun p => ground p.2) = true) (hf3 : finA og.1 (commV osh ol kk z false) = some f3) (hc : H.get nm = some (.chan room kc false))
    (h : Held P M δ Wi ιi ns Cs b g H og ol osh m T) :
    ∃ N m' T', runNT P N m T = (.next m', T') ∧ Held P M δ Wi ιi ns Cs (!b) (f3, og.2) (H.put nm (.chan room kc true)) g2 l2 sh2 m' T' := by
  obtain ⟨ι, ιo, h, j, Inb, gs, w, sl, q, a, X⟩ := h
  obtain ⟨hCs1, hCs2⟩ := chansOk_ok hCs
  have hgr : ∀ p ∈ ol, ground p.2 = true := by rw [List.all_eq_true] at hgr; exact hgr
  have hB : w.heap.size ≤ M + δ := by have := X.size; omega
  obtain ⟨hwake, a', ga', hclose⟩ := close_ok (main := h == 0) hs X.grel X.rel
  obtain ⟨R1, hch1⟩ := X.reseat (g2 := g2) (sh2 := sh2) hM hCs hso
  have hnm : (nm, z) ∈ ol := List.mem_of_getElem? hk
  have hcat : chanAt ιo nm = chanAt ι nm := chanAt_sub X.osub (X.onames _ hnm).2
  have hlow : P.globals.size ≤ nm := (hCs2 nm (X.onames _ hnm).1).1
  obtain ⟨i, fi, fc, fo⟩ := chan_at X.rel hc
  have hgs : h < gs.size := (Array.getElem?_eq_some_iff.1 X.at_).1
  have fo' : w.heap[chanAt ι nm]? = some (.chan room #[] false kc kc false) := by rw [fc]; exact fo
  have hjh : j ≠ h := fun e => X.ne e.symm
  obtain ⟨N, gs', g₂, d, sl', T', q', hr, hsz, hgj, hhome, C2⟩ := Go.Conc.give_close (sl := sl) (j := j) (s := seatAt P ιo og ol osh) (c := chanAt ι nm) (kk := kk) (z := z) (fun w d h => lean_draw d h) (lean_seat hch1 X.rel hCs2) hjh X.lt
    (by rw [upd_ne _ _ hjh]; exact X.other) (by rw [← hcat]; exact case_at hk) (.inl rfl) X.at_ X.grel.status hwake ga'.status fo' (fun d => hclose d room kc fo') R1
    (Inb' := fun i => if i = j then none else upd Inb h (some (seatAt P ι g2 l2 sh2)) i) (fun x _ hx => by simp [hx]) (.inl (by simp [hjh.symm])) (by simp) (nh := k + 1)
    (fun T' _ => by
      simp only [hjh.symm, if_false]
      rw [upd_same]
      exact .inl ⟨k, w, rfl, goes_quiet hE (low_ok X.rel ns hB) k _ g2 hq _ w ga' fun a' w' _ hg' => ⟨_, atIn_ok ha hg'⟩⟩)
  have hbase : H.base ≤ nm := by rw [X.rel.gsize]; exact hlow
  have rel' := Rel.chanPut (X.rel.draw d) hc hbase kc true
  refine ⟨N, _, T', X.mach ▸ hr, ι, ι, j, h, fun i => if i = j then none else upd Inb h (some (seatAt P ι g2 l2 sh2)) i, gs', _, sl', q', _, ⟨rfl, hjh, ⟨by rw [X.zero.2]; simp, X.zero.1⟩, by rw [hsz]; exact hgs, hgj, rel', ?_, ?_, ?_, fun i s e => ?_, ?_, Sub.refl ι, (seatOk_ok hso).names X.rel, fun i hi hij => ?_, ?_⟩⟩
  · have hg₂ : GRel P ι og g₂ := GRel.mono X.osub hhome
    exact served_ok (f := og.1) (cs := og.2) hg₂ (commV_ok hgr (ground_rel (hgr _ hnm)) false) hf3
  · show ((w.at d).setChan (chanAt ι nm) room #[] true kc kc false).heap.size = _
    simp only [World.setChan, Array.size_setIfInBounds, World.at]
    exact X.size
  · refine X.ext.trans ((Ext.draw ι w d).trans ?_)
    rw [fc]
    exact Ext.chan (w := w.at d) fi hlow fo _ _ _ _ _ _
  · by_cases e1 : i = j
    · simp [e1] at e
    · simp only [e1, if_false] at e; exact hch1 i s e
  · simp only [hjh.symm, if_false]; exact upd_same _ _ _
  · simp only [hi, if_false]
    rw [upd_ne _ _ hij]; exact X.rest i hij hi
  · rw [leanHeap_put (fun c e => by rw [hc] at e; cases e) (fun c e => by cases e)]
    refine Ring.remember C2 (fun i hi => ?_) (fun i s e => ?_) fun i hi => ?_
    · rcases hi with rfl | rfl
      · exact ⟨.inr rfl, .inr rfl⟩
      · exact ⟨.inl rfl, .inl (by simp only [hjh.symm, if_false]; rw [upd_same]; simp)⟩
    · by_cases e1 : i = j
      · exact .inl e1
      · simp only [e1, if_false] at e
        by_cases e2 : i = h
        · exact .inr e2
        · rw [upd_ne _ _ e2, X.rest i e2 e1] at e; cases e
    · rcases hi with rfl | rfl
      · exact .inr rfl
      · exact .inl (by simp only [hjh.symm, if_false]; rw [upd_same]; simp)
/-- A GO STATEMENT; who hires sits behind it. -/
theorem Alone.hire (hE : @EnvOk noMarks P ft) (hM : H.next ≤ M) {gc : AG} {k : Nat} (hs : spawnsA P g = some (g1, gc)) (hq : quietN P ft (leanHeap H ns) k g1 = some g2) (ha : standsA P g2 = some (l2, sh2)) (hso : seatOk P H Cs l2 [] = true)
    (h : Alone P M δ Wi ιi g H m T) : ∃ N m' T', runNT P N m T = (.next m', T') ∧ Held P M δ Wi ιi ns Cs true gc H g2 l2 sh2 m' T' := by
  obtain ⟨ι, gs, w, sl, q, a, X⟩ := h
  have hB : w.heap.size ≤ M + δ := by have := X.size; omega
  have hso' := seatOk_ok hso
  obtain ⟨s1, s2, s3, _⟩ := hso'.seat X.rel g2 sh2 hB
  obtain ⟨a', ac, ga', gac, hgo⟩ := spawn_ok (main := true) hs X.grel X.rel
  have hgs : 0 < gs.size := (Array.getElem?_eq_some_iff.1 X.at_).1
  have R1 := Ring.reseat (X.ring ns) rfl (seatAt P ι g2 l2 sh2) s1 (fun _ _ _ _ e => by cases e) s2 s3
  obtain ⟨N, gs', d, sl', T', q', hr, hsz, hgc, C2⟩ := hire_give (sl := sl) (Mem := fun g => g = 0) (fun w d h => lean_draw d h) rfl X.at_ X.grel.status (hgo) (fun e he => by simp at he) R1 (by rw [upd_ne _ _ (by omega)]) (Inb' := upd (fun _ => none) 0 (some (seatAt P ι g2 l2 sh2))) (fun _ _ => rfl) (.inl rfl) (nh := k + 1)
    (fun T' _ => by
      rw [upd_same]
      exact .inl ⟨k, w, rfl, goes_quiet hE (low_ok X.rel ns hB) k _ g2 hq _ w ga' fun a' w' _ hg' => ⟨_, atIn_ok ha hg'⟩⟩)
  refine ⟨N, _, T', X.mach ▸ hr, ι, ι, gs.size, 0, upd (fun _ => none) 0 (some (seatAt P ι g2 l2 sh2)), gs', _, sl', q', ac, ⟨rfl, by omega, ⟨by simp only [Bool.not_true, beq_eq_false_iff_ne]; omega, rfl⟩, by omega, hgc, X.rel.draw d, gac, ?_, X.ext.trans (Ext.draw ι w d), fun i s e => ?_, upd_same _ _ _, Sub.refl ι, hso'.names X.rel, fun i _ hi => upd_ne _ _ hi, ?_⟩⟩
  · exact X.size
  · by_cases e1 : i = 0
    · subst e1
      rw [upd_same] at e
      cases e
      exact ⟨ι, g2, l2, sh2, rfl, Sub.refl ι, hso'.names X.rel⟩
    · rw [upd_ne _ _ e1] at e; cases e
  · refine Ring.remember C2 (fun i hi => ?_) (fun i s e => ?_) fun i hi => ?_
    · rcases hi with rfl | rfl
      · exact .inr rfl
      · exact .inl ⟨rfl, by rw [upd_same]; simp⟩
    · by_cases e1 : i = 0
      · exact .inr e1
      · rw [upd_ne _ _ e1] at e; cases e
    · rcases hi with rfl | rfl
      · exact .inr rfl
      · exact .inl (by rw [upd_same]; simp)
end
end Go.Ev
