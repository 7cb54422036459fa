/-
  The evaluator: a long straight body in pieces: each piece a run of its own, between states that are written out. Conditions: EnvOk; the variables hold what is known of them.
-/
import Derived.Test.YtigbcepnbpibaaaGreatDoorEvKn
namespace Go.Ev
open Go.RowKit
set_option linter.unusedSectionVars false

def spine : Code → List Code
  | .seq a b => spine a ++ spine b
  | c => [c]
noncomputable def runL (r : Runner) : List Code → Fr → Heap → Option (AExit × Fr × Heap)
  | [], A, H => some (.normal, A, H)
  | c :: l, A, H => match r (.code c A) H with
    | some (.exit .normal A', H') => runL r l A' H'
    | some (.exit e A', H') => some (e, A', H')
    | _ => none
/-- Some of the blocks, and no others. -/
noncomputable def keepM (m : T Blk) : List Nat → T Blk → T Blk
  | [], t => t
  | n :: l, t => keepM m l (t.set n (m.get n))
noncomputable def Heap.keep (H : Heap) (live : List Nat) : Heap := { base := H.base, next := H.next, m := keepM H.m live .leaf, hole := H.hole }
theorem keepM_get (m : T Blk) : ∀ (l : List Nat) (t : T Blk) (n : Nat) (b : Blk), (keepM m l t).get n = some b → t.get n = some b ∨ m.get n = some b
  | [], t, n, b, h => .inl h
  | x :: l, t, n, b, h => by
    rcases keepM_get m l _ n b h with h | h
    · rw [T.get_set] at h
      split at h
      · rename_i e; subst e; exact .inr h
      · exact .inl h
    · exact .inr h
theorem Heap.keep_get {H : Heap} {live : List Nat} {n : Nat} {b : Blk} (h : (H.keep live).get n = some b) : H.get n = some b := by
  rcases keepM_get H.m live .leaf n b h with h | h
  · rw [T.get_leaf] at h; simp at h
  · exact h
/-- In pieces; behind each, blocks that are not needed any more are dropped. -/
noncomputable def runP (r : Runner) : List (Nat × List Nat) → List Code → Fr → Heap → Option (AExit × Fr × Heap)
  | [], l, A, H => runL r l A H
  | p :: ps, l, A, H => match runL r (l.take p.1) A H with
    | some (.normal, A1, H1) => runP r ps (l.drop p.1) A1 (H1.keep p.2)
    | x => x
theorem runP_step {r : Runner} {p : Nat × List Nat} {ps : List (Nat × List Nat)} {l : List Code} {A A1 : Fr} {H H1 : Heap} (h : (match runL r (l.take p.1) A H with
    | some (.normal, A1, H1) => some (A1, H1.keep p.2)
    | _ => none) = some (A1, H1)) : runP r (p :: ps) l A H = runP r ps (l.drop p.1) A1 H1 := by
  rw [show runP r (p :: ps) l A H = (match runL r (l.take p.1) A H with
    | some (.normal, A1, H1) => runP r ps (l.drop p.1) A1 (H1.keep p.2)
    | x => x) from rfl]
  cases hr : runL r (l.take p.1) A H with
  | none => rw [hr] at h; simp at h
  | some q =>
    obtain ⟨e, A2, H2⟩ := q
    rw [hr] at h
    cases e <;> simp at h
    obtain ⟨rfl, rfl⟩ := h
    rfl
/-- The first piece, with what is dropped. -/
noncomputable def piece (r : Runner) (n : Nat) (live : List Nat) (l : List Code) (A : Fr) (H : Heap) : Option (Fr × Heap) := match runL r (l.take n) A H with
    | some (.normal, A1, H1) => some (A1, H1.keep live)
    | _ => none

theorem runP_nil {r : Runner} {l : List Code} {A : Fr} {H : Heap} : runP r [] l A H = runL r l A H := rfl
theorem runP_cons {r : Runner} {p : Nat × List Nat} {ps : List (Nat × List Nat)} {l l' : List Code} {A A1 : Fr} {H H1 : Heap} (hl : l' = l.drop p.1) (h : piece r p.1 p.2 l A H = some (A1, H1)) : runP r (p :: ps) l A H = runP r ps l' A1 H1 := by
  rw [hl]
  exact runP_step h

/-- Codes in a row. -/
def LOk (P : Program) : List Code → (Exit → Act → World → Prop) → Act → World → Prop
  | [], Q, a, w => Q .normal a w
  | c :: l, Q, a, w => c.wp P (Exit.then (LOk P l Q) Q) a w
theorem then_mono {K K' : Act → World → Prop} {Q Q' : Exit → Act → World → Prop} (hk : ∀ a w, K a w → K' a w) (hq : ∀ e a w, e ≠ .normal → Q e a w → Q' e a w) : ∀ e a w, Exit.then K Q e a w → Exit.then K' Q' e a w := by
  intro e a w h
  cases e with
  | normal => exact hk a w h
  | _ => exact hq _ a w (by simp) h
theorem LOk.mono {P : Program} {Q Q' : Exit → Act → World → Prop} (hq : ∀ e a w, Q e a w → Q' e a w) : ∀ (l : List Code) (a : Act) (w : World), LOk P l Q a w → LOk P l Q' a w
  | [], _, _, h => hq _ _ _ h
  | _ :: l, _, _, h => wp_mono h (then_mono (LOk.mono hq l) fun _ _ _ _ h => hq _ _ _ h)
theorem LOk.append {P : Program} {Q : Exit → Act → World → Prop} {m : List Code} : ∀ (l : List Code) (a : Act) (w : World), LOk P (l ++ m) Q a w → LOk P l (Exit.then (LOk P m Q) Q) a w
  | [], _, _, h => h
  | _ :: l, _, _, h => wp_mono h (then_mono (LOk.append l) fun e a w he h => by cases e <;> first | exact absurd rfl he | exact h)
theorem LOk.join {P : Program} {Q : Exit → Act → World → Prop} {m : List Code} : ∀ (l : List Code) (a : Act) (w : World), LOk P l (Exit.then (LOk P m Q) Q) a w → LOk P (l ++ m) Q a w
  | [], _, _, h => h
  | _ :: l, _, _, h => wp_mono h (then_mono (LOk.join l) fun e a w he h => by cases e <;> first | exact absurd rfl he | exact h)
theorem LOk.code {P : Program} : ∀ (c : Code) (Q : Exit → Act → World → Prop) (a : Act) (w : World), LOk P (spine c) Q a w → c.wp P Q a w := by
  intro c
  have one : ∀ (c : Code) (Q : Exit → Act → World → Prop) (a : Act) (w : World), LOk P [c] Q a w → c.wp P Q a w := fun c Q a w h => wp_mono h fun e a w h => by cases e <;> exact h
  induction c with
  | seq x y ihx ihy =>
    intro Q a w h
    exact wp_seq (ihx _ a w (wp_mono_l (LOk.append (spine x) a w h) ihy))
  | _ => exact one _
where
  wp_mono_l {P : Program} {y : Code} {l : List Code} {Q : Exit → Act → World → Prop} {a : Act} {w : World} (h : LOk P l (Exit.then (LOk P (spine y) Q) Q) a w) (ihy : ∀ Q a w, LOk P (spine y) Q a w → y.wp P Q a w) : LOk P l (Exit.then (fun a w => y.wp P Q a w) Q) a w :=
    LOk.mono (then_mono (fun a w h => ihy Q a w h) fun _ _ _ _ h => h) l a w h
theorem fine_spine {n : Nat} : ∀ (c : Code), fineC n c = true → ∀ x ∈ spine c, fineC n x = true := by
  intro c
  induction c with
  | seq x y ihx ihy =>
    intro h z hz
    simp only [fineC, Bool.and_eq_true] at h
    rcases List.mem_append.1 hz with hz | hz
    · exact ihx h.1 z hz
    · exact ihy h.2 z hz
  | _ => intro h z hz; obtain rfl := List.mem_singleton.1 hz; exact h

section
variable {P : Program} [NoFloat P] {G : Nat → Option Obj} {ι : Inj}
/-- Fewer blocks are known: the relation stands. -/
theorem Rel.keep [Syms] {H : Heap} {w : World} (h : Rel P ι H w) (live : List Nat) : Rel P ι (H.keep live) w :=
  ⟨h.glb, h.gsize, h.glob, h.over, h.next, h.room, h.fresh, h.hole, h.below, fun n b hn => h.live n b (Heap.keep_get hn), fun n m b c i j hn hm => h.inj n m b c i j (Heap.keep_get hn) (Heap.keep_get hm)⟩
theorem PostC.keep [Syms] {w : World} {a : Act} {e : AExit} {A' : Fr} {H' : Heap} (live : List Nat) {e' : Exit} {a' : Act} {w' : World} (h : PostC P ι w a e A' H' e' a' w') : PostC P ι w a e A' (H'.keep live) e' a' w' := by
  obtain ⟨ι1, h1, x1, r1, f1, d1⟩ := h
  exact ⟨ι1, h1, x1, r1.keep live, f1, d1⟩
theorem runL_ok {r : Runner} (hg : @Good (noSyms G) noMarks P r) : ∀ (l : List Code) (A : Fr) (H : Heap) (e : AExit) (A' : Fr) (H' : Heap), (∀ c ∈ l, fineC P.globals.size c = true) → runL r l A H = some (e, A', H') →
    ∀ ι a w, @Rel (noSyms G) P ι H w → @FRel (noSyms G) ι A a.tmps → LOk P l (@PostC (noSyms G) P ι w a e A' H') a w
  | [], A, H, e, A', H', _, h, ι, a, w, hw, hA => by
    letI := noSyms G
    have h' : some (AExit.normal, A, H) = some (e, A', H') := h
    simp only [Option.some.injEq, Prod.mk.injEq] at h'
    obtain ⟨rfl, rfl, rfl⟩ := h'
    exact ⟨ι, rfl, Ext.refl _ _, hw, hA, rfl⟩
  | c :: l, A, H, e, A', H', hf, h, ι, a, w, hw, hA => by
    letI := noSyms G
    letI : Marks := noMarks
    have h' : (match r (.code c A) H with
      | some (.exit .normal A', H') => runL r l A' H'
      | some (.exit e A', H') => some (e, A', H')
      | _ => none) = some (e, A', H') := h
    cases hr : r (.code c A) H with
    | none => rw [hr] at h'; simp at h'
    | some x =>
      obtain ⟨o, H1⟩ := x
      rw [hr] at h'
      cases o with
      | val v => simp at h'
      | exit e1 A1 =>
        have hc := hg.code _ _ _ _ _ _ hr c (.same c) (hf c List.mem_cons_self) ι a w hw hA
        refine wp_mono hc fun e' a' w' hpost => ?_
        obtain ⟨ι1, rfl, x1, r1, f1, d1⟩ := hpost
        cases e1 with
        | normal =>
          exact LOk.mono (fun _ _ _ hp => hp.trans x1 d1) l a' w' (runL_ok hg l A1 H1 e A' H' (fun c hc => hf c (List.mem_cons_of_mem _ hc)) h' ι1 a' w' r1 f1)
        | exit id =>
          simp only [Option.some.injEq, Prod.mk.injEq] at h'
          obtain ⟨rfl, rfl, rfl⟩ := h'
          exact ⟨ι1, rfl, x1, r1, f1, d1⟩
        | ret =>
          simp only [Option.some.injEq, Prod.mk.injEq] at h'
          obtain ⟨rfl, rfl, rfl⟩ := h'
          exact ⟨ι1, rfl, x1, r1, f1, d1⟩
theorem runP_ok {r : Runner} (hg : @Good (noSyms G) noMarks P r) : ∀ (ps : List (Nat × List Nat)) (l : List Code) (A : Fr) (H : Heap) (e : AExit) (A' : Fr) (H' : Heap), (∀ c ∈ l, fineC P.globals.size c = true) → runP r ps l A H = some (e, A', H') →
    ∀ ι a w, @Rel (noSyms G) P ι H w → @FRel (noSyms G) ι A a.tmps → LOk P l (@PostC (noSyms G) P ι w a e A' H') a w
  | [], l, A, H, e, A', H', hf, h, ι, a, w, hw, hA => runL_ok hg l A H e A' H' hf h ι a w hw hA
  | p :: ps, l, A, H, e, A', H', hf, h, ι, a, w, hw, hA => by
    letI := noSyms G
    letI : Marks := noMarks
    have h' : (match runL r (l.take p.1) A H with
      | some (.normal, A1, H1) => runP r ps (l.drop p.1) A1 (H1.keep p.2)
      | x => x) = some (e, A', H') := h
    rw [← List.take_append_drop p.1 l]
    refine LOk.join _ _ _ ?_
    cases hr : runL r (l.take p.1) A H with
    | none => rw [hr] at h'; simp at h'
    | some q =>
      obtain ⟨e1, A1, H1⟩ := q
      rw [hr] at h'
      have h1 := runL_ok hg (l.take p.1) A H e1 A1 H1 (fun c hc => hf c (List.mem_of_mem_take hc)) hr ι a w hw hA
      refine LOk.mono (fun e' a' w' hpost => ?_) _ _ _ h1
      obtain ⟨ι1, rfl, x1, r1, f1, d1⟩ := hpost
      cases e1 with
      | normal =>
        exact LOk.mono (fun _ _ _ hp => hp.trans x1 d1) _ a' w' (runP_ok hg ps (l.drop p.1) A1 (H1.keep p.2) e A' H' (fun c hc => hf c (List.mem_of_mem_drop hc)) h' ι1 a' w' (r1.keep p.2) f1)
      | exit id =>
        simp only [Option.some.injEq, Prod.mk.injEq] at h'
        obtain ⟨rfl, rfl, rfl⟩ := h'
        exact ⟨ι1, rfl, x1, r1, f1, d1⟩
      | ret =>
        simp only [Option.some.injEq, Prod.mk.injEq] at h'
        obtain ⟨rfl, rfl, rfl⟩ := h'
        exact ⟨ι1, rfl, x1, r1, f1, d1⟩

/-- A step that does a body in pieces. -/
noncomputable def spineR (ps : List (Nat × List Nat)) (r : Runner) : Runner
  | .code c A, H => match runP r ps (spine c) A H with
    | some (e, A', H') => some (.exit e A', H')
    | none => none
  | .fn f a, H => r (.fn f a) H
  | .loop c A, H => r (.loop c A) H
theorem ann_eq {c c0 : Code} (h : @Ann noMarks c c0) : c = c0 := by
  letI : Marks := noMarks
  induction h with
  | same => rfl
  | mark hn => simp [Marks.code] at hn
  | seq _ _ h1 h2 => rw [h1, h2]
  | cond _ _ h1 h2 => rw [h1, h2]
  | block _ h1 => rw [h1]
  | loop _ h1 => rw [h1]
  | scope _ h1 => rw [h1]
theorem spineR_good {r : Runner} (hg : @Good (noSyms G) noMarks P r) (ps : List (Nat × List Nat)) : @Good (noSyms G) noMarks P (spineR ps r) := by
  letI := noSyms G
  letI : Marks := noMarks
  refine ⟨hg.fn, fun c A H e A' H' h => ?_, hg.loop, fun c A H v H' h => ?_, hg.noValL⟩
  · have h' : (match runP r ps (spine c) A H with
      | some (e, A', H') => some (Out.exit e A', H')
      | none => none) = some (.exit e A', H') := h
    cases hr : runP r ps (spine c) A H with
    | none => rw [hr] at h'; simp at h'
    | some q =>
      obtain ⟨e1, A1, H1⟩ := q
      rw [hr] at h'
      simp only [Option.some.injEq, Prod.mk.injEq, Out.exit.injEq] at h'
      obtain ⟨⟨rfl, rfl⟩, rfl⟩ := h'
      intro c0 hann hf ι a w hw hA
      obtain rfl := ann_eq hann
      exact LOk.code _ _ _ _ (runP_ok hg ps (spine c) A H _ _ _ (fine_spine c hf) hr ι a w hw hA)
  · have h' : (match runP r ps (spine c) A H with
      | some (e, A', H') => some (Out.exit e A', H')
      | none => none) = some (.val v, H') := h
    cases hr : runP r ps (spine c) A H with
    | none => rw [hr] at h'; simp at h'
    | some q =>
      obtain ⟨e1, A1, H1⟩ := q
      rw [hr] at h'
      simp at h'
end

/-- What a function hands back behind its body. -/
noncomputable def finL (P : Program) (fn : Func) : Option (AExit × Fr × Heap) → Option (Out × Heap)
  | some (.normal, A, H') | some (.ret, A, H') => cond (resOk fn A) (match arun P (resA fn A.get) H' with
    | some (vs, H'') => some (.val (if h : vs.size = 1 then vs[0] else .tuple vs), H'')
    | none => none) none
  | _ => none
noncomputable def bodyS (ft : Nat → Option Func) (f : FuncId) : List Code := match ft f with
  | some fn => match fn.body with
    | some c => spine c
    | none => []
  | none => []
noncomputable def enterL (ft : Nat → Option Func) (f : FuncId) (args : Array Value) : Fr := match ft f with
  | some fn => Fr.enter fn args
  | none => { size := 0, m := .leaf }
noncomputable def endL (P : Program) (ft : Nat → Option Func) (f : FuncId) (x : Option (AExit × Fr × Heap)) : Option (Out × Heap) := match ft f with
  | some fn => finL P fn x
  | none => none
theorem step_body [Syms] {P : Program} [NoFloat P] [Marks] [Orc P] [Lps P] {ft : Nat → Option Func} {ps : List (Nat × List Nat)} {r : Runner} {draw : Array Oper → Fr → Heap → Option (Fr × Heap)} {f : FuncId} {args : Array Value} {H : Heap} {x : Out × Heap} (h : endL P ft f (runP r ps (bodyS ft f) (enterL ft f args) H) = some x) (hb : ((ft f).bind (·.body)).isSome = true) :
    stepRun P ft (spineR ps r) draw (.fn f args) H = some x := by
  unfold endL bodyS enterL at h
  simp only [stepRun]
  cases hf : ft f with
  | none => rw [hf] at h; simp at h
  | some fn =>
    rw [hf] at h hb
    cases hc : fn.body with
    | none => simp [hc] at hb
    | some c =>
      simp only [hc] at h ⊢
      rw [show spineR ps r (.code c (Fr.enter fn args)) H = (match runP r ps (spine c) (Fr.enter fn args) H with
        | some (e, A', H') => some (Out.exit e A', H')
        | none => none) from rfl]
      cases hr : runP r ps (spine c) (Fr.enter fn args) H with
      | none => rw [hr] at h; simp [finL] at h
      | some q =>
        obtain ⟨e1, A1, H1⟩ := q
        rw [hr] at h
        cases e1 <;> exact h
theorem callR [Syms] {P : Program} [NoFloat P] [Marks] [Orc P] [Lps P] {r : Runner} (hg : Good P r) {gs : Gs} {f : FuncId} {args args' : Array Value} {v : Value} {H' : Heap} (hargs : ∀ ι, ARel ι args args')
    (hrun : r (.fn f args) (H0g P gs) = some (.val v, H')) (w : World) (hw : GOk P gs w) (hgl : (∀ b, b < P.globals.size → w.heap[b]? = Syms.glob b) ∧ ∀ b o, Syms.inp b = some o → w.heap[b]? = some o) : Calls P f args' w fun e w' => ∃ ι' v', e = .returned v' ∧ VRel ι' v v' ∧ Quiet w w' := by
  refine Calls.mono (hg.fn f args (H0g P gs) _ H' hrun (ι0g P gs) args' w (rel0g hw hgl) (hargs _)) fun e w' he => ?_
  obtain ⟨ι', v', rfl, x1, r1, q1⟩ := he
  exact ⟨ι', v', rfl, q1, x1.quiet⟩
end Go.Ev
namespace Go.Ev
variable {P : Program} {ft : Nat → Option Func}
/-- A closed call, its body in pieces. -/
theorem KnOk.pieces [NoFloat P] (hE : EnvOk P ft) {gs : Gs} {n : Nat} {f : FuncId} {args : Array Value} {v : Value} (hx : Kn.ok ⟨f, args, v⟩ = true) (tb : List Kn) (htb : tb.all Kn.ok = true) {L : List Code} {A0 : Fr} (hL0 : L = bodyS ft f) (hA0 : A0 = enterL ft f args)
    (ps : List (Nat × List Nat)) (hrun : ∀ G, outEq v (endL P ft f (runP (run0 P ft (knT tb fun _ _ => none) G n) ps L A0 (H0g P gs))) = true) (hb : ((ft f).bind (·.body)).isSome = true) {w : World} (hw : GOk P gs w)
    (hT : ∀ y ∈ tb, KnOk P w y) : KnOk P w ⟨f, args, v⟩ := by
  subst hL0 hA0
  intro w₁ hs hgl
  unfold Kn.ok at hx
  rw [Bool.and_eq_true] at hx
  have hw1 : GOk P gs w₁ := @GOk.of (noSyms fun _ => none) _ _ _ _ hw hs hgl
  have hr := hrun fun b => w₁.heap[b]?
  letI i1 := noSyms fun b => w₁.heap[b]?
  letI i2 : Marks := noMarks
  letI i3 : Orc P := noOrc P _
  letI i4 : Lps P := noLps P
  have hK : KOk P (knT tb fun _ _ => none) := @knT_ok P (fun b => w₁.heap[b]?) w (fun b hb => hgl b hb) _ (@noK (noSyms fun b => w₁.heap[b]?) P) tb htb hT
  have hL : LpsOk P := fun _ _ _ _ _ _ _ _ h => by simp at h
  have hg : Good P (runK P ft (knT tb fun _ _ => none) n) := runK_good hE hL hK n
  have hg2 : Good P (stepRun P ft (spineR ps (runK P ft (knT tb fun _ _ => none) n)) (drawRun2 P ft (spineR ps (runK P ft (knT tb fun _ _ => none) n)))) := Good.step hE hL (spineR_good hg ps) (drawRun2_ok hE (spineR_good hg ps))
  cases he : endL P ft f (runP (run0 P ft (knT tb fun _ _ => none) (fun b => w₁.heap[b]?) n) ps (bodyS ft f) (enterL ft f args) (H0g P gs)) with
  | none => rw [he] at hr; simp [outEq] at hr
  | some q =>
    obtain ⟨out, H'⟩ := q
    rw [he] at hr
    cases out with
    | exit e A => simp [outEq] at hr
    | val u =>
      have hu : u = v := veq_ok hr
      subst hu
      refine Calls.mono (callR hg2 (args := args) (fun ι => plainAs_rel hx.1) (step_body he hb) w₁ hw1 ⟨fun _ _ => rfl, fun _ _ h => by simp at h⟩) fun e w' hh => ?_
      obtain ⟨ι', v', rfl, q1, x1⟩ := hh
      rw [plainA_eq hx.2 q1]
      exact ⟨rfl, x1⟩
end Go.Ev
