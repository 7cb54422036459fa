/- Texts of a proof, one behind the other. Conditions: those each says. -/
import Derived.Test.YtgokpcaijabhoaaDoorZ4
namespace Go.Ev
open Go.RowKit
set_option linter.unusedSectionVars false
def spine : Code → List Code
  | .seq a b => spine a ++ spine b
  | c => [c]
noncomputable def runL (r : Runner) : List Code → Fr → Heap → Option (AExit × Fr × Heap)
  | [], A, H => some (.normal, A, H)
  | c :: l, A, H => match r (.code c A) H with
    | some (.exit .normal A', H') => runL r l A' H'
    | some (.exit e A', H') => some (e, A', H')
    | _ => none
noncomputable def keepM (m : T Blk) : List Nat → T Blk → T Blk
  | [], t => t
  | n :: l, t => keepM m l (t.set n (m.get n))
noncomputable def Heap.keep (H : Heap) (live : List Nat) : Heap := { base := H.base, next := H.next, m := keepM H.m live .leaf, hole := H.hole }
theorem keepM_get (m : T Blk) : ∀ (l : List Nat) (t : T Blk) (n : Nat) (b : Blk), (keepM m l t).get n = some b → t.get n = some b ∨ m.get n = some b
  | [], t, n, b, h => .inl h
  | x :: l, t, n, b, h => by
    rcases keepM_get m l _ n b h with h | h
    · rw [T.get_set] at h
      split at h
      · rename_i e; subst e; exact .inr h
      · exact .inl h
    · exact .inr h
theorem Heap.keep_get {H : Heap} {live : List Nat} {n : Nat} {b : Blk} (h : (H.keep live).get n = some b) : H.get n = some b := by
  rcases keepM_get H.m live .leaf n b h with h | h
  · rw [T.get_leaf] at h; simp at h
  · exact h
noncomputable def runP (r : Runner) : List (Nat × List Nat) → List Code → Fr → Heap → Option (AExit × Fr × Heap)
  | [], l, A, H => runL r l A H
  | p :: ps, l, A, H => match runL r (l.take p.1) A H with
    | some (.normal, A1, H1) => runP r ps (l.drop p.1) A1 (H1.keep p.2)
    | x => x
theorem runP_step {r : Runner} {p : Nat × List Nat} {ps : List (Nat × List Nat)} {l : List Code} {A A1 : Fr} {H H1 : Heap} (h : (match runL r (l.take p.1) A H with
    | some (.normal, A1, H1) => some (A1, H1.keep p.2)
    | _ => none) = some (A1, H1)) : runP r (p :: ps) l A H = runP r ps (l.drop p.1) A1 H1 := by
  rw [show runP r (p :: ps) l A H = (match runL r (l.take p.1) A H with
    | some (.normal, A1, H1) => runP r ps (l.drop p.1) A1 (H1.keep p.2)
    | x => x) from rfl]
  cases hr : runL r (l.take p.1) A H with
  | none => rw [hr] at h; simp at h
  | some q =>
    obtain ⟨e, A2, H2⟩ := q
    rw [hr] at h
    cases e <;> simp at h
    obtain ⟨rfl, rfl⟩ := h
    rfl
noncomputable def piece (r : Runner) (n : Nat) (live : List Nat) (l : List Code) (A : Fr) (H : Heap) : Option (Fr × Heap) := match runL r (l.take n) A H with
    | some (.normal, A1, H1) => some (A1, H1.keep live)
    | _ => none
theorem runP_nil {r : Runner} {l : List Code} {A : Fr} {H : Heap} : runP r [] l A H = runL r l A H := rfl
theorem runP_cons {r : Runner} {p : Nat × List Nat} {ps : List (Nat × List Nat)} {l l' : List Code} {A A1 : Fr} {H H1 : Heap} (hl : l' = l.drop p.1) (h : piece r p.1 p.2 l A H = some (A1, H1)) : runP r (p :: ps) l A H = runP r ps l' A1 H1 := by
  rw [hl]
  exact runP_step h
def LOk (P : Program) : List Code → (Exit → Act → World → Prop) → Act → World → Prop
  | [], Q, a, w => Q .normal a w
  | c :: l, Q, a, w => c.wp P (Exit.then (LOk P l Q) Q) a w
theorem then_mono {K K' : Act → World → Prop} {Q Q' : Exit → Act → World → Prop} (hk : ∀ a w, K a w → K' a w) (hq : ∀ e a w, e ≠ .normal → Q e a w → Q' e a w) : ∀ e a w, Exit.then K Q e a w → Exit.then K' Q' e a w := by
  intro e a w h
  cases e with
  | normal => exact hk a w h
  | _ => exact hq _ a w (by simp) h
theorem LOk.mono {P : Program} {Q Q' : Exit → Act → World → Prop} (hq : ∀ e a w, Q e a w → Q' e a w) : ∀ (l : List Code) (a : Act) (w : World), LOk P l Q a w → LOk P l Q' a w
  | [], _, _, h => hq _ _ _ h
  | _ :: l, _, _, h => wp_mono h (then_mono (LOk.mono hq l) fun _ _ _ _ h => hq _ _ _ h)
theorem LOk.append {P : Program} {Q : Exit → Act → World → Prop} {m : List Code} : ∀ (l : List Code) (a : Act) (w : World), LOk P (l ++ m) Q a w → LOk P l (Exit.then (LOk P m Q) Q) a w
  | [], _, _, h => h
  | _ :: l, _, _, h => wp_mono h (then_mono (LOk.append l) fun e a w he h => by cases e <;> first | exact absurd rfl he | exact h)
theorem LOk.join {P : Program} {Q : Exit → Act → World → Prop} {m : List Code} : ∀ (l : List Code) (a : Act) (w : World), LOk P l (Exit.then (LOk P m Q) Q) a w → LOk P (l ++ m) Q a w
  | [], _, _, h => h
  | _ :: l, _, _, h => wp_mono h (then_mono (LOk.join l) fun e a w he h => by cases e <;> first | exact absurd rfl he | exact h)
theorem LOk.code {P : Program} : ∀ (c : Code) (Q : Exit → Act → World → Prop) (a : Act) (w : World), LOk P (spine c) Q a w → c.wp P Q a w := by
  intro c
  have one : ∀ (c : Code) (Q : Exit → Act → World → Prop) (a : Act) (w : World), LOk P [c] Q a w → c.wp P Q a w := fun c Q a w h => wp_mono h fun e a w h => by cases e <;> exact h
  induction c with
  | seq x y ihx ihy =>
    intro Q a w h
    exact wp_seq (ihx _ a w (wp_mono_l (LOk.append (spine x) a w h) ihy))
  | _ => exact one _
where
  wp_mono_l {P : Program} {y : Code} {l : List Code} {Q : Exit → Act → World → Prop} {a : Act} {w : World} (h : LOk P l (Exit.then (LOk P (spine y) Q) Q) a w) (ihy : ∀ Q a w, LOk P (spine y) Q a w → y.wp P Q a w) : LOk P l (Exit.then (fun a w => y.wp P Q a w) Q) a w :=
    LOk.mono (then_mono (fun a w h => ihy Q a w h) fun _ _ _ _ h => h) l a w h
theorem fine_spine {n : Nat} : ∀ (c : Code), fineC n c = true → ∀ x ∈ spine c, fineC n x = true := by
  intro c
  induction c with
  | seq x y ihx ihy =>
    intro h z hz
    simp only [fineC, Bool.and_eq_true] at h
    rcases List.mem_append.1 hz with hz | hz
    · exact ihx h.1 z hz
    · exact ihy h.2 z hz
  | _ => intro h z hz; obtain rfl := List.mem_singleton.1 hz; exact h
section
variable {P : Program} [NoFloat P] {G : Nat → Option Obj} {ι : Inj}
theorem Rel.keep [Syms] {H : Heap} {w : World} (h : Rel P ι H w) (live : List Nat) : Rel P ι (H.keep live) w :=
  ⟨h.glb, h.gsize, h.glob, h.over, h.next, h.room, h.fresh, h.hole, h.below, fun n b hn => h.live n b (Heap.keep_get hn), fun n m b c i j hn hm => h.inj n m b c i j (Heap.keep_get hn) (Heap.keep_get hm)⟩
theorem PostC.keep [Syms] {w : World} {a : Act} {e : AExit} {A' : Fr} {H' : Heap} (live : List Nat) {e' : Exit} {a' : Act} {w' : World} (h : PostC P ι w a e A' H' e' a' w') : PostC P ι w a e A' (H'.keep live) e' a' w' := by
  obtain ⟨ι1, h1, x1, r1, f1, d1⟩ := h
  exact ⟨ι1, h1, x1, r1.keep live, f1, d1⟩
theorem runL_ok {r : Runner} (hg : @Good (noSyms G) noMarks P r) : ∀ (l : List Code) (A : Fr) (H : Heap) (e : AExit) (A' : Fr) (H' : Heap), (∀ c ∈ l, fineC P.globals.size c = true) → runL r l A H = some (e, A', H') →
    ∀ ι a w, @Rel (noSyms G) P ι H w → @FRel (noSyms G) ι A a.tmps → LOk P l (@PostC (noSyms G) P ι w a e A' H') a w
  | [], A, H, e, A', H', _, h, ι, a, w, hw, hA => by
    letI := noSyms G
    have h' : some (AExit.normal, A, H) = some (e, A', H') := h
    simp only [Option.some.injEq, Prod.mk.injEq] at h'
    obtain ⟨rfl, rfl, rfl⟩ := h'
    exact ⟨ι, rfl, Ext.refl _ _, hw, hA, rfl⟩
  | c :: l, A, H, e, A', H', hf, h, ι, a, w, hw, hA => by
    letI := noSyms G
    letI : Marks := noMarks
    have h' : (match r (.code c A) H with
      | some (.exit .normal A', H') => runL r l A' H'
      | some (.exit e A', H') => some (e, A', H')
      | _ => none) = some (e, A', H') := h
    cases hr : r (.code c A) H with
    | none => rw [hr] at h'; simp at h'
    | some x =>
      obtain ⟨o, H1⟩ := x
      rw [hr] at h'
      cases o with
      | val v => simp at h'
      | exit e1 A1 =>
        have hc := hg.code _ _ _ _ _ _ hr c (.same c) (hf c List.mem_cons_self) ι a w hw hA
        refine wp_mono hc fun e' a' w' hpost => ?_
        obtain ⟨ι1, rfl, x1, r1, f1, d1⟩ := hpost
        cases e1 with
        | normal =>
          exact LOk.mono (fun _ _ _ hp => hp.trans x1 d1) l a' w' (runL_ok hg l A1 H1 e A' H' (fun c hc => hf c (List.mem_cons_of_mem _ hc)) h' ι1 a' w' r1 f1)
        | exit id =>
          simp only [Option.some.injEq, Prod.mk.injEq] at h'
          obtain ⟨rfl, rfl, rfl⟩ := h'
          exact ⟨ι1, rfl, x1, r1, f1, d1⟩
        | ret =>
          simp only [Option.some.injEq, Prod.mk.injEq] at h'
          obtain ⟨rfl, rfl, rfl⟩ := h'
          exact ⟨ι1, rfl, x1, r1, f1, d1⟩
theorem runP_ok {r : Runner} (hg : @Good (noSyms G) noMarks P r) : ∀ (ps : List (Nat × List Nat)) (l : List Code) (A : Fr) (H : Heap) (e : AExit) (A' : Fr) (H' : Heap), (∀ c ∈ l, fineC P.globals.size c = true) → runP r ps l A H = some (e, A', H') →
    ∀ ι a w, @Rel (noSyms G) P ι H w → @FRel (noSyms G) ι A a.tmps → LOk P l (@PostC (noSyms G) P ι w a e A' H') a w
  | [], l, A, H, e, A', H', hf, h, ι, a, w, hw, hA => runL_ok hg l A H e A' H' hf h ι a w hw hA
  | p :: ps, l, A, H, e, A', H', hf, h, ι, a, w, hw, hA => by
    letI := noSyms G
    letI : Marks := noMarks
    have h' : (match runL r (l.take p.1) A H with
      | some (.normal, A1, H1) => runP r ps (l.drop p.1) A1 (H1.keep p.2)
      | x => x) = some (e, A', H') := h
    rw [← List.take_append_drop p.1 l]
    refine LOk.join _ _ _ ?_
    cases hr : runL r (l.take p.1) A H with
    | none => rw [hr] at h'; simp at h'
    | some q =>
      obtain ⟨e1, A1, H1⟩ := q
      rw [hr] at h'
      have h1 := runL_ok hg (l.take p.1) A H e1 A1 H1 (fun c hc => hf c (List.mem_of_mem_take hc)) hr ι a w hw hA
      refine LOk.mono (fun e' a' w' hpost => ?_) _ _ _ h1
      obtain ⟨ι1, rfl, x1, r1, f1, d1⟩ := hpost
      cases e1 with
      | normal =>
        exact LOk.mono (fun _ _ _ hp => hp.trans x1 d1) _ a' w' (runP_ok hg ps (l.drop p.1) A1 (H1.keep p.2) e A' H' (fun c hc => hf c (List.mem_of_mem_drop hc)) h' ι1 a' w' (r1.keep p.2) f1)
      | exit id =>
        simp only [Option.some.injEq, Prod.mk.injEq] at h'
        obtain ⟨rfl, rfl, rfl⟩ := h'
        exact ⟨ι1, rfl, x1, r1, f1, d1⟩
      | ret =>
        simp only [Option.some.injEq, Prod.mk.injEq] at h'
        obtain ⟨rfl, rfl, rfl⟩ := h'
        exact ⟨ι1, rfl, x1, r1, f1, d1⟩
noncomputable def spineR (ps : List (Nat × List Nat)) (r : Runner) : Runner
  | .code c A, H => match runP r ps (spine c) A H with
    | some (e, A', H') => some (.exit e A', H')
    | none => none
  | .fn f a, H => r (.fn f a) H
  | .loop c A, H => r (.loop c A) H
theorem ann_eq {c c0 : Code} (h : @Ann noMarks c c0) : c = c0 := by
  letI : Marks := noMarks
  induction h with
  | same => rfl
  | mark hn => simp [Marks.code] at hn
  | seq _ _ h1 h2 => rw [h1, h2]
  | cond _ _ h1 h2 => rw [h1, h2]
  | block _ h1 => rw [h1]
  | loop _ h1 => rw [h1]
  | scope _ h1 => rw [h1]
theorem spineR_good {r : Runner} (hg : @Good (noSyms G) noMarks P r) (ps : List (Nat × List Nat)) : @Good (noSyms G) noMarks P (spineR ps r) := by
  letI := noSyms G
  letI : Marks := noMarks
  refine ⟨hg.fn, fun c A H e A' H' h => ?_, hg.loop, fun c A H v H' h => ?_, hg.noValL⟩
  · have h' : (match runP r ps (spine c) A H with
      | some (e, A', H') => some (Out.exit e A', H')
      | none => none) = some (.exit e A', H') := h
    cases hr : runP r ps (spine c) A H with
    | none => rw [hr] at h'; simp at h'
    | some q =>
      obtain ⟨e1, A1, H1⟩ := q
      rw [hr] at h'
      simp only [Option.some.injEq, Prod.mk.injEq, Out.exit.injEq] at h'
      obtain ⟨⟨rfl, rfl⟩, rfl⟩ := h'
      intro c0 hann hf ι a w hw hA
      obtain rfl := ann_eq hann
      exact LOk.code _ _ _ _ (runP_ok hg ps (spine c) A H _ _ _ (fine_spine c hf) hr ι a w hw hA)
  · have h' : (match runP r ps (spine c) A H with
      | some (e, A', H') => some (Out.exit e A', H')
      | none => none) = some (.val v, H') := h
    cases hr : runP r ps (spine c) A H with
    | none => rw [hr] at h'; simp at h'
    | some q =>
      obtain ⟨e1, A1, H1⟩ := q
      rw [hr] at h'
      simp at h'
end
noncomputable def finL (P : Program) (fn : Func) : Option (AExit × Fr × Heap) → Option (Out × Heap)
  | some (.normal, A, H') | some (.ret, A, H') => cond (resOk fn A) (match arun P (resA fn A.get) H' with
    | some (vs, H'') => some (.val (if h : vs.size = 1 then vs[0] else .tuple vs), H'')
    | none => none) none
  | _ => none
noncomputable def bodyS (ft : Nat → Option Func) (f : FuncId) : List Code := match ft f with
  | some fn => match fn.body with
    | some c => spine c
    | none => []
  | none => []
noncomputable def enterL (ft : Nat → Option Func) (f : FuncId) (args : Array Value) : Fr := match ft f with
  | some fn => Fr.enter fn args
  | none => { size := 0, m := .leaf }
noncomputable def endL (P : Program) (ft : Nat → Option Func) (f : FuncId) (x : Option (AExit × Fr × Heap)) : Option (Out × Heap) := match ft f with
  | some fn => finL P fn x
  | none => none
theorem step_body [Syms] {P : Program} [NoFloat P] [Marks] [Orc P] [Lps P] {ft : Nat → Option Func} {ps : List (Nat × List Nat)} {r : Runner} {draw : Array Oper → Fr → Heap → Option (Fr × Heap)} {f : FuncId} {args : Array Value} {H : Heap} {x : Out × Heap} (h : endL P ft f (runP r ps (bodyS ft f) (enterL ft f args) H) = some x) (hb : ((ft f).bind (·.body)).isSome = true) :
    stepRun P ft (spineR ps r) draw (.fn f args) H = some x := by
  unfold endL bodyS enterL at h
  simp only [stepRun]
  cases hf : ft f with
  | none => rw [hf] at h; simp at h
  | some fn =>
    rw [hf] at h hb
    cases hc : fn.body with
    | none => simp [hc] at hb
    | some c =>
      simp only [hc] at h ⊢
      rw [show spineR ps r (.code c (Fr.enter fn args)) H = (match runP r ps (spine c) (Fr.enter fn args) H with
        | some (e, A', H') => some (Out.exit e A', H')
        | none => none) from rfl]
      cases hr : runP r ps (spine c) (Fr.enter fn args) H with
      | none => rw [hr] at h; simp [finL] at h
      | some q =>
        obtain ⟨e1, A1, H1⟩ := q
        rw [hr] at h
        cases e1 <;> exact h
theorem callR [Syms] {P : Program} [NoFloat P] [Marks] [Orc P] [Lps P] {r : Runner} (hg : Good P r) {gs : Gs} {f : FuncId} {args args' : Array Value} {v : Value} {H' : Heap} (hargs : ∀ ι, ARel ι args args')
    (hrun : r (.fn f args) (H0g P gs) = some (.val v, H')) (w : World) (hw : GOk P gs w) (hgl : (∀ b, b < P.globals.size → w.heap[b]? = Syms.glob b) ∧ ∀ b o, Syms.inp b = some o → w.heap[b]? = some o) : Calls P f args' w fun e w' => ∃ ι' v', e = .returned v' ∧ VRel ι' v v' ∧ Quiet w w' := by
  refine Calls.mono (hg.fn f args (H0g P gs) _ H' hrun (ι0g P gs) args' w (rel0g hw hgl) (hargs _)) fun e w' he => ?_
  obtain ⟨ι', v', rfl, x1, r1, q1⟩ := he
  exact ⟨ι', v', rfl, q1, x1.quiet⟩
end Go.Ev
namespace Go.Ev
variable {P : Program} {ft : Nat → Option Func}
theorem KnOk.pieces [NoFloat P] (hE : EnvOk P ft) {gs : Gs} {n : Nat} {f : FuncId} {args : Array Value} {v : Value} (hx : Kn.ok ⟨f, args, v⟩ = true) (tb : List Kn) (htb : tb.all Kn.ok = true) {L : List Code} {A0 : Fr} (hL0 : L = bodyS ft f) (hA0 : A0 = enterL ft f args)
    (ps : List (Nat × List Nat)) (hrun : ∀ G, outEq v (endL P ft f (runP (run0 P ft (knT tb fun _ _ => none) G n) ps L A0 (H0g P gs))) = true) (hb : ((ft f).bind (·.body)).isSome = true) {w : World} (hw : GOk P gs w)
    (hT : ∀ y ∈ tb, KnOk P w y) : KnOk P w ⟨f, args, v⟩ := by
  subst hL0 hA0
  intro w₁ hs hgl
  unfold Kn.ok at hx
  rw [Bool.and_eq_true] at hx
  have hw1 : GOk P gs w₁ := @GOk.of (noSyms fun _ => none) _ _ _ _ hw hs hgl
  have hr := hrun fun b => w₁.heap[b]?
  letI i1 := noSyms fun b => w₁.heap[b]?
  letI i2 : Marks := noMarks
  letI i3 : Orc P := noOrc P _
  letI i4 : Lps P := noLps P
  have hK : KOk P (knT tb fun _ _ => none) := @knT_ok P (fun b => w₁.heap[b]?) w (fun b hb => hgl b hb) _ (@noK (noSyms fun b => w₁.heap[b]?) P) tb htb hT
  have hL : LpsOk P := fun _ _ _ _ _ _ _ _ h => by simp at h
  have hg : Good P (runK P ft (knT tb fun _ _ => none) n) := runK_good hE hL hK n
  have hg2 : Good P (stepRun P ft (spineR ps (runK P ft (knT tb fun _ _ => none) n)) (drawRun2 P ft (spineR ps (runK P ft (knT tb fun _ _ => none) n)))) := Good.step hE hL (spineR_good hg ps) (drawRun2_ok hE (spineR_good hg ps))
  cases he : endL P ft f (runP (run0 P ft (knT tb fun _ _ => none) (fun b => w₁.heap[b]?) n) ps (bodyS ft f) (enterL ft f args) (H0g P gs)) with
  | none => rw [he] at hr; simp [outEq] at hr
  | some q =>
    obtain ⟨out, H'⟩ := q
    rw [he] at hr
    cases out with
    | exit e A => simp [outEq] at hr
    | val u =>
      have hu : u = v := veq_ok hr
      subst hu
      refine Calls.mono (callR hg2 (args := args) (fun ι => plainAs_rel hx.1) (step_body he hb) w₁ hw1 ⟨fun _ _ => rfl, fun _ _ h => by simp at h⟩) fun e w' hh => ?_
      obtain ⟨ι', v', rfl, q1, x1⟩ := hh
      rw [plainA_eq hx.2 q1]
      exact ⟨rfl, x1⟩
end Go.Ev
namespace Go.Ev
open Go.RowKit
set_option linter.unusedSectionVars false
inductive Itm where
  | code (c : Code)
  | inLoop (c : Code)
  | inBlock (id : Nat)
  | ops (os : Array Oper) (l : List Oper)
noncomputable def unwI : List Itm → AExit → List Itm × AExit
  | [], e => ([], e)
  | .inBlock id :: l, .exit id' => cond (Nat.beq id' id) (l, .normal) (unwI l (.exit id'))
  | .code _ :: l, e => unwI l e
  | .inLoop _ :: l, e => unwI l e
  | .inBlock _ :: l, e => unwI l e
  | .ops .. :: l, e => unwI l e
noncomputable def opR (P : Program) (ft : Nat → Option Func) (G : Nat → Option Obj) (r : Runner) (os : Array Oper) (l : List Oper) (A : Fr) (H : Heap) : Option (Fr × Heap) :=
  letI := noSyms G
  letI := noOrc P G
  runOps P ft r os l A H
noncomputable def stI (P : Program) (ft : Nat → Option Func) (G : Nat → Option Obj) (r : Runner) : List Itm → Fr → Heap → Option (List Itm × AExit × Fr × Heap)
  | [], _, _ => none
  | .inBlock _ :: l, A, H => some (l, .normal, A, H)
  | .inLoop c :: l, A, H => some (.code c :: .inLoop c :: l, .normal, A, H)
  | .code (.seq a b) :: l, A, H => some (.code a :: .code b :: l, .normal, A, H)
  | .code (.block id c) :: l, A, H => some (.code c :: .inBlock id :: l, .normal, A, H)
  | .code (.loop c) :: l, A, H => some (.code c :: .inLoop c :: l, .normal, A, H)
  | .code (.cond x a b) :: l, A, H => match opv A.get x with
    | .bool t => some (.code (if t then a else b) :: l, .normal, A, H)
    | _ => none
  | .code (.region _ os false) :: l, A, H => some (.ops os os.toList :: l, .normal, A, H)
  | .ops _ [] :: l, A, H => some (l, .normal, A, H)
  | .ops os (o :: rest) :: l, A, H => match opR P ft G r os [o] A H with
    | some (A', H') => some (.ops os rest :: l, .normal, A', H')
    | none => none
  | .code c :: l, A, H => match r (.code c A) H with
    | some (.exit .normal A', H') => some (l, .normal, A', H')
    | some (.exit e A', H') => some ((unwI l e).1, (unwI l e).2, A', H')
    | _ => none
noncomputable def itN (P : Program) (ft : Nat → Option Func) (G : Nat → Option Obj) (r : Runner) : Nat → List Itm → Fr → Heap → Option (List Itm × AExit × Fr × Heap)
  | 0, l, A, H => some (l, .normal, A, H)
  | n + 1, l, A, H => match l with
    | [] => some ([], .normal, A, H)
    | x :: l => match stI P ft G r (x :: l) A H with
      | some (l', .normal, A', H') => itN P ft G r n l' A' H'
      | y => y
noncomputable def runQ (P : Program) (ft : Nat → Option Func) (G : Nat → Option Obj) (r : Runner) (big : Nat) : List (Nat × List Nat) → List Itm → Fr → Heap → Option (AExit × Fr × Heap)
  | [], l, A, H => match itN P ft G r big l A H with
    | some ([], e, A', H') => some (e, A', H')
    | _ => none
  | p :: ps, l, A, H => match itN P ft G r p.1 l A H with
    | some (l1, .normal, A1, H1) => runQ P ft G r big ps l1 A1 (H1.keep p.2)
    | _ => none
noncomputable def pieceI (P : Program) (ft : Nat → Option Func) (G : Nat → Option Obj) (r : Runner) (n : Nat) (live : List Nat) (l : List Itm) (A : Fr) (H : Heap) : Option (List Itm × Fr × Heap) := match itN P ft G r n l A H with
    | some (l1, .normal, A1, H1) => some (l1, A1, H1.keep live)
    | _ => none
theorem runQ_cons {P : Program} {ft : Nat → Option Func} {G : Nat → Option Obj} {r : Runner} {big : Nat} {p : Nat × List Nat} {ps : List (Nat × List Nat)} {l l1 : List Itm} {A A1 : Fr} {H H1 : Heap} (h : pieceI P ft G r p.1 p.2 l A H = some (l1, A1, H1)) : runQ P ft G r big (p :: ps) l A H = runQ P ft G r big ps l1 A1 H1 := by
  rw [show runQ P ft G r big (p :: ps) l A H = (match itN P ft G r p.1 l A H with
    | some (l1, .normal, A1, H1) => runQ P ft G r big ps l1 A1 (H1.keep p.2)
    | _ => none) from rfl]
  unfold pieceI at h
  cases hr : itN P ft G r p.1 l A H with
  | none => rw [hr] at h; simp at h
  | some q =>
    obtain ⟨l2, e, A2, H2⟩ := q
    rw [hr] at h
    cases e <;> simp at h
    obtain ⟨rfl, rfl, rfl⟩ := h
    rfl
def codePt : Code → List Nat → Code
  | c, [] => c
  | .seq a _, 0 :: p => codePt a p
  | .seq _ b, _ :: p => codePt b p
  | .cond _ a _, 0 :: p => codePt a p
  | .cond _ _ b, _ :: p => codePt b p
  | .block _ c, _ :: p => codePt c p
  | .loop c, _ :: p => codePt c p
  | c, _ => c
def itmsAt (ft : Nat → Option Func) (f : FuncId) (l : List (Nat × List Nat)) : List Itm := match ft f with
  | some fn => match fn.body with
    | some c => l.map fun x => match x.1 with
      | 0 => .code (codePt c x.2)
      | 1 => .inLoop (codePt c x.2)
      | 3 => (match codePt c x.2.dropLast with
        | .region _ os _ => .ops os (os.toList.drop (x.2.getLastD 0))
        | _ => .inBlock 0)
      | _ => .inBlock (x.2.headD 0)
    | none => []
  | none => []
def LWp (P : Program) (c : Code) (Q : Exit → Act → World → Prop) (a : Act) (w : World) : Prop :=
  ∀ (b : Frame) (k : List Item) (cs : List Frame), ∃ e a' w', Q e a' w' ∧ Arrives P (lone (b.at a (.inLoop c :: k)) cs w) b k cs e a' w'
theorem loop_pass {P : Program} {c : Code} {Q : Exit → Act → World → Prop} {a : Act} {w : World} (h : c.wp P (Exit.then (LWp P c Q) Q) a w) (b : Frame) (k : List Item) (cs : List Frame) :
    ∃ e a' w', Q e a' w' ∧ Arrives P (lone (b.at a (.code c :: .inLoop c :: k)) cs w) b k cs e a' w' := by
  obtain ⟨e, a₁, w₁, hq, harr⟩ := h b (.inLoop c :: k) cs
  cases e with
  | normal =>
    obtain ⟨e₂, a₂, w₂, hq₂, harr₂⟩ := hq b k cs
    exact ⟨e₂, a₂, w₂, hq₂, .of_steps harr harr₂⟩
  | exit id => exact ⟨_, a₁, w₁, hq, .pass (x := .inLoop c) rfl (fun _ _ => .inl (by simp)) harr⟩
  | goto l => exact ⟨_, a₁, w₁, hq, .pass (x := .inLoop c) rfl (fun _ _ => .inl (by simp)) harr⟩
  | ret => exact ⟨_, a₁, w₁, hq, .pass (x := .inLoop c) rfl (fun _ _ => .inl (by simp)) harr⟩
  | panic ch => exact ⟨_, a₁, w₁, hq, .pass (x := .inLoop c) rfl (fun _ _ => .inl (by simp)) harr⟩
  | outgrown => exact ⟨_, a₁, w₁, hq, .pass (x := .inLoop c) rfl (fun _ _ => .inl (by simp)) harr⟩
theorem LWp.of {P : Program} {c : Code} {Q : Exit → Act → World → Prop} {a : Act} {w : World} (h : c.wp P (Exit.then (LWp P c Q) Q) a w) : LWp P c Q a w := by
  intro b k cs
  obtain ⟨e, a', w', hq, harr⟩ := loop_pass h b k cs
  exact ⟨e, a', w', hq, .of_steps (.one step_inLoop) harr⟩
theorem loop_of {P : Program} {c : Code} {Q : Exit → Act → World → Prop} {a : Act} {w : World} (h : c.wp P (Exit.then (LWp P c Q) Q) a w) : (Code.loop c).wp P Q a w := by
  intro b k cs
  obtain ⟨e, a', w', hq, harr⟩ := loop_pass h b k cs
  exact ⟨e, a', w', hq, .of_steps (.one step_loop) harr⟩
theorem LWp.mono {P : Program} {c : Code} {Q Q' : Exit → Act → World → Prop} {a : Act} {w : World} (h : LWp P c Q a w) (hq : ∀ e a w, Q e a w → Q' e a w) : LWp P c Q' a w :=
  fun b k cs => let ⟨e, a', w', q, r⟩ := h b k cs; ⟨e, a', w', hq _ _ _ q, r⟩
def IX (P : Program) : List Itm → (Exit → Act → World → Prop) → Exit → Act → World → Prop
  | [], Q => Q
  | .code c :: l, Q => Exit.then (c.wp P (IX P l Q)) (IX P l Q)
  | .inLoop c :: l, Q => Exit.then (LWp P c (IX P l Q)) (IX P l Q)
  | .inBlock id :: l, Q => Exit.inBlock id (IX P l Q)
  | .ops os ol :: l, Q => Exit.then (wpList P os (IX P l Q) ol) (IX P l Q)
theorem IX.unw {P : Program} {Q : Exit → Act → World → Prop} {a : Act} {w : World} : ∀ (l : List Itm) (e : AExit), e ≠ .normal → IX P (unwI l e).1 Q (unwI l e).2.conv a w → IX P l Q e.conv a w
  | [], _, _, h => h
  | .code c :: l, e, he, h => by
    have h1 : IX P (unwI l e).1 Q (unwI l e).2.conv a w := by cases e <;> exact h
    have := IX.unw l e he h1
    cases e with
    | normal => exact absurd rfl he
    | exit id => exact this
    | ret => exact this
  | .inLoop c :: l, e, he, h => by
    have h1 : IX P (unwI l e).1 Q (unwI l e).2.conv a w := by cases e <;> exact h
    have := IX.unw l e he h1
    cases e with
    | normal => exact absurd rfl he
    | exit id => exact this
    | ret => exact this
  | .ops os ol :: l, e, he, h => by
    have h1 : IX P (unwI l e).1 Q (unwI l e).2.conv a w := by cases e <;> exact h
    have := IX.unw l e he h1
    cases e with
    | normal => exact absurd rfl he
    | exit id => exact this
    | ret => exact this
  | .inBlock id :: l, e, he, h => by
    cases e with
    | normal => exact absurd rfl he
    | ret => exact IX.unw l .ret he h
    | exit id' =>
      have h' : IX P (cond (Nat.beq id' id) (l, AExit.normal) (unwI l (.exit id'))).1 Q (cond (Nat.beq id' id) (l, AExit.normal) (unwI l (.exit id'))).2.conv a w := h
      show (if id' = id then IX P l Q .normal a w else IX P l Q (.exit id') a w)
      cases hb : Nat.beq id' id with
      | true =>
        rw [hb] at h'
        rw [if_pos (Nat.eq_of_beq_eq_true hb)]
        exact h'
      | false =>
        rw [hb] at h'
        rw [if_neg (fun e => by subst e; simp at hb)]
        exact IX.unw l (.exit id') he h'
def fineItm (n : Nat) : Itm → Bool
  | .code c | .inLoop c => fineC n c
  | .inBlock _ => true
  | .ops _ l => l.all (fineO n)
section
variable {P : Program} [NoFloat P] {G : Nat → Option Obj} {ι : Inj}
theorem fine_unw {n : Nat} : ∀ (l : List Itm) (e : AExit), (∀ x ∈ l, fineItm n x = true) → ∀ x ∈ (unwI l e).1, fineItm n x = true
  | [], e, _, x, hx => by cases e <;> simp [unwI] at hx
  | y :: l, e, h, x, hx => by
    have h' : ∀ x ∈ l, fineItm n x = true := fun x hx => h x (List.mem_cons_of_mem _ hx)
    cases y with
    | code c => exact fine_unw l e h' x (by cases e <;> exact hx)
    | inLoop c => exact fine_unw l e h' x (by cases e <;> exact hx)
    | ops os ol => exact fine_unw l e h' x (by cases e <;> exact hx)
    | inBlock id =>
      cases e with
      | normal => exact fine_unw l _ h' x hx
      | ret => exact fine_unw l _ h' x hx
      | exit id' =>
        have hx' : x ∈ (cond (Nat.beq id' id) (l, AExit.normal) (unwI l (.exit id'))).1 := hx
        cases hb : Nat.beq id' id with
        | true => rw [hb] at hx'; exact h' x hx'
        | false => rw [hb] at hx'; exact fine_unw l _ h' x hx'
theorem opR_ok {ft : Nat → Option Func} (hE : @EnvOk noMarks P ft) {r : Runner} (hg : @Good (noSyms G) noMarks P r) {os : Array Oper} {o : Oper} {rest : List Oper} {A A' : Fr} {H H' : Heap} (h : opR P ft G r os [o] A H = some (A', H')) (hf : fineO P.globals.size o = true) {Q : Exit → Act → World → Prop} {ι : Inj} {a : Act} {w : World} (hw : @Rel (noSyms G) P ι H w) (hA : @FRel (noSyms G) ι A a.tmps)
    (hQ : ∀ ι1 a1 w1, Ext P ι w ι1 w1 → @Rel (noSyms G) P ι1 H' w1 → @FRel (noSyms G) ι1 A' a1.tmps → a1.defers = a.defers → wpList P os Q rest a1 w1) : wpList P os Q (o :: rest) a w := by
  letI := noSyms G
  letI : Marks := noMarks
  letI : Orc P := noOrc P G
  letI : Lps P := noLps P
  have h' : runOps P ft r os [o] A H = some (A', H') := h
  rw [runOps_cons] at h'
  unfold wpList
  by_cases hl : lookOk os A o = true
  case neg => rw [if_neg hl] at h'; simp at h'
  rw [if_pos hl, wanted_eq hA os o hl] at h'
  by_cases hwt : Region.wanted o (yielded os a.tmps) = true
  · rw [if_pos hwt] at h' ⊢
    cases hs : stepOp P ft r o A H with
    | none => rw [hs] at h'; simp at h'
    | some q =>
      obtain ⟨A1, H1⟩ := q
      rw [hs] at h'
      simp only [runOps_nil, Option.some.injEq, Prod.mk.injEq] at h'
      obtain ⟨rfl, rfl⟩ := h'
      exact .inl (stepOp_ok hE hg hs hw hA hf hl hQ)
  · rw [if_neg hwt] at h' ⊢
    cases hp : A.put o.dst undf with
    | none => rw [hp] at h'; simp at h'
    | some A1 =>
      rw [hp] at h'
      simp only [runOps_nil, Option.some.injEq, Prod.mk.injEq] at h'
      obtain ⟨rfl, rfl⟩ := h'
      exact hQ ι _ w (Ext.refl _ _) hw (hA.put VRel.undf hp) (put_defers _ _ _)
theorem stI_ok {ft : Nat → Option Func} (hE : @EnvOk noMarks P ft) {r : Runner} (hg : @Good (noSyms G) noMarks P r) {l l' : List Itm} {A A' : Fr} {H H' : Heap} {e : AExit} (hf : ∀ x ∈ l, fineItm P.globals.size x = true) (h : stI P ft G r l A H = some (l', e, A', H'))
    {Q : Exit → Act → World → Prop} {ι : Inj} {a : Act} {w : World} (hw : @Rel (noSyms G) P ι H w) (hA : @FRel (noSyms G) ι A a.tmps)
    (hk : (∀ x ∈ l', fineItm P.globals.size x = true) → ∀ ι1 a1 w1, Ext P ι w ι1 w1 → @Rel (noSyms G) P ι1 H' w1 → @FRel (noSyms G) ι1 A' a1.tmps → a1.defers = a.defers → IX P l' Q e.conv a1 w1) : IX P l Q .normal a w := by
  letI := noSyms G
  letI : Marks := noMarks
  have leaf : ∀ (c : Code) (l : List Itm), (∀ x ∈ Itm.code c :: l, fineItm P.globals.size x = true) → (match r (.code c A) H with
    | some (.exit .normal A', H') => some (l, AExit.normal, A', H')
    | some (.exit e A', H') => some ((unwI l e).1, (unwI l e).2, A', H')
    | _ => none) = some (l', e, A', H') → IX P (.code c :: l) Q .normal a w := by
    intro c l hf h
    have hl : ∀ x ∈ l, fineItm P.globals.size x = true := fun x hx => hf x (List.mem_cons_of_mem _ hx)
    cases hr : r (.code c A) H with
    | none => rw [hr] at h; simp at h
    | some q =>
      obtain ⟨o, H1⟩ := q
      rw [hr] at h
      cases o with
      | val v => simp at h
      | exit e1 A1 =>
        refine wp_mono (hg.code _ _ _ _ _ _ hr c (.same c) (hf (.code c) List.mem_cons_self) ι a w hw hA) fun e' a' w' hpost => ?_
        obtain ⟨ι1, rfl, x1, r1, f1, d1⟩ := hpost
        cases e1 with
        | normal =>
          simp only [Option.some.injEq, Prod.mk.injEq] at h
          obtain ⟨rfl, rfl, rfl, rfl⟩ := h
          exact hk hl ι1 a' w' x1 r1 f1 d1
        | exit id =>
          simp only [Option.some.injEq, Prod.mk.injEq] at h
          obtain ⟨rfl, rfl, rfl, rfl⟩ := h
          exact IX.unw l _ (by simp) (hk (fine_unw l _ hl) ι1 a' w' x1 r1 f1 d1)
        | ret =>
          simp only [Option.some.injEq, Prod.mk.injEq] at h
          obtain ⟨rfl, rfl, rfl, rfl⟩ := h
          exact IX.unw l _ (by simp) (hk (fine_unw l _ hl) ι1 a' w' x1 r1 f1 d1)
  cases l with
  | nil => simp [stI] at h
  | cons y l =>
    have hl : ∀ x ∈ l, fineItm P.globals.size x = true := fun x hx => hf x (List.mem_cons_of_mem _ hx)
    have hy := hf y List.mem_cons_self
    cases y with
    | inBlock id =>
      simp only [stI, Option.some.injEq, Prod.mk.injEq] at h
      obtain ⟨rfl, rfl, rfl, rfl⟩ := h
      exact hk hl ι a w (Ext.refl _ _) hw hA rfl
    | inLoop c =>
      simp only [stI, Option.some.injEq, Prod.mk.injEq] at h
      obtain ⟨rfl, rfl, rfl, rfl⟩ := h
      exact LWp.of (hk (fun x hx => by
        rcases List.mem_cons.1 hx with rfl | hx
        · exact hy
        · exact hf x hx) ι a w (Ext.refl _ _) hw hA rfl)
    | ops os ol =>
      cases ol with
      | nil =>
        simp only [stI, Option.some.injEq, Prod.mk.injEq] at h
        obtain ⟨rfl, rfl, rfl, rfl⟩ := h
        exact hk hl ι a w (Ext.refl _ _) hw hA rfl
      | cons o rest =>
        simp only [stI] at h
        have hy' : (o :: rest).all (fineO P.globals.size) = true := hy
        simp only [List.all_cons, Bool.and_eq_true] at hy'
        split at h
        · rename_i A1 H1 hr
          simp only [Option.some.injEq, Prod.mk.injEq] at h
          obtain ⟨rfl, rfl, rfl, rfl⟩ := h
          exact opR_ok hE hg hr hy'.1 hw hA fun ι1 a1 w1 x1 r1 f1 d1 => hk (fun z hz => by
            rcases List.mem_cons.1 hz with rfl | hz
            · exact hy'.2
            · exact hl z hz) ι1 a1 w1 x1 r1 f1 d1
        · simp at h
    | code c =>
      cases c with
      | seq x y =>
        simp only [stI, Option.some.injEq, Prod.mk.injEq] at h
        obtain ⟨rfl, rfl, rfl, rfl⟩ := h
        have hy' : fineC P.globals.size (.seq x y) = true := hy
        simp only [fineC, Bool.and_eq_true] at hy'
        refine wp_seq (wp_mono (hk (fun z hz => by
          rcases List.mem_cons.1 hz with rfl | hz
          · exact hy'.1
          · rcases List.mem_cons.1 hz with rfl | hz
            · exact hy'.2
            · exact hl z hz) ι a w (Ext.refl _ _) hw hA rfl) fun e a w he => ?_)
        cases e <;> exact he
      | block id x =>
        simp only [stI, Option.some.injEq, Prod.mk.injEq] at h
        obtain ⟨rfl, rfl, rfl, rfl⟩ := h
        have hy' : fineC P.globals.size (.block id x) = true := hy
        simp only [fineC] at hy'
        exact wp_block (hk (fun z hz => by
          rcases List.mem_cons.1 hz with rfl | hz
          · exact hy'
          · rcases List.mem_cons.1 hz with rfl | hz
            · rfl
            · exact hl z hz) ι a w (Ext.refl _ _) hw hA rfl)
      | loop x =>
        simp only [stI, Option.some.injEq, Prod.mk.injEq] at h
        obtain ⟨rfl, rfl, rfl, rfl⟩ := h
        have hy' : fineC P.globals.size (.loop x) = true := hy
        simp only [fineC] at hy'
        exact loop_of (hk (fun z hz => by
          rcases List.mem_cons.1 hz with rfl | hz
          · exact hy'
          · rcases List.mem_cons.1 hz with rfl | hz
            · exact hy'
            · exact hl z hz) ι a w (Ext.refl _ _) hw hA rfl)
      | cond c x y =>
        have hy' : fineC P.globals.size (.cond c x y) = true := hy
        simp only [fineC, Bool.and_eq_true] at hy'
        simp only [stI] at h
        have hp : ∀ t, c = .tmp t → A.opn = false ∨ isP (A.get t) = false := by
          intro t ht
          subst ht
          right
          have e : opv A.get (.tmp t) = A.get t := rfl
          rw [e] at h
          cases hq : A.get t <;> rw [hq] at h <;> first | rfl | simp at h
        letI i3 : Orc P := noOrc P _
        letI i4 : Lps P := noLps P
        have hc := opv_rel hw hA hy'.1.1 hp
        revert hc h
        generalize opv A.get c = u
        generalize hu : a.eval c = u'
        intro h hc
        cases hc with
        | bool t =>
          simp only [Option.some.injEq, Prod.mk.injEq] at h
          obtain ⟨rfl, rfl, rfl, rfl⟩ := h
          have hk' := hk (fun z hz => by
            rcases List.mem_cons.1 hz with rfl | hz
            · cases t
              · exact hy'.2
              · exact hy'.1.2
            · exact hl z hz) ι a w (Ext.refl _ _) hw hA rfl
          exact wp_cond hu hk'
        | _ => simp at h
      | skip => exact leaf _ l hf h
      | region id ops d =>
        cases d with
        | true => exact leaf _ l hf h
        | false =>
          simp only [stI, Option.some.injEq, Prod.mk.injEq] at h
          obtain ⟨rfl, rfl, rfl, rfl⟩ := h
          have hy' : fineC P.globals.size (.region id ops false) = true := hy
          unfold fineC at hy'
          rw [Array.all_eq_true_iff_forall_mem] at hy'
          exact wp_region_list (hk (fun z hz => by
            rcases List.mem_cons.1 hz with rfl | hz
            · exact List.all_eq_true.2 fun o ho => hy' o (by simpa using ho)
            · exact hl z hz) ι a w (Ext.refl _ _) hw hA rfl)
      | rangeFunc f ps x y => exact leaf _ l hf h
      | exit id => exact leaf _ l hf h
      | scope x => exact leaf _ l hf h
      | label i => exact leaf _ l hf h
      | goto i => exact leaf _ l hf h
      | ret => exact leaf _ l hf h
      | refuse s => exact leaf _ l hf h
theorem itN_ok {ft : Nat → Option Func} (hE : @EnvOk noMarks P ft) {r : Runner} (hg : @Good (noSyms G) noMarks P r) {Q : Exit → Act → World → Prop} : ∀ (n : Nat) (l l' : List Itm) (A A' : Fr) (H H' : Heap) (e : AExit), (∀ x ∈ l, fineItm P.globals.size x = true) → itN P ft G r n l A H = some (l', e, A', H') →
    ∀ ι a w, @Rel (noSyms G) P ι H w → @FRel (noSyms G) ι A a.tmps →
    ((∀ x ∈ l', fineItm P.globals.size x = true) → ∀ ι1 a1 w1, Ext P ι w ι1 w1 → @Rel (noSyms G) P ι1 H' w1 → @FRel (noSyms G) ι1 A' a1.tmps → a1.defers = a.defers → IX P l' Q e.conv a1 w1) → IX P l Q .normal a w
  | 0, l, l', A, A', H, H', e, hf, h, ι, a, w, hw, hA, hk => by
    letI := noSyms G
    simp only [itN, Option.some.injEq, Prod.mk.injEq] at h
    obtain ⟨rfl, rfl, rfl, rfl⟩ := h
    exact hk hf ι a w (Ext.refl _ _) hw hA rfl
  | n + 1, [], l', A, A', H, H', e, hf, h, ι, a, w, hw, hA, hk => by
    letI := noSyms G
    simp only [itN, Option.some.injEq, Prod.mk.injEq] at h
    obtain ⟨rfl, rfl, rfl, rfl⟩ := h
    exact hk hf ι a w (Ext.refl _ _) hw hA rfl
  | n + 1, x :: l, l', A, A', H, H', e, hf, h, ι, a, w, hw, hA, hk => by
    letI := noSyms G
    simp only [itN] at h
    cases hs : stI P ft G r (x :: l) A H with
    | none => rw [hs] at h; simp at h
    | some q =>
      obtain ⟨l1, e1, A1, H1⟩ := q
      rw [hs] at h
      refine stI_ok hE hg hf hs hw hA fun hf1 ι1 a1 w1 x1 r1 f1 d1 => ?_
      cases e1 with
      | normal => exact itN_ok hE hg n l1 l' A1 A' H1 H' e hf1 h ι1 a1 w1 r1 f1 fun hf2 ι2 a2 w2 x2 r2 f2 d2 => hk hf2 ι2 a2 w2 (x1.trans x2) r2 f2 (d2.trans d1)
      | exit id =>
        simp only [Option.some.injEq, Prod.mk.injEq] at h
        obtain ⟨rfl, rfl, rfl, rfl⟩ := h
        exact hk hf1 ι1 a1 w1 x1 r1 f1 d1
      | ret =>
        simp only [Option.some.injEq, Prod.mk.injEq] at h
        obtain ⟨rfl, rfl, rfl, rfl⟩ := h
        exact hk hf1 ι1 a1 w1 x1 r1 f1 d1
theorem runQ_ok {ft : Nat → Option Func} (hE : @EnvOk noMarks P ft) {r : Runner} (hg : @Good (noSyms G) noMarks P r) {big : Nat} {w0 : World} {ι0 : Inj} {a0 : Act} : ∀ (ps : List (Nat × List Nat)) (l : List Itm) (A A' : Fr) (H H' : Heap) (e : AExit), (∀ x ∈ l, fineItm P.globals.size x = true) → runQ P ft G r big ps l A H = some (e, A', H') →
    ∀ ι a w, Ext P ι0 w0 ι w → a.defers = a0.defers → @Rel (noSyms G) P ι H w → @FRel (noSyms G) ι A a.tmps → IX P l (@PostC (noSyms G) P ι0 w0 a0 e A' H') .normal a w
  | [], l, A, A', H, H', e, hf, h, ι, a, w, hx, hd, hw, hA => by
    letI := noSyms G
    have h' : (match itN P ft G r big l A H with
      | some ([], e, A', H') => some (e, A', H')
      | _ => none) = some (e, A', H') := h
    cases hr : itN P ft G r big l A H with
    | none => rw [hr] at h'; simp at h'
    | some q =>
      obtain ⟨l1, e1, A1, H1⟩ := q
      rw [hr] at h'
      cases l1 with
      | cons => simp at h'
      | nil =>
        simp only [Option.some.injEq, Prod.mk.injEq] at h'
        obtain ⟨rfl, rfl, rfl⟩ := h'
        exact itN_ok hE hg big l [] A A1 H H1 e1 hf hr ι a w hw hA fun _ ι1 a1 w1 x1 r1 f1 d1 => ⟨ι1, rfl, hx.trans x1, r1, f1, d1.trans hd⟩
  | p :: ps, l, A, A', H, H', e, hf, h, ι, a, w, hx, hd, hw, hA => by
    letI := noSyms G
    have h' : (match itN P ft G r p.1 l A H with
      | some (l1, .normal, A1, H1) => runQ P ft G r big ps l1 A1 (H1.keep p.2)
      | _ => none) = some (e, A', H') := h
    cases hr : itN P ft G r p.1 l A H with
    | none => rw [hr] at h'; simp at h'
    | some q =>
      obtain ⟨l1, e1, A1, H1⟩ := q
      rw [hr] at h'
      cases e1 with
      | normal => exact itN_ok hE hg p.1 l l1 A A1 H H1 .normal hf hr ι a w hw hA fun hf1 ι1 a1 w1 x1 r1 f1 d1 => runQ_ok hE hg ps l1 A1 A' (H1.keep p.2) H' e hf1 h' ι1 a1 w1 (hx.trans x1) (d1.trans hd) (r1.keep p.2) f1
      | exit id => simp at h'
      | ret => simp at h'
noncomputable def itemR (P : Program) (ft : Nat → Option Func) (G : Nat → Option Obj) (big : Nat) (ps : List (Nat × List Nat)) (r : Runner) : Runner
  | .code c A, H => match runQ P ft G r big ps [.code c] A H with
    | some (e, A', H') => some (.exit e A', H')
    | none => none
  | .fn f a, H => r (.fn f a) H
  | .loop c A, H => r (.loop c A) H
theorem itemR_good {ft : Nat → Option Func} (hE : @EnvOk noMarks P ft) {r : Runner} (hg : @Good (noSyms G) noMarks P r) (big : Nat) (ps : List (Nat × List Nat)) : @Good (noSyms G) noMarks P (itemR P ft G big ps r) := by
  letI := noSyms G
  letI : Marks := noMarks
  refine ⟨hg.fn, fun c A H e A' H' h => ?_, hg.loop, fun c A H v H' h => ?_, hg.noValL⟩
  · have h' : (match runQ P ft G r big ps [.code c] A H with
      | some (e, A', H') => some (Out.exit e A', H')
      | none => none) = some (.exit e A', H') := h
    cases hr : runQ P ft G r big ps [.code c] A H with
    | none => rw [hr] at h'; simp at h'
    | some q =>
      obtain ⟨e1, A1, H1⟩ := q
      rw [hr] at h'
      simp only [Option.some.injEq, Prod.mk.injEq, Out.exit.injEq] at h'
      obtain ⟨⟨rfl, rfl⟩, rfl⟩ := h'
      intro c0 hann hf ι a w hw hA
      obtain rfl := ann_eq hann
      exact runQ_ok hE hg ps [.code c] A A1 H H1 e1 (fun x hx => by obtain rfl := List.mem_singleton.1 hx; exact hf) hr ι a w (Ext.refl _ _) rfl hw hA
  · have h' : (match runQ P ft G r big ps [.code c] A H with
      | some (e, A', H') => some (Out.exit e A', H')
      | none => none) = some (.val v, H') := h
    cases hr : runQ P ft G r big ps [.code c] A H with
    | none => rw [hr] at h'; simp at h'
    | some q =>
      obtain ⟨e1, A1, H1⟩ := q
      rw [hr] at h'
      simp at h'
end
noncomputable def bodyI (ft : Nat → Option Func) (f : FuncId) : List Itm := itmsAt ft f [(0, [])]
theorem step_items [Syms] {P : Program} [NoFloat P] [Marks] [Orc P] [Lps P] {ft : Nat → Option Func} {G : Nat → Option Obj} {big : Nat} {ps : List (Nat × List Nat)} {r : Runner} {draw : Array Oper → Fr → Heap → Option (Fr × Heap)} {f : FuncId} {args : Array Value} {H : Heap} {x : Out × Heap} (h : endL P ft f (runQ P ft G r big ps (bodyI ft f) (enterL ft f args) H) = some x) (hb : ((ft f).bind (·.body)).isSome = true) :
    stepRun P ft (itemR P ft G big ps r) draw (.fn f args) H = some x := by
  unfold endL bodyI enterL itmsAt at h
  simp only [stepRun]
  cases hf : ft f with
  | none => rw [hf] at h; simp at h
  | some fn =>
    rw [hf] at h hb
    cases hc : fn.body with
    | none => simp [hc] at hb
    | some c =>
      simp only [hc, List.map_cons, List.map_nil, codePt] at h ⊢
      rw [show itemR P ft G big ps r (.code c (Fr.enter fn args)) H = (match runQ P ft G r big ps [.code c] (Fr.enter fn args) H with
        | some (e, A', H') => some (Out.exit e A', H')
        | none => none) from rfl]
      cases hr : runQ P ft G r big ps [.code c] (Fr.enter fn args) H with
      | none => rw [hr] at h; simp [finL] at h
      | some q =>
        obtain ⟨e1, A1, H1⟩ := q
        rw [hr] at h
        cases e1 <;> exact h
variable {P : Program} {ft : Nat → Option Func}
theorem KnOk.items [NoFloat P] (hE : EnvOk P ft) {gs : Gs} {n big : Nat} {f : FuncId} {args : Array Value} {v : Value} (hx : Kn.ok ⟨f, args, v⟩ = true) (tb : List Kn) (htb : tb.all Kn.ok = true) {L : List Itm} {A0 : Fr} (hL0 : L = bodyI ft f) (hA0 : A0 = enterL ft f args)
    (ps : List (Nat × List Nat)) (hrun : ∀ G, outEq v (endL P ft f (runQ P ft G (run0 P ft (knT tb fun _ _ => none) G n) big ps L A0 (H0g P gs))) = true) (hb : ((ft f).bind (·.body)).isSome = true) {w : World} (hw : GOk P gs w)
    (hT : ∀ y ∈ tb, KnOk P w y) : KnOk P w ⟨f, args, v⟩ := by
  subst hL0 hA0
  intro w₁ hs hgl
  unfold Kn.ok at hx
  rw [Bool.and_eq_true] at hx
  have hw1 : GOk P gs w₁ := @GOk.of (noSyms fun _ => none) _ _ _ _ hw hs hgl
  have hr := hrun fun b => w₁.heap[b]?
  letI i1 := noSyms fun b => w₁.heap[b]?
  letI i2 : Marks := noMarks
  letI i3 : Orc P := noOrc P _
  letI i4 : Lps P := noLps P
  have hK : KOk P (knT tb fun _ _ => none) := @knT_ok P (fun b => w₁.heap[b]?) w (fun b hb => hgl b hb) _ (@noK (noSyms fun b => w₁.heap[b]?) P) tb htb hT
  have hL : LpsOk P := fun _ _ _ _ _ _ _ _ h => by simp at h
  have hg : Good P (runK P ft (knT tb fun _ _ => none) n) := runK_good hE hL hK n
  have hg2 : Good P (stepRun P ft (itemR P ft (fun b => w₁.heap[b]?) big ps (runK P ft (knT tb fun _ _ => none) n)) (drawRun2 P ft (itemR P ft (fun b => w₁.heap[b]?) big ps (runK P ft (knT tb fun _ _ => none) n)))) := Good.step hE hL (itemR_good hE hg big ps) (drawRun2_ok hE (itemR_good hE hg big ps))
  cases he : endL P ft f (runQ P ft (fun b => w₁.heap[b]?) (run0 P ft (knT tb fun _ _ => none) (fun b => w₁.heap[b]?) n) big ps (bodyI ft f) (enterL ft f args) (H0g P gs)) with
  | none => rw [he] at hr; simp [outEq] at hr
  | some q =>
    obtain ⟨out, H'⟩ := q
    rw [he] at hr
    cases out with
    | exit e A => simp [outEq] at hr
    | val u =>
      have hu : u = v := veq_ok hr
      subst hu
      refine Calls.mono (callR hg2 (args := args) (fun ι => plainAs_rel hx.1) (step_items he hb) w₁ hw1 ⟨fun _ _ => rfl, fun _ _ h => by simp at h⟩) fun e w' hh => ?_
      obtain ⟨ι', v', rfl, q1, x1⟩ := hh
      rw [plainA_eq hx.2 q1]
      exact ⟨rfl, x1⟩
end Go.Ev
namespace Go.Ev
open Go.RowKit
set_option linter.unusedSectionVars false
abbrev KnG := List (FuncId × List (List Value × Value))
def knGa : List (List Value × Value) → List Value → Option Value
  | [], _ => none
  | e :: r, x => cond (knT.veqAs x e.1) (some e.2) (knGa r x)
def knG : KnG → FuncId → Array Value → Option Value
  | [], _, _ => none
  | g :: r, f, args => cond (Nat.beq f g.1) (knGa g.2 args.toList.reverse) (knG r f args)
def flatG : KnG → List Kn
  | [] => []
  | g :: r => g.2.map (fun e => ⟨g.1, e.1.reverse.toArray, e.2⟩) ++ flatG r
theorem knGa_ok : ∀ {es : List (List Value × Value)} {x : List Value} {v : Value}, knGa es x = some v → ∃ e ∈ es, e.1 = x ∧ e.2 = v
  | [], _, _, h => by simp [knGa] at h
  | e :: r, x, v, h => by
    have h' : cond (knT.veqAs x e.1) (some e.2) (knGa r x) = some v := h
    cases hv : knT.veqAs x e.1 with
    | true =>
      rw [hv] at h'
      simp only [cond_true, Option.some.injEq] at h'
      exact ⟨e, List.mem_cons_self, (veqAs_ok hv).symm, h'⟩
    | false =>
      rw [hv] at h'
      obtain ⟨y, hy, q⟩ := knGa_ok (show knGa r x = some v from h')
      exact ⟨y, List.mem_cons_of_mem _ hy, q⟩
theorem knG_entry : ∀ {tb : KnG} {f : FuncId} {args : Array Value} {v : Value}, knG tb f args = some v → ∃ x ∈ flatG tb, x.f = f ∧ x.args = args ∧ x.v = v
  | [], _, _, _, h => by simp [knG] at h
  | g :: r, f, args, v, h => by
    have h' : cond (Nat.beq f g.1) (knGa g.2 args.toList.reverse) (knG r f args) = some v := h
    cases hb : Nat.beq f g.1 with
    | true =>
      rw [hb] at h'
      obtain ⟨e, he, q1, q2⟩ := knGa_ok (show knGa g.2 args.toList.reverse = some v from h')
      refine ⟨⟨g.1, e.1.reverse.toArray, e.2⟩, List.mem_append_left _ (List.mem_map.2 ⟨e, he, rfl⟩), (Nat.eq_of_beq_eq_true hb).symm, ?_, q2⟩
      show e.1.reverse.toArray = args
      rw [q1]
      simp
    | false =>
      rw [hb] at h'
      obtain ⟨x, hx, q⟩ := knG_entry (show knG r f args = some v from h')
      exact ⟨x, List.mem_append_right _ hx, q⟩
variable {P : Program} {ft : Nat → Option Func}
theorem knG_ok {G : Nat → Option Obj} {w : World} (hG : ∀ b, b < P.globals.size → G b = w.heap[b]?) (tb : KnG) (hp : (flatG tb).all Kn.ok = true) (hx : ∀ x ∈ flatG tb, KnOk P w x) : @KOk (noSyms G) P (knG tb) := by
  intro f args v h ι H args' w₁ hw ha
  letI := noSyms G
  obtain ⟨x, hm, rfl, rfl, rfl⟩ := knG_entry h
  rw [List.all_eq_true] at hp
  have hp1 := hp x hm
  unfold Kn.ok at hp1
  rw [Bool.and_eq_true] at hp1
  obtain rfl := @plainAs_eq (noSyms G) _ _ _ hp1.1 ha
  refine Calls.mono (hx x hm w₁ ?_ ?_) fun e w' ⟨h1, xq⟩ => ?_
  · have := @Rel.gsize (noSyms G) P ι H w₁ hw; have := @Rel.room (noSyms G) P ι H w₁ hw; omega
  · intro b hb
    rw [(@Rel.glb (noSyms G) P ι H w₁ hw).1 b hb]
    exact hG b hb
  · exact ⟨ι, x.v, h1, @Quiet.ext (noSyms G) P _ _ xq ι, @Quiet.rel (noSyms G) P _ _ xq ι H hw, @plainA_rel (noSyms G) ι _ hp1.2⟩
theorem KnOk.runG [NoFloat P] (hE : EnvOk P ft) {gs : Gs} {n : Nat} {x : Kn} (hx : x.ok = true) (tb : KnG) (htb : (flatG tb).all Kn.ok = true) (hrun : ∀ G, outEq x.v (run0 P ft (knG tb) G n (.fn x.f x.args) (H0g P gs)) = true) {w : World} (hw : GOk P gs w)
    (hT : ∀ y ∈ flatG tb, KnOk P w y) : KnOk P w x := by
  intro w₁ hs hg
  unfold Kn.ok at hx
  rw [Bool.and_eq_true] at hx
  exact closedV hE hx.1 hx.2 w₁ (@knG_ok P (fun b => w₁.heap[b]?) w (fun b hb => hg b hb) tb htb hT) hrun (@GOk.of (noSyms fun _ => none) _ _ _ _ hw hs hg)
theorem KnOk.itemsG [NoFloat P] (hE : EnvOk P ft) {gs : Gs} {n big : Nat} {f : FuncId} {args : Array Value} {v : Value} (hx : Kn.ok ⟨f, args, v⟩ = true) (tb : KnG) (htb : (flatG tb).all Kn.ok = true) {L : List Itm} {A0 : Fr} (hL0 : L = bodyI ft f) (hA0 : A0 = enterL ft f args)
    (ps : List (Nat × List Nat)) (hrun : ∀ G, outEq v (endL P ft f (runQ P ft G (run0 P ft (knG tb) G n) big ps L A0 (H0g P gs))) = true) (hb : ((ft f).bind (·.body)).isSome = true) {w : World} (hw : GOk P gs w)
    (hT : ∀ y ∈ flatG tb, KnOk P w y) : KnOk P w ⟨f, args, v⟩ := by
  subst hL0 hA0
  intro w₁ hs hgl
  unfold Kn.ok at hx
  rw [Bool.and_eq_true] at hx
  have hw1 : GOk P gs w₁ := @GOk.of (noSyms fun _ => none) _ _ _ _ hw hs hgl
  have hr := hrun fun b => w₁.heap[b]?
  letI i1 := noSyms fun b => w₁.heap[b]?
  letI i2 : Marks := noMarks
  letI i3 : Orc P := noOrc P _
  letI i4 : Lps P := noLps P
  have hK : KOk P (knG tb) := @knG_ok P (fun b => w₁.heap[b]?) w (fun b hb => hgl b hb) tb htb hT
  have hL : LpsOk P := fun _ _ _ _ _ _ _ _ h => by simp at h
  have hg : Good P (runK P ft (knG tb) n) := runK_good hE hL hK n
  have hg2 : Good P (stepRun P ft (itemR P ft (fun b => w₁.heap[b]?) big ps (runK P ft (knG tb) n)) (drawRun2 P ft (itemR P ft (fun b => w₁.heap[b]?) big ps (runK P ft (knG tb) n)))) := Good.step hE hL (itemR_good hE hg big ps) (drawRun2_ok hE (itemR_good hE hg big ps))
  cases he : endL P ft f (runQ P ft (fun b => w₁.heap[b]?) (run0 P ft (knG tb) (fun b => w₁.heap[b]?) n) big ps (bodyI ft f) (enterL ft f args) (H0g P gs)) with
  | none => rw [he] at hr; simp [outEq] at hr
  | some q =>
    obtain ⟨out, H'⟩ := q
    rw [he] at hr
    cases out with
    | exit e A => simp [outEq] at hr
    | val u =>
      have hu : u = v := veq_ok hr
      subst hu
      refine Calls.mono (callR hg2 (args := args) (fun ι => plainAs_rel hx.1) (step_items he hb) w₁ hw1 ⟨fun _ _ => rfl, fun _ _ h => by simp at h⟩) fun e w' hh => ?_
      obtain ⟨ι', v', rfl, q1, x1⟩ := hh
      rw [plainA_eq hx.2 q1]
      exact ⟨rfl, x1⟩
end Go.Ev
namespace Go.Proofs.YtgokpcaijabhoaaDoor
open Go.Ev Go.RowKit
set_option maxRecDepth 100000
abbrev val1 : Value := .agg #[.int .i64 1, .int .i64 2, .int .i64 0, .int .i64 0]
abbrev val4 : Value := .agg #[.int .i64 4, .int .i64 1, .int .i64 0, .int .i64 0]
abbrev val5 : Value := .agg #[.int .i64 1, .int .i64 1, .int .i64 0, .int .i64 0]
abbrev val7 : Value := .agg #[.int .i64 8, .int .i64 8, .int .i64 8, .int .i64 16, .int .i64 16, .int .i64 4, .int .i64 24, .int .i64 8, .int .i64 2, .int .i64 32, .int .i64 32, .int .i64 2]
abbrev val8 : Value := .agg #[.int .u8 0, .bool false, .int .i64 0, .int .u32 0]
abbrev val9 : Value := .agg #[.int .u8 2, .bool true, .int .i64 2, .int .u32 1]
abbrev val10 : Value := .agg #[.int .u8 0, .bool true, .int .i64 2, .int .u32 1]
abbrev val11 : Value := .agg #[.int .u8 1, .bool true, .int .i64 2, .int .u32 1]
abbrev val12 : Value := .agg #[.int .u8 3, .bool true, .int .i64 2, .int .u32 1]
abbrev val13 : Value := .agg #[.int .i64 3, .int .i64 1, .int .i64 2, .int .i64 0]
def kn0 : Kn := ⟨65, #[.int .i64 2], .int .i64 1⟩
def kn1 : Kn := ⟨86, #[.int .u64 17], val1⟩
def kn2 : Kn := ⟨39, #[.int .i64 0, .int .i64 1], .int .i64 0⟩
def kn3 : Kn := ⟨65, #[.int .i64 1], .int .i64 0⟩
def kn4 : Kn := ⟨86, #[.int .u64 12], val4⟩
def kn5 : Kn := ⟨86, #[.int .u64 9], val5⟩
def kn6 : Kn := ⟨39, #[.int .i64 1, .int .i64 1], .int .i64 1⟩
def kn7 : Kn := ⟨21, #[], val7⟩
def kn8 : Kn := ⟨8, #[.int .u64 0], val8⟩
def kn9 : Kn := ⟨8, #[.int .u64 4294968066], val9⟩
def kn10 : Kn := ⟨8, #[.int .u64 4294968064], val10⟩
def kn11 : Kn := ⟨8, #[.int .u64 4294968065], val11⟩
def kn12 : Kn := ⟨8, #[.int .u64 4294968067], val12⟩
def kn13 : Kn := ⟨86, #[.int .u64 16395], val13⟩
theorem kn0_run (t : TypeId) (G : Nat → Option Obj) : outEq kn0.v (run0 Tryd.prog (ftOf Tryd.prog) (fun _ _ => none) G 100000 (.fn kn0.f kn0.args) (H0g Tryd.prog (gsT t))) = true := by kernel_rfl
theorem kn0_ok {t : TypeId} {w : World} (hw : GOk Tryd.prog (gsT t) w) : KnOk Tryd.prog w kn0 := KnOk.run env (by kernel_rfl) (fun G => kn0_run t G) hw
theorem kn1_run (t : TypeId) (G : Nat → Option Obj) : outEq kn1.v (run0 Tryd.prog (ftOf Tryd.prog) (fun _ _ => none) G 100000 (.fn kn1.f kn1.args) (H0g Tryd.prog (gsT t))) = true := by kernel_rfl
theorem kn1_ok {t : TypeId} {w : World} (hw : GOk Tryd.prog (gsT t) w) : KnOk Tryd.prog w kn1 := KnOk.run env (by kernel_rfl) (fun G => kn1_run t G) hw
theorem kn2_run (t : TypeId) (G : Nat → Option Obj) : outEq kn2.v (run0 Tryd.prog (ftOf Tryd.prog) (fun _ _ => none) G 100000 (.fn kn2.f kn2.args) (H0g Tryd.prog (gsT t))) = true := by kernel_rfl
theorem kn2_ok {t : TypeId} {w : World} (hw : GOk Tryd.prog (gsT t) w) : KnOk Tryd.prog w kn2 := KnOk.run env (by kernel_rfl) (fun G => kn2_run t G) hw
theorem kn3_run (t : TypeId) (G : Nat → Option Obj) : outEq kn3.v (run0 Tryd.prog (ftOf Tryd.prog) (fun _ _ => none) G 100000 (.fn kn3.f kn3.args) (H0g Tryd.prog (gsT t))) = true := by kernel_rfl
theorem kn3_ok {t : TypeId} {w : World} (hw : GOk Tryd.prog (gsT t) w) : KnOk Tryd.prog w kn3 := KnOk.run env (by kernel_rfl) (fun G => kn3_run t G) hw
theorem kn4_run (t : TypeId) (G : Nat → Option Obj) : outEq kn4.v (run0 Tryd.prog (ftOf Tryd.prog) (fun _ _ => none) G 100000 (.fn kn4.f kn4.args) (H0g Tryd.prog (gsT t))) = true := by kernel_rfl
theorem kn4_ok {t : TypeId} {w : World} (hw : GOk Tryd.prog (gsT t) w) : KnOk Tryd.prog w kn4 := KnOk.run env (by kernel_rfl) (fun G => kn4_run t G) hw
theorem kn5_run (t : TypeId) (G : Nat → Option Obj) : outEq kn5.v (run0 Tryd.prog (ftOf Tryd.prog) (fun _ _ => none) G 100000 (.fn kn5.f kn5.args) (H0g Tryd.prog (gsT t))) = true := by kernel_rfl
theorem kn5_ok {t : TypeId} {w : World} (hw : GOk Tryd.prog (gsT t) w) : KnOk Tryd.prog w kn5 := KnOk.run env (by kernel_rfl) (fun G => kn5_run t G) hw
theorem kn6_run (t : TypeId) (G : Nat → Option Obj) : outEq kn6.v (run0 Tryd.prog (ftOf Tryd.prog) (fun _ _ => none) G 100000 (.fn kn6.f kn6.args) (H0g Tryd.prog (gsT t))) = true := by kernel_rfl
theorem kn6_ok {t : TypeId} {w : World} (hw : GOk Tryd.prog (gsT t) w) : KnOk Tryd.prog w kn6 := KnOk.run env (by kernel_rfl) (fun G => kn6_run t G) hw
theorem kn7_run (t : TypeId) (G : Nat → Option Obj) : outEq kn7.v (run0 Tryd.prog (ftOf Tryd.prog) (fun _ _ => none) G 100000 (.fn kn7.f kn7.args) (H0g Tryd.prog (gsT t))) = true := by kernel_rfl
theorem kn7_ok {t : TypeId} {w : World} (hw : GOk Tryd.prog (gsT t) w) : KnOk Tryd.prog w kn7 := KnOk.run env (by kernel_rfl) (fun G => kn7_run t G) hw
theorem kn8_run (t : TypeId) (G : Nat → Option Obj) : outEq kn8.v (run0 Tryd.prog (ftOf Tryd.prog) (fun _ _ => none) G 100000 (.fn kn8.f kn8.args) (H0g Tryd.prog (gsT t))) = true := by kernel_rfl
theorem kn8_ok {t : TypeId} {w : World} (hw : GOk Tryd.prog (gsT t) w) : KnOk Tryd.prog w kn8 := KnOk.run env (by kernel_rfl) (fun G => kn8_run t G) hw
theorem kn9_run (t : TypeId) (G : Nat → Option Obj) : outEq kn9.v (run0 Tryd.prog (ftOf Tryd.prog) (fun _ _ => none) G 100000 (.fn kn9.f kn9.args) (H0g Tryd.prog (gsT t))) = true := by kernel_rfl
theorem kn9_ok {t : TypeId} {w : World} (hw : GOk Tryd.prog (gsT t) w) : KnOk Tryd.prog w kn9 := KnOk.run env (by kernel_rfl) (fun G => kn9_run t G) hw
theorem kn10_run (t : TypeId) (G : Nat → Option Obj) : outEq kn10.v (run0 Tryd.prog (ftOf Tryd.prog) (fun _ _ => none) G 100000 (.fn kn10.f kn10.args) (H0g Tryd.prog (gsT t))) = true := by kernel_rfl
theorem kn10_ok {t : TypeId} {w : World} (hw : GOk Tryd.prog (gsT t) w) : KnOk Tryd.prog w kn10 := KnOk.run env (by kernel_rfl) (fun G => kn10_run t G) hw
theorem kn11_run (t : TypeId) (G : Nat → Option Obj) : outEq kn11.v (run0 Tryd.prog (ftOf Tryd.prog) (fun _ _ => none) G 100000 (.fn kn11.f kn11.args) (H0g Tryd.prog (gsT t))) = true := by kernel_rfl
theorem kn11_ok {t : TypeId} {w : World} (hw : GOk Tryd.prog (gsT t) w) : KnOk Tryd.prog w kn11 := KnOk.run env (by kernel_rfl) (fun G => kn11_run t G) hw
theorem kn12_run (t : TypeId) (G : Nat → Option Obj) : outEq kn12.v (run0 Tryd.prog (ftOf Tryd.prog) (fun _ _ => none) G 100000 (.fn kn12.f kn12.args) (H0g Tryd.prog (gsT t))) = true := by kernel_rfl
theorem kn12_ok {t : TypeId} {w : World} (hw : GOk Tryd.prog (gsT t) w) : KnOk Tryd.prog w kn12 := KnOk.run env (by kernel_rfl) (fun G => kn12_run t G) hw
theorem kn13_run (t : TypeId) (G : Nat → Option Obj) : outEq kn13.v (run0 Tryd.prog (ftOf Tryd.prog) (fun _ _ => none) G 100000 (.fn kn13.f kn13.args) (H0g Tryd.prog (gsT t))) = true := by kernel_rfl
theorem kn13_ok {t : TypeId} {w : World} (hw : GOk Tryd.prog (gsT t) w) : KnOk Tryd.prog w kn13 := KnOk.run env (by kernel_rfl) (fun G => kn13_run t G) hw
def kng : KnG := [(65, [([.int .i64 2], .int .i64 1), ([.int .i64 1], .int .i64 0)]), (86, [([.int .u64 17], val1), ([.int .u64 12], val4), ([.int .u64 9], val5), ([.int .u64 16395], val13)]), (39, [([.int .i64 1, .int .i64 0], .int .i64 0), ([.int .i64 1, .int .i64 1], .int .i64 1)]), (21, [([], val7)]), (8, [([.int .u64 0], val8), ([.int .u64 4294968066], val9), ([.int .u64 4294968064], val10), ([.int .u64 4294968065], val11), ([.int .u64 4294968067], val12)])]
def kns : List Kn := [kn0, kn3, kn1, kn4, kn5, kn13, kn2, kn6, kn7, kn8, kn9, kn10, kn11, kn12]
theorem kng_flat : flatG kng = kns := by kernel_rfl
theorem fcons {p : Kn → Prop} {x : Kn} {l : List Kn} (h : p x) (t : ∀ y ∈ l, p y) : ∀ y ∈ x :: l, p y := List.forall_mem_cons.2 ⟨h, t⟩
theorem kng_ok {t : TypeId} {w : World} (hw : GOk Tryd.prog (gsT t) w) : ∀ x ∈ flatG kng, KnOk Tryd.prog w x := by
  rw [kng_flat]
  unfold kns
  refine fcons (kn0_ok hw) ?_
  refine fcons (kn3_ok hw) ?_
  refine fcons (kn1_ok hw) ?_
  refine fcons (kn4_ok hw) ?_
  refine fcons (kn5_ok hw) ?_
  refine fcons (kn13_ok hw) ?_
  refine fcons (kn2_ok hw) ?_
  refine fcons (kn6_ok hw) ?_
  refine fcons (kn7_ok hw) ?_
  refine fcons (kn8_ok hw) ?_
  refine fcons (kn9_ok hw) ?_
  refine fcons (kn10_ok hw) ?_
  refine fcons (kn11_ok hw) ?_
  refine fcons (kn12_ok hw) ?_
  exact fun _ h => absurd h List.not_mem_nil
end Go.Proofs.YtgokpcaijabhoaaDoor
namespace Go.Ev
set_option linter.unusedSectionVars false
inductive BUp where
  | set (l : List (Nat × Value))
  | all (b : Blk)
noncomputable def Fr.upd (A : Fr) (l : List (Nat × Value)) : Fr := { A with m := l.foldl (fun m p => m.set p.1 (some p.2)) A.m }
noncomputable def bupd (b : Option Blk) : BUp → Option Blk
  | .all b' => some b'
  | .set l => match b with
    | some (.cells c) => some (.cells { c with m := l.foldl (fun m p => m.set p.1 (some p.2)) c.m })
    | b => b
noncomputable def Heap.upd (H : Heap) (next : Nat) (l : List (Nat × BUp)) (live : List Nat) : Heap := { base := H.base, next := next, m := keepM (l.foldl (fun m p => m.set p.1 (bupd (m.get p.1) p.2)) H.m) live .leaf, hole := H.hole }
end Go.Ev
namespace Go.Proofs.YtgokpcaijabhoaaDoor
open Go.Ev Go.RowKit
set_option maxRecDepth 100000
noncomputable def Vw_d0 : Value := (.tuple #[(.agg #[(.int .i64 2), (.int .i64 1), (.int .i64 0), (.int .i64 1), (.int .i64 2), (.int .i64 7), (.int .i64 16), (.int .i64 17), (.int .i64 21), (.int .i64 22), (.int .i64 24), (.int .i64 26), (.int .i64 28), (.int .i64 44), (.int .i64 60), (.int .i64 68), (.int .i64 72), (.int .i64 74), (.int .i64 75), (.int .i64 79), (.int .i64 96), (.int .i64 232)]), (.pointer (some ⟨88, 0, none⟩)), (.pointer (some ⟨90, 0, none⟩))])
noncomputable def Vw_d1 : T Value := (.node (some Vw_d0) (.node (some (.tuple #[(.int .i64 1), (.int .i64 8)])) .leaf .leaf) (.node (some (.bool true)) .leaf .leaf))
noncomputable def Vw_d2 : T Value := (.node (some (.pointer (some ⟨90, 0, none⟩))) (.node (some (.int .i64 1)) .leaf .leaf) (.node (some (.bool true)) .leaf .leaf))
noncomputable def Vw_d3 : Value := (.agg #[(.int .i64 2), (.int .i64 1), (.int .i64 0), (.int .i64 1), (.int .i64 2), (.int .i64 7), (.int .i64 16), (.int .i64 17), (.int .i64 21), (.int .i64 22), (.int .i64 24), (.int .i64 26), (.int .i64 28), (.int .i64 44), (.int .i64 60), (.int .i64 68), (.int .i64 72), (.int .i64 74), (.int .i64 75), (.int .i64 79), (.int .i64 96), (.int .i64 232)])
noncomputable def Vw_d4 : T Value := (.node (some (.int .i64 8)) (.node (some (.pointer (some ⟨88, 0, none⟩))) (.node (some Vw_d3) .leaf .leaf) (.node (some (.bool true)) .leaf .leaf)) (.node (some Vw_d3) (.node (some (.int .i64 1)) .leaf .leaf) (.node (some Vw_d3) .leaf .leaf)))
noncomputable def Vw_d5 : T Value := (.node (some (.iface 26 (.pointer (some ⟨90, 0, none⟩)))) (.node (some (.int .i64 8)) .leaf .leaf) (.node (some (.pointer (some ⟨90, 0, none⟩))) .leaf .leaf))
noncomputable def Vw_d6 : T Value := (.node (some (.int .i64 1)) (.node (some Vw_d3) (.node (some (.pointer (some ⟨90, 0, none⟩))) .leaf .leaf) (.node (some (.int .i64 8)) .leaf .leaf)) Vw_d5)
noncomputable def Vw_d7 : T Value := (.node (some (.pointer (some ⟨90, 0, none⟩))) (.node (some (.tuple #[(.int .i64 1), (.int .i64 8)])) .leaf .leaf) (.node (some (.bool true)) .leaf .leaf))
noncomputable def Vw_d8 : T Value := (.node (some Vw_d0) Vw_d7 (.node (some (.tuple #[(.int .i64 0), (.bool true)])) (.node (some (.bool true)) .leaf .leaf) .leaf))
noncomputable def Vw_d9 : T Value := (.node (some (.bool false)) (.node (some (.pointer (some ⟨134, 0, none⟩))) (.node (some (.pointer (some ⟨90, 0, none⟩))) Vw_d1 Vw_d2) Vw_d4) (.node (some (.pointer (some ⟨88, 0, none⟩))) Vw_d6 Vw_d8))
noncomputable def Vw_d10 : T Blk := (.node none .leaf (.node none .leaf (.node none (.node (some (.cells ⟨128, .leaf, (.int .u8 0), 5, false, 1, 0⟩)) .leaf .leaf) .leaf)))
noncomputable def Vw_d11 : T Value := (.node (some (.slice (some ⟨86, 0, none⟩) 232 232)) (.node (some (.slice (some ⟨87, 0, none⟩) 128 128)) .leaf .leaf) .leaf)
noncomputable def Vw_d12 : T Blk := (.node none .leaf (.node none .leaf (.node none (.node (some (.cells ⟨2, Vw_d11, (.tuple #[]), 116, false, 1, 0⟩)) .leaf .leaf) .leaf)))
noncomputable def Vw_d13 : T Value := (.node (some (.int .i64 17)) (.node (some (.int .i64 0)) (.node (some (.int .u64 0)) .leaf .leaf) (.node (some (.int .i64 0)) .leaf .leaf)) (.node (some (.int .u8 0)) (.node (some (.int .u64 0)) .leaf .leaf) (.node (some (.int .i64 0)) .leaf .leaf)))
noncomputable def Vw_d14 : T Value := (.node (some (.int .i64 0)) (.node (some (.int .i64 0)) (.node (some (.int .u64 0)) .leaf .leaf) (.node (some (.int .i64 0)) .leaf .leaf)) (.node (some (.int .u64 0)) (.node (some (.int .u64 0)) .leaf .leaf) (.node (some (.bool false)) .leaf .leaf)))
noncomputable def Vw_d15 : Blk := (.cells ⟨15, (.node (some (.pointer (some ⟨88, 0, none⟩))) Vw_d13 Vw_d14), (.tuple #[]), 88, false, 1, 0⟩)
noncomputable def Vw_d16 : T Value := (.node (some (.int .i64 1)) (.node (some (.int .i64 17)) (.node (some (.int .i64 68)) .leaf .leaf) .leaf) (.node (some (.int .i64 26)) (.node (some (.int .i64 79)) .leaf .leaf) .leaf))
noncomputable def Vw_d17 : T Value := (.node (some (.int .i64 7)) (.node (some (.int .i64 22)) (.node (some (.int .i64 74)) .leaf .leaf) .leaf) (.node (some (.int .i64 44)) (.node (some (.int .i64 232)) .leaf .leaf) .leaf))
noncomputable def Vw_d18 : T Value := (.node (some (.int .i64 2)) (.node (some (.int .i64 21)) (.node (some (.int .i64 72)) .leaf .leaf) .leaf) (.node (some (.int .i64 28)) (.node (some (.int .i64 96)) .leaf .leaf) .leaf))
noncomputable def Vw_d19 : T Value := (.node (some (.int .i64 16)) (.node (some (.int .i64 24)) (.node (some (.int .i64 75)) .leaf .leaf) .leaf) (.node (some (.int .i64 60)) .leaf .leaf))
noncomputable def Vw_d20 : Blk := (.cells ⟨22, (.node (some (.int .i64 2)) (.node (some (.int .i64 1)) Vw_d16 Vw_d17) (.node (some (.int .i64 0)) Vw_d18 Vw_d19)), (.tuple #[]), 24, false, 1, 0⟩)
noncomputable def Vw_d21 : T Value := (.node none (.node none (.node (some (.int .u64 0)) .leaf (.node (some (.int .u64 16395)) .leaf .leaf)) .leaf) (.node none (.node none .leaf (.node (some (.int .u64 4294968066)) .leaf .leaf)) .leaf))
noncomputable def Vw_d22 : T Value := (.node none (.node none (.node (some (.int .u64 0)) .leaf .leaf) .leaf) (.node none .leaf (.node none (.node (some (.int .u64 12)) .leaf .leaf) .leaf)))
noncomputable def Vw_d23 : Blk := (.cells ⟨232, (.node none Vw_d21 Vw_d22), (.int .u64 0), 39, false, 1, 0⟩)
noncomputable def Vw_d24 : T Blk := (.node none (.node none (.node none (.node (some Vw_d20) .leaf .leaf) .leaf) .leaf) (.node none (.node (some Vw_d23) .leaf .leaf) .leaf))
noncomputable def Vw_d25 : T Blk := (.node none (.node none .leaf (.node none .leaf (.node none (.node (some Vw_d15) .leaf .leaf) .leaf))) (.node none Vw_d24 .leaf))
noncomputable def Vw_A1 : Fr := { size := 82, m := Vw_d9, opn := false }
noncomputable def Vw_H1 (t : TypeId) : Heap := { base := 1, next := 355, m := (.node (some (.cells (mkCells tab t))) (.node none (.node none Vw_d10 .leaf) .leaf) (.node none (.node none Vw_d12 .leaf) Vw_d25)), hole := [] }
def Vw_p0 : Nat × List Nat := (45, [0, 86, 87, 88, 90, 134])
noncomputable def Vw_d26 : T Value := (.node (some (.tuple #[(.int .i64 1), (.int .i64 8)])) (.node (some (.bool true)) (.node (some (.bool true)) .leaf .leaf) .leaf) (.node (some (.bool true)) .leaf .leaf))
noncomputable def Vw_d27 : T Value := (.node (some (.iface 26 (.pointer (some ⟨90, 0, none⟩)))) (.node (some (.pointer (some ⟨90, 0, none⟩))) .leaf .leaf) .leaf)
noncomputable def Vw_d28 : T Value := (.node (some (.int .i64 1)) (.node (some (.bool true)) (.node (some (.bool false)) .leaf .leaf) .leaf) (.node (some (.iface 26 (.pointer (some ⟨90, 0, none⟩)))) .leaf .leaf))
noncomputable def Vw_d29 : T Value := (.node (some (.bool true)) (.node (some (.bool true)) .leaf .leaf) (.node (some (.iface 26 (.pointer (some ⟨90, 0, none⟩)))) .leaf .leaf))
noncomputable def Vw_d30 : T Value := (.node (some (.pointer (some ⟨90, 0, none⟩))) (.node (some Vw_d0) Vw_d26 (.node (some (.bool true)) Vw_d27 (.node (some (.bool true)) .leaf .leaf))) (.node (some (.pointer (some ⟨90, 0, none⟩))) Vw_d28 Vw_d29))
noncomputable def Vw_d31 : T Value := (.node (some (.pointer (some ⟨90, 0, none⟩))) (.node (some (.iface 26 (.pointer (some ⟨90, 0, none⟩)))) .leaf .leaf) .leaf)
noncomputable def Vw_d32 : T Value := (.node (some (.bool true)) (.node (some (.bool true)) (.node (some Vw_d3) .leaf .leaf) .leaf) (.node (some (.bool true)) .leaf .leaf))
noncomputable def Vw_d33 : T Value := (.node (some (.pointer (some ⟨88, 0, none⟩))) (.node (some Vw_d3) Vw_d31 (.node (some (.bool true)) .leaf .leaf)) Vw_d32)
noncomputable def Vw_d34 : T Value := (.node (some (.int .i64 1)) (.node (some (.bool true)) (.node (some (.bool true)) .leaf .leaf) .leaf) (.node (some (.slice (some ⟨587, 0, none⟩) 2 2)) .leaf .leaf))
noncomputable def Vw_d35 : T Value := (.node (some Vw_d3) (.node (some (.iface 26 (.pointer (some ⟨90, 0, none⟩)))) .leaf .leaf) (.node (some (.bool true)) .leaf .leaf))
noncomputable def Vw_d36 : T Value := (.node (some (.pointer (some ⟨134, 0, none⟩))) Vw_d30 (.node (some (.int .i64 8)) Vw_d33 (.node (some Vw_d3) Vw_d34 Vw_d35)))
noncomputable def Vw_d37 : T Value := (.node (some (.pointer (some ⟨90, 0, none⟩))) (.node (some (.bool true)) (.node (some (.pointer (some ⟨90, 0, none⟩))) .leaf .leaf) .leaf) (.node (some (.bool true)) .leaf .leaf))
noncomputable def Vw_d38 : T Value := (.node (some (.int .i64 8)) (.node (some Vw_d3) (.node (some (.iface 26 (.pointer (some ⟨90, 0, none⟩)))) .leaf .leaf) .leaf) (.node (some (.bool true)) .leaf .leaf))
noncomputable def Vw_d39 : T Value := (.node (some (.int .i64 8)) (.node (some (.bool true)) (.node (some (.bool true)) .leaf .leaf) .leaf) (.node (some Vw_d3) .leaf .leaf))
noncomputable def Vw_d40 : T Value := (.node (some (.pointer (some ⟨90, 0, none⟩))) (.node (some (.pointer (some ⟨90, 0, none⟩))) .leaf .leaf) (.node (some Vw_d3) .leaf .leaf))
noncomputable def Vw_d41 : T Value := (.node (some (.int .i64 1)) (.node (some Vw_d3) Vw_d37 Vw_d38) (.node (some (.iface 26 (.pointer (some ⟨90, 0, none⟩)))) Vw_d39 Vw_d40))
noncomputable def Vw_d42 : T Value := (.node (some (.tuple #[(.int .i64 1), (.int .i64 8)])) (.node (some Vw_d3) (.node (some Vw_d3) .leaf .leaf) .leaf) (.node (some (.pointer (some ⟨90, 0, none⟩))) .leaf .leaf))
noncomputable def Vw_d43 : T Value := (.node (some (.bool true)) (.node (some (.bool true)) .leaf .leaf) (.node (some (.pointer (some ⟨90, 0, none⟩))) .leaf .leaf))
noncomputable def Vw_d44 : T Value := (.node (some (.bool true)) (.node (some (.pointer (some ⟨90, 0, none⟩))) (.node (some (.bool true)) .leaf .leaf) .leaf) (.node (some (.slice (some ⟨603, 0, none⟩) 2 2)) .leaf .leaf))
noncomputable def Vw_d45 : T Value := (.node (some (.tuple #[(.int .i64 0), (.bool true)])) Vw_d44 (.node (some (.bool true)) (.node (some Vw_d3) .leaf .leaf) (.node (some (.bool true)) .leaf .leaf)))
noncomputable def Vw_d46 : T Value := (.node (some (.pointer (some ⟨88, 0, none⟩))) Vw_d41 (.node (some Vw_d0) (.node (some (.pointer (some ⟨90, 0, none⟩))) Vw_d42 Vw_d43) Vw_d45))
noncomputable def Vw_d47 : Blk := (.cells ⟨2, (.node (some (.int .i64 11)) (.node (some (.int .i64 8)) .leaf .leaf) .leaf), (.tuple #[]), 3, true, 1, 0⟩)
noncomputable def Vw_d48 : Blk := (.cells ⟨2, (.node (some (.int .i64 11)) (.node (some (.int .i64 8)) .leaf .leaf) .leaf), (.tuple #[]), 3, false, 1, 0⟩)
noncomputable def Vw_d49 : T Blk := (.node none (.node none (.node none .leaf (.node none (.node none (.node (some Vw_d47) .leaf .leaf) .leaf) .leaf)) .leaf) (.node none (.node none .leaf (.node none (.node none (.node (some Vw_d48) .leaf .leaf) .leaf) .leaf)) .leaf))
noncomputable def Vw_d50 : T Value := (.node (some (.int .i64 33)) (.node (some (.int .i64 0)) (.node (some (.int .u64 0)) .leaf .leaf) (.node (some (.int .i64 0)) .leaf .leaf)) (.node (some (.int .u8 0)) (.node (some (.int .u64 0)) .leaf .leaf) (.node (some (.int .i64 0)) .leaf .leaf)))
noncomputable def Vw_d51 : Blk := (.cells ⟨15, (.node (some (.pointer (some ⟨88, 0, none⟩))) Vw_d50 Vw_d14), (.tuple #[]), 88, false, 1, 0⟩)
noncomputable def Vw_d52 : T Value := (.node none (.node (some (.int .u64 0)) .leaf (.node (some (.int .u64 16395)) (.node (some (.int .u64 9)) .leaf .leaf) .leaf)) (.node none .leaf (.node (some (.int .u64 0)) .leaf .leaf)))
noncomputable def Vw_d53 : T Value := (.node none (.node (some (.int .u64 0)) .leaf .leaf) (.node none (.node none (.node (some (.int .u64 0)) .leaf .leaf) .leaf) .leaf))
noncomputable def Vw_d54 : T Value := (.node none (.node none Vw_d52 (.node none (.node none .leaf (.node (some (.int .u64 4294968065)) .leaf .leaf)) .leaf)) (.node none Vw_d53 (.node none .leaf (.node none (.node (some (.int .u64 12)) .leaf .leaf) .leaf))))
noncomputable def Vw_d55 : T Blk := (.node none (.node none (.node none (.node (some Vw_d20) .leaf .leaf) .leaf) .leaf) (.node none (.node (some (.cells ⟨232, Vw_d54, (.int .u64 0), 39, false, 1, 0⟩)) .leaf .leaf) .leaf))
noncomputable def Vw_d56 : T Blk := (.node none (.node none .leaf (.node none .leaf (.node none (.node (some Vw_d51) .leaf .leaf) .leaf))) (.node none Vw_d55 .leaf))
noncomputable def Vw_A2 : Fr := { size := 82, m := (.node (some (.bool false)) Vw_d36 Vw_d46), opn := false }
noncomputable def Vw_H2 (t : TypeId) : Heap := { base := 1, next := 677, m := (.node (some (.cells (mkCells tab t))) (.node none (.node none Vw_d10 (.node none .leaf Vw_d49)) .leaf) (.node none (.node none Vw_d12 .leaf) Vw_d56)), hole := [] }
def Vw_p1 : Nat × List Nat := (44, [0, 86, 87, 88, 90, 134, 587, 603])
noncomputable def Vw_L0 : List Itm := bodyI (ftOf Tryd.prog) 11
noncomputable def Vw_L1 : List Itm := itmsAt (ftOf Tryd.prog) 11 [(3, [1, 1, 1, 1, 0, 9]), (0, [1, 1, 1, 1, 1])]
noncomputable def Vw_L2 : List Itm := itmsAt (ftOf Tryd.prog) 11 [(3, [1, 1, 1, 1, 0, 53]), (0, [1, 1, 1, 1, 1])]
end Go.Proofs.YtgokpcaijabhoaaDoor
namespace Go.Proofs.YtgokpcaijabhoaaDoor
open Go.Ev Go.RowKit
set_option maxRecDepth 100000
theorem Vw_r0 (t : TypeId) (G : Nat → Option Obj) : pieceI Tryd.prog (ftOf Tryd.prog) G (run0 Tryd.prog (ftOf Tryd.prog) (knG kng) G 100000) Vw_p0.1 Vw_p0.2 Vw_L0 (enterL (ftOf Tryd.prog) 11 #[]) (H0g Tryd.prog (gsT t)) = some (Vw_L1, Vw_A1, Vw_H1 t) := by kernel_rfl
theorem Vw_r1 (t : TypeId) (G : Nat → Option Obj) : pieceI Tryd.prog (ftOf Tryd.prog) G (run0 Tryd.prog (ftOf Tryd.prog) (knG kng) G 100000) Vw_p1.1 Vw_p1.2 Vw_L1 Vw_A1 (Vw_H1 t) = some (Vw_L2, Vw_A2, Vw_H2 t) := by kernel_rfl
end Go.Proofs.YtgokpcaijabhoaaDoor
namespace Go.Proofs.YtgokpcaijabhoaaDoor
open Go.Ev Go.RowKit
set_option maxRecDepth 100000
theorem Vw_e (t : TypeId) (G : Nat → Option Obj) : outEq (.bool true) (endL Tryd.prog (ftOf Tryd.prog) 11 (runQ Tryd.prog (ftOf Tryd.prog) G (run0 Tryd.prog (ftOf Tryd.prog) (knG kng) G 100000) 100000 [] Vw_L2 Vw_A2 (Vw_H2 t))) = true := by kernel_rfl
end Go.Proofs.YtgokpcaijabhoaaDoor
namespace Go.Proofs.YtgokpcaijabhoaaDoor
open Go.Ev Go.RowKit
set_option maxRecDepth 100000
noncomputable def Vw_A0 : Fr := enterL (ftOf Tryd.prog) 11 #[]
def Vw_q2 : List (Nat × List Nat) := []
def Vw_q1 : List (Nat × List Nat) := Vw_p1 :: Vw_q2
def Vw_q0 : List (Nat × List Nat) := Vw_p0 :: Vw_q1
theorem Vw_all (t : TypeId) (G : Nat → Option Obj) : outEq (.bool true) (endL Tryd.prog (ftOf Tryd.prog) 11 (runQ Tryd.prog (ftOf Tryd.prog) G (run0 Tryd.prog (ftOf Tryd.prog) (knG kng) G 100000) 100000 Vw_q0 Vw_L0 Vw_A0 (H0g Tryd.prog (gsT t)))) = true := by
  have e0 : runQ Tryd.prog (ftOf Tryd.prog) G (run0 Tryd.prog (ftOf Tryd.prog) (knG kng) G 100000) 100000 Vw_q0 Vw_L0 Vw_A0 (H0g Tryd.prog (gsT t)) = runQ Tryd.prog (ftOf Tryd.prog) G (run0 Tryd.prog (ftOf Tryd.prog) (knG kng) G 100000) 100000 Vw_q1 Vw_L1 Vw_A1 (Vw_H1 t) := runQ_cons (Vw_r0 t G)
  have e1 : runQ Tryd.prog (ftOf Tryd.prog) G (run0 Tryd.prog (ftOf Tryd.prog) (knG kng) G 100000) 100000 Vw_q1 Vw_L1 Vw_A1 (Vw_H1 t) = runQ Tryd.prog (ftOf Tryd.prog) G (run0 Tryd.prog (ftOf Tryd.prog) (knG kng) G 100000) 100000 Vw_q2 Vw_L2 Vw_A2 (Vw_H2 t) := runQ_cons (Vw_r1 t G)
  rw [e0, e1]
  exact Vw_e t G
theorem Vw_ok {t : TypeId} {w : World} (hw : GOk Tryd.prog (gsT t) w) : KnOk Tryd.prog w ⟨11, #[], .bool true⟩ := KnOk.itemsG env (by kernel_rfl) kng (by kernel_rfl) rfl rfl Vw_q0 (fun G => Vw_all t G) (by kernel_rfl) hw (kng_ok hw)
end Go.Proofs.YtgokpcaijabhoaaDoor
