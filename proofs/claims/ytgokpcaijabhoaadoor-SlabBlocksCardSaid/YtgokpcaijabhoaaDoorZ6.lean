/- Texts of a proof, one behind the other. Conditions: those each says. -/
import Derived.Test.YtgokpcaijabhoaaDoorZ4
import Derived.Test.YtgokpcaijabhoaaDoorZ5
namespace Go.Ev
open Go.RowKit
set_option linter.unusedSectionVars false
def spine : Code → List Code
  | .seq a b => spine a ++ spine b
  | c => [c]
noncomputable def runL (r : Runner) : List Code → Fr → Heap → Option (AExit × Fr × Heap)
  | [], A, H => some (.normal, A, H)
  | c :: l, A, H => match r (.code c A) H with
    | some (.exit .normal A', H') => runL r l A' H'
    | some (.exit e A', H') => some (e, A', H')
    | _ => none
noncomputable def keepM (m : T Blk) : List Nat → T Blk → T Blk
  | [], t => t
  | n :: l, t => keepM m l (t.set n (m.get n))
noncomputable def Heap.keep (H : Heap) (live : List Nat) : Heap := { base := H.base, next := H.next, m := keepM H.m live .leaf, hole := H.hole }
theorem keepM_get (m : T Blk) : ∀ (l : List Nat) (t : T Blk) (n : Nat) (b : Blk), (keepM m l t).get n = some b → t.get n = some b ∨ m.get n = some b
  | [], t, n, b, h => .inl h
  | x :: l, t, n, b, h => by
    rcases keepM_get m l _ n b h with h | h
    · rw [T.get_set] at h
      split at h
      · rename_i e; subst e; exact .inr h
      · exact .inl h
    · exact .inr h
theorem Heap.keep_get {H : Heap} {live : List Nat} {n : Nat} {b : Blk} (h : (H.keep live).get n = some b) : H.get n = some b := by
  rcases keepM_get H.m live .leaf n b h with h | h
  · rw [T.get_leaf] at h; simp at h
  · exact h
noncomputable def runP (r : Runner) : List (Nat × List Nat) → List Code → Fr → Heap → Option (AExit × Fr × Heap)
  | [], l, A, H => runL r l A H
  | p :: ps, l, A, H => match runL r (l.take p.1) A H with
    | some (.normal, A1, H1) => runP r ps (l.drop p.1) A1 (H1.keep p.2)
    | x => x
theorem runP_step {r : Runner} {p : Nat × List Nat} {ps : List (Nat × List Nat)} {l : List Code} {A A1 : Fr} {H H1 : Heap} (h : (match runL r (l.take p.1) A H with
    | some (.normal, A1, H1) => some (A1, H1.keep p.2)
    | _ => none) = some (A1, H1)) : runP r (p :: ps) l A H = runP r ps (l.drop p.1) A1 H1 := by
  rw [show runP r (p :: ps) l A H = (match runL r (l.take p.1) A H with
    | some (.normal, A1, H1) => runP r ps (l.drop p.1) A1 (H1.keep p.2)
    | x => x) from rfl]
  cases hr : runL r (l.take p.1) A H with
  | none => rw [hr] at h; simp at h
  | some q =>
    obtain ⟨e, A2, H2⟩ := q
    rw [hr] at h
    cases e <;> simp at h
    obtain ⟨rfl, rfl⟩ := h
    rfl
noncomputable def piece (r : Runner) (n : Nat) (live : List Nat) (l : List Code) (A : Fr) (H : Heap) : Option (Fr × Heap) := match runL r (l.take n) A H with
    | some (.normal, A1, H1) => some (A1, H1.keep live)
    | _ => none
theorem runP_nil {r : Runner} {l : List Code} {A : Fr} {H : Heap} : runP r [] l A H = runL r l A H := rfl
theorem runP_cons {r : Runner} {p : Nat × List Nat} {ps : List (Nat × List Nat)} {l l' : List Code} {A A1 : Fr} {H H1 : Heap} (hl : l' = l.drop p.1) (h : piece r p.1 p.2 l A H = some (A1, H1)) : runP r (p :: ps) l A H = runP r ps l' A1 H1 := by
  rw [hl]
  exact runP_step h
def LOk (P : Program) : List Code → (Exit → Act → World → Prop) → Act → World → Prop
  | [], Q, a, w => Q .normal a w
  | c :: l, Q, a, w => c.wp P (Exit.then (LOk P l Q) Q) a w
theorem then_mono {K K' : Act → World → Prop} {Q Q' : Exit → Act → World → Prop} (hk : ∀ a w, K a w → K' a w) (hq : ∀ e a w, e ≠ .normal → Q e a w → Q' e a w) : ∀ e a w, Exit.then K Q e a w → Exit.then K' Q' e a w := by
  intro e a w h
  cases e with
  | normal => exact hk a w h
  | _ => exact hq _ a w (by simp) h
theorem LOk.mono {P : Program} {Q Q' : Exit → Act → World → Prop} (hq : ∀ e a w, Q e a w → Q' e a w) : ∀ (l : List Code) (a : Act) (w : World), LOk P l Q a w → LOk P l Q' a w
  | [], _, _, h => hq _ _ _ h
  | _ :: l, _, _, h => wp_mono h (then_mono (LOk.mono hq l) fun _ _ _ _ h => hq _ _ _ h)
theorem LOk.append {P : Program} {Q : Exit → Act → World → Prop} {m : List Code} : ∀ (l : List Code) (a : Act) (w : World), LOk P (l ++ m) Q a w → LOk P l (Exit.then (LOk P m Q) Q) a w
  | [], _, _, h => h
  | _ :: l, _, _, h => wp_mono h (then_mono (LOk.append l) fun e a w he h => by cases e <;> first | exact absurd rfl he | exact h)
theorem LOk.join {P : Program} {Q : Exit → Act → World → Prop} {m : List Code} : ∀ (l : List Code) (a : Act) (w : World), LOk P l (Exit.then (LOk P m Q) Q) a w → LOk P (l ++ m) Q a w
  | [], _, _, h => h
  | _ :: l, _, _, h => wp_mono h (then_mono (LOk.join l) fun e a w he h => by cases e <;> first | exact absurd rfl he | exact h)
theorem LOk.code {P : Program} : ∀ (c : Code) (Q : Exit → Act → World → Prop) (a : Act) (w : World), LOk P (spine c) Q a w → c.wp P Q a w := by
  intro c
  have one : ∀ (c : Code) (Q : Exit → Act → World → Prop) (a : Act) (w : World), LOk P [c] Q a w → c.wp P Q a w := fun c Q a w h => wp_mono h fun e a w h => by cases e <;> exact h
  induction c with
  | seq x y ihx ihy =>
    intro Q a w h
    exact wp_seq (ihx _ a w (wp_mono_l (LOk.append (spine x) a w h) ihy))
  | _ => exact one _
where
  wp_mono_l {P : Program} {y : Code} {l : List Code} {Q : Exit → Act → World → Prop} {a : Act} {w : World} (h : LOk P l (Exit.then (LOk P (spine y) Q) Q) a w) (ihy : ∀ Q a w, LOk P (spine y) Q a w → y.wp P Q a w) : LOk P l (Exit.then (fun a w => y.wp P Q a w) Q) a w :=
    LOk.mono (then_mono (fun a w h => ihy Q a w h) fun _ _ _ _ h => h) l a w h
theorem fine_spine {n : Nat} : ∀ (c : Code), fineC n c = true → ∀ x ∈ spine c, fineC n x = true := by
  intro c
  induction c with
  | seq x y ihx ihy =>
    intro h z hz
    simp only [fineC, Bool.and_eq_true] at h
    rcases List.mem_append.1 hz with hz | hz
    · exact ihx h.1 z hz
    · exact ihy h.2 z hz
  | _ => intro h z hz; obtain rfl := List.mem_singleton.1 hz; exact h
section
variable {P : Program} [NoFloat P] {G : Nat → Option Obj} {ι : Inj}
theorem Rel.keep [Syms] {H : Heap} {w : World} (h : Rel P ι H w) (live : List Nat) : Rel P ι (H.keep live) w :=
  ⟨h.glb, h.gsize, h.glob, h.over, h.next, h.room, h.fresh, h.hole, h.below, fun n b hn => h.live n b (Heap.keep_get hn), fun n m b c i j hn hm => h.inj n m b c i j (Heap.keep_get hn) (Heap.keep_get hm)⟩
theorem PostC.keep [Syms] {w : World} {a : Act} {e : AExit} {A' : Fr} {H' : Heap} (live : List Nat) {e' : Exit} {a' : Act} {w' : World} (h : PostC P ι w a e A' H' e' a' w') : PostC P ι w a e A' (H'.keep live) e' a' w' := by
  obtain ⟨ι1, h1, x1, r1, f1, d1⟩ := h
  exact ⟨ι1, h1, x1, r1.keep live, f1, d1⟩
theorem runL_ok {r : Runner} (hg : @Good (noSyms G) noMarks P r) : ∀ (l : List Code) (A : Fr) (H : Heap) (e : AExit) (A' : Fr) (H' : Heap), (∀ c ∈ l, fineC P.globals.size c = true) → runL r l A H = some (e, A', H') →
    ∀ ι a w, @Rel (noSyms G) P ι H w → @FRel (noSyms G) ι A a.tmps → LOk P l (@PostC (noSyms G) P ι w a e A' H') a w
  | [], A, H, e, A', H', _, h, ι, a, w, hw, hA => by
    letI := noSyms G
    have h' : some (AExit.normal, A, H) = some (e, A', H') := h
    simp only [Option.some.injEq, Prod.mk.injEq] at h'
    obtain ⟨rfl, rfl, rfl⟩ := h'
    exact ⟨ι, rfl, Ext.refl _ _, hw, hA, rfl⟩
  | c :: l, A, H, e, A', H', hf, h, ι, a, w, hw, hA => by
    letI := noSyms G
    letI : Marks := noMarks
    have h' : (match r (.code c A) H with
      | some (.exit .normal A', H') => runL r l A' H'
      | some (.exit e A', H') => some (e, A', H')
      | _ => none) = some (e, A', H') := h
    cases hr : r (.code c A) H with
    | none => rw [hr] at h'; simp at h'
    | some x =>
      obtain ⟨o, H1⟩ := x
      rw [hr] at h'
      cases o with
      | val v => simp at h'
      | exit e1 A1 =>
        have hc := hg.code _ _ _ _ _ _ hr c (.same c) (hf c List.mem_cons_self) ι a w hw hA
        refine wp_mono hc fun e' a' w' hpost => ?_
        obtain ⟨ι1, rfl, x1, r1, f1, d1⟩ := hpost
        cases e1 with
        | normal =>
          exact LOk.mono (fun _ _ _ hp => hp.trans x1 d1) l a' w' (runL_ok hg l A1 H1 e A' H' (fun c hc => hf c (List.mem_cons_of_mem _ hc)) h' ι1 a' w' r1 f1)
        | exit id =>
          simp only [Option.some.injEq, Prod.mk.injEq] at h'
          obtain ⟨rfl, rfl, rfl⟩ := h'
          exact ⟨ι1, rfl, x1, r1, f1, d1⟩
        | ret =>
          simp only [Option.some.injEq, Prod.mk.injEq] at h'
          obtain ⟨rfl, rfl, rfl⟩ := h'
          exact ⟨ι1, rfl, x1, r1, f1, d1⟩
theorem runP_ok {r : Runner} (hg : @Good (noSyms G) noMarks P r) : ∀ (ps : List (Nat × List Nat)) (l : List Code) (A : Fr) (H : Heap) (e : AExit) (A' : Fr) (H' : Heap), (∀ c ∈ l, fineC P.globals.size c = true) → runP r ps l A H = some (e, A', H') →
    ∀ ι a w, @Rel (noSyms G) P ι H w → @FRel (noSyms G) ι A a.tmps → LOk P l (@PostC (noSyms G) P ι w a e A' H') a w
  | [], l, A, H, e, A', H', hf, h, ι, a, w, hw, hA => runL_ok hg l A H e A' H' hf h ι a w hw hA
  | p :: ps, l, A, H, e, A', H', hf, h, ι, a, w, hw, hA => by
    letI := noSyms G
    letI : Marks := noMarks
    have h' : (match runL r (l.take p.1) A H with
      | some (.normal, A1, H1) => runP r ps (l.drop p.1) A1 (H1.keep p.2)
      | x => x) = some (e, A', H') := h
    rw [← List.take_append_drop p.1 l]
    refine LOk.join _ _ _ ?_
    cases hr : runL r (l.take p.1) A H with
    | none => rw [hr] at h'; simp at h'
    | some q =>
      obtain ⟨e1, A1, H1⟩ := q
      rw [hr] at h'
      have h1 := runL_ok hg (l.take p.1) A H e1 A1 H1 (fun c hc => hf c (List.mem_of_mem_take hc)) hr ι a w hw hA
      refine LOk.mono (fun e' a' w' hpost => ?_) _ _ _ h1
      obtain ⟨ι1, rfl, x1, r1, f1, d1⟩ := hpost
      cases e1 with
      | normal =>
        exact LOk.mono (fun _ _ _ hp => hp.trans x1 d1) _ a' w' (runP_ok hg ps (l.drop p.1) A1 (H1.keep p.2) e A' H' (fun c hc => hf c (List.mem_of_mem_drop hc)) h' ι1 a' w' (r1.keep p.2) f1)
      | exit id =>
        simp only [Option.some.injEq, Prod.mk.injEq] at h'
        obtain ⟨rfl, rfl, rfl⟩ := h'
        exact ⟨ι1, rfl, x1, r1, f1, d1⟩
      | ret =>
        simp only [Option.some.injEq, Prod.mk.injEq] at h'
        obtain ⟨rfl, rfl, rfl⟩ := h'
        exact ⟨ι1, rfl, x1, r1, f1, d1⟩
noncomputable def spineR (ps : List (Nat × List Nat)) (r : Runner) : Runner
  | .code c A, H => match runP r ps (spine c) A H with
    | some (e, A', H') => some (.exit e A', H')
    | none => none
  | .fn f a, H => r (.fn f a) H
  | .loop c A, H => r (.loop c A) H
theorem ann_eq {c c0 : Code} (h : @Ann noMarks c c0) : c = c0 := by
  letI : Marks := noMarks
  induction h with
  | same => rfl
  | mark hn => simp [Marks.code] at hn
  | seq _ _ h1 h2 => rw [h1, h2]
  | cond _ _ h1 h2 => rw [h1, h2]
  | block _ h1 => rw [h1]
  | loop _ h1 => rw [h1]
  | scope _ h1 => rw [h1]
theorem spineR_good {r : Runner} (hg : @Good (noSyms G) noMarks P r) (ps : List (Nat × List Nat)) : @Good (noSyms G) noMarks P (spineR ps r) := by
  letI := noSyms G
  letI : Marks := noMarks
  refine ⟨hg.fn, fun c A H e A' H' h => ?_, hg.loop, fun c A H v H' h => ?_, hg.noValL⟩
  · have h' : (match runP r ps (spine c) A H with
      | some (e, A', H') => some (Out.exit e A', H')
      | none => none) = some (.exit e A', H') := h
    cases hr : runP r ps (spine c) A H with
    | none => rw [hr] at h'; simp at h'
    | some q =>
      obtain ⟨e1, A1, H1⟩ := q
      rw [hr] at h'
      simp only [Option.some.injEq, Prod.mk.injEq, Out.exit.injEq] at h'
      obtain ⟨⟨rfl, rfl⟩, rfl⟩ := h'
      intro c0 hann hf ι a w hw hA
      obtain rfl := ann_eq hann
      exact LOk.code _ _ _ _ (runP_ok hg ps (spine c) A H _ _ _ (fine_spine c hf) hr ι a w hw hA)
  · have h' : (match runP r ps (spine c) A H with
      | some (e, A', H') => some (Out.exit e A', H')
      | none => none) = some (.val v, H') := h
    cases hr : runP r ps (spine c) A H with
    | none => rw [hr] at h'; simp at h'
    | some q =>
      obtain ⟨e1, A1, H1⟩ := q
      rw [hr] at h'
      simp at h'
end
noncomputable def finL (P : Program) (fn : Func) : Option (AExit × Fr × Heap) → Option (Out × Heap)
  | some (.normal, A, H') | some (.ret, A, H') => cond (resOk fn A) (match arun P (resA fn A.get) H' with
    | some (vs, H'') => some (.val (if h : vs.size = 1 then vs[0] else .tuple vs), H'')
    | none => none) none
  | _ => none
noncomputable def bodyS (ft : Nat → Option Func) (f : FuncId) : List Code := match ft f with
  | some fn => match fn.body with
    | some c => spine c
    | none => []
  | none => []
noncomputable def enterL (ft : Nat → Option Func) (f : FuncId) (args : Array Value) : Fr := match ft f with
  | some fn => Fr.enter fn args
  | none => { size := 0, m := .leaf }
noncomputable def endL (P : Program) (ft : Nat → Option Func) (f : FuncId) (x : Option (AExit × Fr × Heap)) : Option (Out × Heap) := match ft f with
  | some fn => finL P fn x
  | none => none
theorem step_body [Syms] {P : Program} [NoFloat P] [Marks] [Orc P] [Lps P] {ft : Nat → Option Func} {ps : List (Nat × List Nat)} {r : Runner} {draw : Array Oper → Fr → Heap → Option (Fr × Heap)} {f : FuncId} {args : Array Value} {H : Heap} {x : Out × Heap} (h : endL P ft f (runP r ps (bodyS ft f) (enterL ft f args) H) = some x) (hb : ((ft f).bind (·.body)).isSome = true) :
    stepRun P ft (spineR ps r) draw (.fn f args) H = some x := by
  unfold endL bodyS enterL at h
  simp only [stepRun]
  cases hf : ft f with
  | none => rw [hf] at h; simp at h
  | some fn =>
    rw [hf] at h hb
    cases hc : fn.body with
    | none => simp [hc] at hb
    | some c =>
      simp only [hc] at h ⊢
      rw [show spineR ps r (.code c (Fr.enter fn args)) H = (match runP r ps (spine c) (Fr.enter fn args) H with
        | some (e, A', H') => some (Out.exit e A', H')
        | none => none) from rfl]
      cases hr : runP r ps (spine c) (Fr.enter fn args) H with
      | none => rw [hr] at h; simp [finL] at h
      | some q =>
        obtain ⟨e1, A1, H1⟩ := q
        rw [hr] at h
        cases e1 <;> exact h
theorem callR [Syms] {P : Program} [NoFloat P] [Marks] [Orc P] [Lps P] {r : Runner} (hg : Good P r) {gs : Gs} {f : FuncId} {args args' : Array Value} {v : Value} {H' : Heap} (hargs : ∀ ι, ARel ι args args')
    (hrun : r (.fn f args) (H0g P gs) = some (.val v, H')) (w : World) (hw : GOk P gs w) (hgl : (∀ b, b < P.globals.size → w.heap[b]? = Syms.glob b) ∧ ∀ b o, Syms.inp b = some o → w.heap[b]? = some o) : Calls P f args' w fun e w' => ∃ ι' v', e = .returned v' ∧ VRel ι' v v' ∧ Quiet w w' := by
  refine Calls.mono (hg.fn f args (H0g P gs) _ H' hrun (ι0g P gs) args' w (rel0g hw hgl) (hargs _)) fun e w' he => ?_
  obtain ⟨ι', v', rfl, x1, r1, q1⟩ := he
  exact ⟨ι', v', rfl, q1, x1.quiet⟩
end Go.Ev
namespace Go.Ev
variable {P : Program} {ft : Nat → Option Func}
theorem KnOk.pieces [NoFloat P] (hE : EnvOk P ft) {gs : Gs} {n : Nat} {f : FuncId} {args : Array Value} {v : Value} (hx : Kn.ok ⟨f, args, v⟩ = true) (tb : List Kn) (htb : tb.all Kn.ok = true) {L : List Code} {A0 : Fr} (hL0 : L = bodyS ft f) (hA0 : A0 = enterL ft f args)
    (ps : List (Nat × List Nat)) (hrun : ∀ G, outEq v (endL P ft f (runP (run0 P ft (knT tb fun _ _ => none) G n) ps L A0 (H0g P gs))) = true) (hb : ((ft f).bind (·.body)).isSome = true) {w : World} (hw : GOk P gs w)
    (hT : ∀ y ∈ tb, KnOk P w y) : KnOk P w ⟨f, args, v⟩ := by
  subst hL0 hA0
  intro w₁ hs hgl
  unfold Kn.ok at hx
  rw [Bool.and_eq_true] at hx
  have hw1 : GOk P gs w₁ := @GOk.of (noSyms fun _ => none) _ _ _ _ hw hs hgl
  have hr := hrun fun b => w₁.heap[b]?
  letI i1 := noSyms fun b => w₁.heap[b]?
  letI i2 : Marks := noMarks
  letI i3 : Orc P := noOrc P _
  letI i4 : Lps P := noLps P
  have hK : KOk P (knT tb fun _ _ => none) := @knT_ok P (fun b => w₁.heap[b]?) w (fun b hb => hgl b hb) _ (@noK (noSyms fun b => w₁.heap[b]?) P) tb htb hT
  have hL : LpsOk P := fun _ _ _ _ _ _ _ _ h => by simp at h
  have hg : Good P (runK P ft (knT tb fun _ _ => none) n) := runK_good hE hL hK n
  have hg2 : Good P (stepRun P ft (spineR ps (runK P ft (knT tb fun _ _ => none) n)) (drawRun2 P ft (spineR ps (runK P ft (knT tb fun _ _ => none) n)))) := Good.step hE hL (spineR_good hg ps) (drawRun2_ok hE (spineR_good hg ps))
  cases he : endL P ft f (runP (run0 P ft (knT tb fun _ _ => none) (fun b => w₁.heap[b]?) n) ps (bodyS ft f) (enterL ft f args) (H0g P gs)) with
  | none => rw [he] at hr; simp [outEq] at hr
  | some q =>
    obtain ⟨out, H'⟩ := q
    rw [he] at hr
    cases out with
    | exit e A => simp [outEq] at hr
    | val u =>
      have hu : u = v := veq_ok hr
      subst hu
      refine Calls.mono (callR hg2 (args := args) (fun ι => plainAs_rel hx.1) (step_body he hb) w₁ hw1 ⟨fun _ _ => rfl, fun _ _ h => by simp at h⟩) fun e w' hh => ?_
      obtain ⟨ι', v', rfl, q1, x1⟩ := hh
      rw [plainA_eq hx.2 q1]
      exact ⟨rfl, x1⟩
end Go.Ev
namespace Go.Ev
open Go.RowKit
set_option linter.unusedSectionVars false
inductive Itm where
  | code (c : Code)
  | inLoop (c : Code)
  | inBlock (id : Nat)
  | ops (os : Array Oper) (l : List Oper)
noncomputable def unwI : List Itm → AExit → List Itm × AExit
  | [], e => ([], e)
  | .inBlock id :: l, .exit id' => cond (Nat.beq id' id) (l, .normal) (unwI l (.exit id'))
  | .code _ :: l, e => unwI l e
  | .inLoop _ :: l, e => unwI l e
  | .inBlock _ :: l, e => unwI l e
  | .ops .. :: l, e => unwI l e
noncomputable def opR (P : Program) (ft : Nat → Option Func) (G : Nat → Option Obj) (r : Runner) (os : Array Oper) (l : List Oper) (A : Fr) (H : Heap) : Option (Fr × Heap) :=
  letI := noSyms G
  letI := noOrc P G
  runOps P ft r os l A H
noncomputable def stI (P : Program) (ft : Nat → Option Func) (G : Nat → Option Obj) (r : Runner) : List Itm → Fr → Heap → Option (List Itm × AExit × Fr × Heap)
  | [], _, _ => none
  | .inBlock _ :: l, A, H => some (l, .normal, A, H)
  | .inLoop c :: l, A, H => some (.code c :: .inLoop c :: l, .normal, A, H)
  | .code (.seq a b) :: l, A, H => some (.code a :: .code b :: l, .normal, A, H)
  | .code (.block id c) :: l, A, H => some (.code c :: .inBlock id :: l, .normal, A, H)
  | .code (.loop c) :: l, A, H => some (.code c :: .inLoop c :: l, .normal, A, H)
  | .code (.cond x a b) :: l, A, H => match opv A.get x with
    | .bool t => some (.code (if t then a else b) :: l, .normal, A, H)
    | _ => none
  | .code (.region _ os false) :: l, A, H => some (.ops os os.toList :: l, .normal, A, H)
  | .ops _ [] :: l, A, H => some (l, .normal, A, H)
  | .ops os (o :: rest) :: l, A, H => match opR P ft G r os [o] A H with
    | some (A', H') => some (.ops os rest :: l, .normal, A', H')
    | none => none
  | .code c :: l, A, H => match r (.code c A) H with
    | some (.exit .normal A', H') => some (l, .normal, A', H')
    | some (.exit e A', H') => some ((unwI l e).1, (unwI l e).2, A', H')
    | _ => none
noncomputable def itN (P : Program) (ft : Nat → Option Func) (G : Nat → Option Obj) (r : Runner) : Nat → List Itm → Fr → Heap → Option (List Itm × AExit × Fr × Heap)
  | 0, l, A, H => some (l, .normal, A, H)
  | n + 1, l, A, H => match l with
    | [] => some ([], .normal, A, H)
    | x :: l => match stI P ft G r (x :: l) A H with
      | some (l', .normal, A', H') => itN P ft G r n l' A' H'
      | y => y
noncomputable def runQ (P : Program) (ft : Nat → Option Func) (G : Nat → Option Obj) (r : Runner) (big : Nat) : List (Nat × List Nat) → List Itm → Fr → Heap → Option (AExit × Fr × Heap)
  | [], l, A, H => match itN P ft G r big l A H with
    | some ([], e, A', H') => some (e, A', H')
    | _ => none
  | p :: ps, l, A, H => match itN P ft G r p.1 l A H with
    | some (l1, .normal, A1, H1) => runQ P ft G r big ps l1 A1 (H1.keep p.2)
    | _ => none
noncomputable def pieceI (P : Program) (ft : Nat → Option Func) (G : Nat → Option Obj) (r : Runner) (n : Nat) (live : List Nat) (l : List Itm) (A : Fr) (H : Heap) : Option (List Itm × Fr × Heap) := match itN P ft G r n l A H with
    | some (l1, .normal, A1, H1) => some (l1, A1, H1.keep live)
    | _ => none
theorem runQ_cons {P : Program} {ft : Nat → Option Func} {G : Nat → Option Obj} {r : Runner} {big : Nat} {p : Nat × List Nat} {ps : List (Nat × List Nat)} {l l1 : List Itm} {A A1 : Fr} {H H1 : Heap} (h : pieceI P ft G r p.1 p.2 l A H = some (l1, A1, H1)) : runQ P ft G r big (p :: ps) l A H = runQ P ft G r big ps l1 A1 H1 := by
  rw [show runQ P ft G r big (p :: ps) l A H = (match itN P ft G r p.1 l A H with
    | some (l1, .normal, A1, H1) => runQ P ft G r big ps l1 A1 (H1.keep p.2)
    | _ => none) from rfl]
  unfold pieceI at h
  cases hr : itN P ft G r p.1 l A H with
  | none => rw [hr] at h; simp at h
  | some q =>
    obtain ⟨l2, e, A2, H2⟩ := q
    rw [hr] at h
    cases e <;> simp at h
    obtain ⟨rfl, rfl, rfl⟩ := h
    rfl
def codePt : Code → List Nat → Code
  | c, [] => c
  | .seq a _, 0 :: p => codePt a p
  | .seq _ b, _ :: p => codePt b p
  | .cond _ a _, 0 :: p => codePt a p
  | .cond _ _ b, _ :: p => codePt b p
  | .block _ c, _ :: p => codePt c p
  | .loop c, _ :: p => codePt c p
  | c, _ => c
def itmsAt (ft : Nat → Option Func) (f : FuncId) (l : List (Nat × List Nat)) : List Itm := match ft f with
  | some fn => match fn.body with
    | some c => l.map fun x => match x.1 with
      | 0 => .code (codePt c x.2)
      | 1 => .inLoop (codePt c x.2)
      | 3 => (match codePt c x.2.dropLast with
        | .region _ os _ => .ops os (os.toList.drop (x.2.getLastD 0))
        | _ => .inBlock 0)
      | _ => .inBlock (x.2.headD 0)
    | none => []
  | none => []
def LWp (P : Program) (c : Code) (Q : Exit → Act → World → Prop) (a : Act) (w : World) : Prop :=
  ∀ (b : Frame) (k : List Item) (cs : List Frame), ∃ e a' w', Q e a' w' ∧ Arrives P (lone (b.at a (.inLoop c :: k)) cs w) b k cs e a' w'
theorem loop_pass {P : Program} {c : Code} {Q : Exit → Act → World → Prop} {a : Act} {w : World} (h : c.wp P (Exit.then (LWp P c Q) Q) a w) (b : Frame) (k : List Item) (cs : List Frame) :
    ∃ e a' w', Q e a' w' ∧ Arrives P (lone (b.at a (.code c :: .inLoop c :: k)) cs w) b k cs e a' w' := by
  obtain ⟨e, a₁, w₁, hq, harr⟩ := h b (.inLoop c :: k) cs
  cases e with
  | normal =>
    obtain ⟨e₂, a₂, w₂, hq₂, harr₂⟩ := hq b k cs
    exact ⟨e₂, a₂, w₂, hq₂, .of_steps harr harr₂⟩
  | exit id => exact ⟨_, a₁, w₁, hq, .pass (x := .inLoop c) rfl (fun _ _ => .inl (by simp)) harr⟩
  | goto l => exact ⟨_, a₁, w₁, hq, .pass (x := .inLoop c) rfl (fun _ _ => .inl (by simp)) harr⟩
  | ret => exact ⟨_, a₁, w₁, hq, .pass (x := .inLoop c) rfl (fun _ _ => .inl (by simp)) harr⟩
  | panic ch => exact ⟨_, a₁, w₁, hq, .pass (x := .inLoop c) rfl (fun _ _ => .inl (by simp)) harr⟩
  | outgrown => exact ⟨_, a₁, w₁, hq, .pass (x := .inLoop c) rfl (fun _ _ => .inl (by simp)) harr⟩
theorem LWp.of {P : Program} {c : Code} {Q : Exit → Act → World → Prop} {a : Act} {w : World} (h : c.wp P (Exit.then (LWp P c Q) Q) a w) : LWp P c Q a w := by
  intro b k cs
  obtain ⟨e, a', w', hq, harr⟩ := loop_pass h b k cs
  exact ⟨e, a', w', hq, .of_steps (.one step_inLoop) harr⟩
theorem loop_of {P : Program} {c : Code} {Q : Exit → Act → World → Prop} {a : Act} {w : World} (h : c.wp P (Exit.then (LWp P c Q) Q) a w) : (Code.loop c).wp P Q a w := by
  intro b k cs
  obtain ⟨e, a', w', hq, harr⟩ := loop_pass h b k cs
  exact ⟨e, a', w', hq, .of_steps (.one step_loop) harr⟩
theorem LWp.mono {P : Program} {c : Code} {Q Q' : Exit → Act → World → Prop} {a : Act} {w : World} (h : LWp P c Q a w) (hq : ∀ e a w, Q e a w → Q' e a w) : LWp P c Q' a w :=
  fun b k cs => let ⟨e, a', w', q, r⟩ := h b k cs; ⟨e, a', w', hq _ _ _ q, r⟩
def IX (P : Program) : List Itm → (Exit → Act → World → Prop) → Exit → Act → World → Prop
  | [], Q => Q
  | .code c :: l, Q => Exit.then (c.wp P (IX P l Q)) (IX P l Q)
  | .inLoop c :: l, Q => Exit.then (LWp P c (IX P l Q)) (IX P l Q)
  | .inBlock id :: l, Q => Exit.inBlock id (IX P l Q)
  | .ops os ol :: l, Q => Exit.then (wpList P os (IX P l Q) ol) (IX P l Q)
theorem IX.unw {P : Program} {Q : Exit → Act → World → Prop} {a : Act} {w : World} : ∀ (l : List Itm) (e : AExit), e ≠ .normal → IX P (unwI l e).1 Q (unwI l e).2.conv a w → IX P l Q e.conv a w
  | [], _, _, h => h
  | .code c :: l, e, he, h => by
    have h1 : IX P (unwI l e).1 Q (unwI l e).2.conv a w := by cases e <;> exact h
    have := IX.unw l e he h1
    cases e with
    | normal => exact absurd rfl he
    | exit id => exact this
    | ret => exact this
  | .inLoop c :: l, e, he, h => by
    have h1 : IX P (unwI l e).1 Q (unwI l e).2.conv a w := by cases e <;> exact h
    have := IX.unw l e he h1
    cases e with
    | normal => exact absurd rfl he
    | exit id => exact this
    | ret => exact this
  | .ops os ol :: l, e, he, h => by
    have h1 : IX P (unwI l e).1 Q (unwI l e).2.conv a w := by cases e <;> exact h
    have := IX.unw l e he h1
    cases e with
    | normal => exact absurd rfl he
    | exit id => exact this
    | ret => exact this
  | .inBlock id :: l, e, he, h => by
    cases e with
    | normal => exact absurd rfl he
    | ret => exact IX.unw l .ret he h
    | exit id' =>
      have h' : IX P (cond (Nat.beq id' id) (l, AExit.normal) (unwI l (.exit id'))).1 Q (cond (Nat.beq id' id) (l, AExit.normal) (unwI l (.exit id'))).2.conv a w := h
      show (if id' = id then IX P l Q .normal a w else IX P l Q (.exit id') a w)
      cases hb : Nat.beq id' id with
      | true =>
        rw [hb] at h'
        rw [if_pos (Nat.eq_of_beq_eq_true hb)]
        exact h'
      | false =>
        rw [hb] at h'
        rw [if_neg (fun e => by subst e; simp at hb)]
        exact IX.unw l (.exit id') he h'
def fineItm (n : Nat) : Itm → Bool
  | .code c | .inLoop c => fineC n c
  | .inBlock _ => true
  | .ops _ l => l.all (fineO n)
section
variable {P : Program} [NoFloat P] {G : Nat → Option Obj} {ι : Inj}
theorem fine_unw {n : Nat} : ∀ (l : List Itm) (e : AExit), (∀ x ∈ l, fineItm n x = true) → ∀ x ∈ (unwI l e).1, fineItm n x = true
  | [], e, _, x, hx => by cases e <;> simp [unwI] at hx
  | y :: l, e, h, x, hx => by
    have h' : ∀ x ∈ l, fineItm n x = true := fun x hx => h x (List.mem_cons_of_mem _ hx)
    cases y with
    | code c => exact fine_unw l e h' x (by cases e <;> exact hx)
    | inLoop c => exact fine_unw l e h' x (by cases e <;> exact hx)
    | ops os ol => exact fine_unw l e h' x (by cases e <;> exact hx)
    | inBlock id =>
      cases e with
      | normal => exact fine_unw l _ h' x hx
      | ret => exact fine_unw l _ h' x hx
      | exit id' =>
        have hx' : x ∈ (cond (Nat.beq id' id) (l, AExit.normal) (unwI l (.exit id'))).1 := hx
        cases hb : Nat.beq id' id with
        | true => rw [hb] at hx'; exact h' x hx'
        | false => rw [hb] at hx'; exact fine_unw l _ h' x hx'
theorem opR_ok {ft : Nat → Option Func} (hE : @EnvOk noMarks P ft) {r : Runner} (hg : @Good (noSyms G) noMarks P r) {os : Array Oper} {o : Oper} {rest : List Oper} {A A' : Fr} {H H' : Heap} (h : opR P ft G r os [o] A H = some (A', H')) (hf : fineO P.globals.size o = true) {Q : Exit → Act → World → Prop} {ι : Inj} {a : Act} {w : World} (hw : @Rel (noSyms G) P ι H w) (hA : @FRel (noSyms G) ι A a.tmps)
    (hQ : ∀ ι1 a1 w1, Ext P ι w ι1 w1 → @Rel (noSyms G) P ι1 H' w1 → @FRel (noSyms G) ι1 A' a1.tmps → a1.defers = a.defers → wpList P os Q rest a1 w1) : wpList P os Q (o :: rest) a w := by
  letI := noSyms G
  letI : Marks := noMarks
  letI : Orc P := noOrc P G
  letI : Lps P := noLps P
  have h' : runOps P ft r os [o] A H = some (A', H') := h
  rw [runOps_cons] at h'
  unfold wpList
  by_cases hl : lookOk os A o = true
  case neg => rw [if_neg hl] at h'; simp at h'
  rw [if_pos hl, wanted_eq hA os o hl] at h'
  by_cases hwt : Region.wanted o (yielded os a.tmps) = true
  · rw [if_pos hwt] at h' ⊢
    cases hs : stepOp P ft r o A H with
    | none => rw [hs] at h'; simp at h'
    | some q =>
      obtain ⟨A1, H1⟩ := q
      rw [hs] at h'
      simp only [runOps_nil, Option.some.injEq, Prod.mk.injEq] at h'
      obtain ⟨rfl, rfl⟩ := h'
      exact .inl (stepOp_ok hE hg hs hw hA hf hl hQ)
  · rw [if_neg hwt] at h' ⊢
    cases hp : A.put o.dst undf with
    | none => rw [hp] at h'; simp at h'
    | some A1 =>
      rw [hp] at h'
      simp only [runOps_nil, Option.some.injEq, Prod.mk.injEq] at h'
      obtain ⟨rfl, rfl⟩ := h'
      exact hQ ι _ w (Ext.refl _ _) hw (hA.put VRel.undf hp) (put_defers _ _ _)
theorem stI_ok {ft : Nat → Option Func} (hE : @EnvOk noMarks P ft) {r : Runner} (hg : @Good (noSyms G) noMarks P r) {l l' : List Itm} {A A' : Fr} {H H' : Heap} {e : AExit} (hf : ∀ x ∈ l, fineItm P.globals.size x = true) (h : stI P ft G r l A H = some (l', e, A', H'))
    {Q : Exit → Act → World → Prop} {ι : Inj} {a : Act} {w : World} (hw : @Rel (noSyms G) P ι H w) (hA : @FRel (noSyms G) ι A a.tmps)
    (hk : (∀ x ∈ l', fineItm P.globals.size x = true) → ∀ ι1 a1 w1, Ext P ι w ι1 w1 → @Rel (noSyms G) P ι1 H' w1 → @FRel (noSyms G) ι1 A' a1.tmps → a1.defers = a.defers → IX P l' Q e.conv a1 w1) : IX P l Q .normal a w := by
  letI := noSyms G
  letI : Marks := noMarks
  have leaf : ∀ (c : Code) (l : List Itm), (∀ x ∈ Itm.code c :: l, fineItm P.globals.size x = true) → (match r (.code c A) H with
    | some (.exit .normal A', H') => some (l, AExit.normal, A', H')
    | some (.exit e A', H') => some ((unwI l e).1, (unwI l e).2, A', H')
    | _ => none) = some (l', e, A', H') → IX P (.code c :: l) Q .normal a w := by
    intro c l hf h
    have hl : ∀ x ∈ l, fineItm P.globals.size x = true := fun x hx => hf x (List.mem_cons_of_mem _ hx)
    cases hr : r (.code c A) H with
    | none => rw [hr] at h; simp at h
    | some q =>
      obtain ⟨o, H1⟩ := q
      rw [hr] at h
      cases o with
      | val v => simp at h
      | exit e1 A1 =>
        refine wp_mono (hg.code _ _ _ _ _ _ hr c (.same c) (hf (.code c) List.mem_cons_self) ι a w hw hA) fun e' a' w' hpost => ?_
        obtain ⟨ι1, rfl, x1, r1, f1, d1⟩ := hpost
        cases e1 with
        | normal =>
          simp only [Option.some.injEq, Prod.mk.injEq] at h
          obtain ⟨rfl, rfl, rfl, rfl⟩ := h
          exact hk hl ι1 a' w' x1 r1 f1 d1
        | exit id =>
          simp only [Option.some.injEq, Prod.mk.injEq] at h
          obtain ⟨rfl, rfl, rfl, rfl⟩ := h
          exact IX.unw l _ (by simp) (hk (fine_unw l _ hl) ι1 a' w' x1 r1 f1 d1)
        | ret =>
          simp only [Option.some.injEq, Prod.mk.injEq] at h
          obtain ⟨rfl, rfl, rfl, rfl⟩ := h
          exact IX.unw l _ (by simp) (hk (fine_unw l _ hl) ι1 a' w' x1 r1 f1 d1)
  cases l with
  | nil => simp [stI] at h
  | cons y l =>
    have hl : ∀ x ∈ l, fineItm P.globals.size x = true := fun x hx => hf x (List.mem_cons_of_mem _ hx)
    have hy := hf y List.mem_cons_self
    cases y with
    | inBlock id =>
      simp only [stI, Option.some.injEq, Prod.mk.injEq] at h
      obtain ⟨rfl, rfl, rfl, rfl⟩ := h
      exact hk hl ι a w (Ext.refl _ _) hw hA rfl
    | inLoop c =>
      simp only [stI, Option.some.injEq, Prod.mk.injEq] at h
      obtain ⟨rfl, rfl, rfl, rfl⟩ := h
      exact LWp.of (hk (fun x hx => by
        rcases List.mem_cons.1 hx with rfl | hx
        · exact hy
        · exact hf x hx) ι a w (Ext.refl _ _) hw hA rfl)
    | ops os ol =>
      cases ol with
      | nil =>
        simp only [stI, Option.some.injEq, Prod.mk.injEq] at h
        obtain ⟨rfl, rfl, rfl, rfl⟩ := h
        exact hk hl ι a w (Ext.refl _ _) hw hA rfl
      | cons o rest =>
        simp only [stI] at h
        have hy' : (o :: rest).all (fineO P.globals.size) = true := hy
        simp only [List.all_cons, Bool.and_eq_true] at hy'
        split at h
        · rename_i A1 H1 hr
          simp only [Option.some.injEq, Prod.mk.injEq] at h
          obtain ⟨rfl, rfl, rfl, rfl⟩ := h
          exact opR_ok hE hg hr hy'.1 hw hA fun ι1 a1 w1 x1 r1 f1 d1 => hk (fun z hz => by
            rcases List.mem_cons.1 hz with rfl | hz
            · exact hy'.2
            · exact hl z hz) ι1 a1 w1 x1 r1 f1 d1
        · simp at h
    | code c =>
      cases c with
      | seq x y =>
        simp only [stI, Option.some.injEq, Prod.mk.injEq] at h
        obtain ⟨rfl, rfl, rfl, rfl⟩ := h
        have hy' : fineC P.globals.size (.seq x y) = true := hy
        simp only [fineC, Bool.and_eq_true] at hy'
        refine wp_seq (wp_mono (hk (fun z hz => by
          rcases List.mem_cons.1 hz with rfl | hz
          · exact hy'.1
          · rcases List.mem_cons.1 hz with rfl | hz
            · exact hy'.2
            · exact hl z hz) ι a w (Ext.refl _ _) hw hA rfl) fun e a w he => ?_)
        cases e <;> exact he
      | block id x =>
        simp only [stI, Option.some.injEq, Prod.mk.injEq] at h
        obtain ⟨rfl, rfl, rfl, rfl⟩ := h
        have hy' : fineC P.globals.size (.block id x) = true := hy
        simp only [fineC] at hy'
        exact wp_block (hk (fun z hz => by
          rcases List.mem_cons.1 hz with rfl | hz
          · exact hy'
          · rcases List.mem_cons.1 hz with rfl | hz
            · rfl
            · exact hl z hz) ι a w (Ext.refl _ _) hw hA rfl)
      | loop x =>
        simp only [stI, Option.some.injEq, Prod.mk.injEq] at h
        obtain ⟨rfl, rfl, rfl, rfl⟩ := h
        have hy' : fineC P.globals.size (.loop x) = true := hy
        simp only [fineC] at hy'
        exact loop_of (hk (fun z hz => by
          rcases List.mem_cons.1 hz with rfl | hz
          · exact hy'
          · rcases List.mem_cons.1 hz with rfl | hz
            · exact hy'
            · exact hl z hz) ι a w (Ext.refl _ _) hw hA rfl)
      | cond c x y =>
        have hy' : fineC P.globals.size (.cond c x y) = true := hy
        simp only [fineC, Bool.and_eq_true] at hy'
        simp only [stI] at h
        have hp : ∀ t, c = .tmp t → A.opn = false ∨ isP (A.get t) = false := by
          intro t ht
          subst ht
          right
          have e : opv A.get (.tmp t) = A.get t := rfl
          rw [e] at h
          cases hq : A.get t <;> rw [hq] at h <;> first | rfl | simp at h
        letI i3 : Orc P := noOrc P _
        letI i4 : Lps P := noLps P
        have hc := opv_rel hw hA hy'.1.1 hp
        revert hc h
        generalize opv A.get c = u
        generalize hu : a.eval c = u'
        intro h hc
        cases hc with
        | bool t =>
          simp only [Option.some.injEq, Prod.mk.injEq] at h
          obtain ⟨rfl, rfl, rfl, rfl⟩ := h
          have hk' := hk (fun z hz => by
            rcases List.mem_cons.1 hz with rfl | hz
            · cases t
              · exact hy'.2
              · exact hy'.1.2
            · exact hl z hz) ι a w (Ext.refl _ _) hw hA rfl
          exact wp_cond hu hk'
        | _ => simp at h
      | skip => exact leaf _ l hf h
      | region id ops d =>
        cases d with
        | true => exact leaf _ l hf h
        | false =>
          simp only [stI, Option.some.injEq, Prod.mk.injEq] at h
          obtain ⟨rfl, rfl, rfl, rfl⟩ := h
          have hy' : fineC P.globals.size (.region id ops false) = true := hy
          unfold fineC at hy'
          rw [Array.all_eq_true_iff_forall_mem] at hy'
          exact wp_region_list (hk (fun z hz => by
            rcases List.mem_cons.1 hz with rfl | hz
            · exact List.all_eq_true.2 fun o ho => hy' o (by simpa using ho)
            · exact hl z hz) ι a w (Ext.refl _ _) hw hA rfl)
      | rangeFunc f ps x y => exact leaf _ l hf h
      | exit id => exact leaf _ l hf h
      | scope x => exact leaf _ l hf h
      | label i => exact leaf _ l hf h
      | goto i => exact leaf _ l hf h
      | ret => exact leaf _ l hf h
      | refuse s => exact leaf _ l hf h
theorem itN_ok {ft : Nat → Option Func} (hE : @EnvOk noMarks P ft) {r : Runner} (hg : @Good (noSyms G) noMarks P r) {Q : Exit → Act → World → Prop} : ∀ (n : Nat) (l l' : List Itm) (A A' : Fr) (H H' : Heap) (e : AExit), (∀ x ∈ l, fineItm P.globals.size x = true) → itN P ft G r n l A H = some (l', e, A', H') →
    ∀ ι a w, @Rel (noSyms G) P ι H w → @FRel (noSyms G) ι A a.tmps →
    ((∀ x ∈ l', fineItm P.globals.size x = true) → ∀ ι1 a1 w1, Ext P ι w ι1 w1 → @Rel (noSyms G) P ι1 H' w1 → @FRel (noSyms G) ι1 A' a1.tmps → a1.defers = a.defers → IX P l' Q e.conv a1 w1) → IX P l Q .normal a w
  | 0, l, l', A, A', H, H', e, hf, h, ι, a, w, hw, hA, hk => by
    letI := noSyms G
    simp only [itN, Option.some.injEq, Prod.mk.injEq] at h
    obtain ⟨rfl, rfl, rfl, rfl⟩ := h
    exact hk hf ι a w (Ext.refl _ _) hw hA rfl
  | n + 1, [], l', A, A', H, H', e, hf, h, ι, a, w, hw, hA, hk => by
    letI := noSyms G
    simp only [itN, Option.some.injEq, Prod.mk.injEq] at h
    obtain ⟨rfl, rfl, rfl, rfl⟩ := h
    exact hk hf ι a w (Ext.refl _ _) hw hA rfl
  | n + 1, x :: l, l', A, A', H, H', e, hf, h, ι, a, w, hw, hA, hk => by
    letI := noSyms G
    simp only [itN] at h
    cases hs : stI P ft G r (x :: l) A H with
    | none => rw [hs] at h; simp at h
    | some q =>
      obtain ⟨l1, e1, A1, H1⟩ := q
      rw [hs] at h
      refine stI_ok hE hg hf hs hw hA fun hf1 ι1 a1 w1 x1 r1 f1 d1 => ?_
      cases e1 with
      | normal => exact itN_ok hE hg n l1 l' A1 A' H1 H' e hf1 h ι1 a1 w1 r1 f1 fun hf2 ι2 a2 w2 x2 r2 f2 d2 => hk hf2 ι2 a2 w2 (x1.trans x2) r2 f2 (d2.trans d1)
      | exit id =>
        simp only [Option.some.injEq, Prod.mk.injEq] at h
        obtain ⟨rfl, rfl, rfl, rfl⟩ := h
        exact hk hf1 ι1 a1 w1 x1 r1 f1 d1
      | ret =>
        simp only [Option.some.injEq, Prod.mk.injEq] at h
        obtain ⟨rfl, rfl, rfl, rfl⟩ := h
        exact hk hf1 ι1 a1 w1 x1 r1 f1 d1
theorem runQ_ok {ft : Nat → Option Func} (hE : @EnvOk noMarks P ft) {r : Runner} (hg : @Good (noSyms G) noMarks P r) {big : Nat} {w0 : World} {ι0 : Inj} {a0 : Act} : ∀ (ps : List (Nat × List Nat)) (l : List Itm) (A A' : Fr) (H H' : Heap) (e : AExit), (∀ x ∈ l, fineItm P.globals.size x = true) → runQ P ft G r big ps l A H = some (e, A', H') →
    ∀ ι a w, Ext P ι0 w0 ι w → a.defers = a0.defers → @Rel (noSyms G) P ι H w → @FRel (noSyms G) ι A a.tmps → IX P l (@PostC (noSyms G) P ι0 w0 a0 e A' H') .normal a w
  | [], l, A, A', H, H', e, hf, h, ι, a, w, hx, hd, hw, hA => by
    letI := noSyms G
    have h' : (match itN P ft G r big l A H with
      | some ([], e, A', H') => some (e, A', H')
      | _ => none) = some (e, A', H') := h
    cases hr : itN P ft G r big l A H with
    | none => rw [hr] at h'; simp at h'
    | some q =>
      obtain ⟨l1, e1, A1, H1⟩ := q
      rw [hr] at h'
      cases l1 with
      | cons => simp at h'
      | nil =>
        simp only [Option.some.injEq, Prod.mk.injEq] at h'
        obtain ⟨rfl, rfl, rfl⟩ := h'
        exact itN_ok hE hg big l [] A A1 H H1 e1 hf hr ι a w hw hA fun _ ι1 a1 w1 x1 r1 f1 d1 => ⟨ι1, rfl, hx.trans x1, r1, f1, d1.trans hd⟩
  | p :: ps, l, A, A', H, H', e, hf, h, ι, a, w, hx, hd, hw, hA => by
    letI := noSyms G
    have h' : (match itN P ft G r p.1 l A H with
      | some (l1, .normal, A1, H1) => runQ P ft G r big ps l1 A1 (H1.keep p.2)
      | _ => none) = some (e, A', H') := h
    cases hr : itN P ft G r p.1 l A H with
    | none => rw [hr] at h'; simp at h'
    | some q =>
      obtain ⟨l1, e1, A1, H1⟩ := q
      rw [hr] at h'
      cases e1 with
      | normal => exact itN_ok hE hg p.1 l l1 A A1 H H1 .normal hf hr ι a w hw hA fun hf1 ι1 a1 w1 x1 r1 f1 d1 => runQ_ok hE hg ps l1 A1 A' (H1.keep p.2) H' e hf1 h' ι1 a1 w1 (hx.trans x1) (d1.trans hd) (r1.keep p.2) f1
      | exit id => simp at h'
      | ret => simp at h'
noncomputable def itemR (P : Program) (ft : Nat → Option Func) (G : Nat → Option Obj) (big : Nat) (ps : List (Nat × List Nat)) (r : Runner) : Runner
  | .code c A, H => match runQ P ft G r big ps [.code c] A H with
    | some (e, A', H') => some (.exit e A', H')
    | none => none
  | .fn f a, H => r (.fn f a) H
  | .loop c A, H => r (.loop c A) H
theorem itemR_good {ft : Nat → Option Func} (hE : @EnvOk noMarks P ft) {r : Runner} (hg : @Good (noSyms G) noMarks P r) (big : Nat) (ps : List (Nat × List Nat)) : @Good (noSyms G) noMarks P (itemR P ft G big ps r) := by
  letI := noSyms G
  letI : Marks := noMarks
  refine ⟨hg.fn, fun c A H e A' H' h => ?_, hg.loop, fun c A H v H' h => ?_, hg.noValL⟩
  · have h' : (match runQ P ft G r big ps [.code c] A H with
      | some (e, A', H') => some (Out.exit e A', H')
      | none => none) = some (.exit e A', H') := h
    cases hr : runQ P ft G r big ps [.code c] A H with
    | none => rw [hr] at h'; simp at h'
    | some q =>
      obtain ⟨e1, A1, H1⟩ := q
      rw [hr] at h'
      simp only [Option.some.injEq, Prod.mk.injEq, Out.exit.injEq] at h'
      obtain ⟨⟨rfl, rfl⟩, rfl⟩ := h'
      intro c0 hann hf ι a w hw hA
      obtain rfl := ann_eq hann
      exact runQ_ok hE hg ps [.code c] A A1 H H1 e1 (fun x hx => by obtain rfl := List.mem_singleton.1 hx; exact hf) hr ι a w (Ext.refl _ _) rfl hw hA
  · have h' : (match runQ P ft G r big ps [.code c] A H with
      | some (e, A', H') => some (Out.exit e A', H')
      | none => none) = some (.val v, H') := h
    cases hr : runQ P ft G r big ps [.code c] A H with
    | none => rw [hr] at h'; simp at h'
    | some q =>
      obtain ⟨e1, A1, H1⟩ := q
      rw [hr] at h'
      simp at h'
end
noncomputable def bodyI (ft : Nat → Option Func) (f : FuncId) : List Itm := itmsAt ft f [(0, [])]
theorem step_items [Syms] {P : Program} [NoFloat P] [Marks] [Orc P] [Lps P] {ft : Nat → Option Func} {G : Nat → Option Obj} {big : Nat} {ps : List (Nat × List Nat)} {r : Runner} {draw : Array Oper → Fr → Heap → Option (Fr × Heap)} {f : FuncId} {args : Array Value} {H : Heap} {x : Out × Heap} (h : endL P ft f (runQ P ft G r big ps (bodyI ft f) (enterL ft f args) H) = some x) (hb : ((ft f).bind (·.body)).isSome = true) :
    stepRun P ft (itemR P ft G big ps r) draw (.fn f args) H = some x := by
  unfold endL bodyI enterL itmsAt at h
  simp only [stepRun]
  cases hf : ft f with
  | none => rw [hf] at h; simp at h
  | some fn =>
    rw [hf] at h hb
    cases hc : fn.body with
    | none => simp [hc] at hb
    | some c =>
      simp only [hc, List.map_cons, List.map_nil, codePt] at h ⊢
      rw [show itemR P ft G big ps r (.code c (Fr.enter fn args)) H = (match runQ P ft G r big ps [.code c] (Fr.enter fn args) H with
        | some (e, A', H') => some (Out.exit e A', H')
        | none => none) from rfl]
      cases hr : runQ P ft G r big ps [.code c] (Fr.enter fn args) H with
      | none => rw [hr] at h; simp [finL] at h
      | some q =>
        obtain ⟨e1, A1, H1⟩ := q
        rw [hr] at h
        cases e1 <;> exact h
variable {P : Program} {ft : Nat → Option Func}
theorem KnOk.items [NoFloat P] (hE : EnvOk P ft) {gs : Gs} {n big : Nat} {f : FuncId} {args : Array Value} {v : Value} (hx : Kn.ok ⟨f, args, v⟩ = true) (tb : List Kn) (htb : tb.all Kn.ok = true) {L : List Itm} {A0 : Fr} (hL0 : L = bodyI ft f) (hA0 : A0 = enterL ft f args)
    (ps : List (Nat × List Nat)) (hrun : ∀ G, outEq v (endL P ft f (runQ P ft G (run0 P ft (knT tb fun _ _ => none) G n) big ps L A0 (H0g P gs))) = true) (hb : ((ft f).bind (·.body)).isSome = true) {w : World} (hw : GOk P gs w)
    (hT : ∀ y ∈ tb, KnOk P w y) : KnOk P w ⟨f, args, v⟩ := by
  subst hL0 hA0
  intro w₁ hs hgl
  unfold Kn.ok at hx
  rw [Bool.and_eq_true] at hx
  have hw1 : GOk P gs w₁ := @GOk.of (noSyms fun _ => none) _ _ _ _ hw hs hgl
  have hr := hrun fun b => w₁.heap[b]?
  letI i1 := noSyms fun b => w₁.heap[b]?
  letI i2 : Marks := noMarks
  letI i3 : Orc P := noOrc P _
  letI i4 : Lps P := noLps P
  have hK : KOk P (knT tb fun _ _ => none) := @knT_ok P (fun b => w₁.heap[b]?) w (fun b hb => hgl b hb) _ (@noK (noSyms fun b => w₁.heap[b]?) P) tb htb hT
  have hL : LpsOk P := fun _ _ _ _ _ _ _ _ h => by simp at h
  have hg : Good P (runK P ft (knT tb fun _ _ => none) n) := runK_good hE hL hK n
  have hg2 : Good P (stepRun P ft (itemR P ft (fun b => w₁.heap[b]?) big ps (runK P ft (knT tb fun _ _ => none) n)) (drawRun2 P ft (itemR P ft (fun b => w₁.heap[b]?) big ps (runK P ft (knT tb fun _ _ => none) n)))) := Good.step hE hL (itemR_good hE hg big ps) (drawRun2_ok hE (itemR_good hE hg big ps))
  cases he : endL P ft f (runQ P ft (fun b => w₁.heap[b]?) (run0 P ft (knT tb fun _ _ => none) (fun b => w₁.heap[b]?) n) big ps (bodyI ft f) (enterL ft f args) (H0g P gs)) with
  | none => rw [he] at hr; simp [outEq] at hr
  | some q =>
    obtain ⟨out, H'⟩ := q
    rw [he] at hr
    cases out with
    | exit e A => simp [outEq] at hr
    | val u =>
      have hu : u = v := veq_ok hr
      subst hu
      refine Calls.mono (callR hg2 (args := args) (fun ι => plainAs_rel hx.1) (step_items he hb) w₁ hw1 ⟨fun _ _ => rfl, fun _ _ h => by simp at h⟩) fun e w' hh => ?_
      obtain ⟨ι', v', rfl, q1, x1⟩ := hh
      rw [plainA_eq hx.2 q1]
      exact ⟨rfl, x1⟩
end Go.Ev
namespace Go.Ev
open Go.RowKit
set_option linter.unusedSectionVars false
abbrev KnG := List (FuncId × List (List Value × Value))
def knGa : List (List Value × Value) → List Value → Option Value
  | [], _ => none
  | e :: r, x => cond (knT.veqAs x e.1) (some e.2) (knGa r x)
def knG : KnG → FuncId → Array Value → Option Value
  | [], _, _ => none
  | g :: r, f, args => cond (Nat.beq f g.1) (knGa g.2 args.toList.reverse) (knG r f args)
def flatG : KnG → List Kn
  | [] => []
  | g :: r => g.2.map (fun e => ⟨g.1, e.1.reverse.toArray, e.2⟩) ++ flatG r
theorem knGa_ok : ∀ {es : List (List Value × Value)} {x : List Value} {v : Value}, knGa es x = some v → ∃ e ∈ es, e.1 = x ∧ e.2 = v
  | [], _, _, h => by simp [knGa] at h
  | e :: r, x, v, h => by
    have h' : cond (knT.veqAs x e.1) (some e.2) (knGa r x) = some v := h
    cases hv : knT.veqAs x e.1 with
    | true =>
      rw [hv] at h'
      simp only [cond_true, Option.some.injEq] at h'
      exact ⟨e, List.mem_cons_self, (veqAs_ok hv).symm, h'⟩
    | false =>
      rw [hv] at h'
      obtain ⟨y, hy, q⟩ := knGa_ok (show knGa r x = some v from h')
      exact ⟨y, List.mem_cons_of_mem _ hy, q⟩
theorem knG_entry : ∀ {tb : KnG} {f : FuncId} {args : Array Value} {v : Value}, knG tb f args = some v → ∃ x ∈ flatG tb, x.f = f ∧ x.args = args ∧ x.v = v
  | [], _, _, _, h => by simp [knG] at h
  | g :: r, f, args, v, h => by
    have h' : cond (Nat.beq f g.1) (knGa g.2 args.toList.reverse) (knG r f args) = some v := h
    cases hb : Nat.beq f g.1 with
    | true =>
      rw [hb] at h'
      obtain ⟨e, he, q1, q2⟩ := knGa_ok (show knGa g.2 args.toList.reverse = some v from h')
      refine ⟨⟨g.1, e.1.reverse.toArray, e.2⟩, List.mem_append_left _ (List.mem_map.2 ⟨e, he, rfl⟩), (Nat.eq_of_beq_eq_true hb).symm, ?_, q2⟩
      show e.1.reverse.toArray = args
      rw [q1]
      simp
    | false =>
      rw [hb] at h'
      obtain ⟨x, hx, q⟩ := knG_entry (show knG r f args = some v from h')
      exact ⟨x, List.mem_append_right _ hx, q⟩
variable {P : Program} {ft : Nat → Option Func}
theorem knG_ok {G : Nat → Option Obj} {w : World} (hG : ∀ b, b < P.globals.size → G b = w.heap[b]?) (tb : KnG) (hp : (flatG tb).all Kn.ok = true) (hx : ∀ x ∈ flatG tb, KnOk P w x) : @KOk (noSyms G) P (knG tb) := by
  intro f args v h ι H args' w₁ hw ha
  letI := noSyms G
  obtain ⟨x, hm, rfl, rfl, rfl⟩ := knG_entry h
  rw [List.all_eq_true] at hp
  have hp1 := hp x hm
  unfold Kn.ok at hp1
  rw [Bool.and_eq_true] at hp1
  obtain rfl := @plainAs_eq (noSyms G) _ _ _ hp1.1 ha
  refine Calls.mono (hx x hm w₁ ?_ ?_) fun e w' ⟨h1, xq⟩ => ?_
  · have := @Rel.gsize (noSyms G) P ι H w₁ hw; have := @Rel.room (noSyms G) P ι H w₁ hw; omega
  · intro b hb
    rw [(@Rel.glb (noSyms G) P ι H w₁ hw).1 b hb]
    exact hG b hb
  · exact ⟨ι, x.v, h1, @Quiet.ext (noSyms G) P _ _ xq ι, @Quiet.rel (noSyms G) P _ _ xq ι H hw, @plainA_rel (noSyms G) ι _ hp1.2⟩
theorem KnOk.runG [NoFloat P] (hE : EnvOk P ft) {gs : Gs} {n : Nat} {x : Kn} (hx : x.ok = true) (tb : KnG) (htb : (flatG tb).all Kn.ok = true) (hrun : ∀ G, outEq x.v (run0 P ft (knG tb) G n (.fn x.f x.args) (H0g P gs)) = true) {w : World} (hw : GOk P gs w)
    (hT : ∀ y ∈ flatG tb, KnOk P w y) : KnOk P w x := by
  intro w₁ hs hg
  unfold Kn.ok at hx
  rw [Bool.and_eq_true] at hx
  exact closedV hE hx.1 hx.2 w₁ (@knG_ok P (fun b => w₁.heap[b]?) w (fun b hb => hg b hb) tb htb hT) hrun (@GOk.of (noSyms fun _ => none) _ _ _ _ hw hs hg)
theorem KnOk.itemsG [NoFloat P] (hE : EnvOk P ft) {gs : Gs} {n big : Nat} {f : FuncId} {args : Array Value} {v : Value} (hx : Kn.ok ⟨f, args, v⟩ = true) (tb : KnG) (htb : (flatG tb).all Kn.ok = true) {L : List Itm} {A0 : Fr} (hL0 : L = bodyI ft f) (hA0 : A0 = enterL ft f args)
    (ps : List (Nat × List Nat)) (hrun : ∀ G, outEq v (endL P ft f (runQ P ft G (run0 P ft (knG tb) G n) big ps L A0 (H0g P gs))) = true) (hb : ((ft f).bind (·.body)).isSome = true) {w : World} (hw : GOk P gs w)
    (hT : ∀ y ∈ flatG tb, KnOk P w y) : KnOk P w ⟨f, args, v⟩ := by
  subst hL0 hA0
  intro w₁ hs hgl
  unfold Kn.ok at hx
  rw [Bool.and_eq_true] at hx
  have hw1 : GOk P gs w₁ := @GOk.of (noSyms fun _ => none) _ _ _ _ hw hs hgl
  have hr := hrun fun b => w₁.heap[b]?
  letI i1 := noSyms fun b => w₁.heap[b]?
  letI i2 : Marks := noMarks
  letI i3 : Orc P := noOrc P _
  letI i4 : Lps P := noLps P
  have hK : KOk P (knG tb) := @knG_ok P (fun b => w₁.heap[b]?) w (fun b hb => hgl b hb) tb htb hT
  have hL : LpsOk P := fun _ _ _ _ _ _ _ _ h => by simp at h
  have hg : Good P (runK P ft (knG tb) n) := runK_good hE hL hK n
  have hg2 : Good P (stepRun P ft (itemR P ft (fun b => w₁.heap[b]?) big ps (runK P ft (knG tb) n)) (drawRun2 P ft (itemR P ft (fun b => w₁.heap[b]?) big ps (runK P ft (knG tb) n)))) := Good.step hE hL (itemR_good hE hg big ps) (drawRun2_ok hE (itemR_good hE hg big ps))
  cases he : endL P ft f (runQ P ft (fun b => w₁.heap[b]?) (run0 P ft (knG tb) (fun b => w₁.heap[b]?) n) big ps (bodyI ft f) (enterL ft f args) (H0g P gs)) with
  | none => rw [he] at hr; simp [outEq] at hr
  | some q =>
    obtain ⟨out, H'⟩ := q
    rw [he] at hr
    cases out with
    | exit e A => simp [outEq] at hr
    | val u =>
      have hu : u = v := veq_ok hr
      subst hu
      refine Calls.mono (callR hg2 (args := args) (fun ι => plainAs_rel hx.1) (step_items he hb) w₁ hw1 ⟨fun _ _ => rfl, fun _ _ h => by simp at h⟩) fun e w' hh => ?_
      obtain ⟨ι', v', rfl, q1, x1⟩ := hh
      rw [plainA_eq hx.2 q1]
      exact ⟨rfl, x1⟩
end Go.Ev
namespace Go.Proofs.YtgokpcaijabhoaaDoor
open Go.Ev Go.RowKit
set_option maxRecDepth 100000
abbrev val1 : Value := .agg #[.int .i64 1, .int .i64 2, .int .i64 0, .int .i64 0]
abbrev val4 : Value := .agg #[.int .i64 4, .int .i64 1, .int .i64 0, .int .i64 0]
abbrev val5 : Value := .agg #[.int .i64 1, .int .i64 1, .int .i64 0, .int .i64 0]
abbrev val7 : Value := .agg #[.int .i64 8, .int .i64 8, .int .i64 8, .int .i64 16, .int .i64 16, .int .i64 4, .int .i64 24, .int .i64 8, .int .i64 2, .int .i64 32, .int .i64 32, .int .i64 2]
abbrev val8 : Value := .agg #[.int .u8 0, .bool false, .int .i64 0, .int .u32 0]
abbrev val9 : Value := .agg #[.int .u8 2, .bool true, .int .i64 2, .int .u32 1]
abbrev val10 : Value := .agg #[.int .u8 0, .bool true, .int .i64 2, .int .u32 1]
abbrev val11 : Value := .agg #[.int .u8 1, .bool true, .int .i64 2, .int .u32 1]
abbrev val12 : Value := .agg #[.int .u8 3, .bool true, .int .i64 2, .int .u32 1]
abbrev val13 : Value := .agg #[.int .i64 3, .int .i64 1, .int .i64 2, .int .i64 0]
def kn0 : Kn := ⟨65, #[.int .i64 2], .int .i64 1⟩
def kn1 : Kn := ⟨86, #[.int .u64 17], val1⟩
def kn2 : Kn := ⟨39, #[.int .i64 0, .int .i64 1], .int .i64 0⟩
def kn3 : Kn := ⟨65, #[.int .i64 1], .int .i64 0⟩
def kn4 : Kn := ⟨86, #[.int .u64 12], val4⟩
def kn5 : Kn := ⟨86, #[.int .u64 9], val5⟩
def kn6 : Kn := ⟨39, #[.int .i64 1, .int .i64 1], .int .i64 1⟩
def kn7 : Kn := ⟨21, #[], val7⟩
def kn8 : Kn := ⟨8, #[.int .u64 0], val8⟩
def kn9 : Kn := ⟨8, #[.int .u64 4294968066], val9⟩
def kn10 : Kn := ⟨8, #[.int .u64 4294968064], val10⟩
def kn11 : Kn := ⟨8, #[.int .u64 4294968065], val11⟩
def kn12 : Kn := ⟨8, #[.int .u64 4294968067], val12⟩
def kn13 : Kn := ⟨86, #[.int .u64 16395], val13⟩
theorem kn0_run (t : TypeId) (G : Nat → Option Obj) : outEq kn0.v (run0 Tryd.prog (ftOf Tryd.prog) (fun _ _ => none) G 100000 (.fn kn0.f kn0.args) (H0g Tryd.prog (gsT t))) = true := by kernel_rfl
theorem kn0_ok {t : TypeId} {w : World} (hw : GOk Tryd.prog (gsT t) w) : KnOk Tryd.prog w kn0 := KnOk.run env (by kernel_rfl) (fun G => kn0_run t G) hw
theorem kn1_run (t : TypeId) (G : Nat → Option Obj) : outEq kn1.v (run0 Tryd.prog (ftOf Tryd.prog) (fun _ _ => none) G 100000 (.fn kn1.f kn1.args) (H0g Tryd.prog (gsT t))) = true := by kernel_rfl
theorem kn1_ok {t : TypeId} {w : World} (hw : GOk Tryd.prog (gsT t) w) : KnOk Tryd.prog w kn1 := KnOk.run env (by kernel_rfl) (fun G => kn1_run t G) hw
theorem kn2_run (t : TypeId) (G : Nat → Option Obj) : outEq kn2.v (run0 Tryd.prog (ftOf Tryd.prog) (fun _ _ => none) G 100000 (.fn kn2.f kn2.args) (H0g Tryd.prog (gsT t))) = true := by kernel_rfl
theorem kn2_ok {t : TypeId} {w : World} (hw : GOk Tryd.prog (gsT t) w) : KnOk Tryd.prog w kn2 := KnOk.run env (by kernel_rfl) (fun G => kn2_run t G) hw
theorem kn3_run (t : TypeId) (G : Nat → Option Obj) : outEq kn3.v (run0 Tryd.prog (ftOf Tryd.prog) (fun _ _ => none) G 100000 (.fn kn3.f kn3.args) (H0g Tryd.prog (gsT t))) = true := by kernel_rfl
theorem kn3_ok {t : TypeId} {w : World} (hw : GOk Tryd.prog (gsT t) w) : KnOk Tryd.prog w kn3 := KnOk.run env (by kernel_rfl) (fun G => kn3_run t G) hw
theorem kn4_run (t : TypeId) (G : Nat → Option Obj) : outEq kn4.v (run0 Tryd.prog (ftOf Tryd.prog) (fun _ _ => none) G 100000 (.fn kn4.f kn4.args) (H0g Tryd.prog (gsT t))) = true := by kernel_rfl
theorem kn4_ok {t : TypeId} {w : World} (hw : GOk Tryd.prog (gsT t) w) : KnOk Tryd.prog w kn4 := KnOk.run env (by kernel_rfl) (fun G => kn4_run t G) hw
theorem kn5_run (t : TypeId) (G : Nat → Option Obj) : outEq kn5.v (run0 Tryd.prog (ftOf Tryd.prog) (fun _ _ => none) G 100000 (.fn kn5.f kn5.args) (H0g Tryd.prog (gsT t))) = true := by kernel_rfl
theorem kn5_ok {t : TypeId} {w : World} (hw : GOk Tryd.prog (gsT t) w) : KnOk Tryd.prog w kn5 := KnOk.run env (by kernel_rfl) (fun G => kn5_run t G) hw
theorem kn6_run (t : TypeId) (G : Nat → Option Obj) : outEq kn6.v (run0 Tryd.prog (ftOf Tryd.prog) (fun _ _ => none) G 100000 (.fn kn6.f kn6.args) (H0g Tryd.prog (gsT t))) = true := by kernel_rfl
theorem kn6_ok {t : TypeId} {w : World} (hw : GOk Tryd.prog (gsT t) w) : KnOk Tryd.prog w kn6 := KnOk.run env (by kernel_rfl) (fun G => kn6_run t G) hw
theorem kn7_run (t : TypeId) (G : Nat → Option Obj) : outEq kn7.v (run0 Tryd.prog (ftOf Tryd.prog) (fun _ _ => none) G 100000 (.fn kn7.f kn7.args) (H0g Tryd.prog (gsT t))) = true := by kernel_rfl
theorem kn7_ok {t : TypeId} {w : World} (hw : GOk Tryd.prog (gsT t) w) : KnOk Tryd.prog w kn7 := KnOk.run env (by kernel_rfl) (fun G => kn7_run t G) hw
theorem kn8_run (t : TypeId) (G : Nat → Option Obj) : outEq kn8.v (run0 Tryd.prog (ftOf Tryd.prog) (fun _ _ => none) G 100000 (.fn kn8.f kn8.args) (H0g Tryd.prog (gsT t))) = true := by kernel_rfl
theorem kn8_ok {t : TypeId} {w : World} (hw : GOk Tryd.prog (gsT t) w) : KnOk Tryd.prog w kn8 := KnOk.run env (by kernel_rfl) (fun G => kn8_run t G) hw
theorem kn9_run (t : TypeId) (G : Nat → Option Obj) : outEq kn9.v (run0 Tryd.prog (ftOf Tryd.prog) (fun _ _ => none) G 100000 (.fn kn9.f kn9.args) (H0g Tryd.prog (gsT t))) = true := by kernel_rfl
theorem kn9_ok {t : TypeId} {w : World} (hw : GOk Tryd.prog (gsT t) w) : KnOk Tryd.prog w kn9 := KnOk.run env (by kernel_rfl) (fun G => kn9_run t G) hw
theorem kn10_run (t : TypeId) (G : Nat → Option Obj) : outEq kn10.v (run0 Tryd.prog (ftOf Tryd.prog) (fun _ _ => none) G 100000 (.fn kn10.f kn10.args) (H0g Tryd.prog (gsT t))) = true := by kernel_rfl
theorem kn10_ok {t : TypeId} {w : World} (hw : GOk Tryd.prog (gsT t) w) : KnOk Tryd.prog w kn10 := KnOk.run env (by kernel_rfl) (fun G => kn10_run t G) hw
theorem kn11_run (t : TypeId) (G : Nat → Option Obj) : outEq kn11.v (run0 Tryd.prog (ftOf Tryd.prog) (fun _ _ => none) G 100000 (.fn kn11.f kn11.args) (H0g Tryd.prog (gsT t))) = true := by kernel_rfl
theorem kn11_ok {t : TypeId} {w : World} (hw : GOk Tryd.prog (gsT t) w) : KnOk Tryd.prog w kn11 := KnOk.run env (by kernel_rfl) (fun G => kn11_run t G) hw
theorem kn12_run (t : TypeId) (G : Nat → Option Obj) : outEq kn12.v (run0 Tryd.prog (ftOf Tryd.prog) (fun _ _ => none) G 100000 (.fn kn12.f kn12.args) (H0g Tryd.prog (gsT t))) = true := by kernel_rfl
theorem kn12_ok {t : TypeId} {w : World} (hw : GOk Tryd.prog (gsT t) w) : KnOk Tryd.prog w kn12 := KnOk.run env (by kernel_rfl) (fun G => kn12_run t G) hw
theorem kn13_run (t : TypeId) (G : Nat → Option Obj) : outEq kn13.v (run0 Tryd.prog (ftOf Tryd.prog) (fun _ _ => none) G 100000 (.fn kn13.f kn13.args) (H0g Tryd.prog (gsT t))) = true := by kernel_rfl
theorem kn13_ok {t : TypeId} {w : World} (hw : GOk Tryd.prog (gsT t) w) : KnOk Tryd.prog w kn13 := KnOk.run env (by kernel_rfl) (fun G => kn13_run t G) hw
def kng : KnG := [(65, [([.int .i64 2], .int .i64 1), ([.int .i64 1], .int .i64 0)]), (86, [([.int .u64 17], val1), ([.int .u64 12], val4), ([.int .u64 9], val5), ([.int .u64 16395], val13)]), (39, [([.int .i64 1, .int .i64 0], .int .i64 0), ([.int .i64 1, .int .i64 1], .int .i64 1)]), (21, [([], val7)]), (8, [([.int .u64 0], val8), ([.int .u64 4294968066], val9), ([.int .u64 4294968064], val10), ([.int .u64 4294968065], val11), ([.int .u64 4294968067], val12)])]
def kns : List Kn := [kn0, kn3, kn1, kn4, kn5, kn13, kn2, kn6, kn7, kn8, kn9, kn10, kn11, kn12]
theorem kng_flat : flatG kng = kns := by kernel_rfl
theorem fcons {p : Kn → Prop} {x : Kn} {l : List Kn} (h : p x) (t : ∀ y ∈ l, p y) : ∀ y ∈ x :: l, p y := List.forall_mem_cons.2 ⟨h, t⟩
theorem kng_ok {t : TypeId} {w : World} (hw : GOk Tryd.prog (gsT t) w) : ∀ x ∈ flatG kng, KnOk Tryd.prog w x := by
  rw [kng_flat]
  unfold kns
  refine fcons (kn0_ok hw) ?_
  refine fcons (kn3_ok hw) ?_
  refine fcons (kn1_ok hw) ?_
  refine fcons (kn4_ok hw) ?_
  refine fcons (kn5_ok hw) ?_
  refine fcons (kn13_ok hw) ?_
  refine fcons (kn2_ok hw) ?_
  refine fcons (kn6_ok hw) ?_
  refine fcons (kn7_ok hw) ?_
  refine fcons (kn8_ok hw) ?_
  refine fcons (kn9_ok hw) ?_
  refine fcons (kn10_ok hw) ?_
  refine fcons (kn11_ok hw) ?_
  refine fcons (kn12_ok hw) ?_
  exact fun _ h => absurd h List.not_mem_nil
end Go.Proofs.YtgokpcaijabhoaaDoor
namespace Go.Ev
set_option linter.unusedSectionVars false
inductive BUp where
  | set (l : List (Nat × Value))
  | all (b : Blk)
noncomputable def Fr.upd (A : Fr) (l : List (Nat × Value)) : Fr := { A with m := l.foldl (fun m p => m.set p.1 (some p.2)) A.m }
noncomputable def bupd (b : Option Blk) : BUp → Option Blk
  | .all b' => some b'
  | .set l => match b with
    | some (.cells c) => some (.cells { c with m := l.foldl (fun m p => m.set p.1 (some p.2)) c.m })
    | b => b
noncomputable def Heap.upd (H : Heap) (next : Nat) (l : List (Nat × BUp)) (live : List Nat) : Heap := { base := H.base, next := next, m := keepM (l.foldl (fun m p => m.set p.1 (bupd (m.get p.1) p.2)) H.m) live .leaf, hole := H.hole }
end Go.Ev
namespace Go.Proofs.YtgokpcaijabhoaaDoor
open Go.Ev Go.RowKit
set_option maxRecDepth 100000
noncomputable def Vw_d0 : Value := (.tuple #[(.agg #[(.int .i64 2), (.int .i64 1), (.int .i64 0), (.int .i64 1), (.int .i64 2), (.int .i64 7), (.int .i64 16), (.int .i64 17), (.int .i64 21), (.int .i64 22), (.int .i64 24), (.int .i64 26), (.int .i64 28), (.int .i64 44), (.int .i64 60), (.int .i64 68), (.int .i64 72), (.int .i64 74), (.int .i64 75), (.int .i64 79), (.int .i64 96), (.int .i64 232)]), (.pointer (some ⟨88, 0, none⟩)), (.pointer (some ⟨90, 0, none⟩))])
noncomputable def Vw_d1 : T Value := (.node (some Vw_d0) (.node (some (.tuple #[(.int .i64 1), (.int .i64 8)])) .leaf .leaf) (.node (some (.bool true)) .leaf .leaf))
noncomputable def Vw_d2 : T Value := (.node (some (.pointer (some ⟨90, 0, none⟩))) (.node (some (.int .i64 1)) .leaf .leaf) (.node (some (.bool true)) .leaf .leaf))
noncomputable def Vw_d3 : Value := (.agg #[(.int .i64 2), (.int .i64 1), (.int .i64 0), (.int .i64 1), (.int .i64 2), (.int .i64 7), (.int .i64 16), (.int .i64 17), (.int .i64 21), (.int .i64 22), (.int .i64 24), (.int .i64 26), (.int .i64 28), (.int .i64 44), (.int .i64 60), (.int .i64 68), (.int .i64 72), (.int .i64 74), (.int .i64 75), (.int .i64 79), (.int .i64 96), (.int .i64 232)])
noncomputable def Vw_d4 : T Value := (.node (some (.int .i64 8)) (.node (some (.pointer (some ⟨88, 0, none⟩))) (.node (some Vw_d3) .leaf .leaf) (.node (some (.bool true)) .leaf .leaf)) (.node (some Vw_d3) (.node (some (.int .i64 1)) .leaf .leaf) (.node (some Vw_d3) .leaf .leaf)))
noncomputable def Vw_d5 : T Value := (.node (some (.iface 26 (.pointer (some ⟨90, 0, none⟩)))) (.node (some (.int .i64 8)) .leaf .leaf) (.node (some (.pointer (some ⟨90, 0, none⟩))) .leaf .leaf))
noncomputable def Vw_d6 : T Value := (.node (some (.int .i64 1)) (.node (some Vw_d3) (.node (some (.pointer (some ⟨90, 0, none⟩))) .leaf .leaf) (.node (some (.int .i64 8)) .leaf .leaf)) Vw_d5)
noncomputable def Vw_d7 : T Value := (.node (some (.pointer (some ⟨90, 0, none⟩))) (.node (some (.tuple #[(.int .i64 1), (.int .i64 8)])) .leaf .leaf) (.node (some (.bool true)) .leaf .leaf))
noncomputable def Vw_d8 : T Value := (.node (some Vw_d0) Vw_d7 (.node (some (.tuple #[(.int .i64 0), (.bool true)])) (.node (some (.bool true)) .leaf .leaf) .leaf))
noncomputable def Vw_d9 : T Value := (.node (some (.bool false)) (.node (some (.pointer (some ⟨134, 0, none⟩))) (.node (some (.pointer (some ⟨90, 0, none⟩))) Vw_d1 Vw_d2) Vw_d4) (.node (some (.pointer (some ⟨88, 0, none⟩))) Vw_d6 Vw_d8))
noncomputable def Vw_d10 : T Blk := (.node none .leaf (.node none .leaf (.node none (.node (some (.cells ⟨128, .leaf, (.int .u8 0), 5, false, 1, 0⟩)) .leaf .leaf) .leaf)))
noncomputable def Vw_d11 : T Value := (.node (some (.slice (some ⟨86, 0, none⟩) 232 232)) (.node (some (.slice (some ⟨87, 0, none⟩) 128 128)) .leaf .leaf) .leaf)
noncomputable def Vw_d12 : T Blk := (.node none .leaf (.node none .leaf (.node none (.node (some (.cells ⟨2, Vw_d11, (.tuple #[]), 116, false, 1, 0⟩)) .leaf .leaf) .leaf)))
noncomputable def Vw_d13 : T Value := (.node (some (.int .i64 17)) (.node (some (.int .i64 0)) (.node (some (.int .u64 0)) .leaf .leaf) (.node (some (.int .i64 0)) .leaf .leaf)) (.node (some (.int .u8 0)) (.node (some (.int .u64 0)) .leaf .leaf) (.node (some (.int .i64 0)) .leaf .leaf)))
noncomputable def Vw_d14 : T Value := (.node (some (.int .i64 0)) (.node (some (.int .i64 0)) (.node (some (.int .u64 0)) .leaf .leaf) (.node (some (.int .i64 0)) .leaf .leaf)) (.node (some (.int .u64 0)) (.node (some (.int .u64 0)) .leaf .leaf) (.node (some (.bool false)) .leaf .leaf)))
noncomputable def Vw_d15 : Blk := (.cells ⟨15, (.node (some (.pointer (some ⟨88, 0, none⟩))) Vw_d13 Vw_d14), (.tuple #[]), 88, false, 1, 0⟩)
noncomputable def Vw_d16 : T Value := (.node (some (.int .i64 1)) (.node (some (.int .i64 17)) (.node (some (.int .i64 68)) .leaf .leaf) .leaf) (.node (some (.int .i64 26)) (.node (some (.int .i64 79)) .leaf .leaf) .leaf))
noncomputable def Vw_d17 : T Value := (.node (some (.int .i64 7)) (.node (some (.int .i64 22)) (.node (some (.int .i64 74)) .leaf .leaf) .leaf) (.node (some (.int .i64 44)) (.node (some (.int .i64 232)) .leaf .leaf) .leaf))
noncomputable def Vw_d18 : T Value := (.node (some (.int .i64 2)) (.node (some (.int .i64 21)) (.node (some (.int .i64 72)) .leaf .leaf) .leaf) (.node (some (.int .i64 28)) (.node (some (.int .i64 96)) .leaf .leaf) .leaf))
noncomputable def Vw_d19 : T Value := (.node (some (.int .i64 16)) (.node (some (.int .i64 24)) (.node (some (.int .i64 75)) .leaf .leaf) .leaf) (.node (some (.int .i64 60)) .leaf .leaf))
noncomputable def Vw_d20 : Blk := (.cells ⟨22, (.node (some (.int .i64 2)) (.node (some (.int .i64 1)) Vw_d16 Vw_d17) (.node (some (.int .i64 0)) Vw_d18 Vw_d19)), (.tuple #[]), 24, false, 1, 0⟩)
noncomputable def Vw_d21 : T Value := (.node none (.node none (.node (some (.int .u64 0)) .leaf (.node (some (.int .u64 16395)) .leaf .leaf)) .leaf) (.node none (.node none .leaf (.node (some (.int .u64 4294968066)) .leaf .leaf)) .leaf))
noncomputable def Vw_d22 : T Value := (.node none (.node none (.node (some (.int .u64 0)) .leaf .leaf) .leaf) (.node none .leaf (.node none (.node (some (.int .u64 12)) .leaf .leaf) .leaf)))
noncomputable def Vw_d23 : Blk := (.cells ⟨232, (.node none Vw_d21 Vw_d22), (.int .u64 0), 39, false, 1, 0⟩)
noncomputable def Vw_d24 : T Blk := (.node none (.node none (.node none (.node (some Vw_d20) .leaf .leaf) .leaf) .leaf) (.node none (.node (some Vw_d23) .leaf .leaf) .leaf))
noncomputable def Vw_d25 : T Blk := (.node none (.node none .leaf (.node none .leaf (.node none (.node (some Vw_d15) .leaf .leaf) .leaf))) (.node none Vw_d24 .leaf))
noncomputable def Vw_A1 : Fr := { size := 82, m := Vw_d9, opn := false }
noncomputable def Vw_H1 (t : TypeId) : Heap := { base := 1, next := 355, m := (.node (some (.cells (mkCells tab t))) (.node none (.node none Vw_d10 .leaf) .leaf) (.node none (.node none Vw_d12 .leaf) Vw_d25)), hole := [] }
def Vw_p0 : Nat × List Nat := (45, [0, 86, 87, 88, 90, 134])
noncomputable def Vw_d26 : T Value := (.node (some (.tuple #[(.int .i64 1), (.int .i64 8)])) (.node (some (.bool true)) (.node (some (.bool true)) .leaf .leaf) .leaf) (.node (some (.bool true)) .leaf .leaf))
noncomputable def Vw_d27 : T Value := (.node (some (.iface 26 (.pointer (some ⟨90, 0, none⟩)))) (.node (some (.pointer (some ⟨90, 0, none⟩))) .leaf .leaf) .leaf)
noncomputable def Vw_d28 : T Value := (.node (some (.int .i64 1)) (.node (some (.bool true)) (.node (some (.bool false)) .leaf .leaf) .leaf) (.node (some (.iface 26 (.pointer (some ⟨90, 0, none⟩)))) .leaf .leaf))
noncomputable def Vw_d29 : T Value := (.node (some (.bool true)) (.node (some (.bool true)) .leaf .leaf) (.node (some (.iface 26 (.pointer (some ⟨90, 0, none⟩)))) .leaf .leaf))
noncomputable def Vw_d30 : T Value := (.node (some (.pointer (some ⟨90, 0, none⟩))) (.node (some Vw_d0) Vw_d26 (.node (some (.bool true)) Vw_d27 (.node (some (.bool true)) .leaf .leaf))) (.node (some (.pointer (some ⟨90, 0, none⟩))) Vw_d28 Vw_d29))
noncomputable def Vw_d31 : T Value := (.node (some (.pointer (some ⟨90, 0, none⟩))) (.node (some (.iface 26 (.pointer (some ⟨90, 0, none⟩)))) .leaf .leaf) .leaf)
noncomputable def Vw_d32 : T Value := (.node (some (.bool true)) (.node (some (.bool true)) (.node (some Vw_d3) .leaf .leaf) .leaf) (.node (some (.bool true)) .leaf .leaf))
noncomputable def Vw_d33 : T Value := (.node (some (.pointer (some ⟨88, 0, none⟩))) (.node (some Vw_d3) Vw_d31 (.node (some (.bool true)) .leaf .leaf)) Vw_d32)
noncomputable def Vw_d34 : T Value := (.node (some (.int .i64 1)) (.node (some (.bool true)) (.node (some (.bool true)) .leaf .leaf) .leaf) (.node (some (.slice (some ⟨587, 0, none⟩) 2 2)) .leaf .leaf))
noncomputable def Vw_d35 : T Value := (.node (some Vw_d3) (.node (some (.iface 26 (.pointer (some ⟨90, 0, none⟩)))) .leaf .leaf) (.node (some (.bool true)) .leaf .leaf))
noncomputable def Vw_d36 : T Value := (.node (some (.pointer (some ⟨134, 0, none⟩))) Vw_d30 (.node (some (.int .i64 8)) Vw_d33 (.node (some Vw_d3) Vw_d34 Vw_d35)))
noncomputable def Vw_d37 : T Value := (.node (some (.pointer (some ⟨90, 0, none⟩))) (.node (some (.bool true)) (.node (some (.pointer (some ⟨90, 0, none⟩))) .leaf .leaf) .leaf) (.node (some (.bool true)) .leaf .leaf))
noncomputable def Vw_d38 : T Value := (.node (some (.int .i64 8)) (.node (some Vw_d3) (.node (some (.iface 26 (.pointer (some ⟨90, 0, none⟩)))) .leaf .leaf) .leaf) (.node (some (.bool true)) .leaf .leaf))
noncomputable def Vw_d39 : T Value := (.node (some (.int .i64 8)) (.node (some (.bool true)) (.node (some (.bool true)) .leaf .leaf) .leaf) (.node (some Vw_d3) .leaf .leaf))
noncomputable def Vw_d40 : T Value := (.node (some (.pointer (some ⟨90, 0, none⟩))) (.node (some (.pointer (some ⟨90, 0, none⟩))) .leaf .leaf) (.node (some Vw_d3) .leaf .leaf))
noncomputable def Vw_d41 : T Value := (.node (some (.int .i64 1)) (.node (some Vw_d3) Vw_d37 Vw_d38) (.node (some (.iface 26 (.pointer (some ⟨90, 0, none⟩)))) Vw_d39 Vw_d40))
noncomputable def Vw_d42 : T Value := (.node (some (.tuple #[(.int .i64 1), (.int .i64 8)])) (.node (some Vw_d3) (.node (some Vw_d3) .leaf .leaf) .leaf) (.node (some (.pointer (some ⟨90, 0, none⟩))) .leaf .leaf))
noncomputable def Vw_d43 : T Value := (.node (some (.bool true)) (.node (some (.bool true)) .leaf .leaf) (.node (some (.pointer (some ⟨90, 0, none⟩))) .leaf .leaf))
noncomputable def Vw_d44 : T Value := (.node (some (.bool true)) (.node (some (.pointer (some ⟨90, 0, none⟩))) (.node (some (.bool true)) .leaf .leaf) .leaf) (.node (some (.slice (some ⟨603, 0, none⟩) 2 2)) .leaf .leaf))
noncomputable def Vw_d45 : T Value := (.node (some (.tuple #[(.int .i64 0), (.bool true)])) Vw_d44 (.node (some (.bool true)) (.node (some Vw_d3) .leaf .leaf) (.node (some (.bool true)) .leaf .leaf)))
noncomputable def Vw_d46 : T Value := (.node (some (.pointer (some ⟨88, 0, none⟩))) Vw_d41 (.node (some Vw_d0) (.node (some (.pointer (some ⟨90, 0, none⟩))) Vw_d42 Vw_d43) Vw_d45))
noncomputable def Vw_d47 : Blk := (.cells ⟨2, (.node (some (.int .i64 11)) (.node (some (.int .i64 8)) .leaf .leaf) .leaf), (.tuple #[]), 3, true, 1, 0⟩)
noncomputable def Vw_d48 : Blk := (.cells ⟨2, (.node (some (.int .i64 11)) (.node (some (.int .i64 8)) .leaf .leaf) .leaf), (.tuple #[]), 3, false, 1, 0⟩)
noncomputable def Vw_d49 : T Blk := (.node none (.node none (.node none .leaf (.node none (.node none (.node (some Vw_d47) .leaf .leaf) .leaf) .leaf)) .leaf) (.node none (.node none .leaf (.node none (.node none (.node (some Vw_d48) .leaf .leaf) .leaf) .leaf)) .leaf))
noncomputable def Vw_d50 : T Value := (.node (some (.int .i64 33)) (.node (some (.int .i64 0)) (.node (some (.int .u64 0)) .leaf .leaf) (.node (some (.int .i64 0)) .leaf .leaf)) (.node (some (.int .u8 0)) (.node (some (.int .u64 0)) .leaf .leaf) (.node (some (.int .i64 0)) .leaf .leaf)))
noncomputable def Vw_d51 : Blk := (.cells ⟨15, (.node (some (.pointer (some ⟨88, 0, none⟩))) Vw_d50 Vw_d14), (.tuple #[]), 88, false, 1, 0⟩)
noncomputable def Vw_d52 : T Value := (.node none (.node (some (.int .u64 0)) .leaf (.node (some (.int .u64 16395)) (.node (some (.int .u64 9)) .leaf .leaf) .leaf)) (.node none .leaf (.node (some (.int .u64 0)) .leaf .leaf)))
noncomputable def Vw_d53 : T Value := (.node none (.node (some (.int .u64 0)) .leaf .leaf) (.node none (.node none (.node (some (.int .u64 0)) .leaf .leaf) .leaf) .leaf))
noncomputable def Vw_d54 : T Value := (.node none (.node none Vw_d52 (.node none (.node none .leaf (.node (some (.int .u64 4294968065)) .leaf .leaf)) .leaf)) (.node none Vw_d53 (.node none .leaf (.node none (.node (some (.int .u64 12)) .leaf .leaf) .leaf))))
noncomputable def Vw_d55 : T Blk := (.node none (.node none (.node none (.node (some Vw_d20) .leaf .leaf) .leaf) .leaf) (.node none (.node (some (.cells ⟨232, Vw_d54, (.int .u64 0), 39, false, 1, 0⟩)) .leaf .leaf) .leaf))
noncomputable def Vw_d56 : T Blk := (.node none (.node none .leaf (.node none .leaf (.node none (.node (some Vw_d51) .leaf .leaf) .leaf))) (.node none Vw_d55 .leaf))
noncomputable def Vw_A2 : Fr := { size := 82, m := (.node (some (.bool false)) Vw_d36 Vw_d46), opn := false }
noncomputable def Vw_H2 (t : TypeId) : Heap := { base := 1, next := 677, m := (.node (some (.cells (mkCells tab t))) (.node none (.node none Vw_d10 (.node none .leaf Vw_d49)) .leaf) (.node none (.node none Vw_d12 .leaf) Vw_d56)), hole := [] }
def Vw_p1 : Nat × List Nat := (44, [0, 86, 87, 88, 90, 134, 587, 603])
noncomputable def Vw_L0 : List Itm := bodyI (ftOf Tryd.prog) 11
noncomputable def Vw_L1 : List Itm := itmsAt (ftOf Tryd.prog) 11 [(3, [1, 1, 1, 1, 0, 9]), (0, [1, 1, 1, 1, 1])]
noncomputable def Vw_L2 : List Itm := itmsAt (ftOf Tryd.prog) 11 [(3, [1, 1, 1, 1, 0, 53]), (0, [1, 1, 1, 1, 1])]
end Go.Proofs.YtgokpcaijabhoaaDoor
namespace Go.Proofs.YtgokpcaijabhoaaDoor
open Go.Ev Go.RowKit
set_option maxRecDepth 100000
theorem Vw_r0 (t : TypeId) (G : Nat → Option Obj) : pieceI Tryd.prog (ftOf Tryd.prog) G (run0 Tryd.prog (ftOf Tryd.prog) (knG kng) G 100000) Vw_p0.1 Vw_p0.2 Vw_L0 (enterL (ftOf Tryd.prog) 11 #[]) (H0g Tryd.prog (gsT t)) = some (Vw_L1, Vw_A1, Vw_H1 t) := by kernel_rfl
theorem Vw_r1 (t : TypeId) (G : Nat → Option Obj) : pieceI Tryd.prog (ftOf Tryd.prog) G (run0 Tryd.prog (ftOf Tryd.prog) (knG kng) G 100000) Vw_p1.1 Vw_p1.2 Vw_L1 Vw_A1 (Vw_H1 t) = some (Vw_L2, Vw_A2, Vw_H2 t) := by kernel_rfl
end Go.Proofs.YtgokpcaijabhoaaDoor
namespace Go.Proofs.YtgokpcaijabhoaaDoor
open Go.Ev Go.RowKit
set_option maxRecDepth 100000
theorem Vw_e (t : TypeId) (G : Nat → Option Obj) : outEq (.bool true) (endL Tryd.prog (ftOf Tryd.prog) 11 (runQ Tryd.prog (ftOf Tryd.prog) G (run0 Tryd.prog (ftOf Tryd.prog) (knG kng) G 100000) 100000 [] Vw_L2 Vw_A2 (Vw_H2 t))) = true := by kernel_rfl
end Go.Proofs.YtgokpcaijabhoaaDoor
namespace Go.Proofs.YtgokpcaijabhoaaDoor
open Go.Ev Go.RowKit
set_option maxRecDepth 100000
noncomputable def Vw_A0 : Fr := enterL (ftOf Tryd.prog) 11 #[]
def Vw_q2 : List (Nat × List Nat) := []
def Vw_q1 : List (Nat × List Nat) := Vw_p1 :: Vw_q2
def Vw_q0 : List (Nat × List Nat) := Vw_p0 :: Vw_q1
theorem Vw_all (t : TypeId) (G : Nat → Option Obj) : outEq (.bool true) (endL Tryd.prog (ftOf Tryd.prog) 11 (runQ Tryd.prog (ftOf Tryd.prog) G (run0 Tryd.prog (ftOf Tryd.prog) (knG kng) G 100000) 100000 Vw_q0 Vw_L0 Vw_A0 (H0g Tryd.prog (gsT t)))) = true := by
  have e0 : runQ Tryd.prog (ftOf Tryd.prog) G (run0 Tryd.prog (ftOf Tryd.prog) (knG kng) G 100000) 100000 Vw_q0 Vw_L0 Vw_A0 (H0g Tryd.prog (gsT t)) = runQ Tryd.prog (ftOf Tryd.prog) G (run0 Tryd.prog (ftOf Tryd.prog) (knG kng) G 100000) 100000 Vw_q1 Vw_L1 Vw_A1 (Vw_H1 t) := runQ_cons (Vw_r0 t G)
  have e1 : runQ Tryd.prog (ftOf Tryd.prog) G (run0 Tryd.prog (ftOf Tryd.prog) (knG kng) G 100000) 100000 Vw_q1 Vw_L1 Vw_A1 (Vw_H1 t) = runQ Tryd.prog (ftOf Tryd.prog) G (run0 Tryd.prog (ftOf Tryd.prog) (knG kng) G 100000) 100000 Vw_q2 Vw_L2 Vw_A2 (Vw_H2 t) := runQ_cons (Vw_r1 t G)
  rw [e0, e1]
  exact Vw_e t G
theorem Vw_ok {t : TypeId} {w : World} (hw : GOk Tryd.prog (gsT t) w) : KnOk Tryd.prog w ⟨11, #[], .bool true⟩ := KnOk.itemsG env (by kernel_rfl) kng (by kernel_rfl) rfl rfl Vw_q0 (fun G => Vw_all t G) (by kernel_rfl) hw (kng_ok hw)
end Go.Proofs.YtgokpcaijabhoaaDoor
namespace Go.Proofs.YtgokpcaijabhoaaDoor
open Go.Ev Go.RowKit
set_option maxRecDepth 100000
set_option linter.unusedVariables false
section
variable {ty : TypeId}
set_option maxHeartbeats 4000000 in
theorem roundO {S : Sy} {i : Int} (N : InvO S i) (hi : i < S.ρ 17) : ∃ S1 S2, Stay [22, 23, 24, 27, 28, 29, 44, 45, 51, 66, 67, 68, 69, 70, 71, 72, 73, 74, 75, 76] [63] S S1 ∧ (∀ U, Stay [22, 23, 24, 27, 28, 29, 44, 45, 51, 66, 67, 68, 69, 70, 71, 72, 73, 74, 75, 76] [63] S2 U → StepTo Tryd.prog ftB ΛB (gsT ty) (cAt Tryd.prog lpOB) (XOB ty) (FOB ty) 300 S1 U) ∧ InvO S2 (i + 1) ∧ Stay [21, 50] [60] S1 S2 := by
  have hn := N.geo.n; have hw := N.geo.w; have h0 := N.i0; have hc := N.geo.c
  obtain ⟨T, R, y, lk0⟩ := prepB (ty := ty) N.geo N.mem N.i0 (by omega)
  have lk := lk0 T (Stay.refl _ _ _)
  have h21 : T.ρ 21 = i := (y.num 21 rfl).trans N.h21
  have f17 : T.ρ 17 = S.ρ 17 := y.num 17 rfl
  have f5 : T.ρ 5 = S.ρ 5 := y.num 5 rfl
  have hwi : i < T.ρ 17 := by omega
  have hws := R.geo.w
  have fin : WayO ty T i → ∃ S1 S2, Stay [22, 23, 24, 27, 28, 29, 44, 45, 51, 66, 67, 68, 69, 70, 71, 72, 73, 74, 75, 76] [63] S S1 ∧ (∀ U, Stay [22, 23, 24, 27, 28, 29, 44, 45, 51, 66, 67, 68, 69, 70, 71, 72, 73, 74, 75, 76] [63] S2 U → StepTo Tryd.prog ftB ΛB (gsT ty) (cAt Tryd.prog lpOB) (XOB ty) (FOB ty) 300 S1 U) ∧ InvO S2 (i + 1) ∧ Stay [21, 50] [60] S1 S2 := fun ⟨_, h⟩ => ⟨T, _, y, h.1, h.2.1, h.2.2⟩
  rcases (show (T.ρ 20 + i) % 4 = 0 ∨ (T.ρ 20 + i) % 4 = 1 ∨ (T.ρ 20 + i) % 4 = 2 ∨ (T.ρ 20 + i) % 4 = 3 from by omega) with hd | hd | hd | hd
  · by_cases hl : T.ρ 5 - i - 1 = 1
    · exact fin (wayO100 R h21 hwi hd hl (by rw [R.e74, R.e68, R.e73, R.e67]; have := lg_ne (x := T.ρ 5 - i) (y := T.ρ 5 - i - 1) (by omega) hl; omega) lk)
    · by_cases hs : T.ρ 74 = T.ρ 68
      · exact fin (wayO210 R h21 hwi hd (by omega) hs lk)
      · exact fin (wayO200 R h21 hwi hd (by omega) hs lk)
  · by_cases hl : T.ρ 5 - i - 1 = 1
    · exact fin (wayO101 R h21 hwi hd hl (by rw [R.e74, R.e68, R.e73, R.e67]; have := lg_ne (x := T.ρ 5 - i) (y := T.ρ 5 - i - 1) (by omega) hl; omega) lk)
    · by_cases hs : T.ρ 74 = T.ρ 68
      · exact fin (wayO211 R h21 hwi hd (by omega) hs lk)
      · exact fin (wayO201 R h21 hwi hd (by omega) hs lk)
  · by_cases hl : T.ρ 5 - i - 1 = 1
    · exact fin (wayO102 R h21 hwi hd hl (by rw [R.e74, R.e68, R.e73, R.e67]; have := lg_ne (x := T.ρ 5 - i) (y := T.ρ 5 - i - 1) (by omega) hl; omega) lk)
    · by_cases hs : T.ρ 74 = T.ρ 68
      · exact fin (wayO212 R h21 hwi hd (by omega) hs lk)
      · exact fin (wayO202 R h21 hwi hd (by omega) hs lk)
  · by_cases hl : T.ρ 5 - i - 1 = 1
    · exact fin (wayO103 R h21 hwi hd hl (by rw [R.e74, R.e68, R.e73, R.e67]; have := lg_ne (x := T.ρ 5 - i) (y := T.ρ 5 - i - 1) (by omega) hl; omega) lk)
    · by_cases hs : T.ρ 74 = T.ρ 68
      · exact fin (wayO213 R h21 hwi hd (by omega) hs lk)
      · exact fin (wayO203 R h21 hwi hd (by omega) hs lk)
theorem chainO : ∀ (m : Nat) (S0 : Sy) (i : Int), InvO S0 i → i + m = S0.ρ 17 → ∃ Sa Sf, Chain (StepTo Tryd.prog ftB ΛB (gsT ty) (cAt Tryd.prog lpOB) (XOB ty) (FOB ty) 300) m Sa Sf ∧ InvO Sf (Sf.ρ 17) ∧ Stay [22, 23, 24, 27, 28, 29, 44, 45, 51, 66, 67, 68, 69, 70, 71, 72, 73, 74, 75, 76] [63] S0 Sa ∧ Stay [21, 22, 23, 24, 27, 28, 29, 44, 45, 50, 51, 66, 67, 68, 69, 70, 71, 72, 73, 74, 75, 76] [60, 63] Sa Sf
  | 0, S0, i, N, h => ⟨S0, S0, .nil _, by rwa [show S0.ρ 17 = i by omega], Stay.refl _ _ _, Stay.refl _ _ _⟩
  | m + 1, S0, i, N, h => by
    obtain ⟨S1, S2, y1, st, N2, y⟩ := roundO (ty := ty) N (by omega)
    have e := y1.num 17 rfl
    have e2 := y.num 17 rfl
    obtain ⟨Sa, Sf, ch, Nf, ya, z⟩ := chainO m S2 (i + 1) N2 (by omega)
    exact ⟨S1, Sf, .cons (st Sa ya) ch, Nf, y1, stay_weak (y.trans (ya.trans z)) rfl rfl⟩
end
def awT : Tm := .appB 9 .nil
theorem aw_den {S : Sy} (h : S.Φ 9 [] = 1) : awT.den S = some [b2i true] := by
  show some [b2i (decide (S.Φ 9 [] ≠ 0))] = _
  rw [h]; rfl
theorem awake_any (w : World) (hw : ∃ ty, GOk Tryd.prog (gsT ty) w) : Calls Tryd.prog 11 #[] w fun e w' => e = .returned (.bool true) ∧ Quiet w w' := by
  obtain ⟨ty, hw⟩ := hw
  exact (Vw_ok hw).now hw.room
def cAw : Ctr := ⟨11, [], [.one .bool], 9, fun _ => true⟩
theorem cAw_ok (ty : TypeId) (S : Sy) (h : S.Φ 9 [] = 1) : CtrOk Tryd.prog S (gsT ty) cAw := by
  intro a ns _ _ hl w hw
  obtain rfl := len0 (show ns.length = 0 from hl)
  refine (awake_any w ⟨ty, hw⟩).mono fun e w' ⟨h1, h2⟩ => ⟨?_, h2⟩
  rw [h1]
  show _ = Ending.returned (.bool (decide (S.Φ 9 [] ≠ 0)))
  rw [h]; rfl
def askO0 : Asg := [(5, .num (Tm.enc (.var .i64 5))), (17, .num (Tm.enc (.var .i64 17))), (20, .num (Tm.enc (.var .i64 20))), (21, .num (Tm.enc (.lit .i64 0))), (42, .num (Tm.enc (.var .i64 42))), (60, .arr (.upd (.upd .zero (Tm.enc (.lit .i64 22)) (Tm.enc (.bin .or (.bin .or (.bin .or (.lit .u64 1) (.bin .shl (.bin .and (.conv .u64 (.var .i64 5)) (.lit .u64 1023)) (.lit .u64 3))) (.lit .u64 0)) (.lit .u64 0)))) (Tm.enc (.var .i64 64)) (Tm.enc (.lit .u64 1)))), (18, .num (Tm.enc (.var .i64 18))), (61, .arr .zero), (18, .num (Tm.enc (.var .i64 18))), (42, .num (Tm.enc (.var .i64 42))), (50, .num (Tm.enc (.lit .i64 2))), (42, .num (Tm.enc (.var .i64 42))), (41, .num (Tm.enc (.var .i64 41))), (40, .num (Tm.enc (.var .i64 40))), (39, .num (Tm.enc (.var .i64 39))), (38, .num (Tm.enc (.var .i64 38))), (37, .num (Tm.enc (.var .i64 37))), (36, .num (Tm.enc (.var .i64 36))), (35, .num (Tm.enc (.var .i64 35))), (34, .num (Tm.enc (.var .i64 34))), (33, .num (Tm.enc (.var .i64 33))), (32, .num (Tm.enc (.var .i64 32))), (31, .num (Tm.enc (.var .i64 31))), (5, .num (Tm.enc (.var .i64 5)))]
noncomputable abbrev lkO0 (ty : TypeId) := lkLoopR Tryd.prog 300 [(310, 115)] (XOB ty) (FOB ty) (.exit 0) askO0
set_option maxHeartbeats 8000000 in
theorem preL0 {SS : Sy} (ty : TypeId) (g : GeoS SS) (e45s : SS.ρ 45 = SS.ρ 5 - 1) (e71s : SS.ρ 71 = 21 + SS.ρ 5) (e62 : SS.ρ 62 = lg (SS.ρ 5)) (e64 : SS.ρ 64 = 7 + SS.ρ 62) (hm : SS.ρ 5 = 1) : ∃ T1, RNm T1 (T1.ρ 17) ∧ Stay [21, 22, 23, 24, 27, 28, 29, 44, 45, 50, 51, 66, 67, 68, 69, 70, 71, 72, 73, 74, 75, 76] [60, 61, 63] SS T1 ∧ ∀ T, Stay [77, 78, 79, 83, 84, 85, 88, 101, 102, 103, 104, 105, 106, 107, 111, 112, 113, 114, 115, 116, 117, 120, 121, 122, 123, 124, 125, 126, 127] [65] T1 T → LkAt Tryd.prog T (gsT ty) (.loop (cAt Tryd.prog lpOB)) (lkO0 ty) ∧ LkAt Tryd.prog T (gsT ty) (.loop (cAt Tryd.prog lpBB)) (lkB ty) := by
  have hK := g.K
  have hn := g.n; have hws := g.w; have hcs := g.c
  have b62 := lg_in (SS.ρ 5)
  rw [← e62] at b62
  obtain ⟨S00, hS0⟩ : ∃ S0 : Sy, S0 = SS.set (upd SS.ρ [(21, 0), (50, 2)]) [(60, (fun j => ifE j (SS.ρ 64) ((1 : Int)) ((fun j => ifE j ((22 : Int)) ((opZ .or .u64 ((opZ .or .u64 ((opZ .or .u64 ((1 : Int)) ((opZ .shl .u64 ((opZ .and .u64 ((IntKind.u64.wrap (SS.ρ 5))) ((1023 : Int)))) ((3 : Int)))))) ((0 : Int)))) ((0 : Int)))) ((fun _ => 0) j)) j))), (61, fun _ => 0)] 60 rfl hK := ⟨_, rfl⟩
  have q0 : Stay [21, 50] [60, 61] SS S00 := by rw [hS0]; exact (Stay.refl _ _ _).set rfl rfl
  have s0_21 : S00.ρ 21 = 0 := by rw [hS0]; rfl
  have s0_50 : S00.ρ 50 = 2 := by rw [hS0]; rfl
  have z0_60 : ∀ j : Int, S00.Φ 60 [j] = ((fun j => ifE j (SS.ρ 64) ((1 : Int)) ((fun j => ifE j ((22 : Int)) ((opZ .or .u64 ((opZ .or .u64 ((opZ .or .u64 ((1 : Int)) ((opZ .shl .u64 ((opZ .and .u64 ((IntKind.u64.wrap (SS.ρ 5))) ((1023 : Int)))) ((3 : Int)))))) ((0 : Int)))) ((0 : Int)))) ((fun _ => 0) j)) j))) j := by rw [hS0]; intro j; rfl
  have z0_61 : ∀ j : Int, S00.Φ 61 [j] = (0 : Int) := by rw [hS0]; intro j; rfl
  clear hS0
  have f5 : S00.ρ 5 = SS.ρ 5 := q0.num 5 rfl
  have hm0 : Mem S00 60 0 := by
    refine ⟨fun j h0 h1 => by omega, fun h1 => ?_, fun j h0 h1 => by omega, fun j h0 h1 => ?_⟩
    · rw [z0_60, f5]
      dsimp only [ifE]
      rw [if_neg (by omega), if_pos (by omega)]
      exact (wordF (l := SS.ρ 5) hn).trans (by congr 1; omega)
    · rw [z0_60, f5]
      rw [f5] at h1
      dsimp only [ifE]
      rw [if_neg (by omega), if_neg (by omega)]
  obtain ⟨Sa, Sf, chO, NO, ya, z⟩ := chainO (ty := ty) (SS.ρ 17).toNat S00 0 ⟨g.stay q0 rfl rfl, by omega, by rw [q0.num 17 rfl]; omega, s0_21, hm0⟩ (by rw [q0.num 17 rfl]; omega)
  have yf : Stay [21, 22, 23, 24, 27, 28, 29, 44, 45, 50, 51, 66, 67, 68, 69, 70, 71, 72, 73, 74, 75, 76] [60, 61, 63] SS Sf := stay_weak (q0.trans (ya.trans z)) rfl rfl
  have w17 : Sf.ρ 17 = SS.ρ 17 := yf.num 17 rfl
  have w5 : Sf.ρ 5 = SS.ρ 5 := yf.num 5 rfl
  obtain ⟨T1, R, yB, lk0⟩ := prepB (ty := ty) NO.geo NO.mem NO.i0 (by omega)
  have v17 : T1.ρ 17 = Sf.ρ 17 := yB.num 17 rfl
  rw [← v17] at R
  refine ⟨T1, R, stay_weak (yf.trans yB) rfl rfl, fun T y13 => ⟨?_, lk0 T y13⟩⟩
  have pO : Stay [21, 22, 23, 24, 27, 28, 29, 44, 45, 50, 51, 66, 67, 68, 69, 70, 71, 72, 73, 74, 75, 76, 77, 78, 79, 83, 84, 85, 88, 101, 102, 103, 104, 105, 106, 107, 111, 112, 113, 114, 115, 116, 117, 120, 121, 122, 123, 124, 125, 126, 127] [60, 61, 63, 65] SS T := stay_weak (yf.trans (yB.trans y13)) rfl rfl
  have zT : Stay [21, 22, 23, 24, 27, 28, 29, 44, 45, 50, 51, 66, 67, 68, 69, 70, 71, 72, 73, 74, 75, 76, 77, 78, 79, 83, 84, 85, 88, 101, 102, 103, 104, 105, 106, 107, 111, 112, 113, 114, 115, 116, 117, 120, 121, 122, 123, 124, 125, 126, 127] [60, 63, 65] Sa T := stay_weak (z.trans (yB.trans y13)) rfl rfl
  have u5 : T.ρ 5 = SS.ρ 5 := pO.num 5 rfl
  have u71 : T.ρ 71 = SS.ρ 71 := by rw [y13.num 71 rfl, R.e71, ← y13.num 5 rfl, u5, e71s]
  have u45 : T.ρ 45 = SS.ρ 45 := by rw [y13.num 45 rfl, R.e45, ← y13.num 5 rfl, u5, e45s]
  have u62 : T.ρ 62 = SS.ρ 62 := pO.num 62 rfl
  have u64 : T.ρ 64 = SS.ρ 64 := pO.num 64 rfl
  have haO : AsgOk T Sa askO0 := (an 5 (.var .i64 5) (sm (zT.num 5 rfl)) (an 17 (.var .i64 17) (sm (zT.num 17 rfl)) (an 20 (.var .i64 20) (sm (zT.num 20 rfl)) (an 21 (.lit .i64 0) (sm ((ya.num 21 rfl).trans s0_21).symm) (an 42 (.var .i64 42) (sm (zT.num 42 rfl)) (ar 60 (ar_upd (.var .i64 64) (.lit .u64 1) (i := T.ρ 64) (v := (1 : Int)) rfl rfl (by kernel_rfl) (ar_upd (.lit .i64 22) (.bin .or (.bin .or (.bin .or (.lit .u64 1) (.bin .shl (.bin .and (.conv .u64 (.var .i64 5)) (.lit .u64 1023)) (.lit .u64 3))) (.lit .u64 0)) (.lit .u64 0)) (i := (22 : Int)) (v := (opZ .or .u64 ((opZ .or .u64 ((opZ .or .u64 ((1 : Int)) ((opZ .shl .u64 ((opZ .and .u64 ((IntKind.u64.wrap (T.ρ 5))) ((1023 : Int)))) ((3 : Int)))))) ((0 : Int)))) ((0 : Int)))) rfl rfl (by kernel_rfl) ar_zero)) (an 18 (.var .i64 18) (sm (zT.num 18 rfl)) (asg_arr (i := 61) (fun j => congrArg some ((ya.fn 61 rfl _).trans (z0_61 j)).symm) (an 18 (.var .i64 18) (sm (zT.num 18 rfl)) (an 42 (.var .i64 42) (sm (zT.num 42 rfl)) (an 50 (.lit .i64 2) (sm ((ya.num 50 rfl).trans s0_50).symm) (an 42 (.var .i64 42) (sm (zT.num 42 rfl)) (an 41 (.var .i64 41) (sm (zT.num 41 rfl)) (an 40 (.var .i64 40) (sm (zT.num 40 rfl)) (an 39 (.var .i64 39) (sm (zT.num 39 rfl)) (an 38 (.var .i64 38) (sm (zT.num 38 rfl)) (an 37 (.var .i64 37) (sm (zT.num 37 rfl)) (an 36 (.var .i64 36) (sm (zT.num 36 rfl)) (an 35 (.var .i64 35) (sm (zT.num 35 rfl)) (an 34 (.var .i64 34) (sm (zT.num 34 rfl)) (an 33 (.var .i64 33) (sm (zT.num 33 rfl)) (an 32 (.var .i64 32) (sm (zT.num 32 rfl)) (an 31 (.var .i64 31) (sm (zT.num 31 rfl)) (an 5 (.var .i64 5) (sm (zT.num 5 rfl)) (asg_nil zT.1.symm))))))))))))))))))) (fun j => show (fun j => ifE j (T.ρ 64) ((1 : Int)) ((fun j => ifE j ((22 : Int)) ((opZ .or .u64 ((opZ .or .u64 ((opZ .or .u64 ((1 : Int)) ((opZ .shl .u64 ((opZ .and .u64 ((IntKind.u64.wrap (T.ρ 5))) ((1023 : Int)))) ((3 : Int)))))) ((0 : Int)))) ((0 : Int)))) ((fun _ => 0) j)) j)) (j : Int) = _ from by dsimp only; simp only [u5, u64]; exact ((ya.fn 60 rfl _).trans (z0_60 j)).symm)))))))
  exact loop_chain envB (ann_self _) fineOB (show (XOB ty).N = (FOB ty).N from rfl) (Nat.le_of_ble_eq_true rfl) chO (outO NO rfl ((yB.trans y13).same rfl rfl)) haO (hX := GlOk.of (by kernel_rfl) (by kernel_rfl)) (hF := GlOk.of (by kernel_rfl) (by kernel_rfl))
def askO1 : Asg := [(5, .num (Tm.enc (.var .i64 5))), (17, .num (Tm.enc (.var .i64 17))), (20, .num (Tm.enc (.var .i64 20))), (21, .num (Tm.enc (.lit .i64 0))), (42, .num (Tm.enc (.var .i64 42))), (60, .arr (.upd (.upd (.upd .zero (Tm.enc (.var .i64 71)) (Tm.enc (.bin .or (.bin .or (.bin .or (.lit .u64 2) (.bin .shl (.bin .and (.conv .u64 (.var .i64 5)) (.lit .u64 1023)) (.lit .u64 3))) (.lit .u64 0)) (.lit .u64 0)))) (Tm.enc (.lit .i64 22)) (Tm.enc (.bin .or (.bin .or (.bin .or (.lit .u64 1) (.bin .shl (.bin .and (.conv .u64 (.var .i64 5)) (.lit .u64 1023)) (.lit .u64 3))) (.lit .u64 0)) (.lit .u64 0)))) (Tm.enc (.var .i64 64)) (Tm.enc (.lit .u64 1)))), (18, .num (Tm.enc (.var .i64 18))), (61, .arr .zero), (18, .num (Tm.enc (.var .i64 18))), (42, .num (Tm.enc (.var .i64 42))), (50, .num (Tm.enc (.lit .i64 3))), (42, .num (Tm.enc (.var .i64 42))), (41, .num (Tm.enc (.var .i64 41))), (40, .num (Tm.enc (.var .i64 40))), (39, .num (Tm.enc (.var .i64 39))), (38, .num (Tm.enc (.var .i64 38))), (37, .num (Tm.enc (.var .i64 37))), (36, .num (Tm.enc (.var .i64 36))), (35, .num (Tm.enc (.var .i64 35))), (34, .num (Tm.enc (.var .i64 34))), (33, .num (Tm.enc (.var .i64 33))), (32, .num (Tm.enc (.var .i64 32))), (31, .num (Tm.enc (.var .i64 31))), (5, .num (Tm.enc (.var .i64 5)))]
noncomputable abbrev lkO1 (ty : TypeId) := lkLoopR Tryd.prog 300 [(310, 124)] (XOB ty) (FOB ty) (.exit 0) askO1
set_option maxHeartbeats 8000000 in
theorem preL1 {SS : Sy} (ty : TypeId) (g : GeoS SS) (e45s : SS.ρ 45 = SS.ρ 5 - 1) (e71s : SS.ρ 71 = 21 + SS.ρ 5) (e62 : SS.ρ 62 = lg (SS.ρ 5)) (e64 : SS.ρ 64 = 7 + SS.ρ 62) (hm : 1 < SS.ρ 5) : ∃ T1, RNm T1 (T1.ρ 17) ∧ Stay [21, 22, 23, 24, 27, 28, 29, 44, 45, 50, 51, 66, 67, 68, 69, 70, 71, 72, 73, 74, 75, 76] [60, 61, 63] SS T1 ∧ ∀ T, Stay [77, 78, 79, 83, 84, 85, 88, 101, 102, 103, 104, 105, 106, 107, 111, 112, 113, 114, 115, 116, 117, 120, 121, 122, 123, 124, 125, 126, 127] [65] T1 T → LkAt Tryd.prog T (gsT ty) (.loop (cAt Tryd.prog lpOB)) (lkO1 ty) ∧ LkAt Tryd.prog T (gsT ty) (.loop (cAt Tryd.prog lpBB)) (lkB ty) := by
  have hK := g.K
  have hn := g.n; have hws := g.w; have hcs := g.c
  have b62 := lg_in (SS.ρ 5)
  rw [← e62] at b62
  obtain ⟨S00, hS0⟩ : ∃ S0 : Sy, S0 = SS.set (upd SS.ρ [(21, 0), (50, 3)]) [(60, (fun j => ifE j (SS.ρ 64) ((1 : Int)) ((fun j => ifE j ((22 : Int)) ((opZ .or .u64 ((opZ .or .u64 ((opZ .or .u64 ((1 : Int)) ((opZ .shl .u64 ((opZ .and .u64 ((IntKind.u64.wrap (SS.ρ 5))) ((1023 : Int)))) ((3 : Int)))))) ((0 : Int)))) ((0 : Int)))) ((fun j => ifE j (SS.ρ 71) ((opZ .or .u64 ((opZ .or .u64 ((opZ .or .u64 ((2 : Int)) ((opZ .shl .u64 ((opZ .and .u64 ((IntKind.u64.wrap (SS.ρ 5))) ((1023 : Int)))) ((3 : Int)))))) ((0 : Int)))) ((0 : Int)))) ((fun _ => 0) j)) j)) j))), (61, fun _ => 0)] 60 rfl hK := ⟨_, rfl⟩
  have q0 : Stay [21, 50] [60, 61] SS S00 := by rw [hS0]; exact (Stay.refl _ _ _).set rfl rfl
  have s0_21 : S00.ρ 21 = 0 := by rw [hS0]; rfl
  have s0_50 : S00.ρ 50 = 3 := by rw [hS0]; rfl
  have z0_60 : ∀ j : Int, S00.Φ 60 [j] = ((fun j => ifE j (SS.ρ 64) ((1 : Int)) ((fun j => ifE j ((22 : Int)) ((opZ .or .u64 ((opZ .or .u64 ((opZ .or .u64 ((1 : Int)) ((opZ .shl .u64 ((opZ .and .u64 ((IntKind.u64.wrap (SS.ρ 5))) ((1023 : Int)))) ((3 : Int)))))) ((0 : Int)))) ((0 : Int)))) ((fun j => ifE j (SS.ρ 71) ((opZ .or .u64 ((opZ .or .u64 ((opZ .or .u64 ((2 : Int)) ((opZ .shl .u64 ((opZ .and .u64 ((IntKind.u64.wrap (SS.ρ 5))) ((1023 : Int)))) ((3 : Int)))))) ((0 : Int)))) ((0 : Int)))) ((fun _ => 0) j)) j)) j))) j := by rw [hS0]; intro j; rfl
  have z0_61 : ∀ j : Int, S00.Φ 61 [j] = (0 : Int) := by rw [hS0]; intro j; rfl
  clear hS0
  have f5 : S00.ρ 5 = SS.ρ 5 := q0.num 5 rfl
  have hm0 : Mem S00 60 0 := by
    refine ⟨fun j h0 h1 => by omega, fun h1 => ?_, fun j h0 h1 => by omega, fun j h0 h1 => ?_⟩
    · rw [z0_60, f5]
      dsimp only [ifE]
      rw [if_neg (by omega), if_pos (by omega)]
      exact (wordF (l := SS.ρ 5) hn).trans (by congr 1; omega)
    · rw [z0_60, f5]
      rw [f5] at h1
      dsimp only [ifE]
      rw [if_neg (by omega), if_neg (by omega), if_neg (by omega)]
  obtain ⟨Sa, Sf, chO, NO, ya, z⟩ := chainO (ty := ty) (SS.ρ 17).toNat S00 0 ⟨g.stay q0 rfl rfl, by omega, by rw [q0.num 17 rfl]; omega, s0_21, hm0⟩ (by rw [q0.num 17 rfl]; omega)
  have yf : Stay [21, 22, 23, 24, 27, 28, 29, 44, 45, 50, 51, 66, 67, 68, 69, 70, 71, 72, 73, 74, 75, 76] [60, 61, 63] SS Sf := stay_weak (q0.trans (ya.trans z)) rfl rfl
  have w17 : Sf.ρ 17 = SS.ρ 17 := yf.num 17 rfl
  have w5 : Sf.ρ 5 = SS.ρ 5 := yf.num 5 rfl
  obtain ⟨T1, R, yB, lk0⟩ := prepB (ty := ty) NO.geo NO.mem NO.i0 (by omega)
  have v17 : T1.ρ 17 = Sf.ρ 17 := yB.num 17 rfl
  rw [← v17] at R
  refine ⟨T1, R, stay_weak (yf.trans yB) rfl rfl, fun T y13 => ⟨?_, lk0 T y13⟩⟩
  have pO : Stay [21, 22, 23, 24, 27, 28, 29, 44, 45, 50, 51, 66, 67, 68, 69, 70, 71, 72, 73, 74, 75, 76, 77, 78, 79, 83, 84, 85, 88, 101, 102, 103, 104, 105, 106, 107, 111, 112, 113, 114, 115, 116, 117, 120, 121, 122, 123, 124, 125, 126, 127] [60, 61, 63, 65] SS T := stay_weak (yf.trans (yB.trans y13)) rfl rfl
  have zT : Stay [21, 22, 23, 24, 27, 28, 29, 44, 45, 50, 51, 66, 67, 68, 69, 70, 71, 72, 73, 74, 75, 76, 77, 78, 79, 83, 84, 85, 88, 101, 102, 103, 104, 105, 106, 107, 111, 112, 113, 114, 115, 116, 117, 120, 121, 122, 123, 124, 125, 126, 127] [60, 63, 65] Sa T := stay_weak (z.trans (yB.trans y13)) rfl rfl
  have u5 : T.ρ 5 = SS.ρ 5 := pO.num 5 rfl
  have u71 : T.ρ 71 = SS.ρ 71 := by rw [y13.num 71 rfl, R.e71, ← y13.num 5 rfl, u5, e71s]
  have u45 : T.ρ 45 = SS.ρ 45 := by rw [y13.num 45 rfl, R.e45, ← y13.num 5 rfl, u5, e45s]
  have u62 : T.ρ 62 = SS.ρ 62 := pO.num 62 rfl
  have u64 : T.ρ 64 = SS.ρ 64 := pO.num 64 rfl
  have haO : AsgOk T Sa askO1 := (an 5 (.var .i64 5) (sm (zT.num 5 rfl)) (an 17 (.var .i64 17) (sm (zT.num 17 rfl)) (an 20 (.var .i64 20) (sm (zT.num 20 rfl)) (an 21 (.lit .i64 0) (sm ((ya.num 21 rfl).trans s0_21).symm) (an 42 (.var .i64 42) (sm (zT.num 42 rfl)) (ar 60 (ar_upd (.var .i64 64) (.lit .u64 1) (i := T.ρ 64) (v := (1 : Int)) rfl rfl (by kernel_rfl) (ar_upd (.lit .i64 22) (.bin .or (.bin .or (.bin .or (.lit .u64 1) (.bin .shl (.bin .and (.conv .u64 (.var .i64 5)) (.lit .u64 1023)) (.lit .u64 3))) (.lit .u64 0)) (.lit .u64 0)) (i := (22 : Int)) (v := (opZ .or .u64 ((opZ .or .u64 ((opZ .or .u64 ((1 : Int)) ((opZ .shl .u64 ((opZ .and .u64 ((IntKind.u64.wrap (T.ρ 5))) ((1023 : Int)))) ((3 : Int)))))) ((0 : Int)))) ((0 : Int)))) rfl rfl (by kernel_rfl) (ar_upd (.var .i64 71) (.bin .or (.bin .or (.bin .or (.lit .u64 2) (.bin .shl (.bin .and (.conv .u64 (.var .i64 5)) (.lit .u64 1023)) (.lit .u64 3))) (.lit .u64 0)) (.lit .u64 0)) (i := T.ρ 71) (v := (opZ .or .u64 ((opZ .or .u64 ((opZ .or .u64 ((2 : Int)) ((opZ .shl .u64 ((opZ .and .u64 ((IntKind.u64.wrap (T.ρ 5))) ((1023 : Int)))) ((3 : Int)))))) ((0 : Int)))) ((0 : Int)))) rfl rfl (by kernel_rfl) ar_zero))) (an 18 (.var .i64 18) (sm (zT.num 18 rfl)) (asg_arr (i := 61) (fun j => congrArg some ((ya.fn 61 rfl _).trans (z0_61 j)).symm) (an 18 (.var .i64 18) (sm (zT.num 18 rfl)) (an 42 (.var .i64 42) (sm (zT.num 42 rfl)) (an 50 (.lit .i64 3) (sm ((ya.num 50 rfl).trans s0_50).symm) (an 42 (.var .i64 42) (sm (zT.num 42 rfl)) (an 41 (.var .i64 41) (sm (zT.num 41 rfl)) (an 40 (.var .i64 40) (sm (zT.num 40 rfl)) (an 39 (.var .i64 39) (sm (zT.num 39 rfl)) (an 38 (.var .i64 38) (sm (zT.num 38 rfl)) (an 37 (.var .i64 37) (sm (zT.num 37 rfl)) (an 36 (.var .i64 36) (sm (zT.num 36 rfl)) (an 35 (.var .i64 35) (sm (zT.num 35 rfl)) (an 34 (.var .i64 34) (sm (zT.num 34 rfl)) (an 33 (.var .i64 33) (sm (zT.num 33 rfl)) (an 32 (.var .i64 32) (sm (zT.num 32 rfl)) (an 31 (.var .i64 31) (sm (zT.num 31 rfl)) (an 5 (.var .i64 5) (sm (zT.num 5 rfl)) (asg_nil zT.1.symm))))))))))))))))))) (fun j => show (fun j => ifE j (T.ρ 64) ((1 : Int)) ((fun j => ifE j ((22 : Int)) ((opZ .or .u64 ((opZ .or .u64 ((opZ .or .u64 ((1 : Int)) ((opZ .shl .u64 ((opZ .and .u64 ((IntKind.u64.wrap (T.ρ 5))) ((1023 : Int)))) ((3 : Int)))))) ((0 : Int)))) ((0 : Int)))) ((fun j => ifE j (T.ρ 71) ((opZ .or .u64 ((opZ .or .u64 ((opZ .or .u64 ((2 : Int)) ((opZ .shl .u64 ((opZ .and .u64 ((IntKind.u64.wrap (T.ρ 5))) ((1023 : Int)))) ((3 : Int)))))) ((0 : Int)))) ((0 : Int)))) ((fun _ => 0) j)) j)) j)) (j : Int) = _ from by dsimp only; simp only [u5, u64, u71]; exact ((ya.fn 60 rfl _).trans (z0_60 j)).symm)))))))
  exact loop_chain envB (ann_self _) fineOB (show (XOB ty).N = (FOB ty).N from rfl) (Nat.le_of_ble_eq_true rfl) chO (outO NO rfl ((yB.trans y13).same rfl rfl)) haO (hX := GlOk.of (by kernel_rfl) (by kernel_rfl)) (hF := GlOk.of (by kernel_rfl) (by kernel_rfl))
def askC (r : ACode) : Asg := [(17, .num (Tm.enc (.var .i64 17))), (20, .num (Tm.enc (.var .i64 20))), (83, .num (Tm.enc (.lit .i64 0))), (42, .num (Tm.enc (.var .i64 42))), (65, .arr r), (18, .num (Tm.enc (.var .i64 18))), (61, .arr (.var 61)), (18, .num (Tm.enc (.var .i64 18))), (42, .num (Tm.enc (.var .i64 42))), (42, .num (Tm.enc (.var .i64 42))), (41, .num (Tm.enc (.var .i64 41))), (40, .num (Tm.enc (.var .i64 40))), (39, .num (Tm.enc (.var .i64 39))), (38, .num (Tm.enc (.var .i64 38))), (37, .num (Tm.enc (.var .i64 37))), (36, .num (Tm.enc (.var .i64 36))), (35, .num (Tm.enc (.var .i64 35))), (34, .num (Tm.enc (.var .i64 34))), (33, .num (Tm.enc (.var .i64 33))), (32, .num (Tm.enc (.var .i64 32))), (31, .num (Tm.enc (.var .i64 31))), (5, .num (Tm.enc (.var .i64 5)))]
noncomputable abbrev lkC (r : ACode) (ty : TypeId) := lkLoopR Tryd.prog 3000 [] (XCB ty) FCB (.exit 6) (askC r)
theorem askC_ok {T T2 : Sy} {r : ACode} {g : Int → Int} (hr : Row T r g) (hg : ∀ j : Nat, g (j : Int) = T2.Φ 65 [(j : Int)]) (h83 : T2.ρ 83 = 0) (y : Stay [83, 84, 85, 88] [] T2 T) : AsgOk T T2 (askC r) := (an 17 (.var .i64 17) (sm (y.num 17 rfl)) (an 20 (.var .i64 20) (sm (y.num 20 rfl)) (an 83 (.lit .i64 0) (sm h83.symm) (an 42 (.var .i64 42) (sm (y.num 42 rfl)) (ar 65 hr (an 18 (.var .i64 18) (sm (y.num 18 rfl)) (asg_arr (i := 61) (y.row 61 rfl) (an 18 (.var .i64 18) (sm (y.num 18 rfl)) (an 42 (.var .i64 42) (sm (y.num 42 rfl)) (an 42 (.var .i64 42) (sm (y.num 42 rfl)) (an 41 (.var .i64 41) (sm (y.num 41 rfl)) (an 40 (.var .i64 40) (sm (y.num 40 rfl)) (an 39 (.var .i64 39) (sm (y.num 39 rfl)) (an 38 (.var .i64 38) (sm (y.num 38 rfl)) (an 37 (.var .i64 37) (sm (y.num 37 rfl)) (an 36 (.var .i64 36) (sm (y.num 36 rfl)) (an 35 (.var .i64 35) (sm (y.num 35 rfl)) (an 34 (.var .i64 34) (sm (y.num 34 rfl)) (an 33 (.var .i64 33) (sm (y.num 33 rfl)) (an 32 (.var .i64 32) (sm (y.num 32 rfl)) (an 31 (.var .i64 31) (sm (y.num 31 rfl)) (an 5 (.var .i64 5) (sm (y.num 5 rfl)) (asg_nil y.1.symm)))))))))))))))))) hg)))))
set_option maxHeartbeats 8000000 in
theorem postL0 {T1 : Sy} (ty : TypeId) (R : RNm T1 (T1.ρ 17)) (hd : T1.ρ 20 = 0) (g : Int → Int) (hg : ∀ j : Int, 0 ≤ j → j < T1.ρ 17 → g (22 + T1.ρ 5 + j) = T1.Φ 63 [22 + T1.ρ 5 + j]) : ∃ T2 T, T2.ρ 83 = 0 ∧ (∀ j : Int, T2.Φ 65 [j] = g j) ∧ Stay [83, 84, 85, 88] [] T2 T ∧ Stay [77, 78, 79, 83, 84, 85, 88, 101, 102, 103, 104, 105, 106, 107, 111, 112, 113, 114, 115, 116, 117, 120, 121, 122, 123, 124, 125, 126, 127] [65] T1 T ∧ TNm0 T ∧ ∀ r, AsgOk T T2 (askC r) → LkAt Tryd.prog T (gsT ty) (.loop (cAt Tryd.prog lpCB)) (lkC r ty) := by
  have hK1 := R.geo.K
  obtain ⟨T2, hT2⟩ : ∃ T : Sy, T = T1.set (upd T1.ρ [(77, 8 * T1.ρ 17), (78, 64 * T1.ρ 17), (79, 64 * T1.ρ 17 + 64), (120, 64 * T1.ρ 17 + 8), (101, 8 * T1.ρ 17 + 1), (111, 64 * T1.ρ 17 + 8), (121, 64 * T1.ρ 17 + 16), (102, 8 * T1.ρ 17 + 2), (112, 64 * T1.ρ 17 + 16), (122, 64 * T1.ρ 17 + 24), (103, 8 * T1.ρ 17 + 3), (113, 64 * T1.ρ 17 + 24), (123, 64 * T1.ρ 17 + 32), (104, 8 * T1.ρ 17 + 4), (114, 64 * T1.ρ 17 + 32), (124, 64 * T1.ρ 17 + 40), (105, 8 * T1.ρ 17 + 5), (115, 64 * T1.ρ 17 + 40), (125, 64 * T1.ρ 17 + 48), (106, 8 * T1.ρ 17 + 6), (116, 64 * T1.ρ 17 + 48), (126, 64 * T1.ρ 17 + 56), (107, 8 * T1.ρ 17 + 7), (117, 64 * T1.ρ 17 + 56), (127, 64 * T1.ρ 17 + 64), (83, 0), (88, 22 + T1.ρ 5), (84, (T1.ρ 20) % 4 + 1), (85, (T1.ρ 20) % 4)]) [(65, g)] 60 rfl hK1 := ⟨_, rfl⟩
  have q2 : Stay [77, 78, 79, 83, 84, 85, 88, 101, 102, 103, 104, 105, 106, 107, 111, 112, 113, 114, 115, 116, 117, 120, 121, 122, 123, 124, 125, 126, 127] [65] T1 T2 := by rw [hT2]; exact stay_weak ((Stay.refl [77, 78, 79, 120, 101, 111, 121, 102, 112, 122, 103, 113, 123, 104, 114, 124, 105, 115, 125, 106, 116, 126, 107, 117, 127, 83, 88, 84, 85] [65] _).set rfl rfl) rfl rfl
  have s2_77 : T2.ρ 77 = 8 * T1.ρ 17 := by rw [hT2]; rfl
  have s2_78 : T2.ρ 78 = 64 * T1.ρ 17 := by rw [hT2]; rfl
  have s2_79 : T2.ρ 79 = 64 * T1.ρ 17 + 64 := by rw [hT2]; rfl
  have s2_120 : T2.ρ 120 = 64 * T1.ρ 17 + 8 := by rw [hT2]; rfl
  have s2_101 : T2.ρ 101 = 8 * T1.ρ 17 + 1 := by rw [hT2]; rfl
  have s2_111 : T2.ρ 111 = 64 * T1.ρ 17 + 8 := by rw [hT2]; rfl
  have s2_121 : T2.ρ 121 = 64 * T1.ρ 17 + 16 := by rw [hT2]; rfl
  have s2_102 : T2.ρ 102 = 8 * T1.ρ 17 + 2 := by rw [hT2]; rfl
  have s2_112 : T2.ρ 112 = 64 * T1.ρ 17 + 16 := by rw [hT2]; rfl
  have s2_122 : T2.ρ 122 = 64 * T1.ρ 17 + 24 := by rw [hT2]; rfl
  have s2_103 : T2.ρ 103 = 8 * T1.ρ 17 + 3 := by rw [hT2]; rfl
  have s2_113 : T2.ρ 113 = 64 * T1.ρ 17 + 24 := by rw [hT2]; rfl
  have s2_123 : T2.ρ 123 = 64 * T1.ρ 17 + 32 := by rw [hT2]; rfl
  have s2_104 : T2.ρ 104 = 8 * T1.ρ 17 + 4 := by rw [hT2]; rfl
  have s2_114 : T2.ρ 114 = 64 * T1.ρ 17 + 32 := by rw [hT2]; rfl
  have s2_124 : T2.ρ 124 = 64 * T1.ρ 17 + 40 := by rw [hT2]; rfl
  have s2_105 : T2.ρ 105 = 8 * T1.ρ 17 + 5 := by rw [hT2]; rfl
  have s2_115 : T2.ρ 115 = 64 * T1.ρ 17 + 40 := by rw [hT2]; rfl
  have s2_125 : T2.ρ 125 = 64 * T1.ρ 17 + 48 := by rw [hT2]; rfl
  have s2_106 : T2.ρ 106 = 8 * T1.ρ 17 + 6 := by rw [hT2]; rfl
  have s2_116 : T2.ρ 116 = 64 * T1.ρ 17 + 48 := by rw [hT2]; rfl
  have s2_126 : T2.ρ 126 = 64 * T1.ρ 17 + 56 := by rw [hT2]; rfl
  have s2_107 : T2.ρ 107 = 8 * T1.ρ 17 + 7 := by rw [hT2]; rfl
  have s2_117 : T2.ρ 117 = 64 * T1.ρ 17 + 56 := by rw [hT2]; rfl
  have s2_127 : T2.ρ 127 = 64 * T1.ρ 17 + 64 := by rw [hT2]; rfl
  have s2_83 : T2.ρ 83 = 0 := by rw [hT2]; rfl
  have s2_88 : T2.ρ 88 = 22 + T1.ρ 5 := by rw [hT2]; rfl
  have s2_84 : T2.ρ 84 = (T1.ρ 20) % 4 + 1 := by rw [hT2]; rfl
  have s2_85 : T2.ρ 85 = (T1.ρ 20) % 4 := by rw [hT2]; rfl
  have z2_65 : ∀ j : Int, T2.Φ 65 [j] = g j := by rw [hT2]; intro j; rfl
  clear hT2
  have g2 : GeoS T2 := R.geo.stay q2 rfl rfl
  have x5 : T2.ρ 5 = T1.ρ 5 := q2.num 5 rfl
  have x17 : T2.ρ 17 = T1.ρ 17 := q2.num 17 rfl
  have x20 : T2.ρ 20 = T1.ρ 20 := q2.num 20 rfl
  have n1 := R.geo.n; have hw1 := R.geo.w; have hi1 := R.i0
  have NC0 : InvC T2 0 := by
    refine ⟨g2, by omega, by rw [x17]; omega, s2_83, by rw [s2_88, x5]; omega, by rw [s2_84, x20, Int.add_zero], by rw [s2_85, x20, Int.add_zero], fun j h0 h1 => ?_⟩
    rw [x17] at h1
    rw [z2_65, x5, x20, hg j h0 h1]
    exact R.mem.bw j h0 h1
  obtain ⟨T, chC, Nf, g3⟩ := chainC (ty := ty) (T2.ρ 17).toNat T2 0 NC0 (by omega)
  have p2 := q2.trans g3
  have y13 : Stay [77, 78, 79, 83, 84, 85, 88, 101, 102, 103, 104, 105, 106, 107, 111, 112, 113, 114, 115, 116, 117, 120, 121, 122, 123, 124, 125, 126, 127] [65] T1 T := stay_weak p2 rfl rfl
  have gT : GeoS T := R.geo.stay y13 rfl rfl
  have t5 : T.ρ 5 = T1.ρ 5 := y13.num 5 rfl
  have t17 : T.ρ 17 = T1.ρ 17 := y13.num 17 rfl
  have t20 : T.ρ 20 = T1.ρ 20 := y13.num 20 rfl
  have t23 : T.ρ 23 = T1.ρ 23 := y13.num 23 rfl
  have t24 : T.ρ 24 = T1.ρ 24 := y13.num 24 rfl
  have t66 : T.ρ 66 = T1.ρ 66 := y13.num 66 rfl
  have t67 : T.ρ 67 = T1.ρ 67 := y13.num 67 rfl
  have t68 : T.ρ 68 = T1.ρ 68 := y13.num 68 rfl
  have t69 : T.ρ 69 = T1.ρ 69 := y13.num 69 rfl
  have t75 : T.ρ 75 = T1.ρ 75 := y13.num 75 rfl
  have t76 : T.ρ 76 = T1.ρ 76 := y13.num 76 rfl
  have t44 : T.ρ 44 = T1.ρ 44 := y13.num 44 rfl
  have t45 : T.ρ 45 = T1.ρ 45 := y13.num 45 rfl
  have t70 : T.ρ 70 = T1.ρ 70 := y13.num 70 rfl
  have t71 : T.ρ 71 = T1.ρ 71 := y13.num 71 rfl
  have t72 : T.ρ 72 = T1.ρ 72 := y13.num 72 rfl
  have t73 : T.ρ 73 = T1.ρ 73 := y13.num 73 rfl
  have t74 : T.ρ 74 = T1.ρ 74 := y13.num 74 rfl
  have RT : RNm T (T.ρ 17) := ⟨gT, by rw [t17]; exact R.i0, by rw [t17, t5]; exact R.hin, by rw [t17]; exact R.mem.of t5 t20 (fun j => y13.fn 63 rfl [j]), by rw [t23, t17]; exact R.e23, by rw [t24, t5, t17]; exact R.e24, by rw [t66, t17]; exact R.e66, by rw [t67, t5, t17]; exact R.e67, by rw [t68, t67]; exact R.e68, by rw [t69, t17]; exact R.e69, by rw [t75, t5, t17]; exact R.e75, by rw [t76, t5, t17]; exact R.e76, by rw [t44, t5]; exact R.e44, by rw [t45, t5]; exact R.e45, by rw [t70, t5, t17]; exact R.e70, by rw [t71, t5]; exact R.e71, by rw [t72, t17]; exact R.e72, by rw [t73, t5, t17]; exact R.e73, by rw [t74, t73]; exact R.e74⟩
  refine ⟨T2, T, s2_83, z2_65, g3, y13, ⟨RT, by rw [t20]; exact hd, by rw [g3.num 77 rfl, s2_77, t17], by rw [g3.num 78 rfl, s2_78, t17], by rw [g3.num 79 rfl, s2_79, t17], by rw [g3.num 120 rfl, s2_120, t17], by rw [g3.num 101 rfl, s2_101, t17], by rw [g3.num 111 rfl, s2_111, t17], by rw [g3.num 121 rfl, s2_121, t17], by rw [g3.num 102 rfl, s2_102, t17], by rw [g3.num 112 rfl, s2_112, t17], by rw [g3.num 122 rfl, s2_122, t17], by rw [g3.num 103 rfl, s2_103, t17], by rw [g3.num 113 rfl, s2_113, t17], by rw [g3.num 123 rfl, s2_123, t17], by rw [g3.num 104 rfl, s2_104, t17], by rw [g3.num 114 rfl, s2_114, t17], by rw [g3.num 124 rfl, s2_124, t17], by rw [g3.num 105 rfl, s2_105, t17], by rw [g3.num 115 rfl, s2_115, t17], by rw [g3.num 125 rfl, s2_125, t17], by rw [g3.num 106 rfl, s2_106, t17], by rw [g3.num 116 rfl, s2_116, t17], by rw [g3.num 126 rfl, s2_126, t17], by rw [g3.num 107 rfl, s2_107, t17], by rw [g3.num 117 rfl, s2_117, t17], by rw [g3.num 127 rfl, s2_127, t17]⟩, fun r ha => ?_⟩
  exact loop_chain envB (ann_self _) fineCB (show (XCB ty).N = FCB.N from rfl) (Nat.le_of_ble_eq_true rfl) chC (outC Nf rfl rfl) ha (hX := GlOk.of (by kernel_rfl) (by kernel_rfl))
set_option maxHeartbeats 8000000 in
theorem postL1 {T1 : Sy} (ty : TypeId) (R : RNm T1 (T1.ρ 17)) (hd : T1.ρ 20 = 1) (g : Int → Int) (hg : ∀ j : Int, 0 ≤ j → j < T1.ρ 17 → g (22 + T1.ρ 5 + j) = T1.Φ 63 [22 + T1.ρ 5 + j]) : ∃ T2 T, T2.ρ 83 = 0 ∧ (∀ j : Int, T2.Φ 65 [j] = g j) ∧ Stay [83, 84, 85, 88] [] T2 T ∧ Stay [77, 78, 79, 83, 84, 85, 88, 101, 102, 103, 104, 105, 106, 107, 111, 112, 113, 114, 115, 116, 117, 120, 121, 122, 123, 124, 125, 126, 127] [65] T1 T ∧ TNm1 T ∧ ∀ r, AsgOk T T2 (askC r) → LkAt Tryd.prog T (gsT ty) (.loop (cAt Tryd.prog lpCB)) (lkC r ty) := by
  have hK1 := R.geo.K
  obtain ⟨T2, hT2⟩ : ∃ T : Sy, T = T1.set (upd T1.ρ [(77, 8 * T1.ρ 17), (78, 64 * T1.ρ 17), (79, 64 * T1.ρ 17 + 64), (120, 64 * T1.ρ 17 + 16), (101, 8 * T1.ρ 17 + 2), (111, 64 * T1.ρ 17 + 16), (121, 64 * T1.ρ 17 + 32), (102, 8 * T1.ρ 17 + 4), (112, 64 * T1.ρ 17 + 32), (122, 64 * T1.ρ 17 + 48), (103, 8 * T1.ρ 17 + 6), (113, 64 * T1.ρ 17 + 48), (123, 64 * T1.ρ 17 + 64), (83, 0), (88, 22 + T1.ρ 5), (84, (T1.ρ 20) % 4 + 1), (85, (T1.ρ 20) % 4)]) [(65, g)] 60 rfl hK1 := ⟨_, rfl⟩
  have q2 : Stay [77, 78, 79, 83, 84, 85, 88, 101, 102, 103, 104, 105, 106, 107, 111, 112, 113, 114, 115, 116, 117, 120, 121, 122, 123, 124, 125, 126, 127] [65] T1 T2 := by rw [hT2]; exact stay_weak ((Stay.refl [77, 78, 79, 120, 101, 111, 121, 102, 112, 122, 103, 113, 123, 83, 88, 84, 85] [65] _).set rfl rfl) rfl rfl
  have s2_77 : T2.ρ 77 = 8 * T1.ρ 17 := by rw [hT2]; rfl
  have s2_78 : T2.ρ 78 = 64 * T1.ρ 17 := by rw [hT2]; rfl
  have s2_79 : T2.ρ 79 = 64 * T1.ρ 17 + 64 := by rw [hT2]; rfl
  have s2_120 : T2.ρ 120 = 64 * T1.ρ 17 + 16 := by rw [hT2]; rfl
  have s2_101 : T2.ρ 101 = 8 * T1.ρ 17 + 2 := by rw [hT2]; rfl
  have s2_111 : T2.ρ 111 = 64 * T1.ρ 17 + 16 := by rw [hT2]; rfl
  have s2_121 : T2.ρ 121 = 64 * T1.ρ 17 + 32 := by rw [hT2]; rfl
  have s2_102 : T2.ρ 102 = 8 * T1.ρ 17 + 4 := by rw [hT2]; rfl
  have s2_112 : T2.ρ 112 = 64 * T1.ρ 17 + 32 := by rw [hT2]; rfl
  have s2_122 : T2.ρ 122 = 64 * T1.ρ 17 + 48 := by rw [hT2]; rfl
  have s2_103 : T2.ρ 103 = 8 * T1.ρ 17 + 6 := by rw [hT2]; rfl
  have s2_113 : T2.ρ 113 = 64 * T1.ρ 17 + 48 := by rw [hT2]; rfl
  have s2_123 : T2.ρ 123 = 64 * T1.ρ 17 + 64 := by rw [hT2]; rfl
  have s2_83 : T2.ρ 83 = 0 := by rw [hT2]; rfl
  have s2_88 : T2.ρ 88 = 22 + T1.ρ 5 := by rw [hT2]; rfl
  have s2_84 : T2.ρ 84 = (T1.ρ 20) % 4 + 1 := by rw [hT2]; rfl
  have s2_85 : T2.ρ 85 = (T1.ρ 20) % 4 := by rw [hT2]; rfl
  have z2_65 : ∀ j : Int, T2.Φ 65 [j] = g j := by rw [hT2]; intro j; rfl
  clear hT2
  have g2 : GeoS T2 := R.geo.stay q2 rfl rfl
  have x5 : T2.ρ 5 = T1.ρ 5 := q2.num 5 rfl
  have x17 : T2.ρ 17 = T1.ρ 17 := q2.num 17 rfl
  have x20 : T2.ρ 20 = T1.ρ 20 := q2.num 20 rfl
  have n1 := R.geo.n; have hw1 := R.geo.w; have hi1 := R.i0
  have NC0 : InvC T2 0 := by
    refine ⟨g2, by omega, by rw [x17]; omega, s2_83, by rw [s2_88, x5]; omega, by rw [s2_84, x20, Int.add_zero], by rw [s2_85, x20, Int.add_zero], fun j h0 h1 => ?_⟩
    rw [x17] at h1
    rw [z2_65, x5, x20, hg j h0 h1]
    exact R.mem.bw j h0 h1
  obtain ⟨T, chC, Nf, g3⟩ := chainC (ty := ty) (T2.ρ 17).toNat T2 0 NC0 (by omega)
  have p2 := q2.trans g3
  have y13 : Stay [77, 78, 79, 83, 84, 85, 88, 101, 102, 103, 104, 105, 106, 107, 111, 112, 113, 114, 115, 116, 117, 120, 121, 122, 123, 124, 125, 126, 127] [65] T1 T := stay_weak p2 rfl rfl
  have gT : GeoS T := R.geo.stay y13 rfl rfl
  have t5 : T.ρ 5 = T1.ρ 5 := y13.num 5 rfl
  have t17 : T.ρ 17 = T1.ρ 17 := y13.num 17 rfl
  have t20 : T.ρ 20 = T1.ρ 20 := y13.num 20 rfl
  have t23 : T.ρ 23 = T1.ρ 23 := y13.num 23 rfl
  have t24 : T.ρ 24 = T1.ρ 24 := y13.num 24 rfl
  have t66 : T.ρ 66 = T1.ρ 66 := y13.num 66 rfl
  have t67 : T.ρ 67 = T1.ρ 67 := y13.num 67 rfl
  have t68 : T.ρ 68 = T1.ρ 68 := y13.num 68 rfl
  have t69 : T.ρ 69 = T1.ρ 69 := y13.num 69 rfl
  have t75 : T.ρ 75 = T1.ρ 75 := y13.num 75 rfl
  have t76 : T.ρ 76 = T1.ρ 76 := y13.num 76 rfl
  have t44 : T.ρ 44 = T1.ρ 44 := y13.num 44 rfl
  have t45 : T.ρ 45 = T1.ρ 45 := y13.num 45 rfl
  have t70 : T.ρ 70 = T1.ρ 70 := y13.num 70 rfl
  have t71 : T.ρ 71 = T1.ρ 71 := y13.num 71 rfl
  have t72 : T.ρ 72 = T1.ρ 72 := y13.num 72 rfl
  have t73 : T.ρ 73 = T1.ρ 73 := y13.num 73 rfl
  have t74 : T.ρ 74 = T1.ρ 74 := y13.num 74 rfl
  have RT : RNm T (T.ρ 17) := ⟨gT, by rw [t17]; exact R.i0, by rw [t17, t5]; exact R.hin, by rw [t17]; exact R.mem.of t5 t20 (fun j => y13.fn 63 rfl [j]), by rw [t23, t17]; exact R.e23, by rw [t24, t5, t17]; exact R.e24, by rw [t66, t17]; exact R.e66, by rw [t67, t5, t17]; exact R.e67, by rw [t68, t67]; exact R.e68, by rw [t69, t17]; exact R.e69, by rw [t75, t5, t17]; exact R.e75, by rw [t76, t5, t17]; exact R.e76, by rw [t44, t5]; exact R.e44, by rw [t45, t5]; exact R.e45, by rw [t70, t5, t17]; exact R.e70, by rw [t71, t5]; exact R.e71, by rw [t72, t17]; exact R.e72, by rw [t73, t5, t17]; exact R.e73, by rw [t74, t73]; exact R.e74⟩
  refine ⟨T2, T, s2_83, z2_65, g3, y13, ⟨RT, by rw [t20]; exact hd, by rw [g3.num 77 rfl, s2_77, t17], by rw [g3.num 78 rfl, s2_78, t17], by rw [g3.num 79 rfl, s2_79, t17], by rw [g3.num 120 rfl, s2_120, t17], by rw [g3.num 101 rfl, s2_101, t17], by rw [g3.num 111 rfl, s2_111, t17], by rw [g3.num 121 rfl, s2_121, t17], by rw [g3.num 102 rfl, s2_102, t17], by rw [g3.num 112 rfl, s2_112, t17], by rw [g3.num 122 rfl, s2_122, t17], by rw [g3.num 103 rfl, s2_103, t17], by rw [g3.num 113 rfl, s2_113, t17], by rw [g3.num 123 rfl, s2_123, t17]⟩, fun r ha => ?_⟩
  exact loop_chain envB (ann_self _) fineCB (show (XCB ty).N = FCB.N from rfl) (Nat.le_of_ble_eq_true rfl) chC (outC Nf rfl rfl) ha (hX := GlOk.of (by kernel_rfl) (by kernel_rfl))
set_option maxHeartbeats 8000000 in
theorem postL2 {T1 : Sy} (ty : TypeId) (R : RNm T1 (T1.ρ 17)) (hd : T1.ρ 20 = 2) (g : Int → Int) (hg : ∀ j : Int, 0 ≤ j → j < T1.ρ 17 → g (22 + T1.ρ 5 + j) = T1.Φ 63 [22 + T1.ρ 5 + j]) : ∃ T2 T, T2.ρ 83 = 0 ∧ (∀ j : Int, T2.Φ 65 [j] = g j) ∧ Stay [83, 84, 85, 88] [] T2 T ∧ Stay [77, 78, 79, 83, 84, 85, 88, 101, 102, 103, 104, 105, 106, 107, 111, 112, 113, 114, 115, 116, 117, 120, 121, 122, 123, 124, 125, 126, 127] [65] T1 T ∧ TNm2 T ∧ ∀ r, AsgOk T T2 (askC r) → LkAt Tryd.prog T (gsT ty) (.loop (cAt Tryd.prog lpCB)) (lkC r ty) := by
  have hK1 := R.geo.K
  obtain ⟨T2, hT2⟩ : ∃ T : Sy, T = T1.set (upd T1.ρ [(77, 8 * T1.ρ 17), (78, 64 * T1.ρ 17), (79, 64 * T1.ρ 17 + 64), (120, 64 * T1.ρ 17 + 24), (101, 8 * T1.ρ 17 + 3), (111, 64 * T1.ρ 17 + 24), (121, 64 * T1.ρ 17 + 48), (83, 0), (88, 22 + T1.ρ 5), (84, (T1.ρ 20) % 4 + 1), (85, (T1.ρ 20) % 4)]) [(65, g)] 60 rfl hK1 := ⟨_, rfl⟩
  have q2 : Stay [77, 78, 79, 83, 84, 85, 88, 101, 102, 103, 104, 105, 106, 107, 111, 112, 113, 114, 115, 116, 117, 120, 121, 122, 123, 124, 125, 126, 127] [65] T1 T2 := by rw [hT2]; exact stay_weak ((Stay.refl [77, 78, 79, 120, 101, 111, 121, 83, 88, 84, 85] [65] _).set rfl rfl) rfl rfl
  have s2_77 : T2.ρ 77 = 8 * T1.ρ 17 := by rw [hT2]; rfl
  have s2_78 : T2.ρ 78 = 64 * T1.ρ 17 := by rw [hT2]; rfl
  have s2_79 : T2.ρ 79 = 64 * T1.ρ 17 + 64 := by rw [hT2]; rfl
  have s2_120 : T2.ρ 120 = 64 * T1.ρ 17 + 24 := by rw [hT2]; rfl
  have s2_101 : T2.ρ 101 = 8 * T1.ρ 17 + 3 := by rw [hT2]; rfl
  have s2_111 : T2.ρ 111 = 64 * T1.ρ 17 + 24 := by rw [hT2]; rfl
  have s2_121 : T2.ρ 121 = 64 * T1.ρ 17 + 48 := by rw [hT2]; rfl
  have s2_83 : T2.ρ 83 = 0 := by rw [hT2]; rfl
  have s2_88 : T2.ρ 88 = 22 + T1.ρ 5 := by rw [hT2]; rfl
  have s2_84 : T2.ρ 84 = (T1.ρ 20) % 4 + 1 := by rw [hT2]; rfl
  have s2_85 : T2.ρ 85 = (T1.ρ 20) % 4 := by rw [hT2]; rfl
  have z2_65 : ∀ j : Int, T2.Φ 65 [j] = g j := by rw [hT2]; intro j; rfl
  clear hT2
  have g2 : GeoS T2 := R.geo.stay q2 rfl rfl
  have x5 : T2.ρ 5 = T1.ρ 5 := q2.num 5 rfl
  have x17 : T2.ρ 17 = T1.ρ 17 := q2.num 17 rfl
  have x20 : T2.ρ 20 = T1.ρ 20 := q2.num 20 rfl
  have n1 := R.geo.n; have hw1 := R.geo.w; have hi1 := R.i0
  have NC0 : InvC T2 0 := by
    refine ⟨g2, by omega, by rw [x17]; omega, s2_83, by rw [s2_88, x5]; omega, by rw [s2_84, x20, Int.add_zero], by rw [s2_85, x20, Int.add_zero], fun j h0 h1 => ?_⟩
    rw [x17] at h1
    rw [z2_65, x5, x20, hg j h0 h1]
    exact R.mem.bw j h0 h1
  obtain ⟨T, chC, Nf, g3⟩ := chainC (ty := ty) (T2.ρ 17).toNat T2 0 NC0 (by omega)
  have p2 := q2.trans g3
  have y13 : Stay [77, 78, 79, 83, 84, 85, 88, 101, 102, 103, 104, 105, 106, 107, 111, 112, 113, 114, 115, 116, 117, 120, 121, 122, 123, 124, 125, 126, 127] [65] T1 T := stay_weak p2 rfl rfl
  have gT : GeoS T := R.geo.stay y13 rfl rfl
  have t5 : T.ρ 5 = T1.ρ 5 := y13.num 5 rfl
  have t17 : T.ρ 17 = T1.ρ 17 := y13.num 17 rfl
  have t20 : T.ρ 20 = T1.ρ 20 := y13.num 20 rfl
  have t23 : T.ρ 23 = T1.ρ 23 := y13.num 23 rfl
  have t24 : T.ρ 24 = T1.ρ 24 := y13.num 24 rfl
  have t66 : T.ρ 66 = T1.ρ 66 := y13.num 66 rfl
  have t67 : T.ρ 67 = T1.ρ 67 := y13.num 67 rfl
  have t68 : T.ρ 68 = T1.ρ 68 := y13.num 68 rfl
  have t69 : T.ρ 69 = T1.ρ 69 := y13.num 69 rfl
  have t75 : T.ρ 75 = T1.ρ 75 := y13.num 75 rfl
  have t76 : T.ρ 76 = T1.ρ 76 := y13.num 76 rfl
  have t44 : T.ρ 44 = T1.ρ 44 := y13.num 44 rfl
  have t45 : T.ρ 45 = T1.ρ 45 := y13.num 45 rfl
  have t70 : T.ρ 70 = T1.ρ 70 := y13.num 70 rfl
  have t71 : T.ρ 71 = T1.ρ 71 := y13.num 71 rfl
  have t72 : T.ρ 72 = T1.ρ 72 := y13.num 72 rfl
  have t73 : T.ρ 73 = T1.ρ 73 := y13.num 73 rfl
  have t74 : T.ρ 74 = T1.ρ 74 := y13.num 74 rfl
  have RT : RNm T (T.ρ 17) := ⟨gT, by rw [t17]; exact R.i0, by rw [t17, t5]; exact R.hin, by rw [t17]; exact R.mem.of t5 t20 (fun j => y13.fn 63 rfl [j]), by rw [t23, t17]; exact R.e23, by rw [t24, t5, t17]; exact R.e24, by rw [t66, t17]; exact R.e66, by rw [t67, t5, t17]; exact R.e67, by rw [t68, t67]; exact R.e68, by rw [t69, t17]; exact R.e69, by rw [t75, t5, t17]; exact R.e75, by rw [t76, t5, t17]; exact R.e76, by rw [t44, t5]; exact R.e44, by rw [t45, t5]; exact R.e45, by rw [t70, t5, t17]; exact R.e70, by rw [t71, t5]; exact R.e71, by rw [t72, t17]; exact R.e72, by rw [t73, t5, t17]; exact R.e73, by rw [t74, t73]; exact R.e74⟩
  refine ⟨T2, T, s2_83, z2_65, g3, y13, ⟨RT, by rw [t20]; exact hd, by rw [g3.num 77 rfl, s2_77, t17], by rw [g3.num 78 rfl, s2_78, t17], by rw [g3.num 79 rfl, s2_79, t17], by rw [g3.num 120 rfl, s2_120, t17], by rw [g3.num 101 rfl, s2_101, t17], by rw [g3.num 111 rfl, s2_111, t17], by rw [g3.num 121 rfl, s2_121, t17]⟩, fun r ha => ?_⟩
  exact loop_chain envB (ann_self _) fineCB (show (XCB ty).N = FCB.N from rfl) (Nat.le_of_ble_eq_true rfl) chC (outC Nf rfl rfl) ha (hX := GlOk.of (by kernel_rfl) (by kernel_rfl))
set_option maxHeartbeats 8000000 in
theorem postL3 {T1 : Sy} (ty : TypeId) (R : RNm T1 (T1.ρ 17)) (hd : T1.ρ 20 = 3) (g : Int → Int) (hg : ∀ j : Int, 0 ≤ j → j < T1.ρ 17 → g (22 + T1.ρ 5 + j) = T1.Φ 63 [22 + T1.ρ 5 + j]) : ∃ T2 T, T2.ρ 83 = 0 ∧ (∀ j : Int, T2.Φ 65 [j] = g j) ∧ Stay [83, 84, 85, 88] [] T2 T ∧ Stay [77, 78, 79, 83, 84, 85, 88, 101, 102, 103, 104, 105, 106, 107, 111, 112, 113, 114, 115, 116, 117, 120, 121, 122, 123, 124, 125, 126, 127] [65] T1 T ∧ TNm3 T ∧ ∀ r, AsgOk T T2 (askC r) → LkAt Tryd.prog T (gsT ty) (.loop (cAt Tryd.prog lpCB)) (lkC r ty) := by
  have hK1 := R.geo.K
  obtain ⟨T2, hT2⟩ : ∃ T : Sy, T = T1.set (upd T1.ρ [(77, 8 * T1.ρ 17), (78, 64 * T1.ρ 17), (79, 64 * T1.ρ 17 + 64), (120, 64 * T1.ρ 17 + 32), (101, 8 * T1.ρ 17 + 4), (111, 64 * T1.ρ 17 + 32), (121, 64 * T1.ρ 17 + 64), (83, 0), (88, 22 + T1.ρ 5), (84, (T1.ρ 20) % 4 + 1), (85, (T1.ρ 20) % 4)]) [(65, g)] 60 rfl hK1 := ⟨_, rfl⟩
  have q2 : Stay [77, 78, 79, 83, 84, 85, 88, 101, 102, 103, 104, 105, 106, 107, 111, 112, 113, 114, 115, 116, 117, 120, 121, 122, 123, 124, 125, 126, 127] [65] T1 T2 := by rw [hT2]; exact stay_weak ((Stay.refl [77, 78, 79, 120, 101, 111, 121, 83, 88, 84, 85] [65] _).set rfl rfl) rfl rfl
  have s2_77 : T2.ρ 77 = 8 * T1.ρ 17 := by rw [hT2]; rfl
  have s2_78 : T2.ρ 78 = 64 * T1.ρ 17 := by rw [hT2]; rfl
  have s2_79 : T2.ρ 79 = 64 * T1.ρ 17 + 64 := by rw [hT2]; rfl
  have s2_120 : T2.ρ 120 = 64 * T1.ρ 17 + 32 := by rw [hT2]; rfl
  have s2_101 : T2.ρ 101 = 8 * T1.ρ 17 + 4 := by rw [hT2]; rfl
  have s2_111 : T2.ρ 111 = 64 * T1.ρ 17 + 32 := by rw [hT2]; rfl
  have s2_121 : T2.ρ 121 = 64 * T1.ρ 17 + 64 := by rw [hT2]; rfl
  have s2_83 : T2.ρ 83 = 0 := by rw [hT2]; rfl
  have s2_88 : T2.ρ 88 = 22 + T1.ρ 5 := by rw [hT2]; rfl
  have s2_84 : T2.ρ 84 = (T1.ρ 20) % 4 + 1 := by rw [hT2]; rfl
  have s2_85 : T2.ρ 85 = (T1.ρ 20) % 4 := by rw [hT2]; rfl
  have z2_65 : ∀ j : Int, T2.Φ 65 [j] = g j := by rw [hT2]; intro j; rfl
  clear hT2
  have g2 : GeoS T2 := R.geo.stay q2 rfl rfl
  have x5 : T2.ρ 5 = T1.ρ 5 := q2.num 5 rfl
  have x17 : T2.ρ 17 = T1.ρ 17 := q2.num 17 rfl
  have x20 : T2.ρ 20 = T1.ρ 20 := q2.num 20 rfl
  have n1 := R.geo.n; have hw1 := R.geo.w; have hi1 := R.i0
  have NC0 : InvC T2 0 := by
    refine ⟨g2, by omega, by rw [x17]; omega, s2_83, by rw [s2_88, x5]; omega, by rw [s2_84, x20, Int.add_zero], by rw [s2_85, x20, Int.add_zero], fun j h0 h1 => ?_⟩
    rw [x17] at h1
    rw [z2_65, x5, x20, hg j h0 h1]
    exact R.mem.bw j h0 h1
  obtain ⟨T, chC, Nf, g3⟩ := chainC (ty := ty) (T2.ρ 17).toNat T2 0 NC0 (by omega)
  have p2 := q2.trans g3
  have y13 : Stay [77, 78, 79, 83, 84, 85, 88, 101, 102, 103, 104, 105, 106, 107, 111, 112, 113, 114, 115, 116, 117, 120, 121, 122, 123, 124, 125, 126, 127] [65] T1 T := stay_weak p2 rfl rfl
  have gT : GeoS T := R.geo.stay y13 rfl rfl
  have t5 : T.ρ 5 = T1.ρ 5 := y13.num 5 rfl
  have t17 : T.ρ 17 = T1.ρ 17 := y13.num 17 rfl
  have t20 : T.ρ 20 = T1.ρ 20 := y13.num 20 rfl
  have t23 : T.ρ 23 = T1.ρ 23 := y13.num 23 rfl
  have t24 : T.ρ 24 = T1.ρ 24 := y13.num 24 rfl
  have t66 : T.ρ 66 = T1.ρ 66 := y13.num 66 rfl
  have t67 : T.ρ 67 = T1.ρ 67 := y13.num 67 rfl
  have t68 : T.ρ 68 = T1.ρ 68 := y13.num 68 rfl
  have t69 : T.ρ 69 = T1.ρ 69 := y13.num 69 rfl
  have t75 : T.ρ 75 = T1.ρ 75 := y13.num 75 rfl
  have t76 : T.ρ 76 = T1.ρ 76 := y13.num 76 rfl
  have t44 : T.ρ 44 = T1.ρ 44 := y13.num 44 rfl
  have t45 : T.ρ 45 = T1.ρ 45 := y13.num 45 rfl
  have t70 : T.ρ 70 = T1.ρ 70 := y13.num 70 rfl
  have t71 : T.ρ 71 = T1.ρ 71 := y13.num 71 rfl
  have t72 : T.ρ 72 = T1.ρ 72 := y13.num 72 rfl
  have t73 : T.ρ 73 = T1.ρ 73 := y13.num 73 rfl
  have t74 : T.ρ 74 = T1.ρ 74 := y13.num 74 rfl
  have RT : RNm T (T.ρ 17) := ⟨gT, by rw [t17]; exact R.i0, by rw [t17, t5]; exact R.hin, by rw [t17]; exact R.mem.of t5 t20 (fun j => y13.fn 63 rfl [j]), by rw [t23, t17]; exact R.e23, by rw [t24, t5, t17]; exact R.e24, by rw [t66, t17]; exact R.e66, by rw [t67, t5, t17]; exact R.e67, by rw [t68, t67]; exact R.e68, by rw [t69, t17]; exact R.e69, by rw [t75, t5, t17]; exact R.e75, by rw [t76, t5, t17]; exact R.e76, by rw [t44, t5]; exact R.e44, by rw [t45, t5]; exact R.e45, by rw [t70, t5, t17]; exact R.e70, by rw [t71, t5]; exact R.e71, by rw [t72, t17]; exact R.e72, by rw [t73, t5, t17]; exact R.e73, by rw [t74, t73]; exact R.e74⟩
  refine ⟨T2, T, s2_83, z2_65, g3, y13, ⟨RT, by rw [t20]; exact hd, by rw [g3.num 77 rfl, s2_77, t17], by rw [g3.num 78 rfl, s2_78, t17], by rw [g3.num 79 rfl, s2_79, t17], by rw [g3.num 120 rfl, s2_120, t17], by rw [g3.num 101 rfl, s2_101, t17], by rw [g3.num 111 rfl, s2_111, t17], by rw [g3.num 121 rfl, s2_121, t17]⟩, fun r ha => ?_⟩
  exact loop_chain envB (ann_self _) fineCB (show (XCB ty).N = FCB.N from rfl) (Nat.le_of_ble_eq_true rfl) chC (outC Nf rfl rfl) ha (hX := GlOk.of (by kernel_rfl) (by kernel_rfl))
structure Giv (SS : Sy) : Prop where
  g : GeoS SS
  h2 : 0 ≤ SS.ρ 2
  e5 : SS.ρ 5 = SS.ρ 2 % 20 + 1
  h3 : 0 ≤ SS.ρ 3 ∧ SS.ρ 3 < 256
  e17 : SS.ρ 17 = SS.ρ 3 % SS.ρ 5
  h4 : 0 ≤ SS.ρ 4
  e20 : SS.ρ 20 = SS.ρ 4 % 4
  e45 : SS.ρ 45 = SS.ρ 5 - 1
  e71 : SS.ρ 71 = 21 + SS.ρ 5
  e62 : SS.ρ 62 = lg (SS.ρ 5)
  e64 : SS.ρ 64 = 7 + SS.ρ 62
  h9 : SS.Φ 9 [] = 1
noncomputable def alHd : List (Nat × Value) := (awT.enc, .bool true) :: (alWL ++ (alGL ++ alLL))
theorem alHd_ok {SS T : Sy} (v : Giv SS) (gT : GeoS T) (p : Stay [21, 22, 23, 24, 27, 28, 29, 44, 45, 50, 51, 66, 67, 68, 69, 70, 71, 72, 73, 74, 75, 76, 77, 78, 79, 83, 84, 85, 88, 101, 102, 103, 104, 105, 106, 107, 111, 112, 113, 114, 115, 116, 117, 120, 121, 122, 123, 124, 125, 126, 127] [60, 61, 63, 65] SS T) : AlOk T alHd := by
  have u2 : T.ρ 2 = SS.ρ 2 := p.num 2 rfl
  have u3 : T.ρ 3 = SS.ρ 3 := p.num 3 rfl
  have u4 : T.ρ 4 = SS.ρ 4 := p.num 4 rfl
  have u5 : T.ρ 5 = SS.ρ 5 := p.num 5 rfl
  have u17 : T.ρ 17 = SS.ρ 17 := p.num 17 rfl
  have u20 : T.ρ 20 = SS.ρ 20 := p.num 20 rfl
  exact ai awT true (aw_den ((p.fn 9 rfl []).trans v.h9)) (AlOk.app (alW_ok gT (by rw [u2]; exact v.h2) (by rw [u5, u2]; exact v.e5) (by rw [u3]; exact v.h3) (by rw [u17, u3, u5]; exact v.e17) (by rw [u4]; exact v.h4) (by rw [u20, u4]; exact v.e20)) (AlOk.app (alG_ok gT) (alL_ok gT)))
noncomputable def csW (l : List Ctr) : List Ctr := cAw :: l
theorem csW_ok {T : Sy} {l : List Ctr} (ty : TypeId) (h9 : T.Φ 9 [] = 1) (h : ∀ c ∈ l, CtrOk Tryd.prog T (gsT ty) c) : ∀ c ∈ csW l, CtrOk Tryd.prog T (gsT ty) c := fun c hc => by
  rcases List.mem_cons.1 hc with rfl | hc
  · exact cAw_ok ty T h9
  · exact h c hc
theorem alJ0_of {SS T : Sy} (v : Giv SS) {i : Int} (R : RNm T i) (p : Stay [21, 22, 23, 24, 27, 28, 29, 44, 45, 50, 51, 66, 67, 68, 69, 70, 71, 72, 73, 74, 75, 76, 77, 78, 79, 83, 84, 85, 88, 101, 102, 103, 104, 105, 106, 107, 111, 112, 113, 114, 115, 116, 117, 120, 121, 122, 123, 124, 125, 126, 127] [60, 61, 63, 65] SS T) (hm : SS.ρ 5 = 1) : AlOk T alJ0L := by
  have u5 : T.ρ 5 = SS.ρ 5 := p.num 5 rfl
  have u62 : T.ρ 62 = SS.ρ 62 := p.num 62 rfl
  have u64 : T.ρ 64 = SS.ρ 64 := p.num 64 rfl
  exact alJ0_ok R.geo (by rw [u5]; exact hm) R.e45 R.e71 (by rw [u62, u5]; exact v.e62) (by rw [u64, u62]; exact v.e64)
theorem alJ1_of {SS T : Sy} (v : Giv SS) {i : Int} (R : RNm T i) (p : Stay [21, 22, 23, 24, 27, 28, 29, 44, 45, 50, 51, 66, 67, 68, 69, 70, 71, 72, 73, 74, 75, 76, 77, 78, 79, 83, 84, 85, 88, 101, 102, 103, 104, 105, 106, 107, 111, 112, 113, 114, 115, 116, 117, 120, 121, 122, 123, 124, 125, 126, 127] [60, 61, 63, 65] SS T) (hm : 1 < SS.ρ 5) : AlOk T alJ1L := by
  have u5 : T.ρ 5 = SS.ρ 5 := p.num 5 rfl
  have u62 : T.ρ 62 = SS.ρ 62 := p.num 62 rfl
  have u64 : T.ρ 64 = SS.ρ 64 := p.num 64 rfl
  exact alJ1_ok R.geo (by rw [u5]; exact hm) R.e45 R.e71 (by rw [u62, u5]; exact v.e62) (by rw [u64, u62]; exact v.e64)
def LawIs (SS : Sy) (ty : TypeId) : Prop := ∀ w : World, GOk Tryd.prog (gsT ty) w → Calls Tryd.prog 3 #[.int .u8 (SS.ρ 2), .int .u8 (SS.ρ 3), .int .u8 (SS.ρ 4)] w fun e w' => e = .returned (.bool true) ∧ Quiet w w'
theorem lawBy {SS T : Sy} {ty : TypeId} (v : Giv SS) (gT : GeoS T) (p : Stay [21, 22, 23, 24, 27, 28, 29, 44, 45, 50, 51, 66, 67, 68, 69, 70, 71, 72, 73, 74, 75, 76, 77, 78, 79, 83, 84, 85, 88, 101, 102, 103, 104, 105, 106, 107, 111, 112, 113, 114, 115, 116, 117, 120, 121, 122, 123, 124, 125, 126, 127] [60, 61, 63, 65] SS T) {al : List (Nat × Value)} (hal : AlOk T al) {cs : List Ctr} (hcs : ∀ c ∈ cs, CtrOk Tryd.prog T (gsT ty) c) {f1 f2 f3 : Fr → Heap → Option (AExit × Fr × Heap)}
    (h1 : LkAt Tryd.prog T (gsT ty) (.loop (cAt Tryd.prog lpOB)) f1) (h2 : LkAt Tryd.prog T (gsT ty) (.loop (cAt Tryd.prog lpBB)) f2) (h3 : LkAt Tryd.prog T (gsT ty) (.loop (cAt Tryd.prog lpCB)) f3)
    (hr : ∀ G, outV (runM Tryd.prog ΛB (lkL [f1, f2, f3]) ftB hal (csW cs) G 1000 (.fn 3 [vv .u8 2, vv .u8 3, vv .u8 4].toArray) (H0g Tryd.prog (gsT ty))) = some (bundle [.bool true])) : LawIs SS ty := fun w hw => by
  have hlk := LkOk.all (P := Tryd.prog) (S := T) (gs := gsT ty) (ms := [lpOB, lpBB, lpCB]) (fs := [f1, f2, f3]) ⟨⟨_, codeOB, h1⟩, ⟨_, codeBB, h2⟩, ⟨_, codeCB, h3⟩, trivial⟩
  exact symRunI envB hal (csW_ok ty ((p.fn 9 rfl []).trans v.h9) hcs) hlk (n := 1000) (args := [vv .u8 2, vv .u8 3, vv .u8 4]) (args' := [.int .u8 (SS.ρ 2), .int .u8 (SS.ρ 3), .int .u8 (SS.ρ 4)]) (res := [.one .bool]) (vs := [.bool true]) (rcs := [litB true]) (rs := [1]) rfl ⟨ev_litB _ true, trivial⟩ hr (fun G ι => vs_sym (p.num 2 rfl) (vs_sym (p.num 3 rfl) (vs_sym (p.num 4 rfl) vs_nil))) w hw (by rw [gT.I]; intro b o h; simp [inpL] at h)
end Go.Proofs.YtgokpcaijabhoaaDoor
namespace Go.Proofs.YtgokpcaijabhoaaDoor
open Go.Ev Go.RowKit
set_option maxRecDepth 100000
set_option linter.unusedVariables false
def rC000 : ACode := (.upd (.upd (.upd (.upd (.upd (.upd (.upd (.upd (.upd (.upd (.upd (.upd (.var 63) (Tm.enc (.var .i64 68)) (Tm.enc (.bin .add (.app .u64 63 (.cons (.var .i64 68) .nil)) (.lit .u64 18446744073709551615)))) (Tm.enc (.var .i64 69)) (Tm.enc (.lit .u64 0))) (Tm.enc (.var .i64 69)) (Tm.enc (.lit .u64 12))) (Tm.enc (.var .i64 69)) (Tm.enc (.lit .u64 11))) (Tm.enc (.var .i64 75)) (Tm.enc (.lit .u64 4294967806))) (Tm.enc (.var .i64 75)) (Tm.enc (.lit .u64 4294967804))) (Tm.enc (.var .i64 75)) (Tm.enc (.lit .u64 4294967800))) (Tm.enc (.var .i64 75)) (Tm.enc (.lit .u64 4294967792))) (Tm.enc (.var .i64 75)) (Tm.enc (.lit .u64 4294967776))) (Tm.enc (.var .i64 75)) (Tm.enc (.lit .u64 4294967744))) (Tm.enc (.var .i64 75)) (Tm.enc (.lit .u64 4294967680))) (Tm.enc (.var .i64 75)) (Tm.enc (.lit .u64 4294967552)))
def gC000 (S : Sy) : Int → Int := (fun j => ifE j (S.ρ 75) ((4294967552 : Int)) ((fun j => ifE j (S.ρ 75) ((4294967680 : Int)) ((fun j => ifE j (S.ρ 75) ((4294967744 : Int)) ((fun j => ifE j (S.ρ 75) ((4294967776 : Int)) ((fun j => ifE j (S.ρ 75) ((4294967792 : Int)) ((fun j => ifE j (S.ρ 75) ((4294967800 : Int)) ((fun j => ifE j (S.ρ 75) ((4294967804 : Int)) ((fun j => ifE j (S.ρ 75) ((4294967806 : Int)) ((fun j => ifE j (S.ρ 69) ((11 : Int)) ((fun j => ifE j (S.ρ 69) ((12 : Int)) ((fun j => ifE j (S.ρ 69) ((0 : Int)) ((fun j => ifE j (S.ρ 68) ((IntKind.u64.wrap ((S.Φ 63 [S.ρ 68]) + (18446744073709551615 : Int)))) ((fun j => S.Φ 63 [j]) j)) j)) j)) j)) j)) j)) j)) j)) j)) j)) j)) j))
def rC100 : ACode := (.upd (.upd (.upd (.upd (.upd (.upd (.upd (.upd (.upd (.upd (.upd (.upd (.upd (.upd (.var 63) (Tm.enc (.var .i64 68)) (Tm.enc (.bin .add (.app .u64 63 (.cons (.var .i64 68) .nil)) (.lit .u64 18446744073709551615)))) (Tm.enc (.var .i64 69)) (Tm.enc (.lit .u64 0))) (Tm.enc (.var .i64 72)) (Tm.enc (.lit .u64 9))) (Tm.enc (.var .i64 74)) (Tm.enc (.bin .add (.app .u64 63 (.cons (.var .i64 74) .nil)) (.lit .u64 1)))) (Tm.enc (.var .i64 69)) (Tm.enc (.lit .u64 12))) (Tm.enc (.var .i64 69)) (Tm.enc (.lit .u64 11))) (Tm.enc (.var .i64 75)) (Tm.enc (.lit .u64 4294967806))) (Tm.enc (.var .i64 75)) (Tm.enc (.lit .u64 4294967804))) (Tm.enc (.var .i64 75)) (Tm.enc (.lit .u64 4294967800))) (Tm.enc (.var .i64 75)) (Tm.enc (.lit .u64 4294967792))) (Tm.enc (.var .i64 75)) (Tm.enc (.lit .u64 4294967776))) (Tm.enc (.var .i64 75)) (Tm.enc (.lit .u64 4294967744))) (Tm.enc (.var .i64 75)) (Tm.enc (.lit .u64 4294967680))) (Tm.enc (.var .i64 75)) (Tm.enc (.lit .u64 4294967552)))
def gC100 (S : Sy) : Int → Int := (fun j => ifE j (S.ρ 75) ((4294967552 : Int)) ((fun j => ifE j (S.ρ 75) ((4294967680 : Int)) ((fun j => ifE j (S.ρ 75) ((4294967744 : Int)) ((fun j => ifE j (S.ρ 75) ((4294967776 : Int)) ((fun j => ifE j (S.ρ 75) ((4294967792 : Int)) ((fun j => ifE j (S.ρ 75) ((4294967800 : Int)) ((fun j => ifE j (S.ρ 75) ((4294967804 : Int)) ((fun j => ifE j (S.ρ 75) ((4294967806 : Int)) ((fun j => ifE j (S.ρ 69) ((11 : Int)) ((fun j => ifE j (S.ρ 69) ((12 : Int)) ((fun j => ifE j (S.ρ 74) ((IntKind.u64.wrap ((S.Φ 63 [S.ρ 74]) + (1 : Int)))) ((fun j => ifE j (S.ρ 72) ((9 : Int)) ((fun j => ifE j (S.ρ 69) ((0 : Int)) ((fun j => ifE j (S.ρ 68) ((IntKind.u64.wrap ((S.Φ 63 [S.ρ 68]) + (18446744073709551615 : Int)))) ((fun j => S.Φ 63 [j]) j)) j)) j)) j)) j)) j)) j)) j)) j)) j)) j)) j)) j)) j))
def rC200 : ACode := (.upd (.upd (.upd (.upd (.upd (.upd (.upd (.upd (.upd (.upd (.upd (.upd (.upd (.upd (.upd (.var 63) (Tm.enc (.var .i64 68)) (Tm.enc (.bin .add (.app .u64 63 (.cons (.var .i64 68) .nil)) (.lit .u64 18446744073709551615)))) (Tm.enc (.var .i64 69)) (Tm.enc (.lit .u64 0))) (Tm.enc (.var .i64 71)) (Tm.enc (.bin .or (.bin .or (.bin .or (.lit .u64 2) (.bin .shl (.bin .and (.conv .u64 (.var .i64 70)) (.lit .u64 1023)) (.lit .u64 3))) (.lit .u64 0)) (.lit .u64 0)))) (Tm.enc (.var .i64 72)) (Tm.enc (.bin .or (.bin .or (.bin .or (.lit .u64 1) (.bin .shl (.bin .and (.conv .u64 (.var .i64 70)) (.lit .u64 1023)) (.lit .u64 3))) (.lit .u64 0)) (.lit .u64 0)))) (Tm.enc (.var .i64 74)) (Tm.enc (.bin .add (.app .u64 63 (.cons (.var .i64 74) .nil)) (.lit .u64 1)))) (Tm.enc (.var .i64 69)) (Tm.enc (.lit .u64 12))) (Tm.enc (.var .i64 69)) (Tm.enc (.lit .u64 11))) (Tm.enc (.var .i64 75)) (Tm.enc (.lit .u64 4294967806))) (Tm.enc (.var .i64 75)) (Tm.enc (.lit .u64 4294967804))) (Tm.enc (.var .i64 75)) (Tm.enc (.lit .u64 4294967800))) (Tm.enc (.var .i64 75)) (Tm.enc (.lit .u64 4294967792))) (Tm.enc (.var .i64 75)) (Tm.enc (.lit .u64 4294967776))) (Tm.enc (.var .i64 75)) (Tm.enc (.lit .u64 4294967744))) (Tm.enc (.var .i64 75)) (Tm.enc (.lit .u64 4294967680))) (Tm.enc (.var .i64 75)) (Tm.enc (.lit .u64 4294967552)))
def gC200 (S : Sy) : Int → Int := (fun j => ifE j (S.ρ 75) ((4294967552 : Int)) ((fun j => ifE j (S.ρ 75) ((4294967680 : Int)) ((fun j => ifE j (S.ρ 75) ((4294967744 : Int)) ((fun j => ifE j (S.ρ 75) ((4294967776 : Int)) ((fun j => ifE j (S.ρ 75) ((4294967792 : Int)) ((fun j => ifE j (S.ρ 75) ((4294967800 : Int)) ((fun j => ifE j (S.ρ 75) ((4294967804 : Int)) ((fun j => ifE j (S.ρ 75) ((4294967806 : Int)) ((fun j => ifE j (S.ρ 69) ((11 : Int)) ((fun j => ifE j (S.ρ 69) ((12 : Int)) ((fun j => ifE j (S.ρ 74) ((IntKind.u64.wrap ((S.Φ 63 [S.ρ 74]) + (1 : Int)))) ((fun j => ifE j (S.ρ 72) ((opZ .or .u64 ((opZ .or .u64 ((opZ .or .u64 ((1 : Int)) ((opZ .shl .u64 ((opZ .and .u64 ((IntKind.u64.wrap (S.ρ 70))) ((1023 : Int)))) ((3 : Int)))))) ((0 : Int)))) ((0 : Int)))) ((fun j => ifE j (S.ρ 71) ((opZ .or .u64 ((opZ .or .u64 ((opZ .or .u64 ((2 : Int)) ((opZ .shl .u64 ((opZ .and .u64 ((IntKind.u64.wrap (S.ρ 70))) ((1023 : Int)))) ((3 : Int)))))) ((0 : Int)))) ((0 : Int)))) ((fun j => ifE j (S.ρ 69) ((0 : Int)) ((fun j => ifE j (S.ρ 68) ((IntKind.u64.wrap ((S.Φ 63 [S.ρ 68]) + (18446744073709551615 : Int)))) ((fun j => S.Φ 63 [j]) j)) j)) j)) j)) j)) j)) j)) j)) j)) j)) j)) j)) j)) j)) j))
def rC210 : ACode := (.upd (.upd (.upd (.upd (.upd (.upd (.upd (.upd (.upd (.upd (.upd (.upd (.upd (.upd (.upd (.var 63) (Tm.enc (.var .i64 68)) (Tm.enc (.bin .add (.app .u64 63 (.cons (.var .i64 68) .nil)) (.lit .u64 18446744073709551615)))) (Tm.enc (.var .i64 69)) (Tm.enc (.lit .u64 0))) (Tm.enc (.var .i64 71)) (Tm.enc (.bin .or (.bin .or (.bin .or (.lit .u64 2) (.bin .shl (.bin .and (.conv .u64 (.var .i64 70)) (.lit .u64 1023)) (.lit .u64 3))) (.lit .u64 0)) (.lit .u64 0)))) (Tm.enc (.var .i64 72)) (Tm.enc (.bin .or (.bin .or (.bin .or (.lit .u64 1) (.bin .shl (.bin .and (.conv .u64 (.var .i64 70)) (.lit .u64 1023)) (.lit .u64 3))) (.lit .u64 0)) (.lit .u64 0)))) (Tm.enc (.var .i64 74)) (Tm.enc (.bin .add (.bin .add (.app .u64 63 (.cons (.var .i64 68) .nil)) (.lit .u64 18446744073709551615)) (.lit .u64 1)))) (Tm.enc (.var .i64 69)) (Tm.enc (.lit .u64 12))) (Tm.enc (.var .i64 69)) (Tm.enc (.lit .u64 11))) (Tm.enc (.var .i64 75)) (Tm.enc (.lit .u64 4294967806))) (Tm.enc (.var .i64 75)) (Tm.enc (.lit .u64 4294967804))) (Tm.enc (.var .i64 75)) (Tm.enc (.lit .u64 4294967800))) (Tm.enc (.var .i64 75)) (Tm.enc (.lit .u64 4294967792))) (Tm.enc (.var .i64 75)) (Tm.enc (.lit .u64 4294967776))) (Tm.enc (.var .i64 75)) (Tm.enc (.lit .u64 4294967744))) (Tm.enc (.var .i64 75)) (Tm.enc (.lit .u64 4294967680))) (Tm.enc (.var .i64 75)) (Tm.enc (.lit .u64 4294967552)))
def gC210 (S : Sy) : Int → Int := (fun j => ifE j (S.ρ 75) ((4294967552 : Int)) ((fun j => ifE j (S.ρ 75) ((4294967680 : Int)) ((fun j => ifE j (S.ρ 75) ((4294967744 : Int)) ((fun j => ifE j (S.ρ 75) ((4294967776 : Int)) ((fun j => ifE j (S.ρ 75) ((4294967792 : Int)) ((fun j => ifE j (S.ρ 75) ((4294967800 : Int)) ((fun j => ifE j (S.ρ 75) ((4294967804 : Int)) ((fun j => ifE j (S.ρ 75) ((4294967806 : Int)) ((fun j => ifE j (S.ρ 69) ((11 : Int)) ((fun j => ifE j (S.ρ 69) ((12 : Int)) ((fun j => ifE j (S.ρ 74) ((IntKind.u64.wrap ((IntKind.u64.wrap ((S.Φ 63 [S.ρ 68]) + (18446744073709551615 : Int))) + (1 : Int)))) ((fun j => ifE j (S.ρ 72) ((opZ .or .u64 ((opZ .or .u64 ((opZ .or .u64 ((1 : Int)) ((opZ .shl .u64 ((opZ .and .u64 ((IntKind.u64.wrap (S.ρ 70))) ((1023 : Int)))) ((3 : Int)))))) ((0 : Int)))) ((0 : Int)))) ((fun j => ifE j (S.ρ 71) ((opZ .or .u64 ((opZ .or .u64 ((opZ .or .u64 ((2 : Int)) ((opZ .shl .u64 ((opZ .and .u64 ((IntKind.u64.wrap (S.ρ 70))) ((1023 : Int)))) ((3 : Int)))))) ((0 : Int)))) ((0 : Int)))) ((fun j => ifE j (S.ρ 69) ((0 : Int)) ((fun j => ifE j (S.ρ 68) ((IntKind.u64.wrap ((S.Φ 63 [S.ρ 68]) + (18446744073709551615 : Int)))) ((fun j => S.Φ 63 [j]) j)) j)) j)) j)) j)) j)) j)) j)) j)) j)) j)) j)) j)) j)) j))
noncomputable def alLaw0000 : List (Nat × Value) := alE0L ++ (alHd ++ (alJ0L ++ (alP00L ++ alT0L)))
theorem runL0000 {T : Sy} (ty : TypeId) (ha : AlOk T alLaw0000) (G : Nat → Option Obj) : outV (runM Tryd.prog ΛB (lkL [lkO0 ty, lkB ty, lkC rC000 ty]) ftB ha (csW csL0) G 1000 (.fn 3 [vv .u8 2, vv .u8 3, vv .u8 4].toArray) (H0g Tryd.prog (gsT ty))) = some (bundle [.bool true]) := by kernel_rfl
noncomputable def alLaw0010 : List (Nat × Value) := alE0L ++ (alHd ++ (alJ1L ++ (alP00L ++ alT0L)))
theorem runL0010 {T : Sy} (ty : TypeId) (ha : AlOk T alLaw0010) (G : Nat → Option Obj) : outV (runM Tryd.prog ΛB (lkL [lkO1 ty, lkB ty, lkC rC000 ty]) ftB ha (csW csL0) G 1000 (.fn 3 [vv .u8 2, vv .u8 3, vv .u8 4].toArray) (H0g Tryd.prog (gsT ty))) = some (bundle [.bool true]) := by kernel_rfl
noncomputable def alLaw1010 : List (Nat × Value) := alE1L ++ (alHd ++ (alJ1L ++ (alP10L ++ alT0L)))
theorem runL1010 {T : Sy} (ty : TypeId) (ha : AlOk T alLaw1010) (G : Nat → Option Obj) : outV (runM Tryd.prog ΛB (lkL [lkO1 ty, lkB ty, lkC rC100 ty]) ftB ha (csW csL1) G 1000 (.fn 3 [vv .u8 2, vv .u8 3, vv .u8 4].toArray) (H0g Tryd.prog (gsT ty))) = some (bundle [.bool true]) := by kernel_rfl
noncomputable def alLaw2010 : List (Nat × Value) := alE1L ++ (alHd ++ (alJ1L ++ (alP20L ++ alT0L)))
theorem runL2010 {T : Sy} (ty : TypeId) (ha : AlOk T alLaw2010) (G : Nat → Option Obj) : outV (runM Tryd.prog ΛB (lkL [lkO1 ty, lkB ty, lkC rC200 ty]) ftB ha (csW csL1) G 1000 (.fn 3 [vv .u8 2, vv .u8 3, vv .u8 4].toArray) (H0g Tryd.prog (gsT ty))) = some (bundle [.bool true]) := by kernel_rfl
noncomputable def alLaw2110 : List (Nat × Value) := alE1L ++ (alHd ++ (alJ1L ++ (alP21L ++ alT0L)))
theorem runL2110 {T : Sy} (ty : TypeId) (ha : AlOk T alLaw2110) (G : Nat → Option Obj) : outV (runM Tryd.prog ΛB (lkL [lkO1 ty, lkB ty, lkC rC210 ty]) ftB ha (csW csL1) G 1000 (.fn 3 [vv .u8 2, vv .u8 3, vv .u8 4].toArray) (H0g Tryd.prog (gsT ty))) = some (bundle [.bool true]) := by kernel_rfl
end Go.Proofs.YtgokpcaijabhoaaDoor
namespace Go.Proofs.YtgokpcaijabhoaaDoor
open Go.Ev Go.RowKit
set_option maxRecDepth 100000
set_option linter.unusedVariables false
set_option maxHeartbeats 8000000 in
theorem wayL0000 {SS : Sy} (v : Giv SS) (hm : SS.ρ 5 = 1) (hl : SS.ρ 5 - SS.ρ 17 - 1 = 0) (hd : SS.ρ 20 = 0) (ty : TypeId) : LawIs SS ty := by
  obtain ⟨T1, R, y1, hk1⟩ := preL0 ty v.g v.e45 v.e71 v.e62 v.e64 hm
  have q5 : T1.ρ 5 = SS.ρ 5 := y1.num 5 rfl
  have q17 : T1.ρ 17 = SS.ρ 17 := y1.num 17 rfl
  obtain ⟨e68, e69, e71, e72, e74, e75, l0, l1, l2, l3, n0, n1, i0, i1⟩ := places R
  obtain ⟨T2, T, s83, z65, g3, y13, TT, hk2⟩ := postL0 ty R ((y1.num 20 rfl).trans hd) (gC000 T1) (fun j h0 h1 => by unfold gC000; dsimp only [ifE]; (repeat rw [if_neg (by omega)]))
  have p : Stay [21, 22, 23, 24, 27, 28, 29, 44, 45, 50, 51, 66, 67, 68, 69, 70, 71, 72, 73, 74, 75, 76, 77, 78, 79, 83, 84, 85, 88, 101, 102, 103, 104, 105, 106, 107, 111, 112, 113, 114, 115, 116, 117, 120, 121, 122, 123, 124, 125, 126, 127] [60, 61, 63, 65] SS T := stay_weak (y1.trans y13) rfl rfl
  have RT := TT.rn
  have u5 : T.ρ 5 = SS.ρ 5 := p.num 5 rfl
  have u17 : T.ρ 17 = SS.ρ 17 := p.num 17 rfl
  have hr : Row T rC000 (gC000 T) := by
    unfold rC000 gC000
    (repeat refine ar_upd _ _ (by rfl) (by rfl) (by kernel_rfl) ?_)
    exact ar_var _
  have eg : ∀ j : Nat, gC000 T (j : Int) = T2.Φ 65 [(j : Int)] := fun j => by rw [z65]; unfold gC000; dsimp only; simp only [y13.num 68 rfl, y13.num 69 rfl, y13.num 75 rfl, y13.fn 63 rfl]
  have hal : AlOk T alLaw0000 := AlOk.app (alE0_ok RT) (AlOk.app (alHd_ok v RT.geo p) (AlOk.app (alJ0_of v RT p hm) (AlOk.app (alP00_ok RT (by rw [u5, u17]; exact hl)) (alT0_ok TT))))
  exact lawBy v RT.geo p hal (csL0_ok ty RT) (hk1 T y13).1 (hk1 T y13).2 (hk2 _ (askC_ok hr eg s83 g3)) (fun G => runL0000 ty hal G)
set_option maxHeartbeats 8000000 in
theorem wayL0010 {SS : Sy} (v : Giv SS) (hm : 1 < SS.ρ 5) (hl : SS.ρ 5 - SS.ρ 17 - 1 = 0) (hd : SS.ρ 20 = 0) (ty : TypeId) : LawIs SS ty := by
  obtain ⟨T1, R, y1, hk1⟩ := preL1 ty v.g v.e45 v.e71 v.e62 v.e64 hm
  have q5 : T1.ρ 5 = SS.ρ 5 := y1.num 5 rfl
  have q17 : T1.ρ 17 = SS.ρ 17 := y1.num 17 rfl
  obtain ⟨e68, e69, e71, e72, e74, e75, l0, l1, l2, l3, n0, n1, i0, i1⟩ := places R
  obtain ⟨T2, T, s83, z65, g3, y13, TT, hk2⟩ := postL0 ty R ((y1.num 20 rfl).trans hd) (gC000 T1) (fun j h0 h1 => by unfold gC000; dsimp only [ifE]; (repeat rw [if_neg (by omega)]))
  have p : Stay [21, 22, 23, 24, 27, 28, 29, 44, 45, 50, 51, 66, 67, 68, 69, 70, 71, 72, 73, 74, 75, 76, 77, 78, 79, 83, 84, 85, 88, 101, 102, 103, 104, 105, 106, 107, 111, 112, 113, 114, 115, 116, 117, 120, 121, 122, 123, 124, 125, 126, 127] [60, 61, 63, 65] SS T := stay_weak (y1.trans y13) rfl rfl
  have RT := TT.rn
  have u5 : T.ρ 5 = SS.ρ 5 := p.num 5 rfl
  have u17 : T.ρ 17 = SS.ρ 17 := p.num 17 rfl
  have hr : Row T rC000 (gC000 T) := by
    unfold rC000 gC000
    (repeat refine ar_upd _ _ (by rfl) (by rfl) (by kernel_rfl) ?_)
    exact ar_var _
  have eg : ∀ j : Nat, gC000 T (j : Int) = T2.Φ 65 [(j : Int)] := fun j => by rw [z65]; unfold gC000; dsimp only; simp only [y13.num 68 rfl, y13.num 69 rfl, y13.num 75 rfl, y13.fn 63 rfl]
  have hal : AlOk T alLaw0010 := AlOk.app (alE0_ok RT) (AlOk.app (alHd_ok v RT.geo p) (AlOk.app (alJ1_of v RT p hm) (AlOk.app (alP00_ok RT (by rw [u5, u17]; exact hl)) (alT0_ok TT))))
  exact lawBy v RT.geo p hal (csL0_ok ty RT) (hk1 T y13).1 (hk1 T y13).2 (hk2 _ (askC_ok hr eg s83 g3)) (fun G => runL0010 ty hal G)
set_option maxHeartbeats 8000000 in
theorem wayL1010 {SS : Sy} (v : Giv SS) (hm : 1 < SS.ρ 5) (hl : SS.ρ 5 - SS.ρ 17 - 1 = 1) (hs : 7 + lg (SS.ρ 5 - SS.ρ 17 - 1) ≠ 7 + lg (SS.ρ 5 - SS.ρ 17)) (hd : SS.ρ 20 = 0) (ty : TypeId) : LawIs SS ty := by
  obtain ⟨T1, R, y1, hk1⟩ := preL1 ty v.g v.e45 v.e71 v.e62 v.e64 hm
  have q5 : T1.ρ 5 = SS.ρ 5 := y1.num 5 rfl
  have q17 : T1.ρ 17 = SS.ρ 17 := y1.num 17 rfl
  obtain ⟨e68, e69, e71, e72, e74, e75, l0, l1, l2, l3, n0, n1, i0, i1⟩ := places R
  obtain ⟨T2, T, s83, z65, g3, y13, TT, hk2⟩ := postL0 ty R ((y1.num 20 rfl).trans hd) (gC100 T1) (fun j h0 h1 => by unfold gC100; dsimp only [ifE]; (repeat rw [if_neg (by omega)]))
  have p : Stay [21, 22, 23, 24, 27, 28, 29, 44, 45, 50, 51, 66, 67, 68, 69, 70, 71, 72, 73, 74, 75, 76, 77, 78, 79, 83, 84, 85, 88, 101, 102, 103, 104, 105, 106, 107, 111, 112, 113, 114, 115, 116, 117, 120, 121, 122, 123, 124, 125, 126, 127] [60, 61, 63, 65] SS T := stay_weak (y1.trans y13) rfl rfl
  have RT := TT.rn
  have u5 : T.ρ 5 = SS.ρ 5 := p.num 5 rfl
  have u17 : T.ρ 17 = SS.ρ 17 := p.num 17 rfl
  have hr : Row T rC100 (gC100 T) := by
    unfold rC100 gC100
    (repeat refine ar_upd _ _ (by rfl) (by rfl) (by kernel_rfl) ?_)
    exact ar_var _
  have eg : ∀ j : Nat, gC100 T (j : Int) = T2.Φ 65 [(j : Int)] := fun j => by rw [z65]; unfold gC100; dsimp only; simp only [y13.num 68 rfl, y13.num 69 rfl, y13.num 72 rfl, y13.num 74 rfl, y13.num 75 rfl, y13.fn 63 rfl]
  have hal : AlOk T alLaw1010 := AlOk.app (alE1_ok RT) (AlOk.app (alHd_ok v RT.geo p) (AlOk.app (alJ1_of v RT p hm) (AlOk.app (alP10_ok RT (by rw [u5, u17]; exact hl) (by rw [RT.e74, RT.e68, RT.e73, RT.e67, u5, u17]; exact hs)) (alT0_ok TT))))
  exact lawBy v RT.geo p hal (csL1_ok ty RT (by rw [u5, u17]; omega)) (hk1 T y13).1 (hk1 T y13).2 (hk2 _ (askC_ok hr eg s83 g3)) (fun G => runL1010 ty hal G)
set_option maxHeartbeats 8000000 in
theorem wayL2010 {SS : Sy} (v : Giv SS) (hm : 1 < SS.ρ 5) (hl : 2 ≤ SS.ρ 5 - SS.ρ 17 - 1) (hs : 7 + lg (SS.ρ 5 - SS.ρ 17 - 1) ≠ 7 + lg (SS.ρ 5 - SS.ρ 17)) (hd : SS.ρ 20 = 0) (ty : TypeId) : LawIs SS ty := by
  obtain ⟨T1, R, y1, hk1⟩ := preL1 ty v.g v.e45 v.e71 v.e62 v.e64 hm
  have q5 : T1.ρ 5 = SS.ρ 5 := y1.num 5 rfl
  have q17 : T1.ρ 17 = SS.ρ 17 := y1.num 17 rfl
  obtain ⟨e68, e69, e71, e72, e74, e75, l0, l1, l2, l3, n0, n1, i0, i1⟩ := places R
  obtain ⟨T2, T, s83, z65, g3, y13, TT, hk2⟩ := postL0 ty R ((y1.num 20 rfl).trans hd) (gC200 T1) (fun j h0 h1 => by unfold gC200; dsimp only [ifE]; (repeat rw [if_neg (by omega)]))
  have p : Stay [21, 22, 23, 24, 27, 28, 29, 44, 45, 50, 51, 66, 67, 68, 69, 70, 71, 72, 73, 74, 75, 76, 77, 78, 79, 83, 84, 85, 88, 101, 102, 103, 104, 105, 106, 107, 111, 112, 113, 114, 115, 116, 117, 120, 121, 122, 123, 124, 125, 126, 127] [60, 61, 63, 65] SS T := stay_weak (y1.trans y13) rfl rfl
  have RT := TT.rn
  have u5 : T.ρ 5 = SS.ρ 5 := p.num 5 rfl
  have u17 : T.ρ 17 = SS.ρ 17 := p.num 17 rfl
  have hr : Row T rC200 (gC200 T) := by
    unfold rC200 gC200
    (repeat refine ar_upd _ _ (by rfl) (by rfl) (by kernel_rfl) ?_)
    exact ar_var _
  have eg : ∀ j : Nat, gC200 T (j : Int) = T2.Φ 65 [(j : Int)] := fun j => by rw [z65]; unfold gC200; dsimp only; simp only [y13.num 68 rfl, y13.num 69 rfl, y13.num 70 rfl, y13.num 71 rfl, y13.num 72 rfl, y13.num 74 rfl, y13.num 75 rfl, y13.fn 63 rfl]
  have hal : AlOk T alLaw2010 := AlOk.app (alE1_ok RT) (AlOk.app (alHd_ok v RT.geo p) (AlOk.app (alJ1_of v RT p hm) (AlOk.app (alP20_ok RT (by rw [u5, u17]; exact hl) (by rw [RT.e74, RT.e68, RT.e73, RT.e67, u5, u17]; exact hs)) (alT0_ok TT))))
  exact lawBy v RT.geo p hal (csL1_ok ty RT (by rw [u5, u17]; omega)) (hk1 T y13).1 (hk1 T y13).2 (hk2 _ (askC_ok hr eg s83 g3)) (fun G => runL2010 ty hal G)
set_option maxHeartbeats 8000000 in
theorem wayL2110 {SS : Sy} (v : Giv SS) (hm : 1 < SS.ρ 5) (hl : 2 ≤ SS.ρ 5 - SS.ρ 17 - 1) (hs : 7 + lg (SS.ρ 5 - SS.ρ 17 - 1) = 7 + lg (SS.ρ 5 - SS.ρ 17)) (hd : SS.ρ 20 = 0) (ty : TypeId) : LawIs SS ty := by
  obtain ⟨T1, R, y1, hk1⟩ := preL1 ty v.g v.e45 v.e71 v.e62 v.e64 hm
  have q5 : T1.ρ 5 = SS.ρ 5 := y1.num 5 rfl
  have q17 : T1.ρ 17 = SS.ρ 17 := y1.num 17 rfl
  obtain ⟨e68, e69, e71, e72, e74, e75, l0, l1, l2, l3, n0, n1, i0, i1⟩ := places R
  obtain ⟨T2, T, s83, z65, g3, y13, TT, hk2⟩ := postL0 ty R ((y1.num 20 rfl).trans hd) (gC210 T1) (fun j h0 h1 => by unfold gC210; dsimp only [ifE]; (repeat rw [if_neg (by omega)]))
  have p : Stay [21, 22, 23, 24, 27, 28, 29, 44, 45, 50, 51, 66, 67, 68, 69, 70, 71, 72, 73, 74, 75, 76, 77, 78, 79, 83, 84, 85, 88, 101, 102, 103, 104, 105, 106, 107, 111, 112, 113, 114, 115, 116, 117, 120, 121, 122, 123, 124, 125, 126, 127] [60, 61, 63, 65] SS T := stay_weak (y1.trans y13) rfl rfl
  have RT := TT.rn
  have u5 : T.ρ 5 = SS.ρ 5 := p.num 5 rfl
  have u17 : T.ρ 17 = SS.ρ 17 := p.num 17 rfl
  have hr : Row T rC210 (gC210 T) := by
    unfold rC210 gC210
    (repeat refine ar_upd _ _ (by rfl) (by rfl) (by kernel_rfl) ?_)
    exact ar_var _
  have eg : ∀ j : Nat, gC210 T (j : Int) = T2.Φ 65 [(j : Int)] := fun j => by rw [z65]; unfold gC210; dsimp only; simp only [y13.num 68 rfl, y13.num 69 rfl, y13.num 70 rfl, y13.num 71 rfl, y13.num 72 rfl, y13.num 74 rfl, y13.num 75 rfl, y13.fn 63 rfl]
  have hal : AlOk T alLaw2110 := AlOk.app (alE1_ok RT) (AlOk.app (alHd_ok v RT.geo p) (AlOk.app (alJ1_of v RT p hm) (AlOk.app (alP21_ok RT (by rw [u5, u17]; exact hl) (by rw [RT.e74, RT.e68, RT.e73, RT.e67, u5, u17]; exact hs)) (alT0_ok TT))))
  exact lawBy v RT.geo p hal (csL1_ok ty RT (by rw [u5, u17]; omega)) (hk1 T y13).1 (hk1 T y13).2 (hk2 _ (askC_ok hr eg s83 g3)) (fun G => runL2110 ty hal G)
end Go.Proofs.YtgokpcaijabhoaaDoor
namespace Go.Proofs.YtgokpcaijabhoaaDoor
open Go.Ev Go.RowKit
set_option maxRecDepth 100000
set_option linter.unusedVariables false
def rC001 : ACode := (.upd (.upd (.upd (.upd (.upd (.upd (.upd (.upd (.var 63) (Tm.enc (.var .i64 68)) (Tm.enc (.bin .add (.app .u64 63 (.cons (.var .i64 68) .nil)) (.lit .u64 18446744073709551615)))) (Tm.enc (.var .i64 69)) (Tm.enc (.lit .u64 0))) (Tm.enc (.var .i64 69)) (Tm.enc (.lit .u64 12))) (Tm.enc (.var .i64 69)) (Tm.enc (.lit .u64 8203))) (Tm.enc (.var .i64 75)) (Tm.enc (.lit .u64 4294967822))) (Tm.enc (.var .i64 75)) (Tm.enc (.lit .u64 4294967820))) (Tm.enc (.var .i64 75)) (Tm.enc (.lit .u64 4294967816))) (Tm.enc (.var .i64 75)) (Tm.enc (.lit .u64 4294967808)))
def gC001 (S : Sy) : Int → Int := (fun j => ifE j (S.ρ 75) ((4294967808 : Int)) ((fun j => ifE j (S.ρ 75) ((4294967816 : Int)) ((fun j => ifE j (S.ρ 75) ((4294967820 : Int)) ((fun j => ifE j (S.ρ 75) ((4294967822 : Int)) ((fun j => ifE j (S.ρ 69) ((8203 : Int)) ((fun j => ifE j (S.ρ 69) ((12 : Int)) ((fun j => ifE j (S.ρ 69) ((0 : Int)) ((fun j => ifE j (S.ρ 68) ((IntKind.u64.wrap ((S.Φ 63 [S.ρ 68]) + (18446744073709551615 : Int)))) ((fun j => S.Φ 63 [j]) j)) j)) j)) j)) j)) j)) j)) j))
def rC101 : ACode := (.upd (.upd (.upd (.upd (.upd (.upd (.upd (.upd (.upd (.upd (.var 63) (Tm.enc (.var .i64 68)) (Tm.enc (.bin .add (.app .u64 63 (.cons (.var .i64 68) .nil)) (.lit .u64 18446744073709551615)))) (Tm.enc (.var .i64 69)) (Tm.enc (.lit .u64 0))) (Tm.enc (.var .i64 72)) (Tm.enc (.lit .u64 9))) (Tm.enc (.var .i64 74)) (Tm.enc (.bin .add (.app .u64 63 (.cons (.var .i64 74) .nil)) (.lit .u64 1)))) (Tm.enc (.var .i64 69)) (Tm.enc (.lit .u64 12))) (Tm.enc (.var .i64 69)) (Tm.enc (.lit .u64 8203))) (Tm.enc (.var .i64 75)) (Tm.enc (.lit .u64 4294967822))) (Tm.enc (.var .i64 75)) (Tm.enc (.lit .u64 4294967820))) (Tm.enc (.var .i64 75)) (Tm.enc (.lit .u64 4294967816))) (Tm.enc (.var .i64 75)) (Tm.enc (.lit .u64 4294967808)))
def gC101 (S : Sy) : Int → Int := (fun j => ifE j (S.ρ 75) ((4294967808 : Int)) ((fun j => ifE j (S.ρ 75) ((4294967816 : Int)) ((fun j => ifE j (S.ρ 75) ((4294967820 : Int)) ((fun j => ifE j (S.ρ 75) ((4294967822 : Int)) ((fun j => ifE j (S.ρ 69) ((8203 : Int)) ((fun j => ifE j (S.ρ 69) ((12 : Int)) ((fun j => ifE j (S.ρ 74) ((IntKind.u64.wrap ((S.Φ 63 [S.ρ 74]) + (1 : Int)))) ((fun j => ifE j (S.ρ 72) ((9 : Int)) ((fun j => ifE j (S.ρ 69) ((0 : Int)) ((fun j => ifE j (S.ρ 68) ((IntKind.u64.wrap ((S.Φ 63 [S.ρ 68]) + (18446744073709551615 : Int)))) ((fun j => S.Φ 63 [j]) j)) j)) j)) j)) j)) j)) j)) j)) j)) j))
def rC201 : ACode := (.upd (.upd (.upd (.upd (.upd (.upd (.upd (.upd (.upd (.upd (.upd (.var 63) (Tm.enc (.var .i64 68)) (Tm.enc (.bin .add (.app .u64 63 (.cons (.var .i64 68) .nil)) (.lit .u64 18446744073709551615)))) (Tm.enc (.var .i64 69)) (Tm.enc (.lit .u64 0))) (Tm.enc (.var .i64 71)) (Tm.enc (.bin .or (.bin .or (.bin .or (.lit .u64 2) (.bin .shl (.bin .and (.conv .u64 (.var .i64 70)) (.lit .u64 1023)) (.lit .u64 3))) (.lit .u64 0)) (.lit .u64 0)))) (Tm.enc (.var .i64 72)) (Tm.enc (.bin .or (.bin .or (.bin .or (.lit .u64 1) (.bin .shl (.bin .and (.conv .u64 (.var .i64 70)) (.lit .u64 1023)) (.lit .u64 3))) (.lit .u64 0)) (.lit .u64 0)))) (Tm.enc (.var .i64 74)) (Tm.enc (.bin .add (.app .u64 63 (.cons (.var .i64 74) .nil)) (.lit .u64 1)))) (Tm.enc (.var .i64 69)) (Tm.enc (.lit .u64 12))) (Tm.enc (.var .i64 69)) (Tm.enc (.lit .u64 8203))) (Tm.enc (.var .i64 75)) (Tm.enc (.lit .u64 4294967822))) (Tm.enc (.var .i64 75)) (Tm.enc (.lit .u64 4294967820))) (Tm.enc (.var .i64 75)) (Tm.enc (.lit .u64 4294967816))) (Tm.enc (.var .i64 75)) (Tm.enc (.lit .u64 4294967808)))
def gC201 (S : Sy) : Int → Int := (fun j => ifE j (S.ρ 75) ((4294967808 : Int)) ((fun j => ifE j (S.ρ 75) ((4294967816 : Int)) ((fun j => ifE j (S.ρ 75) ((4294967820 : Int)) ((fun j => ifE j (S.ρ 75) ((4294967822 : Int)) ((fun j => ifE j (S.ρ 69) ((8203 : Int)) ((fun j => ifE j (S.ρ 69) ((12 : Int)) ((fun j => ifE j (S.ρ 74) ((IntKind.u64.wrap ((S.Φ 63 [S.ρ 74]) + (1 : Int)))) ((fun j => ifE j (S.ρ 72) ((opZ .or .u64 ((opZ .or .u64 ((opZ .or .u64 ((1 : Int)) ((opZ .shl .u64 ((opZ .and .u64 ((IntKind.u64.wrap (S.ρ 70))) ((1023 : Int)))) ((3 : Int)))))) ((0 : Int)))) ((0 : Int)))) ((fun j => ifE j (S.ρ 71) ((opZ .or .u64 ((opZ .or .u64 ((opZ .or .u64 ((2 : Int)) ((opZ .shl .u64 ((opZ .and .u64 ((IntKind.u64.wrap (S.ρ 70))) ((1023 : Int)))) ((3 : Int)))))) ((0 : Int)))) ((0 : Int)))) ((fun j => ifE j (S.ρ 69) ((0 : Int)) ((fun j => ifE j (S.ρ 68) ((IntKind.u64.wrap ((S.Φ 63 [S.ρ 68]) + (18446744073709551615 : Int)))) ((fun j => S.Φ 63 [j]) j)) j)) j)) j)) j)) j)) j)) j)) j)) j)) j))
def rC211 : ACode := (.upd (.upd (.upd (.upd (.upd (.upd (.upd (.upd (.upd (.upd (.upd (.var 63) (Tm.enc (.var .i64 68)) (Tm.enc (.bin .add (.app .u64 63 (.cons (.var .i64 68) .nil)) (.lit .u64 18446744073709551615)))) (Tm.enc (.var .i64 69)) (Tm.enc (.lit .u64 0))) (Tm.enc (.var .i64 71)) (Tm.enc (.bin .or (.bin .or (.bin .or (.lit .u64 2) (.bin .shl (.bin .and (.conv .u64 (.var .i64 70)) (.lit .u64 1023)) (.lit .u64 3))) (.lit .u64 0)) (.lit .u64 0)))) (Tm.enc (.var .i64 72)) (Tm.enc (.bin .or (.bin .or (.bin .or (.lit .u64 1) (.bin .shl (.bin .and (.conv .u64 (.var .i64 70)) (.lit .u64 1023)) (.lit .u64 3))) (.lit .u64 0)) (.lit .u64 0)))) (Tm.enc (.var .i64 74)) (Tm.enc (.bin .add (.bin .add (.app .u64 63 (.cons (.var .i64 68) .nil)) (.lit .u64 18446744073709551615)) (.lit .u64 1)))) (Tm.enc (.var .i64 69)) (Tm.enc (.lit .u64 12))) (Tm.enc (.var .i64 69)) (Tm.enc (.lit .u64 8203))) (Tm.enc (.var .i64 75)) (Tm.enc (.lit .u64 4294967822))) (Tm.enc (.var .i64 75)) (Tm.enc (.lit .u64 4294967820))) (Tm.enc (.var .i64 75)) (Tm.enc (.lit .u64 4294967816))) (Tm.enc (.var .i64 75)) (Tm.enc (.lit .u64 4294967808)))
def gC211 (S : Sy) : Int → Int := (fun j => ifE j (S.ρ 75) ((4294967808 : Int)) ((fun j => ifE j (S.ρ 75) ((4294967816 : Int)) ((fun j => ifE j (S.ρ 75) ((4294967820 : Int)) ((fun j => ifE j (S.ρ 75) ((4294967822 : Int)) ((fun j => ifE j (S.ρ 69) ((8203 : Int)) ((fun j => ifE j (S.ρ 69) ((12 : Int)) ((fun j => ifE j (S.ρ 74) ((IntKind.u64.wrap ((IntKind.u64.wrap ((S.Φ 63 [S.ρ 68]) + (18446744073709551615 : Int))) + (1 : Int)))) ((fun j => ifE j (S.ρ 72) ((opZ .or .u64 ((opZ .or .u64 ((opZ .or .u64 ((1 : Int)) ((opZ .shl .u64 ((opZ .and .u64 ((IntKind.u64.wrap (S.ρ 70))) ((1023 : Int)))) ((3 : Int)))))) ((0 : Int)))) ((0 : Int)))) ((fun j => ifE j (S.ρ 71) ((opZ .or .u64 ((opZ .or .u64 ((opZ .or .u64 ((2 : Int)) ((opZ .shl .u64 ((opZ .and .u64 ((IntKind.u64.wrap (S.ρ 70))) ((1023 : Int)))) ((3 : Int)))))) ((0 : Int)))) ((0 : Int)))) ((fun j => ifE j (S.ρ 69) ((0 : Int)) ((fun j => ifE j (S.ρ 68) ((IntKind.u64.wrap ((S.Φ 63 [S.ρ 68]) + (18446744073709551615 : Int)))) ((fun j => S.Φ 63 [j]) j)) j)) j)) j)) j)) j)) j)) j)) j)) j)) j))
noncomputable def alLaw0001 : List (Nat × Value) := alE0L ++ (alHd ++ (alJ0L ++ (alP00L ++ alT1L)))
theorem runL0001 {T : Sy} (ty : TypeId) (ha : AlOk T alLaw0001) (G : Nat → Option Obj) : outV (runM Tryd.prog ΛB (lkL [lkO0 ty, lkB ty, lkC rC001 ty]) ftB ha (csW csL0) G 1000 (.fn 3 [vv .u8 2, vv .u8 3, vv .u8 4].toArray) (H0g Tryd.prog (gsT ty))) = some (bundle [.bool true]) := by kernel_rfl
noncomputable def alLaw0011 : List (Nat × Value) := alE0L ++ (alHd ++ (alJ1L ++ (alP00L ++ alT1L)))
theorem runL0011 {T : Sy} (ty : TypeId) (ha : AlOk T alLaw0011) (G : Nat → Option Obj) : outV (runM Tryd.prog ΛB (lkL [lkO1 ty, lkB ty, lkC rC001 ty]) ftB ha (csW csL0) G 1000 (.fn 3 [vv .u8 2, vv .u8 3, vv .u8 4].toArray) (H0g Tryd.prog (gsT ty))) = some (bundle [.bool true]) := by kernel_rfl
noncomputable def alLaw1011 : List (Nat × Value) := alE1L ++ (alHd ++ (alJ1L ++ (alP10L ++ alT1L)))
theorem runL1011 {T : Sy} (ty : TypeId) (ha : AlOk T alLaw1011) (G : Nat → Option Obj) : outV (runM Tryd.prog ΛB (lkL [lkO1 ty, lkB ty, lkC rC101 ty]) ftB ha (csW csL1) G 1000 (.fn 3 [vv .u8 2, vv .u8 3, vv .u8 4].toArray) (H0g Tryd.prog (gsT ty))) = some (bundle [.bool true]) := by kernel_rfl
noncomputable def alLaw2011 : List (Nat × Value) := alE1L ++ (alHd ++ (alJ1L ++ (alP20L ++ alT1L)))
theorem runL2011 {T : Sy} (ty : TypeId) (ha : AlOk T alLaw2011) (G : Nat → Option Obj) : outV (runM Tryd.prog ΛB (lkL [lkO1 ty, lkB ty, lkC rC201 ty]) ftB ha (csW csL1) G 1000 (.fn 3 [vv .u8 2, vv .u8 3, vv .u8 4].toArray) (H0g Tryd.prog (gsT ty))) = some (bundle [.bool true]) := by kernel_rfl
noncomputable def alLaw2111 : List (Nat × Value) := alE1L ++ (alHd ++ (alJ1L ++ (alP21L ++ alT1L)))
theorem runL2111 {T : Sy} (ty : TypeId) (ha : AlOk T alLaw2111) (G : Nat → Option Obj) : outV (runM Tryd.prog ΛB (lkL [lkO1 ty, lkB ty, lkC rC211 ty]) ftB ha (csW csL1) G 1000 (.fn 3 [vv .u8 2, vv .u8 3, vv .u8 4].toArray) (H0g Tryd.prog (gsT ty))) = some (bundle [.bool true]) := by kernel_rfl
end Go.Proofs.YtgokpcaijabhoaaDoor
namespace Go.Proofs.YtgokpcaijabhoaaDoor
open Go.Ev Go.RowKit
set_option maxRecDepth 100000
set_option linter.unusedVariables false
set_option maxHeartbeats 8000000 in
theorem wayL0001 {SS : Sy} (v : Giv SS) (hm : SS.ρ 5 = 1) (hl : SS.ρ 5 - SS.ρ 17 - 1 = 0) (hd : SS.ρ 20 = 1) (ty : TypeId) : LawIs SS ty := by
  obtain ⟨T1, R, y1, hk1⟩ := preL0 ty v.g v.e45 v.e71 v.e62 v.e64 hm
  have q5 : T1.ρ 5 = SS.ρ 5 := y1.num 5 rfl
  have q17 : T1.ρ 17 = SS.ρ 17 := y1.num 17 rfl
  obtain ⟨e68, e69, e71, e72, e74, e75, l0, l1, l2, l3, n0, n1, i0, i1⟩ := places R
  obtain ⟨T2, T, s83, z65, g3, y13, TT, hk2⟩ := postL1 ty R ((y1.num 20 rfl).trans hd) (gC001 T1) (fun j h0 h1 => by unfold gC001; dsimp only [ifE]; (repeat rw [if_neg (by omega)]))
  have p : Stay [21, 22, 23, 24, 27, 28, 29, 44, 45, 50, 51, 66, 67, 68, 69, 70, 71, 72, 73, 74, 75, 76, 77, 78, 79, 83, 84, 85, 88, 101, 102, 103, 104, 105, 106, 107, 111, 112, 113, 114, 115, 116, 117, 120, 121, 122, 123, 124, 125, 126, 127] [60, 61, 63, 65] SS T := stay_weak (y1.trans y13) rfl rfl
  have RT := TT.rn
  have u5 : T.ρ 5 = SS.ρ 5 := p.num 5 rfl
  have u17 : T.ρ 17 = SS.ρ 17 := p.num 17 rfl
  have hr : Row T rC001 (gC001 T) := by
    unfold rC001 gC001
    (repeat refine ar_upd _ _ (by rfl) (by rfl) (by kernel_rfl) ?_)
    exact ar_var _
  have eg : ∀ j : Nat, gC001 T (j : Int) = T2.Φ 65 [(j : Int)] := fun j => by rw [z65]; unfold gC001; dsimp only; simp only [y13.num 68 rfl, y13.num 69 rfl, y13.num 75 rfl, y13.fn 63 rfl]
  have hal : AlOk T alLaw0001 := AlOk.app (alE0_ok RT) (AlOk.app (alHd_ok v RT.geo p) (AlOk.app (alJ0_of v RT p hm) (AlOk.app (alP00_ok RT (by rw [u5, u17]; exact hl)) (alT1_ok TT))))
  exact lawBy v RT.geo p hal (csL0_ok ty RT) (hk1 T y13).1 (hk1 T y13).2 (hk2 _ (askC_ok hr eg s83 g3)) (fun G => runL0001 ty hal G)
set_option maxHeartbeats 8000000 in
theorem wayL0011 {SS : Sy} (v : Giv SS) (hm : 1 < SS.ρ 5) (hl : SS.ρ 5 - SS.ρ 17 - 1 = 0) (hd : SS.ρ 20 = 1) (ty : TypeId) : LawIs SS ty := by
  obtain ⟨T1, R, y1, hk1⟩ := preL1 ty v.g v.e45 v.e71 v.e62 v.e64 hm
  have q5 : T1.ρ 5 = SS.ρ 5 := y1.num 5 rfl
  have q17 : T1.ρ 17 = SS.ρ 17 := y1.num 17 rfl
  obtain ⟨e68, e69, e71, e72, e74, e75, l0, l1, l2, l3, n0, n1, i0, i1⟩ := places R
  obtain ⟨T2, T, s83, z65, g3, y13, TT, hk2⟩ := postL1 ty R ((y1.num 20 rfl).trans hd) (gC001 T1) (fun j h0 h1 => by unfold gC001; dsimp only [ifE]; (repeat rw [if_neg (by omega)]))
  have p : Stay [21, 22, 23, 24, 27, 28, 29, 44, 45, 50, 51, 66, 67, 68, 69, 70, 71, 72, 73, 74, 75, 76, 77, 78, 79, 83, 84, 85, 88, 101, 102, 103, 104, 105, 106, 107, 111, 112, 113, 114, 115, 116, 117, 120, 121, 122, 123, 124, 125, 126, 127] [60, 61, 63, 65] SS T := stay_weak (y1.trans y13) rfl rfl
  have RT := TT.rn
  have u5 : T.ρ 5 = SS.ρ 5 := p.num 5 rfl
  have u17 : T.ρ 17 = SS.ρ 17 := p.num 17 rfl
  have hr : Row T rC001 (gC001 T) := by
    unfold rC001 gC001
    (repeat refine ar_upd _ _ (by rfl) (by rfl) (by kernel_rfl) ?_)
    exact ar_var _
  have eg : ∀ j : Nat, gC001 T (j : Int) = T2.Φ 65 [(j : Int)] := fun j => by rw [z65]; unfold gC001; dsimp only; simp only [y13.num 68 rfl, y13.num 69 rfl, y13.num 75 rfl, y13.fn 63 rfl]
  have hal : AlOk T alLaw0011 := AlOk.app (alE0_ok RT) (AlOk.app (alHd_ok v RT.geo p) (AlOk.app (alJ1_of v RT p hm) (AlOk.app (alP00_ok RT (by rw [u5, u17]; exact hl)) (alT1_ok TT))))
  exact lawBy v RT.geo p hal (csL0_ok ty RT) (hk1 T y13).1 (hk1 T y13).2 (hk2 _ (askC_ok hr eg s83 g3)) (fun G => runL0011 ty hal G)
set_option maxHeartbeats 8000000 in
theorem wayL1011 {SS : Sy} (v : Giv SS) (hm : 1 < SS.ρ 5) (hl : SS.ρ 5 - SS.ρ 17 - 1 = 1) (hs : 7 + lg (SS.ρ 5 - SS.ρ 17 - 1) ≠ 7 + lg (SS.ρ 5 - SS.ρ 17)) (hd : SS.ρ 20 = 1) (ty : TypeId) : LawIs SS ty := by
  obtain ⟨T1, R, y1, hk1⟩ := preL1 ty v.g v.e45 v.e71 v.e62 v.e64 hm
  have q5 : T1.ρ 5 = SS.ρ 5 := y1.num 5 rfl
  have q17 : T1.ρ 17 = SS.ρ 17 := y1.num 17 rfl
  obtain ⟨e68, e69, e71, e72, e74, e75, l0, l1, l2, l3, n0, n1, i0, i1⟩ := places R
  obtain ⟨T2, T, s83, z65, g3, y13, TT, hk2⟩ := postL1 ty R ((y1.num 20 rfl).trans hd) (gC101 T1) (fun j h0 h1 => by unfold gC101; dsimp only [ifE]; (repeat rw [if_neg (by omega)]))
  have p : Stay [21, 22, 23, 24, 27, 28, 29, 44, 45, 50, 51, 66, 67, 68, 69, 70, 71, 72, 73, 74, 75, 76, 77, 78, 79, 83, 84, 85, 88, 101, 102, 103, 104, 105, 106, 107, 111, 112, 113, 114, 115, 116, 117, 120, 121, 122, 123, 124, 125, 126, 127] [60, 61, 63, 65] SS T := stay_weak (y1.trans y13) rfl rfl
  have RT := TT.rn
  have u5 : T.ρ 5 = SS.ρ 5 := p.num 5 rfl
  have u17 : T.ρ 17 = SS.ρ 17 := p.num 17 rfl
  have hr : Row T rC101 (gC101 T) := by
    unfold rC101 gC101
    (repeat refine ar_upd _ _ (by rfl) (by rfl) (by kernel_rfl) ?_)
    exact ar_var _
  have eg : ∀ j : Nat, gC101 T (j : Int) = T2.Φ 65 [(j : Int)] := fun j => by rw [z65]; unfold gC101; dsimp only; simp only [y13.num 68 rfl, y13.num 69 rfl, y13.num 72 rfl, y13.num 74 rfl, y13.num 75 rfl, y13.fn 63 rfl]
  have hal : AlOk T alLaw1011 := AlOk.app (alE1_ok RT) (AlOk.app (alHd_ok v RT.geo p) (AlOk.app (alJ1_of v RT p hm) (AlOk.app (alP10_ok RT (by rw [u5, u17]; exact hl) (by rw [RT.e74, RT.e68, RT.e73, RT.e67, u5, u17]; exact hs)) (alT1_ok TT))))
  exact lawBy v RT.geo p hal (csL1_ok ty RT (by rw [u5, u17]; omega)) (hk1 T y13).1 (hk1 T y13).2 (hk2 _ (askC_ok hr eg s83 g3)) (fun G => runL1011 ty hal G)
set_option maxHeartbeats 8000000 in
theorem wayL2011 {SS : Sy} (v : Giv SS) (hm : 1 < SS.ρ 5) (hl : 2 ≤ SS.ρ 5 - SS.ρ 17 - 1) (hs : 7 + lg (SS.ρ 5 - SS.ρ 17 - 1) ≠ 7 + lg (SS.ρ 5 - SS.ρ 17)) (hd : SS.ρ 20 = 1) (ty : TypeId) : LawIs SS ty := by
  obtain ⟨T1, R, y1, hk1⟩ := preL1 ty v.g v.e45 v.e71 v.e62 v.e64 hm
  have q5 : T1.ρ 5 = SS.ρ 5 := y1.num 5 rfl
  have q17 : T1.ρ 17 = SS.ρ 17 := y1.num 17 rfl
  obtain ⟨e68, e69, e71, e72, e74, e75, l0, l1, l2, l3, n0, n1, i0, i1⟩ := places R
  obtain ⟨T2, T, s83, z65, g3, y13, TT, hk2⟩ := postL1 ty R ((y1.num 20 rfl).trans hd) (gC201 T1) (fun j h0 h1 => by unfold gC201; dsimp only [ifE]; (repeat rw [if_neg (by omega)]))
  have p : Stay [21, 22, 23, 24, 27, 28, 29, 44, 45, 50, 51, 66, 67, 68, 69, 70, 71, 72, 73, 74, 75, 76, 77, 78, 79, 83, 84, 85, 88, 101, 102, 103, 104, 105, 106, 107, 111, 112, 113, 114, 115, 116, 117, 120, 121, 122, 123, 124, 125, 126, 127] [60, 61, 63, 65] SS T := stay_weak (y1.trans y13) rfl rfl
  have RT := TT.rn
  have u5 : T.ρ 5 = SS.ρ 5 := p.num 5 rfl
  have u17 : T.ρ 17 = SS.ρ 17 := p.num 17 rfl
  have hr : Row T rC201 (gC201 T) := by
    unfold rC201 gC201
    (repeat refine ar_upd _ _ (by rfl) (by rfl) (by kernel_rfl) ?_)
    exact ar_var _
  have eg : ∀ j : Nat, gC201 T (j : Int) = T2.Φ 65 [(j : Int)] := fun j => by rw [z65]; unfold gC201; dsimp only; simp only [y13.num 68 rfl, y13.num 69 rfl, y13.num 70 rfl, y13.num 71 rfl, y13.num 72 rfl, y13.num 74 rfl, y13.num 75 rfl, y13.fn 63 rfl]
  have hal : AlOk T alLaw2011 := AlOk.app (alE1_ok RT) (AlOk.app (alHd_ok v RT.geo p) (AlOk.app (alJ1_of v RT p hm) (AlOk.app (alP20_ok RT (by rw [u5, u17]; exact hl) (by rw [RT.e74, RT.e68, RT.e73, RT.e67, u5, u17]; exact hs)) (alT1_ok TT))))
  exact lawBy v RT.geo p hal (csL1_ok ty RT (by rw [u5, u17]; omega)) (hk1 T y13).1 (hk1 T y13).2 (hk2 _ (askC_ok hr eg s83 g3)) (fun G => runL2011 ty hal G)
set_option maxHeartbeats 8000000 in
theorem wayL2111 {SS : Sy} (v : Giv SS) (hm : 1 < SS.ρ 5) (hl : 2 ≤ SS.ρ 5 - SS.ρ 17 - 1) (hs : 7 + lg (SS.ρ 5 - SS.ρ 17 - 1) = 7 + lg (SS.ρ 5 - SS.ρ 17)) (hd : SS.ρ 20 = 1) (ty : TypeId) : LawIs SS ty := by
  obtain ⟨T1, R, y1, hk1⟩ := preL1 ty v.g v.e45 v.e71 v.e62 v.e64 hm
  have q5 : T1.ρ 5 = SS.ρ 5 := y1.num 5 rfl
  have q17 : T1.ρ 17 = SS.ρ 17 := y1.num 17 rfl
  obtain ⟨e68, e69, e71, e72, e74, e75, l0, l1, l2, l3, n0, n1, i0, i1⟩ := places R
  obtain ⟨T2, T, s83, z65, g3, y13, TT, hk2⟩ := postL1 ty R ((y1.num 20 rfl).trans hd) (gC211 T1) (fun j h0 h1 => by unfold gC211; dsimp only [ifE]; (repeat rw [if_neg (by omega)]))
  have p : Stay [21, 22, 23, 24, 27, 28, 29, 44, 45, 50, 51, 66, 67, 68, 69, 70, 71, 72, 73, 74, 75, 76, 77, 78, 79, 83, 84, 85, 88, 101, 102, 103, 104, 105, 106, 107, 111, 112, 113, 114, 115, 116, 117, 120, 121, 122, 123, 124, 125, 126, 127] [60, 61, 63, 65] SS T := stay_weak (y1.trans y13) rfl rfl
  have RT := TT.rn
  have u5 : T.ρ 5 = SS.ρ 5 := p.num 5 rfl
  have u17 : T.ρ 17 = SS.ρ 17 := p.num 17 rfl
  have hr : Row T rC211 (gC211 T) := by
    unfold rC211 gC211
    (repeat refine ar_upd _ _ (by rfl) (by rfl) (by kernel_rfl) ?_)
    exact ar_var _
  have eg : ∀ j : Nat, gC211 T (j : Int) = T2.Φ 65 [(j : Int)] := fun j => by rw [z65]; unfold gC211; dsimp only; simp only [y13.num 68 rfl, y13.num 69 rfl, y13.num 70 rfl, y13.num 71 rfl, y13.num 72 rfl, y13.num 74 rfl, y13.num 75 rfl, y13.fn 63 rfl]
  have hal : AlOk T alLaw2111 := AlOk.app (alE1_ok RT) (AlOk.app (alHd_ok v RT.geo p) (AlOk.app (alJ1_of v RT p hm) (AlOk.app (alP21_ok RT (by rw [u5, u17]; exact hl) (by rw [RT.e74, RT.e68, RT.e73, RT.e67, u5, u17]; exact hs)) (alT1_ok TT))))
  exact lawBy v RT.geo p hal (csL1_ok ty RT (by rw [u5, u17]; omega)) (hk1 T y13).1 (hk1 T y13).2 (hk2 _ (askC_ok hr eg s83 g3)) (fun G => runL2111 ty hal G)
end Go.Proofs.YtgokpcaijabhoaaDoor
namespace Go.Proofs.YtgokpcaijabhoaaDoor
open Go.Ev Go.RowKit
set_option maxRecDepth 100000
set_option linter.unusedVariables false
def rC002 : ACode := (.upd (.upd (.upd (.upd (.upd (.upd (.var 63) (Tm.enc (.var .i64 68)) (Tm.enc (.bin .add (.app .u64 63 (.cons (.var .i64 68) .nil)) (.lit .u64 18446744073709551615)))) (Tm.enc (.var .i64 69)) (Tm.enc (.lit .u64 0))) (Tm.enc (.var .i64 69)) (Tm.enc (.lit .u64 12))) (Tm.enc (.var .i64 69)) (Tm.enc (.lit .u64 16395))) (Tm.enc (.var .i64 75)) (Tm.enc (.lit .u64 4294968066))) (Tm.enc (.var .i64 75)) (Tm.enc (.lit .u64 4294968064)))
def gC002 (S : Sy) : Int → Int := (fun j => ifE j (S.ρ 75) ((4294968064 : Int)) ((fun j => ifE j (S.ρ 75) ((4294968066 : Int)) ((fun j => ifE j (S.ρ 69) ((16395 : Int)) ((fun j => ifE j (S.ρ 69) ((12 : Int)) ((fun j => ifE j (S.ρ 69) ((0 : Int)) ((fun j => ifE j (S.ρ 68) ((IntKind.u64.wrap ((S.Φ 63 [S.ρ 68]) + (18446744073709551615 : Int)))) ((fun j => S.Φ 63 [j]) j)) j)) j)) j)) j)) j))
def rC102 : ACode := (.upd (.upd (.upd (.upd (.upd (.upd (.upd (.upd (.var 63) (Tm.enc (.var .i64 68)) (Tm.enc (.bin .add (.app .u64 63 (.cons (.var .i64 68) .nil)) (.lit .u64 18446744073709551615)))) (Tm.enc (.var .i64 69)) (Tm.enc (.lit .u64 0))) (Tm.enc (.var .i64 72)) (Tm.enc (.lit .u64 9))) (Tm.enc (.var .i64 74)) (Tm.enc (.bin .add (.app .u64 63 (.cons (.var .i64 74) .nil)) (.lit .u64 1)))) (Tm.enc (.var .i64 69)) (Tm.enc (.lit .u64 12))) (Tm.enc (.var .i64 69)) (Tm.enc (.lit .u64 16395))) (Tm.enc (.var .i64 75)) (Tm.enc (.lit .u64 4294968066))) (Tm.enc (.var .i64 75)) (Tm.enc (.lit .u64 4294968064)))
def gC102 (S : Sy) : Int → Int := (fun j => ifE j (S.ρ 75) ((4294968064 : Int)) ((fun j => ifE j (S.ρ 75) ((4294968066 : Int)) ((fun j => ifE j (S.ρ 69) ((16395 : Int)) ((fun j => ifE j (S.ρ 69) ((12 : Int)) ((fun j => ifE j (S.ρ 74) ((IntKind.u64.wrap ((S.Φ 63 [S.ρ 74]) + (1 : Int)))) ((fun j => ifE j (S.ρ 72) ((9 : Int)) ((fun j => ifE j (S.ρ 69) ((0 : Int)) ((fun j => ifE j (S.ρ 68) ((IntKind.u64.wrap ((S.Φ 63 [S.ρ 68]) + (18446744073709551615 : Int)))) ((fun j => S.Φ 63 [j]) j)) j)) j)) j)) j)) j)) j)) j))
def rC202 : ACode := (.upd (.upd (.upd (.upd (.upd (.upd (.upd (.upd (.upd (.var 63) (Tm.enc (.var .i64 68)) (Tm.enc (.bin .add (.app .u64 63 (.cons (.var .i64 68) .nil)) (.lit .u64 18446744073709551615)))) (Tm.enc (.var .i64 69)) (Tm.enc (.lit .u64 0))) (Tm.enc (.var .i64 71)) (Tm.enc (.bin .or (.bin .or (.bin .or (.lit .u64 2) (.bin .shl (.bin .and (.conv .u64 (.var .i64 70)) (.lit .u64 1023)) (.lit .u64 3))) (.lit .u64 0)) (.lit .u64 0)))) (Tm.enc (.var .i64 72)) (Tm.enc (.bin .or (.bin .or (.bin .or (.lit .u64 1) (.bin .shl (.bin .and (.conv .u64 (.var .i64 70)) (.lit .u64 1023)) (.lit .u64 3))) (.lit .u64 0)) (.lit .u64 0)))) (Tm.enc (.var .i64 74)) (Tm.enc (.bin .add (.app .u64 63 (.cons (.var .i64 74) .nil)) (.lit .u64 1)))) (Tm.enc (.var .i64 69)) (Tm.enc (.lit .u64 12))) (Tm.enc (.var .i64 69)) (Tm.enc (.lit .u64 16395))) (Tm.enc (.var .i64 75)) (Tm.enc (.lit .u64 4294968066))) (Tm.enc (.var .i64 75)) (Tm.enc (.lit .u64 4294968064)))
def gC202 (S : Sy) : Int → Int := (fun j => ifE j (S.ρ 75) ((4294968064 : Int)) ((fun j => ifE j (S.ρ 75) ((4294968066 : Int)) ((fun j => ifE j (S.ρ 69) ((16395 : Int)) ((fun j => ifE j (S.ρ 69) ((12 : Int)) ((fun j => ifE j (S.ρ 74) ((IntKind.u64.wrap ((S.Φ 63 [S.ρ 74]) + (1 : Int)))) ((fun j => ifE j (S.ρ 72) ((opZ .or .u64 ((opZ .or .u64 ((opZ .or .u64 ((1 : Int)) ((opZ .shl .u64 ((opZ .and .u64 ((IntKind.u64.wrap (S.ρ 70))) ((1023 : Int)))) ((3 : Int)))))) ((0 : Int)))) ((0 : Int)))) ((fun j => ifE j (S.ρ 71) ((opZ .or .u64 ((opZ .or .u64 ((opZ .or .u64 ((2 : Int)) ((opZ .shl .u64 ((opZ .and .u64 ((IntKind.u64.wrap (S.ρ 70))) ((1023 : Int)))) ((3 : Int)))))) ((0 : Int)))) ((0 : Int)))) ((fun j => ifE j (S.ρ 69) ((0 : Int)) ((fun j => ifE j (S.ρ 68) ((IntKind.u64.wrap ((S.Φ 63 [S.ρ 68]) + (18446744073709551615 : Int)))) ((fun j => S.Φ 63 [j]) j)) j)) j)) j)) j)) j)) j)) j)) j))
def rC212 : ACode := (.upd (.upd (.upd (.upd (.upd (.upd (.upd (.upd (.upd (.var 63) (Tm.enc (.var .i64 68)) (Tm.enc (.bin .add (.app .u64 63 (.cons (.var .i64 68) .nil)) (.lit .u64 18446744073709551615)))) (Tm.enc (.var .i64 69)) (Tm.enc (.lit .u64 0))) (Tm.enc (.var .i64 71)) (Tm.enc (.bin .or (.bin .or (.bin .or (.lit .u64 2) (.bin .shl (.bin .and (.conv .u64 (.var .i64 70)) (.lit .u64 1023)) (.lit .u64 3))) (.lit .u64 0)) (.lit .u64 0)))) (Tm.enc (.var .i64 72)) (Tm.enc (.bin .or (.bin .or (.bin .or (.lit .u64 1) (.bin .shl (.bin .and (.conv .u64 (.var .i64 70)) (.lit .u64 1023)) (.lit .u64 3))) (.lit .u64 0)) (.lit .u64 0)))) (Tm.enc (.var .i64 74)) (Tm.enc (.bin .add (.bin .add (.app .u64 63 (.cons (.var .i64 68) .nil)) (.lit .u64 18446744073709551615)) (.lit .u64 1)))) (Tm.enc (.var .i64 69)) (Tm.enc (.lit .u64 12))) (Tm.enc (.var .i64 69)) (Tm.enc (.lit .u64 16395))) (Tm.enc (.var .i64 75)) (Tm.enc (.lit .u64 4294968066))) (Tm.enc (.var .i64 75)) (Tm.enc (.lit .u64 4294968064)))
def gC212 (S : Sy) : Int → Int := (fun j => ifE j (S.ρ 75) ((4294968064 : Int)) ((fun j => ifE j (S.ρ 75) ((4294968066 : Int)) ((fun j => ifE j (S.ρ 69) ((16395 : Int)) ((fun j => ifE j (S.ρ 69) ((12 : Int)) ((fun j => ifE j (S.ρ 74) ((IntKind.u64.wrap ((IntKind.u64.wrap ((S.Φ 63 [S.ρ 68]) + (18446744073709551615 : Int))) + (1 : Int)))) ((fun j => ifE j (S.ρ 72) ((opZ .or .u64 ((opZ .or .u64 ((opZ .or .u64 ((1 : Int)) ((opZ .shl .u64 ((opZ .and .u64 ((IntKind.u64.wrap (S.ρ 70))) ((1023 : Int)))) ((3 : Int)))))) ((0 : Int)))) ((0 : Int)))) ((fun j => ifE j (S.ρ 71) ((opZ .or .u64 ((opZ .or .u64 ((opZ .or .u64 ((2 : Int)) ((opZ .shl .u64 ((opZ .and .u64 ((IntKind.u64.wrap (S.ρ 70))) ((1023 : Int)))) ((3 : Int)))))) ((0 : Int)))) ((0 : Int)))) ((fun j => ifE j (S.ρ 69) ((0 : Int)) ((fun j => ifE j (S.ρ 68) ((IntKind.u64.wrap ((S.Φ 63 [S.ρ 68]) + (18446744073709551615 : Int)))) ((fun j => S.Φ 63 [j]) j)) j)) j)) j)) j)) j)) j)) j)) j))
noncomputable def alLaw0002 : List (Nat × Value) := alE0L ++ (alHd ++ (alJ0L ++ (alP00L ++ alT2L)))
theorem runL0002 {T : Sy} (ty : TypeId) (ha : AlOk T alLaw0002) (G : Nat → Option Obj) : outV (runM Tryd.prog ΛB (lkL [lkO0 ty, lkB ty, lkC rC002 ty]) ftB ha (csW csL0) G 1000 (.fn 3 [vv .u8 2, vv .u8 3, vv .u8 4].toArray) (H0g Tryd.prog (gsT ty))) = some (bundle [.bool true]) := by kernel_rfl
noncomputable def alLaw0012 : List (Nat × Value) := alE0L ++ (alHd ++ (alJ1L ++ (alP00L ++ alT2L)))
theorem runL0012 {T : Sy} (ty : TypeId) (ha : AlOk T alLaw0012) (G : Nat → Option Obj) : outV (runM Tryd.prog ΛB (lkL [lkO1 ty, lkB ty, lkC rC002 ty]) ftB ha (csW csL0) G 1000 (.fn 3 [vv .u8 2, vv .u8 3, vv .u8 4].toArray) (H0g Tryd.prog (gsT ty))) = some (bundle [.bool true]) := by kernel_rfl
noncomputable def alLaw1012 : List (Nat × Value) := alE1L ++ (alHd ++ (alJ1L ++ (alP10L ++ alT2L)))
theorem runL1012 {T : Sy} (ty : TypeId) (ha : AlOk T alLaw1012) (G : Nat → Option Obj) : outV (runM Tryd.prog ΛB (lkL [lkO1 ty, lkB ty, lkC rC102 ty]) ftB ha (csW csL1) G 1000 (.fn 3 [vv .u8 2, vv .u8 3, vv .u8 4].toArray) (H0g Tryd.prog (gsT ty))) = some (bundle [.bool true]) := by kernel_rfl
noncomputable def alLaw2012 : List (Nat × Value) := alE1L ++ (alHd ++ (alJ1L ++ (alP20L ++ alT2L)))
theorem runL2012 {T : Sy} (ty : TypeId) (ha : AlOk T alLaw2012) (G : Nat → Option Obj) : outV (runM Tryd.prog ΛB (lkL [lkO1 ty, lkB ty, lkC rC202 ty]) ftB ha (csW csL1) G 1000 (.fn 3 [vv .u8 2, vv .u8 3, vv .u8 4].toArray) (H0g Tryd.prog (gsT ty))) = some (bundle [.bool true]) := by kernel_rfl
noncomputable def alLaw2112 : List (Nat × Value) := alE1L ++ (alHd ++ (alJ1L ++ (alP21L ++ alT2L)))
theorem runL2112 {T : Sy} (ty : TypeId) (ha : AlOk T alLaw2112) (G : Nat → Option Obj) : outV (runM Tryd.prog ΛB (lkL [lkO1 ty, lkB ty, lkC rC212 ty]) ftB ha (csW csL1) G 1000 (.fn 3 [vv .u8 2, vv .u8 3, vv .u8 4].toArray) (H0g Tryd.prog (gsT ty))) = some (bundle [.bool true]) := by kernel_rfl
end Go.Proofs.YtgokpcaijabhoaaDoor
namespace Go.Proofs.YtgokpcaijabhoaaDoor
open Go.Ev Go.RowKit
set_option maxRecDepth 100000
set_option linter.unusedVariables false
set_option maxHeartbeats 8000000 in
theorem wayL0002 {SS : Sy} (v : Giv SS) (hm : SS.ρ 5 = 1) (hl : SS.ρ 5 - SS.ρ 17 - 1 = 0) (hd : SS.ρ 20 = 2) (ty : TypeId) : LawIs SS ty := by
  obtain ⟨T1, R, y1, hk1⟩ := preL0 ty v.g v.e45 v.e71 v.e62 v.e64 hm
  have q5 : T1.ρ 5 = SS.ρ 5 := y1.num 5 rfl
  have q17 : T1.ρ 17 = SS.ρ 17 := y1.num 17 rfl
  obtain ⟨e68, e69, e71, e72, e74, e75, l0, l1, l2, l3, n0, n1, i0, i1⟩ := places R
  obtain ⟨T2, T, s83, z65, g3, y13, TT, hk2⟩ := postL2 ty R ((y1.num 20 rfl).trans hd) (gC002 T1) (fun j h0 h1 => by unfold gC002; dsimp only [ifE]; (repeat rw [if_neg (by omega)]))
  have p : Stay [21, 22, 23, 24, 27, 28, 29, 44, 45, 50, 51, 66, 67, 68, 69, 70, 71, 72, 73, 74, 75, 76, 77, 78, 79, 83, 84, 85, 88, 101, 102, 103, 104, 105, 106, 107, 111, 112, 113, 114, 115, 116, 117, 120, 121, 122, 123, 124, 125, 126, 127] [60, 61, 63, 65] SS T := stay_weak (y1.trans y13) rfl rfl
  have RT := TT.rn
  have u5 : T.ρ 5 = SS.ρ 5 := p.num 5 rfl
  have u17 : T.ρ 17 = SS.ρ 17 := p.num 17 rfl
  have hr : Row T rC002 (gC002 T) := by
    unfold rC002 gC002
    (repeat refine ar_upd _ _ (by rfl) (by rfl) (by kernel_rfl) ?_)
    exact ar_var _
  have eg : ∀ j : Nat, gC002 T (j : Int) = T2.Φ 65 [(j : Int)] := fun j => by rw [z65]; unfold gC002; dsimp only; simp only [y13.num 68 rfl, y13.num 69 rfl, y13.num 75 rfl, y13.fn 63 rfl]
  have hal : AlOk T alLaw0002 := AlOk.app (alE0_ok RT) (AlOk.app (alHd_ok v RT.geo p) (AlOk.app (alJ0_of v RT p hm) (AlOk.app (alP00_ok RT (by rw [u5, u17]; exact hl)) (alT2_ok TT))))
  exact lawBy v RT.geo p hal (csL0_ok ty RT) (hk1 T y13).1 (hk1 T y13).2 (hk2 _ (askC_ok hr eg s83 g3)) (fun G => runL0002 ty hal G)
set_option maxHeartbeats 8000000 in
theorem wayL0012 {SS : Sy} (v : Giv SS) (hm : 1 < SS.ρ 5) (hl : SS.ρ 5 - SS.ρ 17 - 1 = 0) (hd : SS.ρ 20 = 2) (ty : TypeId) : LawIs SS ty := by
  obtain ⟨T1, R, y1, hk1⟩ := preL1 ty v.g v.e45 v.e71 v.e62 v.e64 hm
  have q5 : T1.ρ 5 = SS.ρ 5 := y1.num 5 rfl
  have q17 : T1.ρ 17 = SS.ρ 17 := y1.num 17 rfl
  obtain ⟨e68, e69, e71, e72, e74, e75, l0, l1, l2, l3, n0, n1, i0, i1⟩ := places R
  obtain ⟨T2, T, s83, z65, g3, y13, TT, hk2⟩ := postL2 ty R ((y1.num 20 rfl).trans hd) (gC002 T1) (fun j h0 h1 => by unfold gC002; dsimp only [ifE]; (repeat rw [if_neg (by omega)]))
  have p : Stay [21, 22, 23, 24, 27, 28, 29, 44, 45, 50, 51, 66, 67, 68, 69, 70, 71, 72, 73, 74, 75, 76, 77, 78, 79, 83, 84, 85, 88, 101, 102, 103, 104, 105, 106, 107, 111, 112, 113, 114, 115, 116, 117, 120, 121, 122, 123, 124, 125, 126, 127] [60, 61, 63, 65] SS T := stay_weak (y1.trans y13) rfl rfl
  have RT := TT.rn
  have u5 : T.ρ 5 = SS.ρ 5 := p.num 5 rfl
  have u17 : T.ρ 17 = SS.ρ 17 := p.num 17 rfl
  have hr : Row T rC002 (gC002 T) := by
    unfold rC002 gC002
    (repeat refine ar_upd _ _ (by rfl) (by rfl) (by kernel_rfl) ?_)
    exact ar_var _
  have eg : ∀ j : Nat, gC002 T (j : Int) = T2.Φ 65 [(j : Int)] := fun j => by rw [z65]; unfold gC002; dsimp only; simp only [y13.num 68 rfl, y13.num 69 rfl, y13.num 75 rfl, y13.fn 63 rfl]
  have hal : AlOk T alLaw0012 := AlOk.app (alE0_ok RT) (AlOk.app (alHd_ok v RT.geo p) (AlOk.app (alJ1_of v RT p hm) (AlOk.app (alP00_ok RT (by rw [u5, u17]; exact hl)) (alT2_ok TT))))
  exact lawBy v RT.geo p hal (csL0_ok ty RT) (hk1 T y13).1 (hk1 T y13).2 (hk2 _ (askC_ok hr eg s83 g3)) (fun G => runL0012 ty hal G)
set_option maxHeartbeats 8000000 in
theorem wayL1012 {SS : Sy} (v : Giv SS) (hm : 1 < SS.ρ 5) (hl : SS.ρ 5 - SS.ρ 17 - 1 = 1) (hs : 7 + lg (SS.ρ 5 - SS.ρ 17 - 1) ≠ 7 + lg (SS.ρ 5 - SS.ρ 17)) (hd : SS.ρ 20 = 2) (ty : TypeId) : LawIs SS ty := by
  obtain ⟨T1, R, y1, hk1⟩ := preL1 ty v.g v.e45 v.e71 v.e62 v.e64 hm
  have q5 : T1.ρ 5 = SS.ρ 5 := y1.num 5 rfl
  have q17 : T1.ρ 17 = SS.ρ 17 := y1.num 17 rfl
  obtain ⟨e68, e69, e71, e72, e74, e75, l0, l1, l2, l3, n0, n1, i0, i1⟩ := places R
  obtain ⟨T2, T, s83, z65, g3, y13, TT, hk2⟩ := postL2 ty R ((y1.num 20 rfl).trans hd) (gC102 T1) (fun j h0 h1 => by unfold gC102; dsimp only [ifE]; (repeat rw [if_neg (by omega)]))
  have p : Stay [21, 22, 23, 24, 27, 28, 29, 44, 45, 50, 51, 66, 67, 68, 69, 70, 71, 72, 73, 74, 75, 76, 77, 78, 79, 83, 84, 85, 88, 101, 102, 103, 104, 105, 106, 107, 111, 112, 113, 114, 115, 116, 117, 120, 121, 122, 123, 124, 125, 126, 127] [60, 61, 63, 65] SS T := stay_weak (y1.trans y13) rfl rfl
  have RT := TT.rn
  have u5 : T.ρ 5 = SS.ρ 5 := p.num 5 rfl
  have u17 : T.ρ 17 = SS.ρ 17 := p.num 17 rfl
  have hr : Row T rC102 (gC102 T) := by
    unfold rC102 gC102
    (repeat refine ar_upd _ _ (by rfl) (by rfl) (by kernel_rfl) ?_)
    exact ar_var _
  have eg : ∀ j : Nat, gC102 T (j : Int) = T2.Φ 65 [(j : Int)] := fun j => by rw [z65]; unfold gC102; dsimp only; simp only [y13.num 68 rfl, y13.num 69 rfl, y13.num 72 rfl, y13.num 74 rfl, y13.num 75 rfl, y13.fn 63 rfl]
  have hal : AlOk T alLaw1012 := AlOk.app (alE1_ok RT) (AlOk.app (alHd_ok v RT.geo p) (AlOk.app (alJ1_of v RT p hm) (AlOk.app (alP10_ok RT (by rw [u5, u17]; exact hl) (by rw [RT.e74, RT.e68, RT.e73, RT.e67, u5, u17]; exact hs)) (alT2_ok TT))))
  exact lawBy v RT.geo p hal (csL1_ok ty RT (by rw [u5, u17]; omega)) (hk1 T y13).1 (hk1 T y13).2 (hk2 _ (askC_ok hr eg s83 g3)) (fun G => runL1012 ty hal G)
set_option maxHeartbeats 8000000 in
theorem wayL2012 {SS : Sy} (v : Giv SS) (hm : 1 < SS.ρ 5) (hl : 2 ≤ SS.ρ 5 - SS.ρ 17 - 1) (hs : 7 + lg (SS.ρ 5 - SS.ρ 17 - 1) ≠ 7 + lg (SS.ρ 5 - SS.ρ 17)) (hd : SS.ρ 20 = 2) (ty : TypeId) : LawIs SS ty := by
  obtain ⟨T1, R, y1, hk1⟩ := preL1 ty v.g v.e45 v.e71 v.e62 v.e64 hm
  have q5 : T1.ρ 5 = SS.ρ 5 := y1.num 5 rfl
  have q17 : T1.ρ 17 = SS.ρ 17 := y1.num 17 rfl
  obtain ⟨e68, e69, e71, e72, e74, e75, l0, l1, l2, l3, n0, n1, i0, i1⟩ := places R
  obtain ⟨T2, T, s83, z65, g3, y13, TT, hk2⟩ := postL2 ty R ((y1.num 20 rfl).trans hd) (gC202 T1) (fun j h0 h1 => by unfold gC202; dsimp only [ifE]; (repeat rw [if_neg (by omega)]))
  have p : Stay [21, 22, 23, 24, 27, 28, 29, 44, 45, 50, 51, 66, 67, 68, 69, 70, 71, 72, 73, 74, 75, 76, 77, 78, 79, 83, 84, 85, 88, 101, 102, 103, 104, 105, 106, 107, 111, 112, 113, 114, 115, 116, 117, 120, 121, 122, 123, 124, 125, 126, 127] [60, 61, 63, 65] SS T := stay_weak (y1.trans y13) rfl rfl
  have RT := TT.rn
  have u5 : T.ρ 5 = SS.ρ 5 := p.num 5 rfl
  have u17 : T.ρ 17 = SS.ρ 17 := p.num 17 rfl
  have hr : Row T rC202 (gC202 T) := by
    unfold rC202 gC202
    (repeat refine ar_upd _ _ (by rfl) (by rfl) (by kernel_rfl) ?_)
    exact ar_var _
  have eg : ∀ j : Nat, gC202 T (j : Int) = T2.Φ 65 [(j : Int)] := fun j => by rw [z65]; unfold gC202; dsimp only; simp only [y13.num 68 rfl, y13.num 69 rfl, y13.num 70 rfl, y13.num 71 rfl, y13.num 72 rfl, y13.num 74 rfl, y13.num 75 rfl, y13.fn 63 rfl]
  have hal : AlOk T alLaw2012 := AlOk.app (alE1_ok RT) (AlOk.app (alHd_ok v RT.geo p) (AlOk.app (alJ1_of v RT p hm) (AlOk.app (alP20_ok RT (by rw [u5, u17]; exact hl) (by rw [RT.e74, RT.e68, RT.e73, RT.e67, u5, u17]; exact hs)) (alT2_ok TT))))
  exact lawBy v RT.geo p hal (csL1_ok ty RT (by rw [u5, u17]; omega)) (hk1 T y13).1 (hk1 T y13).2 (hk2 _ (askC_ok hr eg s83 g3)) (fun G => runL2012 ty hal G)
set_option maxHeartbeats 8000000 in
theorem wayL2112 {SS : Sy} (v : Giv SS) (hm : 1 < SS.ρ 5) (hl : 2 ≤ SS.ρ 5 - SS.ρ 17 - 1) (hs : 7 + lg (SS.ρ 5 - SS.ρ 17 - 1) = 7 + lg (SS.ρ 5 - SS.ρ 17)) (hd : SS.ρ 20 = 2) (ty : TypeId) : LawIs SS ty := by
  obtain ⟨T1, R, y1, hk1⟩ := preL1 ty v.g v.e45 v.e71 v.e62 v.e64 hm
  have q5 : T1.ρ 5 = SS.ρ 5 := y1.num 5 rfl
  have q17 : T1.ρ 17 = SS.ρ 17 := y1.num 17 rfl
  obtain ⟨e68, e69, e71, e72, e74, e75, l0, l1, l2, l3, n0, n1, i0, i1⟩ := places R
  obtain ⟨T2, T, s83, z65, g3, y13, TT, hk2⟩ := postL2 ty R ((y1.num 20 rfl).trans hd) (gC212 T1) (fun j h0 h1 => by unfold gC212; dsimp only [ifE]; (repeat rw [if_neg (by omega)]))
  have p : Stay [21, 22, 23, 24, 27, 28, 29, 44, 45, 50, 51, 66, 67, 68, 69, 70, 71, 72, 73, 74, 75, 76, 77, 78, 79, 83, 84, 85, 88, 101, 102, 103, 104, 105, 106, 107, 111, 112, 113, 114, 115, 116, 117, 120, 121, 122, 123, 124, 125, 126, 127] [60, 61, 63, 65] SS T := stay_weak (y1.trans y13) rfl rfl
  have RT := TT.rn
  have u5 : T.ρ 5 = SS.ρ 5 := p.num 5 rfl
  have u17 : T.ρ 17 = SS.ρ 17 := p.num 17 rfl
  have hr : Row T rC212 (gC212 T) := by
    unfold rC212 gC212
    (repeat refine ar_upd _ _ (by rfl) (by rfl) (by kernel_rfl) ?_)
    exact ar_var _
  have eg : ∀ j : Nat, gC212 T (j : Int) = T2.Φ 65 [(j : Int)] := fun j => by rw [z65]; unfold gC212; dsimp only; simp only [y13.num 68 rfl, y13.num 69 rfl, y13.num 70 rfl, y13.num 71 rfl, y13.num 72 rfl, y13.num 74 rfl, y13.num 75 rfl, y13.fn 63 rfl]
  have hal : AlOk T alLaw2112 := AlOk.app (alE1_ok RT) (AlOk.app (alHd_ok v RT.geo p) (AlOk.app (alJ1_of v RT p hm) (AlOk.app (alP21_ok RT (by rw [u5, u17]; exact hl) (by rw [RT.e74, RT.e68, RT.e73, RT.e67, u5, u17]; exact hs)) (alT2_ok TT))))
  exact lawBy v RT.geo p hal (csL1_ok ty RT (by rw [u5, u17]; omega)) (hk1 T y13).1 (hk1 T y13).2 (hk2 _ (askC_ok hr eg s83 g3)) (fun G => runL2112 ty hal G)
end Go.Proofs.YtgokpcaijabhoaaDoor
namespace Go.Proofs.YtgokpcaijabhoaaDoor
open Go.Ev Go.RowKit
set_option maxRecDepth 100000
set_option linter.unusedVariables false
def rC003 : ACode := (.upd (.upd (.upd (.upd (.upd (.upd (.var 63) (Tm.enc (.var .i64 68)) (Tm.enc (.bin .add (.app .u64 63 (.cons (.var .i64 68) .nil)) (.lit .u64 18446744073709551615)))) (Tm.enc (.var .i64 69)) (Tm.enc (.lit .u64 0))) (Tm.enc (.var .i64 69)) (Tm.enc (.lit .u64 12))) (Tm.enc (.var .i64 69)) (Tm.enc (.lit .u64 24587))) (Tm.enc (.var .i64 75)) (Tm.enc (.lit .u64 4294968322))) (Tm.enc (.var .i64 75)) (Tm.enc (.lit .u64 4294968320)))
def gC003 (S : Sy) : Int → Int := (fun j => ifE j (S.ρ 75) ((4294968320 : Int)) ((fun j => ifE j (S.ρ 75) ((4294968322 : Int)) ((fun j => ifE j (S.ρ 69) ((24587 : Int)) ((fun j => ifE j (S.ρ 69) ((12 : Int)) ((fun j => ifE j (S.ρ 69) ((0 : Int)) ((fun j => ifE j (S.ρ 68) ((IntKind.u64.wrap ((S.Φ 63 [S.ρ 68]) + (18446744073709551615 : Int)))) ((fun j => S.Φ 63 [j]) j)) j)) j)) j)) j)) j))
def rC103 : ACode := (.upd (.upd (.upd (.upd (.upd (.upd (.upd (.upd (.var 63) (Tm.enc (.var .i64 68)) (Tm.enc (.bin .add (.app .u64 63 (.cons (.var .i64 68) .nil)) (.lit .u64 18446744073709551615)))) (Tm.enc (.var .i64 69)) (Tm.enc (.lit .u64 0))) (Tm.enc (.var .i64 72)) (Tm.enc (.lit .u64 9))) (Tm.enc (.var .i64 74)) (Tm.enc (.bin .add (.app .u64 63 (.cons (.var .i64 74) .nil)) (.lit .u64 1)))) (Tm.enc (.var .i64 69)) (Tm.enc (.lit .u64 12))) (Tm.enc (.var .i64 69)) (Tm.enc (.lit .u64 24587))) (Tm.enc (.var .i64 75)) (Tm.enc (.lit .u64 4294968322))) (Tm.enc (.var .i64 75)) (Tm.enc (.lit .u64 4294968320)))
def gC103 (S : Sy) : Int → Int := (fun j => ifE j (S.ρ 75) ((4294968320 : Int)) ((fun j => ifE j (S.ρ 75) ((4294968322 : Int)) ((fun j => ifE j (S.ρ 69) ((24587 : Int)) ((fun j => ifE j (S.ρ 69) ((12 : Int)) ((fun j => ifE j (S.ρ 74) ((IntKind.u64.wrap ((S.Φ 63 [S.ρ 74]) + (1 : Int)))) ((fun j => ifE j (S.ρ 72) ((9 : Int)) ((fun j => ifE j (S.ρ 69) ((0 : Int)) ((fun j => ifE j (S.ρ 68) ((IntKind.u64.wrap ((S.Φ 63 [S.ρ 68]) + (18446744073709551615 : Int)))) ((fun j => S.Φ 63 [j]) j)) j)) j)) j)) j)) j)) j)) j))
def rC203 : ACode := (.upd (.upd (.upd (.upd (.upd (.upd (.upd (.upd (.upd (.var 63) (Tm.enc (.var .i64 68)) (Tm.enc (.bin .add (.app .u64 63 (.cons (.var .i64 68) .nil)) (.lit .u64 18446744073709551615)))) (Tm.enc (.var .i64 69)) (Tm.enc (.lit .u64 0))) (Tm.enc (.var .i64 71)) (Tm.enc (.bin .or (.bin .or (.bin .or (.lit .u64 2) (.bin .shl (.bin .and (.conv .u64 (.var .i64 70)) (.lit .u64 1023)) (.lit .u64 3))) (.lit .u64 0)) (.lit .u64 0)))) (Tm.enc (.var .i64 72)) (Tm.enc (.bin .or (.bin .or (.bin .or (.lit .u64 1) (.bin .shl (.bin .and (.conv .u64 (.var .i64 70)) (.lit .u64 1023)) (.lit .u64 3))) (.lit .u64 0)) (.lit .u64 0)))) (Tm.enc (.var .i64 74)) (Tm.enc (.bin .add (.app .u64 63 (.cons (.var .i64 74) .nil)) (.lit .u64 1)))) (Tm.enc (.var .i64 69)) (Tm.enc (.lit .u64 12))) (Tm.enc (.var .i64 69)) (Tm.enc (.lit .u64 24587))) (Tm.enc (.var .i64 75)) (Tm.enc (.lit .u64 4294968322))) (Tm.enc (.var .i64 75)) (Tm.enc (.lit .u64 4294968320)))
def gC203 (S : Sy) : Int → Int := (fun j => ifE j (S.ρ 75) ((4294968320 : Int)) ((fun j => ifE j (S.ρ 75) ((4294968322 : Int)) ((fun j => ifE j (S.ρ 69) ((24587 : Int)) ((fun j => ifE j (S.ρ 69) ((12 : Int)) ((fun j => ifE j (S.ρ 74) ((IntKind.u64.wrap ((S.Φ 63 [S.ρ 74]) + (1 : Int)))) ((fun j => ifE j (S.ρ 72) ((opZ .or .u64 ((opZ .or .u64 ((opZ .or .u64 ((1 : Int)) ((opZ .shl .u64 ((opZ .and .u64 ((IntKind.u64.wrap (S.ρ 70))) ((1023 : Int)))) ((3 : Int)))))) ((0 : Int)))) ((0 : Int)))) ((fun j => ifE j (S.ρ 71) ((opZ .or .u64 ((opZ .or .u64 ((opZ .or .u64 ((2 : Int)) ((opZ .shl .u64 ((opZ .and .u64 ((IntKind.u64.wrap (S.ρ 70))) ((1023 : Int)))) ((3 : Int)))))) ((0 : Int)))) ((0 : Int)))) ((fun j => ifE j (S.ρ 69) ((0 : Int)) ((fun j => ifE j (S.ρ 68) ((IntKind.u64.wrap ((S.Φ 63 [S.ρ 68]) + (18446744073709551615 : Int)))) ((fun j => S.Φ 63 [j]) j)) j)) j)) j)) j)) j)) j)) j)) j))
def rC213 : ACode := (.upd (.upd (.upd (.upd (.upd (.upd (.upd (.upd (.upd (.var 63) (Tm.enc (.var .i64 68)) (Tm.enc (.bin .add (.app .u64 63 (.cons (.var .i64 68) .nil)) (.lit .u64 18446744073709551615)))) (Tm.enc (.var .i64 69)) (Tm.enc (.lit .u64 0))) (Tm.enc (.var .i64 71)) (Tm.enc (.bin .or (.bin .or (.bin .or (.lit .u64 2) (.bin .shl (.bin .and (.conv .u64 (.var .i64 70)) (.lit .u64 1023)) (.lit .u64 3))) (.lit .u64 0)) (.lit .u64 0)))) (Tm.enc (.var .i64 72)) (Tm.enc (.bin .or (.bin .or (.bin .or (.lit .u64 1) (.bin .shl (.bin .and (.conv .u64 (.var .i64 70)) (.lit .u64 1023)) (.lit .u64 3))) (.lit .u64 0)) (.lit .u64 0)))) (Tm.enc (.var .i64 74)) (Tm.enc (.bin .add (.bin .add (.app .u64 63 (.cons (.var .i64 68) .nil)) (.lit .u64 18446744073709551615)) (.lit .u64 1)))) (Tm.enc (.var .i64 69)) (Tm.enc (.lit .u64 12))) (Tm.enc (.var .i64 69)) (Tm.enc (.lit .u64 24587))) (Tm.enc (.var .i64 75)) (Tm.enc (.lit .u64 4294968322))) (Tm.enc (.var .i64 75)) (Tm.enc (.lit .u64 4294968320)))
def gC213 (S : Sy) : Int → Int := (fun j => ifE j (S.ρ 75) ((4294968320 : Int)) ((fun j => ifE j (S.ρ 75) ((4294968322 : Int)) ((fun j => ifE j (S.ρ 69) ((24587 : Int)) ((fun j => ifE j (S.ρ 69) ((12 : Int)) ((fun j => ifE j (S.ρ 74) ((IntKind.u64.wrap ((IntKind.u64.wrap ((S.Φ 63 [S.ρ 68]) + (18446744073709551615 : Int))) + (1 : Int)))) ((fun j => ifE j (S.ρ 72) ((opZ .or .u64 ((opZ .or .u64 ((opZ .or .u64 ((1 : Int)) ((opZ .shl .u64 ((opZ .and .u64 ((IntKind.u64.wrap (S.ρ 70))) ((1023 : Int)))) ((3 : Int)))))) ((0 : Int)))) ((0 : Int)))) ((fun j => ifE j (S.ρ 71) ((opZ .or .u64 ((opZ .or .u64 ((opZ .or .u64 ((2 : Int)) ((opZ .shl .u64 ((opZ .and .u64 ((IntKind.u64.wrap (S.ρ 70))) ((1023 : Int)))) ((3 : Int)))))) ((0 : Int)))) ((0 : Int)))) ((fun j => ifE j (S.ρ 69) ((0 : Int)) ((fun j => ifE j (S.ρ 68) ((IntKind.u64.wrap ((S.Φ 63 [S.ρ 68]) + (18446744073709551615 : Int)))) ((fun j => S.Φ 63 [j]) j)) j)) j)) j)) j)) j)) j)) j)) j))
noncomputable def alLaw0003 : List (Nat × Value) := alE0L ++ (alHd ++ (alJ0L ++ (alP00L ++ alT3L)))
theorem runL0003 {T : Sy} (ty : TypeId) (ha : AlOk T alLaw0003) (G : Nat → Option Obj) : outV (runM Tryd.prog ΛB (lkL [lkO0 ty, lkB ty, lkC rC003 ty]) ftB ha (csW csL0) G 1000 (.fn 3 [vv .u8 2, vv .u8 3, vv .u8 4].toArray) (H0g Tryd.prog (gsT ty))) = some (bundle [.bool true]) := by kernel_rfl
noncomputable def alLaw0013 : List (Nat × Value) := alE0L ++ (alHd ++ (alJ1L ++ (alP00L ++ alT3L)))
theorem runL0013 {T : Sy} (ty : TypeId) (ha : AlOk T alLaw0013) (G : Nat → Option Obj) : outV (runM Tryd.prog ΛB (lkL [lkO1 ty, lkB ty, lkC rC003 ty]) ftB ha (csW csL0) G 1000 (.fn 3 [vv .u8 2, vv .u8 3, vv .u8 4].toArray) (H0g Tryd.prog (gsT ty))) = some (bundle [.bool true]) := by kernel_rfl
noncomputable def alLaw1013 : List (Nat × Value) := alE1L ++ (alHd ++ (alJ1L ++ (alP10L ++ alT3L)))
theorem runL1013 {T : Sy} (ty : TypeId) (ha : AlOk T alLaw1013) (G : Nat → Option Obj) : outV (runM Tryd.prog ΛB (lkL [lkO1 ty, lkB ty, lkC rC103 ty]) ftB ha (csW csL1) G 1000 (.fn 3 [vv .u8 2, vv .u8 3, vv .u8 4].toArray) (H0g Tryd.prog (gsT ty))) = some (bundle [.bool true]) := by kernel_rfl
noncomputable def alLaw2013 : List (Nat × Value) := alE1L ++ (alHd ++ (alJ1L ++ (alP20L ++ alT3L)))
theorem runL2013 {T : Sy} (ty : TypeId) (ha : AlOk T alLaw2013) (G : Nat → Option Obj) : outV (runM Tryd.prog ΛB (lkL [lkO1 ty, lkB ty, lkC rC203 ty]) ftB ha (csW csL1) G 1000 (.fn 3 [vv .u8 2, vv .u8 3, vv .u8 4].toArray) (H0g Tryd.prog (gsT ty))) = some (bundle [.bool true]) := by kernel_rfl
noncomputable def alLaw2113 : List (Nat × Value) := alE1L ++ (alHd ++ (alJ1L ++ (alP21L ++ alT3L)))
theorem runL2113 {T : Sy} (ty : TypeId) (ha : AlOk T alLaw2113) (G : Nat → Option Obj) : outV (runM Tryd.prog ΛB (lkL [lkO1 ty, lkB ty, lkC rC213 ty]) ftB ha (csW csL1) G 1000 (.fn 3 [vv .u8 2, vv .u8 3, vv .u8 4].toArray) (H0g Tryd.prog (gsT ty))) = some (bundle [.bool true]) := by kernel_rfl
end Go.Proofs.YtgokpcaijabhoaaDoor
namespace Go.Proofs.YtgokpcaijabhoaaDoor
open Go.Ev Go.RowKit
set_option maxRecDepth 100000
set_option linter.unusedVariables false
set_option maxHeartbeats 8000000 in
theorem wayL0003 {SS : Sy} (v : Giv SS) (hm : SS.ρ 5 = 1) (hl : SS.ρ 5 - SS.ρ 17 - 1 = 0) (hd : SS.ρ 20 = 3) (ty : TypeId) : LawIs SS ty := by
  obtain ⟨T1, R, y1, hk1⟩ := preL0 ty v.g v.e45 v.e71 v.e62 v.e64 hm
  have q5 : T1.ρ 5 = SS.ρ 5 := y1.num 5 rfl
  have q17 : T1.ρ 17 = SS.ρ 17 := y1.num 17 rfl
  obtain ⟨e68, e69, e71, e72, e74, e75, l0, l1, l2, l3, n0, n1, i0, i1⟩ := places R
  obtain ⟨T2, T, s83, z65, g3, y13, TT, hk2⟩ := postL3 ty R ((y1.num 20 rfl).trans hd) (gC003 T1) (fun j h0 h1 => by unfold gC003; dsimp only [ifE]; (repeat rw [if_neg (by omega)]))
  have p : Stay [21, 22, 23, 24, 27, 28, 29, 44, 45, 50, 51, 66, 67, 68, 69, 70, 71, 72, 73, 74, 75, 76, 77, 78, 79, 83, 84, 85, 88, 101, 102, 103, 104, 105, 106, 107, 111, 112, 113, 114, 115, 116, 117, 120, 121, 122, 123, 124, 125, 126, 127] [60, 61, 63, 65] SS T := stay_weak (y1.trans y13) rfl rfl
  have RT := TT.rn
  have u5 : T.ρ 5 = SS.ρ 5 := p.num 5 rfl
  have u17 : T.ρ 17 = SS.ρ 17 := p.num 17 rfl
  have hr : Row T rC003 (gC003 T) := by
    unfold rC003 gC003
    (repeat refine ar_upd _ _ (by rfl) (by rfl) (by kernel_rfl) ?_)
    exact ar_var _
  have eg : ∀ j : Nat, gC003 T (j : Int) = T2.Φ 65 [(j : Int)] := fun j => by rw [z65]; unfold gC003; dsimp only; simp only [y13.num 68 rfl, y13.num 69 rfl, y13.num 75 rfl, y13.fn 63 rfl]
  have hal : AlOk T alLaw0003 := AlOk.app (alE0_ok RT) (AlOk.app (alHd_ok v RT.geo p) (AlOk.app (alJ0_of v RT p hm) (AlOk.app (alP00_ok RT (by rw [u5, u17]; exact hl)) (alT3_ok TT))))
  exact lawBy v RT.geo p hal (csL0_ok ty RT) (hk1 T y13).1 (hk1 T y13).2 (hk2 _ (askC_ok hr eg s83 g3)) (fun G => runL0003 ty hal G)
set_option maxHeartbeats 8000000 in
theorem wayL0013 {SS : Sy} (v : Giv SS) (hm : 1 < SS.ρ 5) (hl : SS.ρ 5 - SS.ρ 17 - 1 = 0) (hd : SS.ρ 20 = 3) (ty : TypeId) : LawIs SS ty := by
  obtain ⟨T1, R, y1, hk1⟩ := preL1 ty v.g v.e45 v.e71 v.e62 v.e64 hm
  have q5 : T1.ρ 5 = SS.ρ 5 := y1.num 5 rfl
  have q17 : T1.ρ 17 = SS.ρ 17 := y1.num 17 rfl
  obtain ⟨e68, e69, e71, e72, e74, e75, l0, l1, l2, l3, n0, n1, i0, i1⟩ := places R
  obtain ⟨T2, T, s83, z65, g3, y13, TT, hk2⟩ := postL3 ty R ((y1.num 20 rfl).trans hd) (gC003 T1) (fun j h0 h1 => by unfold gC003; dsimp only [ifE]; (repeat rw [if_neg (by omega)]))
  have p : Stay [21, 22, 23, 24, 27, 28, 29, 44, 45, 50, 51, 66, 67, 68, 69, 70, 71, 72, 73, 74, 75, 76, 77, 78, 79, 83, 84, 85, 88, 101, 102, 103, 104, 105, 106, 107, 111, 112, 113, 114, 115, 116, 117, 120, 121, 122, 123, 124, 125, 126, 127] [60, 61, 63, 65] SS T := stay_weak (y1.trans y13) rfl rfl
  have RT := TT.rn
  have u5 : T.ρ 5 = SS.ρ 5 := p.num 5 rfl
  have u17 : T.ρ 17 = SS.ρ 17 := p.num 17 rfl
  have hr : Row T rC003 (gC003 T) := by
    unfold rC003 gC003
    (repeat refine ar_upd _ _ (by rfl) (by rfl) (by kernel_rfl) ?_)
    exact ar_var _
  have eg : ∀ j : Nat, gC003 T (j : Int) = T2.Φ 65 [(j : Int)] := fun j => by rw [z65]; unfold gC003; dsimp only; simp only [y13.num 68 rfl, y13.num 69 rfl, y13.num 75 rfl, y13.fn 63 rfl]
  have hal : AlOk T alLaw0013 := AlOk.app (alE0_ok RT) (AlOk.app (alHd_ok v RT.geo p) (AlOk.app (alJ1_of v RT p hm) (AlOk.app (alP00_ok RT (by rw [u5, u17]; exact hl)) (alT3_ok TT))))
  exact lawBy v RT.geo p hal (csL0_ok ty RT) (hk1 T y13).1 (hk1 T y13).2 (hk2 _ (askC_ok hr eg s83 g3)) (fun G => runL0013 ty hal G)
set_option maxHeartbeats 8000000 in
theorem wayL1013 {SS : Sy} (v : Giv SS) (hm : 1 < SS.ρ 5) (hl : SS.ρ 5 - SS.ρ 17 - 1 = 1) (hs : 7 + lg (SS.ρ 5 - SS.ρ 17 - 1) ≠ 7 + lg (SS.ρ 5 - SS.ρ 17)) (hd : SS.ρ 20 = 3) (ty : TypeId) : LawIs SS ty := by
  obtain ⟨T1, R, y1, hk1⟩ := preL1 ty v.g v.e45 v.e71 v.e62 v.e64 hm
  have q5 : T1.ρ 5 = SS.ρ 5 := y1.num 5 rfl
  have q17 : T1.ρ 17 = SS.ρ 17 := y1.num 17 rfl
  obtain ⟨e68, e69, e71, e72, e74, e75, l0, l1, l2, l3, n0, n1, i0, i1⟩ := places R
  obtain ⟨T2, T, s83, z65, g3, y13, TT, hk2⟩ := postL3 ty R ((y1.num 20 rfl).trans hd) (gC103 T1) (fun j h0 h1 => by unfold gC103; dsimp only [ifE]; (repeat rw [if_neg (by omega)]))
  have p : Stay [21, 22, 23, 24, 27, 28, 29, 44, 45, 50, 51, 66, 67, 68, 69, 70, 71, 72, 73, 74, 75, 76, 77, 78, 79, 83, 84, 85, 88, 101, 102, 103, 104, 105, 106, 107, 111, 112, 113, 114, 115, 116, 117, 120, 121, 122, 123, 124, 125, 126, 127] [60, 61, 63, 65] SS T := stay_weak (y1.trans y13) rfl rfl
  have RT := TT.rn
  have u5 : T.ρ 5 = SS.ρ 5 := p.num 5 rfl
  have u17 : T.ρ 17 = SS.ρ 17 := p.num 17 rfl
  have hr : Row T rC103 (gC103 T) := by
    unfold rC103 gC103
    (repeat refine ar_upd _ _ (by rfl) (by rfl) (by kernel_rfl) ?_)
    exact ar_var _
  have eg : ∀ j : Nat, gC103 T (j : Int) = T2.Φ 65 [(j : Int)] := fun j => by rw [z65]; unfold gC103; dsimp only; simp only [y13.num 68 rfl, y13.num 69 rfl, y13.num 72 rfl, y13.num 74 rfl, y13.num 75 rfl, y13.fn 63 rfl]
  have hal : AlOk T alLaw1013 := AlOk.app (alE1_ok RT) (AlOk.app (alHd_ok v RT.geo p) (AlOk.app (alJ1_of v RT p hm) (AlOk.app (alP10_ok RT (by rw [u5, u17]; exact hl) (by rw [RT.e74, RT.e68, RT.e73, RT.e67, u5, u17]; exact hs)) (alT3_ok TT))))
  exact lawBy v RT.geo p hal (csL1_ok ty RT (by rw [u5, u17]; omega)) (hk1 T y13).1 (hk1 T y13).2 (hk2 _ (askC_ok hr eg s83 g3)) (fun G => runL1013 ty hal G)
set_option maxHeartbeats 8000000 in
theorem wayL2013 {SS : Sy} (v : Giv SS) (hm : 1 < SS.ρ 5) (hl : 2 ≤ SS.ρ 5 - SS.ρ 17 - 1) (hs : 7 + lg (SS.ρ 5 - SS.ρ 17 - 1) ≠ 7 + lg (SS.ρ 5 - SS.ρ 17)) (hd : SS.ρ 20 = 3) (ty : TypeId) : LawIs SS ty := by
  obtain ⟨T1, R, y1, hk1⟩ := preL1 ty v.g v.e45 v.e71 v.e62 v.e64 hm
  have q5 : T1.ρ 5 = SS.ρ 5 := y1.num 5 rfl
  have q17 : T1.ρ 17 = SS.ρ 17 := y1.num 17 rfl
  obtain ⟨e68, e69, e71, e72, e74, e75, l0, l1, l2, l3, n0, n1, i0, i1⟩ := places R
  obtain ⟨T2, T, s83, z65, g3, y13, TT, hk2⟩ := postL3 ty R ((y1.num 20 rfl).trans hd) (gC203 T1) (fun j h0 h1 => by unfold gC203; dsimp only [ifE]; (repeat rw [if_neg (by omega)]))
  have p : Stay [21, 22, 23, 24, 27, 28, 29, 44, 45, 50, 51, 66, 67, 68, 69, 70, 71, 72, 73, 74, 75, 76, 77, 78, 79, 83, 84, 85, 88, 101, 102, 103, 104, 105, 106, 107, 111, 112, 113, 114, 115, 116, 117, 120, 121, 122, 123, 124, 125, 126, 127] [60, 61, 63, 65] SS T := stay_weak (y1.trans y13) rfl rfl
  have RT := TT.rn
  have u5 : T.ρ 5 = SS.ρ 5 := p.num 5 rfl
  have u17 : T.ρ 17 = SS.ρ 17 := p.num 17 rfl
  have hr : Row T rC203 (gC203 T) := by
    unfold rC203 gC203
    (repeat refine ar_upd _ _ (by rfl) (by rfl) (by kernel_rfl) ?_)
    exact ar_var _
  have eg : ∀ j : Nat, gC203 T (j : Int) = T2.Φ 65 [(j : Int)] := fun j => by rw [z65]; unfold gC203; dsimp only; simp only [y13.num 68 rfl, y13.num 69 rfl, y13.num 70 rfl, y13.num 71 rfl, y13.num 72 rfl, y13.num 74 rfl, y13.num 75 rfl, y13.fn 63 rfl]
  have hal : AlOk T alLaw2013 := AlOk.app (alE1_ok RT) (AlOk.app (alHd_ok v RT.geo p) (AlOk.app (alJ1_of v RT p hm) (AlOk.app (alP20_ok RT (by rw [u5, u17]; exact hl) (by rw [RT.e74, RT.e68, RT.e73, RT.e67, u5, u17]; exact hs)) (alT3_ok TT))))
  exact lawBy v RT.geo p hal (csL1_ok ty RT (by rw [u5, u17]; omega)) (hk1 T y13).1 (hk1 T y13).2 (hk2 _ (askC_ok hr eg s83 g3)) (fun G => runL2013 ty hal G)
set_option maxHeartbeats 8000000 in
theorem wayL2113 {SS : Sy} (v : Giv SS) (hm : 1 < SS.ρ 5) (hl : 2 ≤ SS.ρ 5 - SS.ρ 17 - 1) (hs : 7 + lg (SS.ρ 5 - SS.ρ 17 - 1) = 7 + lg (SS.ρ 5 - SS.ρ 17)) (hd : SS.ρ 20 = 3) (ty : TypeId) : LawIs SS ty := by
  obtain ⟨T1, R, y1, hk1⟩ := preL1 ty v.g v.e45 v.e71 v.e62 v.e64 hm
  have q5 : T1.ρ 5 = SS.ρ 5 := y1.num 5 rfl
  have q17 : T1.ρ 17 = SS.ρ 17 := y1.num 17 rfl
  obtain ⟨e68, e69, e71, e72, e74, e75, l0, l1, l2, l3, n0, n1, i0, i1⟩ := places R
  obtain ⟨T2, T, s83, z65, g3, y13, TT, hk2⟩ := postL3 ty R ((y1.num 20 rfl).trans hd) (gC213 T1) (fun j h0 h1 => by unfold gC213; dsimp only [ifE]; (repeat rw [if_neg (by omega)]))
  have p : Stay [21, 22, 23, 24, 27, 28, 29, 44, 45, 50, 51, 66, 67, 68, 69, 70, 71, 72, 73, 74, 75, 76, 77, 78, 79, 83, 84, 85, 88, 101, 102, 103, 104, 105, 106, 107, 111, 112, 113, 114, 115, 116, 117, 120, 121, 122, 123, 124, 125, 126, 127] [60, 61, 63, 65] SS T := stay_weak (y1.trans y13) rfl rfl
  have RT := TT.rn
  have u5 : T.ρ 5 = SS.ρ 5 := p.num 5 rfl
  have u17 : T.ρ 17 = SS.ρ 17 := p.num 17 rfl
  have hr : Row T rC213 (gC213 T) := by
    unfold rC213 gC213
    (repeat refine ar_upd _ _ (by rfl) (by rfl) (by kernel_rfl) ?_)
    exact ar_var _
  have eg : ∀ j : Nat, gC213 T (j : Int) = T2.Φ 65 [(j : Int)] := fun j => by rw [z65]; unfold gC213; dsimp only; simp only [y13.num 68 rfl, y13.num 69 rfl, y13.num 70 rfl, y13.num 71 rfl, y13.num 72 rfl, y13.num 74 rfl, y13.num 75 rfl, y13.fn 63 rfl]
  have hal : AlOk T alLaw2113 := AlOk.app (alE1_ok RT) (AlOk.app (alHd_ok v RT.geo p) (AlOk.app (alJ1_of v RT p hm) (AlOk.app (alP21_ok RT (by rw [u5, u17]; exact hl) (by rw [RT.e74, RT.e68, RT.e73, RT.e67, u5, u17]; exact hs)) (alT3_ok TT))))
  exact lawBy v RT.geo p hal (csL1_ok ty RT (by rw [u5, u17]; omega)) (hk1 T y13).1 (hk1 T y13).2 (hk2 _ (askC_ok hr eg s83 g3)) (fun G => runL2113 ty hal G)
end Go.Proofs.YtgokpcaijabhoaaDoor
namespace Go.Proofs.YtgokpcaijabhoaaDoor
open Go.Ev Go.RowKit
set_option maxRecDepth 100000
set_option linter.unusedVariables false
def Φ3 : Nat → List Int → Int
  | 9, [] => 1
  | 30, [x] => lg x
  | 32, [_, _, _, _, _, _, _, _, _, _, _, _, _, _, _, _, _, _, _, _, _, _, x] => 22 + x
  | 33, [n, _, _, _, _, _, _, _, _, _, _, _, _, _, _, _, _, _, _, _, _, _, x] => 22 + n + x
  | 34, [n, _, _, _, _, _, _, _, _, _, _, _, _, _, _, _, _, _, _, _, _, _, x] => 22 + 2 * n + x
  | _, _ => 0
set_option maxHeartbeats 8000000 in
theorem blocks_any (a b c : Int) (ha : 0 ≤ a) (hb : 0 ≤ b ∧ b < 256) (hc : 0 ≤ c) (ty : TypeId) (w : World) (hw : GOk Tryd.prog (gsT ty) w) : Calls Tryd.prog 3 #[.int .u8 a, .int .u8 b, .int .u8 c] w fun e w' => e = .returned (.bool true) ∧ Quiet w w' := by
  obtain ⟨n, hn⟩ : ∃ n : Int, n = a % 20 + 1 := ⟨_, rfl⟩
  have bn : 1 ≤ n ∧ n ≤ 20 := by omega
  have m1 := Int.emod_nonneg b (show n ≠ 0 by omega)
  have m2 := Int.emod_lt_of_pos b (show 0 < n by omega)
  obtain ⟨SS, hSS⟩ : ∃ SS : Sy, SS = ⟨upd (fun _ => 0) [(2, a), (3, b), (4, c), (5, n), (17, b % n), (20, c % 4), (45, n - 1), (71, 21 + n), (62, lg n), (64, 7 + lg n), (6, 8 * n), (15, n + 1), (16, 4 * n + 4), (7, 4 * n + 9), (8, 32 * n + 72), (18, 64 * n), (31, 22 + n), (32, 22 + 2 * n), (33, 22 + 3 * n), (34, 22 + 11 * n), (35, 22 + 19 * n), (36, 30 + 19 * n), (37, 34 + 19 * n), (38, 36 + 19 * n), (39, 37 + 19 * n), (40, 41 + 19 * n), (41, 50 + 23 * n), (42, 122 + 55 * n)], Φ3, [], fun z hz => by simp at hz⟩ := ⟨_, rfl⟩
  have i2 : SS.ρ 2 = a := by rw [hSS]; rfl
  have i3 : SS.ρ 3 = b := by rw [hSS]; rfl
  have i4 : SS.ρ 4 = c := by rw [hSS]; rfl
  have i5 : SS.ρ 5 = n := by rw [hSS]; rfl
  have i17 : SS.ρ 17 = b % n := by rw [hSS]; rfl
  have i20 : SS.ρ 20 = c % 4 := by rw [hSS]; rfl
  have i45 : SS.ρ 45 = n - 1 := by rw [hSS]; rfl
  have i71 : SS.ρ 71 = 21 + n := by rw [hSS]; rfl
  have i62 : SS.ρ 62 = lg n := by rw [hSS]; rfl
  have i64 : SS.ρ 64 = 7 + lg n := by rw [hSS]; rfl
  have i6 : SS.ρ 6 = 8 * n := by rw [hSS]; rfl
  have i15 : SS.ρ 15 = n + 1 := by rw [hSS]; rfl
  have i16 : SS.ρ 16 = 4 * n + 4 := by rw [hSS]; rfl
  have i7 : SS.ρ 7 = 4 * n + 9 := by rw [hSS]; rfl
  have i8 : SS.ρ 8 = 32 * n + 72 := by rw [hSS]; rfl
  have i18 : SS.ρ 18 = 64 * n := by rw [hSS]; rfl
  have i31 : SS.ρ 31 = 22 + n := by rw [hSS]; rfl
  have i32 : SS.ρ 32 = 22 + 2 * n := by rw [hSS]; rfl
  have i33 : SS.ρ 33 = 22 + 3 * n := by rw [hSS]; rfl
  have i34 : SS.ρ 34 = 22 + 11 * n := by rw [hSS]; rfl
  have i35 : SS.ρ 35 = 22 + 19 * n := by rw [hSS]; rfl
  have i36 : SS.ρ 36 = 30 + 19 * n := by rw [hSS]; rfl
  have i37 : SS.ρ 37 = 34 + 19 * n := by rw [hSS]; rfl
  have i38 : SS.ρ 38 = 36 + 19 * n := by rw [hSS]; rfl
  have i39 : SS.ρ 39 = 37 + 19 * n := by rw [hSS]; rfl
  have i40 : SS.ρ 40 = 41 + 19 * n := by rw [hSS]; rfl
  have i41 : SS.ρ 41 = 50 + 23 * n := by rw [hSS]; rfl
  have i42 : SS.ρ 42 = 122 + 55 * n := by rw [hSS]; rfl
  have iI : SS.I = [] := by rw [hSS]
  have h9 : SS.Φ 9 [] = 1 := by rw [hSS]; rfl
  have hlg : ∀ x : Int, SS.Φ 30 [x] = lg x := fun x => by rw [hSS]; rfl
  have hpg : ∀ x : Int, SS.Φ 32 (glS SS x) = 22 + x := fun x => by rw [hSS]; rfl
  have hbt : ∀ x : Int, SS.Φ 33 (glS SS x) = 22 + SS.ρ 5 + x := fun x => by rw [hSS]; rfl
  have hrm : ∀ x : Int, SS.Φ 34 (glS SS x) = 22 + 2 * SS.ρ 5 + x := fun x => by rw [hSS]; rfl
  clear hSS
  have g : GeoS SS := ⟨iI, hlg, hpg, hbt, hrm, by rw [i5]; exact bn, by rw [i6, i5], by rw [i15, i5], by rw [i16, i5], by rw [i7, i5], by rw [i8, i5], by rw [i18, i5], by rw [i31, i5], by rw [i32, i5], by rw [i33, i5], by rw [i34, i5], by rw [i35, i5], by rw [i36, i5], by rw [i37, i5], by rw [i38, i5], by rw [i39, i5], by rw [i40, i5], by rw [i41, i5], by rw [i42, i5], by rw [i17, i5]; exact ⟨m1, m2⟩, by rw [i20]; omega⟩
  rw [← i2, ← i3, ← i4]
  have v : Giv SS := ⟨g, by rw [i2]; exact ha, by rw [i5, i2]; exact hn, by rw [i3]; exact hb, by rw [i17, i3, i5], by rw [i4]; exact hc, by rw [i20, i4], by rw [i45, i5], by rw [i71, i5], by rw [i62, i5], by rw [i64, i62], h9⟩
  have gn := g.n; have gw := g.w; have gc := g.c
  clear i2 i3 i4 i5 i17 i20 i45 i71 i62 i64
  rcases (show SS.ρ 20 = 0 ∨ SS.ρ 20 = 1 ∨ SS.ρ 20 = 2 ∨ SS.ρ 20 = 3 from by omega) with hd | hd | hd | hd
  · by_cases hm : 1 < SS.ρ 5
    · by_cases h0 : SS.ρ 5 - SS.ρ 17 - 1 = 0
      · exact wayL0010 v hm h0 hd ty w hw
      by_cases h1 : SS.ρ 5 - SS.ρ 17 - 1 = 1
      · exact wayL1010 v hm h1 (by have := lg_ne (x := SS.ρ 5 - SS.ρ 17) (y := SS.ρ 5 - SS.ρ 17 - 1) (by omega) h1; omega) hd ty w hw
      by_cases hs : 7 + lg (SS.ρ 5 - SS.ρ 17 - 1) = 7 + lg (SS.ρ 5 - SS.ρ 17)
      · exact wayL2110 v hm (by omega) hs hd ty w hw
      · exact wayL2010 v hm (by omega) hs hd ty w hw
    · exact wayL0000 v (by omega) (by omega) hd ty w hw
  · by_cases hm : 1 < SS.ρ 5
    · by_cases h0 : SS.ρ 5 - SS.ρ 17 - 1 = 0
      · exact wayL0011 v hm h0 hd ty w hw
      by_cases h1 : SS.ρ 5 - SS.ρ 17 - 1 = 1
      · exact wayL1011 v hm h1 (by have := lg_ne (x := SS.ρ 5 - SS.ρ 17) (y := SS.ρ 5 - SS.ρ 17 - 1) (by omega) h1; omega) hd ty w hw
      by_cases hs : 7 + lg (SS.ρ 5 - SS.ρ 17 - 1) = 7 + lg (SS.ρ 5 - SS.ρ 17)
      · exact wayL2111 v hm (by omega) hs hd ty w hw
      · exact wayL2011 v hm (by omega) hs hd ty w hw
    · exact wayL0001 v (by omega) (by omega) hd ty w hw
  · by_cases hm : 1 < SS.ρ 5
    · by_cases h0 : SS.ρ 5 - SS.ρ 17 - 1 = 0
      · exact wayL0012 v hm h0 hd ty w hw
      by_cases h1 : SS.ρ 5 - SS.ρ 17 - 1 = 1
      · exact wayL1012 v hm h1 (by have := lg_ne (x := SS.ρ 5 - SS.ρ 17) (y := SS.ρ 5 - SS.ρ 17 - 1) (by omega) h1; omega) hd ty w hw
      by_cases hs : 7 + lg (SS.ρ 5 - SS.ρ 17 - 1) = 7 + lg (SS.ρ 5 - SS.ρ 17)
      · exact wayL2112 v hm (by omega) hs hd ty w hw
      · exact wayL2012 v hm (by omega) hs hd ty w hw
    · exact wayL0002 v (by omega) (by omega) hd ty w hw
  · by_cases hm : 1 < SS.ρ 5
    · by_cases h0 : SS.ρ 5 - SS.ρ 17 - 1 = 0
      · exact wayL0013 v hm h0 hd ty w hw
      by_cases h1 : SS.ρ 5 - SS.ρ 17 - 1 = 1
      · exact wayL1013 v hm h1 (by have := lg_ne (x := SS.ρ 5 - SS.ρ 17) (y := SS.ρ 5 - SS.ρ 17 - 1) (by omega) h1; omega) hd ty w hw
      by_cases hs : 7 + lg (SS.ρ 5 - SS.ρ 17 - 1) = 7 + lg (SS.ρ 5 - SS.ρ 17)
      · exact wayL2113 v hm (by omega) hs hd ty w hw
      · exact wayL2013 v hm (by omega) hs hd ty w hw
    · exact wayL0003 v (by omega) (by omega) hd ty w hw
end Go.Proofs.YtgokpcaijabhoaaDoor
