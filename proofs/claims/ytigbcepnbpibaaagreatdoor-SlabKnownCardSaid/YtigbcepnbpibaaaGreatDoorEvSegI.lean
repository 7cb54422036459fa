/-
  The evaluator: a body in pieces that may end within its loops and blocks: what is to be done is a row of items; each piece a run of its own, between states that are written out. Conditions: EnvOk; the variables hold what is known of them.
-/
import Derived.Test.YtigbcepnbpibaaaGreatDoorEvSeg
namespace Go.Ev
open Go.RowKit
set_option linter.unusedSectionVars false

inductive Itm where
  | code (c : Code)
  | inLoop (c : Code)
  | inBlock (id : Nat)
  /-- What is left of a region's operations. -/
  | ops (os : Array Oper) (l : List Oper)
/-- What is left behind an exit. -/
noncomputable def unwI : List Itm → AExit → List Itm × AExit
  | [], e => ([], e)
  | .inBlock id :: l, .exit id' => cond (Nat.beq id' id) (l, .normal) (unwI l (.exit id'))
  | .code _ :: l, e => unwI l e
  | .inLoop _ :: l, e => unwI l e
  | .inBlock _ :: l, e => unwI l e
  | .ops .. :: l, e => unwI l e
noncomputable def opR (P : Program) (ft : Nat → Option Func) (G : Nat → Option Obj) (r : Runner) (os : Array Oper) (l : List Oper) (A : Fr) (H : Heap) : Option (Fr × Heap) :=
  letI := noSyms G
  letI := noOrc P G
  runOps P ft r os l A H
noncomputable def stI (P : Program) (ft : Nat → Option Func) (G : Nat → Option Obj) (r : Runner) : List Itm → Fr → Heap → Option (List Itm × AExit × Fr × Heap)
  | [], _, _ => none
  | .inBlock _ :: l, A, H => some (l, .normal, A, H)
  | .inLoop c :: l, A, H => some (.code c :: .inLoop c :: l, .normal, A, H)
  | .code (.seq a b) :: l, A, H => some (.code a :: .code b :: l, .normal, A, H)
  | .code (.block id c) :: l, A, H => some (.code c :: .inBlock id :: l, .normal, A, H)
  | .code (.loop c) :: l, A, H => some (.code c :: .inLoop c :: l, .normal, A, H)
  | .code (.cond x a b) :: l, A, H => match opv A.get x with
    | .bool t => some (.code (if t then a else b) :: l, .normal, A, H)
    | _ => none
  | .code (.region _ os false) :: l, A, H => some (.ops os os.toList :: l, .normal, A, H)
  | .ops _ [] :: l, A, H => some (l, .normal, A, H)
  | .ops os (o :: rest) :: l, A, H => match opR P ft G r os [o] A H with
    | some (A', H') => some (.ops os rest :: l, .normal, A', H')
    | none => none
  | .code c :: l, A, H => match r (.code c A) H with
    | some (.exit .normal A', H') => some (l, .normal, A', H')
    | some (.exit e A', H') => some ((unwI l e).1, (unwI l e).2, A', H')
    | _ => none
/-- Some steps; none, when nothing is left. -/
noncomputable def itN (P : Program) (ft : Nat → Option Func) (G : Nat → Option Obj) (r : Runner) : Nat → List Itm → Fr → Heap → Option (List Itm × AExit × Fr × Heap)
  | 0, l, A, H => some (l, .normal, A, H)
  | n + 1, l, A, H => match l with
    | [] => some ([], .normal, A, H)
    | x :: l => match stI P ft G r (x :: l) A H with
      | some (l', .normal, A', H') => itN P ft G r n l' A' H'
      | y => y
noncomputable def runQ (P : Program) (ft : Nat → Option Func) (G : Nat → Option Obj) (r : Runner) (big : Nat) : List (Nat × List Nat) → List Itm → Fr → Heap → Option (AExit × Fr × Heap)
  | [], l, A, H => match itN P ft G r big l A H with
    | some ([], e, A', H') => some (e, A', H')
    | _ => none
  | p :: ps, l, A, H => match itN P ft G r p.1 l A H with
    | some (l1, .normal, A1, H1) => runQ P ft G r big ps l1 A1 (H1.keep p.2)
    | _ => none
/-- The first piece, with what is dropped. -/
noncomputable def pieceI (P : Program) (ft : Nat → Option Func) (G : Nat → Option Obj) (r : Runner) (n : Nat) (live : List Nat) (l : List Itm) (A : Fr) (H : Heap) : Option (List Itm × Fr × Heap) := match itN P ft G r n l A H with
    | some (l1, .normal, A1, H1) => some (l1, A1, H1.keep live)
    | _ => none
theorem runQ_cons {P : Program} {ft : Nat → Option Func} {G : Nat → Option Obj} {r : Runner} {big : Nat} {p : Nat × List Nat} {ps : List (Nat × List Nat)} {l l1 : List Itm} {A A1 : Fr} {H H1 : Heap} (h : pieceI P ft G r p.1 p.2 l A H = some (l1, A1, H1)) : runQ P ft G r big (p :: ps) l A H = runQ P ft G r big ps l1 A1 H1 := by
  rw [show runQ P ft G r big (p :: ps) l A H = (match itN P ft G r p.1 l A H with
    | some (l1, .normal, A1, H1) => runQ P ft G r big ps l1 A1 (H1.keep p.2)
    | _ => none) from rfl]
  unfold pieceI at h
  cases hr : itN P ft G r p.1 l A H with
  | none => rw [hr] at h; simp at h
  | some q =>
    obtain ⟨l2, e, A2, H2⟩ := q
    rw [hr] at h
    cases e <;> simp at h
    obtain ⟨rfl, rfl, rfl⟩ := h
    rfl
/-- A part of a code: 0 the first (or only) one, 1 the second one. -/
def codePt : Code → List Nat → Code
  | c, [] => c
  | .seq a _, 0 :: p => codePt a p
  | .seq _ b, _ :: p => codePt b p
  | .cond _ a _, 0 :: p => codePt a p
  | .cond _ _ b, _ :: p => codePt b p
  | .block _ c, _ :: p => codePt c p
  | .loop c, _ :: p => codePt c p
  | c, _ => c
/-- Items by places in a function's body: 0 code, 1 a loop's, 2 a block's end. -/
def itmsAt (ft : Nat → Option Func) (f : FuncId) (l : List (Nat × List Nat)) : List Itm := match ft f with
  | some fn => match fn.body with
    | some c => l.map fun x => match x.1 with
      | 0 => .code (codePt c x.2)
      | 1 => .inLoop (codePt c x.2)
      | 3 => (match codePt c x.2.dropLast with
        | .region _ os _ => .ops os (os.toList.drop (x.2.getLastD 0))
        | _ => .inBlock 0)
      | _ => .inBlock (x.2.headD 0)
    | none => []
  | none => []

/-! ### What items are -/
/-- Within a loop. -/
def LWp (P : Program) (c : Code) (Q : Exit → Act → World → Prop) (a : Act) (w : World) : Prop :=
  ∀ (b : Frame) (k : List Item) (cs : List Frame), ∃ e a' w', Q e a' w' ∧ Arrives P (lone (b.at a (.inLoop c :: k)) cs w) b k cs e a' w'
theorem loop_pass {P : Program} {c : Code} {Q : Exit → Act → World → Prop} {a : Act} {w : World} (h : c.wp P (Exit.then (LWp P c Q) Q) a w) (b : Frame) (k : List Item) (cs : List Frame) :
    ∃ e a' w', Q e a' w' ∧ Arrives P (lone (b.at a (.code c :: .inLoop c :: k)) cs w) b k cs e a' w' := by
  obtain ⟨e, a₁, w₁, hq, harr⟩ := h b (.inLoop c :: k) cs
  cases e with
  | normal =>
    obtain ⟨e₂, a₂, w₂, hq₂, harr₂⟩ := hq b k cs
    exact ⟨e₂, a₂, w₂, hq₂, .of_steps harr harr₂⟩
  | exit id => exact ⟨_, a₁, w₁, hq, .pass (x := .inLoop c) rfl (fun _ _ => .inl (by simp)) harr⟩
  | goto l => exact ⟨_, a₁, w₁, hq, .pass (x := .inLoop c) rfl (fun _ _ => .inl (by simp)) harr⟩
  | ret => exact ⟨_, a₁, w₁, hq, .pass (x := .inLoop c) rfl (fun _ _ => .inl (by simp)) harr⟩
  | panic ch => exact ⟨_, a₁, w₁, hq, .pass (x := .inLoop c) rfl (fun _ _ => .inl (by simp)) harr⟩
  | outgrown => exact ⟨_, a₁, w₁, hq, .pass (x := .inLoop c) rfl (fun _ _ => .inl (by simp)) harr⟩
theorem LWp.of {P : Program} {c : Code} {Q : Exit → Act → World → Prop} {a : Act} {w : World} (h : c.wp P (Exit.then (LWp P c Q) Q) a w) : LWp P c Q a w := by
  intro b k cs
  obtain ⟨e, a', w', hq, harr⟩ := loop_pass h b k cs
  exact ⟨e, a', w', hq, .of_steps (.one step_inLoop) harr⟩
theorem loop_of {P : Program} {c : Code} {Q : Exit → Act → World → Prop} {a : Act} {w : World} (h : c.wp P (Exit.then (LWp P c Q) Q) a w) : (Code.loop c).wp P Q a w := by
  intro b k cs
  obtain ⟨e, a', w', hq, harr⟩ := loop_pass h b k cs
  exact ⟨e, a', w', hq, .of_steps (.one step_loop) harr⟩
theorem LWp.mono {P : Program} {c : Code} {Q Q' : Exit → Act → World → Prop} {a : Act} {w : World} (h : LWp P c Q a w) (hq : ∀ e a w, Q e a w → Q' e a w) : LWp P c Q' a w :=
  fun b k cs => let ⟨e, a', w', q, r⟩ := h b k cs; ⟨e, a', w', hq _ _ _ q, r⟩
/-- What items come to, from an exit on. -/
def IX (P : Program) : List Itm → (Exit → Act → World → Prop) → Exit → Act → World → Prop
  | [], Q => Q
  | .code c :: l, Q => Exit.then (c.wp P (IX P l Q)) (IX P l Q)
  | .inLoop c :: l, Q => Exit.then (LWp P c (IX P l Q)) (IX P l Q)
  | .inBlock id :: l, Q => Exit.inBlock id (IX P l Q)
  | .ops os ol :: l, Q => Exit.then (wpList P os (IX P l Q) ol) (IX P l Q)
theorem IX.unw {P : Program} {Q : Exit → Act → World → Prop} {a : Act} {w : World} : ∀ (l : List Itm) (e : AExit), e ≠ .normal → IX P (unwI l e).1 Q (unwI l e).2.conv a w → IX P l Q e.conv a w
  | [], _, _, h => h
  | .code c :: l, e, he, h => by
    have h1 : IX P (unwI l e).1 Q (unwI l e).2.conv a w := by cases e <;> exact h
    have := IX.unw l e he h1
    cases e with
    | normal => exact absurd rfl he
    | exit id => exact this
    | ret => exact this
  | .inLoop c :: l, e, he, h => by
    have h1 : IX P (unwI l e).1 Q (unwI l e).2.conv a w := by cases e <;> exact h
    have := IX.unw l e he h1
    cases e with
    | normal => exact absurd rfl he
    | exit id => exact this
    | ret => exact this
  | .ops os ol :: l, e, he, h => by
    have h1 : IX P (unwI l e).1 Q (unwI l e).2.conv a w := by cases e <;> exact h
    have := IX.unw l e he h1
    cases e with
    | normal => exact absurd rfl he
    | exit id => exact this
    | ret => exact this
  | .inBlock id :: l, e, he, h => by
    cases e with
    | normal => exact absurd rfl he
    | ret => exact IX.unw l .ret he h
    | exit id' =>
      have h' : IX P (cond (Nat.beq id' id) (l, AExit.normal) (unwI l (.exit id'))).1 Q (cond (Nat.beq id' id) (l, AExit.normal) (unwI l (.exit id'))).2.conv a w := h
      show (if id' = id then IX P l Q .normal a w else IX P l Q (.exit id') a w)
      cases hb : Nat.beq id' id with
      | true =>
        rw [hb] at h'
        rw [if_pos (Nat.eq_of_beq_eq_true hb)]
        exact h'
      | false =>
        rw [hb] at h'
        rw [if_neg (fun e => by subst e; simp at hb)]
        exact IX.unw l (.exit id') he h'
def fineItm (n : Nat) : Itm → Bool
  | .code c | .inLoop c => fineC n c
  | .inBlock _ => true
  | .ops _ l => l.all (fineO n)
section
variable {P : Program} [NoFloat P] {G : Nat → Option Obj} {ι : Inj}
theorem fine_unw {n : Nat} : ∀ (l : List Itm) (e : AExit), (∀ x ∈ l, fineItm n x = true) → ∀ x ∈ (unwI l e).1, fineItm n x = true
  | [], e, _, x, hx => by cases e <;> simp [unwI] at hx
  | y :: l, e, h, x, hx => by
    have h' : ∀ x ∈ l, fineItm n x = true := fun x hx => h x (List.mem_cons_of_mem _ hx)
    cases y with
    | code c => exact fine_unw l e h' x (by cases e <;> exact hx)
    | inLoop c => exact fine_unw l e h' x (by cases e <;> exact hx)
    | ops os ol => exact fine_unw l e h' x (by cases e <;> exact hx)
    | inBlock id =>
      cases e with
      | normal => exact fine_unw l _ h' x hx
      | ret => exact fine_unw l _ h' x hx
      | exit id' =>
        have hx' : x ∈ (cond (Nat.beq id' id) (l, AExit.normal) (unwI l (.exit id'))).1 := hx
        cases hb : Nat.beq id' id with
        | true => rw [hb] at hx'; exact h' x hx'
        | false => rw [hb] at hx'; exact fine_unw l _ h' x hx'
/-- One operation of a region. -/
theorem opR_ok {ft : Nat → Option Func} (hE : @EnvOk noMarks P ft) {r : Runner} (hg : @Good (noSyms G) noMarks P r) {os : Array Oper} {o : Oper} {rest : List Oper} {A A' : Fr} {H H' : Heap} (h : opR P ft G r os [o] A H = some (A', H')) (hf : fineO P.globals.size o = true) {Q : Exit → Act → World → Prop} {ι : Inj} {a : Act} {w : World} (hw : @Rel (noSyms G) P ι H w) (hA : @FRel (noSyms G) ι A a.tmps)
    (hQ : ∀ ι1 a1 w1, Ext P ι w ι1 w1 → @Rel (noSyms G) P ι1 H' w1 → @FRel (noSyms G) ι1 A' a1.tmps → a1.defers = a.defers → wpList P os Q rest a1 w1) : wpList P os Q (o :: rest) a w := by
  letI := noSyms G
  letI : Marks := noMarks
  letI : Orc P := noOrc P G
  letI : Lps P := noLps P
  have h' : runOps P ft r os [o] A H = some (A', H') := h
  rw [runOps_cons] at h'
  unfold wpList
  by_cases hl : lookOk os A o = true
  case neg => rw [if_neg hl] at h'; simp at h'
  rw [if_pos hl, wanted_eq hA os o hl] at h'
  by_cases hwt : Region.wanted o (yielded os a.tmps) = true
  · rw [if_pos hwt] at h' ⊢
    cases hs : stepOp P ft r o A H with
    | none => rw [hs] at h'; simp at h'
    | some q =>
      obtain ⟨A1, H1⟩ := q
      rw [hs] at h'
      simp only [runOps_nil, Option.some.injEq, Prod.mk.injEq] at h'
      obtain ⟨rfl, rfl⟩ := h'
      exact .inl (stepOp_ok hE hg hs hw hA hf hl hQ)
  · rw [if_neg hwt] at h' ⊢
    cases hp : A.put o.dst undf with
    | none => rw [hp] at h'; simp at h'
    | some A1 =>
      rw [hp] at h'
      simp only [runOps_nil, Option.some.injEq, Prod.mk.injEq] at h'
      obtain ⟨rfl, rfl⟩ := h'
      exact hQ ι _ w (Ext.refl _ _) hw (hA.put VRel.undf hp) (put_defers _ _ _)
/-- ONE STEP. -/
theorem stI_ok {ft : Nat → Option Func} (hE : @EnvOk noMarks P ft) {r : Runner} (hg : @Good (noSyms G) noMarks P r) {l l' : List Itm} {A A' : Fr} {H H' : Heap} {e : AExit} (hf : ∀ x ∈ l, fineItm P.globals.size x = true) (h : stI P ft G r l A H = some (l', e, A', H'))
    {Q : Exit → Act → World → Prop} {ι : Inj} {a : Act} {w : World} (hw : @Rel (noSyms G) P ι H w) (hA : @FRel (noSyms G) ι A a.tmps)
    (hk : (∀ x ∈ l', fineItm P.globals.size x = true) → ∀ ι1 a1 w1, Ext P ι w ι1 w1 → @Rel (noSyms G) P ι1 H' w1 → @FRel (noSyms G) ι1 A' a1.tmps → a1.defers = a.defers → IX P l' Q e.conv a1 w1) : IX P l Q .normal a w := by
  letI := noSyms G
  letI : Marks := noMarks
  have leaf : ∀ (c : Code) (l : List Itm), (∀ x ∈ Itm.code c :: l, fineItm P.globals.size x = true) → (match r (.code c A) H with
    | some (.exit .normal A', H') => some (l, AExit.normal, A', H')
    | some (.exit e A', H') => some ((unwI l e).1, (unwI l e).2, A', H')
    | _ => none) = some (l', e, A', H') → IX P (.code c :: l) Q .normal a w := by
    intro c l hf h
    have hl : ∀ x ∈ l, fineItm P.globals.size x = true := fun x hx => hf x (List.mem_cons_of_mem _ hx)
    cases hr : r (.code c A) H with
    | none => rw [hr] at h; simp at h
    | some q =>
      obtain ⟨o, H1⟩ := q
      rw [hr] at h
      cases o with
      | val v => simp at h
      | exit e1 A1 =>
        refine wp_mono (hg.code _ _ _ _ _ _ hr c (.same c) (hf (.code c) List.mem_cons_self) ι a w hw hA) fun e' a' w' hpost => ?_
        obtain ⟨ι1, rfl, x1, r1, f1, d1⟩ := hpost
        cases e1 with
        | normal =>
          simp only [Option.some.injEq, Prod.mk.injEq] at h
          obtain ⟨rfl, rfl, rfl, rfl⟩ := h
          exact hk hl ι1 a' w' x1 r1 f1 d1
        | exit id =>
          simp only [Option.some.injEq, Prod.mk.injEq] at h
          obtain ⟨rfl, rfl, rfl, rfl⟩ := h
          exact IX.unw l _ (by simp) (hk (fine_unw l _ hl) ι1 a' w' x1 r1 f1 d1)
        | ret =>
          simp only [Option.some.injEq, Prod.mk.injEq] at h
          obtain ⟨rfl, rfl, rfl, rfl⟩ := h
          exact IX.unw l _ (by simp) (hk (fine_unw l _ hl) ι1 a' w' x1 r1 f1 d1)
  cases l with
  | nil => simp [stI] at h
  | cons y l =>
    have hl : ∀ x ∈ l, fineItm P.globals.size x = true := fun x hx => hf x (List.mem_cons_of_mem _ hx)
    have hy := hf y List.mem_cons_self
    cases y with
    | inBlock id =>
      simp only [stI, Option.some.injEq, Prod.mk.injEq] at h
      obtain ⟨rfl, rfl, rfl, rfl⟩ := h
      exact hk hl ι a w (Ext.refl _ _) hw hA rfl
    | inLoop c =>
      simp only [stI, Option.some.injEq, Prod.mk.injEq] at h
      obtain ⟨rfl, rfl, rfl, rfl⟩ := h
      exact LWp.of (hk (fun x hx => by
        rcases List.mem_cons.1 hx with rfl | hx
        · exact hy
        · exact hf x hx) ι a w (Ext.refl _ _) hw hA rfl)
    | ops os ol =>
      cases ol with
      | nil =>
        simp only [stI, Option.some.injEq, Prod.mk.injEq] at h
        obtain ⟨rfl, rfl, rfl, rfl⟩ := h
        exact hk hl ι a w (Ext.refl _ _) hw hA rfl
      | cons o rest =>
        simp only [stI] at h
        have hy' : (o :: rest).all (fineO P.globals.size) = true := hy
        simp only [List.all_cons, Bool.and_eq_true] at hy'
        split at h
        · rename_i A1 H1 hr
          simp only [Option.some.injEq, Prod.mk.injEq] at h
          obtain ⟨rfl, rfl, rfl, rfl⟩ := h
          exact opR_ok hE hg hr hy'.1 hw hA fun ι1 a1 w1 x1 r1 f1 d1 => hk (fun z hz => by
            rcases List.mem_cons.1 hz with rfl | hz
            · exact hy'.2
            · exact hl z hz) ι1 a1 w1 x1 r1 f1 d1
        · simp at h
    | code c =>
      cases c with
      | seq x y =>
        simp only [stI, Option.some.injEq, Prod.mk.injEq] at h
        obtain ⟨rfl, rfl, rfl, rfl⟩ := h
        have hy' : fineC P.globals.size (.seq x y) = true := hy
        simp only [fineC, Bool.and_eq_true] at hy'
        refine wp_seq (wp_mono (hk (fun z hz => by
          rcases List.mem_cons.1 hz with rfl | hz
          · exact hy'.1
          · rcases List.mem_cons.1 hz with rfl | hz
            · exact hy'.2
            · exact hl z hz) ι a w (Ext.refl _ _) hw hA rfl) fun e a w he => ?_)
        cases e <;> exact he
      | block id x =>
        simp only [stI, Option.some.injEq, Prod.mk.injEq] at h
        obtain ⟨rfl, rfl, rfl, rfl⟩ := h
        have hy' : fineC P.globals.size (.block id x) = true := hy
        simp only [fineC] at hy'
        exact wp_block (hk (fun z hz => by
          rcases List.mem_cons.1 hz with rfl | hz
          · exact hy'
          · rcases List.mem_cons.1 hz with rfl | hz
            · rfl
            · exact hl z hz) ι a w (Ext.refl _ _) hw hA rfl)
      | loop x =>
        simp only [stI, Option.some.injEq, Prod.mk.injEq] at h
        obtain ⟨rfl, rfl, rfl, rfl⟩ := h
        have hy' : fineC P.globals.size (.loop x) = true := hy
        simp only [fineC] at hy'
        exact loop_of (hk (fun z hz => by
          rcases List.mem_cons.1 hz with rfl | hz
          · exact hy'
          · rcases List.mem_cons.1 hz with rfl | hz
            · exact hy'
            · exact hl z hz) ι a w (Ext.refl _ _) hw hA rfl)
      | cond c x y =>
        have hy' : fineC P.globals.size (.cond c x y) = true := hy
        simp only [fineC, Bool.and_eq_true] at hy'
        simp only [stI] at h
        have hp : ∀ t, c = .tmp t → A.opn = false ∨ isP (A.get t) = false := by
          intro t ht
          subst ht
          right
          have e : opv A.get (.tmp t) = A.get t := rfl
          rw [e] at h
          cases hq : A.get t <;> rw [hq] at h <;> first | rfl | simp at h
        letI i3 : Orc P := noOrc P _
        letI i4 : Lps P := noLps P
        have hc := opv_rel hw hA hy'.1.1 hp
        revert hc h
        generalize opv A.get c = u
        generalize hu : a.eval c = u'
        intro h hc
        cases hc with
        | bool t =>
          simp only [Option.some.injEq, Prod.mk.injEq] at h
          obtain ⟨rfl, rfl, rfl, rfl⟩ := h
          have hk' := hk (fun z hz => by
            rcases List.mem_cons.1 hz with rfl | hz
            · cases t
              · exact hy'.2
              · exact hy'.1.2
            · exact hl z hz) ι a w (Ext.refl _ _) hw hA rfl
          exact wp_cond hu hk'
        | _ => simp at h
      | skip => exact leaf _ l hf h
      | region id ops d =>
        cases d with
        | true => exact leaf _ l hf h
        | false =>
          simp only [stI, Option.some.injEq, Prod.mk.injEq] at h
          obtain ⟨rfl, rfl, rfl, rfl⟩ := h
          have hy' : fineC P.globals.size (.region id ops false) = true := hy
          unfold fineC at hy'
          rw [Array.all_eq_true_iff_forall_mem] at hy'
          exact wp_region_list (hk (fun z hz => by
            rcases List.mem_cons.1 hz with rfl | hz
            · exact List.all_eq_true.2 fun o ho => hy' o (by simpa using ho)
            · exact hl z hz) ι a w (Ext.refl _ _) hw hA rfl)
      | rangeFunc f ps x y => exact leaf _ l hf h
      | exit id => exact leaf _ l hf h
      | scope x => exact leaf _ l hf h
      | label i => exact leaf _ l hf h
      | goto i => exact leaf _ l hf h
      | ret => exact leaf _ l hf h
      | refuse s => exact leaf _ l hf h
theorem itN_ok {ft : Nat → Option Func} (hE : @EnvOk noMarks P ft) {r : Runner} (hg : @Good (noSyms G) noMarks P r) {Q : Exit → Act → World → Prop} : ∀ (n : Nat) (l l' : List Itm) (A A' : Fr) (H H' : Heap) (e : AExit), (∀ x ∈ l, fineItm P.globals.size x = true) → itN P ft G r n l A H = some (l', e, A', H') →
    ∀ ι a w, @Rel (noSyms G) P ι H w → @FRel (noSyms G) ι A a.tmps →
    ((∀ x ∈ l', fineItm P.globals.size x = true) → ∀ ι1 a1 w1, Ext P ι w ι1 w1 → @Rel (noSyms G) P ι1 H' w1 → @FRel (noSyms G) ι1 A' a1.tmps → a1.defers = a.defers → IX P l' Q e.conv a1 w1) → IX P l Q .normal a w
  | 0, l, l', A, A', H, H', e, hf, h, ι, a, w, hw, hA, hk => by
    letI := noSyms G
    simp only [itN, Option.some.injEq, Prod.mk.injEq] at h
    obtain ⟨rfl, rfl, rfl, rfl⟩ := h
    exact hk hf ι a w (Ext.refl _ _) hw hA rfl
  | n + 1, [], l', A, A', H, H', e, hf, h, ι, a, w, hw, hA, hk => by
    letI := noSyms G
    simp only [itN, Option.some.injEq, Prod.mk.injEq] at h
    obtain ⟨rfl, rfl, rfl, rfl⟩ := h
    exact hk hf ι a w (Ext.refl _ _) hw hA rfl
  | n + 1, x :: l, l', A, A', H, H', e, hf, h, ι, a, w, hw, hA, hk => by
    letI := noSyms G
    simp only [itN] at h
    cases hs : stI P ft G r (x :: l) A H with
    | none => rw [hs] at h; simp at h
    | some q =>
      obtain ⟨l1, e1, A1, H1⟩ := q
      rw [hs] at h
      refine stI_ok hE hg hf hs hw hA fun hf1 ι1 a1 w1 x1 r1 f1 d1 => ?_
      cases e1 with
      | normal => exact itN_ok hE hg n l1 l' A1 A' H1 H' e hf1 h ι1 a1 w1 r1 f1 fun hf2 ι2 a2 w2 x2 r2 f2 d2 => hk hf2 ι2 a2 w2 (x1.trans x2) r2 f2 (d2.trans d1)
      | exit id =>
        simp only [Option.some.injEq, Prod.mk.injEq] at h
        obtain ⟨rfl, rfl, rfl, rfl⟩ := h
        exact hk hf1 ι1 a1 w1 x1 r1 f1 d1
      | ret =>
        simp only [Option.some.injEq, Prod.mk.injEq] at h
        obtain ⟨rfl, rfl, rfl, rfl⟩ := h
        exact hk hf1 ι1 a1 w1 x1 r1 f1 d1
theorem runQ_ok {ft : Nat → Option Func} (hE : @EnvOk noMarks P ft) {r : Runner} (hg : @Good (noSyms G) noMarks P r) {big : Nat} {w0 : World} {ι0 : Inj} {a0 : Act} : ∀ (ps : List (Nat × List Nat)) (l : List Itm) (A A' : Fr) (H H' : Heap) (e : AExit), (∀ x ∈ l, fineItm P.globals.size x = true) → runQ P ft G r big ps l A H = some (e, A', H') →
    ∀ ι a w, Ext P ι0 w0 ι w → a.defers = a0.defers → @Rel (noSyms G) P ι H w → @FRel (noSyms G) ι A a.tmps → IX P l (@PostC (noSyms G) P ι0 w0 a0 e A' H') .normal a w
  | [], l, A, A', H, H', e, hf, h, ι, a, w, hx, hd, hw, hA => by
    letI := noSyms G
    have h' : (match itN P ft G r big l A H with
      | some ([], e, A', H') => some (e, A', H')
      | _ => none) = some (e, A', H') := h
    cases hr : itN P ft G r big l A H with
    | none => rw [hr] at h'; simp at h'
    | some q =>
      obtain ⟨l1, e1, A1, H1⟩ := q
      rw [hr] at h'
      cases l1 with
      | cons => simp at h'
      | nil =>
        simp only [Option.some.injEq, Prod.mk.injEq] at h'
        obtain ⟨rfl, rfl, rfl⟩ := h'
        exact itN_ok hE hg big l [] A A1 H H1 e1 hf hr ι a w hw hA fun _ ι1 a1 w1 x1 r1 f1 d1 => ⟨ι1, rfl, hx.trans x1, r1, f1, d1.trans hd⟩
  | p :: ps, l, A, A', H, H', e, hf, h, ι, a, w, hx, hd, hw, hA => by
    letI := noSyms G
    have h' : (match itN P ft G r p.1 l A H with
      | some (l1, .normal, A1, H1) => runQ P ft G r big ps l1 A1 (H1.keep p.2)
      | _ => none) = some (e, A', H') := h
    cases hr : itN P ft G r p.1 l A H with
    | none => rw [hr] at h'; simp at h'
    | some q =>
      obtain ⟨l1, e1, A1, H1⟩ := q
      rw [hr] at h'
      cases e1 with
      | normal => exact itN_ok hE hg p.1 l l1 A A1 H H1 .normal hf hr ι a w hw hA fun hf1 ι1 a1 w1 x1 r1 f1 d1 => runQ_ok hE hg ps l1 A1 A' (H1.keep p.2) H' e hf1 h' ι1 a1 w1 (hx.trans x1) (d1.trans hd) (r1.keep p.2) f1
      | exit id => simp at h'
      | ret => simp at h'

/-- A step that does a body in pieces. -/
noncomputable def itemR (P : Program) (ft : Nat → Option Func) (G : Nat → Option Obj) (big : Nat) (ps : List (Nat × List Nat)) (r : Runner) : Runner
  | .code c A, H => match runQ P ft G r big ps [.code c] A H with
    | some (e, A', H') => some (.exit e A', H')
    | none => none
  | .fn f a, H => r (.fn f a) H
  | .loop c A, H => r (.loop c A) H
theorem itemR_good {ft : Nat → Option Func} (hE : @EnvOk noMarks P ft) {r : Runner} (hg : @Good (noSyms G) noMarks P r) (big : Nat) (ps : List (Nat × List Nat)) : @Good (noSyms G) noMarks P (itemR P ft G big ps r) := by
  letI := noSyms G
  letI : Marks := noMarks
  refine ⟨hg.fn, fun c A H e A' H' h => ?_, hg.loop, fun c A H v H' h => ?_, hg.noValL⟩
  · have h' : (match runQ P ft G r big ps [.code c] A H with
      | some (e, A', H') => some (Out.exit e A', H')
      | none => none) = some (.exit e A', H') := h
    cases hr : runQ P ft G r big ps [.code c] A H with
    | none => rw [hr] at h'; simp at h'
    | some q =>
      obtain ⟨e1, A1, H1⟩ := q
      rw [hr] at h'
      simp only [Option.some.injEq, Prod.mk.injEq, Out.exit.injEq] at h'
      obtain ⟨⟨rfl, rfl⟩, rfl⟩ := h'
      intro c0 hann hf ι a w hw hA
      obtain rfl := ann_eq hann
      exact runQ_ok hE hg ps [.code c] A A1 H H1 e1 (fun x hx => by obtain rfl := List.mem_singleton.1 hx; exact hf) hr ι a w (Ext.refl _ _) rfl hw hA
  · have h' : (match runQ P ft G r big ps [.code c] A H with
      | some (e, A', H') => some (Out.exit e A', H')
      | none => none) = some (.val v, H') := h
    cases hr : runQ P ft G r big ps [.code c] A H with
    | none => rw [hr] at h'; simp at h'
    | some q =>
      obtain ⟨e1, A1, H1⟩ := q
      rw [hr] at h'
      simp at h'
end
noncomputable def bodyI (ft : Nat → Option Func) (f : FuncId) : List Itm := itmsAt ft f [(0, [])]
theorem step_items [Syms] {P : Program} [NoFloat P] [Marks] [Orc P] [Lps P] {ft : Nat → Option Func} {G : Nat → Option Obj} {big : Nat} {ps : List (Nat × List Nat)} {r : Runner} {draw : Array Oper → Fr → Heap → Option (Fr × Heap)} {f : FuncId} {args : Array Value} {H : Heap} {x : Out × Heap} (h : endL P ft f (runQ P ft G r big ps (bodyI ft f) (enterL ft f args) H) = some x) (hb : ((ft f).bind (·.body)).isSome = true) :
    stepRun P ft (itemR P ft G big ps r) draw (.fn f args) H = some x := by
  unfold endL bodyI enterL itmsAt at h
  simp only [stepRun]
  cases hf : ft f with
  | none => rw [hf] at h; simp at h
  | some fn =>
    rw [hf] at h hb
    cases hc : fn.body with
    | none => simp [hc] at hb
    | some c =>
      simp only [hc, List.map_cons, List.map_nil, codePt] at h ⊢
      rw [show itemR P ft G big ps r (.code c (Fr.enter fn args)) H = (match runQ P ft G r big ps [.code c] (Fr.enter fn args) H with
        | some (e, A', H') => some (Out.exit e A', H')
        | none => none) from rfl]
      cases hr : runQ P ft G r big ps [.code c] (Fr.enter fn args) H with
      | none => rw [hr] at h; simp [finL] at h
      | some q =>
        obtain ⟨e1, A1, H1⟩ := q
        rw [hr] at h
        cases e1 <;> exact h
variable {P : Program} {ft : Nat → Option Func}
/-- A closed call, its body in pieces. -/
theorem KnOk.items [NoFloat P] (hE : EnvOk P ft) {gs : Gs} {n big : Nat} {f : FuncId} {args : Array Value} {v : Value} (hx : Kn.ok ⟨f, args, v⟩ = true) (tb : List Kn) (htb : tb.all Kn.ok = true) {L : List Itm} {A0 : Fr} (hL0 : L = bodyI ft f) (hA0 : A0 = enterL ft f args)
    (ps : List (Nat × List Nat)) (hrun : ∀ G, outEq v (endL P ft f (runQ P ft G (run0 P ft (knT tb fun _ _ => none) G n) big ps L A0 (H0g P gs))) = true) (hb : ((ft f).bind (·.body)).isSome = true) {w : World} (hw : GOk P gs w)
    (hT : ∀ y ∈ tb, KnOk P w y) : KnOk P w ⟨f, args, v⟩ := by
  subst hL0 hA0
  intro w₁ hs hgl
  unfold Kn.ok at hx
  rw [Bool.and_eq_true] at hx
  have hw1 : GOk P gs w₁ := @GOk.of (noSyms fun _ => none) _ _ _ _ hw hs hgl
  have hr := hrun fun b => w₁.heap[b]?
  letI i1 := noSyms fun b => w₁.heap[b]?
  letI i2 : Marks := noMarks
  letI i3 : Orc P := noOrc P _
  letI i4 : Lps P := noLps P
  have hK : KOk P (knT tb fun _ _ => none) := @knT_ok P (fun b => w₁.heap[b]?) w (fun b hb => hgl b hb) _ (@noK (noSyms fun b => w₁.heap[b]?) P) tb htb hT
  have hL : LpsOk P := fun _ _ _ _ _ _ _ _ h => by simp at h
  have hg : Good P (runK P ft (knT tb fun _ _ => none) n) := runK_good hE hL hK n
  have hg2 : Good P (stepRun P ft (itemR P ft (fun b => w₁.heap[b]?) big ps (runK P ft (knT tb fun _ _ => none) n)) (drawRun2 P ft (itemR P ft (fun b => w₁.heap[b]?) big ps (runK P ft (knT tb fun _ _ => none) n)))) := Good.step hE hL (itemR_good hE hg big ps) (drawRun2_ok hE (itemR_good hE hg big ps))
  cases he : endL P ft f (runQ P ft (fun b => w₁.heap[b]?) (run0 P ft (knT tb fun _ _ => none) (fun b => w₁.heap[b]?) n) big ps (bodyI ft f) (enterL ft f args) (H0g P gs)) with
  | none => rw [he] at hr; simp [outEq] at hr
  | some q =>
    obtain ⟨out, H'⟩ := q
    rw [he] at hr
    cases out with
    | exit e A => simp [outEq] at hr
    | val u =>
      have hu : u = v := veq_ok hr
      subst hu
      refine Calls.mono (callR hg2 (args := args) (fun ι => plainAs_rel hx.1) (step_items he hb) w₁ hw1 ⟨fun _ _ => rfl, fun _ _ h => by simp at h⟩) fun e w' hh => ?_
      obtain ⟨ι', v', rfl, q1, x1⟩ := hh
      rw [plainA_eq hx.2 q1]
      exact ⟨rfl, x1⟩
end Go.Ev
