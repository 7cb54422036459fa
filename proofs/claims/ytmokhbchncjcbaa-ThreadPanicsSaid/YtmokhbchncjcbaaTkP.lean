/-
  The play of two parties, move by move, and the run that it is; its end. Conditions: EnvOk; no code stands for other code.
-/
import Derived.Test.YtmokhbchncjcbaaTkO
import Derived.Test.YtmokhbchncjcbaaEvL
namespace Go.Ev
open Go.Conc
set_option linter.unusedSectionVars false

/-- A move: the holder's steps; a drawn region of readers, or of channels; cells that stand still from there on; a go statement; a send (its channel, its place in the seat, how far the way to the own seat is), the last one; a close. -/
inductive Mv where
  | walk (n : Nat)
  | join (n last : Nat)
  | chans (n m : Nat) (tail : List Nat)
  | marks (l : List (Nat × Nat))
  | hire (ns Cs : List Nat) (k : Nat)
  | give (nm kk k : Nat)
  | last (nm kk k : Nat)
  | shut (nm kk k : Nat)
inductive PS where
  | alone (g : AG) (H : Heap)
  | held (ns Cs : List Nat) (b : Bool) (g : AG) (H : Heap) (og : AG) (ol : List (Nat × Value)) (osh : CommShape)
section
variable [Syms] (P : Program) [NoFloat P] (ft : Nat → Option Func) (M : Nat)
/-- The holder's own moves. -/
noncomputable def ownM (mv : Mv) (g : AG) (H : Heap) : Option (AG × Heap) := match mv with
  | .walk n => match stepsA P ft n g H with
    | some (g', H') => cond (Nat.ble H'.next M) (some (g', H')) none
    | none => none
  | .join n last => match g.1.mode, g.1.todo with
    | .run, .code (.region _ ops true) :: k => match ordersOf ops with
      | σ :: _ => match readsA P ft H n { g.1 with todo := .inRegion ops σ :: k } with
        | some x => cond (Nat.ble H.next M && joins P ft H g.1 ops k n last x.A) (some (({ g.1 with A := x.A, todo := .inRegion ops [last] :: k }, g.2), H)) none
        | none => none
      | [] => none
    | _, _ => none
  | .chans n m tail => match g.1.mode, g.1.todo with
    | .run, .code (.region _ ops true) :: k => match mksA P ft H n { g.1 with todo := .inRegion ops (List.range n ++ tail) :: k } 0 with
      | some (x, _) => cond (Nat.ble (H.next + m) M && chansJ P ft H g.1 g.2 ops k n m tail x.A) (some (({ g.1 with A := x.A, todo := .inRegion ops tail :: k }, g.2), newC H m)) none
      | none => none
    | _, _ => none
  | _ => none
theorem ownM_ok {P : Program} [NoFloat P] {ft : Nat → Option Func} {M : Nat} (hE : @EnvOk noMarks P ft) {mv : Mv} {g g' : AG} {H H' : Heap} (h : ownM P ft M mv g H = some (g', H')) : Moves P M g H g' H' := by
  obtain ⟨f, cs⟩ := g
  unfold ownM at h
  split at h
  · rename_i n
    cases hs : stepsA P ft n (f, cs) H with
    | none => rw [hs] at h; simp at h
    | some q =>
      obtain ⟨g1, H1⟩ := q
      rw [hs] at h
      cases hb : Nat.ble H1.next M with
      | false => simp only [hb] at h; simp at h
      | true =>
        simp only [hb, cond_true, Option.some.injEq, Prod.mk.injEq] at h
        obtain ⟨rfl, rfl⟩ := h
        exact moves_steps hE hs (Nat.le_of_ble_eq_true hb)
  · rename_i n last
    split at h
    · rename_i id ops k hm ht
      split at h
      · rename_i σ l ho
        split at h
        · rename_i x hx
          cases hb : (Nat.ble H.next M && joins P ft H f ops k n last x.A) with
          | false => simp only [hb] at h; simp at h
          | true =>
            simp only [hb, cond_true, Option.some.injEq, Prod.mk.injEq] at h
            obtain ⟨rfl, rfl⟩ := h
            rw [Bool.and_eq_true] at hb
            exact moves_join hE (Nat.le_of_ble_eq_true hb.1) hm ht hb.2
        · simp at h
      · simp at h
    · simp at h
  · rename_i n m tail
    split at h
    · rename_i id ops k hm ht
      split at h
      · rename_i x c hx
        cases hb : (Nat.ble (H.next + m) M && chansJ P ft H f cs ops k n m tail x.A) with
        | false => simp only [hb] at h; simp at h
        | true =>
          simp only [hb, cond_true, Option.some.injEq, Prod.mk.injEq] at h
          obtain ⟨rfl, rfl⟩ := h
          rw [Bool.and_eq_true] at hb
          exact moves_chans hE (Nat.le_of_ble_eq_true hb.1) hm ht hb.2
      · simp at h
    · simp at h
  · simp at h
noncomputable def play1 (mv : Mv) (s : PS) : Option PS := match s with
  | .alone g H => match mv with
    | .marks l => (marksH l H).map (PS.alone g)
    | .hire ns Cs k => cond (Nat.ble H.next M) (match spawnsA P g with
      | some (g1, gc) => match quietN P ft (leanHeap H ns) k g1 with
        | some g2 => match standsA P g2 with
          | some (l2, sh2) => cond (seatOk P H Cs l2 []) (some (.held ns Cs true gc H g2 l2 sh2)) none
          | none => none
        | none => none
      | none => none) none
    | mv => (ownM P ft M mv g H).map fun q => .alone q.1 q.2
  | .held ns Cs b g H og ol osh => cond (Nat.ble H.next M && chansOk P H Cs && stands H ns && cellsIn H ns && ol.all (fun p => ground p.2)) (match mv with
    | .give nm kk k => match sendsA g, finA g.1 undf, ol[kk]?, H.get nm with
      | some (nm', v), some f1, some (nm2, _), some (.chan room kc false) => cond (Nat.beq nm nm' && Nat.beq nm nm2) (match quietN P ft (leanHeap H ns) k (f1, g.2), finA og.1 (commV osh ol kk v true) with
        | some g2, some f3 => match standsA P g2 with
          | some (l2, sh2) => cond (seatOk P H Cs l2 ol) (some (.held ns Cs (!b) (f3, og.2) (H.put nm (.chan room (kc + 1) false)) g2 l2 sh2)) none
          | none => none
        | _, _ => none) none
      | _, _, _, _ => none
    | .last nm kk k => match sendsA g, finA g.1 undf, ol[kk]?, H.get nm with
      | some (nm', v), some f1, some (nm2, _), some (.chan room kc false) => cond (Nat.beq nm nm' && Nat.beq nm nm2 && b && quitN P ft H k (f1, g.2)) (match finA og.1 (commV osh ol kk v true) with
        | some f3 => some (.alone (f3, og.2) (H.put nm (.chan room (kc + 1) false)))
        | none => none) none
      | _, _, _, _ => none
    | .shut nm kk k => match closesA g, ol[kk]?, H.get nm with
      | some (nm', g1), some (nm2, z), some (.chan room kc false) => cond (Nat.beq nm nm' && Nat.beq nm nm2) (match quietN P ft (leanHeap H ns) k g1, finA og.1 (commV osh ol kk z false) with
        | some g2, some f3 => match standsA P g2 with
          | some (l2, sh2) => cond (seatOk P H Cs l2 ol) (some (.held ns Cs (!b) (f3, og.2) (H.put nm (.chan room kc true)) g2 l2 sh2)) none
          | none => none
        | _, _ => none) none
      | _, _, _ => none
    | mv => (ownM P ft M mv g H).map fun q => .held ns Cs b q.1 q.2 og ol osh) none
noncomputable def plays : List Mv → PS → Option PS
  | [], s => some s
  | mv :: l, s => match play1 P ft M mv s with
    | some s' => plays l s'
    | none => none
end
section
variable [Syms] {P : Program} [NoFloat P] {ft : Nat → Option Func} {M δ : Nat} {Wi : World} {ιi : Inj}
def Sat (P : Program) (M δ : Nat) (Wi : World) (ιi : Inj) (s : PS) (m : Machine) (T : Trace) : Prop := match s with
  | .alone g H => Alone P M δ Wi ιi g H m T
  | .held ns Cs b g H og ol osh => Held P M δ Wi ιi ns Cs b g H og ol osh m T
theorem cond_of {α : Type} {b : Bool} {x : Option α} {y : α} (h : cond b x none = some y) : b = true ∧ x = some y := by
  cases b
  · simp at h
  · exact ⟨rfl, h⟩
theorem play1_ok (hE : @EnvOk noMarks P ft) {mv : Mv} {s s' : PS} {m : Machine} {T : Trace} (h : play1 P ft M mv s = some s') (hs : Sat P M δ Wi ιi s m T) : ∃ N m' T', runNT P N m T = (.next m', T') ∧ Sat P M δ Wi ιi s' m' T' := by
  unfold play1 at h
  cases s with
  | alone g H =>
    dsimp only at h
    have own : ∀ mv, (ownM P ft M mv g H).map (fun q => PS.alone q.1 q.2) = some s' → ∃ N m' T', runNT P N m T = (.next m', T') ∧ Sat P M δ Wi ιi s' m' T' := fun mv h => by
      rw [Option.map_eq_some_iff] at h
      obtain ⟨⟨g', H'⟩, h1, rfl⟩ := h
      exact Alone.walk (ownM_ok hE h1) hs
    split at h
    · rw [Option.map_eq_some_iff] at h
      obtain ⟨H', h1, rfl⟩ := h
      exact ⟨0, m, T, rfl, Alone.marks h1 hs⟩
    · obtain ⟨hM, h⟩ := cond_of h
      split at h
      · rename_i g1 gc h1
        split at h
        · rename_i g2 h2
          split at h
          · rename_i l2 sh2 h3
            obtain ⟨h4, h5⟩ := cond_of h
            simp only [Option.some.injEq] at h5
            subst h5
            exact Alone.hire hE (Nat.le_of_ble_eq_true hM) h1 h2 h3 h4 hs
          · simp at h
        · simp at h
      · simp at h
    · exact own _ h
  | held ns Cs b g H og ol osh =>
    dsimp only at h
    obtain ⟨hc, h⟩ := cond_of h
    simp only [Bool.and_eq_true] at hc
    obtain ⟨⟨⟨⟨hM, hCs⟩, hst⟩, hcl⟩, hgr⟩ := hc
    have hM := Nat.le_of_ble_eq_true hM
    split at h
    · split at h
      · rename_i nm kk k _ _ _ _ nm' v f1 nm2 z room kc e1 e2 e3 e4
        obtain ⟨hn, hh⟩ := cond_of h
        rw [Bool.and_eq_true] at hn
        obtain rfl := Nat.eq_of_beq_eq_true hn.1
        obtain rfl := Nat.eq_of_beq_eq_true hn.2
        split at hh
        · rename_i g2 f3 e5 e6
          split at hh
          · rename_i l2 sh2 e7
            obtain ⟨e8, e9⟩ := cond_of hh
            obtain rfl := Option.some.inj e9
            exact Held.give hE hM hCs e1 e2 e5 e7 e8 e3 hgr e6 e4 hs
          · simp at hh
        · simp at hh
      · simp at h
    · split at h
      · rename_i nm kk k _ _ _ _ nm' v f1 nm2 z room kc e1 e2 e3 e4
        obtain ⟨hn, hh⟩ := cond_of h
        simp only [Bool.and_eq_true] at hn
        obtain ⟨⟨⟨n1, n2⟩, rfl⟩, n4⟩ := hn
        obtain rfl := Nat.eq_of_beq_eq_true n1
        obtain rfl := Nat.eq_of_beq_eq_true n2
        split at hh
        · rename_i f3 e6
          obtain rfl := Option.some.inj hh
          exact Held.last hE hM hCs e1 e2 n4 e3 hgr e6 e4 hs
        · simp at hh
      · simp at h
    · split at h
      · rename_i nm kk k _ _ _ nm' g1 nm2 z room kc e1 e3 e4
        obtain ⟨hn, hh⟩ := cond_of h
        rw [Bool.and_eq_true] at hn
        obtain rfl := Nat.eq_of_beq_eq_true hn.1
        obtain rfl := Nat.eq_of_beq_eq_true hn.2
        split at hh
        · rename_i g2 f3 e5 e6
          split at hh
          · rename_i l2 sh2 e7
            obtain ⟨e8, e9⟩ := cond_of hh
            obtain rfl := Option.some.inj e9
            exact Held.shut hE hM hCs e1 e5 e7 e8 e3 hgr e6 e4 hs
          · simp at hh
        · simp at hh
      · simp at h
    · rw [Option.map_eq_some_iff] at h
      obtain ⟨⟨g', H'⟩, h1, rfl⟩ := h
      unfold chansOk at hCs
      rw [Bool.and_eq_true] at hCs
      exact Held.walk hst hcl hCs.1 (ownM_ok hE h1) hs
theorem plays_ok (hE : @EnvOk noMarks P ft) : ∀ {l : List Mv} {s s' : PS} {m : Machine} {T : Trace}, plays P ft M l s = some s' → Sat P M δ Wi ιi s m T → ∃ N m' T', runNT P N m T = (.next m', T') ∧ Sat P M δ Wi ιi s' m' T'
  | [], s, s', m, T, h, hs => by
    simp only [plays, Option.some.injEq] at h
    subst h
    exact ⟨0, m, T, rfl, hs⟩
  | mv :: l, s, s', m, T, h, hs => by
    simp only [plays] at h
    cases h1 : play1 P ft M mv s with
    | none => rw [h1] at h; simp at h
    | some s1 =>
      rw [h1] at h
      obtain ⟨N1, m1, T1, r1, q1⟩ := play1_ok hE h1 hs
      obtain ⟨N2, m2, T2, r2, q2⟩ := plays_ok hE h q1
      exact ⟨N1 + N2, m2, T2, runNT_then r1 r2, q2⟩
/-- It is at its end, and hands back true. -/
noncomputable def doneA (P : Program) (ft : Nat → Option Func) (g : AG) (H : Heap) : Bool := match g.2, g.1.mode, g.1.defers with
  | [], .returning, [] => match ft g.1.fn with
    | some fn => (match resV P fn g.1.A H with | some (.bool true, _) => true | _ => false) && (P.inits.idxOf? g.1.fn).isNone && !g.1.dfr
    | none => false
  | _, _, _ => false
noncomputable def doneS (P : Program) (ft : Nat → Option Func) (M : Nat) : Option PS → Bool
  | some (.alone g H) => Nat.ble H.next M && doneA P ft g H
  | _ => false
theorem done_ok (hE : @EnvOk noMarks P ft) {g : AG} {H : Heap} (h : doneA P ft g H = true) {ι : Inj} {a : Goroutine} {w : World} (hg : GRel P ι g a) (hw : Rel P ι H w) : ∃ es, stepG P true a w = .ended (.done (.bool true)) w es ∧ ∀ e ∈ es, EvOk ι H w e := by
  letI : Marks := noMarks
  letI : Orc P := anyOrc P
  letI : Lps P := noLps P
  obtain ⟨f, cs⟩ := g
  unfold doneA at h
  split at h
  · rename_i hc hm hd
    simp only at hc hm hd
    subst hc
    split at h
    · rename_i fn hf
      simp only at hf
      simp only [Bool.and_eq_true] at h
      obtain ⟨⟨hres, hin⟩, hdf⟩ := h
      have hF := hg.frame
      obtain ⟨fo, c, c', h1, h2, h3, h3', hann, hfine, hnt, hres0⟩ := hE.fn f.fn fn hf
      have e2 : ∀ g, resA fn g = resA fo g := fun g => by unfold resA; rw [hres0]
      split at hres
      · rename_i H2 hrv
        unfold resV at hrv
        rw [e2] at hrv
        cases har : arun P (resA fo f.A.get) H with
        | none => rw [har] at hrv; simp at hrv
        | some q =>
          obtain ⟨vs, H3⟩ := q
          rw [har] at hrv
          simp only [Option.some.injEq, Prod.mk.injEq] at hrv
          obtain ⟨hv, _⟩ := hrv
          obtain ⟨ι2, v', w2, q1, q2, q3, q4⟩ := results_ok har hw hF.A (by unfold resOk; rw [hF.opn]; rfl)
          have hww := results_same fo a.frame.tmps w v' w2 q1
          subst hww
          have hv' : v' = .bool true := by
            have q4' : VRel ι2 (if h : vs.size = 1 then vs[0] else .tuple vs) v' := q4
            rw [hv] at q4'
            cases q4'
            rfl
          subst hv'
          have hev : ∀ e ∈ (results fo a.frame.tmps).events P w2 #[], EvOk ι H w2 e := by
            obtain ⟨ι3, vs3, w3, e3, x3, r3, q3', v3, z3⟩ := results_sim (P := P) (fn := fo) hF.A (by unfold resOk; rw [hF.opn]; rfl) H vs H3 har w2 hw
            have hw3 : w3 = w2 := by
              have := q1
              rw [results_eq, e3] at this
              simp only [Result.andThen_ok] at this
              have h2 : (Result.ok (if h : vs3.size = 1 then vs3[0] else .tuple vs3) w3 : Result Value) = .ok (.bool true) w2 := this
              simp only [Result.ok.injEq] at h2
              exact h2.2
            subst hw3
            intro e he
            refine v3 e ?_
            have e4 : (results fo a.frame.tmps).events P w3 #[] = (resA fo fun t => a.frame.tmps.getD t undef).events P w3 #[] := by
              rw [show results fo a.frame.tmps = (resA fo (fun t => a.frame.tmps.getD t undef) >>= fun vs => Pure.pure (if h : vs.size = 1 then vs[0] else .tuple vs)) from rfl, Sem.events_bind, e3]
              rfl
            rw [← e4]; exact he
          have hmd := hF.mode
          rw [hm] at hmd
          have hM : a.frame.mode = .returning := by
            cases hM : a.frame.mode with
            | returning => rfl
            | _ => rw [hM] at hmd; exact hmd.elim
          have hds := hF.defers
          rw [hd] at hds
          have hD : a.frame.defers = [] := by
            cases hD : a.frame.defers with
            | nil => rfl
            | cons D Ds => rw [hD] at hds; exact hds.elim
          have hR : a.callers = [] := by
            have hcal := hg.callers
            cases hR : a.callers with
            | nil => rfl
            | cons q Q => rw [hR] at hcal; exact hcal.elim
          have hkind := hF.kind
          have hdf' : f.dfr = false := by simpa using hdf
          rw [hdf', cond_false] at hkind
          have hfn : P.funcs[a.frame.fn]? = some fo := by rw [hF.fn]; exact h1
          have hin' : P.inits.idxOf? a.frame.fn = none := by rw [hF.fn]; simpa using hin
          refine ⟨seen P a.frame.fn ((results fo a.frame.tmps).events P w2 #[]) ++ #[], ?_, fun e he => ?_⟩
          · rw [stepG_unw hg.dying (by rw [hM]; simp)]
            simp [unwind, hD, hM, hfn, q1, hR, doReturn, hkind, hin', GStep.after]
          · rw [Array.append_empty] at he
            exact hev e (mem_seen he)
      · simp at hres
    · simp at h
  · simp at h
theorem evL_of {ι : Inj} {H : Heap} {w : World} {e : Event} {B : Nat} (h : EvOk ι H w e) (hB : w.heap.size ≤ B) : EvL (fun _ => False) B e := by
  obtain ⟨loc, wr, sy⟩ := e
  cases loc with
  | cell a =>
    obtain ⟨h1, _⟩ := h
    refine ⟨fun _ _ z => z.elim, by simp, by simp, ?_⟩
    cases sy <;> cases wr <;> exact Nat.lt_of_lt_of_le h1 hB
  | obj r =>
    have h1 : r < w.heap.size := h
    refine ⟨fun _ _ z => z.elim, by simp, by simp, ?_⟩
    cases sy <;> cases wr <;> first | exact Nat.lt_of_lt_of_le h1 hB | trivial
  | _ => exact h.elim
/-- THE RUN, to its end. -/
theorem played (hE : @EnvOk noMarks P ft) {l : List Mv} {g : AG} {H : Heap} {m : Machine} {T : Trace} (h : doneS P ft M (plays P ft M l (.alone g H)) = true) (hs : Alone P M δ Wi ιi g H m T) :
    ∃ N last o w' t', runNT P (N + 1) m T = (.ended o w', t') ∧ runN P N m = .next last ∧ step P last = .ended o w' ∧ Go.Conc.Good P (fun v w' => v = .bool true ∧ ∃ ι', Ext P ιi Wi ι' w') last o w' t' := by
  cases hp : plays P ft M l (.alone g H) with
  | none => rw [hp] at h; simp [doneS] at h
  | some s' =>
    rw [hp] at h
    cases s' with
    | held ns Cs b g H og ol osh => simp [doneS] at h
    | alone g' H' =>
      simp only [doneS, Bool.and_eq_true] at h
      obtain ⟨hb, h⟩ := h
      have hb := Nat.le_of_ble_eq_true hb
      obtain ⟨N1, m1, T1, r1, q1⟩ := plays_ok hE hp (s := .alone g H) hs
      obtain ⟨ι, gs, w, sl, q, a, X⟩ := q1
      have hB : w.heap.size ≤ M + δ := by have := X.size; omega
      have hG : Goes P true AtRel (fun _ _ _ => False) (AtEnd P (fun _ => False) (M + δ) (fun v w' => v = .bool true ∧ ∃ ι', Ext P ιi Wi ι' w')) 0 a w := by
        rintro w₁ ⟨d, rfl⟩
        obtain ⟨es, e1, e2⟩ := done_ok hE h X.grel (X.rel.draw d)
        exact ⟨X.grel.status, _, es, e1, fun e he => evL_of (e2 e he) hB, rfl, ι, X.ext.trans (Ext.draw ι w d)⟩
      obtain ⟨N2, last, o, w', t', k1, k2, k3, k4⟩ := beside_ends (P := P) (D := fun _ _ _ => False) (sl := sl) (fun _ _ _ z => z.elim) X.at_ X.leave X.past hG
      rw [X.mach] at r1
      refine ⟨N1 + N2, last, o, w', t', ?_, ?_, k3, k4⟩
      · rw [Nat.add_assoc, runNT_add, r1]; exact k1
      · rw [runN_add, ← runNT_fst P _ _ T, r1]; exact k2
end
end Go.Ev
