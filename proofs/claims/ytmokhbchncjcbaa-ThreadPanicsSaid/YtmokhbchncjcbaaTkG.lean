/-
  Where a goroutine stops: at a receive, a select of receives, a send, a close, a go statement. Conditions: EnvOk; no code stands for other code; zero values hold no address.
-/
import Derived.Test.YtmokhbchncjcbaaTkF
namespace Go.Ev
open Go.Conc
set_option linter.unusedSectionVars false
variable [Syms] {P : Program} [NoFloat P] {ι : Inj} {Hs : Heap} {B : Nat} {ft : Nat → Option Func} {main : Bool}

/-- The channel that a small value names. -/
def chanN : Value → Option Nat
  | .complex .f32 n 0 => some n
  | _ => none
/-- The zero value that a receive on a closed channel hands on: fixed. -/
def zeroE (P : Program) (t : TypeId) : Option Value := match (P.info? t).bind (·.zero) with
  | some z => cond (ground z) (some z) none
  | none => none
theorem zeroE_ok {t : TypeId} {z : Value} (h : zeroE P t = some z) : (P.info? t).bind (·.zero) = some z ∧ ground z = true := by
  unfold zeroE at h
  split at h
  · rename_i z' hz
    cases hg : ground z' with
    | false => rw [hg] at h; simp at h
    | true =>
      rw [hg] at h
      simp only [cond_true, Option.some.injEq] at h
      subst h
      exact ⟨hz, hg⟩
  · simp at h
def caseA (P : Program) (g : Nat → Value) (s : SelectCase) : Option (Nat × Value) := match s.send with
  | some _ => none
  | none => (chanN (opv g s.chan)).bind fun n => (zeroE P s.elem).map fun z => (n, z)
/-- The receives that an operation waits for. -/
def commA (P : Program) (g : Nat → Value) (o : Oper) : Option (List (Nat × Value) × CommShape) := match o.op with
  | .recv t x ok => match P.underlying t with
    | some (.chan _ elem) => (chanN (opv g x)).bind fun n => (zeroE P elem).map fun z => ([(n, z)], .recv ok)
    | _ => none
  | .select cs true => (cs.toList.mapM (caseA P g)).map fun l => (l, .select)
  | _ => none
/-- Where a name's channel lies. -/
def chanAt (ι : Inj) (n : Nat) : Nat := match ι n with
  | some i => i.blk
  | none => 0
def casesAt (ι : Inj) (l : List (Nat × Value)) : List CommCase := l.map fun p => rcase (chanAt ι p.1) p.2
theorem chanN_ok {v v' : Value} {n : Nat} (h : chanN v = some n) (hv : VRel ι v v') : v' = .chan (some (chanAt ι n)) := by
  unfold chanN at h
  split at h
  · simp only [Option.some.injEq] at h
    subst h
    cases hv with
    | chn h1 _ => simp [chanAt, h1]
  · simp at h
noncomputable def noHeap : Heap := { base := 0, next := 0, m := .leaf, hole := [] }
theorem run_zero {t : TypeId} {z : Value} (h : zeroE P t = some z) (w : World) (es : Array Event) : (Go.zeroValue t).run P w = .ok z w ∧ (Go.zeroValue t).events P w es = es := by
  have h := (zeroE_ok h).1
  cases hi : P.info? t with
  | none => rw [hi] at h; simp at h
  | some i =>
    rw [hi] at h
    have hz : i.zero = some z := h
    have h1 : arun P (Go.zeroValue t) noHeap = some (z, noHeap) := by
      unfold Go.zeroValue
      rw [arun_bind, arun_typeInfo hi]
      simp only [Option.bind_some, hz]
      rfl
    obtain ⟨_, h2⟩ := Static.zeroValue (P := P) t _ _ _ h1
    exact ⟨(h2 w).1, (h2 w).2 es⟩
theorem run_cases {ρ : Operand → Value} {g : Nat → Value} : ∀ (cs : List SelectCase) (l : List (Nat × Value)), cs.mapM (caseA P g) = some l → (∀ s ∈ cs, VRel ι (opv g s.chan) (ρ s.chan)) → ∀ (w : World) (es : Array Event),
    (cs.mapM fun s => do Pure.pure ({ chan := ρ s.chan, send := s.send.map ρ, zero := ← Go.zeroValue s.elem } : CommCase) : Sem (List CommCase)).run P w = .ok (casesAt ι l) w ∧
    (cs.mapM fun s => do Pure.pure ({ chan := ρ s.chan, send := s.send.map ρ, zero := ← Go.zeroValue s.elem } : CommCase) : Sem (List CommCase)).events P w es = es
  | [], l, h, _, w, es => by
    simp only [List.mapM_nil, Option.pure_def, Option.some.injEq] at h
    subst h
    exact ⟨rfl, rfl⟩
  | s :: cs, l, h, hv, w, es => by
    rw [List.mapM_cons] at h
    cases h1 : caseA P g s with
    | none => rw [h1] at h; simp at h
    | some p =>
      rw [h1] at h
      cases h2 : cs.mapM (caseA P g) with
      | none => rw [h2] at h; simp at h
      | some l2 =>
        rw [h2] at h
        simp only [Option.bind_eq_bind, Option.bind_some, Option.pure_def, Option.some.injEq] at h
        subst h
        unfold caseA at h1
        split at h1
        · simp at h1
        · rename_i hs
          cases h3 : chanN (opv g s.chan) with
          | none => rw [h3] at h1; simp at h1
          | some n =>
            rw [h3] at h1
            cases h4 : zeroE P s.elem with
            | none => rw [h4] at h1; simp at h1
            | some z =>
              rw [h4] at h1
              simp only [Option.bind_some, Option.map_some, Option.some.injEq] at h1
              subst h1
              have e1 := chanN_ok h3 (hv s (by simp))
              obtain ⟨i1, i2⟩ := run_cases cs l2 h2 (fun s hs => hv s (by simp [hs])) w es
              obtain ⟨z1, z2⟩ := run_zero h4 w es
              rw [List.mapM_cons]
              have e2 : (casesAt ι ((n, z) :: l2)) = ({ chan := ρ s.chan, send := s.send.map ρ, zero := z } : CommCase) :: casesAt ι l2 := by
                simp [casesAt, rcase, e1, hs]
              rw [e2]
              refine ⟨?_, ?_⟩
              · simp only [bind_assoc, pure_bind, Sem.run_bind, z1, Result.andThen_ok, i1]
                rfl
              · simp only [bind_assoc, pure_bind, Sem.events_bind, z1, z2, Result.evThen_ok, i1, i2]
                rfl
theorem run_commA {ρ : Operand → Value} {g : Nat → Value} {o : Oper} {l : List (Nat × Value)} {sh : CommShape} (h : commA P g o = some (l, sh)) (hv : ∀ x ∈ o.op.operands, VRel ι (opv g x) (ρ x)) (w : World) :
    (execOp ρ o).run P w = .ok (.comm (casesAt ι l).toArray true sh) w ∧ (execOp ρ o).events P w #[] = #[] := by
  unfold commA at h
  split at h
  · rename_i t x ok ho
    split at h
    · rename_i elem ht
      cases h3 : chanN (opv g x) with
      | none => rw [h3] at h; simp at h
      | some n =>
        rw [h3] at h
        rename_i dir
        cases h4 : zeroE P elem with
        | none => rw [h4] at h; simp at h
        | some z =>
          rw [h4] at h
          simp only [Option.bind_some, Option.map_some, Option.some.injEq, Prod.mk.injEq] at h
          obtain ⟨rfl, rfl⟩ := h
          have e1 := chanN_ok h3 (hv x (by rw [ho]; simp [Op.operands]))
          obtain ⟨z1, z2⟩ := run_zero h4 w #[]
          obtain ⟨_, u⟩ := Static.underlying (P := P) t _ _ _ (arun_underlying ht noHeap)
          unfold execOp
          rw [ho]
          dsimp only
          rw [Sem.run_bind, Sem.events_bind, (u w).1, (u w).2]
          simp only [Result.andThen_ok, Result.evThen_ok, Sem.run_bind, Sem.events_bind, z1, z2]
          rw [e1]
          exact ⟨rfl, rfl⟩
    · simp at h
  · rename_i cs ho
    cases h1 : cs.toList.mapM (caseA P g) with
    | none => rw [h1] at h; simp at h
    | some l2 =>
      rw [h1] at h
      simp only [Option.map_some, Option.some.injEq, Prod.mk.injEq] at h
      obtain ⟨rfl, rfl⟩ := h
      have e2 : execOp ρ o = (do
          let cases ← cs.mapM fun s => do
            Pure.pure ({ chan := ρ s.chan, send := s.send.map ρ, zero := ← Go.zeroValue s.elem } : CommCase)
          Pure.pure (.comm cases true .select)) := by unfold execOp; rw [ho]
      obtain ⟨r1, r2⟩ := run_cases (ι := ι) (ρ := ρ) cs.toList l2 h1 (fun s hs => hv s.chan (by
        rw [ho]
        simp only [Op.operands, Array.mem_flatMap]
        exact ⟨s, by simpa using hs, by simp⟩)) w #[]
      rw [e2, Array.mapM_eq_mapM_toList]
      refine ⟨?_, ?_⟩
      · simp only [Sem.run_bind, Sem.run_map, r1]
        rfl
      · simp only [Sem.events_bind, Sem.run_map, Sem.events_map, r1, r2]
        rfl
  · simp at h
theorem apply_comm {fr : Frame} {cs : List Frame} {s : Sem Next} {w w' : World} {l : Array CommCase} {b : Bool} {sh : CommShape} (hk : (fr.kind == CallKind.early) = false) (hr : s.run P w = .ok (.comm l b sh) w') : stepG.apply P true fr cs none s w = .comm (goG fr cs) l b sh w' (opEvs P fr s w) := by
  simp [stepG.apply, hr, hk, GStep.after, goG, opEvs]
/-- It stands at a communication of receives: by names. -/
noncomputable def standsA (P : Program) (g : AG) : Option (List (Nat × Value) × CommShape) := match g.1.mode with
  | .run => match g.1.todo with
    | .inRegion ops (i :: _) :: _ => match ops[i]? with
      | some o => cond (Region.wanted o (yieldA ops g.1.A)) (commA P g.1.A.get o) none
      | none => none
    | _ => none
  | _ => none
/-- Its seat. -/
def seatAt (P : Program) (ι : Inj) (g : AG) (l : List (Nat × Value)) (sh : CommShape) : Seat := { cases := (casesAt ι l).toArray, shape := sh, home := GRel P ι g }
theorem opsRel {f : AFrame} {fr : Frame} (hF : FrmRel P ι f fr) {H : Heap} {w : World} (hw : Rel P ι H w) {ops : Array Oper} {i : Nat} {r : List Nat} {k : List Item} {o : Oper} (ht : f.todo = .inRegion ops (i :: r) :: k) (ho : ops[i]? = some o) : ∀ x ∈ o.op.operands, VRel ι (opv f.A.get x) (fr.eval x) := fun x hx => hF.opv hw (by
  have hfine := hF.fine
  simp only [ht] at hfine
  have h1 := (fine_tail hfine).1
  simp only [fineI] at h1
  rw [Array.all_eq_true_iff_forall_mem] at h1
  have hfo := h1 o (Array.mem_of_getElem? ho)
  unfold fineO at hfo
  rw [Array.all_eq_true_iff_forall_mem] at hfo
  exact hfo x hx)
/-- AT ITS SEAT. -/
theorem atIn_ok {g : AG} {l : List (Nat × Value)} {sh : CommShape} (h : standsA P g = some (l, sh)) {a : Goroutine} (hg : GRel P ι g a) : AtIn P main (Rel P ι Hs) (StillOf ι Hs) B (seatAt P ι g l sh) a (goG a.frame a.callers) := by
  obtain ⟨f, cs⟩ := g
  unfold standsA at h
  split at h
  · rename_i hm
    split at h
    · rename_i ops i r k ht
      split at h
      · rename_i o ho
        cases hwt : Region.wanted o (yieldA ops f.A) with
        | false => simp only [hwt, cond_false] at h; simp at h
        | true =>
          simp only [hwt, cond_true] at h
          have hF := hg.frame
          refine ⟨hg.status, rfl, rfl, hg.dying, ⟨rfl, rfl, hF, hg.callers⟩, #[], fun e he => by simp at he, fun w hw => ?_⟩
          obtain ⟨e1, e2⟩ := run_commA (ι := ι) (ρ := a.frame.eval) h (opsRel hF hw ht ho) w
          rw [step_oper hg hm ht ho hwt, apply_comm (notEarly hF) e1]
          have e3 : opEvs P a.frame (execOp a.frame.eval o) w = #[] := by
            unfold opEvs
            rw [e2]
            rfl
          rw [e3]
          rfl
      · simp at h
    · simp at h
  · simp at h
theorem seatAt_wf {g : AG} {l : List (Nat × Value)} {sh : CommShape} (h : (l.map fun p => chanAt ι p.1).Nodup) : (seatAt P ι g l sh).Wf := by
  have key : ∀ (k c : Nat) (z : Value), (seatAt P ι g l sh).cases[k]? = some (rcase c z) → (l.map fun p => chanAt ι p.1)[k]? = some c := by
    intro k c z hk
    simp only [seatAt, casesAt, List.getElem?_toArray, List.getElem?_map, Option.map_eq_some_iff] at hk ⊢
    obtain ⟨p, hp, e⟩ := hk
    simp only [rcase, CommCase.mk.injEq, Value.chan.injEq, Option.some.injEq] at e
    exact ⟨p, hp, e.1⟩
  refine ⟨fun cc hcc => ?_, fun k m c z z' h1 h2 => ?_⟩
  · simp only [seatAt, casesAt, List.mem_toArray, List.mem_map] at hcc
    obtain ⟨p, _, rfl⟩ := hcc
    exact ⟨_, _, rfl⟩
  · have a1 := key k c z h1
    have a2 := key m c z' h2
    obtain ⟨b1, c1⟩ := List.getElem?_eq_some_iff.1 a1
    obtain ⟨b2, c2⟩ := List.getElem?_eq_some_iff.1 a2
    have hp := List.pairwise_iff_getElem.1 h
    rcases Nat.lt_trichotomy k m with hlt | rfl | hlt
    · exact absurd (c1.trans c2.symm) (hp k m b1 b2 hlt)
    · rfl
    · exact absurd (c2.trans c1.symm) (hp m k b2 b1 hlt)
theorem seatAt_has {g : AG} {l : List (Nat × Value)} {sh : CommShape} {c : Nat} (h : (seatAt P ι g l sh).has c) : ∃ p ∈ l, chanAt ι p.1 = c := by
  obtain ⟨k, z, hk⟩ := h
  simp only [seatAt, casesAt, List.getElem?_toArray, List.getElem?_map, Option.map_eq_some_iff] at hk
  obtain ⟨p, hp, e⟩ := hk
  simp only [rcase, CommCase.mk.injEq, Value.chan.injEq, Option.some.injEq] at e
  exact ⟨p, List.mem_of_getElem? hp, e.1⟩
/-! ### What a receive hands on -/
/-- What the communication yields. -/
def commV (sh : CommShape) (l : List (Nat × Value)) (k : Int) (v : Value) (ok : Bool) : Value := match sh with
  | .send => undf
  | .recv false => v
  | .recv true => .tuple #[v, .bool ok]
  | .select => .tuple (#[goInt k, .bool ok] ++ (l.zipIdx.map fun p => if (p.2 : Int) = k then v else p.1.2).toArray)
theorem recvs_at (k : Int) (v : Value) (l : List (Nat × Value)) : (((casesAt ι l).toArray.zipIdx.filter (·.1.send.isNone)).map fun (c, j) => if (j : Int) = k then v else c.zero) = (l.zipIdx.map fun p => if (p.2 : Int) = k then v else p.1.2).toArray := by
  have h1 : (casesAt ι l).toArray.zipIdx.filter (·.1.send.isNone) = (casesAt ι l).toArray.zipIdx := by
    rw [Array.filter_eq_self]
    intro p hp
    have : p.1 ∈ (casesAt ι l).toArray := by
      obtain ⟨c, j⟩ := p
      exact (Array.mem_zipIdx hp).2.2 ▸ Array.getElem_mem _
    simp only [casesAt, List.mem_toArray, List.mem_map] at this
    obtain ⟨q, _, e⟩ := this
    rw [← e]
    rfl
  rw [h1]
  apply Array.ext'
  simp [casesAt, List.zipIdx_map, rcase]
theorem commV_ok {sh : CommShape} {l : List (Nat × Value)} (hl : ∀ p ∈ l, ground p.2 = true) {k : Int} {v v' : Value} (hv : VRel ι v v') (ok : Bool) {ι0 : Inj} : VRel ι (commV sh l k v ok) (commResult (casesAt ι0 l).toArray sh k v' ok) := by
  cases sh with
  | send => exact VRel.undf
  | recv b =>
    cases b with
    | false => exact hv
    | true =>
      refine .tuple rfl fun j hj => ?_
      match j with
      | 0 => exact hv
      | 1 => exact .bool ok
      | j + 2 => simp at hj; omega
  | select =>
    have e : commResult (casesAt ι0 l).toArray .select k v' ok = .tuple (#[goInt k, .bool ok] ++ (l.zipIdx.map fun p => if (p.2 : Int) = k then v' else p.1.2).toArray) := by
      unfold commResult
      dsimp only
      rw [← recvs_at]
    rw [e]
    have a1 : ARel ι #[goInt k, .bool ok] #[goInt k, .bool ok] := ⟨rfl, fun j hj => by
      match j with
      | 0 => exact .int _ _
      | 1 => exact .bool ok
      | j + 2 => simp at hj; omega⟩
    have a2 : ARel ι (l.zipIdx.map fun p => if (p.2 : Int) = k then v else p.1.2).toArray (l.zipIdx.map fun p => if (p.2 : Int) = k then v' else p.1.2).toArray := by
      refine ⟨by simp, fun j hj => ?_⟩
      have hj' : j < l.length := by simpa using hj
      simp only [Array.getD_eq_getD_getElem?, List.getElem?_toArray, List.getElem?_map, List.getElem?_zipIdx, List.getElem?_eq_getElem hj', Option.map_some, Option.getD_some]
      split
      · exact hv
      · exact ground_rel (hl _ (List.getElem_mem hj'))
    have := a1.append a2
    exact .tuple this.1 this.2
/-- IT GOES ON with what it was handed. -/
theorem served_ok {f f' : AFrame} {cs : List AFrame} {a₂ : Goroutine} (hg : GRel P ι (f, cs) a₂) {x x' : Value} (hx : VRel ι x x') (hf : finA f x = some f') : GRel P ι (f', cs) (Go.Conc.served a₂ x') :=
  ⟨rfl, hg.dying, finA_ok hf hg.frame hx, hg.callers⟩
/-! ### Sends; go statements -/
/-- The operation at which it stands. -/
noncomputable def atOp (g : AG) : Option Oper := match g.1.mode with
  | .run => match g.1.todo with
    | .inRegion ops (i :: _) :: _ => match ops[i]? with
      | some o => cond (Region.wanted o (yieldA ops g.1.A)) (some o) none
      | none => none
    | _ => none
  | _ => none
theorem atOp_ok {f : AFrame} {cs : List AFrame} {o : Oper} (h : atOp (f, cs) = some o) : f.mode = .run ∧ ∃ ops i r k, f.todo = .inRegion ops (i :: r) :: k ∧ ops[i]? = some o ∧ Region.wanted o (yieldA ops f.A) = true := by
  unfold atOp at h
  split at h
  · rename_i hm
    split at h
    · rename_i ops i r k ht
      split at h
      · rename_i o' ho
        cases hwt : Region.wanted o' (yieldA ops f.A) with
        | false => simp only [hwt, cond_false] at h; simp at h
        | true =>
          simp only [hwt, cond_true, Option.some.injEq] at h
          subst h
          exact ⟨hm, ops, i, r, k, ht, ho, hwt⟩
      · simp at h
    · simp at h
  · simp at h
/-- On which channel it sends, and what. -/
noncomputable def sendsA (g : AG) : Option (Nat × Value) := (atOp g).bind fun o => match o.op with
  | .send ch x => (chanN (opv g.1.A.get ch)).map fun n => (n, opv g.1.A.get x)
  | _ => none
theorem send_ok {g : AG} {n : Nat} {v : Value} (h : sendsA g = some (n, v)) {a : Goroutine} (hg : GRel P ι g a) {H : Heap} {w : World} (hw : Rel P ι H w) :
    ∃ v', VRel ι v v' ∧ ∀ d, stepG P main a (w.at d) = .comm (goG a.frame a.callers) #[scase (chanAt ι n) v' (.tuple #[])] true .send (w.at d) #[] := by
  obtain ⟨f, cs⟩ := g
  unfold sendsA at h
  cases h1 : atOp (f, cs) with
  | none => rw [h1] at h; simp at h
  | some o =>
    rw [h1] at h
    simp only [Option.bind_some] at h
    obtain ⟨hm, ops, i, r, k, ht, ho, hwt⟩ := atOp_ok h1
    have hF := hg.frame
    have hops := opsRel hF hw ht ho
    split at h
    · rename_i ch x hop
      cases h3 : chanN (opv f.A.get ch) with
      | none => rw [h3] at h; simp at h
      | some m =>
        rw [h3] at h
        simp only [Option.map_some, Option.some.injEq, Prod.mk.injEq] at h
        obtain ⟨rfl, rfl⟩ := h
        have e1 := chanN_ok h3 (hops ch (by rw [hop]; simp [Op.operands]))
        have hx := hops x (by rw [hop]; simp [Op.operands])
        have e : execOp a.frame.eval o = Pure.pure (.comm #[{ chan := a.frame.eval ch, send := some (a.frame.eval x), zero := .tuple #[] }] true .send) := by unfold execOp; rw [hop]
        refine ⟨_, hx, fun d => ?_⟩
        rw [step_oper hg hm ht ho hwt, e, e1]
        rw [apply_comm (notEarly hF) (w' := w.at d) (l := #[scase (chanAt ι m) (a.frame.eval x) (.tuple #[])]) (b := true) (sh := .send) rfl]
        rfl
    · simp at h
/-- The frame at the bottom. -/
noncomputable def bottomA (P : Program) (d : ADef) : AFrame := { fn := P.funcs.size, todo := [], A := { size := 0, m := .leaf }, defers := [d], mode := .leaving, dfr := false }
/-- Who goes on behind a go statement, and who is hired. -/
noncomputable def spawnsA (P : Program) (g : AG) : Option (AG × AG) := (atOp g).bind fun o => match o.op with
  | .go c => match c.callee with
    | .value x => match opv g.1.A.get x with
      | .func (.func k) first cap => (finA g.1 undf).map fun f' => ((f', g.2), (bottomA P ⟨k, first ++ c.args.map (opv g.1.A.get) ++ cap⟩, []))
      | _ => none
    | _ => none
  | _ => none
theorem apply_spawn {fr : Frame} {cs : List Frame} {s : Sem Next} {w w' : World} {f : Fn} {vs as : Array Value} (hk : (fr.kind == CallKind.early) = false) (hr : s.run P w = .ok (.spawn { target := .fn f vs, args := as }) w') :
    stepG.apply P true fr cs none s w = .spawn (goG (fr.finish undef) cs) (goG { (default : Frame) with fn := P.funcs.size, defers := [{ target := .fn f vs, args := as }], mode := .panicking [goexitEntry] } []) w' (opEvs P fr s w) := by
  simp [stepG.apply, hr, hk, GStep.after, goG, opEvs]
theorem bottom_ok {d : ADef} {D : Deferred} (hd : DRel ι d D) : GRel P ι (bottomA P d, []) (goG { (default : Frame) with fn := P.funcs.size, defers := [D], mode := .panicking [goexitEntry] } []) := by
  refine ⟨rfl, rfl, ?_, trivial⟩
  refine ⟨rfl, rfl, rfl, rfl, rfl, ⟨rfl, fun t => .inr ?_⟩, ?_, rfl, rfl⟩
  · have e1 : (bottomA P d).A.get t = undf := rfl
    have e2 : (({ (default : Frame) with fn := P.funcs.size, defers := [D], mode := .panicking [goexitEntry] } : Frame).tmps).getD t undf = undf := rfl
    rw [e1]
    exact e2 ▸ VRel.undf
  · exact ⟨hd, trivial⟩
theorem spawn_ok {g g' gc : AG} (h : spawnsA P g = some (g', gc)) {a : Goroutine} (hg : GRel P ι g a) {H : Heap} {w : World} (hw : Rel P ι H w) :
    ∃ a' ac, GRel P ι g' a' ∧ GRel P ι gc ac ∧ ∀ d, stepG P main a (w.at d) = .spawn a' ac (w.at d) #[] := by
  obtain ⟨f, cs⟩ := g
  unfold spawnsA at h
  cases h1 : atOp (f, cs) with
  | none => rw [h1] at h; simp at h
  | some o =>
    rw [h1] at h
    simp only [Option.bind_some] at h
    obtain ⟨hm, ops, i, r, k, ht, ho, hwt⟩ := atOp_ok h1
    have hF := hg.frame
    have hops := opsRel hF hw ht ho
    split at h
    · rename_i c hop
      split at h
      · rename_i x hc
        split at h
        · rename_i k' first cap hx
          cases hf : finA f undf with
          | none => rw [hf] at h; simp at h
          | some f' =>
            rw [hf] at h
            simp only [Option.map_some, Option.some.injEq, Prod.mk.injEq] at h
            obtain ⟨rfl, rfl⟩ := h
            have hx' := hops x (by rw [hop]; simp [Op.operands, Call.operands, hc])
            rw [hx] at hx'
            have hargs : ARel ι (c.args.map (opv f.A.get)) (c.args.map a.frame.eval) := argsRel fun y hy => hops y (by rw [hop]; simp [Op.operands, Call.operands, hy])
            revert hx'
            generalize hz : a.frame.eval x = z
            intro hx'
            cases hx' with
            | func fn h1 h2 h3 h4 =>
              rename_i ys vs
              have e : execOp a.frame.eval o = Pure.pure (.spawn { target := .fn (.func k') vs, args := ys ++ c.args.map a.frame.eval }) := by
                unfold execOp
                rw [hop]
                simp only [resolve, hc, hz, Deferred.ofValue]
                rfl
              have hd : DRel ι ⟨k', first ++ c.args.map (opv f.A.get) ++ cap⟩ { target := .fn (.func k') vs, args := ys ++ c.args.map a.frame.eval } := ⟨_, _, rfl, ((show ARel ι first ys from ⟨h1, h2⟩).append hargs).append ⟨h3, h4⟩⟩
              refine ⟨goG (a.frame.finish undef) a.callers, _, ⟨rfl, rfl, finA_ok hf hF VRel.undf, hg.callers⟩, bottom_ok hd, fun d => ?_⟩
              rw [step_oper hg hm ht ho hwt, e]
              exact apply_spawn (notEarly hF) rfl
        · simp at h
      · simp at h
    · simp at h
end Go.Ev
