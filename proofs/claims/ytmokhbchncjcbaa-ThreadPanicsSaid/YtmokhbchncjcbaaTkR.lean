/-
  A play with operations over numbers that are not known: what each is to answer is noted, and to be shown apart. Conditions: EnvOk; no code stands for other code; what is noted holds.
-/
import Derived.Test.YtmokhbchncjcbaaTkQ
namespace Go.Ev
open Go.Conc
set_option linter.unusedSectionVars false
/-- What an operation is to answer at two values. -/
structure Ob where
  b : BinOp
  T : TypeId
  x : Operand
  y : Operand
  U : TypeId
  vx : Value
  vy : Value
  r : Value
def ObOk (P : Program) (ob : Ob) : Prop := ∀ (ρ : Operand → Value) (o : Oper), o.op = .binOp ob.b ob.T ob.x ob.y ob.U → ρ ob.x = ob.vx → ρ ob.y = ob.vy → ∀ w, (execOp ρ o).run P w = .ok (.value ob.r) w ∧ (execOp ρ o).events P w #[] = #[]
/-- Whole numbers, truths, and whole numbers in interfaces. -/
def numQ : Value → Bool
  | .int .. | .bool _ | .iface _ (.int ..) => true
  | _ => false
section
variable [Syms] {P : Program} [NoFloat P] {ft : Nat → Option Func}
theorem numQ_eq {ι : Inj} {v v' : Value} (h : numQ v = true) (r : VRel ι v v') : v' = v := by
  cases r with
  | int k n => rfl
  | bool b => rfl
  | iface t hv =>
    cases hv <;> first | rfl | simp [numQ] at h
  | _ => simp [numQ] at h
theorem numQ_rel {ι : Inj} {v : Value} (h : numQ v = true) : VRel ι v v := by
  unfold numQ at h
  split at h
  · exact .int _ _
  · exact .bool _
  · exact .iface _ (.int _ _)
  · simp at h
noncomputable def binS (M : Nat) (r : Value) : PS → Option (PS × Ob)
  | .alone g H => match atOp g with
    | some o => match o.op with
      | .binOp b T x y U => cond (Nat.ble H.next M && numQ r && numQ (opv g.1.A.get x) && numQ (opv g.1.A.get y)) (match finA g.1 r with
        | some f' => some (.alone (f', g.2) H, ⟨b, T, x, y, U, opv g.1.A.get x, opv g.1.A.get y, r⟩)
        | none => none) none
      | _ => none
    | none => none
  | _ => none
theorem moves_bin {M : Nat} {f f' : AFrame} {cs : List AFrame} {H : Heap} {o : Oper} {b : BinOp} {T U : TypeId} {x y : Operand} {r : Value} (hM : H.next ≤ M) (ha : atOp (f, cs) = some o) (hop : o.op = .binOp b T x y U)
    (hr : numQ r = true) (hx : numQ (opv f.A.get x) = true) (hy : numQ (opv f.A.get y) = true) (hf : finA f r = some f') (hob : ObOk P ⟨b, T, x, y, U, opv f.A.get x, opv f.A.get y, r⟩) : Moves P M (f, cs) H (f', cs) H := by
  intro main
  refine ⟨1, fun Inv D hD _ Stop ι a w hw hg hi hS => ?_⟩
  obtain ⟨hm, ops, i, rr, k, ht, ho, hwt⟩ := atOp_ok ha
  refine Goes.step hg.status ?_
  rintro w₁ ⟨d, rfl⟩
  have hF := hg.frame
  have hw1 : Rel P ι H (w.at d) := hw.draw d
  have hops := opsRel hF hw1 ht ho
  have e1 := numQ_eq hx (hops x (by rw [hop]; simp [Op.operands]))
  have e2 := numQ_eq hy (hops y (by rw [hop]; simp [Op.operands]))
  obtain ⟨q1, q2⟩ := hob a.frame.eval o hop e1 e2 (w.at d)
  have e3 : opEvs P a.frame (execOp a.frame.eval o) (w.at d) = #[] := by
    unfold opEvs
    rw [q2]
    rfl
  rw [step_oper hg hm ht ho hwt, apply_value (notEarly hF) q1, e3, goes_go]
  obtain ⟨s1, s2⟩ := hD.step ι H (w.at d) ι H (w.at d) #[] hw1 (Ext.refl _ _) hw1 (fun e he => by simp at he) (.refl _) rfl hM (hD.draw _ _ _ d hi)
  refine ⟨s1, ?_⟩
  rintro w₂ ⟨d', rfl⟩
  exact hS ι _ _ (Sub.refl ι) (hw1.draw d') ⟨rfl, rfl, finA_ok hf hF (numQ_rel hr), hg.callers⟩ (hD.draw _ _ _ d' s2)
inductive Mv2 where
  | mv (m : Mv)
  | bin (r : Value)
noncomputable def plays2 (P : Program) [NoFloat P] (ft : Nat → Option Func) (M : Nat) : List Mv2 → PS → Option (PS × List Ob)
  | [], s => some (s, [])
  | .mv m :: l, s => match play1 P ft M m s with
    | some s' => plays2 P ft M l s'
    | none => none
  | .bin r :: l, s => match binS M r s with
    | some (s', ob) => match plays2 P ft M l s' with
      | some (s2, obs) => some (s2, ob :: obs)
      | none => none
    | none => none
variable {M δ : Nat} {Wi : World} {ιi : Inj}
theorem plays2_ok (hE : @EnvOk noMarks P ft) : ∀ {l : List Mv2} {s s' : PS} {obs : List Ob} {m : Machine} {T : Trace}, plays2 P ft M l s = some (s', obs) → (∀ ob ∈ obs, ObOk P ob) → Sat P M δ Wi ιi s m T → ∃ N m' T', runNT P N m T = (.next m', T') ∧ Sat P M δ Wi ιi s' m' T'
  | [], s, s', obs, m, T, h, _, hs => by
    simp only [plays2, Option.some.injEq, Prod.mk.injEq] at h
    obtain ⟨rfl, rfl⟩ := h
    exact ⟨0, m, T, rfl, hs⟩
  | .mv mv :: l, s, s', obs, m, T, h, ho, hs => by
    simp only [plays2] at h
    cases h1 : play1 P ft M mv s with
    | none => rw [h1] at h; simp at h
    | some s1 =>
      rw [h1] at h
      obtain ⟨N1, m1, T1, r1, q1⟩ := play1_ok hE h1 hs
      obtain ⟨N2, m2, T2, r2, q2⟩ := plays2_ok hE h ho q1
      exact ⟨N1 + N2, m2, T2, runNT_then r1 r2, q2⟩
  | .bin r :: l, s, s', obs, m, T, h, ho, hs => by
    simp only [plays2] at h
    cases h1 : binS M r s with
    | none => rw [h1] at h; simp at h
    | some q =>
      obtain ⟨s1, ob⟩ := q
      rw [h1] at h
      dsimp only at h
      cases h2 : plays2 P ft M l s1 with
      | none => rw [h2] at h; simp at h
      | some q2 =>
        obtain ⟨s2, obs2⟩ := q2
        rw [h2] at h
        simp only [Option.some.injEq, Prod.mk.injEq] at h
        obtain ⟨rfl, rfl⟩ := h
        unfold binS at h1
        split at h1
        · rename_i g H
          obtain ⟨f, cs⟩ := g
          split at h1
          · rename_i o ha
            split at h1
            · rename_i b T x y U hop
              obtain ⟨hc, h1⟩ := cond_of h1
              simp only [Bool.and_eq_true] at hc
              obtain ⟨⟨⟨hM, hr⟩, hx⟩, hy⟩ := hc
              split at h1
              · rename_i f' hf
                simp only [Option.some.injEq, Prod.mk.injEq] at h1
                obtain ⟨rfl, rfl⟩ := h1
                obtain ⟨N1, m1, T1, r1, q1⟩ := Alone.walk (moves_bin (Nat.le_of_ble_eq_true hM) ha hop hr hx hy hf (ho _ List.mem_cons_self)) hs
                obtain ⟨N2, m2, T2, r2, q2⟩ := plays2_ok hE h2 (fun ob hb => ho ob (List.mem_cons_of_mem _ hb)) (s := .alone (f', cs) H) q1
                exact ⟨N1 + N2, m2, T2, runNT_then r1 r2, q2⟩
              · simp at h1
            · simp at h1
          · simp at h1
        · simp at h1
end
/-- What a play notes, if it comes to its end. -/
noncomputable def playOb [Syms] (P : Program) [NoFloat P] (ft : Nat → Option Func) (gs : Gs) (M : Nat) (f : FuncId) (args : Array Value) (l : List Mv2) : Option (List Ob) := match enterA ft f args false with
  | some fr => match plays2 P ft M l (.alone (fr, []) (H0g P gs)) with
    | some (s, obs) => cond (doneS P ft M (some s)) (some obs) none
    | none => none
  | none => none
theorem playedOb {P : Program} [NoFloat P] {ft : Nat → Option Func} (hE : @EnvOk noMarks P ft) {gs : Gs} {M : Nat} {f : FuncId} {args args' : Array Value} {l : List Mv2} {obs : List Ob} (W : World) (hrun : @playOb (noSyms fun b => W.heap[b]?) P _ ft gs M f args l = some obs) (hob : ∀ ob ∈ obs, ObOk P ob)
    (ha : ∀ ι, @ARel (noSyms fun b => W.heap[b]?) ι args args') (hw : GOk P gs W) :
    ∃ N last o w' t', runNT P (N + 1) (solo (G (Frame.enter P f args' .normal) []) W) #[] = (.ended o w', t') ∧ runN P N (solo (G (Frame.enter P f args' .normal) []) W) = .next last ∧ step P last = .ended o w' ∧ Go.Conc.Good P (fun v w' => v = .bool true ∧ Quiet W w') last o w' t' := by
  letI := noSyms fun b => W.heap[b]?
  unfold playOb at hrun
  cases he : enterA ft f args false with
  | none => rw [he] at hrun; simp at hrun
  | some fr =>
    rw [he] at hrun
    dsimp only at hrun
    cases hp : plays2 P ft M l (.alone (fr, []) (H0g P gs)) with
    | none => rw [hp] at hrun; simp at hrun
    | some q =>
      obtain ⟨s, obs2⟩ := q
      rw [hp] at hrun
      obtain ⟨hd, e⟩ := cond_of hrun
      obtain rfl := Option.some.inj e
      have hrel : Rel P (ι0g P gs) (H0g P gs) W := rel0g hw ⟨fun _ _ => rfl, fun _ _ h => by simp at h⟩
      have hA : Alone P M (W.heap.size - (H0g P gs).next) W (ι0g P gs) (fr, []) (H0g P gs) (solo (G (Frame.enter P f args' .normal) []) W) #[] := by
        refine ⟨ι0g P gs, #[G (Frame.enter P f args' .normal) []], W, none, fun _ => 0, G (Frame.enter P f args' .normal) [], ⟨solo_eq_crowd _ _, rfl, hrel, ⟨rfl, rfl, enterA_ok hE he (ha _), trivial⟩, ?_, Ext.refl _ _, leavers_one _ _, past_nil.mono (Nat.zero_le _)⟩⟩
        have := hrel.room
        show W.heap.size = (H0g P gs).next + (W.heap.size - (H0g P gs).next)
        have e : (H0g P gs).next = P.globals.size := rfl
        have e2 : (H0g P gs).base = P.globals.size := rfl
        omega
      obtain ⟨N1, m1, T1, r1, q1⟩ := plays2_ok hE hp hob (s := .alone (fr, []) (H0g P gs)) hA
      cases s with
      | held ns Cs b g H og ol osh => simp [doneS] at hd
      | alone g H =>
        obtain ⟨N2, last, o, w', t', h1, h2, h3, h4⟩ := played hE (l := []) (M := M) hd q1
        refine ⟨N1 + N2, last, o, w', t', ?_, ?_, h3, h4.mono fun v ⟨e, ι', x⟩ => ⟨e, x.quiet⟩⟩
        · rw [Nat.add_assoc, runNT_add, r1]; exact h1
        · rw [runN_add, ← runNT_fst P _ _ #[], r1]; exact h2
end Go.Ev
