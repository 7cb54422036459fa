/-
  The evaluator: arithmetic, comparisons, conversions, lengths; maps. No condition.
-/
import Derived.Test.YtmeppoihgfdgaaaDoorEvE
namespace Go.Ev
set_option linter.unusedSectionVars false      -- the symbols' class stands for all texts
variable [Syms] {P : Program} [NoFloat P] {ι : Inj}

theorem ground1_eq {v v' : Value} (h : ground1 v = true) (hv : VRel ι v v') : v' = v := by
  cases hv with
  | func fn h1 h2 h3 h4 =>
    simp [ground1] at h
    obtain ⟨rfl, rfl⟩ := h
    simp at h1 h3
    have e1 := Array.eq_empty_of_size_eq_zero h1.symm
    have e2 := Array.eq_empty_of_size_eq_zero h3.symm
    rw [e1, e2]
  | bool | int | string | nilPtr | nilSlice | nilMap | nilChan | nilFunc | nilIface => rfl
  | sym => simp [ground1] at h
  | inp => simp [ground1] at h
  | ownS => simp [ground1] at h
  | ownP => simp [ground1] at h
  | _ => simp [ground1] at h

theorem Static.shift (op : BinOp) (k : IntKind) (x : Int) (yk : IntKind) (y : Int) : Static P (Op.shift op k x yk y) := by
  unfold Op.shift
  split
  · exact Static.dead (Dead.runtimePanic _)
  · cases op <;> first | exact Static.pure _ | exact Static.dead (Dead.stuck _)
theorem Static.intArith (op : BinOp) (k : IntKind) (x y : Int) : Static P (Op.intArith op k x y) := by
  unfold Op.intArith
  cases op <;> first | exact Static.pure _ | exact Static.dead (Dead.stuck _)
theorem Static.intBits (op : BinOp) (k : IntKind) (x y : Int) : Static P (Op.intBits op k x y) := by
  unfold Op.intBits
  cases op <;> first | exact Static.pure _ | exact Static.dead (Dead.stuck _)
theorem Static.intCmp (op : BinOp) (x y : Int) : Static P (Op.intCmp op x y) := by
  unfold Op.intCmp
  cases op <;> first | exact Static.pure _ | exact Static.dead (Dead.stuck _)
theorem Static.intDiv (op : BinOp) (k : IntKind) (x y : Int) : Static P (Op.intDiv op k x y) := by
  unfold Op.intDiv
  split
  · exact Static.dead (Dead.runtimePanic _)
  · cases op <;> first | exact Static.pure _ | exact Static.dead (Dead.stuck _)
theorem Static.stringOp (op : BinOp) (x y : ByteArray) : Static P (Op.stringOp op x y) := by
  unfold Op.stringOp
  cases op <;> first | exact Static.pure _ | exact Static.dead (Dead.stuck _) | skip
  dsimp only
  split
  · exact Static.dead (Dead.unsupported _)
  · exact Static.pure _

/-- What two operands may be. -/
def binFit (op : BinOp) : Value → Value → Bool
  | .int .., .int .. => true
  | .string _, .string _ => true
  | .float .., _ => false
  | _, .float .. => false
  | .complex .., _ => false
  | _, .complex .. => false
  | _, _ => op == .eql || op == .neq

theorem Static.binInt (op : BinOp) (t : TypeId) (k k' : IntKind) (a b : Int) : Static P (Go.binOp op t (.int k a) (.int k' b)) := by
  have rest : ∀ (why : String) (f : Sem Value), Static P f → Static P (if k ≠ k' then stuck why else f) := fun why f hf => by
    split
    · exact Static.dead (Dead.stuck _)
    · exact hf
  cases op <;> unfold Go.binOp <;> dsimp only <;> first
    | exact Static.shift _ _ _ _ _
    | exact rest _ _ (Static.intArith _ _ _ _)
    | exact rest _ _ (Static.intDiv _ _ _ _)
    | exact rest _ _ (Static.intBits _ _ _ _)
    | exact rest _ _ (Static.intCmp _ _ _)
theorem Static.binString (op : BinOp) (t : TypeId) (a b : ByteArray) : Static P (Go.binOp op t (.string a) (.string b)) := by
  cases op <;> unfold Go.binOp <;> exact Static.stringOp _ _ _

/-- A static operation whose answer holds no address. -/
theorem Sim.static {s : Sem Value} (h : Static P s) : Sim P ι (fun ι' a b => a = b ∧ (ground a = true → VRel ι' a b)) s s :=
  h.sim.mono fun ι' a b _ e => by
    cases e
    exact ⟨rfl, fun g => ground_rel g⟩

def GR : Inj → Value → Value → Prop := fun ι a b => ground a = true → VRel ι a b

theorem Sim.binEq (t : TypeId) {x x' y y' : Value} (hx : VRel ι x x') (hy : VRel ι y y') :
    Sim P ι VRel (do Pure.pure (.bool (← Op.equal t x y))) (do Pure.pure (.bool (← Op.equal t x' y'))) :=
  (Sim.equalIn Op.maxDepth t ι x x' y y' hx hy).bind fun _ a b _ e => by
    cases e
    exact Sim.pure (.bool _)
theorem Sim.binNe (t : TypeId) {x x' y y' : Value} (hx : VRel ι x x') (hy : VRel ι y y') :
    Sim P ι VRel (do Pure.pure (.bool (!(← Op.equal t x y)))) (do Pure.pure (.bool (!(← Op.equal t x' y')))) :=
  (Sim.equalIn Op.maxDepth t ι x x' y y' hx hy).bind fun _ a b _ e => by
    cases e
    exact Sim.pure (.bool _)

theorem Sim.binOp (op : BinOp) (t : TypeId) {x x' y y' : Value} (hx : VRel ι x x') (hy : VRel ι y y') (hf : binFit op x y = true) :
    Sim P ι GR (Go.binOp op t x y) (Go.binOp op t x' y') := by
  by_cases hi : (∃ k a k' b, x = .int k a ∧ y = .int k' b) ∨ ∃ a b, x = .string a ∧ y = .string b
  · rcases hi with ⟨k, a, k', b, rfl, rfl⟩ | ⟨a, b, rfl, rfl⟩
    · cases hx
      cases hy
      exact (Sim.static (Static.binInt op t k k' a b)).mono fun _ _ _ _ h => h.2
    · cases hx
      cases hy
      exact (Sim.static (Static.binString op t a b)).mono fun _ _ _ _ h => h.2
  · have hop : op = .eql ∨ op = .neq := by
      unfold binFit at hf
      split at hf
      · exact absurd (.inl ⟨_, _, _, _, rfl, rfl⟩) hi
      · exact absurd (.inr ⟨_, _, rfl, rfl⟩) hi
      · exact absurd hf (by simp)
      · exact absurd hf (by simp)
      · exact absurd hf (by simp)
      · exact absurd hf (by simp)
      · simpa using hf
    have e1 := Sim.binEq (P := P) t hx hy
    have e2 := Sim.binNe (P := P) t hx hy
    rcases hop with rfl | rfl
    · refine Sim.mono (R := VRel) ?_ fun _ _ _ _ h _ => h
      unfold Go.binOp
      cases hx <;> cases hy <;> first | exact e1 | exact absurd (.inl ⟨_, _, _, _, rfl, rfl⟩) hi | exact absurd (.inr ⟨_, _, rfl, rfl⟩) hi | exact absurd hf (by simp [binFit])
    · refine Sim.mono (R := VRel) ?_ fun _ _ _ _ h _ => h
      unfold Go.binOp
      cases hx <;> cases hy <;> first | exact e2 | exact absurd (.inl ⟨_, _, _, _, rfl, rfl⟩) hi | exact absurd (.inr ⟨_, _, rfl, rfl⟩) hi | exact absurd hf (by simp [binFit])

theorem Sim.eqGuardIn : ∀ (d : Nat) (t : TypeId) (ι : Inj) (x x' y y' : Value), VRel ι x x' → VRel ι y y' → Sim P ι EqR (Op.eqGuardIn d t x y) (Op.eqGuardIn d t x' y')
  | 0, _, _, _, _, _, _, _, _ => Sim.dead (Dead.unsupported _)
  | d + 1, t, ι, x, x', y, y', hx, hy => by
    unfold Op.eqGuardIn
    refine (Static.underlying t).sim.bind fun ι1 k k' hs e => ?_
    cases e
    replace hx := hx.mono hs
    replace hy := hy.mono hs
    cases k with
    | interface ms =>
      cases hx with
      | nilIface => cases hy <;> first | exact Sim.pure rfl | (rename_i hs0; rcases Syms.cases hs0 with ⟨_, _, rfl⟩ | ⟨_, rfl⟩ <;> exact Sim.pure rfl) | (rename_i hs0; rcases Syms.refs hs0 with ⟨_, _, _, rfl⟩ | ⟨_, rfl⟩ <;> exact Sim.pure rfl)
      | sym hs0 => rcases Syms.cases hs0 with ⟨_, _, rfl⟩ | ⟨_, rfl⟩ <;> exact Sim.pure rfl
      | inp hs0 => rcases Syms.refs hs0 with ⟨_, _, _, rfl⟩ | ⟨_, rfl⟩ <;> exact Sim.pure rfl
      | _ => exact Sim.pure rfl
    | struct fields =>
      cases hx with
      | agg h1 h2 => cases hy with
        | agg h3 h4 =>
          refine Sim.bind (R := EqR) (Sim.forInA (fun ι3 hs3 f s => ?_) fields _) fun ι3 r r' hs3 e => ?_
          · split
            · refine (Sim.part f.type (ARel.mono hs3 ⟨h1, h2⟩) f.offset).bind fun ι4 u u' hs4 hu => ?_
              refine (Sim.part f.type (ARel.mono (hs3.trans hs4) ⟨h3, h4⟩) f.offset).bind fun ι5 v v' hs5 hv => ?_
              refine (Sim.eqGuardIn d f.type ι5 _ _ _ _ (hu.mono hs5) hv).bind fun ι6 b b' hs6 e => ?_
              cases e
              split <;> exact Sim.pure rfl
            · exact Sim.pure rfl
          · cases e
            obtain ⟨r1, r2⟩ := r
            cases r1 <;> exact Sim.pure rfl
        | sym hs0 => rcases Syms.cases hs0 with ⟨_, _, rfl⟩ | ⟨_, rfl⟩ <;> exact Sim.pure rfl
        | inp hs0 => rcases Syms.refs hs0 with ⟨_, _, _, rfl⟩ | ⟨_, rfl⟩ <;> exact Sim.pure rfl
        | _ => exact Sim.pure rfl
      | sym hs0 => rcases Syms.cases hs0 with ⟨_, _, rfl⟩ | ⟨_, rfl⟩ <;> exact Sim.pure rfl
      | inp hs0 => rcases Syms.refs hs0 with ⟨_, _, _, rfl⟩ | ⟨_, rfl⟩ <;> exact Sim.pure rfl
      | _ => exact Sim.pure rfl
    | array len elem =>
      cases hx with
      | agg h1 h2 => cases hy with
        | agg h3 h4 =>
          refine (Static.sizeOf elem).sim.bind fun ι2 n n' hs2 e => ?_
          cases e
          refine Sim.bind (R := EqR) (Sim.forInR (fun ι3 hs3 f s => ?_) _ _) fun ι3 r r' hs3 e => ?_
          · refine (Sim.part elem (ARel.mono (hs2.trans hs3) ⟨h1, h2⟩) _).bind fun ι4 u u' hs4 hu => ?_
            refine (Sim.part elem (ARel.mono ((hs2.trans hs3).trans hs4) ⟨h3, h4⟩) _).bind fun ι5 v v' hs5 hv => ?_
            refine (Sim.eqGuardIn d elem ι5 _ _ _ _ (hu.mono hs5) hv).bind fun ι6 b b' hs6 e => ?_
            cases e
            split <;> exact Sim.pure rfl
          · cases e
            obtain ⟨r1, r2⟩ := r
            cases r1 <;> exact Sim.pure rfl
        | sym hs0 => rcases Syms.cases hs0 with ⟨_, _, rfl⟩ | ⟨_, rfl⟩ <;> exact Sim.pure rfl
        | inp hs0 => rcases Syms.refs hs0 with ⟨_, _, _, rfl⟩ | ⟨_, rfl⟩ <;> exact Sim.pure rfl
        | _ => exact Sim.pure rfl
      | sym hs0 => rcases Syms.cases hs0 with ⟨_, _, rfl⟩ | ⟨_, rfl⟩ <;> exact Sim.pure rfl
      | inp hs0 => rcases Syms.refs hs0 with ⟨_, _, _, rfl⟩ | ⟨_, rfl⟩ <;> exact Sim.pure rfl
      | _ => exact Sim.pure rfl
    | _ => exact Sim.pure rfl

theorem Sim.eqGuard (op : BinOp) (t : TypeId) (x y : Operand) {a a' b b' : Value} (ha : VRel ι a a') (hb : VRel ι b b') :
    Sim P ι TrueR (Go.eqGuard op t x y a b) (Go.eqGuard op t x y a' b') := by
  have q := fun ι1 hs => Sim.eqGuardIn (P := P) Op.maxDepth t ι1 a a' b b' (VRel.mono hs ha) (VRel.mono hs hb)
  have two : ∀ u : Unsupported, Sim P ι TrueR
      (do if ← Op.eqGuardIn Op.maxDepth t a b then unsupported u)
      (do if ← Op.eqGuardIn Op.maxDepth t a' b' then unsupported u) := by
    intro u
    refine (q ι (Sub.refl _)).bind fun ι1 v v' hs e => ?_
    cases e
    split
    · exact Sim.dead (Dead.unsupported _)
    · exact Sim.pure trivial
  have agg : ∀ u : Unsupported, Sim P ι TrueR
      (do
        if !(← Go.program).eqGuardType (← Go.program).depth t then return
        if ← Op.eqGuardIn Op.maxDepth t a b then unsupported u)
      (do
        if !(← Go.program).eqGuardType (← Go.program).depth t then return
        if ← Op.eqGuardIn Op.maxDepth t a' b' then unsupported u) := by
    intro u
    refine Sim.program.bind fun ι1 p p' hs1 e => ?_
    cases e
    refine Sim.program.bind fun ι2 p2 p2' hs2 e => ?_
    cases e
    split
    · exact Sim.pure trivial
    · refine (q ι2 (hs1.trans hs2)).bind fun ι1 v v' hs e => ?_
      cases e
      split
      · exact Sim.dead (Dead.unsupported _)
      · exact Sim.pure trivial
  clear q
  unfold Go.eqGuard
  cases op <;> first
    | exact Sim.pure trivial
    | (cases ha with
        | nilIface => cases hb with
          | nilIface => cases x <;> cases y <;> first | exact Sim.pure trivial | exact two _
          | sym hs0 => rcases Syms.cases hs0 with ⟨_, _, rfl⟩ | ⟨_, rfl⟩ <;> exact Sim.pure trivial
          | inp hs0 => rcases Syms.refs hs0 with ⟨_, _, _, rfl⟩ | ⟨_, rfl⟩ <;> exact Sim.pure trivial
          | _ => exact Sim.pure trivial
        | agg h1 h2 => cases hb with
          | agg h3 h4 => exact agg _
          | sym hs0 => rcases Syms.cases hs0 with ⟨_, _, rfl⟩ | ⟨_, rfl⟩ <;> exact Sim.pure trivial
          | inp hs0 => rcases Syms.refs hs0 with ⟨_, _, _, rfl⟩ | ⟨_, rfl⟩ <;> exact Sim.pure trivial
          | _ => exact Sim.pure trivial
        | sym hs0 => rcases Syms.cases hs0 with ⟨_, _, rfl⟩ | ⟨_, rfl⟩ <;> exact Sim.pure trivial
        | inp hs0 => rcases Syms.refs hs0 with ⟨_, _, _, rfl⟩ | ⟨_, rfl⟩ <;> exact Sim.pure trivial
        | _ => exact Sim.pure trivial)

def noFl : Value → Bool
  | .float .. => false
  | .complex .. => false
  | _ => true
theorem Sim.unary (op : UnOp) {x x' : Value} (hx : VRel ι x x') (hf : noFl x = true) : Sim P ι GR (Op.unary op x) (Op.unary op x') := by
  unfold Op.unary
  cases hx with
  | int k n =>
    cases op with
    | neg => exact (Sim.static (Static.intArith _ _ _ _)).mono fun _ _ _ _ h => h.2
    | xor => exact (Sim.static (Static.intBits _ _ _ _)).mono fun _ _ _ _ h => h.2
    | _ => exact Sim.dead (Dead.stuck _)
  | bool b =>
    cases op with
    | not => exact Sim.pure fun _ => .bool _
    | _ => exact Sim.dead (Dead.stuck _)
  | ptr h => cases op <;> first | exact Sim.dead (Dead.unsupported _) | exact Sim.dead (Dead.stuck _)
  | sym => simp [noFl] at hf
  | inp => simp [noFl] at hf
  | ownS => simp [noFl] at hf
  | ownP => simp [noFl] at hf
  | chn => simp [noFl] at hf
  | _ => cases op <;> exact Sim.dead (Dead.stuck _)

/-- Only numbers are converted here. -/
theorem Sim.convert (src dst : TypeId) {x x' : Value} (hx : VRel ι x x') (hi : ∃ k, P.underlying dst = some (.int k)) (hn : ∃ k n, x = .int k n) :
    Sim P ι VRel (Go.convert src dst x) (Go.convert src dst x') := by
  obtain ⟨k, hk⟩ := hi
  obtain ⟨k0, n, rfl⟩ := hn
  cases hx
  unfold Go.convert
  refine (Static.underlying src).sim.bind fun ι1 s s' hs e => ?_
  cases e
  have hst : Static P (Go.underlying dst) := Static.underlying dst
  intro H a H' hr w hw
  have e0 : arun P (Go.underlying dst) H = some (.int k, H) := by
    simp [Go.underlying, Go.program, arun_bind, arun, hk]
  have e1 : ∀ w, (Go.underlying dst).run P w = .ok (.int k) w := fun w => ((hst _ _ _ e0).2 w).1
  have e2 : ∀ w es, (Go.underlying dst).events P w es = es := fun w => ((hst _ _ _ e0).2 w).2
  rw [arun_bind, e0] at hr
  refine ⟨ι1, .int k (k.wrap n), w, ?_, Ext.refl _ _, ?_⟩
  · rw [Sem.run_bind, e1]
    cases s <;> rfl
  · have : arun P (Conv.intToInt k n) H = some (a, H') := by
      rw [← hr]
      cases s <;> rfl
    simp only [Conv.intToInt, arun_pure, Option.some.injEq, Prod.mk.injEq] at this
    obtain ⟨rfl, rfl⟩ := this
    refine ⟨hw, .int _ _, .none ?_, rfl⟩
    rw [Sem.events_bind, e1, e2]
    cases s <;> rfl

end Go.Ev
