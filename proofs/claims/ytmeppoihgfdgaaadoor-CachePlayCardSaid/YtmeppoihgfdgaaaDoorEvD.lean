/-
  The evaluator: places in structs, arrays and slices; interface values, functions. No condition.
-/
import Derived.Test.YtmeppoihgfdgaaaDoorEvC
namespace Go.Ev
set_option linter.unusedSectionVars false      -- the symbols' class stands for all texts
variable [Syms] {P : Program} {ι : Inj}

theorem Sim.sureAddr {v v' : Value} (h : VRel ι v v') : Sim P ι AddrR (Instr.sureAddr v) (Instr.sureAddr v') := by
  cases h with
  | ptr h => exact Sim.pure ⟨_, h, rfl⟩
  | _ => exact Sim.dead (Dead.stuck _)

theorem Sim.asAddr {v v' : Value} (h : VRel ι v v') : Sim P ι AddrR (Go.asAddr v) (Go.asAddr v') := by
  cases h with
  | ptr h => exact Sim.pure ⟨_, h, rfl⟩
  | nilPtr => unfold Go.asAddr; exact Sim.dead (Dead.runtimePanic _)
  | _ => exact Sim.dead (Dead.stuck _)

theorem Sim.loadAt (t : TypeId) {v v' : Value} (h : VRel ι v v') : Sim P ι VRel (Instr.loadAt t v) (Instr.loadAt t v') :=
  (Sim.sureAddr h).bind fun _ _ _ _ ha => Sim.loadVar t ha

theorem Sim.storeAt (t : TypeId) {v v' x x' : Value} (h : VRel ι v v') (hx : VRel ι x x') : Sim P ι TrueR (Instr.storeAt t v x) (Instr.storeAt t v' x') :=
  (Sim.sureAddr h).bind fun _ _ _ hs ha => Sim.storeVar t ha (hx.mono hs)

theorem Sim.viewAt {n n' : Nat} (h : ∃ i, ι n = some i ∧ i.blk = n') : Sim P ι (fun _ a b => a = none ∧ b = none) (Go.viewAt n) (Go.viewAt n') := by
  unfold Go.viewAt
  refine (Sim.shape h).bind fun ι1 s s' hs hss => ?_
  obtain ⟨rfl, e, k, i, rfl, _⟩ := hss
  exact Sim.pure ⟨rfl, rfl⟩

theorem Sim.noView {a a' : Addr} (h : AddrRel ι a a') : Sim P ι TrueR (Go.noView a) (Go.noView a') := by
  unfold Go.noView
  obtain ⟨i, h1, rfl⟩ := h
  refine (Sim.viewAt ⟨i, h1, rfl⟩).bind fun ι1 s s' hs hss => ?_
  obtain ⟨rfl, rfl⟩ := hss
  exact Sim.pure trivial

theorem Sim.byteOf {a a' : Addr} (h : AddrRel ι a a') : Sim P ι EqR (Go.byteOf a) (Go.byteOf a') := by
  unfold Go.byteOf
  obtain ⟨i, h1, rfl⟩ := h
  cases hsp : a.spot with
  | some s => exact Sim.pure rfl
  | none =>
    refine Sim.program.bind fun ι1 p p' hs e => ?_
    cases e
    refine (Sim.noView (a := a) (a' := ⟨i.blk, i.off + a.off, none⟩) ⟨i, hs _ _ h1, by rw [hsp]⟩).bind fun ι2 _ _ hs2 _ => ?_
    refine (Sim.shape ⟨i, hs2 _ _ (hs _ _ h1), rfl⟩).bind fun ι3 s s' hs3 hss => ?_
    obtain ⟨rfl, e, k, j, rfl, hj, hj2, hj3⟩ := hss
    have hij : i = j := by
      have := hs3 _ _ (hs2 _ _ (hs _ _ h1))
      rw [hj] at this
      exact (Option.some.inj this).symm
    subst hij
    simp only [hj3, Nat.zero_add]
    split
    · exact Sim.pure rfl
    · split
      · exact Sim.pure rfl
      · exact Sim.dead (Dead.stuck _)

theorem Sim.fieldPlace {a a' : Addr} (h : AddrRel ι a a') (f : Field) : Sim P ι AddrR (Go.fieldPlace a f) (Go.fieldPlace a' f) := by
  unfold Go.fieldPlace
  refine (Static.sizeOf _).sim.bind fun ι1 n n' hs e => ?_
  cases e
  have h := h.mono hs
  split
  · unfold Go.partAt
    refine (Sim.byteOf h).bind fun ι2 b b' hs2 e => ?_
    cases e
    obtain ⟨i, h1, rfl⟩ := h
    have hp : AddrRel ι2 { block := a.block, off := a.off + f.offset } { block := i.blk, off := i.off + a.off + f.offset } := ⟨i, hs2 _ _ h1, by simp [Nat.add_assoc]⟩
    refine (Sim.byteOf hp).bind fun ι3 c c' hs3 e => ?_
    cases e
    split
    · exact Sim.pure (hp.mono hs3)
    · exact Sim.pure ⟨i, hs3 _ _ (hs2 _ _ h1), by simp [Nat.add_assoc]⟩
  · exact Sim.pure (h.add _)

theorem Sim.fieldAt (s : TypeId) {v v' : Value} (h : VRel ι v v') (f : Nat) : Sim P ι VRel (Instr.fieldAt s v f) (Instr.fieldAt s v' f) := by
  unfold Instr.fieldAt
  refine (Static.underlying s).sim.bind fun ι1 d d' hs e => ?_
  cases e
  cases d with
  | struct fields =>
    dsimp only
    cases fields[f]? with
    | none => exact Sim.dead (Dead.stuck _)
    | some fl => exact (Sim.sureAddr (h.mono hs)).bind fun ι2 a a' hs2 ha => (Sim.fieldPlace ha fl).bind fun ι3 _ _ _ hb => Sim.pure (AddrRel.ptr hb)
  | _ => exact Sim.dead (Dead.stuck _)

theorem Sim.asAgg {v v' : Value} (h : VRel ι v v') : Sim P ι ARelR (Go.asAgg v) (Go.asAgg v') := by
  cases h with
  | agg h1 h2 => exact Sim.pure ⟨h1, h2⟩
  | _ => exact Sim.dead (Dead.stuck _)

theorem Sim.field (t : TypeId) {v v' : Value} (h : VRel ι v v') (f : Nat) : Sim P ι VRel (Instr.field t v f) (Instr.field t v' f) := by
  unfold Instr.field
  refine (Static.underlying t).sim.bind fun ι1 d d' hs e => ?_
  cases e
  cases d with
  | struct fields =>
    dsimp only
    cases fields[f]? with
    | none => exact Sim.dead (Dead.stuck _)
    | some fl => exact (Sim.asAgg (h.mono hs)).bind fun ι2 a a' hs2 ha => Sim.part _ ha _
  | _ => exact Sim.dead (Dead.stuck _)

theorem Sim.asIntOf {v v' : Value} (h : VRel ι v v') : Sim P ι (fun _ a b => a = b) (Go.asIntOf v) (Go.asIntOf v') := by
  cases h with
  | int k n => exact Sim.pure rfl
  | ptr h => exact Sim.dead (Dead.unsupported _)
  | _ => exact Sim.dead (Dead.stuck _)
theorem Sim.asInt {v v' : Value} (h : VRel ι v v') : Sim P ι (fun _ a b => a = b) (Go.asInt v) (Go.asInt v') :=
  (Sim.asIntOf h).bind fun _ a b _ e => by cases e; exact Sim.pure rfl
theorem Sim.asBool {v v' : Value} (h : VRel ι v v') : Sim P ι (fun _ a b => a = b) (Go.asBool v) (Go.asBool v') := by
  cases h with
  | bool b => exact Sim.pure rfl
  | _ => exact Sim.dead (Dead.stuck _)

theorem Static.kindIs (t : TypeId) (f : TypeDesc → Bool) : Static P (do let d ← Go.underlying t; Pure.pure (f d)) := (Static.underlying t).bind fun _ => Static.pure _

theorem Sim.indexAt (t : TypeId) {x x' i i' : Value} (hx : VRel ι x x') (hi : VRel ι i i') : Sim P ι VRel (Instr.indexAt t x i) (Instr.indexAt t x' i') := by
  unfold Instr.indexAt
  refine (Sim.asIntOf hi).bind fun ι1 ki ki' hs e => ?_
  cases e
  have hx := hx.mono hs
  obtain ⟨k, n⟩ := ki
  dsimp only
  refine (Static.underlying t).sim.bind fun ι2 d d' hs2 e => ?_
  cases e
  have hx := hx.mono hs2
  have fin : ∀ (ι3 : Inj) (a a' : Addr) (len : Nat) (elem : TypeId), AddrRel ι3 a a' → ∀ (tiny : Bool) (u : Unsupported), Sim P ι3 VRel
      (if 0 ≤ n ∧ n < (len : Int) then do Pure.pure (Value.pointer (some (a.add (n.toNat * (← Go.sizeOf elem)))))
        else if tiny = true then unsupported u else Go.boundsPanic k n len .index)
      (if 0 ≤ n ∧ n < (len : Int) then do Pure.pure (Value.pointer (some (a'.add (n.toNat * (← Go.sizeOf elem)))))
        else if tiny = true then unsupported u else Go.boundsPanic k n len .index) := by
    intro ι3 a a' len elem ha tiny u
    split
    · refine (Static.sizeOf elem).sim.bind fun ι4 s s' hs4 e => ?_
      cases e
      exact Sim.pure ((ha.mono hs4).add _).ptr
    · split
      · exact Sim.dead (Dead.unsupported _)
      · exact Sim.dead (Dead.boundsPanic _ _ _ _)
  cases d with
  | array len elem =>
    dsimp only
    refine (Sim.sureAddr hx).bind fun ι3 a a' hs3 ha => ?_
    dsimp only [Pure.pure, Sem.bind, Bind.bind]
    refine (Static.underlying t).sim.bind fun ι4 d d' hs4 e => ?_
    cases e
    exact fin _ _ _ _ _ (ha.mono hs4) _ _
  | slice elem =>
    cases hx with
    | nilSlice l c =>
      dsimp only [Pure.pure, Sem.bind, Bind.bind]
      refine (Static.underlying t).sim.bind fun ι4 d d' hs4 e => ?_
      exact Sim.dead (Dead.boundsPanic _ _ _ _)
    | @slice a inf l c c' h h2 h3 =>
      dsimp only [Pure.pure, Sem.bind, Bind.bind]
      refine (Static.underlying t).sim.bind fun ι4 d d' hs4 e => ?_
      cases e
      exact fin _ _ _ _ _ (AddrRel.mono hs4 ⟨inf, h, rfl⟩) _ _
    | emptySlice a a' =>
      dsimp only [Pure.pure, Sem.bind, Bind.bind]
      refine (Static.underlying t).sim.bind fun ι4 d d' hs4 e => ?_
      cases e
      rw [if_neg (by omega)]
      split
      · exact Sim.dead (Dead.unsupported _)
      · exact Sim.dead (Dead.boundsPanic _ _ _ _)
    | _ => exact Sim.dead (Dead.first (Dead.stuck _))
  | _ => exact Sim.dead (Dead.first (Dead.stuck _))

theorem Sim.index (t : TypeId) {x x' i i' : Value} (hx : VRel ι x x') (hi : VRel ι i i') : Sim P ι VRel (Instr.index t x i) (Instr.index t x' i') := by
  unfold Instr.index
  refine (Sim.asIntOf hi).bind fun ι1 ki ki' hs e => ?_
  cases e
  have hx := hx.mono hs
  obtain ⟨k, n⟩ := ki
  dsimp only
  refine (Static.underlying t).sim.bind fun ι2 d d' hs2 e => ?_
  cases e
  have hx := hx.mono hs2
  cases d with
  | array len elem =>
    cases hx with
    | agg h1 h2 =>
      dsimp only
      split
      · refine (Static.sizeOf elem).sim.bind fun ι4 s s' hs4 e => ?_
        cases e
        exact Sim.part _ (ARel.mono hs4 ⟨h1, h2⟩) _
      · exact Sim.dead (Dead.boundsPanic _ _ _ _)
    | _ => exact Sim.dead (Dead.stuck _)
  | string =>
    cases hx with
    | string s =>
      dsimp only
      split
      · exact Sim.pure (.int _ _)
      · exact Sim.dead (Dead.boundsPanic _ _ _ _)
    | _ => exact Sim.dead (Dead.stuck _)
  | _ => exact Sim.dead (Dead.stuck _)

theorem Sim.makeInterface (t : TypeId) {v v' : Value} (h : VRel ι v v') : Sim P ι VRel (Instr.makeInterface t v) (Instr.makeInterface t v') := by
  unfold Instr.makeInterface
  refine (Static.underlying t).sim.bind fun ι1 d d' hs e => ?_
  cases e
  split
  · exact Sim.dead (Dead.stuck _)
  · exact Sim.pure (.iface _ (h.mono hs))

theorem Sim.makeFunc (fn : Fn) {xs ys us vs : Array Value} (h : ARel ι xs ys) (h' : ARel ι us vs) : Sim P ι VRel (Instr.makeFunc fn xs us) (Instr.makeFunc fn ys vs) :=
  Sim.pure (.func fn h.1 h.2 h'.1 h'.2)

theorem Sim.extract {v v' : Value} (h : VRel ι v v') (ix : Nat) : Sim P ι VRel (Instr.extract v ix) (Instr.extract v' ix) := by
  cases h with
  | @tuple xs ys h1 h2 =>
    unfold Instr.extract
    dsimp only
    cases hx : xs[ix]? with
    | none => exact Sim.dead (Dead.stuck _)
    | some x =>
      obtain ⟨y, hy, hv⟩ := ARel.get? ⟨h1, h2⟩ hx
      rw [hy]
      exact Sim.pure hv
  | _ => exact Sim.dead (Dead.stuck _)

/-! ### Methods that are found behind an interface value -/
inductive PlRel (ι : Inj) : Go.Place → Go.Place → Prop
  | val {v v' : Value} : VRel ι v v' → PlRel ι (.val v) (.val v')
  | var {a a' : Addr} : AddrRel ι a a' → PlRel ι (.var a) (.var a')
theorem PlRel.mono {ι ι' : Inj} (hs : Sub ι ι') {x y : Go.Place} (h : PlRel ι x y) : PlRel ι' x y := by
  cases h with
  | val h => exact .val (h.mono hs)
  | var h => exact .var (h.mono hs)

theorem Sim.placeGet (t : TypeId) {x y : Go.Place} (h : PlRel ι x y) : Sim P ι VRel (x.get t) (y.get t) := by
  cases h with
  | val h => exact Sim.pure h
  | var h => exact Sim.loadVar t h

theorem Sim.follow : ∀ (path : List FieldStep) (t : TypeId) (ι : Inj) (x y : Go.Place), PlRel ι x y →
    Sim P ι (fun ι' a b => a.1 = b.1 ∧ PlRel ι' a.2 b.2) (Go.follow path t x) (Go.follow path t y)
  | [], t, ι, x, y, h => Sim.pure ⟨rfl, h⟩
  | s :: rest, t, ι, x, y, h => by
    unfold Go.follow
    refine (Static.underlying _).sim.bind fun ι1 d d' hs e => ?_
    cases e
    have h := h.mono hs
    cases d with
    | struct fields =>
      dsimp only
      cases fields[s.index]? with
      | none => exact Sim.dead (Dead.stuck _)
      | some f =>
        dsimp only
        split
        · refine (Sim.placeGet t h).bind fun ι2 v v' hs2 hv => ?_
          exact (Sim.asAddr hv).bind fun ι3 a a' hs3 ha => (Sim.fieldPlace ha f).bind fun ι4 b b' hs4 hb => Sim.follow rest f.type ι4 _ _ (.var hb)
        · cases h with
          | var ha => exact (Sim.fieldPlace ha f).bind fun ι4 b b' hs4 hb => Sim.follow rest f.type ι4 _ _ (.var hb)
          | val hv =>
            cases hv with
            | agg h1 h2 => exact (Sim.part f.type ⟨h1, h2⟩ f.offset).bind fun ι4 b b' hs4 hb => Sim.follow rest f.type ι4 _ _ (.val hb)
            | _ => exact Sim.dead (Dead.stuck _)
    | _ => exact Sim.dead (Dead.stuck _)

theorem Dead.choose {q : Question} (h : q.forced = false) : Dead P (Go.choose q) := fun H => by
  simp [Go.choose, arun, h]

theorem Sim.wrapChk (xt : TypeId) (name : String) {v v' : Value} (h : VRel ι v v') :
    Sim P ι VRel (Builtin.ssaWrapNilChk_ #[xt] xt #[v, strVal "", strVal name]) (Builtin.ssaWrapNilChk_ #[xt] xt #[v', strVal "", strVal name]) := by
  cases h with
  | ptr h => exact Sim.pure (.ptr h)
  | nilPtr => exact Sim.dead (Dead.first (Dead.choose rfl))
  | _ => exact Sim.dead (Dead.stuck _)

theorem Sim.receiverAt (t : TypeId) {x y : Go.Place} (h : PlRel ι x y) (ptr : Bool) (wrapper : Option String) : Sim P ι VRel (Go.receiverAt t x ptr wrapper) (Go.receiverAt t y ptr wrapper) := by
  unfold Go.receiverAt
  refine (Static.underlying t).sim.bind fun ι1 d d' hs e => ?_
  cases e
  replace h := h.mono hs
  cases d with
  | pointer elem =>
    cases ptr with
    | true => exact Sim.placeGet t h
    | false =>
      dsimp only
      refine (Sim.placeGet t h).bind fun ι2 v v' hs2 hv => ?_
      cases wrapper with
      | none =>
        dsimp only [Pure.pure, Sem.bind, Bind.bind]
        exact (Sim.asAddr hv).bind fun ι3 a a' hs3 ha => Sim.loadVar elem ha
      | some name =>
        exact (Sim.wrapChk t name hv).bind fun ι3 u u' hs3 hu => (Sim.asAddr hu).bind fun ι4 a a' hs4 ha => Sim.loadVar elem ha
  | _ =>
    cases ptr with
    | false => exact Sim.placeGet t h
    | true =>
      cases h with
      | val hq => exact Sim.dead (Dead.stuck _)
      | var hq => exact Sim.pure (AddrRel.ptr hq)

def MR : Inj → FuncId × Value → FuncId × Value → Prop := fun ι a b => a.1 = b.1 ∧ VRel ι a.2 b.2

theorem Sim.method : ∀ (fuel : Nat) (t : TypeId) (ι : Inj) (v v' : Value) (name : String), VRel ι v v' → Sim P ι MR (Go.method fuel t v name) (Go.method fuel t v' name)
  | 0, _, _, _, _, _, _ => Sim.dead (Dead.unsupported _)
  | fuel + 1, t, ι, v, v', name, h => by
    unfold Go.method
    refine (Static.typeInfo t).sim.bind fun ι1 d d' hs e => ?_
    cases e
    cases d.methods.find? (·.name == name) with
    | none => exact Sim.dead (Dead.stuck _)
    | some m =>
      dsimp only
      refine (Sim.follow m.path.toList t ι1 _ _ (.val (h.mono hs))).bind fun ι2 a b hs2 hab => ?_
      obtain ⟨xt, x⟩ := a
      obtain ⟨yt, y⟩ := b
      obtain ⟨e, hp⟩ := hab
      have e' : xt = yt := e
      subst e'
      dsimp only
      cases m.func with
      | none =>
        dsimp only
        refine (Sim.placeGet xt hp).bind fun ι3 u u' hs3 hu => ?_
        cases hu with
        | iface t' hv => exact Sim.method fuel t' ι3 _ _ name hv
        | nilIface => exact Sim.dead (Dead.runtimePanic _)
        | _ => exact Sim.dead (Dead.stuck _)
      | some fp =>
        obtain ⟨f, pr⟩ := fp
        exact (Sim.receiverAt xt hp pr _).bind fun ι3 u u' hs3 hu => Sim.pure ⟨rfl, hu⟩

theorem Sim.receiverVia (t : TypeId) {v v' : Value} (h : VRel ι v v') (path : Array FieldStep) (ptr : Bool) : Sim P ι VRel (Go.receiverVia t v path ptr) (Go.receiverVia t v' path ptr) := by
  unfold Go.receiverVia
  refine (Sim.follow path.toList t ι _ _ (.val h)).bind fun ι2 a b hs2 hab => ?_
  obtain ⟨xt, x⟩ := a
  obtain ⟨yt, y⟩ := b
  obtain ⟨e, hp⟩ := hab
  have e' : xt = yt := e
  subst e'
  exact Sim.receiverAt xt hp ptr none

end Go.Ev
