/-
  The evaluator: equality, arithmetic, conversions, the length of things; maps. No condition.
-/
import Derived.Test.YtmeppoihgfdgaaaDoorEvD
namespace Go.Ev
set_option linter.unusedSectionVars false      -- the symbols' class stands for all texts
/-- A program with no floats: their names stand for symbols. -/
class NoFloat (P : Program) : Prop where
  no : ∀ t k, P.underlying t ≠ some (.float k)
  noC : ∀ t k, P.underlying t ≠ some (.complex k)
variable [Syms] {P : Program} [NoFloat P] {ι : Inj}

theorem Sim.forInL {α β : Type} {f g : α → β → Sem (ForInStep β)} (h : ∀ ι', Sub ι ι' → ∀ a b, Sim P ι' EqR (f a b) (g a b)) :
    ∀ (l : List α) (ι1 : Inj), Sub ι ι1 → ∀ b, Sim P ι1 EqR (forIn l b f) (forIn l b g)
  | [], ι1, hs, b => by rw [List.forIn_nil, List.forIn_nil]; exact Sim.pure rfl
  | x :: xs, ι1, hs, b => by
    rw [List.forIn_cons, List.forIn_cons]
    refine (h ι1 hs x b).bind fun ι2 r r' hs2 e => ?_
    have e' : r = r' := e
    subst e'
    cases r with
    | done c => exact Sim.pure rfl
    | yield c => exact Sim.forInL h xs ι2 (hs.trans hs2) c

theorem Sim.forInA {α β : Type} {f g : α → β → Sem (ForInStep β)} (h : ∀ ι', Sub ι ι' → ∀ a b, Sim P ι' EqR (f a b) (g a b)) (xs : Array α) (b : β) :
    Sim P ι EqR (forIn xs b f) (forIn xs b g) := by
  rw [← Array.forIn_toList, ← Array.forIn_toList]
  exact Sim.forInL h xs.toList ι (Sub.refl _) b

theorem Sim.forInR {β : Type} {f g : Nat → β → Sem (ForInStep β)} (h : ∀ ι', Sub ι ι' → ∀ a b, Sim P ι' EqR (f a b) (g a b)) (r : Std.Legacy.Range) (b : β) :
    Sim P ι EqR (forIn r b f) (forIn r b g) := by
  rw [Std.Legacy.Range.forIn_eq_forIn_range', Std.Legacy.Range.forIn_eq_forIn_range']
  exact Sim.forInL h _ ι (Sub.refl _) b

theorem Sim.stringish {a a' : Addr} (h : AddrRel ι a a') : Sim P ι (fun _ x y => x = false ∧ y = false) (Go.stringish a) (Go.stringish a') := by
  unfold Go.stringish
  refine (Sim.frozen h).bind fun ι1 x y hs e => ?_
  obtain ⟨rfl, rfl⟩ := e
  obtain ⟨i, h1, rfl⟩ := h
  refine (Sim.shape ⟨i, hs _ _ h1, rfl⟩).bind fun ι2 s s' hs2 hss => ?_
  obtain ⟨rfl, e, k, j, rfl, hj, hj2, hj3⟩ := hss
  refine Sim.frozen ⟨j, hj, ?_⟩
  have hij : i = j := by
    have := hs2 _ _ (hs _ _ h1)
    rw [hj] at this
    exact (Option.some.inj this).symm
  subst hij
  simp [hj3]

theorem Sim.sameAddr {a a' b b' : Addr} (ha : AddrRel ι a a') (hb : AddrRel ι b b') : Sim P ι EqR (Go.sameAddr a b) (Go.sameAddr a' b') := by
  obtain ⟨i, hi, rfl⟩ := ha
  obtain ⟨j, hj, rfl⟩ := hb
  by_cases hab : a.block = b.block
  · have hij : i = j := by rw [hab, hj] at hi; exact (Option.some.inj hi).symm
    subst hij
    unfold Go.sameAddr
    simp only [hab, BEq.rfl, if_true]
    refine Sim.pure ?_
    show (a == b) = _
    rw [Bool.eq_iff_iff, beq_iff_eq, beq_iff_eq]
    obtain ⟨ab, ao, as⟩ := a
    obtain ⟨bb, bo, bs⟩ := b
    have hab' : ab = bb := hab
    subst hab'
    simp
  · intro H r H' hr w hw
    have hlive : (∃ x, H.get a.block = some x) ∧ (∃ x, H.get b.block = some x) := by
      unfold Go.sameAddr at hr
      rw [if_neg (by simpa using hab)] at hr
      rw [arun_bind] at hr
      cases hfa : H.get a.block with
      | none => simp [Go.frozen, arun, hfa] at hr
      | some x =>
        refine ⟨⟨x, rfl⟩, ?_⟩
        simp only [Go.frozen, arun, hfa, Option.bind_some] at hr
        rw [arun_bind] at hr
        cases hfb : H.get b.block with
        | none => simp [arun, hfb] at hr
        | some y => exact ⟨y, rfl⟩
    obtain ⟨⟨x, hx⟩, y, hy⟩ := hlive
    have hne : i.blk ≠ j.blk := fun e => hab (hw.inj _ _ _ _ _ _ hx hy hi hj e)
    refine (?_ : Sim P ι EqR (Go.sameAddr a b) (Go.sameAddr _ _)) H r H' hr w hw
    unfold Go.sameAddr
    have g1 : (a.block == b.block) = false := by simpa using hab
    have g2 : (i.blk == j.blk) = false := by simpa using hne
    simp only [g1, g2, Bool.false_eq_true, if_false]
    have ha : AddrRel ι a ⟨i.blk, i.off + a.off, a.spot⟩ := ⟨i, hi, rfl⟩
    have hb : AddrRel ι b ⟨j.blk, j.off + b.off, b.spot⟩ := ⟨j, hj, rfl⟩
    refine (Sim.frozen ha).bind fun ι1 x y hs e => ?_
    obtain ⟨rfl, rfl⟩ := e
    refine (Sim.frozen (hb.mono hs)).bind fun ι2 x y hs2 e => ?_
    obtain ⟨rfl, rfl⟩ := e
    simp only [Bool.false_and, Bool.false_eq_true, if_false]
    refine (Sim.noView ((ha.mono hs).mono hs2)).bind fun ι3 _ _ hs3 _ => ?_
    refine (Sim.noView (((hb.mono hs).mono hs2).mono hs3)).bind fun ι4 _ _ hs4 _ => ?_
    have ha4 := (((ha.mono hs).mono hs2).mono hs3).mono hs4
    have hb4 := (((hb.mono hs).mono hs2).mono hs3).mono hs4
    refine Sim.bind (R := fun _ x y => x = false ∧ y = false) ?_ fun ι5 x y hs5 e => ?_
    · unfold Go.mayBeOne
      refine (Sim.stringish ha4).bind fun ι5 x y hs5 e => ?_
      obtain ⟨rfl, rfl⟩ := e
      refine (Sim.stringish (hb4.mono hs5)).bind fun ι6 x y hs6 e => ?_
      obtain ⟨rfl, rfl⟩ := e
      dsimp only
      refine Sim.bind (R := TrueR) ?_ fun ι7 x y hs7 _ => ?_
      · exact (Sim.shape ⟨i, hs6 _ _ (hs5 _ _ (hs4 _ _ (hs3 _ _ (hs2 _ _ (hs _ _ hi))))), rfl⟩).bind fun _ _ _ _ _ => Sim.pure trivial
      · refine Sim.bind (R := TrueR) ?_ fun ι8 x y hs8 _ => ?_
        · exact (Sim.shape ⟨j, hs7 _ _ (hs6 _ _ (hs5 _ _ (hs4 _ _ (hs3 _ _ (hs2 _ _ (hs _ _ hj)))))), rfl⟩).bind fun _ _ _ _ _ => Sim.pure trivial
        · exact Sim.pure ⟨by simp, by simp⟩
    · obtain ⟨rfl, rfl⟩ := e
      exact Sim.pure rfl

theorem VRel.nilSlice_inv {v' : Value} {l c : Nat} (h : VRel ι (.slice none l c) v') : v' = .slice none l c := by cases h; rfl

theorem Static.typeStr (t : TypeId) : Static P (Go.typeStr t) := by
  unfold Go.typeStr
  refine (Static.typeInfo t).bind fun i => ?_
  dsimp only
  split
  · exact Static.dead (Dead.unsupported _)
  · exact Static.pure _

theorem Sim.behind {a a' : Addr} (ha : AddrRel ι a a') : Sim P ι (fun _ x y => x = (a, false) ∧ y = (a', false)) (Go.behindNumber a) (Go.behindNumber a') := by
  obtain ⟨i, h1, rfl⟩ := ha
  unfold Go.behindNumber Go.numberAt
  refine Sim.bind (R := fun _ x y => x = none ∧ y = none) ((Sim.shape ⟨i, h1, rfl⟩).bind fun ι1 s s' hs hss => ?_) fun ι1 x y hs e => ?_
  · obtain ⟨rfl, e, k, j, rfl, _⟩ := hss
    exact Sim.pure ⟨rfl, rfl⟩
  · obtain ⟨rfl, rfl⟩ := e
    exact Sim.pure ⟨rfl, rfl⟩

theorem Sim.underlying' (t : TypeId) : Sim P ι (fun _ a b => a = b ∧ P.underlying t = some a) (Go.underlying t) (Go.underlying t) := by
  intro H a H' hr w hw
  obtain ⟨rfl, h2⟩ := (Static.underlying t) _ _ _ hr
  refine ⟨ι, a, w, (h2 w).1, Ext.refl _ _, hw, ⟨rfl, ?_⟩, .none ((h2 w).2 _), rfl⟩
  have e : arun P (Go.underlying t) H' = arun P (match P.underlying t with | some d => Pure.pure d | none => Go.stuck "no such type") H' := rfl
  rw [e] at hr
  cases hu : P.underlying t with
  | none => rw [hu] at hr; exact absurd hr (by simp [Go.stuck, arun])
  | some d =>
    rw [hu] at hr
    simp at hr
    rw [hr]

theorem Sim.equalIn : ∀ (d : Nat) (t : TypeId) (ι : Inj) (x x' y y' : Value), VRel ι x x' → VRel ι y y' → Sim P ι EqR (Op.equalIn d t x y) (Op.equalIn d t x' y')
  | 0, _, _, _, _, _, _, _, _ => Sim.dead (Dead.unsupported _)
  | d + 1, t, ι, x, x', y, y', hx, hy => by
    unfold Op.equalIn
    refine (Sim.underlying' t).bind fun ι1 k k' hs e => ?_
    obtain ⟨e, hk⟩ := e
    cases e
    replace hx := hx.mono hs
    replace hy := hy.mono hs
    cases k with
    | bool =>
      cases hx with
      | bool a => cases hy with
        | bool b => exact Sim.pure rfl
        | _ => exact Sim.dead (Dead.stuck _)
      | _ => exact Sim.dead (Dead.stuck _)
    | int kk =>
      cases hx with
      | int k1 a => cases hy with
        | int k2 b =>
          show Sim P ι1 EqR (if k1 = k2 then Pure.pure (a == b) else Go.stuck _) (if k1 = k2 then Pure.pure (a == b) else Go.stuck _)
          split
          · exact Sim.pure rfl
          · exact Sim.dead (Dead.stuck _)
        | ptr h =>
          by_cases ha : a = 0
          · subst ha; exact Sim.pure rfl
          · refine Sim.dead ?_
            split <;> first | exact Dead.unsupported _ | exact Dead.stuck _ | (simp_all; done) | skip
        | nilPtr => exact Sim.dead (Dead.unsupported _)
        | _ => exact Sim.dead (Dead.stuck _)
      | @ptr a i0 h => cases hy with
        | int k2 b =>
          by_cases ha : b = 0
          · subst ha; exact Sim.pure rfl
          · refine Sim.dead ?_
            split <;> first | exact Dead.unsupported _ | exact Dead.stuck _ | (simp_all; done) | skip
        | @ptr b j0 h' =>
          have ha : AddrRel ι1 _ _ := ⟨_, h, rfl⟩
          have hb : AddrRel ι1 _ _ := ⟨_, h', rfl⟩
          refine (Sim.behind ha).bind fun ι1 x y hs e => ?_
          obtain ⟨rfl, rfl⟩ := e
          refine (Sim.behind (hb.mono hs)).bind fun ι2 x y hs2 e => ?_
          obtain ⟨rfl, rfl⟩ := e
          dsimp only
          clear ha hb
          have hi : ι2 a.block = some i0 := hs2 _ _ (hs _ _ h)
          have hj : ι2 b.block = some j0 := hs2 _ _ (hs _ _ h')
          obtain ⟨i, ei⟩ : ∃ i, i = i0 := ⟨_, rfl⟩
          obtain ⟨j, ej⟩ : ∃ j, j = j0 := ⟨_, rfl⟩
          subst ei
          subst ej
          intro H r H' hr w hw
          have hG : ∀ (n : Nat) (k : Info), ι2 n = some k → ((n < P.globals.size) ↔ (k.blk < P.globals.size)) := by
            intro n k hk
            rw [← hw.gsize]
            by_cases hn : n < H.base
            · obtain ⟨k', h1, h2, _⟩ := hw.glob n hn
              rw [hk] at h1
              cases h1
              rw [h2]
            · have := hw.over n k hk (by omega)
              omega
          refine (?_ : Sim P ι2 EqR _ _) H r H' hr w hw
          refine Sim.prog.bind fun ι3 p p' hs3 e => ?_
          obtain ⟨e1, e2⟩ := e
          simp only [e1, e2]
          clear e1 e2
          by_cases hab : a.block = b.block
          · have hij : i = j := by rw [hab, hj] at hi; exact (Option.some.inj hi).symm
            subst hij
            have hg := hG _ _ hi
            by_cases hlt : a.block < P.globals.size
            · have hlt' := hg.1 hlt
              simp only [hab, BEq.rfl, show b.block < P.globals.size from hab ▸ hlt, hlt', decide_true, Bool.and_self, if_true]
              refine (Sim.byteOf ⟨i, hs3 _ _ hi, rfl⟩).bind fun ι4 x x' hs4 e => ?_
              cases e
              refine (Sim.byteOf ⟨i, hs4 _ _ (hs3 _ _ hj), rfl⟩).bind fun ι5 y y' hs5 e => ?_
              cases e
              exact Sim.pure rfl
            · have hlt' : ¬ i.blk < P.globals.size := fun h => hlt (hg.2 h)
              have hlt2 : ¬ b.block < P.globals.size := hab ▸ hlt
              simp only [hab, BEq.rfl, hlt2, hlt', decide_false, Bool.and_false, Bool.false_eq_true, if_false]
              refine (Static.typeInfo t).sim.bind fun ι4 d d' hs4 e => ?_
              cases e
              split
              · have heq : (a == b) = (({ block := i.blk, off := i.off + a.off, spot := a.spot } : Addr) == { block := i.blk, off := i.off + b.off, spot := b.spot }) := by
                  rw [Bool.eq_iff_iff, beq_iff_eq, beq_iff_eq]
                  obtain ⟨ab, ao, as⟩ := a
                  obtain ⟨bb, bo, bs⟩ := b
                  have hab' : ab = bb := hab
                  subst hab'
                  simp
                rw [← heq]
                split
                · exact Sim.pure rfl
                · exact Sim.dead (Dead.unsupported _)
              · exact Sim.dead (Dead.unsupported _)
          · have g1 : (a.block == b.block) = false := by simpa using hab
            simp only [g1, Bool.false_and, Bool.false_eq_true, if_false]
            refine Sim.dead (Dead.bind fun d => ?_)
            split
            · have g2 : (a == b) = false := by
                rw [beq_eq_false_iff_ne]
                intro e
                exact hab (by rw [e])
              simp only [g2, Bool.false_eq_true, if_false]
              exact Dead.unsupported _
            · exact Dead.unsupported _
        | _ => exact Sim.dead (Dead.unsupported _)
      | nilPtr => cases hy <;> exact Sim.dead (Dead.unsupported _)
      | _ => cases hy <;> first | exact Sim.dead (Dead.stuck _) | exact Sim.dead (Dead.unsupported _)
    | string =>
      cases hx with
      | string a => cases hy with
        | string b => exact Sim.pure rfl
        | _ => exact Sim.dead (Dead.stuck _)
      | _ => exact Sim.dead (Dead.stuck _)
    | pointer elem =>
      cases hx with
      | nilPtr => cases hy with
        | nilPtr => exact Sim.pure rfl
        | ptr h => exact Sim.pure rfl
        | _ => exact Sim.dead (Dead.stuck _)
      | @ptr a i h => cases hy with
        | nilPtr => exact Sim.pure rfl
        | @ptr b j h' =>
          refine (Static.sizeOf elem).sim.bind fun ι2 n n' hs2 e => ?_
          cases e
          split
          · exact Sim.sameAddr ⟨i, hs2 _ _ h, rfl⟩ ⟨j, hs2 _ _ h', rfl⟩
          · by_cases hab : a = b
            · subst hab
              have hij : i = j := by rw [h] at h'; exact Option.some.inj h'
              subst hij
              simp only [BEq.rfl, if_true]
              exact Sim.pure rfl
            · have g : (a == b) = false := by simpa using hab
              simp only [g, Bool.false_eq_true, if_false]
              exact Sim.dead (Dead.first (Dead.choose rfl))
        | _ => exact Sim.dead (Dead.stuck _)
      | _ => exact Sim.dead (Dead.stuck _)
    | interface ms =>
      cases hx with
      | nilIface => cases hy with
        | nilIface => exact Sim.pure rfl
        | iface t' h' => exact Sim.pure rfl
        | _ => exact Sim.dead (Dead.stuck _)
      | iface t1 h1 => cases hy with
        | nilIface => exact Sim.pure rfl
        | iface t2 h2 =>
          dsimp only
          split
          · exact Sim.pure rfl
          · refine (Static.typeInfo t1).sim.bind fun ι2 n n' hs2 e => ?_
            cases e
            split
            · refine Sim.dead (Dead.bind fun _ => Dead.bind fun _ => ?_)
              split
              · exact Dead.first (Dead.unsupported _)
              · exact Dead.bind fun _ => Dead.runtimePanic _
            · exact Sim.equalIn d t1 ι2 _ _ _ _ (h1.mono hs2) (h2.mono hs2)
        | _ => exact Sim.dead (Dead.stuck _)
      | _ => exact Sim.dead (Dead.stuck _)
    | struct fields =>
      cases hx with
      | agg h1 h2 => cases hy with
        | agg h3 h4 =>
          refine Sim.program.bind fun ι2 p p' hs2 e => ?_
          cases e
          dsimp only
          split
          · exact Sim.dead (Dead.first (Dead.unsupported _))
          · refine Sim.bind (R := EqR) (Sim.forInA (fun ι3 hs3 f s => ?_) fields _) fun ι3 r r' hs3 e => ?_
            · split
              · refine (Sim.part f.type (ARel.mono (hs2.trans hs3) ⟨h1, h2⟩) f.offset).bind fun ι4 u u' hs4 hu => ?_
                refine (Sim.part f.type (ARel.mono ((hs2.trans hs3).trans hs4) ⟨h3, h4⟩) f.offset).bind fun ι5 v v' hs5 hv => ?_
                refine (Sim.equalIn d f.type ι5 _ _ _ _ (hu.mono hs5) hv).bind fun ι6 b b' hs6 e => ?_
                cases e
                split <;> exact Sim.pure rfl
              · exact Sim.pure rfl
            · cases e
              obtain ⟨r1, r2⟩ := r
              cases r1 <;> exact Sim.pure rfl
        | _ => exact Sim.dead (Dead.stuck _)
      | _ => exact Sim.dead (Dead.stuck _)
    | array len elem =>
      cases hx with
      | agg h1 h2 => cases hy with
        | agg h3 h4 =>
          refine (Static.sizeOf elem).sim.bind fun ι2 n n' hs2 e => ?_
          cases e
          refine Sim.bind (R := EqR) (Sim.forInR (fun ι3 hs3 f s => ?_) _ _) fun ι3 r r' hs3 e => ?_
          · refine (Sim.part elem (ARel.mono (hs2.trans hs3) ⟨h1, h2⟩) _).bind fun ι4 u u' hs4 hu => ?_
            refine (Sim.part elem (ARel.mono ((hs2.trans hs3).trans hs4) ⟨h3, h4⟩) _).bind fun ι5 v v' hs5 hv => ?_
            refine (Sim.equalIn d elem ι5 _ _ _ _ (hu.mono hs5) hv).bind fun ι6 b b' hs6 e => ?_
            cases e
            split <;> exact Sim.pure rfl
          · cases e
            obtain ⟨r1, r2⟩ := r
            cases r1 <;> exact Sim.pure rfl
        | _ => exact Sim.dead (Dead.stuck _)
      | _ => exact Sim.dead (Dead.stuck _)
    | slice elem =>
      cases hx with
      | nilSlice l c => cases hy with
        | nilSlice => exact Sim.pure rfl
        | slice h => exact Sim.pure rfl
        | emptySlice => exact Sim.pure rfl
        | _ => exact Sim.dead (Dead.stuck _)
      | slice h => cases hy with
        | nilSlice => exact Sim.pure rfl
        | _ => exact Sim.dead (Dead.stuck _)
      | emptySlice => cases hy with
        | nilSlice => exact Sim.pure rfl
        | _ => exact Sim.dead (Dead.stuck _)
      | _ => exact Sim.dead (Dead.stuck _)
    | map k e =>
      cases hx with
      | nilMap => cases hy with
        | nilMap => exact Sim.pure rfl
        | map h => exact Sim.pure rfl
        | _ => exact Sim.dead (Dead.stuck _)
      | map h => cases hy with
        | nilMap => exact Sim.pure rfl
        | _ => exact Sim.dead (Dead.stuck _)
      | _ => exact Sim.dead (Dead.stuck _)
    | func a b c =>
      cases hx with
      | nilFunc => cases hy with
        | nilFunc => exact Sim.pure rfl
        | func => exact Sim.pure rfl
        | _ => exact Sim.dead (Dead.stuck _)
      | func => cases hy with
        | nilFunc => exact Sim.pure rfl
        | _ => exact Sim.dead (Dead.stuck _)
      | _ => exact Sim.dead (Dead.stuck _)
    | chan a b =>
      cases hx with
      | nilChan => cases hy with
        | nilChan => exact Sim.pure rfl
        | _ => exact Sim.dead (Dead.stuck _)
      | _ => exact Sim.dead (Dead.stuck _)
    | unsafePointer =>
      cases hx with
      | nilPtr => cases hy with
        | nilPtr => exact Sim.pure rfl
        | ptr h => exact Sim.pure rfl
        | _ => exact Sim.dead (Dead.stuck _)
      | @ptr a i h => cases hy with
        | nilPtr => exact Sim.pure rfl
        | @ptr b j h' => exact Sim.sameAddr ⟨i, h, rfl⟩ ⟨j, h', rfl⟩
        | _ => exact Sim.dead (Dead.stuck _)
      | _ => exact Sim.dead (Dead.stuck _)
    | float kk => exact absurd hk (NoFloat.no t kk)
    | complex kk => exact absurd hk (NoFloat.noC t kk)
    | _ => exact Sim.dead (Dead.stuck _)

end Go.Ev
