/-
  The evaluator: structs that hold numbers that are not known: when are two equal. No condition.
-/
import Derived.Test.YtmeppoihgfdgaaaDoorEvM
namespace Go.Ev
variable {P : Program}

theorem arunP_bind' {α β : Type} (x : Sem α) (f : α → Sem β) : arunP P (x.bind f) = (arunP P x).bind fun a => arunP P (f a) := by
  induction x with
  | pure a => simp [Sem.bind, arunP]
  | program k ih => simp [Sem.bind, arunP, ih]
  | mark m k ih => simp [Sem.bind, arunP]
  | _ => simp [Sem.bind, arunP]
theorem arunP_bind {α β : Type} (x : Sem α) (f : α → Sem β) : arunP P (x >>= f) = (arunP P x).bind fun a => arunP P (f a) := arunP_bind' x f
/-- What a closed run of the one side has beside it on the other. -/
def TSim (P : Program) {α β : Type} (R : α → β → Prop) (s : Sem α) (s' : Sem β) : Prop := ∀ a, arunP P s = some a → ∀ w, ∃ b, s'.run P w = .ok b w ∧ R a b
theorem TSim.refl {α : Type} (s : Sem α) : TSim P Eq s s := fun a h w => ⟨a, arunP_run s a h w, rfl⟩
theorem TSim.pure {α β : Type} {R : α → β → Prop} {a : α} {b : β} (h : R a b) : TSim P R (Pure.pure a) (Pure.pure b) := fun x hx w => by
  have : a = x := by simpa [arunP, Pure.pure] using hx
  subst this
  exact ⟨b, rfl, h⟩
theorem TSim.bind {α β γ δ : Type} {R : α → β → Prop} {R' : γ → δ → Prop} {s : Sem α} {s' : Sem β} {f : α → Sem γ} {f' : β → Sem δ} (h : TSim P R s s') (hf : ∀ a b, R a b → TSim P R' (f a) (f' b)) : TSim P R' (s >>= f) (s' >>= f') := by
  intro c hc w
  rw [arunP_bind] at hc
  cases h1 : arunP P s with
  | none => rw [h1] at hc; simp at hc
  | some a =>
    rw [h1] at hc
    obtain ⟨b, e1, q1⟩ := h a h1 w
    obtain ⟨d, e2, q2⟩ := hf a b q1 c hc w
    exact ⟨d, by rw [Sem.run_bind, e1]; exact e2, q2⟩
theorem TSim.stuck {α β : Type} {R : α → β → Prop} (m : String) (s' : Sem β) : TSim P R (Go.stuck m : Sem α) s' := fun a h => by simp [Go.stuck, arunP] at h
theorem TSim.unsupported {α β : Type} {R : α → β → Prop} (m : Unsupported) (s' : Sem β) : TSim P R (Go.unsupported m : Sem α) s' := fun a h => by simp [Go.unsupported, arunP] at h

theorem TSim.forInL {α β : Type} {f g : α → β → Sem (ForInStep β)} (h : ∀ a b, TSim P Eq (f a b) (g a b)) : ∀ (l : List α) (b : β), TSim P Eq (forIn l b f) (forIn l b g)
  | [], b => by rw [List.forIn_nil, List.forIn_nil]; exact TSim.pure rfl
  | x :: xs, b => by
    rw [List.forIn_cons, List.forIn_cons]
    refine (h x b).bind fun r r' e => ?_
    subst e
    cases r with
    | done c => exact TSim.pure rfl
    | yield c => exact TSim.forInL h xs c
theorem TSim.forInA {α β : Type} {f g : α → β → Sem (ForInStep β)} (h : ∀ a b, TSim P Eq (f a b) (g a b)) (xs : Array α) (b : β) : TSim P Eq (forIn xs b f) (forIn xs b g) := by
  rw [← Array.forIn_toList, ← Array.forIn_toList]
  exact TSim.forInL h xs.toList b
theorem TSim.forInR {β : Type} {f g : Nat → β → Sem (ForInStep β)} (h : ∀ a b, TSim P Eq (f a b) (g a b)) (r : Std.Legacy.Range) (b : β) : TSim P Eq (forIn r b f) (forIn r b g) := by
  rw [Std.Legacy.Range.forIn_eq_forIn_range', Std.Legacy.Range.forIn_eq_forIn_range']
  exact TSim.forInL h _ b

/-- Two pairs of cells that are equal in the same way. -/
def Tw1 (u v u' v' : Value) : Prop := (∃ k a b a' b', u = .int k a ∧ v = .int k b ∧ u' = .int k a' ∧ v' = .int k b' ∧ (a == b) = (a' == b')) ∨ (u' = u ∧ v' = v)
def TwA (xs ys xs' ys' : Array Value) : Prop := xs'.size = xs.size ∧ ys'.size = ys.size ∧ ∀ (k : Nat) (u v : Value), xs[k]? = some u → ys[k]? = some v → ∃ u' v' : Value, xs'[k]? = some u' ∧ ys'[k]? = some v' ∧ Tw1 u v u' v'
def TwV (x y x' y' : Value) : Prop := Tw1 x y x' y' ∨ ∃ xs ys xs' ys', x = .agg xs ∧ y = .agg ys ∧ x' = .agg xs' ∧ y' = .agg ys' ∧ TwA xs ys xs' ys'

theorem TwA.extract {xs ys xs' ys' : Array Value} (h : TwA xs ys xs' ys') (a b : Nat) : TwA (xs.extract a b) (ys.extract a b) (xs'.extract a b) (ys'.extract a b) := by
  obtain ⟨h1, h2, h3⟩ := h
  refine ⟨by simp [h1], by simp [h2], fun k u v hu hv => ?_⟩
  rw [Array.getElem?_extract] at hu hv
  split at hu
  · rename_i hk
    split at hv
    · rename_i hk'
      obtain ⟨u', v', e1, e2, q⟩ := h3 _ u v hu hv
      refine ⟨u', v', ?_, ?_, q⟩
      · rw [Array.getElem?_extract, h1, if_pos hk]; exact e1
      · rw [Array.getElem?_extract, h2, if_pos hk']; exact e2
    · simp at hv
  · simp at hu

theorem TSim.parts {α β : Type} {R : α → β → Prop} {xs ys xs' ys' : Array Value} (h : TwA xs ys xs' ys') (t : TypeId) (off : Nat) {f : Value → Value → Sem α} {f' : Value → Value → Sem β}
    (hf : ∀ u v u' v', TwV u v u' v' → TSim P R (f u v) (f' u' v')) :
    TSim P R (Go.part t xs off >>= fun u => Go.part t ys off >>= fun v => f u v) (Go.part t xs' off >>= fun u => Go.part t ys' off >>= fun v => f' u v) := by
  have key : ∀ zs, Go.part t zs off = (Go.isAgg t >>= fun b => if b = true then (Go.sizeOf t >>= fun n => Pure.pure (Value.agg (zs.extract off (off + n)))) else (match zs[off]? with | some v => Pure.pure v | none => Go.stuck "part: no such cell")) := fun _ => rfl
  intro a ha w
  rw [arunP_bind] at ha
  cases hb : arunP P (Go.isAgg t) with
  | none => rw [key, arunP_bind, hb] at ha; simp at ha
  | some b =>
    have hbr := arunP_run _ _ hb
    cases b with
    | true =>
      cases hn : arunP P (Go.sizeOf t) with
      | none => rw [key, arunP_bind, hb] at ha; simp only [Option.bind_some, if_true] at ha; rw [arunP_bind, hn] at ha; simp at ha
      | some n =>
        have hnr := arunP_run _ _ hn
        have e1 : ∀ zs, arunP P (Go.part t zs off) = some (.agg (zs.extract off (off + n))) := fun zs => by
          rw [key, arunP_bind, hb]
          simp only [Option.bind_some, if_true]
          rw [arunP_bind, hn]; rfl
        have e2 : ∀ zs w, (Go.part t zs off).run P w = .ok (.agg (zs.extract off (off + n))) w := fun zs w => arunP_run _ _ (e1 zs) w
        rw [e1] at ha
        simp only [Option.bind_some] at ha
        rw [arunP_bind, e1] at ha
        simp only [Option.bind_some] at ha
        obtain ⟨b, q1, q2⟩ := hf _ _ _ _ (.inr ⟨_, _, _, _, rfl, rfl, rfl, rfl, h.extract off (off + n)⟩) a ha w
        refine ⟨b, ?_, q2⟩
        rw [Sem.run_bind, e2]
        simp only [Result.andThen_ok]
        rw [Sem.run_bind, e2]
        exact q1
    | false =>
      have e1 : ∀ zs, Go.part t zs off = (Go.isAgg t >>= fun b => if b = true then (Go.sizeOf t >>= fun n => Pure.pure (Value.agg (zs.extract off (off + n)))) else (match zs[off]? with | some v => Pure.pure v | none => Go.stuck "part: no such cell")) := key
      have e2 : ∀ zs (v : Value), zs[off]? = some v → arunP P (Go.part t zs off) = some v := fun zs v hv => by
        rw [key, arunP_bind, hb]
        simp only [Option.bind_some, Bool.false_eq_true, if_false, hv]
        rfl
      have e3 : ∀ zs : Array Value, zs[off]? = none → arunP P (Go.part t zs off) = none := fun zs hv => by
        rw [key, arunP_bind, hb]
        simp only [Option.bind_some, Bool.false_eq_true, if_false, hv]
        rfl
      cases hu : xs[off]? with
      | none => rw [e3 _ hu] at ha; simp at ha
      | some u =>
        rw [e2 _ _ hu] at ha
        simp only [Option.bind_some] at ha
        rw [arunP_bind] at ha
        cases hv : ys[off]? with
        | none => rw [e3 _ hv] at ha; simp at ha
        | some v =>
          rw [e2 _ _ hv] at ha
          simp only [Option.bind_some] at ha
          obtain ⟨u', v', q1, q2, q3⟩ := h.2.2 off u v hu hv
          obtain ⟨b, r1, r2⟩ := hf _ _ _ _ (.inl q3) a ha w
          refine ⟨b, ?_, r2⟩
          rw [Sem.run_bind, arunP_run _ _ (e2 _ _ q1)]
          simp only [Result.andThen_ok]
          rw [Sem.run_bind, arunP_run _ _ (e2 _ _ q2)]
          exact r1

theorem TSim.equalIn : ∀ (d : Nat) (t : TypeId) (x y x' y' : Value), TwV x y x' y' → TSim P Eq (Op.equalIn d t x y) (Op.equalIn d t x' y')
  | 0, _, _, _, _, _, _ => TSim.unsupported _ _
  | d + 1, t, x, y, x', y', h => by
    rcases h with (⟨k, a, b, a', b', rfl, rfl, rfl, rfl, hab⟩ | ⟨rfl, rfl⟩) | ⟨xs, ys, xs', ys', rfl, rfl, rfl, rfl, hA⟩
    · unfold Op.equalIn
      refine (TSim.refl (Go.underlying t)).bind fun u u' e => ?_
      subst e
      cases u <;> first
        | exact TSim.stuck _ _
        | (show TSim P Eq (if k = k then Pure.pure (a == b) else Go.stuck _) (if k = k then Pure.pure (a' == b') else Go.stuck _)
           rw [if_pos rfl, if_pos rfl]
           exact TSim.pure hab)
    · exact TSim.refl _
    · unfold Op.equalIn
      refine (TSim.refl (Go.underlying t)).bind fun u u' e => ?_
      subst e
      cases u with
      | struct fields =>
        refine (TSim.refl Go.program).bind fun p p' e => ?_
        subst e
        dsimp only
        split
        · intro a h
          rw [arunP_bind] at h
          simp [Go.unsupported, arunP] at h
        · refine TSim.bind (R := Eq) (TSim.forInA (fun f s => ?_) fields _) fun r r' e => ?_
          · split
            · refine TSim.parts hA f.type f.offset fun u v u' v' hT => ?_
              refine (TSim.equalIn d f.type _ _ _ _ hT).bind fun b b' e => ?_
              subst e
              split <;> exact TSim.pure rfl
            · exact TSim.pure rfl
          · subst e
            obtain ⟨r1, r2⟩ := r
            cases r1 <;> exact TSim.pure rfl
      | array len elem =>
        refine (TSim.refl (Go.sizeOf elem)).bind fun n n' e => ?_
        subst e
        refine TSim.bind (R := Eq) (TSim.forInR (fun f s => ?_) _ _) fun r r' e => ?_
        · refine TSim.parts hA elem _ fun u v u' v' hT => ?_
          refine (TSim.equalIn d elem _ _ _ _ hT).bind fun b b' e => ?_
          subst e
          split <;> exact TSim.pure rfl
        · subst e
          obtain ⟨r1, r2⟩ := r
          cases r1 <;> exact TSim.pure rfl
      | _ => exact TSim.stuck _ _

/-! ### Structs with symbols -/
/-- A pair of cells, with numbers in the place of symbols. -/
noncomputable def twin1 (al : List (Nat × Value)) (u v : Value) : Option (Value × Value) :=
  cond (isSym u || isSym v)
    (match vcode u, vcode v with
    | some a, some b => cond (!isBc a && !isBc b && Nat.beq (cK a) (cK b) && Nat.ble (sz b) 65535)
        (cond (Nat.beq a b) (some (.int (kOf (cK a)) 0, .int (kOf (cK a)) 0))
          (match look al (mk 27 (cK a) a b) with
          | some (.bool e) => some (.int (kOf (cK a)) 0, .int (kOf (cK a)) (cond e 0 1))
          | _ => match miss (mk 27 (cK a) a b) with
            | some (.bool e) => some (.int (kOf (cK a)) 0, .int (kOf (cK a)) (cond e 0 1))
            | _ => none)) none
    | _, _ => none)
    (cond (ground1 u && ground1 v) (some (u, v)) none)
noncomputable def twinL (al : List (Nat × Value)) : List Value → List Value → Option (List Value × List Value)
  | [], [] => some ([], [])
  | u :: us, v :: vs => match twin1 al u v, twinL al us vs with
    | some (a, b), some (as, bs) => some (a :: as, b :: bs)
    | _, _ => none
  | _, _ => none

theorem twin1_ok {S : Sy} {G : Nat → Option Obj} {al : List (Nat × Value)} (ha : AlOk S al) {ι : Inj} {u v u' v' a b : Value} (h : twin1 al u v = some (a, b)) (hu : @VRel (symS S G) ι u u') (hv : @VRel (symS S G) ι v v') : Tw1 a b u' v' := by
  letI := symS S G
  unfold twin1 at h
  cases hs : (isSym u || isSym v) with
  | false =>
    rw [hs] at h
    simp only [cond_false] at h
    cases hg : (ground1 u && ground1 v) with
    | false => rw [hg] at h; simp at h
    | true =>
      rw [hg] at h
      simp only [cond_true, Option.some.injEq, Prod.mk.injEq] at h
      obtain ⟨rfl, rfl⟩ := h
      simp only [Bool.and_eq_true] at hg
      exact .inr ⟨ground1_eq hg.1 hu, ground1_eq hg.2 hv⟩
  | true =>
    rw [hs] at h
    simp only [cond_true] at h
    cases hcu : vcode u with
    | none => rw [hcu] at h; simp at h
    | some c => cases hcv : vcode v with
      | none => rw [hcu, hcv] at h; simp at h
      | some d =>
        rw [hcu, hcv] at h
        simp only at h
        obtain ⟨m, rfl, em⟩ := vcode_ok hu hcu
        obtain ⟨n, rfl, en⟩ := vcode_ok hv hcv
        cases hk : (!isBc c && !isBc d && Nat.beq (cK c) (cK d) && Nat.ble (sz d) 65535) with
        | false => rw [hk] at h; simp at h
        | true =>
          rw [hk] at h
          simp only [cond_true] at h
          simp only [Bool.and_eq_true, Bool.not_eq_true'] at hk
          obtain ⟨⟨⟨hb1, hb2⟩, hk⟩, hz⟩ := hk
          have em1 : mkV c m = .int (kOf (cK c)) m := by unfold mkV; rw [hb1]; rfl
          have en1 : mkV d n = .int (kOf (cK d)) n := by unfold mkV; rw [hb2]; rfl
          rw [em1, en1]
          have hk := Nat.eq_of_beq_eq_true hk
          have hz := Nat.le_of_ble_eq_true hz
          cases hb : Nat.beq c d with
          | true =>
            rw [hb] at h
            simp only [cond_true, Option.some.injEq, Prod.mk.injEq] at h
            obtain ⟨rfl, rfl⟩ := h
            have := Nat.eq_of_beq_eq_true hb
            subst this
            rw [em] at en
            simp only [Option.some.injEq, List.cons.injEq, and_true] at en
            subst en
            exact .inl ⟨_, _, _, _, _, rfl, rfl, rfl, rfl, by simp⟩
          | false =>
            rw [hb] at h
            simp only [cond_false] at h
            have main : ∀ e : Bool, look al (mk 27 (cK c) c d) = some (.bool e) → (a, b) = (Value.int (kOf (cK c)) 0, Value.int (kOf (cK c)) (cond e 0 1)) → Tw1 a b (.int (kOf (cK c)) m) (.int (kOf (cK d)) n) := by
              intro e hl hab
              cases hab
              have h1 : isBc (mk 27 (cK c) c d) = true ∧ ev S (mk 27 (cK c) c d) = some [b2i e] := look_ok ha hl
              have h3 := h1.2
              rw [ev_mk S (show cK c < 8 from Nat.mod_lt _ (by decide)) (by decide) (by decide) (by decide) (by omega), em, en] at h3
              have h2 : numV (vBin .eql (kOf (cK c)) m n) = some [b2i e] := h3
              simp only [vBin, numV, Option.some.injEq, List.cons.injEq, and_true] at h2
              have h2 : decide (m = n) = e := by
                have := congrArg (fun z => decide (z ≠ 0)) h2
                simpa only [b2i_ne] using this
              refine .inl ⟨_, _, _, _, _, rfl, rfl, rfl, by rw [hk], ?_⟩
              rw [← h2]
              by_cases hmn : m = n
              · subst hmn; simp
              · simp [hmn]
            split at h
            · rename_i e hl
              simp only [Option.some.injEq] at h
              exact main e hl h.symm
            · simp [miss] at h

theorem ARel.toL {S : Sy} {G : Nat → Option Obj} {ι : Inj} {xs xs' : Array Value} (h : @ARel (symS S G) ι xs xs') : xs'.toList.length = xs.toList.length ∧ ∀ (k : Nat) (u : Value), xs.toList[k]? = some u → ∃ u' : Value, xs'.toList[k]? = some u' ∧ @VRel (symS S G) ι u u' := by
  letI := symS S G
  refine ⟨by simpa using h.1.symm, fun k u hu => ?_⟩
  have hk : k < xs.size := by
    by_cases hk : k < xs.size
    · exact hk
    · rw [List.getElem?_eq_none (by simpa using Nat.le_of_not_lt hk)] at hu
      simp at hu
  have := h.2 k hk
  have hk' : k < xs'.size := h.1 ▸ hk
  refine ⟨xs'.getD k undf, ?_, ?_⟩
  · simp [hk']
  · have e : xs.getD k undf = u := by
      simp [hk] at hu ⊢
      exact hu
    rw [← e]
    exact this

theorem twinL_ok {S : Sy} {G : Nat → Option Obj} {al : List (Nat × Value)} (ha : AlOk S al) {ι : Inj} : ∀ (us vs us' vs' as bs : List Value), twinL al us vs = some (as, bs) →
    (us'.length = us.length ∧ ∀ (k : Nat) (u : Value), us[k]? = some u → ∃ u' : Value, us'[k]? = some u' ∧ @VRel (symS S G) ι u u') →
    (vs'.length = vs.length ∧ ∀ (k : Nat) (u : Value), vs[k]? = some u → ∃ u' : Value, vs'[k]? = some u' ∧ @VRel (symS S G) ι u u') →
    us'.length = as.length ∧ vs'.length = bs.length ∧ ∀ (k : Nat) (u v : Value), as[k]? = some u → bs[k]? = some v → ∃ u' v' : Value, us'[k]? = some u' ∧ vs'[k]? = some v' ∧ Tw1 u v u' v'
  | [], [], us', vs', as, bs, h, hu, hv => by
    simp only [twinL, Option.some.injEq, Prod.mk.injEq] at h
    obtain ⟨rfl, rfl⟩ := h
    refine ⟨hu.1, hv.1, fun k u v h => by simp at h⟩
  | u :: us, v :: vs, us', vs', as, bs, h, hu, hv => by
    simp only [twinL] at h
    cases h1 : twin1 al u v with
    | none => rw [h1] at h; simp at h
    | some ab => cases h2 : twinL al us vs with
      | none => rw [h1, h2] at h; simp at h
      | some abs =>
        rw [h1, h2] at h
        obtain ⟨a, b⟩ := ab
        obtain ⟨as1, bs1⟩ := abs
        simp only [Option.some.injEq, Prod.mk.injEq] at h
        obtain ⟨rfl, rfl⟩ := h
        cases us' with
        | nil => simp at hu
        | cons u' us' => cases vs' with
          | nil => simp at hv
          | cons v' vs' =>
            obtain ⟨x, hx, rx⟩ := hu.2 0 u rfl
            obtain ⟨y, hy, ry⟩ := hv.2 0 v rfl
            simp only [List.getElem?_cons_zero, Option.some.injEq] at hx hy
            subst hx
            subst hy
            obtain ⟨q1, q2, q3⟩ := twinL_ok ha us vs us' vs' as1 bs1 h2
              ⟨by simpa using hu.1, fun k z hz => by have := hu.2 (k + 1) z (by simpa using hz); simpa using this⟩
              ⟨by simpa using hv.1, fun k z hz => by have := hv.2 (k + 1) z (by simpa using hz); simpa using this⟩
            refine ⟨by simp [q1], by simp [q2], fun k z z' hz hz' => ?_⟩
            cases k with
            | zero =>
              simp only [List.getElem?_cons_zero, Option.some.injEq] at hz hz'
              subst hz
              subst hz'
              exact ⟨u', v', by simp, by simp, twin1_ok ha h1 rx ry⟩
            | succ k =>
              simp only [List.getElem?_cons_succ] at hz hz' ⊢
              exact q3 k z z' hz hz'
  | [], _ :: _, _, _, _, _, h, _, _ => by simp [twinL] at h
  | _ :: _, [], _, _, _, _, h, _, _ => by simp [twinL] at h

/-- Are two structs equal? -/
noncomputable def symEq (P : Program) (al : List (Nat × Value)) (t : TypeId) (xs ys : Array Value) : Option Bool :=
  match twinL al xs.toList ys.toList with
  | some (as, bs) => cond (P.eqGuardType P.depth t) none (arunP P (Op.equal t (.agg as.toArray) (.agg bs.toArray)))
  | none => none
theorem symEq_ok {S : Sy} {G : Nat → Option Obj} {al : List (Nat × Value)} (ha : AlOk S al) {ι : Inj} {t : TypeId} {xs ys xs' ys' : Array Value} {b : Bool} (h : symEq P al t xs ys = some b) (hx : @ARel (symS S G) ι xs xs') (hy : @ARel (symS S G) ι ys ys') (w : World) :
    P.eqGuardType P.depth t = false ∧ (Op.equal t (.agg xs') (.agg ys')).run P w = .ok b w := by
  unfold symEq at h
  split at h
  · rename_i as bs hT
    cases hg : P.eqGuardType P.depth t with
    | true => rw [hg] at h; simp at h
    | false =>
      rw [hg] at h
      simp only [cond_false] at h
      obtain ⟨q1, q2, q3⟩ := twinL_ok ha _ _ _ _ as bs hT hx.toL hy.toL
      have hA : TwA as.toArray bs.toArray xs' ys' := by
        refine ⟨by simpa using q1, by simpa using q2, fun k u v hu hv => ?_⟩
        obtain ⟨u', v', e1, e2, e3⟩ := q3 k u v (by simpa using hu) (by simpa using hv)
        exact ⟨u', v', by simpa using e1, by simpa using e2, e3⟩
      obtain ⟨b', e1, e2⟩ := TSim.equalIn (P := P) Op.maxDepth t _ _ _ _ (.inr ⟨_, _, _, _, rfl, rfl, rfl, rfl, hA⟩) b h w
      subst e2
      exact ⟨rfl, e1⟩
  · simp at h
end Go.Ev
