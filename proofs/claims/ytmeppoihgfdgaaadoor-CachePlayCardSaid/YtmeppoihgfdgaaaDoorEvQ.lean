/-
  The evaluator: two structs of whole numbers and truths: whether they are equal, as a truth that need not be known. No condition.
-/
import Derived.Test.YtmeppoihgfdgaaaDoorEvN
namespace Go.Ev
variable {P : Program}

/-- The cells that decide, and whether each is a truth. -/
def flatT (P : Program) (t : TypeId) : Option (List (Nat × Bool)) :=
  match P.underlying t with
  | some (.struct fs) => if P.stoodInHeld t then none else fs.toList.mapM fun f => if f.name = "_" then none else match P.underlying f.type with
    | some (.int _) => some (f.offset, false)
    | some .bool => some (f.offset, true)
    | _ => none
  | _ => none

noncomputable def andV (al : List (Nat × Value)) (x y : Value) : Option Value :=
  match x with
  | .bool false => some (.bool false)
  | .bool true => some y
  | .float .f64 c => match y with
    | .bool false => some (.bool false)
    | .bool true => some (.float .f64 c)
    | .float .f64 d => cond (isBc c && isBc d && Nat.ble (sz d) 65535) (fin al (mk 33 0 c d) true) none
    | _ => none
  | _ => none
theorem code_bool {S : Sy} {G : Nat → Option Obj} {ι : Inj} {c : Nat} {b : Bool} (h : @VRel (symS S G) ι (.float .f64 c) (.bool b)) : isBc c = true ∧ ev S c = some [b2i b] := by
  letI := symS S G
  obtain ⟨n, e, hn⟩ := vcode_ok (c := c) h rfl
  unfold mkV at e
  cases hb : isBc c with
  | false => rw [hb] at e; simp at e
  | true =>
    rw [hb] at e
    simp only [cond_true, Value.bool.injEq] at e
    refine ⟨rfl, ?_⟩
    rw [hn, e]
    rcases ev01 hb hn with rfl | rfl <;> rfl
theorem andV_ok {S : Sy} {G : Nat → Option Obj} {al : List (Nat × Value)} (ha : AlOk S al) {ι : Inj} {x y v : Value} {p q : Bool} (h : andV al x y = some v) (hx : @VRel (symS S G) ι x (.bool p)) (hy : @VRel (symS S G) ι y (.bool q)) :
    @VRel (symS S G) ι v (.bool (p && q)) := by
  letI := symS S G
  unfold andV at h
  split at h
  · cases hx
    simp only [Option.some.injEq] at h
    subst h
    exact .bool _
  · cases hx
    simp only [Option.some.injEq] at h
    subst h
    simpa using hy
  · rename_i c
    split at h
    · cases hy
      simp only [Option.some.injEq] at h
      subst h
      simpa using VRel.bool (ι := ι) false
    · cases hy
      simp only [Option.some.injEq] at h
      subst h
      simpa using hx
    · rename_i d
      obtain ⟨h1, e1⟩ := code_bool hx
      obtain ⟨h2, e2⟩ := code_bool hy
      cases hs : (isBc c && isBc d && Nat.ble (sz d) 65535) with
      | false => rw [hs] at h; simp at h
      | true =>
        rw [hs] at h
        simp only [cond_true] at h
        simp only [Bool.and_eq_true] at hs
        have hz := Nat.le_of_ble_eq_true hs.2
        have e := ev_mk S (t := 33) (k := 0) (a := c) (b := d) (by decide) (by decide) (by decide) (by decide) (by omega)
        rw [e1, e2] at e
        have r := fin_num (G := G) (ι := ι) ha h (e.trans (by rfl))
        unfold mkV at r
        rw [isBc_mk (by decide) (by decide), show (Nat.ble 27 33 || (Nat.ble 11 33 && Nat.ble 33 15)) = true from rfl, cond_true, b2i_ne, b2i_ne, b2i_ne] at r
        exact r
    · simp at h
  · simp at h

noncomputable def eqLeaf (al : List (Nat × Value)) (isB : Bool) (x y : Value) : Option Value :=
  match x, y with
  | .int k m, .int j n => cond (!isB && eqK k j) (some (.bool (eqI m n))) none
  | .bool p, .bool q => cond isB (some (.bool (p == q))) none
  | x, y => match vcode x, vcode y with
    | some a, some b => cond (Nat.ble (sz b) 65535)
        (cond (isBc a)
          (cond (isB && isBc b) (cond (Nat.beq a b) (some (.bool true)) (fin al (mk 13 0 a b) true)) none)
          (cond (!isB && !isBc b && Nat.beq (cK a) (cK b)) (cond (Nat.beq a b) (some (.bool true)) (fin al (mk 27 (cK a) a b) true)) none)) none
    | _, _ => none
/-- What two cells are, and whether they are equal. -/
def LeafEq (isB : Bool) (x y : Value) (b : Bool) : Prop := (isB = false ∧ ∃ k m n, x = .int k m ∧ y = .int k n ∧ b = (m == n)) ∨ (isB = true ∧ ∃ p q, x = .bool p ∧ y = .bool q ∧ b = (p == q))
theorem eqLeaf_ok {S : Sy} {G : Nat → Option Obj} {al : List (Nat × Value)} (ha : AlOk S al) {ι : Inj} {isB : Bool} {x y x' y' v : Value} (h : eqLeaf al isB x y = some v) (hx : @VRel (symS S G) ι x x') (hy : @VRel (symS S G) ι y y') :
    ∃ b, LeafEq isB x' y' b ∧ @VRel (symS S G) ι v (.bool b) := by
  letI := symS S G
  have gen : (match vcode x, vcode y with
    | some a, some b => cond (Nat.ble (sz b) 65535)
        (cond (isBc a)
          (cond (isB && isBc b) (cond (Nat.beq a b) (some (.bool true)) (fin al (mk 13 0 a b) true)) none)
          (cond (!isB && !isBc b && Nat.beq (cK a) (cK b)) (cond (Nat.beq a b) (some (.bool true)) (fin al (mk 27 (cK a) a b) true)) none)) none
    | _, _ => none) = some v → ∃ b, LeafEq isB x' y' b ∧ @VRel (symS S G) ι v (.bool b) := by
    clear h
    intro h
    split at h
    · rename_i a b hca hcb
      obtain ⟨m, rfl, em⟩ := vcode_ok hx hca
      obtain ⟨n, rfl, en⟩ := vcode_ok hy hcb
      cases hs : Nat.ble (sz b) 65535 with
      | false => rw [hs] at h; simp at h
      | true =>
        rw [hs] at h
        simp only [cond_true] at h
        have hz := Nat.le_of_ble_eq_true hs
        cases hba : isBc a with
        | true =>
          rw [hba] at h
          simp only [cond_true] at h
          cases hc : (isB && isBc b) with
          | false => rw [hc] at h; simp at h
          | true =>
            rw [hc] at h
            simp only [cond_true] at h
            simp only [Bool.and_eq_true] at hc
            obtain ⟨rfl, hbb⟩ := hc
            have ea : mkV a m = .bool (decide (m ≠ 0)) := by unfold mkV; rw [hba]; rfl
            have eb : mkV b n = .bool (decide (n ≠ 0)) := by unfold mkV; rw [hbb]; rfl
            have emn : (decide (m ≠ 0) == decide (n ≠ 0)) = decide (m = n) := by
              rcases ev01 hba em with rfl | rfl <;> rcases ev01 hbb en with rfl | rfl <;> rfl
            refine ⟨decide (m = n), .inr ⟨rfl, _, _, ea, eb, emn.symm⟩, ?_⟩
            cases hab : Nat.beq a b with
            | true =>
              rw [hab] at h
              simp only [cond_true, Option.some.injEq] at h
              subst h
              have := Nat.eq_of_beq_eq_true hab
              subst this
              rw [em] at en
              simp only [Option.some.injEq, List.cons.injEq, and_true] at en
              subst en
              simpa using VRel.bool (ι := ι) true
            | false =>
              rw [hab] at h
              simp only [cond_false] at h
              have e := ev_mk S (t := 13) (k := 0) (a := a) (b := b) (by decide) (by decide) (by decide) (by decide) (by omega)
              rw [em, en] at e
              have q := fin_num (G := G) (ι := ι) ha h (e.trans (by rfl))
              unfold mkV at q
              rw [isBc_mk (by decide) (by decide), show (Nat.ble 27 13 || (Nat.ble 11 13 && Nat.ble 13 15)) = true from rfl, cond_true, b2i_ne] at q
              exact q
        | false =>
          rw [hba] at h
          simp only [cond_false] at h
          cases hc : (!isB && !isBc b && Nat.beq (cK a) (cK b)) with
          | false => rw [hc] at h; simp at h
          | true =>
            rw [hc] at h
            simp only [cond_true] at h
            simp only [Bool.and_eq_true, Bool.not_eq_true'] at hc
            obtain ⟨⟨rfl, hbb⟩, hk⟩ := hc
            have hk := Nat.eq_of_beq_eq_true hk
            have ea : mkV a m = .int (kOf (cK a)) m := by unfold mkV; rw [hba]; rfl
            have eb : mkV b n = .int (kOf (cK a)) n := by unfold mkV; rw [hbb, hk]; rfl
            have emn : (m == n) = decide (m = n) := by rw [Bool.eq_iff_iff]; simp
            refine ⟨decide (m = n), .inl ⟨rfl, _, _, _, ea, eb, emn.symm⟩, ?_⟩
            cases hab : Nat.beq a b with
            | true =>
              rw [hab] at h
              simp only [cond_true, Option.some.injEq] at h
              subst h
              have := Nat.eq_of_beq_eq_true hab
              subst this
              rw [em] at en
              simp only [Option.some.injEq, List.cons.injEq, and_true] at en
              subst en
              simpa using VRel.bool (ι := ι) true
            | false =>
              rw [hab] at h
              simp only [cond_false] at h
              have hk8 : cK a < 8 := Nat.mod_lt _ (by decide)
              have e := ev_mk S (t := 27) (a := a) (b := b) hk8 (by decide) (by decide) (by decide) (by omega)
              rw [em, en] at e
              have q := fin_num (G := G) (ι := ι) ha h (e.trans (by rfl))
              unfold mkV at q
              rw [isBc_mk hk8 (by decide), show (Nat.ble 27 27 || (Nat.ble 11 27 && Nat.ble 27 15)) = true from rfl, cond_true, b2i_ne] at q
              exact q
    · simp at h
  unfold eqLeaf at h
  split at h
  · rename_i k m j n
    cases hx
    cases hy
    cases hc : (!isB && eqK k j) with
    | false => rw [hc] at h; simp at h
    | true =>
      rw [hc] at h
      simp only [cond_true, Option.some.injEq] at h
      subst h
      simp only [Bool.and_eq_true, Bool.not_eq_true'] at hc
      obtain ⟨rfl, hk⟩ := hc
      obtain rfl := eqK_ok hk
      exact ⟨_, .inl ⟨rfl, _, _, _, rfl, rfl, rfl⟩, by rw [eqI_eq]; exact .bool _⟩
  · rename_i p q
    cases hx
    cases hy
    cases isB with
    | false => simp at h
    | true =>
      simp only [cond_true, Option.some.injEq] at h
      subst h
      exact ⟨_, .inr ⟨rfl, _, _, rfl, rfl, rfl⟩, .bool _⟩
  · exact gen h

noncomputable def flatEq (al : List (Nat × Value)) (xs ys : Array Value) : List (Nat × Bool) → Option Value
  | [] => some (.bool true)
  | (o, isB) :: r => match xs[o]?, ys[o]? with
    | some x, some y => match eqLeaf al isB x y with
      | some e => match flatEq al xs ys r with
        | some f => andV al e f
        | none => none
      | none => none
    | _, _ => none

theorem mapM_none {α β : Type} {f : α → Option β} {x : α} {xs : List α} {r : List β} (h : (x :: xs).mapM f = some r) : ∃ y ys, f x = some y ∧ xs.mapM f = some ys ∧ r = y :: ys := by
  rw [List.mapM_cons] at h
  cases hx : f x with
  | none => rw [hx] at h; simp at h
  | some y =>
    rw [hx] at h
    cases hy : xs.mapM f with
    | none => rw [hy] at h; simp at h
    | some ys =>
      rw [hy] at h
      simp at h
      exact ⟨y, ys, rfl, rfl, h.symm⟩

theorem flat_loop {w : World} {body : Field → Option Bool × Unit → Sem (ForInStep (Option Bool × Unit))} : ∀ (fs : List Field) (bs : List Bool), fs.length = bs.length → (∀ (k : Nat) (f : Field) (b : Bool), fs[k]? = some f → bs[k]? = some b → ∀ s, (body f s).run P w = .ok (if b then .yield (none, ()) else .done (some false, ())) w) →
    (forIn fs ((none, ()) : Option Bool × Unit) body : Sem (Option Bool × Unit)).run P w = .ok (if bs.all id then (none, ()) else (some false, ())) w
  | [], [], _, _ => by rw [List.forIn_nil]; rfl
  | f :: fs, b :: bs, hl, h => by
    rw [List.forIn_cons, Sem.run_bind, h 0 f b rfl rfl]
    cases b with
    | false => simp
    | true =>
      have := flat_loop fs bs (by simpa using hl) fun k f b hf hb => h (k + 1) f b (by simpa using hf) (by simpa using hb)
      simpa using this
  | [], _ :: _, hl, _ => by simp at hl
  | _ :: _, [], hl, _ => by simp at hl

/-- What each field comes to. -/
theorem flatEq_ok {S : Sy} {G : Nat → Option Obj} {al : List (Nat × Value)} (ha : AlOk S al) {ι : Inj} {xs ys xs' ys' : Array Value} (hx : @ARel (symS S G) ι xs xs') (hy : @ARel (symS S G) ι ys ys') : ∀ (l : List (Nat × Bool)) (v : Value), flatEq al xs ys l = some v →
    ∃ bs : List Bool, l.length = bs.length ∧ @VRel (symS S G) ι v (.bool (bs.all id)) ∧ ∀ (k : Nat) (o : Nat) (isB b : Bool), l[k]? = some (o, isB) → bs[k]? = some b → ∃ x' y' : Value, xs'[o]? = some x' ∧ ys'[o]? = some y' ∧ LeafEq isB x' y' b
  | [], v, h => by
    letI := symS S G
    simp only [flatEq, Option.some.injEq] at h
    subst h
    exact ⟨[], rfl, .bool _, fun k o isB b hk => by simp at hk⟩
  | (o, isB) :: r, v, h => by
    letI := symS S G
    simp only [flatEq] at h
    split at h
    · rename_i x y hxo hyo
      obtain ⟨x', hx', rx⟩ := hx.get? hxo
      obtain ⟨y', hy', ry⟩ := hy.get? hyo
      cases he : eqLeaf al isB x y with
      | none => rw [he] at h; simp at h
      | some e => cases hf : flatEq al xs ys r with
        | none => rw [he, hf] at h; simp at h
        | some f =>
          rw [he, hf] at h
          simp only at h
          obtain ⟨b, hb, qe⟩ := eqLeaf_ok (G := G) (ι := ι) ha he rx ry
          obtain ⟨bs, hl, qf, hall⟩ := flatEq_ok ha hx hy r f hf
          refine ⟨b :: bs, by simp [hl], ?_, fun k o' isB' b' hk hb' => ?_⟩
          · have := andV_ok (G := G) (ι := ι) ha h qe qf
            simpa using this
          · cases k with
            | zero =>
              simp only [List.getElem?_cons_zero, Option.some.injEq, Prod.mk.injEq] at hk hb'
              obtain ⟨rfl, rfl⟩ := hk
              subst hb'
              exact ⟨x', y', hx', hy', hb⟩
            | succ k => exact hall k o' isB' b' (by simpa using hk) (by simpa using hb')
    · simp at h

theorem isAgg_scalar {t : TypeId} {d : TypeDesc} (hu : P.underlying t = some d) (hd : (∃ k, d = .int k) ∨ d = .bool) (w : World) : (Go.isAgg t).run P w = .ok false w := by
  unfold Go.isAgg
  rw [Sem.run_bind, run_underlying hu]
  rcases hd with ⟨k, rfl⟩ | rfl <;> rfl
theorem part_scalar {t : TypeId} {d : TypeDesc} (hu : P.underlying t = some d) (hd : (∃ k, d = .int k) ∨ d = .bool) {cs : Array Value} {o : Nat} {v : Value} (hv : cs[o]? = some v) (w : World) : (Go.part t cs o).run P w = .ok v w := by
  unfold Go.part
  rw [Sem.run_bind, isAgg_scalar hu hd]
  simp only [Result.andThen_ok, Bool.false_eq_true, if_false, hv]
  rfl

theorem flat_equal {t : TypeId} {l : List (Nat × Bool)} (ht : flatT P t = some l) {xs' ys' : Array Value} {bs : List Bool} (hl : l.length = bs.length)
    (hall : ∀ (k : Nat) (o : Nat) (isB b : Bool), l[k]? = some (o, isB) → bs[k]? = some b → ∃ x' y' : Value, xs'[o]? = some x' ∧ ys'[o]? = some y' ∧ LeafEq isB x' y' b) (w : World) :
    (Op.equal t (.agg xs') (.agg ys')).run P w = .ok (bs.all id) w := by
  unfold flatT at ht
  split at ht
  · rename_i fs hu
    by_cases hst : P.stoodInHeld t = true
    · rw [if_pos hst] at ht; simp at ht
    · rw [if_neg hst] at ht
      unfold Op.equal
      show (Op.equalIn (9999 + 1) t (.agg xs') (.agg ys')).run P w = _
      unfold Op.equalIn
      rw [Sem.run_bind, run_underlying hu]
      simp only [Result.andThen_ok, Sem.run_bind, run_program, hst, Bool.false_eq_true, if_false]
      have hlf : ∀ (fs : List Field) (l : List (Nat × Bool)), fs.mapM (fun f => if f.name = "_" then none else match P.underlying f.type with
          | some (.int _) => some (f.offset, false)
          | some .bool => some (f.offset, true)
          | _ => none) = some l → fs.length = l.length ∧ ∀ (k : Nat) (f : Field), fs[k]? = some f → f.name ≠ "_" ∧ ∃ isB, l[k]? = some (f.offset, isB) ∧ ((isB = false ∧ ∃ j, P.underlying f.type = some (.int j)) ∨ (isB = true ∧ P.underlying f.type = some .bool)) := by
        intro fs
        induction fs with
        | nil => intro l h; simp at h; subst h; exact ⟨rfl, fun k f hk => by simp at hk⟩
        | cons f fs ih =>
          intro l h
          obtain ⟨y, ys, h1, h2, rfl⟩ := mapM_none h
          obtain ⟨i1, i2⟩ := ih ys h2
          refine ⟨by simp [i1], fun k g hk => ?_⟩
          cases k with
          | zero =>
            simp only [List.getElem?_cons_zero, Option.some.injEq] at hk
            subst hk
            by_cases hn : f.name = "_"
            · rw [if_pos hn] at h1; simp at h1
            · rw [if_neg hn] at h1
              refine ⟨hn, ?_⟩
              split at h1
              · rename_i j hj
                simp only [Option.some.injEq] at h1
                subst h1
                exact ⟨false, rfl, .inl ⟨rfl, j, hj⟩⟩
              · rename_i hj
                simp only [Option.some.injEq] at h1
                subst h1
                exact ⟨true, rfl, .inr ⟨rfl, hj⟩⟩
              · simp at h1
          | succ k => simpa using i2 k g (by simpa using hk)
      obtain ⟨hlen, hfs⟩ := hlf fs.toList l ht
      rw [← Array.forIn_toList]
      rw [flat_loop fs.toList bs (by omega) ?_]
      · cases bs.all id <;> rfl
      · intro k f b hf hb s
        obtain ⟨hn, isB, hk, hty⟩ := hfs k f hf
        obtain ⟨x', y', hx, hy, hleaf⟩ := hall k _ isB b hk hb
        have hd : ∃ d, P.underlying f.type = some d ∧ ((∃ k, d = .int k) ∨ d = .bool) := by
          rcases hty with ⟨_, j, hj⟩ | ⟨_, hj⟩
          · exact ⟨_, hj, .inl ⟨j, rfl⟩⟩
          · exact ⟨_, hj, .inr rfl⟩
        obtain ⟨d, hu', hd⟩ := hd
        have he : (Op.equalIn 9999 f.type x' y').run P w = .ok b w := by
          show (Op.equalIn (9998 + 1) f.type x' y').run P w = .ok b w
          unfold Op.equalIn
          rcases hleaf with ⟨rfl, k, m, n, rfl, rfl, rfl⟩ | ⟨rfl, p, q, rfl, rfl, rfl⟩
          · rcases hty with ⟨_, j, hj⟩ | ⟨h, _⟩
            · rw [Sem.run_bind, run_underlying hj]
              simp
            · cases h
          · rcases hty with ⟨h, _⟩ | ⟨_, hj⟩
            · cases h
            · rw [Sem.run_bind, run_underlying hj]
              rfl
        rw [if_pos hn, Sem.run_bind, part_scalar hu' hd hx]
        simp only [Result.andThen_ok]
        rw [Sem.run_bind, part_scalar hu' hd hy]
        simp only [Result.andThen_ok]
        rw [Sem.run_bind, he]
        cases b <;> rfl
  · simp at ht
end Go.Ev
