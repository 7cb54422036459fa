/-
  The evaluator: what operations on symbols come to (the look ahead of all other ways), calls by contract, and what a run with symbols says. Conditions: AlOk, CtrOk.
-/
import Derived.Test.YtmeppoihgfdgaaaDoorEvAs
namespace Go.Ev
open Go.RowKit

noncomputable def symUn (al : List (Nat × Value)) (op : UnOp) (a : Nat) : Option Value :=
  match op with
  | .neg => cond (!isBc a && Nat.ble (sz a) 65535) (fin al (mk 4 (cK a) 0 a) true) none
  | .xor => cond (!isBc a && Nat.ble (sz a) 65535) (fin al (mk 5 (cK a) 0 a) true) none
  | .not => cond (isBc a && Nat.ble (sz a) 65535) (fin al (mk 11 0 0 a) true) none
  | _ => none
noncomputable def symConv (al : List (Nat × Value)) (k : IntKind) (a : Nat) : Option Value :=
  cond (!isBc a && Nat.ble (sz a) 65535) (fin al (mk 3 (kI k) 0 a) true) none
noncomputable def symMax (al : List (Nat × Value)) (mx : Bool) (a b : Nat) : Option Value :=
  cond (!isBc a && !isBc b && Nat.beq (cK a) (cK b) && Nat.ble (sz b) 65535) (fin al (mk (cond mx 9 10) (cK a) a b) true) none
def anySym (xs : Array Value) : Bool := xs.toList.any isSym
/-- Are two structs equal? -/
noncomputable def symEqV (P : Program) (al : List (Nat × Value)) (t : TypeId) (xs ys : Array Value) : Option Value :=
  match flatT P t with
  | some l => cond (P.eqGuardType P.depth t) none (flatEq al xs ys l)
  | none => match symEq P al t xs ys with
    | some b => some (.bool b)
    | none => none
noncomputable def notV (al : List (Nat × Value)) : Value → Option Value
  | .bool b => some (.bool (!b))
  | .float .f64 c => symUn al .not c
  | _ => none
noncomputable def symOp2 (P : Program) (al : List (Nat × Value)) (op : BinOp) (t : TypeId) (x y : Value) : Option Value :=
  match x, y with
  | .agg xs, .agg ys => cond (anySym xs || anySym ys)
      (match op with
      | .eql => symEqV P al t xs ys
      | .neq => match symEqV P al t xs ys with
        | some v => notV al v
        | none => none
      | _ => none) none
  | x, y => cond (isSym x || isSym y)
      (match vcode x, vcode y with
      | some a, some b => symBin P al op t a b
      | _, _ => none) none
noncomputable def symCall (al : List (Nat × Value)) (mx : Bool) (vs : List Value) : Option Value :=
  match vs with
  | [x, y] => cond (isSym x || isSym y)
      (match vcode x, vcode y with
      | some a, some b => symMax al mx a b
      | _, _ => none) none
  | _ => none
noncomputable def orcN (P : Program) (al : List (Nat × Value)) (o : Oper) (g : Nat → Value) : Option Value :=
  match o.op with
  | .binOp op t x y _ => symOp2 P al op t (opv g x) (opv g y)
  | .unOp op _ x => match opv g x with
    | .float .f64 a => symUn al op a
    | _ => none
  | .convert s d x => match opv g x with
    | .float .f64 a => match kindOf P d with
      | some k => cond (P.underlying s).isSome (symConv al k a) none
      | none => none
    | _ => none
  | .call { callee := .builtin .max, args, .. } => symCall al true (args.toList.map (opv g))
  | .call { callee := .builtin .min, args, .. } => symCall al false (args.toList.map (opv g))
  | _ => none

theorem ok_value {s : Sem Value} {P : Program} {v : Value} {w : World} (h : s.run P w = .ok v w) : (do Pure.pure (Next.value (← s)) : Sem Next).run P w = .ok (.value v) w := by
  rw [Sem.run_bind, h]; rfl

theorem convert_run {P : Program} {s d : TypeId} {k k0 : IntKind} {n : Int} (hk : kindOf P d = some k) (hs : (P.underlying s).isSome = true) (w : World) : (Go.convert s d (.int k0 n)).run P w = .ok (.int k (k.wrap n)) w := by
  have hd : P.underlying d = some (.int k) := by
    unfold kindOf at hk
    split at hk
    · simp only [Option.some.injEq] at hk; subst hk; assumption
    · simp at hk
  obtain ⟨sd, hsd⟩ := Option.isSome_iff_exists.1 hs
  unfold Go.convert
  rw [Sem.run_bind, run_underlying hsd]
  simp only [Result.andThen_ok]
  rw [Sem.run_bind, run_underlying hd]
  simp only [Result.andThen_ok]
  cases sd <;> rfl

theorem mkV_num {c : Nat} (h : isBc c = false) (n : Int) : mkV c n = .int (kOf (cK c)) n := by unfold mkV; rw [h]; rfl
theorem mkV_low {t k a b : Nat} (hk : k < 8) (ht : t < 11) (n : Int) : mkV (mk t k a b) n = .int (kOf k) n := by
  rw [mkV_num, mk_K hk]
  rw [isBc_mk hk (by omega), ble_false (show t < 27 by omega), ble_false (show t < 11 by omega)]
  rfl
theorem symMax_ok {S : Sy} {G : Nat → Option Obj} {al : List (Nat × Value)} (ha : AlOk S al) {ι : Inj} {mx : Bool} {a b : Nat} {v : Value} {m n : Int} (h : symMax al mx a b = some v) (hm : ev S a = some [m]) (hn : ev S b = some [n]) :
    (isBc a = false ∧ isBc b = false ∧ cK a = cK b) ∧ @VRel (symS S G) ι v (.int (kOf (cK a)) (if mx then (if m < n then n else m) else (if n < m then n else m))) := by
  unfold symMax at h
  cases hc : (!isBc a && !isBc b && Nat.beq (cK a) (cK b) && Nat.ble (sz b) 65535) with
  | false => rw [hc] at h; simp at h
  | true =>
    rw [hc] at h
    simp only [cond_true] at h
    simp only [Bool.and_eq_true, Bool.not_eq_true'] at hc
    obtain ⟨⟨⟨h1, h2⟩, h3⟩, h4⟩ := hc
    have hs := Nat.le_of_ble_eq_true h4
    have hk8 : cK a < 8 := Nat.mod_lt _ (by decide)
    refine ⟨⟨h1, h2, Nat.eq_of_beq_eq_true h3⟩, ?_⟩
    cases mx with
    | true =>
      have e := ev_mk S (t := 9) (a := a) hk8 (by decide) (by decide) (by decide) (show sz b < 65536 by omega)
      rw [hm, hn] at e
      have := fin_num (G := G) (ι := ι) ha h (e.trans (by rfl))
      rw [mkV_low hk8 (by decide)] at this
      exact this
    | false =>
      have e := ev_mk S (t := 10) (a := a) hk8 (by decide) (by decide) (by decide) (show sz b < 65536 by omega)
      rw [hm, hn] at e
      have := fin_num (G := G) (ι := ι) ha h (e.trans (by rfl))
      rw [mkV_low hk8 (by decide)] at this
      exact this

theorem symCall_ok {S : Sy} {G : Nat → Option Obj} {al : List (Nat × Value)} (ha : AlOk S al) {ι : Inj} {mx : Bool} {vs vs' : List Value} {v : Value} (h : symCall al mx vs = some v) (hl : vs'.length = vs.length)
    (hv : ∀ (k : Nat) (u : Value), vs[k]? = some u → ∃ u', vs'[k]? = some u' ∧ @VRel (symS S G) ι u u') :
    ∃ k m n, vs' = [.int k m, .int k n] ∧ @VRel (symS S G) ι v (.int k (if mx then (if m < n then n else m) else (if n < m then n else m))) := by
  unfold symCall at h
  split at h
  · rename_i x y
    cases hs : (isSym x || isSym y) with
    | false => rw [hs] at h; simp at h
    | true =>
      rw [hs] at h
      simp only [cond_true] at h
      split at h
      · rename_i a b hx hy
        obtain ⟨x', e1, r1⟩ := hv 0 x rfl
        obtain ⟨y', e2, r2⟩ := hv 1 y rfl
        obtain ⟨m, rfl, em⟩ := vcode_ok r1 hx
        obtain ⟨n, rfl, en⟩ := vcode_ok r2 hy
        obtain ⟨⟨q1, q2, q3⟩, hr⟩ := symMax_ok (G := G) (ι := ι) ha h em en
        refine ⟨_, m, n, ?_, hr⟩
        match vs', hl, e1, e2 with
        | [p, q], _, e1, e2 =>
          simp only [List.getElem?_cons_zero, List.getElem?_cons_succ, Option.some.injEq] at e1 e2
          rw [e1, e2, mkV_num q1, mkV_num q2, q3]
      · simp at h
  · simp at h

theorem symNot_ok {S : Sy} {G : Nat → Option Obj} {al : List (Nat × Value)} (ha : AlOk S al) {ι : Inj} {c : Nat} {v : Value} {n : Int} (hn : ev S c = some [n]) (h : symUn al .not c = some v) : isBc c = true ∧ @VRel (symS S G) ι v (.bool (!(decide (n ≠ 0)))) := by
  unfold symUn at h
  dsimp only at h
  cases hs : (isBc c && Nat.ble (sz c) 65535) with
  | false => rw [hs] at h; simp at h
  | true =>
    rw [hs] at h
    simp only [cond_true] at h
    simp only [Bool.and_eq_true] at hs
    have hz := Nat.le_of_ble_eq_true hs.2
    have e := ev_mk S (t := 11) (k := 0) (a := 0) (b := c) (by decide) (by decide) (by decide) (by decide) (by omega)
    rw [hn] at e
    have q := fin_num (G := G) (ι := ι) ha h (e.trans (by rfl))
    unfold mkV at q
    rw [isBc_mk (by decide) (by decide), show (Nat.ble 27 11 || (Nat.ble 11 11 && Nat.ble 11 15)) = true from rfl, cond_true, b2i_ne] at q
    refine ⟨hs.1, ?_⟩
    rw [show (!(decide (n ≠ 0))) = decide (n = 0) by simp]
    exact q
theorem notV_ok {S : Sy} {G : Nat → Option Obj} {al : List (Nat × Value)} (ha : AlOk S al) {ι : Inj} {x v : Value} {b : Bool} (h : notV al x = some v) (hx : @VRel (symS S G) ι x (.bool b)) : @VRel (symS S G) ι v (.bool (!b)) := by
  letI := symS S G
  unfold notV at h
  split at h
  · cases hx
    simp only [Option.some.injEq] at h
    subst h
    exact .bool _
  · obtain ⟨_, e⟩ := code_bool hx
    have := (symNot_ok (G := G) (ι := ι) ha e h).2
    rw [b2i_ne] at this
    exact this
  · simp at h
theorem symEqV_ok {P : Program} {S : Sy} {G : Nat → Option Obj} {al : List (Nat × Value)} (ha : AlOk S al) {ι : Inj} {t : TypeId} {xs ys xs' ys' : Array Value} {v : Value} (h : symEqV P al t xs ys = some v) (hx : @ARel (symS S G) ι xs xs') (hy : @ARel (symS S G) ι ys ys') (w : World) :
    P.eqGuardType P.depth t = false ∧ ∃ b, (Op.equal t (.agg xs') (.agg ys')).run P w = .ok b w ∧ @VRel (symS S G) ι v (.bool b) := by
  letI := symS S G
  unfold symEqV at h
  split at h
  · rename_i l hl
    cases hg : P.eqGuardType P.depth t with
    | true => rw [hg] at h; simp at h
    | false =>
      rw [hg] at h
      simp only [cond_false] at h
      obtain ⟨bs, q1, q2, q3⟩ := flatEq_ok (G := G) ha hx hy l v h
      exact ⟨rfl, _, flat_equal hl q1 q3 w, q2⟩
  · split at h
    · rename_i b hb
      simp only [Option.some.injEq] at h
      subst h
      obtain ⟨q1, q2⟩ := symEq_ok (G := G) ha hb hx hy w
      exact ⟨q1, b, q2, .bool b⟩
    · simp at h

theorem orcN_ok (P : Program) {S : Sy} {G : Nat → Option Obj} {al : List (Nat × Value)} (ha : AlOk S al) (ι : Inj) (o : Oper) (g : Nat → Value) (v : Value) (h : orcN P al o g = some v) (w : World) (ρ : Operand → Value)
    (hv : ∀ x ∈ o.op.operands, @VRel (symS S G) ι (opv g x) (ρ x)) : ∃ v', (execOp ρ o).run P w = .ok (.value v') w ∧ @VRel (symS S G) ι v v' := by
  letI := symS S G
  unfold orcN at h
  cases ho : o.op <;> rw [ho] at h <;> simp only at h <;> try (simp at h; done)
  case binOp op t x y yt =>
    have e : execOp ρ o = (do Pure.pure (.value (← (do Go.eqGuard op t x y (ρ x) (ρ y); Go.binOp op t (ρ x) (ρ y))))) := by unfold execOp; rw [ho]
    have hx := hv x (by rw [ho]; simp [Op.operands])
    have hy := hv y (by rw [ho]; simp [Op.operands])
    rw [e]
    generalize opv g x = ax at h hx
    generalize opv g y = ay at h hy
    generalize ρ x = bx at hx
    generalize ρ y = bY at hy
    have num : cond (isSym ax || isSym ay) (match vcode ax, vcode ay with | some a, some b => symBin P al op t a b | _, _ => none) none = some v →
        ∃ v', (do Pure.pure (Next.value (← (do Go.eqGuard op t x y bx bY; Go.binOp op t bx bY))) : Sem Next).run P w = .ok (.value v') w ∧ @VRel (symS S G) ι v v' := by
      intro h
      cases hs : (isSym ax || isSym ay) with
      | false => rw [hs] at h; simp at h
      | true =>
        rw [hs] at h
        simp only [cond_true] at h
        split at h
        · rename_i a b hca hcb
          obtain ⟨m, rfl, em⟩ := vcode_ok hx hca
          obtain ⟨n, rfl, en⟩ := vcode_ok hy hcb
          obtain ⟨v', e1, e2⟩ := symBin_ok (G := G) (ι := ι) ha h em en (fun hb => ev01 hb em) (fun hb => ev01 hb en) w
          refine ⟨v', ok_value ?_, e2⟩
          have hg : (Go.eqGuard op t x y (mkV a m) (mkV b n)).run P w = .ok () w := by
            unfold Go.eqGuard mkV
            cases isBc a <;> cases isBc b <;> cases op <;> rfl
          rw [Sem.run_bind, hg]
          exact e1
        · simp at h
    unfold symOp2 at h
    split at h
    · rename_i xs ys
      cases hc : (anySym xs || anySym ys) with
      | false => rw [hc] at h; simp at h
      | true =>
        rw [hc] at h
        simp only [cond_true] at h
        cases hx with
        | @agg _ xs' x1 x2 => cases hy with
          | @agg _ ys' y1 y2 =>
            split at h
            · cases hq : symEqV P al t xs ys with
              | none => rw [hq] at h; simp at h
              | some u =>
                rw [hq] at h
                simp only [Option.some.injEq] at h
                subst h
                obtain ⟨q1, b, q2, q3⟩ := symEqV_ok (G := G) ha hq ⟨x1, x2⟩ ⟨y1, y2⟩ w
                refine ⟨.bool b, ok_value ?_, q3⟩
                rw [Sem.run_bind]
                have hg : (Go.eqGuard .eql t x y (.agg xs') (.agg ys')).run P w = .ok () w := by
                  unfold Go.eqGuard
                  rw [if_neg (by decide)]
                  simp only [Sem.run_bind, run_program, Result.andThen_ok, q1]
                  rfl
                rw [hg]
                simp only [Result.andThen_ok]
                unfold Go.binOp
                dsimp only
                rw [Sem.run_bind, q2]; rfl
            · cases hq : symEqV P al t xs ys with
              | none => rw [hq] at h; simp at h
              | some u =>
                rw [hq] at h
                simp only at h
                obtain ⟨q1, b, q2, q3⟩ := symEqV_ok (G := G) ha hq ⟨x1, x2⟩ ⟨y1, y2⟩ w
                refine ⟨.bool (!b), ok_value ?_, notV_ok ha h q3⟩
                rw [Sem.run_bind]
                have hg : (Go.eqGuard .neq t x y (.agg xs') (.agg ys')).run P w = .ok () w := by
                  unfold Go.eqGuard
                  rw [if_neg (by decide)]
                  simp only [Sem.run_bind, run_program, Result.andThen_ok, q1]
                  rfl
                rw [hg]
                simp only [Result.andThen_ok]
                unfold Go.binOp
                dsimp only
                rw [Sem.run_bind, q2]; rfl
            · simp at h
    · exact num h
  case unOp op t x =>
    have e : execOp ρ o = (do Pure.pure (.value (← Op.unary op (ρ x)))) := by unfold execOp; rw [ho]
    have hx := hv x (by rw [ho]; simp [Op.operands])
    rw [e]
    split at h
    · rename_i a hxa
      rw [hxa] at hx
      obtain ⟨n, hn, en⟩ := vcode_ok (c := a) hx rfl
      rw [hn]
      have hk8 : cK a < 8 := Nat.mod_lt _ (by decide)
      cases op with
      | plus => simp [symUn] at h
      | not =>
        obtain ⟨h1, h2⟩ := symNot_ok (G := G) (ι := ι) ha en h
        refine ⟨_, ok_value ?_, h2⟩
        unfold mkV
        rw [h1]
        rfl
      | neg =>
        unfold symUn at h
        dsimp only at h
        cases hs : (!isBc a && Nat.ble (sz a) 65535) with
        | false => rw [hs] at h; simp at h
        | true =>
          rw [hs] at h
          simp only [cond_true] at h
          simp only [Bool.and_eq_true, Bool.not_eq_true'] at hs
          have hs' := Nat.le_of_ble_eq_true hs.2
          have e1 := ev_mk S (t := 4) (a := 0) hk8 (by decide) (by decide) (by decide) (show sz a < 65536 by omega)
          rw [en] at e1
          have := fin_num (G := G) (ι := ι) ha h (e1.trans (by rfl))
          rw [mkV_low hk8 (by decide)] at this
          rw [mkV_num hs.1]
          exact ⟨_, ok_value (by rfl), this⟩
      | xor =>
        unfold symUn at h
        dsimp only at h
        cases hs : (!isBc a && Nat.ble (sz a) 65535) with
        | false => rw [hs] at h; simp at h
        | true =>
          rw [hs] at h
          simp only [cond_true] at h
          simp only [Bool.and_eq_true, Bool.not_eq_true'] at hs
          have hs' := Nat.le_of_ble_eq_true hs.2
          have e1 := ev_mk S (t := 5) (a := 0) hk8 (by decide) (by decide) (by decide) (show sz a < 65536 by omega)
          rw [en] at e1
          have := fin_num (G := G) (ι := ι) ha h (e1.trans (by rfl))
          rw [mkV_low hk8 (by decide)] at this
          rw [mkV_num hs.1]
          exact ⟨_, ok_value (by rfl), this⟩
    · simp at h
  case convert s d x =>
    have e : execOp ρ o = (do Pure.pure (.value (← Go.convert s d (ρ x)))) := by unfold execOp; rw [ho]
    have hx := hv x (by rw [ho]; simp [Op.operands])
    rw [e]
    split at h
    · rename_i a hxa
      rw [hxa] at hx
      obtain ⟨n, hn, en⟩ := vcode_ok (c := a) hx rfl
      rw [hn]
      split at h
      · rename_i k hk
        cases hso : (P.underlying s).isSome with
        | false => rw [hso] at h; simp at h
        | true =>
          rw [hso] at h
          simp only [cond_true] at h
          unfold symConv at h
          cases hs : (!isBc a && Nat.ble (sz a) 65535) with
          | false => rw [hs] at h; simp at h
          | true =>
            rw [hs] at h
            simp only [cond_true] at h
            simp only [Bool.and_eq_true, Bool.not_eq_true'] at hs
            have hs' := Nat.le_of_ble_eq_true hs.2
            have e1 := ev_mk S (t := 3) (a := 0) (kI_lt k) (by decide) (by decide) (by decide) (show sz a < 65536 by omega)
            rw [en] at e1
            have := fin_num (G := G) (ι := ι) ha h (e1.trans (by rfl))
            rw [mkV_low (kI_lt k) (by decide), kOf_kI] at this
            rw [mkV_num hs.1]
            exact ⟨_, ok_value (convert_run hk hso w), this⟩
      · simp at h
    · simp at h
  case call c =>
    have hargs : ∀ x ∈ c.args.toList, @VRel (symS S G) ι (opv g x) (ρ x) := fun x hx => hv x (by
      rw [ho]
      obtain ⟨callee, args, at'⟩ := c
      simp only [Op.operands, Call.operands]
      cases callee <;> simp_all)
    have key : ∀ (mx : Bool), symCall al mx (c.args.toList.map (opv g)) = some v → ∃ k m n, c.args.toList.map ρ = [.int k m, .int k n] ∧ @VRel (symS S G) ι v (.int k (if mx then (if m < n then n else m) else (if n < m then n else m))) := by
      intro mx h
      refine symCall_ok (G := G) ha h (by simp) fun k u hu => ?_
      rw [List.getElem?_map] at hu ⊢
      cases hk : c.args.toList[k]? with
      | none => rw [hk] at hu; simp at hu
      | some x =>
        rw [hk] at hu
        simp only [Option.map_some, Option.some.injEq] at hu
        subst hu
        exact ⟨ρ x, rfl, hargs x (List.mem_of_getElem? hk)⟩
    obtain ⟨callee, args, at'⟩ := c
    cases callee with
    | builtin b =>
      have e : execOp ρ o = (do let d ← resolve ρ { callee := .builtin b, args := args, argTypes := at' } o.type; invoke d.target d.args) := by unfold execOp; rw [ho]
      cases b <;> simp only at h <;> try (simp at h; done)
      case max =>
        obtain ⟨k, m, n, e1, e2⟩ := key true h
        refine ⟨_, ?_, e2⟩
        rw [e]
        have hm : (args.map ρ).toList = [.int k m, .int k n] := by simpa using e1
        simp only [resolve, Sem.run_bind, Sem.run_pure, Result.andThen_ok, invoke, builtin, Builtin.max_, hm, List.foldlM_cons, List.foldlM_nil, Builtin.max2]
        rfl
      case min =>
        obtain ⟨k, m, n, e1, e2⟩ := key false h
        refine ⟨_, ?_, e2⟩
        rw [e]
        have hm : (args.map ρ).toList = [.int k m, .int k n] := by simpa using e1
        simp only [resolve, Sem.run_bind, Sem.run_pure, Result.andThen_ok, invoke, builtin, Builtin.min_, hm, List.foldlM_cons, List.foldlM_nil, Builtin.min2]
        rfl
    | _ => simp at h

/-- A slice of one's own against nil. -/
noncomputable def isSl (P : Program) (t : TypeId) : Bool := match P.underlying t with
  | some (.slice _) => true
  | _ => false
noncomputable def nilE (P : Program) (op : BinOp) (t : TypeId) (x y : Value) : Option Value := match x, y with
  | .float .f32 c, .slice none 0 0 => cond (Nat.beq (cT c) 3 && isSl P t) (match op with
    | .eql => some (.bool false)
    | .neq => some (.bool true)
    | _ => none) none
  | _, _ => none
theorem nilE_ok (P : Program) {S : Sy} {G : Nat → Option Obj} {ι : Inj} {op : BinOp} {t : TypeId} {x y : Operand} {a b a' b' v : Value} (h : nilE P op t a b = some v) (ha : @VRel (symS S G) ι a a') (hb : @VRel (symS S G) ι b b') (w : World) :
    ∃ v', (do Go.eqGuard op t x y a' b'; Go.binOp op t a' b' : Sem Value).run P w = .ok v' w ∧ @VRel (symS S G) ι v v' := by
  unfold nilE at h
  split at h
  · rename_i c
    obtain ⟨g, h⟩ := condS h
    simp only [Bool.and_eq_true] at g
    have g1 := Nat.eq_of_beq_eq_true g.1
    obtain ⟨e, hu⟩ : ∃ e, P.underlying t = some (.slice e) := by
      have g2 := g.2
      unfold isSl at g2
      split at g2
      · rename_i e he; exact ⟨e, he⟩
      · simp at g2
    obtain ⟨ad, n, cap, rfl⟩ : ∃ (ad : Addr) (n cap : Nat), a' = .slice (some ad) n cap := by
      letI := symS S G
      cases ha with
      | inp h => exact absurd (show ptrS S c = some _ from h) (by unfold ptrS; rw [if_neg (by omega), if_neg (by omega)]; simp)
      | ownS => exact ⟨_, _, _, rfl⟩
      | ownP h => exact absurd (show ownS S c = some _ from h) (by unfold ownS; rw [if_pos g1]; split <;> (try split) <;> simp)
    obtain rfl : b' = .slice none 0 0 := @VRel.nilSlice_inv (symS S G) _ _ _ _ hb
    have he : (Op.equal t (.slice (some ad) n cap) (.slice none 0 0)).run P w = .ok false w := by
      letI := symS S G
      show (Op.equalIn (9999 + 1) t (.slice (some ad) n cap) (.slice none 0 0)).run P w = .ok false w
      unfold Op.equalIn
      simp only [Sem.run_bind, run_underlying' hu, Result.andThen_ok]
      rfl
    letI := symS S G
    cases op <;> simp only [Option.some.injEq] at h <;> try (simp at h; done)
    · subst h
      refine ⟨.bool false, ?_, .bool false⟩
      rw [Sem.run_bind, show (Go.eqGuard .eql t x y (.slice (some ad) n cap) (.slice none 0 0)).run P w = .ok () w from rfl]
      simp only [Result.andThen_ok]
      unfold Go.binOp
      dsimp only
      rw [Sem.run_bind, he]; rfl
    · subst h
      refine ⟨.bool true, ?_, .bool true⟩
      rw [Sem.run_bind, show (Go.eqGuard .neq t x y (.slice (some ad) n cap) (.slice none 0 0)).run P w = .ok () w from rfl]
      simp only [Result.andThen_ok]
      unfold Go.binOp
      dsimp only
      rw [Sem.run_bind, he]; rfl
  · simp at h
noncomputable def orcF (P : Program) (al : List (Nat × Value)) (o : Oper) (g : Nat → Value) : Option Value := match orcN P al o g with
  | some v => some v
  | none => match o.op with
    | .binOp op t x y _ => nilE P op t (opv g x) (opv g y)
    | _ => refF P al o g
theorem orcF_ok (P : Program) {S : Sy} {G : Nat → Option Obj} {al : List (Nat × Value)} (ha : AlOk S al) (ι : Inj) (o : Oper) (g : Nat → Value) (v : Value) (h : orcF P al o g = some v) (H : Heap) (w : World) (ρ : Operand → Value) (hw : @Rel (symS S G) P ι H w)
    (hv : ∀ x ∈ o.op.operands, @VRel (symS S G) ι (opv g x) (ρ x)) : ∃ v', (execOp ρ o).run P w = .ok (.value v') w ∧ @VRel (symS S G) ι v v' := by
  unfold orcF at h
  split at h
  · rename_i u hu
    simp only [Option.some.injEq] at h
    subst h
    exact orcN_ok P ha ι o g u hu w ρ hv
  · split at h
    · rename_i op t x y q ho
      obtain ⟨v', e, r⟩ := nilE_ok P (x := x) (y := y) h (hv x (by rw [ho]; simp [Op.operands])) (hv y (by rw [ho]; simp [Op.operands])) w
      refine ⟨v', ?_, r⟩
      have e2 : execOp ρ o = (do let z ← (do Go.eqGuard op t x y (ρ x) (ρ y); Go.binOp op t (ρ x) (ρ y)); Pure.pure (.value z)) := by unfold execOp; rw [ho]
      rw [e2, Sem.run_bind, e]
      rfl
    · exact refF_ok ha o g v h w hw ρ hv

/-! ### Rows of numbers -/
def own4 : Value → Bool
  | .float .f32 c => Nat.beq (cT c) 4
  | _ => false
def isF32 : Value → Bool
  | .float .f32 _ => true
  | _ => false
def arQ (o : Oper) (g : Nat → Value) : Bool := match o.op with
  | .load _ x => own4 (opv g x)
  | .store _ x _ => own4 (opv g x)
  | .call { callee := .builtin .append, args, .. } => args.toList.any fun x => isF32 (opv g x)
  | _ => false
noncomputable def arR (P : Program) (al : List (Nat × Value)) (o : Oper) (g : Nat → Value) (H : Heap) : Option Value := match o.op with
  | .load t x => loadA P al t (opv g x) H
  | _ => none
noncomputable def arH (P : Program) (al : List (Nat × Value)) (o : Oper) (g : Nat → Value) (H : Heap) : Option (ANext × Heap) := match o.op with
  | .store t x v => updH (storeB P al t (opv g x) (opv g v) H)
  | .call { callee := .builtin .append, args, argTypes } => valH (appendA P al argTypes (args.toList.map (opv g)) H)
  | _ => none
theorem arR_ok (P : Program) {S : Sy} {G : Nat → Option Obj} {al : List (Nat × Value)} (ha : AlOk S al) (ι : Inj) (o : Oper) (g : Nat → Value) (H : Heap) (v : Value) (h : arR P al o g H = some v) (w : World) (ρ : Operand → Value) (hw : @Rel (symS S G) P ι H w)
    (hv : ∀ x ∈ o.op.operands, @VRel (symS S G) ι (opv g x) (ρ x)) : ∃ v', (execOp ρ o).run P w = .ok (.value v') w ∧ @VRel (symS S G) ι v v' := by
  unfold arR at h
  cases ho : o.op <;> rw [ho] at h <;> (try simp only at h) <;> try (simp at h; done)
  case load t x =>
    have e : execOp ρ o = (do Pure.pure (.value (← Instr.loadAt t (ρ x)))) := by unfold execOp; rw [ho]
    obtain ⟨v', e1, q⟩ := loadA_ok ha h (hv x (by rw [ho]; simp [Op.operands])) hw
    exact ⟨v', by rw [e]; exact ok_value e1, q⟩
section
variable [Syms] {P : Program} {ι : Inj} {H : Heap}
theorem okNo {s' : Sem Next} : Ok P ι H none s' := fun n H' h => by simp at h
theorem okUpd {r : Option Heap} {s' : Sem Unit} (h : ∀ H', r = some H' → ∀ w, Rel P ι H w → ∃ ι' w', s'.run P w = .ok () w' ∧ Ext P ι w ι' w' ∧ Rel P ι' H' w') : Ok P ι H (updH r) (do s'; Pure.pure .skip) := by
  intro n H' hr w hw
  cases r with
  | none => simp [updH] at hr
  | some H1 =>
    simp only [updH, Option.some.injEq, Prod.mk.injEq] at hr
    obtain ⟨rfl, rfl⟩ := hr
    obtain ⟨ι', w', e1, x1, r1⟩ := h H1 rfl w hw
    exact ⟨ι', .skip, w', by rw [Sem.run_bind, e1]; rfl, x1, r1, trivial⟩
theorem okValH {r : Option (Value × Heap)} {s' : Sem Value} (h : ∀ v H', r = some (v, H') → ∀ w, Rel P ι H w → ∃ ι' v' w', s'.run P w = .ok v' w' ∧ Ext P ι w ι' w' ∧ Rel P ι' H' w' ∧ VRel ι' v v') : Ok P ι H (valH r) (do Pure.pure (.value (← s'))) := by
  intro n H' hr w hw
  cases r with
  | none => simp [Ev.valH] at hr
  | some p =>
    obtain ⟨v, H1⟩ := p
    simp only [Ev.valH, Option.some.injEq, Prod.mk.injEq] at hr
    obtain ⟨rfl, rfl⟩ := hr
    obtain ⟨ι', v', w', e1, x1, r1, q1⟩ := h v H1 rfl w hw
    exact ⟨ι', .value v', w', by rw [Sem.run_bind, e1]; rfl, x1, r1, q1⟩
end
theorem arH_ok (P : Program) {S : Sy} {G : Nat → Option Obj} {al : List (Nat × Value)} (ha : AlOk S al) (ι : Inj) (o : Oper) (g : Nat → Value) (ρ : Operand → Value) (H : Heap) (hv : ∀ x ∈ o.op.operands, @VRel (symS S G) ι (opv g x) (ρ x)) : @Ok (symS S G) P ι H (arH P al o g H) (execOp ρ o) := by
  letI := symS S G
  unfold arH
  cases ho : o.op <;> try exact okNo
  case store t x v =>
    have e : execOp ρ o = (do Instr.storeAt t (ρ x) (ρ v); Pure.pure .skip) := by unfold execOp; rw [ho]
    rw [e]
    dsimp only
    refine okUpd fun H' h w hw => ?_
    obtain ⟨w', e1, x1, r1⟩ := storeB_ok ha h (hv x (by rw [ho]; simp [Op.operands])) (hv v (by rw [ho]; simp [Op.operands])) hw
    exact ⟨ι, w', e1, x1, r1⟩
  case call c =>
    obtain ⟨callee, args, tys⟩ := c
    cases callee with
    | builtin b =>
      cases b <;> try exact okNo
      have e : execOp ρ o = (do Pure.pure (.value (← Builtin.append_ tys o.type (args.map ρ)))) := by unfold execOp; rw [ho]; rfl
      rw [e]
      dsimp only
      refine okValH fun v H' h w hw => ?_
      obtain ⟨l⟩ := args
      have hl : ∃ x y, l = [x, y] := by
        unfold appendA at h
        split at h
        · rename_i st xt x y _ _ heq
          rcases l with _ | ⟨x, _ | ⟨y, _ | ⟨z, l⟩⟩⟩
          · simp at heq
          · simp at heq
          · exact ⟨x, y, rfl⟩
          · simp at heq
        · simp at h
      obtain ⟨x, y, rfl⟩ := hl
      have h1 := hv x (by rw [ho]; simp [Op.operands, Call.operands])
      have h2 := hv y (by rw [ho]; simp [Op.operands, Call.operands])
      have h' : appendA P al tys [opv g x, opv g y] H = some (v, H') := by simpa using h
      simpa using appendA_ok ha h' h1 h2 hw (ty := o.type)
    | _ => exact okNo

/-- Of a known length a row is made, where that is asked for: by a decision that the length is itself. -/
noncomputable def mkRow (al : List (Nat × Value)) : Value → Bool
  | .int .i64 n => sure al (mk 13 0 (lit .i64 n) (lit .i64 n))
  | _ => false
@[instance_reducible] noncomputable def symO (P : Program) {S : Sy} (G : Nat → Option Obj) {al : List (Nat × Value)} (ha : AlOk S al) : @Orc P (symS S G) :=
  @Orc.mk P (symS S G) (orcF P al) (fun ι o g v h H w ρ hw hv => orcF_ok P ha ι o g v h H w ρ hw hv) arQ (arR P al) (fun ι o g H v h w ρ hw hv => arR_ok P ha ι o g H v h w ρ hw hv) (arH P al) (fun ι o g ρ H hv => arH_ok P ha ι o g ρ H hv)
    (mkArr P al) (fun _ _ _ _ _ _ h => mkArr_new h) (fun _ _ _ _ _ _ _ _ _ hl hc h _ _ _ hw hN h1 h2 h3 h4 h5 => mkArr_at ha hl hc h hw hN h1 h2 h3 h4 h5) (mkRow al)
end Go.Ev
