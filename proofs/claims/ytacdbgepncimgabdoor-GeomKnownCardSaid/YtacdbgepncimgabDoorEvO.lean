/-
  The evaluator: what operations on symbols come to (the look ahead of all other ways), calls by contract, and what a run with symbols says. Conditions: AlOk, CtrOk.
-/
import Derived.Test.YtacdbgepncimgabDoorEvN
namespace Go.Ev
open Go.RowKit

theorem evB_low (S : Sy) {t k a b : Nat} (hk : k < 8) (ht : t < 16) (h8 : t ≠ 8) : evB S (mk t k a b) = none := by
  unfold evB
  rw [mk_T hk (by omega), if_neg h8, if_neg (by omega)]
theorem fin_num {S : Sy} {G : Nat → Option Obj} {al : List (Nat × Value)} (ha : AlOk S al) {ι : Inj} {c : Nat} {r : Int} {v : Value} (hc : ev S c = some [r]) (hb : evB S c = none) (h : fin al c true = some v) :
    @VRel (symS S G) ι v (.int (kOf (cK c)) r) := by
  letI := symS S G
  unfold fin at h
  cases hl : look al c with
  | some u =>
    rw [hl] at h
    simp only [Option.some.injEq] at h
    subst h
    obtain ⟨v', q, ⟨b, rfl, e⟩ | ⟨n, rfl, e⟩⟩ := okA_rel (G := G) (ι := ι) (look_ok ha hl)
    · rw [hb] at e; simp at e
    · rw [hc] at e
      simp only [Option.some.injEq, List.cons.injEq, and_true] at e
      subst e
      exact q
  | none =>
    rw [hl] at h
    simp only [cond_true, Option.some.injEq] at h
    subst h
    refine VRel.sym ?_
    show (match ev S c with | some [n] => some (Value.int (kOf (cK c)) n) | _ => none) = _
    rw [hc]

noncomputable def symUn (al : List (Nat × Value)) (op : UnOp) (a : Nat) : Option Value :=
  match op with
  | .neg => cond (Nat.ble (sz a) 65535) (fin al (mk 4 (cK a) 0 a) true) none
  | .xor => cond (Nat.ble (sz a) 65535) (fin al (mk 5 (cK a) 0 a) true) none
  | _ => none
noncomputable def symConv (al : List (Nat × Value)) (k : IntKind) (a : Nat) : Option Value :=
  cond (Nat.ble (sz a) 65535) (fin al (mk 3 (kI k) 0 a) true) none
noncomputable def symMax (al : List (Nat × Value)) (mx : Bool) (a b : Nat) : Option Value :=
  cond (Nat.beq (cK a) (cK b) && Nat.ble (sz b) 65535) (fin al (mk (cond mx 9 10) (cK a) a b) true) none
def anySym (xs : Array Value) : Bool := xs.toList.any isSym
noncomputable def symOp2 (P : Program) (al : List (Nat × Value)) (op : BinOp) (t : TypeId) (x y : Value) : Option Value :=
  match x, y with
  | .agg xs, .agg ys => cond (anySym xs || anySym ys)
      (match op with
      | .eql => match symEq P al t xs ys with | some b => some (.bool b) | none => none
      | .neq => match symEq P al t xs ys with | some b => some (.bool (!b)) | none => none
      | _ => none) none
  | x, y => cond (isSym x || isSym y)
      (match vcode x, vcode y with
      | some a, some b => symBin al op a b
      | _, _ => none) none
noncomputable def symCall (al : List (Nat × Value)) (mx : Bool) (vs : List Value) : Option Value :=
  match vs with
  | [x, y] => cond (isSym x || isSym y)
      (match vcode x, vcode y with
      | some a, some b => symMax al mx a b
      | _, _ => none) none
  | _ => none
noncomputable def orcF (P : Program) (al : List (Nat × Value)) (o : Oper) (g : Nat → Value) : Option Value :=
  match o.op with
  | .binOp op t x y _ => symOp2 P al op t (opv g x) (opv g y)
  | .unOp op _ x => match opv g x with
    | .float .f64 a => symUn al op a
    | _ => none
  | .convert s d x => match opv g x with
    | .float .f64 a => match kindOf P d with
      | some k => cond (P.underlying s).isSome (symConv al k a) none
      | none => none
    | _ => none
  | .call { callee := .builtin .max, args, .. } => symCall al true (args.toList.map (opv g))
  | .call { callee := .builtin .min, args, .. } => symCall al false (args.toList.map (opv g))
  | _ => none

theorem ok_value {s : Sem Value} {P : Program} {v : Value} {w : World} (h : s.run P w = .ok v w) : (do Pure.pure (Next.value (← s)) : Sem Next).run P w = .ok (.value v) w := by
  rw [Sem.run_bind, h]; rfl

theorem convert_run {P : Program} {s d : TypeId} {k k0 : IntKind} {n : Int} (hk : kindOf P d = some k) (hs : (P.underlying s).isSome = true) (w : World) : (Go.convert s d (.int k0 n)).run P w = .ok (.int k (k.wrap n)) w := by
  have hd : P.underlying d = some (.int k) := by
    unfold kindOf at hk
    split at hk
    · simp only [Option.some.injEq] at hk; subst hk; assumption
    · simp at hk
  obtain ⟨sd, hsd⟩ := Option.isSome_iff_exists.1 hs
  unfold Go.convert
  rw [Sem.run_bind, run_underlying hsd]
  simp only [Result.andThen_ok]
  rw [Sem.run_bind, run_underlying hd]
  simp only [Result.andThen_ok]
  cases sd <;> rfl

theorem symMax_ok {S : Sy} {G : Nat → Option Obj} {al : List (Nat × Value)} (ha : AlOk S al) {ι : Inj} {mx : Bool} {a b : Nat} {v : Value} {m n : Int} (h : symMax al mx a b = some v) (hm : ev S a = some [m]) (hn : ev S b = some [n]) :
    @VRel (symS S G) ι v (.int (kOf (cK a)) (if mx then (if m < n then n else m) else (if n < m then n else m))) := by
  unfold symMax at h
  cases hc : (Nat.beq (cK a) (cK b) && Nat.ble (sz b) 65535) with
  | false => rw [hc] at h; simp at h
  | true =>
    rw [hc] at h
    simp only [cond_true] at h
    simp only [Bool.and_eq_true] at hc
    have hs := Nat.le_of_ble_eq_true hc.2
    have hk8 : cK a < 8 := Nat.mod_lt _ (by decide)
    cases mx with
    | true =>
      have e := ev_mk S (t := 9) (a := a) hk8 (by decide) (by decide) (show sz b < 65536 by omega)
      rw [hm, hn] at e
      have := fin_num (G := G) (ι := ι) ha (e.trans (by rfl)) (evB_low S hk8 (by decide) (by decide)) h
      rw [mk_K hk8] at this
      exact this
    | false =>
      have e := ev_mk S (t := 10) (a := a) hk8 (by decide) (by decide) (show sz b < 65536 by omega)
      rw [hm, hn] at e
      have := fin_num (G := G) (ι := ι) ha (e.trans (by rfl)) (evB_low S hk8 (by decide) (by decide)) h
      rw [mk_K hk8] at this
      exact this

theorem symCall_ok {S : Sy} {G : Nat → Option Obj} {al : List (Nat × Value)} (ha : AlOk S al) {ι : Inj} {mx : Bool} {vs vs' : List Value} {v : Value} (h : symCall al mx vs = some v) (hl : vs'.length = vs.length)
    (hv : ∀ (k : Nat) (u : Value), vs[k]? = some u → ∃ u', vs'[k]? = some u' ∧ @VRel (symS S G) ι u u') :
    ∃ k m n, vs' = [.int k m, .int k n] ∧ @VRel (symS S G) ι v (.int k (if mx then (if m < n then n else m) else (if n < m then n else m))) := by
  unfold symCall at h
  split at h
  · rename_i x y
    cases hs : (isSym x || isSym y) with
    | false => rw [hs] at h; simp at h
    | true =>
      rw [hs] at h
      simp only [cond_true] at h
      split at h
      · rename_i a b hx hy
        obtain ⟨x', e1, r1⟩ := hv 0 x rfl
        obtain ⟨y', e2, r2⟩ := hv 1 y rfl
        obtain ⟨m, rfl, em⟩ := vcode_ok r1 hx
        obtain ⟨n, rfl, en⟩ := vcode_ok r2 hy
        have hr := symMax_ok (G := G) (ι := ι) ha h em en
        have hk : cK a = cK b := by
          unfold symMax at h
          cases hc : (Nat.beq (cK a) (cK b) && Nat.ble (sz b) 65535) with
          | false => rw [hc] at h; simp at h
          | true =>
            simp only [Bool.and_eq_true] at hc
            exact Nat.eq_of_beq_eq_true hc.1
        refine ⟨_, m, n, ?_, hr⟩
        match vs', hl, e1, e2 with
        | [p, q], _, e1, e2 =>
          simp only [List.getElem?_cons_zero, List.getElem?_cons_succ, Option.some.injEq] at e1 e2
          rw [e1, e2, hk]
      · simp at h
  · simp at h

theorem orcF_ok (P : Program) {S : Sy} {G : Nat → Option Obj} {al : List (Nat × Value)} (ha : AlOk S al) (ι : Inj) (o : Oper) (g : Nat → Value) (v : Value) (h : orcF P al o g = some v) (w : World) (ρ : Operand → Value)
    (hv : ∀ x ∈ o.op.operands, @VRel (symS S G) ι (opv g x) (ρ x)) : ∃ v', (execOp ρ o).run P w = .ok (.value v') w ∧ @VRel (symS S G) ι v v' := by
  letI := symS S G
  unfold orcF at h
  cases ho : o.op <;> rw [ho] at h <;> simp only at h <;> try (simp at h; done)
  case binOp op t x y yt =>
    have e : execOp ρ o = (do Pure.pure (.value (← (do Go.eqGuard op t x y (ρ x) (ρ y); Go.binOp op t (ρ x) (ρ y))))) := by unfold execOp; rw [ho]
    have hx := hv x (by rw [ho]; simp [Op.operands])
    have hy := hv y (by rw [ho]; simp [Op.operands])
    rw [e]
    generalize opv g x = ax at h hx
    generalize opv g y = ay at h hy
    generalize ρ x = bx at hx
    generalize ρ y = bY at hy
    have num : cond (isSym ax || isSym ay) (match vcode ax, vcode ay with | some a, some b => symBin al op a b | _, _ => none) none = some v →
        ∃ v', (do Pure.pure (Next.value (← (do Go.eqGuard op t x y bx bY; Go.binOp op t bx bY))) : Sem Next).run P w = .ok (.value v') w ∧ @VRel (symS S G) ι v v' := by
      intro h
      cases hs : (isSym ax || isSym ay) with
      | false => rw [hs] at h; simp at h
      | true =>
        rw [hs] at h
        simp only [cond_true] at h
        split at h
        · rename_i a b hca hcb
          obtain ⟨m, rfl, em⟩ := vcode_ok hx hca
          obtain ⟨n, rfl, en⟩ := vcode_ok hy hcb
          obtain ⟨hk, v', e1, e2⟩ := symBin_ok (G := G) (ι := ι) ha h em en
          refine ⟨v', ok_value ?_, e2⟩
          have hg : (Go.eqGuard op t x y (.int (kOf (cK a)) m) (.int (kOf (cK b)) n)).run P w = .ok () w := by
            unfold Go.eqGuard
            cases op <;> rfl
          rw [Sem.run_bind, hg]
          exact run_vBin (hk.imp id fun h => by rw [h]) e1 w
        · simp at h
    unfold symOp2 at h
    split at h
    · rename_i xs ys
      cases hc : (anySym xs || anySym ys) with
      | false => rw [hc] at h; simp at h
      | true =>
        rw [hc] at h
        simp only [cond_true] at h
        cases hx with
        | @agg _ xs' x1 x2 => cases hy with
          | @agg _ ys' y1 y2 =>
            split at h
            · cases hq : symEq P al t xs ys with
              | none => rw [hq] at h; simp at h
              | some b =>
                rw [hq] at h
                simp only [Option.some.injEq] at h
                subst h
                obtain ⟨q1, q2⟩ := symEq_ok (G := G) ha hq ⟨x1, x2⟩ ⟨y1, y2⟩ w
                refine ⟨.bool b, ok_value ?_, .bool b⟩
                rw [Sem.run_bind]
                have hg : (Go.eqGuard .eql t x y (.agg xs') (.agg ys')).run P w = .ok () w := by
                  unfold Go.eqGuard
                  rw [if_neg (by decide)]
                  simp only [Sem.run_bind, run_program, Result.andThen_ok, q1]
                  rfl
                rw [hg]
                simp only [Result.andThen_ok]
                unfold Go.binOp
                dsimp only
                rw [Sem.run_bind, q2]; rfl
            · cases hq : symEq P al t xs ys with
              | none => rw [hq] at h; simp at h
              | some b =>
                rw [hq] at h
                simp only [Option.some.injEq] at h
                subst h
                obtain ⟨q1, q2⟩ := symEq_ok (G := G) ha hq ⟨x1, x2⟩ ⟨y1, y2⟩ w
                refine ⟨.bool (!b), ok_value ?_, .bool _⟩
                rw [Sem.run_bind]
                have hg : (Go.eqGuard .neq t x y (.agg xs') (.agg ys')).run P w = .ok () w := by
                  unfold Go.eqGuard
                  rw [if_neg (by decide)]
                  simp only [Sem.run_bind, run_program, Result.andThen_ok, q1]
                  rfl
                rw [hg]
                simp only [Result.andThen_ok]
                unfold Go.binOp
                dsimp only
                rw [Sem.run_bind, q2]; rfl
            · simp at h
    · exact num h
  case unOp op t x =>
    have e : execOp ρ o = (do Pure.pure (.value (← Op.unary op (ρ x)))) := by unfold execOp; rw [ho]
    have hx := hv x (by rw [ho]; simp [Op.operands])
    rw [e]
    split at h
    · rename_i a hxa
      rw [hxa] at hx
      obtain ⟨n, hn, en⟩ := vcode_ok (c := a) hx rfl
      rw [hn]
      have hk8 : cK a < 8 := Nat.mod_lt _ (by decide)
      unfold symUn at h
      split at h
      · cases hs : Nat.ble (sz a) 65535 with
        | false => rw [hs] at h; simp at h
        | true =>
          rw [hs] at h
          simp only [cond_true] at h
          have hs' := Nat.le_of_ble_eq_true hs
          have e1 := ev_mk S (t := 4) (a := 0) hk8 (by decide) (by decide) (show sz a < 65536 by omega)
          rw [en] at e1
          have := fin_num (G := G) (ι := ι) ha (e1.trans (by rfl)) (evB_low S hk8 (by decide) (by decide)) h
          rw [mk_K hk8] at this
          exact ⟨_, ok_value (by rfl), this⟩
      · cases hs : Nat.ble (sz a) 65535 with
        | false => rw [hs] at h; simp at h
        | true =>
          rw [hs] at h
          simp only [cond_true] at h
          have hs' := Nat.le_of_ble_eq_true hs
          have e1 := ev_mk S (t := 5) (a := 0) hk8 (by decide) (by decide) (show sz a < 65536 by omega)
          rw [en] at e1
          have := fin_num (G := G) (ι := ι) ha (e1.trans (by rfl)) (evB_low S hk8 (by decide) (by decide)) h
          rw [mk_K hk8] at this
          exact ⟨_, ok_value (by rfl), this⟩
      · simp at h
    · simp at h
  case convert s d x =>
    have e : execOp ρ o = (do Pure.pure (.value (← Go.convert s d (ρ x)))) := by unfold execOp; rw [ho]
    have hx := hv x (by rw [ho]; simp [Op.operands])
    rw [e]
    split at h
    · rename_i a hxa
      rw [hxa] at hx
      obtain ⟨n, hn, en⟩ := vcode_ok (c := a) hx rfl
      rw [hn]
      split at h
      · rename_i k hk
        cases hso : (P.underlying s).isSome with
        | false => rw [hso] at h; simp at h
        | true =>
          rw [hso] at h
          simp only [cond_true] at h
          unfold symConv at h
          cases hs : Nat.ble (sz a) 65535 with
          | false => rw [hs] at h; simp at h
          | true =>
            rw [hs] at h
            simp only [cond_true] at h
            have hs' := Nat.le_of_ble_eq_true hs
            have e1 := ev_mk S (t := 3) (a := 0) (kI_lt k) (by decide) (by decide) (show sz a < 65536 by omega)
            rw [en] at e1
            have := fin_num (G := G) (ι := ι) ha (e1.trans (by rfl)) (evB_low S (kI_lt k) (by decide) (by decide)) h
            rw [mk_K (kI_lt k), kOf_kI] at this
            exact ⟨_, ok_value (convert_run hk hso w), this⟩
      · simp at h
    · simp at h
  case call c =>
    have hargs : ∀ x ∈ c.args.toList, @VRel (symS S G) ι (opv g x) (ρ x) := fun x hx => hv x (by
      rw [ho]
      obtain ⟨callee, args, at'⟩ := c
      simp only [Op.operands, Call.operands]
      cases callee <;> simp_all)
    have key : ∀ (mx : Bool), symCall al mx (c.args.toList.map (opv g)) = some v → ∃ k m n, c.args.toList.map ρ = [.int k m, .int k n] ∧ @VRel (symS S G) ι v (.int k (if mx then (if m < n then n else m) else (if n < m then n else m))) := by
      intro mx h
      refine symCall_ok (G := G) ha h (by simp) fun k u hu => ?_
      rw [List.getElem?_map] at hu ⊢
      cases hk : c.args.toList[k]? with
      | none => rw [hk] at hu; simp at hu
      | some x =>
        rw [hk] at hu
        simp only [Option.map_some, Option.some.injEq] at hu
        subst hu
        exact ⟨ρ x, rfl, hargs x (List.mem_of_getElem? hk)⟩
    obtain ⟨callee, args, at'⟩ := c
    cases callee with
    | builtin b =>
      have e : execOp ρ o = (do let d ← resolve ρ { callee := .builtin b, args := args, argTypes := at' } o.type; invoke d.target d.args) := by unfold execOp; rw [ho]
      cases b <;> simp only at h <;> try (simp at h; done)
      case max =>
        obtain ⟨k, m, n, e1, e2⟩ := key true h
        refine ⟨_, ?_, e2⟩
        rw [e]
        have hm : (args.map ρ).toList = [.int k m, .int k n] := by simpa using e1
        simp only [resolve, Sem.run_bind, Sem.run_pure, Result.andThen_ok, invoke, builtin, Builtin.max_, hm, List.foldlM_cons, List.foldlM_nil, Builtin.max2]
        rfl
      case min =>
        obtain ⟨k, m, n, e1, e2⟩ := key false h
        refine ⟨_, ?_, e2⟩
        rw [e]
        have hm : (args.map ρ).toList = [.int k m, .int k n] := by simpa using e1
        simp only [resolve, Sem.run_bind, Sem.run_pure, Result.andThen_ok, invoke, builtin, Builtin.min_, hm, List.foldlM_cons, List.foldlM_nil, Builtin.min2]
        rfl
    | _ => simp at h

@[instance_reducible] noncomputable def symO (P : Program) {S : Sy} (G : Nat → Option Obj) {al : List (Nat × Value)} (ha : AlOk S al) : @Orc P (symS S G) :=
  @Orc.mk P (symS S G) (orcF P al) fun ι o g v h _ w ρ _ hv => orcF_ok P ha ι o g v h w ρ hv
end Go.Ev
