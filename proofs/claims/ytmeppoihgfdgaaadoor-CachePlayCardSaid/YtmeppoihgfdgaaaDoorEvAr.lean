/-
  The evaluator: slices that are given, and rows of numbers whose length is not known: what operations on them come to. Conditions: AlOk.
-/
import Derived.Test.YtmeppoihgfdgaaaDoorEvQ
namespace Go.Ev
open Go.RowKit
variable {P : Program} {S : Sy} {G : Nat → Option Obj} {al : List (Nat × Value)} {ι : Inj}

/-! ### Decisions -/
noncomputable def litI (c : Nat) : Option Int := cond (Nat.beq (cT c) 1) (some (.ofNat (cN c))) (cond (Nat.beq (cT c) 2) (some (.negSucc (cN c))) none)
theorem litI_ok {c : Nat} {m : Int} (h : litI c = some m) : ev S c = some [m] := by
  unfold litI at h
  cases h1 : Nat.beq (cT c) 1 with
  | true =>
    rw [h1] at h
    simp only [cond_true, Option.some.injEq] at h
    subst h
    have := Nat.eq_of_beq_eq_true h1
    rw [ev, if_neg (by omega), if_pos this]
    rfl
  | false =>
    rw [h1, cond_false] at h
    cases h2 : Nat.beq (cT c) 2 with
    | true =>
      rw [h2] at h
      simp only [cond_true, Option.some.injEq] at h
      subst h
      have := Nat.eq_of_beq_eq_true h2
      rw [ev, if_neg (by omega), if_neg (by omega), if_pos this]
      congr 2
      omega
    | false => rw [h2] at h; simp at h
def isI (c : Nat) : Bool := !isBc c && Nat.beq (cK c) (kI .i64)
theorem isI_mkV {c : Nat} (h : isI c = true) (n : Int) : mkV c n = .int .i64 n := by
  unfold isI at h
  simp only [Bool.and_eq_true, Bool.not_eq_true'] at h
  unfold mkV
  rw [h.1, cond_false, Nat.eq_of_beq_eq_true h.2, kOf_kI]
noncomputable def sure (al : List (Nat × Value)) (c : Nat) : Bool := match fin al c false with
  | some (.bool b) => b
  | _ => false
theorem sure_ok (ha : AlOk S al) {c : Nat} (h : sure al c = true) : ev S c = some [1] := by
  unfold sure at h
  split at h
  · rename_i b hb
    subst h
    unfold fin at hb
    cases hl : look al c with
    | none => rw [hl] at hb; simp [miss] at hb
    | some v =>
      rw [hl] at hb
      simp only [Option.some.injEq] at hb
      subst hb
      exact (look_ok ha hl).2
  · simp at h
noncomputable def ltC (al : List (Nat × Value)) (a b : Nat) : Bool := match litI a, litI b with
  | some m, some n => decide (m < n)
  | _, _ => cond (Nat.ble (sz b) 65535) (sure al (mk 29 (kI .i64) a b)) false
theorem ltC_ok (ha : AlOk S al) {a b : Nat} {m n : Int} (h : ltC al a b = true) (hm : ev S a = some [m]) (hn : ev S b = some [n]) : m < n := by
  unfold ltC at h
  split at h
  · rename_i x y hx hy
    have e1 := litI_ok (S := S) hx
    have e2 := litI_ok (S := S) hy
    rw [hm] at e1; rw [hn] at e2
    simp only [Option.some.injEq, List.cons.injEq, and_true] at e1 e2
    subst e1 e2
    simpa using h
  · cases hs : Nat.ble (sz b) 65535 with
    | false => rw [hs] at h; simp at h
    | true =>
      rw [hs, cond_true] at h
      have hs := Nat.le_of_ble_eq_true hs
      have e := sure_ok ha h
      rw [ev_mk S (kI_lt _) (by decide) (by decide) (by decide) (by omega), hm, hn] at e
      have e' : numV (vBin .lss .i64 m n) = some [1] := e
      simp only [vBin, numV, Option.some.injEq, List.cons.injEq, and_true] at e'
      by_cases hlt : m < n
      · exact hlt
      · simp [hlt, b2i] at e'
noncomputable def geC (al : List (Nat × Value)) (a : Nat) : Bool := match litI a with
  | some m => leI 0 m
  | none => sure al (mk 32 (kI .i64) a (lit .i64 0))
theorem geC_ok (ha : AlOk S al) {a : Nat} {m : Int} (h : geC al a = true) (hm : ev S a = some [m]) : 0 ≤ m := by
  unfold geC at h
  split at h
  · rename_i x hx
    have e1 := litI_ok (S := S) hx
    rw [hm] at e1
    simp only [Option.some.injEq, List.cons.injEq, and_true] at e1
    subst e1
    letI := noSyms fun _ => none
    rw [leI_eq] at h
    simpa using h
  · have e := sure_ok ha h
    rw [ev_mk S (kI_lt _) (by decide) (by decide) (by decide) (by decide), hm, ev_lit] at e
    have e' : numV (vBin .geq .i64 m 0) = some [1] := e
    simp only [vBin, numV, Option.some.injEq, List.cons.injEq, and_true] at e'
    by_cases hlt : 0 ≤ m
    · exact hlt
    · simp [hlt, b2i] at e'
/-- A number by its code. -/
noncomputable def numC (al : List (Nat × Value)) (c : Nat) : Option Value := cond (isI c) (match litI c with
  | some n => some (.int .i64 n)
  | none => fin al c true) none
theorem numC_ok (ha : AlOk S al) {c : Nat} {v : Value} {n : Int} (h : numC al c = some v) (hn : ev S c = some [n]) : @VRel (symS S G) ι v (.int .i64 n) := by
  unfold numC at h
  cases hi : isI c with
  | false => rw [hi] at h; simp at h
  | true =>
    rw [hi, cond_true] at h
    split at h
    · rename_i m hm
      have e := litI_ok (S := S) hm
      rw [hn] at e
      simp only [Option.some.injEq, List.cons.injEq, and_true] at e
      subst e
      simp only [Option.some.injEq] at h
      subst h
      letI := symS S G
      exact .int _ _
    · have := fin_num (G := G) (ι := ι) ha h hn
      rwa [isI_mkV hi] at this
theorem ev_var (S : Sy) (i : Nat) (k : IntKind) : ev S (i * 512 + kI k) = some [S.ρ i] := by
  have hk := kI_lt k
  rw [ev, if_pos (by unfold cT; omega), show cN (i * 512 + kI k) = i by unfold cN; omega]
/-- A number's code. -/
theorem vcodeI {v v' : Value} {c : Nat} (h : vcode v = some c) (hi : isI c = true) (hv : @VRel (symS S G) ι v v') : ∃ n, v' = .int .i64 n ∧ ev S c = some [n] := by
  obtain ⟨n, rfl, e⟩ := vcode_ok hv h
  exact ⟨n, isI_mkV hi n, e⟩

/-- Is it a term for a value of that kind? -/
def codeK (k : Option IntKind) (c : Nat) : Bool := match k with
  | some k => !isBc c && Nat.beq (cK c) (kI k)
  | none => isBc c
theorem codeK_val {k : Option IntKind} {cv : Nat} (h : codeK k cv = true) (y : Int) : mkV cv y = kV k y := by
  unfold codeK at h
  cases k with
  | none =>
    unfold mkV
    rw [show isBc cv = true from h, cond_true]
    rfl
  | some k =>
    simp only [Bool.and_eq_true, Bool.not_eq_true'] at h
    unfold mkV
    rw [h.1, cond_false, Nat.eq_of_beq_eq_true h.2, kOf_kI]
    rfl
def kEq : Option IntKind → Option IntKind → Bool
  | some a, some b => eqK a b
  | none, none => true
  | _, _ => false
theorem kEq_ok {a b : Option IntKind} (h : kEq a b = true) : a = b := by
  letI := noSyms fun _ => none
  cases a <;> cases b <;> first | rfl | (simp [kEq] at h; done) | exact congrArg some (eqK_ok h)

/-! ### Reading what is there -/
theorem add_add (a : Addr) (m n : Nat) : (a.add m).add n = a.add (m + n) := by
  unfold Addr.add
  by_cases h1 : m = 0
  · subst h1; simp
  · by_cases h2 : n = 0
    · subst h2; simp
    · simp [h1, h2, Nat.add_assoc]
theorem addr_add (b o k : Nat) : (⟨b, o, none⟩ : Addr).add k = ⟨b, o + k, none⟩ := by
  unfold Addr.add
  split
  · rename_i h; subst h; rfl
  · rfl
theorem cell_add {w : World} {b o : Nat} {cs : Array Value} {t : TypeId} {fz : Nat × Nat} (h : w.heap[b]? = some (.cells cs t fz)) (k : Nat) : w.cell? ((⟨b, o, none⟩ : Addr).add k) = cs[o + k]? := by
  rw [addr_add]
  simp only [World.cell?, h, Option.isSome_none, Bool.false_eq_true, if_false]
theorem run_loads {w : World} {a : Addr} : ∀ (l : List Value) (i : Nat) (acc : Array Value), (∀ j, j < l.length → w.cell? (a.add (i + j)) = some (l.getD j undf)) → (Go.loadCellsFrom a i l.length acc).run P w = .ok (acc ++ l.toArray) w
  | [], i, acc, _ => by simp [Go.loadCellsFrom]
  | v :: l, i, acc, h => by
    show (Go.loadCellsFrom a i (l.length + 1) acc).run P w = _
    unfold Go.loadCellsFrom
    have h0 := h 0 (by simp)
    simp only [Nat.add_zero, List.getD_cons_zero] at h0
    rw [Sem.run_bind, run_load, h0]
    simp only [Result.andThen_ok]
    rw [run_loads l (i + 1) (acc.push v) fun j hj => by
      have := h (j + 1) (by simpa using hj)
      simpa [Nat.add_assoc, Nat.add_comm 1 j] using this]
    congr 1
    simp
def isAggD : TypeDesc → Bool
  | .struct _ | .array .. => true
  | _ => false
theorem run_loadVar1 {t : TypeId} {d : TypeDesc} (hd : P.underlying t = some d) (ha : isAggD d = false) {w : World} {a : Addr} {v : Value} (hc : w.cell? a = some v) : (Go.loadVar t a).run P w = .ok v w := by
  letI := noSyms fun _ => none
  unfold Go.loadVar Go.isAgg
  simp only [Sem.run_bind, run_underlying' hd, Result.andThen_ok]
  cases d <;> first
    | (simp [isAggD] at ha; done)
    | (simp only [Sem.run_pure, Result.andThen_ok, Bool.false_eq_true, if_false]
       rw [run_load, hc])
theorem run_loadVarA {t : TypeId} {d : TypeDesc} {inf : TypeInfo} (hd : P.underlying t = some d) (ha : isAggD d = true) (hi : P.info? t = some inf) {w : World} {a : Addr} {l : List Value} (hl : l.length = inf.size) (hc : ∀ j, j < l.length → w.cell? (a.add j) = some (l.getD j undf)) :
    (Go.loadVar t a).run P w = .ok (.agg l.toArray) w := by
  have e := run_loads (P := P) (w := w) (a := a) l 0 #[] (by simpa using hc)
  letI := noSyms fun _ => none
  unfold Go.loadVar Go.isAgg
  simp only [Sem.run_bind, run_underlying' hd, Result.andThen_ok]
  cases d <;> first
    | (simp [isAggD] at ha; done)
    | (simp only [Sem.run_pure, Result.andThen_ok, if_true, Sem.run_bind, run_sizeOf' hi]
       rw [← hl]
       unfold Go.loadCells
       rw [e]
       simp)
theorem run_indexAt {t e : TypeId} {inf : TypeInfo} (hd : P.underlying t = some (.slice e)) (hi : P.info? e = some inf) {a : Addr} {len cap : Nat} {k : IntKind} {n : Int} (h0 : 0 ≤ n) (h1 : n < len) (w : World) :
    (Instr.indexAt t (.slice (some a) len cap) (.int k n)).run P w = .ok (.pointer (some (a.add (n.toNat * inf.size)))) w := by
  letI := noSyms fun _ => none
  unfold Instr.indexAt
  simp only [Sem.run_bind, Go.asIntOf, Sem.run_pure, Result.andThen_ok, run_underlying' hd, h0, h1, and_self, if_true, run_sizeOf' hi]

/-! ### Given slices -/
theorem ptr1 {c : Nat} {v : Value} (h : ptrS S c = some v) (hc : cT c = 1) : ∃ x, S.I[iK (cA c)]? = some x ∧ v = .slice x.a x.n x.cap ∧ x.ks = ksOf 16 (dK (iD (cA c))) ∧ x.f = dF (iD (cA c)) ∧ S.ρ (dL (iD (cA c))) = x.n := by
  unfold ptrS at h
  rw [if_pos hc] at h
  split at h
  · rename_i x hx
    split at h
    · rename_i hd
      simp only [Option.some.injEq] at h
      unfold dOk at hd
      simp only [Bool.and_eq_true, decide_eq_true_eq] at hd
      exact ⟨x, hx, h.symm, hd.1.1, hd.1.2, hd.2⟩
    · simp at h
  · simp at h
theorem ptr2 {c : Nat} {v : Value} (h : ptrS S c = some v) (hc : cT c = 2) : ∃ x j a, S.I[iK (cA c)]? = some x ∧ ev S (cB c) = some [j] ∧ x.a = some a ∧ v = .pointer (some (a.add (j.toNat * x.ks.length + iM (cA c)))) ∧ x.ks = ksOf 16 (dK (iD (cA c))) ∧ x.f = dF (iD (cA c)) ∧ S.ρ (dL (iD (cA c))) = x.n := by
  unfold ptrS at h
  rw [if_neg (by omega), if_pos hc] at h
  split at h
  · rename_i x j hx hj
    split at h
    · rename_i a hxa
      split at h
      · rename_i hd
        simp only [Option.some.injEq] at h
        unfold dOk at hd
        simp only [Bool.and_eq_true, decide_eq_true_eq] at hd
        exact ⟨x, j, a, hx, hj, hxa, h.symm, hd.1.1, hd.1.2, hd.2⟩
      · simp at h
    · simp at h
  · simp at h
/-- What a name of a reference stands for, by its first sign. -/
theorem ref_inv {c : Nat} {v' : Value} (hv : @VRel (symS S G) ι (.float .f32 c) v') :
    (ptrS S c = some v' ∧ (cT c = 1 ∨ cT c = 2)) ∨ (∃ n cap i, cT c = 3 ∧ (ev S (cB c) = some [n] ∧ 0 ≤ n) ∧ ι (cA c) = some i ∧ (cap = n.toNat ∨ cap * i.esz ≤ i.size + i.extra) ∧ n.toNat ≤ cap ∧ v' = .slice (some ⟨i.blk, i.off, none⟩) n.toNat cap) ∨
    (∃ n i, cT c = 4 ∧ ev S (cB c) = some [n] ∧ ι (oB (cA c)) = some i ∧ v' = .pointer (some ⟨i.blk, i.off + (n.toNat * oS (cA c) + oM (cA c)), none⟩)) := by
  letI := symS S G
  have own : ∀ {b : Bool} {x n : Nat}, ownS S c = some (b, x, n) → (cT c = 3 ∧ b = true ∧ x = cA c ∧ ∃ m, (ev S (cB c) = some [m] ∧ 0 ≤ m) ∧ n = m.toNat) ∨ (cT c = 4 ∧ b = false ∧ x = oB (cA c) ∧ ∃ m, ev S (cB c) = some [m] ∧ n = m.toNat * oS (cA c) + oM (cA c)) := by
    intro b x n h
    unfold ownS at h
    split at h
    · rename_i ht
      split at h
      · rename_i m hm
        split at h
        · rename_i h0
          simp only [Option.some.injEq, Prod.mk.injEq] at h
          exact .inl ⟨ht, h.1.symm, h.2.1.symm, m, ⟨hm, h0⟩, h.2.2.symm⟩
        · simp at h
      · simp at h
    · split at h
      · rename_i ht
        split at h
        · rename_i m hm
          simp only [Option.some.injEq, Prod.mk.injEq] at h
          exact .inr ⟨ht, h.1.symm, h.2.1.symm, m, hm, h.2.2.symm⟩
        · simp at h
      · simp at h
  cases hv with
  | inp h =>
    have h' : ptrS S c = some v' := h
    refine .inl ⟨h', ?_⟩
    unfold ptrS at h'
    split at h'
    · rename_i ht; exact .inl ht
    · split at h'
      · rename_i ht; exact .inr ht
      · simp at h'
  | ownS h h2 h3 h4 =>
    rcases own h with ⟨t, _, rfl, m, e, rfl⟩ | ⟨_, hb, _⟩
    · exact .inr (.inl ⟨m, _, _, t, e, h2, h4, h3, rfl⟩)
    · simp at hb
  | ownP h h2 =>
    rcases own h with ⟨_, hb, _⟩ | ⟨t, _, rfl, m, e, rfl⟩
    · simp at hb
    · exact .inr (.inr ⟨m, _, t, e, h2, rfl⟩)

def elemW (P : Program) (t : TypeId) : Option Nat := match P.underlying t with
  | some (.slice e) => match P.info? e with
    | some i => some i.size
    | none => none
  | _ => none
theorem elemW_ok {t : TypeId} {n : Nat} (h : elemW P t = some n) : ∃ e i, P.underlying t = some (.slice e) ∧ P.info? e = some i ∧ i.size = n := by
  unfold elemW at h
  split at h
  · rename_i e he
    split at h
    · rename_i i hi
      simp only [Option.some.injEq] at h
      exact ⟨e, i, he, hi, h⟩
    · simp at h
  · simp at h
noncomputable def indexS (P : Program) (al : List (Nat × Value)) (t : TypeId) (x i : Value) : Option Value := match x, vcode i, elemW P t with
  | .float .f32 c, some ci, some w => cond (isI ci && Nat.ble (sz ci) 65535 && geC al ci)
      (cond (Nat.beq (cT c) 1) (cond (Nat.beq w (ksOf 16 (dK (iD (cA c)))).length && Nat.beq (iM (cA c)) 0 && ltC al ci (dL (iD (cA c)) * 512 + kI .i64)) (some (.float .f32 (mk 2 0 (cA c) ci))) none)
        (cond (Nat.beq (cT c) 3 && Nat.ble w 63 && ltC al ci (cB c)) (some (.float .f32 (mk 4 0 ((cA c * 64 + w) * 64) ci))) none)) none
  | _, _, _ => none
theorem indexS_ok (ha : AlOk S al) {t : TypeId} {x i x' i' v : Value} (h : indexS P al t x i = some v) (hx : @VRel (symS S G) ι x x') (hi : @VRel (symS S G) ι i i') (w : World) :
    ∃ v', (Instr.indexAt t x' i').run P w = .ok v' w ∧ @VRel (symS S G) ι v v' := by
  unfold indexS at h
  split at h
  · rename_i c ci wd hci hw
    obtain ⟨g, h⟩ := (show ∀ {b : Bool} {y : Option Value}, cond b y none = some v → b = true ∧ y = some v from fun {b y} hh => by cases b <;> simp at hh ⊢; exact hh) h
    simp only [Bool.and_eq_true] at g
    obtain ⟨⟨g1, g2⟩, g3⟩ := g
    have g2 := Nat.le_of_ble_eq_true g2
    obtain ⟨n, rfl, en⟩ := vcodeI hci g1 hi
    have h0 := geC_ok ha g3 en
    obtain ⟨e, inf, hu, hinf, hsz⟩ := elemW_ok hw
    have mT : ∀ tg, tg < 64 → cT (mk tg 0 (cA c) ci) = tg := fun tg ht => mk_T (by decide) ht
    have mA : ∀ tg, tg < 64 → cA (mk tg 0 (cA c) ci) = cA c := fun tg ht => mk_A (by decide) ht (by omega)
    have mB : ∀ tg, tg < 64 → cB (mk tg 0 (cA c) ci) = ci := fun tg ht => mk_B (by decide) ht (by omega)
    cases h1 : Nat.beq (cT c) 1 with
    | true =>
      rw [h1, cond_true] at h
      have h1 := Nat.eq_of_beq_eq_true h1
      cases h2 : (Nat.beq wd (ksOf 16 (dK (iD (cA c)))).length && Nat.beq (iM (cA c)) 0 && ltC al ci (dL (iD (cA c)) * 512 + kI .i64)) with
      | false => rw [h2] at h; simp at h
      | true =>
        rw [h2] at h
        simp only [cond_true, Option.some.injEq] at h
        subst h
        simp only [Bool.and_eq_true] at h2
        have w1 := Nat.eq_of_beq_eq_true h2.1.1
        have w2 := Nat.eq_of_beq_eq_true h2.1.2
        have hlt := ltC_ok ha h2.2 en (ev_var S _ _)
        rcases ref_inv hx with ⟨hp, _⟩ | ⟨_, _, _, ht, _⟩ | ⟨_, _, ht, _⟩
        · obtain ⟨X, q1, rfl, q2, q3, q4⟩ := ptr1 hp h1
          rw [q4] at hlt
          rcases S.ok X (List.mem_of_getElem? q1) with hz | ⟨a, cs, t', fz, ha1, ha2, ha3, ha4, ha5⟩
          · omega
          · rw [ha1]
            refine ⟨_, run_indexAt hu hinf h0 hlt w, ?_⟩
            letI := symS S G
            refine VRel.inp (show ptrS S _ = some _ from ?_)
            unfold ptrS
            rw [mT 2 (by decide), if_neg (by decide), if_pos rfl, mA 2 (by decide), mB 2 (by decide), q1, en]
            dsimp only
            rw [ha1]
            dsimp only
            have hd : dOk S X (iD (cA c)) = true := by unfold dOk; simp [q2, q3, q4]
            rw [if_pos hd, w2, q2, ← w1, hsz, Nat.add_zero]
        · omega
        · omega
    | false =>
      rw [h1, cond_false] at h
      cases h2 : (Nat.beq (cT c) 3 && Nat.ble wd 63 && ltC al ci (cB c)) with
      | false => rw [h2] at h; simp at h
      | true =>
        rw [h2] at h
        simp only [cond_true, Option.some.injEq] at h
        subst h
        simp only [Bool.and_eq_true] at h2
        have w0 := Nat.eq_of_beq_eq_true h2.1.1
        have w1 := Nat.le_of_ble_eq_true h2.1.2
        rcases ref_inv hx with ⟨_, ht⟩ | ⟨m, cap, j, _, q2, q3, q4, q5, rfl⟩ | ⟨_, _, ht, _⟩
        · omega
        · have hlt := ltC_ok ha h2.2 en q2.1
          refine ⟨_, run_indexAt hu hinf h0 (by omega) w, ?_⟩
          rw [hsz, addr_add]
          letI := symS S G
          refine VRel.ownP (b := cA c) (show ownS S _ = some _ from ?_) q3
          unfold ownS
          rw [mk_T (by decide) (by decide), if_neg (by decide), if_pos rfl, mk_A (by decide) (by decide) (by omega), mk_B (by decide) (by decide) (by omega), en]
          have o1 : oB ((cA c * 64 + wd) * 64) = cA c := by unfold oB; omega
          have o2 : oS ((cA c * 64 + wd) * 64) = wd := by unfold oS; omega
          have o3 : oM ((cA c * 64 + wd) * 64) = 0 := by unfold oM; omega
          rw [o1, o2, o3]
          rfl
        · omega
  · simp at h

/-! ### A field of an element -/
theorem run_fieldAt {t : TypeId} {f n : Nat} (h : fieldOff P t f = some n) (a : Addr) (w : World) : (Instr.fieldAt t (.pointer (some a)) f).run P w = .ok (.pointer (some (a.add n))) w := by
  unfold fieldOff at h
  split at h
  · rename_i fs hu
    split at h
    · rename_i fl hfl
      split at h
      · rename_i i hi
        split at h
        · simp at h
        · rename_i hz
          simp only [Option.some.injEq] at h
          subst h
          letI := noSyms fun _ => none
          unfold Instr.fieldAt
          simp only [Sem.run_bind, run_underlying' hu, Result.andThen_ok, hfl, Instr.sureAddr, Sem.run_pure, Go.fieldPlace, run_sizeOf' hi, hz, if_false]
      · simp at h
    · simp at h
  · simp at h
/-- A place within an element: so many cells further. -/
noncomputable def shiftS (c n : Nat) : Option Value := cond (Nat.ble (sz (cB c)) 65535) (cond (Nat.beq (cT c) 2 && Nat.ble (iM (cA c) + n) 63) (some (.float .f32 (mk 2 0 (cA c + n * 64) (cB c))))
      (cond (Nat.beq (cT c) 4 && Nat.ble (oM (cA c) + n) 63) (some (.float .f32 (mk 4 0 (cA c + n) (cB c)))) none)) none
theorem shiftS_ok {c n : Nat} {x' v : Value} (h : shiftS c n = some v) (hx : @VRel (symS S G) ι (.float .f32 c) x') : ∃ a : Addr, x' = .pointer (some a) ∧ @VRel (symS S G) ι v (.pointer (some (a.add n))) := by
  unfold shiftS at h
  obtain ⟨g, h⟩ := (show ∀ {b : Bool} {y : Option Value}, cond b y none = some v → b = true ∧ y = some v from fun {b y} hh => by cases b <;> simp at hh ⊢; exact hh) h
  have g := Nat.le_of_ble_eq_true g
  have mT : ∀ a tg, tg < 64 → cT (mk tg 0 a (cB c)) = tg := fun a tg ht => mk_T (by decide) ht
  have mA : ∀ a tg, tg < 64 → cA (mk tg 0 a (cB c)) = a := fun a tg ht => mk_A (by decide) ht (by omega)
  have mB : ∀ a tg, tg < 64 → cB (mk tg 0 a (cB c)) = cB c := fun a tg ht => mk_B (by decide) ht (by omega)
  cases h1 : (Nat.beq (cT c) 2 && Nat.ble (iM (cA c) + n) 63) with
  | true =>
    rw [h1, cond_true] at h
    simp only [Option.some.injEq] at h
    subst h
    simp only [Bool.and_eq_true] at h1
    have w0 := Nat.eq_of_beq_eq_true h1.1
    have w1 := Nat.le_of_ble_eq_true h1.2
    rcases ref_inv hx with ⟨hp, _⟩ | ⟨_, _, _, ht, _⟩ | ⟨_, _, ht, _⟩
    · obtain ⟨X, j, a, q1, ej, q0, rfl, q2, q3, q4⟩ := ptr2 hp w0
      refine ⟨_, rfl, ?_⟩
      have k1 : iK (cA c + n * 64) = iK (cA c) := by unfold iK; omega
      have k2 : iD (cA c + n * 64) = iD (cA c) := by unfold iD iM at *; omega
      have k3 : iM (cA c + n * 64) = iM (cA c) + n := by unfold iM at *; omega
      letI := symS S G
      refine VRel.inp (show ptrS S _ = some _ from ?_)
      unfold ptrS
      rw [mT _ 2 (by decide), if_neg (by decide), if_pos rfl, mA _ 2 (by decide), mB _ 2 (by decide), k1, q1, ej]
      dsimp only
      rw [q0]
      dsimp only
      have hd : dOk S X (iD (cA c)) = true := by unfold dOk; simp [q2, q3, q4]
      rw [k2, if_pos hd, k3, add_add, Nat.add_assoc]
    · omega
    · omega
  | false =>
    rw [h1, cond_false] at h
    obtain ⟨h2, h⟩ := (show ∀ {b : Bool} {y : Option Value}, cond b y none = some v → b = true ∧ y = some v from fun {b y} hh => by cases b <;> simp at hh ⊢; exact hh) h
    simp only [Option.some.injEq] at h
    subst h
    simp only [Bool.and_eq_true] at h2
    have w0 := Nat.eq_of_beq_eq_true h2.1
    have w1 := Nat.le_of_ble_eq_true h2.2
    rcases ref_inv hx with ⟨_, ht⟩ | ⟨_, _, _, ht, _⟩ | ⟨m, i, _, q2, q3, rfl⟩
    · omega
    · omega
    · refine ⟨_, rfl, ?_⟩
      have o1 : oB (cA c + n) = oB (cA c) := by unfold oB oM at *; omega
      have o2 : oS (cA c + n) = oS (cA c) := by unfold oS oM at *; omega
      have o3 : oM (cA c + n) = oM (cA c) + n := by unfold oM at *; omega
      rw [addr_add]
      letI := symS S G
      have hown : ownS S (mk 4 0 (cA c + n) (cB c)) = some (false, oB (cA c), m.toNat * oS (cA c) + (oM (cA c) + n)) := by
        unfold ownS
        rw [mT _ 4 (by decide), if_neg (by decide), if_pos rfl, mA _ 4 (by decide), mB _ 4 (by decide), q2, o1, o2, o3]
      have := VRel.ownP (ι := ι) (i := i) hown q3
      rw [show i.off + (m.toNat * oS (cA c) + oM (cA c)) + n = i.off + (m.toNat * oS (cA c) + (oM (cA c) + n)) by omega]
      exact this
noncomputable def fieldS (P : Program) (t : TypeId) (x : Value) (f : Nat) : Option Value := match x, fieldOff P t f with
  | .float .f32 c, some n => shiftS c n
  | _, _ => none
theorem fieldS_ok {t : TypeId} {x x' v : Value} {f : Nat} (h : fieldS P t x f = some v) (hx : @VRel (symS S G) ι x x') (w : World) :
    ∃ v', (Instr.fieldAt t x' f).run P w = .ok v' w ∧ @VRel (symS S G) ι v v' := by
  unfold fieldS at h
  split at h
  · rename_i c n hn
    obtain ⟨a, rfl, q⟩ := shiftS_ok h hx
    exact ⟨_, run_fieldAt hn _ w, q⟩
  · simp at h
theorem run_indexArr {t e : TypeId} {len : Nat} {inf : TypeInfo} (hd : P.underlying t = some (.array len e)) (hi : P.info? e = some inf) {a : Addr} {k : IntKind} {n : Int} (h0 : 0 ≤ n) (h1 : n < len) (w : World) :
    (Instr.indexAt t (.pointer (some a)) (.int k n)).run P w = .ok (.pointer (some (a.add (n.toNat * inf.size)))) w := by
  letI := noSyms fun _ => none
  unfold Instr.indexAt
  simp only [Sem.run_bind, Go.asIntOf, Sem.run_pure, Result.andThen_ok, run_underlying' hd, h0, h1, and_self, if_true, run_sizeOf' hi, Instr.sureAddr]
theorem elemAt_arr {t : TypeId} {len s : Nat} (hs : elemAt P t = some (some len, s)) : ∃ el inf, P.underlying t = some (.array len el) ∧ P.info? el = some inf ∧ inf.size = s := by
  unfold elemAt at hs
  split at hs
  · split at hs <;> simp at hs
  · rename_i nn el hu
    split at hs
    · rename_i inf hinf
      simp only [Option.some.injEq, Prod.mk.injEq] at hs
      obtain ⟨rfl, rfl⟩ := hs
      exact ⟨el, inf, hu, hinf, rfl⟩
    · simp at hs
  · simp at hs
/-- An element of an array within an element. -/
noncomputable def indexF (P : Program) (t : TypeId) (c : Nat) (n : Int) : Option Value := match elemAt P t with
  | some (some len, s) => cond (leI 0 n && !leI len n) (shiftS c (n.toNat * s)) none
  | _ => none
theorem indexF_ok {t : TypeId} {c : Nat} {k : IntKind} {n : Int} {x' v : Value} (h : indexF P t c n = some v) (hx : @VRel (symS S G) ι (.float .f32 c) x') (w : World) :
    ∃ v', (Instr.indexAt t x' (.int k n)).run P w = .ok v' w ∧ @VRel (symS S G) ι v v' := by
  unfold indexF at h
  split at h
  · rename_i len s hs
    have hc : (leI 0 n && !leI len n) = true ∧ shiftS c (n.toNat * s) = some v := by
      cases hb : (leI 0 n && !leI len n) with
      | false => rw [hb] at h; simp at h
      | true => rw [hb] at h; exact ⟨rfl, h⟩
    obtain ⟨hb, hv⟩ := hc
    have hb : 0 ≤ n ∧ n < (len : Int) := by
      letI := noSyms fun _ => none
      rw [notle, leI_eq, Bool.and_eq_true, decide_eq_true_eq, decide_eq_true_eq] at hb
      exact hb
    obtain ⟨el, inf, hu, hinf, rfl⟩ := elemAt_arr hs
    obtain ⟨a, rfl, q⟩ := shiftS_ok hv hx
    exact ⟨_, run_indexArr hu hinf hb.1 hb.2 w, q⟩
  · simp at h
/-- An element of a whole array, its number decided ahead. -/
noncomputable def indexD (P : Program) (al : List (Nat × Value)) (t : TypeId) (a : Addr) (c : Nat) : Option Value := match look al c with
  | some (.int _ n) => match elemAt P t with
    | some (some len, s) => cond (leI 0 n && !leI len n) (some (.pointer (some (a.add (n.toNat * s))))) none
    | _ => none
  | _ => none
theorem indexD_ok (ha : AlOk S al) {t : TypeId} {a : Addr} {c : Nat} {x' i' v : Value} (h : indexD P al t a c = some v) (hx : @VRel (symS S G) ι (.pointer (some a)) x') (hi : @VRel (symS S G) ι (.float .f64 c) i') (w : World) :
    ∃ v', (Instr.indexAt t x' i').run P w = .ok v' w ∧ @VRel (symS S G) ι v v' := by
  unfold indexD at h
  split at h
  · rename_i k n hl
    split at h
    · rename_i len s hs
      have hc : (leI 0 n && !leI len n) = true ∧ some (Value.pointer (some (a.add (n.toNat * s)))) = some v := by
        cases hb : (leI 0 n && !leI len n) with
        | false => rw [hb] at h; simp at h
        | true => rw [hb] at h; exact ⟨rfl, h⟩
      obtain ⟨hb, hv⟩ := hc
      have hb : 0 ≤ n ∧ n < (len : Int) := by
        letI := symS S G
        rw [notle, leI_eq, Bool.and_eq_true, decide_eq_true_eq, decide_eq_true_eq] at hb
        exact hb
      simp only [Option.some.injEq] at hv
      subst hv
      obtain ⟨m, rfl, em⟩ := vcode_ok hi (show vcode (.float .f64 c) = some c from rfl)
      obtain ⟨o1, rfl, o3⟩ := (show isBc c = false ∧ k = kOf (cK c) ∧ ev S c = some [n] from look_ok ha hl)
      rw [em] at o3
      simp only [Option.some.injEq, List.cons.injEq, and_true] at o3
      subst o3
      have hm : mkV c m = .int (kOf (cK c)) m := by unfold mkV; rw [o1, cond_false]
      rw [hm]
      obtain ⟨el, inf, hu, hinf, hz⟩ : ∃ el inf, P.underlying t = some (.array len el) ∧ P.info? el = some inf ∧ inf.size = s := by
        unfold elemAt at hs
        split at hs
        · split at hs <;> simp at hs
        · rename_i nn el hu
          split at hs
          · rename_i inf hinf
            simp only [Option.some.injEq, Prod.mk.injEq] at hs
            obtain ⟨rfl, rfl⟩ := hs
            exact ⟨el, inf, hu, hinf, rfl⟩
          · simp at hs
        · simp at hs
      subst hz
      letI := symS S G
      cases hx with
      | ptr hp => exact ⟨_, run_indexArr hu hinf hb.1 hb.2 w, ((show AddrRel ι a _ from ⟨_, hp, rfl⟩).add _).ptr⟩
    · simp at h
  · simp at h
noncomputable def indexR (P : Program) (al : List (Nat × Value)) (t : TypeId) (x i : Value) : Option Value := match x, i with
  | .pointer (some a), .float .f64 c => indexD P al t a c
  | .float .f32 c, .int k n => cond (Nat.beq (cT c) 2 || Nat.beq (cT c) 4) (indexF P t c n) (indexS P al t (.float .f32 c) (.int k n))
  | x, i => indexS P al t x i
theorem indexR_ok (ha : AlOk S al) {t : TypeId} {x i x' i' v : Value} (h : indexR P al t x i = some v) (hx : @VRel (symS S G) ι x x') (hi : @VRel (symS S G) ι i i') (w : World) :
    ∃ v', (Instr.indexAt t x' i').run P w = .ok v' w ∧ @VRel (symS S G) ι v v' := by
  unfold indexR at h
  split at h
  · exact indexD_ok ha h hx hi w
  · rename_i c k n
    cases hb : (Nat.beq (cT c) 2 || Nat.beq (cT c) 4) with
    | true =>
      rw [hb, cond_true] at h
      obtain rfl : i' = .int k n := by
        letI := symS S G
        cases hi
        rfl
      exact indexF_ok h hx w
    | false =>
      rw [hb, cond_false] at h
      exact indexS_ok ha h hx hi w
  · exact indexS_ok ha h hx hi w

/-- A cell of a given slice's element. -/
noncomputable def leafS (al : List (Nat × Value)) (ci f : Nat) : Option IntKind → Option Value
  | some k => fin al (mk 8 (kI k) f (mk 7 0 ci (mk 6 0 0 0))) true
  | none => fin al (mk 12 0 f (mk 7 0 ci (mk 6 0 0 0))) true
noncomputable def leavesS (al : List (Nat × Value)) (ci : Nat) : Nat → List (Option IntKind) → Option (List Value)
  | _, [] => some []
  | f, k :: ks => match leafS al ci f k, leavesS al ci (f + 1) ks with
    | some v, some vs => some (v :: vs)
    | _, _ => none
theorem leafS_ok (ha : AlOk S al) {ci f : Nat} {k : Option IntKind} {v : Value} {n : Int} (hs : sz (mk 7 0 ci (mk 6 0 0 0)) < 65536) (h : leafS al ci f k = some v) (hn : ev S ci = some [n]) : @VRel (symS S G) ι v (kV k (S.Φ f [n])) := by
  have e6 : ev S (mk 6 0 0 0) = some [] := by rw [ev_mk S (by decide) (by decide) (by decide) (by decide) (by decide)]; rfl
  have e7 : ev S (mk 7 0 ci (mk 6 0 0 0)) = some [n] := by rw [ev_mk S (by decide) (by decide) (by decide) (by decide) (by decide), hn, e6]; rfl
  cases k with
  | some k =>
    have e := ev_mk S (t := 8) (a := f) (kI_lt k) (by decide) (by decide) (by decide) hs
    rw [e7] at e
    have q := fin_num (G := G) (ι := ι) ha h (e.trans (by rfl))
    unfold mkV at q
    rw [isBc_mk (kI_lt k) (by decide), show (Nat.ble 27 8 || (Nat.ble 11 8 && Nat.ble 8 15)) = false from rfl, cond_false, mk_K (kI_lt k), kOf_kI] at q
    exact q
  | none =>
    have e := ev_mk S (t := 12) (k := 0) (a := f) (by decide) (by decide) (by decide) (by decide) hs
    rw [e7] at e
    have q := fin_num (G := G) (ι := ι) ha h (e.trans (by rfl))
    unfold mkV at q
    rw [isBc_mk (by decide) (by decide), show (Nat.ble 27 12 || (Nat.ble 11 12 && Nat.ble 12 15)) = true from rfl, cond_true, b2i_ne] at q
    exact q
theorem leavesS_ok (ha : AlOk S al) {ci : Nat} {n : Int} (hs : sz (mk 7 0 ci (mk 6 0 0 0)) < 65536) (hn : ev S ci = some [n]) : ∀ (ks : List (Option IntKind)) (f : Nat) (vs : List Value), leavesS al ci f ks = some vs →
    vs.length = ks.length ∧ ∀ m k, ks[m]? = some k → @VRel (symS S G) ι (vs.getD m undf) (kV k (S.Φ (f + m) [n]))
  | [], f, vs, h => by
    simp only [leavesS, Option.some.injEq] at h
    subst h
    exact ⟨rfl, fun m k hm => by simp at hm⟩
  | k :: ks, f, vs, h => by
    simp only [leavesS] at h
    split at h
    · rename_i v us h1 h2
      simp only [Option.some.injEq] at h
      subst h
      obtain ⟨q1, q2⟩ := leavesS_ok ha hs hn ks (f + 1) us h2
      refine ⟨by simp [q1], fun m k' hm => ?_⟩
      cases m with
      | zero =>
        simp only [List.getElem?_cons_zero, Option.some.injEq] at hm
        subst hm
        simpa using leafS_ok (G := G) (ι := ι) ha hs h1 hn
      | succ m =>
        simp only [List.getElem?_cons_succ] at hm
        have := q2 m k' hm
        rw [show f + 1 + m = f + (m + 1) by omega] at this
        simpa using this
    · simp at h
noncomputable def loadS (P : Program) (al : List (Nat × Value)) (t : TypeId) (x : Value) : Option Value := match x with
  | .float .f32 c => cond (Nat.beq (cT c) 2 && Nat.ble (sz (mk 7 0 (cB c) (mk 6 0 0 0))) 65535 && geC al (cB c) && ltC al (cB c) (dL (iD (cA c)) * 512 + kI .i64))
      (match P.underlying t with
      | some d => cond (isAggD d) (match P.info? t with
        | some i => cond (Nat.ble (iM (cA c) + i.size) (ksOf 16 (dK (iD (cA c)))).length) (match leavesS al (cB c) (dF (iD (cA c)) + iM (cA c)) (((ksOf 16 (dK (iD (cA c)))).drop (iM (cA c))).take i.size) with
          | some vs => some (.agg vs.toArray)
          | none => none) none
        | none => none) (match (ksOf 16 (dK (iD (cA c))))[iM (cA c)]? with
        | some k => leafS al (cB c) (dF (iD (cA c)) + iM (cA c)) k
        | none => none)
      | none => none) none
  | _ => none
theorem loadS_ok (ha : AlOk S al) {t : TypeId} {x x' v : Value} (h : loadS P al t x = some v) (hx : @VRel (symS S G) ι x x') {H : Heap} {w : World} (hw : @Rel (symS S G) P ι H w) :
    ∃ v', (Instr.loadAt t x').run P w = .ok v' w ∧ @VRel (symS S G) ι v v' := by
  unfold loadS at h
  split at h
  · rename_i c
    obtain ⟨g, h⟩ := (show ∀ {b : Bool} {y : Option Value}, cond b y none = some v → b = true ∧ y = some v from fun {b y} hh => by cases b <;> simp at hh ⊢; exact hh) h
    simp only [Bool.and_eq_true] at g
    obtain ⟨⟨⟨g1, g2⟩, g3⟩, g4⟩ := g
    have g1 := Nat.eq_of_beq_eq_true g1
    have g2 := Nat.le_of_ble_eq_true g2
    rcases ref_inv hx with ⟨hp, _⟩ | ⟨_, _, _, ht, _⟩ | ⟨_, _, ht, _⟩
    · obtain ⟨X, j, a, q1, ej, q0, rfl, q2, q3, q4⟩ := ptr2 hp g1
      have h0 := geC_ok ha g3 ej
      have hlt := ltC_ok ha g4 ej (ev_var S _ _)
      rw [q4] at hlt
      rcases S.ok X (List.mem_of_getElem? q1) with hz | ⟨a', cs, t', fz, ha1, ha2, ha3, ha4, ha5⟩
      · omega
      · obtain rfl : a = a' := by rw [q0] at ha1; exact Option.some.inj ha1
        have hheap : w.heap[a.block]? = some (.cells cs t' fz) := by rw [← ha4]; exact (@Rel.glb (symS S G) P ι H w hw).2 a.block X.obj ha3
        have haa : a = ⟨a.block, a.off, none⟩ := by cases a; simp_all
        have cellAt : ∀ m k, X.ks[m]? = some k → w.cell? (a.add (j.toNat * X.ks.length + m)) = some (kV k (S.Φ (X.f + m) [j])) := by
          intro m k hm
          rw [haa, cell_add hheap]
          have := ha5 j.toNat (by omega) m k hm
          rw [show ((j.toNat : Nat) : Int) = j by omega] at this
          exact this
        have run1 : ∀ r v', (Go.loadVar t (a.add (j.toNat * X.ks.length + iM (cA c)))).run P r = .ok v' r → (Instr.loadAt t (.pointer (some (a.add (j.toNat * X.ks.length + iM (cA c)))))).run P r = .ok v' r := by
          intro r v' hr
          unfold Instr.loadAt
          simp only [Instr.sureAddr, Sem.run_bind, Sem.run_pure, Result.andThen_ok]
          exact hr
        split at h
        · rename_i d hd
          cases hag : isAggD d with
          | false =>
            rw [hag, cond_false] at h
            split at h
            · rename_i k hk
              rw [← q2] at hk
              refine ⟨_, run1 w _ (run_loadVar1 hd hag (cellAt _ k hk)), ?_⟩
              rw [← q3] at h
              exact leafS_ok (G := G) (ι := ι) ha (by omega) h ej
            · simp at h
          | true =>
            rw [hag, cond_true] at h
            split at h
            · rename_i inf hinf
              obtain ⟨w1, h⟩ := (show ∀ {b : Bool} {y : Option Value}, cond b y none = some v → b = true ∧ y = some v from fun {b y} hh => by cases b <;> simp at hh ⊢; exact hh) h
              have w1 := Nat.le_of_ble_eq_true w1
              split at h
              · rename_i vs hvs
                simp only [Option.some.injEq] at h
                subst h
                obtain ⟨r1, r2⟩ := leavesS_ok (G := G) (ι := ι) ha (by omega) ej _ _ _ hvs
                rw [← q2] at w1 r1 r2
                have hlen : vs.length = inf.size := by rw [r1]; simp; omega
                let l : List Value := (List.range inf.size).map fun m => kV (X.ks.getD (iM (cA c) + m) none) (S.Φ (X.f + (iM (cA c) + m)) [j])
                have hl : l.length = inf.size := by simp [l]
                have hget : ∀ m, m < inf.size → X.ks[iM (cA c) + m]? = some (X.ks.getD (iM (cA c) + m) none) := fun m hm => by
                  rw [List.getD_eq_getElem?_getD, List.getElem?_eq_getElem (by omega)]; rfl
                have hlg : ∀ m, m < inf.size → l.getD m undf = kV (X.ks.getD (iM (cA c) + m) none) (S.Φ (X.f + (iM (cA c) + m)) [j]) := fun m hm => by
                  simp [l, hm]
                refine ⟨.agg l.toArray, run1 w _ (run_loadVarA hd hag hinf hl fun m hm => ?_), ?_⟩
                · rw [hl] at hm
                  rw [add_add, Nat.add_assoc, cellAt _ _ (hget m hm), hlg m hm]
                · letI := symS S G
                  refine ARel.agg ⟨by simp [hl, hlen], fun m hm => ?_⟩
                  have hm' : m < inf.size := by simpa [hlen] using hm
                  have := r2 m (X.ks.getD (iM (cA c) + m) none) (by rw [List.getElem?_take, if_pos hm', List.getElem?_drop]; exact hget m hm')
                  have e1 : vs.toArray.getD m undf = vs.getD m undf := by simp
                  have e2 : l.toArray.getD m undf = l.getD m undf := by simp
                  rw [e1, e2, hlg m hm']
                  rw [← q3, Nat.add_assoc] at this
                  exact this
              · simp at h
            · simp at h
        · simp at h
    · omega
    · omega
  · simp at h

/-! ### Lengths, checks, cuts -/
noncomputable def lenR (P : Program) (al : List (Nat × Value)) (tys : Array TypeId) (args : List Value) : Option Value := match tys[0]?, args with
  | some t, [.float .f32 c] => cond (elemW P t).isSome (cond (Nat.beq (cT c) 1) (numC al (dL (iD (cA c)) * 512 + kI .i64)) (cond (Nat.beq (cT c) 3) (numC al (cB c)) none)) none
  | _, _ => none
theorem lenR_ok (ha : AlOk S al) {tys : Array TypeId} {ty : TypeId} {c : Nat} {x' v : Value} (h : lenR P al tys [.float .f32 c] = some v) (hx : @VRel (symS S G) ι (.float .f32 c) x') (w : World) :
    ∃ v', (Builtin.len_ tys ty #[x']).run P w = .ok v' w ∧ @VRel (symS S G) ι v v' := by
  unfold lenR at h
  split at h
  · rename_i t c' ht heq
    obtain rfl : c = c' := by simpa using heq
    obtain ⟨g, h⟩ := (show ∀ {b : Bool} {y : Option Value}, cond b y none = some v → b = true ∧ y = some v from fun {b y} hh => by cases b <;> simp at hh ⊢; exact hh) h
    obtain ⟨n, hn⟩ := Option.isSome_iff_exists.1 g
    obtain ⟨e, inf, hu, _, _⟩ := elemW_ok hn
    have run : ∀ (a : Option Addr) (n cap : Nat), (Builtin.len_ tys ty #[.slice a n cap]).run P w = .ok (.int .i64 n) w := fun a n cap => by
      letI := noSyms fun _ => none
      unfold Builtin.len_
      rw [ht]
      simp only [List.getElem?_toArray, List.getElem?_cons_zero]
      rw [Sem.run_bind, run_underlying' hu]
      rfl
    cases h1 : Nat.beq (cT c) 1 with
    | true =>
      rw [h1, cond_true] at h
      have h1 := Nat.eq_of_beq_eq_true h1
      rcases ref_inv hx with ⟨hp, _⟩ | ⟨_, _, _, ht, _⟩ | ⟨_, _, ht, _⟩
      · obtain ⟨X, q1, rfl, q2, q3, q4⟩ := ptr1 hp h1
        refine ⟨_, run _ _ _, ?_⟩
        rw [← q4]
        exact numC_ok (G := G) ha h (ev_var S _ _)
      · omega
      · omega
    | false =>
      rw [h1, cond_false] at h
      cases h2 : Nat.beq (cT c) 3 with
      | false => rw [h2] at h; simp at h
      | true =>
        rw [h2, cond_true] at h
        have h2 := Nat.eq_of_beq_eq_true h2
        rcases ref_inv hx with ⟨_, ht⟩ | ⟨m, cap, j, _, q2, q3, q4, q5, rfl⟩ | ⟨_, _, ht, _⟩
        · omega
        · refine ⟨_, run _ _ _, ?_⟩
          rw [show ((m.toNat : Nat) : Int) = m by omega]
          exact numC_ok (G := G) ha h q2.1
        · omega
  · simp at h
def nilS : Value → Option Value
  | .float .f32 c => cond (Nat.beq (cT c) 2 || Nat.beq (cT c) 4) (some (.float .f32 c)) none
  | _ => none
theorem nilS_ok {x x' v : Value} (h : nilS x = some v) (hx : @VRel (symS S G) ι x x') : v = x ∧ ∃ a, x' = .pointer (some a) := by
  unfold nilS at h
  split at h
  · rename_i c
    cases hc : (Nat.beq (cT c) 2 || Nat.beq (cT c) 4) with
    | false => rw [hc] at h; simp at h
    | true =>
      rw [hc] at h
      simp only [cond_true, Option.some.injEq] at h
      have hc : cT c = 2 ∨ cT c = 4 := by
        rw [Bool.or_eq_true] at hc
        exact hc.imp Nat.eq_of_beq_eq_true Nat.eq_of_beq_eq_true
      refine ⟨h.symm, ?_⟩
      rcases ref_inv hx with ⟨hp, ht⟩ | ⟨_, _, _, ht, _⟩ | ⟨_, _, ht, _, _, _, rfl⟩
      · obtain ⟨X, j, a, _, _, _, rfl, _⟩ := ptr2 hp (by omega)
        exact ⟨_, rfl⟩
      · omega
      · exact ⟨_, rfl⟩
  · simp at h
/-- A name that no block has. -/
def nowhere : Addr := ⟨1000000000, 0, none⟩
def zeroV : Option Value → Bool
  | some (.int _ n) => eqI n 0
  | _ => false
def cutS (P : Program) (t : TypeId) (x : Value) (lo hi mx : Option Value) : Option Value := match x with
  | .float .f32 c => cond (Nat.beq (cT c) 3 && (elemW P t).isSome && zeroV hi && zeroV mx && (lo.isNone || zeroV lo)) (some (.slice (some nowhere) 0 0)) none
  | _ => none
theorem zeroV_ok {x x' : Option Value} (h : zeroV x = true) (hx : @ORel (symS S G) ι x x') : ∃ k, x' = some (.int k 0) := by
  letI := symS S G
  cases x with
  | none => simp [zeroV] at h
  | some v =>
    cases v <;> try (simp [zeroV] at h; done)
    rename_i k n
    have h0 : n = 0 := by
      have h' : eqI n 0 = true := h
      rw [eqI_eq] at h'
      simpa using h'
    subst h0
    cases x' with
    | none => exact hx.elim
    | some v' =>
      have hv : VRel ι (.int k 0) v' := hx
      cases hv
      exact ⟨k, rfl⟩
theorem cutS_ok {t : TypeId} {x x' v : Value} {lo hi mx lo' hi' mx' : Option Value} (h : cutS P t x lo hi mx = some v) (hx : @VRel (symS S G) ι x x') (h1 : @ORel (symS S G) ι lo lo') (h2 : @ORel (symS S G) ι hi hi') (h3 : @ORel (symS S G) ι mx mx') (w : World) :
    ∃ v', (Instr.sliceAt t x' lo' hi' mx').run P w = .ok v' w ∧ @VRel (symS S G) ι v v' := by
  unfold cutS at h
  split at h
  · rename_i c
    obtain ⟨g, h⟩ := (show ∀ {b : Bool} {y : Option Value}, cond b y none = some v → b = true ∧ y = some v from fun {b y} hh => by cases b <;> simp at hh ⊢; exact hh) h
    simp only [Option.some.injEq] at h
    subst h
    simp only [Bool.and_eq_true, Bool.or_eq_true] at g
    obtain ⟨⟨⟨⟨g1, g2⟩, g3⟩, g4⟩, g5⟩ := g
    have g1 := Nat.eq_of_beq_eq_true g1
    obtain ⟨n, hn⟩ := Option.isSome_iff_exists.1 g2
    obtain ⟨e, inf, hu, hinf, _⟩ := elemW_ok hn
    obtain ⟨k2, rfl⟩ := zeroV_ok g3 h2
    obtain ⟨k3, rfl⟩ := zeroV_ok g4 h3
    have hlo : lo' = none ∨ ∃ k, lo' = some (.int k 0) := by
      rcases g5 with g5 | g5
      · left
        cases lo with
        | none => cases lo' with
          | none => rfl
          | some _ => exact h1.elim
        | some _ => simp at g5
      · exact .inr (zeroV_ok g5 h1)
    rcases ref_inv hx with ⟨_, ht⟩ | ⟨m, cap, j, _, q2, q3, q4, q5, rfl⟩ | ⟨_, _, ht, _⟩
    · omega
    · refine ⟨.slice (some ⟨j.blk, j.off, none⟩) 0 0, ?_, ?_⟩
      · letI := noSyms fun _ => none
        unfold Instr.sliceAt
        rw [Sem.run_bind, run_underlying' hu]
        simp only [Result.andThen_ok]
        unfold Instr.slice
        rw [Sem.run_bind, run_underlying' hu]
        simp only [Result.andThen_ok]
        have sb : ∀ (k : IntKind) (y : Nat) (c : BoundsCode) (r : World), (Instr.sliceBound (.int k 0) y c).run P r = .ok 0 r := fun k y c r => by
          unfold Instr.sliceBound
          simp only [Sem.run_bind, Go.asIntOf, Sem.run_pure, Result.andThen_ok]
          rw [if_pos (by omega)]
          rfl
        have hb : (Instr.sliceBounds true m.toNat cap lo' (some (.int k2 0)) (some (.int k3 0))).run P w = .ok (0, 0, 0) w := by
          unfold Instr.sliceBounds
          simp only [Sem.run_bind, sb, Result.andThen_ok]
          rcases hlo with rfl | ⟨k, rfl⟩
          · rfl
          · simp only [Sem.run_bind, sb, Result.andThen_ok]
            rfl
        rw [Sem.run_bind, hb]
        simp only [Result.andThen_ok]
        rw [Sem.run_bind, run_sizeOf' hinf]
        rfl
      · letI := symS S G
        exact .emptySlice _ _
    · omega
  · simp at h

/-! ### All of them -/
noncomputable def refF (P : Program) (al : List (Nat × Value)) (o : Oper) (g : Nat → Value) : Option Value :=
  match o.op with
  | .indexAddr t x i => indexR P al t (opv g x) (opv g i)
  | .load t x => loadS P al t (opv g x)
  | .fieldAddr t x f => fieldS P t (opv g x) f
  | .nilCheck x => nilS (opv g x)
  | .slice t x lo hi mx => cutS P t (opv g x) (lo.map (opv g)) (hi.map (opv g)) (mx.map (opv g))
  | .call { callee := .builtin .len, args, argTypes } => lenR P al argTypes (args.toList.map (opv g))
  | _ => none
theorem refF_ok (ha : AlOk S al) (o : Oper) (g : Nat → Value) (v : Value) (h : refF P al o g = some v) {H : Heap} (w : World) (hw : @Rel (symS S G) P ι H w) (ρ : Operand → Value)
    (hv : ∀ x ∈ o.op.operands, @VRel (symS S G) ι (opv g x) (ρ x)) : ∃ v', (execOp ρ o).run P w = .ok (.value v') w ∧ @VRel (symS S G) ι v v' := by
  have okV : ∀ {s : Sem Value} {v : Value}, s.run P w = .ok v w → (do Pure.pure (Next.value (← s)) : Sem Next).run P w = .ok (.value v) w := fun h => by rw [Sem.run_bind, h]; rfl
  unfold refF at h
  cases ho : o.op <;> rw [ho] at h <;> (try simp only at h) <;> try (simp at h; done)
  case indexAddr t x i =>
    have e : execOp ρ o = (do Pure.pure (.value (← Instr.indexAt t (ρ x) (ρ i)))) := by unfold execOp; rw [ho]
    obtain ⟨v', e1, q⟩ := indexR_ok ha h (hv x (by rw [ho]; simp [Op.operands])) (hv i (by rw [ho]; simp [Op.operands])) w
    exact ⟨v', by rw [e]; exact okV e1, q⟩
  case load t x =>
    have e : execOp ρ o = (do Pure.pure (.value (← Instr.loadAt t (ρ x)))) := by unfold execOp; rw [ho]
    obtain ⟨v', e1, q⟩ := loadS_ok ha h (hv x (by rw [ho]; simp [Op.operands])) hw
    exact ⟨v', by rw [e]; exact okV e1, q⟩
  case fieldAddr t x f =>
    have e : execOp ρ o = (do Pure.pure (.value (← Instr.fieldAt t (ρ x) f))) := by unfold execOp; rw [ho]
    obtain ⟨v', e1, q⟩ := fieldS_ok h (hv x (by rw [ho]; simp [Op.operands])) w
    exact ⟨v', by rw [e]; exact okV e1, q⟩
  case nilCheck x =>
    have hx := hv x (by rw [ho]; simp [Op.operands])
    obtain ⟨rfl, a, ha'⟩ := nilS_ok h hx
    refine ⟨ρ x, ?_, hx⟩
    unfold execOp
    rw [ho]
    dsimp only
    rw [ha']
    rfl
  case slice t x lo hi mx =>
    have e : execOp ρ o = (do Pure.pure (.value (← Instr.sliceAt t (ρ x) (lo.map ρ) (hi.map ρ) (mx.map ρ)))) := by unfold execOp; rw [ho]
    have ol : ∀ y : Option Operand, (∀ z, y = some z → @VRel (symS S G) ι (opv g z) (ρ z)) → @ORel (symS S G) ι (y.map (opv g)) (y.map ρ) := fun y hy => by
      cases y with
      | none => exact trivial
      | some z => exact hy z rfl
    obtain ⟨v', e1, q⟩ := cutS_ok h (hv x (by rw [ho]; simp [Op.operands])) (ol lo fun z hz => hv z (by rw [ho]; simp [Op.operands, hz])) (ol hi fun z hz => hv z (by rw [ho]; simp [Op.operands, hz])) (ol mx fun z hz => hv z (by rw [ho]; simp [Op.operands, hz])) w
    exact ⟨v', by rw [e]; exact okV e1, q⟩
  case call c =>
    obtain ⟨callee, args, tys⟩ := c
    cases callee with
    | builtin b =>
      cases b <;> (try simp only at h) <;> try (simp at h; done)
      have e : execOp ρ o = (do Pure.pure (.value (← Builtin.len_ tys o.type (args.map ρ)))) := by unfold execOp; rw [ho]; rfl
      obtain ⟨l⟩ := args
      have hl : ∃ x c, l = [x] ∧ opv g x = .float .f32 c := by
        unfold lenR at h
        split at h
        · rename_i t c _ heq
          rcases l with _ | ⟨x, _ | ⟨y, l⟩⟩
          · simp at heq
          · exact ⟨x, c, rfl, by simpa using heq⟩
          · simp at heq
        · simp at h
      obtain ⟨x, c, rfl, hc⟩ := hl
      have hx := hv x (by rw [ho]; simp [Op.operands, Call.operands])
      rw [hc] at hx
      have h' : lenR P al tys [.float .f32 c] = some v := by simpa [hc] using h
      obtain ⟨v', e1, q⟩ := lenR_ok ha h' hx w (ty := o.type)
      exact ⟨v', by rw [e]; exact okV (by simpa using e1), q⟩
    | _ => simp at h
end Go.Ev
