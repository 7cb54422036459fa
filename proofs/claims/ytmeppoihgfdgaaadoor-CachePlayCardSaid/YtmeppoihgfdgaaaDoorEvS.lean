/-
  The evaluator: slices that are cut, made, copied; the least and the greatest of numbers; maps. No condition.
-/
import Derived.Test.YtmeppoihgfdgaaaDoorEvF
import Derived.IntWalk
namespace Go.Ev
set_option linter.unusedSectionVars false      -- the symbols' class stands for all texts
variable [Syms] {P : Program} {ι : Inj}

/-! ### Runs of what hangs on the program alone -/
theorem run_typeInfo' {t : TypeId} {i : TypeInfo} (h : P.info? t = some i) (w : World) : (Go.typeInfo t).run P w = .ok i w := by
  unfold Go.typeInfo
  rw [Sem.run_bind]
  simp [h]
theorem run_underlying' {t : TypeId} {d : TypeDesc} (h : P.underlying t = some d) (w : World) : (Go.underlying t).run P w = .ok d w := by
  unfold Go.underlying
  rw [Sem.run_bind]
  simp [h]
theorem run_sizeOf' {t : TypeId} {i : TypeInfo} (h : P.info? t = some i) (w : World) : (Go.sizeOf t).run P w = .ok i.size w := by
  unfold Go.sizeOf
  rw [Sem.run_bind, run_typeInfo' h]
  rfl
theorem run_zeroValue' {t : TypeId} {i : TypeInfo} {z : Value} (h : P.info? t = some i) (hz : i.zero = some z) (w : World) : (Go.zeroValue t).run P w = .ok z w := by
  unfold Go.zeroValue
  rw [Sem.run_bind, run_typeInfo' h]
  simp [hz]

/-! ### make -/
noncomputable def amake (P : Program) (t : TypeId) (len cap : Value) (H : Heap) : Option (Value × Heap) :=
  match P.underlying t, len, cap with
  | some (.slice e), .int _ l, .int _ c =>
    match P.info? e with
    | some i => match i.zero with
      | some z => if e < P.types.size ∧ i.size = 1 ∧ Ev.oneCell z = true ∧ 0 ≤ l ∧ l ≤ c ∧ c ≤ 1099511627776 ∧ (i.bytes : Int) * c ≤ 140737488355328 then
          some (.slice (some ⟨H.next, 0, none⟩) l.toNat c.toNat, H.new (.cells { size := c.toNat, m := .leaf, dflt := z, elem := e, opn := false, esz := 1 }))
        else none
      | none => none
    | none => none
  | _, _, _ => none

theorem cells_one {z : Value} (h : Ev.oneCell z = true) : z.cells = #[z] := by
  cases z <;> first | rfl | simp [Ev.oneCell] at h

theorem amake_ok (hz : ZeroOk P) {t : TypeId} {len cap len' cap' : Value} (hl : VRel ι len len') (hc : VRel ι cap cap') {H H' : Heap} {v : Value} (h : amake P t len cap H = some (v, H')) {w : World} (hw : Rel P ι H w) :
    ∃ ι' v' w', (Instr.makeSlice t len' cap').run P w = .ok v' w' ∧ Ext P ι w ι' w' ∧ Rel P ι' H' w' ∧ VRel ι' v v' := by
  unfold amake at h
  split at h
  · rename_i e k l k' c hu
    cases hl
    cases hc
    split at h
    · rename_i i hi
      split at h
      · rename_i z hzz
        split at h
        · rename_i hcond
          obtain ⟨c1, c2, c3, c4, c5, c6, c7⟩ := hcond
          simp only [Option.some.injEq, Prod.mk.injEq] at h
          obtain ⟨rfl, rfl⟩ := h
          have hg : ground z = true := hz e i z c1 (by unfold Tables.info? at hi; rw [if_pos c1] at hi; exact hi) hzz
          have hrow : CRel ι ⟨w.heap.size, 0, c.toNat, 0, 1⟩ (.cells ((Array.range (c.toNat * i.size)).map fun x => #[z][x % (#[z] : Array Value).size]!) e (0, 0)) { size := c.toNat, m := .leaf, dflt := z, elem := e, opn := false, esz := 1 } := by
            refine ⟨⟨rfl, rfl, Nat.one_pos⟩, _, rfl, by simp [c2], fun _ => ⟨rfl, rfl, by simp [c2]⟩, fun k hk => ?_⟩
            have hk' : k < c.toNat := hk
            have e1 : (((Array.range (c.toNat * i.size)).map fun x => #[z][x % (#[z] : Array Value).size]!)).getD (0 + k) undf = z := by
              simp [c2, hk', Nat.mod_one]
            rw [e1]
            exact ground_rel hg
          obtain ⟨q1, q2, q3⟩ := hw.new (b := .cells { size := c.toNat, m := .leaf, dflt := z, elem := e, opn := false, esz := 1 }) (i := ⟨w.heap.size, 0, c.toNat, 0, 1⟩) rfl hrow
          refine ⟨_, .slice (some ⟨w.heap.size, 0, none⟩) l.toNat c.toNat, _, ?_, q2, q3, ?_⟩
          · have wl : IntKind.i64.wrap l = l := IntWalk.i64_in _ (by omega)
            have wc : IntKind.i64.wrap c = c := IntWalk.i64_in _ (by omega)
            have n1 : ¬ (c < 0 ∨ (i.bytes : Int) * c > 2 ^ 48) := by
              intro hh
              rcases hh with hh | hh
              · omega
              · have : (2 : Int) ^ 48 = 281474976710656 := by decide
                omega
            have hcc : ¬ c < 0 := by omega
            have hll : ¬ l < 0 := by omega
            have hlc : ¬ l > c := by omega
            have hbb : ¬ (i.bytes : Int) * c > 2 ^ 48 := fun hh => n1 (.inr hh)
            unfold Instr.makeSlice
            simp only [Sem.run_bind, run_underlying' hu, Result.andThen_ok, Go.asInt, Go.asIntOf, Sem.run_pure, run_typeInfo' hi, wl, wc, hcc, hll, hlc, hbb, decide_false, Bool.or_self, Bool.false_eq_true, if_false, run_askRoom, run_sizeOf' hi]
            by_cases h0 : c.toNat * i.size = 0
            · have e0 : ∀ f : Nat → Value, (Array.range 0).map f = #[] := fun f => by simp
              rw [if_pos h0, h0]
              simp only [e0]
              rfl
            · rw [if_neg h0, Sem.run_bind, run_zeroValue' hi hzz]
              simp only [Result.andThen_ok, cells_one c3]
              rfl
          · have := VRel.slice (ι := ι.with H.next ⟨w.heap.size, 0, c.toNat, 0, 1⟩) (a := ⟨H.next, 0, none⟩) (i := ⟨w.heap.size, 0, c.toNat, 0, 1⟩) (l := l.toNat) (c := c.toNat) (c' := c.toNat) (by simp [Inj.with]) (.inl rfl) (Nat.le_refl _)
            simpa using this
        · simp at h
      · simp at h
    · simp at h
  · simp at h

/-- The same, at whatever name is free. -/
theorem amake_at (hz : ZeroOk P) {t : TypeId} {len cap len' cap' : Value} (hl : VRel ι len len') (hc : VRel ι cap cap') {H H' : Heap} {v : Value} (h : amake P t len cap H = some (v, H')) {w : World} {X X' : Heap} (hw : Rel P ι X w)
    (hN : ι H.next = none) (hbase : X'.base = X.base) (hnx : X.next ≤ X'.next) (hlt : H.next < X'.next) (hhole : ∀ n, n ∈ X'.hole → n ∈ X.hole ∧ n ≠ H.next) (hget : ∀ m, X'.get m = if m = H.next then H'.get H.next else X.get m) :
    ∃ i v' w', (Instr.makeSlice t len' cap').run P w = .ok v' w' ∧ Ext P ι w (ι.with H.next i) w' ∧ Rel P (ι.with H.next i) X' w' ∧ VRel (ι.with H.next i) v v' := by
  unfold amake at h
  split at h
  · rename_i e k l k' c hu
    cases hl
    cases hc
    split at h
    · rename_i i hi
      split at h
      · rename_i z hzz
        split at h
        · rename_i hcond
          obtain ⟨c1, c2, c3, c4, c5, c6, c7⟩ := hcond
          simp only [Option.some.injEq, Prod.mk.injEq] at h
          obtain ⟨rfl, rfl⟩ := h
          have hg : ground z = true := hz e i z c1 (by unfold Tables.info? at hi; rw [if_pos c1] at hi; exact hi) hzz
          have hrow : CRel ι ⟨w.heap.size, 0, c.toNat, 0, 1⟩ (.cells ((Array.range (c.toNat * i.size)).map fun x => #[z][x % (#[z] : Array Value).size]!) e (0, 0)) { size := c.toNat, m := .leaf, dflt := z, elem := e, opn := false, esz := 1 } := by
            refine ⟨⟨rfl, rfl, Nat.one_pos⟩, _, rfl, by simp [c2], fun _ => ⟨rfl, rfl, by simp [c2]⟩, fun k hk => ?_⟩
            have hk' : k < c.toNat := hk
            have e1 : (((Array.range (c.toNat * i.size)).map fun x => #[z][x % (#[z] : Array Value).size]!)).getD (0 + k) undf = z := by
              simp [c2, hk', Nat.mod_one]
            rw [e1]
            exact ground_rel hg
          obtain ⟨q1, q2, q3⟩ := hw.newAt (H' := X') (b := .cells { size := c.toNat, m := .leaf, dflt := z, elem := e, opn := false, esz := 1 }) (i := ⟨w.heap.size, 0, c.toNat, 0, 1⟩) rfl hrow hN hbase hnx hlt hhole (fun m => by rw [hget m]; simp)
          refine ⟨_, .slice (some ⟨w.heap.size, 0, none⟩) l.toNat c.toNat, _, ?_, q2, q3, ?_⟩
          · have wl : IntKind.i64.wrap l = l := IntWalk.i64_in _ (by omega)
            have wc : IntKind.i64.wrap c = c := IntWalk.i64_in _ (by omega)
            have n1 : ¬ (c < 0 ∨ (i.bytes : Int) * c > 2 ^ 48) := by
              intro hh
              rcases hh with hh | hh
              · omega
              · have : (2 : Int) ^ 48 = 281474976710656 := by decide
                omega
            have hcc : ¬ c < 0 := by omega
            have hll : ¬ l < 0 := by omega
            have hlc : ¬ l > c := by omega
            have hbb : ¬ (i.bytes : Int) * c > 2 ^ 48 := fun hh => n1 (.inr hh)
            unfold Instr.makeSlice
            simp only [Sem.run_bind, run_underlying' hu, Result.andThen_ok, Go.asInt, Go.asIntOf, Sem.run_pure, run_typeInfo' hi, wl, wc, hcc, hll, hlc, hbb, decide_false, Bool.or_self, Bool.false_eq_true, if_false, run_askRoom, run_sizeOf' hi]
            by_cases h0 : c.toNat * i.size = 0
            · have e0 : ∀ f : Nat → Value, (Array.range 0).map f = #[] := fun f => by simp
              rw [if_pos h0, h0]
              simp only [e0]
              rfl
            · rw [if_neg h0, Sem.run_bind, run_zeroValue' hi hzz]
              simp only [Result.andThen_ok, cells_one c3]
              rfl
          · have := VRel.slice (ι := ι.with H.next ⟨w.heap.size, 0, c.toNat, 0, 1⟩) (a := ⟨H.next, 0, none⟩) (i := ⟨w.heap.size, 0, c.toNat, 0, 1⟩) (l := l.toNat) (c := c.toNat) (c' := c.toNat) (by simp [Inj.with]) (.inl rfl) (Nat.le_refl _)
            simpa using this
        · simp at h
      · simp at h
    · simp at h
  · simp at h

theorem amake_new {t : TypeId} {len cap : Value} {H H' : Heap} {v : Value} (h : amake P t len cap H = some (v, H')) : ∃ b, H' = H.new b := by
  unfold amake at h
  split at h
  · split at h
    · split at h
      · split at h
        · simp only [Option.some.injEq, Prod.mk.injEq] at h
          exact ⟨_, h.2.symm⟩
        · simp at h
      · simp at h
    · simp at h
  · simp at h

/-! ### Slices that are cut -/
/-- A bound that is a number, from 0 on. -/
def natOf : Option Value → Nat → Option Nat
  | none, d => some d
  | some (.int _ n), _ => if 0 ≤ n then some n.toNat else none
  | _, _ => none

def ORel (ι : Inj) : Option Value → Option Value → Prop
  | none, none => True
  | some a, some b => VRel ι a b
  | _, _ => False

theorem Sim.sliceBound {x x' : Value} (h : VRel ι x x') (y : Nat) (c : BoundsCode) : Sim P ι EqR (Instr.sliceBound x y c) (Instr.sliceBound x' y c) := by
  unfold Instr.sliceBound
  refine (Sim.asIntOf h).bind fun ι1 a b hs e => ?_
  cases e
  dsimp only
  split
  · exact Sim.pure rfl
  · exact Sim.dead (Dead.boundsPanic _ _ _ _)

/-- The lower bound. -/
noncomputable def lowB (lo : Option Value) (h m : Nat) (c : BoundsCode) : Sem (Nat × Nat × Nat) :=
  match lo with
  | some v => (do let l ← Instr.sliceBound v h c; Pure.pure (l, h, m))
  | none => Pure.pure (0, h, m)
theorem Sim.lowB {lo lo' : Option Value} (h1 : ORel ι lo lo') (h m : Nat) (c : BoundsCode) : Sim P ι EqR (Ev.lowB lo h m c) (Ev.lowB lo' h m c) := by
  cases lo with
  | none => cases lo' with
    | none => exact Sim.pure rfl
    | some v' => exact h1.elim
  | some v => cases lo' with
    | none => exact h1.elim
    | some v' =>
      refine (Sim.sliceBound h1 _ _).bind fun ι2 a b _ e => ?_
      cases e
      exact Sim.pure rfl
theorem ORel.mono {ι ι' : Inj} (hs : Sub ι ι') {a b : Option Value} (h : ORel ι a b) : ORel ι' a b := by
  cases a <;> cases b <;> first | exact h | exact VRel.mono hs h

theorem Sim.sliceBounds (sl : Bool) (len cap : Nat) {lo lo' hi hi' mx mx' : Option Value} (h1 : ORel ι lo lo') (h2 : ORel ι hi hi') (h3 : ORel ι mx mx') :
    Sim P ι EqR (Instr.sliceBounds sl len cap lo hi mx) (Instr.sliceBounds sl len cap lo' hi' mx') := by
  unfold Instr.sliceBounds
  cases mx with
  | none => cases mx' with
    | some v' => exact h3.elim
    | none =>
      dsimp only [Pure.pure, Bind.bind, Sem.bind]
      cases hi with
      | none => cases hi' with
        | some v' => exact h2.elim
        | none => exact Sim.lowB h1 len cap _
      | some v => cases hi' with
        | none => exact h2.elim
        | some v' =>
          refine (Sim.sliceBound h2 _ _).bind fun ι2 a b hs e => ?_
          cases e
          exact Sim.lowB (h1.mono hs) a cap _
  | some m => cases mx' with
    | none => exact h3.elim
    | some m' =>
      refine (Sim.sliceBound h3 _ _).bind fun ι2 a b hs e => ?_
      cases e
      cases hi with
      | none => cases hi' with
        | some v' => exact h2.elim
        | none => exact Sim.dead (Dead.first (Dead.stuck _))
      | some v => cases hi' with
        | none => exact h2.elim
        | some v' =>
          refine (Sim.sliceBound (VRel.mono hs h2) _ _).bind fun ι3 a' b' hs2 e => ?_
          cases e
          exact Sim.lowB (h1.mono (hs.trans hs2)) a' a _

/-- A cut of what is no slice of known cells: both sides alike. -/
theorem Sim.sliceAt (t : TypeId) {x x' : Value} (hx : VRel ι x x') (hn : ∀ a l c, x ≠ .slice (some a) l c) {lo lo' hi hi' mx mx' : Option Value} (h1 : ORel ι lo lo') (h2 : ORel ι hi hi') (h3 : ORel ι mx mx') :
    Sim P ι VRel (Instr.sliceAt t x lo hi mx) (Instr.sliceAt t x' lo' hi' mx') := by
  have om : ∀ {a b : Option Value} {ι' : Inj}, Sub ι ι' → ORel ι a b → ORel ι' a b := fun hs h => h.mono hs
  have ptr : ∀ (ι1 : Inj) (a a' : Addr) (n : Nat) (elem : TypeId), Sub ι ι1 → AddrRel ι1 a a' → Sim P ι1 VRel
      (do let (l, h, m) ← Instr.sliceBounds false n n lo hi mx
          let size ← Go.sizeOf elem
          Pure.pure (Value.slice (some (if m = l then a else a.add (l * size))) (h - l) (m - l)))
      (do let (l, h, m) ← Instr.sliceBounds false n n lo' hi' mx'
          let size ← Go.sizeOf elem
          Pure.pure (Value.slice (some (if m = l then a' else a'.add (l * size))) (h - l) (m - l))) := by
    intro ι1 a a' n elem hs ha
    refine (Sim.sliceBounds false n n (om hs h1) (om hs h2) (om hs h3)).bind fun ι2 r r' hs2 e => ?_
    cases e
    obtain ⟨l, h, m⟩ := r
    dsimp only
    refine (Static.sizeOf elem).sim.bind fun ι3 z z' hs3 e => ?_
    cases e
    refine Sim.pure ?_
    split
    · obtain ⟨i, hi1, rfl⟩ := (ha.mono hs2).mono hs3
      exact .slice hi1 (.inl rfl) (Nat.le_refl _)
    · obtain ⟨i, hi1, e2⟩ := AddrRel.add ((ha.mono hs2).mono hs3) (l * z)
      rw [e2]
      exact .slice hi1 (.inl rfl) (Nat.le_refl _)
  have plain : ∀ ι1, Sub ι ι1 → Sim P ι1 VRel (Instr.slice t x lo hi mx) (Instr.slice t x' lo' hi' mx') := by
    intro ι1 hs
    unfold Instr.slice
    refine (Static.underlying t).sim.bind fun ι2 d d' hs2 e => ?_
    cases e
    have hx2 := (hx.mono hs).mono hs2
    cases d with
    | string =>
      cases hx2 with
      | string s =>
        cases mx with
        | none => cases mx' with
          | some v => exact h3.elim
          | none =>
            dsimp only
            refine (Sim.sliceBounds false s.size s.size (om (hs.trans hs2) h1) (om (hs.trans hs2) h2) (show ORel ι2 none none from trivial)).bind fun ι3 r r' hs3 e => ?_
            cases e
            exact Sim.pure (.string _)
        | some v => exact Sim.dead (Dead.first (Dead.stuck _))
      | _ => exact Sim.dead (Dead.stuck _)
    | slice elem =>
      cases hx2 with
      | nilSlice len cap =>
        dsimp only
        refine (Sim.sliceBounds true len cap (om (hs.trans hs2) h1) (om (hs.trans hs2) h2) (om (hs.trans hs2) h3)).bind fun ι3 r r' hs3 e => ?_
        cases e
        obtain ⟨l, h, m⟩ := r
        dsimp only
        refine (Static.sizeOf elem).sim.bind fun ι4 z z' hs4 e => ?_
        cases e
        refine Sim.pure ?_
        split <;> exact .nilSlice _ _
      | slice h => exact absurd rfl (hn _ _ _)
      | emptySlice => exact absurd rfl (hn _ _ _)
      | _ => exact Sim.dead (Dead.stuck _)
    | pointer arr =>
      dsimp only
      refine (Sim.asAddr hx2).bind fun ι3 a a' hs3 ha => ?_
      refine (Static.underlying arr).sim.bind fun ι4 d d' hs4 e => ?_
      cases e
      cases d with
      | array n elem => exact ptr ι4 a a' n elem (((hs.trans hs2).trans hs3).trans hs4) (ha.mono hs4)
      | _ => exact Sim.dead (Dead.stuck _)
    | _ => exact Sim.dead (Dead.stuck _)
  unfold Instr.sliceAt
  refine (Static.underlying t).sim.bind fun ι1 d d' hs e => ?_
  cases e
  cases d with
  | array n elem => exact (Sim.sureAddr (hx.mono hs)).bind fun ι2 a a' hs2 ha => ptr ι2 a a' n elem (hs.trans hs2) ha
  | _ => exact plain ι1 hs

/-- A cut of a slice. -/
noncomputable def acut (P : Program) (t : TypeId) (a : Addr) (len cap : Nat) (lo hi mx : Option Value) (H : Heap) : Option Value :=
  match P.underlying t with
  | some (.slice e) => match P.info? e with
    | some i => match natOf lo 0, natOf hi len, natOf mx cap with
      | some l, some h, some m =>
        if l ≤ h ∧ h ≤ m ∧ m ≤ cap ∧ (mx.isSome = true → hi.isSome = true) then
          if l = 0 then some (.slice (some a) h m)
          else match H.get a.block with
            | some (.cells c) =>
              if c.opn then
                if mx.isSome then (if m = l then some (.slice (some a) 0 0) else some (.slice (some (a.add (l * i.size))) (h - l) (m - l)))
                else if i.size = c.esz then some (.slice (some (a.add (l * i.size))) (h - l) (m - l)) else none
              else some (.slice (some (if m = l then a else a.add (l * i.size))) (h - l) (m - l))
            | _ => none
        else none
      | _, _, _ => none
    | none => none
  | _ => none

theorem natOf_rel {v v' : Option Value} (h : ORel ι v v') {d n : Nat} (hn : natOf v d = some n) : (v = none ∧ v' = none ∧ n = d) ∨ ∃ k, v = some (.int k (n : Int)) ∧ v' = some (.int k (n : Int)) := by
  cases v with
  | none => cases v' with
    | none => simp [natOf] at hn; exact .inl ⟨rfl, rfl, hn.symm⟩
    | some v' => exact h.elim
  | some x => cases v' with
    | none => exact h.elim
    | some y =>
      have h' : VRel ι x y := h
      cases h' with
      | int k m =>
        simp only [natOf] at hn
        split at hn
        · rename_i hm
          simp only [Option.some.injEq] at hn
          subst hn
          exact .inr ⟨k, by rw [Int.toNat_of_nonneg hm], by rw [Int.toNat_of_nonneg hm]⟩
        · simp at hn
      | sym => simp [natOf] at hn
      | inp => simp [natOf] at hn
      | ownS => simp [natOf] at hn
      | ownP => simp [natOf] at hn
      | _ => simp [natOf] at hn

theorem run_sliceBound {k : IntKind} {n y : Nat} (h : n ≤ y) (c : BoundsCode) (w : World) : (Instr.sliceBound (.int k (n : Int)) y c).run P w = .ok n w := by
  unfold Instr.sliceBound
  rw [Sem.run_bind]
  have : (0 : Int) ≤ n ∧ (n : Int) ≤ y := ⟨by omega, by omega⟩
  simp [Go.asIntOf, this]

/-- What a cut of a slice does in a world: the bounds as numbers. -/
theorem run_cut {t e : TypeId} {i : TypeInfo} (hu : P.underlying t = some (.slice e)) (hi : P.info? e = some i) {lo hi' mx : Option Value} {l h m len cap : Nat} (base : Option Addr)
    (hl : (lo = none ∧ l = 0) ∨ ∃ k, lo = some (.int k (l : Int))) (hh : (hi' = none ∧ h = len) ∨ ∃ k, hi' = some (.int k (h : Int))) (hm : (mx = none ∧ m = cap) ∨ ∃ k, mx = some (.int k (m : Int)))
    (h1 : l ≤ h) (h2 : h ≤ m) (h3 : m ≤ cap) (h4 : mx.isSome = true → hi'.isSome = true) (w : World) :
    (Instr.sliceAt t (.slice base len cap) lo hi' mx).run P w = .ok (.slice (if m = l then base else base.map (·.add (l * i.size))) (h - l) (m - l)) w := by
  have hb : (Instr.sliceBounds true len cap lo hi' mx).run P w = .ok (l, h, m) w := by
    unfold Instr.sliceBounds
    rcases hm with ⟨rfl, rfl⟩ | ⟨km, rfl⟩
    · rcases hh with ⟨rfl, rfl⟩ | ⟨kh, rfl⟩
      · rcases hl with ⟨rfl, rfl⟩ | ⟨kl, rfl⟩
        · simp
        · simp [run_sliceBound h1]
      · rcases hl with ⟨rfl, rfl⟩ | ⟨kl, rfl⟩
        · simp [run_sliceBound h2]
        · simp [run_sliceBound h1, run_sliceBound h2]
    · rcases hh with ⟨rfl, rfl⟩ | ⟨kh, rfl⟩
      · simp at h4
      · rcases hl with ⟨rfl, rfl⟩ | ⟨kl, rfl⟩
        · simp [run_sliceBound h2, run_sliceBound h3]
        · simp [run_sliceBound h1, run_sliceBound h2, run_sliceBound h3]
  unfold Instr.sliceAt Instr.slice
  simp only [Sem.run_bind, run_underlying' hu, Result.andThen_ok, hb, run_sizeOf' hi, Sem.run_pure]

theorem acut_ok {t : TypeId} {a : Addr} {len cap : Nat} {x' : Value} (hx : VRel ι (.slice (some a) len cap) x') {lo lo' hi hi' mx mx' : Option Value} (h1 : ORel ι lo lo') (h2 : ORel ι hi hi') (h3 : ORel ι mx mx')
    {H : Heap} {v : Value} (h : acut P t a len cap lo hi mx H = some v) {w : World} (hw : Rel P ι H w) :
    ∃ v', (Instr.sliceAt t x' lo' hi' mx').run P w = .ok v' w ∧ VRel ι v v' := by
  unfold acut at h
  split at h
  · rename_i e hu
    split at h
    · rename_i i hi1
      split at h
      · rename_i l hh m hl0 hh0 hm0
        split at h
        · rename_i hc
          obtain ⟨c1, c2, c3, c4⟩ := hc
          have nl := natOf_rel h1 hl0
          have nh := natOf_rel h2 hh0
          have nm := natOf_rel h3 hm0
          have bl : (lo' = none ∧ l = 0) ∨ ∃ k, lo' = some (.int k (l : Int)) := nl.imp (fun h => ⟨h.2.1, h.2.2⟩) fun ⟨k, _, h⟩ => ⟨k, h⟩
          have bh : (hi' = none ∧ hh = len) ∨ ∃ k, hi' = some (.int k (hh : Int)) := nh.imp (fun h => ⟨h.2.1, h.2.2⟩) fun ⟨k, _, h⟩ => ⟨k, h⟩
          have c4' : mx'.isSome = true → hi'.isSome = true := by
            intro hms
            rcases nm with ⟨_, rfl, _⟩ | ⟨k, hmx, _⟩
            · simp at hms
            · rcases nh with ⟨hhi, _, _⟩ | ⟨k', _, hhi'⟩
              · have := c4 (by rw [hmx]; rfl)
                rw [hhi] at this
                simp at this
              · rw [hhi']; rfl
          -- the other side's bound on what is there
          have other : ∀ cap', cap ≤ cap' → ∃ m', ((mx' = none ∧ m' = cap') ∨ ∃ k, mx' = some (.int k (m' : Int))) ∧ m ≤ m' ∧ m' ≤ cap' ∧ (mx.isSome = true → m' = m) ∧ (mx = none → m = cap ∧ m' = cap') := by
            intro cap' hcap
            rcases nm with ⟨e1, e2, e3⟩ | ⟨k, e1, e2⟩
            · exact ⟨cap', .inl ⟨e2, rfl⟩, by omega, Nat.le_refl _, fun h => by rw [e1] at h; simp at h, fun _ => ⟨e3, rfl⟩⟩
            · exact ⟨m, .inr ⟨k, e2⟩, Nat.le_refl _, by omega, fun _ => rfl, fun h => by rw [e1] at h; simp at h⟩
          cases hx with
          | emptySlice _ a' =>
            obtain ⟨m', q1, q2, q3, q4, q5⟩ := other 0 (Nat.le_refl _)
            have hm' : m' = 0 := by omega
            subst hm'
            have hl : l = 0 := by omega
            have hhz : hh = 0 := by omega
            have hmz : m = 0 := by omega
            subst hl hhz hmz
            rw [if_pos rfl] at h
            simp only [Option.some.injEq] at h
            subst h
            refine ⟨_, run_cut hu hi1 (some a') bl bh q1 (Nat.le_refl _) (Nat.le_refl _) (Nat.le_refl _) c4' w, ?_⟩
            simp only [if_true]
            exact .emptySlice _ _
          | @slice _ inf _ _ cap' g1 g2 g3 =>
            obtain ⟨m', q1, q2, q3, q4, q5⟩ := other cap' g3
            refine ⟨_, run_cut hu hi1 (some ⟨inf.blk, inf.off + a.off, a.spot⟩) bl bh q1 c1 (by omega) q3 c4' w, ?_⟩
            by_cases hl : l = 0
            · subst hl
              rw [if_pos rfl] at h
              simp only [Option.some.injEq] at h
              subst h
              have hp : (if m' = 0 then some (⟨inf.blk, inf.off + a.off, a.spot⟩ : Addr) else (some (⟨inf.blk, inf.off + a.off, a.spot⟩ : Addr)).map (·.add (0 * i.size))) = some ⟨inf.blk, inf.off + a.off, a.spot⟩ := by
                split
                · rfl
                · simp [Addr.add]
              rw [hp]
              refine .slice g1 ?_ q2
              cases hmx : mx with
              | none =>
                obtain ⟨r1, r2⟩ := q5 hmx
                subst r1 r2
                exact g2
              | some y => exact .inl (q4 (by rw [hmx]; rfl))
            · rw [if_neg hl] at h
              cases hb : H.get a.block with
              | none => rw [hb] at h; simp at h
              | some b =>
                cases b with
                | map es clock => rw [hb] at h; simp at h
                | arr r => rw [hb] at h; simp at h
                | chan _ _ _ => rw [hb] at h; simp at h
                | part _ => rw [hb] at h; simp at h
                | cells c =>
                  rw [hb] at h
                  simp only at h
                  obtain ⟨j, o, hj, ho, hrel⟩ := hw.live _ _ hb
                  obtain rfl : inf = j := by rw [g1] at hj; exact Option.some.inj hj
                  obtain ⟨⟨r1, r2, r3⟩, cs, rfl, r4, r5, r6⟩ := hrel
                  have adv : ∀ n, AddrRel ι (a.add n) ((⟨inf.blk, inf.off + a.off, a.spot⟩ : Addr).add n) := fun n => AddrRel.add ⟨inf, g1, rfl⟩ n
                  -- behind a bound of its own, and in a block of known room, both sides are alike
                  have same : m' = m → v = .slice (some (if m = l then a else a.add (l * i.size))) (hh - l) (m - l) → VRel ι v (.slice (if m' = l then some (⟨inf.blk, inf.off + a.off, a.spot⟩ : Addr) else (some (⟨inf.blk, inf.off + a.off, a.spot⟩ : Addr)).map (·.add (l * i.size))) (hh - l) (m' - l)) := by
                    intro hmm hv
                    subst hmm hv
                    split
                    · exact .slice g1 (.inl rfl) (Nat.le_refl _)
                    · obtain ⟨k, hk, e2⟩ := adv (l * i.size)
                      simp only [Option.map_some]
                      rw [e2]
                      exact .slice hk (.inl rfl) (Nat.le_refl _)
                  cases hop : c.opn with
                  | false =>
                    rw [hop] at h
                    simp only [Bool.false_eq_true, if_false, Option.some.injEq] at h
                    obtain ⟨s1, s2, s3⟩ := r5 hop
                    have hcc : cap' = cap := by
                      rcases g2 with g2 | ⟨_, g2⟩
                      · exact g2
                      · rw [s1, Nat.add_zero] at g2
                        exact Nat.eq_of_mul_eq_mul_right (by omega) g2
                    refine same ?_ h.symm
                    cases hmx : mx with
                    | none => obtain ⟨t1, t2⟩ := q5 hmx; omega
                    | some y => exact q4 (by rw [hmx]; rfl)
                  | true =>
                    rw [hop] at h
                    simp only [if_true] at h
                    cases hmx : mx with
                    | some y =>
                      rw [hmx] at h
                      simp only [Option.isSome_some, if_true] at h
                      have hm' := q4 (by rw [hmx]; rfl)
                      by_cases hml : m = l
                      · rw [if_pos hml] at h
                        simp only [Option.some.injEq] at h
                        subst h
                        have e1 : hh - l = 0 := by omega
                        have e2 : m' - l = 0 := by omega
                        rw [if_pos (by omega), e1, e2]
                        exact .emptySlice _ _
                      · rw [if_neg hml] at h
                        simp only [Option.some.injEq] at h
                        exact same hm' (by rw [if_neg hml]; exact h.symm)
                    | none =>
                      rw [hmx] at h
                      simp only [Option.isSome_none, Bool.false_eq_true, if_false] at h
                      obtain ⟨t1, t2⟩ := q5 hmx
                      split at h
                      · rename_i hsz
                        simp only [Option.some.injEq] at h
                        subst h
                        obtain ⟨k, hk, e2⟩ := adv (l * i.size)
                        have hlz : l * i.size ≠ 0 := by
                          rw [hsz]
                          exact Nat.mul_ne_zero hl (by omega)
                        by_cases hml : m' = l
                        · rw [if_pos hml]
                          have e1 : hh - l = 0 := by omega
                          have e3 : m - l = 0 := by omega
                          have e4 : m' - l = 0 := by omega
                          rw [e1, e3, e4]
                          exact .emptySlice _ _
                        · rw [if_neg hml]
                          simp only [Option.map_some]
                          rw [e2]
                          have hka : k = inf := by
                            have : (a.add (l * i.size)).block = a.block := by unfold Addr.add; rw [if_neg hlz]
                            rw [this, g1] at hk
                            exact (Option.some.inj hk).symm
                          subst hka
                          have hao : (a.add (l * i.size)).off = a.off + l * i.size := by unfold Addr.add; rw [if_neg hlz]
                          refine .slice hk ?_ (by omega)
                          rcases g2 with g2 | ⟨g4, g5⟩
                          · exact .inl (by omega)
                          · refine .inr ?_
                            rw [hao]
                            have hse : i.size = k.esz := by omega
                            rw [hse]
                            have f1 : cap = l + (m - l) := by omega
                            have f2 : cap' = l + (m' - l) := by omega
                            rw [f1, Nat.add_mul] at g4 g5
                            rw [f2, Nat.add_mul] at g5
                            exact ⟨by omega, by omega⟩
                      · simp at h
        · simp at h
      · simp at h
    · simp at h
  · simp at h

end Go.Ev
