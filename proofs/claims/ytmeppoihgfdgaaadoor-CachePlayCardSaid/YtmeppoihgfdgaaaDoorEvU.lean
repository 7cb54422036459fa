/-
  The evaluator: copy, min, max, cap; maps whose keys are numbers. No condition.
-/
import Derived.Test.YtmeppoihgfdgaaaDoorEvT
namespace Go.Ev
set_option linter.unusedSectionVars false      -- the symbols' class stands for all texts
variable [Syms] {P : Program} {ι : Inj}

/-! ### copy -/
noncomputable def acopy (P : Program) (tys : Array TypeId) (args : Array Value) (H : Heap) : Option (Value × Heap) :=
  match tys[0]?, args[0]?, args[1]? with
  | some dt, some (Value.slice base dl _), some (Value.slice sb sl _) =>
    match P.underlying dt with
    | some (.slice e) => match P.info? e with
      | some i =>
        match (match sb with
          | some b => loads H b 0 (Nat.min sl dl * i.size)
          | none => some []) with
        | some l => match base with
          | some a => if Nat.min sl dl = 0 then some (.int .i64 0, H) else match stores H a 0 l with
            | some H' => some (.int .i64 (Nat.min sl dl), H')
            | none => none
          | none => some (.int .i64 (Nat.min sl dl), H)
        | none => none
      | none => none
    | _ => none
  | _, _, _ => none

theorem run_copy {tys : Array TypeId} {dt e ty : TypeId} {i : TypeInfo} (ht : tys[0]? = some dt) (hs : P.underlying dt = some (.slice e)) (hi : P.info? e = some i) {base sb : Option Addr} {dl dc sl sc : Nat} {args : Array Value}
    (h0 : args[0]? = some (.slice base dl dc)) (h1 : args[1]? = some (.slice sb sl sc)) {w : World} {l : List Value} (hr : (Builtin.firstCells i.size (Nat.min sl dl) (.slice sb sl sc)).run P w = .ok l.toArray w) :
    (Builtin.copy_ tys ty args).run P w = (match base with
      | some a => ((Go.storeCells a l).run P w).andThen fun _ w' => .ok (goInt (Nat.min sl dl)) w'
      | none => .ok (goInt (Nat.min sl dl)) w) := by
  unfold Builtin.copy_
  rw [ht, h0, h1]
  simp only [Sem.run_bind, run_underlying' hs, Result.andThen_ok, Builtin.lenOf, Sem.run_pure, run_sizeOf' hi]
  rw [hr]
  cases base with
  | none => rfl
  | some a => simp only [Result.andThen_ok, Sem.run_bind, Sem.run_pure]

theorem acopy_ok {tys : Array TypeId} {ty : TypeId} {args args' : Array Value} (ha : ARel ι args args') {H H' : Heap} {v : Value} (h : acopy P tys args H = some (v, H')) {w : World} (hw : Rel P ι H w) :
    ∃ ι' v' w', (Builtin.copy_ tys ty args').run P w = .ok v' w' ∧ Ext P ι w ι' w' ∧ Rel P ι' H' w' ∧ VRel ι' v v' := by
  unfold acopy at h
  split at h
  · rename_i dt base dl dc sb sl sc ht h0 h1
    split at h
    · rename_i e hs
      split at h
      · rename_i i hi
        obtain ⟨s', h0', hsv⟩ := ha.get? h0
        obtain ⟨x', h1', hxv⟩ := ha.get? h1
        -- both sides' shape
        have hd : ∃ base' dc', s' = .slice base' dl dc' ∧ (base = none → base' = none) ∧ (∀ a, base = some a → ∃ a', base' = some a' ∧ (0 < dl → AddrRel ι a a')) := by
          cases hsv with
          | nilSlice => exact ⟨none, _, rfl, fun _ => rfl, fun a h => by simp at h⟩
          | @slice a inf l c c' g1 g2 g3 => exact ⟨_, _, rfl, fun h => by simp at h, fun b hb => ⟨_, rfl, fun _ => by cases hb; exact ⟨inf, g1, rfl⟩⟩⟩
          | emptySlice a a' => exact ⟨_, _, rfl, fun h => by simp at h, fun b hb => ⟨_, rfl, fun hp => absurd hp (by omega)⟩⟩
        have hx : ∃ sb' sc', x' = .slice sb' sl sc' ∧ (sb = none → sb' = none) ∧ (∀ a, sb = some a → ∃ a', sb' = some a' ∧ (0 < sl → AddrRel ι a a')) := by
          cases hxv with
          | nilSlice => exact ⟨none, _, rfl, fun _ => rfl, fun a h => by simp at h⟩
          | @slice a inf l c c' g1 g2 g3 => exact ⟨_, _, rfl, fun h => by simp at h, fun b hb => ⟨_, rfl, fun _ => by cases hb; exact ⟨inf, g1, rfl⟩⟩⟩
          | emptySlice a a' => exact ⟨_, _, rfl, fun h => by simp at h, fun b hb => ⟨_, rfl, fun hp => absurd hp (by omega)⟩⟩
        obtain ⟨base', dc', rfl, hb1, hb2⟩ := hd
        obtain ⟨sb', sc', rfl, hx1, hx2⟩ := hx
        split at h
        · rename_i l hl
          have hread : ∃ l', (Builtin.firstCells i.size (Nat.min sl dl) (.slice sb' sl sc')).run P w = .ok l'.toArray w ∧ (0 < Nat.min sl dl → LRel ι l l') ∧ (Nat.min sl dl = 0 → l' = []) := by
            cases hsb : sb with
            | none =>
              rw [hsb] at hl
              simp only [Option.some.injEq] at hl
              subst hl
              rw [hx1 hsb]
              exact ⟨[], rfl, fun _ => ⟨rfl, fun k hk => by simp at hk⟩, fun _ => rfl⟩
            | some b =>
              rw [hsb] at hl
              simp only at hl
              obtain ⟨b', e1, e2⟩ := hx2 b hsb
              rw [e1]
              by_cases hz : Nat.min sl dl = 0
              · refine ⟨[], ?_, fun hp => absurd hp (by omega), fun _ => rfl⟩
                simp [Builtin.firstCells, Go.loadCells, hz, Go.loadCellsFrom]
              · have hsl : 0 < sl := by have := Nat.min_le_left sl dl; have h2 : Nat.min sl dl ≠ 0 := hz; change min sl dl ≤ sl at this; change min sl dl ≠ 0 at h2; omega
                obtain ⟨l', q1, q2, _⟩ := loads_ok (e2 hsl) hw _ _ _ hl #[]
                exact ⟨l', by simpa [Builtin.firstCells, Go.loadCells] using q1, fun _ => q2, fun hz' => absurd hz' hz⟩
          obtain ⟨l', hr, hlr, hl0⟩ := hread
          have hrun := run_copy (ty := ty) ht hs hi h0' h1' hr
          cases hb : base with
          | none =>
            rw [hb] at h
            simp only [Option.some.injEq, Prod.mk.injEq] at h
            obtain ⟨rfl, rfl⟩ := h
            have hbn := hb1 hb
            subst hbn
            exact ⟨ι, _, w, hrun, Ext.refl _ _, hw, .int _ _⟩
          | some a =>
            rw [hb] at h
            simp only at h
            obtain ⟨a', e1, e2⟩ := hb2 a hb
            subst e1
            by_cases hz : Nat.min sl dl = 0
            · rw [if_pos hz] at h
              simp only [Option.some.injEq, Prod.mk.injEq] at h
              obtain ⟨rfl, rfl⟩ := h
              rw [hl0 hz, hz] at hrun
              exact ⟨ι, .int .i64 0, w, hrun, Ext.refl _ _, hw, .int _ _⟩
            · rw [if_neg hz] at h
              cases hst : stores H a 0 l with
              | none => rw [hst] at h; simp at h
              | some H1 =>
                rw [hst] at h
                simp only [Option.some.injEq, Prod.mk.injEq] at h
                obtain ⟨rfl, rfl⟩ := h
                have hdl : 0 < dl := by have := Nat.min_le_right sl dl; have h2 : Nat.min sl dl ≠ 0 := hz; change min sl dl ≤ dl at this; change min sl dl ≠ 0 at h2; omega
                obtain ⟨w', q1, x1, r1⟩ := stores_ok l l' 0 ι H H1 a a' w (e2 hdl) (hlr (by omega)) hw hst
                simp only [q1, Result.andThen_ok] at hrun
                exact ⟨ι, _, w', hrun, x1, r1, .int _ _⟩
        · simp at h
      · simp at h
    · simp at h
  · simp at h

/-! ### min, max of numbers -/
def isInt : Value → Bool | .int .. => true | _ => false
theorem ints_eq {xs ys : List Value} (h : LRel ι xs ys) (hi : xs.all isInt = true) : ys = xs := by
  induction xs generalizing ys with
  | nil => exact h.nil_inv
  | cons x xs ih =>
    obtain ⟨y, ys', rfl, hv, hr⟩ := h.cons_inv
    simp only [List.all_cons, Bool.and_eq_true] at hi
    rw [ih hr hi.2]
    cases hv <;> first | rfl | (simp [isInt] at hi)
theorem Static.foldMin (f : Value → Value → Sem Value) (hf : ∀ k a k' b, ∃ n, f (.int k a) (.int k' b) = Pure.pure (.int k n)) : ∀ (l : List Value) (k : IntKind) (a : Int), l.all isInt = true → Static P (l.foldlM f (.int k a))
  | [], k, a, _ => by simpa using Static.pure (P := P) (Value.int k a)
  | x :: l, k, a, h => by
    simp only [List.all_cons, Bool.and_eq_true] at h
    cases x with
    | int k' b =>
      obtain ⟨n, hn⟩ := hf k a k' b
      rw [List.foldlM_cons, hn, pure_bind]
      exact Static.foldMin f hf l k n h.2
    | _ => simp [isInt] at h

theorem Static.min_ (tys : Array TypeId) (ty : TypeId) (args : Array Value) (h : args.toList.all isInt = true) : Static P (Builtin.min_ tys ty args) := by
  unfold Builtin.min_
  cases hl : args.toList with
  | nil => exact Static.dead (Dead.stuck _)
  | cons x l =>
    rw [hl] at h
    simp only [List.all_cons, Bool.and_eq_true] at h
    cases x with
    | int k a => exact Static.foldMin Builtin.min2 (fun k a k' b => ⟨_, rfl⟩) l k a h.2
    | _ => simp [isInt] at h
theorem Static.max_ (tys : Array TypeId) (ty : TypeId) (args : Array Value) (h : args.toList.all isInt = true) : Static P (Builtin.max_ tys ty args) := by
  unfold Builtin.max_
  cases hl : args.toList with
  | nil => exact Static.dead (Dead.stuck _)
  | cons x l =>
    rw [hl] at h
    simp only [List.all_cons, Bool.and_eq_true] at h
    cases x with
    | int k a => exact Static.foldMin Builtin.max2 (fun k a k' b => ⟨_, rfl⟩) l k a h.2
    | _ => simp [isInt] at h

/-! ### maps whose keys are numbers -/
def isIntD' (P : Program) (t : TypeId) : Bool := match P.underlying t with | some (.int _) => true | _ => false

def afind (k : IntKind) (n : Int) : List MapEntry → Nat → Option (Option (Nat × Value))
  | [], _ => some none
  | e :: es, i => match e.key with
    | .int k' m => if k = k' then (if n = m then some (some (i, e.val)) else afind k n es (i + 1)) else none
    | _ => none

/-- Entries side by side. -/
def ELRel (ι : Inj) : List MapEntry → List MapEntry → Prop
  | [], [] => True
  | e :: es, e' :: es' => ERel ι e e' ∧ ELRel ι es es'
  | _, _ => False
theorem ELRel.of : ∀ {es es' : List MapEntry}, es.length = es'.length → (∀ k, k < es.length → ERel ι (es.getD k dflE) (es'.getD k dflE)) → ELRel ι es es'
  | [], [], _, _ => trivial
  | [], _ :: _, h, _ => by simp at h
  | _ :: _, [], h, _ => by simp at h
  | e :: es, e' :: es', h, hr => ⟨by simpa using hr 0 (by simp), ELRel.of (by simpa using h) fun k hk => by simpa using hr (k + 1) (by simpa using hk)⟩
theorem EsRel.list {es es' : Array MapEntry} (h : EsRel ι es es') : ELRel ι es.toList es'.toList := ELRel.of (by simpa using h.1) fun k hk => by simpa using h.2 k (by simpa using hk)

theorem afind_ok {kk : IntKind} {k : IntKind} {n : Int} : ∀ {es es' : List MapEntry} (i : Nat), ELRel ι es es' → ∀ r, afind k n es i = some r →
    (r = none ∧ Instr.findNow (.int kk) (.int k n) es' i = some none) ∨ ∃ j v v', r = some (j, v) ∧ Instr.findNow (.int kk) (.int k n) es' i = some (some (j, v')) ∧ VRel ι v v' ∧ i ≤ j ∧ (∃ e e', es[j - i]? = some e ∧ es'[j - i]? = some e' ∧ e.key = .int k n ∧ e'.key = .int k n)
  | [], [], i, _, r, h => by simp [afind] at h; exact .inl ⟨h.symm, rfl⟩
  | [], _ :: _, _, h, _, _ => h.elim
  | _ :: _, [], _, h, _, _ => h.elim
  | e :: es, e' :: es', i, ⟨⟨h1, h2, h3⟩, hr⟩, r, h => by
    simp only [afind] at h
    cases hk : e.key with
    | int k' m =>
      rw [hk] at h h1
      simp only at h
      cases hk' : e'.key <;> rw [hk'] at h1 <;> cases h1
      by_cases hkk : k = k'
      · rw [if_pos hkk] at h
        by_cases hnm : n = m
        · rw [if_pos hnm] at h
          simp only [Option.some.injEq] at h
          subst h
          refine .inr ⟨i, e.val, e'.val, rfl, ?_, h2, Nat.le_refl _, e, e', by simp, by simp, by rw [hk, hkk, hnm], by rw [hk', hkk, hnm]⟩
          simp [Instr.findNow, hk', Instr.sameNow, hkk, hnm]
        · rw [if_neg hnm] at h
          have hf : Instr.findNow (.int kk) (.int k n) (e' :: es') i = Instr.findNow (.int kk) (.int k n) es' (i + 1) := by
            have : (n == m) = false := by simpa using hnm
            simp [Instr.findNow, hk', Instr.sameNow, hkk, this]
          rw [hf]
          rcases afind_ok (i + 1) hr r h with hh | ⟨j, v, v', q1, q2, q3, q4, e1, e1', q5, q6, q7, q8⟩
          · exact .inl hh
          · refine .inr ⟨j, v, v', q1, q2, q3, by omega, e1, e1', ?_, ?_, q7, q8⟩
            · rw [show j - i = (j - (i + 1)) + 1 by omega]; simpa using q5
            · rw [show j - i = (j - (i + 1)) + 1 by omega]; simpa using q6
      · rw [if_neg hkk] at h; simp at h
    | _ => rw [hk] at h; simp at h

theorem run_checkKey {kt : TypeId} {kk : IntKind} (hk : P.underlying kt = some (.int kk)) (b : Bool) (k : IntKind) (n : Int) (w : World) : (Instr.checkKey b 10000 kt (.int k n)).run P w = .ok () w := by
  show (Instr.checkKey b (9999 + 1) kt (.int k n)).run P w = .ok () w
  unfold Instr.checkKey
  rw [Sem.run_bind, run_underlying' hk]
  rfl

theorem run_findKey {kt : TypeId} {kk : IntKind} (hk : P.underlying kt = some (.int kk)) {k : IntKind} {n : Int} {es : List MapEntry} {r : Option (Nat × Value)} (h : Instr.findNow (.int kk) (.int k n) es 0 = some r) (w : World) :
    (Instr.findKey kt (.int k n) es).run P w = .ok r w := by
  unfold Instr.findKey
  rw [Sem.run_bind, run_underlying' hk]
  simp only [Result.andThen_ok, h]
  rfl

noncomputable def mapAt (H : Heap) : Value → Option (Array MapEntry)
  | .map none => some #[]
  | .map (some r) => match H.get r with
    | some (.map es _) => some es
    | _ => none
  | _ => none

noncomputable def alookup (P : Program) (t : TypeId) (m key : Value) (ok : Bool) (H : Heap) : Option Value :=
  match P.underlying t, key, mapAt H m with
  | some (.map kt et), .int k n, some es =>
    if isIntD' P kt then match afind k n es.toList 0 with
      | some (some (_, v)) => some (if ok then .tuple #[v, .bool true] else v)
      | some none => if et < P.types.size then match P.info? et with
          | some i => match i.zero with
            | some z => some (if ok then .tuple #[z, .bool false] else z)
            | none => none
          | none => none
        else none
      | none => none
    else none
  | _, _, _ => none

theorem pairRel {v v' : Value} (h : VRel ι v v') (b : Bool) : VRel ι (.tuple #[v, .bool b]) (.tuple #[v', .bool b]) :=
  ARel.tuple ⟨rfl, fun k hk => by
    have hk' : k < 2 := hk
    match k, hk' with
    | 0, _ => exact h
    | 1, _ => exact .bool b⟩

theorem run_lookup {t kt et : TypeId} {kk : IntKind} (hu : P.underlying t = some (.map kt et)) (hkk : P.underlying kt = some (.int kk)) {m : Value} {es : Array MapEntry} {w : World}
    (hm : (m = .map none ∧ es = #[]) ∨ ∃ r clock, m = .map (some r) ∧ (Go.getObj r).run P w = .ok (.map es clock) w) {k : IntKind} {n : Int} {r : Option (Nat × Value)} (hf : Instr.findNow (.int kk) (.int k n) es.toList 0 = some r) (ok : Bool)
    {z : Value} (hz : r = none → (Go.zeroValue et).run P w = .ok z w) :
    (Instr.lookup t m (.int k n) ok).run P w = .ok (match r with
      | some (_, v) => if ok then .tuple #[v, .bool true] else v
      | none => if ok then .tuple #[z, .bool false] else z) w := by
  unfold Instr.lookup
  rcases hm with ⟨rfl, rfl⟩ | ⟨rr, clock, rfl, ho⟩
  · simp only [Sem.run_bind, run_underlying' hu, Result.andThen_ok, Sem.run_pure, run_checkKey hkk, run_findKey hkk hf]
    cases r with
    | none =>
      simp only [Sem.run_bind, hz rfl, Result.andThen_ok, Sem.run_pure]
    | some p => cases ok <;> rfl
  · simp only [Sem.run_bind, run_underlying' hu, Result.andThen_ok, Sem.run_pure, ho, run_checkKey hkk, run_findKey hkk hf]
    cases r with
    | none =>
      simp only [Sem.run_bind, hz rfl, Result.andThen_ok, Sem.run_pure]
    | some p => cases ok <;> rfl

theorem mapAt_ok {H : Heap} {w : World} (hw : Rel P ι H w) {m m' : Value} (hm : VRel ι m m') {es : Array MapEntry} (h : mapAt H m = some es) :
    ∃ es', EsRel ι es es' ∧ ((m' = .map none ∧ es' = #[]) ∨ ∃ r clock, m' = .map (some r) ∧ (Go.getObj r).run P w = .ok (.map es' clock) w) := by
  cases hm with
  | nilMap =>
    simp only [mapAt, Option.some.injEq] at h
    subst h
    exact ⟨#[], ⟨rfl, fun k hk => by simp at hk⟩, .inl ⟨rfl, rfl⟩⟩
  | @map r i hi =>
    simp only [mapAt] at h
    cases hb : H.get r with
    | none => rw [hb] at h; simp at h
    | some b =>
      cases b with
      | cells c => rw [hb] at h; simp at h
      | arr r => rw [hb] at h; simp at h
      | chan _ _ _ => rw [hb] at h; simp at h
      | part _ => rw [hb] at h; simp at h
      | map es0 clock =>
        rw [hb] at h
        simp only [Option.some.injEq] at h
        subst h
        obtain ⟨j, o, hj, ho, hrel⟩ := hw.live _ _ hb
        obtain rfl : i = j := by rw [hi] at hj; exact Option.some.inj hj
        obtain ⟨es', rfl, he⟩ := hrel
        exact ⟨es', he, .inr ⟨_, clock, rfl, by simp [Go.getObj, Sem.run, ho]⟩⟩
  | _ => simp [mapAt] at h

theorem alookup_ok (hz : ZeroOk P) {t : TypeId} {m m' key key' : Value} (hm : VRel ι m m') (hk : VRel ι key key') {ok : Bool} {H : Heap} {v : Value} (h : alookup P t m key ok H = some v) {w : World} (hw : Rel P ι H w) :
    ∃ v', (Instr.lookup t m' key' ok).run P w = .ok v' w ∧ VRel ι v v' := by
  unfold alookup at h
  split at h
  · rename_i kt et k n es hu hes
    cases hk
    split at h
    · rename_i hik
      obtain ⟨kk, hkk⟩ : ∃ kk, P.underlying kt = some (.int kk) := by
        unfold isIntD' at hik
        split at hik
        · exact ⟨_, by assumption⟩
        · simp at hik
      obtain ⟨es', hel, hmm⟩ := mapAt_ok hw hm hes
      split at h
      · rename_i j u haf
        simp only [Option.some.injEq] at h
        subst h
        rcases afind_ok (kk := kk) 0 hel.list _ haf with ⟨hh, _⟩ | ⟨j', u', v', q1, q2, q3, _⟩
        · simp at hh
        · simp only [Option.some.injEq, Prod.mk.injEq] at q1
          obtain ⟨rfl, rfl⟩ := q1
          refine ⟨_, run_lookup hu hkk hmm q2 ok (z := .nilFunc) (fun h => by simp at h), ?_⟩
          cases ok
          · exact q3
          · exact pairRel q3 true
      · rename_i haf
        split at h
        · rename_i het
          split at h
          · rename_i i hi
            split at h
            · rename_i z hzz
              simp only [Option.some.injEq] at h
              subst h
              rcases afind_ok (kk := kk) 0 hel.list _ haf with ⟨_, hh⟩ | ⟨j', u', v', q1, _⟩
              · have hg : ground z = true := hz et i z het (by unfold Tables.info? at hi; rw [if_pos het] at hi; exact hi) hzz
                refine ⟨_, run_lookup hu hkk hmm hh ok (z := z) (fun _ => run_zeroValue' hi hzz w), ?_⟩
                cases ok
                · exact ground_rel hg
                · exact pairRel (ground_rel hg) false
              · simp at q1
            · simp at h
          · simp at h
        · simp at h
      · simp at h
    · simp at h
  · simp at h

/-! ### A store into a map -/
noncomputable def aupdate (P : Program) (t : TypeId) (m key v : Value) (H : Heap) : Option Heap :=
  match P.underlying t, key, m with
  | some (.map kt _), .int k n, .map (some r) =>
    match H.get r with
    | some (.map es clock) =>
      if isIntD' P kt && Nat.ble H.base r then match afind k n es.toList 0 with
        | some (some (i, _)) => some (H.put r (.map (es.modify i fun e => { e with key := .int k n, val := v }) clock))
        | some none => some (H.put r (.map (es.push { key := .int k n, val := v, born := clock }) (clock + 1)))
        | none => none
      else none
    | _ => none
  | _, _, _ => none

theorem Rel.setMap {H : Heap} {w : World} (hw : Rel P ι H w) {n : Nat} {i : Info} (hi : ι n = some i) {es0 : Array MapEntry} {clock0 : Nat} (hb : H.get n = some (.map es0 clock0)) (hg : Nat.ble H.base n = true) {es es' : Array MapEntry} (he : EsRel ι es es') (clock : Nat) :
    ∃ ι' w', (Go.setObj i.blk (.map es' clock)).run P w = .ok () w' ∧ Ext P ι w ι' w' ∧ Rel P ι' (H.put n (.map es clock)) w' := by
  obtain ⟨ι', b, w', e1, x1, r1, _⟩ := Sim.setMap (P := P) (ι := ι) (n := n) (n' := i.blk) ⟨i, hi, rfl⟩ he clock H () (H.put n (.map es clock)) (by simp [Go.setObj, arun, hb, hg]) w hw
  exact ⟨ι', w', e1, x1, r1⟩

theorem EsRel.push {es es' : Array MapEntry} (h : EsRel ι es es') {e e' : MapEntry} (he : ERel ι e e') : EsRel ι (es.push e) (es'.push e') := by
  refine ⟨by simp [h.1], fun k hk => ?_⟩
  simp only [Array.size_push] at hk
  by_cases hks : k < es.size
  · have e1 : (es.push e).getD k dflE = es.getD k dflE := by simp [Array.getElem?_push, show ¬ k = es.size by omega]
    have e2 : (es'.push e').getD k dflE = es'.getD k dflE := by have := h.1; simp [Array.getElem?_push, show ¬ k = es'.size by omega]
    rw [e1, e2]; exact h.2 k hks
  · have hk' : k = es.size := by omega
    have e1 : (es.push e).getD k dflE = e := by simp [hk']
    have e2 : (es'.push e').getD k dflE = e' := by simp [hk', h.1]
    rw [e1, e2]; exact he
theorem EsRel.modify {es es' : Array MapEntry} (h : EsRel ι es es') (i : Nat) {f f' : MapEntry → MapEntry} (hf : ∀ e e', ERel ι e e' → ERel ι (f e) (f' e')) : EsRel ι (es.modify i f) (es'.modify i f') := by
  refine ⟨by simp [h.1], fun k hk => ?_⟩
  simp only [Array.size_modify] at hk
  have hk2 : k < es'.size := h.1 ▸ hk
  have hkk := h.2 k hk
  have e1 : (es.modify i f).getD k dflE = if i = k then f (es.getD k dflE) else es.getD k dflE := by
    simp only [Array.getD_eq_getD_getElem?, Array.getElem?_modify]
    split
    · simp [hk]
    · rfl
  have e2 : (es'.modify i f').getD k dflE = if i = k then f' (es'.getD k dflE) else es'.getD k dflE := by
    simp only [Array.getD_eq_getD_getElem?, Array.getElem?_modify]
    split
    · simp [hk2]
    · rfl
  rw [e1, e2]
  by_cases hik : i = k
  · rw [if_pos hik, if_pos hik]; exact hf _ _ hkk
  · rw [if_neg hik, if_neg hik]; exact hkk

theorem run_update {t kt et : TypeId} {kk : IntKind} (hu : P.underlying t = some (.map kt et)) (hkk : P.underlying kt = some (.int kk)) {r clock : Nat} {es : Array MapEntry} {w : World}
    (ho : (Go.getObj r).run P w = .ok (.map es clock) w) {k : IntKind} {n : Int} {res : Option (Nat × Value)} (hf : Instr.findNow (.int kk) (.int k n) es.toList 0 = some res) (v : Value)
    (hold : ∀ j u, res = some (j, u) → ∃ e, es[j]? = some e ∧ e.key = .int k n) :
    (Instr.mapUpdate t (.map (some r)) (.int k n) v).run P w = (Go.setObj r (match res with
      | some (i, _) => .map (es.modify i fun e => { e with key := .int k n, val := v }) clock
      | none => .map (es.push { key := .int k n, val := v, born := clock }) (clock + 1))).run P w := by
  unfold Instr.mapUpdate
  simp only [Sem.run_bind, run_underlying' hu, Result.andThen_ok, ho, run_checkKey hkk, run_findKey hkk hf]
  cases res with
  | none => rfl
  | some p =>
    obtain ⟨j, u⟩ := p
    obtain ⟨e, he, hek⟩ := hold j u rfl
    have : (Instr.keyThatStays (((es[j]?).map (·.key)).getD (.int k n)) (.int k n)).run P w = .ok (.int k n) w := by
      rw [he]
      simp only [Option.map_some, Option.getD_some, hek]
      show (Instr.keyThatStays (.int k n) (.int k n)).run P w = _
      unfold Instr.keyThatStays
      have : Instr.sameBits 10000 (.int k n) (.int k n) = true := by
        show Instr.sameBits (9999 + 1) (.int k n) (.int k n) = true
        simp [Instr.sameBits]
      rw [this]
      rfl
    simp only [Sem.run_bind, this, Result.andThen_ok]

theorem aupdate_ok {t : TypeId} {m m' key key' v v' : Value} (hm : VRel ι m m') (hk : VRel ι key key') (hv : VRel ι v v') {H H' : Heap} (h : aupdate P t m key v H = some H') {w : World} (hw : Rel P ι H w) :
    ∃ ι' w', (Instr.mapUpdate t m' key' v').run P w = .ok () w' ∧ Ext P ι w ι' w' ∧ Rel P ι' H' w' := by
  unfold aupdate at h
  split at h
  · rename_i kt et k n r hu
    cases hk
    cases hm with
    | @map _ i hi =>
      split at h
      · rename_i es clock hb
        split at h
        · rename_i hc
          simp only [Bool.and_eq_true] at hc
          obtain ⟨hik, hg⟩ := hc
          obtain ⟨kk, hkk⟩ : ∃ kk, P.underlying kt = some (.int kk) := by
            unfold isIntD' at hik
            split at hik
            · exact ⟨_, by assumption⟩
            · simp at hik
          obtain ⟨j, o, hj, ho, hrel⟩ := hw.live _ _ hb
          obtain rfl : i = j := by rw [hi] at hj; exact Option.some.inj hj
          obtain ⟨es', rfl, hel⟩ := hrel
          have hobj : (Go.getObj i.blk).run P w = .ok (.map es' clock) w := by simp [Go.getObj, Sem.run, ho]
          split at h
          · rename_i jj u haf
            simp only [Option.some.injEq] at h
            subst h
            rcases afind_ok (kk := kk) 0 hel.list _ haf with ⟨hh, _⟩ | ⟨j', u', v'', q1, q2, q3, q4, e1, e1', q5, q6, q7, q8⟩
            · simp at hh
            · simp only [Option.some.injEq, Prod.mk.injEq] at q1
              obtain ⟨rfl, rfl⟩ := q1
              have hrun := run_update hu hkk hobj q2 v' (fun j u hju => by
                simp only [Option.some.injEq, Prod.mk.injEq] at hju
                obtain ⟨rfl, rfl⟩ := hju
                exact ⟨e1', by simpa using q6, q8⟩)
              obtain ⟨ι', w', r1, r2, r3⟩ := hw.setMap hi hb hg (hel.modify jj (f := fun e => { e with key := .int k n, val := v }) (f' := fun e => { e with key := .int k n, val := v' }) fun e e' he => ⟨.int _ _, hv, he.2.2⟩) clock
              exact ⟨ι', w', by rw [hrun]; exact r1, r2, r3⟩
          · rename_i haf
            simp only [Option.some.injEq] at h
            subst h
            rcases afind_ok (kk := kk) 0 hel.list _ haf with ⟨_, hh⟩ | ⟨j', u', v'', q1, _⟩
            · have hrun := run_update hu hkk hobj hh v' (fun j u hju => by simp at hju)
              obtain ⟨ι', w', r1, r2, r3⟩ := hw.setMap hi hb hg (hel.push (e := { key := .int k n, val := v, born := clock }) (e' := { key := .int k n, val := v', born := clock }) ⟨.int _ _, hv, rfl⟩) (clock + 1)
              exact ⟨ι', w', by rw [hrun]; exact r1, r2, r3⟩
            · simp at q1
          · simp at h
        · simp at h
      · simp at h
  · simp at h

/-! ### A key that is taken out -/
noncomputable def adelete (P : Program) (tys : Array TypeId) (args : Array Value) (H : Heap) : Option Heap :=
  match tys[0]?, args[0]?, args[1]? with
  | some t, some (Value.map (some r)), some (Value.int k n) =>
    match P.underlying t, H.get r with
    | some (.map kt _), some (.map es clock) =>
      if isIntD' P kt && Nat.ble H.base r then match afind k n es.toList 0 with
        | some (some (i, _)) => some (H.put r (.map (es.eraseIdxIfInBounds i) clock))
        | some none => some (H.put r (.map es clock))
        | none => none
      else none
    | _, _ => none
  | _, _, _ => none

theorem EsRel.erase {es es' : Array MapEntry} (h : EsRel ι es es') (i : Nat) : EsRel ι (es.eraseIdxIfInBounds i) (es'.eraseIdxIfInBounds i) := by
  by_cases hi : i < es.size
  · have hi' : i < es'.size := h.1 ▸ hi
    have s1 : es.eraseIdxIfInBounds i = es.eraseIdx i hi := by simp [Array.eraseIdxIfInBounds, hi]
    have s2 : es'.eraseIdxIfInBounds i = es'.eraseIdx i hi' := by simp [Array.eraseIdxIfInBounds, hi']
    rw [s1, s2]
    refine ⟨by simp [h.1], fun k hk => ?_⟩
    simp only [Array.size_eraseIdx] at hk
    have e1 : (es.eraseIdx i hi).getD k dflE = es.getD (if k < i then k else k + 1) dflE := by
      simp only [Array.getD_eq_getD_getElem?, Array.getElem?_eraseIdx]
      split <;> rfl
    have e2 : (es'.eraseIdx i hi').getD k dflE = es'.getD (if k < i then k else k + 1) dflE := by
      simp only [Array.getD_eq_getD_getElem?, Array.getElem?_eraseIdx]
      split <;> rfl
    rw [e1, e2]
    exact h.2 _ (by split <;> omega)
  · have hi' : ¬ i < es'.size := h.1 ▸ hi
    have s1 : es.eraseIdxIfInBounds i = es := by simp [Array.eraseIdxIfInBounds, hi]
    have s2 : es'.eraseIdxIfInBounds i = es' := by simp [Array.eraseIdxIfInBounds, hi']
    rw [s1, s2]; exact h

theorem run_delete {tys : Array TypeId} {t kt et ty : TypeId} {kk : IntKind} (ht : tys[0]? = some t) (hu : P.underlying t = some (.map kt et)) (hkk : P.underlying kt = some (.int kk)) {r clock : Nat} {es : Array MapEntry} {w : World} {args : Array Value} {k : IntKind} {n : Int}
    (h0 : args[0]? = some (.map (some r))) (h1 : args[1]? = some (.int k n)) (ho : (Go.getObj r).run P w = .ok (.map es clock) w) {res : Option (Nat × Value)} (hf : Instr.findNow (.int kk) (.int k n) es.toList 0 = some res) :
    (Builtin.delete_ tys ty args).run P w = ((Go.setObj r (match res with
      | some (i, _) => .map (es.eraseIdxIfInBounds i) clock
      | none => .map es clock)).run P w).andThen fun _ w' => .ok (.tuple #[]) w' := by
  unfold Builtin.delete_
  rw [ht, h0, h1]
  simp only [Sem.run_bind, run_underlying' hu, Result.andThen_ok, ho, run_checkKey hkk, run_findKey hkk hf]
  cases res with
  | none => simp only [Sem.run_bind, Sem.run_pure]
  | some p => simp only [Sem.run_bind, Sem.run_pure]

theorem adelete_ok {tys : Array TypeId} {ty : TypeId} {args args' : Array Value} (ha : ARel ι args args') {H H' : Heap} (h : adelete P tys args H = some H') {w : World} (hw : Rel P ι H w) :
    ∃ ι' w', (Builtin.delete_ tys ty args').run P w = .ok (.tuple #[]) w' ∧ Ext P ι w ι' w' ∧ Rel P ι' H' w' := by
  unfold adelete at h
  split at h
  · rename_i t r k n ht h0 h1
    obtain ⟨m', h0', hm⟩ := ha.get? h0
    obtain ⟨k', h1', hk⟩ := ha.get? h1
    cases hk
    cases hm with
    | @map _ i hi =>
      split at h
      · rename_i kt et es clock hu hb
        split at h
        · rename_i hc
          simp only [Bool.and_eq_true] at hc
          obtain ⟨hik, hg⟩ := hc
          obtain ⟨kk, hkk⟩ : ∃ kk, P.underlying kt = some (.int kk) := by
            unfold isIntD' at hik
            split at hik
            · exact ⟨_, by assumption⟩
            · simp at hik
          obtain ⟨j, o, hj, ho, hrel⟩ := hw.live _ _ hb
          obtain rfl : i = j := by rw [hi] at hj; exact Option.some.inj hj
          obtain ⟨es', rfl, hel⟩ := hrel
          have hobj : (Go.getObj i.blk).run P w = .ok (.map es' clock) w := by simp [Go.getObj, Sem.run, ho]
          split at h
          · rename_i jj u haf
            simp only [Option.some.injEq] at h
            subst h
            rcases afind_ok (kk := kk) 0 hel.list _ haf with ⟨hh, _⟩ | ⟨j', u', v'', q1, q2, q3, q4, e1, e1', q5, q6, q7, q8⟩
            · simp at hh
            · simp only [Option.some.injEq, Prod.mk.injEq] at q1
              obtain ⟨rfl, rfl⟩ := q1
              have hrun := run_delete (ty := ty) ht hu hkk h0' h1' hobj q2
              obtain ⟨ι', w', r1, r2, r3⟩ := hw.setMap hi hb hg (hel.erase jj) clock
              refine ⟨ι', w', ?_, r2, r3⟩
              rw [hrun]
              simp only [r1, Result.andThen_ok]
          · rename_i haf
            simp only [Option.some.injEq] at h
            subst h
            rcases afind_ok (kk := kk) 0 hel.list _ haf with ⟨_, hh⟩ | ⟨j', u', v'', q1, _⟩
            · have hrun := run_delete (ty := ty) ht hu hkk h0' h1' hobj hh
              obtain ⟨ι', w', r1, r2, r3⟩ := hw.setMap hi hb hg hel clock
              refine ⟨ι', w', ?_, r2, r3⟩
              rw [hrun]
              simp only [r1, Result.andThen_ok]
            · simp at q1
          · simp at h
        · simp at h
      · simp at h
  · simp at h

theorem Sim.makeMap (t : TypeId) {r r' : Option Value} (h : ORel ι r r') : Sim P ι VRel (Instr.makeMap t r) (Instr.makeMap t r') := by
  have fin : ∀ ι1, Sim P ι1 VRel (do Pure.pure (.map (some (← newObj (.map #[] 0)))) : Sem Value) (do Pure.pure (.map (some (← newObj (.map #[] 0))))) := fun ι1 => by
    refine (Sim.newMap ⟨rfl, fun k hk => by simp at hk⟩ 0).bind fun ι1 n n' hs hn => ?_
    obtain ⟨i, h1, rfl, _⟩ := hn
    exact Sim.pure (.map h1)
  unfold Instr.makeMap
  cases r with
  | none => cases r' with
    | none => exact fin ι
    | some _ => exact h.elim
  | some x => cases r' with
    | none => exact h.elim
    | some y =>
      refine (Static.underlying t).sim.bind fun ι1 d d' hs e => ?_
      cases e
      cases d with
      | map k e => exact (Sim.asInt (VRel.mono hs h)).bind fun ι2 _ _ _ _ => fin ι2
      | _ => exact Sim.dead (Dead.first (Dead.stuck _))

/-! ### cap, where it is known -/
noncomputable def acap (P : Program) (tys : Array TypeId) (args : Array Value) (H : Heap) : Option Value :=
  match tys[0]?, args[0]? with
  | some t, some (Value.slice (some a) l c) =>
    match P.underlying t, H.get a.block with
    | some (.slice _), some (.cells cc) => if cc.opn || (Nat.beq l 0 && Nat.beq c 0) then none else some (.int .i64 c)
    | _, _ => none
  | some t, some (Value.slice none _ c) => match P.underlying t with
    | some (.slice _) => some (.int .i64 c)
    | _ => none
  | _, _ => none

theorem acap_ok {tys : Array TypeId} {ty : TypeId} {args args' : Array Value} (ha : ARel ι args args') {H : Heap} {v : Value} (h : acap P tys args H = some v) {w : World} (hw : Rel P ι H w) :
    ∃ v', (Builtin.cap_ tys ty args').run P w = .ok v' w ∧ VRel ι v v' := by
  have key : ∀ {t e : TypeId} {b : Option Addr} {l c : Nat}, tys[0]? = some t → P.underlying t = some (.slice e) → args'[0]? = some (.slice b l c) → (Builtin.cap_ tys ty args').run P w = .ok (goInt c) w := by
    intro t e b l c ht hu h0
    unfold Builtin.cap_
    rw [ht, h0]
    simp only [Sem.run_bind, run_underlying' hu, Result.andThen_ok]
    rfl
  unfold acap at h
  split at h
  · rename_i t a l c ht h0
    obtain ⟨x', h0', hv⟩ := ha.get? h0
    split at h
    · rename_i e cc hu hb
      split at h
      · simp at h
      · rename_i hc
        simp only [Option.some.injEq] at h
        subst h
        simp only [Bool.or_eq_true, Bool.and_eq_true, not_or, Bool.not_eq_true] at hc
        cases hv with
        | emptySlice a a' => simp at hc
        | @slice _ inf _ _ c' g1 g2 g3 =>
          obtain ⟨j, o, hj, ho, hrel⟩ := hw.live _ _ hb
          obtain rfl : inf = j := by rw [g1] at hj; exact Option.some.inj hj
          obtain ⟨⟨r1, r2, r3⟩, cs, rfl, r4, r5, r6⟩ := hrel
          obtain ⟨s1, s2, s3⟩ := r5 hc.1
          have hcc : c' = c := by
            rcases g2 with g2 | ⟨_, g2⟩
            · exact g2
            · rw [s1, Nat.add_zero] at g2
              exact Nat.eq_of_mul_eq_mul_right (by omega) g2
          subst hcc
          exact ⟨_, key ht hu h0', .int _ _⟩
    · simp at h
  · rename_i t l c ht h0
    obtain ⟨x', h0', hv⟩ := ha.get? h0
    obtain rfl := hv.nilSlice_inv
    split at h
    · rename_i e hu
      simp only [Option.some.injEq] at h
      subst h
      exact ⟨_, key ht hu h0', .int _ _⟩
    · simp at h
  · simp at h

end Go.Ev
