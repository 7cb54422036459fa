/-
  The evaluator: calls by contract, with symbols among what they are given; what a run says in the end. Conditions: AlOk, CtrOk.
-/
import Derived.Test.YtmeppoihgfdgaaaDoorEvO
import Derived.Test.YtmeppoihgfdgaaaDoorEvKn
namespace Go.Ev
open Go.RowKit

/-! ### What a call is given and hands back, by its leaves -/
inductive Lf where
  | int (k : IntKind)
  | bool
inductive Pm where
  | one (l : Lf)
  | agg (ls : List Lf)
  /-- A value that is known (of what is handed back). -/
  | val (v : Value)
def Lf.mkV : Lf → Int → Value
  | .int k, n => .int k n
  | .bool, n => .bool (decide (n ≠ 0))
def arL : List Pm → Nat
  | [] => 0
  | .one _ :: ps => 1 + arL ps
  | .agg ls :: ps => ls.length + arL ps
  | .val _ :: ps => arL ps
def fillL : List Lf → List Int → List Value
  | l :: ls, n :: ns => l.mkV n :: fillL ls ns
  | _, _ => []
def fillP : List Pm → List Int → List Value
  | .one l :: ps, n :: ns => l.mkV n :: fillP ps ns
  | .agg ls :: ps, ns => .agg (fillL ls ns).toArray :: fillP ps (ns.drop ls.length)
  | .val v :: ps, ns => v :: fillP ps ns
  | _, _ => []

noncomputable def leafC : Lf → Value → Option Nat
  | .int k, v => match vcode v with
    | some c => cond (!isBc c && Nat.beq (cK c) (kI k)) (some c) none
    | none => none
  | .bool, v => match vcode v with
    | some c => cond (isBc c) (some c) none
    | none => none
noncomputable def codesL : List Lf → List Value → Option (List Nat)
  | [], [] => some []
  | l :: ls, v :: vs => match leafC l v, codesL ls vs with
    | some c, some cs => some (c :: cs)
    | _, _ => none
  | _, _ => none
noncomputable def codesP : List Pm → List Value → Option (List Nat)
  | [], [] => some []
  | .one l :: ps, v :: vs => match leafC l v, codesP ps vs with
    | some c, some cs => some (c :: cs)
    | _, _ => none
  | .agg ls :: ps, .agg xs :: vs => match codesL ls xs.toList, codesP ps vs with
    | some cs, some ds => some (cs ++ ds)
    | _, _ => none
  | _, _ => none
noncomputable def chain : List Nat → Option Nat
  | [] => some (mk 6 0 0 0)
  | c :: cs => match chain cs with
    | some d => cond (Nat.ble (sz d) 65535) (some (mk 7 0 c d)) none
    | none => none

/-- Codes and what they stand for. -/
def CsOk (S : Sy) : List Nat → List Int → Prop
  | [], [] => True
  | c :: cs, n :: ns => ev S c = some [n] ∧ CsOk S cs ns
  | _, _ => False
theorem CsOk.len {S : Sy} : ∀ {cs : List Nat} {ns : List Int}, CsOk S cs ns → cs.length = ns.length
  | [], [], _ => rfl
  | _ :: _, _ :: _, h => by simp [CsOk.len h.2]
  | [], _ :: _, h => h.elim
  | _ :: _, [], h => h.elim
theorem CsOk.app {S : Sy} : ∀ {cs : List Nat} {ns : List Int} {ds : List Nat} {ms : List Int}, CsOk S cs ns → CsOk S ds ms → CsOk S (cs ++ ds) (ns ++ ms)
  | [], [], _, _, _, h => h
  | _ :: _, _ :: _, _, _, h1, h2 => ⟨h1.1, h1.2.app h2⟩
  | [], _ :: _, _, _, h, _ => h.elim
  | _ :: _, [], _, _, h, _ => h.elim
theorem chain_ok {S : Sy} : ∀ {cs : List Nat} {ns : List Int} {a : Nat}, CsOk S cs ns → chain cs = some a → ev S a = some ns
  | [], [], a, _, h => by
    simp only [chain, Option.some.injEq] at h
    subst h
    rw [ev_mk S (by decide) (by decide) (by decide) (by decide) (by decide)]
    rfl
  | c :: cs, n :: ns, a, hc, h => by
    simp only [chain] at h
    cases hd : chain cs with
    | none => rw [hd] at h; simp at h
    | some d =>
      rw [hd] at h
      simp only at h
      cases hs : Nat.ble (sz d) 65535 with
      | false => rw [hs] at h; simp at h
      | true =>
        rw [hs] at h
        simp only [cond_true, Option.some.injEq] at h
        subst h
        have := Nat.le_of_ble_eq_true hs
        rw [ev_mk S (by decide) (by decide) (by decide) (by decide) (by omega), hc.1, chain_ok hc.2 hd]
        rfl
  | [], _ :: _, _, h, _ => h.elim
  | _ :: _, [], _, h, _ => h.elim

theorem leafC_ok {S : Sy} {G : Nat → Option Obj} {ι : Inj} {l : Lf} {v v' : Value} {c : Nat} (h : leafC l v = some c) (hv : @VRel (symS S G) ι v v') : ∃ n, ev S c = some [n] ∧ v' = l.mkV n := by
  letI := symS S G
  cases l with
  | int k =>
    simp only [leafC] at h
    cases hc : vcode v with
    | none => rw [hc] at h; simp at h
    | some d =>
      rw [hc] at h
      simp only at h
      cases hk : (!isBc d && Nat.beq (cK d) (kI k)) with
      | false => rw [hk] at h; simp at h
      | true =>
        rw [hk] at h
        simp only [cond_true, Option.some.injEq] at h
        subst h
        simp only [Bool.and_eq_true, Bool.not_eq_true'] at hk
        obtain ⟨n, rfl, e⟩ := vcode_ok hv hc
        refine ⟨n, e, ?_⟩
        rw [mkV_num hk.1, Nat.eq_of_beq_eq_true hk.2, kOf_kI]
        rfl
  | bool =>
    simp only [leafC] at h
    cases hc : vcode v with
    | none => rw [hc] at h; simp at h
    | some d =>
      rw [hc] at h
      simp only at h
      cases hk : isBc d with
      | false => rw [hk] at h; simp at h
      | true =>
        rw [hk] at h
        simp only [cond_true, Option.some.injEq] at h
        subst h
        obtain ⟨n, rfl, e⟩ := vcode_ok hv hc
        refine ⟨n, e, ?_⟩
        unfold Ev.mkV
        rw [hk]
        rfl

/-- Values, one by one. -/
def VsOk (S : Sy) (G : Nat → Option Obj) (ι : Inj) : List Value → List Value → Prop
  | [], [] => True
  | v :: vs, w :: ws => @VRel (symS S G) ι v w ∧ VsOk S G ι vs ws
  | _, _ => False
theorem VsOk.of {S : Sy} {G : Nat → Option Obj} {ι : Inj} : ∀ (vs ws : List Value), ws.length = vs.length → (∀ (k : Nat) (u : Value), vs[k]? = some u → ∃ u', ws[k]? = some u' ∧ @VRel (symS S G) ι u u') → VsOk S G ι vs ws
  | [], [], _, _ => trivial
  | v :: vs, w :: ws, hl, h => by
    obtain ⟨u', e, q⟩ := h 0 v rfl
    simp only [List.getElem?_cons_zero, Option.some.injEq] at e
    subst e
    exact ⟨q, VsOk.of vs ws (by simpa using hl) fun k u hu => by have := h (k + 1) u (by simpa using hu); simpa using this⟩
  | [], _ :: _, hl, _ => by simp at hl
  | _ :: _, [], hl, _ => by simp at hl
theorem ARel.vs {S : Sy} {G : Nat → Option Obj} {ι : Inj} {xs ys : Array Value} (h : @ARel (symS S G) ι xs ys) : VsOk S G ι xs.toList ys.toList :=
  VsOk.of _ _ h.toL.1 h.toL.2
theorem VsOk.arel {S : Sy} {G : Nat → Option Obj} {ι : Inj} : ∀ {vs ws : List Value}, VsOk S G ι vs ws → vs.length = ws.length ∧ ∀ k, k < vs.length → @VRel (symS S G) ι (vs.getD k undf) (ws.getD k undf)
  | [], [], _ => ⟨rfl, fun k hk => by simp at hk⟩
  | v :: vs, w :: ws, h => by
    obtain ⟨h1, h2⟩ := h
    obtain ⟨q1, q2⟩ := h2.arel
    refine ⟨by simp [q1], fun k hk => ?_⟩
    cases k with
    | zero => simpa using h1
    | succ k => simpa using q2 k (by simpa using hk)
  | [], _ :: _, h => h.elim
  | _ :: _, [], h => h.elim
theorem VsOk.toArr {S : Sy} {G : Nat → Option Obj} {ι : Inj} {vs ws : List Value} (h : VsOk S G ι vs ws) : @ARel (symS S G) ι vs.toArray ws.toArray := by
  obtain ⟨q1, q2⟩ := h.arel
  refine ⟨by simpa using q1, fun k hk => ?_⟩
  have := q2 k (by simpa using hk)
  simpa using this

theorem codesL_ok {S : Sy} {G : Nat → Option Obj} {ι : Inj} : ∀ {ls : List Lf} {vs ws : List Value} {cs : List Nat}, codesL ls vs = some cs → VsOk S G ι vs ws → ∃ ns, CsOk S cs ns ∧ ws = fillL ls ns ∧ ns.length = ls.length
  | [], [], [], cs, h, _ => by
    simp only [codesL, Option.some.injEq] at h
    subst h
    exact ⟨[], trivial, rfl, rfl⟩
  | l :: ls, v :: vs, w :: ws, cs, h, hv => by
    simp only [codesL] at h
    cases h1 : leafC l v with
    | none => rw [h1] at h; simp at h
    | some c => cases h2 : codesL ls vs with
      | none => rw [h1, h2] at h; simp at h
      | some ds =>
        rw [h1, h2] at h
        simp only [Option.some.injEq] at h
        subst h
        obtain ⟨n, e1, rfl⟩ := leafC_ok h1 hv.1
        obtain ⟨ns, q1, rfl, q2⟩ := codesL_ok h2 hv.2
        exact ⟨n :: ns, ⟨e1, q1⟩, rfl, by simp [q2]⟩
  | [], _ :: _, _, _, h, _ => by simp [codesL] at h
  | _ :: _, [], _, _, h, _ => by simp [codesL] at h
  | [], [], _ :: _, _, _, hv => hv.elim
  | _ :: _, _ :: _, [], _, _, hv => hv.elim
theorem fillL_app : ∀ (ls : List Lf) (ns ms : List Int), ns.length = ls.length → fillL ls (ns ++ ms) = fillL ls ns
  | [], [], ms, _ => by cases ms <;> rfl
  | l :: ls, n :: ns, ms, h => by
    show l.mkV n :: fillL ls (ns ++ ms) = l.mkV n :: fillL ls ns
    rw [fillL_app ls ns ms (by simpa using h)]
  | [], _ :: _, _, h => by simp at h
  | _ :: _, [], _, h => by simp at h
theorem codesP_ok {S : Sy} {G : Nat → Option Obj} {ι : Inj} : ∀ {ps : List Pm} {vs ws : List Value} {cs : List Nat}, codesP ps vs = some cs → VsOk S G ι vs ws → ∃ ns, CsOk S cs ns ∧ ws = fillP ps ns ∧ ns.length = arL ps
  | [], [], [], cs, h, _ => by
    simp only [codesP, Option.some.injEq] at h
    subst h
    exact ⟨[], trivial, rfl, rfl⟩
  | .one l :: ps, v :: vs, w :: ws, cs, h, hv => by
    simp only [codesP] at h
    cases h1 : leafC l v with
    | none => rw [h1] at h; simp at h
    | some c => cases h2 : codesP ps vs with
      | none => rw [h1, h2] at h; simp at h
      | some ds =>
        rw [h1, h2] at h
        simp only [Option.some.injEq] at h
        subst h
        obtain ⟨n, e1, rfl⟩ := leafC_ok h1 hv.1
        obtain ⟨ns, q1, rfl, q2⟩ := codesP_ok h2 hv.2
        exact ⟨n :: ns, ⟨e1, q1⟩, rfl, by simp [arL, q2]; omega⟩
  | .agg ls :: ps, .agg xs :: vs, w :: ws, cs, h, hv => by
    simp only [codesP] at h
    cases h1 : codesL ls xs.toList with
    | none => rw [h1] at h; simp at h
    | some c => cases h2 : codesP ps vs with
      | none => rw [h1, h2] at h; simp at h
      | some ds =>
        rw [h1, h2] at h
        simp only [Option.some.injEq] at h
        subst h
        obtain ⟨hv1, hv2⟩ := hv
        have hw : ∃ ys, w = .agg ys ∧ @ARel (symS S G) ι xs ys := by
          letI := symS S G
          cases hv1 with
          | @agg _ ys a1 a2 => exact ⟨ys, rfl, a1, a2⟩
        obtain ⟨ys, rfl, hA⟩ := hw
        obtain ⟨ns, q1, e1, q2⟩ := codesL_ok h1 hA.vs
        obtain ⟨ms, q3, rfl, q4⟩ := codesP_ok h2 hv2
        refine ⟨ns ++ ms, q1.app q3, ?_, by simp [arL, q2, q4]⟩
        show _ = Value.agg (fillL ls (ns ++ ms)).toArray :: fillP ps ((ns ++ ms).drop ls.length)
        rw [fillL_app ls ns ms q2, ← q2, List.drop_left, ← e1]
  | [], _ :: _, _, _, h, _ => by simp [codesP] at h
  | .val _ :: _, [], _, _, h, _ => by simp [codesP] at h
  | .val _ :: _, _ :: _, _, _, h, _ => by simp [codesP] at h
  | .one _ :: _, [], _, _, h, _ => by simp [codesP] at h
  | .agg _ :: _, [], _, _, h, _ => by simp [codesP] at h
  | .agg _ :: _, v :: _, [], _, h, hv => hv.elim
  | .one _ :: _, _ :: _, [], _, _, hv => hv.elim
  | [], [], _ :: _, _, _, hv => hv.elim
  | .agg _ :: _, .bool _ :: _, _ :: _, _, h, _ => by simp [codesP] at h
  | .agg _ :: _, .int .. :: _, _ :: _, _, h, _ => by simp [codesP] at h
  | .agg _ :: _, .float .. :: _, _ :: _, _, h, _ => by simp [codesP] at h
  | .agg _ :: _, .complex .. :: _, _ :: _, _, h, _ => by simp [codesP] at h
  | .agg _ :: _, .string .. :: _, _ :: _, _, h, _ => by simp [codesP] at h
  | .agg _ :: _, .pointer .. :: _, _ :: _, _, h, _ => by simp [codesP] at h
  | .agg _ :: _, .slice .. :: _, _ :: _, _, h, _ => by simp [codesP] at h
  | .agg _ :: _, .map .. :: _, _ :: _, _, h, _ => by simp [codesP] at h
  | .agg _ :: _, .chan .. :: _, _ :: _, _, h, _ => by simp [codesP] at h
  | .agg _ :: _, .func .. :: _, _ :: _, _, h, _ => by simp [codesP] at h
  | .agg _ :: _, .nilFunc :: _, _ :: _, _, h, _ => by simp [codesP] at h
  | .agg _ :: _, .iface .. :: _, _ :: _, _, h, _ => by simp [codesP] at h
  | .agg _ :: _, .nilIface :: _, _ :: _, _, h, _ => by simp [codesP] at h
  | .agg _ :: _, .tuple .. :: _, _ :: _, _, h, _ => by simp [codesP] at h

/-! ### What is handed back -/
noncomputable def leafR (al : List (Nat × Value)) (a j : Nat) : Lf → Option Value
  | .int k => fin al (mk 8 (kI k) j a) true
  | .bool => fin al (mk 12 0 j a) true
noncomputable def resL (al : List (Nat × Value)) (a : Nat) : Nat → List Lf → Option (List Value)
  | _, [] => some []
  | j, l :: ls => match leafR al a j l, resL al a (j + 1) ls with
    | some v, some vs => some (v :: vs)
    | _, _ => none
noncomputable def resP (al : List (Nat × Value)) (a : Nat) : Nat → List Pm → Option (List Value)
  | _, [] => some []
  | j, .one l :: ps => match leafR al a j l, resP al a (j + 1) ps with
    | some v, some vs => some (v :: vs)
    | _, _ => none
  | j, .agg ls :: ps => match resL al a j ls, resP al a (j + ls.length) ps with
    | some cs, some vs => some (.agg cs.toArray :: vs)
    | _, _ => none
  | j, .val v :: ps => cond (plainA v) (match resP al a j ps with
    | some vs => some (v :: vs)
    | none => none) none
def bundle : List Value → Value
  | [v] => v
  | vs => .tuple vs.toArray
/-- The leaves that are handed back, from the j-th on. -/
def outs (S : Sy) (ns : List Int) (j : Nat) : Nat → List Int
  | 0 => []
  | n + 1 => S.Φ j ns :: outs S ns (j + 1) n

theorem leafR_ok {S : Sy} {G : Nat → Option Obj} {al : List (Nat × Value)} (ha : AlOk S al) {ι : Inj} {a j : Nat} {ns : List Int} (he : ev S a = some ns) (hs : sz a ≤ 65535) {l : Lf} {v : Value} (h : leafR al a j l = some v) :
    @VRel (symS S G) ι v (l.mkV (S.Φ j ns)) := by
  cases l with
  | int k =>
    simp only [leafR] at h
    have e1 := ev_mk S (t := 8) (a := j) (kI_lt k) (by decide) (by decide) (by decide) (show sz a < 65536 by omega)
    rw [he] at e1
    have q := fin_num (G := G) (ι := ι) ha h (e1.trans (by rfl))
    rw [mkV_low (kI_lt k) (by decide), kOf_kI] at q
    exact q
  | bool =>
    simp only [leafR] at h
    have e1 := ev_mk S (t := 12) (k := 0) (a := j) (by decide) (by decide) (by decide) (by decide) (show sz a < 65536 by omega)
    rw [he] at e1
    have q := fin_num (G := G) (ι := ι) ha h (e1.trans (by rfl))
    unfold Ev.mkV at q
    rw [isBc_mk (by decide) (by decide), show (Nat.ble 27 12 || (Nat.ble 11 12 && Nat.ble 12 15)) = true from rfl, cond_true, b2i_ne] at q
    exact q
theorem resL_ok {S : Sy} {G : Nat → Option Obj} {al : List (Nat × Value)} (ha : AlOk S al) {ι : Inj} {a : Nat} {ns : List Int} (he : ev S a = some ns) (hs : sz a ≤ 65535) : ∀ (ls : List Lf) (j : Nat) (vs : List Value), resL al a j ls = some vs →
    VsOk S G ι vs (fillL ls (outs S ns j ls.length))
  | [], j, vs, h => by
    simp only [resL, Option.some.injEq] at h
    subst h
    exact trivial
  | l :: ls, j, vs, h => by
    simp only [resL] at h
    cases h1 : leafR al a j l with
    | none => rw [h1] at h; simp at h
    | some v => cases h2 : resL al a (j + 1) ls with
      | none => rw [h1, h2] at h; simp at h
      | some us =>
        rw [h1, h2] at h
        simp only [Option.some.injEq] at h
        subst h
        exact ⟨leafR_ok ha he hs h1, resL_ok ha he hs ls (j + 1) us h2⟩
theorem outs_len (S : Sy) (ns : List Int) : ∀ (n j : Nat), (outs S ns j n).length = n
  | 0, _ => rfl
  | n + 1, j => by simp [outs, outs_len S ns n]
theorem outs_add (S : Sy) (ns : List Int) : ∀ (m n j : Nat), outs S ns j (m + n) = outs S ns j m ++ outs S ns (j + m) n
  | 0, n, j => by simp [outs]
  | m + 1, n, j => by
    rw [show m + 1 + n = (m + n) + 1 by omega]
    simp only [outs, List.cons_append]
    rw [outs_add S ns m n (j + 1), show j + 1 + m = j + (m + 1) by omega]
theorem resP_ok {S : Sy} {G : Nat → Option Obj} {al : List (Nat × Value)} (ha : AlOk S al) {ι : Inj} {a : Nat} {ns : List Int} (he : ev S a = some ns) (hs : sz a ≤ 65535) : ∀ (ps : List Pm) (j : Nat) (vs : List Value), resP al a j ps = some vs →
    VsOk S G ι vs (fillP ps (outs S ns j (arL ps)))
  | [], j, vs, h => by
    simp only [resP, Option.some.injEq] at h
    subst h
    exact trivial
  | .one l :: ps, j, vs, h => by
    simp only [resP] at h
    cases h1 : leafR al a j l with
    | none => rw [h1] at h; simp at h
    | some v => cases h2 : resP al a (j + 1) ps with
      | none => rw [h1, h2] at h; simp at h
      | some us =>
        rw [h1, h2] at h
        simp only [Option.some.injEq] at h
        subst h
        rw [show arL (.one l :: ps) = arL ps + 1 from Nat.add_comm _ _]
        exact ⟨leafR_ok ha he hs h1, resP_ok ha he hs ps (j + 1) us h2⟩
  | .val v :: ps, j, vs, h => by
    simp only [resP] at h
    obtain ⟨hp, h⟩ := condS h
    split at h
    · rename_i us h2
      simp only [Option.some.injEq] at h
      subst h
      refine ⟨?_, resP_ok ha he hs ps j us h2⟩
      letI := symS S G
      exact plainA_rel hp
    · simp at h
  | .agg ls :: ps, j, vs, h => by
    simp only [resP] at h
    cases h1 : resL al a j ls with
    | none => rw [h1] at h; simp at h
    | some cs => cases h2 : resP al a (j + ls.length) ps with
      | none => rw [h1, h2] at h; simp at h
      | some us =>
        rw [h1, h2] at h
        simp only [Option.some.injEq] at h
        subst h
        show VsOk S G ι _ (fillP (.agg ls :: ps) (outs S ns j (ls.length + arL ps)))
        rw [outs_add]
        show VsOk S G ι _ (Value.agg (fillL ls (outs S ns j ls.length ++ outs S ns (j + ls.length) (arL ps))).toArray :: fillP ps ((outs S ns j ls.length ++ outs S ns (j + ls.length) (arL ps)).drop ls.length))
        rw [fillL_app _ _ _ (outs_len S ns _ _)]
        have e : (outs S ns j ls.length ++ outs S ns (j + ls.length) (arL ps)).drop ls.length = outs S ns (j + ls.length) (arL ps) := by
          have := outs_len S ns ls.length j
          rw [List.drop_append_of_le_length (by omega), List.drop_eq_nil_of_le (by omega)]
          rfl
        rw [e]
        refine ⟨?_, resP_ok ha he hs ps _ us h2⟩
        letI := symS S G
        exact (resL_ok ha he hs ls j cs h1).toArr.agg
theorem bundle_ok {S : Sy} {G : Nat → Option Obj} {ι : Inj} : ∀ {vs ws : List Value}, VsOk S G ι vs ws → @VRel (symS S G) ι (bundle vs) (bundle ws)
  | [], [], _ => by letI := symS S G; exact ARel.nil.tuple
  | [_], [_], h => h.1
  | v :: v2 :: vs, w :: w2 :: ws, h => by letI := symS S G; exact h.toArr.tuple
  | [], _ :: _, h => h.elim
  | _ :: _, [], h => h.elim
  | [_], _ :: _ :: _, h => h.2.elim
  | _ :: _ :: _, [_], h => h.2.elim

/-! ### Contracts -/
/-- A function, what it is given, what it hands back, the number from which on its answers are called, and the arguments at which the contract may be used. -/
structure Ctr where
  f : Nat
  ps : List Pm
  res : List Pm
  code : Nat
  may : Nat → Bool
def CtrOk (P : Program) (S : Sy) (gs : Gs) (c : Ctr) : Prop := ∀ a ns, c.may a = true → ev S a = some ns → ns.length = arL c.ps → ∀ w, GOk P gs w →
  Calls P c.f (fillP c.ps ns).toArray w fun e w' => e = .returned (bundle (fillP c.res (outs S ns c.code (arL c.res)))) ∧ Quiet w w'
noncomputable def kOne (al : List (Nat × Value)) (c : Ctr) (args : Array Value) : Option Value :=
  match codesP c.ps args.toList with
  | some cs => match chain cs with
    | some a => cond (c.may a && Nat.ble (sz a) 65535)
        (match resP al a c.code c.res with
        | some vs => some (bundle vs)
        | none => none) none
    | none => none
  | none => none
noncomputable def kAll (al : List (Nat × Value)) (cs : List Ctr) (f : FuncId) (args : Array Value) : Option Value :=
  List.rec (motive := fun _ => Option Value) none (fun c _ r => cond (Nat.beq c.f f) (match kOne al c args with | some v => some v | none => r) r) cs

theorem kOne_ok {P : Program} {S : Sy} {G : Nat → Option Obj} {gs : Gs} (hG : ∀ w : World, P.globals.size ≤ w.heap.size → (∀ b, b < P.globals.size → w.heap[b]? = G b) → GOk P gs w) {al : List (Nat × Value)} (ha : AlOk S al) {c : Ctr} (hc : CtrOk P S gs c) {args : Array Value} {v : Value} (h : kOne al c args = some v) :
    ∀ ι H args' w, @Rel (symS S G) P ι H w → @ARel (symS S G) ι args args' → Calls P c.f args' w (@PostF (symS S G) P ι w v H) := by
  letI := symS S G
  intro ι H args' w hw hargs
  unfold kOne at h
  cases h1 : codesP c.ps args.toList with
  | none => rw [h1] at h; simp at h
  | some cs => cases h2 : chain cs with
    | none => rw [h1] at h; simp only [h2] at h; simp at h
    | some a =>
      rw [h1] at h
      simp only [h2] at h
      cases hm : (c.may a && Nat.ble (sz a) 65535) with
      | false => rw [hm] at h; simp at h
      | true =>
        rw [hm] at h
        simp only [cond_true] at h
        simp only [Bool.and_eq_true] at hm
        cases h3 : resP al a c.code c.res with
        | none => rw [h3] at h; simp at h
        | some vs =>
          rw [h3] at h
          simp only [Option.some.injEq] at h
          subst h
          obtain ⟨ns, q1, q2, q3⟩ := codesP_ok (G := G) (ι := ι) h1 (ARel.vs hargs)
          have he := chain_ok q1 h2
          have hs := Nat.le_of_ble_eq_true hm.2
          have hargs' : args' = (fillP c.ps ns).toArray := by rw [← q2]
          rw [hargs']
          refine Calls.mono (hc a ns hm.1 he q3 w (hG w (by rw [← hw.gsize]; exact hw.room) hw.glb.1)) fun e w' ⟨h1, x⟩ => ?_
          exact ⟨ι, _, h1, x.ext ι, x.rel hw, bundle_ok (resP_ok ha he hs c.res c.code vs h3)⟩
theorem kAll_ok {P : Program} {S : Sy} {G : Nat → Option Obj} {gs : Gs} (hG : ∀ w : World, P.globals.size ≤ w.heap.size → (∀ b, b < P.globals.size → w.heap[b]? = G b) → GOk P gs w) {al : List (Nat × Value)} (ha : AlOk S al) : ∀ {cs : List Ctr}, (∀ c ∈ cs, CtrOk P S gs c) → @KOk (symS S G) P (kAll al cs)
  | [], _ => fun f args v h => by simp [kAll] at h
  | c :: cs, hcs => by
    intro f args v h
    have h' : cond (Nat.beq c.f f) (match kOne al c args with | some v => some v | none => kAll al cs f args) (kAll al cs f args) = some v := h
    have hr := kAll_ok hG ha (cs := cs) fun d hd => hcs d (List.mem_cons_of_mem _ hd)
    cases hb : Nat.beq c.f f with
    | false => rw [hb] at h'; exact hr f args v h'
    | true =>
      rw [hb] at h'
      simp only [cond_true] at h'
      obtain rfl := Nat.eq_of_beq_eq_true hb
      cases hk : kOne al c args with
      | none => rw [hk] at h'; exact hr c.f args v h'
      | some u =>
        rw [hk] at h'
        simp only [Option.some.injEq] at h'
        subst h'
        exact kOne_ok hG ha (hcs c List.mem_cons_self) hk

/-! ### A run with symbols -/
/-- What marked code comes to, whatever the variables hold that are not spoken of. -/
def LkOk (P : Program) (S : Sy) (gs : Gs) (Λ : Nat → Option Code) (lk : Nat → Fr → Heap → Option (AExit × Fr × Heap)) : Prop :=
  ∀ G : Nat → Option Obj, (∀ w : World, P.globals.size ≤ w.heap.size → (∀ b, b < P.globals.size → w.heap[b]? = G b) → GOk P gs w) → @LpsOk P (symS S G) ⟨Λ⟩ ⟨lk⟩
theorem LkOk.no (P : Program) (S : Sy) (gs : Gs) (Λ : Nat → Option Code) : LkOk P S gs Λ fun _ _ _ => none := fun _ _ _ _ _ _ _ _ _ _ h => by simp [Lps.lk] at h
noncomputable def runM (P : Program) (Λ : Nat → Option Code) (lk : Nat → Fr → Heap → Option (AExit × Fr × Heap)) (ft : Nat → Option Func) {al : List (Nat × Value)} {S : Sy} (ha : AlOk S al) (cs : List Ctr) (G : Nat → Option Obj) (n : Nat) : Runner :=
  @runK (symS S G) P (symO P G ha) ⟨Λ⟩ ⟨lk⟩ ft (kAll al cs) n
noncomputable def runS (P : Program) (ft : Nat → Option Func) {al : List (Nat × Value)} {S : Sy} (ha : AlOk S al) (cs : List Ctr) (G : Nat → Option Obj) (n : Nat) : Runner := runM P (fun _ => none) (fun _ _ _ => none) ft ha cs G n
/-- What a run answers. -/
def outV : Option (Out × Heap) → Option Value
  | some (.val u, _) => some u
  | _ => none
theorem CsOk.uniq {S : Sy} : ∀ {cs : List Nat} {ns ms : List Int}, CsOk S cs ns → CsOk S cs ms → ns = ms
  | [], [], [], _, _ => rfl
  | _ :: _, _ :: _, _ :: _, h1, h2 => by
    obtain ⟨a1, b1⟩ := h1
    obtain ⟨a2, b2⟩ := h2
    rw [a1] at a2
    simp only [Option.some.injEq, List.cons.injEq, and_true] at a2
    rw [a2, b1.uniq b2]
  | [], _ :: _, _, h, _ => h.elim
  | [], [], _ :: _, _, h => h.elim
  | _ :: _, [], _, h, _ => h.elim
  | _ :: _, _ :: _, [], _, h => h.elim
theorem VsOk.ofArr {S : Sy} {G : Nat → Option Obj} {ι : Inj} {vs : List Value} {ys : Array Value} (h : @ARel (symS S G) ι vs.toArray ys) : VsOk S G ι vs ys.toList := by
  simpa using ARel.vs h
theorem unbundle {S : Sy} {G : Nat → Option Obj} {ι : Inj} : ∀ {vs : List Value} {v' : Value}, @VRel (symS S G) ι (bundle vs) v' → ∃ ws, VsOk S G ι vs ws ∧ v' = bundle ws
  | [v], v', h => ⟨[v'], ⟨h, trivial⟩, rfl⟩
  | [], v', h => by
    letI := symS S G
    cases h with
    | @tuple _ ys h1 h2 =>
      have : ys = #[] := Array.eq_empty_of_size_eq_zero (by simpa using h1.symm)
      subst this
      exact ⟨[], trivial, rfl⟩
  | v :: v2 :: vs, v', h => by
    letI := symS S G
    cases h with
    | @tuple _ ys h1 h2 =>
      have hA : VsOk S G ι (v :: v2 :: vs) ys.toList := VsOk.ofArr (ι := ι) ⟨h1, h2⟩
      obtain ⟨l⟩ := ys
      match l, hA with
      | a :: b :: l, hA => exact ⟨_, hA, rfl⟩
      | [a], hA => exact hA.2.elim
theorem symRunI {P : Program} [NoFloat P] {ft : Nat → Option Func} {Λ : Nat → Option Code} (hE : @EnvOk ⟨Λ⟩ P ft) {gs : Gs} {al : List (Nat × Value)} {S : Sy} (ha : AlOk S al) {cs : List Ctr} (hcs : ∀ c ∈ cs, CtrOk P S gs c) {lk : Nat → Fr → Heap → Option (AExit × Fr × Heap)} (hlk : LkOk P S gs Λ lk) {n : Nat} {f : FuncId}
    {args args' : List Value} {res : List Pm} {vs : List Value} {rcs : List Nat} {rs : List Int} (hres : codesP res vs = some rcs) (hrs : CsOk S rcs rs)
    (hrun : ∀ G, outV (runM P Λ lk ft ha cs G n (.fn f args.toArray) (H0g P gs)) = some (bundle vs)) (hrel : ∀ G ι, VsOk S G ι args args') (w : World) (hw : GOk P gs w) (hin : ∀ b o, inpL S.I b = some o → w.heap[b]? = some o) :
    Calls P f args'.toArray w fun e w' => e = .returned (bundle (fillP res rs)) ∧ Quiet w w' := by
  letI := symS S fun b => w.heap[b]?
  letI : Marks := ⟨Λ⟩
  letI : Lps P := ⟨lk⟩
  letI := symO P (fun b => w.heap[b]?) ha
  have hr := hrun fun b => w.heap[b]?
  cases hc : runM P Λ lk ft ha cs (fun b => w.heap[b]?) n (.fn f args.toArray) (H0g P gs) with
  | none => rw [hc] at hr; simp [outV] at hr
  | some r =>
    obtain ⟨out, H'⟩ := r
    rw [hc] at hr
    cases out with
    | exit e A => simp [outV] at hr
    | val v =>
      simp only [outV, Option.some.injEq] at hr
      subst hr
      have hK := kAll_ok (G := fun b => w.heap[b]?) (fun w' h1 h2 => hw.of h1 h2) ha hcs
      refine Calls.mono (callK hE (hlk _ fun w' h1 h2 => hw.of h1 h2) hK (fun ι => (hrel (fun b => w.heap[b]?) ι).toArr) hc w hw ⟨fun _ _ => rfl, hin⟩) fun e w' ⟨ι', v', h1, h2, x⟩ => ⟨?_, x⟩
      obtain ⟨ws, q1, rfl⟩ := unbundle h2
      obtain ⟨ms, q2, rfl, _⟩ := codesP_ok hres q1
      rw [h1, hrs.uniq q2]

theorem noInp {S : Sy} (h : S.I = []) (w : World) : ∀ b o, inpL S.I b = some o → w.heap[b]? = some o := fun b o hb => by
  rw [h] at hb
  simp [inpL] at hb
theorem symRunM {P : Program} [NoFloat P] {ft : Nat → Option Func} {Λ : Nat → Option Code} (hE : @EnvOk ⟨Λ⟩ P ft) {gs : Gs} {al : List (Nat × Value)} {S : Sy} (ha : AlOk S al) {cs : List Ctr} (hcs : ∀ c ∈ cs, CtrOk P S gs c) {lk : Nat → Fr → Heap → Option (AExit × Fr × Heap)} (hlk : LkOk P S gs Λ lk) {n : Nat} {f : FuncId}
    {args args' : List Value} {res : List Pm} {vs : List Value} {rcs : List Nat} {rs : List Int} (hres : codesP res vs = some rcs) (hrs : CsOk S rcs rs)
    (hrun : ∀ G, outV (runM P Λ lk ft ha cs G n (.fn f args.toArray) (H0g P gs)) = some (bundle vs)) (hrel : ∀ G ι, VsOk S G ι args args') (w : World) (hw : GOk P gs w) (hI : S.I = [] := by rfl) :
    Calls P f args'.toArray w fun e w' => e = .returned (bundle (fillP res rs)) ∧ Quiet w w' :=
  symRunI hE ha hcs hlk hres hrs hrun hrel w hw (noInp hI w)
theorem symRun {P : Program} [NoFloat P] {ft : Nat → Option Func} (hE : EnvOk P ft) {gs : Gs} {al : List (Nat × Value)} {S : Sy} (ha : AlOk S al) {cs : List Ctr} (hcs : ∀ c ∈ cs, CtrOk P S gs c) {n : Nat} {f : FuncId}
    {args args' : List Value} {res : List Pm} {vs : List Value} {rcs : List Nat} {rs : List Int} (hres : codesP res vs = some rcs) (hrs : CsOk S rcs rs)
    (hrun : ∀ G, outV (runS P ft ha cs G n (.fn f args.toArray) (H0g P gs)) = some (bundle vs)) (hrel : ∀ G ι, VsOk S G ι args args') (w : World) (hw : GOk P gs w) (hI : S.I = [] := by rfl) :
    Calls P f args'.toArray w fun e w' => e = .returned (bundle (fillP res rs)) ∧ Quiet w w' :=
  symRunM hE ha hcs (LkOk.no P S gs _) hres hrs hrun hrel w hw hI
/-- A piece of code, run with symbols. -/
theorem symCode {P : Program} [NoFloat P] {ft : Nat → Option Func} {Λ : Nat → Option Code} (hE : @EnvOk ⟨Λ⟩ P ft) {gs : Gs} {al : List (Nat × Value)} {S : Sy} (ha : AlOk S al) {cs : List Ctr} (hcs : ∀ c ∈ cs, CtrOk P S gs c)
    {lk : Nat → Fr → Heap → Option (AExit × Fr × Heap)} (hlk : LkOk P S gs Λ lk) {n : Nat} {c c' : Code} (hann : @Ann ⟨Λ⟩ c' c) (hf : fineC P.globals.size c = true) {A A' : Fr} {H H' : Heap} {e : AExit} {G : Nat → Option Obj}
    (hG : ∀ w : World, P.globals.size ≤ w.heap.size → (∀ b, b < P.globals.size → w.heap[b]? = G b) → GOk P gs w) (hrun : runM P Λ lk ft ha cs G n (.code c' A) H = some (.exit e A', H'))
    {ι : Inj} {a : Act} {w : World} (hw : @Rel (symS S G) P ι H w) (hA : @FRel (symS S G) ι A a.tmps) : c.wp P (@PostC (symS S G) P ι w a e A' H') a w := by
  letI := symS S G
  letI : Marks := ⟨Λ⟩
  letI : Lps P := ⟨lk⟩
  letI := symO P G ha
  exact (runK_good hE (hlk G hG) (kAll_ok hG ha hcs) n).code c' A H e A' H' hrun c hann hf ι a w hw hA

end Go.Ev
