/-
  The evaluator: loops whose length is not known: frames and heaps as patterns, a round from pattern to pattern, and the rule. Conditions: what is said of the rounds (Step).
-/
import Derived.Test.YtmeppoihgfdgaaaDoorEvR
namespace Go.Ev
open Go.RowKit

/-! ### Patterns -/
def P0 : Value := .complex .f64 0 0
/-- What a variable, or a function of one index, is to be. -/
inductive Ac where
  | num (c : Nat)
  | arr (a : ACode)
abbrev Asg := List (Nat × Ac)
noncomputable def mvalL (f : Value → Value → Option Asg) : List Value → List Value → Option Asg
  | [], [] => some []
  | v :: vs, u :: us => match f v u, mvalL f vs us with
    | some a, some b => some (a ++ b)
    | _, _ => none
  | _, _ => none
/-- Which names of what is met are which names of the pattern: those that are not said are the same. -/
abbrev Ren := List (Nat × Nat)
def rho : Ren → Nat → Nat
  | [], n => n
  | p :: l, n => cond (Nat.beq p.1 n) p.2 (rho l n)
theorem rho_low {k : Nat} : ∀ {r : Ren} {n : Nat}, (r.all fun p => Nat.ble k p.1) = true → n < k → rho r n = n
  | [], _, _, _ => rfl
  | p :: l, n, h, hn => by
    simp only [List.all_cons, Bool.and_eq_true] at h
    have := Nat.le_of_ble_eq_true h.1
    have hb : Nat.beq p.1 n = false := by
      cases hb : Nat.beq p.1 n with
      | false => rfl
      | true => have := Nat.eq_of_beq_eq_true hb; omega
    show cond (Nat.beq p.1 n) p.2 (rho l n) = n
    rw [hb, cond_false]
    exact rho_low h.2 hn
theorem rho_ge {k : Nat} : ∀ {r : Ren} {n : Nat}, (r.all fun p => Nat.ble k p.2) = true → k ≤ n → k ≤ rho r n
  | [], _, _, h => h
  | p :: l, n, h, hn => by
    simp only [List.all_cons, Bool.and_eq_true] at h
    show k ≤ cond (Nat.beq p.1 n) p.2 (rho l n)
    cases Nat.beq p.1 n with
    | true => exact Nat.le_of_ble_eq_true h.1
    | false => exact rho_ge h.2 hn
noncomputable def mAddr (N : Nat) (r : Ren) (a b : Addr) : Bool := Nat.beq (rho r a.block) b.block && Nat.beq a.off b.off && a.spot.isNone && b.spot.isNone && Nat.ble (a.block + 1) N
noncomputable def mval (N : Nat) (r : Ren) : Nat → Value → Value → Option Asg
  | 0, _, _ => none
  | f + 1, v, u => match v with
    | .float .f64 pc => match vcode u with
      | some d => cond (Nat.beq (cT pc) 0 && !isBc d && Nat.beq (cK d) (cK pc)) (some [(cN pc, .num d)]) (cond (isBc d && Nat.beq pc (bsym (cN (cA pc)))) (some [(cN (cA pc), .num d)]) none)
      | none => none
    | .float .f32 pc => match u with
      | .float .f32 d => cond (Nat.beq pc d && Nat.beq (cT pc) 1) (some [(dL (iD (cA pc)), .num (dL (iD (cA pc)) * 512 + kI .i64))]) (cond (Nat.beq (cT pc) 3 && Nat.beq (cT d) 3 && Nat.beq (rho r (cA pc)) (cA d) && Nat.beq (cT (cB pc)) 0 && Nat.ble (cA pc + 1) N) (some [(cN (cB pc), .num (cB d))]) none)
      | .slice (some a) l c => cond (Nat.beq (cT pc) 3 && Nat.beq l c && Nat.ble 1 l && Nat.beq (rho r (cA pc)) a.block && Nat.beq a.off 0 && a.spot.isNone && Nat.beq (cT (cB pc)) 0 && Nat.ble (cA pc + 1) N) (some [(cN (cB pc), .num (lit .i64 l))]) none
      | _ => none
    | .int k n => match u with
      | .int k' n' => cond (eqK k k' && eqI n n') (some []) none
      | _ => none
    | .bool b => match u with
      | .bool b' => cond (b == b') (some []) none
      | _ => none
    | .pointer none => match u with
      | .pointer none => some []
      | _ => none
    | .pointer (some a) => match u with
      | .pointer (some b) => cond (mAddr N r a b) (some []) none
      | _ => none
    | .slice none l c => match u with
      | .slice none l' c' => cond (Nat.beq l l' && Nat.beq c c') (some []) none
      | _ => none
    | .slice (some a) l c => match u with
      | .slice (some b) l' c' => cond (mAddr N r a b && Nat.beq l l' && Nat.beq c c') (some []) none
      | _ => none
    | .nilFunc => match u with
      | .nilFunc => some []
      | _ => none
    | .nilIface => match u with
      | .nilIface => some []
      | _ => none
    | .func (.func k) xs us => match u with
      | .func (.func k') ys vs => cond (Nat.beq k k') (match mvalL (mval N r f) xs.toList ys.toList, mvalL (mval N r f) us.toList vs.toList with
        | some a, some b => some (a ++ b)
        | _, _ => none) none
      | _ => none
    | .iface t x => match u with
      | .iface t' y => cond (Nat.beq t t') (mval N r f x y) none
      | _ => none
    | .agg xs => match u with
      | .agg ys => mvalL (mval N r f) xs.toList ys.toList
      | _ => none
    | .tuple xs => match u with
      | .tuple ys => mvalL (mval N r f) xs.toList ys.toList
      | _ => none
    | _ => none

def cut (r : Ren) (ι : Inj) (N : Nat) : Inj := fun n => if n < N then ι (rho r n) else none
theorem cut_some {r : Ren} {ι : Inj} {N n : Nat} {i : Info} (h : cut r ι N n = some i) : n < N ∧ ι (rho r n) = some i := by
  unfold cut at h
  split at h
  · exact ⟨by assumption, h⟩
  · simp at h
theorem cut_of {r : Ren} {ι : Inj} {N n : Nat} {i : Info} (h : ι (rho r n) = some i) (hn : n < N) : cut r ι N n = some i := by
  unfold cut
  rw [if_pos hn]
  exact h

/-- What variables are to be, by what codes stand for. -/
def acOk (S S' : Sy) (i : Nat) : Ac → Prop
  | .num c => ev S c = some [S'.ρ i]
  | .arr a => ∀ j : Nat, aden S a j = some (S'.Φ i [(j : Int)])
def AsgOk (S S' : Sy) (asg : Asg) : Prop := S'.I = S.I ∧ ∀ p ∈ asg, acOk S S' p.1 p.2
theorem AsgOk.left {S S' : Sy} {a b : Asg} (h : AsgOk S S' (a ++ b)) : AsgOk S S' a := ⟨h.1, fun p hp => h.2 p (List.mem_append_left _ hp)⟩
theorem AsgOk.right {S S' : Sy} {a b : Asg} (h : AsgOk S S' (a ++ b)) : AsgOk S S' b := ⟨h.1, fun p hp => h.2 p (List.mem_append_right _ hp)⟩
theorem asg_nil {S S' : Sy} (h : S'.I = S.I) : AsgOk S S' [] := ⟨h, fun p hp => by simp at hp⟩
theorem asg_cons {S S' : Sy} {i c : Nat} {asg : Asg} (t : Tm) (he : (Nat.beq t.enc c && t.ok) = true) (hd : t.den S = some [S'.ρ i]) (h : AsgOk S S' asg) : AsgOk S S' ((i, .num c) :: asg) := ⟨h.1, fun p hp => by
  simp only [Bool.and_eq_true] at he
  rcases List.mem_cons.1 hp with rfl | hp
  · show ev S c = _
    rw [← Nat.eq_of_beq_eq_true he.1]
    exact (t.ev_enc S he.2).trans hd
  · exact h.2 p hp⟩
theorem asg_arr {S S' : Sy} {i : Nat} {a : ACode} {asg : Asg} (hd : ∀ j : Nat, aden S a j = some (S'.Φ i [(j : Int)])) (h : AsgOk S S' asg) : AsgOk S S' ((i, .arr a) :: asg) := ⟨h.1, fun p hp => by
  rcases List.mem_cons.1 hp with rfl | hp
  · exact hd
  · exact h.2 p hp⟩

theorem var_code {i k : Nat} (hk : k < 8) : cT (i * 512 + k) = 0 ∧ cN (i * 512 + k) = i ∧ cK (i * 512 + k) = k := ⟨by unfold cT; omega, by unfold cN; omega, by unfold cK; omega⟩
theorem var_eq {c : Nat} (h : cT c = 0) : c = cN c * 512 + cK c := by unfold cT at h; unfold cN cK; omega
theorem var_rel {S : Sy} {G : Nat → Option Obj} {ι : Inj} {c : Nat} (h : cT c = 0) {n : Int} (hn : S.ρ (cN c) = n) : @VRel (symS S G) ι (.float .f64 c) (.int (kOf (cK c)) n) := by
  have e : ev S c = some [n] := by
    rw [ev]
    rw [if_pos h, hn]
  have q := rel_code (G := G) (ι := ι) e
  have hb : isBc c = false := by
    unfold isBc
    rw [h]
    rfl
  rw [mkV_num hb] at q
  exact q
theorem bsym_rel {S : Sy} {G : Nat → Option Obj} {ι : Inj} {i : Nat} {n : Int} (hn : S.ρ i = n) (hs : Nat.ble (sz (lit .u8 0)) 65535 = true) : @VRel (symS S G) ι (.float .f64 (bsym i)) (.bool (decide (n ≠ 0))) := by
  have e : ev S (bsym i) = some [b2i (decide (n ≠ 0))] := (Tm.ev_enc S (.bin .neq (.var .u8 i) (.lit .u8 0)) (by simp [Tm.ok, Tm.enc, hs])).trans (by
    simp only [Tm.den, hn, vBin, numV])
  have q := rel_code (G := G) (ι := ι) e
  have hb : isBc (bsym i) = true := isBc_mk (kI_lt _) (by decide)
  unfold mkV at q
  rw [hb, cond_true, b2i_ne] at q
  exact q

theorem cond_some {α : Type} {b : Bool} {x : Option α} {y : α} (h : cond b x none = some y) : b = true ∧ x = some y := by
  cases b with
  | true => exact ⟨rfl, h⟩
  | false => simp at h

theorem mAddr_ok {N : Nat} {r : Ren} {a b : Addr} (h : mAddr N r a b = true) : b = ⟨rho r a.block, a.off, a.spot⟩ ∧ a.block < N := by
  unfold mAddr at h
  simp only [Bool.and_eq_true] at h
  obtain ⟨⟨⟨⟨h1, h2⟩, h3⟩, h4⟩, h5⟩ := h
  have e1 := Nat.eq_of_beq_eq_true h1
  have e2 := Nat.eq_of_beq_eq_true h2
  have e3 := Nat.le_of_ble_eq_true h5
  refine ⟨?_, e3⟩
  cases a; cases b
  simp_all [Option.isNone_iff_eq_none]

section
variable {S S' : Sy} {G : Nat → Option Obj} {ι : Inj} {N : Nat} {r : Ren}
theorem mvalL_ok {f : Value → Value → Option Asg} (hf : ∀ v u asg, f v u = some asg → AsgOk S S' asg → ∀ v', @VRel (symS S G) ι u v' → @VRel (symS S' G) (cut r ι N) v v') :
    ∀ (vs us : List Value) (asg : Asg), mvalL f vs us = some asg → AsgOk S S' asg → vs.length = us.length ∧ ∀ k, k < vs.length → ∀ v', @VRel (symS S G) ι (us.getD k undf) v' → @VRel (symS S' G) (cut r ι N) (vs.getD k undf) v'
  | [], [], _, _, _ => ⟨rfl, fun k hk => by simp at hk⟩
  | v :: vs, u :: us, asg, h, ha => by
    simp only [mvalL] at h
    split at h
    · rename_i a b h1 h2
      simp only [Option.some.injEq] at h
      subst h
      obtain ⟨q1, q2⟩ := mvalL_ok hf vs us b h2 ha.right
      refine ⟨by simp [q1], fun k hk v' hv => ?_⟩
      cases k with
      | zero => exact hf v u a h1 ha.left v' (by simpa using hv)
      | succ k => exact q2 k (by simpa using hk) v' (by simpa using hv)
    · simp at h
  | [], _ :: _, _, h, _ => by simp [mvalL] at h
  | _ :: _, [], _, h, _ => by simp [mvalL] at h
theorem mvalA_ok {f : Value → Value → Option Asg} (hf : ∀ v u asg, f v u = some asg → AsgOk S S' asg → ∀ v', @VRel (symS S G) ι u v' → @VRel (symS S' G) (cut r ι N) v v')
    {xs ys zs : Array Value} {asg : Asg} (h : mvalL f xs.toList ys.toList = some asg) (ha : AsgOk S S' asg) (h1 : ys.size = zs.size) (h2 : ∀ k, k < ys.size → @VRel (symS S G) ι (ys.getD k undf) (zs.getD k undf)) :
    xs.size = zs.size ∧ ∀ k, k < xs.size → @VRel (symS S' G) (cut r ι N) (xs.getD k undf) (zs.getD k undf) := by
  obtain ⟨q1, q2⟩ := mvalL_ok hf _ _ _ h ha
  have q1' : xs.size = ys.size := by simpa using q1
  refine ⟨q1'.trans h1, fun k hk => ?_⟩
  have := q2 k (by simpa using hk) (zs.getD k undf) (by simpa using h2 k (by omega))
  simpa using this

theorem mval_ok : ∀ (f : Nat) (v u : Value) (asg : Asg), mval N r f v u = some asg → AsgOk S S' asg → ∀ v', @VRel (symS S G) ι u v' → @VRel (symS S' G) (cut r ι N) v v'
  | 0, v, u, asg, h, _ => by simp [mval] at h
  | f + 1, v, u, asg, h, ha => by
    intro v' hv
    unfold mval at h
    split at h
    · rename_i pc
      split at h
      · rename_i d hd
        obtain ⟨n, rfl, e⟩ := vcode_ok hv hd
        cases h1 : (Nat.beq (cT pc) 0 && !isBc d && Nat.beq (cK d) (cK pc)) with
        | true =>
          rw [h1, cond_true] at h
          simp only [Option.some.injEq] at h
          subst h
          simp only [Bool.and_eq_true, Bool.not_eq_true'] at h1
          obtain ⟨⟨g1, g2⟩, g3⟩ := h1
          have e2 : ev S d = _ := ha.2 (cN pc, .num d) List.mem_cons_self
          rw [e] at e2
          simp only [Option.some.injEq, List.cons.injEq, and_true] at e2
          rw [mkV_num g2, Nat.eq_of_beq_eq_true g3]
          exact var_rel (Nat.eq_of_beq_eq_true g1) e2.symm
        | false =>
          rw [h1, cond_false] at h
          obtain ⟨g, h⟩ := cond_some h
          simp only [Option.some.injEq] at h
          subst h
          simp only [Bool.and_eq_true] at g
          have e2 : ev S d = _ := ha.2 (cN (cA pc), .num d) List.mem_cons_self
          rw [e] at e2
          simp only [Option.some.injEq, List.cons.injEq, and_true] at e2
          have e3 := Nat.eq_of_beq_eq_true g.2
          unfold mkV
          rw [g.1, cond_true, e3]
          exact bsym_rel (by rw [e2]) (by decide +kernel)
      · simp at h
    · rename_i pc
      split at h
      · rename_i d
        cases h1 : (Nat.beq pc d && Nat.beq (cT pc) 1) with
        | true =>
          simp only [Bool.and_eq_true] at h1
          have e1 := Nat.eq_of_beq_eq_true h1.1
          have e2 := Nat.eq_of_beq_eq_true h1.2
          subst e1
          rw [h1.1, h1.2] at h
          simp only [Bool.and_self, cond_true, Option.some.injEq] at h
          subst h
          have e3 : ev S (dL (iD (cA pc)) * 512 + kI .i64) = some [S'.ρ (dL (iD (cA pc)))] := ha.2 (dL (iD (cA pc)), .num (dL (iD (cA pc)) * 512 + kI .i64)) List.mem_cons_self
          have e4 : S'.ρ (dL (iD (cA pc))) = S.ρ (dL (iD (cA pc))) := by
            have hk := kI_lt .i64
            rw [ev, if_pos (by unfold cT; omega), show cN (dL (iD (cA pc)) * 512 + kI .i64) = dL (iD (cA pc)) by unfold cN; omega] at e3
            simpa using e3.symm
          have hp : ptrS S pc = some v' := by
            letI := symS S G
            cases hv with
            | inp h => exact h
            | ownS h => exact absurd (show ownS S pc = some _ from h) (by unfold ownS; rw [if_neg (by omega), if_neg (by omega)]; simp)
            | ownP h => exact absurd (show ownS S pc = some _ from h) (by unfold ownS; rw [if_neg (by omega), if_neg (by omega)]; simp)
          letI := symS S' G
          refine VRel.inp (show ptrS S' pc = some v' from ?_)
          unfold ptrS at hp ⊢
          rw [if_pos e2] at hp ⊢
          rw [ha.1]
          unfold dOk at hp ⊢
          rw [e4]
          exact hp
        | false =>
          rw [h1, cond_false] at h
          obtain ⟨g, h⟩ := cond_some h
          simp only [Option.some.injEq] at h
          subst h
          simp only [Bool.and_eq_true] at g
          obtain ⟨⟨⟨⟨g1, g2⟩, g3⟩, g4⟩, g5⟩ := g
          have g1 := Nat.eq_of_beq_eq_true g1
          have g2 := Nat.eq_of_beq_eq_true g2
          have g3 := Nat.eq_of_beq_eq_true g3
          have g4 := Nat.eq_of_beq_eq_true g4
          have g5 := Nat.le_of_ble_eq_true g5
          have e2 : ev S (cB d) = some [S'.ρ (cN (cB pc))] := ha.2 (cN (cB pc), .num (cB d)) List.mem_cons_self
          have hq : ∃ b n cap i, v' = .slice (some ⟨i.blk, i.off, none⟩) n cap ∧ ownS S d = some (true, b, n) ∧ ι b = some i ∧ n ≤ cap ∧ (cap = n ∨ cap * i.esz ≤ i.size + i.extra) := by
            letI := symS S G
            cases hv with
            | inp h => exact absurd (show ptrS S d = some _ from h) (by unfold ptrS; rw [if_neg (by omega), if_neg (by omega)]; simp)
            | ownS h h2 h3 h4 => exact ⟨_, _, _, _, rfl, h, h2, h3, h4⟩
            | ownP h => exact absurd (show ownS S d = some _ from h) (by unfold ownS; rw [if_pos g2, e2]; dsimp only; split <;> simp)
          obtain ⟨b, n, cap, i, rfl, q1, q2, q3, q4⟩ := hq
          have q1' := q1
          unfold ownS at q1'
          rw [if_pos g2, e2] at q1'
          dsimp only at q1'
          split at q1'
          case isFalse => simp at q1'
          rename_i h0
          simp only [Option.some.injEq, Prod.mk.injEq, true_and] at q1'
          obtain ⟨rfl, rfl⟩ := q1'
          have hpc : ownS S' pc = some (true, cA pc, (S'.ρ (cN (cB pc))).toNat) := by
            have : ev S' (cB pc) = some [S'.ρ (cN (cB pc))] := by rw [ev, if_pos g4]
            unfold ownS; rw [if_pos g1, this]; dsimp only; rw [if_pos h0]
          letI := symS S' G
          exact VRel.ownS hpc (cut_of (by rw [g3]; exact q2) (by omega)) q3 q4
      · rename_i a l c
        obtain ⟨g, h⟩ := cond_some h
        simp only [Option.some.injEq] at h
        subst h
        simp only [Bool.and_eq_true, Option.isNone_iff_eq_none] at g
        obtain ⟨⟨⟨⟨⟨⟨⟨g1, g2⟩, g3⟩, g4⟩, g5⟩, g6⟩, g7⟩, g8⟩ := g
        have g1 := Nat.eq_of_beq_eq_true g1
        have g2 := Nat.eq_of_beq_eq_true g2
        have g3 := Nat.le_of_ble_eq_true g3
        have g4 := Nat.eq_of_beq_eq_true g4
        have g5 := Nat.eq_of_beq_eq_true g5
        have g7 := Nat.eq_of_beq_eq_true g7
        have g8 := Nat.le_of_ble_eq_true g8
        subst g2
        have e2 : ev S (lit .i64 (l : Int)) = some [S'.ρ (cN (cB pc))] := ha.2 (cN (cB pc), .num (lit .i64 l)) List.mem_cons_self
        rw [ev_lit] at e2
        simp only [Option.some.injEq, List.cons.injEq, and_true] at e2
        have hq : ∃ i cap, v' = .slice (some ⟨i.blk, i.off, none⟩) l cap ∧ ι a.block = some i ∧ l ≤ cap ∧ (cap = l ∨ cap * i.esz ≤ i.size + i.extra) := by
          letI := symS S G
          cases hv with
          | slice h1 h2 h3 =>
            refine ⟨_, _, by rw [g5, g6, Nat.add_zero], h1, h3, ?_⟩
            rcases h2 with h2 | ⟨h2, h4⟩
            · exact .inl h2
            · exact .inr (by omega)
          | emptySlice => omega
        obtain ⟨i, cap, rfl, q1, q2, q3⟩ := hq
        have hpc : ownS S' pc = some (true, cA pc, l) := by
          have : ev S' (cB pc) = some [S'.ρ (cN (cB pc))] := by rw [ev, if_pos g7]
          unfold ownS; rw [if_pos g1, this]; dsimp only; rw [if_pos (by omega), ← e2]
          simp
        letI := symS S' G
        exact VRel.ownS hpc (cut_of (by rw [g4]; exact q1) (by omega)) q2 q3
      · simp at h
    · rename_i k n
      split at h
      · rename_i k' n'
        obtain ⟨g, _⟩ := cond_some h
        simp only [Bool.and_eq_true] at g
        letI := symS S' G
        have e1 := eqK_ok g.1
        have e2 : n = n' := by have := g.2; rw [eqI_eq] at this; simpa using this
        subst e1 e2
        letI := symS S' G
        have : v' = .int k n := by
          letI := symS S G
          cases hv; rfl
        rw [this]
        exact .int k n
      · simp at h
    · rename_i b
      split at h
      · obtain ⟨g, _⟩ := cond_some h
        have e1 := eq_of_beq g
        subst e1
        letI := symS S' G
        have : v' = .bool b := by
          letI := symS S G
          cases hv; rfl
        rw [this]
        exact .bool b
      · simp at h
    · split at h
      · letI := symS S' G
        have : v' = .pointer none := by
          letI := symS S G
          cases hv; rfl
        rw [this]
        exact .nilPtr
      · simp at h
    · rename_i a
      split at h
      · rename_i b
        obtain ⟨g, _⟩ := cond_some h
        obtain ⟨e1, e2⟩ := mAddr_ok g
        subst e1
        letI := symS S' G
        have : ∃ i, ι (rho r a.block) = some i ∧ v' = .pointer (some ⟨i.blk, i.off + a.off, a.spot⟩) := by
          letI := symS S G
          cases hv with
          | ptr h => exact ⟨_, h, rfl⟩
        obtain ⟨i, hi, rfl⟩ := this
        exact .ptr (cut_of hi e2)
      · simp at h
    · rename_i l c
      split at h
      · rename_i l' c'
        obtain ⟨g, _⟩ := cond_some h
        simp only [Bool.and_eq_true] at g
        have e1 := Nat.eq_of_beq_eq_true g.1
        have e2 := Nat.eq_of_beq_eq_true g.2
        subst e1 e2
        letI := symS S' G
        have : v' = .slice none l c := by
          letI := symS S G
          cases hv; rfl
        rw [this]
        exact .nilSlice l c
      · simp at h
    · rename_i a l c
      split at h
      · rename_i b l' c'
        obtain ⟨g, _⟩ := cond_some h
        simp only [Bool.and_eq_true] at g
        have e1 := Nat.eq_of_beq_eq_true g.1.2
        have e2 := Nat.eq_of_beq_eq_true g.2
        obtain ⟨e3, e4⟩ := mAddr_ok g.1.1
        subst e1 e2 e3
        letI := symS S' G
        have : (∃ i c', ι (rho r a.block) = some i ∧ v' = .slice (some ⟨i.blk, i.off + a.off, a.spot⟩) l c' ∧ (c' = c ∨ (a.off + c * i.esz = i.size ∧ c' * i.esz = c * i.esz + i.extra)) ∧ c ≤ c') ∨ (∃ a', l = 0 ∧ c = 0 ∧ v' = .slice (some a') 0 0) := by
          letI := symS S G
          cases hv with
          | slice h1 h2 h3 => exact .inl ⟨_, _, h1, rfl, h2, h3⟩
          | emptySlice _ a' => exact .inr ⟨a', rfl, rfl, rfl⟩
        rcases this with ⟨i, c', h1, rfl, h2, h3⟩ | ⟨a', rfl, rfl, rfl⟩
        · exact .slice (cut_of h1 e4) h2 h3
        · exact .emptySlice a a'
      · simp at h
    · split at h
      · letI := symS S' G
        have : v' = .nilFunc := by
          letI := symS S G
          cases hv; rfl
        rw [this]
        exact .nilFunc
      · simp at h
    · split at h
      · letI := symS S' G
        have : v' = .nilIface := by
          letI := symS S G
          cases hv; rfl
        rw [this]
        exact .nilIface
      · simp at h
    · rename_i k xs us
      split at h
      · rename_i k' ys vs
        obtain ⟨g, h5⟩ := cond_some h
        clear h
        have e1 := Nat.eq_of_beq_eq_true g
        subst e1
        split at h5
        · rename_i a b h1 h2
          simp only [Option.some.injEq] at h5
          subst h5
          have : ∃ zs ws, v' = .func (.func k) zs ws ∧ (ys.size = zs.size ∧ ∀ j, j < ys.size → @VRel (symS S G) ι (ys.getD j undf) (zs.getD j undf)) ∧ (vs.size = ws.size ∧ ∀ j, j < vs.size → @VRel (symS S G) ι (vs.getD j undf) (ws.getD j undf)) := by
            letI := symS S G
            cases hv with
            | func _ q1 q2 q3 q4 => exact ⟨_, _, rfl, ⟨q1, q2⟩, q3, q4⟩
          obtain ⟨zs, ws, rfl, ⟨q1, q2⟩, q3, q4⟩ := this
          obtain ⟨r1, r2⟩ := mvalA_ok (fun v u asg => mval_ok f v u asg) h1 ha.left q1 q2
          obtain ⟨r3, r4⟩ := mvalA_ok (fun v u asg => mval_ok f v u asg) h2 ha.right q3 q4
          letI := symS S' G
          exact .func _ r1 r2 r3 r4
        · simp at h5
      · simp at h
    · rename_i t x
      split at h
      · rename_i t' y
        obtain ⟨g, h5⟩ := cond_some h
        clear h
        have e1 := Nat.eq_of_beq_eq_true g
        subst e1
        have : ∃ z, v' = .iface t z ∧ @VRel (symS S G) ι y z := by
          letI := symS S G
          cases hv with
          | iface _ q => exact ⟨_, rfl, q⟩
        obtain ⟨z, rfl, q⟩ := this
        have q2 := mval_ok f x y asg h5 ha z q
        letI := symS S' G
        exact .iface _ q2
      · simp at h
    · rename_i xs
      split at h
      · rename_i ys
        have : ∃ zs, v' = .agg zs ∧ ys.size = zs.size ∧ ∀ j, j < ys.size → @VRel (symS S G) ι (ys.getD j undf) (zs.getD j undf) := by
          letI := symS S G
          cases hv with
          | agg q1 q2 => exact ⟨_, rfl, q1, q2⟩
        obtain ⟨zs, rfl, q1, q2⟩ := this
        obtain ⟨r1, r2⟩ := mvalA_ok (fun v u asg => mval_ok f v u asg) h ha q1 q2
        letI := symS S' G
        exact .agg r1 r2
      · simp at h
    · rename_i xs
      split at h
      · rename_i ys
        have : ∃ zs, v' = .tuple zs ∧ ys.size = zs.size ∧ ∀ j, j < ys.size → @VRel (symS S G) ι (ys.getD j undf) (zs.getD j undf) := by
          letI := symS S G
          cases hv with
          | tuple q1 q2 => exact ⟨_, rfl, q1, q2⟩
        obtain ⟨zs, rfl, q1, q2⟩ := this
        obtain ⟨r1, r2⟩ := mvalA_ok (fun v u asg => mval_ok f v u asg) h ha q1 q2
        letI := symS S' G
        exact .tuple r1 r2
      · simp at h
    · simp at h
end
end Go.Ev
