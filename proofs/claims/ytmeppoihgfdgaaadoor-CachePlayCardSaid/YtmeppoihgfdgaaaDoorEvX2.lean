/-
  The evaluator: loops whose length is not known: frames and heaps as patterns; the rule; marks in code. Conditions: what is said of the rounds.
-/
import Derived.Test.YtmeppoihgfdgaaaDoorEvX
namespace Go.Ev
open Go.RowKit

/-! ### Frames and heaps as patterns -/
noncomputable def setAll {α : Type} : List (Nat × α) → T α → T α
  | [], t => t
  | (n, v) :: l, t => (setAll l t).set n (some v)
theorem setAll_get {α : Type} : ∀ (l : List (Nat × α)) (t : T α) (n : Nat), (∃ v, (n, v) ∈ l ∧ (setAll l t).get n = some v) ∨ (setAll l t).get n = t.get n
  | [], t, n => .inr rfl
  | (m, v) :: l, t, n => by
    simp only [setAll, T.get_set]
    by_cases h : n = m
    · subst h
      rw [if_pos rfl]
      exact .inl ⟨v, List.mem_cons_self, rfl⟩
    · rw [if_neg h]
      rcases setAll_get l t n with ⟨u, h1, h2⟩ | h1
      · exact .inl ⟨u, List.mem_cons_of_mem _ h1, h2⟩
      · exact .inr h1

structure Pat where
  size : Nat
  N : Nat
  fr : List (Nat × Value)
  hp : List (Nat × Blk)
noncomputable def Pat.A (X : Pat) : Fr := { size := X.size, m := setAll X.fr (T.ofL (List.replicate X.size P0) 0 .leaf), opn := true }
noncomputable def Pat.H (P : Program) (X : Pat) : Heap := { base := P.globals.size, next := X.N, m := setAll X.hp .leaf }
theorem Pat.A_get (X : Pat) (t : Nat) : (∃ v, (t, v) ∈ X.fr ∧ X.A.get t = v) ∨ (t < X.size ∧ X.A.get t = P0) ∨ (X.size ≤ t ∧ X.A.get t = undf) := by
  unfold Fr.get Pat.A
  dsimp only
  rcases setAll_get X.fr (T.ofL (List.replicate X.size P0) 0 .leaf) t with ⟨v, h1, h2⟩ | h
  · exact .inl ⟨v, h1, by rw [h2]; rfl⟩
  · right
    rw [h, T.get_ofL]
    by_cases ht : t < X.size
    · left
      rw [if_pos (by simp; omega)]
      exact ⟨ht, by simp [ht]⟩
    · right
      rw [if_neg (by simp; omega)]
      exact ⟨by omega, rfl⟩

noncomputable def mFr (N : Nat) (r : Ren) (A : Fr) : List (Nat × Value) → Option Asg
  | [] => some []
  | (t, v) :: l => match mval N r 9 v (A.get t), mFr N r A l with
    | some a, some b => some (a ++ b)
    | _, _ => none
noncomputable def mCells (N : Nat) (r : Ren) (c c' : Cells) : Nat → Option Asg
  | 0 => some []
  | k + 1 => match mval N r 9 (c.get k) (c'.get k), mCells N r c c' k with
    | some a, some b => some (a ++ b)
    | _, _ => none
/-- A row's arrays against those of another one. -/
noncomputable def mCols : List (Option IntKind × ACode) → List (Option IntKind × ACode) → Option Asg
  | [], [] => some []
  | (k, .var f) :: l, (k', a) :: l' => cond (kEq k k') (match mCols l l' with
    | some x => some ((f, .arr a) :: x)
    | none => none) none
  | _, _ => none
/-- An array of a column of cells: each n-th one from m on. -/
noncomputable def upCol (c : Cells) (k : Option IntKind) (n m : Nat) : Nat → Option ACode
  | 0 => some .zero
  | i + 1 => match vcode (c.get (i * n + m)), upCol c k n m i with
    | some cv, some a => cond (codeK k cv) (some (.upd a (lit .i64 i) cv)) none
    | _, _ => none
noncomputable def mUps (c : Cells) (n l : Nat) : Nat → List (Option IntKind × ACode) → Option Asg
  | _, [] => some []
  | m, (k, .var f) :: r => match upCol c k n m l, mUps c n l (m + 1) r with
    | some a, some x => some ((f, .arr a) :: x)
    | _, _ => none
  | _, _ => none
noncomputable def mBlk (N : Nat) (rn : Ren) : Blk → Blk → Option Asg
  | .arr r, .arr r' => cond (Nat.beq r.elem r'.elem && Nat.beq (cT r.n) 0 && Nat.ble 1 r.cs.length) (match mCols r.cs r'.cs with
    | some x => some ((cN r.n, .num r'.n) :: x)
    | none => none) none
  | .arr r, .cells c => cond (Nat.beq r.elem c.elem && Nat.beq (cT r.n) 0 && Nat.ble 1 r.cs.length && Nat.beq c.esz r.cs.length && Nat.beq (c.size / r.cs.length * r.cs.length) c.size) (match mUps c r.cs.length (c.size / r.cs.length) 0 r.cs with
    | some x => some ((cN r.n, .num (lit .i64 (Int.ofNat (c.size / r.cs.length)))) :: x)
    | none => none) none
  | .cells c, .cells c' => cond (Nat.beq c.size c'.size && Nat.beq c.elem c'.elem && (c.opn == c'.opn) && Nat.beq c.esz c'.esz) (mCells N rn c c' c.size) none
  | _, _ => none
/-- A block of a variable: what it holds is known of the world; so its type is not looked at. -/
noncomputable def mGl (b b' : Blk) : Bool := match b, b' with
  | .cells c, .cells c' => Nat.beq c.size c'.size && Nat.beq c.esz c'.esz && !c'.opn
  | _, _ => false
noncomputable def mHp (base N : Nat) (r : Ren) (H : Heap) : List (Nat × Blk) → Option Asg
  | [] => some []
  | (n, b) :: l => match H.get (rho r n) with
    | some b' => cond (Nat.ble (n + 1) N) (cond (Nat.ble (n + 1) base) (cond (mGl b b') (mHp base N r H l) none) (match mBlk N r b b', mHp base N r H l with
      | some a, some b => some (a ++ b)
      | _, _ => none)) none
    | none => none
/-- The blocks of variables. -/
noncomputable def glB (gs : Gs) : List (Nat × Blk) := gs.map fun x => (x.1, .cells (mkCells x.2.1 x.2.2))
/-- Blocks of variables in a pattern hold what is known of them. -/
def GlOk (P : Program) (gs : Gs) (X : Pat) : Prop := ∀ n b, (n, b) ∈ X.hp → n < P.globals.size → ∃ x ∈ gs, n = x.1 ∧ b = .cells (mkCells x.2.1 x.2.2)
theorem GlOk.free {P : Program} {gs : Gs} {X : Pat} (h : (X.hp.all fun p => Nat.ble P.globals.size p.1) = true) : GlOk P gs X := fun n b hm hn => by
  have := List.all_eq_true.1 h (n, b) hm
  have := Nat.le_of_ble_eq_true this
  exact absurd hn (Nat.not_lt.2 this)
theorem GlOk.of {P : Program} {gs : Gs} {X : Pat} (h : X.hp = glB gs ++ X.hp.drop gs.length) (hr : ((X.hp.drop gs.length).all fun p => Nat.ble P.globals.size p.1) = true) : GlOk P gs X := fun n b hm hn => by
  rw [h] at hm
  rcases List.mem_append.1 hm with hm | hm
  · obtain ⟨x, hx, e⟩ := List.mem_map.1 hm
    cases e
    exact ⟨x, hx, rfl, rfl⟩
  · have := List.all_eq_true.1 hr (n, b) hm
    exact absurd hn (Nat.not_lt.2 (Nat.le_of_ble_eq_true this))
/-- Are names that are met all different? -/
def freshB (r : Ren) (m : Nat) : List (Nat × Blk) → Bool
  | [] => true
  | p :: l => !Nat.beq (rho r p.1) m && freshB r m l
def distB (r : Ren) : List (Nat × Blk) → Bool
  | [] => true
  | p :: l => freshB r (rho r p.1) l && distB r l
theorem freshB_ok {r : Ren} {m : Nat} : ∀ {l : List (Nat × Blk)}, freshB r m l = true → ∀ n b, (n, b) ∈ l → rho r n ≠ m
  | [], _, n, b, hm => by simp at hm
  | p :: l, h, n, b, hm => by
    simp only [freshB, Bool.and_eq_true, Bool.not_eq_true'] at h
    rcases List.mem_cons.1 hm with e | hm
    · subst e
      intro e
      have h1 := h.1
      rw [e] at h1
      simp at h1
    · exact freshB_ok h.2 n b hm
theorem distB_ok {r : Ren} : ∀ {l : List (Nat × Blk)}, distB r l = true → ∀ n m b c, (n, b) ∈ l → (m, c) ∈ l → rho r n = rho r m → n = m
  | [], _, n, m, b, c, hn, _, _ => by simp at hn
  | p :: l, h, n, m, b, c, hn, hm, e => by
    simp only [distB, Bool.and_eq_true] at h
    rcases List.mem_cons.1 hn with e1 | hn
    · rcases List.mem_cons.1 hm with e2 | hm
      · rw [← e2] at e1
        exact (Prod.mk.inj e1).1
      · subst e1
        exact absurd e.symm (freshB_ok h.1 m c (by assumption))
    · rcases List.mem_cons.1 hm with e2 | hm
      · subst e2
        exact absurd e (freshB_ok h.1 n b (by assumption))
      · exact distB_ok h.2 n m b c hn hm e
noncomputable def Pat.mat (X : Pat) (r : Ren) (base : Nat) (A : Fr) (H : Heap) : Option Asg :=
  cond (Nat.beq A.size X.size && Nat.beq H.base base && Nat.ble base X.N && distB r X.hp && (r.all fun p => Nat.ble base p.1) && r.all fun p => Nat.ble base p.2) (match mFr X.N r A X.fr, mHp base X.N r H X.hp with
    | some a, some b => some (a ++ b)
    | _, _ => none) none

section
variable {P : Program} {S S' : Sy} {G : Nat → Option Obj} {ι : Inj} {N : Nat} {rn : Ren}
theorem mval_P {u : Value} (hp : isP u = true) (f : Nat) (v : Value) : mval N rn f v u = none := by
  cases u <;> simp [isP] at hp
  cases f with
  | zero => rfl
  | succ f =>
    unfold mval
    split <;> first | rfl | (simp [vcode])
theorem mFr_ok {A : Fr} {a : Array Value} (hA : @FRel (symS S G) ι A a) : ∀ (l : List (Nat × Value)) (asg : Asg), mFr N rn A l = some asg → AsgOk S S' asg → ∀ t v, (t, v) ∈ l → @VRel (symS S' G) (cut rn ι N) v (a.getD t undf)
  | [], _, _, _, t, v, hm => by simp at hm
  | (t0, v0) :: l, asg, h, ha, t, v, hm => by
    simp only [mFr] at h
    split at h
    · rename_i x y h1 h2
      simp only [Option.some.injEq] at h
      subst h
      rcases List.mem_cons.1 hm with e | hm
      · obtain ⟨rfl, rfl⟩ := Prod.mk.inj e
        rcases hA.2 t with ⟨_, hp⟩ | hv
        · rw [mval_P hp] at h1; simp at h1
        · exact mval_ok 9 v (A.get t) x h1 ha.left _ hv
      · exact mFr_ok hA l y h2 ha.right t v hm
    · simp at h
theorem mCells_ok {c c' : Cells} : ∀ (n : Nat) (asg : Asg), mCells N rn c c' n = some asg → AsgOk S S' asg → ∀ k, k < n → ∀ v', @VRel (symS S G) ι (c'.get k) v' → @VRel (symS S' G) (cut rn ι N) (c.get k) v'
  | 0, _, _, _, k, hk => by omega
  | n + 1, asg, h, ha, k, hk => by
    simp only [mCells] at h
    split at h
    · rename_i x y h1 h2
      simp only [Option.some.injEq] at h
      subst h
      intro v' hv
      by_cases hkn : k = n
      · subst hkn
        exact mval_ok 9 _ _ x h1 ha.left v' hv
      · exact mCells_ok n y h2 ha.right k (by omega) v' hv
    · simp at h
theorem _root_.Go.Ev.AsgOk.tail {S S' : Sy} {p : Nat × Ac} {a : Asg} (h : AsgOk S S' (p :: a)) : AsgOk S S' a := ⟨h.1, fun q hq => h.2 q (List.mem_cons_of_mem _ hq)⟩
theorem mCols_ok : ∀ (l l' : List (Option IntKind × ACode)) (x : Asg), mCols l l' = some x → AsgOk S S' x → l.length = l'.length ∧ ∀ (m j : Nat), m < l'.length →
    (match l[m]? with
    | some (k, a) => (match aden S' a (j : Int) with
      | some n => some (kV k n)
      | none => none)
    | none => none) = (match l'[m]? with
    | some (k, a) => (match aden S a (j : Int) with
      | some n => some (kV k n)
      | none => none)
    | none => none)
  | [], [], _, _, _ => ⟨rfl, fun m j hm => by simp at hm⟩
  | (k, .var f) :: l, (k', a) :: l', x, h, ha => by
    simp only [mCols] at h
    obtain ⟨g, h2⟩ := cond_some h
    clear h
    obtain rfl := kEq_ok g
    split at h2
    · rename_i y hy
      simp only [Option.some.injEq] at h2
      subst h2
      obtain ⟨c1, c2⟩ := mCols_ok l l' y hy ha.tail
      refine ⟨by simp [c1], fun m j hm => ?_⟩
      cases m with
      | zero =>
        have e2 : ∀ j : Nat, aden S a j = some (S'.Φ f [(j : Int)]) := ha.2 (f, .arr a) List.mem_cons_self
        simp only [List.getElem?_cons_zero, e2 j]
        rfl
      | succ m =>
        simp only [List.getElem?_cons_succ]
        exact c2 m j (by simpa using hm)
    · simp at h2
  | [], _ :: _, _, h, _ => by simp [mCols] at h
  | (_, .var _) :: _, [], _, h, _ => by simp [mCols] at h
  | (_, .zero) :: _, _, _, h, _ => by simp [mCols] at h
  | (_, .upd ..) :: _, _, _, h, _ => by simp [mCols] at h
  | (_, .cat ..) :: _, _, _, h, _ => by simp [mCols] at h
theorem upCol_ok (c : Cells) (k : Option IntKind) (n m : Nat) (g : Nat → Value) : ∀ (l : Nat) (a : ACode), upCol c k n m l = some a → (∀ i, i < l → @VRel (symS S G) ι (c.get (i * n + m)) (g (i * n + m))) → (∀ j : Nat, ∃ y, aden S a (j : Int) = some y) ∧ ∀ i, i < l → ∃ y, aden S a (i : Int) = some y ∧ g (i * n + m) = kV k y
  | 0, a, h, _ => by
    simp only [upCol, Option.some.injEq] at h
    subst h
    exact ⟨fun j => ⟨0, rfl⟩, fun i hi => by omega⟩
  | l + 1, a, h, hv => by
    simp only [upCol] at h
    split at h
    · rename_i cv b h1 h2
      obtain ⟨gk, h⟩ := cond_some h
      simp only [Option.some.injEq] at h
      subst h
      obtain ⟨y, hy, ey⟩ := vcode_ok (hv l (by omega)) h1
      obtain ⟨c1, c2⟩ := upCol_ok c k n m g l b h2 fun i hi => hv i (by omega)
      refine ⟨fun j => ?_, fun i hi => ?_⟩
      · by_cases hjl : ((j : Nat) : Int) = (l : Int)
        · exact ⟨y, by simp only [aden, ev_lit, ey, hjl, if_true]⟩
        · obtain ⟨z, hz⟩ := c1 j
          exact ⟨z, by simp only [aden, ev_lit, ey, hjl, if_false, hz]⟩
      · by_cases hil : i = l
        · subst hil
          exact ⟨y, by simp only [aden, ev_lit, ey, if_true], by rw [hy, codeK_val gk]⟩
        · obtain ⟨z, e1, e2⟩ := c2 i (by omega)
          have hne : ¬ ((i : Nat) : Int) = (l : Int) := by omega
          exact ⟨z, by simp only [aden, ev_lit, ey, hne, if_false, e1], e2⟩
    · simp at h
theorem mUps_ok (c : Cells) (n l : Nat) (g : Nat → Value) (hv : ∀ j, j < l * n → @VRel (symS S G) ι (c.get j) (g j)) : ∀ (r : List (Option IntKind × ACode)) (m0 : Nat) (x : Asg), m0 + r.length ≤ n → mUps c n l m0 r = some x → AsgOk S S' x → ∀ m i, m < r.length → i < l →
    (match r[m]? with
    | some (k, a) => (match aden S' a (i : Int) with
      | some n => some (kV k n)
      | none => none)
    | none => none) = some (g (i * n + (m0 + m)))
  | [], _, _, _, _, _, m, i, hm, _ => by simp at hm
  | (k, .var f) :: r, m0, x, hn, h, ha, m, i, hm, hi => by
    simp only [List.length_cons] at hn
    simp only [mUps] at h
    split at h
    · rename_i a y h1 h2
      simp only [Option.some.injEq] at h
      subst h
      cases m with
      | zero =>
        obtain ⟨_, c2⟩ := upCol_ok (S := S) (G := G) (ι := ι) c k n m0 g l a h1 fun i hi => hv _ (by
          have := Nat.mul_le_mul_right n (show i + 1 ≤ l from hi)
          rw [Nat.add_mul, Nat.one_mul] at this
          omega)
        obtain ⟨z, e1, e2⟩ := c2 i hi
        have e3 : ∀ j : Nat, aden S a j = some (S'.Φ f [(j : Int)]) := ha.2 (f, .arr a) List.mem_cons_self
        rw [e3 i] at e1
        simp only [Option.some.injEq] at e1
        simp only [List.getElem?_cons_zero, Nat.add_zero]
        show (match aden S' (.var f) (i : Int) with | some n => some (kV k n) | none => none) = _
        rw [e2]
        simp only [aden, e1]
      | succ m =>
        have := mUps_ok c n l g hv r (m0 + 1) y (by omega) h2 ha.tail m i (by simpa using hm) hi
        rw [show m0 + 1 + m = m0 + (m + 1) by omega] at this
        simpa using this
    · simp at h
  | (_, .zero) :: _, _, _, _, h, _, _, _, _, _ => by simp [mUps] at h
  | (_, .upd ..) :: _, _, _, _, h, _, _, _, _, _ => by simp [mUps] at h
  | (_, .cat ..) :: _, _, _, _, h, _, _, _, _, _ => by simp [mUps] at h
theorem mBlk_ok {b b' : Blk} {asg : Asg} (h : mBlk N rn b b' = some asg) (ha : AsgOk S S' asg) {i : Info} {o : Obj} (hr : @BRel (symS S G) ι i o b') : @BRel (symS S' G) (cut rn ι N) i o b := by
  unfold mBlk at h
  split at h
  · rename_i r r'
    obtain ⟨g, h⟩ := cond_some h
    simp only [Bool.and_eq_true] at g
    obtain ⟨⟨g1, g2⟩, g3⟩ := g
    have g1 := Nat.eq_of_beq_eq_true g1
    have g2 := Nat.eq_of_beq_eq_true g2
    have g3 := Nat.le_of_ble_eq_true g3
    split at h
    · rename_i x hx
      simp only [Option.some.injEq] at h
      subst h
      have e1 : ev S r'.n = some [S'.ρ (cN r.n)] := ha.2 (cN r.n, .num r'.n) List.mem_cons_self
      have e3 : ev S' r.n = some [S'.ρ (cN r.n)] := by rw [ev, if_pos g2]
      obtain ⟨c1, c2⟩ := mCols_ok r.cs r'.cs x hx ha.tail
      have hr' : @NRel (symS S G) i o r' := hr
      obtain ⟨⟨h1, h2⟩, cs, n, rfl, h3, h4, h5, h6⟩ := hr'
      show @NRel (symS S' G) i _ r
      letI := symS S' G
      refine ⟨⟨h1.trans c1.symm, by omega⟩, cs, n, by rw [g1], ?_, h4, by rw [c1]; exact h5, fun j hj => ?_⟩
      · have h3' : (match ev S r'.n with | some [n] => some n.toNat | _ => none) = some n := h3
        show (match ev S' r.n with | some [n] => some n.toNat | _ => none) = some n
        rw [e1] at h3'
        rw [e3]
        exact h3'
      · rw [c1] at hj
        obtain ⟨v, q1, q2⟩ := h6 j hj
        refine ⟨v, ?_, q2⟩
        show acol S' r.cs j = some v
        rw [← (show acol S r'.cs j = some v from q1)]
        unfold acol
        rw [c1]
        exact c2 _ _ (Nat.mod_lt _ h2)
    · simp at h
  · rename_i r c
    obtain ⟨g, h⟩ := cond_some h
    simp only [Bool.and_eq_true] at g
    obtain ⟨⟨⟨⟨g1, g2⟩, g3⟩, g4⟩, g5⟩ := g
    have g1 := Nat.eq_of_beq_eq_true g1
    have g2 := Nat.eq_of_beq_eq_true g2
    have g3 := Nat.le_of_ble_eq_true g3
    have g4 := Nat.eq_of_beq_eq_true g4
    have g5 := Nat.eq_of_beq_eq_true g5
    split at h
    · rename_i x hx
      simp only [Option.some.injEq] at h
      subst h
      have e1 : ev S (lit .i64 (Int.ofNat (c.size / r.cs.length))) = some [S'.ρ (cN r.n)] := ha.2 (cN r.n, .num _) List.mem_cons_self
      have e3 : ev S' r.n = some [S'.ρ (cN r.n)] := by rw [ev, if_pos g2]
      rw [ev_lit] at e1
      simp only [Option.some.injEq, List.cons.injEq, and_true] at e1
      obtain ⟨⟨q1, q2, q3⟩, cs, rfl, q5, q6, q7⟩ := (show @CRel (symS S G) ι i o c from hr)
      show @NRel (symS S' G) i _ r
      letI := symS S' G
      refine ⟨⟨q2.trans g4, g3⟩, cs, c.size / r.cs.length, by rw [g1], ?_, by rw [q1]; exact q5, by rw [g5]; omega, fun j hj => ?_⟩
      · show (match ev S' r.n with | some [n] => some n.toNat | _ => none) = some _
        rw [e3, ← e1]
        rfl
      · rw [g5] at hj
        have hm : j % r.cs.length < r.cs.length := Nat.mod_lt _ g3
        have hd : j / r.cs.length < c.size / r.cs.length := by
          refine Nat.div_lt_of_lt_mul ?_
          rw [Nat.mul_comm, g5]
          exact hj
        have hj2 : (j / r.cs.length) * r.cs.length + j % r.cs.length = j := by rw [Nat.mul_comm]; exact Nat.div_add_mod _ _
        have u1 := mUps_ok (S := S) (S' := S') (G := G) (ι := ι) c r.cs.length (c.size / r.cs.length) (fun j => cs.getD (i.off + j) undf) (fun j hj => q7 j (by rw [g5] at hj; exact hj)) r.cs 0 x (by omega) hx ha.tail (j % r.cs.length) (j / r.cs.length) hm hd
        rw [Nat.zero_add, hj2] at u1
        refine ⟨_, u1, ?_⟩
        have hlt : i.off + j < cs.size := by omega
        simp [hlt]
    · simp at h
  · rename_i c c'
    obtain ⟨g, h⟩ := cond_some h
    simp only [Bool.and_eq_true] at g
    obtain ⟨⟨⟨g1, g2⟩, g3⟩, g4⟩ := g
    have e1 := Nat.eq_of_beq_eq_true g1
    have e2 := Nat.eq_of_beq_eq_true g2
    have e3 := eq_of_beq g3
    have e4 := Nat.eq_of_beq_eq_true g4
    obtain ⟨⟨q1, q2, q3⟩, cs, q4, q5, q6, q7⟩ := hr
    refine ⟨⟨q1.trans e1.symm, q2.trans e4.symm, by rw [e4]; exact q3⟩, cs, by rw [e2]; exact q4, by rw [e1]; exact q5, fun ho => ?_, fun k hk => mCells_ok c.size asg h ha k hk _ (q7 k (by rw [← e1]; exact hk))⟩
    obtain ⟨r1, r2, r3⟩ := q6 (e3 ▸ ho)
    exact ⟨r1, r2, by rw [e1]; exact r3⟩
  · simp at h
theorem mGl_ok {gs : Gs} {w : World} (hG : GOk P gs w) {n : Nat} {b b' : Blk} (hn : n < P.globals.size) (hX : ∃ x ∈ gs, n = x.1 ∧ b = .cells (mkCells x.2.1 x.2.2)) (h : mGl b b' = true) {i : Info} {o : Obj} (hi : i.blk = n) (ho : w.heap[i.blk]? = some o)
    (hr : @BRel (symS S G) ι i o b') : @BRel (symS S' G) (cut rn ι N) i o b := by
  obtain ⟨x, hx, rfl, rfl⟩ := hX
  cases b' with
  | cells c' =>
    simp only [mGl, Bool.and_eq_true, Bool.not_eq_true'] at h
    obtain ⟨⟨h1, h2⟩, h3⟩ := h
    have e1 := Nat.eq_of_beq_eq_true h1
    have e2 := Nat.eq_of_beq_eq_true h2
    obtain ⟨⟨q1, q2, q3⟩, cs, q4, q5, q6, _⟩ := hr
    obtain ⟨r1, r2, r3⟩ := q6 h3
    have hh := (hG.has x hx).2
    rw [hi] at ho
    rw [ho] at hh
    have ho2 := Option.some.inj hh
    rw [q4] at ho2
    obtain ⟨e0, e3⟩ : cs = x.2.1 ∧ c'.elem = x.2.2 := by injection ho2 with a b; exact ⟨a, b⟩
    subst e0
    refine ⟨⟨q1.trans e1.symm, q2.trans e2.symm, Nat.one_pos⟩, x.2.1, by rw [q4, e3]; rfl, by rw [r1, r2]; simp [mkCells], fun _ => ⟨r1, r2, rfl⟩, fun k hk => ?_⟩
    have hk' : k < x.2.1.size := hk
    have hgr := hG.grd
    unfold gsGround at hgr
    rw [List.all_eq_true] at hgr
    letI := symS S' G
    rw [mkCells_get _ _ _ hk', r2, Nat.zero_add]
    exact (ground_arr (ι := cut rn ι N) (hgr x hx)).2 k hk'
  | _ => simp [mGl] at h
theorem mHp_ok {gs : Gs} {H : Heap} {w : World} (hG : GOk P gs w) (hw : @Rel (symS S G) P ι H w) (g5 : (rn.all fun p => Nat.ble P.globals.size p.1) = true) : ∀ (l : List (Nat × Blk)), (∀ n b, (n, b) ∈ l → n < P.globals.size → ∃ x ∈ gs, n = x.1 ∧ b = .cells (mkCells x.2.1 x.2.2)) → ∀ (asg : Asg), mHp P.globals.size N rn H l = some asg → AsgOk S S' asg → ∀ n b, (n, b) ∈ l →
    n < N ∧ (∃ b', H.get (rho rn n) = some b') ∧ ∃ i o, cut rn ι N n = some i ∧ w.heap[i.blk]? = some o ∧ @BRel (symS S' G) (cut rn ι N) i o b
  | [], _, _, _, _, n, b, hm => by simp at hm
  | (n0, b0) :: l, hX, asg, h, ha, n, b, hm => by
    have hX' : ∀ n b, (n, b) ∈ l → n < P.globals.size → ∃ x ∈ gs, n = x.1 ∧ b = .cells (mkCells x.2.1 x.2.2) := fun n b hm hn => hX n b (List.mem_cons_of_mem _ hm) hn
    simp only [mHp] at h
    split at h
    · rename_i b' hb'
      obtain ⟨g, h⟩ := cond_some h
      have hlt : n0 < N := Nat.le_of_ble_eq_true g
      cases hgl : Nat.ble (n0 + 1) P.globals.size with
      | true =>
        rw [hgl, cond_true] at h
        obtain ⟨g', h⟩ := cond_some h
        have hn0 : n0 < P.globals.size := Nat.le_of_ble_eq_true hgl
        rcases List.mem_cons.1 hm with e | hm
        · obtain ⟨rfl, rfl⟩ := Prod.mk.inj e
          letI := symS S G
          rw [rho_low g5 hn0] at hb'
          obtain ⟨i, o, q1, q2, q3⟩ := hw.live _ b' hb'
          obtain ⟨i', p1, p2, _⟩ := hw.glob n (by rw [hw.gsize]; exact hn0)
          obtain rfl : i = i' := Option.some.inj (q1.symm.trans p1)
          exact ⟨hlt, ⟨b', by rw [rho_low g5 hn0]; exact hb'⟩, i, o, cut_of (by rw [rho_low g5 hn0]; exact q1) hlt, q2, mGl_ok hG hn0 (hX n b List.mem_cons_self hn0) g' p2 q2 q3⟩
        · exact mHp_ok hG hw g5 l hX' asg h ha n b hm
      | false =>
        rw [hgl, cond_false] at h
        split at h
        · rename_i x y h1 h2
          simp only [Option.some.injEq] at h
          subst h
          rcases List.mem_cons.1 hm with e | hm
          · obtain ⟨rfl, rfl⟩ := Prod.mk.inj e
            letI := symS S G
            obtain ⟨i, o, q1, q2, q3⟩ := hw.live _ b' hb'
            exact ⟨hlt, ⟨b', hb'⟩, i, o, cut_of q1 hlt, q2, mBlk_ok h1 ha.left q3⟩
          · exact mHp_ok hG hw g5 l hX' y h2 ha.right n b hm
        · simp at h
    · simp at h

theorem Pat.mat_ok {gs : Gs} {X : Pat} (hX : GlOk P gs X) {A : Fr} {H : Heap} {asg : Asg} (h : X.mat rn P.globals.size A H = some asg) (ha : AsgOk S S' asg) {w : World} (hG : GOk P gs w) {a : Array Value} (hw : @Rel (symS S G) P ι H w) (hA : @FRel (symS S G) ι A a) :
    @Rel (symS S' G) P (cut rn ι X.N) (X.H P) w ∧ @FRel (symS S' G) (cut rn ι X.N) X.A a := by
  letI := symS S G
  unfold Pat.mat at h
  obtain ⟨g, h⟩ := cond_some h
  simp only [Bool.and_eq_true] at g
  obtain ⟨⟨⟨⟨⟨g1, g2⟩, g3⟩, g4⟩, g5⟩, g6⟩ := g
  have e1 := Nat.eq_of_beq_eq_true g1
  have e2 := Nat.eq_of_beq_eq_true g2
  have e3 := Nat.le_of_ble_eq_true g3
  split at h
  · rename_i x y h1 h2
    simp only [Option.some.injEq] at h
    subst h
    have hget : ∀ n b, (X.H P).get n = some b → (n, b) ∈ X.hp := by
      intro n b hb
      rcases setAll_get X.hp .leaf n with ⟨v, q1, q2⟩ | q
      · have : some b = some v := by rw [← hb]; exact q2
        cases this
        exact q1
      · have : (X.H P).get n = none := q
        rw [this] at hb
        simp at hb
    have hroom : P.globals.size ≤ w.heap.size := by have := hw.room; rw [e2] at this; exact this
    refine ⟨@Rel.mk (symS S' G) P (cut rn ι X.N) (X.H P) w ⟨hw.glb.1, fun b o hb => hw.glb.2 b o (show inpL S.I b = some o by rw [← ha.1]; exact hb)⟩ rfl (fun n hn => ?_) (fun n i hn hb => ?_) e3 hroom (fun n hn => ?_) (fun n hn => ?_) (fun n i hn => hw.below _ i (cut_some hn).2) (fun n b hb => ?_) (fun n m b c i j hn hm hi hj e => ?_), ?_⟩
    · have hn' : n < P.globals.size := hn
      obtain ⟨i, q1, q2⟩ := hw.glob n (by rw [e2]; exact hn')
      exact ⟨i, cut_of (by rw [rho_low g5 hn']; exact q1) (by omega), q2⟩
    · have := hw.over _ i (cut_some hn).2 (by rw [e2]; exact rho_ge g6 hb)
      rw [e2] at this
      exact ⟨this.1, by show inpL S'.I i.blk = none; rw [ha.1]; exact this.2⟩
    · have hn' : X.N ≤ n := hn
      unfold cut
      rw [if_neg (by omega)]
    · have hn' : n ∈ ([] : List Nat) := hn
      simp at hn'
    · obtain ⟨_, _, q⟩ := mHp_ok hG hw g5 X.hp hX y h2 ha.right n b (hget n b hb)
      exact q
    · obtain ⟨_, ⟨b1, q1⟩, _⟩ := mHp_ok hG hw g5 X.hp hX y h2 ha.right n b (hget n b hn)
      obtain ⟨_, ⟨b2, q2⟩, _⟩ := mHp_ok hG hw g5 X.hp hX y h2 ha.right m c (hget m c hm)
      exact distB_ok g4 n m b c (hget n b hn) (hget m c hm) (hw.inj _ _ b1 b2 i j q1 q2 (cut_some hi).2 (cut_some hj).2 e)
    · refine ⟨hA.1.trans e1, fun t => ?_⟩
      rcases X.A_get t with ⟨v, q1, q2⟩ | ⟨_, q⟩ | ⟨q1, q2⟩
      · rw [q2]
        exact .inr (mFr_ok hA X.fr x h1 ha.left t v q1)
      · rw [q]
        exact .inl ⟨rfl, rfl⟩
      · rw [q2]
        right
        have hs : a.size = X.size := hA.1.trans e1
        have : a.getD t undf = undf := by simp [show ¬ t < a.size by omega]
        rw [this]
        letI := symS S' G
        exact VRel.undf
  · simp at h

theorem Ext.cut {K : Nat} {ι0 ι1 : Inj} {w0 w1 : World} (h : Ext P ι0 w0 ι1 w1) (hK : (rn.all fun p => Nat.ble K p.1) = true) (hb : (rn.all fun p => Nat.ble P.globals.size p.2) = true) (hKN : K ≤ N) (hn : ∀ n i, ι0 n = some i → n < K) : Ext P ι0 w0 (Ev.cut rn ι1 N) w1 :=
  ⟨fun n i hi => cut_of (by rw [rho_low hK (hn n i hi)]; exact h.sub n i hi) (Nat.lt_of_lt_of_le (hn n i hi) hKN), h.size, fun n i hi hg => h.img _ i (cut_some hi).2 (rho_ge hb hg), h.keep, h.froz, h.tape, h.os, h.output⟩
end

/-! ### The rule -/
/-- What a round comes to: from pattern to pattern; names from K on may be others. -/
noncomputable def rOutR (K : Nat) (rn : Ren) (X F : Pat) (base : Nat) : Option (Out × Heap) → Option (Option AExit × Asg)
  | some (.exit .normal A, H) => cond (rn.all fun p => Nat.ble K p.1) (match X.mat rn base A H with
    | some a => some (none, a)
    | none => none) none
  | some (.exit e A, H) => cond (rn.all fun p => Nat.ble K p.1) (match F.mat rn base A H with
    | some a => some (some e, a)
    | none => none) none
  | _ => none
theorem rOut_none {K : Nat} {rn : Ren} {X F : Pat} {base : Nat} {r : Option (Out × Heap)} {a : Asg} (h : rOutR K rn X F base r = some (none, a)) : ∃ A H, r = some (.exit .normal A, H) ∧ X.mat rn base A H = some a ∧ (rn.all fun p => Nat.ble K p.1) = true := by
  unfold rOutR at h
  split at h
  · rename_i A H
    obtain ⟨g, h⟩ := cond_some h
    split at h
    · rename_i b hb
      simp only [Option.some.injEq, Prod.mk.injEq, true_and] at h
      subst h
      exact ⟨A, H, rfl, hb, g⟩
    · simp at h
  · obtain ⟨g, h⟩ := cond_some h
    split at h <;> simp at h
  · simp at h
theorem rOut_some {K : Nat} {rn : Ren} {X F : Pat} {base : Nat} {r : Option (Out × Heap)} {e : AExit} {a : Asg} (h : rOutR K rn X F base r = some (some e, a)) : ∃ A H, r = some (.exit e A, H) ∧ e ≠ .normal ∧ F.mat rn base A H = some a ∧ (rn.all fun p => Nat.ble K p.1) = true := by
  unfold rOutR at h
  split at h
  · obtain ⟨g, h⟩ := cond_some h
    split at h <;> simp at h
  · rename_i e1 A H hne
    obtain ⟨g, h⟩ := cond_some h
    split at h
    · rename_i b hb
      simp only [Option.some.injEq, Prod.mk.injEq] at h
      obtain ⟨rfl, rfl⟩ := h
      refine ⟨A, H, rfl, fun e => ?_, hb, g⟩
      exact hne e
    · simp at h
  · simp at h
/-- The same, no other names. -/
noncomputable def rOut (X F : Pat) (base : Nat) (r : Option (Out × Heap)) : Option (Option AExit × Asg) := rOutR 0 [] X F base r
theorem rOutR_nil (K : Nat) (X F : Pat) (base : Nat) (r : Option (Out × Heap)) : rOutR K [] X F base r = rOut X F base r := rfl

/-- A round, by a run with symbols: it comes to the pattern again, with less to do, or leaves. -/
def StepR (P : Program) (ft : Nat → Option Func) (Λ : Nat → Option Code) (gs : Gs) (c' : Code) (X F : Pat) (e : AExit) (K : Nat) (S : Sy) (Inv : Nat → Sy → Prop) (k : Nat) (S1 : Sy) : Prop :=
  ∃ al cs lk n asg rn, ∃ ha : AlOk S1 al, (∀ c ∈ cs, CtrOk P S1 gs c) ∧ LkOk P S1 gs Λ lk ∧
    ((∃ k' S2, k = k' + 1 ∧ Inv k' S2 ∧ AsgOk S1 S2 asg ∧ ∀ G, rOutR K rn X F P.globals.size (runM P Λ lk ft ha cs G n (.code c' X.A) (X.H P)) = some (none, asg)) ∨
     (AsgOk S1 S asg ∧ ∀ G, rOutR K rn X F P.globals.size (runM P Λ lk ft ha cs G n (.code c' X.A) (X.H P)) = some (some e, asg)))
def Step (P : Program) (ft : Nat → Option Func) (Λ : Nat → Option Code) (gs : Gs) (c' : Code) (X F : Pat) (e : AExit) (S : Sy) (Inv : Nat → Sy → Prop) (k : Nat) (S1 : Sy) : Prop :=
  ∃ al cs lk n asg, ∃ ha : AlOk S1 al, (∀ c ∈ cs, CtrOk P S1 gs c) ∧ LkOk P S1 gs Λ lk ∧
    ((∃ k' S2, k = k' + 1 ∧ Inv k' S2 ∧ AsgOk S1 S2 asg ∧ ∀ G, rOut X F P.globals.size (runM P Λ lk ft ha cs G n (.code c' X.A) (X.H P)) = some (none, asg)) ∨
     (AsgOk S1 S asg ∧ ∀ G, rOut X F P.globals.size (runM P Λ lk ft ha cs G n (.code c' X.A) (X.H P)) = some (some e, asg)))
theorem Step.gen {P : Program} {ft : Nat → Option Func} {Λ : Nat → Option Code} {gs : Gs} {c' : Code} {X F : Pat} {e : AExit} {K : Nat} {S : Sy} {Inv : Nat → Sy → Prop} {k : Nat} {S1 : Sy} (h : Step P ft Λ gs c' X F e S Inv k S1) : StepR P ft Λ gs c' X F e K S Inv k S1 := by
  obtain ⟨al, cs, lk, n, asg, ha, h1, h2, h3⟩ := h
  exact ⟨al, cs, lk, n, asg, [], ha, h1, h2, h3⟩

def LkAt (P : Program) (S : Sy) (gs : Gs) (c : Code) (lk : Fr → Heap → Option (AExit × Fr × Heap)) : Prop :=
  ∀ G : Nat → Option Obj, (∀ w : World, P.globals.size ≤ w.heap.size → (∀ b, b < P.globals.size → w.heap[b]? = G b) → GOk P gs w) →
    ∀ A H e A' H', lk A H = some (e, A', H') → ∀ ι a w, @Rel (symS S G) P ι H w → @FRel (symS S G) ι A a.tmps → c.wp P (@PostC (symS S G) P ι w a e A' H') a w

def aEq : ACode → ACode → Bool
  | .var f, .var g => Nat.beq f g
  | .zero, .zero => true
  | .upd a i v, .upd b j w => aEq a b && Nat.beq i j && Nat.beq v w
  | .cat a n b, .cat c m d => aEq a c && Nat.beq n m && aEq b d
  | _, _ => false
theorem aEq_ok : ∀ {a b : ACode}, aEq a b = true → a = b
  | .var f, .var g, h => by rw [Nat.eq_of_beq_eq_true (show Nat.beq f g = true from h)]
  | .zero, .zero, _ => rfl
  | .upd a i v, .upd b j w, h => by
    simp only [aEq, Bool.and_eq_true] at h
    rw [aEq_ok h.1.1, Nat.eq_of_beq_eq_true h.1.2, Nat.eq_of_beq_eq_true h.2]
  | .cat a n b, .cat c m d, h => by
    simp only [aEq, Bool.and_eq_true] at h
    rw [aEq_ok h.1.1, Nat.eq_of_beq_eq_true h.1.2, aEq_ok h.2]
  | .var _, .zero, h => by simp [aEq] at h
  | .var _, .upd .., h => by simp [aEq] at h
  | .var _, .cat .., h => by simp [aEq] at h
  | .zero, .var _, h => by simp [aEq] at h
  | .zero, .upd .., h => by simp [aEq] at h
  | .zero, .cat .., h => by simp [aEq] at h
  | .upd .., .var _, h => by simp [aEq] at h
  | .upd .., .zero, h => by simp [aEq] at h
  | .upd .., .cat .., h => by simp [aEq] at h
  | .cat .., .var _, h => by simp [aEq] at h
  | .cat .., .zero, h => by simp [aEq] at h
  | .cat .., .upd .., h => by simp [aEq] at h
def cEq : Ac → Ac → Bool
  | .num c, .num d => Nat.beq c d
  | .arr a, .arr b => aEq a b
  | _, _ => false
theorem cEq_ok : ∀ {a b : Ac}, cEq a b = true → a = b
  | .num c, .num d, h => by rw [Nat.eq_of_beq_eq_true (show Nat.beq c d = true from h)]
  | .arr a, .arr b, h => by rw [aEq_ok (show aEq a b = true from h)]
  | .num _, .arr _, h => by simp [cEq] at h
  | .arr _, .num _, h => by simp [cEq] at h
def asgEq : Asg → Asg → Bool
  | [], [] => true
  | p :: l, q :: m => Nat.beq p.1 q.1 && cEq p.2 q.2 && asgEq l m
  | _, _ => false
theorem asgEq_ok : ∀ {l m : Asg}, asgEq l m = true → l = m
  | [], [], _ => rfl
  | p :: l, q :: m, h => by
    simp only [asgEq, Bool.and_eq_true] at h
    obtain ⟨⟨h1, h2⟩, h3⟩ := h
    have e1 := Nat.eq_of_beq_eq_true h1
    have e2 := cEq_ok h2
    rw [asgEq_ok h3]
    cases p; cases q
    simp_all
  | [], _ :: _, h => by simp [asgEq] at h
  | _ :: _, [], h => by simp [asgEq] at h
/-- What a marked loop comes to: found as the pattern, left as the other one. -/
noncomputable def lkLoopR (P : Program) (K : Nat) (rn : Ren) (X F : Pat) (e : AExit) (asg0 : Asg) (A : Fr) (H : Heap) : Option (AExit × Fr × Heap) :=
  match X.mat rn P.globals.size A H with
  | some a => cond (asgEq a asg0 && Nat.ble H.next K && (rn.all fun p => Nat.ble K p.1)) (some (e, F.A, F.H P)) none
  | none => none
noncomputable def lkLoop (P : Program) (X F : Pat) (e : AExit) (asg0 : Asg) (A : Fr) (H : Heap) : Option (AExit × Fr × Heap) := lkLoopR P X.N [] X F e asg0 A H

theorem mat_base {X : Pat} {rn : Ren} {base : Nat} {A : Fr} {H : Heap} {asg : Asg} (h : X.mat rn base A H = some asg) : (rn.all fun p => Nat.ble base p.2) = true := by
  unfold Pat.mat at h
  obtain ⟨g, _⟩ := cond_some h
  simp only [Bool.and_eq_true] at g
  exact g.2
theorem loop_okR {P : Program} [NoFloat P] {ft : Nat → Option Func} {Λ : Nat → Option Code} (hE : @EnvOk ⟨Λ⟩ P ft) {gs : Gs} {S : Sy} {c c' : Code} (hann : @Ann ⟨Λ⟩ c' c) (hf : fineC P.globals.size c = true) {X F : Pat} (hN : X.N = F.N) {e : AExit} {K : Nat} (hKN : K ≤ X.N) {rn : Ren}
    {Inv : Nat → Sy → Prop} (step : ∀ k S1, Inv k S1 → StepR P ft Λ gs c' X F e K S Inv k S1) {asg0 : Asg} {k0 : Nat} {S0 : Sy} (h0 : Inv k0 S0) (ha0 : AsgOk S S0 asg0)
    (hX : GlOk P gs X := by exact GlOk.free (by kernel_rfl)) (hF : GlOk P gs F := by exact GlOk.free (by kernel_rfl)) : LkAt P S gs (.loop c) (lkLoopR P K rn X F e asg0) := by
  intro G hG A H e' A' H' hlk ι a w hw hA
  unfold lkLoopR at hlk
  split at hlk
  case h_2 => simp at hlk
  rename_i asg hmat
  obtain ⟨g, hlk'⟩ := cond_some hlk
  clear hlk
  simp only [Bool.and_eq_true] at g
  obtain ⟨⟨g1, g2⟩, g3⟩ := g
  have e1 := asgEq_ok g1
  subst e1
  have hnx := Nat.le_of_ble_eq_true g2
  simp only [Option.some.injEq, Prod.mk.injEq] at hlk'
  obtain ⟨rfl, rfl, rfl⟩ := hlk'
  have gok : ∀ (S2 : Sy) (ι2 : Inj) (H2 : Heap) (w2 : World), @Rel (symS S2 G) P ι2 H2 w2 → GOk P gs w2 := fun S2 ι2 H2 w2 h => hG w2 (by letI := symS S2 G; have := h.room; rw [h.gsize] at this; exact this) (by letI := symS S2 G; exact h.glb.1)
  obtain ⟨r0, f0⟩ := Pat.mat_ok hX hmat ha0 (gok _ _ _ _ hw) hw hA
  have hb0 := mat_base hmat
  letI := symS S G
  have hdom : ∀ n i, ι n = some i → n < K := fun n i hi => by
    rcases Nat.lt_or_ge n K with h | h
    · exact h
    · rw [hw.fresh n (Nat.le_trans hnx h)] at hi; simp at hi
  have key : ∀ k S1, Inv k S1 → ∀ ι1 a1 w1, @Rel (symS S1 G) P ι1 (X.H P) w1 → @FRel (symS S1 G) ι1 X.A a1.tmps → Ext P ι w ι1 w1 → a1.defers = a.defers →
      Code.rounds P c (@PostC (symS S G) P ι w a e (F.A) (F.H P)) (k + 1) a1 w1 := by
    intro k
    induction k with
    | zero =>
      intro S1 hi ι1 a1 w1 hw1 hA1 hx hd
      obtain ⟨al, cs, lk, n, asg, rn, ha, hcs, hl, hor⟩ := step 0 S1 hi
      rcases hor with ⟨k', S2, hk, _⟩ | ⟨hasg, hrun⟩
      · omega
      · obtain ⟨A2, H2, hr, hne, hm, hq⟩ := rOut_some (hrun G)
        rw [rounds_succ]
        refine wp_mono (symCode hE ha hcs hl hann hf hG hr hw1 hA1) fun ex a2 w2 hp => ?_
        obtain ⟨ι2, rfl, x2, r2, f2, d2⟩ := hp
        obtain ⟨r3, f3⟩ := Pat.mat_ok hF hm hasg (gok _ _ _ _ r2) r2 f2
        have hd' := d2.trans hd
        have hx' : Ext P ι w (cut rn ι2 F.N) w2 := Ext.cut (hx.trans x2) hq (mat_base hm) (by rw [← hN]; exact hKN) hdom
        cases e <;> first | exact absurd rfl hne | exact ⟨_, rfl, hx', r3, f3, hd'⟩
    | succ k ihk =>
      intro S1 hi ι1 a1 w1 hw1 hA1 hx hd
      obtain ⟨al, cs, lk, n, asg, rn, ha, hcs, hl, hor⟩ := step (k + 1) S1 hi
      rcases hor with ⟨k', S2, hk, hi2, hasg, hrun⟩ | ⟨hasg, hrun⟩
      · have hk' : k' = k := by omega
        subst hk'
        obtain ⟨A2, H2, hr, hm, hq⟩ := rOut_none (hrun G)
        rw [rounds_succ]
        refine wp_mono (symCode hE ha hcs hl hann hf hG hr hw1 hA1) fun ex a2 w2 hp => ?_
        obtain ⟨ι2, rfl, x2, r2, f2, d2⟩ := hp
        obtain ⟨r3, f3⟩ := Pat.mat_ok hX hm hasg (gok _ _ _ _ r2) r2 f2
        exact ihk S2 hi2 (cut rn ι2 X.N) a2 w2 r3 f3 (Ext.cut (hx.trans x2) hq (mat_base hm) hKN hdom) (d2.trans hd)
      · obtain ⟨A2, H2, hr, hne, hm, hq⟩ := rOut_some (hrun G)
        rw [rounds_succ]
        refine wp_mono (symCode hE ha hcs hl hann hf hG hr hw1 hA1) fun ex a2 w2 hp => ?_
        obtain ⟨ι2, rfl, x2, r2, f2, d2⟩ := hp
        obtain ⟨r3, f3⟩ := Pat.mat_ok hF hm hasg (gok _ _ _ _ r2) r2 f2
        have hd' := d2.trans hd
        have hx' : Ext P ι w (cut rn ι2 F.N) w2 := Ext.cut (hx.trans x2) hq (mat_base hm) (by rw [← hN]; exact hKN) hdom
        cases e <;> first | exact absurd rfl hne | exact ⟨_, rfl, hx', r3, f3, hd'⟩
  exact wp_loop_rounds _ (key k0 S0 h0 (cut rn ι X.N) a w r0 f0 (Ext.cut (Ext.refl ι w) g3 hb0 hKN hdom) rfl)
/-- The same, with several patterns. -/
def StepF (P : Program) (ft : Nat → Option Func) (Λ : Nat → Option Code) (gs : Gs) (c' : Code) (X : Nat → Pat) (F : Pat) (e : AExit) (K : Nat) (S : Sy) (Inv : Nat → Nat → Sy → Prop) (k s : Nat) (S1 : Sy) : Prop :=
  ∃ al cs lk n asg rn, ∃ ha : AlOk S1 al, (∀ c ∈ cs, CtrOk P S1 gs c) ∧ LkOk P S1 gs Λ lk ∧
    ((∃ k' s' S2, k = k' + 1 ∧ Inv k' s' S2 ∧ AsgOk S1 S2 asg ∧ ∀ G, rOutR K rn (X s') F P.globals.size (runM P Λ lk ft ha cs G n (.code c' (X s).A) ((X s).H P)) = some (none, asg)) ∨
     (AsgOk S1 S asg ∧ ∀ G, rOutR K rn (X s) F P.globals.size (runM P Λ lk ft ha cs G n (.code c' (X s).A) ((X s).H P)) = some (some e, asg)))
theorem loop_okF {P : Program} [NoFloat P] {ft : Nat → Option Func} {Λ : Nat → Option Code} (hE : @EnvOk ⟨Λ⟩ P ft) {gs : Gs} {S : Sy} {c c' : Code} (hann : @Ann ⟨Λ⟩ c' c) (hf : fineC P.globals.size c = true) {X : Nat → Pat} {F : Pat} (hN : ∀ s, (X s).N = F.N) {e : AExit} {K : Nat} (hKN : K ≤ F.N) {rn : Ren}
    {Inv : Nat → Nat → Sy → Prop} (step : ∀ k s S1, Inv k s S1 → StepF P ft Λ gs c' X F e K S Inv k s S1) {asg0 : Asg} {k0 s0 : Nat} {S0 : Sy} (h0 : Inv k0 s0 S0) (ha0 : AsgOk S S0 asg0)
    (hX : ∀ s, GlOk P gs (X s)) (hF : GlOk P gs F := by exact GlOk.free (by kernel_rfl)) : LkAt P S gs (.loop c) (lkLoopR P K rn (X s0) F e asg0) := by
  intro G hG A H e' A' H' hlk ι a w hw hA
  unfold lkLoopR at hlk
  split at hlk
  case h_2 => simp at hlk
  rename_i asg hmat
  obtain ⟨g, hlk'⟩ := cond_some hlk
  clear hlk
  simp only [Bool.and_eq_true] at g
  obtain ⟨⟨g1, g2⟩, g3⟩ := g
  have e1 := asgEq_ok g1
  subst e1
  have hnx := Nat.le_of_ble_eq_true g2
  simp only [Option.some.injEq, Prod.mk.injEq] at hlk'
  obtain ⟨rfl, rfl, rfl⟩ := hlk'
  have gok : ∀ (S2 : Sy) (ι2 : Inj) (H2 : Heap) (w2 : World), @Rel (symS S2 G) P ι2 H2 w2 → GOk P gs w2 := fun S2 ι2 H2 w2 h => hG w2 (by letI := symS S2 G; have := h.room; rw [h.gsize] at this; exact this) (by letI := symS S2 G; exact h.glb.1)
  obtain ⟨r0, f0⟩ := Pat.mat_ok (hX s0) hmat ha0 (gok _ _ _ _ hw) hw hA
  have hb0 := mat_base hmat
  letI := symS S G
  have hdom : ∀ n i, ι n = some i → n < K := fun n i hi => by
    rcases Nat.lt_or_ge n K with h | h
    · exact h
    · rw [hw.fresh n (Nat.le_trans hnx h)] at hi; simp at hi
  have key : ∀ k s S1, Inv k s S1 → ∀ ι1 a1 w1, @Rel (symS S1 G) P ι1 ((X s).H P) w1 → @FRel (symS S1 G) ι1 (X s).A a1.tmps → Ext P ι w ι1 w1 → a1.defers = a.defers →
      Code.rounds P c (@PostC (symS S G) P ι w a e (F.A) (F.H P)) (k + 1) a1 w1 := by
    intro k
    induction k with
    | zero =>
      intro s S1 hi ι1 a1 w1 hw1 hA1 hx hd
      obtain ⟨al, cs, lk, n, asg, rn, ha, hcs, hl, hor⟩ := step 0 s S1 hi
      rcases hor with ⟨k', s', S2, hk, _⟩ | ⟨hasg, hrun⟩
      · omega
      · obtain ⟨A2, H2, hr, hne, hm, hq⟩ := rOut_some (hrun G)
        rw [rounds_succ]
        refine wp_mono (symCode hE ha hcs hl hann hf hG hr hw1 hA1) fun ex a2 w2 hp => ?_
        obtain ⟨ι2, rfl, x2, r2, f2, d2⟩ := hp
        obtain ⟨r3, f3⟩ := Pat.mat_ok hF hm hasg (gok _ _ _ _ r2) r2 f2
        have hd' := d2.trans hd
        have hx' : Ext P ι w (cut rn ι2 F.N) w2 := Ext.cut (hx.trans x2) hq (mat_base hm) hKN hdom
        cases e <;> first | exact absurd rfl hne | exact ⟨_, rfl, hx', r3, f3, hd'⟩
    | succ k ihk =>
      intro s S1 hi ι1 a1 w1 hw1 hA1 hx hd
      obtain ⟨al, cs, lk, n, asg, rn, ha, hcs, hl, hor⟩ := step (k + 1) s S1 hi
      rcases hor with ⟨k', s', S2, hk, hi2, hasg, hrun⟩ | ⟨hasg, hrun⟩
      · have hk' : k' = k := by omega
        subst hk'
        obtain ⟨A2, H2, hr, hm, hq⟩ := rOut_none (hrun G)
        rw [rounds_succ]
        refine wp_mono (symCode hE ha hcs hl hann hf hG hr hw1 hA1) fun ex a2 w2 hp => ?_
        obtain ⟨ι2, rfl, x2, r2, f2, d2⟩ := hp
        obtain ⟨r3, f3⟩ := Pat.mat_ok (hX s') hm hasg (gok _ _ _ _ r2) r2 f2
        exact ihk s' S2 hi2 (cut rn ι2 (X s').N) a2 w2 r3 f3 (Ext.cut (hx.trans x2) hq (mat_base hm) (by rw [hN]; exact hKN) hdom) (d2.trans hd)
      · obtain ⟨A2, H2, hr, hne, hm, hq⟩ := rOut_some (hrun G)
        rw [rounds_succ]
        refine wp_mono (symCode hE ha hcs hl hann hf hG hr hw1 hA1) fun ex a2 w2 hp => ?_
        obtain ⟨ι2, rfl, x2, r2, f2, d2⟩ := hp
        obtain ⟨r3, f3⟩ := Pat.mat_ok hF hm hasg (gok _ _ _ _ r2) r2 f2
        have hd' := d2.trans hd
        have hx' : Ext P ι w (cut rn ι2 F.N) w2 := Ext.cut (hx.trans x2) hq (mat_base hm) hKN hdom
        cases e <;> first | exact absurd rfl hne | exact ⟨_, rfl, hx', r3, f3, hd'⟩
  exact wp_loop_rounds _ (key k0 s0 S0 h0 (cut rn ι (X s0).N) a w r0 f0 (Ext.cut (Ext.refl ι w) g3 hb0 (by rw [hN]; exact hKN) hdom) rfl)
theorem loop_ok {P : Program} [NoFloat P] {ft : Nat → Option Func} {Λ : Nat → Option Code} (hE : @EnvOk ⟨Λ⟩ P ft) {gs : Gs} {S : Sy} {c c' : Code} (hann : @Ann ⟨Λ⟩ c' c) (hf : fineC P.globals.size c = true) {X F : Pat} (hN : X.N = F.N) {e : AExit}
    {Inv : Nat → Sy → Prop} (step : ∀ k S1, Inv k S1 → Step P ft Λ gs c' X F e S Inv k S1) {asg0 : Asg} {k0 : Nat} {S0 : Sy} (h0 : Inv k0 S0) (ha0 : AsgOk S S0 asg0)
    (hX : GlOk P gs X := by exact GlOk.free (by kernel_rfl)) (hF : GlOk P gs F := by exact GlOk.free (by kernel_rfl)) : LkAt P S gs (.loop c) (lkLoop P X F e asg0) :=
  loop_okR hE hann hf hN (Nat.le_refl _) (fun k S1 hi => (step k S1 hi).gen) h0 ha0 hX hF

/-! ### Marks in code -/
def subC : List Nat → Code → Option Code
  | [], c => some c
  | 0 :: p, .seq a _ => subC p a
  | _ :: p, .seq _ b => subC p b
  | 0 :: p, .cond _ a _ => subC p a
  | _ :: p, .cond _ _ b => subC p b
  | _ :: p, .block _ c => subC p c
  | _ :: p, .loop c => subC p c
  | _ :: p, .scope c => subC p c
  | _, _ => none
abbrev Mks := List (List Nat × Nat)
def hereM : Mks → Option Nat
  | [] => none
  | ([], n) :: _ => some n
  | _ :: l => hereM l
/-- The marks that lie to the first side, or to another one. -/
def downM (z : Bool) : Mks → Mks
  | [] => []
  | (0 :: p, n) :: l => if z then (p, n) :: downM z l else downM z l
  | (_ :: p, n) :: l => if z then downM z l else (p, n) :: downM z l
  | ([], _) :: l => downM z l
def dropM : Mks → Mks
  | [] => []
  | (_ :: p, n) :: l => (p, n) :: dropM l
  | ([], _) :: l => dropM l
def annM : Mks → Code → Code
  | ms, c => match hereM ms with
    | some n => markC n
    | none => match c with
      | .seq a b => .seq (annM (downM true ms) a) (annM (downM false ms) b)
      | .cond x a b => .cond x (annM (downM true ms) a) (annM (downM false ms) b)
      | .block id c => .block id (annM (dropM ms) c)
      | .loop c => .loop (annM (dropM ms) c)
      | .scope c => .scope (annM (dropM ms) c)
      | c => c
theorem hereM_ok : ∀ {ms : Mks} {n : Nat}, hereM ms = some n → ([], n) ∈ ms
  | [], _, h => by simp [hereM] at h
  | ([], m) :: l, n, h => by
    simp only [hereM, Option.some.injEq] at h
    subst h
    exact List.mem_cons_self
  | (_ :: _, m) :: l, n, h => List.mem_cons_of_mem _ (hereM_ok (by simpa [hereM] using h))
theorem downM_true : ∀ {ms : Mks} {p : List Nat} {n : Nat}, (p, n) ∈ downM true ms → (0 :: p, n) ∈ ms
  | [], _, _, h => by simp [downM] at h
  | ([], _) :: l, p, n, h => List.mem_cons_of_mem _ (downM_true (by simpa [downM] using h))
  | (0 :: q, m) :: l, p, n, h => by
    simp only [downM, if_true, List.mem_cons] at h
    rcases h with e | h
    · cases e; exact List.mem_cons_self
    · exact List.mem_cons_of_mem _ (downM_true h)
  | (Nat.succ k :: q, m) :: l, p, n, h => List.mem_cons_of_mem _ (downM_true (by simpa [downM] using h))
theorem downM_false : ∀ {ms : Mks} {p : List Nat} {n : Nat}, (p, n) ∈ downM false ms → ∃ k, (Nat.succ k :: p, n) ∈ ms
  | [], _, _, h => by simp [downM] at h
  | ([], _) :: l, p, n, h => by
    obtain ⟨k, hk⟩ := downM_false (ms := l) (p := p) (n := n) (by simpa [downM] using h)
    exact ⟨k, List.mem_cons_of_mem _ hk⟩
  | (0 :: q, m) :: l, p, n, h => by
    obtain ⟨k, hk⟩ := downM_false (ms := l) (p := p) (n := n) (by simpa [downM] using h)
    exact ⟨k, List.mem_cons_of_mem _ hk⟩
  | (Nat.succ k :: q, m) :: l, p, n, h => by
    have h' : (p, n) = (q, m) ∨ (p, n) ∈ downM false l := by simpa [downM] using h
    rcases h' with e | h'
    · cases e; exact ⟨k, List.mem_cons_self⟩
    · obtain ⟨j, hj⟩ := downM_false h'
      exact ⟨j, List.mem_cons_of_mem _ hj⟩
theorem dropM_ok : ∀ {ms : Mks} {p : List Nat} {n : Nat}, (p, n) ∈ dropM ms → ∃ k, (k :: p, n) ∈ ms
  | [], _, _, h => by simp [dropM] at h
  | ([], _) :: l, p, n, h => by
    obtain ⟨k, hk⟩ := dropM_ok (ms := l) (p := p) (n := n) (by simpa [dropM] using h)
    exact ⟨k, List.mem_cons_of_mem _ hk⟩
  | (k :: q, m) :: l, p, n, h => by
    simp only [dropM, List.mem_cons] at h
    rcases h with e | h
    · cases e; exact ⟨k, List.mem_cons_self⟩
    · obtain ⟨j, hj⟩ := dropM_ok h
      exact ⟨j, List.mem_cons_of_mem _ hj⟩
def MksOk [Marks] (ms : Mks) (c : Code) : Prop := ∀ p n, (p, n) ∈ ms → ∃ d, subC p c = some d ∧ Marks.code n = some d
theorem annM_ok [Marks] : ∀ (c : Code) (ms : Mks), MksOk ms c → Ann (annM ms c) c := by
  intro c
  induction c with
  | seq a b iha ihb =>
    intro ms h
    unfold annM
    split
    · rename_i n hn
      obtain ⟨d, h1, h2⟩ := h [] n (hereM_ok hn)
      simp only [subC, Option.some.injEq] at h1
      subst h1
      exact .mark h2
    · exact .seq (iha _ fun p n hp => h _ n (downM_true hp)) (ihb _ fun p n hp => by
        obtain ⟨k, hk⟩ := downM_false hp
        exact h _ n hk)
  | cond x a b iha ihb =>
    intro ms h
    unfold annM
    split
    · rename_i n hn
      obtain ⟨d, h1, h2⟩ := h [] n (hereM_ok hn)
      simp only [subC, Option.some.injEq] at h1
      subst h1
      exact .mark h2
    · exact .cond (iha _ fun p n hp => h _ n (downM_true hp)) (ihb _ fun p n hp => by
        obtain ⟨k, hk⟩ := downM_false hp
        exact h _ n hk)
  | block id c ih =>
    intro ms h
    unfold annM
    split
    · rename_i n hn
      obtain ⟨d, h1, h2⟩ := h [] n (hereM_ok hn)
      simp only [subC, Option.some.injEq] at h1
      subst h1
      exact .mark h2
    · exact .block (ih _ fun p n hp => by
        obtain ⟨k, hk⟩ := dropM_ok hp
        obtain ⟨d, h1, h2⟩ := h _ n hk
        exact ⟨d, by simpa [subC] using h1, h2⟩)
  | loop c ih =>
    intro ms h
    unfold annM
    split
    · rename_i n hn
      obtain ⟨d, h1, h2⟩ := h [] n (hereM_ok hn)
      simp only [subC, Option.some.injEq] at h1
      subst h1
      exact .mark h2
    · exact .loop (ih _ fun p n hp => by
        obtain ⟨k, hk⟩ := dropM_ok hp
        obtain ⟨d, h1, h2⟩ := h _ n hk
        exact ⟨d, by simpa [subC] using h1, h2⟩)
  | scope c ih =>
    intro ms h
    unfold annM
    split
    · rename_i n hn
      obtain ⟨d, h1, h2⟩ := h [] n (hereM_ok hn)
      simp only [subC, Option.some.injEq] at h1
      subst h1
      exact .mark h2
    · exact .scope (ih _ fun p n hp => by
        obtain ⟨k, hk⟩ := dropM_ok hp
        obtain ⟨d, h1, h2⟩ := h _ n hk
        exact ⟨d, by simpa [subC] using h1, h2⟩)
  | _ =>
    intro ms h
    unfold annM
    split
    · rename_i n hn
      obtain ⟨d, h1, h2⟩ := h [] n (hereM_ok hn)
      simp only [subC, Option.some.injEq] at h1
      subst h1
      exact .mark h2
    · exact .same _
end Go.Ev
