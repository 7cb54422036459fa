/-
  The evaluator: given slices, several at once; valuations set anew, their functions too. No condition.
-/
import Derived.Test.YtmeppoihgfdgaaaDoorEvSl
namespace Go.Ev
open Go.RowKit

/-- What a given slice's input has of a world, its functions' answers by F. -/
def InpW (w : World) (x : Inp) (F : Nat → Nat → Int) : Prop :=
  x.n = 0 ∨ ∃ a cs t fz, x.a = some a ∧ a.spot = none ∧ w.heap[a.block]? = some x.obj ∧ x.obj = .cells cs t fz ∧ ∀ j, j < x.n → ∀ m k, x.ks[m]? = some k → cs[a.off + (j * x.ks.length + m)]? = some (kV k (F m j))
theorem inpw_of {w : World} {ks : List (Option IntKind)} {v : Value} (hks : 0 < ks.length) (h : SlIn w ks v) (f : Nat) : ∃ (x : Inp) (F : Nat → Nat → Int), x.ks = ks ∧ x.f = f ∧ v = .slice x.a x.n x.cap ∧ x.n < 9223372036854775808 ∧
    (∀ m k j, ks[m]? = some (some k) → j < x.n → (Lit.int k (F m j)).wf = true) ∧ InpW w x F := by
  obtain ⟨x, F, h1, h2, h3, h4, h5, h6, h7⟩ := inp_of hks h f
  refine ⟨x, F, h1, h2, h3, h4, h5, ?_⟩
  let Φ : Nat → List Int → Int := fun g l => match l with | [j] => F (g - f) j.toNat | _ => 0
  have hΦ : ∀ m j : Nat, m < ks.length → Φ (f + m) [(j : Int)] = F m j := fun m j _ => by simp [Φ]
  rcases h6 Φ hΦ with h | ⟨a, cs, t, fz, e1, e2, e3, e4, e5⟩
  · exact .inl h
  · refine .inr ⟨a, cs, t, fz, e1, e2, h7 _ _ e3, e4, fun j hj m k hm => ?_⟩
    have hml : m < ks.length := by rw [← h1]; exact (List.getElem?_eq_some_iff.1 hm).1
    rw [e5 j hj m k hm, h2, hΦ m j hml]
theorem inpL_some {I : List Inp} {b : Nat} {o : Obj} (h : inpL I b = some o) : ∃ x ∈ I, x.obj = o ∧ x.n ≠ 0 ∧ ∃ a, x.a = some a ∧ a.block = b := by
  unfold inpL at h
  split at h
  · rename_i x hx
    simp only [Option.some.injEq] at h
    subst h
    have h1 := List.find?_some hx
    have h2 := List.mem_of_find?_eq_some hx
    split at h1
    · rename_i a ha
      simp only [Bool.and_eq_true, Bool.not_eq_true'] at h1
      exact ⟨x, h2, rfl, fun e => by rw [e] at h1; simp at h1, a, ha, (Nat.eq_of_beq_eq_true h1.1)⟩
    · simp at h1
  · simp at h
theorem inps_in {w : World} {I : List Inp} (h : ∀ x ∈ I, ∃ F, InpW w x F) : ∀ b o, inpL I b = some o → w.heap[b]? = some o := fun b o hb => by
  obtain ⟨x, hx, rfl, hn, a, ha, rfl⟩ := inpL_some hb
  obtain ⟨F, hF⟩ := h x hx
  rcases hF with h0 | ⟨a', cs, t, fz, e1, _, e3, _, _⟩
  · exact absurd h0 hn
  · rw [ha] at e1
    cases e1
    exact e3
theorem inps_ok {w : World} {I : List Inp} (h : ∀ x ∈ I, ∃ F, InpW w x F) {Φ : Nat → List Int → Int} {x : Inp} (hx : x ∈ I) {F : Nat → Nat → Int} (hF : InpW w x F) (hΦ : ∀ m j : Nat, m < x.ks.length → Φ (x.f + m) [(j : Int)] = F m j) : InpOk I Φ x := by
  rcases hF with h0 | ⟨a, cs, t, fz, e1, e2, e3, e4, e5⟩
  · exact .inl h0
  · by_cases hn : x.n = 0
    · exact .inl hn
    refine .inr ⟨a, cs, t, fz, e1, e2, ?_, e4, fun j hj m k hm => ?_⟩
    · have hs : ∃ o, inpL I a.block = some o := by
        unfold inpL
        split
        · exact ⟨_, rfl⟩
        · rename_i hnone
          have := List.find?_eq_none.1 hnone x hx
          rw [e1] at this
          have hb : Nat.beq x.n 0 = false := by
            cases hb : Nat.beq x.n 0 with
            | false => rfl
            | true => exact absurd (Nat.eq_of_beq_eq_true hb) hn
          simp [hb] at this
      obtain ⟨o, ho⟩ := hs
      rw [ho, ← inps_in h _ _ ho, e3]
    · have hml : m < x.ks.length := (List.getElem?_eq_some_iff.1 hm).1
      rw [e5 j hj m k hm, hΦ m j hml]

/-! ### Valuations set anew -/
/-- Some functions of one number set. -/
def updΦ (Φ : Nat → List Int → Int) : List (Nat × (Int → Int)) → Nat → List Int → Int
  | [], f, l => Φ f l
  | (i, g) :: r, f, l => if f = i then (match l with | [j] => g j | _ => 0) else updΦ Φ r f l
theorem updΦ_low {Φ : Nat → List Int → Int} {f : Nat} {l : List Int} : ∀ {r : List (Nat × (Int → Int))}, (∀ p ∈ r, f ≠ p.1) → updΦ Φ r f l = Φ f l
  | [], _ => rfl
  | (i, g) :: r, h => by
    have h1 : f ≠ i := h (i, g) List.mem_cons_self
    show (if f = i then (match l with | [j] => g j | _ => 0) else updΦ Φ r f l) = _
    rw [if_neg h1]
    exact updΦ_low fun p hp => h p (List.mem_cons_of_mem _ hp)
/-- Other numbers, and some functions set that no given slice has. -/
def Sy.set (S : Sy) (ρ : Nat → Int) (r : List (Nat × (Int → Int))) (K : Nat) (hr : (r.all fun p => Nat.ble K p.1) = true) (hK : ∀ x ∈ S.I, x.f + x.ks.length ≤ K) : Sy :=
  ⟨ρ, updΦ S.Φ r, S.I, fun x hx => by
    rcases S.ok x hx with h0 | ⟨a, cs, t, fz, e1, e2, e3, e4, e5⟩
    · exact .inl h0
    · refine .inr ⟨a, cs, t, fz, e1, e2, e3, e4, fun j hj m k hm => ?_⟩
      have hml : m < x.ks.length := (List.getElem?_eq_some_iff.1 hm).1
      rw [e5 j hj m k hm, updΦ_low fun p hp e => ?_]
      have := Nat.le_of_ble_eq_true (List.all_eq_true.1 hr p hp)
      have := hK x hx
      omega⟩
theorem Sy.set_low {S : Sy} {ρ : Nat → Int} {r : List (Nat × (Int → Int))} {K : Nat} {hr : (r.all fun p => Nat.ble K p.1) = true} {hK : ∀ x ∈ S.I, x.f + x.ks.length ≤ K} {f : Nat} {l : List Int} (hf : f < K) : (S.set ρ r K hr hK).Φ f l = S.Φ f l :=
  updΦ_low fun p hp e => by
    have := Nat.le_of_ble_eq_true (List.all_eq_true.1 hr p hp)
    omega
/-- A row, set at a place. -/
theorem aden_upd {S : Sy} {a : ACode} {i v : Nat} {i' v' : Int} (hi : ev S i = some [i']) (hv : ev S v = some [v']) {j : Int} : aden S (.upd a i v) j = if j = i' then some v' else aden S a j := by
  rw [aden, hi, hv]
def ifE (j i v w : Int) : Int := if j = i then v else w
/-- What rows are to be: by what they were, what is set where. -/
def Row (S : Sy) (a : ACode) (g : Int → Int) : Prop := ∀ j : Nat, aden S a j = some (g (j : Int))
theorem ar_var {S : Sy} (f : Nat) : Row S (.var f) (fun j => S.Φ f [j]) := fun _ => rfl
theorem ar_upd {S : Sy} {a : ACode} {g : Int → Int} (ti tv : Tm) {i v : Int} (hi : ti.den S = some [i]) (hv : tv.den S = some [v]) (ok : (ti.ok && tv.ok) = true) (h : Row S a g) :
    Row S (.upd a ti.enc tv.enc) (fun j => ifE j i v (g j)) := fun j => by
  simp only [Bool.and_eq_true] at ok
  rw [aden_upd ((ti.ev_enc S ok.1).trans hi) ((tv.ev_enc S ok.2).trans hv), h j]
  unfold ifE
  dsimp only
  split <;> rfl
theorem ar_zero {S : Sy} : Row S .zero (fun _ => 0) := fun _ => rfl

/-! ### A loop whose end is not known ahead: its rounds as a chain; the valuation that the rest is run under is the chain's last one, or has what that has -/
section
variable (P : Program) (ft : Nat → Option Func) (Λ : Nat → Option Code) (gs : Gs) (c' : Code) (X F : Pat)
def StepTo (K : Nat) (S1 S2 : Sy) : Prop :=
  ∃ al cs lk n asg rn, ∃ ha : AlOk S1 al, (∀ c ∈ cs, CtrOk P S1 gs c) ∧ LkOk P S1 gs Λ lk ∧ AsgOk S1 S2 asg ∧ ∀ G, rOutR K rn X F P.globals.size (runM P Λ lk ft ha cs G n (.code c' X.A) (X.H P)) = some (none, asg)
def StepOut (e : AExit) (K : Nat) (S1 S : Sy) : Prop :=
  ∃ al cs lk n asg rn, ∃ ha : AlOk S1 al, (∀ c ∈ cs, CtrOk P S1 gs c) ∧ LkOk P S1 gs Λ lk ∧ AsgOk S1 S asg ∧ ∀ G, rOutR K rn X F P.globals.size (runM P Λ lk ft ha cs G n (.code c' X.A) (X.H P)) = some (some e, asg)
end
inductive Chain (R : Sy → Sy → Prop) : Nat → Sy → Sy → Prop where
  | nil (S : Sy) : Chain R 0 S S
  | cons {k : Nat} {S T U : Sy} (h : R S T) (t : Chain R k T U) : Chain R (k + 1) S U
theorem loop_ex {R : Sy → Sy → Prop} {Inv Fin : Nat → Sy → Prop} (step : ∀ k S1, Inv k S1 → (∃ k' S2, k = k' + 1 ∧ Inv k' S2 ∧ R S1 S2) ∨ Fin k S1) : ∀ (k : Nat) (S0 : Sy), Inv k S0 → ∃ m k' Sf, Chain R m S0 Sf ∧ Inv k' Sf ∧ Fin k' Sf := by
  intro k
  induction k with
  | zero =>
    intro S0 h
    rcases step 0 S0 h with ⟨k', S2, e, _⟩ | hf
    · omega
    · exact ⟨0, 0, S0, .nil S0, h, hf⟩
  | succ k ih =>
    intro S0 h
    rcases step (k + 1) S0 h with ⟨k', S2, e, h2, hr⟩ | hf
    · obtain rfl : k' = k := by omega
      obtain ⟨m, k'', Sf, hc, h3, h4⟩ := ih S2 h2
      exact ⟨m + 1, k'', Sf, .cons hr hc, h3, h4⟩
    · exact ⟨0, k + 1, S0, .nil S0, h, hf⟩
theorem loop_chain {P : Program} [NoFloat P] {ft : Nat → Option Func} {Λ : Nat → Option Code} (hE : @EnvOk ⟨Λ⟩ P ft) {gs : Gs} {S : Sy} {c c' : Code} (hann : @Ann ⟨Λ⟩ c' c) (hf : fineC P.globals.size c = true) {X F : Pat} (hN : X.N = F.N) {e : AExit} {K : Nat} (hKN : K ≤ X.N) {rn : Ren}
    {m : Nat} {S0 Sf : Sy} (hc : Chain (StepTo P ft Λ gs c' X F K) m S0 Sf) (ho : StepOut P ft Λ gs c' X F e K Sf S) {asg0 : Asg} (ha0 : AsgOk S S0 asg0)
    (hX : GlOk P gs X := by exact GlOk.free (by kernel_rfl)) (hF : GlOk P gs F := by exact GlOk.free (by kernel_rfl)) : LkAt P S gs (.loop c) (lkLoopR P K rn X F e asg0) := by
  refine loop_okR hE hann hf hN hKN (Inv := fun k S1 => Chain (StepTo P ft Λ gs c' X F K) k S1 Sf) (fun k S1 hi => ?_) hc ha0 hX hF
  cases hi with
  | nil =>
    obtain ⟨al, cs, lk, n, asg, rn, ha, h1, h2, h3, h4⟩ := ho
    exact ⟨al, cs, lk, n, asg, rn, ha, h1, h2, .inr ⟨h3, h4⟩⟩
  | cons h t =>
    obtain ⟨al, cs, lk, n, asg, rn, ha, h1, h2, h3, h4⟩ := h
    exact ⟨al, cs, lk, n, asg, rn, ha, h1, h2, .inl ⟨_, _, rfl, t, h3, h4⟩⟩
/-- From one pattern to another one. -/
def StepX (P : Program) (ft : Nat → Option Func) (Λ : Nat → Option Code) (gs : Gs) (c' : Code) (X Y F : Pat) (K : Nat) (S1 S2 : Sy) : Prop :=
  ∃ al cs lk n asg rn, ∃ ha : AlOk S1 al, (∀ c ∈ cs, CtrOk P S1 gs c) ∧ LkOk P S1 gs Λ lk ∧ AsgOk S1 S2 asg ∧ ∀ G, rOutR K rn Y F P.globals.size (runM P Λ lk ft ha cs G n (.code c' X.A) (X.H P)) = some (none, asg)
/-- Rounds of one pattern, then of another one. -/
theorem loop_chain2 {P : Program} [NoFloat P] {ft : Nat → Option Func} {Λ : Nat → Option Code} (hE : @EnvOk ⟨Λ⟩ P ft) {gs : Gs} {S : Sy} {c c' : Code} (hann : @Ann ⟨Λ⟩ c' c) (hf : fineC P.globals.size c = true) {X Y F : Pat} (hN : X.N = F.N) (hN2 : Y.N = F.N) {e : AExit} {K : Nat} (hKN : K ≤ F.N) {rn : Ren}
    {m n : Nat} {S0 Sa Sb Sf : Sy} (hc : Chain (StepTo P ft Λ gs c' X F K) m S0 Sa) (hx : StepX P ft Λ gs c' X Y F K Sa Sb) (hd : Chain (StepTo P ft Λ gs c' Y F K) n Sb Sf) (ho : StepOut P ft Λ gs c' Y F e K Sf S) {asg0 : Asg} (ha0 : AsgOk S S0 asg0)
    (hX : GlOk P gs X := by exact GlOk.free (by kernel_rfl)) (hY : GlOk P gs Y := by exact GlOk.free (by kernel_rfl)) (hF : GlOk P gs F := by exact GlOk.free (by kernel_rfl)) : LkAt P S gs (.loop c) (lkLoopR P K rn X F e asg0) := by
  refine loop_okF (X := fun s => match s with | 0 => X | _ => Y) hE hann hf (fun s => by cases s <;> assumption) hKN (Inv := fun k s S1 => (s = 0 ∧ ∃ j, k = j + 1 + n ∧ Chain (StepTo P ft Λ gs c' X F K) j S1 Sa) ∨ (s = 1 ∧ Chain (StepTo P ft Λ gs c' Y F K) k S1 Sf)) (fun k s S1 hi => ?_) (s0 := 0) (k0 := m + 1 + n) (.inl ⟨rfl, m, rfl, hc⟩) ha0 (fun s => by cases s <;> assumption) hF
  rcases hi with ⟨rfl, j, rfl, h⟩ | ⟨rfl, h⟩
  · cases h with
    | nil =>
      obtain ⟨al, cs, lk, n', asg, rn, ha, h1, h2, h3, h4⟩ := hx
      exact ⟨al, cs, lk, n', asg, rn, ha, h1, h2, .inl ⟨n, 1, _, by omega, .inr ⟨rfl, hd⟩, h3, h4⟩⟩
    | cons h t =>
      rename_i j' S2
      obtain ⟨al, cs, lk, n', asg, rn, ha, h1, h2, h3, h4⟩ := h
      exact ⟨al, cs, lk, n', asg, rn, ha, h1, h2, .inl ⟨j' + 1 + n, 0, _, by omega, .inl ⟨rfl, j', rfl, t⟩, h3, h4⟩⟩
  · cases h with
    | nil =>
      obtain ⟨al, cs, lk, n', asg, rn, ha, h1, h2, h3, h4⟩ := ho
      exact ⟨al, cs, lk, n', asg, rn, ha, h1, h2, .inr ⟨h3, h4⟩⟩
    | cons h t =>
      obtain ⟨al, cs, lk, n', asg, rn, ha, h1, h2, h3, h4⟩ := h
      exact ⟨al, cs, lk, n', asg, rn, ha, h1, h2, .inl ⟨_, 1, _, rfl, .inr ⟨rfl, t⟩, h3, h4⟩⟩
/-- Another valuation has of some numbers, and of some functions, what this one has. -/
def Same (vs fs : List Nat) (S T : Sy) : Prop := T.I = S.I ∧ (∀ v ∈ vs, T.ρ v = S.ρ v) ∧ ∀ f ∈ fs, ∀ j : Nat, T.Φ f [(j : Int)] = S.Φ f [(j : Int)]
theorem Same.refl (vs fs : List Nat) (S : Sy) : Same vs fs S S := ⟨rfl, fun _ _ => rfl, fun _ _ _ => rfl⟩
theorem Same.num {vs fs : List Nat} {S T : Sy} (h : Same vs fs S T) (v : Nat) (hv : (vs.any fun u => Nat.beq u v) = true) : S.ρ v = T.ρ v := by
  obtain ⟨u, hu, e⟩ := List.any_eq_true.1 hv
  rw [← Nat.eq_of_beq_eq_true e]
  exact (h.2.1 u hu).symm
theorem Same.row {vs fs : List Nat} {S T : Sy} (h : Same vs fs S T) (f : Nat) (hf : (fs.any fun u => Nat.beq u f) = true) : ∀ j : Nat, aden S (.var f) j = some (T.Φ f [(j : Int)]) := fun j => by
  obtain ⟨u, hu, e⟩ := List.any_eq_true.1 hf
  rw [← Nat.eq_of_beq_eq_true e, h.2.2 u hu j]
  rfl
/-! ### What stays: all numbers and functions but some -/
def Stay (vs fs : List Nat) (S T : Sy) : Prop := T.I = S.I ∧ (∀ v, (vs.any fun u => Nat.beq u v) = false → T.ρ v = S.ρ v) ∧ ∀ f, (fs.any fun u => Nat.beq u f) = false → ∀ l, T.Φ f l = S.Φ f l
theorem Stay.refl (vs fs : List Nat) (S : Sy) : Stay vs fs S S := ⟨rfl, fun _ _ => rfl, fun _ _ _ => rfl⟩
theorem Stay.trans {vs fs vs' fs' : List Nat} {S T U : Sy} (h : Stay vs fs S T) (h' : Stay vs' fs' T U) : Stay (vs ++ vs') (fs ++ fs') S U :=
  ⟨h'.1.trans h.1, fun v hv => by
    rw [List.any_append, Bool.or_eq_false_iff] at hv
    exact (h'.2.1 v hv.2).trans (h.2.1 v hv.1), fun f hf l => by
    rw [List.any_append, Bool.or_eq_false_iff] at hf
    exact (h'.2.2 f hf.2 l).trans (h.2.2 f hf.1 l)⟩
theorem Stay.num {vs fs : List Nat} {S T : Sy} (h : Stay vs fs S T) (v : Nat) (hv : (vs.any fun u => Nat.beq u v) = false) : T.ρ v = S.ρ v := h.2.1 v hv
theorem Stay.fn {vs fs : List Nat} {S T : Sy} (h : Stay vs fs S T) (f : Nat) (hf : (fs.any fun u => Nat.beq u f) = false) (l : List Int) : T.Φ f l = S.Φ f l := h.2.2 f hf l
theorem Stay.row {vs fs : List Nat} {S T : Sy} (h : Stay vs fs S T) (f : Nat) (hf : (fs.any fun u => Nat.beq u f) = false) : ∀ j : Nat, aden T (.var f) j = some (S.Φ f [(j : Int)]) := fun _ => congrArg some (h.2.2 f hf _)
theorem upd_low {ρ : Nat → Int} {v : Nat} : ∀ {u : List (Nat × Int)}, (∀ p ∈ u, v ≠ p.1) → upd ρ u v = ρ v
  | [], _ => rfl
  | (j, n) :: u, h => by
    have h1 : v ≠ j := h (j, n) List.mem_cons_self
    show (if v = j then n else upd ρ u v) = _
    rw [if_neg h1]
    exact upd_low fun p hp => h p (List.mem_cons_of_mem _ hp)
theorem inB {vs : List Nat} {v u : Nat} (h : (vs.any fun u => Nat.beq u v) = false) (hu : (vs.any fun x => Nat.beq x u) = true) : v ≠ u := fun e => by
  rw [e, hu] at h
  simp at h
theorem Stay.set {vs fs : List Nat} {S T : Sy} (h : Stay vs fs S T) {u : List (Nat × Int)} {r : List (Nat × (Int → Int))} {K : Nat} {hr : (r.all fun p => Nat.ble K p.1) = true} {hK : ∀ x ∈ T.I, x.f + x.ks.length ≤ K}
    (hu : (u.all fun p => vs.any fun x => Nat.beq x p.1) = true) (hf : (r.all fun p => fs.any fun x => Nat.beq x p.1) = true) : Stay vs fs S (T.set (upd T.ρ u) r K hr hK) :=
  ⟨h.1, fun v hv => (upd_low fun p hp => inB hv (List.all_eq_true.1 hu p hp)).trans (h.2.1 v hv), fun f hv l => (updΦ_low fun p hp => inB hv (List.all_eq_true.1 hf p hp)).trans (h.2.2 f hv l)⟩
theorem Stay.same {vs fs ws gs : List Nat} {S T : Sy} (h : Stay vs fs S T) (hv : (ws.all fun w => !vs.any fun u => Nat.beq u w) = true) (hf : (gs.all fun w => !fs.any fun u => Nat.beq u w) = true) : Same ws gs S T :=
  ⟨h.1, fun v hm => h.2.1 v (by simpa using List.all_eq_true.1 hv v hm), fun f hm j => h.2.2 f (by simpa using List.all_eq_true.1 hf f hm) _⟩
/-- Several loops. -/
def LkAll (P : Program) (S : Sy) (gs : Gs) : List Mrk → List (Fr → Heap → Option (AExit × Fr × Heap)) → Prop
  | m :: ms, f :: fs => (∃ c, codeAt P m = some c ∧ LkAt P S gs c f) ∧ LkAll P S gs ms fs
  | _, [] => True
  | _, _ => False
theorem LkAll.get {P : Program} {S : Sy} {gs : Gs} : ∀ {ms : List Mrk} {fs : List (Fr → Heap → Option (AExit × Fr × Heap))}, LkAll P S gs ms fs → ∀ (n : Nat) (f : Fr → Heap → Option (AExit × Fr × Heap)), fs[n]? = some f → ∃ m c, ms[n]? = some m ∧ codeAt P m = some c ∧ LkAt P S gs c f
  | m :: ms, f :: fs, h, 0, g, hg => by
    simp only [List.getElem?_cons_zero, Option.some.injEq] at hg
    subst hg
    obtain ⟨c, h1, h2⟩ := h.1
    exact ⟨m, c, rfl, h1, h2⟩
  | m :: ms, f :: fs, h, n + 1, g, hg => by
    simp only [List.getElem?_cons_succ] at hg
    obtain ⟨m', c, h1, h2, h3⟩ := LkAll.get h.2 n g hg
    exact ⟨m', c, by simpa using h1, h2, h3⟩
  | [], [], _, n, g, hg => by simp at hg
  | _ :: _, [], _, n, g, hg => by simp at hg
  | [], _ :: _, h, _, _, _ => by simp [LkAll] at h
theorem LkOk.all {P : Program} {S : Sy} {gs : Gs} {ms : List Mrk} {fs : List (Fr → Heap → Option (AExit × Fr × Heap))} (h : LkAll P S gs ms fs) : LkOk P S gs (lamOf P ms) (lkL fs) :=
  LkOk.of fun n f hf c hc => by
    obtain ⟨m, c', h1, h2, h3⟩ := h.get n f hf
    unfold lamOf at hc
    rw [h1] at hc
    dsimp only at hc
    rw [h2] at hc
    cases hc
    exact h3

/-! ### What a number's type says -/
theorem wf_u8 {a : Int} (h : (Lit.int .u8 a).wf = true) : 0 ≤ a ∧ a < 256 := by
  simp only [Lit.wf, Bool.and_eq_true, decide_eq_true_eq] at h
  have e1 : IntKind.u8.min = 0 := by decide
  have e2 : IntKind.u8.max = 255 := by decide
  omega
theorem wf_u64 {a : Int} (h : (Lit.int .u64 a).wf = true) : 0 ≤ a ∧ a < 18446744073709551616 := by
  simp only [Lit.wf, Bool.and_eq_true, decide_eq_true_eq] at h
  have e1 : IntKind.u64.min = 0 := by decide
  have e2 : IntKind.u64.max = 18446744073709551615 := by decide
  omega
theorem wf_i64 {a : Int} (h : (Lit.int .i64 a).wf = true) : -9223372036854775808 ≤ a ∧ a < 9223372036854775808 := by
  simp only [Lit.wf, Bool.and_eq_true, decide_eq_true_eq] at h
  have e1 : IntKind.i64.min = -9223372036854775808 := by decide
  have e2 : IntKind.i64.max = 9223372036854775807 := by decide
  omega

theorem b01 {z : Int} {c : Bool} (h : z = b2i c) : z = 0 ∨ z = 1 := by
  subst h
  cases c <;> simp [b2i]
theorem bb01 {z : Int} (h : z = 0 ∨ z = 1) : b2i (decide (z ≠ 0)) = z := by
  rcases h with rfl | rfl <;> rfl
theorem ifE_in {P : Int → Prop} {i v : Int} {g : Int → Int} (hv : P v) (hg : ∀ j, P (g j)) (j : Int) : P (ifE j i v (g j)) := by
  unfold ifE
  split
  · exact hv
  · exact hg j
theorem u8_in (x : Int) : 0 ≤ IntKind.u8.wrap x ∧ IntKind.u8.wrap x < 256 := by
  rw [mod_u8]
  omega
theorem u64_in (x : Int) : 0 ≤ IntKind.u64.wrap x ∧ IntKind.u64.wrap x < 18446744073709551616 := by
  rw [mod_u64]
  omega

/-! ### Short words for long texts -/
theorem ai {S : Sy} {al : List (Nat × Value)} (t : Tm) (b : Bool) (hb : t.den S = some [b2i b]) (ha : AlOk S al) (he : (t.ok && isBc t.enc) = true := by kernel_rfl) : AlOk S ((t.enc, .bool b) :: al) := al_is t b he hb ha
theorem ain {S : Sy} {al : List (Nat × Value)} (t : Tm) (k : IntKind) (n : Int) (hb : t.den S = some [n]) (ha : AlOk S al) (he : (t.ok && Nat.beq (cK t.enc) (kI k) && !isBc t.enc) = true := by kernel_rfl) : AlOk S ((t.enc, .int k n) :: al) := by
  refine al_int t k n ?_ hb ha
  simp only [Bool.and_eq_true] at he ⊢
  exact ⟨⟨⟨Nat.beq_refl _, he.1.1⟩, he.1.2⟩, he.2⟩
theorem an {S S' : Sy} {asg : Asg} (i : Nat) (t : Tm) (hd : t.den S = some [S'.ρ i]) (h : AsgOk S S' asg) (he : t.ok = true := by kernel_rfl) : AsgOk S S' ((i, .num t.enc) :: asg) :=
  asg_cons t (by rw [he, Nat.beq_refl]; rfl) hd h
theorem av {S S' : Sy} {asg : Asg} (i : Nat) (k : IntKind) (h : AsgOk S S' asg) (hd : S.ρ i = S'.ρ i := by rfl) : AsgOk S S' ((i, .num (Tm.var k i).enc) :: asg) :=
  asg_cons (.var k i) (by simp [Tm.ok]) (sm hd) h
theorem ar {S S' : Sy} {asg : Asg} (i : Nat) {a : ACode} {g : Int → Int} (hd : Row S a g) (h : AsgOk S S' asg) (hg : ∀ j : Nat, g (j : Int) = S'.Φ i [(j : Int)] := by intro _; rfl) : AsgOk S S' ((i, .arr a) :: asg) :=
  asg_arr (fun j => (hd j).trans (congrArg some (hg j))) h
end Go.Ev
