/-
  The evaluator: regions that draw their order, looked at quicker: a reader is reckoned once for each stretch of the region in which the heap stays. Conditions as in the slower look.
-/
import Derived.Test.YtmeppoihgfdgaaaDoorEvK
namespace Go.Ev
set_option linter.unusedSectionVars false
variable [Syms] {P : Program} [NoFloat P] [Marks] [Orc P] [Lps P] {ι : Inj} {ft : Nat → Option Func} {ih : Runner}

def anyF (f : Nat → Bool) : Nat → Nat → Bool
  | 0, _ => false
  | k + 1, c => cond (f c) true (anyF f k (c + 1))
theorem anyF_of {f : Nat → Bool} : ∀ (k c x : Nat), c ≤ x → x < c + k → f x = true → anyF f k c = true
  | 0, c, x, h1, h2, _ => by omega
  | k + 1, c, x, h1, h2, h3 => by
    unfold anyF
    cases hc : f c with
    | true => rfl
    | false =>
      refine anyF_of k (c + 1) x ?_ (by omega) h3
      rcases Nat.lt_or_eq_of_le h1 with h | rfl
      · exact h
      · rw [h3] at hc; simp at hc
noncomputable def headH (Hf : Heap) : List Ent → Heap
  | [] => Hf
  | e :: _ => e.H
/-- The stretches: from .. to (not with it), and the heap there. -/
noncomputable def segsOf (Hf : Heap) : List Oper → List Ent → Nat → Heap → Nat → List (Nat × Nat × Heap)
  | [], _, lo, H, i => [(lo, i + 1, H)]
  | o :: l, tr, lo, H, i => cond (reader o) (segsOf Hf l tr.tail lo H (i + 1)) ((lo, i + 1, H) :: segsOf Hf l tr.tail (i + 1) (headH Hf tr.tail) (i + 1))
theorem segs_cover {Hf : Heap} {FH : Nat → Heap} : ∀ (l : List Oper) (tr : List Ent) (lo : Nat) (H : Heap) (i : Nat), lo ≤ i →
    (∀ j, j ≤ l.length → FH (i + j) = headH Hf (tr.drop j)) → (∀ c, lo ≤ c → c ≤ i → FH c = H) → (∀ j o, l[j]? = some o → reader o = true → FH (i + j + 1) = FH (i + j)) →
    ∀ c, lo ≤ c → c ≤ i + l.length → ∃ s ∈ segsOf Hf l tr lo H i, s.1 ≤ c ∧ c < s.2.1 ∧ s.2.2 = FH c
  | [], tr, lo, H, i, _, _, hc, _, c, h1, h2 => ⟨(lo, i + 1, H), List.mem_cons_self, h1, Nat.lt_succ_of_le (by simpa using h2), (hc c h1 (by simpa using h2)).symm⟩
  | o :: l, tr, lo, H, i, hlo, hh, hc, hr, c, h1, h2 => by
    have hh' : ∀ j, j ≤ l.length → FH (i + 1 + j) = headH Hf (tr.tail.drop j) := fun j hj => by
      have := hh (j + 1) (by simpa using hj)
      rw [show i + 1 + j = i + (j + 1) by omega, this, List.drop_tail]
    have hr' : ∀ j o, l[j]? = some o → reader o = true → FH (i + 1 + j + 1) = FH (i + 1 + j) := fun j o ho hro => by
      have := hr (j + 1) o (by simpa using ho) hro
      rw [show i + 1 + j + 1 = i + (j + 1) + 1 by omega, this]
      congr 1
      omega
    have h2' : c ≤ i + 1 + l.length := by simp at h2; omega
    unfold segsOf
    cases hro : reader o with
    | true =>
      exact segs_cover l tr.tail lo H (i + 1) (by omega) hh' (fun c h1 h2 => by
        rcases Nat.lt_or_ge i c with h | h
        · have : c = i + 1 := by omega
          subst this
          have := hr 0 o rfl hro
          rw [Nat.add_zero] at this
          rw [this]; exact hc i hlo (Nat.le_refl _)
        · exact hc c h1 h) hr' c h1 h2'
    | false =>
      rcases Nat.lt_or_ge i c with h | h
      · obtain ⟨s, hs, q⟩ := segs_cover l tr.tail (i + 1) (headH Hf tr.tail) (i + 1) (Nat.le_refl _) hh' (fun c h1 h2 => by
          have : c = i + 1 := by omega
          subst this
          have := hh' 0 (Nat.zero_le _)
          simpa using this) hr' c h h2'
        exact ⟨s, List.mem_cons_of_mem _ hs, q⟩
      · exact ⟨(lo, i + 1, H), List.mem_cons_self, h1, Nat.lt_succ_of_le h, (hc c h1 h).symm⟩

section
variable (P) (ft)
noncomputable def rexIs (A : Fr) (o : Oper) (H : Heap) (v : Value) : Bool := match rexec P ft A.get o H with
  | some u => veq u v
  | none => false
noncomputable def hpure (A : Fr) (o : Oper) (H : Heap) : Bool := cond (kindPure o) (cond (Orc.orcQ P o A.get) false (fast P ft A.get o H).isSome) (pexec P A.get o).isSome
noncomputable def dynF (ops : Array Oper) (ms : List Nat) (segs : List (Nat × Nat × Heap)) : List Oper → List Ent → Nat → Bool
  | o :: l, e :: r, i => cond (reader o) (cond e.wt (cond (hpure P ft e.A o e.H) true (cond (rexIs P ft e.A o e.H e.v)
      (segs.all fun s => cond (anyF (fun c => compat ops ms c i) (s.2.1 - s.1) s.1) (rexIs P ft e.A o s.2.2 e.v) true) false)) true) true && dynF ops ms segs l r (i + 1)
  | _, _, _ => true
noncomputable def drawRun3 (ih : Runner) (ops : Array Oper) (A : Fr) (H : Heap) : Option (Fr × Heap) :=
  match lexRun P ft ih ops ops.toList A H with
  | some (tr, A', H') => cond (staticQ reader ops (masks ops.toList [])) (cond (dynF P ft ops (masks ops.toList []) (segsOf H' ops.toList tr 0 H 0) ops.toList tr 0) (some (A', H')) none) none
  | none => none
end

theorem hpure_ok {A : Fr} {o : Oper} {H : Heap} (h : hpure P ft A o H = true) : (pexec P A.get o).isSome = true := by
  unfold hpure at h
  cases hk : kindPure o with
  | false => rw [hk] at h; exact h
  | true =>
    rw [hk, cond_true] at h
    cases hq : Orc.orcQ P o A.get with
    | true => rw [hq] at h; simp at h
    | false =>
      rw [hq, cond_false] at h
      cases hf : fast P ft A.get o H with
      | none => rw [hf] at h; simp at h
      | some r =>
        obtain ⟨v, hv⟩ := fast_pure hk hf
        unfold pexec
        cases ho : Orc.orc P o A.get with
        | some u => rfl
        | none =>
          dsimp only
          rw [hq, cond_false, hk, if_pos rfl, fast_ft (ft' := ft) hk, hv]
          rfl
theorem dynF_at {ops : Array Oper} {ms : List Nat} {segs : List (Nat × Nat × Heap)} : ∀ (l : List Oper) (r : List Ent) (i : Nat), dynF P ft ops ms segs l r i = true →
    ∀ j o e, l[j]? = some o → r[j]? = some e → reader o = true → e.wt = true →
      (pexec P e.A.get o).isSome = true ∨ (rexIs P ft e.A o e.H e.v = true ∧ ∀ s ∈ segs, ∀ c, s.1 ≤ c → c < s.2.1 → compat ops ms c (i + j) = true → rexIs P ft e.A o s.2.2 e.v = true)
  | [], _, _, _, j, o, e, h1, _, _, _ => by simp at h1
  | _ :: _, [], _, _, j, o, e, _, h2, _, _ => by simp at h2
  | o0 :: l, e0 :: r, i, h, j, o, e, h1, h2, hr, hw => by
    have h' : (cond (reader o0) (cond e0.wt (cond (hpure P ft e0.A o0 e0.H) true (cond (rexIs P ft e0.A o0 e0.H e0.v)
      (segs.all fun s => cond (anyF (fun c => compat ops ms c i) (s.2.1 - s.1) s.1) (rexIs P ft e0.A o0 s.2.2 e0.v) true) false)) true) true && dynF P ft ops ms segs l r (i + 1)) = true := h
    rw [Bool.and_eq_true] at h'
    cases j with
    | succ j =>
      have := dynF_at l r (i + 1) h'.2 j o e (by simpa using h1) (by simpa using h2) hr hw
      rwa [show i + 1 + j = i + (j + 1) by omega] at this
    | zero =>
      simp only [List.getElem?_cons_zero, Option.some.injEq] at h1 h2
      subst h1 h2
      have g := h'.1
      rw [hr, cond_true, hw, cond_true] at g
      cases hp : hpure P ft e0.A o0 e0.H with
      | true => exact .inl (hpure_ok hp)
      | false =>
        rw [hp, cond_false] at g
        cases hx : rexIs P ft e0.A o0 e0.H e0.v with
        | false => rw [hx] at g; simp at g
        | true =>
          rw [hx, cond_true, List.all_eq_true] at g
          refine .inr ⟨rfl, fun s hs c c1 c2 hc => ?_⟩
          have := g s hs
          rw [anyF_of (f := fun c => compat ops ms c i) _ s.1 c c1 (by omega) (by simpa using hc), cond_true] at this
          exact this

theorem drawRun3_sub {ops : Array Oper} {A A' : Fr} {H H' : Heap} (h : drawRun3 P ft ih ops A H = some (A', H')) : drawRun P ft ih ops A H = some (A', H') := by
  unfold drawRun3 at h
  unfold drawRun
  cases hl : lexRun P ft ih ops ops.toList A H with
  | none => rw [hl] at h; simp at h
  | some x =>
    obtain ⟨tr, A1, H1⟩ := x
    rw [hl] at h
    dsimp only at h ⊢
    cases hs : staticQ reader ops (masks ops.toList []) with
    | false => rw [hs] at h; simp at h
    | true =>
      rw [hs, cond_true] at h
      cases hd : dynF P ft ops (masks ops.toList []) (segsOf H1 ops.toList tr 0 H 0) ops.toList tr 0 with
      | false => rw [hd] at h; simp at h
      | true =>
        rw [hd, cond_true] at h
        obtain ⟨q1, q2, q3, q4⟩ := lexRun_tr _ _ _ _ _ _ hl
        have hat := dynF_at _ _ _ hd
        have hlen : tr.length = ops.size := by simpa using q1
        generalize hD : (⟨A1, H1, undf, false⟩ : Ent) = D at *
        have htr : ∀ i, i < ops.size → tr[i]? = some (tr.getD i D) := fun i hi => by
          rw [List.getD_eq_getElem?_getD]
          simp [show i < tr.length by omega]
        have hop : ∀ i, i < ops.size → ops.toList[i]? = some (ops.getD i default) := fun i hi => by simp [hi]
        have hcon : ∀ j o, ops.toList[j]? = some o → reader o = true → (tr.getD (0 + j + 1) D).H = (tr.getD (0 + j) D).H := by
          intro j o ho hr
          simp only [Nat.zero_add]
          have hj : j < ops.size := by
            have := (List.getElem?_eq_some_iff.1 ho).1
            simpa using this
          cases hw : (tr.getD j D).wt with
          | false => exact (q4.no j o ho hw).2
          | true =>
            have hy := q4.yes j o ho hw
            have hre : rexec P ft (tr.getD j D).A.get o (tr.getD j D).H = none ∨ ∃ u, rexec P ft (tr.getD j D).A.get o (tr.getD j D).H = some u := by
              cases rexec P ft (tr.getD j D).A.get o (tr.getD j D).H <;> simp
            have hre' : ∃ u, rexec P ft (tr.getD j D).A.get o (tr.getD j D).H = some u := by
              rcases hat j o _ ho (htr j hj) hr hw with h1 | ⟨h1, _⟩
              · obtain ⟨u, hu⟩ := Option.isSome_iff_exists.1 h1
                exact ⟨u, pexec_ok hu _⟩
              · unfold rexIs at h1
                rcases hre with hn | hn
                · rw [hn] at h1; simp at h1
                · exact hn
            obtain ⟨u, hu⟩ := hre'
            unfold stepVal at hy
            rw [rexec_ok hu] at hy
            simp only [Option.some.injEq, Prod.mk.injEq] at hy
            exact hy.2.symm
        have hcov := segs_cover (Hf := H1) (FH := fun i => (tr.getD i D).H) ops.toList tr 0 H 0 (Nat.le_refl _) (fun j hj => by
            simp only [Nat.zero_add]
            have hj' : j ≤ tr.length := by rw [q1]; exact hj
            rcases Nat.lt_or_eq_of_le hj' with h | h
            · rw [List.drop_eq_getElem_cons h]
              show _ = (tr[j]).H
              rw [List.getD_eq_getElem?_getD, List.getElem?_eq_getElem h]
              rfl
            · rw [List.drop_eq_nil_of_le (by omega), List.getD_eq_getElem?_getD, List.getElem?_eq_none (by omega)]
              show D.H = H1
              rw [← hD]) (fun c _ hc => by
            have : c = 0 := by omega
            subst this; exact q3) hcon
        have hdy : dynOk P ft ops (masks ops.toList []) tr D = true := by
          unfold dynOk allN
          rw [List.all_eq_true]
          intro i hi
          have hi' : i < ops.size := List.mem_range.1 hi
          have ho : ops[i]? = some (ops.getD i default) := by simpa using hop i hi'
          rw [ho]
          dsimp only
          cases hr : reader (ops.getD i default) with
          | false => rfl
          | true =>
            cases hw : (tr.getD i D).wt with
            | false => rfl
            | true =>
              rcases hat i _ _ (hop i hi') (htr i hi') hr hw with h1 | ⟨_, h1⟩
              · rw [h1]; rfl
              · simp only [Bool.or_eq_true]
                refine .inr ?_
                rw [List.all_eq_true]
                intro c hc
                have hc' : c < ops.size + 1 := List.mem_range.1 hc
                cases hcm : compat ops (masks ops.toList []) c i with
                | false => rfl
                | true =>
                  obtain ⟨s, hs', c1, c2, c3⟩ := hcov c (Nat.zero_le _) (by simp; omega)
                  have := h1 s hs' c c1 c2 (by rw [Nat.zero_add]; exact hcm)
                  rw [c3] at this
                  unfold rexIs at this
                  simp only [Bool.not_true, Bool.false_or]
                  exact this
        simp only [hdy, Bool.and_self, if_true]
        exact h
end Go.Ev
