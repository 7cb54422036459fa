/-
  The evaluator: what the row's reading says of a slice that is given. No condition.
-/
import Derived.Test.YtmeppoihgfdgaaaDoorEvGi
import Derived.Deep.Slices
import Derived.ChangeArms
import Derived.Carry
namespace Go.Ev
open Go.RowKit Go.Deep
variable {P : Program}

/-- A type's cells, if they are numbers and truths alone. -/
def flatF (P : Program) (F : TypeId → Option (List (Option IntKind))) : List Field → Nat → Option (List (Option IntKind))
  | [], _ => some []
  | g :: gs, off => match F g.type, flatF P F gs (off + P.cellsOf g.type) with
    | some ks, some ls => if g.offset = off ∧ P.cellsOf g.type = ks.length then some (ks ++ ls) else none
    | _, _ => none
def flatB (P : Program) : Nat → TypeId → Option (List (Option IntKind))
  | 0, _ => none
  | f + 1, t => match P.underlying t with
    | some (.int k) => some [some k]
    | some .bool => some [none]
    | some (.struct fs) => flatF P (flatB P f) fs.toList 0
    | _ => none
theorem b2i_not0 (b : Bool) : Value.bool b = kV none (b2i b) := by
  show _ = Value.bool (decide (b2i b ≠ 0))
  rw [b2i_ne]
theorem flat_cells {H : Type} {enc : TypeId × Value → H} {w : World} {base : Nat} {sp : Nat → Bool} {held : Bool} : ∀ (f : Nat) (t : TypeId) (ks : List (Option IntKind)), flatB P f t = some ks → ∀ (fuel : Nat) (cs : List Value) (x : DataW H × List MemPlace), DataW.trod enc P w base sp held fuel t cs = some x →
    ∀ (m : Nat) (k : Option IntKind), ks[m]? = some k → ∃ n, cs[m]? = some (kV k n) ∧ (∀ k', k = some k' → (Lit.int k' n).wf = true)
  | 0, _, _, h, _, _, _, _, _, _, _ => by simp [flatB] at h
  | f + 1, t, ks, h, fuel, cs, x, hx, m, k, hm => by
    simp only [flatB] at h
    split at h
    · rename_i k0 hu
      simp only [Option.some.injEq] at h
      subst h
      obtain ⟨n, rfl, _, hw⟩ := DataW.trod_int hu hx
      cases m with
      | zero =>
        simp only [List.getElem?_cons_zero, Option.some.injEq] at hm
        subst hm
        exact ⟨n, rfl, fun k' e => by cases e; exact hw⟩
      | succ m => simp at hm
    · rename_i hu
      simp only [Option.some.injEq] at h
      subst h
      obtain ⟨b, rfl, _⟩ := DataW.trod_bool hu hx
      cases m with
      | zero =>
        simp only [List.getElem?_cons_zero, Option.some.injEq] at hm
        subst hm
        exact ⟨b2i b, by rw [← b2i_not0]; rfl, fun k' e => by cases e⟩
      | succ m => simp at hm
    · rename_i fs hu
      obtain ⟨xs, n, _, _, hl, hxl, hf⟩ := DataW.trod_struct hu hx
      have key : ∀ (gs : List Field) (off : Nat) (ls : List (Option IntKind)), flatF P (flatB P f) gs off = some ls → (∀ g ∈ gs, ∃ y, DataW.trod enc P w base sp held n g.type ((cs.drop g.offset).take (P.cellsOf g.type)) = some y) →
          ∀ (m : Nat) (k : Option IntKind), ls[m]? = some k → ∃ n, cs[off + m]? = some (kV k n) ∧ (∀ k', k = some k' → (Lit.int k' n).wf = true) := by
        intro gs
        induction gs with
        | nil =>
          intro off ls h1 _ m k hm
          simp only [flatF, Option.some.injEq] at h1
          subst h1
          simp at hm
        | cons g gs ih =>
          intro off ls h1 h2 m k hm
          simp only [flatF] at h1
          split at h1
          · rename_i k1 k2 e1 e2
            split at h1
            · rename_i hc
              simp only [Option.some.injEq] at h1
              subst h1
              by_cases hlt : m < k1.length
              · rw [List.getElem?_append_left hlt] at hm
                obtain ⟨y, hy⟩ := h2 g List.mem_cons_self
                obtain ⟨n', q1, q2⟩ := flat_cells f g.type k1 e1 n _ y hy m k hm
                rw [List.getElem?_take, if_pos (by omega), List.getElem?_drop, hc.1] at q1
                exact ⟨n', q1, q2⟩
              · rw [List.getElem?_append_right (by omega)] at hm
                obtain ⟨n', q1, q2⟩ := ih _ _ e2 (fun g' hg => h2 g' (List.mem_cons_of_mem _ hg)) _ _ hm
                rw [hc.2, show off + k1.length + (m - k1.length) = off + m by omega] at q1
                exact ⟨n', q1, q2⟩
            · simp at h1
          · simp at h1
      obtain ⟨n', q1, q2⟩ := key fs.toList 0 ks h (fun g hg => by
        obtain ⟨i, hi⟩ := List.getElem?_of_mem hg
        rw [Array.getElem?_toList] at hi
        have hil : i < fs.size := (Array.getElem?_eq_some_iff.1 hi).1
        have := hf i g hi
        rw [List.getElem?_eq_getElem (show i < xs.length by omega)] at this
        exact ⟨_, this⟩) m k hm
      rw [Nat.zero_add] at q1
      exact ⟨n', q1, q2⟩
    · simp at h
theorem slIn_of {H : Type} {enc : TypeId × Value → H} {w : World} {base : Nat} {sp : Nat → Bool} {held : Bool} {t e : TypeId} {v : Value} {d : DataW H} {ps : List MemPlace} {ks : List (Option IntKind)} (ht : P.underlying t = some (.slice e)) (hk : flatB P 9 e = some ks) (hc : P.cellsOf e = ks.length)
    {r : Reach} {b0 : Nat} (hval : Value.okWide P w r b0 t v) (h : DataW.Trod enc P w base sp held t v d ps) : SlIn w ks v := by
  obtain ⟨a0, l0, c0, rfl⟩ := WideShapes.okWide_slice ht hval
  obtain ⟨fuel, h⟩ := h
  have hcs : (Value.slice a0 l0 c0).cells.toList = [.slice a0 l0 c0] := rfl
  rw [hcs] at h
  rcases open_slice ht h with ⟨h1, _⟩ | ⟨a, len, cap, m, n, D, Pl, h1, _, hl, hm, hmm, _, hi⟩
  · exact .inl (List.singleton_inj.1 h1)
  · refine .inr ⟨a, len, cap, List.singleton_inj.1 h1, by unfold maxLen at hm; omega, fun j hj i k hik => ?_⟩
    obtain ⟨cs', q1, q2⟩ := hi j (by rw [hmm]; split <;> omega)
    obtain ⟨n', q3, q4⟩ := flat_cells 9 e ks hk n cs' _ q2 i k hik
    obtain ⟨_, hcl, hat⟩ := World.cells?_some q1
    have hil : i < ks.length := (List.getElem?_eq_some_iff.1 hik).1
    have := hat i (by omega)
    rw [hc, Ev.add_add] at this
    exact ⟨n', by rw [this]; exact q3, q4⟩
theorem Quiet.below {w w' : World} (x : Quiet w w') : Below w.heap.size w w' := ⟨x.os, x.tape, x.output, x.size, fun k hk => x.keep k hk⟩
/-- An argument that is read as before. -/
theorem stays {H : Type} {enc : TypeId × Value → H} {t : TypeId} (hl : laidOutB P = true) (hr : P.readableRec t = true) (hrow : t < P.types.size) {W W' : World} {sp : Nat → Bool} {v : Value} {d : DataW H} {ps : List MemPlace}
    (h : DataW.Trod enc P W 0 (fun _ => true) true t v d ps) (hb : Below W.heap.size W W') (hlt : ∀ x ∈ ps, x.block < W.heap.size) (hs : ∀ p ∈ ps, sp p.block = true) : DataW.Trod enc P W' 0 sp true t v d ps :=
  WideElems.Trod_stays hl hr hrow h (fun x hx => hb.same (hlt x hx)) hs
end Go.Ev
