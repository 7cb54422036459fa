/-
  Arguments that are structs of whole numbers and truths: what they are, and that they read the same whatever the world. No condition.
-/
import Derived.Test.YtokcoabcflpbbaaEvR
import Derived.WalkKit
import Derived.ProofKit
import Derived.OpenShut
namespace Go.Ev
open Go.ChangeShapes Go.WideShapes Go.ChangeAt Go.RowKit
variable {P : Program} {H : Type} {enc : TypeId × Value → H}

def Lf.desc : Lf → TypeDesc
  | .int k => .int k
  | .bool => .bool
/-- A number that a leaf may be. -/
def Lf.fits : Lf → Int → Prop
  | .int k, n => (Lit.int k n).wf = true
  | .bool, n => n = 0 ∨ n = 1
def FitL : List Lf → List Int → Prop
  | [], [] => True
  | l :: ls, n :: ns => l.fits n ∧ FitL ls ns
  | _, _ => False
theorem FitL.len : ∀ {ls : List Lf} {ns : List Int}, FitL ls ns → ns.length = ls.length
  | [], [], _ => rfl
  | _ :: _, _ :: _, h => by simp [FitL.len h.2]
  | [], _ :: _, h => h.elim
  | _ :: _, [], h => h.elim

theorem sc_trod {l : Lf} {t : TypeId} (ht : P.underlying t = some l.desc) {w : World} {base : Nat} {sp : Nat → Bool} {held : Bool} {fuel : Nat} {cs : List Value} {y : DataW H × List MemPlace} (h : DataW.trod enc P w base sp held fuel t cs = some y) :
    ∃ n, cs = [l.mkV n] ∧ l.fits n ∧ y.2 = [] ∧ ∀ (w' : World) (base' : Nat) (sp' : Nat → Bool) (held' : Bool) (fuel' : Nat), DataW.trod enc P w' base' sp' held' (fuel' + 1) t cs = some y := by
  cases fuel with
  | zero => simp [DataW.trod] at h
  | succ fuel =>
    cases l with
    | int k =>
      have ht' : P.underlying t = some (.int k) := ht
      rcases cs with _ | ⟨v, _ | ⟨v2, r⟩⟩
      · simp [DataW.trod, ht'] at h
      · cases v <;> simp [DataW.trod, ht'] at h
        rename_i k' n
        obtain ⟨⟨rfl, hw⟩, rfl⟩ := h
        exact ⟨n, rfl, hw, rfl, fun w' base' sp' held' fuel' => by simp [DataW.trod, ht', hw]⟩
      · cases v <;> simp [DataW.trod, ht'] at h
    | bool =>
      have ht' : P.underlying t = some .bool := ht
      rcases cs with _ | ⟨v, _ | ⟨v2, r⟩⟩
      · simp [DataW.trod, ht'] at h
      · cases v <;> simp [DataW.trod, ht'] at h
        rename_i b
        subst h
        refine ⟨b2i b, ?_, ?_, rfl, fun w' base' sp' held' fuel' => by simp [DataW.trod, ht']⟩
        · show [Value.bool b] = [Value.bool (decide (b2i b ≠ 0))]
          rw [b2i_ne]
        · cases b
          · exact .inl rfl
          · exact .inr rfl
      · cases v <;> simp [DataW.trod, ht'] at h

/-- The leaves of a struct of such fields. -/
def flatFs (P : Program) : Nat → List Field → Option (List Lf)
  | _, [] => some []
  | i, f :: fs => if f.offset = i ∧ P.cellsOf f.type = 1 then
      (match P.underlying f.type, flatFs P (i + 1) fs with
      | some (.int k), some ls => some (.int k :: ls)
      | some .bool, some ls => some (.bool :: ls)
      | _, _ => none) else none
def flatS (P : Program) (t : TypeId) : Option (List Lf) :=
  match P.underlying t with
  | some (.struct fs) => if P.cellsOf t = fs.size then flatFs P 0 fs.toList else none
  | _ => none

theorem flatFs_cons {i : Nat} {f : Field} {fs : List Field} {ls : List Lf} (h : flatFs P i (f :: fs) = some ls) : ∃ l ls', ls = l :: ls' ∧ P.underlying f.type = some l.desc ∧ f.offset = i ∧ P.cellsOf f.type = 1 ∧ flatFs P (i + 1) fs = some ls' := by
  simp only [flatFs] at h
  split at h
  · rename_i hc
    split at h
    · rename_i k ls' hu hf
      simp only [Option.some.injEq] at h
      exact ⟨.int k, ls', h.symm, hu, hc.1, hc.2, hf⟩
    · rename_i ls' hu hf
      simp only [Option.some.injEq] at h
      exact ⟨.bool, ls', h.symm, hu, hc.1, hc.2, hf⟩
    · simp at h
  · simp at h

theorem mapM_inv {α β : Type} {f : α → Option β} {x : α} {xs : List α} {r : List β} (h : (x :: xs).mapM f = some r) : ∃ y ys, f x = some y ∧ xs.mapM f = some ys ∧ r = y :: ys := mapM_none h
theorem mapM_mk {α β : Type} {f : α → Option β} {x : α} {xs : List α} {y : β} {ys : List β} (h1 : f x = some y) (h2 : xs.mapM f = some ys) : (x :: xs).mapM f = some (y :: ys) := by
  rw [List.mapM_cons, h1, h2]
  rfl

theorem fl_trod {w : World} {base : Nat} {sp : Nat → Bool} {held : Bool} {fuel : Nat} {cs : List Value} : ∀ (fs : List Field) (i : Nat) (ls : List Lf) (ys : List (DataW H × List MemPlace)), flatFs P i fs = some ls → cs.length = i + fs.length →
    fs.mapM (fun f => DataW.trod enc P w base sp held fuel f.type ((cs.drop f.offset).take (P.cellsOf f.type))) = some ys →
    ∃ ns, cs.drop i = fillL ls ns ∧ FitL ls ns ∧ ys.flatMap (·.2) = [] ∧ ∀ (w' : World) (base' : Nat) (sp' : Nat → Bool) (held' : Bool) (fuel' : Nat), fs.mapM (fun f => DataW.trod enc P w' base' sp' held' (fuel' + 1) f.type ((cs.drop f.offset).take (P.cellsOf f.type))) = some ys
  | [], i, ls, ys, hf, hl, h => by
    simp only [flatFs, Option.some.injEq] at hf
    subst hf
    simp at h
    subst h
    exact ⟨[], by rw [List.drop_eq_nil_of_le (by simp at hl; omega)]; rfl, trivial, rfl, fun _ _ _ _ _ => rfl⟩
  | f :: fs, i, ls, ys, hf, hl, h => by
    obtain ⟨l, ls', rfl, hu, ho, hc, hf'⟩ := flatFs_cons hf
    obtain ⟨y, ys', h1, h2, rfl⟩ := mapM_inv h
    obtain ⟨n, e1, q1, q2, q3⟩ := sc_trod hu h1
    obtain ⟨ns, e2, q4, q5, q6⟩ := fl_trod fs (i + 1) ls' ys' hf' (by simp at hl ⊢; omega) h2
    refine ⟨n :: ns, ?_, ⟨q1, q4⟩, by simp [q2, q5], fun w' base' sp' held' fuel' => mapM_mk (q3 _ _ _ _ _) (q6 _ _ _ _ _)⟩
    have hi : i < cs.length := by simp at hl; omega
    rw [ho, hc, List.drop_eq_getElem_cons hi, List.take_succ_cons, List.take_zero] at e1
    rw [List.drop_eq_getElem_cons hi]
    simp only [List.cons.injEq, and_true] at e1
    show _ = l.mkV n :: fillL ls' ns
    rw [e1, e2]

/-- A struct of whole numbers and truths: its numbers; that it reads the same in every world. -/
theorem open_flat {t : TypeId} {ls : List Lf} (ht : flatS P t = some ls) {w : World} {r : Reach} {b0 base : Nat} {sp : Nat → Bool} {held : Bool} {v : Value} {d : DataW H} {p : List MemPlace} (hv : Value.okWide P w r b0 t v) (h : DataW.Trod enc P w base sp held t v d p) :
    ∃ ns, v = .agg (fillL ls ns).toArray ∧ FitL ls ns ∧ p = [] ∧ ∀ (w' : World) (base' : Nat) (sp' : Nat → Bool) (held' : Bool), DataW.Trod enc P w' base' sp' held' t v d [] := by
  unfold flatS at ht
  split at ht
  · rename_i fs hu
    split at ht
    · rename_i hc
      obtain ⟨cs, rfl, hsz⟩ := okWide_struct hu hv
      obtain ⟨fuel, hf⟩ := h
      cases fuel with
      | zero => simp [DataW.trod] at hf
      | succ fuel =>
        have e : (Value.agg cs).cells.toList = cs.toList := rfl
        rw [e] at hf
        simp only [DataW.trod, hu] at hf
        split at hf
        · rename_i hl
          simp only [Option.map_eq_some_iff] at hf
          obtain ⟨ys, hys, hd⟩ := hf
          simp only [Prod.mk.injEq] at hd
          obtain ⟨rfl, rfl⟩ := hd
          obtain ⟨ns, e1, q1, q2, q3⟩ := fl_trod fs.toList 0 ls ys ht (by simpa using hl.trans hc) hys
          refine ⟨ns, ?_, q1, q2, fun w' base' sp' held' => ?_⟩
          · rw [List.drop_zero] at e1
            rw [← e1]
          · obtain ⟨g, hg⟩ : ∃ g, fs.toList.mapM (fun f => DataW.trod enc P w' base' sp' held' g f.type ((cs.toList.drop f.offset).take (P.cellsOf f.type))) = some ys := ⟨0 + 1, q3 w' base' sp' held' 0⟩
            refine ⟨g + 1, ?_⟩
            show DataW.trod enc P w' base' sp' held' (g + 1) t cs.toList = _
            simp only [DataW.trod, hu]
            rw [if_pos hl, hg]
            simp [q2]
        · simp at hf
    · simp at ht
  · simp at ht
end Go.Ev
