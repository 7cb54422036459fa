/-
  The evaluator: marks laid into a program's functions; loops of several marks; runs with them. Conditions: EnvOk.
-/
import Derived.Test.YtmeppoihgfdgaaaDoorEvX2
namespace Go.Ev
open Go.RowKit

/-- Marks: each a function and a path in its code; a mark's number is its place in the list. -/
abbrev Mrk := FuncId × List Nat
def codeAt (P : Program) (m : Mrk) : Option Code := match P.funcs[m.1]? with
  | some fn => match fn.body with
    | some c => subC m.2 c
    | none => none
  | none => none
def lamOf (P : Program) (ms : List Mrk) (n : Nat) : Option Code := match ms[n]? with
  | some m => codeAt P m
  | none => none
def mksOf : List Mrk → Nat → FuncId → Mks
  | [], _, _ => []
  | m :: l, n, f => if Nat.beq m.1 f then (m.2, n) :: mksOf l (n + 1) f else mksOf l (n + 1) f
theorem mksOf_ok : ∀ (l : List Mrk) (i : Nat) (f : FuncId) (p : List Nat) (n : Nat), (p, n) ∈ mksOf l i f → i ≤ n ∧ l[n - i]? = some (f, p)
  | [], _, _, _, _, h => by simp [mksOf] at h
  | m :: l, i, f, p, n, h => by
    have key : (p, n) ∈ mksOf l (i + 1) f → i ≤ n ∧ (m :: l)[n - i]? = some (f, p) := fun h => by
      obtain ⟨h1, h2⟩ := mksOf_ok l (i + 1) f p n h
      refine ⟨by omega, ?_⟩
      rw [show n - i = (n - (i + 1)) + 1 by omega]
      simpa using h2
    simp only [mksOf] at h
    split at h
    · rename_i hb
      rcases List.mem_cons.1 h with e | h
      · cases e
        have := Nat.eq_of_beq_eq_true hb
        subst this
        exact ⟨Nat.le_refl _, by simp⟩
      · exact key h
    · exact key h
noncomputable def ftM (P : Program) (ms : List Mrk) (f : FuncId) : Option Func := match ftOf P f with
  | some fn => match mksOf ms 0 f with
    | [] => some fn
    | m :: l => match fn.body with
      | some c => some { fn with body := some (annM (m :: l) c) }
      | none => none
  | none => none
theorem ann_no {c' c : Code} (h : @Ann noMarks c' c) : c' = c := by
  induction h with
  | same => rfl
  | mark hq => simp [Marks.code] at hq
  | seq _ _ h1 h2 => rw [h1, h2]
  | cond _ _ h1 h2 => rw [h1, h2]
  | block _ h => rw [h]
  | loop _ h => rw [h]
  | scope _ h => rw [h]
theorem envM {P : Program} (hE : EnvOk P (ftOf P)) (ms : List Mrk) (hm : (ms.all fun m => (codeAt P m).isSome) = true) : @EnvOk ⟨lamOf P ms⟩ P (ftM P ms) := by
  refine @EnvOk.mk ⟨lamOf P ms⟩ P (ftM P ms) (@EnvOk.zero noMarks _ _ hE) (@EnvOk.mixed noMarks _ _ hE) fun f fn h => ?_
  unfold ftM at h
  split at h
  · rename_i fn0 h0
    obtain ⟨fo, c, c', h1, h2, h3, h4, h5, h6, h7, h8⟩ := @EnvOk.fn noMarks _ _ hE f fn0 h0
    have hcc := ann_no h5
    subst hcc
    split at h
    · simp only [Option.some.injEq] at h
      subst h
      exact ⟨fo, c', c', h1, h2, h3, h4, @Ann.same ⟨lamOf P ms⟩ _, h6, h7, h8⟩
    · rename_i m l hml
      rw [h4] at h
      simp only [Option.some.injEq] at h
      subst h
      refine ⟨fo, c', annM (m :: l) c', h1, h2, h3, rfl, @annM_ok ⟨lamOf P ms⟩ c' _ fun p n hp => ?_, h6, h7, h8⟩
      rw [← hml] at hp
      obtain ⟨_, q⟩ := mksOf_ok ms 0 f p n hp
      rw [Nat.sub_zero] at q
      have hs := (List.all_eq_true.1 hm) (f, p) (List.mem_of_getElem? q)
      have hc : codeAt P (f, p) = subC p c' := by
        unfold codeAt
        rw [h1]
        dsimp only
        rw [h3]
      rw [hc] at hs
      obtain ⟨d, hd⟩ := Option.isSome_iff_exists.1 hs
      refine ⟨d, hd, ?_⟩
      show lamOf P ms n = some d
      unfold lamOf
      rw [q]
      exact hc.trans hd
  · simp at h

def bodyL : Code → Code
  | .loop c => c
  | c => c
/-- The body of the loop at a mark. -/
def cAt (P : Program) (m : Mrk) : Code := match codeAt P m with
  | some c => bodyL c
  | none => .skip
noncomputable def lkL (lks : List (Fr → Heap → Option (AExit × Fr × Heap))) (n : Nat) (A : Fr) (H : Heap) : Option (AExit × Fr × Heap) := match lks[n]? with
  | some f => f A H
  | none => none
theorem LkOk.of {P : Program} {S : Sy} {gs : Gs} {ms : List Mrk} {lks : List (Fr → Heap → Option (AExit × Fr × Heap))} (h : ∀ n f, lks[n]? = some f → ∀ c, lamOf P ms n = some c → LkAt P S gs c f) : LkOk P S gs (lamOf P ms) (lkL lks) := by
  intro G hG n c A H e A' H' hc hl ι a w hw hA
  have hl' : lkL lks n A H = some (e, A', H') := hl
  unfold lkL at hl'
  split at hl'
  · rename_i f hf
    exact h n f hf c hc G hG A H e A' H' hl' ι a w hw hA
  · simp at hl'
theorem LkOk.one {P : Program} {S : Sy} {gs : Gs} {m : Mrk} {c : Code} (hc : codeAt P m = some c) {f : Fr → Heap → Option (AExit × Fr × Heap)} (h : LkAt P S gs c f) : LkOk P S gs (lamOf P [m]) (lkL [f]) :=
  LkOk.of fun n g hg c' hc' => by
    cases n with
    | zero =>
      simp only [List.getElem?_cons_zero, Option.some.injEq] at hg
      subst hg
      have e : lamOf P [m] 0 = some c := hc
      rw [e] at hc'
      cases hc'
      exact h
    | succ n => simp at hg
/-- The rounds of a loop in which no other one is marked. -/
theorem ann_self {Λ : Nat → Option Code} (c : Code) : @Ann ⟨Λ⟩ c c := @Ann.same ⟨Λ⟩ c
end Go.Ev
