/-
  The evaluator: a call whose arguments hold no address: what it answers, whatever the world. Conditions: EnvOk; the world has the program's variables.
-/
import Derived.Test.YtghgpmfofnhjlaaEvK
import Derived.RowKit3
namespace Go.Ev
open Go.RowKit
variable {P : Program} {ft : Nat → Option Func}

theorem Ext.grown {ι : Inj} (hι : ∀ n i, ι n = some i → n < P.globals.size) {w : World} {ι' : Inj} {w' : World} (h : Ext P ι w ι' w') : Grown w w' := by
  refine ⟨⟨h.os, h.output, fun i hi => ?_⟩, h.froz, h.size⟩
  have e := h.keep i hi fun n j hn hg _ => by have := hι n j hn; omega
  rw [e]
  cases w.heap[i]? with
  | none => rfl
  | some o => cases o with
    | cells c t fr => exact ⟨rfl, rfl, rfl, fun _ _ => rfl⟩
    | map es clock => exact .inr ⟨rfl, rfl⟩
    | _ => rfl

noncomputable def H0 (P : Program) : Heap := { base := P.globals.size, next := P.globals.size, m := .leaf }
def ι0 (P : Program) : Inj := fun n => if n < P.globals.size then some ⟨n, 0, 0, 0, 1⟩ else none

theorem rel0 {w : World} (hw : P.globals.size ≤ w.heap.size) : Rel P (ι0 P) (H0 P) w := by
  refine ⟨rfl, fun g hg => ⟨⟨g, 0, 0, 0, 1⟩, by unfold ι0; exact if_pos hg, rfl, rfl⟩, fun n i h hb => ?_, Nat.le_refl _, hw, fun n hn => ?_, fun n i h => ?_, fun n b h => ?_, fun n m b c i j h => ?_⟩
  · have hb' : P.globals.size ≤ n := hb
    unfold ι0 at h
    rw [if_neg (Nat.not_lt.2 hb')] at h
    simp at h
  · have hn' : P.globals.size ≤ n := hn
    unfold ι0
    rw [if_neg (Nat.not_lt.2 hn')]
  · unfold ι0 at h
    by_cases hn : n < P.globals.size
    · rw [if_pos hn] at h
      simp at h
      subst h
      show n < w.heap.size
      omega
    · rw [if_neg hn] at h; simp at h
  · simp [H0, Heap.get, T.get_leaf] at h
  · simp [H0, Heap.get, T.get_leaf] at h

def outIs (b : Bool) : Option (Out × Heap) → Bool
  | some (.val (.bool c), _) => b == c
  | _ => false

theorem closed_bool (hE : EnvOk P ft) {n : Nat} {f : FuncId} {args : Array Value} {b : Bool} (hargs : args.all ground1 = true) (hrun : outIs b (run P ft n (.fn f args) (H0 P)) = true) (w : World)
    (hw : P.globals.size ≤ w.heap.size) : Calls P f args w fun e w' => e = .returned (.bool b) ∧ Grown w w' := by
  cases hr : run P ft n (.fn f args) (H0 P) with
  | none => rw [hr] at hrun; simp [outIs] at hrun
  | some r =>
    obtain ⟨out, H'⟩ := r
    rw [hr] at hrun
    cases out with
    | exit e A => simp [outIs] at hrun
    | val v =>
      cases v <;> simp [outIs] at hrun
      subst hrun
      refine Calls.mono ((run_good hE n).fn f args (H0 P) _ H' hr (ι0 P) args w (rel0 hw) (ground_arr hargs)) fun e w' he => ?_
      obtain ⟨ι', v', rfl, x1, r1, q1⟩ := he
      cases q1
      refine ⟨rfl, x1.grown fun n i h => ?_⟩
      unfold ι0 at h
      by_cases hn : n < P.globals.size
      · exact hn
      · rw [if_neg hn] at h; simp at h

/-! ### What is asked of a program -/
noncomputable def ftab (P : Program) : T Func := T.ofL P.funcs.toList 0 .leaf
noncomputable def ftOf (P : Program) (f : Nat) : Option Func := match (ftab P).get f with
  | some fn => if fn.body.isSome && !(fn.name == "runtime.NumGoroutine") then some fn else none
  | none => none

theorem envOk (hm : P.follows .mixedOrders = true) (hz : (P.types.all fun i => match i.zero with | some z => ground z | none => true) = true) : EnvOk P (ftOf P) := by
  refine ⟨fun t i z ht hi hzz => ?_, hm, fun f fn h => ?_⟩
  · rw [Array.all_eq_true_iff_forall_mem] at hz
    have := hz i (Array.mem_of_getElem? hi)
    rw [hzz] at this
    exact this
  · unfold ftOf at h
    split at h
    · rename_i fn' hf
      split at h
      · rename_i hc
        simp only [Option.some.injEq] at h
        subst h
        simp only [Bool.and_eq_true, Bool.not_eq_true'] at hc
        unfold ftab at hf
        rw [T.get_ofL] at hf
        split at hf
        · refine ⟨?_, hc.2, ?_⟩
          · simpa using hf
          · exact Option.isSome_iff_exists.1 hc.1
        · rw [T.get_leaf] at hf; simp at hf
      · simp at h
    · simp at h

end Go.Ev
