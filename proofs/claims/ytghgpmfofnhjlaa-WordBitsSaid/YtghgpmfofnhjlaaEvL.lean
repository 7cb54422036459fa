/-
  The evaluator: a call whose arguments hold no address: what it answers, whatever the world. Conditions: EnvOk; the world has the program's variables.
-/
import Derived.Test.YtghgpmfofnhjlaaEvK
import Derived.RowKit3
namespace Go.Ev
open Go.RowKit
variable {P : Program} {ft : Nat → Option Func}

theorem Ext.grown {ι : Inj} (hι : ∀ n i, ι n = some i → n < P.globals.size) {w : World} {ι' : Inj} {w' : World} (h : Ext P ι w ι' w') : Grown w w' := by
  refine ⟨⟨h.os, h.output, fun i hi => ?_⟩, h.froz, h.size⟩
  have e := h.keep i hi fun n j hn hg _ => by have := hι n j hn; omega
  rw [e]
  cases w.heap[i]? with
  | none => rfl
  | some o => cases o with
    | cells c t fr => exact ⟨rfl, rfl, rfl, fun _ _ => rfl⟩
    | map es clock => exact .inr ⟨rfl, rfl⟩
    | _ => rfl

noncomputable def H0 (P : Program) : Heap := { base := P.globals.size, next := P.globals.size, m := .leaf }
def ι0 (P : Program) : Inj := fun n => if n < P.globals.size then some ⟨n, 0, 0, 0, 1⟩ else none

theorem rel0 {w : World} (hw : P.globals.size ≤ w.heap.size) : Rel P (ι0 P) (H0 P) w := by
  refine ⟨rfl, fun g hg => ⟨⟨g, 0, 0, 0, 1⟩, by unfold ι0; exact if_pos hg, rfl, rfl⟩, fun n i h hb => ?_, Nat.le_refl _, hw, fun n hn => ?_, fun n i h => ?_, fun n b h => ?_, fun n m b c i j h => ?_⟩
  · have hb' : P.globals.size ≤ n := hb
    unfold ι0 at h
    rw [if_neg (Nat.not_lt.2 hb')] at h
    simp at h
  · have hn' : P.globals.size ≤ n := hn
    unfold ι0
    rw [if_neg (Nat.not_lt.2 hn')]
  · unfold ι0 at h
    by_cases hn : n < P.globals.size
    · rw [if_pos hn] at h
      simp at h
      subst h
      show n < w.heap.size
      omega
    · rw [if_neg hn] at h; simp at h
  · simp [H0, Heap.get, T.get_leaf] at h
  · simp [H0, Heap.get, T.get_leaf] at h

def outIs (b : Bool) : Option (Out × Heap) → Bool
  | some (.val (.bool c), _) => b == c
  | _ => false

theorem ι0_glob {n : Nat} {i : Info} (h : ι0 P n = some i) : n < P.globals.size := by
  unfold ι0 at h
  by_cases hn : n < P.globals.size
  · exact hn
  · rw [if_neg hn] at h; simp at h

theorem closedK_bool (hE : EnvOk P ft) {K : FuncId → Array Value → Option Value} (hK : KOk P K) {n : Nat} {f : FuncId} {args : Array Value} {b : Bool} (hargs : args.all ground1 = true)
    (hrun : outIs b (runK P ft K n (.fn f args) (H0 P)) = true) (w : World) (hw : P.globals.size ≤ w.heap.size) : Calls P f args w fun e w' => e = .returned (.bool b) ∧ ∃ ι', Ext P (ι0 P) w ι' w' := by
  cases hr : runK P ft K n (.fn f args) (H0 P) with
  | none => rw [hr] at hrun; simp [outIs] at hrun
  | some r =>
    obtain ⟨out, H'⟩ := r
    rw [hr] at hrun
    cases out with
    | exit e A => simp [outIs] at hrun
    | val v =>
      cases v <;> simp [outIs] at hrun
      subst hrun
      refine Calls.mono ((runK_good hE hK n).fn f args (H0 P) _ H' hr (ι0 P) args w (rel0 hw) (ground_arr hargs)) fun e w' he => ?_
      obtain ⟨ι', v', rfl, x1, r1, q1⟩ := he
      cases q1
      exact ⟨rfl, ι', x1⟩

theorem closedK (hE : EnvOk P ft) {K : FuncId → Array Value → Option Value} (hK : KOk P K) {n : Nat} {f : FuncId} {args : Array Value} {b : Bool} (hargs : args.all ground1 = true)
    (hrun : outIs b (runK P ft K n (.fn f args) (H0 P)) = true) (w : World) (hw : P.globals.size ≤ w.heap.size) : Calls P f args w fun e w' => e = .returned (.bool b) ∧ Grown w w' :=
  Calls.mono (closedK_bool hE hK hargs hrun w hw) fun _ _ ⟨h, _, x⟩ => ⟨h, x.grown fun _ _ h => ι0_glob h⟩

theorem noK : KOk P (fun _ _ => none) := fun _ _ _ h => by simp at h
theorem closed_bool (hE : EnvOk P ft) {n : Nat} {f : FuncId} {args : Array Value} {b : Bool} (hargs : args.all ground1 = true) (hrun : outIs b (run P ft n (.fn f args) (H0 P)) = true) (w : World)
    (hw : P.globals.size ≤ w.heap.size) : Calls P f args w fun e w' => e = .returned (.bool b) ∧ Grown w w' := closedK hE noK hargs hrun w hw

/-- A closed call with no arguments that answers a truth: it is known. -/
def know1 (g : FuncId) (b : Bool) (K : FuncId → Array Value → Option Value) : FuncId → Array Value → Option Value := fun f args =>
  if Nat.beq f g && Nat.beq args.size 0 then some (.bool b) else K f args
theorem know1_ok (hE : EnvOk P ft) {K : FuncId → Array Value → Option Value} (hK : KOk P K) {n : Nat} {g : FuncId} {b : Bool} (hrun : outIs b (runK P ft K n (.fn g #[]) (H0 P)) = true) : KOk P (know1 g b K) := by
  intro f args v h ι H args' w hw ha
  unfold know1 at h
  split at h
  · rename_i hc
    simp only [Bool.and_eq_true, Nat.beq_eq] at hc
    obtain ⟨rfl, hs⟩ := hc
    simp only [Option.some.injEq] at h
    subst h
    have hs' : args'.size = 0 := by rw [← ha.1]; exact hs
    have e : args' = #[] := Array.eq_empty_of_size_eq_zero hs'
    subst e
    refine Calls.mono (closedK_bool hE hK (by simp) hrun w (by rw [← hw.gsize]; exact hw.room)) fun e w' ⟨h1, ι', x⟩ => ?_
    have hk : ∀ b, b < w.heap.size → w'.heap[b]? = w.heap[b]? := fun b hb => x.keep b hb fun n i h hg => absurd (ι0_glob h) (Nat.not_lt.2 hg)
    exact ⟨ι, .bool b, h1, ⟨Sub.refl ι, x.size, fun n i h h' => .inl ⟨n, i, h, h', rfl⟩, fun b hb _ => hk b hb, x.froz, x.tape, x.os, x.output⟩,
      ⟨hw.gsize, hw.glob, hw.over, hw.next, Nat.le_trans hw.room x.size, hw.fresh, fun n i h => Nat.lt_of_lt_of_le (hw.below n i h) x.size, fun n b h => by
        obtain ⟨i, o, h1, h2, h3⟩ := hw.live n b h
        exact ⟨i, o, h1, by rw [hk _ (hw.below n i h1)]; exact h2, h3⟩, hw.inj⟩, ground_rel rfl⟩
  · exact hK f args v h ι H args' w hw ha

/-! ### What is asked of a program -/
noncomputable def ftab (P : Program) : T Func := T.ofL P.funcs.toList 0 .leaf
noncomputable def ftOf (P : Program) (f : Nat) : Option Func := match (ftab P).get f with
  | some fn => if fn.body.isSome && !(fn.name == "runtime.NumGoroutine") then some fn else none
  | none => none

theorem envOk (hm : P.follows .mixedOrders = true) (hfine : (P.funcs.all fun fn => match fn.body with | some c => fineC P.globals.size c | none => true) = true) (hz : (P.types.all fun i => match i.zero with | some z => ground z | none => true) = true) : EnvOk P (ftOf P) := by
  refine ⟨fun t i z ht hi hzz => ?_, hm, fun f fn h => ?_⟩
  · rw [Array.all_eq_true_iff_forall_mem] at hz
    have := hz i (Array.mem_of_getElem? hi)
    rw [hzz] at this
    exact this
  · unfold ftOf at h
    split at h
    · rename_i fn' hf
      split at h
      · rename_i hc
        simp only [Option.some.injEq] at h
        subst h
        simp only [Bool.and_eq_true, Bool.not_eq_true'] at hc
        unfold ftab at hf
        rw [T.get_ofL] at hf
        split at hf
        · have hg : P.funcs[f]? = some fn' := by simpa using hf
          obtain ⟨c, hb⟩ := Option.isSome_iff_exists.1 hc.1
          refine ⟨hg, hc.2, c, hb, ?_⟩
          rw [Array.all_eq_true_iff_forall_mem] at hfine
          have := hfine fn' (Array.mem_of_getElem? hg)
          rw [hb] at this
          exact this
        · rw [T.get_leaf] at hf; simp at hf
      · simp at h
    · simp at h

end Go.Ev
