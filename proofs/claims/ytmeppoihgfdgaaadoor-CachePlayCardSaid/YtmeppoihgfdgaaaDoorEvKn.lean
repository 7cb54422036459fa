/-
  The evaluator: calls that are known ahead: a table of functions, plain arguments and what they answer; each entry by a run of its own. Condition: the variables hold what is known of them.
-/
import Derived.Test.YtmeppoihgfdgaaaDoorEvL
namespace Go.Ev
open Go.RowKit
set_option linter.unusedSectionVars false

/-- A value of whole numbers and truths alone. -/
def plain1 : Value → Bool
  | .int .. => true
  | .bool .. => true
  | _ => false
def plainA : Value → Bool
  | .agg x => x.toList.all plain1
  | v => plain1 v
section
variable [Syms] {ι : Inj}
theorem plain1_eq {v v' : Value} (h : plain1 v = true) (r : VRel ι v v') : v' = v := by
  cases r <;> first | rfl | simp [plain1] at h
theorem list_eq {xs ys : List Value} (hs : xs.length = ys.length) (hr : ∀ k, k < xs.length → ys.getD k undf = xs.getD k undf) : ys = xs := by
  apply List.ext_getElem hs.symm
  intro k h1 h2
  have := hr k (by omega)
  simpa [List.getD_eq_getElem?_getD, h1, h2] using this
theorem plainA_eq {v v' : Value} (h : plainA v = true) (r : VRel ι v v') : v' = v := by
  cases r with
  | agg hs hr =>
    rename_i xs ys
    have hp : ∀ k, k < xs.size → plain1 (xs.getD k undf) = true := by
      intro k hk
      have h' : xs.toList.all plain1 = true := h
      rw [List.all_eq_true] at h'
      exact h' _ (by simp [hk])
    congr 1
    apply Array.toList_inj.1
    refine list_eq (by simpa using hs) fun k hk => ?_
    have hk' : k < xs.size := by simpa using hk
    have := plain1_eq (hp k hk') (hr k hk')
    simpa using this
  | _ => first | rfl | exact absurd h (by simp [plainA, plain1])
theorem plainAs_eq {xs ys : Array Value} (h : xs.toList.all plainA = true) (r : ARel ι xs ys) : ys = xs := by
  apply Array.toList_inj.1
  refine list_eq (by simpa using r.1) fun k hk => ?_
  have hk' : k < xs.size := by simpa using hk
  rw [List.all_eq_true] at h
  have := plainA_eq (h _ (by simp [hk'])) (r.2 k hk')
  simpa using this
theorem plain1_rel {v : Value} (h : plain1 v = true) : VRel ι v v := by
  cases v <;> simp [plain1] at h
  · exact .bool _
  · exact .int _ _
theorem plainA_rel {v : Value} (h : plainA v = true) : VRel ι v v := by
  cases v with
  | agg x =>
    have h' : x.toList.all plain1 = true := h
    rw [List.all_eq_true] at h'
    exact .agg rfl fun k hk => plain1_rel (h' _ (by simp [hk]))
  | _ => exact plain1_rel h
theorem plainAs_rel {xs : Array Value} (h : xs.toList.all plainA = true) : ARel ι xs xs := by
  rw [List.all_eq_true] at h
  exact ⟨rfl, fun k hk => plainA_rel (h _ (by simp [hk]))⟩
end

structure Kn where
  f : FuncId
  args : Array Value
  v : Value
def Kn.ok (x : Kn) : Bool := x.args.toList.all plainA && plainA x.v
/-- What such a table answers. -/
def knT : List Kn → (FuncId → Array Value → Option Value) → FuncId → Array Value → Option Value
  | [], K, f, args => K f args
  | x :: r, K, f, args => cond (Nat.beq f x.f) (cond (veqAs args.toList x.args.toList) (some x.v) (knT r K f args)) (knT r K f args)
where
  veqAs : List Value → List Value → Bool
  | [], [] => true
  | x :: xs, y :: ys => cond (veq x y) (veqAs xs ys) false
  | _, _ => false
theorem veqAs_ok : ∀ {a b : List Value}, knT.veqAs a b = true → a = b
  | [], [], _ => rfl
  | x :: xs, y :: ys, h => by
    cases hv : veq x y with
    | false => rw [show knT.veqAs (x :: xs) (y :: ys) = cond (veq x y) (knT.veqAs xs ys) false from rfl, hv] at h; simp at h
    | true =>
      rw [show knT.veqAs (x :: xs) (y :: ys) = cond (veq x y) (knT.veqAs xs ys) false from rfl, hv] at h
      letI : Syms := noSyms fun _ => none
      rw [veq_ok hv, veqAs_ok h]
  | [], _ :: _, h => by simp [knT.veqAs] at h
  | _ :: _, [], h => by simp [knT.veqAs] at h

/-- An entry is right in every world whose variables are those of world w. -/
def KnOk (P : Program) (w : World) (x : Kn) : Prop :=
  ∀ w₁, P.globals.size ≤ w₁.heap.size → (∀ b, b < P.globals.size → w₁.heap[b]? = w.heap[b]?) → Calls P x.f x.args w₁ fun e w' => e = .returned x.v ∧ Quiet w₁ w'

variable {P : Program} {ft : Nat → Option Func}
theorem knT_ok {G : Nat → Option Obj} {w : World} (hG : ∀ b, b < P.globals.size → G b = w.heap[b]?) {K : FuncId → Array Value → Option Value} (hK : @KOk (noSyms G) P K) : ∀ (tb : List Kn), (tb.all Kn.ok = true) → (∀ x ∈ tb, KnOk P w x) → @KOk (noSyms G) P (knT tb K)
  | [], _, _ => hK
  | x :: r, hp, hx => by
    rw [List.all_cons, Bool.and_eq_true] at hp
    have ih := knT_ok hG hK r hp.2 fun y hy => hx y (List.mem_cons_of_mem _ hy)
    intro f args v h ι H args' w₁ hw ha
    letI := noSyms G
    have e : knT (x :: r) K f args = cond (Nat.beq f x.f) (cond (knT.veqAs args.toList x.args.toList) (some x.v) (knT r K f args)) (knT r K f args) := rfl
    rw [e] at h
    cases h1 : Nat.beq f x.f with
    | false => rw [h1] at h; exact ih f args v h ι H args' w₁ hw ha
    | true =>
      rw [h1] at h
      cases h2 : knT.veqAs args.toList x.args.toList with
      | false => rw [h2] at h; exact ih f args v h ι H args' w₁ hw ha
      | true =>
        rw [h2] at h
        simp only [cond_true, Option.some.injEq] at h
        subst h
        have e1 : f = x.f := Nat.eq_of_beq_eq_true h1
        have e2 : args = x.args := Array.toList_inj.1 (veqAs_ok h2)
        subst e1 e2
        have hp1 := hp.1
        unfold Kn.ok at hp1
        rw [Bool.and_eq_true] at hp1
        obtain rfl := @plainAs_eq (noSyms G) _ _ _ hp1.1 ha
        refine Calls.mono (hx x List.mem_cons_self w₁ ?_ ?_) fun e w' ⟨h1, xq⟩ => ?_
        · have := @Rel.gsize (noSyms G) P ι H w₁ hw; have := @Rel.room (noSyms G) P ι H w₁ hw; omega
        · intro b hb
          rw [(@Rel.glb (noSyms G) P ι H w₁ hw).1 b hb]
          exact hG b hb
        · exact ⟨ι, x.v, h1, @Quiet.ext (noSyms G) P _ _ xq ι, @Quiet.rel (noSyms G) P _ _ xq ι H hw, @plainA_rel (noSyms G) ι _ hp1.2⟩

def outEq (v : Value) : Option (Out × Heap) → Bool
  | some (.val u, _) => veq u v
  | _ => false

/-- A closed call with plain arguments, run. -/
theorem closedV [NoFloat P] (hE : EnvOk P ft) {K : FuncId → Array Value → Option Value} {gs : Gs} {n : Nat} {f : FuncId} {args : Array Value} {v : Value} (hargs : args.toList.all plainA = true) (hv : plainA v = true) (w : World) (hK : @KOk (noSyms fun b => w.heap[b]?) P K)
    (hrun : ∀ G, outEq v (run0 P ft K G n (.fn f args) (H0g P gs)) = true) (hw : GOk P gs w) : Calls P f args w fun e w' => e = .returned v ∧ Quiet w w' := by
  have hr := hrun fun b => w.heap[b]?
  cases hr' : run0 P ft K (fun b => w.heap[b]?) n (.fn f args) (H0g P gs) with
  | none => rw [hr'] at hr; simp [outEq] at hr
  | some r =>
    obtain ⟨out, H'⟩ := r
    rw [hr'] at hr
    letI := noSyms fun b => w.heap[b]?
    cases out with
    | exit e A => simp [outEq] at hr
    | val u =>
      have hu : u = v := veq_ok hr
      subst hu
      refine Calls.mono (@callK (noSyms fun b => w.heap[b]?) P ft _ noMarks (noOrc P _) (noLps P) hE (fun _ _ _ _ _ _ _ _ h => by simp [Lps.lk] at h) K hK gs n f args args u H' (fun ι => @plainAs_rel (noSyms _) ι _ hargs) hr' w hw ⟨fun _ _ => rfl, fun _ _ h => by simp at h⟩) fun e w' he => ?_
      obtain ⟨ι', v', rfl, q1, x1⟩ := he
      rw [@plainA_eq (noSyms _) ι' _ _ hv q1]
      exact ⟨rfl, x1⟩

/-- An entry by a run. -/
theorem KnOk.run [NoFloat P] (hE : EnvOk P ft) {gs : Gs} {n : Nat} {x : Kn} (hx : x.ok = true) (hrun : ∀ G, outEq x.v (run0 P ft (fun _ _ => none) G n (.fn x.f x.args) (H0g P gs)) = true) {w : World} (hw : GOk P gs w) : KnOk P w x := by
  intro w₁ hs hg
  unfold Kn.ok at hx
  rw [Bool.and_eq_true] at hx
  exact closedV hE hx.1 hx.2 w₁ (@noK (noSyms fun b => w₁.heap[b]?) P) hrun (@GOk.of (noSyms fun _ => none) _ _ _ _ hw hs hg)
/-- An entry by a run over a table. -/
theorem KnOk.runT [NoFloat P] (hE : EnvOk P ft) {gs : Gs} {n : Nat} {x : Kn} (hx : x.ok = true) (tb : List Kn) (htb : tb.all Kn.ok = true) (hrun : ∀ G, outEq x.v (run0 P ft (knT tb fun _ _ => none) G n (.fn x.f x.args) (H0g P gs)) = true) {w : World} (hw : GOk P gs w)
    (hT : ∀ y ∈ tb, KnOk P w y) : KnOk P w x := by
  intro w₁ hs hg
  unfold Kn.ok at hx
  rw [Bool.and_eq_true] at hx
  exact closedV hE hx.1 hx.2 w₁ (@knT_ok P (fun b => w₁.heap[b]?) w (fun b hb => hg b hb) _ (@noK (noSyms fun b => w₁.heap[b]?) P) tb htb hT) hrun (@GOk.of (noSyms fun _ => none) _ _ _ _ hw hs hg)
theorem KnOk.now {w : World} {x : Kn} (h : KnOk P w x) (hs : P.globals.size ≤ w.heap.size) : Calls P x.f x.args w fun e w' => e = .returned x.v ∧ Quiet w w' := h w hs fun _ _ => rfl
end Go.Ev
