/-
  The evaluator: known calls, grouped by function, looked up from the last argument on; and closed calls over such a table. Conditions: EnvOk; the variables hold what is known of them.
-/
import Derived.Test.YtigbcepnbpibaaaGreatDoorEvSegI
namespace Go.Ev
open Go.RowKit
set_option linter.unusedSectionVars false

abbrev KnG := List (FuncId × List (List Value × Value))
def knGa : List (List Value × Value) → List Value → Option Value
  | [], _ => none
  | e :: r, x => cond (knT.veqAs x e.1) (some e.2) (knGa r x)
def knG : KnG → FuncId → Array Value → Option Value
  | [], _, _ => none
  | g :: r, f, args => cond (Nat.beq f g.1) (knGa g.2 args.toList.reverse) (knG r f args)
/-- Its entries, in a row. -/
def flatG : KnG → List Kn
  | [] => []
  | g :: r => g.2.map (fun e => ⟨g.1, e.1.reverse.toArray, e.2⟩) ++ flatG r
theorem knGa_ok : ∀ {es : List (List Value × Value)} {x : List Value} {v : Value}, knGa es x = some v → ∃ e ∈ es, e.1 = x ∧ e.2 = v
  | [], _, _, h => by simp [knGa] at h
  | e :: r, x, v, h => by
    have h' : cond (knT.veqAs x e.1) (some e.2) (knGa r x) = some v := h
    cases hv : knT.veqAs x e.1 with
    | true =>
      rw [hv] at h'
      simp only [cond_true, Option.some.injEq] at h'
      exact ⟨e, List.mem_cons_self, (veqAs_ok hv).symm, h'⟩
    | false =>
      rw [hv] at h'
      obtain ⟨y, hy, q⟩ := knGa_ok (show knGa r x = some v from h')
      exact ⟨y, List.mem_cons_of_mem _ hy, q⟩
theorem knG_entry : ∀ {tb : KnG} {f : FuncId} {args : Array Value} {v : Value}, knG tb f args = some v → ∃ x ∈ flatG tb, x.f = f ∧ x.args = args ∧ x.v = v
  | [], _, _, _, h => by simp [knG] at h
  | g :: r, f, args, v, h => by
    have h' : cond (Nat.beq f g.1) (knGa g.2 args.toList.reverse) (knG r f args) = some v := h
    cases hb : Nat.beq f g.1 with
    | true =>
      rw [hb] at h'
      obtain ⟨e, he, q1, q2⟩ := knGa_ok (show knGa g.2 args.toList.reverse = some v from h')
      refine ⟨⟨g.1, e.1.reverse.toArray, e.2⟩, List.mem_append_left _ (List.mem_map.2 ⟨e, he, rfl⟩), (Nat.eq_of_beq_eq_true hb).symm, ?_, q2⟩
      show e.1.reverse.toArray = args
      rw [q1]
      simp
    | false =>
      rw [hb] at h'
      obtain ⟨x, hx, q⟩ := knG_entry (show knG r f args = some v from h')
      exact ⟨x, List.mem_append_right _ hx, q⟩
variable {P : Program} {ft : Nat → Option Func}
theorem knG_ok {G : Nat → Option Obj} {w : World} (hG : ∀ b, b < P.globals.size → G b = w.heap[b]?) (tb : KnG) (hp : (flatG tb).all Kn.ok = true) (hx : ∀ x ∈ flatG tb, KnOk P w x) : @KOk (noSyms G) P (knG tb) := by
  intro f args v h ι H args' w₁ hw ha
  letI := noSyms G
  obtain ⟨x, hm, rfl, rfl, rfl⟩ := knG_entry h
  rw [List.all_eq_true] at hp
  have hp1 := hp x hm
  unfold Kn.ok at hp1
  rw [Bool.and_eq_true] at hp1
  obtain rfl := @plainAs_eq (noSyms G) _ _ _ hp1.1 ha
  refine Calls.mono (hx x hm w₁ ?_ ?_) fun e w' ⟨h1, xq⟩ => ?_
  · have := @Rel.gsize (noSyms G) P ι H w₁ hw; have := @Rel.room (noSyms G) P ι H w₁ hw; omega
  · intro b hb
    rw [(@Rel.glb (noSyms G) P ι H w₁ hw).1 b hb]
    exact hG b hb
  · exact ⟨ι, x.v, h1, @Quiet.ext (noSyms G) P _ _ xq ι, @Quiet.rel (noSyms G) P _ _ xq ι H hw, @plainA_rel (noSyms G) ι _ hp1.2⟩
/-- An entry by a run over a table. -/
theorem KnOk.runG [NoFloat P] (hE : EnvOk P ft) {gs : Gs} {n : Nat} {x : Kn} (hx : x.ok = true) (tb : KnG) (htb : (flatG tb).all Kn.ok = true) (hrun : ∀ G, outEq x.v (run0 P ft (knG tb) G n (.fn x.f x.args) (H0g P gs)) = true) {w : World} (hw : GOk P gs w)
    (hT : ∀ y ∈ flatG tb, KnOk P w y) : KnOk P w x := by
  intro w₁ hs hg
  unfold Kn.ok at hx
  rw [Bool.and_eq_true] at hx
  exact closedV hE hx.1 hx.2 w₁ (@knG_ok P (fun b => w₁.heap[b]?) w (fun b hb => hg b hb) tb htb hT) hrun (@GOk.of (noSyms fun _ => none) _ _ _ _ hw hs hg)
/-- A closed call, its body in pieces. -/
theorem KnOk.itemsG [NoFloat P] (hE : EnvOk P ft) {gs : Gs} {n big : Nat} {f : FuncId} {args : Array Value} {v : Value} (hx : Kn.ok ⟨f, args, v⟩ = true) (tb : KnG) (htb : (flatG tb).all Kn.ok = true) {L : List Itm} {A0 : Fr} (hL0 : L = bodyI ft f) (hA0 : A0 = enterL ft f args)
    (ps : List (Nat × List Nat)) (hrun : ∀ G, outEq v (endL P ft f (runQ P ft G (run0 P ft (knG tb) G n) big ps L A0 (H0g P gs))) = true) (hb : ((ft f).bind (·.body)).isSome = true) {w : World} (hw : GOk P gs w)
    (hT : ∀ y ∈ flatG tb, KnOk P w y) : KnOk P w ⟨f, args, v⟩ := by
  subst hL0 hA0
  intro w₁ hs hgl
  unfold Kn.ok at hx
  rw [Bool.and_eq_true] at hx
  have hw1 : GOk P gs w₁ := @GOk.of (noSyms fun _ => none) _ _ _ _ hw hs hgl
  have hr := hrun fun b => w₁.heap[b]?
  letI i1 := noSyms fun b => w₁.heap[b]?
  letI i2 : Marks := noMarks
  letI i3 : Orc P := noOrc P _
  letI i4 : Lps P := noLps P
  have hK : KOk P (knG tb) := @knG_ok P (fun b => w₁.heap[b]?) w (fun b hb => hgl b hb) tb htb hT
  have hL : LpsOk P := fun _ _ _ _ _ _ _ _ h => by simp at h
  have hg : Good P (runK P ft (knG tb) n) := runK_good hE hL hK n
  have hg2 : Good P (stepRun P ft (itemR P ft (fun b => w₁.heap[b]?) big ps (runK P ft (knG tb) n)) (drawRun2 P ft (itemR P ft (fun b => w₁.heap[b]?) big ps (runK P ft (knG tb) n)))) := Good.step hE hL (itemR_good hE hg big ps) (drawRun2_ok hE (itemR_good hE hg big ps))
  cases he : endL P ft f (runQ P ft (fun b => w₁.heap[b]?) (run0 P ft (knG tb) (fun b => w₁.heap[b]?) n) big ps (bodyI ft f) (enterL ft f args) (H0g P gs)) with
  | none => rw [he] at hr; simp [outEq] at hr
  | some q =>
    obtain ⟨out, H'⟩ := q
    rw [he] at hr
    cases out with
    | exit e A => simp [outEq] at hr
    | val u =>
      have hu : u = v := veq_ok hr
      subst hu
      refine Calls.mono (callR hg2 (args := args) (fun ι => plainAs_rel hx.1) (step_items he hb) w₁ hw1 ⟨fun _ _ => rfl, fun _ _ h => by simp at h⟩) fun e w' hh => ?_
      obtain ⟨ι', v', rfl, q1, x1⟩ := hh
      rw [plainA_eq hx.2 q1]
      exact ⟨rfl, x1⟩
end Go.Ev
