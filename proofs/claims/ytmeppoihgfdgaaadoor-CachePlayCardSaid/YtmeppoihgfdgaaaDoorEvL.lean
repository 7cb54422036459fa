/-
  The evaluator: a call whose arguments hold no address: what it answers, whatever the world. Conditions: EnvOk; the world has the program's variables.
-/
import Derived.Test.YtmeppoihgfdgaaaDoorEvW
import Derived.RowKit3
import Derived.ChangeMade
namespace Go.Ev
set_option linter.unusedSectionVars false      -- the symbols' class stands for all texts
open Go.RowKit
/-- A world at most with more blocks: all that was there is as it was. -/
structure Quiet (w w' : World) : Prop where
  size : w.heap.size ≤ w'.heap.size
  keep : ∀ b, b < w.heap.size → w'.heap[b]? = w.heap[b]?
  froz : ∀ a, w'.frozen? a = w.frozen? a
  tape : w'.tape = w.tape
  os : w'.os = w.os
  output : w'.output = w.output
theorem Quiet.grown {w w' : World} (x : Quiet w w') : Grown w w' := by
  refine ⟨⟨x.os, x.output, fun i hi => ?_⟩, x.froz, x.size⟩
  rw [x.keep i hi]
  cases w.heap[i]? with
  | none => rfl
  | some o => cases o with
    | cells c t fr => exact ⟨rfl, rfl, rfl, fun _ _ => rfl⟩
    | map es clock => exact .inr ⟨rfl, rfl⟩
    | _ => rfl
variable [Syms] {P : Program} {ft : Nat → Option Func}

theorem Ext.grown {ι : Inj} (hι : ∀ n i, ι n = some i → n < P.globals.size) {w : World} {ι' : Inj} {w' : World} (h : Ext P ι w ι' w') : Grown w w' := by
  refine ⟨⟨h.os, h.output, fun i hi => ?_⟩, h.froz, h.size⟩
  have e := h.keep i hi fun n j hn hg _ => by have := hι n j hn; omega
  rw [e]
  cases w.heap[i]? with
  | none => rfl
  | some o => cases o with
    | cells c t fr => exact ⟨rfl, rfl, rfl, fun _ _ => rfl⟩
    | map es clock => exact .inr ⟨rfl, rfl⟩
    | _ => rfl

/-- What is known of variables: a variable's number, its cells, their type. -/
abbrev Gs := List (Nat × Array Value × TypeId)
noncomputable def gtrie : Gs → T Blk
  | [] => .leaf
  | x :: r => (gtrie r).set x.1 (some (.cells (mkCells x.2.1 x.2.2)))
theorem gtrie_get : ∀ (gs : Gs) (n : Nat) (b : Blk), (gtrie gs).get n = some b → ∃ x ∈ gs, n = x.1 ∧ b = .cells (mkCells x.2.1 x.2.2)
  | [], n, b, h => by simp [gtrie, T.get_leaf] at h
  | x :: r, n, b, h => by
    simp only [gtrie, T.get_set] at h
    split at h
    · rename_i hn
      simp only [Option.some.injEq] at h
      exact ⟨x, List.mem_cons_self, hn, h.symm⟩
    · obtain ⟨y, hy, e⟩ := gtrie_get r n b h
      exact ⟨y, List.mem_cons_of_mem _ hy, e⟩
def gsGround (gs : Gs) : Bool := gs.all fun x => x.2.1.all ground1
/-- A world in which the variables hold that. -/
structure GOk (P : Program) (gs : Gs) (w : World) : Prop where
  room : P.globals.size ≤ w.heap.size
  grd : gsGround gs = true
  has : ∀ x ∈ gs, x.1 < P.globals.size ∧ w.heap[x.1]? = some (.cells x.2.1 x.2.2 (0, 0))
theorem GOk.nil {w : World} (h : P.globals.size ≤ w.heap.size) : GOk P [] w := ⟨h, rfl, fun x hx => by simp at hx⟩
theorem GOk.quiet {gs : Gs} {w w' : World} (h : GOk P gs w) (x : Quiet w w') : GOk P gs w' :=
  ⟨Nat.le_trans h.room x.size, h.grd, fun y hy => ⟨(h.has y hy).1, by rw [x.keep _ (Nat.lt_of_lt_of_le (h.has y hy).1 h.room)]; exact (h.has y hy).2⟩⟩
theorem GOk.of {gs : Gs} {w w' : World} (h : GOk P gs w) (hr : P.globals.size ≤ w'.heap.size) (hk : ∀ b, b < P.globals.size → w'.heap[b]? = w.heap[b]?) : GOk P gs w' :=
  ⟨hr, h.grd, fun y hy => ⟨(h.has y hy).1, by rw [hk _ (h.has y hy).1]; exact (h.has y hy).2⟩⟩

noncomputable def H0g (P : Program) (gs : Gs) : Heap := { base := P.globals.size, next := P.globals.size, m := gtrie gs }
noncomputable def ι0g (P : Program) (gs : Gs) : Inj := fun n => if n < P.globals.size then some (match (gtrie gs).get n with | some (.cells c) => ⟨n, 0, c.size, 0, 1⟩ | _ => ⟨n, 0, 0, 0, 1⟩) else none
noncomputable def H0 (P : Program) : Heap := H0g P []

theorem ι0g_some {gs : Gs} {n : Nat} {i : Info} (h : ι0g P gs n = some i) : n < P.globals.size ∧ i.blk = n ∧ i.off = 0 := by
  unfold ι0g at h
  by_cases hn : n < P.globals.size
  · rw [if_pos hn] at h
    simp only [Option.some.injEq] at h
    subst h
    refine ⟨hn, ?_⟩
    split <;> exact ⟨rfl, rfl⟩
  · rw [if_neg hn] at h; simp at h

theorem rel0g {gs : Gs} {w : World} (hw : GOk P gs w) (hg : (∀ b, b < P.globals.size → w.heap[b]? = Syms.glob b) ∧ ∀ b o, Syms.inp b = some o → w.heap[b]? = some o) : Rel P (ι0g P gs) (H0g P gs) w := by
  refine ⟨hg, rfl, fun g hgl => ?_, fun n i h hb => ?_, Nat.le_refl _, hw.room, fun n hn => ?_, fun n hn => by simp [H0g] at hn, fun n i h => ?_, fun n b h => ?_, fun n m b c i j h1 h2 hi hj e => ?_⟩
  · have hgl' : g < P.globals.size := hgl
    have h0 : ι0g P gs g = some (match (gtrie gs).get g with | some (.cells c) => ⟨g, 0, c.size, 0, 1⟩ | _ => ⟨g, 0, 0, 0, 1⟩) := by unfold ι0g; exact if_pos hgl'
    have h := ι0g_some h0
    exact ⟨_, h0, h.2.1, h.2.2⟩
  · have := ι0g_some h
    have hb' : P.globals.size ≤ n := hb
    omega
  · have hn' : P.globals.size ≤ n := hn
    unfold ι0g
    rw [if_neg (Nat.not_lt.2 hn')]
  · have h1 := ι0g_some h
    have := hw.room
    omega
  · obtain ⟨x, hx, rfl, rfl⟩ := gtrie_get gs n b h
    obtain ⟨q1, q2⟩ := hw.has x hx
    have hgt : (gtrie gs).get x.1 = some (.cells (mkCells x.2.1 x.2.2)) := h
    refine ⟨⟨x.1, 0, x.2.1.size, 0, 1⟩, _, ?_, q2, ⟨rfl, rfl, Nat.one_pos⟩, x.2.1, rfl, by simp [mkCells], fun _ => ⟨rfl, rfl, rfl⟩, fun k hk => ?_⟩
    · unfold ι0g
      rw [if_pos q1, hgt]
      rfl
    · have hk' : k < x.2.1.size := hk
      rw [mkCells_get _ _ _ hk']
      have hgr := hw.grd
      unfold gsGround at hgr
      rw [List.all_eq_true] at hgr
      have := (ground_arr (ι := ι0g P gs) (hgr x hx)).2 k hk'
      simpa using this
  · have a1 := (ι0g_some hi).2.1
    have a2 := (ι0g_some hj).2.1
    omega

def outIs (b : Bool) : Option (Out × Heap) → Bool
  | some (.val (.bool c), _) => b == c
  | _ => false

theorem Ext.quiet {gs : Gs} {w w' : World} {ι' : Inj} (x : Ext P (ι0g P gs) w ι' w') : Quiet w w' :=
  ⟨x.size, fun b hb => x.keep b hb fun _ _ h hg => absurd (ι0g_some h).1 (Nat.not_lt.2 hg), x.froz, x.tape, x.os, x.output⟩
theorem Quiet.ext {w w' : World} (x : Quiet w w') (ι : Inj) : Ext P ι w ι w' :=
  ⟨Sub.refl ι, x.size, fun n i h h' => .inl ⟨n, i, h, h', rfl⟩, fun b hb _ => x.keep b hb, x.froz, x.tape, x.os, x.output⟩
theorem Quiet.rel {w w' : World} (x : Quiet w w') {ι : Inj} {H : Heap} (hw : Rel P ι H w) : Rel P ι H w' :=
  ⟨hw.keepG fun b hb _ => x.keep b hb, hw.gsize, hw.glob, hw.over, hw.next, Nat.le_trans hw.room x.size, hw.fresh, hw.hole, fun n i h => Nat.lt_of_lt_of_le (hw.below n i h) x.size, fun n b h => by
    obtain ⟨i, o, h1, h2, h3⟩ := hw.live n b h
    exact ⟨i, o, h1, by rw [x.keep _ (hw.below n i h1)]; exact h2, h3⟩, hw.inj⟩

/-- What a run of a call comes to: the same in every world in which the variables hold what is known of them. -/
theorem callK [NoFloat P] [Marks] [Orc P] [Lps P] (hE : EnvOk P ft) (hL : LpsOk P) {K : FuncId → Array Value → Option Value} (hK : KOk P K) {gs : Gs} {n : Nat} {f : FuncId} {args args' : Array Value} {v : Value} {H' : Heap} (hargs : ∀ ι, ARel ι args args')
    (hrun : runK P ft K n (.fn f args) (H0g P gs) = some (.val v, H')) (w : World) (hw : GOk P gs w) (hg : (∀ b, b < P.globals.size → w.heap[b]? = Syms.glob b) ∧ ∀ b o, Syms.inp b = some o → w.heap[b]? = some o) : Calls P f args' w fun e w' => ∃ ι' v', e = .returned v' ∧ VRel ι' v v' ∧ Quiet w w' := by
  refine Calls.mono ((runK_good hE hL hK n).fn f args (H0g P gs) _ H' hrun (ι0g P gs) args' w (rel0g hw hg) (hargs _)) fun e w' he => ?_
  obtain ⟨ι', v', rfl, x1, r1, q1⟩ := he
  exact ⟨ι', v', rfl, q1, x1.quiet⟩
theorem closedK_quiet [NoFloat P] [Marks] [Orc P] [Lps P] (hE : EnvOk P ft) (hL : LpsOk P) {K : FuncId → Array Value → Option Value} (hK : KOk P K) {gs : Gs} {n : Nat} {f : FuncId} {args args' : Array Value} {b : Bool} (hargs : ∀ ι, ARel ι args args')
    (hrun : outIs b (runK P ft K n (.fn f args) (H0g P gs)) = true) (w : World) (hw : GOk P gs w) (hg : (∀ b, b < P.globals.size → w.heap[b]? = Syms.glob b) ∧ ∀ b o, Syms.inp b = some o → w.heap[b]? = some o) : Calls P f args' w fun e w' => e = .returned (.bool b) ∧ Quiet w w' := by
  cases hr : runK P ft K n (.fn f args) (H0g P gs) with
  | none => rw [hr] at hrun; simp [outIs] at hrun
  | some r =>
    obtain ⟨out, H'⟩ := r
    rw [hr] at hrun
    cases out with
    | exit e A => simp [outIs] at hrun
    | val v =>
      cases v <;> simp [outIs] at hrun
      subst hrun
      refine Calls.mono (callK hE hL hK hargs hr w hw hg) fun e w' he => ?_
      obtain ⟨ι', v', rfl, q1, x1⟩ := he
      cases q1
      exact ⟨rfl, x1⟩

/-- A closed call with no arguments that answers a truth: it is known. -/
def know1 (g : FuncId) (b : Bool) (K : FuncId → Array Value → Option Value) : FuncId → Array Value → Option Value := fun f args =>
  if Nat.beq f g && Nat.beq args.size 0 then some (.bool b) else K f args
theorem know1_ok {K : FuncId → Array Value → Option Value} (hK : KOk P K) {g : FuncId} {b : Bool}
    (hC : ∀ w, P.globals.size ≤ w.heap.size → (∀ b, b < P.globals.size → w.heap[b]? = Syms.glob b) → Calls P g #[] w fun e w' => e = .returned (.bool b) ∧ Quiet w w') : KOk P (know1 g b K) := by
  intro f args v h ι H args' w hw ha
  unfold know1 at h
  split at h
  · rename_i hc
    simp only [Bool.and_eq_true, Nat.beq_eq] at hc
    obtain ⟨rfl, hs⟩ := hc
    simp only [Option.some.injEq] at h
    subst h
    have hs' : args'.size = 0 := by rw [← ha.1]; exact hs
    have e : args' = #[] := Array.eq_empty_of_size_eq_zero hs'
    subst e
    refine Calls.mono (hC w (by rw [← hw.gsize]; exact hw.room) hw.glb.1) fun e w' ⟨h1, x⟩ => ?_
    exact ⟨ι, .bool b, h1, x.ext ι, x.rel hw, ground_rel rfl⟩
  · exact hK f args v h ι H args' w hw ha
theorem noK : KOk P (fun _ _ => none) := fun _ _ _ h => by simp at h
end Go.Ev
namespace Go.Ev

/-! ### No symbols -/
@[instance_reducible] def noSyms (G : Nat → Option Obj) : Syms := ⟨fun _ => none, fun _ _ h => by simp at h, G, fun _ => none, fun _ _ h => by simp at h, fun _ => none, fun _ => none, fun _ => none, fun _ _ => none⟩
@[instance_reducible] def noOrc (P : Program) (G : Nat → Option Obj) : @Orc P (noSyms G) := @Orc.mk P (noSyms G) (fun _ _ => none) (fun _ _ _ _ h => by simp at h) (fun _ _ => false) (fun _ _ _ => none) (fun _ _ _ _ _ h => by simp at h) (fun _ _ _ => none) (fun _ _ _ _ _ _ _ _ h => by simp at h) (fun _ _ _ _ => none) (fun _ _ _ _ _ _ h => by simp at h) (fun _ _ _ _ _ _ _ _ _ _ _ h => by simp at h) (fun _ => false)
noncomputable def run0 (P : Program) (ft : Nat → Option Func) (K : FuncId → Array Value → Option Value) (G : Nat → Option Obj) (n : Nat) : Runner := @runK (noSyms G) P (noOrc P G) noMarks (noLps P) ft K n
theorem closed0 {P : Program} [NoFloat P] {ft : Nat → Option Func} (hE : EnvOk P ft) {K : FuncId → Array Value → Option Value} {gs : Gs} {n : Nat} {f : FuncId} {args : Array Value} {b : Bool} (hargs : args.all ground1 = true) (w : World) (hK : @KOk (noSyms fun b => w.heap[b]?) P K)
    (hrun : ∀ G, outIs b (run0 P ft K G n (.fn f args) (H0g P gs)) = true) (hw : GOk P gs w) : Calls P f args w fun e w' => e = .returned (.bool b) ∧ Quiet w w' :=
  @closedK_quiet (noSyms fun b => w.heap[b]?) P ft _ noMarks (noOrc P _) (noLps P) hE (fun _ _ _ _ _ _ _ _ h => by simp [Lps.lk] at h) K hK gs n f args args b (fun _ => @ground_arr (noSyms _) _ _ hargs) (hrun _) w hw ⟨fun _ _ => rfl, fun _ _ h => by simp at h⟩
variable {P : Program} {ft : Nat → Option Func}
def isCx : TypeDesc → Bool | .complex _ => true | _ => false
theorem struct_cx {info : TypeId → Option TypeInfo} {fs : Array Field} {i : TypeInfo} (h : Made.reckonStruct info fs = some i) : isCx i.desc = false := by
  unfold Made.reckonStruct at h
  simp only [bind, Option.bind_eq_some_iff, pure] at h
  obtain ⟨a, _, h⟩ := h
  split at h <;> (cases h; rfl)
theorem reckon_cx {info : TypeId → Option TypeInfo} {d : TypeDesc} {i : TypeInfo} (h : Made.reckon info d = some i) : isCx i.desc = false := by
  cases d with
  | struct fs => exact struct_cx h
  | complex k => simp [Made.reckon] at h
  | _ =>
    simp only [Made.reckon, bind, Option.bind_eq_some_iff, pure] at h
    first
      | (cases h; done)
      | (obtain ⟨_, _, h⟩ := h; split at h <;> first | (cases h; done) | (split at h <;> first | (cases h; done) | (obtain ⟨_, _, h⟩ := h; cases h; rfl)) | (obtain ⟨_, _, h⟩ := h; cases h; rfl))
      | (obtain ⟨_, _, _, _, h⟩ := h; cases h; rfl)
      | (obtain ⟨_, _, _, _, _, _, _, _, h⟩ := h; cases h; rfl)
      | (obtain ⟨a, _, h⟩ := h; generalize a.desc = q at h; cases q <;> dsimp only at h <;> first | (cases h; done) | (split at h <;> first | (cases h; done) | (obtain ⟨_, _, h⟩ := Option.bind_eq_some_iff.1 h; cases h; rfl)) | (obtain ⟨_, _, h⟩ := Option.bind_eq_some_iff.1 h; cases h; rfl))
      | (obtain ⟨_, ⟨_, _, _⟩, h⟩ := h; cases h; rfl)
      | (obtain ⟨_, _, _, _, _, _, h⟩ := h; cases h; rfl)
      | (obtain ⟨_, _, h⟩ := h; cases h; rfl)
theorem beyond_cx {T : Tables} {t : TypeId} {i : TypeInfo} (ht : ¬ t < T.types.size) (h : T.info? t = some i) : isCx i.desc = false := by
  unfold Tables.info? Made.depth Made.infoAt at h
  rw [if_neg ht, if_neg ht] at h
  obtain ⟨d, _, h⟩ := Option.bind_eq_some_iff.1 h
  exact reckon_cx h
theorem noFloat (h : (P.types.all fun i => match i.desc with | .float _ => false | .complex _ => false | _ => true) = true) : NoFloat P := by
  rw [Array.all_eq_true_iff_forall_mem] at h
  have key : ∀ t i, P.info? t = some i → ∀ k, i.desc ≠ .float k ∧ i.desc ≠ .complex k := fun t i hi k => by
    by_cases ht : t < P.types.size
    · unfold Tables.info? at hi
      rw [if_pos ht] at hi
      have := h i (Array.mem_of_getElem? hi)
      refine ⟨fun e => ?_, fun e => ?_⟩ <;> (rw [e] at this; simp at this)
    · have h1 := Tables.info?_beyond ht hi
      have h2 := beyond_cx ht hi
      refine ⟨fun e => ?_, fun e => ?_⟩
      · rw [e] at h1; simp [TypeDesc.tableOnly] at h1
      · rw [e] at h2; simp [isCx] at h2
  have under : ∀ t d, P.underlying t = some d → ∃ i u, P.info? u = some i ∧ i.desc = d := fun t d e => by
    unfold Program.underlying at e
    split at e
    · rename_i u _ _ _ _ _ _ _ _ _ _
      generalize hu : P.info? _ = r at e
      cases r with
      | none => simp at e
      | some j => simp only [Option.map_some, Option.some.injEq] at e; exact ⟨j, _, hu, e⟩
    · rename_i i _ hi
      simp only [Option.some.injEq] at e
      exact ⟨i, t, hi, e⟩
    · simp at e
  refine ⟨fun t k e => ?_, fun t k e => ?_⟩
  · obtain ⟨i, u, h1, h2⟩ := under t _ e
    exact (key u i h1 k).1 h2
  · obtain ⟨i, u, h1, h2⟩ := under t _ e
    exact (key u i h1 k).2 h2

/-! ### What is asked of a program -/
noncomputable def ftab (P : Program) : T Func := T.ofL P.funcs.toList 0 .leaf
noncomputable def ftOf (P : Program) (f : Nat) : Option Func := match (ftab P).get f with
  | some fn => if fn.body.isSome && !(fn.name == "runtime.NumGoroutine") then some fn else none
  | none => none

theorem envOk (hm : P.follows .mixedOrders = true) (hfine : (P.funcs.all fun fn => match fn.body with | some c => fineC P.globals.size c | none => true) = true) (hz : (P.types.all fun i => match i.zero with | some z => ground z | none => true) = true) : EnvOk P (ftOf P) := by
  refine ⟨fun t i z ht hi hzz => ?_, hm, fun f fn h => ?_⟩
  · rw [Array.all_eq_true_iff_forall_mem] at hz
    have := hz i (Array.mem_of_getElem? hi)
    rw [hzz] at this
    exact this
  · unfold ftOf at h
    split at h
    · rename_i fn' hf
      split at h
      · rename_i hc
        simp only [Option.some.injEq] at h
        subst h
        simp only [Bool.and_eq_true, Bool.not_eq_true'] at hc
        unfold ftab at hf
        rw [T.get_ofL] at hf
        split at hf
        · have hg : P.funcs[f]? = some fn' := by simpa using hf
          obtain ⟨c, hb⟩ := Option.isSome_iff_exists.1 hc.1
          refine ⟨fn', c, c, hg, hc.2, hb, hb, .same c, ?_, rfl, rfl⟩
          rw [Array.all_eq_true_iff_forall_mem] at hfine
          have := hfine fn' (Array.mem_of_getElem? hg)
          rw [hb] at this
          exact this
        · rw [T.get_leaf] at hf; simp at hf
      · simp at h
    · simp at h

end Go.Ev
