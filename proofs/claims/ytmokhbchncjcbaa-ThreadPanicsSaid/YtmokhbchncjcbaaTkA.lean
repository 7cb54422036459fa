/-
  A goroutine's record in small, step by step: frames, calls, deferred calls, panics; and that each step is the model's own step. Conditions: EnvOk; no code stands for other code.
-/
import Derived.Test.YtmokhbchncjcbaaTkE
import Derived.Conc.Own
namespace Go.Ev
open Go.Conc
set_option linter.unusedSectionVars false

structure ADef where
  f : FuncId
  args : Array Value
inductive AMode where
  | run
  | returning
  | panicking (c : List (Value × Bool))
  /-- The frame at the bottom of a goroutine that a go statement has made. -/
  | leaving
structure AFrame where
  fn : FuncId
  todo : List Item
  A : Fr
  defers : List ADef
  mode : AMode
  dfr : Bool
/-- A goroutine: the frame on top, those that wait for it. -/
abbrev AG := AFrame × List AFrame

section rel
variable [Syms]
def DRel (ι : Inj) (d : ADef) (D : Deferred) : Prop := ∃ args cap, D = { target := .fn (.func d.f) cap, args := args } ∧ ARel ι d.args (args ++ cap)
theorem DRel.mono {ι ι' : Inj} (hs : Sub ι ι') {d : ADef} {D : Deferred} (h : DRel ι d D) : DRel ι' d D := by
  obtain ⟨a, c, e, r⟩ := h
  exact ⟨a, c, e, r.mono hs⟩
def DsRel (ι : Inj) : List ADef → List Deferred → Prop
  | [], [] => True
  | d :: ds, D :: Ds => DRel ι d D ∧ DsRel ι ds Ds
  | _, _ => False
theorem DsRel.mono {ι ι' : Inj} (hs : Sub ι ι') : ∀ {d : List ADef} {D : List Deferred}, DsRel ι d D → DsRel ι' d D
  | [], [], _ => trivial
  | _ :: _, _ :: _, h => ⟨h.1.mono hs, DsRel.mono hs h.2⟩
  | [], _ :: _, h => h.elim
  | _ :: _, [], h => h.elim
def ChRel (ι : Inj) : List (Value × Bool) → List PanicEntry → Prop
  | [], [] => True
  | p :: ps, e :: es => (VRel ι p.1 e.v ∧ e.recovered = p.2 ∧ e.goexit = false) ∧ ChRel ι ps es
  | _, _ => False
theorem ChRel.mono {ι ι' : Inj} (hs : Sub ι ι') : ∀ {d : List (Value × Bool)} {D : List PanicEntry}, ChRel ι d D → ChRel ι' d D
  | [], [], _ => trivial
  | _ :: _, _ :: _, h => ⟨⟨h.1.1.mono hs, h.1.2⟩, ChRel.mono hs h.2⟩
  | [], _ :: _, h => h.elim
  | _ :: _, [], h => h.elim
def MdRel (ι : Inj) : AMode → FrameMode → Prop
  | .run, .run => True
  | .returning, .returning => True
  | .panicking c, .panicking C => ChRel ι c C
  | .leaving, .panicking C => C = [goexitEntry]
  | _, _ => False
theorem MdRel.mono {ι ι' : Inj} (hs : Sub ι ι') {m : AMode} {M : FrameMode} (h : MdRel ι m M) : MdRel ι' m M := by
  cases m <;> cases M <;> first | exact h | exact ChRel.mono hs h
def fineI (n : Nat) : Item → Bool
  | .code c | .inLoop c | .inScope c => fineC n c
  | .inRegion ops _ => ops.all (fineO n)
  | .inBlock _ => true
  | _ => false
structure FrmRel (P : Program) (ι : Inj) (f : AFrame) (fr : Frame) : Prop where
  fn : fr.fn = f.fn
  todo : fr.todo = f.todo
  kind : fr.kind = cond f.dfr .deferred .normal
  round : fr.roundOf = none
  opn : f.A.opn = false
  A : FRel ι f.A fr.tmps
  defers : DsRel ι f.defers fr.defers
  mode : MdRel ι f.mode fr.mode
  fine : f.todo.all (fineI P.globals.size) = true
variable {P : Program}
theorem FrmRel.mono {ι ι' : Inj} (hs : Sub ι ι') {f : AFrame} {fr : Frame} (h : FrmRel P ι f fr) : FrmRel P ι' f fr := ⟨h.fn, h.todo, h.kind, h.round, h.opn, h.A.mono hs, h.defers.mono hs, h.mode.mono hs, h.fine⟩
def FsRel (P : Program) (ι : Inj) : List AFrame → List Frame → Prop
  | [], [] => True
  | f :: fs, fr :: frs => FrmRel P ι f fr ∧ FsRel P ι fs frs
  | _, _ => False
theorem FsRel.mono {ι ι' : Inj} (hs : Sub ι ι') : ∀ {d : List AFrame} {D : List Frame}, FsRel P ι d D → FsRel P ι' d D
  | [], [], _ => trivial
  | _ :: _, _ :: _, h => ⟨h.1.mono hs, FsRel.mono hs h.2⟩
  | [], _ :: _, h => h.elim
  | _ :: _, [], h => h.elim
/-- A goroutine that runs. -/
structure GRel (P : Program) (ι : Inj) (g : AG) (a : Goroutine) : Prop where
  status : a.status = .running
  dying : a.dying = none
  frame : FrmRel P ι g.1 a.frame
  callers : FsRel P ι g.2 a.callers
theorem GRel.mono {ι ι' : Inj} (hs : Sub ι ι') {g : AG} {a : Goroutine} (h : GRel P ι g a) : GRel P ι' g a := ⟨h.status, h.dying, h.frame.mono hs, h.callers.mono hs⟩
end rel

section steps
variable [Syms] (P : Program) [NoFloat P] (ft : Nat → Option Func)
noncomputable def enterA (f : FuncId) (args : Array Value) (dfr : Bool) : Option AFrame := match ft f with
  | some fn => match fn.body with
    | some c => some { fn := f, todo := [.code c], A := Fr.enter fn args, defers := [], mode := .run, dfr }
    | none => none
  | none => none
/-- An operation has come to its end. -/
noncomputable def finA (f : AFrame) (v : Value) : Option AFrame := match f.todo with
  | .inRegion ops (i :: r) :: k => match f.A.put ((ops[i]?).bind (·.dst)) v with
    | some A' => some { f with A := A', todo := .inRegion ops r :: k }
    | none => none
  | _ => none
def raiseA (f : AFrame) (c : List (Value × Bool)) : AFrame := match f.mode with
  | .panicking c' => { f with mode := .panicking (c ++ c') }
  | _ => { f with mode := .panicking c }
/-- recover: what it tells, and the frames behind. -/
def recoverA (f : AFrame) (cs : List AFrame) : Value × List AFrame := match f.dfr, cs with
  | true, c :: r => match c.mode with
    | .panicking ((v, false) :: older) => (v, { c with mode := .panicking ((v, true) :: older) } :: r)
    | _ => (.nilIface, cs)
  | _, _ => (.nilIface, cs)
/-- A channel without a buffer. -/
def makes (P : Program) (t : TypeId) (v : Value) : Bool := match v with
  | .int .i64 0 => match P.underlying t with
    | some (.chan _ elem) => (P.info? elem).isSome
    | _ => false
  | _ => false
/-- An operation that is carried out. -/
noncomputable def operA (o : Oper) (f : AFrame) (cs : List AFrame) (H : Heap) : Option (AG × Heap) :=
  cond (tkOp o) (match aexecN P ft f.A.get o H with
  | some (.value v, H') => match finA f v with
    | some f' => some ((f', cs), H')
    | none => none
  | some (.skip, H') => match finA f undf with
    | some f' => some ((f', cs), H')
    | none => none
  | some (.enter g args, H') => match enterA ft g args false with
    | some f' => some ((f', f :: cs), H')
    | none => none
  | none => match o.op with
    | .defer c => match c.callee with
      | .value x => match opv f.A.get x with
        | .func (.func k) first cap => match finA { f with defers := ⟨k, first ++ c.args.map (opv f.A.get) ++ cap⟩ :: f.defers } undf with
          | some f' => some ((f', cs), H)
          | none => none
        | _ => none
      | _ => none
    | .call c => match c.callee with
      | .builtin .recover => match finA f (recoverA f cs).1 with
        | some f' => some ((f', (recoverA f cs).2), H)
        | none => none
      | _ => none
    | .panic x => match opv f.A.get x with
      | .iface t v => some ((raiseA f [(.iface t v, false)], cs), H)
      | _ => none
    | .makeChan t s => cond (makes P t (opv f.A.get s)) (match finA f (.complex .f32 H.next 0) with
      | some f' => some ((f', cs), H.new (.chan 0 0 false))
      | none => none) none
    | _ => none) none
noncomputable def runA (f : AFrame) (cs : List AFrame) (H : Heap) : Option (AG × Heap) :=
  match f.todo with
  | [] => some (({ f with mode := .returning }, cs), H)
  | .code .ret :: _ => some (({ f with mode := .returning }, cs), H)
  | .code .skip :: k | .code (.label _) :: k | .inBlock _ :: k | .inScope _ :: k => some (({ f with todo := k }, cs), H)
  | .code (.seq a b) :: k => some (({ f with todo := .code a :: .code b :: k }, cs), H)
  | .code (.cond c x y) :: k => match opv f.A.get c with
    | .bool t => some (({ f with todo := .code (if t then x else y) :: k }, cs), H)
    | _ => none
  | .code (.block id c) :: k => some (({ f with todo := .code c :: .inBlock id :: k }, cs), H)
  | .code (.loop c) :: k | .inLoop c :: k => some (({ f with todo := .code c :: .inLoop c :: k }, cs), H)
  | .code (.scope c) :: k => some (({ f with todo := .code c :: .inScope c :: k }, cs), H)
  | .code (.exit id) :: k => match exitTo id k with
    | some k' => some (({ f with todo := k' }, cs), H)
    | none => none
  | .code (.region _ ops false) :: k => some (({ f with todo := .inRegion ops (List.range ops.size) :: k }, cs), H)
  | .inRegion _ [] :: k => some (({ f with todo := k }, cs), H)
  | .inRegion ops (i :: _) :: _ => match ops[i]? with
    | some o => cond (Region.wanted o (yieldA ops f.A)) (operA P ft o f cs H) (match finA f undf with
      | some f' => some ((f', cs), H)
      | none => none)
    | none => none
  | _ => none
/-- What a function hands back. -/
noncomputable def resV (fn : Func) (A : Fr) (H : Heap) : Option (Value × Heap) := match arun P (resA fn A.get) H with
  | some (vs, H') => some (if h : vs.size = 1 then vs[0] else .tuple vs, H')
  | none => none
/-- The frame that a deferred call comes back to. -/
def backA (c : AFrame) : AFrame := match c.mode with
  | .panicking ((_, true) :: _) => { c with mode := .returning }
  | _ => c
noncomputable def unwindA (f : AFrame) (cs : List AFrame) (H : Heap) : Option (AG × Heap) :=
  match f.defers with
  | d :: ds => match enterA ft d.f d.args true with
    | some f' => some ((f', { f with defers := ds } :: cs), H)
    | none => none
  | [] => match f.mode with
    | .run => none
    | .leaving => none
    | .panicking c => match cs with
      | p :: r => match p.mode with
        | .leaving => none
        | _ => some ((raiseA p c, r), H)
      | [] => none
    | .returning => match ft f.fn with
      | none => none
      | some fn => match resV P fn f.A H, cs with
        | some (v, H'), p :: r => cond f.dfr (some ((backA p, r), H')) (match finA p v with
          | some p' => some ((p', r), H')
          | none => none)
        | _, _ => none
noncomputable def stepA (g : AG) (H : Heap) : Option (AG × Heap) := match g.1.mode with
  | .run => runA P ft g.1 g.2 H
  | _ => unwindA P ft g.1 g.2 H
end steps
end Go.Ev
