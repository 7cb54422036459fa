/-
  The evaluator: the same answers by shorter ways. Conditions: as before.
-/
import Derived.Test.YtmeppoihgfdgaaaDoorEvG
namespace Go.Ev
set_option linter.unusedSectionVars false      -- the symbols' class stands for all texts
variable [Syms] {P : Program} [NoFloat P] [Marks] {ι : Inj}

/-! ### Numbers -/
def eqI : Int → Int → Bool
  | .ofNat a, .ofNat b => Nat.beq a b
  | .negSucc a, .negSucc b => Nat.beq a b
  | _, _ => false
def leI : Int → Int → Bool
  | .ofNat a, .ofNat b => Nat.ble a b
  | .negSucc a, .negSucc b => Nat.ble b a
  | .negSucc _, .ofNat _ => true
  | .ofNat _, .negSucc _ => false
theorem eqI_eq (a b : Int) : eqI a b = (a == b) := by
  rw [Bool.eq_iff_iff, beq_iff_eq]
  cases a <;> cases b <;> simp [eqI] <;> omega
theorem leI_eq (a b : Int) : leI a b = decide (a ≤ b) := by
  rw [Bool.eq_iff_iff, decide_eq_true_eq]
  cases a with
  | ofNat a => cases b with
    | ofNat b => simp [leI]
    | negSucc b => simp [leI]; omega
  | negSucc a => cases b with
    | ofNat b => simp [leI]; omega
    | negSucc b => simp [leI]; omega

def eqK : IntKind → IntKind → Bool
  | .i8, .i8 | .i16, .i16 | .i32, .i32 | .i64, .i64 | .u8, .u8 | .u16, .u16 | .u32, .u32 | .u64, .u64 => true
  | _, _ => false
theorem eqK_ok {a b : IntKind} (h : eqK a b = true) : a = b := by
  cases a <;> cases b <;> first | rfl | simp [eqK] at h

def intBinS (op : BinOp) (k : IntKind) (a : Int) (k' : IntKind) (b : Int) : Option Value :=
  match op with
  | .shl => cond (leI 0 b) (some (.int k (k.wrap (a * 2 ^ (min b.toNat k.bits))))) none
  | .shr => cond (leI 0 b) (some (.int k (a.fdiv (2 ^ (min b.toNat k.bits))))) none
  | .add => cond (eqK k k') (some (.int k (k.wrap (a + b)))) none
  | .sub => cond (eqK k k') (some (.int k (k.wrap (a - b)))) none
  | .mul => cond (eqK k k') (some (.int k (k.wrap (a * b)))) none
  | .quo => cond (eqK k k' && !eqI b 0) (some (.int k (k.wrap (a.tdiv b)))) none
  | .rem => cond (eqK k k' && !eqI b 0) (some (.int k (a.tmod b))) none
  | .eql => cond (eqK k k') (some (.bool (eqI a b))) none
  | .neq => cond (eqK k k') (some (.bool (!eqI a b))) none
  | .lss => cond (eqK k k') (some (.bool (!leI b a))) none
  | .leq => cond (eqK k k') (some (.bool (leI a b))) none
  | .gtr => cond (eqK k k') (some (.bool (!leI a b))) none
  | .geq => cond (eqK k k') (some (.bool (leI b a))) none
  | _ => none

theorem notle (a b : Int) : (!leI b a) = decide (a < b) := by
  rw [leI_eq, Bool.eq_iff_iff]
  simp

theorem intBinS_ok {op : BinOp} {t : TypeId} {k k' : IntKind} {a b : Int} {v : Value} (h : intBinS op k a k' b = some v) (H : Heap) : arun P (Go.binOp op t (.int k a) (.int k' b)) H = some (v, H) ∧ ground v = true := by
  have sh : ∀ {x : Value} {op : BinOp}, cond (leI 0 b) (some x) none = some v → ¬ b < 0 ∧ x = v := by
    intro x _ hx
    cases hl : leI 0 b with
    | false => rw [hl] at hx; simp at hx
    | true =>
      rw [hl] at hx
      simp only [cond_true, Option.some.injEq] at hx
      rw [leI_eq, decide_eq_true_eq] at hl
      exact ⟨by omega, hx⟩
  have kk : ∀ {x : Value}, cond (eqK k k') (some x) none = some v → k = k' ∧ x = v := by
    intro x hx
    cases hl : eqK k k' with
    | false => rw [hl] at hx; simp at hx
    | true =>
      rw [hl] at hx
      simp only [cond_true, Option.some.injEq] at hx
      exact ⟨eqK_ok hl, hx⟩
  have kd : ∀ {x : Value}, cond (eqK k k' && !eqI b 0) (some x) none = some v → k = k' ∧ b ≠ 0 ∧ x = v := by
    intro x hx
    cases hl : (eqK k k' && !eqI b 0) with
    | false => rw [hl] at hx; simp at hx
    | true =>
      rw [hl] at hx
      simp only [cond_true, Option.some.injEq] at hx
      simp only [Bool.and_eq_true, Bool.not_eq_true'] at hl
      rw [eqI_eq] at hl
      exact ⟨eqK_ok hl.1, by simpa using hl.2, hx⟩
  unfold intBinS at h
  cases op <;> dsimp only at h
  case shl =>
    obtain ⟨h1, rfl⟩ := sh (op := .shl) h
    refine ⟨?_, rfl⟩
    unfold Go.binOp
    dsimp only
    unfold Op.shift
    rw [if_neg h1]; rfl
  case shr =>
    obtain ⟨h1, rfl⟩ := sh (op := .shr) h
    refine ⟨?_, rfl⟩
    unfold Go.binOp
    dsimp only
    unfold Op.shift
    rw [if_neg h1]; rfl
  case quo =>
    obtain ⟨rfl, h1, rfl⟩ := kd h
    refine ⟨?_, rfl⟩
    unfold Go.binOp Op.intDiv
    simp only [ne_eq, not_true, if_false, h1]; rfl
  case rem =>
    obtain ⟨rfl, h1, rfl⟩ := kd h
    refine ⟨?_, rfl⟩
    unfold Go.binOp Op.intDiv
    simp only [ne_eq, not_true, if_false, h1]; rfl
  case lss =>
    obtain ⟨rfl, rfl⟩ := kk h
    refine ⟨?_, rfl⟩
    rw [notle]
    unfold Go.binOp
    simp only [ne_eq, not_true, if_false]; rfl
  case gtr =>
    obtain ⟨rfl, rfl⟩ := kk h
    refine ⟨?_, rfl⟩
    rw [notle]
    unfold Go.binOp
    simp only [ne_eq, not_true, if_false]; rfl
  case leq =>
    obtain ⟨rfl, rfl⟩ := kk h
    refine ⟨?_, rfl⟩
    rw [leI_eq]
    unfold Go.binOp
    simp only [ne_eq, not_true, if_false]; rfl
  case geq =>
    obtain ⟨rfl, rfl⟩ := kk h
    refine ⟨?_, rfl⟩
    rw [leI_eq]
    unfold Go.binOp
    simp only [ne_eq, not_true, if_false]; rfl
  case eql =>
    obtain ⟨rfl, rfl⟩ := kk h
    refine ⟨?_, rfl⟩
    rw [eqI_eq]
    unfold Go.binOp
    simp only [ne_eq, not_true, if_false]; rfl
  case neq =>
    obtain ⟨rfl, rfl⟩ := kk h
    refine ⟨?_, rfl⟩
    rw [eqI_eq]
    unfold Go.binOp
    simp only [ne_eq, not_true, if_false]; rfl
  all_goals first
    | (simp at h; done)
    | (obtain ⟨rfl, rfl⟩ := kk h
       refine ⟨?_, rfl⟩
       unfold Go.binOp
       simp only [ne_eq, not_true, if_false]
       rfl)

/-! ### The same, without powers of whole numbers -/
def topN : IntKind → Nat
  | .i8 => 127
  | .i16 => 32767
  | .i32 => 2147483647
  | .i64 => 9223372036854775807
  | .u8 => 255
  | .u16 => 65535
  | .u32 => 4294967295
  | .u64 => 18446744073709551615
def isU : IntKind → Bool
  | .u8 | .u16 | .u32 | .u64 => true
  | _ => false
def wrapF (k : IntKind) (n : Int) : Int :=
  match n with
  | .ofNat a => cond (Nat.ble a (topN k)) (.ofNat a) (cond (isU k) (.ofNat (Nat.mod a (Nat.succ (topN k)))) (k.wrap (.ofNat a)))
  | .negSucc a => cond (!isU k && Nat.ble a (topN k)) (.negSucc a) (k.wrap (.negSucc a))
theorem wrap_low (k : IntKind) (a : Nat) (h : a ≤ topN k) : k.wrap (Int.ofNat a) = Int.ofNat a := by
  cases k <;> simp only [topN] at h <;> simp [IntKind.wrap, IntKind.bits, IntKind.signed] <;> omega
theorem wrap_sg (k : IntKind) (hu : isU k = false) (n : Int) (h1 : n < 0) (h2 : -(topN k : Int) - 1 ≤ n) : k.wrap n = n := by
  cases k <;> first | exact absurd hu (by decide) | skip
  all_goals
    simp only [topN] at h2
    simp only [IntKind.wrap, IntKind.bits, IntKind.signed]
    simp
    split <;> omega
theorem wrap_neg (k : IntKind) (a : Nat) (hu : isU k = false) (h : a ≤ topN k) : k.wrap (Int.negSucc a) = Int.negSucc a :=
  wrap_sg k hu _ (by omega) (by omega)
theorem wrap_mod (k : IntKind) (a : Nat) (hu : isU k = true) : k.wrap (Int.ofNat a) = Int.ofNat (Nat.mod a (Nat.succ (topN k))) := by
  show k.wrap (Int.ofNat a) = Int.ofNat (a % (topN k + 1))
  cases k <;> first | exact absurd hu (by decide) | skip
  all_goals
    simp only [topN, IntKind.wrap, IntKind.bits, IntKind.signed, Bool.false_and, Bool.false_eq_true, if_false, Int.ofNat_eq_natCast]
    omega
theorem wrapF_eq (k : IntKind) (n : Int) : wrapF k n = k.wrap n := by
  cases n with
  | ofNat a =>
    show cond (Nat.ble a (topN k)) (Int.ofNat a) (cond (isU k) (.ofNat (Nat.mod a (Nat.succ (topN k)))) (k.wrap (.ofNat a))) = _
    cases h : Nat.ble a (topN k) with
    | true => exact (wrap_low k a (Nat.le_of_ble_eq_true h)).symm
    | false => cases hu : isU k with
      | true => exact (wrap_mod k a hu).symm
      | false => rfl
  | negSucc a =>
    show cond (!isU k && Nat.ble a (topN k)) (Int.negSucc a) (k.wrap (.negSucc a)) = _
    cases h : (!isU k && Nat.ble a (topN k)) with
    | true =>
      simp only [Bool.and_eq_true, Bool.not_eq_true'] at h
      exact (wrap_neg k a h.1 (Nat.le_of_ble_eq_true h.2)).symm
    | false => rfl
def bitsN : IntKind → Nat
  | .i8 | .u8 => 8
  | .i16 | .u16 => 16
  | .i32 | .u32 => 32
  | .i64 | .u64 => 64
theorem bitsN_eq (k : IntKind) : bitsN k = k.bits := by cases k <;> rfl
def shlF (k : IntKind) (a b : Int) : Int :=
  match a with
  | .ofNat a => wrapF k (.ofNat (a * 2 ^ Nat.min b.toNat (bitsN k)))
  | a => k.wrap (a * 2 ^ (min b.toNat k.bits))
theorem shlF_eq (k : IntKind) (a b : Int) : shlF k a b = k.wrap (a * 2 ^ (min b.toNat k.bits)) := by
  cases a with
  | ofNat a =>
    show wrapF k (Int.ofNat (a * 2 ^ Nat.min b.toNat (bitsN k))) = _
    rw [wrapF_eq, bitsN_eq]
    congr 1
  | negSucc a => rfl
def shrF (k : IntKind) (a b : Int) : Int :=
  match a with
  | .ofNat a => .ofNat (a / 2 ^ Nat.min b.toNat (bitsN k))
  | a => a.fdiv (2 ^ (min b.toNat k.bits))
theorem shrF_eq (k : IntKind) (a b : Int) : shrF k a b = a.fdiv (2 ^ (min b.toNat k.bits)) := by
  cases a with
  | ofNat a =>
    show Int.ofNat (a / 2 ^ Nat.min b.toNat (bitsN k)) = _
    rw [bitsN_eq]
    show ((a / 2 ^ (min b.toNat k.bits) : Nat) : Int) = Int.fdiv (a : Int) (2 ^ (min b.toNat k.bits))
    rw [Int.fdiv_eq_ediv_of_nonneg _ (by exact_mod_cast Nat.zero_le (2 ^ (min b.toNat k.bits)))]
    simp
  | negSucc a => rfl

/-- The same, handed on when it is written out. -/
def wrapK {β : Type} (k : IntKind) (n : Int) (c : Int → β) : β :=
  match wrapF k n with
  | .ofNat a => Nat.casesOn a (c (.ofNat 0)) (fun p => c (.ofNat (Nat.succ p)))
  | .negSucc a => c (.negSucc a)
theorem wrapK_eq {β : Type} (k : IntKind) (n : Int) (c : Int → β) : wrapK k n c = c (k.wrap n) := by
  rw [← wrapF_eq]
  unfold wrapK
  cases wrapF k n with
  | ofNat a => cases a <;> rfl
  | negSucc a => rfl
def intBin (op : BinOp) (k : IntKind) (a : Int) (k' : IntKind) (b : Int) : Option Value :=
  match op with
  | .shl => cond (leI 0 b) (some (.int k (shlF k a b))) none
  | .shr => cond (leI 0 b) (some (.int k (shrF k a b))) none
  | .add => cond (eqK k k') (wrapK k (a + b) fun r => some (.int k r)) none
  | .sub => cond (eqK k k') (wrapK k (a - b) fun r => some (.int k r)) none
  | .mul => cond (eqK k k') (wrapK k (a * b) fun r => some (.int k r)) none
  | .quo => cond (eqK k k' && !eqI b 0) (wrapK k (a.tdiv b) fun r => some (.int k r)) none
  | .rem => cond (eqK k k' && !eqI b 0) (some (.int k (a.tmod b))) none
  | .eql => cond (eqK k k') (some (.bool (eqI a b))) none
  | .neq => cond (eqK k k') (some (.bool (!eqI a b))) none
  | .lss => cond (eqK k k') (some (.bool (!leI b a))) none
  | .leq => cond (eqK k k') (some (.bool (leI a b))) none
  | .gtr => cond (eqK k k') (some (.bool (!leI a b))) none
  | .geq => cond (eqK k k') (some (.bool (leI b a))) none
  | _ => none
theorem intBin_eq (op : BinOp) (k : IntKind) (a : Int) (k' : IntKind) (b : Int) : intBin op k a k' b = intBinS op k a k' b := by
  cases op <;> simp only [intBin, intBinS, wrapK_eq, shlF_eq, shrF_eq]
theorem intBin_ok {op : BinOp} {t : TypeId} {k k' : IntKind} {a b : Int} {v : Value} (h : intBin op k a k' b = some v) (H : Heap) : arun P (Go.binOp op t (.int k a) (.int k' b)) H = some (v, H) ∧ ground v = true :=
  intBinS_ok (by rw [← intBin_eq]; exact h) H

noncomputable def fBin (op : BinOp) (x y : Value) (H : Heap) : Option (ANext × Heap) :=
  match x, y with
  | .int k a, .int k' b => valS (intBin op k a k' b) H
  | _, _ => none

/-! ### Places -/
def scalarT (P : Program) (t : TypeId) : Bool := match P.underlying t with | some (.struct _) | some (.array ..) | none => false | some _ => true
def oneT (P : Program) (t : TypeId) : Bool := match P.info? t with | some i => Nat.beq i.size 1 | none => false
def fieldOff (P : Program) (t : TypeId) (f : Nat) : Option Nat :=
  match P.underlying t with
  | some (.struct fs) => match fs[f]? with
    | some fl => match P.info? fl.type with
      | some i => if i.size = 0 then none else some fl.offset
      | none => none
    | none => none
  | _ => none
def elemAt (P : Program) (t : TypeId) : Option (Option Nat × Nat) :=
  match P.underlying t with
  | some (.slice e) => match P.info? e with
    | some i => some (none, i.size)
    | none => none
  | some (.array n e) => match P.info? e with
    | some i => some (some n, i.size)
    | none => none
  | _ => none
def kindOf (P : Program) (t : TypeId) : Option IntKind := match P.underlying t with | some (.int k) => some k | _ => none

noncomputable def fLoad (P : Program) (t : TypeId) (x : Value) (H : Heap) : Option (ANext × Heap) :=
  match x with
  | .pointer (some a) => cond (scalarT P t) (valS (H.load a) H) none
  | _ => none
noncomputable def fStore (P : Program) (t : TypeId) (x v : Value) (H : Heap) : Option (ANext × Heap) :=
  match x with
  | .pointer (some a) => cond (oneT P t && oneCell v) (updH (H.store a v)) none
  | _ => none
noncomputable def fField (P : Program) (t : TypeId) (x : Value) (f : Nat) (H : Heap) : Option (ANext × Heap) :=
  match x with
  | .pointer (some a) => match fieldOff P t f with
    | some n => some (.value (.pointer (some (a.add n))), H)
    | none => none
  | _ => none
noncomputable def fIndex (P : Program) (t : TypeId) (x i : Value) (H : Heap) : Option (ANext × Heap) :=
  match x, i with
  | .slice (some a) len _, .int _ n => match elemAt P t with
    | some (none, s) => cond (leI 0 n && !leI len n) (some (.value (.pointer (some (a.add (n.toNat * s)))), H)) none
    | _ => none
  | .pointer (some a), .int _ n => match elemAt P t with
    | some (some len, s) => cond (leI 0 n && !leI len n) (some (.value (.pointer (some (a.add (n.toNat * s)))), H)) none
    | _ => none
  | _, _ => none
noncomputable def fConv (P : Program) (s t : TypeId) (x : Value) (H : Heap) : Option (ANext × Heap) :=
  match x with
  | .int _ n => match kindOf P t with
    | some k => cond (P.underlying s).isSome (some (.value (.int k (wrapF k n)), H)) none
    | none => none
  | _ => none

noncomputable def fPick (c a b : Value) (H : Heap) : Option (ANext × Heap) :=
  match c with
  | .bool t => some (.value (if t then a else b), H)
  | _ => none
noncomputable def fNil (P : Program) (x : Value) (H : Heap) : Option (ANext × Heap) :=
  match nilV P x with
  | some v => some (.value v, H)
  | none => none
noncomputable def fast (P : Program) (ft : Nat → Option Func) (g : Nat → Value) (o : Oper) (H : Heap) : Option (ANext × Heap) :=
  match o.op with
  | .move x | .assign x => some (.value (opv g x), H)
  | .binOp op _ x y _ => fBin op (opv g x) (opv g y) H
  | .load t x => fLoad P t (opv g x) H
  | .store t x y => fStore P t (opv g x) (opv g y) H
  | .fieldAddr t x f => fField P t (opv g x) f H
  | .indexAddr t x i => fIndex P t (opv g x) (opv g i) H
  | .convert s d x => fConv P s d (opv g x) H
  | .call c => acall P ft g c o H
  | .pick c a b => fPick (opv g c) (opv g a) (opv g b) H
  | .nilCheck x => fNil P (opv g x) H
  | .alloc _ => none
  | .box _ _ => none
  | .build _ _ => none
  | .buildSlice _ _ _ => none
  | .insert _ _ _ _ => none
  | .ready _ => none
  | .waits _ => none
  | .unOp _ _ _ => none
  | .sliceToArrayPointer _ _ => none
  | .makeInterface _ _ => none
  | .makeFunc _ _ _ => none
  | .makeMap _ _ => none
  | .makeChan _ _ => none
  | .makeSlice _ _ _ => none
  | .slice _ _ _ _ _ => none
  | .field _ _ _ => none
  | .index _ _ _ => none
  | .lookup _ _ _ _ => none
  | .mapUpdate _ _ _ _ => none
  | .mapEntry _ _ _ => none
  | .entryStore _ _ _ _ => none
  | .range _ _ => none
  | .next _ _ => none
  | .entry _ => none
  | .typeAssert _ _ _ _ => none
  | .extract _ _ => none
  | .go _ => none
  | .defer _ => none
  | .panic _ => none
  | .send _ _ => none
  | .recv _ _ _ => none
  | .select _ _ => none

noncomputable def aexecN (P : Program) (ft : Nat → Option Func) (g : Nat → Value) (o : Oper) (H : Heap) : Option (ANext × Heap) :=
  match fast P ft g o H with
  | some r => some r
  | none => aexecG P ft g o H

theorem arun_underlying {t : TypeId} {d : TypeDesc} (h : P.underlying t = some d) (H : Heap) : arun P (Go.underlying t) H = some (d, H) := by
  simp [Go.underlying, Go.program, arun_bind, arun, h]
theorem arun_typeInfo {t : TypeId} {i : TypeInfo} (h : P.info? t = some i) (H : Heap) : arun P (Go.typeInfo t) H = some (i, H) := by
  simp [Go.typeInfo, Go.program, arun_bind, arun, h]
theorem arun_sizeOf {t : TypeId} {i : TypeInfo} (h : P.info? t = some i) (H : Heap) : arun P (Go.sizeOf t) H = some (i.size, H) := by
  unfold Go.sizeOf
  rw [arun_bind, arun_typeInfo h]; rfl

theorem gen_value {s : Sem Value} {v : Value} {H H' : Heap} (h : arun P s H = some (v, H')) : gen P (do Pure.pure (.value (← s))) H = some (.value v, H') := by
  unfold gen
  rw [arun_bind, h]; rfl
theorem genG_value {s : Sem Value} {v : Value} {H H' : Heap} (h : arun P s H = some (v, H')) (hg : ground v = true) : genG P (do Pure.pure (.value (← s))) H = some (.value v, H') := by
  unfold genG
  rw [arun_bind, h]
  simp [hg]
theorem gen_skip {s : Sem Unit} {H H' : Heap} (h : arun P s H = some ((), H')) : gen P (do s; Pure.pure .skip) H = some (.skip, H') := by
  unfold gen
  rw [arun_bind, h]; rfl

theorem valS_some {v : Option Value} {H : Heap} {r : ANext × Heap} (h : valS v H = some r) : ∃ x, v = some x ∧ r = (.value x, H) := by
  cases v with
  | none => simp [valS] at h
  | some x => simp only [valS, Option.some.injEq] at h; exact ⟨x, rfl, h.symm⟩

theorem fast_ok {ft : Nat → Option Func} {g : Nat → Value} {o : Oper} {H : Heap} {r : ANext × Heap} (h : fast P ft g o H = some r) : aexecG P ft g o H = some r := by
  unfold fast at h
  unfold aexecG
  cases ho : o.op with
  | move x => rw [ho] at h; exact h
  | assign x => rw [ho] at h; exact h
  | call c => rw [ho] at h; exact h
  | pick c a b => rw [ho] at h; exact h
  | nilCheck x => rw [ho] at h; exact h
  | binOp op t x y yt =>
    rw [ho] at h
    have e : execOp (opv g) o = (do Pure.pure (.value (← (do Go.eqGuard op t x y (opv g x) (opv g y); Go.binOp op t (opv g x) (opv g y))))) := by unfold execOp; rw [ho]
    simp only [fBin] at h ⊢
    rw [e]
    split at h
    · rename_i k a k' b hx hy
      obtain ⟨v, hv, rfl⟩ := valS_some h
      obtain ⟨h1, h2⟩ := intBin_ok (P := P) (t := t) hv H
      rw [hx, hy]
      rw [if_pos (by rfl)]
      refine genG_value ?_ h2
      have hg : arun P (Go.eqGuard op t x y (.int k a) (.int k' b)) H = some ((), H) := by
        unfold Go.eqGuard
        cases op <;> rfl
      rw [arun_bind, hg]
      exact h1
    · simp at h
  | load t x =>
    rw [ho] at h
    have e : execOp (opv g) o = (do Pure.pure (.value (← Instr.loadAt t (opv g x)))) := by unfold execOp; rw [ho]
    simp only [fLoad] at h ⊢
    rw [e]
    split at h
    · rename_i a hx
      rw [hx]
      cases hs : scalarT P t with
      | false => rw [hs] at h; simp at h
      | true =>
        rw [hs] at h
        obtain ⟨v, hv, rfl⟩ := valS_some h
        refine gen_value ?_
        unfold scalarT at hs
        have hagg : arun P (Go.isAgg t) H = some (false, H) := by
          unfold Go.isAgg
          rw [arun_bind]
          split at hs
          · simp at hs
          · simp at hs
          · simp at hs
          · rename_i d h1 h2 hd
            rw [arun_underlying hd]
            cases d <;> first | rfl | exact absurd rfl (h1 _) | exact absurd rfl (h2 _ _)
        show arun P (Go.loadVar t a) H = _
        unfold Go.loadVar
        rw [arun_bind, hagg]
        simp only [Option.bind_some, Bool.false_eq_true, if_false]
        simp [Go.load, arun, hv]
    · simp at h
  | store t x y =>
    rw [ho] at h
    have e : execOp (opv g) o = (do Instr.storeAt t (opv g x) (opv g y); Pure.pure .skip) := by unfold execOp; rw [ho]
    simp only [fStore] at h ⊢
    rw [e]
    split at h
    · rename_i a hx
      rw [hx]
      cases hs : (oneT P t && oneCell (opv g y)) with
      | false => rw [hs] at h; simp at h
      | true =>
        rw [hs] at h
        simp only [cond_true] at h
        cases hst : H.store a (opv g y) with
        | none => rw [hst] at h; simp [updH] at h
        | some H1 =>
          rw [hst] at h
          simp only [updH, Option.some.injEq] at h
          subst h
          simp only [Bool.and_eq_true] at hs
          obtain ⟨h1, h2⟩ := hs
          refine gen_skip ?_
          unfold oneT at h1
          split at h1
          · rename_i i hi
            have hsz := Nat.eq_of_beq_eq_true h1
            show arun P (Go.storeVar t a (opv g y)) H = _
            unfold Go.storeVar
            rw [arun_bind, arun_sizeOf hi]
            simp only [Option.bind_some, cells_one h2, hsz]
            simp [Go.storeCells, Go.store, arun, Addr.add, hst]
          · simp at h1
    · simp at h
  | fieldAddr t x f =>
    rw [ho] at h
    have e : execOp (opv g) o = (do Pure.pure (.value (← Instr.fieldAt t (opv g x) f))) := by unfold execOp; rw [ho]
    simp only [fField] at h ⊢
    rw [e]
    split at h
    · rename_i a hx
      rw [hx]
      split at h
      · rename_i n hn
        simp only [Option.some.injEq] at h
        subst h
        refine gen_value ?_
        unfold fieldOff at hn
        split at hn
        · rename_i fs hu
          split at hn
          · rename_i fl hfl
            split at hn
            · rename_i i hi
              split at hn
              · simp at hn
              · rename_i hz
                simp only [Option.some.injEq] at hn
                subst hn
                unfold Instr.fieldAt
                rw [arun_bind, arun_underlying hu]
                simp only [Option.bind_some, hfl]
                show arun P (do Pure.pure (Value.pointer (some (← Go.fieldPlace a fl)))) H = _
                unfold Go.fieldPlace
                rw [arun_bind, arun_bind, arun_sizeOf hi]
                simp only [Option.bind_some, hz, if_false]
                rfl
            · simp at hn
          · simp at hn
        · simp at hn
      · simp at h
    · simp at h
  | indexAddr t x i =>
    rw [ho] at h
    have e : execOp (opv g) o = (do Pure.pure (.value (← Instr.indexAt t (opv g x) (opv g i)))) := by unfold execOp; rw [ho]
    simp only [fIndex] at h ⊢
    rw [e]
    have bd : ∀ {len : Nat} {n : Int} {q : Option (ANext × Heap)}, cond (leI 0 n && !leI len n) q none = some r → (0 ≤ n ∧ n < (len : Int)) ∧ q = some r := by
      intro len n q hq
      cases hc : (leI 0 n && !leI len n) with
      | false => rw [hc] at hq; simp at hq
      | true =>
        rw [hc] at hq
        rw [notle, leI_eq, Bool.and_eq_true, decide_eq_true_eq, decide_eq_true_eq] at hc
        exact ⟨hc, hq⟩
    split at h
    · rename_i a len cap k n hx hi
      rw [hx, hi]
      split at h
      · rename_i s hs
        obtain ⟨hb, hq⟩ := bd h
        simp only [Option.some.injEq] at hq
        subst hq
        unfold elemAt at hs
        split at hs
        · rename_i el hu
          split at hs
          · rename_i inf hinf
            simp only [Option.some.injEq, Prod.mk.injEq, true_and] at hs
            subst hs
            refine gen_value ?_
            unfold Instr.indexAt
            simp only [Go.asIntOf, arun_bind, arun_pure, Option.bind_some, arun_underlying hu]
            rw [if_pos hb, arun_bind, arun_sizeOf hinf]
            rfl
          · simp at hs
        · split at hs <;> simp at hs
        · simp at hs
      · simp at h
    · rename_i a k n hx hi
      rw [hx, hi]
      split at h
      · rename_i len s hs
        obtain ⟨hb, hq⟩ := bd h
        simp only [Option.some.injEq] at hq
        subst hq
        unfold elemAt at hs
        split at hs
        · split at hs <;> simp at hs
        · rename_i nn el hu
          split at hs
          · rename_i inf hinf
            simp only [Option.some.injEq, Prod.mk.injEq] at hs
            obtain ⟨rfl, rfl⟩ := hs
            refine gen_value ?_
            unfold Instr.indexAt
            simp only [Go.asIntOf, arun_bind, arun_pure, Option.bind_some, arun_underlying hu, Instr.sureAddr]
            rw [if_pos hb, arun_bind, arun_sizeOf hinf]
            rfl
          · simp at hs
        · simp at hs
      · simp at h
    · simp at h
  | convert s d x =>
    rw [ho] at h
    have e : execOp (opv g) o = (do Pure.pure (.value (← Go.convert s d (opv g x)))) := by unfold execOp; rw [ho]
    simp only [fConv, wrapF_eq] at h ⊢
    rw [e]
    split at h
    · rename_i k n hx
      rw [hx]
      split at h
      · rename_i k' hk
        cases hso : P.underlying s with
        | none => rw [hso] at h; simp at h
        | some sd =>
          rw [hso] at h
          simp only [Option.isSome_some, cond_true, Option.some.injEq] at h
          subst h
          have hd : P.underlying d = some (.int k') := by
            unfold kindOf at hk
            split at hk
            · simp only [Option.some.injEq] at hk; subst hk; assumption
            · simp at hk
          have h1 : isIntT P d = true := by unfold isIntT; rw [hd]
          rw [if_pos (by rw [h1]; rfl)]
          refine gen_value ?_
          unfold Go.convert
          rw [arun_bind, arun_underlying hso]
          simp only [Option.bind_some]
          rw [arun_bind, arun_underlying hd]
          simp only [Option.bind_some]
          cases sd <;> rfl
      · simp at h
    · simp at h
  | _ => rw [ho] at h; simp at h

theorem aexecN_of {ft : Nat → Option Func} {g : Nat → Value} {o : Oper} {H : Heap} {r : ANext × Heap} (h : aexecG P ft g o H = some r) : aexecN P ft g o H = some r := by
  unfold aexecN
  cases hf : fast P ft g o H with
  | none => exact h
  | some r' => rw [fast_ok hf] at h; exact h

theorem Ok.aexecN {ft : Nat → Option Func} (hE : EnvOk P ft) {g : Nat → Value} {ρ : Operand → Value} {o : Oper}
    (h : ∀ x ∈ o.op.operands, VRel ι (opv g x) (ρ x)) (H : Heap) : Ok P ι H (aexecN P ft g o H) (execOp ρ o) := by
  unfold Ev.aexecN
  cases hf : fast P ft g o H with
  | none => exact Ok.aexecG hE h H
  | some r =>
    have := Ok.aexecG hE h H
    rw [fast_ok hf] at this
    exact this

/-! ### What is known of operations on symbols -/
/-- What is known of operations: their values, the memory aside (orc); and of those that look at rows of numbers, or change them (orcQ says which may): their values (orcR), all that they do (orcH), what makes a row (mkA). -/
class Orc (P : Program) [Syms] where
  orc : Oper → (Nat → Value) → Option Value
  ok : ∀ (ι : Inj) (o : Oper) (g : Nat → Value) (v : Value), orc o g = some v → ∀ (H : Heap) (w : World) (ρ : Operand → Value), Rel P ι H w → (∀ x ∈ o.op.operands, VRel ι (opv g x) (ρ x)) →
    ∃ v', (execOp ρ o).run P w = .ok (.value v') w ∧ VRel ι v v'
  orcQ : Oper → (Nat → Value) → Bool
  orcR : Oper → (Nat → Value) → Heap → Option Value
  okR : ∀ (ι : Inj) (o : Oper) (g : Nat → Value) (H : Heap) (v : Value), orcR o g H = some v → ∀ (w : World) (ρ : Operand → Value), Rel P ι H w → (∀ x ∈ o.op.operands, VRel ι (opv g x) (ρ x)) →
    ∃ v', (execOp ρ o).run P w = .ok (.value v') w ∧ VRel ι v v'
  orcH : Oper → (Nat → Value) → Heap → Option (ANext × Heap)
  okH : ∀ (ι : Inj) (o : Oper) (g : Nat → Value) (ρ : Operand → Value) (H : Heap), (∀ x ∈ o.op.operands, VRel ι (opv g x) (ρ x)) → Ok P ι H (orcH o g H) (execOp ρ o)
  mkA : TypeId → Value → Value → Heap → Option (Value × Heap)
  mkNew : ∀ (t : TypeId) (l c : Value) (H H' : Heap) (v : Value), mkA t l c H = some (v, H') → ∃ b, H' = H.new b
  mkOk : ∀ (ι : Inj) (t : TypeId) (l c l' c' : Value) (H H' : Heap) (v : Value), VRel ι l l' → VRel ι c c' → mkA t l c H = some (v, H') → ∀ (w : World) (X X' : Heap), Rel P ι X w → ι H.next = none → X'.base = X.base → X.next ≤ X'.next → H.next < X'.next →
    (∀ n, n ∈ X'.hole → n ∈ X.hole ∧ n ≠ H.next) → (∀ m, X'.get m = if m = H.next then H'.get H.next else X.get m) →
    ∃ i v' w', (Instr.makeSlice t l' c').run P w = .ok v' w' ∧ Ext P ι w (ι.with H.next i) w' ∧ Rel P (ι.with H.next i) X' w' ∧ VRel (ι.with H.next i) v v'
  mkQ : Value → Bool

noncomputable def amakeO (P : Program) [Orc P] (t : TypeId) (l c : Value) (H : Heap) : Option (Value × Heap) := cond (Orc.mkQ P l) (Orc.mkA P t l c H) (match amake P t l c H with
  | some r => some r
  | none => Orc.mkA P t l c H)
theorem amakeO_new [Orc P] {t : TypeId} {l c : Value} {H H' : Heap} {v : Value} (h : amakeO P t l c H = some (v, H')) : ∃ b, H' = H.new b := by
  unfold amakeO at h
  cases hq : Orc.mkQ P l with
  | true =>
    rw [hq, cond_true] at h
    exact Orc.mkNew _ _ _ _ _ _ h
  | false =>
    rw [hq, cond_false] at h
    split at h
    · rename_i r hr
      simp only [Option.some.injEq] at h
      subst h
      exact amake_new hr
    · exact Orc.mkNew _ _ _ _ _ _ h
theorem amakeO_at [Orc P] (hz : ZeroOk P) {t : TypeId} {l c l' c' : Value} (hl : VRel ι l l') (hc : VRel ι c c') {H H' : Heap} {v : Value} (h : amakeO P t l c H = some (v, H')) {w : World} {X X' : Heap} (hw : Rel P ι X w)
    (hN : ι H.next = none) (hbase : X'.base = X.base) (hnx : X.next ≤ X'.next) (hlt : H.next < X'.next) (hhole : ∀ n, n ∈ X'.hole → n ∈ X.hole ∧ n ≠ H.next) (hget : ∀ m, X'.get m = if m = H.next then H'.get H.next else X.get m) :
    ∃ i v' w', (Instr.makeSlice t l' c').run P w = .ok v' w' ∧ Ext P ι w (ι.with H.next i) w' ∧ Rel P (ι.with H.next i) X' w' ∧ VRel (ι.with H.next i) v v' := by
  unfold amakeO at h
  cases hq : Orc.mkQ P l with
  | true =>
    rw [hq, cond_true] at h
    exact Orc.mkOk ι t l c l' c' H H' v hl hc h w X X' hw hN hbase hnx hlt hhole hget
  | false =>
    rw [hq, cond_false] at h
    split at h
    · rename_i r hr
      simp only [Option.some.injEq] at h
      subst h
      exact amake_at hz hl hc hr hw hN hbase hnx hlt hhole hget
    · exact Orc.mkOk ι t l c l' c' H H' v hl hc h w X X' hw hN hbase hnx hlt hhole hget
theorem amakeO_ok [Orc P] (hz : ZeroOk P) {t : TypeId} {l c l' c' : Value} (hl : VRel ι l l') (hc : VRel ι c c') {H H' : Heap} {v : Value} (h : amakeO P t l c H = some (v, H')) {w : World} (hw : Rel P ι H w) :
    ∃ ι' v' w', (Instr.makeSlice t l' c').run P w = .ok v' w' ∧ Ext P ι w ι' w' ∧ Rel P ι' H' w' ∧ VRel ι' v v' := by
  obtain ⟨b, rfl⟩ := amakeO_new h
  obtain ⟨i, v', w', e, x, r, q⟩ := amakeO_at hz hl hc h hw (hw.fresh _ (Nat.le_refl _)) rfl (Nat.le_succ _) (Nat.lt_succ_self _) (fun n hn => ⟨hn, fun e => by have := (hw.hole n hn).1; omega⟩) (X' := H.new b) (fun m => by simp only [Heap.get_new]; split <;> rfl)
  exact ⟨_, v', w', e, x, r, q⟩
noncomputable def aexecO (P : Program) [Orc P] (ft : Nat → Option Func) (g : Nat → Value) (o : Oper) (H : Heap) : Option (ANext × Heap) :=
  match o.op with
  | .makeSlice t l c => valH (amakeO P t (opv g l) (opv g c) H)
  | _ => aexecN P ft g o H
theorem aexecO_of [Orc P] {ft : Nat → Option Func} {g : Nat → Value} {o : Oper} {H : Heap} {v : Value} (h : aexecN P ft g o H = some (.value v, H)) : aexecO P ft g o H = some (.value v, H) := by
  unfold aexecO
  cases ho : o.op with
  | makeSlice t l c =>
    have hG : aexecG P ft g o H = some (.value v, H) := by
      unfold aexecN at h
      cases hf : fast P ft g o H with
      | none => rw [hf] at h; exact h
      | some r' => rw [hf] at h; rw [fast_ok hf]; exact h
    unfold aexecG at hG
    rw [ho] at hG
    dsimp only at hG
    cases hm : amake P t (opv g l) (opv g c) H with
    | none => rw [hm] at hG; simp [valH] at hG
    | some q =>
      obtain ⟨b, hb⟩ := amake_new (v := q.1) (H' := q.2) (by rw [hm])
      rw [hm] at hG
      simp only [valH, Option.some.injEq, Prod.mk.injEq] at hG
      have := congrArg Heap.next (hb.symm.trans hG.2)
      simp [Heap.new] at this
  | _ => exact h
theorem Ok.aexecO [Orc P] {ft : Nat → Option Func} (hE : EnvOk P ft) {g : Nat → Value} {ρ : Operand → Value} {o : Oper}
    (h : ∀ x ∈ o.op.operands, VRel ι (opv g x) (ρ x)) (H : Heap) : Ok P ι H (aexecO P ft g o H) (execOp ρ o) := by
  unfold Ev.aexecO
  cases ho : o.op with
  | makeSlice t l c =>
    have e : execOp ρ o = (do Pure.pure (.value (← Instr.makeSlice t (ρ l) (ρ c)))) := by unfold execOp; rw [ho]
    rw [e]
    dsimp only
    exact Ok.valH fun v H' hm w hw => amakeO_ok hE.zero (h l (by rw [ho]; simp [Op.operands])) (h c (by rw [ho]; simp [Op.operands])) hm hw
  | _ => exact Ok.aexecN hE h H

noncomputable def aexec (P : Program) [Orc P] (ft : Nat → Option Func) (g : Nat → Value) (o : Oper) (H : Heap) : Option (ANext × Heap) :=
  match Orc.orc P o g with
  | some v => some (.value v, H)
  | none => cond (Orc.orcQ P o g) (match Orc.orcR P o g H with
    | some v => some (.value v, H)
    | none => Orc.orcH P o g H) (aexecO P ft g o H)

theorem Ok.aexec [Orc P] {ft : Nat → Option Func} (hE : EnvOk P ft) {g : Nat → Value} {ρ : Operand → Value} {o : Oper}
    (h : ∀ x ∈ o.op.operands, VRel ι (opv g x) (ρ x)) (H : Heap) : Ok P ι H (aexec P ft g o H) (execOp ρ o) := by
  unfold Ev.aexec
  cases ho : Orc.orc P o g with
  | none =>
    dsimp only
    cases hq : Orc.orcQ P o g with
    | false => exact Ok.aexecO hE h H
    | true =>
      rw [cond_true]
      cases hr : Orc.orcR P o g H with
      | none => exact Orc.okH ι o g ρ H h
      | some v =>
        intro n H' hn w hw
        simp only [Option.some.injEq, Prod.mk.injEq] at hn
        obtain ⟨rfl, rfl⟩ := hn
        obtain ⟨v', e, q⟩ := Orc.okR ι o g H v hr w ρ hw h
        exact ⟨ι, .value v', w, e, Ext.refl _ _, hw, q⟩
  | some v =>
    intro n H' hr w hw
    simp only [Option.some.injEq, Prod.mk.injEq] at hr
    obtain ⟨rfl, rfl⟩ := hr
    obtain ⟨v', e, q⟩ := Orc.ok ι o g v ho H w ρ hw h
    exact ⟨ι, .value v', w, e, Ext.refl _ _, hw, q⟩

end Go.Ev
