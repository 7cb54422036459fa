/-
  The evaluator: numbers that are not known, as terms: each is a float whose bits say how it comes of others; what operations on them come to. Conditions: what is said of the terms that are decided ahead (AlOk).
-/
import Derived.Test.YtacdbgepncimgabDoorEvL
namespace Go.Ev
open Go.RowKit

/-! ### Terms as numbers -/
def sz (b : Nat) : Nat := Nat.succ (Nat.log2 b)
def mk (t k a b : Nat) : Nat := (((a * 2 ^ sz b + b) * 65536 + sz b) * 64 + t) * 8 + k
def cK (c : Nat) : Nat := c % 8
def cT (c : Nat) : Nat := c / 8 % 64
def cN (c : Nat) : Nat := c / 512
def cS (c : Nat) : Nat := c / 512 % 65536
def cB (c : Nat) : Nat := c / 33554432 % 2 ^ cS c
def cA (c : Nat) : Nat := c / 33554432 / 2 ^ cS c

theorem mk_K {t k a b : Nat} (hk : k < 8) : cK (mk t k a b) = k := by unfold cK mk; omega
theorem mk_T {t k a b : Nat} (hk : k < 8) (ht : t < 64) : cT (mk t k a b) = t := by unfold cT mk; omega
theorem mk_S {t k a b : Nat} (hk : k < 8) (ht : t < 64) (hs : sz b < 65536) : cS (mk t k a b) = sz b := by
  unfold cS mk
  generalize a * 2 ^ sz b + b = x
  generalize sz b = s at *
  omega
theorem mk_X {t k a b : Nat} (hk : k < 8) (ht : t < 64) (hs : sz b < 65536) : mk t k a b / 33554432 = a * 2 ^ sz b + b := by
  unfold mk
  generalize a * 2 ^ sz b + b = x
  generalize sz b = s at *
  omega
theorem lt_sz (b : Nat) : b < 2 ^ sz b := by unfold sz; exact Nat.lt_log2_self
theorem mk_B {t k a b : Nat} (hk : k < 8) (ht : t < 64) (hs : sz b < 65536) : cB (mk t k a b) = b := by
  unfold cB
  rw [mk_S hk ht hs, mk_X hk ht hs, Nat.mul_comm, Nat.mul_add_mod]
  exact Nat.mod_eq_of_lt (lt_sz b)
theorem mk_A {t k a b : Nat} (hk : k < 8) (ht : t < 64) (hs : sz b < 65536) : cA (mk t k a b) = a := by
  unfold cA
  rw [mk_S hk ht hs, mk_X hk ht hs, Nat.mul_comm, Nat.mul_add_div (Nat.two_pow_pos _), Nat.div_eq_of_lt (lt_sz b)]
  rfl
theorem cA_lt {c : Nat} (h : 0 < c) : cA c < c := by
  unfold cA
  refine Nat.lt_of_le_of_lt (Nat.div_le_self _ _) ?_
  omega
theorem cB_lt {c : Nat} (h : 0 < c) : cB c < c := by
  unfold cB
  refine Nat.lt_of_le_of_lt (Nat.mod_le _ _) ?_
  omega

def kOf : Nat → IntKind
  | 0 => .i8 | 1 => .i16 | 2 => .i32 | 3 => .i64 | 4 => .u8 | 5 => .u16 | 6 => .u32 | _ => .u64
def kI : IntKind → Nat
  | .i8 => 0 | .i16 => 1 | .i32 => 2 | .i64 => 3 | .u8 => 4 | .u16 => 5 | .u32 => 6 | .u64 => 7
theorem kOf_kI (k : IntKind) : kOf (kI k) = k := by cases k <;> rfl
theorem kI_lt (k : IntKind) : kI k < 8 := by cases k <;> decide
theorem kI_kOf {n : Nat} (h : n < 8) : kI (kOf n) = n := by
  rcases n with _ | _ | _ | _ | _ | _ | _ | _ | n <;> first | rfl | omega

def opI : BinOp → Nat
  | .add => 0 | .sub => 1 | .mul => 2 | .quo => 3 | .rem => 4 | .and => 5 | .or => 6 | .xor => 7 | .andNot => 8 | .shl => 9 | .shr => 10
  | .eql => 11 | .neq => 12 | .lss => 13 | .leq => 14 | .gtr => 15 | .geq => 16
def opOf : Nat → BinOp
  | 0 => .add | 1 => .sub | 2 => .mul | 3 => .quo | 4 => .rem | 5 => .and | 6 => .or | 7 => .xor | 8 => .andNot | 9 => .shl | 10 => .shr
  | 11 => .eql | 12 => .neq | 13 => .lss | 14 => .leq | 15 => .gtr | _ => .geq
theorem opOf_opI (o : BinOp) : opOf (opI o) = o := by cases o <;> rfl
theorem opI_lt (o : BinOp) : opI o < 17 := by cases o <;> decide

/-! ### What operations come to -/
/-- An operation on two numbers: as the model has it; none where it dies. -/
def vBin (op : BinOp) (k : IntKind) (a b : Int) : Option Value :=
  match op with
  | .add => some (.int k (k.wrap (a + b)))
  | .sub => some (.int k (k.wrap (a - b)))
  | .mul => some (.int k (k.wrap (a * b)))
  | .quo => if b = 0 then none else some (.int k (k.wrap (a.tdiv b)))
  | .rem => if b = 0 then none else some (.int k (a.tmod b))
  | .and => some (.int k (k.wrap (BitVec.ofInt k.bits a &&& BitVec.ofInt k.bits b).toNat))
  | .or => some (.int k (k.wrap (BitVec.ofInt k.bits a ||| BitVec.ofInt k.bits b).toNat))
  | .xor => some (.int k (k.wrap (BitVec.ofInt k.bits a ^^^ BitVec.ofInt k.bits b).toNat))
  | .andNot => some (.int k (k.wrap (BitVec.ofInt k.bits a &&& ~~~BitVec.ofInt k.bits b).toNat))
  | .shl => if b < 0 then none else some (.int k (k.wrap (a * 2 ^ (min b.toNat k.bits))))
  | .shr => if b < 0 then none else some (.int k (a.fdiv (2 ^ (min b.toNat k.bits))))
  | .eql => some (.bool (decide (a = b)))
  | .neq => some (.bool (decide (a ≠ b)))
  | .lss => some (.bool (decide (a < b)))
  | .leq => some (.bool (decide (a ≤ b)))
  | .gtr => some (.bool (decide (b < a)))
  | .geq => some (.bool (decide (b ≤ a)))
def isShift : BinOp → Bool
  | .shl | .shr => true
  | _ => false
theorem run_vBin {P : Program} {op : BinOp} {t : TypeId} {k k' : IntKind} {a b : Int} {v : Value} (hk : isShift op = true ∨ k = k') (h : vBin op k a b = some v) (w : World) :
    (Go.binOp op t (.int k a) (.int k' b)).run P w = .ok v w := by
  have eqb : ∀ x y : Int, (x == y) = decide (x = y) := fun x y => by rw [Bool.eq_iff_iff]; simp
  have neb : ∀ x y : Int, (x != y) = decide (x ≠ y) := fun x y => by rw [Bool.eq_iff_iff]; simp
  unfold vBin at h
  cases op <;> dsimp only at h <;> (first
    | (rcases hk with hk | rfl
       · exact absurd hk (by decide)
       · unfold Go.binOp
         simp only [ne_eq, not_true, if_false]
         first
           | (simp only [Option.some.injEq] at h; subst h; unfold Op.intArith; rfl)
           | (simp only [Option.some.injEq] at h; subst h; unfold Op.intBits; rfl)
           | (simp only [Option.some.injEq] at h; subst h; unfold Op.intCmp; simp only [eqb, neb]; rfl)
           | (split at h
              · simp at h
              · rename_i hb
                simp only [Option.some.injEq] at h
                subst h
                unfold Op.intDiv
                rw [if_neg hb]
                rfl))
    | (split at h
       · simp at h
       · rename_i hb
         simp only [Option.some.injEq] at h
         subst h
         unfold Go.binOp Op.shift
         dsimp only
         rw [if_neg hb]
         rfl))

/-! ### What a term stands for -/
structure Sy where
  ρ : Nat → Int
  Φ : Nat → List Int → Int

def intOfV : Option Value → Option (List Int)
  | some (.int _ n) => some [n]
  | _ => none
def boolOfV : Option Value → Option Bool
  | some (.bool b) => some b
  | _ => none
def evOp (S : Sy) (t k a : Nat) (x y : Option (List Int)) : Option (List Int) :=
  if t = 3 then (match y with | some [n] => some [(kOf k).wrap n] | _ => none)
  else if t = 4 then (match y with | some [n] => some [(kOf k).wrap (0 - n)] | _ => none)
  else if t = 5 then (match y with | some [n] => intOfV (vBin .xor (kOf k) (if (kOf k).signed then -1 else (kOf k).max) n) | _ => none)
  else if t = 6 then some []
  else if t = 7 then (match x, y with | some l, some m => some (l ++ m) | _, _ => none)
  else if t = 8 then (match y with | some l => some [S.Φ a l] | _ => none)
  else if t = 9 then (match x, y with | some [m], some [n] => some [if m < n then n else m] | _, _ => none)
  else if t = 10 then (match x, y with | some [m], some [n] => some [if n < m then n else m] | _, _ => none)
  else if 16 ≤ t then (match x, y with | some [m], some [n] => intOfV (vBin (opOf (t - 16)) (kOf k) m n) | _, _ => none)
  else none
def ev (S : Sy) (c : Nat) : Option (List Int) :=
  if cT c = 0 then some [S.ρ (cN c)]
  else if cT c = 1 then some [(cN c : Int)]
  else if cT c = 2 then some [-(cN c : Int) - 1]
  else if _h : 0 < c then evOp S (cT c) (cK c) (cA c) (ev S (cA c)) (ev S (cB c))
  else none
termination_by c
decreasing_by
  · exact cA_lt _h
  · exact cB_lt _h
def evB (S : Sy) (c : Nat) : Option Bool :=
  if cT c = 8 then (match ev S (cB c) with | some l => some (decide (S.Φ (cA c) l ≠ 0)) | none => none)
  else if 16 ≤ cT c then (match ev S (cA c), ev S (cB c) with | some [m], some [n] => boolOfV (vBin (opOf (cT c - 16)) (kOf (cK c)) m n) | _, _ => none)
  else none

theorem ev_mk (S : Sy) {t k a b : Nat} (hk : k < 8) (ht : t < 64) (h3 : 3 ≤ t) (hs : sz b < 65536) : ev S (mk t k a b) = evOp S t k a (ev S a) (ev S b) := by
  rw [ev]
  have e := mk_T (a := a) (b := b) hk ht
  have hp : 0 < mk t k a b := by unfold mk; omega
  rw [e, if_neg (by omega), if_neg (by omega), if_neg (by omega), dif_pos hp, mk_K hk, mk_A hk ht hs, mk_B hk ht hs]
theorem evB_mk (S : Sy) {t k a b : Nat} (hk : k < 8) (ht : t < 64) (h3 : 16 ≤ t) (hs : sz b < 65536) :
    evB S (mk t k a b) = (match ev S a, ev S b with | some [m], some [n] => boolOfV (vBin (opOf (t - 16)) (kOf k) m n) | _, _ => none) := by
  unfold evB
  rw [mk_T hk ht, if_neg (by omega), if_pos h3, mk_K hk, mk_A hk ht hs, mk_B hk ht hs]
theorem evB_app (S : Sy) {k a b : Nat} (hk : k < 8) (hs : sz b < 65536) :
    evB S (mk 8 k a b) = (match ev S b with | some l => some (decide (S.Φ a l ≠ 0)) | none => none) := by
  unfold evB
  rw [mk_T hk (by decide), if_pos rfl, mk_A hk (by decide) hs, mk_B hk (by decide) hs]

def lit (k : IntKind) : Int → Nat
  | .ofNat m => (m * 64 + 1) * 8 + kI k
  | .negSucc m => (m * 64 + 2) * 8 + kI k
theorem lit_K (k : IntKind) (n : Int) : cK (lit k n) = kI k := by
  have := kI_lt k
  cases n <;> (unfold cK lit; dsimp only; omega)
theorem ev_lit (S : Sy) (k : IntKind) (n : Int) : ev S (lit k n) = some [n] := by
  have := kI_lt k
  rw [ev]
  cases n with
  | ofNat m =>
    have e : cT (lit k (.ofNat m)) = 1 := by unfold cT lit; dsimp only; omega
    have e2 : cN (lit k (.ofNat m)) = m := by unfold cN lit; dsimp only; omega
    rw [e, e2, if_neg (by decide), if_pos rfl]
    rfl
  | negSucc m =>
    have e : cT (lit k (.negSucc m)) = 2 := by unfold cT lit; dsimp only; omega
    have e2 : cN (lit k (.negSucc m)) = m := by unfold cN lit; dsimp only; omega
    rw [e, e2, if_neg (by decide), if_neg (by decide), if_pos rfl]
    congr 2
    omega

/-- The class of symbols that this gives. -/
@[instance_reducible] def symS (S : Sy) (G : Nat → Option Obj) : Syms := ⟨fun c => match ev S c with | some [n] => some (.int (kOf (cK c)) n) | _ => none, fun c v h => by
  split at h
  · simp only [Option.some.injEq] at h; subst h; rfl
  · simp at h, G⟩

/-! ### What is decided ahead -/
def okA (S : Sy) (c : Nat) : Value → Prop
  | .bool b => evB S c = some b
  | .int k n => k = kOf (cK c) ∧ ev S c = some [n]
  | .float .f64 d => cK d = cK c ∧ ∃ n, ev S c = some [n] ∧ ev S d = some [n]
  | _ => False
def AlOk (S : Sy) (al : List (Nat × Value)) : Prop := ∀ p ∈ al, okA S p.1 p.2
theorem AlOk.nil (S : Sy) : AlOk S [] := fun p hp => by simp at hp
theorem AlOk.cons {S : Sy} {c : Nat} {v : Value} {al : List (Nat × Value)} (h : okA S c v) (ha : AlOk S al) : AlOk S ((c, v) :: al) := fun p hp => by
  rcases List.mem_cons.1 hp with rfl | hp
  · exact h
  · exact ha p hp
noncomputable def look (al : List (Nat × Value)) (c : Nat) : Option Value :=
  List.rec (motive := fun _ => Option Value) none (fun p _ r => cond (Nat.beq p.1 c) (some p.2) r) al
theorem look_ok {S : Sy} {al : List (Nat × Value)} (ha : AlOk S al) {c : Nat} {v : Value} (h : look al c = some v) : okA S c v := by
  induction al with
  | nil => simp [look] at h
  | cons p r ih =>
    have h' : cond (Nat.beq p.1 c) (some p.2) (look r c) = some v := h
    cases hb : Nat.beq p.1 c with
    | true =>
      rw [hb] at h'
      simp only [cond_true, Option.some.injEq] at h'
      have := Nat.eq_of_beq_eq_true hb
      subst this
      subst h'
      exact ha p List.mem_cons_self
    | false =>
      rw [hb] at h'
      exact ih (fun q hq => ha q (List.mem_cons_of_mem _ hq)) h'
/-- What is told where nothing is known: in a proof none. -/
def miss (_ : Nat) : Option Value := none
noncomputable def fin (al : List (Nat × Value)) (c : Nat) (tot : Bool) : Option Value :=
  match look al c with
  | some v => some v
  | none => cond tot (some (.float .f64 c)) (miss c)

theorem okA_rel {S : Sy} {G : Nat → Option Obj} {ι : Inj} {c : Nat} {v : Value} (h : okA S c v) : ∃ v', @VRel (symS S G) ι v v' ∧ ((∃ b, v' = .bool b ∧ evB S c = some b) ∨ ∃ n, v' = .int (kOf (cK c)) n ∧ ev S c = some [n]) := by
  letI := symS S G
  unfold okA at h
  split at h
  · exact ⟨_, .bool _, .inl ⟨_, rfl, h⟩⟩
  · obtain ⟨rfl, h⟩ := h
    exact ⟨_, .int _ _, .inr ⟨_, rfl, h⟩⟩
  · rename_i d
    obtain ⟨hk, n, h1, h2⟩ := h
    refine ⟨.int (kOf (cK c)) n, VRel.sym (c := d) ?_, .inr ⟨_, rfl, h1⟩⟩
    show (match ev S d with | some [n] => some (Value.int (kOf (cK d)) n) | _ => none) = _
    rw [h2, hk]
  · exact h.elim

/-- A number as a term. -/
noncomputable def vcode : Value → Option Nat
  | .float .f64 c => some c
  | .int k n => some (lit k n)
  | _ => none
theorem vcode_ok {S : Sy} {G : Nat → Option Obj} {ι : Inj} {v v' : Value} (hv : @VRel (symS S G) ι v v') {c : Nat} (h : vcode v = some c) : ∃ n, v' = .int (kOf (cK c)) n ∧ ev S c = some [n] := by
  letI := symS S G
  cases hv with
  | int k n =>
    simp only [vcode, Option.some.injEq] at h
    subst h
    exact ⟨n, by rw [lit_K, kOf_kI], ev_lit S k n⟩
  | @sym c' v' hs =>
    simp only [vcode, Option.some.injEq] at h
    subst h
    have hs' : (match ev S c' with | some [n] => some (Value.int (kOf (cK c')) n) | _ => none) = some v' := hs
    split at hs'
    · simp only [Option.some.injEq] at hs'
      subst hs'
      rename_i n hn
      exact ⟨n, rfl, hn⟩
    · simp at hs'
  | _ => simp [vcode] at h
def isSym : Value → Bool
  | .float .. => true
  | _ => false

/-- Does an operation on such terms always come to a number? -/
def total (op : BinOp) (b : Nat) : Bool :=
  match op with
  | .add | .sub | .mul | .and | .or | .xor | .andNot => true
  | .quo | .rem => Nat.beq (cT b) 1 && !Nat.beq (cN b) 0
  | .shl | .shr => Nat.beq (cT b) 1
  | _ => false
noncomputable def symBin (al : List (Nat × Value)) (op : BinOp) (a b : Nat) : Option Value :=
  cond ((isShift op || Nat.beq (cK a) (cK b)) && Nat.ble (sz b) 65535) (fin al (mk (16 + opI op) (cK a) a b) (total op b)) none

theorem symBin_ok {S : Sy} {G : Nat → Option Obj} {al : List (Nat × Value)} (ha : AlOk S al) {ι : Inj} {op : BinOp} {a b : Nat} {v : Value} (h : symBin al op a b = some v) {m n : Int} (hm : ev S a = some [m]) (hn : ev S b = some [n]) :
    (isShift op = true ∨ cK a = cK b) ∧ ∃ v', vBin op (kOf (cK a)) m n = some v' ∧ @VRel (symS S G) ι v v' := by
  letI := symS S G
  unfold symBin at h
  cases hc : ((isShift op || Nat.beq (cK a) (cK b)) && Nat.ble (sz b) 65535) with
  | false => rw [hc] at h; simp at h
  | true =>
    rw [hc] at h
    simp only [cond_true] at h
    simp only [Bool.and_eq_true, Bool.or_eq_true] at hc
    obtain ⟨hk, hs⟩ := hc
    have hs := Nat.le_of_ble_eq_true hs
    have hk8 : cK a < 8 := Nat.mod_lt _ (by decide)
    have ho := opI_lt op
    have e1 := ev_mk S (a := a) hk8 (show 16 + opI op < 64 by omega) (by omega) (show sz b < 65536 by omega)
    have e2 := evB_mk S (a := a) hk8 (show 16 + opI op < 64 by omega) (by omega) (show sz b < 65536 by omega)
    rw [hm, hn, show 16 + opI op - 16 = opI op by omega, opOf_opI] at e2
    rw [hm, hn] at e1
    have e1' : ev S (mk (16 + opI op) (cK a) a b) = intOfV (vBin op (kOf (cK a)) m n) := by
      rw [e1]
      unfold evOp
      rw [if_neg (by omega), if_neg (by omega), if_neg (by omega), if_neg (by omega), if_neg (by omega), if_neg (by omega), if_neg (by omega), if_neg (by omega), if_pos (by omega), show 16 + opI op - 16 = opI op by omega, opOf_opI]
    have e2' : evB S (mk (16 + opI op) (cK a) a b) = boolOfV (vBin op (kOf (cK a)) m n) := e2
    refine ⟨hk.imp id Nat.eq_of_beq_eq_true, ?_⟩
    unfold fin at h
    cases hl : look al (mk (16 + opI op) (cK a) a b) with
    | some u =>
      rw [hl] at h
      simp only [Option.some.injEq] at h
      subst h
      obtain ⟨v', r, hb | hn⟩ := okA_rel (ι := ι) (look_ok ha hl)
      · obtain ⟨b', rfl, hb⟩ := hb
        rw [e2'] at hb
        refine ⟨_, ?_, r⟩
        unfold boolOfV at hb
        split at hb
        · rename_i x hx; rw [hx]; simpa using hb
        · simp at hb
      · obtain ⟨n', rfl, hn⟩ := hn
        rw [e1'] at hn
        rw [mk_K hk8] at r
        refine ⟨.int (kOf (cK a)) n', ?_, r⟩
        unfold intOfV at hn
        split at hn
        · rename_i x k' y hx
          rw [hx]
          have : k' = kOf (cK a) := by
            unfold vBin at hx
            split at hx <;> (try split at hx) <;> simp at hx <;> exact hx.1.symm
          subst this
          simpa using hn
        · simp at hn
    | none =>
      rw [hl] at h
      cases ht : total op b with
      | false => rw [ht] at h; simp [miss] at h
      | true =>
        rw [ht] at h
        simp only [cond_true, Option.some.injEq] at h
        subst h
        have hlit : cT b = 1 → n = (cN b : Int) := fun hb => by
          rw [ev, if_neg (by omega), if_pos hb] at hn
          simpa using hn.symm
        have : ∃ r, vBin op (kOf (cK a)) m n = some (.int (kOf (cK a)) r) := by
          unfold total at ht
          unfold vBin
          cases op <;> simp only [Bool.false_eq_true, Bool.and_eq_true, Bool.not_eq_true', Nat.beq_eq] at ht ⊢ <;> first
            | exact ⟨_, rfl⟩
            | (have hnn := hlit ht; rw [if_neg (by omega)]; exact ⟨_, rfl⟩)
            | (have hnn := hlit ht.1; have hz := Nat.ne_of_beq_eq_false ht.2; rw [if_neg (by omega)]; exact ⟨_, rfl⟩)
        obtain ⟨r, hr⟩ := this
        refine ⟨_, hr, VRel.sym ?_⟩
        show (match ev S (mk (16 + opI op) (cK a) a b) with | some [n] => some (Value.int (kOf (cK (mk (16 + opI op) (cK a) a b))) n) | _ => none) = _
        rw [e1', hr, mk_K hk8]
        rfl
end Go.Ev
