/-
  The evaluator: terms as trees, and what their numbers stand for. No condition.
-/
import Derived.Test.YtacdbgepncimgabDoorEvP
namespace Go.Ev
inductive Tm where
  | var (k : IntKind) (i : Nat)
  | lit (k : IntKind) (n : Int)
  | conv (k : IntKind) (t : Tm)
  | neg (t : Tm)
  | cpl (t : Tm)
  | nil
  | cons (a b : Tm)
  | app (k : IntKind) (j : Nat) (t : Tm)
  | mx (b : Bool) (x y : Tm)
  | bin (op : BinOp) (x y : Tm)
def Tm.kd : Tm → IntKind
  | .var k _ | .lit k _ | .conv k _ | .app k _ _ => k
  | .neg t | .cpl t | .mx _ t _ | .bin _ t _ => t.kd
  | .nil | .cons .. => .i8
def Tm.enc : Tm → Nat
  | .var k i => i * 512 + kI k
  | .lit k n => Ev.lit k n
  | .conv k t => mk 3 (kI k) 0 t.enc
  | .neg t => mk 4 (kI t.kd) 0 t.enc
  | .cpl t => mk 5 (kI t.kd) 0 t.enc
  | .nil => mk 6 0 0 0
  | .cons a b => mk 7 0 a.enc b.enc
  | .app k j t => mk 8 (kI k) j t.enc
  | .mx b x y => mk (cond b 9 10) (kI x.kd) x.enc y.enc
  | .bin op x y => mk (16 + opI op) (kI x.kd) x.enc y.enc
/-- Small enough. -/
def Tm.ok : Tm → Bool
  | .var .. | .lit .. | .nil => true
  | .conv _ t | .neg t | .cpl t | .app _ _ t => Nat.ble (sz t.enc) 65535 && t.ok
  | .cons x y | .mx _ x y | .bin _ x y => Nat.ble (sz y.enc) 65535 && x.ok && y.ok
def Tm.den (S : Sy) : Tm → Option (List Int)
  | .var _ i => some [S.ρ i]
  | .lit _ n => some [n]
  | .conv k t => match t.den S with | some [n] => some [k.wrap n] | _ => none
  | .neg t => match t.den S with | some [n] => some [t.kd.wrap (0 - n)] | _ => none
  | .cpl t => match t.den S with | some [n] => intOfV (vBin .xor t.kd (if t.kd.signed then -1 else t.kd.max) n) | _ => none
  | .nil => some []
  | .cons x y => match x.den S, y.den S with | some l, some m => some (l ++ m) | _, _ => none
  | .app _ j t => match t.den S with | some l => some [S.Φ j l] | _ => none
  | .mx b x y => match x.den S, y.den S with | some [m], some [n] => some [if b then (if m < n then n else m) else (if n < m then n else m)] | _, _ => none
  | .bin op x y => match x.den S, y.den S with | some [m], some [n] => intOfV (vBin op x.kd m n) | _, _ => none
def Tm.denB (S : Sy) : Tm → Option Bool
  | .app _ j t => match t.den S with | some l => some (decide (S.Φ j l ≠ 0)) | _ => none
  | .bin op x y => match x.den S, y.den S with | some [m], some [n] => boolOfV (vBin op x.kd m n) | _, _ => none
  | _ => none

theorem Tm.ev_enc (S : Sy) : ∀ t : Tm, t.ok = true → ev S t.enc = t.den S
  | .var k i, _ => by
    have := kI_lt k
    rw [ev]
    have e : cT (Tm.var k i).enc = 0 := by unfold cT Tm.enc; omega
    have e2 : cN (Tm.var k i).enc = i := by unfold cN Tm.enc; omega
    rw [e, e2, if_pos rfl]
    rfl
  | .lit k n, _ => ev_lit S k n
  | .conv k t, h => by
    simp only [Tm.ok, Bool.and_eq_true] at h
    have hs := Nat.le_of_ble_eq_true h.1
    show ev S (mk 3 (kI k) 0 t.enc) = _
    rw [ev_mk S (kI_lt k) (by decide) (by decide) (by omega), Tm.ev_enc S t h.2]
    show (match t.den S with | some [n] => some [(kOf (kI k)).wrap n] | _ => none) = _
    rw [kOf_kI]
    rfl
  | .neg t, h => by
    simp only [Tm.ok, Bool.and_eq_true] at h
    have hs := Nat.le_of_ble_eq_true h.1
    show ev S (mk 4 (kI t.kd) 0 t.enc) = _
    rw [ev_mk S (kI_lt _) (by decide) (by decide) (by omega), Tm.ev_enc S t h.2]
    show (match t.den S with | some [n] => some [(kOf (kI t.kd)).wrap (0 - n)] | _ => none) = _
    rw [kOf_kI]
    rfl
  | .cpl t, h => by
    simp only [Tm.ok, Bool.and_eq_true] at h
    have hs := Nat.le_of_ble_eq_true h.1
    show ev S (mk 5 (kI t.kd) 0 t.enc) = _
    rw [ev_mk S (kI_lt _) (by decide) (by decide) (by omega), Tm.ev_enc S t h.2]
    show (match t.den S with | some [n] => intOfV (vBin .xor (kOf (kI t.kd)) (if (kOf (kI t.kd)).signed then -1 else (kOf (kI t.kd)).max) n) | _ => none) = _
    rw [kOf_kI]
    rfl
  | .nil, _ => by
    show ev S (mk 6 0 0 0) = _
    rw [ev_mk S (by decide) (by decide) (by decide) (by decide)]
    rfl
  | .cons a b, h => by
    simp only [Tm.ok, Bool.and_eq_true] at h
    have hs := Nat.le_of_ble_eq_true h.1.1
    show ev S (mk 7 0 a.enc b.enc) = _
    rw [ev_mk S (by decide) (by decide) (by decide) (by omega), Tm.ev_enc S a h.1.2, Tm.ev_enc S b h.2]
    rfl
  | .app k j t, h => by
    simp only [Tm.ok, Bool.and_eq_true] at h
    have hs := Nat.le_of_ble_eq_true h.1
    show ev S (mk 8 (kI k) j t.enc) = _
    rw [ev_mk S (kI_lt k) (by decide) (by decide) (by omega), Tm.ev_enc S t h.2]
    rfl
  | .mx b x y, h => by
    simp only [Tm.ok, Bool.and_eq_true] at h
    have hs := Nat.le_of_ble_eq_true h.1.1
    cases b with
    | true =>
      show ev S (mk 9 (kI x.kd) x.enc y.enc) = _
      rw [ev_mk S (kI_lt _) (by decide) (by decide) (by omega), Tm.ev_enc S x h.1.2, Tm.ev_enc S y h.2]
      rfl
    | false =>
      show ev S (mk 10 (kI x.kd) x.enc y.enc) = _
      rw [ev_mk S (kI_lt _) (by decide) (by decide) (by omega), Tm.ev_enc S x h.1.2, Tm.ev_enc S y h.2]
      rfl
  | .bin op x y, h => by
    simp only [Tm.ok, Bool.and_eq_true] at h
    have hs := Nat.le_of_ble_eq_true h.1.1
    have ho := opI_lt op
    show ev S (mk (16 + opI op) (kI x.kd) x.enc y.enc) = _
    rw [ev_mk S (kI_lt _) (by omega) (by omega) (by omega), Tm.ev_enc S x h.1.2, Tm.ev_enc S y h.2]
    unfold evOp
    rw [if_neg (by omega), if_neg (by omega), if_neg (by omega), if_neg (by omega), if_neg (by omega), if_neg (by omega), if_neg (by omega), if_neg (by omega), if_pos (by omega), show 16 + opI op - 16 = opI op by omega, opOf_opI, kOf_kI]
    rfl
theorem Tm.evB_enc (S : Sy) : ∀ t : Tm, t.ok = true → ∀ b, t.denB S = some b → evB S t.enc = some b
  | .app k j t, h, b, hb => by
    simp only [Tm.ok, Bool.and_eq_true] at h
    have hs := Nat.le_of_ble_eq_true h.1
    show evB S (mk 8 (kI k) j t.enc) = _
    rw [evB_app S (kI_lt k) (by omega), Tm.ev_enc S t h.2, ← hb]
    simp only [Tm.denB]
    cases t.den S <;> rfl
  | .bin op x y, h, b, hb => by
    simp only [Tm.ok, Bool.and_eq_true] at h
    have hs := Nat.le_of_ble_eq_true h.1.1
    have ho := opI_lt op
    show evB S (mk (16 + opI op) (kI x.kd) x.enc y.enc) = _
    rw [evB_mk S (kI_lt _) (by omega) (by omega) (by omega), Tm.ev_enc S x h.1.2, Tm.ev_enc S y h.2, show 16 + opI op - 16 = opI op by omega, opOf_opI, kOf_kI]
    exact hb
  | .var .., _, _, hb => by simp [Tm.denB] at hb
  | .lit .., _, _, hb => by simp [Tm.denB] at hb
  | .conv .., _, _, hb => by simp [Tm.denB] at hb
  | .neg .., _, _, hb => by simp [Tm.denB] at hb
  | .cpl .., _, _, hb => by simp [Tm.denB] at hb
  | .nil, _, _, hb => by simp [Tm.denB] at hb
  | .cons .., _, _, hb => by simp [Tm.denB] at hb
  | .mx .., _, _, hb => by simp [Tm.denB] at hb

/-- A decision, a number that is known, another name. -/
theorem al_bool {S : Sy} {c : Nat} {al : List (Nat × Value)} (t : Tm) (b : Bool) (he : (Nat.beq t.enc c && t.ok) = true) (hb : t.denB S = some b) (ha : AlOk S al) : AlOk S ((c, .bool b) :: al) := by
  simp only [Bool.and_eq_true] at he
  obtain rfl := Nat.eq_of_beq_eq_true he.1
  exact ha.cons (t.evB_enc S he.2 b hb)
theorem al_int {S : Sy} {c : Nat} {al : List (Nat × Value)} (t : Tm) (k : IntKind) (n : Int) (he : (Nat.beq t.enc c && t.ok && Nat.beq (cK c) (kI k)) = true) (hb : t.den S = some [n]) (ha : AlOk S al) : AlOk S ((c, .int k n) :: al) := by
  simp only [Bool.and_eq_true] at he
  obtain rfl := Nat.eq_of_beq_eq_true he.1.1
  refine ha.cons ⟨?_, (t.ev_enc S he.1.2).trans hb⟩
  rw [Nat.eq_of_beq_eq_true he.2, kOf_kI]
theorem al_sym {S : Sy} {c d : Nat} {al : List (Nat × Value)} (t u : Tm) (he : (Nat.beq t.enc c && t.ok && Nat.beq u.enc d && u.ok && Nat.beq (cK c) (cK d)) = true) {n : Int} (hb : t.den S = some [n]) (hd : u.den S = some [n]) (ha : AlOk S al) : AlOk S ((c, .float .f64 d) :: al) := by
  simp only [Bool.and_eq_true] at he
  obtain ⟨⟨⟨⟨h1, h2⟩, h3⟩, h4⟩, h5⟩ := he
  obtain rfl := Nat.eq_of_beq_eq_true h1
  obtain rfl := Nat.eq_of_beq_eq_true h3
  exact ha.cons ⟨(Nat.eq_of_beq_eq_true h5).symm, n, (t.ev_enc S h2).trans hb, (u.ev_enc S h4).trans hd⟩
/-- What codes stand for. -/
theorem cs_cons {S : Sy} {c : Nat} {cs : List Nat} {n : Int} {ns : List Int} (t : Tm) (he : (Nat.beq t.enc c && t.ok) = true) (hd : t.den S = some [n]) (h : CsOk S cs ns) : CsOk S (c :: cs) (n :: ns) := by
  simp only [Bool.and_eq_true] at he
  obtain rfl := Nat.eq_of_beq_eq_true he.1
  exact ⟨(t.ev_enc S he.2).trans hd, h⟩
theorem cs_nil {S : Sy} : CsOk S [] [] := trivial
/-- What a call is given: symbols, and what is known. -/
theorem vs_nil {S : Sy} {G : Nat → Option Obj} {ι : Inj} : VsOk S G ι [] [] := trivial
theorem vs_sym {S : Sy} {G : Nat → Option Obj} {ι : Inj} {k : IntKind} {i : Nat} {n : Int} {vs ws : List Value} (hn : S.ρ i = n) (h : VsOk S G ι vs ws) : VsOk S G ι (.float .f64 (i * 512 + kI k) :: vs) (.int k n :: ws) := by
  refine ⟨vs_var (k := k) ?_ ((Tm.ev_enc S (.var k i) rfl).trans ?_), h⟩
  · have := kI_lt k
    rw [show cK (i * 512 + kI k) = kI k by unfold cK; omega, kOf_kI]
  · simp [Tm.den, hn]
theorem vs_int {S : Sy} {G : Nat → Option Obj} {ι : Inj} {k : IntKind} {n : Int} {vs ws : List Value} (h : VsOk S G ι vs ws) : VsOk S G ι (.int k n :: vs) (.int k n :: ws) := by
  letI := symS S G
  exact ⟨.int k n, h⟩
theorem vs_bool {S : Sy} {G : Nat → Option Obj} {ι : Inj} {b : Bool} {vs ws : List Value} (h : VsOk S G ι vs ws) : VsOk S G ι (.bool b :: vs) (.bool b :: ws) := by
  letI := symS S G
  exact ⟨.bool b, h⟩
theorem vs_agg {S : Sy} {G : Nat → Option Obj} {ι : Inj} {xs ys vs ws : List Value} (h1 : VsOk S G ι xs ys) (h : VsOk S G ι vs ws) : VsOk S G ι (.agg xs.toArray :: vs) (.agg ys.toArray :: ws) := by
  letI := symS S G
  exact ⟨h1.toArr.agg, h⟩
end Go.Ev
