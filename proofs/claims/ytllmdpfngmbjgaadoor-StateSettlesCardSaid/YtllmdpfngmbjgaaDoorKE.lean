/- An evaluator of calls, with its laws. No condition. -/
import Derived.Test.YtllmdpfngmbjgaaDoorKD
import Derived.Deep.Slices
import Derived.ChangeArms
import Derived.Carry
import Derived.WalkKit
import Derived.ProofKit
import Derived.OpenShut
namespace Go.Ev
inductive Tm where
  | var (k : IntKind) (i : Nat)
  | lit (k : IntKind) (n : Int)
  | blit (b : Bool)
  | conv (k : IntKind) (t : Tm)
  | neg (t : Tm)
  | cpl (t : Tm)
  | nil
  | cons (a b : Tm)
  | app (k : IntKind) (j : Nat) (t : Tm)
  | not (t : Tm)
  | appB (j : Nat) (t : Tm)
  | mx (b : Bool) (x y : Tm)
  | beq (x y : Tm)
  | bne (x y : Tm)
  | and (x y : Tm)
  | bin (op : BinOp) (x y : Tm)
def Tm.kd : Tm → IntKind
  | .var k _ | .lit k _ | .conv k _ | .app k _ _ => k
  | .neg t | .cpl t | .mx _ t _ | .bin _ t _ => t.kd
  | .nil | .cons .. | .blit _ | .not _ | .appB .. | .beq .. | .bne .. | .and .. => .i8
def Tm.enc : Tm → Nat
  | .var k i => i * 512 + kI k
  | .lit k n => Ev.lit k n
  | .blit b => litB b
  | .not t => mk 11 0 0 t.enc
  | .appB j t => mk 12 0 j t.enc
  | .beq x y => mk 13 0 x.enc y.enc
  | .bne x y => mk 14 0 x.enc y.enc
  | .and x y => mk 33 0 x.enc y.enc
  | .conv k t => mk 3 (kI k) 0 t.enc
  | .neg t => mk 4 (kI t.kd) 0 t.enc
  | .cpl t => mk 5 (kI t.kd) 0 t.enc
  | .nil => mk 6 0 0 0
  | .cons a b => mk 7 0 a.enc b.enc
  | .app k j t => mk 8 (kI k) j t.enc
  | .mx b x y => mk (cond b 9 10) (kI x.kd) x.enc y.enc
  | .bin op x y => mk (16 + opI op) (kI x.kd) x.enc y.enc
def Tm.ok : Tm → Bool
  | .var .. | .lit .. | .nil | .blit _ => true
  | .conv _ t | .neg t | .cpl t | .app _ _ t | .not t | .appB _ t => Nat.ble (sz t.enc) 65535 && t.ok
  | .cons x y | .mx _ x y | .bin _ x y | .beq x y | .bne x y | .and x y => Nat.ble (sz y.enc) 65535 && x.ok && y.ok
def Tm.den (S : Sy) : Tm → Option (List Int)
  | .var _ i => some [S.ρ i]
  | .lit _ n => some [n]
  | .conv k t => match t.den S with | some [n] => some [k.wrap n] | _ => none
  | .neg t => match t.den S with | some [n] => some [t.kd.wrap (0 - n)] | _ => none
  | .cpl t => match t.den S with | some [n] => numV (vBin .xor t.kd (if t.kd.signed then -1 else t.kd.max) n) | _ => none
  | .blit b => some [b2i b]
  | .not t => match t.den S with | some [n] => some [b2i (decide (n = 0))] | _ => none
  | .appB j t => match t.den S with | some l => some [b2i (decide (S.Φ j l ≠ 0))] | _ => none
  | .beq x y => match x.den S, y.den S with | some [m], some [n] => some [b2i (decide (m = n))] | _, _ => none
  | .bne x y => match x.den S, y.den S with | some [m], some [n] => some [b2i (decide (m ≠ n))] | _, _ => none
  | .and x y => match x.den S, y.den S with | some [m], some [n] => some [b2i (decide (m ≠ 0) && decide (n ≠ 0))] | _, _ => none
  | .nil => some []
  | .cons x y => match x.den S, y.den S with | some l, some m => some (l ++ m) | _, _ => none
  | .app _ j t => match t.den S with | some l => some [S.Φ j l] | _ => none
  | .mx b x y => match x.den S, y.den S with | some [m], some [n] => some [if b then (if m < n then n else m) else (if n < m then n else m)] | _, _ => none
  | .bin op x y => match x.den S, y.den S with | some [m], some [n] => numV (vBin op x.kd m n) | _, _ => none
theorem Tm.ev_enc (S : Sy) : ∀ t : Tm, t.ok = true → ev S t.enc = t.den S
  | .var k i, _ => by
    have := kI_lt k
    rw [ev]
    have e : cT (Tm.var k i).enc = 0 := by unfold cT Tm.enc; omega
    have e2 : cN (Tm.var k i).enc = i := by unfold cN Tm.enc; omega
    rw [e, e2, if_pos rfl]
    rfl
  | .lit k n, _ => ev_lit S k n
  | .blit b, _ => ev_litB S b
  | .not t, h => by
    simp only [Tm.ok, Bool.and_eq_true] at h
    have hs := Nat.le_of_ble_eq_true h.1
    show ev S (mk 11 0 0 t.enc) = _
    rw [ev_mk S (by decide) (by decide) (by decide) (by decide) (by omega), Tm.ev_enc S t h.2]
    rfl
  | .appB j t, h => by
    simp only [Tm.ok, Bool.and_eq_true] at h
    have hs := Nat.le_of_ble_eq_true h.1
    show ev S (mk 12 0 j t.enc) = _
    rw [ev_mk S (by decide) (by decide) (by decide) (by decide) (by omega), Tm.ev_enc S t h.2]
    rfl
  | .beq x y, h => by
    simp only [Tm.ok, Bool.and_eq_true] at h
    have hs := Nat.le_of_ble_eq_true h.1.1
    show ev S (mk 13 0 x.enc y.enc) = _
    rw [ev_mk S (by decide) (by decide) (by decide) (by decide) (by omega), Tm.ev_enc S x h.1.2, Tm.ev_enc S y h.2]
    rfl
  | .bne x y, h => by
    simp only [Tm.ok, Bool.and_eq_true] at h
    have hs := Nat.le_of_ble_eq_true h.1.1
    show ev S (mk 14 0 x.enc y.enc) = _
    rw [ev_mk S (by decide) (by decide) (by decide) (by decide) (by omega), Tm.ev_enc S x h.1.2, Tm.ev_enc S y h.2]
    rfl
  | .and x y, h => by
    simp only [Tm.ok, Bool.and_eq_true] at h
    have hs := Nat.le_of_ble_eq_true h.1.1
    show ev S (mk 33 0 x.enc y.enc) = _
    rw [ev_mk S (by decide) (by decide) (by decide) (by decide) (by omega), Tm.ev_enc S x h.1.2, Tm.ev_enc S y h.2]
    rfl
  | .conv k t, h => by
    simp only [Tm.ok, Bool.and_eq_true] at h
    have hs := Nat.le_of_ble_eq_true h.1
    show ev S (mk 3 (kI k) 0 t.enc) = _
    rw [ev_mk S (kI_lt k) (by decide) (by decide) (by decide) (by omega), Tm.ev_enc S t h.2]
    show (match t.den S with | some [n] => some [(kOf (kI k)).wrap n] | _ => none) = _
    rw [kOf_kI]
    rfl
  | .neg t, h => by
    simp only [Tm.ok, Bool.and_eq_true] at h
    have hs := Nat.le_of_ble_eq_true h.1
    show ev S (mk 4 (kI t.kd) 0 t.enc) = _
    rw [ev_mk S (kI_lt _) (by decide) (by decide) (by decide) (by omega), Tm.ev_enc S t h.2]
    show (match t.den S with | some [n] => some [(kOf (kI t.kd)).wrap (0 - n)] | _ => none) = _
    rw [kOf_kI]
    rfl
  | .cpl t, h => by
    simp only [Tm.ok, Bool.and_eq_true] at h
    have hs := Nat.le_of_ble_eq_true h.1
    show ev S (mk 5 (kI t.kd) 0 t.enc) = _
    rw [ev_mk S (kI_lt _) (by decide) (by decide) (by decide) (by omega), Tm.ev_enc S t h.2]
    show (match t.den S with | some [n] => numV (vBin .xor (kOf (kI t.kd)) (if (kOf (kI t.kd)).signed then -1 else (kOf (kI t.kd)).max) n) | _ => none) = _
    rw [kOf_kI]
    rfl
  | .nil, _ => by
    show ev S (mk 6 0 0 0) = _
    rw [ev_mk S (by decide) (by decide) (by decide) (by decide) (by decide)]
    rfl
  | .cons a b, h => by
    simp only [Tm.ok, Bool.and_eq_true] at h
    have hs := Nat.le_of_ble_eq_true h.1.1
    show ev S (mk 7 0 a.enc b.enc) = _
    rw [ev_mk S (by decide) (by decide) (by decide) (by decide) (by omega), Tm.ev_enc S a h.1.2, Tm.ev_enc S b h.2]
    rfl
  | .app k j t, h => by
    simp only [Tm.ok, Bool.and_eq_true] at h
    have hs := Nat.le_of_ble_eq_true h.1
    show ev S (mk 8 (kI k) j t.enc) = _
    rw [ev_mk S (kI_lt k) (by decide) (by decide) (by decide) (by omega), Tm.ev_enc S t h.2]
    rfl
  | .mx b x y, h => by
    simp only [Tm.ok, Bool.and_eq_true] at h
    have hs := Nat.le_of_ble_eq_true h.1.1
    cases b with
    | true =>
      show ev S (mk 9 (kI x.kd) x.enc y.enc) = _
      rw [ev_mk S (kI_lt _) (by decide) (by decide) (by decide) (by omega), Tm.ev_enc S x h.1.2, Tm.ev_enc S y h.2]
      rfl
    | false =>
      show ev S (mk 10 (kI x.kd) x.enc y.enc) = _
      rw [ev_mk S (kI_lt _) (by decide) (by decide) (by decide) (by omega), Tm.ev_enc S x h.1.2, Tm.ev_enc S y h.2]
      rfl
  | .bin op x y, h => by
    simp only [Tm.ok, Bool.and_eq_true] at h
    have hs := Nat.le_of_ble_eq_true h.1.1
    have ho := opI_lt op
    show ev S (mk (16 + opI op) (kI x.kd) x.enc y.enc) = _
    rw [ev_mk S (kI_lt _) (by omega) (by omega) (by omega) (by omega), Tm.ev_enc S x h.1.2, Tm.ev_enc S y h.2]
    unfold evOp
    rw [if_neg (by omega), if_neg (by omega), if_neg (by omega), if_neg (by omega), if_neg (by omega), if_neg (by omega), if_neg (by omega), if_neg (by omega), if_neg (by omega), if_neg (by omega), if_neg (by omega), if_neg (by omega), if_neg (by omega), if_pos (by omega), show 16 + opI op - 16 = opI op by omega, opOf_opI, kOf_kI]
    rfl
theorem al_bool {S : Sy} {c : Nat} {al : List (Nat × Value)} (t : Tm) (b : Bool) (he : (Nat.beq t.enc c && t.ok && isBc c) = true) (hb : t.den S = some [b2i b]) (ha : AlOk S al) : AlOk S ((c, .bool b) :: al) := by
  simp only [Bool.and_eq_true] at he
  obtain rfl := Nat.eq_of_beq_eq_true he.1.1
  exact ha.cons ⟨he.2, (t.ev_enc S he.1.2).trans hb⟩
theorem al_int {S : Sy} {c : Nat} {al : List (Nat × Value)} (t : Tm) (k : IntKind) (n : Int) (he : (Nat.beq t.enc c && t.ok && Nat.beq (cK c) (kI k) && !isBc c) = true) (hb : t.den S = some [n]) (ha : AlOk S al) : AlOk S ((c, .int k n) :: al) := by
  simp only [Bool.and_eq_true, Bool.not_eq_true'] at he
  obtain rfl := Nat.eq_of_beq_eq_true he.1.1.1
  refine ha.cons ⟨he.2, ?_, (t.ev_enc S he.1.1.2).trans hb⟩
  rw [Nat.eq_of_beq_eq_true he.1.2, kOf_kI]
theorem al_sym {S : Sy} {c d : Nat} {al : List (Nat × Value)} (t u : Tm) (he : (Nat.beq t.enc c && t.ok && Nat.beq u.enc d && u.ok && Nat.beq (cK c) (cK d) && (isBc d == isBc c)) = true) {n : Int} (hb : t.den S = some [n]) (hd : u.den S = some [n]) (ha : AlOk S al) : AlOk S ((c, .float .f64 d) :: al) := by
  simp only [Bool.and_eq_true, beq_iff_eq] at he
  obtain ⟨⟨⟨⟨⟨h1, h2⟩, h3⟩, h4⟩, h5⟩, h6⟩ := he
  obtain rfl := Nat.eq_of_beq_eq_true h1
  obtain rfl := Nat.eq_of_beq_eq_true h3
  exact ha.cons ⟨h6, (Nat.eq_of_beq_eq_true h5).symm, n, (t.ev_enc S h2).trans hb, (u.ev_enc S h4).trans hd⟩
theorem cs_cons {S : Sy} {c : Nat} {cs : List Nat} {n : Int} {ns : List Int} (t : Tm) (he : (Nat.beq t.enc c && t.ok) = true) (hd : t.den S = some [n]) (h : CsOk S cs ns) : CsOk S (c :: cs) (n :: ns) := by
  simp only [Bool.and_eq_true] at he
  obtain rfl := Nat.eq_of_beq_eq_true he.1
  exact ⟨(t.ev_enc S he.2).trans hd, h⟩
theorem cs_nil {S : Sy} : CsOk S [] [] := trivial
theorem vs_nil {S : Sy} {G : Nat → Option Obj} {ι : Inj} : VsOk S G ι [] [] := trivial
theorem vs_sym {S : Sy} {G : Nat → Option Obj} {ι : Inj} {k : IntKind} {i : Nat} {n : Int} {vs ws : List Value} (hn : S.ρ i = n) (h : VsOk S G ι vs ws) : VsOk S G ι (.float .f64 (i * 512 + kI k) :: vs) (.int k n :: ws) := by
  have hk := kI_lt k
  have e : ev S (i * 512 + kI k) = some [n] := (Tm.ev_enc S (.var k i) rfl).trans (by simp [Tm.den, hn])
  have q := rel_code (G := G) (ι := ι) e
  have hb : isBc (i * 512 + kI k) = false := by
    have : cT (i * 512 + kI k) = 0 := by unfold cT; omega
    unfold isBc
    rw [this]
    rfl
  rw [mkV_num hb, show cK (i * 512 + kI k) = kI k by unfold cK; omega, kOf_kI] at q
  exact ⟨q, h⟩
def bsym (i : Nat) : Nat := (Tm.bin .neq (.var .u8 i) (.lit .u8 0)).enc
theorem vs_bsym {S : Sy} {G : Nat → Option Obj} {ι : Inj} {i : Nat} {b : Bool} {vs ws : List Value} (hi : Nat.ble (sz (lit .u8 0)) 65535 = true) (hn : S.ρ i = b2i b) (h : VsOk S G ι vs ws) : VsOk S G ι (.float .f64 (bsym i) :: vs) (.bool b :: ws) := by
  have e : ev S (bsym i) = some [b2i b] := (Tm.ev_enc S (.bin .neq (.var .u8 i) (.lit .u8 0)) (by simp [Tm.ok, Tm.enc, hi])).trans (by
    simp only [Tm.den, hn, vBin, numV]
    cases b <;> rfl)
  have q := rel_code (G := G) (ι := ι) e
  have hb : isBc (bsym i) = true := isBc_mk (kI_lt _) (by decide)
  unfold mkV at q
  rw [hb, cond_true, b2i_ne] at q
  exact ⟨q, h⟩
theorem vs_int {S : Sy} {G : Nat → Option Obj} {ι : Inj} {k : IntKind} {n : Int} {vs ws : List Value} (h : VsOk S G ι vs ws) : VsOk S G ι (.int k n :: vs) (.int k n :: ws) := by
  letI := symS S G
  exact ⟨.int k n, h⟩
theorem vs_bool {S : Sy} {G : Nat → Option Obj} {ι : Inj} {b : Bool} {vs ws : List Value} (h : VsOk S G ι vs ws) : VsOk S G ι (.bool b :: vs) (.bool b :: ws) := by
  letI := symS S G
  exact ⟨.bool b, h⟩
theorem vs_agg {S : Sy} {G : Nat → Option Obj} {ι : Inj} {xs ys vs ws : List Value} (h1 : VsOk S G ι xs ys) (h : VsOk S G ι vs ws) : VsOk S G ι (.agg xs.toArray :: vs) (.agg ys.toArray :: ws) := by
  letI := symS S G
  exact ⟨h1.toArr.agg, h⟩
theorem symOne {P : Program} [NoFloat P] {ft : Nat → Option Func} (hE : EnvOk P ft) {gs : Gs} {al : List (Nat × Value)} {S : Sy} (ha : AlOk S al) {cs : List Ctr} (hcs : ∀ c ∈ cs, CtrOk P S gs c) {n : Nat} {f : FuncId} {args args' : List Value} {k : IntKind} (T : Tm) {r : Int}
    (hk : codesP [.one (.int k)] [.float .f64 T.enc] = some [T.enc]) (ok : T.ok = true) (hT : T.den S = some [r]) (hrun : ∀ G, outV (runS P ft ha cs G n (.fn f args.toArray) (H0g P gs)) = some (.float .f64 T.enc)) (hrel : ∀ G ι, VsOk S G ι args args') (w : World) (hw : GOk P gs w) (hI : S.I = [] := by rfl) :
    Calls P f args'.toArray w fun e w' => e = .returned (.int k r) ∧ Quiet w w' :=
  symRun hE ha hcs (res := [.one (.int k)]) (vs := [.float .f64 T.enc]) (rcs := [T.enc]) (rs := [r]) hk ⟨(T.ev_enc S ok).trans hT, trivial⟩ hrun hrel w hw hI
theorem symIs {P : Program} [NoFloat P] {ft : Nat → Option Func} (hE : EnvOk P ft) {gs : Gs} {al : List (Nat × Value)} {S : Sy} (ha : AlOk S al) {cs : List Ctr} (hcs : ∀ c ∈ cs, CtrOk P S gs c) {n : Nat} {f : FuncId} {args args' : List Value} (b : Bool)
    (hrun : ∀ G, outV (runS P ft ha cs G n (.fn f args.toArray) (H0g P gs)) = some (.bool b)) (hrel : ∀ G ι, VsOk S G ι args args') (w : World) (hw : GOk P gs w) (hI : S.I = [] := by rfl) :
    Calls P f args'.toArray w fun e w' => e = .returned (.bool b) ∧ Quiet w w' := by
  have := symRun hE ha hcs (res := [.one .bool]) (vs := [.bool b]) (rcs := [litB b]) (rs := [b2i b]) (by cases b <;> rfl) ⟨ev_litB S b, trivial⟩ hrun hrel w hw hI
  refine Calls.mono this fun e w' ⟨h1, h2⟩ => ⟨?_, h2⟩
  rw [h1]
  cases b <;> rfl
theorem al_is {S : Sy} {al : List (Nat × Value)} (t : Tm) (b : Bool) (he : (t.ok && isBc t.enc) = true) (hb : t.den S = some [b2i b]) (ha : AlOk S al) : AlOk S ((t.enc, .bool b) :: al) :=
  al_bool t b (by simp only [Bool.and_eq_true] at he ⊢; exact ⟨⟨Nat.beq_refl _, he.1⟩, he.2⟩) hb ha
theorem len0 {ns : List Int} (h : ns.length = 0) : ns = [] := List.eq_nil_of_length_eq_zero h
theorem lenS {ns : List Int} {n : Nat} (h : ns.length = n + 1) : ∃ a r, ns = a :: r ∧ r.length = n := by
  cases ns with
  | nil => simp at h
  | cons a r => exact ⟨a, r, rfl, by simpa using h⟩
theorem len1 {ns : List Int} (h : ns.length = 1) : ∃ a, ns = [a] := by
  obtain ⟨a, r, rfl, h2⟩ := lenS h
  exact ⟨a, by rw [len0 h2]⟩
theorem len2 {ns : List Int} (h : ns.length = 2) : ∃ a b, ns = [a, b] := by
  obtain ⟨a, r, rfl, h2⟩ := lenS h
  obtain ⟨b, rfl⟩ := len1 h2
  exact ⟨a, b, rfl⟩
theorem len3 {ns : List Int} (h : ns.length = 3) : ∃ a b c, ns = [a, b, c] := by
  obtain ⟨a, r, rfl, h2⟩ := lenS h
  obtain ⟨b, c, rfl⟩ := len2 h2
  exact ⟨a, b, c, rfl⟩
theorem len4 {ns : List Int} (h : ns.length = 4) : ∃ a b c d, ns = [a, b, c, d] := by
  obtain ⟨a, r, rfl, h2⟩ := lenS h
  obtain ⟨b, c, d, rfl⟩ := len3 h2
  exact ⟨a, b, c, d, rfl⟩
end Go.Ev
namespace Go.Ev
open Go.RowKit
def P0 : Value := .complex .f64 0 0
inductive Ac where
  | num (c : Nat)
  | arr (a : ACode)
abbrev Asg := List (Nat × Ac)
noncomputable def mvalL (f : Value → Value → Option Asg) : List Value → List Value → Option Asg
  | [], [] => some []
  | v :: vs, u :: us => match f v u, mvalL f vs us with
    | some a, some b => some (a ++ b)
    | _, _ => none
  | _, _ => none
abbrev Ren := List (Nat × Nat)
def rho : Ren → Nat → Nat
  | [], n => n
  | p :: l, n => cond (Nat.beq p.1 n) p.2 (rho l n)
theorem rho_low {k : Nat} : ∀ {r : Ren} {n : Nat}, (r.all fun p => Nat.ble k p.1) = true → n < k → rho r n = n
  | [], _, _, _ => rfl
  | p :: l, n, h, hn => by
    simp only [List.all_cons, Bool.and_eq_true] at h
    have := Nat.le_of_ble_eq_true h.1
    have hb : Nat.beq p.1 n = false := by
      cases hb : Nat.beq p.1 n with
      | false => rfl
      | true => have := Nat.eq_of_beq_eq_true hb; omega
    show cond (Nat.beq p.1 n) p.2 (rho l n) = n
    rw [hb, cond_false]
    exact rho_low h.2 hn
theorem rho_ge {k : Nat} : ∀ {r : Ren} {n : Nat}, (r.all fun p => Nat.ble k p.2) = true → k ≤ n → k ≤ rho r n
  | [], _, _, h => h
  | p :: l, n, h, hn => by
    simp only [List.all_cons, Bool.and_eq_true] at h
    show k ≤ cond (Nat.beq p.1 n) p.2 (rho l n)
    cases Nat.beq p.1 n with
    | true => exact Nat.le_of_ble_eq_true h.1
    | false => exact rho_ge h.2 hn
noncomputable def mAddr (N : Nat) (r : Ren) (a b : Addr) : Bool := Nat.beq (rho r a.block) b.block && Nat.beq a.off b.off && a.spot.isNone && b.spot.isNone && Nat.ble (a.block + 1) N
noncomputable def mval (N : Nat) (r : Ren) : Nat → Value → Value → Option Asg
  | 0, _, _ => none
  | f + 1, v, u => match v with
    | .float .f64 pc => match vcode u with
      | some d => cond (Nat.beq (cT pc) 0 && !isBc d && Nat.beq (cK d) (cK pc)) (some [(cN pc, .num d)]) (cond (isBc d && Nat.beq pc (bsym (cN (cA pc)))) (some [(cN (cA pc), .num d)]) none)
      | none => none
    | .float .f32 pc => match u with
      | .float .f32 d => cond (Nat.beq pc d && Nat.beq (cT pc) 1) (some [(dL (iD (cA pc)), .num (dL (iD (cA pc)) * 512 + kI .i64))]) (cond (Nat.beq (cT pc) 3 && Nat.beq (cT d) 3 && Nat.beq (rho r (cA pc)) (cA d) && Nat.beq (cT (cB pc)) 0 && Nat.ble (cA pc + 1) N) (some [(cN (cB pc), .num (cB d))]) none)
      | .slice (some a) l c => cond (Nat.beq (cT pc) 3 && Nat.beq l c && Nat.ble 1 l && Nat.beq (rho r (cA pc)) a.block && Nat.beq a.off 0 && a.spot.isNone && Nat.beq (cT (cB pc)) 0 && Nat.ble (cA pc + 1) N) (some [(cN (cB pc), .num (lit .i64 l))]) none
      | _ => none
    | .int k n => match u with
      | .int k' n' => cond (eqK k k' && eqI n n') (some []) none
      | _ => none
    | .bool b => match u with
      | .bool b' => cond (b == b') (some []) none
      | _ => none
    | .pointer none => match u with
      | .pointer none => some []
      | _ => none
    | .pointer (some a) => match u with
      | .pointer (some b) => cond (mAddr N r a b) (some []) none
      | _ => none
    | .slice none l c => match u with
      | .slice none l' c' => cond (Nat.beq l l' && Nat.beq c c') (some []) none
      | _ => none
    | .slice (some a) l c => match u with
      | .slice (some b) l' c' => cond (mAddr N r a b && Nat.beq l l' && Nat.beq c c') (some []) none
      | _ => none
    | .nilFunc => match u with
      | .nilFunc => some []
      | _ => none
    | .nilIface => match u with
      | .nilIface => some []
      | _ => none
    | .func (.func k) xs us => match u with
      | .func (.func k') ys vs => cond (Nat.beq k k') (match mvalL (mval N r f) xs.toList ys.toList, mvalL (mval N r f) us.toList vs.toList with
        | some a, some b => some (a ++ b)
        | _, _ => none) none
      | _ => none
    | .iface t x => match u with
      | .iface t' y => cond (Nat.beq t t') (mval N r f x y) none
      | _ => none
    | .agg xs => match u with
      | .agg ys => mvalL (mval N r f) xs.toList ys.toList
      | _ => none
    | .tuple xs => match u with
      | .tuple ys => mvalL (mval N r f) xs.toList ys.toList
      | _ => none
    | _ => none
def cut (r : Ren) (ι : Inj) (N : Nat) : Inj := fun n => if n < N then ι (rho r n) else none
theorem cut_some {r : Ren} {ι : Inj} {N n : Nat} {i : Info} (h : cut r ι N n = some i) : n < N ∧ ι (rho r n) = some i := by
  unfold cut at h
  split at h
  · exact ⟨by assumption, h⟩
  · simp at h
theorem cut_of {r : Ren} {ι : Inj} {N n : Nat} {i : Info} (h : ι (rho r n) = some i) (hn : n < N) : cut r ι N n = some i := by
  unfold cut
  rw [if_pos hn]
  exact h
def acOk (S S' : Sy) (i : Nat) : Ac → Prop
  | .num c => ev S c = some [S'.ρ i]
  | .arr a => ∀ j : Nat, aden S a j = some (S'.Φ i [(j : Int)])
def AsgOk (S S' : Sy) (asg : Asg) : Prop := S'.I = S.I ∧ ∀ p ∈ asg, acOk S S' p.1 p.2
theorem AsgOk.left {S S' : Sy} {a b : Asg} (h : AsgOk S S' (a ++ b)) : AsgOk S S' a := ⟨h.1, fun p hp => h.2 p (List.mem_append_left _ hp)⟩
theorem AsgOk.right {S S' : Sy} {a b : Asg} (h : AsgOk S S' (a ++ b)) : AsgOk S S' b := ⟨h.1, fun p hp => h.2 p (List.mem_append_right _ hp)⟩
theorem asg_nil {S S' : Sy} (h : S'.I = S.I) : AsgOk S S' [] := ⟨h, fun p hp => by simp at hp⟩
theorem asg_cons {S S' : Sy} {i c : Nat} {asg : Asg} (t : Tm) (he : (Nat.beq t.enc c && t.ok) = true) (hd : t.den S = some [S'.ρ i]) (h : AsgOk S S' asg) : AsgOk S S' ((i, .num c) :: asg) := ⟨h.1, fun p hp => by
  simp only [Bool.and_eq_true] at he
  rcases List.mem_cons.1 hp with rfl | hp
  · show ev S c = _
    rw [← Nat.eq_of_beq_eq_true he.1]
    exact (t.ev_enc S he.2).trans hd
  · exact h.2 p hp⟩
theorem asg_arr {S S' : Sy} {i : Nat} {a : ACode} {asg : Asg} (hd : ∀ j : Nat, aden S a j = some (S'.Φ i [(j : Int)])) (h : AsgOk S S' asg) : AsgOk S S' ((i, .arr a) :: asg) := ⟨h.1, fun p hp => by
  rcases List.mem_cons.1 hp with rfl | hp
  · exact hd
  · exact h.2 p hp⟩
theorem var_code {i k : Nat} (hk : k < 8) : cT (i * 512 + k) = 0 ∧ cN (i * 512 + k) = i ∧ cK (i * 512 + k) = k := ⟨by unfold cT; omega, by unfold cN; omega, by unfold cK; omega⟩
theorem var_eq {c : Nat} (h : cT c = 0) : c = cN c * 512 + cK c := by unfold cT at h; unfold cN cK; omega
theorem var_rel {S : Sy} {G : Nat → Option Obj} {ι : Inj} {c : Nat} (h : cT c = 0) {n : Int} (hn : S.ρ (cN c) = n) : @VRel (symS S G) ι (.float .f64 c) (.int (kOf (cK c)) n) := by
  have e : ev S c = some [n] := by
    rw [ev]
    rw [if_pos h, hn]
  have q := rel_code (G := G) (ι := ι) e
  have hb : isBc c = false := by
    unfold isBc
    rw [h]
    rfl
  rw [mkV_num hb] at q
  exact q
theorem bsym_rel {S : Sy} {G : Nat → Option Obj} {ι : Inj} {i : Nat} {n : Int} (hn : S.ρ i = n) (hs : Nat.ble (sz (lit .u8 0)) 65535 = true) : @VRel (symS S G) ι (.float .f64 (bsym i)) (.bool (decide (n ≠ 0))) := by
  have e : ev S (bsym i) = some [b2i (decide (n ≠ 0))] := (Tm.ev_enc S (.bin .neq (.var .u8 i) (.lit .u8 0)) (by simp [Tm.ok, Tm.enc, hs])).trans (by
    simp only [Tm.den, hn, vBin, numV])
  have q := rel_code (G := G) (ι := ι) e
  have hb : isBc (bsym i) = true := isBc_mk (kI_lt _) (by decide)
  unfold mkV at q
  rw [hb, cond_true, b2i_ne] at q
  exact q
theorem cond_some {α : Type} {b : Bool} {x : Option α} {y : α} (h : cond b x none = some y) : b = true ∧ x = some y := by
  cases b with
  | true => exact ⟨rfl, h⟩
  | false => simp at h
theorem mAddr_ok {N : Nat} {r : Ren} {a b : Addr} (h : mAddr N r a b = true) : b = ⟨rho r a.block, a.off, a.spot⟩ ∧ a.block < N := by
  unfold mAddr at h
  simp only [Bool.and_eq_true] at h
  obtain ⟨⟨⟨⟨h1, h2⟩, h3⟩, h4⟩, h5⟩ := h
  have e1 := Nat.eq_of_beq_eq_true h1
  have e2 := Nat.eq_of_beq_eq_true h2
  have e3 := Nat.le_of_ble_eq_true h5
  refine ⟨?_, e3⟩
  cases a; cases b
  simp_all [Option.isNone_iff_eq_none]
section
variable {S S' : Sy} {G : Nat → Option Obj} {ι : Inj} {N : Nat} {r : Ren}
theorem mvalL_ok {f : Value → Value → Option Asg} (hf : ∀ v u asg, f v u = some asg → AsgOk S S' asg → ∀ v', @VRel (symS S G) ι u v' → @VRel (symS S' G) (cut r ι N) v v') :
    ∀ (vs us : List Value) (asg : Asg), mvalL f vs us = some asg → AsgOk S S' asg → vs.length = us.length ∧ ∀ k, k < vs.length → ∀ v', @VRel (symS S G) ι (us.getD k undf) v' → @VRel (symS S' G) (cut r ι N) (vs.getD k undf) v'
  | [], [], _, _, _ => ⟨rfl, fun k hk => by simp at hk⟩
  | v :: vs, u :: us, asg, h, ha => by
    simp only [mvalL] at h
    split at h
    · rename_i a b h1 h2
      simp only [Option.some.injEq] at h
      subst h
      obtain ⟨q1, q2⟩ := mvalL_ok hf vs us b h2 ha.right
      refine ⟨by simp [q1], fun k hk v' hv => ?_⟩
      cases k with
      | zero => exact hf v u a h1 ha.left v' (by simpa using hv)
      | succ k => exact q2 k (by simpa using hk) v' (by simpa using hv)
    · simp at h
  | [], _ :: _, _, h, _ => by simp [mvalL] at h
  | _ :: _, [], _, h, _ => by simp [mvalL] at h
theorem mvalA_ok {f : Value → Value → Option Asg} (hf : ∀ v u asg, f v u = some asg → AsgOk S S' asg → ∀ v', @VRel (symS S G) ι u v' → @VRel (symS S' G) (cut r ι N) v v')
    {xs ys zs : Array Value} {asg : Asg} (h : mvalL f xs.toList ys.toList = some asg) (ha : AsgOk S S' asg) (h1 : ys.size = zs.size) (h2 : ∀ k, k < ys.size → @VRel (symS S G) ι (ys.getD k undf) (zs.getD k undf)) :
    xs.size = zs.size ∧ ∀ k, k < xs.size → @VRel (symS S' G) (cut r ι N) (xs.getD k undf) (zs.getD k undf) := by
  obtain ⟨q1, q2⟩ := mvalL_ok hf _ _ _ h ha
  have q1' : xs.size = ys.size := by simpa using q1
  refine ⟨q1'.trans h1, fun k hk => ?_⟩
  have := q2 k (by simpa using hk) (zs.getD k undf) (by simpa using h2 k (by omega))
  simpa using this
theorem mval_ok : ∀ (f : Nat) (v u : Value) (asg : Asg), mval N r f v u = some asg → AsgOk S S' asg → ∀ v', @VRel (symS S G) ι u v' → @VRel (symS S' G) (cut r ι N) v v'
  | 0, v, u, asg, h, _ => by simp [mval] at h
  | f + 1, v, u, asg, h, ha => by
    intro v' hv
    unfold mval at h
    split at h
    · rename_i pc
      split at h
      · rename_i d hd
        obtain ⟨n, rfl, e⟩ := vcode_ok hv hd
        cases h1 : (Nat.beq (cT pc) 0 && !isBc d && Nat.beq (cK d) (cK pc)) with
        | true =>
          rw [h1, cond_true] at h
          simp only [Option.some.injEq] at h
          subst h
          simp only [Bool.and_eq_true, Bool.not_eq_true'] at h1
          obtain ⟨⟨g1, g2⟩, g3⟩ := h1
          have e2 : ev S d = _ := ha.2 (cN pc, .num d) List.mem_cons_self
          rw [e] at e2
          simp only [Option.some.injEq, List.cons.injEq, and_true] at e2
          rw [mkV_num g2, Nat.eq_of_beq_eq_true g3]
          exact var_rel (Nat.eq_of_beq_eq_true g1) e2.symm
        | false =>
          rw [h1, cond_false] at h
          obtain ⟨g, h⟩ := cond_some h
          simp only [Option.some.injEq] at h
          subst h
          simp only [Bool.and_eq_true] at g
          have e2 : ev S d = _ := ha.2 (cN (cA pc), .num d) List.mem_cons_self
          rw [e] at e2
          simp only [Option.some.injEq, List.cons.injEq, and_true] at e2
          have e3 := Nat.eq_of_beq_eq_true g.2
          unfold mkV
          rw [g.1, cond_true, e3]
          exact bsym_rel (by rw [e2]) (by decide +kernel)
      · simp at h
    · rename_i pc
      split at h
      · rename_i d
        cases h1 : (Nat.beq pc d && Nat.beq (cT pc) 1) with
        | true =>
          simp only [Bool.and_eq_true] at h1
          have e1 := Nat.eq_of_beq_eq_true h1.1
          have e2 := Nat.eq_of_beq_eq_true h1.2
          subst e1
          rw [h1.1, h1.2] at h
          simp only [Bool.and_self, cond_true, Option.some.injEq] at h
          subst h
          have e3 : ev S (dL (iD (cA pc)) * 512 + kI .i64) = some [S'.ρ (dL (iD (cA pc)))] := ha.2 (dL (iD (cA pc)), .num (dL (iD (cA pc)) * 512 + kI .i64)) List.mem_cons_self
          have e4 : S'.ρ (dL (iD (cA pc))) = S.ρ (dL (iD (cA pc))) := by
            have hk := kI_lt .i64
            rw [ev, if_pos (by unfold cT; omega), show cN (dL (iD (cA pc)) * 512 + kI .i64) = dL (iD (cA pc)) by unfold cN; omega] at e3
            simpa using e3.symm
          have hp : ptrS S pc = some v' := by
            letI := symS S G
            cases hv with
            | inp h => exact h
            | ownS h => exact absurd (show ownS S pc = some _ from h) (by unfold ownS; rw [if_neg (by omega), if_neg (by omega)]; simp)
            | ownP h => exact absurd (show ownS S pc = some _ from h) (by unfold ownS; rw [if_neg (by omega), if_neg (by omega)]; simp)
          letI := symS S' G
          refine VRel.inp (show ptrS S' pc = some v' from ?_)
          unfold ptrS at hp ⊢
          rw [if_pos e2] at hp ⊢
          rw [ha.1]
          unfold dOk at hp ⊢
          rw [e4]
          exact hp
        | false =>
          rw [h1, cond_false] at h
          obtain ⟨g, h⟩ := cond_some h
          simp only [Option.some.injEq] at h
          subst h
          simp only [Bool.and_eq_true] at g
          obtain ⟨⟨⟨⟨g1, g2⟩, g3⟩, g4⟩, g5⟩ := g
          have g1 := Nat.eq_of_beq_eq_true g1
          have g2 := Nat.eq_of_beq_eq_true g2
          have g3 := Nat.eq_of_beq_eq_true g3
          have g4 := Nat.eq_of_beq_eq_true g4
          have g5 := Nat.le_of_ble_eq_true g5
          have e2 : ev S (cB d) = some [S'.ρ (cN (cB pc))] := ha.2 (cN (cB pc), .num (cB d)) List.mem_cons_self
          have hq : ∃ b n cap i, v' = .slice (some ⟨i.blk, i.off, none⟩) n cap ∧ ownS S d = some (true, b, n) ∧ ι b = some i ∧ n ≤ cap ∧ (cap = n ∨ cap * i.esz ≤ i.size + i.extra) := by
            letI := symS S G
            cases hv with
            | inp h => exact absurd (show ptrS S d = some _ from h) (by unfold ptrS; rw [if_neg (by omega), if_neg (by omega)]; simp)
            | ownS h h2 h3 h4 => exact ⟨_, _, _, _, rfl, h, h2, h3, h4⟩
            | ownP h => exact absurd (show ownS S d = some _ from h) (by unfold ownS; rw [if_pos g2, e2]; dsimp only; split <;> simp)
          obtain ⟨b, n, cap, i, rfl, q1, q2, q3, q4⟩ := hq
          have q1' := q1
          unfold ownS at q1'
          rw [if_pos g2, e2] at q1'
          dsimp only at q1'
          split at q1'
          case isFalse => simp at q1'
          rename_i h0
          simp only [Option.some.injEq, Prod.mk.injEq, true_and] at q1'
          obtain ⟨rfl, rfl⟩ := q1'
          have hpc : ownS S' pc = some (true, cA pc, (S'.ρ (cN (cB pc))).toNat) := by
            have : ev S' (cB pc) = some [S'.ρ (cN (cB pc))] := by rw [ev, if_pos g4]
            unfold ownS; rw [if_pos g1, this]; dsimp only; rw [if_pos h0]
          letI := symS S' G
          exact VRel.ownS hpc (cut_of (by rw [g3]; exact q2) (by omega)) q3 q4
      · rename_i a l c
        obtain ⟨g, h⟩ := cond_some h
        simp only [Option.some.injEq] at h
        subst h
        simp only [Bool.and_eq_true, Option.isNone_iff_eq_none] at g
        obtain ⟨⟨⟨⟨⟨⟨⟨g1, g2⟩, g3⟩, g4⟩, g5⟩, g6⟩, g7⟩, g8⟩ := g
        have g1 := Nat.eq_of_beq_eq_true g1
        have g2 := Nat.eq_of_beq_eq_true g2
        have g3 := Nat.le_of_ble_eq_true g3
        have g4 := Nat.eq_of_beq_eq_true g4
        have g5 := Nat.eq_of_beq_eq_true g5
        have g7 := Nat.eq_of_beq_eq_true g7
        have g8 := Nat.le_of_ble_eq_true g8
        subst g2
        have e2 : ev S (lit .i64 (l : Int)) = some [S'.ρ (cN (cB pc))] := ha.2 (cN (cB pc), .num (lit .i64 l)) List.mem_cons_self
        rw [ev_lit] at e2
        simp only [Option.some.injEq, List.cons.injEq, and_true] at e2
        have hq : ∃ i cap, v' = .slice (some ⟨i.blk, i.off, none⟩) l cap ∧ ι a.block = some i ∧ l ≤ cap ∧ (cap = l ∨ cap * i.esz ≤ i.size + i.extra) := by
          letI := symS S G
          cases hv with
          | slice h1 h2 h3 =>
            refine ⟨_, _, by rw [g5, g6, Nat.add_zero], h1, h3, ?_⟩
            rcases h2 with h2 | ⟨h2, h4⟩
            · exact .inl h2
            · exact .inr (by omega)
          | emptySlice => omega
        obtain ⟨i, cap, rfl, q1, q2, q3⟩ := hq
        have hpc : ownS S' pc = some (true, cA pc, l) := by
          have : ev S' (cB pc) = some [S'.ρ (cN (cB pc))] := by rw [ev, if_pos g7]
          unfold ownS; rw [if_pos g1, this]; dsimp only; rw [if_pos (by omega), ← e2]
          simp
        letI := symS S' G
        exact VRel.ownS hpc (cut_of (by rw [g4]; exact q1) (by omega)) q2 q3
      · simp at h
    · rename_i k n
      split at h
      · rename_i k' n'
        obtain ⟨g, _⟩ := cond_some h
        simp only [Bool.and_eq_true] at g
        letI := symS S' G
        have e1 := eqK_ok g.1
        have e2 : n = n' := by have := g.2; rw [eqI_eq] at this; simpa using this
        subst e1 e2
        letI := symS S' G
        have : v' = .int k n := by
          letI := symS S G
          cases hv; rfl
        rw [this]
        exact .int k n
      · simp at h
    · rename_i b
      split at h
      · obtain ⟨g, _⟩ := cond_some h
        have e1 := eq_of_beq g
        subst e1
        letI := symS S' G
        have : v' = .bool b := by
          letI := symS S G
          cases hv; rfl
        rw [this]
        exact .bool b
      · simp at h
    · split at h
      · letI := symS S' G
        have : v' = .pointer none := by
          letI := symS S G
          cases hv; rfl
        rw [this]
        exact .nilPtr
      · simp at h
    · rename_i a
      split at h
      · rename_i b
        obtain ⟨g, _⟩ := cond_some h
        obtain ⟨e1, e2⟩ := mAddr_ok g
        subst e1
        letI := symS S' G
        have : ∃ i, ι (rho r a.block) = some i ∧ v' = .pointer (some ⟨i.blk, i.off + a.off, a.spot⟩) := by
          letI := symS S G
          cases hv with
          | ptr h => exact ⟨_, h, rfl⟩
        obtain ⟨i, hi, rfl⟩ := this
        exact .ptr (cut_of hi e2)
      · simp at h
    · rename_i l c
      split at h
      · rename_i l' c'
        obtain ⟨g, _⟩ := cond_some h
        simp only [Bool.and_eq_true] at g
        have e1 := Nat.eq_of_beq_eq_true g.1
        have e2 := Nat.eq_of_beq_eq_true g.2
        subst e1 e2
        letI := symS S' G
        have : v' = .slice none l c := by
          letI := symS S G
          cases hv; rfl
        rw [this]
        exact .nilSlice l c
      · simp at h
    · rename_i a l c
      split at h
      · rename_i b l' c'
        obtain ⟨g, _⟩ := cond_some h
        simp only [Bool.and_eq_true] at g
        have e1 := Nat.eq_of_beq_eq_true g.1.2
        have e2 := Nat.eq_of_beq_eq_true g.2
        obtain ⟨e3, e4⟩ := mAddr_ok g.1.1
        subst e1 e2 e3
        letI := symS S' G
        have : (∃ i c', ι (rho r a.block) = some i ∧ v' = .slice (some ⟨i.blk, i.off + a.off, a.spot⟩) l c' ∧ (c' = c ∨ (a.off + c * i.esz = i.size ∧ c' * i.esz = c * i.esz + i.extra)) ∧ c ≤ c') ∨ (∃ a', l = 0 ∧ c = 0 ∧ v' = .slice (some a') 0 0) := by
          letI := symS S G
          cases hv with
          | slice h1 h2 h3 => exact .inl ⟨_, _, h1, rfl, h2, h3⟩
          | emptySlice _ a' => exact .inr ⟨a', rfl, rfl, rfl⟩
        rcases this with ⟨i, c', h1, rfl, h2, h3⟩ | ⟨a', rfl, rfl, rfl⟩
        · exact .slice (cut_of h1 e4) h2 h3
        · exact .emptySlice a a'
      · simp at h
    · split at h
      · letI := symS S' G
        have : v' = .nilFunc := by
          letI := symS S G
          cases hv; rfl
        rw [this]
        exact .nilFunc
      · simp at h
    · split at h
      · letI := symS S' G
        have : v' = .nilIface := by
          letI := symS S G
          cases hv; rfl
        rw [this]
        exact .nilIface
      · simp at h
    · rename_i k xs us
      split at h
      · rename_i k' ys vs
        obtain ⟨g, h5⟩ := cond_some h
        clear h
        have e1 := Nat.eq_of_beq_eq_true g
        subst e1
        split at h5
        · rename_i a b h1 h2
          simp only [Option.some.injEq] at h5
          subst h5
          have : ∃ zs ws, v' = .func (.func k) zs ws ∧ (ys.size = zs.size ∧ ∀ j, j < ys.size → @VRel (symS S G) ι (ys.getD j undf) (zs.getD j undf)) ∧ (vs.size = ws.size ∧ ∀ j, j < vs.size → @VRel (symS S G) ι (vs.getD j undf) (ws.getD j undf)) := by
            letI := symS S G
            cases hv with
            | func _ q1 q2 q3 q4 => exact ⟨_, _, rfl, ⟨q1, q2⟩, q3, q4⟩
          obtain ⟨zs, ws, rfl, ⟨q1, q2⟩, q3, q4⟩ := this
          obtain ⟨r1, r2⟩ := mvalA_ok (fun v u asg => mval_ok f v u asg) h1 ha.left q1 q2
          obtain ⟨r3, r4⟩ := mvalA_ok (fun v u asg => mval_ok f v u asg) h2 ha.right q3 q4
          letI := symS S' G
          exact .func _ r1 r2 r3 r4
        · simp at h5
      · simp at h
    · rename_i t x
      split at h
      · rename_i t' y
        obtain ⟨g, h5⟩ := cond_some h
        clear h
        have e1 := Nat.eq_of_beq_eq_true g
        subst e1
        have : ∃ z, v' = .iface t z ∧ @VRel (symS S G) ι y z := by
          letI := symS S G
          cases hv with
          | iface _ q => exact ⟨_, rfl, q⟩
        obtain ⟨z, rfl, q⟩ := this
        have q2 := mval_ok f x y asg h5 ha z q
        letI := symS S' G
        exact .iface _ q2
      · simp at h
    · rename_i xs
      split at h
      · rename_i ys
        have : ∃ zs, v' = .agg zs ∧ ys.size = zs.size ∧ ∀ j, j < ys.size → @VRel (symS S G) ι (ys.getD j undf) (zs.getD j undf) := by
          letI := symS S G
          cases hv with
          | agg q1 q2 => exact ⟨_, rfl, q1, q2⟩
        obtain ⟨zs, rfl, q1, q2⟩ := this
        obtain ⟨r1, r2⟩ := mvalA_ok (fun v u asg => mval_ok f v u asg) h ha q1 q2
        letI := symS S' G
        exact .agg r1 r2
      · simp at h
    · rename_i xs
      split at h
      · rename_i ys
        have : ∃ zs, v' = .tuple zs ∧ ys.size = zs.size ∧ ∀ j, j < ys.size → @VRel (symS S G) ι (ys.getD j undf) (zs.getD j undf) := by
          letI := symS S G
          cases hv with
          | tuple q1 q2 => exact ⟨_, rfl, q1, q2⟩
        obtain ⟨zs, rfl, q1, q2⟩ := this
        obtain ⟨r1, r2⟩ := mvalA_ok (fun v u asg => mval_ok f v u asg) h ha q1 q2
        letI := symS S' G
        exact .tuple r1 r2
      · simp at h
    · simp at h
end
end Go.Ev
namespace Go.Ev
open Go.RowKit
noncomputable def setAll {α : Type} : List (Nat × α) → T α → T α
  | [], t => t
  | (n, v) :: l, t => (setAll l t).set n (some v)
theorem setAll_get {α : Type} : ∀ (l : List (Nat × α)) (t : T α) (n : Nat), (∃ v, (n, v) ∈ l ∧ (setAll l t).get n = some v) ∨ (setAll l t).get n = t.get n
  | [], t, n => .inr rfl
  | (m, v) :: l, t, n => by
    simp only [setAll, T.get_set]
    by_cases h : n = m
    · subst h
      rw [if_pos rfl]
      exact .inl ⟨v, List.mem_cons_self, rfl⟩
    · rw [if_neg h]
      rcases setAll_get l t n with ⟨u, h1, h2⟩ | h1
      · exact .inl ⟨u, List.mem_cons_of_mem _ h1, h2⟩
      · exact .inr h1
structure Pat where
  size : Nat
  N : Nat
  fr : List (Nat × Value)
  hp : List (Nat × Blk)
noncomputable def Pat.A (X : Pat) : Fr := { size := X.size, m := setAll X.fr (T.ofL (List.replicate X.size P0) 0 .leaf), opn := true }
noncomputable def Pat.H (P : Program) (X : Pat) : Heap := { base := P.globals.size, next := X.N, m := setAll X.hp .leaf }
theorem Pat.A_get (X : Pat) (t : Nat) : (∃ v, (t, v) ∈ X.fr ∧ X.A.get t = v) ∨ (t < X.size ∧ X.A.get t = P0) ∨ (X.size ≤ t ∧ X.A.get t = undf) := by
  unfold Fr.get Pat.A
  dsimp only
  rcases setAll_get X.fr (T.ofL (List.replicate X.size P0) 0 .leaf) t with ⟨v, h1, h2⟩ | h
  · exact .inl ⟨v, h1, by rw [h2]; rfl⟩
  · right
    rw [h, T.get_ofL]
    by_cases ht : t < X.size
    · left
      rw [if_pos (by simp; omega)]
      exact ⟨ht, by simp [ht]⟩
    · right
      rw [if_neg (by simp; omega)]
      exact ⟨by omega, rfl⟩
noncomputable def mFr (N : Nat) (r : Ren) (A : Fr) : List (Nat × Value) → Option Asg
  | [] => some []
  | (t, v) :: l => match mval N r 9 v (A.get t), mFr N r A l with
    | some a, some b => some (a ++ b)
    | _, _ => none
noncomputable def mCells (N : Nat) (r : Ren) (c c' : Cells) : Nat → Option Asg
  | 0 => some []
  | k + 1 => match mval N r 9 (c.get k) (c'.get k), mCells N r c c' k with
    | some a, some b => some (a ++ b)
    | _, _ => none
noncomputable def mCols : List (Option IntKind × ACode) → List (Option IntKind × ACode) → Option Asg
  | [], [] => some []
  | (k, .var f) :: l, (k', a) :: l' => cond (kEq k k') (match mCols l l' with
    | some x => some ((f, .arr a) :: x)
    | none => none) none
  | _, _ => none
noncomputable def upCol (c : Cells) (k : Option IntKind) (n m : Nat) : Nat → Option ACode
  | 0 => some .zero
  | i + 1 => match vcode (c.get (i * n + m)), upCol c k n m i with
    | some cv, some a => cond (codeK k cv) (some (.upd a (lit .i64 i) cv)) none
    | _, _ => none
noncomputable def mUps (c : Cells) (n l : Nat) : Nat → List (Option IntKind × ACode) → Option Asg
  | _, [] => some []
  | m, (k, .var f) :: r => match upCol c k n m l, mUps c n l (m + 1) r with
    | some a, some x => some ((f, .arr a) :: x)
    | _, _ => none
  | _, _ => none
noncomputable def mBlk (N : Nat) (rn : Ren) : Blk → Blk → Option Asg
  | .arr r, .arr r' => cond (Nat.beq r.elem r'.elem && Nat.beq (cT r.n) 0 && Nat.ble 1 r.cs.length) (match mCols r.cs r'.cs with
    | some x => some ((cN r.n, .num r'.n) :: x)
    | none => none) none
  | .arr r, .cells c => cond (Nat.beq r.elem c.elem && Nat.beq (cT r.n) 0 && Nat.ble 1 r.cs.length && Nat.beq c.esz r.cs.length && Nat.beq (c.size / r.cs.length * r.cs.length) c.size) (match mUps c r.cs.length (c.size / r.cs.length) 0 r.cs with
    | some x => some ((cN r.n, .num (lit .i64 (Int.ofNat (c.size / r.cs.length)))) :: x)
    | none => none) none
  | .cells c, .cells c' => cond (Nat.beq c.size c'.size && Nat.beq c.elem c'.elem && (c.opn == c'.opn) && Nat.beq c.esz c'.esz) (mCells N rn c c' c.size) none
  | _, _ => none
noncomputable def mGl (b b' : Blk) : Bool := match b, b' with
  | .cells c, .cells c' => Nat.beq c.size c'.size && Nat.beq c.esz c'.esz && !c'.opn
  | _, _ => false
noncomputable def mHp (base N : Nat) (r : Ren) (H : Heap) : List (Nat × Blk) → Option Asg
  | [] => some []
  | (n, b) :: l => match H.get (rho r n) with
    | some b' => cond (Nat.ble (n + 1) N) (cond (Nat.ble (n + 1) base) (cond (mGl b b') (mHp base N r H l) none) (match mBlk N r b b', mHp base N r H l with
      | some a, some b => some (a ++ b)
      | _, _ => none)) none
    | none => none
noncomputable def glB (gs : Gs) : List (Nat × Blk) := gs.map fun x => (x.1, .cells (mkCells x.2.1 x.2.2))
def GlOk (P : Program) (gs : Gs) (X : Pat) : Prop := ∀ n b, (n, b) ∈ X.hp → n < P.globals.size → ∃ x ∈ gs, n = x.1 ∧ b = .cells (mkCells x.2.1 x.2.2)
theorem GlOk.free {P : Program} {gs : Gs} {X : Pat} (h : (X.hp.all fun p => Nat.ble P.globals.size p.1) = true) : GlOk P gs X := fun n b hm hn => by
  have := List.all_eq_true.1 h (n, b) hm
  have := Nat.le_of_ble_eq_true this
  exact absurd hn (Nat.not_lt.2 this)
theorem GlOk.of {P : Program} {gs : Gs} {X : Pat} (h : X.hp = glB gs ++ X.hp.drop gs.length) (hr : ((X.hp.drop gs.length).all fun p => Nat.ble P.globals.size p.1) = true) : GlOk P gs X := fun n b hm hn => by
  rw [h] at hm
  rcases List.mem_append.1 hm with hm | hm
  · obtain ⟨x, hx, e⟩ := List.mem_map.1 hm
    cases e
    exact ⟨x, hx, rfl, rfl⟩
  · have := List.all_eq_true.1 hr (n, b) hm
    exact absurd hn (Nat.not_lt.2 (Nat.le_of_ble_eq_true this))
def freshB (r : Ren) (m : Nat) : List (Nat × Blk) → Bool
  | [] => true
  | p :: l => !Nat.beq (rho r p.1) m && freshB r m l
def distB (r : Ren) : List (Nat × Blk) → Bool
  | [] => true
  | p :: l => freshB r (rho r p.1) l && distB r l
theorem freshB_ok {r : Ren} {m : Nat} : ∀ {l : List (Nat × Blk)}, freshB r m l = true → ∀ n b, (n, b) ∈ l → rho r n ≠ m
  | [], _, n, b, hm => by simp at hm
  | p :: l, h, n, b, hm => by
    simp only [freshB, Bool.and_eq_true, Bool.not_eq_true'] at h
    rcases List.mem_cons.1 hm with e | hm
    · subst e
      intro e
      have h1 := h.1
      rw [e] at h1
      simp at h1
    · exact freshB_ok h.2 n b hm
theorem distB_ok {r : Ren} : ∀ {l : List (Nat × Blk)}, distB r l = true → ∀ n m b c, (n, b) ∈ l → (m, c) ∈ l → rho r n = rho r m → n = m
  | [], _, n, m, b, c, hn, _, _ => by simp at hn
  | p :: l, h, n, m, b, c, hn, hm, e => by
    simp only [distB, Bool.and_eq_true] at h
    rcases List.mem_cons.1 hn with e1 | hn
    · rcases List.mem_cons.1 hm with e2 | hm
      · rw [← e2] at e1
        exact (Prod.mk.inj e1).1
      · subst e1
        exact absurd e.symm (freshB_ok h.1 m c (by assumption))
    · rcases List.mem_cons.1 hm with e2 | hm
      · subst e2
        exact absurd e (freshB_ok h.1 n b (by assumption))
      · exact distB_ok h.2 n m b c hn hm e
noncomputable def Pat.mat (X : Pat) (r : Ren) (base : Nat) (A : Fr) (H : Heap) : Option Asg :=
  cond (Nat.beq A.size X.size && Nat.beq H.base base && Nat.ble base X.N && distB r X.hp && (r.all fun p => Nat.ble base p.1) && r.all fun p => Nat.ble base p.2) (match mFr X.N r A X.fr, mHp base X.N r H X.hp with
    | some a, some b => some (a ++ b)
    | _, _ => none) none
section
variable {P : Program} {S S' : Sy} {G : Nat → Option Obj} {ι : Inj} {N : Nat} {rn : Ren}
theorem mval_P {u : Value} (hp : isP u = true) (f : Nat) (v : Value) : mval N rn f v u = none := by
  cases u <;> simp [isP] at hp
  cases f with
  | zero => rfl
  | succ f =>
    unfold mval
    split <;> first | rfl | (simp [vcode])
theorem mFr_ok {A : Fr} {a : Array Value} (hA : @FRel (symS S G) ι A a) : ∀ (l : List (Nat × Value)) (asg : Asg), mFr N rn A l = some asg → AsgOk S S' asg → ∀ t v, (t, v) ∈ l → @VRel (symS S' G) (cut rn ι N) v (a.getD t undf)
  | [], _, _, _, t, v, hm => by simp at hm
  | (t0, v0) :: l, asg, h, ha, t, v, hm => by
    simp only [mFr] at h
    split at h
    · rename_i x y h1 h2
      simp only [Option.some.injEq] at h
      subst h
      rcases List.mem_cons.1 hm with e | hm
      · obtain ⟨rfl, rfl⟩ := Prod.mk.inj e
        rcases hA.2 t with ⟨_, hp⟩ | hv
        · rw [mval_P hp] at h1; simp at h1
        · exact mval_ok 9 v (A.get t) x h1 ha.left _ hv
      · exact mFr_ok hA l y h2 ha.right t v hm
    · simp at h
theorem mCells_ok {c c' : Cells} : ∀ (n : Nat) (asg : Asg), mCells N rn c c' n = some asg → AsgOk S S' asg → ∀ k, k < n → ∀ v', @VRel (symS S G) ι (c'.get k) v' → @VRel (symS S' G) (cut rn ι N) (c.get k) v'
  | 0, _, _, _, k, hk => by omega
  | n + 1, asg, h, ha, k, hk => by
    simp only [mCells] at h
    split at h
    · rename_i x y h1 h2
      simp only [Option.some.injEq] at h
      subst h
      intro v' hv
      by_cases hkn : k = n
      · subst hkn
        exact mval_ok 9 _ _ x h1 ha.left v' hv
      · exact mCells_ok n y h2 ha.right k (by omega) v' hv
    · simp at h
theorem _root_.Go.Ev.AsgOk.tail {S S' : Sy} {p : Nat × Ac} {a : Asg} (h : AsgOk S S' (p :: a)) : AsgOk S S' a := ⟨h.1, fun q hq => h.2 q (List.mem_cons_of_mem _ hq)⟩
theorem mCols_ok : ∀ (l l' : List (Option IntKind × ACode)) (x : Asg), mCols l l' = some x → AsgOk S S' x → l.length = l'.length ∧ ∀ (m j : Nat), m < l'.length →
    (match l[m]? with
    | some (k, a) => (match aden S' a (j : Int) with
      | some n => some (kV k n)
      | none => none)
    | none => none) = (match l'[m]? with
    | some (k, a) => (match aden S a (j : Int) with
      | some n => some (kV k n)
      | none => none)
    | none => none)
  | [], [], _, _, _ => ⟨rfl, fun m j hm => by simp at hm⟩
  | (k, .var f) :: l, (k', a) :: l', x, h, ha => by
    simp only [mCols] at h
    obtain ⟨g, h2⟩ := cond_some h
    clear h
    obtain rfl := kEq_ok g
    split at h2
    · rename_i y hy
      simp only [Option.some.injEq] at h2
      subst h2
      obtain ⟨c1, c2⟩ := mCols_ok l l' y hy ha.tail
      refine ⟨by simp [c1], fun m j hm => ?_⟩
      cases m with
      | zero =>
        have e2 : ∀ j : Nat, aden S a j = some (S'.Φ f [(j : Int)]) := ha.2 (f, .arr a) List.mem_cons_self
        simp only [List.getElem?_cons_zero, e2 j]
        rfl
      | succ m =>
        simp only [List.getElem?_cons_succ]
        exact c2 m j (by simpa using hm)
    · simp at h2
  | [], _ :: _, _, h, _ => by simp [mCols] at h
  | (_, .var _) :: _, [], _, h, _ => by simp [mCols] at h
  | (_, .zero) :: _, _, _, h, _ => by simp [mCols] at h
  | (_, .upd ..) :: _, _, _, h, _ => by simp [mCols] at h
  | (_, .cat ..) :: _, _, _, h, _ => by simp [mCols] at h
theorem upCol_ok (c : Cells) (k : Option IntKind) (n m : Nat) (g : Nat → Value) : ∀ (l : Nat) (a : ACode), upCol c k n m l = some a → (∀ i, i < l → @VRel (symS S G) ι (c.get (i * n + m)) (g (i * n + m))) → (∀ j : Nat, ∃ y, aden S a (j : Int) = some y) ∧ ∀ i, i < l → ∃ y, aden S a (i : Int) = some y ∧ g (i * n + m) = kV k y
  | 0, a, h, _ => by
    simp only [upCol, Option.some.injEq] at h
    subst h
    exact ⟨fun j => ⟨0, rfl⟩, fun i hi => by omega⟩
  | l + 1, a, h, hv => by
    simp only [upCol] at h
    split at h
    · rename_i cv b h1 h2
      obtain ⟨gk, h⟩ := cond_some h
      simp only [Option.some.injEq] at h
      subst h
      obtain ⟨y, hy, ey⟩ := vcode_ok (hv l (by omega)) h1
      obtain ⟨c1, c2⟩ := upCol_ok c k n m g l b h2 fun i hi => hv i (by omega)
      refine ⟨fun j => ?_, fun i hi => ?_⟩
      · by_cases hjl : ((j : Nat) : Int) = (l : Int)
        · exact ⟨y, by simp only [aden, ev_lit, ey, hjl, if_true]⟩
        · obtain ⟨z, hz⟩ := c1 j
          exact ⟨z, by simp only [aden, ev_lit, ey, hjl, if_false, hz]⟩
      · by_cases hil : i = l
        · subst hil
          exact ⟨y, by simp only [aden, ev_lit, ey, if_true], by rw [hy, codeK_val gk]⟩
        · obtain ⟨z, e1, e2⟩ := c2 i (by omega)
          have hne : ¬ ((i : Nat) : Int) = (l : Int) := by omega
          exact ⟨z, by simp only [aden, ev_lit, ey, hne, if_false, e1], e2⟩
    · simp at h
theorem mUps_ok (c : Cells) (n l : Nat) (g : Nat → Value) (hv : ∀ j, j < l * n → @VRel (symS S G) ι (c.get j) (g j)) : ∀ (r : List (Option IntKind × ACode)) (m0 : Nat) (x : Asg), m0 + r.length ≤ n → mUps c n l m0 r = some x → AsgOk S S' x → ∀ m i, m < r.length → i < l →
    (match r[m]? with
    | some (k, a) => (match aden S' a (i : Int) with
      | some n => some (kV k n)
      | none => none)
    | none => none) = some (g (i * n + (m0 + m)))
  | [], _, _, _, _, _, m, i, hm, _ => by simp at hm
  | (k, .var f) :: r, m0, x, hn, h, ha, m, i, hm, hi => by
    simp only [List.length_cons] at hn
    simp only [mUps] at h
    split at h
    · rename_i a y h1 h2
      simp only [Option.some.injEq] at h
      subst h
      cases m with
      | zero =>
        obtain ⟨_, c2⟩ := upCol_ok (S := S) (G := G) (ι := ι) c k n m0 g l a h1 fun i hi => hv _ (by
          have := Nat.mul_le_mul_right n (show i + 1 ≤ l from hi)
          rw [Nat.add_mul, Nat.one_mul] at this
          omega)
        obtain ⟨z, e1, e2⟩ := c2 i hi
        have e3 : ∀ j : Nat, aden S a j = some (S'.Φ f [(j : Int)]) := ha.2 (f, .arr a) List.mem_cons_self
        rw [e3 i] at e1
        simp only [Option.some.injEq] at e1
        simp only [List.getElem?_cons_zero, Nat.add_zero]
        show (match aden S' (.var f) (i : Int) with | some n => some (kV k n) | none => none) = _
        rw [e2]
        simp only [aden, e1]
      | succ m =>
        have := mUps_ok c n l g hv r (m0 + 1) y (by omega) h2 ha.tail m i (by simpa using hm) hi
        rw [show m0 + 1 + m = m0 + (m + 1) by omega] at this
        simpa using this
    · simp at h
  | (_, .zero) :: _, _, _, _, h, _, _, _, _, _ => by simp [mUps] at h
  | (_, .upd ..) :: _, _, _, _, h, _, _, _, _, _ => by simp [mUps] at h
  | (_, .cat ..) :: _, _, _, _, h, _, _, _, _, _ => by simp [mUps] at h
theorem mBlk_ok {b b' : Blk} {asg : Asg} (h : mBlk N rn b b' = some asg) (ha : AsgOk S S' asg) {i : Info} {o : Obj} (hr : @BRel (symS S G) ι i o b') : @BRel (symS S' G) (cut rn ι N) i o b := by
  unfold mBlk at h
  split at h
  · rename_i r r'
    obtain ⟨g, h⟩ := cond_some h
    simp only [Bool.and_eq_true] at g
    obtain ⟨⟨g1, g2⟩, g3⟩ := g
    have g1 := Nat.eq_of_beq_eq_true g1
    have g2 := Nat.eq_of_beq_eq_true g2
    have g3 := Nat.le_of_ble_eq_true g3
    split at h
    · rename_i x hx
      simp only [Option.some.injEq] at h
      subst h
      have e1 : ev S r'.n = some [S'.ρ (cN r.n)] := ha.2 (cN r.n, .num r'.n) List.mem_cons_self
      have e3 : ev S' r.n = some [S'.ρ (cN r.n)] := by rw [ev, if_pos g2]
      obtain ⟨c1, c2⟩ := mCols_ok r.cs r'.cs x hx ha.tail
      have hr' : @NRel (symS S G) i o r' := hr
      obtain ⟨⟨h1, h2⟩, cs, n, rfl, h3, h4, h5, h6⟩ := hr'
      show @NRel (symS S' G) i _ r
      letI := symS S' G
      refine ⟨⟨h1.trans c1.symm, by omega⟩, cs, n, by rw [g1], ?_, h4, by rw [c1]; exact h5, fun j hj => ?_⟩
      · have h3' : (match ev S r'.n with | some [n] => some n.toNat | _ => none) = some n := h3
        show (match ev S' r.n with | some [n] => some n.toNat | _ => none) = some n
        rw [e1] at h3'
        rw [e3]
        exact h3'
      · rw [c1] at hj
        obtain ⟨v, q1, q2⟩ := h6 j hj
        refine ⟨v, ?_, q2⟩
        show acol S' r.cs j = some v
        rw [← (show acol S r'.cs j = some v from q1)]
        unfold acol
        rw [c1]
        exact c2 _ _ (Nat.mod_lt _ h2)
    · simp at h
  · rename_i r c
    obtain ⟨g, h⟩ := cond_some h
    simp only [Bool.and_eq_true] at g
    obtain ⟨⟨⟨⟨g1, g2⟩, g3⟩, g4⟩, g5⟩ := g
    have g1 := Nat.eq_of_beq_eq_true g1
    have g2 := Nat.eq_of_beq_eq_true g2
    have g3 := Nat.le_of_ble_eq_true g3
    have g4 := Nat.eq_of_beq_eq_true g4
    have g5 := Nat.eq_of_beq_eq_true g5
    split at h
    · rename_i x hx
      simp only [Option.some.injEq] at h
      subst h
      have e1 : ev S (lit .i64 (Int.ofNat (c.size / r.cs.length))) = some [S'.ρ (cN r.n)] := ha.2 (cN r.n, .num _) List.mem_cons_self
      have e3 : ev S' r.n = some [S'.ρ (cN r.n)] := by rw [ev, if_pos g2]
      rw [ev_lit] at e1
      simp only [Option.some.injEq, List.cons.injEq, and_true] at e1
      obtain ⟨⟨q1, q2, q3⟩, cs, rfl, q5, q6, q7⟩ := (show @CRel (symS S G) ι i o c from hr)
      show @NRel (symS S' G) i _ r
      letI := symS S' G
      refine ⟨⟨q2.trans g4, g3⟩, cs, c.size / r.cs.length, by rw [g1], ?_, by rw [q1]; exact q5, by rw [g5]; omega, fun j hj => ?_⟩
      · show (match ev S' r.n with | some [n] => some n.toNat | _ => none) = some _
        rw [e3, ← e1]
        rfl
      · rw [g5] at hj
        have hm : j % r.cs.length < r.cs.length := Nat.mod_lt _ g3
        have hd : j / r.cs.length < c.size / r.cs.length := by
          refine Nat.div_lt_of_lt_mul ?_
          rw [Nat.mul_comm, g5]
          exact hj
        have hj2 : (j / r.cs.length) * r.cs.length + j % r.cs.length = j := by rw [Nat.mul_comm]; exact Nat.div_add_mod _ _
        have u1 := mUps_ok (S := S) (S' := S') (G := G) (ι := ι) c r.cs.length (c.size / r.cs.length) (fun j => cs.getD (i.off + j) undf) (fun j hj => q7 j (by rw [g5] at hj; exact hj)) r.cs 0 x (by omega) hx ha.tail (j % r.cs.length) (j / r.cs.length) hm hd
        rw [Nat.zero_add, hj2] at u1
        refine ⟨_, u1, ?_⟩
        have hlt : i.off + j < cs.size := by omega
        simp [hlt]
    · simp at h
  · rename_i c c'
    obtain ⟨g, h⟩ := cond_some h
    simp only [Bool.and_eq_true] at g
    obtain ⟨⟨⟨g1, g2⟩, g3⟩, g4⟩ := g
    have e1 := Nat.eq_of_beq_eq_true g1
    have e2 := Nat.eq_of_beq_eq_true g2
    have e3 := eq_of_beq g3
    have e4 := Nat.eq_of_beq_eq_true g4
    obtain ⟨⟨q1, q2, q3⟩, cs, q4, q5, q6, q7⟩ := hr
    refine ⟨⟨q1.trans e1.symm, q2.trans e4.symm, by rw [e4]; exact q3⟩, cs, by rw [e2]; exact q4, by rw [e1]; exact q5, fun ho => ?_, fun k hk => mCells_ok c.size asg h ha k hk _ (q7 k (by rw [← e1]; exact hk))⟩
    obtain ⟨r1, r2, r3⟩ := q6 (e3 ▸ ho)
    exact ⟨r1, r2, by rw [e1]; exact r3⟩
  · simp at h
theorem mGl_ok {gs : Gs} {w : World} (hG : GOk P gs w) {n : Nat} {b b' : Blk} (hn : n < P.globals.size) (hX : ∃ x ∈ gs, n = x.1 ∧ b = .cells (mkCells x.2.1 x.2.2)) (h : mGl b b' = true) {i : Info} {o : Obj} (hi : i.blk = n) (ho : w.heap[i.blk]? = some o)
    (hr : @BRel (symS S G) ι i o b') : @BRel (symS S' G) (cut rn ι N) i o b := by
  obtain ⟨x, hx, rfl, rfl⟩ := hX
  cases b' with
  | cells c' =>
    simp only [mGl, Bool.and_eq_true, Bool.not_eq_true'] at h
    obtain ⟨⟨h1, h2⟩, h3⟩ := h
    have e1 := Nat.eq_of_beq_eq_true h1
    have e2 := Nat.eq_of_beq_eq_true h2
    obtain ⟨⟨q1, q2, q3⟩, cs, q4, q5, q6, _⟩ := hr
    obtain ⟨r1, r2, r3⟩ := q6 h3
    have hh := (hG.has x hx).2
    rw [hi] at ho
    rw [ho] at hh
    have ho2 := Option.some.inj hh
    rw [q4] at ho2
    obtain ⟨e0, e3⟩ : cs = x.2.1 ∧ c'.elem = x.2.2 := by injection ho2 with a b; exact ⟨a, b⟩
    subst e0
    refine ⟨⟨q1.trans e1.symm, q2.trans e2.symm, Nat.one_pos⟩, x.2.1, by rw [q4, e3]; rfl, by rw [r1, r2]; simp [mkCells], fun _ => ⟨r1, r2, rfl⟩, fun k hk => ?_⟩
    have hk' : k < x.2.1.size := hk
    have hgr := hG.grd
    unfold gsGround at hgr
    rw [List.all_eq_true] at hgr
    letI := symS S' G
    rw [mkCells_get _ _ _ hk', r2, Nat.zero_add]
    exact (ground_arr (ι := cut rn ι N) (hgr x hx)).2 k hk'
  | _ => simp [mGl] at h
theorem mHp_ok {gs : Gs} {H : Heap} {w : World} (hG : GOk P gs w) (hw : @Rel (symS S G) P ι H w) (g5 : (rn.all fun p => Nat.ble P.globals.size p.1) = true) : ∀ (l : List (Nat × Blk)), (∀ n b, (n, b) ∈ l → n < P.globals.size → ∃ x ∈ gs, n = x.1 ∧ b = .cells (mkCells x.2.1 x.2.2)) → ∀ (asg : Asg), mHp P.globals.size N rn H l = some asg → AsgOk S S' asg → ∀ n b, (n, b) ∈ l →
    n < N ∧ (∃ b', H.get (rho rn n) = some b') ∧ ∃ i o, cut rn ι N n = some i ∧ w.heap[i.blk]? = some o ∧ @BRel (symS S' G) (cut rn ι N) i o b
  | [], _, _, _, _, n, b, hm => by simp at hm
  | (n0, b0) :: l, hX, asg, h, ha, n, b, hm => by
    have hX' : ∀ n b, (n, b) ∈ l → n < P.globals.size → ∃ x ∈ gs, n = x.1 ∧ b = .cells (mkCells x.2.1 x.2.2) := fun n b hm hn => hX n b (List.mem_cons_of_mem _ hm) hn
    simp only [mHp] at h
    split at h
    · rename_i b' hb'
      obtain ⟨g, h⟩ := cond_some h
      have hlt : n0 < N := Nat.le_of_ble_eq_true g
      cases hgl : Nat.ble (n0 + 1) P.globals.size with
      | true =>
        rw [hgl, cond_true] at h
        obtain ⟨g', h⟩ := cond_some h
        have hn0 : n0 < P.globals.size := Nat.le_of_ble_eq_true hgl
        rcases List.mem_cons.1 hm with e | hm
        · obtain ⟨rfl, rfl⟩ := Prod.mk.inj e
          letI := symS S G
          rw [rho_low g5 hn0] at hb'
          obtain ⟨i, o, q1, q2, q3⟩ := hw.live _ b' hb'
          obtain ⟨i', p1, p2, _⟩ := hw.glob n (by rw [hw.gsize]; exact hn0)
          obtain rfl : i = i' := Option.some.inj (q1.symm.trans p1)
          exact ⟨hlt, ⟨b', by rw [rho_low g5 hn0]; exact hb'⟩, i, o, cut_of (by rw [rho_low g5 hn0]; exact q1) hlt, q2, mGl_ok hG hn0 (hX n b List.mem_cons_self hn0) g' p2 q2 q3⟩
        · exact mHp_ok hG hw g5 l hX' asg h ha n b hm
      | false =>
        rw [hgl, cond_false] at h
        split at h
        · rename_i x y h1 h2
          simp only [Option.some.injEq] at h
          subst h
          rcases List.mem_cons.1 hm with e | hm
          · obtain ⟨rfl, rfl⟩ := Prod.mk.inj e
            letI := symS S G
            obtain ⟨i, o, q1, q2, q3⟩ := hw.live _ b' hb'
            exact ⟨hlt, ⟨b', hb'⟩, i, o, cut_of q1 hlt, q2, mBlk_ok h1 ha.left q3⟩
          · exact mHp_ok hG hw g5 l hX' y h2 ha.right n b hm
        · simp at h
    · simp at h
theorem Pat.mat_ok {gs : Gs} {X : Pat} (hX : GlOk P gs X) {A : Fr} {H : Heap} {asg : Asg} (h : X.mat rn P.globals.size A H = some asg) (ha : AsgOk S S' asg) {w : World} (hG : GOk P gs w) {a : Array Value} (hw : @Rel (symS S G) P ι H w) (hA : @FRel (symS S G) ι A a) :
    @Rel (symS S' G) P (cut rn ι X.N) (X.H P) w ∧ @FRel (symS S' G) (cut rn ι X.N) X.A a := by
  letI := symS S G
  unfold Pat.mat at h
  obtain ⟨g, h⟩ := cond_some h
  simp only [Bool.and_eq_true] at g
  obtain ⟨⟨⟨⟨⟨g1, g2⟩, g3⟩, g4⟩, g5⟩, g6⟩ := g
  have e1 := Nat.eq_of_beq_eq_true g1
  have e2 := Nat.eq_of_beq_eq_true g2
  have e3 := Nat.le_of_ble_eq_true g3
  split at h
  · rename_i x y h1 h2
    simp only [Option.some.injEq] at h
    subst h
    have hget : ∀ n b, (X.H P).get n = some b → (n, b) ∈ X.hp := by
      intro n b hb
      rcases setAll_get X.hp .leaf n with ⟨v, q1, q2⟩ | q
      · have : some b = some v := by rw [← hb]; exact q2
        cases this
        exact q1
      · have : (X.H P).get n = none := q
        rw [this] at hb
        simp at hb
    have hroom : P.globals.size ≤ w.heap.size := by have := hw.room; rw [e2] at this; exact this
    refine ⟨@Rel.mk (symS S' G) P (cut rn ι X.N) (X.H P) w ⟨hw.glb.1, fun b o hb => hw.glb.2 b o (show inpL S.I b = some o by rw [← ha.1]; exact hb)⟩ rfl (fun n hn => ?_) (fun n i hn hb => ?_) e3 hroom (fun n hn => ?_) (fun n hn => ?_) (fun n i hn => hw.below _ i (cut_some hn).2) (fun n b hb => ?_) (fun n m b c i j hn hm hi hj e => ?_), ?_⟩
    · have hn' : n < P.globals.size := hn
      obtain ⟨i, q1, q2⟩ := hw.glob n (by rw [e2]; exact hn')
      exact ⟨i, cut_of (by rw [rho_low g5 hn']; exact q1) (by omega), q2⟩
    · have := hw.over _ i (cut_some hn).2 (by rw [e2]; exact rho_ge g6 hb)
      rw [e2] at this
      exact ⟨this.1, by show inpL S'.I i.blk = none; rw [ha.1]; exact this.2⟩
    · have hn' : X.N ≤ n := hn
      unfold cut
      rw [if_neg (by omega)]
    · have hn' : n ∈ ([] : List Nat) := hn
      simp at hn'
    · obtain ⟨_, _, q⟩ := mHp_ok hG hw g5 X.hp hX y h2 ha.right n b (hget n b hb)
      exact q
    · obtain ⟨_, ⟨b1, q1⟩, _⟩ := mHp_ok hG hw g5 X.hp hX y h2 ha.right n b (hget n b hn)
      obtain ⟨_, ⟨b2, q2⟩, _⟩ := mHp_ok hG hw g5 X.hp hX y h2 ha.right m c (hget m c hm)
      exact distB_ok g4 n m b c (hget n b hn) (hget m c hm) (hw.inj _ _ b1 b2 i j q1 q2 (cut_some hi).2 (cut_some hj).2 e)
    · refine ⟨hA.1.trans e1, fun t => ?_⟩
      rcases X.A_get t with ⟨v, q1, q2⟩ | ⟨_, q⟩ | ⟨q1, q2⟩
      · rw [q2]
        exact .inr (mFr_ok hA X.fr x h1 ha.left t v q1)
      · rw [q]
        exact .inl ⟨rfl, rfl⟩
      · rw [q2]
        right
        have hs : a.size = X.size := hA.1.trans e1
        have : a.getD t undf = undf := by simp [show ¬ t < a.size by omega]
        rw [this]
        letI := symS S' G
        exact VRel.undf
  · simp at h
theorem Ext.cut {K : Nat} {ι0 ι1 : Inj} {w0 w1 : World} (h : Ext P ι0 w0 ι1 w1) (hK : (rn.all fun p => Nat.ble K p.1) = true) (hb : (rn.all fun p => Nat.ble P.globals.size p.2) = true) (hKN : K ≤ N) (hn : ∀ n i, ι0 n = some i → n < K) : Ext P ι0 w0 (Ev.cut rn ι1 N) w1 :=
  ⟨fun n i hi => cut_of (by rw [rho_low hK (hn n i hi)]; exact h.sub n i hi) (Nat.lt_of_lt_of_le (hn n i hi) hKN), h.size, fun n i hi hg => h.img _ i (cut_some hi).2 (rho_ge hb hg), h.keep, h.froz, h.tape, h.os, h.output⟩
end
noncomputable def rOutR (K : Nat) (rn : Ren) (X F : Pat) (base : Nat) : Option (Out × Heap) → Option (Option AExit × Asg)
  | some (.exit .normal A, H) => cond (rn.all fun p => Nat.ble K p.1) (match X.mat rn base A H with
    | some a => some (none, a)
    | none => none) none
  | some (.exit e A, H) => cond (rn.all fun p => Nat.ble K p.1) (match F.mat rn base A H with
    | some a => some (some e, a)
    | none => none) none
  | _ => none
theorem rOut_none {K : Nat} {rn : Ren} {X F : Pat} {base : Nat} {r : Option (Out × Heap)} {a : Asg} (h : rOutR K rn X F base r = some (none, a)) : ∃ A H, r = some (.exit .normal A, H) ∧ X.mat rn base A H = some a ∧ (rn.all fun p => Nat.ble K p.1) = true := by
  unfold rOutR at h
  split at h
  · rename_i A H
    obtain ⟨g, h⟩ := cond_some h
    split at h
    · rename_i b hb
      simp only [Option.some.injEq, Prod.mk.injEq, true_and] at h
      subst h
      exact ⟨A, H, rfl, hb, g⟩
    · simp at h
  · obtain ⟨g, h⟩ := cond_some h
    split at h <;> simp at h
  · simp at h
theorem rOut_some {K : Nat} {rn : Ren} {X F : Pat} {base : Nat} {r : Option (Out × Heap)} {e : AExit} {a : Asg} (h : rOutR K rn X F base r = some (some e, a)) : ∃ A H, r = some (.exit e A, H) ∧ e ≠ .normal ∧ F.mat rn base A H = some a ∧ (rn.all fun p => Nat.ble K p.1) = true := by
  unfold rOutR at h
  split at h
  · obtain ⟨g, h⟩ := cond_some h
    split at h <;> simp at h
  · rename_i e1 A H hne
    obtain ⟨g, h⟩ := cond_some h
    split at h
    · rename_i b hb
      simp only [Option.some.injEq, Prod.mk.injEq] at h
      obtain ⟨rfl, rfl⟩ := h
      refine ⟨A, H, rfl, fun e => ?_, hb, g⟩
      exact hne e
    · simp at h
  · simp at h
noncomputable def rOut (X F : Pat) (base : Nat) (r : Option (Out × Heap)) : Option (Option AExit × Asg) := rOutR 0 [] X F base r
theorem rOutR_nil (K : Nat) (X F : Pat) (base : Nat) (r : Option (Out × Heap)) : rOutR K [] X F base r = rOut X F base r := rfl
def StepR (P : Program) (ft : Nat → Option Func) (Λ : Nat → Option Code) (gs : Gs) (c' : Code) (X F : Pat) (e : AExit) (K : Nat) (S : Sy) (Inv : Nat → Sy → Prop) (k : Nat) (S1 : Sy) : Prop :=
  ∃ al cs lk n asg rn, ∃ ha : AlOk S1 al, (∀ c ∈ cs, CtrOk P S1 gs c) ∧ LkOk P S1 gs Λ lk ∧
    ((∃ k' S2, k = k' + 1 ∧ Inv k' S2 ∧ AsgOk S1 S2 asg ∧ ∀ G, rOutR K rn X F P.globals.size (runM P Λ lk ft ha cs G n (.code c' X.A) (X.H P)) = some (none, asg)) ∨
     (AsgOk S1 S asg ∧ ∀ G, rOutR K rn X F P.globals.size (runM P Λ lk ft ha cs G n (.code c' X.A) (X.H P)) = some (some e, asg)))
def Step (P : Program) (ft : Nat → Option Func) (Λ : Nat → Option Code) (gs : Gs) (c' : Code) (X F : Pat) (e : AExit) (S : Sy) (Inv : Nat → Sy → Prop) (k : Nat) (S1 : Sy) : Prop :=
  ∃ al cs lk n asg, ∃ ha : AlOk S1 al, (∀ c ∈ cs, CtrOk P S1 gs c) ∧ LkOk P S1 gs Λ lk ∧
    ((∃ k' S2, k = k' + 1 ∧ Inv k' S2 ∧ AsgOk S1 S2 asg ∧ ∀ G, rOut X F P.globals.size (runM P Λ lk ft ha cs G n (.code c' X.A) (X.H P)) = some (none, asg)) ∨
     (AsgOk S1 S asg ∧ ∀ G, rOut X F P.globals.size (runM P Λ lk ft ha cs G n (.code c' X.A) (X.H P)) = some (some e, asg)))
theorem Step.gen {P : Program} {ft : Nat → Option Func} {Λ : Nat → Option Code} {gs : Gs} {c' : Code} {X F : Pat} {e : AExit} {K : Nat} {S : Sy} {Inv : Nat → Sy → Prop} {k : Nat} {S1 : Sy} (h : Step P ft Λ gs c' X F e S Inv k S1) : StepR P ft Λ gs c' X F e K S Inv k S1 := by
  obtain ⟨al, cs, lk, n, asg, ha, h1, h2, h3⟩ := h
  exact ⟨al, cs, lk, n, asg, [], ha, h1, h2, h3⟩
def LkAt (P : Program) (S : Sy) (gs : Gs) (c : Code) (lk : Fr → Heap → Option (AExit × Fr × Heap)) : Prop :=
  ∀ G : Nat → Option Obj, (∀ w : World, P.globals.size ≤ w.heap.size → (∀ b, b < P.globals.size → w.heap[b]? = G b) → GOk P gs w) →
    ∀ A H e A' H', lk A H = some (e, A', H') → ∀ ι a w, @Rel (symS S G) P ι H w → @FRel (symS S G) ι A a.tmps → c.wp P (@PostC (symS S G) P ι w a e A' H') a w
def aEq : ACode → ACode → Bool
  | .var f, .var g => Nat.beq f g
  | .zero, .zero => true
  | .upd a i v, .upd b j w => aEq a b && Nat.beq i j && Nat.beq v w
  | .cat a n b, .cat c m d => aEq a c && Nat.beq n m && aEq b d
  | _, _ => false
theorem aEq_ok : ∀ {a b : ACode}, aEq a b = true → a = b
  | .var f, .var g, h => by rw [Nat.eq_of_beq_eq_true (show Nat.beq f g = true from h)]
  | .zero, .zero, _ => rfl
  | .upd a i v, .upd b j w, h => by
    simp only [aEq, Bool.and_eq_true] at h
    rw [aEq_ok h.1.1, Nat.eq_of_beq_eq_true h.1.2, Nat.eq_of_beq_eq_true h.2]
  | .cat a n b, .cat c m d, h => by
    simp only [aEq, Bool.and_eq_true] at h
    rw [aEq_ok h.1.1, Nat.eq_of_beq_eq_true h.1.2, aEq_ok h.2]
  | .var _, .zero, h => by simp [aEq] at h
  | .var _, .upd .., h => by simp [aEq] at h
  | .var _, .cat .., h => by simp [aEq] at h
  | .zero, .var _, h => by simp [aEq] at h
  | .zero, .upd .., h => by simp [aEq] at h
  | .zero, .cat .., h => by simp [aEq] at h
  | .upd .., .var _, h => by simp [aEq] at h
  | .upd .., .zero, h => by simp [aEq] at h
  | .upd .., .cat .., h => by simp [aEq] at h
  | .cat .., .var _, h => by simp [aEq] at h
  | .cat .., .zero, h => by simp [aEq] at h
  | .cat .., .upd .., h => by simp [aEq] at h
def cEq : Ac → Ac → Bool
  | .num c, .num d => Nat.beq c d
  | .arr a, .arr b => aEq a b
  | _, _ => false
theorem cEq_ok : ∀ {a b : Ac}, cEq a b = true → a = b
  | .num c, .num d, h => by rw [Nat.eq_of_beq_eq_true (show Nat.beq c d = true from h)]
  | .arr a, .arr b, h => by rw [aEq_ok (show aEq a b = true from h)]
  | .num _, .arr _, h => by simp [cEq] at h
  | .arr _, .num _, h => by simp [cEq] at h
def asgEq : Asg → Asg → Bool
  | [], [] => true
  | p :: l, q :: m => Nat.beq p.1 q.1 && cEq p.2 q.2 && asgEq l m
  | _, _ => false
theorem asgEq_ok : ∀ {l m : Asg}, asgEq l m = true → l = m
  | [], [], _ => rfl
  | p :: l, q :: m, h => by
    simp only [asgEq, Bool.and_eq_true] at h
    obtain ⟨⟨h1, h2⟩, h3⟩ := h
    have e1 := Nat.eq_of_beq_eq_true h1
    have e2 := cEq_ok h2
    rw [asgEq_ok h3]
    cases p; cases q
    simp_all
  | [], _ :: _, h => by simp [asgEq] at h
  | _ :: _, [], h => by simp [asgEq] at h
noncomputable def lkLoopR (P : Program) (K : Nat) (rn : Ren) (X F : Pat) (e : AExit) (asg0 : Asg) (A : Fr) (H : Heap) : Option (AExit × Fr × Heap) :=
  match X.mat rn P.globals.size A H with
  | some a => cond (asgEq a asg0 && Nat.ble H.next K && (rn.all fun p => Nat.ble K p.1)) (some (e, F.A, F.H P)) none
  | none => none
noncomputable def lkLoop (P : Program) (X F : Pat) (e : AExit) (asg0 : Asg) (A : Fr) (H : Heap) : Option (AExit × Fr × Heap) := lkLoopR P X.N [] X F e asg0 A H
theorem mat_base {X : Pat} {rn : Ren} {base : Nat} {A : Fr} {H : Heap} {asg : Asg} (h : X.mat rn base A H = some asg) : (rn.all fun p => Nat.ble base p.2) = true := by
  unfold Pat.mat at h
  obtain ⟨g, _⟩ := cond_some h
  simp only [Bool.and_eq_true] at g
  exact g.2
theorem loop_okR {P : Program} [NoFloat P] {ft : Nat → Option Func} {Λ : Nat → Option Code} (hE : @EnvOk ⟨Λ⟩ P ft) {gs : Gs} {S : Sy} {c c' : Code} (hann : @Ann ⟨Λ⟩ c' c) (hf : fineC P.globals.size c = true) {X F : Pat} (hN : X.N = F.N) {e : AExit} {K : Nat} (hKN : K ≤ X.N) {rn : Ren}
    {Inv : Nat → Sy → Prop} (step : ∀ k S1, Inv k S1 → StepR P ft Λ gs c' X F e K S Inv k S1) {asg0 : Asg} {k0 : Nat} {S0 : Sy} (h0 : Inv k0 S0) (ha0 : AsgOk S S0 asg0)
    (hX : GlOk P gs X := by exact GlOk.free (by kernel_rfl)) (hF : GlOk P gs F := by exact GlOk.free (by kernel_rfl)) : LkAt P S gs (.loop c) (lkLoopR P K rn X F e asg0) := by
  intro G hG A H e' A' H' hlk ι a w hw hA
  unfold lkLoopR at hlk
  split at hlk
  case h_2 => simp at hlk
  rename_i asg hmat
  obtain ⟨g, hlk'⟩ := cond_some hlk
  clear hlk
  simp only [Bool.and_eq_true] at g
  obtain ⟨⟨g1, g2⟩, g3⟩ := g
  have e1 := asgEq_ok g1
  subst e1
  have hnx := Nat.le_of_ble_eq_true g2
  simp only [Option.some.injEq, Prod.mk.injEq] at hlk'
  obtain ⟨rfl, rfl, rfl⟩ := hlk'
  have gok : ∀ (S2 : Sy) (ι2 : Inj) (H2 : Heap) (w2 : World), @Rel (symS S2 G) P ι2 H2 w2 → GOk P gs w2 := fun S2 ι2 H2 w2 h => hG w2 (by letI := symS S2 G; have := h.room; rw [h.gsize] at this; exact this) (by letI := symS S2 G; exact h.glb.1)
  obtain ⟨r0, f0⟩ := Pat.mat_ok hX hmat ha0 (gok _ _ _ _ hw) hw hA
  have hb0 := mat_base hmat
  letI := symS S G
  have hdom : ∀ n i, ι n = some i → n < K := fun n i hi => by
    rcases Nat.lt_or_ge n K with h | h
    · exact h
    · rw [hw.fresh n (Nat.le_trans hnx h)] at hi; simp at hi
  have key : ∀ k S1, Inv k S1 → ∀ ι1 a1 w1, @Rel (symS S1 G) P ι1 (X.H P) w1 → @FRel (symS S1 G) ι1 X.A a1.tmps → Ext P ι w ι1 w1 → a1.defers = a.defers →
      Code.rounds P c (@PostC (symS S G) P ι w a e (F.A) (F.H P)) (k + 1) a1 w1 := by
    intro k
    induction k with
    | zero =>
      intro S1 hi ι1 a1 w1 hw1 hA1 hx hd
      obtain ⟨al, cs, lk, n, asg, rn, ha, hcs, hl, hor⟩ := step 0 S1 hi
      rcases hor with ⟨k', S2, hk, _⟩ | ⟨hasg, hrun⟩
      · omega
      · obtain ⟨A2, H2, hr, hne, hm, hq⟩ := rOut_some (hrun G)
        rw [rounds_succ]
        refine wp_mono (symCode hE ha hcs hl hann hf hG hr hw1 hA1) fun ex a2 w2 hp => ?_
        obtain ⟨ι2, rfl, x2, r2, f2, d2⟩ := hp
        obtain ⟨r3, f3⟩ := Pat.mat_ok hF hm hasg (gok _ _ _ _ r2) r2 f2
        have hd' := d2.trans hd
        have hx' : Ext P ι w (cut rn ι2 F.N) w2 := Ext.cut (hx.trans x2) hq (mat_base hm) (by rw [← hN]; exact hKN) hdom
        cases e <;> first | exact absurd rfl hne | exact ⟨_, rfl, hx', r3, f3, hd'⟩
    | succ k ihk =>
      intro S1 hi ι1 a1 w1 hw1 hA1 hx hd
      obtain ⟨al, cs, lk, n, asg, rn, ha, hcs, hl, hor⟩ := step (k + 1) S1 hi
      rcases hor with ⟨k', S2, hk, hi2, hasg, hrun⟩ | ⟨hasg, hrun⟩
      · have hk' : k' = k := by omega
        subst hk'
        obtain ⟨A2, H2, hr, hm, hq⟩ := rOut_none (hrun G)
        rw [rounds_succ]
        refine wp_mono (symCode hE ha hcs hl hann hf hG hr hw1 hA1) fun ex a2 w2 hp => ?_
        obtain ⟨ι2, rfl, x2, r2, f2, d2⟩ := hp
        obtain ⟨r3, f3⟩ := Pat.mat_ok hX hm hasg (gok _ _ _ _ r2) r2 f2
        exact ihk S2 hi2 (cut rn ι2 X.N) a2 w2 r3 f3 (Ext.cut (hx.trans x2) hq (mat_base hm) hKN hdom) (d2.trans hd)
      · obtain ⟨A2, H2, hr, hne, hm, hq⟩ := rOut_some (hrun G)
        rw [rounds_succ]
        refine wp_mono (symCode hE ha hcs hl hann hf hG hr hw1 hA1) fun ex a2 w2 hp => ?_
        obtain ⟨ι2, rfl, x2, r2, f2, d2⟩ := hp
        obtain ⟨r3, f3⟩ := Pat.mat_ok hF hm hasg (gok _ _ _ _ r2) r2 f2
        have hd' := d2.trans hd
        have hx' : Ext P ι w (cut rn ι2 F.N) w2 := Ext.cut (hx.trans x2) hq (mat_base hm) (by rw [← hN]; exact hKN) hdom
        cases e <;> first | exact absurd rfl hne | exact ⟨_, rfl, hx', r3, f3, hd'⟩
  exact wp_loop_rounds _ (key k0 S0 h0 (cut rn ι X.N) a w r0 f0 (Ext.cut (Ext.refl ι w) g3 hb0 hKN hdom) rfl)
def StepF (P : Program) (ft : Nat → Option Func) (Λ : Nat → Option Code) (gs : Gs) (c' : Code) (X : Nat → Pat) (F : Pat) (e : AExit) (K : Nat) (S : Sy) (Inv : Nat → Nat → Sy → Prop) (k s : Nat) (S1 : Sy) : Prop :=
  ∃ al cs lk n asg rn, ∃ ha : AlOk S1 al, (∀ c ∈ cs, CtrOk P S1 gs c) ∧ LkOk P S1 gs Λ lk ∧
    ((∃ k' s' S2, k = k' + 1 ∧ Inv k' s' S2 ∧ AsgOk S1 S2 asg ∧ ∀ G, rOutR K rn (X s') F P.globals.size (runM P Λ lk ft ha cs G n (.code c' (X s).A) ((X s).H P)) = some (none, asg)) ∨
     (AsgOk S1 S asg ∧ ∀ G, rOutR K rn (X s) F P.globals.size (runM P Λ lk ft ha cs G n (.code c' (X s).A) ((X s).H P)) = some (some e, asg)))
theorem loop_okF {P : Program} [NoFloat P] {ft : Nat → Option Func} {Λ : Nat → Option Code} (hE : @EnvOk ⟨Λ⟩ P ft) {gs : Gs} {S : Sy} {c c' : Code} (hann : @Ann ⟨Λ⟩ c' c) (hf : fineC P.globals.size c = true) {X : Nat → Pat} {F : Pat} (hN : ∀ s, (X s).N = F.N) {e : AExit} {K : Nat} (hKN : K ≤ F.N) {rn : Ren}
    {Inv : Nat → Nat → Sy → Prop} (step : ∀ k s S1, Inv k s S1 → StepF P ft Λ gs c' X F e K S Inv k s S1) {asg0 : Asg} {k0 s0 : Nat} {S0 : Sy} (h0 : Inv k0 s0 S0) (ha0 : AsgOk S S0 asg0)
    (hX : ∀ s, GlOk P gs (X s)) (hF : GlOk P gs F := by exact GlOk.free (by kernel_rfl)) : LkAt P S gs (.loop c) (lkLoopR P K rn (X s0) F e asg0) := by
  intro G hG A H e' A' H' hlk ι a w hw hA
  unfold lkLoopR at hlk
  split at hlk
  case h_2 => simp at hlk
  rename_i asg hmat
  obtain ⟨g, hlk'⟩ := cond_some hlk
  clear hlk
  simp only [Bool.and_eq_true] at g
  obtain ⟨⟨g1, g2⟩, g3⟩ := g
  have e1 := asgEq_ok g1
  subst e1
  have hnx := Nat.le_of_ble_eq_true g2
  simp only [Option.some.injEq, Prod.mk.injEq] at hlk'
  obtain ⟨rfl, rfl, rfl⟩ := hlk'
  have gok : ∀ (S2 : Sy) (ι2 : Inj) (H2 : Heap) (w2 : World), @Rel (symS S2 G) P ι2 H2 w2 → GOk P gs w2 := fun S2 ι2 H2 w2 h => hG w2 (by letI := symS S2 G; have := h.room; rw [h.gsize] at this; exact this) (by letI := symS S2 G; exact h.glb.1)
  obtain ⟨r0, f0⟩ := Pat.mat_ok (hX s0) hmat ha0 (gok _ _ _ _ hw) hw hA
  have hb0 := mat_base hmat
  letI := symS S G
  have hdom : ∀ n i, ι n = some i → n < K := fun n i hi => by
    rcases Nat.lt_or_ge n K with h | h
    · exact h
    · rw [hw.fresh n (Nat.le_trans hnx h)] at hi; simp at hi
  have key : ∀ k s S1, Inv k s S1 → ∀ ι1 a1 w1, @Rel (symS S1 G) P ι1 ((X s).H P) w1 → @FRel (symS S1 G) ι1 (X s).A a1.tmps → Ext P ι w ι1 w1 → a1.defers = a.defers →
      Code.rounds P c (@PostC (symS S G) P ι w a e (F.A) (F.H P)) (k + 1) a1 w1 := by
    intro k
    induction k with
    | zero =>
      intro s S1 hi ι1 a1 w1 hw1 hA1 hx hd
      obtain ⟨al, cs, lk, n, asg, rn, ha, hcs, hl, hor⟩ := step 0 s S1 hi
      rcases hor with ⟨k', s', S2, hk, _⟩ | ⟨hasg, hrun⟩
      · omega
      · obtain ⟨A2, H2, hr, hne, hm, hq⟩ := rOut_some (hrun G)
        rw [rounds_succ]
        refine wp_mono (symCode hE ha hcs hl hann hf hG hr hw1 hA1) fun ex a2 w2 hp => ?_
        obtain ⟨ι2, rfl, x2, r2, f2, d2⟩ := hp
        obtain ⟨r3, f3⟩ := Pat.mat_ok hF hm hasg (gok _ _ _ _ r2) r2 f2
        have hd' := d2.trans hd
        have hx' : Ext P ι w (cut rn ι2 F.N) w2 := Ext.cut (hx.trans x2) hq (mat_base hm) hKN hdom
        cases e <;> first | exact absurd rfl hne | exact ⟨_, rfl, hx', r3, f3, hd'⟩
    | succ k ihk =>
      intro s S1 hi ι1 a1 w1 hw1 hA1 hx hd
      obtain ⟨al, cs, lk, n, asg, rn, ha, hcs, hl, hor⟩ := step (k + 1) s S1 hi
      rcases hor with ⟨k', s', S2, hk, hi2, hasg, hrun⟩ | ⟨hasg, hrun⟩
      · have hk' : k' = k := by omega
        subst hk'
        obtain ⟨A2, H2, hr, hm, hq⟩ := rOut_none (hrun G)
        rw [rounds_succ]
        refine wp_mono (symCode hE ha hcs hl hann hf hG hr hw1 hA1) fun ex a2 w2 hp => ?_
        obtain ⟨ι2, rfl, x2, r2, f2, d2⟩ := hp
        obtain ⟨r3, f3⟩ := Pat.mat_ok (hX s') hm hasg (gok _ _ _ _ r2) r2 f2
        exact ihk s' S2 hi2 (cut rn ι2 (X s').N) a2 w2 r3 f3 (Ext.cut (hx.trans x2) hq (mat_base hm) (by rw [hN]; exact hKN) hdom) (d2.trans hd)
      · obtain ⟨A2, H2, hr, hne, hm, hq⟩ := rOut_some (hrun G)
        rw [rounds_succ]
        refine wp_mono (symCode hE ha hcs hl hann hf hG hr hw1 hA1) fun ex a2 w2 hp => ?_
        obtain ⟨ι2, rfl, x2, r2, f2, d2⟩ := hp
        obtain ⟨r3, f3⟩ := Pat.mat_ok hF hm hasg (gok _ _ _ _ r2) r2 f2
        have hd' := d2.trans hd
        have hx' : Ext P ι w (cut rn ι2 F.N) w2 := Ext.cut (hx.trans x2) hq (mat_base hm) hKN hdom
        cases e <;> first | exact absurd rfl hne | exact ⟨_, rfl, hx', r3, f3, hd'⟩
  exact wp_loop_rounds _ (key k0 s0 S0 h0 (cut rn ι (X s0).N) a w r0 f0 (Ext.cut (Ext.refl ι w) g3 hb0 (by rw [hN]; exact hKN) hdom) rfl)
theorem loop_ok {P : Program} [NoFloat P] {ft : Nat → Option Func} {Λ : Nat → Option Code} (hE : @EnvOk ⟨Λ⟩ P ft) {gs : Gs} {S : Sy} {c c' : Code} (hann : @Ann ⟨Λ⟩ c' c) (hf : fineC P.globals.size c = true) {X F : Pat} (hN : X.N = F.N) {e : AExit}
    {Inv : Nat → Sy → Prop} (step : ∀ k S1, Inv k S1 → Step P ft Λ gs c' X F e S Inv k S1) {asg0 : Asg} {k0 : Nat} {S0 : Sy} (h0 : Inv k0 S0) (ha0 : AsgOk S S0 asg0)
    (hX : GlOk P gs X := by exact GlOk.free (by kernel_rfl)) (hF : GlOk P gs F := by exact GlOk.free (by kernel_rfl)) : LkAt P S gs (.loop c) (lkLoop P X F e asg0) :=
  loop_okR hE hann hf hN (Nat.le_refl _) (fun k S1 hi => (step k S1 hi).gen) h0 ha0 hX hF
def subC : List Nat → Code → Option Code
  | [], c => some c
  | 0 :: p, .seq a _ => subC p a
  | _ :: p, .seq _ b => subC p b
  | 0 :: p, .cond _ a _ => subC p a
  | _ :: p, .cond _ _ b => subC p b
  | _ :: p, .block _ c => subC p c
  | _ :: p, .loop c => subC p c
  | _ :: p, .scope c => subC p c
  | _, _ => none
abbrev Mks := List (List Nat × Nat)
def hereM : Mks → Option Nat
  | [] => none
  | ([], n) :: _ => some n
  | _ :: l => hereM l
def downM (z : Bool) : Mks → Mks
  | [] => []
  | (0 :: p, n) :: l => if z then (p, n) :: downM z l else downM z l
  | (_ :: p, n) :: l => if z then downM z l else (p, n) :: downM z l
  | ([], _) :: l => downM z l
def dropM : Mks → Mks
  | [] => []
  | (_ :: p, n) :: l => (p, n) :: dropM l
  | ([], _) :: l => dropM l
def annM : Mks → Code → Code
  | ms, c => match hereM ms with
    | some n => markC n
    | none => match c with
      | .seq a b => .seq (annM (downM true ms) a) (annM (downM false ms) b)
      | .cond x a b => .cond x (annM (downM true ms) a) (annM (downM false ms) b)
      | .block id c => .block id (annM (dropM ms) c)
      | .loop c => .loop (annM (dropM ms) c)
      | .scope c => .scope (annM (dropM ms) c)
      | c => c
theorem hereM_ok : ∀ {ms : Mks} {n : Nat}, hereM ms = some n → ([], n) ∈ ms
  | [], _, h => by simp [hereM] at h
  | ([], m) :: l, n, h => by
    simp only [hereM, Option.some.injEq] at h
    subst h
    exact List.mem_cons_self
  | (_ :: _, m) :: l, n, h => List.mem_cons_of_mem _ (hereM_ok (by simpa [hereM] using h))
theorem downM_true : ∀ {ms : Mks} {p : List Nat} {n : Nat}, (p, n) ∈ downM true ms → (0 :: p, n) ∈ ms
  | [], _, _, h => by simp [downM] at h
  | ([], _) :: l, p, n, h => List.mem_cons_of_mem _ (downM_true (by simpa [downM] using h))
  | (0 :: q, m) :: l, p, n, h => by
    simp only [downM, if_true, List.mem_cons] at h
    rcases h with e | h
    · cases e; exact List.mem_cons_self
    · exact List.mem_cons_of_mem _ (downM_true h)
  | (Nat.succ k :: q, m) :: l, p, n, h => List.mem_cons_of_mem _ (downM_true (by simpa [downM] using h))
theorem downM_false : ∀ {ms : Mks} {p : List Nat} {n : Nat}, (p, n) ∈ downM false ms → ∃ k, (Nat.succ k :: p, n) ∈ ms
  | [], _, _, h => by simp [downM] at h
  | ([], _) :: l, p, n, h => by
    obtain ⟨k, hk⟩ := downM_false (ms := l) (p := p) (n := n) (by simpa [downM] using h)
    exact ⟨k, List.mem_cons_of_mem _ hk⟩
  | (0 :: q, m) :: l, p, n, h => by
    obtain ⟨k, hk⟩ := downM_false (ms := l) (p := p) (n := n) (by simpa [downM] using h)
    exact ⟨k, List.mem_cons_of_mem _ hk⟩
  | (Nat.succ k :: q, m) :: l, p, n, h => by
    have h' : (p, n) = (q, m) ∨ (p, n) ∈ downM false l := by simpa [downM] using h
    rcases h' with e | h'
    · cases e; exact ⟨k, List.mem_cons_self⟩
    · obtain ⟨j, hj⟩ := downM_false h'
      exact ⟨j, List.mem_cons_of_mem _ hj⟩
theorem dropM_ok : ∀ {ms : Mks} {p : List Nat} {n : Nat}, (p, n) ∈ dropM ms → ∃ k, (k :: p, n) ∈ ms
  | [], _, _, h => by simp [dropM] at h
  | ([], _) :: l, p, n, h => by
    obtain ⟨k, hk⟩ := dropM_ok (ms := l) (p := p) (n := n) (by simpa [dropM] using h)
    exact ⟨k, List.mem_cons_of_mem _ hk⟩
  | (k :: q, m) :: l, p, n, h => by
    simp only [dropM, List.mem_cons] at h
    rcases h with e | h
    · cases e; exact ⟨k, List.mem_cons_self⟩
    · obtain ⟨j, hj⟩ := dropM_ok h
      exact ⟨j, List.mem_cons_of_mem _ hj⟩
def MksOk [Marks] (ms : Mks) (c : Code) : Prop := ∀ p n, (p, n) ∈ ms → ∃ d, subC p c = some d ∧ Marks.code n = some d
theorem annM_ok [Marks] : ∀ (c : Code) (ms : Mks), MksOk ms c → Ann (annM ms c) c := by
  intro c
  induction c with
  | seq a b iha ihb =>
    intro ms h
    unfold annM
    split
    · rename_i n hn
      obtain ⟨d, h1, h2⟩ := h [] n (hereM_ok hn)
      simp only [subC, Option.some.injEq] at h1
      subst h1
      exact .mark h2
    · exact .seq (iha _ fun p n hp => h _ n (downM_true hp)) (ihb _ fun p n hp => by
        obtain ⟨k, hk⟩ := downM_false hp
        exact h _ n hk)
  | cond x a b iha ihb =>
    intro ms h
    unfold annM
    split
    · rename_i n hn
      obtain ⟨d, h1, h2⟩ := h [] n (hereM_ok hn)
      simp only [subC, Option.some.injEq] at h1
      subst h1
      exact .mark h2
    · exact .cond (iha _ fun p n hp => h _ n (downM_true hp)) (ihb _ fun p n hp => by
        obtain ⟨k, hk⟩ := downM_false hp
        exact h _ n hk)
  | block id c ih =>
    intro ms h
    unfold annM
    split
    · rename_i n hn
      obtain ⟨d, h1, h2⟩ := h [] n (hereM_ok hn)
      simp only [subC, Option.some.injEq] at h1
      subst h1
      exact .mark h2
    · exact .block (ih _ fun p n hp => by
        obtain ⟨k, hk⟩ := dropM_ok hp
        obtain ⟨d, h1, h2⟩ := h _ n hk
        exact ⟨d, by simpa [subC] using h1, h2⟩)
  | loop c ih =>
    intro ms h
    unfold annM
    split
    · rename_i n hn
      obtain ⟨d, h1, h2⟩ := h [] n (hereM_ok hn)
      simp only [subC, Option.some.injEq] at h1
      subst h1
      exact .mark h2
    · exact .loop (ih _ fun p n hp => by
        obtain ⟨k, hk⟩ := dropM_ok hp
        obtain ⟨d, h1, h2⟩ := h _ n hk
        exact ⟨d, by simpa [subC] using h1, h2⟩)
  | scope c ih =>
    intro ms h
    unfold annM
    split
    · rename_i n hn
      obtain ⟨d, h1, h2⟩ := h [] n (hereM_ok hn)
      simp only [subC, Option.some.injEq] at h1
      subst h1
      exact .mark h2
    · exact .scope (ih _ fun p n hp => by
        obtain ⟨k, hk⟩ := dropM_ok hp
        obtain ⟨d, h1, h2⟩ := h _ n hk
        exact ⟨d, by simpa [subC] using h1, h2⟩)
  | _ =>
    intro ms h
    unfold annM
    split
    · rename_i n hn
      obtain ⟨d, h1, h2⟩ := h [] n (hereM_ok hn)
      simp only [subC, Option.some.injEq] at h1
      subst h1
      exact .mark h2
    · exact .same _
end Go.Ev
namespace Go.Ev
open Go.RowKit
abbrev Mrk := FuncId × List Nat
def codeAt (P : Program) (m : Mrk) : Option Code := match P.funcs[m.1]? with
  | some fn => match fn.body with
    | some c => subC m.2 c
    | none => none
  | none => none
def lamOf (P : Program) (ms : List Mrk) (n : Nat) : Option Code := match ms[n]? with
  | some m => codeAt P m
  | none => none
def mksOf : List Mrk → Nat → FuncId → Mks
  | [], _, _ => []
  | m :: l, n, f => if Nat.beq m.1 f then (m.2, n) :: mksOf l (n + 1) f else mksOf l (n + 1) f
theorem mksOf_ok : ∀ (l : List Mrk) (i : Nat) (f : FuncId) (p : List Nat) (n : Nat), (p, n) ∈ mksOf l i f → i ≤ n ∧ l[n - i]? = some (f, p)
  | [], _, _, _, _, h => by simp [mksOf] at h
  | m :: l, i, f, p, n, h => by
    have key : (p, n) ∈ mksOf l (i + 1) f → i ≤ n ∧ (m :: l)[n - i]? = some (f, p) := fun h => by
      obtain ⟨h1, h2⟩ := mksOf_ok l (i + 1) f p n h
      refine ⟨by omega, ?_⟩
      rw [show n - i = (n - (i + 1)) + 1 by omega]
      simpa using h2
    simp only [mksOf] at h
    split at h
    · rename_i hb
      rcases List.mem_cons.1 h with e | h
      · cases e
        have := Nat.eq_of_beq_eq_true hb
        subst this
        exact ⟨Nat.le_refl _, by simp⟩
      · exact key h
    · exact key h
noncomputable def ftM (P : Program) (ms : List Mrk) (f : FuncId) : Option Func := match ftOf P f with
  | some fn => match mksOf ms 0 f with
    | [] => some fn
    | m :: l => match fn.body with
      | some c => some { fn with body := some (annM (m :: l) c) }
      | none => none
  | none => none
theorem ann_no {c' c : Code} (h : @Ann noMarks c' c) : c' = c := by
  induction h with
  | same => rfl
  | mark hq => simp [Marks.code] at hq
  | seq _ _ h1 h2 => rw [h1, h2]
  | cond _ _ h1 h2 => rw [h1, h2]
  | block _ h => rw [h]
  | loop _ h => rw [h]
  | scope _ h => rw [h]
theorem envM {P : Program} (hE : EnvOk P (ftOf P)) (ms : List Mrk) (hm : (ms.all fun m => (codeAt P m).isSome) = true) : @EnvOk ⟨lamOf P ms⟩ P (ftM P ms) := by
  refine @EnvOk.mk ⟨lamOf P ms⟩ P (ftM P ms) (@EnvOk.zero noMarks _ _ hE) (@EnvOk.mixed noMarks _ _ hE) fun f fn h => ?_
  unfold ftM at h
  split at h
  · rename_i fn0 h0
    obtain ⟨fo, c, c', h1, h2, h3, h4, h5, h6, h7, h8⟩ := @EnvOk.fn noMarks _ _ hE f fn0 h0
    have hcc := ann_no h5
    subst hcc
    split at h
    · simp only [Option.some.injEq] at h
      subst h
      exact ⟨fo, c', c', h1, h2, h3, h4, @Ann.same ⟨lamOf P ms⟩ _, h6, h7, h8⟩
    · rename_i m l hml
      rw [h4] at h
      simp only [Option.some.injEq] at h
      subst h
      refine ⟨fo, c', annM (m :: l) c', h1, h2, h3, rfl, @annM_ok ⟨lamOf P ms⟩ c' _ fun p n hp => ?_, h6, h7, h8⟩
      rw [← hml] at hp
      obtain ⟨_, q⟩ := mksOf_ok ms 0 f p n hp
      rw [Nat.sub_zero] at q
      have hs := (List.all_eq_true.1 hm) (f, p) (List.mem_of_getElem? q)
      have hc : codeAt P (f, p) = subC p c' := by
        unfold codeAt
        rw [h1]
        dsimp only
        rw [h3]
      rw [hc] at hs
      obtain ⟨d, hd⟩ := Option.isSome_iff_exists.1 hs
      refine ⟨d, hd, ?_⟩
      show lamOf P ms n = some d
      unfold lamOf
      rw [q]
      exact hc.trans hd
  · simp at h
def bodyL : Code → Code
  | .loop c => c
  | c => c
def cAt (P : Program) (m : Mrk) : Code := match codeAt P m with
  | some c => bodyL c
  | none => .skip
noncomputable def lkL (lks : List (Fr → Heap → Option (AExit × Fr × Heap))) (n : Nat) (A : Fr) (H : Heap) : Option (AExit × Fr × Heap) := match lks[n]? with
  | some f => f A H
  | none => none
theorem LkOk.of {P : Program} {S : Sy} {gs : Gs} {ms : List Mrk} {lks : List (Fr → Heap → Option (AExit × Fr × Heap))} (h : ∀ n f, lks[n]? = some f → ∀ c, lamOf P ms n = some c → LkAt P S gs c f) : LkOk P S gs (lamOf P ms) (lkL lks) := by
  intro G hG n c A H e A' H' hc hl ι a w hw hA
  have hl' : lkL lks n A H = some (e, A', H') := hl
  unfold lkL at hl'
  split at hl'
  · rename_i f hf
    exact h n f hf c hc G hG A H e A' H' hl' ι a w hw hA
  · simp at hl'
theorem LkOk.one {P : Program} {S : Sy} {gs : Gs} {m : Mrk} {c : Code} (hc : codeAt P m = some c) {f : Fr → Heap → Option (AExit × Fr × Heap)} (h : LkAt P S gs c f) : LkOk P S gs (lamOf P [m]) (lkL [f]) :=
  LkOk.of fun n g hg c' hc' => by
    cases n with
    | zero =>
      simp only [List.getElem?_cons_zero, Option.some.injEq] at hg
      subst hg
      have e : lamOf P [m] 0 = some c := hc
      rw [e] at hc'
      cases hc'
      exact h
    | succ n => simp at hg
theorem ann_self {Λ : Nat → Option Code} (c : Code) : @Ann ⟨Λ⟩ c c := @Ann.same ⟨Λ⟩ c
end Go.Ev
namespace Go.Ev
open Go.RowKit
def SlIn (w : World) (ks : List (Option IntKind)) (v : Value) : Prop := v = .slice none 0 0 ∨ ∃ (a : Addr) (len cap : Nat), v = .slice (some a) len cap ∧ len < 9223372036854775808 ∧ ∀ j, j < len → ∀ m k, ks[m]? = some k →
  ∃ n, w.cell? (a.add (j * ks.length + m)) = some (kV k n) ∧ (∀ k', k = some k' → (Lit.int k' n).wf = true)
theorem inpL_one {x : Inp} {a : Addr} (h : x.a = some a) (hn : x.n ≠ 0) : inpL [x] a.block = some x.obj := by
  have e : (Nat.beq a.block a.block && !Nat.beq x.n 0) = true := by
    have : Nat.beq x.n 0 = false := by
      cases hb : Nat.beq x.n 0 with
      | false => rfl
      | true => exact absurd (Nat.eq_of_beq_eq_true hb) hn
    simp [this]
  unfold inpL
  simp only [List.find?_cons, h, e]
theorem inp_of {w : World} {ks : List (Option IntKind)} {v : Value} (hks : 0 < ks.length) (h : SlIn w ks v) (f : Nat) : ∃ (x : Inp) (F : Nat → Nat → Int), x.ks = ks ∧ x.f = f ∧ v = .slice x.a x.n x.cap ∧ x.n < 9223372036854775808 ∧
    (∀ m k j, ks[m]? = some (some k) → j < x.n → (Lit.int k (F m j)).wf = true) ∧
    (∀ Φ : Nat → List Int → Int, (∀ m j : Nat, m < ks.length → Φ (f + m) [(j : Int)] = F m j) → InpOk [x] Φ x) ∧ (∀ b o, inpL [x] b = some o → w.heap[b]? = some o) := by
  rcases h with rfl | ⟨a, len, cap, rfl, hmax, hc⟩
  · refine ⟨⟨none, 0, 0, default, ks, f⟩, fun _ _ => 0, rfl, rfl, rfl, (show (0 : Nat) < 9223372036854775808 by omega), fun m k j _ hj => by simp at hj, fun Φ _ => .inl rfl, fun b o hb => ?_⟩
    simp [inpL] at hb
  · by_cases hz : len = 0
    · subst hz
      refine ⟨⟨some a, 0, cap, default, ks, f⟩, fun _ _ => 0, rfl, rfl, rfl, hmax, fun m k j _ hj => by simp at hj, fun Φ _ => .inl rfl, fun b o hb => ?_⟩
      simp [inpL] at hb
    · have c0 := hc 0 (by omega) 0 ks[0] (by simp [hks])
      obtain ⟨n0, h0, _⟩ := c0
      have hk : ∀ j, j < len → ∀ m, m < ks.length → ∃ n, w.cell? (a.add (j * ks.length + m)) = some (kV (ks.getD m none) n) ∧ (∀ k', ks.getD m none = some k' → (Lit.int k' n).wf = true) := fun j hj m hm => hc j hj m _ (by rw [List.getD_eq_getElem?_getD, List.getElem?_eq_getElem hm]; rfl)
      let F : Nat → Nat → Int := fun m j => if h : j < len ∧ m < ks.length then (hk j h.1 m h.2).choose else 0
      have hF : ∀ j, j < len → ∀ m, m < ks.length → w.cell? (a.add (j * ks.length + m)) = some (kV (ks.getD m none) (F m j)) ∧ (∀ k', ks.getD m none = some k' → (Lit.int k' (F m j)).wf = true) := fun j hj m hm => by
        have e : F m j = (hk j hj m hm).choose := dif_pos ⟨hj, hm⟩
        rw [e]
        exact (hk j hj m hm).choose_spec
      have hobj : ∃ cs t fz, w.heap[a.block]? = some (.cells cs t fz) ∧ a.spot = none := by
        have e : a.add (0 * ks.length + 0) = a := by simp [Addr.add]
        rw [e] at h0
        unfold World.cell? at h0
        split at h0
        · rename_i cs t fz hh
          by_cases hs : a.spot.isSome = true
          · rw [if_pos hs] at h0; simp at h0
          · exact ⟨cs, t, fz, hh, by simpa using hs⟩
        · simp at h0
      obtain ⟨cs, t, fz, hh, hsp⟩ := hobj
      have ha : a = ⟨a.block, a.off, none⟩ := by cases a; simp_all
      refine ⟨⟨some a, len, cap, .cells cs t fz, ks, f⟩, F, rfl, rfl, rfl, hmax, fun m k j hm hj => ?_, fun Φ hΦ => .inr ⟨a, cs, t, fz, rfl, hsp, ?_, rfl, fun j hj m k hm => ?_⟩, fun b o hb => ?_⟩
      · have hml : m < ks.length := (List.getElem?_eq_some_iff.1 hm).1
        exact (hF j hj m hml).2 k (by rw [List.getD_eq_getElem?_getD, hm]; rfl)
      · exact inpL_one rfl hz
      · have hm' : ks[m]? = some k := hm
        have hml : m < ks.length := (List.getElem?_eq_some_iff.1 hm').1
        have := (hF j hj m hml).1
        rw [ha, cell_add hh] at this
        show cs[a.off + (j * ks.length + m)]? = some (kV k (Φ (f + m) [(j : Int)]))
        rw [hΦ m j hml, this, List.getD_eq_getElem?_getD, hm']
        rfl
      · simp only [inpL, List.find?_cons, List.find?_nil] at hb
        split at hb
        · rename_i x hx
          split at hx
          · rename_i hc'
            simp only [Option.some.injEq] at hx hb
            subst hx
            simp only [Bool.and_eq_true] at hc'
            rw [← Nat.eq_of_beq_eq_true hc'.1, hh, ← hb]
          · simp at hx
        · simp at hb
def dsc (ln f : Nat) (ks : List Nat) : Nat := ln + 1024 * f + 67108864 * (ks.foldr (fun d r => d + 16 * r) 0)
def inS (k d : Nat) : Value := .float .f32 (mk 1 0 (d * 4096 + k) 0)
theorem vs_inp0 {S : Sy} {G : Nat → Option Obj} {ι : Inj} {k d : Nat} {x : Inp} {vs ws : List Value} (hk : k < 64) (hx : S.I[k]? = some x) (hks : x.ks = ksOf 16 (dK d)) (hf : x.f = dF d) (hn : S.ρ (dL d) = x.n) (h : VsOk S G ι vs ws) :
    VsOk S G ι (inS k d :: vs) (.slice x.a x.n x.cap :: ws) := by
  refine ⟨?_, h⟩
  letI := symS S G
  refine VRel.inp (show ptrS S _ = some _ from ?_)
  have e1 : cT (mk 1 0 (d * 4096 + k) 0) = 1 := mk_T (by decide) (by decide)
  have e2 : cA (mk 1 0 (d * 4096 + k) 0) = d * 4096 + k := mk_A (by decide) (by decide) (by decide)
  unfold ptrS
  rw [if_pos e1, e2, show iK (d * 4096 + k) = k by unfold iK; omega, hx]
  dsimp only
  rw [show iD (d * 4096 + k) = d by unfold iD; omega, if_pos]
  unfold dOk
  simp [hks, hf, hn]
theorem vs_inp {S : Sy} {G : Nat → Option Obj} {ι : Inj} {k d : Nat} {x : Inp} {vs ws : List Value} (hk : k < 64) (_ : Nat.ble d 1125899906842624 = true) (hx : S.I[k]? = some x) (hks : x.ks = ksOf 16 (dK d)) (hf : x.f = dF d) (hn : S.ρ (dL d) = x.n) (h : VsOk S G ι vs ws) :
    VsOk S G ι (inS k d :: vs) (.slice x.a x.n x.cap :: ws) := vs_inp0 hk hx hks hf hn h
def Sy.setρ (S : Sy) (ρ : Nat → Int) : Sy := ⟨ρ, S.Φ, S.I, S.ok⟩
def upd (ρ : Nat → Int) : List (Nat × Int) → Nat → Int
  | [], i => ρ i
  | (j, n) :: l, i => if i = j then n else upd ρ l i
theorem tr {p : Prop} [Decidable p] (h : p) : some [b2i (decide p)] = some [b2i true] := by rw [decide_eq_true h]
theorem fls {p : Prop} [Decidable p] (h : ¬ p) : some [b2i (decide p)] = some [b2i false] := by rw [decide_eq_false h]
theorem sm {a b : Int} (h : a = b) : some [a] = some [b] := by rw [h]
theorem al_nm {S : Sy} {al : List (Nat × Value)} (t u : Tm) (he : (t.ok && u.ok && Nat.beq (cK t.enc) (cK u.enc) && (isBc u.enc == isBc t.enc)) = true) {n : Int} (hb : t.den S = some [n]) (hd : u.den S = some [n]) (ha : AlOk S al) : AlOk S ((t.enc, .float .f64 u.enc) :: al) := by
  simp only [Bool.and_eq_true] at he
  obtain ⟨⟨⟨h1, h2⟩, h3⟩, h4⟩ := he
  refine al_sym t u ?_ hb hd ha
  simp only [Bool.and_eq_true]
  exact ⟨⟨⟨⟨⟨Nat.beq_refl _, h1⟩, Nat.beq_refl _⟩, h2⟩, h3⟩, h4⟩
theorem w_i64 {x : Int} (h0 : -9223372036854775808 ≤ x) (h1 : x < 9223372036854775808) : IntKind.i64.wrap x = x := by
  simp only [IntKind.wrap, IntKind.bits, IntKind.signed]
  simp
  split <;> omega
theorem w_u64 {x : Int} (h0 : 0 ≤ x) (h1 : x < 18446744073709551616) : IntKind.u64.wrap x = x := by
  simp only [IntKind.wrap, IntKind.bits, IntKind.signed]
  simp
  omega
theorem w_u8 {x : Int} (h0 : 0 ≤ x) (h1 : x < 256) : IntKind.u8.wrap x = x := by
  simp only [IntKind.wrap, IntKind.bits, IntKind.signed]
  simp
  omega
theorem mod_u64 (x : Int) : IntKind.u64.wrap x = x % 18446744073709551616 := by
  simp [IntKind.wrap, IntKind.bits, IntKind.signed]
theorem mod_u8 (x : Int) : IntKind.u8.wrap x = x % 256 := by
  simp [IntKind.wrap, IntKind.bits, IntKind.signed]
end Go.Ev
namespace Go.Ev
open Go.RowKit Go.Deep
variable {P : Program}
def flatF (P : Program) (F : TypeId → Option (List (Option IntKind))) : List Field → Nat → Option (List (Option IntKind))
  | [], _ => some []
  | g :: gs, off => match F g.type, flatF P F gs (off + P.cellsOf g.type) with
    | some ks, some ls => if g.offset = off ∧ P.cellsOf g.type = ks.length then some (ks ++ ls) else none
    | _, _ => none
def flatB (P : Program) : Nat → TypeId → Option (List (Option IntKind))
  | 0, _ => none
  | f + 1, t => match P.underlying t with
    | some (.int k) => some [some k]
    | some .bool => some [none]
    | some (.struct fs) => flatF P (flatB P f) fs.toList 0
    | _ => none
theorem b2i_not0 (b : Bool) : Value.bool b = kV none (b2i b) := by
  show _ = Value.bool (decide (b2i b ≠ 0))
  rw [b2i_ne]
theorem flat_cells {H : Type} {enc : TypeId × Value → H} {w : World} {base : Nat} {sp : Nat → Bool} {held : Bool} : ∀ (f : Nat) (t : TypeId) (ks : List (Option IntKind)), flatB P f t = some ks → ∀ (fuel : Nat) (cs : List Value) (x : DataW H × List MemPlace), DataW.trod enc P w base sp held fuel t cs = some x →
    ∀ (m : Nat) (k : Option IntKind), ks[m]? = some k → ∃ n, cs[m]? = some (kV k n) ∧ (∀ k', k = some k' → (Lit.int k' n).wf = true)
  | 0, _, _, h, _, _, _, _, _, _, _ => by simp [flatB] at h
  | f + 1, t, ks, h, fuel, cs, x, hx, m, k, hm => by
    simp only [flatB] at h
    split at h
    · rename_i k0 hu
      simp only [Option.some.injEq] at h
      subst h
      obtain ⟨n, rfl, _, hw⟩ := DataW.trod_int hu hx
      cases m with
      | zero =>
        simp only [List.getElem?_cons_zero, Option.some.injEq] at hm
        subst hm
        exact ⟨n, rfl, fun k' e => by cases e; exact hw⟩
      | succ m => simp at hm
    · rename_i hu
      simp only [Option.some.injEq] at h
      subst h
      obtain ⟨b, rfl, _⟩ := DataW.trod_bool hu hx
      cases m with
      | zero =>
        simp only [List.getElem?_cons_zero, Option.some.injEq] at hm
        subst hm
        exact ⟨b2i b, by rw [← b2i_not0]; rfl, fun k' e => by cases e⟩
      | succ m => simp at hm
    · rename_i fs hu
      obtain ⟨xs, n, _, _, hl, hxl, hf⟩ := DataW.trod_struct hu hx
      have key : ∀ (gs : List Field) (off : Nat) (ls : List (Option IntKind)), flatF P (flatB P f) gs off = some ls → (∀ g ∈ gs, ∃ y, DataW.trod enc P w base sp held n g.type ((cs.drop g.offset).take (P.cellsOf g.type)) = some y) →
          ∀ (m : Nat) (k : Option IntKind), ls[m]? = some k → ∃ n, cs[off + m]? = some (kV k n) ∧ (∀ k', k = some k' → (Lit.int k' n).wf = true) := by
        intro gs
        induction gs with
        | nil =>
          intro off ls h1 _ m k hm
          simp only [flatF, Option.some.injEq] at h1
          subst h1
          simp at hm
        | cons g gs ih =>
          intro off ls h1 h2 m k hm
          simp only [flatF] at h1
          split at h1
          · rename_i k1 k2 e1 e2
            split at h1
            · rename_i hc
              simp only [Option.some.injEq] at h1
              subst h1
              by_cases hlt : m < k1.length
              · rw [List.getElem?_append_left hlt] at hm
                obtain ⟨y, hy⟩ := h2 g List.mem_cons_self
                obtain ⟨n', q1, q2⟩ := flat_cells f g.type k1 e1 n _ y hy m k hm
                rw [List.getElem?_take, if_pos (by omega), List.getElem?_drop, hc.1] at q1
                exact ⟨n', q1, q2⟩
              · rw [List.getElem?_append_right (by omega)] at hm
                obtain ⟨n', q1, q2⟩ := ih _ _ e2 (fun g' hg => h2 g' (List.mem_cons_of_mem _ hg)) _ _ hm
                rw [hc.2, show off + k1.length + (m - k1.length) = off + m by omega] at q1
                exact ⟨n', q1, q2⟩
            · simp at h1
          · simp at h1
      obtain ⟨n', q1, q2⟩ := key fs.toList 0 ks h (fun g hg => by
        obtain ⟨i, hi⟩ := List.getElem?_of_mem hg
        rw [Array.getElem?_toList] at hi
        have hil : i < fs.size := (Array.getElem?_eq_some_iff.1 hi).1
        have := hf i g hi
        rw [List.getElem?_eq_getElem (show i < xs.length by omega)] at this
        exact ⟨_, this⟩) m k hm
      rw [Nat.zero_add] at q1
      exact ⟨n', q1, q2⟩
    · simp at h
theorem slIn_of {H : Type} {enc : TypeId × Value → H} {w : World} {base : Nat} {sp : Nat → Bool} {held : Bool} {t e : TypeId} {v : Value} {d : DataW H} {ps : List MemPlace} {ks : List (Option IntKind)} (ht : P.underlying t = some (.slice e)) (hk : flatB P 9 e = some ks) (hc : P.cellsOf e = ks.length)
    {r : Reach} {b0 : Nat} (hval : Value.okWide P w r b0 t v) (h : DataW.Trod enc P w base sp held t v d ps) : SlIn w ks v := by
  obtain ⟨a0, l0, c0, rfl⟩ := WideShapes.okWide_slice ht hval
  obtain ⟨fuel, h⟩ := h
  have hcs : (Value.slice a0 l0 c0).cells.toList = [.slice a0 l0 c0] := rfl
  rw [hcs] at h
  rcases open_slice ht h with ⟨h1, _⟩ | ⟨a, len, cap, m, n, D, Pl, h1, _, hl, hm, hmm, _, hi⟩
  · exact .inl (List.singleton_inj.1 h1)
  · refine .inr ⟨a, len, cap, List.singleton_inj.1 h1, by unfold maxLen at hm; omega, fun j hj i k hik => ?_⟩
    obtain ⟨cs', q1, q2⟩ := hi j (by rw [hmm]; split <;> omega)
    obtain ⟨n', q3, q4⟩ := flat_cells 9 e ks hk n cs' _ q2 i k hik
    obtain ⟨_, hcl, hat⟩ := World.cells?_some q1
    have hil : i < ks.length := (List.getElem?_eq_some_iff.1 hik).1
    have := hat i (by omega)
    rw [hc, Ev.add_add] at this
    exact ⟨n', by rw [this]; exact q3, q4⟩
theorem Quiet.below {w w' : World} (x : Quiet w w') : Below w.heap.size w w' := ⟨x.os, x.tape, x.output, x.size, fun k hk => x.keep k hk⟩
theorem stays {H : Type} {enc : TypeId × Value → H} {t : TypeId} (hl : laidOutB P = true) (hr : P.readableRec t = true) (hrow : t < P.types.size) {W W' : World} {sp : Nat → Bool} {v : Value} {d : DataW H} {ps : List MemPlace}
    (h : DataW.Trod enc P W 0 (fun _ => true) true t v d ps) (hb : Below W.heap.size W W') (hlt : ∀ x ∈ ps, x.block < W.heap.size) (hs : ∀ p ∈ ps, sp p.block = true) : DataW.Trod enc P W' 0 sp true t v d ps :=
  WideElems.Trod_stays hl hr hrow h (fun x hx => hb.same (hlt x hx)) hs
end Go.Ev
namespace Go.Ev
open Go.RowKit
def InpW (w : World) (x : Inp) (F : Nat → Nat → Int) : Prop :=
  x.n = 0 ∨ ∃ a cs t fz, x.a = some a ∧ a.spot = none ∧ w.heap[a.block]? = some x.obj ∧ x.obj = .cells cs t fz ∧ ∀ j, j < x.n → ∀ m k, x.ks[m]? = some k → cs[a.off + (j * x.ks.length + m)]? = some (kV k (F m j))
theorem inpw_of {w : World} {ks : List (Option IntKind)} {v : Value} (hks : 0 < ks.length) (h : SlIn w ks v) (f : Nat) : ∃ (x : Inp) (F : Nat → Nat → Int), x.ks = ks ∧ x.f = f ∧ v = .slice x.a x.n x.cap ∧ x.n < 9223372036854775808 ∧
    (∀ m k j, ks[m]? = some (some k) → j < x.n → (Lit.int k (F m j)).wf = true) ∧ InpW w x F := by
  obtain ⟨x, F, h1, h2, h3, h4, h5, h6, h7⟩ := inp_of hks h f
  refine ⟨x, F, h1, h2, h3, h4, h5, ?_⟩
  let Φ : Nat → List Int → Int := fun g l => match l with | [j] => F (g - f) j.toNat | _ => 0
  have hΦ : ∀ m j : Nat, m < ks.length → Φ (f + m) [(j : Int)] = F m j := fun m j _ => by simp [Φ]
  rcases h6 Φ hΦ with h | ⟨a, cs, t, fz, e1, e2, e3, e4, e5⟩
  · exact .inl h
  · refine .inr ⟨a, cs, t, fz, e1, e2, h7 _ _ e3, e4, fun j hj m k hm => ?_⟩
    have hml : m < ks.length := by rw [← h1]; exact (List.getElem?_eq_some_iff.1 hm).1
    rw [e5 j hj m k hm, h2, hΦ m j hml]
theorem inpL_some {I : List Inp} {b : Nat} {o : Obj} (h : inpL I b = some o) : ∃ x ∈ I, x.obj = o ∧ x.n ≠ 0 ∧ ∃ a, x.a = some a ∧ a.block = b := by
  unfold inpL at h
  split at h
  · rename_i x hx
    simp only [Option.some.injEq] at h
    subst h
    have h1 := List.find?_some hx
    have h2 := List.mem_of_find?_eq_some hx
    split at h1
    · rename_i a ha
      simp only [Bool.and_eq_true, Bool.not_eq_true'] at h1
      exact ⟨x, h2, rfl, fun e => by rw [e] at h1; simp at h1, a, ha, (Nat.eq_of_beq_eq_true h1.1)⟩
    · simp at h1
  · simp at h
theorem inps_in {w : World} {I : List Inp} (h : ∀ x ∈ I, ∃ F, InpW w x F) : ∀ b o, inpL I b = some o → w.heap[b]? = some o := fun b o hb => by
  obtain ⟨x, hx, rfl, hn, a, ha, rfl⟩ := inpL_some hb
  obtain ⟨F, hF⟩ := h x hx
  rcases hF with h0 | ⟨a', cs, t, fz, e1, _, e3, _, _⟩
  · exact absurd h0 hn
  · rw [ha] at e1
    cases e1
    exact e3
theorem inps_ok {w : World} {I : List Inp} (h : ∀ x ∈ I, ∃ F, InpW w x F) {Φ : Nat → List Int → Int} {x : Inp} (hx : x ∈ I) {F : Nat → Nat → Int} (hF : InpW w x F) (hΦ : ∀ m j : Nat, m < x.ks.length → Φ (x.f + m) [(j : Int)] = F m j) : InpOk I Φ x := by
  rcases hF with h0 | ⟨a, cs, t, fz, e1, e2, e3, e4, e5⟩
  · exact .inl h0
  · by_cases hn : x.n = 0
    · exact .inl hn
    refine .inr ⟨a, cs, t, fz, e1, e2, ?_, e4, fun j hj m k hm => ?_⟩
    · have hs : ∃ o, inpL I a.block = some o := by
        unfold inpL
        split
        · exact ⟨_, rfl⟩
        · rename_i hnone
          have := List.find?_eq_none.1 hnone x hx
          rw [e1] at this
          have hb : Nat.beq x.n 0 = false := by
            cases hb : Nat.beq x.n 0 with
            | false => rfl
            | true => exact absurd (Nat.eq_of_beq_eq_true hb) hn
          simp [hb] at this
      obtain ⟨o, ho⟩ := hs
      rw [ho, ← inps_in h _ _ ho, e3]
    · have hml : m < x.ks.length := (List.getElem?_eq_some_iff.1 hm).1
      rw [e5 j hj m k hm, hΦ m j hml]
def updΦ (Φ : Nat → List Int → Int) : List (Nat × (Int → Int)) → Nat → List Int → Int
  | [], f, l => Φ f l
  | (i, g) :: r, f, l => if f = i then (match l with | [j] => g j | _ => 0) else updΦ Φ r f l
theorem updΦ_low {Φ : Nat → List Int → Int} {f : Nat} {l : List Int} : ∀ {r : List (Nat × (Int → Int))}, (∀ p ∈ r, f ≠ p.1) → updΦ Φ r f l = Φ f l
  | [], _ => rfl
  | (i, g) :: r, h => by
    have h1 : f ≠ i := h (i, g) List.mem_cons_self
    show (if f = i then (match l with | [j] => g j | _ => 0) else updΦ Φ r f l) = _
    rw [if_neg h1]
    exact updΦ_low fun p hp => h p (List.mem_cons_of_mem _ hp)
def Sy.set (S : Sy) (ρ : Nat → Int) (r : List (Nat × (Int → Int))) (K : Nat) (hr : (r.all fun p => Nat.ble K p.1) = true) (hK : ∀ x ∈ S.I, x.f + x.ks.length ≤ K) : Sy :=
  ⟨ρ, updΦ S.Φ r, S.I, fun x hx => by
    rcases S.ok x hx with h0 | ⟨a, cs, t, fz, e1, e2, e3, e4, e5⟩
    · exact .inl h0
    · refine .inr ⟨a, cs, t, fz, e1, e2, e3, e4, fun j hj m k hm => ?_⟩
      have hml : m < x.ks.length := (List.getElem?_eq_some_iff.1 hm).1
      rw [e5 j hj m k hm, updΦ_low fun p hp e => ?_]
      have := Nat.le_of_ble_eq_true (List.all_eq_true.1 hr p hp)
      have := hK x hx
      omega⟩
theorem Sy.set_low {S : Sy} {ρ : Nat → Int} {r : List (Nat × (Int → Int))} {K : Nat} {hr : (r.all fun p => Nat.ble K p.1) = true} {hK : ∀ x ∈ S.I, x.f + x.ks.length ≤ K} {f : Nat} {l : List Int} (hf : f < K) : (S.set ρ r K hr hK).Φ f l = S.Φ f l :=
  updΦ_low fun p hp e => by
    have := Nat.le_of_ble_eq_true (List.all_eq_true.1 hr p hp)
    omega
theorem aden_upd {S : Sy} {a : ACode} {i v : Nat} {i' v' : Int} (hi : ev S i = some [i']) (hv : ev S v = some [v']) {j : Int} : aden S (.upd a i v) j = if j = i' then some v' else aden S a j := by
  rw [aden, hi, hv]
def ifE (j i v w : Int) : Int := if j = i then v else w
def Row (S : Sy) (a : ACode) (g : Int → Int) : Prop := ∀ j : Nat, aden S a j = some (g (j : Int))
theorem ar_var {S : Sy} (f : Nat) : Row S (.var f) (fun j => S.Φ f [j]) := fun _ => rfl
theorem ar_upd {S : Sy} {a : ACode} {g : Int → Int} (ti tv : Tm) {i v : Int} (hi : ti.den S = some [i]) (hv : tv.den S = some [v]) (ok : (ti.ok && tv.ok) = true) (h : Row S a g) :
    Row S (.upd a ti.enc tv.enc) (fun j => ifE j i v (g j)) := fun j => by
  simp only [Bool.and_eq_true] at ok
  rw [aden_upd ((ti.ev_enc S ok.1).trans hi) ((tv.ev_enc S ok.2).trans hv), h j]
  unfold ifE
  dsimp only
  split <;> rfl
theorem ar_zero {S : Sy} : Row S .zero (fun _ => 0) := fun _ => rfl
section
variable (P : Program) (ft : Nat → Option Func) (Λ : Nat → Option Code) (gs : Gs) (c' : Code) (X F : Pat)
def StepTo (K : Nat) (S1 S2 : Sy) : Prop :=
  ∃ al cs lk n asg rn, ∃ ha : AlOk S1 al, (∀ c ∈ cs, CtrOk P S1 gs c) ∧ LkOk P S1 gs Λ lk ∧ AsgOk S1 S2 asg ∧ ∀ G, rOutR K rn X F P.globals.size (runM P Λ lk ft ha cs G n (.code c' X.A) (X.H P)) = some (none, asg)
def StepOut (e : AExit) (K : Nat) (S1 S : Sy) : Prop :=
  ∃ al cs lk n asg rn, ∃ ha : AlOk S1 al, (∀ c ∈ cs, CtrOk P S1 gs c) ∧ LkOk P S1 gs Λ lk ∧ AsgOk S1 S asg ∧ ∀ G, rOutR K rn X F P.globals.size (runM P Λ lk ft ha cs G n (.code c' X.A) (X.H P)) = some (some e, asg)
end
inductive Chain (R : Sy → Sy → Prop) : Nat → Sy → Sy → Prop where
  | nil (S : Sy) : Chain R 0 S S
  | cons {k : Nat} {S T U : Sy} (h : R S T) (t : Chain R k T U) : Chain R (k + 1) S U
theorem loop_ex {R : Sy → Sy → Prop} {Inv Fin : Nat → Sy → Prop} (step : ∀ k S1, Inv k S1 → (∃ k' S2, k = k' + 1 ∧ Inv k' S2 ∧ R S1 S2) ∨ Fin k S1) : ∀ (k : Nat) (S0 : Sy), Inv k S0 → ∃ m k' Sf, Chain R m S0 Sf ∧ Inv k' Sf ∧ Fin k' Sf := by
  intro k
  induction k with
  | zero =>
    intro S0 h
    rcases step 0 S0 h with ⟨k', S2, e, _⟩ | hf
    · omega
    · exact ⟨0, 0, S0, .nil S0, h, hf⟩
  | succ k ih =>
    intro S0 h
    rcases step (k + 1) S0 h with ⟨k', S2, e, h2, hr⟩ | hf
    · obtain rfl : k' = k := by omega
      obtain ⟨m, k'', Sf, hc, h3, h4⟩ := ih S2 h2
      exact ⟨m + 1, k'', Sf, .cons hr hc, h3, h4⟩
    · exact ⟨0, k + 1, S0, .nil S0, h, hf⟩
theorem loop_chain {P : Program} [NoFloat P] {ft : Nat → Option Func} {Λ : Nat → Option Code} (hE : @EnvOk ⟨Λ⟩ P ft) {gs : Gs} {S : Sy} {c c' : Code} (hann : @Ann ⟨Λ⟩ c' c) (hf : fineC P.globals.size c = true) {X F : Pat} (hN : X.N = F.N) {e : AExit} {K : Nat} (hKN : K ≤ X.N) {rn : Ren}
    {m : Nat} {S0 Sf : Sy} (hc : Chain (StepTo P ft Λ gs c' X F K) m S0 Sf) (ho : StepOut P ft Λ gs c' X F e K Sf S) {asg0 : Asg} (ha0 : AsgOk S S0 asg0)
    (hX : GlOk P gs X := by exact GlOk.free (by kernel_rfl)) (hF : GlOk P gs F := by exact GlOk.free (by kernel_rfl)) : LkAt P S gs (.loop c) (lkLoopR P K rn X F e asg0) := by
  refine loop_okR hE hann hf hN hKN (Inv := fun k S1 => Chain (StepTo P ft Λ gs c' X F K) k S1 Sf) (fun k S1 hi => ?_) hc ha0 hX hF
  cases hi with
  | nil =>
    obtain ⟨al, cs, lk, n, asg, rn, ha, h1, h2, h3, h4⟩ := ho
    exact ⟨al, cs, lk, n, asg, rn, ha, h1, h2, .inr ⟨h3, h4⟩⟩
  | cons h t =>
    obtain ⟨al, cs, lk, n, asg, rn, ha, h1, h2, h3, h4⟩ := h
    exact ⟨al, cs, lk, n, asg, rn, ha, h1, h2, .inl ⟨_, _, rfl, t, h3, h4⟩⟩
def StepX (P : Program) (ft : Nat → Option Func) (Λ : Nat → Option Code) (gs : Gs) (c' : Code) (X Y F : Pat) (K : Nat) (S1 S2 : Sy) : Prop :=
  ∃ al cs lk n asg rn, ∃ ha : AlOk S1 al, (∀ c ∈ cs, CtrOk P S1 gs c) ∧ LkOk P S1 gs Λ lk ∧ AsgOk S1 S2 asg ∧ ∀ G, rOutR K rn Y F P.globals.size (runM P Λ lk ft ha cs G n (.code c' X.A) (X.H P)) = some (none, asg)
theorem loop_chain2 {P : Program} [NoFloat P] {ft : Nat → Option Func} {Λ : Nat → Option Code} (hE : @EnvOk ⟨Λ⟩ P ft) {gs : Gs} {S : Sy} {c c' : Code} (hann : @Ann ⟨Λ⟩ c' c) (hf : fineC P.globals.size c = true) {X Y F : Pat} (hN : X.N = F.N) (hN2 : Y.N = F.N) {e : AExit} {K : Nat} (hKN : K ≤ F.N) {rn : Ren}
    {m n : Nat} {S0 Sa Sb Sf : Sy} (hc : Chain (StepTo P ft Λ gs c' X F K) m S0 Sa) (hx : StepX P ft Λ gs c' X Y F K Sa Sb) (hd : Chain (StepTo P ft Λ gs c' Y F K) n Sb Sf) (ho : StepOut P ft Λ gs c' Y F e K Sf S) {asg0 : Asg} (ha0 : AsgOk S S0 asg0)
    (hX : GlOk P gs X := by exact GlOk.free (by kernel_rfl)) (hY : GlOk P gs Y := by exact GlOk.free (by kernel_rfl)) (hF : GlOk P gs F := by exact GlOk.free (by kernel_rfl)) : LkAt P S gs (.loop c) (lkLoopR P K rn X F e asg0) := by
  refine loop_okF (X := fun s => match s with | 0 => X | _ => Y) hE hann hf (fun s => by cases s <;> assumption) hKN (Inv := fun k s S1 => (s = 0 ∧ ∃ j, k = j + 1 + n ∧ Chain (StepTo P ft Λ gs c' X F K) j S1 Sa) ∨ (s = 1 ∧ Chain (StepTo P ft Λ gs c' Y F K) k S1 Sf)) (fun k s S1 hi => ?_) (s0 := 0) (k0 := m + 1 + n) (.inl ⟨rfl, m, rfl, hc⟩) ha0 (fun s => by cases s <;> assumption) hF
  rcases hi with ⟨rfl, j, rfl, h⟩ | ⟨rfl, h⟩
  · cases h with
    | nil =>
      obtain ⟨al, cs, lk, n', asg, rn, ha, h1, h2, h3, h4⟩ := hx
      exact ⟨al, cs, lk, n', asg, rn, ha, h1, h2, .inl ⟨n, 1, _, by omega, .inr ⟨rfl, hd⟩, h3, h4⟩⟩
    | cons h t =>
      rename_i j' S2
      obtain ⟨al, cs, lk, n', asg, rn, ha, h1, h2, h3, h4⟩ := h
      exact ⟨al, cs, lk, n', asg, rn, ha, h1, h2, .inl ⟨j' + 1 + n, 0, _, by omega, .inl ⟨rfl, j', rfl, t⟩, h3, h4⟩⟩
  · cases h with
    | nil =>
      obtain ⟨al, cs, lk, n', asg, rn, ha, h1, h2, h3, h4⟩ := ho
      exact ⟨al, cs, lk, n', asg, rn, ha, h1, h2, .inr ⟨h3, h4⟩⟩
    | cons h t =>
      obtain ⟨al, cs, lk, n', asg, rn, ha, h1, h2, h3, h4⟩ := h
      exact ⟨al, cs, lk, n', asg, rn, ha, h1, h2, .inl ⟨_, 1, _, rfl, .inr ⟨rfl, t⟩, h3, h4⟩⟩
def Same (vs fs : List Nat) (S T : Sy) : Prop := T.I = S.I ∧ (∀ v ∈ vs, T.ρ v = S.ρ v) ∧ ∀ f ∈ fs, ∀ j : Nat, T.Φ f [(j : Int)] = S.Φ f [(j : Int)]
theorem Same.refl (vs fs : List Nat) (S : Sy) : Same vs fs S S := ⟨rfl, fun _ _ => rfl, fun _ _ _ => rfl⟩
theorem Same.num {vs fs : List Nat} {S T : Sy} (h : Same vs fs S T) (v : Nat) (hv : (vs.any fun u => Nat.beq u v) = true) : S.ρ v = T.ρ v := by
  obtain ⟨u, hu, e⟩ := List.any_eq_true.1 hv
  rw [← Nat.eq_of_beq_eq_true e]
  exact (h.2.1 u hu).symm
theorem Same.row {vs fs : List Nat} {S T : Sy} (h : Same vs fs S T) (f : Nat) (hf : (fs.any fun u => Nat.beq u f) = true) : ∀ j : Nat, aden S (.var f) j = some (T.Φ f [(j : Int)]) := fun j => by
  obtain ⟨u, hu, e⟩ := List.any_eq_true.1 hf
  rw [← Nat.eq_of_beq_eq_true e, h.2.2 u hu j]
  rfl
def Stay (vs fs : List Nat) (S T : Sy) : Prop := T.I = S.I ∧ (∀ v, (vs.any fun u => Nat.beq u v) = false → T.ρ v = S.ρ v) ∧ ∀ f, (fs.any fun u => Nat.beq u f) = false → ∀ l, T.Φ f l = S.Φ f l
theorem Stay.refl (vs fs : List Nat) (S : Sy) : Stay vs fs S S := ⟨rfl, fun _ _ => rfl, fun _ _ _ => rfl⟩
theorem Stay.trans {vs fs vs' fs' : List Nat} {S T U : Sy} (h : Stay vs fs S T) (h' : Stay vs' fs' T U) : Stay (vs ++ vs') (fs ++ fs') S U :=
  ⟨h'.1.trans h.1, fun v hv => by
    rw [List.any_append, Bool.or_eq_false_iff] at hv
    exact (h'.2.1 v hv.2).trans (h.2.1 v hv.1), fun f hf l => by
    rw [List.any_append, Bool.or_eq_false_iff] at hf
    exact (h'.2.2 f hf.2 l).trans (h.2.2 f hf.1 l)⟩
theorem Stay.num {vs fs : List Nat} {S T : Sy} (h : Stay vs fs S T) (v : Nat) (hv : (vs.any fun u => Nat.beq u v) = false) : T.ρ v = S.ρ v := h.2.1 v hv
theorem Stay.fn {vs fs : List Nat} {S T : Sy} (h : Stay vs fs S T) (f : Nat) (hf : (fs.any fun u => Nat.beq u f) = false) (l : List Int) : T.Φ f l = S.Φ f l := h.2.2 f hf l
theorem Stay.row {vs fs : List Nat} {S T : Sy} (h : Stay vs fs S T) (f : Nat) (hf : (fs.any fun u => Nat.beq u f) = false) : ∀ j : Nat, aden T (.var f) j = some (S.Φ f [(j : Int)]) := fun _ => congrArg some (h.2.2 f hf _)
theorem upd_low {ρ : Nat → Int} {v : Nat} : ∀ {u : List (Nat × Int)}, (∀ p ∈ u, v ≠ p.1) → upd ρ u v = ρ v
  | [], _ => rfl
  | (j, n) :: u, h => by
    have h1 : v ≠ j := h (j, n) List.mem_cons_self
    show (if v = j then n else upd ρ u v) = _
    rw [if_neg h1]
    exact upd_low fun p hp => h p (List.mem_cons_of_mem _ hp)
theorem inB {vs : List Nat} {v u : Nat} (h : (vs.any fun u => Nat.beq u v) = false) (hu : (vs.any fun x => Nat.beq x u) = true) : v ≠ u := fun e => by
  rw [e, hu] at h
  simp at h
theorem Stay.set {vs fs : List Nat} {S T : Sy} (h : Stay vs fs S T) {u : List (Nat × Int)} {r : List (Nat × (Int → Int))} {K : Nat} {hr : (r.all fun p => Nat.ble K p.1) = true} {hK : ∀ x ∈ T.I, x.f + x.ks.length ≤ K}
    (hu : (u.all fun p => vs.any fun x => Nat.beq x p.1) = true) (hf : (r.all fun p => fs.any fun x => Nat.beq x p.1) = true) : Stay vs fs S (T.set (upd T.ρ u) r K hr hK) :=
  ⟨h.1, fun v hv => (upd_low fun p hp => inB hv (List.all_eq_true.1 hu p hp)).trans (h.2.1 v hv), fun f hv l => (updΦ_low fun p hp => inB hv (List.all_eq_true.1 hf p hp)).trans (h.2.2 f hv l)⟩
theorem Stay.same {vs fs ws gs : List Nat} {S T : Sy} (h : Stay vs fs S T) (hv : (ws.all fun w => !vs.any fun u => Nat.beq u w) = true) (hf : (gs.all fun w => !fs.any fun u => Nat.beq u w) = true) : Same ws gs S T :=
  ⟨h.1, fun v hm => h.2.1 v (by simpa using List.all_eq_true.1 hv v hm), fun f hm j => h.2.2 f (by simpa using List.all_eq_true.1 hf f hm) _⟩
def LkAll (P : Program) (S : Sy) (gs : Gs) : List Mrk → List (Fr → Heap → Option (AExit × Fr × Heap)) → Prop
  | m :: ms, f :: fs => (∃ c, codeAt P m = some c ∧ LkAt P S gs c f) ∧ LkAll P S gs ms fs
  | _, [] => True
  | _, _ => False
theorem LkAll.get {P : Program} {S : Sy} {gs : Gs} : ∀ {ms : List Mrk} {fs : List (Fr → Heap → Option (AExit × Fr × Heap))}, LkAll P S gs ms fs → ∀ (n : Nat) (f : Fr → Heap → Option (AExit × Fr × Heap)), fs[n]? = some f → ∃ m c, ms[n]? = some m ∧ codeAt P m = some c ∧ LkAt P S gs c f
  | m :: ms, f :: fs, h, 0, g, hg => by
    simp only [List.getElem?_cons_zero, Option.some.injEq] at hg
    subst hg
    obtain ⟨c, h1, h2⟩ := h.1
    exact ⟨m, c, rfl, h1, h2⟩
  | m :: ms, f :: fs, h, n + 1, g, hg => by
    simp only [List.getElem?_cons_succ] at hg
    obtain ⟨m', c, h1, h2, h3⟩ := LkAll.get h.2 n g hg
    exact ⟨m', c, by simpa using h1, h2, h3⟩
  | [], [], _, n, g, hg => by simp at hg
  | _ :: _, [], _, n, g, hg => by simp at hg
  | [], _ :: _, h, _, _, _ => by simp [LkAll] at h
theorem LkOk.all {P : Program} {S : Sy} {gs : Gs} {ms : List Mrk} {fs : List (Fr → Heap → Option (AExit × Fr × Heap))} (h : LkAll P S gs ms fs) : LkOk P S gs (lamOf P ms) (lkL fs) :=
  LkOk.of fun n f hf c hc => by
    obtain ⟨m, c', h1, h2, h3⟩ := h.get n f hf
    unfold lamOf at hc
    rw [h1] at hc
    dsimp only at hc
    rw [h2] at hc
    cases hc
    exact h3
theorem wf_u8 {a : Int} (h : (Lit.int .u8 a).wf = true) : 0 ≤ a ∧ a < 256 := by
  simp only [Lit.wf, Bool.and_eq_true, decide_eq_true_eq] at h
  have e1 : IntKind.u8.min = 0 := by decide
  have e2 : IntKind.u8.max = 255 := by decide
  omega
theorem wf_u64 {a : Int} (h : (Lit.int .u64 a).wf = true) : 0 ≤ a ∧ a < 18446744073709551616 := by
  simp only [Lit.wf, Bool.and_eq_true, decide_eq_true_eq] at h
  have e1 : IntKind.u64.min = 0 := by decide
  have e2 : IntKind.u64.max = 18446744073709551615 := by decide
  omega
theorem wf_i64 {a : Int} (h : (Lit.int .i64 a).wf = true) : -9223372036854775808 ≤ a ∧ a < 9223372036854775808 := by
  simp only [Lit.wf, Bool.and_eq_true, decide_eq_true_eq] at h
  have e1 : IntKind.i64.min = -9223372036854775808 := by decide
  have e2 : IntKind.i64.max = 9223372036854775807 := by decide
  omega
theorem b01 {z : Int} {c : Bool} (h : z = b2i c) : z = 0 ∨ z = 1 := by
  subst h
  cases c <;> simp [b2i]
theorem bb01 {z : Int} (h : z = 0 ∨ z = 1) : b2i (decide (z ≠ 0)) = z := by
  rcases h with rfl | rfl <;> rfl
theorem ifE_in {P : Int → Prop} {i v : Int} {g : Int → Int} (hv : P v) (hg : ∀ j, P (g j)) (j : Int) : P (ifE j i v (g j)) := by
  unfold ifE
  split
  · exact hv
  · exact hg j
theorem u8_in (x : Int) : 0 ≤ IntKind.u8.wrap x ∧ IntKind.u8.wrap x < 256 := by
  rw [mod_u8]
  omega
theorem u64_in (x : Int) : 0 ≤ IntKind.u64.wrap x ∧ IntKind.u64.wrap x < 18446744073709551616 := by
  rw [mod_u64]
  omega
theorem ai {S : Sy} {al : List (Nat × Value)} (t : Tm) (b : Bool) (hb : t.den S = some [b2i b]) (ha : AlOk S al) (he : (t.ok && isBc t.enc) = true := by kernel_rfl) : AlOk S ((t.enc, .bool b) :: al) := al_is t b he hb ha
theorem ain {S : Sy} {al : List (Nat × Value)} (t : Tm) (k : IntKind) (n : Int) (hb : t.den S = some [n]) (ha : AlOk S al) (he : (t.ok && Nat.beq (cK t.enc) (kI k) && !isBc t.enc) = true := by kernel_rfl) : AlOk S ((t.enc, .int k n) :: al) := by
  refine al_int t k n ?_ hb ha
  simp only [Bool.and_eq_true] at he ⊢
  exact ⟨⟨⟨Nat.beq_refl _, he.1.1⟩, he.1.2⟩, he.2⟩
theorem an {S S' : Sy} {asg : Asg} (i : Nat) (t : Tm) (hd : t.den S = some [S'.ρ i]) (h : AsgOk S S' asg) (he : t.ok = true := by kernel_rfl) : AsgOk S S' ((i, .num t.enc) :: asg) :=
  asg_cons t (by rw [he, Nat.beq_refl]; rfl) hd h
theorem av {S S' : Sy} {asg : Asg} (i : Nat) (k : IntKind) (h : AsgOk S S' asg) (hd : S.ρ i = S'.ρ i := by rfl) : AsgOk S S' ((i, .num (Tm.var k i).enc) :: asg) :=
  asg_cons (.var k i) (by simp [Tm.ok]) (sm hd) h
theorem ar {S S' : Sy} {asg : Asg} (i : Nat) {a : ACode} {g : Int → Int} (hd : Row S a g) (h : AsgOk S S' asg) (hg : ∀ j : Nat, g (j : Int) = S'.Φ i [(j : Int)] := by intro _; rfl) : AsgOk S S' ((i, .arr a) :: asg) :=
  asg_arr (fun j => (hd j).trans (congrArg some (hg j))) h
end Go.Ev
namespace Go.Ev
open Go.ChangeShapes Go.WideShapes Go.ChangeAt Go.RowKit
variable {P : Program} {H : Type} {enc : TypeId × Value → H}
def Lf.desc : Lf → TypeDesc
  | .int k => .int k
  | .bool => .bool
def Lf.fits : Lf → Int → Prop
  | .int k, n => (Lit.int k n).wf = true
  | .bool, n => n = 0 ∨ n = 1
def FitL : List Lf → List Int → Prop
  | [], [] => True
  | l :: ls, n :: ns => l.fits n ∧ FitL ls ns
  | _, _ => False
theorem FitL.len : ∀ {ls : List Lf} {ns : List Int}, FitL ls ns → ns.length = ls.length
  | [], [], _ => rfl
  | _ :: _, _ :: _, h => by simp [FitL.len h.2]
  | [], _ :: _, h => h.elim
  | _ :: _, [], h => h.elim
theorem sc_trod {l : Lf} {t : TypeId} (ht : P.underlying t = some l.desc) {w : World} {base : Nat} {sp : Nat → Bool} {held : Bool} {fuel : Nat} {cs : List Value} {y : DataW H × List MemPlace} (h : DataW.trod enc P w base sp held fuel t cs = some y) :
    ∃ n, cs = [l.mkV n] ∧ l.fits n ∧ y.2 = [] ∧ ∀ (w' : World) (base' : Nat) (sp' : Nat → Bool) (held' : Bool) (fuel' : Nat), DataW.trod enc P w' base' sp' held' (fuel' + 1) t cs = some y := by
  cases fuel with
  | zero => simp [DataW.trod] at h
  | succ fuel =>
    cases l with
    | int k =>
      have ht' : P.underlying t = some (.int k) := ht
      rcases cs with _ | ⟨v, _ | ⟨v2, r⟩⟩
      · simp [DataW.trod, ht'] at h
      · cases v <;> simp [DataW.trod, ht'] at h
        rename_i k' n
        obtain ⟨⟨rfl, hw⟩, rfl⟩ := h
        exact ⟨n, rfl, hw, rfl, fun w' base' sp' held' fuel' => by simp [DataW.trod, ht', hw]⟩
      · cases v <;> simp [DataW.trod, ht'] at h
    | bool =>
      have ht' : P.underlying t = some .bool := ht
      rcases cs with _ | ⟨v, _ | ⟨v2, r⟩⟩
      · simp [DataW.trod, ht'] at h
      · cases v <;> simp [DataW.trod, ht'] at h
        rename_i b
        subst h
        refine ⟨b2i b, ?_, ?_, rfl, fun w' base' sp' held' fuel' => by simp [DataW.trod, ht']⟩
        · show [Value.bool b] = [Value.bool (decide (b2i b ≠ 0))]
          rw [b2i_ne]
        · cases b
          · exact .inl rfl
          · exact .inr rfl
      · cases v <;> simp [DataW.trod, ht'] at h
def flatFs (P : Program) : Nat → List Field → Option (List Lf)
  | _, [] => some []
  | i, f :: fs => if f.offset = i ∧ P.cellsOf f.type = 1 then
      (match P.underlying f.type, flatFs P (i + 1) fs with
      | some (.int k), some ls => some (.int k :: ls)
      | some .bool, some ls => some (.bool :: ls)
      | _, _ => none) else none
def flatS (P : Program) (t : TypeId) : Option (List Lf) :=
  match P.underlying t with
  | some (.struct fs) => if P.cellsOf t = fs.size then flatFs P 0 fs.toList else none
  | _ => none
theorem flatFs_cons {i : Nat} {f : Field} {fs : List Field} {ls : List Lf} (h : flatFs P i (f :: fs) = some ls) : ∃ l ls', ls = l :: ls' ∧ P.underlying f.type = some l.desc ∧ f.offset = i ∧ P.cellsOf f.type = 1 ∧ flatFs P (i + 1) fs = some ls' := by
  simp only [flatFs] at h
  split at h
  · rename_i hc
    split at h
    · rename_i k ls' hu hf
      simp only [Option.some.injEq] at h
      exact ⟨.int k, ls', h.symm, hu, hc.1, hc.2, hf⟩
    · rename_i ls' hu hf
      simp only [Option.some.injEq] at h
      exact ⟨.bool, ls', h.symm, hu, hc.1, hc.2, hf⟩
    · simp at h
  · simp at h
theorem mapM_inv {α β : Type} {f : α → Option β} {x : α} {xs : List α} {r : List β} (h : (x :: xs).mapM f = some r) : ∃ y ys, f x = some y ∧ xs.mapM f = some ys ∧ r = y :: ys := mapM_none h
theorem mapM_mk {α β : Type} {f : α → Option β} {x : α} {xs : List α} {y : β} {ys : List β} (h1 : f x = some y) (h2 : xs.mapM f = some ys) : (x :: xs).mapM f = some (y :: ys) := by
  rw [List.mapM_cons, h1, h2]
  rfl
theorem fl_trod {w : World} {base : Nat} {sp : Nat → Bool} {held : Bool} {fuel : Nat} {cs : List Value} : ∀ (fs : List Field) (i : Nat) (ls : List Lf) (ys : List (DataW H × List MemPlace)), flatFs P i fs = some ls → cs.length = i + fs.length →
    fs.mapM (fun f => DataW.trod enc P w base sp held fuel f.type ((cs.drop f.offset).take (P.cellsOf f.type))) = some ys →
    ∃ ns, cs.drop i = fillL ls ns ∧ FitL ls ns ∧ ys.flatMap (·.2) = [] ∧ ∀ (w' : World) (base' : Nat) (sp' : Nat → Bool) (held' : Bool) (fuel' : Nat), fs.mapM (fun f => DataW.trod enc P w' base' sp' held' (fuel' + 1) f.type ((cs.drop f.offset).take (P.cellsOf f.type))) = some ys
  | [], i, ls, ys, hf, hl, h => by
    simp only [flatFs, Option.some.injEq] at hf
    subst hf
    simp at h
    subst h
    exact ⟨[], by rw [List.drop_eq_nil_of_le (by simp at hl; omega)]; rfl, trivial, rfl, fun _ _ _ _ _ => rfl⟩
  | f :: fs, i, ls, ys, hf, hl, h => by
    obtain ⟨l, ls', rfl, hu, ho, hc, hf'⟩ := flatFs_cons hf
    obtain ⟨y, ys', h1, h2, rfl⟩ := mapM_inv h
    obtain ⟨n, e1, q1, q2, q3⟩ := sc_trod hu h1
    obtain ⟨ns, e2, q4, q5, q6⟩ := fl_trod fs (i + 1) ls' ys' hf' (by simp at hl ⊢; omega) h2
    refine ⟨n :: ns, ?_, ⟨q1, q4⟩, by simp [q2, q5], fun w' base' sp' held' fuel' => mapM_mk (q3 _ _ _ _ _) (q6 _ _ _ _ _)⟩
    have hi : i < cs.length := by simp at hl; omega
    rw [ho, hc, List.drop_eq_getElem_cons hi, List.take_succ_cons, List.take_zero] at e1
    rw [List.drop_eq_getElem_cons hi]
    simp only [List.cons.injEq, and_true] at e1
    show _ = l.mkV n :: fillL ls' ns
    rw [e1, e2]
theorem open_flat {t : TypeId} {ls : List Lf} (ht : flatS P t = some ls) {w : World} {r : Reach} {b0 base : Nat} {sp : Nat → Bool} {held : Bool} {v : Value} {d : DataW H} {p : List MemPlace} (hv : Value.okWide P w r b0 t v) (h : DataW.Trod enc P w base sp held t v d p) :
    ∃ ns, v = .agg (fillL ls ns).toArray ∧ FitL ls ns ∧ p = [] ∧ ∀ (w' : World) (base' : Nat) (sp' : Nat → Bool) (held' : Bool), DataW.Trod enc P w' base' sp' held' t v d [] := by
  unfold flatS at ht
  split at ht
  · rename_i fs hu
    split at ht
    · rename_i hc
      obtain ⟨cs, rfl, hsz⟩ := okWide_struct hu hv
      obtain ⟨fuel, hf⟩ := h
      cases fuel with
      | zero => simp [DataW.trod] at hf
      | succ fuel =>
        have e : (Value.agg cs).cells.toList = cs.toList := rfl
        rw [e] at hf
        simp only [DataW.trod, hu] at hf
        split at hf
        · rename_i hl
          simp only [Option.map_eq_some_iff] at hf
          obtain ⟨ys, hys, hd⟩ := hf
          simp only [Prod.mk.injEq] at hd
          obtain ⟨rfl, rfl⟩ := hd
          obtain ⟨ns, e1, q1, q2, q3⟩ := fl_trod fs.toList 0 ls ys ht (by simpa using hl.trans hc) hys
          refine ⟨ns, ?_, q1, q2, fun w' base' sp' held' => ?_⟩
          · rw [List.drop_zero] at e1
            rw [← e1]
          · obtain ⟨g, hg⟩ : ∃ g, fs.toList.mapM (fun f => DataW.trod enc P w' base' sp' held' g f.type ((cs.toList.drop f.offset).take (P.cellsOf f.type))) = some ys := ⟨0 + 1, q3 w' base' sp' held' 0⟩
            refine ⟨g + 1, ?_⟩
            show DataW.trod enc P w' base' sp' held' (g + 1) t cs.toList = _
            simp only [DataW.trod, hu]
            rw [if_pos hl, hg]
            simp [q2]
        · simp at hf
    · simp at ht
  · simp at ht
end Go.Ev
