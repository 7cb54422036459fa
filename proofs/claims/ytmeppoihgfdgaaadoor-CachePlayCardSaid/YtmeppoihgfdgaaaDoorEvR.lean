/-
  The evaluator: terms as trees, and what their numbers stand for. No condition.
-/
import Derived.Test.YtmeppoihgfdgaaaDoorEvP
namespace Go.Ev
inductive Tm where
  | var (k : IntKind) (i : Nat)
  | lit (k : IntKind) (n : Int)
  | blit (b : Bool)
  | conv (k : IntKind) (t : Tm)
  | neg (t : Tm)
  | cpl (t : Tm)
  | nil
  | cons (a b : Tm)
  | app (k : IntKind) (j : Nat) (t : Tm)
  | not (t : Tm)
  | appB (j : Nat) (t : Tm)
  | mx (b : Bool) (x y : Tm)
  | beq (x y : Tm)
  | bne (x y : Tm)
  | and (x y : Tm)
  | bin (op : BinOp) (x y : Tm)
def Tm.kd : Tm → IntKind
  | .var k _ | .lit k _ | .conv k _ | .app k _ _ => k
  | .neg t | .cpl t | .mx _ t _ | .bin _ t _ => t.kd
  | .nil | .cons .. | .blit _ | .not _ | .appB .. | .beq .. | .bne .. | .and .. => .i8
def Tm.enc : Tm → Nat
  | .var k i => i * 512 + kI k
  | .lit k n => Ev.lit k n
  | .blit b => litB b
  | .not t => mk 11 0 0 t.enc
  | .appB j t => mk 12 0 j t.enc
  | .beq x y => mk 13 0 x.enc y.enc
  | .bne x y => mk 14 0 x.enc y.enc
  | .and x y => mk 33 0 x.enc y.enc
  | .conv k t => mk 3 (kI k) 0 t.enc
  | .neg t => mk 4 (kI t.kd) 0 t.enc
  | .cpl t => mk 5 (kI t.kd) 0 t.enc
  | .nil => mk 6 0 0 0
  | .cons a b => mk 7 0 a.enc b.enc
  | .app k j t => mk 8 (kI k) j t.enc
  | .mx b x y => mk (cond b 9 10) (kI x.kd) x.enc y.enc
  | .bin op x y => mk (16 + opI op) (kI x.kd) x.enc y.enc
/-- Small enough. -/
def Tm.ok : Tm → Bool
  | .var .. | .lit .. | .nil | .blit _ => true
  | .conv _ t | .neg t | .cpl t | .app _ _ t | .not t | .appB _ t => Nat.ble (sz t.enc) 65535 && t.ok
  | .cons x y | .mx _ x y | .bin _ x y | .beq x y | .bne x y | .and x y => Nat.ble (sz y.enc) 65535 && x.ok && y.ok
def Tm.den (S : Sy) : Tm → Option (List Int)
  | .var _ i => some [S.ρ i]
  | .lit _ n => some [n]
  | .conv k t => match t.den S with | some [n] => some [k.wrap n] | _ => none
  | .neg t => match t.den S with | some [n] => some [t.kd.wrap (0 - n)] | _ => none
  | .cpl t => match t.den S with | some [n] => numV (vBin .xor t.kd (if t.kd.signed then -1 else t.kd.max) n) | _ => none
  | .blit b => some [b2i b]
  | .not t => match t.den S with | some [n] => some [b2i (decide (n = 0))] | _ => none
  | .appB j t => match t.den S with | some l => some [b2i (decide (S.Φ j l ≠ 0))] | _ => none
  | .beq x y => match x.den S, y.den S with | some [m], some [n] => some [b2i (decide (m = n))] | _, _ => none
  | .bne x y => match x.den S, y.den S with | some [m], some [n] => some [b2i (decide (m ≠ n))] | _, _ => none
  | .and x y => match x.den S, y.den S with | some [m], some [n] => some [b2i (decide (m ≠ 0) && decide (n ≠ 0))] | _, _ => none
  | .nil => some []
  | .cons x y => match x.den S, y.den S with | some l, some m => some (l ++ m) | _, _ => none
  | .app _ j t => match t.den S with | some l => some [S.Φ j l] | _ => none
  | .mx b x y => match x.den S, y.den S with | some [m], some [n] => some [if b then (if m < n then n else m) else (if n < m then n else m)] | _, _ => none
  | .bin op x y => match x.den S, y.den S with | some [m], some [n] => numV (vBin op x.kd m n) | _, _ => none
theorem Tm.ev_enc (S : Sy) : ∀ t : Tm, t.ok = true → ev S t.enc = t.den S
  | .var k i, _ => by
    have := kI_lt k
    rw [ev]
    have e : cT (Tm.var k i).enc = 0 := by unfold cT Tm.enc; omega
    have e2 : cN (Tm.var k i).enc = i := by unfold cN Tm.enc; omega
    rw [e, e2, if_pos rfl]
    rfl
  | .lit k n, _ => ev_lit S k n
  | .blit b, _ => ev_litB S b
  | .not t, h => by
    simp only [Tm.ok, Bool.and_eq_true] at h
    have hs := Nat.le_of_ble_eq_true h.1
    show ev S (mk 11 0 0 t.enc) = _
    rw [ev_mk S (by decide) (by decide) (by decide) (by decide) (by omega), Tm.ev_enc S t h.2]
    rfl
  | .appB j t, h => by
    simp only [Tm.ok, Bool.and_eq_true] at h
    have hs := Nat.le_of_ble_eq_true h.1
    show ev S (mk 12 0 j t.enc) = _
    rw [ev_mk S (by decide) (by decide) (by decide) (by decide) (by omega), Tm.ev_enc S t h.2]
    rfl
  | .beq x y, h => by
    simp only [Tm.ok, Bool.and_eq_true] at h
    have hs := Nat.le_of_ble_eq_true h.1.1
    show ev S (mk 13 0 x.enc y.enc) = _
    rw [ev_mk S (by decide) (by decide) (by decide) (by decide) (by omega), Tm.ev_enc S x h.1.2, Tm.ev_enc S y h.2]
    rfl
  | .bne x y, h => by
    simp only [Tm.ok, Bool.and_eq_true] at h
    have hs := Nat.le_of_ble_eq_true h.1.1
    show ev S (mk 14 0 x.enc y.enc) = _
    rw [ev_mk S (by decide) (by decide) (by decide) (by decide) (by omega), Tm.ev_enc S x h.1.2, Tm.ev_enc S y h.2]
    rfl
  | .and x y, h => by
    simp only [Tm.ok, Bool.and_eq_true] at h
    have hs := Nat.le_of_ble_eq_true h.1.1
    show ev S (mk 33 0 x.enc y.enc) = _
    rw [ev_mk S (by decide) (by decide) (by decide) (by decide) (by omega), Tm.ev_enc S x h.1.2, Tm.ev_enc S y h.2]
    rfl
  | .conv k t, h => by
    simp only [Tm.ok, Bool.and_eq_true] at h
    have hs := Nat.le_of_ble_eq_true h.1
    show ev S (mk 3 (kI k) 0 t.enc) = _
    rw [ev_mk S (kI_lt k) (by decide) (by decide) (by decide) (by omega), Tm.ev_enc S t h.2]
    show (match t.den S with | some [n] => some [(kOf (kI k)).wrap n] | _ => none) = _
    rw [kOf_kI]
    rfl
  | .neg t, h => by
    simp only [Tm.ok, Bool.and_eq_true] at h
    have hs := Nat.le_of_ble_eq_true h.1
    show ev S (mk 4 (kI t.kd) 0 t.enc) = _
    rw [ev_mk S (kI_lt _) (by decide) (by decide) (by decide) (by omega), Tm.ev_enc S t h.2]
    show (match t.den S with | some [n] => some [(kOf (kI t.kd)).wrap (0 - n)] | _ => none) = _
    rw [kOf_kI]
    rfl
  | .cpl t, h => by
    simp only [Tm.ok, Bool.and_eq_true] at h
    have hs := Nat.le_of_ble_eq_true h.1
    show ev S (mk 5 (kI t.kd) 0 t.enc) = _
    rw [ev_mk S (kI_lt _) (by decide) (by decide) (by decide) (by omega), Tm.ev_enc S t h.2]
    show (match t.den S with | some [n] => numV (vBin .xor (kOf (kI t.kd)) (if (kOf (kI t.kd)).signed then -1 else (kOf (kI t.kd)).max) n) | _ => none) = _
    rw [kOf_kI]
    rfl
  | .nil, _ => by
    show ev S (mk 6 0 0 0) = _
    rw [ev_mk S (by decide) (by decide) (by decide) (by decide) (by decide)]
    rfl
  | .cons a b, h => by
    simp only [Tm.ok, Bool.and_eq_true] at h
    have hs := Nat.le_of_ble_eq_true h.1.1
    show ev S (mk 7 0 a.enc b.enc) = _
    rw [ev_mk S (by decide) (by decide) (by decide) (by decide) (by omega), Tm.ev_enc S a h.1.2, Tm.ev_enc S b h.2]
    rfl
  | .app k j t, h => by
    simp only [Tm.ok, Bool.and_eq_true] at h
    have hs := Nat.le_of_ble_eq_true h.1
    show ev S (mk 8 (kI k) j t.enc) = _
    rw [ev_mk S (kI_lt k) (by decide) (by decide) (by decide) (by omega), Tm.ev_enc S t h.2]
    rfl
  | .mx b x y, h => by
    simp only [Tm.ok, Bool.and_eq_true] at h
    have hs := Nat.le_of_ble_eq_true h.1.1
    cases b with
    | true =>
      show ev S (mk 9 (kI x.kd) x.enc y.enc) = _
      rw [ev_mk S (kI_lt _) (by decide) (by decide) (by decide) (by omega), Tm.ev_enc S x h.1.2, Tm.ev_enc S y h.2]
      rfl
    | false =>
      show ev S (mk 10 (kI x.kd) x.enc y.enc) = _
      rw [ev_mk S (kI_lt _) (by decide) (by decide) (by decide) (by omega), Tm.ev_enc S x h.1.2, Tm.ev_enc S y h.2]
      rfl
  | .bin op x y, h => by
    simp only [Tm.ok, Bool.and_eq_true] at h
    have hs := Nat.le_of_ble_eq_true h.1.1
    have ho := opI_lt op
    show ev S (mk (16 + opI op) (kI x.kd) x.enc y.enc) = _
    rw [ev_mk S (kI_lt _) (by omega) (by omega) (by omega) (by omega), Tm.ev_enc S x h.1.2, Tm.ev_enc S y h.2]
    unfold evOp
    rw [if_neg (by omega), if_neg (by omega), if_neg (by omega), if_neg (by omega), if_neg (by omega), if_neg (by omega), if_neg (by omega), if_neg (by omega), if_neg (by omega), if_neg (by omega), if_neg (by omega), if_neg (by omega), if_neg (by omega), if_pos (by omega), show 16 + opI op - 16 = opI op by omega, opOf_opI, kOf_kI]
    rfl
/-- A decision, a number that is known, another name. -/
theorem al_bool {S : Sy} {c : Nat} {al : List (Nat × Value)} (t : Tm) (b : Bool) (he : (Nat.beq t.enc c && t.ok && isBc c) = true) (hb : t.den S = some [b2i b]) (ha : AlOk S al) : AlOk S ((c, .bool b) :: al) := by
  simp only [Bool.and_eq_true] at he
  obtain rfl := Nat.eq_of_beq_eq_true he.1.1
  exact ha.cons ⟨he.2, (t.ev_enc S he.1.2).trans hb⟩
theorem al_int {S : Sy} {c : Nat} {al : List (Nat × Value)} (t : Tm) (k : IntKind) (n : Int) (he : (Nat.beq t.enc c && t.ok && Nat.beq (cK c) (kI k) && !isBc c) = true) (hb : t.den S = some [n]) (ha : AlOk S al) : AlOk S ((c, .int k n) :: al) := by
  simp only [Bool.and_eq_true, Bool.not_eq_true'] at he
  obtain rfl := Nat.eq_of_beq_eq_true he.1.1.1
  refine ha.cons ⟨he.2, ?_, (t.ev_enc S he.1.1.2).trans hb⟩
  rw [Nat.eq_of_beq_eq_true he.1.2, kOf_kI]
theorem al_sym {S : Sy} {c d : Nat} {al : List (Nat × Value)} (t u : Tm) (he : (Nat.beq t.enc c && t.ok && Nat.beq u.enc d && u.ok && Nat.beq (cK c) (cK d) && (isBc d == isBc c)) = true) {n : Int} (hb : t.den S = some [n]) (hd : u.den S = some [n]) (ha : AlOk S al) : AlOk S ((c, .float .f64 d) :: al) := by
  simp only [Bool.and_eq_true, beq_iff_eq] at he
  obtain ⟨⟨⟨⟨⟨h1, h2⟩, h3⟩, h4⟩, h5⟩, h6⟩ := he
  obtain rfl := Nat.eq_of_beq_eq_true h1
  obtain rfl := Nat.eq_of_beq_eq_true h3
  exact ha.cons ⟨h6, (Nat.eq_of_beq_eq_true h5).symm, n, (t.ev_enc S h2).trans hb, (u.ev_enc S h4).trans hd⟩
/-- What codes stand for. -/
theorem cs_cons {S : Sy} {c : Nat} {cs : List Nat} {n : Int} {ns : List Int} (t : Tm) (he : (Nat.beq t.enc c && t.ok) = true) (hd : t.den S = some [n]) (h : CsOk S cs ns) : CsOk S (c :: cs) (n :: ns) := by
  simp only [Bool.and_eq_true] at he
  obtain rfl := Nat.eq_of_beq_eq_true he.1
  exact ⟨(t.ev_enc S he.2).trans hd, h⟩
theorem cs_nil {S : Sy} : CsOk S [] [] := trivial
/-- What a call is given: symbols, and what is known. -/
theorem vs_nil {S : Sy} {G : Nat → Option Obj} {ι : Inj} : VsOk S G ι [] [] := trivial
theorem vs_sym {S : Sy} {G : Nat → Option Obj} {ι : Inj} {k : IntKind} {i : Nat} {n : Int} {vs ws : List Value} (hn : S.ρ i = n) (h : VsOk S G ι vs ws) : VsOk S G ι (.float .f64 (i * 512 + kI k) :: vs) (.int k n :: ws) := by
  have hk := kI_lt k
  have e : ev S (i * 512 + kI k) = some [n] := (Tm.ev_enc S (.var k i) rfl).trans (by simp [Tm.den, hn])
  have q := rel_code (G := G) (ι := ι) e
  have hb : isBc (i * 512 + kI k) = false := by
    have : cT (i * 512 + kI k) = 0 := by unfold cT; omega
    unfold isBc
    rw [this]
    rfl
  rw [mkV_num hb, show cK (i * 512 + kI k) = kI k by unfold cK; omega, kOf_kI] at q
  exact ⟨q, h⟩
/-- A truth as a symbol: is the number not 0? -/
def bsym (i : Nat) : Nat := (Tm.bin .neq (.var .u8 i) (.lit .u8 0)).enc
theorem vs_bsym {S : Sy} {G : Nat → Option Obj} {ι : Inj} {i : Nat} {b : Bool} {vs ws : List Value} (hi : Nat.ble (sz (lit .u8 0)) 65535 = true) (hn : S.ρ i = b2i b) (h : VsOk S G ι vs ws) : VsOk S G ι (.float .f64 (bsym i) :: vs) (.bool b :: ws) := by
  have e : ev S (bsym i) = some [b2i b] := (Tm.ev_enc S (.bin .neq (.var .u8 i) (.lit .u8 0)) (by simp [Tm.ok, Tm.enc, hi])).trans (by
    simp only [Tm.den, hn, vBin, numV]
    cases b <;> rfl)
  have q := rel_code (G := G) (ι := ι) e
  have hb : isBc (bsym i) = true := isBc_mk (kI_lt _) (by decide)
  unfold mkV at q
  rw [hb, cond_true, b2i_ne] at q
  exact ⟨q, h⟩
theorem vs_int {S : Sy} {G : Nat → Option Obj} {ι : Inj} {k : IntKind} {n : Int} {vs ws : List Value} (h : VsOk S G ι vs ws) : VsOk S G ι (.int k n :: vs) (.int k n :: ws) := by
  letI := symS S G
  exact ⟨.int k n, h⟩
theorem vs_bool {S : Sy} {G : Nat → Option Obj} {ι : Inj} {b : Bool} {vs ws : List Value} (h : VsOk S G ι vs ws) : VsOk S G ι (.bool b :: vs) (.bool b :: ws) := by
  letI := symS S G
  exact ⟨.bool b, h⟩
theorem vs_agg {S : Sy} {G : Nat → Option Obj} {ι : Inj} {xs ys vs ws : List Value} (h1 : VsOk S G ι xs ys) (h : VsOk S G ι vs ws) : VsOk S G ι (.agg xs.toArray :: vs) (.agg ys.toArray :: ws) := by
  letI := symS S G
  exact ⟨h1.toArr.agg, h⟩
/-- A run that answers one number. -/
theorem symOne {P : Program} [NoFloat P] {ft : Nat → Option Func} (hE : EnvOk P ft) {gs : Gs} {al : List (Nat × Value)} {S : Sy} (ha : AlOk S al) {cs : List Ctr} (hcs : ∀ c ∈ cs, CtrOk P S gs c) {n : Nat} {f : FuncId} {args args' : List Value} {k : IntKind} (T : Tm) {r : Int}
    (hk : codesP [.one (.int k)] [.float .f64 T.enc] = some [T.enc]) (ok : T.ok = true) (hT : T.den S = some [r]) (hrun : ∀ G, outV (runS P ft ha cs G n (.fn f args.toArray) (H0g P gs)) = some (.float .f64 T.enc)) (hrel : ∀ G ι, VsOk S G ι args args') (w : World) (hw : GOk P gs w) (hI : S.I = [] := by rfl) :
    Calls P f args'.toArray w fun e w' => e = .returned (.int k r) ∧ Quiet w w' :=
  symRun hE ha hcs (res := [.one (.int k)]) (vs := [.float .f64 T.enc]) (rcs := [T.enc]) (rs := [r]) hk ⟨(T.ev_enc S ok).trans hT, trivial⟩ hrun hrel w hw hI
/-- A run that answers a truth that is known. -/
theorem symIs {P : Program} [NoFloat P] {ft : Nat → Option Func} (hE : EnvOk P ft) {gs : Gs} {al : List (Nat × Value)} {S : Sy} (ha : AlOk S al) {cs : List Ctr} (hcs : ∀ c ∈ cs, CtrOk P S gs c) {n : Nat} {f : FuncId} {args args' : List Value} (b : Bool)
    (hrun : ∀ G, outV (runS P ft ha cs G n (.fn f args.toArray) (H0g P gs)) = some (.bool b)) (hrel : ∀ G ι, VsOk S G ι args args') (w : World) (hw : GOk P gs w) (hI : S.I = [] := by rfl) :
    Calls P f args'.toArray w fun e w' => e = .returned (.bool b) ∧ Quiet w w' := by
  have := symRun hE ha hcs (res := [.one .bool]) (vs := [.bool b]) (rcs := [litB b]) (rs := [b2i b]) (by cases b <;> rfl) ⟨ev_litB S b, trivial⟩ hrun hrel w hw hI
  refine Calls.mono this fun e w' ⟨h1, h2⟩ => ⟨?_, h2⟩
  rw [h1]
  cases b <;> rfl
theorem al_is {S : Sy} {al : List (Nat × Value)} (t : Tm) (b : Bool) (he : (t.ok && isBc t.enc) = true) (hb : t.den S = some [b2i b]) (ha : AlOk S al) : AlOk S ((t.enc, .bool b) :: al) :=
  al_bool t b (by simp only [Bool.and_eq_true] at he ⊢; exact ⟨⟨Nat.beq_refl _, he.1⟩, he.2⟩) hb ha
theorem len0 {ns : List Int} (h : ns.length = 0) : ns = [] := List.eq_nil_of_length_eq_zero h
theorem lenS {ns : List Int} {n : Nat} (h : ns.length = n + 1) : ∃ a r, ns = a :: r ∧ r.length = n := by
  cases ns with
  | nil => simp at h
  | cons a r => exact ⟨a, r, rfl, by simpa using h⟩
theorem len1 {ns : List Int} (h : ns.length = 1) : ∃ a, ns = [a] := by
  obtain ⟨a, r, rfl, h2⟩ := lenS h
  exact ⟨a, by rw [len0 h2]⟩
theorem len2 {ns : List Int} (h : ns.length = 2) : ∃ a b, ns = [a, b] := by
  obtain ⟨a, r, rfl, h2⟩ := lenS h
  obtain ⟨b, rfl⟩ := len1 h2
  exact ⟨a, b, rfl⟩
theorem len3 {ns : List Int} (h : ns.length = 3) : ∃ a b c, ns = [a, b, c] := by
  obtain ⟨a, r, rfl, h2⟩ := lenS h
  obtain ⟨b, c, rfl⟩ := len2 h2
  exact ⟨a, b, c, rfl⟩
theorem len4 {ns : List Int} (h : ns.length = 4) : ∃ a b c d, ns = [a, b, c, d] := by
  obtain ⟨a, r, rfl, h2⟩ := lenS h
  obtain ⟨b, c, d, rfl⟩ := len3 h2
  exact ⟨a, b, c, d, rfl⟩
end Go.Ev
