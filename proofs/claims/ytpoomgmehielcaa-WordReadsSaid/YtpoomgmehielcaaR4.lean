/-
  WordReads: its callees as contracts, its loop by a rule, run with symbols. Condition: the word is one of 64 bits.
-/
import Derived.Test.YtpoomgmehielcaaR3
namespace Go.Proofs.Ytpoomgmehielcaa
open Go.Ev Go.RowKit
set_option maxRecDepth 100000
def Φr : Nat → List Int → Int
  | 9, [] => 1
  | 16, [w] => w % 16777216
  | 17, [w] => w / 16777216 % 2
  | 18, [w] => w / 4294967296 % 4294967296
  | 24, [w] => w % 4
  | 25, [w] => w / 4 % 65536
  | 26, [w] => w / 262144 % 4096
  | 27, [w] => w / 4294967296 % 4294967296
  | 32, [w] => w % 8
  | 33, [w] => w / 8 % 1024
  | 34, [w] => w / 8192 % 4
  | 35, [w] => w / 65536 % 128
  | 40, [w] => w % 256
  | 41, [w] => w / 256 % 8
  | 42, [w] => if w / 256 % 8 = 0 then 0 else w / 256 % 8 - 1
  | 43, [w] => w / 4294967296 % 4294967296
  | 50, [w, s, m] => w / 2 ^ s.toNat % 2 ^ m.toNat
  | 60, [w, i] => w / 2 ^ i.toNat % 2
  | 70, [w] => w / 4294967296 % 4294967296
  | 80, [m, _, _, _] => fo m 8
  | 90, [m, _, _, _, n] => b2i (fu m n 8)
  | _, _ => 0
def sr (l : List Int) : Sy := ⟨fun i => l.getD i 0, Φr⟩
def yes (_ : Nat) : Bool := true
def pI : Pm := .one (.int .i64)
def pW : Pm := .one (.int .u64)
def pV : Pm := .one (.int .u32)
def c10 : Ctr := ⟨10, [pW], [.agg refA], 16, yes⟩
def c11 : Ctr := ⟨11, [pW], [.agg stateA], 24, yes⟩
def c12 : Ctr := ⟨12, [pW], [.agg pageA], 32, yes⟩
def c13 : Ctr := ⟨13, [pW], [.agg bitsA], 40, yes⟩
def fTm (s m : Nat) : Tm := .cons (.var .u64 0) (.cons (.lit .i64 s) (.cons (.lit .i64 m) .nil))
def fl : List (Nat × Nat) := [(0, 24), (0, 2), (2, 16), (18, 12), (0, 3), (3, 10), (13, 2), (16, 7), (0, 8), (8, 3)]
def mayF (a : Nat) : Bool := fl.any fun p => Nat.beq (fTm p.1 p.2).enc a
def c14 : Ctr := ⟨14, [pW, pI, pI], [pI], 50, mayF⟩
def b24 : Tm := .cons (.var .u64 0) (.cons (.lit .i64 24) .nil)
def bAt : Tm := .cons (.var .u64 0) (.cons (.var .i64 4) .nil)
def may24 (a : Nat) : Bool := Nat.beq b24.enc a
def mayI (a : Nat) : Bool := Nat.beq bAt.enc a
def c15 : Ctr := ⟨15, [pW, pI], [.one .bool], 60, may24⟩
def c15i : Ctr := ⟨15, [pW, pI], [.one .bool], 60, mayI⟩
def w0 : Tm := .cons (.var .u64 0) .nil
def mayW (a : Nat) : Bool := Nat.beq w0.enc a
def c16 : Ctr := ⟨16, [pW], [pV], 70, mayW⟩
def firstT : Tm := .cons (.var .u8 5) (.cons (.bin .neq (.var .u8 6) (.lit .u8 0)) (.cons (.var .i64 7) (.cons (.var .u32 8) .nil)))
def fullT : Tm := .cons (.var .u8 5) (.cons (.bin .neq (.var .u8 6) (.lit .u8 0)) (.cons (.var .i64 7) (.cons (.var .u32 8) (.cons (.var .i64 1) .nil))))
def mayFi (a : Nat) : Bool := Nat.beq firstT.enc a
def mayFu (a : Nat) : Bool := Nat.beq fullT.enc a
def c17 : Ctr := ⟨17, [.agg bitsA], [pI], 80, mayFi⟩
def c18 : Ctr := ⟨18, [.agg bitsA, pI], [.one .bool], 90, mayFu⟩
def c19 : Ctr := ⟨19, [], [.one .bool], 9, yes⟩
def ctrs : List Ctr := [c10, c11, c12, c13, c14, c15, c16, c17, c18, c19]
theorem tr {p : Prop} [Decidable p] (h : p) : some [b2i (decide p)] = some [b2i true] := by rw [decide_eq_true h]
theorem fls {p : Prop} [Decidable p] (h : ¬ p) : some [b2i (decide p)] = some [b2i false] := by rw [decide_eq_false h]
theorem ev_may {S : Sy} {a : Nat} {ns ms : List Int} {t : Tm} (hm : Nat.beq t.enc a = true) (ok : t.ok = true) (hd : t.den S = some ms) (he : ev S a = some ns) : ns = ms := by
  obtain rfl := Nat.eq_of_beq_eq_true hm
  rw [t.ev_enc S ok, hd] at he
  exact (Option.some.inj he).symm
theorem dec1 (y : Int) : decide (y % 2 ≠ 0) = decide (y % 2 = 1) := by rw [Bool.eq_iff_iff, decide_eq_true_eq, decide_eq_true_eq]; omega
theorem qr {w w' : World} (h : w = w') : Quiet w w' := by
  subst h
  exact ⟨Nat.le_refl _, fun _ _ => rfl, fun _ => rfl, rfl, rfl, rfl⟩
theorem c10_ok (l : List Int) : CtrOk Try.prog (sr l) [] c10 := by
  intro a ns _ _ hl w _
  obtain ⟨x, rfl⟩ := len1 (show ns.length = 1 from hl)
  exact ref_of x w
theorem c11_ok (l : List Int) : CtrOk Try.prog (sr l) [] c11 := by
  intro a ns _ _ hl w _
  obtain ⟨x, rfl⟩ := len1 (show ns.length = 1 from hl)
  exact state_of x w
theorem c12_ok (l : List Int) : CtrOk Try.prog (sr l) [] c12 := by
  intro a ns _ _ hl w _
  obtain ⟨x, rfl⟩ := len1 (show ns.length = 1 from hl)
  exact page_of x w
theorem c13_ok (l : List Int) : CtrOk Try.prog (sr l) [] c13 := by
  intro a ns _ _ hl w _
  obtain ⟨x, rfl⟩ := len1 (show ns.length = 1 from hl)
  exact bits_of x w
theorem fl_ok : (fl.all fun p => (fTm p.1 p.2).ok && Nat.ble p.2 30 && Nat.ble (p.1 + p.2) 63) = true := by kernel_rfl
theorem c14_ok (x : Int) (l : List Int) (hx : 0 ≤ x) (hx2 : x < 18446744073709551616) : CtrOk Try.prog (sr (x :: l)) [] c14 := by
  intro a ns hm he _ w _
  have hm' : (fl.any fun p => Nat.beq (fTm p.1 p.2).enc a) = true := hm
  obtain ⟨p, hp, hb⟩ := List.any_eq_true.1 hm'
  have h := (List.all_eq_true.1 fl_ok) p hp
  simp only [Bool.and_eq_true] at h
  obtain rfl := ev_may (ms := [x, (p.1 : Int), (p.2 : Int)]) hb h.1.1 rfl he
  exact (field_any x hx hx2 p.1 p.2 (Nat.le_of_ble_eq_true h.1.2) (Nat.le_of_ble_eq_true h.2) w).mono fun e w' ⟨h1, h2⟩ => ⟨h1, qr h2⟩
theorem c15_ok (x : Int) (l : List Int) (hx : 0 ≤ x) (hx2 : x < 18446744073709551616) : CtrOk Try.prog (sr (x :: l)) [] c15 := by
  intro a ns hm he _ w _
  obtain rfl := ev_may (ms := [x, 24]) (t := b24) hm (by kernel_rfl) rfl he
  refine (bit_any x hx hx2 24 (by decide) w).mono fun e w' ⟨h1, h2⟩ => ⟨?_, qr h2⟩
  rw [h1, ← dec1]
  rfl
theorem c15i_ok (x n a b : Int) (i : Nat) (l : List Int) (hi : i ≤ 63) (hx : 0 ≤ x) (hx2 : x < 18446744073709551616) : CtrOk Try.prog (sr (x :: n :: a :: b :: (i : Int) :: l)) [] c15i := by
  intro a ns hm he _ w _
  obtain rfl := ev_may (ms := [x, (i : Int)]) (t := bAt) hm (by kernel_rfl) rfl he
  refine (bit_any x hx hx2 i hi w).mono fun e w' ⟨h1, h2⟩ => ⟨?_, qr h2⟩
  rw [h1, ← dec1]
  rfl
theorem c16_ok (x : Int) (l : List Int) (hx : 0 ≤ x) (hx2 : x < 18446744073709551616) : CtrOk Try.prog (sr (x :: l)) [] c16 := by
  intro a ns hm he _ w _
  obtain rfl := ev_may (ms := [x]) (t := w0) hm (by kernel_rfl) rfl he
  exact ver_any x hx hx2 w
theorem b2i_b (b : Bool) : b2i (decide (b2i b ≠ 0)) = b2i b := by rw [b2i_ne]
theorem c17_ok (x n a b i : Int) (m : Nat) (h : Bool) (c v : Int) (hm : m < 256) : CtrOk Try.prog (sr [x, n, a, b, i, (m : Int), b2i h, c, v]) [] c17 := by
  intro a ns hm0 he _ w _
  obtain rfl := ev_may (ms := [(m : Int), b2i (decide (b2i h ≠ 0)), c, v]) (t := firstT) hm0 (by kernel_rfl) rfl he
  have := first_any m hm h c v w
  rw [b2i_b]
  show Calls Try.prog 17 #[.agg #[.int .u8 m, .bool (decide (b2i h ≠ 0)), .int .i64 c, .int .u32 v]] w _
  rw [b2i_ne]
  exact this
theorem c18_ok (x n a b i : Int) (m : Nat) (h : Bool) (c v : Int) (hm : m < 256) : CtrOk Try.prog (sr [x, n, a, b, i, (m : Int), b2i h, c, v]) [] c18 := by
  intro a ns hm0 he _ w _
  obtain rfl := ev_may (ms := [(m : Int), b2i (decide (b2i h ≠ 0)), c, v, n]) (t := fullT) hm0 (by kernel_rfl) rfl he
  have := full_any m hm h c v n w
  rw [b2i_b]
  show Calls Try.prog 18 #[.agg #[.int .u8 m, .bool (decide (b2i h ≠ 0)), .int .i64 c, .int .u32 v], .int .i64 n] w fun e w' => e = .returned (.bool (decide (b2i (fu m n 8) ≠ 0))) ∧ Quiet w w'
  rw [b2i_ne, b2i_ne]
  exact this
theorem c19_ok (l : List Int) : CtrOk Try.prog (sr l) [] c19 := by
  intro a ns _ _ hl w _
  obtain rfl := len0 (show ns.length = 0 from hl)
  exact awakeW_any w

/-! ### The loop -/
def lp : Mrk := (3, [1, 1, 1, 1, 1, 1, 1, 1, 1, 1, 1, 1, 0, 1, 0])
def vv (k : IntKind) (i : Nat) : Value := .float .f64 (i * 512 + kI k)
def vb (i : Nat) : Value := .float .f64 (bsym i)
noncomputable def bBlk : Blk := .cells (mkCells #[vv .u8 5, vb 6, vv .i64 7, vv .u32 8] 34)
noncomputable def Xp : Pat := ⟨149, 4, [(0, vv .u64 0), (1, vv .i64 1), (8, .pointer (some ⟨3, 0, none⟩)), (10, vv .i64 2), (11, vb 3), (12, vv .i64 4)], [(3, bBlk)]⟩
noncomputable def Fp : Pat := ⟨149, 4, [(1, vv .i64 1), (8, .pointer (some ⟨3, 0, none⟩)), (10, vv .i64 2), (11, vb 3)], [(3, bBlk)]⟩
theorem asg_nil {S S' : Sy} : AsgOk S S' [] := fun p hp => by simp at hp
theorem asg_cons {S S' : Sy} {i c : Nat} {asg : Asg} (t : Tm) (he : (Nat.beq t.enc c && t.ok) = true) (hd : t.den S = some [S'.ρ i]) (h : AsgOk S S' asg) : AsgOk S S' ((i, c) :: asg) := fun p hp => by
  simp only [Bool.and_eq_true] at he
  rcases List.mem_cons.1 hp with rfl | hp
  · rw [← Nat.eq_of_beq_eq_true he.1]
    exact (t.ev_enc S he.2).trans hd
  · exact h p hp
def bS (i : Nat) : Tm := .bin .neq (.var .u8 i) (.lit .u8 0)
def t0 : Tm := (.bin .geq (.var .i64 4) (.lit .i64 0))
def t1 : Tm := (.appB 60 (.cons (.var .u64 0) (.cons (.var .i64 4) .nil)))
def t2 : Tm := (.bin .lss (.var .i64 4) (.var .i64 1))
def dn : Tm := (.bin .sub (.var .i64 4) (.lit .i64 1))
def asgE (a b c : Tm) : Asg := [(0, (Tm.var .u64 0).enc), (1, (Tm.var .i64 1).enc), (2, a.enc), (3, b.enc), (4, c.enc), (8, (Tm.var .u32 8).enc), (7, (Tm.var .i64 7).enc), (6, (bS 6).enc), (5, (Tm.var .u8 5).enc)]
def asgF : Asg := [(1, (Tm.var .i64 1).enc), (2, (Tm.var .i64 2).enc), (3, (bS 3).enc), (8, (Tm.var .u32 8).enc), (7, (Tm.var .i64 7).enc), (6, (bS 6).enc), (5, (Tm.var .u8 5).enc)]
def asg0 : Asg := [(0, (Tm.var .u64 0).enc), (1, (Tm.var .i64 1).enc), (2, (Tm.lit .i64 (-1)).enc), (3, (Tm.bin .leq (.var .i64 1) (.lit .i64 8)).enc), (4, (Tm.lit .i64 7).enc), (8, (Tm.app .u32 43 (.cons (.var .u64 0) .nil)).enc), (7, (Tm.app .i64 42 (.cons (.var .u64 0) .nil)).enc), (6, (Tm.appB 41 (.cons (.var .u64 0) .nil)).enc), (5, (Tm.app .u8 40 (.cons (.var .u64 0) .nil)).enc)]
noncomputable abbrev Λr : Nat → Option Code := lamOf Try.prog [lp]
noncomputable abbrev ftR : Nat → Option Func := ftM Try.prog [lp]
theorem envR : @EnvOk ⟨Λr⟩ Try.prog ftR := envM env [lp] (by kernel_rfl)
theorem codeR : codeAt Try.prog lp = some (.loop (cAt Try.prog lp)) := by kernel_rfl
theorem fineR : fineC Try.prog.globals.size (cAt Try.prog lp) = true := by kernel_rfl
section
variable (w n : Int)
def hasW : Bool := decide (w / 256 % 8 ≠ 0)
def clsW : Int := if w / 256 % 8 = 0 then 0 else w / 256 % 8 - 1
/-- Behind j rounds. -/
def sj (j : Nat) : Sy := sr [w, n, fo w j, b2i (fu w n j), 7 - (j : Int), w % 256, b2i (hasW w), clsW w, w / 4294967296 % 4294967296]
def InvR (k : Nat) (S1 : Sy) : Prop := ∃ j, j ≤ 8 ∧ k = 8 - j ∧ S1 = sj w n j
theorem dn_den (j : Nat) (hj : j < 8) : dn.den (sj w n j) = some [7 - ((j + 1 : Nat) : Int)] := by
  have : IntKind.i64.wrap (7 - (j : Int) - 1) = 7 - ((j + 1 : Nat) : Int) := by
    simp only [IntKind.wrap, IntKind.bits, IntKind.signed]
    simp
    split <;> omega
  show numV (some (Value.int .i64 (IntKind.i64.wrap (7 - (j : Int) - 1)))) = _
  rw [this]; rfl
theorem asgE_ok (j : Nat) (hj : j < 8) (a b : Tm) (ha : a.ok = true) (hb : b.ok = true) (h1 : a.den (sj w n j) = some [fo w (j + 1)]) (h2 : b.den (sj w n j) = some [b2i (fu w n (j + 1))]) : AsgOk (sj w n j) (sj w n (j + 1)) (asgE a b dn) :=
  asg_cons (.var .u64 0) (by kernel_rfl) rfl (asg_cons (.var .i64 1) (by kernel_rfl) rfl (asg_cons a (by rw [Nat.beq_refl, ha]; rfl) h1 (asg_cons b (by rw [Nat.beq_refl, hb]; rfl) h2 (asg_cons dn (by kernel_rfl) (dn_den w n j hj)
    (asg_cons (.var .u32 8) (by kernel_rfl) rfl (asg_cons (.var .i64 7) (by kernel_rfl) rfl (asg_cons (bS 6) (by kernel_rfl) (by
      show some [b2i (decide (b2i (hasW w) ≠ 0))] = some [b2i (hasW w)]
      rw [b2i_ne]) (asg_cons (.var .u8 5) (by kernel_rfl) rfl asg_nil))))))))
theorem stepR (hw : 0 ≤ w) (hw2 : w < 18446744073709551616) (k : Nat) (S1 : Sy) (hi : InvR w n k S1) : Step Try.prog ftR Λr [] (cAt Try.prog lp) Xp Fp (.exit 0) (sj w n 8) (InvR w n) k S1 := by
  obtain ⟨j, hj, rfl, rfl⟩ := hi
  by_cases h8 : j = 8
  · subst h8
    have d0 : t0.den (sj w n 8) = some [b2i false] := rfl
    refine ⟨_, [], _, 1000, asgF, al_is t0 false (by kernel_rfl) d0 (AlOk.nil _), fun c hc => by simp at hc, LkOk.no _ _ _ _, .inr ⟨?_, fun G => by kernel_rfl⟩⟩
    exact asg_cons (.var .i64 1) (by kernel_rfl) rfl (asg_cons (.var .i64 2) (by kernel_rfl) rfl (asg_cons (bS 3) (by kernel_rfl) (by
      show some [b2i (decide (b2i (fu w n 8) ≠ 0))] = some [b2i (fu w n 8)]
      rw [b2i_ne]) (asg_cons (.var .u32 8) (by kernel_rfl) rfl (asg_cons (.var .i64 7) (by kernel_rfl) rfl (asg_cons (bS 6) (by kernel_rfl) (by
      show some [b2i (decide (b2i (hasW w) ≠ 0))] = some [b2i (hasW w)]
      rw [b2i_ne]) (asg_cons (.var .u8 5) (by kernel_rfl) rfl asg_nil))))))
  · have hj' : j < 8 := by omega
    have e7 : (7 - (j : Int)) = ((7 - j : Nat) : Int) := by omega
    have d0 : t0.den (sj w n j) = some [b2i true] := tr (p := (0 : Int) ≤ 7 - (j : Int)) (by omega)
    have d1 : t1.den (sj w n j) = some [b2i (decide (w / 2 ^ (7 - j) % 2 = 1))] := by
      show some [b2i (decide (w / 2 ^ (7 - (j : Int)).toNat % 2 ≠ 0))] = _
      rw [dec1, show (7 - (j : Int)).toNat = 7 - j by omega]
    have hcs : ∀ c ∈ [c15i], CtrOk Try.prog (sj w n j) [] c := fun c hc => by
      rw [List.mem_singleton] at hc
      subst hc
      unfold sj
      rw [e7]
      exact c15i_ok w n _ _ (7 - j) _ (by omega) hw hw2
    have inv : InvR w n (8 - (j + 1)) (sj w n (j + 1)) := ⟨j + 1, by omega, rfl, rfl⟩
    have k1 : 8 - j = 8 - (j + 1) + 1 := by omega
    by_cases hb : w / 2 ^ (7 - j) % 2 = 1
    · rw [decide_eq_true hb] at d1
      refine ⟨_, [c15i], _, 1000, asgE (.var .i64 4) (bS 3) dn, al_is t1 true (by kernel_rfl) d1 (al_is t0 true (by kernel_rfl) d0 (AlOk.nil _)), hcs, LkOk.no _ _ _ _, .inl ⟨_, _, k1, inv, ?_, fun G => by kernel_rfl⟩⟩
      refine asgE_ok w n j hj' _ _ (by kernel_rfl) (by kernel_rfl) ?_ ?_
      · show some [7 - (j : Int)] = some [fo w (j + 1)]
        unfold fo
        rw [if_pos hb, e7]
      · show some [b2i (decide (b2i (fu w n j) ≠ 0))] = some [b2i (fu w n (j + 1))]
        rw [b2i_ne, show fu w n (j + 1) = fu w n j by rw [fu.eq_2, if_pos hb]]
    · rw [decide_eq_false hb] at d1
      have ho : fo w (j + 1) = fo w j := by rw [fo.eq_2, if_neg hb]
      by_cases hn : ((7 - j : Nat) : Int) < n
      · have d2 : t2.den (sj w n j) = some [b2i true] := tr (p := 7 - (j : Int) < n) (by omega)
        refine ⟨_, [c15i], _, 1000, asgE (.var .i64 2) (.blit false) dn, al_is t2 true (by kernel_rfl) d2 (al_is t1 false (by kernel_rfl) d1 (al_is t0 true (by kernel_rfl) d0 (AlOk.nil _))), hcs, LkOk.no _ _ _ _, .inl ⟨_, _, k1, inv, ?_, fun G => by kernel_rfl⟩⟩
        refine asgE_ok w n j hj' _ _ (by kernel_rfl) (by kernel_rfl) ?_ ?_
        · rw [ho]; rfl
        · rw [show fu w n (j + 1) = false by rw [fu.eq_2, if_neg hb, if_pos hn]]; rfl
      · have d2 : t2.den (sj w n j) = some [b2i false] := fls (p := 7 - (j : Int) < n) (by omega)
        refine ⟨_, [c15i], _, 1000, asgE (.var .i64 2) (bS 3) dn, al_is t2 false (by kernel_rfl) d2 (al_is t1 false (by kernel_rfl) d1 (al_is t0 true (by kernel_rfl) d0 (AlOk.nil _))), hcs, LkOk.no _ _ _ _, .inl ⟨_, _, k1, inv, ?_, fun G => by kernel_rfl⟩⟩
        refine asgE_ok w n j hj' _ _ (by kernel_rfl) (by kernel_rfl) ?_ ?_
        · rw [ho]; rfl
        · show some [b2i (decide (b2i (fu w n j) ≠ 0))] = some [b2i (fu w n (j + 1))]
          rw [b2i_ne, show fu w n (j + 1) = fu w n j by rw [fu.eq_2, if_neg hb, if_neg hn]]
theorem asg0_ok : AsgOk (sj w n 8) (sj w n 0) asg0 := by
  have e2 : (Tm.lit .i64 (-1)).den (sj w n 8) = some [(sj w n 0).ρ 2] := rfl
  have e3 : (Tm.bin .leq (.var .i64 1) (.lit .i64 8)).den (sj w n 8) = some [(sj w n 0).ρ 3] := rfl
  have e4 : (Tm.lit .i64 7).den (sj w n 8) = some [(sj w n 0).ρ 4] := rfl
  have e8 : (Tm.app .u32 43 (.cons (.var .u64 0) .nil)).den (sj w n 8) = some [(sj w n 0).ρ 8] := rfl
  have e7 : (Tm.app .i64 42 (.cons (.var .u64 0) .nil)).den (sj w n 8) = some [(sj w n 0).ρ 7] := rfl
  have e6 : (Tm.appB 41 (.cons (.var .u64 0) .nil)).den (sj w n 8) = some [(sj w n 0).ρ 6] := rfl
  have e5 : (Tm.app .u8 40 (.cons (.var .u64 0) .nil)).den (sj w n 8) = some [(sj w n 0).ρ 5] := rfl
  exact asg_cons (.var .u64 0) (by kernel_rfl) rfl (asg_cons (.var .i64 1) (by kernel_rfl) rfl (asg_cons (.lit .i64 (-1)) (by kernel_rfl) e2 (asg_cons (.bin .leq (.var .i64 1) (.lit .i64 8)) (by kernel_rfl) e3 (asg_cons (.lit .i64 7) (by kernel_rfl) e4
      (asg_cons (.app .u32 43 (.cons (.var .u64 0) .nil)) (by kernel_rfl) e8 (asg_cons (.app .i64 42 (.cons (.var .u64 0) .nil)) (by kernel_rfl) e7 (asg_cons (.appB 41 (.cons (.var .u64 0) .nil)) (by kernel_rfl) e6 (asg_cons (.app .u8 40 (.cons (.var .u64 0) .nil)) (by kernel_rfl) e5 asg_nil))))))))
theorem lkR (hw : 0 ≤ w) (hw2 : w < 18446744073709551616) : LkOk Try.prog (sj w n 8) [] Λr (lkL [lkLoop Try.prog Xp Fp (.exit 0) asg0]) :=
  LkOk.one codeR (loop_ok envR (ann_self _) fineR (show Xp.N = Fp.N from rfl) (stepR w n hw hw2) (k0 := 8) (S0 := sj w n 0) ⟨0, by omega, rfl, rfl⟩ (asg0_ok w n))
def rd0 : Tm := (.bin .neq (.app .i64 16 (.cons (.var .u64 0) .nil)) (.app .i64 50 (.cons (.var .u64 0) (.cons (.lit .i64 0) (.cons (.lit .i64 24) .nil)))))
def rd1 : Tm := (.bne (.appB 17 (.cons (.var .u64 0) .nil)) (.appB 60 (.cons (.var .u64 0) (.cons (.lit .i64 24) .nil))))
def rd2 : Tm := (.bin .neq (.app .u32 18 (.cons (.var .u64 0) .nil)) (.app .u32 70 (.cons (.var .u64 0) .nil)))
def rd3 : Tm := (.bin .neq (.app .i64 24 (.cons (.var .u64 0) .nil)) (.app .i64 50 (.cons (.var .u64 0) (.cons (.lit .i64 0) (.cons (.lit .i64 2) .nil)))))
def rd4 : Tm := (.bin .neq (.app .i64 25 (.cons (.var .u64 0) .nil)) (.app .i64 50 (.cons (.var .u64 0) (.cons (.lit .i64 2) (.cons (.lit .i64 16) .nil)))))
def rd5 : Tm := (.bin .neq (.app .i64 26 (.cons (.var .u64 0) .nil)) (.app .i64 50 (.cons (.var .u64 0) (.cons (.lit .i64 18) (.cons (.lit .i64 12) .nil)))))
def rd6 : Tm := (.bin .neq (.app .u32 27 (.cons (.var .u64 0) .nil)) (.app .u32 70 (.cons (.var .u64 0) .nil)))
def rd7 : Tm := (.bin .neq (.app .i64 32 (.cons (.var .u64 0) .nil)) (.app .i64 50 (.cons (.var .u64 0) (.cons (.lit .i64 0) (.cons (.lit .i64 3) .nil)))))
def rd8 : Tm := (.bin .neq (.app .i64 33 (.cons (.var .u64 0) .nil)) (.app .i64 50 (.cons (.var .u64 0) (.cons (.lit .i64 3) (.cons (.lit .i64 10) .nil)))))
def rd9 : Tm := (.bin .neq (.app .i64 34 (.cons (.var .u64 0) .nil)) (.app .i64 50 (.cons (.var .u64 0) (.cons (.lit .i64 13) (.cons (.lit .i64 2) .nil)))))
def rd10 : Tm := (.bin .neq (.app .i64 35 (.cons (.var .u64 0) .nil)) (.app .i64 50 (.cons (.var .u64 0) (.cons (.lit .i64 16) (.cons (.lit .i64 7) .nil)))))
def rd11 : Tm := (.bin .neq (.conv .i64 (.app .u8 40 (.cons (.var .u64 0) .nil))) (.app .i64 50 (.cons (.var .u64 0) (.cons (.lit .i64 0) (.cons (.lit .i64 8) .nil)))))
def rd12 : Tm := (.bne (.appB 41 (.cons (.var .u64 0) .nil)) (.bin .gtr (.app .i64 50 (.cons (.var .u64 0) (.cons (.lit .i64 8) (.cons (.lit .i64 3) .nil)))) (.lit .i64 0)))
def rd13 : Tm := (.bin .neq (.app .i64 42 (.cons (.var .u64 0) .nil)) (.mx true (.bin .sub (.app .i64 50 (.cons (.var .u64 0) (.cons (.lit .i64 8) (.cons (.lit .i64 3) .nil)))) (.lit .i64 1)) (.lit .i64 0)))
def rd14 : Tm := (.bin .neq (.app .u32 43 (.cons (.var .u64 0) .nil)) (.app .u32 70 (.cons (.var .u64 0) .nil)))
def rd15 : Tm := (.bin .eql (.app .i64 80 (.cons (.var .u8 5) (.cons (.bin .neq (.var .u8 6) (.lit .u8 0)) (.cons (.var .i64 7) (.cons (.var .u32 8) .nil))))) (.var .i64 2))
def rd16 : Tm := (.beq (.appB 90 (.cons (.var .u8 5) (.cons (.bin .neq (.var .u8 6) (.lit .u8 0)) (.cons (.var .i64 7) (.cons (.var .u32 8) (.cons (.var .i64 1) .nil)))))) (.bin .neq (.var .u8 3) (.lit .u8 0)))
def awR : Tm := .appB 9 .nil
theorem reads_any (hw : 0 ≤ w) (hw2 : w < 18446744073709551616) (W : World) : Calls Try.prog 3 #[.int .u64 w, .int .i64 n] W fun e w' => e = .returned (.bool true) ∧ Quiet W w' := by
  have f2 : ∀ a b : Nat, Φr 50 [w, a, b] = w / 2 ^ a % 2 ^ b := fun a b => rfl
  have d0 : rd0.den (sj w n 8) = some [b2i false] := fls (p := Φr 16 [w] ≠ Φr 50 [w, 0, 24]) (fun h => h (by simp [Φr]))
  have d2 : rd2.den (sj w n 8) = some [b2i false] := fls (p := Φr 18 [w] ≠ Φr 70 [w]) (fun h => h (by simp [Φr]))
  have d3 : rd3.den (sj w n 8) = some [b2i false] := fls (p := Φr 24 [w] ≠ Φr 50 [w, 0, 2]) (fun h => h (by simp [Φr]))
  have d4 : rd4.den (sj w n 8) = some [b2i false] := fls (p := Φr 25 [w] ≠ Φr 50 [w, 2, 16]) (fun h => h (by simp [Φr]))
  have d5 : rd5.den (sj w n 8) = some [b2i false] := fls (p := Φr 26 [w] ≠ Φr 50 [w, 18, 12]) (fun h => h (by simp [Φr]))
  have d6 : rd6.den (sj w n 8) = some [b2i false] := fls (p := Φr 27 [w] ≠ Φr 70 [w]) (fun h => h (by simp [Φr]))
  have d7 : rd7.den (sj w n 8) = some [b2i false] := fls (p := Φr 32 [w] ≠ Φr 50 [w, 0, 3]) (fun h => h (by simp [Φr]))
  have d8 : rd8.den (sj w n 8) = some [b2i false] := fls (p := Φr 33 [w] ≠ Φr 50 [w, 3, 10]) (fun h => h (by simp [Φr]))
  have d9 : rd9.den (sj w n 8) = some [b2i false] := fls (p := Φr 34 [w] ≠ Φr 50 [w, 13, 2]) (fun h => h (by simp [Φr]))
  have d10 : rd10.den (sj w n 8) = some [b2i false] := fls (p := Φr 35 [w] ≠ Φr 50 [w, 16, 7]) (fun h => h (by simp [Φr]))
  have d14 : rd14.den (sj w n 8) = some [b2i false] := fls (p := Φr 43 [w] ≠ Φr 70 [w]) (fun h => h (by simp [Φr]))
  have d1 : rd1.den (sj w n 8) = some [b2i false] := fls (p := b2i (decide (Φr 17 [w] ≠ 0)) ≠ b2i (decide (Φr 60 [w, 24] ≠ 0))) (fun h => h (by simp [Φr]))
  have d11 : rd11.den (sj w n 8) = some [b2i false] := fls (p := IntKind.i64.wrap (Φr 40 [w]) ≠ Φr 50 [w, 0, 8]) (fun h => h (by rw [wi64 (by simp only [Φr]; omega) (by simp only [Φr]; omega)]; simp [Φr]))
  have d12 : rd12.den (sj w n 8) = some [b2i false] := fls (p := b2i (decide (Φr 41 [w] ≠ 0)) ≠ b2i (decide (Φr 50 [w, 8, 3] > 0))) (fun h => h (by
    have e : Φr 50 [w, 8, 3] = w / 256 % 8 := by simp [Φr]
    rw [e]
    have e2 : Φr 41 [w] = w / 256 % 8 := rfl
    rw [e2]
    congr 1
    rw [Bool.eq_iff_iff, decide_eq_true_eq, decide_eq_true_eq]
    omega))
  have d13 : rd13.den (sj w n 8) = some [b2i false] := by
    have e : Φr 50 [w, 8, 3] = w / 256 % 8 := by simp [Φr]
    have e3 : (Tm.app .i64 50 (.cons (.var .u64 0) (.cons (.lit .i64 8) (.cons (.lit .i64 3) .nil)))).den (sj w n 8) = some [w / 256 % 8] := (show _ = some [Φr 50 [w, 8, 3]] from rfl).trans (by rw [e])
    have e4 : (Tm.bin .sub (.app .i64 50 (.cons (.var .u64 0) (.cons (.lit .i64 8) (.cons (.lit .i64 3) .nil)))) (.lit .i64 1)).den (sj w n 8) = some [w / 256 % 8 - 1] :=
      den_bin (k := .i64) e3 (den_lit _ _) (by
        show some (Value.int .i64 (IntKind.i64.wrap (w / 256 % 8 - 1))) = _
        rw [wrap_i64]
        congr 2
        omega)
    have e5 : (Tm.mx true (.bin .sub (.app .i64 50 (.cons (.var .u64 0) (.cons (.lit .i64 8) (.cons (.lit .i64 3) .nil)))) (.lit .i64 1)) (.lit .i64 0)).den (sj w n 8) = some [clsW w] := by
      simp only [Tm.den] at e4 ⊢
      rw [e4]
      simp only [if_true, clsW]
      congr 2
      split <;> split <;> omega
    refine (den_cmp (a := clsW w) rfl e5 (r := false) ?_)
    show some (Value.bool (decide (clsW w ≠ clsW w))) = _
    simp
  have d15 : rd15.den (sj w n 8) = some [b2i true] := tr (p := fo (w % 256) 8 = fo w 8) (fo_low w 8 (by omega))
  have d16 : rd16.den (sj w n 8) = some [b2i true] := tr (p := b2i (decide (b2i (fu (w % 256) n 8) ≠ 0)) = b2i (decide (b2i (fu w n 8) ≠ 0))) (by rw [fu_low w n 8 (by omega)])
  have da : awR.den (sj w n 8) = some [b2i true] := rfl
  obtain ⟨m, hm⟩ : ∃ m : Nat, w % 256 = m := ⟨(w % 256).toNat, by omega⟩
  have hcs : ∀ c ∈ ctrs, CtrOk Try.prog (sj w n 8) [] c := by
    intro c hc
    simp only [ctrs, List.mem_cons, List.not_mem_nil, or_false] at hc
    rcases hc with rfl | rfl | rfl | rfl | rfl | rfl | rfl | rfl | rfl | rfl
    · exact c10_ok _
    · exact c11_ok _
    · exact c12_ok _
    · exact c13_ok _
    · exact c14_ok w _ hw hw2
    · exact c15_ok w _ hw hw2
    · exact c16_ok w _ hw hw2
    · unfold sj; rw [hm]; exact c17_ok _ _ _ _ _ m _ _ _ (by omega)
    · unfold sj; rw [hm]; exact c18_ok _ _ _ _ _ m _ _ _ (by omega)
    · exact c19_ok _
  have run := symRunM envR (al_is awR true (by kernel_rfl) da (al_is rd16 true (by kernel_rfl) d16 (al_is rd15 true (by kernel_rfl) d15 (al_is rd14 false (by kernel_rfl) d14 (al_is rd13 false (by kernel_rfl) d13 (al_is rd12 false (by kernel_rfl) d12 (al_is rd11 false (by kernel_rfl) d11 (al_is rd10 false (by kernel_rfl) d10 (al_is rd9 false (by kernel_rfl) d9 (al_is rd8 false (by kernel_rfl) d8 (al_is rd7 false (by kernel_rfl) d7 (al_is rd6 false (by kernel_rfl) d6 (al_is rd5 false (by kernel_rfl) d5 (al_is rd4 false (by kernel_rfl) d4 (al_is rd3 false (by kernel_rfl) d3 (al_is rd2 false (by kernel_rfl) d2 (al_is rd1 false (by kernel_rfl) d1 (al_is rd0 false (by kernel_rfl) d0 (AlOk.nil _))))))))))))))))))) hcs (lkR w n hw hw2) (n := 1000) (f := 3) (args := [vv .u64 0, vv .i64 1]) (args' := [.int .u64 w, .int .i64 n]) (res := [.one .bool]) (vs := [.bool true]) (rcs := [litB true]) (rs := [1])
    rfl ⟨ev_litB _ true, trivial⟩ (fun G => by kernel_rfl) (fun G ι => vs_sym rfl (vs_sym rfl vs_nil)) W (gok W)
  exact run
end
end Go.Proofs.Ytpoomgmehielcaa
