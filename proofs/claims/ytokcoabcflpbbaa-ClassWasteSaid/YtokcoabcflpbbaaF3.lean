/-
  Make's loop at the places where ClassWaste meets it, and the loop that compares. No condition but those each says.
-/
import Derived.Test.YtokcoabcflpbbaaF2
namespace Go.Proofs.Ytokcoabcflpbbaa
open Go.Ev Go.RowKit
set_option maxRecDepth 100000
def inXW : Value := inS 0 (dsc 1 30 [4])
def inYW : Value := inS 1 (dsc 11 31 [4])
def owW (b i : Nat) : Value := .float .f32 (mk 3 0 b (i * 512 + 3))
noncomputable def rw3W (i f : Nat) : Blk := .arr ⟨i * 512 + 3, [(some .i64, .var f), (some .i64, .var (f + 1)), (some .i64, .var (f + 2))], 43⟩
noncomputable def rw1W (i f : Nat) : Blk := .arr ⟨i * 512 + 3, [(some .i64, .var f)], 3⟩
noncomputable def XAW : Pat := ⟨30, 4, [(3, .slice none 0 0), (7, .int .i64 0), (8, .int .i64 0)], []⟩
noncomputable def FAW : Pat := ⟨30, 4, [(3, .slice none 0 0)], []⟩
noncomputable def XB0W : Pat := ⟨30, 4, [(3, .slice none 0 0), (6, owW 1 12), (7, vv .i64 12), (8, vv .i64 9)], [(1, rw1W 12 50)]⟩
noncomputable def XB1W : Pat := ⟨30, 4, [(3, owW 3 8), (6, owW 1 12), (7, vv .i64 12), (8, vv .i64 9)], [(1, rw1W 12 50), (3, rw3W 8 60)]⟩
noncomputable def XC0W : Pat := ⟨30, 4, [(3, .slice none 0 0), (6, owW 2 12), (7, vv .i64 12), (8, vv .i64 9)], [(2, rw1W 12 50)]⟩
noncomputable def XC1W : Pat := ⟨30, 4, [(3, owW 3 8), (6, owW 2 12), (7, vv .i64 12), (8, vv .i64 9)], [(2, rw1W 12 50), (3, rw3W 8 60)]⟩
noncomputable def F1rW : Pat := ⟨30, 4, [(3, owW 3 8)], [(3, rw3W 8 60)]⟩
noncomputable def XD0W : Pat := ⟨30, 5, [(3, .slice none 0 0), (6, inXW), (7, vv .i64 1), (8, vv .i64 13)], []⟩
noncomputable def FDW : Pat := ⟨30, 5, [(3, .slice none 0 0)], []⟩
noncomputable def XE0W : Pat := ⟨30, 5, [(3, .slice none 0 0), (6, inXW), (7, vv .i64 1), (8, vv .i64 13)], [(3, rw3W 8 60)]⟩
noncomputable def FEW : Pat := ⟨30, 5, [(3, .slice none 0 0)], [(3, rw3W 8 60)]⟩
noncomputable def XE1W : Pat := ⟨30, 5, [(3, owW 4 14), (6, inXW), (7, vv .i64 1), (8, vv .i64 13)], [(3, rw3W 8 60), (4, rw3W 14 63)]⟩
noncomputable def FErW : Pat := ⟨30, 5, [(3, owW 4 14)], [(3, rw3W 8 60), (4, rw3W 14 63)]⟩
noncomputable def XG0W : Pat := ⟨30, 6, [(3, .slice none 0 0), (6, inYW), (7, vv .i64 11), (8, vv .i64 15)], []⟩
noncomputable def FGW : Pat := ⟨30, 6, [(3, .slice none 0 0)], []⟩
noncomputable def XH0W : Pat := ⟨30, 6, [(3, .slice none 0 0), (6, inYW), (7, vv .i64 11), (8, vv .i64 15)], [(3, rw3W 8 60)]⟩
noncomputable def XH1W : Pat := ⟨30, 6, [(3, owW 5 16), (6, inYW), (7, vv .i64 11), (8, vv .i64 15)], [(3, rw3W 8 60), (5, rw3W 16 66)]⟩
noncomputable def FHrW : Pat := ⟨30, 6, [(3, owW 5 16)], [(3, rw3W 8 60), (5, rw3W 16 66)]⟩
noncomputable def XI0W : Pat := ⟨30, 6, [(3, .slice none 0 0), (6, inYW), (7, vv .i64 11), (8, vv .i64 15)], [(3, rw3W 8 60), (4, rw3W 14 63)]⟩
noncomputable def FIW : Pat := ⟨30, 6, [(3, .slice none 0 0)], [(3, rw3W 8 60), (4, rw3W 14 63)]⟩
noncomputable def XI1W : Pat := ⟨30, 6, [(3, owW 5 16), (6, inYW), (7, vv .i64 11), (8, vv .i64 15)], [(3, rw3W 8 60), (4, rw3W 14 63), (5, rw3W 16 66)]⟩
noncomputable def FIrW : Pat := ⟨30, 6, [(3, owW 5 16)], [(3, rw3W 8 60), (4, rw3W 14 63), (5, rw3W 16 66)]⟩
noncomputable def XL0W : Pat := ⟨153, 7, [(19, .slice none 0 0), (20, .slice none 0 0), (21, .int .i64 0)], []⟩
noncomputable def FLW : Pat := ⟨153, 7, [], []⟩
noncomputable def XL1W : Pat := ⟨153, 7, [(19, owW 3 8), (20, owW 6 17), (21, vv .i64 18)], [(3, rw3W 8 60), (6, rw3W 17 69)]⟩
def sqW (f i : Nat) : Tm := .app .i64 f (.cons (.var .i64 i) .nil)
def nTW : Tm := .bin .add (.conv .i64 (.bin .rem (.var .u8 2) (.lit .u8 64))) (.lit .i64 1)
def pTW (i : Nat) : Tm := .bin .shl (.lit .i64 1) (.bin .rem (.var .u8 i) (.lit .u8 7))
def lpWM : Mrk := (15, [1, 1, 0, 1, 0])
def lpWL : Mrk := (5, [1, 1, 1, 1, 1, 1, 1, 1, 1, 1, 1, 1, 1, 1, 0, 1, 0])
noncomputable abbrev ΛW : Nat → Option Code := lamOf Try.prog [lpWM, lpWL]
noncomputable abbrev ftW : Nat → Option Func := ftM Try.prog [lpWM, lpWL]
theorem envW : @EnvOk ⟨ΛW⟩ Try.prog ftW := envM env [lpWM, lpWL] (by kernel_rfl)
theorem codeWM : codeAt Try.prog lpWM = some (.loop (cAt Try.prog lpWM)) := by kernel_rfl
theorem fineWM : fineC Try.prog.globals.size (cAt Try.prog lpWM) = true := by kernel_rfl
theorem codeWL : codeAt Try.prog lpWL = some (.loop (cAt Try.prog lpWL)) := by kernel_rfl
theorem fineWL : fineC Try.prog.globals.size (cAt Try.prog lpWL) = true := by kernel_rfl
def okS (z : Int) : Prop := 8 ≤ z ∧ z ≤ 64 ∧ z.tmod 8 = 0
instance (z : Int) : Decidable (okS z) := by unfold okS; infer_instance
def isC (a b c : Int) : Prop := (a = 8 ∧ b = 8 ∧ c = 8) ∨ (a = 16 ∧ b = 16 ∧ c = 4) ∨ (a = 24 ∧ b = 8 ∧ c = 2) ∨ (a = 32 ∧ b = 32 ∧ c = 2) ∨ (a = 40 ∧ b = 8 ∧ c = 1) ∨ (a = 48 ∧ b = 16 ∧ c = 1) ∨ (a = 56 ∧ b = 8 ∧ c = 1) ∨ (a = 64 ∧ b = 64 ∧ c = 1)
theorem okS_cases {z : Int} (h : okS z) : z = 8 ∨ z = 16 ∨ z = 24 ∨ z = 32 ∨ z = 40 ∨ z = 48 ∨ z = 56 ∨ z = 64 := by
  obtain ⟨h1, h2, h3⟩ := h
  rw [Int.tmod_eq_emod_of_nonneg (by omega)] at h3
  omega
theorem isC_of (k : Nat) {a b c : Int} (h :  (match k with | 0 => a = 8 ∧ b = 8 ∧ c = 8 | 1 => a = 16 ∧ b = 16 ∧ c = 4 | 2 => a = 24 ∧ b = 8 ∧ c = 2 | 3 => a = 32 ∧ b = 32 ∧ c = 2 | 4 => a = 40 ∧ b = 8 ∧ c = 1 | 5 => a = 48 ∧ b = 16 ∧ c = 1 | 6 => a = 56 ∧ b = 8 ∧ c = 1 | 7 => a = 64 ∧ b = 64 ∧ c = 1 | _ => False)) : isC a b c := by
  unfold isC
  match k, h with
  | 0, h => exact .inl h
  | 1, h => exact .inr (.inl h)
  | 2, h => exact .inr (.inr (.inl h))
  | 3, h => exact .inr (.inr (.inr (.inl h)))
  | 4, h => exact .inr (.inr (.inr (.inr (.inl h))))
  | 5, h => exact .inr (.inr (.inr (.inr (.inr (.inl h)))))
  | 6, h => exact .inr (.inr (.inr (.inr (.inr (.inr (.inl h))))))
  | 7, h => exact .inr (.inr (.inr (.inr (.inr (.inr (.inr (h)))))))
theorem isC_one {a b c b' c' : Int} (h : isC a b c) (h' : isC a b' c') : b = b' ∧ c = c' := by
  unfold isC at h h'
  omega
/-- What is made of sizes: those of which a class is made. -/
def flt (F : Nat → Int) : Nat → List Int
  | 0 => []
  | i + 1 => if okS (F i) then flt F i ++ [F i] else flt F i
theorem flt_len (F : Nat → Int) : ∀ n, (flt F n).length ≤ n
  | 0 => Nat.le_refl _
  | n + 1 => by
    have := flt_len F n
    unfold flt
    split
    · simp; omega
    · omega
theorem flt_nil {F : Nat → Int} : ∀ {n : Nat}, flt F n = [] → ∀ j, j < n → ¬ okS (F j)
  | 0, _, j, hj => by omega
  | n + 1, h, j, hj => by
    unfold flt at h
    split at h
    · simp at h
    · rename_i hn
      by_cases e : j = n
      · rw [e]; exact hn
      · exact flt_nil h j (by omega)
theorem flt_some {F : Nat → Int} : ∀ {n : Nat}, flt F n ≠ [] → ∃ j, j < n ∧ okS (F j)
  | 0, h => absurd rfl h
  | n + 1, h => by
    unfold flt at h
    split at h
    · rename_i hn
      exact ⟨n, by omega, hn⟩
    · obtain ⟨j, h1, h2⟩ := flt_some h
      exact ⟨j, by omega, h2⟩
theorem flt_low {F : Nat → Int} : ∀ {n : Nat}, (∀ j, j < n → ¬ okS (F j)) → flt F n = []
  | 0, _ => rfl
  | n + 1, h => by
    unfold flt
    rw [if_neg (h n (by omega))]
    exact flt_low fun j hj => h j (by omega)
theorem flt_congr {F G : Nat → Int} : ∀ {n : Nat}, (∀ j, j < n → F j = G j) → flt F n = flt G n
  | 0, _ => rfl
  | n + 1, h => by
    unfold flt
    rw [h n (by omega), flt_congr fun j hj => h j (by omega)]
theorem flt_add (F : Nat → Int) (n : Nat) : ∀ m, flt F (n + m) = flt F n ++ flt (fun j => F (n + j)) m
  | 0 => by simp [flt]
  | m + 1 => by
    rw [← Nat.add_assoc]
    show (if okS (F (n + m)) then flt F (n + m) ++ [F (n + m)] else flt F (n + m)) = flt F n ++ (if okS (F (n + m)) then flt (fun j => F (n + j)) m ++ [F (n + m)] else flt (fun j => F (n + j)) m)
    rw [flt_add F n m]
    split
    · simp
    · rfl
/-- From some rounds on. -/
def fltG (F : Nat → Int) : Nat → Nat → List Int → List Int
  | _, 0, l => l
  | i, m + 1, l => fltG F (i + 1) m (if okS (F i) then l ++ [F i] else l)
theorem fltG_eq (F : Nat → Int) : ∀ (m i : Nat), fltG F i m (flt F i) = flt F (i + m)
  | 0, i => rfl
  | m + 1, i => by
    show fltG F (i + 1) m (flt F (i + 1)) = _
    rw [fltG_eq F m (i + 1), show i + 1 + m = i + (m + 1) by omega]
theorem least {p : Nat → Prop} (h : ∃ j, p j) : ∃ j, p j ∧ ∀ i, i < j → ¬ p i := by
  obtain ⟨j, hj⟩ := h
  induction j using Nat.strongRecOn with
  | _ j ih =>
    by_cases hh : ∃ i, i < j ∧ p i
    · obtain ⟨i, hi, hp⟩ := hh
      exact ih i hi hp
    · exact ⟨j, hj, fun i hi hp => hh ⟨i, hi, hp⟩⟩
/-- A row of classes of these sizes. -/
def RowIs (S : Sy) (ln f : Nat) (l : List Int) : Prop := S.ρ ln = l.length ∧ ∀ j : Nat, j < l.length → isC (S.Φ f [(j : Int)]) (S.Φ (f + 1) [(j : Int)]) (S.Φ (f + 2) [(j : Int)]) ∧ l[j]? = some (S.Φ f [(j : Int)])
theorem RowIs.same {S1 S2 : Sy} {ln f : Nat} {l : List Int} (h : RowIs S1 ln f l) (e : S2.ρ ln = S1.ρ ln) (e0 : ∀ j : Nat, S2.Φ f [(j : Int)] = S1.Φ f [(j : Int)]) (e1 : ∀ j : Nat, S2.Φ (f + 1) [(j : Int)] = S1.Φ (f + 1) [(j : Int)]) (e2 : ∀ j : Nat, S2.Φ (f + 2) [(j : Int)] = S1.Φ (f + 2) [(j : Int)]) : RowIs S2 ln f l :=
  ⟨e.trans h.1, fun j hj => by rw [e0, e1, e2]; exact h.2 j hj⟩
theorem RowIs.upd {S1 S2 : Sy} {ln f : Nat} {l : List Int} {a b c z : Int} (h : RowIs S1 ln f l) (hc : isC a b c) (hz : z = a) (e : S2.ρ ln = S1.ρ ln + 1) (e0 : ∀ j : Nat, S2.Φ f [(j : Int)] = ifE (j : Int) (S1.ρ ln) a (S1.Φ f [(j : Int)])) (e1 : ∀ j : Nat, S2.Φ (f + 1) [(j : Int)] = ifE (j : Int) (S1.ρ ln) b (S1.Φ (f + 1) [(j : Int)]))
    (e2 : ∀ j : Nat, S2.Φ (f + 2) [(j : Int)] = ifE (j : Int) (S1.ρ ln) c (S1.Φ (f + 2) [(j : Int)])) : RowIs S2 ln f (l ++ [z]) := by
  subst hz
  refine ⟨by rw [e, h.1]; simp, fun j hj => ?_⟩
  rw [e0, e1, e2, h.1]
  unfold ifE
  by_cases hjl : j = l.length
  · subst hjl
    rw [if_pos rfl, if_pos rfl, if_pos rfl]
    exact ⟨hc, by simp⟩
  · have hne : ¬ ((j : Nat) : Int) = (l.length : Int) := by omega
    rw [if_neg hne, if_neg hne, if_neg hne]
    simp only [List.length_append, List.length_cons, List.length_nil] at hj
    obtain ⟨q1, q2⟩ := h.2 j (by omega)
    exact ⟨q1, by rw [List.getElem?_append_left (by omega)]; exact q2⟩
theorem RowIs.one {S2 : Sy} {ln f : Nat} {a b c z : Int} (hc : isC a b c) (hz : z = a) (e : S2.ρ ln = 1) (e0 : ∀ j : Nat, S2.Φ f [(j : Int)] = ifE (j : Int) 0 a 0) (e1 : ∀ j : Nat, S2.Φ (f + 1) [(j : Int)] = ifE (j : Int) 0 b 0) (e2 : ∀ j : Nat, S2.Φ (f + 2) [(j : Int)] = ifE (j : Int) 0 c 0) : RowIs S2 ln f [z] := by
  subst hz
  refine ⟨by rw [e]; rfl, fun j hj => ?_⟩
  have hj : j = 0 := by simpa using hj
  subst hj
  rw [e0, e1, e2]
  exact ⟨hc, rfl⟩
theorem stay_weak {vs fs vs' fs' : List Nat} {S T : Sy} (h : Stay vs fs S T) (hv : (vs.all fun v => vs'.any fun u => Nat.beq u v) = true) (hf : (fs.all fun v => fs'.any fun u => Nat.beq u v) = true) : Stay vs' fs' S T := by
  have key : ∀ {xs ys : List Nat} {v : Nat}, (xs.all fun v => ys.any fun u => Nat.beq u v) = true → (ys.any fun u => Nat.beq u v) = false → (xs.any fun u => Nat.beq u v) = false := fun {xs ys v} h1 h2 => by
    cases hb : xs.any fun u => Nat.beq u v with
    | false => rfl
    | true =>
      obtain ⟨u, hu, e⟩ := List.any_eq_true.1 hb
      have := List.all_eq_true.1 h1 u hu
      rw [Nat.eq_of_beq_eq_true e, h2] at this
      simp at this
  exact ⟨h.1, fun v hh => h.2.1 v (key hv hh), fun f hh => h.2.2 f (key hf hh)⟩
theorem ar_cat {S : Sy} {a b : ACode} {g h : Int → Int} (tn : Tm) {n : Int} (hn : tn.den S = some [n]) (ok : tn.ok = true) (ha : Row S a g) (hb : Row S b h) : Row S (.cat a tn.enc b) (fun j => if j < n then g j else h (j - n)) := fun j => by
  show (match ev S tn.enc with | some [n'] => if (j : Int) < n' then aden S a j else aden S b (j - n') | _ => none) = _
  rw [tn.ev_enc S ok, hn]
  dsimp only
  by_cases hj : (j : Int) < n
  · rw [if_pos hj, if_pos hj, ha j]
  · rw [if_neg hj, if_neg hj]
    have := hb (((j : Int) - n).toNat)
    rwa [show ((((j : Int) - n).toNat : Nat) : Int) = (j : Int) - n by omega] at this
def wBN0 : Tm := (.bin .lss (.var .i64 9) (.var .i64 12))
def wBN1 : Tm := (.bin .geq (.var .i64 9) (.lit .i64 0))
def wBN2 : Tm := (.bin .geq (.app .i64 50 (.cons (.var .i64 9) .nil)) (.lit .i64 8))
def wBN3 : Tm := (.bin .leq (.app .i64 50 (.cons (.var .i64 9) .nil)) (.lit .i64 64))
def wBN4 : Tm := (.bin .eql (.bin .rem (.app .i64 50 (.cons (.var .i64 9) .nil)) (.lit .i64 8)) (.lit .i64 0))
theorem nilBN {S1 : Sy} (h0 : 0 ≤ S1.ρ 9) (h1 : S1.ρ 9 < S1.ρ 12) (h2 : S1.ρ 12 ≤ 4096) (hv : ¬ okS (S1.Φ 50 [S1.ρ 9])) (hK : ∀ x ∈ S1.I, x.f + x.ks.length ≤ 50) : ∃ S2, StepTo Try.prog ftW ΛW [] (cAt Try.prog lpWM) XB0W FAW 3 S1 S2 ∧ S2.ρ 9 = S1.ρ 9 + 1 ∧ Stay [9] [] S1 S2 := by
  have hcs : ∀ c ∈ ([] : List Ctr), CtrOk Try.prog S1 [] c := fun c hc => by simp at hc
  have c0 : S1.ρ 9 < S1.ρ 12 := by omega
  have d0 : wBN0.den S1 = some [b2i true] := tr (p := S1.ρ 9 < S1.ρ 12) c0
  have c1 : ¬ (S1.ρ 9 < (0 : Int)) := by omega
  have d1 : wBN1.den S1 = some [b2i true] := tr (p := (0 : Int) ≤ S1.ρ 9) (Int.not_lt.1 c1)
  by_cases c2 : (S1.Φ 50 [S1.ρ 9]) < (8 : Int)
  · have d2 : wBN2.den S1 = some [b2i false] := fls (p := (8 : Int) ≤ (S1.Φ 50 [S1.ρ 9])) (Int.not_le.2 c2)
    obtain ⟨o9, h_o9⟩ : ∃ o : Int, o = (IntKind.i64.wrap (S1.ρ 9 + (1 : Int))) := ⟨_, rfl⟩
    have u := h_o9
    rw [w_i64 (by omega) (by omega)] at u
    exact ⟨S1.set (upd S1.ρ [(9, o9)]) [] 50 rfl hK, ⟨_, [], _, 1000, _, [], (ai wBN2 false d2 (ai wBN1 true d1 (ai wBN0 true d0 (AlOk.nil _)))), hcs, LkOk.no _ _ _ _, (av 12 .i64 (av 12 .i64 (an 9 (.bin .add (.var .i64 9) (.lit .i64 1)) (sm h_o9.symm) (av 12 .i64 (ar 50 (ar_var 50) (asg_nil rfl)))))), fun G => by kernel_rfl⟩, (show o9 = S1.ρ 9 + 1 by omega), (Stay.refl [9] [] _).set rfl rfl⟩
  · have d2 : wBN2.den S1 = some [b2i true] := tr (p := (8 : Int) ≤ (S1.Φ 50 [S1.ρ 9])) (Int.not_lt.1 c2)
    by_cases c3 : (64 : Int) < (S1.Φ 50 [S1.ρ 9])
    · have d3 : wBN3.den S1 = some [b2i false] := fls (p := (S1.Φ 50 [S1.ρ 9]) ≤ (64 : Int)) (Int.not_le.2 c3)
      obtain ⟨o9, h_o9⟩ : ∃ o : Int, o = (IntKind.i64.wrap (S1.ρ 9 + (1 : Int))) := ⟨_, rfl⟩
      have u := h_o9
      rw [w_i64 (by omega) (by omega)] at u
      exact ⟨S1.set (upd S1.ρ [(9, o9)]) [] 50 rfl hK, ⟨_, [], _, 1000, _, [], (ai wBN3 false d3 (ai wBN2 true d2 (ai wBN1 true d1 (ai wBN0 true d0 (AlOk.nil _))))), hcs, LkOk.no _ _ _ _, (av 12 .i64 (av 12 .i64 (an 9 (.bin .add (.var .i64 9) (.lit .i64 1)) (sm h_o9.symm) (av 12 .i64 (ar 50 (ar_var 50) (asg_nil rfl)))))), fun G => by kernel_rfl⟩, (show o9 = S1.ρ 9 + 1 by omega), (Stay.refl [9] [] _).set rfl rfl⟩
    · have d3 : wBN3.den S1 = some [b2i true] := tr (p := (S1.Φ 50 [S1.ρ 9]) ≤ (64 : Int)) (Int.not_lt.1 c3)
      have c4 : ¬ ((((S1.Φ 50 [S1.ρ 9])).tmod (8 : Int)) = (0 : Int)) := by intro hh; exact hv ⟨by omega, by omega, hh⟩
      have d4 : wBN4.den S1 = some [b2i false] := fls (p := (((S1.Φ 50 [S1.ρ 9])).tmod (8 : Int)) = (0 : Int)) c4
      obtain ⟨o9, h_o9⟩ : ∃ o : Int, o = (IntKind.i64.wrap (S1.ρ 9 + (1 : Int))) := ⟨_, rfl⟩
      have u := h_o9
      rw [w_i64 (by omega) (by omega)] at u
      exact ⟨S1.set (upd S1.ρ [(9, o9)]) [] 50 rfl hK, ⟨_, [], _, 1000, _, [], (ai wBN4 false d4 (ai wBN3 true d3 (ai wBN2 true d2 (ai wBN1 true d1 (ai wBN0 true d0 (AlOk.nil _)))))), hcs, LkOk.no _ _ _ _, (av 12 .i64 (av 12 .i64 (an 9 (.bin .add (.var .i64 9) (.lit .i64 1)) (sm h_o9.symm) (av 12 .i64 (ar 50 (ar_var 50) (asg_nil rfl)))))), fun G => by kernel_rfl⟩, (show o9 = S1.ρ 9 + 1 by omega), (Stay.refl [9] [] _).set rfl rfl⟩
theorem chainBN : ∀ (m : Nat) (S0 : Sy), 0 ≤ S0.ρ 9 → S0.ρ 9 + m ≤ S0.ρ 12 → S0.ρ 12 ≤ 4096 → (∀ j : Nat, j < m → ¬ okS (S0.Φ 50 [S0.ρ 9 + j])) → (∀ x ∈ S0.I, x.f + x.ks.length ≤ 50) →
    ∃ Sa, Chain (StepTo Try.prog ftW ΛW [] (cAt Try.prog lpWM) XB0W FAW 3) m S0 Sa ∧ Sa.ρ 9 = S0.ρ 9 + m ∧ Stay [9] [] S0 Sa
  | 0, S0, _, _, _, _, _ => ⟨S0, .nil _, by simp, Stay.refl _ _ _⟩
  | m + 1, S0, h0, h1, h2, hv, hK => by
    obtain ⟨S2, st, e4, y⟩ := nilBN h0 (by omega) h2 (by have := hv 0 (by omega); simpa using this) hK
    have e1 := y.num 12 rfl
    obtain ⟨Sa, ch, f4, z⟩ := chainBN m S2 (by omega) (by omega) (by omega) (fun j hj => by
      have := hv (j + 1) (by omega)
      rw [y.fn 50 rfl, e4]
      rwa [show S0.ρ 9 + 1 + (j : Int) = S0.ρ 9 + ((j + 1 : Nat) : Int) by omega]) (by rw [y.1]; exact hK)
    exact ⟨Sa, .cons st ch, by omega, stay_weak (y.trans z) rfl rfl⟩
def wBR0 : Tm := (.bin .lss (.var .i64 9) (.var .i64 12))
def wBR1 : Tm := (.bin .geq (.var .i64 9) (.lit .i64 0))
def wBR2 : Tm := (.bin .geq (.app .i64 50 (.cons (.var .i64 9) .nil)) (.lit .i64 8))
def wBR3 : Tm := (.bin .leq (.app .i64 50 (.cons (.var .i64 9) .nil)) (.lit .i64 64))
def wBR4 : Tm := (.bin .eql (.bin .rem (.app .i64 50 (.cons (.var .i64 9) .nil)) (.lit .i64 8)) (.lit .i64 0))
theorem nilBR {S1 : Sy} (h0 : 0 ≤ S1.ρ 9) (h1 : S1.ρ 9 < S1.ρ 12) (h2 : S1.ρ 12 ≤ 4096) (hv : ¬ okS (S1.Φ 50 [S1.ρ 9])) (hK : ∀ x ∈ S1.I, x.f + x.ks.length ≤ 50) : ∃ S2, StepTo Try.prog ftW ΛW [] (cAt Try.prog lpWM) XB0W F1rW 3 S1 S2 ∧ S2.ρ 9 = S1.ρ 9 + 1 ∧ Stay [9] [] S1 S2 := by
  have hcs : ∀ c ∈ ([] : List Ctr), CtrOk Try.prog S1 [] c := fun c hc => by simp at hc
  have c0 : S1.ρ 9 < S1.ρ 12 := by omega
  have d0 : wBR0.den S1 = some [b2i true] := tr (p := S1.ρ 9 < S1.ρ 12) c0
  have c1 : ¬ (S1.ρ 9 < (0 : Int)) := by omega
  have d1 : wBR1.den S1 = some [b2i true] := tr (p := (0 : Int) ≤ S1.ρ 9) (Int.not_lt.1 c1)
  by_cases c2 : (S1.Φ 50 [S1.ρ 9]) < (8 : Int)
  · have d2 : wBR2.den S1 = some [b2i false] := fls (p := (8 : Int) ≤ (S1.Φ 50 [S1.ρ 9])) (Int.not_le.2 c2)
    obtain ⟨o9, h_o9⟩ : ∃ o : Int, o = (IntKind.i64.wrap (S1.ρ 9 + (1 : Int))) := ⟨_, rfl⟩
    have u := h_o9
    rw [w_i64 (by omega) (by omega)] at u
    exact ⟨S1.set (upd S1.ρ [(9, o9)]) [] 50 rfl hK, ⟨_, [], _, 1000, _, [], (ai wBR2 false d2 (ai wBR1 true d1 (ai wBR0 true d0 (AlOk.nil _)))), hcs, LkOk.no _ _ _ _, (av 12 .i64 (av 12 .i64 (an 9 (.bin .add (.var .i64 9) (.lit .i64 1)) (sm h_o9.symm) (av 12 .i64 (ar 50 (ar_var 50) (asg_nil rfl)))))), fun G => by kernel_rfl⟩, (show o9 = S1.ρ 9 + 1 by omega), (Stay.refl [9] [] _).set rfl rfl⟩
  · have d2 : wBR2.den S1 = some [b2i true] := tr (p := (8 : Int) ≤ (S1.Φ 50 [S1.ρ 9])) (Int.not_lt.1 c2)
    by_cases c3 : (64 : Int) < (S1.Φ 50 [S1.ρ 9])
    · have d3 : wBR3.den S1 = some [b2i false] := fls (p := (S1.Φ 50 [S1.ρ 9]) ≤ (64 : Int)) (Int.not_le.2 c3)
      obtain ⟨o9, h_o9⟩ : ∃ o : Int, o = (IntKind.i64.wrap (S1.ρ 9 + (1 : Int))) := ⟨_, rfl⟩
      have u := h_o9
      rw [w_i64 (by omega) (by omega)] at u
      exact ⟨S1.set (upd S1.ρ [(9, o9)]) [] 50 rfl hK, ⟨_, [], _, 1000, _, [], (ai wBR3 false d3 (ai wBR2 true d2 (ai wBR1 true d1 (ai wBR0 true d0 (AlOk.nil _))))), hcs, LkOk.no _ _ _ _, (av 12 .i64 (av 12 .i64 (an 9 (.bin .add (.var .i64 9) (.lit .i64 1)) (sm h_o9.symm) (av 12 .i64 (ar 50 (ar_var 50) (asg_nil rfl)))))), fun G => by kernel_rfl⟩, (show o9 = S1.ρ 9 + 1 by omega), (Stay.refl [9] [] _).set rfl rfl⟩
    · have d3 : wBR3.den S1 = some [b2i true] := tr (p := (S1.Φ 50 [S1.ρ 9]) ≤ (64 : Int)) (Int.not_lt.1 c3)
      have c4 : ¬ ((((S1.Φ 50 [S1.ρ 9])).tmod (8 : Int)) = (0 : Int)) := by intro hh; exact hv ⟨by omega, by omega, hh⟩
      have d4 : wBR4.den S1 = some [b2i false] := fls (p := (((S1.Φ 50 [S1.ρ 9])).tmod (8 : Int)) = (0 : Int)) c4
      obtain ⟨o9, h_o9⟩ : ∃ o : Int, o = (IntKind.i64.wrap (S1.ρ 9 + (1 : Int))) := ⟨_, rfl⟩
      have u := h_o9
      rw [w_i64 (by omega) (by omega)] at u
      exact ⟨S1.set (upd S1.ρ [(9, o9)]) [] 50 rfl hK, ⟨_, [], _, 1000, _, [], (ai wBR4 false d4 (ai wBR3 true d3 (ai wBR2 true d2 (ai wBR1 true d1 (ai wBR0 true d0 (AlOk.nil _)))))), hcs, LkOk.no _ _ _ _, (av 12 .i64 (av 12 .i64 (an 9 (.bin .add (.var .i64 9) (.lit .i64 1)) (sm h_o9.symm) (av 12 .i64 (ar 50 (ar_var 50) (asg_nil rfl)))))), fun G => by kernel_rfl⟩, (show o9 = S1.ρ 9 + 1 by omega), (Stay.refl [9] [] _).set rfl rfl⟩
theorem chainBR : ∀ (m : Nat) (S0 : Sy), 0 ≤ S0.ρ 9 → S0.ρ 9 + m ≤ S0.ρ 12 → S0.ρ 12 ≤ 4096 → (∀ j : Nat, j < m → ¬ okS (S0.Φ 50 [S0.ρ 9 + j])) → (∀ x ∈ S0.I, x.f + x.ks.length ≤ 50) →
    ∃ Sa, Chain (StepTo Try.prog ftW ΛW [] (cAt Try.prog lpWM) XB0W F1rW 3) m S0 Sa ∧ Sa.ρ 9 = S0.ρ 9 + m ∧ Stay [9] [] S0 Sa
  | 0, S0, _, _, _, _, _ => ⟨S0, .nil _, by simp, Stay.refl _ _ _⟩
  | m + 1, S0, h0, h1, h2, hv, hK => by
    obtain ⟨S2, st, e4, y⟩ := nilBR h0 (by omega) h2 (by have := hv 0 (by omega); simpa using this) hK
    have e1 := y.num 12 rfl
    obtain ⟨Sa, ch, f4, z⟩ := chainBR m S2 (by omega) (by omega) (by omega) (fun j hj => by
      have := hv (j + 1) (by omega)
      rw [y.fn 50 rfl, e4]
      rwa [show S0.ρ 9 + 1 + (j : Int) = S0.ρ 9 + ((j + 1 : Nat) : Int) by omega]) (by rw [y.1]; exact hK)
    exact ⟨Sa, .cons st ch, by omega, stay_weak (y.trans z) rfl rfl⟩
def wONB0 : Tm := (.bin .lss (.var .i64 9) (.var .i64 12))
theorem outBN {S1 T : Sy} (h1 : S1.ρ 9 = S1.ρ 12) (hT : Same [] [] S1 T) : StepOut Try.prog ftW ΛW [] (cAt Try.prog lpWM) XB0W FAW (.exit 0) 3 S1 T := by
  have hcs : ∀ c ∈ ([] : List Ctr), CtrOk Try.prog S1 [] c := fun c hc => by simp at hc
  have c0 : ¬ (S1.ρ 9 < S1.ρ 12) := by omega
  have d0 : wONB0.den S1 = some [b2i false] := fls (p := S1.ρ 9 < S1.ρ 12) c0
  exact ⟨_, [], _, 1000, _, [], (ai wONB0 false d0 (AlOk.nil _)), hcs, LkOk.no _ _ _ _, (asg_nil hT.1), fun G => by kernel_rfl⟩
theorem loopBN (S0 : Sy) (n : Nat) (hn : n ≤ 4096) (hi : S0.ρ 9 = 0) (hb : S0.ρ 12 = n) (hv : flt (fun j => S0.Φ 50 [(j : Int)]) n = []) (hK : ∀ x ∈ S0.I, x.f + x.ks.length ≤ 50) :
    ∃ Sf, Stay [9] [] S0 Sf ∧ ∀ T asg0, Same [] [] Sf T → AsgOk T S0 asg0 → LkAt Try.prog T [] (.loop (cAt Try.prog lpWM)) (lkLoopR Try.prog 3 [] XB0W FAW (.exit 0) asg0) := by
  obtain ⟨Sf, ch, e, y⟩ := chainBN n S0 (by omega) (by omega) (by omega) (fun j hj => by rw [hi, Int.zero_add]; exact flt_nil hv j hj) hK
  have y1 := y.num 12 rfl
  exact ⟨Sf, y, fun T asg0 hs ha => loop_chain envW (ann_self _) fineWM (show XB0W.N = FAW.N from rfl) (Nat.le_of_ble_eq_true rfl) ch (outBN (by omega) hs) ha⟩
def wXB8_0 : Tm := (.bin .lss (.var .i64 9) (.var .i64 12))
def wXB8_1 : Tm := (.bin .geq (.var .i64 9) (.lit .i64 0))
def wXB16_0 : Tm := (.bin .lss (.var .i64 9) (.var .i64 12))
def wXB16_1 : Tm := (.bin .geq (.var .i64 9) (.lit .i64 0))
def wXB24_0 : Tm := (.bin .lss (.var .i64 9) (.var .i64 12))
def wXB24_1 : Tm := (.bin .geq (.var .i64 9) (.lit .i64 0))
def wXB32_0 : Tm := (.bin .lss (.var .i64 9) (.var .i64 12))
def wXB32_1 : Tm := (.bin .geq (.var .i64 9) (.lit .i64 0))
def wXB40_0 : Tm := (.bin .lss (.var .i64 9) (.var .i64 12))
def wXB40_1 : Tm := (.bin .geq (.var .i64 9) (.lit .i64 0))
def wXB48_0 : Tm := (.bin .lss (.var .i64 9) (.var .i64 12))
def wXB48_1 : Tm := (.bin .geq (.var .i64 9) (.lit .i64 0))
def wXB56_0 : Tm := (.bin .lss (.var .i64 9) (.var .i64 12))
def wXB56_1 : Tm := (.bin .geq (.var .i64 9) (.lit .i64 0))
def wXB64_0 : Tm := (.bin .lss (.var .i64 9) (.var .i64 12))
def wXB64_1 : Tm := (.bin .geq (.var .i64 9) (.lit .i64 0))
theorem crossB {S1 : Sy} (h0 : 0 ≤ S1.ρ 9) (h1 : S1.ρ 9 < S1.ρ 12) (h2 : S1.ρ 12 ≤ 4096) (hv : okS (S1.Φ 50 [S1.ρ 9])) (hK : ∀ x ∈ S1.I, x.f + x.ks.length ≤ 50) :
    ∃ S2, StepX Try.prog ftW ΛW [] (cAt Try.prog lpWM) XB0W XB1W F1rW 3 S1 S2 ∧ S2.ρ 9 = S1.ρ 9 + 1 ∧ RowIs S2 8 60 [S1.Φ 50 [S1.ρ 9]] ∧ Stay [9, 8] [60, 61, 62] S1 S2 := by
  have hcs : ∀ c ∈ ([] : List Ctr), CtrOk Try.prog S1 [] c := fun c hc => by simp at hc
  rcases okS_cases hv with hk | hk | hk | hk | hk | hk | hk | hk
  · have c0 : S1.ρ 9 < S1.ρ 12 := by omega
    have d0 : wXB8_0.den S1 = some [b2i true] := tr (p := S1.ρ 9 < S1.ρ 12) c0
    have c1 : ¬ (S1.ρ 9 < (0 : Int)) := by omega
    have d1 : wXB8_1.den S1 = some [b2i true] := tr (p := (0 : Int) ≤ S1.ρ 9) (Int.not_lt.1 c1)
    obtain ⟨o8, h_o8⟩ : ∃ o : Int, o = (1 : Int) := ⟨_, rfl⟩
    obtain ⟨o9, h_o9⟩ : ∃ o : Int, o = (IntKind.i64.wrap (S1.ρ 9 + (1 : Int))) := ⟨_, rfl⟩
    have u := h_o9
    rw [w_i64 (by omega) (by omega)] at u
    exact ⟨S1.set (upd S1.ρ [(8, o8), (9, o9)]) [(60, (fun j => ifE j ((0 : Int)) ((8 : Int)) ((fun _ => 0) j))), (61, (fun j => ifE j ((0 : Int)) ((8 : Int)) ((fun _ => 0) j))), (62, (fun j => ifE j ((0 : Int)) ((8 : Int)) ((fun _ => 0) j)))] 50 rfl hK, ⟨_, [], _, 1000, _, [(3, 6)], (ai wXB8_1 true d1 (ai wXB8_0 true d0 (ain (sqW 50 9) .i64 8 (sm hk) (AlOk.nil _)))), hcs, LkOk.no _ _ _ _, (an 8 (.lit .i64 1) (sm h_o8.symm) (av 12 .i64 (av 12 .i64 (an 9 (.bin .add (.var .i64 9) (.lit .i64 1)) (sm h_o9.symm) (av 12 .i64 (ar 50 (ar_var 50) (an 8 (.lit .i64 1) (sm h_o8.symm) (ar 60 (ar_upd (.lit .i64 0) (.lit .i64 8) (i := (0 : Int)) (v := (8 : Int)) rfl rfl (by kernel_rfl) ar_zero) (ar 61 (ar_upd (.lit .i64 0) (.lit .i64 8) (i := (0 : Int)) (v := (8 : Int)) rfl rfl (by kernel_rfl) ar_zero) (ar 62 (ar_upd (.lit .i64 0) (.lit .i64 8) (i := (0 : Int)) (v := (8 : Int)) rfl rfl (by kernel_rfl) ar_zero) (asg_nil rfl))))))))))), fun G => by kernel_rfl⟩, (show o9 = S1.ρ 9 + 1 by omega), RowIs.one (isC_of 0 ⟨rfl, rfl, rfl⟩) hk h_o8 (fun _ => rfl) (fun _ => rfl) (fun _ => rfl), (Stay.refl [9, 8] [60, 61, 62] _).set rfl rfl⟩
  · have c0 : S1.ρ 9 < S1.ρ 12 := by omega
    have d0 : wXB16_0.den S1 = some [b2i true] := tr (p := S1.ρ 9 < S1.ρ 12) c0
    have c1 : ¬ (S1.ρ 9 < (0 : Int)) := by omega
    have d1 : wXB16_1.den S1 = some [b2i true] := tr (p := (0 : Int) ≤ S1.ρ 9) (Int.not_lt.1 c1)
    obtain ⟨o8, h_o8⟩ : ∃ o : Int, o = (1 : Int) := ⟨_, rfl⟩
    obtain ⟨o9, h_o9⟩ : ∃ o : Int, o = (IntKind.i64.wrap (S1.ρ 9 + (1 : Int))) := ⟨_, rfl⟩
    have u := h_o9
    rw [w_i64 (by omega) (by omega)] at u
    exact ⟨S1.set (upd S1.ρ [(8, o8), (9, o9)]) [(60, (fun j => ifE j ((0 : Int)) ((16 : Int)) ((fun _ => 0) j))), (61, (fun j => ifE j ((0 : Int)) ((16 : Int)) ((fun _ => 0) j))), (62, (fun j => ifE j ((0 : Int)) ((4 : Int)) ((fun _ => 0) j)))] 50 rfl hK, ⟨_, [], _, 1000, _, [(3, 6)], (ai wXB16_1 true d1 (ai wXB16_0 true d0 (ain (sqW 50 9) .i64 16 (sm hk) (AlOk.nil _)))), hcs, LkOk.no _ _ _ _, (an 8 (.lit .i64 1) (sm h_o8.symm) (av 12 .i64 (av 12 .i64 (an 9 (.bin .add (.var .i64 9) (.lit .i64 1)) (sm h_o9.symm) (av 12 .i64 (ar 50 (ar_var 50) (an 8 (.lit .i64 1) (sm h_o8.symm) (ar 60 (ar_upd (.lit .i64 0) (.lit .i64 16) (i := (0 : Int)) (v := (16 : Int)) rfl rfl (by kernel_rfl) ar_zero) (ar 61 (ar_upd (.lit .i64 0) (.lit .i64 16) (i := (0 : Int)) (v := (16 : Int)) rfl rfl (by kernel_rfl) ar_zero) (ar 62 (ar_upd (.lit .i64 0) (.lit .i64 4) (i := (0 : Int)) (v := (4 : Int)) rfl rfl (by kernel_rfl) ar_zero) (asg_nil rfl))))))))))), fun G => by kernel_rfl⟩, (show o9 = S1.ρ 9 + 1 by omega), RowIs.one (isC_of 1 ⟨rfl, rfl, rfl⟩) hk h_o8 (fun _ => rfl) (fun _ => rfl) (fun _ => rfl), (Stay.refl [9, 8] [60, 61, 62] _).set rfl rfl⟩
  · have c0 : S1.ρ 9 < S1.ρ 12 := by omega
    have d0 : wXB24_0.den S1 = some [b2i true] := tr (p := S1.ρ 9 < S1.ρ 12) c0
    have c1 : ¬ (S1.ρ 9 < (0 : Int)) := by omega
    have d1 : wXB24_1.den S1 = some [b2i true] := tr (p := (0 : Int) ≤ S1.ρ 9) (Int.not_lt.1 c1)
    obtain ⟨o8, h_o8⟩ : ∃ o : Int, o = (1 : Int) := ⟨_, rfl⟩
    obtain ⟨o9, h_o9⟩ : ∃ o : Int, o = (IntKind.i64.wrap (S1.ρ 9 + (1 : Int))) := ⟨_, rfl⟩
    have u := h_o9
    rw [w_i64 (by omega) (by omega)] at u
    exact ⟨S1.set (upd S1.ρ [(8, o8), (9, o9)]) [(60, (fun j => ifE j ((0 : Int)) ((24 : Int)) ((fun _ => 0) j))), (61, (fun j => ifE j ((0 : Int)) ((8 : Int)) ((fun _ => 0) j))), (62, (fun j => ifE j ((0 : Int)) ((2 : Int)) ((fun _ => 0) j)))] 50 rfl hK, ⟨_, [], _, 1000, _, [(3, 6)], (ai wXB24_1 true d1 (ai wXB24_0 true d0 (ain (sqW 50 9) .i64 24 (sm hk) (AlOk.nil _)))), hcs, LkOk.no _ _ _ _, (an 8 (.lit .i64 1) (sm h_o8.symm) (av 12 .i64 (av 12 .i64 (an 9 (.bin .add (.var .i64 9) (.lit .i64 1)) (sm h_o9.symm) (av 12 .i64 (ar 50 (ar_var 50) (an 8 (.lit .i64 1) (sm h_o8.symm) (ar 60 (ar_upd (.lit .i64 0) (.lit .i64 24) (i := (0 : Int)) (v := (24 : Int)) rfl rfl (by kernel_rfl) ar_zero) (ar 61 (ar_upd (.lit .i64 0) (.lit .i64 8) (i := (0 : Int)) (v := (8 : Int)) rfl rfl (by kernel_rfl) ar_zero) (ar 62 (ar_upd (.lit .i64 0) (.lit .i64 2) (i := (0 : Int)) (v := (2 : Int)) rfl rfl (by kernel_rfl) ar_zero) (asg_nil rfl))))))))))), fun G => by kernel_rfl⟩, (show o9 = S1.ρ 9 + 1 by omega), RowIs.one (isC_of 2 ⟨rfl, rfl, rfl⟩) hk h_o8 (fun _ => rfl) (fun _ => rfl) (fun _ => rfl), (Stay.refl [9, 8] [60, 61, 62] _).set rfl rfl⟩
  · have c0 : S1.ρ 9 < S1.ρ 12 := by omega
    have d0 : wXB32_0.den S1 = some [b2i true] := tr (p := S1.ρ 9 < S1.ρ 12) c0
    have c1 : ¬ (S1.ρ 9 < (0 : Int)) := by omega
    have d1 : wXB32_1.den S1 = some [b2i true] := tr (p := (0 : Int) ≤ S1.ρ 9) (Int.not_lt.1 c1)
    obtain ⟨o8, h_o8⟩ : ∃ o : Int, o = (1 : Int) := ⟨_, rfl⟩
    obtain ⟨o9, h_o9⟩ : ∃ o : Int, o = (IntKind.i64.wrap (S1.ρ 9 + (1 : Int))) := ⟨_, rfl⟩
    have u := h_o9
    rw [w_i64 (by omega) (by omega)] at u
    exact ⟨S1.set (upd S1.ρ [(8, o8), (9, o9)]) [(60, (fun j => ifE j ((0 : Int)) ((32 : Int)) ((fun _ => 0) j))), (61, (fun j => ifE j ((0 : Int)) ((32 : Int)) ((fun _ => 0) j))), (62, (fun j => ifE j ((0 : Int)) ((2 : Int)) ((fun _ => 0) j)))] 50 rfl hK, ⟨_, [], _, 1000, _, [(3, 6)], (ai wXB32_1 true d1 (ai wXB32_0 true d0 (ain (sqW 50 9) .i64 32 (sm hk) (AlOk.nil _)))), hcs, LkOk.no _ _ _ _, (an 8 (.lit .i64 1) (sm h_o8.symm) (av 12 .i64 (av 12 .i64 (an 9 (.bin .add (.var .i64 9) (.lit .i64 1)) (sm h_o9.symm) (av 12 .i64 (ar 50 (ar_var 50) (an 8 (.lit .i64 1) (sm h_o8.symm) (ar 60 (ar_upd (.lit .i64 0) (.lit .i64 32) (i := (0 : Int)) (v := (32 : Int)) rfl rfl (by kernel_rfl) ar_zero) (ar 61 (ar_upd (.lit .i64 0) (.lit .i64 32) (i := (0 : Int)) (v := (32 : Int)) rfl rfl (by kernel_rfl) ar_zero) (ar 62 (ar_upd (.lit .i64 0) (.lit .i64 2) (i := (0 : Int)) (v := (2 : Int)) rfl rfl (by kernel_rfl) ar_zero) (asg_nil rfl))))))))))), fun G => by kernel_rfl⟩, (show o9 = S1.ρ 9 + 1 by omega), RowIs.one (isC_of 3 ⟨rfl, rfl, rfl⟩) hk h_o8 (fun _ => rfl) (fun _ => rfl) (fun _ => rfl), (Stay.refl [9, 8] [60, 61, 62] _).set rfl rfl⟩
  · have c0 : S1.ρ 9 < S1.ρ 12 := by omega
    have d0 : wXB40_0.den S1 = some [b2i true] := tr (p := S1.ρ 9 < S1.ρ 12) c0
    have c1 : ¬ (S1.ρ 9 < (0 : Int)) := by omega
    have d1 : wXB40_1.den S1 = some [b2i true] := tr (p := (0 : Int) ≤ S1.ρ 9) (Int.not_lt.1 c1)
    obtain ⟨o8, h_o8⟩ : ∃ o : Int, o = (1 : Int) := ⟨_, rfl⟩
    obtain ⟨o9, h_o9⟩ : ∃ o : Int, o = (IntKind.i64.wrap (S1.ρ 9 + (1 : Int))) := ⟨_, rfl⟩
    have u := h_o9
    rw [w_i64 (by omega) (by omega)] at u
    exact ⟨S1.set (upd S1.ρ [(8, o8), (9, o9)]) [(60, (fun j => ifE j ((0 : Int)) ((40 : Int)) ((fun _ => 0) j))), (61, (fun j => ifE j ((0 : Int)) ((8 : Int)) ((fun _ => 0) j))), (62, (fun j => ifE j ((0 : Int)) ((1 : Int)) ((fun _ => 0) j)))] 50 rfl hK, ⟨_, [], _, 1000, _, [(3, 6)], (ai wXB40_1 true d1 (ai wXB40_0 true d0 (ain (sqW 50 9) .i64 40 (sm hk) (AlOk.nil _)))), hcs, LkOk.no _ _ _ _, (an 8 (.lit .i64 1) (sm h_o8.symm) (av 12 .i64 (av 12 .i64 (an 9 (.bin .add (.var .i64 9) (.lit .i64 1)) (sm h_o9.symm) (av 12 .i64 (ar 50 (ar_var 50) (an 8 (.lit .i64 1) (sm h_o8.symm) (ar 60 (ar_upd (.lit .i64 0) (.lit .i64 40) (i := (0 : Int)) (v := (40 : Int)) rfl rfl (by kernel_rfl) ar_zero) (ar 61 (ar_upd (.lit .i64 0) (.lit .i64 8) (i := (0 : Int)) (v := (8 : Int)) rfl rfl (by kernel_rfl) ar_zero) (ar 62 (ar_upd (.lit .i64 0) (.lit .i64 1) (i := (0 : Int)) (v := (1 : Int)) rfl rfl (by kernel_rfl) ar_zero) (asg_nil rfl))))))))))), fun G => by kernel_rfl⟩, (show o9 = S1.ρ 9 + 1 by omega), RowIs.one (isC_of 4 ⟨rfl, rfl, rfl⟩) hk h_o8 (fun _ => rfl) (fun _ => rfl) (fun _ => rfl), (Stay.refl [9, 8] [60, 61, 62] _).set rfl rfl⟩
  · have c0 : S1.ρ 9 < S1.ρ 12 := by omega
    have d0 : wXB48_0.den S1 = some [b2i true] := tr (p := S1.ρ 9 < S1.ρ 12) c0
    have c1 : ¬ (S1.ρ 9 < (0 : Int)) := by omega
    have d1 : wXB48_1.den S1 = some [b2i true] := tr (p := (0 : Int) ≤ S1.ρ 9) (Int.not_lt.1 c1)
    obtain ⟨o8, h_o8⟩ : ∃ o : Int, o = (1 : Int) := ⟨_, rfl⟩
    obtain ⟨o9, h_o9⟩ : ∃ o : Int, o = (IntKind.i64.wrap (S1.ρ 9 + (1 : Int))) := ⟨_, rfl⟩
    have u := h_o9
    rw [w_i64 (by omega) (by omega)] at u
    exact ⟨S1.set (upd S1.ρ [(8, o8), (9, o9)]) [(60, (fun j => ifE j ((0 : Int)) ((48 : Int)) ((fun _ => 0) j))), (61, (fun j => ifE j ((0 : Int)) ((16 : Int)) ((fun _ => 0) j))), (62, (fun j => ifE j ((0 : Int)) ((1 : Int)) ((fun _ => 0) j)))] 50 rfl hK, ⟨_, [], _, 1000, _, [(3, 6)], (ai wXB48_1 true d1 (ai wXB48_0 true d0 (ain (sqW 50 9) .i64 48 (sm hk) (AlOk.nil _)))), hcs, LkOk.no _ _ _ _, (an 8 (.lit .i64 1) (sm h_o8.symm) (av 12 .i64 (av 12 .i64 (an 9 (.bin .add (.var .i64 9) (.lit .i64 1)) (sm h_o9.symm) (av 12 .i64 (ar 50 (ar_var 50) (an 8 (.lit .i64 1) (sm h_o8.symm) (ar 60 (ar_upd (.lit .i64 0) (.lit .i64 48) (i := (0 : Int)) (v := (48 : Int)) rfl rfl (by kernel_rfl) ar_zero) (ar 61 (ar_upd (.lit .i64 0) (.lit .i64 16) (i := (0 : Int)) (v := (16 : Int)) rfl rfl (by kernel_rfl) ar_zero) (ar 62 (ar_upd (.lit .i64 0) (.lit .i64 1) (i := (0 : Int)) (v := (1 : Int)) rfl rfl (by kernel_rfl) ar_zero) (asg_nil rfl))))))))))), fun G => by kernel_rfl⟩, (show o9 = S1.ρ 9 + 1 by omega), RowIs.one (isC_of 5 ⟨rfl, rfl, rfl⟩) hk h_o8 (fun _ => rfl) (fun _ => rfl) (fun _ => rfl), (Stay.refl [9, 8] [60, 61, 62] _).set rfl rfl⟩
  · have c0 : S1.ρ 9 < S1.ρ 12 := by omega
    have d0 : wXB56_0.den S1 = some [b2i true] := tr (p := S1.ρ 9 < S1.ρ 12) c0
    have c1 : ¬ (S1.ρ 9 < (0 : Int)) := by omega
    have d1 : wXB56_1.den S1 = some [b2i true] := tr (p := (0 : Int) ≤ S1.ρ 9) (Int.not_lt.1 c1)
    obtain ⟨o8, h_o8⟩ : ∃ o : Int, o = (1 : Int) := ⟨_, rfl⟩
    obtain ⟨o9, h_o9⟩ : ∃ o : Int, o = (IntKind.i64.wrap (S1.ρ 9 + (1 : Int))) := ⟨_, rfl⟩
    have u := h_o9
    rw [w_i64 (by omega) (by omega)] at u
    exact ⟨S1.set (upd S1.ρ [(8, o8), (9, o9)]) [(60, (fun j => ifE j ((0 : Int)) ((56 : Int)) ((fun _ => 0) j))), (61, (fun j => ifE j ((0 : Int)) ((8 : Int)) ((fun _ => 0) j))), (62, (fun j => ifE j ((0 : Int)) ((1 : Int)) ((fun _ => 0) j)))] 50 rfl hK, ⟨_, [], _, 1000, _, [(3, 6)], (ai wXB56_1 true d1 (ai wXB56_0 true d0 (ain (sqW 50 9) .i64 56 (sm hk) (AlOk.nil _)))), hcs, LkOk.no _ _ _ _, (an 8 (.lit .i64 1) (sm h_o8.symm) (av 12 .i64 (av 12 .i64 (an 9 (.bin .add (.var .i64 9) (.lit .i64 1)) (sm h_o9.symm) (av 12 .i64 (ar 50 (ar_var 50) (an 8 (.lit .i64 1) (sm h_o8.symm) (ar 60 (ar_upd (.lit .i64 0) (.lit .i64 56) (i := (0 : Int)) (v := (56 : Int)) rfl rfl (by kernel_rfl) ar_zero) (ar 61 (ar_upd (.lit .i64 0) (.lit .i64 8) (i := (0 : Int)) (v := (8 : Int)) rfl rfl (by kernel_rfl) ar_zero) (ar 62 (ar_upd (.lit .i64 0) (.lit .i64 1) (i := (0 : Int)) (v := (1 : Int)) rfl rfl (by kernel_rfl) ar_zero) (asg_nil rfl))))))))))), fun G => by kernel_rfl⟩, (show o9 = S1.ρ 9 + 1 by omega), RowIs.one (isC_of 6 ⟨rfl, rfl, rfl⟩) hk h_o8 (fun _ => rfl) (fun _ => rfl) (fun _ => rfl), (Stay.refl [9, 8] [60, 61, 62] _).set rfl rfl⟩
  · have c0 : S1.ρ 9 < S1.ρ 12 := by omega
    have d0 : wXB64_0.den S1 = some [b2i true] := tr (p := S1.ρ 9 < S1.ρ 12) c0
    have c1 : ¬ (S1.ρ 9 < (0 : Int)) := by omega
    have d1 : wXB64_1.den S1 = some [b2i true] := tr (p := (0 : Int) ≤ S1.ρ 9) (Int.not_lt.1 c1)
    obtain ⟨o8, h_o8⟩ : ∃ o : Int, o = (1 : Int) := ⟨_, rfl⟩
    obtain ⟨o9, h_o9⟩ : ∃ o : Int, o = (IntKind.i64.wrap (S1.ρ 9 + (1 : Int))) := ⟨_, rfl⟩
    have u := h_o9
    rw [w_i64 (by omega) (by omega)] at u
    exact ⟨S1.set (upd S1.ρ [(8, o8), (9, o9)]) [(60, (fun j => ifE j ((0 : Int)) ((64 : Int)) ((fun _ => 0) j))), (61, (fun j => ifE j ((0 : Int)) ((64 : Int)) ((fun _ => 0) j))), (62, (fun j => ifE j ((0 : Int)) ((1 : Int)) ((fun _ => 0) j)))] 50 rfl hK, ⟨_, [], _, 1000, _, [(3, 6)], (ai wXB64_1 true d1 (ai wXB64_0 true d0 (ain (sqW 50 9) .i64 64 (sm hk) (AlOk.nil _)))), hcs, LkOk.no _ _ _ _, (an 8 (.lit .i64 1) (sm h_o8.symm) (av 12 .i64 (av 12 .i64 (an 9 (.bin .add (.var .i64 9) (.lit .i64 1)) (sm h_o9.symm) (av 12 .i64 (ar 50 (ar_var 50) (an 8 (.lit .i64 1) (sm h_o8.symm) (ar 60 (ar_upd (.lit .i64 0) (.lit .i64 64) (i := (0 : Int)) (v := (64 : Int)) rfl rfl (by kernel_rfl) ar_zero) (ar 61 (ar_upd (.lit .i64 0) (.lit .i64 64) (i := (0 : Int)) (v := (64 : Int)) rfl rfl (by kernel_rfl) ar_zero) (ar 62 (ar_upd (.lit .i64 0) (.lit .i64 1) (i := (0 : Int)) (v := (1 : Int)) rfl rfl (by kernel_rfl) ar_zero) (asg_nil rfl))))))))))), fun G => by kernel_rfl⟩, (show o9 = S1.ρ 9 + 1 by omega), RowIs.one (isC_of 7 ⟨rfl, rfl, rfl⟩) hk h_o8 (fun _ => rfl) (fun _ => rfl) (fun _ => rfl), (Stay.refl [9, 8] [60, 61, 62] _).set rfl rfl⟩
def wYB0 : Tm := (.bin .lss (.var .i64 9) (.var .i64 12))
def wYB1 : Tm := (.bin .geq (.var .i64 9) (.lit .i64 0))
def wYB2 : Tm := (.bin .geq (.app .i64 50 (.cons (.var .i64 9) .nil)) (.lit .i64 8))
def wYB3 : Tm := (.bin .leq (.app .i64 50 (.cons (.var .i64 9) .nil)) (.lit .i64 64))
def wYB4 : Tm := (.bin .eql (.bin .rem (.app .i64 50 (.cons (.var .i64 9) .nil)) (.lit .i64 8)) (.lit .i64 0))
def wTB8_0 : Tm := (.bin .lss (.var .i64 9) (.var .i64 12))
def wTB8_1 : Tm := (.bin .geq (.var .i64 9) (.lit .i64 0))
def wTB8_2 : Tm := (.bin .geq (.var .i64 8) (.lit .i64 0))
def wTB8_3 : Tm := (.bin .lss (.var .i64 8) (.lit .i64 4194304))
def wTB8_4 : Tm := (.bin .lss (.bin .add (.var .i64 8) (.lit .i64 1)) (.lit .i64 4194304))
def wTB16_0 : Tm := (.bin .lss (.var .i64 9) (.var .i64 12))
def wTB16_1 : Tm := (.bin .geq (.var .i64 9) (.lit .i64 0))
def wTB16_2 : Tm := (.bin .geq (.var .i64 8) (.lit .i64 0))
def wTB16_3 : Tm := (.bin .lss (.var .i64 8) (.lit .i64 4194304))
def wTB16_4 : Tm := (.bin .lss (.bin .add (.var .i64 8) (.lit .i64 1)) (.lit .i64 4194304))
def wTB24_0 : Tm := (.bin .lss (.var .i64 9) (.var .i64 12))
def wTB24_1 : Tm := (.bin .geq (.var .i64 9) (.lit .i64 0))
def wTB24_2 : Tm := (.bin .geq (.var .i64 8) (.lit .i64 0))
def wTB24_3 : Tm := (.bin .lss (.var .i64 8) (.lit .i64 4194304))
def wTB24_4 : Tm := (.bin .lss (.bin .add (.var .i64 8) (.lit .i64 1)) (.lit .i64 4194304))
def wTB32_0 : Tm := (.bin .lss (.var .i64 9) (.var .i64 12))
def wTB32_1 : Tm := (.bin .geq (.var .i64 9) (.lit .i64 0))
def wTB32_2 : Tm := (.bin .geq (.var .i64 8) (.lit .i64 0))
def wTB32_3 : Tm := (.bin .lss (.var .i64 8) (.lit .i64 4194304))
def wTB32_4 : Tm := (.bin .lss (.bin .add (.var .i64 8) (.lit .i64 1)) (.lit .i64 4194304))
def wTB40_0 : Tm := (.bin .lss (.var .i64 9) (.var .i64 12))
def wTB40_1 : Tm := (.bin .geq (.var .i64 9) (.lit .i64 0))
def wTB40_2 : Tm := (.bin .geq (.var .i64 8) (.lit .i64 0))
def wTB40_3 : Tm := (.bin .lss (.var .i64 8) (.lit .i64 4194304))
def wTB40_4 : Tm := (.bin .lss (.bin .add (.var .i64 8) (.lit .i64 1)) (.lit .i64 4194304))
def wTB48_0 : Tm := (.bin .lss (.var .i64 9) (.var .i64 12))
def wTB48_1 : Tm := (.bin .geq (.var .i64 9) (.lit .i64 0))
def wTB48_2 : Tm := (.bin .geq (.var .i64 8) (.lit .i64 0))
def wTB48_3 : Tm := (.bin .lss (.var .i64 8) (.lit .i64 4194304))
def wTB48_4 : Tm := (.bin .lss (.bin .add (.var .i64 8) (.lit .i64 1)) (.lit .i64 4194304))
def wTB56_0 : Tm := (.bin .lss (.var .i64 9) (.var .i64 12))
def wTB56_1 : Tm := (.bin .geq (.var .i64 9) (.lit .i64 0))
def wTB56_2 : Tm := (.bin .geq (.var .i64 8) (.lit .i64 0))
def wTB56_3 : Tm := (.bin .lss (.var .i64 8) (.lit .i64 4194304))
def wTB56_4 : Tm := (.bin .lss (.bin .add (.var .i64 8) (.lit .i64 1)) (.lit .i64 4194304))
def wTB64_0 : Tm := (.bin .lss (.var .i64 9) (.var .i64 12))
def wTB64_1 : Tm := (.bin .geq (.var .i64 9) (.lit .i64 0))
def wTB64_2 : Tm := (.bin .geq (.var .i64 8) (.lit .i64 0))
def wTB64_3 : Tm := (.bin .lss (.var .i64 8) (.lit .i64 4194304))
def wTB64_4 : Tm := (.bin .lss (.bin .add (.var .i64 8) (.lit .i64 1)) (.lit .i64 4194304))
theorem rowB {S1 : Sy} {l : List Int} (h0 : 0 ≤ S1.ρ 9) (h1 : S1.ρ 9 < S1.ρ 12) (h2 : S1.ρ 12 ≤ 4096) (h3 : l.length ≤ 4096) (hr : RowIs S1 8 60 l) (hK : ∀ x ∈ S1.I, x.f + x.ks.length ≤ 50) :
    ∃ S2, StepTo Try.prog ftW ΛW [] (cAt Try.prog lpWM) XB1W F1rW 3 S1 S2 ∧ S2.ρ 9 = S1.ρ 9 + 1 ∧ RowIs S2 8 60 (if okS (S1.Φ 50 [S1.ρ 9]) then l ++ [S1.Φ 50 [S1.ρ 9]] else l) ∧ Stay [9, 8] [60, 61, 62] S1 S2 := by
  have hcs : ∀ c ∈ ([] : List Ctr), CtrOk Try.prog S1 [] c := fun c hc => by simp at hc
  have h4 := hr.1
  by_cases hv : okS (S1.Φ 50 [S1.ρ 9])
  · rcases okS_cases hv with hk | hk | hk | hk | hk | hk | hk | hk
    · have c0 : S1.ρ 9 < S1.ρ 12 := by omega
      have d0 : wTB8_0.den S1 = some [b2i true] := tr (p := S1.ρ 9 < S1.ρ 12) c0
      have c1 : ¬ (S1.ρ 9 < (0 : Int)) := by omega
      have d1 : wTB8_1.den S1 = some [b2i true] := tr (p := (0 : Int) ≤ S1.ρ 9) (Int.not_lt.1 c1)
      have c2 : ¬ (S1.ρ 8 < (0 : Int)) := by omega
      have d2 : wTB8_2.den S1 = some [b2i true] := tr (p := (0 : Int) ≤ S1.ρ 8) (Int.not_lt.1 c2)
      have c3 : S1.ρ 8 < (4194304 : Int) := by omega
      have d3 : wTB8_3.den S1 = some [b2i true] := tr (p := S1.ρ 8 < (4194304 : Int)) c3
      have c4 : (IntKind.i64.wrap (S1.ρ 8 + (1 : Int))) < (4194304 : Int) := by rw [w_i64 (by omega) (by omega)]; omega
      have d4 : wTB8_4.den S1 = some [b2i true] := tr (p := (IntKind.i64.wrap (S1.ρ 8 + (1 : Int))) < (4194304 : Int)) c4
      obtain ⟨o8, h_o8⟩ : ∃ o : Int, o = (IntKind.i64.wrap (S1.ρ 8 + (1 : Int))) := ⟨_, rfl⟩
      obtain ⟨o9, h_o9⟩ : ∃ o : Int, o = (IntKind.i64.wrap (S1.ρ 9 + (1 : Int))) := ⟨_, rfl⟩
      have u := h_o9
      rw [w_i64 (by omega) (by omega)] at u
      have u2 := h_o8
      rw [w_i64 (by omega) (by omega)] at u2
      refine ⟨S1.set (upd S1.ρ [(8, o8), (9, o9)]) [(60, (fun j => ifE j (S1.ρ 8) ((8 : Int)) ((fun j => S1.Φ 60 [j]) j))), (61, (fun j => ifE j (S1.ρ 8) ((8 : Int)) ((fun j => S1.Φ 61 [j]) j))), (62, (fun j => ifE j (S1.ρ 8) ((8 : Int)) ((fun j => S1.Φ 62 [j]) j)))] 50 rfl hK, ⟨_, [], _, 1000, _, [(3, 6)], (ai wTB8_4 true d4 (ai wTB8_3 true d3 (ai wTB8_2 true d2 (ai wTB8_1 true d1 (ai wTB8_0 true d0 (ain (sqW 50 9) .i64 8 (sm hk) (AlOk.nil _))))))), hcs, LkOk.no _ _ _ _, (an 8 (.bin .add (.var .i64 8) (.lit .i64 1)) (sm h_o8.symm) (av 12 .i64 (av 12 .i64 (an 9 (.bin .add (.var .i64 9) (.lit .i64 1)) (sm h_o9.symm) (av 12 .i64 (ar 50 (ar_var 50) (an 8 (.bin .add (.var .i64 8) (.lit .i64 1)) (sm h_o8.symm) (ar 60 (ar_upd (.var .i64 8) (.lit .i64 8) (i := S1.ρ 8) (v := (8 : Int)) rfl rfl (by kernel_rfl) (ar_var 60)) (ar 61 (ar_upd (.var .i64 8) (.lit .i64 8) (i := S1.ρ 8) (v := (8 : Int)) rfl rfl (by kernel_rfl) (ar_var 61)) (ar 62 (ar_upd (.var .i64 8) (.lit .i64 8) (i := S1.ρ 8) (v := (8 : Int)) rfl rfl (by kernel_rfl) (ar_var 62)) (asg_nil rfl))))))))))), fun G => by kernel_rfl⟩, (show o9 = S1.ρ 9 + 1 by omega), ?_, (Stay.refl [9, 8] [60, 61, 62] _).set rfl rfl⟩
      rw [if_pos hv]
      exact hr.upd (isC_of 0 ⟨rfl, rfl, rfl⟩) hk (show o8 = S1.ρ 8 + 1 by omega) (fun _ => rfl) (fun _ => rfl) (fun _ => rfl)
    · have c0 : S1.ρ 9 < S1.ρ 12 := by omega
      have d0 : wTB16_0.den S1 = some [b2i true] := tr (p := S1.ρ 9 < S1.ρ 12) c0
      have c1 : ¬ (S1.ρ 9 < (0 : Int)) := by omega
      have d1 : wTB16_1.den S1 = some [b2i true] := tr (p := (0 : Int) ≤ S1.ρ 9) (Int.not_lt.1 c1)
      have c2 : ¬ (S1.ρ 8 < (0 : Int)) := by omega
      have d2 : wTB16_2.den S1 = some [b2i true] := tr (p := (0 : Int) ≤ S1.ρ 8) (Int.not_lt.1 c2)
      have c3 : S1.ρ 8 < (4194304 : Int) := by omega
      have d3 : wTB16_3.den S1 = some [b2i true] := tr (p := S1.ρ 8 < (4194304 : Int)) c3
      have c4 : (IntKind.i64.wrap (S1.ρ 8 + (1 : Int))) < (4194304 : Int) := by rw [w_i64 (by omega) (by omega)]; omega
      have d4 : wTB16_4.den S1 = some [b2i true] := tr (p := (IntKind.i64.wrap (S1.ρ 8 + (1 : Int))) < (4194304 : Int)) c4
      obtain ⟨o8, h_o8⟩ : ∃ o : Int, o = (IntKind.i64.wrap (S1.ρ 8 + (1 : Int))) := ⟨_, rfl⟩
      obtain ⟨o9, h_o9⟩ : ∃ o : Int, o = (IntKind.i64.wrap (S1.ρ 9 + (1 : Int))) := ⟨_, rfl⟩
      have u := h_o9
      rw [w_i64 (by omega) (by omega)] at u
      have u2 := h_o8
      rw [w_i64 (by omega) (by omega)] at u2
      refine ⟨S1.set (upd S1.ρ [(8, o8), (9, o9)]) [(60, (fun j => ifE j (S1.ρ 8) ((16 : Int)) ((fun j => S1.Φ 60 [j]) j))), (61, (fun j => ifE j (S1.ρ 8) ((16 : Int)) ((fun j => S1.Φ 61 [j]) j))), (62, (fun j => ifE j (S1.ρ 8) ((4 : Int)) ((fun j => S1.Φ 62 [j]) j)))] 50 rfl hK, ⟨_, [], _, 1000, _, [(3, 6)], (ai wTB16_4 true d4 (ai wTB16_3 true d3 (ai wTB16_2 true d2 (ai wTB16_1 true d1 (ai wTB16_0 true d0 (ain (sqW 50 9) .i64 16 (sm hk) (AlOk.nil _))))))), hcs, LkOk.no _ _ _ _, (an 8 (.bin .add (.var .i64 8) (.lit .i64 1)) (sm h_o8.symm) (av 12 .i64 (av 12 .i64 (an 9 (.bin .add (.var .i64 9) (.lit .i64 1)) (sm h_o9.symm) (av 12 .i64 (ar 50 (ar_var 50) (an 8 (.bin .add (.var .i64 8) (.lit .i64 1)) (sm h_o8.symm) (ar 60 (ar_upd (.var .i64 8) (.lit .i64 16) (i := S1.ρ 8) (v := (16 : Int)) rfl rfl (by kernel_rfl) (ar_var 60)) (ar 61 (ar_upd (.var .i64 8) (.lit .i64 16) (i := S1.ρ 8) (v := (16 : Int)) rfl rfl (by kernel_rfl) (ar_var 61)) (ar 62 (ar_upd (.var .i64 8) (.lit .i64 4) (i := S1.ρ 8) (v := (4 : Int)) rfl rfl (by kernel_rfl) (ar_var 62)) (asg_nil rfl))))))))))), fun G => by kernel_rfl⟩, (show o9 = S1.ρ 9 + 1 by omega), ?_, (Stay.refl [9, 8] [60, 61, 62] _).set rfl rfl⟩
      rw [if_pos hv]
      exact hr.upd (isC_of 1 ⟨rfl, rfl, rfl⟩) hk (show o8 = S1.ρ 8 + 1 by omega) (fun _ => rfl) (fun _ => rfl) (fun _ => rfl)
    · have c0 : S1.ρ 9 < S1.ρ 12 := by omega
      have d0 : wTB24_0.den S1 = some [b2i true] := tr (p := S1.ρ 9 < S1.ρ 12) c0
      have c1 : ¬ (S1.ρ 9 < (0 : Int)) := by omega
      have d1 : wTB24_1.den S1 = some [b2i true] := tr (p := (0 : Int) ≤ S1.ρ 9) (Int.not_lt.1 c1)
      have c2 : ¬ (S1.ρ 8 < (0 : Int)) := by omega
      have d2 : wTB24_2.den S1 = some [b2i true] := tr (p := (0 : Int) ≤ S1.ρ 8) (Int.not_lt.1 c2)
      have c3 : S1.ρ 8 < (4194304 : Int) := by omega
      have d3 : wTB24_3.den S1 = some [b2i true] := tr (p := S1.ρ 8 < (4194304 : Int)) c3
      have c4 : (IntKind.i64.wrap (S1.ρ 8 + (1 : Int))) < (4194304 : Int) := by rw [w_i64 (by omega) (by omega)]; omega
      have d4 : wTB24_4.den S1 = some [b2i true] := tr (p := (IntKind.i64.wrap (S1.ρ 8 + (1 : Int))) < (4194304 : Int)) c4
      obtain ⟨o8, h_o8⟩ : ∃ o : Int, o = (IntKind.i64.wrap (S1.ρ 8 + (1 : Int))) := ⟨_, rfl⟩
      obtain ⟨o9, h_o9⟩ : ∃ o : Int, o = (IntKind.i64.wrap (S1.ρ 9 + (1 : Int))) := ⟨_, rfl⟩
      have u := h_o9
      rw [w_i64 (by omega) (by omega)] at u
      have u2 := h_o8
      rw [w_i64 (by omega) (by omega)] at u2
      refine ⟨S1.set (upd S1.ρ [(8, o8), (9, o9)]) [(60, (fun j => ifE j (S1.ρ 8) ((24 : Int)) ((fun j => S1.Φ 60 [j]) j))), (61, (fun j => ifE j (S1.ρ 8) ((8 : Int)) ((fun j => S1.Φ 61 [j]) j))), (62, (fun j => ifE j (S1.ρ 8) ((2 : Int)) ((fun j => S1.Φ 62 [j]) j)))] 50 rfl hK, ⟨_, [], _, 1000, _, [(3, 6)], (ai wTB24_4 true d4 (ai wTB24_3 true d3 (ai wTB24_2 true d2 (ai wTB24_1 true d1 (ai wTB24_0 true d0 (ain (sqW 50 9) .i64 24 (sm hk) (AlOk.nil _))))))), hcs, LkOk.no _ _ _ _, (an 8 (.bin .add (.var .i64 8) (.lit .i64 1)) (sm h_o8.symm) (av 12 .i64 (av 12 .i64 (an 9 (.bin .add (.var .i64 9) (.lit .i64 1)) (sm h_o9.symm) (av 12 .i64 (ar 50 (ar_var 50) (an 8 (.bin .add (.var .i64 8) (.lit .i64 1)) (sm h_o8.symm) (ar 60 (ar_upd (.var .i64 8) (.lit .i64 24) (i := S1.ρ 8) (v := (24 : Int)) rfl rfl (by kernel_rfl) (ar_var 60)) (ar 61 (ar_upd (.var .i64 8) (.lit .i64 8) (i := S1.ρ 8) (v := (8 : Int)) rfl rfl (by kernel_rfl) (ar_var 61)) (ar 62 (ar_upd (.var .i64 8) (.lit .i64 2) (i := S1.ρ 8) (v := (2 : Int)) rfl rfl (by kernel_rfl) (ar_var 62)) (asg_nil rfl))))))))))), fun G => by kernel_rfl⟩, (show o9 = S1.ρ 9 + 1 by omega), ?_, (Stay.refl [9, 8] [60, 61, 62] _).set rfl rfl⟩
      rw [if_pos hv]
      exact hr.upd (isC_of 2 ⟨rfl, rfl, rfl⟩) hk (show o8 = S1.ρ 8 + 1 by omega) (fun _ => rfl) (fun _ => rfl) (fun _ => rfl)
    · have c0 : S1.ρ 9 < S1.ρ 12 := by omega
      have d0 : wTB32_0.den S1 = some [b2i true] := tr (p := S1.ρ 9 < S1.ρ 12) c0
      have c1 : ¬ (S1.ρ 9 < (0 : Int)) := by omega
      have d1 : wTB32_1.den S1 = some [b2i true] := tr (p := (0 : Int) ≤ S1.ρ 9) (Int.not_lt.1 c1)
      have c2 : ¬ (S1.ρ 8 < (0 : Int)) := by omega
      have d2 : wTB32_2.den S1 = some [b2i true] := tr (p := (0 : Int) ≤ S1.ρ 8) (Int.not_lt.1 c2)
      have c3 : S1.ρ 8 < (4194304 : Int) := by omega
      have d3 : wTB32_3.den S1 = some [b2i true] := tr (p := S1.ρ 8 < (4194304 : Int)) c3
      have c4 : (IntKind.i64.wrap (S1.ρ 8 + (1 : Int))) < (4194304 : Int) := by rw [w_i64 (by omega) (by omega)]; omega
      have d4 : wTB32_4.den S1 = some [b2i true] := tr (p := (IntKind.i64.wrap (S1.ρ 8 + (1 : Int))) < (4194304 : Int)) c4
      obtain ⟨o8, h_o8⟩ : ∃ o : Int, o = (IntKind.i64.wrap (S1.ρ 8 + (1 : Int))) := ⟨_, rfl⟩
      obtain ⟨o9, h_o9⟩ : ∃ o : Int, o = (IntKind.i64.wrap (S1.ρ 9 + (1 : Int))) := ⟨_, rfl⟩
      have u := h_o9
      rw [w_i64 (by omega) (by omega)] at u
      have u2 := h_o8
      rw [w_i64 (by omega) (by omega)] at u2
      refine ⟨S1.set (upd S1.ρ [(8, o8), (9, o9)]) [(60, (fun j => ifE j (S1.ρ 8) ((32 : Int)) ((fun j => S1.Φ 60 [j]) j))), (61, (fun j => ifE j (S1.ρ 8) ((32 : Int)) ((fun j => S1.Φ 61 [j]) j))), (62, (fun j => ifE j (S1.ρ 8) ((2 : Int)) ((fun j => S1.Φ 62 [j]) j)))] 50 rfl hK, ⟨_, [], _, 1000, _, [(3, 6)], (ai wTB32_4 true d4 (ai wTB32_3 true d3 (ai wTB32_2 true d2 (ai wTB32_1 true d1 (ai wTB32_0 true d0 (ain (sqW 50 9) .i64 32 (sm hk) (AlOk.nil _))))))), hcs, LkOk.no _ _ _ _, (an 8 (.bin .add (.var .i64 8) (.lit .i64 1)) (sm h_o8.symm) (av 12 .i64 (av 12 .i64 (an 9 (.bin .add (.var .i64 9) (.lit .i64 1)) (sm h_o9.symm) (av 12 .i64 (ar 50 (ar_var 50) (an 8 (.bin .add (.var .i64 8) (.lit .i64 1)) (sm h_o8.symm) (ar 60 (ar_upd (.var .i64 8) (.lit .i64 32) (i := S1.ρ 8) (v := (32 : Int)) rfl rfl (by kernel_rfl) (ar_var 60)) (ar 61 (ar_upd (.var .i64 8) (.lit .i64 32) (i := S1.ρ 8) (v := (32 : Int)) rfl rfl (by kernel_rfl) (ar_var 61)) (ar 62 (ar_upd (.var .i64 8) (.lit .i64 2) (i := S1.ρ 8) (v := (2 : Int)) rfl rfl (by kernel_rfl) (ar_var 62)) (asg_nil rfl))))))))))), fun G => by kernel_rfl⟩, (show o9 = S1.ρ 9 + 1 by omega), ?_, (Stay.refl [9, 8] [60, 61, 62] _).set rfl rfl⟩
      rw [if_pos hv]
      exact hr.upd (isC_of 3 ⟨rfl, rfl, rfl⟩) hk (show o8 = S1.ρ 8 + 1 by omega) (fun _ => rfl) (fun _ => rfl) (fun _ => rfl)
    · have c0 : S1.ρ 9 < S1.ρ 12 := by omega
      have d0 : wTB40_0.den S1 = some [b2i true] := tr (p := S1.ρ 9 < S1.ρ 12) c0
      have c1 : ¬ (S1.ρ 9 < (0 : Int)) := by omega
      have d1 : wTB40_1.den S1 = some [b2i true] := tr (p := (0 : Int) ≤ S1.ρ 9) (Int.not_lt.1 c1)
      have c2 : ¬ (S1.ρ 8 < (0 : Int)) := by omega
      have d2 : wTB40_2.den S1 = some [b2i true] := tr (p := (0 : Int) ≤ S1.ρ 8) (Int.not_lt.1 c2)
      have c3 : S1.ρ 8 < (4194304 : Int) := by omega
      have d3 : wTB40_3.den S1 = some [b2i true] := tr (p := S1.ρ 8 < (4194304 : Int)) c3
      have c4 : (IntKind.i64.wrap (S1.ρ 8 + (1 : Int))) < (4194304 : Int) := by rw [w_i64 (by omega) (by omega)]; omega
      have d4 : wTB40_4.den S1 = some [b2i true] := tr (p := (IntKind.i64.wrap (S1.ρ 8 + (1 : Int))) < (4194304 : Int)) c4
      obtain ⟨o8, h_o8⟩ : ∃ o : Int, o = (IntKind.i64.wrap (S1.ρ 8 + (1 : Int))) := ⟨_, rfl⟩
      obtain ⟨o9, h_o9⟩ : ∃ o : Int, o = (IntKind.i64.wrap (S1.ρ 9 + (1 : Int))) := ⟨_, rfl⟩
      have u := h_o9
      rw [w_i64 (by omega) (by omega)] at u
      have u2 := h_o8
      rw [w_i64 (by omega) (by omega)] at u2
      refine ⟨S1.set (upd S1.ρ [(8, o8), (9, o9)]) [(60, (fun j => ifE j (S1.ρ 8) ((40 : Int)) ((fun j => S1.Φ 60 [j]) j))), (61, (fun j => ifE j (S1.ρ 8) ((8 : Int)) ((fun j => S1.Φ 61 [j]) j))), (62, (fun j => ifE j (S1.ρ 8) ((1 : Int)) ((fun j => S1.Φ 62 [j]) j)))] 50 rfl hK, ⟨_, [], _, 1000, _, [(3, 6)], (ai wTB40_4 true d4 (ai wTB40_3 true d3 (ai wTB40_2 true d2 (ai wTB40_1 true d1 (ai wTB40_0 true d0 (ain (sqW 50 9) .i64 40 (sm hk) (AlOk.nil _))))))), hcs, LkOk.no _ _ _ _, (an 8 (.bin .add (.var .i64 8) (.lit .i64 1)) (sm h_o8.symm) (av 12 .i64 (av 12 .i64 (an 9 (.bin .add (.var .i64 9) (.lit .i64 1)) (sm h_o9.symm) (av 12 .i64 (ar 50 (ar_var 50) (an 8 (.bin .add (.var .i64 8) (.lit .i64 1)) (sm h_o8.symm) (ar 60 (ar_upd (.var .i64 8) (.lit .i64 40) (i := S1.ρ 8) (v := (40 : Int)) rfl rfl (by kernel_rfl) (ar_var 60)) (ar 61 (ar_upd (.var .i64 8) (.lit .i64 8) (i := S1.ρ 8) (v := (8 : Int)) rfl rfl (by kernel_rfl) (ar_var 61)) (ar 62 (ar_upd (.var .i64 8) (.lit .i64 1) (i := S1.ρ 8) (v := (1 : Int)) rfl rfl (by kernel_rfl) (ar_var 62)) (asg_nil rfl))))))))))), fun G => by kernel_rfl⟩, (show o9 = S1.ρ 9 + 1 by omega), ?_, (Stay.refl [9, 8] [60, 61, 62] _).set rfl rfl⟩
      rw [if_pos hv]
      exact hr.upd (isC_of 4 ⟨rfl, rfl, rfl⟩) hk (show o8 = S1.ρ 8 + 1 by omega) (fun _ => rfl) (fun _ => rfl) (fun _ => rfl)
    · have c0 : S1.ρ 9 < S1.ρ 12 := by omega
      have d0 : wTB48_0.den S1 = some [b2i true] := tr (p := S1.ρ 9 < S1.ρ 12) c0
      have c1 : ¬ (S1.ρ 9 < (0 : Int)) := by omega
      have d1 : wTB48_1.den S1 = some [b2i true] := tr (p := (0 : Int) ≤ S1.ρ 9) (Int.not_lt.1 c1)
      have c2 : ¬ (S1.ρ 8 < (0 : Int)) := by omega
      have d2 : wTB48_2.den S1 = some [b2i true] := tr (p := (0 : Int) ≤ S1.ρ 8) (Int.not_lt.1 c2)
      have c3 : S1.ρ 8 < (4194304 : Int) := by omega
      have d3 : wTB48_3.den S1 = some [b2i true] := tr (p := S1.ρ 8 < (4194304 : Int)) c3
      have c4 : (IntKind.i64.wrap (S1.ρ 8 + (1 : Int))) < (4194304 : Int) := by rw [w_i64 (by omega) (by omega)]; omega
      have d4 : wTB48_4.den S1 = some [b2i true] := tr (p := (IntKind.i64.wrap (S1.ρ 8 + (1 : Int))) < (4194304 : Int)) c4
      obtain ⟨o8, h_o8⟩ : ∃ o : Int, o = (IntKind.i64.wrap (S1.ρ 8 + (1 : Int))) := ⟨_, rfl⟩
      obtain ⟨o9, h_o9⟩ : ∃ o : Int, o = (IntKind.i64.wrap (S1.ρ 9 + (1 : Int))) := ⟨_, rfl⟩
      have u := h_o9
      rw [w_i64 (by omega) (by omega)] at u
      have u2 := h_o8
      rw [w_i64 (by omega) (by omega)] at u2
      refine ⟨S1.set (upd S1.ρ [(8, o8), (9, o9)]) [(60, (fun j => ifE j (S1.ρ 8) ((48 : Int)) ((fun j => S1.Φ 60 [j]) j))), (61, (fun j => ifE j (S1.ρ 8) ((16 : Int)) ((fun j => S1.Φ 61 [j]) j))), (62, (fun j => ifE j (S1.ρ 8) ((1 : Int)) ((fun j => S1.Φ 62 [j]) j)))] 50 rfl hK, ⟨_, [], _, 1000, _, [(3, 6)], (ai wTB48_4 true d4 (ai wTB48_3 true d3 (ai wTB48_2 true d2 (ai wTB48_1 true d1 (ai wTB48_0 true d0 (ain (sqW 50 9) .i64 48 (sm hk) (AlOk.nil _))))))), hcs, LkOk.no _ _ _ _, (an 8 (.bin .add (.var .i64 8) (.lit .i64 1)) (sm h_o8.symm) (av 12 .i64 (av 12 .i64 (an 9 (.bin .add (.var .i64 9) (.lit .i64 1)) (sm h_o9.symm) (av 12 .i64 (ar 50 (ar_var 50) (an 8 (.bin .add (.var .i64 8) (.lit .i64 1)) (sm h_o8.symm) (ar 60 (ar_upd (.var .i64 8) (.lit .i64 48) (i := S1.ρ 8) (v := (48 : Int)) rfl rfl (by kernel_rfl) (ar_var 60)) (ar 61 (ar_upd (.var .i64 8) (.lit .i64 16) (i := S1.ρ 8) (v := (16 : Int)) rfl rfl (by kernel_rfl) (ar_var 61)) (ar 62 (ar_upd (.var .i64 8) (.lit .i64 1) (i := S1.ρ 8) (v := (1 : Int)) rfl rfl (by kernel_rfl) (ar_var 62)) (asg_nil rfl))))))))))), fun G => by kernel_rfl⟩, (show o9 = S1.ρ 9 + 1 by omega), ?_, (Stay.refl [9, 8] [60, 61, 62] _).set rfl rfl⟩
      rw [if_pos hv]
      exact hr.upd (isC_of 5 ⟨rfl, rfl, rfl⟩) hk (show o8 = S1.ρ 8 + 1 by omega) (fun _ => rfl) (fun _ => rfl) (fun _ => rfl)
    · have c0 : S1.ρ 9 < S1.ρ 12 := by omega
      have d0 : wTB56_0.den S1 = some [b2i true] := tr (p := S1.ρ 9 < S1.ρ 12) c0
      have c1 : ¬ (S1.ρ 9 < (0 : Int)) := by omega
      have d1 : wTB56_1.den S1 = some [b2i true] := tr (p := (0 : Int) ≤ S1.ρ 9) (Int.not_lt.1 c1)
      have c2 : ¬ (S1.ρ 8 < (0 : Int)) := by omega
      have d2 : wTB56_2.den S1 = some [b2i true] := tr (p := (0 : Int) ≤ S1.ρ 8) (Int.not_lt.1 c2)
      have c3 : S1.ρ 8 < (4194304 : Int) := by omega
      have d3 : wTB56_3.den S1 = some [b2i true] := tr (p := S1.ρ 8 < (4194304 : Int)) c3
      have c4 : (IntKind.i64.wrap (S1.ρ 8 + (1 : Int))) < (4194304 : Int) := by rw [w_i64 (by omega) (by omega)]; omega
      have d4 : wTB56_4.den S1 = some [b2i true] := tr (p := (IntKind.i64.wrap (S1.ρ 8 + (1 : Int))) < (4194304 : Int)) c4
      obtain ⟨o8, h_o8⟩ : ∃ o : Int, o = (IntKind.i64.wrap (S1.ρ 8 + (1 : Int))) := ⟨_, rfl⟩
      obtain ⟨o9, h_o9⟩ : ∃ o : Int, o = (IntKind.i64.wrap (S1.ρ 9 + (1 : Int))) := ⟨_, rfl⟩
      have u := h_o9
      rw [w_i64 (by omega) (by omega)] at u
      have u2 := h_o8
      rw [w_i64 (by omega) (by omega)] at u2
      refine ⟨S1.set (upd S1.ρ [(8, o8), (9, o9)]) [(60, (fun j => ifE j (S1.ρ 8) ((56 : Int)) ((fun j => S1.Φ 60 [j]) j))), (61, (fun j => ifE j (S1.ρ 8) ((8 : Int)) ((fun j => S1.Φ 61 [j]) j))), (62, (fun j => ifE j (S1.ρ 8) ((1 : Int)) ((fun j => S1.Φ 62 [j]) j)))] 50 rfl hK, ⟨_, [], _, 1000, _, [(3, 6)], (ai wTB56_4 true d4 (ai wTB56_3 true d3 (ai wTB56_2 true d2 (ai wTB56_1 true d1 (ai wTB56_0 true d0 (ain (sqW 50 9) .i64 56 (sm hk) (AlOk.nil _))))))), hcs, LkOk.no _ _ _ _, (an 8 (.bin .add (.var .i64 8) (.lit .i64 1)) (sm h_o8.symm) (av 12 .i64 (av 12 .i64 (an 9 (.bin .add (.var .i64 9) (.lit .i64 1)) (sm h_o9.symm) (av 12 .i64 (ar 50 (ar_var 50) (an 8 (.bin .add (.var .i64 8) (.lit .i64 1)) (sm h_o8.symm) (ar 60 (ar_upd (.var .i64 8) (.lit .i64 56) (i := S1.ρ 8) (v := (56 : Int)) rfl rfl (by kernel_rfl) (ar_var 60)) (ar 61 (ar_upd (.var .i64 8) (.lit .i64 8) (i := S1.ρ 8) (v := (8 : Int)) rfl rfl (by kernel_rfl) (ar_var 61)) (ar 62 (ar_upd (.var .i64 8) (.lit .i64 1) (i := S1.ρ 8) (v := (1 : Int)) rfl rfl (by kernel_rfl) (ar_var 62)) (asg_nil rfl))))))))))), fun G => by kernel_rfl⟩, (show o9 = S1.ρ 9 + 1 by omega), ?_, (Stay.refl [9, 8] [60, 61, 62] _).set rfl rfl⟩
      rw [if_pos hv]
      exact hr.upd (isC_of 6 ⟨rfl, rfl, rfl⟩) hk (show o8 = S1.ρ 8 + 1 by omega) (fun _ => rfl) (fun _ => rfl) (fun _ => rfl)
    · have c0 : S1.ρ 9 < S1.ρ 12 := by omega
      have d0 : wTB64_0.den S1 = some [b2i true] := tr (p := S1.ρ 9 < S1.ρ 12) c0
      have c1 : ¬ (S1.ρ 9 < (0 : Int)) := by omega
      have d1 : wTB64_1.den S1 = some [b2i true] := tr (p := (0 : Int) ≤ S1.ρ 9) (Int.not_lt.1 c1)
      have c2 : ¬ (S1.ρ 8 < (0 : Int)) := by omega
      have d2 : wTB64_2.den S1 = some [b2i true] := tr (p := (0 : Int) ≤ S1.ρ 8) (Int.not_lt.1 c2)
      have c3 : S1.ρ 8 < (4194304 : Int) := by omega
      have d3 : wTB64_3.den S1 = some [b2i true] := tr (p := S1.ρ 8 < (4194304 : Int)) c3
      have c4 : (IntKind.i64.wrap (S1.ρ 8 + (1 : Int))) < (4194304 : Int) := by rw [w_i64 (by omega) (by omega)]; omega
      have d4 : wTB64_4.den S1 = some [b2i true] := tr (p := (IntKind.i64.wrap (S1.ρ 8 + (1 : Int))) < (4194304 : Int)) c4
      obtain ⟨o8, h_o8⟩ : ∃ o : Int, o = (IntKind.i64.wrap (S1.ρ 8 + (1 : Int))) := ⟨_, rfl⟩
      obtain ⟨o9, h_o9⟩ : ∃ o : Int, o = (IntKind.i64.wrap (S1.ρ 9 + (1 : Int))) := ⟨_, rfl⟩
      have u := h_o9
      rw [w_i64 (by omega) (by omega)] at u
      have u2 := h_o8
      rw [w_i64 (by omega) (by omega)] at u2
      refine ⟨S1.set (upd S1.ρ [(8, o8), (9, o9)]) [(60, (fun j => ifE j (S1.ρ 8) ((64 : Int)) ((fun j => S1.Φ 60 [j]) j))), (61, (fun j => ifE j (S1.ρ 8) ((64 : Int)) ((fun j => S1.Φ 61 [j]) j))), (62, (fun j => ifE j (S1.ρ 8) ((1 : Int)) ((fun j => S1.Φ 62 [j]) j)))] 50 rfl hK, ⟨_, [], _, 1000, _, [(3, 6)], (ai wTB64_4 true d4 (ai wTB64_3 true d3 (ai wTB64_2 true d2 (ai wTB64_1 true d1 (ai wTB64_0 true d0 (ain (sqW 50 9) .i64 64 (sm hk) (AlOk.nil _))))))), hcs, LkOk.no _ _ _ _, (an 8 (.bin .add (.var .i64 8) (.lit .i64 1)) (sm h_o8.symm) (av 12 .i64 (av 12 .i64 (an 9 (.bin .add (.var .i64 9) (.lit .i64 1)) (sm h_o9.symm) (av 12 .i64 (ar 50 (ar_var 50) (an 8 (.bin .add (.var .i64 8) (.lit .i64 1)) (sm h_o8.symm) (ar 60 (ar_upd (.var .i64 8) (.lit .i64 64) (i := S1.ρ 8) (v := (64 : Int)) rfl rfl (by kernel_rfl) (ar_var 60)) (ar 61 (ar_upd (.var .i64 8) (.lit .i64 64) (i := S1.ρ 8) (v := (64 : Int)) rfl rfl (by kernel_rfl) (ar_var 61)) (ar 62 (ar_upd (.var .i64 8) (.lit .i64 1) (i := S1.ρ 8) (v := (1 : Int)) rfl rfl (by kernel_rfl) (ar_var 62)) (asg_nil rfl))))))))))), fun G => by kernel_rfl⟩, (show o9 = S1.ρ 9 + 1 by omega), ?_, (Stay.refl [9, 8] [60, 61, 62] _).set rfl rfl⟩
      rw [if_pos hv]
      exact hr.upd (isC_of 7 ⟨rfl, rfl, rfl⟩) hk (show o8 = S1.ρ 8 + 1 by omega) (fun _ => rfl) (fun _ => rfl) (fun _ => rfl)
  · have c0 : S1.ρ 9 < S1.ρ 12 := by omega
    have d0 : wYB0.den S1 = some [b2i true] := tr (p := S1.ρ 9 < S1.ρ 12) c0
    have c1 : ¬ (S1.ρ 9 < (0 : Int)) := by omega
    have d1 : wYB1.den S1 = some [b2i true] := tr (p := (0 : Int) ≤ S1.ρ 9) (Int.not_lt.1 c1)
    by_cases c2 : (S1.Φ 50 [S1.ρ 9]) < (8 : Int)
    · have d2 : wYB2.den S1 = some [b2i false] := fls (p := (8 : Int) ≤ (S1.Φ 50 [S1.ρ 9])) (Int.not_le.2 c2)
      obtain ⟨o9, h_o9⟩ : ∃ o : Int, o = (IntKind.i64.wrap (S1.ρ 9 + (1 : Int))) := ⟨_, rfl⟩
      have u := h_o9
      rw [w_i64 (by omega) (by omega)] at u
      refine ⟨S1.set (upd S1.ρ [(9, o9)]) [] 50 rfl hK, ⟨_, [], _, 1000, _, [], (ai wYB2 false d2 (ai wYB1 true d1 (ai wYB0 true d0 (AlOk.nil _)))), hcs, LkOk.no _ _ _ _, (av 8 .i64 (av 12 .i64 (av 12 .i64 (an 9 (.bin .add (.var .i64 9) (.lit .i64 1)) (sm h_o9.symm) (av 12 .i64 (ar 50 (ar_var 50) (av 8 .i64 (ar 60 (ar_var 60) (ar 61 (ar_var 61) (ar 62 (ar_var 62) (asg_nil rfl))))))))))), fun G => by kernel_rfl⟩, (show o9 = S1.ρ 9 + 1 by omega), ?_, (Stay.refl [9, 8] [60, 61, 62] _).set rfl rfl⟩
      rw [if_neg hv]
      exact hr.same rfl (fun _ => rfl) (fun _ => rfl) (fun _ => rfl)
    · have d2 : wYB2.den S1 = some [b2i true] := tr (p := (8 : Int) ≤ (S1.Φ 50 [S1.ρ 9])) (Int.not_lt.1 c2)
      by_cases c3 : (64 : Int) < (S1.Φ 50 [S1.ρ 9])
      · have d3 : wYB3.den S1 = some [b2i false] := fls (p := (S1.Φ 50 [S1.ρ 9]) ≤ (64 : Int)) (Int.not_le.2 c3)
        obtain ⟨o9, h_o9⟩ : ∃ o : Int, o = (IntKind.i64.wrap (S1.ρ 9 + (1 : Int))) := ⟨_, rfl⟩
        have u := h_o9
        rw [w_i64 (by omega) (by omega)] at u
        refine ⟨S1.set (upd S1.ρ [(9, o9)]) [] 50 rfl hK, ⟨_, [], _, 1000, _, [], (ai wYB3 false d3 (ai wYB2 true d2 (ai wYB1 true d1 (ai wYB0 true d0 (AlOk.nil _))))), hcs, LkOk.no _ _ _ _, (av 8 .i64 (av 12 .i64 (av 12 .i64 (an 9 (.bin .add (.var .i64 9) (.lit .i64 1)) (sm h_o9.symm) (av 12 .i64 (ar 50 (ar_var 50) (av 8 .i64 (ar 60 (ar_var 60) (ar 61 (ar_var 61) (ar 62 (ar_var 62) (asg_nil rfl))))))))))), fun G => by kernel_rfl⟩, (show o9 = S1.ρ 9 + 1 by omega), ?_, (Stay.refl [9, 8] [60, 61, 62] _).set rfl rfl⟩
        rw [if_neg hv]
        exact hr.same rfl (fun _ => rfl) (fun _ => rfl) (fun _ => rfl)
      · have d3 : wYB3.den S1 = some [b2i true] := tr (p := (S1.Φ 50 [S1.ρ 9]) ≤ (64 : Int)) (Int.not_lt.1 c3)
        have c4 : ¬ ((((S1.Φ 50 [S1.ρ 9])).tmod (8 : Int)) = (0 : Int)) := by intro hh; exact hv ⟨by omega, by omega, hh⟩
        have d4 : wYB4.den S1 = some [b2i false] := fls (p := (((S1.Φ 50 [S1.ρ 9])).tmod (8 : Int)) = (0 : Int)) c4
        obtain ⟨o9, h_o9⟩ : ∃ o : Int, o = (IntKind.i64.wrap (S1.ρ 9 + (1 : Int))) := ⟨_, rfl⟩
        have u := h_o9
        rw [w_i64 (by omega) (by omega)] at u
        refine ⟨S1.set (upd S1.ρ [(9, o9)]) [] 50 rfl hK, ⟨_, [], _, 1000, _, [], (ai wYB4 false d4 (ai wYB3 true d3 (ai wYB2 true d2 (ai wYB1 true d1 (ai wYB0 true d0 (AlOk.nil _)))))), hcs, LkOk.no _ _ _ _, (av 8 .i64 (av 12 .i64 (av 12 .i64 (an 9 (.bin .add (.var .i64 9) (.lit .i64 1)) (sm h_o9.symm) (av 12 .i64 (ar 50 (ar_var 50) (av 8 .i64 (ar 60 (ar_var 60) (ar 61 (ar_var 61) (ar 62 (ar_var 62) (asg_nil rfl))))))))))), fun G => by kernel_rfl⟩, (show o9 = S1.ρ 9 + 1 by omega), ?_, (Stay.refl [9, 8] [60, 61, 62] _).set rfl rfl⟩
        rw [if_neg hv]
        exact hr.same rfl (fun _ => rfl) (fun _ => rfl) (fun _ => rfl)
theorem rowsB (F : Nat → Int) : ∀ (m i : Nat) (l : List Int) (S0 : Sy), S0.ρ 9 = i → S0.ρ 9 + m ≤ S0.ρ 12 → S0.ρ 12 ≤ 2048 → l.length ≤ i → (∀ j : Nat, S0.Φ 50 [(j : Int)] = F j) → RowIs S0 8 60 l → (∀ x ∈ S0.I, x.f + x.ks.length ≤ 50) →
    ∃ Sa, Chain (StepTo Try.prog ftW ΛW [] (cAt Try.prog lpWM) XB1W F1rW 3) m S0 Sa ∧ Sa.ρ 9 = S0.ρ 9 + m ∧ RowIs Sa 8 60 (fltG F i m l) ∧ Stay [9, 8] [60, 61, 62] S0 Sa
  | 0, i, l, S0, _, _, _, _, _, hr, _ => ⟨S0, .nil _, by simp, hr, Stay.refl _ _ _⟩
  | m + 1, i, l, S0, h0, h1, h2, h3, hF, hr, hK => by
    obtain ⟨S2, st, e4, hr2, y⟩ := rowB (S1 := S0) (by omega) (by omega) (by omega) (by omega) hr hK
    have e1 := y.num 12 rfl
    rw [h0, hF i] at hr2
    obtain ⟨Sa, ch, f4, hr3, z⟩ := rowsB F m (i + 1) _ S2 (by omega) (by omega) (by omega) (by split; (· simp; omega); (· omega)) (fun j => by rw [y.fn 50 rfl]; exact hF j) hr2 (by rw [y.1]; exact hK)
    exact ⟨Sa, .cons st ch, by omega, hr3, stay_weak (y.trans z) rfl rfl⟩
def wORB0 : Tm := (.bin .lss (.var .i64 9) (.var .i64 12))
theorem outBR {S1 T : Sy} (h1 : S1.ρ 9 = S1.ρ 12) (hT : Same [8] [60, 61, 62] S1 T) : StepOut Try.prog ftW ΛW [] (cAt Try.prog lpWM) XB1W F1rW (.exit 0) 3 S1 T := by
  have hcs : ∀ c ∈ ([] : List Ctr), CtrOk Try.prog S1 [] c := fun c hc => by simp at hc
  have c0 : ¬ (S1.ρ 9 < S1.ρ 12) := by omega
  have d0 : wORB0.den S1 = some [b2i false] := fls (p := S1.ρ 9 < S1.ρ 12) c0
  exact ⟨_, [], _, 1000, _, [], (ai wORB0 false d0 (AlOk.nil _)), hcs, LkOk.no _ _ _ _, (an 8 (.var .i64 8) (sm (hT.num 8 rfl)) (an 8 (.var .i64 8) (sm (hT.num 8 rfl)) (asg_arr (i := 60) (hT.row 60 rfl) (asg_arr (i := 61) (hT.row 61 rfl) (asg_arr (i := 62) (hT.row 62 rfl) (asg_nil hT.1)))))), fun G => by kernel_rfl⟩
theorem loopBR (S0 : Sy) (n : Nat) (hn : n ≤ 2048) (hi : S0.ρ 9 = 0) (hb : S0.ρ 12 = n) (hv : flt (fun j => S0.Φ 50 [(j : Int)]) n ≠ []) (hK : ∀ x ∈ S0.I, x.f + x.ks.length ≤ 50) :
    ∃ Sf, Stay [9, 8] [60, 61, 62] S0 Sf ∧ RowIs Sf 8 60 (flt (fun j => S0.Φ 50 [(j : Int)]) n) ∧ ∀ T asg0, Same [8] [60, 61, 62] Sf T → AsgOk T S0 asg0 → LkAt Try.prog T [] (.loop (cAt Try.prog lpWM)) (lkLoopR Try.prog 3 [] XB0W F1rW (.exit 0) asg0) := by
  obtain ⟨j0, ⟨hj, hok⟩, hmin⟩ := least (flt_some hv)
  obtain ⟨Sa, ch, e, y⟩ := chainBR j0 S0 (by omega) (by omega) (by omega) (fun j hj' hh => by rw [hi, Int.zero_add] at hh; exact hmin j hj' ⟨by omega, hh⟩) hK
  have y1 := y.num 12 rfl
  have ea : Sa.ρ 9 = j0 := by omega
  have hKa : ∀ x ∈ Sa.I, x.f + x.ks.length ≤ 50 := by rw [y.1]; exact hK
  obtain ⟨Sb, cx, f4, hrb, yb⟩ := crossB (S1 := Sa) (by omega) (by omega) (by omega) (by rw [ea, y.fn 50 rfl]; exact hok) hKa
  have b1 := yb.num 12 rfl
  have hKb : ∀ x ∈ Sb.I, x.f + x.ks.length ≤ 50 := by rw [yb.1]; exact hKa
  have h0 : flt (fun j => S0.Φ 50 [(j : Int)]) j0 = [] := flt_low fun j hj' hh => hmin j hj' ⟨by omega, hh⟩
  have h1 : flt (fun j => S0.Φ 50 [(j : Int)]) (j0 + 1) = [S0.Φ 50 [(j0 : Int)]] := by
    unfold flt
    rw [if_pos hok, h0]
    rfl
  rw [ea, y.fn 50 rfl, ← h1] at hrb
  obtain ⟨Sf, ch2, g4, hrf, yf⟩ := rowsB (fun j => S0.Φ 50 [(j : Int)]) (n - (j0 + 1)) (j0 + 1) _ Sb (by omega) (by omega) (by omega) (flt_len _ _) (fun j => by rw [yb.fn 50 rfl, y.fn 50 rfl]) hrb hKb
  have f1 := yf.num 12 rfl
  rw [fltG_eq, show j0 + 1 + (n - (j0 + 1)) = n by omega] at hrf
  exact ⟨Sf, stay_weak (y.trans (yb.trans yf)) rfl rfl, hrf, fun T asg0 hs ha => loop_chain2 envW (ann_self _) fineWM (show XB0W.N = F1rW.N from rfl) (show XB1W.N = F1rW.N from rfl) (Nat.le_of_ble_eq_true rfl) ch cx ch2 (outBR (by omega) hs) ha⟩
def wCN0 : Tm := (.bin .lss (.var .i64 9) (.var .i64 12))
def wCN1 : Tm := (.bin .geq (.var .i64 9) (.lit .i64 0))
def wCN2 : Tm := (.bin .geq (.app .i64 50 (.cons (.var .i64 9) .nil)) (.lit .i64 8))
def wCN3 : Tm := (.bin .leq (.app .i64 50 (.cons (.var .i64 9) .nil)) (.lit .i64 64))
def wCN4 : Tm := (.bin .eql (.bin .rem (.app .i64 50 (.cons (.var .i64 9) .nil)) (.lit .i64 8)) (.lit .i64 0))
theorem nilCN {S1 : Sy} (h0 : 0 ≤ S1.ρ 9) (h1 : S1.ρ 9 < S1.ρ 12) (h2 : S1.ρ 12 ≤ 4096) (hv : ¬ okS (S1.Φ 50 [S1.ρ 9])) (hK : ∀ x ∈ S1.I, x.f + x.ks.length ≤ 50) : ∃ S2, StepTo Try.prog ftW ΛW [] (cAt Try.prog lpWM) XC0W FAW 3 S1 S2 ∧ S2.ρ 9 = S1.ρ 9 + 1 ∧ Stay [9] [] S1 S2 := by
  have hcs : ∀ c ∈ ([] : List Ctr), CtrOk Try.prog S1 [] c := fun c hc => by simp at hc
  have c0 : S1.ρ 9 < S1.ρ 12 := by omega
  have d0 : wCN0.den S1 = some [b2i true] := tr (p := S1.ρ 9 < S1.ρ 12) c0
  have c1 : ¬ (S1.ρ 9 < (0 : Int)) := by omega
  have d1 : wCN1.den S1 = some [b2i true] := tr (p := (0 : Int) ≤ S1.ρ 9) (Int.not_lt.1 c1)
  by_cases c2 : (S1.Φ 50 [S1.ρ 9]) < (8 : Int)
  · have d2 : wCN2.den S1 = some [b2i false] := fls (p := (8 : Int) ≤ (S1.Φ 50 [S1.ρ 9])) (Int.not_le.2 c2)
    obtain ⟨o9, h_o9⟩ : ∃ o : Int, o = (IntKind.i64.wrap (S1.ρ 9 + (1 : Int))) := ⟨_, rfl⟩
    have u := h_o9
    rw [w_i64 (by omega) (by omega)] at u
    exact ⟨S1.set (upd S1.ρ [(9, o9)]) [] 50 rfl hK, ⟨_, [], _, 1000, _, [], (ai wCN2 false d2 (ai wCN1 true d1 (ai wCN0 true d0 (AlOk.nil _)))), hcs, LkOk.no _ _ _ _, (av 12 .i64 (av 12 .i64 (an 9 (.bin .add (.var .i64 9) (.lit .i64 1)) (sm h_o9.symm) (av 12 .i64 (ar 50 (ar_var 50) (asg_nil rfl)))))), fun G => by kernel_rfl⟩, (show o9 = S1.ρ 9 + 1 by omega), (Stay.refl [9] [] _).set rfl rfl⟩
  · have d2 : wCN2.den S1 = some [b2i true] := tr (p := (8 : Int) ≤ (S1.Φ 50 [S1.ρ 9])) (Int.not_lt.1 c2)
    by_cases c3 : (64 : Int) < (S1.Φ 50 [S1.ρ 9])
    · have d3 : wCN3.den S1 = some [b2i false] := fls (p := (S1.Φ 50 [S1.ρ 9]) ≤ (64 : Int)) (Int.not_le.2 c3)
      obtain ⟨o9, h_o9⟩ : ∃ o : Int, o = (IntKind.i64.wrap (S1.ρ 9 + (1 : Int))) := ⟨_, rfl⟩
      have u := h_o9
      rw [w_i64 (by omega) (by omega)] at u
      exact ⟨S1.set (upd S1.ρ [(9, o9)]) [] 50 rfl hK, ⟨_, [], _, 1000, _, [], (ai wCN3 false d3 (ai wCN2 true d2 (ai wCN1 true d1 (ai wCN0 true d0 (AlOk.nil _))))), hcs, LkOk.no _ _ _ _, (av 12 .i64 (av 12 .i64 (an 9 (.bin .add (.var .i64 9) (.lit .i64 1)) (sm h_o9.symm) (av 12 .i64 (ar 50 (ar_var 50) (asg_nil rfl)))))), fun G => by kernel_rfl⟩, (show o9 = S1.ρ 9 + 1 by omega), (Stay.refl [9] [] _).set rfl rfl⟩
    · have d3 : wCN3.den S1 = some [b2i true] := tr (p := (S1.Φ 50 [S1.ρ 9]) ≤ (64 : Int)) (Int.not_lt.1 c3)
      have c4 : ¬ ((((S1.Φ 50 [S1.ρ 9])).tmod (8 : Int)) = (0 : Int)) := by intro hh; exact hv ⟨by omega, by omega, hh⟩
      have d4 : wCN4.den S1 = some [b2i false] := fls (p := (((S1.Φ 50 [S1.ρ 9])).tmod (8 : Int)) = (0 : Int)) c4
      obtain ⟨o9, h_o9⟩ : ∃ o : Int, o = (IntKind.i64.wrap (S1.ρ 9 + (1 : Int))) := ⟨_, rfl⟩
      have u := h_o9
      rw [w_i64 (by omega) (by omega)] at u
      exact ⟨S1.set (upd S1.ρ [(9, o9)]) [] 50 rfl hK, ⟨_, [], _, 1000, _, [], (ai wCN4 false d4 (ai wCN3 true d3 (ai wCN2 true d2 (ai wCN1 true d1 (ai wCN0 true d0 (AlOk.nil _)))))), hcs, LkOk.no _ _ _ _, (av 12 .i64 (av 12 .i64 (an 9 (.bin .add (.var .i64 9) (.lit .i64 1)) (sm h_o9.symm) (av 12 .i64 (ar 50 (ar_var 50) (asg_nil rfl)))))), fun G => by kernel_rfl⟩, (show o9 = S1.ρ 9 + 1 by omega), (Stay.refl [9] [] _).set rfl rfl⟩
theorem chainCN : ∀ (m : Nat) (S0 : Sy), 0 ≤ S0.ρ 9 → S0.ρ 9 + m ≤ S0.ρ 12 → S0.ρ 12 ≤ 4096 → (∀ j : Nat, j < m → ¬ okS (S0.Φ 50 [S0.ρ 9 + j])) → (∀ x ∈ S0.I, x.f + x.ks.length ≤ 50) →
    ∃ Sa, Chain (StepTo Try.prog ftW ΛW [] (cAt Try.prog lpWM) XC0W FAW 3) m S0 Sa ∧ Sa.ρ 9 = S0.ρ 9 + m ∧ Stay [9] [] S0 Sa
  | 0, S0, _, _, _, _, _ => ⟨S0, .nil _, by simp, Stay.refl _ _ _⟩
  | m + 1, S0, h0, h1, h2, hv, hK => by
    obtain ⟨S2, st, e4, y⟩ := nilCN h0 (by omega) h2 (by have := hv 0 (by omega); simpa using this) hK
    have e1 := y.num 12 rfl
    obtain ⟨Sa, ch, f4, z⟩ := chainCN m S2 (by omega) (by omega) (by omega) (fun j hj => by
      have := hv (j + 1) (by omega)
      rw [y.fn 50 rfl, e4]
      rwa [show S0.ρ 9 + 1 + (j : Int) = S0.ρ 9 + ((j + 1 : Nat) : Int) by omega]) (by rw [y.1]; exact hK)
    exact ⟨Sa, .cons st ch, by omega, stay_weak (y.trans z) rfl rfl⟩
def wCR0 : Tm := (.bin .lss (.var .i64 9) (.var .i64 12))
def wCR1 : Tm := (.bin .geq (.var .i64 9) (.lit .i64 0))
def wCR2 : Tm := (.bin .geq (.app .i64 50 (.cons (.var .i64 9) .nil)) (.lit .i64 8))
def wCR3 : Tm := (.bin .leq (.app .i64 50 (.cons (.var .i64 9) .nil)) (.lit .i64 64))
def wCR4 : Tm := (.bin .eql (.bin .rem (.app .i64 50 (.cons (.var .i64 9) .nil)) (.lit .i64 8)) (.lit .i64 0))
theorem nilCR {S1 : Sy} (h0 : 0 ≤ S1.ρ 9) (h1 : S1.ρ 9 < S1.ρ 12) (h2 : S1.ρ 12 ≤ 4096) (hv : ¬ okS (S1.Φ 50 [S1.ρ 9])) (hK : ∀ x ∈ S1.I, x.f + x.ks.length ≤ 50) : ∃ S2, StepTo Try.prog ftW ΛW [] (cAt Try.prog lpWM) XC0W F1rW 3 S1 S2 ∧ S2.ρ 9 = S1.ρ 9 + 1 ∧ Stay [9] [] S1 S2 := by
  have hcs : ∀ c ∈ ([] : List Ctr), CtrOk Try.prog S1 [] c := fun c hc => by simp at hc
  have c0 : S1.ρ 9 < S1.ρ 12 := by omega
  have d0 : wCR0.den S1 = some [b2i true] := tr (p := S1.ρ 9 < S1.ρ 12) c0
  have c1 : ¬ (S1.ρ 9 < (0 : Int)) := by omega
  have d1 : wCR1.den S1 = some [b2i true] := tr (p := (0 : Int) ≤ S1.ρ 9) (Int.not_lt.1 c1)
  by_cases c2 : (S1.Φ 50 [S1.ρ 9]) < (8 : Int)
  · have d2 : wCR2.den S1 = some [b2i false] := fls (p := (8 : Int) ≤ (S1.Φ 50 [S1.ρ 9])) (Int.not_le.2 c2)
    obtain ⟨o9, h_o9⟩ : ∃ o : Int, o = (IntKind.i64.wrap (S1.ρ 9 + (1 : Int))) := ⟨_, rfl⟩
    have u := h_o9
    rw [w_i64 (by omega) (by omega)] at u
    exact ⟨S1.set (upd S1.ρ [(9, o9)]) [] 50 rfl hK, ⟨_, [], _, 1000, _, [], (ai wCR2 false d2 (ai wCR1 true d1 (ai wCR0 true d0 (AlOk.nil _)))), hcs, LkOk.no _ _ _ _, (av 12 .i64 (av 12 .i64 (an 9 (.bin .add (.var .i64 9) (.lit .i64 1)) (sm h_o9.symm) (av 12 .i64 (ar 50 (ar_var 50) (asg_nil rfl)))))), fun G => by kernel_rfl⟩, (show o9 = S1.ρ 9 + 1 by omega), (Stay.refl [9] [] _).set rfl rfl⟩
  · have d2 : wCR2.den S1 = some [b2i true] := tr (p := (8 : Int) ≤ (S1.Φ 50 [S1.ρ 9])) (Int.not_lt.1 c2)
    by_cases c3 : (64 : Int) < (S1.Φ 50 [S1.ρ 9])
    · have d3 : wCR3.den S1 = some [b2i false] := fls (p := (S1.Φ 50 [S1.ρ 9]) ≤ (64 : Int)) (Int.not_le.2 c3)
      obtain ⟨o9, h_o9⟩ : ∃ o : Int, o = (IntKind.i64.wrap (S1.ρ 9 + (1 : Int))) := ⟨_, rfl⟩
      have u := h_o9
      rw [w_i64 (by omega) (by omega)] at u
      exact ⟨S1.set (upd S1.ρ [(9, o9)]) [] 50 rfl hK, ⟨_, [], _, 1000, _, [], (ai wCR3 false d3 (ai wCR2 true d2 (ai wCR1 true d1 (ai wCR0 true d0 (AlOk.nil _))))), hcs, LkOk.no _ _ _ _, (av 12 .i64 (av 12 .i64 (an 9 (.bin .add (.var .i64 9) (.lit .i64 1)) (sm h_o9.symm) (av 12 .i64 (ar 50 (ar_var 50) (asg_nil rfl)))))), fun G => by kernel_rfl⟩, (show o9 = S1.ρ 9 + 1 by omega), (Stay.refl [9] [] _).set rfl rfl⟩
    · have d3 : wCR3.den S1 = some [b2i true] := tr (p := (S1.Φ 50 [S1.ρ 9]) ≤ (64 : Int)) (Int.not_lt.1 c3)
      have c4 : ¬ ((((S1.Φ 50 [S1.ρ 9])).tmod (8 : Int)) = (0 : Int)) := by intro hh; exact hv ⟨by omega, by omega, hh⟩
      have d4 : wCR4.den S1 = some [b2i false] := fls (p := (((S1.Φ 50 [S1.ρ 9])).tmod (8 : Int)) = (0 : Int)) c4
      obtain ⟨o9, h_o9⟩ : ∃ o : Int, o = (IntKind.i64.wrap (S1.ρ 9 + (1 : Int))) := ⟨_, rfl⟩
      have u := h_o9
      rw [w_i64 (by omega) (by omega)] at u
      exact ⟨S1.set (upd S1.ρ [(9, o9)]) [] 50 rfl hK, ⟨_, [], _, 1000, _, [], (ai wCR4 false d4 (ai wCR3 true d3 (ai wCR2 true d2 (ai wCR1 true d1 (ai wCR0 true d0 (AlOk.nil _)))))), hcs, LkOk.no _ _ _ _, (av 12 .i64 (av 12 .i64 (an 9 (.bin .add (.var .i64 9) (.lit .i64 1)) (sm h_o9.symm) (av 12 .i64 (ar 50 (ar_var 50) (asg_nil rfl)))))), fun G => by kernel_rfl⟩, (show o9 = S1.ρ 9 + 1 by omega), (Stay.refl [9] [] _).set rfl rfl⟩
theorem chainCR : ∀ (m : Nat) (S0 : Sy), 0 ≤ S0.ρ 9 → S0.ρ 9 + m ≤ S0.ρ 12 → S0.ρ 12 ≤ 4096 → (∀ j : Nat, j < m → ¬ okS (S0.Φ 50 [S0.ρ 9 + j])) → (∀ x ∈ S0.I, x.f + x.ks.length ≤ 50) →
    ∃ Sa, Chain (StepTo Try.prog ftW ΛW [] (cAt Try.prog lpWM) XC0W F1rW 3) m S0 Sa ∧ Sa.ρ 9 = S0.ρ 9 + m ∧ Stay [9] [] S0 Sa
  | 0, S0, _, _, _, _, _ => ⟨S0, .nil _, by simp, Stay.refl _ _ _⟩
  | m + 1, S0, h0, h1, h2, hv, hK => by
    obtain ⟨S2, st, e4, y⟩ := nilCR h0 (by omega) h2 (by have := hv 0 (by omega); simpa using this) hK
    have e1 := y.num 12 rfl
    obtain ⟨Sa, ch, f4, z⟩ := chainCR m S2 (by omega) (by omega) (by omega) (fun j hj => by
      have := hv (j + 1) (by omega)
      rw [y.fn 50 rfl, e4]
      rwa [show S0.ρ 9 + 1 + (j : Int) = S0.ρ 9 + ((j + 1 : Nat) : Int) by omega]) (by rw [y.1]; exact hK)
    exact ⟨Sa, .cons st ch, by omega, stay_weak (y.trans z) rfl rfl⟩
def wONC0 : Tm := (.bin .lss (.var .i64 9) (.var .i64 12))
theorem outCN {S1 T : Sy} (h1 : S1.ρ 9 = S1.ρ 12) (hT : Same [] [] S1 T) : StepOut Try.prog ftW ΛW [] (cAt Try.prog lpWM) XC0W FAW (.exit 0) 3 S1 T := by
  have hcs : ∀ c ∈ ([] : List Ctr), CtrOk Try.prog S1 [] c := fun c hc => by simp at hc
  have c0 : ¬ (S1.ρ 9 < S1.ρ 12) := by omega
  have d0 : wONC0.den S1 = some [b2i false] := fls (p := S1.ρ 9 < S1.ρ 12) c0
  exact ⟨_, [], _, 1000, _, [], (ai wONC0 false d0 (AlOk.nil _)), hcs, LkOk.no _ _ _ _, (asg_nil hT.1), fun G => by kernel_rfl⟩
theorem loopCN (S0 : Sy) (n : Nat) (hn : n ≤ 4096) (hi : S0.ρ 9 = 0) (hb : S0.ρ 12 = n) (hv : flt (fun j => S0.Φ 50 [(j : Int)]) n = []) (hK : ∀ x ∈ S0.I, x.f + x.ks.length ≤ 50) :
    ∃ Sf, Stay [9] [] S0 Sf ∧ ∀ T asg0, Same [] [] Sf T → AsgOk T S0 asg0 → LkAt Try.prog T [] (.loop (cAt Try.prog lpWM)) (lkLoopR Try.prog 3 [] XC0W FAW (.exit 0) asg0) := by
  obtain ⟨Sf, ch, e, y⟩ := chainCN n S0 (by omega) (by omega) (by omega) (fun j hj => by rw [hi, Int.zero_add]; exact flt_nil hv j hj) hK
  have y1 := y.num 12 rfl
  exact ⟨Sf, y, fun T asg0 hs ha => loop_chain envW (ann_self _) fineWM (show XC0W.N = FAW.N from rfl) (Nat.le_of_ble_eq_true rfl) ch (outCN (by omega) hs) ha⟩
def wXC8_0 : Tm := (.bin .lss (.var .i64 9) (.var .i64 12))
def wXC8_1 : Tm := (.bin .geq (.var .i64 9) (.lit .i64 0))
def wXC16_0 : Tm := (.bin .lss (.var .i64 9) (.var .i64 12))
def wXC16_1 : Tm := (.bin .geq (.var .i64 9) (.lit .i64 0))
def wXC24_0 : Tm := (.bin .lss (.var .i64 9) (.var .i64 12))
def wXC24_1 : Tm := (.bin .geq (.var .i64 9) (.lit .i64 0))
def wXC32_0 : Tm := (.bin .lss (.var .i64 9) (.var .i64 12))
def wXC32_1 : Tm := (.bin .geq (.var .i64 9) (.lit .i64 0))
def wXC40_0 : Tm := (.bin .lss (.var .i64 9) (.var .i64 12))
def wXC40_1 : Tm := (.bin .geq (.var .i64 9) (.lit .i64 0))
def wXC48_0 : Tm := (.bin .lss (.var .i64 9) (.var .i64 12))
def wXC48_1 : Tm := (.bin .geq (.var .i64 9) (.lit .i64 0))
def wXC56_0 : Tm := (.bin .lss (.var .i64 9) (.var .i64 12))
def wXC56_1 : Tm := (.bin .geq (.var .i64 9) (.lit .i64 0))
def wXC64_0 : Tm := (.bin .lss (.var .i64 9) (.var .i64 12))
def wXC64_1 : Tm := (.bin .geq (.var .i64 9) (.lit .i64 0))
theorem crossC {S1 : Sy} (h0 : 0 ≤ S1.ρ 9) (h1 : S1.ρ 9 < S1.ρ 12) (h2 : S1.ρ 12 ≤ 4096) (hv : okS (S1.Φ 50 [S1.ρ 9])) (hK : ∀ x ∈ S1.I, x.f + x.ks.length ≤ 50) :
    ∃ S2, StepX Try.prog ftW ΛW [] (cAt Try.prog lpWM) XC0W XC1W F1rW 3 S1 S2 ∧ S2.ρ 9 = S1.ρ 9 + 1 ∧ RowIs S2 8 60 [S1.Φ 50 [S1.ρ 9]] ∧ Stay [9, 8] [60, 61, 62] S1 S2 := by
  have hcs : ∀ c ∈ ([] : List Ctr), CtrOk Try.prog S1 [] c := fun c hc => by simp at hc
  rcases okS_cases hv with hk | hk | hk | hk | hk | hk | hk | hk
  · have c0 : S1.ρ 9 < S1.ρ 12 := by omega
    have d0 : wXC8_0.den S1 = some [b2i true] := tr (p := S1.ρ 9 < S1.ρ 12) c0
    have c1 : ¬ (S1.ρ 9 < (0 : Int)) := by omega
    have d1 : wXC8_1.den S1 = some [b2i true] := tr (p := (0 : Int) ≤ S1.ρ 9) (Int.not_lt.1 c1)
    obtain ⟨o8, h_o8⟩ : ∃ o : Int, o = (1 : Int) := ⟨_, rfl⟩
    obtain ⟨o9, h_o9⟩ : ∃ o : Int, o = (IntKind.i64.wrap (S1.ρ 9 + (1 : Int))) := ⟨_, rfl⟩
    have u := h_o9
    rw [w_i64 (by omega) (by omega)] at u
    exact ⟨S1.set (upd S1.ρ [(8, o8), (9, o9)]) [(60, (fun j => ifE j ((0 : Int)) ((8 : Int)) ((fun _ => 0) j))), (61, (fun j => ifE j ((0 : Int)) ((8 : Int)) ((fun _ => 0) j))), (62, (fun j => ifE j ((0 : Int)) ((8 : Int)) ((fun _ => 0) j)))] 50 rfl hK, ⟨_, [], _, 1000, _, [(3, 6)], (ai wXC8_1 true d1 (ai wXC8_0 true d0 (ain (sqW 50 9) .i64 8 (sm hk) (AlOk.nil _)))), hcs, LkOk.no _ _ _ _, (an 8 (.lit .i64 1) (sm h_o8.symm) (av 12 .i64 (av 12 .i64 (an 9 (.bin .add (.var .i64 9) (.lit .i64 1)) (sm h_o9.symm) (av 12 .i64 (ar 50 (ar_var 50) (an 8 (.lit .i64 1) (sm h_o8.symm) (ar 60 (ar_upd (.lit .i64 0) (.lit .i64 8) (i := (0 : Int)) (v := (8 : Int)) rfl rfl (by kernel_rfl) ar_zero) (ar 61 (ar_upd (.lit .i64 0) (.lit .i64 8) (i := (0 : Int)) (v := (8 : Int)) rfl rfl (by kernel_rfl) ar_zero) (ar 62 (ar_upd (.lit .i64 0) (.lit .i64 8) (i := (0 : Int)) (v := (8 : Int)) rfl rfl (by kernel_rfl) ar_zero) (asg_nil rfl))))))))))), fun G => by kernel_rfl⟩, (show o9 = S1.ρ 9 + 1 by omega), RowIs.one (isC_of 0 ⟨rfl, rfl, rfl⟩) hk h_o8 (fun _ => rfl) (fun _ => rfl) (fun _ => rfl), (Stay.refl [9, 8] [60, 61, 62] _).set rfl rfl⟩
  · have c0 : S1.ρ 9 < S1.ρ 12 := by omega
    have d0 : wXC16_0.den S1 = some [b2i true] := tr (p := S1.ρ 9 < S1.ρ 12) c0
    have c1 : ¬ (S1.ρ 9 < (0 : Int)) := by omega
    have d1 : wXC16_1.den S1 = some [b2i true] := tr (p := (0 : Int) ≤ S1.ρ 9) (Int.not_lt.1 c1)
    obtain ⟨o8, h_o8⟩ : ∃ o : Int, o = (1 : Int) := ⟨_, rfl⟩
    obtain ⟨o9, h_o9⟩ : ∃ o : Int, o = (IntKind.i64.wrap (S1.ρ 9 + (1 : Int))) := ⟨_, rfl⟩
    have u := h_o9
    rw [w_i64 (by omega) (by omega)] at u
    exact ⟨S1.set (upd S1.ρ [(8, o8), (9, o9)]) [(60, (fun j => ifE j ((0 : Int)) ((16 : Int)) ((fun _ => 0) j))), (61, (fun j => ifE j ((0 : Int)) ((16 : Int)) ((fun _ => 0) j))), (62, (fun j => ifE j ((0 : Int)) ((4 : Int)) ((fun _ => 0) j)))] 50 rfl hK, ⟨_, [], _, 1000, _, [(3, 6)], (ai wXC16_1 true d1 (ai wXC16_0 true d0 (ain (sqW 50 9) .i64 16 (sm hk) (AlOk.nil _)))), hcs, LkOk.no _ _ _ _, (an 8 (.lit .i64 1) (sm h_o8.symm) (av 12 .i64 (av 12 .i64 (an 9 (.bin .add (.var .i64 9) (.lit .i64 1)) (sm h_o9.symm) (av 12 .i64 (ar 50 (ar_var 50) (an 8 (.lit .i64 1) (sm h_o8.symm) (ar 60 (ar_upd (.lit .i64 0) (.lit .i64 16) (i := (0 : Int)) (v := (16 : Int)) rfl rfl (by kernel_rfl) ar_zero) (ar 61 (ar_upd (.lit .i64 0) (.lit .i64 16) (i := (0 : Int)) (v := (16 : Int)) rfl rfl (by kernel_rfl) ar_zero) (ar 62 (ar_upd (.lit .i64 0) (.lit .i64 4) (i := (0 : Int)) (v := (4 : Int)) rfl rfl (by kernel_rfl) ar_zero) (asg_nil rfl))))))))))), fun G => by kernel_rfl⟩, (show o9 = S1.ρ 9 + 1 by omega), RowIs.one (isC_of 1 ⟨rfl, rfl, rfl⟩) hk h_o8 (fun _ => rfl) (fun _ => rfl) (fun _ => rfl), (Stay.refl [9, 8] [60, 61, 62] _).set rfl rfl⟩
  · have c0 : S1.ρ 9 < S1.ρ 12 := by omega
    have d0 : wXC24_0.den S1 = some [b2i true] := tr (p := S1.ρ 9 < S1.ρ 12) c0
    have c1 : ¬ (S1.ρ 9 < (0 : Int)) := by omega
    have d1 : wXC24_1.den S1 = some [b2i true] := tr (p := (0 : Int) ≤ S1.ρ 9) (Int.not_lt.1 c1)
    obtain ⟨o8, h_o8⟩ : ∃ o : Int, o = (1 : Int) := ⟨_, rfl⟩
    obtain ⟨o9, h_o9⟩ : ∃ o : Int, o = (IntKind.i64.wrap (S1.ρ 9 + (1 : Int))) := ⟨_, rfl⟩
    have u := h_o9
    rw [w_i64 (by omega) (by omega)] at u
    exact ⟨S1.set (upd S1.ρ [(8, o8), (9, o9)]) [(60, (fun j => ifE j ((0 : Int)) ((24 : Int)) ((fun _ => 0) j))), (61, (fun j => ifE j ((0 : Int)) ((8 : Int)) ((fun _ => 0) j))), (62, (fun j => ifE j ((0 : Int)) ((2 : Int)) ((fun _ => 0) j)))] 50 rfl hK, ⟨_, [], _, 1000, _, [(3, 6)], (ai wXC24_1 true d1 (ai wXC24_0 true d0 (ain (sqW 50 9) .i64 24 (sm hk) (AlOk.nil _)))), hcs, LkOk.no _ _ _ _, (an 8 (.lit .i64 1) (sm h_o8.symm) (av 12 .i64 (av 12 .i64 (an 9 (.bin .add (.var .i64 9) (.lit .i64 1)) (sm h_o9.symm) (av 12 .i64 (ar 50 (ar_var 50) (an 8 (.lit .i64 1) (sm h_o8.symm) (ar 60 (ar_upd (.lit .i64 0) (.lit .i64 24) (i := (0 : Int)) (v := (24 : Int)) rfl rfl (by kernel_rfl) ar_zero) (ar 61 (ar_upd (.lit .i64 0) (.lit .i64 8) (i := (0 : Int)) (v := (8 : Int)) rfl rfl (by kernel_rfl) ar_zero) (ar 62 (ar_upd (.lit .i64 0) (.lit .i64 2) (i := (0 : Int)) (v := (2 : Int)) rfl rfl (by kernel_rfl) ar_zero) (asg_nil rfl))))))))))), fun G => by kernel_rfl⟩, (show o9 = S1.ρ 9 + 1 by omega), RowIs.one (isC_of 2 ⟨rfl, rfl, rfl⟩) hk h_o8 (fun _ => rfl) (fun _ => rfl) (fun _ => rfl), (Stay.refl [9, 8] [60, 61, 62] _).set rfl rfl⟩
  · have c0 : S1.ρ 9 < S1.ρ 12 := by omega
    have d0 : wXC32_0.den S1 = some [b2i true] := tr (p := S1.ρ 9 < S1.ρ 12) c0
    have c1 : ¬ (S1.ρ 9 < (0 : Int)) := by omega
    have d1 : wXC32_1.den S1 = some [b2i true] := tr (p := (0 : Int) ≤ S1.ρ 9) (Int.not_lt.1 c1)
    obtain ⟨o8, h_o8⟩ : ∃ o : Int, o = (1 : Int) := ⟨_, rfl⟩
    obtain ⟨o9, h_o9⟩ : ∃ o : Int, o = (IntKind.i64.wrap (S1.ρ 9 + (1 : Int))) := ⟨_, rfl⟩
    have u := h_o9
    rw [w_i64 (by omega) (by omega)] at u
    exact ⟨S1.set (upd S1.ρ [(8, o8), (9, o9)]) [(60, (fun j => ifE j ((0 : Int)) ((32 : Int)) ((fun _ => 0) j))), (61, (fun j => ifE j ((0 : Int)) ((32 : Int)) ((fun _ => 0) j))), (62, (fun j => ifE j ((0 : Int)) ((2 : Int)) ((fun _ => 0) j)))] 50 rfl hK, ⟨_, [], _, 1000, _, [(3, 6)], (ai wXC32_1 true d1 (ai wXC32_0 true d0 (ain (sqW 50 9) .i64 32 (sm hk) (AlOk.nil _)))), hcs, LkOk.no _ _ _ _, (an 8 (.lit .i64 1) (sm h_o8.symm) (av 12 .i64 (av 12 .i64 (an 9 (.bin .add (.var .i64 9) (.lit .i64 1)) (sm h_o9.symm) (av 12 .i64 (ar 50 (ar_var 50) (an 8 (.lit .i64 1) (sm h_o8.symm) (ar 60 (ar_upd (.lit .i64 0) (.lit .i64 32) (i := (0 : Int)) (v := (32 : Int)) rfl rfl (by kernel_rfl) ar_zero) (ar 61 (ar_upd (.lit .i64 0) (.lit .i64 32) (i := (0 : Int)) (v := (32 : Int)) rfl rfl (by kernel_rfl) ar_zero) (ar 62 (ar_upd (.lit .i64 0) (.lit .i64 2) (i := (0 : Int)) (v := (2 : Int)) rfl rfl (by kernel_rfl) ar_zero) (asg_nil rfl))))))))))), fun G => by kernel_rfl⟩, (show o9 = S1.ρ 9 + 1 by omega), RowIs.one (isC_of 3 ⟨rfl, rfl, rfl⟩) hk h_o8 (fun _ => rfl) (fun _ => rfl) (fun _ => rfl), (Stay.refl [9, 8] [60, 61, 62] _).set rfl rfl⟩
  · have c0 : S1.ρ 9 < S1.ρ 12 := by omega
    have d0 : wXC40_0.den S1 = some [b2i true] := tr (p := S1.ρ 9 < S1.ρ 12) c0
    have c1 : ¬ (S1.ρ 9 < (0 : Int)) := by omega
    have d1 : wXC40_1.den S1 = some [b2i true] := tr (p := (0 : Int) ≤ S1.ρ 9) (Int.not_lt.1 c1)
    obtain ⟨o8, h_o8⟩ : ∃ o : Int, o = (1 : Int) := ⟨_, rfl⟩
    obtain ⟨o9, h_o9⟩ : ∃ o : Int, o = (IntKind.i64.wrap (S1.ρ 9 + (1 : Int))) := ⟨_, rfl⟩
    have u := h_o9
    rw [w_i64 (by omega) (by omega)] at u
    exact ⟨S1.set (upd S1.ρ [(8, o8), (9, o9)]) [(60, (fun j => ifE j ((0 : Int)) ((40 : Int)) ((fun _ => 0) j))), (61, (fun j => ifE j ((0 : Int)) ((8 : Int)) ((fun _ => 0) j))), (62, (fun j => ifE j ((0 : Int)) ((1 : Int)) ((fun _ => 0) j)))] 50 rfl hK, ⟨_, [], _, 1000, _, [(3, 6)], (ai wXC40_1 true d1 (ai wXC40_0 true d0 (ain (sqW 50 9) .i64 40 (sm hk) (AlOk.nil _)))), hcs, LkOk.no _ _ _ _, (an 8 (.lit .i64 1) (sm h_o8.symm) (av 12 .i64 (av 12 .i64 (an 9 (.bin .add (.var .i64 9) (.lit .i64 1)) (sm h_o9.symm) (av 12 .i64 (ar 50 (ar_var 50) (an 8 (.lit .i64 1) (sm h_o8.symm) (ar 60 (ar_upd (.lit .i64 0) (.lit .i64 40) (i := (0 : Int)) (v := (40 : Int)) rfl rfl (by kernel_rfl) ar_zero) (ar 61 (ar_upd (.lit .i64 0) (.lit .i64 8) (i := (0 : Int)) (v := (8 : Int)) rfl rfl (by kernel_rfl) ar_zero) (ar 62 (ar_upd (.lit .i64 0) (.lit .i64 1) (i := (0 : Int)) (v := (1 : Int)) rfl rfl (by kernel_rfl) ar_zero) (asg_nil rfl))))))))))), fun G => by kernel_rfl⟩, (show o9 = S1.ρ 9 + 1 by omega), RowIs.one (isC_of 4 ⟨rfl, rfl, rfl⟩) hk h_o8 (fun _ => rfl) (fun _ => rfl) (fun _ => rfl), (Stay.refl [9, 8] [60, 61, 62] _).set rfl rfl⟩
  · have c0 : S1.ρ 9 < S1.ρ 12 := by omega
    have d0 : wXC48_0.den S1 = some [b2i true] := tr (p := S1.ρ 9 < S1.ρ 12) c0
    have c1 : ¬ (S1.ρ 9 < (0 : Int)) := by omega
    have d1 : wXC48_1.den S1 = some [b2i true] := tr (p := (0 : Int) ≤ S1.ρ 9) (Int.not_lt.1 c1)
    obtain ⟨o8, h_o8⟩ : ∃ o : Int, o = (1 : Int) := ⟨_, rfl⟩
    obtain ⟨o9, h_o9⟩ : ∃ o : Int, o = (IntKind.i64.wrap (S1.ρ 9 + (1 : Int))) := ⟨_, rfl⟩
    have u := h_o9
    rw [w_i64 (by omega) (by omega)] at u
    exact ⟨S1.set (upd S1.ρ [(8, o8), (9, o9)]) [(60, (fun j => ifE j ((0 : Int)) ((48 : Int)) ((fun _ => 0) j))), (61, (fun j => ifE j ((0 : Int)) ((16 : Int)) ((fun _ => 0) j))), (62, (fun j => ifE j ((0 : Int)) ((1 : Int)) ((fun _ => 0) j)))] 50 rfl hK, ⟨_, [], _, 1000, _, [(3, 6)], (ai wXC48_1 true d1 (ai wXC48_0 true d0 (ain (sqW 50 9) .i64 48 (sm hk) (AlOk.nil _)))), hcs, LkOk.no _ _ _ _, (an 8 (.lit .i64 1) (sm h_o8.symm) (av 12 .i64 (av 12 .i64 (an 9 (.bin .add (.var .i64 9) (.lit .i64 1)) (sm h_o9.symm) (av 12 .i64 (ar 50 (ar_var 50) (an 8 (.lit .i64 1) (sm h_o8.symm) (ar 60 (ar_upd (.lit .i64 0) (.lit .i64 48) (i := (0 : Int)) (v := (48 : Int)) rfl rfl (by kernel_rfl) ar_zero) (ar 61 (ar_upd (.lit .i64 0) (.lit .i64 16) (i := (0 : Int)) (v := (16 : Int)) rfl rfl (by kernel_rfl) ar_zero) (ar 62 (ar_upd (.lit .i64 0) (.lit .i64 1) (i := (0 : Int)) (v := (1 : Int)) rfl rfl (by kernel_rfl) ar_zero) (asg_nil rfl))))))))))), fun G => by kernel_rfl⟩, (show o9 = S1.ρ 9 + 1 by omega), RowIs.one (isC_of 5 ⟨rfl, rfl, rfl⟩) hk h_o8 (fun _ => rfl) (fun _ => rfl) (fun _ => rfl), (Stay.refl [9, 8] [60, 61, 62] _).set rfl rfl⟩
  · have c0 : S1.ρ 9 < S1.ρ 12 := by omega
    have d0 : wXC56_0.den S1 = some [b2i true] := tr (p := S1.ρ 9 < S1.ρ 12) c0
    have c1 : ¬ (S1.ρ 9 < (0 : Int)) := by omega
    have d1 : wXC56_1.den S1 = some [b2i true] := tr (p := (0 : Int) ≤ S1.ρ 9) (Int.not_lt.1 c1)
    obtain ⟨o8, h_o8⟩ : ∃ o : Int, o = (1 : Int) := ⟨_, rfl⟩
    obtain ⟨o9, h_o9⟩ : ∃ o : Int, o = (IntKind.i64.wrap (S1.ρ 9 + (1 : Int))) := ⟨_, rfl⟩
    have u := h_o9
    rw [w_i64 (by omega) (by omega)] at u
    exact ⟨S1.set (upd S1.ρ [(8, o8), (9, o9)]) [(60, (fun j => ifE j ((0 : Int)) ((56 : Int)) ((fun _ => 0) j))), (61, (fun j => ifE j ((0 : Int)) ((8 : Int)) ((fun _ => 0) j))), (62, (fun j => ifE j ((0 : Int)) ((1 : Int)) ((fun _ => 0) j)))] 50 rfl hK, ⟨_, [], _, 1000, _, [(3, 6)], (ai wXC56_1 true d1 (ai wXC56_0 true d0 (ain (sqW 50 9) .i64 56 (sm hk) (AlOk.nil _)))), hcs, LkOk.no _ _ _ _, (an 8 (.lit .i64 1) (sm h_o8.symm) (av 12 .i64 (av 12 .i64 (an 9 (.bin .add (.var .i64 9) (.lit .i64 1)) (sm h_o9.symm) (av 12 .i64 (ar 50 (ar_var 50) (an 8 (.lit .i64 1) (sm h_o8.symm) (ar 60 (ar_upd (.lit .i64 0) (.lit .i64 56) (i := (0 : Int)) (v := (56 : Int)) rfl rfl (by kernel_rfl) ar_zero) (ar 61 (ar_upd (.lit .i64 0) (.lit .i64 8) (i := (0 : Int)) (v := (8 : Int)) rfl rfl (by kernel_rfl) ar_zero) (ar 62 (ar_upd (.lit .i64 0) (.lit .i64 1) (i := (0 : Int)) (v := (1 : Int)) rfl rfl (by kernel_rfl) ar_zero) (asg_nil rfl))))))))))), fun G => by kernel_rfl⟩, (show o9 = S1.ρ 9 + 1 by omega), RowIs.one (isC_of 6 ⟨rfl, rfl, rfl⟩) hk h_o8 (fun _ => rfl) (fun _ => rfl) (fun _ => rfl), (Stay.refl [9, 8] [60, 61, 62] _).set rfl rfl⟩
  · have c0 : S1.ρ 9 < S1.ρ 12 := by omega
    have d0 : wXC64_0.den S1 = some [b2i true] := tr (p := S1.ρ 9 < S1.ρ 12) c0
    have c1 : ¬ (S1.ρ 9 < (0 : Int)) := by omega
    have d1 : wXC64_1.den S1 = some [b2i true] := tr (p := (0 : Int) ≤ S1.ρ 9) (Int.not_lt.1 c1)
    obtain ⟨o8, h_o8⟩ : ∃ o : Int, o = (1 : Int) := ⟨_, rfl⟩
    obtain ⟨o9, h_o9⟩ : ∃ o : Int, o = (IntKind.i64.wrap (S1.ρ 9 + (1 : Int))) := ⟨_, rfl⟩
    have u := h_o9
    rw [w_i64 (by omega) (by omega)] at u
    exact ⟨S1.set (upd S1.ρ [(8, o8), (9, o9)]) [(60, (fun j => ifE j ((0 : Int)) ((64 : Int)) ((fun _ => 0) j))), (61, (fun j => ifE j ((0 : Int)) ((64 : Int)) ((fun _ => 0) j))), (62, (fun j => ifE j ((0 : Int)) ((1 : Int)) ((fun _ => 0) j)))] 50 rfl hK, ⟨_, [], _, 1000, _, [(3, 6)], (ai wXC64_1 true d1 (ai wXC64_0 true d0 (ain (sqW 50 9) .i64 64 (sm hk) (AlOk.nil _)))), hcs, LkOk.no _ _ _ _, (an 8 (.lit .i64 1) (sm h_o8.symm) (av 12 .i64 (av 12 .i64 (an 9 (.bin .add (.var .i64 9) (.lit .i64 1)) (sm h_o9.symm) (av 12 .i64 (ar 50 (ar_var 50) (an 8 (.lit .i64 1) (sm h_o8.symm) (ar 60 (ar_upd (.lit .i64 0) (.lit .i64 64) (i := (0 : Int)) (v := (64 : Int)) rfl rfl (by kernel_rfl) ar_zero) (ar 61 (ar_upd (.lit .i64 0) (.lit .i64 64) (i := (0 : Int)) (v := (64 : Int)) rfl rfl (by kernel_rfl) ar_zero) (ar 62 (ar_upd (.lit .i64 0) (.lit .i64 1) (i := (0 : Int)) (v := (1 : Int)) rfl rfl (by kernel_rfl) ar_zero) (asg_nil rfl))))))))))), fun G => by kernel_rfl⟩, (show o9 = S1.ρ 9 + 1 by omega), RowIs.one (isC_of 7 ⟨rfl, rfl, rfl⟩) hk h_o8 (fun _ => rfl) (fun _ => rfl) (fun _ => rfl), (Stay.refl [9, 8] [60, 61, 62] _).set rfl rfl⟩
def wYC0 : Tm := (.bin .lss (.var .i64 9) (.var .i64 12))
def wYC1 : Tm := (.bin .geq (.var .i64 9) (.lit .i64 0))
def wYC2 : Tm := (.bin .geq (.app .i64 50 (.cons (.var .i64 9) .nil)) (.lit .i64 8))
def wYC3 : Tm := (.bin .leq (.app .i64 50 (.cons (.var .i64 9) .nil)) (.lit .i64 64))
def wYC4 : Tm := (.bin .eql (.bin .rem (.app .i64 50 (.cons (.var .i64 9) .nil)) (.lit .i64 8)) (.lit .i64 0))
def wTC8_0 : Tm := (.bin .lss (.var .i64 9) (.var .i64 12))
def wTC8_1 : Tm := (.bin .geq (.var .i64 9) (.lit .i64 0))
def wTC8_2 : Tm := (.bin .geq (.var .i64 8) (.lit .i64 0))
def wTC8_3 : Tm := (.bin .lss (.var .i64 8) (.lit .i64 4194304))
def wTC8_4 : Tm := (.bin .lss (.bin .add (.var .i64 8) (.lit .i64 1)) (.lit .i64 4194304))
def wTC16_0 : Tm := (.bin .lss (.var .i64 9) (.var .i64 12))
def wTC16_1 : Tm := (.bin .geq (.var .i64 9) (.lit .i64 0))
def wTC16_2 : Tm := (.bin .geq (.var .i64 8) (.lit .i64 0))
def wTC16_3 : Tm := (.bin .lss (.var .i64 8) (.lit .i64 4194304))
def wTC16_4 : Tm := (.bin .lss (.bin .add (.var .i64 8) (.lit .i64 1)) (.lit .i64 4194304))
def wTC24_0 : Tm := (.bin .lss (.var .i64 9) (.var .i64 12))
def wTC24_1 : Tm := (.bin .geq (.var .i64 9) (.lit .i64 0))
def wTC24_2 : Tm := (.bin .geq (.var .i64 8) (.lit .i64 0))
def wTC24_3 : Tm := (.bin .lss (.var .i64 8) (.lit .i64 4194304))
def wTC24_4 : Tm := (.bin .lss (.bin .add (.var .i64 8) (.lit .i64 1)) (.lit .i64 4194304))
def wTC32_0 : Tm := (.bin .lss (.var .i64 9) (.var .i64 12))
def wTC32_1 : Tm := (.bin .geq (.var .i64 9) (.lit .i64 0))
def wTC32_2 : Tm := (.bin .geq (.var .i64 8) (.lit .i64 0))
def wTC32_3 : Tm := (.bin .lss (.var .i64 8) (.lit .i64 4194304))
def wTC32_4 : Tm := (.bin .lss (.bin .add (.var .i64 8) (.lit .i64 1)) (.lit .i64 4194304))
def wTC40_0 : Tm := (.bin .lss (.var .i64 9) (.var .i64 12))
def wTC40_1 : Tm := (.bin .geq (.var .i64 9) (.lit .i64 0))
def wTC40_2 : Tm := (.bin .geq (.var .i64 8) (.lit .i64 0))
def wTC40_3 : Tm := (.bin .lss (.var .i64 8) (.lit .i64 4194304))
def wTC40_4 : Tm := (.bin .lss (.bin .add (.var .i64 8) (.lit .i64 1)) (.lit .i64 4194304))
def wTC48_0 : Tm := (.bin .lss (.var .i64 9) (.var .i64 12))
def wTC48_1 : Tm := (.bin .geq (.var .i64 9) (.lit .i64 0))
def wTC48_2 : Tm := (.bin .geq (.var .i64 8) (.lit .i64 0))
def wTC48_3 : Tm := (.bin .lss (.var .i64 8) (.lit .i64 4194304))
def wTC48_4 : Tm := (.bin .lss (.bin .add (.var .i64 8) (.lit .i64 1)) (.lit .i64 4194304))
def wTC56_0 : Tm := (.bin .lss (.var .i64 9) (.var .i64 12))
def wTC56_1 : Tm := (.bin .geq (.var .i64 9) (.lit .i64 0))
def wTC56_2 : Tm := (.bin .geq (.var .i64 8) (.lit .i64 0))
def wTC56_3 : Tm := (.bin .lss (.var .i64 8) (.lit .i64 4194304))
def wTC56_4 : Tm := (.bin .lss (.bin .add (.var .i64 8) (.lit .i64 1)) (.lit .i64 4194304))
def wTC64_0 : Tm := (.bin .lss (.var .i64 9) (.var .i64 12))
def wTC64_1 : Tm := (.bin .geq (.var .i64 9) (.lit .i64 0))
def wTC64_2 : Tm := (.bin .geq (.var .i64 8) (.lit .i64 0))
def wTC64_3 : Tm := (.bin .lss (.var .i64 8) (.lit .i64 4194304))
def wTC64_4 : Tm := (.bin .lss (.bin .add (.var .i64 8) (.lit .i64 1)) (.lit .i64 4194304))
theorem rowC {S1 : Sy} {l : List Int} (h0 : 0 ≤ S1.ρ 9) (h1 : S1.ρ 9 < S1.ρ 12) (h2 : S1.ρ 12 ≤ 4096) (h3 : l.length ≤ 4096) (hr : RowIs S1 8 60 l) (hK : ∀ x ∈ S1.I, x.f + x.ks.length ≤ 50) :
    ∃ S2, StepTo Try.prog ftW ΛW [] (cAt Try.prog lpWM) XC1W F1rW 3 S1 S2 ∧ S2.ρ 9 = S1.ρ 9 + 1 ∧ RowIs S2 8 60 (if okS (S1.Φ 50 [S1.ρ 9]) then l ++ [S1.Φ 50 [S1.ρ 9]] else l) ∧ Stay [9, 8] [60, 61, 62] S1 S2 := by
  have hcs : ∀ c ∈ ([] : List Ctr), CtrOk Try.prog S1 [] c := fun c hc => by simp at hc
  have h4 := hr.1
  by_cases hv : okS (S1.Φ 50 [S1.ρ 9])
  · rcases okS_cases hv with hk | hk | hk | hk | hk | hk | hk | hk
    · have c0 : S1.ρ 9 < S1.ρ 12 := by omega
      have d0 : wTC8_0.den S1 = some [b2i true] := tr (p := S1.ρ 9 < S1.ρ 12) c0
      have c1 : ¬ (S1.ρ 9 < (0 : Int)) := by omega
      have d1 : wTC8_1.den S1 = some [b2i true] := tr (p := (0 : Int) ≤ S1.ρ 9) (Int.not_lt.1 c1)
      have c2 : ¬ (S1.ρ 8 < (0 : Int)) := by omega
      have d2 : wTC8_2.den S1 = some [b2i true] := tr (p := (0 : Int) ≤ S1.ρ 8) (Int.not_lt.1 c2)
      have c3 : S1.ρ 8 < (4194304 : Int) := by omega
      have d3 : wTC8_3.den S1 = some [b2i true] := tr (p := S1.ρ 8 < (4194304 : Int)) c3
      have c4 : (IntKind.i64.wrap (S1.ρ 8 + (1 : Int))) < (4194304 : Int) := by rw [w_i64 (by omega) (by omega)]; omega
      have d4 : wTC8_4.den S1 = some [b2i true] := tr (p := (IntKind.i64.wrap (S1.ρ 8 + (1 : Int))) < (4194304 : Int)) c4
      obtain ⟨o8, h_o8⟩ : ∃ o : Int, o = (IntKind.i64.wrap (S1.ρ 8 + (1 : Int))) := ⟨_, rfl⟩
      obtain ⟨o9, h_o9⟩ : ∃ o : Int, o = (IntKind.i64.wrap (S1.ρ 9 + (1 : Int))) := ⟨_, rfl⟩
      have u := h_o9
      rw [w_i64 (by omega) (by omega)] at u
      have u2 := h_o8
      rw [w_i64 (by omega) (by omega)] at u2
      refine ⟨S1.set (upd S1.ρ [(8, o8), (9, o9)]) [(60, (fun j => ifE j (S1.ρ 8) ((8 : Int)) ((fun j => S1.Φ 60 [j]) j))), (61, (fun j => ifE j (S1.ρ 8) ((8 : Int)) ((fun j => S1.Φ 61 [j]) j))), (62, (fun j => ifE j (S1.ρ 8) ((8 : Int)) ((fun j => S1.Φ 62 [j]) j)))] 50 rfl hK, ⟨_, [], _, 1000, _, [(3, 6)], (ai wTC8_4 true d4 (ai wTC8_3 true d3 (ai wTC8_2 true d2 (ai wTC8_1 true d1 (ai wTC8_0 true d0 (ain (sqW 50 9) .i64 8 (sm hk) (AlOk.nil _))))))), hcs, LkOk.no _ _ _ _, (an 8 (.bin .add (.var .i64 8) (.lit .i64 1)) (sm h_o8.symm) (av 12 .i64 (av 12 .i64 (an 9 (.bin .add (.var .i64 9) (.lit .i64 1)) (sm h_o9.symm) (av 12 .i64 (ar 50 (ar_var 50) (an 8 (.bin .add (.var .i64 8) (.lit .i64 1)) (sm h_o8.symm) (ar 60 (ar_upd (.var .i64 8) (.lit .i64 8) (i := S1.ρ 8) (v := (8 : Int)) rfl rfl (by kernel_rfl) (ar_var 60)) (ar 61 (ar_upd (.var .i64 8) (.lit .i64 8) (i := S1.ρ 8) (v := (8 : Int)) rfl rfl (by kernel_rfl) (ar_var 61)) (ar 62 (ar_upd (.var .i64 8) (.lit .i64 8) (i := S1.ρ 8) (v := (8 : Int)) rfl rfl (by kernel_rfl) (ar_var 62)) (asg_nil rfl))))))))))), fun G => by kernel_rfl⟩, (show o9 = S1.ρ 9 + 1 by omega), ?_, (Stay.refl [9, 8] [60, 61, 62] _).set rfl rfl⟩
      rw [if_pos hv]
      exact hr.upd (isC_of 0 ⟨rfl, rfl, rfl⟩) hk (show o8 = S1.ρ 8 + 1 by omega) (fun _ => rfl) (fun _ => rfl) (fun _ => rfl)
    · have c0 : S1.ρ 9 < S1.ρ 12 := by omega
      have d0 : wTC16_0.den S1 = some [b2i true] := tr (p := S1.ρ 9 < S1.ρ 12) c0
      have c1 : ¬ (S1.ρ 9 < (0 : Int)) := by omega
      have d1 : wTC16_1.den S1 = some [b2i true] := tr (p := (0 : Int) ≤ S1.ρ 9) (Int.not_lt.1 c1)
      have c2 : ¬ (S1.ρ 8 < (0 : Int)) := by omega
      have d2 : wTC16_2.den S1 = some [b2i true] := tr (p := (0 : Int) ≤ S1.ρ 8) (Int.not_lt.1 c2)
      have c3 : S1.ρ 8 < (4194304 : Int) := by omega
      have d3 : wTC16_3.den S1 = some [b2i true] := tr (p := S1.ρ 8 < (4194304 : Int)) c3
      have c4 : (IntKind.i64.wrap (S1.ρ 8 + (1 : Int))) < (4194304 : Int) := by rw [w_i64 (by omega) (by omega)]; omega
      have d4 : wTC16_4.den S1 = some [b2i true] := tr (p := (IntKind.i64.wrap (S1.ρ 8 + (1 : Int))) < (4194304 : Int)) c4
      obtain ⟨o8, h_o8⟩ : ∃ o : Int, o = (IntKind.i64.wrap (S1.ρ 8 + (1 : Int))) := ⟨_, rfl⟩
      obtain ⟨o9, h_o9⟩ : ∃ o : Int, o = (IntKind.i64.wrap (S1.ρ 9 + (1 : Int))) := ⟨_, rfl⟩
      have u := h_o9
      rw [w_i64 (by omega) (by omega)] at u
      have u2 := h_o8
      rw [w_i64 (by omega) (by omega)] at u2
      refine ⟨S1.set (upd S1.ρ [(8, o8), (9, o9)]) [(60, (fun j => ifE j (S1.ρ 8) ((16 : Int)) ((fun j => S1.Φ 60 [j]) j))), (61, (fun j => ifE j (S1.ρ 8) ((16 : Int)) ((fun j => S1.Φ 61 [j]) j))), (62, (fun j => ifE j (S1.ρ 8) ((4 : Int)) ((fun j => S1.Φ 62 [j]) j)))] 50 rfl hK, ⟨_, [], _, 1000, _, [(3, 6)], (ai wTC16_4 true d4 (ai wTC16_3 true d3 (ai wTC16_2 true d2 (ai wTC16_1 true d1 (ai wTC16_0 true d0 (ain (sqW 50 9) .i64 16 (sm hk) (AlOk.nil _))))))), hcs, LkOk.no _ _ _ _, (an 8 (.bin .add (.var .i64 8) (.lit .i64 1)) (sm h_o8.symm) (av 12 .i64 (av 12 .i64 (an 9 (.bin .add (.var .i64 9) (.lit .i64 1)) (sm h_o9.symm) (av 12 .i64 (ar 50 (ar_var 50) (an 8 (.bin .add (.var .i64 8) (.lit .i64 1)) (sm h_o8.symm) (ar 60 (ar_upd (.var .i64 8) (.lit .i64 16) (i := S1.ρ 8) (v := (16 : Int)) rfl rfl (by kernel_rfl) (ar_var 60)) (ar 61 (ar_upd (.var .i64 8) (.lit .i64 16) (i := S1.ρ 8) (v := (16 : Int)) rfl rfl (by kernel_rfl) (ar_var 61)) (ar 62 (ar_upd (.var .i64 8) (.lit .i64 4) (i := S1.ρ 8) (v := (4 : Int)) rfl rfl (by kernel_rfl) (ar_var 62)) (asg_nil rfl))))))))))), fun G => by kernel_rfl⟩, (show o9 = S1.ρ 9 + 1 by omega), ?_, (Stay.refl [9, 8] [60, 61, 62] _).set rfl rfl⟩
      rw [if_pos hv]
      exact hr.upd (isC_of 1 ⟨rfl, rfl, rfl⟩) hk (show o8 = S1.ρ 8 + 1 by omega) (fun _ => rfl) (fun _ => rfl) (fun _ => rfl)
    · have c0 : S1.ρ 9 < S1.ρ 12 := by omega
      have d0 : wTC24_0.den S1 = some [b2i true] := tr (p := S1.ρ 9 < S1.ρ 12) c0
      have c1 : ¬ (S1.ρ 9 < (0 : Int)) := by omega
      have d1 : wTC24_1.den S1 = some [b2i true] := tr (p := (0 : Int) ≤ S1.ρ 9) (Int.not_lt.1 c1)
      have c2 : ¬ (S1.ρ 8 < (0 : Int)) := by omega
      have d2 : wTC24_2.den S1 = some [b2i true] := tr (p := (0 : Int) ≤ S1.ρ 8) (Int.not_lt.1 c2)
      have c3 : S1.ρ 8 < (4194304 : Int) := by omega
      have d3 : wTC24_3.den S1 = some [b2i true] := tr (p := S1.ρ 8 < (4194304 : Int)) c3
      have c4 : (IntKind.i64.wrap (S1.ρ 8 + (1 : Int))) < (4194304 : Int) := by rw [w_i64 (by omega) (by omega)]; omega
      have d4 : wTC24_4.den S1 = some [b2i true] := tr (p := (IntKind.i64.wrap (S1.ρ 8 + (1 : Int))) < (4194304 : Int)) c4
      obtain ⟨o8, h_o8⟩ : ∃ o : Int, o = (IntKind.i64.wrap (S1.ρ 8 + (1 : Int))) := ⟨_, rfl⟩
      obtain ⟨o9, h_o9⟩ : ∃ o : Int, o = (IntKind.i64.wrap (S1.ρ 9 + (1 : Int))) := ⟨_, rfl⟩
      have u := h_o9
      rw [w_i64 (by omega) (by omega)] at u
      have u2 := h_o8
      rw [w_i64 (by omega) (by omega)] at u2
      refine ⟨S1.set (upd S1.ρ [(8, o8), (9, o9)]) [(60, (fun j => ifE j (S1.ρ 8) ((24 : Int)) ((fun j => S1.Φ 60 [j]) j))), (61, (fun j => ifE j (S1.ρ 8) ((8 : Int)) ((fun j => S1.Φ 61 [j]) j))), (62, (fun j => ifE j (S1.ρ 8) ((2 : Int)) ((fun j => S1.Φ 62 [j]) j)))] 50 rfl hK, ⟨_, [], _, 1000, _, [(3, 6)], (ai wTC24_4 true d4 (ai wTC24_3 true d3 (ai wTC24_2 true d2 (ai wTC24_1 true d1 (ai wTC24_0 true d0 (ain (sqW 50 9) .i64 24 (sm hk) (AlOk.nil _))))))), hcs, LkOk.no _ _ _ _, (an 8 (.bin .add (.var .i64 8) (.lit .i64 1)) (sm h_o8.symm) (av 12 .i64 (av 12 .i64 (an 9 (.bin .add (.var .i64 9) (.lit .i64 1)) (sm h_o9.symm) (av 12 .i64 (ar 50 (ar_var 50) (an 8 (.bin .add (.var .i64 8) (.lit .i64 1)) (sm h_o8.symm) (ar 60 (ar_upd (.var .i64 8) (.lit .i64 24) (i := S1.ρ 8) (v := (24 : Int)) rfl rfl (by kernel_rfl) (ar_var 60)) (ar 61 (ar_upd (.var .i64 8) (.lit .i64 8) (i := S1.ρ 8) (v := (8 : Int)) rfl rfl (by kernel_rfl) (ar_var 61)) (ar 62 (ar_upd (.var .i64 8) (.lit .i64 2) (i := S1.ρ 8) (v := (2 : Int)) rfl rfl (by kernel_rfl) (ar_var 62)) (asg_nil rfl))))))))))), fun G => by kernel_rfl⟩, (show o9 = S1.ρ 9 + 1 by omega), ?_, (Stay.refl [9, 8] [60, 61, 62] _).set rfl rfl⟩
      rw [if_pos hv]
      exact hr.upd (isC_of 2 ⟨rfl, rfl, rfl⟩) hk (show o8 = S1.ρ 8 + 1 by omega) (fun _ => rfl) (fun _ => rfl) (fun _ => rfl)
    · have c0 : S1.ρ 9 < S1.ρ 12 := by omega
      have d0 : wTC32_0.den S1 = some [b2i true] := tr (p := S1.ρ 9 < S1.ρ 12) c0
      have c1 : ¬ (S1.ρ 9 < (0 : Int)) := by omega
      have d1 : wTC32_1.den S1 = some [b2i true] := tr (p := (0 : Int) ≤ S1.ρ 9) (Int.not_lt.1 c1)
      have c2 : ¬ (S1.ρ 8 < (0 : Int)) := by omega
      have d2 : wTC32_2.den S1 = some [b2i true] := tr (p := (0 : Int) ≤ S1.ρ 8) (Int.not_lt.1 c2)
      have c3 : S1.ρ 8 < (4194304 : Int) := by omega
      have d3 : wTC32_3.den S1 = some [b2i true] := tr (p := S1.ρ 8 < (4194304 : Int)) c3
      have c4 : (IntKind.i64.wrap (S1.ρ 8 + (1 : Int))) < (4194304 : Int) := by rw [w_i64 (by omega) (by omega)]; omega
      have d4 : wTC32_4.den S1 = some [b2i true] := tr (p := (IntKind.i64.wrap (S1.ρ 8 + (1 : Int))) < (4194304 : Int)) c4
      obtain ⟨o8, h_o8⟩ : ∃ o : Int, o = (IntKind.i64.wrap (S1.ρ 8 + (1 : Int))) := ⟨_, rfl⟩
      obtain ⟨o9, h_o9⟩ : ∃ o : Int, o = (IntKind.i64.wrap (S1.ρ 9 + (1 : Int))) := ⟨_, rfl⟩
      have u := h_o9
      rw [w_i64 (by omega) (by omega)] at u
      have u2 := h_o8
      rw [w_i64 (by omega) (by omega)] at u2
      refine ⟨S1.set (upd S1.ρ [(8, o8), (9, o9)]) [(60, (fun j => ifE j (S1.ρ 8) ((32 : Int)) ((fun j => S1.Φ 60 [j]) j))), (61, (fun j => ifE j (S1.ρ 8) ((32 : Int)) ((fun j => S1.Φ 61 [j]) j))), (62, (fun j => ifE j (S1.ρ 8) ((2 : Int)) ((fun j => S1.Φ 62 [j]) j)))] 50 rfl hK, ⟨_, [], _, 1000, _, [(3, 6)], (ai wTC32_4 true d4 (ai wTC32_3 true d3 (ai wTC32_2 true d2 (ai wTC32_1 true d1 (ai wTC32_0 true d0 (ain (sqW 50 9) .i64 32 (sm hk) (AlOk.nil _))))))), hcs, LkOk.no _ _ _ _, (an 8 (.bin .add (.var .i64 8) (.lit .i64 1)) (sm h_o8.symm) (av 12 .i64 (av 12 .i64 (an 9 (.bin .add (.var .i64 9) (.lit .i64 1)) (sm h_o9.symm) (av 12 .i64 (ar 50 (ar_var 50) (an 8 (.bin .add (.var .i64 8) (.lit .i64 1)) (sm h_o8.symm) (ar 60 (ar_upd (.var .i64 8) (.lit .i64 32) (i := S1.ρ 8) (v := (32 : Int)) rfl rfl (by kernel_rfl) (ar_var 60)) (ar 61 (ar_upd (.var .i64 8) (.lit .i64 32) (i := S1.ρ 8) (v := (32 : Int)) rfl rfl (by kernel_rfl) (ar_var 61)) (ar 62 (ar_upd (.var .i64 8) (.lit .i64 2) (i := S1.ρ 8) (v := (2 : Int)) rfl rfl (by kernel_rfl) (ar_var 62)) (asg_nil rfl))))))))))), fun G => by kernel_rfl⟩, (show o9 = S1.ρ 9 + 1 by omega), ?_, (Stay.refl [9, 8] [60, 61, 62] _).set rfl rfl⟩
      rw [if_pos hv]
      exact hr.upd (isC_of 3 ⟨rfl, rfl, rfl⟩) hk (show o8 = S1.ρ 8 + 1 by omega) (fun _ => rfl) (fun _ => rfl) (fun _ => rfl)
    · have c0 : S1.ρ 9 < S1.ρ 12 := by omega
      have d0 : wTC40_0.den S1 = some [b2i true] := tr (p := S1.ρ 9 < S1.ρ 12) c0
      have c1 : ¬ (S1.ρ 9 < (0 : Int)) := by omega
      have d1 : wTC40_1.den S1 = some [b2i true] := tr (p := (0 : Int) ≤ S1.ρ 9) (Int.not_lt.1 c1)
      have c2 : ¬ (S1.ρ 8 < (0 : Int)) := by omega
      have d2 : wTC40_2.den S1 = some [b2i true] := tr (p := (0 : Int) ≤ S1.ρ 8) (Int.not_lt.1 c2)
      have c3 : S1.ρ 8 < (4194304 : Int) := by omega
      have d3 : wTC40_3.den S1 = some [b2i true] := tr (p := S1.ρ 8 < (4194304 : Int)) c3
      have c4 : (IntKind.i64.wrap (S1.ρ 8 + (1 : Int))) < (4194304 : Int) := by rw [w_i64 (by omega) (by omega)]; omega
      have d4 : wTC40_4.den S1 = some [b2i true] := tr (p := (IntKind.i64.wrap (S1.ρ 8 + (1 : Int))) < (4194304 : Int)) c4
      obtain ⟨o8, h_o8⟩ : ∃ o : Int, o = (IntKind.i64.wrap (S1.ρ 8 + (1 : Int))) := ⟨_, rfl⟩
      obtain ⟨o9, h_o9⟩ : ∃ o : Int, o = (IntKind.i64.wrap (S1.ρ 9 + (1 : Int))) := ⟨_, rfl⟩
      have u := h_o9
      rw [w_i64 (by omega) (by omega)] at u
      have u2 := h_o8
      rw [w_i64 (by omega) (by omega)] at u2
      refine ⟨S1.set (upd S1.ρ [(8, o8), (9, o9)]) [(60, (fun j => ifE j (S1.ρ 8) ((40 : Int)) ((fun j => S1.Φ 60 [j]) j))), (61, (fun j => ifE j (S1.ρ 8) ((8 : Int)) ((fun j => S1.Φ 61 [j]) j))), (62, (fun j => ifE j (S1.ρ 8) ((1 : Int)) ((fun j => S1.Φ 62 [j]) j)))] 50 rfl hK, ⟨_, [], _, 1000, _, [(3, 6)], (ai wTC40_4 true d4 (ai wTC40_3 true d3 (ai wTC40_2 true d2 (ai wTC40_1 true d1 (ai wTC40_0 true d0 (ain (sqW 50 9) .i64 40 (sm hk) (AlOk.nil _))))))), hcs, LkOk.no _ _ _ _, (an 8 (.bin .add (.var .i64 8) (.lit .i64 1)) (sm h_o8.symm) (av 12 .i64 (av 12 .i64 (an 9 (.bin .add (.var .i64 9) (.lit .i64 1)) (sm h_o9.symm) (av 12 .i64 (ar 50 (ar_var 50) (an 8 (.bin .add (.var .i64 8) (.lit .i64 1)) (sm h_o8.symm) (ar 60 (ar_upd (.var .i64 8) (.lit .i64 40) (i := S1.ρ 8) (v := (40 : Int)) rfl rfl (by kernel_rfl) (ar_var 60)) (ar 61 (ar_upd (.var .i64 8) (.lit .i64 8) (i := S1.ρ 8) (v := (8 : Int)) rfl rfl (by kernel_rfl) (ar_var 61)) (ar 62 (ar_upd (.var .i64 8) (.lit .i64 1) (i := S1.ρ 8) (v := (1 : Int)) rfl rfl (by kernel_rfl) (ar_var 62)) (asg_nil rfl))))))))))), fun G => by kernel_rfl⟩, (show o9 = S1.ρ 9 + 1 by omega), ?_, (Stay.refl [9, 8] [60, 61, 62] _).set rfl rfl⟩
      rw [if_pos hv]
      exact hr.upd (isC_of 4 ⟨rfl, rfl, rfl⟩) hk (show o8 = S1.ρ 8 + 1 by omega) (fun _ => rfl) (fun _ => rfl) (fun _ => rfl)
    · have c0 : S1.ρ 9 < S1.ρ 12 := by omega
      have d0 : wTC48_0.den S1 = some [b2i true] := tr (p := S1.ρ 9 < S1.ρ 12) c0
      have c1 : ¬ (S1.ρ 9 < (0 : Int)) := by omega
      have d1 : wTC48_1.den S1 = some [b2i true] := tr (p := (0 : Int) ≤ S1.ρ 9) (Int.not_lt.1 c1)
      have c2 : ¬ (S1.ρ 8 < (0 : Int)) := by omega
      have d2 : wTC48_2.den S1 = some [b2i true] := tr (p := (0 : Int) ≤ S1.ρ 8) (Int.not_lt.1 c2)
      have c3 : S1.ρ 8 < (4194304 : Int) := by omega
      have d3 : wTC48_3.den S1 = some [b2i true] := tr (p := S1.ρ 8 < (4194304 : Int)) c3
      have c4 : (IntKind.i64.wrap (S1.ρ 8 + (1 : Int))) < (4194304 : Int) := by rw [w_i64 (by omega) (by omega)]; omega
      have d4 : wTC48_4.den S1 = some [b2i true] := tr (p := (IntKind.i64.wrap (S1.ρ 8 + (1 : Int))) < (4194304 : Int)) c4
      obtain ⟨o8, h_o8⟩ : ∃ o : Int, o = (IntKind.i64.wrap (S1.ρ 8 + (1 : Int))) := ⟨_, rfl⟩
      obtain ⟨o9, h_o9⟩ : ∃ o : Int, o = (IntKind.i64.wrap (S1.ρ 9 + (1 : Int))) := ⟨_, rfl⟩
      have u := h_o9
      rw [w_i64 (by omega) (by omega)] at u
      have u2 := h_o8
      rw [w_i64 (by omega) (by omega)] at u2
      refine ⟨S1.set (upd S1.ρ [(8, o8), (9, o9)]) [(60, (fun j => ifE j (S1.ρ 8) ((48 : Int)) ((fun j => S1.Φ 60 [j]) j))), (61, (fun j => ifE j (S1.ρ 8) ((16 : Int)) ((fun j => S1.Φ 61 [j]) j))), (62, (fun j => ifE j (S1.ρ 8) ((1 : Int)) ((fun j => S1.Φ 62 [j]) j)))] 50 rfl hK, ⟨_, [], _, 1000, _, [(3, 6)], (ai wTC48_4 true d4 (ai wTC48_3 true d3 (ai wTC48_2 true d2 (ai wTC48_1 true d1 (ai wTC48_0 true d0 (ain (sqW 50 9) .i64 48 (sm hk) (AlOk.nil _))))))), hcs, LkOk.no _ _ _ _, (an 8 (.bin .add (.var .i64 8) (.lit .i64 1)) (sm h_o8.symm) (av 12 .i64 (av 12 .i64 (an 9 (.bin .add (.var .i64 9) (.lit .i64 1)) (sm h_o9.symm) (av 12 .i64 (ar 50 (ar_var 50) (an 8 (.bin .add (.var .i64 8) (.lit .i64 1)) (sm h_o8.symm) (ar 60 (ar_upd (.var .i64 8) (.lit .i64 48) (i := S1.ρ 8) (v := (48 : Int)) rfl rfl (by kernel_rfl) (ar_var 60)) (ar 61 (ar_upd (.var .i64 8) (.lit .i64 16) (i := S1.ρ 8) (v := (16 : Int)) rfl rfl (by kernel_rfl) (ar_var 61)) (ar 62 (ar_upd (.var .i64 8) (.lit .i64 1) (i := S1.ρ 8) (v := (1 : Int)) rfl rfl (by kernel_rfl) (ar_var 62)) (asg_nil rfl))))))))))), fun G => by kernel_rfl⟩, (show o9 = S1.ρ 9 + 1 by omega), ?_, (Stay.refl [9, 8] [60, 61, 62] _).set rfl rfl⟩
      rw [if_pos hv]
      exact hr.upd (isC_of 5 ⟨rfl, rfl, rfl⟩) hk (show o8 = S1.ρ 8 + 1 by omega) (fun _ => rfl) (fun _ => rfl) (fun _ => rfl)
    · have c0 : S1.ρ 9 < S1.ρ 12 := by omega
      have d0 : wTC56_0.den S1 = some [b2i true] := tr (p := S1.ρ 9 < S1.ρ 12) c0
      have c1 : ¬ (S1.ρ 9 < (0 : Int)) := by omega
      have d1 : wTC56_1.den S1 = some [b2i true] := tr (p := (0 : Int) ≤ S1.ρ 9) (Int.not_lt.1 c1)
      have c2 : ¬ (S1.ρ 8 < (0 : Int)) := by omega
      have d2 : wTC56_2.den S1 = some [b2i true] := tr (p := (0 : Int) ≤ S1.ρ 8) (Int.not_lt.1 c2)
      have c3 : S1.ρ 8 < (4194304 : Int) := by omega
      have d3 : wTC56_3.den S1 = some [b2i true] := tr (p := S1.ρ 8 < (4194304 : Int)) c3
      have c4 : (IntKind.i64.wrap (S1.ρ 8 + (1 : Int))) < (4194304 : Int) := by rw [w_i64 (by omega) (by omega)]; omega
      have d4 : wTC56_4.den S1 = some [b2i true] := tr (p := (IntKind.i64.wrap (S1.ρ 8 + (1 : Int))) < (4194304 : Int)) c4
      obtain ⟨o8, h_o8⟩ : ∃ o : Int, o = (IntKind.i64.wrap (S1.ρ 8 + (1 : Int))) := ⟨_, rfl⟩
      obtain ⟨o9, h_o9⟩ : ∃ o : Int, o = (IntKind.i64.wrap (S1.ρ 9 + (1 : Int))) := ⟨_, rfl⟩
      have u := h_o9
      rw [w_i64 (by omega) (by omega)] at u
      have u2 := h_o8
      rw [w_i64 (by omega) (by omega)] at u2
      refine ⟨S1.set (upd S1.ρ [(8, o8), (9, o9)]) [(60, (fun j => ifE j (S1.ρ 8) ((56 : Int)) ((fun j => S1.Φ 60 [j]) j))), (61, (fun j => ifE j (S1.ρ 8) ((8 : Int)) ((fun j => S1.Φ 61 [j]) j))), (62, (fun j => ifE j (S1.ρ 8) ((1 : Int)) ((fun j => S1.Φ 62 [j]) j)))] 50 rfl hK, ⟨_, [], _, 1000, _, [(3, 6)], (ai wTC56_4 true d4 (ai wTC56_3 true d3 (ai wTC56_2 true d2 (ai wTC56_1 true d1 (ai wTC56_0 true d0 (ain (sqW 50 9) .i64 56 (sm hk) (AlOk.nil _))))))), hcs, LkOk.no _ _ _ _, (an 8 (.bin .add (.var .i64 8) (.lit .i64 1)) (sm h_o8.symm) (av 12 .i64 (av 12 .i64 (an 9 (.bin .add (.var .i64 9) (.lit .i64 1)) (sm h_o9.symm) (av 12 .i64 (ar 50 (ar_var 50) (an 8 (.bin .add (.var .i64 8) (.lit .i64 1)) (sm h_o8.symm) (ar 60 (ar_upd (.var .i64 8) (.lit .i64 56) (i := S1.ρ 8) (v := (56 : Int)) rfl rfl (by kernel_rfl) (ar_var 60)) (ar 61 (ar_upd (.var .i64 8) (.lit .i64 8) (i := S1.ρ 8) (v := (8 : Int)) rfl rfl (by kernel_rfl) (ar_var 61)) (ar 62 (ar_upd (.var .i64 8) (.lit .i64 1) (i := S1.ρ 8) (v := (1 : Int)) rfl rfl (by kernel_rfl) (ar_var 62)) (asg_nil rfl))))))))))), fun G => by kernel_rfl⟩, (show o9 = S1.ρ 9 + 1 by omega), ?_, (Stay.refl [9, 8] [60, 61, 62] _).set rfl rfl⟩
      rw [if_pos hv]
      exact hr.upd (isC_of 6 ⟨rfl, rfl, rfl⟩) hk (show o8 = S1.ρ 8 + 1 by omega) (fun _ => rfl) (fun _ => rfl) (fun _ => rfl)
    · have c0 : S1.ρ 9 < S1.ρ 12 := by omega
      have d0 : wTC64_0.den S1 = some [b2i true] := tr (p := S1.ρ 9 < S1.ρ 12) c0
      have c1 : ¬ (S1.ρ 9 < (0 : Int)) := by omega
      have d1 : wTC64_1.den S1 = some [b2i true] := tr (p := (0 : Int) ≤ S1.ρ 9) (Int.not_lt.1 c1)
      have c2 : ¬ (S1.ρ 8 < (0 : Int)) := by omega
      have d2 : wTC64_2.den S1 = some [b2i true] := tr (p := (0 : Int) ≤ S1.ρ 8) (Int.not_lt.1 c2)
      have c3 : S1.ρ 8 < (4194304 : Int) := by omega
      have d3 : wTC64_3.den S1 = some [b2i true] := tr (p := S1.ρ 8 < (4194304 : Int)) c3
      have c4 : (IntKind.i64.wrap (S1.ρ 8 + (1 : Int))) < (4194304 : Int) := by rw [w_i64 (by omega) (by omega)]; omega
      have d4 : wTC64_4.den S1 = some [b2i true] := tr (p := (IntKind.i64.wrap (S1.ρ 8 + (1 : Int))) < (4194304 : Int)) c4
      obtain ⟨o8, h_o8⟩ : ∃ o : Int, o = (IntKind.i64.wrap (S1.ρ 8 + (1 : Int))) := ⟨_, rfl⟩
      obtain ⟨o9, h_o9⟩ : ∃ o : Int, o = (IntKind.i64.wrap (S1.ρ 9 + (1 : Int))) := ⟨_, rfl⟩
      have u := h_o9
      rw [w_i64 (by omega) (by omega)] at u
      have u2 := h_o8
      rw [w_i64 (by omega) (by omega)] at u2
      refine ⟨S1.set (upd S1.ρ [(8, o8), (9, o9)]) [(60, (fun j => ifE j (S1.ρ 8) ((64 : Int)) ((fun j => S1.Φ 60 [j]) j))), (61, (fun j => ifE j (S1.ρ 8) ((64 : Int)) ((fun j => S1.Φ 61 [j]) j))), (62, (fun j => ifE j (S1.ρ 8) ((1 : Int)) ((fun j => S1.Φ 62 [j]) j)))] 50 rfl hK, ⟨_, [], _, 1000, _, [(3, 6)], (ai wTC64_4 true d4 (ai wTC64_3 true d3 (ai wTC64_2 true d2 (ai wTC64_1 true d1 (ai wTC64_0 true d0 (ain (sqW 50 9) .i64 64 (sm hk) (AlOk.nil _))))))), hcs, LkOk.no _ _ _ _, (an 8 (.bin .add (.var .i64 8) (.lit .i64 1)) (sm h_o8.symm) (av 12 .i64 (av 12 .i64 (an 9 (.bin .add (.var .i64 9) (.lit .i64 1)) (sm h_o9.symm) (av 12 .i64 (ar 50 (ar_var 50) (an 8 (.bin .add (.var .i64 8) (.lit .i64 1)) (sm h_o8.symm) (ar 60 (ar_upd (.var .i64 8) (.lit .i64 64) (i := S1.ρ 8) (v := (64 : Int)) rfl rfl (by kernel_rfl) (ar_var 60)) (ar 61 (ar_upd (.var .i64 8) (.lit .i64 64) (i := S1.ρ 8) (v := (64 : Int)) rfl rfl (by kernel_rfl) (ar_var 61)) (ar 62 (ar_upd (.var .i64 8) (.lit .i64 1) (i := S1.ρ 8) (v := (1 : Int)) rfl rfl (by kernel_rfl) (ar_var 62)) (asg_nil rfl))))))))))), fun G => by kernel_rfl⟩, (show o9 = S1.ρ 9 + 1 by omega), ?_, (Stay.refl [9, 8] [60, 61, 62] _).set rfl rfl⟩
      rw [if_pos hv]
      exact hr.upd (isC_of 7 ⟨rfl, rfl, rfl⟩) hk (show o8 = S1.ρ 8 + 1 by omega) (fun _ => rfl) (fun _ => rfl) (fun _ => rfl)
  · have c0 : S1.ρ 9 < S1.ρ 12 := by omega
    have d0 : wYC0.den S1 = some [b2i true] := tr (p := S1.ρ 9 < S1.ρ 12) c0
    have c1 : ¬ (S1.ρ 9 < (0 : Int)) := by omega
    have d1 : wYC1.den S1 = some [b2i true] := tr (p := (0 : Int) ≤ S1.ρ 9) (Int.not_lt.1 c1)
    by_cases c2 : (S1.Φ 50 [S1.ρ 9]) < (8 : Int)
    · have d2 : wYC2.den S1 = some [b2i false] := fls (p := (8 : Int) ≤ (S1.Φ 50 [S1.ρ 9])) (Int.not_le.2 c2)
      obtain ⟨o9, h_o9⟩ : ∃ o : Int, o = (IntKind.i64.wrap (S1.ρ 9 + (1 : Int))) := ⟨_, rfl⟩
      have u := h_o9
      rw [w_i64 (by omega) (by omega)] at u
      refine ⟨S1.set (upd S1.ρ [(9, o9)]) [] 50 rfl hK, ⟨_, [], _, 1000, _, [], (ai wYC2 false d2 (ai wYC1 true d1 (ai wYC0 true d0 (AlOk.nil _)))), hcs, LkOk.no _ _ _ _, (av 8 .i64 (av 12 .i64 (av 12 .i64 (an 9 (.bin .add (.var .i64 9) (.lit .i64 1)) (sm h_o9.symm) (av 12 .i64 (ar 50 (ar_var 50) (av 8 .i64 (ar 60 (ar_var 60) (ar 61 (ar_var 61) (ar 62 (ar_var 62) (asg_nil rfl))))))))))), fun G => by kernel_rfl⟩, (show o9 = S1.ρ 9 + 1 by omega), ?_, (Stay.refl [9, 8] [60, 61, 62] _).set rfl rfl⟩
      rw [if_neg hv]
      exact hr.same rfl (fun _ => rfl) (fun _ => rfl) (fun _ => rfl)
    · have d2 : wYC2.den S1 = some [b2i true] := tr (p := (8 : Int) ≤ (S1.Φ 50 [S1.ρ 9])) (Int.not_lt.1 c2)
      by_cases c3 : (64 : Int) < (S1.Φ 50 [S1.ρ 9])
      · have d3 : wYC3.den S1 = some [b2i false] := fls (p := (S1.Φ 50 [S1.ρ 9]) ≤ (64 : Int)) (Int.not_le.2 c3)
        obtain ⟨o9, h_o9⟩ : ∃ o : Int, o = (IntKind.i64.wrap (S1.ρ 9 + (1 : Int))) := ⟨_, rfl⟩
        have u := h_o9
        rw [w_i64 (by omega) (by omega)] at u
        refine ⟨S1.set (upd S1.ρ [(9, o9)]) [] 50 rfl hK, ⟨_, [], _, 1000, _, [], (ai wYC3 false d3 (ai wYC2 true d2 (ai wYC1 true d1 (ai wYC0 true d0 (AlOk.nil _))))), hcs, LkOk.no _ _ _ _, (av 8 .i64 (av 12 .i64 (av 12 .i64 (an 9 (.bin .add (.var .i64 9) (.lit .i64 1)) (sm h_o9.symm) (av 12 .i64 (ar 50 (ar_var 50) (av 8 .i64 (ar 60 (ar_var 60) (ar 61 (ar_var 61) (ar 62 (ar_var 62) (asg_nil rfl))))))))))), fun G => by kernel_rfl⟩, (show o9 = S1.ρ 9 + 1 by omega), ?_, (Stay.refl [9, 8] [60, 61, 62] _).set rfl rfl⟩
        rw [if_neg hv]
        exact hr.same rfl (fun _ => rfl) (fun _ => rfl) (fun _ => rfl)
      · have d3 : wYC3.den S1 = some [b2i true] := tr (p := (S1.Φ 50 [S1.ρ 9]) ≤ (64 : Int)) (Int.not_lt.1 c3)
        have c4 : ¬ ((((S1.Φ 50 [S1.ρ 9])).tmod (8 : Int)) = (0 : Int)) := by intro hh; exact hv ⟨by omega, by omega, hh⟩
        have d4 : wYC4.den S1 = some [b2i false] := fls (p := (((S1.Φ 50 [S1.ρ 9])).tmod (8 : Int)) = (0 : Int)) c4
        obtain ⟨o9, h_o9⟩ : ∃ o : Int, o = (IntKind.i64.wrap (S1.ρ 9 + (1 : Int))) := ⟨_, rfl⟩
        have u := h_o9
        rw [w_i64 (by omega) (by omega)] at u
        refine ⟨S1.set (upd S1.ρ [(9, o9)]) [] 50 rfl hK, ⟨_, [], _, 1000, _, [], (ai wYC4 false d4 (ai wYC3 true d3 (ai wYC2 true d2 (ai wYC1 true d1 (ai wYC0 true d0 (AlOk.nil _)))))), hcs, LkOk.no _ _ _ _, (av 8 .i64 (av 12 .i64 (av 12 .i64 (an 9 (.bin .add (.var .i64 9) (.lit .i64 1)) (sm h_o9.symm) (av 12 .i64 (ar 50 (ar_var 50) (av 8 .i64 (ar 60 (ar_var 60) (ar 61 (ar_var 61) (ar 62 (ar_var 62) (asg_nil rfl))))))))))), fun G => by kernel_rfl⟩, (show o9 = S1.ρ 9 + 1 by omega), ?_, (Stay.refl [9, 8] [60, 61, 62] _).set rfl rfl⟩
        rw [if_neg hv]
        exact hr.same rfl (fun _ => rfl) (fun _ => rfl) (fun _ => rfl)
theorem rowsC (F : Nat → Int) : ∀ (m i : Nat) (l : List Int) (S0 : Sy), S0.ρ 9 = i → S0.ρ 9 + m ≤ S0.ρ 12 → S0.ρ 12 ≤ 2048 → l.length ≤ i → (∀ j : Nat, S0.Φ 50 [(j : Int)] = F j) → RowIs S0 8 60 l → (∀ x ∈ S0.I, x.f + x.ks.length ≤ 50) →
    ∃ Sa, Chain (StepTo Try.prog ftW ΛW [] (cAt Try.prog lpWM) XC1W F1rW 3) m S0 Sa ∧ Sa.ρ 9 = S0.ρ 9 + m ∧ RowIs Sa 8 60 (fltG F i m l) ∧ Stay [9, 8] [60, 61, 62] S0 Sa
  | 0, i, l, S0, _, _, _, _, _, hr, _ => ⟨S0, .nil _, by simp, hr, Stay.refl _ _ _⟩
  | m + 1, i, l, S0, h0, h1, h2, h3, hF, hr, hK => by
    obtain ⟨S2, st, e4, hr2, y⟩ := rowC (S1 := S0) (by omega) (by omega) (by omega) (by omega) hr hK
    have e1 := y.num 12 rfl
    rw [h0, hF i] at hr2
    obtain ⟨Sa, ch, f4, hr3, z⟩ := rowsC F m (i + 1) _ S2 (by omega) (by omega) (by omega) (by split; (· simp; omega); (· omega)) (fun j => by rw [y.fn 50 rfl]; exact hF j) hr2 (by rw [y.1]; exact hK)
    exact ⟨Sa, .cons st ch, by omega, hr3, stay_weak (y.trans z) rfl rfl⟩
def wORC0 : Tm := (.bin .lss (.var .i64 9) (.var .i64 12))
theorem outCR {S1 T : Sy} (h1 : S1.ρ 9 = S1.ρ 12) (hT : Same [8] [60, 61, 62] S1 T) : StepOut Try.prog ftW ΛW [] (cAt Try.prog lpWM) XC1W F1rW (.exit 0) 3 S1 T := by
  have hcs : ∀ c ∈ ([] : List Ctr), CtrOk Try.prog S1 [] c := fun c hc => by simp at hc
  have c0 : ¬ (S1.ρ 9 < S1.ρ 12) := by omega
  have d0 : wORC0.den S1 = some [b2i false] := fls (p := S1.ρ 9 < S1.ρ 12) c0
  exact ⟨_, [], _, 1000, _, [], (ai wORC0 false d0 (AlOk.nil _)), hcs, LkOk.no _ _ _ _, (an 8 (.var .i64 8) (sm (hT.num 8 rfl)) (an 8 (.var .i64 8) (sm (hT.num 8 rfl)) (asg_arr (i := 60) (hT.row 60 rfl) (asg_arr (i := 61) (hT.row 61 rfl) (asg_arr (i := 62) (hT.row 62 rfl) (asg_nil hT.1)))))), fun G => by kernel_rfl⟩
theorem loopCR (S0 : Sy) (n : Nat) (hn : n ≤ 2048) (hi : S0.ρ 9 = 0) (hb : S0.ρ 12 = n) (hv : flt (fun j => S0.Φ 50 [(j : Int)]) n ≠ []) (hK : ∀ x ∈ S0.I, x.f + x.ks.length ≤ 50) :
    ∃ Sf, Stay [9, 8] [60, 61, 62] S0 Sf ∧ RowIs Sf 8 60 (flt (fun j => S0.Φ 50 [(j : Int)]) n) ∧ ∀ T asg0, Same [8] [60, 61, 62] Sf T → AsgOk T S0 asg0 → LkAt Try.prog T [] (.loop (cAt Try.prog lpWM)) (lkLoopR Try.prog 3 [] XC0W F1rW (.exit 0) asg0) := by
  obtain ⟨j0, ⟨hj, hok⟩, hmin⟩ := least (flt_some hv)
  obtain ⟨Sa, ch, e, y⟩ := chainCR j0 S0 (by omega) (by omega) (by omega) (fun j hj' hh => by rw [hi, Int.zero_add] at hh; exact hmin j hj' ⟨by omega, hh⟩) hK
  have y1 := y.num 12 rfl
  have ea : Sa.ρ 9 = j0 := by omega
  have hKa : ∀ x ∈ Sa.I, x.f + x.ks.length ≤ 50 := by rw [y.1]; exact hK
  obtain ⟨Sb, cx, f4, hrb, yb⟩ := crossC (S1 := Sa) (by omega) (by omega) (by omega) (by rw [ea, y.fn 50 rfl]; exact hok) hKa
  have b1 := yb.num 12 rfl
  have hKb : ∀ x ∈ Sb.I, x.f + x.ks.length ≤ 50 := by rw [yb.1]; exact hKa
  have h0 : flt (fun j => S0.Φ 50 [(j : Int)]) j0 = [] := flt_low fun j hj' hh => hmin j hj' ⟨by omega, hh⟩
  have h1 : flt (fun j => S0.Φ 50 [(j : Int)]) (j0 + 1) = [S0.Φ 50 [(j0 : Int)]] := by
    unfold flt
    rw [if_pos hok, h0]
    rfl
  rw [ea, y.fn 50 rfl, ← h1] at hrb
  obtain ⟨Sf, ch2, g4, hrf, yf⟩ := rowsC (fun j => S0.Φ 50 [(j : Int)]) (n - (j0 + 1)) (j0 + 1) _ Sb (by omega) (by omega) (by omega) (flt_len _ _) (fun j => by rw [yb.fn 50 rfl, y.fn 50 rfl]) hrb hKb
  have f1 := yf.num 12 rfl
  rw [fltG_eq, show j0 + 1 + (n - (j0 + 1)) = n by omega] at hrf
  exact ⟨Sf, stay_weak (y.trans (yb.trans yf)) rfl rfl, hrf, fun T asg0 hs ha => loop_chain2 envW (ann_self _) fineWM (show XC0W.N = F1rW.N from rfl) (show XC1W.N = F1rW.N from rfl) (Nat.le_of_ble_eq_true rfl) ch cx ch2 (outCR (by omega) hs) ha⟩
def wDN0 : Tm := (.bin .lss (.var .i64 13) (.var .i64 1))
def wDN1 : Tm := (.bin .geq (.var .i64 13) (.lit .i64 0))
def wDN2 : Tm := (.bin .geq (.app .i64 30 (.cons (.var .i64 13) .nil)) (.lit .i64 8))
def wDN3 : Tm := (.bin .leq (.app .i64 30 (.cons (.var .i64 13) .nil)) (.lit .i64 64))
def wDN4 : Tm := (.bin .eql (.bin .rem (.app .i64 30 (.cons (.var .i64 13) .nil)) (.lit .i64 8)) (.lit .i64 0))
theorem nilDN {S1 : Sy} (h0 : 0 ≤ S1.ρ 13) (h1 : S1.ρ 13 < S1.ρ 1) (h2 : S1.ρ 1 ≤ 4096) (hv : ¬ okS (S1.Φ 30 [S1.ρ 13])) (hK : ∀ x ∈ S1.I, x.f + x.ks.length ≤ 50) : ∃ S2, StepTo Try.prog ftW ΛW [] (cAt Try.prog lpWM) XD0W FDW 4 S1 S2 ∧ S2.ρ 13 = S1.ρ 13 + 1 ∧ Stay [13] [] S1 S2 := by
  have hcs : ∀ c ∈ ([] : List Ctr), CtrOk Try.prog S1 [] c := fun c hc => by simp at hc
  have c0 : S1.ρ 13 < S1.ρ 1 := by omega
  have d0 : wDN0.den S1 = some [b2i true] := tr (p := S1.ρ 13 < S1.ρ 1) c0
  have c1 : ¬ (S1.ρ 13 < (0 : Int)) := by omega
  have d1 : wDN1.den S1 = some [b2i true] := tr (p := (0 : Int) ≤ S1.ρ 13) (Int.not_lt.1 c1)
  by_cases c2 : (S1.Φ 30 [S1.ρ 13]) < (8 : Int)
  · have d2 : wDN2.den S1 = some [b2i false] := fls (p := (8 : Int) ≤ (S1.Φ 30 [S1.ρ 13])) (Int.not_le.2 c2)
    obtain ⟨o13, h_o13⟩ : ∃ o : Int, o = (IntKind.i64.wrap (S1.ρ 13 + (1 : Int))) := ⟨_, rfl⟩
    have u := h_o13
    rw [w_i64 (by omega) (by omega)] at u
    exact ⟨S1.set (upd S1.ρ [(13, o13)]) [] 50 rfl hK, ⟨_, [], _, 1000, _, [], (ai wDN2 false d2 (ai wDN1 true d1 (ai wDN0 true d0 (AlOk.nil _)))), hcs, LkOk.no _ _ _ _, (av 1 .i64 (av 1 .i64 (an 13 (.bin .add (.var .i64 13) (.lit .i64 1)) (sm h_o13.symm) (asg_nil rfl)))), fun G => by kernel_rfl⟩, (show o13 = S1.ρ 13 + 1 by omega), (Stay.refl [13] [] _).set rfl rfl⟩
  · have d2 : wDN2.den S1 = some [b2i true] := tr (p := (8 : Int) ≤ (S1.Φ 30 [S1.ρ 13])) (Int.not_lt.1 c2)
    by_cases c3 : (64 : Int) < (S1.Φ 30 [S1.ρ 13])
    · have d3 : wDN3.den S1 = some [b2i false] := fls (p := (S1.Φ 30 [S1.ρ 13]) ≤ (64 : Int)) (Int.not_le.2 c3)
      obtain ⟨o13, h_o13⟩ : ∃ o : Int, o = (IntKind.i64.wrap (S1.ρ 13 + (1 : Int))) := ⟨_, rfl⟩
      have u := h_o13
      rw [w_i64 (by omega) (by omega)] at u
      exact ⟨S1.set (upd S1.ρ [(13, o13)]) [] 50 rfl hK, ⟨_, [], _, 1000, _, [], (ai wDN3 false d3 (ai wDN2 true d2 (ai wDN1 true d1 (ai wDN0 true d0 (AlOk.nil _))))), hcs, LkOk.no _ _ _ _, (av 1 .i64 (av 1 .i64 (an 13 (.bin .add (.var .i64 13) (.lit .i64 1)) (sm h_o13.symm) (asg_nil rfl)))), fun G => by kernel_rfl⟩, (show o13 = S1.ρ 13 + 1 by omega), (Stay.refl [13] [] _).set rfl rfl⟩
    · have d3 : wDN3.den S1 = some [b2i true] := tr (p := (S1.Φ 30 [S1.ρ 13]) ≤ (64 : Int)) (Int.not_lt.1 c3)
      have c4 : ¬ ((((S1.Φ 30 [S1.ρ 13])).tmod (8 : Int)) = (0 : Int)) := by intro hh; exact hv ⟨by omega, by omega, hh⟩
      have d4 : wDN4.den S1 = some [b2i false] := fls (p := (((S1.Φ 30 [S1.ρ 13])).tmod (8 : Int)) = (0 : Int)) c4
      obtain ⟨o13, h_o13⟩ : ∃ o : Int, o = (IntKind.i64.wrap (S1.ρ 13 + (1 : Int))) := ⟨_, rfl⟩
      have u := h_o13
      rw [w_i64 (by omega) (by omega)] at u
      exact ⟨S1.set (upd S1.ρ [(13, o13)]) [] 50 rfl hK, ⟨_, [], _, 1000, _, [], (ai wDN4 false d4 (ai wDN3 true d3 (ai wDN2 true d2 (ai wDN1 true d1 (ai wDN0 true d0 (AlOk.nil _)))))), hcs, LkOk.no _ _ _ _, (av 1 .i64 (av 1 .i64 (an 13 (.bin .add (.var .i64 13) (.lit .i64 1)) (sm h_o13.symm) (asg_nil rfl)))), fun G => by kernel_rfl⟩, (show o13 = S1.ρ 13 + 1 by omega), (Stay.refl [13] [] _).set rfl rfl⟩
theorem chainDN : ∀ (m : Nat) (S0 : Sy), 0 ≤ S0.ρ 13 → S0.ρ 13 + m ≤ S0.ρ 1 → S0.ρ 1 ≤ 4096 → (∀ j : Nat, j < m → ¬ okS (S0.Φ 30 [S0.ρ 13 + j])) → (∀ x ∈ S0.I, x.f + x.ks.length ≤ 50) →
    ∃ Sa, Chain (StepTo Try.prog ftW ΛW [] (cAt Try.prog lpWM) XD0W FDW 4) m S0 Sa ∧ Sa.ρ 13 = S0.ρ 13 + m ∧ Stay [13] [] S0 Sa
  | 0, S0, _, _, _, _, _ => ⟨S0, .nil _, by simp, Stay.refl _ _ _⟩
  | m + 1, S0, h0, h1, h2, hv, hK => by
    obtain ⟨S2, st, e4, y⟩ := nilDN h0 (by omega) h2 (by have := hv 0 (by omega); simpa using this) hK
    have e1 := y.num 1 rfl
    obtain ⟨Sa, ch, f4, z⟩ := chainDN m S2 (by omega) (by omega) (by omega) (fun j hj => by
      have := hv (j + 1) (by omega)
      rw [y.fn 30 rfl, e4]
      rwa [show S0.ρ 13 + 1 + (j : Int) = S0.ρ 13 + ((j + 1 : Nat) : Int) by omega]) (by rw [y.1]; exact hK)
    exact ⟨Sa, .cons st ch, by omega, stay_weak (y.trans z) rfl rfl⟩
def wOND0 : Tm := (.bin .lss (.var .i64 13) (.var .i64 1))
theorem outDN {S1 T : Sy} (h1 : S1.ρ 13 = S1.ρ 1) (hT : Same [] [] S1 T) : StepOut Try.prog ftW ΛW [] (cAt Try.prog lpWM) XD0W FDW (.exit 0) 4 S1 T := by
  have hcs : ∀ c ∈ ([] : List Ctr), CtrOk Try.prog S1 [] c := fun c hc => by simp at hc
  have c0 : ¬ (S1.ρ 13 < S1.ρ 1) := by omega
  have d0 : wOND0.den S1 = some [b2i false] := fls (p := S1.ρ 13 < S1.ρ 1) c0
  exact ⟨_, [], _, 1000, _, [], (ai wOND0 false d0 (AlOk.nil _)), hcs, LkOk.no _ _ _ _, (asg_nil hT.1), fun G => by kernel_rfl⟩
theorem loopDN (S0 : Sy) (n : Nat) (hn : n ≤ 4096) (hi : S0.ρ 13 = 0) (hb : S0.ρ 1 = n) (hv : flt (fun j => S0.Φ 30 [(j : Int)]) n = []) (hK : ∀ x ∈ S0.I, x.f + x.ks.length ≤ 50) :
    ∃ Sf, Stay [13] [] S0 Sf ∧ ∀ T asg0, Same [] [] Sf T → AsgOk T S0 asg0 → LkAt Try.prog T [] (.loop (cAt Try.prog lpWM)) (lkLoopR Try.prog 4 [] XD0W FDW (.exit 0) asg0) := by
  obtain ⟨Sf, ch, e, y⟩ := chainDN n S0 (by omega) (by omega) (by omega) (fun j hj => by rw [hi, Int.zero_add]; exact flt_nil hv j hj) hK
  have y1 := y.num 1 rfl
  exact ⟨Sf, y, fun T asg0 hs ha => loop_chain envW (ann_self _) fineWM (show XD0W.N = FDW.N from rfl) (Nat.le_of_ble_eq_true rfl) ch (outDN (by omega) hs) ha⟩
end Go.Proofs.Ytokcoabcflpbbaa
