/-
  MemOwner: its loop by a rule, run with symbols. Conditions: what is said of the slice (SlIn).
-/
import Derived.Test.YtpoomgmehielcaaM1
import Derived.Test.YtpoomgmehielcaaEvSl
namespace Go.Proofs.Ytpoomgmehielcaa
open Go.Ev Go.RowKit
set_option maxRecDepth 100000
def lpO : Mrk := (9, [1, 1, 1, 1, 1, 0, 1, 0])
def vv (k : IntKind) (i : Nat) : Value := .float .f64 (i * 512 + kI k)
def inO : Value := inS 0 (dsc 1 20 [5])
noncomputable def hpO : List (Nat × Blk) := [(0, .cells (mkCells #[vv .u64 2] 22)), (1, .cells (mkCells #[] 5)), (2, .cells (mkCells #[.slice (some ⟨0, 0, none⟩) 1 1, .slice (some ⟨1, 0, none⟩) 0 0] 77))]
noncomputable def XO : Pat := ⟨79, 3, [(0, inO), (3, .pointer (some ⟨2, 0, none⟩)), (5, vv .u64 2), (6, vv .i64 3)], hpO⟩
noncomputable def FO : Pat := ⟨79, 3, [], []⟩
noncomputable abbrev ΛO : Nat → Option Code := lamOf Try.prog [lpO]
noncomputable abbrev ftO : Nat → Option Func := ftM Try.prog [lpO]
theorem envOO : @EnvOk ⟨ΛO⟩ Try.prog ftO := envM env [lpO] (by kernel_rfl)
theorem codeO : codeAt Try.prog lpO = some (.loop (cAt Try.prog lpO)) := by kernel_rfl
theorem fineO' : fineC Try.prog.globals.size (cAt Try.prog lpO) = true := by kernel_rfl
def whoT : Tm := (.bin .add (.conv .u64 (.bin .rem (.app .u8 20 (.cons (.var .i64 3) .nil)) (.lit .u8 8))) (.lit .u64 1))
def ow0 : Tm := (.bin .lss (.var .i64 3) (.var .i64 1))
def ow1 : Tm := (.bin .geq (.var .i64 3) (.lit .i64 0))
def ow2 : Tm := (.bin .lss (.app .u8 20 (.cons (.var .i64 3) .nil)) (.lit .u8 128))
def ow3 : Tm := (.bin .neq (.var .u64 2) (.lit .u64 0))
def ow4 : Tm := (.bne (.blit false) (.bin .eql (.var .u64 2) (.lit .u64 0)))
def ow5 : Tm := (.bin .neq (.var .u64 2) (.var .u64 2))
def ow6 : Tm := (.bne (.blit true) (.bin .eql (.var .u64 2) (.lit .u64 0)))
def ow7 : Tm := (.bin .neq (.var .u64 4) (.var .u64 4))
def ow8 : Tm := (.bin .neq (.var .u64 2) (.var .u64 4))
def ow9 : Tm := (.bne (.blit false) (.bin .eql (.var .u64 2) (.var .u64 4)))
def ow10 : Tm := (.bne (.blit true) (.bin .eql (.var .u64 2) (.var .u64 4)))
section
variable (S : Sy) (n : Nat)
/-- Behind i rounds: i at the third place, who is next at the fourth. -/
def InvO (k : Nat) (S1 : Sy) : Prop := ∃ i : Nat, i ≤ n ∧ k = n - i ∧ S1.ρ 1 = n ∧ S1.ρ 3 = i ∧ S1.ρ 4 = S.Φ 20 [(i : Int)] % 8 + 1 ∧ S1.Φ = S.Φ ∧ S1.I = S.I
theorem stepO (hn : n < 9223372036854775808) (hr : ∀ j : Nat, j < n → 0 ≤ S.Φ 20 [(j : Int)] ∧ S.Φ 20 [(j : Int)] < 256) (k : Nat) (S1 : Sy) (hi : InvO S n k S1) : Step Try.prog ftO ΛO [] (cAt Try.prog lpO) XO FO (.exit 0) S (InvO S n) k S1 := by
  obtain ⟨i, hin, rfl, h1, h3, h4, hΦ, hI⟩ := hi
  have hcs : ∀ c ∈ ([] : List Ctr), CtrOk Try.prog S1 [] c := fun c hc => by simp at hc
  by_cases hlt : i < n
  · obtain ⟨r0, r1⟩ := hr i hlt
    have e20 : S1.Φ 20 [S1.ρ 3] = S.Φ 20 [(i : Int)] := by rw [hΦ, h3]
    have e20' : S1.Φ 20 ([S1.ρ 3] ++ []) = S.Φ 20 [(i : Int)] := e20
    have dw : whoT.den S1 = some [S1.ρ 4] := by
      have e1 : (Tm.bin .rem (.app .u8 20 (.cons (.var .i64 3) .nil)) (.lit .u8 8)).den S1 = some [S.Φ 20 [(i : Int)] % 8] := den_bin (k := .u8) (a := S.Φ 20 [(i : Int)]) (by show some [S1.Φ 20 [S1.ρ 3]] = _; rw [e20]) (den_lit _ _) (by
        show (if (8 : Int) = 0 then none else some (Value.int .u8 ((S.Φ 20 [(i : Int)]).tmod 8))) = _
        rw [if_neg (by decide), Int.tmod_eq_emod_of_nonneg r0])
      refine den_bin (k := .u64) (den_conv .u64 e1 (w_u64 (by omega) (by omega))) (den_lit _ _) ?_
      show some (Value.int .u64 (IntKind.u64.wrap (S.Φ 20 [(i : Int)] % 8 + 1))) = _
      rw [w_u64 (by omega) (by omega), h4]
    have k1 : n - i = n - (i + 1) + 1 := by omega
    have inv : ∀ o : Int, InvO S n (n - (i + 1)) (S1.setρ (upd S1.ρ [(2, o), (3, ((i + 1 : Nat) : Int)), (4, S.Φ 20 [((i + 1 : Nat) : Int)] % 8 + 1)])) := fun o =>
      ⟨i + 1, by omega, rfl, by simp [Sy.setρ, upd, h1], by simp [Sy.setρ, upd], by simp [Sy.setρ, upd], hΦ, hI⟩
    by_cases hf : S.Φ 20 [(i : Int)] < 128
    · by_cases h2 : S1.ρ 2 = 0
      · obtain ⟨o, ho⟩ : ∃ o : Int, o = S1.ρ 4 := ⟨_, rfl⟩
        have hI2 : (S1.setρ (upd S1.ρ [(2, o), (3, ((i + 1 : Nat) : Int)), (4, S.Φ 20 [((i + 1 : Nat) : Int)] % 8 + 1)])).I = S1.I := rfl
        have d0 : ow0.den S1 = some [b2i true] := tr (by omega)
        have d1 : ow1.den S1 = some [b2i true] := tr (by omega)
        have d2 : ow2.den S1 = some [b2i true] := tr (by omega)
        have d3 : ow3.den S1 = some [b2i false] := fls (by omega)
        have d4 : ow6.den S1 = some [b2i false] := fls (by rw [decide_eq_true (by omega)]; decide)
        have d5 : ow7.den S1 = some [b2i false] := fls (by omega)
        exact ⟨_, [], _, 1000, [(1, .num (Tm.enc (.var .i64 1))), (2, .num (Tm.enc (.var .u64 4))), (3, .num (Tm.enc (.bin .add (.var .i64 3) (.lit .i64 1)))), (2, .num (Tm.enc (.var .u64 4)))], (al_is ow7 false (by kernel_rfl) d5 (al_is ow6 false (by kernel_rfl) d4 (al_is ow3 false (by kernel_rfl) d3 (al_is ow2 true (by kernel_rfl) d2 (al_is ow1 true (by kernel_rfl) d1 (al_is ow0 true (by kernel_rfl) d0 (al_nm whoT (.var .u64 4) (by kernel_rfl) dw rfl (AlOk.nil _)))))))), hcs, LkOk.no _ _ _ _, .inl ⟨_, _, k1, inv o, (asg_cons (.var .i64 1) (by kernel_rfl) (sm (by first | (show S1.ρ _ = _; simp only [Sy.setρ, upd]; (try simp); (try omega)) | (show IntKind.i64.wrap _ = _; rw [w_i64 (by omega) (by omega)]; simp only [Sy.setρ, upd]; (try simp); (try omega)) | (simp only [Sy.setρ, upd]; (try simp); (try omega)))) (asg_cons (.var .u64 4) (by kernel_rfl) (sm (by first | (show S1.ρ _ = _; simp only [Sy.setρ, upd]; (try simp); (try omega)) | (show IntKind.i64.wrap _ = _; rw [w_i64 (by omega) (by omega)]; simp only [Sy.setρ, upd]; (try simp); (try omega)) | (simp only [Sy.setρ, upd]; (try simp); (try omega)))) (asg_cons (.bin .add (.var .i64 3) (.lit .i64 1)) (by kernel_rfl) (sm (by first | (show S1.ρ _ = _; simp only [Sy.setρ, upd]; (try simp); (try omega)) | (show IntKind.i64.wrap _ = _; rw [w_i64 (by omega) (by omega)]; simp only [Sy.setρ, upd]; (try simp); (try omega)) | (simp only [Sy.setρ, upd]; (try simp); (try omega)))) (asg_cons (.var .u64 4) (by kernel_rfl) (sm (by first | (show S1.ρ _ = _; simp only [Sy.setρ, upd]; (try simp); (try omega)) | (show IntKind.i64.wrap _ = _; rw [w_i64 (by omega) (by omega)]; simp only [Sy.setρ, upd]; (try simp); (try omega)) | (simp only [Sy.setρ, upd]; (try simp); (try omega)))) (asg_nil hI2))))), fun G => by kernel_rfl⟩⟩
      · obtain ⟨o, ho⟩ : ∃ o : Int, o = S1.ρ 2 := ⟨_, rfl⟩
        have hI2 : (S1.setρ (upd S1.ρ [(2, o), (3, ((i + 1 : Nat) : Int)), (4, S.Φ 20 [((i + 1 : Nat) : Int)] % 8 + 1)])).I = S1.I := rfl
        have d0 : ow0.den S1 = some [b2i true] := tr (by omega)
        have d1 : ow1.den S1 = some [b2i true] := tr (by omega)
        have d2 : ow2.den S1 = some [b2i true] := tr (by omega)
        have d3 : ow3.den S1 = some [b2i true] := tr (by omega)
        have d4 : ow4.den S1 = some [b2i false] := fls (by rw [decide_eq_false (by omega)]; decide)
        have d5 : ow5.den S1 = some [b2i false] := fls (by omega)
        exact ⟨_, [], _, 1000, [(1, .num (Tm.enc (.var .i64 1))), (2, .num (Tm.enc (.var .u64 2))), (3, .num (Tm.enc (.bin .add (.var .i64 3) (.lit .i64 1)))), (2, .num (Tm.enc (.var .u64 2)))], (al_is ow5 false (by kernel_rfl) d5 (al_is ow4 false (by kernel_rfl) d4 (al_is ow3 true (by kernel_rfl) d3 (al_is ow2 true (by kernel_rfl) d2 (al_is ow1 true (by kernel_rfl) d1 (al_is ow0 true (by kernel_rfl) d0 (al_nm whoT (.var .u64 4) (by kernel_rfl) dw rfl (AlOk.nil _)))))))), hcs, LkOk.no _ _ _ _, .inl ⟨_, _, k1, inv o, (asg_cons (.var .i64 1) (by kernel_rfl) (sm (by first | (show S1.ρ _ = _; simp only [Sy.setρ, upd]; (try simp); (try omega)) | (show IntKind.i64.wrap _ = _; rw [w_i64 (by omega) (by omega)]; simp only [Sy.setρ, upd]; (try simp); (try omega)) | (simp only [Sy.setρ, upd]; (try simp); (try omega)))) (asg_cons (.var .u64 2) (by kernel_rfl) (sm (by first | (show S1.ρ _ = _; simp only [Sy.setρ, upd]; (try simp); (try omega)) | (show IntKind.i64.wrap _ = _; rw [w_i64 (by omega) (by omega)]; simp only [Sy.setρ, upd]; (try simp); (try omega)) | (simp only [Sy.setρ, upd]; (try simp); (try omega)))) (asg_cons (.bin .add (.var .i64 3) (.lit .i64 1)) (by kernel_rfl) (sm (by first | (show S1.ρ _ = _; simp only [Sy.setρ, upd]; (try simp); (try omega)) | (show IntKind.i64.wrap _ = _; rw [w_i64 (by omega) (by omega)]; simp only [Sy.setρ, upd]; (try simp); (try omega)) | (simp only [Sy.setρ, upd]; (try simp); (try omega)))) (asg_cons (.var .u64 2) (by kernel_rfl) (sm (by first | (show S1.ρ _ = _; simp only [Sy.setρ, upd]; (try simp); (try omega)) | (show IntKind.i64.wrap _ = _; rw [w_i64 (by omega) (by omega)]; simp only [Sy.setρ, upd]; (try simp); (try omega)) | (simp only [Sy.setρ, upd]; (try simp); (try omega)))) (asg_nil hI2))))), fun G => by kernel_rfl⟩⟩
    · by_cases h2 : S1.ρ 2 = S1.ρ 4
      · obtain ⟨o, ho⟩ : ∃ o : Int, o = 0 := ⟨_, rfl⟩
        have hI2 : (S1.setρ (upd S1.ρ [(2, o), (3, ((i + 1 : Nat) : Int)), (4, S.Φ 20 [((i + 1 : Nat) : Int)] % 8 + 1)])).I = S1.I := rfl
        have d0 : ow0.den S1 = some [b2i true] := tr (by omega)
        have d1 : ow1.den S1 = some [b2i true] := tr (by omega)
        have d2 : ow2.den S1 = some [b2i false] := fls (by omega)
        have d3 : ow8.den S1 = some [b2i false] := fls (by omega)
        have d4 : ow10.den S1 = some [b2i false] := fls (by rw [decide_eq_true (by omega)]; decide)
        exact ⟨_, [], _, 1000, [(1, .num (Tm.enc (.var .i64 1))), (2, .num (Tm.enc (.lit .u64 0))), (3, .num (Tm.enc (.bin .add (.var .i64 3) (.lit .i64 1)))), (2, .num (Tm.enc (.lit .u64 0)))], (al_is ow10 false (by kernel_rfl) d4 (al_is ow8 false (by kernel_rfl) d3 (al_is ow2 false (by kernel_rfl) d2 (al_is ow1 true (by kernel_rfl) d1 (al_is ow0 true (by kernel_rfl) d0 (al_nm whoT (.var .u64 4) (by kernel_rfl) dw rfl (AlOk.nil _))))))), hcs, LkOk.no _ _ _ _, .inl ⟨_, _, k1, inv o, (asg_cons (.var .i64 1) (by kernel_rfl) (sm (by first | (show S1.ρ _ = _; simp only [Sy.setρ, upd]; (try simp); (try omega)) | (show IntKind.i64.wrap _ = _; rw [w_i64 (by omega) (by omega)]; simp only [Sy.setρ, upd]; (try simp); (try omega)) | (simp only [Sy.setρ, upd]; (try simp); (try omega)))) (asg_cons (.lit .u64 0) (by kernel_rfl) (sm (by first | (show S1.ρ _ = _; simp only [Sy.setρ, upd]; (try simp); (try omega)) | (show IntKind.i64.wrap _ = _; rw [w_i64 (by omega) (by omega)]; simp only [Sy.setρ, upd]; (try simp); (try omega)) | (simp only [Sy.setρ, upd]; (try simp); (try omega)))) (asg_cons (.bin .add (.var .i64 3) (.lit .i64 1)) (by kernel_rfl) (sm (by first | (show S1.ρ _ = _; simp only [Sy.setρ, upd]; (try simp); (try omega)) | (show IntKind.i64.wrap _ = _; rw [w_i64 (by omega) (by omega)]; simp only [Sy.setρ, upd]; (try simp); (try omega)) | (simp only [Sy.setρ, upd]; (try simp); (try omega)))) (asg_cons (.lit .u64 0) (by kernel_rfl) (sm (by first | (show S1.ρ _ = _; simp only [Sy.setρ, upd]; (try simp); (try omega)) | (show IntKind.i64.wrap _ = _; rw [w_i64 (by omega) (by omega)]; simp only [Sy.setρ, upd]; (try simp); (try omega)) | (simp only [Sy.setρ, upd]; (try simp); (try omega)))) (asg_nil hI2))))), fun G => by kernel_rfl⟩⟩
      · obtain ⟨o, ho⟩ : ∃ o : Int, o = S1.ρ 2 := ⟨_, rfl⟩
        have hI2 : (S1.setρ (upd S1.ρ [(2, o), (3, ((i + 1 : Nat) : Int)), (4, S.Φ 20 [((i + 1 : Nat) : Int)] % 8 + 1)])).I = S1.I := rfl
        have d0 : ow0.den S1 = some [b2i true] := tr (by omega)
        have d1 : ow1.den S1 = some [b2i true] := tr (by omega)
        have d2 : ow2.den S1 = some [b2i false] := fls (by omega)
        have d3 : ow8.den S1 = some [b2i true] := tr (by omega)
        have d4 : ow9.den S1 = some [b2i false] := fls (by rw [decide_eq_false (by omega)]; decide)
        have d5 : ow5.den S1 = some [b2i false] := fls (by omega)
        exact ⟨_, [], _, 1000, [(1, .num (Tm.enc (.var .i64 1))), (2, .num (Tm.enc (.var .u64 2))), (3, .num (Tm.enc (.bin .add (.var .i64 3) (.lit .i64 1)))), (2, .num (Tm.enc (.var .u64 2)))], (al_is ow5 false (by kernel_rfl) d5 (al_is ow9 false (by kernel_rfl) d4 (al_is ow8 true (by kernel_rfl) d3 (al_is ow2 false (by kernel_rfl) d2 (al_is ow1 true (by kernel_rfl) d1 (al_is ow0 true (by kernel_rfl) d0 (al_nm whoT (.var .u64 4) (by kernel_rfl) dw rfl (AlOk.nil _)))))))), hcs, LkOk.no _ _ _ _, .inl ⟨_, _, k1, inv o, (asg_cons (.var .i64 1) (by kernel_rfl) (sm (by first | (show S1.ρ _ = _; simp only [Sy.setρ, upd]; (try simp); (try omega)) | (show IntKind.i64.wrap _ = _; rw [w_i64 (by omega) (by omega)]; simp only [Sy.setρ, upd]; (try simp); (try omega)) | (simp only [Sy.setρ, upd]; (try simp); (try omega)))) (asg_cons (.var .u64 2) (by kernel_rfl) (sm (by first | (show S1.ρ _ = _; simp only [Sy.setρ, upd]; (try simp); (try omega)) | (show IntKind.i64.wrap _ = _; rw [w_i64 (by omega) (by omega)]; simp only [Sy.setρ, upd]; (try simp); (try omega)) | (simp only [Sy.setρ, upd]; (try simp); (try omega)))) (asg_cons (.bin .add (.var .i64 3) (.lit .i64 1)) (by kernel_rfl) (sm (by first | (show S1.ρ _ = _; simp only [Sy.setρ, upd]; (try simp); (try omega)) | (show IntKind.i64.wrap _ = _; rw [w_i64 (by omega) (by omega)]; simp only [Sy.setρ, upd]; (try simp); (try omega)) | (simp only [Sy.setρ, upd]; (try simp); (try omega)))) (asg_cons (.var .u64 2) (by kernel_rfl) (sm (by first | (show S1.ρ _ = _; simp only [Sy.setρ, upd]; (try simp); (try omega)) | (show IntKind.i64.wrap _ = _; rw [w_i64 (by omega) (by omega)]; simp only [Sy.setρ, upd]; (try simp); (try omega)) | (simp only [Sy.setρ, upd]; (try simp); (try omega)))) (asg_nil hI2))))), fun G => by kernel_rfl⟩⟩
  · have d0 : ow0.den S1 = some [b2i false] := fls (by omega)
    exact ⟨_, [], _, 1000, [], al_is ow0 false (by kernel_rfl) d0 (AlOk.nil _), hcs, LkOk.no _ _ _ _, .inr ⟨asg_nil hI.symm, fun G => by kernel_rfl⟩⟩
theorem lkO (hn : n < 9223372036854775808) (hr : ∀ j : Nat, j < n → 0 ≤ S.Φ 20 [(j : Int)] ∧ S.Φ 20 [(j : Int)] < 256) (h1 : S.ρ 1 = n) (h3 : S.ρ 3 = 0) (h2 : S.ρ 2 = 0) (h4 : S.ρ 4 = S.Φ 20 [(0 : Int)] % 8 + 1) :
    LkOk Try.prog S [] ΛO (lkL [lkLoop Try.prog XO FO (.exit 0) [(1, .num (Tm.var .i64 1).enc), (2, .num (Tm.lit .u64 0).enc), (3, .num (Tm.lit .i64 0).enc), (2, .num (Tm.lit .u64 0).enc)]]) :=
  LkOk.one codeO (loop_ok envOO (ann_self _) fineO' (show XO.N = FO.N from rfl) (stepO S n hn hr) (k0 := n) (S0 := S) ⟨0, Nat.zero_le _, rfl, h1, h3, h4, rfl, rfl⟩
    (asg_cons (.var .i64 1) (by kernel_rfl) rfl (asg_cons (.lit .u64 0) (by kernel_rfl) (sm h2.symm) (asg_cons (.lit .i64 0) (by kernel_rfl) (sm h3.symm) (asg_cons (.lit .u64 0) (by kernel_rfl) (sm h2.symm) (asg_nil rfl))))))
end
def great : Tm := (.bin .gtr (.var .i64 1) (.lit .i64 60))
theorem owner_any (v : Value) (w : World) (hs : SlIn w [some .u8] v) : Calls Try.prog 9 #[v] w fun e w' => e = .returned (.bool true) ∧ Quiet w w' := by
  obtain ⟨x, F, hks, hf, rfl, hx, hwf, hok, hin⟩ := inp_of (by decide) hs 20
  let Φ : Nat → List Int → Int := fun f l => if f = 20 then (match l with | [j] => F 0 j.toNat | _ => 0) else Φ9 f l
  have hxok : InpOk [x] Φ x := hok Φ fun m j hm => by
    have : m = 0 := by simp at hm; exact hm
    subst this
    simp [Φ]
  let S : Sy := ⟨upd (fun _ => 0) [(1, (x.n : Int)), (4, Φ 20 [0] % 8 + 1)], Φ, [x], fun y hy => by rw [List.mem_singleton] at hy; subst hy; exact hxok⟩
  have hr : ∀ j : Nat, j < x.n → 0 ≤ S.Φ 20 [(j : Int)] ∧ S.Φ 20 [(j : Int)] < 256 := fun j hj => by
    have h := hwf 0 .u8 j rfl hj
    have e : S.Φ 20 [(j : Int)] = F 0 j := by simp [S, Φ]
    rw [e]
    simp only [Lit.wf, Bool.and_eq_true, decide_eq_true_eq] at h
    have e1 : IntKind.u8.min = 0 := by decide
    have e2 : IntKind.u8.max = 255 := by decide
    omega
  have hΦ : S.Φ 9 [] = 1 := rfl
  have hn : S.ρ 1 = x.n := rfl
  have hvs : ∀ G ι, VsOk S G ι [inO] [.slice x.a x.n x.cap] := fun G ι => vs_inp (x := x) (by decide) (by decide +kernel) rfl (by rw [hks]; decide +kernel) (by rw [hf]; decide +kernel) rfl vs_nil
  by_cases hg : 60 < (x.n : Int)
  · have dg : great.den S = some [b2i true] := tr (p := 60 < S.ρ 1) (by omega)
    exact symRunI envOO (al_is aw29 true (by kernel_rfl) (aw29_den hΦ) (al_is great true (by kernel_rfl) dg (AlOk.nil _))) (one_ok hΦ) (lkO S x.n hx hr hn rfl rfl rfl) (n := 1000) (args := [inO]) (args' := [.slice x.a x.n x.cap]) (res := [.one .bool]) (vs := [.bool true]) (rcs := [litB true]) (rs := [1])
      rfl ⟨ev_litB _ true, trivial⟩ (fun G => by kernel_rfl) hvs w (gok w) hin
  · have dg : great.den S = some [b2i false] := fls (p := 60 < S.ρ 1) (by omega)
    exact symRunI envOO (al_is aw29 true (by kernel_rfl) (aw29_den hΦ) (al_is great false (by kernel_rfl) dg (AlOk.nil _))) (one_ok hΦ) (lkO S x.n hx hr hn rfl rfl rfl) (n := 1000) (args := [inO]) (args' := [.slice x.a x.n x.cap]) (res := [.one .bool]) (vs := [.bool true]) (rcs := [litB true]) (rs := [1])
      rfl ⟨ev_litB _ true, trivial⟩ (fun G => by kernel_rfl) hvs w (gok w) hin
end Go.Proofs.Ytpoomgmehielcaa
