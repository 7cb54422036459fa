/-
  MemAdds: its loop by a rule, run with symbols. Conditions: what is said of the slice (SlIn), and of the numbers' types.
-/
import Derived.Test.YtpoomgmehielcaaM1
import Derived.Test.YtpoomgmehielcaaEvSl
namespace Go.Proofs.Ytpoomgmehielcaa
open Go.Ev Go.RowKit
set_option maxRecDepth 100000
/-! ### Sums -/
def sumN (f : Nat → Int) : Nat → Int
  | 0 => 0
  | n + 1 => sumN f n + f n
theorem sumN_ext {f g : Nat → Int} : ∀ (n : Nat), (∀ j, j < n → f j = g j) → sumN f n = sumN g n
  | 0, _ => rfl
  | n + 1, h => by simp only [sumN]; rw [sumN_ext n fun j hj => h j (by omega), h n (by omega)]
theorem sumN_head (k : Nat → Int) : ∀ n, sumN k (n + 1) = k 0 + sumN (fun j => k (j + 1)) n
  | 0 => by simp [sumN]
  | n + 1 => by
    have := sumN_head k n
    simp only [sumN] at this ⊢
    omega
theorem sumN_rev (g : Nat → Int) : ∀ n, sumN (fun j => g (n - 1 - j)) n = sumN g n
  | 0 => rfl
  | n + 1 => by
    rw [sumN_head]
    have e : sumN (fun j => g (n + 1 - 1 - (j + 1))) n = sumN (fun j => g (n - 1 - j)) n := sumN_ext n fun j hj => by congr 1; omega
    rw [e, sumN_rev g n]
    simp only [sumN, Nat.add_sub_cancel, Nat.sub_zero]
    omega
theorem sumN_rot (f : Nat → Int) (n : Nat) : ∀ t, sumN (fun j => f ((j + t) % n)) n = sumN f n
  | 0 => sumN_ext n fun j hj => by rw [Nat.add_zero, Nat.mod_eq_of_lt hj]
  | t + 1 => by
    rw [← sumN_rot f n t]
    have h1 := sumN_head (fun j => f ((j + t) % n)) n
    have h2 : sumN (fun j => f ((j + t) % n)) (n + 1) = sumN (fun j => f ((j + t) % n)) n + f ((n + t) % n) := rfl
    have h3 : f ((n + t) % n) = f ((0 + t) % n) := by rw [Nat.add_mod_left, Nat.zero_add]
    have h4 : sumN (fun j => f ((j + (t + 1)) % n)) n = sumN (fun j => f ((j + 1 + t) % n)) n := sumN_ext n fun j hj => by congr 2; omega
    rw [h4]
    omega
theorem sumN_turn (f : Nat → Int) (n t : Nat) : sumN (fun j => f ((n - 1 - j + t) % n)) n = sumN f n := by
  rw [sumN_rev (fun m => f ((m + t) % n)) n, sumN_rot]

def lpA : Mrk := (8, [1, 1, 1, 1, 1, 1, 1, 0, 1, 0])
def vv (k : IntKind) (i : Nat) : Value := .float .f64 (i * 512 + kI k)
def inA : Value := inS 0 (dsc 1 20 [8])
noncomputable def hpA : List (Nat × Blk) := [(0, .cells (mkCells #[vv .u64 3, vv .u64 5] 22)), (1, .cells (mkCells #[] 5)), (2, .cells (mkCells #[.slice (some ⟨0, 0, none⟩) 2 2, .slice (some ⟨1, 0, none⟩) 0 0] 77))]
noncomputable def XA : Pat := ⟨95, 11, [(1, inA), (2, vv .u8 2), (7, .pointer (some ⟨2, 0, none⟩)), (9, vv .u64 3), (10, vv .i64 4)], hpA⟩
noncomputable def FA : Pat := ⟨95, 11, [(7, .pointer (some ⟨2, 0, none⟩)), (9, vv .u64 3)], hpA⟩
noncomputable abbrev ΛA : Nat → Option Code := lamOf Try.prog [lpA]
noncomputable abbrev ftA : Nat → Option Func := ftM Try.prog [lpA]
theorem envA : @EnvOk ⟨ΛA⟩ Try.prog ftA := envM env [lpA] (by kernel_rfl)
theorem codeA : codeAt Try.prog lpA = some (.loop (cAt Try.prog lpA)) := by kernel_rfl
theorem fineA : fineC Try.prog.globals.size (cAt Try.prog lpA) = true := by kernel_rfl
def iA : Tm := .bin .add (.bin .sub (.bin .sub (.var .i64 1) (.lit .i64 1)) (.var .i64 4)) (.conv .i64 (.var .u8 2))
def ixT : Tm := .bin .rem iA (.var .i64 1)
def ad0 : Tm := (.bin .lss (.var .i64 4) (.var .i64 1))
def ad1 : Tm := (.bin .geq (.var .i64 4) (.lit .i64 0))
def ad2 : Tm := (.bin .neq (.var .u64 3) (.var .u64 3))
def ad3 : Tm := (.bin .geq (.var .i64 6) (.lit .i64 0))
def ad4 : Tm := (.bin .lss (.var .i64 6) (.var .i64 1))
section
variable (S : Sy) (n t : Nat)
def zA (j : Nat) : Int := S.Φ 20 [(j : Int)]
def M64 : Int := 18446744073709551616
def a3 (i : Nat) : Int := (S.ρ 0 + sumN (zA S) i) % 18446744073709551616
def a5 (i : Nat) : Int := (S.ρ 0 + sumN (fun j => zA S ((n - 1 - j + t) % n)) i) % 18446744073709551616
/-- Behind i rounds. -/
def InvA (k : Nat) (S1 : Sy) : Prop := ∃ i : Nat, i ≤ n ∧ k = n - i ∧ S1.ρ 1 = n ∧ S1.ρ 2 = t ∧ S1.ρ 4 = i ∧ S1.ρ 3 = a3 S i ∧ S1.ρ 5 = a5 S n t i ∧ S1.ρ 6 = ((n - 1 - i + t) % n : Nat) ∧ S1.Φ = S.Φ ∧ S1.I = S.I
theorem stepA (hn : n ≤ 40) (ht : t < 256) (hS3 : S.ρ 3 = a3 S n) (hS5 : S.ρ 5 = a5 S n t n) (k : Nat) (S1 : Sy) (hi : InvA S n t k S1) : Step Try.prog ftA ΛA [] (cAt Try.prog lpA) XA FA (.exit 0) S (InvA S n t) k S1 := by
  obtain ⟨i, hin, rfl, h1, h2, h4, h3, h5, h6, hΦ, hI⟩ := hi
  have hcs : ∀ c ∈ ([] : List Ctr), CtrOk Try.prog S1 [] c := fun c hc => by simp at hc
  by_cases hlt : i < n
  · have hm : (n - 1 - i + t) % n < n := Nat.mod_lt _ (by omega)
    have e4 : S1.Φ 20 ([S1.ρ 4] ++ []) = zA S i := by rw [hΦ, h4]; rfl
    have e6 : S1.Φ 20 ([S1.ρ 6] ++ []) = zA S ((n - 1 - i + t) % n) := by rw [hΦ, h6]; rfl
    have dx : ixT.den S1 = some [S1.ρ 6] := by
      have e0 : (Tm.bin .sub (.var .i64 1) (.lit .i64 1)).den S1 = some [(n : Int) - 1] := den_bin (k := .i64) rfl (den_lit _ _) (by
        show some (Value.int .i64 (IntKind.i64.wrap (S1.ρ 1 - 1))) = _
        rw [w_i64 (by omega) (by omega), h1])
      have e1 : (Tm.bin .sub (.bin .sub (.var .i64 1) (.lit .i64 1)) (.var .i64 4)).den S1 = some [(n : Int) - 1 - i] := den_bin (k := .i64) e0 rfl (by
        show some (Value.int .i64 (IntKind.i64.wrap ((n : Int) - 1 - S1.ρ 4))) = _
        rw [w_i64 (by omega) (by omega), h4])
      have e2 : (Tm.conv .i64 (.var .u8 2)).den S1 = some [(t : Int)] := den_conv .i64 rfl (by rw [w_i64 (by omega) (by omega), h2])
      have e3 : iA.den S1 = some [((n - 1 - i + t : Nat) : Int)] := den_bin (k := .i64) e1 e2 (by
        show some (Value.int .i64 (IntKind.i64.wrap ((n : Int) - 1 - i + t))) = _
        rw [w_i64 (by omega) (by omega)]
        congr 2
        omega)
      refine den_bin (k := .i64) (b := S1.ρ 1) e3 rfl ?_
      show (if S1.ρ 1 = 0 then none else some (Value.int .i64 (((n - 1 - i + t : Nat) : Int).tmod (S1.ρ 1)))) = _
      rw [if_neg (by omega), h1, Int.tmod_eq_emod_of_nonneg (by omega), h6]
      congr 2
    have k1 : n - i = n - (i + 1) + 1 := by omega
    obtain ⟨o3, ho3⟩ : ∃ o : Int, o = (S1.ρ 3 + zA S i) % 18446744073709551616 := ⟨_, rfl⟩
    obtain ⟨o5, ho5⟩ : ∃ o : Int, o = (S1.ρ 5 + zA S ((n - 1 - i + t) % n)) % 18446744073709551616 := ⟨_, rfl⟩
    have inv : InvA S n t (n - (i + 1)) (S1.setρ (upd S1.ρ [(3, o3), (4, ((i + 1 : Nat) : Int)), (5, o5), (6, ((n - 1 - (i + 1) + t) % n : Nat))])) := by
      refine ⟨i + 1, by omega, rfl, by simp [Sy.setρ, upd, h1], by simp [Sy.setρ, upd, h2], by simp [Sy.setρ, upd], ?_, ?_, by simp [Sy.setρ, upd], hΦ, hI⟩
      · have e : a3 S (i + 1) = o3 := by rw [ho3, h3]; unfold a3; simp only [sumN]; omega
        rw [e]; simp [Sy.setρ, upd]
      · have e : a5 S n t (i + 1) = o5 := by rw [ho5, h5]; unfold a5; simp only [sumN]; omega
        rw [e]; simp [Sy.setρ, upd]
    have d0 : ad0.den S1 = some [b2i true] := tr (by omega)
    have d1 : ad1.den S1 = some [b2i true] := tr (by omega)
    have d2 : ad2.den S1 = some [b2i false] := fls (by omega)
    have d3 : ad3.den S1 = some [b2i true] := tr (by omega)
    have d4 : ad4.den S1 = some [b2i true] := tr (by omega)
    exact ⟨_, [], _, 1000, [(1, .num (Tm.enc (.var .i64 1))), (2, .num (Tm.enc (.var .u8 2))), (3, .num (Tm.enc (.bin .add (.var .u64 3) (.app .u64 20 (.cons (.var .i64 4) .nil))))), (4, .num (Tm.enc (.bin .add (.var .i64 4) (.lit .i64 1)))), (5, .num (Tm.enc (.bin .add (.var .u64 5) (.app .u64 20 (.cons (.var .i64 6) .nil))))), (3, .num (Tm.enc (.bin .add (.var .u64 3) (.app .u64 20 (.cons (.var .i64 4) .nil)))))], (al_is ad4 true (by kernel_rfl) d4 (al_is ad3 true (by kernel_rfl) d3 (al_is ad2 false (by kernel_rfl) d2 (al_is ad1 true (by kernel_rfl) d1 (al_is ad0 true (by kernel_rfl) d0 (al_nm ixT (.var .i64 6) (by kernel_rfl) dx rfl (AlOk.nil _))))))), hcs, LkOk.no _ _ _ _, .inl ⟨_, _, k1, inv, (asg_cons (.var .i64 1) (by kernel_rfl) (sm (by show S1.ρ _ = _; simp only [Sy.setρ, upd]; (try simp))) (asg_cons (.var .u8 2) (by kernel_rfl) (sm (by show S1.ρ _ = _; simp only [Sy.setρ, upd]; (try simp))) (asg_cons (.bin .add (.var .u64 3) (.app .u64 20 (.cons (.var .i64 4) .nil))) (by kernel_rfl) (sm (by show IntKind.u64.wrap _ = _; rw [mod_u64, e4]; exact ho3.symm)) (asg_cons (.bin .add (.var .i64 4) (.lit .i64 1)) (by kernel_rfl) (sm (by show IntKind.i64.wrap _ = _; rw [w_i64 (by omega) (by omega)]; simp only [Sy.setρ, upd]; (try simp); (try omega))) (asg_cons (.bin .add (.var .u64 5) (.app .u64 20 (.cons (.var .i64 6) .nil))) (by kernel_rfl) (sm (by show IntKind.u64.wrap _ = _; rw [mod_u64, e6]; exact ho5.symm)) (asg_cons (.bin .add (.var .u64 3) (.app .u64 20 (.cons (.var .i64 4) .nil))) (by kernel_rfl) (sm (by show IntKind.u64.wrap _ = _; rw [mod_u64, e4]; exact ho3.symm)) (asg_nil rfl))))))), fun G => by kernel_rfl⟩⟩
  · obtain rfl : i = n := by omega
    have d0 : ad0.den S1 = some [b2i false] := fls (by omega)
    exact ⟨_, [], _, 1000, [(3, .num (Tm.enc (.var .u64 3))), (5, .num (Tm.enc (.var .u64 5))), (3, .num (Tm.enc (.var .u64 3)))], (al_is ad0 false (by kernel_rfl) d0 (AlOk.nil _)), hcs, LkOk.no _ _ _ _, .inr ⟨(asg_cons (.var .u64 3) (by kernel_rfl) (sm (by show S1.ρ _ = _; omega)) (asg_cons (.var .u64 5) (by kernel_rfl) (sm (by show S1.ρ _ = _; omega)) (asg_cons (.var .u64 3) (by kernel_rfl) (sm (by show S1.ρ _ = _; omega)) (asg_nil hI.symm)))), fun G => by kernel_rfl⟩⟩
def asgA0 : Asg := [(1, .num (Tm.var .i64 1).enc), (2, .num (Tm.var .u8 2).enc), (3, .num (Tm.var .u64 0).enc), (4, .num (Tm.lit .i64 0).enc), (5, .num (Tm.var .u64 0).enc), (3, .num (Tm.var .u64 0).enc)]
theorem lkA (hn : n ≤ 40) (ht : t < 256) (h0 : 0 ≤ S.ρ 0) (h0' : S.ρ 0 < 18446744073709551616) (h1 : S.ρ 1 = n) (h2 : S.ρ 2 = t) (hS3 : S.ρ 3 = a3 S n) (hS5 : S.ρ 5 = a5 S n t n) : LkOk Try.prog S [] ΛA (lkL [lkLoop Try.prog XA FA (.exit 0) asgA0]) := by
  have i0 : InvA S n t n (S.setρ (upd S.ρ [(3, S.ρ 0), (4, 0), (5, S.ρ 0), (6, ((n - 1 - 0 + t) % n : Nat))])) := by
    refine ⟨0, Nat.zero_le _, rfl, by simp [Sy.setρ, upd, h1], by simp [Sy.setρ, upd, h2], by simp [Sy.setρ, upd], ?_, ?_, by simp [Sy.setρ, upd], rfl, rfl⟩
    · have e : a3 S 0 = S.ρ 0 := by unfold a3; simp only [sumN]; omega
      rw [e]; simp [Sy.setρ, upd]
    · have e : a5 S n t 0 = S.ρ 0 := by unfold a5; simp only [sumN]; omega
      rw [e]; simp [Sy.setρ, upd]
  exact LkOk.one codeA (loop_ok envA (ann_self _) fineA (show XA.N = FA.N from rfl) (stepA S n t hn ht hS3 hS5) i0
    (asg_cons (.var .i64 1) (by kernel_rfl) rfl (asg_cons (.var .u8 2) (by kernel_rfl) rfl (asg_cons (.var .u64 0) (by kernel_rfl) rfl (asg_cons (.lit .i64 0) (by kernel_rfl) rfl (asg_cons (.var .u64 0) (by kernel_rfl) rfl (asg_cons (.var .u64 0) (by kernel_rfl) rfl (asg_nil rfl))))))))
end
def great : Tm := (.bin .gtr (.var .i64 1) (.lit .i64 40))
def e33 : Tm := .bin .eql (.var .u64 3) (.var .u64 3)
def e53 : Tm := .bin .eql (.var .u64 5) (.var .u64 3)
theorem adds_any (a : Int) (ha : 0 ≤ a) (ha2 : a < 18446744073709551616) (v : Value) (t : Nat) (ht : t < 256) (w : World) (hs : SlIn w [some .u64] v) : Calls Try.prog 8 #[.int .u64 a, v, .int .u8 t] w fun e w' => e = .returned (.bool true) ∧ Quiet w w' := by
  obtain ⟨x, F, hks, hf, rfl, _, _, hok, hin⟩ := inp_of (by decide) hs 20
  obtain ⟨Φ, hΦe⟩ : ∃ Φ : Nat → List Int → Int, Φ = fun f l => if f = 20 then (match l with | [j] => F 0 j.toNat | _ => 0) else Φ9 f l := ⟨_, rfl⟩
  have hxok : InpOk [x] Φ x := hok Φ fun m j hm => by
    have : m = 0 := by simp at hm; exact hm
    subst this
    rw [hΦe]
    simp
  obtain ⟨fin, hfin⟩ : ∃ fin : Int, fin = (a + sumN (fun j : Nat => Φ 20 [(j : Int)]) x.n) % 18446744073709551616 := ⟨_, rfl⟩
  let S : Sy := ⟨upd (fun _ => 0) [(0, a), (1, (x.n : Int)), (2, (t : Int)), (3, fin), (5, fin)], Φ, [x], fun y hy => by rw [List.mem_singleton] at hy; subst hy; exact hxok⟩
  have hΦ : S.Φ 9 [] = 1 := by show Φ 9 [] = 1; rw [hΦe]; rfl
  have hn : S.ρ 1 = x.n := rfl
  have h3 : S.ρ 3 = fin := rfl
  have h5 : S.ρ 5 = fin := rfl
  have hvs : ∀ G ι, VsOk S G ι [vv .u64 0, inA, vv .u8 2] [.int .u64 a, .slice x.a x.n x.cap, .int .u8 t] := fun G ι => vs_sym rfl (vs_inp (x := x) (by decide) (by decide +kernel) rfl (by rw [hks]; decide +kernel) (by rw [hf]; decide +kernel) rfl (vs_sym rfl vs_nil))
  by_cases hg : 40 < (x.n : Int)
  · have dg : great.den S = some [b2i true] := tr (p := 40 < S.ρ 1) (by omega)
    exact symRunI envA (al_is aw29 true (by kernel_rfl) (aw29_den hΦ) (al_is great true (by kernel_rfl) dg (AlOk.nil _))) (one_ok hΦ) (LkOk.no _ _ _ _) (n := 1000) (args := [vv .u64 0, inA, vv .u8 2]) (args' := [.int .u64 a, .slice x.a x.n x.cap, .int .u8 t]) (res := [.one .bool]) (vs := [.bool true]) (rcs := [litB true]) (rs := [1])
      rfl ⟨ev_litB _ true, trivial⟩ (fun G => by kernel_rfl) hvs w (gok w) hin
  · have dg : great.den S = some [b2i false] := fls (p := 40 < S.ρ 1) (by omega)
    have g1 : e33.den S = some [b2i true] := tr (p := S.ρ 3 = S.ρ 3) rfl
    have g2 : e53.den S = some [b2i true] := tr (p := S.ρ 5 = S.ρ 3) (by rw [h3, h5])
    have hz : zA S = fun j : Nat => Φ 20 [(j : Int)] := rfl
    have q3 : S.ρ 3 = a3 S x.n := by rw [h3, hfin]; rfl
    have q5 : S.ρ 5 = a5 S x.n t x.n := by
      rw [h5, hfin]
      unfold a5
      rw [sumN_turn (zA S) x.n t]
      rfl
    exact symRunI envA (al_is aw29 true (by kernel_rfl) (aw29_den hΦ) (al_is e53 true (by kernel_rfl) g2 (al_is e33 true (by kernel_rfl) g1 (al_is great false (by kernel_rfl) dg (AlOk.nil _))))) (one_ok hΦ) (lkA S x.n t (by omega) ht ha ha2 hn rfl q3 q5) (n := 1000) (args := [vv .u64 0, inA, vv .u8 2]) (args' := [.int .u64 a, .slice x.a x.n x.cap, .int .u8 t]) (res := [.one .bool]) (vs := [.bool true]) (rcs := [litB true]) (rs := [1])
      rfl ⟨ev_litB _ true, trivial⟩ (fun G => by kernel_rfl) hvs w (gok w) hin
end Go.Proofs.Ytpoomgmehielcaa
