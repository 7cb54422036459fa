/-
  CacheTells: the loops that compare words. Conditions: those each says.
-/
import Derived.Test.YtmeppoihgfdgaaaDoorCA1
namespace Go.Proofs.YtmeppoihgfdgaaaDoor
open Go.Ev Go.RowKit
set_option maxRecDepth 100000
set_option linter.unusedVariables false
def owT (b i : Nat) : Value := .float .f32 (mk 3 0 b (i * 512 + 3))
noncomputable def rwWT (f : Nat) : Blk := .arr ⟨42 * 512 + 3, [(some .u64, .var f)], 31⟩
noncomputable def zBT : Blk := .cells (mkCells (Array.replicate 64 (.int .u8 0)) 5)
noncomputable def zCT : Blk := .cells { mkCells (Array.replicate 64 (.int .u8 0)) 5 with opn := true }
noncomputable def mOT : Blk := .cells (mkCells #[owT 85 42, .slice (some ⟨86, 0, none⟩) 64 64] 74)
noncomputable def gBT : Blk := .cells (mkCells #[.int .i64 1, vv .i64 9, .int .i64 0, .int .i64 1, .int .i64 2, .int .i64 7, .int .i64 16, .int .i64 17, .int .i64 21, vv .i64 30, vv .i64 31, vv .i64 32, vv .i64 33, vv .i64 34, vv .i64 35, vv .i64 36, vv .i64 37, vv .i64 38, vv .i64 39, vv .i64 40, vv .i64 41, vv .i64 42] 24)
noncomputable def tBT (ty : TypeId) : Blk := .cells (mkCells tab ty)
noncomputable def hMT (ty : TypeId) : List (Nat × Blk) := [(0, (tBT ty)), (85, rwWT 60), (86, zBT), (87, mOT), (88, gBT)]
noncomputable def hXT (ty : TypeId) (f h a b c d : Nat) : List (Nat × Blk) := (hMT ty) ++ [(a, rwWT f), (b, zCT), (c, rwWT h), (d, zCT)]
noncomputable def X0T (ty : TypeId) : Pat := ⟨26, 400, [(0, owT 90 42), (1, owT 113 42), (12, vv .i64 42), (13, vv .i64 80)], hXT ty 62 63 90 92 113 115⟩
noncomputable def F0T (ty : TypeId) : Pat := ⟨26, 400, [], hXT ty 62 63 90 92 113 115⟩
noncomputable def X1T (ty : TypeId) : Pat := ⟨26, 700, [(0, owT 401 42), (1, owT 424 42), (12, vv .i64 42), (13, vv .i64 81)], hXT ty 64 65 401 403 424 426⟩
noncomputable def F1T (ty : TypeId) : Pat := ⟨26, 700, [], hXT ty 64 65 401 403 424 426⟩
noncomputable def X2T (ty : TypeId) : Pat := ⟨26, 1000, [(0, owT 701 42), (1, owT 724 42), (12, vv .i64 42), (13, vv .i64 82)], hXT ty 66 67 701 703 724 726⟩
noncomputable def F2T (ty : TypeId) : Pat := ⟨26, 1000, [], hXT ty 66 67 701 703 724 726⟩
noncomputable def XDT (ty : TypeId) : Pat := ⟨26, 400, [(0, owT 85 42), (1, owT 91 42), (12, vv .i64 42), (13, vv .i64 83)], (hMT ty) ++ [(91, rwWT 62), (93, zCT)]⟩
noncomputable def FDT (ty : TypeId) : Pat := ⟨26, 400, [], (hMT ty) ++ [(91, rwWT 62), (93, zCT)]⟩
def lpT0 : Mrk := (28, [1, 1, 0, 1, 0])
noncomputable abbrev ΛT : Nat → Option Code := lamOf Tryd.prog [lpT0]
noncomputable abbrev ftT : Nat → Option Func := ftM Tryd.prog [lpT0]
theorem envT : @EnvOk ⟨ΛT⟩ Tryd.prog ftT := envM env [lpT0] (by kernel_rfl)
theorem codeT0 : codeAt Tryd.prog lpT0 = some (.loop (cAt Tryd.prog lpT0)) := by kernel_rfl
theorem fineT0 : fineC Tryd.prog.globals.size (cAt Tryd.prog lpT0) = true := by kernel_rfl
def wTA0 : Tm := (.bin .lss (.var .i64 80) (.var .i64 42))
def wTA1 : Tm := (.bin .geq (.var .i64 80) (.lit .i64 0))
def wTA2 : Tm := (.bin .neq (.app .u64 62 (.cons (.var .i64 80) .nil)) (.app .u64 63 (.cons (.var .i64 80) .nil)))
section
variable (ty : TypeId) (S : Sy) (n : Nat)
abbrev RTA : Sy → Sy → Prop := StepTo Tryd.prog ftT ΛT (gsT ty) (cAt Tryd.prog lpT0) (X0T ty) (F0T ty) 400
def InvTA (k : Nat) (S1 : Sy) : Prop := ∃ i : Nat, i ≤ n ∧ k = n - i ∧ S1.ρ 80 = i ∧ Stay [80] [] S S1
def FinTA (k : Nat) (S1 : Sy) : Prop := k = 0 ∧ ∀ T, Same [42, 41, 40, 39, 38, 37, 36, 35, 34, 33, 32, 31, 30, 9] [60, 62, 63] S1 T → StepOut Tryd.prog ftT ΛT (gsT ty) (cAt Tryd.prog lpT0) (X0T ty) (F0T ty) (.exit 0) 400 S1 T
set_option maxHeartbeats 4000000 in
theorem stepTA (hn : n < 9223372036854775807) (hb : S.ρ 42 = n) (hr : ∀ j : Int, S.Φ 62 [j] = S.Φ 63 [j]) (hK0 : ∀ x ∈ S.I, x.f + x.ks.length ≤ 60) (k : Nat) (S1 : Sy) (hi : InvTA S n k S1) : (∃ k' S2, k = k' + 1 ∧ InvTA S n k' S2 ∧ RTA ty S1 S2) ∨ FinTA ty k S1 := by
  obtain ⟨i, hin, rfl, hiv, fr⟩ := hi
  have hcs : ∀ c ∈ ([] : List Ctr), CtrOk Tryd.prog S1 (gsT ty) c := fun c hc => by simp at hc
  have hK : ∀ x ∈ S1.I, x.f + x.ks.length ≤ 60 := by rw [fr.1]; exact hK0
  have e42 := fr.num 42 rfl
  have k0 : S1.Φ 62 [S1.ρ 80] = S1.Φ 63 [S1.ρ 80] := by rw [fr.fn 62 rfl, fr.fn 63 rfl]; exact hr _
  by_cases c0 : S1.ρ 80 < S1.ρ 42
  · have d0 : wTA0.den S1 = some [b2i true] := tr (p := S1.ρ 80 < S1.ρ 42) c0
    have c1 : ¬ (S1.ρ 80 < (0 : Int)) := by omega
    have d1 : wTA1.den S1 = some [b2i true] := tr (p := (0 : Int) ≤ S1.ρ 80) (Int.not_lt.1 c1)
    have c2 : (S1.Φ 62 [S1.ρ 80]) = (S1.Φ 63 [S1.ρ 80]) := by omega
    have d2 : wTA2.den S1 = some [b2i false] := fls (p := (S1.Φ 62 [S1.ρ 80]) ≠ (S1.Φ 63 [S1.ρ 80])) (fun hh => hh c2)
    obtain ⟨o80, h_o80⟩ : ∃ o : Int, o = (IntKind.i64.wrap (S1.ρ 80 + (1 : Int))) := ⟨_, rfl⟩
    have u80 := h_o80
    rw [w_i64 (by omega) (by omega)] at u80
    have inv : InvTA S n (n - (i + 1)) (S1.set (upd S1.ρ [(80, o80)]) [] 60 rfl hK) := ⟨i + 1, by omega, rfl, (show o80 = ((i + 1 : Nat) : Int) by omega), fr.set rfl rfl⟩
    exact .inl ⟨_, _, (by omega : n - i = n - (i + 1) + 1), inv, _, [], _, 1000, _, [], (ai wTA2 false d2 (ai wTA1 true d1 (ai wTA0 true d0 (AlOk.nil _)))), hcs, LkOk.no _ _ _ _, (av 42 .i64 (av 42 .i64 (av 42 .i64 (an 80 (.bin .add (.var .i64 80) (.lit .i64 1)) (sm h_o80.symm) (av 42 .i64 (ar 60 (ar_var 60) (av 42 .i64 (av 42 .i64 (av 41 .i64 (av 40 .i64 (av 39 .i64 (av 38 .i64 (av 37 .i64 (av 36 .i64 (av 35 .i64 (av 34 .i64 (av 33 .i64 (av 32 .i64 (av 31 .i64 (av 30 .i64 (av 9 .i64 (av 42 .i64 (ar 62 (ar_var 62) (av 42 .i64 (ar 63 (ar_var 63) (asg_nil rfl)))))))))))))))))))))))))), fun G => by kernel_rfl⟩
  · have d0 : wTA0.den S1 = some [b2i false] := fls (p := S1.ρ 80 < S1.ρ 42) c0
    exact .inr ⟨by omega, fun T hT => ⟨_, [], _, 1000, _, [], (ai wTA0 false d0 (AlOk.nil _)), hcs, LkOk.no _ _ _ _, (an 42 (.var .i64 42) (sm (hT.num 42 rfl)) (asg_arr (i := 60) (hT.row 60 rfl) (an 42 (.var .i64 42) (sm (hT.num 42 rfl)) (an 42 (.var .i64 42) (sm (hT.num 42 rfl)) (an 41 (.var .i64 41) (sm (hT.num 41 rfl)) (an 40 (.var .i64 40) (sm (hT.num 40 rfl)) (an 39 (.var .i64 39) (sm (hT.num 39 rfl)) (an 38 (.var .i64 38) (sm (hT.num 38 rfl)) (an 37 (.var .i64 37) (sm (hT.num 37 rfl)) (an 36 (.var .i64 36) (sm (hT.num 36 rfl)) (an 35 (.var .i64 35) (sm (hT.num 35 rfl)) (an 34 (.var .i64 34) (sm (hT.num 34 rfl)) (an 33 (.var .i64 33) (sm (hT.num 33 rfl)) (an 32 (.var .i64 32) (sm (hT.num 32 rfl)) (an 31 (.var .i64 31) (sm (hT.num 31 rfl)) (an 30 (.var .i64 30) (sm (hT.num 30 rfl)) (an 9 (.var .i64 9) (sm (hT.num 9 rfl)) (an 42 (.var .i64 42) (sm (hT.num 42 rfl)) (asg_arr (i := 62) (hT.row 62 rfl) (an 42 (.var .i64 42) (sm (hT.num 42 rfl)) (asg_arr (i := 63) (hT.row 63 rfl) (asg_nil hT.1)))))))))))))))))))))), fun G => by kernel_rfl⟩⟩
theorem loopTA (hn : n < 9223372036854775807) (hb : S.ρ 42 = n) (hr : ∀ j : Int, S.Φ 62 [j] = S.Φ 63 [j]) (hK0 : ∀ x ∈ S.I, x.f + x.ks.length ≤ 60) (h0 : S.ρ 80 = 0) : ∃ Sf : Sy, (Sf.ρ 80 = n ∧ Stay [80] [] S Sf) ∧ ∀ T asg0, Same [42, 41, 40, 39, 38, 37, 36, 35, 34, 33, 32, 31, 30, 9] [60, 62, 63] Sf T → AsgOk T S asg0 → LkAt Tryd.prog T (gsT ty) (.loop (cAt Tryd.prog lpT0)) (lkLoopR Tryd.prog 400 [] (X0T ty) (F0T ty) (.exit 0) asg0) := by
  obtain ⟨m, k', Sf, hc, ⟨i, hin, hk, hiv, fr⟩, hf⟩ := loop_ex (stepTA ty S n hn hb hr hK0) n S ⟨0, Nat.zero_le _, rfl, h0, Stay.refl _ _ _⟩
  have hk0 := hf.1
  obtain rfl : i = n := by omega
  exact ⟨Sf, ⟨hiv, fr⟩, fun T asg0 hs ha => loop_chain envT (ann_self _) fineT0 (show (X0T ty).N = (F0T ty).N from rfl) (Nat.le_of_ble_eq_true rfl) hc (hf.2 T hs) ha (hX := GlOk.of (by kernel_rfl) (by kernel_rfl)) (hF := GlOk.of (by kernel_rfl) (by kernel_rfl))⟩
end
def wTB0 : Tm := (.bin .lss (.var .i64 81) (.var .i64 42))
def wTB1 : Tm := (.bin .geq (.var .i64 81) (.lit .i64 0))
def wTB2 : Tm := (.bin .neq (.app .u64 64 (.cons (.var .i64 81) .nil)) (.app .u64 65 (.cons (.var .i64 81) .nil)))
section
variable (ty : TypeId) (S : Sy) (n : Nat)
abbrev RTB : Sy → Sy → Prop := StepTo Tryd.prog ftT ΛT (gsT ty) (cAt Tryd.prog lpT0) (X1T ty) (F1T ty) 700
def InvTB (k : Nat) (S1 : Sy) : Prop := ∃ i : Nat, i ≤ n ∧ k = n - i ∧ S1.ρ 81 = i ∧ Stay [81] [] S S1
def FinTB (k : Nat) (S1 : Sy) : Prop := k = 0 ∧ ∀ T, Same [42, 41, 40, 39, 38, 37, 36, 35, 34, 33, 32, 31, 30, 9] [60, 64, 65] S1 T → StepOut Tryd.prog ftT ΛT (gsT ty) (cAt Tryd.prog lpT0) (X1T ty) (F1T ty) (.exit 0) 700 S1 T
set_option maxHeartbeats 4000000 in
theorem stepTB (hn : n < 9223372036854775807) (hb : S.ρ 42 = n) (hr : ∀ j : Int, S.Φ 64 [j] = S.Φ 65 [j]) (hK0 : ∀ x ∈ S.I, x.f + x.ks.length ≤ 60) (k : Nat) (S1 : Sy) (hi : InvTB S n k S1) : (∃ k' S2, k = k' + 1 ∧ InvTB S n k' S2 ∧ RTB ty S1 S2) ∨ FinTB ty k S1 := by
  obtain ⟨i, hin, rfl, hiv, fr⟩ := hi
  have hcs : ∀ c ∈ ([] : List Ctr), CtrOk Tryd.prog S1 (gsT ty) c := fun c hc => by simp at hc
  have hK : ∀ x ∈ S1.I, x.f + x.ks.length ≤ 60 := by rw [fr.1]; exact hK0
  have e42 := fr.num 42 rfl
  have k0 : S1.Φ 64 [S1.ρ 81] = S1.Φ 65 [S1.ρ 81] := by rw [fr.fn 64 rfl, fr.fn 65 rfl]; exact hr _
  by_cases c0 : S1.ρ 81 < S1.ρ 42
  · have d0 : wTB0.den S1 = some [b2i true] := tr (p := S1.ρ 81 < S1.ρ 42) c0
    have c1 : ¬ (S1.ρ 81 < (0 : Int)) := by omega
    have d1 : wTB1.den S1 = some [b2i true] := tr (p := (0 : Int) ≤ S1.ρ 81) (Int.not_lt.1 c1)
    have c2 : (S1.Φ 64 [S1.ρ 81]) = (S1.Φ 65 [S1.ρ 81]) := by omega
    have d2 : wTB2.den S1 = some [b2i false] := fls (p := (S1.Φ 64 [S1.ρ 81]) ≠ (S1.Φ 65 [S1.ρ 81])) (fun hh => hh c2)
    obtain ⟨o81, h_o81⟩ : ∃ o : Int, o = (IntKind.i64.wrap (S1.ρ 81 + (1 : Int))) := ⟨_, rfl⟩
    have u81 := h_o81
    rw [w_i64 (by omega) (by omega)] at u81
    have inv : InvTB S n (n - (i + 1)) (S1.set (upd S1.ρ [(81, o81)]) [] 60 rfl hK) := ⟨i + 1, by omega, rfl, (show o81 = ((i + 1 : Nat) : Int) by omega), fr.set rfl rfl⟩
    exact .inl ⟨_, _, (by omega : n - i = n - (i + 1) + 1), inv, _, [], _, 1000, _, [], (ai wTB2 false d2 (ai wTB1 true d1 (ai wTB0 true d0 (AlOk.nil _)))), hcs, LkOk.no _ _ _ _, (av 42 .i64 (av 42 .i64 (av 42 .i64 (an 81 (.bin .add (.var .i64 81) (.lit .i64 1)) (sm h_o81.symm) (av 42 .i64 (ar 60 (ar_var 60) (av 42 .i64 (av 42 .i64 (av 41 .i64 (av 40 .i64 (av 39 .i64 (av 38 .i64 (av 37 .i64 (av 36 .i64 (av 35 .i64 (av 34 .i64 (av 33 .i64 (av 32 .i64 (av 31 .i64 (av 30 .i64 (av 9 .i64 (av 42 .i64 (ar 64 (ar_var 64) (av 42 .i64 (ar 65 (ar_var 65) (asg_nil rfl)))))))))))))))))))))))))), fun G => by kernel_rfl⟩
  · have d0 : wTB0.den S1 = some [b2i false] := fls (p := S1.ρ 81 < S1.ρ 42) c0
    exact .inr ⟨by omega, fun T hT => ⟨_, [], _, 1000, _, [], (ai wTB0 false d0 (AlOk.nil _)), hcs, LkOk.no _ _ _ _, (an 42 (.var .i64 42) (sm (hT.num 42 rfl)) (asg_arr (i := 60) (hT.row 60 rfl) (an 42 (.var .i64 42) (sm (hT.num 42 rfl)) (an 42 (.var .i64 42) (sm (hT.num 42 rfl)) (an 41 (.var .i64 41) (sm (hT.num 41 rfl)) (an 40 (.var .i64 40) (sm (hT.num 40 rfl)) (an 39 (.var .i64 39) (sm (hT.num 39 rfl)) (an 38 (.var .i64 38) (sm (hT.num 38 rfl)) (an 37 (.var .i64 37) (sm (hT.num 37 rfl)) (an 36 (.var .i64 36) (sm (hT.num 36 rfl)) (an 35 (.var .i64 35) (sm (hT.num 35 rfl)) (an 34 (.var .i64 34) (sm (hT.num 34 rfl)) (an 33 (.var .i64 33) (sm (hT.num 33 rfl)) (an 32 (.var .i64 32) (sm (hT.num 32 rfl)) (an 31 (.var .i64 31) (sm (hT.num 31 rfl)) (an 30 (.var .i64 30) (sm (hT.num 30 rfl)) (an 9 (.var .i64 9) (sm (hT.num 9 rfl)) (an 42 (.var .i64 42) (sm (hT.num 42 rfl)) (asg_arr (i := 64) (hT.row 64 rfl) (an 42 (.var .i64 42) (sm (hT.num 42 rfl)) (asg_arr (i := 65) (hT.row 65 rfl) (asg_nil hT.1)))))))))))))))))))))), fun G => by kernel_rfl⟩⟩
theorem loopTB (hn : n < 9223372036854775807) (hb : S.ρ 42 = n) (hr : ∀ j : Int, S.Φ 64 [j] = S.Φ 65 [j]) (hK0 : ∀ x ∈ S.I, x.f + x.ks.length ≤ 60) (h0 : S.ρ 81 = 0) : ∃ Sf : Sy, (Sf.ρ 81 = n ∧ Stay [81] [] S Sf) ∧ ∀ T asg0, Same [42, 41, 40, 39, 38, 37, 36, 35, 34, 33, 32, 31, 30, 9] [60, 64, 65] Sf T → AsgOk T S asg0 → LkAt Tryd.prog T (gsT ty) (.loop (cAt Tryd.prog lpT0)) (lkLoopR Tryd.prog 700 [] (X1T ty) (F1T ty) (.exit 0) asg0) := by
  obtain ⟨m, k', Sf, hc, ⟨i, hin, hk, hiv, fr⟩, hf⟩ := loop_ex (stepTB ty S n hn hb hr hK0) n S ⟨0, Nat.zero_le _, rfl, h0, Stay.refl _ _ _⟩
  have hk0 := hf.1
  obtain rfl : i = n := by omega
  exact ⟨Sf, ⟨hiv, fr⟩, fun T asg0 hs ha => loop_chain envT (ann_self _) fineT0 (show (X1T ty).N = (F1T ty).N from rfl) (Nat.le_of_ble_eq_true rfl) hc (hf.2 T hs) ha (hX := GlOk.of (by kernel_rfl) (by kernel_rfl)) (hF := GlOk.of (by kernel_rfl) (by kernel_rfl))⟩
end
def wTC0 : Tm := (.bin .lss (.var .i64 82) (.var .i64 42))
def wTC1 : Tm := (.bin .geq (.var .i64 82) (.lit .i64 0))
def wTC2 : Tm := (.bin .neq (.app .u64 66 (.cons (.var .i64 82) .nil)) (.app .u64 67 (.cons (.var .i64 82) .nil)))
section
variable (ty : TypeId) (S : Sy) (n : Nat)
abbrev RTC : Sy → Sy → Prop := StepTo Tryd.prog ftT ΛT (gsT ty) (cAt Tryd.prog lpT0) (X2T ty) (F2T ty) 1000
def InvTC (k : Nat) (S1 : Sy) : Prop := ∃ i : Nat, i ≤ n ∧ k = n - i ∧ S1.ρ 82 = i ∧ Stay [82] [] S S1
def FinTC (k : Nat) (S1 : Sy) : Prop := k = 0 ∧ ∀ T, Same [42, 41, 40, 39, 38, 37, 36, 35, 34, 33, 32, 31, 30, 9] [60, 66, 67] S1 T → StepOut Tryd.prog ftT ΛT (gsT ty) (cAt Tryd.prog lpT0) (X2T ty) (F2T ty) (.exit 0) 1000 S1 T
set_option maxHeartbeats 4000000 in
theorem stepTC (hn : n < 9223372036854775807) (hb : S.ρ 42 = n) (hr : ∀ j : Int, S.Φ 66 [j] = S.Φ 67 [j]) (hK0 : ∀ x ∈ S.I, x.f + x.ks.length ≤ 60) (k : Nat) (S1 : Sy) (hi : InvTC S n k S1) : (∃ k' S2, k = k' + 1 ∧ InvTC S n k' S2 ∧ RTC ty S1 S2) ∨ FinTC ty k S1 := by
  obtain ⟨i, hin, rfl, hiv, fr⟩ := hi
  have hcs : ∀ c ∈ ([] : List Ctr), CtrOk Tryd.prog S1 (gsT ty) c := fun c hc => by simp at hc
  have hK : ∀ x ∈ S1.I, x.f + x.ks.length ≤ 60 := by rw [fr.1]; exact hK0
  have e42 := fr.num 42 rfl
  have k0 : S1.Φ 66 [S1.ρ 82] = S1.Φ 67 [S1.ρ 82] := by rw [fr.fn 66 rfl, fr.fn 67 rfl]; exact hr _
  by_cases c0 : S1.ρ 82 < S1.ρ 42
  · have d0 : wTC0.den S1 = some [b2i true] := tr (p := S1.ρ 82 < S1.ρ 42) c0
    have c1 : ¬ (S1.ρ 82 < (0 : Int)) := by omega
    have d1 : wTC1.den S1 = some [b2i true] := tr (p := (0 : Int) ≤ S1.ρ 82) (Int.not_lt.1 c1)
    have c2 : (S1.Φ 66 [S1.ρ 82]) = (S1.Φ 67 [S1.ρ 82]) := by omega
    have d2 : wTC2.den S1 = some [b2i false] := fls (p := (S1.Φ 66 [S1.ρ 82]) ≠ (S1.Φ 67 [S1.ρ 82])) (fun hh => hh c2)
    obtain ⟨o82, h_o82⟩ : ∃ o : Int, o = (IntKind.i64.wrap (S1.ρ 82 + (1 : Int))) := ⟨_, rfl⟩
    have u82 := h_o82
    rw [w_i64 (by omega) (by omega)] at u82
    have inv : InvTC S n (n - (i + 1)) (S1.set (upd S1.ρ [(82, o82)]) [] 60 rfl hK) := ⟨i + 1, by omega, rfl, (show o82 = ((i + 1 : Nat) : Int) by omega), fr.set rfl rfl⟩
    exact .inl ⟨_, _, (by omega : n - i = n - (i + 1) + 1), inv, _, [], _, 1000, _, [], (ai wTC2 false d2 (ai wTC1 true d1 (ai wTC0 true d0 (AlOk.nil _)))), hcs, LkOk.no _ _ _ _, (av 42 .i64 (av 42 .i64 (av 42 .i64 (an 82 (.bin .add (.var .i64 82) (.lit .i64 1)) (sm h_o82.symm) (av 42 .i64 (ar 60 (ar_var 60) (av 42 .i64 (av 42 .i64 (av 41 .i64 (av 40 .i64 (av 39 .i64 (av 38 .i64 (av 37 .i64 (av 36 .i64 (av 35 .i64 (av 34 .i64 (av 33 .i64 (av 32 .i64 (av 31 .i64 (av 30 .i64 (av 9 .i64 (av 42 .i64 (ar 66 (ar_var 66) (av 42 .i64 (ar 67 (ar_var 67) (asg_nil rfl)))))))))))))))))))))))))), fun G => by kernel_rfl⟩
  · have d0 : wTC0.den S1 = some [b2i false] := fls (p := S1.ρ 82 < S1.ρ 42) c0
    exact .inr ⟨by omega, fun T hT => ⟨_, [], _, 1000, _, [], (ai wTC0 false d0 (AlOk.nil _)), hcs, LkOk.no _ _ _ _, (an 42 (.var .i64 42) (sm (hT.num 42 rfl)) (asg_arr (i := 60) (hT.row 60 rfl) (an 42 (.var .i64 42) (sm (hT.num 42 rfl)) (an 42 (.var .i64 42) (sm (hT.num 42 rfl)) (an 41 (.var .i64 41) (sm (hT.num 41 rfl)) (an 40 (.var .i64 40) (sm (hT.num 40 rfl)) (an 39 (.var .i64 39) (sm (hT.num 39 rfl)) (an 38 (.var .i64 38) (sm (hT.num 38 rfl)) (an 37 (.var .i64 37) (sm (hT.num 37 rfl)) (an 36 (.var .i64 36) (sm (hT.num 36 rfl)) (an 35 (.var .i64 35) (sm (hT.num 35 rfl)) (an 34 (.var .i64 34) (sm (hT.num 34 rfl)) (an 33 (.var .i64 33) (sm (hT.num 33 rfl)) (an 32 (.var .i64 32) (sm (hT.num 32 rfl)) (an 31 (.var .i64 31) (sm (hT.num 31 rfl)) (an 30 (.var .i64 30) (sm (hT.num 30 rfl)) (an 9 (.var .i64 9) (sm (hT.num 9 rfl)) (an 42 (.var .i64 42) (sm (hT.num 42 rfl)) (asg_arr (i := 66) (hT.row 66 rfl) (an 42 (.var .i64 42) (sm (hT.num 42 rfl)) (asg_arr (i := 67) (hT.row 67 rfl) (asg_nil hT.1)))))))))))))))))))))), fun G => by kernel_rfl⟩⟩
theorem loopTC (hn : n < 9223372036854775807) (hb : S.ρ 42 = n) (hr : ∀ j : Int, S.Φ 66 [j] = S.Φ 67 [j]) (hK0 : ∀ x ∈ S.I, x.f + x.ks.length ≤ 60) (h0 : S.ρ 82 = 0) : ∃ Sf : Sy, (Sf.ρ 82 = n ∧ Stay [82] [] S Sf) ∧ ∀ T asg0, Same [42, 41, 40, 39, 38, 37, 36, 35, 34, 33, 32, 31, 30, 9] [60, 66, 67] Sf T → AsgOk T S asg0 → LkAt Tryd.prog T (gsT ty) (.loop (cAt Tryd.prog lpT0)) (lkLoopR Tryd.prog 1000 [] (X2T ty) (F2T ty) (.exit 0) asg0) := by
  obtain ⟨m, k', Sf, hc, ⟨i, hin, hk, hiv, fr⟩, hf⟩ := loop_ex (stepTC ty S n hn hb hr hK0) n S ⟨0, Nat.zero_le _, rfl, h0, Stay.refl _ _ _⟩
  have hk0 := hf.1
  obtain rfl : i = n := by omega
  exact ⟨Sf, ⟨hiv, fr⟩, fun T asg0 hs ha => loop_chain envT (ann_self _) fineT0 (show (X2T ty).N = (F2T ty).N from rfl) (Nat.le_of_ble_eq_true rfl) hc (hf.2 T hs) ha (hX := GlOk.of (by kernel_rfl) (by kernel_rfl)) (hF := GlOk.of (by kernel_rfl) (by kernel_rfl))⟩
end
def wTD0 : Tm := (.bin .lss (.var .i64 83) (.var .i64 42))
def wTD1 : Tm := (.bin .geq (.var .i64 83) (.lit .i64 0))
def wTD2 : Tm := (.bin .neq (.app .u64 60 (.cons (.var .i64 83) .nil)) (.app .u64 62 (.cons (.var .i64 83) .nil)))
section
variable (ty : TypeId) (S : Sy) (n : Nat)
abbrev RTD : Sy → Sy → Prop := StepTo Tryd.prog ftT ΛT (gsT ty) (cAt Tryd.prog lpT0) (XDT ty) (FDT ty) 400
def InvTD (k : Nat) (S1 : Sy) : Prop := ∃ i : Nat, i ≤ n ∧ k = n - i ∧ S1.ρ 83 = i ∧ Stay [83] [] S S1
def FinTD (k : Nat) (S1 : Sy) : Prop := k = 0 ∧ ∀ T, Same [42, 41, 40, 39, 38, 37, 36, 35, 34, 33, 32, 31, 30, 9] [60, 62] S1 T → StepOut Tryd.prog ftT ΛT (gsT ty) (cAt Tryd.prog lpT0) (XDT ty) (FDT ty) (.exit 0) 400 S1 T
set_option maxHeartbeats 4000000 in
theorem stepTD (hn : n < 9223372036854775807) (hb : S.ρ 42 = n) (hr : ∀ j : Int, S.Φ 60 [j] = S.Φ 62 [j]) (hK0 : ∀ x ∈ S.I, x.f + x.ks.length ≤ 60) (k : Nat) (S1 : Sy) (hi : InvTD S n k S1) : (∃ k' S2, k = k' + 1 ∧ InvTD S n k' S2 ∧ RTD ty S1 S2) ∨ FinTD ty k S1 := by
  obtain ⟨i, hin, rfl, hiv, fr⟩ := hi
  have hcs : ∀ c ∈ ([] : List Ctr), CtrOk Tryd.prog S1 (gsT ty) c := fun c hc => by simp at hc
  have hK : ∀ x ∈ S1.I, x.f + x.ks.length ≤ 60 := by rw [fr.1]; exact hK0
  have e42 := fr.num 42 rfl
  have k0 : S1.Φ 60 [S1.ρ 83] = S1.Φ 62 [S1.ρ 83] := by rw [fr.fn 60 rfl, fr.fn 62 rfl]; exact hr _
  by_cases c0 : S1.ρ 83 < S1.ρ 42
  · have d0 : wTD0.den S1 = some [b2i true] := tr (p := S1.ρ 83 < S1.ρ 42) c0
    have c1 : ¬ (S1.ρ 83 < (0 : Int)) := by omega
    have d1 : wTD1.den S1 = some [b2i true] := tr (p := (0 : Int) ≤ S1.ρ 83) (Int.not_lt.1 c1)
    have c2 : (S1.Φ 60 [S1.ρ 83]) = (S1.Φ 62 [S1.ρ 83]) := by omega
    have d2 : wTD2.den S1 = some [b2i false] := fls (p := (S1.Φ 60 [S1.ρ 83]) ≠ (S1.Φ 62 [S1.ρ 83])) (fun hh => hh c2)
    obtain ⟨o83, h_o83⟩ : ∃ o : Int, o = (IntKind.i64.wrap (S1.ρ 83 + (1 : Int))) := ⟨_, rfl⟩
    have u83 := h_o83
    rw [w_i64 (by omega) (by omega)] at u83
    have inv : InvTD S n (n - (i + 1)) (S1.set (upd S1.ρ [(83, o83)]) [] 60 rfl hK) := ⟨i + 1, by omega, rfl, (show o83 = ((i + 1 : Nat) : Int) by omega), fr.set rfl rfl⟩
    exact .inl ⟨_, _, (by omega : n - i = n - (i + 1) + 1), inv, _, [], _, 1000, _, [], (ai wTD2 false d2 (ai wTD1 true d1 (ai wTD0 true d0 (AlOk.nil _)))), hcs, LkOk.no _ _ _ _, (av 42 .i64 (av 42 .i64 (av 42 .i64 (an 83 (.bin .add (.var .i64 83) (.lit .i64 1)) (sm h_o83.symm) (av 42 .i64 (ar 60 (ar_var 60) (av 42 .i64 (av 42 .i64 (av 41 .i64 (av 40 .i64 (av 39 .i64 (av 38 .i64 (av 37 .i64 (av 36 .i64 (av 35 .i64 (av 34 .i64 (av 33 .i64 (av 32 .i64 (av 31 .i64 (av 30 .i64 (av 9 .i64 (av 42 .i64 (ar 62 (ar_var 62) (asg_nil rfl)))))))))))))))))))))))), fun G => by kernel_rfl⟩
  · have d0 : wTD0.den S1 = some [b2i false] := fls (p := S1.ρ 83 < S1.ρ 42) c0
    exact .inr ⟨by omega, fun T hT => ⟨_, [], _, 1000, _, [], (ai wTD0 false d0 (AlOk.nil _)), hcs, LkOk.no _ _ _ _, (an 42 (.var .i64 42) (sm (hT.num 42 rfl)) (asg_arr (i := 60) (hT.row 60 rfl) (an 42 (.var .i64 42) (sm (hT.num 42 rfl)) (an 42 (.var .i64 42) (sm (hT.num 42 rfl)) (an 41 (.var .i64 41) (sm (hT.num 41 rfl)) (an 40 (.var .i64 40) (sm (hT.num 40 rfl)) (an 39 (.var .i64 39) (sm (hT.num 39 rfl)) (an 38 (.var .i64 38) (sm (hT.num 38 rfl)) (an 37 (.var .i64 37) (sm (hT.num 37 rfl)) (an 36 (.var .i64 36) (sm (hT.num 36 rfl)) (an 35 (.var .i64 35) (sm (hT.num 35 rfl)) (an 34 (.var .i64 34) (sm (hT.num 34 rfl)) (an 33 (.var .i64 33) (sm (hT.num 33 rfl)) (an 32 (.var .i64 32) (sm (hT.num 32 rfl)) (an 31 (.var .i64 31) (sm (hT.num 31 rfl)) (an 30 (.var .i64 30) (sm (hT.num 30 rfl)) (an 9 (.var .i64 9) (sm (hT.num 9 rfl)) (an 42 (.var .i64 42) (sm (hT.num 42 rfl)) (asg_arr (i := 62) (hT.row 62 rfl) (asg_nil hT.1)))))))))))))))))))), fun G => by kernel_rfl⟩⟩
theorem loopTD (hn : n < 9223372036854775807) (hb : S.ρ 42 = n) (hr : ∀ j : Int, S.Φ 60 [j] = S.Φ 62 [j]) (hK0 : ∀ x ∈ S.I, x.f + x.ks.length ≤ 60) (h0 : S.ρ 83 = 0) : ∃ Sf : Sy, (Sf.ρ 83 = n ∧ Stay [83] [] S Sf) ∧ ∀ T asg0, Same [42, 41, 40, 39, 38, 37, 36, 35, 34, 33, 32, 31, 30, 9] [60, 62] Sf T → AsgOk T S asg0 → LkAt Tryd.prog T (gsT ty) (.loop (cAt Tryd.prog lpT0)) (lkLoopR Tryd.prog 400 [] (XDT ty) (FDT ty) (.exit 0) asg0) := by
  obtain ⟨m, k', Sf, hc, ⟨i, hin, hk, hiv, fr⟩, hf⟩ := loop_ex (stepTD ty S n hn hb hr hK0) n S ⟨0, Nat.zero_le _, rfl, h0, Stay.refl _ _ _⟩
  have hk0 := hf.1
  obtain rfl : i = n := by omega
  exact ⟨Sf, ⟨hiv, fr⟩, fun T asg0 hs ha => loop_chain envT (ann_self _) fineT0 (show (XDT ty).N = (FDT ty).N from rfl) (Nat.le_of_ble_eq_true rfl) hc (hf.2 T hs) ha (hX := GlOk.of (by kernel_rfl) (by kernel_rfl)) (hF := GlOk.of (by kernel_rfl) (by kernel_rfl))⟩
end
def awT : Tm := .appB 9 .nil
theorem aw_den {S : Sy} (h : S.Φ 9 [] = 1) : awT.den S = some [b2i true] := by
  show some [b2i (decide (S.Φ 9 [] ≠ 0))] = _
  rw [h]; rfl
def cAw : Ctr := ⟨12, [], [.one .bool], 9, fun _ => true⟩
theorem cAw_ok (ty : TypeId) (S : Sy) (h : S.Φ 9 [] = 1) : ∀ c ∈ [cAw], CtrOk Tryd.prog S (gsT ty) c := by
  intro c hc
  rw [List.mem_singleton] at hc
  subst hc
  intro a ns _ _ hl w hw
  obtain rfl := len0 (show ns.length = 0 from hl)
  refine (awake_any w ⟨ty, hw⟩).mono fun e w' ⟨h1, h2⟩ => ⟨?_, h2⟩
  rw [h1]
  show _ = Ending.returned (.bool (decide (S.Φ 9 [] ≠ 0)))
  rw [h]; rfl
end Go.Proofs.YtmeppoihgfdgaaaDoor
