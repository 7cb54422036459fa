/-
  Stage 6: what the functions of package class come to, further ones. Conditions: those each says.
-/
import Derived.Test.YthaibdajbpdkcaaC1a
import Derived.Test.YthaibdajbpdkcaaC1c
namespace Go.Proofs.Ythaibdajbpdkcaa
open Go.Ev Go.RowKit
set_option maxRecDepth 100000
def t_pg_any_0 : Tm := (.bin .lss (.var .i64 0) (.lit .i64 1))
theorem pg_any (x0 : Int) (hx : -9223372036854775808 ≤ x0 ∧ x0 < 9223372036854775808) (w : World) : Calls Try.prog 13 #[.int .i64 x0] w fun e w' => e = .returned (bundle (fillP [.one (.int .i64)] [pgZ x0])) ∧ Quiet w w' := by
  obtain ⟨S, hS⟩ : ∃ S : Sy, S = ⟨upd (fun _ => 0) [(0, x0)], fun _ _ => 0, [], fun _ h => by simp at h⟩ := ⟨_, rfl⟩
  have i0 : S.ρ 0 = x0 := by rw [hS]; rfl
  have hI : S.I = [] := by rw [hS]
  have hvs : ∀ G ι, VsOk S G ι [vv .i64 0] [.int .i64 x0] := fun G ι => (vs_sym i0 vs_nil)
  subst i0
  have t1 : ∀ y : Int, 0 ≤ y → y.tdiv 64 = y / 64 := fun y h => Int.tdiv_eq_ediv_of_nonneg h
  have t2 : ∀ y : Int, 0 ≤ y → y.tmod 64 = y % 64 := fun y h => Int.tmod_eq_emod_of_nonneg h
  by_cases c0 : S.ρ 0 < (1 : Int)
  · have d0 : t_pg_any_0.den S = some [b2i true] := tr (p := S.ρ 0 < (1 : Int)) c0
    have r0 : pgZ (S.ρ 0) = (0 : Int) := by unfold pgZ; first | rw [if_pos (by omega)] | (rw [if_neg (by omega)]; (try rw [w_i64 (x := S.ρ 0 - 1) (by omega) (by omega)]); rw [t1 _ (by omega), w_i64 (x := _ / 64) (by omega) (by omega)]; have t3 := t2 (S.ρ 0) (by omega); first | (rw [w_i64 (by omega) (by omega)]; omega) | omega)
    rw [r0]
    exact symL env gok (ai t_pg_any_0 true d0 (AlOk.nil _)) (hcs0 _) hvs w hI [.int .i64 (0)] (csT (.lit .i64 0) rfl cs_nil) (by kernel_rfl) (fun G => by kernel_rfl)
  · have d0 : t_pg_any_0.den S = some [b2i false] := fls (p := S.ρ 0 < (1 : Int)) c0
    have r0 : pgZ (S.ρ 0) = (IntKind.i64.wrap ((IntKind.i64.wrap (((IntKind.i64.wrap (S.ρ 0 - (1 : Int)))).tdiv (64 : Int))) + (1 : Int))) := by unfold pgZ; first | rw [if_pos (by omega)] | (rw [if_neg (by omega)]; (try rw [w_i64 (x := S.ρ 0 - 1) (by omega) (by omega)]); rw [t1 _ (by omega), w_i64 (x := _ / 64) (by omega) (by omega)]; have t3 := t2 (S.ρ 0) (by omega); first | (rw [w_i64 (by omega) (by omega)]; omega) | omega)
    rw [r0]
    exact symL env gok (ai t_pg_any_0 false d0 (AlOk.nil _)) (hcs0 _) hvs w hI [.float .f64 ((.bin .add (.bin .quo (.bin .sub (.var .i64 0) (.lit .i64 1)) (.lit .i64 64)) (.lit .i64 1)) : Tm).enc] (csT (.bin .add (.bin .quo (.bin .sub (.var .i64 0) (.lit .i64 1)) (.lit .i64 64)) (.lit .i64 1)) rfl cs_nil) (by kernel_rfl) (fun G => by kernel_rfl)
def t_rpg_any_0 : Tm := (.bin .lss (.var .i64 0) (.lit .i64 1))
def t_rpg_any_1 : Tm := (.bin .gtr (.bin .rem (.var .i64 0) (.lit .i64 64)) (.lit .i64 0))
theorem rpg_any (x0 : Int) (hx : -9223372036854775808 ≤ x0 ∧ x0 < 9223372036854775808) (w : World) : Calls Try.prog 17 #[.int .i64 x0] w fun e w' => e = .returned (bundle (fillP [.one (.int .i64)] [pgZ x0])) ∧ Quiet w w' := by
  obtain ⟨S, hS⟩ : ∃ S : Sy, S = ⟨upd (fun _ => 0) [(0, x0)], fun _ _ => 0, [], fun _ h => by simp at h⟩ := ⟨_, rfl⟩
  have i0 : S.ρ 0 = x0 := by rw [hS]; rfl
  have hI : S.I = [] := by rw [hS]
  have hvs : ∀ G ι, VsOk S G ι [vv .i64 0] [.int .i64 x0] := fun G ι => (vs_sym i0 vs_nil)
  subst i0
  have t1 : ∀ y : Int, 0 ≤ y → y.tdiv 64 = y / 64 := fun y h => Int.tdiv_eq_ediv_of_nonneg h
  have t2 : ∀ y : Int, 0 ≤ y → y.tmod 64 = y % 64 := fun y h => Int.tmod_eq_emod_of_nonneg h
  by_cases c0 : S.ρ 0 < (1 : Int)
  · have d0 : t_rpg_any_0.den S = some [b2i true] := tr (p := S.ρ 0 < (1 : Int)) c0
    have r0 : pgZ (S.ρ 0) = (0 : Int) := by unfold pgZ; first | rw [if_pos (by omega)] | (rw [if_neg (by omega)]; (try rw [w_i64 (x := S.ρ 0 - 1) (by omega) (by omega)]); rw [t1 _ (by omega), w_i64 (x := _ / 64) (by omega) (by omega)]; have t3 := t2 (S.ρ 0) (by omega); first | (rw [w_i64 (by omega) (by omega)]; omega) | omega)
    rw [r0]
    exact symL env gok (ai t_rpg_any_0 true d0 (AlOk.nil _)) (hcs0 _) hvs w hI [.int .i64 (0)] (csT (.lit .i64 0) rfl cs_nil) (by kernel_rfl) (fun G => by kernel_rfl)
  · have d0 : t_rpg_any_0.den S = some [b2i false] := fls (p := S.ρ 0 < (1 : Int)) c0
    by_cases c1 : (0 : Int) < ((S.ρ 0).tmod (64 : Int))
    · have d1 : t_rpg_any_1.den S = some [b2i true] := tr (p := (0 : Int) < ((S.ρ 0).tmod (64 : Int))) c1
      have r0 : pgZ (S.ρ 0) = (IntKind.i64.wrap ((IntKind.i64.wrap ((S.ρ 0).tdiv (64 : Int))) + (1 : Int))) := by unfold pgZ; first | rw [if_pos (by omega)] | (rw [if_neg (by omega)]; (try rw [w_i64 (x := S.ρ 0 - 1) (by omega) (by omega)]); rw [t1 _ (by omega), w_i64 (x := _ / 64) (by omega) (by omega)]; have t3 := t2 (S.ρ 0) (by omega); first | (rw [w_i64 (by omega) (by omega)]; omega) | omega)
      rw [r0]
      exact symL env gok (ai t_rpg_any_1 true d1 (ai t_rpg_any_0 false d0 (AlOk.nil _))) (hcs0 _) hvs w hI [.float .f64 ((.bin .add (.bin .quo (.var .i64 0) (.lit .i64 64)) (.lit .i64 1)) : Tm).enc] (csT (.bin .add (.bin .quo (.var .i64 0) (.lit .i64 64)) (.lit .i64 1)) rfl cs_nil) (by kernel_rfl) (fun G => by kernel_rfl)
    · have d1 : t_rpg_any_1.den S = some [b2i false] := fls (p := (0 : Int) < ((S.ρ 0).tmod (64 : Int))) c1
      have r0 : pgZ (S.ρ 0) = (IntKind.i64.wrap ((S.ρ 0).tdiv (64 : Int))) := by unfold pgZ; first | rw [if_pos (by omega)] | (rw [if_neg (by omega)]; (try rw [w_i64 (x := S.ρ 0 - 1) (by omega) (by omega)]); rw [t1 _ (by omega), w_i64 (x := _ / 64) (by omega) (by omega)]; have t3 := t2 (S.ρ 0) (by omega); first | (rw [w_i64 (by omega) (by omega)]; omega) | omega)
      rw [r0]
      exact symL env gok (ai t_rpg_any_1 false d1 (ai t_rpg_any_0 false d0 (AlOk.nil _))) (hcs0 _) hvs w hI [.float .f64 ((.bin .quo (.var .i64 0) (.lit .i64 64)) : Tm).enc] (csT (.bin .quo (.var .i64 0) (.lit .i64 64)) rfl cs_nil) (by kernel_rfl) (fun G => by kernel_rfl)
def t_bl_no_0 : Tm := (.bin .lss (.var .i64 2) (.lit .i64 0))
def t_bl_no_1 : Tm := (.bin .geq (.var .i64 2) (.lit .i64 4))
theorem bl_no (x2 : Int) (x3 : Int) (hx : x2 < 0 ∨ 3 < x2) (w : World) : Calls Try.prog 11 #[.int .i64 x2, .int .i64 x3] w fun e w' => e = .returned (bundle (fillP [.one (.int .i64), .one .bool] [max (blkZ x2 x3) 0, b2i (decide (0 ≤ blkZ x2 x3))])) ∧ Quiet w w' := by
  obtain ⟨S, hS⟩ : ∃ S : Sy, S = ⟨upd (fun _ => 0) [(2, x2), (3, x3)], fun _ _ => 0, [], fun _ h => by simp at h⟩ := ⟨_, rfl⟩
  have i2 : S.ρ 2 = x2 := by rw [hS]; rfl
  have i3 : S.ρ 3 = x3 := by rw [hS]; rfl
  have hI : S.I = [] := by rw [hS]
  have hvs : ∀ G ι, VsOk S G ι [vv .i64 2, vv .i64 3] [.int .i64 x2, .int .i64 x3] := fun G ι => (vs_sym i2 (vs_sym i3 vs_nil))
  subst i2
  subst i3
  by_cases c0 : S.ρ 2 < (0 : Int)
  · have d0 : t_bl_no_0.den S = some [b2i true] := tr (p := S.ρ 2 < (0 : Int)) c0
    have r0 : max (blkZ (S.ρ 2) (S.ρ 3)) 0 = (0 : Int) := by rw [blk_no (by omega)]; rfl
    have r1 : b2i (decide (0 ≤ blkZ (S.ρ 2) (S.ρ 3))) = (b2i false) := by rw [blk_no (by omega)]; rfl
    rw [r0, r1]
    exact symL env gok (ai t_bl_no_0 true d0 (AlOk.nil _)) (hcs0 _) hvs w hI [.int .i64 (0), .bool false] (csT (.lit .i64 0) rfl (csT (.blit false) rfl cs_nil)) (by kernel_rfl) (fun G => by kernel_rfl)
  · have d0 : t_bl_no_0.den S = some [b2i false] := fls (p := S.ρ 2 < (0 : Int)) c0
    have c1 : ¬ (S.ρ 2 < (4 : Int)) := by omega
    have d1 : t_bl_no_1.den S = some [b2i true] := tr (p := (4 : Int) ≤ S.ρ 2) (Int.not_lt.1 c1)
    have r0 : max (blkZ (S.ρ 2) (S.ρ 3)) 0 = (0 : Int) := by rw [blk_no (by omega)]; rfl
    have r1 : b2i (decide (0 ≤ blkZ (S.ρ 2) (S.ρ 3))) = (b2i false) := by rw [blk_no (by omega)]; rfl
    rw [r0, r1]
    exact symL env gok (ai t_bl_no_1 true d1 (ai t_bl_no_0 false d0 (AlOk.nil _))) (hcs0 _) hvs w hI [.int .i64 (0), .bool false] (csT (.lit .i64 0) rfl (csT (.blit false) rfl cs_nil)) (by kernel_rfl) (fun G => by kernel_rfl)
def t_rbl_no_0 : Tm := (.bin .lss (.var .i64 2) (.lit .i64 0))
def t_rbl_no_1 : Tm := (.bin .gtr (.var .i64 2) (.lit .i64 3))
theorem rbl_no (x2 : Int) (x3 : Int) (hx : x2 < 0 ∨ 3 < x2) (w : World) : Calls Try.prog 15 #[.int .i64 x2, .int .i64 x3] w fun e w' => e = .returned (bundle (fillP [.one (.int .i64)] [blkZ x2 x3])) ∧ Quiet w w' := by
  obtain ⟨S, hS⟩ : ∃ S : Sy, S = ⟨upd (fun _ => 0) [(2, x2), (3, x3)], fun _ _ => 0, [], fun _ h => by simp at h⟩ := ⟨_, rfl⟩
  have i2 : S.ρ 2 = x2 := by rw [hS]; rfl
  have i3 : S.ρ 3 = x3 := by rw [hS]; rfl
  have hI : S.I = [] := by rw [hS]
  have hvs : ∀ G ι, VsOk S G ι [vv .i64 2, vv .i64 3] [.int .i64 x2, .int .i64 x3] := fun G ι => (vs_sym i2 (vs_sym i3 vs_nil))
  subst i2
  subst i3
  by_cases c0 : S.ρ 2 < (0 : Int)
  · have d0 : t_rbl_no_0.den S = some [b2i true] := tr (p := S.ρ 2 < (0 : Int)) c0
    have r0 : blkZ (S.ρ 2) (S.ρ 3) = (-1 : Int) := by rw [blk_no (by omega)]
    rw [r0]
    exact symL env gok (ai t_rbl_no_0 true d0 (AlOk.nil _)) (hcs0 _) hvs w hI [.int .i64 (-1)] (csT (.lit .i64 (-1)) rfl cs_nil) (by kernel_rfl) (fun G => by kernel_rfl)
  · have d0 : t_rbl_no_0.den S = some [b2i false] := fls (p := S.ρ 2 < (0 : Int)) c0
    have c1 : (3 : Int) < S.ρ 2 := by omega
    have d1 : t_rbl_no_1.den S = some [b2i true] := tr (p := (3 : Int) < S.ρ 2) c1
    have r0 : blkZ (S.ρ 2) (S.ρ 3) = (-1 : Int) := by rw [blk_no (by omega)]
    rw [r0]
    exact symL env gok (ai t_rbl_no_1 true d1 (ai t_rbl_no_0 false d0 (AlOk.nil _))) (hcs0 _) hvs w hI [.int .i64 (-1)] (csT (.lit .i64 (-1)) rfl cs_nil) (by kernel_rfl) (fun G => by kernel_rfl)
def t_bl0_0 : Tm := (.bin .lss (.var .i64 3) (.lit .i64 0))
def t_bl0_1 : Tm := (.bin .neq (.bin .rem (.var .i64 3) (.lit .i64 8)) (.lit .i64 0))
def t_bl0_2 : Tm := (.bin .geq (.bin .quo (.var .i64 3) (.lit .i64 8)) (.lit .i64 8))
theorem bl0 (x3 : Int) (hx : -9223372036854775808 ≤ x3 ∧ x3 < 9223372036854775808) (w : World) : Calls Try.prog 11 #[.int .i64 0, .int .i64 x3] w fun e w' => e = .returned (bundle (fillP [.one (.int .i64), .one .bool] [max (blkZ 0 x3) 0, b2i (decide (0 ≤ blkZ 0 x3))])) ∧ Quiet w w' := by
  obtain ⟨S, hS⟩ : ∃ S : Sy, S = ⟨upd (fun _ => 0) [(3, x3)], fun _ _ => 0, [], fun _ h => by simp at h⟩ := ⟨_, rfl⟩
  have i3 : S.ρ 3 = x3 := by rw [hS]; rfl
  have hI : S.I = [] := by rw [hS]
  have hvs : ∀ G ι, VsOk S G ι [.int .i64 0, vv .i64 3] [.int .i64 0, .int .i64 x3] := fun G ι => (vs_int (vs_sym i3 vs_nil))
  subst i3
  have t1 : 0 ≤ S.ρ 3 → (S.ρ 3).tdiv 8 = S.ρ 3 / 8 := fun h => Int.tdiv_eq_ediv_of_nonneg h
  have t2 : 0 ≤ S.ρ 3 → (S.ρ 3).tmod 8 = S.ρ 3 % 8 := fun h => Int.tmod_eq_emod_of_nonneg h
  have e : blkZ 0 (S.ρ 3) = bz 8 8 (S.ρ 3) := rfl
  by_cases c0 : S.ρ 3 < (0 : Int)
  · have d0 : t_bl0_0.den S = some [b2i true] := tr (p := S.ρ 3 < (0 : Int)) c0
    have r0 : max (blkZ 0 (S.ρ 3)) 0 = (0 : Int) := by rw [e, bz_no (by first | omega | (have hh := t1 (by omega); have hg := t2 (by omega); rw [hh] at *; rw [w_i64 (by omega) (by omega)] at *; omega) | (have hg := t2 (by omega); omega))]; rfl
    have r1 : b2i (decide (0 ≤ blkZ 0 (S.ρ 3))) = (b2i false) := by rw [e, bz_no (by first | omega | (have hh := t1 (by omega); have hg := t2 (by omega); rw [hh] at *; rw [w_i64 (by omega) (by omega)] at *; omega) | (have hg := t2 (by omega); omega))]; rfl
    rw [r0, r1]
    exact symL env gok (ai t_bl0_0 true d0 (AlOk.nil _)) (hcs0 _) hvs w hI [.int .i64 (0), .bool false] (csT (.lit .i64 0) rfl (csT (.blit false) rfl cs_nil)) (by kernel_rfl) (fun G => by kernel_rfl)
  · have d0 : t_bl0_0.den S = some [b2i false] := fls (p := S.ρ 3 < (0 : Int)) c0
    by_cases c1 : ((S.ρ 3).tmod (8 : Int)) = (0 : Int)
    · have d1 : t_bl0_1.den S = some [b2i false] := fls (p := ((S.ρ 3).tmod (8 : Int)) ≠ (0 : Int)) (fun hh => hh c1)
      by_cases c2 : (IntKind.i64.wrap ((S.ρ 3).tdiv (8 : Int))) < (8 : Int)
      · have d2 : t_bl0_2.den S = some [b2i false] := fls (p := (8 : Int) ≤ (IntKind.i64.wrap ((S.ρ 3).tdiv (8 : Int)))) (Int.not_le.2 c2)
        have r0 : max (blkZ 0 (S.ρ 3)) 0 = (IntKind.i64.wrap ((S.ρ 3).tdiv (8 : Int))) := by (have hh := t1 (by omega); have hg := t2 (by omega); have hw : IntKind.i64.wrap ((S.ρ 3).tdiv 8) = S.ρ 3 / 8 := (by rw [hh, w_i64 (by omega) (by omega)]); rw [e, bz_yes (by omega)]; omega)
        have r1 : b2i (decide (0 ≤ blkZ 0 (S.ρ 3))) = (b2i true) := by (have hh := t1 (by omega); have hg := t2 (by omega); have hw : IntKind.i64.wrap ((S.ρ 3).tdiv 8) = S.ρ 3 / 8 := (by rw [hh, w_i64 (by omega) (by omega)]); rw [e, bz_yes (by omega)]; rw [decide_eq_true (by omega)])
        rw [r0, r1]
        exact symL env gok (ai t_bl0_2 false d2 (ai t_bl0_1 false d1 (ai t_bl0_0 false d0 (AlOk.nil _)))) (hcs0 _) hvs w hI [.float .f64 ((.bin .quo (.var .i64 3) (.lit .i64 8)) : Tm).enc, .bool true] (csT (.bin .quo (.var .i64 3) (.lit .i64 8)) rfl (csT (.blit true) rfl cs_nil)) (by kernel_rfl) (fun G => by kernel_rfl)
      · have d2 : t_bl0_2.den S = some [b2i true] := tr (p := (8 : Int) ≤ (IntKind.i64.wrap ((S.ρ 3).tdiv (8 : Int)))) (Int.not_lt.1 c2)
        have r0 : max (blkZ 0 (S.ρ 3)) 0 = (0 : Int) := by rw [e, bz_no (by first | omega | (have hh := t1 (by omega); have hg := t2 (by omega); rw [hh] at *; rw [w_i64 (by omega) (by omega)] at *; omega) | (have hg := t2 (by omega); omega))]; rfl
        have r1 : b2i (decide (0 ≤ blkZ 0 (S.ρ 3))) = (b2i false) := by rw [e, bz_no (by first | omega | (have hh := t1 (by omega); have hg := t2 (by omega); rw [hh] at *; rw [w_i64 (by omega) (by omega)] at *; omega) | (have hg := t2 (by omega); omega))]; rfl
        rw [r0, r1]
        exact symL env gok (ai t_bl0_2 true d2 (ai t_bl0_1 false d1 (ai t_bl0_0 false d0 (AlOk.nil _)))) (hcs0 _) hvs w hI [.int .i64 (0), .bool false] (csT (.lit .i64 0) rfl (csT (.blit false) rfl cs_nil)) (by kernel_rfl) (fun G => by kernel_rfl)
    · have d1 : t_bl0_1.den S = some [b2i true] := tr (p := ((S.ρ 3).tmod (8 : Int)) ≠ (0 : Int)) c1
      have r0 : max (blkZ 0 (S.ρ 3)) 0 = (0 : Int) := by rw [e, bz_no (by first | omega | (have hh := t1 (by omega); have hg := t2 (by omega); rw [hh] at *; rw [w_i64 (by omega) (by omega)] at *; omega) | (have hg := t2 (by omega); omega))]; rfl
      have r1 : b2i (decide (0 ≤ blkZ 0 (S.ρ 3))) = (b2i false) := by rw [e, bz_no (by first | omega | (have hh := t1 (by omega); have hg := t2 (by omega); rw [hh] at *; rw [w_i64 (by omega) (by omega)] at *; omega) | (have hg := t2 (by omega); omega))]; rfl
      rw [r0, r1]
      exact symL env gok (ai t_bl0_1 true d1 (ai t_bl0_0 false d0 (AlOk.nil _))) (hcs0 _) hvs w hI [.int .i64 (0), .bool false] (csT (.lit .i64 0) rfl (csT (.blit false) rfl cs_nil)) (by kernel_rfl) (fun G => by kernel_rfl)
def t_rbl0_0 : Tm := (.bin .eql (.var .i64 3) (.lit .i64 0))
def t_rbl0_1 : Tm := (.bin .eql (.var .i64 3) (.lit .i64 8))
def t_rbl0_2 : Tm := (.bin .eql (.var .i64 3) (.lit .i64 16))
def t_rbl0_3 : Tm := (.bin .eql (.var .i64 3) (.lit .i64 24))
def t_rbl0_4 : Tm := (.bin .eql (.var .i64 3) (.lit .i64 32))
def t_rbl0_5 : Tm := (.bin .eql (.var .i64 3) (.lit .i64 40))
def t_rbl0_6 : Tm := (.bin .eql (.var .i64 3) (.lit .i64 48))
def t_rbl0_7 : Tm := (.bin .eql (.var .i64 3) (.lit .i64 56))
theorem rbl0 (x3 : Int) (w : World) : Calls Try.prog 15 #[.int .i64 0, .int .i64 x3] w fun e w' => e = .returned (bundle (fillP [.one (.int .i64)] [blkZ 0 x3])) ∧ Quiet w w' := by
  obtain ⟨S, hS⟩ : ∃ S : Sy, S = ⟨upd (fun _ => 0) [(3, x3)], fun _ _ => 0, [], fun _ h => by simp at h⟩ := ⟨_, rfl⟩
  have i3 : S.ρ 3 = x3 := by rw [hS]; rfl
  have hI : S.I = [] := by rw [hS]
  have hvs : ∀ G ι, VsOk S G ι [.int .i64 0, vv .i64 3] [.int .i64 0, .int .i64 x3] := fun G ι => (vs_int (vs_sym i3 vs_nil))
  subst i3
  have t1 : 0 ≤ S.ρ 3 → (S.ρ 3).tdiv 8 = S.ρ 3 / 8 := fun h => Int.tdiv_eq_ediv_of_nonneg h
  have t2 : 0 ≤ S.ρ 3 → (S.ρ 3).tmod 8 = S.ρ 3 % 8 := fun h => Int.tmod_eq_emod_of_nonneg h
  have e : blkZ 0 (S.ρ 3) = bz 8 8 (S.ρ 3) := rfl
  by_cases c0 : S.ρ 3 = (0 : Int)
  · have d0 : t_rbl0_0.den S = some [b2i true] := tr (p := S.ρ 3 = (0 : Int)) c0
    have r0 : blkZ 0 (S.ρ 3) = (0 : Int) := by rw [e]; first | (rw [bz_yes (by omega)]; omega) | (rw [bz_no (by omega)])
    rw [r0]
    exact symL env gok (ai t_rbl0_0 true d0 (AlOk.nil _)) (hcs0 _) hvs w hI [.int .i64 (0)] (csT (.lit .i64 0) rfl cs_nil) (by kernel_rfl) (fun G => by kernel_rfl)
  · have d0 : t_rbl0_0.den S = some [b2i false] := fls (p := S.ρ 3 = (0 : Int)) c0
    by_cases c1 : S.ρ 3 = (8 : Int)
    · have d1 : t_rbl0_1.den S = some [b2i true] := tr (p := S.ρ 3 = (8 : Int)) c1
      have r0 : blkZ 0 (S.ρ 3) = (1 : Int) := by rw [e]; first | (rw [bz_yes (by omega)]; omega) | (rw [bz_no (by omega)])
      rw [r0]
      exact symL env gok (ai t_rbl0_1 true d1 (ai t_rbl0_0 false d0 (AlOk.nil _))) (hcs0 _) hvs w hI [.int .i64 (1)] (csT (.lit .i64 1) rfl cs_nil) (by kernel_rfl) (fun G => by kernel_rfl)
    · have d1 : t_rbl0_1.den S = some [b2i false] := fls (p := S.ρ 3 = (8 : Int)) c1
      by_cases c2 : S.ρ 3 = (16 : Int)
      · have d2 : t_rbl0_2.den S = some [b2i true] := tr (p := S.ρ 3 = (16 : Int)) c2
        have r0 : blkZ 0 (S.ρ 3) = (2 : Int) := by rw [e]; first | (rw [bz_yes (by omega)]; omega) | (rw [bz_no (by omega)])
        rw [r0]
        exact symL env gok (ai t_rbl0_2 true d2 (ai t_rbl0_1 false d1 (ai t_rbl0_0 false d0 (AlOk.nil _)))) (hcs0 _) hvs w hI [.int .i64 (2)] (csT (.lit .i64 2) rfl cs_nil) (by kernel_rfl) (fun G => by kernel_rfl)
      · have d2 : t_rbl0_2.den S = some [b2i false] := fls (p := S.ρ 3 = (16 : Int)) c2
        by_cases c3 : S.ρ 3 = (24 : Int)
        · have d3 : t_rbl0_3.den S = some [b2i true] := tr (p := S.ρ 3 = (24 : Int)) c3
          have r0 : blkZ 0 (S.ρ 3) = (3 : Int) := by rw [e]; first | (rw [bz_yes (by omega)]; omega) | (rw [bz_no (by omega)])
          rw [r0]
          exact symL env gok (ai t_rbl0_3 true d3 (ai t_rbl0_2 false d2 (ai t_rbl0_1 false d1 (ai t_rbl0_0 false d0 (AlOk.nil _))))) (hcs0 _) hvs w hI [.int .i64 (3)] (csT (.lit .i64 3) rfl cs_nil) (by kernel_rfl) (fun G => by kernel_rfl)
        · have d3 : t_rbl0_3.den S = some [b2i false] := fls (p := S.ρ 3 = (24 : Int)) c3
          by_cases c4 : S.ρ 3 = (32 : Int)
          · have d4 : t_rbl0_4.den S = some [b2i true] := tr (p := S.ρ 3 = (32 : Int)) c4
            have r0 : blkZ 0 (S.ρ 3) = (4 : Int) := by rw [e]; first | (rw [bz_yes (by omega)]; omega) | (rw [bz_no (by omega)])
            rw [r0]
            exact symL env gok (ai t_rbl0_4 true d4 (ai t_rbl0_3 false d3 (ai t_rbl0_2 false d2 (ai t_rbl0_1 false d1 (ai t_rbl0_0 false d0 (AlOk.nil _)))))) (hcs0 _) hvs w hI [.int .i64 (4)] (csT (.lit .i64 4) rfl cs_nil) (by kernel_rfl) (fun G => by kernel_rfl)
          · have d4 : t_rbl0_4.den S = some [b2i false] := fls (p := S.ρ 3 = (32 : Int)) c4
            by_cases c5 : S.ρ 3 = (40 : Int)
            · have d5 : t_rbl0_5.den S = some [b2i true] := tr (p := S.ρ 3 = (40 : Int)) c5
              have r0 : blkZ 0 (S.ρ 3) = (5 : Int) := by rw [e]; first | (rw [bz_yes (by omega)]; omega) | (rw [bz_no (by omega)])
              rw [r0]
              exact symL env gok (ai t_rbl0_5 true d5 (ai t_rbl0_4 false d4 (ai t_rbl0_3 false d3 (ai t_rbl0_2 false d2 (ai t_rbl0_1 false d1 (ai t_rbl0_0 false d0 (AlOk.nil _))))))) (hcs0 _) hvs w hI [.int .i64 (5)] (csT (.lit .i64 5) rfl cs_nil) (by kernel_rfl) (fun G => by kernel_rfl)
            · have d5 : t_rbl0_5.den S = some [b2i false] := fls (p := S.ρ 3 = (40 : Int)) c5
              by_cases c6 : S.ρ 3 = (48 : Int)
              · have d6 : t_rbl0_6.den S = some [b2i true] := tr (p := S.ρ 3 = (48 : Int)) c6
                have r0 : blkZ 0 (S.ρ 3) = (6 : Int) := by rw [e]; first | (rw [bz_yes (by omega)]; omega) | (rw [bz_no (by omega)])
                rw [r0]
                exact symL env gok (ai t_rbl0_6 true d6 (ai t_rbl0_5 false d5 (ai t_rbl0_4 false d4 (ai t_rbl0_3 false d3 (ai t_rbl0_2 false d2 (ai t_rbl0_1 false d1 (ai t_rbl0_0 false d0 (AlOk.nil _)))))))) (hcs0 _) hvs w hI [.int .i64 (6)] (csT (.lit .i64 6) rfl cs_nil) (by kernel_rfl) (fun G => by kernel_rfl)
              · have d6 : t_rbl0_6.den S = some [b2i false] := fls (p := S.ρ 3 = (48 : Int)) c6
                by_cases c7 : S.ρ 3 = (56 : Int)
                · have d7 : t_rbl0_7.den S = some [b2i true] := tr (p := S.ρ 3 = (56 : Int)) c7
                  have r0 : blkZ 0 (S.ρ 3) = (7 : Int) := by rw [e]; first | (rw [bz_yes (by omega)]; omega) | (rw [bz_no (by omega)])
                  rw [r0]
                  exact symL env gok (ai t_rbl0_7 true d7 (ai t_rbl0_6 false d6 (ai t_rbl0_5 false d5 (ai t_rbl0_4 false d4 (ai t_rbl0_3 false d3 (ai t_rbl0_2 false d2 (ai t_rbl0_1 false d1 (ai t_rbl0_0 false d0 (AlOk.nil _))))))))) (hcs0 _) hvs w hI [.int .i64 (7)] (csT (.lit .i64 7) rfl cs_nil) (by kernel_rfl) (fun G => by kernel_rfl)
                · have d7 : t_rbl0_7.den S = some [b2i false] := fls (p := S.ρ 3 = (56 : Int)) c7
                  have r0 : blkZ 0 (S.ρ 3) = (-1 : Int) := by rw [e]; first | (rw [bz_yes (by omega)]; omega) | (rw [bz_no (by omega)])
                  rw [r0]
                  exact symL env gok (ai t_rbl0_7 false d7 (ai t_rbl0_6 false d6 (ai t_rbl0_5 false d5 (ai t_rbl0_4 false d4 (ai t_rbl0_3 false d3 (ai t_rbl0_2 false d2 (ai t_rbl0_1 false d1 (ai t_rbl0_0 false d0 (AlOk.nil _))))))))) (hcs0 _) hvs w hI [.int .i64 (-1)] (csT (.lit .i64 (-1)) rfl cs_nil) (by kernel_rfl) (fun G => by kernel_rfl)
def t_bl1_0 : Tm := (.bin .lss (.var .i64 3) (.lit .i64 0))
def t_bl1_1 : Tm := (.bin .neq (.bin .rem (.var .i64 3) (.lit .i64 16)) (.lit .i64 0))
def t_bl1_2 : Tm := (.bin .geq (.bin .quo (.var .i64 3) (.lit .i64 16)) (.lit .i64 4))
theorem bl1 (x3 : Int) (hx : -9223372036854775808 ≤ x3 ∧ x3 < 9223372036854775808) (w : World) : Calls Try.prog 11 #[.int .i64 1, .int .i64 x3] w fun e w' => e = .returned (bundle (fillP [.one (.int .i64), .one .bool] [max (blkZ 1 x3) 0, b2i (decide (0 ≤ blkZ 1 x3))])) ∧ Quiet w w' := by
  obtain ⟨S, hS⟩ : ∃ S : Sy, S = ⟨upd (fun _ => 0) [(3, x3)], fun _ _ => 0, [], fun _ h => by simp at h⟩ := ⟨_, rfl⟩
  have i3 : S.ρ 3 = x3 := by rw [hS]; rfl
  have hI : S.I = [] := by rw [hS]
  have hvs : ∀ G ι, VsOk S G ι [.int .i64 1, vv .i64 3] [.int .i64 1, .int .i64 x3] := fun G ι => (vs_int (vs_sym i3 vs_nil))
  subst i3
  have t1 : 0 ≤ S.ρ 3 → (S.ρ 3).tdiv 16 = S.ρ 3 / 16 := fun h => Int.tdiv_eq_ediv_of_nonneg h
  have t2 : 0 ≤ S.ρ 3 → (S.ρ 3).tmod 16 = S.ρ 3 % 16 := fun h => Int.tmod_eq_emod_of_nonneg h
  have e : blkZ 1 (S.ρ 3) = bz 16 4 (S.ρ 3) := rfl
  by_cases c0 : S.ρ 3 < (0 : Int)
  · have d0 : t_bl1_0.den S = some [b2i true] := tr (p := S.ρ 3 < (0 : Int)) c0
    have r0 : max (blkZ 1 (S.ρ 3)) 0 = (0 : Int) := by rw [e, bz_no (by first | omega | (have hh := t1 (by omega); have hg := t2 (by omega); rw [hh] at *; rw [w_i64 (by omega) (by omega)] at *; omega) | (have hg := t2 (by omega); omega))]; rfl
    have r1 : b2i (decide (0 ≤ blkZ 1 (S.ρ 3))) = (b2i false) := by rw [e, bz_no (by first | omega | (have hh := t1 (by omega); have hg := t2 (by omega); rw [hh] at *; rw [w_i64 (by omega) (by omega)] at *; omega) | (have hg := t2 (by omega); omega))]; rfl
    rw [r0, r1]
    exact symL env gok (ai t_bl1_0 true d0 (AlOk.nil _)) (hcs0 _) hvs w hI [.int .i64 (0), .bool false] (csT (.lit .i64 0) rfl (csT (.blit false) rfl cs_nil)) (by kernel_rfl) (fun G => by kernel_rfl)
  · have d0 : t_bl1_0.den S = some [b2i false] := fls (p := S.ρ 3 < (0 : Int)) c0
    by_cases c1 : ((S.ρ 3).tmod (16 : Int)) = (0 : Int)
    · have d1 : t_bl1_1.den S = some [b2i false] := fls (p := ((S.ρ 3).tmod (16 : Int)) ≠ (0 : Int)) (fun hh => hh c1)
      by_cases c2 : (IntKind.i64.wrap ((S.ρ 3).tdiv (16 : Int))) < (4 : Int)
      · have d2 : t_bl1_2.den S = some [b2i false] := fls (p := (4 : Int) ≤ (IntKind.i64.wrap ((S.ρ 3).tdiv (16 : Int)))) (Int.not_le.2 c2)
        have r0 : max (blkZ 1 (S.ρ 3)) 0 = (IntKind.i64.wrap ((S.ρ 3).tdiv (16 : Int))) := by (have hh := t1 (by omega); have hg := t2 (by omega); have hw : IntKind.i64.wrap ((S.ρ 3).tdiv 16) = S.ρ 3 / 16 := (by rw [hh, w_i64 (by omega) (by omega)]); rw [e, bz_yes (by omega)]; omega)
        have r1 : b2i (decide (0 ≤ blkZ 1 (S.ρ 3))) = (b2i true) := by (have hh := t1 (by omega); have hg := t2 (by omega); have hw : IntKind.i64.wrap ((S.ρ 3).tdiv 16) = S.ρ 3 / 16 := (by rw [hh, w_i64 (by omega) (by omega)]); rw [e, bz_yes (by omega)]; rw [decide_eq_true (by omega)])
        rw [r0, r1]
        exact symL env gok (ai t_bl1_2 false d2 (ai t_bl1_1 false d1 (ai t_bl1_0 false d0 (AlOk.nil _)))) (hcs0 _) hvs w hI [.float .f64 ((.bin .quo (.var .i64 3) (.lit .i64 16)) : Tm).enc, .bool true] (csT (.bin .quo (.var .i64 3) (.lit .i64 16)) rfl (csT (.blit true) rfl cs_nil)) (by kernel_rfl) (fun G => by kernel_rfl)
      · have d2 : t_bl1_2.den S = some [b2i true] := tr (p := (4 : Int) ≤ (IntKind.i64.wrap ((S.ρ 3).tdiv (16 : Int)))) (Int.not_lt.1 c2)
        have r0 : max (blkZ 1 (S.ρ 3)) 0 = (0 : Int) := by rw [e, bz_no (by first | omega | (have hh := t1 (by omega); have hg := t2 (by omega); rw [hh] at *; rw [w_i64 (by omega) (by omega)] at *; omega) | (have hg := t2 (by omega); omega))]; rfl
        have r1 : b2i (decide (0 ≤ blkZ 1 (S.ρ 3))) = (b2i false) := by rw [e, bz_no (by first | omega | (have hh := t1 (by omega); have hg := t2 (by omega); rw [hh] at *; rw [w_i64 (by omega) (by omega)] at *; omega) | (have hg := t2 (by omega); omega))]; rfl
        rw [r0, r1]
        exact symL env gok (ai t_bl1_2 true d2 (ai t_bl1_1 false d1 (ai t_bl1_0 false d0 (AlOk.nil _)))) (hcs0 _) hvs w hI [.int .i64 (0), .bool false] (csT (.lit .i64 0) rfl (csT (.blit false) rfl cs_nil)) (by kernel_rfl) (fun G => by kernel_rfl)
    · have d1 : t_bl1_1.den S = some [b2i true] := tr (p := ((S.ρ 3).tmod (16 : Int)) ≠ (0 : Int)) c1
      have r0 : max (blkZ 1 (S.ρ 3)) 0 = (0 : Int) := by rw [e, bz_no (by first | omega | (have hh := t1 (by omega); have hg := t2 (by omega); rw [hh] at *; rw [w_i64 (by omega) (by omega)] at *; omega) | (have hg := t2 (by omega); omega))]; rfl
      have r1 : b2i (decide (0 ≤ blkZ 1 (S.ρ 3))) = (b2i false) := by rw [e, bz_no (by first | omega | (have hh := t1 (by omega); have hg := t2 (by omega); rw [hh] at *; rw [w_i64 (by omega) (by omega)] at *; omega) | (have hg := t2 (by omega); omega))]; rfl
      rw [r0, r1]
      exact symL env gok (ai t_bl1_1 true d1 (ai t_bl1_0 false d0 (AlOk.nil _))) (hcs0 _) hvs w hI [.int .i64 (0), .bool false] (csT (.lit .i64 0) rfl (csT (.blit false) rfl cs_nil)) (by kernel_rfl) (fun G => by kernel_rfl)
def t_rbl1_0 : Tm := (.bin .eql (.var .i64 3) (.lit .i64 0))
def t_rbl1_1 : Tm := (.bin .eql (.var .i64 3) (.lit .i64 16))
def t_rbl1_2 : Tm := (.bin .eql (.var .i64 3) (.lit .i64 32))
def t_rbl1_3 : Tm := (.bin .eql (.var .i64 3) (.lit .i64 48))
theorem rbl1 (x3 : Int) (w : World) : Calls Try.prog 15 #[.int .i64 1, .int .i64 x3] w fun e w' => e = .returned (bundle (fillP [.one (.int .i64)] [blkZ 1 x3])) ∧ Quiet w w' := by
  obtain ⟨S, hS⟩ : ∃ S : Sy, S = ⟨upd (fun _ => 0) [(3, x3)], fun _ _ => 0, [], fun _ h => by simp at h⟩ := ⟨_, rfl⟩
  have i3 : S.ρ 3 = x3 := by rw [hS]; rfl
  have hI : S.I = [] := by rw [hS]
  have hvs : ∀ G ι, VsOk S G ι [.int .i64 1, vv .i64 3] [.int .i64 1, .int .i64 x3] := fun G ι => (vs_int (vs_sym i3 vs_nil))
  subst i3
  have t1 : 0 ≤ S.ρ 3 → (S.ρ 3).tdiv 16 = S.ρ 3 / 16 := fun h => Int.tdiv_eq_ediv_of_nonneg h
  have t2 : 0 ≤ S.ρ 3 → (S.ρ 3).tmod 16 = S.ρ 3 % 16 := fun h => Int.tmod_eq_emod_of_nonneg h
  have e : blkZ 1 (S.ρ 3) = bz 16 4 (S.ρ 3) := rfl
  by_cases c0 : S.ρ 3 = (0 : Int)
  · have d0 : t_rbl1_0.den S = some [b2i true] := tr (p := S.ρ 3 = (0 : Int)) c0
    have r0 : blkZ 1 (S.ρ 3) = (0 : Int) := by rw [e]; first | (rw [bz_yes (by omega)]; omega) | (rw [bz_no (by omega)])
    rw [r0]
    exact symL env gok (ai t_rbl1_0 true d0 (AlOk.nil _)) (hcs0 _) hvs w hI [.int .i64 (0)] (csT (.lit .i64 0) rfl cs_nil) (by kernel_rfl) (fun G => by kernel_rfl)
  · have d0 : t_rbl1_0.den S = some [b2i false] := fls (p := S.ρ 3 = (0 : Int)) c0
    by_cases c1 : S.ρ 3 = (16 : Int)
    · have d1 : t_rbl1_1.den S = some [b2i true] := tr (p := S.ρ 3 = (16 : Int)) c1
      have r0 : blkZ 1 (S.ρ 3) = (1 : Int) := by rw [e]; first | (rw [bz_yes (by omega)]; omega) | (rw [bz_no (by omega)])
      rw [r0]
      exact symL env gok (ai t_rbl1_1 true d1 (ai t_rbl1_0 false d0 (AlOk.nil _))) (hcs0 _) hvs w hI [.int .i64 (1)] (csT (.lit .i64 1) rfl cs_nil) (by kernel_rfl) (fun G => by kernel_rfl)
    · have d1 : t_rbl1_1.den S = some [b2i false] := fls (p := S.ρ 3 = (16 : Int)) c1
      by_cases c2 : S.ρ 3 = (32 : Int)
      · have d2 : t_rbl1_2.den S = some [b2i true] := tr (p := S.ρ 3 = (32 : Int)) c2
        have r0 : blkZ 1 (S.ρ 3) = (2 : Int) := by rw [e]; first | (rw [bz_yes (by omega)]; omega) | (rw [bz_no (by omega)])
        rw [r0]
        exact symL env gok (ai t_rbl1_2 true d2 (ai t_rbl1_1 false d1 (ai t_rbl1_0 false d0 (AlOk.nil _)))) (hcs0 _) hvs w hI [.int .i64 (2)] (csT (.lit .i64 2) rfl cs_nil) (by kernel_rfl) (fun G => by kernel_rfl)
      · have d2 : t_rbl1_2.den S = some [b2i false] := fls (p := S.ρ 3 = (32 : Int)) c2
        by_cases c3 : S.ρ 3 = (48 : Int)
        · have d3 : t_rbl1_3.den S = some [b2i true] := tr (p := S.ρ 3 = (48 : Int)) c3
          have r0 : blkZ 1 (S.ρ 3) = (3 : Int) := by rw [e]; first | (rw [bz_yes (by omega)]; omega) | (rw [bz_no (by omega)])
          rw [r0]
          exact symL env gok (ai t_rbl1_3 true d3 (ai t_rbl1_2 false d2 (ai t_rbl1_1 false d1 (ai t_rbl1_0 false d0 (AlOk.nil _))))) (hcs0 _) hvs w hI [.int .i64 (3)] (csT (.lit .i64 3) rfl cs_nil) (by kernel_rfl) (fun G => by kernel_rfl)
        · have d3 : t_rbl1_3.den S = some [b2i false] := fls (p := S.ρ 3 = (48 : Int)) c3
          have r0 : blkZ 1 (S.ρ 3) = (-1 : Int) := by rw [e]; first | (rw [bz_yes (by omega)]; omega) | (rw [bz_no (by omega)])
          rw [r0]
          exact symL env gok (ai t_rbl1_3 false d3 (ai t_rbl1_2 false d2 (ai t_rbl1_1 false d1 (ai t_rbl1_0 false d0 (AlOk.nil _))))) (hcs0 _) hvs w hI [.int .i64 (-1)] (csT (.lit .i64 (-1)) rfl cs_nil) (by kernel_rfl) (fun G => by kernel_rfl)
def t_bl2_0 : Tm := (.bin .lss (.var .i64 3) (.lit .i64 0))
def t_bl2_1 : Tm := (.bin .neq (.bin .rem (.var .i64 3) (.lit .i64 24)) (.lit .i64 0))
def t_bl2_2 : Tm := (.bin .geq (.bin .quo (.var .i64 3) (.lit .i64 24)) (.lit .i64 2))
theorem bl2 (x3 : Int) (hx : -9223372036854775808 ≤ x3 ∧ x3 < 9223372036854775808) (w : World) : Calls Try.prog 11 #[.int .i64 2, .int .i64 x3] w fun e w' => e = .returned (bundle (fillP [.one (.int .i64), .one .bool] [max (blkZ 2 x3) 0, b2i (decide (0 ≤ blkZ 2 x3))])) ∧ Quiet w w' := by
  obtain ⟨S, hS⟩ : ∃ S : Sy, S = ⟨upd (fun _ => 0) [(3, x3)], fun _ _ => 0, [], fun _ h => by simp at h⟩ := ⟨_, rfl⟩
  have i3 : S.ρ 3 = x3 := by rw [hS]; rfl
  have hI : S.I = [] := by rw [hS]
  have hvs : ∀ G ι, VsOk S G ι [.int .i64 2, vv .i64 3] [.int .i64 2, .int .i64 x3] := fun G ι => (vs_int (vs_sym i3 vs_nil))
  subst i3
  have t1 : 0 ≤ S.ρ 3 → (S.ρ 3).tdiv 24 = S.ρ 3 / 24 := fun h => Int.tdiv_eq_ediv_of_nonneg h
  have t2 : 0 ≤ S.ρ 3 → (S.ρ 3).tmod 24 = S.ρ 3 % 24 := fun h => Int.tmod_eq_emod_of_nonneg h
  have e : blkZ 2 (S.ρ 3) = bz 24 2 (S.ρ 3) := rfl
  by_cases c0 : S.ρ 3 < (0 : Int)
  · have d0 : t_bl2_0.den S = some [b2i true] := tr (p := S.ρ 3 < (0 : Int)) c0
    have r0 : max (blkZ 2 (S.ρ 3)) 0 = (0 : Int) := by rw [e, bz_no (by first | omega | (have hh := t1 (by omega); have hg := t2 (by omega); rw [hh] at *; rw [w_i64 (by omega) (by omega)] at *; omega) | (have hg := t2 (by omega); omega))]; rfl
    have r1 : b2i (decide (0 ≤ blkZ 2 (S.ρ 3))) = (b2i false) := by rw [e, bz_no (by first | omega | (have hh := t1 (by omega); have hg := t2 (by omega); rw [hh] at *; rw [w_i64 (by omega) (by omega)] at *; omega) | (have hg := t2 (by omega); omega))]; rfl
    rw [r0, r1]
    exact symL env gok (ai t_bl2_0 true d0 (AlOk.nil _)) (hcs0 _) hvs w hI [.int .i64 (0), .bool false] (csT (.lit .i64 0) rfl (csT (.blit false) rfl cs_nil)) (by kernel_rfl) (fun G => by kernel_rfl)
  · have d0 : t_bl2_0.den S = some [b2i false] := fls (p := S.ρ 3 < (0 : Int)) c0
    by_cases c1 : ((S.ρ 3).tmod (24 : Int)) = (0 : Int)
    · have d1 : t_bl2_1.den S = some [b2i false] := fls (p := ((S.ρ 3).tmod (24 : Int)) ≠ (0 : Int)) (fun hh => hh c1)
      by_cases c2 : (IntKind.i64.wrap ((S.ρ 3).tdiv (24 : Int))) < (2 : Int)
      · have d2 : t_bl2_2.den S = some [b2i false] := fls (p := (2 : Int) ≤ (IntKind.i64.wrap ((S.ρ 3).tdiv (24 : Int)))) (Int.not_le.2 c2)
        have r0 : max (blkZ 2 (S.ρ 3)) 0 = (IntKind.i64.wrap ((S.ρ 3).tdiv (24 : Int))) := by (have hh := t1 (by omega); have hg := t2 (by omega); have hw : IntKind.i64.wrap ((S.ρ 3).tdiv 24) = S.ρ 3 / 24 := (by rw [hh, w_i64 (by omega) (by omega)]); rw [e, bz_yes (by omega)]; omega)
        have r1 : b2i (decide (0 ≤ blkZ 2 (S.ρ 3))) = (b2i true) := by (have hh := t1 (by omega); have hg := t2 (by omega); have hw : IntKind.i64.wrap ((S.ρ 3).tdiv 24) = S.ρ 3 / 24 := (by rw [hh, w_i64 (by omega) (by omega)]); rw [e, bz_yes (by omega)]; rw [decide_eq_true (by omega)])
        rw [r0, r1]
        exact symL env gok (ai t_bl2_2 false d2 (ai t_bl2_1 false d1 (ai t_bl2_0 false d0 (AlOk.nil _)))) (hcs0 _) hvs w hI [.float .f64 ((.bin .quo (.var .i64 3) (.lit .i64 24)) : Tm).enc, .bool true] (csT (.bin .quo (.var .i64 3) (.lit .i64 24)) rfl (csT (.blit true) rfl cs_nil)) (by kernel_rfl) (fun G => by kernel_rfl)
      · have d2 : t_bl2_2.den S = some [b2i true] := tr (p := (2 : Int) ≤ (IntKind.i64.wrap ((S.ρ 3).tdiv (24 : Int)))) (Int.not_lt.1 c2)
        have r0 : max (blkZ 2 (S.ρ 3)) 0 = (0 : Int) := by rw [e, bz_no (by first | omega | (have hh := t1 (by omega); have hg := t2 (by omega); rw [hh] at *; rw [w_i64 (by omega) (by omega)] at *; omega) | (have hg := t2 (by omega); omega))]; rfl
        have r1 : b2i (decide (0 ≤ blkZ 2 (S.ρ 3))) = (b2i false) := by rw [e, bz_no (by first | omega | (have hh := t1 (by omega); have hg := t2 (by omega); rw [hh] at *; rw [w_i64 (by omega) (by omega)] at *; omega) | (have hg := t2 (by omega); omega))]; rfl
        rw [r0, r1]
        exact symL env gok (ai t_bl2_2 true d2 (ai t_bl2_1 false d1 (ai t_bl2_0 false d0 (AlOk.nil _)))) (hcs0 _) hvs w hI [.int .i64 (0), .bool false] (csT (.lit .i64 0) rfl (csT (.blit false) rfl cs_nil)) (by kernel_rfl) (fun G => by kernel_rfl)
    · have d1 : t_bl2_1.den S = some [b2i true] := tr (p := ((S.ρ 3).tmod (24 : Int)) ≠ (0 : Int)) c1
      have r0 : max (blkZ 2 (S.ρ 3)) 0 = (0 : Int) := by rw [e, bz_no (by first | omega | (have hh := t1 (by omega); have hg := t2 (by omega); rw [hh] at *; rw [w_i64 (by omega) (by omega)] at *; omega) | (have hg := t2 (by omega); omega))]; rfl
      have r1 : b2i (decide (0 ≤ blkZ 2 (S.ρ 3))) = (b2i false) := by rw [e, bz_no (by first | omega | (have hh := t1 (by omega); have hg := t2 (by omega); rw [hh] at *; rw [w_i64 (by omega) (by omega)] at *; omega) | (have hg := t2 (by omega); omega))]; rfl
      rw [r0, r1]
      exact symL env gok (ai t_bl2_1 true d1 (ai t_bl2_0 false d0 (AlOk.nil _))) (hcs0 _) hvs w hI [.int .i64 (0), .bool false] (csT (.lit .i64 0) rfl (csT (.blit false) rfl cs_nil)) (by kernel_rfl) (fun G => by kernel_rfl)
def t_rbl2_0 : Tm := (.bin .eql (.var .i64 3) (.lit .i64 0))
def t_rbl2_1 : Tm := (.bin .eql (.var .i64 3) (.lit .i64 24))
theorem rbl2 (x3 : Int) (w : World) : Calls Try.prog 15 #[.int .i64 2, .int .i64 x3] w fun e w' => e = .returned (bundle (fillP [.one (.int .i64)] [blkZ 2 x3])) ∧ Quiet w w' := by
  obtain ⟨S, hS⟩ : ∃ S : Sy, S = ⟨upd (fun _ => 0) [(3, x3)], fun _ _ => 0, [], fun _ h => by simp at h⟩ := ⟨_, rfl⟩
  have i3 : S.ρ 3 = x3 := by rw [hS]; rfl
  have hI : S.I = [] := by rw [hS]
  have hvs : ∀ G ι, VsOk S G ι [.int .i64 2, vv .i64 3] [.int .i64 2, .int .i64 x3] := fun G ι => (vs_int (vs_sym i3 vs_nil))
  subst i3
  have t1 : 0 ≤ S.ρ 3 → (S.ρ 3).tdiv 24 = S.ρ 3 / 24 := fun h => Int.tdiv_eq_ediv_of_nonneg h
  have t2 : 0 ≤ S.ρ 3 → (S.ρ 3).tmod 24 = S.ρ 3 % 24 := fun h => Int.tmod_eq_emod_of_nonneg h
  have e : blkZ 2 (S.ρ 3) = bz 24 2 (S.ρ 3) := rfl
  by_cases c0 : S.ρ 3 = (0 : Int)
  · have d0 : t_rbl2_0.den S = some [b2i true] := tr (p := S.ρ 3 = (0 : Int)) c0
    have r0 : blkZ 2 (S.ρ 3) = (0 : Int) := by rw [e]; first | (rw [bz_yes (by omega)]; omega) | (rw [bz_no (by omega)])
    rw [r0]
    exact symL env gok (ai t_rbl2_0 true d0 (AlOk.nil _)) (hcs0 _) hvs w hI [.int .i64 (0)] (csT (.lit .i64 0) rfl cs_nil) (by kernel_rfl) (fun G => by kernel_rfl)
  · have d0 : t_rbl2_0.den S = some [b2i false] := fls (p := S.ρ 3 = (0 : Int)) c0
    by_cases c1 : S.ρ 3 = (24 : Int)
    · have d1 : t_rbl2_1.den S = some [b2i true] := tr (p := S.ρ 3 = (24 : Int)) c1
      have r0 : blkZ 2 (S.ρ 3) = (1 : Int) := by rw [e]; first | (rw [bz_yes (by omega)]; omega) | (rw [bz_no (by omega)])
      rw [r0]
      exact symL env gok (ai t_rbl2_1 true d1 (ai t_rbl2_0 false d0 (AlOk.nil _))) (hcs0 _) hvs w hI [.int .i64 (1)] (csT (.lit .i64 1) rfl cs_nil) (by kernel_rfl) (fun G => by kernel_rfl)
    · have d1 : t_rbl2_1.den S = some [b2i false] := fls (p := S.ρ 3 = (24 : Int)) c1
      have r0 : blkZ 2 (S.ρ 3) = (-1 : Int) := by rw [e]; first | (rw [bz_yes (by omega)]; omega) | (rw [bz_no (by omega)])
      rw [r0]
      exact symL env gok (ai t_rbl2_1 false d1 (ai t_rbl2_0 false d0 (AlOk.nil _))) (hcs0 _) hvs w hI [.int .i64 (-1)] (csT (.lit .i64 (-1)) rfl cs_nil) (by kernel_rfl) (fun G => by kernel_rfl)
def t_bl3_0 : Tm := (.bin .lss (.var .i64 3) (.lit .i64 0))
def t_bl3_1 : Tm := (.bin .neq (.bin .rem (.var .i64 3) (.lit .i64 32)) (.lit .i64 0))
def t_bl3_2 : Tm := (.bin .geq (.bin .quo (.var .i64 3) (.lit .i64 32)) (.lit .i64 2))
theorem bl3 (x3 : Int) (hx : -9223372036854775808 ≤ x3 ∧ x3 < 9223372036854775808) (w : World) : Calls Try.prog 11 #[.int .i64 3, .int .i64 x3] w fun e w' => e = .returned (bundle (fillP [.one (.int .i64), .one .bool] [max (blkZ 3 x3) 0, b2i (decide (0 ≤ blkZ 3 x3))])) ∧ Quiet w w' := by
  obtain ⟨S, hS⟩ : ∃ S : Sy, S = ⟨upd (fun _ => 0) [(3, x3)], fun _ _ => 0, [], fun _ h => by simp at h⟩ := ⟨_, rfl⟩
  have i3 : S.ρ 3 = x3 := by rw [hS]; rfl
  have hI : S.I = [] := by rw [hS]
  have hvs : ∀ G ι, VsOk S G ι [.int .i64 3, vv .i64 3] [.int .i64 3, .int .i64 x3] := fun G ι => (vs_int (vs_sym i3 vs_nil))
  subst i3
  have t1 : 0 ≤ S.ρ 3 → (S.ρ 3).tdiv 32 = S.ρ 3 / 32 := fun h => Int.tdiv_eq_ediv_of_nonneg h
  have t2 : 0 ≤ S.ρ 3 → (S.ρ 3).tmod 32 = S.ρ 3 % 32 := fun h => Int.tmod_eq_emod_of_nonneg h
  have e : blkZ 3 (S.ρ 3) = bz 32 2 (S.ρ 3) := rfl
  by_cases c0 : S.ρ 3 < (0 : Int)
  · have d0 : t_bl3_0.den S = some [b2i true] := tr (p := S.ρ 3 < (0 : Int)) c0
    have r0 : max (blkZ 3 (S.ρ 3)) 0 = (0 : Int) := by rw [e, bz_no (by first | omega | (have hh := t1 (by omega); have hg := t2 (by omega); rw [hh] at *; rw [w_i64 (by omega) (by omega)] at *; omega) | (have hg := t2 (by omega); omega))]; rfl
    have r1 : b2i (decide (0 ≤ blkZ 3 (S.ρ 3))) = (b2i false) := by rw [e, bz_no (by first | omega | (have hh := t1 (by omega); have hg := t2 (by omega); rw [hh] at *; rw [w_i64 (by omega) (by omega)] at *; omega) | (have hg := t2 (by omega); omega))]; rfl
    rw [r0, r1]
    exact symL env gok (ai t_bl3_0 true d0 (AlOk.nil _)) (hcs0 _) hvs w hI [.int .i64 (0), .bool false] (csT (.lit .i64 0) rfl (csT (.blit false) rfl cs_nil)) (by kernel_rfl) (fun G => by kernel_rfl)
  · have d0 : t_bl3_0.den S = some [b2i false] := fls (p := S.ρ 3 < (0 : Int)) c0
    by_cases c1 : ((S.ρ 3).tmod (32 : Int)) = (0 : Int)
    · have d1 : t_bl3_1.den S = some [b2i false] := fls (p := ((S.ρ 3).tmod (32 : Int)) ≠ (0 : Int)) (fun hh => hh c1)
      by_cases c2 : (IntKind.i64.wrap ((S.ρ 3).tdiv (32 : Int))) < (2 : Int)
      · have d2 : t_bl3_2.den S = some [b2i false] := fls (p := (2 : Int) ≤ (IntKind.i64.wrap ((S.ρ 3).tdiv (32 : Int)))) (Int.not_le.2 c2)
        have r0 : max (blkZ 3 (S.ρ 3)) 0 = (IntKind.i64.wrap ((S.ρ 3).tdiv (32 : Int))) := by (have hh := t1 (by omega); have hg := t2 (by omega); have hw : IntKind.i64.wrap ((S.ρ 3).tdiv 32) = S.ρ 3 / 32 := (by rw [hh, w_i64 (by omega) (by omega)]); rw [e, bz_yes (by omega)]; omega)
        have r1 : b2i (decide (0 ≤ blkZ 3 (S.ρ 3))) = (b2i true) := by (have hh := t1 (by omega); have hg := t2 (by omega); have hw : IntKind.i64.wrap ((S.ρ 3).tdiv 32) = S.ρ 3 / 32 := (by rw [hh, w_i64 (by omega) (by omega)]); rw [e, bz_yes (by omega)]; rw [decide_eq_true (by omega)])
        rw [r0, r1]
        exact symL env gok (ai t_bl3_2 false d2 (ai t_bl3_1 false d1 (ai t_bl3_0 false d0 (AlOk.nil _)))) (hcs0 _) hvs w hI [.float .f64 ((.bin .quo (.var .i64 3) (.lit .i64 32)) : Tm).enc, .bool true] (csT (.bin .quo (.var .i64 3) (.lit .i64 32)) rfl (csT (.blit true) rfl cs_nil)) (by kernel_rfl) (fun G => by kernel_rfl)
      · have d2 : t_bl3_2.den S = some [b2i true] := tr (p := (2 : Int) ≤ (IntKind.i64.wrap ((S.ρ 3).tdiv (32 : Int)))) (Int.not_lt.1 c2)
        have r0 : max (blkZ 3 (S.ρ 3)) 0 = (0 : Int) := by rw [e, bz_no (by first | omega | (have hh := t1 (by omega); have hg := t2 (by omega); rw [hh] at *; rw [w_i64 (by omega) (by omega)] at *; omega) | (have hg := t2 (by omega); omega))]; rfl
        have r1 : b2i (decide (0 ≤ blkZ 3 (S.ρ 3))) = (b2i false) := by rw [e, bz_no (by first | omega | (have hh := t1 (by omega); have hg := t2 (by omega); rw [hh] at *; rw [w_i64 (by omega) (by omega)] at *; omega) | (have hg := t2 (by omega); omega))]; rfl
        rw [r0, r1]
        exact symL env gok (ai t_bl3_2 true d2 (ai t_bl3_1 false d1 (ai t_bl3_0 false d0 (AlOk.nil _)))) (hcs0 _) hvs w hI [.int .i64 (0), .bool false] (csT (.lit .i64 0) rfl (csT (.blit false) rfl cs_nil)) (by kernel_rfl) (fun G => by kernel_rfl)
    · have d1 : t_bl3_1.den S = some [b2i true] := tr (p := ((S.ρ 3).tmod (32 : Int)) ≠ (0 : Int)) c1
      have r0 : max (blkZ 3 (S.ρ 3)) 0 = (0 : Int) := by rw [e, bz_no (by first | omega | (have hh := t1 (by omega); have hg := t2 (by omega); rw [hh] at *; rw [w_i64 (by omega) (by omega)] at *; omega) | (have hg := t2 (by omega); omega))]; rfl
      have r1 : b2i (decide (0 ≤ blkZ 3 (S.ρ 3))) = (b2i false) := by rw [e, bz_no (by first | omega | (have hh := t1 (by omega); have hg := t2 (by omega); rw [hh] at *; rw [w_i64 (by omega) (by omega)] at *; omega) | (have hg := t2 (by omega); omega))]; rfl
      rw [r0, r1]
      exact symL env gok (ai t_bl3_1 true d1 (ai t_bl3_0 false d0 (AlOk.nil _))) (hcs0 _) hvs w hI [.int .i64 (0), .bool false] (csT (.lit .i64 0) rfl (csT (.blit false) rfl cs_nil)) (by kernel_rfl) (fun G => by kernel_rfl)
def t_rbl3_0 : Tm := (.bin .eql (.var .i64 3) (.lit .i64 0))
def t_rbl3_1 : Tm := (.bin .eql (.var .i64 3) (.lit .i64 32))
theorem rbl3 (x3 : Int) (w : World) : Calls Try.prog 15 #[.int .i64 3, .int .i64 x3] w fun e w' => e = .returned (bundle (fillP [.one (.int .i64)] [blkZ 3 x3])) ∧ Quiet w w' := by
  obtain ⟨S, hS⟩ : ∃ S : Sy, S = ⟨upd (fun _ => 0) [(3, x3)], fun _ _ => 0, [], fun _ h => by simp at h⟩ := ⟨_, rfl⟩
  have i3 : S.ρ 3 = x3 := by rw [hS]; rfl
  have hI : S.I = [] := by rw [hS]
  have hvs : ∀ G ι, VsOk S G ι [.int .i64 3, vv .i64 3] [.int .i64 3, .int .i64 x3] := fun G ι => (vs_int (vs_sym i3 vs_nil))
  subst i3
  have t1 : 0 ≤ S.ρ 3 → (S.ρ 3).tdiv 32 = S.ρ 3 / 32 := fun h => Int.tdiv_eq_ediv_of_nonneg h
  have t2 : 0 ≤ S.ρ 3 → (S.ρ 3).tmod 32 = S.ρ 3 % 32 := fun h => Int.tmod_eq_emod_of_nonneg h
  have e : blkZ 3 (S.ρ 3) = bz 32 2 (S.ρ 3) := rfl
  by_cases c0 : S.ρ 3 = (0 : Int)
  · have d0 : t_rbl3_0.den S = some [b2i true] := tr (p := S.ρ 3 = (0 : Int)) c0
    have r0 : blkZ 3 (S.ρ 3) = (0 : Int) := by rw [e]; first | (rw [bz_yes (by omega)]; omega) | (rw [bz_no (by omega)])
    rw [r0]
    exact symL env gok (ai t_rbl3_0 true d0 (AlOk.nil _)) (hcs0 _) hvs w hI [.int .i64 (0)] (csT (.lit .i64 0) rfl cs_nil) (by kernel_rfl) (fun G => by kernel_rfl)
  · have d0 : t_rbl3_0.den S = some [b2i false] := fls (p := S.ρ 3 = (0 : Int)) c0
    by_cases c1 : S.ρ 3 = (32 : Int)
    · have d1 : t_rbl3_1.den S = some [b2i true] := tr (p := S.ρ 3 = (32 : Int)) c1
      have r0 : blkZ 3 (S.ρ 3) = (1 : Int) := by rw [e]; first | (rw [bz_yes (by omega)]; omega) | (rw [bz_no (by omega)])
      rw [r0]
      exact symL env gok (ai t_rbl3_1 true d1 (ai t_rbl3_0 false d0 (AlOk.nil _))) (hcs0 _) hvs w hI [.int .i64 (1)] (csT (.lit .i64 1) rfl cs_nil) (by kernel_rfl) (fun G => by kernel_rfl)
    · have d1 : t_rbl3_1.den S = some [b2i false] := fls (p := S.ρ 3 = (32 : Int)) c1
      have r0 : blkZ 3 (S.ρ 3) = (-1 : Int) := by rw [e]; first | (rw [bz_yes (by omega)]; omega) | (rw [bz_no (by omega)])
      rw [r0]
      exact symL env gok (ai t_rbl3_1 false d1 (ai t_rbl3_0 false d0 (AlOk.nil _))) (hcs0 _) hvs w hI [.int .i64 (-1)] (csT (.lit .i64 (-1)) rfl cs_nil) (by kernel_rfl) (fun G => by kernel_rfl)
theorem bl_any (x2 x3 : Int) (hx : -9223372036854775808 ≤ x3 ∧ x3 < 9223372036854775808) (w : World) : Calls Try.prog 11 #[.int .i64 x2, .int .i64 x3] w fun e w' => e = .returned (bundle (fillP [.one (.int .i64), .one .bool] [max (blkZ x2 x3) 0, b2i (decide (0 ≤ blkZ x2 x3))])) ∧ Quiet w w' := by
  by_cases h : x2 < 0 ∨ 3 < x2
  · exact bl_no x2 x3 h w
  rcases (show x2 = 0 ∨ x2 = 1 ∨ x2 = 2 ∨ x2 = 3 from by omega) with rfl | rfl | rfl | rfl
  · exact bl0 x3 hx w
  · exact bl1 x3 hx w
  · exact bl2 x3 hx w
  · exact bl3 x3 hx w
theorem rbl_any (x2 x3 : Int) (w : World) : Calls Try.prog 15 #[.int .i64 x2, .int .i64 x3] w fun e w' => e = .returned (bundle (fillP [.one (.int .i64)] [blkZ x2 x3])) ∧ Quiet w w' := by
  by_cases h : x2 < 0 ∨ 3 < x2
  · exact rbl_no x2 x3 h w
  rcases (show x2 = 0 ∨ x2 = 1 ∨ x2 = 2 ∨ x2 = 3 from by omega) with rfl | rfl | rfl | rfl
  · exact rbl0 x3 w
  · exact rbl1 x3 w
  · exact rbl2 x3 w
  · exact rbl3 x3 w
end Go.Proofs.Ythaibdajbpdkcaa
