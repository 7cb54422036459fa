/-
  Stage 6: ClassBlocks, run with symbols over contracts. Conditions: the numbers fit their kinds.
-/
import Derived.Test.YthaibdajbpdkcaaC2
namespace Go.Proofs.Ythaibdajbpdkcaa
open Go.Ev Go.RowKit
set_option maxRecDepth 100000
def kTB : Tm := .bin .rem (.conv .i64 (.var .u8 0)) (.lit .i64 4)
def nTB (n : Int) : Tm := .bin .rem (.conv .i64 (.var .u8 1)) (.lit .i64 n)
def oTB : Tm := .conv .i64 (.var .u8 2)
def sTB : Tm := .bin .add (.conv .i64 (.bin .rem (.var .u64 3) (.lit .u64 1099511627776))) (.lit .i64 1)
def a7B : Tm := .cons (.var .i64 7) .nil
def aNB (k z : Int) : Tm := .cons (.lit .i64 k) (.cons (.bin .mul (.var .i64 5) (.lit .i64 z)) .nil)
def aOB (k : Int) : Tm := .cons (.lit .i64 k) (.cons (.var .i64 6) .nil)
noncomputable def may7B (a : Nat) : Bool := Nat.beq a a7B.enc
noncomputable def mayB (k z : Int) (a : Nat) : Bool := Nat.beq a (aNB k z).enc || Nat.beq a (aOB k).enc
noncomputable def csB (k z : Int) : List Ctr := [⟨14, [], [pB], 9, yesT⟩, ⟨13, [pI], [pI], 21, may7B⟩, ⟨11, [pI, pI], [pI, pB], 23, mayB k z⟩]
theorem wr_in (x : Int) : -9223372036854775808 ≤ IntKind.i64.wrap x ∧ IntKind.i64.wrap x < 9223372036854775808 := by
  simp only [IntKind.wrap, IntKind.bits, IntKind.signed]
  simp
  split <;> omega
theorem csB_ok (S : Sy) (hΦ : S.Φ = Φ6) (k z : Int) (ok1 : (aNB k z).ok = true) (ok2 : (aOB k).ok = true) (h6 : -9223372036854775808 ≤ S.ρ 6 ∧ S.ρ 6 < 9223372036854775808) (h7 : -9223372036854775808 ≤ S.ρ 7 ∧ S.ρ 7 < 9223372036854775808) : ∀ c ∈ csB k z, CtrOk Try.prog S [] c := by
  obtain ⟨ρ, Φ, I, ok⟩ := S
  change Φ = Φ6 at hΦ
  subst hΦ
  intro c hc
  simp only [csB, List.mem_cons, List.not_mem_nil, or_false] at hc
  rcases hc with rfl | rfl | rfl <;> intro a ns hm he hl w _
  · obtain rfl := len0 (show ns.length = 0 from hl)
    exact awake_any w
  · cases Option.some.inj ((may_args (t := a7B) hm (by kernel_rfl) he).symm.trans (show a7B.den _ = some [ρ 7] from rfl))
    exact pg_any _ h7 w
  · rcases (Bool.or_eq_true _ _).mp (show (Nat.beq a (aNB k z).enc || Nat.beq a (aOB k).enc) = true from hm) with hm | hm
    · cases Option.some.inj ((may_args hm ok1 he).symm.trans (show (aNB k z).den _ = some [k, IntKind.i64.wrap (ρ 5 * z)] from rfl))
      exact bl_any _ _ (wr_in _) w
    · cases Option.some.inj ((may_args hm ok2 he).symm.trans (show (aOB k).den _ = some [k, ρ 6] from rfl))
      exact bl_any _ _ h6 w
def t_blocks0_0 : Tm := (.bin .eql (.app .i64 23 (.cons (.lit .i64 0) (.cons (.bin .mul (.var .i64 5) (.lit .i64 8)) .nil))) (.var .i64 5))
def t_blocks0_1 : Tm := (.appB 24 (.cons (.lit .i64 0) (.cons (.bin .mul (.var .i64 5) (.lit .i64 8)) .nil)))
def t_blocks0_2 : Tm := (.bin .eql (.bin .rem (.var .i64 6) (.lit .i64 8)) (.lit .i64 0))
def t_blocks0_3 : Tm := (.beq (.appB 24 (.cons (.lit .i64 0) (.cons (.var .i64 6) .nil))) (.bin .lss (.bin .quo (.var .i64 6) (.lit .i64 8)) (.lit .i64 8)))
def t_blocks0_4 : Tm := (.not (.appB 24 (.cons (.lit .i64 0) (.cons (.var .i64 6) .nil))))
def t_blocks0_5 : Tm := (.bin .eql (.bin .mul (.app .i64 23 (.cons (.lit .i64 0) (.cons (.var .i64 6) .nil))) (.lit .i64 8)) (.var .i64 6))
def t_blocks0_6 : Tm := (.bin .geq (.bin .mul (.app .i64 21 (.cons (.var .i64 7) .nil)) (.lit .i64 64)) (.var .i64 7))
def t_blocks0_7 : Tm := (.bin .lss (.bin .mul (.bin .sub (.app .i64 21 (.cons (.var .i64 7) .nil)) (.lit .i64 1)) (.lit .i64 64)) (.var .i64 7))
def t_blocks0_8 : Tm := (.beq (.appB 24 (.cons (.lit .i64 0) (.cons (.var .i64 6) .nil))) (.blit false))
theorem blocks0 (x0 : Int) (x1 : Int) (x2 : Int) (x3 : Int) (x5 : Int) (x6 : Int) (x7 : Int) (hk : (IntKind.i64.wrap x0).tmod 4 = 0) (h5 : (IntKind.i64.wrap x1).tmod 8 = x5) (h6 : IntKind.i64.wrap x2 = x6) (h7 : IntKind.i64.wrap (IntKind.i64.wrap (x3.tmod 1099511627776) + 1) = x7) (r5 : 0 ≤ x5 ∧ x5 < 8) (r6 : 0 ≤ x6 ∧ x6 < 256) (r7 : 1 ≤ x7 ∧ x7 ≤ 1099511627776) (w : World) : Calls Try.prog 6 #[.int .u8 x0, .int .u8 x1, .int .u8 x2, .int .u64 x3] w fun e w' => e = .returned (bundle (fillP [.one .bool] [b2i true])) ∧ Quiet w w' := by
  obtain ⟨S, hS⟩ : ∃ S : Sy, S = ⟨upd (fun _ => 0) [(0, x0), (1, x1), (2, x2), (3, x3), (5, x5), (6, x6), (7, x7)], Φ6, [], fun _ h => by simp at h⟩ := ⟨_, rfl⟩
  have i0 : S.ρ 0 = x0 := by rw [hS]; rfl
  have i1 : S.ρ 1 = x1 := by rw [hS]; rfl
  have i2 : S.ρ 2 = x2 := by rw [hS]; rfl
  have i3 : S.ρ 3 = x3 := by rw [hS]; rfl
  have i5 : S.ρ 5 = x5 := by rw [hS]; rfl
  have i6 : S.ρ 6 = x6 := by rw [hS]; rfl
  have i7 : S.ρ 7 = x7 := by rw [hS]; rfl
  have hI : S.I = [] := by rw [hS]
  have hvs : ∀ G ι, VsOk S G ι [vv .u8 0, vv .u8 1, vv .u8 2, vv .u64 3] [.int .u8 x0, .int .u8 x1, .int .u8 x2, .int .u64 x3] := fun G ι => (vs_sym i0 (vs_sym i1 (vs_sym i2 (vs_sym i3 vs_nil))))
  have hΦ : S.Φ = Φ6 := by rw [hS]
  subst i0
  subst i1
  subst i2
  subst i3
  subst i5
  subst i6
  subst i7
  have b0 : IntKind.i64.wrap (S.ρ 5 * 8) = S.ρ 5 * 8 := w_i64 (by omega) (by omega)
  have b1 : S.Φ 23 [(0 : Int), IntKind.i64.wrap (S.ρ 5 * (8 : Int))] = S.ρ 5 := by
    rw [hΦ]; show max (bz 8 8 (IntKind.i64.wrap (S.ρ 5 * 8))) 0 = _; rw [b0, bz_yes (by omega)] <;> omega
  have b2 : S.Φ 24 [(0 : Int), IntKind.i64.wrap (S.ρ 5 * (8 : Int))] = 1 := by
    rw [hΦ]; show b2i (decide (0 ≤ bz 8 8 (IntKind.i64.wrap (S.ρ 5 * 8)))) = _; rw [b0, bz_yes (by omega), decide_eq_true (by omega)] <;> rfl
  have p0 : S.Φ 21 [S.ρ 7] = (S.ρ 7 + 63) / 64 := by rw [hΦ]; exact if_neg (by omega)
  have p1 : IntKind.i64.wrap (S.Φ 21 [S.ρ 7] * 64) = S.Φ 21 [S.ρ 7] * 64 := w_i64 (by omega) (by omega)
  have p2 : IntKind.i64.wrap (S.Φ 21 [S.ρ 7] - 1) = S.Φ 21 [S.ρ 7] - 1 := w_i64 (by omega) (by omega)
  have p3 : IntKind.i64.wrap ((S.Φ 21 [S.ρ 7] - 1) * 64) = (S.Φ 21 [S.ρ 7] - 1) * 64 := w_i64 (by omega) (by omega)
  have t1 : (S.ρ 6).tdiv 8 = S.ρ 6 / 8 := Int.tdiv_eq_ediv_of_nonneg (by omega)
  have t2 : (S.ρ 6).tmod 8 = S.ρ 6 % 8 := Int.tmod_eq_emod_of_nonneg (by omega)
  have t3 : IntKind.i64.wrap ((S.ρ 6).tdiv 8) = S.ρ 6 / 8 := by rw [t1, w_i64 (by omega) (by omega)]
  have b3 : (S.ρ 6 % 8 = 0 ∧ S.ρ 6 / 8 < 8 ∧ S.Φ 23 [(0 : Int), S.ρ 6] = S.ρ 6 / 8 ∧ S.Φ 24 [(0 : Int), S.ρ 6] = 1) ∨ (¬ (S.ρ 6 % 8 = 0 ∧ S.ρ 6 / 8 < 8) ∧ S.Φ 24 [(0 : Int), S.ρ 6] = 0) := by
    by_cases hb : S.ρ 6 % 8 = 0 ∧ S.ρ 6 / 8 < 8
    · refine .inl ⟨hb.1, hb.2, ?_, ?_⟩
      · rw [hΦ]; show max (bz 8 8 (S.ρ 6)) 0 = _; rw [bz_yes (by omega)] <;> omega
      · rw [hΦ]; show b2i (decide (0 ≤ bz 8 8 (S.ρ 6))) = _; rw [bz_yes (by omega), decide_eq_true (by omega)] <;> rfl
    · refine .inr ⟨hb, ?_⟩
      rw [hΦ]; show b2i (decide (0 ≤ bz 8 8 (S.ρ 6))) = _; rw [bz_no (by omega)] <;> rfl
  have m1 : IntKind.i64.wrap (S.Φ 23 [(0 : Int), S.ρ 6] * 8) = S.Φ 23 [(0 : Int), S.ρ 6] * 8 ∨ S.Φ 24 [(0 : Int), S.ρ 6] = 0 := by
    rcases b3 with b | b
    · exact .inl (w_i64 (by omega) (by omega))
    · exact .inr b.2
  have c0 : (S.Φ 23 [(0 : Int), (IntKind.i64.wrap (S.ρ 5 * (8 : Int)))]) = S.ρ 5 := by first | (rw [b1]; done) | omega | (rw [p2, p3]; omega) | (rw [p1]; omega) | (rcases m1 with m | m <;> rcases b3 with b | b <;> first | omega | (rw [m]; omega)) | (rcases b3 with b | b <;> rw [t3] <;> first | (rw [b.2.2.2, decide_eq_true (show S.ρ 6 / 8 < 8 from b.2.1)]; rfl) | (rw [b.2, decide_eq_false (show ¬ S.ρ 6 / 8 < 8 by omega)]; rfl) | (exfalso; omega))
  have d0 : t_blocks0_0.den S = some [b2i true] := tr (p := (S.Φ 23 [(0 : Int), (IntKind.i64.wrap (S.ρ 5 * (8 : Int)))]) = S.ρ 5) c0
  have c1 : S.Φ 24 [(0 : Int), (IntKind.i64.wrap (S.ρ 5 * (8 : Int)))] ≠ 0 := by first | (rw [b1]; done) | omega | (rw [p2, p3]; omega) | (rw [p1]; omega) | (rcases m1 with m | m <;> rcases b3 with b | b <;> first | omega | (rw [m]; omega)) | (rcases b3 with b | b <;> rw [t3] <;> first | (rw [b.2.2.2, decide_eq_true (show S.ρ 6 / 8 < 8 from b.2.1)]; rfl) | (rw [b.2, decide_eq_false (show ¬ S.ρ 6 / 8 < 8 by omega)]; rfl) | (exfalso; omega))
  have d1 : t_blocks0_1.den S = some [b2i true] := tr (p := S.Φ 24 [(0 : Int), (IntKind.i64.wrap (S.ρ 5 * (8 : Int)))] ≠ 0) c1
  by_cases c2 : ((S.ρ 6).tmod (8 : Int)) = (0 : Int)
  · have d2 : t_blocks0_2.den S = some [b2i true] := tr (p := ((S.ρ 6).tmod (8 : Int)) = (0 : Int)) c2
    have c3 : (b2i (decide (S.Φ 24 [(0 : Int), S.ρ 6] ≠ 0))) = (b2i (decide ((IntKind.i64.wrap ((S.ρ 6).tdiv (8 : Int))) < (8 : Int)))) := by first | (rw [b1]; done) | omega | (rw [p2, p3]; omega) | (rw [p1]; omega) | (rcases m1 with m | m <;> rcases b3 with b | b <;> first | omega | (rw [m]; omega)) | (rcases b3 with b | b <;> rw [t3] <;> first | (rw [b.2.2.2, decide_eq_true (show S.ρ 6 / 8 < 8 from b.2.1)]; rfl) | (rw [b.2, decide_eq_false (show ¬ S.ρ 6 / 8 < 8 by omega)]; rfl) | (exfalso; omega))
    have d3 : t_blocks0_3.den S = some [b2i true] := tr (p := (b2i (decide (S.Φ 24 [(0 : Int), S.ρ 6] ≠ 0))) = (b2i (decide ((IntKind.i64.wrap ((S.ρ 6).tdiv (8 : Int))) < (8 : Int))))) c3
    by_cases c4 : S.Φ 24 [(0 : Int), S.ρ 6] ≠ 0
    · have d4 : t_blocks0_4.den S = some [b2i false] := fls (p := (b2i (decide (S.Φ 24 [(0 : Int), S.ρ 6] ≠ 0))) = 0) (by rw [decide_eq_true c4] <;> decide)
      have c5 : (IntKind.i64.wrap ((S.Φ 23 [(0 : Int), S.ρ 6]) * (8 : Int))) = S.ρ 6 := by first | (rw [b1]; done) | omega | (rw [p2, p3]; omega) | (rw [p1]; omega) | (rcases m1 with m | m <;> rcases b3 with b | b <;> first | omega | (rw [m]; omega)) | (rcases b3 with b | b <;> rw [t3] <;> first | (rw [b.2.2.2, decide_eq_true (show S.ρ 6 / 8 < 8 from b.2.1)]; rfl) | (rw [b.2, decide_eq_false (show ¬ S.ρ 6 / 8 < 8 by omega)]; rfl) | (exfalso; omega))
      have d5 : t_blocks0_5.den S = some [b2i true] := tr (p := (IntKind.i64.wrap ((S.Φ 23 [(0 : Int), S.ρ 6]) * (8 : Int))) = S.ρ 6) c5
      have c6 : ¬ ((IntKind.i64.wrap ((S.Φ 21 [S.ρ 7]) * (64 : Int))) < S.ρ 7) := by first | (rw [b1]; done) | omega | (rw [p2, p3]; omega) | (rw [p1]; omega) | (rcases m1 with m | m <;> rcases b3 with b | b <;> first | omega | (rw [m]; omega)) | (rcases b3 with b | b <;> rw [t3] <;> first | (rw [b.2.2.2, decide_eq_true (show S.ρ 6 / 8 < 8 from b.2.1)]; rfl) | (rw [b.2, decide_eq_false (show ¬ S.ρ 6 / 8 < 8 by omega)]; rfl) | (exfalso; omega))
      have d6 : t_blocks0_6.den S = some [b2i true] := tr (p := S.ρ 7 ≤ (IntKind.i64.wrap ((S.Φ 21 [S.ρ 7]) * (64 : Int)))) (Int.not_lt.1 c6)
      have c7 : (IntKind.i64.wrap ((IntKind.i64.wrap ((S.Φ 21 [S.ρ 7]) - (1 : Int))) * (64 : Int))) < S.ρ 7 := by first | (rw [b1]; done) | omega | (rw [p2, p3]; omega) | (rw [p1]; omega) | (rcases m1 with m | m <;> rcases b3 with b | b <;> first | omega | (rw [m]; omega)) | (rcases b3 with b | b <;> rw [t3] <;> first | (rw [b.2.2.2, decide_eq_true (show S.ρ 6 / 8 < 8 from b.2.1)]; rfl) | (rw [b.2, decide_eq_false (show ¬ S.ρ 6 / 8 < 8 by omega)]; rfl) | (exfalso; omega))
      have d7 : t_blocks0_7.den S = some [b2i true] := tr (p := (IntKind.i64.wrap ((IntKind.i64.wrap ((S.Φ 21 [S.ρ 7]) - (1 : Int))) * (64 : Int))) < S.ρ 7) c7
      have r0 : b2i true = (b2i (decide (S.Φ 9 [] ≠ 0))) := by rw [hΦ]; rfl
      rw [r0]
      exact symL env gok (ai t_blocks0_7 true d7 (ai t_blocks0_6 true d6 (ai t_blocks0_5 true d5 (ai t_blocks0_4 false d4 (ai t_blocks0_3 true d3 (ai t_blocks0_2 true d2 (ai t_blocks0_1 true d1 (ai t_blocks0_0 true d0 (ain kTB .i64 0 (sm hk) (al_nm (nTB 8) (.var .i64 5) (by kernel_rfl) (sm h5) rfl (al_nm oTB (.var .i64 6) (by kernel_rfl) (sm h6) rfl (al_nm sTB (.var .i64 7) (by kernel_rfl) (sm h7) rfl (AlOk.nil _))))))))))))) (csB_ok S hΦ 0 8 (by kernel_rfl) (by kernel_rfl) (by omega) (by omega)) hvs w hI [.float .f64 ((.appB 9 .nil) : Tm).enc] (csT (.appB 9 .nil) rfl cs_nil) (by kernel_rfl) (fun G => by kernel_rfl)
    · have d4 : t_blocks0_4.den S = some [b2i true] := tr (p := (b2i (decide (S.Φ 24 [(0 : Int), S.ρ 6] ≠ 0))) = 0) (by rw [decide_eq_false c4] <;> decide)
      have c5 : ¬ ((IntKind.i64.wrap ((S.Φ 21 [S.ρ 7]) * (64 : Int))) < S.ρ 7) := by first | (rw [b1]; done) | omega | (rw [p2, p3]; omega) | (rw [p1]; omega) | (rcases m1 with m | m <;> rcases b3 with b | b <;> first | omega | (rw [m]; omega)) | (rcases b3 with b | b <;> rw [t3] <;> first | (rw [b.2.2.2, decide_eq_true (show S.ρ 6 / 8 < 8 from b.2.1)]; rfl) | (rw [b.2, decide_eq_false (show ¬ S.ρ 6 / 8 < 8 by omega)]; rfl) | (exfalso; omega))
      have d5 : t_blocks0_6.den S = some [b2i true] := tr (p := S.ρ 7 ≤ (IntKind.i64.wrap ((S.Φ 21 [S.ρ 7]) * (64 : Int)))) (Int.not_lt.1 c5)
      have c6 : (IntKind.i64.wrap ((IntKind.i64.wrap ((S.Φ 21 [S.ρ 7]) - (1 : Int))) * (64 : Int))) < S.ρ 7 := by first | (rw [b1]; done) | omega | (rw [p2, p3]; omega) | (rw [p1]; omega) | (rcases m1 with m | m <;> rcases b3 with b | b <;> first | omega | (rw [m]; omega)) | (rcases b3 with b | b <;> rw [t3] <;> first | (rw [b.2.2.2, decide_eq_true (show S.ρ 6 / 8 < 8 from b.2.1)]; rfl) | (rw [b.2, decide_eq_false (show ¬ S.ρ 6 / 8 < 8 by omega)]; rfl) | (exfalso; omega))
      have d6 : t_blocks0_7.den S = some [b2i true] := tr (p := (IntKind.i64.wrap ((IntKind.i64.wrap ((S.Φ 21 [S.ρ 7]) - (1 : Int))) * (64 : Int))) < S.ρ 7) c6
      have r0 : b2i true = (b2i (decide (S.Φ 9 [] ≠ 0))) := by rw [hΦ]; rfl
      rw [r0]
      exact symL env gok (ai t_blocks0_7 true d6 (ai t_blocks0_6 true d5 (ai t_blocks0_4 true d4 (ai t_blocks0_3 true d3 (ai t_blocks0_2 true d2 (ai t_blocks0_1 true d1 (ai t_blocks0_0 true d0 (ain kTB .i64 0 (sm hk) (al_nm (nTB 8) (.var .i64 5) (by kernel_rfl) (sm h5) rfl (al_nm oTB (.var .i64 6) (by kernel_rfl) (sm h6) rfl (al_nm sTB (.var .i64 7) (by kernel_rfl) (sm h7) rfl (AlOk.nil _)))))))))))) (csB_ok S hΦ 0 8 (by kernel_rfl) (by kernel_rfl) (by omega) (by omega)) hvs w hI [.float .f64 ((.appB 9 .nil) : Tm).enc] (csT (.appB 9 .nil) rfl cs_nil) (by kernel_rfl) (fun G => by kernel_rfl)
  · have d2 : t_blocks0_2.den S = some [b2i false] := fls (p := ((S.ρ 6).tmod (8 : Int)) = (0 : Int)) c2
    have c3 : ¬ (S.Φ 24 [(0 : Int), S.ρ 6] ≠ 0) := by first | (rw [b1]; done) | omega | (rw [p2, p3]; omega) | (rw [p1]; omega) | (rcases m1 with m | m <;> rcases b3 with b | b <;> first | omega | (rw [m]; omega)) | (rcases b3 with b | b <;> rw [t3] <;> first | (rw [b.2.2.2, decide_eq_true (show S.ρ 6 / 8 < 8 from b.2.1)]; rfl) | (rw [b.2, decide_eq_false (show ¬ S.ρ 6 / 8 < 8 by omega)]; rfl) | (exfalso; omega))
    have d3 : t_blocks0_8.den S = some [b2i true] := tr (p := (b2i (decide (S.Φ 24 [(0 : Int), S.ρ 6] ≠ 0))) = (b2i false)) (by rw [decide_eq_false c3] <;> decide)
    have d4 : t_blocks0_4.den S = some [b2i true] := tr (p := (b2i (decide (S.Φ 24 [(0 : Int), S.ρ 6] ≠ 0))) = 0) (by rw [decide_eq_false c3] <;> decide)
    have c5 : ¬ ((IntKind.i64.wrap ((S.Φ 21 [S.ρ 7]) * (64 : Int))) < S.ρ 7) := by first | (rw [b1]; done) | omega | (rw [p2, p3]; omega) | (rw [p1]; omega) | (rcases m1 with m | m <;> rcases b3 with b | b <;> first | omega | (rw [m]; omega)) | (rcases b3 with b | b <;> rw [t3] <;> first | (rw [b.2.2.2, decide_eq_true (show S.ρ 6 / 8 < 8 from b.2.1)]; rfl) | (rw [b.2, decide_eq_false (show ¬ S.ρ 6 / 8 < 8 by omega)]; rfl) | (exfalso; omega))
    have d5 : t_blocks0_6.den S = some [b2i true] := tr (p := S.ρ 7 ≤ (IntKind.i64.wrap ((S.Φ 21 [S.ρ 7]) * (64 : Int)))) (Int.not_lt.1 c5)
    have c6 : (IntKind.i64.wrap ((IntKind.i64.wrap ((S.Φ 21 [S.ρ 7]) - (1 : Int))) * (64 : Int))) < S.ρ 7 := by first | (rw [b1]; done) | omega | (rw [p2, p3]; omega) | (rw [p1]; omega) | (rcases m1 with m | m <;> rcases b3 with b | b <;> first | omega | (rw [m]; omega)) | (rcases b3 with b | b <;> rw [t3] <;> first | (rw [b.2.2.2, decide_eq_true (show S.ρ 6 / 8 < 8 from b.2.1)]; rfl) | (rw [b.2, decide_eq_false (show ¬ S.ρ 6 / 8 < 8 by omega)]; rfl) | (exfalso; omega))
    have d6 : t_blocks0_7.den S = some [b2i true] := tr (p := (IntKind.i64.wrap ((IntKind.i64.wrap ((S.Φ 21 [S.ρ 7]) - (1 : Int))) * (64 : Int))) < S.ρ 7) c6
    have r0 : b2i true = (b2i (decide (S.Φ 9 [] ≠ 0))) := by rw [hΦ]; rfl
    rw [r0]
    exact symL env gok (ai t_blocks0_7 true d6 (ai t_blocks0_6 true d5 (ai t_blocks0_4 true d4 (ai t_blocks0_8 true d3 (ai t_blocks0_2 false d2 (ai t_blocks0_1 true d1 (ai t_blocks0_0 true d0 (ain kTB .i64 0 (sm hk) (al_nm (nTB 8) (.var .i64 5) (by kernel_rfl) (sm h5) rfl (al_nm oTB (.var .i64 6) (by kernel_rfl) (sm h6) rfl (al_nm sTB (.var .i64 7) (by kernel_rfl) (sm h7) rfl (AlOk.nil _)))))))))))) (csB_ok S hΦ 0 8 (by kernel_rfl) (by kernel_rfl) (by omega) (by omega)) hvs w hI [.float .f64 ((.appB 9 .nil) : Tm).enc] (csT (.appB 9 .nil) rfl cs_nil) (by kernel_rfl) (fun G => by kernel_rfl)
def t_blocks1_0 : Tm := (.bin .eql (.app .i64 23 (.cons (.lit .i64 1) (.cons (.bin .mul (.var .i64 5) (.lit .i64 16)) .nil))) (.var .i64 5))
def t_blocks1_1 : Tm := (.appB 24 (.cons (.lit .i64 1) (.cons (.bin .mul (.var .i64 5) (.lit .i64 16)) .nil)))
def t_blocks1_2 : Tm := (.bin .eql (.bin .rem (.var .i64 6) (.lit .i64 16)) (.lit .i64 0))
def t_blocks1_3 : Tm := (.beq (.appB 24 (.cons (.lit .i64 1) (.cons (.var .i64 6) .nil))) (.bin .lss (.bin .quo (.var .i64 6) (.lit .i64 16)) (.lit .i64 4)))
def t_blocks1_4 : Tm := (.not (.appB 24 (.cons (.lit .i64 1) (.cons (.var .i64 6) .nil))))
def t_blocks1_5 : Tm := (.bin .eql (.bin .mul (.app .i64 23 (.cons (.lit .i64 1) (.cons (.var .i64 6) .nil))) (.lit .i64 16)) (.var .i64 6))
def t_blocks1_6 : Tm := (.bin .geq (.bin .mul (.app .i64 21 (.cons (.var .i64 7) .nil)) (.lit .i64 64)) (.var .i64 7))
def t_blocks1_7 : Tm := (.bin .lss (.bin .mul (.bin .sub (.app .i64 21 (.cons (.var .i64 7) .nil)) (.lit .i64 1)) (.lit .i64 64)) (.var .i64 7))
def t_blocks1_8 : Tm := (.beq (.appB 24 (.cons (.lit .i64 1) (.cons (.var .i64 6) .nil))) (.blit false))
theorem blocks1 (x0 : Int) (x1 : Int) (x2 : Int) (x3 : Int) (x5 : Int) (x6 : Int) (x7 : Int) (hk : (IntKind.i64.wrap x0).tmod 4 = 1) (h5 : (IntKind.i64.wrap x1).tmod 4 = x5) (h6 : IntKind.i64.wrap x2 = x6) (h7 : IntKind.i64.wrap (IntKind.i64.wrap (x3.tmod 1099511627776) + 1) = x7) (r5 : 0 ≤ x5 ∧ x5 < 4) (r6 : 0 ≤ x6 ∧ x6 < 256) (r7 : 1 ≤ x7 ∧ x7 ≤ 1099511627776) (w : World) : Calls Try.prog 6 #[.int .u8 x0, .int .u8 x1, .int .u8 x2, .int .u64 x3] w fun e w' => e = .returned (bundle (fillP [.one .bool] [b2i true])) ∧ Quiet w w' := by
  obtain ⟨S, hS⟩ : ∃ S : Sy, S = ⟨upd (fun _ => 0) [(0, x0), (1, x1), (2, x2), (3, x3), (5, x5), (6, x6), (7, x7)], Φ6, [], fun _ h => by simp at h⟩ := ⟨_, rfl⟩
  have i0 : S.ρ 0 = x0 := by rw [hS]; rfl
  have i1 : S.ρ 1 = x1 := by rw [hS]; rfl
  have i2 : S.ρ 2 = x2 := by rw [hS]; rfl
  have i3 : S.ρ 3 = x3 := by rw [hS]; rfl
  have i5 : S.ρ 5 = x5 := by rw [hS]; rfl
  have i6 : S.ρ 6 = x6 := by rw [hS]; rfl
  have i7 : S.ρ 7 = x7 := by rw [hS]; rfl
  have hI : S.I = [] := by rw [hS]
  have hvs : ∀ G ι, VsOk S G ι [vv .u8 0, vv .u8 1, vv .u8 2, vv .u64 3] [.int .u8 x0, .int .u8 x1, .int .u8 x2, .int .u64 x3] := fun G ι => (vs_sym i0 (vs_sym i1 (vs_sym i2 (vs_sym i3 vs_nil))))
  have hΦ : S.Φ = Φ6 := by rw [hS]
  subst i0
  subst i1
  subst i2
  subst i3
  subst i5
  subst i6
  subst i7
  have b0 : IntKind.i64.wrap (S.ρ 5 * 16) = S.ρ 5 * 16 := w_i64 (by omega) (by omega)
  have b1 : S.Φ 23 [(1 : Int), IntKind.i64.wrap (S.ρ 5 * (16 : Int))] = S.ρ 5 := by
    rw [hΦ]; show max (bz 16 4 (IntKind.i64.wrap (S.ρ 5 * 16))) 0 = _; rw [b0, bz_yes (by omega)] <;> omega
  have b2 : S.Φ 24 [(1 : Int), IntKind.i64.wrap (S.ρ 5 * (16 : Int))] = 1 := by
    rw [hΦ]; show b2i (decide (0 ≤ bz 16 4 (IntKind.i64.wrap (S.ρ 5 * 16)))) = _; rw [b0, bz_yes (by omega), decide_eq_true (by omega)] <;> rfl
  have p0 : S.Φ 21 [S.ρ 7] = (S.ρ 7 + 63) / 64 := by rw [hΦ]; exact if_neg (by omega)
  have p1 : IntKind.i64.wrap (S.Φ 21 [S.ρ 7] * 64) = S.Φ 21 [S.ρ 7] * 64 := w_i64 (by omega) (by omega)
  have p2 : IntKind.i64.wrap (S.Φ 21 [S.ρ 7] - 1) = S.Φ 21 [S.ρ 7] - 1 := w_i64 (by omega) (by omega)
  have p3 : IntKind.i64.wrap ((S.Φ 21 [S.ρ 7] - 1) * 64) = (S.Φ 21 [S.ρ 7] - 1) * 64 := w_i64 (by omega) (by omega)
  have t1 : (S.ρ 6).tdiv 16 = S.ρ 6 / 16 := Int.tdiv_eq_ediv_of_nonneg (by omega)
  have t2 : (S.ρ 6).tmod 16 = S.ρ 6 % 16 := Int.tmod_eq_emod_of_nonneg (by omega)
  have t3 : IntKind.i64.wrap ((S.ρ 6).tdiv 16) = S.ρ 6 / 16 := by rw [t1, w_i64 (by omega) (by omega)]
  have b3 : (S.ρ 6 % 16 = 0 ∧ S.ρ 6 / 16 < 4 ∧ S.Φ 23 [(1 : Int), S.ρ 6] = S.ρ 6 / 16 ∧ S.Φ 24 [(1 : Int), S.ρ 6] = 1) ∨ (¬ (S.ρ 6 % 16 = 0 ∧ S.ρ 6 / 16 < 4) ∧ S.Φ 24 [(1 : Int), S.ρ 6] = 0) := by
    by_cases hb : S.ρ 6 % 16 = 0 ∧ S.ρ 6 / 16 < 4
    · refine .inl ⟨hb.1, hb.2, ?_, ?_⟩
      · rw [hΦ]; show max (bz 16 4 (S.ρ 6)) 0 = _; rw [bz_yes (by omega)] <;> omega
      · rw [hΦ]; show b2i (decide (0 ≤ bz 16 4 (S.ρ 6))) = _; rw [bz_yes (by omega), decide_eq_true (by omega)] <;> rfl
    · refine .inr ⟨hb, ?_⟩
      rw [hΦ]; show b2i (decide (0 ≤ bz 16 4 (S.ρ 6))) = _; rw [bz_no (by omega)] <;> rfl
  have m1 : IntKind.i64.wrap (S.Φ 23 [(1 : Int), S.ρ 6] * 16) = S.Φ 23 [(1 : Int), S.ρ 6] * 16 ∨ S.Φ 24 [(1 : Int), S.ρ 6] = 0 := by
    rcases b3 with b | b
    · exact .inl (w_i64 (by omega) (by omega))
    · exact .inr b.2
  have c0 : (S.Φ 23 [(1 : Int), (IntKind.i64.wrap (S.ρ 5 * (16 : Int)))]) = S.ρ 5 := by first | (rw [b1]; done) | omega | (rw [p2, p3]; omega) | (rw [p1]; omega) | (rcases m1 with m | m <;> rcases b3 with b | b <;> first | omega | (rw [m]; omega)) | (rcases b3 with b | b <;> rw [t3] <;> first | (rw [b.2.2.2, decide_eq_true (show S.ρ 6 / 16 < 4 from b.2.1)]; rfl) | (rw [b.2, decide_eq_false (show ¬ S.ρ 6 / 16 < 4 by omega)]; rfl) | (exfalso; omega))
  have d0 : t_blocks1_0.den S = some [b2i true] := tr (p := (S.Φ 23 [(1 : Int), (IntKind.i64.wrap (S.ρ 5 * (16 : Int)))]) = S.ρ 5) c0
  have c1 : S.Φ 24 [(1 : Int), (IntKind.i64.wrap (S.ρ 5 * (16 : Int)))] ≠ 0 := by first | (rw [b1]; done) | omega | (rw [p2, p3]; omega) | (rw [p1]; omega) | (rcases m1 with m | m <;> rcases b3 with b | b <;> first | omega | (rw [m]; omega)) | (rcases b3 with b | b <;> rw [t3] <;> first | (rw [b.2.2.2, decide_eq_true (show S.ρ 6 / 16 < 4 from b.2.1)]; rfl) | (rw [b.2, decide_eq_false (show ¬ S.ρ 6 / 16 < 4 by omega)]; rfl) | (exfalso; omega))
  have d1 : t_blocks1_1.den S = some [b2i true] := tr (p := S.Φ 24 [(1 : Int), (IntKind.i64.wrap (S.ρ 5 * (16 : Int)))] ≠ 0) c1
  by_cases c2 : ((S.ρ 6).tmod (16 : Int)) = (0 : Int)
  · have d2 : t_blocks1_2.den S = some [b2i true] := tr (p := ((S.ρ 6).tmod (16 : Int)) = (0 : Int)) c2
    have c3 : (b2i (decide (S.Φ 24 [(1 : Int), S.ρ 6] ≠ 0))) = (b2i (decide ((IntKind.i64.wrap ((S.ρ 6).tdiv (16 : Int))) < (4 : Int)))) := by first | (rw [b1]; done) | omega | (rw [p2, p3]; omega) | (rw [p1]; omega) | (rcases m1 with m | m <;> rcases b3 with b | b <;> first | omega | (rw [m]; omega)) | (rcases b3 with b | b <;> rw [t3] <;> first | (rw [b.2.2.2, decide_eq_true (show S.ρ 6 / 16 < 4 from b.2.1)]; rfl) | (rw [b.2, decide_eq_false (show ¬ S.ρ 6 / 16 < 4 by omega)]; rfl) | (exfalso; omega))
    have d3 : t_blocks1_3.den S = some [b2i true] := tr (p := (b2i (decide (S.Φ 24 [(1 : Int), S.ρ 6] ≠ 0))) = (b2i (decide ((IntKind.i64.wrap ((S.ρ 6).tdiv (16 : Int))) < (4 : Int))))) c3
    by_cases c4 : S.Φ 24 [(1 : Int), S.ρ 6] ≠ 0
    · have d4 : t_blocks1_4.den S = some [b2i false] := fls (p := (b2i (decide (S.Φ 24 [(1 : Int), S.ρ 6] ≠ 0))) = 0) (by rw [decide_eq_true c4] <;> decide)
      have c5 : (IntKind.i64.wrap ((S.Φ 23 [(1 : Int), S.ρ 6]) * (16 : Int))) = S.ρ 6 := by first | (rw [b1]; done) | omega | (rw [p2, p3]; omega) | (rw [p1]; omega) | (rcases m1 with m | m <;> rcases b3 with b | b <;> first | omega | (rw [m]; omega)) | (rcases b3 with b | b <;> rw [t3] <;> first | (rw [b.2.2.2, decide_eq_true (show S.ρ 6 / 16 < 4 from b.2.1)]; rfl) | (rw [b.2, decide_eq_false (show ¬ S.ρ 6 / 16 < 4 by omega)]; rfl) | (exfalso; omega))
      have d5 : t_blocks1_5.den S = some [b2i true] := tr (p := (IntKind.i64.wrap ((S.Φ 23 [(1 : Int), S.ρ 6]) * (16 : Int))) = S.ρ 6) c5
      have c6 : ¬ ((IntKind.i64.wrap ((S.Φ 21 [S.ρ 7]) * (64 : Int))) < S.ρ 7) := by first | (rw [b1]; done) | omega | (rw [p2, p3]; omega) | (rw [p1]; omega) | (rcases m1 with m | m <;> rcases b3 with b | b <;> first | omega | (rw [m]; omega)) | (rcases b3 with b | b <;> rw [t3] <;> first | (rw [b.2.2.2, decide_eq_true (show S.ρ 6 / 16 < 4 from b.2.1)]; rfl) | (rw [b.2, decide_eq_false (show ¬ S.ρ 6 / 16 < 4 by omega)]; rfl) | (exfalso; omega))
      have d6 : t_blocks1_6.den S = some [b2i true] := tr (p := S.ρ 7 ≤ (IntKind.i64.wrap ((S.Φ 21 [S.ρ 7]) * (64 : Int)))) (Int.not_lt.1 c6)
      have c7 : (IntKind.i64.wrap ((IntKind.i64.wrap ((S.Φ 21 [S.ρ 7]) - (1 : Int))) * (64 : Int))) < S.ρ 7 := by first | (rw [b1]; done) | omega | (rw [p2, p3]; omega) | (rw [p1]; omega) | (rcases m1 with m | m <;> rcases b3 with b | b <;> first | omega | (rw [m]; omega)) | (rcases b3 with b | b <;> rw [t3] <;> first | (rw [b.2.2.2, decide_eq_true (show S.ρ 6 / 16 < 4 from b.2.1)]; rfl) | (rw [b.2, decide_eq_false (show ¬ S.ρ 6 / 16 < 4 by omega)]; rfl) | (exfalso; omega))
      have d7 : t_blocks1_7.den S = some [b2i true] := tr (p := (IntKind.i64.wrap ((IntKind.i64.wrap ((S.Φ 21 [S.ρ 7]) - (1 : Int))) * (64 : Int))) < S.ρ 7) c7
      have r0 : b2i true = (b2i (decide (S.Φ 9 [] ≠ 0))) := by rw [hΦ]; rfl
      rw [r0]
      exact symL env gok (ai t_blocks1_7 true d7 (ai t_blocks1_6 true d6 (ai t_blocks1_5 true d5 (ai t_blocks1_4 false d4 (ai t_blocks1_3 true d3 (ai t_blocks1_2 true d2 (ai t_blocks1_1 true d1 (ai t_blocks1_0 true d0 (ain kTB .i64 1 (sm hk) (al_nm (nTB 4) (.var .i64 5) (by kernel_rfl) (sm h5) rfl (al_nm oTB (.var .i64 6) (by kernel_rfl) (sm h6) rfl (al_nm sTB (.var .i64 7) (by kernel_rfl) (sm h7) rfl (AlOk.nil _))))))))))))) (csB_ok S hΦ 1 16 (by kernel_rfl) (by kernel_rfl) (by omega) (by omega)) hvs w hI [.float .f64 ((.appB 9 .nil) : Tm).enc] (csT (.appB 9 .nil) rfl cs_nil) (by kernel_rfl) (fun G => by kernel_rfl)
    · have d4 : t_blocks1_4.den S = some [b2i true] := tr (p := (b2i (decide (S.Φ 24 [(1 : Int), S.ρ 6] ≠ 0))) = 0) (by rw [decide_eq_false c4] <;> decide)
      have c5 : ¬ ((IntKind.i64.wrap ((S.Φ 21 [S.ρ 7]) * (64 : Int))) < S.ρ 7) := by first | (rw [b1]; done) | omega | (rw [p2, p3]; omega) | (rw [p1]; omega) | (rcases m1 with m | m <;> rcases b3 with b | b <;> first | omega | (rw [m]; omega)) | (rcases b3 with b | b <;> rw [t3] <;> first | (rw [b.2.2.2, decide_eq_true (show S.ρ 6 / 16 < 4 from b.2.1)]; rfl) | (rw [b.2, decide_eq_false (show ¬ S.ρ 6 / 16 < 4 by omega)]; rfl) | (exfalso; omega))
      have d5 : t_blocks1_6.den S = some [b2i true] := tr (p := S.ρ 7 ≤ (IntKind.i64.wrap ((S.Φ 21 [S.ρ 7]) * (64 : Int)))) (Int.not_lt.1 c5)
      have c6 : (IntKind.i64.wrap ((IntKind.i64.wrap ((S.Φ 21 [S.ρ 7]) - (1 : Int))) * (64 : Int))) < S.ρ 7 := by first | (rw [b1]; done) | omega | (rw [p2, p3]; omega) | (rw [p1]; omega) | (rcases m1 with m | m <;> rcases b3 with b | b <;> first | omega | (rw [m]; omega)) | (rcases b3 with b | b <;> rw [t3] <;> first | (rw [b.2.2.2, decide_eq_true (show S.ρ 6 / 16 < 4 from b.2.1)]; rfl) | (rw [b.2, decide_eq_false (show ¬ S.ρ 6 / 16 < 4 by omega)]; rfl) | (exfalso; omega))
      have d6 : t_blocks1_7.den S = some [b2i true] := tr (p := (IntKind.i64.wrap ((IntKind.i64.wrap ((S.Φ 21 [S.ρ 7]) - (1 : Int))) * (64 : Int))) < S.ρ 7) c6
      have r0 : b2i true = (b2i (decide (S.Φ 9 [] ≠ 0))) := by rw [hΦ]; rfl
      rw [r0]
      exact symL env gok (ai t_blocks1_7 true d6 (ai t_blocks1_6 true d5 (ai t_blocks1_4 true d4 (ai t_blocks1_3 true d3 (ai t_blocks1_2 true d2 (ai t_blocks1_1 true d1 (ai t_blocks1_0 true d0 (ain kTB .i64 1 (sm hk) (al_nm (nTB 4) (.var .i64 5) (by kernel_rfl) (sm h5) rfl (al_nm oTB (.var .i64 6) (by kernel_rfl) (sm h6) rfl (al_nm sTB (.var .i64 7) (by kernel_rfl) (sm h7) rfl (AlOk.nil _)))))))))))) (csB_ok S hΦ 1 16 (by kernel_rfl) (by kernel_rfl) (by omega) (by omega)) hvs w hI [.float .f64 ((.appB 9 .nil) : Tm).enc] (csT (.appB 9 .nil) rfl cs_nil) (by kernel_rfl) (fun G => by kernel_rfl)
  · have d2 : t_blocks1_2.den S = some [b2i false] := fls (p := ((S.ρ 6).tmod (16 : Int)) = (0 : Int)) c2
    have c3 : ¬ (S.Φ 24 [(1 : Int), S.ρ 6] ≠ 0) := by first | (rw [b1]; done) | omega | (rw [p2, p3]; omega) | (rw [p1]; omega) | (rcases m1 with m | m <;> rcases b3 with b | b <;> first | omega | (rw [m]; omega)) | (rcases b3 with b | b <;> rw [t3] <;> first | (rw [b.2.2.2, decide_eq_true (show S.ρ 6 / 16 < 4 from b.2.1)]; rfl) | (rw [b.2, decide_eq_false (show ¬ S.ρ 6 / 16 < 4 by omega)]; rfl) | (exfalso; omega))
    have d3 : t_blocks1_8.den S = some [b2i true] := tr (p := (b2i (decide (S.Φ 24 [(1 : Int), S.ρ 6] ≠ 0))) = (b2i false)) (by rw [decide_eq_false c3] <;> decide)
    have d4 : t_blocks1_4.den S = some [b2i true] := tr (p := (b2i (decide (S.Φ 24 [(1 : Int), S.ρ 6] ≠ 0))) = 0) (by rw [decide_eq_false c3] <;> decide)
    have c5 : ¬ ((IntKind.i64.wrap ((S.Φ 21 [S.ρ 7]) * (64 : Int))) < S.ρ 7) := by first | (rw [b1]; done) | omega | (rw [p2, p3]; omega) | (rw [p1]; omega) | (rcases m1 with m | m <;> rcases b3 with b | b <;> first | omega | (rw [m]; omega)) | (rcases b3 with b | b <;> rw [t3] <;> first | (rw [b.2.2.2, decide_eq_true (show S.ρ 6 / 16 < 4 from b.2.1)]; rfl) | (rw [b.2, decide_eq_false (show ¬ S.ρ 6 / 16 < 4 by omega)]; rfl) | (exfalso; omega))
    have d5 : t_blocks1_6.den S = some [b2i true] := tr (p := S.ρ 7 ≤ (IntKind.i64.wrap ((S.Φ 21 [S.ρ 7]) * (64 : Int)))) (Int.not_lt.1 c5)
    have c6 : (IntKind.i64.wrap ((IntKind.i64.wrap ((S.Φ 21 [S.ρ 7]) - (1 : Int))) * (64 : Int))) < S.ρ 7 := by first | (rw [b1]; done) | omega | (rw [p2, p3]; omega) | (rw [p1]; omega) | (rcases m1 with m | m <;> rcases b3 with b | b <;> first | omega | (rw [m]; omega)) | (rcases b3 with b | b <;> rw [t3] <;> first | (rw [b.2.2.2, decide_eq_true (show S.ρ 6 / 16 < 4 from b.2.1)]; rfl) | (rw [b.2, decide_eq_false (show ¬ S.ρ 6 / 16 < 4 by omega)]; rfl) | (exfalso; omega))
    have d6 : t_blocks1_7.den S = some [b2i true] := tr (p := (IntKind.i64.wrap ((IntKind.i64.wrap ((S.Φ 21 [S.ρ 7]) - (1 : Int))) * (64 : Int))) < S.ρ 7) c6
    have r0 : b2i true = (b2i (decide (S.Φ 9 [] ≠ 0))) := by rw [hΦ]; rfl
    rw [r0]
    exact symL env gok (ai t_blocks1_7 true d6 (ai t_blocks1_6 true d5 (ai t_blocks1_4 true d4 (ai t_blocks1_8 true d3 (ai t_blocks1_2 false d2 (ai t_blocks1_1 true d1 (ai t_blocks1_0 true d0 (ain kTB .i64 1 (sm hk) (al_nm (nTB 4) (.var .i64 5) (by kernel_rfl) (sm h5) rfl (al_nm oTB (.var .i64 6) (by kernel_rfl) (sm h6) rfl (al_nm sTB (.var .i64 7) (by kernel_rfl) (sm h7) rfl (AlOk.nil _)))))))))))) (csB_ok S hΦ 1 16 (by kernel_rfl) (by kernel_rfl) (by omega) (by omega)) hvs w hI [.float .f64 ((.appB 9 .nil) : Tm).enc] (csT (.appB 9 .nil) rfl cs_nil) (by kernel_rfl) (fun G => by kernel_rfl)
def t_blocks2_0 : Tm := (.bin .eql (.app .i64 23 (.cons (.lit .i64 2) (.cons (.bin .mul (.var .i64 5) (.lit .i64 24)) .nil))) (.var .i64 5))
def t_blocks2_1 : Tm := (.appB 24 (.cons (.lit .i64 2) (.cons (.bin .mul (.var .i64 5) (.lit .i64 24)) .nil)))
def t_blocks2_2 : Tm := (.bin .eql (.bin .rem (.var .i64 6) (.lit .i64 24)) (.lit .i64 0))
def t_blocks2_3 : Tm := (.beq (.appB 24 (.cons (.lit .i64 2) (.cons (.var .i64 6) .nil))) (.bin .lss (.bin .quo (.var .i64 6) (.lit .i64 24)) (.lit .i64 2)))
def t_blocks2_4 : Tm := (.not (.appB 24 (.cons (.lit .i64 2) (.cons (.var .i64 6) .nil))))
def t_blocks2_5 : Tm := (.bin .eql (.bin .mul (.app .i64 23 (.cons (.lit .i64 2) (.cons (.var .i64 6) .nil))) (.lit .i64 24)) (.var .i64 6))
def t_blocks2_6 : Tm := (.bin .geq (.bin .mul (.app .i64 21 (.cons (.var .i64 7) .nil)) (.lit .i64 64)) (.var .i64 7))
def t_blocks2_7 : Tm := (.bin .lss (.bin .mul (.bin .sub (.app .i64 21 (.cons (.var .i64 7) .nil)) (.lit .i64 1)) (.lit .i64 64)) (.var .i64 7))
def t_blocks2_8 : Tm := (.beq (.appB 24 (.cons (.lit .i64 2) (.cons (.var .i64 6) .nil))) (.blit false))
theorem blocks2 (x0 : Int) (x1 : Int) (x2 : Int) (x3 : Int) (x5 : Int) (x6 : Int) (x7 : Int) (hk : (IntKind.i64.wrap x0).tmod 4 = 2) (h5 : (IntKind.i64.wrap x1).tmod 2 = x5) (h6 : IntKind.i64.wrap x2 = x6) (h7 : IntKind.i64.wrap (IntKind.i64.wrap (x3.tmod 1099511627776) + 1) = x7) (r5 : 0 ≤ x5 ∧ x5 < 2) (r6 : 0 ≤ x6 ∧ x6 < 256) (r7 : 1 ≤ x7 ∧ x7 ≤ 1099511627776) (w : World) : Calls Try.prog 6 #[.int .u8 x0, .int .u8 x1, .int .u8 x2, .int .u64 x3] w fun e w' => e = .returned (bundle (fillP [.one .bool] [b2i true])) ∧ Quiet w w' := by
  obtain ⟨S, hS⟩ : ∃ S : Sy, S = ⟨upd (fun _ => 0) [(0, x0), (1, x1), (2, x2), (3, x3), (5, x5), (6, x6), (7, x7)], Φ6, [], fun _ h => by simp at h⟩ := ⟨_, rfl⟩
  have i0 : S.ρ 0 = x0 := by rw [hS]; rfl
  have i1 : S.ρ 1 = x1 := by rw [hS]; rfl
  have i2 : S.ρ 2 = x2 := by rw [hS]; rfl
  have i3 : S.ρ 3 = x3 := by rw [hS]; rfl
  have i5 : S.ρ 5 = x5 := by rw [hS]; rfl
  have i6 : S.ρ 6 = x6 := by rw [hS]; rfl
  have i7 : S.ρ 7 = x7 := by rw [hS]; rfl
  have hI : S.I = [] := by rw [hS]
  have hvs : ∀ G ι, VsOk S G ι [vv .u8 0, vv .u8 1, vv .u8 2, vv .u64 3] [.int .u8 x0, .int .u8 x1, .int .u8 x2, .int .u64 x3] := fun G ι => (vs_sym i0 (vs_sym i1 (vs_sym i2 (vs_sym i3 vs_nil))))
  have hΦ : S.Φ = Φ6 := by rw [hS]
  subst i0
  subst i1
  subst i2
  subst i3
  subst i5
  subst i6
  subst i7
  have b0 : IntKind.i64.wrap (S.ρ 5 * 24) = S.ρ 5 * 24 := w_i64 (by omega) (by omega)
  have b1 : S.Φ 23 [(2 : Int), IntKind.i64.wrap (S.ρ 5 * (24 : Int))] = S.ρ 5 := by
    rw [hΦ]; show max (bz 24 2 (IntKind.i64.wrap (S.ρ 5 * 24))) 0 = _; rw [b0, bz_yes (by omega)] <;> omega
  have b2 : S.Φ 24 [(2 : Int), IntKind.i64.wrap (S.ρ 5 * (24 : Int))] = 1 := by
    rw [hΦ]; show b2i (decide (0 ≤ bz 24 2 (IntKind.i64.wrap (S.ρ 5 * 24)))) = _; rw [b0, bz_yes (by omega), decide_eq_true (by omega)] <;> rfl
  have p0 : S.Φ 21 [S.ρ 7] = (S.ρ 7 + 63) / 64 := by rw [hΦ]; exact if_neg (by omega)
  have p1 : IntKind.i64.wrap (S.Φ 21 [S.ρ 7] * 64) = S.Φ 21 [S.ρ 7] * 64 := w_i64 (by omega) (by omega)
  have p2 : IntKind.i64.wrap (S.Φ 21 [S.ρ 7] - 1) = S.Φ 21 [S.ρ 7] - 1 := w_i64 (by omega) (by omega)
  have p3 : IntKind.i64.wrap ((S.Φ 21 [S.ρ 7] - 1) * 64) = (S.Φ 21 [S.ρ 7] - 1) * 64 := w_i64 (by omega) (by omega)
  have t1 : (S.ρ 6).tdiv 24 = S.ρ 6 / 24 := Int.tdiv_eq_ediv_of_nonneg (by omega)
  have t2 : (S.ρ 6).tmod 24 = S.ρ 6 % 24 := Int.tmod_eq_emod_of_nonneg (by omega)
  have t3 : IntKind.i64.wrap ((S.ρ 6).tdiv 24) = S.ρ 6 / 24 := by rw [t1, w_i64 (by omega) (by omega)]
  have b3 : (S.ρ 6 % 24 = 0 ∧ S.ρ 6 / 24 < 2 ∧ S.Φ 23 [(2 : Int), S.ρ 6] = S.ρ 6 / 24 ∧ S.Φ 24 [(2 : Int), S.ρ 6] = 1) ∨ (¬ (S.ρ 6 % 24 = 0 ∧ S.ρ 6 / 24 < 2) ∧ S.Φ 24 [(2 : Int), S.ρ 6] = 0) := by
    by_cases hb : S.ρ 6 % 24 = 0 ∧ S.ρ 6 / 24 < 2
    · refine .inl ⟨hb.1, hb.2, ?_, ?_⟩
      · rw [hΦ]; show max (bz 24 2 (S.ρ 6)) 0 = _; rw [bz_yes (by omega)] <;> omega
      · rw [hΦ]; show b2i (decide (0 ≤ bz 24 2 (S.ρ 6))) = _; rw [bz_yes (by omega), decide_eq_true (by omega)] <;> rfl
    · refine .inr ⟨hb, ?_⟩
      rw [hΦ]; show b2i (decide (0 ≤ bz 24 2 (S.ρ 6))) = _; rw [bz_no (by omega)] <;> rfl
  have m1 : IntKind.i64.wrap (S.Φ 23 [(2 : Int), S.ρ 6] * 24) = S.Φ 23 [(2 : Int), S.ρ 6] * 24 ∨ S.Φ 24 [(2 : Int), S.ρ 6] = 0 := by
    rcases b3 with b | b
    · exact .inl (w_i64 (by omega) (by omega))
    · exact .inr b.2
  have c0 : (S.Φ 23 [(2 : Int), (IntKind.i64.wrap (S.ρ 5 * (24 : Int)))]) = S.ρ 5 := by first | (rw [b1]; done) | omega | (rw [p2, p3]; omega) | (rw [p1]; omega) | (rcases m1 with m | m <;> rcases b3 with b | b <;> first | omega | (rw [m]; omega)) | (rcases b3 with b | b <;> rw [t3] <;> first | (rw [b.2.2.2, decide_eq_true (show S.ρ 6 / 24 < 2 from b.2.1)]; rfl) | (rw [b.2, decide_eq_false (show ¬ S.ρ 6 / 24 < 2 by omega)]; rfl) | (exfalso; omega))
  have d0 : t_blocks2_0.den S = some [b2i true] := tr (p := (S.Φ 23 [(2 : Int), (IntKind.i64.wrap (S.ρ 5 * (24 : Int)))]) = S.ρ 5) c0
  have c1 : S.Φ 24 [(2 : Int), (IntKind.i64.wrap (S.ρ 5 * (24 : Int)))] ≠ 0 := by first | (rw [b1]; done) | omega | (rw [p2, p3]; omega) | (rw [p1]; omega) | (rcases m1 with m | m <;> rcases b3 with b | b <;> first | omega | (rw [m]; omega)) | (rcases b3 with b | b <;> rw [t3] <;> first | (rw [b.2.2.2, decide_eq_true (show S.ρ 6 / 24 < 2 from b.2.1)]; rfl) | (rw [b.2, decide_eq_false (show ¬ S.ρ 6 / 24 < 2 by omega)]; rfl) | (exfalso; omega))
  have d1 : t_blocks2_1.den S = some [b2i true] := tr (p := S.Φ 24 [(2 : Int), (IntKind.i64.wrap (S.ρ 5 * (24 : Int)))] ≠ 0) c1
  by_cases c2 : ((S.ρ 6).tmod (24 : Int)) = (0 : Int)
  · have d2 : t_blocks2_2.den S = some [b2i true] := tr (p := ((S.ρ 6).tmod (24 : Int)) = (0 : Int)) c2
    have c3 : (b2i (decide (S.Φ 24 [(2 : Int), S.ρ 6] ≠ 0))) = (b2i (decide ((IntKind.i64.wrap ((S.ρ 6).tdiv (24 : Int))) < (2 : Int)))) := by first | (rw [b1]; done) | omega | (rw [p2, p3]; omega) | (rw [p1]; omega) | (rcases m1 with m | m <;> rcases b3 with b | b <;> first | omega | (rw [m]; omega)) | (rcases b3 with b | b <;> rw [t3] <;> first | (rw [b.2.2.2, decide_eq_true (show S.ρ 6 / 24 < 2 from b.2.1)]; rfl) | (rw [b.2, decide_eq_false (show ¬ S.ρ 6 / 24 < 2 by omega)]; rfl) | (exfalso; omega))
    have d3 : t_blocks2_3.den S = some [b2i true] := tr (p := (b2i (decide (S.Φ 24 [(2 : Int), S.ρ 6] ≠ 0))) = (b2i (decide ((IntKind.i64.wrap ((S.ρ 6).tdiv (24 : Int))) < (2 : Int))))) c3
    by_cases c4 : S.Φ 24 [(2 : Int), S.ρ 6] ≠ 0
    · have d4 : t_blocks2_4.den S = some [b2i false] := fls (p := (b2i (decide (S.Φ 24 [(2 : Int), S.ρ 6] ≠ 0))) = 0) (by rw [decide_eq_true c4] <;> decide)
      have c5 : (IntKind.i64.wrap ((S.Φ 23 [(2 : Int), S.ρ 6]) * (24 : Int))) = S.ρ 6 := by first | (rw [b1]; done) | omega | (rw [p2, p3]; omega) | (rw [p1]; omega) | (rcases m1 with m | m <;> rcases b3 with b | b <;> first | omega | (rw [m]; omega)) | (rcases b3 with b | b <;> rw [t3] <;> first | (rw [b.2.2.2, decide_eq_true (show S.ρ 6 / 24 < 2 from b.2.1)]; rfl) | (rw [b.2, decide_eq_false (show ¬ S.ρ 6 / 24 < 2 by omega)]; rfl) | (exfalso; omega))
      have d5 : t_blocks2_5.den S = some [b2i true] := tr (p := (IntKind.i64.wrap ((S.Φ 23 [(2 : Int), S.ρ 6]) * (24 : Int))) = S.ρ 6) c5
      have c6 : ¬ ((IntKind.i64.wrap ((S.Φ 21 [S.ρ 7]) * (64 : Int))) < S.ρ 7) := by first | (rw [b1]; done) | omega | (rw [p2, p3]; omega) | (rw [p1]; omega) | (rcases m1 with m | m <;> rcases b3 with b | b <;> first | omega | (rw [m]; omega)) | (rcases b3 with b | b <;> rw [t3] <;> first | (rw [b.2.2.2, decide_eq_true (show S.ρ 6 / 24 < 2 from b.2.1)]; rfl) | (rw [b.2, decide_eq_false (show ¬ S.ρ 6 / 24 < 2 by omega)]; rfl) | (exfalso; omega))
      have d6 : t_blocks2_6.den S = some [b2i true] := tr (p := S.ρ 7 ≤ (IntKind.i64.wrap ((S.Φ 21 [S.ρ 7]) * (64 : Int)))) (Int.not_lt.1 c6)
      have c7 : (IntKind.i64.wrap ((IntKind.i64.wrap ((S.Φ 21 [S.ρ 7]) - (1 : Int))) * (64 : Int))) < S.ρ 7 := by first | (rw [b1]; done) | omega | (rw [p2, p3]; omega) | (rw [p1]; omega) | (rcases m1 with m | m <;> rcases b3 with b | b <;> first | omega | (rw [m]; omega)) | (rcases b3 with b | b <;> rw [t3] <;> first | (rw [b.2.2.2, decide_eq_true (show S.ρ 6 / 24 < 2 from b.2.1)]; rfl) | (rw [b.2, decide_eq_false (show ¬ S.ρ 6 / 24 < 2 by omega)]; rfl) | (exfalso; omega))
      have d7 : t_blocks2_7.den S = some [b2i true] := tr (p := (IntKind.i64.wrap ((IntKind.i64.wrap ((S.Φ 21 [S.ρ 7]) - (1 : Int))) * (64 : Int))) < S.ρ 7) c7
      have r0 : b2i true = (b2i (decide (S.Φ 9 [] ≠ 0))) := by rw [hΦ]; rfl
      rw [r0]
      exact symL env gok (ai t_blocks2_7 true d7 (ai t_blocks2_6 true d6 (ai t_blocks2_5 true d5 (ai t_blocks2_4 false d4 (ai t_blocks2_3 true d3 (ai t_blocks2_2 true d2 (ai t_blocks2_1 true d1 (ai t_blocks2_0 true d0 (ain kTB .i64 2 (sm hk) (al_nm (nTB 2) (.var .i64 5) (by kernel_rfl) (sm h5) rfl (al_nm oTB (.var .i64 6) (by kernel_rfl) (sm h6) rfl (al_nm sTB (.var .i64 7) (by kernel_rfl) (sm h7) rfl (AlOk.nil _))))))))))))) (csB_ok S hΦ 2 24 (by kernel_rfl) (by kernel_rfl) (by omega) (by omega)) hvs w hI [.float .f64 ((.appB 9 .nil) : Tm).enc] (csT (.appB 9 .nil) rfl cs_nil) (by kernel_rfl) (fun G => by kernel_rfl)
    · have d4 : t_blocks2_4.den S = some [b2i true] := tr (p := (b2i (decide (S.Φ 24 [(2 : Int), S.ρ 6] ≠ 0))) = 0) (by rw [decide_eq_false c4] <;> decide)
      have c5 : ¬ ((IntKind.i64.wrap ((S.Φ 21 [S.ρ 7]) * (64 : Int))) < S.ρ 7) := by first | (rw [b1]; done) | omega | (rw [p2, p3]; omega) | (rw [p1]; omega) | (rcases m1 with m | m <;> rcases b3 with b | b <;> first | omega | (rw [m]; omega)) | (rcases b3 with b | b <;> rw [t3] <;> first | (rw [b.2.2.2, decide_eq_true (show S.ρ 6 / 24 < 2 from b.2.1)]; rfl) | (rw [b.2, decide_eq_false (show ¬ S.ρ 6 / 24 < 2 by omega)]; rfl) | (exfalso; omega))
      have d5 : t_blocks2_6.den S = some [b2i true] := tr (p := S.ρ 7 ≤ (IntKind.i64.wrap ((S.Φ 21 [S.ρ 7]) * (64 : Int)))) (Int.not_lt.1 c5)
      have c6 : (IntKind.i64.wrap ((IntKind.i64.wrap ((S.Φ 21 [S.ρ 7]) - (1 : Int))) * (64 : Int))) < S.ρ 7 := by first | (rw [b1]; done) | omega | (rw [p2, p3]; omega) | (rw [p1]; omega) | (rcases m1 with m | m <;> rcases b3 with b | b <;> first | omega | (rw [m]; omega)) | (rcases b3 with b | b <;> rw [t3] <;> first | (rw [b.2.2.2, decide_eq_true (show S.ρ 6 / 24 < 2 from b.2.1)]; rfl) | (rw [b.2, decide_eq_false (show ¬ S.ρ 6 / 24 < 2 by omega)]; rfl) | (exfalso; omega))
      have d6 : t_blocks2_7.den S = some [b2i true] := tr (p := (IntKind.i64.wrap ((IntKind.i64.wrap ((S.Φ 21 [S.ρ 7]) - (1 : Int))) * (64 : Int))) < S.ρ 7) c6
      have r0 : b2i true = (b2i (decide (S.Φ 9 [] ≠ 0))) := by rw [hΦ]; rfl
      rw [r0]
      exact symL env gok (ai t_blocks2_7 true d6 (ai t_blocks2_6 true d5 (ai t_blocks2_4 true d4 (ai t_blocks2_3 true d3 (ai t_blocks2_2 true d2 (ai t_blocks2_1 true d1 (ai t_blocks2_0 true d0 (ain kTB .i64 2 (sm hk) (al_nm (nTB 2) (.var .i64 5) (by kernel_rfl) (sm h5) rfl (al_nm oTB (.var .i64 6) (by kernel_rfl) (sm h6) rfl (al_nm sTB (.var .i64 7) (by kernel_rfl) (sm h7) rfl (AlOk.nil _)))))))))))) (csB_ok S hΦ 2 24 (by kernel_rfl) (by kernel_rfl) (by omega) (by omega)) hvs w hI [.float .f64 ((.appB 9 .nil) : Tm).enc] (csT (.appB 9 .nil) rfl cs_nil) (by kernel_rfl) (fun G => by kernel_rfl)
  · have d2 : t_blocks2_2.den S = some [b2i false] := fls (p := ((S.ρ 6).tmod (24 : Int)) = (0 : Int)) c2
    have c3 : ¬ (S.Φ 24 [(2 : Int), S.ρ 6] ≠ 0) := by first | (rw [b1]; done) | omega | (rw [p2, p3]; omega) | (rw [p1]; omega) | (rcases m1 with m | m <;> rcases b3 with b | b <;> first | omega | (rw [m]; omega)) | (rcases b3 with b | b <;> rw [t3] <;> first | (rw [b.2.2.2, decide_eq_true (show S.ρ 6 / 24 < 2 from b.2.1)]; rfl) | (rw [b.2, decide_eq_false (show ¬ S.ρ 6 / 24 < 2 by omega)]; rfl) | (exfalso; omega))
    have d3 : t_blocks2_8.den S = some [b2i true] := tr (p := (b2i (decide (S.Φ 24 [(2 : Int), S.ρ 6] ≠ 0))) = (b2i false)) (by rw [decide_eq_false c3] <;> decide)
    have d4 : t_blocks2_4.den S = some [b2i true] := tr (p := (b2i (decide (S.Φ 24 [(2 : Int), S.ρ 6] ≠ 0))) = 0) (by rw [decide_eq_false c3] <;> decide)
    have c5 : ¬ ((IntKind.i64.wrap ((S.Φ 21 [S.ρ 7]) * (64 : Int))) < S.ρ 7) := by first | (rw [b1]; done) | omega | (rw [p2, p3]; omega) | (rw [p1]; omega) | (rcases m1 with m | m <;> rcases b3 with b | b <;> first | omega | (rw [m]; omega)) | (rcases b3 with b | b <;> rw [t3] <;> first | (rw [b.2.2.2, decide_eq_true (show S.ρ 6 / 24 < 2 from b.2.1)]; rfl) | (rw [b.2, decide_eq_false (show ¬ S.ρ 6 / 24 < 2 by omega)]; rfl) | (exfalso; omega))
    have d5 : t_blocks2_6.den S = some [b2i true] := tr (p := S.ρ 7 ≤ (IntKind.i64.wrap ((S.Φ 21 [S.ρ 7]) * (64 : Int)))) (Int.not_lt.1 c5)
    have c6 : (IntKind.i64.wrap ((IntKind.i64.wrap ((S.Φ 21 [S.ρ 7]) - (1 : Int))) * (64 : Int))) < S.ρ 7 := by first | (rw [b1]; done) | omega | (rw [p2, p3]; omega) | (rw [p1]; omega) | (rcases m1 with m | m <;> rcases b3 with b | b <;> first | omega | (rw [m]; omega)) | (rcases b3 with b | b <;> rw [t3] <;> first | (rw [b.2.2.2, decide_eq_true (show S.ρ 6 / 24 < 2 from b.2.1)]; rfl) | (rw [b.2, decide_eq_false (show ¬ S.ρ 6 / 24 < 2 by omega)]; rfl) | (exfalso; omega))
    have d6 : t_blocks2_7.den S = some [b2i true] := tr (p := (IntKind.i64.wrap ((IntKind.i64.wrap ((S.Φ 21 [S.ρ 7]) - (1 : Int))) * (64 : Int))) < S.ρ 7) c6
    have r0 : b2i true = (b2i (decide (S.Φ 9 [] ≠ 0))) := by rw [hΦ]; rfl
    rw [r0]
    exact symL env gok (ai t_blocks2_7 true d6 (ai t_blocks2_6 true d5 (ai t_blocks2_4 true d4 (ai t_blocks2_8 true d3 (ai t_blocks2_2 false d2 (ai t_blocks2_1 true d1 (ai t_blocks2_0 true d0 (ain kTB .i64 2 (sm hk) (al_nm (nTB 2) (.var .i64 5) (by kernel_rfl) (sm h5) rfl (al_nm oTB (.var .i64 6) (by kernel_rfl) (sm h6) rfl (al_nm sTB (.var .i64 7) (by kernel_rfl) (sm h7) rfl (AlOk.nil _)))))))))))) (csB_ok S hΦ 2 24 (by kernel_rfl) (by kernel_rfl) (by omega) (by omega)) hvs w hI [.float .f64 ((.appB 9 .nil) : Tm).enc] (csT (.appB 9 .nil) rfl cs_nil) (by kernel_rfl) (fun G => by kernel_rfl)
def t_blocks3_0 : Tm := (.bin .eql (.app .i64 23 (.cons (.lit .i64 3) (.cons (.bin .mul (.var .i64 5) (.lit .i64 32)) .nil))) (.var .i64 5))
def t_blocks3_1 : Tm := (.appB 24 (.cons (.lit .i64 3) (.cons (.bin .mul (.var .i64 5) (.lit .i64 32)) .nil)))
def t_blocks3_2 : Tm := (.bin .eql (.bin .rem (.var .i64 6) (.lit .i64 32)) (.lit .i64 0))
def t_blocks3_3 : Tm := (.beq (.appB 24 (.cons (.lit .i64 3) (.cons (.var .i64 6) .nil))) (.bin .lss (.bin .quo (.var .i64 6) (.lit .i64 32)) (.lit .i64 2)))
def t_blocks3_4 : Tm := (.not (.appB 24 (.cons (.lit .i64 3) (.cons (.var .i64 6) .nil))))
def t_blocks3_5 : Tm := (.bin .eql (.bin .mul (.app .i64 23 (.cons (.lit .i64 3) (.cons (.var .i64 6) .nil))) (.lit .i64 32)) (.var .i64 6))
def t_blocks3_6 : Tm := (.bin .geq (.bin .mul (.app .i64 21 (.cons (.var .i64 7) .nil)) (.lit .i64 64)) (.var .i64 7))
def t_blocks3_7 : Tm := (.bin .lss (.bin .mul (.bin .sub (.app .i64 21 (.cons (.var .i64 7) .nil)) (.lit .i64 1)) (.lit .i64 64)) (.var .i64 7))
def t_blocks3_8 : Tm := (.beq (.appB 24 (.cons (.lit .i64 3) (.cons (.var .i64 6) .nil))) (.blit false))
theorem blocks3 (x0 : Int) (x1 : Int) (x2 : Int) (x3 : Int) (x5 : Int) (x6 : Int) (x7 : Int) (hk : (IntKind.i64.wrap x0).tmod 4 = 3) (h5 : (IntKind.i64.wrap x1).tmod 2 = x5) (h6 : IntKind.i64.wrap x2 = x6) (h7 : IntKind.i64.wrap (IntKind.i64.wrap (x3.tmod 1099511627776) + 1) = x7) (r5 : 0 ≤ x5 ∧ x5 < 2) (r6 : 0 ≤ x6 ∧ x6 < 256) (r7 : 1 ≤ x7 ∧ x7 ≤ 1099511627776) (w : World) : Calls Try.prog 6 #[.int .u8 x0, .int .u8 x1, .int .u8 x2, .int .u64 x3] w fun e w' => e = .returned (bundle (fillP [.one .bool] [b2i true])) ∧ Quiet w w' := by
  obtain ⟨S, hS⟩ : ∃ S : Sy, S = ⟨upd (fun _ => 0) [(0, x0), (1, x1), (2, x2), (3, x3), (5, x5), (6, x6), (7, x7)], Φ6, [], fun _ h => by simp at h⟩ := ⟨_, rfl⟩
  have i0 : S.ρ 0 = x0 := by rw [hS]; rfl
  have i1 : S.ρ 1 = x1 := by rw [hS]; rfl
  have i2 : S.ρ 2 = x2 := by rw [hS]; rfl
  have i3 : S.ρ 3 = x3 := by rw [hS]; rfl
  have i5 : S.ρ 5 = x5 := by rw [hS]; rfl
  have i6 : S.ρ 6 = x6 := by rw [hS]; rfl
  have i7 : S.ρ 7 = x7 := by rw [hS]; rfl
  have hI : S.I = [] := by rw [hS]
  have hvs : ∀ G ι, VsOk S G ι [vv .u8 0, vv .u8 1, vv .u8 2, vv .u64 3] [.int .u8 x0, .int .u8 x1, .int .u8 x2, .int .u64 x3] := fun G ι => (vs_sym i0 (vs_sym i1 (vs_sym i2 (vs_sym i3 vs_nil))))
  have hΦ : S.Φ = Φ6 := by rw [hS]
  subst i0
  subst i1
  subst i2
  subst i3
  subst i5
  subst i6
  subst i7
  have b0 : IntKind.i64.wrap (S.ρ 5 * 32) = S.ρ 5 * 32 := w_i64 (by omega) (by omega)
  have b1 : S.Φ 23 [(3 : Int), IntKind.i64.wrap (S.ρ 5 * (32 : Int))] = S.ρ 5 := by
    rw [hΦ]; show max (bz 32 2 (IntKind.i64.wrap (S.ρ 5 * 32))) 0 = _; rw [b0, bz_yes (by omega)] <;> omega
  have b2 : S.Φ 24 [(3 : Int), IntKind.i64.wrap (S.ρ 5 * (32 : Int))] = 1 := by
    rw [hΦ]; show b2i (decide (0 ≤ bz 32 2 (IntKind.i64.wrap (S.ρ 5 * 32)))) = _; rw [b0, bz_yes (by omega), decide_eq_true (by omega)] <;> rfl
  have p0 : S.Φ 21 [S.ρ 7] = (S.ρ 7 + 63) / 64 := by rw [hΦ]; exact if_neg (by omega)
  have p1 : IntKind.i64.wrap (S.Φ 21 [S.ρ 7] * 64) = S.Φ 21 [S.ρ 7] * 64 := w_i64 (by omega) (by omega)
  have p2 : IntKind.i64.wrap (S.Φ 21 [S.ρ 7] - 1) = S.Φ 21 [S.ρ 7] - 1 := w_i64 (by omega) (by omega)
  have p3 : IntKind.i64.wrap ((S.Φ 21 [S.ρ 7] - 1) * 64) = (S.Φ 21 [S.ρ 7] - 1) * 64 := w_i64 (by omega) (by omega)
  have t1 : (S.ρ 6).tdiv 32 = S.ρ 6 / 32 := Int.tdiv_eq_ediv_of_nonneg (by omega)
  have t2 : (S.ρ 6).tmod 32 = S.ρ 6 % 32 := Int.tmod_eq_emod_of_nonneg (by omega)
  have t3 : IntKind.i64.wrap ((S.ρ 6).tdiv 32) = S.ρ 6 / 32 := by rw [t1, w_i64 (by omega) (by omega)]
  have b3 : (S.ρ 6 % 32 = 0 ∧ S.ρ 6 / 32 < 2 ∧ S.Φ 23 [(3 : Int), S.ρ 6] = S.ρ 6 / 32 ∧ S.Φ 24 [(3 : Int), S.ρ 6] = 1) ∨ (¬ (S.ρ 6 % 32 = 0 ∧ S.ρ 6 / 32 < 2) ∧ S.Φ 24 [(3 : Int), S.ρ 6] = 0) := by
    by_cases hb : S.ρ 6 % 32 = 0 ∧ S.ρ 6 / 32 < 2
    · refine .inl ⟨hb.1, hb.2, ?_, ?_⟩
      · rw [hΦ]; show max (bz 32 2 (S.ρ 6)) 0 = _; rw [bz_yes (by omega)] <;> omega
      · rw [hΦ]; show b2i (decide (0 ≤ bz 32 2 (S.ρ 6))) = _; rw [bz_yes (by omega), decide_eq_true (by omega)] <;> rfl
    · refine .inr ⟨hb, ?_⟩
      rw [hΦ]; show b2i (decide (0 ≤ bz 32 2 (S.ρ 6))) = _; rw [bz_no (by omega)] <;> rfl
  have m1 : IntKind.i64.wrap (S.Φ 23 [(3 : Int), S.ρ 6] * 32) = S.Φ 23 [(3 : Int), S.ρ 6] * 32 ∨ S.Φ 24 [(3 : Int), S.ρ 6] = 0 := by
    rcases b3 with b | b
    · exact .inl (w_i64 (by omega) (by omega))
    · exact .inr b.2
  have c0 : (S.Φ 23 [(3 : Int), (IntKind.i64.wrap (S.ρ 5 * (32 : Int)))]) = S.ρ 5 := by first | (rw [b1]; done) | omega | (rw [p2, p3]; omega) | (rw [p1]; omega) | (rcases m1 with m | m <;> rcases b3 with b | b <;> first | omega | (rw [m]; omega)) | (rcases b3 with b | b <;> rw [t3] <;> first | (rw [b.2.2.2, decide_eq_true (show S.ρ 6 / 32 < 2 from b.2.1)]; rfl) | (rw [b.2, decide_eq_false (show ¬ S.ρ 6 / 32 < 2 by omega)]; rfl) | (exfalso; omega))
  have d0 : t_blocks3_0.den S = some [b2i true] := tr (p := (S.Φ 23 [(3 : Int), (IntKind.i64.wrap (S.ρ 5 * (32 : Int)))]) = S.ρ 5) c0
  have c1 : S.Φ 24 [(3 : Int), (IntKind.i64.wrap (S.ρ 5 * (32 : Int)))] ≠ 0 := by first | (rw [b1]; done) | omega | (rw [p2, p3]; omega) | (rw [p1]; omega) | (rcases m1 with m | m <;> rcases b3 with b | b <;> first | omega | (rw [m]; omega)) | (rcases b3 with b | b <;> rw [t3] <;> first | (rw [b.2.2.2, decide_eq_true (show S.ρ 6 / 32 < 2 from b.2.1)]; rfl) | (rw [b.2, decide_eq_false (show ¬ S.ρ 6 / 32 < 2 by omega)]; rfl) | (exfalso; omega))
  have d1 : t_blocks3_1.den S = some [b2i true] := tr (p := S.Φ 24 [(3 : Int), (IntKind.i64.wrap (S.ρ 5 * (32 : Int)))] ≠ 0) c1
  by_cases c2 : ((S.ρ 6).tmod (32 : Int)) = (0 : Int)
  · have d2 : t_blocks3_2.den S = some [b2i true] := tr (p := ((S.ρ 6).tmod (32 : Int)) = (0 : Int)) c2
    have c3 : (b2i (decide (S.Φ 24 [(3 : Int), S.ρ 6] ≠ 0))) = (b2i (decide ((IntKind.i64.wrap ((S.ρ 6).tdiv (32 : Int))) < (2 : Int)))) := by first | (rw [b1]; done) | omega | (rw [p2, p3]; omega) | (rw [p1]; omega) | (rcases m1 with m | m <;> rcases b3 with b | b <;> first | omega | (rw [m]; omega)) | (rcases b3 with b | b <;> rw [t3] <;> first | (rw [b.2.2.2, decide_eq_true (show S.ρ 6 / 32 < 2 from b.2.1)]; rfl) | (rw [b.2, decide_eq_false (show ¬ S.ρ 6 / 32 < 2 by omega)]; rfl) | (exfalso; omega))
    have d3 : t_blocks3_3.den S = some [b2i true] := tr (p := (b2i (decide (S.Φ 24 [(3 : Int), S.ρ 6] ≠ 0))) = (b2i (decide ((IntKind.i64.wrap ((S.ρ 6).tdiv (32 : Int))) < (2 : Int))))) c3
    by_cases c4 : S.Φ 24 [(3 : Int), S.ρ 6] ≠ 0
    · have d4 : t_blocks3_4.den S = some [b2i false] := fls (p := (b2i (decide (S.Φ 24 [(3 : Int), S.ρ 6] ≠ 0))) = 0) (by rw [decide_eq_true c4] <;> decide)
      have c5 : (IntKind.i64.wrap ((S.Φ 23 [(3 : Int), S.ρ 6]) * (32 : Int))) = S.ρ 6 := by first | (rw [b1]; done) | omega | (rw [p2, p3]; omega) | (rw [p1]; omega) | (rcases m1 with m | m <;> rcases b3 with b | b <;> first | omega | (rw [m]; omega)) | (rcases b3 with b | b <;> rw [t3] <;> first | (rw [b.2.2.2, decide_eq_true (show S.ρ 6 / 32 < 2 from b.2.1)]; rfl) | (rw [b.2, decide_eq_false (show ¬ S.ρ 6 / 32 < 2 by omega)]; rfl) | (exfalso; omega))
      have d5 : t_blocks3_5.den S = some [b2i true] := tr (p := (IntKind.i64.wrap ((S.Φ 23 [(3 : Int), S.ρ 6]) * (32 : Int))) = S.ρ 6) c5
      have c6 : ¬ ((IntKind.i64.wrap ((S.Φ 21 [S.ρ 7]) * (64 : Int))) < S.ρ 7) := by first | (rw [b1]; done) | omega | (rw [p2, p3]; omega) | (rw [p1]; omega) | (rcases m1 with m | m <;> rcases b3 with b | b <;> first | omega | (rw [m]; omega)) | (rcases b3 with b | b <;> rw [t3] <;> first | (rw [b.2.2.2, decide_eq_true (show S.ρ 6 / 32 < 2 from b.2.1)]; rfl) | (rw [b.2, decide_eq_false (show ¬ S.ρ 6 / 32 < 2 by omega)]; rfl) | (exfalso; omega))
      have d6 : t_blocks3_6.den S = some [b2i true] := tr (p := S.ρ 7 ≤ (IntKind.i64.wrap ((S.Φ 21 [S.ρ 7]) * (64 : Int)))) (Int.not_lt.1 c6)
      have c7 : (IntKind.i64.wrap ((IntKind.i64.wrap ((S.Φ 21 [S.ρ 7]) - (1 : Int))) * (64 : Int))) < S.ρ 7 := by first | (rw [b1]; done) | omega | (rw [p2, p3]; omega) | (rw [p1]; omega) | (rcases m1 with m | m <;> rcases b3 with b | b <;> first | omega | (rw [m]; omega)) | (rcases b3 with b | b <;> rw [t3] <;> first | (rw [b.2.2.2, decide_eq_true (show S.ρ 6 / 32 < 2 from b.2.1)]; rfl) | (rw [b.2, decide_eq_false (show ¬ S.ρ 6 / 32 < 2 by omega)]; rfl) | (exfalso; omega))
      have d7 : t_blocks3_7.den S = some [b2i true] := tr (p := (IntKind.i64.wrap ((IntKind.i64.wrap ((S.Φ 21 [S.ρ 7]) - (1 : Int))) * (64 : Int))) < S.ρ 7) c7
      have r0 : b2i true = (b2i (decide (S.Φ 9 [] ≠ 0))) := by rw [hΦ]; rfl
      rw [r0]
      exact symL env gok (ai t_blocks3_7 true d7 (ai t_blocks3_6 true d6 (ai t_blocks3_5 true d5 (ai t_blocks3_4 false d4 (ai t_blocks3_3 true d3 (ai t_blocks3_2 true d2 (ai t_blocks3_1 true d1 (ai t_blocks3_0 true d0 (ain kTB .i64 3 (sm hk) (al_nm (nTB 2) (.var .i64 5) (by kernel_rfl) (sm h5) rfl (al_nm oTB (.var .i64 6) (by kernel_rfl) (sm h6) rfl (al_nm sTB (.var .i64 7) (by kernel_rfl) (sm h7) rfl (AlOk.nil _))))))))))))) (csB_ok S hΦ 3 32 (by kernel_rfl) (by kernel_rfl) (by omega) (by omega)) hvs w hI [.float .f64 ((.appB 9 .nil) : Tm).enc] (csT (.appB 9 .nil) rfl cs_nil) (by kernel_rfl) (fun G => by kernel_rfl)
    · have d4 : t_blocks3_4.den S = some [b2i true] := tr (p := (b2i (decide (S.Φ 24 [(3 : Int), S.ρ 6] ≠ 0))) = 0) (by rw [decide_eq_false c4] <;> decide)
      have c5 : ¬ ((IntKind.i64.wrap ((S.Φ 21 [S.ρ 7]) * (64 : Int))) < S.ρ 7) := by first | (rw [b1]; done) | omega | (rw [p2, p3]; omega) | (rw [p1]; omega) | (rcases m1 with m | m <;> rcases b3 with b | b <;> first | omega | (rw [m]; omega)) | (rcases b3 with b | b <;> rw [t3] <;> first | (rw [b.2.2.2, decide_eq_true (show S.ρ 6 / 32 < 2 from b.2.1)]; rfl) | (rw [b.2, decide_eq_false (show ¬ S.ρ 6 / 32 < 2 by omega)]; rfl) | (exfalso; omega))
      have d5 : t_blocks3_6.den S = some [b2i true] := tr (p := S.ρ 7 ≤ (IntKind.i64.wrap ((S.Φ 21 [S.ρ 7]) * (64 : Int)))) (Int.not_lt.1 c5)
      have c6 : (IntKind.i64.wrap ((IntKind.i64.wrap ((S.Φ 21 [S.ρ 7]) - (1 : Int))) * (64 : Int))) < S.ρ 7 := by first | (rw [b1]; done) | omega | (rw [p2, p3]; omega) | (rw [p1]; omega) | (rcases m1 with m | m <;> rcases b3 with b | b <;> first | omega | (rw [m]; omega)) | (rcases b3 with b | b <;> rw [t3] <;> first | (rw [b.2.2.2, decide_eq_true (show S.ρ 6 / 32 < 2 from b.2.1)]; rfl) | (rw [b.2, decide_eq_false (show ¬ S.ρ 6 / 32 < 2 by omega)]; rfl) | (exfalso; omega))
      have d6 : t_blocks3_7.den S = some [b2i true] := tr (p := (IntKind.i64.wrap ((IntKind.i64.wrap ((S.Φ 21 [S.ρ 7]) - (1 : Int))) * (64 : Int))) < S.ρ 7) c6
      have r0 : b2i true = (b2i (decide (S.Φ 9 [] ≠ 0))) := by rw [hΦ]; rfl
      rw [r0]
      exact symL env gok (ai t_blocks3_7 true d6 (ai t_blocks3_6 true d5 (ai t_blocks3_4 true d4 (ai t_blocks3_3 true d3 (ai t_blocks3_2 true d2 (ai t_blocks3_1 true d1 (ai t_blocks3_0 true d0 (ain kTB .i64 3 (sm hk) (al_nm (nTB 2) (.var .i64 5) (by kernel_rfl) (sm h5) rfl (al_nm oTB (.var .i64 6) (by kernel_rfl) (sm h6) rfl (al_nm sTB (.var .i64 7) (by kernel_rfl) (sm h7) rfl (AlOk.nil _)))))))))))) (csB_ok S hΦ 3 32 (by kernel_rfl) (by kernel_rfl) (by omega) (by omega)) hvs w hI [.float .f64 ((.appB 9 .nil) : Tm).enc] (csT (.appB 9 .nil) rfl cs_nil) (by kernel_rfl) (fun G => by kernel_rfl)
  · have d2 : t_blocks3_2.den S = some [b2i false] := fls (p := ((S.ρ 6).tmod (32 : Int)) = (0 : Int)) c2
    have c3 : ¬ (S.Φ 24 [(3 : Int), S.ρ 6] ≠ 0) := by first | (rw [b1]; done) | omega | (rw [p2, p3]; omega) | (rw [p1]; omega) | (rcases m1 with m | m <;> rcases b3 with b | b <;> first | omega | (rw [m]; omega)) | (rcases b3 with b | b <;> rw [t3] <;> first | (rw [b.2.2.2, decide_eq_true (show S.ρ 6 / 32 < 2 from b.2.1)]; rfl) | (rw [b.2, decide_eq_false (show ¬ S.ρ 6 / 32 < 2 by omega)]; rfl) | (exfalso; omega))
    have d3 : t_blocks3_8.den S = some [b2i true] := tr (p := (b2i (decide (S.Φ 24 [(3 : Int), S.ρ 6] ≠ 0))) = (b2i false)) (by rw [decide_eq_false c3] <;> decide)
    have d4 : t_blocks3_4.den S = some [b2i true] := tr (p := (b2i (decide (S.Φ 24 [(3 : Int), S.ρ 6] ≠ 0))) = 0) (by rw [decide_eq_false c3] <;> decide)
    have c5 : ¬ ((IntKind.i64.wrap ((S.Φ 21 [S.ρ 7]) * (64 : Int))) < S.ρ 7) := by first | (rw [b1]; done) | omega | (rw [p2, p3]; omega) | (rw [p1]; omega) | (rcases m1 with m | m <;> rcases b3 with b | b <;> first | omega | (rw [m]; omega)) | (rcases b3 with b | b <;> rw [t3] <;> first | (rw [b.2.2.2, decide_eq_true (show S.ρ 6 / 32 < 2 from b.2.1)]; rfl) | (rw [b.2, decide_eq_false (show ¬ S.ρ 6 / 32 < 2 by omega)]; rfl) | (exfalso; omega))
    have d5 : t_blocks3_6.den S = some [b2i true] := tr (p := S.ρ 7 ≤ (IntKind.i64.wrap ((S.Φ 21 [S.ρ 7]) * (64 : Int)))) (Int.not_lt.1 c5)
    have c6 : (IntKind.i64.wrap ((IntKind.i64.wrap ((S.Φ 21 [S.ρ 7]) - (1 : Int))) * (64 : Int))) < S.ρ 7 := by first | (rw [b1]; done) | omega | (rw [p2, p3]; omega) | (rw [p1]; omega) | (rcases m1 with m | m <;> rcases b3 with b | b <;> first | omega | (rw [m]; omega)) | (rcases b3 with b | b <;> rw [t3] <;> first | (rw [b.2.2.2, decide_eq_true (show S.ρ 6 / 32 < 2 from b.2.1)]; rfl) | (rw [b.2, decide_eq_false (show ¬ S.ρ 6 / 32 < 2 by omega)]; rfl) | (exfalso; omega))
    have d6 : t_blocks3_7.den S = some [b2i true] := tr (p := (IntKind.i64.wrap ((IntKind.i64.wrap ((S.Φ 21 [S.ρ 7]) - (1 : Int))) * (64 : Int))) < S.ρ 7) c6
    have r0 : b2i true = (b2i (decide (S.Φ 9 [] ≠ 0))) := by rw [hΦ]; rfl
    rw [r0]
    exact symL env gok (ai t_blocks3_7 true d6 (ai t_blocks3_6 true d5 (ai t_blocks3_4 true d4 (ai t_blocks3_8 true d3 (ai t_blocks3_2 false d2 (ai t_blocks3_1 true d1 (ai t_blocks3_0 true d0 (ain kTB .i64 3 (sm hk) (al_nm (nTB 2) (.var .i64 5) (by kernel_rfl) (sm h5) rfl (al_nm oTB (.var .i64 6) (by kernel_rfl) (sm h6) rfl (al_nm sTB (.var .i64 7) (by kernel_rfl) (sm h7) rfl (AlOk.nil _)))))))))))) (csB_ok S hΦ 3 32 (by kernel_rfl) (by kernel_rfl) (by omega) (by omega)) hvs w hI [.float .f64 ((.appB 9 .nil) : Tm).enc] (csT (.appB 9 .nil) rfl cs_nil) (by kernel_rfl) (fun G => by kernel_rfl)
theorem blocks_any (x0 x1 x2 x3 : Int) (w0 : 0 ≤ x0 ∧ x0 < 256) (w1 : 0 ≤ x1 ∧ x1 < 256) (w2 : 0 ≤ x2 ∧ x2 < 256) (w3 : 0 ≤ x3 ∧ x3 < 18446744073709551616) (w : World) : Calls Try.prog 6 #[.int .u8 x0, .int .u8 x1, .int .u8 x2, .int .u64 x3] w fun e w' => e = .returned (.bool true) ∧ Quiet w w' := by
  have e0 : (IntKind.i64.wrap x0).tmod 4 = x0 % 4 := by rw [w_i64 (by omega) (by omega), Int.tmod_eq_emod_of_nonneg (by omega)]
  have e1 : ∀ n : Int, (IntKind.i64.wrap x1).tmod n = x1 % n := fun n => by rw [w_i64 (by omega) (by omega), Int.tmod_eq_emod_of_nonneg (by omega)]
  have e2 : IntKind.i64.wrap x2 = x2 := w_i64 (by omega) (by omega)
  have e3 : IntKind.i64.wrap (IntKind.i64.wrap (x3.tmod 1099511627776) + 1) = x3 % 1099511627776 + 1 := by
    rw [Int.tmod_eq_emod_of_nonneg (by omega), w_i64 (x := x3 % 1099511627776) (by omega) (by omega), w_i64 (by omega) (by omega)]
  have fin : ∀ {e : Ending} {w' : World}, e = .returned (bundle (fillP [.one .bool] [b2i true])) ∧ Quiet w w' → e = .returned (.bool true) ∧ Quiet w w' := fun ⟨h, x⟩ => ⟨yes1 h, x⟩
  rcases (show x0 % 4 = 0 ∨ x0 % 4 = 1 ∨ x0 % 4 = 2 ∨ x0 % 4 = 3 by omega) with h | h | h | h
  · exact (blocks0 x0 x1 x2 x3 (x1 % 8) x2 (x3 % 1099511627776 + 1) (e0.trans h) (e1 8) e2 e3 (by omega) (by omega) (by omega) w).mono fun _ _ => fin
  · exact (blocks1 x0 x1 x2 x3 (x1 % 4) x2 (x3 % 1099511627776 + 1) (e0.trans h) (e1 4) e2 e3 (by omega) (by omega) (by omega) w).mono fun _ _ => fin
  · exact (blocks2 x0 x1 x2 x3 (x1 % 2) x2 (x3 % 1099511627776 + 1) (e0.trans h) (e1 2) e2 e3 (by omega) (by omega) (by omega) w).mono fun _ _ => fin
  · exact (blocks3 x0 x1 x2 x3 (x1 % 2) x2 (x3 % 1099511627776 + 1) (e0.trans h) (e1 2) e2 e3 (by omega) (by omega) (by omega) w).mono fun _ _ => fin
end Go.Proofs.Ythaibdajbpdkcaa
