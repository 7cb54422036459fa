/-
  Stage 6: ClassTells, run with symbols over contracts. Conditions: size and offset are whole numbers of 64 bits.
-/
import Derived.Test.YthaibdajbpdkcaaC1
namespace Go.Proofs.Ythaibdajbpdkcaa
open Go.Ev Go.RowKit
set_option maxRecDepth 100000
def Φ6 : Nat → List Int → Int
  | 9, [] => 1
  | 20, [s, a] => ofZ s a
  | 21, [s] => pgZ s
  | 22, [c, o] => blkZ c o
  | 23, [c, o] => max (blkZ c o) 0
  | 24, [c, o] => b2i (decide (0 ≤ blkZ c o))
  | _, _ => 0
def pI : Pm := .one (.int .i64)
def pB : Pm := .one .bool
def yesT (_ : Nat) : Bool := true
def a0T : Tm := .cons (.var .i64 0) .nil
def a23T : Tm := .cons (.var .i64 2) (.cons (.var .i64 3) .nil)
noncomputable def may0 (a : Nat) : Bool := Nat.beq a a0T.enc
noncomputable def may23 (a : Nat) : Bool := Nat.beq a a23T.enc
noncomputable def csT6 : List Ctr := [⟨14, [], [pB], 9, yesT⟩, ⟨12, [pI, pI], [pI], 20, yesT⟩, ⟨16, [pI, pI], [pI], 20, yesT⟩, ⟨13, [pI], [pI], 21, may0⟩, ⟨17, [pI], [pI], 21, may0⟩, ⟨15, [pI, pI], [pI], 22, yesT⟩, ⟨11, [pI, pI], [pI, pB], 23, may23⟩]
theorem csT6_ok (S : Sy) (hΦ : S.Φ = Φ6) (h0 : -9223372036854775808 ≤ S.ρ 0 ∧ S.ρ 0 < 9223372036854775808) (h3 : -9223372036854775808 ≤ S.ρ 3 ∧ S.ρ 3 < 9223372036854775808) : ∀ c ∈ csT6, CtrOk Try.prog S [] c := by
  obtain ⟨ρ, Φ, I, ok⟩ := S
  change Φ = Φ6 at hΦ
  subst hΦ
  intro c hc
  simp only [csT6, List.mem_cons, List.not_mem_nil, or_false] at hc
  rcases hc with rfl | rfl | rfl | rfl | rfl | rfl | rfl <;> intro a ns hm he hl w _
  · obtain rfl := len0 (show ns.length = 0 from hl)
    exact awake_any w
  · obtain ⟨x, y, rfl⟩ := len2 (show ns.length = 2 from hl)
    exact of_any x y w
  · obtain ⟨x, y, rfl⟩ := len2 (show ns.length = 2 from hl)
    exact rof_any x y w
  · cases Option.some.inj ((may_args (t := a0T) hm (by kernel_rfl) he).symm.trans (show a0T.den _ = some [ρ 0] from rfl))
    exact pg_any _ h0 w
  · cases Option.some.inj ((may_args (t := a0T) hm (by kernel_rfl) he).symm.trans (show a0T.den _ = some [ρ 0] from rfl))
    exact rpg_any _ h0 w
  · obtain ⟨x, y, rfl⟩ := len2 (show ns.length = 2 from hl)
    exact rbl_any x y w
  · cases Option.some.inj ((may_args (t := a23T) hm (by kernel_rfl) he).symm.trans (show a23T.den _ = some [ρ 2, ρ 3] from rfl))
    exact bl_any _ _ h3 w
def t_tells_b_0 : Tm := (.bin .eql (.app .i64 20 (.cons (.var .i64 0) (.cons (.var .i64 1) .nil))) (.app .i64 20 (.cons (.var .i64 0) (.cons (.var .i64 1) .nil))))
def t_tells_b_1 : Tm := (.bin .eql (.app .i64 21 (.cons (.var .i64 0) .nil)) (.app .i64 21 (.cons (.var .i64 0) .nil)))
def t_tells_b_2 : Tm := (.beq (.appB 24 (.cons (.var .i64 2) (.cons (.var .i64 3) .nil))) (.bin .geq (.app .i64 22 (.cons (.var .i64 2) (.cons (.var .i64 3) .nil))) (.lit .i64 0)))
def t_tells_b_3 : Tm := (.bin .eql (.app .i64 23 (.cons (.var .i64 2) (.cons (.var .i64 3) .nil))) (.mx true (.app .i64 22 (.cons (.var .i64 2) (.cons (.var .i64 3) .nil))) (.lit .i64 0)))
theorem tells_b (x0 : Int) (x1 : Int) (x2 : Int) (x3 : Int) (h0 : -9223372036854775808 ≤ x0 ∧ x0 < 9223372036854775808) (h3 : -9223372036854775808 ≤ x3 ∧ x3 < 9223372036854775808) (w : World) : Calls Try.prog 4 #[.int .i64 x0, .int .i64 x1, .int .i64 x2, .int .i64 x3] w fun e w' => e = .returned (bundle (fillP [.one .bool] [b2i true])) ∧ Quiet w w' := by
  obtain ⟨S, hS⟩ : ∃ S : Sy, S = ⟨upd (fun _ => 0) [(0, x0), (1, x1), (2, x2), (3, x3)], Φ6, [], fun _ h => by simp at h⟩ := ⟨_, rfl⟩
  have i0 : S.ρ 0 = x0 := by rw [hS]; rfl
  have i1 : S.ρ 1 = x1 := by rw [hS]; rfl
  have i2 : S.ρ 2 = x2 := by rw [hS]; rfl
  have i3 : S.ρ 3 = x3 := by rw [hS]; rfl
  have hI : S.I = [] := by rw [hS]
  have hvs : ∀ G ι, VsOk S G ι [vv .i64 0, vv .i64 1, vv .i64 2, vv .i64 3] [.int .i64 x0, .int .i64 x1, .int .i64 x2, .int .i64 x3] := fun G ι => (vs_sym i0 (vs_sym i1 (vs_sym i2 (vs_sym i3 vs_nil))))
  have hΦ : S.Φ = Φ6 := by rw [hS]
  subst i0
  subst i1
  subst i2
  subst i3
  have c0 : (S.Φ 20 [S.ρ 0, S.ρ 1]) = (S.Φ 20 [S.ρ 0, S.ρ 1]) := rfl
  have d0 : t_tells_b_0.den S = some [b2i true] := tr (p := (S.Φ 20 [S.ρ 0, S.ρ 1]) = (S.Φ 20 [S.ρ 0, S.ρ 1])) c0
  have c1 : (S.Φ 21 [S.ρ 0]) = (S.Φ 21 [S.ρ 0]) := rfl
  have d1 : t_tells_b_1.den S = some [b2i true] := tr (p := (S.Φ 21 [S.ρ 0]) = (S.Φ 21 [S.ρ 0])) c1
  have c2 : (b2i (decide (S.Φ 24 [S.ρ 2, S.ρ 3] ≠ 0))) = (b2i (decide ((0 : Int) ≤ (S.Φ 22 [S.ρ 2, S.ρ 3])))) := by rw [hΦ]; first | rfl | (show b2i (decide (b2i (decide (0 ≤ blkZ (S.ρ 2) (S.ρ 3))) ≠ 0)) = b2i (decide (0 ≤ blkZ (S.ρ 2) (S.ρ 3))); by_cases hq : 0 ≤ blkZ (S.ρ 2) (S.ρ 3) <;> simp [hq, b2i]) | (show max (blkZ (S.ρ 2) (S.ρ 3)) 0 = if blkZ (S.ρ 2) (S.ρ 3) < 0 then 0 else blkZ (S.ρ 2) (S.ρ 3); split <;> omega)
  have d2 : t_tells_b_2.den S = some [b2i true] := tr (p := (b2i (decide (S.Φ 24 [S.ρ 2, S.ρ 3] ≠ 0))) = (b2i (decide ((0 : Int) ≤ (S.Φ 22 [S.ρ 2, S.ρ 3]))))) c2
  have c3 : (S.Φ 23 [S.ρ 2, S.ρ 3]) = (if (S.Φ 22 [S.ρ 2, S.ρ 3]) < (0 : Int) then (0 : Int) else (S.Φ 22 [S.ρ 2, S.ρ 3])) := by rw [hΦ]; first | rfl | (show b2i (decide (b2i (decide (0 ≤ blkZ (S.ρ 2) (S.ρ 3))) ≠ 0)) = b2i (decide (0 ≤ blkZ (S.ρ 2) (S.ρ 3))); by_cases hq : 0 ≤ blkZ (S.ρ 2) (S.ρ 3) <;> simp [hq, b2i]) | (show max (blkZ (S.ρ 2) (S.ρ 3)) 0 = if blkZ (S.ρ 2) (S.ρ 3) < 0 then 0 else blkZ (S.ρ 2) (S.ρ 3); split <;> omega)
  have d3 : t_tells_b_3.den S = some [b2i true] := tr (p := (S.Φ 23 [S.ρ 2, S.ρ 3]) = (if (S.Φ 22 [S.ρ 2, S.ρ 3]) < (0 : Int) then (0 : Int) else (S.Φ 22 [S.ρ 2, S.ρ 3]))) c3
  have r0 : b2i true = (b2i (decide (S.Φ 9 [] ≠ 0))) := by rw [hΦ]; rfl
  rw [r0]
  exact symL env gok (ai t_tells_b_3 true d3 (ai t_tells_b_2 true d2 (ai t_tells_b_1 true d1 (ai t_tells_b_0 true d0 (AlOk.nil _))))) (csT6_ok S hΦ h0 h3) hvs w hI [.float .f64 ((.appB 9 .nil) : Tm).enc] (csT (.appB 9 .nil) rfl cs_nil) (by kernel_rfl) (fun G => by kernel_rfl)
theorem tells_any (x0 x1 x2 x3 : Int) (h0 : -9223372036854775808 ≤ x0 ∧ x0 < 9223372036854775808) (h3 : -9223372036854775808 ≤ x3 ∧ x3 < 9223372036854775808) (w : World) : Calls Try.prog 4 #[.int .i64 x0, .int .i64 x1, .int .i64 x2, .int .i64 x3] w fun e w' => e = .returned (.bool true) ∧ Quiet w w' :=
  (tells_b x0 x1 x2 x3 h0 h3 w).mono fun _ _ ⟨h, x⟩ => ⟨yes1 h, x⟩
end Go.Proofs.Ythaibdajbpdkcaa
