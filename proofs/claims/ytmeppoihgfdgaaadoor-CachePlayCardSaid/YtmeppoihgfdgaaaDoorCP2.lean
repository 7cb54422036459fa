/-
  CachePlay: the patterns, the inner loop. Conditions: the invariants.
-/
import Derived.Test.YtmeppoihgfdgaaaDoorCP1
namespace Go.Proofs.YtmeppoihgfdgaaaDoor
open Go.Ev Go.RowKit
set_option maxRecDepth 100000
set_option linter.unusedVariables false
set_option maxHeartbeats 1000000
noncomputable def inLP : Value := inS 0 (dsc 1 20 [5, 5, 5, 5, 8])
def owP (b i : Nat) : Value := .float .f32 (mk 3 0 b (i * 512 + 3))
noncomputable def rwWP (f : Nat) : Blk := .arr ⟨42 * 512 + 3, [(some .u64, .var f)], 31⟩
noncomputable def rwAP (f h : Nat) : Blk := .arr ⟨10 * 512 + 3, [(some .u64, .var f), (some .u64, .var h)], 41⟩
noncomputable def zBP : Blk := .cells (mkCells (Array.replicate 64 (.int .u8 0)) 5)
noncomputable def mOP : Blk := .cells (mkCells #[owP 85 42, .slice (some ⟨86, 0, none⟩) 64 64] 74)
noncomputable def gBP : Blk := .cells (mkCells #[.int .i64 1, vv .i64 9, .int .i64 0, .int .i64 1, .int .i64 2, .int .i64 7, .int .i64 16, .int .i64 17, .int .i64 21, vv .i64 30, vv .i64 31, vv .i64 32, vv .i64 33, vv .i64 34, vv .i64 35, vv .i64 36, vv .i64 37, vv .i64 38, vv .i64 39, vv .i64 40, vv .i64 41, vv .i64 42] 24)
noncomputable def tBP (ty : TypeId) : Blk := .cells (mkCells tab ty)
noncomputable def hPP (ty : TypeId) (f h k : Nat) : List (Nat × Blk) := [(0, (tBP ty)), (85, rwWP f), (86, zBP), (87, mOP), (88, gBP), (89, rwAP h k)]
noncomputable def frP0XP : List (Nat × Value) := [(1, inLP), (5, vv .i64 9), (6, .pointer (some ⟨88, 0, none⟩)), (7, .pointer (some ⟨87, 0, none⟩)), (8, owP 89 10)]
noncomputable def XPP (ty : TypeId) : Pat := ⟨214, 90, frP0XP ++ [(9, vv .i64 17)], hPP ty 60 61 62⟩
noncomputable def FPP : Pat := ⟨214, 90, [], []⟩
noncomputable def XQP (ty : TypeId) : Pat := ⟨214, 400, frP0XP ++ [(9, vv .i64 17), (18, vv .i64 28)], hPP ty 63 64 65⟩
noncomputable def FQP (ty : TypeId) : Pat := ⟨214, 400, frP0XP ++ [(9, vv .i64 17)], hPP ty 63 64 65⟩
def lpPP : Mrk := (5, [1, 1, 1, 1, 1, 1, 0, 1, 0])
def lpQP : Mrk := (5, [1, 1, 1, 1, 1, 1, 0, 1, 0, 0, 1, 0, 0, 1, 1, 1, 1, 1, 1, 1, 0])
noncomputable abbrev ΛP : Nat → Option Code := lamOf Tryd.prog [lpPP, lpQP]
noncomputable abbrev ftP : Nat → Option Func := ftM Tryd.prog [lpPP, lpQP]
theorem envP : @EnvOk ⟨ΛP⟩ Tryd.prog ftP := envM env [lpPP, lpQP] (by kernel_rfl)
theorem codePP : codeAt Tryd.prog lpPP = some (.loop (cAt Tryd.prog lpPP)) := by kernel_rfl
theorem finePP : fineC Tryd.prog.globals.size (cAt Tryd.prog lpPP) = true := by kernel_rfl
theorem codeQP : codeAt Tryd.prog lpQP = some (.loop (cAt Tryd.prog lpQP)) := by kernel_rfl
theorem fineQP : fineC Tryd.prog.globals.size (cAt Tryd.prog lpQP) = true := by kernel_rfl
theorem noC {S : Sy} (c : Ctr) (h : c ∈ ([] : List Ctr)) {gs : Gs} : CtrOk Tryd.prog S gs c := by simp at h
section
variable {ty : TypeId}
set_option maxHeartbeats 4000000 in
theorem runQ {S1 : Sy} (ty : TypeId) (ha : AlOk S1 (alGL ++ (alLL ++ alQL))) (G : Nat → Option Obj) : rOutR 400 [] (XQP ty) (FQP ty) Tryd.prog.globals.size (runM Tryd.prog ΛP (fun _ _ _ => none) ftP ha [] G 1000 (.code (cAt Tryd.prog lpQP) (XQP ty).A) ((XQP ty).H Tryd.prog)) = some (none, [(1, .num (Tm.enc (.var .i64 1))), (9, .num (Tm.enc (.var .i64 9))), (10, .num (Tm.enc (.var .i64 10))), (17, .num (Tm.enc (.var .i64 17))), (28, .num (Tm.enc (.bin .add (.var .i64 28) (.lit .i64 1)))), (42, .num (Tm.enc (.var .i64 42))), (63, .arr (.var 63)), (42, .num (Tm.enc (.var .i64 42))), (42, .num (Tm.enc (.var .i64 42))), (41, .num (Tm.enc (.var .i64 41))), (40, .num (Tm.enc (.var .i64 40))), (39, .num (Tm.enc (.var .i64 39))), (38, .num (Tm.enc (.var .i64 38))), (37, .num (Tm.enc (.var .i64 37))), (36, .num (Tm.enc (.var .i64 36))), (35, .num (Tm.enc (.var .i64 35))), (34, .num (Tm.enc (.var .i64 34))), (33, .num (Tm.enc (.var .i64 33))), (32, .num (Tm.enc (.var .i64 32))), (31, .num (Tm.enc (.var .i64 31))), (30, .num (Tm.enc (.var .i64 30))), (9, .num (Tm.enc (.var .i64 9))), (10, .num (Tm.enc (.var .i64 10))), (64, .arr (.var 64)), (65, .arr (.var 65))]) := by kernel_rfl
set_option maxHeartbeats 4000000 in
theorem stepQ {S1 : Sy} {k : Int} (N : InvQ S1 k) (hl : k < S1.ρ 10) : ∃ S2, StepTo Tryd.prog ftP ΛP (gsT ty) (cAt Tryd.prog lpQP) (XQP ty) (FQP ty) 400 S1 S2 ∧ InvQ S2 (k + 1) ∧ Stay [28, 80, 81, 82, 84, 85, 86, 87] [] S1 S2 := by
  have hK := N.geo.K
  have k0 := N.k0; have ht := N.geo.t; have h10 := N.geo.e10
  have y : Stay [28, 80, 81, 82, 84, 85, 86, 87] [] S1 (S1.set (upd S1.ρ [(28, k + 1), (80, (k + 1) / 4), (81, 4 * ((k + 1) / 4)), (82, (k + 1) % 4), (84, 2 * (k + 1)), (85, 2 * (k + 1) + 1), (86, S1.ρ 35 + 2 * (k + 1)), (87, S1.ρ 35 + 2 * (k + 1) + 1)]) [] 60 rfl hK) := (Stay.refl _ _ _).set rfl rfl
  refine ⟨S1.set (upd S1.ρ [(28, k + 1), (80, (k + 1) / 4), (81, 4 * ((k + 1) / 4)), (82, (k + 1) % 4), (84, 2 * (k + 1)), (85, 2 * (k + 1) + 1), (86, S1.ρ 35 + 2 * (k + 1)), (87, S1.ρ 35 + 2 * (k + 1) + 1)]) [] 60 rfl hK, ⟨_, [], _, 1000, _, [], (AlOk.app (alG_ok N.geo) (AlOk.app (alL_ok N.geo) (alQ_ok N hl))), fun c hc => noC c hc, LkOk.no _ _ _ _, (av 1 .i64 (av 9 .i64 (av 10 .i64 (av 17 .i64 (an 28 (.bin .add (.var .i64 28) (.lit .i64 1)) (sm (show IntKind.i64.wrap (S1.ρ 28 + (1 : Int)) = k + 1 from by rw [N.hk, w_i64 (by omega) (by omega)])) (av 42 .i64 (ar 63 (ar_var 63) (av 42 .i64 (av 42 .i64 (av 41 .i64 (av 40 .i64 (av 39 .i64 (av 38 .i64 (av 37 .i64 (av 36 .i64 (av 35 .i64 (av 34 .i64 (av 33 .i64 (av 32 .i64 (av 31 .i64 (av 30 .i64 (av 9 .i64 (av 10 .i64 (ar 64 (ar_var 64) (ar 65 (ar_var 65) (asg_nil rfl)))))))))))))))))))))))))), runQ ty _⟩, ⟨N.geo.stay y rfl, by omega, (show k + 1 ≤ S1.ρ 10 by omega), rfl, rfl, rfl, rfl, rfl, rfl, rfl, rfl, N.agree.stay y rfl⟩, y⟩
def xQT : Tm := .bin .lss (.var .i64 28) (.var .i64 10)
theorem outQ {S1 : Sy} {k : Int} (N : InvQ S1 k) (hk : k = S1.ρ 10) : StepOut Tryd.prog ftP ΛP (gsT ty) (cAt Tryd.prog lpQP) (XQP ty) (FQP ty) (.exit 3) 400 S1 S1 := by
  have hl := N.hk
  exact ⟨_, [], _, 1000, _, [], (ai xQT false (fls (p := S1.ρ 28 < S1.ρ 10) (by omega)) (AlOk.app (alG_ok N.geo) (alL_ok N.geo))), fun c hc => noC c hc, LkOk.no _ _ _ _, (av 1 .i64 (av 9 .i64 (av 10 .i64 (av 17 .i64 (av 42 .i64 (ar 63 (ar_var 63) (av 42 .i64 (av 42 .i64 (av 41 .i64 (av 40 .i64 (av 39 .i64 (av 38 .i64 (av 37 .i64 (av 36 .i64 (av 35 .i64 (av 34 .i64 (av 33 .i64 (av 32 .i64 (av 31 .i64 (av 30 .i64 (av 9 .i64 (av 10 .i64 (ar 64 (ar_var 64) (ar 65 (ar_var 65) (asg_nil rfl))))))))))))))))))))))))), fun G => by kernel_rfl⟩
theorem stay_weak {vs fs vs' fs' : List Nat} {S T : Sy} (h : Stay vs fs S T) (hv : (vs.all fun v => vs'.any fun u => Nat.beq u v) = true) (hf : (fs.all fun v => fs'.any fun u => Nat.beq u v) = true) : Stay vs' fs' S T := by
  have key : ∀ {xs ys : List Nat} {v : Nat}, (xs.all fun v => ys.any fun u => Nat.beq u v) = true → (ys.any fun u => Nat.beq u v) = false → (xs.any fun u => Nat.beq u v) = false := fun {xs ys v} h1 h2 => by
    cases hb : xs.any fun u => Nat.beq u v with
    | false => rfl
    | true =>
      obtain ⟨u, hu, e⟩ := List.any_eq_true.1 hb
      have := List.all_eq_true.1 h1 u hu
      rw [Nat.eq_of_beq_eq_true e, h2] at this
      simp at this
  exact ⟨h.1, fun v hh => h.2.1 v (key hv hh), fun f hh => h.2.2 f (key hf hh)⟩
theorem chainQ : ∀ (m : Nat) (S0 : Sy) (k : Int), InvQ S0 k → k + m = S0.ρ 10 → ∃ Sf, Chain (StepTo Tryd.prog ftP ΛP (gsT ty) (cAt Tryd.prog lpQP) (XQP ty) (FQP ty) 400) m S0 Sf ∧ InvQ Sf (Sf.ρ 10) ∧ Stay [28, 80, 81, 82, 84, 85, 86, 87] [] S0 Sf
  | 0, S0, k, N, h => ⟨S0, .nil _, by rwa [show S0.ρ 10 = k by omega], Stay.refl _ _ _⟩
  | m + 1, S0, k, N, h => by
    obtain ⟨S2, st, N2, y⟩ := stepQ (ty := ty) N (by omega)
    have e := y.num 10 rfl
    obtain ⟨Sf, ch, Nf, z⟩ := chainQ m S2 (k + 1) N2 (by omega)
    exact ⟨Sf, .cons st ch, Nf, stay_weak (y.trans z) rfl rfl⟩
noncomputable def cPA : Code := annM [([1, 0, 0, 1, 1, 1, 1, 1, 1, 1, 0], 1)] (cAt Tryd.prog lpPP)
theorem annP : @Ann ⟨ΛP⟩ cPA (cAt Tryd.prog lpPP) := @annM_ok ⟨ΛP⟩ _ _ fun p n h => by
  simp only [List.mem_singleton, Prod.mk.injEq] at h
  obtain ⟨rfl, rfl⟩ := h
  exact ⟨.loop (cAt Tryd.prog lpQP), by kernel_rfl, by kernel_rfl⟩
def noL (_ : Fr) (_ : Heap) : Option (AExit × Fr × Heap) := none
theorem noL_at {S : Sy} {gs : Gs} {c : Code} : LkAt Tryd.prog S gs c noL := fun _ _ _ _ _ _ _ h => by simp [noL] at h
end
end Go.Proofs.YtmeppoihgfdgaaaDoor
