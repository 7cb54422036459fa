/-
  CacheTells: some of its ways. Conditions: those each says.
-/
import Derived.Test.YtmeppoihgfdgaaaDoorCA2
namespace Go.Proofs.YtmeppoihgfdgaaaDoor
open Go.Ev Go.RowKit
set_option maxRecDepth 100000
set_option linter.unusedVariables false
noncomputable abbrev lkWN0 (ty : TypeId) := lkLoopR Tryd.prog 400 [] (XDT ty) (FDT ty) (.exit 0) [(42, .num (Tm.enc (.var .i64 42))), (42, .num (Tm.enc (.var .i64 42))), (42, .num (Tm.enc (.var .i64 42))), (83, .num (Tm.enc (.lit .i64 0))), (42, .num (Tm.enc (.var .i64 42))), (60, .arr .zero), (42, .num (Tm.enc (.var .i64 42))), (42, .num (Tm.enc (.var .i64 42))), (41, .num (Tm.enc (.var .i64 41))), (40, .num (Tm.enc (.var .i64 40))), (39, .num (Tm.enc (.var .i64 39))), (38, .num (Tm.enc (.var .i64 38))), (37, .num (Tm.enc (.var .i64 37))), (36, .num (Tm.enc (.var .i64 36))), (35, .num (Tm.enc (.var .i64 35))), (34, .num (Tm.enc (.var .i64 34))), (33, .num (Tm.enc (.var .i64 33))), (32, .num (Tm.enc (.var .i64 32))), (31, .num (Tm.enc (.var .i64 31))), (30, .num (Tm.enc (.var .i64 30))), (9, .num (Tm.enc (.var .i64 9))), (42, .num (Tm.enc (.var .i64 42))), (62, .arr .zero)]
noncomputable def alLawN0 : List (Nat × Value) := (awT.enc, .bool true) :: (alWL ++ (alGL ++ (alLL ++ (alNL ++ alE0L))))
theorem runWN0 {T : Sy} (ty : TypeId) (ha : AlOk T alLawN0) (G : Nat → Option Obj) : outV (runM Tryd.prog ΛT (lkL [lkWN0 ty]) ftT ha [cAw] G 1000 (.fn 4 [vv .u8 2, vv .u8 3, vv .u8 4, vv .i64 20, vv .u64 21, vv .u64 22, vv .u64 25].toArray) (H0g Tryd.prog (gsT ty))) = some (bundle [.bool true]) := by kernel_rfl
set_option maxHeartbeats 8000000 in
theorem tellsN0 {SS : Sy} (h : TIn SS) (hc : SS.ρ 20 < 0) (d25 : SS.ρ 25 ≠ 0) (h9 : SS.Φ 9 [] = 1) (ty : TypeId) (w : World) (hw : GOk Tryd.prog (gsT ty) w) : Calls Tryd.prog 4 #[.int .u8 (SS.ρ 2), .int .u8 (SS.ρ 3), .int .u8 (SS.ρ 4), .int .i64 (SS.ρ 20), .int .u64 (SS.ρ 21), .int .u64 (SS.ρ 22), .int .u64 (SS.ρ 25)] w fun e w' => e = .returned (.bool true) ∧ Quiet w w' := by
  have hK := h.toGeo1.K
  have hb42 := h.e42; have hbt := h.t; have hb7 := h.e7; have hb11 := h.e11; have hb24 := h.b24; have hb14 := h.b14
  obtain ⟨n0, hb0⟩ : ∃ n0 : Nat, SS.ρ 42 = n0 := ⟨(SS.ρ 42).toNat, by omega⟩
  have hn0 : n0 < 9223372036854775807 := by omega
  have h54 := h.e54; have h55 := h.e55; have h74 := h.e74; have h75 := h.e75
  clear hb42 hbt hb7 hb11 hb24 hb14
  obtain ⟨S00, hS00⟩ : ∃ S0 : Sy, S0 = SS.set (upd SS.ρ [(83, (0 : Int))]) [(60, fun _ => 0), (62, fun _ => 0)] 60 rfl hK := ⟨_, rfl⟩
  have q0 : Stay [83] [60, 62] SS S00 := by rw [hS00]; exact (Stay.refl [83] [60, 62] _).set rfl rfl
  have s0_83 : S00.ρ 83 = (0 : Int) := by rw [hS00]; rfl
  have z0_60 : ∀ j : Int, S00.Φ 60 [j] = (fun _ => 0) j := by rw [hS00]; intro j; rfl
  have z0_62 : ∀ j : Int, S00.Φ 62 [j] = (fun _ => 0) j := by rw [hS00]; intro j; rfl
  have a0 := q0
  have hK0 : ∀ x ∈ S00.I, x.f + x.ks.length ≤ 60 := by rw [a0.1]; exact hK
  obtain ⟨Sf0, ⟨e0, fr0⟩, lk0⟩ := loopTD ty S00 n0 hn0 ((a0.num 42 rfl).trans hb0) (fun j => by rw [z0_60 j, z0_62 j] <;> (dsimp only [ifE]; (repeat' split) <;> first | rfl | omega)) hK0 s0_83
  have b0 := a0.trans fr0
  have g0 := fr0
  have p0 := q0.trans g0
  have hlk := LkOk.all (P := Tryd.prog) (S := Sf0) (gs := (gsT ty)) (ms := [lpT0]) (fs := [lkWN0 ty]) ⟨⟨_, codeT0, lk0 Sf0 _ (Same.refl _ _ _) (an 42 (.var .i64 42) (sm (g0.num 42 rfl)) (an 42 (.var .i64 42) (sm (g0.num 42 rfl)) (an 42 (.var .i64 42) (sm (g0.num 42 rfl)) (an 83 (.lit .i64 0) (sm s0_83.symm) (an 42 (.var .i64 42) (sm (g0.num 42 rfl)) (asg_arr (i := 60) (fun j => congrArg some (z0_60 j).symm) (an 42 (.var .i64 42) (sm (g0.num 42 rfl)) (an 42 (.var .i64 42) (sm (g0.num 42 rfl)) (an 41 (.var .i64 41) (sm (g0.num 41 rfl)) (an 40 (.var .i64 40) (sm (g0.num 40 rfl)) (an 39 (.var .i64 39) (sm (g0.num 39 rfl)) (an 38 (.var .i64 38) (sm (g0.num 38 rfl)) (an 37 (.var .i64 37) (sm (g0.num 37 rfl)) (an 36 (.var .i64 36) (sm (g0.num 36 rfl)) (an 35 (.var .i64 35) (sm (g0.num 35 rfl)) (an 34 (.var .i64 34) (sm (g0.num 34 rfl)) (an 33 (.var .i64 33) (sm (g0.num 33 rfl)) (an 32 (.var .i64 32) (sm (g0.num 32 rfl)) (an 31 (.var .i64 31) (sm (g0.num 31 rfl)) (an 30 (.var .i64 30) (sm (g0.num 30 rfl)) (an 9 (.var .i64 9) (sm (g0.num 9 rfl)) (an 42 (.var .i64 42) (sm (g0.num 42 rfl)) (asg_arr (i := 62) (fun j => congrArg some (z0_62 j).symm) (asg_nil g0.1.symm))))))))))))))))))))))))⟩, trivial⟩
  have hT := h.stay p0 rfl
  have h9T : Sf0.Φ 9 [] = 1 := (p0.fn 9 rfl []).trans h9
  have t2 : Sf0.ρ 2 = SS.ρ 2 := p0.num 2 rfl
  have t3 : Sf0.ρ 3 = SS.ρ 3 := p0.num 3 rfl
  have t4 : Sf0.ρ 4 = SS.ρ 4 := p0.num 4 rfl
  have t20 : Sf0.ρ 20 = SS.ρ 20 := p0.num 20 rfl
  have t21 : Sf0.ρ 21 = SS.ρ 21 := p0.num 21 rfl
  have t22 : Sf0.ρ 22 = SS.ρ 22 := p0.num 22 rfl
  have t25 : Sf0.ρ 25 = SS.ρ 25 := p0.num 25 rfl
  have hal : AlOk Sf0 alLawN0 := ai awT true (aw_den h9T) (AlOk.app (alW_ok hT) (AlOk.app (alG_ok hT.toGeo1) (AlOk.app (alL_ok hT.toGeo1) (AlOk.app (alN_ok hT (by rw [t20]; exact hc)) (alE0_ok (by rw [t25]; exact d25))))))
  exact symRunI envT hal (cAw_ok ty Sf0 h9T) hlk (n := 1000) (args := [vv .u8 2, vv .u8 3, vv .u8 4, vv .i64 20, vv .u64 21, vv .u64 22, vv .u64 25]) (args' := [.int .u8 (SS.ρ 2), .int .u8 (SS.ρ 3), .int .u8 (SS.ρ 4), .int .i64 (SS.ρ 20), .int .u64 (SS.ρ 21), .int .u64 (SS.ρ 22), .int .u64 (SS.ρ 25)]) (res := [.one .bool]) (vs := [.bool true]) (rcs := [litB true]) (rs := [1]) rfl ⟨ev_litB _ true, trivial⟩ (runWN0 ty hal) (fun G ι => vs_sym t2 (vs_sym t3 (vs_sym t4 (vs_sym t20 (vs_sym t21 (vs_sym t22 (vs_sym t25 vs_nil))))))) w hw (by rw [hT.I]; intro b o h; simp [inpL] at h)
noncomputable abbrev lkWN1 (ty : TypeId) := lkLoopR Tryd.prog 400 [] (XDT ty) (FDT ty) (.exit 0) [(42, .num (Tm.enc (.var .i64 42))), (42, .num (Tm.enc (.var .i64 42))), (42, .num (Tm.enc (.var .i64 42))), (83, .num (Tm.enc (.lit .i64 0))), (42, .num (Tm.enc (.var .i64 42))), (60, .arr .zero), (42, .num (Tm.enc (.var .i64 42))), (42, .num (Tm.enc (.var .i64 42))), (41, .num (Tm.enc (.var .i64 41))), (40, .num (Tm.enc (.var .i64 40))), (39, .num (Tm.enc (.var .i64 39))), (38, .num (Tm.enc (.var .i64 38))), (37, .num (Tm.enc (.var .i64 37))), (36, .num (Tm.enc (.var .i64 36))), (35, .num (Tm.enc (.var .i64 35))), (34, .num (Tm.enc (.var .i64 34))), (33, .num (Tm.enc (.var .i64 33))), (32, .num (Tm.enc (.var .i64 32))), (31, .num (Tm.enc (.var .i64 31))), (30, .num (Tm.enc (.var .i64 30))), (9, .num (Tm.enc (.var .i64 9))), (42, .num (Tm.enc (.var .i64 42))), (62, .arr .zero)]
noncomputable def alLawN1 : List (Nat × Value) := (awT.enc, .bool true) :: (alWL ++ (alGL ++ (alLL ++ (alNL ++ alE1L))))
theorem runWN1 {T : Sy} (ty : TypeId) (ha : AlOk T alLawN1) (G : Nat → Option Obj) : outV (runM Tryd.prog ΛT (lkL [lkWN1 ty]) ftT ha [cAw] G 1000 (.fn 4 [vv .u8 2, vv .u8 3, vv .u8 4, vv .i64 20, vv .u64 21, vv .u64 22, vv .u64 25].toArray) (H0g Tryd.prog (gsT ty))) = some (bundle [.bool true]) := by kernel_rfl
set_option maxHeartbeats 8000000 in
theorem tellsN1 {SS : Sy} (h : TIn SS) (hc : SS.ρ 20 < 0) (d25 : SS.ρ 25 = 0) (h9 : SS.Φ 9 [] = 1) (ty : TypeId) (w : World) (hw : GOk Tryd.prog (gsT ty) w) : Calls Tryd.prog 4 #[.int .u8 (SS.ρ 2), .int .u8 (SS.ρ 3), .int .u8 (SS.ρ 4), .int .i64 (SS.ρ 20), .int .u64 (SS.ρ 21), .int .u64 (SS.ρ 22), .int .u64 (SS.ρ 25)] w fun e w' => e = .returned (.bool true) ∧ Quiet w w' := by
  have hK := h.toGeo1.K
  have hb42 := h.e42; have hbt := h.t; have hb7 := h.e7; have hb11 := h.e11; have hb24 := h.b24; have hb14 := h.b14
  obtain ⟨n0, hb0⟩ : ∃ n0 : Nat, SS.ρ 42 = n0 := ⟨(SS.ρ 42).toNat, by omega⟩
  have hn0 : n0 < 9223372036854775807 := by omega
  have h54 := h.e54; have h55 := h.e55; have h74 := h.e74; have h75 := h.e75
  clear hb42 hbt hb7 hb11 hb24 hb14
  obtain ⟨S00, hS00⟩ : ∃ S0 : Sy, S0 = SS.set (upd SS.ρ [(83, (0 : Int))]) [(60, fun _ => 0), (62, fun _ => 0)] 60 rfl hK := ⟨_, rfl⟩
  have q0 : Stay [83] [60, 62] SS S00 := by rw [hS00]; exact (Stay.refl [83] [60, 62] _).set rfl rfl
  have s0_83 : S00.ρ 83 = (0 : Int) := by rw [hS00]; rfl
  have z0_60 : ∀ j : Int, S00.Φ 60 [j] = (fun _ => 0) j := by rw [hS00]; intro j; rfl
  have z0_62 : ∀ j : Int, S00.Φ 62 [j] = (fun _ => 0) j := by rw [hS00]; intro j; rfl
  have a0 := q0
  have hK0 : ∀ x ∈ S00.I, x.f + x.ks.length ≤ 60 := by rw [a0.1]; exact hK
  obtain ⟨Sf0, ⟨e0, fr0⟩, lk0⟩ := loopTD ty S00 n0 hn0 ((a0.num 42 rfl).trans hb0) (fun j => by rw [z0_60 j, z0_62 j] <;> (dsimp only [ifE]; (repeat' split) <;> first | rfl | omega)) hK0 s0_83
  have b0 := a0.trans fr0
  have g0 := fr0
  have p0 := q0.trans g0
  have hlk := LkOk.all (P := Tryd.prog) (S := Sf0) (gs := (gsT ty)) (ms := [lpT0]) (fs := [lkWN1 ty]) ⟨⟨_, codeT0, lk0 Sf0 _ (Same.refl _ _ _) (an 42 (.var .i64 42) (sm (g0.num 42 rfl)) (an 42 (.var .i64 42) (sm (g0.num 42 rfl)) (an 42 (.var .i64 42) (sm (g0.num 42 rfl)) (an 83 (.lit .i64 0) (sm s0_83.symm) (an 42 (.var .i64 42) (sm (g0.num 42 rfl)) (asg_arr (i := 60) (fun j => congrArg some (z0_60 j).symm) (an 42 (.var .i64 42) (sm (g0.num 42 rfl)) (an 42 (.var .i64 42) (sm (g0.num 42 rfl)) (an 41 (.var .i64 41) (sm (g0.num 41 rfl)) (an 40 (.var .i64 40) (sm (g0.num 40 rfl)) (an 39 (.var .i64 39) (sm (g0.num 39 rfl)) (an 38 (.var .i64 38) (sm (g0.num 38 rfl)) (an 37 (.var .i64 37) (sm (g0.num 37 rfl)) (an 36 (.var .i64 36) (sm (g0.num 36 rfl)) (an 35 (.var .i64 35) (sm (g0.num 35 rfl)) (an 34 (.var .i64 34) (sm (g0.num 34 rfl)) (an 33 (.var .i64 33) (sm (g0.num 33 rfl)) (an 32 (.var .i64 32) (sm (g0.num 32 rfl)) (an 31 (.var .i64 31) (sm (g0.num 31 rfl)) (an 30 (.var .i64 30) (sm (g0.num 30 rfl)) (an 9 (.var .i64 9) (sm (g0.num 9 rfl)) (an 42 (.var .i64 42) (sm (g0.num 42 rfl)) (asg_arr (i := 62) (fun j => congrArg some (z0_62 j).symm) (asg_nil g0.1.symm))))))))))))))))))))))))⟩, trivial⟩
  have hT := h.stay p0 rfl
  have h9T : Sf0.Φ 9 [] = 1 := (p0.fn 9 rfl []).trans h9
  have t2 : Sf0.ρ 2 = SS.ρ 2 := p0.num 2 rfl
  have t3 : Sf0.ρ 3 = SS.ρ 3 := p0.num 3 rfl
  have t4 : Sf0.ρ 4 = SS.ρ 4 := p0.num 4 rfl
  have t20 : Sf0.ρ 20 = SS.ρ 20 := p0.num 20 rfl
  have t21 : Sf0.ρ 21 = SS.ρ 21 := p0.num 21 rfl
  have t22 : Sf0.ρ 22 = SS.ρ 22 := p0.num 22 rfl
  have t25 : Sf0.ρ 25 = SS.ρ 25 := p0.num 25 rfl
  have hal : AlOk Sf0 alLawN1 := ai awT true (aw_den h9T) (AlOk.app (alW_ok hT) (AlOk.app (alG_ok hT.toGeo1) (AlOk.app (alL_ok hT.toGeo1) (AlOk.app (alN_ok hT (by rw [t20]; exact hc)) (alE1_ok (by rw [t25]; exact d25))))))
  exact symRunI envT hal (cAw_ok ty Sf0 h9T) hlk (n := 1000) (args := [vv .u8 2, vv .u8 3, vv .u8 4, vv .i64 20, vv .u64 21, vv .u64 22, vv .u64 25]) (args' := [.int .u8 (SS.ρ 2), .int .u8 (SS.ρ 3), .int .u8 (SS.ρ 4), .int .i64 (SS.ρ 20), .int .u64 (SS.ρ 21), .int .u64 (SS.ρ 22), .int .u64 (SS.ρ 25)]) (res := [.one .bool]) (vs := [.bool true]) (rcs := [litB true]) (rs := [1]) rfl ⟨ev_litB _ true, trivial⟩ (runWN1 ty hal) (fun G ι => vs_sym t2 (vs_sym t3 (vs_sym t4 (vs_sym t20 (vs_sym t21 (vs_sym t22 (vs_sym t25 vs_nil))))))) w hw (by rw [hT.I]; intro b o h; simp [inpL] at h)
noncomputable abbrev lkWH0 (ty : TypeId) := lkLoopR Tryd.prog 400 [] (XDT ty) (FDT ty) (.exit 0) [(42, .num (Tm.enc (.var .i64 42))), (42, .num (Tm.enc (.var .i64 42))), (42, .num (Tm.enc (.var .i64 42))), (83, .num (Tm.enc (.lit .i64 0))), (42, .num (Tm.enc (.var .i64 42))), (60, .arr .zero), (42, .num (Tm.enc (.var .i64 42))), (42, .num (Tm.enc (.var .i64 42))), (41, .num (Tm.enc (.var .i64 41))), (40, .num (Tm.enc (.var .i64 40))), (39, .num (Tm.enc (.var .i64 39))), (38, .num (Tm.enc (.var .i64 38))), (37, .num (Tm.enc (.var .i64 37))), (36, .num (Tm.enc (.var .i64 36))), (35, .num (Tm.enc (.var .i64 35))), (34, .num (Tm.enc (.var .i64 34))), (33, .num (Tm.enc (.var .i64 33))), (32, .num (Tm.enc (.var .i64 32))), (31, .num (Tm.enc (.var .i64 31))), (30, .num (Tm.enc (.var .i64 30))), (9, .num (Tm.enc (.var .i64 9))), (42, .num (Tm.enc (.var .i64 42))), (62, .arr .zero)]
noncomputable def alLawH0 : List (Nat × Value) := (awT.enc, .bool true) :: (alWL ++ (alGL ++ (alLL ++ (alHL ++ alE0L))))
theorem runWH0 {T : Sy} (ty : TypeId) (ha : AlOk T alLawH0) (G : Nat → Option Obj) : outV (runM Tryd.prog ΛT (lkL [lkWH0 ty]) ftT ha [cAw] G 1000 (.fn 4 [vv .u8 2, vv .u8 3, vv .u8 4, vv .i64 20, vv .u64 21, vv .u64 22, vv .u64 25].toArray) (H0g Tryd.prog (gsT ty))) = some (bundle [.bool true]) := by kernel_rfl
set_option maxHeartbeats 8000000 in
theorem tellsH0 {SS : Sy} (h : TIn SS) (hc : 3 < SS.ρ 20) (d25 : SS.ρ 25 ≠ 0) (h9 : SS.Φ 9 [] = 1) (ty : TypeId) (w : World) (hw : GOk Tryd.prog (gsT ty) w) : Calls Tryd.prog 4 #[.int .u8 (SS.ρ 2), .int .u8 (SS.ρ 3), .int .u8 (SS.ρ 4), .int .i64 (SS.ρ 20), .int .u64 (SS.ρ 21), .int .u64 (SS.ρ 22), .int .u64 (SS.ρ 25)] w fun e w' => e = .returned (.bool true) ∧ Quiet w w' := by
  have hK := h.toGeo1.K
  have hb42 := h.e42; have hbt := h.t; have hb7 := h.e7; have hb11 := h.e11; have hb24 := h.b24; have hb14 := h.b14
  obtain ⟨n0, hb0⟩ : ∃ n0 : Nat, SS.ρ 42 = n0 := ⟨(SS.ρ 42).toNat, by omega⟩
  have hn0 : n0 < 9223372036854775807 := by omega
  have h54 := h.e54; have h55 := h.e55; have h74 := h.e74; have h75 := h.e75
  clear hb42 hbt hb7 hb11 hb24 hb14
  obtain ⟨S00, hS00⟩ : ∃ S0 : Sy, S0 = SS.set (upd SS.ρ [(83, (0 : Int))]) [(60, fun _ => 0), (62, fun _ => 0)] 60 rfl hK := ⟨_, rfl⟩
  have q0 : Stay [83] [60, 62] SS S00 := by rw [hS00]; exact (Stay.refl [83] [60, 62] _).set rfl rfl
  have s0_83 : S00.ρ 83 = (0 : Int) := by rw [hS00]; rfl
  have z0_60 : ∀ j : Int, S00.Φ 60 [j] = (fun _ => 0) j := by rw [hS00]; intro j; rfl
  have z0_62 : ∀ j : Int, S00.Φ 62 [j] = (fun _ => 0) j := by rw [hS00]; intro j; rfl
  have a0 := q0
  have hK0 : ∀ x ∈ S00.I, x.f + x.ks.length ≤ 60 := by rw [a0.1]; exact hK
  obtain ⟨Sf0, ⟨e0, fr0⟩, lk0⟩ := loopTD ty S00 n0 hn0 ((a0.num 42 rfl).trans hb0) (fun j => by rw [z0_60 j, z0_62 j] <;> (dsimp only [ifE]; (repeat' split) <;> first | rfl | omega)) hK0 s0_83
  have b0 := a0.trans fr0
  have g0 := fr0
  have p0 := q0.trans g0
  have hlk := LkOk.all (P := Tryd.prog) (S := Sf0) (gs := (gsT ty)) (ms := [lpT0]) (fs := [lkWH0 ty]) ⟨⟨_, codeT0, lk0 Sf0 _ (Same.refl _ _ _) (an 42 (.var .i64 42) (sm (g0.num 42 rfl)) (an 42 (.var .i64 42) (sm (g0.num 42 rfl)) (an 42 (.var .i64 42) (sm (g0.num 42 rfl)) (an 83 (.lit .i64 0) (sm s0_83.symm) (an 42 (.var .i64 42) (sm (g0.num 42 rfl)) (asg_arr (i := 60) (fun j => congrArg some (z0_60 j).symm) (an 42 (.var .i64 42) (sm (g0.num 42 rfl)) (an 42 (.var .i64 42) (sm (g0.num 42 rfl)) (an 41 (.var .i64 41) (sm (g0.num 41 rfl)) (an 40 (.var .i64 40) (sm (g0.num 40 rfl)) (an 39 (.var .i64 39) (sm (g0.num 39 rfl)) (an 38 (.var .i64 38) (sm (g0.num 38 rfl)) (an 37 (.var .i64 37) (sm (g0.num 37 rfl)) (an 36 (.var .i64 36) (sm (g0.num 36 rfl)) (an 35 (.var .i64 35) (sm (g0.num 35 rfl)) (an 34 (.var .i64 34) (sm (g0.num 34 rfl)) (an 33 (.var .i64 33) (sm (g0.num 33 rfl)) (an 32 (.var .i64 32) (sm (g0.num 32 rfl)) (an 31 (.var .i64 31) (sm (g0.num 31 rfl)) (an 30 (.var .i64 30) (sm (g0.num 30 rfl)) (an 9 (.var .i64 9) (sm (g0.num 9 rfl)) (an 42 (.var .i64 42) (sm (g0.num 42 rfl)) (asg_arr (i := 62) (fun j => congrArg some (z0_62 j).symm) (asg_nil g0.1.symm))))))))))))))))))))))))⟩, trivial⟩
  have hT := h.stay p0 rfl
  have h9T : Sf0.Φ 9 [] = 1 := (p0.fn 9 rfl []).trans h9
  have t2 : Sf0.ρ 2 = SS.ρ 2 := p0.num 2 rfl
  have t3 : Sf0.ρ 3 = SS.ρ 3 := p0.num 3 rfl
  have t4 : Sf0.ρ 4 = SS.ρ 4 := p0.num 4 rfl
  have t20 : Sf0.ρ 20 = SS.ρ 20 := p0.num 20 rfl
  have t21 : Sf0.ρ 21 = SS.ρ 21 := p0.num 21 rfl
  have t22 : Sf0.ρ 22 = SS.ρ 22 := p0.num 22 rfl
  have t25 : Sf0.ρ 25 = SS.ρ 25 := p0.num 25 rfl
  have hal : AlOk Sf0 alLawH0 := ai awT true (aw_den h9T) (AlOk.app (alW_ok hT) (AlOk.app (alG_ok hT.toGeo1) (AlOk.app (alL_ok hT.toGeo1) (AlOk.app (alH_ok hT (by rw [t20]; exact hc)) (alE0_ok (by rw [t25]; exact d25))))))
  exact symRunI envT hal (cAw_ok ty Sf0 h9T) hlk (n := 1000) (args := [vv .u8 2, vv .u8 3, vv .u8 4, vv .i64 20, vv .u64 21, vv .u64 22, vv .u64 25]) (args' := [.int .u8 (SS.ρ 2), .int .u8 (SS.ρ 3), .int .u8 (SS.ρ 4), .int .i64 (SS.ρ 20), .int .u64 (SS.ρ 21), .int .u64 (SS.ρ 22), .int .u64 (SS.ρ 25)]) (res := [.one .bool]) (vs := [.bool true]) (rcs := [litB true]) (rs := [1]) rfl ⟨ev_litB _ true, trivial⟩ (runWH0 ty hal) (fun G ι => vs_sym t2 (vs_sym t3 (vs_sym t4 (vs_sym t20 (vs_sym t21 (vs_sym t22 (vs_sym t25 vs_nil))))))) w hw (by rw [hT.I]; intro b o h; simp [inpL] at h)
noncomputable abbrev lkWH1 (ty : TypeId) := lkLoopR Tryd.prog 400 [] (XDT ty) (FDT ty) (.exit 0) [(42, .num (Tm.enc (.var .i64 42))), (42, .num (Tm.enc (.var .i64 42))), (42, .num (Tm.enc (.var .i64 42))), (83, .num (Tm.enc (.lit .i64 0))), (42, .num (Tm.enc (.var .i64 42))), (60, .arr .zero), (42, .num (Tm.enc (.var .i64 42))), (42, .num (Tm.enc (.var .i64 42))), (41, .num (Tm.enc (.var .i64 41))), (40, .num (Tm.enc (.var .i64 40))), (39, .num (Tm.enc (.var .i64 39))), (38, .num (Tm.enc (.var .i64 38))), (37, .num (Tm.enc (.var .i64 37))), (36, .num (Tm.enc (.var .i64 36))), (35, .num (Tm.enc (.var .i64 35))), (34, .num (Tm.enc (.var .i64 34))), (33, .num (Tm.enc (.var .i64 33))), (32, .num (Tm.enc (.var .i64 32))), (31, .num (Tm.enc (.var .i64 31))), (30, .num (Tm.enc (.var .i64 30))), (9, .num (Tm.enc (.var .i64 9))), (42, .num (Tm.enc (.var .i64 42))), (62, .arr .zero)]
noncomputable def alLawH1 : List (Nat × Value) := (awT.enc, .bool true) :: (alWL ++ (alGL ++ (alLL ++ (alHL ++ alE1L))))
theorem runWH1 {T : Sy} (ty : TypeId) (ha : AlOk T alLawH1) (G : Nat → Option Obj) : outV (runM Tryd.prog ΛT (lkL [lkWH1 ty]) ftT ha [cAw] G 1000 (.fn 4 [vv .u8 2, vv .u8 3, vv .u8 4, vv .i64 20, vv .u64 21, vv .u64 22, vv .u64 25].toArray) (H0g Tryd.prog (gsT ty))) = some (bundle [.bool true]) := by kernel_rfl
set_option maxHeartbeats 8000000 in
theorem tellsH1 {SS : Sy} (h : TIn SS) (hc : 3 < SS.ρ 20) (d25 : SS.ρ 25 = 0) (h9 : SS.Φ 9 [] = 1) (ty : TypeId) (w : World) (hw : GOk Tryd.prog (gsT ty) w) : Calls Tryd.prog 4 #[.int .u8 (SS.ρ 2), .int .u8 (SS.ρ 3), .int .u8 (SS.ρ 4), .int .i64 (SS.ρ 20), .int .u64 (SS.ρ 21), .int .u64 (SS.ρ 22), .int .u64 (SS.ρ 25)] w fun e w' => e = .returned (.bool true) ∧ Quiet w w' := by
  have hK := h.toGeo1.K
  have hb42 := h.e42; have hbt := h.t; have hb7 := h.e7; have hb11 := h.e11; have hb24 := h.b24; have hb14 := h.b14
  obtain ⟨n0, hb0⟩ : ∃ n0 : Nat, SS.ρ 42 = n0 := ⟨(SS.ρ 42).toNat, by omega⟩
  have hn0 : n0 < 9223372036854775807 := by omega
  have h54 := h.e54; have h55 := h.e55; have h74 := h.e74; have h75 := h.e75
  clear hb42 hbt hb7 hb11 hb24 hb14
  obtain ⟨S00, hS00⟩ : ∃ S0 : Sy, S0 = SS.set (upd SS.ρ [(83, (0 : Int))]) [(60, fun _ => 0), (62, fun _ => 0)] 60 rfl hK := ⟨_, rfl⟩
  have q0 : Stay [83] [60, 62] SS S00 := by rw [hS00]; exact (Stay.refl [83] [60, 62] _).set rfl rfl
  have s0_83 : S00.ρ 83 = (0 : Int) := by rw [hS00]; rfl
  have z0_60 : ∀ j : Int, S00.Φ 60 [j] = (fun _ => 0) j := by rw [hS00]; intro j; rfl
  have z0_62 : ∀ j : Int, S00.Φ 62 [j] = (fun _ => 0) j := by rw [hS00]; intro j; rfl
  have a0 := q0
  have hK0 : ∀ x ∈ S00.I, x.f + x.ks.length ≤ 60 := by rw [a0.1]; exact hK
  obtain ⟨Sf0, ⟨e0, fr0⟩, lk0⟩ := loopTD ty S00 n0 hn0 ((a0.num 42 rfl).trans hb0) (fun j => by rw [z0_60 j, z0_62 j] <;> (dsimp only [ifE]; (repeat' split) <;> first | rfl | omega)) hK0 s0_83
  have b0 := a0.trans fr0
  have g0 := fr0
  have p0 := q0.trans g0
  have hlk := LkOk.all (P := Tryd.prog) (S := Sf0) (gs := (gsT ty)) (ms := [lpT0]) (fs := [lkWH1 ty]) ⟨⟨_, codeT0, lk0 Sf0 _ (Same.refl _ _ _) (an 42 (.var .i64 42) (sm (g0.num 42 rfl)) (an 42 (.var .i64 42) (sm (g0.num 42 rfl)) (an 42 (.var .i64 42) (sm (g0.num 42 rfl)) (an 83 (.lit .i64 0) (sm s0_83.symm) (an 42 (.var .i64 42) (sm (g0.num 42 rfl)) (asg_arr (i := 60) (fun j => congrArg some (z0_60 j).symm) (an 42 (.var .i64 42) (sm (g0.num 42 rfl)) (an 42 (.var .i64 42) (sm (g0.num 42 rfl)) (an 41 (.var .i64 41) (sm (g0.num 41 rfl)) (an 40 (.var .i64 40) (sm (g0.num 40 rfl)) (an 39 (.var .i64 39) (sm (g0.num 39 rfl)) (an 38 (.var .i64 38) (sm (g0.num 38 rfl)) (an 37 (.var .i64 37) (sm (g0.num 37 rfl)) (an 36 (.var .i64 36) (sm (g0.num 36 rfl)) (an 35 (.var .i64 35) (sm (g0.num 35 rfl)) (an 34 (.var .i64 34) (sm (g0.num 34 rfl)) (an 33 (.var .i64 33) (sm (g0.num 33 rfl)) (an 32 (.var .i64 32) (sm (g0.num 32 rfl)) (an 31 (.var .i64 31) (sm (g0.num 31 rfl)) (an 30 (.var .i64 30) (sm (g0.num 30 rfl)) (an 9 (.var .i64 9) (sm (g0.num 9 rfl)) (an 42 (.var .i64 42) (sm (g0.num 42 rfl)) (asg_arr (i := 62) (fun j => congrArg some (z0_62 j).symm) (asg_nil g0.1.symm))))))))))))))))))))))))⟩, trivial⟩
  have hT := h.stay p0 rfl
  have h9T : Sf0.Φ 9 [] = 1 := (p0.fn 9 rfl []).trans h9
  have t2 : Sf0.ρ 2 = SS.ρ 2 := p0.num 2 rfl
  have t3 : Sf0.ρ 3 = SS.ρ 3 := p0.num 3 rfl
  have t4 : Sf0.ρ 4 = SS.ρ 4 := p0.num 4 rfl
  have t20 : Sf0.ρ 20 = SS.ρ 20 := p0.num 20 rfl
  have t21 : Sf0.ρ 21 = SS.ρ 21 := p0.num 21 rfl
  have t22 : Sf0.ρ 22 = SS.ρ 22 := p0.num 22 rfl
  have t25 : Sf0.ρ 25 = SS.ρ 25 := p0.num 25 rfl
  have hal : AlOk Sf0 alLawH1 := ai awT true (aw_den h9T) (AlOk.app (alW_ok hT) (AlOk.app (alG_ok hT.toGeo1) (AlOk.app (alL_ok hT.toGeo1) (AlOk.app (alH_ok hT (by rw [t20]; exact hc)) (alE1_ok (by rw [t25]; exact d25))))))
  exact symRunI envT hal (cAw_ok ty Sf0 h9T) hlk (n := 1000) (args := [vv .u8 2, vv .u8 3, vv .u8 4, vv .i64 20, vv .u64 21, vv .u64 22, vv .u64 25]) (args' := [.int .u8 (SS.ρ 2), .int .u8 (SS.ρ 3), .int .u8 (SS.ρ 4), .int .i64 (SS.ρ 20), .int .u64 (SS.ρ 21), .int .u64 (SS.ρ 22), .int .u64 (SS.ρ 25)]) (res := [.one .bool]) (vs := [.bool true]) (rcs := [litB true]) (rs := [1]) rfl ⟨ev_litB _ true, trivial⟩ (runWH1 ty hal) (fun G ι => vs_sym t2 (vs_sym t3 (vs_sym t4 (vs_sym t20 (vs_sym t21 (vs_sym t22 (vs_sym t25 vs_nil))))))) w hw (by rw [hT.I]; intro b o h; simp [inpL] at h)
end Go.Proofs.YtmeppoihgfdgaaaDoor
