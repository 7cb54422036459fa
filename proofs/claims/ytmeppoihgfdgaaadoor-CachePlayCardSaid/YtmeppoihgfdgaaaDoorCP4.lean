/-
  CachePlay. Conditions: what is said of the slice.
-/
import Derived.Test.YtmeppoihgfdgaaaDoorCP3a
import Derived.Test.YtmeppoihgfdgaaaDoorCP3b
import Derived.Test.YtmeppoihgfdgaaaDoorCP3c
import Derived.Test.YtmeppoihgfdgaaaDoorCP3d
namespace Go.Proofs.YtmeppoihgfdgaaaDoor
open Go.Ev Go.RowKit
set_option maxRecDepth 100000
set_option linter.unusedVariables false
section
variable {ty : TypeId}
theorem roundP {S : Sy} {i : Int} (N : InvP S i) (hi : i < S.ρ 1) : ∃ S1 S2, Stay [20, 26, 27, 28, 50, 51, 52, 53, 54, 55, 70, 71, 72, 73, 74, 75, 80, 81, 82, 84, 85, 86, 87] [63, 64, 65] S S1 ∧ (∀ T, Stay [20, 26, 27, 28, 50, 51, 52, 53, 54, 55, 70, 71, 72, 73, 74, 75, 80, 81, 82, 84, 85, 86, 87] [63, 64, 65] S2 T → StepTo Tryd.prog ftP ΛP (gsT ty) cPA (XPP ty) FPP 90 S1 T) ∧ InvP S2 (i + 1) ∧ Stay [17] [60, 61, 62] S1 S2 := by
  obtain ⟨Sn, Nn, y⟩ := namesP N hi
  have fin : ∀ S1 S2 : Sy, Stay [20, 26, 27, 28, 50, 51, 52, 53, 54, 55, 70, 71, 72, 73, 74, 75, 80, 81, 82, 84, 85, 86, 87] [63, 64, 65] Sn S1 → Stay [20, 26, 27, 28, 50, 51, 52, 53, 54, 55, 70, 71, 72, 73, 74, 75, 80, 81, 82, 84, 85, 86, 87] [63, 64, 65] S S1 := fun S1 _ h => stay_weak (y.trans h) rfl rfl
  by_cases c0 : (Sn.Φ 20 [Sn.ρ 17]).tmod 3 = 0
  · by_cases c1 : Sn.Φ 24 [Sn.ρ 17] = 0
    · obtain ⟨S1, S2, h1, h2, h3, h4⟩ := wayPi (ty := ty) Nn ⟨c0, c1⟩; exact ⟨S1, S2, fin S1 S2 h1, h2, h3, h4⟩
    by_cases c2 : Sn.Φ 61 [Sn.ρ 51] = 0
    · obtain ⟨S1, S2, h1, h2, h3, h4⟩ := wayP0 (ty := ty) Nn ⟨c0, c1, c2⟩; exact ⟨S1, S2, fin S1 S2 h1, h2, h3, h4⟩
    by_cases c3 : Sn.Φ 62 [Sn.ρ 51] = 0
    · obtain ⟨S1, S2, h1, h2, h3, h4⟩ := wayP1 (ty := ty) Nn ⟨c0, c1, c2, c3⟩; exact ⟨S1, S2, fin S1 S2 h1, h2, h3, h4⟩
    · obtain ⟨S1, S2, h1, h2, h3, h4⟩ := wayPf (ty := ty) Nn ⟨c0, c1, c2, c3⟩; exact ⟨S1, S2, fin S1 S2 h1, h2, h3, h4⟩
  by_cases c1 : (Sn.Φ 20 [Sn.ρ 17]).tmod 3 = 1
  · by_cases c2 : Sn.Φ 61 [Sn.ρ 51] = 0
    · by_cases c3 : Sn.Φ 62 [Sn.ρ 51] = 0
      · obtain ⟨S1, S2, h1, h2, h3, h4⟩ := wayTn (ty := ty) Nn ⟨c0, c1, c2, c3⟩; exact ⟨S1, S2, fin S1 S2 h1, h2, h3, h4⟩
      · obtain ⟨S1, S2, h1, h2, h3, h4⟩ := wayT1 (ty := ty) Nn ⟨c0, c1, c2, c3⟩; exact ⟨S1, S2, fin S1 S2 h1, h2, h3, h4⟩
    · obtain ⟨S1, S2, h1, h2, h3, h4⟩ := wayT0 (ty := ty) Nn ⟨c0, c1, c2⟩; exact ⟨S1, S2, fin S1 S2 h1, h2, h3, h4⟩
  by_cases c2 : Sn.Φ 61 [Sn.ρ 71] = 0
  · by_cases c3 : Sn.Φ 62 [Sn.ρ 71] = 0
    · obtain ⟨S1, S2, h1, h2, h3, h4⟩ := waySn (ty := ty) Nn ⟨c0, c1, c2, c3⟩; exact ⟨S1, S2, fin S1 S2 h1, h2, h3, h4⟩
    · obtain ⟨S1, S2, h1, h2, h3, h4⟩ := wayS1 (ty := ty) Nn ⟨c0, c1, c2, c3⟩; exact ⟨S1, S2, fin S1 S2 h1, h2, h3, h4⟩
  · obtain ⟨S1, S2, h1, h2, h3, h4⟩ := wayS0 (ty := ty) Nn ⟨c0, c1, c2⟩; exact ⟨S1, S2, fin S1 S2 h1, h2, h3, h4⟩
theorem chainP : ∀ (m : Nat) (S0 : Sy) (i : Int), InvP S0 i → i + m = S0.ρ 1 → ∃ Sa Sf, Chain (StepTo Tryd.prog ftP ΛP (gsT ty) cPA (XPP ty) FPP 90) m Sa Sf ∧ InvP Sf (Sf.ρ 1) ∧ Stay [20, 26, 27, 28, 50, 51, 52, 53, 54, 55, 70, 71, 72, 73, 74, 75, 80, 81, 82, 84, 85, 86, 87] [63, 64, 65] S0 Sa ∧ Stay [17, 20, 26, 27, 28, 50, 51, 52, 53, 54, 55, 70, 71, 72, 73, 74, 75, 80, 81, 82, 84, 85, 86, 87] [60, 61, 62, 63, 64, 65] Sa Sf
  | 0, S0, i, N, h => ⟨S0, S0, .nil _, by rwa [show S0.ρ 1 = i by omega], Stay.refl _ _ _, Stay.refl _ _ _⟩
  | m + 1, S0, i, N, h => by
    obtain ⟨S1, S2, y1, st, N2, y⟩ := roundP (ty := ty) N (by omega)
    have e := y1.num 1 rfl
    have e2 := y.num 1 rfl
    obtain ⟨Sa, Sf, ch, Nf, ya, z⟩ := chainP m S2 (i + 1) N2 (by omega)
    exact ⟨S1, Sf, .cons (st Sa ya) ch, Nf, y1, stay_weak (y.trans (ya.trans z)) rfl rfl⟩
def xPT : Tm := .bin .lss (.var .i64 17) (.var .i64 1)
theorem outP {S1 T : Sy} {i : Int} (N : InvP S1 i) (hi : i = S1.ρ 1) (hT : T.I = S1.I) : StepOut Tryd.prog ftP ΛP (gsT ty) cPA (XPP ty) FPP (.exit 0) 90 S1 T := by
  have h17 := N.hi
  exact ⟨_, [], _, 1000, _, [], (ai xPT false (fls (p := S1.ρ 17 < S1.ρ 1) (by omega)) (AlOk.nil _)), fun c hc => noC c hc, LkOk.no _ _ _ _, asg_nil hT, fun G => by kernel_rfl⟩
end
def awT : Tm := .appB 9 .nil
theorem aw_den {S : Sy} (h : S.Φ 9 [] = 1) : awT.den S = some [b2i true] := by
  show some [b2i (decide (S.Φ 9 [] ≠ 0))] = _
  rw [h]; rfl
def cAw : Ctr := ⟨12, [], [.one .bool], 9, fun _ => true⟩
theorem cAw_ok (ty : TypeId) (S : Sy) (h : S.Φ 9 [] = 1) : ∀ c ∈ [cAw], CtrOk Tryd.prog S (gsT ty) c := by
  intro c hc
  rw [List.mem_singleton] at hc
  subst hc
  intro a ns _ _ hl w hw
  obtain rfl := len0 (show ns.length = 0 from hl)
  refine (awake_any w ⟨ty, hw⟩).mono fun e w' ⟨h1, h2⟩ => ⟨?_, h2⟩
  rw [h1]
  show _ = Ending.returned (.bool (decide (S.Φ 9 [] ≠ 0)))
  rw [h]; rfl
def Φ9 : Nat → List Int → Int
  | 9, [] => 1
  | _, _ => 0
noncomputable def phi (f m : Nat) (F : Nat → Nat → Int) : Nat → List Int → Int := fun g l => if f ≤ g ∧ g < f + m then (match l with | [j] => F (g - f) j.toNat | _ => 0) else Φ9 g l
theorem phi_in {f m : Nat} {F : Nat → Nat → Int} {i j : Nat} (h : i < m) : phi f m F (f + i) [(j : Int)] = F i j := by
  unfold phi
  rw [if_pos (by omega)]
  simp
theorem phi_9 {f m : Nat} {F : Nat → Nat → Int} (h : 9 < f) : phi f m F 9 [] = 1 := by
  unfold phi
  rw [if_neg (by omega)]
  rfl
def askL : Asg := [(1, .num (Tm.enc (.var .i64 1))), (9, .num (Tm.enc (.var .i64 9))), (10, .num (Tm.enc (.var .i64 10))), (17, .num (Tm.enc (.lit .i64 0))), (42, .num (Tm.enc (.var .i64 42))), (60, .arr .zero), (42, .num (Tm.enc (.var .i64 42))), (42, .num (Tm.enc (.var .i64 42))), (41, .num (Tm.enc (.var .i64 41))), (40, .num (Tm.enc (.var .i64 40))), (39, .num (Tm.enc (.var .i64 39))), (38, .num (Tm.enc (.var .i64 38))), (37, .num (Tm.enc (.var .i64 37))), (36, .num (Tm.enc (.var .i64 36))), (35, .num (Tm.enc (.var .i64 35))), (34, .num (Tm.enc (.var .i64 34))), (33, .num (Tm.enc (.var .i64 33))), (32, .num (Tm.enc (.var .i64 32))), (31, .num (Tm.enc (.var .i64 31))), (30, .num (Tm.enc (.var .i64 30))), (9, .num (Tm.enc (.var .i64 9))), (10, .num (Tm.enc (.var .i64 10))), (61, .arr .zero), (62, .arr .zero)]
noncomputable abbrev lkP (ty : TypeId) := lkLoopR Tryd.prog 90 [] (XPP ty) FPP (.exit 0) askL
def alNE : List En := [.nm (.bin .add (.conv .i64 (.bin .rem (.var .u8 2) (.lit .u8 6))) (.lit .i64 1)) 9]
def alNL : List (Nat × Value) := [(163012408607886236312749947753603, .float .f64 4611)]
theorem alN_eq : alNL = alNE.map En.pr := by kernel_rfl
theorem alN_all : (alNE.all En.okB) = true := by kernel_rfl
def gtT : Tm := .bin .gtr (.var .i64 1) (.lit .i64 60)
noncomputable def alLaw : List (Nat × Value) := (awT.enc, .bool true) :: (gtT.enc, .bool false) :: (alNL ++ (alGL ++ alLL))
theorem runL {T : Sy} (ty : TypeId) (ha : AlOk T alLaw) (G : Nat → Option Obj) : outV (runM Tryd.prog ΛP (lkL [lkP ty, noL]) ftP ha [cAw] G 1000 (.fn 5 [vv .u8 2, inLP].toArray) (H0g Tryd.prog (gsT ty))) = some (bundle [.bool true]) := by kernel_rfl
noncomputable def alSh : List (Nat × Value) := [(awT.enc, .bool true), (gtT.enc, .bool true)]
theorem runS {T : Sy} (ty : TypeId) (ha : AlOk T alSh) (G : Nat → Option Obj) : outV (runM Tryd.prog ΛP (fun _ _ _ => none) ftP ha [cAw] G 1000 (.fn 5 [vv .u8 2, inLP].toArray) (H0g Tryd.prog (gsT ty))) = some (bundle [.bool true]) := by kernel_rfl
set_option maxHeartbeats 8000000 in
theorem play_any (a : Int) (ha : 0 ≤ a) (v : Value) (ty : TypeId) (w : World) (hw : GOk Tryd.prog (gsT ty) w) (hs : SlIn w [some .u8, some .u8, some .u8, some .u8, some .u64] v) : Calls Tryd.prog 5 #[.int .u8 a, v] w fun e w' => e = .returned (.bool true) ∧ Quiet w w' := by
  obtain ⟨x, F, hks, hf, rfl, hx, hwf, hok⟩ := inpw_of (by decide) hs 20
  have hall : ∀ z ∈ [x], ∃ F, InpW w z F := fun z hz => by
    rw [List.mem_singleton] at hz
    subst hz
    exact ⟨F, hok⟩
  have hxok : InpOk [x] (phi 20 5 F) x := inps_ok hall List.mem_cons_self hok fun m j hm => by
    rw [hks] at hm
    rw [hf]
    exact phi_in hm
  obtain ⟨t, ht⟩ : ∃ t : Int, t = a % 6 + 1 := ⟨_, rfl⟩
  have bt : 1 ≤ t ∧ t ≤ 8 := by omega
  obtain ⟨k14, k24⟩ := nonlin1 bt
  obtain ⟨SS, hSS⟩ : ∃ SS : Sy, SS = ⟨upd (fun _ => 0) [(9, t), (10, 4 * t), (11, 8 * t), (12, 2 * t), (13, 2 * t + 2), (14, t * (2 * t + 2)), (23, 2 * t + 3), (24, t * (2 * t + 3)), (7, 8 * t + t * (2 * t + 3)), (8, 8 * (8 * t + t * (2 * t + 3))), (30, 21 + t), (31, 22 + t), (32, 23 + t), (33, 24 + t), (34, 32 + t), (35, 40 + t), (36, 40 + 9 * t), (37, 40 + 13 * t), (38, 40 + 15 * t), (39, 40 + 16 * t), (40, 40 + 16 * t + t * (2 * t + 2)), (41, 40 + 16 * t + t * (2 * t + 2) + (8 * t + t * (2 * t + 3))), (42, 40 + 16 * t + t * (2 * t + 2) + 9 * (8 * t + t * (2 * t + 3))), (1, (x.n : Int)), (2, a)], phi 20 5 F, [x], fun z hz => by rw [List.mem_singleton] at hz; subst hz; exact hxok⟩ := ⟨_, rfl⟩
  have i9 : SS.ρ 9 = t := by rw [hSS]; rfl
  have i10 : SS.ρ 10 = 4 * t := by rw [hSS]; rfl
  have i11 : SS.ρ 11 = 8 * t := by rw [hSS]; rfl
  have i12 : SS.ρ 12 = 2 * t := by rw [hSS]; rfl
  have i13 : SS.ρ 13 = 2 * t + 2 := by rw [hSS]; rfl
  have i14 : SS.ρ 14 = t * (2 * t + 2) := by rw [hSS]; rfl
  have i23 : SS.ρ 23 = 2 * t + 3 := by rw [hSS]; rfl
  have i24 : SS.ρ 24 = t * (2 * t + 3) := by rw [hSS]; rfl
  have i7 : SS.ρ 7 = 8 * t + t * (2 * t + 3) := by rw [hSS]; rfl
  have i8 : SS.ρ 8 = 8 * (8 * t + t * (2 * t + 3)) := by rw [hSS]; rfl
  have i30 : SS.ρ 30 = 21 + t := by rw [hSS]; rfl
  have i31 : SS.ρ 31 = 22 + t := by rw [hSS]; rfl
  have i32 : SS.ρ 32 = 23 + t := by rw [hSS]; rfl
  have i33 : SS.ρ 33 = 24 + t := by rw [hSS]; rfl
  have i34 : SS.ρ 34 = 32 + t := by rw [hSS]; rfl
  have i35 : SS.ρ 35 = 40 + t := by rw [hSS]; rfl
  have i36 : SS.ρ 36 = 40 + 9 * t := by rw [hSS]; rfl
  have i37 : SS.ρ 37 = 40 + 13 * t := by rw [hSS]; rfl
  have i38 : SS.ρ 38 = 40 + 15 * t := by rw [hSS]; rfl
  have i39 : SS.ρ 39 = 40 + 16 * t := by rw [hSS]; rfl
  have i40 : SS.ρ 40 = 40 + 16 * t + t * (2 * t + 2) := by rw [hSS]; rfl
  have i41 : SS.ρ 41 = 40 + 16 * t + t * (2 * t + 2) + (8 * t + t * (2 * t + 3)) := by rw [hSS]; rfl
  have i42 : SS.ρ 42 = 40 + 16 * t + t * (2 * t + 2) + 9 * (8 * t + t * (2 * t + 3)) := by rw [hSS]; rfl
  have i1 : SS.ρ 1 = (x.n : Int) := by rw [hSS]; rfl
  have i2 : SS.ρ 2 = a := by rw [hSS]; rfl
  have iI : SS.I = [x] := by rw [hSS]
  have i9A : SS.Φ 9 [] = 1 := by rw [hSS]; exact phi_9 (f := 20) (m := 5) (F := F) (by decide)
  have acts : Acts SS := fun j h0 h1 => by
    obtain ⟨n, rfl⟩ : ∃ n : Nat, j = n := ⟨j.toNat, by omega⟩
    have hn : n < x.n := by rw [i1] at h1; omega
    have e0 : SS.Φ 20 [(n : Int)] = F 0 n := by rw [hSS]; exact phi_in (f := 20) (m := 5) (i := 0) (by decide)
    have e1 : SS.Φ 21 [(n : Int)] = F 1 n := by rw [hSS]; exact phi_in (f := 20) (m := 5) (i := 1) (by decide)
    have e2 : SS.Φ 22 [(n : Int)] = F 2 n := by rw [hSS]; exact phi_in (f := 20) (m := 5) (i := 2) (by decide)
    have e3 : SS.Φ 23 [(n : Int)] = F 3 n := by rw [hSS]; exact phi_in (f := 20) (m := 5) (i := 3) (by decide)
    rw [e0, e1, e2, e3]
    exact ⟨wf_u8 (hwf 0 .u8 n rfl hn), wf_u8 (hwf 1 .u8 n rfl hn), wf_u8 (hwf 2 .u8 n rfl hn), wf_u8 (hwf 3 .u8 n rfl hn)⟩
  clear hSS
  have hin0 : ∀ b o, inpL [x] b = some o → w.heap[b]? = some o := inps_in hall
  have hK : ∀ z ∈ SS.I, z.f + z.ks.length ≤ 60 := fun z hz => by
    rw [iI, List.mem_singleton] at hz
    subst hz
    rw [hf, hks]; decide
  have geo : GeoP SS := ⟨hK, by rw [i9]; omega, by rw [i9, i10], by rw [i9, i11], by rw [i9, i12], by rw [i9, i13], by rw [i9, i13, i14], by rw [i9, i23], by rw [i9, i23, i24], by rw [i7, i11, i24], by rw [i7, i8], by rw [i14]; exact k14, by rw [i24]; exact k24, by rw [i9, i30], by rw [i9, i31], by rw [i9, i32], by rw [i9, i33], by rw [i9, i34], by rw [i9, i35], by rw [i9, i36], by rw [i9, i37], by rw [i9, i38], by rw [i9, i39], by rw [i9, i14, i40], by rw [i7, i9, i14, i41], by rw [i7, i9, i14, i42]⟩
  have hvs : ∀ T : Sy, T.I = SS.I → T.ρ 1 = SS.ρ 1 → T.ρ 2 = SS.ρ 2 → ∀ G ι, VsOk T G ι [vv .u8 2, inLP] [.int .u8 a, .slice x.a x.n x.cap] := fun T tI t1 t2 G ι => vs_sym (t2.trans i2) (vs_inp0 (x := x) (by decide) (by rw [tI, iI]; rfl) (by rw [hks]; decide +kernel) (by rw [hf]; decide +kernel) (t1.trans i1) vs_nil)
  by_cases hg : (60 : Int) < SS.ρ 1
  · exact symRunI envP (al := alSh) (ai awT true (aw_den i9A) (ai gtT true (tr (p := (60 : Int) < SS.ρ 1) hg) (AlOk.nil _))) (cAw_ok ty SS i9A) (LkOk.no _ _ _ _) (n := 1000) (args := [vv .u8 2, inLP]) (args' := [.int .u8 a, .slice x.a x.n x.cap]) (res := [.one .bool]) (vs := [.bool true]) (rcs := [litB true]) (rs := [1]) rfl ⟨ev_litB _ true, trivial⟩ (runS ty _) (hvs SS rfl rfl rfl) w hw (by rw [iI]; exact hin0)
  obtain ⟨S00, hS0⟩ : ∃ S0 : Sy, S0 = SS.set (upd SS.ρ [(17, 0)]) [(60, fun _ => 0), (61, fun _ => 0), (62, fun _ => 0)] 60 rfl hK := ⟨_, rfl⟩
  have q0 : Stay [17] [60, 61, 62] SS S00 := by rw [hS0]; exact (Stay.refl _ _ _).set rfl rfl
  have s0_17 : S00.ρ 17 = 0 := by rw [hS0]; rfl
  have z0_60 : ∀ j : Int, S00.Φ 60 [j] = (fun _ => (0 : Int)) j := by rw [hS0]; intro j; rfl
  have z0_61 : ∀ j : Int, S00.Φ 61 [j] = (fun _ => (0 : Int)) j := by rw [hS0]; intro j; rfl
  have z0_62 : ∀ j : Int, S00.Φ 62 [j] = (fun _ => (0 : Int)) j := by rw [hS0]; intro j; rfl
  clear hS0
  have f1 : S00.ρ 1 = SS.ρ 1 := q0.num 1 rfl
  have N0 : InvP S00 0 := ⟨geo.stay q0 rfl, by omega, by rw [f1, i1]; omega, s0_17, acts.stay q0 rfl, fun k _ _ => ⟨by rw [z0_60, z0_61], by rw [z0_60, z0_62]⟩, by rw [f1]; omega⟩
  obtain ⟨Sa, T, ch, Nf, ya, z⟩ := chainP (ty := ty) x.n S00 0 N0 (by rw [f1, i1]; omega)
  have pa := q0.trans ya
  have p0 := pa.trans z
  have g0 := z
  have hask : AsgOk T Sa askL := (an 1 (.var .i64 1) (sm (z.num 1 rfl)) (an 9 (.var .i64 9) (sm (z.num 9 rfl)) (an 10 (.var .i64 10) (sm (z.num 10 rfl)) (an 17 (.lit .i64 0) (sm ((ya.num 17 rfl).trans s0_17).symm) (an 42 (.var .i64 42) (sm (z.num 42 rfl)) (asg_arr (i := 60) (fun j => congrArg some ((ya.fn 60 rfl _).trans (z0_60 j)).symm) (an 42 (.var .i64 42) (sm (z.num 42 rfl)) (an 42 (.var .i64 42) (sm (z.num 42 rfl)) (an 41 (.var .i64 41) (sm (z.num 41 rfl)) (an 40 (.var .i64 40) (sm (z.num 40 rfl)) (an 39 (.var .i64 39) (sm (z.num 39 rfl)) (an 38 (.var .i64 38) (sm (z.num 38 rfl)) (an 37 (.var .i64 37) (sm (z.num 37 rfl)) (an 36 (.var .i64 36) (sm (z.num 36 rfl)) (an 35 (.var .i64 35) (sm (z.num 35 rfl)) (an 34 (.var .i64 34) (sm (z.num 34 rfl)) (an 33 (.var .i64 33) (sm (z.num 33 rfl)) (an 32 (.var .i64 32) (sm (z.num 32 rfl)) (an 31 (.var .i64 31) (sm (z.num 31 rfl)) (an 30 (.var .i64 30) (sm (z.num 30 rfl)) (an 9 (.var .i64 9) (sm (z.num 9 rfl)) (an 10 (.var .i64 10) (sm (z.num 10 rfl)) (asg_arr (i := 61) (fun j => congrArg some ((ya.fn 61 rfl _).trans (z0_61 j)).symm) (asg_arr (i := 62) (fun j => congrArg some ((ya.fn 62 rfl _).trans (z0_62 j)).symm) (asg_nil z.1.symm)))))))))))))))))))))))))
  have lk : LkAt Tryd.prog T (gsT ty) (.loop (cAt Tryd.prog lpPP)) (lkP ty) := loop_chain envP annP finePP (show (XPP ty).N = FPP.N from rfl) (Nat.le_of_ble_eq_true rfl) ch (outP Nf rfl rfl) hask (hX := GlOk.of (by kernel_rfl) (by kernel_rfl))
  have hlk := LkOk.all (P := Tryd.prog) (S := T) (gs := gsT ty) (ms := [lpPP, lpQP]) (fs := [lkP ty, noL]) ⟨⟨_, codePP, lk⟩, ⟨_, codeQP, noL_at⟩, trivial⟩
  have tI : T.I = SS.I := p0.1
  have t1 : T.ρ 1 = SS.ρ 1 := p0.num 1 rfl
  have t2 : T.ρ 2 = SS.ρ 2 := p0.num 2 rfl
  have t9 : T.ρ 9 = SS.ρ 9 := p0.num 9 rfl
  have h9 : T.Φ 9 [] = 1 := (p0.fn 9 rfl []).trans i9A
  have gT : GeoP T := geo.stay p0 rfl
  have e9 : IntKind.i64.wrap (IntKind.i64.wrap ((T.ρ 2).tmod (6 : Int)) + (1 : Int)) = T.ρ 9 := by rw [t2, t9, i2, i9, Int.tmod_eq_emod_of_nonneg ha, w_i64 (x := a % 6) (by omega) (by omega), w_i64 (by omega) (by omega), ht]
  have hal : AlOk T alLaw := ai awT true (aw_den h9) (ai gtT false (fls (p := (60 : Int) < T.ρ 1) (by rw [t1]; exact hg)) (AlOk.app (alE alN_all alN_eq ⟨sm e9, trivial⟩) (AlOk.app (alG_ok gT) (alL_ok gT))))
  exact symRunI envP hal (cAw_ok ty T h9) hlk (n := 1000) (args := [vv .u8 2, inLP]) (args' := [.int .u8 a, .slice x.a x.n x.cap]) (res := [.one .bool]) (vs := [.bool true]) (rcs := [litB true]) (rs := [1]) rfl ⟨ev_litB _ true, trivial⟩ (runL ty hal) (hvs T tI t1 t2) w hw (by rw [tI, iI]; exact hin0)
end Go.Proofs.YtmeppoihgfdgaaaDoor
