/-
  ClassWaste, for any numbers and any two slices of sizes. Conditions: the numbers are of their types; what is said of the slices (SlIn).
-/
import Derived.Test.YtokcoabcflpbbaaF52
import Derived.Test.YtokcoabcflpbbaaF53
import Derived.Test.YtokcoabcflpbbaaWT
namespace Go.Proofs.Ytokcoabcflpbbaa
open Go.Ev Go.RowKit
set_option maxRecDepth 100000
theorem rows_eq {S : Sy} {ln f ln' g : Nat} {l : List Int} (h : RowIs S ln f l) (h' : RowIs S ln' g l) : S.ρ ln' = S.ρ ln ∧ ∀ j : Nat, (j : Int) < S.ρ ln' → S.Φ f [(j : Int)] = S.Φ g [(j : Int)] ∧ S.Φ (f + 1) [(j : Int)] = S.Φ (g + 1) [(j : Int)] ∧ S.Φ (f + 2) [(j : Int)] = S.Φ (g + 2) [(j : Int)] := by
  refine ⟨by rw [h.1, h'.1], fun j hj => ?_⟩
  rw [h'.1] at hj
  obtain ⟨a1, a2⟩ := h.2 j (by omega)
  obtain ⟨b1, b2⟩ := h'.2 j (by omega)
  rw [a2] at b2
  have e := Option.some.inj b2
  rw [← e] at b1
  obtain ⟨c1, c2⟩ := isC_one a1 b1
  exact ⟨e, c1, c2⟩
theorem RowIs.cat {S S2 : Sy} {l1 l2 : List Int} {ln1 f1 ln2 f2 ln f : Nat} (h1 : RowIs S ln1 f1 l1) (h2 : RowIs S ln2 f2 l2) (e : S2.ρ ln = S.ρ ln1 + S.ρ ln2) (e0 : ∀ j : Nat, S2.Φ f [(j : Int)] = if (j : Int) < S.ρ ln1 then S.Φ f1 [(j : Int)] else S.Φ f2 [(j : Int) - S.ρ ln1])
    (e1 : ∀ j : Nat, S2.Φ (f + 1) [(j : Int)] = if (j : Int) < S.ρ ln1 then S.Φ (f1 + 1) [(j : Int)] else S.Φ (f2 + 1) [(j : Int) - S.ρ ln1]) (e2 : ∀ j : Nat, S2.Φ (f + 2) [(j : Int)] = if (j : Int) < S.ρ ln1 then S.Φ (f1 + 2) [(j : Int)] else S.Φ (f2 + 2) [(j : Int) - S.ρ ln1]) : RowIs S2 ln f (l1 ++ l2) := by
  refine ⟨by rw [e, h1.1, h2.1]; simp, fun j hj => ?_⟩
  rw [e0, e1, e2, h1.1]
  simp only [List.length_append] at hj
  by_cases hl : j < l1.length
  · rw [if_pos (by omega), if_pos (by omega), if_pos (by omega)]
    obtain ⟨a1, a2⟩ := h1.2 j hl
    exact ⟨a1, by rw [List.getElem?_append_left hl]; exact a2⟩
  · rw [if_neg (by omega), if_neg (by omega), if_neg (by omega), show (j : Int) - (l1.length : Int) = ((j - l1.length : Nat) : Int) by omega]
    obtain ⟨a1, a2⟩ := h2.2 (j - l1.length) (by omega)
    exact ⟨a1, by rw [List.getElem?_append_right (by omega)]; exact a2⟩
noncomputable def ΦW (F E : Nat → Nat → Int) (g : Nat) (l : List Int) : Int := if g = 30 then (match l with | [j] => F 0 j.toNat | _ => 0) else if g = 31 then (match l with | [j] => E 0 j.toNat | _ => 0) else (match g, l with
  | 9, [] => 1
  | 20, [m, n] => ofZ m n
  | 21, [_] => 1
  | _, _ => 0)
theorem den_n {S : Sy} {s : Int} (h : 0 ≤ s ∧ s < 256) (e : S.ρ 2 = s) : nTW.den S = some [s % 64 + 1] := by
  refine den_bin (k := .i64) (a := s % 64) (b := 1) (den_conv .i64 (x := s % 64) (den_bin (k := .u8) (r := s % 64) rfl (den_lit _ _) ?_) (w_i64 (by omega) (by omega))) (den_lit _ _) ?_
  · show (if (64 : Int) = 0 then none else some (Value.int .u8 ((S.ρ 2).tmod 64))) = _
    rw [if_neg (by decide), e, Int.tmod_eq_emod_of_nonneg h.1]
  · show some (Value.int .i64 (IntKind.i64.wrap (s % 64 + 1))) = _
    rw [w_i64 (by omega) (by omega)]
theorem den_p {S : Sy} {i : Nat} {a : Int} (h : 0 ≤ a ∧ a < 256) (e : S.ρ i = a) : ∃ p, isP p ∧ (pTW i).den S = some [p] := by
  have h1 : (Tm.bin .rem (.var .u8 i) (.lit .u8 7)).den S = some [a % 7] := den_bin (k := .u8) (r := a % 7) rfl (den_lit _ _) (by
    show (if (7 : Int) = 0 then none else some (Value.int .u8 ((S.ρ i).tmod 7))) = _
    rw [if_neg (by decide), e, Int.tmod_eq_emod_of_nonneg h.1])
  have key : ∀ k p : Int, a % 7 = k → vBin .shl .i64 1 k = some (.int .i64 p) → (pTW i).den S = some [p] := fun k p hk hv => den_bin (k := .i64) (den_lit _ _) h1 (by rw [hk]; exact hv)
  rcases (show a % 7 = 0 ∨ a % 7 = 1 ∨ a % 7 = 2 ∨ a % 7 = 3 ∨ a % 7 = 4 ∨ a % 7 = 5 ∨ a % 7 = 6 from by omega) with hk | hk | hk | hk | hk | hk | hk
  · exact ⟨1, by unfold isP; omega, key _ 1 hk rfl⟩
  · exact ⟨2, by unfold isP; omega, key _ 2 hk rfl⟩
  · exact ⟨4, by unfold isP; omega, key _ 4 hk rfl⟩
  · exact ⟨8, by unfold isP; omega, key _ 8 hk rfl⟩
  · exact ⟨16, by unfold isP; omega, key _ 16 hk rfl⟩
  · exact ⟨32, by unfold isP; omega, key _ 32 hk rfl⟩
  · exact ⟨64, by unfold isP; omega, key _ 64 hk rfl⟩
theorem great_x {T : Sy} {s a b : Int} {x y : Inp} {w : World} (N : Nums T) (g : (6 : Int) < T.ρ 1) (hvs : ∀ G ι, VsOk T G ι [vv .u8 2, vv .u8 3, vv .u8 4, inXW, inYW] [.int .u8 s, .int .u8 a, .int .u8 b, .slice x.a x.n x.cap, .slice y.a y.n y.cap]) (hin : ∀ b o, inpL T.I b = some o → w.heap[b]? = some o) : Calls Try.prog 5 #[.int .u8 s, .int .u8 a, .int .u8 b, .slice x.a x.n x.cap, .slice y.a y.n y.cap] w fun e w' => e = .returned (.bool true) ∧ Quiet w w' :=
  symRunI envW (ai gtx true (tr (p := (6 : Int) < T.ρ 1) g) (ai awT true (aw_den N.Φ9) (AlOk.nil _))) (four_ok N.Φ9 N.of_ N.n1 N.pg) (LkOk.no _ _ _ _) (n := 1000) (args := [vv .u8 2, vv .u8 3, vv .u8 4, inXW, inYW]) (args' := [.int .u8 s, .int .u8 a, .int .u8 b, .slice x.a x.n x.cap, .slice y.a y.n y.cap]) (res := [.one .bool]) (vs := [.bool true]) (rcs := [litB true]) (rs := [1]) rfl ⟨ev_litB _ true, trivial⟩ (fun G => by kernel_rfl) hvs w (gok w) hin
theorem great_y {T : Sy} {s a b : Int} {x y : Inp} {w : World} (N : Nums T) (g1 : ¬ (6 : Int) < T.ρ 1) (g : (6 : Int) < T.ρ 11) (hvs : ∀ G ι, VsOk T G ι [vv .u8 2, vv .u8 3, vv .u8 4, inXW, inYW] [.int .u8 s, .int .u8 a, .int .u8 b, .slice x.a x.n x.cap, .slice y.a y.n y.cap]) (hin : ∀ b o, inpL T.I b = some o → w.heap[b]? = some o) : Calls Try.prog 5 #[.int .u8 s, .int .u8 a, .int .u8 b, .slice x.a x.n x.cap, .slice y.a y.n y.cap] w fun e w' => e = .returned (.bool true) ∧ Quiet w w' :=
  symRunI envW (ai gty true (tr (p := (6 : Int) < T.ρ 11) g) (ai gtx false (fls (p := (6 : Int) < T.ρ 1) g1) (ai awT true (aw_den N.Φ9) (AlOk.nil _)))) (four_ok N.Φ9 N.of_ N.n1 N.pg) (LkOk.no _ _ _ _) (n := 1000) (args := [vv .u8 2, vv .u8 3, vv .u8 4, inXW, inYW]) (args' := [.int .u8 s, .int .u8 a, .int .u8 b, .slice x.a x.n x.cap, .slice y.a y.n y.cap]) (res := [.one .bool]) (vs := [.bool true]) (rcs := [litB true]) (rs := [1]) rfl ⟨ev_litB _ true, trivial⟩ (fun G => by kernel_rfl) hvs w (gok w) hin
set_option maxHeartbeats 8000000 in
theorem waste_any (s a b : Int) (hs : 0 ≤ s ∧ s < 256) (ha : 0 ≤ a ∧ a < 256) (hb : 0 ≤ b ∧ b < 256) (v u : Value) (w : World) (hv : SlIn w [some .i64] v) (hu : SlIn w [some .i64] u) : Calls Try.prog 5 #[.int .u8 s, .int .u8 a, .int .u8 b, v, u] w fun e w' => e = .returned (.bool true) ∧ Quiet w w' := by
  obtain ⟨x, F, hks, hf, rfl, _, _, hok⟩ := inpw_of (by decide) hv 30
  obtain ⟨y, E, hks', hf', rfl, _, _, hok'⟩ := inpw_of (by decide) hu 31
  have hall : ∀ z ∈ [x, y], ∃ F, InpW w z F := fun z hz => by
    simp only [List.mem_cons, List.not_mem_nil, or_false] at hz
    rcases hz with rfl | rfl
    · exact ⟨F, hok⟩
    · exact ⟨E, hok'⟩
  have hxok : InpOk [x, y] (ΦW F E) x := inps_ok hall List.mem_cons_self hok fun m j hm => by
    rw [hks] at hm
    obtain rfl : m = 0 := by simpa using hm
    rw [hf]
    simp [ΦW]
  have hyok : InpOk [x, y] (ΦW F E) y := inps_ok hall (List.mem_cons_of_mem _ List.mem_cons_self) hok' fun m j hm => by
    rw [hks'] at hm
    obtain rfl : m = 0 := by simpa using hm
    rw [hf']
    simp [ΦW]
  obtain ⟨S0, hS0⟩ : ∃ S0 : Sy, S0 = ⟨upd (fun _ => 0) [(2, s), (3, a), (4, b)], ΦW F E, [x, y], fun z hz => by
    simp only [List.mem_cons, List.not_mem_nil, or_false] at hz
    rcases hz with rfl | rfl
    · exact hxok
    · exact hyok⟩ := ⟨_, rfl⟩
  obtain ⟨p, hp, dp⟩ := den_p (S := S0) (i := 3) ha (by rw [hS0]; rfl)
  obtain ⟨q, hq, dq⟩ := den_p (S := S0) (i := 4) hb (by rw [hS0]; rfl)
  have hK0 : ∀ z ∈ S0.I, z.f + z.ks.length ≤ 50 := fun z hz => by
    rw [hS0] at hz
    simp only [List.mem_cons, List.not_mem_nil, or_false] at hz
    rcases hz with rfl | rfl
    · rw [hf, hks]; decide
    · rw [hf', hks']; decide
  obtain ⟨SS, hSS⟩ : ∃ SS : Sy, SS = S0.set (upd S0.ρ [(1, (x.n : Int)), (11, (y.n : Int)), (5, s % 64 + 1), (6, p), (7, q)]) [] 50 rfl hK0 := ⟨_, rfl⟩
  have qS : Stay [1, 11, 5, 6, 7] [] S0 SS := by rw [hSS]; exact (Stay.refl _ _ _).set rfl rfl
  have i1 : SS.ρ 1 = x.n := by rw [hSS]; rfl
  have i11 : SS.ρ 11 = y.n := by rw [hSS]; rfl
  have i5 : SS.ρ 5 = s % 64 + 1 := by rw [hSS]; rfl
  have i6 : SS.ρ 6 = p := by rw [hSS]; rfl
  have i7 : SS.ρ 7 = q := by rw [hSS]; rfl
  have i2 : SS.ρ 2 = s := (qS.num 2 rfl).trans (by rw [hS0]; rfl)
  have i3 : SS.ρ 3 = a := (qS.num 3 rfl).trans (by rw [hS0]; rfl)
  have i4 : SS.ρ 4 = b := (qS.num 4 rfl).trans (by rw [hS0]; rfl)
  have iI : SS.I = [x, y] := by rw [qS.1, hS0]
  have f9 : SS.Φ 9 [] = 1 := by rw [qS.fn 9 rfl, hS0]; rfl
  have f20 : ∀ m n : Int, SS.Φ 20 [m, n] = ofZ m n := fun m n => by rw [qS.fn 20 rfl, hS0]; rfl
  have f21 : ∀ m : Int, SS.Φ 21 [m] = 1 := fun m => by rw [qS.fn 21 rfl, hS0]; rfl
  have hK : ∀ z ∈ SS.I, z.f + z.ks.length ≤ 50 := by rw [qS.1]; exact hK0
  have hin0 : ∀ b o, inpL [x, y] b = some o → w.heap[b]? = some o := inps_in hall
  have mk : ∀ {vs fs : List Nat} {T : Sy}, Stay vs fs SS T → (([1, 2, 3, 4, 5, 6, 7, 11].all fun v => !vs.any fun u => Nat.beq u v) && ([9, 20, 21].all fun v => !fs.any fun u => Nat.beq u v)) = true → Nums T ∧ (∀ G ι, VsOk T G ι [vv .u8 2, vv .u8 3, vv .u8 4, inXW, inYW] [.int .u8 s, .int .u8 a, .int .u8 b, .slice x.a x.n x.cap, .slice y.a y.n y.cap]) ∧ ∀ b o, inpL T.I b = some o → w.heap[b]? = some o := by
    intro vs fs T h hh
    simp only [Bool.and_eq_true, List.all_cons, List.all_nil, Bool.and_true, Bool.not_eq_true'] at hh
    obtain ⟨⟨h1, h2, h3, h4, h5, h6, h7, h11⟩, h9, h20, h21⟩ := hh
    have e1 := (h.num 1 h1).trans i1
    have e2 := (h.num 2 h2).trans i2
    have e3 := (h.num 3 h3).trans i3
    have e4 := (h.num 4 h4).trans i4
    have e5 := (h.num 5 h5).trans i5
    have e6 := (h.num 6 h6).trans i6
    have e7 := (h.num 7 h7).trans i7
    have e11 := (h.num 11 h11).trans i11
    refine ⟨⟨(h.fn 9 h9 []).trans f9, fun m n => (h.fn 20 h20 _).trans (f20 m n), (h.fn 21 h21 _).trans (f21 _), by omega, by rw [e5]; exact den_n hs e2, ?_, ?_, by rw [e6]; exact hp, by rw [e7]; exact hq⟩, fun G ι => vs_sym e2 (vs_sym e3 (vs_sym e4 (vs_inp0 (x := x) (k := 0) (by decide) (by rw [h.1, iI]; rfl) (by rw [hks]; decide +kernel) (by rw [hf]; decide +kernel) e1 (vs_inp0 (x := y) (k := 1) (by decide) (by rw [h.1, iI]; rfl) (by rw [hks']; decide +kernel) (by rw [hf']; decide +kernel) e11 vs_nil)))), by rw [h.1, iI]; exact hin0⟩
    · rw [e6, ← dp]
      have : T.ρ 3 = S0.ρ 3 := by rw [e3, hS0]; rfl
      simp only [pTW, Tm.den, this]
    · rw [e7, ← dq]
      have : T.ρ 4 = S0.ρ 4 := by rw [e4, hS0]; rfl
      simp only [pTW, Tm.den, this]
  obtain ⟨N0, m1, m2⟩ := mk (Stay.refl [] [] SS) rfl
  by_cases gx : (6 : Int) < SS.ρ 1
  · exact great_x N0 gx m1 m2
  by_cases gy : (6 : Int) < SS.ρ 11
  · exact great_y N0 gx gy m1 m2
  have bx : x.n ≤ 6 := by omega
  have by_ : y.n ≤ 6 := by omega
  by_cases x0 : x.n = 0
  · have hx : flt (fun j => SS.Φ 30 [(j : Int)]) x.n = [] := by rw [x0]; rfl
    by_cases y0 : y.n = 0
    · have hy : flt (fun j => SS.Φ 31 [(j : Int)]) y.n = [] := by rw [y0]; rfl
      obtain ⟨S1, hS1⟩ : ∃ S : Sy, S = SS.set (upd SS.ρ [(13, (0 : Int))]) [] 50 rfl hK := ⟨_, rfl⟩
      have q1 : Stay [13] [] SS S1 := by rw [hS1]; exact (Stay.refl [13] [] _).set rfl rfl
      have s1_13 : S1.ρ 13 = (0 : Int) := by rw [hS1]; rfl
      have k1 : ∀ z ∈ S1.I, z.f + z.ks.length ≤ 50 := by rw [q1.1]; exact hK
      have u1 : ∀ j : Int, S1.Φ 30 [j] = SS.Φ 30 [j] := fun j => by rw [q1.fn 30 rfl]
      have w1 : S1.ρ 1 = x.n := by rw [q1.num 1 rfl]; exact i1
      obtain ⟨Sf1, f1, lk1⟩ := loopDN S1 x.n (by omega) s1_13 w1 (by rw [flt_congr (G := fun j => SS.Φ 30 [(j : Int)]) fun j _ => u1 j]; exact hx) k1
      have j1 : ∀ z ∈ Sf1.I, z.f + z.ks.length ≤ 50 := by rw [f1.1]; exact k1
      obtain ⟨S2, hS2⟩ : ∃ S : Sy, S = Sf1.set (upd Sf1.ρ [(15, (0 : Int))]) [] 50 rfl j1 := ⟨_, rfl⟩
      have q2 : Stay [15] [] Sf1 S2 := by rw [hS2]; exact (Stay.refl [15] [] _).set rfl rfl
      have s2_15 : S2.ρ 15 = (0 : Int) := by rw [hS2]; rfl
      have k2 : ∀ z ∈ S2.I, z.f + z.ks.length ≤ 50 := by rw [q2.1]; exact j1
      have u2 : ∀ j : Int, S2.Φ 31 [j] = SS.Φ 31 [j] := fun j => by rw [q2.fn 31 rfl, f1.fn 31 rfl, q1.fn 31 rfl]
      have w2 : S2.ρ 11 = y.n := by rw [q2.num 11 rfl, f1.num 11 rfl, q1.num 11 rfl]; exact i11
      obtain ⟨Sf2, f2, lk2⟩ := loopGN S2 y.n (by omega) s2_15 w2 (by rw [flt_congr (G := fun j => SS.Φ 31 [(j : Int)]) fun j _ => u2 j]; exact hy) k2
      have j2 : ∀ z ∈ Sf2.I, z.f + z.ks.length ≤ 50 := by rw [f2.1]; exact k2
      have g2 : Stay _ _ Sf2 Sf2 := Stay.refl [] [] _
      have p2 := f2.trans g2
      have g1 : Stay _ _ Sf1 Sf2 := (q2.trans p2)
      have p1 := f1.trans g1
      have PP := q1.trans p1
      have t1 := (PP.num 1 rfl).trans i1
      have t11 := (PP.num 11 rfl).trans i11
      have hlk := LkOk.all (P := Try.prog) (S := Sf2) (gs := []) (ms := [lpWM, lpWL]) (fs := [orL (lkLoopR Try.prog 3 [] XAW FAW (.exit 0) []) (orL (lkLoopR Try.prog 4 [] XD0W FDW (.exit 0) [(1, .num (Tm.enc (.var .i64 1))), (1, .num (Tm.enc (.var .i64 1))), (13, .num (Tm.enc (.lit .i64 0)))]) (lkLoopR Try.prog 5 [] XG0W FGW (.exit 0) [(11, .num (Tm.enc (.var .i64 11))), (11, .num (Tm.enc (.var .i64 11))), (15, .num (Tm.enc (.lit .i64 0)))])), lkLoopR Try.prog 7 [] XL0W FLW (.exit 0) []]) ⟨⟨_, codeWM, LkAt.or (atZA _) (LkAt.or (lk1 _ _ (g1.same rfl rfl) (an 1 (.var .i64 1) (sm (p1.num 1 rfl)) (an 1 (.var .i64 1) (sm (p1.num 1 rfl)) (an 13 (.lit .i64 0) (sm s1_13.symm) (asg_nil p1.1.symm))))) (lk2 _ _ (g2.same rfl rfl) (an 11 (.var .i64 11) (sm (p2.num 11 rfl)) (an 11 (.var .i64 11) (sm (p2.num 11 rfl)) (an 15 (.lit .i64 0) (sm s2_15.symm) (asg_nil p2.1.symm))))))⟩, ⟨_, codeWL, atZL _⟩, trivial⟩
      obtain ⟨N, m1, m2⟩ := mk PP rfl
      exact law1 N (by omega) (by omega)  m1 m2 hlk
    by_cases hy : flt (fun j => SS.Φ 31 [(j : Int)]) y.n = []
    · obtain ⟨S1, hS1⟩ : ∃ S : Sy, S = SS.set (upd SS.ρ [(12, SS.ρ 11), (9, (0 : Int))]) [(50, fun j => SS.Φ 31 [j])] 50 rfl hK := ⟨_, rfl⟩
      have q1 : Stay [12, 9] [50] SS S1 := by rw [hS1]; exact (Stay.refl [12, 9] [50] _).set rfl rfl
      have s1_12 : S1.ρ 12 = SS.ρ 11 := by rw [hS1]; rfl
      have s1_9 : S1.ρ 9 = (0 : Int) := by rw [hS1]; rfl
      have z1_50 : ∀ j : Int, S1.Φ 50 [j] = (fun j => SS.Φ 31 [j]) j := by rw [hS1]; intro j; rfl
      have k1 : ∀ z ∈ S1.I, z.f + z.ks.length ≤ 50 := by rw [q1.1]; exact hK
      obtain ⟨Sf1, f1, lk1⟩ := loopBN S1 y.n (by omega) s1_9 (s1_12.trans i11) (by rw [flt_congr (G := fun j => SS.Φ 31 [(j : Int)]) fun j _ => z1_50 j]; exact hy) k1
      have j1 : ∀ z ∈ Sf1.I, z.f + z.ks.length ≤ 50 := by rw [f1.1]; exact k1
      obtain ⟨S2, hS2⟩ : ∃ S : Sy, S = Sf1.set (upd Sf1.ρ [(13, (0 : Int))]) [] 50 rfl j1 := ⟨_, rfl⟩
      have q2 : Stay [13] [] Sf1 S2 := by rw [hS2]; exact (Stay.refl [13] [] _).set rfl rfl
      have s2_13 : S2.ρ 13 = (0 : Int) := by rw [hS2]; rfl
      have k2 : ∀ z ∈ S2.I, z.f + z.ks.length ≤ 50 := by rw [q2.1]; exact j1
      have u2 : ∀ j : Int, S2.Φ 30 [j] = SS.Φ 30 [j] := fun j => by rw [q2.fn 30 rfl, f1.fn 30 rfl, q1.fn 30 rfl]
      have w2 : S2.ρ 1 = x.n := by rw [q2.num 1 rfl, f1.num 1 rfl, q1.num 1 rfl]; exact i1
      obtain ⟨Sf2, f2, lk2⟩ := loopDN S2 x.n (by omega) s2_13 w2 (by rw [flt_congr (G := fun j => SS.Φ 30 [(j : Int)]) fun j _ => u2 j]; exact hx) k2
      have j2 : ∀ z ∈ Sf2.I, z.f + z.ks.length ≤ 50 := by rw [f2.1]; exact k2
      obtain ⟨S3, hS3⟩ : ∃ S : Sy, S = Sf2.set (upd Sf2.ρ [(15, (0 : Int))]) [] 50 rfl j2 := ⟨_, rfl⟩
      have q3 : Stay [15] [] Sf2 S3 := by rw [hS3]; exact (Stay.refl [15] [] _).set rfl rfl
      have s3_15 : S3.ρ 15 = (0 : Int) := by rw [hS3]; rfl
      have k3 : ∀ z ∈ S3.I, z.f + z.ks.length ≤ 50 := by rw [q3.1]; exact j2
      have u3 : ∀ j : Int, S3.Φ 31 [j] = SS.Φ 31 [j] := fun j => by rw [q3.fn 31 rfl, f2.fn 31 rfl, q2.fn 31 rfl, f1.fn 31 rfl, q1.fn 31 rfl]
      have w3 : S3.ρ 11 = y.n := by rw [q3.num 11 rfl, f2.num 11 rfl, q2.num 11 rfl, f1.num 11 rfl, q1.num 11 rfl]; exact i11
      obtain ⟨Sf3, f3, lk3⟩ := loopGN S3 y.n (by omega) s3_15 w3 (by rw [flt_congr (G := fun j => SS.Φ 31 [(j : Int)]) fun j _ => u3 j]; exact hy) k3
      have j3 : ∀ z ∈ Sf3.I, z.f + z.ks.length ≤ 50 := by rw [f3.1]; exact k3
      have g3 : Stay _ _ Sf3 Sf3 := Stay.refl [] [] _
      have p3 := f3.trans g3
      have g2 : Stay _ _ Sf2 Sf3 := (q3.trans p3)
      have p2 := f2.trans g2
      have g1 : Stay _ _ Sf1 Sf3 := (q2.trans p2)
      have p1 := f1.trans g1
      have PP := q1.trans p1
      have t1 := (PP.num 1 rfl).trans i1
      have t11 := (PP.num 11 rfl).trans i11
      have hlk := LkOk.all (P := Try.prog) (S := Sf3) (gs := []) (ms := [lpWM, lpWL]) (fs := [orL (lkLoopR Try.prog 3 [] XB0W FAW (.exit 0) [(12, .num (Tm.enc (.var .i64 11))), (12, .num (Tm.enc (.var .i64 11))), (9, .num (Tm.enc (.lit .i64 0))), (12, .num (Tm.enc (.var .i64 11))), (50, .arr (.var 31))]) (orL (lkLoopR Try.prog 4 [] XD0W FDW (.exit 0) [(1, .num (Tm.enc (.var .i64 1))), (1, .num (Tm.enc (.var .i64 1))), (13, .num (Tm.enc (.lit .i64 0)))]) (lkLoopR Try.prog 5 [] XG0W FGW (.exit 0) [(11, .num (Tm.enc (.var .i64 11))), (11, .num (Tm.enc (.var .i64 11))), (15, .num (Tm.enc (.lit .i64 0)))])), lkLoopR Try.prog 7 [] XL0W FLW (.exit 0) []]) ⟨⟨_, codeWM, LkAt.or (lk1 _ _ (g1.same rfl rfl) (an 12 (.var .i64 11) (sm ((PP.num 11 rfl).trans s1_12.symm)) (an 12 (.var .i64 11) (sm ((PP.num 11 rfl).trans s1_12.symm)) (an 9 (.lit .i64 0) (sm s1_9.symm) (an 12 (.var .i64 11) (sm ((PP.num 11 rfl).trans s1_12.symm)) (asg_arr (i := 50) (fun j => congrArg some ((PP.fn 31 rfl [(j : Int)]).trans (z1_50 j).symm)) (asg_nil p1.1.symm))))))) (LkAt.or (lk2 _ _ (g2.same rfl rfl) (an 1 (.var .i64 1) (sm (p2.num 1 rfl)) (an 1 (.var .i64 1) (sm (p2.num 1 rfl)) (an 13 (.lit .i64 0) (sm s2_13.symm) (asg_nil p2.1.symm))))) (lk3 _ _ (g3.same rfl rfl) (an 11 (.var .i64 11) (sm (p3.num 11 rfl)) (an 11 (.var .i64 11) (sm (p3.num 11 rfl)) (an 15 (.lit .i64 0) (sm s3_15.symm) (asg_nil p3.1.symm))))))⟩, ⟨_, codeWL, atZL _⟩, trivial⟩
      obtain ⟨N, m1, m2⟩ := mk PP rfl
      exact law2 N (by omega) (by omega)  m1 m2 hlk
    · obtain ⟨S1, hS1⟩ : ∃ S : Sy, S = SS.set (upd SS.ρ [(12, SS.ρ 11), (9, (0 : Int))]) [(50, fun j => SS.Φ 31 [j])] 50 rfl hK := ⟨_, rfl⟩
      have q1 : Stay [12, 9] [50] SS S1 := by rw [hS1]; exact (Stay.refl [12, 9] [50] _).set rfl rfl
      have s1_12 : S1.ρ 12 = SS.ρ 11 := by rw [hS1]; rfl
      have s1_9 : S1.ρ 9 = (0 : Int) := by rw [hS1]; rfl
      have z1_50 : ∀ j : Int, S1.Φ 50 [j] = (fun j => SS.Φ 31 [j]) j := by rw [hS1]; intro j; rfl
      have k1 : ∀ z ∈ S1.I, z.f + z.ks.length ≤ 50 := by rw [q1.1]; exact hK
      obtain ⟨Sf1, f1, r1, lk1⟩ := loopBR S1 y.n (by omega) s1_9 (s1_12.trans i11) (by rw [flt_congr (G := fun j => SS.Φ 31 [(j : Int)]) fun j _ => z1_50 j]; exact hy) k1
      rw [flt_congr (G := fun j => SS.Φ 31 [(j : Int)]) fun j _ => z1_50 j] at r1
      have j1 : ∀ z ∈ Sf1.I, z.f + z.ks.length ≤ 50 := by rw [f1.1]; exact k1
      obtain ⟨S2, hS2⟩ : ∃ S : Sy, S = Sf1.set (upd Sf1.ρ [(13, (0 : Int))]) [] 50 rfl j1 := ⟨_, rfl⟩
      have q2 : Stay [13] [] Sf1 S2 := by rw [hS2]; exact (Stay.refl [13] [] _).set rfl rfl
      have s2_13 : S2.ρ 13 = (0 : Int) := by rw [hS2]; rfl
      have k2 : ∀ z ∈ S2.I, z.f + z.ks.length ≤ 50 := by rw [q2.1]; exact j1
      have u2 : ∀ j : Int, S2.Φ 30 [j] = SS.Φ 30 [j] := fun j => by rw [q2.fn 30 rfl, f1.fn 30 rfl, q1.fn 30 rfl]
      have w2 : S2.ρ 1 = x.n := by rw [q2.num 1 rfl, f1.num 1 rfl, q1.num 1 rfl]; exact i1
      obtain ⟨Sf2, f2, lk2⟩ := loopEN S2 x.n (by omega) s2_13 w2 (by rw [flt_congr (G := fun j => SS.Φ 30 [(j : Int)]) fun j _ => u2 j]; exact hx) k2
      have j2 : ∀ z ∈ Sf2.I, z.f + z.ks.length ≤ 50 := by rw [f2.1]; exact k2
      obtain ⟨S3, hS3⟩ : ∃ S : Sy, S = Sf2.set (upd Sf2.ρ [(15, (0 : Int))]) [] 50 rfl j2 := ⟨_, rfl⟩
      have q3 : Stay [15] [] Sf2 S3 := by rw [hS3]; exact (Stay.refl [15] [] _).set rfl rfl
      have s3_15 : S3.ρ 15 = (0 : Int) := by rw [hS3]; rfl
      have k3 : ∀ z ∈ S3.I, z.f + z.ks.length ≤ 50 := by rw [q3.1]; exact j2
      have u3 : ∀ j : Int, S3.Φ 31 [j] = SS.Φ 31 [j] := fun j => by rw [q3.fn 31 rfl, f2.fn 31 rfl, q2.fn 31 rfl, f1.fn 31 rfl, q1.fn 31 rfl]
      have w3 : S3.ρ 11 = y.n := by rw [q3.num 11 rfl, f2.num 11 rfl, q2.num 11 rfl, f1.num 11 rfl, q1.num 11 rfl]; exact i11
      obtain ⟨Sf3, f3, r3, lk3⟩ := loopHR S3 y.n (by omega) s3_15 w3 (by rw [flt_congr (G := fun j => SS.Φ 31 [(j : Int)]) fun j _ => u3 j]; exact hy) k3
      rw [flt_congr (G := fun j => SS.Φ 31 [(j : Int)]) fun j _ => u3 j] at r3
      have j3 : ∀ z ∈ Sf3.I, z.f + z.ks.length ≤ 50 := by rw [f3.1]; exact k3
      have R1 : RowIs Sf3 8 60 _ := r1.same (by rw [f3.num 8 rfl, q3.num 8 rfl, f2.num 8 rfl, q2.num 8 rfl]) (fun j => by rw [f3.fn 60 rfl, q3.fn 60 rfl, f2.fn 60 rfl, q2.fn 60 rfl]) (fun j => by rw [f3.fn 61 rfl, q3.fn 61 rfl, f2.fn 61 rfl, q2.fn 61 rfl]) (fun j => by rw [f3.fn 62 rfl, q3.fn 62 rfl, f2.fn 62 rfl, q2.fn 62 rfl])
      have R3 := r3
      obtain ⟨S4, hS4⟩ : ∃ S : Sy, S = Sf3.set (upd Sf3.ρ [(17, Sf3.ρ 16), (18, (0 : Int))]) [(69, fun j => Sf3.Φ 66 [j]), (70, fun j => Sf3.Φ 67 [j]), (71, fun j => Sf3.Φ 68 [j])] 50 rfl j3 := ⟨_, rfl⟩
      have q4 : Stay [17, 18] [69, 70, 71] Sf3 S4 := by rw [hS4]; exact (Stay.refl [17, 18] [69, 70, 71] _).set rfl rfl
      have s4_17 : S4.ρ 17 = Sf3.ρ 16 := by rw [hS4]; rfl
      have s4_18 : S4.ρ 18 = (0 : Int) := by rw [hS4]; rfl
      have z4_69 : ∀ j : Int, S4.Φ 69 [j] = (fun j => Sf3.Φ 66 [j]) j := by rw [hS4]; intro j; rfl
      have z4_70 : ∀ j : Int, S4.Φ 70 [j] = (fun j => Sf3.Φ 67 [j]) j := by rw [hS4]; intro j; rfl
      have z4_71 : ∀ j : Int, S4.Φ 71 [j] = (fun j => Sf3.Φ 68 [j]) j := by rw [hS4]; intro j; rfl
      have k4 : ∀ z ∈ S4.I, z.f + z.ks.length ≤ 50 := by rw [q4.1]; exact j3
      have Rl : RowIs S4 17 69 _ := ⟨s4_17.trans R3.1, fun j hj => by have := R3.2 j hj; rw [z4_69, z4_70, z4_71]; exact this⟩
      have Ra : RowIs S4 8 60 _ := R1.same (q4.num 8 rfl) (fun j => q4.fn 60 rfl _) (fun j => q4.fn 61 rfl _) (fun j => q4.fn 62 rfl _)
      obtain ⟨E1, E2⟩ := rows_eq Ra Rl
      have hl := flt_len (fun j => SS.Φ 30 [(j : Int)]) x.n
      have hl2 := flt_len (fun j => SS.Φ 31 [(j : Int)]) y.n
      have E3 := Rl.1
      obtain ⟨Sf4, f4, lk4⟩ := loopL S4 s4_18 (by omega) E1 E2 k4
      have j4 : ∀ z ∈ Sf4.I, z.f + z.ks.length ≤ 50 := by rw [f4.1]; exact k4
      have g4 : Stay _ _ Sf4 Sf4 := Stay.refl [] [] _
      have p4 := f4.trans g4
      have g3 : Stay _ _ Sf3 Sf4 := (q4.trans p4)
      have p3 := f3.trans g3
      have g2 : Stay _ _ Sf2 Sf4 := (q3.trans p3)
      have p2 := f2.trans g2
      have g1 : Stay _ _ Sf1 Sf4 := (q2.trans p2)
      have p1 := f1.trans g1
      have PP := q1.trans p1
      have t1 := (PP.num 1 rfl).trans i1
      have t11 := (PP.num 11 rfl).trans i11
      have hlk := LkOk.all (P := Try.prog) (S := Sf4) (gs := []) (ms := [lpWM, lpWL]) (fs := [orL (lkLoopR Try.prog 3 [] XB0W F1rW (.exit 0) [(12, .num (Tm.enc (.var .i64 11))), (12, .num (Tm.enc (.var .i64 11))), (9, .num (Tm.enc (.lit .i64 0))), (12, .num (Tm.enc (.var .i64 11))), (50, .arr (.var 31))]) (orL (lkLoopR Try.prog 4 [] XE0W FEW (.exit 0) [(1, .num (Tm.enc (.var .i64 1))), (1, .num (Tm.enc (.var .i64 1))), (13, .num (Tm.enc (.lit .i64 0))), (8, .num (Tm.enc (.var .i64 8))), (60, .arr (.var 60)), (61, .arr (.var 61)), (62, .arr (.var 62))]) (lkLoopR Try.prog 5 [] XH0W FHrW (.exit 0) [(11, .num (Tm.enc (.var .i64 11))), (11, .num (Tm.enc (.var .i64 11))), (15, .num (Tm.enc (.lit .i64 0))), (8, .num (Tm.enc (.var .i64 8))), (60, .arr (.var 60)), (61, .arr (.var 61)), (62, .arr (.var 62))])), lkLoopR Try.prog 7 [] XL1W FLW (.exit 0) [(8, .num (Tm.enc (.var .i64 8))), (17, .num (Tm.enc (.var .i64 16))), (18, .num (Tm.enc (.lit .i64 0))), (8, .num (Tm.enc (.var .i64 8))), (60, .arr (.var 60)), (61, .arr (.var 61)), (62, .arr (.var 62)), (17, .num (Tm.enc (.var .i64 16))), (69, .arr (.var 66)), (70, .arr (.var 67)), (71, .arr (.var 68))]]) ⟨⟨_, codeWM, LkAt.or (lk1 _ _ (g1.same rfl rfl) (an 12 (.var .i64 11) (sm ((PP.num 11 rfl).trans s1_12.symm)) (an 12 (.var .i64 11) (sm ((PP.num 11 rfl).trans s1_12.symm)) (an 9 (.lit .i64 0) (sm s1_9.symm) (an 12 (.var .i64 11) (sm ((PP.num 11 rfl).trans s1_12.symm)) (asg_arr (i := 50) (fun j => congrArg some ((PP.fn 31 rfl [(j : Int)]).trans (z1_50 j).symm)) (asg_nil p1.1.symm))))))) (LkAt.or (lk2 _ _ (g2.same rfl rfl) (an 1 (.var .i64 1) (sm (p2.num 1 rfl)) (an 1 (.var .i64 1) (sm (p2.num 1 rfl)) (an 13 (.lit .i64 0) (sm s2_13.symm) (an 8 (.var .i64 8) (sm (p2.num 8 rfl)) (asg_arr (i := 60) (fun j => congrArg some (p2.fn 60 rfl [(j : Int)])) (asg_arr (i := 61) (fun j => congrArg some (p2.fn 61 rfl [(j : Int)])) (asg_arr (i := 62) (fun j => congrArg some (p2.fn 62 rfl [(j : Int)])) (asg_nil p2.1.symm))))))))) (lk3 _ _ (g3.same rfl rfl) (an 11 (.var .i64 11) (sm (p3.num 11 rfl)) (an 11 (.var .i64 11) (sm (p3.num 11 rfl)) (an 15 (.lit .i64 0) (sm s3_15.symm) (an 8 (.var .i64 8) (sm (p3.num 8 rfl)) (asg_arr (i := 60) (fun j => congrArg some (p3.fn 60 rfl [(j : Int)])) (asg_arr (i := 61) (fun j => congrArg some (p3.fn 61 rfl [(j : Int)])) (asg_arr (i := 62) (fun j => congrArg some (p3.fn 62 rfl [(j : Int)])) (asg_nil p3.1.symm))))))))))⟩, ⟨_, codeWL, lk4 _ _ (g4.same rfl rfl) (an 8 (.var .i64 8) (sm (p4.num 8 rfl)) (an 17 (.var .i64 16) (sm (((p4.num 16 rfl).trans (q4.num 16 rfl)).trans s4_17.symm)) (an 18 (.lit .i64 0) (sm s4_18.symm) (an 8 (.var .i64 8) (sm (p4.num 8 rfl)) (asg_arr (i := 60) (fun j => congrArg some (p4.fn 60 rfl [(j : Int)])) (asg_arr (i := 61) (fun j => congrArg some (p4.fn 61 rfl [(j : Int)])) (asg_arr (i := 62) (fun j => congrArg some (p4.fn 62 rfl [(j : Int)])) (an 17 (.var .i64 16) (sm (((p4.num 16 rfl).trans (q4.num 16 rfl)).trans s4_17.symm)) (asg_arr (i := 69) (fun j => congrArg some (((p4.fn 66 rfl _).trans (q4.fn 66 rfl _)).trans (z4_69 j).symm)) (asg_arr (i := 70) (fun j => congrArg some (((p4.fn 67 rfl _).trans (q4.fn 67 rfl _)).trans (z4_70 j).symm)) (asg_arr (i := 71) (fun j => congrArg some (((p4.fn 68 rfl _).trans (q4.fn 68 rfl _)).trans (z4_71 j).symm)) (asg_nil p4.1.symm))))))))))))⟩, trivial⟩
      obtain ⟨N, m1, m2⟩ := mk PP rfl
      have e8 := (p4.num 8 rfl)
      have e16 := (p4.num 16 rfl).trans (q4.num 16 rfl)
      have x16 := R3.1
      have ne := List.length_pos_iff.2 hy
      have xE := E1
      have x17 := s4_17
      exact law3 N (by omega) (by omega) (by omega) (by omega) m1 m2 hlk
  by_cases hx : flt (fun j => SS.Φ 30 [(j : Int)]) x.n = []
  · by_cases hy : flt (fun j => SS.Φ 31 [(j : Int)]) y.n = []
    · obtain ⟨S1, hS1⟩ : ∃ S : Sy, S = SS.set (upd SS.ρ [(12, SS.ρ 1 + SS.ρ 11), (9, (0 : Int))]) [(50, fun j => if j < SS.ρ 1 then SS.Φ 30 [j] else SS.Φ 31 [j - SS.ρ 1])] 50 rfl hK := ⟨_, rfl⟩
      have q1 : Stay [12, 9] [50] SS S1 := by rw [hS1]; exact (Stay.refl [12, 9] [50] _).set rfl rfl
      have s1_12 : S1.ρ 12 = SS.ρ 1 + SS.ρ 11 := by rw [hS1]; rfl
      have s1_9 : S1.ρ 9 = (0 : Int) := by rw [hS1]; rfl
      have z1_50 : ∀ j : Int, S1.Φ 50 [j] = (fun j => if j < SS.ρ 1 then SS.Φ 30 [j] else SS.Φ 31 [j - SS.ρ 1]) j := by rw [hS1]; intro j; rfl
      have k1 : ∀ z ∈ S1.I, z.f + z.ks.length ≤ 50 := by rw [q1.1]; exact hK
      have hc1 : flt (fun j => S1.Φ 50 [(j : Int)]) (x.n + y.n) = flt (fun j => SS.Φ 30 [(j : Int)]) x.n ++ flt (fun j => SS.Φ 31 [(j : Int)]) y.n := by
        rw [flt_add]
        congr 1
        · exact flt_congr fun j hj => by rw [z1_50]; dsimp only; rw [if_pos (by omega)]
        · exact flt_congr fun j hj => by rw [z1_50]; dsimp only; rw [if_neg (by omega), show (((x.n + j : Nat) : Int) - SS.ρ 1) = (j : Int) by omega]
      obtain ⟨Sf1, f1, lk1⟩ := loopCN S1 (x.n + y.n) (by omega) s1_9 (by rw [s1_12]; omega) (by rw [hc1]; simp [hx, hy]) k1
      have j1 : ∀ z ∈ Sf1.I, z.f + z.ks.length ≤ 50 := by rw [f1.1]; exact k1
      obtain ⟨S2, hS2⟩ : ∃ S : Sy, S = Sf1.set (upd Sf1.ρ [(13, (0 : Int))]) [] 50 rfl j1 := ⟨_, rfl⟩
      have q2 : Stay [13] [] Sf1 S2 := by rw [hS2]; exact (Stay.refl [13] [] _).set rfl rfl
      have s2_13 : S2.ρ 13 = (0 : Int) := by rw [hS2]; rfl
      have k2 : ∀ z ∈ S2.I, z.f + z.ks.length ≤ 50 := by rw [q2.1]; exact j1
      have u2 : ∀ j : Int, S2.Φ 30 [j] = SS.Φ 30 [j] := fun j => by rw [q2.fn 30 rfl, f1.fn 30 rfl, q1.fn 30 rfl]
      have w2 : S2.ρ 1 = x.n := by rw [q2.num 1 rfl, f1.num 1 rfl, q1.num 1 rfl]; exact i1
      obtain ⟨Sf2, f2, lk2⟩ := loopDN S2 x.n (by omega) s2_13 w2 (by rw [flt_congr (G := fun j => SS.Φ 30 [(j : Int)]) fun j _ => u2 j]; exact hx) k2
      have j2 : ∀ z ∈ Sf2.I, z.f + z.ks.length ≤ 50 := by rw [f2.1]; exact k2
      obtain ⟨S3, hS3⟩ : ∃ S : Sy, S = Sf2.set (upd Sf2.ρ [(15, (0 : Int))]) [] 50 rfl j2 := ⟨_, rfl⟩
      have q3 : Stay [15] [] Sf2 S3 := by rw [hS3]; exact (Stay.refl [15] [] _).set rfl rfl
      have s3_15 : S3.ρ 15 = (0 : Int) := by rw [hS3]; rfl
      have k3 : ∀ z ∈ S3.I, z.f + z.ks.length ≤ 50 := by rw [q3.1]; exact j2
      have u3 : ∀ j : Int, S3.Φ 31 [j] = SS.Φ 31 [j] := fun j => by rw [q3.fn 31 rfl, f2.fn 31 rfl, q2.fn 31 rfl, f1.fn 31 rfl, q1.fn 31 rfl]
      have w3 : S3.ρ 11 = y.n := by rw [q3.num 11 rfl, f2.num 11 rfl, q2.num 11 rfl, f1.num 11 rfl, q1.num 11 rfl]; exact i11
      obtain ⟨Sf3, f3, lk3⟩ := loopGN S3 y.n (by omega) s3_15 w3 (by rw [flt_congr (G := fun j => SS.Φ 31 [(j : Int)]) fun j _ => u3 j]; exact hy) k3
      have j3 : ∀ z ∈ Sf3.I, z.f + z.ks.length ≤ 50 := by rw [f3.1]; exact k3
      have g3 : Stay _ _ Sf3 Sf3 := Stay.refl [] [] _
      have p3 := f3.trans g3
      have g2 : Stay _ _ Sf2 Sf3 := (q3.trans p3)
      have p2 := f2.trans g2
      have g1 : Stay _ _ Sf1 Sf3 := (q2.trans p2)
      have p1 := f1.trans g1
      have PP := q1.trans p1
      have t1 := (PP.num 1 rfl).trans i1
      have t11 := (PP.num 11 rfl).trans i11
      have hlk := LkOk.all (P := Try.prog) (S := Sf3) (gs := []) (ms := [lpWM, lpWL]) (fs := [orL (lkLoopR Try.prog 3 [] XC0W FAW (.exit 0) [(12, .num (Tm.enc (.bin .add (.var .i64 1) (.var .i64 11)))), (12, .num (Tm.enc (.bin .add (.var .i64 1) (.var .i64 11)))), (9, .num (Tm.enc (.lit .i64 0))), (12, .num (Tm.enc (.bin .add (.var .i64 1) (.var .i64 11)))), (50, .arr (.cat (.var 30) (Tm.enc (.var .i64 1)) (.var 31)))]) (orL (lkLoopR Try.prog 4 [] XD0W FDW (.exit 0) [(1, .num (Tm.enc (.var .i64 1))), (1, .num (Tm.enc (.var .i64 1))), (13, .num (Tm.enc (.lit .i64 0)))]) (lkLoopR Try.prog 5 [] XG0W FGW (.exit 0) [(11, .num (Tm.enc (.var .i64 11))), (11, .num (Tm.enc (.var .i64 11))), (15, .num (Tm.enc (.lit .i64 0)))])), lkLoopR Try.prog 7 [] XL0W FLW (.exit 0) []]) ⟨⟨_, codeWM, LkAt.or (lk1 _ _ (g1.same rfl rfl) (an 12 (.bin .add (.var .i64 1) (.var .i64 11)) (sm (show IntKind.i64.wrap (Sf3.ρ 1 + Sf3.ρ 11) = S1.ρ 12 from by rw [w_i64 (by omega) (by omega), s1_12]; omega)) (an 12 (.bin .add (.var .i64 1) (.var .i64 11)) (sm (show IntKind.i64.wrap (Sf3.ρ 1 + Sf3.ρ 11) = S1.ρ 12 from by rw [w_i64 (by omega) (by omega), s1_12]; omega)) (an 9 (.lit .i64 0) (sm s1_9.symm) (an 12 (.bin .add (.var .i64 1) (.var .i64 11)) (sm (show IntKind.i64.wrap (Sf3.ρ 1 + Sf3.ρ 11) = S1.ρ 12 from by rw [w_i64 (by omega) (by omega), s1_12]; omega)) (ar 50 (ar_cat (.var .i64 1) rfl (by kernel_rfl) (ar_var 30) (ar_var 31)) (asg_nil p1.1.symm) (fun j => by rw [z1_50]; dsimp only; rw [PP.fn 30 rfl, PP.fn 31 rfl, PP.num 1 rfl]))))))) (LkAt.or (lk2 _ _ (g2.same rfl rfl) (an 1 (.var .i64 1) (sm (p2.num 1 rfl)) (an 1 (.var .i64 1) (sm (p2.num 1 rfl)) (an 13 (.lit .i64 0) (sm s2_13.symm) (asg_nil p2.1.symm))))) (lk3 _ _ (g3.same rfl rfl) (an 11 (.var .i64 11) (sm (p3.num 11 rfl)) (an 11 (.var .i64 11) (sm (p3.num 11 rfl)) (an 15 (.lit .i64 0) (sm s3_15.symm) (asg_nil p3.1.symm))))))⟩, ⟨_, codeWL, atZL _⟩, trivial⟩
      obtain ⟨N, m1, m2⟩ := mk PP rfl
      exact law4 N (by omega) (by omega)  m1 m2 hlk
    · obtain ⟨S1, hS1⟩ : ∃ S : Sy, S = SS.set (upd SS.ρ [(12, SS.ρ 1 + SS.ρ 11), (9, (0 : Int))]) [(50, fun j => if j < SS.ρ 1 then SS.Φ 30 [j] else SS.Φ 31 [j - SS.ρ 1])] 50 rfl hK := ⟨_, rfl⟩
      have q1 : Stay [12, 9] [50] SS S1 := by rw [hS1]; exact (Stay.refl [12, 9] [50] _).set rfl rfl
      have s1_12 : S1.ρ 12 = SS.ρ 1 + SS.ρ 11 := by rw [hS1]; rfl
      have s1_9 : S1.ρ 9 = (0 : Int) := by rw [hS1]; rfl
      have z1_50 : ∀ j : Int, S1.Φ 50 [j] = (fun j => if j < SS.ρ 1 then SS.Φ 30 [j] else SS.Φ 31 [j - SS.ρ 1]) j := by rw [hS1]; intro j; rfl
      have k1 : ∀ z ∈ S1.I, z.f + z.ks.length ≤ 50 := by rw [q1.1]; exact hK
      have hc1 : flt (fun j => S1.Φ 50 [(j : Int)]) (x.n + y.n) = flt (fun j => SS.Φ 30 [(j : Int)]) x.n ++ flt (fun j => SS.Φ 31 [(j : Int)]) y.n := by
        rw [flt_add]
        congr 1
        · exact flt_congr fun j hj => by rw [z1_50]; dsimp only; rw [if_pos (by omega)]
        · exact flt_congr fun j hj => by rw [z1_50]; dsimp only; rw [if_neg (by omega), show (((x.n + j : Nat) : Int) - SS.ρ 1) = (j : Int) by omega]
      obtain ⟨Sf1, f1, r1, lk1⟩ := loopCR S1 (x.n + y.n) (by omega) s1_9 (by rw [s1_12]; omega) (by rw [hc1]; simp [hx, hy]) k1
      rw [hc1] at r1
      have j1 : ∀ z ∈ Sf1.I, z.f + z.ks.length ≤ 50 := by rw [f1.1]; exact k1
      obtain ⟨S2, hS2⟩ : ∃ S : Sy, S = Sf1.set (upd Sf1.ρ [(13, (0 : Int))]) [] 50 rfl j1 := ⟨_, rfl⟩
      have q2 : Stay [13] [] Sf1 S2 := by rw [hS2]; exact (Stay.refl [13] [] _).set rfl rfl
      have s2_13 : S2.ρ 13 = (0 : Int) := by rw [hS2]; rfl
      have k2 : ∀ z ∈ S2.I, z.f + z.ks.length ≤ 50 := by rw [q2.1]; exact j1
      have u2 : ∀ j : Int, S2.Φ 30 [j] = SS.Φ 30 [j] := fun j => by rw [q2.fn 30 rfl, f1.fn 30 rfl, q1.fn 30 rfl]
      have w2 : S2.ρ 1 = x.n := by rw [q2.num 1 rfl, f1.num 1 rfl, q1.num 1 rfl]; exact i1
      obtain ⟨Sf2, f2, lk2⟩ := loopEN S2 x.n (by omega) s2_13 w2 (by rw [flt_congr (G := fun j => SS.Φ 30 [(j : Int)]) fun j _ => u2 j]; exact hx) k2
      have j2 : ∀ z ∈ Sf2.I, z.f + z.ks.length ≤ 50 := by rw [f2.1]; exact k2
      obtain ⟨S3, hS3⟩ : ∃ S : Sy, S = Sf2.set (upd Sf2.ρ [(15, (0 : Int))]) [] 50 rfl j2 := ⟨_, rfl⟩
      have q3 : Stay [15] [] Sf2 S3 := by rw [hS3]; exact (Stay.refl [15] [] _).set rfl rfl
      have s3_15 : S3.ρ 15 = (0 : Int) := by rw [hS3]; rfl
      have k3 : ∀ z ∈ S3.I, z.f + z.ks.length ≤ 50 := by rw [q3.1]; exact j2
      have u3 : ∀ j : Int, S3.Φ 31 [j] = SS.Φ 31 [j] := fun j => by rw [q3.fn 31 rfl, f2.fn 31 rfl, q2.fn 31 rfl, f1.fn 31 rfl, q1.fn 31 rfl]
      have w3 : S3.ρ 11 = y.n := by rw [q3.num 11 rfl, f2.num 11 rfl, q2.num 11 rfl, f1.num 11 rfl, q1.num 11 rfl]; exact i11
      obtain ⟨Sf3, f3, r3, lk3⟩ := loopHR S3 y.n (by omega) s3_15 w3 (by rw [flt_congr (G := fun j => SS.Φ 31 [(j : Int)]) fun j _ => u3 j]; exact hy) k3
      rw [flt_congr (G := fun j => SS.Φ 31 [(j : Int)]) fun j _ => u3 j] at r3
      have j3 : ∀ z ∈ Sf3.I, z.f + z.ks.length ≤ 50 := by rw [f3.1]; exact k3
      have R1 : RowIs Sf3 8 60 _ := r1.same (by rw [f3.num 8 rfl, q3.num 8 rfl, f2.num 8 rfl, q2.num 8 rfl]) (fun j => by rw [f3.fn 60 rfl, q3.fn 60 rfl, f2.fn 60 rfl, q2.fn 60 rfl]) (fun j => by rw [f3.fn 61 rfl, q3.fn 61 rfl, f2.fn 61 rfl, q2.fn 61 rfl]) (fun j => by rw [f3.fn 62 rfl, q3.fn 62 rfl, f2.fn 62 rfl, q2.fn 62 rfl])
      have R3 := r3
      obtain ⟨S4, hS4⟩ : ∃ S : Sy, S = Sf3.set (upd Sf3.ρ [(17, Sf3.ρ 16), (18, (0 : Int))]) [(69, fun j => Sf3.Φ 66 [j]), (70, fun j => Sf3.Φ 67 [j]), (71, fun j => Sf3.Φ 68 [j])] 50 rfl j3 := ⟨_, rfl⟩
      have q4 : Stay [17, 18] [69, 70, 71] Sf3 S4 := by rw [hS4]; exact (Stay.refl [17, 18] [69, 70, 71] _).set rfl rfl
      have s4_17 : S4.ρ 17 = Sf3.ρ 16 := by rw [hS4]; rfl
      have s4_18 : S4.ρ 18 = (0 : Int) := by rw [hS4]; rfl
      have z4_69 : ∀ j : Int, S4.Φ 69 [j] = (fun j => Sf3.Φ 66 [j]) j := by rw [hS4]; intro j; rfl
      have z4_70 : ∀ j : Int, S4.Φ 70 [j] = (fun j => Sf3.Φ 67 [j]) j := by rw [hS4]; intro j; rfl
      have z4_71 : ∀ j : Int, S4.Φ 71 [j] = (fun j => Sf3.Φ 68 [j]) j := by rw [hS4]; intro j; rfl
      have k4 : ∀ z ∈ S4.I, z.f + z.ks.length ≤ 50 := by rw [q4.1]; exact j3
      have Rl : RowIs S4 17 69 _ := ⟨s4_17.trans R3.1, fun j hj => by have := R3.2 j hj; rw [z4_69, z4_70, z4_71]; exact this⟩
      have Ra : RowIs S4 8 60 _ := R1.same (q4.num 8 rfl) (fun j => q4.fn 60 rfl _) (fun j => q4.fn 61 rfl _) (fun j => q4.fn 62 rfl _)
      rw [hx, List.nil_append] at Ra
      obtain ⟨E1, E2⟩ := rows_eq Ra Rl
      have hl := flt_len (fun j => SS.Φ 30 [(j : Int)]) x.n
      have hl2 := flt_len (fun j => SS.Φ 31 [(j : Int)]) y.n
      have E3 := Rl.1
      obtain ⟨Sf4, f4, lk4⟩ := loopL S4 s4_18 (by omega) E1 E2 k4
      have j4 : ∀ z ∈ Sf4.I, z.f + z.ks.length ≤ 50 := by rw [f4.1]; exact k4
      have g4 : Stay _ _ Sf4 Sf4 := Stay.refl [] [] _
      have p4 := f4.trans g4
      have g3 : Stay _ _ Sf3 Sf4 := (q4.trans p4)
      have p3 := f3.trans g3
      have g2 : Stay _ _ Sf2 Sf4 := (q3.trans p3)
      have p2 := f2.trans g2
      have g1 : Stay _ _ Sf1 Sf4 := (q2.trans p2)
      have p1 := f1.trans g1
      have PP := q1.trans p1
      have t1 := (PP.num 1 rfl).trans i1
      have t11 := (PP.num 11 rfl).trans i11
      have hlk := LkOk.all (P := Try.prog) (S := Sf4) (gs := []) (ms := [lpWM, lpWL]) (fs := [orL (lkLoopR Try.prog 3 [] XC0W F1rW (.exit 0) [(12, .num (Tm.enc (.bin .add (.var .i64 1) (.var .i64 11)))), (12, .num (Tm.enc (.bin .add (.var .i64 1) (.var .i64 11)))), (9, .num (Tm.enc (.lit .i64 0))), (12, .num (Tm.enc (.bin .add (.var .i64 1) (.var .i64 11)))), (50, .arr (.cat (.var 30) (Tm.enc (.var .i64 1)) (.var 31)))]) (orL (lkLoopR Try.prog 4 [] XE0W FEW (.exit 0) [(1, .num (Tm.enc (.var .i64 1))), (1, .num (Tm.enc (.var .i64 1))), (13, .num (Tm.enc (.lit .i64 0))), (8, .num (Tm.enc (.var .i64 8))), (60, .arr (.var 60)), (61, .arr (.var 61)), (62, .arr (.var 62))]) (lkLoopR Try.prog 5 [] XH0W FHrW (.exit 0) [(11, .num (Tm.enc (.var .i64 11))), (11, .num (Tm.enc (.var .i64 11))), (15, .num (Tm.enc (.lit .i64 0))), (8, .num (Tm.enc (.var .i64 8))), (60, .arr (.var 60)), (61, .arr (.var 61)), (62, .arr (.var 62))])), lkLoopR Try.prog 7 [] XL1W FLW (.exit 0) [(8, .num (Tm.enc (.var .i64 8))), (17, .num (Tm.enc (.var .i64 16))), (18, .num (Tm.enc (.lit .i64 0))), (8, .num (Tm.enc (.var .i64 8))), (60, .arr (.var 60)), (61, .arr (.var 61)), (62, .arr (.var 62)), (17, .num (Tm.enc (.var .i64 16))), (69, .arr (.var 66)), (70, .arr (.var 67)), (71, .arr (.var 68))]]) ⟨⟨_, codeWM, LkAt.or (lk1 _ _ (g1.same rfl rfl) (an 12 (.bin .add (.var .i64 1) (.var .i64 11)) (sm (show IntKind.i64.wrap (Sf4.ρ 1 + Sf4.ρ 11) = S1.ρ 12 from by rw [w_i64 (by omega) (by omega), s1_12]; omega)) (an 12 (.bin .add (.var .i64 1) (.var .i64 11)) (sm (show IntKind.i64.wrap (Sf4.ρ 1 + Sf4.ρ 11) = S1.ρ 12 from by rw [w_i64 (by omega) (by omega), s1_12]; omega)) (an 9 (.lit .i64 0) (sm s1_9.symm) (an 12 (.bin .add (.var .i64 1) (.var .i64 11)) (sm (show IntKind.i64.wrap (Sf4.ρ 1 + Sf4.ρ 11) = S1.ρ 12 from by rw [w_i64 (by omega) (by omega), s1_12]; omega)) (ar 50 (ar_cat (.var .i64 1) rfl (by kernel_rfl) (ar_var 30) (ar_var 31)) (asg_nil p1.1.symm) (fun j => by rw [z1_50]; dsimp only; rw [PP.fn 30 rfl, PP.fn 31 rfl, PP.num 1 rfl]))))))) (LkAt.or (lk2 _ _ (g2.same rfl rfl) (an 1 (.var .i64 1) (sm (p2.num 1 rfl)) (an 1 (.var .i64 1) (sm (p2.num 1 rfl)) (an 13 (.lit .i64 0) (sm s2_13.symm) (an 8 (.var .i64 8) (sm (p2.num 8 rfl)) (asg_arr (i := 60) (fun j => congrArg some (p2.fn 60 rfl [(j : Int)])) (asg_arr (i := 61) (fun j => congrArg some (p2.fn 61 rfl [(j : Int)])) (asg_arr (i := 62) (fun j => congrArg some (p2.fn 62 rfl [(j : Int)])) (asg_nil p2.1.symm))))))))) (lk3 _ _ (g3.same rfl rfl) (an 11 (.var .i64 11) (sm (p3.num 11 rfl)) (an 11 (.var .i64 11) (sm (p3.num 11 rfl)) (an 15 (.lit .i64 0) (sm s3_15.symm) (an 8 (.var .i64 8) (sm (p3.num 8 rfl)) (asg_arr (i := 60) (fun j => congrArg some (p3.fn 60 rfl [(j : Int)])) (asg_arr (i := 61) (fun j => congrArg some (p3.fn 61 rfl [(j : Int)])) (asg_arr (i := 62) (fun j => congrArg some (p3.fn 62 rfl [(j : Int)])) (asg_nil p3.1.symm))))))))))⟩, ⟨_, codeWL, lk4 _ _ (g4.same rfl rfl) (an 8 (.var .i64 8) (sm (p4.num 8 rfl)) (an 17 (.var .i64 16) (sm (((p4.num 16 rfl).trans (q4.num 16 rfl)).trans s4_17.symm)) (an 18 (.lit .i64 0) (sm s4_18.symm) (an 8 (.var .i64 8) (sm (p4.num 8 rfl)) (asg_arr (i := 60) (fun j => congrArg some (p4.fn 60 rfl [(j : Int)])) (asg_arr (i := 61) (fun j => congrArg some (p4.fn 61 rfl [(j : Int)])) (asg_arr (i := 62) (fun j => congrArg some (p4.fn 62 rfl [(j : Int)])) (an 17 (.var .i64 16) (sm (((p4.num 16 rfl).trans (q4.num 16 rfl)).trans s4_17.symm)) (asg_arr (i := 69) (fun j => congrArg some (((p4.fn 66 rfl _).trans (q4.fn 66 rfl _)).trans (z4_69 j).symm)) (asg_arr (i := 70) (fun j => congrArg some (((p4.fn 67 rfl _).trans (q4.fn 67 rfl _)).trans (z4_70 j).symm)) (asg_arr (i := 71) (fun j => congrArg some (((p4.fn 68 rfl _).trans (q4.fn 68 rfl _)).trans (z4_71 j).symm)) (asg_nil p4.1.symm))))))))))))⟩, trivial⟩
      obtain ⟨N, m1, m2⟩ := mk PP rfl
      have e8 := (p4.num 8 rfl)
      have e16 := (p4.num 16 rfl).trans (q4.num 16 rfl)
      have x16 := R3.1
      have ne := List.length_pos_iff.2 hy
      have xE := E1
      have x17 := s4_17
      exact law5 N (by omega) (by omega) (by omega) (by omega) m1 m2 hlk
  by_cases hy : flt (fun j => SS.Φ 31 [(j : Int)]) y.n = []
  · obtain ⟨S1, hS1⟩ : ∃ S : Sy, S = SS.set (upd SS.ρ [(12, SS.ρ 1 + SS.ρ 11), (9, (0 : Int))]) [(50, fun j => if j < SS.ρ 1 then SS.Φ 30 [j] else SS.Φ 31 [j - SS.ρ 1])] 50 rfl hK := ⟨_, rfl⟩
    have q1 : Stay [12, 9] [50] SS S1 := by rw [hS1]; exact (Stay.refl [12, 9] [50] _).set rfl rfl
    have s1_12 : S1.ρ 12 = SS.ρ 1 + SS.ρ 11 := by rw [hS1]; rfl
    have s1_9 : S1.ρ 9 = (0 : Int) := by rw [hS1]; rfl
    have z1_50 : ∀ j : Int, S1.Φ 50 [j] = (fun j => if j < SS.ρ 1 then SS.Φ 30 [j] else SS.Φ 31 [j - SS.ρ 1]) j := by rw [hS1]; intro j; rfl
    have k1 : ∀ z ∈ S1.I, z.f + z.ks.length ≤ 50 := by rw [q1.1]; exact hK
    have hc1 : flt (fun j => S1.Φ 50 [(j : Int)]) (x.n + y.n) = flt (fun j => SS.Φ 30 [(j : Int)]) x.n ++ flt (fun j => SS.Φ 31 [(j : Int)]) y.n := by
      rw [flt_add]
      congr 1
      · exact flt_congr fun j hj => by rw [z1_50]; dsimp only; rw [if_pos (by omega)]
      · exact flt_congr fun j hj => by rw [z1_50]; dsimp only; rw [if_neg (by omega), show (((x.n + j : Nat) : Int) - SS.ρ 1) = (j : Int) by omega]
    obtain ⟨Sf1, f1, r1, lk1⟩ := loopCR S1 (x.n + y.n) (by omega) s1_9 (by rw [s1_12]; omega) (by rw [hc1]; simp [hx, hy]) k1
    rw [hc1] at r1
    have j1 : ∀ z ∈ Sf1.I, z.f + z.ks.length ≤ 50 := by rw [f1.1]; exact k1
    obtain ⟨S2, hS2⟩ : ∃ S : Sy, S = Sf1.set (upd Sf1.ρ [(13, (0 : Int))]) [] 50 rfl j1 := ⟨_, rfl⟩
    have q2 : Stay [13] [] Sf1 S2 := by rw [hS2]; exact (Stay.refl [13] [] _).set rfl rfl
    have s2_13 : S2.ρ 13 = (0 : Int) := by rw [hS2]; rfl
    have k2 : ∀ z ∈ S2.I, z.f + z.ks.length ≤ 50 := by rw [q2.1]; exact j1
    have u2 : ∀ j : Int, S2.Φ 30 [j] = SS.Φ 30 [j] := fun j => by rw [q2.fn 30 rfl, f1.fn 30 rfl, q1.fn 30 rfl]
    have w2 : S2.ρ 1 = x.n := by rw [q2.num 1 rfl, f1.num 1 rfl, q1.num 1 rfl]; exact i1
    obtain ⟨Sf2, f2, r2, lk2⟩ := loopER S2 x.n (by omega) s2_13 w2 (by rw [flt_congr (G := fun j => SS.Φ 30 [(j : Int)]) fun j _ => u2 j]; exact hx) k2
    rw [flt_congr (G := fun j => SS.Φ 30 [(j : Int)]) fun j _ => u2 j] at r2
    have j2 : ∀ z ∈ Sf2.I, z.f + z.ks.length ≤ 50 := by rw [f2.1]; exact k2
    obtain ⟨S3, hS3⟩ : ∃ S : Sy, S = Sf2.set (upd Sf2.ρ [(15, (0 : Int))]) [] 50 rfl j2 := ⟨_, rfl⟩
    have q3 : Stay [15] [] Sf2 S3 := by rw [hS3]; exact (Stay.refl [15] [] _).set rfl rfl
    have s3_15 : S3.ρ 15 = (0 : Int) := by rw [hS3]; rfl
    have k3 : ∀ z ∈ S3.I, z.f + z.ks.length ≤ 50 := by rw [q3.1]; exact j2
    have u3 : ∀ j : Int, S3.Φ 31 [j] = SS.Φ 31 [j] := fun j => by rw [q3.fn 31 rfl, f2.fn 31 rfl, q2.fn 31 rfl, f1.fn 31 rfl, q1.fn 31 rfl]
    have w3 : S3.ρ 11 = y.n := by rw [q3.num 11 rfl, f2.num 11 rfl, q2.num 11 rfl, f1.num 11 rfl, q1.num 11 rfl]; exact i11
    obtain ⟨Sf3, f3, lk3⟩ := loopIN S3 y.n (by omega) s3_15 w3 (by rw [flt_congr (G := fun j => SS.Φ 31 [(j : Int)]) fun j _ => u3 j]; exact hy) k3
    have j3 : ∀ z ∈ Sf3.I, z.f + z.ks.length ≤ 50 := by rw [f3.1]; exact k3
    have R1 : RowIs Sf3 8 60 _ := r1.same (by rw [f3.num 8 rfl, q3.num 8 rfl, f2.num 8 rfl, q2.num 8 rfl]) (fun j => by rw [f3.fn 60 rfl, q3.fn 60 rfl, f2.fn 60 rfl, q2.fn 60 rfl]) (fun j => by rw [f3.fn 61 rfl, q3.fn 61 rfl, f2.fn 61 rfl, q2.fn 61 rfl]) (fun j => by rw [f3.fn 62 rfl, q3.fn 62 rfl, f2.fn 62 rfl, q2.fn 62 rfl])
    have R2 : RowIs Sf3 14 63 _ := r2.same (by rw [f3.num 14 rfl, q3.num 14 rfl]) (fun j => by rw [f3.fn 63 rfl, q3.fn 63 rfl]) (fun j => by rw [f3.fn 64 rfl, q3.fn 64 rfl]) (fun j => by rw [f3.fn 65 rfl, q3.fn 65 rfl])
    obtain ⟨S4, hS4⟩ : ∃ S : Sy, S = Sf3.set (upd Sf3.ρ [(17, Sf3.ρ 14), (18, (0 : Int))]) [(69, fun j => Sf3.Φ 63 [j]), (70, fun j => Sf3.Φ 64 [j]), (71, fun j => Sf3.Φ 65 [j])] 50 rfl j3 := ⟨_, rfl⟩
    have q4 : Stay [17, 18] [69, 70, 71] Sf3 S4 := by rw [hS4]; exact (Stay.refl [17, 18] [69, 70, 71] _).set rfl rfl
    have s4_17 : S4.ρ 17 = Sf3.ρ 14 := by rw [hS4]; rfl
    have s4_18 : S4.ρ 18 = (0 : Int) := by rw [hS4]; rfl
    have z4_69 : ∀ j : Int, S4.Φ 69 [j] = (fun j => Sf3.Φ 63 [j]) j := by rw [hS4]; intro j; rfl
    have z4_70 : ∀ j : Int, S4.Φ 70 [j] = (fun j => Sf3.Φ 64 [j]) j := by rw [hS4]; intro j; rfl
    have z4_71 : ∀ j : Int, S4.Φ 71 [j] = (fun j => Sf3.Φ 65 [j]) j := by rw [hS4]; intro j; rfl
    have k4 : ∀ z ∈ S4.I, z.f + z.ks.length ≤ 50 := by rw [q4.1]; exact j3
    have Rl : RowIs S4 17 69 _ := ⟨s4_17.trans R2.1, fun j hj => by have := R2.2 j hj; rw [z4_69, z4_70, z4_71]; exact this⟩
    have Ra : RowIs S4 8 60 _ := R1.same (q4.num 8 rfl) (fun j => q4.fn 60 rfl _) (fun j => q4.fn 61 rfl _) (fun j => q4.fn 62 rfl _)
    rw [hy, List.append_nil] at Ra
    obtain ⟨E1, E2⟩ := rows_eq Ra Rl
    have hl := flt_len (fun j => SS.Φ 30 [(j : Int)]) x.n
    have hl2 := flt_len (fun j => SS.Φ 31 [(j : Int)]) y.n
    have E3 := Rl.1
    obtain ⟨Sf4, f4, lk4⟩ := loopL S4 s4_18 (by omega) E1 E2 k4
    have j4 : ∀ z ∈ Sf4.I, z.f + z.ks.length ≤ 50 := by rw [f4.1]; exact k4
    have g4 : Stay _ _ Sf4 Sf4 := Stay.refl [] [] _
    have p4 := f4.trans g4
    have g3 : Stay _ _ Sf3 Sf4 := (q4.trans p4)
    have p3 := f3.trans g3
    have g2 : Stay _ _ Sf2 Sf4 := (q3.trans p3)
    have p2 := f2.trans g2
    have g1 : Stay _ _ Sf1 Sf4 := (q2.trans p2)
    have p1 := f1.trans g1
    have PP := q1.trans p1
    have t1 := (PP.num 1 rfl).trans i1
    have t11 := (PP.num 11 rfl).trans i11
    have hlk := LkOk.all (P := Try.prog) (S := Sf4) (gs := []) (ms := [lpWM, lpWL]) (fs := [orL (lkLoopR Try.prog 3 [] XC0W F1rW (.exit 0) [(12, .num (Tm.enc (.bin .add (.var .i64 1) (.var .i64 11)))), (12, .num (Tm.enc (.bin .add (.var .i64 1) (.var .i64 11)))), (9, .num (Tm.enc (.lit .i64 0))), (12, .num (Tm.enc (.bin .add (.var .i64 1) (.var .i64 11)))), (50, .arr (.cat (.var 30) (Tm.enc (.var .i64 1)) (.var 31)))]) (orL (lkLoopR Try.prog 4 [] XE0W FErW (.exit 0) [(1, .num (Tm.enc (.var .i64 1))), (1, .num (Tm.enc (.var .i64 1))), (13, .num (Tm.enc (.lit .i64 0))), (8, .num (Tm.enc (.var .i64 8))), (60, .arr (.var 60)), (61, .arr (.var 61)), (62, .arr (.var 62))]) (lkLoopR Try.prog 5 [] XI0W FIW (.exit 0) [(11, .num (Tm.enc (.var .i64 11))), (11, .num (Tm.enc (.var .i64 11))), (15, .num (Tm.enc (.lit .i64 0))), (8, .num (Tm.enc (.var .i64 8))), (60, .arr (.var 60)), (61, .arr (.var 61)), (62, .arr (.var 62)), (14, .num (Tm.enc (.var .i64 14))), (63, .arr (.var 63)), (64, .arr (.var 64)), (65, .arr (.var 65))])), lkLoopR Try.prog 7 [] XL1W FLW (.exit 0) [(8, .num (Tm.enc (.var .i64 8))), (17, .num (Tm.enc (.bin .add (.var .i64 14) (.lit .i64 0)))), (18, .num (Tm.enc (.lit .i64 0))), (8, .num (Tm.enc (.var .i64 8))), (60, .arr (.var 60)), (61, .arr (.var 61)), (62, .arr (.var 62)), (17, .num (Tm.enc (.bin .add (.var .i64 14) (.lit .i64 0)))), (69, .arr (.var 63)), (70, .arr (.var 64)), (71, .arr (.var 65))]]) ⟨⟨_, codeWM, LkAt.or (lk1 _ _ (g1.same rfl rfl) (an 12 (.bin .add (.var .i64 1) (.var .i64 11)) (sm (show IntKind.i64.wrap (Sf4.ρ 1 + Sf4.ρ 11) = S1.ρ 12 from by rw [w_i64 (by omega) (by omega), s1_12]; omega)) (an 12 (.bin .add (.var .i64 1) (.var .i64 11)) (sm (show IntKind.i64.wrap (Sf4.ρ 1 + Sf4.ρ 11) = S1.ρ 12 from by rw [w_i64 (by omega) (by omega), s1_12]; omega)) (an 9 (.lit .i64 0) (sm s1_9.symm) (an 12 (.bin .add (.var .i64 1) (.var .i64 11)) (sm (show IntKind.i64.wrap (Sf4.ρ 1 + Sf4.ρ 11) = S1.ρ 12 from by rw [w_i64 (by omega) (by omega), s1_12]; omega)) (ar 50 (ar_cat (.var .i64 1) rfl (by kernel_rfl) (ar_var 30) (ar_var 31)) (asg_nil p1.1.symm) (fun j => by rw [z1_50]; dsimp only; rw [PP.fn 30 rfl, PP.fn 31 rfl, PP.num 1 rfl]))))))) (LkAt.or (lk2 _ _ (g2.same rfl rfl) (an 1 (.var .i64 1) (sm (p2.num 1 rfl)) (an 1 (.var .i64 1) (sm (p2.num 1 rfl)) (an 13 (.lit .i64 0) (sm s2_13.symm) (an 8 (.var .i64 8) (sm (p2.num 8 rfl)) (asg_arr (i := 60) (fun j => congrArg some (p2.fn 60 rfl [(j : Int)])) (asg_arr (i := 61) (fun j => congrArg some (p2.fn 61 rfl [(j : Int)])) (asg_arr (i := 62) (fun j => congrArg some (p2.fn 62 rfl [(j : Int)])) (asg_nil p2.1.symm))))))))) (lk3 _ _ (g3.same rfl rfl) (an 11 (.var .i64 11) (sm (p3.num 11 rfl)) (an 11 (.var .i64 11) (sm (p3.num 11 rfl)) (an 15 (.lit .i64 0) (sm s3_15.symm) (an 8 (.var .i64 8) (sm (p3.num 8 rfl)) (asg_arr (i := 60) (fun j => congrArg some (p3.fn 60 rfl [(j : Int)])) (asg_arr (i := 61) (fun j => congrArg some (p3.fn 61 rfl [(j : Int)])) (asg_arr (i := 62) (fun j => congrArg some (p3.fn 62 rfl [(j : Int)])) (an 14 (.var .i64 14) (sm (p3.num 14 rfl)) (asg_arr (i := 63) (fun j => congrArg some (p3.fn 63 rfl [(j : Int)])) (asg_arr (i := 64) (fun j => congrArg some (p3.fn 64 rfl [(j : Int)])) (asg_arr (i := 65) (fun j => congrArg some (p3.fn 65 rfl [(j : Int)])) (asg_nil p3.1.symm))))))))))))))⟩, ⟨_, codeWL, lk4 _ _ (g4.same rfl rfl) (an 8 (.var .i64 8) (sm (p4.num 8 rfl)) (an 17 (.bin .add (.var .i64 14) (.lit .i64 0)) (sm (show IntKind.i64.wrap (Sf4.ρ 14 + 0) = S4.ρ 17 from by have e1 := (p4.num 14 rfl).trans (q4.num 14 rfl); have e2 := s4_17; rw [w_i64 (by omega) (by omega)]; omega)) (an 18 (.lit .i64 0) (sm s4_18.symm) (an 8 (.var .i64 8) (sm (p4.num 8 rfl)) (asg_arr (i := 60) (fun j => congrArg some (p4.fn 60 rfl [(j : Int)])) (asg_arr (i := 61) (fun j => congrArg some (p4.fn 61 rfl [(j : Int)])) (asg_arr (i := 62) (fun j => congrArg some (p4.fn 62 rfl [(j : Int)])) (an 17 (.bin .add (.var .i64 14) (.lit .i64 0)) (sm (show IntKind.i64.wrap (Sf4.ρ 14 + 0) = S4.ρ 17 from by have e1 := (p4.num 14 rfl).trans (q4.num 14 rfl); have e2 := s4_17; rw [w_i64 (by omega) (by omega)]; omega)) (asg_arr (i := 69) (fun j => congrArg some (((p4.fn 63 rfl _).trans (q4.fn 63 rfl _)).trans (z4_69 j).symm)) (asg_arr (i := 70) (fun j => congrArg some (((p4.fn 64 rfl _).trans (q4.fn 64 rfl _)).trans (z4_70 j).symm)) (asg_arr (i := 71) (fun j => congrArg some (((p4.fn 65 rfl _).trans (q4.fn 65 rfl _)).trans (z4_71 j).symm)) (asg_nil p4.1.symm))))))))))))⟩, trivial⟩
    obtain ⟨N, m1, m2⟩ := mk PP rfl
    have e8 := (p4.num 8 rfl)
    have e14 := (p4.num 14 rfl).trans (q4.num 14 rfl)
    have x14 := R2.1
    have ne := List.length_pos_iff.2 hx
    have xE := E1
    have x17 := s4_17
    exact law6 N (by omega) (by omega) (by omega) (by omega) m1 m2 hlk
  · obtain ⟨S1, hS1⟩ : ∃ S : Sy, S = SS.set (upd SS.ρ [(12, SS.ρ 1 + SS.ρ 11), (9, (0 : Int))]) [(50, fun j => if j < SS.ρ 1 then SS.Φ 30 [j] else SS.Φ 31 [j - SS.ρ 1])] 50 rfl hK := ⟨_, rfl⟩
    have q1 : Stay [12, 9] [50] SS S1 := by rw [hS1]; exact (Stay.refl [12, 9] [50] _).set rfl rfl
    have s1_12 : S1.ρ 12 = SS.ρ 1 + SS.ρ 11 := by rw [hS1]; rfl
    have s1_9 : S1.ρ 9 = (0 : Int) := by rw [hS1]; rfl
    have z1_50 : ∀ j : Int, S1.Φ 50 [j] = (fun j => if j < SS.ρ 1 then SS.Φ 30 [j] else SS.Φ 31 [j - SS.ρ 1]) j := by rw [hS1]; intro j; rfl
    have k1 : ∀ z ∈ S1.I, z.f + z.ks.length ≤ 50 := by rw [q1.1]; exact hK
    have hc1 : flt (fun j => S1.Φ 50 [(j : Int)]) (x.n + y.n) = flt (fun j => SS.Φ 30 [(j : Int)]) x.n ++ flt (fun j => SS.Φ 31 [(j : Int)]) y.n := by
      rw [flt_add]
      congr 1
      · exact flt_congr fun j hj => by rw [z1_50]; dsimp only; rw [if_pos (by omega)]
      · exact flt_congr fun j hj => by rw [z1_50]; dsimp only; rw [if_neg (by omega), show (((x.n + j : Nat) : Int) - SS.ρ 1) = (j : Int) by omega]
    obtain ⟨Sf1, f1, r1, lk1⟩ := loopCR S1 (x.n + y.n) (by omega) s1_9 (by rw [s1_12]; omega) (by rw [hc1]; simp [hx, hy]) k1
    rw [hc1] at r1
    have j1 : ∀ z ∈ Sf1.I, z.f + z.ks.length ≤ 50 := by rw [f1.1]; exact k1
    obtain ⟨S2, hS2⟩ : ∃ S : Sy, S = Sf1.set (upd Sf1.ρ [(13, (0 : Int))]) [] 50 rfl j1 := ⟨_, rfl⟩
    have q2 : Stay [13] [] Sf1 S2 := by rw [hS2]; exact (Stay.refl [13] [] _).set rfl rfl
    have s2_13 : S2.ρ 13 = (0 : Int) := by rw [hS2]; rfl
    have k2 : ∀ z ∈ S2.I, z.f + z.ks.length ≤ 50 := by rw [q2.1]; exact j1
    have u2 : ∀ j : Int, S2.Φ 30 [j] = SS.Φ 30 [j] := fun j => by rw [q2.fn 30 rfl, f1.fn 30 rfl, q1.fn 30 rfl]
    have w2 : S2.ρ 1 = x.n := by rw [q2.num 1 rfl, f1.num 1 rfl, q1.num 1 rfl]; exact i1
    obtain ⟨Sf2, f2, r2, lk2⟩ := loopER S2 x.n (by omega) s2_13 w2 (by rw [flt_congr (G := fun j => SS.Φ 30 [(j : Int)]) fun j _ => u2 j]; exact hx) k2
    rw [flt_congr (G := fun j => SS.Φ 30 [(j : Int)]) fun j _ => u2 j] at r2
    have j2 : ∀ z ∈ Sf2.I, z.f + z.ks.length ≤ 50 := by rw [f2.1]; exact k2
    obtain ⟨S3, hS3⟩ : ∃ S : Sy, S = Sf2.set (upd Sf2.ρ [(15, (0 : Int))]) [] 50 rfl j2 := ⟨_, rfl⟩
    have q3 : Stay [15] [] Sf2 S3 := by rw [hS3]; exact (Stay.refl [15] [] _).set rfl rfl
    have s3_15 : S3.ρ 15 = (0 : Int) := by rw [hS3]; rfl
    have k3 : ∀ z ∈ S3.I, z.f + z.ks.length ≤ 50 := by rw [q3.1]; exact j2
    have u3 : ∀ j : Int, S3.Φ 31 [j] = SS.Φ 31 [j] := fun j => by rw [q3.fn 31 rfl, f2.fn 31 rfl, q2.fn 31 rfl, f1.fn 31 rfl, q1.fn 31 rfl]
    have w3 : S3.ρ 11 = y.n := by rw [q3.num 11 rfl, f2.num 11 rfl, q2.num 11 rfl, f1.num 11 rfl, q1.num 11 rfl]; exact i11
    obtain ⟨Sf3, f3, r3, lk3⟩ := loopIR S3 y.n (by omega) s3_15 w3 (by rw [flt_congr (G := fun j => SS.Φ 31 [(j : Int)]) fun j _ => u3 j]; exact hy) k3
    rw [flt_congr (G := fun j => SS.Φ 31 [(j : Int)]) fun j _ => u3 j] at r3
    have j3 : ∀ z ∈ Sf3.I, z.f + z.ks.length ≤ 50 := by rw [f3.1]; exact k3
    have R1 : RowIs Sf3 8 60 _ := r1.same (by rw [f3.num 8 rfl, q3.num 8 rfl, f2.num 8 rfl, q2.num 8 rfl]) (fun j => by rw [f3.fn 60 rfl, q3.fn 60 rfl, f2.fn 60 rfl, q2.fn 60 rfl]) (fun j => by rw [f3.fn 61 rfl, q3.fn 61 rfl, f2.fn 61 rfl, q2.fn 61 rfl]) (fun j => by rw [f3.fn 62 rfl, q3.fn 62 rfl, f2.fn 62 rfl, q2.fn 62 rfl])
    have R2 : RowIs Sf3 14 63 _ := r2.same (by rw [f3.num 14 rfl, q3.num 14 rfl]) (fun j => by rw [f3.fn 63 rfl, q3.fn 63 rfl]) (fun j => by rw [f3.fn 64 rfl, q3.fn 64 rfl]) (fun j => by rw [f3.fn 65 rfl, q3.fn 65 rfl])
    have R3 := r3
    obtain ⟨S4, hS4⟩ : ∃ S : Sy, S = Sf3.set (upd Sf3.ρ [(17, Sf3.ρ 14 + Sf3.ρ 16), (18, (0 : Int))]) [(69, fun j => if j < Sf3.ρ 14 then Sf3.Φ 63 [j] else Sf3.Φ 66 [j - Sf3.ρ 14]), (70, fun j => if j < Sf3.ρ 14 then Sf3.Φ 64 [j] else Sf3.Φ 67 [j - Sf3.ρ 14]), (71, fun j => if j < Sf3.ρ 14 then Sf3.Φ 65 [j] else Sf3.Φ 68 [j - Sf3.ρ 14])] 50 rfl j3 := ⟨_, rfl⟩
    have q4 : Stay [17, 18] [69, 70, 71] Sf3 S4 := by rw [hS4]; exact (Stay.refl [17, 18] [69, 70, 71] _).set rfl rfl
    have s4_17 : S4.ρ 17 = Sf3.ρ 14 + Sf3.ρ 16 := by rw [hS4]; rfl
    have s4_18 : S4.ρ 18 = (0 : Int) := by rw [hS4]; rfl
    have z4_69 : ∀ j : Int, S4.Φ 69 [j] = (fun j => if j < Sf3.ρ 14 then Sf3.Φ 63 [j] else Sf3.Φ 66 [j - Sf3.ρ 14]) j := by rw [hS4]; intro j; rfl
    have z4_70 : ∀ j : Int, S4.Φ 70 [j] = (fun j => if j < Sf3.ρ 14 then Sf3.Φ 64 [j] else Sf3.Φ 67 [j - Sf3.ρ 14]) j := by rw [hS4]; intro j; rfl
    have z4_71 : ∀ j : Int, S4.Φ 71 [j] = (fun j => if j < Sf3.ρ 14 then Sf3.Φ 65 [j] else Sf3.Φ 68 [j - Sf3.ρ 14]) j := by rw [hS4]; intro j; rfl
    have k4 : ∀ z ∈ S4.I, z.f + z.ks.length ≤ 50 := by rw [q4.1]; exact j3
    have Rl : RowIs S4 17 69 _ := R2.cat R3 s4_17 (fun j => z4_69 j) (fun j => z4_70 j) (fun j => z4_71 j)
    have Ra : RowIs S4 8 60 _ := R1.same (q4.num 8 rfl) (fun j => q4.fn 60 rfl _) (fun j => q4.fn 61 rfl _) (fun j => q4.fn 62 rfl _)
    obtain ⟨E1, E2⟩ := rows_eq Ra Rl
    have hl := flt_len (fun j => SS.Φ 30 [(j : Int)]) x.n
    have hl2 := flt_len (fun j => SS.Φ 31 [(j : Int)]) y.n
    have E3 := Rl.1
    simp only [List.length_append] at E3
    obtain ⟨Sf4, f4, lk4⟩ := loopL S4 s4_18 (by omega) E1 E2 k4
    have j4 : ∀ z ∈ Sf4.I, z.f + z.ks.length ≤ 50 := by rw [f4.1]; exact k4
    have g4 : Stay _ _ Sf4 Sf4 := Stay.refl [] [] _
    have p4 := f4.trans g4
    have g3 : Stay _ _ Sf3 Sf4 := (q4.trans p4)
    have p3 := f3.trans g3
    have g2 : Stay _ _ Sf2 Sf4 := (q3.trans p3)
    have p2 := f2.trans g2
    have g1 : Stay _ _ Sf1 Sf4 := (q2.trans p2)
    have p1 := f1.trans g1
    have PP := q1.trans p1
    have t1 := (PP.num 1 rfl).trans i1
    have t11 := (PP.num 11 rfl).trans i11
    have hlk := LkOk.all (P := Try.prog) (S := Sf4) (gs := []) (ms := [lpWM, lpWL]) (fs := [orL (lkLoopR Try.prog 3 [] XC0W F1rW (.exit 0) [(12, .num (Tm.enc (.bin .add (.var .i64 1) (.var .i64 11)))), (12, .num (Tm.enc (.bin .add (.var .i64 1) (.var .i64 11)))), (9, .num (Tm.enc (.lit .i64 0))), (12, .num (Tm.enc (.bin .add (.var .i64 1) (.var .i64 11)))), (50, .arr (.cat (.var 30) (Tm.enc (.var .i64 1)) (.var 31)))]) (orL (lkLoopR Try.prog 4 [] XE0W FErW (.exit 0) [(1, .num (Tm.enc (.var .i64 1))), (1, .num (Tm.enc (.var .i64 1))), (13, .num (Tm.enc (.lit .i64 0))), (8, .num (Tm.enc (.var .i64 8))), (60, .arr (.var 60)), (61, .arr (.var 61)), (62, .arr (.var 62))]) (lkLoopR Try.prog 5 [] XI0W FIrW (.exit 0) [(11, .num (Tm.enc (.var .i64 11))), (11, .num (Tm.enc (.var .i64 11))), (15, .num (Tm.enc (.lit .i64 0))), (8, .num (Tm.enc (.var .i64 8))), (60, .arr (.var 60)), (61, .arr (.var 61)), (62, .arr (.var 62)), (14, .num (Tm.enc (.var .i64 14))), (63, .arr (.var 63)), (64, .arr (.var 64)), (65, .arr (.var 65))])), lkLoopR Try.prog 7 [] XL1W FLW (.exit 0) [(8, .num (Tm.enc (.var .i64 8))), (17, .num (Tm.enc (.bin .add (.var .i64 14) (.var .i64 16)))), (18, .num (Tm.enc (.lit .i64 0))), (8, .num (Tm.enc (.var .i64 8))), (60, .arr (.var 60)), (61, .arr (.var 61)), (62, .arr (.var 62)), (17, .num (Tm.enc (.bin .add (.var .i64 14) (.var .i64 16)))), (69, .arr (.cat (.var 63) (Tm.enc (.var .i64 14)) (.var 66))), (70, .arr (.cat (.var 64) (Tm.enc (.var .i64 14)) (.var 67))), (71, .arr (.cat (.var 65) (Tm.enc (.var .i64 14)) (.var 68)))]]) ⟨⟨_, codeWM, LkAt.or (lk1 _ _ (g1.same rfl rfl) (an 12 (.bin .add (.var .i64 1) (.var .i64 11)) (sm (show IntKind.i64.wrap (Sf4.ρ 1 + Sf4.ρ 11) = S1.ρ 12 from by rw [w_i64 (by omega) (by omega), s1_12]; omega)) (an 12 (.bin .add (.var .i64 1) (.var .i64 11)) (sm (show IntKind.i64.wrap (Sf4.ρ 1 + Sf4.ρ 11) = S1.ρ 12 from by rw [w_i64 (by omega) (by omega), s1_12]; omega)) (an 9 (.lit .i64 0) (sm s1_9.symm) (an 12 (.bin .add (.var .i64 1) (.var .i64 11)) (sm (show IntKind.i64.wrap (Sf4.ρ 1 + Sf4.ρ 11) = S1.ρ 12 from by rw [w_i64 (by omega) (by omega), s1_12]; omega)) (ar 50 (ar_cat (.var .i64 1) rfl (by kernel_rfl) (ar_var 30) (ar_var 31)) (asg_nil p1.1.symm) (fun j => by rw [z1_50]; dsimp only; rw [PP.fn 30 rfl, PP.fn 31 rfl, PP.num 1 rfl]))))))) (LkAt.or (lk2 _ _ (g2.same rfl rfl) (an 1 (.var .i64 1) (sm (p2.num 1 rfl)) (an 1 (.var .i64 1) (sm (p2.num 1 rfl)) (an 13 (.lit .i64 0) (sm s2_13.symm) (an 8 (.var .i64 8) (sm (p2.num 8 rfl)) (asg_arr (i := 60) (fun j => congrArg some (p2.fn 60 rfl [(j : Int)])) (asg_arr (i := 61) (fun j => congrArg some (p2.fn 61 rfl [(j : Int)])) (asg_arr (i := 62) (fun j => congrArg some (p2.fn 62 rfl [(j : Int)])) (asg_nil p2.1.symm))))))))) (lk3 _ _ (g3.same rfl rfl) (an 11 (.var .i64 11) (sm (p3.num 11 rfl)) (an 11 (.var .i64 11) (sm (p3.num 11 rfl)) (an 15 (.lit .i64 0) (sm s3_15.symm) (an 8 (.var .i64 8) (sm (p3.num 8 rfl)) (asg_arr (i := 60) (fun j => congrArg some (p3.fn 60 rfl [(j : Int)])) (asg_arr (i := 61) (fun j => congrArg some (p3.fn 61 rfl [(j : Int)])) (asg_arr (i := 62) (fun j => congrArg some (p3.fn 62 rfl [(j : Int)])) (an 14 (.var .i64 14) (sm (p3.num 14 rfl)) (asg_arr (i := 63) (fun j => congrArg some (p3.fn 63 rfl [(j : Int)])) (asg_arr (i := 64) (fun j => congrArg some (p3.fn 64 rfl [(j : Int)])) (asg_arr (i := 65) (fun j => congrArg some (p3.fn 65 rfl [(j : Int)])) (asg_nil p3.1.symm))))))))))))))⟩, ⟨_, codeWL, lk4 _ _ (g4.same rfl rfl) (an 8 (.var .i64 8) (sm (p4.num 8 rfl)) (an 17 (.bin .add (.var .i64 14) (.var .i64 16)) (sm (show IntKind.i64.wrap (Sf4.ρ 14 + Sf4.ρ 16) = S4.ρ 17 from by have e1 := (p4.num 14 rfl).trans (q4.num 14 rfl); have e3 := (p4.num 16 rfl).trans (q4.num 16 rfl); have e2 := s4_17; rw [w_i64 (by omega) (by omega)]; omega)) (an 18 (.lit .i64 0) (sm s4_18.symm) (an 8 (.var .i64 8) (sm (p4.num 8 rfl)) (asg_arr (i := 60) (fun j => congrArg some (p4.fn 60 rfl [(j : Int)])) (asg_arr (i := 61) (fun j => congrArg some (p4.fn 61 rfl [(j : Int)])) (asg_arr (i := 62) (fun j => congrArg some (p4.fn 62 rfl [(j : Int)])) (an 17 (.bin .add (.var .i64 14) (.var .i64 16)) (sm (show IntKind.i64.wrap (Sf4.ρ 14 + Sf4.ρ 16) = S4.ρ 17 from by have e1 := (p4.num 14 rfl).trans (q4.num 14 rfl); have e3 := (p4.num 16 rfl).trans (q4.num 16 rfl); have e2 := s4_17; rw [w_i64 (by omega) (by omega)]; omega)) (ar 69 (ar_cat (.var .i64 14) rfl (by kernel_rfl) (ar_var 63) (ar_var 66)) (ar 70 (ar_cat (.var .i64 14) rfl (by kernel_rfl) (ar_var 64) (ar_var 67)) (ar 71 (ar_cat (.var .i64 14) rfl (by kernel_rfl) (ar_var 65) (ar_var 68)) (asg_nil p4.1.symm) (fun j => by rw [z4_71]; dsimp only; rw [p4.fn 65 rfl, q4.fn 65 rfl, p4.fn 68 rfl, q4.fn 68 rfl, p4.num 14 rfl, q4.num 14 rfl])) (fun j => by rw [z4_70]; dsimp only; rw [p4.fn 64 rfl, q4.fn 64 rfl, p4.fn 67 rfl, q4.fn 67 rfl, p4.num 14 rfl, q4.num 14 rfl])) (fun j => by rw [z4_69]; dsimp only; rw [p4.fn 63 rfl, q4.fn 63 rfl, p4.fn 66 rfl, q4.fn 66 rfl, p4.num 14 rfl, q4.num 14 rfl]))))))))))⟩, trivial⟩
    obtain ⟨N, m1, m2⟩ := mk PP rfl
    have e8 := (p4.num 8 rfl)
    have e14 := (p4.num 14 rfl).trans (q4.num 14 rfl)
    have e16 := (p4.num 16 rfl).trans (q4.num 16 rfl)
    have x14 := R2.1
    have x16 := R3.1
    have ne := List.length_pos_iff.2 hx
    have ne2 := List.length_pos_iff.2 hy
    have xE := E1
    have x17 := s4_17
    exact law7 N (by omega) (by omega) (by omega) (by omega) (by omega) m1 m2 hlk
end Go.Proofs.Ytokcoabcflpbbaa
