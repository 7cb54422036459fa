/- Texts of a proof, one behind the other. Conditions: those each says. -/
import Derived.Test.YtgokpcaijabhoaaDoorZSB4ar
namespace Go.Proofs.YtgokpcaijabhoaaDoor
open Go.Ev Go.RowKit
set_option maxRecDepth 100000
set_option linter.unusedVariables false
set_option maxHeartbeats 8000000 in
theorem wayL0000 {SS : Sy} (v : Giv SS) (hm : SS.ρ 5 = 1) (hl : SS.ρ 5 - SS.ρ 17 - 1 = 0) (hd : SS.ρ 20 = 0) (ty : TypeId) : LawIs SS ty := by
  obtain ⟨T1, R, y1, hk1⟩ := preL0 ty v.g v.e45 v.e71 v.e62 v.e64 hm
  have q5 : T1.ρ 5 = SS.ρ 5 := y1.num 5 rfl
  have q17 : T1.ρ 17 = SS.ρ 17 := y1.num 17 rfl
  obtain ⟨e68, e69, e71, e72, e74, e75, l0, l1, l2, l3, n0, n1, i0, i1⟩ := places R
  obtain ⟨T2, T, s83, z65, g3, y13, TT, hk2⟩ := postL0 ty R ((y1.num 20 rfl).trans hd) (gC000 T1) (fun j h0 h1 => by unfold gC000; dsimp only [ifE]; (repeat rw [if_neg (by omega)]))
  have p : Stay [21, 22, 23, 24, 27, 28, 29, 44, 45, 50, 51, 66, 67, 68, 69, 70, 71, 72, 73, 74, 75, 76, 77, 78, 79, 83, 84, 85, 88, 101, 102, 103, 104, 105, 106, 107, 111, 112, 113, 114, 115, 116, 117, 120, 121, 122, 123, 124, 125, 126, 127] [60, 61, 63, 65] SS T := stay_weak (y1.trans y13) rfl rfl
  have RT := TT.rn
  have u5 : T.ρ 5 = SS.ρ 5 := p.num 5 rfl
  have u17 : T.ρ 17 = SS.ρ 17 := p.num 17 rfl
  have hr : Row T rC000 (gC000 T) := by
    unfold rC000 gC000
    (repeat refine ar_upd _ _ (by rfl) (by rfl) (by kernel_rfl) ?_)
    exact ar_var _
  have eg : ∀ j : Nat, gC000 T (j : Int) = T2.Φ 65 [(j : Int)] := fun j => by rw [z65]; unfold gC000; dsimp only; simp only [y13.num 68 rfl, y13.num 69 rfl, y13.num 75 rfl, y13.fn 63 rfl]
  have hal : AlOk T alLaw0000 := AlOk.app (alE0_ok RT) (AlOk.app (alHd_ok v RT.geo p) (AlOk.app (alJ0_of v RT p hm) (AlOk.app (alP00_ok RT (by rw [u5, u17]; exact hl)) (alT0_ok TT))))
  exact lawBy v RT.geo p hal (csL0_ok ty RT) (hk1 T y13).1 (hk1 T y13).2 (hk2 _ (askC_ok hr eg s83 g3)) (fun G => runL0000 ty hal G)
set_option maxHeartbeats 8000000 in
theorem wayL0010 {SS : Sy} (v : Giv SS) (hm : 1 < SS.ρ 5) (hl : SS.ρ 5 - SS.ρ 17 - 1 = 0) (hd : SS.ρ 20 = 0) (ty : TypeId) : LawIs SS ty := by
  obtain ⟨T1, R, y1, hk1⟩ := preL1 ty v.g v.e45 v.e71 v.e62 v.e64 hm
  have q5 : T1.ρ 5 = SS.ρ 5 := y1.num 5 rfl
  have q17 : T1.ρ 17 = SS.ρ 17 := y1.num 17 rfl
  obtain ⟨e68, e69, e71, e72, e74, e75, l0, l1, l2, l3, n0, n1, i0, i1⟩ := places R
  obtain ⟨T2, T, s83, z65, g3, y13, TT, hk2⟩ := postL0 ty R ((y1.num 20 rfl).trans hd) (gC000 T1) (fun j h0 h1 => by unfold gC000; dsimp only [ifE]; (repeat rw [if_neg (by omega)]))
  have p : Stay [21, 22, 23, 24, 27, 28, 29, 44, 45, 50, 51, 66, 67, 68, 69, 70, 71, 72, 73, 74, 75, 76, 77, 78, 79, 83, 84, 85, 88, 101, 102, 103, 104, 105, 106, 107, 111, 112, 113, 114, 115, 116, 117, 120, 121, 122, 123, 124, 125, 126, 127] [60, 61, 63, 65] SS T := stay_weak (y1.trans y13) rfl rfl
  have RT := TT.rn
  have u5 : T.ρ 5 = SS.ρ 5 := p.num 5 rfl
  have u17 : T.ρ 17 = SS.ρ 17 := p.num 17 rfl
  have hr : Row T rC000 (gC000 T) := by
    unfold rC000 gC000
    (repeat refine ar_upd _ _ (by rfl) (by rfl) (by kernel_rfl) ?_)
    exact ar_var _
  have eg : ∀ j : Nat, gC000 T (j : Int) = T2.Φ 65 [(j : Int)] := fun j => by rw [z65]; unfold gC000; dsimp only; simp only [y13.num 68 rfl, y13.num 69 rfl, y13.num 75 rfl, y13.fn 63 rfl]
  have hal : AlOk T alLaw0010 := AlOk.app (alE0_ok RT) (AlOk.app (alHd_ok v RT.geo p) (AlOk.app (alJ1_of v RT p hm) (AlOk.app (alP00_ok RT (by rw [u5, u17]; exact hl)) (alT0_ok TT))))
  exact lawBy v RT.geo p hal (csL0_ok ty RT) (hk1 T y13).1 (hk1 T y13).2 (hk2 _ (askC_ok hr eg s83 g3)) (fun G => runL0010 ty hal G)
set_option maxHeartbeats 8000000 in
theorem wayL1010 {SS : Sy} (v : Giv SS) (hm : 1 < SS.ρ 5) (hl : SS.ρ 5 - SS.ρ 17 - 1 = 1) (hs : 7 + lg (SS.ρ 5 - SS.ρ 17 - 1) ≠ 7 + lg (SS.ρ 5 - SS.ρ 17)) (hd : SS.ρ 20 = 0) (ty : TypeId) : LawIs SS ty := by
  obtain ⟨T1, R, y1, hk1⟩ := preL1 ty v.g v.e45 v.e71 v.e62 v.e64 hm
  have q5 : T1.ρ 5 = SS.ρ 5 := y1.num 5 rfl
  have q17 : T1.ρ 17 = SS.ρ 17 := y1.num 17 rfl
  obtain ⟨e68, e69, e71, e72, e74, e75, l0, l1, l2, l3, n0, n1, i0, i1⟩ := places R
  obtain ⟨T2, T, s83, z65, g3, y13, TT, hk2⟩ := postL0 ty R ((y1.num 20 rfl).trans hd) (gC100 T1) (fun j h0 h1 => by unfold gC100; dsimp only [ifE]; (repeat rw [if_neg (by omega)]))
  have p : Stay [21, 22, 23, 24, 27, 28, 29, 44, 45, 50, 51, 66, 67, 68, 69, 70, 71, 72, 73, 74, 75, 76, 77, 78, 79, 83, 84, 85, 88, 101, 102, 103, 104, 105, 106, 107, 111, 112, 113, 114, 115, 116, 117, 120, 121, 122, 123, 124, 125, 126, 127] [60, 61, 63, 65] SS T := stay_weak (y1.trans y13) rfl rfl
  have RT := TT.rn
  have u5 : T.ρ 5 = SS.ρ 5 := p.num 5 rfl
  have u17 : T.ρ 17 = SS.ρ 17 := p.num 17 rfl
  have hr : Row T rC100 (gC100 T) := by
    unfold rC100 gC100
    (repeat refine ar_upd _ _ (by rfl) (by rfl) (by kernel_rfl) ?_)
    exact ar_var _
  have eg : ∀ j : Nat, gC100 T (j : Int) = T2.Φ 65 [(j : Int)] := fun j => by rw [z65]; unfold gC100; dsimp only; simp only [y13.num 68 rfl, y13.num 69 rfl, y13.num 72 rfl, y13.num 74 rfl, y13.num 75 rfl, y13.fn 63 rfl]
  have hal : AlOk T alLaw1010 := AlOk.app (alE1_ok RT) (AlOk.app (alHd_ok v RT.geo p) (AlOk.app (alJ1_of v RT p hm) (AlOk.app (alP10_ok RT (by rw [u5, u17]; exact hl) (by rw [RT.e74, RT.e68, RT.e73, RT.e67, u5, u17]; exact hs)) (alT0_ok TT))))
  exact lawBy v RT.geo p hal (csL1_ok ty RT (by rw [u5, u17]; omega)) (hk1 T y13).1 (hk1 T y13).2 (hk2 _ (askC_ok hr eg s83 g3)) (fun G => runL1010 ty hal G)
set_option maxHeartbeats 8000000 in
theorem wayL2010 {SS : Sy} (v : Giv SS) (hm : 1 < SS.ρ 5) (hl : 2 ≤ SS.ρ 5 - SS.ρ 17 - 1) (hs : 7 + lg (SS.ρ 5 - SS.ρ 17 - 1) ≠ 7 + lg (SS.ρ 5 - SS.ρ 17)) (hd : SS.ρ 20 = 0) (ty : TypeId) : LawIs SS ty := by
  obtain ⟨T1, R, y1, hk1⟩ := preL1 ty v.g v.e45 v.e71 v.e62 v.e64 hm
  have q5 : T1.ρ 5 = SS.ρ 5 := y1.num 5 rfl
  have q17 : T1.ρ 17 = SS.ρ 17 := y1.num 17 rfl
  obtain ⟨e68, e69, e71, e72, e74, e75, l0, l1, l2, l3, n0, n1, i0, i1⟩ := places R
  obtain ⟨T2, T, s83, z65, g3, y13, TT, hk2⟩ := postL0 ty R ((y1.num 20 rfl).trans hd) (gC200 T1) (fun j h0 h1 => by unfold gC200; dsimp only [ifE]; (repeat rw [if_neg (by omega)]))
  have p : Stay [21, 22, 23, 24, 27, 28, 29, 44, 45, 50, 51, 66, 67, 68, 69, 70, 71, 72, 73, 74, 75, 76, 77, 78, 79, 83, 84, 85, 88, 101, 102, 103, 104, 105, 106, 107, 111, 112, 113, 114, 115, 116, 117, 120, 121, 122, 123, 124, 125, 126, 127] [60, 61, 63, 65] SS T := stay_weak (y1.trans y13) rfl rfl
  have RT := TT.rn
  have u5 : T.ρ 5 = SS.ρ 5 := p.num 5 rfl
  have u17 : T.ρ 17 = SS.ρ 17 := p.num 17 rfl
  have hr : Row T rC200 (gC200 T) := by
    unfold rC200 gC200
    (repeat refine ar_upd _ _ (by rfl) (by rfl) (by kernel_rfl) ?_)
    exact ar_var _
  have eg : ∀ j : Nat, gC200 T (j : Int) = T2.Φ 65 [(j : Int)] := fun j => by rw [z65]; unfold gC200; dsimp only; simp only [y13.num 68 rfl, y13.num 69 rfl, y13.num 70 rfl, y13.num 71 rfl, y13.num 72 rfl, y13.num 74 rfl, y13.num 75 rfl, y13.fn 63 rfl]
  have hal : AlOk T alLaw2010 := AlOk.app (alE1_ok RT) (AlOk.app (alHd_ok v RT.geo p) (AlOk.app (alJ1_of v RT p hm) (AlOk.app (alP20_ok RT (by rw [u5, u17]; exact hl) (by rw [RT.e74, RT.e68, RT.e73, RT.e67, u5, u17]; exact hs)) (alT0_ok TT))))
  exact lawBy v RT.geo p hal (csL1_ok ty RT (by rw [u5, u17]; omega)) (hk1 T y13).1 (hk1 T y13).2 (hk2 _ (askC_ok hr eg s83 g3)) (fun G => runL2010 ty hal G)
set_option maxHeartbeats 8000000 in
theorem wayL2110 {SS : Sy} (v : Giv SS) (hm : 1 < SS.ρ 5) (hl : 2 ≤ SS.ρ 5 - SS.ρ 17 - 1) (hs : 7 + lg (SS.ρ 5 - SS.ρ 17 - 1) = 7 + lg (SS.ρ 5 - SS.ρ 17)) (hd : SS.ρ 20 = 0) (ty : TypeId) : LawIs SS ty := by
  obtain ⟨T1, R, y1, hk1⟩ := preL1 ty v.g v.e45 v.e71 v.e62 v.e64 hm
  have q5 : T1.ρ 5 = SS.ρ 5 := y1.num 5 rfl
  have q17 : T1.ρ 17 = SS.ρ 17 := y1.num 17 rfl
  obtain ⟨e68, e69, e71, e72, e74, e75, l0, l1, l2, l3, n0, n1, i0, i1⟩ := places R
  obtain ⟨T2, T, s83, z65, g3, y13, TT, hk2⟩ := postL0 ty R ((y1.num 20 rfl).trans hd) (gC210 T1) (fun j h0 h1 => by unfold gC210; dsimp only [ifE]; (repeat rw [if_neg (by omega)]))
  have p : Stay [21, 22, 23, 24, 27, 28, 29, 44, 45, 50, 51, 66, 67, 68, 69, 70, 71, 72, 73, 74, 75, 76, 77, 78, 79, 83, 84, 85, 88, 101, 102, 103, 104, 105, 106, 107, 111, 112, 113, 114, 115, 116, 117, 120, 121, 122, 123, 124, 125, 126, 127] [60, 61, 63, 65] SS T := stay_weak (y1.trans y13) rfl rfl
  have RT := TT.rn
  have u5 : T.ρ 5 = SS.ρ 5 := p.num 5 rfl
  have u17 : T.ρ 17 = SS.ρ 17 := p.num 17 rfl
  have hr : Row T rC210 (gC210 T) := by
    unfold rC210 gC210
    (repeat refine ar_upd _ _ (by rfl) (by rfl) (by kernel_rfl) ?_)
    exact ar_var _
  have eg : ∀ j : Nat, gC210 T (j : Int) = T2.Φ 65 [(j : Int)] := fun j => by rw [z65]; unfold gC210; dsimp only; simp only [y13.num 68 rfl, y13.num 69 rfl, y13.num 70 rfl, y13.num 71 rfl, y13.num 72 rfl, y13.num 74 rfl, y13.num 75 rfl, y13.fn 63 rfl]
  have hal : AlOk T alLaw2110 := AlOk.app (alE1_ok RT) (AlOk.app (alHd_ok v RT.geo p) (AlOk.app (alJ1_of v RT p hm) (AlOk.app (alP21_ok RT (by rw [u5, u17]; exact hl) (by rw [RT.e74, RT.e68, RT.e73, RT.e67, u5, u17]; exact hs)) (alT0_ok TT))))
  exact lawBy v RT.geo p hal (csL1_ok ty RT (by rw [u5, u17]; omega)) (hk1 T y13).1 (hk1 T y13).2 (hk2 _ (askC_ok hr eg s83 g3)) (fun G => runL2110 ty hal G)
end Go.Proofs.YtgokpcaijabhoaaDoor
