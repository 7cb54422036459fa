/- Texts of a proof, one behind the other. Conditions: those each says. -/
import Derived.Test.YtgokpcaijabhoaaDoorZSB3
import Derived.Test.YtgokpcaijabhoaaDoorZSB1P10
import Derived.Test.YtgokpcaijabhoaaDoorZSB1O
namespace Go.Proofs.YtgokpcaijabhoaaDoor
open Go.Ev Go.RowKit
set_option maxRecDepth 100000
set_option linter.unusedVariables false
section
variable {ty : TypeId}
def rO100 : ACode := (.upd (.upd (.upd (.upd (.upd (.upd (.upd (.var 63) (Tm.enc (.var .i64 68)) (Tm.enc (.bin .add (.app .u64 63 (.cons (.var .i64 68) .nil)) (.lit .u64 18446744073709551615)))) (Tm.enc (.var .i64 69)) (Tm.enc (.lit .u64 0))) (Tm.enc (.var .i64 72)) (Tm.enc (.lit .u64 9))) (Tm.enc (.var .i64 74)) (Tm.enc (.bin .add (.app .u64 63 (.cons (.var .i64 74) .nil)) (.lit .u64 1)))) (Tm.enc (.var .i64 69)) (Tm.enc (.lit .u64 12))) (Tm.enc (.var .i64 69)) (Tm.enc (.lit .u64 11))) (Tm.enc (.var .i64 75)) (Tm.enc (.lit .u64 4294967806)))
def gO100 (T : Sy) : Int → Int := (fun j => ifE j (T.ρ 75) ((4294967806 : Int)) ((fun j => ifE j (T.ρ 69) ((11 : Int)) ((fun j => ifE j (T.ρ 69) ((12 : Int)) ((fun j => ifE j (T.ρ 74) ((IntKind.u64.wrap ((T.Φ 63 [T.ρ 74]) + (1 : Int)))) ((fun j => ifE j (T.ρ 72) ((9 : Int)) ((fun j => ifE j (T.ρ 69) ((0 : Int)) ((fun j => ifE j (T.ρ 68) ((IntKind.u64.wrap ((T.Φ 63 [T.ρ 68]) + (18446744073709551615 : Int)))) ((fun j => T.Φ 63 [j]) j)) j)) j)) j)) j)) j)) j))
set_option maxHeartbeats 4000000 in
theorem runO100 {S1 : Sy} (ty : TypeId) (ha : AlOk S1 (alGL ++ (alLL ++ (alP10L ++ alO0L)))) (G : Nat → Option Obj) : rOutR 300 [] (XOB ty) (FOB ty) Tryd.prog.globals.size (runM Tryd.prog ΛB (lkL [noL, lkB ty, noL]) ftB ha [cLg] G 1000 (.code (cAt Tryd.prog lpOB) (XOB ty).A) ((XOB ty).H Tryd.prog)) = some (none, asgO rO100 t50_1.enc) := by kernel_rfl
set_option maxHeartbeats 8000000 in
theorem wayO100 {T : Sy} {i : Int} (R : RNm T i) (h21 : T.ρ 21 = i) (hw : i < T.ρ 17) (hd : (T.ρ 20 + i) % 4 = 0) (hl : T.ρ 5 - i - 1 = 1) (hs : T.ρ 74 ≠ T.ρ 68) (lk : LkAt Tryd.prog T (gsT ty) (.loop (cAt Tryd.prog lpBB)) (lkB ty)) : WayO ty T i := by
  have hK := R.geo.K
  have hws := R.geo.w
  obtain ⟨e68, e69, e71, e72, e74, e75, l0, l1, l2, l3, n0, n1, i0, i1⟩ := places R
  obtain ⟨S2, hS2⟩ : ∃ S2 : Sy, S2 = T.set (upd T.ρ [(21, i + 1), (50, m50_1 T)]) [(60, gO100 T)] 60 rfl hK := ⟨_, rfl⟩
  have y : Stay [21, 50] [60] T S2 := by rw [hS2]; exact (Stay.refl _ _ _).set rfl rfl
  have s21 : S2.ρ 21 = i + 1 := by rw [hS2]; rfl
  have s50 : S2.ρ 50 = m50_1 T := by rw [hS2]; rfl
  have z : ∀ j : Int, S2.Φ 60 [j] = gO100 T j := by rw [hS2]; intro j; rfl
  clear hS2
  have hr : Row T rO100 (gO100 T) := by
    unfold rO100 gO100
    (repeat refine ar_upd _ _ (by rfl) (by rfl) (by kernel_rfl) ?_)
    exact ar_var _
  have hA := asgO_ok hr (fun j => (z j).symm) t50_1 (by rw [s50]; rfl) (by kernel_rfl) (by rw [h21, w_i64 (by omega) (by omega), s21]) y
  have hm : Mem S2 60 (i + 1) := memO R y z hd (fun j h0 h1 => by unfold gO100; dsimp only [ifE]; (repeat rw [if_neg (by omega)])) (by unfold gO100; dsimp only [ifE]; rw [if_neg (by omega), if_pos (by omega)]; rfl) (by unfold gO100; dsimp only [ifE]; (repeat rw [if_neg (by omega)]); rw [if_pos (by omega)]; exact by unfold freeW; omega) (fun j h0 h1 h2 => by unfold gO100; dsimp only [ifE]; (repeat rw [if_neg (by omega)])) (by unfold gO100; dsimp only [ifE]; rw [if_pos (by omega)]; rfl)
  exact ⟨S2, fun U hU => ⟨_, _, _, 1000, _, [], AlOk.app (alG_ok R.geo) (AlOk.app (alL_ok R.geo) (AlOk.app (alP10_ok R hl hs) (alO0_ok R h21 hw hd))), cs1_ok R, lkO_all lk, setT hA hU (by kernel_rfl), runO100 ty _⟩, ⟨R.geo.stay y rfl rfl, by omega, by rw [y.num 17 rfl]; omega, s21, hm⟩, y⟩
def rO101 : ACode := (.upd (.upd (.upd (.upd (.upd (.upd (.upd (.var 63) (Tm.enc (.var .i64 68)) (Tm.enc (.bin .add (.app .u64 63 (.cons (.var .i64 68) .nil)) (.lit .u64 18446744073709551615)))) (Tm.enc (.var .i64 69)) (Tm.enc (.lit .u64 0))) (Tm.enc (.var .i64 72)) (Tm.enc (.lit .u64 9))) (Tm.enc (.var .i64 74)) (Tm.enc (.bin .add (.app .u64 63 (.cons (.var .i64 74) .nil)) (.lit .u64 1)))) (Tm.enc (.var .i64 69)) (Tm.enc (.lit .u64 12))) (Tm.enc (.var .i64 69)) (Tm.enc (.lit .u64 8203))) (Tm.enc (.var .i64 75)) (Tm.enc (.lit .u64 4294967822)))
def gO101 (T : Sy) : Int → Int := (fun j => ifE j (T.ρ 75) ((4294967822 : Int)) ((fun j => ifE j (T.ρ 69) ((8203 : Int)) ((fun j => ifE j (T.ρ 69) ((12 : Int)) ((fun j => ifE j (T.ρ 74) ((IntKind.u64.wrap ((T.Φ 63 [T.ρ 74]) + (1 : Int)))) ((fun j => ifE j (T.ρ 72) ((9 : Int)) ((fun j => ifE j (T.ρ 69) ((0 : Int)) ((fun j => ifE j (T.ρ 68) ((IntKind.u64.wrap ((T.Φ 63 [T.ρ 68]) + (18446744073709551615 : Int)))) ((fun j => T.Φ 63 [j]) j)) j)) j)) j)) j)) j)) j))
set_option maxHeartbeats 4000000 in
theorem runO101 {S1 : Sy} (ty : TypeId) (ha : AlOk S1 (alGL ++ (alLL ++ (alP10L ++ alO1L)))) (G : Nat → Option Obj) : rOutR 300 [] (XOB ty) (FOB ty) Tryd.prog.globals.size (runM Tryd.prog ΛB (lkL [noL, lkB ty, noL]) ftB ha [cLg] G 1000 (.code (cAt Tryd.prog lpOB) (XOB ty).A) ((XOB ty).H Tryd.prog)) = some (none, asgO rO101 t50_1.enc) := by kernel_rfl
set_option maxHeartbeats 8000000 in
theorem wayO101 {T : Sy} {i : Int} (R : RNm T i) (h21 : T.ρ 21 = i) (hw : i < T.ρ 17) (hd : (T.ρ 20 + i) % 4 = 1) (hl : T.ρ 5 - i - 1 = 1) (hs : T.ρ 74 ≠ T.ρ 68) (lk : LkAt Tryd.prog T (gsT ty) (.loop (cAt Tryd.prog lpBB)) (lkB ty)) : WayO ty T i := by
  have hK := R.geo.K
  have hws := R.geo.w
  obtain ⟨e68, e69, e71, e72, e74, e75, l0, l1, l2, l3, n0, n1, i0, i1⟩ := places R
  obtain ⟨S2, hS2⟩ : ∃ S2 : Sy, S2 = T.set (upd T.ρ [(21, i + 1), (50, m50_1 T)]) [(60, gO101 T)] 60 rfl hK := ⟨_, rfl⟩
  have y : Stay [21, 50] [60] T S2 := by rw [hS2]; exact (Stay.refl _ _ _).set rfl rfl
  have s21 : S2.ρ 21 = i + 1 := by rw [hS2]; rfl
  have s50 : S2.ρ 50 = m50_1 T := by rw [hS2]; rfl
  have z : ∀ j : Int, S2.Φ 60 [j] = gO101 T j := by rw [hS2]; intro j; rfl
  clear hS2
  have hr : Row T rO101 (gO101 T) := by
    unfold rO101 gO101
    (repeat refine ar_upd _ _ (by rfl) (by rfl) (by kernel_rfl) ?_)
    exact ar_var _
  have hA := asgO_ok hr (fun j => (z j).symm) t50_1 (by rw [s50]; rfl) (by kernel_rfl) (by rw [h21, w_i64 (by omega) (by omega), s21]) y
  have hm : Mem S2 60 (i + 1) := memO R y z hd (fun j h0 h1 => by unfold gO101; dsimp only [ifE]; (repeat rw [if_neg (by omega)])) (by unfold gO101; dsimp only [ifE]; rw [if_neg (by omega), if_pos (by omega)]; rfl) (by unfold gO101; dsimp only [ifE]; (repeat rw [if_neg (by omega)]); rw [if_pos (by omega)]; exact by unfold freeW; omega) (fun j h0 h1 h2 => by unfold gO101; dsimp only [ifE]; (repeat rw [if_neg (by omega)])) (by unfold gO101; dsimp only [ifE]; rw [if_pos (by omega)]; rfl)
  exact ⟨S2, fun U hU => ⟨_, _, _, 1000, _, [], AlOk.app (alG_ok R.geo) (AlOk.app (alL_ok R.geo) (AlOk.app (alP10_ok R hl hs) (alO1_ok R h21 hw hd))), cs1_ok R, lkO_all lk, setT hA hU (by kernel_rfl), runO101 ty _⟩, ⟨R.geo.stay y rfl rfl, by omega, by rw [y.num 17 rfl]; omega, s21, hm⟩, y⟩
def rO102 : ACode := (.upd (.upd (.upd (.upd (.upd (.upd (.upd (.var 63) (Tm.enc (.var .i64 68)) (Tm.enc (.bin .add (.app .u64 63 (.cons (.var .i64 68) .nil)) (.lit .u64 18446744073709551615)))) (Tm.enc (.var .i64 69)) (Tm.enc (.lit .u64 0))) (Tm.enc (.var .i64 72)) (Tm.enc (.lit .u64 9))) (Tm.enc (.var .i64 74)) (Tm.enc (.bin .add (.app .u64 63 (.cons (.var .i64 74) .nil)) (.lit .u64 1)))) (Tm.enc (.var .i64 69)) (Tm.enc (.lit .u64 12))) (Tm.enc (.var .i64 69)) (Tm.enc (.lit .u64 16395))) (Tm.enc (.var .i64 75)) (Tm.enc (.lit .u64 4294968066)))
def gO102 (T : Sy) : Int → Int := (fun j => ifE j (T.ρ 75) ((4294968066 : Int)) ((fun j => ifE j (T.ρ 69) ((16395 : Int)) ((fun j => ifE j (T.ρ 69) ((12 : Int)) ((fun j => ifE j (T.ρ 74) ((IntKind.u64.wrap ((T.Φ 63 [T.ρ 74]) + (1 : Int)))) ((fun j => ifE j (T.ρ 72) ((9 : Int)) ((fun j => ifE j (T.ρ 69) ((0 : Int)) ((fun j => ifE j (T.ρ 68) ((IntKind.u64.wrap ((T.Φ 63 [T.ρ 68]) + (18446744073709551615 : Int)))) ((fun j => T.Φ 63 [j]) j)) j)) j)) j)) j)) j)) j))
set_option maxHeartbeats 4000000 in
theorem runO102 {S1 : Sy} (ty : TypeId) (ha : AlOk S1 (alGL ++ (alLL ++ (alP10L ++ alO2L)))) (G : Nat → Option Obj) : rOutR 300 [] (XOB ty) (FOB ty) Tryd.prog.globals.size (runM Tryd.prog ΛB (lkL [noL, lkB ty, noL]) ftB ha [cLg] G 1000 (.code (cAt Tryd.prog lpOB) (XOB ty).A) ((XOB ty).H Tryd.prog)) = some (none, asgO rO102 t50_1.enc) := by kernel_rfl
set_option maxHeartbeats 8000000 in
theorem wayO102 {T : Sy} {i : Int} (R : RNm T i) (h21 : T.ρ 21 = i) (hw : i < T.ρ 17) (hd : (T.ρ 20 + i) % 4 = 2) (hl : T.ρ 5 - i - 1 = 1) (hs : T.ρ 74 ≠ T.ρ 68) (lk : LkAt Tryd.prog T (gsT ty) (.loop (cAt Tryd.prog lpBB)) (lkB ty)) : WayO ty T i := by
  have hK := R.geo.K
  have hws := R.geo.w
  obtain ⟨e68, e69, e71, e72, e74, e75, l0, l1, l2, l3, n0, n1, i0, i1⟩ := places R
  obtain ⟨S2, hS2⟩ : ∃ S2 : Sy, S2 = T.set (upd T.ρ [(21, i + 1), (50, m50_1 T)]) [(60, gO102 T)] 60 rfl hK := ⟨_, rfl⟩
  have y : Stay [21, 50] [60] T S2 := by rw [hS2]; exact (Stay.refl _ _ _).set rfl rfl
  have s21 : S2.ρ 21 = i + 1 := by rw [hS2]; rfl
  have s50 : S2.ρ 50 = m50_1 T := by rw [hS2]; rfl
  have z : ∀ j : Int, S2.Φ 60 [j] = gO102 T j := by rw [hS2]; intro j; rfl
  clear hS2
  have hr : Row T rO102 (gO102 T) := by
    unfold rO102 gO102
    (repeat refine ar_upd _ _ (by rfl) (by rfl) (by kernel_rfl) ?_)
    exact ar_var _
  have hA := asgO_ok hr (fun j => (z j).symm) t50_1 (by rw [s50]; rfl) (by kernel_rfl) (by rw [h21, w_i64 (by omega) (by omega), s21]) y
  have hm : Mem S2 60 (i + 1) := memO R y z hd (fun j h0 h1 => by unfold gO102; dsimp only [ifE]; (repeat rw [if_neg (by omega)])) (by unfold gO102; dsimp only [ifE]; rw [if_neg (by omega), if_pos (by omega)]; rfl) (by unfold gO102; dsimp only [ifE]; (repeat rw [if_neg (by omega)]); rw [if_pos (by omega)]; exact by unfold freeW; omega) (fun j h0 h1 h2 => by unfold gO102; dsimp only [ifE]; (repeat rw [if_neg (by omega)])) (by unfold gO102; dsimp only [ifE]; rw [if_pos (by omega)]; rfl)
  exact ⟨S2, fun U hU => ⟨_, _, _, 1000, _, [], AlOk.app (alG_ok R.geo) (AlOk.app (alL_ok R.geo) (AlOk.app (alP10_ok R hl hs) (alO2_ok R h21 hw hd))), cs1_ok R, lkO_all lk, setT hA hU (by kernel_rfl), runO102 ty _⟩, ⟨R.geo.stay y rfl rfl, by omega, by rw [y.num 17 rfl]; omega, s21, hm⟩, y⟩
def rO103 : ACode := (.upd (.upd (.upd (.upd (.upd (.upd (.upd (.var 63) (Tm.enc (.var .i64 68)) (Tm.enc (.bin .add (.app .u64 63 (.cons (.var .i64 68) .nil)) (.lit .u64 18446744073709551615)))) (Tm.enc (.var .i64 69)) (Tm.enc (.lit .u64 0))) (Tm.enc (.var .i64 72)) (Tm.enc (.lit .u64 9))) (Tm.enc (.var .i64 74)) (Tm.enc (.bin .add (.app .u64 63 (.cons (.var .i64 74) .nil)) (.lit .u64 1)))) (Tm.enc (.var .i64 69)) (Tm.enc (.lit .u64 12))) (Tm.enc (.var .i64 69)) (Tm.enc (.lit .u64 24587))) (Tm.enc (.var .i64 75)) (Tm.enc (.lit .u64 4294968322)))
def gO103 (T : Sy) : Int → Int := (fun j => ifE j (T.ρ 75) ((4294968322 : Int)) ((fun j => ifE j (T.ρ 69) ((24587 : Int)) ((fun j => ifE j (T.ρ 69) ((12 : Int)) ((fun j => ifE j (T.ρ 74) ((IntKind.u64.wrap ((T.Φ 63 [T.ρ 74]) + (1 : Int)))) ((fun j => ifE j (T.ρ 72) ((9 : Int)) ((fun j => ifE j (T.ρ 69) ((0 : Int)) ((fun j => ifE j (T.ρ 68) ((IntKind.u64.wrap ((T.Φ 63 [T.ρ 68]) + (18446744073709551615 : Int)))) ((fun j => T.Φ 63 [j]) j)) j)) j)) j)) j)) j)) j))
set_option maxHeartbeats 4000000 in
theorem runO103 {S1 : Sy} (ty : TypeId) (ha : AlOk S1 (alGL ++ (alLL ++ (alP10L ++ alO3L)))) (G : Nat → Option Obj) : rOutR 300 [] (XOB ty) (FOB ty) Tryd.prog.globals.size (runM Tryd.prog ΛB (lkL [noL, lkB ty, noL]) ftB ha [cLg] G 1000 (.code (cAt Tryd.prog lpOB) (XOB ty).A) ((XOB ty).H Tryd.prog)) = some (none, asgO rO103 t50_1.enc) := by kernel_rfl
set_option maxHeartbeats 8000000 in
theorem wayO103 {T : Sy} {i : Int} (R : RNm T i) (h21 : T.ρ 21 = i) (hw : i < T.ρ 17) (hd : (T.ρ 20 + i) % 4 = 3) (hl : T.ρ 5 - i - 1 = 1) (hs : T.ρ 74 ≠ T.ρ 68) (lk : LkAt Tryd.prog T (gsT ty) (.loop (cAt Tryd.prog lpBB)) (lkB ty)) : WayO ty T i := by
  have hK := R.geo.K
  have hws := R.geo.w
  obtain ⟨e68, e69, e71, e72, e74, e75, l0, l1, l2, l3, n0, n1, i0, i1⟩ := places R
  obtain ⟨S2, hS2⟩ : ∃ S2 : Sy, S2 = T.set (upd T.ρ [(21, i + 1), (50, m50_1 T)]) [(60, gO103 T)] 60 rfl hK := ⟨_, rfl⟩
  have y : Stay [21, 50] [60] T S2 := by rw [hS2]; exact (Stay.refl _ _ _).set rfl rfl
  have s21 : S2.ρ 21 = i + 1 := by rw [hS2]; rfl
  have s50 : S2.ρ 50 = m50_1 T := by rw [hS2]; rfl
  have z : ∀ j : Int, S2.Φ 60 [j] = gO103 T j := by rw [hS2]; intro j; rfl
  clear hS2
  have hr : Row T rO103 (gO103 T) := by
    unfold rO103 gO103
    (repeat refine ar_upd _ _ (by rfl) (by rfl) (by kernel_rfl) ?_)
    exact ar_var _
  have hA := asgO_ok hr (fun j => (z j).symm) t50_1 (by rw [s50]; rfl) (by kernel_rfl) (by rw [h21, w_i64 (by omega) (by omega), s21]) y
  have hm : Mem S2 60 (i + 1) := memO R y z hd (fun j h0 h1 => by unfold gO103; dsimp only [ifE]; (repeat rw [if_neg (by omega)])) (by unfold gO103; dsimp only [ifE]; rw [if_neg (by omega), if_pos (by omega)]; rfl) (by unfold gO103; dsimp only [ifE]; (repeat rw [if_neg (by omega)]); rw [if_pos (by omega)]; exact by unfold freeW; omega) (fun j h0 h1 h2 => by unfold gO103; dsimp only [ifE]; (repeat rw [if_neg (by omega)])) (by unfold gO103; dsimp only [ifE]; rw [if_pos (by omega)]; rfl)
  exact ⟨S2, fun U hU => ⟨_, _, _, 1000, _, [], AlOk.app (alG_ok R.geo) (AlOk.app (alL_ok R.geo) (AlOk.app (alP10_ok R hl hs) (alO3_ok R h21 hw hd))), cs1_ok R, lkO_all lk, setT hA hU (by kernel_rfl), runO103 ty _⟩, ⟨R.geo.stay y rfl rfl, by omega, by rw [y.num 17 rfl]; omega, s21, hm⟩, y⟩
end
end Go.Proofs.YtgokpcaijabhoaaDoor
