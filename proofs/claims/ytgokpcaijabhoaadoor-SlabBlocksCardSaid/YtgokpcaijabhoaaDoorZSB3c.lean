/- Texts of a proof, one behind the other. Conditions: those each says. -/
import Derived.Test.YtgokpcaijabhoaaDoorZSB3
import Derived.Test.YtgokpcaijabhoaaDoorZSB1P21
import Derived.Test.YtgokpcaijabhoaaDoorZSB1O
namespace Go.Proofs.YtgokpcaijabhoaaDoor
open Go.Ev Go.RowKit
set_option maxRecDepth 100000
set_option linter.unusedVariables false
section
variable {ty : TypeId}
def rO210 : ACode := (.upd (.upd (.upd (.upd (.upd (.upd (.upd (.upd (.var 63) (Tm.enc (.var .i64 68)) (Tm.enc (.bin .add (.app .u64 63 (.cons (.var .i64 68) .nil)) (.lit .u64 18446744073709551615)))) (Tm.enc (.var .i64 69)) (Tm.enc (.lit .u64 0))) (Tm.enc (.var .i64 71)) (Tm.enc (.bin .or (.bin .or (.bin .or (.lit .u64 2) (.bin .shl (.bin .and (.conv .u64 (.var .i64 70)) (.lit .u64 1023)) (.lit .u64 3))) (.lit .u64 0)) (.lit .u64 0)))) (Tm.enc (.var .i64 72)) (Tm.enc (.bin .or (.bin .or (.bin .or (.lit .u64 1) (.bin .shl (.bin .and (.conv .u64 (.var .i64 70)) (.lit .u64 1023)) (.lit .u64 3))) (.lit .u64 0)) (.lit .u64 0)))) (Tm.enc (.var .i64 74)) (Tm.enc (.bin .add (.bin .add (.app .u64 63 (.cons (.var .i64 68) .nil)) (.lit .u64 18446744073709551615)) (.lit .u64 1)))) (Tm.enc (.var .i64 69)) (Tm.enc (.lit .u64 12))) (Tm.enc (.var .i64 69)) (Tm.enc (.lit .u64 11))) (Tm.enc (.var .i64 75)) (Tm.enc (.lit .u64 4294967806)))
def gO210 (T : Sy) : Int → Int := (fun j => ifE j (T.ρ 75) ((4294967806 : Int)) ((fun j => ifE j (T.ρ 69) ((11 : Int)) ((fun j => ifE j (T.ρ 69) ((12 : Int)) ((fun j => ifE j (T.ρ 74) ((IntKind.u64.wrap ((IntKind.u64.wrap ((T.Φ 63 [T.ρ 68]) + (18446744073709551615 : Int))) + (1 : Int)))) ((fun j => ifE j (T.ρ 72) ((opZ .or .u64 ((opZ .or .u64 ((opZ .or .u64 ((1 : Int)) ((opZ .shl .u64 ((opZ .and .u64 ((IntKind.u64.wrap (T.ρ 70))) ((1023 : Int)))) ((3 : Int)))))) ((0 : Int)))) ((0 : Int)))) ((fun j => ifE j (T.ρ 71) ((opZ .or .u64 ((opZ .or .u64 ((opZ .or .u64 ((2 : Int)) ((opZ .shl .u64 ((opZ .and .u64 ((IntKind.u64.wrap (T.ρ 70))) ((1023 : Int)))) ((3 : Int)))))) ((0 : Int)))) ((0 : Int)))) ((fun j => ifE j (T.ρ 69) ((0 : Int)) ((fun j => ifE j (T.ρ 68) ((IntKind.u64.wrap ((T.Φ 63 [T.ρ 68]) + (18446744073709551615 : Int)))) ((fun j => T.Φ 63 [j]) j)) j)) j)) j)) j)) j)) j)) j))
set_option maxHeartbeats 4000000 in
theorem runO210 {S1 : Sy} (ty : TypeId) (ha : AlOk S1 (alGL ++ (alLL ++ (alP21L ++ alO0L)))) (G : Nat → Option Obj) : rOutR 300 [] (XOB ty) (FOB ty) Tryd.prog.globals.size (runM Tryd.prog ΛB (lkL [noL, lkB ty, noL]) ftB ha [cLg] G 1000 (.code (cAt Tryd.prog lpOB) (XOB ty).A) ((XOB ty).H Tryd.prog)) = some (none, asgO rO210 t50_2.enc) := by kernel_rfl
set_option maxHeartbeats 8000000 in
theorem wayO210 {T : Sy} {i : Int} (R : RNm T i) (h21 : T.ρ 21 = i) (hw : i < T.ρ 17) (hd : (T.ρ 20 + i) % 4 = 0) (hl : 2 ≤ T.ρ 5 - i - 1) (hs : T.ρ 74 = T.ρ 68) (lk : LkAt Tryd.prog T (gsT ty) (.loop (cAt Tryd.prog lpBB)) (lkB ty)) : WayO ty T i := by
  have hK := R.geo.K
  have hws := R.geo.w
  obtain ⟨e68, e69, e71, e72, e74, e75, l0, l1, l2, l3, n0, n1, i0, i1⟩ := places R
  obtain ⟨S2, hS2⟩ : ∃ S2 : Sy, S2 = T.set (upd T.ρ [(21, i + 1), (50, m50_2 T)]) [(60, gO210 T)] 60 rfl hK := ⟨_, rfl⟩
  have y : Stay [21, 50] [60] T S2 := by rw [hS2]; exact (Stay.refl _ _ _).set rfl rfl
  have s21 : S2.ρ 21 = i + 1 := by rw [hS2]; rfl
  have s50 : S2.ρ 50 = m50_2 T := by rw [hS2]; rfl
  have z : ∀ j : Int, S2.Φ 60 [j] = gO210 T j := by rw [hS2]; intro j; rfl
  clear hS2
  have hr : Row T rO210 (gO210 T) := by
    unfold rO210 gO210
    (repeat refine ar_upd _ _ (by rfl) (by rfl) (by kernel_rfl) ?_)
    exact ar_var _
  have hA := asgO_ok hr (fun j => (z j).symm) t50_2 (by rw [s50]; rfl) (by kernel_rfl) (by rw [h21, w_i64 (by omega) (by omega), s21]) y
  have hm : Mem S2 60 (i + 1) := memO R y z hd (fun j h0 h1 => by unfold gO210; dsimp only [ifE]; (repeat rw [if_neg (by omega)])) (by unfold gO210; dsimp only [ifE]; rw [if_neg (by omega), if_pos (by omega)]; rfl) (by unfold gO210; dsimp only [ifE]; (repeat rw [if_neg (by omega)]); rw [if_pos (by omega)]; exact (wordF (l := T.ρ 70) (by rw [R.e70]; omega)).trans (by rw [R.e70]; congr 1; omega)) (fun j h0 h1 h2 => by unfold gO210; dsimp only [ifE]; (repeat rw [if_neg (by omega)])) (by unfold gO210; dsimp only [ifE]; rw [if_pos (by omega)]; rfl)
  exact ⟨S2, fun U hU => ⟨_, _, _, 1000, _, [], AlOk.app (alG_ok R.geo) (AlOk.app (alL_ok R.geo) (AlOk.app (alP21_ok R hl hs) (alO0_ok R h21 hw hd))), cs1_ok R, lkO_all lk, setT hA hU (by kernel_rfl), runO210 ty _⟩, ⟨R.geo.stay y rfl rfl, by omega, by rw [y.num 17 rfl]; omega, s21, hm⟩, y⟩
def rO211 : ACode := (.upd (.upd (.upd (.upd (.upd (.upd (.upd (.upd (.var 63) (Tm.enc (.var .i64 68)) (Tm.enc (.bin .add (.app .u64 63 (.cons (.var .i64 68) .nil)) (.lit .u64 18446744073709551615)))) (Tm.enc (.var .i64 69)) (Tm.enc (.lit .u64 0))) (Tm.enc (.var .i64 71)) (Tm.enc (.bin .or (.bin .or (.bin .or (.lit .u64 2) (.bin .shl (.bin .and (.conv .u64 (.var .i64 70)) (.lit .u64 1023)) (.lit .u64 3))) (.lit .u64 0)) (.lit .u64 0)))) (Tm.enc (.var .i64 72)) (Tm.enc (.bin .or (.bin .or (.bin .or (.lit .u64 1) (.bin .shl (.bin .and (.conv .u64 (.var .i64 70)) (.lit .u64 1023)) (.lit .u64 3))) (.lit .u64 0)) (.lit .u64 0)))) (Tm.enc (.var .i64 74)) (Tm.enc (.bin .add (.bin .add (.app .u64 63 (.cons (.var .i64 68) .nil)) (.lit .u64 18446744073709551615)) (.lit .u64 1)))) (Tm.enc (.var .i64 69)) (Tm.enc (.lit .u64 12))) (Tm.enc (.var .i64 69)) (Tm.enc (.lit .u64 8203))) (Tm.enc (.var .i64 75)) (Tm.enc (.lit .u64 4294967822)))
def gO211 (T : Sy) : Int → Int := (fun j => ifE j (T.ρ 75) ((4294967822 : Int)) ((fun j => ifE j (T.ρ 69) ((8203 : Int)) ((fun j => ifE j (T.ρ 69) ((12 : Int)) ((fun j => ifE j (T.ρ 74) ((IntKind.u64.wrap ((IntKind.u64.wrap ((T.Φ 63 [T.ρ 68]) + (18446744073709551615 : Int))) + (1 : Int)))) ((fun j => ifE j (T.ρ 72) ((opZ .or .u64 ((opZ .or .u64 ((opZ .or .u64 ((1 : Int)) ((opZ .shl .u64 ((opZ .and .u64 ((IntKind.u64.wrap (T.ρ 70))) ((1023 : Int)))) ((3 : Int)))))) ((0 : Int)))) ((0 : Int)))) ((fun j => ifE j (T.ρ 71) ((opZ .or .u64 ((opZ .or .u64 ((opZ .or .u64 ((2 : Int)) ((opZ .shl .u64 ((opZ .and .u64 ((IntKind.u64.wrap (T.ρ 70))) ((1023 : Int)))) ((3 : Int)))))) ((0 : Int)))) ((0 : Int)))) ((fun j => ifE j (T.ρ 69) ((0 : Int)) ((fun j => ifE j (T.ρ 68) ((IntKind.u64.wrap ((T.Φ 63 [T.ρ 68]) + (18446744073709551615 : Int)))) ((fun j => T.Φ 63 [j]) j)) j)) j)) j)) j)) j)) j)) j))
set_option maxHeartbeats 4000000 in
theorem runO211 {S1 : Sy} (ty : TypeId) (ha : AlOk S1 (alGL ++ (alLL ++ (alP21L ++ alO1L)))) (G : Nat → Option Obj) : rOutR 300 [] (XOB ty) (FOB ty) Tryd.prog.globals.size (runM Tryd.prog ΛB (lkL [noL, lkB ty, noL]) ftB ha [cLg] G 1000 (.code (cAt Tryd.prog lpOB) (XOB ty).A) ((XOB ty).H Tryd.prog)) = some (none, asgO rO211 t50_2.enc) := by kernel_rfl
set_option maxHeartbeats 8000000 in
theorem wayO211 {T : Sy} {i : Int} (R : RNm T i) (h21 : T.ρ 21 = i) (hw : i < T.ρ 17) (hd : (T.ρ 20 + i) % 4 = 1) (hl : 2 ≤ T.ρ 5 - i - 1) (hs : T.ρ 74 = T.ρ 68) (lk : LkAt Tryd.prog T (gsT ty) (.loop (cAt Tryd.prog lpBB)) (lkB ty)) : WayO ty T i := by
  have hK := R.geo.K
  have hws := R.geo.w
  obtain ⟨e68, e69, e71, e72, e74, e75, l0, l1, l2, l3, n0, n1, i0, i1⟩ := places R
  obtain ⟨S2, hS2⟩ : ∃ S2 : Sy, S2 = T.set (upd T.ρ [(21, i + 1), (50, m50_2 T)]) [(60, gO211 T)] 60 rfl hK := ⟨_, rfl⟩
  have y : Stay [21, 50] [60] T S2 := by rw [hS2]; exact (Stay.refl _ _ _).set rfl rfl
  have s21 : S2.ρ 21 = i + 1 := by rw [hS2]; rfl
  have s50 : S2.ρ 50 = m50_2 T := by rw [hS2]; rfl
  have z : ∀ j : Int, S2.Φ 60 [j] = gO211 T j := by rw [hS2]; intro j; rfl
  clear hS2
  have hr : Row T rO211 (gO211 T) := by
    unfold rO211 gO211
    (repeat refine ar_upd _ _ (by rfl) (by rfl) (by kernel_rfl) ?_)
    exact ar_var _
  have hA := asgO_ok hr (fun j => (z j).symm) t50_2 (by rw [s50]; rfl) (by kernel_rfl) (by rw [h21, w_i64 (by omega) (by omega), s21]) y
  have hm : Mem S2 60 (i + 1) := memO R y z hd (fun j h0 h1 => by unfold gO211; dsimp only [ifE]; (repeat rw [if_neg (by omega)])) (by unfold gO211; dsimp only [ifE]; rw [if_neg (by omega), if_pos (by omega)]; rfl) (by unfold gO211; dsimp only [ifE]; (repeat rw [if_neg (by omega)]); rw [if_pos (by omega)]; exact (wordF (l := T.ρ 70) (by rw [R.e70]; omega)).trans (by rw [R.e70]; congr 1; omega)) (fun j h0 h1 h2 => by unfold gO211; dsimp only [ifE]; (repeat rw [if_neg (by omega)])) (by unfold gO211; dsimp only [ifE]; rw [if_pos (by omega)]; rfl)
  exact ⟨S2, fun U hU => ⟨_, _, _, 1000, _, [], AlOk.app (alG_ok R.geo) (AlOk.app (alL_ok R.geo) (AlOk.app (alP21_ok R hl hs) (alO1_ok R h21 hw hd))), cs1_ok R, lkO_all lk, setT hA hU (by kernel_rfl), runO211 ty _⟩, ⟨R.geo.stay y rfl rfl, by omega, by rw [y.num 17 rfl]; omega, s21, hm⟩, y⟩
def rO212 : ACode := (.upd (.upd (.upd (.upd (.upd (.upd (.upd (.upd (.var 63) (Tm.enc (.var .i64 68)) (Tm.enc (.bin .add (.app .u64 63 (.cons (.var .i64 68) .nil)) (.lit .u64 18446744073709551615)))) (Tm.enc (.var .i64 69)) (Tm.enc (.lit .u64 0))) (Tm.enc (.var .i64 71)) (Tm.enc (.bin .or (.bin .or (.bin .or (.lit .u64 2) (.bin .shl (.bin .and (.conv .u64 (.var .i64 70)) (.lit .u64 1023)) (.lit .u64 3))) (.lit .u64 0)) (.lit .u64 0)))) (Tm.enc (.var .i64 72)) (Tm.enc (.bin .or (.bin .or (.bin .or (.lit .u64 1) (.bin .shl (.bin .and (.conv .u64 (.var .i64 70)) (.lit .u64 1023)) (.lit .u64 3))) (.lit .u64 0)) (.lit .u64 0)))) (Tm.enc (.var .i64 74)) (Tm.enc (.bin .add (.bin .add (.app .u64 63 (.cons (.var .i64 68) .nil)) (.lit .u64 18446744073709551615)) (.lit .u64 1)))) (Tm.enc (.var .i64 69)) (Tm.enc (.lit .u64 12))) (Tm.enc (.var .i64 69)) (Tm.enc (.lit .u64 16395))) (Tm.enc (.var .i64 75)) (Tm.enc (.lit .u64 4294968066)))
def gO212 (T : Sy) : Int → Int := (fun j => ifE j (T.ρ 75) ((4294968066 : Int)) ((fun j => ifE j (T.ρ 69) ((16395 : Int)) ((fun j => ifE j (T.ρ 69) ((12 : Int)) ((fun j => ifE j (T.ρ 74) ((IntKind.u64.wrap ((IntKind.u64.wrap ((T.Φ 63 [T.ρ 68]) + (18446744073709551615 : Int))) + (1 : Int)))) ((fun j => ifE j (T.ρ 72) ((opZ .or .u64 ((opZ .or .u64 ((opZ .or .u64 ((1 : Int)) ((opZ .shl .u64 ((opZ .and .u64 ((IntKind.u64.wrap (T.ρ 70))) ((1023 : Int)))) ((3 : Int)))))) ((0 : Int)))) ((0 : Int)))) ((fun j => ifE j (T.ρ 71) ((opZ .or .u64 ((opZ .or .u64 ((opZ .or .u64 ((2 : Int)) ((opZ .shl .u64 ((opZ .and .u64 ((IntKind.u64.wrap (T.ρ 70))) ((1023 : Int)))) ((3 : Int)))))) ((0 : Int)))) ((0 : Int)))) ((fun j => ifE j (T.ρ 69) ((0 : Int)) ((fun j => ifE j (T.ρ 68) ((IntKind.u64.wrap ((T.Φ 63 [T.ρ 68]) + (18446744073709551615 : Int)))) ((fun j => T.Φ 63 [j]) j)) j)) j)) j)) j)) j)) j)) j))
set_option maxHeartbeats 4000000 in
theorem runO212 {S1 : Sy} (ty : TypeId) (ha : AlOk S1 (alGL ++ (alLL ++ (alP21L ++ alO2L)))) (G : Nat → Option Obj) : rOutR 300 [] (XOB ty) (FOB ty) Tryd.prog.globals.size (runM Tryd.prog ΛB (lkL [noL, lkB ty, noL]) ftB ha [cLg] G 1000 (.code (cAt Tryd.prog lpOB) (XOB ty).A) ((XOB ty).H Tryd.prog)) = some (none, asgO rO212 t50_2.enc) := by kernel_rfl
set_option maxHeartbeats 8000000 in
theorem wayO212 {T : Sy} {i : Int} (R : RNm T i) (h21 : T.ρ 21 = i) (hw : i < T.ρ 17) (hd : (T.ρ 20 + i) % 4 = 2) (hl : 2 ≤ T.ρ 5 - i - 1) (hs : T.ρ 74 = T.ρ 68) (lk : LkAt Tryd.prog T (gsT ty) (.loop (cAt Tryd.prog lpBB)) (lkB ty)) : WayO ty T i := by
  have hK := R.geo.K
  have hws := R.geo.w
  obtain ⟨e68, e69, e71, e72, e74, e75, l0, l1, l2, l3, n0, n1, i0, i1⟩ := places R
  obtain ⟨S2, hS2⟩ : ∃ S2 : Sy, S2 = T.set (upd T.ρ [(21, i + 1), (50, m50_2 T)]) [(60, gO212 T)] 60 rfl hK := ⟨_, rfl⟩
  have y : Stay [21, 50] [60] T S2 := by rw [hS2]; exact (Stay.refl _ _ _).set rfl rfl
  have s21 : S2.ρ 21 = i + 1 := by rw [hS2]; rfl
  have s50 : S2.ρ 50 = m50_2 T := by rw [hS2]; rfl
  have z : ∀ j : Int, S2.Φ 60 [j] = gO212 T j := by rw [hS2]; intro j; rfl
  clear hS2
  have hr : Row T rO212 (gO212 T) := by
    unfold rO212 gO212
    (repeat refine ar_upd _ _ (by rfl) (by rfl) (by kernel_rfl) ?_)
    exact ar_var _
  have hA := asgO_ok hr (fun j => (z j).symm) t50_2 (by rw [s50]; rfl) (by kernel_rfl) (by rw [h21, w_i64 (by omega) (by omega), s21]) y
  have hm : Mem S2 60 (i + 1) := memO R y z hd (fun j h0 h1 => by unfold gO212; dsimp only [ifE]; (repeat rw [if_neg (by omega)])) (by unfold gO212; dsimp only [ifE]; rw [if_neg (by omega), if_pos (by omega)]; rfl) (by unfold gO212; dsimp only [ifE]; (repeat rw [if_neg (by omega)]); rw [if_pos (by omega)]; exact (wordF (l := T.ρ 70) (by rw [R.e70]; omega)).trans (by rw [R.e70]; congr 1; omega)) (fun j h0 h1 h2 => by unfold gO212; dsimp only [ifE]; (repeat rw [if_neg (by omega)])) (by unfold gO212; dsimp only [ifE]; rw [if_pos (by omega)]; rfl)
  exact ⟨S2, fun U hU => ⟨_, _, _, 1000, _, [], AlOk.app (alG_ok R.geo) (AlOk.app (alL_ok R.geo) (AlOk.app (alP21_ok R hl hs) (alO2_ok R h21 hw hd))), cs1_ok R, lkO_all lk, setT hA hU (by kernel_rfl), runO212 ty _⟩, ⟨R.geo.stay y rfl rfl, by omega, by rw [y.num 17 rfl]; omega, s21, hm⟩, y⟩
def rO213 : ACode := (.upd (.upd (.upd (.upd (.upd (.upd (.upd (.upd (.var 63) (Tm.enc (.var .i64 68)) (Tm.enc (.bin .add (.app .u64 63 (.cons (.var .i64 68) .nil)) (.lit .u64 18446744073709551615)))) (Tm.enc (.var .i64 69)) (Tm.enc (.lit .u64 0))) (Tm.enc (.var .i64 71)) (Tm.enc (.bin .or (.bin .or (.bin .or (.lit .u64 2) (.bin .shl (.bin .and (.conv .u64 (.var .i64 70)) (.lit .u64 1023)) (.lit .u64 3))) (.lit .u64 0)) (.lit .u64 0)))) (Tm.enc (.var .i64 72)) (Tm.enc (.bin .or (.bin .or (.bin .or (.lit .u64 1) (.bin .shl (.bin .and (.conv .u64 (.var .i64 70)) (.lit .u64 1023)) (.lit .u64 3))) (.lit .u64 0)) (.lit .u64 0)))) (Tm.enc (.var .i64 74)) (Tm.enc (.bin .add (.bin .add (.app .u64 63 (.cons (.var .i64 68) .nil)) (.lit .u64 18446744073709551615)) (.lit .u64 1)))) (Tm.enc (.var .i64 69)) (Tm.enc (.lit .u64 12))) (Tm.enc (.var .i64 69)) (Tm.enc (.lit .u64 24587))) (Tm.enc (.var .i64 75)) (Tm.enc (.lit .u64 4294968322)))
def gO213 (T : Sy) : Int → Int := (fun j => ifE j (T.ρ 75) ((4294968322 : Int)) ((fun j => ifE j (T.ρ 69) ((24587 : Int)) ((fun j => ifE j (T.ρ 69) ((12 : Int)) ((fun j => ifE j (T.ρ 74) ((IntKind.u64.wrap ((IntKind.u64.wrap ((T.Φ 63 [T.ρ 68]) + (18446744073709551615 : Int))) + (1 : Int)))) ((fun j => ifE j (T.ρ 72) ((opZ .or .u64 ((opZ .or .u64 ((opZ .or .u64 ((1 : Int)) ((opZ .shl .u64 ((opZ .and .u64 ((IntKind.u64.wrap (T.ρ 70))) ((1023 : Int)))) ((3 : Int)))))) ((0 : Int)))) ((0 : Int)))) ((fun j => ifE j (T.ρ 71) ((opZ .or .u64 ((opZ .or .u64 ((opZ .or .u64 ((2 : Int)) ((opZ .shl .u64 ((opZ .and .u64 ((IntKind.u64.wrap (T.ρ 70))) ((1023 : Int)))) ((3 : Int)))))) ((0 : Int)))) ((0 : Int)))) ((fun j => ifE j (T.ρ 69) ((0 : Int)) ((fun j => ifE j (T.ρ 68) ((IntKind.u64.wrap ((T.Φ 63 [T.ρ 68]) + (18446744073709551615 : Int)))) ((fun j => T.Φ 63 [j]) j)) j)) j)) j)) j)) j)) j)) j))
set_option maxHeartbeats 4000000 in
theorem runO213 {S1 : Sy} (ty : TypeId) (ha : AlOk S1 (alGL ++ (alLL ++ (alP21L ++ alO3L)))) (G : Nat → Option Obj) : rOutR 300 [] (XOB ty) (FOB ty) Tryd.prog.globals.size (runM Tryd.prog ΛB (lkL [noL, lkB ty, noL]) ftB ha [cLg] G 1000 (.code (cAt Tryd.prog lpOB) (XOB ty).A) ((XOB ty).H Tryd.prog)) = some (none, asgO rO213 t50_2.enc) := by kernel_rfl
set_option maxHeartbeats 8000000 in
theorem wayO213 {T : Sy} {i : Int} (R : RNm T i) (h21 : T.ρ 21 = i) (hw : i < T.ρ 17) (hd : (T.ρ 20 + i) % 4 = 3) (hl : 2 ≤ T.ρ 5 - i - 1) (hs : T.ρ 74 = T.ρ 68) (lk : LkAt Tryd.prog T (gsT ty) (.loop (cAt Tryd.prog lpBB)) (lkB ty)) : WayO ty T i := by
  have hK := R.geo.K
  have hws := R.geo.w
  obtain ⟨e68, e69, e71, e72, e74, e75, l0, l1, l2, l3, n0, n1, i0, i1⟩ := places R
  obtain ⟨S2, hS2⟩ : ∃ S2 : Sy, S2 = T.set (upd T.ρ [(21, i + 1), (50, m50_2 T)]) [(60, gO213 T)] 60 rfl hK := ⟨_, rfl⟩
  have y : Stay [21, 50] [60] T S2 := by rw [hS2]; exact (Stay.refl _ _ _).set rfl rfl
  have s21 : S2.ρ 21 = i + 1 := by rw [hS2]; rfl
  have s50 : S2.ρ 50 = m50_2 T := by rw [hS2]; rfl
  have z : ∀ j : Int, S2.Φ 60 [j] = gO213 T j := by rw [hS2]; intro j; rfl
  clear hS2
  have hr : Row T rO213 (gO213 T) := by
    unfold rO213 gO213
    (repeat refine ar_upd _ _ (by rfl) (by rfl) (by kernel_rfl) ?_)
    exact ar_var _
  have hA := asgO_ok hr (fun j => (z j).symm) t50_2 (by rw [s50]; rfl) (by kernel_rfl) (by rw [h21, w_i64 (by omega) (by omega), s21]) y
  have hm : Mem S2 60 (i + 1) := memO R y z hd (fun j h0 h1 => by unfold gO213; dsimp only [ifE]; (repeat rw [if_neg (by omega)])) (by unfold gO213; dsimp only [ifE]; rw [if_neg (by omega), if_pos (by omega)]; rfl) (by unfold gO213; dsimp only [ifE]; (repeat rw [if_neg (by omega)]); rw [if_pos (by omega)]; exact (wordF (l := T.ρ 70) (by rw [R.e70]; omega)).trans (by rw [R.e70]; congr 1; omega)) (fun j h0 h1 h2 => by unfold gO213; dsimp only [ifE]; (repeat rw [if_neg (by omega)])) (by unfold gO213; dsimp only [ifE]; rw [if_pos (by omega)]; rfl)
  exact ⟨S2, fun U hU => ⟨_, _, _, 1000, _, [], AlOk.app (alG_ok R.geo) (AlOk.app (alL_ok R.geo) (AlOk.app (alP21_ok R hl hs) (alO3_ok R h21 hw hd))), cs1_ok R, lkO_all lk, setT hA hU (by kernel_rfl), runO213 ty _⟩, ⟨R.geo.stay y rfl rfl, by omega, by rw [y.num 17 rfl]; omega, s21, hm⟩, y⟩
end
end Go.Proofs.YtgokpcaijabhoaaDoor
