/- Texts of a proof, one behind the other. Conditions: those each says. -/
import Derived.Test.YtgokpcaijabhoaaDoorZSB3
import Derived.Test.YtgokpcaijabhoaaDoorZSB1P20
import Derived.Test.YtgokpcaijabhoaaDoorZSB1O
namespace Go.Proofs.YtgokpcaijabhoaaDoor
open Go.Ev Go.RowKit
set_option maxRecDepth 100000
set_option linter.unusedVariables false
section
variable {ty : TypeId}
def rO200 : ACode := (.upd (.upd (.upd (.upd (.upd (.upd (.upd (.upd (.var 63) (Tm.enc (.var .i64 68)) (Tm.enc (.bin .add (.app .u64 63 (.cons (.var .i64 68) .nil)) (.lit .u64 18446744073709551615)))) (Tm.enc (.var .i64 69)) (Tm.enc (.lit .u64 0))) (Tm.enc (.var .i64 71)) (Tm.enc (.bin .or (.bin .or (.bin .or (.lit .u64 2) (.bin .shl (.bin .and (.conv .u64 (.var .i64 70)) (.lit .u64 1023)) (.lit .u64 3))) (.lit .u64 0)) (.lit .u64 0)))) (Tm.enc (.var .i64 72)) (Tm.enc (.bin .or (.bin .or (.bin .or (.lit .u64 1) (.bin .shl (.bin .and (.conv .u64 (.var .i64 70)) (.lit .u64 1023)) (.lit .u64 3))) (.lit .u64 0)) (.lit .u64 0)))) (Tm.enc (.var .i64 74)) (Tm.enc (.bin .add (.app .u64 63 (.cons (.var .i64 74) .nil)) (.lit .u64 1)))) (Tm.enc (.var .i64 69)) (Tm.enc (.lit .u64 12))) (Tm.enc (.var .i64 69)) (Tm.enc (.lit .u64 11))) (Tm.enc (.var .i64 75)) (Tm.enc (.lit .u64 4294967806)))
def gO200 (T : Sy) : Int → Int := (fun j => ifE j (T.ρ 75) ((4294967806 : Int)) ((fun j => ifE j (T.ρ 69) ((11 : Int)) ((fun j => ifE j (T.ρ 69) ((12 : Int)) ((fun j => ifE j (T.ρ 74) ((IntKind.u64.wrap ((T.Φ 63 [T.ρ 74]) + (1 : Int)))) ((fun j => ifE j (T.ρ 72) ((opZ .or .u64 ((opZ .or .u64 ((opZ .or .u64 ((1 : Int)) ((opZ .shl .u64 ((opZ .and .u64 ((IntKind.u64.wrap (T.ρ 70))) ((1023 : Int)))) ((3 : Int)))))) ((0 : Int)))) ((0 : Int)))) ((fun j => ifE j (T.ρ 71) ((opZ .or .u64 ((opZ .or .u64 ((opZ .or .u64 ((2 : Int)) ((opZ .shl .u64 ((opZ .and .u64 ((IntKind.u64.wrap (T.ρ 70))) ((1023 : Int)))) ((3 : Int)))))) ((0 : Int)))) ((0 : Int)))) ((fun j => ifE j (T.ρ 69) ((0 : Int)) ((fun j => ifE j (T.ρ 68) ((IntKind.u64.wrap ((T.Φ 63 [T.ρ 68]) + (18446744073709551615 : Int)))) ((fun j => T.Φ 63 [j]) j)) j)) j)) j)) j)) j)) j)) j))
set_option maxHeartbeats 4000000 in
theorem runO200 {S1 : Sy} (ty : TypeId) (ha : AlOk S1 (alGL ++ (alLL ++ (alP20L ++ alO0L)))) (G : Nat → Option Obj) : rOutR 300 [] (XOB ty) (FOB ty) Tryd.prog.globals.size (runM Tryd.prog ΛB (lkL [noL, lkB ty, noL]) ftB ha [cLg] G 1000 (.code (cAt Tryd.prog lpOB) (XOB ty).A) ((XOB ty).H Tryd.prog)) = some (none, asgO rO200 t50_2.enc) := by kernel_rfl
set_option maxHeartbeats 8000000 in
theorem wayO200 {T : Sy} {i : Int} (R : RNm T i) (h21 : T.ρ 21 = i) (hw : i < T.ρ 17) (hd : (T.ρ 20 + i) % 4 = 0) (hl : 2 ≤ T.ρ 5 - i - 1) (hs : T.ρ 74 ≠ T.ρ 68) (lk : LkAt Tryd.prog T (gsT ty) (.loop (cAt Tryd.prog lpBB)) (lkB ty)) : WayO ty T i := by
  have hK := R.geo.K
  have hws := R.geo.w
  obtain ⟨e68, e69, e71, e72, e74, e75, l0, l1, l2, l3, n0, n1, i0, i1⟩ := places R
  obtain ⟨S2, hS2⟩ : ∃ S2 : Sy, S2 = T.set (upd T.ρ [(21, i + 1), (50, m50_2 T)]) [(60, gO200 T)] 60 rfl hK := ⟨_, rfl⟩
  have y : Stay [21, 50] [60] T S2 := by rw [hS2]; exact (Stay.refl _ _ _).set rfl rfl
  have s21 : S2.ρ 21 = i + 1 := by rw [hS2]; rfl
  have s50 : S2.ρ 50 = m50_2 T := by rw [hS2]; rfl
  have z : ∀ j : Int, S2.Φ 60 [j] = gO200 T j := by rw [hS2]; intro j; rfl
  clear hS2
  have hr : Row T rO200 (gO200 T) := by
    unfold rO200 gO200
    (repeat refine ar_upd _ _ (by rfl) (by rfl) (by kernel_rfl) ?_)
    exact ar_var _
  have hA := asgO_ok hr (fun j => (z j).symm) t50_2 (by rw [s50]; rfl) (by kernel_rfl) (by rw [h21, w_i64 (by omega) (by omega), s21]) y
  have hm : Mem S2 60 (i + 1) := memO R y z hd (fun j h0 h1 => by unfold gO200; dsimp only [ifE]; (repeat rw [if_neg (by omega)])) (by unfold gO200; dsimp only [ifE]; rw [if_neg (by omega), if_pos (by omega)]; rfl) (by unfold gO200; dsimp only [ifE]; (repeat rw [if_neg (by omega)]); rw [if_pos (by omega)]; exact (wordF (l := T.ρ 70) (by rw [R.e70]; omega)).trans (by rw [R.e70]; congr 1; omega)) (fun j h0 h1 h2 => by unfold gO200; dsimp only [ifE]; (repeat rw [if_neg (by omega)])) (by unfold gO200; dsimp only [ifE]; rw [if_pos (by omega)]; rfl)
  exact ⟨S2, fun U hU => ⟨_, _, _, 1000, _, [], AlOk.app (alG_ok R.geo) (AlOk.app (alL_ok R.geo) (AlOk.app (alP20_ok R hl hs) (alO0_ok R h21 hw hd))), cs1_ok R, lkO_all lk, setT hA hU (by kernel_rfl), runO200 ty _⟩, ⟨R.geo.stay y rfl rfl, by omega, by rw [y.num 17 rfl]; omega, s21, hm⟩, y⟩
def rO201 : ACode := (.upd (.upd (.upd (.upd (.upd (.upd (.upd (.upd (.var 63) (Tm.enc (.var .i64 68)) (Tm.enc (.bin .add (.app .u64 63 (.cons (.var .i64 68) .nil)) (.lit .u64 18446744073709551615)))) (Tm.enc (.var .i64 69)) (Tm.enc (.lit .u64 0))) (Tm.enc (.var .i64 71)) (Tm.enc (.bin .or (.bin .or (.bin .or (.lit .u64 2) (.bin .shl (.bin .and (.conv .u64 (.var .i64 70)) (.lit .u64 1023)) (.lit .u64 3))) (.lit .u64 0)) (.lit .u64 0)))) (Tm.enc (.var .i64 72)) (Tm.enc (.bin .or (.bin .or (.bin .or (.lit .u64 1) (.bin .shl (.bin .and (.conv .u64 (.var .i64 70)) (.lit .u64 1023)) (.lit .u64 3))) (.lit .u64 0)) (.lit .u64 0)))) (Tm.enc (.var .i64 74)) (Tm.enc (.bin .add (.app .u64 63 (.cons (.var .i64 74) .nil)) (.lit .u64 1)))) (Tm.enc (.var .i64 69)) (Tm.enc (.lit .u64 12))) (Tm.enc (.var .i64 69)) (Tm.enc (.lit .u64 8203))) (Tm.enc (.var .i64 75)) (Tm.enc (.lit .u64 4294967822)))
def gO201 (T : Sy) : Int → Int := (fun j => ifE j (T.ρ 75) ((4294967822 : Int)) ((fun j => ifE j (T.ρ 69) ((8203 : Int)) ((fun j => ifE j (T.ρ 69) ((12 : Int)) ((fun j => ifE j (T.ρ 74) ((IntKind.u64.wrap ((T.Φ 63 [T.ρ 74]) + (1 : Int)))) ((fun j => ifE j (T.ρ 72) ((opZ .or .u64 ((opZ .or .u64 ((opZ .or .u64 ((1 : Int)) ((opZ .shl .u64 ((opZ .and .u64 ((IntKind.u64.wrap (T.ρ 70))) ((1023 : Int)))) ((3 : Int)))))) ((0 : Int)))) ((0 : Int)))) ((fun j => ifE j (T.ρ 71) ((opZ .or .u64 ((opZ .or .u64 ((opZ .or .u64 ((2 : Int)) ((opZ .shl .u64 ((opZ .and .u64 ((IntKind.u64.wrap (T.ρ 70))) ((1023 : Int)))) ((3 : Int)))))) ((0 : Int)))) ((0 : Int)))) ((fun j => ifE j (T.ρ 69) ((0 : Int)) ((fun j => ifE j (T.ρ 68) ((IntKind.u64.wrap ((T.Φ 63 [T.ρ 68]) + (18446744073709551615 : Int)))) ((fun j => T.Φ 63 [j]) j)) j)) j)) j)) j)) j)) j)) j))
set_option maxHeartbeats 4000000 in
theorem runO201 {S1 : Sy} (ty : TypeId) (ha : AlOk S1 (alGL ++ (alLL ++ (alP20L ++ alO1L)))) (G : Nat → Option Obj) : rOutR 300 [] (XOB ty) (FOB ty) Tryd.prog.globals.size (runM Tryd.prog ΛB (lkL [noL, lkB ty, noL]) ftB ha [cLg] G 1000 (.code (cAt Tryd.prog lpOB) (XOB ty).A) ((XOB ty).H Tryd.prog)) = some (none, asgO rO201 t50_2.enc) := by kernel_rfl
set_option maxHeartbeats 8000000 in
theorem wayO201 {T : Sy} {i : Int} (R : RNm T i) (h21 : T.ρ 21 = i) (hw : i < T.ρ 17) (hd : (T.ρ 20 + i) % 4 = 1) (hl : 2 ≤ T.ρ 5 - i - 1) (hs : T.ρ 74 ≠ T.ρ 68) (lk : LkAt Tryd.prog T (gsT ty) (.loop (cAt Tryd.prog lpBB)) (lkB ty)) : WayO ty T i := by
  have hK := R.geo.K
  have hws := R.geo.w
  obtain ⟨e68, e69, e71, e72, e74, e75, l0, l1, l2, l3, n0, n1, i0, i1⟩ := places R
  obtain ⟨S2, hS2⟩ : ∃ S2 : Sy, S2 = T.set (upd T.ρ [(21, i + 1), (50, m50_2 T)]) [(60, gO201 T)] 60 rfl hK := ⟨_, rfl⟩
  have y : Stay [21, 50] [60] T S2 := by rw [hS2]; exact (Stay.refl _ _ _).set rfl rfl
  have s21 : S2.ρ 21 = i + 1 := by rw [hS2]; rfl
  have s50 : S2.ρ 50 = m50_2 T := by rw [hS2]; rfl
  have z : ∀ j : Int, S2.Φ 60 [j] = gO201 T j := by rw [hS2]; intro j; rfl
  clear hS2
  have hr : Row T rO201 (gO201 T) := by
    unfold rO201 gO201
    (repeat refine ar_upd _ _ (by rfl) (by rfl) (by kernel_rfl) ?_)
    exact ar_var _
  have hA := asgO_ok hr (fun j => (z j).symm) t50_2 (by rw [s50]; rfl) (by kernel_rfl) (by rw [h21, w_i64 (by omega) (by omega), s21]) y
  have hm : Mem S2 60 (i + 1) := memO R y z hd (fun j h0 h1 => by unfold gO201; dsimp only [ifE]; (repeat rw [if_neg (by omega)])) (by unfold gO201; dsimp only [ifE]; rw [if_neg (by omega), if_pos (by omega)]; rfl) (by unfold gO201; dsimp only [ifE]; (repeat rw [if_neg (by omega)]); rw [if_pos (by omega)]; exact (wordF (l := T.ρ 70) (by rw [R.e70]; omega)).trans (by rw [R.e70]; congr 1; omega)) (fun j h0 h1 h2 => by unfold gO201; dsimp only [ifE]; (repeat rw [if_neg (by omega)])) (by unfold gO201; dsimp only [ifE]; rw [if_pos (by omega)]; rfl)
  exact ⟨S2, fun U hU => ⟨_, _, _, 1000, _, [], AlOk.app (alG_ok R.geo) (AlOk.app (alL_ok R.geo) (AlOk.app (alP20_ok R hl hs) (alO1_ok R h21 hw hd))), cs1_ok R, lkO_all lk, setT hA hU (by kernel_rfl), runO201 ty _⟩, ⟨R.geo.stay y rfl rfl, by omega, by rw [y.num 17 rfl]; omega, s21, hm⟩, y⟩
def rO202 : ACode := (.upd (.upd (.upd (.upd (.upd (.upd (.upd (.upd (.var 63) (Tm.enc (.var .i64 68)) (Tm.enc (.bin .add (.app .u64 63 (.cons (.var .i64 68) .nil)) (.lit .u64 18446744073709551615)))) (Tm.enc (.var .i64 69)) (Tm.enc (.lit .u64 0))) (Tm.enc (.var .i64 71)) (Tm.enc (.bin .or (.bin .or (.bin .or (.lit .u64 2) (.bin .shl (.bin .and (.conv .u64 (.var .i64 70)) (.lit .u64 1023)) (.lit .u64 3))) (.lit .u64 0)) (.lit .u64 0)))) (Tm.enc (.var .i64 72)) (Tm.enc (.bin .or (.bin .or (.bin .or (.lit .u64 1) (.bin .shl (.bin .and (.conv .u64 (.var .i64 70)) (.lit .u64 1023)) (.lit .u64 3))) (.lit .u64 0)) (.lit .u64 0)))) (Tm.enc (.var .i64 74)) (Tm.enc (.bin .add (.app .u64 63 (.cons (.var .i64 74) .nil)) (.lit .u64 1)))) (Tm.enc (.var .i64 69)) (Tm.enc (.lit .u64 12))) (Tm.enc (.var .i64 69)) (Tm.enc (.lit .u64 16395))) (Tm.enc (.var .i64 75)) (Tm.enc (.lit .u64 4294968066)))
def gO202 (T : Sy) : Int → Int := (fun j => ifE j (T.ρ 75) ((4294968066 : Int)) ((fun j => ifE j (T.ρ 69) ((16395 : Int)) ((fun j => ifE j (T.ρ 69) ((12 : Int)) ((fun j => ifE j (T.ρ 74) ((IntKind.u64.wrap ((T.Φ 63 [T.ρ 74]) + (1 : Int)))) ((fun j => ifE j (T.ρ 72) ((opZ .or .u64 ((opZ .or .u64 ((opZ .or .u64 ((1 : Int)) ((opZ .shl .u64 ((opZ .and .u64 ((IntKind.u64.wrap (T.ρ 70))) ((1023 : Int)))) ((3 : Int)))))) ((0 : Int)))) ((0 : Int)))) ((fun j => ifE j (T.ρ 71) ((opZ .or .u64 ((opZ .or .u64 ((opZ .or .u64 ((2 : Int)) ((opZ .shl .u64 ((opZ .and .u64 ((IntKind.u64.wrap (T.ρ 70))) ((1023 : Int)))) ((3 : Int)))))) ((0 : Int)))) ((0 : Int)))) ((fun j => ifE j (T.ρ 69) ((0 : Int)) ((fun j => ifE j (T.ρ 68) ((IntKind.u64.wrap ((T.Φ 63 [T.ρ 68]) + (18446744073709551615 : Int)))) ((fun j => T.Φ 63 [j]) j)) j)) j)) j)) j)) j)) j)) j))
set_option maxHeartbeats 4000000 in
theorem runO202 {S1 : Sy} (ty : TypeId) (ha : AlOk S1 (alGL ++ (alLL ++ (alP20L ++ alO2L)))) (G : Nat → Option Obj) : rOutR 300 [] (XOB ty) (FOB ty) Tryd.prog.globals.size (runM Tryd.prog ΛB (lkL [noL, lkB ty, noL]) ftB ha [cLg] G 1000 (.code (cAt Tryd.prog lpOB) (XOB ty).A) ((XOB ty).H Tryd.prog)) = some (none, asgO rO202 t50_2.enc) := by kernel_rfl
set_option maxHeartbeats 8000000 in
theorem wayO202 {T : Sy} {i : Int} (R : RNm T i) (h21 : T.ρ 21 = i) (hw : i < T.ρ 17) (hd : (T.ρ 20 + i) % 4 = 2) (hl : 2 ≤ T.ρ 5 - i - 1) (hs : T.ρ 74 ≠ T.ρ 68) (lk : LkAt Tryd.prog T (gsT ty) (.loop (cAt Tryd.prog lpBB)) (lkB ty)) : WayO ty T i := by
  have hK := R.geo.K
  have hws := R.geo.w
  obtain ⟨e68, e69, e71, e72, e74, e75, l0, l1, l2, l3, n0, n1, i0, i1⟩ := places R
  obtain ⟨S2, hS2⟩ : ∃ S2 : Sy, S2 = T.set (upd T.ρ [(21, i + 1), (50, m50_2 T)]) [(60, gO202 T)] 60 rfl hK := ⟨_, rfl⟩
  have y : Stay [21, 50] [60] T S2 := by rw [hS2]; exact (Stay.refl _ _ _).set rfl rfl
  have s21 : S2.ρ 21 = i + 1 := by rw [hS2]; rfl
  have s50 : S2.ρ 50 = m50_2 T := by rw [hS2]; rfl
  have z : ∀ j : Int, S2.Φ 60 [j] = gO202 T j := by rw [hS2]; intro j; rfl
  clear hS2
  have hr : Row T rO202 (gO202 T) := by
    unfold rO202 gO202
    (repeat refine ar_upd _ _ (by rfl) (by rfl) (by kernel_rfl) ?_)
    exact ar_var _
  have hA := asgO_ok hr (fun j => (z j).symm) t50_2 (by rw [s50]; rfl) (by kernel_rfl) (by rw [h21, w_i64 (by omega) (by omega), s21]) y
  have hm : Mem S2 60 (i + 1) := memO R y z hd (fun j h0 h1 => by unfold gO202; dsimp only [ifE]; (repeat rw [if_neg (by omega)])) (by unfold gO202; dsimp only [ifE]; rw [if_neg (by omega), if_pos (by omega)]; rfl) (by unfold gO202; dsimp only [ifE]; (repeat rw [if_neg (by omega)]); rw [if_pos (by omega)]; exact (wordF (l := T.ρ 70) (by rw [R.e70]; omega)).trans (by rw [R.e70]; congr 1; omega)) (fun j h0 h1 h2 => by unfold gO202; dsimp only [ifE]; (repeat rw [if_neg (by omega)])) (by unfold gO202; dsimp only [ifE]; rw [if_pos (by omega)]; rfl)
  exact ⟨S2, fun U hU => ⟨_, _, _, 1000, _, [], AlOk.app (alG_ok R.geo) (AlOk.app (alL_ok R.geo) (AlOk.app (alP20_ok R hl hs) (alO2_ok R h21 hw hd))), cs1_ok R, lkO_all lk, setT hA hU (by kernel_rfl), runO202 ty _⟩, ⟨R.geo.stay y rfl rfl, by omega, by rw [y.num 17 rfl]; omega, s21, hm⟩, y⟩
def rO203 : ACode := (.upd (.upd (.upd (.upd (.upd (.upd (.upd (.upd (.var 63) (Tm.enc (.var .i64 68)) (Tm.enc (.bin .add (.app .u64 63 (.cons (.var .i64 68) .nil)) (.lit .u64 18446744073709551615)))) (Tm.enc (.var .i64 69)) (Tm.enc (.lit .u64 0))) (Tm.enc (.var .i64 71)) (Tm.enc (.bin .or (.bin .or (.bin .or (.lit .u64 2) (.bin .shl (.bin .and (.conv .u64 (.var .i64 70)) (.lit .u64 1023)) (.lit .u64 3))) (.lit .u64 0)) (.lit .u64 0)))) (Tm.enc (.var .i64 72)) (Tm.enc (.bin .or (.bin .or (.bin .or (.lit .u64 1) (.bin .shl (.bin .and (.conv .u64 (.var .i64 70)) (.lit .u64 1023)) (.lit .u64 3))) (.lit .u64 0)) (.lit .u64 0)))) (Tm.enc (.var .i64 74)) (Tm.enc (.bin .add (.app .u64 63 (.cons (.var .i64 74) .nil)) (.lit .u64 1)))) (Tm.enc (.var .i64 69)) (Tm.enc (.lit .u64 12))) (Tm.enc (.var .i64 69)) (Tm.enc (.lit .u64 24587))) (Tm.enc (.var .i64 75)) (Tm.enc (.lit .u64 4294968322)))
def gO203 (T : Sy) : Int → Int := (fun j => ifE j (T.ρ 75) ((4294968322 : Int)) ((fun j => ifE j (T.ρ 69) ((24587 : Int)) ((fun j => ifE j (T.ρ 69) ((12 : Int)) ((fun j => ifE j (T.ρ 74) ((IntKind.u64.wrap ((T.Φ 63 [T.ρ 74]) + (1 : Int)))) ((fun j => ifE j (T.ρ 72) ((opZ .or .u64 ((opZ .or .u64 ((opZ .or .u64 ((1 : Int)) ((opZ .shl .u64 ((opZ .and .u64 ((IntKind.u64.wrap (T.ρ 70))) ((1023 : Int)))) ((3 : Int)))))) ((0 : Int)))) ((0 : Int)))) ((fun j => ifE j (T.ρ 71) ((opZ .or .u64 ((opZ .or .u64 ((opZ .or .u64 ((2 : Int)) ((opZ .shl .u64 ((opZ .and .u64 ((IntKind.u64.wrap (T.ρ 70))) ((1023 : Int)))) ((3 : Int)))))) ((0 : Int)))) ((0 : Int)))) ((fun j => ifE j (T.ρ 69) ((0 : Int)) ((fun j => ifE j (T.ρ 68) ((IntKind.u64.wrap ((T.Φ 63 [T.ρ 68]) + (18446744073709551615 : Int)))) ((fun j => T.Φ 63 [j]) j)) j)) j)) j)) j)) j)) j)) j))
set_option maxHeartbeats 4000000 in
theorem runO203 {S1 : Sy} (ty : TypeId) (ha : AlOk S1 (alGL ++ (alLL ++ (alP20L ++ alO3L)))) (G : Nat → Option Obj) : rOutR 300 [] (XOB ty) (FOB ty) Tryd.prog.globals.size (runM Tryd.prog ΛB (lkL [noL, lkB ty, noL]) ftB ha [cLg] G 1000 (.code (cAt Tryd.prog lpOB) (XOB ty).A) ((XOB ty).H Tryd.prog)) = some (none, asgO rO203 t50_2.enc) := by kernel_rfl
set_option maxHeartbeats 8000000 in
theorem wayO203 {T : Sy} {i : Int} (R : RNm T i) (h21 : T.ρ 21 = i) (hw : i < T.ρ 17) (hd : (T.ρ 20 + i) % 4 = 3) (hl : 2 ≤ T.ρ 5 - i - 1) (hs : T.ρ 74 ≠ T.ρ 68) (lk : LkAt Tryd.prog T (gsT ty) (.loop (cAt Tryd.prog lpBB)) (lkB ty)) : WayO ty T i := by
  have hK := R.geo.K
  have hws := R.geo.w
  obtain ⟨e68, e69, e71, e72, e74, e75, l0, l1, l2, l3, n0, n1, i0, i1⟩ := places R
  obtain ⟨S2, hS2⟩ : ∃ S2 : Sy, S2 = T.set (upd T.ρ [(21, i + 1), (50, m50_2 T)]) [(60, gO203 T)] 60 rfl hK := ⟨_, rfl⟩
  have y : Stay [21, 50] [60] T S2 := by rw [hS2]; exact (Stay.refl _ _ _).set rfl rfl
  have s21 : S2.ρ 21 = i + 1 := by rw [hS2]; rfl
  have s50 : S2.ρ 50 = m50_2 T := by rw [hS2]; rfl
  have z : ∀ j : Int, S2.Φ 60 [j] = gO203 T j := by rw [hS2]; intro j; rfl
  clear hS2
  have hr : Row T rO203 (gO203 T) := by
    unfold rO203 gO203
    (repeat refine ar_upd _ _ (by rfl) (by rfl) (by kernel_rfl) ?_)
    exact ar_var _
  have hA := asgO_ok hr (fun j => (z j).symm) t50_2 (by rw [s50]; rfl) (by kernel_rfl) (by rw [h21, w_i64 (by omega) (by omega), s21]) y
  have hm : Mem S2 60 (i + 1) := memO R y z hd (fun j h0 h1 => by unfold gO203; dsimp only [ifE]; (repeat rw [if_neg (by omega)])) (by unfold gO203; dsimp only [ifE]; rw [if_neg (by omega), if_pos (by omega)]; rfl) (by unfold gO203; dsimp only [ifE]; (repeat rw [if_neg (by omega)]); rw [if_pos (by omega)]; exact (wordF (l := T.ρ 70) (by rw [R.e70]; omega)).trans (by rw [R.e70]; congr 1; omega)) (fun j h0 h1 h2 => by unfold gO203; dsimp only [ifE]; (repeat rw [if_neg (by omega)])) (by unfold gO203; dsimp only [ifE]; rw [if_pos (by omega)]; rfl)
  exact ⟨S2, fun U hU => ⟨_, _, _, 1000, _, [], AlOk.app (alG_ok R.geo) (AlOk.app (alL_ok R.geo) (AlOk.app (alP20_ok R hl hs) (alO3_ok R h21 hw hd))), cs1_ok R, lkO_all lk, setT hA hU (by kernel_rfl), runO203 ty _⟩, ⟨R.geo.stay y rfl rfl, by omega, by rw [y.num 17 rfl]; omega, s21, hm⟩, y⟩
end
end Go.Proofs.YtgokpcaijabhoaaDoor
