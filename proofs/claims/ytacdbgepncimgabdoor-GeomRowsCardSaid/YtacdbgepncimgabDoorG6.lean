/-
  Stage 2: GeomRows, run with symbols. Conditions: 1 to 256 pages, 1 to 64 threads; what is said of each number.
-/
import Derived.Test.YtacdbgepncimgabDoorG4
namespace Go.Proofs.YtacdbgepncimgabDoor
open Go.Ev Go.RowKit
set_option maxRecDepth 100000
def rρ (p t a b c k i j cl sl aa bb : Int) : Nat → Int
  | 0 => p
  | 1 => t
  | 9 => 21 + t
  | 10 => 21 + t + p
  | 11 => 21 + t + 2 * p
  | 12 => 21 + t + 3 * p
  | 13 => 21 + t + 11 * p
  | 14 => 21 + t + 19 * p
  | 15 => 21 + 9 * t + 19 * p
  | 16 => 21 + 13 * t + 19 * p
  | 17 => 21 + 15 * t + 19 * p
  | 18 => 21 + 16 * t + 19 * p
  | 19 => 21 + 16 * t + 19 * p + t * (2 * t + 2)
  | 20 => 21 + 16 * t + 19 * p + t * (2 * t + 2) + (4 * t * (p + 1) + t * (2 * t + 3))
  | 21 => 21 + 16 * t + 19 * p + t * (2 * t + 2) + (4 * t * (p + 1) + t * (2 * t + 3)) + 8 * (4 * t * (p + 1) + t * (2 * t + 3))
  | 40 => 8 * p
  | 41 => 4 * t
  | 42 => 8 * t
  | 43 => 2 * t
  | 45 => 2 * t + 2
  | 46 => t * (2 * t + 2)
  | 47 => p + 1
  | 48 => 4 * t * (p + 1)
  | 49 => 2 * t + 3
  | 50 => t * (2 * t + 3)
  | 51 => 4 * t * (p + 1) + t * (2 * t + 3)
  | 52 => 8 * (4 * t * (p + 1) + t * (2 * t + 3))
  | 60 => a
  | 61 => b
  | 63 => c
  | 64 => k
  | 65 => i + 1
  | 66 => j + 1
  | 67 => i
  | 68 => j
  | 69 => 2 * t + 1
  | 70 => cl
  | 71 => sl
  | 72 => aa
  | 73 => bb
  | 74 => (4 * t * (p + 1) + t * (2 * t + 3)) - 1
  | _ => 0
def rS (p t a b c k i j cl sl aa bb : Int) : Sy := ⟨rρ p t a b c k i j cl sl aa bb, Φg⟩
theorem alR_ok (p t a b c k i j cl sl aa bb : Int) (hp : 1 ≤ p) (hp2 : p ≤ 256) (ht : 1 ≤ t) (ht2 : t ≤ 64) : AlOk (rS p t a b c k i j cl sl aa bb) alG := by
  obtain ⟨⟨r1, r2⟩, ⟨k1, k2⟩, l1, l2⟩ := big p t hp hp2 ht ht2
  exact al_op .mul (.lit .i64 1) (.var .i64 1) (.var .i64 1) (1) (t) (t) (by kernel_rfl) rfl rfl rfl (v_mul (by omega) (by omega) (by omega)) (
    al_op .mul (.var .i64 1) (.lit .i64 1) (.var .i64 1) (t) (1) (t) (by kernel_rfl) rfl rfl rfl (v_mul (by omega) (by omega) (by omega)) (
    al_op .mul (.lit .i64 1) (.var .i64 0) (.var .i64 0) (1) (p) (p) (by kernel_rfl) rfl rfl rfl (v_mul (by omega) (by omega) (by omega)) (
    al_op .mul (.var .i64 0) (.lit .i64 1) (.var .i64 0) (p) (1) (p) (by kernel_rfl) rfl rfl rfl (v_mul (by omega) (by omega) (by omega)) (
    al_op .mul (.var .i64 0) (.lit .i64 8) (.var .i64 40) (p) (8) (8 * p) (by kernel_rfl) rfl rfl rfl (v_mul (by omega) (by omega) (by omega)) (
    al_op .mul (.lit .i64 1) (.var .i64 40) (.var .i64 40) (1) (8 * p) (8 * p) (by kernel_rfl) rfl rfl rfl (v_mul (by omega) (by omega) (by omega)) (
    al_op .mul (.var .i64 40) (.lit .i64 1) (.var .i64 40) (8 * p) (1) (8 * p) (by kernel_rfl) rfl rfl rfl (v_mul (by omega) (by omega) (by omega)) (
    al_op .mul (.var .i64 1) (.lit .i64 4) (.var .i64 41) (t) (4) (4 * t) (by kernel_rfl) rfl rfl rfl (v_mul (by omega) (by omega) (by omega)) (
    al_op .mul (.var .i64 41) (.lit .i64 2) (.var .i64 42) (4 * t) (2) (8 * t) (by kernel_rfl) rfl rfl rfl (v_mul (by omega) (by omega) (by omega)) (
    al_op .mul (.var .i64 41) (.lit .i64 1) (.var .i64 41) (4 * t) (1) (4 * t) (by kernel_rfl) rfl rfl rfl (v_mul (by omega) (by omega) (by omega)) (
    al_op .mul (.var .i64 1) (.lit .i64 2) (.var .i64 43) (t) (2) (2 * t) (by kernel_rfl) rfl rfl rfl (v_mul (by omega) (by omega) (by omega)) (
    al_op .mul (.var .i64 43) (.lit .i64 1) (.var .i64 43) (2 * t) (1) (2 * t) (by kernel_rfl) rfl rfl rfl (v_mul (by omega) (by omega) (by omega)) (
    al_op .mul (.lit .i64 2) (.var .i64 1) (.var .i64 43) (2) (t) (2 * t) (by kernel_rfl) rfl rfl rfl (v_mul (by omega) (by omega) (by omega)) (
    al_op .add (.var .i64 43) (.lit .i64 2) (.var .i64 45) (2 * t) (2) (2 * t + 2) (by kernel_rfl) rfl rfl rfl (v_add (by omega) (by omega) (by omega)) (
    al_op .mul (.var .i64 1) (.var .i64 45) (.var .i64 46) (t) (2 * t + 2) (t * (2 * t + 2)) (by kernel_rfl) rfl rfl rfl (v_mul (by rfl) (by omega) (by omega)) (
    al_op .mul (.var .i64 46) (.lit .i64 1) (.var .i64 46) (t * (2 * t + 2)) (1) (t * (2 * t + 2)) (by kernel_rfl) rfl rfl rfl (v_mul (by omega) (by omega) (by omega)) (
    al_op .add (.var .i64 0) (.lit .i64 1) (.var .i64 47) (p) (1) (p + 1) (by kernel_rfl) rfl rfl rfl (v_add (by omega) (by omega) (by omega)) (
    al_op .mul (.var .i64 41) (.var .i64 47) (.var .i64 48) (4 * t) (p + 1) (4 * t * (p + 1)) (by kernel_rfl) rfl rfl rfl (v_mul (by rfl) (by omega) (by omega)) (
    al_op .add (.var .i64 43) (.lit .i64 3) (.var .i64 49) (2 * t) (3) (2 * t + 3) (by kernel_rfl) rfl rfl rfl (v_add (by omega) (by omega) (by omega)) (
    al_op .mul (.var .i64 1) (.var .i64 49) (.var .i64 50) (t) (2 * t + 3) (t * (2 * t + 3)) (by kernel_rfl) rfl rfl rfl (v_mul (by rfl) (by omega) (by omega)) (
    al_op .add (.var .i64 48) (.var .i64 50) (.var .i64 51) (4 * t * (p + 1)) (t * (2 * t + 3)) (4 * t * (p + 1) + t * (2 * t + 3)) (by kernel_rfl) rfl rfl rfl (v_add (by omega) (by omega) (by omega)) (
    al_op .mul (.lit .i64 1) (.var .i64 51) (.var .i64 51) (1) (4 * t * (p + 1) + t * (2 * t + 3)) (4 * t * (p + 1) + t * (2 * t + 3)) (by kernel_rfl) rfl rfl rfl (v_mul (by omega) (by omega) (by omega)) (
    al_op .mul (.var .i64 51) (.lit .i64 1) (.var .i64 51) (4 * t * (p + 1) + t * (2 * t + 3)) (1) (4 * t * (p + 1) + t * (2 * t + 3)) (by kernel_rfl) rfl rfl rfl (v_mul (by omega) (by omega) (by omega)) (
    al_op .mul (.var .i64 51) (.lit .i64 8) (.var .i64 52) (4 * t * (p + 1) + t * (2 * t + 3)) (8) (8 * (4 * t * (p + 1) + t * (2 * t + 3))) (by kernel_rfl) rfl rfl rfl (v_mul (by omega) (by omega) (by omega)) (
    al_op .mul (.var .i64 52) (.lit .i64 1) (.var .i64 52) (8 * (4 * t * (p + 1) + t * (2 * t + 3))) (1) (8 * (4 * t * (p + 1) + t * (2 * t + 3))) (by kernel_rfl) rfl rfl rfl (v_mul (by omega) (by omega) (by omega)) (
    al_op .add (.lit .i64 21) (.var .i64 1) (.var .i64 9) (21) (t) (21 + t) (by kernel_rfl) rfl rfl rfl (v_add (by omega) (by omega) (by omega)) (
    al_op .add (.var .i64 9) (.var .i64 0) (.var .i64 10) (21 + t) (p) (21 + t + p) (by kernel_rfl) rfl rfl rfl (v_add (by omega) (by omega) (by omega)) (
    al_op .add (.var .i64 10) (.var .i64 0) (.var .i64 11) (21 + t + p) (p) (21 + t + 2 * p) (by kernel_rfl) rfl rfl rfl (v_add (by omega) (by omega) (by omega)) (
    al_op .add (.var .i64 11) (.var .i64 0) (.var .i64 12) (21 + t + 2 * p) (p) (21 + t + 3 * p) (by kernel_rfl) rfl rfl rfl (v_add (by omega) (by omega) (by omega)) (
    al_op .add (.var .i64 12) (.var .i64 40) (.var .i64 13) (21 + t + 3 * p) (8 * p) (21 + t + 11 * p) (by kernel_rfl) rfl rfl rfl (v_add (by omega) (by omega) (by omega)) (
    al_op .add (.var .i64 13) (.var .i64 40) (.var .i64 14) (21 + t + 11 * p) (8 * p) (21 + t + 19 * p) (by kernel_rfl) rfl rfl rfl (v_add (by omega) (by omega) (by omega)) (
    al_op .add (.var .i64 14) (.var .i64 42) (.var .i64 15) (21 + t + 19 * p) (8 * t) (21 + 9 * t + 19 * p) (by kernel_rfl) rfl rfl rfl (v_add (by omega) (by omega) (by omega)) (
    al_op .add (.var .i64 15) (.var .i64 41) (.var .i64 16) (21 + 9 * t + 19 * p) (4 * t) (21 + 13 * t + 19 * p) (by kernel_rfl) rfl rfl rfl (v_add (by omega) (by omega) (by omega)) (
    al_op .add (.var .i64 16) (.var .i64 43) (.var .i64 17) (21 + 13 * t + 19 * p) (2 * t) (21 + 15 * t + 19 * p) (by kernel_rfl) rfl rfl rfl (v_add (by omega) (by omega) (by omega)) (
    al_op .add (.var .i64 17) (.var .i64 1) (.var .i64 18) (21 + 15 * t + 19 * p) (t) (21 + 16 * t + 19 * p) (by kernel_rfl) rfl rfl rfl (v_add (by omega) (by omega) (by omega)) (
    al_op .add (.var .i64 18) (.var .i64 46) (.var .i64 19) (21 + 16 * t + 19 * p) (t * (2 * t + 2)) (21 + 16 * t + 19 * p + t * (2 * t + 2)) (by kernel_rfl) rfl rfl rfl (v_add (by omega) (by omega) (by omega)) (
    al_op .add (.var .i64 19) (.var .i64 51) (.var .i64 20) (21 + 16 * t + 19 * p + t * (2 * t + 2)) (4 * t * (p + 1) + t * (2 * t + 3)) (21 + 16 * t + 19 * p + t * (2 * t + 2) + (4 * t * (p + 1) + t * (2 * t + 3))) (by kernel_rfl) rfl rfl rfl (v_add (by omega) (by omega) (by omega)) (
    al_op .add (.var .i64 20) (.var .i64 52) (.var .i64 21) (21 + 16 * t + 19 * p + t * (2 * t + 2) + (4 * t * (p + 1) + t * (2 * t + 3))) (8 * (4 * t * (p + 1) + t * (2 * t + 3))) (21 + 16 * t + 19 * p + t * (2 * t + 2) + (4 * t * (p + 1) + t * (2 * t + 3)) + 8 * (4 * t * (p + 1) + t * (2 * t + 3))) (by kernel_rfl) rfl rfl rfl (v_add (by omega) (by omega) (by omega)) (
    AlOk.nil _))))))))))))))))))))))))))))))))))))))
def rC0 : Tm := aT 12 (.var .i64 60) (.var .i64 63) (.lit .i64 0)
def rC1 : Tm := aT 12 (.var .i64 61) (.lit .i64 0) (.lit .i64 0)
def rC2 : Tm := aT 12 (.var .i64 60) (.var .i64 63) (.lit .i64 1)
def rC3 : Tm := aT 13 (.var .i64 60) (.var .i64 63) (.lit .i64 0)
def rC4 : Tm := aT 13 (.var .i64 61) (.lit .i64 0) (.lit .i64 0)
def rC5 : Tm := aT 14 (.var .i64 60) (.lit .i64 1) (.lit .i64 0)
def rC6 : Tm := aT 14 (.var .i64 61) (.lit .i64 0) (.lit .i64 0)
def rC7 : Tm := aT 16 (.var .i64 60) (.var .i64 69) (.lit .i64 0)
def rC8 : Tm := aT 16 (.var .i64 61) (.lit .i64 0) (.lit .i64 0)
def rC9 : Tm := aT 15 (.var .i64 60) (.lit .i64 0) (.lit .i64 0)
def rC10 : Tm := aT 15 (.var .i64 61) (.lit .i64 0) (.lit .i64 0)
def rC11 : Tm := aT 6 (.var .i64 60) (.lit .i64 0) (.lit .i64 0)
def rC12 : Tm := aT 6 (.var .i64 61) (.lit .i64 0) (.lit .i64 0)
def rC13 : Tm := aT 18 (.var .i64 67) (.var .i64 64) (.lit .i64 0)
def rC14 : Tm := aT 18 (.var .i64 68) (.lit .i64 0) (.lit .i64 0)
def rC15 : Tm := aT 17 (.var .i64 67) (.lit .i64 0) (.lit .i64 0)
def rC16 : Tm := aT 17 (.var .i64 68) (.lit .i64 0) (.lit .i64 0)
def rC17 : Tm := aT 18 (.lit .i64 0) (.lit .i64 0) (.lit .i64 0)
def rC18 : Tm := aT 17 (.var .i64 74) (.lit .i64 0) (.lit .i64 0)
def rcodes : List Nat := [rC0.enc, rC1.enc, rC2.enc, rC3.enc, rC4.enc, rC5.enc, rC6.enc, rC7.enc, rC8.enc, rC9.enc, rC10.enc, rC11.enc, rC12.enc, rC13.enc, rC14.enc, rC15.enc, rC16.enc, rC17.enc, rC18.enc]
def rmay (a : Nat) : Bool := rcodes.any fun c => Nat.beq c a
def r32 : Ctr := ⟨32, [.agg geomL, pI, pI, pI, pI], [pI], 100, rmay⟩
theorem r32_may (a : Nat) : r32.may a = rmay a := by kernel_rfl
theorem r32_ok (ty : TypeId) (p t a b c k i j cl sl aa bb : Int) (hp : 1 ≤ p) (hp2 : p ≤ 256) (ht : 1 ≤ t) (ht2 : t ≤ 64) : CtrOk Tryd.prog (rS p t a b c k i j cl sl aa bb) (gsT ty) r32 := by
  intro a0 ns hm he hl w hw
  have hm' := hm
  rw [r32_may] at hm'
  obtain ⟨c0, hc, hb⟩ := List.any_eq_true.1 hm'
  have hca : c0 = a0 := Nat.eq_of_beq_eq_true hb
  rw [← hca] at he
  clear hb hca hm hm'
  rcases List.mem_cons.1 hc with h | hc
  · rw [h] at he
    have e : ev (rS p t a b c k i j cl sl aa bb) rC0.enc = some [p, t, 0, 1, 2, 7, 16, 17, 21, 21 + t, 21 + t + p, 21 + t + 2 * p, 21 + t + 3 * p, 21 + t + 11 * p, 21 + t + 19 * p, 21 + 9 * t + 19 * p, 21 + 13 * t + 19 * p, 21 + 15 * t + 19 * p, 21 + 16 * t + 19 * p, 21 + 16 * t + 19 * p + t * (2 * t + 2), 21 + 16 * t + 19 * p + t * (2 * t + 2) + (4 * t * (p + 1) + t * (2 * t + 3)), 21 + 16 * t + 19 * p + t * (2 * t + 2) + (4 * t * (p + 1) + t * (2 * t + 3)) + 8 * (4 * t * (p + 1) + t * (2 * t + 3)), 12, (a), (c), 0] := (Tm.ev_enc _ rC0 (by kernel_rfl)).trans rfl
    have hn := Option.some.inj (e.symm.trans he)
    clear e he h
    subst hn
    exact at12 p t (a) (c) 0 hp hp2 ht ht2 ty w hw
  rcases List.mem_cons.1 hc with h | hc
  · rw [h] at he
    have e : ev (rS p t a b c k i j cl sl aa bb) rC1.enc = some [p, t, 0, 1, 2, 7, 16, 17, 21, 21 + t, 21 + t + p, 21 + t + 2 * p, 21 + t + 3 * p, 21 + t + 11 * p, 21 + t + 19 * p, 21 + 9 * t + 19 * p, 21 + 13 * t + 19 * p, 21 + 15 * t + 19 * p, 21 + 16 * t + 19 * p, 21 + 16 * t + 19 * p + t * (2 * t + 2), 21 + 16 * t + 19 * p + t * (2 * t + 2) + (4 * t * (p + 1) + t * (2 * t + 3)), 21 + 16 * t + 19 * p + t * (2 * t + 2) + (4 * t * (p + 1) + t * (2 * t + 3)) + 8 * (4 * t * (p + 1) + t * (2 * t + 3)), 12, (b), 0, 0] := (Tm.ev_enc _ rC1 (by kernel_rfl)).trans rfl
    have hn := Option.some.inj (e.symm.trans he)
    clear e he h
    subst hn
    exact at12 p t (b) 0 0 hp hp2 ht ht2 ty w hw
  rcases List.mem_cons.1 hc with h | hc
  · rw [h] at he
    have e : ev (rS p t a b c k i j cl sl aa bb) rC2.enc = some [p, t, 0, 1, 2, 7, 16, 17, 21, 21 + t, 21 + t + p, 21 + t + 2 * p, 21 + t + 3 * p, 21 + t + 11 * p, 21 + t + 19 * p, 21 + 9 * t + 19 * p, 21 + 13 * t + 19 * p, 21 + 15 * t + 19 * p, 21 + 16 * t + 19 * p, 21 + 16 * t + 19 * p + t * (2 * t + 2), 21 + 16 * t + 19 * p + t * (2 * t + 2) + (4 * t * (p + 1) + t * (2 * t + 3)), 21 + 16 * t + 19 * p + t * (2 * t + 2) + (4 * t * (p + 1) + t * (2 * t + 3)) + 8 * (4 * t * (p + 1) + t * (2 * t + 3)), 12, (a), (c), 1] := (Tm.ev_enc _ rC2 (by kernel_rfl)).trans rfl
    have hn := Option.some.inj (e.symm.trans he)
    clear e he h
    subst hn
    exact at12 p t (a) (c) 1 hp hp2 ht ht2 ty w hw
  rcases List.mem_cons.1 hc with h | hc
  · rw [h] at he
    have e : ev (rS p t a b c k i j cl sl aa bb) rC3.enc = some [p, t, 0, 1, 2, 7, 16, 17, 21, 21 + t, 21 + t + p, 21 + t + 2 * p, 21 + t + 3 * p, 21 + t + 11 * p, 21 + t + 19 * p, 21 + 9 * t + 19 * p, 21 + 13 * t + 19 * p, 21 + 15 * t + 19 * p, 21 + 16 * t + 19 * p, 21 + 16 * t + 19 * p + t * (2 * t + 2), 21 + 16 * t + 19 * p + t * (2 * t + 2) + (4 * t * (p + 1) + t * (2 * t + 3)), 21 + 16 * t + 19 * p + t * (2 * t + 2) + (4 * t * (p + 1) + t * (2 * t + 3)) + 8 * (4 * t * (p + 1) + t * (2 * t + 3)), 13, (a), (c), 0] := (Tm.ev_enc _ rC3 (by kernel_rfl)).trans rfl
    have hn := Option.some.inj (e.symm.trans he)
    clear e he h
    subst hn
    exact at13 p t (a) (c) hp hp2 ht ht2 ty w hw
  rcases List.mem_cons.1 hc with h | hc
  · rw [h] at he
    have e : ev (rS p t a b c k i j cl sl aa bb) rC4.enc = some [p, t, 0, 1, 2, 7, 16, 17, 21, 21 + t, 21 + t + p, 21 + t + 2 * p, 21 + t + 3 * p, 21 + t + 11 * p, 21 + t + 19 * p, 21 + 9 * t + 19 * p, 21 + 13 * t + 19 * p, 21 + 15 * t + 19 * p, 21 + 16 * t + 19 * p, 21 + 16 * t + 19 * p + t * (2 * t + 2), 21 + 16 * t + 19 * p + t * (2 * t + 2) + (4 * t * (p + 1) + t * (2 * t + 3)), 21 + 16 * t + 19 * p + t * (2 * t + 2) + (4 * t * (p + 1) + t * (2 * t + 3)) + 8 * (4 * t * (p + 1) + t * (2 * t + 3)), 13, (b), 0, 0] := (Tm.ev_enc _ rC4 (by kernel_rfl)).trans rfl
    have hn := Option.some.inj (e.symm.trans he)
    clear e he h
    subst hn
    exact at13 p t (b) 0 hp hp2 ht ht2 ty w hw
  rcases List.mem_cons.1 hc with h | hc
  · rw [h] at he
    have e : ev (rS p t a b c k i j cl sl aa bb) rC5.enc = some [p, t, 0, 1, 2, 7, 16, 17, 21, 21 + t, 21 + t + p, 21 + t + 2 * p, 21 + t + 3 * p, 21 + t + 11 * p, 21 + t + 19 * p, 21 + 9 * t + 19 * p, 21 + 13 * t + 19 * p, 21 + 15 * t + 19 * p, 21 + 16 * t + 19 * p, 21 + 16 * t + 19 * p + t * (2 * t + 2), 21 + 16 * t + 19 * p + t * (2 * t + 2) + (4 * t * (p + 1) + t * (2 * t + 3)), 21 + 16 * t + 19 * p + t * (2 * t + 2) + (4 * t * (p + 1) + t * (2 * t + 3)) + 8 * (4 * t * (p + 1) + t * (2 * t + 3)), 14, (a), 1, 0] := (Tm.ev_enc _ rC5 (by kernel_rfl)).trans rfl
    have hn := Option.some.inj (e.symm.trans he)
    clear e he h
    subst hn
    exact at14 p t (a) 1 hp hp2 ht ht2 ty w hw
  rcases List.mem_cons.1 hc with h | hc
  · rw [h] at he
    have e : ev (rS p t a b c k i j cl sl aa bb) rC6.enc = some [p, t, 0, 1, 2, 7, 16, 17, 21, 21 + t, 21 + t + p, 21 + t + 2 * p, 21 + t + 3 * p, 21 + t + 11 * p, 21 + t + 19 * p, 21 + 9 * t + 19 * p, 21 + 13 * t + 19 * p, 21 + 15 * t + 19 * p, 21 + 16 * t + 19 * p, 21 + 16 * t + 19 * p + t * (2 * t + 2), 21 + 16 * t + 19 * p + t * (2 * t + 2) + (4 * t * (p + 1) + t * (2 * t + 3)), 21 + 16 * t + 19 * p + t * (2 * t + 2) + (4 * t * (p + 1) + t * (2 * t + 3)) + 8 * (4 * t * (p + 1) + t * (2 * t + 3)), 14, (b), 0, 0] := (Tm.ev_enc _ rC6 (by kernel_rfl)).trans rfl
    have hn := Option.some.inj (e.symm.trans he)
    clear e he h
    subst hn
    exact at14 p t (b) 0 hp hp2 ht ht2 ty w hw
  rcases List.mem_cons.1 hc with h | hc
  · rw [h] at he
    have e : ev (rS p t a b c k i j cl sl aa bb) rC7.enc = some [p, t, 0, 1, 2, 7, 16, 17, 21, 21 + t, 21 + t + p, 21 + t + 2 * p, 21 + t + 3 * p, 21 + t + 11 * p, 21 + t + 19 * p, 21 + 9 * t + 19 * p, 21 + 13 * t + 19 * p, 21 + 15 * t + 19 * p, 21 + 16 * t + 19 * p, 21 + 16 * t + 19 * p + t * (2 * t + 2), 21 + 16 * t + 19 * p + t * (2 * t + 2) + (4 * t * (p + 1) + t * (2 * t + 3)), 21 + 16 * t + 19 * p + t * (2 * t + 2) + (4 * t * (p + 1) + t * (2 * t + 3)) + 8 * (4 * t * (p + 1) + t * (2 * t + 3)), 16, (a), (2 * t + 1), 0] := (Tm.ev_enc _ rC7 (by kernel_rfl)).trans rfl
    have hn := Option.some.inj (e.symm.trans he)
    clear e he h
    subst hn
    exact at16 p t (a) (2 * t + 1) hp hp2 ht ht2 ty w hw
  rcases List.mem_cons.1 hc with h | hc
  · rw [h] at he
    have e : ev (rS p t a b c k i j cl sl aa bb) rC8.enc = some [p, t, 0, 1, 2, 7, 16, 17, 21, 21 + t, 21 + t + p, 21 + t + 2 * p, 21 + t + 3 * p, 21 + t + 11 * p, 21 + t + 19 * p, 21 + 9 * t + 19 * p, 21 + 13 * t + 19 * p, 21 + 15 * t + 19 * p, 21 + 16 * t + 19 * p, 21 + 16 * t + 19 * p + t * (2 * t + 2), 21 + 16 * t + 19 * p + t * (2 * t + 2) + (4 * t * (p + 1) + t * (2 * t + 3)), 21 + 16 * t + 19 * p + t * (2 * t + 2) + (4 * t * (p + 1) + t * (2 * t + 3)) + 8 * (4 * t * (p + 1) + t * (2 * t + 3)), 16, (b), 0, 0] := (Tm.ev_enc _ rC8 (by kernel_rfl)).trans rfl
    have hn := Option.some.inj (e.symm.trans he)
    clear e he h
    subst hn
    exact at16 p t (b) 0 hp hp2 ht ht2 ty w hw
  rcases List.mem_cons.1 hc with h | hc
  · rw [h] at he
    have e : ev (rS p t a b c k i j cl sl aa bb) rC9.enc = some [p, t, 0, 1, 2, 7, 16, 17, 21, 21 + t, 21 + t + p, 21 + t + 2 * p, 21 + t + 3 * p, 21 + t + 11 * p, 21 + t + 19 * p, 21 + 9 * t + 19 * p, 21 + 13 * t + 19 * p, 21 + 15 * t + 19 * p, 21 + 16 * t + 19 * p, 21 + 16 * t + 19 * p + t * (2 * t + 2), 21 + 16 * t + 19 * p + t * (2 * t + 2) + (4 * t * (p + 1) + t * (2 * t + 3)), 21 + 16 * t + 19 * p + t * (2 * t + 2) + (4 * t * (p + 1) + t * (2 * t + 3)) + 8 * (4 * t * (p + 1) + t * (2 * t + 3)), 15, (a), 0, 0] := (Tm.ev_enc _ rC9 (by kernel_rfl)).trans rfl
    have hn := Option.some.inj (e.symm.trans he)
    clear e he h
    subst hn
    exact at15 p t (a) hp hp2 ht ht2 ty w hw
  rcases List.mem_cons.1 hc with h | hc
  · rw [h] at he
    have e : ev (rS p t a b c k i j cl sl aa bb) rC10.enc = some [p, t, 0, 1, 2, 7, 16, 17, 21, 21 + t, 21 + t + p, 21 + t + 2 * p, 21 + t + 3 * p, 21 + t + 11 * p, 21 + t + 19 * p, 21 + 9 * t + 19 * p, 21 + 13 * t + 19 * p, 21 + 15 * t + 19 * p, 21 + 16 * t + 19 * p, 21 + 16 * t + 19 * p + t * (2 * t + 2), 21 + 16 * t + 19 * p + t * (2 * t + 2) + (4 * t * (p + 1) + t * (2 * t + 3)), 21 + 16 * t + 19 * p + t * (2 * t + 2) + (4 * t * (p + 1) + t * (2 * t + 3)) + 8 * (4 * t * (p + 1) + t * (2 * t + 3)), 15, (b), 0, 0] := (Tm.ev_enc _ rC10 (by kernel_rfl)).trans rfl
    have hn := Option.some.inj (e.symm.trans he)
    clear e he h
    subst hn
    exact at15 p t (b) hp hp2 ht ht2 ty w hw
  rcases List.mem_cons.1 hc with h | hc
  · rw [h] at he
    have e : ev (rS p t a b c k i j cl sl aa bb) rC11.enc = some [p, t, 0, 1, 2, 7, 16, 17, 21, 21 + t, 21 + t + p, 21 + t + 2 * p, 21 + t + 3 * p, 21 + t + 11 * p, 21 + t + 19 * p, 21 + 9 * t + 19 * p, 21 + 13 * t + 19 * p, 21 + 15 * t + 19 * p, 21 + 16 * t + 19 * p, 21 + 16 * t + 19 * p + t * (2 * t + 2), 21 + 16 * t + 19 * p + t * (2 * t + 2) + (4 * t * (p + 1) + t * (2 * t + 3)), 21 + 16 * t + 19 * p + t * (2 * t + 2) + (4 * t * (p + 1) + t * (2 * t + 3)) + 8 * (4 * t * (p + 1) + t * (2 * t + 3)), 6, (a), 0, 0] := (Tm.ev_enc _ rC11 (by kernel_rfl)).trans rfl
    have hn := Option.some.inj (e.symm.trans he)
    clear e he h
    subst hn
    exact at6 p t (a) hp hp2 ht ht2 ty w hw
  rcases List.mem_cons.1 hc with h | hc
  · rw [h] at he
    have e : ev (rS p t a b c k i j cl sl aa bb) rC12.enc = some [p, t, 0, 1, 2, 7, 16, 17, 21, 21 + t, 21 + t + p, 21 + t + 2 * p, 21 + t + 3 * p, 21 + t + 11 * p, 21 + t + 19 * p, 21 + 9 * t + 19 * p, 21 + 13 * t + 19 * p, 21 + 15 * t + 19 * p, 21 + 16 * t + 19 * p, 21 + 16 * t + 19 * p + t * (2 * t + 2), 21 + 16 * t + 19 * p + t * (2 * t + 2) + (4 * t * (p + 1) + t * (2 * t + 3)), 21 + 16 * t + 19 * p + t * (2 * t + 2) + (4 * t * (p + 1) + t * (2 * t + 3)) + 8 * (4 * t * (p + 1) + t * (2 * t + 3)), 6, (b), 0, 0] := (Tm.ev_enc _ rC12 (by kernel_rfl)).trans rfl
    have hn := Option.some.inj (e.symm.trans he)
    clear e he h
    subst hn
    exact at6 p t (b) hp hp2 ht ht2 ty w hw
  rcases List.mem_cons.1 hc with h | hc
  · rw [h] at he
    have e : ev (rS p t a b c k i j cl sl aa bb) rC13.enc = some [p, t, 0, 1, 2, 7, 16, 17, 21, 21 + t, 21 + t + p, 21 + t + 2 * p, 21 + t + 3 * p, 21 + t + 11 * p, 21 + t + 19 * p, 21 + 9 * t + 19 * p, 21 + 13 * t + 19 * p, 21 + 15 * t + 19 * p, 21 + 16 * t + 19 * p, 21 + 16 * t + 19 * p + t * (2 * t + 2), 21 + 16 * t + 19 * p + t * (2 * t + 2) + (4 * t * (p + 1) + t * (2 * t + 3)), 21 + 16 * t + 19 * p + t * (2 * t + 2) + (4 * t * (p + 1) + t * (2 * t + 3)) + 8 * (4 * t * (p + 1) + t * (2 * t + 3)), 18, (i), (k), 0] := (Tm.ev_enc _ rC13 (by kernel_rfl)).trans rfl
    have hn := Option.some.inj (e.symm.trans he)
    clear e he h
    subst hn
    exact at18 p t (i) (k) hp hp2 ht ht2 ty w hw
  rcases List.mem_cons.1 hc with h | hc
  · rw [h] at he
    have e : ev (rS p t a b c k i j cl sl aa bb) rC14.enc = some [p, t, 0, 1, 2, 7, 16, 17, 21, 21 + t, 21 + t + p, 21 + t + 2 * p, 21 + t + 3 * p, 21 + t + 11 * p, 21 + t + 19 * p, 21 + 9 * t + 19 * p, 21 + 13 * t + 19 * p, 21 + 15 * t + 19 * p, 21 + 16 * t + 19 * p, 21 + 16 * t + 19 * p + t * (2 * t + 2), 21 + 16 * t + 19 * p + t * (2 * t + 2) + (4 * t * (p + 1) + t * (2 * t + 3)), 21 + 16 * t + 19 * p + t * (2 * t + 2) + (4 * t * (p + 1) + t * (2 * t + 3)) + 8 * (4 * t * (p + 1) + t * (2 * t + 3)), 18, (j), 0, 0] := (Tm.ev_enc _ rC14 (by kernel_rfl)).trans rfl
    have hn := Option.some.inj (e.symm.trans he)
    clear e he h
    subst hn
    exact at18 p t (j) 0 hp hp2 ht ht2 ty w hw
  rcases List.mem_cons.1 hc with h | hc
  · rw [h] at he
    have e : ev (rS p t a b c k i j cl sl aa bb) rC15.enc = some [p, t, 0, 1, 2, 7, 16, 17, 21, 21 + t, 21 + t + p, 21 + t + 2 * p, 21 + t + 3 * p, 21 + t + 11 * p, 21 + t + 19 * p, 21 + 9 * t + 19 * p, 21 + 13 * t + 19 * p, 21 + 15 * t + 19 * p, 21 + 16 * t + 19 * p, 21 + 16 * t + 19 * p + t * (2 * t + 2), 21 + 16 * t + 19 * p + t * (2 * t + 2) + (4 * t * (p + 1) + t * (2 * t + 3)), 21 + 16 * t + 19 * p + t * (2 * t + 2) + (4 * t * (p + 1) + t * (2 * t + 3)) + 8 * (4 * t * (p + 1) + t * (2 * t + 3)), 17, (i), 0, 0] := (Tm.ev_enc _ rC15 (by kernel_rfl)).trans rfl
    have hn := Option.some.inj (e.symm.trans he)
    clear e he h
    subst hn
    exact at17 p t (i) hp hp2 ht ht2 ty w hw
  rcases List.mem_cons.1 hc with h | hc
  · rw [h] at he
    have e : ev (rS p t a b c k i j cl sl aa bb) rC16.enc = some [p, t, 0, 1, 2, 7, 16, 17, 21, 21 + t, 21 + t + p, 21 + t + 2 * p, 21 + t + 3 * p, 21 + t + 11 * p, 21 + t + 19 * p, 21 + 9 * t + 19 * p, 21 + 13 * t + 19 * p, 21 + 15 * t + 19 * p, 21 + 16 * t + 19 * p, 21 + 16 * t + 19 * p + t * (2 * t + 2), 21 + 16 * t + 19 * p + t * (2 * t + 2) + (4 * t * (p + 1) + t * (2 * t + 3)), 21 + 16 * t + 19 * p + t * (2 * t + 2) + (4 * t * (p + 1) + t * (2 * t + 3)) + 8 * (4 * t * (p + 1) + t * (2 * t + 3)), 17, (j), 0, 0] := (Tm.ev_enc _ rC16 (by kernel_rfl)).trans rfl
    have hn := Option.some.inj (e.symm.trans he)
    clear e he h
    subst hn
    exact at17 p t (j) hp hp2 ht ht2 ty w hw
  rcases List.mem_cons.1 hc with h | hc
  · rw [h] at he
    have e : ev (rS p t a b c k i j cl sl aa bb) rC17.enc = some [p, t, 0, 1, 2, 7, 16, 17, 21, 21 + t, 21 + t + p, 21 + t + 2 * p, 21 + t + 3 * p, 21 + t + 11 * p, 21 + t + 19 * p, 21 + 9 * t + 19 * p, 21 + 13 * t + 19 * p, 21 + 15 * t + 19 * p, 21 + 16 * t + 19 * p, 21 + 16 * t + 19 * p + t * (2 * t + 2), 21 + 16 * t + 19 * p + t * (2 * t + 2) + (4 * t * (p + 1) + t * (2 * t + 3)), 21 + 16 * t + 19 * p + t * (2 * t + 2) + (4 * t * (p + 1) + t * (2 * t + 3)) + 8 * (4 * t * (p + 1) + t * (2 * t + 3)), 18, 0, 0, 0] := (Tm.ev_enc _ rC17 (by kernel_rfl)).trans rfl
    have hn := Option.some.inj (e.symm.trans he)
    clear e he h
    subst hn
    exact at18 p t 0 0 hp hp2 ht ht2 ty w hw
  rcases List.mem_cons.1 hc with h | hc
  · rw [h] at he
    have e : ev (rS p t a b c k i j cl sl aa bb) rC18.enc = some [p, t, 0, 1, 2, 7, 16, 17, 21, 21 + t, 21 + t + p, 21 + t + 2 * p, 21 + t + 3 * p, 21 + t + 11 * p, 21 + t + 19 * p, 21 + 9 * t + 19 * p, 21 + 13 * t + 19 * p, 21 + 15 * t + 19 * p, 21 + 16 * t + 19 * p, 21 + 16 * t + 19 * p + t * (2 * t + 2), 21 + 16 * t + 19 * p + t * (2 * t + 2) + (4 * t * (p + 1) + t * (2 * t + 3)), 21 + 16 * t + 19 * p + t * (2 * t + 2) + (4 * t * (p + 1) + t * (2 * t + 3)) + 8 * (4 * t * (p + 1) + t * (2 * t + 3)), 17, ((4 * t * (p + 1) + t * (2 * t + 3)) - 1), 0, 0] := (Tm.ev_enc _ rC18 (by kernel_rfl)).trans rfl
    have hn := Option.some.inj (e.symm.trans he)
    clear e he h
    subst hn
    exact at17 p t ((4 * t * (p + 1) + t * (2 * t + 3)) - 1) hp hp2 ht ht2 ty w hw
  exact absurd hc List.not_mem_nil
theorem r28_ok (ty : TypeId) (p t a b c k i j cl sl aa bb : Int) : CtrOk Tryd.prog (rS p t a b c k i j cl sl aa bb) (gsT ty) c28 := by
  intro a ns _ _ hl w hw
  obtain rfl := len0 (show ns.length = 0 from hl)
  exact awake_any ty w hw
theorem rs_ok (ty : TypeId) (p t a b c k i j cl sl aa bb : Int) (hp : 1 ≤ p) (hp2 : p ≤ 256) (ht : 1 ≤ t) (ht2 : t ≤ 64) : ∀ c0 ∈ [r32, c28], CtrOk Tryd.prog (rS p t a b c k i j cl sl aa bb) (gsT ty) c0 := by
  intro c0 hc
  rcases List.mem_cons.1 hc with h | hc
  · rw [h]; exact r32_ok ty p t a b c k i j cl sl aa bb hp hp2 ht ht2
  rcases List.mem_cons.1 hc with h | hc
  · rw [h]; exact r28_ok ty p t a b c k i j cl sl aa bb
  exact absurd hc List.not_mem_nil
theorem r28s_ok (ty : TypeId) (p t a b c k i j cl sl aa bb : Int) : ∀ c0 ∈ [c28], CtrOk Tryd.prog (rS p t a b c k i j cl sl aa bb) (gsT ty) c0 := by
  intro c0 hc
  rcases List.mem_cons.1 hc with h | hc
  · rw [h]; exact r28_ok ty p t a b c k i j cl sl aa bb
  exact absurd hc List.not_mem_nil
def awT : Tm := .appB 90 .nil
theorem den_k {S : Sy} {X : Tm} {x y : Int} (k : IntKind) (hx : X.den S = some [x]) (h : k.wrap x = y) : (Tm.conv k X).den S = some [y] := by
  simp only [Tm.den, hx, h]
end Go.Proofs.YtacdbgepncimgabDoor
