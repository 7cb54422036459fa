/-
  Stage 2: at, as a contract for the calls of GeomWithin; where its answers lie. Conditions: 1 to 256 pages, 1 to 64 threads.
-/
import Derived.Test.YtacdbgepncimgabDoorG2
import Derived.Test.YtacdbgepncimgabDoorG3
namespace Go.Proofs.YtacdbgepncimgabDoor
open Go.Ev Go.RowKit
set_option maxRecDepth 100000
def aT (r : Int) (x y z : Tm) : Tm := (.cons (.var .i64 0) (.cons (.var .i64 1) (.cons (.lit .i64 0) (.cons (.lit .i64 1) (.cons (.lit .i64 2) (.cons (.lit .i64 7) (.cons (.lit .i64 16) (.cons (.lit .i64 17) (.cons (.lit .i64 21) (.cons (.var .i64 9) (.cons (.var .i64 10) (.cons (.var .i64 11) (.cons (.var .i64 12) (.cons (.var .i64 13) (.cons (.var .i64 14) (.cons (.var .i64 15) (.cons (.var .i64 16) (.cons (.var .i64 17) (.cons (.var .i64 18) (.cons (.var .i64 19) (.cons (.var .i64 20) (.cons (.var .i64 21) (.cons (.lit .i64 r) (.cons x (.cons y (.cons z .nil))))))))))))))))))))))))))
def aC0 : Tm := aT 2 (.var .i64 60) (.lit .i64 0) (.lit .i64 0)
def aC1 : Tm := aT 3 (.var .i64 60) (.lit .i64 0) (.lit .i64 0)
def aC2 : Tm := aT 5 (.var .i64 60) (.lit .i64 0) (.lit .i64 0)
def aC3 : Tm := aT 6 (.var .i64 60) (.lit .i64 0) (.lit .i64 0)
def aC4 : Tm := aT 7 (.var .i64 60) (.lit .i64 0) (.lit .i64 0)
def aC5 : Tm := aT 8 (.var .i64 60) (.lit .i64 0) (.lit .i64 0)
def aC6 : Tm := aT 9 (.var .i64 60) (.lit .i64 0) (.lit .i64 0)
def aC7 : Tm := aT 10 (.var .i64 60) (.lit .i64 0) (.lit .i64 0)
def aC8 : Tm := aT 11 (.var .i64 60) (.lit .i64 0) (.lit .i64 0)
def aC9 : Tm := aT 12 (.var .i64 60) (.var .i64 61) (.var .i64 62)
def aC10 : Tm := aT 13 (.var .i64 60) (.var .i64 61) (.lit .i64 0)
def aC11 : Tm := aT 14 (.var .i64 60) (.var .i64 61) (.lit .i64 0)
def aC12 : Tm := aT 15 (.var .i64 60) (.lit .i64 0) (.lit .i64 0)
def aC13 : Tm := aT 16 (.var .i64 60) (.var .i64 61) (.lit .i64 0)
def aC14 : Tm := aT 17 (.bin .sub (.var .i64 60) (.lit .i64 1)) (.lit .i64 0) (.lit .i64 0)
def aC15 : Tm := aT 18 (.bin .sub (.var .i64 60) (.lit .i64 1)) (.var .i64 61) (.lit .i64 0)
def codes : List Nat := [aC0.enc, aC1.enc, aC2.enc, aC3.enc, aC4.enc, aC5.enc, aC6.enc, aC7.enc, aC8.enc, aC9.enc, aC10.enc, aC11.enc, aC12.enc, aC13.enc, aC14.enc, aC15.enc]
def mayAt (a : Nat) : Bool := codes.any fun c => Nat.beq c a
def geomL : List Lf := [Lf.int .i64, Lf.int .i64, Lf.int .i64, Lf.int .i64, Lf.int .i64, Lf.int .i64, Lf.int .i64, Lf.int .i64, Lf.int .i64, Lf.int .i64, Lf.int .i64, Lf.int .i64, Lf.int .i64, Lf.int .i64, Lf.int .i64, Lf.int .i64, Lf.int .i64, Lf.int .i64, Lf.int .i64, Lf.int .i64, Lf.int .i64, Lf.int .i64]
def pI : Pm := .one (.int .i64)
def c32 : Ctr := ⟨32, [.agg geomL, pI, pI, pI, pI], [pI], 100, mayAt⟩
def yes (_ : Nat) : Bool := true
def c28 : Ctr := ⟨28, [], [.one .bool], 90, yes⟩
theorem awakeRun (t : TypeId) (G : Nat → Option Obj) : outIs true (run0 Tryd.prog (ftOf Tryd.prog) no G 1000 (.fn 28 #[]) (H0g Tryd.prog (gsT t))) = true := by kernel_rfl
theorem awake_any (ty : TypeId) (w : World) (hw : GOk Tryd.prog (gsT ty) w) : Calls Tryd.prog 28 #[] w fun e w' => e = .returned (.bool true) ∧ Quiet w w' :=
  closed0 env (K := no) (n := 1000) (gs := gsT ty) (b := true) (by kernel_rfl) w (fun _ _ _ h => by simp [no] at h) (fun G => awakeRun ty G) hw
theorem c28_ok (ty : TypeId) (p t x y z : Int) : CtrOk Tryd.prog (gS p t x y z) (gsT ty) c28 := by
  intro a ns _ _ hl w hw
  obtain rfl := len0 (show ns.length = 0 from hl)
  exact awake_any ty w hw
theorem c32_may (a : Nat) : c32.may a = mayAt a := by kernel_rfl
theorem c32_ok (ty : TypeId) (p t x y z : Int) (hp : 1 ≤ p) (hp2 : p ≤ 256) (ht : 1 ≤ t) (ht2 : t ≤ 64) : CtrOk Tryd.prog (gS p t x y z) (gsT ty) c32 := by
  intro a ns hm he hl w hw
  have hm' := hm
  rw [c32_may] at hm'
  obtain ⟨c, hc, hb⟩ := List.any_eq_true.1 hm'
  have hca : c = a := Nat.eq_of_beq_eq_true hb
  rw [← hca] at he
  clear hb hca hm hm'
  rcases List.mem_cons.1 hc with h | hc
  · rw [h] at he
    have e : ev (gS p t x y z) aC0.enc = some [p, t, 0, 1, 2, 7, 16, 17, 21, 21 + t, 21 + t + p, 21 + t + 2 * p, 21 + t + 3 * p, 21 + t + 11 * p, 21 + t + 19 * p, 21 + 9 * t + 19 * p, 21 + 13 * t + 19 * p, 21 + 15 * t + 19 * p, 21 + 16 * t + 19 * p, 21 + 16 * t + 19 * p + t * (2 * t + 2), 21 + 16 * t + 19 * p + t * (2 * t + 2) + (4 * t * (p + 1) + t * (2 * t + 3)), 21 + 16 * t + 19 * p + t * (2 * t + 2) + (4 * t * (p + 1) + t * (2 * t + 3)) + 8 * (4 * t * (p + 1) + t * (2 * t + 3)), 2, x, 0, 0] := (Tm.ev_enc _ aC0 (by kernel_rfl)).trans rfl
    have hn := Option.some.inj (e.symm.trans he)
    clear e he h
    subst hn
    exact at2 p t (x) hp hp2 ht ht2 ty w hw
  rcases List.mem_cons.1 hc with h | hc
  · rw [h] at he
    have e : ev (gS p t x y z) aC1.enc = some [p, t, 0, 1, 2, 7, 16, 17, 21, 21 + t, 21 + t + p, 21 + t + 2 * p, 21 + t + 3 * p, 21 + t + 11 * p, 21 + t + 19 * p, 21 + 9 * t + 19 * p, 21 + 13 * t + 19 * p, 21 + 15 * t + 19 * p, 21 + 16 * t + 19 * p, 21 + 16 * t + 19 * p + t * (2 * t + 2), 21 + 16 * t + 19 * p + t * (2 * t + 2) + (4 * t * (p + 1) + t * (2 * t + 3)), 21 + 16 * t + 19 * p + t * (2 * t + 2) + (4 * t * (p + 1) + t * (2 * t + 3)) + 8 * (4 * t * (p + 1) + t * (2 * t + 3)), 3, x, 0, 0] := (Tm.ev_enc _ aC1 (by kernel_rfl)).trans rfl
    have hn := Option.some.inj (e.symm.trans he)
    clear e he h
    subst hn
    exact at3 p t (x) hp hp2 ht ht2 ty w hw
  rcases List.mem_cons.1 hc with h | hc
  · rw [h] at he
    have e : ev (gS p t x y z) aC2.enc = some [p, t, 0, 1, 2, 7, 16, 17, 21, 21 + t, 21 + t + p, 21 + t + 2 * p, 21 + t + 3 * p, 21 + t + 11 * p, 21 + t + 19 * p, 21 + 9 * t + 19 * p, 21 + 13 * t + 19 * p, 21 + 15 * t + 19 * p, 21 + 16 * t + 19 * p, 21 + 16 * t + 19 * p + t * (2 * t + 2), 21 + 16 * t + 19 * p + t * (2 * t + 2) + (4 * t * (p + 1) + t * (2 * t + 3)), 21 + 16 * t + 19 * p + t * (2 * t + 2) + (4 * t * (p + 1) + t * (2 * t + 3)) + 8 * (4 * t * (p + 1) + t * (2 * t + 3)), 5, x, 0, 0] := (Tm.ev_enc _ aC2 (by kernel_rfl)).trans rfl
    have hn := Option.some.inj (e.symm.trans he)
    clear e he h
    subst hn
    exact at5 p t (x) hp hp2 ht ht2 ty w hw
  rcases List.mem_cons.1 hc with h | hc
  · rw [h] at he
    have e : ev (gS p t x y z) aC3.enc = some [p, t, 0, 1, 2, 7, 16, 17, 21, 21 + t, 21 + t + p, 21 + t + 2 * p, 21 + t + 3 * p, 21 + t + 11 * p, 21 + t + 19 * p, 21 + 9 * t + 19 * p, 21 + 13 * t + 19 * p, 21 + 15 * t + 19 * p, 21 + 16 * t + 19 * p, 21 + 16 * t + 19 * p + t * (2 * t + 2), 21 + 16 * t + 19 * p + t * (2 * t + 2) + (4 * t * (p + 1) + t * (2 * t + 3)), 21 + 16 * t + 19 * p + t * (2 * t + 2) + (4 * t * (p + 1) + t * (2 * t + 3)) + 8 * (4 * t * (p + 1) + t * (2 * t + 3)), 6, x, 0, 0] := (Tm.ev_enc _ aC3 (by kernel_rfl)).trans rfl
    have hn := Option.some.inj (e.symm.trans he)
    clear e he h
    subst hn
    exact at6 p t (x) hp hp2 ht ht2 ty w hw
  rcases List.mem_cons.1 hc with h | hc
  · rw [h] at he
    have e : ev (gS p t x y z) aC4.enc = some [p, t, 0, 1, 2, 7, 16, 17, 21, 21 + t, 21 + t + p, 21 + t + 2 * p, 21 + t + 3 * p, 21 + t + 11 * p, 21 + t + 19 * p, 21 + 9 * t + 19 * p, 21 + 13 * t + 19 * p, 21 + 15 * t + 19 * p, 21 + 16 * t + 19 * p, 21 + 16 * t + 19 * p + t * (2 * t + 2), 21 + 16 * t + 19 * p + t * (2 * t + 2) + (4 * t * (p + 1) + t * (2 * t + 3)), 21 + 16 * t + 19 * p + t * (2 * t + 2) + (4 * t * (p + 1) + t * (2 * t + 3)) + 8 * (4 * t * (p + 1) + t * (2 * t + 3)), 7, x, 0, 0] := (Tm.ev_enc _ aC4 (by kernel_rfl)).trans rfl
    have hn := Option.some.inj (e.symm.trans he)
    clear e he h
    subst hn
    exact at7 p t (x) hp hp2 ht ht2 ty w hw
  rcases List.mem_cons.1 hc with h | hc
  · rw [h] at he
    have e : ev (gS p t x y z) aC5.enc = some [p, t, 0, 1, 2, 7, 16, 17, 21, 21 + t, 21 + t + p, 21 + t + 2 * p, 21 + t + 3 * p, 21 + t + 11 * p, 21 + t + 19 * p, 21 + 9 * t + 19 * p, 21 + 13 * t + 19 * p, 21 + 15 * t + 19 * p, 21 + 16 * t + 19 * p, 21 + 16 * t + 19 * p + t * (2 * t + 2), 21 + 16 * t + 19 * p + t * (2 * t + 2) + (4 * t * (p + 1) + t * (2 * t + 3)), 21 + 16 * t + 19 * p + t * (2 * t + 2) + (4 * t * (p + 1) + t * (2 * t + 3)) + 8 * (4 * t * (p + 1) + t * (2 * t + 3)), 8, x, 0, 0] := (Tm.ev_enc _ aC5 (by kernel_rfl)).trans rfl
    have hn := Option.some.inj (e.symm.trans he)
    clear e he h
    subst hn
    exact at8 p t (x) hp hp2 ht ht2 ty w hw
  rcases List.mem_cons.1 hc with h | hc
  · rw [h] at he
    have e : ev (gS p t x y z) aC6.enc = some [p, t, 0, 1, 2, 7, 16, 17, 21, 21 + t, 21 + t + p, 21 + t + 2 * p, 21 + t + 3 * p, 21 + t + 11 * p, 21 + t + 19 * p, 21 + 9 * t + 19 * p, 21 + 13 * t + 19 * p, 21 + 15 * t + 19 * p, 21 + 16 * t + 19 * p, 21 + 16 * t + 19 * p + t * (2 * t + 2), 21 + 16 * t + 19 * p + t * (2 * t + 2) + (4 * t * (p + 1) + t * (2 * t + 3)), 21 + 16 * t + 19 * p + t * (2 * t + 2) + (4 * t * (p + 1) + t * (2 * t + 3)) + 8 * (4 * t * (p + 1) + t * (2 * t + 3)), 9, x, 0, 0] := (Tm.ev_enc _ aC6 (by kernel_rfl)).trans rfl
    have hn := Option.some.inj (e.symm.trans he)
    clear e he h
    subst hn
    exact at9 p t (x) hp hp2 ht ht2 ty w hw
  rcases List.mem_cons.1 hc with h | hc
  · rw [h] at he
    have e : ev (gS p t x y z) aC7.enc = some [p, t, 0, 1, 2, 7, 16, 17, 21, 21 + t, 21 + t + p, 21 + t + 2 * p, 21 + t + 3 * p, 21 + t + 11 * p, 21 + t + 19 * p, 21 + 9 * t + 19 * p, 21 + 13 * t + 19 * p, 21 + 15 * t + 19 * p, 21 + 16 * t + 19 * p, 21 + 16 * t + 19 * p + t * (2 * t + 2), 21 + 16 * t + 19 * p + t * (2 * t + 2) + (4 * t * (p + 1) + t * (2 * t + 3)), 21 + 16 * t + 19 * p + t * (2 * t + 2) + (4 * t * (p + 1) + t * (2 * t + 3)) + 8 * (4 * t * (p + 1) + t * (2 * t + 3)), 10, x, 0, 0] := (Tm.ev_enc _ aC7 (by kernel_rfl)).trans rfl
    have hn := Option.some.inj (e.symm.trans he)
    clear e he h
    subst hn
    exact at10 p t (x) hp hp2 ht ht2 ty w hw
  rcases List.mem_cons.1 hc with h | hc
  · rw [h] at he
    have e : ev (gS p t x y z) aC8.enc = some [p, t, 0, 1, 2, 7, 16, 17, 21, 21 + t, 21 + t + p, 21 + t + 2 * p, 21 + t + 3 * p, 21 + t + 11 * p, 21 + t + 19 * p, 21 + 9 * t + 19 * p, 21 + 13 * t + 19 * p, 21 + 15 * t + 19 * p, 21 + 16 * t + 19 * p, 21 + 16 * t + 19 * p + t * (2 * t + 2), 21 + 16 * t + 19 * p + t * (2 * t + 2) + (4 * t * (p + 1) + t * (2 * t + 3)), 21 + 16 * t + 19 * p + t * (2 * t + 2) + (4 * t * (p + 1) + t * (2 * t + 3)) + 8 * (4 * t * (p + 1) + t * (2 * t + 3)), 11, x, 0, 0] := (Tm.ev_enc _ aC8 (by kernel_rfl)).trans rfl
    have hn := Option.some.inj (e.symm.trans he)
    clear e he h
    subst hn
    exact at11 p t (x) hp hp2 ht ht2 ty w hw
  rcases List.mem_cons.1 hc with h | hc
  · rw [h] at he
    have e : ev (gS p t x y z) aC9.enc = some [p, t, 0, 1, 2, 7, 16, 17, 21, 21 + t, 21 + t + p, 21 + t + 2 * p, 21 + t + 3 * p, 21 + t + 11 * p, 21 + t + 19 * p, 21 + 9 * t + 19 * p, 21 + 13 * t + 19 * p, 21 + 15 * t + 19 * p, 21 + 16 * t + 19 * p, 21 + 16 * t + 19 * p + t * (2 * t + 2), 21 + 16 * t + 19 * p + t * (2 * t + 2) + (4 * t * (p + 1) + t * (2 * t + 3)), 21 + 16 * t + 19 * p + t * (2 * t + 2) + (4 * t * (p + 1) + t * (2 * t + 3)) + 8 * (4 * t * (p + 1) + t * (2 * t + 3)), 12, x, y, z] := (Tm.ev_enc _ aC9 (by kernel_rfl)).trans rfl
    have hn := Option.some.inj (e.symm.trans he)
    clear e he h
    subst hn
    exact at12 p t (x) (y) (z) hp hp2 ht ht2 ty w hw
  rcases List.mem_cons.1 hc with h | hc
  · rw [h] at he
    have e : ev (gS p t x y z) aC10.enc = some [p, t, 0, 1, 2, 7, 16, 17, 21, 21 + t, 21 + t + p, 21 + t + 2 * p, 21 + t + 3 * p, 21 + t + 11 * p, 21 + t + 19 * p, 21 + 9 * t + 19 * p, 21 + 13 * t + 19 * p, 21 + 15 * t + 19 * p, 21 + 16 * t + 19 * p, 21 + 16 * t + 19 * p + t * (2 * t + 2), 21 + 16 * t + 19 * p + t * (2 * t + 2) + (4 * t * (p + 1) + t * (2 * t + 3)), 21 + 16 * t + 19 * p + t * (2 * t + 2) + (4 * t * (p + 1) + t * (2 * t + 3)) + 8 * (4 * t * (p + 1) + t * (2 * t + 3)), 13, x, y, 0] := (Tm.ev_enc _ aC10 (by kernel_rfl)).trans rfl
    have hn := Option.some.inj (e.symm.trans he)
    clear e he h
    subst hn
    exact at13 p t (x) (y) hp hp2 ht ht2 ty w hw
  rcases List.mem_cons.1 hc with h | hc
  · rw [h] at he
    have e : ev (gS p t x y z) aC11.enc = some [p, t, 0, 1, 2, 7, 16, 17, 21, 21 + t, 21 + t + p, 21 + t + 2 * p, 21 + t + 3 * p, 21 + t + 11 * p, 21 + t + 19 * p, 21 + 9 * t + 19 * p, 21 + 13 * t + 19 * p, 21 + 15 * t + 19 * p, 21 + 16 * t + 19 * p, 21 + 16 * t + 19 * p + t * (2 * t + 2), 21 + 16 * t + 19 * p + t * (2 * t + 2) + (4 * t * (p + 1) + t * (2 * t + 3)), 21 + 16 * t + 19 * p + t * (2 * t + 2) + (4 * t * (p + 1) + t * (2 * t + 3)) + 8 * (4 * t * (p + 1) + t * (2 * t + 3)), 14, x, y, 0] := (Tm.ev_enc _ aC11 (by kernel_rfl)).trans rfl
    have hn := Option.some.inj (e.symm.trans he)
    clear e he h
    subst hn
    exact at14 p t (x) (y) hp hp2 ht ht2 ty w hw
  rcases List.mem_cons.1 hc with h | hc
  · rw [h] at he
    have e : ev (gS p t x y z) aC12.enc = some [p, t, 0, 1, 2, 7, 16, 17, 21, 21 + t, 21 + t + p, 21 + t + 2 * p, 21 + t + 3 * p, 21 + t + 11 * p, 21 + t + 19 * p, 21 + 9 * t + 19 * p, 21 + 13 * t + 19 * p, 21 + 15 * t + 19 * p, 21 + 16 * t + 19 * p, 21 + 16 * t + 19 * p + t * (2 * t + 2), 21 + 16 * t + 19 * p + t * (2 * t + 2) + (4 * t * (p + 1) + t * (2 * t + 3)), 21 + 16 * t + 19 * p + t * (2 * t + 2) + (4 * t * (p + 1) + t * (2 * t + 3)) + 8 * (4 * t * (p + 1) + t * (2 * t + 3)), 15, x, 0, 0] := (Tm.ev_enc _ aC12 (by kernel_rfl)).trans rfl
    have hn := Option.some.inj (e.symm.trans he)
    clear e he h
    subst hn
    exact at15 p t (x) hp hp2 ht ht2 ty w hw
  rcases List.mem_cons.1 hc with h | hc
  · rw [h] at he
    have e : ev (gS p t x y z) aC13.enc = some [p, t, 0, 1, 2, 7, 16, 17, 21, 21 + t, 21 + t + p, 21 + t + 2 * p, 21 + t + 3 * p, 21 + t + 11 * p, 21 + t + 19 * p, 21 + 9 * t + 19 * p, 21 + 13 * t + 19 * p, 21 + 15 * t + 19 * p, 21 + 16 * t + 19 * p, 21 + 16 * t + 19 * p + t * (2 * t + 2), 21 + 16 * t + 19 * p + t * (2 * t + 2) + (4 * t * (p + 1) + t * (2 * t + 3)), 21 + 16 * t + 19 * p + t * (2 * t + 2) + (4 * t * (p + 1) + t * (2 * t + 3)) + 8 * (4 * t * (p + 1) + t * (2 * t + 3)), 16, x, y, 0] := (Tm.ev_enc _ aC13 (by kernel_rfl)).trans rfl
    have hn := Option.some.inj (e.symm.trans he)
    clear e he h
    subst hn
    exact at16 p t (x) (y) hp hp2 ht ht2 ty w hw
  rcases List.mem_cons.1 hc with h | hc
  · rw [h] at he
    have e : ev (gS p t x y z) aC14.enc = some [p, t, 0, 1, 2, 7, 16, 17, 21, 21 + t, 21 + t + p, 21 + t + 2 * p, 21 + t + 3 * p, 21 + t + 11 * p, 21 + t + 19 * p, 21 + 9 * t + 19 * p, 21 + 13 * t + 19 * p, 21 + 15 * t + 19 * p, 21 + 16 * t + 19 * p, 21 + 16 * t + 19 * p + t * (2 * t + 2), 21 + 16 * t + 19 * p + t * (2 * t + 2) + (4 * t * (p + 1) + t * (2 * t + 3)), 21 + 16 * t + 19 * p + t * (2 * t + 2) + (4 * t * (p + 1) + t * (2 * t + 3)) + 8 * (4 * t * (p + 1) + t * (2 * t + 3)), 17, IntKind.i64.wrap (x - 1), 0, 0] := (Tm.ev_enc _ aC14 (by kernel_rfl)).trans rfl
    have hn := Option.some.inj (e.symm.trans he)
    clear e he h
    subst hn
    exact at17 p t (IntKind.i64.wrap (x - 1)) hp hp2 ht ht2 ty w hw
  rcases List.mem_cons.1 hc with h | hc
  · rw [h] at he
    have e : ev (gS p t x y z) aC15.enc = some [p, t, 0, 1, 2, 7, 16, 17, 21, 21 + t, 21 + t + p, 21 + t + 2 * p, 21 + t + 3 * p, 21 + t + 11 * p, 21 + t + 19 * p, 21 + 9 * t + 19 * p, 21 + 13 * t + 19 * p, 21 + 15 * t + 19 * p, 21 + 16 * t + 19 * p, 21 + 16 * t + 19 * p + t * (2 * t + 2), 21 + 16 * t + 19 * p + t * (2 * t + 2) + (4 * t * (p + 1) + t * (2 * t + 3)), 21 + 16 * t + 19 * p + t * (2 * t + 2) + (4 * t * (p + 1) + t * (2 * t + 3)) + 8 * (4 * t * (p + 1) + t * (2 * t + 3)), 18, IntKind.i64.wrap (x - 1), y, 0] := (Tm.ev_enc _ aC15 (by kernel_rfl)).trans rfl
    have hn := Option.some.inj (e.symm.trans he)
    clear e he h
    subst hn
    exact at18 p t (IntKind.i64.wrap (x - 1)) (y) hp hp2 ht ht2 ty w hw
  exact absurd hc List.not_mem_nil
theorem ret_le (x t : Int) (h0 : 0 ≤ x) (h1 : x < t) : 0 ≤ x * (2 * t + 2) ∧ x * (2 * t + 2) + (2 * t + 2) ≤ t * (2 * t + 2) := by
  refine ⟨Int.mul_nonneg h0 (by omega), ?_⟩
  have := Int.mul_le_mul_of_nonneg_right (show x + 1 ≤ t by omega) (show 0 ≤ 2 * t + 2 by omega)
  rw [Int.add_mul, Int.one_mul] at this
  exact this
theorem in2 (p t x : Int) (hp : 1 ≤ p) (hp2 : p ≤ 256) (ht : 1 ≤ t) (ht2 : t ≤ 64) : -1 ≤ atV p t 2 x 0 0 ∧ atV p t 2 x 0 0 < 21 + 16 * t + 19 * p + t * (2 * t + 2) + (4 * t * (p + 1) + t * (2 * t + 3)) + 8 * (4 * t * (p + 1) + t * (2 * t + 3)) := by
  obtain ⟨⟨r1, r2⟩, ⟨k1, k2⟩, l1, l2⟩ := big p t hp hp2 ht ht2
  simp only [atV, place, dims, base]
  split
  · omega
  · omega
theorem neg2 (p t x : Int) (h : x < 0) : atV p t 2 x 0 0 = -1 := by simp [atV, place, dims, h]
theorem in3 (p t x : Int) (hp : 1 ≤ p) (hp2 : p ≤ 256) (ht : 1 ≤ t) (ht2 : t ≤ 64) : -1 ≤ atV p t 3 x 0 0 ∧ atV p t 3 x 0 0 < 21 + 16 * t + 19 * p + t * (2 * t + 2) + (4 * t * (p + 1) + t * (2 * t + 3)) + 8 * (4 * t * (p + 1) + t * (2 * t + 3)) := by
  obtain ⟨⟨r1, r2⟩, ⟨k1, k2⟩, l1, l2⟩ := big p t hp hp2 ht ht2
  simp only [atV, place, dims, base]
  split
  · omega
  · omega
theorem neg3 (p t x : Int) (h : x < 0) : atV p t 3 x 0 0 = -1 := by simp [atV, place, dims, h]
theorem in5 (p t x : Int) (hp : 1 ≤ p) (hp2 : p ≤ 256) (ht : 1 ≤ t) (ht2 : t ≤ 64) : -1 ≤ atV p t 5 x 0 0 ∧ atV p t 5 x 0 0 < 21 + 16 * t + 19 * p + t * (2 * t + 2) + (4 * t * (p + 1) + t * (2 * t + 3)) + 8 * (4 * t * (p + 1) + t * (2 * t + 3)) := by
  obtain ⟨⟨r1, r2⟩, ⟨k1, k2⟩, l1, l2⟩ := big p t hp hp2 ht ht2
  simp only [atV, place, dims, base]
  split
  · omega
  · omega
theorem neg5 (p t x : Int) (h : x < 0) : atV p t 5 x 0 0 = -1 := by simp [atV, place, dims, h]
theorem in6 (p t x : Int) (hp : 1 ≤ p) (hp2 : p ≤ 256) (ht : 1 ≤ t) (ht2 : t ≤ 64) : -1 ≤ atV p t 6 x 0 0 ∧ atV p t 6 x 0 0 < 21 + 16 * t + 19 * p + t * (2 * t + 2) + (4 * t * (p + 1) + t * (2 * t + 3)) + 8 * (4 * t * (p + 1) + t * (2 * t + 3)) := by
  obtain ⟨⟨r1, r2⟩, ⟨k1, k2⟩, l1, l2⟩ := big p t hp hp2 ht ht2
  simp only [atV, place, dims, base]
  split
  · omega
  · omega
theorem neg6 (p t x : Int) (h : x < 0) : atV p t 6 x 0 0 = -1 := by simp [atV, place, dims, h]
theorem in7 (p t x : Int) (hp : 1 ≤ p) (hp2 : p ≤ 256) (ht : 1 ≤ t) (ht2 : t ≤ 64) : -1 ≤ atV p t 7 x 0 0 ∧ atV p t 7 x 0 0 < 21 + 16 * t + 19 * p + t * (2 * t + 2) + (4 * t * (p + 1) + t * (2 * t + 3)) + 8 * (4 * t * (p + 1) + t * (2 * t + 3)) := by
  obtain ⟨⟨r1, r2⟩, ⟨k1, k2⟩, l1, l2⟩ := big p t hp hp2 ht ht2
  simp only [atV, place, dims, base]
  split
  · omega
  · omega
theorem neg7 (p t x : Int) (h : x < 0) : atV p t 7 x 0 0 = -1 := by simp [atV, place, dims, h]
theorem in8 (p t x : Int) (hp : 1 ≤ p) (hp2 : p ≤ 256) (ht : 1 ≤ t) (ht2 : t ≤ 64) : -1 ≤ atV p t 8 x 0 0 ∧ atV p t 8 x 0 0 < 21 + 16 * t + 19 * p + t * (2 * t + 2) + (4 * t * (p + 1) + t * (2 * t + 3)) + 8 * (4 * t * (p + 1) + t * (2 * t + 3)) := by
  obtain ⟨⟨r1, r2⟩, ⟨k1, k2⟩, l1, l2⟩ := big p t hp hp2 ht ht2
  simp only [atV, place, dims, base]
  split
  · omega
  · omega
theorem neg8 (p t x : Int) (h : x < 0) : atV p t 8 x 0 0 = -1 := by simp [atV, place, dims, h]
theorem in9 (p t x : Int) (hp : 1 ≤ p) (hp2 : p ≤ 256) (ht : 1 ≤ t) (ht2 : t ≤ 64) : -1 ≤ atV p t 9 x 0 0 ∧ atV p t 9 x 0 0 < 21 + 16 * t + 19 * p + t * (2 * t + 2) + (4 * t * (p + 1) + t * (2 * t + 3)) + 8 * (4 * t * (p + 1) + t * (2 * t + 3)) := by
  obtain ⟨⟨r1, r2⟩, ⟨k1, k2⟩, l1, l2⟩ := big p t hp hp2 ht ht2
  simp only [atV, place, dims, base]
  split
  · omega
  · omega
theorem neg9 (p t x : Int) (h : x < 0) : atV p t 9 x 0 0 = -1 := by simp [atV, place, dims, h]
theorem in10 (p t x : Int) (hp : 1 ≤ p) (hp2 : p ≤ 256) (ht : 1 ≤ t) (ht2 : t ≤ 64) : -1 ≤ atV p t 10 x 0 0 ∧ atV p t 10 x 0 0 < 21 + 16 * t + 19 * p + t * (2 * t + 2) + (4 * t * (p + 1) + t * (2 * t + 3)) + 8 * (4 * t * (p + 1) + t * (2 * t + 3)) := by
  obtain ⟨⟨r1, r2⟩, ⟨k1, k2⟩, l1, l2⟩ := big p t hp hp2 ht ht2
  simp only [atV, place, dims, base]
  split
  · omega
  · omega
theorem neg10 (p t x : Int) (h : x < 0) : atV p t 10 x 0 0 = -1 := by simp [atV, place, dims, h]
theorem in11 (p t x : Int) (hp : 1 ≤ p) (hp2 : p ≤ 256) (ht : 1 ≤ t) (ht2 : t ≤ 64) : -1 ≤ atV p t 11 x 0 0 ∧ atV p t 11 x 0 0 < 21 + 16 * t + 19 * p + t * (2 * t + 2) + (4 * t * (p + 1) + t * (2 * t + 3)) + 8 * (4 * t * (p + 1) + t * (2 * t + 3)) := by
  obtain ⟨⟨r1, r2⟩, ⟨k1, k2⟩, l1, l2⟩ := big p t hp hp2 ht ht2
  simp only [atV, place, dims, base]
  split
  · omega
  · omega
theorem neg11 (p t x : Int) (h : x < 0) : atV p t 11 x 0 0 = -1 := by simp [atV, place, dims, h]
theorem in12 (p t x y z : Int) (hp : 1 ≤ p) (hp2 : p ≤ 256) (ht : 1 ≤ t) (ht2 : t ≤ 64) : -1 ≤ atV p t 12 x y z ∧ atV p t 12 x y z < 21 + 16 * t + 19 * p + t * (2 * t + 2) + (4 * t * (p + 1) + t * (2 * t + 3)) + 8 * (4 * t * (p + 1) + t * (2 * t + 3)) := by
  obtain ⟨⟨r1, r2⟩, ⟨k1, k2⟩, l1, l2⟩ := big p t hp hp2 ht ht2
  simp only [atV, place, dims, base]
  split
  · omega
  · omega
theorem neg12 (p t x y z : Int) (h : x < 0) : atV p t 12 x y z = -1 := by simp [atV, place, dims, h]
theorem in13 (p t x y : Int) (hp : 1 ≤ p) (hp2 : p ≤ 256) (ht : 1 ≤ t) (ht2 : t ≤ 64) : -1 ≤ atV p t 13 x y 0 ∧ atV p t 13 x y 0 < 21 + 16 * t + 19 * p + t * (2 * t + 2) + (4 * t * (p + 1) + t * (2 * t + 3)) + 8 * (4 * t * (p + 1) + t * (2 * t + 3)) := by
  obtain ⟨⟨r1, r2⟩, ⟨k1, k2⟩, l1, l2⟩ := big p t hp hp2 ht ht2
  simp only [atV, place, dims, base]
  split
  · omega
  · omega
theorem neg13 (p t x y : Int) (h : x < 0) : atV p t 13 x y 0 = -1 := by simp [atV, place, dims, h]
theorem in14 (p t x y : Int) (hp : 1 ≤ p) (hp2 : p ≤ 256) (ht : 1 ≤ t) (ht2 : t ≤ 64) : -1 ≤ atV p t 14 x y 0 ∧ atV p t 14 x y 0 < 21 + 16 * t + 19 * p + t * (2 * t + 2) + (4 * t * (p + 1) + t * (2 * t + 3)) + 8 * (4 * t * (p + 1) + t * (2 * t + 3)) := by
  obtain ⟨⟨r1, r2⟩, ⟨k1, k2⟩, l1, l2⟩ := big p t hp hp2 ht ht2
  simp only [atV, place, dims, base]
  split
  · omega
  · omega
theorem neg14 (p t x y : Int) (h : x < 0) : atV p t 14 x y 0 = -1 := by simp [atV, place, dims, h]
theorem in15 (p t x : Int) (hp : 1 ≤ p) (hp2 : p ≤ 256) (ht : 1 ≤ t) (ht2 : t ≤ 64) : -1 ≤ atV p t 15 x 0 0 ∧ atV p t 15 x 0 0 < 21 + 16 * t + 19 * p + t * (2 * t + 2) + (4 * t * (p + 1) + t * (2 * t + 3)) + 8 * (4 * t * (p + 1) + t * (2 * t + 3)) := by
  obtain ⟨⟨r1, r2⟩, ⟨k1, k2⟩, l1, l2⟩ := big p t hp hp2 ht ht2
  simp only [atV, place, dims, base]
  split
  · omega
  · omega
theorem neg15 (p t x : Int) (h : x < 0) : atV p t 15 x 0 0 = -1 := by simp [atV, place, dims, h]
theorem in16 (p t x y : Int) (hp : 1 ≤ p) (hp2 : p ≤ 256) (ht : 1 ≤ t) (ht2 : t ≤ 64) : -1 ≤ atV p t 16 x y 0 ∧ atV p t 16 x y 0 < 21 + 16 * t + 19 * p + t * (2 * t + 2) + (4 * t * (p + 1) + t * (2 * t + 3)) + 8 * (4 * t * (p + 1) + t * (2 * t + 3)) := by
  obtain ⟨⟨r1, r2⟩, ⟨k1, k2⟩, l1, l2⟩ := big p t hp hp2 ht ht2
  simp only [atV, place, dims, base]
  split
  · omega
  · have := ret_le x t (by omega) (by omega)
    omega
theorem neg16 (p t x y : Int) (h : x < 0) : atV p t 16 x y 0 = -1 := by simp [atV, place, dims, h]
theorem in17 (p t x : Int) (hp : 1 ≤ p) (hp2 : p ≤ 256) (ht : 1 ≤ t) (ht2 : t ≤ 64) : -1 ≤ atV p t 17 x 0 0 ∧ atV p t 17 x 0 0 < 21 + 16 * t + 19 * p + t * (2 * t + 2) + (4 * t * (p + 1) + t * (2 * t + 3)) + 8 * (4 * t * (p + 1) + t * (2 * t + 3)) := by
  obtain ⟨⟨r1, r2⟩, ⟨k1, k2⟩, l1, l2⟩ := big p t hp hp2 ht ht2
  simp only [atV, place, dims, base]
  split
  · omega
  · omega
theorem neg17 (p t x : Int) (h : x < 0) : atV p t 17 x 0 0 = -1 := by simp [atV, place, dims, h]
theorem in18 (p t x y : Int) (hp : 1 ≤ p) (hp2 : p ≤ 256) (ht : 1 ≤ t) (ht2 : t ≤ 64) : -1 ≤ atV p t 18 x y 0 ∧ atV p t 18 x y 0 < 21 + 16 * t + 19 * p + t * (2 * t + 2) + (4 * t * (p + 1) + t * (2 * t + 3)) + 8 * (4 * t * (p + 1) + t * (2 * t + 3)) := by
  obtain ⟨⟨r1, r2⟩, ⟨k1, k2⟩, l1, l2⟩ := big p t hp hp2 ht ht2
  simp only [atV, place, dims, base]
  split
  · omega
  · omega
theorem neg18 (p t x y : Int) (h : x < 0) : atV p t 18 x y 0 = -1 := by simp [atV, place, dims, h]
end Go.Proofs.YtacdbgepncimgabDoor
