/-
  MemStays: what is common: the law's own look, what is said of its input, what is decided ahead. Conditions: those each says.
-/
import Derived.Test.YtokcoabcflpbbaaF0
import Derived.Test.YtokcoabcflpbbaaWT
import Derived.Test.YtokcoabcflpbbaaEvC2
import Derived.Test.YtokcoabcflpbbaaEvLp
namespace Go.Proofs.Ytokcoabcflpbbaa
open Go.Ev Go.RowKit
set_option maxRecDepth 100000
set_option linter.unusedVariables false
theorem awakeRun7 (G : Nat → Option Obj) : outIs true (run0 Try.prog (ftOf Try.prog) no G 1000 (.fn 7 #[]) (H0g Try.prog [])) = true := by kernel_rfl
theorem awake_any7 (w : World) : Calls Try.prog 7 #[] w fun e w' => e = .returned (.bool true) ∧ Quiet w w' :=
  closed0 env (K := no) (n := 1000) (gs := []) (b := true) (by kernel_rfl) w (fun _ _ _ h => by simp [no] at h) awakeRun7 (gok w)
def cAw7 : Ctr := ⟨7, [], [.one .bool], 9, yes⟩
theorem cAw7_ok (S : Sy) (h : S.Φ 9 [] = 1) : CtrOk Try.prog S [] cAw7 := by
  intro a ns _ _ hl w _
  obtain rfl := len0 (show ns.length = 0 from hl)
  refine (awake_any7 w).mono fun e w' ⟨h1, h2⟩ => ⟨?_, h2⟩
  rw [h1]
  show _ = Ending.returned (.bool (decide (S.Φ 9 [] ≠ 0)))
  rw [h]; rfl
theorem one_ok7 {S : Sy} (h : S.Φ 9 [] = 1) : ∀ c ∈ [cAw7], CtrOk Try.prog S [] c := fun c hc => by
  rw [List.mem_singleton] at hc
  subst hc
  exact cAw7_ok S h
def inLS : Value := inS 0 (dsc 1 20 [5, 4, 8, 8])
def owS (b i : Nat) : Value := .float .f32 (mk 3 0 b (i * 512 + 3))
noncomputable def rw64S (f : Nat) : Blk := .arr ⟨5 * 512 + 3, [(some .u64, .var f)], 23⟩
noncomputable def rw8S (f : Nat) : Blk := .arr ⟨6 * 512 + 3, [(some .u8, .var f)], 5⟩
noncomputable def mmS (a b e : Nat) : Blk := .cells (mkCells #[owS a 5, owS b 6] e)
noncomputable def blAS : List (Nat × Blk) := [(0, .cells (mkCells #[vv .u8 10, vv .i64 11, vv .u64 12, vv .u64 13] 25)), (1, rw64S 60), (2, rw8S 61), (3, mmS 1 2 54)]
noncomputable def fr0S : List (Nat × Value) := [(4, vv .i64 14), (8, .pointer (some ⟨0, 0, none⟩)), (11, .pointer (some ⟨3, 0, none⟩))]
noncomputable def X0S : Pat := ⟨153, 4, [(2, inLS), (13, vv .i64 4)] ++ fr0S, blAS⟩
noncomputable def F0S : Pat := ⟨153, 4, fr0S, blAS⟩
def wTS : Tm := .conv .i64 (.bin .rem (.var .u8 2) (.lit .u8 41))
def bTS : Tm := .conv .i64 (.bin .rem (.var .u8 3) (.lit .u8 41))
def kTS : Tm := .app .u8 20 (.cons (.var .i64 4) .nil)
noncomputable def w70S : Blk := rw64S 70
noncomputable def b71S : Blk := rw8S 71
noncomputable def hE11S : List (Nat × Blk) := [(0, .cells (mkCells #[vv .u8 10, vv .i64 11, vv .u64 12, vv .u64 13] 25)), (1, w70S), (2, b71S), (3, mmS 1 2 54), (5, w70S), (7, b71S), (8, mmS 5 7 54)]
noncomputable def E11wS : Pat := ⟨26, 100, [(1, owS 5 5), (0, owS 1 5), (12, vv .i64 5), (13, vv .i64 17)], hE11S⟩
noncomputable def E11wZS : Pat := ⟨26, 200, [(1, owS 5 5), (0, owS 1 5), (12, vv .i64 5), (13, vv .i64 17)], hE11S⟩
noncomputable def E11bS : Pat := ⟨26, 100, [(1, owS 7 6), (0, owS 2 6), (12, vv .i64 6), (13, vv .i64 17)], hE11S⟩
noncomputable def E11bZS : Pat := ⟨26, 200, [(1, owS 7 6), (0, owS 2 6), (12, vv .i64 6), (13, vv .i64 17)], hE11S⟩
noncomputable def G11S : Pat := ⟨26, 100, [], hE11S⟩
noncomputable def G11ZS : Pat := ⟨26, 200, [], hE11S⟩
def e0S (b : Nat) : Value := .slice (some ⟨b, 0, none⟩) 0 0
noncomputable def hE01S : List (Nat × Blk) := [(0, .cells (mkCells #[vv .u8 10, vv .i64 11, vv .u64 12, vv .u64 13] 25)), (1, w70S), (2, b71S), (3, mmS 1 2 54), (4, .cells (mkCells #[] 23)), (6, b71S), (7, .cells (mkCells #[e0S 4, owS 6 6] 54))]
noncomputable def E01S : Pat := ⟨26, 100, [(1, owS 6 6), (0, owS 2 6), (12, vv .i64 6), (13, vv .i64 17)], hE01S⟩
noncomputable def E01ZS : Pat := ⟨26, 200, [(1, owS 6 6), (0, owS 2 6), (12, vv .i64 6), (13, vv .i64 17)], hE01S⟩
noncomputable def G01S : Pat := ⟨26, 100, [], hE01S⟩
noncomputable def G01ZS : Pat := ⟨26, 200, [], hE01S⟩
noncomputable def hE10S : List (Nat × Blk) := [(0, .cells (mkCells #[vv .u8 10, vv .i64 11, vv .u64 12, vv .u64 13] 25)), (1, w70S), (2, b71S), (3, mmS 1 2 54), (5, w70S), (6, .cells (mkCells #[] 5)), (7, .cells (mkCells #[owS 5 5, e0S 6] 54))]
noncomputable def E10S : Pat := ⟨26, 100, [(1, owS 5 5), (0, owS 1 5), (12, vv .i64 5), (13, vv .i64 17)], hE10S⟩
noncomputable def E10ZS : Pat := ⟨26, 200, [(1, owS 5 5), (0, owS 1 5), (12, vv .i64 5), (13, vv .i64 17)], hE10S⟩
noncomputable def G10S : Pat := ⟨26, 100, [], hE10S⟩
noncomputable def G10ZS : Pat := ⟨26, 200, [], hE10S⟩
def lpS0 : Mrk := (3, [1, 1, 1, 1, 0, 1, 0])
def lpS1 : Mrk := (24, [1, 1, 0, 1, 0])
def lpS2 : Mrk := (25, [1, 1, 0, 1, 0])
noncomputable abbrev ΛS : Nat → Option Code := lamOf Try.prog [lpS0, lpS1, lpS2]
noncomputable abbrev ftS : Nat → Option Func := ftM Try.prog [lpS0, lpS1, lpS2]
theorem envS : @EnvOk ⟨ΛS⟩ Try.prog ftS := envM env [lpS0, lpS1, lpS2] (by kernel_rfl)
theorem codeS0 : codeAt Try.prog lpS0 = some (.loop (cAt Try.prog lpS0)) := by kernel_rfl
theorem fineS0 : fineC Try.prog.globals.size (cAt Try.prog lpS0) = true := by kernel_rfl
theorem codeS1 : codeAt Try.prog lpS1 = some (.loop (cAt Try.prog lpS1)) := by kernel_rfl
theorem fineS1 : fineC Try.prog.globals.size (cAt Try.prog lpS1) = true := by kernel_rfl
theorem codeS2 : codeAt Try.prog lpS2 = some (.loop (cAt Try.prog lpS2)) := by kernel_rfl
theorem fineS2 : fineC Try.prog.globals.size (cAt Try.prog lpS2) = true := by kernel_rfl
noncomputable abbrev ΛS01 : Nat → Option Code := lamOf Try.prog [lpS0, lpS2]
noncomputable abbrev ftS01 : Nat → Option Func := ftM Try.prog [lpS0, lpS2]
theorem envS01 : @EnvOk ⟨ΛS01⟩ Try.prog ftS01 := envM env [lpS0, lpS2] (by kernel_rfl)
noncomputable abbrev ΛS10 : Nat → Option Code := lamOf Try.prog [lpS0, lpS1]
noncomputable abbrev ftS10 : Nat → Option Func := ftM Try.prog [lpS0, lpS1]
theorem envS10 : @EnvOk ⟨ΛS10⟩ Try.prog ftS10 := envM env [lpS0, lpS1] (by kernel_rfl)
noncomputable abbrev ΛS00 : Nat → Option Code := lamOf Try.prog [lpS0]
noncomputable abbrev ftS00 : Nat → Option Func := ftM Try.prog [lpS0]
theorem envS00 : @EnvOk ⟨ΛS00⟩ Try.prog ftS00 := envM env [lpS0] (by kernel_rfl)
theorem AlOk.app {S : Sy} {a b : List (Nat × Value)} (h : AlOk S a) (h' : AlOk S b) : AlOk S (a ++ b) := fun p hp => by
  rcases List.mem_append.1 hp with hp | hp
  · exact h p hp
  · exact h' p hp
theorem Same.symm {vs fs : List Nat} {S T : Sy} (h : Same vs fs S T) : Same vs fs T S := ⟨h.1.symm, fun v hv => (h.2.1 v hv).symm, fun f hf j => (h.2.2 f hf j).symm⟩
def argsS : List Value := [vv .u8 2, vv .u8 3, inLS, .agg #[vv .u8 10, vv .i64 11, vv .u64 12, vv .u64 13], vv .i64 14]
/-- What is said of a valuation, an input, and a world. -/
structure LawIn (T : Sy) (w : World) (l : List Value) : Prop where
  hvs : ∀ G ι, VsOk T G ι argsS l
  hin : ∀ b o, inpL T.I b = some o → w.heap[b]? = some o
  h9 : T.Φ 9 [] = 1
  dw : wTS.den T = some [T.ρ 5]
  db : bTS.den T = some [T.ρ 6]
  r5 : 0 ≤ T.ρ 5 ∧ T.ρ 5 < 41
  r6 : 0 ≤ T.ρ 6 ∧ T.ρ 6 < 41
  gr : T.ρ 1 ≤ 60
def Holds (w : World) (l : List Value) : Prop := Calls Try.prog 3 l.toArray w fun e w' => e = .returned (.bool true) ∧ Quiet w w'
def aS0 : Tm := (.bin .gtr (.var .i64 1) (.lit .i64 60))
def aS1 : Tm := (.bin .lss (.var .i64 5) (.lit .i64 0))
def aS2 : Tm := (.bin .gtr (.var .i64 5) (.lit .i64 2097152))
def aS3 : Tm := (.bin .lss (.var .i64 6) (.lit .i64 0))
def aS4 : Tm := (.bin .gtr (.var .i64 6) (.lit .i64 1048576))
def aS5 : Tm := (.bin .geq (.var .i64 5) (.lit .i64 0))
def aS6 : Tm := (.bin .lss (.var .i64 5) (.lit .i64 4194304))
def aS7 : Tm := (.bin .geq (.var .i64 6) (.lit .i64 0))
def aS8 : Tm := (.bin .lss (.var .i64 6) (.lit .i64 4194304))
def bS0 : Tm := (.bin .lss (.lit .i64 0) (.var .i64 5))
def bS1 : Tm := (.bin .lss (.lit .i64 0) (.var .i64 6))
def bS2 : Tm := (.bin .neq (.var .i64 5) (.lit .i64 0))
def bS3 : Tm := (.bin .neq (.var .i64 6) (.lit .i64 0))
def cS0 : Tm := (.bin .neq (.var .i64 5) (.var .i64 5))
def cS1 : Tm := (.bin .neq (.var .i64 6) (.var .i64 6))
def cS2 : Tm := (.bin .neq (.app .u64 60 (.cons (.var .i64 14) .nil)) (.app .u64 60 (.cons (.var .i64 14) .nil)))
def cS3 : Tm := (.bin .neq (.conv .u8 (.conv .u64 (.app .u8 61 (.cons (.var .i64 14) .nil)))) (.conv .u8 (.conv .u64 (.app .u8 61 (.cons (.var .i64 14) .nil)))))
def aSw : Tm := .bin .lss (.var .i64 5) (.lit .i64 1)
def aSb : Tm := .bin .lss (.var .i64 6) (.lit .i64 1)
noncomputable def alB (a b : Bool) : List (Nat × Value) := [(awT.enc, .bool true), (bTS.enc, .float .f64 (Tm.var .i64 6).enc), (wTS.enc, .float .f64 (Tm.var .i64 5).enc), (aSw.enc, .bool a), (aSb.enc, .bool b), (aS0.enc, .bool false), (aS1.enc, .bool false), (aS2.enc, .bool false), (aS3.enc, .bool false), (aS4.enc, .bool false), (aS5.enc, .bool true), (aS6.enc, .bool true), (aS7.enc, .bool true), (aS8.enc, .bool true), (bS0.enc, .bool (!a)), (bS1.enc, .bool (!b)), (bS2.enc, .bool (!a)), (bS3.enc, .bool (!b)), (cS0.enc, .bool false), (cS1.enc, .bool false), (cS2.enc, .bool false), (cS3.enc, .bool false)]
theorem rfF (x : Int) : some [b2i (decide (x ≠ x))] = some [b2i false] := by simp
theorem bd {p : Prop} [Decidable p] {b : Bool} (h : p ↔ b = true) : some [b2i (decide p)] = some [b2i b] := by
  cases b with
  | true => rw [decide_eq_true (h.2 rfl)]
  | false => rw [decide_eq_false (fun hp => by simpa using h.1 hp)]
theorem alB_ok {T : Sy} {w : World} {l : List Value} (N : LawIn T w l) {a b : Bool} (ha : a = decide (T.ρ 5 < 1)) (hb : b = decide (T.ρ 6 < 1)) : AlOk T (alB a b) := by
  have h5 := N.r5; have h6 := N.r6; have h1 := N.gr
  exact ai awT true (aw_den N.h9) (al_nm bTS (.var .i64 6) (by kernel_rfl) N.db rfl (al_nm wTS (.var .i64 5) (by kernel_rfl) N.dw rfl (ai aSw a (by subst ha; rfl) (ai aSb b (by subst hb; rfl) (ai aS0 false (fls (p := 60 < T.ρ 1) (by omega)) (ai aS1 false (fls (p := T.ρ 5 < 0) (by omega)) (ai aS2 false (fls (p := 2097152 < T.ρ 5) (by omega)) (ai aS3 false (fls (p := T.ρ 6 < 0) (by omega)) (ai aS4 false (fls (p := 1048576 < T.ρ 6) (by omega)) (ai aS5 true (tr (p := 0 ≤ T.ρ 5) (by omega)) (ai aS6 true (tr (p := T.ρ 5 < 4194304) (by omega)) (ai aS7 true (tr (p := 0 ≤ T.ρ 6) (by omega)) (ai aS8 true (tr (p := T.ρ 6 < 4194304) (by omega)) (ai bS0 (!a) (bd (p := 0 < T.ρ 5) (by subst ha; cases hc : decide (T.ρ 5 < 1) <;> simp at hc ⊢ <;> omega)) (ai bS1 (!b) (bd (p := 0 < T.ρ 6) (by subst hb; cases hc : decide (T.ρ 6 < 1) <;> simp at hc ⊢ <;> omega)) (ai bS2 (!a) (bd (p := T.ρ 5 ≠ 0) (by subst ha; cases hc : decide (T.ρ 5 < 1) <;> simp at hc ⊢ <;> omega)) (ai bS3 (!b) (bd (p := T.ρ 6 ≠ 0) (by subst hb; cases hc : decide (T.ρ 6 < 1) <;> simp at hc ⊢ <;> omega)) (ai cS0 false (rfF _) (ai cS1 false (rfF _) (ai cS2 false (rfF _) (ai cS3 false (rfF _) (AlOk.nil _))))))))))))))))))))))
def kA : Tm := .var .u8 10
def kB : Tm := .conv .i64 (.var .u8 10)
def kC : Tm := .bin .geq (.var .u8 10) (.lit .u8 1)
def kD : Tm := .bin .leq (.var .u8 10) (.lit .u8 4)
def kE : Tm := .bin .geq (.conv .i64 (.var .u8 10)) (.lit .i64 7)
noncomputable def alK (k : Nat) : List (Nat × Value) := [(kA.enc, .int .u8 k), (kB.enc, .int .i64 k), (kC.enc, .bool (Nat.ble 1 k)), (kD.enc, .bool (Nat.ble k 4))]
noncomputable def alK7 : List (Nat × Value) := [(kC.enc, .bool true), (kD.enc, .bool false), (kE.enc, .bool true)]
theorem alK_ok {T : Sy} {k : Nat} (h : T.ρ 10 = k) (hk : k < 256) : AlOk T (alK k) := by
  have hc : kB.den T = some [(k : Int)] := (show some [IntKind.i64.wrap (T.ρ 10)] = _ from by rw [w_i64 (by omega) (by omega), h])
  refine ain kA .u8 k (show some [T.ρ 10] = _ from by rw [h]) (ain kB .i64 k hc (ai kC (Nat.ble 1 k) ?_ (ai kD (Nat.ble k 4) ?_ (AlOk.nil _))))
  · show some [b2i (decide ((1 : Int) ≤ T.ρ 10))] = _
    rw [h]
    cases hb : Nat.ble 1 k with
    | true => rw [decide_eq_true (by have := Nat.le_of_ble_eq_true hb; omega)]
    | false => rw [decide_eq_false (by intro hh; rw [Nat.ble_eq_true_of_le (by omega)] at hb; simp at hb)]
  · show some [b2i (decide (T.ρ 10 ≤ (4 : Int)))] = _
    rw [h]
    cases hb : Nat.ble k 4 with
    | true => rw [decide_eq_true (by have := Nat.le_of_ble_eq_true hb; omega)]
    | false => rw [decide_eq_false (by intro hh; rw [Nat.ble_eq_true_of_le (by omega)] at hb; simp at hb)]
theorem alK7_ok {T : Sy} (h : 7 ≤ T.ρ 10) (hk : T.ρ 10 < 256) : AlOk T alK7 :=
  ai kC true (tr (p := 1 ≤ T.ρ 10) (by omega)) (ai kD false (fls (p := T.ρ 10 ≤ 4) (by omega)) (ai kE true (tr (p := (7 : Int) ≤ IntKind.i64.wrap (T.ρ 10)) (by rw [w_i64 (by omega) (by omega)]; exact h)) (AlOk.nil _)))
theorem runS {T : Sy} {w : World} {l : List Value} (N : LawIn T w l) {lk : Nat → Fr → Heap → Option (AExit × Fr × Heap)} (hlk : LkOk Try.prog T [] ΛS lk) {al : List (Nat × Value)} (ha : AlOk T al)
    (hr : ∀ G, outV (runM Try.prog ΛS lk ftS ha [cAw7] G 1000 (.fn 3 argsS.toArray) (H0g Try.prog [])) = some (bundle [.bool true])) : Holds w l :=
  symRunI envS ha (one_ok7 N.h9) hlk (res := [.one .bool]) (rcs := [litB true]) (rs := [1]) rfl ⟨ev_litB _ true, trivial⟩ hr N.hvs w (gok w) N.hin
theorem runS01 {T : Sy} {w : World} {l : List Value} (N : LawIn T w l) {lk : Nat → Fr → Heap → Option (AExit × Fr × Heap)} (hlk : LkOk Try.prog T [] ΛS01 lk) {al : List (Nat × Value)} (ha : AlOk T al)
    (hr : ∀ G, outV (runM Try.prog ΛS01 lk ftS01 ha [cAw7] G 1000 (.fn 3 argsS.toArray) (H0g Try.prog [])) = some (bundle [.bool true])) : Holds w l :=
  symRunI envS01 ha (one_ok7 N.h9) hlk (res := [.one .bool]) (rcs := [litB true]) (rs := [1]) rfl ⟨ev_litB _ true, trivial⟩ hr N.hvs w (gok w) N.hin
theorem runS10 {T : Sy} {w : World} {l : List Value} (N : LawIn T w l) {lk : Nat → Fr → Heap → Option (AExit × Fr × Heap)} (hlk : LkOk Try.prog T [] ΛS10 lk) {al : List (Nat × Value)} (ha : AlOk T al)
    (hr : ∀ G, outV (runM Try.prog ΛS10 lk ftS10 ha [cAw7] G 1000 (.fn 3 argsS.toArray) (H0g Try.prog [])) = some (bundle [.bool true])) : Holds w l :=
  symRunI envS10 ha (one_ok7 N.h9) hlk (res := [.one .bool]) (rcs := [litB true]) (rs := [1]) rfl ⟨ev_litB _ true, trivial⟩ hr N.hvs w (gok w) N.hin
theorem runS00 {T : Sy} {w : World} {l : List Value} (N : LawIn T w l) {lk : Nat → Fr → Heap → Option (AExit × Fr × Heap)} (hlk : LkOk Try.prog T [] ΛS00 lk) {al : List (Nat × Value)} (ha : AlOk T al)
    (hr : ∀ G, outV (runM Try.prog ΛS00 lk ftS00 ha [cAw7] G 1000 (.fn 3 argsS.toArray) (H0g Try.prog [])) = some (bundle [.bool true])) : Holds w l :=
  symRunI envS00 ha (one_ok7 N.h9) hlk (res := [.one .bool]) (rcs := [litB true]) (rs := [1]) rfl ⟨ev_litB _ true, trivial⟩ hr N.hvs w (gok w) N.hin
end Go.Proofs.Ytokcoabcflpbbaa
