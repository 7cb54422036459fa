/-
  MemOnce, run with symbols. Conditions: those of the numbers' types.
-/
import Derived.Test.YtpoomgmehielcaaM0
import Derived.Test.YtpoomgmehielcaaWT
import Derived.Test.YtpoomgmehielcaaEvX3
namespace Go.Proofs.Ytpoomgmehielcaa
open Go.Ev Go.RowKit
set_option maxRecDepth 100000
def yes (_ : Nat) : Bool := true
def Φ9 : Nat → List Int → Int
  | 9, [] => 1
  | _, _ => 0
def c29 : Ctr := ⟨29, [], [.one .bool], 9, yes⟩
theorem c29_ok (S : Sy) (h : S.Φ 9 [] = 1) : CtrOk Try.prog S [] c29 := by
  intro a ns _ _ hl w _
  obtain rfl := len0 (show ns.length = 0 from hl)
  refine (awake_any w).mono fun e w' ⟨h1, h2⟩ => ⟨?_, h2⟩
  rw [h1]
  show _ = Ending.returned (.bool (decide (S.Φ 9 [] ≠ 0)))
  rw [h]; rfl
def s9 (l : List Int) : Sy := Sy.of (fun i => l.getD i 0) Φ9
theorem one_ok {S : Sy} (h : S.Φ 9 [] = 1) : ∀ c ∈ [c29], CtrOk Try.prog S [] c := fun c hc => by
  rw [List.mem_singleton] at hc
  subst hc
  exact c29_ok S h
def aw29 : Tm := .appB 9 .nil
theorem aw29_den {S : Sy} (h : S.Φ 9 [] = 1) : aw29.den S = some [b2i true] := by
  show some [b2i (decide (S.Φ 9 [] ≠ 0))] = _
  rw [h]; rfl
theorem al_nm {S : Sy} {al : List (Nat × Value)} (t u : Tm) (he : (t.ok && u.ok && Nat.beq (cK t.enc) (cK u.enc) && (isBc u.enc == isBc t.enc)) = true) {n : Int} (hb : t.den S = some [n]) (hd : u.den S = some [n]) (ha : AlOk S al) : AlOk S ((t.enc, .float .f64 u.enc) :: al) := by
  simp only [Bool.and_eq_true] at he
  obtain ⟨⟨⟨h1, h2⟩, h3⟩, h4⟩ := he
  refine al_sym t u ?_ hb hd ha
  simp only [Bool.and_eq_true]
  exact ⟨⟨⟨⟨⟨Nat.beq_refl _, h1⟩, Nat.beq_refl _⟩, h2⟩, h3⟩, h4⟩
theorem tr {p : Prop} [Decidable p] (h : p) : some [b2i (decide p)] = some [b2i true] := by rw [decide_eq_true h]
theorem fls {p : Prop} [Decidable p] (h : ¬ p) : some [b2i (decide p)] = some [b2i false] := by rw [decide_eq_false h]
def nT : Tm := (.bin .add (.conv .i64 (.bin .rem (.var .u8 0) (.lit .u8 40))) (.lit .i64 1))
def rT : Tm := .bin .rem (.var .i64 1) (.var .i64 6)
def aT : Tm := .bin .add (.var .i64 5) (.var .i64 6)
theorem wi64 {x : Int} (h0 : -9223372036854775808 ≤ x) (h1 : x < 9223372036854775808) : IntKind.i64.wrap x = x := by
  simp only [IntKind.wrap, IntKind.bits, IntKind.signed]
  simp
  split <;> omega
section
variable (w at_ a b c : Int)
def oa0 : Tm := (.bin .lss (.var .i64 6) (.lit .i64 0))
def oa1 : Tm := (.bin .gtr (.var .i64 6) (.lit .i64 2097152))
def oa2 : Tm := (.bin .geq (.var .i64 6) (.lit .i64 0))
def oa3 : Tm := (.bin .lss (.var .i64 6) (.lit .i64 4194304))
def oa4 : Tm := (.bin .lss (.var .i64 5) (.lit .i64 0))
def oa5 : Tm := (.bin .lss (.var .i64 7) (.lit .i64 0))
def oa6 : Tm := (.bin .geq (.var .i64 7) (.var .i64 6))
def oa7 : Tm := (.bin .geq (.var .i64 7) (.lit .i64 0))
def oa8 : Tm := (.bin .lss (.var .i64 7) (.var .i64 6))
def oa9 : Tm := (.bin .neq (.var .u64 2) (.var .u64 3))
def oa10 : Tm := (.bin .eql (.var .u64 2) (.var .u64 2))
def oa11 : Tm := (.beq (.blit true) (.bin .eql (.var .u64 2) (.var .u64 3)))
def oa12 : Tm := (.bin .eql (.var .u64 4) (.var .u64 4))
def oa13 : Tm := (.bin .eql (.bin .add (.var .u64 4) (.var .u64 3)) (.bin .add (.var .u64 4) (.var .u64 3)))
set_option maxHeartbeats 1000000 in
theorem oa_any (hw : 0 ≤ w) (n r : Int) (hn : n = w % 40 + 1) (hr : r = at_.tmod n) (hr1 : -n < r) (hneg : r < 0) (heq : a = b) (W : World) : Calls Try.prog 7 #[.int .u8 w, .int .i64 at_, .int .u64 a, .int .u64 b, .int .u64 c] W fun e w' => e = .returned (.bool true) ∧ Quiet W w' := by
  obtain ⟨S, hS⟩ : ∃ S, S = s9 [w, at_, a, b, c, r, n, r + n] := ⟨_, rfl⟩
  have hΦ : S.Φ 9 [] = 1 := by rw [hS]; rfl
  have n0 : 0 < n ∧ n < 41 := by omega
  have dn : nT.den S = some [n] := by
    rw [hS]
    refine den_bin (k := .i64) (a := w % 40) (den_conv .i64 (x := w % 40) (den_bin (k := .u8) (r := w % 40) rfl (den_lit _ _) ?_) (wi64 (by omega) (by omega))) (den_lit _ _) ?_
    · show (if (40 : Int) = 0 then none else some (Value.int .u8 (w.tmod 40))) = _
      rw [if_neg (by decide), Int.tmod_eq_emod_of_nonneg hw]
    · show some (Value.int .i64 (IntKind.i64.wrap (w % 40 + 1))) = _
      rw [wi64 (by omega) (by omega), hn]
  have dr : rT.den S = some [r] := by
    rw [hS]
    refine den_bin (k := .i64) (a := at_) (b := n) rfl rfl ?_
    show (if n = 0 then none else some (Value.int .i64 (at_.tmod n))) = _
    rw [if_neg (by omega), hr]
  have da : aT.den S = some [r + n] := by
    rw [hS]
    refine den_bin (k := .i64) (a := r) (b := n) rfl rfl ?_
    show some (Value.int .i64 (IntKind.i64.wrap (r + n))) = _
    rw [wi64 (by omega) (by omega)]
  have d0 : oa0.den S = some [b2i false] := by rw [hS]; exact fls (p := n < 0) (by omega)
  have d1 : oa1.den S = some [b2i false] := by rw [hS]; exact fls (p := 2097152 < n) (by omega)
  have d2 : oa2.den S = some [b2i true] := by rw [hS]; exact tr (p := 0 ≤ n) (by omega)
  have d3 : oa3.den S = some [b2i true] := by rw [hS]; exact tr (p := n < 4194304) (by omega)
  have d4 : oa4.den S = some [b2i true] := by rw [hS]; exact tr (p := r < 0) (by omega)
  have d5 : oa5.den S = some [b2i false] := by rw [hS]; exact fls (p := r + n < 0) (by omega)
  have d6 : oa6.den S = some [b2i false] := by rw [hS]; exact fls (p := n ≤ (r + n)) (by omega)
  have d7 : oa7.den S = some [b2i true] := by rw [hS]; exact tr (p := 0 ≤ (r + n)) (by omega)
  have d8 : oa8.den S = some [b2i true] := by rw [hS]; exact tr (p := (r + n) < n) (by omega)
  have d9 : oa9.den S = some [b2i false] := by rw [hS]; exact fls (p := a ≠ b) (by omega)
  have d10 : oa10.den S = some [b2i true] := by rw [hS]; exact tr (p := a = a) rfl
  have d11 : oa11.den S = some [b2i true] := by rw [hS]; exact tr (p := b2i true = b2i (decide (a = b))) (by rw [decide_eq_true (by omega)])
  have d12 : oa12.den S = some [b2i true] := by rw [hS]; exact tr (p := c = c) rfl
  have d13 : oa13.den S = some [b2i true] := by rw [hS]; exact tr (p := IntKind.u64.wrap (c + b) = IntKind.u64.wrap (c + b)) rfl
  exact symIs env (al_is aw29 true (by kernel_rfl) (aw29_den hΦ) (al_is oa13 true (by kernel_rfl) d13 (al_is oa12 true (by kernel_rfl) d12 (al_is oa11 true (by kernel_rfl) d11 (al_is oa10 true (by kernel_rfl) d10 (al_is oa9 false (by kernel_rfl) d9 (al_is oa8 true (by kernel_rfl) d8 (al_is oa7 true (by kernel_rfl) d7 (al_is oa6 false (by kernel_rfl) d6 (al_is oa5 false (by kernel_rfl) d5 (al_is oa4 true (by kernel_rfl) d4 (al_is oa3 true (by kernel_rfl) d3 (al_is oa2 true (by kernel_rfl) d2 (al_is oa1 false (by kernel_rfl) d1 (al_is oa0 false (by kernel_rfl) d0 (al_nm aT (.var .i64 7) (by kernel_rfl) da (by rw [hS]; rfl) (al_nm rT (.var .i64 5) (by kernel_rfl) dr (by rw [hS]; rfl) (al_nm nT (.var .i64 6) (by kernel_rfl) dn (by rw [hS]; rfl) (AlOk.nil _))))))))))))))))))) (one_ok hΦ) (n := 1000) (f := 7)
    (args := [.float .f64 (0 * 512 + kI .u8), .float .f64 (1 * 512 + kI .i64), .float .f64 (2 * 512 + kI .u64), .float .f64 (3 * 512 + kI .u64), .float .f64 (4 * 512 + kI .u64)]) (args' := [.int .u8 w, .int .i64 at_, .int .u64 a, .int .u64 b, .int .u64 c]) true (fun G => by kernel_rfl)
    (fun G ι => by subst hS; exact vs_sym rfl (vs_sym rfl (vs_sym rfl (vs_sym rfl (vs_sym rfl vs_nil))))) W (gok W) (by rw [hS]; rfl)
def ob0 : Tm := (.bin .lss (.var .i64 6) (.lit .i64 0))
def ob1 : Tm := (.bin .gtr (.var .i64 6) (.lit .i64 2097152))
def ob2 : Tm := (.bin .geq (.var .i64 6) (.lit .i64 0))
def ob3 : Tm := (.bin .lss (.var .i64 6) (.lit .i64 4194304))
def ob4 : Tm := (.bin .lss (.var .i64 5) (.lit .i64 0))
def ob5 : Tm := (.bin .lss (.var .i64 7) (.lit .i64 0))
def ob6 : Tm := (.bin .geq (.var .i64 7) (.var .i64 6))
def ob7 : Tm := (.bin .geq (.var .i64 7) (.lit .i64 0))
def ob8 : Tm := (.bin .lss (.var .i64 7) (.var .i64 6))
def ob9 : Tm := (.bin .neq (.var .u64 2) (.var .u64 3))
def ob10 : Tm := (.bin .eql (.var .u64 2) (.var .u64 2))
def ob11 : Tm := (.beq (.blit false) (.bin .eql (.var .u64 2) (.var .u64 3)))
def ob12 : Tm := (.bin .eql (.bin .add (.var .u64 2) (.var .u64 3)) (.bin .add (.var .u64 2) (.var .u64 3)))
set_option maxHeartbeats 1000000 in
theorem ob_any (hw : 0 ≤ w) (n r : Int) (hn : n = w % 40 + 1) (hr : r = at_.tmod n) (hr1 : -n < r) (hneg : r < 0) (heq : a ≠ b) (W : World) : Calls Try.prog 7 #[.int .u8 w, .int .i64 at_, .int .u64 a, .int .u64 b, .int .u64 c] W fun e w' => e = .returned (.bool true) ∧ Quiet W w' := by
  obtain ⟨S, hS⟩ : ∃ S, S = s9 [w, at_, a, b, c, r, n, r + n] := ⟨_, rfl⟩
  have hΦ : S.Φ 9 [] = 1 := by rw [hS]; rfl
  have n0 : 0 < n ∧ n < 41 := by omega
  have dn : nT.den S = some [n] := by
    rw [hS]
    refine den_bin (k := .i64) (a := w % 40) (den_conv .i64 (x := w % 40) (den_bin (k := .u8) (r := w % 40) rfl (den_lit _ _) ?_) (wi64 (by omega) (by omega))) (den_lit _ _) ?_
    · show (if (40 : Int) = 0 then none else some (Value.int .u8 (w.tmod 40))) = _
      rw [if_neg (by decide), Int.tmod_eq_emod_of_nonneg hw]
    · show some (Value.int .i64 (IntKind.i64.wrap (w % 40 + 1))) = _
      rw [wi64 (by omega) (by omega), hn]
  have dr : rT.den S = some [r] := by
    rw [hS]
    refine den_bin (k := .i64) (a := at_) (b := n) rfl rfl ?_
    show (if n = 0 then none else some (Value.int .i64 (at_.tmod n))) = _
    rw [if_neg (by omega), hr]
  have da : aT.den S = some [r + n] := by
    rw [hS]
    refine den_bin (k := .i64) (a := r) (b := n) rfl rfl ?_
    show some (Value.int .i64 (IntKind.i64.wrap (r + n))) = _
    rw [wi64 (by omega) (by omega)]
  have d0 : ob0.den S = some [b2i false] := by rw [hS]; exact fls (p := n < 0) (by omega)
  have d1 : ob1.den S = some [b2i false] := by rw [hS]; exact fls (p := 2097152 < n) (by omega)
  have d2 : ob2.den S = some [b2i true] := by rw [hS]; exact tr (p := 0 ≤ n) (by omega)
  have d3 : ob3.den S = some [b2i true] := by rw [hS]; exact tr (p := n < 4194304) (by omega)
  have d4 : ob4.den S = some [b2i true] := by rw [hS]; exact tr (p := r < 0) (by omega)
  have d5 : ob5.den S = some [b2i false] := by rw [hS]; exact fls (p := r + n < 0) (by omega)
  have d6 : ob6.den S = some [b2i false] := by rw [hS]; exact fls (p := n ≤ (r + n)) (by omega)
  have d7 : ob7.den S = some [b2i true] := by rw [hS]; exact tr (p := 0 ≤ (r + n)) (by omega)
  have d8 : ob8.den S = some [b2i true] := by rw [hS]; exact tr (p := (r + n) < n) (by omega)
  have d9 : ob9.den S = some [b2i true] := by rw [hS]; exact tr (p := a ≠ b) (by omega)
  have d10 : ob10.den S = some [b2i true] := by rw [hS]; exact tr (p := a = a) rfl
  have d11 : ob11.den S = some [b2i true] := by rw [hS]; exact tr (p := b2i false = b2i (decide (a = b))) (by rw [decide_eq_false (by omega)])
  have d12 : ob12.den S = some [b2i true] := by rw [hS]; exact tr (p := IntKind.u64.wrap (a + b) = IntKind.u64.wrap (a + b)) rfl
  exact symIs env (al_is aw29 true (by kernel_rfl) (aw29_den hΦ) (al_is ob12 true (by kernel_rfl) d12 (al_is ob11 true (by kernel_rfl) d11 (al_is ob10 true (by kernel_rfl) d10 (al_is ob9 true (by kernel_rfl) d9 (al_is ob8 true (by kernel_rfl) d8 (al_is ob7 true (by kernel_rfl) d7 (al_is ob6 false (by kernel_rfl) d6 (al_is ob5 false (by kernel_rfl) d5 (al_is ob4 true (by kernel_rfl) d4 (al_is ob3 true (by kernel_rfl) d3 (al_is ob2 true (by kernel_rfl) d2 (al_is ob1 false (by kernel_rfl) d1 (al_is ob0 false (by kernel_rfl) d0 (al_nm aT (.var .i64 7) (by kernel_rfl) da (by rw [hS]; rfl) (al_nm rT (.var .i64 5) (by kernel_rfl) dr (by rw [hS]; rfl) (al_nm nT (.var .i64 6) (by kernel_rfl) dn (by rw [hS]; rfl) (AlOk.nil _)))))))))))))))))) (one_ok hΦ) (n := 1000) (f := 7)
    (args := [.float .f64 (0 * 512 + kI .u8), .float .f64 (1 * 512 + kI .i64), .float .f64 (2 * 512 + kI .u64), .float .f64 (3 * 512 + kI .u64), .float .f64 (4 * 512 + kI .u64)]) (args' := [.int .u8 w, .int .i64 at_, .int .u64 a, .int .u64 b, .int .u64 c]) true (fun G => by kernel_rfl)
    (fun G ι => by subst hS; exact vs_sym rfl (vs_sym rfl (vs_sym rfl (vs_sym rfl (vs_sym rfl vs_nil))))) W (gok W) (by rw [hS]; rfl)
def oc0 : Tm := (.bin .lss (.var .i64 6) (.lit .i64 0))
def oc1 : Tm := (.bin .gtr (.var .i64 6) (.lit .i64 2097152))
def oc2 : Tm := (.bin .geq (.var .i64 6) (.lit .i64 0))
def oc3 : Tm := (.bin .lss (.var .i64 6) (.lit .i64 4194304))
def oc4 : Tm := (.bin .lss (.var .i64 5) (.lit .i64 0))
def oc5 : Tm := (.bin .geq (.var .i64 5) (.var .i64 6))
def oc6 : Tm := (.bin .geq (.var .i64 5) (.lit .i64 0))
def oc7 : Tm := (.bin .lss (.var .i64 5) (.var .i64 6))
def oc8 : Tm := (.bin .neq (.var .u64 2) (.var .u64 3))
def oc9 : Tm := (.bin .eql (.var .u64 2) (.var .u64 2))
def oc10 : Tm := (.beq (.blit true) (.bin .eql (.var .u64 2) (.var .u64 3)))
def oc11 : Tm := (.bin .eql (.var .u64 4) (.var .u64 4))
def oc12 : Tm := (.bin .eql (.bin .add (.var .u64 4) (.var .u64 3)) (.bin .add (.var .u64 4) (.var .u64 3)))
set_option maxHeartbeats 1000000 in
theorem oc_any (hw : 0 ≤ w) (n r : Int) (hn : n = w % 40 + 1) (hr : r = at_.tmod n) (hr2 : r < n) (hneg : 0 ≤ r) (heq : a = b) (W : World) : Calls Try.prog 7 #[.int .u8 w, .int .i64 at_, .int .u64 a, .int .u64 b, .int .u64 c] W fun e w' => e = .returned (.bool true) ∧ Quiet W w' := by
  obtain ⟨S, hS⟩ : ∃ S, S = s9 [w, at_, a, b, c, r, n, r + n] := ⟨_, rfl⟩
  have hΦ : S.Φ 9 [] = 1 := by rw [hS]; rfl
  have n0 : 0 < n ∧ n < 41 := by omega
  have dn : nT.den S = some [n] := by
    rw [hS]
    refine den_bin (k := .i64) (a := w % 40) (den_conv .i64 (x := w % 40) (den_bin (k := .u8) (r := w % 40) rfl (den_lit _ _) ?_) (wi64 (by omega) (by omega))) (den_lit _ _) ?_
    · show (if (40 : Int) = 0 then none else some (Value.int .u8 (w.tmod 40))) = _
      rw [if_neg (by decide), Int.tmod_eq_emod_of_nonneg hw]
    · show some (Value.int .i64 (IntKind.i64.wrap (w % 40 + 1))) = _
      rw [wi64 (by omega) (by omega), hn]
  have dr : rT.den S = some [r] := by
    rw [hS]
    refine den_bin (k := .i64) (a := at_) (b := n) rfl rfl ?_
    show (if n = 0 then none else some (Value.int .i64 (at_.tmod n))) = _
    rw [if_neg (by omega), hr]
  have d0 : oc0.den S = some [b2i false] := by rw [hS]; exact fls (p := n < 0) (by omega)
  have d1 : oc1.den S = some [b2i false] := by rw [hS]; exact fls (p := 2097152 < n) (by omega)
  have d2 : oc2.den S = some [b2i true] := by rw [hS]; exact tr (p := 0 ≤ n) (by omega)
  have d3 : oc3.den S = some [b2i true] := by rw [hS]; exact tr (p := n < 4194304) (by omega)
  have d4 : oc4.den S = some [b2i false] := by rw [hS]; exact fls (p := r < 0) (by omega)
  have d5 : oc5.den S = some [b2i false] := by rw [hS]; exact fls (p := n ≤ r) (by omega)
  have d6 : oc6.den S = some [b2i true] := by rw [hS]; exact tr (p := 0 ≤ r) (by omega)
  have d7 : oc7.den S = some [b2i true] := by rw [hS]; exact tr (p := r < n) (by omega)
  have d8 : oc8.den S = some [b2i false] := by rw [hS]; exact fls (p := a ≠ b) (by omega)
  have d9 : oc9.den S = some [b2i true] := by rw [hS]; exact tr (p := a = a) rfl
  have d10 : oc10.den S = some [b2i true] := by rw [hS]; exact tr (p := b2i true = b2i (decide (a = b))) (by rw [decide_eq_true (by omega)])
  have d11 : oc11.den S = some [b2i true] := by rw [hS]; exact tr (p := c = c) rfl
  have d12 : oc12.den S = some [b2i true] := by rw [hS]; exact tr (p := IntKind.u64.wrap (c + b) = IntKind.u64.wrap (c + b)) rfl
  exact symIs env (al_is aw29 true (by kernel_rfl) (aw29_den hΦ) (al_is oc12 true (by kernel_rfl) d12 (al_is oc11 true (by kernel_rfl) d11 (al_is oc10 true (by kernel_rfl) d10 (al_is oc9 true (by kernel_rfl) d9 (al_is oc8 false (by kernel_rfl) d8 (al_is oc7 true (by kernel_rfl) d7 (al_is oc6 true (by kernel_rfl) d6 (al_is oc5 false (by kernel_rfl) d5 (al_is oc4 false (by kernel_rfl) d4 (al_is oc3 true (by kernel_rfl) d3 (al_is oc2 true (by kernel_rfl) d2 (al_is oc1 false (by kernel_rfl) d1 (al_is oc0 false (by kernel_rfl) d0 (al_nm rT (.var .i64 5) (by kernel_rfl) dr (by rw [hS]; rfl) (al_nm nT (.var .i64 6) (by kernel_rfl) dn (by rw [hS]; rfl) (AlOk.nil _))))))))))))))))) (one_ok hΦ) (n := 1000) (f := 7)
    (args := [.float .f64 (0 * 512 + kI .u8), .float .f64 (1 * 512 + kI .i64), .float .f64 (2 * 512 + kI .u64), .float .f64 (3 * 512 + kI .u64), .float .f64 (4 * 512 + kI .u64)]) (args' := [.int .u8 w, .int .i64 at_, .int .u64 a, .int .u64 b, .int .u64 c]) true (fun G => by kernel_rfl)
    (fun G ι => by subst hS; exact vs_sym rfl (vs_sym rfl (vs_sym rfl (vs_sym rfl (vs_sym rfl vs_nil))))) W (gok W) (by rw [hS]; rfl)
def od0 : Tm := (.bin .lss (.var .i64 6) (.lit .i64 0))
def od1 : Tm := (.bin .gtr (.var .i64 6) (.lit .i64 2097152))
def od2 : Tm := (.bin .geq (.var .i64 6) (.lit .i64 0))
def od3 : Tm := (.bin .lss (.var .i64 6) (.lit .i64 4194304))
def od4 : Tm := (.bin .lss (.var .i64 5) (.lit .i64 0))
def od5 : Tm := (.bin .geq (.var .i64 5) (.var .i64 6))
def od6 : Tm := (.bin .geq (.var .i64 5) (.lit .i64 0))
def od7 : Tm := (.bin .lss (.var .i64 5) (.var .i64 6))
def od8 : Tm := (.bin .neq (.var .u64 2) (.var .u64 3))
def od9 : Tm := (.bin .eql (.var .u64 2) (.var .u64 2))
def od10 : Tm := (.beq (.blit false) (.bin .eql (.var .u64 2) (.var .u64 3)))
def od11 : Tm := (.bin .eql (.bin .add (.var .u64 2) (.var .u64 3)) (.bin .add (.var .u64 2) (.var .u64 3)))
set_option maxHeartbeats 1000000 in
theorem od_any (hw : 0 ≤ w) (n r : Int) (hn : n = w % 40 + 1) (hr : r = at_.tmod n) (hr2 : r < n) (hneg : 0 ≤ r) (heq : a ≠ b) (W : World) : Calls Try.prog 7 #[.int .u8 w, .int .i64 at_, .int .u64 a, .int .u64 b, .int .u64 c] W fun e w' => e = .returned (.bool true) ∧ Quiet W w' := by
  obtain ⟨S, hS⟩ : ∃ S, S = s9 [w, at_, a, b, c, r, n, r + n] := ⟨_, rfl⟩
  have hΦ : S.Φ 9 [] = 1 := by rw [hS]; rfl
  have n0 : 0 < n ∧ n < 41 := by omega
  have dn : nT.den S = some [n] := by
    rw [hS]
    refine den_bin (k := .i64) (a := w % 40) (den_conv .i64 (x := w % 40) (den_bin (k := .u8) (r := w % 40) rfl (den_lit _ _) ?_) (wi64 (by omega) (by omega))) (den_lit _ _) ?_
    · show (if (40 : Int) = 0 then none else some (Value.int .u8 (w.tmod 40))) = _
      rw [if_neg (by decide), Int.tmod_eq_emod_of_nonneg hw]
    · show some (Value.int .i64 (IntKind.i64.wrap (w % 40 + 1))) = _
      rw [wi64 (by omega) (by omega), hn]
  have dr : rT.den S = some [r] := by
    rw [hS]
    refine den_bin (k := .i64) (a := at_) (b := n) rfl rfl ?_
    show (if n = 0 then none else some (Value.int .i64 (at_.tmod n))) = _
    rw [if_neg (by omega), hr]
  have d0 : od0.den S = some [b2i false] := by rw [hS]; exact fls (p := n < 0) (by omega)
  have d1 : od1.den S = some [b2i false] := by rw [hS]; exact fls (p := 2097152 < n) (by omega)
  have d2 : od2.den S = some [b2i true] := by rw [hS]; exact tr (p := 0 ≤ n) (by omega)
  have d3 : od3.den S = some [b2i true] := by rw [hS]; exact tr (p := n < 4194304) (by omega)
  have d4 : od4.den S = some [b2i false] := by rw [hS]; exact fls (p := r < 0) (by omega)
  have d5 : od5.den S = some [b2i false] := by rw [hS]; exact fls (p := n ≤ r) (by omega)
  have d6 : od6.den S = some [b2i true] := by rw [hS]; exact tr (p := 0 ≤ r) (by omega)
  have d7 : od7.den S = some [b2i true] := by rw [hS]; exact tr (p := r < n) (by omega)
  have d8 : od8.den S = some [b2i true] := by rw [hS]; exact tr (p := a ≠ b) (by omega)
  have d9 : od9.den S = some [b2i true] := by rw [hS]; exact tr (p := a = a) rfl
  have d10 : od10.den S = some [b2i true] := by rw [hS]; exact tr (p := b2i false = b2i (decide (a = b))) (by rw [decide_eq_false (by omega)])
  have d11 : od11.den S = some [b2i true] := by rw [hS]; exact tr (p := IntKind.u64.wrap (a + b) = IntKind.u64.wrap (a + b)) rfl
  exact symIs env (al_is aw29 true (by kernel_rfl) (aw29_den hΦ) (al_is od11 true (by kernel_rfl) d11 (al_is od10 true (by kernel_rfl) d10 (al_is od9 true (by kernel_rfl) d9 (al_is od8 true (by kernel_rfl) d8 (al_is od7 true (by kernel_rfl) d7 (al_is od6 true (by kernel_rfl) d6 (al_is od5 false (by kernel_rfl) d5 (al_is od4 false (by kernel_rfl) d4 (al_is od3 true (by kernel_rfl) d3 (al_is od2 true (by kernel_rfl) d2 (al_is od1 false (by kernel_rfl) d1 (al_is od0 false (by kernel_rfl) d0 (al_nm rT (.var .i64 5) (by kernel_rfl) dr (by rw [hS]; rfl) (al_nm nT (.var .i64 6) (by kernel_rfl) dn (by rw [hS]; rfl) (AlOk.nil _)))))))))))))))) (one_ok hΦ) (n := 1000) (f := 7)
    (args := [.float .f64 (0 * 512 + kI .u8), .float .f64 (1 * 512 + kI .i64), .float .f64 (2 * 512 + kI .u64), .float .f64 (3 * 512 + kI .u64), .float .f64 (4 * 512 + kI .u64)]) (args' := [.int .u8 w, .int .i64 at_, .int .u64 a, .int .u64 b, .int .u64 c]) true (fun G => by kernel_rfl)
    (fun G ι => by subst hS; exact vs_sym rfl (vs_sym rfl (vs_sym rfl (vs_sym rfl (vs_sym rfl vs_nil))))) W (gok W) (by rw [hS]; rfl)
theorem once_any (hw : 0 ≤ w) (W : World) : Calls Try.prog 7 #[.int .u8 w, .int .i64 at_, .int .u64 a, .int .u64 b, .int .u64 c] W fun e w' => e = .returned (.bool true) ∧ Quiet W w' := by
  have h1 : 0 < w % 40 + 1 := by omega
  have h2 := Int.lt_tmod_of_pos at_ h1
  have h3 := Int.tmod_lt_of_pos at_ h1
  by_cases hneg : at_.tmod (w % 40 + 1) < 0 <;> by_cases heq : a = b
  · exact oa_any w at_ a b c hw _ _ rfl rfl h2 hneg heq W
  · exact ob_any w at_ a b c hw _ _ rfl rfl h2 hneg heq W
  · exact oc_any w at_ a b c hw _ _ rfl rfl h3 (by omega) heq W
  · exact od_any w at_ a b c hw _ _ rfl rfl h3 (by omega) heq W
end
end Go.Proofs.Ytpoomgmehielcaa
