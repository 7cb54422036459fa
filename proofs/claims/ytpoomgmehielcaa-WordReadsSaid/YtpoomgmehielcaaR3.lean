/-
  WordReads: First, Full, Ver; the law's own loop, as plain functions. Conditions: a map is from 0 to 255.
-/
import Derived.Test.YtpoomgmehielcaaR2
import Derived.Test.YtpoomgmehielcaaEvX3
namespace Go.Proofs.Ytpoomgmehielcaa
open Go.Ev Go.RowKit
set_option maxRecDepth 100000
/-- The lowest bit that is there, of those from 8 - j on; -1, if none is. -/
def fo (x : Int) : Nat → Int
  | 0 => -1
  | j + 1 => if x / 2 ^ (7 - j) % 2 = 1 then ((7 - j : Nat) : Int) else fo x j
/-- Are all below n there, of those from 8 - j on? -/
def fu (x n : Int) : Nat → Bool
  | 0 => decide (n ≤ 8)
  | j + 1 => if x / 2 ^ (7 - j) % 2 = 1 then fu x n j else (if ((7 - j : Nat) : Int) < n then false else fu x n j)
theorem low8 (x : Int) (i : Nat) (h : i ≤ 7) : x % 256 / 2 ^ i % 2 = x / 2 ^ i % 2 := by
  rcases i with _ | _ | _ | _ | _ | _ | _ | _ | i
  all_goals first | (exfalso; omega) | (simp only [Nat.reduceAdd, Int.pow_succ, Int.pow_zero]; omega)
theorem fo_low (x : Int) : ∀ j, j ≤ 8 → fo (x % 256) j = fo x j
  | 0, _ => rfl
  | j + 1, h => by
    unfold fo
    rw [low8 x (7 - j) (by omega), fo_low x j (by omega)]
theorem fu_low (x n : Int) : ∀ j, j ≤ 8 → fu (x % 256) n j = fu x n j
  | 0, _ => rfl
  | j + 1, h => by
    unfold fu
    rw [low8 x (7 - j) (by omega), fu_low x n j (by omega)]
theorem fu_iff (x n : Int) : ∀ j, j ≤ 8 → (fu x n j = true ↔ n ≤ 8 ∧ ∀ i : Nat, 8 - j ≤ i → i ≤ 7 → (i : Int) < n → x / 2 ^ i % 2 = 1)
  | 0, _ => by
    simp only [fu, decide_eq_true_eq]
    exact ⟨fun h => ⟨h, fun i h1 h2 => by omega⟩, fun h => h.1⟩
  | j + 1, hj => by
    have ih := fu_iff x n j (by omega)
    unfold fu
    by_cases hb : x / 2 ^ (7 - j) % 2 = 1
    · rw [if_pos hb, ih]
      refine ⟨fun ⟨h1, h2⟩ => ⟨h1, fun i q1 q2 q3 => ?_⟩, fun ⟨h1, h2⟩ => ⟨h1, fun i q1 q2 q3 => h2 i (by omega) q2 q3⟩⟩
      by_cases hi : i = 7 - j
      · rw [hi]; exact hb
      · exact h2 i (by omega) q2 q3
    · rw [if_neg hb]
      by_cases hn : ((7 - j : Nat) : Int) < n
      · rw [if_pos hn]
        refine ⟨fun h => by simp at h, fun ⟨h1, h2⟩ => absurd (h2 (7 - j) (by omega) (by omega) hn) hb⟩
      · rw [if_neg hn, ih]
        refine ⟨fun ⟨h1, h2⟩ => ⟨h1, fun i q1 q2 q3 => ?_⟩, fun ⟨h1, h2⟩ => ⟨h1, fun i q1 q2 q3 => h2 i (by omega) q2 q3⟩⟩
        by_cases hi : i = 7 - j
        · subst hi; exact absurd q3 hn
        · exact h2 i (by omega) q2 q3
theorem allN_at {n : Nat} {f : Nat → Bool} (h : allN n f = true) (i : Nat) (hi : i < n) : f i = true := by
  unfold allN at h
  rw [List.all_eq_true] at h
  exact h i (List.mem_range.2 hi)
theorem eqI_at {a b : Int} (h : eqI a b = true) : a = b := by
  letI := noSyms fun _ => none
  rw [eqI_eq] at h
  simpa using h
/-- How many bits are there, from 0 on. -/
def ones (m : Nat) : Nat → Nat
  | 0 => 0
  | f + 1 => if m % 2 = 1 then ones (m / 2) f + 1 else 0
def onesOk (m : Nat) : Bool := Nat.ble (ones m 8) 8 && ((List.range 8).all fun i => !Nat.ble (i + 1) (ones m 8) || Nat.beq (m / 2 ^ i % 2) 1) && (Nat.beq (ones m 8) 8 || !Nat.beq (m / 2 ^ (ones m 8) % 2) 1)
theorem ones_ok : allN 256 onesOk = true := by kernel_rfl
theorem fu_ones (m : Nat) (hm : m < 256) (n : Int) : fu m n 8 = decide (n ≤ (ones m 8 : Int)) := by
  have h := allN_at ones_ok m hm
  unfold onesOk at h
  simp only [Bool.and_eq_true, Bool.or_eq_true, List.all_eq_true, List.mem_range, Bool.not_eq_true'] at h
  obtain ⟨⟨h1, h2⟩, h3⟩ := h
  have h1 := Nat.le_of_ble_eq_true h1
  have cast : ∀ i : Nat, ((m : Int) / 2 ^ i % 2 = 1) ↔ m / 2 ^ i % 2 = 1 := fun i => by
    have e : ((m : Int) / 2 ^ i % 2) = ((m / 2 ^ i % 2 : Nat) : Int) := by norm_cast
    rw [e]; omega
  rw [Bool.eq_iff_iff, fu_iff _ _ 8 (Nat.le_refl _), decide_eq_true_eq]
  constructor
  · rintro ⟨q1, q2⟩
    rcases h3 with h3 | h3
    · have := Nat.eq_of_beq_eq_true h3; omega
    · rcases Int.lt_or_le (ones m 8 : Int) n with hlt | hle
      · exfalso
        by_cases h8 : ones m 8 = 8
        · omega
        · have := (cast _).1 (q2 (ones m 8) (by omega) (by omega) hlt)
          rw [this] at h3
          simp at h3
      · exact hle
  · intro q
    refine ⟨by omega, fun i q1 q2 q3 => (cast i).2 ?_⟩
    rcases h2 i (by omega) with h | h
    · have : ¬ i + 1 ≤ ones m 8 := fun hh => by rw [Nat.ble_eq_true_of_le hh] at h; simp at h
      omega
    · exact Nat.eq_of_beq_eq_true h

def sb0 : Sy := sy []
def fsOut (r : Option Value) (n : Int) : Bool := match r with
  | some (.int .i64 k) => eqI k n
  | _ => false
def geqT (k : Nat) : Tm := .bin .geq (.lit .i64 k) (.var .i64 4)
def flOut (r : Option Value) (k : Nat) : Bool := match r with
  | some (.float .f64 c) => Nat.beq c (geqT k).enc
  | _ => false
def mpA (m : Nat) : Value := .agg #[.int .u8 m, .float .f64 (bsym 1), .float .f64 (2 * 512 + kI .i64), .float .f64 (3 * 512 + kI .u32)]
set_option maxHeartbeats 4000000 in
theorem firstRun (h c v n : Int) (G : Nat → Option Obj) : allN 256 (fun m => fsOut (outV (runS Try.prog (ftOf Try.prog) (AlOk.nil (sy [0, h, c, v, n])) [] G 1000 (.fn 17 #[mpA m]) (H0g Try.prog []))) (fo m 8)) = true := by kernel_rfl
set_option maxHeartbeats 4000000 in
theorem fullRun (h c v n : Int) (G : Nat → Option Obj) : allN 256 (fun m => flOut (outV (runS Try.prog (ftOf Try.prog) (AlOk.nil (sy [0, h, c, v, n])) [] G 1000 (.fn 18 #[mpA m, .float .f64 (4 * 512 + kI .i64)]) (H0g Try.prog []))) (ones m 8)) = true := by kernel_rfl
theorem first_any (m : Nat) (hm : m < 256) (h : Bool) (c v : Int) (w : World) : Calls Try.prog 17 #[.agg #[.int .u8 m, .bool h, .int .i64 c, .int .u32 v]] w fun e w' => e = .returned (.int .i64 (fo m 8)) ∧ Quiet w w' := by
  refine symRun env (AlOk.nil (sy [0, b2i h, c, v, 0])) (hcs0 _) (n := 1000) (args := [mpA m]) (args' := [.agg #[.int .u8 m, .bool h, .int .i64 c, .int .u32 v]]) (res := [.one (.int .i64)]) (vs := [.int .i64 (fo m 8)]) (rcs := [lit .i64 (fo m 8)]) (rs := [fo m 8])
    ?_ ⟨ev_lit _ _ _, trivial⟩ (fun G => ?_) (fun G ι => vs_agg (vs_int (vs_bsym (by kernel_rfl) rfl (vs_sym rfl (vs_sym rfl vs_nil)))) vs_nil) w (gok w)
  · simp only [codesP, leafC, vcode, lit_B, lit_K, Bool.not_false, Bool.true_and, Nat.beq_refl, cond_true]
  · have := allN_at (firstRun (b2i h) c v 0 G) m hm
    unfold fsOut at this
    split at this
    · rename_i k hk
      rw [← eqI_at this]
      exact hk
    · simp at this
theorem geq_bc (k : Nat) : isBc (geqT k).enc = true := isBc_mk (kI_lt _) (by decide)
theorem bool_code (c : Nat) (h : isBc c = true) : codesP [.one .bool] [.float .f64 c] = some [c] := by
  simp only [codesP, leafC, vcode, h, cond_true]
theorem geq_code (k : Nat) : codesP [.one .bool] [.float .f64 (geqT k).enc] = some [(geqT k).enc] := bool_code _ (geq_bc k)
theorem geq_ok (k : Nat) : (geqT k).ok = true := by
  simp only [geqT, Tm.ok]
  decide +kernel
theorem geq_den (k : Nat) (m h c v n : Int) : (geqT k).den (sy [m, h, c, v, n]) = some [b2i (decide (n ≤ (k : Int)))] := rfl
theorem full_any (m : Nat) (hm : m < 256) (h : Bool) (c v n : Int) (w : World) : Calls Try.prog 18 #[.agg #[.int .u8 m, .bool h, .int .i64 c, .int .u32 v], .int .i64 n] w fun e w' => e = .returned (.bool (fu m n 8)) ∧ Quiet w w' := by
  refine Calls.mono (symRun env (AlOk.nil (sy [0, b2i h, c, v, n])) (hcs0 _) (n := 1000) (args := [mpA m, .float .f64 (4 * 512 + kI .i64)]) (args' := [.agg #[.int .u8 m, .bool h, .int .i64 c, .int .u32 v], .int .i64 n]) (res := [.one .bool])
    (vs := [.float .f64 (geqT (ones m 8)).enc]) (rcs := [(geqT (ones m 8)).enc]) (rs := [b2i (fu m n 8)])
    (geq_code _) ⟨(Tm.ev_enc _ _ (geq_ok _)).trans (by rw [geq_den, fu_ones m hm n]), trivial⟩ (fun G => ?_) (fun G ι => vs_agg (vs_int (vs_bsym (by kernel_rfl) rfl (vs_sym rfl (vs_sym rfl vs_nil)))) (vs_sym rfl vs_nil)) w (gok w)) fun e w' ⟨h1, h2⟩ => ⟨?_, h2⟩
  · have := allN_at (fullRun (b2i h) c v n G) m hm
    unfold flOut at this
    split at this
    · rename_i k hk
      rw [Nat.eq_of_beq_eq_true this] at hk
      exact hk
    · simp at this
  · rw [h1]
    show Ending.returned (.bool (decide (b2i (fu m n 8) ≠ 0))) = _
    rw [b2i_ne]
def verT : Tm := .conv .u32 (.bin .quo (.var .u64 0) (.lit .u64 4294967296))
theorem ver_any (x : Int) (hx : 0 ≤ x) (hx2 : x < 18446744073709551616) (w : World) : Calls Try.prog 16 #[.int .u64 x] w fun e w' => e = .returned (.int .u32 (x / 4294967296 % 4294967296)) ∧ Quiet w w' := by
  have h1 : x.tdiv 4294967296 = x / 4294967296 := Int.tdiv_eq_ediv_of_nonneg hx
  refine symOne env (AlOk.nil (sy [x])) (hcs0 _) (n := 1000) (args := [.float .f64 (0 * 512 + kI .u64)]) (args' := [.int .u64 x]) (k := .u32) verT (by kernel_rfl) (by kernel_rfl) ?_ (fun G => by kernel_rfl) (fun G ι => vs_sym rfl vs_nil) w (gok w)
  refine den_conv .u32 (den_bin (k := .u64) (r := x / 4294967296) rfl (den_lit _ _) ?_) (by rw [wu32 (by omega) (by omega)]; omega)
  show (if (4294967296 : Int) = 0 then none else some (Value.int .u64 (IntKind.u64.wrap (x.tdiv 4294967296)))) = _
  rw [if_neg (by decide), h1, wrap_u64]
  congr 2
  omega
end Go.Proofs.Ytpoomgmehielcaa
