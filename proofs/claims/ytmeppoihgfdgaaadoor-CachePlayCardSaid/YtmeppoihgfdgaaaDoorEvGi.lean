/-
  The evaluator: a slice that is given, as an input; small helps for rounds. No condition.
-/
import Derived.Test.YtmeppoihgfdgaaaDoorEvX3
namespace Go.Ev
open Go.RowKit

/-- A slice whose elements are numbers and truths, or structs of them, as it lies in a world: of each of its elements' cells, what it holds. -/
def SlIn (w : World) (ks : List (Option IntKind)) (v : Value) : Prop := v = .slice none 0 0 ∨ ∃ (a : Addr) (len cap : Nat), v = .slice (some a) len cap ∧ len < 9223372036854775808 ∧ ∀ j, j < len → ∀ m k, ks[m]? = some k →
  ∃ n, w.cell? (a.add (j * ks.length + m)) = some (kV k n) ∧ (∀ k', k = some k' → (Lit.int k' n).wf = true)
theorem inpL_one {x : Inp} {a : Addr} (h : x.a = some a) (hn : x.n ≠ 0) : inpL [x] a.block = some x.obj := by
  have e : (Nat.beq a.block a.block && !Nat.beq x.n 0) = true := by
    have : Nat.beq x.n 0 = false := by
      cases hb : Nat.beq x.n 0 with
      | false => rfl
      | true => exact absurd (Nat.eq_of_beq_eq_true hb) hn
    simp [this]
  unfold inpL
  simp only [List.find?_cons, h, e]
/-- The input that such a slice is, by a number of its own, and what its functions are to answer. -/
theorem inp_of {w : World} {ks : List (Option IntKind)} {v : Value} (hks : 0 < ks.length) (h : SlIn w ks v) (f : Nat) : ∃ (x : Inp) (F : Nat → Nat → Int), x.ks = ks ∧ x.f = f ∧ v = .slice x.a x.n x.cap ∧ x.n < 9223372036854775808 ∧
    (∀ m k j, ks[m]? = some (some k) → j < x.n → (Lit.int k (F m j)).wf = true) ∧
    (∀ Φ : Nat → List Int → Int, (∀ m j : Nat, m < ks.length → Φ (f + m) [(j : Int)] = F m j) → InpOk [x] Φ x) ∧ (∀ b o, inpL [x] b = some o → w.heap[b]? = some o) := by
  rcases h with rfl | ⟨a, len, cap, rfl, hmax, hc⟩
  · refine ⟨⟨none, 0, 0, default, ks, f⟩, fun _ _ => 0, rfl, rfl, rfl, (show (0 : Nat) < 9223372036854775808 by omega), fun m k j _ hj => by simp at hj, fun Φ _ => .inl rfl, fun b o hb => ?_⟩
    simp [inpL] at hb
  · by_cases hz : len = 0
    · subst hz
      refine ⟨⟨some a, 0, cap, default, ks, f⟩, fun _ _ => 0, rfl, rfl, rfl, hmax, fun m k j _ hj => by simp at hj, fun Φ _ => .inl rfl, fun b o hb => ?_⟩
      simp [inpL] at hb
    · have c0 := hc 0 (by omega) 0 ks[0] (by simp [hks])
      obtain ⟨n0, h0, _⟩ := c0
      have hk : ∀ j, j < len → ∀ m, m < ks.length → ∃ n, w.cell? (a.add (j * ks.length + m)) = some (kV (ks.getD m none) n) ∧ (∀ k', ks.getD m none = some k' → (Lit.int k' n).wf = true) := fun j hj m hm => hc j hj m _ (by rw [List.getD_eq_getElem?_getD, List.getElem?_eq_getElem hm]; rfl)
      let F : Nat → Nat → Int := fun m j => if h : j < len ∧ m < ks.length then (hk j h.1 m h.2).choose else 0
      have hF : ∀ j, j < len → ∀ m, m < ks.length → w.cell? (a.add (j * ks.length + m)) = some (kV (ks.getD m none) (F m j)) ∧ (∀ k', ks.getD m none = some k' → (Lit.int k' (F m j)).wf = true) := fun j hj m hm => by
        have e : F m j = (hk j hj m hm).choose := dif_pos ⟨hj, hm⟩
        rw [e]
        exact (hk j hj m hm).choose_spec
      have hobj : ∃ cs t fz, w.heap[a.block]? = some (.cells cs t fz) ∧ a.spot = none := by
        have e : a.add (0 * ks.length + 0) = a := by simp [Addr.add]
        rw [e] at h0
        unfold World.cell? at h0
        split at h0
        · rename_i cs t fz hh
          by_cases hs : a.spot.isSome = true
          · rw [if_pos hs] at h0; simp at h0
          · exact ⟨cs, t, fz, hh, by simpa using hs⟩
        · simp at h0
      obtain ⟨cs, t, fz, hh, hsp⟩ := hobj
      have ha : a = ⟨a.block, a.off, none⟩ := by cases a; simp_all
      refine ⟨⟨some a, len, cap, .cells cs t fz, ks, f⟩, F, rfl, rfl, rfl, hmax, fun m k j hm hj => ?_, fun Φ hΦ => .inr ⟨a, cs, t, fz, rfl, hsp, ?_, rfl, fun j hj m k hm => ?_⟩, fun b o hb => ?_⟩
      · have hml : m < ks.length := (List.getElem?_eq_some_iff.1 hm).1
        exact (hF j hj m hml).2 k (by rw [List.getD_eq_getElem?_getD, hm]; rfl)
      · exact inpL_one rfl hz
      · have hm' : ks[m]? = some k := hm
        have hml : m < ks.length := (List.getElem?_eq_some_iff.1 hm').1
        have := (hF j hj m hml).1
        rw [ha, cell_add hh] at this
        show cs[a.off + (j * ks.length + m)]? = some (kV k (Φ (f + m) [(j : Int)]))
        rw [hΦ m j hml, this, List.getD_eq_getElem?_getD, hm']
        rfl
      · simp only [inpL, List.find?_cons, List.find?_nil] at hb
        split at hb
        · rename_i x hx
          split at hx
          · rename_i hc'
            simp only [Option.some.injEq] at hx hb
            subst hx
            simp only [Bool.and_eq_true] at hc'
            rw [← Nat.eq_of_beq_eq_true hc'.1, hh, ← hb]
          · simp at hx
        · simp at hb

/-- The name of the k-th given slice: its length's variable, its first function, its cells' digits. -/
def dsc (ln f : Nat) (ks : List Nat) : Nat := ln + 1024 * f + 67108864 * (ks.foldr (fun d r => d + 16 * r) 0)
def inS (k d : Nat) : Value := .float .f32 (mk 1 0 (d * 4096 + k) 0)
theorem vs_inp0 {S : Sy} {G : Nat → Option Obj} {ι : Inj} {k d : Nat} {x : Inp} {vs ws : List Value} (hk : k < 64) (hx : S.I[k]? = some x) (hks : x.ks = ksOf 16 (dK d)) (hf : x.f = dF d) (hn : S.ρ (dL d) = x.n) (h : VsOk S G ι vs ws) :
    VsOk S G ι (inS k d :: vs) (.slice x.a x.n x.cap :: ws) := by
  refine ⟨?_, h⟩
  letI := symS S G
  refine VRel.inp (show ptrS S _ = some _ from ?_)
  have e1 : cT (mk 1 0 (d * 4096 + k) 0) = 1 := mk_T (by decide) (by decide)
  have e2 : cA (mk 1 0 (d * 4096 + k) 0) = d * 4096 + k := mk_A (by decide) (by decide) (by decide)
  unfold ptrS
  rw [if_pos e1, e2, show iK (d * 4096 + k) = k by unfold iK; omega, hx]
  dsimp only
  rw [show iD (d * 4096 + k) = d by unfold iD; omega, if_pos]
  unfold dOk
  simp [hks, hf, hn]
theorem vs_inp {S : Sy} {G : Nat → Option Obj} {ι : Inj} {k d : Nat} {x : Inp} {vs ws : List Value} (hk : k < 64) (_ : Nat.ble d 1125899906842624 = true) (hx : S.I[k]? = some x) (hks : x.ks = ksOf 16 (dK d)) (hf : x.f = dF d) (hn : S.ρ (dL d) = x.n) (h : VsOk S G ι vs ws) :
    VsOk S G ι (inS k d :: vs) (.slice x.a x.n x.cap :: ws) := vs_inp0 hk hx hks hf hn h
/-- The same, other numbers. -/
def Sy.setρ (S : Sy) (ρ : Nat → Int) : Sy := ⟨ρ, S.Φ, S.I, S.ok⟩
/-- Some variables set. -/
def upd (ρ : Nat → Int) : List (Nat × Int) → Nat → Int
  | [], i => ρ i
  | (j, n) :: l, i => if i = j then n else upd ρ l i

theorem tr {p : Prop} [Decidable p] (h : p) : some [b2i (decide p)] = some [b2i true] := by rw [decide_eq_true h]
theorem fls {p : Prop} [Decidable p] (h : ¬ p) : some [b2i (decide p)] = some [b2i false] := by rw [decide_eq_false h]
theorem sm {a b : Int} (h : a = b) : some [a] = some [b] := by rw [h]
theorem al_nm {S : Sy} {al : List (Nat × Value)} (t u : Tm) (he : (t.ok && u.ok && Nat.beq (cK t.enc) (cK u.enc) && (isBc u.enc == isBc t.enc)) = true) {n : Int} (hb : t.den S = some [n]) (hd : u.den S = some [n]) (ha : AlOk S al) : AlOk S ((t.enc, .float .f64 u.enc) :: al) := by
  simp only [Bool.and_eq_true] at he
  obtain ⟨⟨⟨h1, h2⟩, h3⟩, h4⟩ := he
  refine al_sym t u ?_ hb hd ha
  simp only [Bool.and_eq_true]
  exact ⟨⟨⟨⟨⟨Nat.beq_refl _, h1⟩, Nat.beq_refl _⟩, h2⟩, h3⟩, h4⟩
theorem w_i64 {x : Int} (h0 : -9223372036854775808 ≤ x) (h1 : x < 9223372036854775808) : IntKind.i64.wrap x = x := by
  simp only [IntKind.wrap, IntKind.bits, IntKind.signed]
  simp
  split <;> omega
theorem w_u64 {x : Int} (h0 : 0 ≤ x) (h1 : x < 18446744073709551616) : IntKind.u64.wrap x = x := by
  simp only [IntKind.wrap, IntKind.bits, IntKind.signed]
  simp
  omega
theorem w_u8 {x : Int} (h0 : 0 ≤ x) (h1 : x < 256) : IntKind.u8.wrap x = x := by
  simp only [IntKind.wrap, IntKind.bits, IntKind.signed]
  simp
  omega
theorem mod_u64 (x : Int) : IntKind.u64.wrap x = x % 18446744073709551616 := by
  simp [IntKind.wrap, IntKind.bits, IntKind.signed]
theorem mod_u8 (x : Int) : IntKind.u8.wrap x = x % 256 := by
  simp [IntKind.wrap, IntKind.bits, IntKind.signed]
end Go.Ev
