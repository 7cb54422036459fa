/-
  WordBits, run by run: a map and a class of many. No condition.
-/
import Derived.Test.YtghgpmfofnhjlaaEnv1
namespace Go.Proofs.Ytghgpmfofnhjlaa
open Go.Ev Go.RowKit
set_option maxRecDepth 100000
noncomputable def bitsAt (m : Nat) (n : Int) : Bool := outIs true (runK Try.prog (ftOf Try.prog) aw 1000 (.fn 8 #[.int .u8 (Int.ofNat m), .int .i64 n]) (H0 Try.prog))
noncomputable def lowAt (m : Nat) : Nat → Bool
  | 0 => bitsAt m 0
  | k + 1 => bitsAt m (Int.ofNat (k + 1)) && lowAt m k
noncomputable def allAt (m g j : Nat) : Bool := bitsAt m (Int.negSucc j) && lowAt m g && bitsAt m (Int.ofNat (j + (g + 1)))
noncomputable def rowAt : List (Nat × Nat) → Nat → Bool
  | [], _ => true
  | (m, g) :: l, j => allAt m g j && rowAt l j
theorem lowAt_ok {m : Nat} : ∀ (k : Nat), lowAt m k = true → ∀ i, i ≤ k → bitsAt m (Int.ofNat i) = true
  | 0, h, i, hi => by
    have : i = 0 := by omega
    subst this
    exact h
  | k + 1, h, i, hi => by
    unfold lowAt at h
    simp only [Bool.and_eq_true] at h
    by_cases e : i = k + 1
    · subst e; exact h.1
    · exact lowAt_ok k h.2 i (by omega)
theorem allAt_ok {m g : Nat} (h : ∀ j, allAt m g j = true) (n : Int) : bitsAt m n = true := by
  have h' := fun j => h j
  simp only [allAt, Bool.and_eq_true] at h'
  cases n with
  | negSucc j => exact (h' j).1.1
  | ofNat i =>
    by_cases hi : i ≤ g
    · exact lowAt_ok g (h' 0).1.2 i hi
    · have := (h' (i - (g + 1))).2
      rw [show i - (g + 1) + (g + 1) = i by omega] at this
      exact this
theorem rowAt_ok : ∀ {l : List (Nat × Nat)}, (∀ j, rowAt l j = true) → ∀ x, x ∈ l → ∀ n, bitsAt x.1 n = true
  | [], _, x, hx, _ => by simp at hx
  | (m, g) :: l, h, x, hx, n => by
    have h' := fun j => h j
    simp only [rowAt, Bool.and_eq_true] at h'
    rcases List.mem_cons.1 hx with rfl | hx
    · exact allAt_ok (fun j => (h' j).1) n
    · exact rowAt_ok (fun j => (h' j).2) x hx n

end Go.Proofs.Ytghgpmfofnhjlaa
