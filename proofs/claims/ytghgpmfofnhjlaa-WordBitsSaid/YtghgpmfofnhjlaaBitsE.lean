/-
  WordBits: every map, every many. No condition.
-/
import Derived.Test.YtghgpmfofnhjlaaBitsA
import Derived.Test.YtghgpmfofnhjlaaBitsB
import Derived.Test.YtghgpmfofnhjlaaBitsC
import Derived.Test.YtghgpmfofnhjlaaBitsD
namespace Go.Proofs.Ytghgpmfofnhjlaa
open Go.Ev Go.RowKit
set_option maxRecDepth 100000
theorem bits_cover : ((List.range 256).all fun m => (row0 ++ row1 ++ row2 ++ row3 ++ row4 ++ row5 ++ row6 ++ row7 ++ row8 ++ row9 ++ row10 ++ row11 ++ row12 ++ row13 ++ row14 ++ row15 ++ row16 ++ row17 ++ row18 ++ row19 ++ row20 ++ row21 ++ row22 ++ row23 ++ row24 ++ row25 ++ row26 ++ row27 ++ row28 ++ row29 ++ row30 ++ row31).any fun x => Nat.beq x.1 m) = true := by kernel_rfl
theorem bits_all {m : Nat} (hm : m < 256) (n : Int) : bitsAt m n = true := by
  have h := bits_cover
  rw [List.all_eq_true] at h
  have h := h m (List.mem_range.2 hm)
  rw [List.any_eq_true] at h
  obtain ⟨x, hx, he⟩ := h
  rw [Nat.beq_eq] at he
  subst he
  simp only [List.mem_append] at hx
  exact hx.elim (fun hx => hx.elim (fun hx => hx.elim (fun hx => hx.elim (fun hx => hx.elim (fun hx => hx.elim (fun hx => hx.elim (fun hx => hx.elim (fun hx => hx.elim (fun hx => hx.elim (fun hx => hx.elim (fun hx => hx.elim (fun hx => hx.elim (fun hx => hx.elim (fun hx => hx.elim (fun hx => hx.elim (fun hx => hx.elim (fun hx => hx.elim (fun hx => hx.elim (fun hx => hx.elim (fun hx => hx.elim (fun hx => hx.elim (fun hx => hx.elim (fun hx => hx.elim (fun hx => hx.elim (fun hx => hx.elim (fun hx => hx.elim (fun hx => hx.elim (fun hx => hx.elim (fun hx => hx.elim (fun hx => hx.elim (fun hx => rowAt_ok row0_ok x hx n) (fun hx => rowAt_ok row1_ok x hx n)) (fun hx => rowAt_ok row2_ok x hx n)) (fun hx => rowAt_ok row3_ok x hx n)) (fun hx => rowAt_ok row4_ok x hx n)) (fun hx => rowAt_ok row5_ok x hx n)) (fun hx => rowAt_ok row6_ok x hx n)) (fun hx => rowAt_ok row7_ok x hx n)) (fun hx => rowAt_ok row8_ok x hx n)) (fun hx => rowAt_ok row9_ok x hx n)) (fun hx => rowAt_ok row10_ok x hx n)) (fun hx => rowAt_ok row11_ok x hx n)) (fun hx => rowAt_ok row12_ok x hx n)) (fun hx => rowAt_ok row13_ok x hx n)) (fun hx => rowAt_ok row14_ok x hx n)) (fun hx => rowAt_ok row15_ok x hx n)) (fun hx => rowAt_ok row16_ok x hx n)) (fun hx => rowAt_ok row17_ok x hx n)) (fun hx => rowAt_ok row18_ok x hx n)) (fun hx => rowAt_ok row19_ok x hx n)) (fun hx => rowAt_ok row20_ok x hx n)) (fun hx => rowAt_ok row21_ok x hx n)) (fun hx => rowAt_ok row22_ok x hx n)) (fun hx => rowAt_ok row23_ok x hx n)) (fun hx => rowAt_ok row24_ok x hx n)) (fun hx => rowAt_ok row25_ok x hx n)) (fun hx => rowAt_ok row26_ok x hx n)) (fun hx => rowAt_ok row27_ok x hx n)) (fun hx => rowAt_ok row28_ok x hx n)) (fun hx => rowAt_ok row29_ok x hx n)) (fun hx => rowAt_ok row30_ok x hx n)) (fun hx => rowAt_ok row31_ok x hx n)
theorem bits_any {m : Int} (h0 : 0 ≤ m) (h1 : m < 256) (n : Int) (w : World) : Calls Try.prog 8 #[.int .u8 m, .int .i64 n] w fun e w' => e = .returned (.bool true) ∧ Grown w w' := by
  cases m with
  | negSucc k => exact absurd h0 (by omega)
  | ofNat k => exact closedK env awOk (by simp [ground1]) (bits_all (Int.ofNat_lt.1 h1) n) w (by rw [noGlobals]; exact Nat.zero_le _)

end Go.Proofs.Ytghgpmfofnhjlaa
