/-
  Stage 3 in a later seat: the law's own look, as a contract. No condition.
-/
import Derived.Test.YtilddfihdmmjcaaN0
namespace Go.Proofs.Ytilddfihdmmjcaa
open Go.Ev Go.RowKit
set_option maxRecDepth 100000
theorem awakeRun3 (G : Nat → Option Obj) : outIs true (run0 Try.prog (ftOf Try.prog) no G 1000 (.fn 11 #[]) (H0g Try.prog [])) = true := by kernel_rfl
theorem awake_any3 (w : World) : Calls Try.prog 11 #[] w fun e w' => e = .returned (.bool true) ∧ Quiet w w' :=
  closed0 env (K := no) (n := 1000) (gs := []) (b := true) (by kernel_rfl) w (fun _ _ _ h => by simp [no] at h) awakeRun3 (gok w)
def cAw3 : Ctr := ⟨11, [], [.one .bool], 9, yes⟩
theorem cAw3_ok (S : Sy) (h : S.Φ 9 [] = 1) : CtrOk Try.prog S [] cAw3 := by
  intro a ns _ _ hl w _
  obtain rfl := len0 (show ns.length = 0 from hl)
  refine (awake_any3 w).mono fun e w' ⟨h1, h2⟩ => ⟨?_, h2⟩
  rw [h1]
  show _ = Ending.returned (.bool (decide (S.Φ 9 [] ≠ 0)))
  rw [h]; rfl
theorem one_ok3 {S : Sy} (h : S.Φ 9 [] = 1) : ∀ c ∈ [cAw3], CtrOk Try.prog S [] c := fun c hc => by
  rw [List.mem_singleton] at hc
  subst hc
  exact cAw3_ok S h
end Go.Proofs.Ytilddfihdmmjcaa
