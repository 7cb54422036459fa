/-
  GeomKnown, run: it answers true in every world in which the table reads as it is laid.
-/
import Derived.Test.YtacdbgepncimgabDoorEnv2
namespace Go.Proofs.YtacdbgepncimgabDoor
open Go.Ev Go.RowKit
set_option maxRecDepth 100000
theorem knownRun (t : TypeId) (G : Nat → Option Obj) : outIs true (run0 Tryd.prog (ftOf Tryd.prog) no G 1000 (.fn 3 #[]) (H0g Tryd.prog (gsT t))) = true := by kernel_rfl
theorem known_any (w : World) (hw : ∃ ty, GOk Tryd.prog (gsT ty) w) : Calls Tryd.prog 3 #[] w fun e w' => e = .returned (.bool true) ∧ Grown w w' := by
  obtain ⟨ty, hw⟩ := hw
  exact Calls.mono (closed0 env (K := no) (n := 1000) (gs := gsT ty) (b := true) (by kernel_rfl) w (fun _ _ _ h => by simp [no] at h) (fun G => knownRun ty G) hw) fun _ _ ⟨h, x⟩ => ⟨h, x.grown⟩
end Go.Proofs.YtacdbgepncimgabDoor
