/-
  A closed law, its body's pieces together. Condition: the variable holds its table.
-/
import Derived.Test.YtllmdpfngmbjgaaDoorSTw0
namespace Go.Proofs.YtllmdpfngmbjgaaDoor
open Go.Ev Go.RowKit
set_option maxRecDepth 100000
noncomputable def STw_q0_0 (_ : Nat → Option Obj) : List Pc := []
theorem STw_g0 (G : Nat → Option Obj) (_ : @Go.Ev.Good (noSyms G) noMarks Tryd.prog (run0 Tryd.prog (ftOf Tryd.prog) (knG kng) G 100000)) : PcsOk Tryd.prog G (STw_q0_0 G) := trivial
theorem STw_f0 (t : TypeId) (G : Nat → Option Obj) : endL Tryd.prog (ftOf Tryd.prog) 21 (runPc Tryd.prog (ftOf Tryd.prog) G (run0 Tryd.prog (ftOf Tryd.prog) (knG kng) G 100000) 100000 (STw_q0_0 G) STw_L0_0 STw_A0_0 (H0g Tryd.prog (gsT t))) = some (.val (.bool true), (STw_R0 t)) := by
  exact STw_e0 t G
theorem STw_ok {t : TypeId} {w : World} (hw : GOk Tryd.prog (gsT t) w) : KnOk Tryd.prog w ⟨21, #[], (.bool true)⟩ := KnOk.itemsPc env (by kernel_rfl) kng (by kernel_rfl) (L := STw_L0_0) (A0 := STw_A0_0) rfl rfl (fun G => STw_q0_0 G) (fun G hg => STw_g0 G hg) (fun G => by rw [STw_f0 t G]; rfl) (by kernel_rfl) hw (kng_ok hw)
end Go.Proofs.YtllmdpfngmbjgaaDoor
