/-
  A closed law, its body's pieces together. Condition: the variable holds its table.
-/
import Derived.Test.YtllmdpfngmbjgaaDoorSTa0
namespace Go.Proofs.YtllmdpfngmbjgaaDoor
open Go.Ev Go.RowKit
set_option maxRecDepth 100000
noncomputable def STa_q0_1 (_ : Nat → Option Obj) : List Pc := []
noncomputable def STa_q0_0 (G : Nat → Option Obj) : List Pc := ⟨(run0 Tryd.prog (ftOf Tryd.prog) (knG kngA) G 100000), 188, STa_v0_0⟩ :: STa_q0_1 G
theorem STa_g0 (G : Nat → Option Obj) (hg : @Go.Ev.Good (noSyms G) noMarks Tryd.prog (run0 Tryd.prog (ftOf Tryd.prog) (knG kngA) G 100000)) : PcsOk Tryd.prog G (STa_q0_0 G) := ⟨hg, trivial⟩
theorem STa_f0 (t : TypeId) (G : Nat → Option Obj) : endL Tryd.prog (ftOf Tryd.prog) 3 (runPc Tryd.prog (ftOf Tryd.prog) G (run0 Tryd.prog (ftOf Tryd.prog) (knG kngA) G 100000) 100000 (STa_q0_0 G) STa_L0_0 STa_A0_0 (H0g Tryd.prog (gsT t))) = some (.val (.bool true), (STa_R0 t)) := by
  have e0 : runPc Tryd.prog (ftOf Tryd.prog) G (run0 Tryd.prog (ftOf Tryd.prog) (knG kngA) G 100000) 100000 (STa_q0_0 G) STa_L0_0 STa_A0_0 (H0g Tryd.prog (gsT t)) = runPc Tryd.prog (ftOf Tryd.prog) G (run0 Tryd.prog (ftOf Tryd.prog) (knG kngA) G 100000) 100000 (STa_q0_1 G) STa_L0_1 STa_A0_1 (STa_H0_1 t) := runPc_cons (STa_r0_0 t G)
  rw [e0]
  exact STa_e0 t G
theorem STa_ok {t : TypeId} {w : World} (hw : GOk Tryd.prog (gsT t) w) : KnOk Tryd.prog w ⟨3, #[], (.bool true)⟩ := KnOk.itemsPc env (by kernel_rfl) kngA (by kernel_rfl) (L := STa_L0_0) (A0 := STa_A0_0) rfl rfl (fun G => STa_q0_0 G) (fun G hg => STa_g0 G hg) (fun G => by rw [STa_f0 t G]; rfl) (by kernel_rfl) hw (kngA_ok hw)
end Go.Proofs.YtllmdpfngmbjgaaDoor
