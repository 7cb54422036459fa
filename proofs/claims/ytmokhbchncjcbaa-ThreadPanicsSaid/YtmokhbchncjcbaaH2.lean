/-
  Stage 5: what ThreadPanics asks of numbers that are not known: a remainder; a number is itself. No condition.
-/
import Derived.Test.YtmokhbchncjcbaaH0
namespace Go.Proofs.Ytmokhbchncjcbaa
open Go.Ev Go.RowKit Go.Conc
set_option maxRecDepth 100000
def obR (a k : Int) : Ob := ⟨.rem, 5, .tmp 11, .const (.int .u8 21), 5, .int .u8 a, .int .u8 21, .int .u8 k⟩
def obE (n : Int) : Ob := ⟨.eql, 20, .tmp 4, .tmp 6, 20, .iface 3 (.int .i64 n), .iface 3 (.int .i64 n), .bool true⟩
theorem obR_ok {a k : Int} (h : a.tmod 21 = k) : ObOk Try.prog (obR a k) := by
  intro ρ o ho hx hy w
  have hx : ρ (.tmp 11) = .int .u8 a := hx
  have hy : ρ (.const (.int .u8 21)) = .int .u8 21 := hy
  have e : execOp ρ o = (do Pure.pure (.value (← (do eqGuard .rem 5 (.tmp 11) (.const (.int .u8 21)) (ρ (.tmp 11)) (ρ (.const (.int .u8 21))); binOp .rem 5 (ρ (.tmp 11)) (ρ (.const (.int .u8 21))))))) := by unfold execOp; rw [ho]; rfl
  rw [e, hx, hy]
  subst h
  exact ⟨by kernel_rfl, by kernel_rfl⟩
theorem obE_ok (n : Int) : ObOk Try.prog (obE n) := by
  intro ρ o ho hx hy w
  have hx : ρ (.tmp 4) = .iface 3 (.int .i64 n) := hx
  have hy : ρ (.tmp 6) = .iface 3 (.int .i64 n) := hy
  have e : execOp ρ o = (do Pure.pure (.value (← (do eqGuard .eql 20 (.tmp 4) (.tmp 6) (ρ (.tmp 4)) (ρ (.tmp 6)); binOp .eql 20 (ρ (.tmp 4)) (ρ (.tmp 6)))))) := by unfold execOp; rw [ho]; rfl
  rw [e, hx, hy]
  have r : (do Pure.pure (.value (← (do eqGuard .eql 20 (.tmp 4) (.tmp 6) (.iface 3 (.int .i64 n)) (.iface 3 (.int .i64 n)); binOp .eql 20 (.iface 3 (.int .i64 n)) (.iface 3 (.int .i64 n))))) : Sem Next).run Try.prog w = .ok (.value (.bool (n == n))) w := by kernel_rfl
  refine ⟨?_, by kernel_rfl⟩
  rw [r]
  simp [obE]
end Go.Proofs.Ytmokhbchncjcbaa
