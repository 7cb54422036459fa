/-
  GeomApart: the rounds of its loops. Conditions: the invariants.
-/
import Derived.Test.YtigbcepnbpibaaaDoorGA1
namespace Go.Proofs.YtigbcepnbpibaaaDoor
open Go.Ev Go.RowKit
set_option maxRecDepth 100000
set_option linter.unusedVariables false
def lpAP : Mrk := (14, [1, 1, 1, 1, 1, 0, 1, 0])
def lpAT : Mrk := (14, [1, 1, 1, 1, 1, 1, 0, 1, 0])
def lpAN : Mrk := (14, [1, 1, 1, 1, 1, 1, 1, 0, 1, 0])
def lpAC : Mrk := (4, [1, 1, 1, 1, 1, 1, 0, 1, 0])
def lpAR : Mrk := (14, [1, 1, 1, 1, 1, 1, 0, 1, 0, 0, 1, 0, 0, 1, 1, 1, 0])
noncomputable abbrev ΛA : Nat → Option Code := lamOf Tryd.prog [lpAP, lpAT, lpAN, lpAC, lpAR]
noncomputable abbrev ftA : Nat → Option Func := ftM Tryd.prog [lpAP, lpAT, lpAN, lpAC, lpAR]
theorem envA : @EnvOk ⟨ΛA⟩ Tryd.prog ftA := envM env [lpAP, lpAT, lpAN, lpAC, lpAR] (by kernel_rfl)
theorem codeAP : codeAt Tryd.prog lpAP = some (.loop (cAt Tryd.prog lpAP)) := by kernel_rfl
theorem fineAP : fineC Tryd.prog.globals.size (cAt Tryd.prog lpAP) = true := by kernel_rfl
theorem codeAT : codeAt Tryd.prog lpAT = some (.loop (cAt Tryd.prog lpAT)) := by kernel_rfl
theorem fineAT : fineC Tryd.prog.globals.size (cAt Tryd.prog lpAT) = true := by kernel_rfl
theorem codeAN : codeAt Tryd.prog lpAN = some (.loop (cAt Tryd.prog lpAN)) := by kernel_rfl
theorem fineAN : fineC Tryd.prog.globals.size (cAt Tryd.prog lpAN) = true := by kernel_rfl
theorem codeAC : codeAt Tryd.prog lpAC = some (.loop (cAt Tryd.prog lpAC)) := by kernel_rfl
theorem fineAC : fineC Tryd.prog.globals.size (cAt Tryd.prog lpAC) = true := by kernel_rfl
theorem codeAR : codeAt Tryd.prog lpAR = some (.loop (cAt Tryd.prog lpAR)) := by kernel_rfl
theorem fineAR : fineC Tryd.prog.globals.size (cAt Tryd.prog lpAR) = true := by kernel_rfl
theorem Geo.no {S : Sy} (c : Ctr) (h : c ∈ ([] : List Ctr)) {gs : Gs} : CtrOk Tryd.prog S gs c := by simp at h
section
variable {ty : TypeId}
end
end Go.Proofs.YtigbcepnbpibaaaDoor
