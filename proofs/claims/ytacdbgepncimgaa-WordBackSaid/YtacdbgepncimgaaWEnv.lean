/-
  Stage 1: what the evaluator asks of this program; the law's own look 'awake'; the words and fields, as plain functions. No condition.
-/
import Derived.Test.YtacdbgepncimgaaEvR
import Derived.Test.YtacdbgepncimgaaWM
import Derived.Test.YtacdbgepncimgaaRows
namespace Go.Proofs.Ytacdbgepncimgaa
open Go.Ev Go.RowKit
set_option maxRecDepth 100000
theorem env : EnvOk Try.prog (ftOf Try.prog) := envOk (by kernel_rfl) (by kernel_rfl) (by kernel_rfl)
instance : NoFloat Try.prog := noFloat (by kernel_rfl)
theorem noGlobals : Try.prog.globals.size = 0 := by kernel_rfl
theorem gok (w : World) : GOk Try.prog [] w := ⟨by rw [noGlobals]; exact Nat.zero_le _, rfl, fun x hx => by simp at hx⟩
noncomputable def no : FuncId → Array Value → Option Value := fun _ _ => none
theorem awakeRun (G : Nat → Option Obj) : outIs true (run0 Try.prog (ftOf Try.prog) no G 1000 (.fn 17 #[]) (H0g Try.prog [])) = true := by kernel_rfl
theorem awake_any (w : World) : Calls Try.prog 17 #[] w fun e w' => e = .returned (.bool true) ∧ Quiet w w' :=
  closed0 env (K := no) (n := 1000) (gs := []) (b := true) (by kernel_rfl) w (fun _ _ _ h => by simp [no] at h) awakeRun (gok w)

def refW (i m v : Int) : Int := i % 16777216 + (if m ≠ 0 then 16777216 else 0) + v % 4294967296 * 4294967296
def stateW (k s o v : Int) : Int := k % 4 + s % 65536 * 4 + o % 4096 * 262144 + v % 4294967296 * 4294967296
def pageW (k l c o : Int) : Int := k % 8 + l % 1024 * 8 + c % 4 * 8192 + o % 128 * 65536
def bitsW (m h c v : Int) : Int := m % 256 + v % 4294967296 * 4294967296 + (if h ≠ 0 then (c + 1) % 8 * 256 else 0)
def bitsR (m h c v : Int) : Int := if h ≠ 0 then ((m % 18446744073709551616 + v % 4294967296 * 4294967296) % 18446744073709551616 + (c + 1) % 8 * 256) % 18446744073709551616 else (m % 18446744073709551616 + v % 4294967296 * 4294967296) % 18446744073709551616
/-- What the functions come to, by the numbers of their answers. -/
def Φw : Nat → List Int → Int
  | 0, [i, m, v] => refW i m v
  | 1, [k, s, o, v] => stateW k s o v
  | 2, [k, l, c, o] => pageW k l c o
  | 3, [m, h, c, v] => bitsW m h c v
  | 4, [m, h, c, v] => bitsR m h c v
  | 9, [] => 1
  | 16, [w] => w % 16777216
  | 17, [w] => w / 16777216 % 2
  | 18, [w] => w / 4294967296 % 4294967296
  | 24, [w] => w % 4
  | 25, [w] => w / 4 % 65536
  | 26, [w] => w / 262144 % 4096
  | 27, [w] => w / 4294967296 % 4294967296
  | 32, [w] => w % 8
  | 33, [w] => w / 8 % 1024
  | 34, [w] => w / 8192 % 4
  | 35, [w] => w / 65536 % 128
  | 40, [w] => w % 256
  | 41, [w] => w / 256 % 8
  | 42, [w] => if w / 256 % 8 = 0 then 0 else w / 256 % 8 - 1
  | 43, [w] => w / 4294967296 % 4294967296
  | _, _ => 0
def sy (l : List Int) : Sy := ⟨fun i => l.getD i 0, Φw⟩
end Go.Proofs.Ytacdbgepncimgaa
