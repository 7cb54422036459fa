/-
  Classes: what the evaluator asks of this program; the law's own look, and the table of classes, run. No condition.
-/
import Derived.Test.YtokcoabcflpbbaaEvSl
import Derived.Test.YtokcoabcflpbbaaEvLp
import Derived.Test.YtokcoabcflpbbaaRows
namespace Go.Proofs.Ytokcoabcflpbbaa
open Go.Ev Go.RowKit
set_option maxRecDepth 100000
theorem env : EnvOk Try.prog (ftOf Try.prog) := envOk (by kernel_rfl) (by kernel_rfl) (by kernel_rfl)
instance : NoFloat Try.prog := noFloat (by kernel_rfl)
theorem noGlobals : Try.prog.globals.size = 0 := by kernel_rfl
theorem gok (w : World) : GOk Try.prog [] w := ⟨by rw [noGlobals]; exact Nat.zero_le _, rfl, fun x hx => by simp at hx⟩
noncomputable def no : FuncId → Array Value → Option Value := fun _ _ => none
theorem awakeRun (G : Nat → Option Obj) : outIs true (run0 Try.prog (ftOf Try.prog) no G 1000 (.fn 14 #[]) (H0g Try.prog [])) = true := by kernel_rfl
theorem awake_any (w : World) : Calls Try.prog 14 #[] w fun e w' => e = .returned (.bool true) ∧ Quiet w w' :=
  closed0 env (K := no) (n := 1000) (gs := []) (b := true) (by kernel_rfl) w (fun _ _ _ h => by simp [no] at h) awakeRun (gok w)
def tvF : Value := .agg #[.int .i64 8, .int .i64 8, .int .i64 8, .int .i64 16, .int .i64 16, .int .i64 4, .int .i64 24, .int .i64 8, .int .i64 2, .int .i64 32, .int .i64 32, .int .i64 2]
theorem tableRun (G : Nat → Option Obj) : outEq tvF (run0 Try.prog (ftOf Try.prog) no G 1000 (.fn 17 #[]) (H0g Try.prog [])) = true := by kernel_rfl
theorem table_any (w : World) : Calls Try.prog 17 #[] w fun e w' => e = .returned tvF ∧ Quiet w w' :=
  closedV env (K := no) (n := 1000) (gs := []) rfl (by kernel_rfl) w (fun _ _ _ h => by simp [no] at h) tableRun (gok w)
/-! ### The law's own look, and the table, as contracts -/
def yes (_ : Nat) : Bool := true
def Φ9 : Nat → List Int → Int
  | 9, [] => 1
  | _, _ => 0
def cAw : Ctr := ⟨14, [], [.one .bool], 9, yes⟩
def cTb : Ctr := ⟨17, [], [.val tvF], 9, yes⟩
theorem cAw_ok (S : Sy) (h : S.Φ 9 [] = 1) : CtrOk Try.prog S [] cAw := by
  intro a ns _ _ hl w _
  obtain rfl := len0 (show ns.length = 0 from hl)
  refine (awake_any w).mono fun e w' ⟨h1, h2⟩ => ⟨?_, h2⟩
  rw [h1]
  show _ = Ending.returned (.bool (decide (S.Φ 9 [] ≠ 0)))
  rw [h]; rfl
theorem cTb_ok (S : Sy) : CtrOk Try.prog S [] cTb := by
  intro a ns _ _ hl w _
  obtain rfl := len0 (show ns.length = 0 from hl)
  exact (table_any w).mono fun e w' ⟨h1, h2⟩ => ⟨h1, h2⟩
theorem two_ok {S : Sy} (h : S.Φ 9 [] = 1) : ∀ c ∈ [cAw, cTb], CtrOk Try.prog S [] c := fun c hc => by
  simp only [List.mem_cons, List.not_mem_nil, or_false] at hc
  rcases hc with rfl | rfl
  · exact cAw_ok S h
  · exact cTb_ok S
def awT : Tm := .appB 9 .nil
theorem aw_den {S : Sy} (h : S.Φ 9 [] = 1) : awT.den S = some [b2i true] := by
  show some [b2i (decide (S.Φ 9 [] ≠ 0))] = _
  rw [h]; rfl
def vv (k : IntKind) (i : Nat) : Value := .float .f64 (i * 512 + kI k)
/-- Of one more given slice: its functions answer what it holds; others answer what is wanted, Φ 9 answers 1. -/
noncomputable def phi (f m : Nat) (F : Nat → Nat → Int) : Nat → List Int → Int := fun g l => if f ≤ g ∧ g < f + m then (match l with | [j] => F (g - f) j.toNat | _ => 0) else Φ9 g l
theorem phi_in {f m : Nat} {F : Nat → Nat → Int} {i j : Nat} (h : i < m) : phi f m F (f + i) [(j : Int)] = F i j := by
  unfold phi
  rw [if_pos (by omega)]
  simp
theorem phi_9 {f m : Nat} {F : Nat → Nat → Int} (h : 9 < f) : phi f m F 9 [] = 1 := by
  unfold phi
  rw [if_neg (by omega)]
  rfl
end Go.Proofs.Ytokcoabcflpbbaa
