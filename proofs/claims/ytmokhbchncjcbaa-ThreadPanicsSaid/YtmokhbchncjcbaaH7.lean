/-
  Stage 5: ThreadPanics, whatever the number of accesses. No condition.
-/
import Derived.Test.YtmokhbchncjcbaaH3
import Derived.Test.YtmokhbchncjcbaaH4
import Derived.Test.YtmokhbchncjcbaaH5
import Derived.Test.YtmokhbchncjcbaaH6
namespace Go.Proofs.Ytmokhbchncjcbaa
open Go.Ev Go.RowKit Go.Conc
set_option maxRecDepth 100000
theorem args_rel (X : Nat → Option Obj) (ι : Inj) (a n : Int) : @ARel (noSyms X) ι #[.int .u8 a, .int .i64 n] #[.int .u8 a, .int .i64 n] := by
  letI := noSyms X
  refine ⟨rfl, fun k hk => ?_⟩
  match k with
  | 0 => exact .int _ _
  | 1 => exact .int _ _
  | k + 2 => simp at hk; omega
theorem pan_of (W : World) {a n k : Int} {l : List Mv2} (h : a.tmod 21 = k) (hp : ∀ X, @playOb (noSyms X) Try.prog _ (ftOf Try.prog) [] 300 5 #[.int .u8 a, .int .i64 n] l = some [obR a k, obE n]) : ∃ N last o w' t', runNT Try.prog (N + 1) (solo (G (Frame.enter Try.prog 5 #[.int .u8 a, .int .i64 n] .normal) []) W) #[] = (.ended o w', t') ∧ runN Try.prog N (solo (G (Frame.enter Try.prog 5 #[.int .u8 a, .int .i64 n] .normal) []) W) = .next last ∧ step Try.prog last = .ended o w' ∧ Go.Conc.Good Try.prog (fun v w' => v = .bool true ∧ Quiet W w') last o w' t' :=
  playedOb env W (hp _) (fun ob hb => by
    rcases List.mem_cons.1 hb with rfl | hb
    · exact obR_ok h
    · obtain rfl := List.mem_singleton.1 hb
      exact obE_ok n) (fun ι => args_rel _ ι a n) (gok W)
theorem panics_any (W : World) (a n : Int) (wa : (Lit.int .u8 a).wf = true) (_ : (Lit.int .i64 n).wf = true) : ∃ N last o w' t', runNT Try.prog (N + 1) (solo (G (Frame.enter Try.prog 5 #[.int .u8 a, .int .i64 n] .normal) []) W) #[] = (.ended o w', t') ∧ runN Try.prog N (solo (G (Frame.enter Try.prog 5 #[.int .u8 a, .int .i64 n] .normal) []) W) = .next last ∧ step Try.prog last = .ended o w' ∧ Go.Conc.Good Try.prog (fun v w' => v = .bool true ∧ Quiet W w') last o w' t' := by
  have h0 : 0 ≤ a := by
    simp [Lit.wf, IntKind.min, IntKind.max, IntKind.signed, IntKind.bits] at wa
    omega
  have h1 : a.tmod 21 = a % 21 := Int.tmod_eq_emod_of_nonneg h0
  have h2 : a.tmod 21 = 0 ∨ a.tmod 21 = 1 ∨ a.tmod 21 = 2 ∨ a.tmod 21 = 3 ∨ a.tmod 21 = 4 ∨ a.tmod 21 = 5 ∨ a.tmod 21 = 6 ∨ a.tmod 21 = 7 ∨ a.tmod 21 = 8 ∨ a.tmod 21 = 9 ∨ a.tmod 21 = 10 ∨ a.tmod 21 = 11 ∨ a.tmod 21 = 12 ∨ a.tmod 21 = 13 ∨ a.tmod 21 = 14 ∨ a.tmod 21 = 15 ∨ a.tmod 21 = 16 ∨ a.tmod 21 = 17 ∨ a.tmod 21 = 18 ∨ a.tmod 21 = 19 ∨ a.tmod 21 = 20 := by omega
  rcases h2 with h | h | h | h | h | h | h | h | h | h | h | h | h | h | h | h | h | h | h | h | h
  · exact pan_of W h fun X => pan0 X a n
  · exact pan_of W h fun X => pan1 X a n
  · exact pan_of W h fun X => pan2 X a n
  · exact pan_of W h fun X => pan3 X a n
  · exact pan_of W h fun X => pan4 X a n
  · exact pan_of W h fun X => pan5 X a n
  · exact pan_of W h fun X => pan6 X a n
  · exact pan_of W h fun X => pan7 X a n
  · exact pan_of W h fun X => pan8 X a n
  · exact pan_of W h fun X => pan9 X a n
  · exact pan_of W h fun X => pan10 X a n
  · exact pan_of W h fun X => pan11 X a n
  · exact pan_of W h fun X => pan12 X a n
  · exact pan_of W h fun X => pan13 X a n
  · exact pan_of W h fun X => pan14 X a n
  · exact pan_of W h fun X => pan15 X a n
  · exact pan_of W h fun X => pan16 X a n
  · exact pan_of W h fun X => pan17 X a n
  · exact pan_of W h fun X => pan18 X a n
  · exact pan_of W h fun X => pan19 X a n
  · exact pan_of W h fun X => pan20 X a n
end Go.Proofs.Ytmokhbchncjcbaa
