/-
  For every input (any fields) WordBack returns true. No condition.
-/
import Derived.Test.YtacdbgepncimgaaRows
import Derived.Test.YtacdbgepncimgaaEvY
import Derived.Test.YtacdbgepncimgaaW5
namespace Go.Proofs.Ytacdbgepncimgaa.wordBack
open Go.ChangeShapes Go.WideShapes Go.ChangeAt Go.RowKit Go.Ev
set_option linter.unusedVariables false
set_option maxRecDepth 100000
theorem own : ownKnob Try.prog.godebug = none := by kernel_rfl

theorem walk (n0 : List Int) (f0 : FitL refA n0) (n1 : List Int) (f1 : FitL stateA n1) (n2 : List Int) (f2 : FitL pageA n2) (n3 : List Int) (f3 : FitL bitsA n3) (w : World) :
    Calls Try.prog 6 #[.agg (fillL refA n0).toArray, .agg (fillL stateA n1).toArray, .agg (fillL pageA n2).toArray, .agg (fillL bitsA n3).toArray] w fun e w' => e = .returned (.bool true) ∧ Grown w w' := by
  obtain ⟨i, m0, v, rfl⟩ := len3 f0.len
  obtain ⟨k, s, o, v2, rfl⟩ := len4 f1.len
  obtain ⟨k2, l2, c2, o2, rfl⟩ := len4 f2.len
  obtain ⟨m, h, c, v3, rfl⟩ := len4 f3.len
  have hm : (Lit.int .u8 m).wf = true := f3.1
  have h1 : (Lit.int .u32 v).wf = true := f0.2.2.1
  have h2 : (Lit.int .u32 v2).wf = true := f1.2.2.2.1
  have h3 : (Lit.int .u32 v3).wf = true := f3.2.2.2.1
  simp [Lit.wf, IntKind.min, IntKind.max, IntKind.signed, IntKind.bits] at hm h1 h2 h3
  rcases f3.2.1 with rfl | rfl
  · exact (back_false i (decide (m0 ≠ 0)) v k s o v2 k2 l2 c2 o2 m c v3 (by omega) (by omega) (by omega) (by omega) (by omega) (by omega) (by omega) (by omega) w).mono fun _ _ ⟨h, x⟩ => ⟨h, x.grown⟩
  · exact (back_true i (decide (m0 ≠ 0)) v k s o v2 k2 l2 c2 o2 m c v3 (by omega) (by omega) (by omega) (by omega) (by omega) (by omega) (by omega) (by omega) w).mono fun _ _ ⟨h, x⟩ => ⟨h, x.grown⟩

theorem lifted (os : Os) (started : os.Started) (H : Type) (enc : TypeId × Value → H) :
    ReturnsInHanded {} Try.checked os 6 .any (Rows.wordBackSpec.pre6 enc Try.prog Try.f6 Rows.wordBackRow.domain false) (Rows.wordBackSpec.post enc Try.prog Try.f6 false true false false) := by
  refine returnsInHanded_of_change (C := Try.checked) own started (by kernel_rfl) Try.func6
    (ChangeSpec.witness6 (enc := enc) (C := Try.checked) false ⟨#[], #[.agg #[.int .i64 0, .bool false, .int .u32 0], .agg #[.int .i64 0, .int .i64 0, .int .i64 0, .int .u32 0], .agg #[.int .i64 0, .int .i64 0, .int .i64 0, .int .i64 0], .agg #[.int .u8 0, .bool false, .int .i64 0, .int .u32 0]], []⟩ 8 (by kernel_rfl) (by kernel_rfl) (by kernel_rfl) (by kernel_rfl)) ?_
  intro W base args ds gs before hval0 hW hcnd _
  have hval : ∀ (j : Nat) t v, Try.f6.params[j]? = some t → args[j]? = some v → Value.okWide Try.prog W .any base t v := hval0
  have hW' := hW
  obtain ⟨p, q, hA0, hV, rfl, hfz, hnd⟩ := hW
  have hA : DataW.TrodAll enc Try.prog W 0 (fun _ => true) true Try.f6.params.toList args.toList ds p := hA0
  rw [Try.params6] at hA hval
  obtain ⟨v0, vs0, d0, ds0, p0, q0, hargs, rfl, rfl, h0, r0⟩ := trodAll_cons hA
  obtain ⟨v1, vs1, d1, ds1, p1, q1, rfl, rfl, rfl, h1, r1⟩ := trodAll_cons r0
  obtain ⟨v2, vs2, d2, ds2, p2, q2, rfl, rfl, rfl, h2, r2⟩ := trodAll_cons r1
  obtain ⟨v3, vs3, d3, ds3, p3, q3, rfl, rfl, rfl, h3, r3⟩ := trodAll_cons r2
  obtain ⟨rfl, rfl, rfl⟩ := trodAll_nil r3
  obtain rfl : args = #[v0, v1, v2, v3] := by cases args; simp_all
  obtain ⟨rfl, rfl⟩ := trodVars_none hV
  obtain ⟨n0, rfl, f0, rfl, s0⟩ := open_flat (show flatS Try.prog 24 = some refA by kernel_rfl) (hval 0 24 v0 rfl rfl) h0
  obtain ⟨n1, rfl, f1, rfl, s1⟩ := open_flat (show flatS Try.prog 26 = some stateA by kernel_rfl) (hval 1 26 v1 rfl rfl) h1
  obtain ⟨n2, rfl, f2, rfl, s2⟩ := open_flat (show flatS Try.prog 28 = some pageA by kernel_rfl) (hval 2 28 v2 rfl rfl) h2
  obtain ⟨n3, rfl, f3, rfl, s3⟩ := open_flat (show flatS Try.prog 30 = some bitsA by kernel_rfl) (hval 3 30 v3 rfl rfl) h3
  clear hA0 hval0
  simp only [List.append_nil] at hW'
  refine (walk n0 f0 n1 f1 n2 f2 n3 f3 W).mono fun e W' ⟨he, hg⟩ => ?_
  subst he
  exact ⟨_, rfl, post_of_same (pa := []) (pv := []) hW' (fun _ _ _ => (trodAll_cons_mk (shut_bool Try.underlying4 _) trodAll_mk0)) (fun sp _ => (trodAll_cons_mk (s0 _ _ _ _) (trodAll_cons_mk (s1 _ _ _ _) (trodAll_cons_mk (s2 _ _ _ _) (trodAll_cons_mk (s3 _ _ _ _) trodAll_mk0))))) (fun _ _ => rfl) rfl
    (hg.frame _) hg.2.1 (ok_one (by kernel_rfl) rfl (okWide_bool_mk Try.underlying4 _))⟩

theorem over : Rows.wordBackRow.holds Try.pinned (OpenSpec.ofChange Rows.wordBackSpec) :=
  OpenClaim.holds_of_wide 6 Try.f6 rfl rfl rfl rfl rfl rfl rfl ⟨rfl, rfl, rfl, rfl, rfl⟩ rfl rfl rfl rfl rfl (by kernel_rfl) Try.func6 (by kernel_rfl)
    (of_decide_eq_true (by kernel_rfl)) (by unfold Func.isWrapper; first | (rw [if_pos (by decide +kernel)]; kernel_rfl) | (rw [if_neg (by decide +kernel)]; exact ⟨rfl, rfl⟩))
    (fun os started H enc _ => lifted os started H enc)

/-- ████ THE STATEMENT ████ -/
theorem proved : Rows.WordBackSaid :=
  over
#print axioms proved
end Go.Proofs.Ytacdbgepncimgaa.wordBack

