/-
  Stage 1: what the words' functions come to, as contracts. No condition.
-/
import Derived.Test.YtacdbgepncimgaaW1
namespace Go.Proofs.Ytacdbgepncimgaa
open Go.Ev Go.RowKit
set_option maxRecDepth 100000
def yes (_ : Nat) : Bool := true
def pI : Pm := .one (.int .i64)
def pW : Pm := .one (.int .u64)
def pV : Pm := .one (.int .u32)
def c9 : Ctr := ⟨9, [.agg refA], [pW], 0, yes⟩
def c10 : Ctr := ⟨10, [pI, .one .bool, pV], [pW], 0, yes⟩
def c11 : Ctr := ⟨11, [.agg stateA], [pW], 1, yes⟩
def c12 : Ctr := ⟨12, [pI, pI, pI, pV], [pW], 1, yes⟩
def c13 : Ctr := ⟨13, [.agg pageA], [pW], 2, yes⟩
def c14 : Ctr := ⟨14, [pI, pI, pI, pI], [pW], 2, yes⟩
def c15 : Ctr := ⟨15, [.agg bitsA], [pW], 3, yes⟩
def c16 : Ctr := ⟨16, [.one (.int .u8), .one .bool, pI, pV], [pW], 4, yes⟩
def c17 : Ctr := ⟨17, [], [.one .bool], 9, yes⟩
def c18 : Ctr := ⟨18, [pW], [.agg refA], 16, yes⟩
def c19 : Ctr := ⟨19, [pW], [.agg stateA], 24, yes⟩
def c20 : Ctr := ⟨20, [pW], [.agg pageA], 32, yes⟩
def c21 : Ctr := ⟨21, [pW], [.agg bitsA], 40, yes⟩
def ctrs : List Ctr := [c9, c10, c11, c12, c13, c14, c15, c16, c17, c18, c19, c20, c21]
theorem b2i_dec (m : Int) : (b2i (decide (m ≠ 0)) ≠ 0) = (m ≠ 0) := by
  by_cases h : m = 0 <;> simp [h, b2i]
theorem refW_b (i m v : Int) : refW i (b2i (decide (m ≠ 0))) v = refW i m v := by
  unfold refW; by_cases h : m = 0 <;> simp [h, b2i]
theorem bitsW_b (m h c v : Int) : bitsW m (b2i (decide (h ≠ 0))) c v = bitsW m h c v := by
  unfold bitsW; by_cases h : h = 0 <;> simp [h, b2i]
theorem bitsR_b (m h c v : Int) : bitsR m (b2i (decide (h ≠ 0))) c v = bitsR m h c v := by
  unfold bitsR; by_cases h : h = 0 <;> simp [h, b2i]
theorem ctrs_ok (l : List Int) : ∀ c ∈ ctrs, CtrOk Try.prog (sy l) [] c := by
  intro c hc
  simp only [ctrs, List.mem_cons, List.not_mem_nil, or_false] at hc
  rcases hc with rfl | rfl | rfl | rfl | rfl | rfl | rfl | rfl | rfl | rfl | rfl | rfl | rfl
  · intro a ns _ _ hl w _
    obtain ⟨i, m, v, rfl⟩ := len3 (show ns.length = 3 from hl)
    have := ref_t i (decide (m ≠ 0)) v w
    rw [refW_b] at this
    exact this
  · intro a ns _ _ hl w _
    obtain ⟨i, m, v, rfl⟩ := len3 (show ns.length = 3 from hl)
    have := ref_q i (decide (m ≠ 0)) v w
    rw [refW_b] at this
    exact this
  · intro a ns _ _ hl w _
    obtain ⟨k, s, o, v, rfl⟩ := len4 (show ns.length = 4 from hl)
    exact state_t k s o v w
  · intro a ns _ _ hl w _
    obtain ⟨k, s, o, v, rfl⟩ := len4 (show ns.length = 4 from hl)
    exact state_q k s o v w
  · intro a ns _ _ hl w _
    obtain ⟨k, s, o, v, rfl⟩ := len4 (show ns.length = 4 from hl)
    exact page_t k s o v w
  · intro a ns _ _ hl w _
    obtain ⟨k, s, o, v, rfl⟩ := len4 (show ns.length = 4 from hl)
    exact page_q k s o v w
  · intro a ns _ _ hl w _
    obtain ⟨m, h, c, v, rfl⟩ := len4 (show ns.length = 4 from hl)
    have := bits_t m (decide (h ≠ 0)) c v w
    rw [bitsW_b] at this
    exact this
  · intro a ns _ _ hl w _
    obtain ⟨m, h, c, v, rfl⟩ := len4 (show ns.length = 4 from hl)
    have := bits_q m (decide (h ≠ 0)) c v w
    rw [bitsR_b] at this
    exact this
  · intro a ns _ _ hl w _
    obtain rfl := len0 (show ns.length = 0 from hl)
    exact awake_any w
  · intro a ns _ _ hl w _
    obtain ⟨x, rfl⟩ := len1 (show ns.length = 1 from hl)
    exact ref_of x w
  · intro a ns _ _ hl w _
    obtain ⟨x, rfl⟩ := len1 (show ns.length = 1 from hl)
    exact state_of x w
  · intro a ns _ _ hl w _
    obtain ⟨x, rfl⟩ := len1 (show ns.length = 1 from hl)
    exact page_of x w
  · intro a ns _ _ hl w _
    obtain ⟨x, rfl⟩ := len1 (show ns.length = 1 from hl)
    exact bits_of x w
def awT : Tm := .appB 9 .nil
theorem aw_den (l : List Int) : awT.den (sy l) = some [b2i true] := rfl
theorem tr {p : Prop} [Decidable p] (h : p) : some [b2i (decide p)] = some [b2i true] := by rw [decide_eq_true h]
theorem fl {p : Prop} [Decidable p] (h : ¬ p) : some [b2i (decide p)] = some [b2i false] := by rw [decide_eq_false h]
theorem b2i0 (b : Bool) : b2i b = 0 ↔ b = false := by cases b <;> simp [b2i]
theorem b2i_inj (a b : Bool) : b2i a = b2i b ↔ a = b := by cases a <;> cases b <;> simp [b2i]
end Go.Proofs.Ytacdbgepncimgaa
