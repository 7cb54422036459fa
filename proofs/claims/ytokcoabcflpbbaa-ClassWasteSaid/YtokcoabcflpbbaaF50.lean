/-
  What ClassWaste asks of Of and Pages; contracts. No condition but those each says.
-/
import Derived.Test.YtokcoabcflpbbaaF4
import Derived.Test.YtokcoabcflpbbaaEvC2
namespace Go.Proofs.Ytokcoabcflpbbaa
open Go.Ev Go.RowKit
set_option maxRecDepth 100000
def isP (a : Int) : Prop := a = 1 ∨ a = 2 ∨ a = 4 ∨ a = 8 ∨ a = 16 ∨ a = 32 ∨ a = 64
theorem ofZ_mono {n p q : Int} (hp : isP p) (hq : isP q) (h : p ≤ q) (hn : 1 ≤ n) (h0 : 0 ≤ ofZ n q) : 0 ≤ ofZ n p ∧ ofZ n p ≤ ofZ n q := by
  rcases hp with rfl | rfl | rfl | rfl | rfl | rfl | rfl <;> rcases hq with rfl | rfl | rfl | rfl | rfl | rfl | rfl <;> first | (exfalso; omega) | (simp [ofZ, Pw] at h0 ⊢ <;> (repeat' split at h0) <;> (repeat' split) <;> omega)
theorem ofZ_up {n p : Int} (hp : isP p) (hn : 1 ≤ n) (h0 : 0 ≤ ofZ (n + 1) p) : 0 ≤ ofZ n p ∧ ofZ n p ≤ ofZ (n + 1) p := by
  rcases hp with rfl | rfl | rfl | rfl | rfl | rfl | rfl <;> (simp [ofZ, Pw] at h0 ⊢ <;> (repeat' split at h0) <;> (repeat' split) <;> omega)
theorem ofZ_one {n : Int} (h1 : 1 ≤ n) : (ofZ n 1 = -1 ∧ 33 ≤ n) ∨ (ofZ n 1 = 0 ∧ n ≤ 8) ∨ (ofZ n 1 = 1 ∧ 9 ≤ n ∧ n ≤ 16) ∨ (ofZ n 1 = 2 ∧ 17 ≤ n ∧ n ≤ 24) ∨ (ofZ n 1 = 3 ∧ 25 ≤ n ∧ n ≤ 32) := by
  simp [ofZ, Pw]
  (repeat' split) <;> omega
def pI : Pm := .one (.int .i64)
def a5T : Tm := .cons (.var .i64 5) .nil
noncomputable def may5 (a : Nat) : Bool := Nat.beq a a5T.enc
def cOf : Ctr := ⟨16, [pI, pI], [pI], 20, yes⟩
noncomputable def cPg : Ctr := ⟨18, [pI], [pI], 21, may5⟩
theorem four_ok {S : Sy} (h : S.Φ 9 [] = 1) (h20 : ∀ m n : Int, S.Φ 20 [m, n] = ofZ m n) (n1 : 1 ≤ S.ρ 5 ∧ S.ρ 5 ≤ 64) (h21 : S.Φ 21 [S.ρ 5] = 1) : ∀ c ∈ [cAw, cTb, cOf, cPg], CtrOk Try.prog S [] c := fun c hc => by
  simp only [List.mem_cons, List.not_mem_nil, or_false] at hc
  rcases hc with rfl | rfl | rfl | rfl
  · exact cAw_ok S h
  · exact cTb_ok S
  · intro a ns _ _ hl w _
    obtain ⟨x, y, rfl⟩ := len2 (show ns.length = 2 from hl)
    refine (of_any x y w).mono fun e w' ⟨h1, h2⟩ => ⟨?_, h2⟩
    rw [h1, ← h20 x y]
    rfl
  · intro a ns hm he hl w _
    cases Option.some.inj ((may_args (t := a5T) hm (by kernel_rfl) he).symm.trans (show a5T.den S = some [S.ρ 5] from rfl))
    refine (pg_any _ (by omega) w).mono fun e w' ⟨h1, h2⟩ => ⟨?_, h2⟩
    have e1 : pgZ (S.ρ 5) = 1 := by
      unfold pgZ
      rw [if_neg (by omega)]
      omega
    rw [h1, e1, ← h21]
    rfl
def ofT : Tm := .app .i64 20 (.cons (.var .i64 5) (.cons (.lit .i64 1) .nil))
def gtx : Tm := .bin .gtr (.var .i64 1) (.lit .i64 6)
def gty : Tm := .bin .gtr (.var .i64 11) (.lit .i64 6)
def l1x : Tm := .bin .lss (.var .i64 1) (.lit .i64 1)
def l0x : Tm := .bin .lss (.lit .i64 0) (.var .i64 1)
def lmx : Tm := .bin .lss (.var .i64 1) (.lit .i64 4194304)
def l1y : Tm := .bin .lss (.var .i64 11) (.lit .i64 1)
def l0y : Tm := .bin .lss (.lit .i64 0) (.var .i64 11)
def lmy : Tm := .bin .lss (.var .i64 11) (.lit .i64 4194304)
/-- What the numbers of the law are. -/
structure Nums (T : Sy) : Prop where
  Φ9 : T.Φ 9 [] = 1
  of_ : ∀ m n : Int, T.Φ 20 [m, n] = ofZ m n
  pg : T.Φ 21 [T.ρ 5] = 1
  n1 : 1 ≤ T.ρ 5 ∧ T.ρ 5 ≤ 64
  dn : nTW.den T = some [T.ρ 5]
  dp : (pTW 3).den T = some [T.ρ 6]
  dq : (pTW 4).den T = some [T.ρ 7]
  p6 : isP (T.ρ 6)
  p7 : isP (T.ρ 7)
end Go.Proofs.Ytokcoabcflpbbaa
