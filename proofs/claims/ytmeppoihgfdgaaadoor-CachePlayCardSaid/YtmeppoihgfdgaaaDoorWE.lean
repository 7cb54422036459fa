/-
  What is decided ahead as a list of entries, with its proof as a tuple in the same order; a valuation's later names. Conditions: those each says.
-/
import Derived.Test.YtmeppoihgfdgaaaDoorEvC2
import Derived.Test.YtmeppoihgfdgaaaDoorEvLp
namespace Go.Proofs.YtmeppoihgfdgaaaDoor
open Go.Ev Go.RowKit
set_option maxRecDepth 100000
def vv (k : IntKind) (i : Nat) : Value := .float .f64 (i * 512 + kI k)
inductive En where
  | nm (t : Tm) (k : Nat)
  | ds (t : Tm) (b : Bool)
  | iv (t : Tm) (n : Nat)
def En.pr : En → Nat × Value
  | .nm t k => (t.enc, .float .f64 (Tm.var .i64 k).enc)
  | .ds t b => (t.enc, .bool b)
  | .iv t n => (t.enc, .int .i64 n)
def En.okB : En → Bool
  | .nm t k => t.ok && (Tm.var .i64 k).ok && Nat.beq (cK t.enc) (cK (Tm.var .i64 k).enc) && (isBc (Tm.var .i64 k).enc == isBc t.enc)
  | .ds t _ => t.ok && isBc t.enc
  | .iv t _ => t.ok && Nat.beq (cK t.enc) (kI .i64) && !isBc t.enc
def En.Holds (S : Sy) : En → Prop
  | .nm t k => t.den S = some [S.ρ k]
  | .ds t b => t.den S = some [b2i b]
  | .iv t n => t.den S = some [(n : Int)]
def AllH (S : Sy) : List En → Prop
  | [] => True
  | e :: l => e.Holds S ∧ AllH S l
theorem AllH.app {S : Sy} : ∀ {l m : List En}, AllH S l → AllH S m → AllH S (l ++ m)
  | [], _, _, h => h
  | _ :: _, _, h, h' => ⟨h.1, AllH.app h.2 h'⟩
theorem alE {S : Sy} : ∀ {l : List En} {al : List (Nat × Value)}, (l.all En.okB) = true → al = l.map En.pr → AllH S l → AlOk S al
  | [], _, _, e, _ => by subst e; exact AlOk.nil _
  | .nm t k :: l, _, hok, e, h => by
    subst e
    rw [List.all_cons, Bool.and_eq_true] at hok
    exact al_nm t (.var .i64 k) hok.1 h.1 rfl (alE hok.2 rfl h.2)
  | .ds t b :: l, _, hok, e, h => by
    subst e
    rw [List.all_cons, Bool.and_eq_true] at hok
    exact al_is t b hok.1 h.1 (alE hok.2 rfl h.2)
  | .iv t n :: l, _, hok, e, h => by
    subst e
    rw [List.all_cons, Bool.and_eq_true] at hok
    exact ain t .i64 n h.1 (alE hok.2 rfl h.2) hok.1
theorem setT {S S' T : Sy} {vs fs : List Nat} {asg : Asg} (h : AsgOk S S' asg) (y : Stay vs fs S' T) (hv : (asg.all fun p => match p.2 with | .num _ => !vs.any fun u => Nat.beq u p.1 | .arr _ => !fs.any fun u => Nat.beq u p.1) = true) : AsgOk S T asg :=
  ⟨y.1.trans h.1, fun p hp => by
    have h1 := h.2 p hp
    have h2 := List.all_eq_true.1 hv p hp
    cases hc : p.2 with
    | num c =>
      rw [hc] at h1 h2
      show ev S c = _
      rw [show ev S c = some [S'.ρ p.1] from h1, y.num p.1 (by simpa using h2)]
    | arr a =>
      rw [hc] at h1 h2
      intro j
      rw [show aden S a j = some (S'.Φ p.1 [(j : Int)]) from h1 j, y.fn p.1 (by simpa using h2)]⟩
theorem AlOk.app {S : Sy} {a b : List (Nat × Value)} (h : AlOk S a) (h' : AlOk S b) : AlOk S (a ++ b) := fun p hp => by
  rcases List.mem_append.1 hp with hp | hp
  · exact h p hp
  · exact h' p hp
end Go.Proofs.YtmeppoihgfdgaaaDoor
