/-
  The evaluator: short words for contracts by all ways (ctrgen.py). No condition.
-/
import Derived.Test.YtllmdpfngmbjgaaDoorEvLp
namespace Go.Ev
open Go.RowKit
/-- A symbol of a kind. -/
def vv (k : IntKind) (i : Nat) : Value := .float .f64 (i * 512 + kI k)
theorem hcs0 {P : Program} {gs : Gs} (S : Sy) : ∀ c ∈ ([] : List Ctr), CtrOk P S gs c := fun c hc => by simp at hc
/-- What an operation on bits answers. -/
def opZ (op : BinOp) (k : IntKind) (a b : Int) : Int := match vBin op k a b with | some (.int _ r) => r | _ => 0
theorem csT {S : Sy} {cs : List Nat} {n : Int} {ns : List Int} (t : Tm) (hd : t.den S = some [n]) (h : CsOk S cs ns) (ok : t.ok = true := by kernel_rfl) : CsOk S (t.enc :: cs) (n :: ns) :=
  ⟨(t.ev_enc S ok).trans hd, h⟩
theorem symL {P : Program} [NoFloat P] {ft : Nat → Option Func} (hE : EnvOk P ft) {gs : Gs} (hg : ∀ w : World, GOk P gs w) {al : List (Nat × Value)} {S : Sy} (ha : AlOk S al) {cs : List Ctr} (hcs : ∀ c ∈ cs, CtrOk P S gs c) {f : FuncId}
    {args args' : List Value} {res : List Pm} {rcs : List Nat} {rs : List Int} (hrel : ∀ G ι, VsOk S G ι args args') (w : World) (hI : S.I = []) (vs : List Value) (hrs : CsOk S rcs rs)
    (hres : codesP res vs = some rcs) (hrun : ∀ G, outV (runS P ft ha cs G 1000 (.fn f args.toArray) (H0g P gs)) = some (bundle vs)) :
    Calls P f args'.toArray w fun e w' => e = .returned (bundle (fillP res rs)) ∧ Quiet w w' :=
  symRun hE ha hcs hres hrs hrun hrel w (hg w) hI
/-- A contract that may be used at one row of arguments only. -/
theorem may_args {S : Sy} {t : Tm} {a : Nat} {ns : List Int} (hm : Nat.beq a t.enc = true) (ok : t.ok = true) (he : ev S a = some ns) : t.den S = some ns := by
  obtain rfl := Nat.eq_of_beq_eq_true hm
  rw [← he, Tm.ev_enc S t ok]
theorem yes1 {e : Ending} (h : e = .returned (bundle (fillP [.one .bool] [b2i true]))) : e = .returned (.bool true) := h
end Go.Ev
