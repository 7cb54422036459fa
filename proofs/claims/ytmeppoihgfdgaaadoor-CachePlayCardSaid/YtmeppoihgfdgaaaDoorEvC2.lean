/-
  The evaluator: contracts and loops in worlds in which variables hold what is known; loops that are met at several places. No condition.
-/
import Derived.Test.YtmeppoihgfdgaaaDoorEvC1
namespace Go.Ev
open Go.RowKit
theorem symLd {P : Program} [NoFloat P] {ft : Nat → Option Func} (hE : EnvOk P ft) {gs : Gs} {w : World} (hw : GOk P gs w) {al : List (Nat × Value)} {S : Sy} (ha : AlOk S al) {cs : List Ctr} (hcs : ∀ c ∈ cs, CtrOk P S gs c) {f : FuncId}
    {args args' : List Value} {res : List Pm} {rcs : List Nat} {rs : List Int} (hrel : ∀ G ι, VsOk S G ι args args') (hI : S.I = []) (vs : List Value) (hrs : CsOk S rcs rs)
    (hres : codesP res vs = some rcs) (hrun : ∀ G, outV (runS P ft ha cs G 1000 (.fn f args.toArray) (H0g P gs)) = some (bundle vs)) :
    Calls P f args'.toArray w fun e w' => e = .returned (bundle (fillP res rs)) ∧ Quiet w w' :=
  symRun hE ha hcs hres hrs hrun hrel w hw hI
/-- A loop that is met at several places: the first one that fits. -/
def orL (f g : Fr → Heap → Option (AExit × Fr × Heap)) (A : Fr) (H : Heap) : Option (AExit × Fr × Heap) := match f A H with
  | some r => some r
  | none => g A H
theorem LkAt.or {P : Program} {S : Sy} {gs : Gs} {c : Code} {f g : Fr → Heap → Option (AExit × Fr × Heap)} (h1 : LkAt P S gs c f) (h2 : LkAt P S gs c g) : LkAt P S gs c (orL f g) := by
  intro G hG A H e A' H' h ι a w hw hA
  unfold orL at h
  split at h
  · rename_i r hr
    cases h
    exact h1 G hG A H e A' H' hr ι a w hw hA
  · exact h2 G hG A H e A' H' h ι a w hw hA
end Go.Ev
