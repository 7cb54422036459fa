/-
  What a listed variable of whole numbers and truths holds, out of what it reads as. No condition.
-/
import Derived.Test.YtmeppoihgfdgaaaDoorEvR
import Derived.LaidLaws
import Derived.LaidSub
namespace Go.Ev
variable {P : Program}

/-- The cells that a datum of whole numbers and truths stands for. -/
def unlit {H : Type} : Nat → DataW H → Option (List Value)
  | 0, _ => none
  | _ + 1, .lit (.bool b) => some [.bool b]
  | _ + 1, .lit (.int k n) => some [.int k n]
  | f + 1, .agg parts => (parts.mapM (unlit f)).map List.flatten
  | _ + 1, _ => none
/-- A type of whole numbers, truths and arrays of them. -/
inductive PlainT (P : Program) : TypeId → Prop
  | int {t : TypeId} {k : IntKind} : P.underlying t = some (.int k) → PlainT P t
  | bool {t : TypeId} : P.underlying t = some .bool → PlainT P t
  | array {t e : TypeId} {n : Nat} : P.underlying t = some (.array n e) → P.cellsOf t = n * P.cellsOf e → PlainT P e → PlainT P t

theorem mapM_cons_some {α β : Type} {f : α → Option β} {x : α} {xs : List α} {r : List β} (h : (x :: xs).mapM f = some r) : ∃ y ys, f x = some y ∧ xs.mapM f = some ys ∧ r = y :: ys := by
  rw [List.mapM_cons] at h
  cases hx : f x with
  | none => rw [hx] at h; simp at h
  | some y =>
    rw [hx] at h
    cases hy : xs.mapM f with
    | none => rw [hy] at h; simp at h
    | some ys =>
      rw [hy] at h
      simp at h
      exact ⟨y, ys, rfl, rfl, h.symm⟩

theorem pieces {H : Type} {sz : Nat} {F : List Value → Option (DataW H × List MemPlace)} {g : Nat} (hF : ∀ cs d p, F cs = some (d, p) → ∀ vs, unlit g d = some vs → cs = vs) :
    ∀ (n i : Nat) (cs : List Value) (xs : List (DataW H × List MemPlace)), cs.length = (i + n) * sz → (List.range' i n).mapM (fun j => F ((cs.drop (j * sz)).take sz)) = some xs → ∀ vss, (xs.map (·.1)).mapM (unlit g) = some vss → cs.drop (i * sz) = vss.flatten
  | 0, i, cs, xs, hl, h, vss, hv => by
    simp at h
    subst h
    simp at hv
    subst hv
    rw [List.drop_eq_nil_of_le (by simp at hl; omega)]
    rfl
  | n + 1, i, cs, xs, hl, h, vss, hv => by
    rw [List.range'_succ] at h
    obtain ⟨y, ys, h1, h2, rfl⟩ := mapM_cons_some h
    rw [List.map_cons] at hv
    obtain ⟨vs, vss', h3, h4, rfl⟩ := mapM_cons_some hv
    obtain ⟨d, p⟩ := y
    have e1 := hF _ d p h1 vs h3
    have e2 := pieces hF n (i + 1) cs ys (by rw [hl]; congr 1; omega) h2 vss' h4
    rw [List.flatten_cons, ← e1, ← e2, Nat.add_mul, Nat.one_mul, ← List.drop_drop, List.take_append_drop]

theorem trod_unlit {H : Type} {enc : TypeId × Value → H} {w : World} {base : Nat} {sp : Nat → Bool} {held : Bool} : ∀ (fuel : Nat) (t : TypeId), PlainT P t → ∀ (cs : List Value) (d : DataW H) (p : List MemPlace), DataW.trod enc P w base sp held fuel t cs = some (d, p) →
    ∀ g vs, unlit g d = some vs → cs = vs
  | 0, _, _, _, _, _, h, _, _, _ => by simp [DataW.trod] at h
  | fuel + 1, t, ht, cs, d, p, h, g, vs, hv => by
    cases ht with
    | bool hu =>
      rcases cs with _ | ⟨v, _ | ⟨v2, r⟩⟩
      · simp [DataW.trod, hu] at h
      · cases v <;> simp [DataW.trod, hu] at h
        obtain ⟨rfl, _⟩ := h
        cases g with
        | zero => simp [unlit] at hv
        | succ g => simpa [unlit] using hv
      · cases v <;> simp [DataW.trod, hu] at h
    | int hu =>
      rcases cs with _ | ⟨v, _ | ⟨v2, r⟩⟩
      · simp [DataW.trod, hu] at h
      · cases v <;> simp [DataW.trod, hu] at h
        obtain ⟨⟨rfl, _⟩, rfl, _⟩ := h
        cases g with
        | zero => simp [unlit] at hv
        | succ g => simpa [unlit] using hv
      · cases v <;> simp [DataW.trod, hu] at h
    | @array t e n hu hc he =>
      simp only [DataW.trod, hu] at h
      split at h
      · rename_i hl
        simp only [Option.map_eq_some_iff] at h
        obtain ⟨xs, hx, hd⟩ := h
        simp only [Prod.mk.injEq] at hd
        obtain ⟨rfl, _⟩ := hd
        cases g with
        | zero => simp [unlit] at hv
        | succ g =>
          simp only [unlit, Option.map_eq_some_iff] at hv
          obtain ⟨vss, hvs, rfl⟩ := hv
          rw [List.range_eq_range'] at hx
          have := pieces (g := g) (fun cs d p h vs hv => trod_unlit fuel e he cs d p h g vs hv) n 0 cs xs (by rw [hl, hc]; simp) hx vss hvs
          simpa using this
      · simp at h

/-- A world in which one listed variable reads as it is laid. -/
theorem gok_of_laid {name : String} {g : Nat} {t : TypeId} {cs : Array Value} {d : DataW Unit} {w : World} (h : laidMet P [(name, d)] w) (hg : P.globalNamed name = some g) (ht : (P.globals[g]?).map (·.type) = some t) (hT : PlainT P t) {f : Nat} (hd : unlit f d = some cs.toList)
    (hgr : cs.all ground1 = true) (h0 : 0 < cs.size) (hroom : P.globals.size = g + 1) : ∃ ty, GOk P [(g, cs, ty)] w := by
  obtain ⟨ps, ⟨g', t', cs', fuel, p, q, hg', ht', hvar, hd', _, hps⟩, _, hcell⟩ := h
  obtain rfl := Option.some.inj (hg.symm.trans hg')
  obtain rfl := Option.some.inj (ht.symm.trans ht')
  have e := trod_unlit fuel t hT cs'.toList d p hd' f cs.toList hd
  obtain rfl : cs' = cs := Array.toList_inj.1 e
  obtain ⟨⟨c, ty, hc⟩, _⟩ := hcell g 0 (by
    rw [hps]
    refine List.mem_append_left _ (List.mem_append_left _ ?_)
    unfold MemPlace.row
    refine List.mem_map.2 ⟨0, List.mem_range.2 h0, ?_⟩
    simp)
  have hvar' : w.heap[g]? = some (.cells cs' ty (0, 0)) := by
    unfold World.var? at hvar
    rw [hg, Option.bind_some, hc] at hvar
    simp only [Option.some.injEq] at hvar
    rw [hc, hvar]
  have hlt : g < w.heap.size := by
    by_cases h : g < w.heap.size
    · exact h
    · rw [Array.getElem?_eq_none (Nat.le_of_not_lt h)] at hvar'; simp at hvar'
  exact ⟨ty, by omega, by simp [gsGround, hgr], fun x hx => by
    simp only [List.mem_singleton] at hx
    subst hx
    exact ⟨by omega, hvar'⟩⟩
end Go.Ev
