/-
  GeomApart: at which place of the list a word stands, region by region. Conditions: those each says.
-/
import Derived.Test.YtigbcepnbpibaaaDoorEvLp
namespace Go.Proofs.YtigbcepnbpibaaaDoor
/-- The place of word v: t threads, p pages; r = 2 * t + 2, w = 18 + 2 * t, the regions of threads of t * r words, n nodes. -/
def posZ (t p r w tr n v : Int) : Int :=
  if v < 2 then v else if v < 7 then (if v < 6 then 3 + 3 * (v - 2) else 15) else if v < 16 then (if v < 11 then 5 + 3 * (v - 7) else v + 5) else if v < 17 then 2 else if v < 21 then 4 + 3 * (v - 17)
  else if v < 21 + t then 21 + 19 * p + w * (v - 21)
  else if v < 21 + t + p then 21 + 19 * (v - (21 + t))
  else if v < 21 + t + 2 * p then 22 + 19 * (v - (21 + t + p))
  else if v < 21 + t + 3 * p then 23 + 19 * (v - (21 + t + 2 * p))
  else if v < 21 + t + 11 * p then 24 + 19 * ((v - (21 + t + 3 * p)) / 8) + 2 * ((v - (21 + t + 3 * p)) % 8)
  else if v < 21 + t + 19 * p then 25 + 19 * ((v - (21 + t + 11 * p)) / 8) + 2 * ((v - (21 + t + 11 * p)) % 8)
  else if v < 21 + 9 * t + 19 * p then 21 + 19 * p + w * ((v - (21 + t + 19 * p)) / 8) + 5 + 3 * ((v - (21 + t + 19 * p)) % 8 / 2) + (v - (21 + t + 19 * p)) % 2
  else if v < 21 + 13 * t + 19 * p then 21 + 19 * p + w * ((v - (21 + 9 * t + 19 * p)) / 4) + 4 + 3 * ((v - (21 + 9 * t + 19 * p)) % 4)
  else if v < 21 + 15 * t + 19 * p then 21 + 19 * p + w * ((v - (21 + 13 * t + 19 * p)) / 2) + 2 + (v - (21 + 13 * t + 19 * p)) % 2
  else if v < 21 + 16 * t + 19 * p then 21 + 19 * p + w * (v - (21 + 15 * t + 19 * p)) + 1
  else if v < 21 + 16 * t + 19 * p + tr then 21 + 19 * p + w * ((v - (21 + 16 * t + 19 * p)) / r) + 16 + (v - (21 + 16 * t + 19 * p)) % r
  else if v < 21 + 16 * t + 19 * p + tr + n then 21 + 19 * p + w * t + 9 * (v - (21 + 16 * t + 19 * p + tr))
  else 21 + 19 * p + w * t + 9 * ((v - (21 + 16 * t + 19 * p + tr + n)) / 8) + 1 + (v - (21 + 16 * t + 19 * p + tr + n)) % 8
section
variable {t p r w tr n i k : Int}
theorem pos_page (ht : 0 ≤ t) (h : 0 ≤ i ∧ i < p) : posZ t p r w tr n (21 + t + i) = 21 + 19 * i ∧ posZ t p r w tr n (21 + t + p + i) = 22 + 19 * i ∧ posZ t p r w tr n (21 + t + 2 * p + i) = 23 + 19 * i := by
  unfold posZ
  refine ⟨?_, ?_, ?_⟩
  · iterate 6 rw [if_neg (by omega)]
    rw [if_pos (by omega)]; omega
  · iterate 7 rw [if_neg (by omega)]
    rw [if_pos (by omega)]; omega
  · iterate 8 rw [if_neg (by omega)]
    rw [if_pos (by omega)]; omega
theorem pos_link (ht : 0 ≤ t) (h : 0 ≤ i ∧ i < p) (hk : 0 ≤ k ∧ k < 8) : posZ t p r w tr n (21 + t + 3 * p + (8 * i + k)) = 24 + 19 * i + 2 * k ∧ posZ t p r w tr n (21 + t + 11 * p + (8 * i + k)) = 25 + 19 * i + 2 * k := by
  unfold posZ
  refine ⟨?_, ?_⟩
  · iterate 9 rw [if_neg (by omega)]
    rw [if_pos (by omega)]; omega
  · iterate 10 rw [if_neg (by omega)]
    rw [if_pos (by omega)]; omega
theorem pos_cache (hp : 0 ≤ p) (h : 0 ≤ i ∧ i < t) (hk : 0 ≤ k ∧ k < 4) {s : Int} (hs : 0 ≤ s ∧ s < 2) : posZ t p r w tr n (21 + t + 19 * p + ((4 * i + k) * 2 + s)) = 21 + 19 * p + w * i + 5 + 3 * k + s := by
  unfold posZ
  iterate 11 rw [if_neg (by omega)]
  rw [if_pos (by omega), show (21 + t + 19 * p + ((4 * i + k) * 2 + s) - (21 + t + 19 * p)) / 8 = i by omega]
  omega
theorem pos_head (hp : 0 ≤ p) (h : 0 ≤ i ∧ i < t) (hk : 0 ≤ k ∧ k < 4) : posZ t p r w tr n (21 + 9 * t + 19 * p + (4 * i + k)) = 21 + 19 * p + w * i + 4 + 3 * k := by
  unfold posZ
  iterate 12 rw [if_neg (by omega)]
  rw [if_pos (by omega), show (21 + 9 * t + 19 * p + (4 * i + k) - (21 + 9 * t + 19 * p)) / 4 = i by omega]
  omega
theorem pos_hazard (hp : 0 ≤ p) (h : 0 ≤ i ∧ i < t) (hk : 0 ≤ k ∧ k < 2) : posZ t p r w tr n (21 + 13 * t + 19 * p + (2 * i + k)) = 21 + 19 * p + w * i + 2 + k := by
  unfold posZ
  iterate 13 rw [if_neg (by omega)]
  rw [if_pos (by omega), show (21 + 13 * t + 19 * p + (2 * i + k) - (21 + 13 * t + 19 * p)) / 2 = i by omega]
  omega
theorem pos_serial (hp : 0 ≤ p) (h : 0 ≤ i ∧ i < t) : posZ t p r w tr n (21 + i) = 21 + 19 * p + w * i ∧ posZ t p r w tr n (21 + 15 * t + 19 * p + i) = 21 + 19 * p + w * i + 1 := by
  unfold posZ
  refine ⟨?_, ?_⟩
  · iterate 5 rw [if_neg (by omega)]
    rw [if_pos (by omega), show 21 + i - 21 = i by omega]
  · iterate 14 rw [if_neg (by omega)]
    rw [if_pos (by omega), show 21 + 15 * t + 19 * p + i - (21 + 15 * t + 19 * p) = i by omega]
theorem pos_retired (hp : 0 ≤ p) (ht : 0 ≤ t) (h0 : 0 ≤ r * i) (h : r * i + k < tr) (hk : 0 ≤ k ∧ k < r) : posZ t p r w tr n (21 + 16 * t + 19 * p + (r * i + k)) = 21 + 19 * p + w * i + 16 + k := by
  unfold posZ
  iterate 15 rw [if_neg (by omega)]
  rw [if_pos (by omega), show 21 + 16 * t + 19 * p + (r * i + k) - (21 + 16 * t + 19 * p) = k + r * i by omega, Int.add_mul_ediv_left _ _ (by omega), Int.add_mul_emod_self_left, Int.ediv_eq_zero_of_lt hk.1 hk.2, Int.emod_eq_of_lt hk.1 hk.2, Int.zero_add]
theorem pos_next (hp : 0 ≤ p) (ht : 0 ≤ t) (htr : 0 ≤ tr) (h : 0 ≤ i ∧ i < n) : posZ t p r w tr n (21 + 16 * t + 19 * p + tr + i) = 21 + 19 * p + w * t + 9 * i := by
  unfold posZ
  iterate 16 rw [if_neg (by omega)]
  rw [if_pos (by omega), show 21 + 16 * t + 19 * p + tr + i - (21 + 16 * t + 19 * p + tr) = i by omega]
theorem pos_item (hp : 0 ≤ p) (ht : 0 ≤ t) (htr : 0 ≤ tr) (h : 0 ≤ i ∧ i < n) (hk : 0 ≤ k ∧ k < 8) : posZ t p r w tr n (21 + 16 * t + 19 * p + tr + n + (8 * i + k)) = 21 + 19 * p + w * t + 9 * i + 1 + k := by
  unfold posZ
  iterate 17 rw [if_neg (by omega)]
  rw [show (21 + 16 * t + 19 * p + tr + n + (8 * i + k) - (21 + 16 * t + 19 * p + tr + n)) / 8 = i by omega]
  omega
end
end Go.Proofs.YtigbcepnbpibaaaDoor
