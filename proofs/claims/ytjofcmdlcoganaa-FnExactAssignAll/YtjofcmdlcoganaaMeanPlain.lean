/-
  The plain mathematics of means: the nearest number, of two as near the greater one.
  No program is named here.
-/
import Derived.WalkKit
namespace Go.Proofs.Ytjofcmdlcoganaa

def mean (s n : Int) : Int := (2 * s + n) / (2 * n)
def sumB (n z : Int) : Bool := decide (-1000 * n ≤ z) && decide (z ≤ 1000 * n)
def meanFault (zs : List Int) (n : Int) : Int := if n < 1 ∨ 1000 < n then 3 else if zs.length = 3 then (if zs.all (sumB n) then 0 else 3) else 1
def meanList (zs : List Int) (n : Int) : List Int := if meanFault zs n = 0 then [mean (zs.getD 0 0) n, mean (zs.getD 1 0) n, mean (zs.getD 2 0) n] else []

theorem near_bd (s n : Int) (h1 : 1 ≤ n) (h3 : -1000 * n ≤ s) (h4 : s ≤ 1000 * n) : 0 ≤ (2 * (s + 1000 * n) + n) / (2 * n) ∧ (2 * (s + 1000 * n) + n) / (2 * n) ≤ 2000 := by
  constructor
  · exact Int.ediv_nonneg (by omega) (by omega)
  · have : (2 * (s + 1000 * n) + n) / (2 * n) < 2001 := by
      rw [Int.ediv_lt_iff_lt_mul (by omega)]
      omega
    omega

theorem near_eq (s n : Int) (h1 : 1 ≤ n) : (2 * (s + 1000 * n) + n) / (2 * n) - 1000 = mean s n := by
  unfold mean
  have e : 2 * (s + 1000 * n) + n = (2 * s + n) + 1000 * (2 * n) := by omega
  rw [e, Int.add_mul_ediv_right _ _ (by omega)]
  omega

theorem mean_bd (s n : Int) (h1 : 1 ≤ n) (h3 : -1000 * n ≤ s) (h4 : s ≤ 1000 * n) : -1000 ≤ mean s n ∧ mean s n ≤ 1000 := by
  have := near_bd s n h1 h3 h4
  have := near_eq s n h1
  omega

theorem round_pos (a n : Int) : (2 * a + n) / (2 * n) = mean a n := rfl

theorem tdiv_neg_bd (x m : Int) (hm : 1 ≤ m) (hx : x < 0) : x ≤ x.tdiv m ∧ x.tdiv m ≤ 0 := by
  obtain ⟨y, rfl⟩ : ∃ y, x = -y := ⟨-x, by omega⟩
  rw [Int.neg_tdiv, Int.tdiv_eq_ediv_of_nonneg (by omega)]
  have h1 := Int.ediv_nonneg (show 0 ≤ y by omega) (show 0 ≤ m by omega)
  have h2 := Int.ediv_le_self (b := m) (show 0 ≤ y by omega)
  omega

/-- Below 0 Go's quotient is one too great where something is left. -/
theorem round_neg (x m : Int) (hm : 1 ≤ m) (hx : x < 0) : (x.tmod m < 0 → x.tdiv m - 1 = x / m) ∧ (¬ x.tmod m < 0 → x.tdiv m = x / m) := by
  have h1 := Int.tdiv_mul_add_tmod x m
  have h2 := Int.ediv_mul_add_emod x m
  have h3 := Int.emod_nonneg x (show m ≠ 0 by omega)
  have h4 := Int.emod_lt_of_pos x (show 0 < m by omega)
  have h5 : x.tmod m ≤ 0 := by
    obtain ⟨y, rfl⟩ : ∃ y, x = -y := ⟨-x, by omega⟩
    rw [Int.neg_tmod, Int.tmod_eq_emod_of_nonneg (by omega)]
    have := Int.emod_nonneg y (show m ≠ 0 by omega)
    omega
  have h6 : -m < x.tmod m := by
    obtain ⟨y, rfl⟩ : ∃ y, x = -y := ⟨-x, by omega⟩
    rw [Int.neg_tmod, Int.tmod_eq_emod_of_nonneg (by omega)]
    have := Int.emod_lt_of_pos y (show 0 < m by omega)
    omega
  generalize x.tmod m = r at *
  generalize x.tdiv m = q at *
  generalize x % m = r' at *
  generalize x / m = q' at *
  have e : (q' - q) * m = r - r' := by rw [Int.sub_mul]; omega
  constructor
  · intro hr
    have a1 : (q' - q) * m < 0 := by omega
    have a2 : (q' - q) * m > -2 * m := by omega
    have b1 : q' - q < 0 := by
      rcases Int.lt_or_le (q' - q) 0 with h | h
      · exact h
      · have := Int.mul_nonneg h (show 0 ≤ m by omega); omega
    have b2 : q' - q > -2 := by
      rcases Int.lt_or_le (-2) (q' - q) with h | h
      · exact h
      · have := Int.mul_le_mul_of_nonneg_right h (show 0 ≤ m by omega); omega
    omega
  · intro hr
    have hr0 : r = 0 := by omega
    subst hr0
    have a1 : (q' - q) * m ≤ 0 := by omega
    have a2 : (q' - q) * m > -m := by omega
    have b1 : q' - q ≤ 0 := by
      rcases Int.lt_or_le 0 (q' - q) with h | h
      · have := Int.mul_le_mul_of_nonneg_right (show 1 ≤ q' - q by omega) (show 0 ≤ m by omega); omega
      · exact h
    have b2 : q' - q > -1 := by
      rcases Int.lt_or_le (-1) (q' - q) with h | h
      · exact h
      · have := Int.mul_le_mul_of_nonneg_right h (show 0 ≤ m by omega); omega
    omega

theorem sumB_true {n z : Int} (h : sumB n z = true) : -1000 * n ≤ z ∧ z ≤ 1000 * n := by simpa [sumB] using h
theorem sumB_false {n z : Int} (h : sumB n z = false) : z < -1000 * n ∨ 1000 * n < z := by
  simp [sumB] at h
  omega
theorem meanFault_n {zs : List Int} {n : Int} (h : n < 1 ∨ 1000 < n) : meanFault zs n = 3 := by simp [meanFault, h]
theorem meanFault_len {zs : List Int} {n : Int} (h1 : 1 ≤ n) (h2 : n ≤ 1000) (h : zs.length ≠ 3) : meanFault zs n = 1 := by
  have : ¬ (n < 1 ∨ 1000 < n) := by omega
  simp [meanFault, h, this]
theorem meanFault_bad {zs : List Int} {n : Int} (h : zs.length = 3) (k : Nat) (hk : k < 3) (hb : sumB n (zs.getD k 0) = false) : meanFault zs n = 3 := by
  have : zs.all (sumB n) = false := by
    rw [List.all_eq_false]
    exact ⟨zs.getD k 0, by simp [List.getD, show k < zs.length by omega], by rw [hb]; simp⟩
  simp [meanFault, h, this]
theorem meanFault_ok {zs : List Int} {n : Int} (h1 : 1 ≤ n) (h2 : n ≤ 1000) (h : zs.length = 3) (hg : ∀ j, j < 3 → sumB n (zs.getD j 0) = true) : meanFault zs n = 0 := by
  have h0 : ¬ (n < 1 ∨ 1000 < n) := by omega
  have : zs.all (sumB n) = true := by
    rw [List.all_eq_true]
    intro x hx
    obtain ⟨j, hj, rfl⟩ := List.mem_iff_getElem.1 hx
    have := hg j (by omega)
    simpa [List.getD, hj] using this
  simp [meanFault, h, this, h0]
theorem meanFault_zero {zs : List Int} {n : Int} (h : meanFault zs n = 0) : (1 ≤ n ∧ n ≤ 1000) ∧ ∃ x y z, zs = [x, y, z] ∧ (-1000 * n ≤ x ∧ x ≤ 1000 * n) ∧ (-1000 * n ≤ y ∧ y ≤ 1000 * n) ∧ (-1000 * n ≤ z ∧ z ≤ 1000 * n) := by
  unfold meanFault at h
  split at h
  · simp at h
  · next hn =>
    split at h
    · next hl =>
      split at h
      · next ha =>
        match zs, hl, ha with
        | [x, y, z], _, ha =>
          simp only [List.all_cons, List.all_nil, Bool.and_true, Bool.and_eq_true] at ha
          exact ⟨by omega, x, y, z, rfl, sumB_true ha.1, sumB_true ha.2.1, sumB_true ha.2.2⟩
      · simp at h
    · simp at h

end Go.Proofs.Ytjofcmdlcoganaa
