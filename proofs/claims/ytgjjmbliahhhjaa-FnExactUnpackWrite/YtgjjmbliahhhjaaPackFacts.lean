/-
  A write's words are at most eight, and each is an int64.
  No condition.
-/
import Derived.Test.YtgjjmbliahhhjaaWrPackOp
namespace Go.Proofs.Ytgjjmbliahhhjaa
open Go.RowKit

theorem checkOf_bd (n : Int) : -1000 ≤ checkOf n ∧ checkOf n ≤ 1000 := by have := tmod_bd (n.tmod 997 + 997); unfold checkOf; omega
theorem packList_len {k i s q : Int} {zs : List Int} : (packList k i zs s q).length ≤ 8 := by
  unfold packList
  split <;> simp [wordsOf]
theorem packList_wf {k i s q : Int} {zs : List Int} : ∀ z ∈ packList k i zs s q, (Lit.int .i64 z).wf = true := by
  intro z hz
  unfold packList at hz
  split at hz
  · next hf =>
    obtain ⟨hi, hs, hq, hk⟩ := writeFault_zero hf
    have hp : ∀ j, -1000 ≤ (partsOf k zs).getD j 0 ∧ (partsOf k zs).getD j 0 ≤ 1000 := by
      intro j
      rcases hk with ⟨rfl, hv⟩ | ⟨rfl, rfl⟩
      · obtain ⟨hl, hb⟩ := vecFault_zero hv
        by_cases hj : j < 3
        · have := hb j hj
          simpa [partsOf] using this
        · simp [partsOf, List.getD, List.getElem?_eq_none (show zs.length ≤ j by omega)]
      · rcases (show j = 0 ∨ j = 1 ∨ j = 2 ∨ 3 ≤ j by omega) with rfl | rfl | rfl | h
        · simp [partsOf]
        · simp [partsOf]
        · simp [partsOf]
        · have e : (partsOf 2 []).length ≤ j := by simpa [partsOf] using h
          simp [List.getD, List.getElem?_eq_none e]
    have hkb : 1 ≤ k ∧ k ≤ 2 := by rcases hk with ⟨rfl, _⟩ | ⟨rfl, _⟩ <;> omega
    have hcb := checkOf_bd (packSum k i s q ((partsOf k zs).getD 0 0) ((partsOf k zs).getD 1 0) ((partsOf k zs).getD 2 0))
    have h0 := hp 0
    have h1 := hp 1
    have h2 := hp 2
    simp only [wordsOf, List.mem_cons, List.not_mem_nil, or_false] at hz
    rcases hz with rfl | rfl | rfl | rfl | rfl | rfl | rfl | rfl <;> exact wf_of_bd (by omega)
  · simp at hz

end Go.Proofs.Ytgjjmbliahhhjaa
