/-
  Small facts on tables that were asked for.
  No condition.
-/
import Derived.Test.YteekfapjfpkidabSpecAt
import Derived.Test.YteekfapjfpkidabTabGround
namespace Go.Proofs.Yteekfapjfpkidab
open Go.RowKit

theorem ask_zero {xs : List DItem} {id : Int} (hf : askF xs id = 0) : tableFault xs = 0 ∧ idB id = true := by
  unfold askF at hf
  by_cases h1 : tableFault xs = 0
  · rw [if_pos h1] at hf
    cases h2 : idB id with
    | true => exact ⟨h1, rfl⟩
    | false => rw [h2] at hf; cases hf
  · rw [if_neg h1] at hf; exact absurd hf h1
theorem ask_vals (xs : List DItem) (id : Int) : 0 ≤ askF xs id ∧ askF xs id ≤ 3 := by
  unfold askF
  have := tableFault_vals xs
  split
  · split <;> decide
  · exact this
theorem right_small {xs : List DItem} (h : Right xs) : xs.length ≤ 1000000 ∧ ∀ x ∈ xs, x.vec.length ≤ 100000000 := by
  obtain ⟨hl, ha, -⟩ := tableFault_zero h
  exact ⟨by omega, fun x hx => by have := (vecFault_zero (ha x hx).2).1; omega⟩

end Go.Proofs.Yteekfapjfpkidab
