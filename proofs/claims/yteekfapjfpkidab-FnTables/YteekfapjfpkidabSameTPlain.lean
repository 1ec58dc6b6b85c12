/-
  Whether two items, and two lists of items, are the same, in plain words.
  No condition.
-/
import Derived.Test.YteekfapjfpkidabTabGround
import Derived.Test.YteekfapjfpkidabGround
namespace Go.Proofs.Yteekfapjfpkidab
open Go.RowKit

def sameI (x y : DItem) : Bool := x.id == y.id && decide (x.vec = y.vec)
def sameIs : List DItem → List DItem → Bool
  | [], [] => true
  | x :: xs, y :: ys => sameI x y && sameIs xs ys
  | _, _ => false
theorem sameIs_len {xs ys : List DItem} (h : xs.length ≠ ys.length) : sameIs xs ys = false := by
  induction xs generalizing ys with
  | nil => match ys, h with | y :: ys, _ => rfl
  | cons x xs ih =>
    match ys, h with
    | [], _ => rfl
    | y :: ys, h => rw [sameIs, ih (by simpa using h), Bool.and_false]
theorem sameIs_at {xs ys : List DItem} (k : Nat) (h1 : k < xs.length) (h2 : k < ys.length) (h : sameI xs[k] ys[k] = false) : sameIs xs ys = false := by
  induction xs generalizing ys k with
  | nil => simp at h1
  | cons x xs ih =>
    match ys, k with
    | y :: ys, 0 => rw [sameIs, show sameI x y = false by simpa using h, Bool.false_and]
    | y :: ys, k + 1 => rw [sameIs, ih k (by simpa using h1) (by simpa using h2) (by simpa using h), Bool.and_false]
theorem sameIs_all {xs ys : List DItem} (hl : xs.length = ys.length) (h : ∀ k (h1 : k < xs.length) (h2 : k < ys.length), sameI xs[k] ys[k] = true) : sameIs xs ys = true := by
  induction xs generalizing ys with
  | nil => match ys, hl with | [], _ => rfl
  | cons x xs ih =>
    match ys, hl with
    | y :: ys, hl =>
      rw [sameIs, show sameI x y = true from h 0 (by simp) (by simp), ih (by simpa using hl) fun k h1 h2 => h (k + 1) (by simpa using h1) (by simpa using h2), Bool.true_and]
theorem sameIs_refl_self (x : DItem) : sameI x x = true := by simp [sameI]

end Go.Proofs.Yteekfapjfpkidab
