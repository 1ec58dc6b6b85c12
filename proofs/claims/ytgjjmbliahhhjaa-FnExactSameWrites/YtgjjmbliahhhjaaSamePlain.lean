/-
  Whether two writes, and two lists of writes, are the same, in plain words.
  No condition.
-/
import Derived.Test.YtgjjmbliahhhjaaLayWrite
import Derived.Test.YtgjjmbliahhhjaaLayRow
namespace Go.Proofs.Ytgjjmbliahhhjaa
open Go.RowKit

def sameW (x y : DWrite) : Bool := x.kind == y.kind && (x.id == y.id && (x.session == y.session && (x.seq == y.seq && decide (x.vec = y.vec))))
def sameWs : List DWrite → List DWrite → Bool
  | [], [] => true
  | x :: xs, y :: ys => sameW x y && sameWs xs ys
  | _, _ => false
theorem sameWs_len {xs ys : List DWrite} (h : xs.length ≠ ys.length) : sameWs xs ys = false := by
  induction xs generalizing ys with
  | nil => match ys, h with | y :: ys, _ => rfl
  | cons x xs ih =>
    match ys, h with
    | [], _ => rfl
    | y :: ys, h => rw [sameWs, ih (by simpa using h), Bool.and_false]
theorem sameWs_at {xs ys : List DWrite} (k : Nat) (h1 : k < xs.length) (h2 : k < ys.length) (h : sameW xs[k] ys[k] = false) : sameWs xs ys = false := by
  induction xs generalizing ys k with
  | nil => simp at h1
  | cons x xs ih =>
    match ys, k with
    | y :: ys, 0 => rw [sameWs, show sameW x y = false by simpa using h, Bool.false_and]
    | y :: ys, k + 1 => rw [sameWs, ih k (by simpa using h1) (by simpa using h2) (by simpa using h), Bool.and_false]
theorem sameWs_all {xs ys : List DWrite} (hl : xs.length = ys.length) (h : ∀ k (h1 : k < xs.length) (h2 : k < ys.length), sameW xs[k] ys[k] = true) : sameWs xs ys = true := by
  induction xs generalizing ys with
  | nil => match ys, hl with | [], _ => rfl
  | cons x xs ih =>
    match ys, hl with
    | y :: ys, hl =>
      rw [sameWs, show sameW x y = true from h 0 (by simp) (by simp), ih (by simpa using hl) fun k h1 h2 => h (k + 1) (by simpa using h1) (by simpa using h2), Bool.true_and]
theorem sameWs_refl_self (x : DWrite) : sameW x x = true := by simp [sameW]

end Go.Proofs.Ytgjjmbliahhhjaa
