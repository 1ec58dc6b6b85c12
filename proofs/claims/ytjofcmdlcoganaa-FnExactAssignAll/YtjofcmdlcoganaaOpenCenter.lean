/-
  Center of laws/exact.go: what a reading tells of one that came in.
  No condition.
-/
import Derived.Test.YtjofcmdlcoganaaLayOpen
import Derived.Test.YtjofcmdlcoganaaLayCenter
namespace Go.Proofs.Ytjofcmdlcoganaa
open Go.RowKit

set_option maxRecDepth 10000 in
theorem opens_Center : Opens Lay.tCenter 83 := by
  intro H enc W base spare held fuel cs x h
  obtain ⟨xs, n, _, _, hlen, hl, hfi⟩ := DataW.trod_struct Try.underlying83 h
  rw [show Try.prog.cellsOf 83 = 1 by kernel_rfl] at hlen
  match cs, hlen with
  | [c0], _ =>
  match xs, hl with
  | [y0], _ =>
  have z0 : Try.prog.cellsOf 25 = 1 := by kernel_rfl
  have f0 : DataW.trod enc Try.prog W base spare held n 25 (([c0].drop 0).take (Try.prog.cellsOf 25)) = some y0 := hfi 0 _ rfl
  rw [z0] at f0
  obtain ⟨d0, r0⟩ := (opens_sl Try.underlying25 (by kernel_rfl) (by decide) (opens_int Try.underlying2)) enc W base spare held n _ _ f0
  exact ⟨⟨d0⟩, r0⟩

end Go.Proofs.Ytjofcmdlcoganaa
