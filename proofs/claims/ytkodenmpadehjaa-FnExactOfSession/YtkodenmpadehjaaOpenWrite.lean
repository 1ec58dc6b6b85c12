/-
  Write of laws/exact.go: what a reading tells of one that came in.
  No condition.
-/
import Derived.Test.YtkodenmpadehjaaLayOpen
import Derived.Test.YtkodenmpadehjaaTabGround
namespace Go.Proofs.Ytkodenmpadehjaa
open Go.RowKit

set_option maxRecDepth 10000 in
theorem opens_Write : Opens Lay.tWrite 45 := by
  intro H enc W base spare held fuel cs x h
  obtain ⟨xs, n, _, _, hlen, hl, hfi⟩ := DataW.trod_struct Try.underlying45 h
  rw [show Try.prog.cellsOf 45 = 5 by kernel_rfl] at hlen
  match cs, hlen with
  | [c0, c1, c2, c3, c4], _ =>
  match xs, hl with
  | [y0, y1, y2, y3, y4], _ =>
  have z0 : Try.prog.cellsOf 2 = 1 := by kernel_rfl
  have z1 : Try.prog.cellsOf 43 = 1 := by kernel_rfl
  have f0 : DataW.trod enc Try.prog W base spare held n 2 (([c0, c1, c2, c3, c4].drop 0).take (Try.prog.cellsOf 2)) = some y0 := hfi 0 _ rfl
  rw [z0] at f0
  obtain ⟨d0, r0⟩ := (opens_int Try.underlying2) enc W base spare held n _ _ f0
  have f1 : DataW.trod enc Try.prog W base spare held n 2 (([c0, c1, c2, c3, c4].drop 1).take (Try.prog.cellsOf 2)) = some y1 := hfi 1 _ rfl
  rw [z0] at f1
  obtain ⟨d1, r1⟩ := (opens_int Try.underlying2) enc W base spare held n _ _ f1
  have f2 : DataW.trod enc Try.prog W base spare held n 43 (([c0, c1, c2, c3, c4].drop 2).take (Try.prog.cellsOf 43)) = some y2 := hfi 2 _ rfl
  rw [z1] at f2
  obtain ⟨d2, r2⟩ := (opens_sl Try.underlying43 (by kernel_rfl) (by decide) (opens_int Try.underlying2)) enc W base spare held n _ _ f2
  have f3 : DataW.trod enc Try.prog W base spare held n 2 (([c0, c1, c2, c3, c4].drop 3).take (Try.prog.cellsOf 2)) = some y3 := hfi 3 _ rfl
  rw [z0] at f3
  obtain ⟨d3, r3⟩ := (opens_int Try.underlying2) enc W base spare held n _ _ f3
  have f4 : DataW.trod enc Try.prog W base spare held n 2 (([c0, c1, c2, c3, c4].drop 4).take (Try.prog.cellsOf 2)) = some y4 := hfi 4 _ rfl
  rw [z0] at f4
  obtain ⟨d4, r4⟩ := (opens_int Try.underlying2) enc W base spare held n _ _ f4
  exact ⟨⟨d0, d1, d2, d3, d4⟩, (reads_pair r0 (reads_pair r1 (reads_pair r2 (reads_pair r3 r4))))⟩

end Go.Proofs.Ytkodenmpadehjaa
