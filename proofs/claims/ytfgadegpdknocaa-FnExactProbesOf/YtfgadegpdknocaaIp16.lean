/-
  Texts of this proof in one: OpenItem, OpenIvfList, OpenIvf.
  Their conditions stand in their theorems.
-/
import Derived.Test.YtfgadegpdknocaaIp15
import Derived.Test.YtfgadegpdknocaaIp02

namespace Go.Proofs.Ytfgadegpdknocaa
open Go.RowKit

set_option maxRecDepth 10000 in
theorem opens_Item : Opens Lay.tItem 101 := by
  intro H enc W base spare held fuel cs x h
  obtain ⟨xs, n, _, _, hlen, hl, hfi⟩ := DataW.trod_struct Try.underlying101 h
  rw [show Try.prog.cellsOf 101 = 2 by kernel_rfl] at hlen
  match cs, hlen with
  | [c0, c1], _ =>
  match xs, hl with
  | [y0, y1], _ =>
  have z0 : Try.prog.cellsOf 2 = 1 := by kernel_rfl
  have z1 : Try.prog.cellsOf 51 = 1 := by kernel_rfl
  have f0 : DataW.trod enc Try.prog W base spare held n 2 (([c0, c1].drop 0).take (Try.prog.cellsOf 2)) = some y0 := hfi 0 _ rfl
  rw [z0] at f0
  obtain ⟨d0, r0⟩ := (opens_int Try.underlying2) enc W base spare held n _ _ f0
  have f1 : DataW.trod enc Try.prog W base spare held n 51 (([c0, c1].drop 1).take (Try.prog.cellsOf 51)) = some y1 := hfi 1 _ rfl
  rw [z1] at f1
  obtain ⟨d1, r1⟩ := (opens_sl Try.underlying51 (by kernel_rfl) (by decide) (opens_int Try.underlying2)) enc W base spare held n _ _ f1
  exact ⟨⟨d0, d1⟩, (reads_pair r0 r1)⟩

end Go.Proofs.Ytfgadegpdknocaa

namespace Go.Proofs.Ytfgadegpdknocaa
open Go.RowKit

set_option maxRecDepth 10000 in
theorem opens_IvfList : Opens Lay.tIvfList 145 := by
  intro H enc W base spare held fuel cs x h
  obtain ⟨xs, n, _, _, hlen, hl, hfi⟩ := DataW.trod_struct Try.underlying145 h
  rw [show Try.prog.cellsOf 145 = 1 by kernel_rfl] at hlen
  match cs, hlen with
  | [c0], _ =>
  match xs, hl with
  | [y0], _ =>
  have z0 : Try.prog.cellsOf 35 = 1 := by kernel_rfl
  have f0 : DataW.trod enc Try.prog W base spare held n 35 (([c0].drop 0).take (Try.prog.cellsOf 35)) = some y0 := hfi 0 _ rfl
  rw [z0] at f0
  obtain ⟨d0, r0⟩ := (opens_sl Try.underlying35 (by kernel_rfl) (by decide) opens_Item) enc W base spare held n _ _ f0
  exact ⟨⟨d0⟩, r0⟩

end Go.Proofs.Ytfgadegpdknocaa

namespace Go.Proofs.Ytfgadegpdknocaa
open Go.RowKit

set_option maxRecDepth 10000 in
theorem opens_Ivf : Opens Lay.tIvf 25 := by
  intro H enc W base spare held fuel cs x h
  obtain ⟨xs, n, _, _, hlen, hl, hfi⟩ := DataW.trod_struct Try.underlying25 h
  rw [show Try.prog.cellsOf 25 = 2 by kernel_rfl] at hlen
  match cs, hlen with
  | [c0, c1], _ =>
  match xs, hl with
  | [y0, y1], _ =>
  have z0 : Try.prog.cellsOf 22 = 1 := by kernel_rfl
  have z1 : Try.prog.cellsOf 23 = 1 := by kernel_rfl
  have f0 : DataW.trod enc Try.prog W base spare held n 22 (([c0, c1].drop 0).take (Try.prog.cellsOf 22)) = some y0 := hfi 0 _ rfl
  rw [z0] at f0
  obtain ⟨d0, r0⟩ := (opens_sl Try.underlying22 (by kernel_rfl) (by decide) opens_Center) enc W base spare held n _ _ f0
  have f1 : DataW.trod enc Try.prog W base spare held n 23 (([c0, c1].drop 1).take (Try.prog.cellsOf 23)) = some y1 := hfi 1 _ rfl
  rw [z1] at f1
  obtain ⟨d1, r1⟩ := (opens_sl Try.underlying23 (by kernel_rfl) (by decide) opens_IvfList) enc W base spare held n _ _ f1
  exact ⟨⟨d0, d1⟩, (reads_pair r0 r1)⟩

end Go.Proofs.Ytfgadegpdknocaa
