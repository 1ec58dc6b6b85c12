/-
  Item of laws/exact.go: data of the call's own, part by part; how many marks they take.
  No condition.
-/
import Derived.Test.YteekfapjfpkidaaLayItem
namespace Go.Proofs.Yteekfapjfpkidaa
open Go.RowKit

theorem vcnt_Item (x : DItem) : Lay.tItem.vcnt x = (Lay.sl Lay.int).vcnt x.vec := by
  show 0 + ((Lay.sl Lay.int).vcnt x.vec) = (Lay.sl Lay.int).vcnt x.vec
  omega
theorem mkv_Item (k : Int) (x : DItem) : Lay.tItem.mkv k x = ⟨x.id, (Lay.sl Lay.int).mkv (k) x.vec⟩ := by
  simp [Lay.tItem, Lay.via, Lay.pair, Lay.int]
theorem own_Item {w : World} {cs : List Value} {x : DItem} {bl : List Nat} (h : Lay.tItem.Own w cs x bl) : ∃ (a1 : Option Addr) (d1 : Nat) (g1 : List Nat), cs = [.int .i64 x.id, .slice a1 x.vec.length d1] ∧ bl = g1 ∧ (Lay.sl Lay.int).Own w [.slice a1 x.vec.length d1] x.vec g1 ∧ (Lit.int .i64 x.id).wf = true := by
  obtain ⟨hl, hn, hf⟩ := h
  obtain ⟨a1, d1, b1, rfl, hbl, w0, l1⟩ := lies_Item.1 hl
  rw [hbl] at hn hf
  exact ⟨a1, d1, b1, rfl, hbl, ⟨l1, hn, hf⟩, w0⟩
theorem mkOwn_Item {w : World} {x : DItem} {c1 : List Value} {g1 : List Nat} (O1 : (Lay.sl Lay.int).Own w c1 x.vec g1) (v0 : (Lit.int .i64 x.id).wf = true) (hn : (g1).Nodup) : Lay.tItem.Own w ([.int .i64 x.id] ++ c1) x (g1) := by
  refine ⟨⟨[.int .i64 x.id], c1, [], g1, rfl, by simp, ⟨rfl, v0, rfl⟩, O1.1⟩, hn, ?_⟩
  intro b hb o
  exact O1.2.2 b hb o

end Go.Proofs.Yteekfapjfpkidaa
