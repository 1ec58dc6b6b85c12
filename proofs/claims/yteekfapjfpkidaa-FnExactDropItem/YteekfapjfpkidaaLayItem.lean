/-
  Item: its data, and how they lie in memory.
  No condition.
-/
import Derived.Test.YteekfapjfpkidaaLay
namespace Go.Proofs.Yteekfapjfpkidaa
open Go.RowKit

structure DItem where
  id : Int
  vec : List Int

def Lay.tItem : Lay DItem := Lay.via (Lay.pair Lay.int (Lay.sl Lay.int)) (fun x => (x.id, x.vec)) (fun p => ⟨p.1, p.2⟩)

theorem lies_Item {w : World} {cs : List Value} {x : DItem} {bl : List Nat} : Lay.tItem.lies w cs x bl ↔ ∃ (a1 : Option Addr) (d1 : Nat) (b1 : List Nat), cs = [.int .i64 x.id, .slice a1 x.vec.length d1] ∧ bl = b1 ∧ (Lit.int .i64 x.id).wf = true ∧ (Lay.sl Lay.int).lies w [.slice a1 x.vec.length d1] x.vec b1 := by
  constructor
  · intro h
    obtain ⟨c0_, r0_, e0_, s0_, rfl, rfl, h0, h1⟩ := h
    obtain ⟨rfl, w0, rfl⟩ := h0
    have k1 := h1
    obtain ⟨a1, d1, rfl, -⟩ := k1
    exact ⟨a1, d1, s0_, by simp, by simp, w0, h1⟩
  · rintro ⟨a1, d1, b1, rfl, hbl, w0, l1⟩
    rw [hbl]
    exact ⟨[.int .i64 x.id], [.slice a1 x.vec.length d1], [], b1, rfl, by simp, ⟨rfl, w0, rfl⟩, l1⟩

theorem open_Item {w : World} {cs : List Value} {x : DItem} (h : Lay.tItem.Reads w cs x) : ∃ (a1 : Option Addr) (d1 : Nat), cs = [.int .i64 x.id, .slice a1 x.vec.length d1] ∧ (Lay.sl Lay.int).Reads w [.slice a1 x.vec.length d1] x.vec := by
  obtain ⟨bl, h⟩ := h
  obtain ⟨a1, d1, b1, rfl, -, w0, l1⟩ := lies_Item.1 h
  exact ⟨a1, d1, rfl, ⟨_, l1⟩⟩

end Go.Proofs.Yteekfapjfpkidaa
