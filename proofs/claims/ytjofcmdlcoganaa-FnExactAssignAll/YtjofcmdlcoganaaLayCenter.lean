/-
  Center: its data, and how they lie in memory.
  No condition.
-/
import Derived.Test.YtjofcmdlcoganaaGround
namespace Go.Proofs.Ytjofcmdlcoganaa
open Go.RowKit

structure DCenter where
  vec : List Int

def Lay.tCenter : Lay DCenter := Lay.via (Lay.sl Lay.int) (fun x => x.vec) (fun p => ⟨p⟩)

theorem lies_Center {w : World} {cs : List Value} {x : DCenter} {bl : List Nat} : Lay.tCenter.lies w cs x bl ↔ ∃ (a0 : Option Addr) (d0 : Nat) (b0 : List Nat), cs = [.slice a0 x.vec.length d0] ∧ bl = b0 ∧ (Lay.sl Lay.int).lies w [.slice a0 x.vec.length d0] x.vec b0 := by
  constructor
  · intro h
    have h0 := h
    have k0 := h0
    obtain ⟨a0, d0, rfl, -⟩ := k0
    exact ⟨a0, d0, bl, by simp, by simp, h0⟩
  · rintro ⟨a0, d0, b0, rfl, hbl, l0⟩
    rw [hbl]
    exact l0

theorem open_Center {w : World} {cs : List Value} {x : DCenter} (h : Lay.tCenter.Reads w cs x) : ∃ (a0 : Option Addr) (d0 : Nat), cs = [.slice a0 x.vec.length d0] ∧ (Lay.sl Lay.int).Reads w [.slice a0 x.vec.length d0] x.vec := by
  obtain ⟨bl, h⟩ := h
  obtain ⟨a0, d0, b0, rfl, -, l0⟩ := lies_Center.1 h
  exact ⟨a0, d0, rfl, ⟨_, l0⟩⟩

end Go.Proofs.Ytjofcmdlcoganaa
