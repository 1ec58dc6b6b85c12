/-
  Center of laws/exact.go: data of the call's own, part by part; how many marks they take.
  No condition.
-/
import Derived.Test.YtjofcmdlcoganaaLayCenter
namespace Go.Proofs.Ytjofcmdlcoganaa
open Go.RowKit

theorem vcnt_Center (x : DCenter) : Lay.tCenter.vcnt x = (Lay.sl Lay.int).vcnt x.vec := by
  show (Lay.sl Lay.int).vcnt x.vec = (Lay.sl Lay.int).vcnt x.vec
  omega
theorem mkv_Center (k : Int) (x : DCenter) : Lay.tCenter.mkv k x = ⟨(Lay.sl Lay.int).mkv (k) x.vec⟩ := by
  simp [Lay.tCenter, Lay.via]
theorem own_Center {w : World} {cs : List Value} {x : DCenter} {bl : List Nat} (h : Lay.tCenter.Own w cs x bl) : ∃ (a0 : Option Addr) (d0 : Nat) (g0 : List Nat), cs = [.slice a0 x.vec.length d0] ∧ bl = g0 ∧ (Lay.sl Lay.int).Own w [.slice a0 x.vec.length d0] x.vec g0 := by
  obtain ⟨hl, hn, hf⟩ := h
  obtain ⟨a0, d0, b0, rfl, hbl, l0⟩ := lies_Center.1 hl
  rw [hbl] at hn hf
  exact ⟨a0, d0, b0, rfl, hbl, ⟨l0, hn, hf⟩⟩
theorem mkOwn_Center {w : World} {x : DCenter} {c0 : List Value} {g0 : List Nat} (O0 : (Lay.sl Lay.int).Own w c0 x.vec g0) (hn : (g0).Nodup) : Lay.tCenter.Own w (c0) x (g0) := by
  refine ⟨O0.1, hn, ?_⟩
  intro b hb o
  exact O0.2.2 b hb o

end Go.Proofs.Ytjofcmdlcoganaa
