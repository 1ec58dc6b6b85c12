/-
  WriteResult of laws/exact.go: data of the call's own, part by part; how many marks they take.
  No condition.
-/
import Derived.Test.YtjfplfhdfiebgaaDoorLayWriteResult
namespace Go.Proofs.YtjfplfhdfiebgaaDoor
open Go.RowKit

theorem vcnt_WriteResult (x : DWriteResult) : Lay.tWriteResult.vcnt x = Lay.tWrite.vcnt x.write := by
  show 0 + (Lay.tWrite.vcnt x.write) = Lay.tWrite.vcnt x.write
  omega
theorem mkv_WriteResult (k : Int) (x : DWriteResult) : Lay.tWriteResult.mkv k x = ⟨x.code, Lay.tWrite.mkv (k) x.write⟩ := by
  simp [Lay.tWriteResult, Lay.via, Lay.pair, Lay.int]
theorem own_WriteResult {w : World} {cs : List Value} {x : DWriteResult} {bl : List Nat} (h : Lay.tWriteResult.Own w cs x bl) : ∃ (a3 : Option Addr) (d3 : Nat) (g1 : List Nat), cs = [.int .i64 x.code, .int .i64 x.write.kind, .int .i64 x.write.id, .slice a3 x.write.vec.length d3, .int .i64 x.write.session, .int .i64 x.write.seq] ∧ bl = g1 ∧ Lay.tWrite.Own w [.int .i64 x.write.kind, .int .i64 x.write.id, .slice a3 x.write.vec.length d3, .int .i64 x.write.session, .int .i64 x.write.seq] x.write g1 ∧ (Lit.int .i64 x.code).wf = true := by
  obtain ⟨hl, hn, hf⟩ := h
  obtain ⟨a3, d3, b3, rfl, hbl, w0, w1, w2, l3, w4, w5⟩ := lies_WriteResult.1 hl
  rw [hbl] at hn hf
  exact ⟨a3, d3, b3, rfl, hbl, ⟨lies_Write.2 ⟨a3, d3, b3, rfl, rfl, w1, w2, l3, w4, w5⟩, hn, hf⟩, w0⟩
theorem mkOwn_WriteResult {w : World} {x : DWriteResult} {c1 : List Value} {g1 : List Nat} (O1 : Lay.tWrite.Own w c1 x.write g1) (v0 : (Lit.int .i64 x.code).wf = true) (hn : (g1).Nodup) : Lay.tWriteResult.Own w ([.int .i64 x.code] ++ c1) x (g1) := by
  refine ⟨⟨[.int .i64 x.code], c1, [], g1, rfl, by simp, ⟨rfl, v0, rfl⟩, O1.1⟩, hn, ?_⟩
  intro b hb o
  exact O1.2.2 b hb o

end Go.Proofs.YtjfplfhdfiebgaaDoor
