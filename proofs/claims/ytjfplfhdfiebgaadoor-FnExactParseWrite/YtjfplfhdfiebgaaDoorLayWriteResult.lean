/-
  WriteResult: its data, and how they lie in memory.
  No condition.
-/
import Derived.Test.YtjfplfhdfiebgaaDoorGround
import Derived.Test.YtjfplfhdfiebgaaDoorTabGround
namespace Go.Proofs.YtjfplfhdfiebgaaDoor
open Go.RowKit

structure DWriteResult where
  code : Int
  write : DWrite

def Lay.tWriteResult : Lay DWriteResult := Lay.via (Lay.pair Lay.int Lay.tWrite) (fun x => (x.code, x.write)) (fun p => ⟨p.1, p.2⟩)

theorem lies_WriteResult {w : World} {cs : List Value} {x : DWriteResult} {bl : List Nat} : Lay.tWriteResult.lies w cs x bl ↔ ∃ (a3 : Option Addr) (d3 : Nat) (b3 : List Nat), cs = [.int .i64 x.code, .int .i64 x.write.kind, .int .i64 x.write.id, .slice a3 x.write.vec.length d3, .int .i64 x.write.session, .int .i64 x.write.seq] ∧ bl = b3 ∧ (Lit.int .i64 x.code).wf = true ∧ (Lit.int .i64 x.write.kind).wf = true ∧ (Lit.int .i64 x.write.id).wf = true ∧ (Lay.sl Lay.int).lies w [.slice a3 x.write.vec.length d3] x.write.vec b3 ∧ (Lit.int .i64 x.write.session).wf = true ∧ (Lit.int .i64 x.write.seq).wf = true := by
  constructor
  · intro h
    obtain ⟨c0_, r0_, e0_, s0_, rfl, rfl, h0, h1⟩ := h
    obtain ⟨rfl, w0, rfl⟩ := h0
    obtain ⟨a3, d3, q3, rfl, hq1, w1, w2, l3, w4, w5⟩ := lies_Write.1 h1
    exact ⟨a3, d3, q3, by simp, by simp [hq1], w0, w1, w2, l3, w4, w5⟩
  · rintro ⟨a3, d3, b3, rfl, hbl, w0, w1, w2, l3, w4, w5⟩
    rw [hbl]
    exact ⟨[.int .i64 x.code], [.int .i64 x.write.kind, .int .i64 x.write.id, .slice a3 x.write.vec.length d3, .int .i64 x.write.session, .int .i64 x.write.seq], [], b3, rfl, by simp, ⟨rfl, w0, rfl⟩, lies_Write.2 ⟨a3, d3, b3, rfl, rfl, w1, w2, l3, w4, w5⟩⟩

theorem open_WriteResult {w : World} {cs : List Value} {x : DWriteResult} (h : Lay.tWriteResult.Reads w cs x) : ∃ (a3 : Option Addr) (d3 : Nat), cs = [.int .i64 x.code, .int .i64 x.write.kind, .int .i64 x.write.id, .slice a3 x.write.vec.length d3, .int .i64 x.write.session, .int .i64 x.write.seq] ∧ Lay.tWrite.Reads w [.int .i64 x.write.kind, .int .i64 x.write.id, .slice a3 x.write.vec.length d3, .int .i64 x.write.session, .int .i64 x.write.seq] x.write := by
  obtain ⟨bl, h⟩ := h
  obtain ⟨a3, d3, b3, rfl, -, w0, w1, w2, l3, w4, w5⟩ := lies_WriteResult.1 h
  exact ⟨a3, d3, rfl, ⟨_, lies_Write.2 ⟨a3, d3, _, rfl, rfl, w1, w2, l3, w4, w5⟩⟩⟩

end Go.Proofs.YtjfplfhdfiebgaaDoor
