/-
  A result with a code alone, and one with a write.
  No condition.
-/
import Derived.Test.YtjfplfhdfiebgaaDoorLayWriteResult
namespace Go.Proofs.YtjfplfhdfiebgaaDoor
open Go.RowKit

def zeroW : DWrite := ⟨0, 0, [], 0, 0⟩

/-- A result with a code alone. -/
theorem own_badW {w : World} {c : Int} {lo hi : Nat} (hw : (Lit.int .i64 c).wf = true) : Lay.tWriteResult.OwnIn w [.int .i64 c, .int .i64 0, .int .i64 0, .slice none 0 0, .int .i64 0, .int .i64 0] ⟨c, zeroW⟩ lo hi :=
  ⟨[], ⟨lies_WriteResult.2 ⟨none, 0, [], rfl, rfl, hw, rfl, rfl, Lay.lies_ints.2 ⟨none, 0, rfl, ⟨by simp [zeroW], by simp [zeroW]⟩, by simp [zeroW], Or.inl ⟨rfl, rfl⟩⟩, rfl, rfl⟩, by simp, by simp⟩, by simp⟩
/-- A result with a write. -/
theorem own_okW {w : World} {x : DWrite} {v : Value} {lo hi : Nat} (h : (Lay.sl Lay.int).OwnIn w [v] x.vec lo hi) (h1 : (Lit.int .i64 x.kind).wf = true) (h2 : (Lit.int .i64 x.id).wf = true) (h3 : (Lit.int .i64 x.session).wf = true) (h4 : (Lit.int .i64 x.seq).wf = true) :
    Lay.tWriteResult.OwnIn w [.int .i64 0, .int .i64 x.kind, .int .i64 x.id, v, .int .i64 x.session, .int .i64 x.seq] ⟨0, x⟩ lo hi := by
  obtain ⟨bl, ⟨hl, hn, hf⟩, hb⟩ := h
  have hl' := hl
  obtain ⟨ao, cap, e, -⟩ := hl'
  obtain rfl : v = .slice ao x.vec.length cap := by simpa using e
  exact ⟨bl, ⟨lies_WriteResult.2 ⟨ao, cap, bl, rfl, rfl, rfl, h1, h2, hl, h3, h4⟩, hn, hf⟩, hb⟩

end Go.Proofs.YtjfplfhdfiebgaaDoor
