/-
  The write whose words a list of numbers is, in plain words.
  No condition.
-/
import Derived.Test.YtgjjmbliahhhjaaWrPackOp
import Derived.Test.YtgjjmbliahhhjaaLayWriteResult
namespace Go.Proofs.Ytgjjmbliahhhjaa
open Go.RowKit

def unpackW (zs : List Int) : DWrite := ⟨zs.getD 0 0, zs.getD 1 0, if zs.getD 0 0 = 1 then [zs.getD 4 0, zs.getD 5 0, zs.getD 6 0] else [], zs.getD 2 0, zs.getD 3 0⟩
def packD (x : DWrite) : List Int := packList x.kind x.id x.vec x.session x.seq
def zeroW : DWrite := ⟨0, 0, [], 0, 0⟩
def unpackR (zs : List Int) : DWriteResult := if zs.length = 8 ∧ packD (unpackW zs) = zs then ⟨0, unpackW zs⟩ else ⟨5, zeroW⟩

theorem unpackR_len {zs : List Int} (h : zs.length ≠ 8) : unpackR zs = ⟨5, zeroW⟩ := by rw [unpackR, if_neg (fun q => h q.1)]
theorem eight {zs : List Int} (h : zs.length = 8) : ∃ a b c d e f g k, zs = [a, b, c, d, e, f, g, k] := by
  match zs, h with
  | [a, b, c, d, e, f, g, k], _ => exact ⟨a, b, c, d, e, f, g, k, rfl⟩

/-- A result with a code alone. -/
theorem own_badW {w : World} {c : Int} {lo hi : Nat} (hw : (Lit.int .i64 c).wf = true) : Lay.tWriteResult.OwnIn w [.int .i64 c, .int .i64 0, .int .i64 0, .slice none 0 0, .int .i64 0, .int .i64 0] ⟨c, zeroW⟩ lo hi :=
  ⟨[], ⟨lies_WriteResult.2 ⟨none, 0, [], rfl, rfl, hw, rfl, rfl, Lay.lies_ints.2 ⟨none, 0, rfl, ⟨by simp [zeroW], by simp [zeroW]⟩, by simp [zeroW], Or.inl ⟨rfl, rfl⟩⟩, rfl, rfl⟩, by simp, by simp⟩, by simp⟩
/-- A result with a write. -/
theorem own_okW {w : World} {x : DWrite} {v : Value} {lo hi : Nat} (h : (Lay.sl Lay.int).OwnIn w [v] x.vec lo hi) (h1 : (Lit.int .i64 x.kind).wf = true) (h2 : (Lit.int .i64 x.id).wf = true) (h3 : (Lit.int .i64 x.session).wf = true) (h4 : (Lit.int .i64 x.seq).wf = true) :
    Lay.tWriteResult.OwnIn w [.int .i64 0, .int .i64 x.kind, .int .i64 x.id, v, .int .i64 x.session, .int .i64 x.seq] ⟨0, x⟩ lo hi := by
  obtain ⟨bl, ⟨hl, hn, hf⟩, hb⟩ := h
  have hl' := hl
  obtain ⟨ao, cap, e, -⟩ := hl'
  obtain rfl : v = .slice ao x.vec.length cap := by simpa using e
  exact ⟨bl, ⟨lies_WriteResult.2 ⟨ao, cap, bl, rfl, rfl, rfl, h1, h2, hl, h3, h4⟩, hn, hf⟩, hb⟩

end Go.Proofs.Ytgjjmbliahhhjaa
