/-
  A write's text, in plain words.
  No condition.
-/
import Derived.Test.YtjfplfhdfiebgaaDoorTextPlain
import Derived.Test.YtjfplfhdfiebgaaDoorWrZero
import Derived.Test.YtjfplfhdfiebgaaDoorTabGround
namespace Go.Proofs.YtjfplfhdfiebgaaDoor
open Go.RowKit

/-- What stands ahead of 'by'. -/
def writeHead (k i : Int) (zs : List Int) : Bytes := if k = 1 then [112, 117, 116, 32] ++ dec i ++ [32] ++ vecText zs else [100, 114, 111, 112, 32] ++ dec i
def writeTail (s q : Int) (h : Bytes) : Bytes := h ++ [32, 98, 121, 32] ++ dec s ++ [32] ++ dec q
def writeText (k i : Int) (zs : List Int) (s q : Int) : Bytes := if writeFault k i zs s q = 0 then writeTail s q (writeHead k i zs) else []
theorem writeHead_len (k i : Int) (zs : List Int) : (writeHead k i zs).length ≤ 30 := by
  have := dec_len i
  have := vecText_len zs
  unfold writeHead
  split <;> simp <;> omega
theorem writeText_len (k i : Int) (zs : List Int) (s q : Int) : (writeText k i zs s q).length ≤ 60 := by
  have := dec_len s
  have := dec_len q
  have := writeHead_len k i zs
  unfold writeText
  split
  · simp [writeTail]; omega
  · simp

/-- Two texts, one behind the other. -/
theorem addS {a b c : Bytes} (h : a ++ b = c) (hl : c.length ≤ 1000) : ∀ W : World, (Op.stringOp .add ⟨a.toArray⟩ ⟨b.toArray⟩).run Tryd.prog W = .ok (.string ⟨c.toArray⟩) W := by
  intro W
  subst h
  simp at hl
  exact (run_string_add_sum W _ _ (by simp [ByteArray.size]; omega)).trans (by rw [str_app])

end Go.Proofs.YtjfplfhdfiebgaaDoor
