/-
  What is cut at blanks is the text again when it is joined with blanks.
  No program is named here.
-/
import Derived.Test.YtjfplfhdfiebgaaDoorCutSp
namespace Go.Proofs.YtjfplfhdfiebgaaDoor

/-- Pieces with a blank between two. -/
def joinS : List Bytes → Bytes
  | [] => []
  | [a] => a
  | a :: b :: r => a ++ 32 :: joinS (b :: r)

theorem cutS_ne (acc l : Bytes) : cutS acc l ≠ [] := by
  induction l generalizing acc with
  | nil => simp [cutS]
  | cons c r ih =>
    rw [cutS]
    split
    · simp
    · exact ih _

theorem joinS_cons (a : Bytes) {m : List Bytes} (h : m ≠ []) : joinS (a :: m) = a ++ 32 :: joinS m := by
  cases m with
  | nil => exact absurd rfl h
  | cons b r => rfl

theorem cutS_join (acc l : Bytes) : joinS (cutS acc l) = acc ++ l := by
  induction l generalizing acc with
  | nil => simp [cutS, joinS]
  | cons c r ih =>
    rw [cutS]
    split
    · next h =>
      have hc : c = 32 := UInt8.toNat_inj.1 h
      rw [joinS_cons acc (cutS_ne [] r), ih [], hc]
      rfl
    · rw [ih]
      simp

end Go.Proofs.YtjfplfhdfiebgaaDoor
