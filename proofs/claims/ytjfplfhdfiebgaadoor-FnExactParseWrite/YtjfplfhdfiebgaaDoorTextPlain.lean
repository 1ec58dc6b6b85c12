/-
  A vector's text, in plain words.
  No condition.
-/
import Derived.Test.YtjfplfhdfiebgaaDoorTabGround
import Derived.Test.YtjfplfhdfiebgaaDoorDigits
import Derived.Lib.AppendIntMem
namespace Go.Proofs.YtjfplfhdfiebgaaDoor
open Go.RowKit

theorem dec_len (n : Int) : (dec n).length ≤ 5 := by
  unfold dec
  split
  · have := decF_len 4 n.natAbs; simp; omega
  · have := decF_len 4 n.toNat; omega

/-- The text of three numbers. -/
def text3 (x y z : Int) : Bytes := dec x ++ 44 :: (dec y ++ 44 :: dec z)
theorem text3_len (x y z : Int) : (text3 x y z).length ≤ 17 := by
  have := dec_len x
  have := dec_len y
  have := dec_len z
  simp [text3]
  omega
/-- What VecText tells. -/
def vecText (zs : List Int) : Bytes := if vecFault zs = 0 then text3 (zs.getD 0 0) (zs.getD 1 0) (zs.getD 2 0) else []
theorem vecText_len (zs : List Int) : (vecText zs).length ≤ 17 := by
  unfold vecText
  split
  · exact text3_len _ _ _
  · simp

end Go.Proofs.YtjfplfhdfiebgaaDoor
