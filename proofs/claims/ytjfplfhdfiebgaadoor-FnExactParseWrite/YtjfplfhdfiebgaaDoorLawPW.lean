/-
  The law FnExactParseWrite answers true at every text, and writes nothing that was there.
  Condition: the library's own variables have their shapes.
-/
import Derived.Test.YtjfplfhdfiebgaaDoorLawXParseWrite
import Derived.Test.YtjfplfhdfiebgaaDoorImplPW
namespace Go.Proofs.YtjfplfhdfiebgaaDoor
open Go.RowKit

theorem vcnt_parse (l : Bytes) : Lay.tWriteResult.vcnt (parseM l) ≤ 100000000 := by
  rw [vcnt_WriteResult, vcnt_Write, vcnt_ints]
  rw [parseM_eq]
  cases h : readM (cutS [] l) with
  | none => simp [zeroW]
  | some x =>
    obtain ⟨-, -, -, hk⟩ := writeFault_zero (readM_fault h)
    rcases hk with ⟨-, hv⟩ | ⟨-, hv⟩
    · have := (vecFault_zero hv).1
      show _ ≤ _
      simp only
      omega
    · simp [hv]

theorem lawParseWrite (s : ByteArray) (w : World) (hm : s.size ≤ maxLen) (ht : Shp w) :
    Calls Tryd.prog 4 #[.string s] w fun e w' => e = .returned (.bool true) ∧ Below w.heap.size w w' := by
  by_cases hn : s.size ≤ 1048576
  · exact lawx_ParseWrite s (parseM s.data.toList) w ht hn (fun W _ => specPW s W hn) (fun W h => implPW s W hn h) (vcnt_parse _)
  · exact lawmany_ParseWrite_0 s w (by omega) hm

end Go.Proofs.YtjfplfhdfiebgaaDoor
