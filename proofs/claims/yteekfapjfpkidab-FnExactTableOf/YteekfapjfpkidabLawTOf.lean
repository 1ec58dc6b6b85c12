/-
  The law FnExactTableOf answers true at every list of writes, and writes nothing that was there.
  No condition.
-/
import Derived.Test.YteekfapjfpkidabLawXTableOf
import Derived.Test.YteekfapjfpkidabImplTOf
import Derived.Test.YteekfapjfpkidabSpecTOf
namespace Go.Proofs.Yteekfapjfpkidab
open Go.RowKit

theorem tableOfR_few (ws : List DWrite) : Lay.tTableResult.vcnt (tableOfR ws) ≤ 100000000 := by
  rw [vcnt_TableResult]
  show cntAll Lay.tItem.cnt (tableOfR ws).items ≤ 100000000
  unfold tableOfR
  split
  · rename_i hf
    exact Nat.le_trans (right_few (right_of_writes ws (writesF_zero hf).2)) (by decide)
  · exact Nat.zero_le _
theorem lawTOf (v : Value) (ws : List DWrite) (w : World) (h : (Lay.sl Lay.tWrite).Reads w [v] ws) :
    Calls Try.prog 4 #[v] w fun e w' => e = .returned (.bool true) ∧ Below w.heap.size w w' := by
  by_cases hn : (Lay.sl Lay.tWrite).sz ws ≤ 1048576
  · exact lawx_TableOf v ws (tableOfR ws) w h hn (fun W a ha => specTOf a ws W ha) (fun W a ha => implTOf a ws W ha) (tableOfR_few ws)
  · exact lawover_TableOf v ws w h (by omega)

end Go.Proofs.Yteekfapjfpkidab
