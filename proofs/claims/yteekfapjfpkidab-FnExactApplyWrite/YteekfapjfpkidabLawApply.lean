/-
  The law FnExactApplyWrite answers true at every list of items and every write, and writes nothing that was there.
  No condition.
-/
import Derived.Test.YteekfapjfpkidabLawXApplyWrite
import Derived.Test.YteekfapjfpkidabImplApply
import Derived.Test.YteekfapjfpkidabSpecApply2
namespace Go.Proofs.Yteekfapjfpkidab
open Go.RowKit

theorem applyR_few (xs : List DItem) (x : DWrite) : Lay.tTableResult.vcnt (applyR xs x) ≤ 100000000 := by
  rw [vcnt_TableResult]
  show cntAll Lay.tItem.cnt (applyR xs x).items ≤ 100000000
  unfold applyR
  split
  · rename_i hf
    split
    · rename_i hx
      exact Nat.le_trans (right_few (right_apply (right_of hf) hx)) (by decide)
    · exact Nat.zero_le _
  · exact Nat.zero_le _
theorem lawApply (v : Value) (xs : List DItem) (u : List Value) (x : DWrite) (w : World) (h : (Lay.sl Lay.tItem).Reads w [v] xs) (hx : Lay.tWrite.Reads w u x) :
    Calls Try.prog 3 #[v, .agg u.toArray] w fun e w' => e = .returned (.bool true) ∧ Below w.heap.size w w' := by
  by_cases hn : (Lay.sl Lay.tItem).sz xs + Lay.tWrite.sz x ≤ 1048576
  · exact lawx_ApplyWrite v xs u x (applyR xs x) w h hx hn (fun W a b ha hb => specApply a xs b x W ha hb) (fun W a b ha hb => implApply a xs b x W ha hb) (applyR_few xs x)
  · exact lawover_ApplyWrite v xs u x w h hx (by omega)

end Go.Proofs.Yteekfapjfpkidab
