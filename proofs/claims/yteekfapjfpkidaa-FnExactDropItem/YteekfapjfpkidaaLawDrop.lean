/-
  The law FnExactDropItem answers true at every list of items and every Id, and writes nothing that was there.
  No condition.
-/
import Derived.Test.YteekfapjfpkidaaLawXDropItem
import Derived.Test.YteekfapjfpkidaaImplDrop
import Derived.Test.YteekfapjfpkidaaSpecDrop
namespace Go.Proofs.Yteekfapjfpkidaa
open Go.RowKit

theorem dropR_few (xs : List DItem) (id : Int) : Lay.tTableResult.vcnt (dropR xs id) ≤ 100000000 := by
  rw [vcnt_TableResult]
  show cntAll Lay.tItem.cnt (dropR xs id).items ≤ 100000000
  unfold dropR
  split
  · rename_i hf
    split
    · exact Nat.le_trans (right_few (right_drop (right_of hf) id)) (by decide)
    · exact Nat.zero_le _
  · exact Nat.zero_le _
theorem lawDrop (v : Value) (xs : List DItem) (id : Int) (w : World) (h : (Lay.sl Lay.tItem).Reads w [v] xs) (hw : (Lit.int .i64 id).wf = true) :
    Calls Try.prog 8 #[v, .int .i64 id] w fun e w' => e = .returned (.bool true) ∧ Below w.heap.size w w' := by
  by_cases hn : (Lay.sl Lay.tItem).sz xs ≤ 1048576
  · exact lawx_DropItem v xs id (dropR xs id) w h hn (fun W a ha => specDrop a xs id W ha) (fun W a ha => implDrop a xs id W ha hw) (dropR_few xs id)
  · exact lawover_DropItem v xs id w h (by omega)

end Go.Proofs.Yteekfapjfpkidaa
