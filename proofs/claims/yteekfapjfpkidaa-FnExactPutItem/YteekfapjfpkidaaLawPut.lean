/-
  The law FnExactPutItem answers true at every list of items, every Id and every list of numbers, and writes nothing that was there.
  No condition.
-/
import Derived.Test.YteekfapjfpkidaaLawXPutItem
import Derived.Test.YteekfapjfpkidaaImplPut
import Derived.Test.YteekfapjfpkidaaSpecPut
namespace Go.Proofs.Yteekfapjfpkidaa
open Go.RowKit

theorem putR_few (xs : List DItem) (id : Int) (vec : List Int) : Lay.tTableResult.vcnt (putR xs id vec) ≤ 100000000 := by
  rw [vcnt_TableResult]
  show cntAll Lay.tItem.cnt (putR xs id vec).items ≤ 100000000
  unfold putR
  split
  · rename_i hf
    split
    · rename_i hid
      split
      · rename_i hv
        split
        · rename_i hr
          exact Nat.le_trans (right_few (right_put (right_of hf) hid hv (room_true hr))) (by decide)
        · exact Nat.zero_le _
      · exact Nat.zero_le _
    · exact Nat.zero_le _
  · exact Nat.zero_le _
theorem lawPut (v : Value) (xs : List DItem) (id : Int) (vv : Value) (vec : List Int) (w : World) (h : (Lay.sl Lay.tItem).Reads w [v] xs) (hw : (Lit.int .i64 id).wf = true) (hv : (Lay.sl Lay.int).Reads w [vv] vec) :
    Calls Try.prog 7 #[v, .int .i64 id, vv] w fun e w' => e = .returned (.bool true) ∧ Below w.heap.size w w' := by
  by_cases hm : vec.length ≤ 1048576
  · have hm2 : (Lay.sl Lay.int).sz vec ≤ 1048576 := by rw [sz_ints]; exact hm
    by_cases hn : (Lay.sl Lay.tItem).sz xs ≤ 1048576
    · exact lawx_PutItem v xs id vv vec (putR xs id vec) w h hv hm2 hn (fun W a b ha hb => specPut a xs id b vec W ha hb) (fun W a b ha hb => implPut a xs id b vec W ha hw hb) (putR_few xs id vec)
    · exact lawover_PutItem v xs id vv vec w h hv hm2 (by omega)
  · obtain ⟨ao, cap, rfl⟩ := open_sl h
    obtain ⟨ao2, cap2, rfl⟩ := open_sl hv
    exact lawmany_PutItem_2 ao _ cap (.int .i64 id) ao2 _ cap2 w (by omega)

end Go.Proofs.Yteekfapjfpkidaa
