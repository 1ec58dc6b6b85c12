/-
  The law FnExactGetItem answers true at every list of items and every Id, and writes nothing that was there.
  No condition.
-/
import Derived.Test.YteekfapjfpkidaaLawXGetItem
import Derived.Test.YteekfapjfpkidaaImplGet
import Derived.Test.YteekfapjfpkidaaSpecGet
namespace Go.Proofs.Yteekfapjfpkidaa
open Go.RowKit

theorem getI_few (xs : List DItem) (id : Int) : Lay.tIntsResult.vcnt (getI xs id) ≤ 100000000 := by
  rw [vcnt_IntsResult, vcnt_ints]
  unfold getI
  split
  · rename_i hf
    split
    · cases hfd : xs.find? (fun x => x.id == id) with
      | none => simp [pickI]
      | some x =>
        have := (vecFault_zero ((tableFault_zero hf).2.1 x (find_at hfd).1).2).1
        simp only [pickI]
        omega
    · simp
  · simp
theorem lawGet (v : Value) (xs : List DItem) (id : Int) (w : World) (h : (Lay.sl Lay.tItem).Reads w [v] xs) (hw : (Lit.int .i64 id).wf = true) :
    Calls Try.prog 6 #[v, .int .i64 id] w fun e w' => e = .returned (.bool true) ∧ Below w.heap.size w w' := by
  by_cases hn : (Lay.sl Lay.tItem).sz xs ≤ 1048576
  · exact lawx_GetItem v xs id (getI xs id) w h hn (fun W a ha => specGet a xs id W ha) (fun W a ha => implGet a xs id W ha hw) (getI_few xs id)
  · exact lawover_GetItem v xs id w h (by omega)

end Go.Proofs.Yteekfapjfpkidaa
