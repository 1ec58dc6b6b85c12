/-
  The law FnExactSameTables answers true at every two lists of items, and writes nothing that was there.
  No condition.
-/
import Derived.Test.YteekfapjfpkidaaLawXSameTables
import Derived.Test.YteekfapjfpkidaaImplSameT
import Derived.Test.YteekfapjfpkidaaSpecSameT
namespace Go.Proofs.Yteekfapjfpkidaa
open Go.RowKit

theorem lawSameT (v v2 : Value) (xs ys : List DItem) (w : World) (h : (Lay.sl Lay.tItem).Reads w [v] xs) (h2 : (Lay.sl Lay.tItem).Reads w [v2] ys) :
    Calls Try.prog 4 #[v, v2] w fun e w' => e = .returned (.bool true) ∧ Below w.heap.size w w' := by
  by_cases hn : (Lay.sl Lay.tItem).sz xs + (Lay.sl Lay.tItem).sz ys ≤ 1048576
  · exact lawx_SameTables v xs v2 ys (sameIs xs ys) w h h2 hn (fun W a b ha hb => specSameT a b xs ys W ha hb) (fun W a b ha hb => implSameT a b xs ys W ha hb)
  · exact lawover_SameTables v xs v2 ys w h h2 (by omega)

end Go.Proofs.Yteekfapjfpkidaa
