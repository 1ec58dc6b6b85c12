/-
  The law FnExactTableFault answers true at every list of items, and writes nothing that was there.
  No condition.
-/
import Derived.Test.YteekfapjfpkidaaLawXTableFault
import Derived.Test.YteekfapjfpkidaaImplTab
import Derived.Test.YteekfapjfpkidaaSpecTabF
namespace Go.Proofs.Yteekfapjfpkidaa
open Go.RowKit

theorem lawTab (v : Value) (xs : List DItem) (w : World) (h : (Lay.sl Lay.tItem).Reads w [v] xs) :
    Calls Try.prog 3 #[v] w fun e w' => e = .returned (.bool true) ∧ Below w.heap.size w w' := by
  by_cases hn : (Lay.sl Lay.tItem).sz xs ≤ 1048576
  · exact lawx_TableFault v xs (tableFault xs) w h hn (fun W a ha => specTabF a xs W ha) (fun W a ha => implTab a xs W ha)
  · exact lawover_TableFault v xs w h (by omega)

end Go.Proofs.Yteekfapjfpkidaa
