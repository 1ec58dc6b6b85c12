/-
  The law FnExactCostOf answers true at all centers and items, and writes nothing that was there.
  No condition.
-/
import Derived.Test.YtjofcmdlcoganaaLawXCostOf
import Derived.Test.YtjofcmdlcoganaaImplCostOf
import Derived.Test.YtjofcmdlcoganaaSpecCostOf
namespace Go.Proofs.Ytjofcmdlcoganaa
open Go.RowKit

theorem lawCostOf (v : Value) (cs : List DCenter) (vx : Value) (xs : List DItem) (w : World) (h : (Lay.sl Lay.tCenter).Reads w [v] cs) (hx : (Lay.sl Lay.tItem).Reads w [vx] xs) :
    Calls Try.prog 8 #[v, vx] w fun e w' => e = .returned (.bool true) ∧ Below w.heap.size w w' := by
  by_cases hn : (Lay.sl Lay.tCenter).sz cs + (Lay.sl Lay.tItem).sz xs ≤ 1048576
  · exact lawx_CostOf v cs vx xs (costR cs xs) w h hx hn (fun W a b ha hb => (specCostOf a cs b xs W ha hb).mono fun e w' ⟨c, h1, h2, h3⟩ => ⟨c, h1, h2.reads, h3⟩) (fun W a b ha hb => implCostOf a cs b xs W ha hb)
  · exact lawover_CostOf v cs vx xs w h hx (by omega)

end Go.Proofs.Ytjofcmdlcoganaa
