/-
  The law FnExactCentersFault answers true at every list of centers, and writes nothing that was there.
  No condition.
-/
import Derived.Test.YtjofcmdlcoganaaLawXCentersFault
import Derived.Test.YtjofcmdlcoganaaImplCen
import Derived.Test.YtjofcmdlcoganaaSpecCenF
namespace Go.Proofs.Ytjofcmdlcoganaa
open Go.RowKit

theorem lawCen (v : Value) (xs : List DCenter) (w : World) (h : (Lay.sl Lay.tCenter).Reads w [v] xs) :
    Calls Try.prog 4 #[v] w fun e w' => e = .returned (.bool true) ∧ Below w.heap.size w w' := by
  by_cases hn : (Lay.sl Lay.tCenter).sz xs ≤ 1048576
  · exact lawx_CentersFault v xs (centersFault xs) w h hn (fun W a ha => specCenF a xs W ha) (fun W a ha => implCen a xs W ha)
  · exact lawover_CentersFault v xs w h (by omega)

end Go.Proofs.Ytjofcmdlcoganaa
