/-
  The law FnExactSameWrites answers true at every two lists of writes, and writes nothing that was there.
  No condition.
-/
import Derived.Test.YtgjjmbliahhhjaaLawXSameWrites
import Derived.Test.YtgjjmbliahhhjaaImplSame
import Derived.Test.YtgjjmbliahhhjaaSpecSame
namespace Go.Proofs.Ytgjjmbliahhhjaa
open Go.RowKit

theorem lawSame (v v2 : Value) (xs ys : List DWrite) (w : World) (h : (Lay.sl Lay.tWrite).Reads w [v] xs) (h2 : (Lay.sl Lay.tWrite).Reads w [v2] ys) :
    Calls Try.prog 6 #[v, v2] w fun e w' => e = .returned (.bool true) ∧ Below w.heap.size w w' := by
  by_cases hn : (Lay.sl Lay.tWrite).sz xs + (Lay.sl Lay.tWrite).sz ys ≤ 1048576
  · exact lawx_SameWrites v xs v2 ys (sameWs xs ys) w h h2 hn (fun W a b ha hb => specSame a b xs ys W ha hb) (fun W a b ha hb => implSame a b xs ys W ha hb)
  · exact lawover_SameWrites v xs v2 ys w h h2 (by omega)

end Go.Proofs.Ytgjjmbliahhhjaa
