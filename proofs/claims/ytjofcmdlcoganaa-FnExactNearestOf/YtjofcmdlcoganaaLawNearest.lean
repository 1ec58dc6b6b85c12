/-
  The law FnExactNearestOf answers true at every list of centers and every vector, and writes nothing that was there.
  No condition.
-/
import Derived.Test.YtjofcmdlcoganaaLawXNearestOf
import Derived.Test.YtjofcmdlcoganaaImplNearest
import Derived.Test.YtjofcmdlcoganaaSpecNearest
namespace Go.Proofs.Ytjofcmdlcoganaa
open Go.RowKit

theorem lawNearest (v : Value) (cs : List DCenter) (vq : Value) (q : List Int) (w : World) (h : (Lay.sl Lay.tCenter).Reads w [v] cs) (hq : (Lay.sl Lay.int).Reads w [vq] q) :
    Calls Try.prog 5 #[v, vq] w fun e w' => e = .returned (.bool true) ∧ Below w.heap.size w w' := by
  by_cases hm : q.length ≤ 1048576
  · have hm2 : (Lay.sl Lay.int).sz q ≤ 1048576 := by rw [sz_ints]; exact hm
    by_cases hn : (Lay.sl Lay.tCenter).sz cs ≤ 1048576
    · exact lawx_NearestOf v cs vq q (nearestR cs q) w h hq hm2 hn (fun W a b ha hb => (specNearest a cs b q W ha hb).mono fun e w' ⟨c, h1, h2, h3⟩ => ⟨c, h1, h2.reads, h3⟩) (fun W a b ha hb => implNearest a cs b q W ha hb)
    · exact lawover_NearestOf v cs vq q w h hq hm2 (by omega)
  · obtain ⟨ao, cap, rfl⟩ := open_sl h
    obtain ⟨ao2, cap2, rfl⟩ := open_sl hq
    exact lawmany_NearestOf_1 ao _ cap ao2 _ cap2 w (by omega)

end Go.Proofs.Ytjofcmdlcoganaa
