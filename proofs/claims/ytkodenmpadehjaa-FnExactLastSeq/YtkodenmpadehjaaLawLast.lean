/-
  The laws FnExactLastSeq and FnExactSeenAt answer true at all that comes in, and write nothing that was there.
  No condition.
-/
import Derived.Test.YtkodenmpadehjaaLawXLastSeq
import Derived.Test.YtkodenmpadehjaaImplLast
import Derived.Test.YtkodenmpadehjaaSpecSeq
namespace Go.Proofs.Ytkodenmpadehjaa
open Go.RowKit

theorem lawLast (v : Value) (ws : List DWrite) (s : Int) (w : World) (h : (Lay.sl Lay.tWrite).Reads w [v] ws) :
    Calls Try.prog 3 #[v, .int .i64 s] w fun e w' => e = .returned (.bool true) ∧ Below w.heap.size w w' := by
  by_cases hn : (Lay.sl Lay.tWrite).sz ws ≤ 1048576
  · exact lawx_LastSeq v ws s (lastR ws s) w h hn (fun W a ha => (specLast a ws s W ha).mono fun _ _ ⟨cs, he, hO, hb⟩ => ⟨cs, he, hO.reads, hb⟩) (fun W a ha => implLast a ws s W ha)
  · exact lawover_LastSeq v ws s w h (by omega)

end Go.Proofs.Ytkodenmpadehjaa
