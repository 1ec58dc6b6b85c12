/-
  The law FnExactSeenAt answers true at all that comes in, and writes nothing that was there.
  No condition.
-/
import Derived.Test.YtkodenmpadehjaaLawXSeenAt
import Derived.Test.YtkodenmpadehjaaImplSeenAt
import Derived.Test.YtkodenmpadehjaaSpecSeq
namespace Go.Proofs.Ytkodenmpadehjaa
open Go.RowKit

theorem lawSeenAt (v : Value) (ws : List DWrite) (s q : Int) (w : World) (h : (Lay.sl Lay.tWrite).Reads w [v] ws) :
    Calls Try.prog 4 #[v, .int .i64 s, .int .i64 q] w fun e w' => e = .returned (.bool true) ∧ Below w.heap.size w w' := by
  by_cases hn : (Lay.sl Lay.tWrite).sz ws ≤ 1048576
  · exact lawx_SeenAt v ws s q (seenR ws s q) w h hn (fun W a ha => (specSeenAt a ws s q W ha).mono fun _ _ ⟨cs, he, hO, hb⟩ => ⟨cs, he, hO.reads, hb⟩) (fun W a ha => implSeenAt a ws s q W ha)
  · exact lawover_SeenAt v ws s q w h (by omega)

end Go.Proofs.Ytkodenmpadehjaa
