/-
  The law FnExactOnceRight answers true at all that comes in, and writes nothing that was there.
  No condition.
-/
import Derived.Test.YtkodenmpadehjaaLawXOnceRight
import Derived.Test.YtkodenmpadehjaaImplOnce
import Derived.Test.YtkodenmpadehjaaSpecOnce
namespace Go.Proofs.Ytkodenmpadehjaa
open Go.RowKit

theorem lawOnceRight (v : Value) (ws : List DWrite) (w : World) (h : (Lay.sl Lay.tWrite).Reads w [v] ws) :
    Calls Try.prog 5 #[v] w fun e w' => e = .returned (.bool true) ∧ Below w.heap.size w w' := by
  by_cases hn : (Lay.sl Lay.tWrite).sz ws ≤ 1048576
  · exact lawx_OnceRight v ws (onceR ws) w h hn (fun W a ha => specOnce a ws W ha) (fun W a ha => implOnce a ws W ha)
  · exact lawover_OnceRight v ws w h (by omega)

end Go.Proofs.Ytkodenmpadehjaa
