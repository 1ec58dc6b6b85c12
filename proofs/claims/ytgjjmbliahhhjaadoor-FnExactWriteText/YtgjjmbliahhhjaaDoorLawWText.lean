/-
  The law FnExactWriteText answers true at every write, and writes nothing that was there.
  Condition: the table of powers of ten holds what the program's text lays there.
-/
import Derived.Test.YtgjjmbliahhhjaaDoorLawXWriteText
import Derived.Test.YtgjjmbliahhhjaaDoorImplWText
namespace Go.Proofs.YtgjjmbliahhhjaaDoor
open Go.RowKit

theorem lawWText (u : List Value) (x : DWrite) (w : World) (h : Lay.tWrite.Reads w u x) (ht : Tab w) :
    Calls Tryd.prog 3 #[.agg u.toArray] w fun e w' => e = .returned (.bool true) ∧ Below w.heap.size w w' := by
  by_cases hn : Lay.tWrite.sz x ≤ 1048576
  · refine lawx_WriteText u x (wtextR x) w h hn ht (fun W a _ ha => (specWText a x W ha).mono fun e w' ⟨cs, he, ho, hb⟩ => ⟨cs, he, ho.reads, hb⟩) (fun W a hT ha => implWText a x W ha hT)
  · exact lawover_WriteText u x w h (by omega)

end Go.Proofs.YtgjjmbliahhhjaaDoor
