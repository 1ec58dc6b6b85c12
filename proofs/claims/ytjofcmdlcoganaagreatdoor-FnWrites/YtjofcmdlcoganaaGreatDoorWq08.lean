/-
  The law FnWrites answers true at every slice of bytes, and writes nothing that was there.
  Condition: the library's own table and variables are as the text lays them (premises).
-/
import Derived.Test.YtjofcmdlcoganaaGreatDoorWq07

namespace Go.Proofs.YtjofcmdlcoganaaGreatDoor
open Go.RowKit

/-- FnWrites. -/
theorem lawFnWrites (a : Option Addr) (len cap : Nat) (zs : List Int) (w : World) (ht : Tab w) (hs : Shp w) (h : (a = none ∧ len = 0 ∧ cap = 0 ∧ zs = []) ∨
    ∃ x, a = some x ∧ len ≤ cap ∧ cap ≤ maxLen ∧ zs.length = cap ∧ (∀ i, i < zs.length → w.cell? (x.add i) = some (.int .u8 (zs.getD i 0))) ∧ ∀ n ∈ zs, (Lit.int .u8 n).wf = true) :
    Calls Tryz.prog 3 #[.slice a len cap] w fun e w' => e = .returned (.bool true) ∧ Below w.heap.size w w' := by
  by_cases hn : len ≤ 1048576
  · exact lawWrites_few a len cap w hn (isCode_of_row h hn) ht hs
  · exact lawWrites_many a len cap w (by omega)

end Go.Proofs.YtjofcmdlcoganaaGreatDoor
