/-
  The model's TableFault tells what is wrong with a table; nothing old is written.
  No condition.
-/
import Derived.Test.YteekfapjfpkidaaSpecTab
namespace Go.Proofs.Yteekfapjfpkidaa
open Go.RowKit

theorem specTabF (v : Value) (xs : List DItem) (w : World) (h : (Lay.sl Lay.tItem).Reads w [v] xs) :
    Calls Try.prog 10 #[v] w fun e w' => e = .returned (.int .i64 (tableFault xs)) ∧ Below w.heap.size w w' := by
  have L := hide (specTab v xs w h)
  obtain ⟨ao, cap, rfl⟩ := open_sl h
  clear h
  go_enter Try.func10, Try.ntmps10
  go_wp2_with fail
  refine (unhide L).mono ?_
  rintro e w1 ⟨rfl, hb⟩
  have HB := hide hb
  clear hb L
  go_wp2_with fail
  go_ret
  exact ⟨rfl, unhide HB⟩

end Go.Proofs.Yteekfapjfpkidaa
