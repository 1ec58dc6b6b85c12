/-
  The model's CentersFault.
  No condition.
-/
import Derived.Test.YtjofcmdlcoganaaSpecCen
namespace Go.Proofs.Ytjofcmdlcoganaa
open Go.RowKit

theorem specCenF (v : Value) (xs : List DCenter) (w : World) (h : (Lay.sl Lay.tCenter).Reads w [v] xs) :
    Calls Try.prog 21 #[v] w fun e w' => e = .returned (.int .i64 (centersFault xs)) ∧ Below w.heap.size w w' := by
  have L := hide (specCen v xs w h)
  obtain ⟨ao, cap, rfl⟩ := open_sl h
  clear h
  go_enter Try.func21, Try.ntmps21
  go_wp2_with fail
  refine (unhide L).mono ?_
  rintro e w1 ⟨rfl, hb⟩
  have HB := hide hb
  clear hb L
  go_wp2_with fail
  go_ret
  exact ⟨rfl, unhide HB⟩

end Go.Proofs.Ytjofcmdlcoganaa
