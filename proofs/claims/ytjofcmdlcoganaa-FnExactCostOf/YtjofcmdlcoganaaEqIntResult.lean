/-
  eqIntResult of laws/exact.go: the same data are the same.
  No condition.
-/
import Derived.Test.YtjofcmdlcoganaaChecked
import Derived.Test.YtjofcmdlcoganaaLayIntResult
namespace Go.Proofs.Ytjofcmdlcoganaa
open Go.RowKit

set_option maxRecDepth 10000 in
set_option maxHeartbeats 1000000 in
theorem eq_IntResult (cs cs2 : List Value) (x : DIntResult) (w : World) (h : Lay.tIntResult.Reads w cs x) (h2 : Lay.tIntResult.Reads w cs2 x) :
    Calls Try.prog 26 #[.agg cs.toArray, .agg cs2.toArray] w fun e w' => e = .returned (.bool true) ∧ Below w.heap.size w w' := by
  obtain ⟨bl, h⟩ := h
  obtain ⟨rfl, -⟩ := lies_IntResult.1 h
  obtain ⟨bl2, h2⟩ := h2
  obtain ⟨rfl, -⟩ := lies_IntResult.1 h2
  clear h h2
  have e0 : (x.code != x.code) = false := by simp
  have e1 : (x.value != x.value) = false := by simp
  have HB0 : Below w.heap.size w ((w.alloc (.cells #[.int .i64 x.code, .int .i64 x.value] 33)).alloc (.cells #[.int .i64 x.code, .int .i64 x.value] 33)) := ((Below.refl _ _).alloc (Nat.le_refl _) _).alloc (by simp) _
  go_enter Try.func26, Try.ntmps26
  go_wp2_with fail
  go_ret
  exact ⟨rfl, HB0⟩

end Go.Proofs.Ytjofcmdlcoganaa
