/-
  eqHit of laws/exact.go: the same data are the same.
  No condition.
-/
import Derived.Test.YteekfapjfpkidaaChecked
import Derived.Test.YteekfapjfpkidaaHitGround
namespace Go.Proofs.Yteekfapjfpkidaa
open Go.RowKit

set_option maxRecDepth 10000 in
set_option maxHeartbeats 1000000 in
theorem eq_Hit (cs cs2 : List Value) (x : DHit) (w : World) (h : Lay.tHit.Reads w cs x) (h2 : Lay.tHit.Reads w cs2 x) :
    Calls Try.prog 80 #[.agg cs.toArray, .agg cs2.toArray] w fun e w' => e = .returned (.bool true) ∧ Below w.heap.size w w' := by
  obtain ⟨bl, h⟩ := h
  obtain ⟨rfl, -⟩ := lies_Hit.1 h
  obtain ⟨bl2, h2⟩ := h2
  obtain ⟨rfl, -⟩ := lies_Hit.1 h2
  clear h h2
  have e0 : (x.id != x.id) = false := by simp
  have e1 : (x.score != x.score) = false := by simp
  have HB0 : Below w.heap.size w ((w.alloc (.cells #[.int .i64 x.id, .int .i64 x.score] 88)).alloc (.cells #[.int .i64 x.id, .int .i64 x.score] 88)) := ((Below.refl _ _).alloc (Nat.le_refl _) _).alloc (by simp) _
  go_enter Try.func80, Try.ntmps80
  go_wp2_with fail
  go_ret
  exact ⟨rfl, HB0⟩

end Go.Proofs.Yteekfapjfpkidaa
