/-
  eqCenter of laws/exact.go: the same data are the same.
  No condition.
-/
import Derived.Test.YtjofcmdlcoganaaChecked
import Derived.Test.YtjofcmdlcoganaaLayCenter
import Derived.Test.YtjofcmdlcoganaaLayInt
namespace Go.Proofs.Ytjofcmdlcoganaa
open Go.RowKit

set_option maxRecDepth 10000 in
set_option maxHeartbeats 1000000 in
theorem eq_Center (cs cs2 : List Value) (x : DCenter) (w : World) (h : Lay.tCenter.Reads w cs x) (h2 : Lay.tCenter.Reads w cs2 x) :
    Calls Try.prog 63 #[.agg cs.toArray, .agg cs2.toArray] w fun e w' => e = .returned (.bool true) ∧ Below w.heap.size w w' := by
  obtain ⟨a0, d0, rfl, R0⟩ := open_Center h
  obtain ⟨a0z, d0z, rfl, R0z⟩ := open_Center h2
  clear h h2
  have HB0 : Below w.heap.size w ((w.alloc (.cells #[.slice a0 x.vec.length d0] 77)).alloc (.cells #[.slice a0z x.vec.length d0z] 77)) := ((Below.refl _ _).alloc (Nat.le_refl _) _).alloc (by simp) _
  have bA : Box w.heap.size #[.slice a0 x.vec.length d0] 77 ((w.alloc (.cells #[.slice a0 x.vec.length d0] 77)).alloc (.cells #[.slice a0z x.vec.length d0z] 77)) w.heap.size := (newBox (Nat.le_refl _)).grow _
  have bC : Box w.heap.size #[.slice a0z x.vec.length d0z] 77 ((w.alloc (.cells #[.slice a0 x.vec.length d0] 77)).alloc (.cells #[.slice a0z x.vec.length d0z] 77)) (w.heap.size + 1) := newBoxAt (by omega) (by simp)
  go_enter Try.func63, Try.ntmps63
  go_wp2_with fail
  generalize (w.alloc (.cells #[.slice a0 x.vec.length d0] 77)).alloc (.cells #[.slice a0z x.vec.length d0z] 77) = W0 at *
  replace R0 := R0.later HB0
  replace R0z := R0z.later HB0
  refine (eq_Int64S _ _ x.vec _ R0 R0z).mono ?_
  rintro e w1 ⟨rfl, hb⟩
  replace bA := bA.keep hb
  replace bC := bC.keep hb
  replace HB0 := HB0.trans (hb.mono HB0.size)
  clear hb
  have HB := hide HB0
  have HA := hide bA
  have HC := hide bC
  clear HB0 bA bC
  go_wp2_with fail
  go_ret
  exact ⟨rfl, unhide HB⟩

end Go.Proofs.Ytjofcmdlcoganaa
