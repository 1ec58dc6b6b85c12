/-
  eqIntsResult of laws/exact.go: the same data are the same.
  No condition.
-/
import Derived.Test.YtjofcmdlcoganaaChecked
import Derived.Test.YtjofcmdlcoganaaTabGround
import Derived.Test.YtjofcmdlcoganaaLayInt
namespace Go.Proofs.Ytjofcmdlcoganaa
open Go.RowKit

set_option maxRecDepth 10000 in
set_option maxHeartbeats 1000000 in
theorem eq_IntsResult (cs cs2 : List Value) (x : DIntsResult) (w : World) (h : Lay.tIntsResult.Reads w cs x) (h2 : Lay.tIntsResult.Reads w cs2 x) :
    Calls Try.prog 31 #[.agg cs.toArray, .agg cs2.toArray] w fun e w' => e = .returned (.bool true) ∧ Below w.heap.size w w' := by
  obtain ⟨a1, d1, rfl, R1⟩ := open_IntsResult h
  obtain ⟨a1z, d1z, rfl, R1z⟩ := open_IntsResult h2
  clear h h2
  have e0 : (x.code != x.code) = false := by simp
  have HB0 : Below w.heap.size w ((w.alloc (.cells #[.int .i64 x.code, .slice a1 x.list.length d1] 37)).alloc (.cells #[.int .i64 x.code, .slice a1z x.list.length d1z] 37)) := ((Below.refl _ _).alloc (Nat.le_refl _) _).alloc (by simp) _
  have bA : Box w.heap.size #[.int .i64 x.code, .slice a1 x.list.length d1] 37 ((w.alloc (.cells #[.int .i64 x.code, .slice a1 x.list.length d1] 37)).alloc (.cells #[.int .i64 x.code, .slice a1z x.list.length d1z] 37)) w.heap.size := (newBox (Nat.le_refl _)).grow _
  have bC : Box w.heap.size #[.int .i64 x.code, .slice a1z x.list.length d1z] 37 ((w.alloc (.cells #[.int .i64 x.code, .slice a1 x.list.length d1] 37)).alloc (.cells #[.int .i64 x.code, .slice a1z x.list.length d1z] 37)) (w.heap.size + 1) := newBoxAt (by omega) (by simp)
  go_enter Try.func31, Try.ntmps31
  go_wp2_with fail
  generalize (w.alloc (.cells #[.int .i64 x.code, .slice a1 x.list.length d1] 37)).alloc (.cells #[.int .i64 x.code, .slice a1z x.list.length d1z] 37) = W0 at *
  replace R1 := R1.later HB0
  replace R1z := R1z.later HB0
  refine (eq_Int64S _ _ x.list _ R1 R1z).mono ?_
  rintro e w1 ⟨rfl, hb⟩
  replace bA := bA.keep hb
  replace bC := bC.keep hb
  replace HB0 := HB0.trans (hb.mono HB0.size)
  clear hb
  have HB := hide HB0
  have HA := hide bA
  have HC := hide bC
  clear HB0 bA bC
  go_wp2_with fail
  go_ret
  exact ⟨rfl, unhide HB⟩

end Go.Proofs.Ytjofcmdlcoganaa
