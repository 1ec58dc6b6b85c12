/-
  szCenter of laws/exact.go: what is left of a bound.
  Condition: the bound is at most 1048576.
-/
import Derived.Test.YtjofcmdlcoganaaChecked
import Derived.Test.YtjofcmdlcoganaaGround
import Derived.Test.YtjofcmdlcoganaaLayCenter
import Derived.Test.YtjofcmdlcoganaaSzInt64S
namespace Go.Proofs.Ytjofcmdlcoganaa
open Go.RowKit

theorem szsum_Center (x : DCenter) : Lay.tCenter.sz x = (Lay.sl Lay.int).sz x.vec := by
  show (Lay.sl Lay.int).sz x.vec = (Lay.sl Lay.int).sz x.vec
  omega
set_option maxRecDepth 10000 in
set_option maxHeartbeats 1000000 in
theorem sz_Center (cs : List Value) (x : DCenter) (l : Nat) (w : World) (h : Lay.tCenter.Reads w cs x) (hl : l ≤ 1048576) :
    Calls Try.prog 60 #[.agg cs.toArray, .int .i64 l] w fun e w' => e = .returned (.int .i64 (szR l (Lay.tCenter.sz x))) ∧ Below w.heap.size w w' := by
  obtain ⟨a0, d0, rfl, R0⟩ := open_Center h
  clear h
  have HB0 : Below w.heap.size w (w.alloc (.cells #[.slice a0 x.vec.length d0] 83)) := (Below.refl _ _).alloc (Nat.le_refl _) _
  have bA : Box w.heap.size #[.slice a0 x.vec.length d0] 83 (w.alloc (.cells #[.slice a0 x.vec.length d0] 83)) w.heap.size := newBox (Nat.le_refl _)
  have HV := hide (szsum_Center x)
  go_enter Try.func60, Try.ntmps60
  go_wp2_with fail
  generalize w.alloc (.cells #[.slice a0 x.vec.length d0] 83) = W0 at *
  replace R0 := R0.later HB0
  refine (sz_Int64S _ x.vec (l) _ R0 (by omega)).mono ?_
  rintro e w1 ⟨rfl, hb⟩
  replace HB0 := HB0.trans (hb.mono HB0.size)
  replace bA := bA.keep hb
  clear hb R0
  by_cases hs0 : (Lay.sl Lay.int).sz x.vec ≤ l
  · rw [szR_ok hs0]
    have hq : decide (((l - (Lay.sl Lay.int).sz x.vec : Nat) : Int) < 0) = false := by simp
    have HX := hide HB0
    have HA := hide bA
    clear HB0 bA
    go_wp2_with fail
    clear hq
    go_ret
    refine ⟨?_, unhide HX⟩
    rw [unhide HV, szR_ok (by omega), show l - ((Lay.sl Lay.int).sz x.vec) = l - (Lay.sl Lay.int).sz x.vec by omega]
    rfl
  · rw [szR_many (by omega)]
    have HX := hide HB0
    clear HB0 bA
    go_wp2_with fail
    go_ret
    refine ⟨?_, unhide HX⟩
    rw [unhide HV, szR_many (by omega)]
    rfl

end Go.Proofs.Ytjofcmdlcoganaa
