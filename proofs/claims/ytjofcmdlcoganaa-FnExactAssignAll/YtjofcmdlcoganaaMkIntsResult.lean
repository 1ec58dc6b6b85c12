/-
  markIntsResult, heldIntsResult of laws/exact.go: the marks are laid into lists of the law's own, and found there.
  Condition: at most 1000000000 marks.
-/
import Derived.Test.YtjofcmdlcoganaaMaIntsResult
namespace Go.Proofs.Ytjofcmdlcoganaa
open Go.RowKit

set_option maxRecDepth 10000 in
set_option maxHeartbeats 1000000 in
theorem held_IntsResult (cs : List Value) (x : DIntsResult) (k : Int) (w : World) (h : Lay.tIntsResult.Reads w cs (Lay.tIntsResult.mkv k x)) (hk : 0 ≤ k) (hk2 : k + Lay.tIntsResult.vcnt x ≤ 1000000000) :
    Calls Try.prog 36 #[.agg cs.toArray, .int .i64 k] w fun e w' => e = .returned (.int .i64 (k + Lay.tIntsResult.vcnt x)) ∧ Below w.heap.size w w' := by
  rw [mkv_IntsResult] at h
  rw [vcnt_IntsResult] at hk2
  have HV := hide (vcnt_IntsResult x)
  obtain ⟨a1, d1, rfl, R1⟩ := open_IntsResult h
  clear h
  generalize hn1 : (⟨x.code, (Lay.sl Lay.int).mkv (k) x.list⟩ : DIntsResult).list.length = n1 at *
  clear hn1
  have HB0 : Below w.heap.size w (w.alloc (.cells #[.int .i64 x.code, .slice a1 n1 d1] 37)) := (Below.refl _ _).alloc (Nat.le_refl _) _
  have bA : Box w.heap.size #[.int .i64 x.code, .slice a1 n1 d1] 37 (w.alloc (.cells #[.int .i64 x.code, .slice a1 n1 d1] 37)) w.heap.size := newBox (Nat.le_refl _)
  go_enter Try.func36, Try.ntmps36
  go_wp2_with fail
  generalize w.alloc (.cells #[.int .i64 x.code, .slice a1 n1 d1] 37) = W0 at *
  replace R1 := R1.later HB0
  refine (held_Int64S _ x.list (k) _ R1 (by omega) (by omega)).mono ?_
  rintro e w1 ⟨rfl, hb⟩
  replace HB0 := HB0.trans (hb.mono HB0.size)
  replace bA := bA.keep hb
  have HA := hide bA
  have HX := hide HB0
  clear bA HB0 hb R1
  have hq : decide (k + ((Lay.sl Lay.int).vcnt x.list : Int) < 0) = false := by simp; omega
  go_wp2_with fail
  clear hq
  go_ret
  refine ⟨?_, unhide HX⟩
  rw [show k + (Lay.tIntsResult.vcnt x : Int) = k + ((Lay.sl Lay.int).vcnt x.list : Int) by rw [unhide HV]]
  rfl

end Go.Proofs.Ytjofcmdlcoganaa
