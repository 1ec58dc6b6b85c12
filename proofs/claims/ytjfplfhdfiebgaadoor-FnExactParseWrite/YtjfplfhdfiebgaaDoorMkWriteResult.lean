/-
  markWriteResult, heldWriteResult of laws/exact.go: the marks are laid into lists of the law's own, and found there.
  Condition: at most 1000000000 marks.
-/
import Derived.Test.YtjfplfhdfiebgaaDoorMaWriteResult
import Derived.Test.YtjfplfhdfiebgaaDoorMkWrite
namespace Go.Proofs.YtjfplfhdfiebgaaDoor
open Go.RowKit

set_option maxRecDepth 10000 in
set_option maxHeartbeats 1000000 in
theorem held_WriteResult (cs : List Value) (x : DWriteResult) (k : Int) (w : World) (h : Lay.tWriteResult.Reads w cs (Lay.tWriteResult.mkv k x)) (hk : 0 ≤ k) (hk2 : k + Lay.tWriteResult.vcnt x ≤ 1000000000) :
    Calls Tryd.prog 15 #[.agg cs.toArray, .int .i64 k] w fun e w' => e = .returned (.int .i64 (k + Lay.tWriteResult.vcnt x)) ∧ Below w.heap.size w w' := by
  rw [mkv_WriteResult] at h
  rw [vcnt_WriteResult] at hk2
  have HV := hide (vcnt_WriteResult x)
  obtain ⟨a3, d3, rfl, R1⟩ := open_WriteResult h
  clear h
  generalize hn3 : (⟨x.code, Lay.tWrite.mkv (k) x.write⟩ : DWriteResult).write.vec.length = n3 at *
  clear hn3
  generalize hn1 : (⟨x.code, Lay.tWrite.mkv (k) x.write⟩ : DWriteResult).write.kind = n1 at *
  generalize hn2 : (⟨x.code, Lay.tWrite.mkv (k) x.write⟩ : DWriteResult).write.id = n2 at *
  generalize hn4 : (⟨x.code, Lay.tWrite.mkv (k) x.write⟩ : DWriteResult).write.session = n4 at *
  generalize hn5 : (⟨x.code, Lay.tWrite.mkv (k) x.write⟩ : DWriteResult).write.seq = n5 at *
  clear hn1 hn2 hn4 hn5
  have HB0 : Below w.heap.size w (w.alloc (.cells #[.int .i64 x.code, .int .i64 n1, .int .i64 n2, .slice a3 n3 d3, .int .i64 n4, .int .i64 n5] 35)) := (Below.refl _ _).alloc (Nat.le_refl _) _
  have bA : Box w.heap.size #[.int .i64 x.code, .int .i64 n1, .int .i64 n2, .slice a3 n3 d3, .int .i64 n4, .int .i64 n5] 35 (w.alloc (.cells #[.int .i64 x.code, .int .i64 n1, .int .i64 n2, .slice a3 n3 d3, .int .i64 n4, .int .i64 n5] 35)) w.heap.size := newBox (Nat.le_refl _)
  go_enter Tryd.func15, Tryd.ntmps15
  go_wp2_with fail
  generalize w.alloc (.cells #[.int .i64 x.code, .int .i64 n1, .int .i64 n2, .slice a3 n3 d3, .int .i64 n4, .int .i64 n5] 35) = W0 at *
  replace R1 := R1.later HB0
  refine (held_Write _ x.write (k) _ R1 (by omega) (by omega)).mono ?_
  rintro e w1 ⟨rfl, hb⟩
  replace HB0 := HB0.trans (hb.mono HB0.size)
  replace bA := bA.keep hb
  have HA := hide bA
  have HX := hide HB0
  clear bA HB0 hb R1
  have hq : decide (k + (Lay.tWrite.vcnt x.write : Int) < 0) = false := by simp; omega
  go_wp2_with fail
  clear hq
  go_ret
  refine ⟨?_, unhide HX⟩
  rw [show k + (Lay.tWriteResult.vcnt x : Int) = k + (Lay.tWrite.vcnt x.write : Int) by rw [unhide HV]]
  rfl

end Go.Proofs.YtjfplfhdfiebgaaDoor
