/-
  markWrite, heldWrite of laws/exact.go: the marks are laid into lists of the law's own, and found there.
  Condition: at most 1000000000 marks.
-/
import Derived.Test.YtjfplfhdfiebgaaDoorMaWrite
namespace Go.Proofs.YtjfplfhdfiebgaaDoor
open Go.RowKit

set_option maxRecDepth 10000 in
set_option maxHeartbeats 1000000 in
theorem held_Write (cs : List Value) (x : DWrite) (k : Int) (w : World) (h : Lay.tWrite.Reads w cs (Lay.tWrite.mkv k x)) (hk : 0 ≤ k) (hk2 : k + Lay.tWrite.vcnt x ≤ 1000000000) :
    Calls Tryd.prog 29 #[.agg cs.toArray, .int .i64 k] w fun e w' => e = .returned (.int .i64 (k + Lay.tWrite.vcnt x)) ∧ Below w.heap.size w w' := by
  rw [mkv_Write] at h
  rw [vcnt_Write] at hk2
  have HV := hide (vcnt_Write x)
  obtain ⟨a2, d2, rfl, R2⟩ := open_Write h
  clear h
  generalize hn2 : (⟨x.kind, x.id, (Lay.sl Lay.int).mkv (k) x.vec, x.session, x.seq⟩ : DWrite).vec.length = n2 at *
  clear hn2
  have HB0 : Below w.heap.size w (w.alloc (.cells #[.int .i64 x.kind, .int .i64 x.id, .slice a2 n2 d2, .int .i64 x.session, .int .i64 x.seq] 29)) := (Below.refl _ _).alloc (Nat.le_refl _) _
  have bA : Box w.heap.size #[.int .i64 x.kind, .int .i64 x.id, .slice a2 n2 d2, .int .i64 x.session, .int .i64 x.seq] 29 (w.alloc (.cells #[.int .i64 x.kind, .int .i64 x.id, .slice a2 n2 d2, .int .i64 x.session, .int .i64 x.seq] 29)) w.heap.size := newBox (Nat.le_refl _)
  go_enter Tryd.func29, Tryd.ntmps29
  go_wp2_with fail
  generalize w.alloc (.cells #[.int .i64 x.kind, .int .i64 x.id, .slice a2 n2 d2, .int .i64 x.session, .int .i64 x.seq] 29) = W0 at *
  replace R2 := R2.later HB0
  refine (held_Int64S _ x.vec (k) _ R2 (by omega) (by omega)).mono ?_
  rintro e w1 ⟨rfl, hb⟩
  replace HB0 := HB0.trans (hb.mono HB0.size)
  replace bA := bA.keep hb
  have HA := hide bA
  have HX := hide HB0
  clear bA HB0 hb R2
  have hq : decide (k + ((Lay.sl Lay.int).vcnt x.vec : Int) < 0) = false := by simp; omega
  go_wp2_with fail
  clear hq
  go_ret
  refine ⟨?_, unhide HX⟩
  rw [show k + (Lay.tWrite.vcnt x : Int) = k + ((Lay.sl Lay.int).vcnt x.vec : Int) by rw [unhide HV]]
  rfl

end Go.Proofs.YtjfplfhdfiebgaaDoor
