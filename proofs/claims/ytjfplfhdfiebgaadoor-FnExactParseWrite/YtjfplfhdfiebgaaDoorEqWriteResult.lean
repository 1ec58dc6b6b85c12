/-
  eqWriteResult of laws/exact.go: the same data are the same.
  No condition.
-/
import Derived.Test.YtjfplfhdfiebgaaDoorChecked
import Derived.Test.YtjfplfhdfiebgaaDoorLayWriteResult
import Derived.Test.YtjfplfhdfiebgaaDoorEqWrite
namespace Go.Proofs.YtjfplfhdfiebgaaDoor
open Go.RowKit

set_option maxRecDepth 10000 in
set_option maxHeartbeats 1000000 in
theorem eq_WriteResult (cs cs2 : List Value) (x : DWriteResult) (w : World) (h : Lay.tWriteResult.Reads w cs x) (h2 : Lay.tWriteResult.Reads w cs2 x) :
    Calls Tryd.prog 13 #[.agg cs.toArray, .agg cs2.toArray] w fun e w' => e = .returned (.bool true) ∧ Below w.heap.size w w' := by
  obtain ⟨a3, d3, rfl, R1⟩ := open_WriteResult h
  obtain ⟨a3z, d3z, rfl, R1z⟩ := open_WriteResult h2
  clear h h2
  have e0 : (x.code != x.code) = false := by simp
  have e1 : (x.write.kind != x.write.kind) = false := by simp
  have e2 : (x.write.id != x.write.id) = false := by simp
  have e4 : (x.write.session != x.write.session) = false := by simp
  have e5 : (x.write.seq != x.write.seq) = false := by simp
  have HB0 : Below w.heap.size w ((w.alloc (.cells #[.int .i64 x.code, .int .i64 x.write.kind, .int .i64 x.write.id, .slice a3 x.write.vec.length d3, .int .i64 x.write.session, .int .i64 x.write.seq] 35)).alloc (.cells #[.int .i64 x.code, .int .i64 x.write.kind, .int .i64 x.write.id, .slice a3z x.write.vec.length d3z, .int .i64 x.write.session, .int .i64 x.write.seq] 35)) := ((Below.refl _ _).alloc (Nat.le_refl _) _).alloc (by simp) _
  have bA : Box w.heap.size #[.int .i64 x.code, .int .i64 x.write.kind, .int .i64 x.write.id, .slice a3 x.write.vec.length d3, .int .i64 x.write.session, .int .i64 x.write.seq] 35 ((w.alloc (.cells #[.int .i64 x.code, .int .i64 x.write.kind, .int .i64 x.write.id, .slice a3 x.write.vec.length d3, .int .i64 x.write.session, .int .i64 x.write.seq] 35)).alloc (.cells #[.int .i64 x.code, .int .i64 x.write.kind, .int .i64 x.write.id, .slice a3z x.write.vec.length d3z, .int .i64 x.write.session, .int .i64 x.write.seq] 35)) w.heap.size := (newBox (Nat.le_refl _)).grow _
  have bC : Box w.heap.size #[.int .i64 x.code, .int .i64 x.write.kind, .int .i64 x.write.id, .slice a3z x.write.vec.length d3z, .int .i64 x.write.session, .int .i64 x.write.seq] 35 ((w.alloc (.cells #[.int .i64 x.code, .int .i64 x.write.kind, .int .i64 x.write.id, .slice a3 x.write.vec.length d3, .int .i64 x.write.session, .int .i64 x.write.seq] 35)).alloc (.cells #[.int .i64 x.code, .int .i64 x.write.kind, .int .i64 x.write.id, .slice a3z x.write.vec.length d3z, .int .i64 x.write.session, .int .i64 x.write.seq] 35)) (w.heap.size + 1) := newBoxAt (by omega) (by simp)
  go_enter Tryd.func13, Tryd.ntmps13
  go_wp2_with fail
  generalize (w.alloc (.cells #[.int .i64 x.code, .int .i64 x.write.kind, .int .i64 x.write.id, .slice a3 x.write.vec.length d3, .int .i64 x.write.session, .int .i64 x.write.seq] 35)).alloc (.cells #[.int .i64 x.code, .int .i64 x.write.kind, .int .i64 x.write.id, .slice a3z x.write.vec.length d3z, .int .i64 x.write.session, .int .i64 x.write.seq] 35) = W0 at *
  replace R1 := R1.later HB0
  replace R1z := R1z.later HB0
  refine (eq_Write _ _ x.write _ R1 R1z).mono ?_
  rintro e w1 ⟨rfl, hb⟩
  replace bA := bA.keep hb
  replace bC := bC.keep hb
  replace HB0 := HB0.trans (hb.mono HB0.size)
  clear hb
  have HB := hide HB0
  have HA := hide bA
  have HC := hide bC
  clear HB0 bA bC
  go_wp2_with fail
  go_ret
  exact ⟨rfl, unhide HB⟩

end Go.Proofs.YtjfplfhdfiebgaaDoor
