/-
  markWriteResult, heldWriteResult of laws/exact.go: the marks are laid into lists of the law's own, and found there.
  Condition: at most 1000000000 marks.
-/
import Derived.Test.YtjfplfhdfiebgaaDoorChecked
import Derived.Test.YtjfplfhdfiebgaaDoorOwnWriteResult
import Derived.Test.YtjfplfhdfiebgaaDoorMaWrite
namespace Go.Proofs.YtjfplfhdfiebgaaDoor
open Go.RowKit

set_option maxRecDepth 10000 in
set_option maxHeartbeats 1000000 in
theorem mark_WriteResult (cs : List Value) (x : DWriteResult) (bl : List Nat) (k : Int) (w : World) (h : Lay.tWriteResult.Own w cs x bl) (hk : 0 ≤ k) (hk2 : k + Lay.tWriteResult.vcnt x ≤ 1000000000) :
    Calls Tryd.prog 14 #[.agg cs.toArray, .int .i64 k] w fun e w' => e = .returned (.int .i64 (k + Lay.tWriteResult.vcnt x)) ∧ Lay.tWriteResult.Own w' cs (Lay.tWriteResult.mkv k x) bl ∧ Ext (fun q => q ∈ bl) w w' := by
  have hlt := h.lt
  have hnd := h.2.1
  rw [vcnt_WriteResult] at hk2
  obtain ⟨a3, d3, g1, rfl, hbl, O1, v0⟩ := own_WriteResult h
  clear h
  have HB0 : Below w.heap.size w (w.alloc (.cells #[.int .i64 x.code, .int .i64 x.write.kind, .int .i64 x.write.id, .slice a3 x.write.vec.length d3, .int .i64 x.write.session, .int .i64 x.write.seq] 35)) := (Below.refl _ _).alloc (Nat.le_refl _) _
  have bA : Box w.heap.size #[.int .i64 x.code, .int .i64 x.write.kind, .int .i64 x.write.id, .slice a3 x.write.vec.length d3, .int .i64 x.write.session, .int .i64 x.write.seq] 35 (w.alloc (.cells #[.int .i64 x.code, .int .i64 x.write.kind, .int .i64 x.write.id, .slice a3 x.write.vec.length d3, .int .i64 x.write.session, .int .i64 x.write.seq] 35)) w.heap.size := newBox (Nat.le_refl _)
  have HN := hide hnd
  have HV := hide (vcnt_WriteResult x)
  have HM := hide (mkv_WriteResult k x)
  clear hnd
  go_enter Tryd.func14, Tryd.ntmps14
  go_wp2_with fail
  generalize w.alloc (.cells #[.int .i64 x.code, .int .i64 x.write.kind, .int .i64 x.write.id, .slice a3 x.write.vec.length d3, .int .i64 x.write.session, .int .i64 x.write.seq] 35) = W0 at *
  replace O1 := O1.later HB0
  have hsz := HB0.size
  have EX : Ext (fun q => q ∈ bl) w W0 := ext_of_below HB0 _
  have hs0 := bA.lt
  refine (mark_Write _ x.write g1 (k) _ O1 (by omega) (by omega)).mono ?_
  rintro e w1 ⟨rfl, Q1, E1⟩
  replace EX := EX.trans (E1.mono fun b _ hb => by rw [hbl]; simp [hb])
  replace bA := bA.ext E1 (fun hm => by have := hlt w.heap.size (by rw [hbl]; simp [hm]); omega)
  clear E1
  have HA := hide bA
  have HX := hide EX
  have HL := hide hlt
  have HBL := hide hbl
  clear bA EX hlt hbl
  have P1 := hide Q1
  clear Q1
  clear O1
  go_wp2_with fail
  go_ret
  refine ⟨?_, ?_, unhide HX⟩
  · rw [show k + (Lay.tWriteResult.vcnt x : Int) = k + (Lay.tWrite.vcnt x.write : Int) by rw [unhide HV]]
    rfl
  · have e := unhide HBL
    subst e
    rw [unhide HM]
    exact mkOwn_WriteResult (x := ⟨x.code, Lay.tWrite.mkv (k) x.write⟩) (unhide P1) v0 (unhide HN)

end Go.Proofs.YtjfplfhdfiebgaaDoor
