/-
  markIntsResult, heldIntsResult of laws/exact.go: the marks are laid into lists of the law's own, and found there.
  Condition: at most 1000000000 marks.
-/
import Derived.Test.YtjofcmdlcoganaaChecked
import Derived.Test.YtjofcmdlcoganaaTabGround
import Derived.Test.YtjofcmdlcoganaaLayMark
namespace Go.Proofs.Ytjofcmdlcoganaa
open Go.RowKit

set_option maxRecDepth 10000 in
set_option maxHeartbeats 1000000 in
theorem mark_IntsResult (cs : List Value) (x : DIntsResult) (bl : List Nat) (k : Int) (w : World) (h : Lay.tIntsResult.Own w cs x bl) (hk : 0 ≤ k) (hk2 : k + Lay.tIntsResult.vcnt x ≤ 1000000000) :
    Calls Try.prog 35 #[.agg cs.toArray, .int .i64 k] w fun e w' => e = .returned (.int .i64 (k + Lay.tIntsResult.vcnt x)) ∧ Lay.tIntsResult.Own w' cs (Lay.tIntsResult.mkv k x) bl ∧ Ext (fun q => q ∈ bl) w w' := by
  have hlt := h.lt
  have hnd := h.2.1
  rw [vcnt_IntsResult] at hk2
  obtain ⟨a1, d1, g1, rfl, hbl, O1, v0⟩ := own_IntsResult h
  clear h
  have HB0 : Below w.heap.size w (w.alloc (.cells #[.int .i64 x.code, .slice a1 x.list.length d1] 37)) := (Below.refl _ _).alloc (Nat.le_refl _) _
  have bA : Box w.heap.size #[.int .i64 x.code, .slice a1 x.list.length d1] 37 (w.alloc (.cells #[.int .i64 x.code, .slice a1 x.list.length d1] 37)) w.heap.size := newBox (Nat.le_refl _)
  have HN := hide hnd
  have HV := hide (vcnt_IntsResult x)
  have HM := hide (mkv_IntsResult k x)
  clear hnd
  go_enter Try.func35, Try.ntmps35
  go_wp2_with fail
  generalize w.alloc (.cells #[.int .i64 x.code, .slice a1 x.list.length d1] 37) = W0 at *
  replace O1 := O1.later HB0
  have hsz := HB0.size
  have EX : Ext (fun q => q ∈ bl) w W0 := ext_of_below HB0 _
  have hs0 := bA.lt
  refine (mark_Int64S _ x.list g1 (k) _ O1 (by omega) (by omega)).mono ?_
  rintro e w1 ⟨rfl, Q1, E1⟩
  replace EX := EX.trans (E1.mono fun b _ hb => by rw [hbl]; simp [hb])
  replace bA := bA.ext E1 (fun hm => by have := hlt w.heap.size (by rw [hbl]; simp [hm]); omega)
  clear E1
  have HA := hide bA
  have HX := hide EX
  have HL := hide hlt
  have HBL := hide hbl
  clear bA EX hlt hbl
  have P1 := hide Q1
  clear Q1
  clear O1
  go_wp2_with fail
  go_ret
  refine ⟨?_, ?_, unhide HX⟩
  · rw [show k + (Lay.tIntsResult.vcnt x : Int) = k + ((Lay.sl Lay.int).vcnt x.list : Int) by rw [unhide HV]]
    rfl
  · have e := unhide HBL
    subst e
    rw [unhide HM]
    exact mkOwn_IntsResult (x := ⟨x.code, (Lay.sl Lay.int).mkv (k) x.list⟩) (unhide P1) v0 (unhide HN)

end Go.Proofs.Ytjofcmdlcoganaa
