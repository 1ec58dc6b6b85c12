/-
  markTableResult, heldTableResult of laws/exact.go: the marks are laid into lists of the law's own, and found there.
  Condition: at most 1000000000 marks.
-/
import Derived.Test.YteekfapjfpkidabMaTableResult
import Derived.Test.YteekfapjfpkidabMkItemS
namespace Go.Proofs.Yteekfapjfpkidab
open Go.RowKit

set_option maxRecDepth 10000 in
set_option maxHeartbeats 1000000 in
theorem held_TableResult (cs : List Value) (x : DTableResult) (k : Int) (w : World) (h : Lay.tTableResult.Reads w cs (Lay.tTableResult.mkv k x)) (hk : 0 ≤ k) (hk2 : k + Lay.tTableResult.vcnt x ≤ 1000000000) :
    Calls Try.prog 20 #[.agg cs.toArray, .int .i64 k] w fun e w' => e = .returned (.int .i64 (k + Lay.tTableResult.vcnt x)) ∧ Below w.heap.size w w' := by
  rw [mkv_TableResult] at h
  rw [vcnt_TableResult] at hk2
  have HV := hide (vcnt_TableResult x)
  obtain ⟨a1, d1, rfl, R1⟩ := open_TableResult h
  clear h
  generalize hn1 : (⟨x.code, (Lay.sl Lay.tItem).mkv (k) x.items⟩ : DTableResult).items.length = n1 at *
  clear hn1
  have HB0 : Below w.heap.size w (w.alloc (.cells #[.int .i64 x.code, .slice a1 n1 d1] 30)) := (Below.refl _ _).alloc (Nat.le_refl _) _
  have bA : Box w.heap.size #[.int .i64 x.code, .slice a1 n1 d1] 30 (w.alloc (.cells #[.int .i64 x.code, .slice a1 n1 d1] 30)) w.heap.size := newBox (Nat.le_refl _)
  go_enter Try.func20, Try.ntmps20
  go_wp2_with fail
  generalize w.alloc (.cells #[.int .i64 x.code, .slice a1 n1 d1] 30) = W0 at *
  replace R1 := R1.later HB0
  refine (held_ItemS _ x.items (k) _ R1 (by omega) (by omega)).mono ?_
  rintro e w1 ⟨rfl, hb⟩
  replace HB0 := HB0.trans (hb.mono HB0.size)
  replace bA := bA.keep hb
  have HA := hide bA
  have HX := hide HB0
  clear bA HB0 hb R1
  have hq : decide (k + ((Lay.sl Lay.tItem).vcnt x.items : Int) < 0) = false := by simp; omega
  go_wp2_with fail
  clear hq
  go_ret
  refine ⟨?_, unhide HX⟩
  rw [show k + (Lay.tTableResult.vcnt x : Int) = k + ((Lay.sl Lay.tItem).vcnt x.items : Int) by rw [unhide HV]]
  rfl

end Go.Proofs.Yteekfapjfpkidab
