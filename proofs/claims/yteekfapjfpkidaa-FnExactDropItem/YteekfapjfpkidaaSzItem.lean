/-
  szItem of laws/exact.go: what is left of a bound.
  Condition: the bound is at most 1048576.
-/
import Derived.Test.YteekfapjfpkidaaChecked
import Derived.Test.YteekfapjfpkidaaGround
import Derived.Test.YteekfapjfpkidaaTabGround
import Derived.Test.YteekfapjfpkidaaSzInt64S
namespace Go.Proofs.Yteekfapjfpkidaa
open Go.RowKit

theorem szsum_Item (x : DItem) : Lay.tItem.sz x = (Lay.sl Lay.int).sz x.vec := by
  show 0 + ((Lay.sl Lay.int).sz x.vec) = (Lay.sl Lay.int).sz x.vec
  omega
set_option maxRecDepth 10000 in
set_option maxHeartbeats 1000000 in
theorem sz_Item (cs : List Value) (x : DItem) (l : Nat) (w : World) (h : Lay.tItem.Reads w cs x) (hl : l ≤ 1048576) :
    Calls Try.prog 37 #[.agg cs.toArray, .int .i64 l] w fun e w' => e = .returned (.int .i64 (szR l (Lay.tItem.sz x))) ∧ Below w.heap.size w w' := by
  obtain ⟨a1, d1, rfl, R1⟩ := open_Item h
  clear h
  have HB0 : Below w.heap.size w (w.alloc (.cells #[.int .i64 x.id, .slice a1 x.vec.length d1] 57)) := (Below.refl _ _).alloc (Nat.le_refl _) _
  have bA : Box w.heap.size #[.int .i64 x.id, .slice a1 x.vec.length d1] 57 (w.alloc (.cells #[.int .i64 x.id, .slice a1 x.vec.length d1] 57)) w.heap.size := newBox (Nat.le_refl _)
  have HV := hide (szsum_Item x)
  go_enter Try.func37, Try.ntmps37
  go_wp2_with fail
  generalize w.alloc (.cells #[.int .i64 x.id, .slice a1 x.vec.length d1] 57) = W0 at *
  replace R1 := R1.later HB0
  refine (sz_Int64S _ x.vec (l) _ R1 (by omega)).mono ?_
  rintro e w1 ⟨rfl, hb⟩
  replace HB0 := HB0.trans (hb.mono HB0.size)
  replace bA := bA.keep hb
  clear hb R1
  by_cases hs0 : (Lay.sl Lay.int).sz x.vec ≤ l
  · rw [szR_ok hs0]
    have hq : decide (((l - (Lay.sl Lay.int).sz x.vec : Nat) : Int) < 0) = false := by simp
    have HX := hide HB0
    have HA := hide bA
    clear HB0 bA
    go_wp2_with fail
    clear hq
    go_ret
    refine ⟨?_, unhide HX⟩
    rw [unhide HV, szR_ok (by omega), show l - ((Lay.sl Lay.int).sz x.vec) = l - (Lay.sl Lay.int).sz x.vec by omega]
    rfl
  · rw [szR_many (by omega)]
    have HX := hide HB0
    clear HB0 bA
    go_wp2_with fail
    go_ret
    refine ⟨?_, unhide HX⟩
    rw [unhide HV, szR_many (by omega)]
    rfl

end Go.Proofs.Yteekfapjfpkidaa
