/-
  szWrite of laws/exact.go: what is left of a bound.
  Condition: the bound is at most 1048576.
-/
import Derived.Test.YtgjjmbliahhhjaaDoorChecked
import Derived.Test.YtgjjmbliahhhjaaDoorLayRow
import Derived.Test.YtgjjmbliahhhjaaDoorLayWrite
import Derived.Test.YtgjjmbliahhhjaaDoorSzInt64S
namespace Go.Proofs.YtgjjmbliahhhjaaDoor
open Go.RowKit

theorem szsum_Write (x : DWrite) : Lay.tWrite.sz x = (Lay.sl Lay.int).sz x.vec := by
  show 0 + (0 + ((Lay.sl Lay.int).sz x.vec + (0 + (0)))) = (Lay.sl Lay.int).sz x.vec
  omega
set_option maxRecDepth 10000 in
set_option maxHeartbeats 1000000 in
theorem sz_Write (cs : List Value) (x : DWrite) (l : Nat) (w : World) (h : Lay.tWrite.Reads w cs x) (hl : l ≤ 1048576) :
    Calls Tryd.prog 5 #[.agg cs.toArray, .int .i64 l] w fun e w' => e = .returned (.int .i64 (szR l (Lay.tWrite.sz x))) ∧ Below w.heap.size w w' := by
  obtain ⟨a2, d2, rfl, R2⟩ := open_Write h
  clear h
  have HB0 : Below w.heap.size w (w.alloc (.cells #[.int .i64 x.kind, .int .i64 x.id, .slice a2 x.vec.length d2, .int .i64 x.session, .int .i64 x.seq] 24)) := (Below.refl _ _).alloc (Nat.le_refl _) _
  have bA : Box w.heap.size #[.int .i64 x.kind, .int .i64 x.id, .slice a2 x.vec.length d2, .int .i64 x.session, .int .i64 x.seq] 24 (w.alloc (.cells #[.int .i64 x.kind, .int .i64 x.id, .slice a2 x.vec.length d2, .int .i64 x.session, .int .i64 x.seq] 24)) w.heap.size := newBox (Nat.le_refl _)
  have HV := hide (szsum_Write x)
  go_enter Tryd.func5, Tryd.ntmps5
  go_wp2_with fail
  generalize w.alloc (.cells #[.int .i64 x.kind, .int .i64 x.id, .slice a2 x.vec.length d2, .int .i64 x.session, .int .i64 x.seq] 24) = W0 at *
  replace R2 := R2.later HB0
  refine (sz_Int64S _ x.vec (l) _ R2 (by omega)).mono ?_
  rintro e w1 ⟨rfl, hb⟩
  replace HB0 := HB0.trans (hb.mono HB0.size)
  replace bA := bA.keep hb
  clear hb R2
  by_cases hs0 : (Lay.sl Lay.int).sz x.vec ≤ l
  · rw [szR_ok hs0]
    have hq : decide (((l - (Lay.sl Lay.int).sz x.vec : Nat) : Int) < 0) = false := by simp
    have HX := hide HB0
    have HA := hide bA
    clear HB0 bA
    go_wp2_with fail
    clear hq
    go_ret
    refine ⟨?_, unhide HX⟩
    rw [unhide HV, szR_ok (by omega), show l - ((Lay.sl Lay.int).sz x.vec) = l - (Lay.sl Lay.int).sz x.vec by omega]
    rfl
  · rw [szR_many (by omega)]
    have HX := hide HB0
    clear HB0 bA
    go_wp2_with fail
    go_ret
    refine ⟨?_, unhide HX⟩
    rw [unhide HV, szR_many (by omega)]
    rfl

end Go.Proofs.YtgjjmbliahhhjaaDoor
