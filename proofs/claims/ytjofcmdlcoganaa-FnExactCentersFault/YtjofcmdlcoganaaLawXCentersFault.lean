/-
  The law FnExactCentersFault answers true at all that comes in, and writes nothing that was there.
  Condition: the program and the model tell the same (premises).
-/
import Derived.Test.YtjofcmdlcoganaaChecked
import Derived.Test.YtjofcmdlcoganaaGround
import Derived.Test.YtjofcmdlcoganaaSzCenterS
import Derived.Test.YtjofcmdlcoganaaToCenterS
import Derived.Test.YtjofcmdlcoganaaEqCenterS
namespace Go.Proofs.Ytjofcmdlcoganaa
open Go.RowKit

set_option maxRecDepth 100000 in
set_option maxHeartbeats 4000000 in
theorem lawx_CentersFault (v0 : Value) (x0 : List DCenter) (y : Int) (w : World) (A0 : (Lay.sl Lay.tCenter).Reads w [v0] x0) (NS : (Lay.sl Lay.tCenter).sz x0 ≤ 1048576)
    (hS : ∀ (W : World) (v0 : Value), (Lay.sl Lay.tCenter).Reads W [v0] x0 → Calls Try.prog 21 #[v0] W fun e w' => e = .returned (.int .i64 y) ∧ Below W.heap.size W w')
    (hI : ∀ (W : World) (v0 : Value), (Lay.sl Lay.tCenter).Reads W [v0] x0 → Calls Try.prog 18 #[v0] W fun e w' => e = .returned (.int .i64 y) ∧ Below W.heap.size W w') :
    Calls Try.prog 4 #[v0] w fun e w' => e = .returned (.bool true) ∧ Below w.heap.size w w' := by
  obtain ⟨ao0, cp0, rfl⟩ := open_sl A0
  have HS := hide hS
  have HI := hide hI
  clear hS hI
  have HA0 := hide A0.liesIn
  clear A0
  have N0 : (Lay.sl Lay.tCenter).sz x0 ≤ 1048576 := by omega
  have HN0 := hide N0
  clear N0
  have HNS := hide NS
  clear NS
  have HB := hide (Below.refl w.heap.size w)
  go_enter Try.func4, Try.ntmps4
  go_wp2_with fail
  have hns := unhide HNS
  refine (sz_CenterS _ x0 (1048576) w (unhide HA0).reads (by omega)).mono ?_
  rintro e w1 ⟨rfl, hb⟩
  replace HA0 := hide ((unhide HA0).later hb)
  have Zw1 : w.heap.size ≤ w1.heap.size := hb.size
  replace HB := hide ((unhide HB).trans (hb.mono (by omega)))
  clear hb
  rw [szR_ok (by omega)]
  have hq0 : decide (((1048576 - (Lay.sl Lay.tCenter).sz x0 : Nat) : Int) < 0) = false := by simp
  clear hns
  go_wp2_with fail
  clear hq0
  refine (to_CenterS _ x0 w1 (unhide HA0).reads (unhide HN0)).mono ?_
  rintro e w2 ⟨vc0, rfl, O, hb⟩
  replace HA0 := hide ((unhide HA0).later hb)
  have Zw2 : w1.heap.size ≤ w2.heap.size := hb.size
  replace HB := hide ((unhide HB).trans (hb.mono (by omega)))
  clear hb
  obtain ⟨aoc0, cpc0, rfl⟩ := open_sl O.reads
  have Hc0 := hide O
  clear O
  go_wp2_with fail
  refine (unhide HS w2 _ (unhide Hc0).reads).mono ?_
  rintro e w3 ⟨rfl, hb⟩
  replace HA0 := hide ((unhide HA0).later hb)
  replace Hc0 := hide ((unhide Hc0).later hb)
  have Zw3 : w2.heap.size ≤ w3.heap.size := hb.size
  replace HB := hide ((unhide HB).trans (hb.mono (by omega)))
  clear hb
  clear Hc0
  go_wp2_with fail
  refine (to_CenterS _ x0 w3 (unhide HA0).reads (unhide HN0)).mono ?_
  rintro e w4 ⟨vx0, rfl, O, hb⟩
  replace HA0 := hide ((unhide HA0).later hb)
  have Zw4 : w3.heap.size ≤ w4.heap.size := hb.size
  replace HB := hide ((unhide HB).trans (hb.mono (by omega)))
  clear hb
  obtain ⟨aox0, cpx0, rfl⟩ := open_sl O.reads
  have Hx0 := hide O
  clear O
  go_wp2_with fail
  refine (unhide HI w4 _ (unhide Hx0).reads).mono ?_
  rintro e w5 ⟨rfl, hb⟩
  replace HA0 := hide ((unhide HA0).later hb)
  replace Hx0 := hide ((unhide Hx0).later hb)
  have Zw5 : w4.heap.size ≤ w5.heap.size := hb.size
  replace HB := hide ((unhide HB).trans (hb.mono (by omega)))
  clear hb
  have hne : (y != y) = false := by simp
  go_wp2_with fail
  refine (to_CenterS _ x0 w5 (unhide HA0).reads (unhide HN0)).mono ?_
  rintro e w6 ⟨vd0, rfl, O, hb⟩
  replace HA0 := hide ((unhide HA0).later hb)
  replace Hx0 := hide ((unhide Hx0).later hb)
  have Zw6 : w5.heap.size ≤ w6.heap.size := hb.size
  replace HB := hide ((unhide HB).trans (hb.mono (by omega)))
  clear hb
  obtain ⟨aod0, cpd0, rfl⟩ := open_sl O.reads
  have Hd0 := hide O
  clear O
  go_wp2_with fail
  refine (eq_CenterS _ _ x0 w6 (unhide Hx0).reads (unhide Hd0).reads).mono ?_
  rintro e w7 ⟨rfl, hb⟩
  replace HA0 := hide ((unhide HA0).later hb)
  replace Hx0 := hide ((unhide Hx0).later hb)
  replace Hd0 := hide ((unhide Hd0).later hb)
  have Zw7 : w6.heap.size ≤ w7.heap.size := hb.size
  replace HB := hide ((unhide HB).trans (hb.mono (by omega)))
  clear hb
  clear Hd0
  go_wp2_with fail
  go_ret
  exact ⟨rfl, unhide HB⟩


set_option maxRecDepth 10000 in
set_option maxHeartbeats 1000000 in
theorem lawover_CentersFault (v0 : Value) (x0 : List DCenter) (w : World) (A0 : (Lay.sl Lay.tCenter).Reads w [v0] x0) (NS : 1048576 < (Lay.sl Lay.tCenter).sz x0) :
    Calls Try.prog 4 #[v0] w fun e w' => e = .returned (.bool true) ∧ Below w.heap.size w w' := by
  obtain ⟨ao0, cp0, rfl⟩ := open_sl A0
  have HA0 := hide A0.liesIn
  clear A0
  have HB := hide (Below.refl w.heap.size w)
  go_enter Try.func4, Try.ntmps4
  go_wp2_with fail
  refine (sz_CenterS _ x0 (1048576) w (unhide HA0).reads (by omega)).mono ?_
  rintro e w1 ⟨rfl, hb⟩
  replace HA0 := hide ((unhide HA0).later hb)
  have Zw1 : w.heap.size ≤ w1.heap.size := hb.size
  replace HB := hide ((unhide HB).trans (hb.mono (by omega)))
  clear hb
  rw [szR_many (by omega)]
  go_wp2_with fail
  go_ret
  exact ⟨rfl, unhide HB⟩

end Go.Proofs.Ytjofcmdlcoganaa
