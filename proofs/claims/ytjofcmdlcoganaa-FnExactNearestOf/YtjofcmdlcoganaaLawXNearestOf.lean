/-
  The law FnExactNearestOf answers true at all that comes in, and writes nothing that was there.
  Condition: the program and the model tell the same (premises).
-/
import Derived.Test.YtjofcmdlcoganaaChecked
import Derived.Test.YtjofcmdlcoganaaGround
import Derived.Test.YtjofcmdlcoganaaSzCenterS
import Derived.Test.YtjofcmdlcoganaaToCenterS
import Derived.Test.YtjofcmdlcoganaaEqCenterS
import Derived.Test.YtjofcmdlcoganaaLayInt
import Derived.Test.YtjofcmdlcoganaaEqIntResult
namespace Go.Proofs.Ytjofcmdlcoganaa
open Go.RowKit

set_option maxRecDepth 100000 in
set_option maxHeartbeats 4000000 in
theorem lawx_NearestOf (v0 : Value) (x0 : List DCenter) (v1 : Value) (x1 : List Int) (y : DIntResult) (w : World) (A0 : (Lay.sl Lay.tCenter).Reads w [v0] x0) (A1 : (Lay.sl Lay.int).Reads w [v1] x1) (N1 : (Lay.sl Lay.int).sz x1 ≤ 1048576) (NS : (Lay.sl Lay.tCenter).sz x0 ≤ 1048576)
    (hS : ∀ (W : World) (v0 : Value) (v1 : Value), (Lay.sl Lay.tCenter).Reads W [v0] x0 → (Lay.sl Lay.int).Reads W [v1] x1 → Calls Try.prog 24 #[v0, v1] W fun e w' => ∃ cs, e = .returned (.agg cs.toArray) ∧ Lay.tIntResult.Reads w' cs y ∧ Below W.heap.size W w')
    (hI : ∀ (W : World) (v0 : Value) (v1 : Value), (Lay.sl Lay.tCenter).Reads W [v0] x0 → (Lay.sl Lay.int).Reads W [v1] x1 → Calls Try.prog 17 #[v0, v1] W fun e w' => ∃ cs, e = .returned (.agg cs.toArray) ∧ Lay.tIntResult.OwnIn w' cs y W.heap.size w'.heap.size ∧ Below W.heap.size W w') :
    Calls Try.prog 5 #[v0, v1] w fun e w' => e = .returned (.bool true) ∧ Below w.heap.size w w' := by
  obtain ⟨ao0, cp0, rfl⟩ := open_sl A0
  obtain ⟨ao1, cp1, rfl⟩ := open_sl A1
  have HS := hide hS
  have HI := hide hI
  clear hS hI
  have HA0 := hide A0.liesIn
  clear A0
  have HA1 := hide A1.liesIn
  clear A1
  have N0 : (Lay.sl Lay.tCenter).sz x0 ≤ 1048576 := by omega
  have HN0 := hide N0
  have HN1 := hide N1
  have L1 : x1.length ≤ 1048576 := by have := N1; rw [sz_ints] at this; exact this
  clear N0 N1
  have HNS := hide NS
  clear NS
  have HB := hide (Below.refl w.heap.size w)
  go_enter Try.func5, Try.ntmps5
  go_wp2_with fail
  have hns := unhide HNS
  refine (sz_CenterS _ x0 (1048576) w (unhide HA0).reads (by omega)).mono ?_
  rintro e w1 ⟨rfl, hb⟩
  replace HA0 := hide ((unhide HA0).later hb)
  replace HA1 := hide ((unhide HA1).later hb)
  have Zw1 : w.heap.size ≤ w1.heap.size := hb.size
  replace HB := hide ((unhide HB).trans (hb.mono (by omega)))
  clear hb
  rw [szR_ok (by omega)]
  have hq0 : decide (((1048576 - (Lay.sl Lay.tCenter).sz x0 : Nat) : Int) < 0) = false := by simp
  clear hns
  go_wp2_with fail
  clear hq0
  refine (to_CenterS _ x0 w1 (unhide HA0).reads (unhide HN0)).mono ?_
  rintro e w2 ⟨vc0, rfl, O, hb⟩
  replace HA0 := hide ((unhide HA0).later hb)
  replace HA1 := hide ((unhide HA1).later hb)
  have Zw2 : w1.heap.size ≤ w2.heap.size := hb.size
  replace HB := hide ((unhide HB).trans (hb.mono (by omega)))
  clear hb
  obtain ⟨aoc0, cpc0, rfl⟩ := open_sl O.reads
  have Hc0 := hide O
  clear O
  go_wp2_with fail
  refine (to_Int64S _ x1 w2 (unhide HA1).reads (unhide HN1)).mono ?_
  rintro e w3 ⟨vc1, rfl, O, hb⟩
  replace HA0 := hide ((unhide HA0).later hb)
  replace HA1 := hide ((unhide HA1).later hb)
  replace Hc0 := hide ((unhide Hc0).later hb)
  have Zw3 : w2.heap.size ≤ w3.heap.size := hb.size
  replace HB := hide ((unhide HB).trans (hb.mono (by omega)))
  clear hb
  obtain ⟨aoc1, cpc1, rfl⟩ := open_sl O.reads
  have Hc1 := hide O
  clear O
  go_wp2_with fail
  refine (unhide HS w3 _ _ (unhide Hc0).reads (unhide Hc1).reads).mono ?_
  rintro e w4 ⟨cs, rfl, O, hb⟩
  replace HA0 := hide ((unhide HA0).later hb)
  replace HA1 := hide ((unhide HA1).later hb)
  replace Hc0 := hide ((unhide Hc0).later hb)
  replace Hc1 := hide ((unhide Hc1).later hb)
  have Zw4 : w3.heap.size ≤ w4.heap.size := hb.size
  replace HB := hide ((unhide HB).trans (hb.mono (by omega)))
  clear hb
  obtain ⟨bl, O⟩ := O
  obtain ⟨rfl, -⟩ := lies_IntResult.1 O
  have HW := hide (Lay.Reads.liesIn ⟨_, O⟩)
  clear O
  have nb : Below w4.heap.size w4 (w4.alloc (.cells #[.int .i64 y.code, .int .i64 y.value] 33)) := (Below.refl _ _).alloc (Nat.le_refl _) _
  have YW : Hid (Box w4.heap.size #[.int .i64 y.code, .int .i64 y.value] 33 (w4.alloc (.cells #[.int .i64 y.code, .int .i64 y.value] 33)) w4.heap.size) := newBox (Nat.le_refl _)
  clear Hc0
  clear Hc1
  go_wp2_with fail
  generalize haw5 : w4.alloc (.cells #[.int .i64 y.code, .int .i64 y.value] 33) = w5 at *
  have Gw5 : w4.heap.size < w5.heap.size := by rw [← haw5]; simp
  clear haw5
  replace HA0 := hide ((unhide HA0).later nb)
  replace HA1 := hide ((unhide HA1).later nb)
  replace HW := hide ((unhide HW).later nb)
  have Zw5 : w4.heap.size ≤ w5.heap.size := nb.size
  replace HB := hide ((unhide HB).trans (nb.mono (by omega)))
  clear nb
  refine (to_CenterS _ x0 w5 (unhide HA0).reads (unhide HN0)).mono ?_
  rintro e w6 ⟨vx0, rfl, O, hb⟩
  replace HA0 := hide ((unhide HA0).later hb)
  replace HA1 := hide ((unhide HA1).later hb)
  replace HW := hide ((unhide HW).later hb)
  replace YW := hide ((unhide YW).keep hb)
  have Zw6 : w5.heap.size ≤ w6.heap.size := hb.size
  replace HB := hide ((unhide HB).trans (hb.mono (by omega)))
  clear hb
  obtain ⟨aox0, cpx0, rfl⟩ := open_sl O.reads
  have Hx0 := hide O
  clear O
  have l0YW := (unhide YW).at 0 _ rfl
  have l1YW := (unhide YW).at 1 _ rfl
  have ltYW : w4.heap.size < w6.heap.size := by omega
  simp only [List.getElem_toArray, List.getElem_cons_zero, List.getElem_cons_succ] at l0YW l1YW
  go_wp2_with fail
  clear l0YW l1YW ltYW
  refine (to_Int64S _ x1 w6 (unhide HA1).reads (unhide HN1)).mono ?_
  rintro e w7 ⟨vx1, rfl, O, hb⟩
  replace HA0 := hide ((unhide HA0).later hb)
  replace HA1 := hide ((unhide HA1).later hb)
  replace HW := hide ((unhide HW).later hb)
  replace YW := hide ((unhide YW).keep hb)
  replace Hx0 := hide ((unhide Hx0).later hb)
  have Zw7 : w6.heap.size ≤ w7.heap.size := hb.size
  replace HB := hide ((unhide HB).trans (hb.mono (by omega)))
  clear hb
  obtain ⟨aox1, cpx1, rfl⟩ := open_sl O.reads
  have Hx1 := hide O
  clear O
  have l0YW := (unhide YW).at 0 _ rfl
  have l1YW := (unhide YW).at 1 _ rfl
  have ltYW : w4.heap.size < w7.heap.size := by omega
  simp only [List.getElem_toArray, List.getElem_cons_zero, List.getElem_cons_succ] at l0YW l1YW
  go_wp2_with fail
  clear l0YW l1YW ltYW
  refine (unhide HI w7 _ _ (unhide Hx0).reads (unhide Hx1).reads).mono ?_
  rintro e w8 ⟨cs, rfl, O, hb⟩
  replace HA0 := hide ((unhide HA0).later hb)
  replace HA1 := hide ((unhide HA1).later hb)
  replace HW := hide ((unhide HW).later hb)
  replace YW := hide ((unhide YW).keep hb)
  replace Hx0 := hide ((unhide Hx0).later hb)
  replace Hx1 := hide ((unhide Hx1).later hb)
  have Zw8 : w7.heap.size ≤ w8.heap.size := hb.size
  replace HB := hide ((unhide HB).trans (hb.mono (by omega)))
  clear hb
  obtain ⟨bl, O⟩ := O.reads
  obtain ⟨rfl, -⟩ := lies_IntResult.1 O
  have HG := hide (Lay.Reads.liesIn ⟨_, O⟩)
  clear O
  have nb : Below w8.heap.size w8 (w8.alloc (.cells #[.int .i64 y.code, .int .i64 y.value] 33)) := (Below.refl _ _).alloc (Nat.le_refl _) _
  have YG : Hid (Box w8.heap.size #[.int .i64 y.code, .int .i64 y.value] 33 (w8.alloc (.cells #[.int .i64 y.code, .int .i64 y.value] 33)) w8.heap.size) := newBox (Nat.le_refl _)
  have l0YW := (unhide YW).at 0 _ rfl
  have l1YW := (unhide YW).at 1 _ rfl
  have ltYW : w4.heap.size < w8.heap.size := by omega
  simp only [List.getElem_toArray, List.getElem_cons_zero, List.getElem_cons_succ] at l0YW l1YW
  go_wp2_with fail
  clear l0YW l1YW ltYW
  generalize haw9 : w8.alloc (.cells #[.int .i64 y.code, .int .i64 y.value] 33) = w9 at *
  have Gw9 : w8.heap.size < w9.heap.size := by rw [← haw9]; simp
  clear haw9
  replace HA0 := hide ((unhide HA0).later nb)
  replace HA1 := hide ((unhide HA1).later nb)
  replace HW := hide ((unhide HW).later nb)
  replace YW := hide ((unhide YW).keep nb)
  replace Hx0 := hide ((unhide Hx0).later nb)
  replace Hx1 := hide ((unhide Hx1).later nb)
  replace HG := hide ((unhide HG).later nb)
  have Zw9 : w8.heap.size ≤ w9.heap.size := nb.size
  replace HB := hide ((unhide HB).trans (nb.mono (by omega)))
  clear nb
  refine (eq_IntResult _ _ y w9 (unhide HG).reads (unhide HW).reads).mono ?_
  rintro e w10 ⟨rfl, hb⟩
  replace HA0 := hide ((unhide HA0).later hb)
  replace HA1 := hide ((unhide HA1).later hb)
  replace HW := hide ((unhide HW).later hb)
  replace YW := hide ((unhide YW).keep hb)
  replace Hx0 := hide ((unhide Hx0).later hb)
  replace Hx1 := hide ((unhide Hx1).later hb)
  replace HG := hide ((unhide HG).later hb)
  replace YG := hide ((unhide YG).keep hb)
  have Zw10 : w9.heap.size ≤ w10.heap.size := hb.size
  replace HB := hide ((unhide HB).trans (hb.mono (by omega)))
  clear hb
  have l0YW := (unhide YW).at 0 _ rfl
  have l1YW := (unhide YW).at 1 _ rfl
  have ltYW : w4.heap.size < w10.heap.size := by omega
  have l0YG := (unhide YG).at 0 _ rfl
  have l1YG := (unhide YG).at 1 _ rfl
  have ltYG : w8.heap.size < w10.heap.size := by omega
  simp only [List.getElem_toArray, List.getElem_cons_zero, List.getElem_cons_succ] at l0YW l1YW l0YG l1YG
  go_wp2_with fail
  clear l0YW l1YW ltYW l0YG l1YG ltYG
  refine (to_CenterS _ x0 w10 (unhide HA0).reads (unhide HN0)).mono ?_
  rintro e w11 ⟨vd0, rfl, O, hb⟩
  replace HA0 := hide ((unhide HA0).later hb)
  replace HA1 := hide ((unhide HA1).later hb)
  replace HW := hide ((unhide HW).later hb)
  replace YW := hide ((unhide YW).keep hb)
  replace Hx0 := hide ((unhide Hx0).later hb)
  replace Hx1 := hide ((unhide Hx1).later hb)
  replace HG := hide ((unhide HG).later hb)
  replace YG := hide ((unhide YG).keep hb)
  have Zw11 : w10.heap.size ≤ w11.heap.size := hb.size
  replace HB := hide ((unhide HB).trans (hb.mono (by omega)))
  clear hb
  obtain ⟨aod0, cpd0, rfl⟩ := open_sl O.reads
  have Hd0 := hide O
  clear O
  have l0YW := (unhide YW).at 0 _ rfl
  have l1YW := (unhide YW).at 1 _ rfl
  have ltYW : w4.heap.size < w11.heap.size := by omega
  have l0YG := (unhide YG).at 0 _ rfl
  have l1YG := (unhide YG).at 1 _ rfl
  have ltYG : w8.heap.size < w11.heap.size := by omega
  simp only [List.getElem_toArray, List.getElem_cons_zero, List.getElem_cons_succ] at l0YW l1YW l0YG l1YG
  go_wp2_with fail
  clear l0YW l1YW ltYW l0YG l1YG ltYG
  refine (eq_CenterS _ _ x0 w11 (unhide Hx0).reads (unhide Hd0).reads).mono ?_
  rintro e w12 ⟨rfl, hb⟩
  replace HA0 := hide ((unhide HA0).later hb)
  replace HA1 := hide ((unhide HA1).later hb)
  replace HW := hide ((unhide HW).later hb)
  replace YW := hide ((unhide YW).keep hb)
  replace Hx0 := hide ((unhide Hx0).later hb)
  replace Hx1 := hide ((unhide Hx1).later hb)
  replace HG := hide ((unhide HG).later hb)
  replace YG := hide ((unhide YG).keep hb)
  replace Hd0 := hide ((unhide Hd0).later hb)
  have Zw12 : w11.heap.size ≤ w12.heap.size := hb.size
  replace HB := hide ((unhide HB).trans (hb.mono (by omega)))
  clear hb
  clear Hd0
  have l0YW := (unhide YW).at 0 _ rfl
  have l1YW := (unhide YW).at 1 _ rfl
  have ltYW : w4.heap.size < w12.heap.size := by omega
  have l0YG := (unhide YG).at 0 _ rfl
  have l1YG := (unhide YG).at 1 _ rfl
  have ltYG : w8.heap.size < w12.heap.size := by omega
  simp only [List.getElem_toArray, List.getElem_cons_zero, List.getElem_cons_succ] at l0YW l1YW l0YG l1YG
  go_wp2_with fail
  clear l0YW l1YW ltYW l0YG l1YG ltYG
  refine (to_Int64S _ x1 w12 (unhide HA1).reads (unhide HN1)).mono ?_
  rintro e w13 ⟨vd1, rfl, O, hb⟩
  replace HA0 := hide ((unhide HA0).later hb)
  replace HA1 := hide ((unhide HA1).later hb)
  replace HW := hide ((unhide HW).later hb)
  replace YW := hide ((unhide YW).keep hb)
  replace Hx0 := hide ((unhide Hx0).later hb)
  replace Hx1 := hide ((unhide Hx1).later hb)
  replace HG := hide ((unhide HG).later hb)
  replace YG := hide ((unhide YG).keep hb)
  have Zw13 : w12.heap.size ≤ w13.heap.size := hb.size
  replace HB := hide ((unhide HB).trans (hb.mono (by omega)))
  clear hb
  obtain ⟨aod1, cpd1, rfl⟩ := open_sl O.reads
  have Hd1 := hide O
  clear O
  have l0YW := (unhide YW).at 0 _ rfl
  have l1YW := (unhide YW).at 1 _ rfl
  have ltYW : w4.heap.size < w13.heap.size := by omega
  have l0YG := (unhide YG).at 0 _ rfl
  have l1YG := (unhide YG).at 1 _ rfl
  have ltYG : w8.heap.size < w13.heap.size := by omega
  simp only [List.getElem_toArray, List.getElem_cons_zero, List.getElem_cons_succ] at l0YW l1YW l0YG l1YG
  go_wp2_with fail
  clear l0YW l1YW ltYW l0YG l1YG ltYG
  refine (eq_Int64S _ _ x1 w13 (unhide Hx1).reads (unhide Hd1).reads).mono ?_
  rintro e w14 ⟨rfl, hb⟩
  replace HA0 := hide ((unhide HA0).later hb)
  replace HA1 := hide ((unhide HA1).later hb)
  replace HW := hide ((unhide HW).later hb)
  replace YW := hide ((unhide YW).keep hb)
  replace Hx0 := hide ((unhide Hx0).later hb)
  replace Hx1 := hide ((unhide Hx1).later hb)
  replace HG := hide ((unhide HG).later hb)
  replace YG := hide ((unhide YG).keep hb)
  replace Hd1 := hide ((unhide Hd1).later hb)
  have Zw14 : w13.heap.size ≤ w14.heap.size := hb.size
  replace HB := hide ((unhide HB).trans (hb.mono (by omega)))
  clear hb
  clear Hd1
  have l0YW := (unhide YW).at 0 _ rfl
  have l1YW := (unhide YW).at 1 _ rfl
  have ltYW : w4.heap.size < w14.heap.size := by omega
  have l0YG := (unhide YG).at 0 _ rfl
  have l1YG := (unhide YG).at 1 _ rfl
  have ltYG : w8.heap.size < w14.heap.size := by omega
  simp only [List.getElem_toArray, List.getElem_cons_zero, List.getElem_cons_succ] at l0YW l1YW l0YG l1YG
  go_wp2_with fail
  clear l0YW l1YW ltYW l0YG l1YG ltYG
  go_ret
  exact ⟨rfl, unhide HB⟩


/- lawmany -/
set_option maxHeartbeats 400000 in
theorem lawmany_NearestOf_1 (ao0 : Option Addr) (n0 cp0 : Nat) (ao1 : Option Addr) (n1 cp1 : Nat) (w : World) (hm : 1048576 < n1) :
    Calls Try.prog 5 #[.slice ao0 n0 cp0, .slice ao1 n1 cp1] w fun e w' => e = .returned (.bool true) ∧ Below w.heap.size w w' := by
  go_enter Try.func5, Try.ntmps5
  go_wp2
  go_ret
  exact ⟨rfl, Below.refl _ _⟩

set_option maxRecDepth 10000 in
set_option maxHeartbeats 1000000 in
theorem lawover_NearestOf (v0 : Value) (x0 : List DCenter) (v1 : Value) (x1 : List Int) (w : World) (A0 : (Lay.sl Lay.tCenter).Reads w [v0] x0) (A1 : (Lay.sl Lay.int).Reads w [v1] x1) (N1 : (Lay.sl Lay.int).sz x1 ≤ 1048576) (NS : 1048576 < (Lay.sl Lay.tCenter).sz x0) :
    Calls Try.prog 5 #[v0, v1] w fun e w' => e = .returned (.bool true) ∧ Below w.heap.size w w' := by
  obtain ⟨ao0, cp0, rfl⟩ := open_sl A0
  obtain ⟨ao1, cp1, rfl⟩ := open_sl A1
  have HA0 := hide A0.liesIn
  clear A0
  clear A1
  have L1 : x1.length ≤ 1048576 := by have := N1; rw [sz_ints] at this; exact this
  clear N1
  have HB := hide (Below.refl w.heap.size w)
  go_enter Try.func5, Try.ntmps5
  go_wp2_with fail
  refine (sz_CenterS _ x0 (1048576) w (unhide HA0).reads (by omega)).mono ?_
  rintro e w1 ⟨rfl, hb⟩
  replace HA0 := hide ((unhide HA0).later hb)
  have Zw1 : w.heap.size ≤ w1.heap.size := hb.size
  replace HB := hide ((unhide HB).trans (hb.mono (by omega)))
  clear hb
  rw [szR_many (by omega)]
  go_wp2_with fail
  go_ret
  exact ⟨rfl, unhide HB⟩

end Go.Proofs.Ytjofcmdlcoganaa
