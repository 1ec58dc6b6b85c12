/-
  markTableResult, heldTableResult of laws/exact.go: the marks are laid into lists of the law's own, and found there.
  Condition: at most 1000000000 marks.
-/
import Derived.Test.YteekfapjfpkidaaChecked
import Derived.Test.YteekfapjfpkidaaTabGround
import Derived.Test.YteekfapjfpkidaaMkItemS
namespace Go.Proofs.Yteekfapjfpkidaa
open Go.RowKit

set_option maxRecDepth 10000 in
set_option maxHeartbeats 1000000 in
theorem mark_TableResult (cs : List Value) (x : DTableResult) (bl : List Nat) (k : Int) (w : World) (h : Lay.tTableResult.Own w cs x bl) (hk : 0 ≤ k) (hk2 : k + Lay.tTableResult.vcnt x ≤ 1000000000) :
    Calls Try.prog 33 #[.agg cs.toArray, .int .i64 k] w fun e w' => e = .returned (.int .i64 (k + Lay.tTableResult.vcnt x)) ∧ Lay.tTableResult.Own w' cs (Lay.tTableResult.mkv k x) bl ∧ Ext (fun q => q ∈ bl) w w' := by
  have hlt := h.lt
  have hnd := h.2.1
  rw [vcnt_TableResult] at hk2
  obtain ⟨a1, d1, g1, rfl, hbl, O1, v0⟩ := own_TableResult h
  clear h
  have HB0 : Below w.heap.size w (w.alloc (.cells #[.int .i64 x.code, .slice a1 x.items.length d1] 49)) := (Below.refl _ _).alloc (Nat.le_refl _) _
  have bA : Box w.heap.size #[.int .i64 x.code, .slice a1 x.items.length d1] 49 (w.alloc (.cells #[.int .i64 x.code, .slice a1 x.items.length d1] 49)) w.heap.size := newBox (Nat.le_refl _)
  have HN := hide hnd
  have HV := hide (vcnt_TableResult x)
  have HM := hide (mkv_TableResult k x)
  clear hnd
  go_enter Try.func33, Try.ntmps33
  go_wp2_with fail
  generalize w.alloc (.cells #[.int .i64 x.code, .slice a1 x.items.length d1] 49) = W0 at *
  replace O1 := O1.later HB0
  have hsz := HB0.size
  have EX : Ext (fun q => q ∈ bl) w W0 := ext_of_below HB0 _
  have hs0 := bA.lt
  refine (mark_ItemS _ x.items g1 (k) _ O1 (by omega) (by omega)).mono ?_
  rintro e w1 ⟨rfl, Q1, E1⟩
  replace EX := EX.trans (E1.mono fun b _ hb => by rw [hbl]; simp [hb])
  replace bA := bA.ext E1 (fun hm => by have := hlt w.heap.size (by rw [hbl]; simp [hm]); omega)
  clear E1
  have HA := hide bA
  have HX := hide EX
  have HL := hide hlt
  have HBL := hide hbl
  clear bA EX hlt hbl
  have P1 := hide Q1
  clear Q1
  clear O1
  go_wp2_with fail
  go_ret
  refine ⟨?_, ?_, unhide HX⟩
  · rw [show k + (Lay.tTableResult.vcnt x : Int) = k + ((Lay.sl Lay.tItem).vcnt x.items : Int) by rw [unhide HV]]
    rfl
  · have e := unhide HBL
    subst e
    rw [unhide HM]
    exact mkOwn_TableResult (x := ⟨x.code, (Lay.sl Lay.tItem).mkv (k) x.items⟩) (unhide P1) v0 (unhide HN)

set_option maxRecDepth 10000 in
set_option maxHeartbeats 1000000 in
theorem held_TableResult (cs : List Value) (x : DTableResult) (k : Int) (w : World) (h : Lay.tTableResult.Reads w cs (Lay.tTableResult.mkv k x)) (hk : 0 ≤ k) (hk2 : k + Lay.tTableResult.vcnt x ≤ 1000000000) :
    Calls Try.prog 34 #[.agg cs.toArray, .int .i64 k] w fun e w' => e = .returned (.int .i64 (k + Lay.tTableResult.vcnt x)) ∧ Below w.heap.size w w' := by
  rw [mkv_TableResult] at h
  rw [vcnt_TableResult] at hk2
  have HV := hide (vcnt_TableResult x)
  obtain ⟨a1, d1, rfl, R1⟩ := open_TableResult h
  clear h
  generalize hn1 : (⟨x.code, (Lay.sl Lay.tItem).mkv (k) x.items⟩ : DTableResult).items.length = n1 at *
  clear hn1
  have HB0 : Below w.heap.size w (w.alloc (.cells #[.int .i64 x.code, .slice a1 n1 d1] 49)) := (Below.refl _ _).alloc (Nat.le_refl _) _
  have bA : Box w.heap.size #[.int .i64 x.code, .slice a1 n1 d1] 49 (w.alloc (.cells #[.int .i64 x.code, .slice a1 n1 d1] 49)) w.heap.size := newBox (Nat.le_refl _)
  go_enter Try.func34, Try.ntmps34
  go_wp2_with fail
  generalize w.alloc (.cells #[.int .i64 x.code, .slice a1 n1 d1] 49) = W0 at *
  replace R1 := R1.later HB0
  refine (held_ItemS _ x.items (k) _ R1 (by omega) (by omega)).mono ?_
  rintro e w1 ⟨rfl, hb⟩
  replace HB0 := HB0.trans (hb.mono HB0.size)
  replace bA := bA.keep hb
  have HA := hide bA
  have HX := hide HB0
  clear bA HB0 hb R1
  have hq : decide (k + ((Lay.sl Lay.tItem).vcnt x.items : Int) < 0) = false := by simp; omega
  go_wp2_with fail
  clear hq
  go_ret
  refine ⟨?_, unhide HX⟩
  rw [show k + (Lay.tTableResult.vcnt x : Int) = k + ((Lay.sl Lay.tItem).vcnt x.items : Int) by rw [unhide HV]]
  rfl

end Go.Proofs.Yteekfapjfpkidaa
