/-
  markHitsResult, heldHitsResult of laws/exact.go: the marks are laid into lists of the law's own, and found there.
  Condition: at most 1000000000 marks.
-/
import Derived.Test.YteekfapjfpkidaaChecked
import Derived.Test.YteekfapjfpkidaaHitGround
import Derived.Test.YteekfapjfpkidaaMkHitS
namespace Go.Proofs.Yteekfapjfpkidaa
open Go.RowKit

set_option maxRecDepth 10000 in
set_option maxHeartbeats 1000000 in
theorem mark_HitsResult (cs : List Value) (x : DHitsResult) (bl : List Nat) (k : Int) (w : World) (h : Lay.tHitsResult.Own w cs x bl) (hk : 0 ≤ k) (hk2 : k + Lay.tHitsResult.vcnt x ≤ 1000000000) :
    Calls Try.prog 23 #[.agg cs.toArray, .int .i64 k] w fun e w' => e = .returned (.int .i64 (k + Lay.tHitsResult.vcnt x)) ∧ Lay.tHitsResult.Own w' cs (Lay.tHitsResult.mkv k x) bl ∧ Ext (fun q => q ∈ bl) w w' := by
  have hlt := h.lt
  have hnd := h.2.1
  rw [vcnt_HitsResult] at hk2
  obtain ⟨a1, d1, g1, rfl, hbl, O1, v0⟩ := own_HitsResult h
  clear h
  have HB0 : Below w.heap.size w (w.alloc (.cells #[.int .i64 x.code, .slice a1 x.hits.length d1] 33)) := (Below.refl _ _).alloc (Nat.le_refl _) _
  have bA : Box w.heap.size #[.int .i64 x.code, .slice a1 x.hits.length d1] 33 (w.alloc (.cells #[.int .i64 x.code, .slice a1 x.hits.length d1] 33)) w.heap.size := newBox (Nat.le_refl _)
  have HN := hide hnd
  have HV := hide (vcnt_HitsResult x)
  have HM := hide (mkv_HitsResult k x)
  clear hnd
  go_enter Try.func23, Try.ntmps23
  go_wp2_with fail
  generalize w.alloc (.cells #[.int .i64 x.code, .slice a1 x.hits.length d1] 33) = W0 at *
  replace O1 := O1.later HB0
  have hsz := HB0.size
  have EX : Ext (fun q => q ∈ bl) w W0 := ext_of_below HB0 _
  have hs0 := bA.lt
  refine (mark_HitS _ x.hits g1 (k) _ O1 (by omega) (by omega)).mono ?_
  rintro e w1 ⟨rfl, Q1, E1⟩
  replace EX := EX.trans (E1.mono fun b _ hb => by rw [hbl]; simp [hb])
  replace bA := bA.ext E1 (fun hm => by have := hlt w.heap.size (by rw [hbl]; simp [hm]); omega)
  clear E1
  have HA := hide bA
  have HX := hide EX
  have HL := hide hlt
  have HBL := hide hbl
  clear bA EX hlt hbl
  have P1 := hide Q1
  clear Q1
  clear O1
  go_wp2_with fail
  go_ret
  refine ⟨?_, ?_, unhide HX⟩
  · rw [show k + (Lay.tHitsResult.vcnt x : Int) = k + ((Lay.sl Lay.tHit).vcnt x.hits : Int) by rw [unhide HV]]
    rfl
  · have e := unhide HBL
    subst e
    rw [unhide HM]
    exact mkOwn_HitsResult (x := ⟨x.code, (Lay.sl Lay.tHit).mkv (k) x.hits⟩) (unhide P1) v0 (unhide HN)

set_option maxRecDepth 10000 in
set_option maxHeartbeats 1000000 in
theorem held_HitsResult (cs : List Value) (x : DHitsResult) (k : Int) (w : World) (h : Lay.tHitsResult.Reads w cs (Lay.tHitsResult.mkv k x)) (hk : 0 ≤ k) (hk2 : k + Lay.tHitsResult.vcnt x ≤ 1000000000) :
    Calls Try.prog 24 #[.agg cs.toArray, .int .i64 k] w fun e w' => e = .returned (.int .i64 (k + Lay.tHitsResult.vcnt x)) ∧ Below w.heap.size w w' := by
  rw [mkv_HitsResult] at h
  rw [vcnt_HitsResult] at hk2
  have HV := hide (vcnt_HitsResult x)
  obtain ⟨a1, d1, rfl, R1⟩ := open_HitsResult h
  clear h
  generalize hn1 : (⟨x.code, (Lay.sl Lay.tHit).mkv (k) x.hits⟩ : DHitsResult).hits.length = n1 at *
  clear hn1
  have HB0 : Below w.heap.size w (w.alloc (.cells #[.int .i64 x.code, .slice a1 n1 d1] 33)) := (Below.refl _ _).alloc (Nat.le_refl _) _
  have bA : Box w.heap.size #[.int .i64 x.code, .slice a1 n1 d1] 33 (w.alloc (.cells #[.int .i64 x.code, .slice a1 n1 d1] 33)) w.heap.size := newBox (Nat.le_refl _)
  go_enter Try.func24, Try.ntmps24
  go_wp2_with fail
  generalize w.alloc (.cells #[.int .i64 x.code, .slice a1 n1 d1] 33) = W0 at *
  replace R1 := R1.later HB0
  refine (held_HitS _ x.hits (k) _ R1 (by omega) (by omega)).mono ?_
  rintro e w1 ⟨rfl, hb⟩
  replace HB0 := HB0.trans (hb.mono HB0.size)
  replace bA := bA.keep hb
  have HA := hide bA
  have HX := hide HB0
  clear bA HB0 hb R1
  have hq : decide (k + ((Lay.sl Lay.tHit).vcnt x.hits : Int) < 0) = false := by simp; omega
  go_wp2_with fail
  clear hq
  go_ret
  refine ⟨?_, unhide HX⟩
  rw [show k + (Lay.tHitsResult.vcnt x : Int) = k + ((Lay.sl Lay.tHit).vcnt x.hits : Int) by rw [unhide HV]]
  rfl

end Go.Proofs.Yteekfapjfpkidaa
