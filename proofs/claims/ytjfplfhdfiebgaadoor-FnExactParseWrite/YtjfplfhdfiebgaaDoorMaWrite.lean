/-
  markWrite, heldWrite of laws/exact.go: the marks are laid into lists of the law's own, and found there.
  Condition: at most 1000000000 marks.
-/
import Derived.Test.YtjfplfhdfiebgaaDoorChecked
import Derived.Test.YtjfplfhdfiebgaaDoorTabGround
import Derived.Test.YtjfplfhdfiebgaaDoorLayMark
namespace Go.Proofs.YtjfplfhdfiebgaaDoor
open Go.RowKit

set_option maxRecDepth 10000 in
set_option maxHeartbeats 1000000 in
theorem mark_Write (cs : List Value) (x : DWrite) (bl : List Nat) (k : Int) (w : World) (h : Lay.tWrite.Own w cs x bl) (hk : 0 ≤ k) (hk2 : k + Lay.tWrite.vcnt x ≤ 1000000000) :
    Calls Tryd.prog 28 #[.agg cs.toArray, .int .i64 k] w fun e w' => e = .returned (.int .i64 (k + Lay.tWrite.vcnt x)) ∧ Lay.tWrite.Own w' cs (Lay.tWrite.mkv k x) bl ∧ Ext (fun q => q ∈ bl) w w' := by
  have hlt := h.lt
  have hnd := h.2.1
  rw [vcnt_Write] at hk2
  obtain ⟨a2, d2, g2, rfl, hbl, O2, v0, v1, v3, v4⟩ := own_Write h
  clear h
  have HB0 : Below w.heap.size w (w.alloc (.cells #[.int .i64 x.kind, .int .i64 x.id, .slice a2 x.vec.length d2, .int .i64 x.session, .int .i64 x.seq] 29)) := (Below.refl _ _).alloc (Nat.le_refl _) _
  have bA : Box w.heap.size #[.int .i64 x.kind, .int .i64 x.id, .slice a2 x.vec.length d2, .int .i64 x.session, .int .i64 x.seq] 29 (w.alloc (.cells #[.int .i64 x.kind, .int .i64 x.id, .slice a2 x.vec.length d2, .int .i64 x.session, .int .i64 x.seq] 29)) w.heap.size := newBox (Nat.le_refl _)
  have HN := hide hnd
  have HV := hide (vcnt_Write x)
  have HM := hide (mkv_Write k x)
  clear hnd
  go_enter Tryd.func28, Tryd.ntmps28
  go_wp2_with fail
  generalize w.alloc (.cells #[.int .i64 x.kind, .int .i64 x.id, .slice a2 x.vec.length d2, .int .i64 x.session, .int .i64 x.seq] 29) = W0 at *
  replace O2 := O2.later HB0
  have hsz := HB0.size
  have EX : Ext (fun q => q ∈ bl) w W0 := ext_of_below HB0 _
  have hs0 := bA.lt
  refine (mark_Int64S _ x.vec g2 (k) _ O2 (by omega) (by omega)).mono ?_
  rintro e w1 ⟨rfl, Q2, E2⟩
  replace EX := EX.trans (E2.mono fun b _ hb => by rw [hbl]; simp [hb])
  replace bA := bA.ext E2 (fun hm => by have := hlt w.heap.size (by rw [hbl]; simp [hm]); omega)
  clear E2
  have HA := hide bA
  have HX := hide EX
  have HL := hide hlt
  have HBL := hide hbl
  clear bA EX hlt hbl
  have P2 := hide Q2
  clear Q2
  clear O2
  go_wp2_with fail
  go_ret
  refine ⟨?_, ?_, unhide HX⟩
  · rw [show k + (Lay.tWrite.vcnt x : Int) = k + ((Lay.sl Lay.int).vcnt x.vec : Int) by rw [unhide HV]]
    rfl
  · have e := unhide HBL
    subst e
    rw [unhide HM]
    exact mkOwn_Write (x := ⟨x.kind, x.id, (Lay.sl Lay.int).mkv (k) x.vec, x.session, x.seq⟩) (unhide P2) v0 v1 v3 v4 (unhide HN)

end Go.Proofs.YtjfplfhdfiebgaaDoor
