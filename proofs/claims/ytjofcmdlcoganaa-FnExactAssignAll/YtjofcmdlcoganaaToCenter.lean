/-
  toCenter of laws/exact.go: a copy is new memory.
  Condition: its lists are together at most 1048576 long.
-/
import Derived.Test.YtjofcmdlcoganaaChecked
import Derived.Test.YtjofcmdlcoganaaGround
import Derived.Test.YtjofcmdlcoganaaLayCenter
import Derived.Test.YtjofcmdlcoganaaSzCenter
import Derived.Test.YtjofcmdlcoganaaLayInt
namespace Go.Proofs.Ytjofcmdlcoganaa
open Go.RowKit

set_option maxRecDepth 10000 in
set_option maxHeartbeats 2000000 in
theorem to_Center (cs : List Value) (x : DCenter) (w : World) (h : Lay.tCenter.Reads w cs x) (hn : Lay.tCenter.sz x ≤ 1048576) :
    Calls Try.prog 62 #[.agg cs.toArray] w fun e w' => ∃ cs', e = .returned (.agg cs'.toArray) ∧ Lay.tCenter.OwnIn w' cs' x w.heap.size w'.heap.size ∧ Below w.heap.size w w' := by
  obtain ⟨a0, d0, rfl, R0⟩ := open_Center h
  clear h
  rw [szsum_Center] at hn
  have HB0 : Below w.heap.size w (((w.alloc (.cells #[.slice a0 x.vec.length d0] 83)).alloc (.cells #[.slice none 0 0] 77)).alloc (.cells #[.slice none 0 0] 77)) := (((Below.refl _ _).alloc (Nat.le_refl _) _).alloc (by simp) _).alloc (by simp; omega) _
  have bA : Box w.heap.size #[.slice a0 x.vec.length d0] 83 (((w.alloc (.cells #[.slice a0 x.vec.length d0] 83)).alloc (.cells #[.slice none 0 0] 77)).alloc (.cells #[.slice none 0 0] 77)) w.heap.size := ((newBox (Nat.le_refl _)).grow _).grow _
  have bR : Box w.heap.size #[.slice none 0 0] 77 (((w.alloc (.cells #[.slice a0 x.vec.length d0] 83)).alloc (.cells #[.slice none 0 0] 77)).alloc (.cells #[.slice none 0 0] 77)) (w.heap.size + 1) := (newBoxAt (by omega) (by simp)).grow _
  have bX : Box w.heap.size #[.slice none 0 0] 77 (((w.alloc (.cells #[.slice a0 x.vec.length d0] 83)).alloc (.cells #[.slice none 0 0] 77)).alloc (.cells #[.slice none 0 0] 77)) (w.heap.size + 2) := newBoxAt (by omega) (by simp)
  have hz0 : w.heap.size + 3 ≤ (((w.alloc (.cells #[.slice a0 x.vec.length d0] 83)).alloc (.cells #[.slice none 0 0] 77)).alloc (.cells #[.slice none 0 0] 77)).heap.size := by simp
  go_enter Try.func62, Try.ntmps62
  go_wp2_with fail
  generalize ((w.alloc (.cells #[.slice a0 x.vec.length d0] 83)).alloc (.cells #[.slice none 0 0] 77)).alloc (.cells #[.slice none 0 0] 77) = W0 at *
  replace R0 := R0.later HB0
  refine (to_Int64S _ x.vec W0 R0 (by omega)).mono ?_
  rintro e w1 ⟨v0, rfl, O0, hb⟩
  have Z0 : W0.heap.size ≤ w1.heap.size := hb.size
  replace HB0 := HB0.trans (hb.mono HB0.size)
  replace bA := bA.keep hb
  replace bR := bR.keep hb
  replace bX := bX.keep hb
  clear hb R0
  obtain ⟨a0z, d0z, rfl⟩ := open_sl O0.reads
  have q0 := bX.at 0 _ rfl
  have qf := bX.soft
  have ql := bX.lt
  have pl := bA.lt
  have r0 := bR.at 0 _ rfl
  have rf := bR.soft
  have rl := bR.lt
  simp only [List.getElem_toArray, List.getElem_cons_zero] at q0 r0
  have hA := hide bA
  have hR := hide bR
  have hX := hide bX
  have hB := hide HB0
  clear bA bR bX HB0
  have hO0 := hide O0
  clear O0
  go_wp2_with fail
  refine bodyPost_ret (v := .agg #[.slice a0z x.vec.length d0z]) (by simp [results, Try.results62, go_sem, r0]) rfl ?_
  have E : Ext (fun q => q = w.heap.size + 2 ∨ q = w.heap.size + 1) w1 _ := ext_setL (ext_setL (Ext.refl _ _) (w.heap.size + 2) [(0, .slice a0z x.vec.length d0z)] (Or.inl rfl)) (w.heap.size + 1) [(0, .slice a0z x.vec.length d0z)] (Or.inr rfl)
  have own : Lay.tCenter.OwnIn _ [.slice a0z x.vec.length d0z] x W0.heap.size w1.heap.size := ((unhide hO0).ext E (fun k h1 h2 h3 => by omega))
  have hsz := E.size
  have told := Lay.toldOwn (w := w) own (by omega) (by omega) ((unhide hB).trans (E.below (unhide hB).size (fun k h1 h2 => by omega)))
  exact told

end Go.Proofs.Ytjofcmdlcoganaa
