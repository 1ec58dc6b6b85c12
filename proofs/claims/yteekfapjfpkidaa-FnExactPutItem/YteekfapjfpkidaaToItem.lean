/-
  toItem of laws/exact.go: a copy is new memory.
  Condition: its lists are together at most 1048576 long.
-/
import Derived.Test.YteekfapjfpkidaaChecked
import Derived.Test.YteekfapjfpkidaaGround
import Derived.Test.YteekfapjfpkidaaTabGround
import Derived.Test.YteekfapjfpkidaaSzItem
import Derived.Test.YteekfapjfpkidaaLayInt
namespace Go.Proofs.Yteekfapjfpkidaa
open Go.RowKit

set_option maxRecDepth 10000 in
set_option maxHeartbeats 2000000 in
theorem to_Item (cs : List Value) (x : DItem) (w : World) (h : Lay.tItem.Reads w cs x) (hn : Lay.tItem.sz x ≤ 1048576) :
    Calls Try.prog 39 #[.agg cs.toArray] w fun e w' => ∃ cs', e = .returned (.agg cs'.toArray) ∧ Lay.tItem.OwnIn w' cs' x w.heap.size w'.heap.size ∧ Below w.heap.size w w' := by
  have h0 := h
  obtain ⟨bl, hl⟩ := h0
  obtain ⟨-, -, -, -, -, f0, -⟩ := lies_Item.1 hl
  clear hl
  obtain ⟨a1, d1, rfl, R1⟩ := open_Item h
  clear h
  rw [szsum_Item] at hn
  have HF := hide f0
  clear f0
  have HB0 : Below w.heap.size w (((w.alloc (.cells #[.int .i64 x.id, .slice a1 x.vec.length d1] 57)).alloc (.cells #[.int .i64 0, .slice none 0 0] 58)).alloc (.cells #[.int .i64 x.id, .slice none 0 0] 58)) := (((Below.refl _ _).alloc (Nat.le_refl _) _).alloc (by simp) _).alloc (by simp; omega) _
  have bA : Box w.heap.size #[.int .i64 x.id, .slice a1 x.vec.length d1] 57 (((w.alloc (.cells #[.int .i64 x.id, .slice a1 x.vec.length d1] 57)).alloc (.cells #[.int .i64 0, .slice none 0 0] 58)).alloc (.cells #[.int .i64 x.id, .slice none 0 0] 58)) w.heap.size := ((newBox (Nat.le_refl _)).grow _).grow _
  have bR : Box w.heap.size #[.int .i64 0, .slice none 0 0] 58 (((w.alloc (.cells #[.int .i64 x.id, .slice a1 x.vec.length d1] 57)).alloc (.cells #[.int .i64 0, .slice none 0 0] 58)).alloc (.cells #[.int .i64 x.id, .slice none 0 0] 58)) (w.heap.size + 1) := (newBoxAt (by omega) (by simp)).grow _
  have bX : Box w.heap.size #[.int .i64 x.id, .slice none 0 0] 58 (((w.alloc (.cells #[.int .i64 x.id, .slice a1 x.vec.length d1] 57)).alloc (.cells #[.int .i64 0, .slice none 0 0] 58)).alloc (.cells #[.int .i64 x.id, .slice none 0 0] 58)) (w.heap.size + 2) := newBoxAt (by omega) (by simp)
  have hz0 : w.heap.size + 3 ≤ (((w.alloc (.cells #[.int .i64 x.id, .slice a1 x.vec.length d1] 57)).alloc (.cells #[.int .i64 0, .slice none 0 0] 58)).alloc (.cells #[.int .i64 x.id, .slice none 0 0] 58)).heap.size := by simp
  go_enter Try.func39, Try.ntmps39
  go_wp2_with fail
  generalize ((w.alloc (.cells #[.int .i64 x.id, .slice a1 x.vec.length d1] 57)).alloc (.cells #[.int .i64 0, .slice none 0 0] 58)).alloc (.cells #[.int .i64 x.id, .slice none 0 0] 58) = W0 at *
  replace R1 := R1.later HB0
  refine (to_Int64S _ x.vec W0 R1 (by omega)).mono ?_
  rintro e w1 ⟨v1, rfl, O1, hb⟩
  have Z0 : W0.heap.size ≤ w1.heap.size := hb.size
  replace HB0 := HB0.trans (hb.mono HB0.size)
  replace bA := bA.keep hb
  replace bR := bR.keep hb
  replace bX := bX.keep hb
  clear hb R1
  obtain ⟨a1z, d1z, rfl⟩ := open_sl O1.reads
  have q0 := bX.at 0 _ rfl
  have q1 := bX.at 1 _ rfl
  have qf := bX.soft
  have ql := bX.lt
  have pl := bA.lt
  have r0 := bR.at 0 _ rfl
  have r1 := bR.at 1 _ rfl
  have rf := bR.soft
  have rl := bR.lt
  simp only [List.getElem_toArray, List.getElem_cons_zero, List.getElem_cons_succ] at q0 q1 r0 r1
  have hA := hide bA
  have hR := hide bR
  have hX := hide bX
  have hB := hide HB0
  clear bA bR bX HB0
  have hO1 := hide O1
  clear O1
  go_wp2_with fail
  refine bodyPost_ret (v := .agg #[.int .i64 x.id, .slice a1z x.vec.length d1z]) (by simp [results, Try.results39, go_sem, r0, r1]) rfl ?_
  have E : Ext (fun q => q = w.heap.size + 2 ∨ q = w.heap.size + 1) w1 _ := ext_setL (ext_setL (Ext.refl _ _) (w.heap.size + 2) [(1, .slice a1z x.vec.length d1z)] (Or.inl rfl)) (w.heap.size + 1) [(0, .int .i64 x.id), (1, .slice a1z x.vec.length d1z)] (Or.inr rfl)
  obtain f0 := unhide HF
  have own : Lay.tItem.OwnIn _ [.int .i64 x.id, .slice a1z x.vec.length d1z] x w.heap.size w1.heap.size := (Lay.ownIn_pair (Lay.ownIn_int (lo := w.heap.size) (hi := w.heap.size) f0) ((unhide hO1).ext E (fun k h1 h2 h3 => by omega)) (by omega) (by omega) (by omega))
  have hsz := E.size
  have told := Lay.toldOwn (w := w) own (by omega) (by omega) ((unhide hB).trans (E.below (unhide hB).size (fun k h1 h2 => by omega)))
  exact told

end Go.Proofs.Yteekfapjfpkidaa
