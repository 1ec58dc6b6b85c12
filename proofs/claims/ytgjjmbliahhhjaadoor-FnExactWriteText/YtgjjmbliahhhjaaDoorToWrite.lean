/-
  toWrite of laws/exact.go: a copy is new memory.
  Condition: its lists are together at most 1048576 long.
-/
import Derived.Test.YtgjjmbliahhhjaaDoorChecked
import Derived.Test.YtgjjmbliahhhjaaDoorLayRow
import Derived.Test.YtgjjmbliahhhjaaDoorLayWrite
import Derived.Test.YtgjjmbliahhhjaaDoorSzWrite
import Derived.Test.YtgjjmbliahhhjaaDoorLayInt
namespace Go.Proofs.YtgjjmbliahhhjaaDoor
open Go.RowKit

set_option maxRecDepth 10000 in
set_option maxHeartbeats 2000000 in
theorem to_Write (cs : List Value) (x : DWrite) (w : World) (h : Lay.tWrite.Reads w cs x) (hn : Lay.tWrite.sz x ≤ 1048576) :
    Calls Tryd.prog 7 #[.agg cs.toArray] w fun e w' => ∃ cs', e = .returned (.agg cs'.toArray) ∧ Lay.tWrite.OwnIn w' cs' x w.heap.size w'.heap.size ∧ Below w.heap.size w w' := by
  have h0 := h
  obtain ⟨bl, hl⟩ := h0
  obtain ⟨-, -, -, -, -, f0, f1, -, f3, f4⟩ := lies_Write.1 hl
  clear hl
  obtain ⟨a2, d2, rfl, R2⟩ := open_Write h
  clear h
  rw [szsum_Write] at hn
  have HF := hide (And.intro f0 (And.intro f1 (And.intro f3 (f4))))
  clear f0 f1 f3 f4
  have HB0 : Below w.heap.size w (((w.alloc (.cells #[.int .i64 x.kind, .int .i64 x.id, .slice a2 x.vec.length d2, .int .i64 x.session, .int .i64 x.seq] 24)).alloc (.cells #[.int .i64 0, .int .i64 0, .slice none 0 0, .int .i64 0, .int .i64 0] 29)).alloc (.cells #[.int .i64 x.kind, .int .i64 x.id, .slice none 0 0, .int .i64 0, .int .i64 0] 29)) := (((Below.refl _ _).alloc (Nat.le_refl _) _).alloc (by simp) _).alloc (by simp; omega) _
  have bA : Box w.heap.size #[.int .i64 x.kind, .int .i64 x.id, .slice a2 x.vec.length d2, .int .i64 x.session, .int .i64 x.seq] 24 (((w.alloc (.cells #[.int .i64 x.kind, .int .i64 x.id, .slice a2 x.vec.length d2, .int .i64 x.session, .int .i64 x.seq] 24)).alloc (.cells #[.int .i64 0, .int .i64 0, .slice none 0 0, .int .i64 0, .int .i64 0] 29)).alloc (.cells #[.int .i64 x.kind, .int .i64 x.id, .slice none 0 0, .int .i64 0, .int .i64 0] 29)) w.heap.size := ((newBox (Nat.le_refl _)).grow _).grow _
  have bR : Box w.heap.size #[.int .i64 0, .int .i64 0, .slice none 0 0, .int .i64 0, .int .i64 0] 29 (((w.alloc (.cells #[.int .i64 x.kind, .int .i64 x.id, .slice a2 x.vec.length d2, .int .i64 x.session, .int .i64 x.seq] 24)).alloc (.cells #[.int .i64 0, .int .i64 0, .slice none 0 0, .int .i64 0, .int .i64 0] 29)).alloc (.cells #[.int .i64 x.kind, .int .i64 x.id, .slice none 0 0, .int .i64 0, .int .i64 0] 29)) (w.heap.size + 1) := (newBoxAt (by omega) (by simp)).grow _
  have bX : Box w.heap.size #[.int .i64 x.kind, .int .i64 x.id, .slice none 0 0, .int .i64 0, .int .i64 0] 29 (((w.alloc (.cells #[.int .i64 x.kind, .int .i64 x.id, .slice a2 x.vec.length d2, .int .i64 x.session, .int .i64 x.seq] 24)).alloc (.cells #[.int .i64 0, .int .i64 0, .slice none 0 0, .int .i64 0, .int .i64 0] 29)).alloc (.cells #[.int .i64 x.kind, .int .i64 x.id, .slice none 0 0, .int .i64 0, .int .i64 0] 29)) (w.heap.size + 2) := newBoxAt (by omega) (by simp)
  have hz0 : w.heap.size + 3 ≤ (((w.alloc (.cells #[.int .i64 x.kind, .int .i64 x.id, .slice a2 x.vec.length d2, .int .i64 x.session, .int .i64 x.seq] 24)).alloc (.cells #[.int .i64 0, .int .i64 0, .slice none 0 0, .int .i64 0, .int .i64 0] 29)).alloc (.cells #[.int .i64 x.kind, .int .i64 x.id, .slice none 0 0, .int .i64 0, .int .i64 0] 29)).heap.size := by simp
  go_enter Tryd.func7, Tryd.ntmps7
  go_wp2_with fail
  generalize ((w.alloc (.cells #[.int .i64 x.kind, .int .i64 x.id, .slice a2 x.vec.length d2, .int .i64 x.session, .int .i64 x.seq] 24)).alloc (.cells #[.int .i64 0, .int .i64 0, .slice none 0 0, .int .i64 0, .int .i64 0] 29)).alloc (.cells #[.int .i64 x.kind, .int .i64 x.id, .slice none 0 0, .int .i64 0, .int .i64 0] 29) = W0 at *
  replace R2 := R2.later HB0
  refine (to_Int64S _ x.vec W0 R2 (by omega)).mono ?_
  rintro e w1 ⟨v2, rfl, O2, hb⟩
  have Z0 : W0.heap.size ≤ w1.heap.size := hb.size
  replace HB0 := HB0.trans (hb.mono HB0.size)
  replace bA := bA.keep hb
  replace bR := bR.keep hb
  replace bX := bX.keep hb
  clear hb R2
  obtain ⟨a2z, d2z, rfl⟩ := open_sl O2.reads
  have p3 := bA.at 3 _ rfl
  have p4 := bA.at 4 _ rfl
  have q0 := bX.at 0 _ rfl
  have q1 := bX.at 1 _ rfl
  have q2 := bX.at 2 _ rfl
  have q3 := bX.at 3 _ rfl
  have q4 := bX.at 4 _ rfl
  have qf := bX.soft
  have ql := bX.lt
  have pl := bA.lt
  have r0 := bR.at 0 _ rfl
  have r1 := bR.at 1 _ rfl
  have r2 := bR.at 2 _ rfl
  have r3 := bR.at 3 _ rfl
  have r4 := bR.at 4 _ rfl
  have rf := bR.soft
  have rl := bR.lt
  simp only [List.getElem_toArray, List.getElem_cons_zero, List.getElem_cons_succ] at p3 p4 q0 q1 q2 q3 q4 r0 r1 r2 r3 r4
  have hA := hide bA
  have hR := hide bR
  have hX := hide bX
  have hB := hide HB0
  clear bA bR bX HB0
  have hO2 := hide O2
  clear O2
  go_wp2_with fail
  refine bodyPost_ret (v := .agg #[.int .i64 x.kind, .int .i64 x.id, .slice a2z x.vec.length d2z, .int .i64 x.session, .int .i64 x.seq]) (by simp [results, Tryd.results7, go_sem, r0, r1, r2, r3, r4]) rfl ?_
  have E : Ext (fun q => q = w.heap.size + 2 ∨ q = w.heap.size + 1) w1 _ := ext_setL (ext_setL (Ext.refl _ _) (w.heap.size + 2) [(2, .slice a2z x.vec.length d2z), (3, .int .i64 x.session), (4, .int .i64 x.seq)] (Or.inl rfl)) (w.heap.size + 1) [(0, .int .i64 x.kind), (1, .int .i64 x.id), (2, .slice a2z x.vec.length d2z), (3, .int .i64 x.session), (4, .int .i64 x.seq)] (Or.inr rfl)
  obtain ⟨f0, f1, f3, f4⟩ := unhide HF
  have own : Lay.tWrite.OwnIn _ [.int .i64 x.kind, .int .i64 x.id, .slice a2z x.vec.length d2z, .int .i64 x.session, .int .i64 x.seq] x w.heap.size w1.heap.size := (Lay.ownIn_pair (Lay.ownIn_int (lo := w.heap.size) (hi := w.heap.size) f0) (Lay.ownIn_pair (Lay.ownIn_int (lo := w.heap.size) (hi := w.heap.size) f1) (Lay.ownIn_pair ((unhide hO2).ext E (fun k h1 h2 h3 => by omega)) (Lay.ownIn_pair (Lay.ownIn_int (lo := w1.heap.size) (hi := w1.heap.size) f3) (Lay.ownIn_int (lo := w1.heap.size) (hi := w1.heap.size) f4) (by omega) (by omega) (by omega)) (by omega) (by omega) (by omega)) (by omega) (by omega) (by omega)) (by omega) (by omega) (by omega))
  have hsz := E.size
  have told := Lay.toldOwn (w := w) own (by omega) (by omega) ((unhide hB).trans (E.below (unhide hB).size (fun k h1 h2 => by omega)))
  exact told

end Go.Proofs.YtgjjmbliahhhjaaDoor
