/-
  Texts of this proof in one: ToEntry, ToEntryS, ToWorld, EqChain, EqWrite, EqWriteS, EqNode, EqNodeS, EqMsg, EqMsgS, EqHit, EqHitS, EqEntry, EqEntryS.
  Their conditions stand in their theorems.
-/
import Derived.Test.YtoanimpijfijgaaGreatChecked
import Derived.Test.YtoanimpijfijgaaGreatFi01
import Derived.Test.YtoanimpijfijgaaGreatFi02
import Derived.Test.YtoanimpijfijgaaGreatFi00
import Derived.WalkKit
import Derived.Deep.RegionHeld3
set_option maxRecDepth 100000
set_option maxHeartbeats 4000000
namespace Go.Proofs.YtoanimpijfijgaaGreat
open Go.RowKit
theorem to_Entry (cs : List Value) (x : DEntry) (w : World) (h : Lay.tEntry.Reads w cs x) (hn : Lay.tEntry.sz x ≤ 1048576) :
  Calls Tryz.prog 135 #[.agg cs.toArray] w fun e w' => ∃ cs', e = .returned (.agg cs'.toArray) ∧ Lay.tEntry.OwnIn w' cs' x w.heap.size w'.heap.size ∧ Below w.heap.size w w' := by
 have h0 := h
 obtain ⟨bl, hl⟩ := h0
 obtain ⟨-, -, -, -, -, -, -, -, -, -, -, f0, f1, f2, f3, -, f5, f6, f7, f8, -, -⟩ := lies_Entry.1 hl
 clear hl
 obtain ⟨a4, d4, a9, d9, a10, d10, rfl, R4, R9, R10⟩ := open_Entry h
 clear h
 rw [szsum_Entry] at hn
 have HF := yh (And.intro f0 (And.intro f1 (And.intro f2 (And.intro f3 (And.intro f5 (And.intro f6 (And.intro f7 (f8))))))))
 clear f0 f1 f2 f3 f5 f6 f7 f8
 have HB0 : Below w.heap.size w (((w.alloc (.cells #[.int .i64 x.kind, .int .i64 x.session, .int .i64 x.seq, .int .i64 x.id, .slice a4 x.query.length d4, .int .i64 x.k, .int .i64 x.start, .int .i64 x.fin, .int .i64 x.place, .slice a9 x.vec.length d9, .slice a10 x.hits.length d10] 156)).alloc (.cells #[.int .i64 0, .int .i64 0, .int .i64 0, .int .i64 0, .slice none 0 0, .int .i64 0, .int .i64 0, .int .i64 0, .int .i64 0, .slice none 0 0, .slice none 0 0] 127)).alloc (.cells #[.int .i64 x.kind, .int .i64 x.session, .int .i64 x.seq, .int .i64 x.id, .slice none 0 0, .int .i64 0, .int .i64 0, .int .i64 0, .int .i64 0, .slice none 0 0, .slice none 0 0] 127)) := (((Below.refl _ _).alloc (Nat.le_refl _) _).alloc (by simp) _).alloc (by simp; omega) _
 have bA : Box w.heap.size #[.int .i64 x.kind, .int .i64 x.session, .int .i64 x.seq, .int .i64 x.id, .slice a4 x.query.length d4, .int .i64 x.k, .int .i64 x.start, .int .i64 x.fin, .int .i64 x.place, .slice a9 x.vec.length d9, .slice a10 x.hits.length d10] 156 (((w.alloc (.cells #[.int .i64 x.kind, .int .i64 x.session, .int .i64 x.seq, .int .i64 x.id, .slice a4 x.query.length d4, .int .i64 x.k, .int .i64 x.start, .int .i64 x.fin, .int .i64 x.place, .slice a9 x.vec.length d9, .slice a10 x.hits.length d10] 156)).alloc (.cells #[.int .i64 0, .int .i64 0, .int .i64 0, .int .i64 0, .slice none 0 0, .int .i64 0, .int .i64 0, .int .i64 0, .int .i64 0, .slice none 0 0, .slice none 0 0] 127)).alloc (.cells #[.int .i64 x.kind, .int .i64 x.session, .int .i64 x.seq, .int .i64 x.id, .slice none 0 0, .int .i64 0, .int .i64 0, .int .i64 0, .int .i64 0, .slice none 0 0, .slice none 0 0] 127)) w.heap.size := ((newBox (Nat.le_refl _)).grow _).grow _
 have bR : Box w.heap.size #[.int .i64 0, .int .i64 0, .int .i64 0, .int .i64 0, .slice none 0 0, .int .i64 0, .int .i64 0, .int .i64 0, .int .i64 0, .slice none 0 0, .slice none 0 0] 127 (((w.alloc (.cells #[.int .i64 x.kind, .int .i64 x.session, .int .i64 x.seq, .int .i64 x.id, .slice a4 x.query.length d4, .int .i64 x.k, .int .i64 x.start, .int .i64 x.fin, .int .i64 x.place, .slice a9 x.vec.length d9, .slice a10 x.hits.length d10] 156)).alloc (.cells #[.int .i64 0, .int .i64 0, .int .i64 0, .int .i64 0, .slice none 0 0, .int .i64 0, .int .i64 0, .int .i64 0, .int .i64 0, .slice none 0 0, .slice none 0 0] 127)).alloc (.cells #[.int .i64 x.kind, .int .i64 x.session, .int .i64 x.seq, .int .i64 x.id, .slice none 0 0, .int .i64 0, .int .i64 0, .int .i64 0, .int .i64 0, .slice none 0 0, .slice none 0 0] 127)) (w.heap.size + 1) := (newBoxAt (by omega) (by simp)).grow _
 have bX : Box w.heap.size #[.int .i64 x.kind, .int .i64 x.session, .int .i64 x.seq, .int .i64 x.id, .slice none 0 0, .int .i64 0, .int .i64 0, .int .i64 0, .int .i64 0, .slice none 0 0, .slice none 0 0] 127 (((w.alloc (.cells #[.int .i64 x.kind, .int .i64 x.session, .int .i64 x.seq, .int .i64 x.id, .slice a4 x.query.length d4, .int .i64 x.k, .int .i64 x.start, .int .i64 x.fin, .int .i64 x.place, .slice a9 x.vec.length d9, .slice a10 x.hits.length d10] 156)).alloc (.cells #[.int .i64 0, .int .i64 0, .int .i64 0, .int .i64 0, .slice none 0 0, .int .i64 0, .int .i64 0, .int .i64 0, .int .i64 0, .slice none 0 0, .slice none 0 0] 127)).alloc (.cells #[.int .i64 x.kind, .int .i64 x.session, .int .i64 x.seq, .int .i64 x.id, .slice none 0 0, .int .i64 0, .int .i64 0, .int .i64 0, .int .i64 0, .slice none 0 0, .slice none 0 0] 127)) (w.heap.size + 2) := newBoxAt (by omega) (by simp)
 have hz0 : w.heap.size + 3 ≤ (((w.alloc (.cells #[.int .i64 x.kind, .int .i64 x.session, .int .i64 x.seq, .int .i64 x.id, .slice a4 x.query.length d4, .int .i64 x.k, .int .i64 x.start, .int .i64 x.fin, .int .i64 x.place, .slice a9 x.vec.length d9, .slice a10 x.hits.length d10] 156)).alloc (.cells #[.int .i64 0, .int .i64 0, .int .i64 0, .int .i64 0, .slice none 0 0, .int .i64 0, .int .i64 0, .int .i64 0, .int .i64 0, .slice none 0 0, .slice none 0 0] 127)).alloc (.cells #[.int .i64 x.kind, .int .i64 x.session, .int .i64 x.seq, .int .i64 x.id, .slice none 0 0, .int .i64 0, .int .i64 0, .int .i64 0, .int .i64 0, .slice none 0 0, .slice none 0 0] 127)).heap.size := by simp
 go_enter Tryz.func135, Tryz.ntmps135
 go_wp2_with fail
 generalize ((w.alloc (.cells #[.int .i64 x.kind, .int .i64 x.session, .int .i64 x.seq, .int .i64 x.id, .slice a4 x.query.length d4, .int .i64 x.k, .int .i64 x.start, .int .i64 x.fin, .int .i64 x.place, .slice a9 x.vec.length d9, .slice a10 x.hits.length d10] 156)).alloc (.cells #[.int .i64 0, .int .i64 0, .int .i64 0, .int .i64 0, .slice none 0 0, .int .i64 0, .int .i64 0, .int .i64 0, .int .i64 0, .slice none 0 0, .slice none 0 0] 127)).alloc (.cells #[.int .i64 x.kind, .int .i64 x.session, .int .i64 x.seq, .int .i64 x.id, .slice none 0 0, .int .i64 0, .int .i64 0, .int .i64 0, .int .i64 0, .slice none 0 0, .slice none 0 0] 127) = W0 at *
 replace R4 := R4.liesIn.later HB0
 replace R9 := R9.liesIn.later HB0
 replace R10 := R10.liesIn.later HB0
 refine (to_Int64S _ x.query W0 R4.reads (by omega)).mono ?_
 rintro e w1 ⟨v4, rfl, O4, hb⟩
 have Z0 : W0.heap.size ≤ w1.heap.size := hb.size
 replace HB0 := HB0.trans (hb.mono HB0.size)
 replace bA := bA.keep hb
 replace bR := bR.keep hb
 replace bX := bX.keep hb
 replace R9 := R9.later hb
 replace R10 := R10.later hb
 clear hb R4
 obtain ⟨a4z, d4z, rfl⟩ := open_sl O4.reads
 have p5 := bA.at 5 _ rfl
 have p6 := bA.at 6 _ rfl
 have p7 := bA.at 7 _ rfl
 have p8 := bA.at 8 _ rfl
 have p9 := bA.at 9 _ rfl
 have q4 := bX.at 4 _ rfl
 have q5 := bX.at 5 _ rfl
 have q6 := bX.at 6 _ rfl
 have q7 := bX.at 7 _ rfl
 have q8 := bX.at 8 _ rfl
 have qf := bX.soft
 have ql := bX.lt
 have pl := bA.lt
 simp only [ga, gb, gc] at p5 p6 p7 p8 p9 q4 q5 q6 q7 q8
 have hA := yh bA
 have hR := yh bR
 have hX := yh bX
 have hB := yh HB0
 clear bA bR bX HB0
 have hO4 := yh O4
 clear O4
 have hR9 := yh R9
 clear R9
 have hR10 := yh R10
 clear R10
 go_wp2_with fail
 clear p5 p6 p7 p8 p9 q4 q5 q6 q7 q8 qf ql pl
 have E : Ext (fun q => q = w.heap.size + 2) w1 (((((w1.setCell ⟨w.heap.size + 2, 4, none⟩ (.slice a4z x.query.length d4z)).setCell ⟨w.heap.size + 2, 5, none⟩ (.int .i64 x.k)).setCell ⟨w.heap.size + 2, 6, none⟩ (.int .i64 x.start)).setCell ⟨w.heap.size + 2, 7, none⟩ (.int .i64 x.fin)).setCell ⟨w.heap.size + 2, 8, none⟩ (.int .i64 x.place)) := ext_setL (Ext.refl _ _) (w.heap.size + 2) [(4, .slice a4z x.query.length d4z), (5, .int .i64 x.k), (6, .int .i64 x.start), (7, .int .i64 x.fin), (8, .int .i64 x.place)] rfl
 have bX : Box w.heap.size #[.int .i64 x.kind, .int .i64 x.session, .int .i64 x.seq, .int .i64 x.id, .slice a4z x.query.length d4z, .int .i64 x.k, .int .i64 x.start, .int .i64 x.fin, .int .i64 x.place, .slice none 0 0, .slice none 0 0] 127 (((((w1.setCell ⟨w.heap.size + 2, 4, none⟩ (.slice a4z x.query.length d4z)).setCell ⟨w.heap.size + 2, 5, none⟩ (.int .i64 x.k)).setCell ⟨w.heap.size + 2, 6, none⟩ (.int .i64 x.start)).setCell ⟨w.heap.size + 2, 7, none⟩ (.int .i64 x.fin)).setCell ⟨w.heap.size + 2, 8, none⟩ (.int .i64 x.place)) (w.heap.size + 2) := ((((((uh hX).set 4 (.slice a4z x.query.length d4z)).set 5 (.int .i64 x.k)).set 6 (.int .i64 x.start)).set 7 (.int .i64 x.fin)).set 8 (.int .i64 x.place))
 have bA := (uh hA).ext E (by omega)
 have bR := (uh hR).ext E (by omega)
 have HB0 : Below w.heap.size w (((((w1.setCell ⟨w.heap.size + 2, 4, none⟩ (.slice a4z x.query.length d4z)).setCell ⟨w.heap.size + 2, 5, none⟩ (.int .i64 x.k)).setCell ⟨w.heap.size + 2, 6, none⟩ (.int .i64 x.start)).setCell ⟨w.heap.size + 2, 7, none⟩ (.int .i64 x.fin)).setCell ⟨w.heap.size + 2, 8, none⟩ (.int .i64 x.place)) := (uh hB).trans (E.below (uh hB).size (fun k h1 h2 => by omega))
 have O4 := (uh hO4).ext E (fun k h1 h2 h3 => by omega)
 have R9 := (uh hR9).ext E (fun k h1 h2 h3 => by omega)
 have R10 := (uh hR10).ext E (fun k h1 h2 h3 => by omega)
 have Y0 : w1.heap.size ≤ (((((w1.setCell ⟨w.heap.size + 2, 4, none⟩ (.slice a4z x.query.length d4z)).setCell ⟨w.heap.size + 2, 5, none⟩ (.int .i64 x.k)).setCell ⟨w.heap.size + 2, 6, none⟩ (.int .i64 x.start)).setCell ⟨w.heap.size + 2, 7, none⟩ (.int .i64 x.fin)).setCell ⟨w.heap.size + 2, 8, none⟩ (.int .i64 x.place)).heap.size := E.size
 clear hA hR hX hB hO4 hR9 hR10 E
 generalize (((((w1.setCell ⟨w.heap.size + 2, 4, none⟩ (.slice a4z x.query.length d4z)).setCell ⟨w.heap.size + 2, 5, none⟩ (.int .i64 x.k)).setCell ⟨w.heap.size + 2, 6, none⟩ (.int .i64 x.start)).setCell ⟨w.heap.size + 2, 7, none⟩ (.int .i64 x.fin)).setCell ⟨w.heap.size + 2, 8, none⟩ (.int .i64 x.place)) = W1 at *
 refine (to_Int64S _ x.vec W1 R9.reads (by omega)).mono ?_
 rintro e w2 ⟨v9, rfl, O9, hb⟩
 have Z1 : W1.heap.size ≤ w2.heap.size := hb.size
 replace HB0 := HB0.trans (hb.mono HB0.size)
 replace bA := bA.keep hb
 replace bR := bR.keep hb
 replace bX := bX.keep hb
 replace R10 := R10.later hb
 replace O4 := O4.later hb
 clear hb R9
 obtain ⟨a9z, d9z, rfl⟩ := open_sl O9.reads
 have p10 := bA.at 10 _ rfl
 have q9 := bX.at 9 _ rfl
 have qf := bX.soft
 have ql := bX.lt
 have pl := bA.lt
 simp only [ga, gb, gc] at p10 q9
 have hA := yh bA
 have hR := yh bR
 have hX := yh bX
 have hB := yh HB0
 clear bA bR bX HB0
 have hO4 := yh O4
 clear O4
 have hO9 := yh O9
 clear O9
 have hR10 := yh R10
 clear R10
 go_wp2_with fail
 clear p10 q9 qf ql pl
 have E : Ext (fun q => q = w.heap.size + 2) w2 (w2.setCell ⟨w.heap.size + 2, 9, none⟩ (.slice a9z x.vec.length d9z)) := ext_setL (Ext.refl _ _) (w.heap.size + 2) [(9, .slice a9z x.vec.length d9z)] rfl
 have bX : Box w.heap.size #[.int .i64 x.kind, .int .i64 x.session, .int .i64 x.seq, .int .i64 x.id, .slice a4z x.query.length d4z, .int .i64 x.k, .int .i64 x.start, .int .i64 x.fin, .int .i64 x.place, .slice a9z x.vec.length d9z, .slice none 0 0] 127 (w2.setCell ⟨w.heap.size + 2, 9, none⟩ (.slice a9z x.vec.length d9z)) (w.heap.size + 2) := (uh hX).set 9 (.slice a9z x.vec.length d9z)
 have bA := (uh hA).ext E (by omega)
 have bR := (uh hR).ext E (by omega)
 have HB0 : Below w.heap.size w (w2.setCell ⟨w.heap.size + 2, 9, none⟩ (.slice a9z x.vec.length d9z)) := (uh hB).trans (E.below (uh hB).size (fun k h1 h2 => by omega))
 have O4 := (uh hO4).ext E (fun k h1 h2 h3 => by omega)
 have O9 := (uh hO9).ext E (fun k h1 h2 h3 => by omega)
 have R10 := (uh hR10).ext E (fun k h1 h2 h3 => by omega)
 have Y1 : w2.heap.size ≤ (w2.setCell ⟨w.heap.size + 2, 9, none⟩ (.slice a9z x.vec.length d9z)).heap.size := E.size
 clear hA hR hX hB hO4 hO9 hR10 E
 generalize (w2.setCell ⟨w.heap.size + 2, 9, none⟩ (.slice a9z x.vec.length d9z)) = W2 at *
 refine (to_HitS _ x.hits W2 R10.reads (by omega)).mono ?_
 rintro e w3 ⟨v10, rfl, O10, hb⟩
 have Z2 : W2.heap.size ≤ w3.heap.size := hb.size
 replace HB0 := HB0.trans (hb.mono HB0.size)
 replace bA := bA.keep hb
 replace bR := bR.keep hb
 replace bX := bX.keep hb
 replace O4 := O4.later hb
 replace O9 := O9.later hb
 clear hb R10
 obtain ⟨a10z, d10z, rfl⟩ := open_sl O10.reads
 have q0 := bX.at 0 _ rfl
 have q1 := bX.at 1 _ rfl
 have q2 := bX.at 2 _ rfl
 have q3 := bX.at 3 _ rfl
 have q4 := bX.at 4 _ rfl
 have q5 := bX.at 5 _ rfl
 have q6 := bX.at 6 _ rfl
 have q7 := bX.at 7 _ rfl
 have q8 := bX.at 8 _ rfl
 have q9 := bX.at 9 _ rfl
 have q10 := bX.at 10 _ rfl
 have qf := bX.soft
 have ql := bX.lt
 have pl := bA.lt
 have r0 := bR.at 0 _ rfl
 have r1 := bR.at 1 _ rfl
 have r2 := bR.at 2 _ rfl
 have r3 := bR.at 3 _ rfl
 have r4 := bR.at 4 _ rfl
 have r5 := bR.at 5 _ rfl
 have r6 := bR.at 6 _ rfl
 have r7 := bR.at 7 _ rfl
 have r8 := bR.at 8 _ rfl
 have r9 := bR.at 9 _ rfl
 have r10 := bR.at 10 _ rfl
 have rf := bR.soft
 have rl := bR.lt
 simp only [ga, gb, gc] at q0 q1 q2 q3 q4 q5 q6 q7 q8 q9 q10 r0 r1 r2 r3 r4 r5 r6 r7 r8 r9 r10
 have hA := yh bA
 have hR := yh bR
 have hX := yh bX
 have hB := yh HB0
 clear bA bR bX HB0
 have hO4 := yh O4
 clear O4
 have hO9 := yh O9
 clear O9
 have hO10 := yh O10
 clear O10
 go_wp2_with fail
 refine bodyPost_ret (v := .agg #[.int .i64 x.kind, .int .i64 x.session, .int .i64 x.seq, .int .i64 x.id, .slice a4z x.query.length d4z, .int .i64 x.k, .int .i64 x.start, .int .i64 x.fin, .int .i64 x.place, .slice a9z x.vec.length d9z, .slice a10z x.hits.length d10z]) (by simp [results, Tryz.results135, go_sem, r0, r1, r2, r3, r4, r5, r6, r7, r8, r9, r10]) rfl ?_
 have E : Ext (fun q => q = w.heap.size + 2 ∨ q = w.heap.size + 1) w3 _ := ext_setL (ext_setL (Ext.refl _ _) (w.heap.size + 2) [(10, .slice a10z x.hits.length d10z)] (Or.inl rfl)) (w.heap.size + 1) [(0, .int .i64 x.kind), (1, .int .i64 x.session), (2, .int .i64 x.seq), (3, .int .i64 x.id), (4, .slice a4z x.query.length d4z), (5, .int .i64 x.k), (6, .int .i64 x.start), (7, .int .i64 x.fin), (8, .int .i64 x.place), (9, .slice a9z x.vec.length d9z), (10, .slice a10z x.hits.length d10z)] (Or.inr rfl)
 obtain ⟨f0, f1, f2, f3, f5, f6, f7, f8⟩ := uh HF
 have own : Lay.tEntry.OwnIn _ [.int .i64 x.kind, .int .i64 x.session, .int .i64 x.seq, .int .i64 x.id, .slice a4z x.query.length d4z, .int .i64 x.k, .int .i64 x.start, .int .i64 x.fin, .int .i64 x.place, .slice a9z x.vec.length d9z, .slice a10z x.hits.length d10z] x w.heap.size w3.heap.size := (Lay.ownIn_pair (Lay.ownIn_int (lo := w.heap.size) (hi := w.heap.size) f0) (Lay.ownIn_pair (Lay.ownIn_int (lo := w.heap.size) (hi := w.heap.size) f1) (Lay.ownIn_pair (Lay.ownIn_int (lo := w.heap.size) (hi := w.heap.size) f2) (Lay.ownIn_pair (Lay.ownIn_int (lo := w.heap.size) (hi := w.heap.size) f3) (Lay.ownIn_pair ((uh hO4).ext E (fun k h1 h2 h3 => by omega)) (Lay.ownIn_pair (Lay.ownIn_int (lo := w1.heap.size) (hi := w1.heap.size) f5) (Lay.ownIn_pair (Lay.ownIn_int (lo := w1.heap.size) (hi := w1.heap.size) f6) (Lay.ownIn_pair (Lay.ownIn_int (lo := w1.heap.size) (hi := w1.heap.size) f7) (Lay.ownIn_pair (Lay.ownIn_int (lo := w1.heap.size) (hi := w1.heap.size) f8) (Lay.ownIn_pair ((uh hO9).ext E (fun k h1 h2 h3 => by omega)) ((uh hO10).ext E (fun k h1 h2 h3 => by omega)) (by omega) (by omega) (by omega)) (by omega) (by omega) (by omega)) (by omega) (by omega) (by omega)) (by omega) (by omega) (by omega)) (by omega) (by omega) (by omega)) (by omega) (by omega) (by omega)) (by omega) (by omega) (by omega)) (by omega) (by omega) (by omega)) (by omega) (by omega) (by omega)) (by omega) (by omega) (by omega))
 have hsz := E.size
 have told := Lay.toldOwn (w := w) own (by omega) (by omega) ((uh hB).trans (E.below (uh hB).size (fun k h1 h2 => by omega)))
 exact told
theorem infoEntry : (Tryz.prog.info? 127).map (fun i => (i.zero, i.size, decide (i.bytes ≤ 1000))) = some (some (.agg #[.int .i64 0, .int .i64 0, .int .i64 0, .int .i64 0, .slice none 0 0, .int .i64 0, .int .i64 0, .int .i64 0, .int .i64 0, .slice none 0 0, .slice none 0 0]), 11, true) := by kernel_rfl
theorem to_EntryS (v : Value) (xs : List DEntry) (w : World) (h : (Lay.sl Lay.tEntry).Reads w [v] xs) (hn : (Lay.sl Lay.tEntry).sz xs ≤ 1048576) :
  Calls Tryz.prog 69 #[v] w fun e w' => ∃ v', e = .returned v' ∧ (Lay.sl Lay.tEntry).OwnIn w' [v'] xs w.heap.size w'.heap.size ∧ Below w.heap.size w w' := by
 have hbig := h.big
 obtain ⟨ao, cap, rfl⟩ := open_sl h
 have hlen : xs.length ≤ 1048576 := Nat.le_trans Lay.sz_len hn
 obtain ⟨i0, hi, hz0, hz1, hz2⟩ : ∃ i, Tryz.prog.info? 127 = some i ∧ i.zero = some (.agg #[.int .i64 0, .int .i64 0, .int .i64 0, .int .i64 0, .slice none 0 0, .int .i64 0, .int .i64 0, .int .i64 0, .int .i64 0, .slice none 0 0, .slice none 0 0]) ∧ i.size = 11 ∧ i.bytes ≤ 1000 := by
  have := infoEntry
  cases hq : Tryz.prog.info? 127 with
  | none => rw [hq] at this; simp at this
  | some i =>
   rw [hq] at this
   simp only [Option.map_some, Option.some.injEq, Prod.mk.injEq, decide_eq_true_eq] at this
   exact ⟨i, rfl, this.1, this.2.1, this.2.2⟩
 have H := yh h
 have HN := yh hn
 clear h hn
 go_enter Tryz.func69, Tryz.ntmps69
 go_wp2_with (at_make; refine wpList_make_full _ rfl _ _ 34 rfl w.heap.size 127 i0 _ 11 Tryz.underlying34 hi hz0 hz1 _ _ _ _ xs.length rfl rfl rfl rfl ?c1 ?c2 ?c3 ?_)
 case c1 => have := Nat.mul_le_mul hz2 hlen; omega
 case c2 => unfold maxLen; omega
 case c3 => exact Nat.le_refl _
 intro w1 hown1 hgrow1
 have hB1 : Below w.heap.size w w1 := (Below.refl _ _).grown hgrow1 (Nat.le_refl _) (by simp)
 clear hgrow1 hi hz0 hz1 hz2
 have HO1 := yh hown1
 have HB1 := yh hB1
 clear hown1 hB1
 go_wp2_with fail
 go_loopw [4] (fun i wr => ∃ (k : Nat) (rows : List (List Value)) (Q : List Value) (hi : Nat), k ≤ xs.length ∧ i = .int .i64 k ∧ wr.ownsRow w.heap.size 127 11 (.slice (some ⟨w.heap.size, 0, none⟩) xs.length xs.length) xs.length (rows.flatten ++ Q) ∧ Q.length = (xs.length - k) * 11 ∧ Lay.Subs Lay.tEntry wr rows (xs.take k) (w.heap.size + 1) hi ∧ hi ≤ wr.heap.size ∧ w.heap.size < hi ∧ Below w.heap.size w wr) (fun i _ => xs.length - (intOf i).toNat)
 case atStart =>
  have hl := ((uh HO1).lt w.heap.size rfl).2
  exact ⟨0, [], _, w1.heap.size, Nat.zero_le _, rfl, by simpa using uh HO1, by have := (uh HO1).1; simpa using this, Lay.subs_nil, Nat.le_refl _, hl, uh HB1⟩
 case round =>
  obtain ⟨k, rows, Q, hi, hk, rfl, hown, hQ, hsub, hhi, hlo, hB⟩ := hrel
  clear HO1 HB1
  by_cases hlt : k < xs.length
  ·
   obtain ⟨b, off, rfl, hbl⟩ := Lay.sl_addr (uh H) (by omega)
   obtain ⟨row, hc, hr⟩ := Lay.row_at (uh H) hlt
   replace hr := hr.later hB
   have hr2 := hr
   obtain ⟨a4, d4, a9, d9, a10, d10, rfl, -, -, -⟩ := open_Entry hr2
   have c0 : wr.cell? ⟨b, off + k * 11, none⟩ = some (.int .i64 (xs[k]).kind) := (hB.cell (p := ⟨b, off + k * 11, none⟩) hbl).trans (hc 0 (by decide))
   have c1 : wr.cell? ⟨b, off + k * 11 + 1, none⟩ = some (.int .i64 (xs[k]).session) := (hB.cell (p := ⟨b, off + k * 11 + 1, none⟩) hbl).trans (hc 1 (by decide))
   have c2 : wr.cell? ⟨b, off + k * 11 + 2, none⟩ = some (.int .i64 (xs[k]).seq) := (hB.cell (p := ⟨b, off + k * 11 + 2, none⟩) hbl).trans (hc 2 (by decide))
   have c3 : wr.cell? ⟨b, off + k * 11 + 3, none⟩ = some (.int .i64 (xs[k]).id) := (hB.cell (p := ⟨b, off + k * 11 + 3, none⟩) hbl).trans (hc 3 (by decide))
   have c4 : wr.cell? ⟨b, off + k * 11 + 4, none⟩ = some (.slice a4 (xs[k]).query.length d4) := (hB.cell (p := ⟨b, off + k * 11 + 4, none⟩) hbl).trans (hc 4 (by decide))
   have c5 : wr.cell? ⟨b, off + k * 11 + 5, none⟩ = some (.int .i64 (xs[k]).k) := (hB.cell (p := ⟨b, off + k * 11 + 5, none⟩) hbl).trans (hc 5 (by decide))
   have c6 : wr.cell? ⟨b, off + k * 11 + 6, none⟩ = some (.int .i64 (xs[k]).start) := (hB.cell (p := ⟨b, off + k * 11 + 6, none⟩) hbl).trans (hc 6 (by decide))
   have c7 : wr.cell? ⟨b, off + k * 11 + 7, none⟩ = some (.int .i64 (xs[k]).fin) := (hB.cell (p := ⟨b, off + k * 11 + 7, none⟩) hbl).trans (hc 7 (by decide))
   have c8 : wr.cell? ⟨b, off + k * 11 + 8, none⟩ = some (.int .i64 (xs[k]).place) := (hB.cell (p := ⟨b, off + k * 11 + 8, none⟩) hbl).trans (hc 8 (by decide))
   have c9 : wr.cell? ⟨b, off + k * 11 + 9, none⟩ = some (.slice a9 (xs[k]).vec.length d9) := (hB.cell (p := ⟨b, off + k * 11 + 9, none⟩) hbl).trans (hc 9 (by decide))
   have c10 : wr.cell? ⟨b, off + k * 11 + 10, none⟩ = some (.slice a10 (xs[k]).hits.length d10) := (hB.cell (p := ⟨b, off + k * 11 + 10, none⟩) hbl).trans (hc 10 (by decide))
   have hrl : rows.flatten.length = k * 11 := by have := (Lay.subs_len hsub).1; rw [List.length_take, Nat.min_eq_left hk] at this; exact this
   have hsz := Nat.le_trans (Lay.sz_elem (A := Lay.tEntry) hlt) (uh HN)
   have HT : Hid (xs.take (k + 1) = xs.take k ++ [xs[k]]) := List.take_succ_eq_append_getElem hlt
   have HB := yh hB
   have HR := yh hr
   have HO := yh hown
   have HS := yh hsub
   have HQ := yh hQ
   clear hB hr hc hown hsub hQ
   generalize hxk : xs[k] = x at *
   clear hxk
   go_wp2_with fail
   refine (to_Entry _ x wr (uh HR) hsz).mono ?_
   rintro e w2 ⟨cs2, rfl, O, hb⟩
   have o2 := own_below (uh HO) hb
   replace HS := yh (Lay.subs_snoc (Lay.subs_ext (uh HS) (ext_of_below hb nowhere) (fun _ _ _ h => h)) O (by omega) (by omega) (Nat.le_trans hhi hb.size))
   have hb2 := (uh HB).trans (hb.mono (uh HB).size)
   have hz := hb.size
   have orr := O.reads
   obtain ⟨a4z, d4z, a9z, d9z, a10z, d10z, rfl, -, -, -⟩ := open_Entry orr
   clear hb HR HB HO O c0 c1 c2 c3 c4 c5 c6 c7 c8 c9 c10
   have hQ := uh HQ
   have hl5 : (rows.flatten ++ Q).length = xs.length * 11 := o2.1
   obtain ⟨u0, g0⟩ : ∃ u, w2.cell? ⟨w.heap.size, k * 11, none⟩ = some u := by
    rw [o2.cellAt (k * 11) (by omega)]
    exact ⟨_, List.getElem?_eq_getElem (by omega)⟩
   have t0 := o2.frozenAt (k * 11)
   obtain ⟨u1, g1⟩ : ∃ u, w2.cell? ⟨w.heap.size, k * 11 + 1, none⟩ = some u := by
    rw [o2.cellAt (k * 11 + 1) (by omega)]
    exact ⟨_, List.getElem?_eq_getElem (by omega)⟩
   have t1 := o2.frozenAt (k * 11 + 1)
   obtain ⟨u2, g2⟩ : ∃ u, w2.cell? ⟨w.heap.size, k * 11 + 2, none⟩ = some u := by
    rw [o2.cellAt (k * 11 + 2) (by omega)]
    exact ⟨_, List.getElem?_eq_getElem (by omega)⟩
   have t2 := o2.frozenAt (k * 11 + 2)
   obtain ⟨u3, g3⟩ : ∃ u, w2.cell? ⟨w.heap.size, k * 11 + 3, none⟩ = some u := by
    rw [o2.cellAt (k * 11 + 3) (by omega)]
    exact ⟨_, List.getElem?_eq_getElem (by omega)⟩
   have t3 := o2.frozenAt (k * 11 + 3)
   obtain ⟨u4, g4⟩ : ∃ u, w2.cell? ⟨w.heap.size, k * 11 + 4, none⟩ = some u := by
    rw [o2.cellAt (k * 11 + 4) (by omega)]
    exact ⟨_, List.getElem?_eq_getElem (by omega)⟩
   have t4 := o2.frozenAt (k * 11 + 4)
   obtain ⟨u5, g5⟩ : ∃ u, w2.cell? ⟨w.heap.size, k * 11 + 5, none⟩ = some u := by
    rw [o2.cellAt (k * 11 + 5) (by omega)]
    exact ⟨_, List.getElem?_eq_getElem (by omega)⟩
   have t5 := o2.frozenAt (k * 11 + 5)
   obtain ⟨u6, g6⟩ : ∃ u, w2.cell? ⟨w.heap.size, k * 11 + 6, none⟩ = some u := by
    rw [o2.cellAt (k * 11 + 6) (by omega)]
    exact ⟨_, List.getElem?_eq_getElem (by omega)⟩
   have t6 := o2.frozenAt (k * 11 + 6)
   obtain ⟨u7, g7⟩ : ∃ u, w2.cell? ⟨w.heap.size, k * 11 + 7, none⟩ = some u := by
    rw [o2.cellAt (k * 11 + 7) (by omega)]
    exact ⟨_, List.getElem?_eq_getElem (by omega)⟩
   have t7 := o2.frozenAt (k * 11 + 7)
   obtain ⟨u8, g8⟩ : ∃ u, w2.cell? ⟨w.heap.size, k * 11 + 8, none⟩ = some u := by
    rw [o2.cellAt (k * 11 + 8) (by omega)]
    exact ⟨_, List.getElem?_eq_getElem (by omega)⟩
   have t8 := o2.frozenAt (k * 11 + 8)
   obtain ⟨u9, g9⟩ : ∃ u, w2.cell? ⟨w.heap.size, k * 11 + 9, none⟩ = some u := by
    rw [o2.cellAt (k * 11 + 9) (by omega)]
    exact ⟨_, List.getElem?_eq_getElem (by omega)⟩
   have t9 := o2.frozenAt (k * 11 + 9)
   obtain ⟨u10, g10⟩ : ∃ u, w2.cell? ⟨w.heap.size, k * 11 + 10, none⟩ = some u := by
    rw [o2.cellAt (k * 11 + 10) (by omega)]
    exact ⟨_, List.getElem?_eq_getElem (by omega)⟩
   have t10 := o2.frozenAt (k * 11 + 10)
   have o3 := own_setAll o2 (k * 11) [.int .i64 x.kind, .int .i64 x.session, .int .i64 x.seq, .int .i64 x.id, .slice a4z x.query.length d4z, .int .i64 x.k, .int .i64 x.start, .int .i64 x.fin, .int .i64 x.place, .slice a9z x.vec.length d9z, .slice a10z x.hits.length d10z]
   rw [show k * 11 = rows.flatten.length from hrl.symm, setFrom_app _ _ _ (by rw [hQ]; simp; have : 1 * 11 ≤ (xs.length - k) * 11 := Nat.mul_le_mul_right _ (by omega); omega), hrl] at o3
   have E : Ext (fun q => q = w.heap.size) w2 (setAll w2 w.heap.size (k * 11) [.int .i64 x.kind, .int .i64 x.session, .int .i64 x.seq, .int .i64 x.id, .slice a4z x.query.length d4z, .int .i64 x.k, .int .i64 x.start, .int .i64 x.fin, .int .i64 x.place, .slice a9z x.vec.length d9z, .slice a10z x.hits.length d10z]) := ext_setAll _ (Ext.refl _ _) _ _ _ rfl
   replace HS := yh (Lay.subs_ext (uh HS) E (fun q h1 h2 h3 => by omega))
   have HB := yh (below_setAll hb2 w.heap.size (k * 11) [.int .i64 x.kind, .int .i64 x.session, .int .i64 x.seq, .int .i64 x.id, .slice a4z x.query.length d4z, .int .i64 x.k, .int .i64 x.start, .int .i64 x.fin, .int .i64 x.place, .slice a9z x.vec.length d9z, .slice a10z x.hits.length d10z] (Nat.le_refl _))
   have HZ : Hid ((setAll w2 w.heap.size (k * 11) [.int .i64 x.kind, .int .i64 x.session, .int .i64 x.seq, .int .i64 x.id, .slice a4z x.query.length d4z, .int .i64 x.k, .int .i64 x.start, .int .i64 x.fin, .int .i64 x.place, .slice a9z x.vec.length d9z, .slice a10z x.hits.length d10z]).heap.size = w2.heap.size) := size_setAll _ _ _ _
   have HO : Hid ((setAll w2 w.heap.size (k * 11) [.int .i64 x.kind, .int .i64 x.session, .int .i64 x.seq, .int .i64 x.id, .slice a4z x.query.length d4z, .int .i64 x.k, .int .i64 x.start, .int .i64 x.fin, .int .i64 x.place, .slice a9z x.vec.length d9z, .slice a10z x.hits.length d10z]).ownsRow w.heap.size 127 11 (.slice (some ⟨w.heap.size, 0, none⟩) xs.length xs.length) xs.length ((rows ++ [([.int .i64 x.kind, .int .i64 x.session, .int .i64 x.seq, .int .i64 x.id, .slice a4z x.query.length d4z, .int .i64 x.k, .int .i64 x.start, .int .i64 x.fin, .int .i64 x.place, .slice a9z x.vec.length d9z, .slice a10z x.hits.length d10z] : List Value)]).flatten ++ Q.drop 11)) := by
    show (setAll w2 w.heap.size (k * 11) [.int .i64 x.kind, .int .i64 x.session, .int .i64 x.seq, .int .i64 x.id, .slice a4z x.query.length d4z, .int .i64 x.k, .int .i64 x.start, .int .i64 x.fin, .int .i64 x.place, .slice a9z x.vec.length d9z, .slice a10z x.hits.length d10z]).ownsRow w.heap.size 127 11 (.slice (some ⟨w.heap.size, 0, none⟩) xs.length xs.length) xs.length ((rows ++ [([.int .i64 x.kind, .int .i64 x.session, .int .i64 x.seq, .int .i64 x.id, .slice a4z x.query.length d4z, .int .i64 x.k, .int .i64 x.start, .int .i64 x.fin, .int .i64 x.place, .slice a9z x.vec.length d9z, .slice a10z x.hits.length d10z] : List Value)]).flatten ++ Q.drop 11)
    rw [List.flatten_append]
    simpa using o3
   have hl2 := (o2.lt w.heap.size rfl).2
   clear o3 o2 E hb2 hl5
   have hQ2 : Hid ((Q.drop 11).length = (xs.length - (k + 1)) * 11) := by
    show (Q.drop 11).length = (xs.length - (k + 1)) * 11
    rw [List.length_drop, hQ, show xs.length - k = xs.length - (k + 1) + 1 by omega, Nat.add_mul]
    omega
   clear hQ HQ
   go_wp2_with fail
   go_roundw
   case rel => exact ⟨k + 1, rows ++ [([.int .i64 x.kind, .int .i64 x.session, .int .i64 x.seq, .int .i64 x.id, .slice a4z x.query.length d4z, .int .i64 x.k, .int .i64 x.start, .int .i64 x.fin, .int .i64 x.place, .slice a9z x.vec.length d9z, .slice a10z x.hits.length d10z] : List Value)], Q.drop 11, w2.heap.size, by omega, by go_num, uh HO, uh hQ2, (by rw [uh HT]; exact uh HS), Nat.le_of_eq (uh HZ).symm, by omega, uh HB⟩
   case measure => simp [intOf]; omega
  obtain rfl : k = xs.length := by omega
  have e0 : Q = [] := List.eq_nil_of_length_eq_zero (by rw [hQ]; simp)
  subst e0
  rw [List.append_nil] at hown
  rw [List.take_length] at hsub
  have HO := yh (Lay.subs_done (A := Lay.tEntry) hown hsub (by omega) hhi hbig)
  have HB := yh hB
  clear hown hsub hB
  go_wp2_with fail
  go_ret
  exact ⟨_, rfl, uh HO, uh HB⟩
theorem to_World (cs : List Value) (x : DWorld) (w : World) (h : Lay.tWorld.Reads w cs x) (hn : Lay.tWorld.sz x ≤ 1048576) :
  Calls Tryz.prog 17 #[.agg cs.toArray] w fun e w' => ∃ cs', e = .returned (.agg cs'.toArray) ∧ Lay.tWorld.OwnIn w' cs' x w.heap.size w'.heap.size ∧ Below w.heap.size w w' := by
 have h0 := h
 obtain ⟨bl, hl⟩ := h0
 obtain ⟨-, -, -, -, -, -, -, -, -, -, -, -, -, -, f0, f1, f2, -, -, -, -⟩ := lies_World.1 hl
 clear hl
 obtain ⟨a3, d3, a4, d4, a5, d5, a6, d6, rfl, R2, R4, R5, R6⟩ := open_World h
 clear h
 rw [szsum_World] at hn
 have HF := yh (And.intro f0 (And.intro f1 (f2)))
 clear f0 f1 f2
 have HB0 : Below w.heap.size w (((w.alloc (.cells #[.int .i64 x.now, .int .i64 x.events, .int .i64 x.chain.epoch, .slice a3 x.chain.ids.length d3, .slice a4 x.nodes.length d4, .slice a5 x.msgs.length d5, .slice a6 x.history.length d6] 29)).alloc (.cells #[.int .i64 0, .int .i64 0, .int .i64 0, .slice none 0 0, .slice none 0 0, .slice none 0 0, .slice none 0 0] 36)).alloc (.cells #[.int .i64 x.now, .int .i64 x.events, .int .i64 0, .slice none 0 0, .slice none 0 0, .slice none 0 0, .slice none 0 0] 36)) := (((Below.refl _ _).alloc (Nat.le_refl _) _).alloc (by simp) _).alloc (by simp; omega) _
 have bA : Box w.heap.size #[.int .i64 x.now, .int .i64 x.events, .int .i64 x.chain.epoch, .slice a3 x.chain.ids.length d3, .slice a4 x.nodes.length d4, .slice a5 x.msgs.length d5, .slice a6 x.history.length d6] 29 (((w.alloc (.cells #[.int .i64 x.now, .int .i64 x.events, .int .i64 x.chain.epoch, .slice a3 x.chain.ids.length d3, .slice a4 x.nodes.length d4, .slice a5 x.msgs.length d5, .slice a6 x.history.length d6] 29)).alloc (.cells #[.int .i64 0, .int .i64 0, .int .i64 0, .slice none 0 0, .slice none 0 0, .slice none 0 0, .slice none 0 0] 36)).alloc (.cells #[.int .i64 x.now, .int .i64 x.events, .int .i64 0, .slice none 0 0, .slice none 0 0, .slice none 0 0, .slice none 0 0] 36)) w.heap.size := ((newBox (Nat.le_refl _)).grow _).grow _
 have bR : Box w.heap.size #[.int .i64 0, .int .i64 0, .int .i64 0, .slice none 0 0, .slice none 0 0, .slice none 0 0, .slice none 0 0] 36 (((w.alloc (.cells #[.int .i64 x.now, .int .i64 x.events, .int .i64 x.chain.epoch, .slice a3 x.chain.ids.length d3, .slice a4 x.nodes.length d4, .slice a5 x.msgs.length d5, .slice a6 x.history.length d6] 29)).alloc (.cells #[.int .i64 0, .int .i64 0, .int .i64 0, .slice none 0 0, .slice none 0 0, .slice none 0 0, .slice none 0 0] 36)).alloc (.cells #[.int .i64 x.now, .int .i64 x.events, .int .i64 0, .slice none 0 0, .slice none 0 0, .slice none 0 0, .slice none 0 0] 36)) (w.heap.size + 1) := (newBoxAt (by omega) (by simp)).grow _
 have bX : Box w.heap.size #[.int .i64 x.now, .int .i64 x.events, .int .i64 0, .slice none 0 0, .slice none 0 0, .slice none 0 0, .slice none 0 0] 36 (((w.alloc (.cells #[.int .i64 x.now, .int .i64 x.events, .int .i64 x.chain.epoch, .slice a3 x.chain.ids.length d3, .slice a4 x.nodes.length d4, .slice a5 x.msgs.length d5, .slice a6 x.history.length d6] 29)).alloc (.cells #[.int .i64 0, .int .i64 0, .int .i64 0, .slice none 0 0, .slice none 0 0, .slice none 0 0, .slice none 0 0] 36)).alloc (.cells #[.int .i64 x.now, .int .i64 x.events, .int .i64 0, .slice none 0 0, .slice none 0 0, .slice none 0 0, .slice none 0 0] 36)) (w.heap.size + 2) := newBoxAt (by omega) (by simp)
 have hz0 : w.heap.size + 3 ≤ (((w.alloc (.cells #[.int .i64 x.now, .int .i64 x.events, .int .i64 x.chain.epoch, .slice a3 x.chain.ids.length d3, .slice a4 x.nodes.length d4, .slice a5 x.msgs.length d5, .slice a6 x.history.length d6] 29)).alloc (.cells #[.int .i64 0, .int .i64 0, .int .i64 0, .slice none 0 0, .slice none 0 0, .slice none 0 0, .slice none 0 0] 36)).alloc (.cells #[.int .i64 x.now, .int .i64 x.events, .int .i64 0, .slice none 0 0, .slice none 0 0, .slice none 0 0, .slice none 0 0] 36)).heap.size := by simp
 go_enter Tryz.func17, Tryz.ntmps17
 go_wp2_with fail
 generalize ((w.alloc (.cells #[.int .i64 x.now, .int .i64 x.events, .int .i64 x.chain.epoch, .slice a3 x.chain.ids.length d3, .slice a4 x.nodes.length d4, .slice a5 x.msgs.length d5, .slice a6 x.history.length d6] 29)).alloc (.cells #[.int .i64 0, .int .i64 0, .int .i64 0, .slice none 0 0, .slice none 0 0, .slice none 0 0, .slice none 0 0] 36)).alloc (.cells #[.int .i64 x.now, .int .i64 x.events, .int .i64 0, .slice none 0 0, .slice none 0 0, .slice none 0 0, .slice none 0 0] 36) = W0 at *
 replace R2 := R2.liesIn.later HB0
 replace R4 := R4.liesIn.later HB0
 replace R5 := R5.liesIn.later HB0
 replace R6 := R6.liesIn.later HB0
 refine (to_Chain _ x.chain W0 R2.reads (by omega)).mono ?_
 rintro e w1 ⟨v2, rfl, O2, hb⟩
 have Z0 : W0.heap.size ≤ w1.heap.size := hb.size
 replace HB0 := HB0.trans (hb.mono HB0.size)
 replace bA := bA.keep hb
 replace bR := bR.keep hb
 replace bX := bX.keep hb
 replace R4 := R4.later hb
 replace R5 := R5.later hb
 replace R6 := R6.later hb
 clear hb R2
 obtain ⟨a3z, d3z, rfl, -⟩ := open_Chain O2.reads
 have p4 := bA.at 4 _ rfl
 have q2 := bX.at 2 _ rfl
 have q3 := bX.at 3 _ rfl
 have qf := bX.soft
 have ql := bX.lt
 have pl := bA.lt
 simp only [ga, gb, gc] at p4 q2 q3
 have hA := yh bA
 have hR := yh bR
 have hX := yh bX
 have hB := yh HB0
 clear bA bR bX HB0
 have hO2 := yh O2
 clear O2
 have hR4 := yh R4
 clear R4
 have hR5 := yh R5
 clear R5
 have hR6 := yh R6
 clear R6
 go_wp2_with fail
 clear p4 q2 q3 qf ql pl
 have E : Ext (fun q => q = w.heap.size + 2) w1 ((w1.setCell ⟨w.heap.size + 2, 2, none⟩ (.int .i64 x.chain.epoch)).setCell ⟨w.heap.size + 2, 3, none⟩ (.slice a3z x.chain.ids.length d3z)) := ext_setL (Ext.refl _ _) (w.heap.size + 2) [(2, .int .i64 x.chain.epoch), (3, .slice a3z x.chain.ids.length d3z)] rfl
 have bX : Box w.heap.size #[.int .i64 x.now, .int .i64 x.events, .int .i64 x.chain.epoch, .slice a3z x.chain.ids.length d3z, .slice none 0 0, .slice none 0 0, .slice none 0 0] 36 ((w1.setCell ⟨w.heap.size + 2, 2, none⟩ (.int .i64 x.chain.epoch)).setCell ⟨w.heap.size + 2, 3, none⟩ (.slice a3z x.chain.ids.length d3z)) (w.heap.size + 2) := (((uh hX).set 2 (.int .i64 x.chain.epoch)).set 3 (.slice a3z x.chain.ids.length d3z))
 have bA := (uh hA).ext E (by omega)
 have bR := (uh hR).ext E (by omega)
 have HB0 : Below w.heap.size w ((w1.setCell ⟨w.heap.size + 2, 2, none⟩ (.int .i64 x.chain.epoch)).setCell ⟨w.heap.size + 2, 3, none⟩ (.slice a3z x.chain.ids.length d3z)) := (uh hB).trans (E.below (uh hB).size (fun k h1 h2 => by omega))
 have O2 := (uh hO2).ext E (fun k h1 h2 h3 => by omega)
 have R4 := (uh hR4).ext E (fun k h1 h2 h3 => by omega)
 have R5 := (uh hR5).ext E (fun k h1 h2 h3 => by omega)
 have R6 := (uh hR6).ext E (fun k h1 h2 h3 => by omega)
 have Y0 : w1.heap.size ≤ ((w1.setCell ⟨w.heap.size + 2, 2, none⟩ (.int .i64 x.chain.epoch)).setCell ⟨w.heap.size + 2, 3, none⟩ (.slice a3z x.chain.ids.length d3z)).heap.size := E.size
 clear hA hR hX hB hO2 hR4 hR5 hR6 E
 generalize ((w1.setCell ⟨w.heap.size + 2, 2, none⟩ (.int .i64 x.chain.epoch)).setCell ⟨w.heap.size + 2, 3, none⟩ (.slice a3z x.chain.ids.length d3z)) = W1 at *
 refine (to_NodeS _ x.nodes W1 R4.reads (by omega)).mono ?_
 rintro e w2 ⟨v4, rfl, O4, hb⟩
 have Z1 : W1.heap.size ≤ w2.heap.size := hb.size
 replace HB0 := HB0.trans (hb.mono HB0.size)
 replace bA := bA.keep hb
 replace bR := bR.keep hb
 replace bX := bX.keep hb
 replace R5 := R5.later hb
 replace R6 := R6.later hb
 replace O2 := O2.later hb
 clear hb R4
 obtain ⟨a4z, d4z, rfl⟩ := open_sl O4.reads
 have p5 := bA.at 5 _ rfl
 have q4 := bX.at 4 _ rfl
 have qf := bX.soft
 have ql := bX.lt
 have pl := bA.lt
 simp only [ga, gb, gc] at p5 q4
 have hA := yh bA
 have hR := yh bR
 have hX := yh bX
 have hB := yh HB0
 clear bA bR bX HB0
 have hO2 := yh O2
 clear O2
 have hO4 := yh O4
 clear O4
 have hR5 := yh R5
 clear R5
 have hR6 := yh R6
 clear R6
 go_wp2_with fail
 clear p5 q4 qf ql pl
 have E : Ext (fun q => q = w.heap.size + 2) w2 (w2.setCell ⟨w.heap.size + 2, 4, none⟩ (.slice a4z x.nodes.length d4z)) := ext_setL (Ext.refl _ _) (w.heap.size + 2) [(4, .slice a4z x.nodes.length d4z)] rfl
 have bX : Box w.heap.size #[.int .i64 x.now, .int .i64 x.events, .int .i64 x.chain.epoch, .slice a3z x.chain.ids.length d3z, .slice a4z x.nodes.length d4z, .slice none 0 0, .slice none 0 0] 36 (w2.setCell ⟨w.heap.size + 2, 4, none⟩ (.slice a4z x.nodes.length d4z)) (w.heap.size + 2) := (uh hX).set 4 (.slice a4z x.nodes.length d4z)
 have bA := (uh hA).ext E (by omega)
 have bR := (uh hR).ext E (by omega)
 have HB0 : Below w.heap.size w (w2.setCell ⟨w.heap.size + 2, 4, none⟩ (.slice a4z x.nodes.length d4z)) := (uh hB).trans (E.below (uh hB).size (fun k h1 h2 => by omega))
 have O2 := (uh hO2).ext E (fun k h1 h2 h3 => by omega)
 have O4 := (uh hO4).ext E (fun k h1 h2 h3 => by omega)
 have R5 := (uh hR5).ext E (fun k h1 h2 h3 => by omega)
 have R6 := (uh hR6).ext E (fun k h1 h2 h3 => by omega)
 have Y1 : w2.heap.size ≤ (w2.setCell ⟨w.heap.size + 2, 4, none⟩ (.slice a4z x.nodes.length d4z)).heap.size := E.size
 clear hA hR hX hB hO2 hO4 hR5 hR6 E
 generalize (w2.setCell ⟨w.heap.size + 2, 4, none⟩ (.slice a4z x.nodes.length d4z)) = W2 at *
 refine (to_MsgS _ x.msgs W2 R5.reads (by omega)).mono ?_
 rintro e w3 ⟨v5, rfl, O5, hb⟩
 have Z2 : W2.heap.size ≤ w3.heap.size := hb.size
 replace HB0 := HB0.trans (hb.mono HB0.size)
 replace bA := bA.keep hb
 replace bR := bR.keep hb
 replace bX := bX.keep hb
 replace R6 := R6.later hb
 replace O2 := O2.later hb
 replace O4 := O4.later hb
 clear hb R5
 obtain ⟨a5z, d5z, rfl⟩ := open_sl O5.reads
 have p6 := bA.at 6 _ rfl
 have q5 := bX.at 5 _ rfl
 have qf := bX.soft
 have ql := bX.lt
 have pl := bA.lt
 simp only [ga, gb, gc] at p6 q5
 have hA := yh bA
 have hR := yh bR
 have hX := yh bX
 have hB := yh HB0
 clear bA bR bX HB0
 have hO2 := yh O2
 clear O2
 have hO4 := yh O4
 clear O4
 have hO5 := yh O5
 clear O5
 have hR6 := yh R6
 clear R6
 go_wp2_with fail
 clear p6 q5 qf ql pl
 have E : Ext (fun q => q = w.heap.size + 2) w3 (w3.setCell ⟨w.heap.size + 2, 5, none⟩ (.slice a5z x.msgs.length d5z)) := ext_setL (Ext.refl _ _) (w.heap.size + 2) [(5, .slice a5z x.msgs.length d5z)] rfl
 have bX : Box w.heap.size #[.int .i64 x.now, .int .i64 x.events, .int .i64 x.chain.epoch, .slice a3z x.chain.ids.length d3z, .slice a4z x.nodes.length d4z, .slice a5z x.msgs.length d5z, .slice none 0 0] 36 (w3.setCell ⟨w.heap.size + 2, 5, none⟩ (.slice a5z x.msgs.length d5z)) (w.heap.size + 2) := (uh hX).set 5 (.slice a5z x.msgs.length d5z)
 have bA := (uh hA).ext E (by omega)
 have bR := (uh hR).ext E (by omega)
 have HB0 : Below w.heap.size w (w3.setCell ⟨w.heap.size + 2, 5, none⟩ (.slice a5z x.msgs.length d5z)) := (uh hB).trans (E.below (uh hB).size (fun k h1 h2 => by omega))
 have O2 := (uh hO2).ext E (fun k h1 h2 h3 => by omega)
 have O4 := (uh hO4).ext E (fun k h1 h2 h3 => by omega)
 have O5 := (uh hO5).ext E (fun k h1 h2 h3 => by omega)
 have R6 := (uh hR6).ext E (fun k h1 h2 h3 => by omega)
 have Y2 : w3.heap.size ≤ (w3.setCell ⟨w.heap.size + 2, 5, none⟩ (.slice a5z x.msgs.length d5z)).heap.size := E.size
 clear hA hR hX hB hO2 hO4 hO5 hR6 E
 generalize (w3.setCell ⟨w.heap.size + 2, 5, none⟩ (.slice a5z x.msgs.length d5z)) = W3 at *
 refine (to_EntryS _ x.history W3 R6.reads (by omega)).mono ?_
 rintro e w4 ⟨v6, rfl, O6, hb⟩
 have Z3 : W3.heap.size ≤ w4.heap.size := hb.size
 replace HB0 := HB0.trans (hb.mono HB0.size)
 replace bA := bA.keep hb
 replace bR := bR.keep hb
 replace bX := bX.keep hb
 replace O2 := O2.later hb
 replace O4 := O4.later hb
 replace O5 := O5.later hb
 clear hb R6
 obtain ⟨a6z, d6z, rfl⟩ := open_sl O6.reads
 have q0 := bX.at 0 _ rfl
 have q1 := bX.at 1 _ rfl
 have q2 := bX.at 2 _ rfl
 have q3 := bX.at 3 _ rfl
 have q4 := bX.at 4 _ rfl
 have q5 := bX.at 5 _ rfl
 have q6 := bX.at 6 _ rfl
 have qf := bX.soft
 have ql := bX.lt
 have pl := bA.lt
 have r0 := bR.at 0 _ rfl
 have r1 := bR.at 1 _ rfl
 have r2 := bR.at 2 _ rfl
 have r3 := bR.at 3 _ rfl
 have r4 := bR.at 4 _ rfl
 have r5 := bR.at 5 _ rfl
 have r6 := bR.at 6 _ rfl
 have rf := bR.soft
 have rl := bR.lt
 simp only [ga, gb, gc] at q0 q1 q2 q3 q4 q5 q6 r0 r1 r2 r3 r4 r5 r6
 have hA := yh bA
 have hR := yh bR
 have hX := yh bX
 have hB := yh HB0
 clear bA bR bX HB0
 have hO2 := yh O2
 clear O2
 have hO4 := yh O4
 clear O4
 have hO5 := yh O5
 clear O5
 have hO6 := yh O6
 clear O6
 go_wp2_with fail
 refine bodyPost_ret (v := .agg #[.int .i64 x.now, .int .i64 x.events, .int .i64 x.chain.epoch, .slice a3z x.chain.ids.length d3z, .slice a4z x.nodes.length d4z, .slice a5z x.msgs.length d5z, .slice a6z x.history.length d6z]) (by simp [results, Tryz.results17, go_sem, r0, r1, r2, r3, r4, r5, r6]) rfl ?_
 have E : Ext (fun q => q = w.heap.size + 2 ∨ q = w.heap.size + 1) w4 _ := ext_setL (ext_setL (Ext.refl _ _) (w.heap.size + 2) [(6, .slice a6z x.history.length d6z)] (Or.inl rfl)) (w.heap.size + 1) [(0, .int .i64 x.now), (1, .int .i64 x.events), (2, .int .i64 x.chain.epoch), (3, .slice a3z x.chain.ids.length d3z), (4, .slice a4z x.nodes.length d4z), (5, .slice a5z x.msgs.length d5z), (6, .slice a6z x.history.length d6z)] (Or.inr rfl)
 obtain ⟨f0, f1, f2⟩ := uh HF
 have own : Lay.tWorld.OwnIn _ [.int .i64 x.now, .int .i64 x.events, .int .i64 x.chain.epoch, .slice a3z x.chain.ids.length d3z, .slice a4z x.nodes.length d4z, .slice a5z x.msgs.length d5z, .slice a6z x.history.length d6z] x w.heap.size w4.heap.size := (Lay.ownIn_pair (Lay.ownIn_int (lo := w.heap.size) (hi := w.heap.size) f0) (Lay.ownIn_pair (Lay.ownIn_int (lo := w.heap.size) (hi := w.heap.size) f1) (Lay.ownIn_pair ((uh hO2).ext E (fun k h1 h2 h3 => by omega)) (Lay.ownIn_pair ((uh hO4).ext E (fun k h1 h2 h3 => by omega)) (Lay.ownIn_pair ((uh hO5).ext E (fun k h1 h2 h3 => by omega)) ((uh hO6).ext E (fun k h1 h2 h3 => by omega)) (by omega) (by omega) (by omega)) (by omega) (by omega) (by omega)) (by omega) (by omega) (by omega)) (by omega) (by omega) (by omega)) (by omega) (by omega) (by omega))
 have hsz := E.size
 have told := Lay.toldOwn (w := w) own (by omega) (by omega) ((uh hB).trans (E.below (uh hB).size (fun k h1 h2 => by omega)))
 exact told
theorem eq_Chain (cs cs2 : List Value) (x : DChain) (w : World) (h : Lay.tChain.Reads w cs x) (h2 : Lay.tChain.Reads w cs2 x) :
  Calls Tryz.prog 73 #[.agg cs.toArray, .agg cs2.toArray] w fun e w' => e = .returned (.bool true) ∧ Below w.heap.size w w' := by
 obtain ⟨a1, d1, rfl, R1⟩ := open_Chain h
 obtain ⟨a1z, d1z, rfl, R1z⟩ := open_Chain h2
 clear h h2
 have e0 : (x.epoch != x.epoch) = false := by simp
 have HB0 : Below w.heap.size w ((w.alloc (.cells #[.int .i64 x.epoch, .slice a1 x.ids.length d1] 31)).alloc (.cells #[.int .i64 x.epoch, .slice a1z x.ids.length d1z] 31)) := ((Below.refl _ _).alloc (Nat.le_refl _) _).alloc (by simp) _
 have bA : Box w.heap.size #[.int .i64 x.epoch, .slice a1 x.ids.length d1] 31 ((w.alloc (.cells #[.int .i64 x.epoch, .slice a1 x.ids.length d1] 31)).alloc (.cells #[.int .i64 x.epoch, .slice a1z x.ids.length d1z] 31)) w.heap.size := (newBox (Nat.le_refl _)).grow _
 have bC : Box w.heap.size #[.int .i64 x.epoch, .slice a1z x.ids.length d1z] 31 ((w.alloc (.cells #[.int .i64 x.epoch, .slice a1 x.ids.length d1] 31)).alloc (.cells #[.int .i64 x.epoch, .slice a1z x.ids.length d1z] 31)) (w.heap.size + 1) := newBoxAt (by omega) (by simp)
 go_enter Tryz.func73, Tryz.ntmps73
 go_wp2_with fail
 generalize (w.alloc (.cells #[.int .i64 x.epoch, .slice a1 x.ids.length d1] 31)).alloc (.cells #[.int .i64 x.epoch, .slice a1z x.ids.length d1z] 31) = W0 at *
 replace R1 := R1.later HB0
 replace R1z := R1z.later HB0
 refine (eq_Int64S _ _ x.ids _ R1 R1z).mono ?_
 rintro e w1 ⟨rfl, hb⟩
 replace bA := bA.keep hb
 replace bC := bC.keep hb
 replace HB0 := HB0.trans (hb.mono HB0.size)
 clear hb
 have HB := yh HB0
 have HA := yh bA
 have HC := yh bC
 clear HB0 bA bC
 go_wp2_with fail
 go_ret
 exact ⟨rfl, uh HB⟩
theorem eq_Write (cs cs2 : List Value) (x : DWrite) (w : World) (h : Lay.tWrite.Reads w cs x) (h2 : Lay.tWrite.Reads w cs2 x) :
  Calls Tryz.prog 220 #[.agg cs.toArray, .agg cs2.toArray] w fun e w' => e = .returned (.bool true) ∧ Below w.heap.size w w' := by
 obtain ⟨a2, d2, rfl, R2⟩ := open_Write h
 obtain ⟨a2z, d2z, rfl, R2z⟩ := open_Write h2
 clear h h2
 have e0 : (x.kind != x.kind) = false := by simp
 have e1 : (x.id != x.id) = false := by simp
 have e3 : (x.session != x.session) = false := by simp
 have e4 : (x.seq != x.seq) = false := by simp
 have HB0 : Below w.heap.size w ((w.alloc (.cells #[.int .i64 x.kind, .int .i64 x.id, .slice a2 x.vec.length d2, .int .i64 x.session, .int .i64 x.seq] 87)).alloc (.cells #[.int .i64 x.kind, .int .i64 x.id, .slice a2z x.vec.length d2z, .int .i64 x.session, .int .i64 x.seq] 87)) := ((Below.refl _ _).alloc (Nat.le_refl _) _).alloc (by simp) _
 have bA : Box w.heap.size #[.int .i64 x.kind, .int .i64 x.id, .slice a2 x.vec.length d2, .int .i64 x.session, .int .i64 x.seq] 87 ((w.alloc (.cells #[.int .i64 x.kind, .int .i64 x.id, .slice a2 x.vec.length d2, .int .i64 x.session, .int .i64 x.seq] 87)).alloc (.cells #[.int .i64 x.kind, .int .i64 x.id, .slice a2z x.vec.length d2z, .int .i64 x.session, .int .i64 x.seq] 87)) w.heap.size := (newBox (Nat.le_refl _)).grow _
 have bC : Box w.heap.size #[.int .i64 x.kind, .int .i64 x.id, .slice a2z x.vec.length d2z, .int .i64 x.session, .int .i64 x.seq] 87 ((w.alloc (.cells #[.int .i64 x.kind, .int .i64 x.id, .slice a2 x.vec.length d2, .int .i64 x.session, .int .i64 x.seq] 87)).alloc (.cells #[.int .i64 x.kind, .int .i64 x.id, .slice a2z x.vec.length d2z, .int .i64 x.session, .int .i64 x.seq] 87)) (w.heap.size + 1) := newBoxAt (by omega) (by simp)
 go_enter Tryz.func220, Tryz.ntmps220
 go_wp2_with fail
 generalize (w.alloc (.cells #[.int .i64 x.kind, .int .i64 x.id, .slice a2 x.vec.length d2, .int .i64 x.session, .int .i64 x.seq] 87)).alloc (.cells #[.int .i64 x.kind, .int .i64 x.id, .slice a2z x.vec.length d2z, .int .i64 x.session, .int .i64 x.seq] 87) = W0 at *
 replace R2 := R2.later HB0
 replace R2z := R2z.later HB0
 refine (eq_Int64S _ _ x.vec _ R2 R2z).mono ?_
 rintro e w1 ⟨rfl, hb⟩
 replace bA := bA.keep hb
 replace bC := bC.keep hb
 replace HB0 := HB0.trans (hb.mono HB0.size)
 have p3 := bA.at 3 _ rfl
 have q3 := bC.at 3 _ rfl
 have p4 := bA.at 4 _ rfl
 have q4 := bC.at 4 _ rfl
 clear hb
 have HB := yh HB0
 have HA := yh bA
 have HC := yh bC
 clear HB0 bA bC
 go_wp2_with fail
 go_ret
 exact ⟨rfl, uh HB⟩
theorem eq_WriteS (v v2 : Value) (xs : List DWrite) (w : World) (h : (Lay.sl Lay.tWrite).Reads w [v] xs) (h2 : (Lay.sl Lay.tWrite).Reads w [v2] xs) :
  Calls Tryz.prog 219 #[v, v2] w fun e w' => e = .returned (.bool true) ∧ Below w.heap.size w w' := by
 have hbig := h.big
 obtain ⟨ao, cap, rfl⟩ := open_sl h
 obtain ⟨ao2, cap2, rfl⟩ := open_sl h2
 by_cases hp : 0 < xs.length
 ·
  obtain ⟨b, off, rfl, hbl⟩ := Lay.sl_addr h hp
  obtain ⟨b2, off2, rfl, hbl2⟩ := Lay.sl_addr h2 hp
  have H := yh h
  have H2 := yh h2
  clear h h2
  go_enter Tryz.func219, Tryz.ntmps219
  go_wp2_with fail
  go_loopw [5] (fun i wr => ∃ k : Nat, k ≤ xs.length ∧ i = .int .i64 k ∧ Below w.heap.size w wr) (fun i _ => xs.length - (intOf i).toNat)
  case atStart => exact ⟨0, Nat.zero_le _, rfl, Below.refl _ _⟩
  case round =>
   obtain ⟨k, hk, rfl, hB⟩ := hrel
   by_cases hlt : k < xs.length
   ·
    obtain ⟨row, hc, hr⟩ := Lay.row_at (uh H) hlt
    obtain ⟨rowz, hcz, hrz⟩ := Lay.row_at (uh H2) hlt
    have hr2 := hr
    obtain ⟨a2, d2, rfl, -⟩ := open_Write hr2
    have hrz2 := hrz
    obtain ⟨a2z, d2z, rfl, -⟩ := open_Write hrz2
    have c0 : w.cell? ⟨b, off + k * 5, none⟩ = some (.int .i64 (xs[k]).kind) := ((Below.refl w.heap.size w).cell (p := ⟨b, off + k * 5, none⟩) hbl).trans (hc 0 (by decide))
    have c1 : w.cell? ⟨b, off + k * 5 + 1, none⟩ = some (.int .i64 (xs[k]).id) := ((Below.refl w.heap.size w).cell (p := ⟨b, off + k * 5 + 1, none⟩) hbl).trans (hc 1 (by decide))
    have c2 : w.cell? ⟨b, off + k * 5 + 2, none⟩ = some (.slice a2 (xs[k]).vec.length d2) := ((Below.refl w.heap.size w).cell (p := ⟨b, off + k * 5 + 2, none⟩) hbl).trans (hc 2 (by decide))
    have c3 : w.cell? ⟨b, off + k * 5 + 3, none⟩ = some (.int .i64 (xs[k]).session) := ((Below.refl w.heap.size w).cell (p := ⟨b, off + k * 5 + 3, none⟩) hbl).trans (hc 3 (by decide))
    have c4 : w.cell? ⟨b, off + k * 5 + 4, none⟩ = some (.int .i64 (xs[k]).seq) := ((Below.refl w.heap.size w).cell (p := ⟨b, off + k * 5 + 4, none⟩) hbl).trans (hc 4 (by decide))
    have c0z : w.cell? ⟨b2, off2 + k * 5, none⟩ = some (.int .i64 (xs[k]).kind) := ((Below.refl w.heap.size w).cell (p := ⟨b2, off2 + k * 5, none⟩) hbl2).trans (hcz 0 (by decide))
    have c1z : w.cell? ⟨b2, off2 + k * 5 + 1, none⟩ = some (.int .i64 (xs[k]).id) := ((Below.refl w.heap.size w).cell (p := ⟨b2, off2 + k * 5 + 1, none⟩) hbl2).trans (hcz 1 (by decide))
    have c2z : w.cell? ⟨b2, off2 + k * 5 + 2, none⟩ = some (.slice a2z (xs[k]).vec.length d2z) := ((Below.refl w.heap.size w).cell (p := ⟨b2, off2 + k * 5 + 2, none⟩) hbl2).trans (hcz 2 (by decide))
    have c3z : w.cell? ⟨b2, off2 + k * 5 + 3, none⟩ = some (.int .i64 (xs[k]).session) := ((Below.refl w.heap.size w).cell (p := ⟨b2, off2 + k * 5 + 3, none⟩) hbl2).trans (hcz 3 (by decide))
    have c4z : w.cell? ⟨b2, off2 + k * 5 + 4, none⟩ = some (.int .i64 (xs[k]).seq) := ((Below.refl w.heap.size w).cell (p := ⟨b2, off2 + k * 5 + 4, none⟩) hbl2).trans (hcz 4 (by decide))
    clear hc hcz
    have HR := yh hr
    have HRZ := yh hrz
    clear hr hrz
    have HB := yh hB
    clear hB
    generalize hxk : xs[k] = x at *
    clear hxk
    have i1 : (0 : Int) ≤ (k : Int) := by omega
    have i2 : (k : Int) < (xs.length : Int) := by omega
    go_wp2_with fail
    refine wp_region_noPanic ?_
    refine wp_region_held_drew (S := fun w' => Below w.heap.size w w') (by kernel_rfl) (uh HB).drew (fun zq => ?_)
    generalize wr.drew = wD at zq ⊢
    refine tkH 0 zq ?_
    refine tkH 1 zq ?_
    refine tkH 2 zq ?_
    refine tkJ 3 (v := ?v3) ?h3 zq ?r3
    case h3 =>
     intro wS hSw
     have y0 := (hSw.cell (p := ⟨b, off + k * 5, none⟩) hbl).trans c0
     have y1 := (hSw.cell (p := ⟨b, off + k * 5 + 1, none⟩) hbl).trans c1
     have y2 := (hSw.cell (p := ⟨b, off + k * 5 + 2, none⟩) hbl).trans c2
     have y3 := (hSw.cell (p := ⟨b, off + k * 5 + 3, none⟩) hbl).trans c3
     have y4 := (hSw.cell (p := ⟨b, off + k * 5 + 4, none⟩) hbl).trans c4
     clear hSw
     (try dsimp only at hSw)
     go_simp
     try with_reducible rfl
    refine tkH 4 zq ?_
    refine tkH 5 zq ?_
    refine tkH 6 zq ?_
    refine tkJ 7 (v := ?v7) ?h7 zq ?r7
    case h7 =>
     intro wS hSw
     have y0z := (hSw.cell (p := ⟨b2, off2 + k * 5, none⟩) hbl2).trans c0z
     have y1z := (hSw.cell (p := ⟨b2, off2 + k * 5 + 1, none⟩) hbl2).trans c1z
     have y2z := (hSw.cell (p := ⟨b2, off2 + k * 5 + 2, none⟩) hbl2).trans c2z
     have y3z := (hSw.cell (p := ⟨b2, off2 + k * 5 + 3, none⟩) hbl2).trans c3z
     have y4z := (hSw.cell (p := ⟨b2, off2 + k * 5 + 4, none⟩) hbl2).trans c4z
     clear hSw
     (try dsimp only at hSw)
     go_simp
     try with_reducible rfl
    refine rdH 8 (fun K hK => ?_)
    go_simp
    go_at_call 220
    refine (eq_Write _ _ x _ ((uh HR).later zq) ((uh HRZ).later zq)).mono ?_
    rintro e w3 ⟨rfl, hbw⟩
    try go_wp2_with fail
    refine hK.out _ _ (zq.trans (hbw.mono zq.size)) (fun zq => ?_)
    clear hK K
    try simp only [Act.put, pz, py, px]
    refine tkH 9 zq ?_
    refine wpAnyH_done (by kernel_rfl) ?_ _
    refine NoPanic.normal ?_
    have HB3 := yh zq
    clear zq c0 c0z c1 c1z c2 c2z c3 c3z c4 c4z HB
    go_wp2_with fail
    go_roundw
    case rel => exact ⟨k + 1, by omega, by go_num, uh HB3⟩
    case measure => simp [intOf]; omega
   have HB := yh hB
   clear hB
   go_wp2_with fail
   go_ret
   exact ⟨rfl, uh HB⟩
 obtain rfl : xs = [] := List.eq_nil_of_length_eq_zero (by omega)
 clear h h2 hp
 simp only [List.length_nil] at *
 go_enter Tryz.func219, Tryz.ntmps219
 go_wp2_with fail
 refine wp_loop_rounds 1 ?_
 rw [rounds_succ]
 go_wp2_with fail
 go_ret
 exact ⟨rfl, Below.refl _ _⟩
theorem eq_Node (cs cs2 : List Value) (x : DNode) (w : World) (h : Lay.tNode.Reads w cs x) (h2 : Lay.tNode.Reads w cs2 x) :
  Calls Tryz.prog 143 #[.agg cs.toArray, .agg cs2.toArray] w fun e w' => e = .returned (.bool true) ∧ Below w.heap.size w w' := by
 obtain ⟨a4, d4, rfl, R4⟩ := open_Node h
 obtain ⟨a4z, d4z, rfl, R4z⟩ := open_Node h2
 clear h h2
 have e0 : (x.id != x.id) = false := by simp
 have e1 : (x.up != x.up) = false := by simp
 have e2 : (x.epoch != x.epoch) = false := by simp
 have e3 : (x.lease != x.lease) = false := by simp
 have e5 : (x.sure != x.sure) = false := by simp
 have e6 : (x.clean != x.clean) = false := by simp
 have HB0 : Below w.heap.size w ((w.alloc (.cells #[.int .i64 x.id, .bool x.up, .int .i64 x.epoch, .int .i64 x.lease, .slice a4 x.writes.length d4, .int .i64 x.sure, .int .i64 x.clean] 84)).alloc (.cells #[.int .i64 x.id, .bool x.up, .int .i64 x.epoch, .int .i64 x.lease, .slice a4z x.writes.length d4z, .int .i64 x.sure, .int .i64 x.clean] 84)) := ((Below.refl _ _).alloc (Nat.le_refl _) _).alloc (by simp) _
 have bA : Box w.heap.size #[.int .i64 x.id, .bool x.up, .int .i64 x.epoch, .int .i64 x.lease, .slice a4 x.writes.length d4, .int .i64 x.sure, .int .i64 x.clean] 84 ((w.alloc (.cells #[.int .i64 x.id, .bool x.up, .int .i64 x.epoch, .int .i64 x.lease, .slice a4 x.writes.length d4, .int .i64 x.sure, .int .i64 x.clean] 84)).alloc (.cells #[.int .i64 x.id, .bool x.up, .int .i64 x.epoch, .int .i64 x.lease, .slice a4z x.writes.length d4z, .int .i64 x.sure, .int .i64 x.clean] 84)) w.heap.size := (newBox (Nat.le_refl _)).grow _
 have bC : Box w.heap.size #[.int .i64 x.id, .bool x.up, .int .i64 x.epoch, .int .i64 x.lease, .slice a4z x.writes.length d4z, .int .i64 x.sure, .int .i64 x.clean] 84 ((w.alloc (.cells #[.int .i64 x.id, .bool x.up, .int .i64 x.epoch, .int .i64 x.lease, .slice a4 x.writes.length d4, .int .i64 x.sure, .int .i64 x.clean] 84)).alloc (.cells #[.int .i64 x.id, .bool x.up, .int .i64 x.epoch, .int .i64 x.lease, .slice a4z x.writes.length d4z, .int .i64 x.sure, .int .i64 x.clean] 84)) (w.heap.size + 1) := newBoxAt (by omega) (by simp)
 go_enter Tryz.func143, Tryz.ntmps143
 go_wp2_with fail
 generalize (w.alloc (.cells #[.int .i64 x.id, .bool x.up, .int .i64 x.epoch, .int .i64 x.lease, .slice a4 x.writes.length d4, .int .i64 x.sure, .int .i64 x.clean] 84)).alloc (.cells #[.int .i64 x.id, .bool x.up, .int .i64 x.epoch, .int .i64 x.lease, .slice a4z x.writes.length d4z, .int .i64 x.sure, .int .i64 x.clean] 84) = W0 at *
 replace R4 := R4.later HB0
 replace R4z := R4z.later HB0
 refine (eq_WriteS _ _ x.writes _ R4 R4z).mono ?_
 rintro e w1 ⟨rfl, hb⟩
 replace bA := bA.keep hb
 replace bC := bC.keep hb
 replace HB0 := HB0.trans (hb.mono HB0.size)
 have p5 := bA.at 5 _ rfl
 have q5 := bC.at 5 _ rfl
 have p6 := bA.at 6 _ rfl
 have q6 := bC.at 6 _ rfl
 clear hb
 have HB := yh HB0
 have HA := yh bA
 have HC := yh bC
 clear HB0 bA bC
 go_wp2_with fail
 go_ret
 exact ⟨rfl, uh HB⟩
theorem eq_NodeS (v v2 : Value) (xs : List DNode) (w : World) (h : (Lay.sl Lay.tNode).Reads w [v] xs) (h2 : (Lay.sl Lay.tNode).Reads w [v2] xs) :
  Calls Tryz.prog 74 #[v, v2] w fun e w' => e = .returned (.bool true) ∧ Below w.heap.size w w' := by
 have hbig := h.big
 obtain ⟨ao, cap, rfl⟩ := open_sl h
 obtain ⟨ao2, cap2, rfl⟩ := open_sl h2
 by_cases hp : 0 < xs.length
 ·
  obtain ⟨b, off, rfl, hbl⟩ := Lay.sl_addr h hp
  obtain ⟨b2, off2, rfl, hbl2⟩ := Lay.sl_addr h2 hp
  have H := yh h
  have H2 := yh h2
  clear h h2
  go_enter Tryz.func74, Tryz.ntmps74
  go_wp2_with fail
  go_loopw [5] (fun i wr => ∃ k : Nat, k ≤ xs.length ∧ i = .int .i64 k ∧ Below w.heap.size w wr) (fun i _ => xs.length - (intOf i).toNat)
  case atStart => exact ⟨0, Nat.zero_le _, rfl, Below.refl _ _⟩
  case round =>
   obtain ⟨k, hk, rfl, hB⟩ := hrel
   by_cases hlt : k < xs.length
   ·
    obtain ⟨row, hc, hr⟩ := Lay.row_at (uh H) hlt
    obtain ⟨rowz, hcz, hrz⟩ := Lay.row_at (uh H2) hlt
    have hr2 := hr
    obtain ⟨a4, d4, rfl, -⟩ := open_Node hr2
    have hrz2 := hrz
    obtain ⟨a4z, d4z, rfl, -⟩ := open_Node hrz2
    have c0 : w.cell? ⟨b, off + k * 7, none⟩ = some (.int .i64 (xs[k]).id) := ((Below.refl w.heap.size w).cell (p := ⟨b, off + k * 7, none⟩) hbl).trans (hc 0 (by decide))
    have c1 : w.cell? ⟨b, off + k * 7 + 1, none⟩ = some (.bool (xs[k]).up) := ((Below.refl w.heap.size w).cell (p := ⟨b, off + k * 7 + 1, none⟩) hbl).trans (hc 1 (by decide))
    have c2 : w.cell? ⟨b, off + k * 7 + 2, none⟩ = some (.int .i64 (xs[k]).epoch) := ((Below.refl w.heap.size w).cell (p := ⟨b, off + k * 7 + 2, none⟩) hbl).trans (hc 2 (by decide))
    have c3 : w.cell? ⟨b, off + k * 7 + 3, none⟩ = some (.int .i64 (xs[k]).lease) := ((Below.refl w.heap.size w).cell (p := ⟨b, off + k * 7 + 3, none⟩) hbl).trans (hc 3 (by decide))
    have c4 : w.cell? ⟨b, off + k * 7 + 4, none⟩ = some (.slice a4 (xs[k]).writes.length d4) := ((Below.refl w.heap.size w).cell (p := ⟨b, off + k * 7 + 4, none⟩) hbl).trans (hc 4 (by decide))
    have c5 : w.cell? ⟨b, off + k * 7 + 5, none⟩ = some (.int .i64 (xs[k]).sure) := ((Below.refl w.heap.size w).cell (p := ⟨b, off + k * 7 + 5, none⟩) hbl).trans (hc 5 (by decide))
    have c6 : w.cell? ⟨b, off + k * 7 + 6, none⟩ = some (.int .i64 (xs[k]).clean) := ((Below.refl w.heap.size w).cell (p := ⟨b, off + k * 7 + 6, none⟩) hbl).trans (hc 6 (by decide))
    have c0z : w.cell? ⟨b2, off2 + k * 7, none⟩ = some (.int .i64 (xs[k]).id) := ((Below.refl w.heap.size w).cell (p := ⟨b2, off2 + k * 7, none⟩) hbl2).trans (hcz 0 (by decide))
    have c1z : w.cell? ⟨b2, off2 + k * 7 + 1, none⟩ = some (.bool (xs[k]).up) := ((Below.refl w.heap.size w).cell (p := ⟨b2, off2 + k * 7 + 1, none⟩) hbl2).trans (hcz 1 (by decide))
    have c2z : w.cell? ⟨b2, off2 + k * 7 + 2, none⟩ = some (.int .i64 (xs[k]).epoch) := ((Below.refl w.heap.size w).cell (p := ⟨b2, off2 + k * 7 + 2, none⟩) hbl2).trans (hcz 2 (by decide))
    have c3z : w.cell? ⟨b2, off2 + k * 7 + 3, none⟩ = some (.int .i64 (xs[k]).lease) := ((Below.refl w.heap.size w).cell (p := ⟨b2, off2 + k * 7 + 3, none⟩) hbl2).trans (hcz 3 (by decide))
    have c4z : w.cell? ⟨b2, off2 + k * 7 + 4, none⟩ = some (.slice a4z (xs[k]).writes.length d4z) := ((Below.refl w.heap.size w).cell (p := ⟨b2, off2 + k * 7 + 4, none⟩) hbl2).trans (hcz 4 (by decide))
    have c5z : w.cell? ⟨b2, off2 + k * 7 + 5, none⟩ = some (.int .i64 (xs[k]).sure) := ((Below.refl w.heap.size w).cell (p := ⟨b2, off2 + k * 7 + 5, none⟩) hbl2).trans (hcz 5 (by decide))
    have c6z : w.cell? ⟨b2, off2 + k * 7 + 6, none⟩ = some (.int .i64 (xs[k]).clean) := ((Below.refl w.heap.size w).cell (p := ⟨b2, off2 + k * 7 + 6, none⟩) hbl2).trans (hcz 6 (by decide))
    clear hc hcz
    have HR := yh hr
    have HRZ := yh hrz
    clear hr hrz
    have HB := yh hB
    clear hB
    generalize hxk : xs[k] = x at *
    clear hxk
    have i1 : (0 : Int) ≤ (k : Int) := by omega
    have i2 : (k : Int) < (xs.length : Int) := by omega
    go_wp2_with fail
    refine wp_region_noPanic ?_
    refine wp_region_held_drew (S := fun w' => Below w.heap.size w w') (by kernel_rfl) (uh HB).drew (fun zq => ?_)
    generalize wr.drew = wD at zq ⊢
    refine tkH 0 zq ?_
    refine tkH 1 zq ?_
    refine tkH 2 zq ?_
    refine tkJ 3 (v := ?v3) ?h3 zq ?r3
    case h3 =>
     intro wS hSw
     have y0 := (hSw.cell (p := ⟨b, off + k * 7, none⟩) hbl).trans c0
     have y1 := (hSw.cell (p := ⟨b, off + k * 7 + 1, none⟩) hbl).trans c1
     have y2 := (hSw.cell (p := ⟨b, off + k * 7 + 2, none⟩) hbl).trans c2
     have y3 := (hSw.cell (p := ⟨b, off + k * 7 + 3, none⟩) hbl).trans c3
     have y4 := (hSw.cell (p := ⟨b, off + k * 7 + 4, none⟩) hbl).trans c4
     have y5 := (hSw.cell (p := ⟨b, off + k * 7 + 5, none⟩) hbl).trans c5
     have y6 := (hSw.cell (p := ⟨b, off + k * 7 + 6, none⟩) hbl).trans c6
     clear hSw
     (try dsimp only at hSw)
     go_simp
     try with_reducible rfl
    refine tkH 4 zq ?_
    refine tkH 5 zq ?_
    refine tkH 6 zq ?_
    refine tkJ 7 (v := ?v7) ?h7 zq ?r7
    case h7 =>
     intro wS hSw
     have y0z := (hSw.cell (p := ⟨b2, off2 + k * 7, none⟩) hbl2).trans c0z
     have y1z := (hSw.cell (p := ⟨b2, off2 + k * 7 + 1, none⟩) hbl2).trans c1z
     have y2z := (hSw.cell (p := ⟨b2, off2 + k * 7 + 2, none⟩) hbl2).trans c2z
     have y3z := (hSw.cell (p := ⟨b2, off2 + k * 7 + 3, none⟩) hbl2).trans c3z
     have y4z := (hSw.cell (p := ⟨b2, off2 + k * 7 + 4, none⟩) hbl2).trans c4z
     have y5z := (hSw.cell (p := ⟨b2, off2 + k * 7 + 5, none⟩) hbl2).trans c5z
     have y6z := (hSw.cell (p := ⟨b2, off2 + k * 7 + 6, none⟩) hbl2).trans c6z
     clear hSw
     (try dsimp only at hSw)
     go_simp
     try with_reducible rfl
    refine rdH 8 (fun K hK => ?_)
    go_simp
    go_at_call 143
    refine (eq_Node _ _ x _ ((uh HR).later zq) ((uh HRZ).later zq)).mono ?_
    rintro e w3 ⟨rfl, hbw⟩
    try go_wp2_with fail
    refine hK.out _ _ (zq.trans (hbw.mono zq.size)) (fun zq => ?_)
    clear hK K
    try simp only [Act.put, pz, py, px]
    refine tkH 9 zq ?_
    refine wpAnyH_done (by kernel_rfl) ?_ _
    refine NoPanic.normal ?_
    have HB3 := yh zq
    clear zq c0 c0z c1 c1z c2 c2z c3 c3z c4 c4z c5 c5z c6 c6z HB
    go_wp2_with fail
    go_roundw
    case rel => exact ⟨k + 1, by omega, by go_num, uh HB3⟩
    case measure => simp [intOf]; omega
   have HB := yh hB
   clear hB
   go_wp2_with fail
   go_ret
   exact ⟨rfl, uh HB⟩
 obtain rfl : xs = [] := List.eq_nil_of_length_eq_zero (by omega)
 clear h h2 hp
 simp only [List.length_nil] at *
 go_enter Tryz.func74, Tryz.ntmps74
 go_wp2_with fail
 refine wp_loop_rounds 1 ?_
 rw [rounds_succ]
 go_wp2_with fail
 go_ret
 exact ⟨rfl, Below.refl _ _⟩
theorem eq_Msg (cs cs2 : List Value) (x : DMsg) (w : World) (h : Lay.tMsg.Reads w cs x) (h2 : Lay.tMsg.Reads w cs2 x) :
  Calls Tryz.prog 144 #[.agg cs.toArray, .agg cs2.toArray] w fun e w' => e = .returned (.bool true) ∧ Below w.heap.size w w' := by
 obtain ⟨a7, d7, rfl, R5⟩ := open_Msg h
 obtain ⟨a7z, d7z, rfl, R5z⟩ := open_Msg h2
 clear h h2
 have e0 : (x.kind != x.kind) = false := by simp
 have e1 : (x.epoch != x.epoch) = false := by simp
 have e2 : (x.src != x.src) = false := by simp
 have e3 : (x.dst != x.dst) = false := by simp
 have e4 : (x.index != x.index) = false := by simp
 have e5 : (x.write.kind != x.write.kind) = false := by simp
 have e6 : (x.write.id != x.write.id) = false := by simp
 have e8 : (x.write.session != x.write.session) = false := by simp
 have e9 : (x.write.seq != x.write.seq) = false := by simp
 have HB0 : Below w.heap.size w ((w.alloc (.cells #[.int .i64 x.kind, .int .i64 x.epoch, .int .i64 x.src, .int .i64 x.dst, .int .i64 x.index, .int .i64 x.write.kind, .int .i64 x.write.id, .slice a7 x.write.vec.length d7, .int .i64 x.write.session, .int .i64 x.write.seq] 89)).alloc (.cells #[.int .i64 x.kind, .int .i64 x.epoch, .int .i64 x.src, .int .i64 x.dst, .int .i64 x.index, .int .i64 x.write.kind, .int .i64 x.write.id, .slice a7z x.write.vec.length d7z, .int .i64 x.write.session, .int .i64 x.write.seq] 89)) := ((Below.refl _ _).alloc (Nat.le_refl _) _).alloc (by simp) _
 have bA : Box w.heap.size #[.int .i64 x.kind, .int .i64 x.epoch, .int .i64 x.src, .int .i64 x.dst, .int .i64 x.index, .int .i64 x.write.kind, .int .i64 x.write.id, .slice a7 x.write.vec.length d7, .int .i64 x.write.session, .int .i64 x.write.seq] 89 ((w.alloc (.cells #[.int .i64 x.kind, .int .i64 x.epoch, .int .i64 x.src, .int .i64 x.dst, .int .i64 x.index, .int .i64 x.write.kind, .int .i64 x.write.id, .slice a7 x.write.vec.length d7, .int .i64 x.write.session, .int .i64 x.write.seq] 89)).alloc (.cells #[.int .i64 x.kind, .int .i64 x.epoch, .int .i64 x.src, .int .i64 x.dst, .int .i64 x.index, .int .i64 x.write.kind, .int .i64 x.write.id, .slice a7z x.write.vec.length d7z, .int .i64 x.write.session, .int .i64 x.write.seq] 89)) w.heap.size := (newBox (Nat.le_refl _)).grow _
 have bC : Box w.heap.size #[.int .i64 x.kind, .int .i64 x.epoch, .int .i64 x.src, .int .i64 x.dst, .int .i64 x.index, .int .i64 x.write.kind, .int .i64 x.write.id, .slice a7z x.write.vec.length d7z, .int .i64 x.write.session, .int .i64 x.write.seq] 89 ((w.alloc (.cells #[.int .i64 x.kind, .int .i64 x.epoch, .int .i64 x.src, .int .i64 x.dst, .int .i64 x.index, .int .i64 x.write.kind, .int .i64 x.write.id, .slice a7 x.write.vec.length d7, .int .i64 x.write.session, .int .i64 x.write.seq] 89)).alloc (.cells #[.int .i64 x.kind, .int .i64 x.epoch, .int .i64 x.src, .int .i64 x.dst, .int .i64 x.index, .int .i64 x.write.kind, .int .i64 x.write.id, .slice a7z x.write.vec.length d7z, .int .i64 x.write.session, .int .i64 x.write.seq] 89)) (w.heap.size + 1) := newBoxAt (by omega) (by simp)
 go_enter Tryz.func144, Tryz.ntmps144
 go_wp2_with fail
 generalize (w.alloc (.cells #[.int .i64 x.kind, .int .i64 x.epoch, .int .i64 x.src, .int .i64 x.dst, .int .i64 x.index, .int .i64 x.write.kind, .int .i64 x.write.id, .slice a7 x.write.vec.length d7, .int .i64 x.write.session, .int .i64 x.write.seq] 89)).alloc (.cells #[.int .i64 x.kind, .int .i64 x.epoch, .int .i64 x.src, .int .i64 x.dst, .int .i64 x.index, .int .i64 x.write.kind, .int .i64 x.write.id, .slice a7z x.write.vec.length d7z, .int .i64 x.write.session, .int .i64 x.write.seq] 89) = W0 at *
 replace R5 := R5.later HB0
 replace R5z := R5z.later HB0
 refine (eq_Write _ _ x.write _ R5 R5z).mono ?_
 rintro e w1 ⟨rfl, hb⟩
 replace bA := bA.keep hb
 replace bC := bC.keep hb
 replace HB0 := HB0.trans (hb.mono HB0.size)
 clear hb
 have HB := yh HB0
 have HA := yh bA
 have HC := yh bC
 clear HB0 bA bC
 go_wp2_with fail
 go_ret
 exact ⟨rfl, uh HB⟩
theorem eq_MsgS (v v2 : Value) (xs : List DMsg) (w : World) (h : (Lay.sl Lay.tMsg).Reads w [v] xs) (h2 : (Lay.sl Lay.tMsg).Reads w [v2] xs) :
  Calls Tryz.prog 75 #[v, v2] w fun e w' => e = .returned (.bool true) ∧ Below w.heap.size w w' := by
 have hbig := h.big
 obtain ⟨ao, cap, rfl⟩ := open_sl h
 obtain ⟨ao2, cap2, rfl⟩ := open_sl h2
 by_cases hp : 0 < xs.length
 ·
  obtain ⟨b, off, rfl, hbl⟩ := Lay.sl_addr h hp
  obtain ⟨b2, off2, rfl, hbl2⟩ := Lay.sl_addr h2 hp
  have H := yh h
  have H2 := yh h2
  clear h h2
  go_enter Tryz.func75, Tryz.ntmps75
  go_wp2_with fail
  go_loopw [5] (fun i wr => ∃ k : Nat, k ≤ xs.length ∧ i = .int .i64 k ∧ Below w.heap.size w wr) (fun i _ => xs.length - (intOf i).toNat)
  case atStart => exact ⟨0, Nat.zero_le _, rfl, Below.refl _ _⟩
  case round =>
   obtain ⟨k, hk, rfl, hB⟩ := hrel
   by_cases hlt : k < xs.length
   ·
    obtain ⟨row, hc, hr⟩ := Lay.row_at (uh H) hlt
    obtain ⟨rowz, hcz, hrz⟩ := Lay.row_at (uh H2) hlt
    have hr2 := hr
    obtain ⟨a7, d7, rfl, -⟩ := open_Msg hr2
    have hrz2 := hrz
    obtain ⟨a7z, d7z, rfl, -⟩ := open_Msg hrz2
    have c0 : w.cell? ⟨b, off + k * 10, none⟩ = some (.int .i64 (xs[k]).kind) := ((Below.refl w.heap.size w).cell (p := ⟨b, off + k * 10, none⟩) hbl).trans (hc 0 (by decide))
    have c1 : w.cell? ⟨b, off + k * 10 + 1, none⟩ = some (.int .i64 (xs[k]).epoch) := ((Below.refl w.heap.size w).cell (p := ⟨b, off + k * 10 + 1, none⟩) hbl).trans (hc 1 (by decide))
    have c2 : w.cell? ⟨b, off + k * 10 + 2, none⟩ = some (.int .i64 (xs[k]).src) := ((Below.refl w.heap.size w).cell (p := ⟨b, off + k * 10 + 2, none⟩) hbl).trans (hc 2 (by decide))
    have c3 : w.cell? ⟨b, off + k * 10 + 3, none⟩ = some (.int .i64 (xs[k]).dst) := ((Below.refl w.heap.size w).cell (p := ⟨b, off + k * 10 + 3, none⟩) hbl).trans (hc 3 (by decide))
    have c4 : w.cell? ⟨b, off + k * 10 + 4, none⟩ = some (.int .i64 (xs[k]).index) := ((Below.refl w.heap.size w).cell (p := ⟨b, off + k * 10 + 4, none⟩) hbl).trans (hc 4 (by decide))
    have c5 : w.cell? ⟨b, off + k * 10 + 5, none⟩ = some (.int .i64 (xs[k]).write.kind) := ((Below.refl w.heap.size w).cell (p := ⟨b, off + k * 10 + 5, none⟩) hbl).trans (hc 5 (by decide))
    have c6 : w.cell? ⟨b, off + k * 10 + 6, none⟩ = some (.int .i64 (xs[k]).write.id) := ((Below.refl w.heap.size w).cell (p := ⟨b, off + k * 10 + 6, none⟩) hbl).trans (hc 6 (by decide))
    have c7 : w.cell? ⟨b, off + k * 10 + 7, none⟩ = some (.slice a7 (xs[k]).write.vec.length d7) := ((Below.refl w.heap.size w).cell (p := ⟨b, off + k * 10 + 7, none⟩) hbl).trans (hc 7 (by decide))
    have c8 : w.cell? ⟨b, off + k * 10 + 8, none⟩ = some (.int .i64 (xs[k]).write.session) := ((Below.refl w.heap.size w).cell (p := ⟨b, off + k * 10 + 8, none⟩) hbl).trans (hc 8 (by decide))
    have c9 : w.cell? ⟨b, off + k * 10 + 9, none⟩ = some (.int .i64 (xs[k]).write.seq) := ((Below.refl w.heap.size w).cell (p := ⟨b, off + k * 10 + 9, none⟩) hbl).trans (hc 9 (by decide))
    have c0z : w.cell? ⟨b2, off2 + k * 10, none⟩ = some (.int .i64 (xs[k]).kind) := ((Below.refl w.heap.size w).cell (p := ⟨b2, off2 + k * 10, none⟩) hbl2).trans (hcz 0 (by decide))
    have c1z : w.cell? ⟨b2, off2 + k * 10 + 1, none⟩ = some (.int .i64 (xs[k]).epoch) := ((Below.refl w.heap.size w).cell (p := ⟨b2, off2 + k * 10 + 1, none⟩) hbl2).trans (hcz 1 (by decide))
    have c2z : w.cell? ⟨b2, off2 + k * 10 + 2, none⟩ = some (.int .i64 (xs[k]).src) := ((Below.refl w.heap.size w).cell (p := ⟨b2, off2 + k * 10 + 2, none⟩) hbl2).trans (hcz 2 (by decide))
    have c3z : w.cell? ⟨b2, off2 + k * 10 + 3, none⟩ = some (.int .i64 (xs[k]).dst) := ((Below.refl w.heap.size w).cell (p := ⟨b2, off2 + k * 10 + 3, none⟩) hbl2).trans (hcz 3 (by decide))
    have c4z : w.cell? ⟨b2, off2 + k * 10 + 4, none⟩ = some (.int .i64 (xs[k]).index) := ((Below.refl w.heap.size w).cell (p := ⟨b2, off2 + k * 10 + 4, none⟩) hbl2).trans (hcz 4 (by decide))
    have c5z : w.cell? ⟨b2, off2 + k * 10 + 5, none⟩ = some (.int .i64 (xs[k]).write.kind) := ((Below.refl w.heap.size w).cell (p := ⟨b2, off2 + k * 10 + 5, none⟩) hbl2).trans (hcz 5 (by decide))
    have c6z : w.cell? ⟨b2, off2 + k * 10 + 6, none⟩ = some (.int .i64 (xs[k]).write.id) := ((Below.refl w.heap.size w).cell (p := ⟨b2, off2 + k * 10 + 6, none⟩) hbl2).trans (hcz 6 (by decide))
    have c7z : w.cell? ⟨b2, off2 + k * 10 + 7, none⟩ = some (.slice a7z (xs[k]).write.vec.length d7z) := ((Below.refl w.heap.size w).cell (p := ⟨b2, off2 + k * 10 + 7, none⟩) hbl2).trans (hcz 7 (by decide))
    have c8z : w.cell? ⟨b2, off2 + k * 10 + 8, none⟩ = some (.int .i64 (xs[k]).write.session) := ((Below.refl w.heap.size w).cell (p := ⟨b2, off2 + k * 10 + 8, none⟩) hbl2).trans (hcz 8 (by decide))
    have c9z : w.cell? ⟨b2, off2 + k * 10 + 9, none⟩ = some (.int .i64 (xs[k]).write.seq) := ((Below.refl w.heap.size w).cell (p := ⟨b2, off2 + k * 10 + 9, none⟩) hbl2).trans (hcz 9 (by decide))
    clear hc hcz
    have HR := yh hr
    have HRZ := yh hrz
    clear hr hrz
    have HB := yh hB
    clear hB
    generalize hxk : xs[k] = x at *
    clear hxk
    have i1 : (0 : Int) ≤ (k : Int) := by omega
    have i2 : (k : Int) < (xs.length : Int) := by omega
    go_wp2_with fail
    refine wp_region_noPanic ?_
    refine wp_region_held_drew (S := fun w' => Below w.heap.size w w') (by kernel_rfl) (uh HB).drew (fun zq => ?_)
    generalize wr.drew = wD at zq ⊢
    refine tkH 0 zq ?_
    refine tkH 1 zq ?_
    refine tkH 2 zq ?_
    refine tkJ 3 (v := ?v3) ?h3 zq ?r3
    case h3 =>
     intro wS hSw
     have y0 := (hSw.cell (p := ⟨b, off + k * 10, none⟩) hbl).trans c0
     have y1 := (hSw.cell (p := ⟨b, off + k * 10 + 1, none⟩) hbl).trans c1
     have y2 := (hSw.cell (p := ⟨b, off + k * 10 + 2, none⟩) hbl).trans c2
     have y3 := (hSw.cell (p := ⟨b, off + k * 10 + 3, none⟩) hbl).trans c3
     have y4 := (hSw.cell (p := ⟨b, off + k * 10 + 4, none⟩) hbl).trans c4
     have y5 := (hSw.cell (p := ⟨b, off + k * 10 + 5, none⟩) hbl).trans c5
     have y6 := (hSw.cell (p := ⟨b, off + k * 10 + 6, none⟩) hbl).trans c6
     have y7 := (hSw.cell (p := ⟨b, off + k * 10 + 7, none⟩) hbl).trans c7
     have y8 := (hSw.cell (p := ⟨b, off + k * 10 + 8, none⟩) hbl).trans c8
     have y9 := (hSw.cell (p := ⟨b, off + k * 10 + 9, none⟩) hbl).trans c9
     clear hSw
     (try dsimp only at hSw)
     go_simp
     try with_reducible rfl
    refine tkH 4 zq ?_
    refine tkH 5 zq ?_
    refine tkH 6 zq ?_
    refine tkJ 7 (v := ?v7) ?h7 zq ?r7
    case h7 =>
     intro wS hSw
     have y0z := (hSw.cell (p := ⟨b2, off2 + k * 10, none⟩) hbl2).trans c0z
     have y1z := (hSw.cell (p := ⟨b2, off2 + k * 10 + 1, none⟩) hbl2).trans c1z
     have y2z := (hSw.cell (p := ⟨b2, off2 + k * 10 + 2, none⟩) hbl2).trans c2z
     have y3z := (hSw.cell (p := ⟨b2, off2 + k * 10 + 3, none⟩) hbl2).trans c3z
     have y4z := (hSw.cell (p := ⟨b2, off2 + k * 10 + 4, none⟩) hbl2).trans c4z
     have y5z := (hSw.cell (p := ⟨b2, off2 + k * 10 + 5, none⟩) hbl2).trans c5z
     have y6z := (hSw.cell (p := ⟨b2, off2 + k * 10 + 6, none⟩) hbl2).trans c6z
     have y7z := (hSw.cell (p := ⟨b2, off2 + k * 10 + 7, none⟩) hbl2).trans c7z
     have y8z := (hSw.cell (p := ⟨b2, off2 + k * 10 + 8, none⟩) hbl2).trans c8z
     have y9z := (hSw.cell (p := ⟨b2, off2 + k * 10 + 9, none⟩) hbl2).trans c9z
     clear hSw
     (try dsimp only at hSw)
     go_simp
     try with_reducible rfl
    refine rdH 8 (fun K hK => ?_)
    go_simp
    go_at_call 144
    refine (eq_Msg _ _ x _ ((uh HR).later zq) ((uh HRZ).later zq)).mono ?_
    rintro e w3 ⟨rfl, hbw⟩
    try go_wp2_with fail
    refine hK.out _ _ (zq.trans (hbw.mono zq.size)) (fun zq => ?_)
    clear hK K
    try simp only [Act.put, pz, py, px]
    refine tkH 9 zq ?_
    refine wpAnyH_done (by kernel_rfl) ?_ _
    refine NoPanic.normal ?_
    have HB3 := yh zq
    clear zq c0 c0z c1 c1z c2 c2z c3 c3z c4 c4z c5 c5z c6 c6z c7 c7z c8 c8z c9 c9z HB
    go_wp2_with fail
    go_roundw
    case rel => exact ⟨k + 1, by omega, by go_num, uh HB3⟩
    case measure => simp [intOf]; omega
   have HB := yh hB
   clear hB
   go_wp2_with fail
   go_ret
   exact ⟨rfl, uh HB⟩
 obtain rfl : xs = [] := List.eq_nil_of_length_eq_zero (by omega)
 clear h h2 hp
 simp only [List.length_nil] at *
 go_enter Tryz.func75, Tryz.ntmps75
 go_wp2_with fail
 refine wp_loop_rounds 1 ?_
 rw [rounds_succ]
 go_wp2_with fail
 go_ret
 exact ⟨rfl, Below.refl _ _⟩
theorem eq_Hit (cs cs2 : List Value) (x : DHit) (w : World) (h : Lay.tHit.Reads w cs x) (h2 : Lay.tHit.Reads w cs2 x) :
  Calls Tryz.prog 192 #[.agg cs.toArray, .agg cs2.toArray] w fun e w' => e = .returned (.bool true) ∧ Below w.heap.size w w' := by
 obtain ⟨bl, h⟩ := h
 obtain ⟨rfl, -⟩ := lies_Hit.1 h
 obtain ⟨bl2, h2⟩ := h2
 obtain ⟨rfl, -⟩ := lies_Hit.1 h2
 clear h h2
 have e0 : (x.id != x.id) = false := by simp
 have e1 : (x.score != x.score) = false := by simp
 have HB0 : Below w.heap.size w ((w.alloc (.cells #[.int .i64 x.id, .int .i64 x.score] 196)).alloc (.cells #[.int .i64 x.id, .int .i64 x.score] 196)) := ((Below.refl _ _).alloc (Nat.le_refl _) _).alloc (by simp) _
 go_enter Tryz.func192, Tryz.ntmps192
 go_wp2_with fail
 go_ret
 exact ⟨rfl, HB0⟩
theorem eq_HitS (v v2 : Value) (xs : List DHit) (w : World) (h : (Lay.sl Lay.tHit).Reads w [v] xs) (h2 : (Lay.sl Lay.tHit).Reads w [v2] xs) :
  Calls Tryz.prog 106 #[v, v2] w fun e w' => e = .returned (.bool true) ∧ Below w.heap.size w w' := by
 have hbig := h.big
 obtain ⟨ao, cap, rfl⟩ := open_sl h
 obtain ⟨ao2, cap2, rfl⟩ := open_sl h2
 by_cases hp : 0 < xs.length
 ·
  obtain ⟨b, off, rfl, hbl⟩ := Lay.sl_addr h hp
  obtain ⟨b2, off2, rfl, hbl2⟩ := Lay.sl_addr h2 hp
  have H := yh h
  have H2 := yh h2
  clear h h2
  go_enter Tryz.func106, Tryz.ntmps106
  go_wp2_with fail
  go_loopw [5] (fun i wr => ∃ k : Nat, k ≤ xs.length ∧ i = .int .i64 k ∧ Below w.heap.size w wr) (fun i _ => xs.length - (intOf i).toNat)
  case atStart => exact ⟨0, Nat.zero_le _, rfl, Below.refl _ _⟩
  case round =>
   obtain ⟨k, hk, rfl, hB⟩ := hrel
   by_cases hlt : k < xs.length
   ·
    obtain ⟨row, hc, hr⟩ := Lay.row_at (uh H) hlt
    obtain ⟨rowz, hcz, hrz⟩ := Lay.row_at (uh H2) hlt
    have hr2 := hr
    obtain ⟨blo, hlo⟩ := hr2; obtain ⟨rfl, -⟩ := lies_Hit.1 hlo; clear hlo
    have hrz2 := hrz
    obtain ⟨bloz, hloz⟩ := hrz2; obtain ⟨rfl, -⟩ := lies_Hit.1 hloz; clear hloz
    have c0 : w.cell? ⟨b, off + k * 2, none⟩ = some (.int .i64 (xs[k]).id) := ((Below.refl w.heap.size w).cell (p := ⟨b, off + k * 2, none⟩) hbl).trans (hc 0 (by decide))
    have c1 : w.cell? ⟨b, off + k * 2 + 1, none⟩ = some (.int .i64 (xs[k]).score) := ((Below.refl w.heap.size w).cell (p := ⟨b, off + k * 2 + 1, none⟩) hbl).trans (hc 1 (by decide))
    have c0z : w.cell? ⟨b2, off2 + k * 2, none⟩ = some (.int .i64 (xs[k]).id) := ((Below.refl w.heap.size w).cell (p := ⟨b2, off2 + k * 2, none⟩) hbl2).trans (hcz 0 (by decide))
    have c1z : w.cell? ⟨b2, off2 + k * 2 + 1, none⟩ = some (.int .i64 (xs[k]).score) := ((Below.refl w.heap.size w).cell (p := ⟨b2, off2 + k * 2 + 1, none⟩) hbl2).trans (hcz 1 (by decide))
    clear hc hcz
    have HR := yh hr
    have HRZ := yh hrz
    clear hr hrz
    have HB := yh hB
    clear hB
    generalize hxk : xs[k] = x at *
    clear hxk
    have i1 : (0 : Int) ≤ (k : Int) := by omega
    have i2 : (k : Int) < (xs.length : Int) := by omega
    go_wp2_with fail
    refine wp_region_noPanic ?_
    refine wp_region_held_drew (S := fun w' => Below w.heap.size w w') (by kernel_rfl) (uh HB).drew (fun zq => ?_)
    generalize wr.drew = wD at zq ⊢
    refine tkH 0 zq ?_
    refine tkH 1 zq ?_
    refine tkH 2 zq ?_
    refine tkJ 3 (v := ?v3) ?h3 zq ?r3
    case h3 =>
     intro wS hSw
     have y0 := (hSw.cell (p := ⟨b, off + k * 2, none⟩) hbl).trans c0
     have y1 := (hSw.cell (p := ⟨b, off + k * 2 + 1, none⟩) hbl).trans c1
     clear hSw
     (try dsimp only at hSw)
     go_simp
     try with_reducible rfl
    refine tkH 4 zq ?_
    refine tkH 5 zq ?_
    refine tkH 6 zq ?_
    refine tkJ 7 (v := ?v7) ?h7 zq ?r7
    case h7 =>
     intro wS hSw
     have y0z := (hSw.cell (p := ⟨b2, off2 + k * 2, none⟩) hbl2).trans c0z
     have y1z := (hSw.cell (p := ⟨b2, off2 + k * 2 + 1, none⟩) hbl2).trans c1z
     clear hSw
     (try dsimp only at hSw)
     go_simp
     try with_reducible rfl
    refine rdH 8 (fun K hK => ?_)
    go_simp
    go_at_call 192
    refine (eq_Hit _ _ x _ ((uh HR).later zq) ((uh HRZ).later zq)).mono ?_
    rintro e w3 ⟨rfl, hbw⟩
    try go_wp2_with fail
    refine hK.out _ _ (zq.trans (hbw.mono zq.size)) (fun zq => ?_)
    clear hK K
    try simp only [Act.put, pz, py, px]
    refine tkH 9 zq ?_
    refine wpAnyH_done (by kernel_rfl) ?_ _
    refine NoPanic.normal ?_
    have HB3 := yh zq
    clear zq c0 c0z c1 c1z HB
    go_wp2_with fail
    go_roundw
    case rel => exact ⟨k + 1, by omega, by go_num, uh HB3⟩
    case measure => simp [intOf]; omega
   have HB := yh hB
   clear hB
   go_wp2_with fail
   go_ret
   exact ⟨rfl, uh HB⟩
 obtain rfl : xs = [] := List.eq_nil_of_length_eq_zero (by omega)
 clear h h2 hp
 simp only [List.length_nil] at *
 go_enter Tryz.func106, Tryz.ntmps106
 go_wp2_with fail
 refine wp_loop_rounds 1 ?_
 rw [rounds_succ]
 go_wp2_with fail
 go_ret
 exact ⟨rfl, Below.refl _ _⟩
theorem eq_Entry (cs cs2 : List Value) (x : DEntry) (w : World) (h : Lay.tEntry.Reads w cs x) (h2 : Lay.tEntry.Reads w cs2 x) :
  Calls Tryz.prog 145 #[.agg cs.toArray, .agg cs2.toArray] w fun e w' => e = .returned (.bool true) ∧ Below w.heap.size w w' := by
 obtain ⟨a4, d4, a9, d9, a10, d10, rfl, R4, R9, R10⟩ := open_Entry h
 obtain ⟨a4z, d4z, a9z, d9z, a10z, d10z, rfl, R4z, R9z, R10z⟩ := open_Entry h2
 clear h h2
 have e0 : (x.kind != x.kind) = false := by simp
 have e1 : (x.session != x.session) = false := by simp
 have e2 : (x.seq != x.seq) = false := by simp
 have e3 : (x.id != x.id) = false := by simp
 have e5 : (x.k != x.k) = false := by simp
 have e6 : (x.start != x.start) = false := by simp
 have e7 : (x.fin != x.fin) = false := by simp
 have e8 : (x.place != x.place) = false := by simp
 have HB0 : Below w.heap.size w ((w.alloc (.cells #[.int .i64 x.kind, .int .i64 x.session, .int .i64 x.seq, .int .i64 x.id, .slice a4 x.query.length d4, .int .i64 x.k, .int .i64 x.start, .int .i64 x.fin, .int .i64 x.place, .slice a9 x.vec.length d9, .slice a10 x.hits.length d10] 127)).alloc (.cells #[.int .i64 x.kind, .int .i64 x.session, .int .i64 x.seq, .int .i64 x.id, .slice a4z x.query.length d4z, .int .i64 x.k, .int .i64 x.start, .int .i64 x.fin, .int .i64 x.place, .slice a9z x.vec.length d9z, .slice a10z x.hits.length d10z] 127)) := ((Below.refl _ _).alloc (Nat.le_refl _) _).alloc (by simp) _
 have bA : Box w.heap.size #[.int .i64 x.kind, .int .i64 x.session, .int .i64 x.seq, .int .i64 x.id, .slice a4 x.query.length d4, .int .i64 x.k, .int .i64 x.start, .int .i64 x.fin, .int .i64 x.place, .slice a9 x.vec.length d9, .slice a10 x.hits.length d10] 127 ((w.alloc (.cells #[.int .i64 x.kind, .int .i64 x.session, .int .i64 x.seq, .int .i64 x.id, .slice a4 x.query.length d4, .int .i64 x.k, .int .i64 x.start, .int .i64 x.fin, .int .i64 x.place, .slice a9 x.vec.length d9, .slice a10 x.hits.length d10] 127)).alloc (.cells #[.int .i64 x.kind, .int .i64 x.session, .int .i64 x.seq, .int .i64 x.id, .slice a4z x.query.length d4z, .int .i64 x.k, .int .i64 x.start, .int .i64 x.fin, .int .i64 x.place, .slice a9z x.vec.length d9z, .slice a10z x.hits.length d10z] 127)) w.heap.size := (newBox (Nat.le_refl _)).grow _
 have bC : Box w.heap.size #[.int .i64 x.kind, .int .i64 x.session, .int .i64 x.seq, .int .i64 x.id, .slice a4z x.query.length d4z, .int .i64 x.k, .int .i64 x.start, .int .i64 x.fin, .int .i64 x.place, .slice a9z x.vec.length d9z, .slice a10z x.hits.length d10z] 127 ((w.alloc (.cells #[.int .i64 x.kind, .int .i64 x.session, .int .i64 x.seq, .int .i64 x.id, .slice a4 x.query.length d4, .int .i64 x.k, .int .i64 x.start, .int .i64 x.fin, .int .i64 x.place, .slice a9 x.vec.length d9, .slice a10 x.hits.length d10] 127)).alloc (.cells #[.int .i64 x.kind, .int .i64 x.session, .int .i64 x.seq, .int .i64 x.id, .slice a4z x.query.length d4z, .int .i64 x.k, .int .i64 x.start, .int .i64 x.fin, .int .i64 x.place, .slice a9z x.vec.length d9z, .slice a10z x.hits.length d10z] 127)) (w.heap.size + 1) := newBoxAt (by omega) (by simp)
 go_enter Tryz.func145, Tryz.ntmps145
 go_wp2_with fail
 generalize (w.alloc (.cells #[.int .i64 x.kind, .int .i64 x.session, .int .i64 x.seq, .int .i64 x.id, .slice a4 x.query.length d4, .int .i64 x.k, .int .i64 x.start, .int .i64 x.fin, .int .i64 x.place, .slice a9 x.vec.length d9, .slice a10 x.hits.length d10] 127)).alloc (.cells #[.int .i64 x.kind, .int .i64 x.session, .int .i64 x.seq, .int .i64 x.id, .slice a4z x.query.length d4z, .int .i64 x.k, .int .i64 x.start, .int .i64 x.fin, .int .i64 x.place, .slice a9z x.vec.length d9z, .slice a10z x.hits.length d10z] 127) = W0 at *
 replace R4 := R4.later HB0
 replace R4z := R4z.later HB0
 replace R9 := R9.later HB0
 replace R9z := R9z.later HB0
 replace R10 := R10.later HB0
 replace R10z := R10z.later HB0
 refine (eq_Int64S _ _ x.query _ R4 R4z).mono ?_
 rintro e w1 ⟨rfl, hb⟩
 replace bA := bA.keep hb
 replace bC := bC.keep hb
 replace HB0 := HB0.trans (hb.mono HB0.size)
 replace R9 := R9.later hb
 replace R9z := R9z.later hb
 replace R10 := R10.later hb
 replace R10z := R10z.later hb
 have p5 := bA.at 5 _ rfl
 have q5 := bC.at 5 _ rfl
 have p6 := bA.at 6 _ rfl
 have q6 := bC.at 6 _ rfl
 have p7 := bA.at 7 _ rfl
 have q7 := bC.at 7 _ rfl
 have p8 := bA.at 8 _ rfl
 have q8 := bC.at 8 _ rfl
 have p9 := bA.at 9 _ rfl
 have q9 := bC.at 9 _ rfl
 have p10 := bA.at 10 _ rfl
 have q10 := bC.at 10 _ rfl
 clear hb
 have HB := yh HB0
 have HA := yh bA
 have HC := yh bC
 clear HB0 bA bC
 have S9 := yh R9
 have S9z := yh R9z
 clear R9 R9z
 have S10 := yh R10
 have S10z := yh R10z
 clear R10 R10z
 go_wp2_with fail
 have HB0 := uh HB
 have bA := uh HA
 have bC := uh HC
 clear HB HA HC
 clear p5 q5
 clear p6 q6
 clear p7 q7
 clear p8 q8
 clear p9 q9
 clear p10 q10
 have R9 := uh S9
 have R9z := uh S9z
 clear S9 S9z
 have R10 := uh S10
 have R10z := uh S10z
 clear S10 S10z
 refine (eq_Int64S _ _ x.vec _ R9 R9z).mono ?_
 rintro e w2 ⟨rfl, hb⟩
 replace bA := bA.keep hb
 replace bC := bC.keep hb
 replace HB0 := HB0.trans (hb.mono HB0.size)
 replace R10 := R10.later hb
 replace R10z := R10z.later hb
 have p10 := bA.at 10 _ rfl
 have q10 := bC.at 10 _ rfl
 clear hb
 have HB := yh HB0
 have HA := yh bA
 have HC := yh bC
 clear HB0 bA bC
 have S10 := yh R10
 have S10z := yh R10z
 clear R10 R10z
 go_wp2_with fail
 have HB0 := uh HB
 have bA := uh HA
 have bC := uh HC
 clear HB HA HC
 clear p10 q10
 have R10 := uh S10
 have R10z := uh S10z
 clear S10 S10z
 refine (eq_HitS _ _ x.hits _ R10 R10z).mono ?_
 rintro e w3 ⟨rfl, hb⟩
 replace bA := bA.keep hb
 replace bC := bC.keep hb
 replace HB0 := HB0.trans (hb.mono HB0.size)
 clear hb
 have HB := yh HB0
 have HA := yh bA
 have HC := yh bC
 clear HB0 bA bC
 go_wp2_with fail
 go_ret
 exact ⟨rfl, uh HB⟩
theorem eq_EntryS (v v2 : Value) (xs : List DEntry) (w : World) (h : (Lay.sl Lay.tEntry).Reads w [v] xs) (h2 : (Lay.sl Lay.tEntry).Reads w [v2] xs) :
  Calls Tryz.prog 76 #[v, v2] w fun e w' => e = .returned (.bool true) ∧ Below w.heap.size w w' := by
 have hbig := h.big
 obtain ⟨ao, cap, rfl⟩ := open_sl h
 obtain ⟨ao2, cap2, rfl⟩ := open_sl h2
 by_cases hp : 0 < xs.length
 ·
  obtain ⟨b, off, rfl, hbl⟩ := Lay.sl_addr h hp
  obtain ⟨b2, off2, rfl, hbl2⟩ := Lay.sl_addr h2 hp
  have H := yh h
  have H2 := yh h2
  clear h h2
  go_enter Tryz.func76, Tryz.ntmps76
  go_wp2_with fail
  go_loopw [5] (fun i wr => ∃ k : Nat, k ≤ xs.length ∧ i = .int .i64 k ∧ Below w.heap.size w wr) (fun i _ => xs.length - (intOf i).toNat)
  case atStart => exact ⟨0, Nat.zero_le _, rfl, Below.refl _ _⟩
  case round =>
   obtain ⟨k, hk, rfl, hB⟩ := hrel
   by_cases hlt : k < xs.length
   ·
    obtain ⟨row, hc, hr⟩ := Lay.row_at (uh H) hlt
    obtain ⟨rowz, hcz, hrz⟩ := Lay.row_at (uh H2) hlt
    have hr2 := hr
    obtain ⟨a4, d4, a9, d9, a10, d10, rfl, -, -, -⟩ := open_Entry hr2
    have hrz2 := hrz
    obtain ⟨a4z, d4z, a9z, d9z, a10z, d10z, rfl, -, -, -⟩ := open_Entry hrz2
    have c0 : w.cell? ⟨b, off + k * 11, none⟩ = some (.int .i64 (xs[k]).kind) := ((Below.refl w.heap.size w).cell (p := ⟨b, off + k * 11, none⟩) hbl).trans (hc 0 (by decide))
    have c1 : w.cell? ⟨b, off + k * 11 + 1, none⟩ = some (.int .i64 (xs[k]).session) := ((Below.refl w.heap.size w).cell (p := ⟨b, off + k * 11 + 1, none⟩) hbl).trans (hc 1 (by decide))
    have c2 : w.cell? ⟨b, off + k * 11 + 2, none⟩ = some (.int .i64 (xs[k]).seq) := ((Below.refl w.heap.size w).cell (p := ⟨b, off + k * 11 + 2, none⟩) hbl).trans (hc 2 (by decide))
    have c3 : w.cell? ⟨b, off + k * 11 + 3, none⟩ = some (.int .i64 (xs[k]).id) := ((Below.refl w.heap.size w).cell (p := ⟨b, off + k * 11 + 3, none⟩) hbl).trans (hc 3 (by decide))
    have c4 : w.cell? ⟨b, off + k * 11 + 4, none⟩ = some (.slice a4 (xs[k]).query.length d4) := ((Below.refl w.heap.size w).cell (p := ⟨b, off + k * 11 + 4, none⟩) hbl).trans (hc 4 (by decide))
    have c5 : w.cell? ⟨b, off + k * 11 + 5, none⟩ = some (.int .i64 (xs[k]).k) := ((Below.refl w.heap.size w).cell (p := ⟨b, off + k * 11 + 5, none⟩) hbl).trans (hc 5 (by decide))
    have c6 : w.cell? ⟨b, off + k * 11 + 6, none⟩ = some (.int .i64 (xs[k]).start) := ((Below.refl w.heap.size w).cell (p := ⟨b, off + k * 11 + 6, none⟩) hbl).trans (hc 6 (by decide))
    have c7 : w.cell? ⟨b, off + k * 11 + 7, none⟩ = some (.int .i64 (xs[k]).fin) := ((Below.refl w.heap.size w).cell (p := ⟨b, off + k * 11 + 7, none⟩) hbl).trans (hc 7 (by decide))
    have c8 : w.cell? ⟨b, off + k * 11 + 8, none⟩ = some (.int .i64 (xs[k]).place) := ((Below.refl w.heap.size w).cell (p := ⟨b, off + k * 11 + 8, none⟩) hbl).trans (hc 8 (by decide))
    have c9 : w.cell? ⟨b, off + k * 11 + 9, none⟩ = some (.slice a9 (xs[k]).vec.length d9) := ((Below.refl w.heap.size w).cell (p := ⟨b, off + k * 11 + 9, none⟩) hbl).trans (hc 9 (by decide))
    have c10 : w.cell? ⟨b, off + k * 11 + 10, none⟩ = some (.slice a10 (xs[k]).hits.length d10) := ((Below.refl w.heap.size w).cell (p := ⟨b, off + k * 11 + 10, none⟩) hbl).trans (hc 10 (by decide))
    have c0z : w.cell? ⟨b2, off2 + k * 11, none⟩ = some (.int .i64 (xs[k]).kind) := ((Below.refl w.heap.size w).cell (p := ⟨b2, off2 + k * 11, none⟩) hbl2).trans (hcz 0 (by decide))
    have c1z : w.cell? ⟨b2, off2 + k * 11 + 1, none⟩ = some (.int .i64 (xs[k]).session) := ((Below.refl w.heap.size w).cell (p := ⟨b2, off2 + k * 11 + 1, none⟩) hbl2).trans (hcz 1 (by decide))
    have c2z : w.cell? ⟨b2, off2 + k * 11 + 2, none⟩ = some (.int .i64 (xs[k]).seq) := ((Below.refl w.heap.size w).cell (p := ⟨b2, off2 + k * 11 + 2, none⟩) hbl2).trans (hcz 2 (by decide))
    have c3z : w.cell? ⟨b2, off2 + k * 11 + 3, none⟩ = some (.int .i64 (xs[k]).id) := ((Below.refl w.heap.size w).cell (p := ⟨b2, off2 + k * 11 + 3, none⟩) hbl2).trans (hcz 3 (by decide))
    have c4z : w.cell? ⟨b2, off2 + k * 11 + 4, none⟩ = some (.slice a4z (xs[k]).query.length d4z) := ((Below.refl w.heap.size w).cell (p := ⟨b2, off2 + k * 11 + 4, none⟩) hbl2).trans (hcz 4 (by decide))
    have c5z : w.cell? ⟨b2, off2 + k * 11 + 5, none⟩ = some (.int .i64 (xs[k]).k) := ((Below.refl w.heap.size w).cell (p := ⟨b2, off2 + k * 11 + 5, none⟩) hbl2).trans (hcz 5 (by decide))
    have c6z : w.cell? ⟨b2, off2 + k * 11 + 6, none⟩ = some (.int .i64 (xs[k]).start) := ((Below.refl w.heap.size w).cell (p := ⟨b2, off2 + k * 11 + 6, none⟩) hbl2).trans (hcz 6 (by decide))
    have c7z : w.cell? ⟨b2, off2 + k * 11 + 7, none⟩ = some (.int .i64 (xs[k]).fin) := ((Below.refl w.heap.size w).cell (p := ⟨b2, off2 + k * 11 + 7, none⟩) hbl2).trans (hcz 7 (by decide))
    have c8z : w.cell? ⟨b2, off2 + k * 11 + 8, none⟩ = some (.int .i64 (xs[k]).place) := ((Below.refl w.heap.size w).cell (p := ⟨b2, off2 + k * 11 + 8, none⟩) hbl2).trans (hcz 8 (by decide))
    have c9z : w.cell? ⟨b2, off2 + k * 11 + 9, none⟩ = some (.slice a9z (xs[k]).vec.length d9z) := ((Below.refl w.heap.size w).cell (p := ⟨b2, off2 + k * 11 + 9, none⟩) hbl2).trans (hcz 9 (by decide))
    have c10z : w.cell? ⟨b2, off2 + k * 11 + 10, none⟩ = some (.slice a10z (xs[k]).hits.length d10z) := ((Below.refl w.heap.size w).cell (p := ⟨b2, off2 + k * 11 + 10, none⟩) hbl2).trans (hcz 10 (by decide))
    clear hc hcz
    have HR := yh hr
    have HRZ := yh hrz
    clear hr hrz
    have HB := yh hB
    clear hB
    generalize hxk : xs[k] = x at *
    clear hxk
    have i1 : (0 : Int) ≤ (k : Int) := by omega
    have i2 : (k : Int) < (xs.length : Int) := by omega
    go_wp2_with fail
    refine wp_region_noPanic ?_
    refine wp_region_held_drew (S := fun w' => Below w.heap.size w w') (by kernel_rfl) (uh HB).drew (fun zq => ?_)
    generalize wr.drew = wD at zq ⊢
    refine tkH 0 zq ?_
    refine tkH 1 zq ?_
    refine tkH 2 zq ?_
    refine tkJ 3 (v := ?v3) ?h3 zq ?r3
    case h3 =>
     intro wS hSw
     have y0 := (hSw.cell (p := ⟨b, off + k * 11, none⟩) hbl).trans c0
     have y1 := (hSw.cell (p := ⟨b, off + k * 11 + 1, none⟩) hbl).trans c1
     have y2 := (hSw.cell (p := ⟨b, off + k * 11 + 2, none⟩) hbl).trans c2
     have y3 := (hSw.cell (p := ⟨b, off + k * 11 + 3, none⟩) hbl).trans c3
     have y4 := (hSw.cell (p := ⟨b, off + k * 11 + 4, none⟩) hbl).trans c4
     have y5 := (hSw.cell (p := ⟨b, off + k * 11 + 5, none⟩) hbl).trans c5
     have y6 := (hSw.cell (p := ⟨b, off + k * 11 + 6, none⟩) hbl).trans c6
     have y7 := (hSw.cell (p := ⟨b, off + k * 11 + 7, none⟩) hbl).trans c7
     have y8 := (hSw.cell (p := ⟨b, off + k * 11 + 8, none⟩) hbl).trans c8
     have y9 := (hSw.cell (p := ⟨b, off + k * 11 + 9, none⟩) hbl).trans c9
     have y10 := (hSw.cell (p := ⟨b, off + k * 11 + 10, none⟩) hbl).trans c10
     clear hSw
     (try dsimp only at hSw)
     go_simp
     try with_reducible rfl
    refine tkH 4 zq ?_
    refine tkH 5 zq ?_
    refine tkH 6 zq ?_
    refine tkJ 7 (v := ?v7) ?h7 zq ?r7
    case h7 =>
     intro wS hSw
     have y0z := (hSw.cell (p := ⟨b2, off2 + k * 11, none⟩) hbl2).trans c0z
     have y1z := (hSw.cell (p := ⟨b2, off2 + k * 11 + 1, none⟩) hbl2).trans c1z
     have y2z := (hSw.cell (p := ⟨b2, off2 + k * 11 + 2, none⟩) hbl2).trans c2z
     have y3z := (hSw.cell (p := ⟨b2, off2 + k * 11 + 3, none⟩) hbl2).trans c3z
     have y4z := (hSw.cell (p := ⟨b2, off2 + k * 11 + 4, none⟩) hbl2).trans c4z
     have y5z := (hSw.cell (p := ⟨b2, off2 + k * 11 + 5, none⟩) hbl2).trans c5z
     have y6z := (hSw.cell (p := ⟨b2, off2 + k * 11 + 6, none⟩) hbl2).trans c6z
     have y7z := (hSw.cell (p := ⟨b2, off2 + k * 11 + 7, none⟩) hbl2).trans c7z
     have y8z := (hSw.cell (p := ⟨b2, off2 + k * 11 + 8, none⟩) hbl2).trans c8z
     have y9z := (hSw.cell (p := ⟨b2, off2 + k * 11 + 9, none⟩) hbl2).trans c9z
     have y10z := (hSw.cell (p := ⟨b2, off2 + k * 11 + 10, none⟩) hbl2).trans c10z
     clear hSw
     (try dsimp only at hSw)
     go_simp
     try with_reducible rfl
    refine rdH 8 (fun K hK => ?_)
    go_simp
    go_at_call 145
    refine (eq_Entry _ _ x _ ((uh HR).later zq) ((uh HRZ).later zq)).mono ?_
    rintro e w3 ⟨rfl, hbw⟩
    try go_wp2_with fail
    refine hK.out _ _ (zq.trans (hbw.mono zq.size)) (fun zq => ?_)
    clear hK K
    try simp only [Act.put, pz, py, px]
    refine tkH 9 zq ?_
    refine wpAnyH_done (by kernel_rfl) ?_ _
    refine NoPanic.normal ?_
    have HB3 := yh zq
    clear zq c0 c0z c1 c1z c2 c2z c3 c3z c4 c4z c5 c5z c6 c6z c7 c7z c8 c8z c9 c9z c10 c10z HB
    go_wp2_with fail
    go_roundw
    case rel => exact ⟨k + 1, by omega, by go_num, uh HB3⟩
    case measure => simp [intOf]; omega
   have HB := yh hB
   clear hB
   go_wp2_with fail
   go_ret
   exact ⟨rfl, uh HB⟩
 obtain rfl : xs = [] := List.eq_nil_of_length_eq_zero (by omega)
 clear h h2 hp
 simp only [List.length_nil] at *
 go_enter Tryz.func76, Tryz.ntmps76
 go_wp2_with fail
 refine wp_loop_rounds 1 ?_
 rw [rounds_succ]
 go_wp2_with fail
 go_ret
 exact ⟨rfl, Below.refl _ _⟩
end Go.Proofs.YtoanimpijfijgaaGreat
