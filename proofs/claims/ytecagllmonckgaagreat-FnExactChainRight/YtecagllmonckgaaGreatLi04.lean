/-
  Texts of this proof in one: ToWorld, EqChain, EqWrite, EqWriteS, EqNode, EqNodeS, EqMsg, EqMsgS, EqHit, EqHitS, EqEntry, EqEntryS, EqWorld.
  Their conditions stand in their theorems.
-/
import Derived.Test.YtecagllmonckgaaGreatChecked
import Derived.Test.YtecagllmonckgaaGreatLi01
import Derived.Test.YtecagllmonckgaaGreatLi02
import Derived.Test.YtecagllmonckgaaGreatLi03
import Derived.Test.YtecagllmonckgaaGreatLi00
import Derived.Deep.RegionHeld3
set_option maxRecDepth 100000
set_option maxHeartbeats 4000000
namespace Go.Proofs.YtecagllmonckgaaGreat
open Go.RowKit
theorem fg (cs : List Value) (x : aN) (w : World) (h : ad.a8.Reads w cs x) (hn : ad.a8.sz x ≤ 1048576) :
  Calls Tryz.prog 13 #[.agg cs.toArray] w fun e w' => ∃ cs', e = .returned (.agg cs'.toArray) ∧ ad.a8.a0 w' cs' x w.heap.size w'.heap.size ∧ Below w.heap.size w w' := by
 have h0 := h
 obtain ⟨bl, hl⟩ := h0
 obtain ⟨-, -, -, -, -, -, -, -, -, -, -, -, -, -, f0, f1, f2, -, -, -, -⟩ := fv.1 hl
 clear hl
 obtain ⟨a3, d3, a4, d4, a5, d5, a6, d6, rfl, R2, R4, R5, R6⟩ := aF h
 clear h
 rw [ej] at hn
 have HF := yh (And.intro f0 (And.intro f1 (f2)))
 clear f0 f1 f2
 have HB0 : Below w.heap.size w (((w.alloc (.cells #[.int .i64 x.now, .int .i64 x.events, .int .i64 x.chain.ab, .slice a3 x.chain.ids.length d3, .slice a4 x.nodes.length d4, .slice a5 x.msgs.length d5, .slice a6 x.ae.length d6] 29)).alloc (.cells #[.int .i64 0, .int .i64 0, .int .i64 0, .slice none 0 0, .slice none 0 0, .slice none 0 0, .slice none 0 0] 37)).alloc (.cells #[.int .i64 x.now, .int .i64 x.events, .int .i64 0, .slice none 0 0, .slice none 0 0, .slice none 0 0, .slice none 0 0] 37)) := (((Below.refl _ _).alloc (Nat.le_refl _) _).alloc (by simp) _).alloc (by simp; omega) _
 have bA : ar w.heap.size #[.int .i64 x.now, .int .i64 x.events, .int .i64 x.chain.ab, .slice a3 x.chain.ids.length d3, .slice a4 x.nodes.length d4, .slice a5 x.msgs.length d5, .slice a6 x.ae.length d6] 29 (((w.alloc (.cells #[.int .i64 x.now, .int .i64 x.events, .int .i64 x.chain.ab, .slice a3 x.chain.ids.length d3, .slice a4 x.nodes.length d4, .slice a5 x.msgs.length d5, .slice a6 x.ae.length d6] 29)).alloc (.cells #[.int .i64 0, .int .i64 0, .int .i64 0, .slice none 0 0, .slice none 0 0, .slice none 0 0, .slice none 0 0] 37)).alloc (.cells #[.int .i64 x.now, .int .i64 x.events, .int .i64 0, .slice none 0 0, .slice none 0 0, .slice none 0 0, .slice none 0 0] 37)) w.heap.size := ((aM (Nat.le_refl _)).grow _).grow _
 have bR : ar w.heap.size #[.int .i64 0, .int .i64 0, .int .i64 0, .slice none 0 0, .slice none 0 0, .slice none 0 0, .slice none 0 0] 37 (((w.alloc (.cells #[.int .i64 x.now, .int .i64 x.events, .int .i64 x.chain.ab, .slice a3 x.chain.ids.length d3, .slice a4 x.nodes.length d4, .slice a5 x.msgs.length d5, .slice a6 x.ae.length d6] 29)).alloc (.cells #[.int .i64 0, .int .i64 0, .int .i64 0, .slice none 0 0, .slice none 0 0, .slice none 0 0, .slice none 0 0] 37)).alloc (.cells #[.int .i64 x.now, .int .i64 x.events, .int .i64 0, .slice none 0 0, .slice none 0 0, .slice none 0 0, .slice none 0 0] 37)) (w.heap.size + 1) := (aX (by omega) (by simp)).grow _
 have bX : ar w.heap.size #[.int .i64 x.now, .int .i64 x.events, .int .i64 0, .slice none 0 0, .slice none 0 0, .slice none 0 0, .slice none 0 0] 37 (((w.alloc (.cells #[.int .i64 x.now, .int .i64 x.events, .int .i64 x.chain.ab, .slice a3 x.chain.ids.length d3, .slice a4 x.nodes.length d4, .slice a5 x.msgs.length d5, .slice a6 x.ae.length d6] 29)).alloc (.cells #[.int .i64 0, .int .i64 0, .int .i64 0, .slice none 0 0, .slice none 0 0, .slice none 0 0, .slice none 0 0] 37)).alloc (.cells #[.int .i64 x.now, .int .i64 x.events, .int .i64 0, .slice none 0 0, .slice none 0 0, .slice none 0 0, .slice none 0 0] 37)) (w.heap.size + 2) := aX (by omega) (by simp)
 have hz0 : w.heap.size + 3 ≤ (((w.alloc (.cells #[.int .i64 x.now, .int .i64 x.events, .int .i64 x.chain.ab, .slice a3 x.chain.ids.length d3, .slice a4 x.nodes.length d4, .slice a5 x.msgs.length d5, .slice a6 x.ae.length d6] 29)).alloc (.cells #[.int .i64 0, .int .i64 0, .int .i64 0, .slice none 0 0, .slice none 0 0, .slice none 0 0, .slice none 0 0] 37)).alloc (.cells #[.int .i64 x.now, .int .i64 x.events, .int .i64 0, .slice none 0 0, .slice none 0 0, .slice none 0 0, .slice none 0 0] 37)).heap.size := by simp
 go_enter Tryz.func13, Tryz.ntmps13
 go_wp2_with fail
 generalize ((w.alloc (.cells #[.int .i64 x.now, .int .i64 x.events, .int .i64 x.chain.ab, .slice a3 x.chain.ids.length d3, .slice a4 x.nodes.length d4, .slice a5 x.msgs.length d5, .slice a6 x.ae.length d6] 29)).alloc (.cells #[.int .i64 0, .int .i64 0, .int .i64 0, .slice none 0 0, .slice none 0 0, .slice none 0 0, .slice none 0 0] 37)).alloc (.cells #[.int .i64 x.now, .int .i64 x.events, .int .i64 0, .slice none 0 0, .slice none 0 0, .slice none 0 0, .slice none 0 0] 37) = W0 at *
 replace R2 := R2.cA.af HB0
 replace R4 := R4.cA.af HB0
 replace R5 := R5.cA.af HB0
 replace R6 := R6.cA.af HB0
 refine (kz _ x.chain W0 R2.reads (by omega)).mono ?_
 rintro e w1 ⟨v2, rfl, O2, hb⟩
 have Z0 : W0.heap.size ≤ w1.heap.size := hb.size
 replace HB0 := HB0.trans (hb.mono HB0.size)
 replace bA := bA.au hb
 replace bR := bR.au hb
 replace bX := bX.au hb
 replace R4 := R4.af hb
 replace R5 := R5.af hb
 replace R6 := R6.af hb
 clear hb R2
 obtain ⟨a3z, d3z, rfl, -⟩ := ba O2.reads
 have p4 := bA.at 4 _ rfl
 have q2 := bX.at 2 _ rfl
 have q3 := bX.at 3 _ rfl
 have qf := bX.soft
 have ql := bX.lt
 have pl := bA.lt
 simp only [ga, gb, gc] at p4 q2 q3
 have hA := yh bA
 have hR := yh bR
 have hX := yh bX
 have hB := yh HB0
 clear bA bR bX HB0
 have hO2 := yh O2
 clear O2
 have hR4 := yh R4
 clear R4
 have hR5 := yh R5
 clear R5
 have hR6 := yh R6
 clear R6
 go_wp2_with fail
 clear p4 q2 q3 qf ql pl
 have E : Ext (fun q => q = w.heap.size + 2) w1 ((w1.setCell ⟨w.heap.size + 2, 2, none⟩ (.int .i64 x.chain.ab)).setCell ⟨w.heap.size + 2, 3, none⟩ (.slice a3z x.chain.ids.length d3z)) := bp (Ext.refl _ _) (w.heap.size + 2) [(2, .int .i64 x.chain.ab), (3, .slice a3z x.chain.ids.length d3z)] rfl
 have bX : ar w.heap.size #[.int .i64 x.now, .int .i64 x.events, .int .i64 x.chain.ab, .slice a3z x.chain.ids.length d3z, .slice none 0 0, .slice none 0 0, .slice none 0 0] 37 ((w1.setCell ⟨w.heap.size + 2, 2, none⟩ (.int .i64 x.chain.ab)).setCell ⟨w.heap.size + 2, 3, none⟩ (.slice a3z x.chain.ids.length d3z)) (w.heap.size + 2) := (((uh hX).set 2 (.int .i64 x.chain.ab)).set 3 (.slice a3z x.chain.ids.length d3z))
 have bA := (uh hA).ext E (by omega)
 have bR := (uh hR).ext E (by omega)
 have HB0 : Below w.heap.size w ((w1.setCell ⟨w.heap.size + 2, 2, none⟩ (.int .i64 x.chain.ab)).setCell ⟨w.heap.size + 2, 3, none⟩ (.slice a3z x.chain.ids.length d3z)) := (uh hB).trans (E.below (uh hB).size (fun k h1 h2 => by omega))
 have O2 := (uh hO2).ext E (fun k h1 h2 h3 => by omega)
 have R4 := (uh hR4).ext E (fun k h1 h2 h3 => by omega)
 have R5 := (uh hR5).ext E (fun k h1 h2 h3 => by omega)
 have R6 := (uh hR6).ext E (fun k h1 h2 h3 => by omega)
 have Y0 : w1.heap.size ≤ ((w1.setCell ⟨w.heap.size + 2, 2, none⟩ (.int .i64 x.chain.ab)).setCell ⟨w.heap.size + 2, 3, none⟩ (.slice a3z x.chain.ids.length d3z)).heap.size := E.size
 clear hA hR hX hB hO2 hR4 hR5 hR6 E
 generalize ((w1.setCell ⟨w.heap.size + 2, 2, none⟩ (.int .i64 x.chain.ab)).setCell ⟨w.heap.size + 2, 3, none⟩ (.slice a3z x.chain.ids.length d3z)) = W1 at *
 refine (kt _ x.nodes W1 R4.reads (by omega)).mono ?_
 rintro e w2 ⟨v4, rfl, O4, hb⟩
 have Z1 : W1.heap.size ≤ w2.heap.size := hb.size
 replace HB0 := HB0.trans (hb.mono HB0.size)
 replace bA := bA.au hb
 replace bR := bR.au hb
 replace bX := bX.au hb
 replace R5 := R5.af hb
 replace R6 := R6.af hb
 replace O2 := O2.af hb
 clear hb R4
 obtain ⟨a4z, d4z, rfl⟩ := aB O4.reads
 have p5 := bA.at 5 _ rfl
 have q4 := bX.at 4 _ rfl
 have qf := bX.soft
 have ql := bX.lt
 have pl := bA.lt
 simp only [ga, gb, gc] at p5 q4
 have hA := yh bA
 have hR := yh bR
 have hX := yh bX
 have hB := yh HB0
 clear bA bR bX HB0
 have hO2 := yh O2
 clear O2
 have hO4 := yh O4
 clear O4
 have hR5 := yh R5
 clear R5
 have hR6 := yh R6
 clear R6
 go_wp2_with fail
 clear p5 q4 qf ql pl
 have E : Ext (fun q => q = w.heap.size + 2) w2 (w2.setCell ⟨w.heap.size + 2, 4, none⟩ (.slice a4z x.nodes.length d4z)) := bp (Ext.refl _ _) (w.heap.size + 2) [(4, .slice a4z x.nodes.length d4z)] rfl
 have bX : ar w.heap.size #[.int .i64 x.now, .int .i64 x.events, .int .i64 x.chain.ab, .slice a3z x.chain.ids.length d3z, .slice a4z x.nodes.length d4z, .slice none 0 0, .slice none 0 0] 37 (w2.setCell ⟨w.heap.size + 2, 4, none⟩ (.slice a4z x.nodes.length d4z)) (w.heap.size + 2) := (uh hX).set 4 (.slice a4z x.nodes.length d4z)
 have bA := (uh hA).ext E (by omega)
 have bR := (uh hR).ext E (by omega)
 have HB0 : Below w.heap.size w (w2.setCell ⟨w.heap.size + 2, 4, none⟩ (.slice a4z x.nodes.length d4z)) := (uh hB).trans (E.below (uh hB).size (fun k h1 h2 => by omega))
 have O2 := (uh hO2).ext E (fun k h1 h2 h3 => by omega)
 have O4 := (uh hO4).ext E (fun k h1 h2 h3 => by omega)
 have R5 := (uh hR5).ext E (fun k h1 h2 h3 => by omega)
 have R6 := (uh hR6).ext E (fun k h1 h2 h3 => by omega)
 have Y1 : w2.heap.size ≤ (w2.setCell ⟨w.heap.size + 2, 4, none⟩ (.slice a4z x.nodes.length d4z)).heap.size := E.size
 clear hA hR hX hB hO2 hO4 hR5 hR6 E
 generalize (w2.setCell ⟨w.heap.size + 2, 4, none⟩ (.slice a4z x.nodes.length d4z)) = W2 at *
 refine (k8 _ x.msgs W2 R5.reads (by omega)).mono ?_
 rintro e w3 ⟨v5, rfl, O5, hb⟩
 have Z2 : W2.heap.size ≤ w3.heap.size := hb.size
 replace HB0 := HB0.trans (hb.mono HB0.size)
 replace bA := bA.au hb
 replace bR := bR.au hb
 replace bX := bX.au hb
 replace R6 := R6.af hb
 replace O2 := O2.af hb
 replace O4 := O4.af hb
 clear hb R5
 obtain ⟨a5z, d5z, rfl⟩ := aB O5.reads
 have p6 := bA.at 6 _ rfl
 have q5 := bX.at 5 _ rfl
 have qf := bX.soft
 have ql := bX.lt
 have pl := bA.lt
 simp only [ga, gb, gc] at p6 q5
 have hA := yh bA
 have hR := yh bR
 have hX := yh bX
 have hB := yh HB0
 clear bA bR bX HB0
 have hO2 := yh O2
 clear O2
 have hO4 := yh O4
 clear O4
 have hO5 := yh O5
 clear O5
 have hR6 := yh R6
 clear R6
 go_wp2_with fail
 clear p6 q5 qf ql pl
 have E : Ext (fun q => q = w.heap.size + 2) w3 (w3.setCell ⟨w.heap.size + 2, 5, none⟩ (.slice a5z x.msgs.length d5z)) := bp (Ext.refl _ _) (w.heap.size + 2) [(5, .slice a5z x.msgs.length d5z)] rfl
 have bX : ar w.heap.size #[.int .i64 x.now, .int .i64 x.events, .int .i64 x.chain.ab, .slice a3z x.chain.ids.length d3z, .slice a4z x.nodes.length d4z, .slice a5z x.msgs.length d5z, .slice none 0 0] 37 (w3.setCell ⟨w.heap.size + 2, 5, none⟩ (.slice a5z x.msgs.length d5z)) (w.heap.size + 2) := (uh hX).set 5 (.slice a5z x.msgs.length d5z)
 have bA := (uh hA).ext E (by omega)
 have bR := (uh hR).ext E (by omega)
 have HB0 : Below w.heap.size w (w3.setCell ⟨w.heap.size + 2, 5, none⟩ (.slice a5z x.msgs.length d5z)) := (uh hB).trans (E.below (uh hB).size (fun k h1 h2 => by omega))
 have O2 := (uh hO2).ext E (fun k h1 h2 h3 => by omega)
 have O4 := (uh hO4).ext E (fun k h1 h2 h3 => by omega)
 have O5 := (uh hO5).ext E (fun k h1 h2 h3 => by omega)
 have R6 := (uh hR6).ext E (fun k h1 h2 h3 => by omega)
 have Y2 : w3.heap.size ≤ (w3.setCell ⟨w.heap.size + 2, 5, none⟩ (.slice a5z x.msgs.length d5z)).heap.size := E.size
 clear hA hR hX hB hO2 hO4 hO5 hR6 E
 generalize (w3.setCell ⟨w.heap.size + 2, 5, none⟩ (.slice a5z x.msgs.length d5z)) = W3 at *
 refine (jm _ x.ae W3 R6.reads (by omega)).mono ?_
 rintro e w4 ⟨v6, rfl, O6, hb⟩
 have Z3 : W3.heap.size ≤ w4.heap.size := hb.size
 replace HB0 := HB0.trans (hb.mono HB0.size)
 replace bA := bA.au hb
 replace bR := bR.au hb
 replace bX := bX.au hb
 replace O2 := O2.af hb
 replace O4 := O4.af hb
 replace O5 := O5.af hb
 clear hb R6
 obtain ⟨a6z, d6z, rfl⟩ := aB O6.reads
 have q0 := bX.at 0 _ rfl
 have q1 := bX.at 1 _ rfl
 have q2 := bX.at 2 _ rfl
 have q3 := bX.at 3 _ rfl
 have q4 := bX.at 4 _ rfl
 have q5 := bX.at 5 _ rfl
 have q6 := bX.at 6 _ rfl
 have qf := bX.soft
 have ql := bX.lt
 have pl := bA.lt
 have r0 := bR.at 0 _ rfl
 have r1 := bR.at 1 _ rfl
 have r2 := bR.at 2 _ rfl
 have r3 := bR.at 3 _ rfl
 have r4 := bR.at 4 _ rfl
 have r5 := bR.at 5 _ rfl
 have r6 := bR.at 6 _ rfl
 have rf := bR.soft
 have rl := bR.lt
 simp only [ga, gb, gc] at q0 q1 q2 q3 q4 q5 q6 r0 r1 r2 r3 r4 r5 r6
 have hA := yh bA
 have hR := yh bR
 have hX := yh bX
 have hB := yh HB0
 clear bA bR bX HB0
 have hO2 := yh O2
 clear O2
 have hO4 := yh O4
 clear O4
 have hO5 := yh O5
 clear O5
 have hO6 := yh O6
 clear O6
 go_wp2_with fail
 refine bodyPost_ret (v := .agg #[.int .i64 x.now, .int .i64 x.events, .int .i64 x.chain.ab, .slice a3z x.chain.ids.length d3z, .slice a4z x.nodes.length d4z, .slice a5z x.msgs.length d5z, .slice a6z x.ae.length d6z]) (by simp [results, Tryz.results13, go_sem, r0, r1, r2, r3, r4, r5, r6]) rfl ?_
 have E : Ext (fun q => q = w.heap.size + 2 ∨ q = w.heap.size + 1) w4 _ := bp (bp (Ext.refl _ _) (w.heap.size + 2) [(6, .slice a6z x.ae.length d6z)] (Or.inl rfl)) (w.heap.size + 1) [(0, .int .i64 x.now), (1, .int .i64 x.events), (2, .int .i64 x.chain.ab), (3, .slice a3z x.chain.ids.length d3z), (4, .slice a4z x.nodes.length d4z), (5, .slice a5z x.msgs.length d5z), (6, .slice a6z x.ae.length d6z)] (Or.inr rfl)
 obtain ⟨f0, f1, f2⟩ := uh HF
 have own : ad.a8.a0 _ [.int .i64 x.now, .int .i64 x.events, .int .i64 x.chain.ab, .slice a3z x.chain.ids.length d3z, .slice a4z x.nodes.length d4z, .slice a5z x.msgs.length d5z, .slice a6z x.ae.length d6z] x w.heap.size w4.heap.size := (ad.az (ad.aK (lo := w.heap.size) (hi := w.heap.size) f0) (ad.az (ad.aK (lo := w.heap.size) (hi := w.heap.size) f1) (ad.az ((uh hO2).ext E (fun k h1 h2 h3 => by omega)) (ad.az ((uh hO4).ext E (fun k h1 h2 h3 => by omega)) (ad.az ((uh hO5).ext E (fun k h1 h2 h3 => by omega)) ((uh hO6).ext E (fun k h1 h2 h3 => by omega)) (by omega) (by omega) (by omega)) (by omega) (by omega) (by omega)) (by omega) (by omega) (by omega)) (by omega) (by omega) (by omega)) (by omega) (by omega) (by omega))
 have hsz := E.size
 have told := ad.dk (w := w) own (by omega) (by omega) ((uh hB).trans (E.below (uh hB).size (fun k h1 h2 => by omega)))
 exact told
theorem ku (cs cs2 : List Value) (x : bc) (w : World) (h : ad.aZ.Reads w cs x) (h2 : ad.aZ.Reads w cs2 x) :
  Calls Tryz.prog 62 #[.agg cs.toArray, .agg cs2.toArray] w fun e w' => e = .returned (.bool true) ∧ Below w.heap.size w w' := by
 obtain ⟨a1, d1, rfl, R1⟩ := ba h
 obtain ⟨a1z, d1z, rfl, R1z⟩ := ba h2
 clear h h2
 have e0 : (x.ab != x.ab) = false := by simp
 have HB0 : Below w.heap.size w ((w.alloc (.cells #[.int .i64 x.ab, .slice a1 x.ids.length d1] 32)).alloc (.cells #[.int .i64 x.ab, .slice a1z x.ids.length d1z] 32)) := ((Below.refl _ _).alloc (Nat.le_refl _) _).alloc (by simp) _
 have bA : ar w.heap.size #[.int .i64 x.ab, .slice a1 x.ids.length d1] 32 ((w.alloc (.cells #[.int .i64 x.ab, .slice a1 x.ids.length d1] 32)).alloc (.cells #[.int .i64 x.ab, .slice a1z x.ids.length d1z] 32)) w.heap.size := (aM (Nat.le_refl _)).grow _
 have bC : ar w.heap.size #[.int .i64 x.ab, .slice a1z x.ids.length d1z] 32 ((w.alloc (.cells #[.int .i64 x.ab, .slice a1 x.ids.length d1] 32)).alloc (.cells #[.int .i64 x.ab, .slice a1z x.ids.length d1z] 32)) (w.heap.size + 1) := aX (by omega) (by simp)
 go_enter Tryz.func62, Tryz.ntmps62
 go_wp2_with fail
 generalize (w.alloc (.cells #[.int .i64 x.ab, .slice a1 x.ids.length d1] 32)).alloc (.cells #[.int .i64 x.ab, .slice a1z x.ids.length d1z] 32) = W0 at *
 replace R1 := R1.af HB0
 replace R1z := R1z.af HB0
 refine (dt _ _ x.ids _ R1 R1z).mono ?_
 rintro e w1 ⟨rfl, hb⟩
 replace bA := bA.au hb
 replace bC := bC.au hb
 replace HB0 := HB0.trans (hb.mono HB0.size)
 clear hb
 have HB := yh HB0
 have HA := yh bA
 have HC := yh bC
 clear HB0 bA bC
 go_wp2_with fail
 go_ret
 exact ⟨rfl, uh HB⟩
theorem gP (cs cs2 : List Value) (x : ak) (w : World) (h : ad.ag.Reads w cs x) (h2 : ad.ag.Reads w cs2 x) :
  Calls Tryz.prog 198 #[.agg cs.toArray, .agg cs2.toArray] w fun e w' => e = .returned (.bool true) ∧ Below w.heap.size w w' := by
 obtain ⟨a2, d2, rfl, R2⟩ := aI h
 obtain ⟨a2z, d2z, rfl, R2z⟩ := aI h2
 clear h h2
 have e0 : (x.kind != x.kind) = false := by simp
 have e1 : (x.id != x.id) = false := by simp
 have e3 : (x.aa != x.aa) = false := by simp
 have e4 : (x.seq != x.seq) = false := by simp
 have HB0 : Below w.heap.size w ((w.alloc (.cells #[.int .i64 x.kind, .int .i64 x.id, .slice a2 x.vec.length d2, .int .i64 x.aa, .int .i64 x.seq] 142)).alloc (.cells #[.int .i64 x.kind, .int .i64 x.id, .slice a2z x.vec.length d2z, .int .i64 x.aa, .int .i64 x.seq] 142)) := ((Below.refl _ _).alloc (Nat.le_refl _) _).alloc (by simp) _
 have bA : ar w.heap.size #[.int .i64 x.kind, .int .i64 x.id, .slice a2 x.vec.length d2, .int .i64 x.aa, .int .i64 x.seq] 142 ((w.alloc (.cells #[.int .i64 x.kind, .int .i64 x.id, .slice a2 x.vec.length d2, .int .i64 x.aa, .int .i64 x.seq] 142)).alloc (.cells #[.int .i64 x.kind, .int .i64 x.id, .slice a2z x.vec.length d2z, .int .i64 x.aa, .int .i64 x.seq] 142)) w.heap.size := (aM (Nat.le_refl _)).grow _
 have bC : ar w.heap.size #[.int .i64 x.kind, .int .i64 x.id, .slice a2z x.vec.length d2z, .int .i64 x.aa, .int .i64 x.seq] 142 ((w.alloc (.cells #[.int .i64 x.kind, .int .i64 x.id, .slice a2 x.vec.length d2, .int .i64 x.aa, .int .i64 x.seq] 142)).alloc (.cells #[.int .i64 x.kind, .int .i64 x.id, .slice a2z x.vec.length d2z, .int .i64 x.aa, .int .i64 x.seq] 142)) (w.heap.size + 1) := aX (by omega) (by simp)
 go_enter Tryz.func198, Tryz.ntmps198
 go_wp2_with fail
 generalize (w.alloc (.cells #[.int .i64 x.kind, .int .i64 x.id, .slice a2 x.vec.length d2, .int .i64 x.aa, .int .i64 x.seq] 142)).alloc (.cells #[.int .i64 x.kind, .int .i64 x.id, .slice a2z x.vec.length d2z, .int .i64 x.aa, .int .i64 x.seq] 142) = W0 at *
 replace R2 := R2.af HB0
 replace R2z := R2z.af HB0
 refine (dt _ _ x.vec _ R2 R2z).mono ?_
 rintro e w1 ⟨rfl, hb⟩
 replace bA := bA.au hb
 replace bC := bC.au hb
 replace HB0 := HB0.trans (hb.mono HB0.size)
 have p3 := bA.at 3 _ rfl
 have q3 := bC.at 3 _ rfl
 have p4 := bA.at 4 _ rfl
 have q4 := bC.at 4 _ rfl
 clear hb
 have HB := yh HB0
 have HA := yh bA
 have HC := yh bC
 clear HB0 bA bC
 go_wp2_with fail
 go_ret
 exact ⟨rfl, uh HB⟩
theorem jH (v v2 : Value) (xs : List ak) (w : World) (h : (ad.sl ad.ag).Reads w [v] xs) (h2 : (ad.sl ad.ag).Reads w [v2] xs) :
  Calls Tryz.prog 197 #[v, v2] w fun e w' => e = .returned (.bool true) ∧ Below w.heap.size w w' := by
 have hbig := h.cK
 obtain ⟨ao, cap, rfl⟩ := aB h
 obtain ⟨ao2, cap2, rfl⟩ := aB h2
 by_cases hp : 0 < xs.length
 ·
  obtain ⟨b, off, rfl, hbl⟩ := ad.aD h hp
  obtain ⟨b2, off2, rfl, hbl2⟩ := ad.aD h2 hp
  have H := yh h
  have H2 := yh h2
  clear h h2
  go_enter Tryz.func197, Tryz.ntmps197
  go_wp2_with fail
  go_loopw [5] (fun i wr => ∃ k : Nat, k ≤ xs.length ∧ i = .int .i64 k ∧ Below w.heap.size w wr) (fun i _ => xs.length - (intOf i).toNat)
  case atStart => exact ⟨0, Nat.zero_le _, rfl, Below.refl _ _⟩
  case round =>
   obtain ⟨k, hk, rfl, hB⟩ := hrel
   by_cases hlt : k < xs.length
   ·
    obtain ⟨row, hc, hr⟩ := ad.aR (uh H) hlt
    obtain ⟨rowz, hcz, hrz⟩ := ad.aR (uh H2) hlt
    have hr2 := hr
    obtain ⟨a2, d2, rfl, -⟩ := aI hr2
    have hrz2 := hrz
    obtain ⟨a2z, d2z, rfl, -⟩ := aI hrz2
    have c0 : w.cell? ⟨b, off + k * 5, none⟩ = some (.int .i64 (xs[k]).kind) := ((Below.refl w.heap.size w).cell (p := ⟨b, off + k * 5, none⟩) hbl).trans (hc 0 (by decide))
    have c1 : w.cell? ⟨b, off + k * 5 + 1, none⟩ = some (.int .i64 (xs[k]).id) := ((Below.refl w.heap.size w).cell (p := ⟨b, off + k * 5 + 1, none⟩) hbl).trans (hc 1 (by decide))
    have c2 : w.cell? ⟨b, off + k * 5 + 2, none⟩ = some (.slice a2 (xs[k]).vec.length d2) := ((Below.refl w.heap.size w).cell (p := ⟨b, off + k * 5 + 2, none⟩) hbl).trans (hc 2 (by decide))
    have c3 : w.cell? ⟨b, off + k * 5 + 3, none⟩ = some (.int .i64 (xs[k]).aa) := ((Below.refl w.heap.size w).cell (p := ⟨b, off + k * 5 + 3, none⟩) hbl).trans (hc 3 (by decide))
    have c4 : w.cell? ⟨b, off + k * 5 + 4, none⟩ = some (.int .i64 (xs[k]).seq) := ((Below.refl w.heap.size w).cell (p := ⟨b, off + k * 5 + 4, none⟩) hbl).trans (hc 4 (by decide))
    have c0z : w.cell? ⟨b2, off2 + k * 5, none⟩ = some (.int .i64 (xs[k]).kind) := ((Below.refl w.heap.size w).cell (p := ⟨b2, off2 + k * 5, none⟩) hbl2).trans (hcz 0 (by decide))
    have c1z : w.cell? ⟨b2, off2 + k * 5 + 1, none⟩ = some (.int .i64 (xs[k]).id) := ((Below.refl w.heap.size w).cell (p := ⟨b2, off2 + k * 5 + 1, none⟩) hbl2).trans (hcz 1 (by decide))
    have c2z : w.cell? ⟨b2, off2 + k * 5 + 2, none⟩ = some (.slice a2z (xs[k]).vec.length d2z) := ((Below.refl w.heap.size w).cell (p := ⟨b2, off2 + k * 5 + 2, none⟩) hbl2).trans (hcz 2 (by decide))
    have c3z : w.cell? ⟨b2, off2 + k * 5 + 3, none⟩ = some (.int .i64 (xs[k]).aa) := ((Below.refl w.heap.size w).cell (p := ⟨b2, off2 + k * 5 + 3, none⟩) hbl2).trans (hcz 3 (by decide))
    have c4z : w.cell? ⟨b2, off2 + k * 5 + 4, none⟩ = some (.int .i64 (xs[k]).seq) := ((Below.refl w.heap.size w).cell (p := ⟨b2, off2 + k * 5 + 4, none⟩) hbl2).trans (hcz 4 (by decide))
    clear hc hcz
    have HR := yh hr
    have HRZ := yh hrz
    clear hr hrz
    have HB := yh hB
    clear hB
    generalize hxk : xs[k] = x at *
    clear hxk
    have i1 : (0 : Int) ≤ (k : Int) := by omega
    have i2 : (k : Int) < (xs.length : Int) := by omega
    go_wp2_with fail
    refine wZz (fun w' => Below w.heap.size w w') (uh HB).drew (fun zq => ?_)
    generalize wr.drew = wD at zq ⊢
    refine tkH 0 zq ?_
    refine tkH 1 zq ?_
    refine tkH 2 zq ?_
    refine tkJ 3 (v := ?v3) ?h3 zq ?r3
    case h3 =>
     intro wS hSw
     have y0 := cZ hSw hbl c0
     have y1 := cZ hSw hbl c1
     have y2 := cZ hSw hbl c2
     have y3 := cZ hSw hbl c3
     have y4 := cZ hSw hbl c4
     clear hSw
     exact fZ
    refine tkH 4 zq ?_
    refine tkH 5 zq ?_
    refine tkH 6 zq ?_
    refine tkJ 7 (v := ?v7) ?h7 zq ?r7
    case h7 =>
     intro wS hSw
     have y0z := cZ hSw hbl2 c0z
     have y1z := cZ hSw hbl2 c1z
     have y2z := cZ hSw hbl2 c2z
     have y3z := cZ hSw hbl2 c3z
     have y4z := cZ hSw hbl2 c4z
     clear hSw
     exact fZ
    refine rdH 8 (fun K hK => ?_)
    go_simp
    go_at_call 198
    refine (gP _ _ x _ ((uh HR).af zq) ((uh HRZ).af zq)).mono ?_
    rintro e w3 ⟨rfl, hbw⟩
    try go_wp2_with fail
    refine hK.out _ _ (zq.trans (hbw.mono zq.size)) (fun zq => ?_)
    clear hK K
    try simp only [Act.put, pz, py, px]
    refine tkH 9 zq ?_
    refine dZ ?_
    have HB3 := yh zq
    clear zq c0 c0z c1 c1z c2 c2z c3 c3z c4 c4z HB
    go_wp2_with fail
    go_roundw
    case rel => exact ⟨k + 1, by omega, by go_num, uh HB3⟩
    case measure => simp [intOf]; omega
   have HB := yh hB
   clear hB
   go_wp2_with fail
   go_ret
   exact ⟨rfl, uh HB⟩
 obtain rfl : xs = [] := List.eq_nil_of_length_eq_zero (by omega)
 clear h h2 hp
 simp only [List.length_nil] at *
 go_enter Tryz.func197, Tryz.ntmps197
 go_wp2_with fail
 refine wp_loop_rounds 1 ?_
 rw [rounds_succ]
 go_wp2_with fail
 go_ret
 exact ⟨rfl, Below.refl _ _⟩
theorem kT (cs cs2 : List Value) (x : bn) (w : World) (h : ad.aP.Reads w cs x) (h2 : ad.aP.Reads w cs2 x) :
  Calls Tryz.prog 131 #[.agg cs.toArray, .agg cs2.toArray] w fun e w' => e = .returned (.bool true) ∧ Below w.heap.size w w' := by
 obtain ⟨a4, d4, rfl, R4⟩ := aQ h
 obtain ⟨a4z, d4z, rfl, R4z⟩ := aQ h2
 clear h h2
 have e0 : (x.id != x.id) = false := by simp
 have e1 : (x.up != x.up) = false := by simp
 have e2 : (x.ab != x.ab) = false := by simp
 have e3 : (x.ai != x.ai) = false := by simp
 have e5 : (x.sure != x.sure) = false := by simp
 have e6 : (x.clean != x.clean) = false := by simp
 have HB0 : Below w.heap.size w ((w.alloc (.cells #[.int .i64 x.id, .bool x.up, .int .i64 x.ab, .int .i64 x.ai, .slice a4 x.writes.length d4, .int .i64 x.sure, .int .i64 x.clean] 79)).alloc (.cells #[.int .i64 x.id, .bool x.up, .int .i64 x.ab, .int .i64 x.ai, .slice a4z x.writes.length d4z, .int .i64 x.sure, .int .i64 x.clean] 79)) := ((Below.refl _ _).alloc (Nat.le_refl _) _).alloc (by simp) _
 have bA : ar w.heap.size #[.int .i64 x.id, .bool x.up, .int .i64 x.ab, .int .i64 x.ai, .slice a4 x.writes.length d4, .int .i64 x.sure, .int .i64 x.clean] 79 ((w.alloc (.cells #[.int .i64 x.id, .bool x.up, .int .i64 x.ab, .int .i64 x.ai, .slice a4 x.writes.length d4, .int .i64 x.sure, .int .i64 x.clean] 79)).alloc (.cells #[.int .i64 x.id, .bool x.up, .int .i64 x.ab, .int .i64 x.ai, .slice a4z x.writes.length d4z, .int .i64 x.sure, .int .i64 x.clean] 79)) w.heap.size := (aM (Nat.le_refl _)).grow _
 have bC : ar w.heap.size #[.int .i64 x.id, .bool x.up, .int .i64 x.ab, .int .i64 x.ai, .slice a4z x.writes.length d4z, .int .i64 x.sure, .int .i64 x.clean] 79 ((w.alloc (.cells #[.int .i64 x.id, .bool x.up, .int .i64 x.ab, .int .i64 x.ai, .slice a4 x.writes.length d4, .int .i64 x.sure, .int .i64 x.clean] 79)).alloc (.cells #[.int .i64 x.id, .bool x.up, .int .i64 x.ab, .int .i64 x.ai, .slice a4z x.writes.length d4z, .int .i64 x.sure, .int .i64 x.clean] 79)) (w.heap.size + 1) := aX (by omega) (by simp)
 go_enter Tryz.func131, Tryz.ntmps131
 go_wp2_with fail
 generalize (w.alloc (.cells #[.int .i64 x.id, .bool x.up, .int .i64 x.ab, .int .i64 x.ai, .slice a4 x.writes.length d4, .int .i64 x.sure, .int .i64 x.clean] 79)).alloc (.cells #[.int .i64 x.id, .bool x.up, .int .i64 x.ab, .int .i64 x.ai, .slice a4z x.writes.length d4z, .int .i64 x.sure, .int .i64 x.clean] 79) = W0 at *
 replace R4 := R4.af HB0
 replace R4z := R4z.af HB0
 refine (jH _ _ x.writes _ R4 R4z).mono ?_
 rintro e w1 ⟨rfl, hb⟩
 replace bA := bA.au hb
 replace bC := bC.au hb
 replace HB0 := HB0.trans (hb.mono HB0.size)
 have p5 := bA.at 5 _ rfl
 have q5 := bC.at 5 _ rfl
 have p6 := bA.at 6 _ rfl
 have q6 := bC.at 6 _ rfl
 clear hb
 have HB := yh HB0
 have HA := yh bA
 have HC := yh bC
 clear HB0 bA bC
 go_wp2_with fail
 go_ret
 exact ⟨rfl, uh HB⟩
theorem jT (v v2 : Value) (xs : List bn) (w : World) (h : (ad.sl ad.aP).Reads w [v] xs) (h2 : (ad.sl ad.aP).Reads w [v2] xs) :
  Calls Tryz.prog 63 #[v, v2] w fun e w' => e = .returned (.bool true) ∧ Below w.heap.size w w' := by
 have hbig := h.cK
 obtain ⟨ao, cap, rfl⟩ := aB h
 obtain ⟨ao2, cap2, rfl⟩ := aB h2
 by_cases hp : 0 < xs.length
 ·
  obtain ⟨b, off, rfl, hbl⟩ := ad.aD h hp
  obtain ⟨b2, off2, rfl, hbl2⟩ := ad.aD h2 hp
  have H := yh h
  have H2 := yh h2
  clear h h2
  go_enter Tryz.func63, Tryz.ntmps63
  go_wp2_with fail
  go_loopw [5] (fun i wr => ∃ k : Nat, k ≤ xs.length ∧ i = .int .i64 k ∧ Below w.heap.size w wr) (fun i _ => xs.length - (intOf i).toNat)
  case atStart => exact ⟨0, Nat.zero_le _, rfl, Below.refl _ _⟩
  case round =>
   obtain ⟨k, hk, rfl, hB⟩ := hrel
   by_cases hlt : k < xs.length
   ·
    obtain ⟨row, hc, hr⟩ := ad.aR (uh H) hlt
    obtain ⟨rowz, hcz, hrz⟩ := ad.aR (uh H2) hlt
    have hr2 := hr
    obtain ⟨a4, d4, rfl, -⟩ := aQ hr2
    have hrz2 := hrz
    obtain ⟨a4z, d4z, rfl, -⟩ := aQ hrz2
    have c0 : w.cell? ⟨b, off + k * 7, none⟩ = some (.int .i64 (xs[k]).id) := ((Below.refl w.heap.size w).cell (p := ⟨b, off + k * 7, none⟩) hbl).trans (hc 0 (by decide))
    have c1 : w.cell? ⟨b, off + k * 7 + 1, none⟩ = some (.bool (xs[k]).up) := ((Below.refl w.heap.size w).cell (p := ⟨b, off + k * 7 + 1, none⟩) hbl).trans (hc 1 (by decide))
    have c2 : w.cell? ⟨b, off + k * 7 + 2, none⟩ = some (.int .i64 (xs[k]).ab) := ((Below.refl w.heap.size w).cell (p := ⟨b, off + k * 7 + 2, none⟩) hbl).trans (hc 2 (by decide))
    have c3 : w.cell? ⟨b, off + k * 7 + 3, none⟩ = some (.int .i64 (xs[k]).ai) := ((Below.refl w.heap.size w).cell (p := ⟨b, off + k * 7 + 3, none⟩) hbl).trans (hc 3 (by decide))
    have c4 : w.cell? ⟨b, off + k * 7 + 4, none⟩ = some (.slice a4 (xs[k]).writes.length d4) := ((Below.refl w.heap.size w).cell (p := ⟨b, off + k * 7 + 4, none⟩) hbl).trans (hc 4 (by decide))
    have c5 : w.cell? ⟨b, off + k * 7 + 5, none⟩ = some (.int .i64 (xs[k]).sure) := ((Below.refl w.heap.size w).cell (p := ⟨b, off + k * 7 + 5, none⟩) hbl).trans (hc 5 (by decide))
    have c6 : w.cell? ⟨b, off + k * 7 + 6, none⟩ = some (.int .i64 (xs[k]).clean) := ((Below.refl w.heap.size w).cell (p := ⟨b, off + k * 7 + 6, none⟩) hbl).trans (hc 6 (by decide))
    have c0z : w.cell? ⟨b2, off2 + k * 7, none⟩ = some (.int .i64 (xs[k]).id) := ((Below.refl w.heap.size w).cell (p := ⟨b2, off2 + k * 7, none⟩) hbl2).trans (hcz 0 (by decide))
    have c1z : w.cell? ⟨b2, off2 + k * 7 + 1, none⟩ = some (.bool (xs[k]).up) := ((Below.refl w.heap.size w).cell (p := ⟨b2, off2 + k * 7 + 1, none⟩) hbl2).trans (hcz 1 (by decide))
    have c2z : w.cell? ⟨b2, off2 + k * 7 + 2, none⟩ = some (.int .i64 (xs[k]).ab) := ((Below.refl w.heap.size w).cell (p := ⟨b2, off2 + k * 7 + 2, none⟩) hbl2).trans (hcz 2 (by decide))
    have c3z : w.cell? ⟨b2, off2 + k * 7 + 3, none⟩ = some (.int .i64 (xs[k]).ai) := ((Below.refl w.heap.size w).cell (p := ⟨b2, off2 + k * 7 + 3, none⟩) hbl2).trans (hcz 3 (by decide))
    have c4z : w.cell? ⟨b2, off2 + k * 7 + 4, none⟩ = some (.slice a4z (xs[k]).writes.length d4z) := ((Below.refl w.heap.size w).cell (p := ⟨b2, off2 + k * 7 + 4, none⟩) hbl2).trans (hcz 4 (by decide))
    have c5z : w.cell? ⟨b2, off2 + k * 7 + 5, none⟩ = some (.int .i64 (xs[k]).sure) := ((Below.refl w.heap.size w).cell (p := ⟨b2, off2 + k * 7 + 5, none⟩) hbl2).trans (hcz 5 (by decide))
    have c6z : w.cell? ⟨b2, off2 + k * 7 + 6, none⟩ = some (.int .i64 (xs[k]).clean) := ((Below.refl w.heap.size w).cell (p := ⟨b2, off2 + k * 7 + 6, none⟩) hbl2).trans (hcz 6 (by decide))
    clear hc hcz
    have HR := yh hr
    have HRZ := yh hrz
    clear hr hrz
    have HB := yh hB
    clear hB
    generalize hxk : xs[k] = x at *
    clear hxk
    have i1 : (0 : Int) ≤ (k : Int) := by omega
    have i2 : (k : Int) < (xs.length : Int) := by omega
    go_wp2_with fail
    refine wZz (fun w' => Below w.heap.size w w') (uh HB).drew (fun zq => ?_)
    generalize wr.drew = wD at zq ⊢
    refine tkH 0 zq ?_
    refine tkH 1 zq ?_
    refine tkH 2 zq ?_
    refine tkJ 3 (v := ?v3) ?h3 zq ?r3
    case h3 =>
     intro wS hSw
     have y0 := cZ hSw hbl c0
     have y1 := cZ hSw hbl c1
     have y2 := cZ hSw hbl c2
     have y3 := cZ hSw hbl c3
     have y4 := cZ hSw hbl c4
     have y5 := cZ hSw hbl c5
     have y6 := cZ hSw hbl c6
     clear hSw
     exact fZ
    refine tkH 4 zq ?_
    refine tkH 5 zq ?_
    refine tkH 6 zq ?_
    refine tkJ 7 (v := ?v7) ?h7 zq ?r7
    case h7 =>
     intro wS hSw
     have y0z := cZ hSw hbl2 c0z
     have y1z := cZ hSw hbl2 c1z
     have y2z := cZ hSw hbl2 c2z
     have y3z := cZ hSw hbl2 c3z
     have y4z := cZ hSw hbl2 c4z
     have y5z := cZ hSw hbl2 c5z
     have y6z := cZ hSw hbl2 c6z
     clear hSw
     exact fZ
    refine rdH 8 (fun K hK => ?_)
    go_simp
    go_at_call 131
    refine (kT _ _ x _ ((uh HR).af zq) ((uh HRZ).af zq)).mono ?_
    rintro e w3 ⟨rfl, hbw⟩
    try go_wp2_with fail
    refine hK.out _ _ (zq.trans (hbw.mono zq.size)) (fun zq => ?_)
    clear hK K
    try simp only [Act.put, pz, py, px]
    refine tkH 9 zq ?_
    refine dZ ?_
    have HB3 := yh zq
    clear zq c0 c0z c1 c1z c2 c2z c3 c3z c4 c4z c5 c5z c6 c6z HB
    go_wp2_with fail
    go_roundw
    case rel => exact ⟨k + 1, by omega, by go_num, uh HB3⟩
    case measure => simp [intOf]; omega
   have HB := yh hB
   clear hB
   go_wp2_with fail
   go_ret
   exact ⟨rfl, uh HB⟩
 obtain rfl : xs = [] := List.eq_nil_of_length_eq_zero (by omega)
 clear h h2 hp
 simp only [List.length_nil] at *
 go_enter Tryz.func63, Tryz.ntmps63
 go_wp2_with fail
 refine wp_loop_rounds 1 ?_
 rw [rounds_succ]
 go_wp2_with fail
 go_ret
 exact ⟨rfl, Below.refl _ _⟩
theorem lW (cs cs2 : List Value) (x : bq) (w : World) (h : ad.bm.Reads w cs x) (h2 : ad.bm.Reads w cs2 x) :
  Calls Tryz.prog 132 #[.agg cs.toArray, .agg cs2.toArray] w fun e w' => e = .returned (.bool true) ∧ Below w.heap.size w w' := by
 obtain ⟨a7, d7, rfl, R5⟩ := bE h
 obtain ⟨a7z, d7z, rfl, R5z⟩ := bE h2
 clear h h2
 have e0 : (x.kind != x.kind) = false := by simp
 have e1 : (x.ab != x.ab) = false := by simp
 have e2 : (x.src != x.src) = false := by simp
 have e3 : (x.dst != x.dst) = false := by simp
 have e4 : (x.index != x.index) = false := by simp
 have e5 : (x.write.kind != x.write.kind) = false := by simp
 have e6 : (x.write.id != x.write.id) = false := by simp
 have e8 : (x.write.aa != x.write.aa) = false := by simp
 have e9 : (x.write.seq != x.write.seq) = false := by simp
 have HB0 : Below w.heap.size w ((w.alloc (.cells #[.int .i64 x.kind, .int .i64 x.ab, .int .i64 x.src, .int .i64 x.dst, .int .i64 x.index, .int .i64 x.write.kind, .int .i64 x.write.id, .slice a7 x.write.vec.length d7, .int .i64 x.write.aa, .int .i64 x.write.seq] 145)).alloc (.cells #[.int .i64 x.kind, .int .i64 x.ab, .int .i64 x.src, .int .i64 x.dst, .int .i64 x.index, .int .i64 x.write.kind, .int .i64 x.write.id, .slice a7z x.write.vec.length d7z, .int .i64 x.write.aa, .int .i64 x.write.seq] 145)) := ((Below.refl _ _).alloc (Nat.le_refl _) _).alloc (by simp) _
 have bA : ar w.heap.size #[.int .i64 x.kind, .int .i64 x.ab, .int .i64 x.src, .int .i64 x.dst, .int .i64 x.index, .int .i64 x.write.kind, .int .i64 x.write.id, .slice a7 x.write.vec.length d7, .int .i64 x.write.aa, .int .i64 x.write.seq] 145 ((w.alloc (.cells #[.int .i64 x.kind, .int .i64 x.ab, .int .i64 x.src, .int .i64 x.dst, .int .i64 x.index, .int .i64 x.write.kind, .int .i64 x.write.id, .slice a7 x.write.vec.length d7, .int .i64 x.write.aa, .int .i64 x.write.seq] 145)).alloc (.cells #[.int .i64 x.kind, .int .i64 x.ab, .int .i64 x.src, .int .i64 x.dst, .int .i64 x.index, .int .i64 x.write.kind, .int .i64 x.write.id, .slice a7z x.write.vec.length d7z, .int .i64 x.write.aa, .int .i64 x.write.seq] 145)) w.heap.size := (aM (Nat.le_refl _)).grow _
 have bC : ar w.heap.size #[.int .i64 x.kind, .int .i64 x.ab, .int .i64 x.src, .int .i64 x.dst, .int .i64 x.index, .int .i64 x.write.kind, .int .i64 x.write.id, .slice a7z x.write.vec.length d7z, .int .i64 x.write.aa, .int .i64 x.write.seq] 145 ((w.alloc (.cells #[.int .i64 x.kind, .int .i64 x.ab, .int .i64 x.src, .int .i64 x.dst, .int .i64 x.index, .int .i64 x.write.kind, .int .i64 x.write.id, .slice a7 x.write.vec.length d7, .int .i64 x.write.aa, .int .i64 x.write.seq] 145)).alloc (.cells #[.int .i64 x.kind, .int .i64 x.ab, .int .i64 x.src, .int .i64 x.dst, .int .i64 x.index, .int .i64 x.write.kind, .int .i64 x.write.id, .slice a7z x.write.vec.length d7z, .int .i64 x.write.aa, .int .i64 x.write.seq] 145)) (w.heap.size + 1) := aX (by omega) (by simp)
 go_enter Tryz.func132, Tryz.ntmps132
 go_wp2_with fail
 generalize (w.alloc (.cells #[.int .i64 x.kind, .int .i64 x.ab, .int .i64 x.src, .int .i64 x.dst, .int .i64 x.index, .int .i64 x.write.kind, .int .i64 x.write.id, .slice a7 x.write.vec.length d7, .int .i64 x.write.aa, .int .i64 x.write.seq] 145)).alloc (.cells #[.int .i64 x.kind, .int .i64 x.ab, .int .i64 x.src, .int .i64 x.dst, .int .i64 x.index, .int .i64 x.write.kind, .int .i64 x.write.id, .slice a7z x.write.vec.length d7z, .int .i64 x.write.aa, .int .i64 x.write.seq] 145) = W0 at *
 replace R5 := R5.af HB0
 replace R5z := R5z.af HB0
 refine (gP _ _ x.write _ R5 R5z).mono ?_
 rintro e w1 ⟨rfl, hb⟩
 replace bA := bA.au hb
 replace bC := bC.au hb
 replace HB0 := HB0.trans (hb.mono HB0.size)
 clear hb
 have HB := yh HB0
 have HA := yh bA
 have HC := yh bC
 clear HB0 bA bC
 go_wp2_with fail
 go_ret
 exact ⟨rfl, uh HB⟩
theorem kQ (v v2 : Value) (xs : List bq) (w : World) (h : (ad.sl ad.bm).Reads w [v] xs) (h2 : (ad.sl ad.bm).Reads w [v2] xs) :
  Calls Tryz.prog 64 #[v, v2] w fun e w' => e = .returned (.bool true) ∧ Below w.heap.size w w' := by
 have hbig := h.cK
 obtain ⟨ao, cap, rfl⟩ := aB h
 obtain ⟨ao2, cap2, rfl⟩ := aB h2
 by_cases hp : 0 < xs.length
 ·
  obtain ⟨b, off, rfl, hbl⟩ := ad.aD h hp
  obtain ⟨b2, off2, rfl, hbl2⟩ := ad.aD h2 hp
  have H := yh h
  have H2 := yh h2
  clear h h2
  go_enter Tryz.func64, Tryz.ntmps64
  go_wp2_with fail
  go_loopw [5] (fun i wr => ∃ k : Nat, k ≤ xs.length ∧ i = .int .i64 k ∧ Below w.heap.size w wr) (fun i _ => xs.length - (intOf i).toNat)
  case atStart => exact ⟨0, Nat.zero_le _, rfl, Below.refl _ _⟩
  case round =>
   obtain ⟨k, hk, rfl, hB⟩ := hrel
   by_cases hlt : k < xs.length
   ·
    obtain ⟨row, hc, hr⟩ := ad.aR (uh H) hlt
    obtain ⟨rowz, hcz, hrz⟩ := ad.aR (uh H2) hlt
    have hr2 := hr
    obtain ⟨a7, d7, rfl, -⟩ := bE hr2
    have hrz2 := hrz
    obtain ⟨a7z, d7z, rfl, -⟩ := bE hrz2
    have c0 : w.cell? ⟨b, off + k * 10, none⟩ = some (.int .i64 (xs[k]).kind) := ((Below.refl w.heap.size w).cell (p := ⟨b, off + k * 10, none⟩) hbl).trans (hc 0 (by decide))
    have c1 : w.cell? ⟨b, off + k * 10 + 1, none⟩ = some (.int .i64 (xs[k]).ab) := ((Below.refl w.heap.size w).cell (p := ⟨b, off + k * 10 + 1, none⟩) hbl).trans (hc 1 (by decide))
    have c2 : w.cell? ⟨b, off + k * 10 + 2, none⟩ = some (.int .i64 (xs[k]).src) := ((Below.refl w.heap.size w).cell (p := ⟨b, off + k * 10 + 2, none⟩) hbl).trans (hc 2 (by decide))
    have c3 : w.cell? ⟨b, off + k * 10 + 3, none⟩ = some (.int .i64 (xs[k]).dst) := ((Below.refl w.heap.size w).cell (p := ⟨b, off + k * 10 + 3, none⟩) hbl).trans (hc 3 (by decide))
    have c4 : w.cell? ⟨b, off + k * 10 + 4, none⟩ = some (.int .i64 (xs[k]).index) := ((Below.refl w.heap.size w).cell (p := ⟨b, off + k * 10 + 4, none⟩) hbl).trans (hc 4 (by decide))
    have c5 : w.cell? ⟨b, off + k * 10 + 5, none⟩ = some (.int .i64 (xs[k]).write.kind) := ((Below.refl w.heap.size w).cell (p := ⟨b, off + k * 10 + 5, none⟩) hbl).trans (hc 5 (by decide))
    have c6 : w.cell? ⟨b, off + k * 10 + 6, none⟩ = some (.int .i64 (xs[k]).write.id) := ((Below.refl w.heap.size w).cell (p := ⟨b, off + k * 10 + 6, none⟩) hbl).trans (hc 6 (by decide))
    have c7 : w.cell? ⟨b, off + k * 10 + 7, none⟩ = some (.slice a7 (xs[k]).write.vec.length d7) := ((Below.refl w.heap.size w).cell (p := ⟨b, off + k * 10 + 7, none⟩) hbl).trans (hc 7 (by decide))
    have c8 : w.cell? ⟨b, off + k * 10 + 8, none⟩ = some (.int .i64 (xs[k]).write.aa) := ((Below.refl w.heap.size w).cell (p := ⟨b, off + k * 10 + 8, none⟩) hbl).trans (hc 8 (by decide))
    have c9 : w.cell? ⟨b, off + k * 10 + 9, none⟩ = some (.int .i64 (xs[k]).write.seq) := ((Below.refl w.heap.size w).cell (p := ⟨b, off + k * 10 + 9, none⟩) hbl).trans (hc 9 (by decide))
    have c0z : w.cell? ⟨b2, off2 + k * 10, none⟩ = some (.int .i64 (xs[k]).kind) := ((Below.refl w.heap.size w).cell (p := ⟨b2, off2 + k * 10, none⟩) hbl2).trans (hcz 0 (by decide))
    have c1z : w.cell? ⟨b2, off2 + k * 10 + 1, none⟩ = some (.int .i64 (xs[k]).ab) := ((Below.refl w.heap.size w).cell (p := ⟨b2, off2 + k * 10 + 1, none⟩) hbl2).trans (hcz 1 (by decide))
    have c2z : w.cell? ⟨b2, off2 + k * 10 + 2, none⟩ = some (.int .i64 (xs[k]).src) := ((Below.refl w.heap.size w).cell (p := ⟨b2, off2 + k * 10 + 2, none⟩) hbl2).trans (hcz 2 (by decide))
    have c3z : w.cell? ⟨b2, off2 + k * 10 + 3, none⟩ = some (.int .i64 (xs[k]).dst) := ((Below.refl w.heap.size w).cell (p := ⟨b2, off2 + k * 10 + 3, none⟩) hbl2).trans (hcz 3 (by decide))
    have c4z : w.cell? ⟨b2, off2 + k * 10 + 4, none⟩ = some (.int .i64 (xs[k]).index) := ((Below.refl w.heap.size w).cell (p := ⟨b2, off2 + k * 10 + 4, none⟩) hbl2).trans (hcz 4 (by decide))
    have c5z : w.cell? ⟨b2, off2 + k * 10 + 5, none⟩ = some (.int .i64 (xs[k]).write.kind) := ((Below.refl w.heap.size w).cell (p := ⟨b2, off2 + k * 10 + 5, none⟩) hbl2).trans (hcz 5 (by decide))
    have c6z : w.cell? ⟨b2, off2 + k * 10 + 6, none⟩ = some (.int .i64 (xs[k]).write.id) := ((Below.refl w.heap.size w).cell (p := ⟨b2, off2 + k * 10 + 6, none⟩) hbl2).trans (hcz 6 (by decide))
    have c7z : w.cell? ⟨b2, off2 + k * 10 + 7, none⟩ = some (.slice a7z (xs[k]).write.vec.length d7z) := ((Below.refl w.heap.size w).cell (p := ⟨b2, off2 + k * 10 + 7, none⟩) hbl2).trans (hcz 7 (by decide))
    have c8z : w.cell? ⟨b2, off2 + k * 10 + 8, none⟩ = some (.int .i64 (xs[k]).write.aa) := ((Below.refl w.heap.size w).cell (p := ⟨b2, off2 + k * 10 + 8, none⟩) hbl2).trans (hcz 8 (by decide))
    have c9z : w.cell? ⟨b2, off2 + k * 10 + 9, none⟩ = some (.int .i64 (xs[k]).write.seq) := ((Below.refl w.heap.size w).cell (p := ⟨b2, off2 + k * 10 + 9, none⟩) hbl2).trans (hcz 9 (by decide))
    clear hc hcz
    have HR := yh hr
    have HRZ := yh hrz
    clear hr hrz
    have HB := yh hB
    clear hB
    generalize hxk : xs[k] = x at *
    clear hxk
    have i1 : (0 : Int) ≤ (k : Int) := by omega
    have i2 : (k : Int) < (xs.length : Int) := by omega
    go_wp2_with fail
    refine wZz (fun w' => Below w.heap.size w w') (uh HB).drew (fun zq => ?_)
    generalize wr.drew = wD at zq ⊢
    refine tkH 0 zq ?_
    refine tkH 1 zq ?_
    refine tkH 2 zq ?_
    refine tkJ 3 (v := ?v3) ?h3 zq ?r3
    case h3 =>
     intro wS hSw
     have y0 := cZ hSw hbl c0
     have y1 := cZ hSw hbl c1
     have y2 := cZ hSw hbl c2
     have y3 := cZ hSw hbl c3
     have y4 := cZ hSw hbl c4
     have y5 := cZ hSw hbl c5
     have y6 := cZ hSw hbl c6
     have y7 := cZ hSw hbl c7
     have y8 := cZ hSw hbl c8
     have y9 := cZ hSw hbl c9
     clear hSw
     exact fZ
    refine tkH 4 zq ?_
    refine tkH 5 zq ?_
    refine tkH 6 zq ?_
    refine tkJ 7 (v := ?v7) ?h7 zq ?r7
    case h7 =>
     intro wS hSw
     have y0z := cZ hSw hbl2 c0z
     have y1z := cZ hSw hbl2 c1z
     have y2z := cZ hSw hbl2 c2z
     have y3z := cZ hSw hbl2 c3z
     have y4z := cZ hSw hbl2 c4z
     have y5z := cZ hSw hbl2 c5z
     have y6z := cZ hSw hbl2 c6z
     have y7z := cZ hSw hbl2 c7z
     have y8z := cZ hSw hbl2 c8z
     have y9z := cZ hSw hbl2 c9z
     clear hSw
     exact fZ
    refine rdH 8 (fun K hK => ?_)
    go_simp
    go_at_call 132
    refine (lW _ _ x _ ((uh HR).af zq) ((uh HRZ).af zq)).mono ?_
    rintro e w3 ⟨rfl, hbw⟩
    try go_wp2_with fail
    refine hK.out _ _ (zq.trans (hbw.mono zq.size)) (fun zq => ?_)
    clear hK K
    try simp only [Act.put, pz, py, px]
    refine tkH 9 zq ?_
    refine dZ ?_
    have HB3 := yh zq
    clear zq c0 c0z c1 c1z c2 c2z c3 c3z c4 c4z c5 c5z c6 c6z c7 c7z c8 c8z c9 c9z HB
    go_wp2_with fail
    go_roundw
    case rel => exact ⟨k + 1, by omega, by go_num, uh HB3⟩
    case measure => simp [intOf]; omega
   have HB := yh hB
   clear hB
   go_wp2_with fail
   go_ret
   exact ⟨rfl, uh HB⟩
 obtain rfl : xs = [] := List.eq_nil_of_length_eq_zero (by omega)
 clear h h2 hp
 simp only [List.length_nil] at *
 go_enter Tryz.func64, Tryz.ntmps64
 go_wp2_with fail
 refine wp_loop_rounds 1 ?_
 rw [rounds_succ]
 go_wp2_with fail
 go_ret
 exact ⟨rfl, Below.refl _ _⟩
theorem lL (cs cs2 : List Value) (x : gk) (w : World) (h : ad.b8.Reads w cs x) (h2 : ad.b8.Reads w cs2 x) :
  Calls Tryz.prog 130 #[.agg cs.toArray, .agg cs2.toArray] w fun e w' => e = .returned (.bool true) ∧ Below w.heap.size w w' := by
 obtain ⟨bl, h⟩ := h
 obtain ⟨rfl, -⟩ := cm.1 h
 obtain ⟨bl2, h2⟩ := h2
 obtain ⟨rfl, -⟩ := cm.1 h2
 clear h h2
 have e0 : (x.id != x.id) = false := by simp
 have e1 : (x.score != x.score) = false := by simp
 have HB0 : Below w.heap.size w ((w.alloc (.cells #[.int .i64 x.id, .int .i64 x.score] 150)).alloc (.cells #[.int .i64 x.id, .int .i64 x.score] 150)) := ((Below.refl _ _).alloc (Nat.le_refl _) _).alloc (by simp) _
 go_enter Tryz.func130, Tryz.ntmps130
 go_wp2_with fail
 go_ret
 exact ⟨rfl, HB0⟩
theorem kN (v v2 : Value) (xs : List gk) (w : World) (h : (ad.sl ad.b8).Reads w [v] xs) (h2 : (ad.sl ad.b8).Reads w [v2] xs) :
  Calls Tryz.prog 61 #[v, v2] w fun e w' => e = .returned (.bool true) ∧ Below w.heap.size w w' := by
 have hbig := h.cK
 obtain ⟨ao, cap, rfl⟩ := aB h
 obtain ⟨ao2, cap2, rfl⟩ := aB h2
 by_cases hp : 0 < xs.length
 ·
  obtain ⟨b, off, rfl, hbl⟩ := ad.aD h hp
  obtain ⟨b2, off2, rfl, hbl2⟩ := ad.aD h2 hp
  have H := yh h
  have H2 := yh h2
  clear h h2
  go_enter Tryz.func61, Tryz.ntmps61
  go_wp2_with fail
  go_loopw [5] (fun i wr => ∃ k : Nat, k ≤ xs.length ∧ i = .int .i64 k ∧ Below w.heap.size w wr) (fun i _ => xs.length - (intOf i).toNat)
  case atStart => exact ⟨0, Nat.zero_le _, rfl, Below.refl _ _⟩
  case round =>
   obtain ⟨k, hk, rfl, hB⟩ := hrel
   by_cases hlt : k < xs.length
   ·
    obtain ⟨row, hc, hr⟩ := ad.aR (uh H) hlt
    obtain ⟨rowz, hcz, hrz⟩ := ad.aR (uh H2) hlt
    have hr2 := hr
    obtain ⟨blo, hlo⟩ := hr2; obtain ⟨rfl, -⟩ := cm.1 hlo; clear hlo
    have hrz2 := hrz
    obtain ⟨bloz, hloz⟩ := hrz2; obtain ⟨rfl, -⟩ := cm.1 hloz; clear hloz
    have c0 : w.cell? ⟨b, off + k * 2, none⟩ = some (.int .i64 (xs[k]).id) := ((Below.refl w.heap.size w).cell (p := ⟨b, off + k * 2, none⟩) hbl).trans (hc 0 (by decide))
    have c1 : w.cell? ⟨b, off + k * 2 + 1, none⟩ = some (.int .i64 (xs[k]).score) := ((Below.refl w.heap.size w).cell (p := ⟨b, off + k * 2 + 1, none⟩) hbl).trans (hc 1 (by decide))
    have c0z : w.cell? ⟨b2, off2 + k * 2, none⟩ = some (.int .i64 (xs[k]).id) := ((Below.refl w.heap.size w).cell (p := ⟨b2, off2 + k * 2, none⟩) hbl2).trans (hcz 0 (by decide))
    have c1z : w.cell? ⟨b2, off2 + k * 2 + 1, none⟩ = some (.int .i64 (xs[k]).score) := ((Below.refl w.heap.size w).cell (p := ⟨b2, off2 + k * 2 + 1, none⟩) hbl2).trans (hcz 1 (by decide))
    clear hc hcz
    have HR := yh hr
    have HRZ := yh hrz
    clear hr hrz
    have HB := yh hB
    clear hB
    generalize hxk : xs[k] = x at *
    clear hxk
    have i1 : (0 : Int) ≤ (k : Int) := by omega
    have i2 : (k : Int) < (xs.length : Int) := by omega
    go_wp2_with fail
    refine wZz (fun w' => Below w.heap.size w w') (uh HB).drew (fun zq => ?_)
    generalize wr.drew = wD at zq ⊢
    refine tkH 0 zq ?_
    refine tkH 1 zq ?_
    refine tkH 2 zq ?_
    refine tkJ 3 (v := ?v3) ?h3 zq ?r3
    case h3 =>
     intro wS hSw
     have y0 := cZ hSw hbl c0
     have y1 := cZ hSw hbl c1
     clear hSw
     exact fZ
    refine tkH 4 zq ?_
    refine tkH 5 zq ?_
    refine tkH 6 zq ?_
    refine tkJ 7 (v := ?v7) ?h7 zq ?r7
    case h7 =>
     intro wS hSw
     have y0z := cZ hSw hbl2 c0z
     have y1z := cZ hSw hbl2 c1z
     clear hSw
     exact fZ
    refine rdH 8 (fun K hK => ?_)
    go_simp
    go_at_call 130
    refine (lL _ _ x _ ((uh HR).af zq) ((uh HRZ).af zq)).mono ?_
    rintro e w3 ⟨rfl, hbw⟩
    try go_wp2_with fail
    refine hK.out _ _ (zq.trans (hbw.mono zq.size)) (fun zq => ?_)
    clear hK K
    try simp only [Act.put, pz, py, px]
    refine tkH 9 zq ?_
    refine dZ ?_
    have HB3 := yh zq
    clear zq c0 c0z c1 c1z HB
    go_wp2_with fail
    go_roundw
    case rel => exact ⟨k + 1, by omega, by go_num, uh HB3⟩
    case measure => simp [intOf]; omega
   have HB := yh hB
   clear hB
   go_wp2_with fail
   go_ret
   exact ⟨rfl, uh HB⟩
 obtain rfl : xs = [] := List.eq_nil_of_length_eq_zero (by omega)
 clear h h2 hp
 simp only [List.length_nil] at *
 go_enter Tryz.func61, Tryz.ntmps61
 go_wp2_with fail
 refine wp_loop_rounds 1 ?_
 rw [rounds_succ]
 go_wp2_with fail
 go_ret
 exact ⟨rfl, Below.refl _ _⟩
theorem jS (cs cs2 : List Value) (x : bM) (w : World) (h : ad.aJ.Reads w cs x) (h2 : ad.aJ.Reads w cs2 x) :
  Calls Tryz.prog 133 #[.agg cs.toArray, .agg cs2.toArray] w fun e w' => e = .returned (.bool true) ∧ Below w.heap.size w w' := by
 obtain ⟨a4, d4, a9, d9, a10, d10, rfl, R4, R9, R10⟩ := bu h
 obtain ⟨a4z, d4z, a9z, d9z, a10z, d10z, rfl, R4z, R9z, R10z⟩ := bu h2
 clear h h2
 have e0 : (x.kind != x.kind) = false := by simp
 have e1 : (x.aa != x.aa) = false := by simp
 have e2 : (x.seq != x.seq) = false := by simp
 have e3 : (x.id != x.id) = false := by simp
 have e5 : (x.k != x.k) = false := by simp
 have e6 : (x.start != x.start) = false := by simp
 have e7 : (x.fin != x.fin) = false := by simp
 have e8 : (x.place != x.place) = false := by simp
 have HB0 : Below w.heap.size w ((w.alloc (.cells #[.int .i64 x.kind, .int .i64 x.aa, .int .i64 x.seq, .int .i64 x.id, .slice a4 x.query.length d4, .int .i64 x.k, .int .i64 x.start, .int .i64 x.fin, .int .i64 x.place, .slice a9 x.vec.length d9, .slice a10 x.aY.length d10] 85)).alloc (.cells #[.int .i64 x.kind, .int .i64 x.aa, .int .i64 x.seq, .int .i64 x.id, .slice a4z x.query.length d4z, .int .i64 x.k, .int .i64 x.start, .int .i64 x.fin, .int .i64 x.place, .slice a9z x.vec.length d9z, .slice a10z x.aY.length d10z] 85)) := ((Below.refl _ _).alloc (Nat.le_refl _) _).alloc (by simp) _
 have bA : ar w.heap.size #[.int .i64 x.kind, .int .i64 x.aa, .int .i64 x.seq, .int .i64 x.id, .slice a4 x.query.length d4, .int .i64 x.k, .int .i64 x.start, .int .i64 x.fin, .int .i64 x.place, .slice a9 x.vec.length d9, .slice a10 x.aY.length d10] 85 ((w.alloc (.cells #[.int .i64 x.kind, .int .i64 x.aa, .int .i64 x.seq, .int .i64 x.id, .slice a4 x.query.length d4, .int .i64 x.k, .int .i64 x.start, .int .i64 x.fin, .int .i64 x.place, .slice a9 x.vec.length d9, .slice a10 x.aY.length d10] 85)).alloc (.cells #[.int .i64 x.kind, .int .i64 x.aa, .int .i64 x.seq, .int .i64 x.id, .slice a4z x.query.length d4z, .int .i64 x.k, .int .i64 x.start, .int .i64 x.fin, .int .i64 x.place, .slice a9z x.vec.length d9z, .slice a10z x.aY.length d10z] 85)) w.heap.size := (aM (Nat.le_refl _)).grow _
 have bC : ar w.heap.size #[.int .i64 x.kind, .int .i64 x.aa, .int .i64 x.seq, .int .i64 x.id, .slice a4z x.query.length d4z, .int .i64 x.k, .int .i64 x.start, .int .i64 x.fin, .int .i64 x.place, .slice a9z x.vec.length d9z, .slice a10z x.aY.length d10z] 85 ((w.alloc (.cells #[.int .i64 x.kind, .int .i64 x.aa, .int .i64 x.seq, .int .i64 x.id, .slice a4 x.query.length d4, .int .i64 x.k, .int .i64 x.start, .int .i64 x.fin, .int .i64 x.place, .slice a9 x.vec.length d9, .slice a10 x.aY.length d10] 85)).alloc (.cells #[.int .i64 x.kind, .int .i64 x.aa, .int .i64 x.seq, .int .i64 x.id, .slice a4z x.query.length d4z, .int .i64 x.k, .int .i64 x.start, .int .i64 x.fin, .int .i64 x.place, .slice a9z x.vec.length d9z, .slice a10z x.aY.length d10z] 85)) (w.heap.size + 1) := aX (by omega) (by simp)
 go_enter Tryz.func133, Tryz.ntmps133
 go_wp2_with fail
 generalize (w.alloc (.cells #[.int .i64 x.kind, .int .i64 x.aa, .int .i64 x.seq, .int .i64 x.id, .slice a4 x.query.length d4, .int .i64 x.k, .int .i64 x.start, .int .i64 x.fin, .int .i64 x.place, .slice a9 x.vec.length d9, .slice a10 x.aY.length d10] 85)).alloc (.cells #[.int .i64 x.kind, .int .i64 x.aa, .int .i64 x.seq, .int .i64 x.id, .slice a4z x.query.length d4z, .int .i64 x.k, .int .i64 x.start, .int .i64 x.fin, .int .i64 x.place, .slice a9z x.vec.length d9z, .slice a10z x.aY.length d10z] 85) = W0 at *
 replace R4 := R4.af HB0
 replace R4z := R4z.af HB0
 replace R9 := R9.af HB0
 replace R9z := R9z.af HB0
 replace R10 := R10.af HB0
 replace R10z := R10z.af HB0
 refine (dt _ _ x.query _ R4 R4z).mono ?_
 rintro e w1 ⟨rfl, hb⟩
 replace bA := bA.au hb
 replace bC := bC.au hb
 replace HB0 := HB0.trans (hb.mono HB0.size)
 replace R9 := R9.af hb
 replace R9z := R9z.af hb
 replace R10 := R10.af hb
 replace R10z := R10z.af hb
 have p5 := bA.at 5 _ rfl
 have q5 := bC.at 5 _ rfl
 have p6 := bA.at 6 _ rfl
 have q6 := bC.at 6 _ rfl
 have p7 := bA.at 7 _ rfl
 have q7 := bC.at 7 _ rfl
 have p8 := bA.at 8 _ rfl
 have q8 := bC.at 8 _ rfl
 have p9 := bA.at 9 _ rfl
 have q9 := bC.at 9 _ rfl
 have p10 := bA.at 10 _ rfl
 have q10 := bC.at 10 _ rfl
 clear hb
 have HB := yh HB0
 have HA := yh bA
 have HC := yh bC
 clear HB0 bA bC
 have S9 := yh R9
 have S9z := yh R9z
 clear R9 R9z
 have S10 := yh R10
 have S10z := yh R10z
 clear R10 R10z
 go_wp2_with fail
 have HB0 := uh HB
 have bA := uh HA
 have bC := uh HC
 clear HB HA HC
 clear p5 q5
 clear p6 q6
 clear p7 q7
 clear p8 q8
 clear p9 q9
 clear p10 q10
 have R9 := uh S9
 have R9z := uh S9z
 clear S9 S9z
 have R10 := uh S10
 have R10z := uh S10z
 clear S10 S10z
 refine (dt _ _ x.vec _ R9 R9z).mono ?_
 rintro e w2 ⟨rfl, hb⟩
 replace bA := bA.au hb
 replace bC := bC.au hb
 replace HB0 := HB0.trans (hb.mono HB0.size)
 replace R10 := R10.af hb
 replace R10z := R10z.af hb
 have p10 := bA.at 10 _ rfl
 have q10 := bC.at 10 _ rfl
 clear hb
 have HB := yh HB0
 have HA := yh bA
 have HC := yh bC
 clear HB0 bA bC
 have S10 := yh R10
 have S10z := yh R10z
 clear R10 R10z
 go_wp2_with fail
 have HB0 := uh HB
 have bA := uh HA
 have bC := uh HC
 clear HB HA HC
 clear p10 q10
 have R10 := uh S10
 have R10z := uh S10z
 clear S10 S10z
 refine (kN _ _ x.aY _ R10 R10z).mono ?_
 rintro e w3 ⟨rfl, hb⟩
 replace bA := bA.au hb
 replace bC := bC.au hb
 replace HB0 := HB0.trans (hb.mono HB0.size)
 clear hb
 have HB := yh HB0
 have HA := yh bA
 have HC := yh bC
 clear HB0 bA bC
 go_wp2_with fail
 go_ret
 exact ⟨rfl, uh HB⟩
theorem ju (v v2 : Value) (xs : List bM) (w : World) (h : (ad.sl ad.aJ).Reads w [v] xs) (h2 : (ad.sl ad.aJ).Reads w [v2] xs) :
  Calls Tryz.prog 65 #[v, v2] w fun e w' => e = .returned (.bool true) ∧ Below w.heap.size w w' := by
 have hbig := h.cK
 obtain ⟨ao, cap, rfl⟩ := aB h
 obtain ⟨ao2, cap2, rfl⟩ := aB h2
 by_cases hp : 0 < xs.length
 ·
  obtain ⟨b, off, rfl, hbl⟩ := ad.aD h hp
  obtain ⟨b2, off2, rfl, hbl2⟩ := ad.aD h2 hp
  have H := yh h
  have H2 := yh h2
  clear h h2
  go_enter Tryz.func65, Tryz.ntmps65
  go_wp2_with fail
  go_loopw [5] (fun i wr => ∃ k : Nat, k ≤ xs.length ∧ i = .int .i64 k ∧ Below w.heap.size w wr) (fun i _ => xs.length - (intOf i).toNat)
  case atStart => exact ⟨0, Nat.zero_le _, rfl, Below.refl _ _⟩
  case round =>
   obtain ⟨k, hk, rfl, hB⟩ := hrel
   by_cases hlt : k < xs.length
   ·
    obtain ⟨row, hc, hr⟩ := ad.aR (uh H) hlt
    obtain ⟨rowz, hcz, hrz⟩ := ad.aR (uh H2) hlt
    have hr2 := hr
    obtain ⟨a4, d4, a9, d9, a10, d10, rfl, -, -, -⟩ := bu hr2
    have hrz2 := hrz
    obtain ⟨a4z, d4z, a9z, d9z, a10z, d10z, rfl, -, -, -⟩ := bu hrz2
    have c0 : w.cell? ⟨b, off + k * 11, none⟩ = some (.int .i64 (xs[k]).kind) := ((Below.refl w.heap.size w).cell (p := ⟨b, off + k * 11, none⟩) hbl).trans (hc 0 (by decide))
    have c1 : w.cell? ⟨b, off + k * 11 + 1, none⟩ = some (.int .i64 (xs[k]).aa) := ((Below.refl w.heap.size w).cell (p := ⟨b, off + k * 11 + 1, none⟩) hbl).trans (hc 1 (by decide))
    have c2 : w.cell? ⟨b, off + k * 11 + 2, none⟩ = some (.int .i64 (xs[k]).seq) := ((Below.refl w.heap.size w).cell (p := ⟨b, off + k * 11 + 2, none⟩) hbl).trans (hc 2 (by decide))
    have c3 : w.cell? ⟨b, off + k * 11 + 3, none⟩ = some (.int .i64 (xs[k]).id) := ((Below.refl w.heap.size w).cell (p := ⟨b, off + k * 11 + 3, none⟩) hbl).trans (hc 3 (by decide))
    have c4 : w.cell? ⟨b, off + k * 11 + 4, none⟩ = some (.slice a4 (xs[k]).query.length d4) := ((Below.refl w.heap.size w).cell (p := ⟨b, off + k * 11 + 4, none⟩) hbl).trans (hc 4 (by decide))
    have c5 : w.cell? ⟨b, off + k * 11 + 5, none⟩ = some (.int .i64 (xs[k]).k) := ((Below.refl w.heap.size w).cell (p := ⟨b, off + k * 11 + 5, none⟩) hbl).trans (hc 5 (by decide))
    have c6 : w.cell? ⟨b, off + k * 11 + 6, none⟩ = some (.int .i64 (xs[k]).start) := ((Below.refl w.heap.size w).cell (p := ⟨b, off + k * 11 + 6, none⟩) hbl).trans (hc 6 (by decide))
    have c7 : w.cell? ⟨b, off + k * 11 + 7, none⟩ = some (.int .i64 (xs[k]).fin) := ((Below.refl w.heap.size w).cell (p := ⟨b, off + k * 11 + 7, none⟩) hbl).trans (hc 7 (by decide))
    have c8 : w.cell? ⟨b, off + k * 11 + 8, none⟩ = some (.int .i64 (xs[k]).place) := ((Below.refl w.heap.size w).cell (p := ⟨b, off + k * 11 + 8, none⟩) hbl).trans (hc 8 (by decide))
    have c9 : w.cell? ⟨b, off + k * 11 + 9, none⟩ = some (.slice a9 (xs[k]).vec.length d9) := ((Below.refl w.heap.size w).cell (p := ⟨b, off + k * 11 + 9, none⟩) hbl).trans (hc 9 (by decide))
    have c10 : w.cell? ⟨b, off + k * 11 + 10, none⟩ = some (.slice a10 (xs[k]).aY.length d10) := ((Below.refl w.heap.size w).cell (p := ⟨b, off + k * 11 + 10, none⟩) hbl).trans (hc 10 (by decide))
    have c0z : w.cell? ⟨b2, off2 + k * 11, none⟩ = some (.int .i64 (xs[k]).kind) := ((Below.refl w.heap.size w).cell (p := ⟨b2, off2 + k * 11, none⟩) hbl2).trans (hcz 0 (by decide))
    have c1z : w.cell? ⟨b2, off2 + k * 11 + 1, none⟩ = some (.int .i64 (xs[k]).aa) := ((Below.refl w.heap.size w).cell (p := ⟨b2, off2 + k * 11 + 1, none⟩) hbl2).trans (hcz 1 (by decide))
    have c2z : w.cell? ⟨b2, off2 + k * 11 + 2, none⟩ = some (.int .i64 (xs[k]).seq) := ((Below.refl w.heap.size w).cell (p := ⟨b2, off2 + k * 11 + 2, none⟩) hbl2).trans (hcz 2 (by decide))
    have c3z : w.cell? ⟨b2, off2 + k * 11 + 3, none⟩ = some (.int .i64 (xs[k]).id) := ((Below.refl w.heap.size w).cell (p := ⟨b2, off2 + k * 11 + 3, none⟩) hbl2).trans (hcz 3 (by decide))
    have c4z : w.cell? ⟨b2, off2 + k * 11 + 4, none⟩ = some (.slice a4z (xs[k]).query.length d4z) := ((Below.refl w.heap.size w).cell (p := ⟨b2, off2 + k * 11 + 4, none⟩) hbl2).trans (hcz 4 (by decide))
    have c5z : w.cell? ⟨b2, off2 + k * 11 + 5, none⟩ = some (.int .i64 (xs[k]).k) := ((Below.refl w.heap.size w).cell (p := ⟨b2, off2 + k * 11 + 5, none⟩) hbl2).trans (hcz 5 (by decide))
    have c6z : w.cell? ⟨b2, off2 + k * 11 + 6, none⟩ = some (.int .i64 (xs[k]).start) := ((Below.refl w.heap.size w).cell (p := ⟨b2, off2 + k * 11 + 6, none⟩) hbl2).trans (hcz 6 (by decide))
    have c7z : w.cell? ⟨b2, off2 + k * 11 + 7, none⟩ = some (.int .i64 (xs[k]).fin) := ((Below.refl w.heap.size w).cell (p := ⟨b2, off2 + k * 11 + 7, none⟩) hbl2).trans (hcz 7 (by decide))
    have c8z : w.cell? ⟨b2, off2 + k * 11 + 8, none⟩ = some (.int .i64 (xs[k]).place) := ((Below.refl w.heap.size w).cell (p := ⟨b2, off2 + k * 11 + 8, none⟩) hbl2).trans (hcz 8 (by decide))
    have c9z : w.cell? ⟨b2, off2 + k * 11 + 9, none⟩ = some (.slice a9z (xs[k]).vec.length d9z) := ((Below.refl w.heap.size w).cell (p := ⟨b2, off2 + k * 11 + 9, none⟩) hbl2).trans (hcz 9 (by decide))
    have c10z : w.cell? ⟨b2, off2 + k * 11 + 10, none⟩ = some (.slice a10z (xs[k]).aY.length d10z) := ((Below.refl w.heap.size w).cell (p := ⟨b2, off2 + k * 11 + 10, none⟩) hbl2).trans (hcz 10 (by decide))
    clear hc hcz
    have HR := yh hr
    have HRZ := yh hrz
    clear hr hrz
    have HB := yh hB
    clear hB
    generalize hxk : xs[k] = x at *
    clear hxk
    have i1 : (0 : Int) ≤ (k : Int) := by omega
    have i2 : (k : Int) < (xs.length : Int) := by omega
    go_wp2_with fail
    refine wZz (fun w' => Below w.heap.size w w') (uh HB).drew (fun zq => ?_)
    generalize wr.drew = wD at zq ⊢
    refine tkH 0 zq ?_
    refine tkH 1 zq ?_
    refine tkH 2 zq ?_
    refine tkJ 3 (v := ?v3) ?h3 zq ?r3
    case h3 =>
     intro wS hSw
     have y0 := cZ hSw hbl c0
     have y1 := cZ hSw hbl c1
     have y2 := cZ hSw hbl c2
     have y3 := cZ hSw hbl c3
     have y4 := cZ hSw hbl c4
     have y5 := cZ hSw hbl c5
     have y6 := cZ hSw hbl c6
     have y7 := cZ hSw hbl c7
     have y8 := cZ hSw hbl c8
     have y9 := cZ hSw hbl c9
     have y10 := cZ hSw hbl c10
     clear hSw
     exact fZ
    refine tkH 4 zq ?_
    refine tkH 5 zq ?_
    refine tkH 6 zq ?_
    refine tkJ 7 (v := ?v7) ?h7 zq ?r7
    case h7 =>
     intro wS hSw
     have y0z := cZ hSw hbl2 c0z
     have y1z := cZ hSw hbl2 c1z
     have y2z := cZ hSw hbl2 c2z
     have y3z := cZ hSw hbl2 c3z
     have y4z := cZ hSw hbl2 c4z
     have y5z := cZ hSw hbl2 c5z
     have y6z := cZ hSw hbl2 c6z
     have y7z := cZ hSw hbl2 c7z
     have y8z := cZ hSw hbl2 c8z
     have y9z := cZ hSw hbl2 c9z
     have y10z := cZ hSw hbl2 c10z
     clear hSw
     exact fZ
    refine rdH 8 (fun K hK => ?_)
    go_simp
    go_at_call 133
    refine (jS _ _ x _ ((uh HR).af zq) ((uh HRZ).af zq)).mono ?_
    rintro e w3 ⟨rfl, hbw⟩
    try go_wp2_with fail
    refine hK.out _ _ (zq.trans (hbw.mono zq.size)) (fun zq => ?_)
    clear hK K
    try simp only [Act.put, pz, py, px]
    refine tkH 9 zq ?_
    refine dZ ?_
    have HB3 := yh zq
    clear zq c0 c0z c1 c1z c2 c2z c3 c3z c4 c4z c5 c5z c6 c6z c7 c7z c8 c8z c9 c9z c10 c10z HB
    go_wp2_with fail
    go_roundw
    case rel => exact ⟨k + 1, by omega, by go_num, uh HB3⟩
    case measure => simp [intOf]; omega
   have HB := yh hB
   clear hB
   go_wp2_with fail
   go_ret
   exact ⟨rfl, uh HB⟩
 obtain rfl : xs = [] := List.eq_nil_of_length_eq_zero (by omega)
 clear h h2 hp
 simp only [List.length_nil] at *
 go_enter Tryz.func65, Tryz.ntmps65
 go_wp2_with fail
 refine wp_loop_rounds 1 ?_
 rw [rounds_succ]
 go_wp2_with fail
 go_ret
 exact ⟨rfl, Below.refl _ _⟩
theorem kx (cs cs2 : List Value) (x : aN) (w : World) (h : ad.a8.Reads w cs x) (h2 : ad.a8.Reads w cs2 x) :
  Calls Tryz.prog 16 #[.agg cs.toArray, .agg cs2.toArray] w fun e w' => e = .returned (.bool true) ∧ Below w.heap.size w w' := by
 obtain ⟨a3, d3, a4, d4, a5, d5, a6, d6, rfl, R2, R4, R5, R6⟩ := aF h
 obtain ⟨a3z, d3z, a4z, d4z, a5z, d5z, a6z, d6z, rfl, R2z, R4z, R5z, R6z⟩ := aF h2
 clear h h2
 have e0 : (x.now != x.now) = false := by simp
 have e1 : (x.events != x.events) = false := by simp
 have e2 : (x.chain.ab != x.chain.ab) = false := by simp
 have HB0 : Below w.heap.size w ((w.alloc (.cells #[.int .i64 x.now, .int .i64 x.events, .int .i64 x.chain.ab, .slice a3 x.chain.ids.length d3, .slice a4 x.nodes.length d4, .slice a5 x.msgs.length d5, .slice a6 x.ae.length d6] 37)).alloc (.cells #[.int .i64 x.now, .int .i64 x.events, .int .i64 x.chain.ab, .slice a3z x.chain.ids.length d3z, .slice a4z x.nodes.length d4z, .slice a5z x.msgs.length d5z, .slice a6z x.ae.length d6z] 37)) := ((Below.refl _ _).alloc (Nat.le_refl _) _).alloc (by simp) _
 have bA : ar w.heap.size #[.int .i64 x.now, .int .i64 x.events, .int .i64 x.chain.ab, .slice a3 x.chain.ids.length d3, .slice a4 x.nodes.length d4, .slice a5 x.msgs.length d5, .slice a6 x.ae.length d6] 37 ((w.alloc (.cells #[.int .i64 x.now, .int .i64 x.events, .int .i64 x.chain.ab, .slice a3 x.chain.ids.length d3, .slice a4 x.nodes.length d4, .slice a5 x.msgs.length d5, .slice a6 x.ae.length d6] 37)).alloc (.cells #[.int .i64 x.now, .int .i64 x.events, .int .i64 x.chain.ab, .slice a3z x.chain.ids.length d3z, .slice a4z x.nodes.length d4z, .slice a5z x.msgs.length d5z, .slice a6z x.ae.length d6z] 37)) w.heap.size := (aM (Nat.le_refl _)).grow _
 have bC : ar w.heap.size #[.int .i64 x.now, .int .i64 x.events, .int .i64 x.chain.ab, .slice a3z x.chain.ids.length d3z, .slice a4z x.nodes.length d4z, .slice a5z x.msgs.length d5z, .slice a6z x.ae.length d6z] 37 ((w.alloc (.cells #[.int .i64 x.now, .int .i64 x.events, .int .i64 x.chain.ab, .slice a3 x.chain.ids.length d3, .slice a4 x.nodes.length d4, .slice a5 x.msgs.length d5, .slice a6 x.ae.length d6] 37)).alloc (.cells #[.int .i64 x.now, .int .i64 x.events, .int .i64 x.chain.ab, .slice a3z x.chain.ids.length d3z, .slice a4z x.nodes.length d4z, .slice a5z x.msgs.length d5z, .slice a6z x.ae.length d6z] 37)) (w.heap.size + 1) := aX (by omega) (by simp)
 go_enter Tryz.func16, Tryz.ntmps16
 go_wp2_with fail
 generalize (w.alloc (.cells #[.int .i64 x.now, .int .i64 x.events, .int .i64 x.chain.ab, .slice a3 x.chain.ids.length d3, .slice a4 x.nodes.length d4, .slice a5 x.msgs.length d5, .slice a6 x.ae.length d6] 37)).alloc (.cells #[.int .i64 x.now, .int .i64 x.events, .int .i64 x.chain.ab, .slice a3z x.chain.ids.length d3z, .slice a4z x.nodes.length d4z, .slice a5z x.msgs.length d5z, .slice a6z x.ae.length d6z] 37) = W0 at *
 replace R2 := R2.af HB0
 replace R2z := R2z.af HB0
 replace R4 := R4.af HB0
 replace R4z := R4z.af HB0
 replace R5 := R5.af HB0
 replace R5z := R5z.af HB0
 replace R6 := R6.af HB0
 replace R6z := R6z.af HB0
 refine (ku _ _ x.chain _ R2 R2z).mono ?_
 rintro e w1 ⟨rfl, hb⟩
 replace bA := bA.au hb
 replace bC := bC.au hb
 replace HB0 := HB0.trans (hb.mono HB0.size)
 replace R4 := R4.af hb
 replace R4z := R4z.af hb
 replace R5 := R5.af hb
 replace R5z := R5z.af hb
 replace R6 := R6.af hb
 replace R6z := R6z.af hb
 have p4 := bA.at 4 _ rfl
 have q4 := bC.at 4 _ rfl
 have p5 := bA.at 5 _ rfl
 have q5 := bC.at 5 _ rfl
 have p6 := bA.at 6 _ rfl
 have q6 := bC.at 6 _ rfl
 clear hb
 have HB := yh HB0
 have HA := yh bA
 have HC := yh bC
 clear HB0 bA bC
 have S4 := yh R4
 have S4z := yh R4z
 clear R4 R4z
 have S5 := yh R5
 have S5z := yh R5z
 clear R5 R5z
 have S6 := yh R6
 have S6z := yh R6z
 clear R6 R6z
 go_wp2_with fail
 have HB0 := uh HB
 have bA := uh HA
 have bC := uh HC
 clear HB HA HC
 clear p4 q4
 clear p5 q5
 clear p6 q6
 have R4 := uh S4
 have R4z := uh S4z
 clear S4 S4z
 have R5 := uh S5
 have R5z := uh S5z
 clear S5 S5z
 have R6 := uh S6
 have R6z := uh S6z
 clear S6 S6z
 refine (jT _ _ x.nodes _ R4 R4z).mono ?_
 rintro e w2 ⟨rfl, hb⟩
 replace bA := bA.au hb
 replace bC := bC.au hb
 replace HB0 := HB0.trans (hb.mono HB0.size)
 replace R5 := R5.af hb
 replace R5z := R5z.af hb
 replace R6 := R6.af hb
 replace R6z := R6z.af hb
 have p5 := bA.at 5 _ rfl
 have q5 := bC.at 5 _ rfl
 have p6 := bA.at 6 _ rfl
 have q6 := bC.at 6 _ rfl
 clear hb
 have HB := yh HB0
 have HA := yh bA
 have HC := yh bC
 clear HB0 bA bC
 have S5 := yh R5
 have S5z := yh R5z
 clear R5 R5z
 have S6 := yh R6
 have S6z := yh R6z
 clear R6 R6z
 go_wp2_with fail
 have HB0 := uh HB
 have bA := uh HA
 have bC := uh HC
 clear HB HA HC
 clear p5 q5
 clear p6 q6
 have R5 := uh S5
 have R5z := uh S5z
 clear S5 S5z
 have R6 := uh S6
 have R6z := uh S6z
 clear S6 S6z
 refine (kQ _ _ x.msgs _ R5 R5z).mono ?_
 rintro e w3 ⟨rfl, hb⟩
 replace bA := bA.au hb
 replace bC := bC.au hb
 replace HB0 := HB0.trans (hb.mono HB0.size)
 replace R6 := R6.af hb
 replace R6z := R6z.af hb
 have p6 := bA.at 6 _ rfl
 have q6 := bC.at 6 _ rfl
 clear hb
 have HB := yh HB0
 have HA := yh bA
 have HC := yh bC
 clear HB0 bA bC
 have S6 := yh R6
 have S6z := yh R6z
 clear R6 R6z
 go_wp2_with fail
 have HB0 := uh HB
 have bA := uh HA
 have bC := uh HC
 clear HB HA HC
 clear p6 q6
 have R6 := uh S6
 have R6z := uh S6z
 clear S6 S6z
 refine (ju _ _ x.ae _ R6 R6z).mono ?_
 rintro e w4 ⟨rfl, hb⟩
 replace bA := bA.au hb
 replace bC := bC.au hb
 replace HB0 := HB0.trans (hb.mono HB0.size)
 clear hb
 have HB := yh HB0
 have HA := yh bA
 have HC := yh bC
 clear HB0 bA bC
 go_wp2_with fail
 go_ret
 exact ⟨rfl, uh HB⟩
end Go.Proofs.YtecagllmonckgaaGreat
