/-
  Texts of this proof in one: ToWorld, EqChain, EqWrite, EqWriteS, EqNode, EqNodeS, EqMsg, EqMsgS, EqHit, EqHitS, EqEntry, EqEntryS, EqWorld, OwnWorld, OwnChain, LayMark, MaChain, OwnNode, MaWriteS, MaNodeS, OwnMsg.
  Their conditions stand in their theorems.
-/
import Derived.Test.YtecagllmonckgaaGreatChecked
import Derived.Test.YtecagllmonckgaaGreatFi01
import Derived.Test.YtecagllmonckgaaGreatFi02
import Derived.Test.YtecagllmonckgaaGreatFi00
import Derived.Deep.RegionHeld3
set_option maxRecDepth 100000
set_option maxHeartbeats 4000000
namespace Go.Proofs.YtecagllmonckgaaGreat
open Go.RowKit
theorem gr (cs : List Value) (x : ay) (w : World) (h : ab.aC.Reads w cs x) (hn : ab.aC.sz x ≤ 1048576) :
  Calls Tryz.prog 13 #[.agg cs.toArray] w fun e w' => ∃ cs', e = .returned (.agg cs'.toArray) ∧ ab.aC.aQ w' cs' x w.heap.size w'.heap.size ∧ Below w.heap.size w w' := by
 have h0 := h
 obtain ⟨bl, hl⟩ := h0
 obtain ⟨-, -, -, -, -, -, -, -, -, -, -, -, -, -, f0, f1, f2, -, -, -, -⟩ := cG.1 hl
 clear hl
 obtain ⟨a3, d3, a4, d4, a5, d5, a6, d6, rfl, R2, R4, R5, R6⟩ := aG h
 clear h
 rw [gR] at hn
 have HF := yh (And.intro f0 (And.intro f1 (f2)))
 clear f0 f1 f2
 have HB0 : Below w.heap.size w (((w.alloc (.cells #[.int .i64 x.now, .int .i64 x.events, .int .i64 x.chain.af, .slice a3 x.chain.ids.length d3, .slice a4 x.nodes.length d4, .slice a5 x.msgs.length d5, .slice a6 x.ae.length d6] 29)).alloc (.cells #[.int .i64 0, .int .i64 0, .int .i64 0, .slice none 0 0, .slice none 0 0, .slice none 0 0, .slice none 0 0] 37)).alloc (.cells #[.int .i64 x.now, .int .i64 x.events, .int .i64 0, .slice none 0 0, .slice none 0 0, .slice none 0 0, .slice none 0 0] 37)) := (((Below.refl _ _).alloc (Nat.le_refl _) _).alloc (by simp) _).alloc (by simp; omega) _
 have bA : aj w.heap.size #[.int .i64 x.now, .int .i64 x.events, .int .i64 x.chain.af, .slice a3 x.chain.ids.length d3, .slice a4 x.nodes.length d4, .slice a5 x.msgs.length d5, .slice a6 x.ae.length d6] 29 (((w.alloc (.cells #[.int .i64 x.now, .int .i64 x.events, .int .i64 x.chain.af, .slice a3 x.chain.ids.length d3, .slice a4 x.nodes.length d4, .slice a5 x.msgs.length d5, .slice a6 x.ae.length d6] 29)).alloc (.cells #[.int .i64 0, .int .i64 0, .int .i64 0, .slice none 0 0, .slice none 0 0, .slice none 0 0, .slice none 0 0] 37)).alloc (.cells #[.int .i64 x.now, .int .i64 x.events, .int .i64 0, .slice none 0 0, .slice none 0 0, .slice none 0 0, .slice none 0 0] 37)) w.heap.size := ((aH (Nat.le_refl _)).grow _).grow _
 have bR : aj w.heap.size #[.int .i64 0, .int .i64 0, .int .i64 0, .slice none 0 0, .slice none 0 0, .slice none 0 0, .slice none 0 0] 37 (((w.alloc (.cells #[.int .i64 x.now, .int .i64 x.events, .int .i64 x.chain.af, .slice a3 x.chain.ids.length d3, .slice a4 x.nodes.length d4, .slice a5 x.msgs.length d5, .slice a6 x.ae.length d6] 29)).alloc (.cells #[.int .i64 0, .int .i64 0, .int .i64 0, .slice none 0 0, .slice none 0 0, .slice none 0 0, .slice none 0 0] 37)).alloc (.cells #[.int .i64 x.now, .int .i64 x.events, .int .i64 0, .slice none 0 0, .slice none 0 0, .slice none 0 0, .slice none 0 0] 37)) (w.heap.size + 1) := (bg (by omega) (by simp)).grow _
 have bX : aj w.heap.size #[.int .i64 x.now, .int .i64 x.events, .int .i64 0, .slice none 0 0, .slice none 0 0, .slice none 0 0, .slice none 0 0] 37 (((w.alloc (.cells #[.int .i64 x.now, .int .i64 x.events, .int .i64 x.chain.af, .slice a3 x.chain.ids.length d3, .slice a4 x.nodes.length d4, .slice a5 x.msgs.length d5, .slice a6 x.ae.length d6] 29)).alloc (.cells #[.int .i64 0, .int .i64 0, .int .i64 0, .slice none 0 0, .slice none 0 0, .slice none 0 0, .slice none 0 0] 37)).alloc (.cells #[.int .i64 x.now, .int .i64 x.events, .int .i64 0, .slice none 0 0, .slice none 0 0, .slice none 0 0, .slice none 0 0] 37)) (w.heap.size + 2) := bg (by omega) (by simp)
 have hz0 : w.heap.size + 3 ≤ (((w.alloc (.cells #[.int .i64 x.now, .int .i64 x.events, .int .i64 x.chain.af, .slice a3 x.chain.ids.length d3, .slice a4 x.nodes.length d4, .slice a5 x.msgs.length d5, .slice a6 x.ae.length d6] 29)).alloc (.cells #[.int .i64 0, .int .i64 0, .int .i64 0, .slice none 0 0, .slice none 0 0, .slice none 0 0, .slice none 0 0] 37)).alloc (.cells #[.int .i64 x.now, .int .i64 x.events, .int .i64 0, .slice none 0 0, .slice none 0 0, .slice none 0 0, .slice none 0 0] 37)).heap.size := by simp
 go_enter Tryz.func13, Tryz.ntmps13
 go_wp2_with fail
 generalize ((w.alloc (.cells #[.int .i64 x.now, .int .i64 x.events, .int .i64 x.chain.af, .slice a3 x.chain.ids.length d3, .slice a4 x.nodes.length d4, .slice a5 x.msgs.length d5, .slice a6 x.ae.length d6] 29)).alloc (.cells #[.int .i64 0, .int .i64 0, .int .i64 0, .slice none 0 0, .slice none 0 0, .slice none 0 0, .slice none 0 0] 37)).alloc (.cells #[.int .i64 x.now, .int .i64 x.events, .int .i64 0, .slice none 0 0, .slice none 0 0, .slice none 0 0, .slice none 0 0] 37) = W0 at *
 replace R2 := R2.cX.ag HB0
 replace R4 := R4.cX.ag HB0
 replace R5 := R5.cX.ag HB0
 replace R6 := R6.cX.ag HB0
 refine (qc _ x.chain W0 R2.reads (by omega)).mono ?_
 rintro e w1 ⟨v2, rfl, O2, hb⟩
 have Z0 : W0.heap.size ≤ w1.heap.size := hb.size
 replace HB0 := HB0.trans (hb.mono HB0.size)
 replace bA := bA.au hb
 replace bR := bR.au hb
 replace bX := bX.au hb
 replace R4 := R4.ag hb
 replace R5 := R5.ag hb
 replace R6 := R6.ag hb
 clear hb R2
 obtain ⟨a3z, d3z, rfl, -⟩ := bP O2.reads
 have p4 := bA.at 4 _ rfl
 have q2 := bX.at 2 _ rfl
 have q3 := bX.at 3 _ rfl
 have qf := bX.soft
 have ql := bX.lt
 have pl := bA.lt
 simp only [ga, gb, gc] at p4 q2 q3
 have hA := yh bA
 have hR := yh bR
 have hX := yh bX
 have hB := yh HB0
 clear bA bR bX HB0
 have hO2 := yh O2
 clear O2
 have hR4 := yh R4
 clear R4
 have hR5 := yh R5
 clear R5
 have hR6 := yh R6
 clear R6
 go_wp2_with fail
 clear p4 q2 q3 qf ql pl
 have E : Ext (fun q => q = w.heap.size + 2) w1 ((w1.setCell ⟨w.heap.size + 2, 2, none⟩ (.int .i64 x.chain.af)).setCell ⟨w.heap.size + 2, 3, none⟩ (.slice a3z x.chain.ids.length d3z)) := ck (Ext.refl _ _) (w.heap.size + 2) [(2, .int .i64 x.chain.af), (3, .slice a3z x.chain.ids.length d3z)] rfl
 have bX : aj w.heap.size #[.int .i64 x.now, .int .i64 x.events, .int .i64 x.chain.af, .slice a3z x.chain.ids.length d3z, .slice none 0 0, .slice none 0 0, .slice none 0 0] 37 ((w1.setCell ⟨w.heap.size + 2, 2, none⟩ (.int .i64 x.chain.af)).setCell ⟨w.heap.size + 2, 3, none⟩ (.slice a3z x.chain.ids.length d3z)) (w.heap.size + 2) := (((uh hX).set 2 (.int .i64 x.chain.af)).set 3 (.slice a3z x.chain.ids.length d3z))
 have bA := (uh hA).ext E (by omega)
 have bR := (uh hR).ext E (by omega)
 have HB0 : Below w.heap.size w ((w1.setCell ⟨w.heap.size + 2, 2, none⟩ (.int .i64 x.chain.af)).setCell ⟨w.heap.size + 2, 3, none⟩ (.slice a3z x.chain.ids.length d3z)) := (uh hB).trans (E.below (uh hB).size (fun k h1 h2 => by omega))
 have O2 := (uh hO2).ext E (fun k h1 h2 h3 => by omega)
 have R4 := (uh hR4).ext E (fun k h1 h2 h3 => by omega)
 have R5 := (uh hR5).ext E (fun k h1 h2 h3 => by omega)
 have R6 := (uh hR6).ext E (fun k h1 h2 h3 => by omega)
 have Y0 : w1.heap.size ≤ ((w1.setCell ⟨w.heap.size + 2, 2, none⟩ (.int .i64 x.chain.af)).setCell ⟨w.heap.size + 2, 3, none⟩ (.slice a3z x.chain.ids.length d3z)).heap.size := E.size
 clear hA hR hX hB hO2 hR4 hR5 hR6 E
 generalize ((w1.setCell ⟨w.heap.size + 2, 2, none⟩ (.int .i64 x.chain.af)).setCell ⟨w.heap.size + 2, 3, none⟩ (.slice a3z x.chain.ids.length d3z)) = W1 at *
 refine (qg _ x.nodes W1 R4.reads (by omega)).mono ?_
 rintro e w2 ⟨v4, rfl, O4, hb⟩
 have Z1 : W1.heap.size ≤ w2.heap.size := hb.size
 replace HB0 := HB0.trans (hb.mono HB0.size)
 replace bA := bA.au hb
 replace bR := bR.au hb
 replace bX := bX.au hb
 replace R5 := R5.ag hb
 replace R6 := R6.ag hb
 replace O2 := O2.ag hb
 clear hb R4
 obtain ⟨a4z, d4z, rfl⟩ := aE O4.reads
 have p5 := bA.at 5 _ rfl
 have q4 := bX.at 4 _ rfl
 have qf := bX.soft
 have ql := bX.lt
 have pl := bA.lt
 simp only [ga, gb, gc] at p5 q4
 have hA := yh bA
 have hR := yh bR
 have hX := yh bX
 have hB := yh HB0
 clear bA bR bX HB0
 have hO2 := yh O2
 clear O2
 have hO4 := yh O4
 clear O4
 have hR5 := yh R5
 clear R5
 have hR6 := yh R6
 clear R6
 go_wp2_with fail
 clear p5 q4 qf ql pl
 have E : Ext (fun q => q = w.heap.size + 2) w2 (w2.setCell ⟨w.heap.size + 2, 4, none⟩ (.slice a4z x.nodes.length d4z)) := ck (Ext.refl _ _) (w.heap.size + 2) [(4, .slice a4z x.nodes.length d4z)] rfl
 have bX : aj w.heap.size #[.int .i64 x.now, .int .i64 x.events, .int .i64 x.chain.af, .slice a3z x.chain.ids.length d3z, .slice a4z x.nodes.length d4z, .slice none 0 0, .slice none 0 0] 37 (w2.setCell ⟨w.heap.size + 2, 4, none⟩ (.slice a4z x.nodes.length d4z)) (w.heap.size + 2) := (uh hX).set 4 (.slice a4z x.nodes.length d4z)
 have bA := (uh hA).ext E (by omega)
 have bR := (uh hR).ext E (by omega)
 have HB0 : Below w.heap.size w (w2.setCell ⟨w.heap.size + 2, 4, none⟩ (.slice a4z x.nodes.length d4z)) := (uh hB).trans (E.below (uh hB).size (fun k h1 h2 => by omega))
 have O2 := (uh hO2).ext E (fun k h1 h2 h3 => by omega)
 have O4 := (uh hO4).ext E (fun k h1 h2 h3 => by omega)
 have R5 := (uh hR5).ext E (fun k h1 h2 h3 => by omega)
 have R6 := (uh hR6).ext E (fun k h1 h2 h3 => by omega)
 have Y1 : w2.heap.size ≤ (w2.setCell ⟨w.heap.size + 2, 4, none⟩ (.slice a4z x.nodes.length d4z)).heap.size := E.size
 clear hA hR hX hB hO2 hO4 hR5 hR6 E
 generalize (w2.setCell ⟨w.heap.size + 2, 4, none⟩ (.slice a4z x.nodes.length d4z)) = W2 at *
 refine (qY _ x.msgs W2 R5.reads (by omega)).mono ?_
 rintro e w3 ⟨v5, rfl, O5, hb⟩
 have Z2 : W2.heap.size ≤ w3.heap.size := hb.size
 replace HB0 := HB0.trans (hb.mono HB0.size)
 replace bA := bA.au hb
 replace bR := bR.au hb
 replace bX := bX.au hb
 replace R6 := R6.ag hb
 replace O2 := O2.ag hb
 replace O4 := O4.ag hb
 clear hb R5
 obtain ⟨a5z, d5z, rfl⟩ := aE O5.reads
 have p6 := bA.at 6 _ rfl
 have q5 := bX.at 5 _ rfl
 have qf := bX.soft
 have ql := bX.lt
 have pl := bA.lt
 simp only [ga, gb, gc] at p6 q5
 have hA := yh bA
 have hR := yh bR
 have hX := yh bX
 have hB := yh HB0
 clear bA bR bX HB0
 have hO2 := yh O2
 clear O2
 have hO4 := yh O4
 clear O4
 have hO5 := yh O5
 clear O5
 have hR6 := yh R6
 clear R6
 go_wp2_with fail
 clear p6 q5 qf ql pl
 have E : Ext (fun q => q = w.heap.size + 2) w3 (w3.setCell ⟨w.heap.size + 2, 5, none⟩ (.slice a5z x.msgs.length d5z)) := ck (Ext.refl _ _) (w.heap.size + 2) [(5, .slice a5z x.msgs.length d5z)] rfl
 have bX : aj w.heap.size #[.int .i64 x.now, .int .i64 x.events, .int .i64 x.chain.af, .slice a3z x.chain.ids.length d3z, .slice a4z x.nodes.length d4z, .slice a5z x.msgs.length d5z, .slice none 0 0] 37 (w3.setCell ⟨w.heap.size + 2, 5, none⟩ (.slice a5z x.msgs.length d5z)) (w.heap.size + 2) := (uh hX).set 5 (.slice a5z x.msgs.length d5z)
 have bA := (uh hA).ext E (by omega)
 have bR := (uh hR).ext E (by omega)
 have HB0 : Below w.heap.size w (w3.setCell ⟨w.heap.size + 2, 5, none⟩ (.slice a5z x.msgs.length d5z)) := (uh hB).trans (E.below (uh hB).size (fun k h1 h2 => by omega))
 have O2 := (uh hO2).ext E (fun k h1 h2 h3 => by omega)
 have O4 := (uh hO4).ext E (fun k h1 h2 h3 => by omega)
 have O5 := (uh hO5).ext E (fun k h1 h2 h3 => by omega)
 have R6 := (uh hR6).ext E (fun k h1 h2 h3 => by omega)
 have Y2 : w3.heap.size ≤ (w3.setCell ⟨w.heap.size + 2, 5, none⟩ (.slice a5z x.msgs.length d5z)).heap.size := E.size
 clear hA hR hX hB hO2 hO4 hO5 hR6 E
 generalize (w3.setCell ⟨w.heap.size + 2, 5, none⟩ (.slice a5z x.msgs.length d5z)) = W3 at *
 refine (oU _ x.ae W3 R6.reads (by omega)).mono ?_
 rintro e w4 ⟨v6, rfl, O6, hb⟩
 have Z3 : W3.heap.size ≤ w4.heap.size := hb.size
 replace HB0 := HB0.trans (hb.mono HB0.size)
 replace bA := bA.au hb
 replace bR := bR.au hb
 replace bX := bX.au hb
 replace O2 := O2.ag hb
 replace O4 := O4.ag hb
 replace O5 := O5.ag hb
 clear hb R6
 obtain ⟨a6z, d6z, rfl⟩ := aE O6.reads
 have q0 := bX.at 0 _ rfl
 have q1 := bX.at 1 _ rfl
 have q2 := bX.at 2 _ rfl
 have q3 := bX.at 3 _ rfl
 have q4 := bX.at 4 _ rfl
 have q5 := bX.at 5 _ rfl
 have q6 := bX.at 6 _ rfl
 have qf := bX.soft
 have ql := bX.lt
 have pl := bA.lt
 have r0 := bR.at 0 _ rfl
 have r1 := bR.at 1 _ rfl
 have r2 := bR.at 2 _ rfl
 have r3 := bR.at 3 _ rfl
 have r4 := bR.at 4 _ rfl
 have r5 := bR.at 5 _ rfl
 have r6 := bR.at 6 _ rfl
 have rf := bR.soft
 have rl := bR.lt
 simp only [ga, gb, gc] at q0 q1 q2 q3 q4 q5 q6 r0 r1 r2 r3 r4 r5 r6
 have hA := yh bA
 have hR := yh bR
 have hX := yh bX
 have hB := yh HB0
 clear bA bR bX HB0
 have hO2 := yh O2
 clear O2
 have hO4 := yh O4
 clear O4
 have hO5 := yh O5
 clear O5
 have hO6 := yh O6
 clear O6
 go_wp2_with fail
 refine bodyPost_ret (v := .agg #[.int .i64 x.now, .int .i64 x.events, .int .i64 x.chain.af, .slice a3z x.chain.ids.length d3z, .slice a4z x.nodes.length d4z, .slice a5z x.msgs.length d5z, .slice a6z x.ae.length d6z]) (by simp [results, Tryz.results13, go_sem, r0, r1, r2, r3, r4, r5, r6]) rfl ?_
 have E : Ext (fun q => q = w.heap.size + 2 ∨ q = w.heap.size + 1) w4 _ := ck (ck (Ext.refl _ _) (w.heap.size + 2) [(6, .slice a6z x.ae.length d6z)] (Or.inl rfl)) (w.heap.size + 1) [(0, .int .i64 x.now), (1, .int .i64 x.events), (2, .int .i64 x.chain.af), (3, .slice a3z x.chain.ids.length d3z), (4, .slice a4z x.nodes.length d4z), (5, .slice a5z x.msgs.length d5z), (6, .slice a6z x.ae.length d6z)] (Or.inr rfl)
 obtain ⟨f0, f1, f2⟩ := uh HF
 have own : ab.aC.aQ _ [.int .i64 x.now, .int .i64 x.events, .int .i64 x.chain.af, .slice a3z x.chain.ids.length d3z, .slice a4z x.nodes.length d4z, .slice a5z x.msgs.length d5z, .slice a6z x.ae.length d6z] x w.heap.size w4.heap.size := (ab.aT (ab.br (lo := w.heap.size) (hi := w.heap.size) f0) (ab.aT (ab.br (lo := w.heap.size) (hi := w.heap.size) f1) (ab.aT ((uh hO2).ext E (fun k h1 h2 h3 => by omega)) (ab.aT ((uh hO4).ext E (fun k h1 h2 h3 => by omega)) (ab.aT ((uh hO5).ext E (fun k h1 h2 h3 => by omega)) ((uh hO6).ext E (fun k h1 h2 h3 => by omega)) (by omega) (by omega) (by omega)) (by omega) (by omega) (by omega)) (by omega) (by omega) (by omega)) (by omega) (by omega) (by omega)) (by omega) (by omega) (by omega))
 have hsz := E.size
 have told := ab.fE (w := w) own (by omega) (by omega) ((uh hB).trans (E.below (uh hB).size (fun k h1 h2 => by omega)))
 exact told
theorem qo (cs cs2 : List Value) (x : bH) (w : World) (h : ab.aD.Reads w cs x) (h2 : ab.aD.Reads w cs2 x) :
  Calls Tryz.prog 62 #[.agg cs.toArray, .agg cs2.toArray] w fun e w' => e = .returned (.bool true) ∧ Below w.heap.size w w' := by
 obtain ⟨a1, d1, rfl, R1⟩ := bP h
 obtain ⟨a1z, d1z, rfl, R1z⟩ := bP h2
 clear h h2
 have e0 : (x.af != x.af) = false := by simp
 have HB0 : Below w.heap.size w ((w.alloc (.cells #[.int .i64 x.af, .slice a1 x.ids.length d1] 32)).alloc (.cells #[.int .i64 x.af, .slice a1z x.ids.length d1z] 32)) := ((Below.refl _ _).alloc (Nat.le_refl _) _).alloc (by simp) _
 have bA : aj w.heap.size #[.int .i64 x.af, .slice a1 x.ids.length d1] 32 ((w.alloc (.cells #[.int .i64 x.af, .slice a1 x.ids.length d1] 32)).alloc (.cells #[.int .i64 x.af, .slice a1z x.ids.length d1z] 32)) w.heap.size := (aH (Nat.le_refl _)).grow _
 have bC : aj w.heap.size #[.int .i64 x.af, .slice a1z x.ids.length d1z] 32 ((w.alloc (.cells #[.int .i64 x.af, .slice a1 x.ids.length d1] 32)).alloc (.cells #[.int .i64 x.af, .slice a1z x.ids.length d1z] 32)) (w.heap.size + 1) := bg (by omega) (by simp)
 go_enter Tryz.func62, Tryz.ntmps62
 go_wp2_with fail
 generalize (w.alloc (.cells #[.int .i64 x.af, .slice a1 x.ids.length d1] 32)).alloc (.cells #[.int .i64 x.af, .slice a1z x.ids.length d1z] 32) = W0 at *
 replace R1 := R1.ag HB0
 replace R1z := R1z.ag HB0
 refine (fy _ _ x.ids _ R1 R1z).mono ?_
 rintro e w1 ⟨rfl, hb⟩
 replace bA := bA.au hb
 replace bC := bC.au hb
 replace HB0 := HB0.trans (hb.mono HB0.size)
 clear hb
 have HB := yh HB0
 have HA := yh bA
 have HC := yh bC
 clear HB0 bA bC
 go_wp2_with fail
 go_ret
 exact ⟨rfl, uh HB⟩
theorem ld (cs cs2 : List Value) (x : aA) (w : World) (h : ab.ai.Reads w cs x) (h2 : ab.ai.Reads w cs2 x) :
  Calls Tryz.prog 198 #[.agg cs.toArray, .agg cs2.toArray] w fun e w' => e = .returned (.bool true) ∧ Below w.heap.size w w' := by
 obtain ⟨a2, d2, rfl, R2⟩ := bk h
 obtain ⟨a2z, d2z, rfl, R2z⟩ := bk h2
 clear h h2
 have e0 : (x.kind != x.kind) = false := by simp
 have e1 : (x.id != x.id) = false := by simp
 have e3 : (x.aa != x.aa) = false := by simp
 have e4 : (x.seq != x.seq) = false := by simp
 have HB0 : Below w.heap.size w ((w.alloc (.cells #[.int .i64 x.kind, .int .i64 x.id, .slice a2 x.vec.length d2, .int .i64 x.aa, .int .i64 x.seq] 142)).alloc (.cells #[.int .i64 x.kind, .int .i64 x.id, .slice a2z x.vec.length d2z, .int .i64 x.aa, .int .i64 x.seq] 142)) := ((Below.refl _ _).alloc (Nat.le_refl _) _).alloc (by simp) _
 have bA : aj w.heap.size #[.int .i64 x.kind, .int .i64 x.id, .slice a2 x.vec.length d2, .int .i64 x.aa, .int .i64 x.seq] 142 ((w.alloc (.cells #[.int .i64 x.kind, .int .i64 x.id, .slice a2 x.vec.length d2, .int .i64 x.aa, .int .i64 x.seq] 142)).alloc (.cells #[.int .i64 x.kind, .int .i64 x.id, .slice a2z x.vec.length d2z, .int .i64 x.aa, .int .i64 x.seq] 142)) w.heap.size := (aH (Nat.le_refl _)).grow _
 have bC : aj w.heap.size #[.int .i64 x.kind, .int .i64 x.id, .slice a2z x.vec.length d2z, .int .i64 x.aa, .int .i64 x.seq] 142 ((w.alloc (.cells #[.int .i64 x.kind, .int .i64 x.id, .slice a2 x.vec.length d2, .int .i64 x.aa, .int .i64 x.seq] 142)).alloc (.cells #[.int .i64 x.kind, .int .i64 x.id, .slice a2z x.vec.length d2z, .int .i64 x.aa, .int .i64 x.seq] 142)) (w.heap.size + 1) := bg (by omega) (by simp)
 go_enter Tryz.func198, Tryz.ntmps198
 go_wp2_with fail
 generalize (w.alloc (.cells #[.int .i64 x.kind, .int .i64 x.id, .slice a2 x.vec.length d2, .int .i64 x.aa, .int .i64 x.seq] 142)).alloc (.cells #[.int .i64 x.kind, .int .i64 x.id, .slice a2z x.vec.length d2z, .int .i64 x.aa, .int .i64 x.seq] 142) = W0 at *
 replace R2 := R2.ag HB0
 replace R2z := R2z.ag HB0
 refine (fy _ _ x.vec _ R2 R2z).mono ?_
 rintro e w1 ⟨rfl, hb⟩
 replace bA := bA.au hb
 replace bC := bC.au hb
 replace HB0 := HB0.trans (hb.mono HB0.size)
 have p3 := bA.at 3 _ rfl
 have q3 := bC.at 3 _ rfl
 have p4 := bA.at 4 _ rfl
 have q4 := bC.at 4 _ rfl
 clear hb
 have HB := yh HB0
 have HA := yh bA
 have HC := yh bC
 clear HB0 bA bC
 go_wp2_with fail
 go_ret
 exact ⟨rfl, uh HB⟩
theorem nV (v v2 : Value) (xs : List aA) (w : World) (h : (ab.sl ab.ai).Reads w [v] xs) (h2 : (ab.sl ab.ai).Reads w [v2] xs) :
  Calls Tryz.prog 197 #[v, v2] w fun e w' => e = .returned (.bool true) ∧ Below w.heap.size w w' := by
 have hbig := h.dK
 obtain ⟨ao, cap, rfl⟩ := aE h
 obtain ⟨ao2, cap2, rfl⟩ := aE h2
 by_cases hp : 0 < xs.length
 ·
  obtain ⟨b, off, rfl, hbl⟩ := ab.aI h hp
  obtain ⟨b2, off2, rfl, hbl2⟩ := ab.aI h2 hp
  have H := yh h
  have H2 := yh h2
  clear h h2
  go_enter Tryz.func197, Tryz.ntmps197
  go_wp2_with fail
  go_loopw [5] (fun i wr => ∃ k : Nat, k ≤ xs.length ∧ i = .int .i64 k ∧ Below w.heap.size w wr) (fun i _ => xs.length - (intOf i).toNat)
  case atStart => exact ⟨0, Nat.zero_le _, rfl, Below.refl _ _⟩
  case round =>
   obtain ⟨k, hk, rfl, hB⟩ := hrel
   by_cases hlt : k < xs.length
   ·
    obtain ⟨row, hc, hr⟩ := ab.bm (uh H) hlt
    obtain ⟨rowz, hcz, hrz⟩ := ab.bm (uh H2) hlt
    have hr2 := hr
    obtain ⟨a2, d2, rfl, -⟩ := bk hr2
    have hrz2 := hrz
    obtain ⟨a2z, d2z, rfl, -⟩ := bk hrz2
    have c0 : w.cell? ⟨b, off + k * 5, none⟩ = some (.int .i64 (xs[k]).kind) := ((Below.refl w.heap.size w).cell (p := ⟨b, off + k * 5, none⟩) hbl).trans (hc 0 (by decide))
    have c1 : w.cell? ⟨b, off + k * 5 + 1, none⟩ = some (.int .i64 (xs[k]).id) := ((Below.refl w.heap.size w).cell (p := ⟨b, off + k * 5 + 1, none⟩) hbl).trans (hc 1 (by decide))
    have c2 : w.cell? ⟨b, off + k * 5 + 2, none⟩ = some (.slice a2 (xs[k]).vec.length d2) := ((Below.refl w.heap.size w).cell (p := ⟨b, off + k * 5 + 2, none⟩) hbl).trans (hc 2 (by decide))
    have c3 : w.cell? ⟨b, off + k * 5 + 3, none⟩ = some (.int .i64 (xs[k]).aa) := ((Below.refl w.heap.size w).cell (p := ⟨b, off + k * 5 + 3, none⟩) hbl).trans (hc 3 (by decide))
    have c4 : w.cell? ⟨b, off + k * 5 + 4, none⟩ = some (.int .i64 (xs[k]).seq) := ((Below.refl w.heap.size w).cell (p := ⟨b, off + k * 5 + 4, none⟩) hbl).trans (hc 4 (by decide))
    have c0z : w.cell? ⟨b2, off2 + k * 5, none⟩ = some (.int .i64 (xs[k]).kind) := ((Below.refl w.heap.size w).cell (p := ⟨b2, off2 + k * 5, none⟩) hbl2).trans (hcz 0 (by decide))
    have c1z : w.cell? ⟨b2, off2 + k * 5 + 1, none⟩ = some (.int .i64 (xs[k]).id) := ((Below.refl w.heap.size w).cell (p := ⟨b2, off2 + k * 5 + 1, none⟩) hbl2).trans (hcz 1 (by decide))
    have c2z : w.cell? ⟨b2, off2 + k * 5 + 2, none⟩ = some (.slice a2z (xs[k]).vec.length d2z) := ((Below.refl w.heap.size w).cell (p := ⟨b2, off2 + k * 5 + 2, none⟩) hbl2).trans (hcz 2 (by decide))
    have c3z : w.cell? ⟨b2, off2 + k * 5 + 3, none⟩ = some (.int .i64 (xs[k]).aa) := ((Below.refl w.heap.size w).cell (p := ⟨b2, off2 + k * 5 + 3, none⟩) hbl2).trans (hcz 3 (by decide))
    have c4z : w.cell? ⟨b2, off2 + k * 5 + 4, none⟩ = some (.int .i64 (xs[k]).seq) := ((Below.refl w.heap.size w).cell (p := ⟨b2, off2 + k * 5 + 4, none⟩) hbl2).trans (hcz 4 (by decide))
    clear hc hcz
    have HR := yh hr
    have HRZ := yh hrz
    clear hr hrz
    have HB := yh hB
    clear hB
    generalize hxk : xs[k] = x at *
    clear hxk
    have i1 : (0 : Int) ≤ (k : Int) := by omega
    have i2 : (k : Int) < (xs.length : Int) := by omega
    go_wp2_with fail
    refine wZz (fun w' => Below w.heap.size w w') (uh HB).drew (fun zq => ?_)
    generalize wr.drew = wD at zq ⊢
    refine tkH 0 zq ?_
    refine tkH 1 zq ?_
    refine tkH 2 zq ?_
    refine tkJ 3 (v := ?v3) ?h3 zq ?r3
    case h3 =>
     intro wS hSw
     have y0 := cZ hSw hbl c0
     have y1 := cZ hSw hbl c1
     have y2 := cZ hSw hbl c2
     have y3 := cZ hSw hbl c3
     have y4 := cZ hSw hbl c4
     clear hSw
     exact fZ
    refine tkH 4 zq ?_
    refine tkH 5 zq ?_
    refine tkH 6 zq ?_
    refine tkJ 7 (v := ?v7) ?h7 zq ?r7
    case h7 =>
     intro wS hSw
     have y0z := cZ hSw hbl2 c0z
     have y1z := cZ hSw hbl2 c1z
     have y2z := cZ hSw hbl2 c2z
     have y3z := cZ hSw hbl2 c3z
     have y4z := cZ hSw hbl2 c4z
     clear hSw
     exact fZ
    refine rdH 8 (fun K hK => ?_)
    go_simp
    go_at_call 198
    refine (ld _ _ x _ ((uh HR).ag zq) ((uh HRZ).ag zq)).mono ?_
    rintro e w3 ⟨rfl, hbw⟩
    try go_wp2_with fail
    refine hK.out _ _ (zq.trans (hbw.mono zq.size)) (fun zq => ?_)
    clear hK K
    try simp only [Act.put, pz, py, px]
    refine tkH 9 zq ?_
    refine dZ ?_
    have HB3 := yh zq
    clear zq c0 c0z c1 c1z c2 c2z c3 c3z c4 c4z HB
    go_wp2_with fail
    go_roundw
    case rel => exact ⟨k + 1, by omega, by go_num, uh HB3⟩
    case measure => simp [intOf]; omega
   have HB := yh hB
   clear hB
   go_wp2_with fail
   go_ret
   exact ⟨rfl, uh HB⟩
 obtain rfl : xs = [] := List.eq_nil_of_length_eq_zero (by omega)
 clear h h2 hp
 simp only [List.length_nil] at *
 go_enter Tryz.func197, Tryz.ntmps197
 go_wp2_with fail
 refine wp_loop_rounds 1 ?_
 rw [rounds_succ]
 go_wp2_with fail
 go_ret
 exact ⟨rfl, Below.refl _ _⟩
theorem ru (cs cs2 : List Value) (x : bz) (w : World) (h : ab.ax.Reads w cs x) (h2 : ab.ax.Reads w cs2 x) :
  Calls Tryz.prog 131 #[.agg cs.toArray, .agg cs2.toArray] w fun e w' => e = .returned (.bool true) ∧ Below w.heap.size w w' := by
 obtain ⟨a4, d4, rfl, R4⟩ := bK h
 obtain ⟨a4z, d4z, rfl, R4z⟩ := bK h2
 clear h h2
 have e0 : (x.id != x.id) = false := by simp
 have e1 : (x.up != x.up) = false := by simp
 have e2 : (x.af != x.af) = false := by simp
 have e3 : (x.az != x.az) = false := by simp
 have e5 : (x.sure != x.sure) = false := by simp
 have e6 : (x.clean != x.clean) = false := by simp
 have HB0 : Below w.heap.size w ((w.alloc (.cells #[.int .i64 x.id, .bool x.up, .int .i64 x.af, .int .i64 x.az, .slice a4 x.writes.length d4, .int .i64 x.sure, .int .i64 x.clean] 79)).alloc (.cells #[.int .i64 x.id, .bool x.up, .int .i64 x.af, .int .i64 x.az, .slice a4z x.writes.length d4z, .int .i64 x.sure, .int .i64 x.clean] 79)) := ((Below.refl _ _).alloc (Nat.le_refl _) _).alloc (by simp) _
 have bA : aj w.heap.size #[.int .i64 x.id, .bool x.up, .int .i64 x.af, .int .i64 x.az, .slice a4 x.writes.length d4, .int .i64 x.sure, .int .i64 x.clean] 79 ((w.alloc (.cells #[.int .i64 x.id, .bool x.up, .int .i64 x.af, .int .i64 x.az, .slice a4 x.writes.length d4, .int .i64 x.sure, .int .i64 x.clean] 79)).alloc (.cells #[.int .i64 x.id, .bool x.up, .int .i64 x.af, .int .i64 x.az, .slice a4z x.writes.length d4z, .int .i64 x.sure, .int .i64 x.clean] 79)) w.heap.size := (aH (Nat.le_refl _)).grow _
 have bC : aj w.heap.size #[.int .i64 x.id, .bool x.up, .int .i64 x.af, .int .i64 x.az, .slice a4z x.writes.length d4z, .int .i64 x.sure, .int .i64 x.clean] 79 ((w.alloc (.cells #[.int .i64 x.id, .bool x.up, .int .i64 x.af, .int .i64 x.az, .slice a4 x.writes.length d4, .int .i64 x.sure, .int .i64 x.clean] 79)).alloc (.cells #[.int .i64 x.id, .bool x.up, .int .i64 x.af, .int .i64 x.az, .slice a4z x.writes.length d4z, .int .i64 x.sure, .int .i64 x.clean] 79)) (w.heap.size + 1) := bg (by omega) (by simp)
 go_enter Tryz.func131, Tryz.ntmps131
 go_wp2_with fail
 generalize (w.alloc (.cells #[.int .i64 x.id, .bool x.up, .int .i64 x.af, .int .i64 x.az, .slice a4 x.writes.length d4, .int .i64 x.sure, .int .i64 x.clean] 79)).alloc (.cells #[.int .i64 x.id, .bool x.up, .int .i64 x.af, .int .i64 x.az, .slice a4z x.writes.length d4z, .int .i64 x.sure, .int .i64 x.clean] 79) = W0 at *
 replace R4 := R4.ag HB0
 replace R4z := R4z.ag HB0
 refine (nV _ _ x.writes _ R4 R4z).mono ?_
 rintro e w1 ⟨rfl, hb⟩
 replace bA := bA.au hb
 replace bC := bC.au hb
 replace HB0 := HB0.trans (hb.mono HB0.size)
 have p5 := bA.at 5 _ rfl
 have q5 := bC.at 5 _ rfl
 have p6 := bA.at 6 _ rfl
 have q6 := bC.at 6 _ rfl
 clear hb
 have HB := yh HB0
 have HA := yh bA
 have HC := yh bC
 clear HB0 bA bC
 go_wp2_with fail
 go_ret
 exact ⟨rfl, uh HB⟩
theorem qm (v v2 : Value) (xs : List bz) (w : World) (h : (ab.sl ab.ax).Reads w [v] xs) (h2 : (ab.sl ab.ax).Reads w [v2] xs) :
  Calls Tryz.prog 63 #[v, v2] w fun e w' => e = .returned (.bool true) ∧ Below w.heap.size w w' := by
 have hbig := h.dK
 obtain ⟨ao, cap, rfl⟩ := aE h
 obtain ⟨ao2, cap2, rfl⟩ := aE h2
 by_cases hp : 0 < xs.length
 ·
  obtain ⟨b, off, rfl, hbl⟩ := ab.aI h hp
  obtain ⟨b2, off2, rfl, hbl2⟩ := ab.aI h2 hp
  have H := yh h
  have H2 := yh h2
  clear h h2
  go_enter Tryz.func63, Tryz.ntmps63
  go_wp2_with fail
  go_loopw [5] (fun i wr => ∃ k : Nat, k ≤ xs.length ∧ i = .int .i64 k ∧ Below w.heap.size w wr) (fun i _ => xs.length - (intOf i).toNat)
  case atStart => exact ⟨0, Nat.zero_le _, rfl, Below.refl _ _⟩
  case round =>
   obtain ⟨k, hk, rfl, hB⟩ := hrel
   by_cases hlt : k < xs.length
   ·
    obtain ⟨row, hc, hr⟩ := ab.bm (uh H) hlt
    obtain ⟨rowz, hcz, hrz⟩ := ab.bm (uh H2) hlt
    have hr2 := hr
    obtain ⟨a4, d4, rfl, -⟩ := bK hr2
    have hrz2 := hrz
    obtain ⟨a4z, d4z, rfl, -⟩ := bK hrz2
    have c0 : w.cell? ⟨b, off + k * 7, none⟩ = some (.int .i64 (xs[k]).id) := ((Below.refl w.heap.size w).cell (p := ⟨b, off + k * 7, none⟩) hbl).trans (hc 0 (by decide))
    have c1 : w.cell? ⟨b, off + k * 7 + 1, none⟩ = some (.bool (xs[k]).up) := ((Below.refl w.heap.size w).cell (p := ⟨b, off + k * 7 + 1, none⟩) hbl).trans (hc 1 (by decide))
    have c2 : w.cell? ⟨b, off + k * 7 + 2, none⟩ = some (.int .i64 (xs[k]).af) := ((Below.refl w.heap.size w).cell (p := ⟨b, off + k * 7 + 2, none⟩) hbl).trans (hc 2 (by decide))
    have c3 : w.cell? ⟨b, off + k * 7 + 3, none⟩ = some (.int .i64 (xs[k]).az) := ((Below.refl w.heap.size w).cell (p := ⟨b, off + k * 7 + 3, none⟩) hbl).trans (hc 3 (by decide))
    have c4 : w.cell? ⟨b, off + k * 7 + 4, none⟩ = some (.slice a4 (xs[k]).writes.length d4) := ((Below.refl w.heap.size w).cell (p := ⟨b, off + k * 7 + 4, none⟩) hbl).trans (hc 4 (by decide))
    have c5 : w.cell? ⟨b, off + k * 7 + 5, none⟩ = some (.int .i64 (xs[k]).sure) := ((Below.refl w.heap.size w).cell (p := ⟨b, off + k * 7 + 5, none⟩) hbl).trans (hc 5 (by decide))
    have c6 : w.cell? ⟨b, off + k * 7 + 6, none⟩ = some (.int .i64 (xs[k]).clean) := ((Below.refl w.heap.size w).cell (p := ⟨b, off + k * 7 + 6, none⟩) hbl).trans (hc 6 (by decide))
    have c0z : w.cell? ⟨b2, off2 + k * 7, none⟩ = some (.int .i64 (xs[k]).id) := ((Below.refl w.heap.size w).cell (p := ⟨b2, off2 + k * 7, none⟩) hbl2).trans (hcz 0 (by decide))
    have c1z : w.cell? ⟨b2, off2 + k * 7 + 1, none⟩ = some (.bool (xs[k]).up) := ((Below.refl w.heap.size w).cell (p := ⟨b2, off2 + k * 7 + 1, none⟩) hbl2).trans (hcz 1 (by decide))
    have c2z : w.cell? ⟨b2, off2 + k * 7 + 2, none⟩ = some (.int .i64 (xs[k]).af) := ((Below.refl w.heap.size w).cell (p := ⟨b2, off2 + k * 7 + 2, none⟩) hbl2).trans (hcz 2 (by decide))
    have c3z : w.cell? ⟨b2, off2 + k * 7 + 3, none⟩ = some (.int .i64 (xs[k]).az) := ((Below.refl w.heap.size w).cell (p := ⟨b2, off2 + k * 7 + 3, none⟩) hbl2).trans (hcz 3 (by decide))
    have c4z : w.cell? ⟨b2, off2 + k * 7 + 4, none⟩ = some (.slice a4z (xs[k]).writes.length d4z) := ((Below.refl w.heap.size w).cell (p := ⟨b2, off2 + k * 7 + 4, none⟩) hbl2).trans (hcz 4 (by decide))
    have c5z : w.cell? ⟨b2, off2 + k * 7 + 5, none⟩ = some (.int .i64 (xs[k]).sure) := ((Below.refl w.heap.size w).cell (p := ⟨b2, off2 + k * 7 + 5, none⟩) hbl2).trans (hcz 5 (by decide))
    have c6z : w.cell? ⟨b2, off2 + k * 7 + 6, none⟩ = some (.int .i64 (xs[k]).clean) := ((Below.refl w.heap.size w).cell (p := ⟨b2, off2 + k * 7 + 6, none⟩) hbl2).trans (hcz 6 (by decide))
    clear hc hcz
    have HR := yh hr
    have HRZ := yh hrz
    clear hr hrz
    have HB := yh hB
    clear hB
    generalize hxk : xs[k] = x at *
    clear hxk
    have i1 : (0 : Int) ≤ (k : Int) := by omega
    have i2 : (k : Int) < (xs.length : Int) := by omega
    go_wp2_with fail
    refine wZz (fun w' => Below w.heap.size w w') (uh HB).drew (fun zq => ?_)
    generalize wr.drew = wD at zq ⊢
    refine tkH 0 zq ?_
    refine tkH 1 zq ?_
    refine tkH 2 zq ?_
    refine tkJ 3 (v := ?v3) ?h3 zq ?r3
    case h3 =>
     intro wS hSw
     have y0 := cZ hSw hbl c0
     have y1 := cZ hSw hbl c1
     have y2 := cZ hSw hbl c2
     have y3 := cZ hSw hbl c3
     have y4 := cZ hSw hbl c4
     have y5 := cZ hSw hbl c5
     have y6 := cZ hSw hbl c6
     clear hSw
     exact fZ
    refine tkH 4 zq ?_
    refine tkH 5 zq ?_
    refine tkH 6 zq ?_
    refine tkJ 7 (v := ?v7) ?h7 zq ?r7
    case h7 =>
     intro wS hSw
     have y0z := cZ hSw hbl2 c0z
     have y1z := cZ hSw hbl2 c1z
     have y2z := cZ hSw hbl2 c2z
     have y3z := cZ hSw hbl2 c3z
     have y4z := cZ hSw hbl2 c4z
     have y5z := cZ hSw hbl2 c5z
     have y6z := cZ hSw hbl2 c6z
     clear hSw
     exact fZ
    refine rdH 8 (fun K hK => ?_)
    go_simp
    go_at_call 131
    refine (ru _ _ x _ ((uh HR).ag zq) ((uh HRZ).ag zq)).mono ?_
    rintro e w3 ⟨rfl, hbw⟩
    try go_wp2_with fail
    refine hK.out _ _ (zq.trans (hbw.mono zq.size)) (fun zq => ?_)
    clear hK K
    try simp only [Act.put, pz, py, px]
    refine tkH 9 zq ?_
    refine dZ ?_
    have HB3 := yh zq
    clear zq c0 c0z c1 c1z c2 c2z c3 c3z c4 c4z c5 c5z c6 c6z HB
    go_wp2_with fail
    go_roundw
    case rel => exact ⟨k + 1, by omega, by go_num, uh HB3⟩
    case measure => simp [intOf]; omega
   have HB := yh hB
   clear hB
   go_wp2_with fail
   go_ret
   exact ⟨rfl, uh HB⟩
 obtain rfl : xs = [] := List.eq_nil_of_length_eq_zero (by omega)
 clear h h2 hp
 simp only [List.length_nil] at *
 go_enter Tryz.func63, Tryz.ntmps63
 go_wp2_with fail
 refine wp_loop_rounds 1 ?_
 rw [rounds_succ]
 go_wp2_with fail
 go_ret
 exact ⟨rfl, Below.refl _ _⟩
theorem so (cs cs2 : List Value) (x : bJ) (w : World) (h : ab.aJ.Reads w cs x) (h2 : ab.aJ.Reads w cs2 x) :
  Calls Tryz.prog 132 #[.agg cs.toArray, .agg cs2.toArray] w fun e w' => e = .returned (.bool true) ∧ Below w.heap.size w w' := by
 obtain ⟨a7, d7, rfl, R5⟩ := cx h
 obtain ⟨a7z, d7z, rfl, R5z⟩ := cx h2
 clear h h2
 have e0 : (x.kind != x.kind) = false := by simp
 have e1 : (x.af != x.af) = false := by simp
 have e2 : (x.src != x.src) = false := by simp
 have e3 : (x.dst != x.dst) = false := by simp
 have e4 : (x.index != x.index) = false := by simp
 have e5 : (x.write.kind != x.write.kind) = false := by simp
 have e6 : (x.write.id != x.write.id) = false := by simp
 have e8 : (x.write.aa != x.write.aa) = false := by simp
 have e9 : (x.write.seq != x.write.seq) = false := by simp
 have HB0 : Below w.heap.size w ((w.alloc (.cells #[.int .i64 x.kind, .int .i64 x.af, .int .i64 x.src, .int .i64 x.dst, .int .i64 x.index, .int .i64 x.write.kind, .int .i64 x.write.id, .slice a7 x.write.vec.length d7, .int .i64 x.write.aa, .int .i64 x.write.seq] 145)).alloc (.cells #[.int .i64 x.kind, .int .i64 x.af, .int .i64 x.src, .int .i64 x.dst, .int .i64 x.index, .int .i64 x.write.kind, .int .i64 x.write.id, .slice a7z x.write.vec.length d7z, .int .i64 x.write.aa, .int .i64 x.write.seq] 145)) := ((Below.refl _ _).alloc (Nat.le_refl _) _).alloc (by simp) _
 have bA : aj w.heap.size #[.int .i64 x.kind, .int .i64 x.af, .int .i64 x.src, .int .i64 x.dst, .int .i64 x.index, .int .i64 x.write.kind, .int .i64 x.write.id, .slice a7 x.write.vec.length d7, .int .i64 x.write.aa, .int .i64 x.write.seq] 145 ((w.alloc (.cells #[.int .i64 x.kind, .int .i64 x.af, .int .i64 x.src, .int .i64 x.dst, .int .i64 x.index, .int .i64 x.write.kind, .int .i64 x.write.id, .slice a7 x.write.vec.length d7, .int .i64 x.write.aa, .int .i64 x.write.seq] 145)).alloc (.cells #[.int .i64 x.kind, .int .i64 x.af, .int .i64 x.src, .int .i64 x.dst, .int .i64 x.index, .int .i64 x.write.kind, .int .i64 x.write.id, .slice a7z x.write.vec.length d7z, .int .i64 x.write.aa, .int .i64 x.write.seq] 145)) w.heap.size := (aH (Nat.le_refl _)).grow _
 have bC : aj w.heap.size #[.int .i64 x.kind, .int .i64 x.af, .int .i64 x.src, .int .i64 x.dst, .int .i64 x.index, .int .i64 x.write.kind, .int .i64 x.write.id, .slice a7z x.write.vec.length d7z, .int .i64 x.write.aa, .int .i64 x.write.seq] 145 ((w.alloc (.cells #[.int .i64 x.kind, .int .i64 x.af, .int .i64 x.src, .int .i64 x.dst, .int .i64 x.index, .int .i64 x.write.kind, .int .i64 x.write.id, .slice a7 x.write.vec.length d7, .int .i64 x.write.aa, .int .i64 x.write.seq] 145)).alloc (.cells #[.int .i64 x.kind, .int .i64 x.af, .int .i64 x.src, .int .i64 x.dst, .int .i64 x.index, .int .i64 x.write.kind, .int .i64 x.write.id, .slice a7z x.write.vec.length d7z, .int .i64 x.write.aa, .int .i64 x.write.seq] 145)) (w.heap.size + 1) := bg (by omega) (by simp)
 go_enter Tryz.func132, Tryz.ntmps132
 go_wp2_with fail
 generalize (w.alloc (.cells #[.int .i64 x.kind, .int .i64 x.af, .int .i64 x.src, .int .i64 x.dst, .int .i64 x.index, .int .i64 x.write.kind, .int .i64 x.write.id, .slice a7 x.write.vec.length d7, .int .i64 x.write.aa, .int .i64 x.write.seq] 145)).alloc (.cells #[.int .i64 x.kind, .int .i64 x.af, .int .i64 x.src, .int .i64 x.dst, .int .i64 x.index, .int .i64 x.write.kind, .int .i64 x.write.id, .slice a7z x.write.vec.length d7z, .int .i64 x.write.aa, .int .i64 x.write.seq] 145) = W0 at *
 replace R5 := R5.ag HB0
 replace R5z := R5z.ag HB0
 refine (ld _ _ x.write _ R5 R5z).mono ?_
 rintro e w1 ⟨rfl, hb⟩
 replace bA := bA.au hb
 replace bC := bC.au hb
 replace HB0 := HB0.trans (hb.mono HB0.size)
 clear hb
 have HB := yh HB0
 have HA := yh bA
 have HC := yh bC
 clear HB0 bA bC
 go_wp2_with fail
 go_ret
 exact ⟨rfl, uh HB⟩
theorem rF (v v2 : Value) (xs : List bJ) (w : World) (h : (ab.sl ab.aJ).Reads w [v] xs) (h2 : (ab.sl ab.aJ).Reads w [v2] xs) :
  Calls Tryz.prog 64 #[v, v2] w fun e w' => e = .returned (.bool true) ∧ Below w.heap.size w w' := by
 have hbig := h.dK
 obtain ⟨ao, cap, rfl⟩ := aE h
 obtain ⟨ao2, cap2, rfl⟩ := aE h2
 by_cases hp : 0 < xs.length
 ·
  obtain ⟨b, off, rfl, hbl⟩ := ab.aI h hp
  obtain ⟨b2, off2, rfl, hbl2⟩ := ab.aI h2 hp
  have H := yh h
  have H2 := yh h2
  clear h h2
  go_enter Tryz.func64, Tryz.ntmps64
  go_wp2_with fail
  go_loopw [5] (fun i wr => ∃ k : Nat, k ≤ xs.length ∧ i = .int .i64 k ∧ Below w.heap.size w wr) (fun i _ => xs.length - (intOf i).toNat)
  case atStart => exact ⟨0, Nat.zero_le _, rfl, Below.refl _ _⟩
  case round =>
   obtain ⟨k, hk, rfl, hB⟩ := hrel
   by_cases hlt : k < xs.length
   ·
    obtain ⟨row, hc, hr⟩ := ab.bm (uh H) hlt
    obtain ⟨rowz, hcz, hrz⟩ := ab.bm (uh H2) hlt
    have hr2 := hr
    obtain ⟨a7, d7, rfl, -⟩ := cx hr2
    have hrz2 := hrz
    obtain ⟨a7z, d7z, rfl, -⟩ := cx hrz2
    have c0 : w.cell? ⟨b, off + k * 10, none⟩ = some (.int .i64 (xs[k]).kind) := ((Below.refl w.heap.size w).cell (p := ⟨b, off + k * 10, none⟩) hbl).trans (hc 0 (by decide))
    have c1 : w.cell? ⟨b, off + k * 10 + 1, none⟩ = some (.int .i64 (xs[k]).af) := ((Below.refl w.heap.size w).cell (p := ⟨b, off + k * 10 + 1, none⟩) hbl).trans (hc 1 (by decide))
    have c2 : w.cell? ⟨b, off + k * 10 + 2, none⟩ = some (.int .i64 (xs[k]).src) := ((Below.refl w.heap.size w).cell (p := ⟨b, off + k * 10 + 2, none⟩) hbl).trans (hc 2 (by decide))
    have c3 : w.cell? ⟨b, off + k * 10 + 3, none⟩ = some (.int .i64 (xs[k]).dst) := ((Below.refl w.heap.size w).cell (p := ⟨b, off + k * 10 + 3, none⟩) hbl).trans (hc 3 (by decide))
    have c4 : w.cell? ⟨b, off + k * 10 + 4, none⟩ = some (.int .i64 (xs[k]).index) := ((Below.refl w.heap.size w).cell (p := ⟨b, off + k * 10 + 4, none⟩) hbl).trans (hc 4 (by decide))
    have c5 : w.cell? ⟨b, off + k * 10 + 5, none⟩ = some (.int .i64 (xs[k]).write.kind) := ((Below.refl w.heap.size w).cell (p := ⟨b, off + k * 10 + 5, none⟩) hbl).trans (hc 5 (by decide))
    have c6 : w.cell? ⟨b, off + k * 10 + 6, none⟩ = some (.int .i64 (xs[k]).write.id) := ((Below.refl w.heap.size w).cell (p := ⟨b, off + k * 10 + 6, none⟩) hbl).trans (hc 6 (by decide))
    have c7 : w.cell? ⟨b, off + k * 10 + 7, none⟩ = some (.slice a7 (xs[k]).write.vec.length d7) := ((Below.refl w.heap.size w).cell (p := ⟨b, off + k * 10 + 7, none⟩) hbl).trans (hc 7 (by decide))
    have c8 : w.cell? ⟨b, off + k * 10 + 8, none⟩ = some (.int .i64 (xs[k]).write.aa) := ((Below.refl w.heap.size w).cell (p := ⟨b, off + k * 10 + 8, none⟩) hbl).trans (hc 8 (by decide))
    have c9 : w.cell? ⟨b, off + k * 10 + 9, none⟩ = some (.int .i64 (xs[k]).write.seq) := ((Below.refl w.heap.size w).cell (p := ⟨b, off + k * 10 + 9, none⟩) hbl).trans (hc 9 (by decide))
    have c0z : w.cell? ⟨b2, off2 + k * 10, none⟩ = some (.int .i64 (xs[k]).kind) := ((Below.refl w.heap.size w).cell (p := ⟨b2, off2 + k * 10, none⟩) hbl2).trans (hcz 0 (by decide))
    have c1z : w.cell? ⟨b2, off2 + k * 10 + 1, none⟩ = some (.int .i64 (xs[k]).af) := ((Below.refl w.heap.size w).cell (p := ⟨b2, off2 + k * 10 + 1, none⟩) hbl2).trans (hcz 1 (by decide))
    have c2z : w.cell? ⟨b2, off2 + k * 10 + 2, none⟩ = some (.int .i64 (xs[k]).src) := ((Below.refl w.heap.size w).cell (p := ⟨b2, off2 + k * 10 + 2, none⟩) hbl2).trans (hcz 2 (by decide))
    have c3z : w.cell? ⟨b2, off2 + k * 10 + 3, none⟩ = some (.int .i64 (xs[k]).dst) := ((Below.refl w.heap.size w).cell (p := ⟨b2, off2 + k * 10 + 3, none⟩) hbl2).trans (hcz 3 (by decide))
    have c4z : w.cell? ⟨b2, off2 + k * 10 + 4, none⟩ = some (.int .i64 (xs[k]).index) := ((Below.refl w.heap.size w).cell (p := ⟨b2, off2 + k * 10 + 4, none⟩) hbl2).trans (hcz 4 (by decide))
    have c5z : w.cell? ⟨b2, off2 + k * 10 + 5, none⟩ = some (.int .i64 (xs[k]).write.kind) := ((Below.refl w.heap.size w).cell (p := ⟨b2, off2 + k * 10 + 5, none⟩) hbl2).trans (hcz 5 (by decide))
    have c6z : w.cell? ⟨b2, off2 + k * 10 + 6, none⟩ = some (.int .i64 (xs[k]).write.id) := ((Below.refl w.heap.size w).cell (p := ⟨b2, off2 + k * 10 + 6, none⟩) hbl2).trans (hcz 6 (by decide))
    have c7z : w.cell? ⟨b2, off2 + k * 10 + 7, none⟩ = some (.slice a7z (xs[k]).write.vec.length d7z) := ((Below.refl w.heap.size w).cell (p := ⟨b2, off2 + k * 10 + 7, none⟩) hbl2).trans (hcz 7 (by decide))
    have c8z : w.cell? ⟨b2, off2 + k * 10 + 8, none⟩ = some (.int .i64 (xs[k]).write.aa) := ((Below.refl w.heap.size w).cell (p := ⟨b2, off2 + k * 10 + 8, none⟩) hbl2).trans (hcz 8 (by decide))
    have c9z : w.cell? ⟨b2, off2 + k * 10 + 9, none⟩ = some (.int .i64 (xs[k]).write.seq) := ((Below.refl w.heap.size w).cell (p := ⟨b2, off2 + k * 10 + 9, none⟩) hbl2).trans (hcz 9 (by decide))
    clear hc hcz
    have HR := yh hr
    have HRZ := yh hrz
    clear hr hrz
    have HB := yh hB
    clear hB
    generalize hxk : xs[k] = x at *
    clear hxk
    have i1 : (0 : Int) ≤ (k : Int) := by omega
    have i2 : (k : Int) < (xs.length : Int) := by omega
    go_wp2_with fail
    refine wZz (fun w' => Below w.heap.size w w') (uh HB).drew (fun zq => ?_)
    generalize wr.drew = wD at zq ⊢
    refine tkH 0 zq ?_
    refine tkH 1 zq ?_
    refine tkH 2 zq ?_
    refine tkJ 3 (v := ?v3) ?h3 zq ?r3
    case h3 =>
     intro wS hSw
     have y0 := cZ hSw hbl c0
     have y1 := cZ hSw hbl c1
     have y2 := cZ hSw hbl c2
     have y3 := cZ hSw hbl c3
     have y4 := cZ hSw hbl c4
     have y5 := cZ hSw hbl c5
     have y6 := cZ hSw hbl c6
     have y7 := cZ hSw hbl c7
     have y8 := cZ hSw hbl c8
     have y9 := cZ hSw hbl c9
     clear hSw
     exact fZ
    refine tkH 4 zq ?_
    refine tkH 5 zq ?_
    refine tkH 6 zq ?_
    refine tkJ 7 (v := ?v7) ?h7 zq ?r7
    case h7 =>
     intro wS hSw
     have y0z := cZ hSw hbl2 c0z
     have y1z := cZ hSw hbl2 c1z
     have y2z := cZ hSw hbl2 c2z
     have y3z := cZ hSw hbl2 c3z
     have y4z := cZ hSw hbl2 c4z
     have y5z := cZ hSw hbl2 c5z
     have y6z := cZ hSw hbl2 c6z
     have y7z := cZ hSw hbl2 c7z
     have y8z := cZ hSw hbl2 c8z
     have y9z := cZ hSw hbl2 c9z
     clear hSw
     exact fZ
    refine rdH 8 (fun K hK => ?_)
    go_simp
    go_at_call 132
    refine (so _ _ x _ ((uh HR).ag zq) ((uh HRZ).ag zq)).mono ?_
    rintro e w3 ⟨rfl, hbw⟩
    try go_wp2_with fail
    refine hK.out _ _ (zq.trans (hbw.mono zq.size)) (fun zq => ?_)
    clear hK K
    try simp only [Act.put, pz, py, px]
    refine tkH 9 zq ?_
    refine dZ ?_
    have HB3 := yh zq
    clear zq c0 c0z c1 c1z c2 c2z c3 c3z c4 c4z c5 c5z c6 c6z c7 c7z c8 c8z c9 c9z HB
    go_wp2_with fail
    go_roundw
    case rel => exact ⟨k + 1, by omega, by go_num, uh HB3⟩
    case measure => simp [intOf]; omega
   have HB := yh hB
   clear hB
   go_wp2_with fail
   go_ret
   exact ⟨rfl, uh HB⟩
 obtain rfl : xs = [] := List.eq_nil_of_length_eq_zero (by omega)
 clear h h2 hp
 simp only [List.length_nil] at *
 go_enter Tryz.func64, Tryz.ntmps64
 go_wp2_with fail
 refine wp_loop_rounds 1 ?_
 rw [rounds_succ]
 go_wp2_with fail
 go_ret
 exact ⟨rfl, Below.refl _ _⟩
theorem rY (cs cs2 : List Value) (x : dR) (w : World) (h : ab.bb.Reads w cs x) (h2 : ab.bb.Reads w cs2 x) :
  Calls Tryz.prog 130 #[.agg cs.toArray, .agg cs2.toArray] w fun e w' => e = .returned (.bool true) ∧ Below w.heap.size w w' := by
 obtain ⟨bl, h⟩ := h
 obtain ⟨rfl, -⟩ := cB.1 h
 obtain ⟨bl2, h2⟩ := h2
 obtain ⟨rfl, -⟩ := cB.1 h2
 clear h h2
 have e0 : (x.id != x.id) = false := by simp
 have e1 : (x.score != x.score) = false := by simp
 have HB0 : Below w.heap.size w ((w.alloc (.cells #[.int .i64 x.id, .int .i64 x.score] 150)).alloc (.cells #[.int .i64 x.id, .int .i64 x.score] 150)) := ((Below.refl _ _).alloc (Nat.le_refl _) _).alloc (by simp) _
 go_enter Tryz.func130, Tryz.ntmps130
 go_wp2_with fail
 go_ret
 exact ⟨rfl, HB0⟩
theorem qR (v v2 : Value) (xs : List dR) (w : World) (h : (ab.sl ab.bb).Reads w [v] xs) (h2 : (ab.sl ab.bb).Reads w [v2] xs) :
  Calls Tryz.prog 61 #[v, v2] w fun e w' => e = .returned (.bool true) ∧ Below w.heap.size w w' := by
 have hbig := h.dK
 obtain ⟨ao, cap, rfl⟩ := aE h
 obtain ⟨ao2, cap2, rfl⟩ := aE h2
 by_cases hp : 0 < xs.length
 ·
  obtain ⟨b, off, rfl, hbl⟩ := ab.aI h hp
  obtain ⟨b2, off2, rfl, hbl2⟩ := ab.aI h2 hp
  have H := yh h
  have H2 := yh h2
  clear h h2
  go_enter Tryz.func61, Tryz.ntmps61
  go_wp2_with fail
  go_loopw [5] (fun i wr => ∃ k : Nat, k ≤ xs.length ∧ i = .int .i64 k ∧ Below w.heap.size w wr) (fun i _ => xs.length - (intOf i).toNat)
  case atStart => exact ⟨0, Nat.zero_le _, rfl, Below.refl _ _⟩
  case round =>
   obtain ⟨k, hk, rfl, hB⟩ := hrel
   by_cases hlt : k < xs.length
   ·
    obtain ⟨row, hc, hr⟩ := ab.bm (uh H) hlt
    obtain ⟨rowz, hcz, hrz⟩ := ab.bm (uh H2) hlt
    have hr2 := hr
    obtain ⟨blo, hlo⟩ := hr2; obtain ⟨rfl, -⟩ := cB.1 hlo; clear hlo
    have hrz2 := hrz
    obtain ⟨bloz, hloz⟩ := hrz2; obtain ⟨rfl, -⟩ := cB.1 hloz; clear hloz
    have c0 : w.cell? ⟨b, off + k * 2, none⟩ = some (.int .i64 (xs[k]).id) := ((Below.refl w.heap.size w).cell (p := ⟨b, off + k * 2, none⟩) hbl).trans (hc 0 (by decide))
    have c1 : w.cell? ⟨b, off + k * 2 + 1, none⟩ = some (.int .i64 (xs[k]).score) := ((Below.refl w.heap.size w).cell (p := ⟨b, off + k * 2 + 1, none⟩) hbl).trans (hc 1 (by decide))
    have c0z : w.cell? ⟨b2, off2 + k * 2, none⟩ = some (.int .i64 (xs[k]).id) := ((Below.refl w.heap.size w).cell (p := ⟨b2, off2 + k * 2, none⟩) hbl2).trans (hcz 0 (by decide))
    have c1z : w.cell? ⟨b2, off2 + k * 2 + 1, none⟩ = some (.int .i64 (xs[k]).score) := ((Below.refl w.heap.size w).cell (p := ⟨b2, off2 + k * 2 + 1, none⟩) hbl2).trans (hcz 1 (by decide))
    clear hc hcz
    have HR := yh hr
    have HRZ := yh hrz
    clear hr hrz
    have HB := yh hB
    clear hB
    generalize hxk : xs[k] = x at *
    clear hxk
    have i1 : (0 : Int) ≤ (k : Int) := by omega
    have i2 : (k : Int) < (xs.length : Int) := by omega
    go_wp2_with fail
    refine wZz (fun w' => Below w.heap.size w w') (uh HB).drew (fun zq => ?_)
    generalize wr.drew = wD at zq ⊢
    refine tkH 0 zq ?_
    refine tkH 1 zq ?_
    refine tkH 2 zq ?_
    refine tkJ 3 (v := ?v3) ?h3 zq ?r3
    case h3 =>
     intro wS hSw
     have y0 := cZ hSw hbl c0
     have y1 := cZ hSw hbl c1
     clear hSw
     exact fZ
    refine tkH 4 zq ?_
    refine tkH 5 zq ?_
    refine tkH 6 zq ?_
    refine tkJ 7 (v := ?v7) ?h7 zq ?r7
    case h7 =>
     intro wS hSw
     have y0z := cZ hSw hbl2 c0z
     have y1z := cZ hSw hbl2 c1z
     clear hSw
     exact fZ
    refine rdH 8 (fun K hK => ?_)
    go_simp
    go_at_call 130
    refine (rY _ _ x _ ((uh HR).ag zq) ((uh HRZ).ag zq)).mono ?_
    rintro e w3 ⟨rfl, hbw⟩
    try go_wp2_with fail
    refine hK.out _ _ (zq.trans (hbw.mono zq.size)) (fun zq => ?_)
    clear hK K
    try simp only [Act.put, pz, py, px]
    refine tkH 9 zq ?_
    refine dZ ?_
    have HB3 := yh zq
    clear zq c0 c0z c1 c1z HB
    go_wp2_with fail
    go_roundw
    case rel => exact ⟨k + 1, by omega, by go_num, uh HB3⟩
    case measure => simp [intOf]; omega
   have HB := yh hB
   clear hB
   go_wp2_with fail
   go_ret
   exact ⟨rfl, uh HB⟩
 obtain rfl : xs = [] := List.eq_nil_of_length_eq_zero (by omega)
 clear h h2 hp
 simp only [List.length_nil] at *
 go_enter Tryz.func61, Tryz.ntmps61
 go_wp2_with fail
 refine wp_loop_rounds 1 ?_
 rw [rounds_succ]
 go_wp2_with fail
 go_ret
 exact ⟨rfl, Below.refl _ _⟩
theorem pj (cs cs2 : List Value) (x : aZ) (w : World) (h : ab.ar.Reads w cs x) (h2 : ab.ar.Reads w cs2 x) :
  Calls Tryz.prog 133 #[.agg cs.toArray, .agg cs2.toArray] w fun e w' => e = .returned (.bool true) ∧ Below w.heap.size w w' := by
 obtain ⟨a4, d4, a9, d9, a10, d10, rfl, R4, R9, R10⟩ := bB h
 obtain ⟨a4z, d4z, a9z, d9z, a10z, d10z, rfl, R4z, R9z, R10z⟩ := bB h2
 clear h h2
 have e0 : (x.kind != x.kind) = false := by simp
 have e1 : (x.aa != x.aa) = false := by simp
 have e2 : (x.seq != x.seq) = false := by simp
 have e3 : (x.id != x.id) = false := by simp
 have e5 : (x.k != x.k) = false := by simp
 have e6 : (x.start != x.start) = false := by simp
 have e7 : (x.fin != x.fin) = false := by simp
 have e8 : (x.place != x.place) = false := by simp
 have HB0 : Below w.heap.size w ((w.alloc (.cells #[.int .i64 x.kind, .int .i64 x.aa, .int .i64 x.seq, .int .i64 x.id, .slice a4 x.query.length d4, .int .i64 x.k, .int .i64 x.start, .int .i64 x.fin, .int .i64 x.place, .slice a9 x.vec.length d9, .slice a10 x.aN.length d10] 85)).alloc (.cells #[.int .i64 x.kind, .int .i64 x.aa, .int .i64 x.seq, .int .i64 x.id, .slice a4z x.query.length d4z, .int .i64 x.k, .int .i64 x.start, .int .i64 x.fin, .int .i64 x.place, .slice a9z x.vec.length d9z, .slice a10z x.aN.length d10z] 85)) := ((Below.refl _ _).alloc (Nat.le_refl _) _).alloc (by simp) _
 have bA : aj w.heap.size #[.int .i64 x.kind, .int .i64 x.aa, .int .i64 x.seq, .int .i64 x.id, .slice a4 x.query.length d4, .int .i64 x.k, .int .i64 x.start, .int .i64 x.fin, .int .i64 x.place, .slice a9 x.vec.length d9, .slice a10 x.aN.length d10] 85 ((w.alloc (.cells #[.int .i64 x.kind, .int .i64 x.aa, .int .i64 x.seq, .int .i64 x.id, .slice a4 x.query.length d4, .int .i64 x.k, .int .i64 x.start, .int .i64 x.fin, .int .i64 x.place, .slice a9 x.vec.length d9, .slice a10 x.aN.length d10] 85)).alloc (.cells #[.int .i64 x.kind, .int .i64 x.aa, .int .i64 x.seq, .int .i64 x.id, .slice a4z x.query.length d4z, .int .i64 x.k, .int .i64 x.start, .int .i64 x.fin, .int .i64 x.place, .slice a9z x.vec.length d9z, .slice a10z x.aN.length d10z] 85)) w.heap.size := (aH (Nat.le_refl _)).grow _
 have bC : aj w.heap.size #[.int .i64 x.kind, .int .i64 x.aa, .int .i64 x.seq, .int .i64 x.id, .slice a4z x.query.length d4z, .int .i64 x.k, .int .i64 x.start, .int .i64 x.fin, .int .i64 x.place, .slice a9z x.vec.length d9z, .slice a10z x.aN.length d10z] 85 ((w.alloc (.cells #[.int .i64 x.kind, .int .i64 x.aa, .int .i64 x.seq, .int .i64 x.id, .slice a4 x.query.length d4, .int .i64 x.k, .int .i64 x.start, .int .i64 x.fin, .int .i64 x.place, .slice a9 x.vec.length d9, .slice a10 x.aN.length d10] 85)).alloc (.cells #[.int .i64 x.kind, .int .i64 x.aa, .int .i64 x.seq, .int .i64 x.id, .slice a4z x.query.length d4z, .int .i64 x.k, .int .i64 x.start, .int .i64 x.fin, .int .i64 x.place, .slice a9z x.vec.length d9z, .slice a10z x.aN.length d10z] 85)) (w.heap.size + 1) := bg (by omega) (by simp)
 go_enter Tryz.func133, Tryz.ntmps133
 go_wp2_with fail
 generalize (w.alloc (.cells #[.int .i64 x.kind, .int .i64 x.aa, .int .i64 x.seq, .int .i64 x.id, .slice a4 x.query.length d4, .int .i64 x.k, .int .i64 x.start, .int .i64 x.fin, .int .i64 x.place, .slice a9 x.vec.length d9, .slice a10 x.aN.length d10] 85)).alloc (.cells #[.int .i64 x.kind, .int .i64 x.aa, .int .i64 x.seq, .int .i64 x.id, .slice a4z x.query.length d4z, .int .i64 x.k, .int .i64 x.start, .int .i64 x.fin, .int .i64 x.place, .slice a9z x.vec.length d9z, .slice a10z x.aN.length d10z] 85) = W0 at *
 replace R4 := R4.ag HB0
 replace R4z := R4z.ag HB0
 replace R9 := R9.ag HB0
 replace R9z := R9z.ag HB0
 replace R10 := R10.ag HB0
 replace R10z := R10z.ag HB0
 refine (fy _ _ x.query _ R4 R4z).mono ?_
 rintro e w1 ⟨rfl, hb⟩
 replace bA := bA.au hb
 replace bC := bC.au hb
 replace HB0 := HB0.trans (hb.mono HB0.size)
 replace R9 := R9.ag hb
 replace R9z := R9z.ag hb
 replace R10 := R10.ag hb
 replace R10z := R10z.ag hb
 have p5 := bA.at 5 _ rfl
 have q5 := bC.at 5 _ rfl
 have p6 := bA.at 6 _ rfl
 have q6 := bC.at 6 _ rfl
 have p7 := bA.at 7 _ rfl
 have q7 := bC.at 7 _ rfl
 have p8 := bA.at 8 _ rfl
 have q8 := bC.at 8 _ rfl
 have p9 := bA.at 9 _ rfl
 have q9 := bC.at 9 _ rfl
 have p10 := bA.at 10 _ rfl
 have q10 := bC.at 10 _ rfl
 clear hb
 have HB := yh HB0
 have HA := yh bA
 have HC := yh bC
 clear HB0 bA bC
 have S9 := yh R9
 have S9z := yh R9z
 clear R9 R9z
 have S10 := yh R10
 have S10z := yh R10z
 clear R10 R10z
 go_wp2_with fail
 have HB0 := uh HB
 have bA := uh HA
 have bC := uh HC
 clear HB HA HC
 clear p5 q5
 clear p6 q6
 clear p7 q7
 clear p8 q8
 clear p9 q9
 clear p10 q10
 have R9 := uh S9
 have R9z := uh S9z
 clear S9 S9z
 have R10 := uh S10
 have R10z := uh S10z
 clear S10 S10z
 refine (fy _ _ x.vec _ R9 R9z).mono ?_
 rintro e w2 ⟨rfl, hb⟩
 replace bA := bA.au hb
 replace bC := bC.au hb
 replace HB0 := HB0.trans (hb.mono HB0.size)
 replace R10 := R10.ag hb
 replace R10z := R10z.ag hb
 have p10 := bA.at 10 _ rfl
 have q10 := bC.at 10 _ rfl
 clear hb
 have HB := yh HB0
 have HA := yh bA
 have HC := yh bC
 clear HB0 bA bC
 have S10 := yh R10
 have S10z := yh R10z
 clear R10 R10z
 go_wp2_with fail
 have HB0 := uh HB
 have bA := uh HA
 have bC := uh HC
 clear HB HA HC
 clear p10 q10
 have R10 := uh S10
 have R10z := uh S10z
 clear S10 S10z
 refine (qR _ _ x.aN _ R10 R10z).mono ?_
 rintro e w3 ⟨rfl, hb⟩
 replace bA := bA.au hb
 replace bC := bC.au hb
 replace HB0 := HB0.trans (hb.mono HB0.size)
 clear hb
 have HB := yh HB0
 have HA := yh bA
 have HC := yh bC
 clear HB0 bA bC
 go_wp2_with fail
 go_ret
 exact ⟨rfl, uh HB⟩
theorem oO (v v2 : Value) (xs : List aZ) (w : World) (h : (ab.sl ab.ar).Reads w [v] xs) (h2 : (ab.sl ab.ar).Reads w [v2] xs) :
  Calls Tryz.prog 65 #[v, v2] w fun e w' => e = .returned (.bool true) ∧ Below w.heap.size w w' := by
 have hbig := h.dK
 obtain ⟨ao, cap, rfl⟩ := aE h
 obtain ⟨ao2, cap2, rfl⟩ := aE h2
 by_cases hp : 0 < xs.length
 ·
  obtain ⟨b, off, rfl, hbl⟩ := ab.aI h hp
  obtain ⟨b2, off2, rfl, hbl2⟩ := ab.aI h2 hp
  have H := yh h
  have H2 := yh h2
  clear h h2
  go_enter Tryz.func65, Tryz.ntmps65
  go_wp2_with fail
  go_loopw [5] (fun i wr => ∃ k : Nat, k ≤ xs.length ∧ i = .int .i64 k ∧ Below w.heap.size w wr) (fun i _ => xs.length - (intOf i).toNat)
  case atStart => exact ⟨0, Nat.zero_le _, rfl, Below.refl _ _⟩
  case round =>
   obtain ⟨k, hk, rfl, hB⟩ := hrel
   by_cases hlt : k < xs.length
   ·
    obtain ⟨row, hc, hr⟩ := ab.bm (uh H) hlt
    obtain ⟨rowz, hcz, hrz⟩ := ab.bm (uh H2) hlt
    have hr2 := hr
    obtain ⟨a4, d4, a9, d9, a10, d10, rfl, -, -, -⟩ := bB hr2
    have hrz2 := hrz
    obtain ⟨a4z, d4z, a9z, d9z, a10z, d10z, rfl, -, -, -⟩ := bB hrz2
    have c0 : w.cell? ⟨b, off + k * 11, none⟩ = some (.int .i64 (xs[k]).kind) := ((Below.refl w.heap.size w).cell (p := ⟨b, off + k * 11, none⟩) hbl).trans (hc 0 (by decide))
    have c1 : w.cell? ⟨b, off + k * 11 + 1, none⟩ = some (.int .i64 (xs[k]).aa) := ((Below.refl w.heap.size w).cell (p := ⟨b, off + k * 11 + 1, none⟩) hbl).trans (hc 1 (by decide))
    have c2 : w.cell? ⟨b, off + k * 11 + 2, none⟩ = some (.int .i64 (xs[k]).seq) := ((Below.refl w.heap.size w).cell (p := ⟨b, off + k * 11 + 2, none⟩) hbl).trans (hc 2 (by decide))
    have c3 : w.cell? ⟨b, off + k * 11 + 3, none⟩ = some (.int .i64 (xs[k]).id) := ((Below.refl w.heap.size w).cell (p := ⟨b, off + k * 11 + 3, none⟩) hbl).trans (hc 3 (by decide))
    have c4 : w.cell? ⟨b, off + k * 11 + 4, none⟩ = some (.slice a4 (xs[k]).query.length d4) := ((Below.refl w.heap.size w).cell (p := ⟨b, off + k * 11 + 4, none⟩) hbl).trans (hc 4 (by decide))
    have c5 : w.cell? ⟨b, off + k * 11 + 5, none⟩ = some (.int .i64 (xs[k]).k) := ((Below.refl w.heap.size w).cell (p := ⟨b, off + k * 11 + 5, none⟩) hbl).trans (hc 5 (by decide))
    have c6 : w.cell? ⟨b, off + k * 11 + 6, none⟩ = some (.int .i64 (xs[k]).start) := ((Below.refl w.heap.size w).cell (p := ⟨b, off + k * 11 + 6, none⟩) hbl).trans (hc 6 (by decide))
    have c7 : w.cell? ⟨b, off + k * 11 + 7, none⟩ = some (.int .i64 (xs[k]).fin) := ((Below.refl w.heap.size w).cell (p := ⟨b, off + k * 11 + 7, none⟩) hbl).trans (hc 7 (by decide))
    have c8 : w.cell? ⟨b, off + k * 11 + 8, none⟩ = some (.int .i64 (xs[k]).place) := ((Below.refl w.heap.size w).cell (p := ⟨b, off + k * 11 + 8, none⟩) hbl).trans (hc 8 (by decide))
    have c9 : w.cell? ⟨b, off + k * 11 + 9, none⟩ = some (.slice a9 (xs[k]).vec.length d9) := ((Below.refl w.heap.size w).cell (p := ⟨b, off + k * 11 + 9, none⟩) hbl).trans (hc 9 (by decide))
    have c10 : w.cell? ⟨b, off + k * 11 + 10, none⟩ = some (.slice a10 (xs[k]).aN.length d10) := ((Below.refl w.heap.size w).cell (p := ⟨b, off + k * 11 + 10, none⟩) hbl).trans (hc 10 (by decide))
    have c0z : w.cell? ⟨b2, off2 + k * 11, none⟩ = some (.int .i64 (xs[k]).kind) := ((Below.refl w.heap.size w).cell (p := ⟨b2, off2 + k * 11, none⟩) hbl2).trans (hcz 0 (by decide))
    have c1z : w.cell? ⟨b2, off2 + k * 11 + 1, none⟩ = some (.int .i64 (xs[k]).aa) := ((Below.refl w.heap.size w).cell (p := ⟨b2, off2 + k * 11 + 1, none⟩) hbl2).trans (hcz 1 (by decide))
    have c2z : w.cell? ⟨b2, off2 + k * 11 + 2, none⟩ = some (.int .i64 (xs[k]).seq) := ((Below.refl w.heap.size w).cell (p := ⟨b2, off2 + k * 11 + 2, none⟩) hbl2).trans (hcz 2 (by decide))
    have c3z : w.cell? ⟨b2, off2 + k * 11 + 3, none⟩ = some (.int .i64 (xs[k]).id) := ((Below.refl w.heap.size w).cell (p := ⟨b2, off2 + k * 11 + 3, none⟩) hbl2).trans (hcz 3 (by decide))
    have c4z : w.cell? ⟨b2, off2 + k * 11 + 4, none⟩ = some (.slice a4z (xs[k]).query.length d4z) := ((Below.refl w.heap.size w).cell (p := ⟨b2, off2 + k * 11 + 4, none⟩) hbl2).trans (hcz 4 (by decide))
    have c5z : w.cell? ⟨b2, off2 + k * 11 + 5, none⟩ = some (.int .i64 (xs[k]).k) := ((Below.refl w.heap.size w).cell (p := ⟨b2, off2 + k * 11 + 5, none⟩) hbl2).trans (hcz 5 (by decide))
    have c6z : w.cell? ⟨b2, off2 + k * 11 + 6, none⟩ = some (.int .i64 (xs[k]).start) := ((Below.refl w.heap.size w).cell (p := ⟨b2, off2 + k * 11 + 6, none⟩) hbl2).trans (hcz 6 (by decide))
    have c7z : w.cell? ⟨b2, off2 + k * 11 + 7, none⟩ = some (.int .i64 (xs[k]).fin) := ((Below.refl w.heap.size w).cell (p := ⟨b2, off2 + k * 11 + 7, none⟩) hbl2).trans (hcz 7 (by decide))
    have c8z : w.cell? ⟨b2, off2 + k * 11 + 8, none⟩ = some (.int .i64 (xs[k]).place) := ((Below.refl w.heap.size w).cell (p := ⟨b2, off2 + k * 11 + 8, none⟩) hbl2).trans (hcz 8 (by decide))
    have c9z : w.cell? ⟨b2, off2 + k * 11 + 9, none⟩ = some (.slice a9z (xs[k]).vec.length d9z) := ((Below.refl w.heap.size w).cell (p := ⟨b2, off2 + k * 11 + 9, none⟩) hbl2).trans (hcz 9 (by decide))
    have c10z : w.cell? ⟨b2, off2 + k * 11 + 10, none⟩ = some (.slice a10z (xs[k]).aN.length d10z) := ((Below.refl w.heap.size w).cell (p := ⟨b2, off2 + k * 11 + 10, none⟩) hbl2).trans (hcz 10 (by decide))
    clear hc hcz
    have HR := yh hr
    have HRZ := yh hrz
    clear hr hrz
    have HB := yh hB
    clear hB
    generalize hxk : xs[k] = x at *
    clear hxk
    have i1 : (0 : Int) ≤ (k : Int) := by omega
    have i2 : (k : Int) < (xs.length : Int) := by omega
    go_wp2_with fail
    refine wZz (fun w' => Below w.heap.size w w') (uh HB).drew (fun zq => ?_)
    generalize wr.drew = wD at zq ⊢
    refine tkH 0 zq ?_
    refine tkH 1 zq ?_
    refine tkH 2 zq ?_
    refine tkJ 3 (v := ?v3) ?h3 zq ?r3
    case h3 =>
     intro wS hSw
     have y0 := cZ hSw hbl c0
     have y1 := cZ hSw hbl c1
     have y2 := cZ hSw hbl c2
     have y3 := cZ hSw hbl c3
     have y4 := cZ hSw hbl c4
     have y5 := cZ hSw hbl c5
     have y6 := cZ hSw hbl c6
     have y7 := cZ hSw hbl c7
     have y8 := cZ hSw hbl c8
     have y9 := cZ hSw hbl c9
     have y10 := cZ hSw hbl c10
     clear hSw
     exact fZ
    refine tkH 4 zq ?_
    refine tkH 5 zq ?_
    refine tkH 6 zq ?_
    refine tkJ 7 (v := ?v7) ?h7 zq ?r7
    case h7 =>
     intro wS hSw
     have y0z := cZ hSw hbl2 c0z
     have y1z := cZ hSw hbl2 c1z
     have y2z := cZ hSw hbl2 c2z
     have y3z := cZ hSw hbl2 c3z
     have y4z := cZ hSw hbl2 c4z
     have y5z := cZ hSw hbl2 c5z
     have y6z := cZ hSw hbl2 c6z
     have y7z := cZ hSw hbl2 c7z
     have y8z := cZ hSw hbl2 c8z
     have y9z := cZ hSw hbl2 c9z
     have y10z := cZ hSw hbl2 c10z
     clear hSw
     exact fZ
    refine rdH 8 (fun K hK => ?_)
    go_simp
    go_at_call 133
    refine (pj _ _ x _ ((uh HR).ag zq) ((uh HRZ).ag zq)).mono ?_
    rintro e w3 ⟨rfl, hbw⟩
    try go_wp2_with fail
    refine hK.out _ _ (zq.trans (hbw.mono zq.size)) (fun zq => ?_)
    clear hK K
    try simp only [Act.put, pz, py, px]
    refine tkH 9 zq ?_
    refine dZ ?_
    have HB3 := yh zq
    clear zq c0 c0z c1 c1z c2 c2z c3 c3z c4 c4z c5 c5z c6 c6z c7 c7z c8 c8z c9 c9z c10 c10z HB
    go_wp2_with fail
    go_roundw
    case rel => exact ⟨k + 1, by omega, by go_num, uh HB3⟩
    case measure => simp [intOf]; omega
   have HB := yh hB
   clear hB
   go_wp2_with fail
   go_ret
   exact ⟨rfl, uh HB⟩
 obtain rfl : xs = [] := List.eq_nil_of_length_eq_zero (by omega)
 clear h h2 hp
 simp only [List.length_nil] at *
 go_enter Tryz.func65, Tryz.ntmps65
 go_wp2_with fail
 refine wp_loop_rounds 1 ?_
 rw [rounds_succ]
 go_wp2_with fail
 go_ret
 exact ⟨rfl, Below.refl _ _⟩
theorem mq (cs cs2 : List Value) (x : ay) (w : World) (h : ab.aC.Reads w cs x) (h2 : ab.aC.Reads w cs2 x) :
  Calls Tryz.prog 16 #[.agg cs.toArray, .agg cs2.toArray] w fun e w' => e = .returned (.bool true) ∧ Below w.heap.size w w' := by
 obtain ⟨a3, d3, a4, d4, a5, d5, a6, d6, rfl, R2, R4, R5, R6⟩ := aG h
 obtain ⟨a3z, d3z, a4z, d4z, a5z, d5z, a6z, d6z, rfl, R2z, R4z, R5z, R6z⟩ := aG h2
 clear h h2
 have e0 : (x.now != x.now) = false := by simp
 have e1 : (x.events != x.events) = false := by simp
 have e2 : (x.chain.af != x.chain.af) = false := by simp
 have HB0 : Below w.heap.size w ((w.alloc (.cells #[.int .i64 x.now, .int .i64 x.events, .int .i64 x.chain.af, .slice a3 x.chain.ids.length d3, .slice a4 x.nodes.length d4, .slice a5 x.msgs.length d5, .slice a6 x.ae.length d6] 37)).alloc (.cells #[.int .i64 x.now, .int .i64 x.events, .int .i64 x.chain.af, .slice a3z x.chain.ids.length d3z, .slice a4z x.nodes.length d4z, .slice a5z x.msgs.length d5z, .slice a6z x.ae.length d6z] 37)) := ((Below.refl _ _).alloc (Nat.le_refl _) _).alloc (by simp) _
 have bA : aj w.heap.size #[.int .i64 x.now, .int .i64 x.events, .int .i64 x.chain.af, .slice a3 x.chain.ids.length d3, .slice a4 x.nodes.length d4, .slice a5 x.msgs.length d5, .slice a6 x.ae.length d6] 37 ((w.alloc (.cells #[.int .i64 x.now, .int .i64 x.events, .int .i64 x.chain.af, .slice a3 x.chain.ids.length d3, .slice a4 x.nodes.length d4, .slice a5 x.msgs.length d5, .slice a6 x.ae.length d6] 37)).alloc (.cells #[.int .i64 x.now, .int .i64 x.events, .int .i64 x.chain.af, .slice a3z x.chain.ids.length d3z, .slice a4z x.nodes.length d4z, .slice a5z x.msgs.length d5z, .slice a6z x.ae.length d6z] 37)) w.heap.size := (aH (Nat.le_refl _)).grow _
 have bC : aj w.heap.size #[.int .i64 x.now, .int .i64 x.events, .int .i64 x.chain.af, .slice a3z x.chain.ids.length d3z, .slice a4z x.nodes.length d4z, .slice a5z x.msgs.length d5z, .slice a6z x.ae.length d6z] 37 ((w.alloc (.cells #[.int .i64 x.now, .int .i64 x.events, .int .i64 x.chain.af, .slice a3 x.chain.ids.length d3, .slice a4 x.nodes.length d4, .slice a5 x.msgs.length d5, .slice a6 x.ae.length d6] 37)).alloc (.cells #[.int .i64 x.now, .int .i64 x.events, .int .i64 x.chain.af, .slice a3z x.chain.ids.length d3z, .slice a4z x.nodes.length d4z, .slice a5z x.msgs.length d5z, .slice a6z x.ae.length d6z] 37)) (w.heap.size + 1) := bg (by omega) (by simp)
 go_enter Tryz.func16, Tryz.ntmps16
 go_wp2_with fail
 generalize (w.alloc (.cells #[.int .i64 x.now, .int .i64 x.events, .int .i64 x.chain.af, .slice a3 x.chain.ids.length d3, .slice a4 x.nodes.length d4, .slice a5 x.msgs.length d5, .slice a6 x.ae.length d6] 37)).alloc (.cells #[.int .i64 x.now, .int .i64 x.events, .int .i64 x.chain.af, .slice a3z x.chain.ids.length d3z, .slice a4z x.nodes.length d4z, .slice a5z x.msgs.length d5z, .slice a6z x.ae.length d6z] 37) = W0 at *
 replace R2 := R2.ag HB0
 replace R2z := R2z.ag HB0
 replace R4 := R4.ag HB0
 replace R4z := R4z.ag HB0
 replace R5 := R5.ag HB0
 replace R5z := R5z.ag HB0
 replace R6 := R6.ag HB0
 replace R6z := R6z.ag HB0
 refine (qo _ _ x.chain _ R2 R2z).mono ?_
 rintro e w1 ⟨rfl, hb⟩
 replace bA := bA.au hb
 replace bC := bC.au hb
 replace HB0 := HB0.trans (hb.mono HB0.size)
 replace R4 := R4.ag hb
 replace R4z := R4z.ag hb
 replace R5 := R5.ag hb
 replace R5z := R5z.ag hb
 replace R6 := R6.ag hb
 replace R6z := R6z.ag hb
 have p4 := bA.at 4 _ rfl
 have q4 := bC.at 4 _ rfl
 have p5 := bA.at 5 _ rfl
 have q5 := bC.at 5 _ rfl
 have p6 := bA.at 6 _ rfl
 have q6 := bC.at 6 _ rfl
 clear hb
 have HB := yh HB0
 have HA := yh bA
 have HC := yh bC
 clear HB0 bA bC
 have S4 := yh R4
 have S4z := yh R4z
 clear R4 R4z
 have S5 := yh R5
 have S5z := yh R5z
 clear R5 R5z
 have S6 := yh R6
 have S6z := yh R6z
 clear R6 R6z
 go_wp2_with fail
 have HB0 := uh HB
 have bA := uh HA
 have bC := uh HC
 clear HB HA HC
 clear p4 q4
 clear p5 q5
 clear p6 q6
 have R4 := uh S4
 have R4z := uh S4z
 clear S4 S4z
 have R5 := uh S5
 have R5z := uh S5z
 clear S5 S5z
 have R6 := uh S6
 have R6z := uh S6z
 clear S6 S6z
 refine (qm _ _ x.nodes _ R4 R4z).mono ?_
 rintro e w2 ⟨rfl, hb⟩
 replace bA := bA.au hb
 replace bC := bC.au hb
 replace HB0 := HB0.trans (hb.mono HB0.size)
 replace R5 := R5.ag hb
 replace R5z := R5z.ag hb
 replace R6 := R6.ag hb
 replace R6z := R6z.ag hb
 have p5 := bA.at 5 _ rfl
 have q5 := bC.at 5 _ rfl
 have p6 := bA.at 6 _ rfl
 have q6 := bC.at 6 _ rfl
 clear hb
 have HB := yh HB0
 have HA := yh bA
 have HC := yh bC
 clear HB0 bA bC
 have S5 := yh R5
 have S5z := yh R5z
 clear R5 R5z
 have S6 := yh R6
 have S6z := yh R6z
 clear R6 R6z
 go_wp2_with fail
 have HB0 := uh HB
 have bA := uh HA
 have bC := uh HC
 clear HB HA HC
 clear p5 q5
 clear p6 q6
 have R5 := uh S5
 have R5z := uh S5z
 clear S5 S5z
 have R6 := uh S6
 have R6z := uh S6z
 clear S6 S6z
 refine (rF _ _ x.msgs _ R5 R5z).mono ?_
 rintro e w3 ⟨rfl, hb⟩
 replace bA := bA.au hb
 replace bC := bC.au hb
 replace HB0 := HB0.trans (hb.mono HB0.size)
 replace R6 := R6.ag hb
 replace R6z := R6z.ag hb
 have p6 := bA.at 6 _ rfl
 have q6 := bC.at 6 _ rfl
 clear hb
 have HB := yh HB0
 have HA := yh bA
 have HC := yh bC
 clear HB0 bA bC
 have S6 := yh R6
 have S6z := yh R6z
 clear R6 R6z
 go_wp2_with fail
 have HB0 := uh HB
 have bA := uh HA
 have bC := uh HC
 clear HB HA HC
 clear p6 q6
 have R6 := uh S6
 have R6z := uh S6z
 clear S6 S6z
 refine (oO _ _ x.ae _ R6 R6z).mono ?_
 rintro e w4 ⟨rfl, hb⟩
 replace bA := bA.au hb
 replace bC := bC.au hb
 replace HB0 := HB0.trans (hb.mono HB0.size)
 clear hb
 have HB := yh HB0
 have HA := yh bA
 have HC := yh bC
 clear HB0 bA bC
 go_wp2_with fail
 go_ret
 exact ⟨rfl, uh HB⟩
theorem ef (x : ay) : ab.aC.ak x = ab.aD.ak x.chain + (ab.sl ab.ax).ak x.nodes + (ab.sl ab.aJ).ak x.msgs + (ab.sl ab.ar).ak x.ae := by
 show 0 + (0 + (ab.aD.ak x.chain + ((ab.sl ab.ax).ak x.nodes + ((ab.sl ab.aJ).ak x.msgs + ((ab.sl ab.ar).ak x.ae))))) = ab.aD.ak x.chain + (ab.sl ab.ax).ak x.nodes + (ab.sl ab.aJ).ak x.msgs + (ab.sl ab.ar).ak x.ae
 omega
theorem kn (k : Int) (x : ay) : ab.aC.cq k x = ⟨x.now, x.events, ab.aD.cq (k) x.chain, (ab.sl ab.ax).cq (k + (ab.aD.ak x.chain : Int)) x.nodes, (ab.sl ab.aJ).cq (k + (ab.aD.ak x.chain : Int) + ((ab.sl ab.ax).ak x.nodes : Int)) x.msgs, (ab.sl ab.ar).cq (k + (ab.aD.ak x.chain : Int) + ((ab.sl ab.ax).ak x.nodes : Int) + ((ab.sl ab.aJ).ak x.msgs : Int)) x.ae⟩ := by
 simp [ab.aC, ab.via, ab.pair, ab.int]
theorem gE {w : World} {cs : List Value} {x : ay} {bl : List Nat} (h : ab.aC.Own w cs x bl) : ∃ (a3 : Option Addr) (d3 : Nat) (a4 : Option Addr) (d4 : Nat) (a5 : Option Addr) (d5 : Nat) (a6 : Option Addr) (d6 : Nat) (g2 : List Nat) (g4 : List Nat) (g5 : List Nat) (g6 : List Nat), cs = [.int .i64 x.now, .int .i64 x.events, .int .i64 x.chain.af, .slice a3 x.chain.ids.length d3, .slice a4 x.nodes.length d4, .slice a5 x.msgs.length d5, .slice a6 x.ae.length d6] ∧ bl = g2 ++ (g4 ++ (g5 ++ g6)) ∧ ab.aD.Own w [.int .i64 x.chain.af, .slice a3 x.chain.ids.length d3] x.chain g2 ∧ (ab.sl ab.ax).Own w [.slice a4 x.nodes.length d4] x.nodes g4 ∧ (ab.sl ab.aJ).Own w [.slice a5 x.msgs.length d5] x.msgs g5 ∧ (ab.sl ab.ar).Own w [.slice a6 x.ae.length d6] x.ae g6 ∧ (Lit.int .i64 x.now).wf = true ∧ (Lit.int .i64 x.events).wf = true := by
 obtain ⟨hl, hn, hf⟩ := h
 obtain ⟨a3, d3, b3, a4, d4, b4, a5, d5, b5, a6, d6, b6, rfl, hbl, w0, w1, w2, l3, l4, l5, l6⟩ := cG.1 hl
 rw [hbl] at hn hf
 simp only [List.nodup_append, List.mem_append] at hn hf
 exact ⟨a3, d3, a4, d4, a5, d5, a6, d6, b3, b4, b5, b6, rfl, hbl, ⟨dp.2 ⟨a3, d3, b3, rfl, rfl, w2, l3⟩, by simp_all, fun b hb => hf b (by simp_all)⟩, ⟨l4, by simp_all, fun b hb => hf b (by simp_all)⟩, ⟨l5, by simp_all, fun b hb => hf b (by simp_all)⟩, ⟨l6, by simp_all, fun b hb => hf b (by simp_all)⟩, w0, w1⟩
theorem eA {w : World} {x : ay} {c2 : List Value} {c4 : List Value} {c5 : List Value} {c6 : List Value} {g2 : List Nat} {g4 : List Nat} {g5 : List Nat} {g6 : List Nat} (O2 : ab.aD.Own w c2 x.chain g2) (O4 : (ab.sl ab.ax).Own w c4 x.nodes g4) (O5 : (ab.sl ab.aJ).Own w c5 x.msgs g5) (O6 : (ab.sl ab.ar).Own w c6 x.ae g6) (v0 : (Lit.int .i64 x.now).wf = true) (v1 : (Lit.int .i64 x.events).wf = true) (hn : (g2 ++ (g4 ++ (g5 ++ g6))).Nodup) : ab.aC.Own w ([.int .i64 x.now] ++ ([.int .i64 x.events] ++ (c2 ++ (c4 ++ (c5 ++ c6))))) x (g2 ++ (g4 ++ (g5 ++ g6))) := by
 refine ⟨⟨[.int .i64 x.now], [.int .i64 x.events] ++ (c2 ++ (c4 ++ (c5 ++ c6))), [], [] ++ (g2 ++ (g4 ++ (g5 ++ g6))), rfl, by simp, ⟨rfl, v0, rfl⟩, ⟨[.int .i64 x.events], c2 ++ (c4 ++ (c5 ++ c6)), [], g2 ++ (g4 ++ (g5 ++ g6)), rfl, rfl, ⟨rfl, v1, rfl⟩, ⟨c2, c4 ++ (c5 ++ c6), g2, g4 ++ (g5 ++ g6), rfl, rfl, O2.1, ⟨c4, c5 ++ c6, g4, g5 ++ g6, rfl, rfl, O4.1, ⟨c5, c6, g5, g6, rfl, rfl, O5.1, O6.1⟩⟩⟩⟩⟩, hn, ?_⟩
 intro b hb o
 simp only [List.mem_append] at hb
 rcases hb with hb | hb | hb | hb
 ·
  exact O2.2.2 b hb o
 ·
  exact O4.2.2 b hb o
 ·
  exact O5.2.2 b hb o
 exact O6.2.2 b hb o
theorem ek (x : bH) : ab.aD.ak x = (ab.sl ab.int).ak x.ids := by
 show 0 + ((ab.sl ab.int).ak x.ids) = (ab.sl ab.int).ak x.ids
 omega
theorem jX (k : Int) (x : bH) : ab.aD.cq k x = ⟨x.af, (ab.sl ab.int).cq (k) x.ids⟩ := by
 simp [ab.aD, ab.via, ab.pair, ab.int]
theorem oM {w : World} {cs : List Value} {x : bH} {bl : List Nat} (h : ab.aD.Own w cs x bl) : ∃ (a1 : Option Addr) (d1 : Nat) (g1 : List Nat), cs = [.int .i64 x.af, .slice a1 x.ids.length d1] ∧ bl = g1 ∧ (ab.sl ab.int).Own w [.slice a1 x.ids.length d1] x.ids g1 ∧ (Lit.int .i64 x.af).wf = true := by
 obtain ⟨hl, hn, hf⟩ := h
 obtain ⟨a1, d1, b1, rfl, hbl, w0, l1⟩ := dp.1 hl
 rw [hbl] at hn hf
 exact ⟨a1, d1, b1, rfl, hbl, ⟨l1, hn, hf⟩, w0⟩
theorem hZ {w : World} {x : bH} {c1 : List Value} {g1 : List Nat} (O1 : (ab.sl ab.int).Own w c1 x.ids g1) (v0 : (Lit.int .i64 x.af).wf = true) (hn : (g1).Nodup) : ab.aD.Own w ([.int .i64 x.af] ++ c1) x (g1) := by
 refine ⟨⟨[.int .i64 x.af], c1, [], g1, rfl, by simp, ⟨rfl, v0, rfl⟩, O1.1⟩, hn, ?_⟩
 intro b hb o
 exact O1.2.2 b hb o
theorem pZ (zs : List Int) : (ab.sl ab.int).bG zs = zs.length := by
 show al (fun _ => 1) zs = zs.length
 induction zs with
 | nil => rfl
 | cons z zs ih => simp [al, ih]; omega
theorem jQ (zs : List Int) : (ab.sl ab.int).ak zs = zs.length := pZ zs
theorem oT {α : Type} (bG : α → Nat) (mk : Int → α → α) (k : Int) (xs : List α) : (bW bG mk k xs).length = xs.length := by
 induction xs generalizing k with
 | nil => rfl
 | cons x xs ih => simp [bW, ih]
theorem fM (k : Int) (zs : List Int) (j : Nat) (h : j < zs.length) : ((ab.sl ab.int).cq k zs).getD j 0 = k + j := by
 show (bW (fun _ => 1) (fun k _ => k) k zs).getD j 0 = k + j
 induction zs generalizing k j with
 | nil => simp at h
 | cons z zs ih =>
  match j with
  | 0 => simp [bW]
  | j + 1 =>
   have := ih (k + 1) j (by simpa using h)
   simp only [bW, List.getD_cons_succ]
   rw [show ((1 : Nat) : Int) = 1 from rfl, this]
   omega
theorem dP (k : Int) (zs : List Int) : ((ab.sl ab.int).cq k zs).length = zs.length := oT _ _ _ _
theorem mQ (k : Int) (zs : List Int) (hk : 0 ≤ k) (hk2 : k + zs.length ≤ 1000000000) : ∀ z ∈ (ab.sl ab.int).cq k zs, (Lit.int .i64 z).wf = true := by
 intro z hz
 obtain ⟨j, hj, rfl⟩ := List.mem_iff_getElem.1 hz
 have hj' := hj
 rw [dP] at hj'
 have := fM k zs j hj'
 have e : ((ab.sl ab.int).cq k zs)[j] = k + j := by simpa [List.getD, hj] using this
 rw [e]
 exact aR (by omega)
theorem nT (b off cap : Nat) (zs : List Int) (k : Int) (w : World) (hk : 0 ≤ k) (hk2 : k + zs.length ≤ 1000000000) (hc : ∀ j, j < zs.length → w.cell? ⟨b, off + j, none⟩ = some (.int .i64 (zs.getD j 0)))
  (hf : ∀ o, w.frozen? ⟨b, o, none⟩ = false) :
  Calls Tryz.prog 24 #[.slice (some ⟨b, off, none⟩) zs.length cap, .int .i64 k] w fun e w' => e = .returned (.int .i64 (k + zs.length)) ∧
   (∀ j, j < zs.length → w'.cell? ⟨b, off + j, none⟩ = some (.int .i64 (k + j))) ∧ (∀ o, w'.frozen? ⟨b, o, none⟩ = false) ∧ (∀ o, (o < off ∨ off + zs.length ≤ o) → w'.cell? ⟨b, o, none⟩ = w.cell? ⟨b, o, none⟩) ∧ Ext (fun q => q = b) w w' := by
 go_enter Tryz.func24, Tryz.ntmps24
 go_wp2
 go_loopw [1, 5] (fun kk i wr => ∃ j : Nat, j ≤ zs.length ∧ i = .int .i64 j ∧ kk = .int .i64 (k + j) ∧ (∀ m, m < j → wr.cell? ⟨b, off + m, none⟩ = some (.int .i64 (k + m))) ∧ (∀ o, wr.frozen? ⟨b, o, none⟩ = false) ∧ (∀ o, (o < off ∨ off + j ≤ o) → wr.cell? ⟨b, o, none⟩ = w.cell? ⟨b, o, none⟩) ∧ Ext (fun q => q = b) w wr)
  (fun _ i _ => zs.length - (intOf i).toNat)
 case atStart => exact ⟨0, Nat.zero_le _, rfl, by simp, fun m hm => by omega, hf, fun _ _ => rfl, Ext.refl _ _⟩
 case round =>
  obtain ⟨j, hj, rfl, rfl, hm, hfz, ho, hx⟩ := hrel
  by_cases hlt : j < zs.length
  ·
   have hcd : wr.cell? ⟨b, off + j, none⟩ = some (.int .i64 (zs.getD j 0)) := (ho (off + j) (by omega)).trans (hc j hlt)
   have hfj := hfz (off + j)
   have HM : Hid (∀ m, m < j + 1 → (wr.setCell ⟨b, off + j, none⟩ (.int .i64 (k + j))).cell? ⟨b, off + m, none⟩ = some (.int .i64 (k + m))) := by
    intro m hm1
    by_cases e : m = j
    ·
     subst e
     exact World.cell?_setCell_same _ _ _ hcd
    rw [World.cell?_setCell_other _ _ _ _ (fun q => by have := congrArg Addr.off q; simp only at this; omega)]
    exact hm m (by omega)
   have HF : Hid (∀ o, (wr.setCell ⟨b, off + j, none⟩ (.int .i64 (k + j))).frozen? ⟨b, o, none⟩ = false) := fun o => by simpa using hfz o
   have HO : Hid (∀ o, (o < off ∨ off + (j + 1) ≤ o) → (wr.setCell ⟨b, off + j, none⟩ (.int .i64 (k + j))).cell? ⟨b, o, none⟩ = w.cell? ⟨b, o, none⟩) := by
    intro o hoo
    rw [World.cell?_setCell_other _ _ _ _ (fun q => by have := congrArg Addr.off q; simp only at this; omega)]
    exact ho o (by omega)
   have HX := yh (hx.setCell ⟨b, off + j, none⟩ (.int .i64 (k + j)) rfl)
   clear hm hfz ho hx hc hf
   go_wp2
   go_roundw
   case rel => exact ⟨j + 1, by omega, by go_num, by go_num, uh HM, uh HF, uh HO, uh HX⟩
   case measure => simp [intOf]; omega
  obtain rfl : j = zs.length := by omega
  have HM := yh hm
  have HF := yh hfz
  have HO := yh ho
  have HX := yh hx
  clear hm hfz ho hx hc hf
  go_wp2
  go_ret
  exact ⟨rfl, uh HM, uh HF, uh HO, uh HX⟩
theorem mE (ao : Option Addr) (cap : Nat) (k : Int) (w : World) :
  Calls Tryz.prog 24 #[.slice ao 0 cap, .int .i64 k] w fun e w' => e = .returned (.int .i64 k) ∧ w' = w := by
 go_enter Tryz.func24, Tryz.ntmps24
 go_wp2
 refine wp_loop_rounds 1 ?_
 rw [rounds_succ]
 go_wp2
 go_ret
 exact ⟨rfl, rfl⟩
theorem dN (v : Value) (zs : List Int) (bl : List Nat) (k : Int) (w : World) (h : (ab.sl ab.int).Own w [v] zs bl) (hk : 0 ≤ k) (hk2 : k + (ab.sl ab.int).ak zs ≤ 1000000000) :
  Calls Tryz.prog 24 #[v, .int .i64 k] w fun e w' => e = .returned (.int .i64 (k + (ab.sl ab.int).ak zs)) ∧ (ab.sl ab.int).Own w' [v] ((ab.sl ab.int).cq k zs) bl ∧ Ext (fun q => q ∈ bl) w w' := by
 obtain ⟨hl, hn, hf⟩ := h
 rw [jQ] at hk2 ⊢
 rcases ab.du.1 hl with ⟨ao, cap, rfl, hbig, hwf, ⟨rfl, rfl⟩ | ⟨b, off, rfl, hb, rfl, hc⟩⟩
 ·
  refine (mE ao cap k w).mono ?_
  rintro e w' ⟨rfl, rfl⟩
  exact ⟨by simp, ⟨hl, hn, hf⟩, Ext.refl _ _⟩
 refine (nT b off cap zs k w hk hk2 hc (hf b (by simp))).mono ?_
 rintro e w' ⟨rfl, hm, hfz, -, hx⟩
 refine ⟨rfl, ⟨ab.du.2 ⟨_, cap, by rw [dP], by rw [dP]; exact hbig, mQ k zs hk hk2, Or.inr ⟨b, off, rfl, Nat.lt_of_lt_of_le hb hx.size, rfl, fun j hj => ?_⟩⟩, hn, ?_⟩, hx.mono fun q _ e => by simp [e]⟩
 ·
  rw [dP] at hj
  rw [hm j hj, fM k zs j hj]
 intro b' hb' o
 obtain rfl : b' = b := by simpa using hb'
 exact hfz o
theorem o8 (b off cap n : Nat) (k : Int) (w : World) (hk : 0 ≤ k) (hk2 : k + n ≤ 1000000000) (hc : ∀ j, j < n → w.cell? ⟨b, off + j, none⟩ = some (.int .i64 (k + j))) :
  Calls Tryz.prog 71 #[.slice (some ⟨b, off, none⟩) n cap, .int .i64 k] w fun e w' => e = .returned (.int .i64 (k + n)) ∧ w' = w := by
 go_enter Tryz.func71, Tryz.ntmps71
 go_wp2
 go_loop [1, 5] (fun kk i => ∃ j : Nat, j ≤ n ∧ i = .int .i64 j ∧ kk = .int .i64 (k + j)) (fun _ i => n - (intOf i).toNat)
 case atStart => exact ⟨0, Nat.zero_le _, rfl, by simp⟩
 case round =>
  obtain ⟨j, hj, rfl, rfl⟩ := hrel
  by_cases hlt : j < n
  ·
   have hcx := hc j hlt
   have hne : ((k + (j : Int)) != (k + (j : Int))) = false := by simp
   clear hc
   go_wp2
   go_round
   case rel => exact ⟨j + 1, by omega, by go_num, by go_num⟩
   case measure => simp [intOf]; omega
  obtain rfl : j = n := by omega
  clear hc
  go_wp2
  go_ret
  exact ⟨rfl, rfl⟩
theorem m5 (ao : Option Addr) (cap : Nat) (k : Int) (w : World) :
  Calls Tryz.prog 71 #[.slice ao 0 cap, .int .i64 k] w fun e w' => e = .returned (.int .i64 k) ∧ w' = w := by
 go_enter Tryz.func71, Tryz.ntmps71
 go_wp2
 refine wp_loop_rounds 1 ?_
 rw [rounds_succ]
 go_wp2
 go_ret
 exact ⟨rfl, rfl⟩
theorem dW (v : Value) (zs : List Int) (k : Int) (w : World) (h : (ab.sl ab.int).Reads w [v] ((ab.sl ab.int).cq k zs)) (hk : 0 ≤ k) (hk2 : k + (ab.sl ab.int).ak zs ≤ 1000000000) :
  Calls Tryz.prog 71 #[v, .int .i64 k] w fun e w' => e = .returned (.int .i64 (k + (ab.sl ab.int).ak zs)) ∧ Below w.heap.size w w' := by
 rw [jQ] at hk2 ⊢
 obtain ⟨ao, cap, rfl, hwf, hc⟩ := ab.bn h
 rw [dP] at hc ⊢
 by_cases hp : 0 < zs.length
 ·
  obtain ⟨b, off, rfl, hc1⟩ := hc hp
  refine (o8 b off cap zs.length k w hk hk2 fun j hj => by rw [hc1 j hj, fM k zs j hj]).mono ?_
  rintro e w' ⟨rfl, rfl⟩
  exact ⟨rfl, Below.refl _ _⟩
 have e0 : zs.length = 0 := by omega
 rw [e0]
 refine (m5 ao cap k w).mono ?_
 rintro e w' ⟨rfl, rfl⟩
 exact ⟨by simp, Below.refl _ _⟩
theorem na (cs : List Value) (x : bH) (bl : List Nat) (k : Int) (w : World) (h : ab.aD.Own w cs x bl) (hk : 0 ≤ k) (hk2 : k + ab.aD.ak x ≤ 1000000000) :
  Calls Tryz.prog 66 #[.agg cs.toArray, .int .i64 k] w fun e w' => e = .returned (.int .i64 (k + ab.aD.ak x)) ∧ ab.aD.Own w' cs (ab.aD.cq k x) bl ∧ Ext (fun q => q ∈ bl) w w' := by
 have hlt := h.lt
 have hnd := h.2.1
 rw [ek] at hk2
 obtain ⟨a1, d1, g1, rfl, hbl, O1, v0⟩ := oM h
 clear h
 have HB0 : Below w.heap.size w (w.alloc (.cells #[.int .i64 x.af, .slice a1 x.ids.length d1] 32)) := (Below.refl _ _).alloc (Nat.le_refl _) _
 have bA : aj w.heap.size #[.int .i64 x.af, .slice a1 x.ids.length d1] 32 (w.alloc (.cells #[.int .i64 x.af, .slice a1 x.ids.length d1] 32)) w.heap.size := aH (Nat.le_refl _)
 have HN := yh hnd
 have HV := yh (ek x)
 have HM := yh (jX k x)
 clear hnd
 go_enter Tryz.func66, Tryz.ntmps66
 go_wp2_with fail
 generalize w.alloc (.cells #[.int .i64 x.af, .slice a1 x.ids.length d1] 32) = W0 at *
 replace O1 := O1.ag HB0
 have hsz := HB0.size
 have EX : Ext (fun q => q ∈ bl) w W0 := aL HB0 _
 have hs0 := bA.lt
 refine (dN _ x.ids g1 (k) _ O1 (by omega) (by omega)).mono ?_
 rintro e w1 ⟨rfl, Q1, E1⟩
 replace EX := EX.trans (E1.mono fun b _ hb => by rw [hbl]; simp [hb])
 replace bA := bA.ext E1 (fun hm => by have := hlt w.heap.size (by rw [hbl]; simp [hm]); omega)
 clear E1
 have HA := yh bA
 have HX := yh EX
 have HL := yh hlt
 have HBL := yh hbl
 clear bA EX hlt hbl
 have P1 := yh Q1
 clear Q1
 clear O1
 go_wp2_with fail
 go_ret
 refine ⟨?_, ?_, uh HX⟩
 ·
  rw [show k + (ab.aD.ak x : Int) = k + ((ab.sl ab.int).ak x.ids : Int) by rw [uh HV]]
  rfl
 have e := uh HBL
 subst e
 rw [uh HM]
 exact hZ (x := ⟨x.af, (ab.sl ab.int).cq (k) x.ids⟩) (uh P1) v0 (uh HN)
theorem pe {w : World} {cs : List Value} {x : bz} {bl : List Nat} (h : ab.ax.Own w cs x bl) : ∃ (a4 : Option Addr) (d4 : Nat) (g4 : List Nat), cs = [.int .i64 x.id, .bool x.up, .int .i64 x.af, .int .i64 x.az, .slice a4 x.writes.length d4, .int .i64 x.sure, .int .i64 x.clean] ∧ bl = g4 ∧ (ab.sl ab.ai).Own w [.slice a4 x.writes.length d4] x.writes g4 ∧ (Lit.int .i64 x.id).wf = true ∧ (Lit.int .i64 x.af).wf = true ∧ (Lit.int .i64 x.az).wf = true ∧ (Lit.int .i64 x.sure).wf = true ∧ (Lit.int .i64 x.clean).wf = true := by
 obtain ⟨hl, hn, hf⟩ := h
 obtain ⟨a4, d4, b4, rfl, hbl, w0, w2, w3, l4, w5, w6⟩ := dd.1 hl
 rw [hbl] at hn hf
 exact ⟨a4, d4, b4, rfl, hbl, ⟨l4, hn, hf⟩, w0, w2, w3, w5, w6⟩
theorem iA {w : World} {x : bz} {c4 : List Value} {g4 : List Nat} (O4 : (ab.sl ab.ai).Own w c4 x.writes g4) (v0 : (Lit.int .i64 x.id).wf = true) (v2 : (Lit.int .i64 x.af).wf = true) (v3 : (Lit.int .i64 x.az).wf = true) (v5 : (Lit.int .i64 x.sure).wf = true) (v6 : (Lit.int .i64 x.clean).wf = true) (hn : (g4).Nodup) : ab.ax.Own w ([.int .i64 x.id] ++ ([.bool x.up] ++ ([.int .i64 x.af] ++ ([.int .i64 x.az] ++ (c4 ++ ([.int .i64 x.sure] ++ ([.int .i64 x.clean]))))))) x (g4) := by
 refine ⟨⟨[.int .i64 x.id], [.bool x.up] ++ ([.int .i64 x.af] ++ ([.int .i64 x.az] ++ (c4 ++ ([.int .i64 x.sure] ++ ([.int .i64 x.clean]))))), [], [] ++ ([] ++ ([] ++ (g4 ++ ([] ++ [])))), rfl, by simp, ⟨rfl, v0, rfl⟩, ⟨[.bool x.up], [.int .i64 x.af] ++ ([.int .i64 x.az] ++ (c4 ++ ([.int .i64 x.sure] ++ ([.int .i64 x.clean])))), [], [] ++ ([] ++ (g4 ++ ([] ++ []))), rfl, rfl, ⟨rfl, rfl⟩, ⟨[.int .i64 x.af], [.int .i64 x.az] ++ (c4 ++ ([.int .i64 x.sure] ++ ([.int .i64 x.clean]))), [], [] ++ (g4 ++ ([] ++ [])), rfl, rfl, ⟨rfl, v2, rfl⟩, ⟨[.int .i64 x.az], c4 ++ ([.int .i64 x.sure] ++ ([.int .i64 x.clean])), [], g4 ++ ([] ++ []), rfl, rfl, ⟨rfl, v3, rfl⟩, ⟨c4, [.int .i64 x.sure] ++ ([.int .i64 x.clean]), g4, [] ++ [], rfl, rfl, O4.1, ⟨[.int .i64 x.sure], [.int .i64 x.clean], [], [], rfl, rfl, ⟨rfl, v5, rfl⟩, ⟨rfl, v6, rfl⟩⟩⟩⟩⟩⟩⟩, hn, ?_⟩
 intro b hb o
 exact O4.2.2 b hb o
theorem kc (x : aA) : ab.ai.bG x = 4 + (ab.sl ab.int).ak x.vec := by
 show 1 + (1 + ((ab.sl ab.int).ak x.vec + (1 + (1)))) = 4 + (ab.sl ab.int).ak x.vec
 omega
theorem kh (k : Int) (x : aA) : ab.ai.dj k x = ⟨k, k + 1, (ab.sl ab.int).cq (k + 1 + 1) x.vec, k + 1 + 1 + ((ab.sl ab.int).ak x.vec : Nat), k + 1 + 1 + ((ab.sl ab.int).ak x.vec : Nat) + 1⟩ := rfl
theorem ib (xs : List aA) : (ab.sl ab.ai).ak xs = al ab.ai.bG xs := rfl
theorem mV (k : Int) (xs : List aA) : (ab.sl ab.ai).cq k xs = bW ab.ai.bG ab.ai.dj k xs := rfl
theorem jF (b off cap : Nat) (xs : List aA) (bl : List Nat) (k : Int) (w : World) (h : (ab.sl ab.ai).Own w [.slice (some ⟨b, off, none⟩) xs.length cap] xs bl) (hk : 0 ≤ k) (hk2 : k + (al ab.ai.bG xs : Nat) ≤ 1000000000) :
  Calls Tryz.prog 134 #[.slice (some ⟨b, off, none⟩) xs.length cap, .int .i64 k] w fun e w' => e = .returned (.int .i64 (k + (al ab.ai.bG xs : Nat))) ∧ (ab.sl ab.ai).Own w' [.slice (some ⟨b, off, none⟩) xs.length cap] (bW ab.ai.bG ab.ai.dj k xs) bl ∧ Ext (fun q => q ∈ bl) w w' := by
 have hbig := h.reads.dK
 have H := yh h
 clear h
 go_enter Tryz.func134, Tryz.ntmps134
 go_wp2_with fail
 go_loopw [1, 5] (fun kk i wr => ∃ (j : Nat) (kj : Int), j ≤ xs.length ∧ i = .int .i64 j ∧ kj = k + (al ab.ai.bG (xs.take j) : Nat) ∧ kk = .int .i64 kj ∧ (ab.sl ab.ai).Own wr [.slice (some ⟨b, off, none⟩) xs.length cap] (cw ab.ai.bG ab.ai.dj k xs j) bl ∧ Ext (fun q => q ∈ bl) w wr) (fun _ i _ => xs.length - (intOf i).toNat)
 case atStart => exact ⟨0, k, Nat.zero_le _, rfl, by simp [al], rfl, by rw [et]; exact uh H, Ext.refl _ _⟩
 case round =>
  obtain ⟨j, kj, hj, rfl, hkj, rfl, hO, hX⟩ := hrel
  clear H
  by_cases hlt : j < xs.length
  ·
   have hj2 : j < (cw ab.ai.bG ab.ai.dj k xs j).length := by rw [eL _ _ _ _ _ hj]; exact hlt
   obtain ⟨row, blk, R, O, hbk, hin, hfin⟩ := ab.fB hO hj2
   rw [eO _ _ _ _ _ hlt] at O
   have HT := yh (ab.bV (f := ab.ai.bG) hlt)
   have hle := ab.bx (f := ab.ai.bG) (xs := xs) (k := j + 1)
   rw [uh HT] at hle
   have HM : Hid (∀ y, y = ab.ai.dj kj xs[j] → (cw ab.ai.bG ab.ai.dj k xs j).set j y = cw ab.ai.bG ab.ai.dj k xs (j + 1)) := fun y e => by rw [e, hkj]; exact eF _ _ _ _ _ hlt
   have HF := yh hfin
   have HX := yh hX
   have HI := yh hin
   clear hO hfin hX hin hj2
   generalize hx : xs[j] = x at *
   clear hx
   have hcn := kc x
   have HD := yh (kh kj x)
   have hb1 : 0 ≤ kj := by omega
   have hb2 : kj + (ab.ai.bG x : Int) ≤ 1000000000 := by omega
   have HK := yh hkj
   clear hkj hle
   have hnd := O.2.1
   obtain ⟨a2, d2, g2, rfl, hbl, O2, v0, v1, v3, v4⟩ := jM O
   clear O
   subst hbl
   have HN := yh hnd
   clear hnd
   have l1 : b < wr.heap.size := R.lt
   have c0 : wr.cell? ⟨b, off + j * 5, none⟩ = some (.int .i64 x.kind) := R.at 0 _ rfl
   have f0 : wr.frozen? ⟨b, off + j * 5, none⟩ = false := R.soft _
   have c1 : wr.cell? ⟨b, off + j * 5 + 1, none⟩ = some (.int .i64 x.id) := R.at 1 _ rfl
   have f1 : wr.frozen? ⟨b, off + j * 5 + 1, none⟩ = false := R.soft _
   have c2 : wr.cell? ⟨b, off + j * 5 + 2, none⟩ = some (.slice a2 x.vec.length d2) := R.at 2 _ rfl
   have R0_ : cQ wr ((wr.setCell ⟨b, off + j * 5, none⟩ (.int .i64 kj)).setCell ⟨b, off + j * 5 + 1, none⟩ (.int .i64 (kj + 1))) b (off + j * 5) 5 [.int .i64 kj, .int .i64 (kj + 1), .slice a2 x.vec.length d2, .int .i64 x.aa, .int .i64 x.seq] blk := ((R.set 0 (.int .i64 kj) (by decide)).set 1 (.int .i64 (kj + 1)) (by decide))
   have E0_ : Ext (fun q => q = b) wr ((wr.setCell ⟨b, off + j * 5, none⟩ (.int .i64 kj)).setCell ⟨b, off + j * 5 + 1, none⟩ (.int .i64 (kj + 1))) := (((Ext.refl (fun q => q = b) _).setCell ⟨b, off + j * 5, none⟩ (.int .i64 kj) rfl).setCell ⟨b, off + j * 5 + 1, none⟩ (.int .i64 (kj + 1)) rfl)
   have O2_ := O2.ext E0_ (fun c hc e => hbk (e ▸ hc))
   clear O2
   have O2 := O2_
   clear O2_
   clear R E0_
   have R := R0_
   clear R0_
   have HR := yh R
   clear R
   go_wp2_with fail
   refine (dN _ x.vec blk (kj + 1 + 1) _ O2 (by omega) (by omega)).mono ?_
   rintro e w2 ⟨rfl, Q2, E2⟩
   have R := (uh HR).call E2 (fun _ h => h) hbk
   clear E2 O2 HR c0 c1 c2 f0 f1
   clear l1
   have l1 : b < w2.heap.size := R.lt
   have c3 : w2.cell? ⟨b, off + j * 5 + 3, none⟩ = some (.int .i64 x.aa) := R.at 3 _ rfl
   have f3 : w2.frozen? ⟨b, off + j * 5 + 3, none⟩ = false := R.soft _
   have c4 : w2.cell? ⟨b, off + j * 5 + 4, none⟩ = some (.int .i64 x.seq) := R.at 4 _ rfl
   have f4 : w2.frozen? ⟨b, off + j * 5 + 4, none⟩ = false := R.soft _
   have R1_ : cQ wr ((w2.setCell ⟨b, off + j * 5 + 3, none⟩ (.int .i64 (kj + 1 + 1 + ((ab.sl ab.int).ak x.vec : Nat)))).setCell ⟨b, off + j * 5 + 4, none⟩ (.int .i64 (kj + 1 + 1 + ((ab.sl ab.int).ak x.vec : Nat) + 1))) b (off + j * 5) 5 [.int .i64 kj, .int .i64 (kj + 1), .slice a2 x.vec.length d2, .int .i64 (kj + 1 + 1 + ((ab.sl ab.int).ak x.vec : Nat)), .int .i64 (kj + 1 + 1 + ((ab.sl ab.int).ak x.vec : Nat) + 1)] blk := ((R.set 3 (.int .i64 (kj + 1 + 1 + ((ab.sl ab.int).ak x.vec : Nat))) (by decide)).set 4 (.int .i64 (kj + 1 + 1 + ((ab.sl ab.int).ak x.vec : Nat) + 1)) (by decide))
   have E1_ : Ext (fun q => q = b) w2 ((w2.setCell ⟨b, off + j * 5 + 3, none⟩ (.int .i64 (kj + 1 + 1 + ((ab.sl ab.int).ak x.vec : Nat)))).setCell ⟨b, off + j * 5 + 4, none⟩ (.int .i64 (kj + 1 + 1 + ((ab.sl ab.int).ak x.vec : Nat) + 1))) := (((Ext.refl (fun q => q = b) _).setCell ⟨b, off + j * 5 + 3, none⟩ (.int .i64 (kj + 1 + 1 + ((ab.sl ab.int).ak x.vec : Nat))) rfl).setCell ⟨b, off + j * 5 + 4, none⟩ (.int .i64 (kj + 1 + 1 + ((ab.sl ab.int).ak x.vec : Nat) + 1)) rfl)
   have Q2_ := Q2.ext E1_ (fun c hc e => hbk (e ▸ hc))
   clear Q2
   have Q2 := yh Q2_
   clear Q2_
   clear R E1_
   have R := R1_
   clear R1_
   have HR := yh R
   clear R
   have HQ := yh (uh Q2)
   clear Q2
   go_wp2_with fail
   go_roundw
   case rel =>
    refine ⟨j + 1, _, by omega, by go_num, ?_, rfl, ?_, ?_⟩
    ·
     rw [uh HT, hcn]
     have := uh HK
     omega
    ·
     rw [← uh HM _ (uh HD).symm]
     exact uh HF _ _ _ (uh HR) (dz (x := ⟨kj, kj + 1, (ab.sl ab.int).cq (kj + 1 + 1) x.vec, kj + 1 + 1 + ((ab.sl ab.int).ak x.vec : Nat), kj + 1 + 1 + ((ab.sl ab.int).ak x.vec : Nat) + 1⟩) (uh HQ) (show (Lit.int .i64 (kj)).wf = true from aR (by omega)) (show (Lit.int .i64 (kj + 1)).wf = true from aR (by omega)) (show (Lit.int .i64 (kj + 1 + 1 + ((ab.sl ab.int).ak x.vec : Nat))).wf = true from aR (by omega)) (show (Lit.int .i64 (kj + 1 + 1 + ((ab.sl ab.int).ak x.vec : Nat) + 1)).wf = true from aR (by omega)) (uh HN))
    exact (uh HX).trans ((uh HR).ext.mono fun q _ hq => uh HI q (by rcases hq with h | h; exact Or.inl h.symm; exact Or.inr h))
   case measure => simp [intOf]; omega
  obtain rfl : j = xs.length := by omega
  rw [eH] at hO
  rw [List.take_length] at hkj
  have HK := yh hkj
  clear hkj
  have HO := yh hO
  have HX := yh hX
  clear hO hX
  go_wp2_with fail
  go_ret
  exact ⟨by rw [← uh HK]; rfl, uh HO, uh HX⟩
theorem jb (ao : Option Addr) (cap : Nat) (k : Int) (w : World) :
  Calls Tryz.prog 134 #[.slice ao 0 cap, .int .i64 k] w fun e w' => e = .returned (.int .i64 k) ∧ w' = w := by
 go_enter Tryz.func134, Tryz.ntmps134
 go_wp2_with fail
 refine wp_loop_rounds 1 ?_
 rw [rounds_succ]
 go_wp2_with fail
 go_ret
 exact ⟨rfl, rfl⟩
theorem lX (v : Value) (xs : List aA) (bl : List Nat) (k : Int) (w : World) (h : (ab.sl ab.ai).Own w [v] xs bl) (hk : 0 ≤ k) (hk2 : k + (ab.sl ab.ai).ak xs ≤ 1000000000) :
  Calls Tryz.prog 134 #[v, .int .i64 k] w fun e w' => e = .returned (.int .i64 (k + (ab.sl ab.ai).ak xs)) ∧ (ab.sl ab.ai).Own w' [v] ((ab.sl ab.ai).cq k xs) bl ∧ Ext (fun q => q ∈ bl) w w' := by
 obtain ⟨ao, cap, rfl⟩ := aE h.reads
 by_cases hp : 0 < xs.length
 ·
  obtain ⟨b, off, rfl, hbl⟩ := ab.aI h.reads hp
  exact jF b off cap xs bl k w h hk hk2
 obtain rfl : xs = [] := List.eq_nil_of_length_eq_zero (by omega)
 refine (jb ao cap k w).mono ?_
 rintro e w' ⟨rfl, rfl⟩
 exact ⟨by rw [ib]; simp [al], h, Ext.refl _ _⟩
theorem mw (x : bz) : ab.ax.bG x = 6 + (ab.sl ab.ai).ak x.writes := by
 show 1 + (1 + (1 + (1 + ((ab.sl ab.ai).ak x.writes + (1 + (1)))))) = 6 + (ab.sl ab.ai).ak x.writes
 omega
theorem me (k : Int) (x : bz) : ab.ax.dj k x = ⟨k, ((k + 1).tmod 3 == 0), k + 1 + 1, k + 1 + 1 + 1, (ab.sl ab.ai).cq (k + 1 + 1 + 1 + 1) x.writes, k + 1 + 1 + 1 + 1 + ((ab.sl ab.ai).ak x.writes : Nat), k + 1 + 1 + 1 + 1 + ((ab.sl ab.ai).ak x.writes : Nat) + 1⟩ := rfl
theorem ji (xs : List bz) : (ab.sl ab.ax).ak xs = al ab.ax.bG xs := rfl
theorem oF (k : Int) (xs : List bz) : (ab.sl ab.ax).cq k xs = bW ab.ax.bG ab.ax.dj k xs := rfl
theorem kP (b off cap : Nat) (xs : List bz) (bl : List Nat) (k : Int) (w : World) (h : (ab.sl ab.ax).Own w [.slice (some ⟨b, off, none⟩) xs.length cap] xs bl) (hk : 0 ≤ k) (hk2 : k + (al ab.ax.bG xs : Nat) ≤ 1000000000) :
  Calls Tryz.prog 67 #[.slice (some ⟨b, off, none⟩) xs.length cap, .int .i64 k] w fun e w' => e = .returned (.int .i64 (k + (al ab.ax.bG xs : Nat))) ∧ (ab.sl ab.ax).Own w' [.slice (some ⟨b, off, none⟩) xs.length cap] (bW ab.ax.bG ab.ax.dj k xs) bl ∧ Ext (fun q => q ∈ bl) w w' := by
 have hbig := h.reads.dK
 have H := yh h
 clear h
 go_enter Tryz.func67, Tryz.ntmps67
 go_wp2_with fail
 go_loopw [1, 5] (fun kk i wr => ∃ (j : Nat) (kj : Int), j ≤ xs.length ∧ i = .int .i64 j ∧ kj = k + (al ab.ax.bG (xs.take j) : Nat) ∧ kk = .int .i64 kj ∧ (ab.sl ab.ax).Own wr [.slice (some ⟨b, off, none⟩) xs.length cap] (cw ab.ax.bG ab.ax.dj k xs j) bl ∧ Ext (fun q => q ∈ bl) w wr) (fun _ i _ => xs.length - (intOf i).toNat)
 case atStart => exact ⟨0, k, Nat.zero_le _, rfl, by simp [al], rfl, by rw [et]; exact uh H, Ext.refl _ _⟩
 case round =>
  obtain ⟨j, kj, hj, rfl, hkj, rfl, hO, hX⟩ := hrel
  clear H
  by_cases hlt : j < xs.length
  ·
   have hj2 : j < (cw ab.ax.bG ab.ax.dj k xs j).length := by rw [eL _ _ _ _ _ hj]; exact hlt
   obtain ⟨row, blk, R, O, hbk, hin, hfin⟩ := ab.fB hO hj2
   rw [eO _ _ _ _ _ hlt] at O
   have HT := yh (ab.bV (f := ab.ax.bG) hlt)
   have hle := ab.bx (f := ab.ax.bG) (xs := xs) (k := j + 1)
   rw [uh HT] at hle
   have HM : Hid (∀ y, y = ab.ax.dj kj xs[j] → (cw ab.ax.bG ab.ax.dj k xs j).set j y = cw ab.ax.bG ab.ax.dj k xs (j + 1)) := fun y e => by rw [e, hkj]; exact eF _ _ _ _ _ hlt
   have HF := yh hfin
   have HX := yh hX
   have HI := yh hin
   clear hO hfin hX hin hj2
   generalize hx : xs[j] = x at *
   clear hx
   have hcn := mw x
   have HD0 := me kj x
   have hb1 : 0 ≤ kj := by omega
   have hb2 : kj + (ab.ax.bG x : Int) ≤ 1000000000 := by omega
   have HK := yh hkj
   clear hkj hle
   rw [Int.tmod_eq_emod_of_nonneg (show (0 : Int) ≤ kj + 1 by omega)] at HD0
   have HD := yh HD0
   clear HD0
   have hnd := O.2.1
   obtain ⟨a4, d4, g4, rfl, hbl, O4, v0, v2, v3, v5, v6⟩ := pe O
   clear O
   have HN : Hid ((g4).Nodup) := by rw [hbl] at hnd; exact hnd
   have HBL := yh hbl
   have hm4 : ∀ c ∈ g4, c ∈ blk := fun c hc => by rw [hbl]; simp [hc]
   have HM4 := yh hm4
   have HB4 : Hid (b ∉ g4) := fun hc => hbk (hm4 b hc)
   clear hm4
   clear hnd hbl
   have P4 := yh O4
   clear O4
   have HR := yh R
   have l1 : b < wr.heap.size := R.lt
   clear R
   have c0 : wr.cell? ⟨b, off + j * 7, none⟩ = some (.int .i64 x.id) := (uh HR).at 0 _ rfl
   have f0 : wr.frozen? ⟨b, off + j * 7, none⟩ = false := (uh HR).soft _
   have c1 : wr.cell? ⟨b, off + j * 7 + 1, none⟩ = some (.bool x.up) := (uh HR).at 1 _ rfl
   have f1 : wr.frozen? ⟨b, off + j * 7 + 1, none⟩ = false := (uh HR).soft _
   have c2 : wr.cell? ⟨b, off + j * 7 + 2, none⟩ = some (.int .i64 x.af) := (uh HR).at 2 _ rfl
   have f2 : wr.frozen? ⟨b, off + j * 7 + 2, none⟩ = false := (uh HR).soft _
   have c3 : wr.cell? ⟨b, off + j * 7 + 3, none⟩ = some (.int .i64 x.az) := (uh HR).at 3 _ rfl
   have f3 : wr.frozen? ⟨b, off + j * 7 + 3, none⟩ = false := (uh HR).soft _
   have c4 : wr.cell? ⟨b, off + j * 7 + 4, none⟩ = some (.slice a4 x.writes.length d4) := (uh HR).at 4 _ rfl
   have E0_ : Ext (fun q => q = b) wr ((((wr.setCell ⟨b, off + j * 7, none⟩ (.int .i64 kj)).setCell ⟨b, off + j * 7 + 1, none⟩ (.bool ((kj + 1) % 3 == 0))).setCell ⟨b, off + j * 7 + 2, none⟩ (.int .i64 (kj + 1 + 1))).setCell ⟨b, off + j * 7 + 3, none⟩ (.int .i64 (kj + 1 + 1 + 1))) := (((((Ext.refl (fun q => q = b) _).setCell ⟨b, off + j * 7, none⟩ (.int .i64 kj) rfl).setCell ⟨b, off + j * 7 + 1, none⟩ (.bool ((kj + 1) % 3 == 0)) rfl).setCell ⟨b, off + j * 7 + 2, none⟩ (.int .i64 (kj + 1 + 1)) rfl).setCell ⟨b, off + j * 7 + 3, none⟩ (.int .i64 (kj + 1 + 1 + 1)) rfl)
   have HR0_ : Hid (cQ wr ((((wr.setCell ⟨b, off + j * 7, none⟩ (.int .i64 kj)).setCell ⟨b, off + j * 7 + 1, none⟩ (.bool ((kj + 1) % 3 == 0))).setCell ⟨b, off + j * 7 + 2, none⟩ (.int .i64 (kj + 1 + 1))).setCell ⟨b, off + j * 7 + 3, none⟩ (.int .i64 (kj + 1 + 1 + 1))) b (off + j * 7) 7 [.int .i64 kj, .bool ((kj + 1) % 3 == 0), .int .i64 (kj + 1 + 1), .int .i64 (kj + 1 + 1 + 1), .slice a4 x.writes.length d4, .int .i64 x.sure, .int .i64 x.clean] blk) := (((((uh HR).set 0 (.int .i64 kj) (by decide)).set 1 (.bool ((kj + 1) % 3 == 0)) (by decide)).set 2 (.int .i64 (kj + 1 + 1)) (by decide)).set 3 (.int .i64 (kj + 1 + 1 + 1)) (by decide))
   replace P4 := yh ((uh P4).ext E0_ (fun c hc e => uh HB4 (e ▸ hc)))
   clear HR E0_
   have HR := HR0_
   clear HR0_
   go_wp2_with fail
   refine (lX _ x.writes g4 (kj + 1 + 1 + 1 + 1) _ (uh P4) (by omega) (by omega)).mono ?_
   rintro e u0 ⟨rfl, Q, E2⟩
   replace HR := yh ((uh HR).call E2 (uh HM4) (uh HB4))
   clear P4
   have P4 := yh Q
   clear Q E2 l1 c0 f0 c1 f1 c2 f2 c3 f3 c4
   have l1 : b < u0.heap.size := (uh HR).lt
   have c5 : u0.cell? ⟨b, off + j * 7 + 5, none⟩ = some (.int .i64 x.sure) := (uh HR).at 5 _ rfl
   have f5 : u0.frozen? ⟨b, off + j * 7 + 5, none⟩ = false := (uh HR).soft _
   have c6 : u0.cell? ⟨b, off + j * 7 + 6, none⟩ = some (.int .i64 x.clean) := (uh HR).at 6 _ rfl
   have f6 : u0.frozen? ⟨b, off + j * 7 + 6, none⟩ = false := (uh HR).soft _
   have E1_ : Ext (fun q => q = b) u0 ((u0.setCell ⟨b, off + j * 7 + 5, none⟩ (.int .i64 (kj + 1 + 1 + 1 + 1 + ((ab.sl ab.ai).ak x.writes : Nat)))).setCell ⟨b, off + j * 7 + 6, none⟩ (.int .i64 (kj + 1 + 1 + 1 + 1 + ((ab.sl ab.ai).ak x.writes : Nat) + 1))) := (((Ext.refl (fun q => q = b) _).setCell ⟨b, off + j * 7 + 5, none⟩ (.int .i64 (kj + 1 + 1 + 1 + 1 + ((ab.sl ab.ai).ak x.writes : Nat))) rfl).setCell ⟨b, off + j * 7 + 6, none⟩ (.int .i64 (kj + 1 + 1 + 1 + 1 + ((ab.sl ab.ai).ak x.writes : Nat) + 1)) rfl)
   have HR1_ : Hid (cQ wr ((u0.setCell ⟨b, off + j * 7 + 5, none⟩ (.int .i64 (kj + 1 + 1 + 1 + 1 + ((ab.sl ab.ai).ak x.writes : Nat)))).setCell ⟨b, off + j * 7 + 6, none⟩ (.int .i64 (kj + 1 + 1 + 1 + 1 + ((ab.sl ab.ai).ak x.writes : Nat) + 1))) b (off + j * 7) 7 [.int .i64 kj, .bool ((kj + 1) % 3 == 0), .int .i64 (kj + 1 + 1), .int .i64 (kj + 1 + 1 + 1), .slice a4 x.writes.length d4, .int .i64 (kj + 1 + 1 + 1 + 1 + ((ab.sl ab.ai).ak x.writes : Nat)), .int .i64 (kj + 1 + 1 + 1 + 1 + ((ab.sl ab.ai).ak x.writes : Nat) + 1)] blk) := (((uh HR).set 5 (.int .i64 (kj + 1 + 1 + 1 + 1 + ((ab.sl ab.ai).ak x.writes : Nat))) (by decide)).set 6 (.int .i64 (kj + 1 + 1 + 1 + 1 + ((ab.sl ab.ai).ak x.writes : Nat) + 1)) (by decide))
   replace P4 := yh ((uh P4).ext E1_ (fun c hc e => uh HB4 (e ▸ hc)))
   clear HR E1_
   have HR := HR1_
   clear HR1_
   go_wp2_with fail
   go_roundw
   case rel =>
    refine ⟨j + 1, _, by omega, by go_num, ?_, rfl, ?_, ?_⟩
    ·
     rw [uh HT, hcn]
     have := uh HK
     omega
    ·
     rw [← uh HM _ (uh HD).symm]
     exact uh HF _ _ _ (uh HR) (by rw [uh HBL]; exact iA (x := ⟨kj, ((kj + 1) % 3 == 0), kj + 1 + 1, kj + 1 + 1 + 1, (ab.sl ab.ai).cq (kj + 1 + 1 + 1 + 1) x.writes, kj + 1 + 1 + 1 + 1 + ((ab.sl ab.ai).ak x.writes : Nat), kj + 1 + 1 + 1 + 1 + ((ab.sl ab.ai).ak x.writes : Nat) + 1⟩) (uh P4) (show (Lit.int .i64 (kj)).wf = true from aR (by omega)) (show (Lit.int .i64 (kj + 1 + 1)).wf = true from aR (by omega)) (show (Lit.int .i64 (kj + 1 + 1 + 1)).wf = true from aR (by omega)) (show (Lit.int .i64 (kj + 1 + 1 + 1 + 1 + ((ab.sl ab.ai).ak x.writes : Nat))).wf = true from aR (by omega)) (show (Lit.int .i64 (kj + 1 + 1 + 1 + 1 + ((ab.sl ab.ai).ak x.writes : Nat) + 1)).wf = true from aR (by omega)) (uh HN))
    exact (uh HX).trans ((uh HR).ext.mono fun q _ hq => uh HI q (by rcases hq with h | h; exact Or.inl h.symm; exact Or.inr h))
   case measure => simp [intOf]; omega
  obtain rfl : j = xs.length := by omega
  rw [eH] at hO
  rw [List.take_length] at hkj
  have HK := yh hkj
  clear hkj
  have HO := yh hO
  have HX := yh hX
  clear hO hX
  go_wp2_with fail
  go_ret
  exact ⟨by rw [← uh HK]; rfl, uh HO, uh HX⟩
theorem jH (ao : Option Addr) (cap : Nat) (k : Int) (w : World) :
  Calls Tryz.prog 67 #[.slice ao 0 cap, .int .i64 k] w fun e w' => e = .returned (.int .i64 k) ∧ w' = w := by
 go_enter Tryz.func67, Tryz.ntmps67
 go_wp2_with fail
 refine wp_loop_rounds 1 ?_
 rw [rounds_succ]
 go_wp2_with fail
 go_ret
 exact ⟨rfl, rfl⟩
theorem nk (v : Value) (xs : List bz) (bl : List Nat) (k : Int) (w : World) (h : (ab.sl ab.ax).Own w [v] xs bl) (hk : 0 ≤ k) (hk2 : k + (ab.sl ab.ax).ak xs ≤ 1000000000) :
  Calls Tryz.prog 67 #[v, .int .i64 k] w fun e w' => e = .returned (.int .i64 (k + (ab.sl ab.ax).ak xs)) ∧ (ab.sl ab.ax).Own w' [v] ((ab.sl ab.ax).cq k xs) bl ∧ Ext (fun q => q ∈ bl) w w' := by
 obtain ⟨ao, cap, rfl⟩ := aE h.reads
 by_cases hp : 0 < xs.length
 ·
  obtain ⟨b, off, rfl, hbl⟩ := ab.aI h.reads hp
  exact kP b off cap xs bl k w h hk hk2
 obtain rfl : xs = [] := List.eq_nil_of_length_eq_zero (by omega)
 refine (jH ao cap k w).mono ?_
 rintro e w' ⟨rfl, rfl⟩
 exact ⟨by rw [ji]; simp [al], h, Ext.refl _ _⟩
theorem rz {w : World} {cs : List Value} {x : bJ} {bl : List Nat} (h : ab.aJ.Own w cs x bl) : ∃ (a7 : Option Addr) (d7 : Nat) (g5 : List Nat), cs = [.int .i64 x.kind, .int .i64 x.af, .int .i64 x.src, .int .i64 x.dst, .int .i64 x.index, .int .i64 x.write.kind, .int .i64 x.write.id, .slice a7 x.write.vec.length d7, .int .i64 x.write.aa, .int .i64 x.write.seq] ∧ bl = g5 ∧ ab.ai.Own w [.int .i64 x.write.kind, .int .i64 x.write.id, .slice a7 x.write.vec.length d7, .int .i64 x.write.aa, .int .i64 x.write.seq] x.write g5 ∧ (Lit.int .i64 x.kind).wf = true ∧ (Lit.int .i64 x.af).wf = true ∧ (Lit.int .i64 x.src).wf = true ∧ (Lit.int .i64 x.dst).wf = true ∧ (Lit.int .i64 x.index).wf = true := by
 obtain ⟨hl, hn, hf⟩ := h
 obtain ⟨a7, d7, b7, rfl, hbl, w0, w1, w2, w3, w4, w5, w6, l7, w8, w9⟩ := dV.1 hl
 rw [hbl] at hn hf
 exact ⟨a7, d7, b7, rfl, hbl, ⟨cg.2 ⟨a7, d7, b7, rfl, rfl, w5, w6, l7, w8, w9⟩, hn, hf⟩, w0, w1, w2, w3, w4⟩
theorem kg {w : World} {x : bJ} {c5 : List Value} {g5 : List Nat} (O5 : ab.ai.Own w c5 x.write g5) (v0 : (Lit.int .i64 x.kind).wf = true) (v1 : (Lit.int .i64 x.af).wf = true) (v2 : (Lit.int .i64 x.src).wf = true) (v3 : (Lit.int .i64 x.dst).wf = true) (v4 : (Lit.int .i64 x.index).wf = true) (hn : (g5).Nodup) : ab.aJ.Own w ([.int .i64 x.kind] ++ ([.int .i64 x.af] ++ ([.int .i64 x.src] ++ ([.int .i64 x.dst] ++ ([.int .i64 x.index] ++ c5))))) x (g5) := by
 refine ⟨⟨[.int .i64 x.kind], [.int .i64 x.af] ++ ([.int .i64 x.src] ++ ([.int .i64 x.dst] ++ ([.int .i64 x.index] ++ c5))), [], [] ++ ([] ++ ([] ++ ([] ++ g5))), rfl, by simp, ⟨rfl, v0, rfl⟩, ⟨[.int .i64 x.af], [.int .i64 x.src] ++ ([.int .i64 x.dst] ++ ([.int .i64 x.index] ++ c5)), [], [] ++ ([] ++ ([] ++ g5)), rfl, rfl, ⟨rfl, v1, rfl⟩, ⟨[.int .i64 x.src], [.int .i64 x.dst] ++ ([.int .i64 x.index] ++ c5), [], [] ++ ([] ++ g5), rfl, rfl, ⟨rfl, v2, rfl⟩, ⟨[.int .i64 x.dst], [.int .i64 x.index] ++ c5, [], [] ++ g5, rfl, rfl, ⟨rfl, v3, rfl⟩, ⟨[.int .i64 x.index], c5, [], g5, rfl, rfl, ⟨rfl, v4, rfl⟩, O5.1⟩⟩⟩⟩⟩, hn, ?_⟩
 intro b hb o
 exact O5.2.2 b hb o
end Go.Proofs.YtecagllmonckgaaGreat
