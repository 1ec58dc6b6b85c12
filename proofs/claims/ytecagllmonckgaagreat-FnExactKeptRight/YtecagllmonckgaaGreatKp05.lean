/-
  Texts of this proof in one: EqWorld, LawXKeptRight, LayWorldResult, WrBox, InB, InC, Fault, WrFault, WrZero, ApplyPlain, SessPlain, LayIntResult, LayWritesResult, SeqPlain, LayOnceResult, AppPlain, LayNodeResult, NodePlain, LayChainResult, LayTextResult, ReadPlain, NumPlain, ChainPlain, LayNetResult, SamePlain, NetPlain, NetsPlain, WorldPlain, ToldPlainW, OwnMsg, OwnNetResult, StoreKit, NetKit, OwnWorld, OwnWorldResult, OwnChain, OwnChainResult, ChainKit, WorldOK, WorldSt, ImplNodeId, ImplEpoch, PartReads.
  Their conditions stand in their theorems.
-/
import Derived.Test.YtecagllmonckgaaGreatChecked
import Derived.Test.YtecagllmonckgaaGreatKp01
import Derived.Test.YtecagllmonckgaaGreatKp04
import Derived.Test.YtecagllmonckgaaGreatKp00
import Derived.Test.YtecagllmonckgaaGreatKp02
import Derived.Deep.RegionHeld3
import Derived.Deep.CutRange
import Derived.BigQuiet
import Derived.Deep.QuietTactic
import Derived.WalkSmall
import Derived.WalkKit
set_option maxRecDepth 100000
set_option maxHeartbeats 4000000
namespace Go.Proofs.YtecagllmonckgaaGreat
open Go.RowKit
theorem km (cs cs2 : List Value) (x : aL) (w : World) (h : ad.aS.Reads w cs x) (h2 : ad.aS.Reads w cs2 x) :
  Calls Tryz.prog 16 #[.agg cs.toArray, .agg cs2.toArray] w fun e w' => e = .returned (.bool true) ∧ Below w.heap.size w w' := by
 obtain ⟨a3, d3, a4, d4, a5, d5, a6, d6, rfl, R2, R4, R5, R6⟩ := aw h
 obtain ⟨a3z, d3z, a4z, d4z, a5z, d5z, a6z, d6z, rfl, R2z, R4z, R5z, R6z⟩ := aw h2
 clear h h2
 have e0 : (x.now != x.now) = false := by simp
 have e1 : (x.events != x.events) = false := by simp
 have e2 : (x.chain.ab != x.chain.ab) = false := by simp
 have HB0 : Below w.heap.size w ((w.alloc (.cells #[.int .i64 x.now, .int .i64 x.events, .int .i64 x.chain.ab, .slice a3 x.chain.ids.length d3, .slice a4 x.nodes.length d4, .slice a5 x.msgs.length d5, .slice a6 x.ae.length d6] 37)).alloc (.cells #[.int .i64 x.now, .int .i64 x.events, .int .i64 x.chain.ab, .slice a3z x.chain.ids.length d3z, .slice a4z x.nodes.length d4z, .slice a5z x.msgs.length d5z, .slice a6z x.ae.length d6z] 37)) := ((Below.refl _ _).alloc (Nat.le_refl _) _).alloc (by simp) _
 have bA : aj w.heap.size #[.int .i64 x.now, .int .i64 x.events, .int .i64 x.chain.ab, .slice a3 x.chain.ids.length d3, .slice a4 x.nodes.length d4, .slice a5 x.msgs.length d5, .slice a6 x.ae.length d6] 37 ((w.alloc (.cells #[.int .i64 x.now, .int .i64 x.events, .int .i64 x.chain.ab, .slice a3 x.chain.ids.length d3, .slice a4 x.nodes.length d4, .slice a5 x.msgs.length d5, .slice a6 x.ae.length d6] 37)).alloc (.cells #[.int .i64 x.now, .int .i64 x.events, .int .i64 x.chain.ab, .slice a3z x.chain.ids.length d3z, .slice a4z x.nodes.length d4z, .slice a5z x.msgs.length d5z, .slice a6z x.ae.length d6z] 37)) w.heap.size := (aI (Nat.le_refl _)).grow _
 have bC : aj w.heap.size #[.int .i64 x.now, .int .i64 x.events, .int .i64 x.chain.ab, .slice a3z x.chain.ids.length d3z, .slice a4z x.nodes.length d4z, .slice a5z x.msgs.length d5z, .slice a6z x.ae.length d6z] 37 ((w.alloc (.cells #[.int .i64 x.now, .int .i64 x.events, .int .i64 x.chain.ab, .slice a3 x.chain.ids.length d3, .slice a4 x.nodes.length d4, .slice a5 x.msgs.length d5, .slice a6 x.ae.length d6] 37)).alloc (.cells #[.int .i64 x.now, .int .i64 x.events, .int .i64 x.chain.ab, .slice a3z x.chain.ids.length d3z, .slice a4z x.nodes.length d4z, .slice a5z x.msgs.length d5z, .slice a6z x.ae.length d6z] 37)) (w.heap.size + 1) := aW (by omega) (by simp)
 go_enter Tryz.func16, Tryz.ntmps16
 go_wp2_with fail
 generalize (w.alloc (.cells #[.int .i64 x.now, .int .i64 x.events, .int .i64 x.chain.ab, .slice a3 x.chain.ids.length d3, .slice a4 x.nodes.length d4, .slice a5 x.msgs.length d5, .slice a6 x.ae.length d6] 37)).alloc (.cells #[.int .i64 x.now, .int .i64 x.events, .int .i64 x.chain.ab, .slice a3z x.chain.ids.length d3z, .slice a4z x.nodes.length d4z, .slice a5z x.msgs.length d5z, .slice a6z x.ae.length d6z] 37) = W0 at *
 replace R2 := R2.af HB0
 replace R2z := R2z.af HB0
 replace R4 := R4.af HB0
 replace R4z := R4z.af HB0
 replace R5 := R5.af HB0
 replace R5z := R5z.af HB0
 replace R6 := R6.af HB0
 replace R6z := R6z.af HB0
 refine (jY _ _ x.chain _ R2 R2z).mono ?_
 rintro e w1 ⟨rfl, hb⟩
 replace bA := bA.ar hb
 replace bC := bC.ar hb
 replace HB0 := HB0.trans (hb.mono HB0.size)
 replace R4 := R4.af hb
 replace R4z := R4z.af hb
 replace R5 := R5.af hb
 replace R5z := R5z.af hb
 replace R6 := R6.af hb
 replace R6z := R6z.af hb
 have p4 := bA.at 4 _ rfl
 have q4 := bC.at 4 _ rfl
 have p5 := bA.at 5 _ rfl
 have q5 := bC.at 5 _ rfl
 have p6 := bA.at 6 _ rfl
 have q6 := bC.at 6 _ rfl
 clear hb
 have HB := yh HB0
 have HA := yh bA
 have HC := yh bC
 clear HB0 bA bC
 have S4 := yh R4
 have S4z := yh R4z
 clear R4 R4z
 have S5 := yh R5
 have S5z := yh R5z
 clear R5 R5z
 have S6 := yh R6
 have S6z := yh R6z
 clear R6 R6z
 go_wp2_with fail
 have HB0 := uh HB
 have bA := uh HA
 have bC := uh HC
 clear HB HA HC
 clear p4 q4
 clear p5 q5
 clear p6 q6
 have R4 := uh S4
 have R4z := uh S4z
 clear S4 S4z
 have R5 := uh S5
 have R5z := uh S5z
 clear S5 S5z
 have R6 := uh S6
 have R6z := uh S6z
 clear S6 S6z
 refine (ks _ _ x.nodes _ R4 R4z).mono ?_
 rintro e w2 ⟨rfl, hb⟩
 replace bA := bA.ar hb
 replace bC := bC.ar hb
 replace HB0 := HB0.trans (hb.mono HB0.size)
 replace R5 := R5.af hb
 replace R5z := R5z.af hb
 replace R6 := R6.af hb
 replace R6z := R6z.af hb
 have p5 := bA.at 5 _ rfl
 have q5 := bC.at 5 _ rfl
 have p6 := bA.at 6 _ rfl
 have q6 := bC.at 6 _ rfl
 clear hb
 have HB := yh HB0
 have HA := yh bA
 have HC := yh bC
 clear HB0 bA bC
 have S5 := yh R5
 have S5z := yh R5z
 clear R5 R5z
 have S6 := yh R6
 have S6z := yh R6z
 clear R6 R6z
 go_wp2_with fail
 have HB0 := uh HB
 have bA := uh HA
 have bC := uh HC
 clear HB HA HC
 clear p5 q5
 clear p6 q6
 have R5 := uh S5
 have R5z := uh S5z
 clear S5 S5z
 have R6 := uh S6
 have R6z := uh S6z
 clear S6 S6z
 refine (kA _ _ x.msgs _ R5 R5z).mono ?_
 rintro e w3 ⟨rfl, hb⟩
 replace bA := bA.ar hb
 replace bC := bC.ar hb
 replace HB0 := HB0.trans (hb.mono HB0.size)
 replace R6 := R6.af hb
 replace R6z := R6z.af hb
 have p6 := bA.at 6 _ rfl
 have q6 := bC.at 6 _ rfl
 clear hb
 have HB := yh HB0
 have HA := yh bA
 have HC := yh bC
 clear HB0 bA bC
 have S6 := yh R6
 have S6z := yh R6z
 clear R6 R6z
 go_wp2_with fail
 have HB0 := uh HB
 have bA := uh HA
 have bC := uh HC
 clear HB HA HC
 clear p6 q6
 have R6 := uh S6
 have R6z := uh S6z
 clear S6 S6z
 refine (jC _ _ x.ae _ R6 R6z).mono ?_
 rintro e w4 ⟨rfl, hb⟩
 replace bA := bA.ar hb
 replace bC := bC.ar hb
 replace HB0 := HB0.trans (hb.mono HB0.size)
 clear hb
 have HB := yh HB0
 have HA := yh bA
 have HC := yh bC
 clear HB0 bA bC
 go_wp2_with fail
 go_ret
 exact ⟨rfl, uh HB⟩
theorem fs (u0 : List Value) (x0 : aL) (y : Bool) (w : World) (A0 : ad.aS.Reads w u0 x0) (NS : ad.aS.sz x0 ≤ 1048576)
  (hS : ∀ (W : World) (u0 : List Value), ad.aS.Reads W u0 x0 → Calls Tryz.prog 34 #[.agg u0.toArray] W fun e w' => e = .returned (.bool y) ∧ Below W.heap.size W w')
  (hI : ∀ (W : World) (u0 : List Value), ad.aS.Reads W u0 x0 → Calls Tryz.prog 35 #[.agg u0.toArray] W fun e w' => e = .returned (.bool y) ∧ Below W.heap.size W w') :
  Calls Tryz.prog 8 #[.agg u0.toArray] w fun e w' => e = .returned (.bool true) ∧ Below w.heap.size w w' := by
 obtain ⟨a3p0, d3p0, a4p0, d4p0, a5p0, d5p0, a6p0, d6p0, rfl, -, -, -, -⟩ := aw A0
 have HS := yh hS
 have HI := yh hI
 clear hS hI
 have HA0 := yh A0.cF
 clear A0
 have N0 : ad.aS.sz x0 ≤ 1048576 := by omega
 have HN0 := yh N0
 clear N0
 have HNS := yh NS
 clear NS
 have HB := yh (Below.refl w.heap.size w)
 go_enter Tryz.func8, Tryz.ntmps8
 go_wp2_with fail
 have nb : Below w.heap.size w (w.alloc (.cells #[.int .i64 x0.now, .int .i64 x0.events, .int .i64 x0.chain.ab, .slice a3p0 x0.chain.ids.length d3p0, .slice a4p0 x0.nodes.length d4p0, .slice a5p0 x0.msgs.length d5p0, .slice a6p0 x0.ae.length d6p0] 29)) := (Below.refl w.heap.size w).alloc (Nat.le_refl _) _
 have P0 : Hid (aj w.heap.size #[.int .i64 x0.now, .int .i64 x0.events, .int .i64 x0.chain.ab, .slice a3p0 x0.chain.ids.length d3p0, .slice a4p0 x0.nodes.length d4p0, .slice a5p0 x0.msgs.length d5p0, .slice a6p0 x0.ae.length d6p0] 29 (w.alloc (.cells #[.int .i64 x0.now, .int .i64 x0.events, .int .i64 x0.chain.ab, .slice a3p0 x0.chain.ids.length d3p0, .slice a4p0 x0.nodes.length d4p0, .slice a5p0 x0.msgs.length d5p0, .slice a6p0 x0.ae.length d6p0] 29)) (w.heap.size)) := aW (by omega) (by simp)
 generalize haw1 : (w.alloc (.cells #[.int .i64 x0.now, .int .i64 x0.events, .int .i64 x0.chain.ab, .slice a3p0 x0.chain.ids.length d3p0, .slice a4p0 x0.nodes.length d4p0, .slice a5p0 x0.msgs.length d5p0, .slice a6p0 x0.ae.length d6p0] 29)) = w1 at *
 have Gw1 : w.heap.size + 1 ≤ w1.heap.size := by rw [← haw1]; simp
 clear haw1
 replace HA0 := yh ((uh HA0).af nb)
 have Zw1 : w.heap.size ≤ w1.heap.size := nb.size
 replace HB := yh ((uh HB).trans (nb.mono (by omega)))
 clear nb
 have hns := uh HNS
 refine (gR _ x0 (1048576) w1 (uh HA0).reads (by omega)).mono ?_
 rintro e w2 ⟨rfl, hb⟩
 replace HA0 := yh ((uh HA0).af hb)
 replace P0 := yh ((uh P0).ar hb)
 have Zw2 : w1.heap.size ≤ w2.heap.size := hb.size
 replace HB := yh ((uh HB).trans (hb.mono (by omega)))
 clear hb
 rw [a8 (by omega)]
 have hq0 : decide (((1048576 - ad.aS.sz x0 : Nat) : Int) < 0) = false := by simp
 clear hns
 have l0P0 := (uh P0).at 0 _ rfl
 have l1P0 := (uh P0).at 1 _ rfl
 have l2P0 := (uh P0).at 2 _ rfl
 have l3P0 := (uh P0).at 3 _ rfl
 have l4P0 := (uh P0).at 4 _ rfl
 have l5P0 := (uh P0).at 5 _ rfl
 have l6P0 := (uh P0).at 6 _ rfl
 have ltP0 : w.heap.size < w2.heap.size := by omega
 simp only [ga, gb, gc] at l0P0 l1P0 l2P0 l3P0 l4P0 l5P0 l6P0
 go_wp2_with fail
 clear l0P0 l1P0 l2P0 l3P0 l4P0 l5P0 l6P0 ltP0
 clear hq0
 refine (ft _ x0 w2 (uh HA0).reads (uh HN0)).mono ?_
 rintro e w3 ⟨vc0, rfl, O, hb⟩
 replace HA0 := yh ((uh HA0).af hb)
 replace P0 := yh ((uh P0).ar hb)
 have Zw3 : w2.heap.size ≤ w3.heap.size := hb.size
 replace HB := yh ((uh HB).trans (hb.mono (by omega)))
 clear hb
 obtain ⟨a3c0, d3c0, a4c0, d4c0, a5c0, d5c0, a6c0, d6c0, rfl, -, -, -, -⟩ := aw O.reads
 have Hc0 := yh O
 clear O
 have l0P0 := (uh P0).at 0 _ rfl
 have l1P0 := (uh P0).at 1 _ rfl
 have l2P0 := (uh P0).at 2 _ rfl
 have l3P0 := (uh P0).at 3 _ rfl
 have l4P0 := (uh P0).at 4 _ rfl
 have l5P0 := (uh P0).at 5 _ rfl
 have l6P0 := (uh P0).at 6 _ rfl
 have ltP0 : w.heap.size < w3.heap.size := by omega
 simp only [ga, gb, gc] at l0P0 l1P0 l2P0 l3P0 l4P0 l5P0 l6P0
 go_wp2_with fail
 clear l0P0 l1P0 l2P0 l3P0 l4P0 l5P0 l6P0 ltP0
 refine (uh HS w3 _ (uh Hc0).reads).mono ?_
 rintro e w4 ⟨rfl, hb⟩
 replace HA0 := yh ((uh HA0).af hb)
 replace P0 := yh ((uh P0).ar hb)
 replace Hc0 := yh ((uh Hc0).af hb)
 have Zw4 : w3.heap.size ≤ w4.heap.size := hb.size
 replace HB := yh ((uh HB).trans (hb.mono (by omega)))
 clear hb
 clear Hc0
 have l0P0 := (uh P0).at 0 _ rfl
 have l1P0 := (uh P0).at 1 _ rfl
 have l2P0 := (uh P0).at 2 _ rfl
 have l3P0 := (uh P0).at 3 _ rfl
 have l4P0 := (uh P0).at 4 _ rfl
 have l5P0 := (uh P0).at 5 _ rfl
 have l6P0 := (uh P0).at 6 _ rfl
 have ltP0 : w.heap.size < w4.heap.size := by omega
 simp only [ga, gb, gc] at l0P0 l1P0 l2P0 l3P0 l4P0 l5P0 l6P0
 go_wp2_with fail
 clear l0P0 l1P0 l2P0 l3P0 l4P0 l5P0 l6P0 ltP0
 refine (ft _ x0 w4 (uh HA0).reads (uh HN0)).mono ?_
 rintro e w5 ⟨vx0, rfl, O, hb⟩
 replace HA0 := yh ((uh HA0).af hb)
 replace P0 := yh ((uh P0).ar hb)
 have Zw5 : w4.heap.size ≤ w5.heap.size := hb.size
 replace HB := yh ((uh HB).trans (hb.mono (by omega)))
 clear hb
 obtain ⟨a3x0, d3x0, a4x0, d4x0, a5x0, d5x0, a6x0, d6x0, rfl, -, -, -, -⟩ := aw O.reads
 have Hx0 := yh O
 clear O
 have nb : Below w5.heap.size w5 (w5.alloc (.cells #[.int .i64 x0.now, .int .i64 x0.events, .int .i64 x0.chain.ab, .slice a3x0 x0.chain.ids.length d3x0, .slice a4x0 x0.nodes.length d4x0, .slice a5x0 x0.msgs.length d5x0, .slice a6x0 x0.ae.length d6x0] 37)) := (Below.refl _ _).alloc (Nat.le_refl _) _
 have X0 : Hid (aj w5.heap.size #[.int .i64 x0.now, .int .i64 x0.events, .int .i64 x0.chain.ab, .slice a3x0 x0.chain.ids.length d3x0, .slice a4x0 x0.nodes.length d4x0, .slice a5x0 x0.msgs.length d5x0, .slice a6x0 x0.ae.length d6x0] 37 (w5.alloc (.cells #[.int .i64 x0.now, .int .i64 x0.events, .int .i64 x0.chain.ab, .slice a3x0 x0.chain.ids.length d3x0, .slice a4x0 x0.nodes.length d4x0, .slice a5x0 x0.msgs.length d5x0, .slice a6x0 x0.ae.length d6x0] 37)) w5.heap.size) := aI (Nat.le_refl _)
 have l0P0 := (uh P0).at 0 _ rfl
 have l1P0 := (uh P0).at 1 _ rfl
 have l2P0 := (uh P0).at 2 _ rfl
 have l3P0 := (uh P0).at 3 _ rfl
 have l4P0 := (uh P0).at 4 _ rfl
 have l5P0 := (uh P0).at 5 _ rfl
 have l6P0 := (uh P0).at 6 _ rfl
 have ltP0 : w.heap.size < w5.heap.size := by omega
 simp only [ga, gb, gc] at l0P0 l1P0 l2P0 l3P0 l4P0 l5P0 l6P0
 go_wp2_with fail
 clear l0P0 l1P0 l2P0 l3P0 l4P0 l5P0 l6P0 ltP0
 generalize haw6 : w5.alloc (.cells #[.int .i64 x0.now, .int .i64 x0.events, .int .i64 x0.chain.ab, .slice a3x0 x0.chain.ids.length d3x0, .slice a4x0 x0.nodes.length d4x0, .slice a5x0 x0.msgs.length d5x0, .slice a6x0 x0.ae.length d6x0] 37) = w6 at *
 have Gw6 : w5.heap.size < w6.heap.size := by rw [← haw6]; simp
 clear haw6
 replace HA0 := yh ((uh HA0).af nb)
 replace P0 := yh ((uh P0).ar nb)
 replace Hx0 := yh ((uh Hx0).af nb)
 have Zw6 : w5.heap.size ≤ w6.heap.size := nb.size
 replace HB := yh ((uh HB).trans (nb.mono (by omega)))
 clear nb
 refine (uh HI w6 _ (uh Hx0).reads).mono ?_
 rintro e w7 ⟨rfl, hb⟩
 replace HA0 := yh ((uh HA0).af hb)
 replace P0 := yh ((uh P0).ar hb)
 replace Hx0 := yh ((uh Hx0).af hb)
 replace X0 := yh ((uh X0).ar hb)
 have Zw7 : w6.heap.size ≤ w7.heap.size := hb.size
 replace HB := yh ((uh HB).trans (hb.mono (by omega)))
 clear hb
 have hne : (y != y) = false := by simp
 have l0P0 := (uh P0).at 0 _ rfl
 have l1P0 := (uh P0).at 1 _ rfl
 have l2P0 := (uh P0).at 2 _ rfl
 have l3P0 := (uh P0).at 3 _ rfl
 have l4P0 := (uh P0).at 4 _ rfl
 have l5P0 := (uh P0).at 5 _ rfl
 have l6P0 := (uh P0).at 6 _ rfl
 have ltP0 : w.heap.size < w7.heap.size := by omega
 have l0X0 := (uh X0).at 0 _ rfl
 have l1X0 := (uh X0).at 1 _ rfl
 have l2X0 := (uh X0).at 2 _ rfl
 have l3X0 := (uh X0).at 3 _ rfl
 have l4X0 := (uh X0).at 4 _ rfl
 have l5X0 := (uh X0).at 5 _ rfl
 have l6X0 := (uh X0).at 6 _ rfl
 have ltX0 : w5.heap.size < w7.heap.size := by omega
 simp only [ga, gb, gc] at l0P0 l1P0 l2P0 l3P0 l4P0 l5P0 l6P0 l0X0 l1X0 l2X0 l3X0 l4X0 l5X0 l6X0
 go_wp2_with fail
 clear l0P0 l1P0 l2P0 l3P0 l4P0 l5P0 l6P0 ltP0 l0X0 l1X0 l2X0 l3X0 l4X0 l5X0 l6X0 ltX0
 have l0P0 := (uh P0).at 0 _ rfl
 have l1P0 := (uh P0).at 1 _ rfl
 have l2P0 := (uh P0).at 2 _ rfl
 have l3P0 := (uh P0).at 3 _ rfl
 have l4P0 := (uh P0).at 4 _ rfl
 have l5P0 := (uh P0).at 5 _ rfl
 have l6P0 := (uh P0).at 6 _ rfl
 have ltP0 : w.heap.size < w7.heap.size := by omega
 have l0X0 := (uh X0).at 0 _ rfl
 have l1X0 := (uh X0).at 1 _ rfl
 have l2X0 := (uh X0).at 2 _ rfl
 have l3X0 := (uh X0).at 3 _ rfl
 have l4X0 := (uh X0).at 4 _ rfl
 have l5X0 := (uh X0).at 5 _ rfl
 have l6X0 := (uh X0).at 6 _ rfl
 have ltX0 : w5.heap.size < w7.heap.size := by omega
 simp only [ga, gb, gc] at l0P0 l1P0 l2P0 l3P0 l4P0 l5P0 l6P0 l0X0 l1X0 l2X0 l3X0 l4X0 l5X0 l6X0
 refine wZz (fun w' => Below w7.heap.size w7 w') (Below.refl _ _).drew (fun zq => ?_)
 generalize w7.drew = wD at zq ⊢
 refine tkJ 0 (v := ?vs00) ?hs00 zq ?rs00
 case hs00 =>
  intro wS hSw
  have y0P0 := cZ hSw ltP0 l0P0
  have y1P0 := cZ hSw ltP0 l1P0
  have y2P0 := cZ hSw ltP0 l2P0
  have y3P0 := cZ hSw ltP0 l3P0
  have y4P0 := cZ hSw ltP0 l4P0
  have y5P0 := cZ hSw ltP0 l5P0
  have y6P0 := cZ hSw ltP0 l6P0
  have y0X0 := cZ hSw ltX0 l0X0
  have y1X0 := cZ hSw ltX0 l1X0
  have y2X0 := cZ hSw ltX0 l2X0
  have y3X0 := cZ hSw ltX0 l3X0
  have y4X0 := cZ hSw ltX0 l4X0
  have y5X0 := cZ hSw ltX0 l5X0
  have y6X0 := cZ hSw ltX0 l6X0
  clear hSw
  exact fZ
 refine tkJ 1 (v := ?vs01) ?hs01 zq ?rs01
 case hs01 =>
  intro wS hSw
  have y0P0 := cZ hSw ltP0 l0P0
  have y1P0 := cZ hSw ltP0 l1P0
  have y2P0 := cZ hSw ltP0 l2P0
  have y3P0 := cZ hSw ltP0 l3P0
  have y4P0 := cZ hSw ltP0 l4P0
  have y5P0 := cZ hSw ltP0 l5P0
  have y6P0 := cZ hSw ltP0 l6P0
  have y0X0 := cZ hSw ltX0 l0X0
  have y1X0 := cZ hSw ltX0 l1X0
  have y2X0 := cZ hSw ltX0 l2X0
  have y3X0 := cZ hSw ltX0 l3X0
  have y4X0 := cZ hSw ltX0 l4X0
  have y5X0 := cZ hSw ltX0 l5X0
  have y6X0 := cZ hSw ltX0 l6X0
  clear hSw
  exact fZ
 refine rdH 2 (fun K hK => ?_)
 go_simp
 go_at_call 13
 refine (ft _ x0 _ ((uh HA0).reads.af zq) (uh HN0)).mono ?_
 rintro e wT ⟨vT, rfl, OT, hbw⟩
 have RT := OT.reads
 obtain ⟨a3T, d3T, a4T, d4T, a5T, d5T, a6T, d6T, rfl, -, -, -, -⟩ := aw RT
 try go_wp2_with fail
 refine hK.out _ _ (zq.trans (hbw.mono zq.size)) (fun zq => ?_)
 clear hK K
 try simp only [Act.put, pz, py, px]
 refine rdH 3 (fun K hK => ?_)
 go_simp
 go_at_call 16
 refine (km _ _ x0 _ ((uh Hx0).reads.af zq) RT).mono ?_
 rintro e wU0 ⟨rfl, hbw⟩
 try go_wp2_with fail
 refine hK.out _ _ (zq.trans (hbw.mono zq.size)) (fun zq => ?_)
 clear hK K
 try simp only [Act.put, pz, py, px]
 refine tkH 4 zq ?_
 refine dZ ?_
 clear l0P0 l1P0 l2P0 l3P0 l4P0 l5P0 l6P0 ltP0 l0X0 l1X0 l2X0 l3X0 l4X0 l5X0 l6X0 ltX0 OT RT
 have hb : Below w7.heap.size w7 wU0 := zq
 clear zq hbw
 replace HA0 := yh ((uh HA0).af hb)
 replace P0 := yh ((uh P0).ar hb)
 replace Hx0 := yh ((uh Hx0).af hb)
 replace X0 := yh ((uh X0).ar hb)
 have ZwU0 : w7.heap.size ≤ wU0.heap.size := hb.size
 replace HB := yh ((uh HB).trans (hb.mono (by omega)))
 clear hb
 have l0P0 := (uh P0).at 0 _ rfl
 have l1P0 := (uh P0).at 1 _ rfl
 have l2P0 := (uh P0).at 2 _ rfl
 have l3P0 := (uh P0).at 3 _ rfl
 have l4P0 := (uh P0).at 4 _ rfl
 have l5P0 := (uh P0).at 5 _ rfl
 have l6P0 := (uh P0).at 6 _ rfl
 have ltP0 : w.heap.size < wU0.heap.size := by omega
 have l0X0 := (uh X0).at 0 _ rfl
 have l1X0 := (uh X0).at 1 _ rfl
 have l2X0 := (uh X0).at 2 _ rfl
 have l3X0 := (uh X0).at 3 _ rfl
 have l4X0 := (uh X0).at 4 _ rfl
 have l5X0 := (uh X0).at 5 _ rfl
 have l6X0 := (uh X0).at 6 _ rfl
 have ltX0 : w5.heap.size < wU0.heap.size := by omega
 simp only [ga, gb, gc] at l0P0 l1P0 l2P0 l3P0 l4P0 l5P0 l6P0 l0X0 l1X0 l2X0 l3X0 l4X0 l5X0 l6X0
 go_wp2_with fail
 clear l0P0 l1P0 l2P0 l3P0 l4P0 l5P0 l6P0 ltP0 l0X0 l1X0 l2X0 l3X0 l4X0 l5X0 l6X0 ltX0
 go_ret
 exact ⟨rfl, uh HB⟩
theorem dY (u0 : List Value) (x0 : aL) (w : World) (A0 : ad.aS.Reads w u0 x0) (NS : 1048576 < ad.aS.sz x0) :
  Calls Tryz.prog 8 #[.agg u0.toArray] w fun e w' => e = .returned (.bool true) ∧ Below w.heap.size w w' := by
 obtain ⟨a3p0, d3p0, a4p0, d4p0, a5p0, d5p0, a6p0, d6p0, rfl, -, -, -, -⟩ := aw A0
 have HA0 := yh A0.cF
 clear A0
 have HB := yh (Below.refl w.heap.size w)
 go_enter Tryz.func8, Tryz.ntmps8
 go_wp2_with fail
 have nb : Below w.heap.size w (w.alloc (.cells #[.int .i64 x0.now, .int .i64 x0.events, .int .i64 x0.chain.ab, .slice a3p0 x0.chain.ids.length d3p0, .slice a4p0 x0.nodes.length d4p0, .slice a5p0 x0.msgs.length d5p0, .slice a6p0 x0.ae.length d6p0] 29)) := (Below.refl w.heap.size w).alloc (Nat.le_refl _) _
 have P0 : Hid (aj w.heap.size #[.int .i64 x0.now, .int .i64 x0.events, .int .i64 x0.chain.ab, .slice a3p0 x0.chain.ids.length d3p0, .slice a4p0 x0.nodes.length d4p0, .slice a5p0 x0.msgs.length d5p0, .slice a6p0 x0.ae.length d6p0] 29 (w.alloc (.cells #[.int .i64 x0.now, .int .i64 x0.events, .int .i64 x0.chain.ab, .slice a3p0 x0.chain.ids.length d3p0, .slice a4p0 x0.nodes.length d4p0, .slice a5p0 x0.msgs.length d5p0, .slice a6p0 x0.ae.length d6p0] 29)) (w.heap.size)) := aW (by omega) (by simp)
 generalize haw1 : (w.alloc (.cells #[.int .i64 x0.now, .int .i64 x0.events, .int .i64 x0.chain.ab, .slice a3p0 x0.chain.ids.length d3p0, .slice a4p0 x0.nodes.length d4p0, .slice a5p0 x0.msgs.length d5p0, .slice a6p0 x0.ae.length d6p0] 29)) = w1 at *
 have Gw1 : w.heap.size + 1 ≤ w1.heap.size := by rw [← haw1]; simp
 clear haw1
 replace HA0 := yh ((uh HA0).af nb)
 have Zw1 : w.heap.size ≤ w1.heap.size := nb.size
 replace HB := yh ((uh HB).trans (nb.mono (by omega)))
 clear nb
 refine (gR _ x0 (1048576) w1 (uh HA0).reads (by omega)).mono ?_
 rintro e w2 ⟨rfl, hb⟩
 replace HA0 := yh ((uh HA0).af hb)
 replace P0 := yh ((uh P0).ar hb)
 have Zw2 : w1.heap.size ≤ w2.heap.size := hb.size
 replace HB := yh ((uh HB).trans (hb.mono (by omega)))
 clear hb
 rw [aE (by omega)]
 go_wp2_with fail
 go_ret
 exact ⟨rfl, uh HB⟩
theorem cM (v lo hi : Int) (w : World) :
  Calls Tryz.prog 102 #[.int .i64 v, .int .i64 lo, .int .i64 hi] w fun e w' => e = .returned (.bool (decide (lo ≤ v) && decide (v ≤ hi))) ∧ w' = w := by
 by_cases h1 : lo ≤ v
 ·
  have d1 : decide (lo ≤ v) = true := by simpa using h1
  rw [d1]
  cases d2 : decide (v ≤ hi) <;>
  ·
   go_enter Tryz.func102, Tryz.ntmps102
   go_wp2_with fail
   go_ret
   exact ⟨rfl, rfl⟩
 have d1 : decide (lo ≤ v) = false := by simpa using h1
 rw [d1]
 go_enter Tryz.func102, Tryz.ntmps102
 go_wp2_with fail
 go_ret
 exact ⟨rfl, rfl⟩
theorem lv (x : Int) (w : World) : Calls Tryz.prog 47 #[.int .i64 x] w fun e w' => e = .returned (.bool (decide (1 ≤ x) && decide (x ≤ 999))) ∧ w' = w := by
 go_enter Tryz.func47, Tryz.ntmps47
 go_wp2_with fail
 refine (cM x 1 999 _).mono ?_
 rintro e w1 ⟨rfl, rfl⟩
 go_wp2_with fail
 go_ret
 exact ⟨rfl, rfl⟩
theorem cS (x : Int) (w : World) : Calls Tryz.prog 274 #[.int .i64 x] w fun e w' => e = .returned (.bool (decide (1 ≤ x) && decide (x ≤ 9))) ∧ w' = w := by
 go_enter Tryz.func274, Tryz.ntmps274
 go_wp2_with fail
 refine (cM x 1 9 _).mono ?_
 rintro e w1 ⟨rfl, rfl⟩
 go_wp2_with fail
 go_ret
 exact ⟨rfl, rfl⟩
theorem fB (ao : Option Addr) (n cap : Nat) (w : World) (h : n ≠ 3) :
  Calls Tryz.prog 202 #[.slice ao n cap] w fun e w' => e = .returned (.int .i64 1) ∧ w' = w := by
 have h3 : ((n : Int) != 3) = true := by rw [bne_iff_ne]; omega
 go_enter Tryz.func202, Tryz.ntmps202
 go_wp2
 go_ret
 exact ⟨rfl, rfl⟩
theorem eK (b off cap : Nat) (zs : List Int) (w : World) (h : zs.length = 3) (hc : ∀ j, j < 3 → w.cell? ⟨b, off + j, none⟩ = some (.int .i64 (zs.getD j 0))) :
  Calls Tryz.prog 202 #[.slice (some ⟨b, off, none⟩) 3 cap] w fun e w' => e = .returned (.int .i64 (aJ zs)) ∧ w' = w := by
 go_enter Tryz.func202, Tryz.ntmps202
 go_wp2
 go_loop [10] (fun i => ∃ k : Nat, k ≤ 3 ∧ i = .int .i64 k ∧ ∀ j, j < k → ct (zs.getD j 0) = true) (fun i => 3 - (intOf i).toNat)
 case atStart => exact ⟨0, Nat.zero_le _, rfl, fun j hj => by omega⟩
 case round =>
  obtain ⟨k, hk, rfl, hg⟩ := hrel
  have HG : Hid (∀ j, j < k → ct (zs.getD j 0) = true) := hg
  have HL : Hid (zs.length = 3) := h
  clear hg h
  by_cases hlt : k < 3
  ·
   have hcx : w.cell? ⟨b, off + k, none⟩ = some (.int .i64 (zs.getD k 0)) := hc k hlt
   obtain ⟨z, hz⟩ : ∃ z, z = zs.getD k 0 := ⟨_, rfl⟩
   rw [← hz] at hcx
   have HZ : Hid (z = zs.getD k 0) := hz
   clear hz hc
   cases hp : ct z with
   | true =>
    have hb := dD hp
    have HP : Hid (ct z = true) := hp
    clear hp
    obtain ⟨hb1, hb2⟩ := hb
    go_wp2
    go_round
    case rel =>
     refine ⟨k + 1, by omega, by go_num, fun j hj => ?_⟩
     by_cases hjk : j < k
     ·
      exact HG.out j hjk
     rw [show j = k by omega, ← HZ.out]; exact HP.out
    case measure => simp [intOf]; omega
   | false =>
    have HV : Hid (aJ zs = 3) := dM HL.out k hlt (by rw [← HZ.out]; exact hp)
    have hb := eB hp
    clear hp
    rcases hb with hb | hb
    ·
     go_wp2
     go_ret
     exact ⟨by rw [HV.out]; rfl, rfl⟩
    have hb1 : -1000 ≤ z := by omega
    have hd : decide (z ≤ 1000) = false := by simp; omega
    go_wp2
    go_ret
    exact ⟨by rw [HV.out]; rfl, rfl⟩
  have HV : Hid (aJ zs = 0) := eI HL.out (fun j hj => HG.out j (by omega))
  go_wp2
  go_ret
  exact ⟨by rw [HV.out]; rfl, rfl⟩
theorem fe (ao : Option Addr) (n cap : Nat) (w : World) (h : n ≠ 3) :
  Calls Tryz.prog 74 #[.slice ao n cap] w fun e w' => e = .returned (.int .i64 1) ∧ w' = w := by
 have h3 : ((n : Int) != 3) = true := by rw [bne_iff_ne]; omega
 go_enter Tryz.func74, Tryz.ntmps74
 go_wp2
 go_ret
 exact ⟨rfl, rfl⟩
theorem ee (b off cap : Nat) (zs : List Int) (w : World) (h : zs.length = 3) (hc : ∀ j, j < 3 → w.cell? ⟨b, off + j, none⟩ = some (.int .i64 (zs.getD j 0))) :
  Calls Tryz.prog 74 #[.slice (some ⟨b, off, none⟩) 3 cap] w fun e w' => e = .returned (.int .i64 (aJ zs)) ∧ w' = w := by
 go_enter Tryz.func74, Tryz.ntmps74
 go_wp2
 go_loop [3] (fun i => ∃ k : Nat, k ≤ 3 ∧ i = .int .i64 k ∧ ∀ j, j < k → ct (zs.getD j 0) = true) (fun i => 3 - (intOf i).toNat)
 case atStart => exact ⟨0, Nat.zero_le _, rfl, fun j hj => by omega⟩
 case round =>
  obtain ⟨k, hk, rfl, hg⟩ := hrel
  have HG : Hid (∀ j, j < k → ct (zs.getD j 0) = true) := hg
  have HL : Hid (zs.length = 3) := h
  clear hg h
  by_cases hlt : k < 3
  ·
   have hcx : w.cell? ⟨b, off + k, none⟩ = some (.int .i64 (zs.getD k 0)) := hc k hlt
   obtain ⟨z, hz⟩ : ∃ z, z = zs.getD k 0 := ⟨_, rfl⟩
   rw [← hz] at hcx
   have HZ : Hid (z = zs.getD k 0) := hz
   clear hz hc
   cases hp : ct z with
   | true =>
    have hb := dD hp
    have HP : Hid (ct z = true) := hp
    clear hp
    obtain ⟨hb1, hb2⟩ := hb
    go_wp2
    go_round
    case rel =>
     refine ⟨k + 1, by omega, by go_num, fun j hj => ?_⟩
     by_cases hjk : j < k
     ·
      exact HG.out j hjk
     rw [show j = k by omega, ← HZ.out]; exact HP.out
    case measure => simp [intOf]; omega
   | false =>
    have HV : Hid (aJ zs = 3) := dM HL.out k hlt (by rw [← HZ.out]; exact hp)
    have hb := eB hp
    clear hp
    rcases hb with hb | hb
    ·
     go_wp2
     go_ret
     exact ⟨by rw [HV.out]; rfl, rfl⟩
    have hb1 : -1000 ≤ z := by omega
    have hd : decide (z ≤ 1000) = false := by simp; omega
    go_wp2
    go_ret
    exact ⟨by rw [HV.out]; rfl, rfl⟩
  have HV : Hid (aJ zs = 0) := eI HL.out (fun j hj => HG.out j (by omega))
  go_wp2
  go_ret
  exact ⟨by rw [HV.out]; rfl, rfl⟩
theorem fO (v : Value) (zs : List Int) (w : World) (h : bj w v zs) :
  Calls Tryz.prog 202 #[v] w fun e w' => e = .returned (.int .i64 (aJ zs)) ∧ w' = w := by
 obtain ⟨ao, cap, rfl, hwf, hc⟩ := h
 by_cases h3 : zs.length = 3
 ·
  obtain ⟨b, off, rfl, hc1⟩ := hc (by omega)
  rw [h3] at hc1 ⊢
  exact eK b off cap zs w h3 hc1
 rw [dV h3]
 exact fB ao zs.length cap w h3
theorem ij (v : Value) (zs : List Int) (w : World) (h : bj w v zs) :
  Calls Tryz.prog 74 #[v] w fun e w' => e = .returned (.int .i64 (aJ zs)) ∧ w' = w := by
 obtain ⟨ao, cap, rfl, hwf, hc⟩ := h
 by_cases h3 : zs.length = 3
 ·
  obtain ⟨b, off, rfl, hc1⟩ := hc (by omega)
  rw [h3] at hc1 ⊢
  exact ee b off cap zs w h3 hc1
 rw [dV h3]
 exact fe ao zs.length cap w h3
def ck (k : Int) (n : Nat) : Bool := (decide (1 ≤ k) && decide (k ≤ 2)) && !(k == 2 && decide (0 < (n : Int)))
def bO (i s q : Int) : Bool := (decide (1 ≤ i) && decide (i ≤ 999)) && ((decide (1 ≤ s) && decide (s ≤ 9)) && (decide (1 ≤ q) && decide (q ≤ 999)))
def al (k i : Int) (zs : List Int) (s q : Int) : Int :=
 if ck k zs.length then (if bO i s q then (if k = 1 then aJ zs else 0) else 3) else 1
def ke (w : World) (b o : Nat) (k i : Int) (v : Value) (s q : Int) : Prop :=
 w.cell? ⟨b, o, none⟩ = some (.int .i64 k) ∧ w.cell? ⟨b, o + 1, none⟩ = some (.int .i64 i) ∧ w.cell? ⟨b, o + 2, none⟩ = some v ∧ w.cell? ⟨b, o + 3, none⟩ = some (.int .i64 s) ∧ w.cell? ⟨b, o + 4, none⟩ = some (.int .i64 q)
theorem gP (b o : Nat) (k i : Int) (v : Value) (s q : Int) (zs : List Int) (w : World) (hc : ke w b o k i v s q) (h : bj w v zs) :
  Calls Tryz.prog 250 #[.pointer (some ⟨b, o, none⟩)] w fun e w' => e = .returned (.int .i64 (al k i zs s q)) ∧ w' = w := by
 have hv : ∃ a c, v = .slice a zs.length c := by obtain ⟨a, c, h, -⟩ := h; exact ⟨a, c, h⟩
 obtain ⟨av, cv, rfl⟩ := hv
 obtain ⟨c0, c1, c2, c3, c4⟩ := hc
 have HH := yh h
 clear h
 generalize hF : al k i zs s q = F
 have HF := yh hF
 clear hF
 cases d1 : (decide (1 ≤ k) && decide (k ≤ 2)) with
 | false =>
  have hE : F = 1 := by rw [← uh HF, al, ck, d1]; rfl
  subst hE
  go_enter Tryz.func250, Tryz.ntmps250
  go_wp2_with fail
  refine (cM k 1 2 _).mono ?_
  rintro e w1 ⟨rfl, rfl⟩
  rw [d1]
  go_wp2_with fail
  go_ret
  exact ⟨rfl, rfl⟩
 | true =>
  have hk : k = 1 ∨ k = 2 := by
   simp only [Bool.and_eq_true, decide_eq_true_eq] at d1
   omega
  clear d1
  rcases hk with rfl | rfl
  ·
   have hK : ck 1 zs.length = true := rfl
   cases dI : (decide (1 ≤ i) && decide (i ≤ 999)) with
   | false =>
    have hE : F = 3 := by rw [← uh HF, al, hK, if_pos rfl, bO, dI]; rfl
    subst hE
    go_enter Tryz.func250, Tryz.ntmps250
    go_wp2_with fail
    refine (cM 1 1 2 _).mono ?_
    rintro e w1 ⟨rfl, rfl⟩
    go_wp2_with fail
    refine (lv i _).mono ?_
    rintro e w1 ⟨rfl, rfl⟩
    rw [dI]
    go_wp2_with fail
    go_ret
    exact ⟨rfl, rfl⟩
   | true =>
    cases dS : (decide (1 ≤ s) && decide (s ≤ 9)) with
    | false =>
     have hE : F = 3 := by rw [← uh HF, al, hK, if_pos rfl, bO, dI, dS]; rfl
     subst hE
     go_enter Tryz.func250, Tryz.ntmps250
     go_wp2_with fail
     refine (cM 1 1 2 _).mono ?_
     rintro e w1 ⟨rfl, rfl⟩
     go_wp2_with fail
     refine (lv i _).mono ?_
     rintro e w1 ⟨rfl, rfl⟩
     rw [dI]
     go_wp2_with fail
     refine (cS s _).mono ?_
     rintro e w1 ⟨rfl, rfl⟩
     rw [dS]
     go_wp2_with fail
     go_ret
     exact ⟨rfl, rfl⟩
    | true =>
     cases dQ : (decide (1 ≤ q) && decide (q ≤ 999)) with
     | false =>
      have hE : F = 3 := by rw [← uh HF, al, hK, if_pos rfl, bO, dI, dS, dQ]; rfl
      subst hE
      go_enter Tryz.func250, Tryz.ntmps250
      go_wp2_with fail
      refine (cM 1 1 2 _).mono ?_
      rintro e w1 ⟨rfl, rfl⟩
      go_wp2_with fail
      refine (lv i _).mono ?_
      rintro e w1 ⟨rfl, rfl⟩
      rw [dI]
      go_wp2_with fail
      refine (cS s _).mono ?_
      rintro e w1 ⟨rfl, rfl⟩
      rw [dS]
      go_wp2_with fail
      refine (cM q 1 999 _).mono ?_
      rintro e w1 ⟨rfl, rfl⟩
      rw [dQ]
      go_wp2_with fail
      go_ret
      exact ⟨rfl, rfl⟩
     | true =>
      have hE : F = aJ zs := by rw [← uh HF, al, hK, if_pos rfl, bO, dI, dS, dQ]; rfl
      subst hE
      go_enter Tryz.func250, Tryz.ntmps250
      go_wp2_with fail
      refine (cM 1 1 2 _).mono ?_
      rintro e w1 ⟨rfl, rfl⟩
      go_wp2_with fail
      refine (lv i _).mono ?_
      rintro e w1 ⟨rfl, rfl⟩
      rw [dI]
      go_wp2_with fail
      refine (cS s _).mono ?_
      rintro e w1 ⟨rfl, rfl⟩
      rw [dS]
      go_wp2_with fail
      refine (cM q 1 999 _).mono ?_
      rintro e w1 ⟨rfl, rfl⟩
      rw [dQ]
      go_wp2_with fail
      refine (ij _ zs _ (uh HH)).mono ?_
      rintro e w1 ⟨rfl, rfl⟩
      go_wp2_with fail
      go_ret
      exact ⟨rfl, rfl⟩
  by_cases hz : zs.length = 0
  ·
   obtain rfl : zs = [] := List.eq_nil_of_length_eq_zero hz
   have hK : ck 2 ([] : List Int).length = true := rfl
   simp only [List.length_nil] at c2 hK
   clear hz
   cases dI : (decide (1 ≤ i) && decide (i ≤ 999)) with
   | false =>
    have hE : F = 3 := by rw [← uh HF, al, show ck 2 ([] : List Int).length = true from rfl, if_pos rfl, bO, dI]; rfl
    subst hE
    go_enter Tryz.func250, Tryz.ntmps250
    go_wp2_with fail
    refine (cM 2 1 2 _).mono ?_
    rintro e w1 ⟨rfl, rfl⟩
    go_wp2_with fail
    refine (lv i _).mono ?_
    rintro e w1 ⟨rfl, rfl⟩
    rw [dI]
    go_wp2_with fail
    go_ret
    exact ⟨rfl, rfl⟩
   | true =>
    cases dS : (decide (1 ≤ s) && decide (s ≤ 9)) with
    | false =>
     have hE : F = 3 := by rw [← uh HF, al, show ck 2 ([] : List Int).length = true from rfl, if_pos rfl, bO, dI, dS]; rfl
     subst hE
     go_enter Tryz.func250, Tryz.ntmps250
     go_wp2_with fail
     refine (cM 2 1 2 _).mono ?_
     rintro e w1 ⟨rfl, rfl⟩
     go_wp2_with fail
     refine (lv i _).mono ?_
     rintro e w1 ⟨rfl, rfl⟩
     rw [dI]
     go_wp2_with fail
     refine (cS s _).mono ?_
     rintro e w1 ⟨rfl, rfl⟩
     rw [dS]
     go_wp2_with fail
     go_ret
     exact ⟨rfl, rfl⟩
    | true =>
     cases dQ : (decide (1 ≤ q) && decide (q ≤ 999)) with
     | false =>
      have hE : F = 3 := by rw [← uh HF, al, show ck 2 ([] : List Int).length = true from rfl, if_pos rfl, bO, dI, dS, dQ]; rfl
      subst hE
      go_enter Tryz.func250, Tryz.ntmps250
      go_wp2_with fail
      refine (cM 2 1 2 _).mono ?_
      rintro e w1 ⟨rfl, rfl⟩
      go_wp2_with fail
      refine (lv i _).mono ?_
      rintro e w1 ⟨rfl, rfl⟩
      rw [dI]
      go_wp2_with fail
      refine (cS s _).mono ?_
      rintro e w1 ⟨rfl, rfl⟩
      rw [dS]
      go_wp2_with fail
      refine (cM q 1 999 _).mono ?_
      rintro e w1 ⟨rfl, rfl⟩
      rw [dQ]
      go_wp2_with fail
      go_ret
      exact ⟨rfl, rfl⟩
     | true =>
      have hE : F = 0 := by rw [← uh HF, al, show ck 2 ([] : List Int).length = true from rfl, if_pos rfl, bO, dI, dS, dQ]; rfl
      subst hE
      go_enter Tryz.func250, Tryz.ntmps250
      go_wp2_with fail
      refine (cM 2 1 2 _).mono ?_
      rintro e w1 ⟨rfl, rfl⟩
      go_wp2_with fail
      refine (lv i _).mono ?_
      rintro e w1 ⟨rfl, rfl⟩
      rw [dI]
      go_wp2_with fail
      refine (cS s _).mono ?_
      rintro e w1 ⟨rfl, rfl⟩
      rw [dS]
      go_wp2_with fail
      refine (cM q 1 999 _).mono ?_
      rintro e w1 ⟨rfl, rfl⟩
      rw [dQ]
      go_wp2_with fail
      go_ret
      exact ⟨rfl, rfl⟩
  have hE : F = 1 := by
   have : ck 2 zs.length = false := by simp [ck]; omega
   rw [← uh HF, al, this]; rfl
  subst hE
  obtain ⟨m, hm⟩ : ∃ m, zs.length = m + 1 := ⟨zs.length - 1, by omega⟩
  rw [hm] at c2
  clear hz hm
  go_enter Tryz.func250, Tryz.ntmps250
  go_wp2_with fail
  refine (cM 2 1 2 _).mono ?_
  rintro e w1 ⟨rfl, rfl⟩
  go_wp2_with fail
  go_ret
  exact ⟨rfl, rfl⟩
theorem cw {k i s q : Int} {zs : List Int} (h : al k i zs s q = 0) : (1 ≤ i ∧ i ≤ 999) ∧ (1 ≤ s ∧ s ≤ 9) ∧ (1 ≤ q ∧ q ≤ 999) ∧ ((k = 1 ∧ aJ zs = 0) ∨ (k = 2 ∧ zs = [])) := by
 unfold al at h
 split at h
 ·
  next hk =>
  split at h
  ·
   next hb =>
   simp only [ck, Bool.and_eq_true, decide_eq_true_eq, Bool.not_eq_true', Bool.and_eq_false_iff] at hk
   simp only [bO, Bool.and_eq_true, decide_eq_true_eq] at hb
   refine ⟨hb.1, hb.2.1, hb.2.2, ?_⟩
   by_cases h1 : k = 1
   ·
    rw [if_pos h1] at h
    exact Or.inl ⟨h1, h⟩
   have h2 : k = 2 := by omega
   refine Or.inr ⟨h2, ?_⟩
   rcases hk.2 with h3 | h3
   ·
    simp [h2] at h3
   simp at h3
   exact h3
  omega
 omega
def wF (x : ai) : Int := al x.kind x.id x.vec x.aa x.seq
def bh : List ai → Int
 | [] => 0
 | x :: xs => if wF x = 0 then bh xs else wF x
def aD (ws : List ai) : Int := if 200 < ws.length then 2 else bh ws
theorem eg (ws : List ai) (k : Nat) (h : k < ws.length) (hz : ∀ j (hj : j < ws.length), j < k → wF ws[j] = 0) (hn : wF ws[k] ≠ 0) : bh ws = wF ws[k] := by
 induction ws generalizing k with
 | nil => simp at h
 | cons x xs ih =>
  match k with
  | 0 => rw [bh, if_neg (by simpa using hn)]; rfl
  | k + 1 =>
   have h0 : wF x = 0 := hz 0 (by simp) (by omega)
   rw [bh, if_pos h0]
   exact ih k (by simpa using h) (fun j hj hjk => hz (j + 1) (by simpa using hj) (by omega)) (by simpa using hn)
theorem cz (ws : List ai) (hz : ∀ j (hj : j < ws.length), wF ws[j] = 0) : bh ws = 0 := by
 induction ws with
 | nil => rfl
 | cons x xs ih =>
  have h0 : wF x = 0 := hz 0 (by simp)
  rw [bh, if_pos h0]
  exact ih fun j hj => hz (j + 1) (by simpa using hj)
theorem eF {ws : List ai} (h : bh ws = 0) : ∀ x ∈ ws, wF x = 0 := by
 induction ws with
 | nil => simp
 | cons x xs ih =>
  rw [bh] at h
  by_cases h0 : wF x = 0
  ·
   rw [if_pos h0] at h
   intro y hy
   rcases List.mem_cons.1 hy with rfl | hy
   ·
    exact h0
   exact ih h y hy
  rw [if_neg h0] at h; exact absurd h h0
theorem dL {ws : List ai} (h : aD ws = 0) : ws.length ≤ 200 ∧ ∀ x ∈ ws, wF x = 0 := by
 unfold aD at h
 by_cases hn : 200 < ws.length
 ·
  rw [if_pos hn] at h; cases h
 rw [if_neg hn] at h; exact ⟨by omega, eF h⟩
theorem kX (x : ai) : 0 ≤ wF x ∧ wF x ≤ 3 := by
 have hv := fE x.vec
 unfold wF al
 split
 ·
  split
  ·
   split
   ·
    exact hv
   decide
  decide
 decide
def aA (ws : List ai) (s : Int) : Int := ws.foldl (fun n x => if x.aa = s then max n x.seq else n) 0
def bt (s q : Int) : Nat → List ai → Nat
 | _, [] => 0
 | n, x :: xs => if x.aa = s ∧ x.seq = q then n + 1 else bt s q (n + 1) xs
def bf (ws : List ai) (s q : Int) : Nat := bt s q 0 ws
def bH : List ai → List ai → Bool
 | _, [] => true
 | pre, x :: xs => decide (aA pre x.aa < x.seq) && bH (pre ++ [x]) xs
def df (ws : List ai) (s : Int) : Int := if aD ws = 0 then (if 1 ≤ s ∧ s ≤ 9 then 0 else 3) else aD ws
theorem fj (ws : List ai) (x : ai) (s : Int) : aA (ws ++ [x]) s = if x.aa = s then max (aA ws s) x.seq else aA ws s := by
 simp [aA]
theorem eW (ws : List ai) (k : Nat) (h : k < ws.length) (s : Int) : aA (ws.take (k + 1)) s = if ws[k].aa = s then max (aA (ws.take k) s) ws[k].seq else aA (ws.take k) s := by
 rw [List.take_succ_eq_append_getElem h, fj]
theorem dB (s q : Int) (x : ai) : ∀ (ws : List ai) (n : Nat), bt s q n (ws ++ [x]) = if bt s q n ws = 0 then (if x.aa = s ∧ x.seq = q then n + ws.length + 1 else 0) else bt s q n ws
 | [], n => by simp [bt]
 | y :: ws, n => by
  rw [List.cons_append, bt, bt]
  by_cases h : y.aa = s ∧ y.seq = q
  ·
   rw [if_pos h, if_pos h, if_neg (by omega)]
  rw [if_neg h, if_neg h, dB s q x ws (n + 1)]
  simp only [List.length_cons]
  rw [show n + 1 + ws.length + 1 = n + (ws.length + 1) + 1 by omega]
theorem fa (ws : List ai) (x : ai) (s q : Int) : bf (ws ++ [x]) s q = if bf ws s q = 0 then (if x.aa = s ∧ x.seq = q then ws.length + 1 else 0) else bf ws s q := by
 have := dB s q x ws 0
 rw [Nat.zero_add] at this
 exact this
theorem jK (ws : List ai) (s q : Int) : bf ws s q ≤ ws.length := by
 have : ∀ (ws : List ai) (n : Nat), bt s q n ws ≤ n + ws.length := by
  intro ws
  induction ws with
  | nil => intro n; simp [bt]
  | cons x xs ih =>
   intro n
   rw [bt]
   split
   ·
    simp only [List.length_cons]; omega
   have := ih (n + 1)
   simp only [List.length_cons]
   omega
 have := this ws 0
 rw [Nat.zero_add] at this
 exact this
theorem ek (s q : Int) : ∀ (ws : List ai) (n k : Nat) (h : k < ws.length), (∀ j (hj : j < ws.length), j < k → ¬ (ws[j].aa = s ∧ ws[j].seq = q)) → (ws[k].aa = s ∧ ws[k].seq = q) → bt s q n ws = n + k + 1
 | [], _, _, h, _, _ => by simp at h
 | x :: xs, n, 0, _, _, hk => by rw [bt, if_pos (by simpa using hk)]
 | x :: xs, n, k + 1, h, hn, hk => by
  have h0 := hn 0 (by simp) (by omega)
  rw [bt, if_neg (by simpa using h0), ek s q xs (n + 1) k (by simpa using h) (fun j hj hjk => by have := hn (j + 1) (by simpa using hj) (by omega); simpa using this) (by simpa using hk)]
  omega
theorem kf {s q : Int} {ws : List ai} {k : Nat} (h : k < ws.length) (hn : ∀ j (hj : j < ws.length), j < k → ¬ (ws[j].aa = s ∧ ws[j].seq = q)) (hk : ws[k].aa = s ∧ ws[k].seq = q) : bf ws s q = k + 1 := by
 have := ek s q ws 0 k h hn hk
 rw [Nat.zero_add] at this
 exact this
theorem eN {s q : Int} {ws : List ai} (hn : ∀ j (hj : j < ws.length), ¬ (ws[j].aa = s ∧ ws[j].seq = q)) : bf ws s q = 0 := by
 have : ∀ (ws : List ai) (n : Nat), (∀ j (hj : j < ws.length), ¬ (ws[j].aa = s ∧ ws[j].seq = q)) → bt s q n ws = 0 := by
  intro ws
  induction ws with
  | nil => intro n _; rfl
  | cons x xs ih =>
   intro n hn
   have h0 := hn 0 (by simp)
   rw [bt, if_neg (by simpa using h0)]
   exact ih (n + 1) fun j hj => by have := hn (j + 1) (by simpa using hj); simpa using this
 exact this ws 0 hn
theorem eR : ∀ (ws pre : List ai) (k : Nat) (h : k < ws.length), (ws[k]).seq ≤ aA (pre ++ ws.take k) (ws[k]).aa → bH pre ws = false
 | [], _, _, h, _ => by simp at h
 | x :: xs, pre, 0, _, hk => by
  have : ¬ (aA pre x.aa < x.seq) := by simpa using hk
  simp [bH, this]
 | x :: xs, pre, k + 1, h, hk => by
  rw [bH, eR xs (pre ++ [x]) k (by simpa using h) (by simpa using hk), Bool.and_false]
theorem ec : ∀ (ws pre : List ai), (∀ k (h : k < ws.length), aA (pre ++ ws.take k) (ws[k]).aa < (ws[k]).seq) → bH pre ws = true
 | [], _, _ => rfl
 | x :: xs, pre, h => by
  have h0 := h 0 (by simp)
  rw [bH, ec xs (pre ++ [x]) fun k hk => by have := h (k + 1) (by simpa using hk); simpa using this]
  simpa using h0
def eE (ws : List ai) : Bool := decide (aD ws = 0) && bH [] ws
theorem iJ {x : ai} (h : wF x = 0) : 1 ≤ x.aa ∧ x.aa ≤ 9 ∧ 1 ≤ x.seq ∧ x.seq ≤ 999 := by
 obtain ⟨-, h1, h2, -⟩ := cw h
 exact ⟨h1.1, h1.2, h2.1, h2.2⟩
structure cU where
 code : Int
 value : Int
def ad.cV : ad cU := ad.via (ad.pair ad.int ad.int) (fun x => (x.code, x.value)) (fun p => ⟨p.1, p.2⟩)
theorem dk {w : World} {cs : List Value} {x : cU} {bl : List Nat} : ad.cV.bo w cs x bl ↔ cs = [.int .i64 x.code, .int .i64 x.value] ∧ bl = [] ∧ (Lit.int .i64 x.code).wf = true ∧ (Lit.int .i64 x.value).wf = true := by
 constructor
 ·
  intro h
  obtain ⟨c0_, r0_, e0_, s0_, rfl, rfl, h0, h1⟩ := h
  obtain ⟨rfl, w0, rfl⟩ := h0
  obtain ⟨rfl, w1, rfl⟩ := h1
  exact ⟨by simp, by simp, w0, w1⟩
 rintro ⟨rfl, hbl, w0, w1⟩
 rw [hbl]
 exact ⟨[.int .i64 x.code], [.int .i64 x.value], [], [], rfl, by simp, ⟨rfl, w0, rfl⟩, ⟨rfl, w1, rfl⟩⟩
def bE (ws : List ai) (s q : Int) : cU := if df ws s = 0 then (if 1 ≤ q ∧ q ≤ 999 then (if bf ws s q = 0 then ⟨4, 0⟩ else ⟨0, bf ws s q⟩) else ⟨3, 0⟩) else ⟨df ws s, 0⟩
theorem jw {ws : List ai} (s : Int) (h : aD ws ≠ 0) : df ws s = aD ws := by rw [df, if_neg h]
theorem ed {ws : List ai} {s : Int} (h : aD ws = 0) (hs : ¬ (1 ≤ s ∧ s ≤ 9)) : df ws s = 3 := by rw [df, if_pos h, if_neg hs]
theorem cR {ws : List ai} {s : Int} (h : aD ws = 0) (hs : 1 ≤ s ∧ s ≤ 9) : df ws s = 0 := by rw [df, if_pos h, if_pos hs]
theorem dec9 {s : Int} (hs : 1 ≤ s ∧ s ≤ 9) : (decide (1 ≤ s) && decide (s ≤ 9)) = true := by simp [hs.1, hs.2]
theorem mf {s : Int} (hs : ¬ (1 ≤ s ∧ s ≤ 9)) : (decide (1 ≤ s) && decide (s ≤ 9)) = false := by
 rw [Bool.eq_false_iff]
 intro hb
 simp only [Bool.and_eq_true, decide_eq_true_eq] at hb
 exact hs hb
theorem lJ {s : Int} (hs : 1 ≤ s ∧ s ≤ 999) : (decide (1 ≤ s) && decide (s ≤ 999)) = true := by simp [hs.1, hs.2]
theorem lj {s : Int} (hs : ¬ (1 ≤ s ∧ s ≤ 999)) : (decide (1 ≤ s) && decide (s ≤ 999)) = false := by
 rw [Bool.eq_false_iff]
 intro hb
 simp only [Bool.and_eq_true, decide_eq_true_eq] at hb
 exact hs hb
theorem di {w : World} {c z : Int} {lo hi : Nat} (hc : (Lit.int .i64 c).wf = true) (hz : (Lit.int .i64 z).wf = true) : ad.cV.aV w [.int .i64 c, .int .i64 z] ⟨c, z⟩ lo hi :=
 ⟨[], ⟨dk.2 ⟨rfl, rfl, hc, hz⟩, by simp, by simp⟩, by simp⟩
theorem lH (ws : List ai) : (Lit.int .i64 (aD ws)).wf = true := by
 have : 0 ≤ aD ws ∧ aD ws ≤ 3 := by
  unfold aD
  split
  ·
   omega
  induction ws with
  | nil => simp [bh]
  | cons x xs ih =>
   rw [bh]
   split
   ·
    exact ih (by rename_i h _; simp only [List.length_cons] at h; omega)
   exact kX x
 exact cj (by omega)
def aC (x : bu) : Int :=
 if 1 ≤ x.id ∧ x.id ≤ 5 ∧ 0 ≤ x.ab ∧ x.ab ≤ 999 ∧ 0 ≤ x.ak ∧ x.ak ≤ 9999 then
  if 40 < x.writes.length then 2
  else if bh x.writes ≠ 0 then bh x.writes
  else if bH [] x.writes = false then 6
  else if 0 ≤ x.sure ∧ x.sure ≤ x.writes.length ∧ 0 ≤ x.clean ∧ x.clean ≤ x.sure then
   if x.up = false ∧ ¬ (x.sure = x.writes.length ∧ x.clean = 0 ∧ x.ak = 0) then 1 else 0
  else 3
 else 3
def lS : bu := ⟨0, false, 0, 0, [], 0, 0⟩
structure lV (x : bu) : Prop where
 id : 1 ≤ x.id ∧ x.id ≤ 5
 ab : 0 ≤ x.ab ∧ x.ab ≤ 999
 ak : 0 ≤ x.ak ∧ x.ak ≤ 9999
 len : x.writes.length ≤ 40
 ws : ∀ y ∈ x.writes, wF y = 0
 once : bH [] x.writes = true
 sure : 0 ≤ x.sure ∧ x.sure ≤ x.writes.length
 clean : 0 ≤ x.clean ∧ x.clean ≤ x.sure
 down : x.up = false → x.sure = x.writes.length ∧ x.clean = 0 ∧ x.ak = 0
theorem cE {x : bu} (h : aC x = 0) : lV x := by
 unfold aC at h
 split at h
 ·
  rename_i h1
  split at h
  ·
   simp at h
  rename_i h2
  split at h
  ·
   rename_i h3; exact absurd h h3
  rename_i h3
  split at h
  ·
   simp at h
  rename_i h4
  split at h
  ·
   rename_i h5
   split at h
   ·
    simp at h
   rename_i h6
   refine ⟨by omega, by omega, by omega, by omega, eF (by simpa using h3), by simpa using h4, by omega, by omega, fun hu => ?_⟩
   exact Classical.byContradiction fun hc => h6 ⟨hu, hc⟩
  simp at h
 simp at h
end Go.Proofs.YtecagllmonckgaaGreat

namespace Go.Proofs.YtecagllmonckgaaGreat
end Go.Proofs.YtecagllmonckgaaGreat

namespace Go.Proofs.YtecagllmonckgaaGreat
end Go.Proofs.YtecagllmonckgaaGreat

namespace Go.Proofs.YtecagllmonckgaaGreat
open Go.RowKit
def lF (ids : List Int) (id : Int) : Nat := ids.findIdx (· == id)
def aR (ids : List Int) (id : Int) : Int := if lF ids id < ids.length then (lF ids id : Int) else -1
def dP : List Int → List Int → Int
 | _, [] => 0
 | pre, z :: zs => if 1 ≤ z ∧ z ≤ 5 then (if z ∈ pre then 6 else dP (pre ++ [z]) zs) else 3
def ax (x : ba) : Int :=
 if 1 ≤ x.ab ∧ x.ab ≤ 999 then (if 1 ≤ x.ids.length ∧ x.ids.length ≤ 5 then dP [] x.ids else 2) else 3
theorem jF (ids : List Int) (id : Int) : -1 ≤ aR ids id ∧ aR ids id < ids.length + 1 := by
 unfold aR
 split <;> omega
theorem eU (ids : List Int) (id : Int) : aR ids id < 0 ↔ id ∉ ids := by
 unfold aR lF
 have h := List.findIdx_lt_length (p := fun z => z == id) (xs := ids)
 constructor
 ·
  intro h1 hm
  rw [if_pos (h.2 ⟨id, hm, by simp⟩)] at h1
  omega
 intro h1
 rw [if_neg]
 ·
  omega
 intro h2
 obtain ⟨z, hz, e⟩ := h.1 h2
 rw [beq_iff_eq] at e
 rw [e] at hz
 exact h1 hz
theorem eh {ids : List Int} {id : Int} {k : Nat} (hk : k < ids.length) (h : ids[k] = id) (hb : ∀ j (hj : j < k), ids[j] ≠ id) : aR ids id = (k : Int) := by
 have e : lF ids id = k := by
  unfold lF
  rw [List.findIdx_eq hk]
  exact ⟨by simpa using h, fun j hj => by simpa using hb j hj⟩
 rw [aR, e, if_pos hk]
theorem et {ids : List Int} {id : Int} (hb : ∀ j (hj : j < ids.length), ids[j] ≠ id) : aR ids id = -1 := by
 have h1 : aR ids id < 0 := by
  rw [eU]
  intro hm
  obtain ⟨j, hj, e⟩ := List.getElem_of_mem hm
  exact hb j hj e
 have := jF ids id
 omega
theorem iK {ids : List Int} {id : Int} (h : 0 ≤ aR ids id) : ∃ (k : Nat) (hk : k < ids.length), aR ids id = (k : Int) ∧ ids[k] = id ∧ ∀ j (hj : j < k), ids[j] ≠ id := by
 have hl : lF ids id < ids.length := by
  unfold aR at h
  split at h
  ·
   assumption
  omega
 refine ⟨lF ids id, hl, by rw [aR, if_pos hl], ?_, fun j hj => ?_⟩
 ·
  have := List.findIdx_getElem (xs := ids) (p := fun z => z == id) (w := hl)
  exact beq_iff_eq.1 this
 have := List.not_of_lt_findIdx (xs := ids) (p := fun z => z == id) hj
 simpa using this
theorem fG (ids : List Int) (k : Nat) (hk : k < ids.length) : dP (ids.take k) (ids.drop k) = if 1 ≤ ids[k] ∧ ids[k] ≤ 5 then (if ids[k] ∈ ids.take k then 6 else dP (ids.take (k + 1)) (ids.drop (k + 1))) else 3 := by
 conv => lhs; rw [List.drop_eq_getElem_cons hk, dP]
 rw [List.take_succ_eq_append_getElem hk]
theorem gw (ids : List Int) : dP (ids.take ids.length) (ids.drop ids.length) = 0 := by simp [dP]
theorem hU {ids : List Int} {k : Nat} (hk : k < ids.length) : (aR ids ids[k] = (k : Int)) ↔ ids[k] ∉ ids.take k := by
 constructor
 ·
  intro h hm
  obtain ⟨j, hj, e⟩ := List.getElem_of_mem hm
  rw [List.length_take] at hj
  rw [List.getElem_take] at e
  obtain ⟨m, hm1, h1, h2, h3⟩ := iK (ids := ids) (id := ids[k]) (by omega)
  obtain rfl : m = k := by omega
  exact h3 j (by omega) e
 intro h
 refine eh hk rfl fun j hj e => h ?_
 rw [List.mem_iff_getElem]
 exact ⟨j, by rw [List.length_take]; omega, by rw [List.getElem_take]; exact e⟩
structure kU (x : ba) : Prop where
 ab : 1 ≤ x.ab ∧ x.ab ≤ 999
 len : 1 ≤ x.ids.length ∧ x.ids.length ≤ 5
 ids : ∀ z ∈ x.ids, 1 ≤ z ∧ z ≤ 5
 nodup : x.ids.Nodup
theorem fJ : ∀ (zs pre : List Int), dP pre zs = 0 → (∀ z ∈ zs, 1 ≤ z ∧ z ≤ 5) ∧ zs.Nodup ∧ ∀ z ∈ zs, z ∉ pre
 | [], _, _ => by simp
 | z :: zs, pre, h => by
  rw [dP] at h
  split at h
  ·
   rename_i h1
   split at h
   ·
    simp at h
   rename_i h2
   obtain ⟨q1, q2, q3⟩ := fJ zs _ h
   refine ⟨?_, ?_, ?_⟩
   ·
    intro u hu
    rcases List.mem_cons.1 hu with rfl | hu
    ·
     exact h1
    exact q1 u hu
   ·
    refine List.nodup_cons.2 ⟨fun hm => q3 z hm (by simp), q2⟩
   intro u hu hp
   rcases List.mem_cons.1 hu with rfl | hu
   ·
    exact h2 hp
   exact q3 u hu (List.mem_append_left _ hp)
  simp at h
theorem cu {x : ba} (h : ax x = 0) : kU x := by
 unfold ax at h
 split at h
 ·
  rename_i h1
  split at h
  ·
   rename_i h2
   obtain ⟨q1, q2, -⟩ := fJ _ _ h
   exact ⟨h1, h2, q1, q2⟩
  simp at h
 simp at h
def bV (x y : ai) : Bool := x.kind == y.kind && (x.id == y.id && (x.aa == y.aa && (x.seq == y.seq && decide (x.vec = y.vec))))
def iM (y : ai) : Prop := y.kind = 0 ∧ y.id = 0 ∧ y.aa = 0 ∧ y.seq = 0 ∧ y.vec.length = 0
instance (y : ai) : Decidable (iM y) := by unfold iM; infer_instance
def au (x : br) : Int :=
 if ¬ (1 ≤ x.kind ∧ x.kind ≤ 2) ∨ x.src = x.dst ∨ (x.kind = 2 ∧ ¬ iM x.write) then 1
 else if ¬ (1 ≤ x.ab ∧ x.ab ≤ 999) ∨ ¬ (1 ≤ x.src ∧ x.src ≤ 5) ∨ ¬ (1 ≤ x.dst ∧ x.dst ≤ 5) ∨ ¬ (0 ≤ x.index ∧ x.index ≤ 40) ∨ (x.kind ≠ 2 ∧ x.index = 0) then 3
 else if x.kind = 2 then 0 else wF x.write
def bD : List br → Int
 | [] => 0
 | x :: xs => if au x = 0 then bD xs else au x
def aK (xs : List br) : Int := if 40 < xs.length then 2 else bD xs
theorem ea : ∀ {xs : List br}, (∀ x ∈ xs, au x = 0) → bD xs = 0
 | [], _ => rfl
 | x :: xs, h => by
  rw [bD, if_pos (h x (by simp))]
  exact ea fun y hy => h y (List.mem_cons_of_mem _ hy)
theorem ez : ∀ {xs : List br} {k : Nat} (hk : k < xs.length), (∀ j (hj : j < k), au xs[j] = 0) → au xs[k] ≠ 0 → bD xs = au xs[k]
 | x :: xs, 0, hk, _, h => by
  have h1 : au x ≠ 0 := h
  rw [bD, if_neg h1]
  rfl
 | x :: xs, k + 1, hk, hb, h => by
  have h1 : au x = 0 := hb 0 (by omega)
  rw [bD, if_pos h1]
  exact ez (xs := xs) (k := k) (by simpa using hk) (fun j hj => hb (j + 1) (by omega)) h
def bm (x : aL) (id : Int) : Bool := decide (1 ≤ id) && decide (id ≤ (x.nodes.length : Int))
def bz (c : ba) : Nat → List bu → Int
 | _, [] => 0
 | i, n :: ns =>
  if aC n ≠ 0 then aC n
  else if n.id ≠ (i : Int) + 1 then 1
  else if c.ab < n.ab ∨ (n.up = true ∧ 0 ≤ aR c.ids n.id ∧ n.ab ≠ c.ab) then 7
  else bz c (i + 1) ns
def aU (x : aL) : Int :=
 if bz x.chain 0 x.nodes ≠ 0 then bz x.chain 0 x.nodes
 else if x.chain.ids.all (bm x) then 0 else 4
def dd (x : aL) (e : bw) : Bool :=
 (decide (1 ≤ e.kind) && decide (e.kind ≤ 3)) && ((decide (1 ≤ e.start) && decide (e.start ≤ x.events)) && ((e.fin == 0 || (decide (e.start ≤ e.fin) && decide (e.fin ≤ x.events))) && (decide (0 ≤ e.place) && decide (e.place ≤ 40))))
def aT (x : aL) : Int :=
 if ¬ (0 ≤ x.now ∧ x.now ≤ 9000) ∨ ¬ (0 ≤ x.events ∧ x.events ≤ 9999) then 3
 else if ax x.chain ≠ 0 then ax x.chain
 else if x.nodes.length < 1 ∨ 5 < x.nodes.length then 2
 else if aU x ≠ 0 then aU x
 else if aK x.msgs ≠ 0 then aK x.msgs
 else if 60 < x.ae.length then 2
 else if x.ae.all (dd x) then 0 else 3
def gf (x : aL) (id : Int) : bu := x.nodes.getD (id - 1).toNat lS
theorem cm {w : World} {b off cap k : Nat} {zs : List Int} (h : (ad.sl ad.int).Reads w [.slice (some ⟨b, off, none⟩) zs.length cap] zs) (hk : k < zs.length) : w.cell? ⟨b, off + k, none⟩ = some (.int .i64 zs[k]) := by
 obtain ⟨bl, h⟩ := h
 obtain ⟨ao, cp, e, -, -, h⟩ := ad.cy.1 h
 simp only [Value.slice.injEq] at e
 obtain ⟨rfl, -, rfl⟩ := e
 rcases h with ⟨rfl, -⟩ | ⟨b', off', e2, -, -, hj⟩
 ·
  simp at hk
 simp only [Option.some.injEq, Addr.mk.injEq, and_true] at e2
 obtain ⟨rfl, rfl⟩ := e2
 rw [hj k hk]
 simp [List.getD, hk]
structure cH (x : aL) : Prop where
 now : 0 ≤ x.now ∧ x.now ≤ 9000
 events : 0 ≤ x.events ∧ x.events ≤ 9999
 chain : ax x.chain = 0
 some : 1 ≤ x.nodes.length ∧ x.nodes.length ≤ 5
 nodes : ∀ k (h : k < x.nodes.length), aC x.nodes[k] = 0 ∧ x.nodes[k].id = (k : Int) + 1 ∧ x.nodes[k].ab ≤ x.chain.ab
 ids : ∀ z ∈ x.chain.ids, bm x z = true
 net : aK x.msgs = 0
 few : x.ae.length ≤ 60
 told : ∀ e ∈ x.ae, dd x e = true
theorem eD (c : ba) : ∀ (ns : List bu) (i : Nat), bz c i ns = 0 → ∀ k (h : k < ns.length), aC ns[k] = 0 ∧ ns[k].id = ((i + k : Nat) : Int) + 1 ∧ ns[k].ab ≤ c.ab
 | [], _, _, k, h => by simp at h
 | n :: ns, i, h0, k, h => by
  rw [bz] at h0
  split at h0
  ·
   rename_i q; exact absurd h0 q
  rename_i q1
  split at h0
  ·
   simp at h0
  rename_i q2
  split at h0
  ·
   simp at h0
  rename_i q3
  cases k with
  | zero => exact ⟨by simpa using q1, by simpa using q2, by
    have : ¬ c.ab < n.ab := fun q => q3 (Or.inl q)
    simp
    omega⟩
  | succ k =>
   have := eD c ns (i + 1) h0 k (by simpa using h)
   obtain ⟨a1, a2, a3⟩ := this
   refine ⟨by simpa using a1, ?_, by simpa using a3⟩
   simp only [List.getElem_cons_succ]
   rw [a2]
   omega
theorem db {x : aL} (h : aT x = 0) : cH x := by
 unfold aT at h
 split at h
 ·
  simp at h
 rename_i h1
 split at h
 ·
  rename_i q; exact absurd h q
 rename_i h2
 split at h
 ·
  simp at h
 rename_i h3
 split at h
 ·
  rename_i q; exact absurd h q
 rename_i h4
 split at h
 ·
  rename_i q; exact absurd h q
 rename_i h5
 split at h
 ·
  simp at h
 rename_i h6
 split at h
 ·
  rename_i h7
  have h4' : aU x = 0 := by simpa using h4
  unfold aU at h4'
  have h8 : bz x.chain 0 x.nodes = 0 ∧ x.chain.ids.all (bm x) = true := by
   split at h4'
   ·
    rename_i q; exact absurd h4' q
   rename_i q
   split at h4'
   ·
    rename_i q2; exact ⟨by simpa using q, q2⟩
   simp at h4'
  refine ⟨by omega, by omega, by simpa using h2, by omega, fun k hk => ?_, fun z hz => List.all_eq_true.1 h8.2 z hz, by simpa using h5, by omega, fun e he => List.all_eq_true.1 h7 e he⟩
  have := eD x.chain x.nodes 0 h8.1 k hk
  simpa using this
 simp at h
theorem bK (n : Int) (w : World) :
  Calls Tryz.prog 225 #[.int .i64 n] w fun e w' => e = .returned (.bool (decide (1 ≤ n) && decide (n ≤ 5))) ∧ w' = w := by
 by_cases h1 : 1 ≤ n
 ·
  have d1 : decide (1 ≤ n) = true := by simpa using h1
  rw [d1]
  cases d2 : decide (n ≤ 5) <;>
  ·
   go_enter Tryz.func225, Tryz.ntmps225
   go_wp2_with fail
   go_ret
   exact ⟨rfl, rfl⟩
 have d1 : decide (1 ≤ n) = false := by simpa using h1
 rw [d1]
 go_enter Tryz.func225, Tryz.ntmps225
 go_wp2_with fail
 go_ret
 exact ⟨rfl, rfl⟩
theorem bJ (n : Int) (w : World) :
  Calls Tryz.prog 177 #[.int .i64 n] w fun e w' => e = .returned (.bool (decide (1 ≤ n) && decide (n ≤ 999))) ∧ w' = w := by
 by_cases h1 : 1 ≤ n
 ·
  have d1 : decide (1 ≤ n) = true := by simpa using h1
  rw [d1]
  cases d2 : decide (n ≤ 999) <;>
  ·
   go_enter Tryz.func177, Tryz.ntmps177
   go_wp2_with fail
   go_ret
   exact ⟨rfl, rfl⟩
 have d1 : decide (1 ≤ n) = false := by simpa using h1
 rw [d1]
 go_enter Tryz.func177, Tryz.ntmps177
 go_wp2_with fail
 go_ret
 exact ⟨rfl, rfl⟩
theorem iE {w : World} {b off cap : Nat} {zs : List Int} (h : (ad.sl ad.int).Reads w [.slice (some ⟨b, off, none⟩) zs.length cap] zs) (m n c : Nat) (hm : m + n ≤ zs.length) (hc : n ≤ c) :
  (ad.sl ad.int).Reads w [.slice (some ⟨b, off + m, none⟩) n c] ((zs.drop m).take n) := by
 have hi := ad.bq h
 have hbig := h.da
 obtain ⟨ao, cp, e, hwf, hcs⟩ := hi
 have hlen : ((zs.drop m).take n).length = n := by simp; omega
 refine ad.eO ?_ (fun ao' cap' e' => ?_) (by rw [hlen]; omega)
 ·
  refine ⟨_, c, by rw [hlen], fun z hz => hwf z (List.mem_of_mem_drop (List.mem_of_mem_take hz)), fun hp => ⟨b, off + m, rfl, fun j hj => ?_⟩⟩
  rw [hlen] at hp hj
  obtain ⟨b', off', hao, hc1⟩ := hcs (by omega)
  simp only [Value.slice.injEq] at e
  obtain ⟨rfl, -, -⟩ := e
  simp only [Option.some.injEq, Addr.mk.injEq, and_true] at hao
  obtain ⟨rfl, rfl⟩ := hao
  rw [Nat.add_assoc, hc1 (m + j) (by omega)]
  simp only [List.getD]
  rw [List.getElem?_take, if_pos hj, List.getElem?_drop]
 simp only [Value.slice.injEq] at e'
 rw [hlen]
 omega
theorem iP {w : World} {ao : Option Addr} {n cap : Nat} {zs : List Int} (h : (ad.sl ad.int).Reads w [.slice ao n cap] zs) (k : Nat) (hk : k ≤ zs.length) :
  (ad.sl ad.int).Reads w [.slice ao k cap] (zs.take k) := by
 have hc := h.cap
 by_cases h0 : k = 0
 ·
  subst h0
  rw [List.take_zero]
  exact ad.eO ⟨ao, cap, rfl, by simp, fun hp => by simp at hp⟩ (fun _ _ _ => by simp) (by simp)
 have hi := ad.bq h
 obtain ⟨ao', cp, e, hwf, hcs⟩ := hi
 obtain ⟨b', off', hao, hc1⟩ := hcs (by omega)
 simp only [Value.slice.injEq] at e
 obtain ⟨rfl, rfl, rfl⟩ := e
 subst hao
 have := iE h 0 k cap (by omega) (by omega)
 simpa using this
end Go.Proofs.YtecagllmonckgaaGreat
