/-
  Texts of this proof in one: LawXFinishWorld, ClearKit, AppInt, AppInts, SpecIntsB, LayChainResult, LayIntResult, LayTextResult, ReadPlain, NumPlain, ChainPlain, OwnChainResult, StoreKit, ChainKit, SpecCopyCh, AppMsg, LayNetResult, WrBox, InB, InC, Fault, WrFault, WrZero, ApplyPlain, SessPlain, SamePlain, NetPlain, SpecNode9.
  Their conditions stand in their theorems.
-/
import Derived.Test.YtecagllmonckgaaGreatChecked
import Derived.Test.YtecagllmonckgaaGreatFi01
import Derived.Test.YtecagllmonckgaaGreatFi02
import Derived.Test.YtecagllmonckgaaGreatFi03
import Derived.Test.YtecagllmonckgaaGreatFi04
import Derived.Deep.RegionHeld3
import Derived.Deep.CutRange
import Derived.Test.YtecagllmonckgaaGreatFi00
import Derived.Deep.AppendLies
import Derived.Maps.AppendAt
import Derived.BigQuiet
import Derived.Deep.QuietTactic
import Derived.WalkSmall
import Derived.WalkKit
set_option maxRecDepth 100000
set_option maxHeartbeats 4000000
namespace Go.Proofs.YtecagllmonckgaaGreat
open Go.RowKit
theorem gC (u0 : List Value) (x0 : ay) (x1 : Int) (x2 : Int) (y : a0) (w : World) (A0 : ab.aC.Reads w u0 x0) (NS : ab.aC.sz x0 ≤ 1048576)
  (hS : ∀ (W : World) (u0 : List Value), ab.aC.Reads W u0 x0 → Calls Tryz.prog 25 #[.agg u0.toArray, .int .i64 x1, .int .i64 x2] W fun e w' => ∃ cs, e = .returned (.agg cs.toArray) ∧ ab.aB.Reads w' cs y ∧ Below W.heap.size W w')
  (hI : ∀ (W : World) (u0 : List Value), ab.aC.Reads W u0 x0 → Calls Tryz.prog 26 #[.agg u0.toArray, .int .i64 x1, .int .i64 x2] W fun e w' => ∃ cs, e = .returned (.agg cs.toArray) ∧ ab.aB.aQ w' cs y W.heap.size w'.heap.size ∧ Below W.heap.size W w') (hc : ab.aB.ak y ≤ 100000000) :
  Calls Tryz.prog 5 #[.agg u0.toArray, .int .i64 x1, .int .i64 x2] w fun e w' => e = .returned (.bool true) ∧ Below w.heap.size w w' := by
 obtain ⟨a3p0, d3p0, a4p0, d4p0, a5p0, d5p0, a6p0, d6p0, rfl, -, -, -, -⟩ := aG A0
 have HS := yh hS
 have HI := yh hI
 clear hS hI
 have HA0 := yh A0.cX
 clear A0
 have N0 : ab.aC.sz x0 ≤ 1048576 := by omega
 have HN0 := yh N0
 clear N0
 have HC := yh hc
 clear hc
 have HNS := yh NS
 clear NS
 have HB := yh (Below.refl w.heap.size w)
 go_enter Tryz.func5, Tryz.ntmps5
 go_wp2_with fail
 have nb : Below w.heap.size w (w.alloc (.cells #[.int .i64 x0.now, .int .i64 x0.events, .int .i64 x0.chain.af, .slice a3p0 x0.chain.ids.length d3p0, .slice a4p0 x0.nodes.length d4p0, .slice a5p0 x0.msgs.length d5p0, .slice a6p0 x0.ae.length d6p0] 29)) := (Below.refl w.heap.size w).alloc (Nat.le_refl _) _
 have P0 : Hid (aj w.heap.size #[.int .i64 x0.now, .int .i64 x0.events, .int .i64 x0.chain.af, .slice a3p0 x0.chain.ids.length d3p0, .slice a4p0 x0.nodes.length d4p0, .slice a5p0 x0.msgs.length d5p0, .slice a6p0 x0.ae.length d6p0] 29 (w.alloc (.cells #[.int .i64 x0.now, .int .i64 x0.events, .int .i64 x0.chain.af, .slice a3p0 x0.chain.ids.length d3p0, .slice a4p0 x0.nodes.length d4p0, .slice a5p0 x0.msgs.length d5p0, .slice a6p0 x0.ae.length d6p0] 29)) (w.heap.size)) := bg (by omega) (by simp)
 generalize haw1 : (w.alloc (.cells #[.int .i64 x0.now, .int .i64 x0.events, .int .i64 x0.chain.af, .slice a3p0 x0.chain.ids.length d3p0, .slice a4p0 x0.nodes.length d4p0, .slice a5p0 x0.msgs.length d5p0, .slice a6p0 x0.ae.length d6p0] 29)) = w1 at *
 have Gw1 : w.heap.size + 1 ≤ w1.heap.size := by rw [← haw1]; simp
 clear haw1
 replace HA0 := yh ((uh HA0).ag nb)
 have Zw1 : w.heap.size ≤ w1.heap.size := nb.size
 replace HB := yh ((uh HB).trans (nb.mono (by omega)))
 clear nb
 have hns := uh HNS
 refine (lW _ x0 (1048576) w1 (uh HA0).reads (by omega)).mono ?_
 rintro e w2 ⟨rfl, hb⟩
 replace HA0 := yh ((uh HA0).ag hb)
 replace P0 := yh ((uh P0).au hb)
 have Zw2 : w1.heap.size ≤ w2.heap.size := hb.size
 replace HB := yh ((uh HB).trans (hb.mono (by omega)))
 clear hb
 rw [bY (by omega)]
 have hq0 : decide (((1048576 - ab.aC.sz x0 : Nat) : Int) < 0) = false := by simp
 clear hns
 have l0P0 := (uh P0).at 0 _ rfl
 have l1P0 := (uh P0).at 1 _ rfl
 have l2P0 := (uh P0).at 2 _ rfl
 have l3P0 := (uh P0).at 3 _ rfl
 have l4P0 := (uh P0).at 4 _ rfl
 have l5P0 := (uh P0).at 5 _ rfl
 have l6P0 := (uh P0).at 6 _ rfl
 have ltP0 : w.heap.size < w2.heap.size := by omega
 simp only [ga, gb, gc] at l0P0 l1P0 l2P0 l3P0 l4P0 l5P0 l6P0
 go_wp2_with fail
 clear l0P0 l1P0 l2P0 l3P0 l4P0 l5P0 l6P0 ltP0
 clear hq0
 refine (gr _ x0 w2 (uh HA0).reads (uh HN0)).mono ?_
 rintro e w3 ⟨vc0, rfl, O, hb⟩
 replace HA0 := yh ((uh HA0).ag hb)
 replace P0 := yh ((uh P0).au hb)
 have Zw3 : w2.heap.size ≤ w3.heap.size := hb.size
 replace HB := yh ((uh HB).trans (hb.mono (by omega)))
 clear hb
 obtain ⟨a3c0, d3c0, a4c0, d4c0, a5c0, d5c0, a6c0, d6c0, rfl, -, -, -, -⟩ := aG O.reads
 have Hc0 := yh O
 clear O
 have l0P0 := (uh P0).at 0 _ rfl
 have l1P0 := (uh P0).at 1 _ rfl
 have l2P0 := (uh P0).at 2 _ rfl
 have l3P0 := (uh P0).at 3 _ rfl
 have l4P0 := (uh P0).at 4 _ rfl
 have l5P0 := (uh P0).at 5 _ rfl
 have l6P0 := (uh P0).at 6 _ rfl
 have ltP0 : w.heap.size < w3.heap.size := by omega
 simp only [ga, gb, gc] at l0P0 l1P0 l2P0 l3P0 l4P0 l5P0 l6P0
 go_wp2_with fail
 clear l0P0 l1P0 l2P0 l3P0 l4P0 l5P0 l6P0 ltP0
 refine (uh HS w3 _ (uh Hc0).reads).mono ?_
 rintro e w4 ⟨cs, rfl, O, hb⟩
 replace HA0 := yh ((uh HA0).ag hb)
 replace P0 := yh ((uh P0).au hb)
 replace Hc0 := yh ((uh Hc0).ag hb)
 have Zw4 : w3.heap.size ≤ w4.heap.size := hb.size
 replace HB := yh ((uh HB).trans (hb.mono (by omega)))
 clear hb
 obtain ⟨a5W, d5W, a6W, d6W, a7W, d7W, a8W, d8W, rfl, -⟩ := bQ O
 have HW := yh O.cX
 clear O
 have nb : Below w4.heap.size w4 (w4.alloc (.cells #[.int .i64 y.code, .bool y.bt, .int .i64 y.world.now, .int .i64 y.world.events, .int .i64 y.world.chain.af, .slice a5W y.world.chain.ids.length d5W, .slice a6W y.world.nodes.length d6W, .slice a7W y.world.msgs.length d7W, .slice a8W y.world.ae.length d8W] 53)) := (Below.refl _ _).alloc (Nat.le_refl _) _
 have YW : Hid (aj w4.heap.size #[.int .i64 y.code, .bool y.bt, .int .i64 y.world.now, .int .i64 y.world.events, .int .i64 y.world.chain.af, .slice a5W y.world.chain.ids.length d5W, .slice a6W y.world.nodes.length d6W, .slice a7W y.world.msgs.length d7W, .slice a8W y.world.ae.length d8W] 53 (w4.alloc (.cells #[.int .i64 y.code, .bool y.bt, .int .i64 y.world.now, .int .i64 y.world.events, .int .i64 y.world.chain.af, .slice a5W y.world.chain.ids.length d5W, .slice a6W y.world.nodes.length d6W, .slice a7W y.world.msgs.length d7W, .slice a8W y.world.ae.length d8W] 53)) w4.heap.size) := aH (Nat.le_refl _)
 clear Hc0
 have l0P0 := (uh P0).at 0 _ rfl
 have l1P0 := (uh P0).at 1 _ rfl
 have l2P0 := (uh P0).at 2 _ rfl
 have l3P0 := (uh P0).at 3 _ rfl
 have l4P0 := (uh P0).at 4 _ rfl
 have l5P0 := (uh P0).at 5 _ rfl
 have l6P0 := (uh P0).at 6 _ rfl
 have ltP0 : w.heap.size < w4.heap.size := by omega
 simp only [ga, gb, gc] at l0P0 l1P0 l2P0 l3P0 l4P0 l5P0 l6P0
 go_wp2_with fail
 clear l0P0 l1P0 l2P0 l3P0 l4P0 l5P0 l6P0 ltP0
 generalize haw5 : w4.alloc (.cells #[.int .i64 y.code, .bool y.bt, .int .i64 y.world.now, .int .i64 y.world.events, .int .i64 y.world.chain.af, .slice a5W y.world.chain.ids.length d5W, .slice a6W y.world.nodes.length d6W, .slice a7W y.world.msgs.length d7W, .slice a8W y.world.ae.length d8W] 53) = w5 at *
 have Gw5 : w4.heap.size < w5.heap.size := by rw [← haw5]; simp
 clear haw5
 replace HA0 := yh ((uh HA0).ag nb)
 replace P0 := yh ((uh P0).au nb)
 replace HW := yh ((uh HW).ag nb)
 have Zw5 : w4.heap.size ≤ w5.heap.size := nb.size
 replace HB := yh ((uh HB).trans (nb.mono (by omega)))
 clear nb
 refine (gr _ x0 w5 (uh HA0).reads (uh HN0)).mono ?_
 rintro e w6 ⟨vx0, rfl, O, hb⟩
 replace HA0 := yh ((uh HA0).ag hb)
 replace P0 := yh ((uh P0).au hb)
 replace HW := yh ((uh HW).ag hb)
 replace YW := yh ((uh YW).au hb)
 have Zw6 : w5.heap.size ≤ w6.heap.size := hb.size
 replace HB := yh ((uh HB).trans (hb.mono (by omega)))
 clear hb
 obtain ⟨a3x0, d3x0, a4x0, d4x0, a5x0, d5x0, a6x0, d6x0, rfl, -, -, -, -⟩ := aG O.reads
 have Hx0 := yh O
 clear O
 have nb : Below w6.heap.size w6 (w6.alloc (.cells #[.int .i64 x0.now, .int .i64 x0.events, .int .i64 x0.chain.af, .slice a3x0 x0.chain.ids.length d3x0, .slice a4x0 x0.nodes.length d4x0, .slice a5x0 x0.msgs.length d5x0, .slice a6x0 x0.ae.length d6x0] 37)) := (Below.refl _ _).alloc (Nat.le_refl _) _
 have X0 : Hid (aj w6.heap.size #[.int .i64 x0.now, .int .i64 x0.events, .int .i64 x0.chain.af, .slice a3x0 x0.chain.ids.length d3x0, .slice a4x0 x0.nodes.length d4x0, .slice a5x0 x0.msgs.length d5x0, .slice a6x0 x0.ae.length d6x0] 37 (w6.alloc (.cells #[.int .i64 x0.now, .int .i64 x0.events, .int .i64 x0.chain.af, .slice a3x0 x0.chain.ids.length d3x0, .slice a4x0 x0.nodes.length d4x0, .slice a5x0 x0.msgs.length d5x0, .slice a6x0 x0.ae.length d6x0] 37)) w6.heap.size) := aH (Nat.le_refl _)
 have l0P0 := (uh P0).at 0 _ rfl
 have l1P0 := (uh P0).at 1 _ rfl
 have l2P0 := (uh P0).at 2 _ rfl
 have l3P0 := (uh P0).at 3 _ rfl
 have l4P0 := (uh P0).at 4 _ rfl
 have l5P0 := (uh P0).at 5 _ rfl
 have l6P0 := (uh P0).at 6 _ rfl
 have ltP0 : w.heap.size < w6.heap.size := by omega
 have l0YW := (uh YW).at 0 _ rfl
 have l1YW := (uh YW).at 1 _ rfl
 have l2YW := (uh YW).at 2 _ rfl
 have l3YW := (uh YW).at 3 _ rfl
 have l4YW := (uh YW).at 4 _ rfl
 have l5YW := (uh YW).at 5 _ rfl
 have l6YW := (uh YW).at 6 _ rfl
 have l7YW := (uh YW).at 7 _ rfl
 have l8YW := (uh YW).at 8 _ rfl
 have ltYW : w4.heap.size < w6.heap.size := by omega
 simp only [ga, gb, gc] at l0P0 l1P0 l2P0 l3P0 l4P0 l5P0 l6P0 l0YW l1YW l2YW l3YW l4YW l5YW l6YW l7YW l8YW
 go_wp2_with fail
 clear l0P0 l1P0 l2P0 l3P0 l4P0 l5P0 l6P0 ltP0 l0YW l1YW l2YW l3YW l4YW l5YW l6YW l7YW l8YW ltYW
 generalize haw7 : w6.alloc (.cells #[.int .i64 x0.now, .int .i64 x0.events, .int .i64 x0.chain.af, .slice a3x0 x0.chain.ids.length d3x0, .slice a4x0 x0.nodes.length d4x0, .slice a5x0 x0.msgs.length d5x0, .slice a6x0 x0.ae.length d6x0] 37) = w7 at *
 have Gw7 : w6.heap.size < w7.heap.size := by rw [← haw7]; simp
 clear haw7
 replace HA0 := yh ((uh HA0).ag nb)
 replace P0 := yh ((uh P0).au nb)
 replace HW := yh ((uh HW).ag nb)
 replace YW := yh ((uh YW).au nb)
 replace Hx0 := yh ((uh Hx0).ag nb)
 have Zw7 : w6.heap.size ≤ w7.heap.size := nb.size
 replace HB := yh ((uh HB).trans (nb.mono (by omega)))
 clear nb
 refine (uh HI w7 _ (uh Hx0).reads).mono ?_
 rintro e w8 ⟨cs, rfl, O, hb⟩
 replace HA0 := yh ((uh HA0).ag hb)
 replace P0 := yh ((uh P0).au hb)
 replace HW := yh ((uh HW).ag hb)
 replace YW := yh ((uh YW).au hb)
 replace Hx0 := yh ((uh Hx0).ag hb)
 replace X0 := yh ((uh X0).au hb)
 have Zw8 : w7.heap.size ≤ w8.heap.size := hb.size
 replace HB := yh ((uh HB).trans (hb.mono (by omega)))
 clear hb
 obtain ⟨a5G, d5G, a6G, d6G, a7G, d7G, a8G, d8G, rfl, -⟩ := bQ O.reads
 have HG := yh O
 clear O
 have nb : Below w8.heap.size w8 (w8.alloc (.cells #[.int .i64 y.code, .bool y.bt, .int .i64 y.world.now, .int .i64 y.world.events, .int .i64 y.world.chain.af, .slice a5G y.world.chain.ids.length d5G, .slice a6G y.world.nodes.length d6G, .slice a7G y.world.msgs.length d7G, .slice a8G y.world.ae.length d8G] 53)) := (Below.refl _ _).alloc (Nat.le_refl _) _
 have YG : Hid (aj w8.heap.size #[.int .i64 y.code, .bool y.bt, .int .i64 y.world.now, .int .i64 y.world.events, .int .i64 y.world.chain.af, .slice a5G y.world.chain.ids.length d5G, .slice a6G y.world.nodes.length d6G, .slice a7G y.world.msgs.length d7G, .slice a8G y.world.ae.length d8G] 53 (w8.alloc (.cells #[.int .i64 y.code, .bool y.bt, .int .i64 y.world.now, .int .i64 y.world.events, .int .i64 y.world.chain.af, .slice a5G y.world.chain.ids.length d5G, .slice a6G y.world.nodes.length d6G, .slice a7G y.world.msgs.length d7G, .slice a8G y.world.ae.length d8G] 53)) w8.heap.size) := aH (Nat.le_refl _)
 have l0P0 := (uh P0).at 0 _ rfl
 have l1P0 := (uh P0).at 1 _ rfl
 have l2P0 := (uh P0).at 2 _ rfl
 have l3P0 := (uh P0).at 3 _ rfl
 have l4P0 := (uh P0).at 4 _ rfl
 have l5P0 := (uh P0).at 5 _ rfl
 have l6P0 := (uh P0).at 6 _ rfl
 have ltP0 : w.heap.size < w8.heap.size := by omega
 have l0YW := (uh YW).at 0 _ rfl
 have l1YW := (uh YW).at 1 _ rfl
 have l2YW := (uh YW).at 2 _ rfl
 have l3YW := (uh YW).at 3 _ rfl
 have l4YW := (uh YW).at 4 _ rfl
 have l5YW := (uh YW).at 5 _ rfl
 have l6YW := (uh YW).at 6 _ rfl
 have l7YW := (uh YW).at 7 _ rfl
 have l8YW := (uh YW).at 8 _ rfl
 have ltYW : w4.heap.size < w8.heap.size := by omega
 have l0X0 := (uh X0).at 0 _ rfl
 have l1X0 := (uh X0).at 1 _ rfl
 have l2X0 := (uh X0).at 2 _ rfl
 have l3X0 := (uh X0).at 3 _ rfl
 have l4X0 := (uh X0).at 4 _ rfl
 have l5X0 := (uh X0).at 5 _ rfl
 have l6X0 := (uh X0).at 6 _ rfl
 have ltX0 : w6.heap.size < w8.heap.size := by omega
 simp only [ga, gb, gc] at l0P0 l1P0 l2P0 l3P0 l4P0 l5P0 l6P0 l0YW l1YW l2YW l3YW l4YW l5YW l6YW l7YW l8YW l0X0 l1X0 l2X0 l3X0 l4X0 l5X0 l6X0
 go_wp2_with fail
 clear l0P0 l1P0 l2P0 l3P0 l4P0 l5P0 l6P0 ltP0 l0YW l1YW l2YW l3YW l4YW l5YW l6YW l7YW l8YW ltYW l0X0 l1X0 l2X0 l3X0 l4X0 l5X0 l6X0 ltX0
 generalize haw9 : w8.alloc (.cells #[.int .i64 y.code, .bool y.bt, .int .i64 y.world.now, .int .i64 y.world.events, .int .i64 y.world.chain.af, .slice a5G y.world.chain.ids.length d5G, .slice a6G y.world.nodes.length d6G, .slice a7G y.world.msgs.length d7G, .slice a8G y.world.ae.length d8G] 53) = w9 at *
 have Gw9 : w8.heap.size < w9.heap.size := by rw [← haw9]; simp
 clear haw9
 replace HA0 := yh ((uh HA0).ag nb)
 replace P0 := yh ((uh P0).au nb)
 replace HW := yh ((uh HW).ag nb)
 replace YW := yh ((uh YW).au nb)
 replace Hx0 := yh ((uh Hx0).ag nb)
 replace X0 := yh ((uh X0).au nb)
 replace HG := yh ((uh HG).ag nb)
 have Zw9 : w8.heap.size ≤ w9.heap.size := nb.size
 replace HB := yh ((uh HB).trans (nb.mono (by omega)))
 clear nb
 refine (eg _ _ y w9 (uh HG).reads (uh HW).reads).mono ?_
 rintro e w10 ⟨rfl, hb⟩
 replace HA0 := yh ((uh HA0).ag hb)
 replace P0 := yh ((uh P0).au hb)
 replace HW := yh ((uh HW).ag hb)
 replace YW := yh ((uh YW).au hb)
 replace Hx0 := yh ((uh Hx0).ag hb)
 replace X0 := yh ((uh X0).au hb)
 replace HG := yh ((uh HG).ag hb)
 replace YG := yh ((uh YG).au hb)
 have Zw10 : w9.heap.size ≤ w10.heap.size := hb.size
 replace HB := yh ((uh HB).trans (hb.mono (by omega)))
 clear hb
 have l0P0 := (uh P0).at 0 _ rfl
 have l1P0 := (uh P0).at 1 _ rfl
 have l2P0 := (uh P0).at 2 _ rfl
 have l3P0 := (uh P0).at 3 _ rfl
 have l4P0 := (uh P0).at 4 _ rfl
 have l5P0 := (uh P0).at 5 _ rfl
 have l6P0 := (uh P0).at 6 _ rfl
 have ltP0 : w.heap.size < w10.heap.size := by omega
 have l0YW := (uh YW).at 0 _ rfl
 have l1YW := (uh YW).at 1 _ rfl
 have l2YW := (uh YW).at 2 _ rfl
 have l3YW := (uh YW).at 3 _ rfl
 have l4YW := (uh YW).at 4 _ rfl
 have l5YW := (uh YW).at 5 _ rfl
 have l6YW := (uh YW).at 6 _ rfl
 have l7YW := (uh YW).at 7 _ rfl
 have l8YW := (uh YW).at 8 _ rfl
 have ltYW : w4.heap.size < w10.heap.size := by omega
 have l0X0 := (uh X0).at 0 _ rfl
 have l1X0 := (uh X0).at 1 _ rfl
 have l2X0 := (uh X0).at 2 _ rfl
 have l3X0 := (uh X0).at 3 _ rfl
 have l4X0 := (uh X0).at 4 _ rfl
 have l5X0 := (uh X0).at 5 _ rfl
 have l6X0 := (uh X0).at 6 _ rfl
 have ltX0 : w6.heap.size < w10.heap.size := by omega
 have l0YG := (uh YG).at 0 _ rfl
 have l1YG := (uh YG).at 1 _ rfl
 have l2YG := (uh YG).at 2 _ rfl
 have l3YG := (uh YG).at 3 _ rfl
 have l4YG := (uh YG).at 4 _ rfl
 have l5YG := (uh YG).at 5 _ rfl
 have l6YG := (uh YG).at 6 _ rfl
 have l7YG := (uh YG).at 7 _ rfl
 have l8YG := (uh YG).at 8 _ rfl
 have ltYG : w8.heap.size < w10.heap.size := by omega
 simp only [ga, gb, gc] at l0P0 l1P0 l2P0 l3P0 l4P0 l5P0 l6P0 l0YW l1YW l2YW l3YW l4YW l5YW l6YW l7YW l8YW l0X0 l1X0 l2X0 l3X0 l4X0 l5X0 l6X0 l0YG l1YG l2YG l3YG l4YG l5YG l6YG l7YG l8YG
 go_wp2_with fail
 clear l0P0 l1P0 l2P0 l3P0 l4P0 l5P0 l6P0 ltP0 l0YW l1YW l2YW l3YW l4YW l5YW l6YW l7YW l8YW ltYW l0X0 l1X0 l2X0 l3X0 l4X0 l5X0 l6X0 ltX0 l0YG l1YG l2YG l3YG l4YG l5YG l6YG l7YG l8YG ltYG
 have l0P0 := (uh P0).at 0 _ rfl
 have l1P0 := (uh P0).at 1 _ rfl
 have l2P0 := (uh P0).at 2 _ rfl
 have l3P0 := (uh P0).at 3 _ rfl
 have l4P0 := (uh P0).at 4 _ rfl
 have l5P0 := (uh P0).at 5 _ rfl
 have l6P0 := (uh P0).at 6 _ rfl
 have ltP0 : w.heap.size < w10.heap.size := by omega
 have l0X0 := (uh X0).at 0 _ rfl
 have l1X0 := (uh X0).at 1 _ rfl
 have l2X0 := (uh X0).at 2 _ rfl
 have l3X0 := (uh X0).at 3 _ rfl
 have l4X0 := (uh X0).at 4 _ rfl
 have l5X0 := (uh X0).at 5 _ rfl
 have l6X0 := (uh X0).at 6 _ rfl
 have ltX0 : w6.heap.size < w10.heap.size := by omega
 simp only [ga, gb, gc] at l0P0 l1P0 l2P0 l3P0 l4P0 l5P0 l6P0 l0X0 l1X0 l2X0 l3X0 l4X0 l5X0 l6X0
 refine wZz (fun w' => Below w10.heap.size w10 w') (Below.refl _ _).drew (fun zq => ?_)
 generalize w10.drew = wD at zq ⊢
 refine tkJ 0 (v := ?vs00) ?hs00 zq ?rs00
 case hs00 =>
  intro wS hSw
  have y0P0 := cZ hSw ltP0 l0P0
  have y1P0 := cZ hSw ltP0 l1P0
  have y2P0 := cZ hSw ltP0 l2P0
  have y3P0 := cZ hSw ltP0 l3P0
  have y4P0 := cZ hSw ltP0 l4P0
  have y5P0 := cZ hSw ltP0 l5P0
  have y6P0 := cZ hSw ltP0 l6P0
  have y0X0 := cZ hSw ltX0 l0X0
  have y1X0 := cZ hSw ltX0 l1X0
  have y2X0 := cZ hSw ltX0 l2X0
  have y3X0 := cZ hSw ltX0 l3X0
  have y4X0 := cZ hSw ltX0 l4X0
  have y5X0 := cZ hSw ltX0 l5X0
  have y6X0 := cZ hSw ltX0 l6X0
  clear hSw
  exact fZ
 refine tkJ 1 (v := ?vs01) ?hs01 zq ?rs01
 case hs01 =>
  intro wS hSw
  have y0P0 := cZ hSw ltP0 l0P0
  have y1P0 := cZ hSw ltP0 l1P0
  have y2P0 := cZ hSw ltP0 l2P0
  have y3P0 := cZ hSw ltP0 l3P0
  have y4P0 := cZ hSw ltP0 l4P0
  have y5P0 := cZ hSw ltP0 l5P0
  have y6P0 := cZ hSw ltP0 l6P0
  have y0X0 := cZ hSw ltX0 l0X0
  have y1X0 := cZ hSw ltX0 l1X0
  have y2X0 := cZ hSw ltX0 l2X0
  have y3X0 := cZ hSw ltX0 l3X0
  have y4X0 := cZ hSw ltX0 l4X0
  have y5X0 := cZ hSw ltX0 l5X0
  have y6X0 := cZ hSw ltX0 l6X0
  clear hSw
  exact fZ
 refine rdH 2 (fun K hK => ?_)
 go_simp
 go_at_call 13
 refine (gr _ x0 _ ((uh HA0).reads.ag zq) (uh HN0)).mono ?_
 rintro e wT ⟨vT, rfl, OT, hbw⟩
 have RT := OT.reads
 obtain ⟨a3T, d3T, a4T, d4T, a5T, d5T, a6T, d6T, rfl, -, -, -, -⟩ := aG RT
 try go_wp2_with fail
 refine hK.out _ _ (zq.trans (hbw.mono zq.size)) (fun zq => ?_)
 clear hK K
 try simp only [Act.put, pz, py, px]
 refine rdH 3 (fun K hK => ?_)
 go_simp
 go_at_call 16
 refine (mq _ _ x0 _ ((uh Hx0).reads.ag zq) RT).mono ?_
 rintro e wU0 ⟨rfl, hbw⟩
 try go_wp2_with fail
 refine hK.out _ _ (zq.trans (hbw.mono zq.size)) (fun zq => ?_)
 clear hK K
 try simp only [Act.put, pz, py, px]
 refine tkH 4 zq ?_
 refine dZ ?_
 clear l0P0 l1P0 l2P0 l3P0 l4P0 l5P0 l6P0 ltP0 l0X0 l1X0 l2X0 l3X0 l4X0 l5X0 l6X0 ltX0 OT RT
 have hb : Below w10.heap.size w10 wU0 := zq
 clear zq hbw
 replace HA0 := yh ((uh HA0).ag hb)
 replace P0 := yh ((uh P0).au hb)
 replace HW := yh ((uh HW).ag hb)
 replace YW := yh ((uh YW).au hb)
 replace Hx0 := yh ((uh Hx0).ag hb)
 replace X0 := yh ((uh X0).au hb)
 replace HG := yh ((uh HG).ag hb)
 replace YG := yh ((uh YG).au hb)
 have ZwU0 : w10.heap.size ≤ wU0.heap.size := hb.size
 replace HB := yh ((uh HB).trans (hb.mono (by omega)))
 clear hb
 have l0P0 := (uh P0).at 0 _ rfl
 have l1P0 := (uh P0).at 1 _ rfl
 have l2P0 := (uh P0).at 2 _ rfl
 have l3P0 := (uh P0).at 3 _ rfl
 have l4P0 := (uh P0).at 4 _ rfl
 have l5P0 := (uh P0).at 5 _ rfl
 have l6P0 := (uh P0).at 6 _ rfl
 have ltP0 : w.heap.size < wU0.heap.size := by omega
 have l0YW := (uh YW).at 0 _ rfl
 have l1YW := (uh YW).at 1 _ rfl
 have l2YW := (uh YW).at 2 _ rfl
 have l3YW := (uh YW).at 3 _ rfl
 have l4YW := (uh YW).at 4 _ rfl
 have l5YW := (uh YW).at 5 _ rfl
 have l6YW := (uh YW).at 6 _ rfl
 have l7YW := (uh YW).at 7 _ rfl
 have l8YW := (uh YW).at 8 _ rfl
 have ltYW : w4.heap.size < wU0.heap.size := by omega
 have l0X0 := (uh X0).at 0 _ rfl
 have l1X0 := (uh X0).at 1 _ rfl
 have l2X0 := (uh X0).at 2 _ rfl
 have l3X0 := (uh X0).at 3 _ rfl
 have l4X0 := (uh X0).at 4 _ rfl
 have l5X0 := (uh X0).at 5 _ rfl
 have l6X0 := (uh X0).at 6 _ rfl
 have ltX0 : w6.heap.size < wU0.heap.size := by omega
 have l0YG := (uh YG).at 0 _ rfl
 have l1YG := (uh YG).at 1 _ rfl
 have l2YG := (uh YG).at 2 _ rfl
 have l3YG := (uh YG).at 3 _ rfl
 have l4YG := (uh YG).at 4 _ rfl
 have l5YG := (uh YG).at 5 _ rfl
 have l6YG := (uh YG).at 6 _ rfl
 have l7YG := (uh YG).at 7 _ rfl
 have l8YG := (uh YG).at 8 _ rfl
 have ltYG : w8.heap.size < wU0.heap.size := by omega
 simp only [ga, gb, gc] at l0P0 l1P0 l2P0 l3P0 l4P0 l5P0 l6P0 l0YW l1YW l2YW l3YW l4YW l5YW l6YW l7YW l8YW l0X0 l1X0 l2X0 l3X0 l4X0 l5X0 l6X0 l0YG l1YG l2YG l3YG l4YG l5YG l6YG l7YG l8YG
 go_wp2_with fail
 clear l0P0 l1P0 l2P0 l3P0 l4P0 l5P0 l6P0 ltP0 l0YW l1YW l2YW l3YW l4YW l5YW l6YW l7YW l8YW ltYW l0X0 l1X0 l2X0 l3X0 l4X0 l5X0 l6X0 ltX0 l0YG l1YG l2YG l3YG l4YG l5YG l6YG l7YG l8YG ltYG
 obtain ⟨bl, O, hbl⟩ := uh Hx0
 clear Hx0
 have HCx0 := oD (A := ab.aC) (ew (bd bu (bd bu (bd (ew (bd bu (eD bu))) (bd (eD (ew (bd bu (bd qz (bd bu (bd bu (bd (eD (ew (bd bu (bd bu (bd (eD bu) (bd bu bu)))))) (bd bu bu)))))))) (bd (eD (ew (bd bu (bd bu (bd bu (bd bu (bd bu (ew (bd bu (bd bu (bd (eD bu) (bd bu bu)))))))))))) (eD (ew (bd bu (bd bu (bd bu (bd bu (bd (eD bu) (bd bu (bd bu (bd bu (bd bu (bd (eD bu) (eD (ew (bd bu bu))))))))))))))))))))) (uh HN0) (by omega)
 refine (iB _ x0 bl (1) wU0 O (by omega) (by omega)).mono ?_
 rintro e w12 ⟨rfl, -, E⟩
 replace E := E.mono (S' := within w5.heap.size w6.heap.size) fun b _ hb => hbl b hb
 clear hbl O
 have zlo : w.heap.size ≤ w5.heap.size ∧ w6.heap.size ≤ wU0.heap.size := by omega
 replace HA0 := yh ((uh HA0).ext E (ej (by omega)))
 replace P0 := yh ((uh P0).ext E (fun q => by simp only [within] at q; omega))
 replace HW := yh ((uh HW).ext E (ej (by omega)))
 replace YW := yh ((uh YW).ext E (fun q => by simp only [within] at q; omega))
 replace X0 := yh ((uh X0).ext E (fun q => by simp only [within] at q; omega))
 replace HG := yh ((uh HG).ext E (ej (by omega)))
 replace YG := yh ((uh YG).ext E (fun q => by simp only [within] at q; omega))
 have Zw12 : wU0.heap.size ≤ w12.heap.size := E.size
 replace HB := yh ((uh HB).trans (E.below (by omega) (fun k h q => by simp only [within] at q; omega)))
 clear E
 clear zlo
 obtain ⟨mk, hmk⟩ : ∃ mk : Int, mk = 1 + (ab.aC.ak x0 : Int) := ⟨_, rfl⟩
 rw [← hmk]
 have hm3 : decide (mk < 0) = false := decide_eq_false (by omega)
 clear hmk HCx0
 have l0P0 := (uh P0).at 0 _ rfl
 have l1P0 := (uh P0).at 1 _ rfl
 have l2P0 := (uh P0).at 2 _ rfl
 have l3P0 := (uh P0).at 3 _ rfl
 have l4P0 := (uh P0).at 4 _ rfl
 have l5P0 := (uh P0).at 5 _ rfl
 have l6P0 := (uh P0).at 6 _ rfl
 have ltP0 : w.heap.size < w12.heap.size := by omega
 have l0YW := (uh YW).at 0 _ rfl
 have l1YW := (uh YW).at 1 _ rfl
 have l2YW := (uh YW).at 2 _ rfl
 have l3YW := (uh YW).at 3 _ rfl
 have l4YW := (uh YW).at 4 _ rfl
 have l5YW := (uh YW).at 5 _ rfl
 have l6YW := (uh YW).at 6 _ rfl
 have l7YW := (uh YW).at 7 _ rfl
 have l8YW := (uh YW).at 8 _ rfl
 have ltYW : w4.heap.size < w12.heap.size := by omega
 have l0X0 := (uh X0).at 0 _ rfl
 have l1X0 := (uh X0).at 1 _ rfl
 have l2X0 := (uh X0).at 2 _ rfl
 have l3X0 := (uh X0).at 3 _ rfl
 have l4X0 := (uh X0).at 4 _ rfl
 have l5X0 := (uh X0).at 5 _ rfl
 have l6X0 := (uh X0).at 6 _ rfl
 have ltX0 : w6.heap.size < w12.heap.size := by omega
 have l0YG := (uh YG).at 0 _ rfl
 have l1YG := (uh YG).at 1 _ rfl
 have l2YG := (uh YG).at 2 _ rfl
 have l3YG := (uh YG).at 3 _ rfl
 have l4YG := (uh YG).at 4 _ rfl
 have l5YG := (uh YG).at 5 _ rfl
 have l6YG := (uh YG).at 6 _ rfl
 have l7YG := (uh YG).at 7 _ rfl
 have l8YG := (uh YG).at 8 _ rfl
 have ltYG : w8.heap.size < w12.heap.size := by omega
 simp only [ga, gb, gc] at l0P0 l1P0 l2P0 l3P0 l4P0 l5P0 l6P0 l0YW l1YW l2YW l3YW l4YW l5YW l6YW l7YW l8YW l0X0 l1X0 l2X0 l3X0 l4X0 l5X0 l6X0 l0YG l1YG l2YG l3YG l4YG l5YG l6YG l7YG l8YG
 go_wp2_with fail
 clear l0P0 l1P0 l2P0 l3P0 l4P0 l5P0 l6P0 ltP0 l0YW l1YW l2YW l3YW l4YW l5YW l6YW l7YW l8YW ltYW l0X0 l1X0 l2X0 l3X0 l4X0 l5X0 l6X0 ltX0 l0YG l1YG l2YG l3YG l4YG l5YG l6YG l7YG l8YG ltYG
 refine (eg _ _ y w12 (uh HG).reads (uh HW).reads).mono ?_
 rintro e w13 ⟨rfl, hb⟩
 replace HA0 := yh ((uh HA0).ag hb)
 replace P0 := yh ((uh P0).au hb)
 replace HW := yh ((uh HW).ag hb)
 replace YW := yh ((uh YW).au hb)
 replace X0 := yh ((uh X0).au hb)
 replace HG := yh ((uh HG).ag hb)
 replace YG := yh ((uh YG).au hb)
 have Zw13 : w12.heap.size ≤ w13.heap.size := hb.size
 replace HB := yh ((uh HB).trans (hb.mono (by omega)))
 clear hb
 clear hm3
 have l0P0 := (uh P0).at 0 _ rfl
 have l1P0 := (uh P0).at 1 _ rfl
 have l2P0 := (uh P0).at 2 _ rfl
 have l3P0 := (uh P0).at 3 _ rfl
 have l4P0 := (uh P0).at 4 _ rfl
 have l5P0 := (uh P0).at 5 _ rfl
 have l6P0 := (uh P0).at 6 _ rfl
 have ltP0 : w.heap.size < w13.heap.size := by omega
 have l0YW := (uh YW).at 0 _ rfl
 have l1YW := (uh YW).at 1 _ rfl
 have l2YW := (uh YW).at 2 _ rfl
 have l3YW := (uh YW).at 3 _ rfl
 have l4YW := (uh YW).at 4 _ rfl
 have l5YW := (uh YW).at 5 _ rfl
 have l6YW := (uh YW).at 6 _ rfl
 have l7YW := (uh YW).at 7 _ rfl
 have l8YW := (uh YW).at 8 _ rfl
 have ltYW : w4.heap.size < w13.heap.size := by omega
 have l0X0 := (uh X0).at 0 _ rfl
 have l1X0 := (uh X0).at 1 _ rfl
 have l2X0 := (uh X0).at 2 _ rfl
 have l3X0 := (uh X0).at 3 _ rfl
 have l4X0 := (uh X0).at 4 _ rfl
 have l5X0 := (uh X0).at 5 _ rfl
 have l6X0 := (uh X0).at 6 _ rfl
 have ltX0 : w6.heap.size < w13.heap.size := by omega
 have l0YG := (uh YG).at 0 _ rfl
 have l1YG := (uh YG).at 1 _ rfl
 have l2YG := (uh YG).at 2 _ rfl
 have l3YG := (uh YG).at 3 _ rfl
 have l4YG := (uh YG).at 4 _ rfl
 have l5YG := (uh YG).at 5 _ rfl
 have l6YG := (uh YG).at 6 _ rfl
 have l7YG := (uh YG).at 7 _ rfl
 have l8YG := (uh YG).at 8 _ rfl
 have ltYG : w8.heap.size < w13.heap.size := by omega
 simp only [ga, gb, gc] at l0P0 l1P0 l2P0 l3P0 l4P0 l5P0 l6P0 l0YW l1YW l2YW l3YW l4YW l5YW l6YW l7YW l8YW l0X0 l1X0 l2X0 l3X0 l4X0 l5X0 l6X0 l0YG l1YG l2YG l3YG l4YG l5YG l6YG l7YG l8YG
 go_wp2_with fail
 clear l0P0 l1P0 l2P0 l3P0 l4P0 l5P0 l6P0 ltP0 l0YW l1YW l2YW l3YW l4YW l5YW l6YW l7YW l8YW ltYW l0X0 l1X0 l2X0 l3X0 l4X0 l5X0 l6X0 ltX0 l0YG l1YG l2YG l3YG l4YG l5YG l6YG l7YG l8YG ltYG
 obtain ⟨bl, O, hbl⟩ := uh HG
 clear HG
 have hcy := uh HC
 refine (gL _ y bl 1 w13 O (by omega) (by omega)).mono ?_
 rintro e w14 ⟨rfl, O2, E⟩
 replace E := E.mono (S' := within w7.heap.size w8.heap.size) fun b _ hb => hbl b hb
 have HG : Hid (ab.aB.aQ w14 _ (ab.aB.cq 1 y) w7.heap.size w8.heap.size) := ⟨bl, O2, hbl⟩
 clear hbl O O2
 have zlo : w.heap.size ≤ w7.heap.size ∧ w8.heap.size ≤ w13.heap.size := by omega
 replace HA0 := yh ((uh HA0).ext E (ej (by omega)))
 replace P0 := yh ((uh P0).ext E (fun q => by simp only [within] at q; omega))
 replace HW := yh ((uh HW).ext E (ej (by omega)))
 replace YW := yh ((uh YW).ext E (fun q => by simp only [within] at q; omega))
 replace X0 := yh ((uh X0).ext E (fun q => by simp only [within] at q; omega))
 replace YG := yh ((uh YG).ext E (fun q => by simp only [within] at q; omega))
 have Zw14 : w13.heap.size ≤ w14.heap.size := E.size
 replace HB := yh ((uh HB).trans (E.below (by omega) (fun k h q => by simp only [within] at q; omega)))
 clear E
 clear zlo
 have hq0 : decide (1 + (ab.aB.ak y : Int) < 0) = false := decide_eq_false (by omega)
 have hq1 : ((1 + (ab.aB.ak y : Int)) != (1 + (ab.aB.ak y : Int))) = false := by simp
 clear hcy
 have l0P0 := (uh P0).at 0 _ rfl
 have l1P0 := (uh P0).at 1 _ rfl
 have l2P0 := (uh P0).at 2 _ rfl
 have l3P0 := (uh P0).at 3 _ rfl
 have l4P0 := (uh P0).at 4 _ rfl
 have l5P0 := (uh P0).at 5 _ rfl
 have l6P0 := (uh P0).at 6 _ rfl
 have ltP0 : w.heap.size < w14.heap.size := by omega
 have l0YW := (uh YW).at 0 _ rfl
 have l1YW := (uh YW).at 1 _ rfl
 have l2YW := (uh YW).at 2 _ rfl
 have l3YW := (uh YW).at 3 _ rfl
 have l4YW := (uh YW).at 4 _ rfl
 have l5YW := (uh YW).at 5 _ rfl
 have l6YW := (uh YW).at 6 _ rfl
 have l7YW := (uh YW).at 7 _ rfl
 have l8YW := (uh YW).at 8 _ rfl
 have ltYW : w4.heap.size < w14.heap.size := by omega
 have l0X0 := (uh X0).at 0 _ rfl
 have l1X0 := (uh X0).at 1 _ rfl
 have l2X0 := (uh X0).at 2 _ rfl
 have l3X0 := (uh X0).at 3 _ rfl
 have l4X0 := (uh X0).at 4 _ rfl
 have l5X0 := (uh X0).at 5 _ rfl
 have l6X0 := (uh X0).at 6 _ rfl
 have ltX0 : w6.heap.size < w14.heap.size := by omega
 have l0YG := (uh YG).at 0 _ rfl
 have l1YG := (uh YG).at 1 _ rfl
 have l2YG := (uh YG).at 2 _ rfl
 have l3YG := (uh YG).at 3 _ rfl
 have l4YG := (uh YG).at 4 _ rfl
 have l5YG := (uh YG).at 5 _ rfl
 have l6YG := (uh YG).at 6 _ rfl
 have l7YG := (uh YG).at 7 _ rfl
 have l8YG := (uh YG).at 8 _ rfl
 have ltYG : w8.heap.size < w14.heap.size := by omega
 simp only [ga, gb, gc] at l0P0 l1P0 l2P0 l3P0 l4P0 l5P0 l6P0 l0YW l1YW l2YW l3YW l4YW l5YW l6YW l7YW l8YW l0X0 l1X0 l2X0 l3X0 l4X0 l5X0 l6X0 l0YG l1YG l2YG l3YG l4YG l5YG l6YG l7YG l8YG
 go_wp2_with fail
 clear l0P0 l1P0 l2P0 l3P0 l4P0 l5P0 l6P0 ltP0 l0YW l1YW l2YW l3YW l4YW l5YW l6YW l7YW l8YW ltYW l0X0 l1X0 l2X0 l3X0 l4X0 l5X0 l6X0 ltX0 l0YG l1YG l2YG l3YG l4YG l5YG l6YG l7YG l8YG ltYG
 refine (eQ _ y 1 w14 (uh HG).reads (by omega) (by have := uh HC; omega)).mono ?_
 rintro e w15 ⟨rfl, hb⟩
 replace HA0 := yh ((uh HA0).ag hb)
 replace P0 := yh ((uh P0).au hb)
 replace HW := yh ((uh HW).ag hb)
 replace YW := yh ((uh YW).au hb)
 replace X0 := yh ((uh X0).au hb)
 replace YG := yh ((uh YG).au hb)
 replace HG := yh ((uh HG).ag hb)
 have Zw15 : w14.heap.size ≤ w15.heap.size := hb.size
 replace HB := yh ((uh HB).trans (hb.mono (by omega)))
 clear hb
 have l0P0 := (uh P0).at 0 _ rfl
 have l1P0 := (uh P0).at 1 _ rfl
 have l2P0 := (uh P0).at 2 _ rfl
 have l3P0 := (uh P0).at 3 _ rfl
 have l4P0 := (uh P0).at 4 _ rfl
 have l5P0 := (uh P0).at 5 _ rfl
 have l6P0 := (uh P0).at 6 _ rfl
 have ltP0 : w.heap.size < w15.heap.size := by omega
 have l0YW := (uh YW).at 0 _ rfl
 have l1YW := (uh YW).at 1 _ rfl
 have l2YW := (uh YW).at 2 _ rfl
 have l3YW := (uh YW).at 3 _ rfl
 have l4YW := (uh YW).at 4 _ rfl
 have l5YW := (uh YW).at 5 _ rfl
 have l6YW := (uh YW).at 6 _ rfl
 have l7YW := (uh YW).at 7 _ rfl
 have l8YW := (uh YW).at 8 _ rfl
 have ltYW : w4.heap.size < w15.heap.size := by omega
 have l0X0 := (uh X0).at 0 _ rfl
 have l1X0 := (uh X0).at 1 _ rfl
 have l2X0 := (uh X0).at 2 _ rfl
 have l3X0 := (uh X0).at 3 _ rfl
 have l4X0 := (uh X0).at 4 _ rfl
 have l5X0 := (uh X0).at 5 _ rfl
 have l6X0 := (uh X0).at 6 _ rfl
 have ltX0 : w6.heap.size < w15.heap.size := by omega
 have l0YG := (uh YG).at 0 _ rfl
 have l1YG := (uh YG).at 1 _ rfl
 have l2YG := (uh YG).at 2 _ rfl
 have l3YG := (uh YG).at 3 _ rfl
 have l4YG := (uh YG).at 4 _ rfl
 have l5YG := (uh YG).at 5 _ rfl
 have l6YG := (uh YG).at 6 _ rfl
 have l7YG := (uh YG).at 7 _ rfl
 have l8YG := (uh YG).at 8 _ rfl
 have ltYG : w8.heap.size < w15.heap.size := by omega
 simp only [ga, gb, gc] at l0P0 l1P0 l2P0 l3P0 l4P0 l5P0 l6P0 l0YW l1YW l2YW l3YW l4YW l5YW l6YW l7YW l8YW l0X0 l1X0 l2X0 l3X0 l4X0 l5X0 l6X0 l0YG l1YG l2YG l3YG l4YG l5YG l6YG l7YG l8YG
 go_wp2_with fail
 clear l0P0 l1P0 l2P0 l3P0 l4P0 l5P0 l6P0 ltP0 l0YW l1YW l2YW l3YW l4YW l5YW l6YW l7YW l8YW ltYW l0X0 l1X0 l2X0 l3X0 l4X0 l5X0 l6X0 ltX0 l0YG l1YG l2YG l3YG l4YG l5YG l6YG l7YG l8YG ltYG
 refine (gr _ x0 w15 (uh HA0).reads (uh HN0)).mono ?_
 rintro e w16 ⟨vf0, rfl, O, hb⟩
 replace HA0 := yh ((uh HA0).ag hb)
 replace P0 := yh ((uh P0).au hb)
 replace HW := yh ((uh HW).ag hb)
 replace YW := yh ((uh YW).au hb)
 replace X0 := yh ((uh X0).au hb)
 replace YG := yh ((uh YG).au hb)
 replace HG := yh ((uh HG).ag hb)
 have Zw16 : w15.heap.size ≤ w16.heap.size := hb.size
 replace HB := yh ((uh HB).trans (hb.mono (by omega)))
 clear hb
 obtain ⟨a3f0, d3f0, a4f0, d4f0, a5f0, d5f0, a6f0, d6f0, rfl, -, -, -, -⟩ := aG O.reads
 have Hf0 := yh O
 clear O
 have l0P0 := (uh P0).at 0 _ rfl
 have l1P0 := (uh P0).at 1 _ rfl
 have l2P0 := (uh P0).at 2 _ rfl
 have l3P0 := (uh P0).at 3 _ rfl
 have l4P0 := (uh P0).at 4 _ rfl
 have l5P0 := (uh P0).at 5 _ rfl
 have l6P0 := (uh P0).at 6 _ rfl
 have ltP0 : w.heap.size < w16.heap.size := by omega
 have l0YW := (uh YW).at 0 _ rfl
 have l1YW := (uh YW).at 1 _ rfl
 have l2YW := (uh YW).at 2 _ rfl
 have l3YW := (uh YW).at 3 _ rfl
 have l4YW := (uh YW).at 4 _ rfl
 have l5YW := (uh YW).at 5 _ rfl
 have l6YW := (uh YW).at 6 _ rfl
 have l7YW := (uh YW).at 7 _ rfl
 have l8YW := (uh YW).at 8 _ rfl
 have ltYW : w4.heap.size < w16.heap.size := by omega
 have l0X0 := (uh X0).at 0 _ rfl
 have l1X0 := (uh X0).at 1 _ rfl
 have l2X0 := (uh X0).at 2 _ rfl
 have l3X0 := (uh X0).at 3 _ rfl
 have l4X0 := (uh X0).at 4 _ rfl
 have l5X0 := (uh X0).at 5 _ rfl
 have l6X0 := (uh X0).at 6 _ rfl
 have ltX0 : w6.heap.size < w16.heap.size := by omega
 have l0YG := (uh YG).at 0 _ rfl
 have l1YG := (uh YG).at 1 _ rfl
 have l2YG := (uh YG).at 2 _ rfl
 have l3YG := (uh YG).at 3 _ rfl
 have l4YG := (uh YG).at 4 _ rfl
 have l5YG := (uh YG).at 5 _ rfl
 have l6YG := (uh YG).at 6 _ rfl
 have l7YG := (uh YG).at 7 _ rfl
 have l8YG := (uh YG).at 8 _ rfl
 have ltYG : w8.heap.size < w16.heap.size := by omega
 simp only [ga, gb, gc] at l0P0 l1P0 l2P0 l3P0 l4P0 l5P0 l6P0 l0YW l1YW l2YW l3YW l4YW l5YW l6YW l7YW l8YW l0X0 l1X0 l2X0 l3X0 l4X0 l5X0 l6X0 l0YG l1YG l2YG l3YG l4YG l5YG l6YG l7YG l8YG
 go_wp2_with fail
 clear l0P0 l1P0 l2P0 l3P0 l4P0 l5P0 l6P0 ltP0 l0YW l1YW l2YW l3YW l4YW l5YW l6YW l7YW l8YW ltYW l0X0 l1X0 l2X0 l3X0 l4X0 l5X0 l6X0 ltX0 l0YG l1YG l2YG l3YG l4YG l5YG l6YG l7YG l8YG ltYG
 refine (uh HI w16 _ (uh Hf0).reads).mono ?_
 rintro e w17 ⟨cs, rfl, O, hb⟩
 replace HA0 := yh ((uh HA0).ag hb)
 replace P0 := yh ((uh P0).au hb)
 replace HW := yh ((uh HW).ag hb)
 replace YW := yh ((uh YW).au hb)
 replace X0 := yh ((uh X0).au hb)
 replace YG := yh ((uh YG).au hb)
 replace HG := yh ((uh HG).ag hb)
 replace Hf0 := yh ((uh Hf0).ag hb)
 have Zw17 : w16.heap.size ≤ w17.heap.size := hb.size
 replace HB := yh ((uh HB).trans (hb.mono (by omega)))
 clear hb
 obtain ⟨a5K, d5K, a6K, d6K, a7K, d7K, a8K, d8K, rfl, -⟩ := bQ O.reads
 have HK := yh O
 clear O
 have nb : Below w17.heap.size w17 (w17.alloc (.cells #[.int .i64 y.code, .bool y.bt, .int .i64 y.world.now, .int .i64 y.world.events, .int .i64 y.world.chain.af, .slice a5K y.world.chain.ids.length d5K, .slice a6K y.world.nodes.length d6K, .slice a7K y.world.msgs.length d7K, .slice a8K y.world.ae.length d8K] 53)) := (Below.refl _ _).alloc (Nat.le_refl _) _
 have YK : Hid (aj w17.heap.size #[.int .i64 y.code, .bool y.bt, .int .i64 y.world.now, .int .i64 y.world.events, .int .i64 y.world.chain.af, .slice a5K y.world.chain.ids.length d5K, .slice a6K y.world.nodes.length d6K, .slice a7K y.world.msgs.length d7K, .slice a8K y.world.ae.length d8K] 53 (w17.alloc (.cells #[.int .i64 y.code, .bool y.bt, .int .i64 y.world.now, .int .i64 y.world.events, .int .i64 y.world.chain.af, .slice a5K y.world.chain.ids.length d5K, .slice a6K y.world.nodes.length d6K, .slice a7K y.world.msgs.length d7K, .slice a8K y.world.ae.length d8K] 53)) w17.heap.size) := aH (Nat.le_refl _)
 clear Hf0
 have l0P0 := (uh P0).at 0 _ rfl
 have l1P0 := (uh P0).at 1 _ rfl
 have l2P0 := (uh P0).at 2 _ rfl
 have l3P0 := (uh P0).at 3 _ rfl
 have l4P0 := (uh P0).at 4 _ rfl
 have l5P0 := (uh P0).at 5 _ rfl
 have l6P0 := (uh P0).at 6 _ rfl
 have ltP0 : w.heap.size < w17.heap.size := by omega
 have l0YW := (uh YW).at 0 _ rfl
 have l1YW := (uh YW).at 1 _ rfl
 have l2YW := (uh YW).at 2 _ rfl
 have l3YW := (uh YW).at 3 _ rfl
 have l4YW := (uh YW).at 4 _ rfl
 have l5YW := (uh YW).at 5 _ rfl
 have l6YW := (uh YW).at 6 _ rfl
 have l7YW := (uh YW).at 7 _ rfl
 have l8YW := (uh YW).at 8 _ rfl
 have ltYW : w4.heap.size < w17.heap.size := by omega
 have l0X0 := (uh X0).at 0 _ rfl
 have l1X0 := (uh X0).at 1 _ rfl
 have l2X0 := (uh X0).at 2 _ rfl
 have l3X0 := (uh X0).at 3 _ rfl
 have l4X0 := (uh X0).at 4 _ rfl
 have l5X0 := (uh X0).at 5 _ rfl
 have l6X0 := (uh X0).at 6 _ rfl
 have ltX0 : w6.heap.size < w17.heap.size := by omega
 have l0YG := (uh YG).at 0 _ rfl
 have l1YG := (uh YG).at 1 _ rfl
 have l2YG := (uh YG).at 2 _ rfl
 have l3YG := (uh YG).at 3 _ rfl
 have l4YG := (uh YG).at 4 _ rfl
 have l5YG := (uh YG).at 5 _ rfl
 have l6YG := (uh YG).at 6 _ rfl
 have l7YG := (uh YG).at 7 _ rfl
 have l8YG := (uh YG).at 8 _ rfl
 have ltYG : w8.heap.size < w17.heap.size := by omega
 simp only [ga, gb, gc] at l0P0 l1P0 l2P0 l3P0 l4P0 l5P0 l6P0 l0YW l1YW l2YW l3YW l4YW l5YW l6YW l7YW l8YW l0X0 l1X0 l2X0 l3X0 l4X0 l5X0 l6X0 l0YG l1YG l2YG l3YG l4YG l5YG l6YG l7YG l8YG
 go_wp2_with fail
 clear l0P0 l1P0 l2P0 l3P0 l4P0 l5P0 l6P0 ltP0 l0YW l1YW l2YW l3YW l4YW l5YW l6YW l7YW l8YW ltYW l0X0 l1X0 l2X0 l3X0 l4X0 l5X0 l6X0 ltX0 l0YG l1YG l2YG l3YG l4YG l5YG l6YG l7YG l8YG ltYG
 generalize haw18 : w17.alloc (.cells #[.int .i64 y.code, .bool y.bt, .int .i64 y.world.now, .int .i64 y.world.events, .int .i64 y.world.chain.af, .slice a5K y.world.chain.ids.length d5K, .slice a6K y.world.nodes.length d6K, .slice a7K y.world.msgs.length d7K, .slice a8K y.world.ae.length d8K] 53) = w18 at *
 have Gw18 : w17.heap.size < w18.heap.size := by rw [← haw18]; simp
 clear haw18
 replace HA0 := yh ((uh HA0).ag nb)
 replace P0 := yh ((uh P0).au nb)
 replace HW := yh ((uh HW).ag nb)
 replace YW := yh ((uh YW).au nb)
 replace X0 := yh ((uh X0).au nb)
 replace YG := yh ((uh YG).au nb)
 replace HG := yh ((uh HG).ag nb)
 replace HK := yh ((uh HK).ag nb)
 have Zw18 : w17.heap.size ≤ w18.heap.size := nb.size
 replace HB := yh ((uh HB).trans (nb.mono (by omega)))
 clear nb
 refine (eg _ _ y w18 (uh HK).reads (uh HW).reads).mono ?_
 rintro e w19 ⟨rfl, hb⟩
 replace HA0 := yh ((uh HA0).ag hb)
 replace P0 := yh ((uh P0).au hb)
 replace HW := yh ((uh HW).ag hb)
 replace YW := yh ((uh YW).au hb)
 replace X0 := yh ((uh X0).au hb)
 replace YG := yh ((uh YG).au hb)
 replace HG := yh ((uh HG).ag hb)
 replace HK := yh ((uh HK).ag hb)
 replace YK := yh ((uh YK).au hb)
 have Zw19 : w18.heap.size ≤ w19.heap.size := hb.size
 replace HB := yh ((uh HB).trans (hb.mono (by omega)))
 clear hb
 clear HK
 clear YK
 have l0P0 := (uh P0).at 0 _ rfl
 have l1P0 := (uh P0).at 1 _ rfl
 have l2P0 := (uh P0).at 2 _ rfl
 have l3P0 := (uh P0).at 3 _ rfl
 have l4P0 := (uh P0).at 4 _ rfl
 have l5P0 := (uh P0).at 5 _ rfl
 have l6P0 := (uh P0).at 6 _ rfl
 have ltP0 : w.heap.size < w19.heap.size := by omega
 have l0YW := (uh YW).at 0 _ rfl
 have l1YW := (uh YW).at 1 _ rfl
 have l2YW := (uh YW).at 2 _ rfl
 have l3YW := (uh YW).at 3 _ rfl
 have l4YW := (uh YW).at 4 _ rfl
 have l5YW := (uh YW).at 5 _ rfl
 have l6YW := (uh YW).at 6 _ rfl
 have l7YW := (uh YW).at 7 _ rfl
 have l8YW := (uh YW).at 8 _ rfl
 have ltYW : w4.heap.size < w19.heap.size := by omega
 have l0X0 := (uh X0).at 0 _ rfl
 have l1X0 := (uh X0).at 1 _ rfl
 have l2X0 := (uh X0).at 2 _ rfl
 have l3X0 := (uh X0).at 3 _ rfl
 have l4X0 := (uh X0).at 4 _ rfl
 have l5X0 := (uh X0).at 5 _ rfl
 have l6X0 := (uh X0).at 6 _ rfl
 have ltX0 : w6.heap.size < w19.heap.size := by omega
 have l0YG := (uh YG).at 0 _ rfl
 have l1YG := (uh YG).at 1 _ rfl
 have l2YG := (uh YG).at 2 _ rfl
 have l3YG := (uh YG).at 3 _ rfl
 have l4YG := (uh YG).at 4 _ rfl
 have l5YG := (uh YG).at 5 _ rfl
 have l6YG := (uh YG).at 6 _ rfl
 have l7YG := (uh YG).at 7 _ rfl
 have l8YG := (uh YG).at 8 _ rfl
 have ltYG : w8.heap.size < w19.heap.size := by omega
 simp only [ga, gb, gc] at l0P0 l1P0 l2P0 l3P0 l4P0 l5P0 l6P0 l0YW l1YW l2YW l3YW l4YW l5YW l6YW l7YW l8YW l0X0 l1X0 l2X0 l3X0 l4X0 l5X0 l6X0 l0YG l1YG l2YG l3YG l4YG l5YG l6YG l7YG l8YG
 go_wp2_with fail
 clear l0P0 l1P0 l2P0 l3P0 l4P0 l5P0 l6P0 ltP0 l0YW l1YW l2YW l3YW l4YW l5YW l6YW l7YW l8YW ltYW l0X0 l1X0 l2X0 l3X0 l4X0 l5X0 l6X0 ltX0 l0YG l1YG l2YG l3YG l4YG l5YG l6YG l7YG l8YG ltYG
 refine (eQ _ y 1 w19 (uh HG).reads (by omega) (by have := uh HC; omega)).mono ?_
 rintro e w20 ⟨rfl, hb⟩
 replace HA0 := yh ((uh HA0).ag hb)
 replace P0 := yh ((uh P0).au hb)
 replace HW := yh ((uh HW).ag hb)
 replace YW := yh ((uh YW).au hb)
 replace X0 := yh ((uh X0).au hb)
 replace YG := yh ((uh YG).au hb)
 replace HG := yh ((uh HG).ag hb)
 have Zw20 : w19.heap.size ≤ w20.heap.size := hb.size
 replace HB := yh ((uh HB).trans (hb.mono (by omega)))
 clear hb
 have l0P0 := (uh P0).at 0 _ rfl
 have l1P0 := (uh P0).at 1 _ rfl
 have l2P0 := (uh P0).at 2 _ rfl
 have l3P0 := (uh P0).at 3 _ rfl
 have l4P0 := (uh P0).at 4 _ rfl
 have l5P0 := (uh P0).at 5 _ rfl
 have l6P0 := (uh P0).at 6 _ rfl
 have ltP0 : w.heap.size < w20.heap.size := by omega
 have l0YW := (uh YW).at 0 _ rfl
 have l1YW := (uh YW).at 1 _ rfl
 have l2YW := (uh YW).at 2 _ rfl
 have l3YW := (uh YW).at 3 _ rfl
 have l4YW := (uh YW).at 4 _ rfl
 have l5YW := (uh YW).at 5 _ rfl
 have l6YW := (uh YW).at 6 _ rfl
 have l7YW := (uh YW).at 7 _ rfl
 have l8YW := (uh YW).at 8 _ rfl
 have ltYW : w4.heap.size < w20.heap.size := by omega
 have l0X0 := (uh X0).at 0 _ rfl
 have l1X0 := (uh X0).at 1 _ rfl
 have l2X0 := (uh X0).at 2 _ rfl
 have l3X0 := (uh X0).at 3 _ rfl
 have l4X0 := (uh X0).at 4 _ rfl
 have l5X0 := (uh X0).at 5 _ rfl
 have l6X0 := (uh X0).at 6 _ rfl
 have ltX0 : w6.heap.size < w20.heap.size := by omega
 have l0YG := (uh YG).at 0 _ rfl
 have l1YG := (uh YG).at 1 _ rfl
 have l2YG := (uh YG).at 2 _ rfl
 have l3YG := (uh YG).at 3 _ rfl
 have l4YG := (uh YG).at 4 _ rfl
 have l5YG := (uh YG).at 5 _ rfl
 have l6YG := (uh YG).at 6 _ rfl
 have l7YG := (uh YG).at 7 _ rfl
 have l8YG := (uh YG).at 8 _ rfl
 have ltYG : w8.heap.size < w20.heap.size := by omega
 simp only [ga, gb, gc] at l0P0 l1P0 l2P0 l3P0 l4P0 l5P0 l6P0 l0YW l1YW l2YW l3YW l4YW l5YW l6YW l7YW l8YW l0X0 l1X0 l2X0 l3X0 l4X0 l5X0 l6X0 l0YG l1YG l2YG l3YG l4YG l5YG l6YG l7YG l8YG
 go_wp2_with fail
 clear l0P0 l1P0 l2P0 l3P0 l4P0 l5P0 l6P0 ltP0 l0YW l1YW l2YW l3YW l4YW l5YW l6YW l7YW l8YW ltYW l0X0 l1X0 l2X0 l3X0 l4X0 l5X0 l6X0 ltX0 l0YG l1YG l2YG l3YG l4YG l5YG l6YG l7YG l8YG ltYG
 go_ret
 exact ⟨rfl, uh HB⟩
theorem fF (u0 : List Value) (x0 : ay) (x1 : Int) (x2 : Int) (w : World) (A0 : ab.aC.Reads w u0 x0) (NS : 1048576 < ab.aC.sz x0) :
  Calls Tryz.prog 5 #[.agg u0.toArray, .int .i64 x1, .int .i64 x2] w fun e w' => e = .returned (.bool true) ∧ Below w.heap.size w w' := by
 obtain ⟨a3p0, d3p0, a4p0, d4p0, a5p0, d5p0, a6p0, d6p0, rfl, -, -, -, -⟩ := aG A0
 have HA0 := yh A0.cX
 clear A0
 have HB := yh (Below.refl w.heap.size w)
 go_enter Tryz.func5, Tryz.ntmps5
 go_wp2_with fail
 have nb : Below w.heap.size w (w.alloc (.cells #[.int .i64 x0.now, .int .i64 x0.events, .int .i64 x0.chain.af, .slice a3p0 x0.chain.ids.length d3p0, .slice a4p0 x0.nodes.length d4p0, .slice a5p0 x0.msgs.length d5p0, .slice a6p0 x0.ae.length d6p0] 29)) := (Below.refl w.heap.size w).alloc (Nat.le_refl _) _
 have P0 : Hid (aj w.heap.size #[.int .i64 x0.now, .int .i64 x0.events, .int .i64 x0.chain.af, .slice a3p0 x0.chain.ids.length d3p0, .slice a4p0 x0.nodes.length d4p0, .slice a5p0 x0.msgs.length d5p0, .slice a6p0 x0.ae.length d6p0] 29 (w.alloc (.cells #[.int .i64 x0.now, .int .i64 x0.events, .int .i64 x0.chain.af, .slice a3p0 x0.chain.ids.length d3p0, .slice a4p0 x0.nodes.length d4p0, .slice a5p0 x0.msgs.length d5p0, .slice a6p0 x0.ae.length d6p0] 29)) (w.heap.size)) := bg (by omega) (by simp)
 generalize haw1 : (w.alloc (.cells #[.int .i64 x0.now, .int .i64 x0.events, .int .i64 x0.chain.af, .slice a3p0 x0.chain.ids.length d3p0, .slice a4p0 x0.nodes.length d4p0, .slice a5p0 x0.msgs.length d5p0, .slice a6p0 x0.ae.length d6p0] 29)) = w1 at *
 have Gw1 : w.heap.size + 1 ≤ w1.heap.size := by rw [← haw1]; simp
 clear haw1
 replace HA0 := yh ((uh HA0).ag nb)
 have Zw1 : w.heap.size ≤ w1.heap.size := nb.size
 replace HB := yh ((uh HB).trans (nb.mono (by omega)))
 clear nb
 refine (lW _ x0 (1048576) w1 (uh HA0).reads (by omega)).mono ?_
 rintro e w2 ⟨rfl, hb⟩
 replace HA0 := yh ((uh HA0).ag hb)
 replace P0 := yh ((uh P0).au hb)
 have Zw2 : w1.heap.size ≤ w2.heap.size := hb.size
 replace HB := yh ((uh HB).trans (hb.mono (by omega)))
 clear hb
 rw [ba (by omega)]
 go_wp2_with fail
 go_ret
 exact ⟨rfl, uh HB⟩
def Clear {α : Type} (A : ab α) (w : World) (v : Value) (xs : List α) (lo hi g : Nat) : Prop := ∃ bl, (ab.sl A).bp w [v] xs bl ∧ ∀ b ∈ bl, lo ≤ b ∧ b < hi ∧ b ≠ g
theorem Clear.reads {α : Type} {A : ab α} {w : World} {v : Value} {xs : List α} {lo hi g : Nat} (h : Clear A w v xs lo hi g) : (ab.sl A).Reads w [v] xs := by
 obtain ⟨bl, l, -⟩ := h
 exact ⟨bl, l⟩
theorem Clear.ext {α : Type} {A : ab α} {w w' : World} {v : Value} {xs : List α} {lo hi g : Nat} {S : Nat → Prop} (h : Clear A w v xs lo hi g) (e : Ext S w w') (hs : ∀ k, lo ≤ k → k < hi → k ≠ g → ¬ S k) : Clear A w' v xs lo hi g := by
 obtain ⟨bl, l, hb⟩ := h
 exact ⟨bl, A.sl.au l (fun b hm => e.block b (A.sl.lt l b hm) (hs b (hb b hm).1 (hb b hm).2.1 (hb b hm).2.2)), hb⟩
theorem Clear.wide {α : Type} {A : ab α} {w : World} {v : Value} {xs : List α} {lo hi lo' hi' g : Nat} (h : Clear A w v xs lo hi g) (h1 : lo' ≤ lo) (h2 : hi ≤ hi') : Clear A w v xs lo' hi' g := by
 obtain ⟨bl, l, hb⟩ := h
 exact ⟨bl, l, fun b hm => ⟨by have := hb b hm; omega, by have := hb b hm; omega, (hb b hm).2.2⟩⟩
theorem eP {α : Type} {A : ab α} {w : World} {v : Value} {xs : List α} {lo hi g : Nat} (h : (ab.sl A).cd w [v] xs lo hi) (hg : g < lo ∨ hi ≤ g) : Clear A w v xs lo hi g := by
 obtain ⟨bl, l, hb⟩ := h
 exact ⟨bl, l, fun b hm => ⟨(hb b hm).1, (hb b hm).2, by have := hb b hm; omega⟩⟩
theorem dy {w w' : World} {o : Obj} {r : Option Nat} (h : (w.alloc o).grownBy w' r) : w.grownBy w' r := lO (World.grownBy_alloc w o r) h
theorem fV {P : Program} (t ty e : TypeId) (i : TypeInfo) (ht : P.underlying t = some (.slice e)) (hi : P.info? e = some i) (bo : Option Addr) (n cap c : Nat) (hn : n ≤ cap) (w : World) :
  (Builtin.append_ #[t, t] ty #[.slice bo n cap, .slice none 0 c]).run P w = (Builtin.append_ #[t, t] ty #[.slice bo n cap, .slice (some ⟨0, 0, none⟩) 0 c]).run P w := by
 simp [Builtin.append_, run_underlying ht, sizeOf, typeInfo, hi, Builtin.lenOf, hn, Builtin.firstCells, loadCells, loadCellsFrom]
theorem bU.news {w : World} {b off cap : Nat} {zs : List Int} (h : bU w (.slice (some ⟨b, off, none⟩) zs.length cap) zs) (hp : 0 < zs.length) : ∀ j u, (zs.map (Value.int .i64))[j]? = some u → w.cell? ((⟨b, off, none⟩ : Addr).add j) = some u := by
 intro j u hu
 obtain ⟨ao, cp, hv, hwf, hc⟩ := h
 obtain ⟨b', off', hao, hc1⟩ := hc hp
 simp only [Value.slice.injEq] at hv
 obtain ⟨rfl, -, -⟩ := hv
 simp only [Option.some.injEq, Addr.mk.injEq, and_true] at hao
 obtain ⟨rfl, rfl⟩ := hao
 have hj : j < zs.length := by
  have := (List.getElem?_eq_some_iff.1 hu).1
  simpa using this
 rw [Addr.add_lit, hc1 j hj]
 simp [hj] at hu
 simp [List.getD, hj, hu]
theorem ir {w : World} (base ty : Nat) (v : Value) (n : Nat) (xs : List Value) (hown : w.ownsRow base 2 1 v n xs) (x : Value) (ks : List Int) (hx : bU w x ks)
  (hn : n + ks.length ≤ 100000000) (hbase : base ≤ w.heap.size) :
  ∃ v' w', (Builtin.append_ #[22, 22] ty #[v, x]).run Tryz.prog w = .ok v' w' ∧ w'.ownsRow base 2 1 v' (n + ks.length) (xs ++ ks.map (Value.int .i64)) ∧ w.grownBy w' v.ownBlock := by
 obtain ⟨i0, hi, hz0, hz1, hz2⟩ := info_parts pS
 have hml : n + ks.length ≤ maxLen := by unfold maxLen; omega
 by_cases hp : 0 < ks.length
 ·
  have hx' := hx
  obtain ⟨ao, cap, rfl, hwf, hc⟩ := hx'
  obtain ⟨b, off, rfl, hc1⟩ := hc hp
  obtain ⟨v', w', r1, r2, r3, -, -⟩ := run_append_own_at (P := Tryz.prog) w base 22 ty 2 i0 _ 1 8 Tryz.underlying22 hi hz0 hz1 hz2 rfl (by omega) v n xs hown ⟨b, off, none⟩ ks.length cap (ks.map (Value.int .i64)) (by simp) (hx.news hp) (by simp [Value.oneCell']) hml (by omega) hbase
  exact ⟨v', w', r1, r2, r3⟩
 obtain rfl : ks = [] := List.eq_nil_of_length_eq_zero (by omega)
 obtain ⟨ao, cap, rfl, hwf, hc⟩ := hx
 cases ao with
 | none =>
  obtain ⟨v', w', r1, r2, r3, -, -⟩ := run_append_own_at (P := Tryz.prog) w base 22 ty 2 i0 _ 1 8 Tryz.underlying22 hi hz0 hz1 hz2 rfl (by omega) v n xs hown ⟨0, 0, none⟩ 0 cap [] rfl (by simp) (by simp) hml (by simp at hn; omega) hbase
  refine ⟨v', w', ?_, r2, r3⟩
  rcases hown.2 with ⟨rfl, h0⟩ | ⟨g, cp, cur, rfl, _, _, hle, _⟩
  ·
   exact (fV _ _ _ i0 Tryz.underlying22 hi none 0 0 cap (Nat.le_refl _) w).trans r1
  exact (fV _ _ _ i0 Tryz.underlying22 hi _ n cp cap hle w).trans r1
 | some ad =>
  obtain ⟨v', w', r1, r2, r3, -, -⟩ := run_append_own_at (P := Tryz.prog) w base 22 ty 2 i0 _ 1 8 Tryz.underlying22 hi hz0 hz1 hz2 rfl (by omega) v n xs hown ad 0 cap [] rfl (by simp) (by simp) hml (by simp at hn; omega) hbase
  exact ⟨v', w', r1, r2, r3⟩
theorem ed {w : World} {base : Nat} {v : Value} {n : Nat} {xs : List Value} (hown : w.ownsRow base 2 1 v n xs) {X : Value} {ks : List Int} (hx : bU w X ks)
  {ops : Array Oper} {rest : List Oper} {o : Oper} {a : Act} {Q : Exit → Act → World → Prop} (hgd : o.guard = none) (s x : Operand)
  (ho : o.op = .call { callee := .builtin .append, args := #[s, x], argTypes := #[22, 22] }) (hv : a.eval s = v) (hX : a.eval x = X)
  (hn : n + ks.length ≤ 100000000) (hbase : base ≤ w.heap.size)
  (h : ∀ v' w', w'.ownsRow base 2 1 v' (n + ks.length) (xs ++ ks.map (Value.int .i64)) → w.grownBy w' v.ownBlock → Below base w w' → wpList Tryz.prog ops Q rest (a.put o.dst v') w') :
  wpList Tryz.prog ops Q (o :: rest) a w := by
 refine wpList_plain hgd fun K hK => ?_
 obtain ⟨v', w', hr, h2, h3⟩ := ir base o.type v n xs hown X ks hx hn hbase
 unfold Oper.wp execOp
 simp only [ho, resolve, invoke, builtin, Sem.run_bind, Sem.run_pure, Result.andThen_ok, List.map_toArray, List.map_cons, List.map_nil, hv, hX, hr]
 exact hK _ _ (h v' w' h2 h3 ((Below.refl _ _).grown h3 hbase (fun j hj => (hown.lt j hj).1)))
theorem jr (v : Value) (zs : List Int) (w : World) (h : bU w v zs) (hn : zs.length ≤ 100000000) :
  Calls Tryz.prog 52 #[v] w fun e w' => ∃ v', e = .returned v' ∧ w'.ownsRow w.heap.size 2 1 v' zs.length (zs.map (Value.int .i64)) ∧ Below w.heap.size w w' := by
 have nb : Below w.heap.size w (w.alloc (.cells #[] 2)) := (Below.refl _ _).alloc (Nat.le_refl _) _
 have O : (w.alloc (.cells #[] 2)).ownsRow w.heap.size 2 1 (.slice (some ⟨w.heap.size, 0, none⟩) 0 0) 0 [] := World.ownsRow_lit w _ 0 (Nat.le_refl _) (by unfold maxLen; omega) rfl
 have h1 := h.ag nb
 obtain ⟨ao, cap, rfl, -⟩ := h
 have HB := yh nb
 clear nb
 go_enter Tryz.func52, Tryz.ntmps52
 go_wp2_with (at_builtin; refine ed O h1 rfl _ _ rfl rfl rfl (by omega) (by simp) ?_)
 rintro v' w' O2 - hb
 have HB2 := yh ((uh HB).trans hb)
 clear O h1 hb HB
 go_wp2_with fail
 go_ret
 exact ⟨v', rfl, by simpa using O2, uh HB2⟩
structure eU where
 code : Int
 value : Int
def ab.eS : ab eU := ab.via (ab.pair ab.int ab.int) (fun x => (x.code, x.value)) (fun p => ⟨p.1, p.2⟩)
theorem fe {w : World} {cs : List Value} {x : eU} {bl : List Nat} : ab.eS.bp w cs x bl ↔ cs = [.int .i64 x.code, .int .i64 x.value] ∧ bl = [] ∧ (Lit.int .i64 x.code).wf = true ∧ (Lit.int .i64 x.value).wf = true := by
 constructor
 ·
  intro h
  obtain ⟨c0_, r0_, e0_, s0_, rfl, rfl, h0, h1⟩ := h
  obtain ⟨rfl, w0, rfl⟩ := h0
  obtain ⟨rfl, w1, rfl⟩ := h1
  exact ⟨by simp, by simp, w0, w1⟩
 rintro ⟨rfl, hbl, w0, w1⟩
 rw [hbl]
 exact ⟨[.int .i64 x.code], [.int .i64 x.value], [], [], rfl, by simp, ⟨rfl, w0, rfl⟩, ⟨rfl, w1, rfl⟩⟩
end Go.Proofs.YtecagllmonckgaaGreat

namespace Go.Proofs.YtecagllmonckgaaGreat
end Go.Proofs.YtecagllmonckgaaGreat

namespace Go.Proofs.YtecagllmonckgaaGreat
end Go.Proofs.YtecagllmonckgaaGreat

namespace Go.Proofs.YtecagllmonckgaaGreat
open Go.RowKit
def sb (ids : List Int) (id : Int) : Nat := ids.findIdx (· == id)
def bL (ids : List Int) (id : Int) : Int := if sb ids id < ids.length then (sb ids id : Int) else -1
def eZ : List Int → List Int → Int
 | _, [] => 0
 | pre, z :: zs => if 1 ≤ z ∧ z ≤ 5 then (if z ∈ pre then 6 else eZ (pre ++ [z]) zs) else 3
def aM (x : bH) : Int :=
 if 1 ≤ x.af ∧ x.af ≤ 999 then (if 1 ≤ x.ids.length ∧ x.ids.length ≤ 5 then eZ [] x.ids else 2) else 3
def nC : bH := ⟨0, []⟩
theorem oA (ids : List Int) (id : Int) : -1 ≤ bL ids id ∧ bL ids id < ids.length + 1 := by
 unfold bL
 split <;> omega
theorem iE (ids : List Int) (id : Int) : bL ids id < 0 ↔ id ∉ ids := by
 unfold bL sb
 have h := List.findIdx_lt_length (p := fun z => z == id) (xs := ids)
 constructor
 ·
  intro h1 hm
  rw [if_pos (h.2 ⟨id, hm, by simp⟩)] at h1
  omega
 intro h1
 rw [if_neg]
 ·
  omega
 intro h2
 obtain ⟨z, hz, e⟩ := h.1 h2
 rw [beq_iff_eq] at e
 rw [e] at hz
 exact h1 hz
theorem gJ {ids : List Int} {id : Int} {k : Nat} (hk : k < ids.length) (h : ids[k] = id) (hb : ∀ j (hj : j < k), ids[j] ≠ id) : bL ids id = (k : Int) := by
 have e : sb ids id = k := by
  unfold sb
  rw [List.findIdx_eq hk]
  exact ⟨by simpa using h, fun j hj => by simpa using hb j hj⟩
 rw [bL, e, if_pos hk]
theorem hD {ids : List Int} {id : Int} (hb : ∀ j (hj : j < ids.length), ids[j] ≠ id) : bL ids id = -1 := by
 have h1 : bL ids id < 0 := by
  rw [iE]
  intro hm
  obtain ⟨j, hj, e⟩ := List.getElem_of_mem hm
  exact hb j hj e
 have := oA ids id
 omega
theorem m6 {ids : List Int} {id : Int} (h : 0 ≤ bL ids id) : ∃ (k : Nat) (hk : k < ids.length), bL ids id = (k : Int) ∧ ids[k] = id ∧ ∀ j (hj : j < k), ids[j] ≠ id := by
 have hl : sb ids id < ids.length := by
  unfold bL at h
  split at h
  ·
   assumption
  omega
 refine ⟨sb ids id, hl, by rw [bL, if_pos hl], ?_, fun j hj => ?_⟩
 ·
  have := List.findIdx_getElem (xs := ids) (p := fun z => z == id) (w := hl)
  exact beq_iff_eq.1 this
 have := List.not_of_lt_findIdx (xs := ids) (p := fun z => z == id) hj
 simpa using this
theorem jZ : ∀ (zs pre : List Int), 0 ≤ eZ pre zs ∧ eZ pre zs ≤ 6
 | [], _ => by simp [eZ]
 | z :: zs, pre => by
  rw [eZ]
  split
  ·
   split
   ·
    omega
   exact jZ zs _
  omega
theorem iv (x : bH) : 0 ≤ aM x ∧ aM x ≤ 6 := by
 have := jZ x.ids []
 unfold aM
 split
 ·
  split <;> omega
 omega
theorem kb (ids : List Int) (k : Nat) (hk : k < ids.length) : eZ (ids.take k) (ids.drop k) = if 1 ≤ ids[k] ∧ ids[k] ≤ 5 then (if ids[k] ∈ ids.take k then 6 else eZ (ids.take (k + 1)) (ids.drop (k + 1))) else 3 := by
 conv => lhs; rw [List.drop_eq_getElem_cons hk, eZ]
 rw [List.take_succ_eq_append_getElem hk]
theorem ml (ids : List Int) : eZ (ids.take ids.length) (ids.drop ids.length) = 0 := by simp [eZ]
theorem lY {ids : List Int} {k : Nat} (hk : k < ids.length) : (bL ids ids[k] = (k : Int)) ↔ ids[k] ∉ ids.take k := by
 constructor
 ·
  intro h hm
  obtain ⟨j, hj, e⟩ := List.getElem_of_mem hm
  rw [List.length_take] at hj
  rw [List.getElem_take] at e
  obtain ⟨m, hm1, h1, h2, h3⟩ := m6 (ids := ids) (id := ids[k]) (by omega)
  obtain rfl : m = k := by omega
  exact h3 j (by omega) e
 intro h
 refine gJ hk rfl fun j hj e => h ?_
 rw [List.mem_iff_getElem]
 exact ⟨j, by rw [List.length_take]; omega, by rw [List.getElem_take]; exact e⟩
structure qH (x : bH) : Prop where
 af : 1 ≤ x.af ∧ x.af ≤ 999
 len : 1 ≤ x.ids.length ∧ x.ids.length ≤ 5
 ids : ∀ z ∈ x.ids, 1 ≤ z ∧ z ≤ 5
 nodup : x.ids.Nodup
theorem km : ∀ (zs pre : List Int), eZ pre zs = 0 → (∀ z ∈ zs, 1 ≤ z ∧ z ≤ 5) ∧ zs.Nodup ∧ ∀ z ∈ zs, z ∉ pre
 | [], _, _ => by simp
 | z :: zs, pre, h => by
  rw [eZ] at h
  split at h
  ·
   rename_i h1
   split at h
   ·
    simp at h
   rename_i h2
   obtain ⟨q1, q2, q3⟩ := km zs _ h
   refine ⟨?_, ?_, ?_⟩
   ·
    intro u hu
    rcases List.mem_cons.1 hu with rfl | hu
    ·
     exact h1
    exact q1 u hu
   ·
    refine List.nodup_cons.2 ⟨fun hm => q3 z hm (by simp), q2⟩
   intro u hu hp
   rcases List.mem_cons.1 hu with rfl | hu
   ·
    exact h2 hp
   exact q3 u hu (List.mem_append_left _ hp)
  simp at h
theorem cE {x : bH} (h : aM x = 0) : qH x := by
 unfold aM at h
 split at h
 ·
  rename_i h1
  split at h
  ·
   rename_i h2
   obtain ⟨q1, q2, -⟩ := km _ _ h
   exact ⟨h1, h2, q1, q2⟩
  simp at h
 simp at h
theorem rN {α : Type} {A : ab α} {w4 : World} {s : Nat} {cs vs : List Value} {y : α} {lo hi : Nat} (h : A.cd w4 cs y lo hi) (hs : s < lo) : A.cd (aO w4 s 0 vs) cs y lo hi :=
 h.ext (bD (fun q => q = s) (Ext.refl _ _) _ _ _ rfl) (fun q h1 h2 h3 => by omega)
theorem nr {α : Type} {A : ab α} {w4 : World} {s : Nat} {cs vs : List Value} {y : α} {lo hi : Nat} (h : A.aQ w4 cs y lo hi) (hs : s < lo) : A.aQ (aO w4 s 0 vs) cs y lo hi :=
 h.ext (bD (fun q => q = s) (Ext.refl _ _) _ _ _ rfl) (fun q h1 h2 h3 => by omega)
theorem fD {α : Type} {A : ab α} {w : World} {lo hi : Nat} : (ab.sl A).aQ w [.slice none 0 0] [] lo hi := ⟨[], ⟨⟨none, 0, rfl, by simp, Or.inl ⟨rfl, rfl⟩⟩, by simp, by simp⟩, by simp⟩
theorem dO {w : World} {b off cap k : Nat} {zs : List Int} (h : (ab.sl ab.int).Reads w [.slice (some ⟨b, off, none⟩) zs.length cap] zs) (hk : k < zs.length) : w.cell? ⟨b, off + k, none⟩ = some (.int .i64 zs[k]) := by
 obtain ⟨bl, h⟩ := h
 obtain ⟨ao, cp, e, -, -, h⟩ := ab.du.1 h
 simp only [Value.slice.injEq] at e
 obtain ⟨rfl, -, rfl⟩ := e
 rcases h with ⟨rfl, -⟩ | ⟨b', off', e2, -, -, hj⟩
 ·
  simp at hk
 simp only [Option.some.injEq, Addr.mk.injEq, and_true] at e2
 obtain ⟨rfl, rfl⟩ := e2
 rw [hj k hk]
 simp [List.getD, hk]
theorem lr (cs : List Value) (x : bH) (w : World) (h : ab.aD.Reads w cs x) (hn : x.ids.length ≤ 100000000) :
  Calls Tryz.prog 170 #[.agg cs.toArray] w fun e w' => ∃ a c, e = .returned (.agg #[.int .i64 x.af, .slice a x.ids.length c]) ∧ (ab.sl ab.int).aQ w' [.slice a x.ids.length c] x.ids w.heap.size w'.heap.size ∧ Below w.heap.size w w' := by
 obtain ⟨a3, d3, rfl, R3⟩ := bP h
 have nb : Below w.heap.size w ((w.alloc (.cells #[.int .i64 x.af, .slice a3 x.ids.length d3] 32)).alloc (.cells #[.int .i64 0, .slice none 0 0] 32)) := ((Below.refl _ _).alloc (Nat.le_refl _) _).alloc (by simp) _
 have HX : Hid (aj 0 #[.int .i64 x.af, .slice a3 x.ids.length d3] 32 ((w.alloc (.cells #[.int .i64 x.af, .slice a3 x.ids.length d3] 32)).alloc (.cells #[.int .i64 0, .slice none 0 0] 32)) w.heap.size) := (aH (Nat.zero_le _)).grow _
 have HY : Hid (aj 0 #[.int .i64 0, .slice none 0 0] 32 ((w.alloc (.cells #[.int .i64 x.af, .slice a3 x.ids.length d3] 32)).alloc (.cells #[.int .i64 0, .slice none 0 0] 32)) (w.heap.size + 1)) := bg (Nat.zero_le _) (by simp)
 have hz0 : w.heap.size + 1 < ((w.alloc (.cells #[.int .i64 x.af, .slice a3 x.ids.length d3] 32)).alloc (.cells #[.int .i64 0, .slice none 0 0] 32)).heap.size := by simp
 have HL := yh (jr _ x.ids _ (ab.bn (R3.ag nb)) hn)
 have HWF := yh (ab.bn R3).wf
 have HN := yh hn
 have HB := yh nb
 clear nb h R3 hn
 go_enter Tryz.func170, Tryz.ntmps170
 go_upto_region 1 with fail
 generalize (w.alloc (.cells #[.int .i64 x.af, .slice a3 x.ids.length d3] 32)).alloc (.cells #[.int .i64 0, .slice none 0 0] 32) = W0 at *
 have z0 := aj.at (uh HX) 0 _ rfl
 have z1 := aj.at (uh HX) 1 _ rfl
 simp only [ga, gb, gc] at z0 z1
 have zl := (uh HX).lt
 go_wp2_with fail
 refine (uh HL).mono ?_
 rintro e w1 ⟨v', rfl, O, hb⟩
 obtain ⟨a, c, rfl⟩ := ec O
 have hx := (uh HX).au hb
 have hy := (uh HY).au hb
 clear z0 z1 zl
 have z0 := aj.at hx 0 _ rfl
 have z1 := aj.at hx 1 _ rfl
 have y0 := aj.at hy 0 _ rfl
 have y1 := aj.at hy 1 _ rfl
 simp only [ga, gb, gc] at z0 z1 y0 y1
 have zf := aj.soft hx
 have zl := hx.lt
 have yf := aj.soft hy
 have yl := hy.lt
 have hI := ab.ez (uh HWF) (by have := uh HN; omega) O
 have e1 : Ext (fun q => q = w.heap.size ∨ q = w.heap.size + 1) w1 (((w1.setCell ⟨w.heap.size, 1, none⟩ (.slice a x.ids.length c)).setCell ⟨w.heap.size + 1, 0, none⟩ (.int .i64 x.af)).setCell ⟨w.heap.size + 1, 1, none⟩ (.slice a x.ids.length c)) :=
  (((Ext.refl _ _).setCell _ _ (Or.inl rfl)).setCell _ _ (Or.inr rfl)).setCell _ _ (Or.inr rfl)
 have HI := yh ((hI.ext e1 (fun q h1 h2 h3 => by omega)).mono (show w.heap.size ≤ W0.heap.size by omega) (show w1.heap.size ≤ (((w1.setCell ⟨w.heap.size, 1, none⟩ (.slice a x.ids.length c)).setCell ⟨w.heap.size + 1, 0, none⟩ (.int .i64 x.af)).setCell ⟨w.heap.size + 1, 1, none⟩ (.slice a x.ids.length c)).heap.size by simp))
 have HB9 := yh (((((uh HB).trans (hb.mono (uh HB).size)).setCell (p := ⟨w.heap.size, 1, none⟩) (Nat.le_refl _) (.slice a x.ids.length c)).setCell (p := ⟨w.heap.size + 1, 0, none⟩) (by simp) (.int .i64 x.af)).setCell (p := ⟨w.heap.size + 1, 1, none⟩) (by simp) (.slice a x.ids.length c))
 clear hx hy hb O hI e1 HL HX HY HB
 go_wp2_with fail
 refine bodyPost_ret (v := .agg #[.int .i64 x.af, .slice a x.ids.length c]) (by simp [results, Tryz.results170, go_sem, y0, y1]) rfl ?_
 exact ⟨a, c, rfl, uh HI, uh HB9⟩
theorem mY : (Tryz.prog.info? 145).map (fun i => (i.zero, i.size, i.bytes)) = some (some (.agg #[.int .i64 0, .int .i64 0, .int .i64 0, .int .i64 0, .int .i64 0, .int .i64 0, .int .i64 0, .slice none 0 0, .int .i64 0, .int .i64 0]), 10, 96) := by kernel_rfl
theorem qM {w : World} {row : List Value} {x : bJ} {bl : List Nat} (h : ab.aJ.bp w row x bl) : (∀ u ∈ row, u.oneCell' = true) ∧ row.length = 1 * 10 := by
 obtain ⟨_, _, _, rfl, -⟩ := dV.1 h
 simp [Value.oneCell']
theorem gx {w1 : World} {base : Nat} {v : Value} {rows : List (List Value)} {xs : List bJ} {bls : List (List Nat)} (hG : bN ab.aJ w1 base 145 v rows xs bls) {row : List Value} {x : bJ} {bl : List Nat} (hl : ab.aJ.bp w1 row x bl) (hbl : ∀ b ∈ bl, v.ownBlock ≠ some b) {ops : Array Oper} {rest : List Oper} {o : Oper} {a : Act} {Q : Exit → Act → World → Prop} (hgd : o.guard = none) (s y : Operand)
  (ho : o.op = .call { callee := .builtin .append, args := #[s, y], argTypes := #[34, 34] }) (hs : a.eval s = v) (hy : a.eval y = .slice (some ⟨w1.heap.size, 0, none⟩) 1 1) (hn : xs.length + 1 ≤ 100000000) (hbase : base ≤ w1.heap.size)
  (h : ∀ g cap w', bN ab.aJ w' base 145 (.slice (some ⟨g, 0, none⟩) (xs.length + 1) cap) (rows ++ [row]) (xs ++ [x]) (bls ++ [bl]) → Below base w1 w' → Ext (fun q => v.ownBlock = some q) w1 w' → g < w'.heap.size → w1.heap.size ≤ w'.heap.size → (v.ownBlock = some g ∨ w1.heap.size ≤ g) → wpList Tryz.prog ops Q rest (a.put o.dst (.slice (some ⟨g, 0, none⟩) (xs.length + 1) cap)) w') :
  wpList Tryz.prog ops Q (o :: rest) a (w1.alloc (.cells row.toArray 145)) := by
 obtain ⟨i0, hi0, hz0, hz1, hz2⟩ := info_parts mY
 obtain ⟨h1, hlen⟩ := qM hl
 refine wpList_append_lies _ hgd s y 34 ho base 145 i0 _ 10 96 Tryz.underlying34 hi0 hz0 hz1 hz2 rfl (by omega) v xs.length rows.flatten hs (hG.own.alloc _) ⟨w1.heap.size, 0, none⟩ 1 1 row hy hlen (World.news_of_block (cs := row.toArray) (t := 145) (fr := (0, 0)) (heap_alloc_new w1 _)) h1 (by omega) (by unfold maxLen; omega) (by omega) (by simp; omega) (w1.alloc (.cells row.toArray 145)).heap.size rfl ?_
 intro g cap w' h2 h3 h4 h5
 have hg := dy h3
 have hbw : Below base w1 w' := (Below.refl _ _).grown hg hbase (fun j hj => (hG.own.lt j hj).1)
 have hor : v.ownBlock = some g ∨ w1.heap.size ≤ g := by
  rcases h4 with h4 | h4
  ·
   exact Or.inl h4
  exact Or.inr (by rw [h4]; simp)
 exact h g cap w' (hG.snoc hl hbl h2 hg hor) hbw ⟨hbw.os, hbw.tape, hbw.output, hbw.size, fun k hk hn => hg.block k hk (fun e => hn e.symm)⟩ h5 hbw.size hor
theorem eE (v lo hi : Int) (w : World) :
  Calls Tryz.prog 102 #[.int .i64 v, .int .i64 lo, .int .i64 hi] w fun e w' => e = .returned (.bool (decide (lo ≤ v) && decide (v ≤ hi))) ∧ w' = w := by
 by_cases h1 : lo ≤ v
 ·
  have d1 : decide (lo ≤ v) = true := by simpa using h1
  rw [d1]
  cases d2 : decide (v ≤ hi) <;>
  ·
   go_enter Tryz.func102, Tryz.ntmps102
   go_wp2_with fail
   go_ret
   exact ⟨rfl, rfl⟩
 have d1 : decide (lo ≤ v) = false := by simpa using h1
 rw [d1]
 go_enter Tryz.func102, Tryz.ntmps102
 go_wp2_with fail
 go_ret
 exact ⟨rfl, rfl⟩
theorem rL (x : Int) (w : World) : Calls Tryz.prog 47 #[.int .i64 x] w fun e w' => e = .returned (.bool (decide (1 ≤ x) && decide (x ≤ 999))) ∧ w' = w := by
 go_enter Tryz.func47, Tryz.ntmps47
 go_wp2_with fail
 refine (eE x 1 999 _).mono ?_
 rintro e w1 ⟨rfl, rfl⟩
 go_wp2_with fail
 go_ret
 exact ⟨rfl, rfl⟩
theorem eR (x : Int) (w : World) : Calls Tryz.prog 274 #[.int .i64 x] w fun e w' => e = .returned (.bool (decide (1 ≤ x) && decide (x ≤ 9))) ∧ w' = w := by
 go_enter Tryz.func274, Tryz.ntmps274
 go_wp2_with fail
 refine (eE x 1 9 _).mono ?_
 rintro e w1 ⟨rfl, rfl⟩
 go_wp2_with fail
 go_ret
 exact ⟨rfl, rfl⟩
theorem jy (ao : Option Addr) (n cap : Nat) (w : World) (h : n ≠ 3) :
  Calls Tryz.prog 202 #[.slice ao n cap] w fun e w' => e = .returned (.int .i64 1) ∧ w' = w := by
 have h3 : ((n : Int) != 3) = true := by rw [bne_iff_ne]; omega
 go_enter Tryz.func202, Tryz.ntmps202
 go_wp2
 go_ret
 exact ⟨rfl, rfl⟩
theorem iy (b off cap : Nat) (zs : List Int) (w : World) (h : zs.length = 3) (hc : ∀ j, j < 3 → w.cell? ⟨b, off + j, none⟩ = some (.int .i64 (zs.getD j 0))) :
  Calls Tryz.prog 202 #[.slice (some ⟨b, off, none⟩) 3 cap] w fun e w' => e = .returned (.int .i64 (bj zs)) ∧ w' = w := by
 go_enter Tryz.func202, Tryz.ntmps202
 go_wp2
 go_loop [10] (fun i => ∃ k : Nat, k ≤ 3 ∧ i = .int .i64 k ∧ ∀ j, j < k → dL (zs.getD j 0) = true) (fun i => 3 - (intOf i).toNat)
 case atStart => exact ⟨0, Nat.zero_le _, rfl, fun j hj => by omega⟩
 case round =>
  obtain ⟨k, hk, rfl, hg⟩ := hrel
  have HG : Hid (∀ j, j < k → dL (zs.getD j 0) = true) := hg
  have HL : Hid (zs.length = 3) := h
  clear hg h
  by_cases hlt : k < 3
  ·
   have hcx : w.cell? ⟨b, off + k, none⟩ = some (.int .i64 (zs.getD k 0)) := hc k hlt
   obtain ⟨z, hz⟩ : ∃ z, z = zs.getD k 0 := ⟨_, rfl⟩
   rw [← hz] at hcx
   have HZ : Hid (z = zs.getD k 0) := hz
   clear hz hc
   cases hp : dL z with
   | true =>
    have hb := fP hp
    have HP : Hid (dL z = true) := hp
    clear hp
    obtain ⟨hb1, hb2⟩ := hb
    go_wp2
    go_round
    case rel =>
     refine ⟨k + 1, by omega, by go_num, fun j hj => ?_⟩
     by_cases hjk : j < k
     ·
      exact HG.out j hjk
     rw [show j = k by omega, ← HZ.out]; exact HP.out
    case measure => simp [intOf]; omega
   | false =>
    have HV : Hid (bj zs = 3) := fS HL.out k hlt (by rw [← HZ.out]; exact hp)
    have hb := ig hp
    clear hp
    rcases hb with hb | hb
    ·
     go_wp2
     go_ret
     exact ⟨by rw [HV.out]; rfl, rfl⟩
    have hb1 : -1000 ≤ z := by omega
    have hd : decide (z ≤ 1000) = false := by simp; omega
    go_wp2
    go_ret
    exact ⟨by rw [HV.out]; rfl, rfl⟩
  have HV : Hid (bj zs = 0) := gS HL.out (fun j hj => HG.out j (by omega))
  go_wp2
  go_ret
  exact ⟨by rw [HV.out]; rfl, rfl⟩
theorem iJ (ao : Option Addr) (n cap : Nat) (w : World) (h : n ≠ 3) :
  Calls Tryz.prog 74 #[.slice ao n cap] w fun e w' => e = .returned (.int .i64 1) ∧ w' = w := by
 have h3 : ((n : Int) != 3) = true := by rw [bne_iff_ne]; omega
 go_enter Tryz.func74, Tryz.ntmps74
 go_wp2
 go_ret
 exact ⟨rfl, rfl⟩
theorem gK (b off cap : Nat) (zs : List Int) (w : World) (h : zs.length = 3) (hc : ∀ j, j < 3 → w.cell? ⟨b, off + j, none⟩ = some (.int .i64 (zs.getD j 0))) :
  Calls Tryz.prog 74 #[.slice (some ⟨b, off, none⟩) 3 cap] w fun e w' => e = .returned (.int .i64 (bj zs)) ∧ w' = w := by
 go_enter Tryz.func74, Tryz.ntmps74
 go_wp2
 go_loop [3] (fun i => ∃ k : Nat, k ≤ 3 ∧ i = .int .i64 k ∧ ∀ j, j < k → dL (zs.getD j 0) = true) (fun i => 3 - (intOf i).toNat)
 case atStart => exact ⟨0, Nat.zero_le _, rfl, fun j hj => by omega⟩
 case round =>
  obtain ⟨k, hk, rfl, hg⟩ := hrel
  have HG : Hid (∀ j, j < k → dL (zs.getD j 0) = true) := hg
  have HL : Hid (zs.length = 3) := h
  clear hg h
  by_cases hlt : k < 3
  ·
   have hcx : w.cell? ⟨b, off + k, none⟩ = some (.int .i64 (zs.getD k 0)) := hc k hlt
   obtain ⟨z, hz⟩ : ∃ z, z = zs.getD k 0 := ⟨_, rfl⟩
   rw [← hz] at hcx
   have HZ : Hid (z = zs.getD k 0) := hz
   clear hz hc
   cases hp : dL z with
   | true =>
    have hb := fP hp
    have HP : Hid (dL z = true) := hp
    clear hp
    obtain ⟨hb1, hb2⟩ := hb
    go_wp2
    go_round
    case rel =>
     refine ⟨k + 1, by omega, by go_num, fun j hj => ?_⟩
     by_cases hjk : j < k
     ·
      exact HG.out j hjk
     rw [show j = k by omega, ← HZ.out]; exact HP.out
    case measure => simp [intOf]; omega
   | false =>
    have HV : Hid (bj zs = 3) := fS HL.out k hlt (by rw [← HZ.out]; exact hp)
    have hb := ig hp
    clear hp
    rcases hb with hb | hb
    ·
     go_wp2
     go_ret
     exact ⟨by rw [HV.out]; rfl, rfl⟩
    have hb1 : -1000 ≤ z := by omega
    have hd : decide (z ≤ 1000) = false := by simp; omega
    go_wp2
    go_ret
    exact ⟨by rw [HV.out]; rfl, rfl⟩
  have HV : Hid (bj zs = 0) := gS HL.out (fun j hj => HG.out j (by omega))
  go_wp2
  go_ret
  exact ⟨by rw [HV.out]; rfl, rfl⟩
theorem jP (v : Value) (zs : List Int) (w : World) (h : bU w v zs) :
  Calls Tryz.prog 202 #[v] w fun e w' => e = .returned (.int .i64 (bj zs)) ∧ w' = w := by
 obtain ⟨ao, cap, rfl, hwf, hc⟩ := h
 by_cases h3 : zs.length = 3
 ·
  obtain ⟨b, off, rfl, hc1⟩ := hc (by omega)
  rw [h3] at hc1 ⊢
  exact iy b off cap zs w h3 hc1
 rw [gB h3]
 exact jy ao zs.length cap w h3
theorem mK (v : Value) (zs : List Int) (w : World) (h : bU w v zs) :
  Calls Tryz.prog 74 #[v] w fun e w' => e = .returned (.int .i64 (bj zs)) ∧ w' = w := by
 obtain ⟨ao, cap, rfl, hwf, hc⟩ := h
 by_cases h3 : zs.length = 3
 ·
  obtain ⟨b, off, rfl, hc1⟩ := hc (by omega)
  rw [h3] at hc1 ⊢
  exact gK b off cap zs w h3 hc1
 rw [gB h3]
 exact iJ ao zs.length cap w h3
def dH (k : Int) (n : Nat) : Bool := (decide (1 ≤ k) && decide (k ≤ 2)) && !(k == 2 && decide (0 < (n : Int)))
def de (i s q : Int) : Bool := (decide (1 ≤ i) && decide (i ≤ 999)) && ((decide (1 ≤ s) && decide (s ≤ 9)) && (decide (1 ≤ q) && decide (q ≤ 999)))
def aK (k i : Int) (zs : List Int) (s q : Int) : Int :=
 if dH k zs.length then (if de i s q then (if k = 1 then bj zs else 0) else 3) else 1
def pW (w : World) (b o : Nat) (k i : Int) (v : Value) (s q : Int) : Prop :=
 w.cell? ⟨b, o, none⟩ = some (.int .i64 k) ∧ w.cell? ⟨b, o + 1, none⟩ = some (.int .i64 i) ∧ w.cell? ⟨b, o + 2, none⟩ = some v ∧ w.cell? ⟨b, o + 3, none⟩ = some (.int .i64 s) ∧ w.cell? ⟨b, o + 4, none⟩ = some (.int .i64 q)
theorem mA (b o : Nat) (k i : Int) (v : Value) (s q : Int) (zs : List Int) (w : World) (hc : pW w b o k i v s q) (h : bU w v zs) :
  Calls Tryz.prog 250 #[.pointer (some ⟨b, o, none⟩)] w fun e w' => e = .returned (.int .i64 (aK k i zs s q)) ∧ w' = w := by
 have hv : ∃ a c, v = .slice a zs.length c := by obtain ⟨a, c, h, -⟩ := h; exact ⟨a, c, h⟩
 obtain ⟨av, cv, rfl⟩ := hv
 obtain ⟨c0, c1, c2, c3, c4⟩ := hc
 have HH := yh h
 clear h
 generalize hF : aK k i zs s q = F
 have HF := yh hF
 clear hF
 cases d1 : (decide (1 ≤ k) && decide (k ≤ 2)) with
 | false =>
  have hE : F = 1 := by rw [← uh HF, aK, dH, d1]; rfl
  subst hE
  go_enter Tryz.func250, Tryz.ntmps250
  go_wp2_with fail
  refine (eE k 1 2 _).mono ?_
  rintro e w1 ⟨rfl, rfl⟩
  rw [d1]
  go_wp2_with fail
  go_ret
  exact ⟨rfl, rfl⟩
 | true =>
  have hk : k = 1 ∨ k = 2 := by
   simp only [Bool.and_eq_true, decide_eq_true_eq] at d1
   omega
  clear d1
  rcases hk with rfl | rfl
  ·
   have hK : dH 1 zs.length = true := rfl
   cases dI : (decide (1 ≤ i) && decide (i ≤ 999)) with
   | false =>
    have hE : F = 3 := by rw [← uh HF, aK, hK, if_pos rfl, de, dI]; rfl
    subst hE
    go_enter Tryz.func250, Tryz.ntmps250
    go_wp2_with fail
    refine (eE 1 1 2 _).mono ?_
    rintro e w1 ⟨rfl, rfl⟩
    go_wp2_with fail
    refine (rL i _).mono ?_
    rintro e w1 ⟨rfl, rfl⟩
    rw [dI]
    go_wp2_with fail
    go_ret
    exact ⟨rfl, rfl⟩
   | true =>
    cases dS : (decide (1 ≤ s) && decide (s ≤ 9)) with
    | false =>
     have hE : F = 3 := by rw [← uh HF, aK, hK, if_pos rfl, de, dI, dS]; rfl
     subst hE
     go_enter Tryz.func250, Tryz.ntmps250
     go_wp2_with fail
     refine (eE 1 1 2 _).mono ?_
     rintro e w1 ⟨rfl, rfl⟩
     go_wp2_with fail
     refine (rL i _).mono ?_
     rintro e w1 ⟨rfl, rfl⟩
     rw [dI]
     go_wp2_with fail
     refine (eR s _).mono ?_
     rintro e w1 ⟨rfl, rfl⟩
     rw [dS]
     go_wp2_with fail
     go_ret
     exact ⟨rfl, rfl⟩
    | true =>
     cases dQ : (decide (1 ≤ q) && decide (q ≤ 999)) with
     | false =>
      have hE : F = 3 := by rw [← uh HF, aK, hK, if_pos rfl, de, dI, dS, dQ]; rfl
      subst hE
      go_enter Tryz.func250, Tryz.ntmps250
      go_wp2_with fail
      refine (eE 1 1 2 _).mono ?_
      rintro e w1 ⟨rfl, rfl⟩
      go_wp2_with fail
      refine (rL i _).mono ?_
      rintro e w1 ⟨rfl, rfl⟩
      rw [dI]
      go_wp2_with fail
      refine (eR s _).mono ?_
      rintro e w1 ⟨rfl, rfl⟩
      rw [dS]
      go_wp2_with fail
      refine (eE q 1 999 _).mono ?_
      rintro e w1 ⟨rfl, rfl⟩
      rw [dQ]
      go_wp2_with fail
      go_ret
      exact ⟨rfl, rfl⟩
     | true =>
      have hE : F = bj zs := by rw [← uh HF, aK, hK, if_pos rfl, de, dI, dS, dQ]; rfl
      subst hE
      go_enter Tryz.func250, Tryz.ntmps250
      go_wp2_with fail
      refine (eE 1 1 2 _).mono ?_
      rintro e w1 ⟨rfl, rfl⟩
      go_wp2_with fail
      refine (rL i _).mono ?_
      rintro e w1 ⟨rfl, rfl⟩
      rw [dI]
      go_wp2_with fail
      refine (eR s _).mono ?_
      rintro e w1 ⟨rfl, rfl⟩
      rw [dS]
      go_wp2_with fail
      refine (eE q 1 999 _).mono ?_
      rintro e w1 ⟨rfl, rfl⟩
      rw [dQ]
      go_wp2_with fail
      refine (mK _ zs _ (uh HH)).mono ?_
      rintro e w1 ⟨rfl, rfl⟩
      go_wp2_with fail
      go_ret
      exact ⟨rfl, rfl⟩
  by_cases hz : zs.length = 0
  ·
   obtain rfl : zs = [] := List.eq_nil_of_length_eq_zero hz
   have hK : dH 2 ([] : List Int).length = true := rfl
   simp only [List.length_nil] at c2 hK
   clear hz
   cases dI : (decide (1 ≤ i) && decide (i ≤ 999)) with
   | false =>
    have hE : F = 3 := by rw [← uh HF, aK, show dH 2 ([] : List Int).length = true from rfl, if_pos rfl, de, dI]; rfl
    subst hE
    go_enter Tryz.func250, Tryz.ntmps250
    go_wp2_with fail
    refine (eE 2 1 2 _).mono ?_
    rintro e w1 ⟨rfl, rfl⟩
    go_wp2_with fail
    refine (rL i _).mono ?_
    rintro e w1 ⟨rfl, rfl⟩
    rw [dI]
    go_wp2_with fail
    go_ret
    exact ⟨rfl, rfl⟩
   | true =>
    cases dS : (decide (1 ≤ s) && decide (s ≤ 9)) with
    | false =>
     have hE : F = 3 := by rw [← uh HF, aK, show dH 2 ([] : List Int).length = true from rfl, if_pos rfl, de, dI, dS]; rfl
     subst hE
     go_enter Tryz.func250, Tryz.ntmps250
     go_wp2_with fail
     refine (eE 2 1 2 _).mono ?_
     rintro e w1 ⟨rfl, rfl⟩
     go_wp2_with fail
     refine (rL i _).mono ?_
     rintro e w1 ⟨rfl, rfl⟩
     rw [dI]
     go_wp2_with fail
     refine (eR s _).mono ?_
     rintro e w1 ⟨rfl, rfl⟩
     rw [dS]
     go_wp2_with fail
     go_ret
     exact ⟨rfl, rfl⟩
    | true =>
     cases dQ : (decide (1 ≤ q) && decide (q ≤ 999)) with
     | false =>
      have hE : F = 3 := by rw [← uh HF, aK, show dH 2 ([] : List Int).length = true from rfl, if_pos rfl, de, dI, dS, dQ]; rfl
      subst hE
      go_enter Tryz.func250, Tryz.ntmps250
      go_wp2_with fail
      refine (eE 2 1 2 _).mono ?_
      rintro e w1 ⟨rfl, rfl⟩
      go_wp2_with fail
      refine (rL i _).mono ?_
      rintro e w1 ⟨rfl, rfl⟩
      rw [dI]
      go_wp2_with fail
      refine (eR s _).mono ?_
      rintro e w1 ⟨rfl, rfl⟩
      rw [dS]
      go_wp2_with fail
      refine (eE q 1 999 _).mono ?_
      rintro e w1 ⟨rfl, rfl⟩
      rw [dQ]
      go_wp2_with fail
      go_ret
      exact ⟨rfl, rfl⟩
     | true =>
      have hE : F = 0 := by rw [← uh HF, aK, show dH 2 ([] : List Int).length = true from rfl, if_pos rfl, de, dI, dS, dQ]; rfl
      subst hE
      go_enter Tryz.func250, Tryz.ntmps250
      go_wp2_with fail
      refine (eE 2 1 2 _).mono ?_
      rintro e w1 ⟨rfl, rfl⟩
      go_wp2_with fail
      refine (rL i _).mono ?_
      rintro e w1 ⟨rfl, rfl⟩
      rw [dI]
      go_wp2_with fail
      refine (eR s _).mono ?_
      rintro e w1 ⟨rfl, rfl⟩
      rw [dS]
      go_wp2_with fail
      refine (eE q 1 999 _).mono ?_
      rintro e w1 ⟨rfl, rfl⟩
      rw [dQ]
      go_wp2_with fail
      go_ret
      exact ⟨rfl, rfl⟩
  have hE : F = 1 := by
   have : dH 2 zs.length = false := by simp [dH]; omega
   rw [← uh HF, aK, this]; rfl
  subst hE
  obtain ⟨m, hm⟩ : ∃ m, zs.length = m + 1 := ⟨zs.length - 1, by omega⟩
  rw [hm] at c2
  clear hz hm
  go_enter Tryz.func250, Tryz.ntmps250
  go_wp2_with fail
  refine (eE 2 1 2 _).mono ?_
  rintro e w1 ⟨rfl, rfl⟩
  go_wp2_with fail
  go_ret
  exact ⟨rfl, rfl⟩
theorem ca {k i s q : Int} {zs : List Int} (h : aK k i zs s q = 0) : (1 ≤ i ∧ i ≤ 999) ∧ (1 ≤ s ∧ s ≤ 9) ∧ (1 ≤ q ∧ q ≤ 999) ∧ ((k = 1 ∧ bj zs = 0) ∨ (k = 2 ∧ zs = [])) := by
 unfold aK at h
 split at h
 ·
  next hk =>
  split at h
  ·
   next hb =>
   simp only [dH, Bool.and_eq_true, decide_eq_true_eq, Bool.not_eq_true', Bool.and_eq_false_iff] at hk
   simp only [de, Bool.and_eq_true, decide_eq_true_eq] at hb
   refine ⟨hb.1, hb.2.1, hb.2.2, ?_⟩
   by_cases h1 : k = 1
   ·
    rw [if_pos h1] at h
    exact Or.inl ⟨h1, h⟩
   have h2 : k = 2 := by omega
   refine Or.inr ⟨h2, ?_⟩
   rcases hk.2 with h3 | h3
   ·
    simp [h2] at h3
   simp at h3
   exact h3
  omega
 omega
def wF (x : aA) : Int := aK x.kind x.id x.vec x.aa x.seq
def cc : List aA → Int
 | [] => 0
 | x :: xs => if wF x = 0 then cc xs else wF x
def aY (ws : List aA) : Int := if 200 < ws.length then 2 else cc ws
theorem gD (ws : List aA) (k : Nat) (h : k < ws.length) (hz : ∀ j (hj : j < ws.length), j < k → wF ws[j] = 0) (hn : wF ws[k] ≠ 0) : cc ws = wF ws[k] := by
 induction ws generalizing k with
 | nil => simp at h
 | cons x xs ih =>
  match k with
  | 0 => rw [cc, if_neg (by simpa using hn)]; rfl
  | k + 1 =>
   have h0 : wF x = 0 := hz 0 (by simp) (by omega)
   rw [cc, if_pos h0]
   exact ih k (by simpa using h) (fun j hj hjk => hz (j + 1) (by simpa using hj) (by omega)) (by simpa using hn)
theorem eo (ws : List aA) (hz : ∀ j (hj : j < ws.length), wF ws[j] = 0) : cc ws = 0 := by
 induction ws with
 | nil => rfl
 | cons x xs ih =>
  have h0 : wF x = 0 := hz 0 (by simp)
  rw [cc, if_pos h0]
  exact ih fun j hj => hz (j + 1) (by simpa using hj)
theorem hJ {ws : List aA} (h : cc ws = 0) : ∀ x ∈ ws, wF x = 0 := by
 induction ws with
 | nil => simp
 | cons x xs ih =>
  rw [cc] at h
  by_cases h0 : wF x = 0
  ·
   rw [if_pos h0] at h
   intro y hy
   rcases List.mem_cons.1 hy with rfl | hy
   ·
    exact h0
   exact ih h y hy
  rw [if_neg h0] at h; exact absurd h h0
theorem fY {ws : List aA} (h : aY ws = 0) : ws.length ≤ 200 ∧ ∀ x ∈ ws, wF x = 0 := by
 unfold aY at h
 by_cases hn : 200 < ws.length
 ·
  rw [if_pos hn] at h; cases h
 rw [if_neg hn] at h; exact ⟨by omega, hJ h⟩
theorem kz (x : aA) : 0 ≤ wF x ∧ wF x ≤ 3 := by
 have hv := jD x.vec
 unfold wF aK
 split
 ·
  split
  ·
   split
   ·
    exact hv
   decide
  decide
 decide
theorem mj (ws : List aA) : 0 ≤ cc ws ∧ cc ws ≤ 3 := by
 induction ws with
 | nil => decide
 | cons x xs ih =>
  rw [cc]
  split
  ·
   exact ih
  exact kz x
def aV (ws : List aA) (s : Int) : Int := ws.foldl (fun n x => if x.aa = s then max n x.seq else n) 0
def cy (s q : Int) : Nat → List aA → Nat
 | _, [] => 0
 | n, x :: xs => if x.aa = s ∧ x.seq = q then n + 1 else cy s q (n + 1) xs
def bM (ws : List aA) (s q : Int) : Nat := cy s q 0 ws
def cP : List aA → List aA → Bool
 | _, [] => true
 | pre, x :: xs => decide (aV pre x.aa < x.seq) && cP (pre ++ [x]) xs
def fp (ws : List aA) (s : Int) : Int := if aY ws = 0 then (if 1 ≤ s ∧ s ≤ 9 then 0 else 3) else aY ws
theorem iX (ws : List aA) (x : aA) (s : Int) : aV (ws ++ [x]) s = if x.aa = s then max (aV ws s) x.seq else aV ws s := by
 simp [aV]
theorem iS (ws : List aA) (k : Nat) (h : k < ws.length) (s : Int) : aV (ws.take (k + 1)) s = if ws[k].aa = s then max (aV (ws.take k) s) ws[k].seq else aV (ws.take k) s := by
 rw [List.take_succ_eq_append_getElem h, iX]
theorem fJ (s q : Int) (x : aA) : ∀ (ws : List aA) (n : Nat), cy s q n (ws ++ [x]) = if cy s q n ws = 0 then (if x.aa = s ∧ x.seq = q then n + ws.length + 1 else 0) else cy s q n ws
 | [], n => by simp [cy]
 | y :: ws, n => by
  rw [List.cons_append, cy, cy]
  by_cases h : y.aa = s ∧ y.seq = q
  ·
   rw [if_pos h, if_pos h, if_neg (by omega)]
  rw [if_neg h, if_neg h, fJ s q x ws (n + 1)]
  simp only [List.length_cons]
  rw [show n + 1 + ws.length + 1 = n + (ws.length + 1) + 1 by omega]
theorem iH (ws : List aA) (x : aA) (s q : Int) : bM (ws ++ [x]) s q = if bM ws s q = 0 then (if x.aa = s ∧ x.seq = q then ws.length + 1 else 0) else bM ws s q := by
 have := fJ s q x ws 0
 rw [Nat.zero_add] at this
 exact this
theorem jk (ws : List aA) (s q : Int) : bM ws s q ≤ ws.length := by
 have : ∀ (ws : List aA) (n : Nat), cy s q n ws ≤ n + ws.length := by
  intro ws
  induction ws with
  | nil => intro n; simp [cy]
  | cons x xs ih =>
   intro n
   rw [cy]
   split
   ·
    simp only [List.length_cons]; omega
   have := ih (n + 1)
   simp only [List.length_cons]
   omega
 have := this ws 0
 rw [Nat.zero_add] at this
 exact this
theorem hY (s q : Int) : ∀ (ws : List aA) (n k : Nat) (h : k < ws.length), (∀ j (hj : j < ws.length), j < k → ¬ (ws[j].aa = s ∧ ws[j].seq = q)) → (ws[k].aa = s ∧ ws[k].seq = q) → cy s q n ws = n + k + 1
 | [], _, _, h, _, _ => by simp at h
 | x :: xs, n, 0, _, _, hk => by rw [cy, if_pos (by simpa using hk)]
 | x :: xs, n, k + 1, h, hn, hk => by
  have h0 := hn 0 (by simp) (by omega)
  rw [cy, if_neg (by simpa using h0), hY s q xs (n + 1) k (by simpa using h) (fun j hj hjk => by have := hn (j + 1) (by simpa using hj) (by omega); simpa using this) (by simpa using hk)]
  omega
theorem qy {s q : Int} {ws : List aA} {k : Nat} (h : k < ws.length) (hn : ∀ j (hj : j < ws.length), j < k → ¬ (ws[j].aa = s ∧ ws[j].seq = q)) (hk : ws[k].aa = s ∧ ws[k].seq = q) : bM ws s q = k + 1 := by
 have := hY s q ws 0 k h hn hk
 rw [Nat.zero_add] at this
 exact this
theorem iQ {s q : Int} {ws : List aA} (hn : ∀ j (hj : j < ws.length), ¬ (ws[j].aa = s ∧ ws[j].seq = q)) : bM ws s q = 0 := by
 have : ∀ (ws : List aA) (n : Nat), (∀ j (hj : j < ws.length), ¬ (ws[j].aa = s ∧ ws[j].seq = q)) → cy s q n ws = 0 := by
  intro ws
  induction ws with
  | nil => intro n _; rfl
  | cons x xs ih =>
   intro n hn
   have h0 := hn 0 (by simp)
   rw [cy, if_neg (by simpa using h0)]
   exact ih (n + 1) fun j hj => by have := hn (j + 1) (by simpa using hj); simpa using this
 exact this ws 0 hn
theorem jm : ∀ (ws pre : List aA) (k : Nat) (h : k < ws.length), (ws[k]).seq ≤ aV (pre ++ ws.take k) (ws[k]).aa → cP pre ws = false
 | [], _, _, h, _ => by simp at h
 | x :: xs, pre, 0, _, hk => by
  have : ¬ (aV pre x.aa < x.seq) := by simpa using hk
  simp [cP, this]
 | x :: xs, pre, k + 1, h, hk => by
  rw [cP, jm xs (pre ++ [x]) k (by simpa using h) (by simpa using hk), Bool.and_false]
theorem gN : ∀ (ws pre : List aA), (∀ k (h : k < ws.length), aV (pre ++ ws.take k) (ws[k]).aa < (ws[k]).seq) → cP pre ws = true
 | [], _, _ => rfl
 | x :: xs, pre, h => by
  have h0 := h 0 (by simp)
  rw [cP, gN xs (pre ++ [x]) fun k hk => by have := h (k + 1) (by simpa using hk); simpa using this]
  simpa using h0
def gY (ws : List aA) : Bool := decide (aY ws = 0) && cP [] ws
theorem np {x : aA} (h : wF x = 0) : 1 ≤ x.aa ∧ x.aa ≤ 9 ∧ 1 ≤ x.seq ∧ x.seq ≤ 999 := by
 obtain ⟨-, h1, h2, -⟩ := ca h
 exact ⟨h1.1, h1.2, h2.1, h2.2⟩
def dg (x y : aA) : Bool := x.kind == y.kind && (x.id == y.id && (x.aa == y.aa && (x.seq == y.seq && decide (x.vec = y.vec))))
def kW (y : aA) : Prop := y.kind = 0 ∧ y.id = 0 ∧ y.aa = 0 ∧ y.seq = 0 ∧ y.vec.length = 0
instance (y : aA) : Decidable (kW y) := by unfold kW; infer_instance
def aF (x : bJ) : Int :=
 if ¬ (1 ≤ x.kind ∧ x.kind ≤ 2) ∨ x.src = x.dst ∨ (x.kind = 2 ∧ ¬ kW x.write) then 1
 else if ¬ (1 ≤ x.af ∧ x.af ≤ 999) ∨ ¬ (1 ≤ x.src ∧ x.src ≤ 5) ∨ ¬ (1 ≤ x.dst ∧ x.dst ≤ 5) ∨ ¬ (0 ≤ x.index ∧ x.index ≤ 40) ∨ (x.kind ≠ 2 ∧ x.index = 0) then 3
 else if x.kind = 2 then 0 else wF x.write
def cb : List bJ → Int
 | [] => 0
 | x :: xs => if aF x = 0 then cb xs else aF x
def aX (xs : List bJ) : Int := if 40 < xs.length then 2 else cb xs
theorem jC (x : bJ) : 0 ≤ aF x ∧ aF x ≤ 6 := by
 have := kz x.write
 unfold aF
 split
 ·
  omega
 split
 ·
  omega
 split
 ·
  omega
 omega
theorem fL : ∀ xs : List bJ, 0 ≤ cb xs ∧ cb xs ≤ 6
 | [] => by simp [cb]
 | x :: xs => by
  rw [cb]
  split
  ·
   exact fL xs
  exact jC x
theorem jE (xs : List bJ) : 0 ≤ aX xs ∧ aX xs ≤ 6 := by
 unfold aX
 split
 ·
  omega
 exact fL xs
theorem fK : ∀ {xs : List bJ}, cb xs = 0 → ∀ x ∈ xs, aF x = 0
 | [], _, _, h => by cases h
 | x :: xs, h, y, hy => by
  rw [cb] at h
  by_cases h1 : aF x = 0
  ·
   rw [if_pos h1] at h
   rcases List.mem_cons.1 hy with rfl | hy
   ·
    exact h1
   exact fK h y hy
  rw [if_neg h1] at h
  exact absurd h h1
theorem fR : ∀ {xs : List bJ}, (∀ x ∈ xs, aF x = 0) → cb xs = 0
 | [], _ => rfl
 | x :: xs, h => by
  rw [cb, if_pos (h x (by simp))]
  exact fR fun y hy => h y (List.mem_cons_of_mem _ hy)
theorem ic : ∀ {xs : List bJ} {k : Nat} (hk : k < xs.length), (∀ j (hj : j < k), aF xs[j] = 0) → aF xs[k] ≠ 0 → cb xs = aF xs[k]
 | x :: xs, 0, hk, _, h => by
  have h1 : aF x ≠ 0 := h
  rw [cb, if_neg h1]
  rfl
 | x :: xs, k + 1, hk, hb, h => by
  have h1 : aF x = 0 := hb 0 (by omega)
  rw [cb, if_pos h1]
  exact ic (xs := xs) (k := k) (by simpa using hk) (fun j hj => hb (j + 1) (by omega)) h
theorem gz (x : Int) (w : World) : Calls Tryz.prog 208 #[.int .i64 x] w fun e w' => e = .returned (.bool (decide (1 ≤ x) && decide (x ≤ 5))) ∧ w' = w := by
 go_enter Tryz.func208, Tryz.ntmps208
 go_wp2_with fail
 refine (eE x 1 5 _).mono ?_
 rintro e w1 ⟨rfl, rfl⟩
 go_wp2_with fail
 go_ret
 exact ⟨rfl, rfl⟩
end Go.Proofs.YtecagllmonckgaaGreat
