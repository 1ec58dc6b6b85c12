/-
  Texts of this proof in one: LawXJoinWorld, ClearKit, AppInt, AppInts, SpecIntsB, LayChainResult, LayIntResult, LayTextResult, ReadPlain, NumPlain, ChainPlain, OwnChainResult, StoreKit, ChainKit, SpecCopyCh, AppMsg, LayNetResult, WrBox, InB, InC, Fault, WrFault, WrZero, ApplyPlain, SessPlain, SamePlain, NetPlain, SpecNode9, SpecMsgF.
  Their conditions stand in their theorems.
-/
import Derived.Test.YtoanimpijfijgaaGreatChecked
import Derived.Test.YtoanimpijfijgaaGreatJn01
import Derived.Test.YtoanimpijfijgaaGreatJn02
import Derived.Test.YtoanimpijfijgaaGreatJn03
import Derived.Test.YtoanimpijfijgaaGreatJn04
import Derived.Deep.RegionHeld3
import Derived.Deep.CutRange
import Derived.Test.YtoanimpijfijgaaGreatJn00
import Derived.Deep.AppendLies
import Derived.Maps.AppendAt
import Derived.BigQuiet
import Derived.Deep.QuietTactic
import Derived.WalkSmall
import Derived.WalkKit
set_option maxRecDepth 100000
set_option maxHeartbeats 4000000
namespace Go.Proofs.YtoanimpijfijgaaGreat
open Go.RowKit
theorem lawx_JoinWorld (u0 : List Value) (x0 : DWorld) (x1 : Int) (y : DWorldResult) (w : World) (A0 : Lay.tWorld.Reads w u0 x0) (NS : Lay.tWorld.sz x0 ≤ 1048576)
  (hS : ∀ (W : World) (u0 : List Value), Lay.tWorld.Reads W u0 x0 → Calls Tryz.prog 32 #[.agg u0.toArray, .int .i64 x1] W fun e w' => ∃ cs, e = .returned (.agg cs.toArray) ∧ Lay.tWorldResult.Reads w' cs y ∧ Below W.heap.size W w')
  (hI : ∀ (W : World) (u0 : List Value), Lay.tWorld.Reads W u0 x0 → Calls Tryz.prog 33 #[.agg u0.toArray, .int .i64 x1] W fun e w' => ∃ cs, e = .returned (.agg cs.toArray) ∧ Lay.tWorldResult.OwnIn w' cs y W.heap.size w'.heap.size ∧ Below W.heap.size W w') (hc : Lay.tWorldResult.vcnt y ≤ 100000000) :
  Calls Tryz.prog 8 #[.agg u0.toArray, .int .i64 x1] w fun e w' => e = .returned (.bool true) ∧ Below w.heap.size w w' := by
 obtain ⟨a3p0, d3p0, a4p0, d4p0, a5p0, d5p0, a6p0, d6p0, rfl, -, -, -, -⟩ := open_World A0
 have HS := yh hS
 have HI := yh hI
 clear hS hI
 have HA0 := yh A0.liesIn
 clear A0
 have N0 : Lay.tWorld.sz x0 ≤ 1048576 := by omega
 have HN0 := yh N0
 clear N0
 have HC := yh hc
 clear hc
 have HNS := yh NS
 clear NS
 have HB := yh (Below.refl w.heap.size w)
 go_enter Tryz.func8, Tryz.ntmps8
 go_wp2_with fail
 have nb : Below w.heap.size w (w.alloc (.cells #[.int .i64 x0.now, .int .i64 x0.events, .int .i64 x0.chain.epoch, .slice a3p0 x0.chain.ids.length d3p0, .slice a4p0 x0.nodes.length d4p0, .slice a5p0 x0.msgs.length d5p0, .slice a6p0 x0.history.length d6p0] 29)) := (Below.refl w.heap.size w).alloc (Nat.le_refl _) _
 have P0 : Hid (Box w.heap.size #[.int .i64 x0.now, .int .i64 x0.events, .int .i64 x0.chain.epoch, .slice a3p0 x0.chain.ids.length d3p0, .slice a4p0 x0.nodes.length d4p0, .slice a5p0 x0.msgs.length d5p0, .slice a6p0 x0.history.length d6p0] 29 (w.alloc (.cells #[.int .i64 x0.now, .int .i64 x0.events, .int .i64 x0.chain.epoch, .slice a3p0 x0.chain.ids.length d3p0, .slice a4p0 x0.nodes.length d4p0, .slice a5p0 x0.msgs.length d5p0, .slice a6p0 x0.history.length d6p0] 29)) (w.heap.size)) := newBoxAt (by omega) (by simp)
 generalize haw1 : (w.alloc (.cells #[.int .i64 x0.now, .int .i64 x0.events, .int .i64 x0.chain.epoch, .slice a3p0 x0.chain.ids.length d3p0, .slice a4p0 x0.nodes.length d4p0, .slice a5p0 x0.msgs.length d5p0, .slice a6p0 x0.history.length d6p0] 29)) = w1 at *
 have Gw1 : w.heap.size + 1 ≤ w1.heap.size := by rw [← haw1]; simp
 clear haw1
 replace HA0 := yh ((uh HA0).later nb)
 have Zw1 : w.heap.size ≤ w1.heap.size := nb.size
 replace HB := yh ((uh HB).trans (nb.mono (by omega)))
 clear nb
 have hns := uh HNS
 refine (sz_World _ x0 (1048576) w1 (uh HA0).reads (by omega)).mono ?_
 rintro e w2 ⟨rfl, hb⟩
 replace HA0 := yh ((uh HA0).later hb)
 replace P0 := yh ((uh P0).keep hb)
 have Zw2 : w1.heap.size ≤ w2.heap.size := hb.size
 replace HB := yh ((uh HB).trans (hb.mono (by omega)))
 clear hb
 rw [szR_ok (by omega)]
 have hq0 : decide (((1048576 - Lay.tWorld.sz x0 : Nat) : Int) < 0) = false := by simp
 clear hns
 have l0P0 := (uh P0).at 0 _ rfl
 have l1P0 := (uh P0).at 1 _ rfl
 have l2P0 := (uh P0).at 2 _ rfl
 have l3P0 := (uh P0).at 3 _ rfl
 have l4P0 := (uh P0).at 4 _ rfl
 have l5P0 := (uh P0).at 5 _ rfl
 have l6P0 := (uh P0).at 6 _ rfl
 have ltP0 : w.heap.size < w2.heap.size := by omega
 simp only [ga, gb, gc] at l0P0 l1P0 l2P0 l3P0 l4P0 l5P0 l6P0
 go_wp2_with fail
 clear l0P0 l1P0 l2P0 l3P0 l4P0 l5P0 l6P0 ltP0
 clear hq0
 refine (to_World _ x0 w2 (uh HA0).reads (uh HN0)).mono ?_
 rintro e w3 ⟨vc0, rfl, O, hb⟩
 replace HA0 := yh ((uh HA0).later hb)
 replace P0 := yh ((uh P0).keep hb)
 have Zw3 : w2.heap.size ≤ w3.heap.size := hb.size
 replace HB := yh ((uh HB).trans (hb.mono (by omega)))
 clear hb
 obtain ⟨a3c0, d3c0, a4c0, d4c0, a5c0, d5c0, a6c0, d6c0, rfl, -, -, -, -⟩ := open_World O.reads
 have Hc0 := yh O
 clear O
 have l0P0 := (uh P0).at 0 _ rfl
 have l1P0 := (uh P0).at 1 _ rfl
 have l2P0 := (uh P0).at 2 _ rfl
 have l3P0 := (uh P0).at 3 _ rfl
 have l4P0 := (uh P0).at 4 _ rfl
 have l5P0 := (uh P0).at 5 _ rfl
 have l6P0 := (uh P0).at 6 _ rfl
 have ltP0 : w.heap.size < w3.heap.size := by omega
 simp only [ga, gb, gc] at l0P0 l1P0 l2P0 l3P0 l4P0 l5P0 l6P0
 go_wp2_with fail
 clear l0P0 l1P0 l2P0 l3P0 l4P0 l5P0 l6P0 ltP0
 refine (uh HS w3 _ (uh Hc0).reads).mono ?_
 rintro e w4 ⟨cs, rfl, O, hb⟩
 replace HA0 := yh ((uh HA0).later hb)
 replace P0 := yh ((uh P0).keep hb)
 replace Hc0 := yh ((uh Hc0).later hb)
 have Zw4 : w3.heap.size ≤ w4.heap.size := hb.size
 replace HB := yh ((uh HB).trans (hb.mono (by omega)))
 clear hb
 obtain ⟨a5W, d5W, a6W, d6W, a7W, d7W, a8W, d8W, rfl, -⟩ := open_WorldResult O
 have HW := yh O.liesIn
 clear O
 have nb : Below w4.heap.size w4 (w4.alloc (.cells #[.int .i64 y.code, .bool y.moved, .int .i64 y.world.now, .int .i64 y.world.events, .int .i64 y.world.chain.epoch, .slice a5W y.world.chain.ids.length d5W, .slice a6W y.world.nodes.length d6W, .slice a7W y.world.msgs.length d7W, .slice a8W y.world.history.length d8W] 38)) := (Below.refl _ _).alloc (Nat.le_refl _) _
 have YW : Hid (Box w4.heap.size #[.int .i64 y.code, .bool y.moved, .int .i64 y.world.now, .int .i64 y.world.events, .int .i64 y.world.chain.epoch, .slice a5W y.world.chain.ids.length d5W, .slice a6W y.world.nodes.length d6W, .slice a7W y.world.msgs.length d7W, .slice a8W y.world.history.length d8W] 38 (w4.alloc (.cells #[.int .i64 y.code, .bool y.moved, .int .i64 y.world.now, .int .i64 y.world.events, .int .i64 y.world.chain.epoch, .slice a5W y.world.chain.ids.length d5W, .slice a6W y.world.nodes.length d6W, .slice a7W y.world.msgs.length d7W, .slice a8W y.world.history.length d8W] 38)) w4.heap.size) := newBox (Nat.le_refl _)
 clear Hc0
 have l0P0 := (uh P0).at 0 _ rfl
 have l1P0 := (uh P0).at 1 _ rfl
 have l2P0 := (uh P0).at 2 _ rfl
 have l3P0 := (uh P0).at 3 _ rfl
 have l4P0 := (uh P0).at 4 _ rfl
 have l5P0 := (uh P0).at 5 _ rfl
 have l6P0 := (uh P0).at 6 _ rfl
 have ltP0 : w.heap.size < w4.heap.size := by omega
 simp only [ga, gb, gc] at l0P0 l1P0 l2P0 l3P0 l4P0 l5P0 l6P0
 go_wp2_with fail
 clear l0P0 l1P0 l2P0 l3P0 l4P0 l5P0 l6P0 ltP0
 generalize haw5 : w4.alloc (.cells #[.int .i64 y.code, .bool y.moved, .int .i64 y.world.now, .int .i64 y.world.events, .int .i64 y.world.chain.epoch, .slice a5W y.world.chain.ids.length d5W, .slice a6W y.world.nodes.length d6W, .slice a7W y.world.msgs.length d7W, .slice a8W y.world.history.length d8W] 38) = w5 at *
 have Gw5 : w4.heap.size < w5.heap.size := by rw [← haw5]; simp
 clear haw5
 replace HA0 := yh ((uh HA0).later nb)
 replace P0 := yh ((uh P0).keep nb)
 replace HW := yh ((uh HW).later nb)
 have Zw5 : w4.heap.size ≤ w5.heap.size := nb.size
 replace HB := yh ((uh HB).trans (nb.mono (by omega)))
 clear nb
 refine (to_World _ x0 w5 (uh HA0).reads (uh HN0)).mono ?_
 rintro e w6 ⟨vx0, rfl, O, hb⟩
 replace HA0 := yh ((uh HA0).later hb)
 replace P0 := yh ((uh P0).keep hb)
 replace HW := yh ((uh HW).later hb)
 replace YW := yh ((uh YW).keep hb)
 have Zw6 : w5.heap.size ≤ w6.heap.size := hb.size
 replace HB := yh ((uh HB).trans (hb.mono (by omega)))
 clear hb
 obtain ⟨a3x0, d3x0, a4x0, d4x0, a5x0, d5x0, a6x0, d6x0, rfl, -, -, -, -⟩ := open_World O.reads
 have Hx0 := yh O
 clear O
 have nb : Below w6.heap.size w6 (w6.alloc (.cells #[.int .i64 x0.now, .int .i64 x0.events, .int .i64 x0.chain.epoch, .slice a3x0 x0.chain.ids.length d3x0, .slice a4x0 x0.nodes.length d4x0, .slice a5x0 x0.msgs.length d5x0, .slice a6x0 x0.history.length d6x0] 36)) := (Below.refl _ _).alloc (Nat.le_refl _) _
 have X0 : Hid (Box w6.heap.size #[.int .i64 x0.now, .int .i64 x0.events, .int .i64 x0.chain.epoch, .slice a3x0 x0.chain.ids.length d3x0, .slice a4x0 x0.nodes.length d4x0, .slice a5x0 x0.msgs.length d5x0, .slice a6x0 x0.history.length d6x0] 36 (w6.alloc (.cells #[.int .i64 x0.now, .int .i64 x0.events, .int .i64 x0.chain.epoch, .slice a3x0 x0.chain.ids.length d3x0, .slice a4x0 x0.nodes.length d4x0, .slice a5x0 x0.msgs.length d5x0, .slice a6x0 x0.history.length d6x0] 36)) w6.heap.size) := newBox (Nat.le_refl _)
 have l0P0 := (uh P0).at 0 _ rfl
 have l1P0 := (uh P0).at 1 _ rfl
 have l2P0 := (uh P0).at 2 _ rfl
 have l3P0 := (uh P0).at 3 _ rfl
 have l4P0 := (uh P0).at 4 _ rfl
 have l5P0 := (uh P0).at 5 _ rfl
 have l6P0 := (uh P0).at 6 _ rfl
 have ltP0 : w.heap.size < w6.heap.size := by omega
 have l0YW := (uh YW).at 0 _ rfl
 have l1YW := (uh YW).at 1 _ rfl
 have l2YW := (uh YW).at 2 _ rfl
 have l3YW := (uh YW).at 3 _ rfl
 have l4YW := (uh YW).at 4 _ rfl
 have l5YW := (uh YW).at 5 _ rfl
 have l6YW := (uh YW).at 6 _ rfl
 have l7YW := (uh YW).at 7 _ rfl
 have l8YW := (uh YW).at 8 _ rfl
 have ltYW : w4.heap.size < w6.heap.size := by omega
 simp only [ga, gb, gc] at l0P0 l1P0 l2P0 l3P0 l4P0 l5P0 l6P0 l0YW l1YW l2YW l3YW l4YW l5YW l6YW l7YW l8YW
 go_wp2_with fail
 clear l0P0 l1P0 l2P0 l3P0 l4P0 l5P0 l6P0 ltP0 l0YW l1YW l2YW l3YW l4YW l5YW l6YW l7YW l8YW ltYW
 generalize haw7 : w6.alloc (.cells #[.int .i64 x0.now, .int .i64 x0.events, .int .i64 x0.chain.epoch, .slice a3x0 x0.chain.ids.length d3x0, .slice a4x0 x0.nodes.length d4x0, .slice a5x0 x0.msgs.length d5x0, .slice a6x0 x0.history.length d6x0] 36) = w7 at *
 have Gw7 : w6.heap.size < w7.heap.size := by rw [← haw7]; simp
 clear haw7
 replace HA0 := yh ((uh HA0).later nb)
 replace P0 := yh ((uh P0).keep nb)
 replace HW := yh ((uh HW).later nb)
 replace YW := yh ((uh YW).keep nb)
 replace Hx0 := yh ((uh Hx0).later nb)
 have Zw7 : w6.heap.size ≤ w7.heap.size := nb.size
 replace HB := yh ((uh HB).trans (nb.mono (by omega)))
 clear nb
 refine (uh HI w7 _ (uh Hx0).reads).mono ?_
 rintro e w8 ⟨cs, rfl, O, hb⟩
 replace HA0 := yh ((uh HA0).later hb)
 replace P0 := yh ((uh P0).keep hb)
 replace HW := yh ((uh HW).later hb)
 replace YW := yh ((uh YW).keep hb)
 replace Hx0 := yh ((uh Hx0).later hb)
 replace X0 := yh ((uh X0).keep hb)
 have Zw8 : w7.heap.size ≤ w8.heap.size := hb.size
 replace HB := yh ((uh HB).trans (hb.mono (by omega)))
 clear hb
 obtain ⟨a5G, d5G, a6G, d6G, a7G, d7G, a8G, d8G, rfl, -⟩ := open_WorldResult O.reads
 have HG := yh O
 clear O
 have nb : Below w8.heap.size w8 (w8.alloc (.cells #[.int .i64 y.code, .bool y.moved, .int .i64 y.world.now, .int .i64 y.world.events, .int .i64 y.world.chain.epoch, .slice a5G y.world.chain.ids.length d5G, .slice a6G y.world.nodes.length d6G, .slice a7G y.world.msgs.length d7G, .slice a8G y.world.history.length d8G] 38)) := (Below.refl _ _).alloc (Nat.le_refl _) _
 have YG : Hid (Box w8.heap.size #[.int .i64 y.code, .bool y.moved, .int .i64 y.world.now, .int .i64 y.world.events, .int .i64 y.world.chain.epoch, .slice a5G y.world.chain.ids.length d5G, .slice a6G y.world.nodes.length d6G, .slice a7G y.world.msgs.length d7G, .slice a8G y.world.history.length d8G] 38 (w8.alloc (.cells #[.int .i64 y.code, .bool y.moved, .int .i64 y.world.now, .int .i64 y.world.events, .int .i64 y.world.chain.epoch, .slice a5G y.world.chain.ids.length d5G, .slice a6G y.world.nodes.length d6G, .slice a7G y.world.msgs.length d7G, .slice a8G y.world.history.length d8G] 38)) w8.heap.size) := newBox (Nat.le_refl _)
 have l0P0 := (uh P0).at 0 _ rfl
 have l1P0 := (uh P0).at 1 _ rfl
 have l2P0 := (uh P0).at 2 _ rfl
 have l3P0 := (uh P0).at 3 _ rfl
 have l4P0 := (uh P0).at 4 _ rfl
 have l5P0 := (uh P0).at 5 _ rfl
 have l6P0 := (uh P0).at 6 _ rfl
 have ltP0 : w.heap.size < w8.heap.size := by omega
 have l0YW := (uh YW).at 0 _ rfl
 have l1YW := (uh YW).at 1 _ rfl
 have l2YW := (uh YW).at 2 _ rfl
 have l3YW := (uh YW).at 3 _ rfl
 have l4YW := (uh YW).at 4 _ rfl
 have l5YW := (uh YW).at 5 _ rfl
 have l6YW := (uh YW).at 6 _ rfl
 have l7YW := (uh YW).at 7 _ rfl
 have l8YW := (uh YW).at 8 _ rfl
 have ltYW : w4.heap.size < w8.heap.size := by omega
 have l0X0 := (uh X0).at 0 _ rfl
 have l1X0 := (uh X0).at 1 _ rfl
 have l2X0 := (uh X0).at 2 _ rfl
 have l3X0 := (uh X0).at 3 _ rfl
 have l4X0 := (uh X0).at 4 _ rfl
 have l5X0 := (uh X0).at 5 _ rfl
 have l6X0 := (uh X0).at 6 _ rfl
 have ltX0 : w6.heap.size < w8.heap.size := by omega
 simp only [ga, gb, gc] at l0P0 l1P0 l2P0 l3P0 l4P0 l5P0 l6P0 l0YW l1YW l2YW l3YW l4YW l5YW l6YW l7YW l8YW l0X0 l1X0 l2X0 l3X0 l4X0 l5X0 l6X0
 go_wp2_with fail
 clear l0P0 l1P0 l2P0 l3P0 l4P0 l5P0 l6P0 ltP0 l0YW l1YW l2YW l3YW l4YW l5YW l6YW l7YW l8YW ltYW l0X0 l1X0 l2X0 l3X0 l4X0 l5X0 l6X0 ltX0
 generalize haw9 : w8.alloc (.cells #[.int .i64 y.code, .bool y.moved, .int .i64 y.world.now, .int .i64 y.world.events, .int .i64 y.world.chain.epoch, .slice a5G y.world.chain.ids.length d5G, .slice a6G y.world.nodes.length d6G, .slice a7G y.world.msgs.length d7G, .slice a8G y.world.history.length d8G] 38) = w9 at *
 have Gw9 : w8.heap.size < w9.heap.size := by rw [← haw9]; simp
 clear haw9
 replace HA0 := yh ((uh HA0).later nb)
 replace P0 := yh ((uh P0).keep nb)
 replace HW := yh ((uh HW).later nb)
 replace YW := yh ((uh YW).keep nb)
 replace Hx0 := yh ((uh Hx0).later nb)
 replace X0 := yh ((uh X0).keep nb)
 replace HG := yh ((uh HG).later nb)
 have Zw9 : w8.heap.size ≤ w9.heap.size := nb.size
 replace HB := yh ((uh HB).trans (nb.mono (by omega)))
 clear nb
 refine (eq_WorldResult _ _ y w9 (uh HG).reads (uh HW).reads).mono ?_
 rintro e w10 ⟨rfl, hb⟩
 replace HA0 := yh ((uh HA0).later hb)
 replace P0 := yh ((uh P0).keep hb)
 replace HW := yh ((uh HW).later hb)
 replace YW := yh ((uh YW).keep hb)
 replace Hx0 := yh ((uh Hx0).later hb)
 replace X0 := yh ((uh X0).keep hb)
 replace HG := yh ((uh HG).later hb)
 replace YG := yh ((uh YG).keep hb)
 have Zw10 : w9.heap.size ≤ w10.heap.size := hb.size
 replace HB := yh ((uh HB).trans (hb.mono (by omega)))
 clear hb
 have l0P0 := (uh P0).at 0 _ rfl
 have l1P0 := (uh P0).at 1 _ rfl
 have l2P0 := (uh P0).at 2 _ rfl
 have l3P0 := (uh P0).at 3 _ rfl
 have l4P0 := (uh P0).at 4 _ rfl
 have l5P0 := (uh P0).at 5 _ rfl
 have l6P0 := (uh P0).at 6 _ rfl
 have ltP0 : w.heap.size < w10.heap.size := by omega
 have l0YW := (uh YW).at 0 _ rfl
 have l1YW := (uh YW).at 1 _ rfl
 have l2YW := (uh YW).at 2 _ rfl
 have l3YW := (uh YW).at 3 _ rfl
 have l4YW := (uh YW).at 4 _ rfl
 have l5YW := (uh YW).at 5 _ rfl
 have l6YW := (uh YW).at 6 _ rfl
 have l7YW := (uh YW).at 7 _ rfl
 have l8YW := (uh YW).at 8 _ rfl
 have ltYW : w4.heap.size < w10.heap.size := by omega
 have l0X0 := (uh X0).at 0 _ rfl
 have l1X0 := (uh X0).at 1 _ rfl
 have l2X0 := (uh X0).at 2 _ rfl
 have l3X0 := (uh X0).at 3 _ rfl
 have l4X0 := (uh X0).at 4 _ rfl
 have l5X0 := (uh X0).at 5 _ rfl
 have l6X0 := (uh X0).at 6 _ rfl
 have ltX0 : w6.heap.size < w10.heap.size := by omega
 have l0YG := (uh YG).at 0 _ rfl
 have l1YG := (uh YG).at 1 _ rfl
 have l2YG := (uh YG).at 2 _ rfl
 have l3YG := (uh YG).at 3 _ rfl
 have l4YG := (uh YG).at 4 _ rfl
 have l5YG := (uh YG).at 5 _ rfl
 have l6YG := (uh YG).at 6 _ rfl
 have l7YG := (uh YG).at 7 _ rfl
 have l8YG := (uh YG).at 8 _ rfl
 have ltYG : w8.heap.size < w10.heap.size := by omega
 simp only [ga, gb, gc] at l0P0 l1P0 l2P0 l3P0 l4P0 l5P0 l6P0 l0YW l1YW l2YW l3YW l4YW l5YW l6YW l7YW l8YW l0X0 l1X0 l2X0 l3X0 l4X0 l5X0 l6X0 l0YG l1YG l2YG l3YG l4YG l5YG l6YG l7YG l8YG
 go_wp2_with fail
 clear l0P0 l1P0 l2P0 l3P0 l4P0 l5P0 l6P0 ltP0 l0YW l1YW l2YW l3YW l4YW l5YW l6YW l7YW l8YW ltYW l0X0 l1X0 l2X0 l3X0 l4X0 l5X0 l6X0 ltX0 l0YG l1YG l2YG l3YG l4YG l5YG l6YG l7YG l8YG ltYG
 have l0P0 := (uh P0).at 0 _ rfl
 have l1P0 := (uh P0).at 1 _ rfl
 have l2P0 := (uh P0).at 2 _ rfl
 have l3P0 := (uh P0).at 3 _ rfl
 have l4P0 := (uh P0).at 4 _ rfl
 have l5P0 := (uh P0).at 5 _ rfl
 have l6P0 := (uh P0).at 6 _ rfl
 have ltP0 : w.heap.size < w10.heap.size := by omega
 have l0X0 := (uh X0).at 0 _ rfl
 have l1X0 := (uh X0).at 1 _ rfl
 have l2X0 := (uh X0).at 2 _ rfl
 have l3X0 := (uh X0).at 3 _ rfl
 have l4X0 := (uh X0).at 4 _ rfl
 have l5X0 := (uh X0).at 5 _ rfl
 have l6X0 := (uh X0).at 6 _ rfl
 have ltX0 : w6.heap.size < w10.heap.size := by omega
 simp only [ga, gb, gc] at l0P0 l1P0 l2P0 l3P0 l4P0 l5P0 l6P0 l0X0 l1X0 l2X0 l3X0 l4X0 l5X0 l6X0
 refine wp_region_noPanic ?_
 refine wp_region_held_drew (S := fun w' => Below w10.heap.size w10 w') (by kernel_rfl) (Below.refl _ _).drew (fun zq => ?_)
 generalize w10.drew = wD at zq ⊢
 refine tkJ 0 (v := ?vs00) ?hs00 zq ?rs00
 case hs00 =>
  intro wS hSw
  have y0P0 := (hSw.cell (p := ⟨w.heap.size, 0, none⟩) ltP0).trans l0P0
  have y1P0 := (hSw.cell (p := ⟨w.heap.size, 1, none⟩) ltP0).trans l1P0
  have y2P0 := (hSw.cell (p := ⟨w.heap.size, 2, none⟩) ltP0).trans l2P0
  have y3P0 := (hSw.cell (p := ⟨w.heap.size, 3, none⟩) ltP0).trans l3P0
  have y4P0 := (hSw.cell (p := ⟨w.heap.size, 4, none⟩) ltP0).trans l4P0
  have y5P0 := (hSw.cell (p := ⟨w.heap.size, 5, none⟩) ltP0).trans l5P0
  have y6P0 := (hSw.cell (p := ⟨w.heap.size, 6, none⟩) ltP0).trans l6P0
  have y0X0 := (hSw.cell (p := ⟨w6.heap.size, 0, none⟩) ltX0).trans l0X0
  have y1X0 := (hSw.cell (p := ⟨w6.heap.size, 1, none⟩) ltX0).trans l1X0
  have y2X0 := (hSw.cell (p := ⟨w6.heap.size, 2, none⟩) ltX0).trans l2X0
  have y3X0 := (hSw.cell (p := ⟨w6.heap.size, 3, none⟩) ltX0).trans l3X0
  have y4X0 := (hSw.cell (p := ⟨w6.heap.size, 4, none⟩) ltX0).trans l4X0
  have y5X0 := (hSw.cell (p := ⟨w6.heap.size, 5, none⟩) ltX0).trans l5X0
  have y6X0 := (hSw.cell (p := ⟨w6.heap.size, 6, none⟩) ltX0).trans l6X0
  clear hSw
  (try dsimp only at hSw)
  go_simp
  try with_reducible rfl
 refine tkJ 1 (v := ?vs01) ?hs01 zq ?rs01
 case hs01 =>
  intro wS hSw
  have y0P0 := (hSw.cell (p := ⟨w.heap.size, 0, none⟩) ltP0).trans l0P0
  have y1P0 := (hSw.cell (p := ⟨w.heap.size, 1, none⟩) ltP0).trans l1P0
  have y2P0 := (hSw.cell (p := ⟨w.heap.size, 2, none⟩) ltP0).trans l2P0
  have y3P0 := (hSw.cell (p := ⟨w.heap.size, 3, none⟩) ltP0).trans l3P0
  have y4P0 := (hSw.cell (p := ⟨w.heap.size, 4, none⟩) ltP0).trans l4P0
  have y5P0 := (hSw.cell (p := ⟨w.heap.size, 5, none⟩) ltP0).trans l5P0
  have y6P0 := (hSw.cell (p := ⟨w.heap.size, 6, none⟩) ltP0).trans l6P0
  have y0X0 := (hSw.cell (p := ⟨w6.heap.size, 0, none⟩) ltX0).trans l0X0
  have y1X0 := (hSw.cell (p := ⟨w6.heap.size, 1, none⟩) ltX0).trans l1X0
  have y2X0 := (hSw.cell (p := ⟨w6.heap.size, 2, none⟩) ltX0).trans l2X0
  have y3X0 := (hSw.cell (p := ⟨w6.heap.size, 3, none⟩) ltX0).trans l3X0
  have y4X0 := (hSw.cell (p := ⟨w6.heap.size, 4, none⟩) ltX0).trans l4X0
  have y5X0 := (hSw.cell (p := ⟨w6.heap.size, 5, none⟩) ltX0).trans l5X0
  have y6X0 := (hSw.cell (p := ⟨w6.heap.size, 6, none⟩) ltX0).trans l6X0
  clear hSw
  (try dsimp only at hSw)
  go_simp
  try with_reducible rfl
 refine rdH 2 (fun K hK => ?_)
 go_simp
 go_at_call 17
 refine (to_World _ x0 _ ((uh HA0).reads.later zq) (uh HN0)).mono ?_
 rintro e wT ⟨vT, rfl, OT, hbw⟩
 have RT := OT.reads
 obtain ⟨a3T, d3T, a4T, d4T, a5T, d5T, a6T, d6T, rfl, -, -, -, -⟩ := open_World RT
 try go_wp2_with fail
 refine hK.out _ _ (zq.trans (hbw.mono zq.size)) (fun zq => ?_)
 clear hK K
 try simp only [Act.put, pz, py, px]
 refine rdH 3 (fun K hK => ?_)
 go_simp
 go_at_call 20
 refine (eq_World _ _ x0 _ ((uh Hx0).reads.later zq) RT).mono ?_
 rintro e wU0 ⟨rfl, hbw⟩
 try go_wp2_with fail
 refine hK.out _ _ (zq.trans (hbw.mono zq.size)) (fun zq => ?_)
 clear hK K
 try simp only [Act.put, pz, py, px]
 refine tkH 4 zq ?_
 refine wpAnyH_done (by kernel_rfl) ?_ _
 refine NoPanic.normal ?_
 clear l0P0 l1P0 l2P0 l3P0 l4P0 l5P0 l6P0 ltP0 l0X0 l1X0 l2X0 l3X0 l4X0 l5X0 l6X0 ltX0 OT RT
 have hb : Below w10.heap.size w10 wU0 := zq
 clear zq hbw
 replace HA0 := yh ((uh HA0).later hb)
 replace P0 := yh ((uh P0).keep hb)
 replace HW := yh ((uh HW).later hb)
 replace YW := yh ((uh YW).keep hb)
 replace Hx0 := yh ((uh Hx0).later hb)
 replace X0 := yh ((uh X0).keep hb)
 replace HG := yh ((uh HG).later hb)
 replace YG := yh ((uh YG).keep hb)
 have ZwU0 : w10.heap.size ≤ wU0.heap.size := hb.size
 replace HB := yh ((uh HB).trans (hb.mono (by omega)))
 clear hb
 have l0P0 := (uh P0).at 0 _ rfl
 have l1P0 := (uh P0).at 1 _ rfl
 have l2P0 := (uh P0).at 2 _ rfl
 have l3P0 := (uh P0).at 3 _ rfl
 have l4P0 := (uh P0).at 4 _ rfl
 have l5P0 := (uh P0).at 5 _ rfl
 have l6P0 := (uh P0).at 6 _ rfl
 have ltP0 : w.heap.size < wU0.heap.size := by omega
 have l0YW := (uh YW).at 0 _ rfl
 have l1YW := (uh YW).at 1 _ rfl
 have l2YW := (uh YW).at 2 _ rfl
 have l3YW := (uh YW).at 3 _ rfl
 have l4YW := (uh YW).at 4 _ rfl
 have l5YW := (uh YW).at 5 _ rfl
 have l6YW := (uh YW).at 6 _ rfl
 have l7YW := (uh YW).at 7 _ rfl
 have l8YW := (uh YW).at 8 _ rfl
 have ltYW : w4.heap.size < wU0.heap.size := by omega
 have l0X0 := (uh X0).at 0 _ rfl
 have l1X0 := (uh X0).at 1 _ rfl
 have l2X0 := (uh X0).at 2 _ rfl
 have l3X0 := (uh X0).at 3 _ rfl
 have l4X0 := (uh X0).at 4 _ rfl
 have l5X0 := (uh X0).at 5 _ rfl
 have l6X0 := (uh X0).at 6 _ rfl
 have ltX0 : w6.heap.size < wU0.heap.size := by omega
 have l0YG := (uh YG).at 0 _ rfl
 have l1YG := (uh YG).at 1 _ rfl
 have l2YG := (uh YG).at 2 _ rfl
 have l3YG := (uh YG).at 3 _ rfl
 have l4YG := (uh YG).at 4 _ rfl
 have l5YG := (uh YG).at 5 _ rfl
 have l6YG := (uh YG).at 6 _ rfl
 have l7YG := (uh YG).at 7 _ rfl
 have l8YG := (uh YG).at 8 _ rfl
 have ltYG : w8.heap.size < wU0.heap.size := by omega
 simp only [ga, gb, gc] at l0P0 l1P0 l2P0 l3P0 l4P0 l5P0 l6P0 l0YW l1YW l2YW l3YW l4YW l5YW l6YW l7YW l8YW l0X0 l1X0 l2X0 l3X0 l4X0 l5X0 l6X0 l0YG l1YG l2YG l3YG l4YG l5YG l6YG l7YG l8YG
 go_wp2_with fail
 clear l0P0 l1P0 l2P0 l3P0 l4P0 l5P0 l6P0 ltP0 l0YW l1YW l2YW l3YW l4YW l5YW l6YW l7YW l8YW ltYW l0X0 l1X0 l2X0 l3X0 l4X0 l5X0 l6X0 ltX0 l0YG l1YG l2YG l3YG l4YG l5YG l6YG l7YG l8YG ltYG
 obtain ⟨bl, O, hbl⟩ := uh Hx0
 clear Hx0
 have HCx0 := few_bound (A := Lay.tWorld) (few_via (few_pair few_int (few_pair few_int (few_pair (few_via (few_pair few_int (few_sl few_int))) (few_pair (few_sl (few_via (few_pair few_int (few_pair few_bool (few_pair few_int (few_pair few_int (few_pair (few_sl (few_via (few_pair few_int (few_pair few_int (few_pair (few_sl few_int) (few_pair few_int few_int)))))) (few_pair few_int few_int)))))))) (few_pair (few_sl (few_via (few_pair few_int (few_pair few_int (few_pair few_int (few_pair few_int (few_pair few_int (few_via (few_pair few_int (few_pair few_int (few_pair (few_sl few_int) (few_pair few_int few_int)))))))))))) (few_sl (few_via (few_pair few_int (few_pair few_int (few_pair few_int (few_pair few_int (few_pair (few_sl few_int) (few_pair few_int (few_pair few_int (few_pair few_int (few_pair few_int (few_pair (few_sl few_int) (few_sl (few_via (few_pair few_int few_int))))))))))))))))))))) (uh HN0) (by omega)
 refine (mark_World _ x0 bl (1) wU0 O (by omega) (by omega)).mono ?_
 rintro e w12 ⟨rfl, -, E⟩
 replace E := E.mono (S' := within w5.heap.size w6.heap.size) fun b _ hb => hbl b hb
 clear hbl O
 have zlo : w.heap.size ≤ w5.heap.size ∧ w6.heap.size ≤ wU0.heap.size := by omega
 replace HA0 := yh ((uh HA0).ext E (within_out (by omega)))
 replace P0 := yh ((uh P0).ext E (fun q => by simp only [within] at q; omega))
 replace HW := yh ((uh HW).ext E (within_out (by omega)))
 replace YW := yh ((uh YW).ext E (fun q => by simp only [within] at q; omega))
 replace X0 := yh ((uh X0).ext E (fun q => by simp only [within] at q; omega))
 replace HG := yh ((uh HG).ext E (within_out (by omega)))
 replace YG := yh ((uh YG).ext E (fun q => by simp only [within] at q; omega))
 have Zw12 : wU0.heap.size ≤ w12.heap.size := E.size
 replace HB := yh ((uh HB).trans (E.below (by omega) (fun k h q => by simp only [within] at q; omega)))
 clear E
 clear zlo
 obtain ⟨mk, hmk⟩ : ∃ mk : Int, mk = 1 + (Lay.tWorld.vcnt x0 : Int) := ⟨_, rfl⟩
 rw [← hmk]
 have hm3 : decide (mk < 0) = false := decide_eq_false (by omega)
 clear hmk HCx0
 have l0P0 := (uh P0).at 0 _ rfl
 have l1P0 := (uh P0).at 1 _ rfl
 have l2P0 := (uh P0).at 2 _ rfl
 have l3P0 := (uh P0).at 3 _ rfl
 have l4P0 := (uh P0).at 4 _ rfl
 have l5P0 := (uh P0).at 5 _ rfl
 have l6P0 := (uh P0).at 6 _ rfl
 have ltP0 : w.heap.size < w12.heap.size := by omega
 have l0YW := (uh YW).at 0 _ rfl
 have l1YW := (uh YW).at 1 _ rfl
 have l2YW := (uh YW).at 2 _ rfl
 have l3YW := (uh YW).at 3 _ rfl
 have l4YW := (uh YW).at 4 _ rfl
 have l5YW := (uh YW).at 5 _ rfl
 have l6YW := (uh YW).at 6 _ rfl
 have l7YW := (uh YW).at 7 _ rfl
 have l8YW := (uh YW).at 8 _ rfl
 have ltYW : w4.heap.size < w12.heap.size := by omega
 have l0X0 := (uh X0).at 0 _ rfl
 have l1X0 := (uh X0).at 1 _ rfl
 have l2X0 := (uh X0).at 2 _ rfl
 have l3X0 := (uh X0).at 3 _ rfl
 have l4X0 := (uh X0).at 4 _ rfl
 have l5X0 := (uh X0).at 5 _ rfl
 have l6X0 := (uh X0).at 6 _ rfl
 have ltX0 : w6.heap.size < w12.heap.size := by omega
 have l0YG := (uh YG).at 0 _ rfl
 have l1YG := (uh YG).at 1 _ rfl
 have l2YG := (uh YG).at 2 _ rfl
 have l3YG := (uh YG).at 3 _ rfl
 have l4YG := (uh YG).at 4 _ rfl
 have l5YG := (uh YG).at 5 _ rfl
 have l6YG := (uh YG).at 6 _ rfl
 have l7YG := (uh YG).at 7 _ rfl
 have l8YG := (uh YG).at 8 _ rfl
 have ltYG : w8.heap.size < w12.heap.size := by omega
 simp only [ga, gb, gc] at l0P0 l1P0 l2P0 l3P0 l4P0 l5P0 l6P0 l0YW l1YW l2YW l3YW l4YW l5YW l6YW l7YW l8YW l0X0 l1X0 l2X0 l3X0 l4X0 l5X0 l6X0 l0YG l1YG l2YG l3YG l4YG l5YG l6YG l7YG l8YG
 go_wp2_with fail
 clear l0P0 l1P0 l2P0 l3P0 l4P0 l5P0 l6P0 ltP0 l0YW l1YW l2YW l3YW l4YW l5YW l6YW l7YW l8YW ltYW l0X0 l1X0 l2X0 l3X0 l4X0 l5X0 l6X0 ltX0 l0YG l1YG l2YG l3YG l4YG l5YG l6YG l7YG l8YG ltYG
 refine (eq_WorldResult _ _ y w12 (uh HG).reads (uh HW).reads).mono ?_
 rintro e w13 ⟨rfl, hb⟩
 replace HA0 := yh ((uh HA0).later hb)
 replace P0 := yh ((uh P0).keep hb)
 replace HW := yh ((uh HW).later hb)
 replace YW := yh ((uh YW).keep hb)
 replace X0 := yh ((uh X0).keep hb)
 replace HG := yh ((uh HG).later hb)
 replace YG := yh ((uh YG).keep hb)
 have Zw13 : w12.heap.size ≤ w13.heap.size := hb.size
 replace HB := yh ((uh HB).trans (hb.mono (by omega)))
 clear hb
 clear hm3
 have l0P0 := (uh P0).at 0 _ rfl
 have l1P0 := (uh P0).at 1 _ rfl
 have l2P0 := (uh P0).at 2 _ rfl
 have l3P0 := (uh P0).at 3 _ rfl
 have l4P0 := (uh P0).at 4 _ rfl
 have l5P0 := (uh P0).at 5 _ rfl
 have l6P0 := (uh P0).at 6 _ rfl
 have ltP0 : w.heap.size < w13.heap.size := by omega
 have l0YW := (uh YW).at 0 _ rfl
 have l1YW := (uh YW).at 1 _ rfl
 have l2YW := (uh YW).at 2 _ rfl
 have l3YW := (uh YW).at 3 _ rfl
 have l4YW := (uh YW).at 4 _ rfl
 have l5YW := (uh YW).at 5 _ rfl
 have l6YW := (uh YW).at 6 _ rfl
 have l7YW := (uh YW).at 7 _ rfl
 have l8YW := (uh YW).at 8 _ rfl
 have ltYW : w4.heap.size < w13.heap.size := by omega
 have l0X0 := (uh X0).at 0 _ rfl
 have l1X0 := (uh X0).at 1 _ rfl
 have l2X0 := (uh X0).at 2 _ rfl
 have l3X0 := (uh X0).at 3 _ rfl
 have l4X0 := (uh X0).at 4 _ rfl
 have l5X0 := (uh X0).at 5 _ rfl
 have l6X0 := (uh X0).at 6 _ rfl
 have ltX0 : w6.heap.size < w13.heap.size := by omega
 have l0YG := (uh YG).at 0 _ rfl
 have l1YG := (uh YG).at 1 _ rfl
 have l2YG := (uh YG).at 2 _ rfl
 have l3YG := (uh YG).at 3 _ rfl
 have l4YG := (uh YG).at 4 _ rfl
 have l5YG := (uh YG).at 5 _ rfl
 have l6YG := (uh YG).at 6 _ rfl
 have l7YG := (uh YG).at 7 _ rfl
 have l8YG := (uh YG).at 8 _ rfl
 have ltYG : w8.heap.size < w13.heap.size := by omega
 simp only [ga, gb, gc] at l0P0 l1P0 l2P0 l3P0 l4P0 l5P0 l6P0 l0YW l1YW l2YW l3YW l4YW l5YW l6YW l7YW l8YW l0X0 l1X0 l2X0 l3X0 l4X0 l5X0 l6X0 l0YG l1YG l2YG l3YG l4YG l5YG l6YG l7YG l8YG
 go_wp2_with fail
 clear l0P0 l1P0 l2P0 l3P0 l4P0 l5P0 l6P0 ltP0 l0YW l1YW l2YW l3YW l4YW l5YW l6YW l7YW l8YW ltYW l0X0 l1X0 l2X0 l3X0 l4X0 l5X0 l6X0 ltX0 l0YG l1YG l2YG l3YG l4YG l5YG l6YG l7YG l8YG ltYG
 obtain ⟨bl, O, hbl⟩ := uh HG
 clear HG
 have hcy := uh HC
 refine (mark_WorldResult _ y bl 1 w13 O (by omega) (by omega)).mono ?_
 rintro e w14 ⟨rfl, O2, E⟩
 replace E := E.mono (S' := within w7.heap.size w8.heap.size) fun b _ hb => hbl b hb
 have HG : Hid (Lay.tWorldResult.OwnIn w14 _ (Lay.tWorldResult.mkv 1 y) w7.heap.size w8.heap.size) := ⟨bl, O2, hbl⟩
 clear hbl O O2
 have zlo : w.heap.size ≤ w7.heap.size ∧ w8.heap.size ≤ w13.heap.size := by omega
 replace HA0 := yh ((uh HA0).ext E (within_out (by omega)))
 replace P0 := yh ((uh P0).ext E (fun q => by simp only [within] at q; omega))
 replace HW := yh ((uh HW).ext E (within_out (by omega)))
 replace YW := yh ((uh YW).ext E (fun q => by simp only [within] at q; omega))
 replace X0 := yh ((uh X0).ext E (fun q => by simp only [within] at q; omega))
 replace YG := yh ((uh YG).ext E (fun q => by simp only [within] at q; omega))
 have Zw14 : w13.heap.size ≤ w14.heap.size := E.size
 replace HB := yh ((uh HB).trans (E.below (by omega) (fun k h q => by simp only [within] at q; omega)))
 clear E
 clear zlo
 have hq0 : decide (1 + (Lay.tWorldResult.vcnt y : Int) < 0) = false := decide_eq_false (by omega)
 have hq1 : ((1 + (Lay.tWorldResult.vcnt y : Int)) != (1 + (Lay.tWorldResult.vcnt y : Int))) = false := by simp
 clear hcy
 have l0P0 := (uh P0).at 0 _ rfl
 have l1P0 := (uh P0).at 1 _ rfl
 have l2P0 := (uh P0).at 2 _ rfl
 have l3P0 := (uh P0).at 3 _ rfl
 have l4P0 := (uh P0).at 4 _ rfl
 have l5P0 := (uh P0).at 5 _ rfl
 have l6P0 := (uh P0).at 6 _ rfl
 have ltP0 : w.heap.size < w14.heap.size := by omega
 have l0YW := (uh YW).at 0 _ rfl
 have l1YW := (uh YW).at 1 _ rfl
 have l2YW := (uh YW).at 2 _ rfl
 have l3YW := (uh YW).at 3 _ rfl
 have l4YW := (uh YW).at 4 _ rfl
 have l5YW := (uh YW).at 5 _ rfl
 have l6YW := (uh YW).at 6 _ rfl
 have l7YW := (uh YW).at 7 _ rfl
 have l8YW := (uh YW).at 8 _ rfl
 have ltYW : w4.heap.size < w14.heap.size := by omega
 have l0X0 := (uh X0).at 0 _ rfl
 have l1X0 := (uh X0).at 1 _ rfl
 have l2X0 := (uh X0).at 2 _ rfl
 have l3X0 := (uh X0).at 3 _ rfl
 have l4X0 := (uh X0).at 4 _ rfl
 have l5X0 := (uh X0).at 5 _ rfl
 have l6X0 := (uh X0).at 6 _ rfl
 have ltX0 : w6.heap.size < w14.heap.size := by omega
 have l0YG := (uh YG).at 0 _ rfl
 have l1YG := (uh YG).at 1 _ rfl
 have l2YG := (uh YG).at 2 _ rfl
 have l3YG := (uh YG).at 3 _ rfl
 have l4YG := (uh YG).at 4 _ rfl
 have l5YG := (uh YG).at 5 _ rfl
 have l6YG := (uh YG).at 6 _ rfl
 have l7YG := (uh YG).at 7 _ rfl
 have l8YG := (uh YG).at 8 _ rfl
 have ltYG : w8.heap.size < w14.heap.size := by omega
 simp only [ga, gb, gc] at l0P0 l1P0 l2P0 l3P0 l4P0 l5P0 l6P0 l0YW l1YW l2YW l3YW l4YW l5YW l6YW l7YW l8YW l0X0 l1X0 l2X0 l3X0 l4X0 l5X0 l6X0 l0YG l1YG l2YG l3YG l4YG l5YG l6YG l7YG l8YG
 go_wp2_with fail
 clear l0P0 l1P0 l2P0 l3P0 l4P0 l5P0 l6P0 ltP0 l0YW l1YW l2YW l3YW l4YW l5YW l6YW l7YW l8YW ltYW l0X0 l1X0 l2X0 l3X0 l4X0 l5X0 l6X0 ltX0 l0YG l1YG l2YG l3YG l4YG l5YG l6YG l7YG l8YG ltYG
 refine (held_WorldResult _ y 1 w14 (uh HG).reads (by omega) (by have := uh HC; omega)).mono ?_
 rintro e w15 ⟨rfl, hb⟩
 replace HA0 := yh ((uh HA0).later hb)
 replace P0 := yh ((uh P0).keep hb)
 replace HW := yh ((uh HW).later hb)
 replace YW := yh ((uh YW).keep hb)
 replace X0 := yh ((uh X0).keep hb)
 replace YG := yh ((uh YG).keep hb)
 replace HG := yh ((uh HG).later hb)
 have Zw15 : w14.heap.size ≤ w15.heap.size := hb.size
 replace HB := yh ((uh HB).trans (hb.mono (by omega)))
 clear hb
 have l0P0 := (uh P0).at 0 _ rfl
 have l1P0 := (uh P0).at 1 _ rfl
 have l2P0 := (uh P0).at 2 _ rfl
 have l3P0 := (uh P0).at 3 _ rfl
 have l4P0 := (uh P0).at 4 _ rfl
 have l5P0 := (uh P0).at 5 _ rfl
 have l6P0 := (uh P0).at 6 _ rfl
 have ltP0 : w.heap.size < w15.heap.size := by omega
 have l0YW := (uh YW).at 0 _ rfl
 have l1YW := (uh YW).at 1 _ rfl
 have l2YW := (uh YW).at 2 _ rfl
 have l3YW := (uh YW).at 3 _ rfl
 have l4YW := (uh YW).at 4 _ rfl
 have l5YW := (uh YW).at 5 _ rfl
 have l6YW := (uh YW).at 6 _ rfl
 have l7YW := (uh YW).at 7 _ rfl
 have l8YW := (uh YW).at 8 _ rfl
 have ltYW : w4.heap.size < w15.heap.size := by omega
 have l0X0 := (uh X0).at 0 _ rfl
 have l1X0 := (uh X0).at 1 _ rfl
 have l2X0 := (uh X0).at 2 _ rfl
 have l3X0 := (uh X0).at 3 _ rfl
 have l4X0 := (uh X0).at 4 _ rfl
 have l5X0 := (uh X0).at 5 _ rfl
 have l6X0 := (uh X0).at 6 _ rfl
 have ltX0 : w6.heap.size < w15.heap.size := by omega
 have l0YG := (uh YG).at 0 _ rfl
 have l1YG := (uh YG).at 1 _ rfl
 have l2YG := (uh YG).at 2 _ rfl
 have l3YG := (uh YG).at 3 _ rfl
 have l4YG := (uh YG).at 4 _ rfl
 have l5YG := (uh YG).at 5 _ rfl
 have l6YG := (uh YG).at 6 _ rfl
 have l7YG := (uh YG).at 7 _ rfl
 have l8YG := (uh YG).at 8 _ rfl
 have ltYG : w8.heap.size < w15.heap.size := by omega
 simp only [ga, gb, gc] at l0P0 l1P0 l2P0 l3P0 l4P0 l5P0 l6P0 l0YW l1YW l2YW l3YW l4YW l5YW l6YW l7YW l8YW l0X0 l1X0 l2X0 l3X0 l4X0 l5X0 l6X0 l0YG l1YG l2YG l3YG l4YG l5YG l6YG l7YG l8YG
 go_wp2_with fail
 clear l0P0 l1P0 l2P0 l3P0 l4P0 l5P0 l6P0 ltP0 l0YW l1YW l2YW l3YW l4YW l5YW l6YW l7YW l8YW ltYW l0X0 l1X0 l2X0 l3X0 l4X0 l5X0 l6X0 ltX0 l0YG l1YG l2YG l3YG l4YG l5YG l6YG l7YG l8YG ltYG
 refine (to_World _ x0 w15 (uh HA0).reads (uh HN0)).mono ?_
 rintro e w16 ⟨vf0, rfl, O, hb⟩
 replace HA0 := yh ((uh HA0).later hb)
 replace P0 := yh ((uh P0).keep hb)
 replace HW := yh ((uh HW).later hb)
 replace YW := yh ((uh YW).keep hb)
 replace X0 := yh ((uh X0).keep hb)
 replace YG := yh ((uh YG).keep hb)
 replace HG := yh ((uh HG).later hb)
 have Zw16 : w15.heap.size ≤ w16.heap.size := hb.size
 replace HB := yh ((uh HB).trans (hb.mono (by omega)))
 clear hb
 obtain ⟨a3f0, d3f0, a4f0, d4f0, a5f0, d5f0, a6f0, d6f0, rfl, -, -, -, -⟩ := open_World O.reads
 have Hf0 := yh O
 clear O
 have l0P0 := (uh P0).at 0 _ rfl
 have l1P0 := (uh P0).at 1 _ rfl
 have l2P0 := (uh P0).at 2 _ rfl
 have l3P0 := (uh P0).at 3 _ rfl
 have l4P0 := (uh P0).at 4 _ rfl
 have l5P0 := (uh P0).at 5 _ rfl
 have l6P0 := (uh P0).at 6 _ rfl
 have ltP0 : w.heap.size < w16.heap.size := by omega
 have l0YW := (uh YW).at 0 _ rfl
 have l1YW := (uh YW).at 1 _ rfl
 have l2YW := (uh YW).at 2 _ rfl
 have l3YW := (uh YW).at 3 _ rfl
 have l4YW := (uh YW).at 4 _ rfl
 have l5YW := (uh YW).at 5 _ rfl
 have l6YW := (uh YW).at 6 _ rfl
 have l7YW := (uh YW).at 7 _ rfl
 have l8YW := (uh YW).at 8 _ rfl
 have ltYW : w4.heap.size < w16.heap.size := by omega
 have l0X0 := (uh X0).at 0 _ rfl
 have l1X0 := (uh X0).at 1 _ rfl
 have l2X0 := (uh X0).at 2 _ rfl
 have l3X0 := (uh X0).at 3 _ rfl
 have l4X0 := (uh X0).at 4 _ rfl
 have l5X0 := (uh X0).at 5 _ rfl
 have l6X0 := (uh X0).at 6 _ rfl
 have ltX0 : w6.heap.size < w16.heap.size := by omega
 have l0YG := (uh YG).at 0 _ rfl
 have l1YG := (uh YG).at 1 _ rfl
 have l2YG := (uh YG).at 2 _ rfl
 have l3YG := (uh YG).at 3 _ rfl
 have l4YG := (uh YG).at 4 _ rfl
 have l5YG := (uh YG).at 5 _ rfl
 have l6YG := (uh YG).at 6 _ rfl
 have l7YG := (uh YG).at 7 _ rfl
 have l8YG := (uh YG).at 8 _ rfl
 have ltYG : w8.heap.size < w16.heap.size := by omega
 simp only [ga, gb, gc] at l0P0 l1P0 l2P0 l3P0 l4P0 l5P0 l6P0 l0YW l1YW l2YW l3YW l4YW l5YW l6YW l7YW l8YW l0X0 l1X0 l2X0 l3X0 l4X0 l5X0 l6X0 l0YG l1YG l2YG l3YG l4YG l5YG l6YG l7YG l8YG
 go_wp2_with fail
 clear l0P0 l1P0 l2P0 l3P0 l4P0 l5P0 l6P0 ltP0 l0YW l1YW l2YW l3YW l4YW l5YW l6YW l7YW l8YW ltYW l0X0 l1X0 l2X0 l3X0 l4X0 l5X0 l6X0 ltX0 l0YG l1YG l2YG l3YG l4YG l5YG l6YG l7YG l8YG ltYG
 refine (uh HI w16 _ (uh Hf0).reads).mono ?_
 rintro e w17 ⟨cs, rfl, O, hb⟩
 replace HA0 := yh ((uh HA0).later hb)
 replace P0 := yh ((uh P0).keep hb)
 replace HW := yh ((uh HW).later hb)
 replace YW := yh ((uh YW).keep hb)
 replace X0 := yh ((uh X0).keep hb)
 replace YG := yh ((uh YG).keep hb)
 replace HG := yh ((uh HG).later hb)
 replace Hf0 := yh ((uh Hf0).later hb)
 have Zw17 : w16.heap.size ≤ w17.heap.size := hb.size
 replace HB := yh ((uh HB).trans (hb.mono (by omega)))
 clear hb
 obtain ⟨a5K, d5K, a6K, d6K, a7K, d7K, a8K, d8K, rfl, -⟩ := open_WorldResult O.reads
 have HK := yh O
 clear O
 have nb : Below w17.heap.size w17 (w17.alloc (.cells #[.int .i64 y.code, .bool y.moved, .int .i64 y.world.now, .int .i64 y.world.events, .int .i64 y.world.chain.epoch, .slice a5K y.world.chain.ids.length d5K, .slice a6K y.world.nodes.length d6K, .slice a7K y.world.msgs.length d7K, .slice a8K y.world.history.length d8K] 38)) := (Below.refl _ _).alloc (Nat.le_refl _) _
 have YK : Hid (Box w17.heap.size #[.int .i64 y.code, .bool y.moved, .int .i64 y.world.now, .int .i64 y.world.events, .int .i64 y.world.chain.epoch, .slice a5K y.world.chain.ids.length d5K, .slice a6K y.world.nodes.length d6K, .slice a7K y.world.msgs.length d7K, .slice a8K y.world.history.length d8K] 38 (w17.alloc (.cells #[.int .i64 y.code, .bool y.moved, .int .i64 y.world.now, .int .i64 y.world.events, .int .i64 y.world.chain.epoch, .slice a5K y.world.chain.ids.length d5K, .slice a6K y.world.nodes.length d6K, .slice a7K y.world.msgs.length d7K, .slice a8K y.world.history.length d8K] 38)) w17.heap.size) := newBox (Nat.le_refl _)
 clear Hf0
 have l0P0 := (uh P0).at 0 _ rfl
 have l1P0 := (uh P0).at 1 _ rfl
 have l2P0 := (uh P0).at 2 _ rfl
 have l3P0 := (uh P0).at 3 _ rfl
 have l4P0 := (uh P0).at 4 _ rfl
 have l5P0 := (uh P0).at 5 _ rfl
 have l6P0 := (uh P0).at 6 _ rfl
 have ltP0 : w.heap.size < w17.heap.size := by omega
 have l0YW := (uh YW).at 0 _ rfl
 have l1YW := (uh YW).at 1 _ rfl
 have l2YW := (uh YW).at 2 _ rfl
 have l3YW := (uh YW).at 3 _ rfl
 have l4YW := (uh YW).at 4 _ rfl
 have l5YW := (uh YW).at 5 _ rfl
 have l6YW := (uh YW).at 6 _ rfl
 have l7YW := (uh YW).at 7 _ rfl
 have l8YW := (uh YW).at 8 _ rfl
 have ltYW : w4.heap.size < w17.heap.size := by omega
 have l0X0 := (uh X0).at 0 _ rfl
 have l1X0 := (uh X0).at 1 _ rfl
 have l2X0 := (uh X0).at 2 _ rfl
 have l3X0 := (uh X0).at 3 _ rfl
 have l4X0 := (uh X0).at 4 _ rfl
 have l5X0 := (uh X0).at 5 _ rfl
 have l6X0 := (uh X0).at 6 _ rfl
 have ltX0 : w6.heap.size < w17.heap.size := by omega
 have l0YG := (uh YG).at 0 _ rfl
 have l1YG := (uh YG).at 1 _ rfl
 have l2YG := (uh YG).at 2 _ rfl
 have l3YG := (uh YG).at 3 _ rfl
 have l4YG := (uh YG).at 4 _ rfl
 have l5YG := (uh YG).at 5 _ rfl
 have l6YG := (uh YG).at 6 _ rfl
 have l7YG := (uh YG).at 7 _ rfl
 have l8YG := (uh YG).at 8 _ rfl
 have ltYG : w8.heap.size < w17.heap.size := by omega
 simp only [ga, gb, gc] at l0P0 l1P0 l2P0 l3P0 l4P0 l5P0 l6P0 l0YW l1YW l2YW l3YW l4YW l5YW l6YW l7YW l8YW l0X0 l1X0 l2X0 l3X0 l4X0 l5X0 l6X0 l0YG l1YG l2YG l3YG l4YG l5YG l6YG l7YG l8YG
 go_wp2_with fail
 clear l0P0 l1P0 l2P0 l3P0 l4P0 l5P0 l6P0 ltP0 l0YW l1YW l2YW l3YW l4YW l5YW l6YW l7YW l8YW ltYW l0X0 l1X0 l2X0 l3X0 l4X0 l5X0 l6X0 ltX0 l0YG l1YG l2YG l3YG l4YG l5YG l6YG l7YG l8YG ltYG
 generalize haw18 : w17.alloc (.cells #[.int .i64 y.code, .bool y.moved, .int .i64 y.world.now, .int .i64 y.world.events, .int .i64 y.world.chain.epoch, .slice a5K y.world.chain.ids.length d5K, .slice a6K y.world.nodes.length d6K, .slice a7K y.world.msgs.length d7K, .slice a8K y.world.history.length d8K] 38) = w18 at *
 have Gw18 : w17.heap.size < w18.heap.size := by rw [← haw18]; simp
 clear haw18
 replace HA0 := yh ((uh HA0).later nb)
 replace P0 := yh ((uh P0).keep nb)
 replace HW := yh ((uh HW).later nb)
 replace YW := yh ((uh YW).keep nb)
 replace X0 := yh ((uh X0).keep nb)
 replace YG := yh ((uh YG).keep nb)
 replace HG := yh ((uh HG).later nb)
 replace HK := yh ((uh HK).later nb)
 have Zw18 : w17.heap.size ≤ w18.heap.size := nb.size
 replace HB := yh ((uh HB).trans (nb.mono (by omega)))
 clear nb
 refine (eq_WorldResult _ _ y w18 (uh HK).reads (uh HW).reads).mono ?_
 rintro e w19 ⟨rfl, hb⟩
 replace HA0 := yh ((uh HA0).later hb)
 replace P0 := yh ((uh P0).keep hb)
 replace HW := yh ((uh HW).later hb)
 replace YW := yh ((uh YW).keep hb)
 replace X0 := yh ((uh X0).keep hb)
 replace YG := yh ((uh YG).keep hb)
 replace HG := yh ((uh HG).later hb)
 replace HK := yh ((uh HK).later hb)
 replace YK := yh ((uh YK).keep hb)
 have Zw19 : w18.heap.size ≤ w19.heap.size := hb.size
 replace HB := yh ((uh HB).trans (hb.mono (by omega)))
 clear hb
 clear HK
 clear YK
 have l0P0 := (uh P0).at 0 _ rfl
 have l1P0 := (uh P0).at 1 _ rfl
 have l2P0 := (uh P0).at 2 _ rfl
 have l3P0 := (uh P0).at 3 _ rfl
 have l4P0 := (uh P0).at 4 _ rfl
 have l5P0 := (uh P0).at 5 _ rfl
 have l6P0 := (uh P0).at 6 _ rfl
 have ltP0 : w.heap.size < w19.heap.size := by omega
 have l0YW := (uh YW).at 0 _ rfl
 have l1YW := (uh YW).at 1 _ rfl
 have l2YW := (uh YW).at 2 _ rfl
 have l3YW := (uh YW).at 3 _ rfl
 have l4YW := (uh YW).at 4 _ rfl
 have l5YW := (uh YW).at 5 _ rfl
 have l6YW := (uh YW).at 6 _ rfl
 have l7YW := (uh YW).at 7 _ rfl
 have l8YW := (uh YW).at 8 _ rfl
 have ltYW : w4.heap.size < w19.heap.size := by omega
 have l0X0 := (uh X0).at 0 _ rfl
 have l1X0 := (uh X0).at 1 _ rfl
 have l2X0 := (uh X0).at 2 _ rfl
 have l3X0 := (uh X0).at 3 _ rfl
 have l4X0 := (uh X0).at 4 _ rfl
 have l5X0 := (uh X0).at 5 _ rfl
 have l6X0 := (uh X0).at 6 _ rfl
 have ltX0 : w6.heap.size < w19.heap.size := by omega
 have l0YG := (uh YG).at 0 _ rfl
 have l1YG := (uh YG).at 1 _ rfl
 have l2YG := (uh YG).at 2 _ rfl
 have l3YG := (uh YG).at 3 _ rfl
 have l4YG := (uh YG).at 4 _ rfl
 have l5YG := (uh YG).at 5 _ rfl
 have l6YG := (uh YG).at 6 _ rfl
 have l7YG := (uh YG).at 7 _ rfl
 have l8YG := (uh YG).at 8 _ rfl
 have ltYG : w8.heap.size < w19.heap.size := by omega
 simp only [ga, gb, gc] at l0P0 l1P0 l2P0 l3P0 l4P0 l5P0 l6P0 l0YW l1YW l2YW l3YW l4YW l5YW l6YW l7YW l8YW l0X0 l1X0 l2X0 l3X0 l4X0 l5X0 l6X0 l0YG l1YG l2YG l3YG l4YG l5YG l6YG l7YG l8YG
 go_wp2_with fail
 clear l0P0 l1P0 l2P0 l3P0 l4P0 l5P0 l6P0 ltP0 l0YW l1YW l2YW l3YW l4YW l5YW l6YW l7YW l8YW ltYW l0X0 l1X0 l2X0 l3X0 l4X0 l5X0 l6X0 ltX0 l0YG l1YG l2YG l3YG l4YG l5YG l6YG l7YG l8YG ltYG
 refine (held_WorldResult _ y 1 w19 (uh HG).reads (by omega) (by have := uh HC; omega)).mono ?_
 rintro e w20 ⟨rfl, hb⟩
 replace HA0 := yh ((uh HA0).later hb)
 replace P0 := yh ((uh P0).keep hb)
 replace HW := yh ((uh HW).later hb)
 replace YW := yh ((uh YW).keep hb)
 replace X0 := yh ((uh X0).keep hb)
 replace YG := yh ((uh YG).keep hb)
 replace HG := yh ((uh HG).later hb)
 have Zw20 : w19.heap.size ≤ w20.heap.size := hb.size
 replace HB := yh ((uh HB).trans (hb.mono (by omega)))
 clear hb
 have l0P0 := (uh P0).at 0 _ rfl
 have l1P0 := (uh P0).at 1 _ rfl
 have l2P0 := (uh P0).at 2 _ rfl
 have l3P0 := (uh P0).at 3 _ rfl
 have l4P0 := (uh P0).at 4 _ rfl
 have l5P0 := (uh P0).at 5 _ rfl
 have l6P0 := (uh P0).at 6 _ rfl
 have ltP0 : w.heap.size < w20.heap.size := by omega
 have l0YW := (uh YW).at 0 _ rfl
 have l1YW := (uh YW).at 1 _ rfl
 have l2YW := (uh YW).at 2 _ rfl
 have l3YW := (uh YW).at 3 _ rfl
 have l4YW := (uh YW).at 4 _ rfl
 have l5YW := (uh YW).at 5 _ rfl
 have l6YW := (uh YW).at 6 _ rfl
 have l7YW := (uh YW).at 7 _ rfl
 have l8YW := (uh YW).at 8 _ rfl
 have ltYW : w4.heap.size < w20.heap.size := by omega
 have l0X0 := (uh X0).at 0 _ rfl
 have l1X0 := (uh X0).at 1 _ rfl
 have l2X0 := (uh X0).at 2 _ rfl
 have l3X0 := (uh X0).at 3 _ rfl
 have l4X0 := (uh X0).at 4 _ rfl
 have l5X0 := (uh X0).at 5 _ rfl
 have l6X0 := (uh X0).at 6 _ rfl
 have ltX0 : w6.heap.size < w20.heap.size := by omega
 have l0YG := (uh YG).at 0 _ rfl
 have l1YG := (uh YG).at 1 _ rfl
 have l2YG := (uh YG).at 2 _ rfl
 have l3YG := (uh YG).at 3 _ rfl
 have l4YG := (uh YG).at 4 _ rfl
 have l5YG := (uh YG).at 5 _ rfl
 have l6YG := (uh YG).at 6 _ rfl
 have l7YG := (uh YG).at 7 _ rfl
 have l8YG := (uh YG).at 8 _ rfl
 have ltYG : w8.heap.size < w20.heap.size := by omega
 simp only [ga, gb, gc] at l0P0 l1P0 l2P0 l3P0 l4P0 l5P0 l6P0 l0YW l1YW l2YW l3YW l4YW l5YW l6YW l7YW l8YW l0X0 l1X0 l2X0 l3X0 l4X0 l5X0 l6X0 l0YG l1YG l2YG l3YG l4YG l5YG l6YG l7YG l8YG
 go_wp2_with fail
 clear l0P0 l1P0 l2P0 l3P0 l4P0 l5P0 l6P0 ltP0 l0YW l1YW l2YW l3YW l4YW l5YW l6YW l7YW l8YW ltYW l0X0 l1X0 l2X0 l3X0 l4X0 l5X0 l6X0 ltX0 l0YG l1YG l2YG l3YG l4YG l5YG l6YG l7YG l8YG ltYG
 go_ret
 exact ⟨rfl, uh HB⟩
theorem lawover_JoinWorld (u0 : List Value) (x0 : DWorld) (x1 : Int) (w : World) (A0 : Lay.tWorld.Reads w u0 x0) (NS : 1048576 < Lay.tWorld.sz x0) :
  Calls Tryz.prog 8 #[.agg u0.toArray, .int .i64 x1] w fun e w' => e = .returned (.bool true) ∧ Below w.heap.size w w' := by
 obtain ⟨a3p0, d3p0, a4p0, d4p0, a5p0, d5p0, a6p0, d6p0, rfl, -, -, -, -⟩ := open_World A0
 have HA0 := yh A0.liesIn
 clear A0
 have HB := yh (Below.refl w.heap.size w)
 go_enter Tryz.func8, Tryz.ntmps8
 go_wp2_with fail
 have nb : Below w.heap.size w (w.alloc (.cells #[.int .i64 x0.now, .int .i64 x0.events, .int .i64 x0.chain.epoch, .slice a3p0 x0.chain.ids.length d3p0, .slice a4p0 x0.nodes.length d4p0, .slice a5p0 x0.msgs.length d5p0, .slice a6p0 x0.history.length d6p0] 29)) := (Below.refl w.heap.size w).alloc (Nat.le_refl _) _
 have P0 : Hid (Box w.heap.size #[.int .i64 x0.now, .int .i64 x0.events, .int .i64 x0.chain.epoch, .slice a3p0 x0.chain.ids.length d3p0, .slice a4p0 x0.nodes.length d4p0, .slice a5p0 x0.msgs.length d5p0, .slice a6p0 x0.history.length d6p0] 29 (w.alloc (.cells #[.int .i64 x0.now, .int .i64 x0.events, .int .i64 x0.chain.epoch, .slice a3p0 x0.chain.ids.length d3p0, .slice a4p0 x0.nodes.length d4p0, .slice a5p0 x0.msgs.length d5p0, .slice a6p0 x0.history.length d6p0] 29)) (w.heap.size)) := newBoxAt (by omega) (by simp)
 generalize haw1 : (w.alloc (.cells #[.int .i64 x0.now, .int .i64 x0.events, .int .i64 x0.chain.epoch, .slice a3p0 x0.chain.ids.length d3p0, .slice a4p0 x0.nodes.length d4p0, .slice a5p0 x0.msgs.length d5p0, .slice a6p0 x0.history.length d6p0] 29)) = w1 at *
 have Gw1 : w.heap.size + 1 ≤ w1.heap.size := by rw [← haw1]; simp
 clear haw1
 replace HA0 := yh ((uh HA0).later nb)
 have Zw1 : w.heap.size ≤ w1.heap.size := nb.size
 replace HB := yh ((uh HB).trans (nb.mono (by omega)))
 clear nb
 refine (sz_World _ x0 (1048576) w1 (uh HA0).reads (by omega)).mono ?_
 rintro e w2 ⟨rfl, hb⟩
 replace HA0 := yh ((uh HA0).later hb)
 replace P0 := yh ((uh P0).keep hb)
 have Zw2 : w1.heap.size ≤ w2.heap.size := hb.size
 replace HB := yh ((uh HB).trans (hb.mono (by omega)))
 clear hb
 rw [szR_many (by omega)]
 go_wp2_with fail
 go_ret
 exact ⟨rfl, uh HB⟩
def Clear {α : Type} (A : Lay α) (w : World) (v : Value) (xs : List α) (lo hi g : Nat) : Prop := ∃ bl, (Lay.sl A).lies w [v] xs bl ∧ ∀ b ∈ bl, lo ≤ b ∧ b < hi ∧ b ≠ g
theorem Clear.reads {α : Type} {A : Lay α} {w : World} {v : Value} {xs : List α} {lo hi g : Nat} (h : Clear A w v xs lo hi g) : (Lay.sl A).Reads w [v] xs := by
 obtain ⟨bl, l, -⟩ := h
 exact ⟨bl, l⟩
theorem Clear.ext {α : Type} {A : Lay α} {w w' : World} {v : Value} {xs : List α} {lo hi g : Nat} {S : Nat → Prop} (h : Clear A w v xs lo hi g) (e : Ext S w w') (hs : ∀ k, lo ≤ k → k < hi → k ≠ g → ¬ S k) : Clear A w' v xs lo hi g := by
 obtain ⟨bl, l, hb⟩ := h
 exact ⟨bl, A.sl.keep l (fun b hm => e.block b (A.sl.lt l b hm) (hs b (hb b hm).1 (hb b hm).2.1 (hb b hm).2.2)), hb⟩
theorem Clear.wide {α : Type} {A : Lay α} {w : World} {v : Value} {xs : List α} {lo hi lo' hi' g : Nat} (h : Clear A w v xs lo hi g) (h1 : lo' ≤ lo) (h2 : hi ≤ hi') : Clear A w v xs lo' hi' g := by
 obtain ⟨bl, l, hb⟩ := h
 exact ⟨bl, l, fun b hm => ⟨by have := hb b hm; omega, by have := hb b hm; omega, (hb b hm).2.2⟩⟩
theorem clear_of {α : Type} {A : Lay α} {w : World} {v : Value} {xs : List α} {lo hi g : Nat} (h : (Lay.sl A).LiesIn w [v] xs lo hi) (hg : g < lo ∨ hi ≤ g) : Clear A w v xs lo hi g := by
 obtain ⟨bl, l, hb⟩ := h
 exact ⟨bl, l, fun b hm => ⟨(hb b hm).1, (hb b hm).2, by have := hb b hm; omega⟩⟩
theorem grown_alloc {w w' : World} {o : Obj} {r : Option Nat} (h : (w.alloc o).grownBy w' r) : w.grownBy w' r := grown_trans (World.grownBy_alloc w o r) h
theorem append_noneI {P : Program} (t ty e : TypeId) (i : TypeInfo) (ht : P.underlying t = some (.slice e)) (hi : P.info? e = some i) (bo : Option Addr) (n cap c : Nat) (hn : n ≤ cap) (w : World) :
  (Builtin.append_ #[t, t] ty #[.slice bo n cap, .slice none 0 c]).run P w = (Builtin.append_ #[t, t] ty #[.slice bo n cap, .slice (some ⟨0, 0, none⟩) 0 c]).run P w := by
 simp [Builtin.append_, run_underlying ht, sizeOf, typeInfo, hi, Builtin.lenOf, hn, Builtin.firstCells, loadCells, loadCellsFrom]
theorem IsInts.news {w : World} {b off cap : Nat} {zs : List Int} (h : IsInts w (.slice (some ⟨b, off, none⟩) zs.length cap) zs) (hp : 0 < zs.length) : ∀ j u, (zs.map (Value.int .i64))[j]? = some u → w.cell? ((⟨b, off, none⟩ : Addr).add j) = some u := by
 intro j u hu
 obtain ⟨ao, cp, hv, hwf, hc⟩ := h
 obtain ⟨b', off', hao, hc1⟩ := hc hp
 simp only [Value.slice.injEq] at hv
 obtain ⟨rfl, -, -⟩ := hv
 simp only [Option.some.injEq, Addr.mk.injEq, and_true] at hao
 obtain ⟨rfl, rfl⟩ := hao
 have hj : j < zs.length := by
  have := (List.getElem?_eq_some_iff.1 hu).1
  simpa using this
 rw [Addr.add_lit, hc1 j hj]
 simp [hj] at hu
 simp [List.getD, hj, hu]
theorem run_append_ints {w : World} (base ty : Nat) (v : Value) (n : Nat) (xs : List Value) (hown : w.ownsRow base 2 1 v n xs) (x : Value) (ks : List Int) (hx : IsInts w x ks)
  (hn : n + ks.length ≤ 100000000) (hbase : base ≤ w.heap.size) :
  ∃ v' w', (Builtin.append_ #[22, 22] ty #[v, x]).run Tryz.prog w = .ok v' w' ∧ w'.ownsRow base 2 1 v' (n + ks.length) (xs ++ ks.map (Value.int .i64)) ∧ w.grownBy w' v.ownBlock := by
 obtain ⟨i0, hi, hz0, hz1, hz2⟩ := info_parts info2
 have hml : n + ks.length ≤ maxLen := by unfold maxLen; omega
 by_cases hp : 0 < ks.length
 ·
  have hx' := hx
  obtain ⟨ao, cap, rfl, hwf, hc⟩ := hx'
  obtain ⟨b, off, rfl, hc1⟩ := hc hp
  obtain ⟨v', w', r1, r2, r3, -, -⟩ := run_append_own_at (P := Tryz.prog) w base 22 ty 2 i0 _ 1 8 Tryz.underlying22 hi hz0 hz1 hz2 rfl (by omega) v n xs hown ⟨b, off, none⟩ ks.length cap (ks.map (Value.int .i64)) (by simp) (hx.news hp) (by simp [Value.oneCell']) hml (by omega) hbase
  exact ⟨v', w', r1, r2, r3⟩
 obtain rfl : ks = [] := List.eq_nil_of_length_eq_zero (by omega)
 obtain ⟨ao, cap, rfl, hwf, hc⟩ := hx
 cases ao with
 | none =>
  obtain ⟨v', w', r1, r2, r3, -, -⟩ := run_append_own_at (P := Tryz.prog) w base 22 ty 2 i0 _ 1 8 Tryz.underlying22 hi hz0 hz1 hz2 rfl (by omega) v n xs hown ⟨0, 0, none⟩ 0 cap [] rfl (by simp) (by simp) hml (by simp at hn; omega) hbase
  refine ⟨v', w', ?_, r2, r3⟩
  rcases hown.2 with ⟨rfl, h0⟩ | ⟨g, cp, cur, rfl, _, _, hle, _⟩
  ·
   exact (append_noneI _ _ _ i0 Tryz.underlying22 hi none 0 0 cap (Nat.le_refl _) w).trans r1
  exact (append_noneI _ _ _ i0 Tryz.underlying22 hi _ n cp cap hle w).trans r1
 | some ad =>
  obtain ⟨v', w', r1, r2, r3, -, -⟩ := run_append_own_at (P := Tryz.prog) w base 22 ty 2 i0 _ 1 8 Tryz.underlying22 hi hz0 hz1 hz2 rfl (by omega) v n xs hown ad 0 cap [] rfl (by simp) (by simp) hml (by simp at hn; omega) hbase
  exact ⟨v', w', r1, r2, r3⟩
theorem wpList_append_ints {w : World} {base : Nat} {v : Value} {n : Nat} {xs : List Value} (hown : w.ownsRow base 2 1 v n xs) {X : Value} {ks : List Int} (hx : IsInts w X ks)
  {ops : Array Oper} {rest : List Oper} {o : Oper} {a : Act} {Q : Exit → Act → World → Prop} (hgd : o.guard = none) (s x : Operand)
  (ho : o.op = .call { callee := .builtin .append, args := #[s, x], argTypes := #[22, 22] }) (hv : a.eval s = v) (hX : a.eval x = X)
  (hn : n + ks.length ≤ 100000000) (hbase : base ≤ w.heap.size)
  (h : ∀ v' w', w'.ownsRow base 2 1 v' (n + ks.length) (xs ++ ks.map (Value.int .i64)) → w.grownBy w' v.ownBlock → Below base w w' → wpList Tryz.prog ops Q rest (a.put o.dst v') w') :
  wpList Tryz.prog ops Q (o :: rest) a w := by
 refine wpList_plain hgd fun K hK => ?_
 obtain ⟨v', w', hr, h2, h3⟩ := run_append_ints base o.type v n xs hown X ks hx hn hbase
 unfold Oper.wp execOp
 simp only [ho, resolve, invoke, builtin, Sem.run_bind, Sem.run_pure, Result.andThen_ok, List.map_toArray, List.map_cons, List.map_nil, hv, hX, hr]
 exact hK _ _ (h v' w' h2 h3 ((Below.refl _ _).grown h3 hbase (fun j hj => (hown.lt j hj).1)))
theorem l1Ints (v : Value) (zs : List Int) (w : World) (h : IsInts w v zs) (hn : zs.length ≤ 100000000) :
  Calls Tryz.prog 103 #[v] w fun e w' => ∃ v', e = .returned v' ∧ w'.ownsRow w.heap.size 2 1 v' zs.length (zs.map (Value.int .i64)) ∧ Below w.heap.size w w' := by
 have nb : Below w.heap.size w (w.alloc (.cells #[] 2)) := (Below.refl _ _).alloc (Nat.le_refl _) _
 have O : (w.alloc (.cells #[] 2)).ownsRow w.heap.size 2 1 (.slice (some ⟨w.heap.size, 0, none⟩) 0 0) 0 [] := World.ownsRow_lit w _ 0 (Nat.le_refl _) (by unfold maxLen; omega) rfl
 have h1 := h.later nb
 obtain ⟨ao, cap, rfl, -⟩ := h
 have HB := yh nb
 clear nb
 go_enter Tryz.func103, Tryz.ntmps103
 go_wp2_with (at_builtin; refine wpList_append_ints O h1 rfl _ _ rfl rfl rfl (by omega) (by simp) ?_)
 rintro v' w' O2 - hb
 have HB2 := yh ((uh HB).trans hb)
 clear O h1 hb HB
 go_wp2_with fail
 go_ret
 exact ⟨v', rfl, by simpa using O2, uh HB2⟩
structure DChainResult where
 code : Int
 chain : DChain
def Lay.tChainResult : Lay DChainResult := Lay.via (Lay.pair Lay.int Lay.tChain) (fun x => (x.code, x.chain)) (fun p => ⟨p.1, p.2⟩)
theorem lies_ChainResult {w : World} {cs : List Value} {x : DChainResult} {bl : List Nat} : Lay.tChainResult.lies w cs x bl ↔ ∃ (a2 : Option Addr) (d2 : Nat) (b2 : List Nat), cs = [.int .i64 x.code, .int .i64 x.chain.epoch, .slice a2 x.chain.ids.length d2] ∧ bl = b2 ∧ (Lit.int .i64 x.code).wf = true ∧ (Lit.int .i64 x.chain.epoch).wf = true ∧ (Lay.sl Lay.int).lies w [.slice a2 x.chain.ids.length d2] x.chain.ids b2 := by
 constructor
 ·
  intro h
  obtain ⟨c0_, r0_, e0_, s0_, rfl, rfl, h0, h1⟩ := h
  obtain ⟨rfl, w0, rfl⟩ := h0
  obtain ⟨a2, d2, q2, rfl, hq1, w1, l2⟩ := lies_Chain.1 h1
  exact ⟨a2, d2, q2, by simp, by simp [hq1], w0, w1, l2⟩
 rintro ⟨a2, d2, b2, rfl, hbl, w0, w1, l2⟩
 rw [hbl]
 exact ⟨[.int .i64 x.code], [.int .i64 x.chain.epoch, .slice a2 x.chain.ids.length d2], [], b2, rfl, by simp, ⟨rfl, w0, rfl⟩, lies_Chain.2 ⟨a2, d2, b2, rfl, rfl, w1, l2⟩⟩
end Go.Proofs.YtoanimpijfijgaaGreat

namespace Go.Proofs.YtoanimpijfijgaaGreat
end Go.Proofs.YtoanimpijfijgaaGreat

namespace Go.Proofs.YtoanimpijfijgaaGreat
end Go.Proofs.YtoanimpijfijgaaGreat

namespace Go.Proofs.YtoanimpijfijgaaGreat
open Go.RowKit
def atC (ids : List Int) (id : Int) : Nat := ids.findIdx (· == id)
def placeC (ids : List Int) (id : Int) : Int := if atC ids id < ids.length then (atC ids id : Int) else -1
def idsF : List Int → List Int → Int
 | _, [] => 0
 | pre, z :: zs => if 1 ≤ z ∧ z ≤ 5 then (if z ∈ pre then 6 else idsF (pre ++ [z]) zs) else 3
def chainFault (x : DChain) : Int :=
 if 1 ≤ x.epoch ∧ x.epoch ≤ 999 then (if 1 ≤ x.ids.length ∧ x.ids.length ≤ 5 then idsF [] x.ids else 2) else 3
def noChain : DChain := ⟨0, []⟩
def badChain (c : Int) : DChainResult := ⟨c, noChain⟩
def joinCh (x : DChain) (id : Int) : DChain := ⟨x.epoch + 1, x.ids ++ [id]⟩
def joinR (x : DChain) (id : Int) : DChainResult :=
 if chainFault x = 0 then
  if 1 ≤ id ∧ id ≤ 5 then (if 0 ≤ placeC x.ids id then badChain 6 else if 999 ≤ x.epoch then badChain 2 else ⟨0, joinCh x id⟩) else badChain 3
 else badChain (chainFault x)
theorem placeC_bd (ids : List Int) (id : Int) : -1 ≤ placeC ids id ∧ placeC ids id < ids.length + 1 := by
 unfold placeC
 split <;> omega
theorem placeC_neg (ids : List Int) (id : Int) : placeC ids id < 0 ↔ id ∉ ids := by
 unfold placeC atC
 have h := List.findIdx_lt_length (p := fun z => z == id) (xs := ids)
 constructor
 ·
  intro h1 hm
  rw [if_pos (h.2 ⟨id, hm, by simp⟩)] at h1
  omega
 intro h1
 rw [if_neg]
 ·
  omega
 intro h2
 obtain ⟨z, hz, e⟩ := h.1 h2
 rw [beq_iff_eq] at e
 rw [e] at hz
 exact h1 hz
theorem placeC_at {ids : List Int} {id : Int} {k : Nat} (hk : k < ids.length) (h : ids[k] = id) (hb : ∀ j (hj : j < k), ids[j] ≠ id) : placeC ids id = (k : Int) := by
 have e : atC ids id = k := by
  unfold atC
  rw [List.findIdx_eq hk]
  exact ⟨by simpa using h, fun j hj => by simpa using hb j hj⟩
 rw [placeC, e, if_pos hk]
theorem placeC_none {ids : List Int} {id : Int} (hb : ∀ j (hj : j < ids.length), ids[j] ≠ id) : placeC ids id = -1 := by
 have h1 : placeC ids id < 0 := by
  rw [placeC_neg]
  intro hm
  obtain ⟨j, hj, e⟩ := List.getElem_of_mem hm
  exact hb j hj e
 have := placeC_bd ids id
 omega
theorem placeC_get {ids : List Int} {id : Int} (h : 0 ≤ placeC ids id) : ∃ (k : Nat) (hk : k < ids.length), placeC ids id = (k : Int) ∧ ids[k] = id ∧ ∀ j (hj : j < k), ids[j] ≠ id := by
 have hl : atC ids id < ids.length := by
  unfold placeC at h
  split at h
  ·
   assumption
  omega
 refine ⟨atC ids id, hl, by rw [placeC, if_pos hl], ?_, fun j hj => ?_⟩
 ·
  have := List.findIdx_getElem (xs := ids) (p := fun z => z == id) (w := hl)
  exact beq_iff_eq.1 this
 have := List.not_of_lt_findIdx (xs := ids) (p := fun z => z == id) hj
 simpa using this
theorem idsF_vals : ∀ (zs pre : List Int), 0 ≤ idsF pre zs ∧ idsF pre zs ≤ 6
 | [], _ => by simp [idsF]
 | z :: zs, pre => by
  rw [idsF]
  split
  ·
   split
   ·
    omega
   exact idsF_vals zs _
  omega
theorem chainFault_vals (x : DChain) : 0 ≤ chainFault x ∧ chainFault x ≤ 6 := by
 have := idsF_vals x.ids []
 unfold chainFault
 split
 ·
  split <;> omega
 omega
theorem chainFault_bd (x : DChain) : -1000000000 ≤ chainFault x ∧ chainFault x ≤ 1000000000 := by have := chainFault_vals x; omega
theorem idsF_step (ids : List Int) (k : Nat) (hk : k < ids.length) : idsF (ids.take k) (ids.drop k) = if 1 ≤ ids[k] ∧ ids[k] ≤ 5 then (if ids[k] ∈ ids.take k then 6 else idsF (ids.take (k + 1)) (ids.drop (k + 1))) else 3 := by
 conv => lhs; rw [List.drop_eq_getElem_cons hk, idsF]
 rw [List.take_succ_eq_append_getElem hk]
theorem idsF_end (ids : List Int) : idsF (ids.take ids.length) (ids.drop ids.length) = 0 := by simp [idsF]
theorem placeC_self {ids : List Int} {k : Nat} (hk : k < ids.length) : (placeC ids ids[k] = (k : Int)) ↔ ids[k] ∉ ids.take k := by
 constructor
 ·
  intro h hm
  obtain ⟨j, hj, e⟩ := List.getElem_of_mem hm
  rw [List.length_take] at hj
  rw [List.getElem_take] at e
  obtain ⟨m, hm1, h1, h2, h3⟩ := placeC_get (ids := ids) (id := ids[k]) (by omega)
  obtain rfl : m = k := by omega
  exact h3 j (by omega) e
 intro h
 refine placeC_at hk rfl fun j hj e => h ?_
 rw [List.mem_iff_getElem]
 exact ⟨j, by rw [List.length_take]; omega, by rw [List.getElem_take]; exact e⟩
structure ChainOK (x : DChain) : Prop where
 epoch : 1 ≤ x.epoch ∧ x.epoch ≤ 999
 len : 1 ≤ x.ids.length ∧ x.ids.length ≤ 5
 ids : ∀ z ∈ x.ids, 1 ≤ z ∧ z ≤ 5
 nodup : x.ids.Nodup
theorem idsF_zero : ∀ (zs pre : List Int), idsF pre zs = 0 → (∀ z ∈ zs, 1 ≤ z ∧ z ≤ 5) ∧ zs.Nodup ∧ ∀ z ∈ zs, z ∉ pre
 | [], _, _ => by simp
 | z :: zs, pre, h => by
  rw [idsF] at h
  split at h
  ·
   rename_i h1
   split at h
   ·
    simp at h
   rename_i h2
   obtain ⟨q1, q2, q3⟩ := idsF_zero zs _ h
   refine ⟨?_, ?_, ?_⟩
   ·
    intro u hu
    rcases List.mem_cons.1 hu with rfl | hu
    ·
     exact h1
    exact q1 u hu
   ·
    refine List.nodup_cons.2 ⟨fun hm => q3 z hm (by simp), q2⟩
   intro u hu hp
   rcases List.mem_cons.1 hu with rfl | hu
   ·
    exact h2 hp
   exact q3 u hu (List.mem_append_left _ hp)
  simp at h
theorem chainFault_zero {x : DChain} (h : chainFault x = 0) : ChainOK x := by
 unfold chainFault at h
 split at h
 ·
  rename_i h1
  split at h
  ·
   rename_i h2
   obtain ⟨q1, q2, -⟩ := idsF_zero _ _ h
   exact ⟨h1, h2, q1, q2⟩
  simp at h
 simp at h
theorem joinR_bad {x : DChain} {id : Int} (h : chainFault x ≠ 0) : joinR x id = badChain (chainFault x) := by rw [joinR, if_neg h]
theorem own_ChainResult {w : World} {cs : List Value} {x : DChainResult} {bl : List Nat} (h : Lay.tChainResult.Own w cs x bl) : ∃ (a2 : Option Addr) (d2 : Nat) (g1 : List Nat), cs = [.int .i64 x.code, .int .i64 x.chain.epoch, .slice a2 x.chain.ids.length d2] ∧ bl = g1 ∧ Lay.tChain.Own w [.int .i64 x.chain.epoch, .slice a2 x.chain.ids.length d2] x.chain g1 ∧ (Lit.int .i64 x.code).wf = true := by
 obtain ⟨hl, hn, hf⟩ := h
 obtain ⟨a2, d2, b2, rfl, hbl, w0, w1, l2⟩ := lies_ChainResult.1 hl
 rw [hbl] at hn hf
 exact ⟨a2, d2, b2, rfl, hbl, ⟨lies_Chain.2 ⟨a2, d2, b2, rfl, rfl, w1, l2⟩, hn, hf⟩, w0⟩
theorem mkOwn_ChainResult {w : World} {x : DChainResult} {c1 : List Value} {g1 : List Nat} (O1 : Lay.tChain.Own w c1 x.chain g1) (v0 : (Lit.int .i64 x.code).wf = true) (hn : (g1).Nodup) : Lay.tChainResult.Own w ([.int .i64 x.code] ++ c1) x (g1) := by
 refine ⟨⟨[.int .i64 x.code], c1, [], g1, rfl, by simp, ⟨rfl, v0, rfl⟩, O1.1⟩, hn, ?_⟩
 intro b hb o
 exact O1.2.2 b hb o
theorem lies_store' {α : Type} {A : Lay α} {w4 : World} {s : Nat} {cs vs : List Value} {y : α} {lo hi : Nat} (h : A.LiesIn w4 cs y lo hi) (hs : s < lo) : A.LiesIn (setAll w4 s 0 vs) cs y lo hi :=
 h.ext (ext_setAll (fun q => q = s) (Ext.refl _ _) _ _ _ rfl) (fun q h1 h2 h3 => by omega)
theorem own_store' {α : Type} {A : Lay α} {w4 : World} {s : Nat} {cs vs : List Value} {y : α} {lo hi : Nat} (h : A.OwnIn w4 cs y lo hi) (hs : s < lo) : A.OwnIn (setAll w4 s 0 vs) cs y lo hi :=
 h.ext (ext_setAll (fun q => q = s) (Ext.refl _ _) _ _ _ rfl) (fun q h1 h2 h3 => by omega)
theorem nil_own {α : Type} {A : Lay α} {w : World} {lo hi : Nat} : (Lay.sl A).OwnIn w [.slice none 0 0] [] lo hi := ⟨[], ⟨⟨none, 0, rfl, by simp, Or.inl ⟨rfl, rfl⟩⟩, by simp, by simp⟩, by simp⟩
theorem int_cell {w : World} {b off cap k : Nat} {zs : List Int} (h : (Lay.sl Lay.int).Reads w [.slice (some ⟨b, off, none⟩) zs.length cap] zs) (hk : k < zs.length) : w.cell? ⟨b, off + k, none⟩ = some (.int .i64 zs[k]) := by
 obtain ⟨bl, h⟩ := h
 obtain ⟨ao, cp, e, -, -, h⟩ := Lay.lies_ints.1 h
 simp only [Value.slice.injEq] at e
 obtain ⟨rfl, -, rfl⟩ := e
 rcases h with ⟨rfl, -⟩ | ⟨b', off', e2, -, -, hj⟩
 ·
  simp at hk
 simp only [Option.some.injEq, Addr.mk.injEq, and_true] at e2
 obtain ⟨rfl, rfl⟩ := e2
 rw [hj k hk]
 simp [List.getD, hk]
theorem int_wf {w : World} {v : Value} {zs : List Int} (h : (Lay.sl Lay.int).Reads w [v] zs) : ∀ z ∈ zs, (Lit.int .i64 z).wf = true := (Lay.ints_reads h).wf
theorem own_chainR {w : World} {c : Int} {v : Value} {x : DChain} {lo hi : Nat} (hc : (Lit.int .i64 c).wf = true) (he : (Lit.int .i64 x.epoch).wf = true) (h : (Lay.sl Lay.int).OwnIn w [v] x.ids lo hi) : Lay.tChainResult.OwnIn w [.int .i64 c, .int .i64 x.epoch, v] ⟨c, x⟩ lo hi := by
 obtain ⟨bl, O, i⟩ := h
 exact ⟨bl, mkOwn_ChainResult (x := ⟨c, x⟩) (mkOwn_Chain O he O.2.1) hc O.2.1, i⟩
theorem own_badChain {w : World} {c : Int} {lo hi : Nat} (hc : -1000000000 ≤ c ∧ c ≤ 1000000000) : Lay.tChainResult.OwnIn w [.int .i64 c, .int .i64 0, .slice none 0 0] (badChain c) lo hi := own_chainR (x := noChain) (wf_of_bd hc) (by decide) nil_own
theorem l10CopyC (cs : List Value) (x : DChain) (w : World) (h : Lay.tChain.Reads w cs x) (hn : x.ids.length ≤ 100000000) :
  Calls Tryz.prog 222 #[.agg cs.toArray] w fun e w' => ∃ a c, e = .returned (.agg #[.int .i64 x.epoch, .slice a x.ids.length c]) ∧ (Lay.sl Lay.int).OwnIn w' [.slice a x.ids.length c] x.ids w.heap.size w'.heap.size ∧ Below w.heap.size w w' := by
 obtain ⟨a3, d3, rfl, R3⟩ := open_Chain h
 have nb : Below w.heap.size w ((w.alloc (.cells #[.int .i64 x.epoch, .slice a3 x.ids.length d3] 31)).alloc (.cells #[.int .i64 0, .slice none 0 0] 31)) := ((Below.refl _ _).alloc (Nat.le_refl _) _).alloc (by simp) _
 have HX : Hid (Box 0 #[.int .i64 x.epoch, .slice a3 x.ids.length d3] 31 ((w.alloc (.cells #[.int .i64 x.epoch, .slice a3 x.ids.length d3] 31)).alloc (.cells #[.int .i64 0, .slice none 0 0] 31)) w.heap.size) := (newBox (Nat.zero_le _)).grow _
 have HY : Hid (Box 0 #[.int .i64 0, .slice none 0 0] 31 ((w.alloc (.cells #[.int .i64 x.epoch, .slice a3 x.ids.length d3] 31)).alloc (.cells #[.int .i64 0, .slice none 0 0] 31)) (w.heap.size + 1)) := newBoxAt (Nat.zero_le _) (by simp)
 have hz0 : w.heap.size + 1 < ((w.alloc (.cells #[.int .i64 x.epoch, .slice a3 x.ids.length d3] 31)).alloc (.cells #[.int .i64 0, .slice none 0 0] 31)).heap.size := by simp
 have HL := yh (l1Ints _ x.ids _ (Lay.ints_reads (R3.later nb)) hn)
 have HWF := yh (Lay.ints_reads R3).wf
 have HN := yh hn
 have HB := yh nb
 clear nb h R3 hn
 go_enter Tryz.func222, Tryz.ntmps222
 go_upto_region 1 with fail
 generalize (w.alloc (.cells #[.int .i64 x.epoch, .slice a3 x.ids.length d3] 31)).alloc (.cells #[.int .i64 0, .slice none 0 0] 31) = W0 at *
 have z0 := Box.at (uh HX) 0 _ rfl
 have z1 := Box.at (uh HX) 1 _ rfl
 simp only [ga, gb, gc] at z0 z1
 have zl := (uh HX).lt
 go_wp2_with fail
 refine (uh HL).mono ?_
 rintro e w1 ⟨v', rfl, O, hb⟩
 obtain ⟨a, c, rfl⟩ := own_shape O
 have hx := (uh HX).keep hb
 have hy := (uh HY).keep hb
 clear z0 z1 zl
 have z0 := Box.at hx 0 _ rfl
 have z1 := Box.at hx 1 _ rfl
 have y0 := Box.at hy 0 _ rfl
 have y1 := Box.at hy 1 _ rfl
 simp only [ga, gb, gc] at z0 z1 y0 y1
 have zf := Box.soft hx
 have zl := hx.lt
 have yf := Box.soft hy
 have yl := hy.lt
 have hI := Lay.ownInts (uh HWF) (by have := uh HN; omega) O
 have e1 : Ext (fun q => q = w.heap.size ∨ q = w.heap.size + 1) w1 (((w1.setCell ⟨w.heap.size, 1, none⟩ (.slice a x.ids.length c)).setCell ⟨w.heap.size + 1, 0, none⟩ (.int .i64 x.epoch)).setCell ⟨w.heap.size + 1, 1, none⟩ (.slice a x.ids.length c)) :=
  (((Ext.refl _ _).setCell _ _ (Or.inl rfl)).setCell _ _ (Or.inr rfl)).setCell _ _ (Or.inr rfl)
 have HI := yh ((hI.ext e1 (fun q h1 h2 h3 => by omega)).mono (show w.heap.size ≤ W0.heap.size by omega) (show w1.heap.size ≤ (((w1.setCell ⟨w.heap.size, 1, none⟩ (.slice a x.ids.length c)).setCell ⟨w.heap.size + 1, 0, none⟩ (.int .i64 x.epoch)).setCell ⟨w.heap.size + 1, 1, none⟩ (.slice a x.ids.length c)).heap.size by simp))
 have HB9 := yh (((((uh HB).trans (hb.mono (uh HB).size)).setCell (p := ⟨w.heap.size, 1, none⟩) (Nat.le_refl _) (.slice a x.ids.length c)).setCell (p := ⟨w.heap.size + 1, 0, none⟩) (by simp) (.int .i64 x.epoch)).setCell (p := ⟨w.heap.size + 1, 1, none⟩) (by simp) (.slice a x.ids.length c))
 clear hx hy hb O hI e1 HL HX HY HB
 go_wp2_with fail
 refine bodyPost_ret (v := .agg #[.int .i64 x.epoch, .slice a x.ids.length c]) (by simp [results, Tryz.results222, go_sem, y0, y1]) rfl ?_
 exact ⟨a, c, rfl, uh HI, uh HB9⟩
theorem infoAppMsg : (Tryz.prog.info? 89).map (fun i => (i.zero, i.size, i.bytes)) = some (some (.agg #[.int .i64 0, .int .i64 0, .int .i64 0, .int .i64 0, .int .i64 0, .int .i64 0, .int .i64 0, .slice none 0 0, .int .i64 0, .int .i64 0]), 10, 96) := by kernel_rfl
theorem one_Msg {w : World} {row : List Value} {x : DMsg} {bl : List Nat} (h : Lay.tMsg.lies w row x bl) : (∀ u ∈ row, u.oneCell' = true) ∧ row.length = 1 * 10 := by
 obtain ⟨_, _, _, rfl, -⟩ := lies_Msg.1 h
 simp [Value.oneCell']
theorem wpList_append_Msg {w1 : World} {base : Nat} {v : Value} {rows : List (List Value)} {xs : List DMsg} {bls : List (List Nat)} (hG : Grow Lay.tMsg w1 base 89 v rows xs bls) {row : List Value} {x : DMsg} {bl : List Nat} (hl : Lay.tMsg.lies w1 row x bl) (hbl : ∀ b ∈ bl, v.ownBlock ≠ some b) {ops : Array Oper} {rest : List Oper} {o : Oper} {a : Act} {Q : Exit → Act → World → Prop} (hgd : o.guard = none) (s y : Operand)
  (ho : o.op = .call { callee := .builtin .append, args := #[s, y], argTypes := #[33, 33] }) (hs : a.eval s = v) (hy : a.eval y = .slice (some ⟨w1.heap.size, 0, none⟩) 1 1) (hn : xs.length + 1 ≤ 100000000) (hbase : base ≤ w1.heap.size)
  (h : ∀ g cap w', Grow Lay.tMsg w' base 89 (.slice (some ⟨g, 0, none⟩) (xs.length + 1) cap) (rows ++ [row]) (xs ++ [x]) (bls ++ [bl]) → Below base w1 w' → Ext (fun q => v.ownBlock = some q) w1 w' → g < w'.heap.size → w1.heap.size ≤ w'.heap.size → (v.ownBlock = some g ∨ w1.heap.size ≤ g) → wpList Tryz.prog ops Q rest (a.put o.dst (.slice (some ⟨g, 0, none⟩) (xs.length + 1) cap)) w') :
  wpList Tryz.prog ops Q (o :: rest) a (w1.alloc (.cells row.toArray 89)) := by
 obtain ⟨i0, hi0, hz0, hz1, hz2⟩ := info_parts infoAppMsg
 obtain ⟨h1, hlen⟩ := one_Msg hl
 refine wpList_append_lies _ hgd s y 33 ho base 89 i0 _ 10 96 Tryz.underlying33 hi0 hz0 hz1 hz2 rfl (by omega) v xs.length rows.flatten hs (hG.own.alloc _) ⟨w1.heap.size, 0, none⟩ 1 1 row hy hlen (World.news_of_block (cs := row.toArray) (t := 89) (fr := (0, 0)) (heap_alloc_new w1 _)) h1 (by omega) (by unfold maxLen; omega) (by omega) (by simp; omega) (w1.alloc (.cells row.toArray 89)).heap.size rfl ?_
 intro g cap w' h2 h3 h4 h5
 have hg := grown_alloc h3
 have hbw : Below base w1 w' := (Below.refl _ _).grown hg hbase (fun j hj => (hG.own.lt j hj).1)
 have hor : v.ownBlock = some g ∨ w1.heap.size ≤ g := by
  rcases h4 with h4 | h4
  ·
   exact Or.inl h4
  exact Or.inr (by rw [h4]; simp)
 exact h g cap w' (hG.snoc hl hbl h2 hg hor) hbw ⟨hbw.os, hbw.tape, hbw.output, hbw.size, fun k hk hn => hg.block k hk (fun e => hn e.symm)⟩ h5 hbw.size hor
theorem inC (v lo hi : Int) (w : World) :
  Calls Tryz.prog 64 #[.int .i64 v, .int .i64 lo, .int .i64 hi] w fun e w' => e = .returned (.bool (decide (lo ≤ v) && decide (v ≤ hi))) ∧ w' = w := by
 by_cases h1 : lo ≤ v
 ·
  have d1 : decide (lo ≤ v) = true := by simpa using h1
  rw [d1]
  cases d2 : decide (v ≤ hi) <;>
  ·
   go_enter Tryz.func64, Tryz.ntmps64
   go_wp2_with fail
   go_ret
   exact ⟨rfl, rfl⟩
 have d1 : decide (lo ≤ v) = false := by simpa using h1
 rw [d1]
 go_enter Tryz.func64, Tryz.ntmps64
 go_wp2_with fail
 go_ret
 exact ⟨rfl, rfl⟩
theorem idC (x : Int) (w : World) : Calls Tryz.prog 99 #[.int .i64 x] w fun e w' => e = .returned (.bool (decide (1 ≤ x) && decide (x ≤ 999))) ∧ w' = w := by
 go_enter Tryz.func99, Tryz.ntmps99
 go_wp2_with fail
 refine (inC x 1 999 _).mono ?_
 rintro e w1 ⟨rfl, rfl⟩
 go_wp2_with fail
 go_ret
 exact ⟨rfl, rfl⟩
theorem sessionC (x : Int) (w : World) : Calls Tryz.prog 311 #[.int .i64 x] w fun e w' => e = .returned (.bool (decide (1 ≤ x) && decide (x ≤ 9))) ∧ w' = w := by
 go_enter Tryz.func311, Tryz.ntmps311
 go_wp2_with fail
 refine (inC x 1 9 _).mono ?_
 rintro e w1 ⟨rfl, rfl⟩
 go_wp2_with fail
 go_ret
 exact ⟨rfl, rfl⟩
theorem implFault_len (ao : Option Addr) (n cap : Nat) (w : World) (h : n ≠ 3) :
  Calls Tryz.prog 252 #[.slice ao n cap] w fun e w' => e = .returned (.int .i64 1) ∧ w' = w := by
 have h3 : ((n : Int) != 3) = true := by rw [bne_iff_ne]; omega
 go_enter Tryz.func252, Tryz.ntmps252
 go_wp2
 go_ret
 exact ⟨rfl, rfl⟩
theorem implFault_three (b off cap : Nat) (zs : List Int) (w : World) (h : zs.length = 3) (hc : ∀ j, j < 3 → w.cell? ⟨b, off + j, none⟩ = some (.int .i64 (zs.getD j 0))) :
  Calls Tryz.prog 252 #[.slice (some ⟨b, off, none⟩) 3 cap] w fun e w' => e = .returned (.int .i64 (vecFault zs)) ∧ w' = w := by
 go_enter Tryz.func252, Tryz.ntmps252
 go_wp2
 go_loop [10] (fun i => ∃ k : Nat, k ≤ 3 ∧ i = .int .i64 k ∧ ∀ j, j < k → partB (zs.getD j 0) = true) (fun i => 3 - (intOf i).toNat)
 case atStart => exact ⟨0, Nat.zero_le _, rfl, fun j hj => by omega⟩
 case round =>
  obtain ⟨k, hk, rfl, hg⟩ := hrel
  have HG : Hid (∀ j, j < k → partB (zs.getD j 0) = true) := hg
  have HL : Hid (zs.length = 3) := h
  clear hg h
  by_cases hlt : k < 3
  ·
   have hcx : w.cell? ⟨b, off + k, none⟩ = some (.int .i64 (zs.getD k 0)) := hc k hlt
   obtain ⟨z, hz⟩ : ∃ z, z = zs.getD k 0 := ⟨_, rfl⟩
   rw [← hz] at hcx
   have HZ : Hid (z = zs.getD k 0) := hz
   clear hz hc
   cases hp : partB z with
   | true =>
    have hb := partB_true hp
    have HP : Hid (partB z = true) := hp
    clear hp
    obtain ⟨hb1, hb2⟩ := hb
    go_wp2
    go_round
    case rel =>
     refine ⟨k + 1, by omega, by go_num, fun j hj => ?_⟩
     by_cases hjk : j < k
     ·
      exact HG.out j hjk
     rw [show j = k by omega, ← HZ.out]; exact HP.out
    case measure => simp [intOf]; omega
   | false =>
    have HV : Hid (vecFault zs = 3) := vecFault_bad HL.out k hlt (by rw [← HZ.out]; exact hp)
    have hb := partB_false hp
    clear hp
    rcases hb with hb | hb
    ·
     go_wp2
     go_ret
     exact ⟨by rw [HV.out]; rfl, rfl⟩
    have hb1 : -1000 ≤ z := by omega
    have hd : decide (z ≤ 1000) = false := by simp; omega
    go_wp2
    go_ret
    exact ⟨by rw [HV.out]; rfl, rfl⟩
  have HV : Hid (vecFault zs = 0) := vecFault_ok HL.out (fun j hj => HG.out j (by omega))
  go_wp2
  go_ret
  exact ⟨by rw [HV.out]; rfl, rfl⟩
theorem modelFault_len (ao : Option Addr) (n cap : Nat) (w : World) (h : n ≠ 3) :
  Calls Tryz.prog 110 #[.slice ao n cap] w fun e w' => e = .returned (.int .i64 1) ∧ w' = w := by
 have h3 : ((n : Int) != 3) = true := by rw [bne_iff_ne]; omega
 go_enter Tryz.func110, Tryz.ntmps110
 go_wp2
 go_ret
 exact ⟨rfl, rfl⟩
theorem modelFault_three (b off cap : Nat) (zs : List Int) (w : World) (h : zs.length = 3) (hc : ∀ j, j < 3 → w.cell? ⟨b, off + j, none⟩ = some (.int .i64 (zs.getD j 0))) :
  Calls Tryz.prog 110 #[.slice (some ⟨b, off, none⟩) 3 cap] w fun e w' => e = .returned (.int .i64 (vecFault zs)) ∧ w' = w := by
 go_enter Tryz.func110, Tryz.ntmps110
 go_wp2
 go_loop [3] (fun i => ∃ k : Nat, k ≤ 3 ∧ i = .int .i64 k ∧ ∀ j, j < k → partB (zs.getD j 0) = true) (fun i => 3 - (intOf i).toNat)
 case atStart => exact ⟨0, Nat.zero_le _, rfl, fun j hj => by omega⟩
 case round =>
  obtain ⟨k, hk, rfl, hg⟩ := hrel
  have HG : Hid (∀ j, j < k → partB (zs.getD j 0) = true) := hg
  have HL : Hid (zs.length = 3) := h
  clear hg h
  by_cases hlt : k < 3
  ·
   have hcx : w.cell? ⟨b, off + k, none⟩ = some (.int .i64 (zs.getD k 0)) := hc k hlt
   obtain ⟨z, hz⟩ : ∃ z, z = zs.getD k 0 := ⟨_, rfl⟩
   rw [← hz] at hcx
   have HZ : Hid (z = zs.getD k 0) := hz
   clear hz hc
   cases hp : partB z with
   | true =>
    have hb := partB_true hp
    have HP : Hid (partB z = true) := hp
    clear hp
    obtain ⟨hb1, hb2⟩ := hb
    go_wp2
    go_round
    case rel =>
     refine ⟨k + 1, by omega, by go_num, fun j hj => ?_⟩
     by_cases hjk : j < k
     ·
      exact HG.out j hjk
     rw [show j = k by omega, ← HZ.out]; exact HP.out
    case measure => simp [intOf]; omega
   | false =>
    have HV : Hid (vecFault zs = 3) := vecFault_bad HL.out k hlt (by rw [← HZ.out]; exact hp)
    have hb := partB_false hp
    clear hp
    rcases hb with hb | hb
    ·
     go_wp2
     go_ret
     exact ⟨by rw [HV.out]; rfl, rfl⟩
    have hb1 : -1000 ≤ z := by omega
    have hd : decide (z ≤ 1000) = false := by simp; omega
    go_wp2
    go_ret
    exact ⟨by rw [HV.out]; rfl, rfl⟩
  have HV : Hid (vecFault zs = 0) := vecFault_ok HL.out (fun j hj => HG.out j (by omega))
  go_wp2
  go_ret
  exact ⟨by rw [HV.out]; rfl, rfl⟩
theorem implFault (v : Value) (zs : List Int) (w : World) (h : IsInts w v zs) :
  Calls Tryz.prog 252 #[v] w fun e w' => e = .returned (.int .i64 (vecFault zs)) ∧ w' = w := by
 obtain ⟨ao, cap, rfl, hwf, hc⟩ := h
 by_cases h3 : zs.length = 3
 ·
  obtain ⟨b, off, rfl, hc1⟩ := hc (by omega)
  rw [h3] at hc1 ⊢
  exact implFault_three b off cap zs w h3 hc1
 rw [vecFault_len h3]
 exact implFault_len ao zs.length cap w h3
theorem modelFault (v : Value) (zs : List Int) (w : World) (h : IsInts w v zs) :
  Calls Tryz.prog 110 #[v] w fun e w' => e = .returned (.int .i64 (vecFault zs)) ∧ w' = w := by
 obtain ⟨ao, cap, rfl, hwf, hc⟩ := h
 by_cases h3 : zs.length = 3
 ·
  obtain ⟨b, off, rfl, hc1⟩ := hc (by omega)
  rw [h3] at hc1 ⊢
  exact modelFault_three b off cap zs w h3 hc1
 rw [vecFault_len h3]
 exact modelFault_len ao zs.length cap w h3
def kindB (k : Int) (n : Nat) : Bool := (decide (1 ≤ k) && decide (k ≤ 2)) && !(k == 2 && decide (0 < (n : Int)))
def boundB (i s q : Int) : Bool := (decide (1 ≤ i) && decide (i ≤ 999)) && ((decide (1 ≤ s) && decide (s ≤ 9)) && (decide (1 ≤ q) && decide (q ≤ 999)))
def writeFault (k i : Int) (zs : List Int) (s q : Int) : Int :=
 if kindB k zs.length then (if boundB i s q then (if k = 1 then vecFault zs else 0) else 3) else 1
def WriteAtO (w : World) (b o : Nat) (k i : Int) (v : Value) (s q : Int) : Prop :=
 w.cell? ⟨b, o, none⟩ = some (.int .i64 k) ∧ w.cell? ⟨b, o + 1, none⟩ = some (.int .i64 i) ∧ w.cell? ⟨b, o + 2, none⟩ = some v ∧ w.cell? ⟨b, o + 3, none⟩ = some (.int .i64 s) ∧ w.cell? ⟨b, o + 4, none⟩ = some (.int .i64 q)
theorem l3FaultO (b o : Nat) (k i : Int) (v : Value) (s q : Int) (zs : List Int) (w : World) (hc : WriteAtO w b o k i v s q) (h : IsInts w v zs) :
  Calls Tryz.prog 287 #[.pointer (some ⟨b, o, none⟩)] w fun e w' => e = .returned (.int .i64 (writeFault k i zs s q)) ∧ w' = w := by
 have hv : ∃ a c, v = .slice a zs.length c := by obtain ⟨a, c, h, -⟩ := h; exact ⟨a, c, h⟩
 obtain ⟨av, cv, rfl⟩ := hv
 obtain ⟨c0, c1, c2, c3, c4⟩ := hc
 have HH := yh h
 clear h
 generalize hF : writeFault k i zs s q = F
 have HF := yh hF
 clear hF
 cases d1 : (decide (1 ≤ k) && decide (k ≤ 2)) with
 | false =>
  have hE : F = 1 := by rw [← uh HF, writeFault, kindB, d1]; rfl
  subst hE
  go_enter Tryz.func287, Tryz.ntmps287
  go_wp2_with fail
  refine (inC k 1 2 _).mono ?_
  rintro e w1 ⟨rfl, rfl⟩
  rw [d1]
  go_wp2_with fail
  go_ret
  exact ⟨rfl, rfl⟩
 | true =>
  have hk : k = 1 ∨ k = 2 := by
   simp only [Bool.and_eq_true, decide_eq_true_eq] at d1
   omega
  clear d1
  rcases hk with rfl | rfl
  ·
   have hK : kindB 1 zs.length = true := rfl
   cases dI : (decide (1 ≤ i) && decide (i ≤ 999)) with
   | false =>
    have hE : F = 3 := by rw [← uh HF, writeFault, hK, if_pos rfl, boundB, dI]; rfl
    subst hE
    go_enter Tryz.func287, Tryz.ntmps287
    go_wp2_with fail
    refine (inC 1 1 2 _).mono ?_
    rintro e w1 ⟨rfl, rfl⟩
    go_wp2_with fail
    refine (idC i _).mono ?_
    rintro e w1 ⟨rfl, rfl⟩
    rw [dI]
    go_wp2_with fail
    go_ret
    exact ⟨rfl, rfl⟩
   | true =>
    cases dS : (decide (1 ≤ s) && decide (s ≤ 9)) with
    | false =>
     have hE : F = 3 := by rw [← uh HF, writeFault, hK, if_pos rfl, boundB, dI, dS]; rfl
     subst hE
     go_enter Tryz.func287, Tryz.ntmps287
     go_wp2_with fail
     refine (inC 1 1 2 _).mono ?_
     rintro e w1 ⟨rfl, rfl⟩
     go_wp2_with fail
     refine (idC i _).mono ?_
     rintro e w1 ⟨rfl, rfl⟩
     rw [dI]
     go_wp2_with fail
     refine (sessionC s _).mono ?_
     rintro e w1 ⟨rfl, rfl⟩
     rw [dS]
     go_wp2_with fail
     go_ret
     exact ⟨rfl, rfl⟩
    | true =>
     cases dQ : (decide (1 ≤ q) && decide (q ≤ 999)) with
     | false =>
      have hE : F = 3 := by rw [← uh HF, writeFault, hK, if_pos rfl, boundB, dI, dS, dQ]; rfl
      subst hE
      go_enter Tryz.func287, Tryz.ntmps287
      go_wp2_with fail
      refine (inC 1 1 2 _).mono ?_
      rintro e w1 ⟨rfl, rfl⟩
      go_wp2_with fail
      refine (idC i _).mono ?_
      rintro e w1 ⟨rfl, rfl⟩
      rw [dI]
      go_wp2_with fail
      refine (sessionC s _).mono ?_
      rintro e w1 ⟨rfl, rfl⟩
      rw [dS]
      go_wp2_with fail
      refine (inC q 1 999 _).mono ?_
      rintro e w1 ⟨rfl, rfl⟩
      rw [dQ]
      go_wp2_with fail
      go_ret
      exact ⟨rfl, rfl⟩
     | true =>
      have hE : F = vecFault zs := by rw [← uh HF, writeFault, hK, if_pos rfl, boundB, dI, dS, dQ]; rfl
      subst hE
      go_enter Tryz.func287, Tryz.ntmps287
      go_wp2_with fail
      refine (inC 1 1 2 _).mono ?_
      rintro e w1 ⟨rfl, rfl⟩
      go_wp2_with fail
      refine (idC i _).mono ?_
      rintro e w1 ⟨rfl, rfl⟩
      rw [dI]
      go_wp2_with fail
      refine (sessionC s _).mono ?_
      rintro e w1 ⟨rfl, rfl⟩
      rw [dS]
      go_wp2_with fail
      refine (inC q 1 999 _).mono ?_
      rintro e w1 ⟨rfl, rfl⟩
      rw [dQ]
      go_wp2_with fail
      refine (modelFault _ zs _ (uh HH)).mono ?_
      rintro e w1 ⟨rfl, rfl⟩
      go_wp2_with fail
      go_ret
      exact ⟨rfl, rfl⟩
  by_cases hz : zs.length = 0
  ·
   obtain rfl : zs = [] := List.eq_nil_of_length_eq_zero hz
   have hK : kindB 2 ([] : List Int).length = true := rfl
   simp only [List.length_nil] at c2 hK
   clear hz
   cases dI : (decide (1 ≤ i) && decide (i ≤ 999)) with
   | false =>
    have hE : F = 3 := by rw [← uh HF, writeFault, show kindB 2 ([] : List Int).length = true from rfl, if_pos rfl, boundB, dI]; rfl
    subst hE
    go_enter Tryz.func287, Tryz.ntmps287
    go_wp2_with fail
    refine (inC 2 1 2 _).mono ?_
    rintro e w1 ⟨rfl, rfl⟩
    go_wp2_with fail
    refine (idC i _).mono ?_
    rintro e w1 ⟨rfl, rfl⟩
    rw [dI]
    go_wp2_with fail
    go_ret
    exact ⟨rfl, rfl⟩
   | true =>
    cases dS : (decide (1 ≤ s) && decide (s ≤ 9)) with
    | false =>
     have hE : F = 3 := by rw [← uh HF, writeFault, show kindB 2 ([] : List Int).length = true from rfl, if_pos rfl, boundB, dI, dS]; rfl
     subst hE
     go_enter Tryz.func287, Tryz.ntmps287
     go_wp2_with fail
     refine (inC 2 1 2 _).mono ?_
     rintro e w1 ⟨rfl, rfl⟩
     go_wp2_with fail
     refine (idC i _).mono ?_
     rintro e w1 ⟨rfl, rfl⟩
     rw [dI]
     go_wp2_with fail
     refine (sessionC s _).mono ?_
     rintro e w1 ⟨rfl, rfl⟩
     rw [dS]
     go_wp2_with fail
     go_ret
     exact ⟨rfl, rfl⟩
    | true =>
     cases dQ : (decide (1 ≤ q) && decide (q ≤ 999)) with
     | false =>
      have hE : F = 3 := by rw [← uh HF, writeFault, show kindB 2 ([] : List Int).length = true from rfl, if_pos rfl, boundB, dI, dS, dQ]; rfl
      subst hE
      go_enter Tryz.func287, Tryz.ntmps287
      go_wp2_with fail
      refine (inC 2 1 2 _).mono ?_
      rintro e w1 ⟨rfl, rfl⟩
      go_wp2_with fail
      refine (idC i _).mono ?_
      rintro e w1 ⟨rfl, rfl⟩
      rw [dI]
      go_wp2_with fail
      refine (sessionC s _).mono ?_
      rintro e w1 ⟨rfl, rfl⟩
      rw [dS]
      go_wp2_with fail
      refine (inC q 1 999 _).mono ?_
      rintro e w1 ⟨rfl, rfl⟩
      rw [dQ]
      go_wp2_with fail
      go_ret
      exact ⟨rfl, rfl⟩
     | true =>
      have hE : F = 0 := by rw [← uh HF, writeFault, show kindB 2 ([] : List Int).length = true from rfl, if_pos rfl, boundB, dI, dS, dQ]; rfl
      subst hE
      go_enter Tryz.func287, Tryz.ntmps287
      go_wp2_with fail
      refine (inC 2 1 2 _).mono ?_
      rintro e w1 ⟨rfl, rfl⟩
      go_wp2_with fail
      refine (idC i _).mono ?_
      rintro e w1 ⟨rfl, rfl⟩
      rw [dI]
      go_wp2_with fail
      refine (sessionC s _).mono ?_
      rintro e w1 ⟨rfl, rfl⟩
      rw [dS]
      go_wp2_with fail
      refine (inC q 1 999 _).mono ?_
      rintro e w1 ⟨rfl, rfl⟩
      rw [dQ]
      go_wp2_with fail
      go_ret
      exact ⟨rfl, rfl⟩
  have hE : F = 1 := by
   have : kindB 2 zs.length = false := by simp [kindB]; omega
   rw [← uh HF, writeFault, this]; rfl
  subst hE
  obtain ⟨m, hm⟩ : ∃ m, zs.length = m + 1 := ⟨zs.length - 1, by omega⟩
  rw [hm] at c2
  clear hz hm
  go_enter Tryz.func287, Tryz.ntmps287
  go_wp2_with fail
  refine (inC 2 1 2 _).mono ?_
  rintro e w1 ⟨rfl, rfl⟩
  go_wp2_with fail
  go_ret
  exact ⟨rfl, rfl⟩
theorem writeFault_zero {k i s q : Int} {zs : List Int} (h : writeFault k i zs s q = 0) : (1 ≤ i ∧ i ≤ 999) ∧ (1 ≤ s ∧ s ≤ 9) ∧ (1 ≤ q ∧ q ≤ 999) ∧ ((k = 1 ∧ vecFault zs = 0) ∨ (k = 2 ∧ zs = [])) := by
 unfold writeFault at h
 split at h
 ·
  next hk =>
  split at h
  ·
   next hb =>
   simp only [kindB, Bool.and_eq_true, decide_eq_true_eq, Bool.not_eq_true', Bool.and_eq_false_iff] at hk
   simp only [boundB, Bool.and_eq_true, decide_eq_true_eq] at hb
   refine ⟨hb.1, hb.2.1, hb.2.2, ?_⟩
   by_cases h1 : k = 1
   ·
    rw [if_pos h1] at h
    exact Or.inl ⟨h1, h⟩
   have h2 : k = 2 := by omega
   refine Or.inr ⟨h2, ?_⟩
   rcases hk.2 with h3 | h3
   ·
    simp [h2] at h3
   simp at h3
   exact h3
  omega
 omega
def wF (x : DWrite) : Int := writeFault x.kind x.id x.vec x.session x.seq
def wsFrom : List DWrite → Int
 | [] => 0
 | x :: xs => if wF x = 0 then wsFrom xs else wF x
def writesF (ws : List DWrite) : Int := if 200 < ws.length then 2 else wsFrom ws
theorem wsFrom_at (ws : List DWrite) (k : Nat) (h : k < ws.length) (hz : ∀ j (hj : j < ws.length), j < k → wF ws[j] = 0) (hn : wF ws[k] ≠ 0) : wsFrom ws = wF ws[k] := by
 induction ws generalizing k with
 | nil => simp at h
 | cons x xs ih =>
  match k with
  | 0 => rw [wsFrom, if_neg (by simpa using hn)]; rfl
  | k + 1 =>
   have h0 : wF x = 0 := hz 0 (by simp) (by omega)
   rw [wsFrom, if_pos h0]
   exact ih k (by simpa using h) (fun j hj hjk => hz (j + 1) (by simpa using hj) (by omega)) (by simpa using hn)
theorem wsFrom_all (ws : List DWrite) (hz : ∀ j (hj : j < ws.length), wF ws[j] = 0) : wsFrom ws = 0 := by
 induction ws with
 | nil => rfl
 | cons x xs ih =>
  have h0 : wF x = 0 := hz 0 (by simp)
  rw [wsFrom, if_pos h0]
  exact ih fun j hj => hz (j + 1) (by simpa using hj)
theorem wsFrom_zero {ws : List DWrite} (h : wsFrom ws = 0) : ∀ x ∈ ws, wF x = 0 := by
 induction ws with
 | nil => simp
 | cons x xs ih =>
  rw [wsFrom] at h
  by_cases h0 : wF x = 0
  ·
   rw [if_pos h0] at h
   intro y hy
   rcases List.mem_cons.1 hy with rfl | hy
   ·
    exact h0
   exact ih h y hy
  rw [if_neg h0] at h; exact absurd h h0
theorem writesF_zero {ws : List DWrite} (h : writesF ws = 0) : ws.length ≤ 200 ∧ ∀ x ∈ ws, wF x = 0 := by
 unfold writesF at h
 by_cases hn : 200 < ws.length
 ·
  rw [if_pos hn] at h; cases h
 rw [if_neg hn] at h; exact ⟨by omega, wsFrom_zero h⟩
theorem wF_vals (x : DWrite) : 0 ≤ wF x ∧ wF x ≤ 3 := by
 have hv := vecFault_vals x.vec
 unfold wF writeFault
 split
 ·
  split
  ·
   split
   ·
    exact hv
   decide
  decide
 decide
theorem wsFrom_vals (ws : List DWrite) : 0 ≤ wsFrom ws ∧ wsFrom ws ≤ 3 := by
 induction ws with
 | nil => decide
 | cons x xs ih =>
  rw [wsFrom]
  split
  ·
   exact ih
  exact wF_vals x
def lastI (ws : List DWrite) (s : Int) : Int := ws.foldl (fun n x => if x.session = s then max n x.seq else n) 0
def seenFrom (s q : Int) : Nat → List DWrite → Nat
 | _, [] => 0
 | n, x :: xs => if x.session = s ∧ x.seq = q then n + 1 else seenFrom s q (n + 1) xs
def seenI (ws : List DWrite) (s q : Int) : Nat := seenFrom s q 0 ws
def onceB : List DWrite → List DWrite → Bool
 | _, [] => true
 | pre, x :: xs => decide (lastI pre x.session < x.seq) && onceB (pre ++ [x]) xs
theorem lastI_snoc (ws : List DWrite) (x : DWrite) (s : Int) : lastI (ws ++ [x]) s = if x.session = s then max (lastI ws s) x.seq else lastI ws s := by
 simp [lastI]
theorem lastI_take (ws : List DWrite) (k : Nat) (h : k < ws.length) (s : Int) : lastI (ws.take (k + 1)) s = if ws[k].session = s then max (lastI (ws.take k) s) ws[k].seq else lastI (ws.take k) s := by
 rw [List.take_succ_eq_append_getElem h, lastI_snoc]
theorem seenFrom_snoc (s q : Int) (x : DWrite) : ∀ (ws : List DWrite) (n : Nat), seenFrom s q n (ws ++ [x]) = if seenFrom s q n ws = 0 then (if x.session = s ∧ x.seq = q then n + ws.length + 1 else 0) else seenFrom s q n ws
 | [], n => by simp [seenFrom]
 | y :: ws, n => by
  rw [List.cons_append, seenFrom, seenFrom]
  by_cases h : y.session = s ∧ y.seq = q
  ·
   rw [if_pos h, if_pos h, if_neg (by omega)]
  rw [if_neg h, if_neg h, seenFrom_snoc s q x ws (n + 1)]
  simp only [List.length_cons]
  rw [show n + 1 + ws.length + 1 = n + (ws.length + 1) + 1 by omega]
theorem seenI_snoc (ws : List DWrite) (x : DWrite) (s q : Int) : seenI (ws ++ [x]) s q = if seenI ws s q = 0 then (if x.session = s ∧ x.seq = q then ws.length + 1 else 0) else seenI ws s q := by
 have := seenFrom_snoc s q x ws 0
 rw [Nat.zero_add] at this
 exact this
theorem onceB_at : ∀ (ws pre : List DWrite) (k : Nat) (h : k < ws.length), (ws[k]).seq ≤ lastI (pre ++ ws.take k) (ws[k]).session → onceB pre ws = false
 | [], _, _, h, _ => by simp at h
 | x :: xs, pre, 0, _, hk => by
  have : ¬ (lastI pre x.session < x.seq) := by simpa using hk
  simp [onceB, this]
 | x :: xs, pre, k + 1, h, hk => by
  rw [onceB, onceB_at xs (pre ++ [x]) k (by simpa using h) (by simpa using hk), Bool.and_false]
theorem onceB_all : ∀ (ws pre : List DWrite), (∀ k (h : k < ws.length), lastI (pre ++ ws.take k) (ws[k]).session < (ws[k]).seq) → onceB pre ws = true
 | [], _, _ => rfl
 | x :: xs, pre, h => by
  have h0 := h 0 (by simp)
  rw [onceB, onceB_all xs (pre ++ [x]) fun k hk => by have := h (k + 1) (by simpa using hk); simpa using this]
  simpa using h0
def onceR (ws : List DWrite) : Bool := decide (writesF ws = 0) && onceB [] ws
theorem wF_seq {x : DWrite} (h : wF x = 0) : 1 ≤ x.session ∧ x.session ≤ 9 ∧ 1 ≤ x.seq ∧ x.seq ≤ 999 := by
 obtain ⟨-, h1, h2, -⟩ := writeFault_zero h
 exact ⟨h1.1, h1.2, h2.1, h2.2⟩
def sameW (x y : DWrite) : Bool := x.kind == y.kind && (x.id == y.id && (x.session == y.session && (x.seq == y.seq && decide (x.vec = y.vec))))
def noW (y : DWrite) : Prop := y.kind = 0 ∧ y.id = 0 ∧ y.session = 0 ∧ y.seq = 0 ∧ y.vec.length = 0
instance (y : DWrite) : Decidable (noW y) := by unfold noW; infer_instance
def msgFault (x : DMsg) : Int :=
 if ¬ (1 ≤ x.kind ∧ x.kind ≤ 2) ∨ x.src = x.dst ∨ (x.kind = 2 ∧ ¬ noW x.write) then 1
 else if ¬ (1 ≤ x.epoch ∧ x.epoch ≤ 999) ∨ ¬ (1 ≤ x.src ∧ x.src ≤ 5) ∨ ¬ (1 ≤ x.dst ∧ x.dst ≤ 5) ∨ ¬ (0 ≤ x.index ∧ x.index ≤ 40) ∨ (x.kind ≠ 2 ∧ x.index = 0) then 3
 else if x.kind = 2 then 0 else wF x.write
def msgsFrom : List DMsg → Int
 | [] => 0
 | x :: xs => if msgFault x = 0 then msgsFrom xs else msgFault x
def netFault (xs : List DMsg) : Int := if 40 < xs.length then 2 else msgsFrom xs
theorem msgFault_vals (x : DMsg) : 0 ≤ msgFault x ∧ msgFault x ≤ 6 := by
 have := wF_vals x.write
 unfold msgFault
 split
 ·
  omega
 split
 ·
  omega
 split
 ·
  omega
 omega
theorem msgsFrom_vals : ∀ xs : List DMsg, 0 ≤ msgsFrom xs ∧ msgsFrom xs ≤ 6
 | [] => by simp [msgsFrom]
 | x :: xs => by
  rw [msgsFrom]
  split
  ·
   exact msgsFrom_vals xs
  exact msgFault_vals x
theorem netFault_vals (xs : List DMsg) : 0 ≤ netFault xs ∧ netFault xs ≤ 6 := by
 unfold netFault
 split
 ·
  omega
 exact msgsFrom_vals xs
theorem msgsFrom_zero : ∀ {xs : List DMsg}, msgsFrom xs = 0 → ∀ x ∈ xs, msgFault x = 0
 | [], _, _, h => by cases h
 | x :: xs, h, y, hy => by
  rw [msgsFrom] at h
  by_cases h1 : msgFault x = 0
  ·
   rw [if_pos h1] at h
   rcases List.mem_cons.1 hy with rfl | hy
   ·
    exact h1
   exact msgsFrom_zero h y hy
  rw [if_neg h1] at h
  exact absurd h h1
theorem msgsFrom_all : ∀ {xs : List DMsg}, (∀ x ∈ xs, msgFault x = 0) → msgsFrom xs = 0
 | [], _ => rfl
 | x :: xs, h => by
  rw [msgsFrom, if_pos (h x (by simp))]
  exact msgsFrom_all fun y hy => h y (List.mem_cons_of_mem _ hy)
theorem msgsFrom_at : ∀ {xs : List DMsg} {k : Nat} (hk : k < xs.length), (∀ j (hj : j < k), msgFault xs[j] = 0) → msgFault xs[k] ≠ 0 → msgsFrom xs = msgFault xs[k]
 | x :: xs, 0, hk, _, h => by
  have h1 : msgFault x ≠ 0 := h
  rw [msgsFrom, if_neg h1]
  rfl
 | x :: xs, k + 1, hk, hb, h => by
  have h1 : msgFault x = 0 := hb 0 (by omega)
  rw [msgsFrom, if_pos h1]
  exact msgsFrom_at (xs := xs) (k := k) (by simpa using hk) (fun j hj => hb (j + 1) (by omega)) h
theorem node10C (x : Int) (w : World) : Calls Tryz.prog 174 #[.int .i64 x] w fun e w' => e = .returned (.bool (decide (1 ≤ x) && decide (x ≤ 5))) ∧ w' = w := by
 go_enter Tryz.func174, Tryz.ntmps174
 go_wp2_with fail
 refine (inC x 1 5 _).mono ?_
 rintro e w1 ⟨rfl, rfl⟩
 go_wp2_with fail
 go_ret
 exact ⟨rfl, rfl⟩
def MsgAt (w : World) (b o : Nat) (x : DMsg) (v : Value) : Prop :=
 w.cell? ⟨b, o, none⟩ = some (.int .i64 x.kind) ∧ w.cell? ⟨b, o + 1, none⟩ = some (.int .i64 x.epoch) ∧ w.cell? ⟨b, o + 2, none⟩ = some (.int .i64 x.src) ∧ w.cell? ⟨b, o + 3, none⟩ = some (.int .i64 x.dst) ∧ w.cell? ⟨b, o + 4, none⟩ = some (.int .i64 x.index) ∧ w.cell? ⟨b, o + 5, none⟩ = some (.int .i64 x.write.kind) ∧ w.cell? ⟨b, o + 5 + 1, none⟩ = some (.int .i64 x.write.id) ∧ w.cell? ⟨b, o + 5 + 2, none⟩ = some (v) ∧ w.cell? ⟨b, o + 5 + 3, none⟩ = some (.int .i64 x.write.session) ∧ w.cell? ⟨b, o + 5 + 4, none⟩ = some (.int .i64 x.write.seq)
theorem noW_f0 {y : DWrite} (h : (y.kind == 0) = false) : decide (noW y) = false := by
 rw [decide_eq_false_iff_not]; intro q; rw [q.1] at h; simp at h
theorem noW_f1 {y : DWrite} (h : (y.id == 0) = false) : decide (noW y) = false := by
 rw [decide_eq_false_iff_not]; intro q; rw [q.2.1] at h; simp at h
theorem noW_f2 {y : DWrite} (h : (y.session == 0) = false) : decide (noW y) = false := by
 rw [decide_eq_false_iff_not]; intro q; rw [q.2.2.1] at h; simp at h
theorem noW_f3 {y : DWrite} (h : (y.seq == 0) = false) : decide (noW y) = false := by
 rw [decide_eq_false_iff_not]; intro q; rw [q.2.2.2.1] at h; simp at h
theorem noW_f4 {y : DWrite} (h : ((y.vec.length : Int) == 0) = false) : decide (noW y) = false := by
 rw [decide_eq_false_iff_not]; intro q; rw [q.2.2.2.2] at h; simp at h
theorem noW_t {y : DWrite} (h0 : (y.kind == 0) = true) (h1 : (y.id == 0) = true) (h2 : (y.session == 0) = true) (h3 : (y.seq == 0) = true) (h4 : ((y.vec.length : Int) == 0) = true) : decide (noW y) = true := by
 rw [decide_eq_true_iff]
 simp only [beq_iff_eq] at h0 h1 h2 h3 h4
 exact ⟨h0, h1, h2, h3, by omega⟩
theorem mf_kind {x : DMsg} (h : (decide (1 ≤ x.kind) && decide (x.kind ≤ 2)) = false) : msgFault x = 1 := by
 rw [msgFault, if_pos (Or.inl (by simpa using h))]
theorem mf_self {x : DMsg} (h : (x.src == x.dst) = true) : msgFault x = 1 := by
 rw [msgFault, if_pos (Or.inr (Or.inl (beq_iff_eq.1 h)))]
theorem mf_ack {x : DMsg} (h : (x.kind == 2) = true) (h2 : decide (noW x.write) = false) : msgFault x = 1 := by
 rw [msgFault, if_pos (Or.inr (Or.inr ⟨beq_iff_eq.1 h, decide_eq_false_iff_not.1 h2⟩))]
def mfRest (x : DMsg) : Int := if ¬ (1 ≤ x.epoch ∧ x.epoch ≤ 999) ∨ ¬ (1 ≤ x.src ∧ x.src ≤ 5) ∨ ¬ (1 ≤ x.dst ∧ x.dst ≤ 5) ∨ ¬ (0 ≤ x.index ∧ x.index ≤ 40) ∨ (x.kind ≠ 2 ∧ x.index = 0) then 3
 else if x.kind = 2 then 0 else wF x.write
theorem mf_rest1 {x : DMsg} (h : (decide (1 ≤ x.kind) && decide (x.kind ≤ 2)) = true) (h1 : (x.src == x.dst) = false) (h2 : (x.kind == 2) = false) : msgFault x = mfRest x := by
 rw [msgFault, if_neg, mfRest]
 simp at h h1 h2
 rintro (q | q | q)
 ·
  exact q h
 ·
  exact h1 q
 exact h2 q.1
theorem mf_rest2 {x : DMsg} (h : (decide (1 ≤ x.kind) && decide (x.kind ≤ 2)) = true) (h1 : (x.src == x.dst) = false) (h2 : decide (noW x.write) = true) : msgFault x = mfRest x := by
 rw [msgFault, if_neg, mfRest]
 simp at h h1 h2
 rintro (q | q | q)
 ·
  exact q h
 ·
  exact h1 q
 exact q.2 h2
theorem mr_epoch {x : DMsg} (h : (decide (1 ≤ x.epoch) && decide (x.epoch ≤ 999)) = false) : mfRest x = 3 := by
 rw [mfRest, if_pos (Or.inl (by simpa using h))]
theorem mr_src {x : DMsg} (h : (decide (1 ≤ x.src) && decide (x.src ≤ 5)) = false) : mfRest x = 3 := by
 rw [mfRest, if_pos (Or.inr (Or.inl (by simpa using h)))]
theorem mr_dst {x : DMsg} (h : (decide (1 ≤ x.dst) && decide (x.dst ≤ 5)) = false) : mfRest x = 3 := by
 rw [mfRest, if_pos (Or.inr (Or.inr (Or.inl (by simpa using h))))]
theorem mr_index {x : DMsg} (h : (decide (0 ≤ x.index) && decide (x.index ≤ 40)) = false) : mfRest x = 3 := by
 rw [mfRest, if_pos (Or.inr (Or.inr (Or.inr (Or.inl (by simpa using h)))))]
theorem mr_zero {x : DMsg} (h : (x.kind == 2) = false) (h2 : (x.index == 0) = true) : mfRest x = 3 := by
 rw [mfRest, if_pos (Or.inr (Or.inr (Or.inr (Or.inr ⟨by simpa using h, by simpa using h2⟩))))]
theorem mr_ok {x : DMsg} (h0 : (decide (1 ≤ x.epoch) && decide (x.epoch ≤ 999)) = true) (h1 : (decide (1 ≤ x.src) && decide (x.src ≤ 5)) = true) (h2 : (decide (1 ≤ x.dst) && decide (x.dst ≤ 5)) = true) (h3 : (decide (0 ≤ x.index) && decide (x.index ≤ 40)) = true) (h4 : (x.kind == 2) = true ∨ (x.index == 0) = false) : mfRest x = if x.kind = 2 then 0 else wF x.write := by
 rw [mfRest, if_neg]
 simp at h0 h1 h2 h3 h4
 rintro (q | q | q | q | q)
 ·
  exact q h0
 ·
  exact q h1
 ·
  exact q h2
 ·
  exact q h3
 rcases h4 with h4 | h4
 ·
  exact q.1 h4
 exact h4 q.2
theorem write_vec {w : World} {y : DWrite} {a : Option Addr} {d : Nat} (h : Lay.tWrite.Reads w [.int .i64 y.kind, .int .i64 y.id, .slice a y.vec.length d, .int .i64 y.session, .int .i64 y.seq] y) : (Lay.sl Lay.int).Reads w [.slice a y.vec.length d] y.vec := by
 obtain ⟨a2, d2, e, R⟩ := open_Write h
 simp only [List.cons.injEq, Value.slice.injEq, and_true, true_and] at e
 obtain ⟨rfl, rfl⟩ := e
 exact R
theorem l11MsgC (b o : Nat) (a : Option Addr) (d : Nat) (x : DMsg) (w : World) (hM : MsgAt w b o x (.slice a x.write.vec.length d)) (R : (Lay.sl Lay.int).Reads w [.slice a x.write.vec.length d] x.write.vec) :
  Calls Tryz.prog 244 #[.pointer (some ⟨b, o, none⟩)] w fun e w' => e = .returned (.int .i64 (msgFault x)) ∧ Below w.heap.size w w' := by
 have hbig := R.big
 have H := yh R
 have HM := yh hM
 obtain ⟨c0, c1, c2, c3, c4, c5, c6, c7, c8, c9⟩ := hM
 have hb := World.block_lt_of_cell? _ _ c0
 clear R
 go_enter Tryz.func244, Tryz.ntmps244
 go_upto_region 2 with fail
 go_cut [4] from 10 to 48 (fun s4 wx => s4 = .bool (decide (noW x.write)) ∧ wx = w)
 case first =>
  cases e0 : (x.write.kind == 0)
  ·
   have HF := yh (noW_f0 e0)
   go_wp2_with fail
   go_meet
   exact ⟨by rw [uh HF], rfl⟩
  cases e1 : (x.write.id == 0)
  ·
   have HF := yh (noW_f1 e1)
   go_wp2_with fail
   go_meet
   exact ⟨by rw [uh HF], rfl⟩
  cases e2 : (x.write.session == 0)
  ·
   have HF := yh (noW_f2 e2)
   go_wp2_with fail
   go_meet
   exact ⟨by rw [uh HF], rfl⟩
  cases e3 : (x.write.seq == 0)
  ·
   have HF := yh (noW_f3 e3)
   go_wp2_with fail
   go_meet
   exact ⟨by rw [uh HF], rfl⟩
  cases e4 : ((x.write.vec.length : Int) == 0)
  ·
   have HF := yh (noW_f4 e4)
   go_wp2_with fail
   go_meet
   exact ⟨by rw [uh HF], rfl⟩
  have HF := yh (noW_t e0 e1 e2 e3 e4)
  go_wp2_with fail
  go_meet
  exact ⟨by rw [uh HF], rfl⟩
 case rest =>
  obtain ⟨rfl, hwc⟩ := hcut
  subst hwc
  cases d1 : (decide (1 ≤ x.kind) && decide (x.kind ≤ 2))
  ·
   have HF := yh (mf_kind d1)
   go_upto_region 3 with fail
   refine wp_region_noPanic ?_
   refine wp_region_held_drew (S := fun w' => Below wc.heap.size wc w') (by kernel_rfl) (Below.refl _ _).drew (fun zq => ?_)
   generalize wc.drew = wD at zq ⊢
   refine tkH 0 zq ?_
   refine tkH 1 zq ?_
   refine tkH 2 zq ?_
   refine tkJ 3 (v := ?va3_4) ?ha3_4 zq ?ra3_4
   case ha3_4 =>
    intro wS hSw
    have q0 := (hSw.cell (p := ⟨b, o, none⟩) hb).trans c0
    clear hSw
    (try dsimp only at hSw)
    go_simp
    try with_reducible rfl
   refine rdH 4 (fun K hK => ?_)
   go_simp
   go_at_call 64
   refine (inC x.kind 1 2 _).mono ?_
   rintro e w1 ⟨rfl, h1⟩
   subst w1
   rw [d1]
   try go_wp2_with fail
   refine hK.out _ _ zq (fun zq => ?_)
   clear hK K
   try simp only [Act.put, pz, py, px]
   refine tkH 5 zq ?_
   refine tkH 6 zq ?_
   refine skH 7 zq ?_
   refine skH 8 zq ?_
   refine skH 9 zq ?_
   refine skH 10 zq ?_
   refine skH 11 zq ?_
   refine skH 12 zq ?_
   refine skH 13 zq ?_
   refine skH 14 zq ?_
   refine skH 15 zq ?_
   refine tkH 16 zq ?_
   refine tkH 17 zq ?_
   refine skH 18 zq ?_
   refine skH 19 zq ?_
   refine skH 20 zq ?_
   refine skH 21 zq ?_
   refine skH 22 zq ?_
   refine tkH 23 zq ?_
   refine wpAnyH_done (by kernel_rfl) ?_ _
   refine NoPanic.normal ?_
   have HB9 := yh zq
   clear zq
   go_wp2_with fail
   go_ret
   exact ⟨by rw [uh HF]; rfl, uh HB9⟩
  cases e1 : (x.src == x.dst)
  ·
   cases e2 : (x.kind == 2)
   ·
    have HRS := yh (mf_rest1 d1 e1 e2)
    go_upto_region 3 with fail
    refine wp_region_noPanic ?_
    refine wp_region_held_drew (S := fun w' => Below wc.heap.size wc w') (by kernel_rfl) (Below.refl _ _).drew (fun zq => ?_)
    generalize wc.drew = wD at zq ⊢
    refine tkH 0 zq ?_
    refine tkH 1 zq ?_
    refine tkH 2 zq ?_
    refine tkJ 3 (v := ?vc3_4) ?hc3_4 zq ?rc3_4
    case hc3_4 =>
     intro wS hSw
     have q0 := (hSw.cell (p := ⟨b, o, none⟩) hb).trans c0
     clear hSw
     (try dsimp only at hSw)
     go_simp
     try with_reducible rfl
    refine rdH 4 (fun K hK => ?_)
    go_simp
    go_at_call 64
    refine (inC x.kind 1 2 _).mono ?_
    rintro e w1 ⟨rfl, h1⟩
    subst w1
    rw [d1]
    try go_wp2_with fail
    refine hK.out _ _ zq (fun zq => ?_)
    clear hK K
    try simp only [Act.put, pz, py, px]
    refine tkH 5 zq ?_
    refine tkH 6 zq ?_
    refine tkH 7 zq ?_
    refine tkH 8 zq ?_
    refine tkH 9 zq ?_
    refine tkJ 10 (v := ?vc10_10) ?hc10_10 zq ?rc10_10
    case hc10_10 =>
     intro wS hSw
     have q2 := (hSw.cell (p := ⟨b, o + 2, none⟩) hb).trans c2
     clear hSw
     (try dsimp only at hSw)
     go_simp
     try with_reducible rfl
    refine tkH 11 zq ?_
    refine tkH 12 zq ?_
    refine tkH 13 zq ?_
    refine tkJ 14 (v := ?vc14_14) ?hc14_14 zq ?rc14_14
    case hc14_14 =>
     intro wS hSw
     have q3 := (hSw.cell (p := ⟨b, o + 3, none⟩) hb).trans c3
     clear hSw
     (try dsimp only at hSw)
     go_simp
     try with_reducible rfl
    refine tkH 15 zq ?_
    refine tkH 16 zq ?_
    refine tkH 17 zq ?_
    refine tkH 18 zq ?_
    refine tkH 19 zq ?_
    refine skH 20 zq ?_
    refine skH 21 zq ?_
    refine tkH 22 zq ?_
    refine tkH 23 zq ?_
    refine wpAnyH_done (by kernel_rfl) ?_ _
    refine NoPanic.normal ?_
    have HB9 := zq
    clear zq
    have c0 : wD.cell? ⟨b, o, none⟩ = some (.int .i64 x.kind) := (HB9.cell (p := ⟨b, o, none⟩) hb).trans c0
    have c1 : wD.cell? ⟨b, o + 1, none⟩ = some (.int .i64 x.epoch) := (HB9.cell (p := ⟨b, o + 1, none⟩) hb).trans c1
    have c2 : wD.cell? ⟨b, o + 2, none⟩ = some (.int .i64 x.src) := (HB9.cell (p := ⟨b, o + 2, none⟩) hb).trans c2
    have c3 : wD.cell? ⟨b, o + 3, none⟩ = some (.int .i64 x.dst) := (HB9.cell (p := ⟨b, o + 3, none⟩) hb).trans c3
    have c4 : wD.cell? ⟨b, o + 4, none⟩ = some (.int .i64 x.index) := (HB9.cell (p := ⟨b, o + 4, none⟩) hb).trans c4
    have c5 : wD.cell? ⟨b, o + 5, none⟩ = some (.int .i64 x.write.kind) := (HB9.cell (p := ⟨b, o + 5, none⟩) hb).trans c5
    have c6 : wD.cell? ⟨b, o + 5 + 1, none⟩ = some (.int .i64 x.write.id) := (HB9.cell (p := ⟨b, o + 5 + 1, none⟩) hb).trans c6
    have c7 : wD.cell? ⟨b, o + 5 + 2, none⟩ = some (.slice a x.write.vec.length d) := (HB9.cell (p := ⟨b, o + 5 + 2, none⟩) hb).trans c7
    have c8 : wD.cell? ⟨b, o + 5 + 3, none⟩ = some (.int .i64 x.write.session) := (HB9.cell (p := ⟨b, o + 5 + 3, none⟩) hb).trans c8
    have c9 : wD.cell? ⟨b, o + 5 + 4, none⟩ = some (.int .i64 x.write.seq) := (HB9.cell (p := ⟨b, o + 5 + 4, none⟩) hb).trans c9
    have HWD := yh ((uh H).later HB9)
    replace hb : b < wD.heap.size := Nat.lt_of_lt_of_le hb HB9.size
    replace HB9 := yh HB9
    go_wp2_with fail
    refine (inC x.epoch 1 999 wD).mono ?_
    rintro e w1 ⟨rfl, h1⟩
    subst w1
    cases d10 : (decide (1 ≤ x.epoch) && decide (x.epoch ≤ 999))
    ·
     have HF := yh ((uh HRS).trans (mr_epoch d10))
     clear d10
     go_wp2_with fail
     go_ret
     exact ⟨by rw [uh HF]; rfl, uh HB9⟩
    skip
    go_wp2_with fail
    refine (node10C x.src wD).mono ?_
    rintro e w1 ⟨rfl, h1⟩
    subst w1
    cases d12 : (decide (1 ≤ x.src) && decide (x.src ≤ 5))
    ·
     have HF := yh ((uh HRS).trans (mr_src d12))
     clear d12
     go_wp2_with fail
     go_ret
     exact ⟨by rw [uh HF]; rfl, uh HB9⟩
    skip
    go_wp2_with fail
    refine (node10C x.dst wD).mono ?_
    rintro e w1 ⟨rfl, h1⟩
    subst w1
    cases d14 : (decide (1 ≤ x.dst) && decide (x.dst ≤ 5))
    ·
     have HF := yh ((uh HRS).trans (mr_dst d14))
     clear d14
     go_wp2_with fail
     go_ret
     exact ⟨by rw [uh HF]; rfl, uh HB9⟩
    skip
    go_wp2_with fail
    refine (inC x.index 0 40 wD).mono ?_
    rintro e w1 ⟨rfl, h1⟩
    subst w1
    cases d16 : (decide (0 ≤ x.index) && decide (x.index ≤ 40))
    ·
     have HF := yh ((uh HRS).trans (mr_index d16))
     clear d16
     go_wp2_with fail
     go_ret
     exact ⟨by rw [uh HF]; rfl, uh HB9⟩
    skip
    cases e5 : (x.index == 0)
    ·
     have HF : Hid (msgFault x = wF x.write) := (uh HRS).trans ((mr_ok d10 d12 d14 d16 (Or.inr e5)).trans (if_neg (by simpa using e2)))
     clear d10 d12 d14 d16
     go_wp2_with fail
     refine (l3FaultO b (o + 5) x.write.kind x.write.id _ x.write.session x.write.seq x.write.vec wD ⟨c5, c6, c7, c8, c9⟩ (Lay.ints_reads (uh HWD))).mono ?_
     rintro e w1 ⟨rfl, h1⟩
     subst w1
     go_wp2_with fail
     go_ret
     exact ⟨by rw [uh HF]; rfl, uh HB9⟩
    have HF : Hid (msgFault x = 3) := (uh HRS).trans (mr_zero e2 e5)
    clear d10 d12 d14 d16
    go_wp2_with fail
    go_ret
    exact ⟨by rw [uh HF]; rfl, uh HB9⟩
   cases e3 : decide (noW x.write)
   ·
    have HF := yh (mf_ack e2 e3)
    go_upto_region 3 with fail
    refine wp_region_noPanic ?_
    refine wp_region_held_drew (S := fun w' => Below wc.heap.size wc w') (by kernel_rfl) (Below.refl _ _).drew (fun zq => ?_)
    generalize wc.drew = wD at zq ⊢
    refine tkH 0 zq ?_
    refine tkH 1 zq ?_
    refine tkH 2 zq ?_
    refine tkJ 3 (v := ?vd3_4) ?hd3_4 zq ?rd3_4
    case hd3_4 =>
     intro wS hSw
     have q0 := (hSw.cell (p := ⟨b, o, none⟩) hb).trans c0
     clear hSw
     (try dsimp only at hSw)
     go_simp
     try with_reducible rfl
    refine rdH 4 (fun K hK => ?_)
    go_simp
    go_at_call 64
    refine (inC x.kind 1 2 _).mono ?_
    rintro e w1 ⟨rfl, h1⟩
    subst w1
    rw [d1]
    try go_wp2_with fail
    refine hK.out _ _ zq (fun zq => ?_)
    clear hK K
    try simp only [Act.put, pz, py, px]
    refine tkH 5 zq ?_
    refine tkH 6 zq ?_
    refine tkH 7 zq ?_
    refine tkH 8 zq ?_
    refine tkH 9 zq ?_
    refine tkJ 10 (v := ?vd10_10) ?hd10_10 zq ?rd10_10
    case hd10_10 =>
     intro wS hSw
     have q2 := (hSw.cell (p := ⟨b, o + 2, none⟩) hb).trans c2
     clear hSw
     (try dsimp only at hSw)
     go_simp
     try with_reducible rfl
    refine tkH 11 zq ?_
    refine tkH 12 zq ?_
    refine tkH 13 zq ?_
    refine tkJ 14 (v := ?vd14_14) ?hd14_14 zq ?rd14_14
    case hd14_14 =>
     intro wS hSw
     have q3 := (hSw.cell (p := ⟨b, o + 3, none⟩) hb).trans c3
     clear hSw
     (try dsimp only at hSw)
     go_simp
     try with_reducible rfl
    refine tkH 15 zq ?_
    refine tkH 16 zq ?_
    refine tkH 17 zq ?_
    refine tkH 18 zq ?_
    refine tkH 19 zq ?_
    refine tkH 20 zq ?_
    refine tkH 21 zq ?_
    refine tkH 22 zq ?_
    refine tkH 23 zq ?_
    refine wpAnyH_done (by kernel_rfl) ?_ _
    refine NoPanic.normal ?_
    have HB9 := yh zq
    clear zq
    go_wp2_with fail
    go_ret
    exact ⟨by rw [uh HF]; rfl, uh HB9⟩
   have HRS := yh (mf_rest2 d1 e1 e3)
   go_upto_region 3 with fail
   refine wp_region_noPanic ?_
   refine wp_region_held_drew (S := fun w' => Below wc.heap.size wc w') (by kernel_rfl) (Below.refl _ _).drew (fun zq => ?_)
   generalize wc.drew = wD at zq ⊢
   refine tkH 0 zq ?_
   refine tkH 1 zq ?_
   refine tkH 2 zq ?_
   refine tkJ 3 (v := ?ve3_4) ?he3_4 zq ?re3_4
   case he3_4 =>
    intro wS hSw
    have q0 := (hSw.cell (p := ⟨b, o, none⟩) hb).trans c0
    clear hSw
    (try dsimp only at hSw)
    go_simp
    try with_reducible rfl
   refine rdH 4 (fun K hK => ?_)
   go_simp
   go_at_call 64
   refine (inC x.kind 1 2 _).mono ?_
   rintro e w1 ⟨rfl, h1⟩
   subst w1
   rw [d1]
   try go_wp2_with fail
   refine hK.out _ _ zq (fun zq => ?_)
   clear hK K
   try simp only [Act.put, pz, py, px]
   refine tkH 5 zq ?_
   refine tkH 6 zq ?_
   refine tkH 7 zq ?_
   refine tkH 8 zq ?_
   refine tkH 9 zq ?_
   refine tkJ 10 (v := ?ve10_10) ?he10_10 zq ?re10_10
   case he10_10 =>
    intro wS hSw
    have q2 := (hSw.cell (p := ⟨b, o + 2, none⟩) hb).trans c2
    clear hSw
    (try dsimp only at hSw)
    go_simp
    try with_reducible rfl
   refine tkH 11 zq ?_
   refine tkH 12 zq ?_
   refine tkH 13 zq ?_
   refine tkJ 14 (v := ?ve14_14) ?he14_14 zq ?re14_14
   case he14_14 =>
    intro wS hSw
    have q3 := (hSw.cell (p := ⟨b, o + 3, none⟩) hb).trans c3
    clear hSw
    (try dsimp only at hSw)
    go_simp
    try with_reducible rfl
   refine tkH 15 zq ?_
   refine tkH 16 zq ?_
   refine tkH 17 zq ?_
   refine tkH 18 zq ?_
   refine tkH 19 zq ?_
   refine tkH 20 zq ?_
   refine tkH 21 zq ?_
   refine tkH 22 zq ?_
   refine tkH 23 zq ?_
   refine wpAnyH_done (by kernel_rfl) ?_ _
   refine NoPanic.normal ?_
   have HB9 := zq
   clear zq
   have c0 : wD.cell? ⟨b, o, none⟩ = some (.int .i64 x.kind) := (HB9.cell (p := ⟨b, o, none⟩) hb).trans c0
   have c1 : wD.cell? ⟨b, o + 1, none⟩ = some (.int .i64 x.epoch) := (HB9.cell (p := ⟨b, o + 1, none⟩) hb).trans c1
   have c2 : wD.cell? ⟨b, o + 2, none⟩ = some (.int .i64 x.src) := (HB9.cell (p := ⟨b, o + 2, none⟩) hb).trans c2
   have c3 : wD.cell? ⟨b, o + 3, none⟩ = some (.int .i64 x.dst) := (HB9.cell (p := ⟨b, o + 3, none⟩) hb).trans c3
   have c4 : wD.cell? ⟨b, o + 4, none⟩ = some (.int .i64 x.index) := (HB9.cell (p := ⟨b, o + 4, none⟩) hb).trans c4
   have c5 : wD.cell? ⟨b, o + 5, none⟩ = some (.int .i64 x.write.kind) := (HB9.cell (p := ⟨b, o + 5, none⟩) hb).trans c5
   have c6 : wD.cell? ⟨b, o + 5 + 1, none⟩ = some (.int .i64 x.write.id) := (HB9.cell (p := ⟨b, o + 5 + 1, none⟩) hb).trans c6
   have c7 : wD.cell? ⟨b, o + 5 + 2, none⟩ = some (.slice a x.write.vec.length d) := (HB9.cell (p := ⟨b, o + 5 + 2, none⟩) hb).trans c7
   have c8 : wD.cell? ⟨b, o + 5 + 3, none⟩ = some (.int .i64 x.write.session) := (HB9.cell (p := ⟨b, o + 5 + 3, none⟩) hb).trans c8
   have c9 : wD.cell? ⟨b, o + 5 + 4, none⟩ = some (.int .i64 x.write.seq) := (HB9.cell (p := ⟨b, o + 5 + 4, none⟩) hb).trans c9
   have HWD := yh ((uh H).later HB9)
   replace hb : b < wD.heap.size := Nat.lt_of_lt_of_le hb HB9.size
   replace HB9 := yh HB9
   go_wp2_with fail
   refine (inC x.epoch 1 999 wD).mono ?_
   rintro e w1 ⟨rfl, h1⟩
   subst w1
   cases d12 : (decide (1 ≤ x.epoch) && decide (x.epoch ≤ 999))
   ·
    have HF := yh ((uh HRS).trans (mr_epoch d12))
    clear d12
    go_wp2_with fail
    go_ret
    exact ⟨by rw [uh HF]; rfl, uh HB9⟩
   skip
   go_wp2_with fail
   refine (node10C x.src wD).mono ?_
   rintro e w1 ⟨rfl, h1⟩
   subst w1
   cases d14 : (decide (1 ≤ x.src) && decide (x.src ≤ 5))
   ·
    have HF := yh ((uh HRS).trans (mr_src d14))
    clear d14
    go_wp2_with fail
    go_ret
    exact ⟨by rw [uh HF]; rfl, uh HB9⟩
   skip
   go_wp2_with fail
   refine (node10C x.dst wD).mono ?_
   rintro e w1 ⟨rfl, h1⟩
   subst w1
   cases d16 : (decide (1 ≤ x.dst) && decide (x.dst ≤ 5))
   ·
    have HF := yh ((uh HRS).trans (mr_dst d16))
    clear d16
    go_wp2_with fail
    go_ret
    exact ⟨by rw [uh HF]; rfl, uh HB9⟩
   skip
   go_wp2_with fail
   refine (inC x.index 0 40 wD).mono ?_
   rintro e w1 ⟨rfl, h1⟩
   subst w1
   cases d18 : (decide (0 ≤ x.index) && decide (x.index ≤ 40))
   ·
    have HF := yh ((uh HRS).trans (mr_index d18))
    clear d18
    go_wp2_with fail
    go_ret
    exact ⟨by rw [uh HF]; rfl, uh HB9⟩
   skip
   have HF : Hid (msgFault x = 0) := (uh HRS).trans ((mr_ok d12 d14 d16 d18 (Or.inl e2)).trans (if_pos (beq_iff_eq.1 e2)))
   clear d12 d14 d16 d18
   go_wp2_with fail
   go_ret
   exact ⟨by rw [uh HF]; rfl, uh HB9⟩
  have HF := yh (mf_self e1)
  go_upto_region 3 with fail
  refine wp_region_noPanic ?_
  refine wp_region_held_drew (S := fun w' => Below wc.heap.size wc w') (by kernel_rfl) (Below.refl _ _).drew (fun zq => ?_)
  generalize wc.drew = wD at zq ⊢
  refine tkH 0 zq ?_
  refine tkH 1 zq ?_
  refine tkH 2 zq ?_
  refine tkJ 3 (v := ?vb3_4) ?hb3_4 zq ?rb3_4
  case hb3_4 =>
   intro wS hSw
   have q0 := (hSw.cell (p := ⟨b, o, none⟩) hb).trans c0
   clear hSw
   (try dsimp only at hSw)
   go_simp
   try with_reducible rfl
  refine rdH 4 (fun K hK => ?_)
  go_simp
  go_at_call 64
  refine (inC x.kind 1 2 _).mono ?_
  rintro e w1 ⟨rfl, h1⟩
  subst w1
  rw [d1]
  try go_wp2_with fail
  refine hK.out _ _ zq (fun zq => ?_)
  clear hK K
  try simp only [Act.put, pz, py, px]
  refine tkH 5 zq ?_
  refine tkH 6 zq ?_
  refine tkH 7 zq ?_
  refine tkH 8 zq ?_
  refine tkH 9 zq ?_
  refine tkJ 10 (v := ?vb10_10) ?hb10_10 zq ?rb10_10
  case hb10_10 =>
   intro wS hSw
   have q2 := (hSw.cell (p := ⟨b, o + 2, none⟩) hb).trans c2
   clear hSw
   (try dsimp only at hSw)
   go_simp
   try with_reducible rfl
  refine tkH 11 zq ?_
  refine tkH 12 zq ?_
  refine tkH 13 zq ?_
  refine tkJ 14 (v := ?vb14_14) ?hb14_14 zq ?rb14_14
  case hb14_14 =>
   intro wS hSw
   have q3 := (hSw.cell (p := ⟨b, o + 3, none⟩) hb).trans c3
   clear hSw
   (try dsimp only at hSw)
   go_simp
   try with_reducible rfl
  refine tkH 15 zq ?_
  refine tkH 16 zq ?_
  refine tkH 17 zq ?_
  refine skH 18 zq ?_
  refine skH 19 zq ?_
  refine skH 20 zq ?_
  refine skH 21 zq ?_
  refine skH 22 zq ?_
  refine tkH 23 zq ?_
  refine wpAnyH_done (by kernel_rfl) ?_ _
  refine NoPanic.normal ?_
  have HB9 := yh zq
  clear zq
  go_wp2_with fail
  go_ret
  exact ⟨by rw [uh HF]; rfl, uh HB9⟩
end Go.Proofs.YtoanimpijfijgaaGreat
