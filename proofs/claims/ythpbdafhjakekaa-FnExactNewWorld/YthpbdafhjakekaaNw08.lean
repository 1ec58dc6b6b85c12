/-
  Texts of this proof in one: LawXNewWorld, WrBox, InB, InC, Fault, WrFault, WrZero, ApplyPlain, SessPlain, LayIntResult, LayWritesResult, SeqPlain, LayOnceResult, AppPlain, LayNodeResult, NodePlain, LayChainResult, LayTextResult.
  Their conditions stand in their theorems.
-/
import Derived.Test.YthpbdafhjakekaaChecked
import Derived.Test.YthpbdafhjakekaaNw01
import Derived.Test.YthpbdafhjakekaaNw05
import Derived.Test.YthpbdafhjakekaaNw07
import Derived.Test.YthpbdafhjakekaaNw03
import Derived.BigQuiet
import Derived.Deep.QuietTactic
import Derived.WalkSmall
import Derived.Test.YthpbdafhjakekaaNw02

namespace Go.Proofs.Ythpbdafhjakekaa
open Go.RowKit

set_option maxRecDepth 100000 in
set_option maxHeartbeats 4000000 in
theorem lawx_NewWorld (x0 : Int) (y : DWorldResult) (w : World)
    (hS : ∀ (W : World), Calls Try.prog 4 #[.int .i64 x0] W fun e w' => ∃ cs, e = .returned (.agg cs.toArray) ∧ Lay.tWorldResult.Reads w' cs y ∧ Below W.heap.size W w')
    (hI : ∀ (W : World), Calls Try.prog 5 #[.int .i64 x0] W fun e w' => ∃ cs, e = .returned (.agg cs.toArray) ∧ Lay.tWorldResult.OwnIn w' cs y W.heap.size w'.heap.size ∧ Below W.heap.size W w') (hc : Lay.tWorldResult.vcnt y ≤ 100000000) :
    Calls Try.prog 3 #[.int .i64 x0] w fun e w' => e = .returned (.bool true) ∧ Below w.heap.size w w' := by
  have HS := hide hS
  have HI := hide hI
  clear hS hI
  have HC := hide hc
  clear hc
  have HB := hide (Below.refl w.heap.size w)
  go_enter Try.func3, Try.ntmps3
  go_wp2_with fail
  refine (unhide HS w).mono ?_
  rintro e w1 ⟨cs, rfl, O, hb⟩
  have Zw1 : w.heap.size ≤ w1.heap.size := hb.size
  replace HB := hide ((unhide HB).trans (hb.mono (by omega)))
  clear hb
  obtain ⟨a5W, d5W, a6W, d6W, a7W, d7W, a8W, d8W, rfl, -⟩ := open_WorldResult O
  have HW := hide O.liesIn
  clear O
  have nb : Below w1.heap.size w1 (w1.alloc (.cells #[.int .i64 y.code, .bool y.moved, .int .i64 y.world.now, .int .i64 y.world.events, .int .i64 y.world.chain.epoch, .slice a5W y.world.chain.ids.length d5W, .slice a6W y.world.nodes.length d6W, .slice a7W y.world.msgs.length d7W, .slice a8W y.world.history.length d8W] 31)) := (Below.refl _ _).alloc (Nat.le_refl _) _
  have YW : Hid (Box w1.heap.size #[.int .i64 y.code, .bool y.moved, .int .i64 y.world.now, .int .i64 y.world.events, .int .i64 y.world.chain.epoch, .slice a5W y.world.chain.ids.length d5W, .slice a6W y.world.nodes.length d6W, .slice a7W y.world.msgs.length d7W, .slice a8W y.world.history.length d8W] 31 (w1.alloc (.cells #[.int .i64 y.code, .bool y.moved, .int .i64 y.world.now, .int .i64 y.world.events, .int .i64 y.world.chain.epoch, .slice a5W y.world.chain.ids.length d5W, .slice a6W y.world.nodes.length d6W, .slice a7W y.world.msgs.length d7W, .slice a8W y.world.history.length d8W] 31)) w1.heap.size) := newBox (Nat.le_refl _)
  go_wp2_with fail
  generalize haw2 : w1.alloc (.cells #[.int .i64 y.code, .bool y.moved, .int .i64 y.world.now, .int .i64 y.world.events, .int .i64 y.world.chain.epoch, .slice a5W y.world.chain.ids.length d5W, .slice a6W y.world.nodes.length d6W, .slice a7W y.world.msgs.length d7W, .slice a8W y.world.history.length d8W] 31) = w2 at *
  have Gw2 : w1.heap.size < w2.heap.size := by rw [← haw2]; simp
  clear haw2
  replace HW := hide ((unhide HW).later nb)
  have Zw2 : w1.heap.size ≤ w2.heap.size := nb.size
  replace HB := hide ((unhide HB).trans (nb.mono (by omega)))
  clear nb
  refine (unhide HI w2).mono ?_
  rintro e w3 ⟨cs, rfl, O, hb⟩
  replace HW := hide ((unhide HW).later hb)
  replace YW := hide ((unhide YW).keep hb)
  have Zw3 : w2.heap.size ≤ w3.heap.size := hb.size
  replace HB := hide ((unhide HB).trans (hb.mono (by omega)))
  clear hb
  obtain ⟨a5G, d5G, a6G, d6G, a7G, d7G, a8G, d8G, rfl, -⟩ := open_WorldResult O.reads
  have HG := hide O
  clear O
  have nb : Below w3.heap.size w3 (w3.alloc (.cells #[.int .i64 y.code, .bool y.moved, .int .i64 y.world.now, .int .i64 y.world.events, .int .i64 y.world.chain.epoch, .slice a5G y.world.chain.ids.length d5G, .slice a6G y.world.nodes.length d6G, .slice a7G y.world.msgs.length d7G, .slice a8G y.world.history.length d8G] 31)) := (Below.refl _ _).alloc (Nat.le_refl _) _
  have YG : Hid (Box w3.heap.size #[.int .i64 y.code, .bool y.moved, .int .i64 y.world.now, .int .i64 y.world.events, .int .i64 y.world.chain.epoch, .slice a5G y.world.chain.ids.length d5G, .slice a6G y.world.nodes.length d6G, .slice a7G y.world.msgs.length d7G, .slice a8G y.world.history.length d8G] 31 (w3.alloc (.cells #[.int .i64 y.code, .bool y.moved, .int .i64 y.world.now, .int .i64 y.world.events, .int .i64 y.world.chain.epoch, .slice a5G y.world.chain.ids.length d5G, .slice a6G y.world.nodes.length d6G, .slice a7G y.world.msgs.length d7G, .slice a8G y.world.history.length d8G] 31)) w3.heap.size) := newBox (Nat.le_refl _)
  have l0YW := (unhide YW).at 0 _ rfl
  have l1YW := (unhide YW).at 1 _ rfl
  have l2YW := (unhide YW).at 2 _ rfl
  have l3YW := (unhide YW).at 3 _ rfl
  have l4YW := (unhide YW).at 4 _ rfl
  have l5YW := (unhide YW).at 5 _ rfl
  have l6YW := (unhide YW).at 6 _ rfl
  have l7YW := (unhide YW).at 7 _ rfl
  have l8YW := (unhide YW).at 8 _ rfl
  have ltYW : w1.heap.size < w3.heap.size := by omega
  simp only [List.getElem_toArray, List.getElem_cons_zero, List.getElem_cons_succ] at l0YW l1YW l2YW l3YW l4YW l5YW l6YW l7YW l8YW
  go_wp2_with fail
  clear l0YW l1YW l2YW l3YW l4YW l5YW l6YW l7YW l8YW ltYW
  generalize haw4 : w3.alloc (.cells #[.int .i64 y.code, .bool y.moved, .int .i64 y.world.now, .int .i64 y.world.events, .int .i64 y.world.chain.epoch, .slice a5G y.world.chain.ids.length d5G, .slice a6G y.world.nodes.length d6G, .slice a7G y.world.msgs.length d7G, .slice a8G y.world.history.length d8G] 31) = w4 at *
  have Gw4 : w3.heap.size < w4.heap.size := by rw [← haw4]; simp
  clear haw4
  replace HW := hide ((unhide HW).later nb)
  replace YW := hide ((unhide YW).keep nb)
  replace HG := hide ((unhide HG).later nb)
  have Zw4 : w3.heap.size ≤ w4.heap.size := nb.size
  replace HB := hide ((unhide HB).trans (nb.mono (by omega)))
  clear nb
  refine (eq_WorldResult _ _ y w4 (unhide HG).reads (unhide HW).reads).mono ?_
  rintro e w5 ⟨rfl, hb⟩
  replace HW := hide ((unhide HW).later hb)
  replace YW := hide ((unhide YW).keep hb)
  replace HG := hide ((unhide HG).later hb)
  replace YG := hide ((unhide YG).keep hb)
  have Zw5 : w4.heap.size ≤ w5.heap.size := hb.size
  replace HB := hide ((unhide HB).trans (hb.mono (by omega)))
  clear hb
  have l0YW := (unhide YW).at 0 _ rfl
  have l1YW := (unhide YW).at 1 _ rfl
  have l2YW := (unhide YW).at 2 _ rfl
  have l3YW := (unhide YW).at 3 _ rfl
  have l4YW := (unhide YW).at 4 _ rfl
  have l5YW := (unhide YW).at 5 _ rfl
  have l6YW := (unhide YW).at 6 _ rfl
  have l7YW := (unhide YW).at 7 _ rfl
  have l8YW := (unhide YW).at 8 _ rfl
  have ltYW : w1.heap.size < w5.heap.size := by omega
  have l0YG := (unhide YG).at 0 _ rfl
  have l1YG := (unhide YG).at 1 _ rfl
  have l2YG := (unhide YG).at 2 _ rfl
  have l3YG := (unhide YG).at 3 _ rfl
  have l4YG := (unhide YG).at 4 _ rfl
  have l5YG := (unhide YG).at 5 _ rfl
  have l6YG := (unhide YG).at 6 _ rfl
  have l7YG := (unhide YG).at 7 _ rfl
  have l8YG := (unhide YG).at 8 _ rfl
  have ltYG : w3.heap.size < w5.heap.size := by omega
  simp only [List.getElem_toArray, List.getElem_cons_zero, List.getElem_cons_succ] at l0YW l1YW l2YW l3YW l4YW l5YW l6YW l7YW l8YW l0YG l1YG l2YG l3YG l4YG l5YG l6YG l7YG l8YG
  go_wp2_with fail
  clear l0YW l1YW l2YW l3YW l4YW l5YW l6YW l7YW l8YW ltYW l0YG l1YG l2YG l3YG l4YG l5YG l6YG l7YG l8YG ltYG
  have l0YW := (unhide YW).at 0 _ rfl
  have l1YW := (unhide YW).at 1 _ rfl
  have l2YW := (unhide YW).at 2 _ rfl
  have l3YW := (unhide YW).at 3 _ rfl
  have l4YW := (unhide YW).at 4 _ rfl
  have l5YW := (unhide YW).at 5 _ rfl
  have l6YW := (unhide YW).at 6 _ rfl
  have l7YW := (unhide YW).at 7 _ rfl
  have l8YW := (unhide YW).at 8 _ rfl
  have ltYW : w1.heap.size < w5.heap.size := by omega
  have l0YG := (unhide YG).at 0 _ rfl
  have l1YG := (unhide YG).at 1 _ rfl
  have l2YG := (unhide YG).at 2 _ rfl
  have l3YG := (unhide YG).at 3 _ rfl
  have l4YG := (unhide YG).at 4 _ rfl
  have l5YG := (unhide YG).at 5 _ rfl
  have l6YG := (unhide YG).at 6 _ rfl
  have l7YG := (unhide YG).at 7 _ rfl
  have l8YG := (unhide YG).at 8 _ rfl
  have ltYG : w3.heap.size < w5.heap.size := by omega
  simp only [List.getElem_toArray, List.getElem_cons_zero, List.getElem_cons_succ] at l0YW l1YW l2YW l3YW l4YW l5YW l6YW l7YW l8YW l0YG l1YG l2YG l3YG l4YG l5YG l6YG l7YG l8YG
  go_wp2_with fail
  clear l0YW l1YW l2YW l3YW l4YW l5YW l6YW l7YW l8YW ltYW l0YG l1YG l2YG l3YG l4YG l5YG l6YG l7YG l8YG ltYG
  obtain ⟨bl, O, hbl⟩ := unhide HG
  clear HG
  have hcy := unhide HC
  refine (mark_WorldResult _ y bl 1 w5 O (by omega) (by omega)).mono ?_
  rintro e w6 ⟨rfl, O2, E⟩
  replace E := E.mono (S' := within w2.heap.size w3.heap.size) fun b _ hb => hbl b hb
  have HG : Hid (Lay.tWorldResult.OwnIn w6 _ (Lay.tWorldResult.mkv 1 y) w2.heap.size w3.heap.size) := ⟨bl, O2, hbl⟩
  clear hbl O O2
  have zlo : w.heap.size ≤ w2.heap.size ∧ w3.heap.size ≤ w5.heap.size := by omega
  replace HW := hide ((unhide HW).ext E (within_out (by omega)))
  replace YW := hide ((unhide YW).ext E (fun q => by simp only [within] at q; omega))
  replace YG := hide ((unhide YG).ext E (fun q => by simp only [within] at q; omega))
  have Zw6 : w5.heap.size ≤ w6.heap.size := E.size
  replace HB := hide ((unhide HB).trans (E.below (by omega) (fun k h q => by simp only [within] at q; omega)))
  clear E
  clear zlo
  have hq0 : decide (1 + (Lay.tWorldResult.vcnt y : Int) < 0) = false := decide_eq_false (by omega)
  have hq1 : ((1 + (Lay.tWorldResult.vcnt y : Int)) != (1 + (Lay.tWorldResult.vcnt y : Int))) = false := by simp
  clear hcy
  have l0YW := (unhide YW).at 0 _ rfl
  have l1YW := (unhide YW).at 1 _ rfl
  have l2YW := (unhide YW).at 2 _ rfl
  have l3YW := (unhide YW).at 3 _ rfl
  have l4YW := (unhide YW).at 4 _ rfl
  have l5YW := (unhide YW).at 5 _ rfl
  have l6YW := (unhide YW).at 6 _ rfl
  have l7YW := (unhide YW).at 7 _ rfl
  have l8YW := (unhide YW).at 8 _ rfl
  have ltYW : w1.heap.size < w6.heap.size := by omega
  have l0YG := (unhide YG).at 0 _ rfl
  have l1YG := (unhide YG).at 1 _ rfl
  have l2YG := (unhide YG).at 2 _ rfl
  have l3YG := (unhide YG).at 3 _ rfl
  have l4YG := (unhide YG).at 4 _ rfl
  have l5YG := (unhide YG).at 5 _ rfl
  have l6YG := (unhide YG).at 6 _ rfl
  have l7YG := (unhide YG).at 7 _ rfl
  have l8YG := (unhide YG).at 8 _ rfl
  have ltYG : w3.heap.size < w6.heap.size := by omega
  simp only [List.getElem_toArray, List.getElem_cons_zero, List.getElem_cons_succ] at l0YW l1YW l2YW l3YW l4YW l5YW l6YW l7YW l8YW l0YG l1YG l2YG l3YG l4YG l5YG l6YG l7YG l8YG
  go_wp2_with fail
  clear l0YW l1YW l2YW l3YW l4YW l5YW l6YW l7YW l8YW ltYW l0YG l1YG l2YG l3YG l4YG l5YG l6YG l7YG l8YG ltYG
  refine (held_WorldResult _ y 1 w6 (unhide HG).reads (by omega) (by have := unhide HC; omega)).mono ?_
  rintro e w7 ⟨rfl, hb⟩
  replace HW := hide ((unhide HW).later hb)
  replace YW := hide ((unhide YW).keep hb)
  replace YG := hide ((unhide YG).keep hb)
  replace HG := hide ((unhide HG).later hb)
  have Zw7 : w6.heap.size ≤ w7.heap.size := hb.size
  replace HB := hide ((unhide HB).trans (hb.mono (by omega)))
  clear hb
  have l0YW := (unhide YW).at 0 _ rfl
  have l1YW := (unhide YW).at 1 _ rfl
  have l2YW := (unhide YW).at 2 _ rfl
  have l3YW := (unhide YW).at 3 _ rfl
  have l4YW := (unhide YW).at 4 _ rfl
  have l5YW := (unhide YW).at 5 _ rfl
  have l6YW := (unhide YW).at 6 _ rfl
  have l7YW := (unhide YW).at 7 _ rfl
  have l8YW := (unhide YW).at 8 _ rfl
  have ltYW : w1.heap.size < w7.heap.size := by omega
  have l0YG := (unhide YG).at 0 _ rfl
  have l1YG := (unhide YG).at 1 _ rfl
  have l2YG := (unhide YG).at 2 _ rfl
  have l3YG := (unhide YG).at 3 _ rfl
  have l4YG := (unhide YG).at 4 _ rfl
  have l5YG := (unhide YG).at 5 _ rfl
  have l6YG := (unhide YG).at 6 _ rfl
  have l7YG := (unhide YG).at 7 _ rfl
  have l8YG := (unhide YG).at 8 _ rfl
  have ltYG : w3.heap.size < w7.heap.size := by omega
  simp only [List.getElem_toArray, List.getElem_cons_zero, List.getElem_cons_succ] at l0YW l1YW l2YW l3YW l4YW l5YW l6YW l7YW l8YW l0YG l1YG l2YG l3YG l4YG l5YG l6YG l7YG l8YG
  go_wp2_with fail
  clear l0YW l1YW l2YW l3YW l4YW l5YW l6YW l7YW l8YW ltYW l0YG l1YG l2YG l3YG l4YG l5YG l6YG l7YG l8YG ltYG
  refine (unhide HI w7).mono ?_
  rintro e w8 ⟨cs, rfl, O, hb⟩
  replace HW := hide ((unhide HW).later hb)
  replace YW := hide ((unhide YW).keep hb)
  replace YG := hide ((unhide YG).keep hb)
  replace HG := hide ((unhide HG).later hb)
  have Zw8 : w7.heap.size ≤ w8.heap.size := hb.size
  replace HB := hide ((unhide HB).trans (hb.mono (by omega)))
  clear hb
  obtain ⟨a5K, d5K, a6K, d6K, a7K, d7K, a8K, d8K, rfl, -⟩ := open_WorldResult O.reads
  have HK := hide O
  clear O
  have nb : Below w8.heap.size w8 (w8.alloc (.cells #[.int .i64 y.code, .bool y.moved, .int .i64 y.world.now, .int .i64 y.world.events, .int .i64 y.world.chain.epoch, .slice a5K y.world.chain.ids.length d5K, .slice a6K y.world.nodes.length d6K, .slice a7K y.world.msgs.length d7K, .slice a8K y.world.history.length d8K] 31)) := (Below.refl _ _).alloc (Nat.le_refl _) _
  have YK : Hid (Box w8.heap.size #[.int .i64 y.code, .bool y.moved, .int .i64 y.world.now, .int .i64 y.world.events, .int .i64 y.world.chain.epoch, .slice a5K y.world.chain.ids.length d5K, .slice a6K y.world.nodes.length d6K, .slice a7K y.world.msgs.length d7K, .slice a8K y.world.history.length d8K] 31 (w8.alloc (.cells #[.int .i64 y.code, .bool y.moved, .int .i64 y.world.now, .int .i64 y.world.events, .int .i64 y.world.chain.epoch, .slice a5K y.world.chain.ids.length d5K, .slice a6K y.world.nodes.length d6K, .slice a7K y.world.msgs.length d7K, .slice a8K y.world.history.length d8K] 31)) w8.heap.size) := newBox (Nat.le_refl _)
  have l0YW := (unhide YW).at 0 _ rfl
  have l1YW := (unhide YW).at 1 _ rfl
  have l2YW := (unhide YW).at 2 _ rfl
  have l3YW := (unhide YW).at 3 _ rfl
  have l4YW := (unhide YW).at 4 _ rfl
  have l5YW := (unhide YW).at 5 _ rfl
  have l6YW := (unhide YW).at 6 _ rfl
  have l7YW := (unhide YW).at 7 _ rfl
  have l8YW := (unhide YW).at 8 _ rfl
  have ltYW : w1.heap.size < w8.heap.size := by omega
  have l0YG := (unhide YG).at 0 _ rfl
  have l1YG := (unhide YG).at 1 _ rfl
  have l2YG := (unhide YG).at 2 _ rfl
  have l3YG := (unhide YG).at 3 _ rfl
  have l4YG := (unhide YG).at 4 _ rfl
  have l5YG := (unhide YG).at 5 _ rfl
  have l6YG := (unhide YG).at 6 _ rfl
  have l7YG := (unhide YG).at 7 _ rfl
  have l8YG := (unhide YG).at 8 _ rfl
  have ltYG : w3.heap.size < w8.heap.size := by omega
  simp only [List.getElem_toArray, List.getElem_cons_zero, List.getElem_cons_succ] at l0YW l1YW l2YW l3YW l4YW l5YW l6YW l7YW l8YW l0YG l1YG l2YG l3YG l4YG l5YG l6YG l7YG l8YG
  go_wp2_with fail
  clear l0YW l1YW l2YW l3YW l4YW l5YW l6YW l7YW l8YW ltYW l0YG l1YG l2YG l3YG l4YG l5YG l6YG l7YG l8YG ltYG
  generalize haw9 : w8.alloc (.cells #[.int .i64 y.code, .bool y.moved, .int .i64 y.world.now, .int .i64 y.world.events, .int .i64 y.world.chain.epoch, .slice a5K y.world.chain.ids.length d5K, .slice a6K y.world.nodes.length d6K, .slice a7K y.world.msgs.length d7K, .slice a8K y.world.history.length d8K] 31) = w9 at *
  have Gw9 : w8.heap.size < w9.heap.size := by rw [← haw9]; simp
  clear haw9
  replace HW := hide ((unhide HW).later nb)
  replace YW := hide ((unhide YW).keep nb)
  replace YG := hide ((unhide YG).keep nb)
  replace HG := hide ((unhide HG).later nb)
  replace HK := hide ((unhide HK).later nb)
  have Zw9 : w8.heap.size ≤ w9.heap.size := nb.size
  replace HB := hide ((unhide HB).trans (nb.mono (by omega)))
  clear nb
  refine (eq_WorldResult _ _ y w9 (unhide HK).reads (unhide HW).reads).mono ?_
  rintro e w10 ⟨rfl, hb⟩
  replace HW := hide ((unhide HW).later hb)
  replace YW := hide ((unhide YW).keep hb)
  replace YG := hide ((unhide YG).keep hb)
  replace HG := hide ((unhide HG).later hb)
  replace HK := hide ((unhide HK).later hb)
  replace YK := hide ((unhide YK).keep hb)
  have Zw10 : w9.heap.size ≤ w10.heap.size := hb.size
  replace HB := hide ((unhide HB).trans (hb.mono (by omega)))
  clear hb
  clear HK
  clear YK
  have l0YW := (unhide YW).at 0 _ rfl
  have l1YW := (unhide YW).at 1 _ rfl
  have l2YW := (unhide YW).at 2 _ rfl
  have l3YW := (unhide YW).at 3 _ rfl
  have l4YW := (unhide YW).at 4 _ rfl
  have l5YW := (unhide YW).at 5 _ rfl
  have l6YW := (unhide YW).at 6 _ rfl
  have l7YW := (unhide YW).at 7 _ rfl
  have l8YW := (unhide YW).at 8 _ rfl
  have ltYW : w1.heap.size < w10.heap.size := by omega
  have l0YG := (unhide YG).at 0 _ rfl
  have l1YG := (unhide YG).at 1 _ rfl
  have l2YG := (unhide YG).at 2 _ rfl
  have l3YG := (unhide YG).at 3 _ rfl
  have l4YG := (unhide YG).at 4 _ rfl
  have l5YG := (unhide YG).at 5 _ rfl
  have l6YG := (unhide YG).at 6 _ rfl
  have l7YG := (unhide YG).at 7 _ rfl
  have l8YG := (unhide YG).at 8 _ rfl
  have ltYG : w3.heap.size < w10.heap.size := by omega
  simp only [List.getElem_toArray, List.getElem_cons_zero, List.getElem_cons_succ] at l0YW l1YW l2YW l3YW l4YW l5YW l6YW l7YW l8YW l0YG l1YG l2YG l3YG l4YG l5YG l6YG l7YG l8YG
  go_wp2_with fail
  clear l0YW l1YW l2YW l3YW l4YW l5YW l6YW l7YW l8YW ltYW l0YG l1YG l2YG l3YG l4YG l5YG l6YG l7YG l8YG ltYG
  refine (held_WorldResult _ y 1 w10 (unhide HG).reads (by omega) (by have := unhide HC; omega)).mono ?_
  rintro e w11 ⟨rfl, hb⟩
  replace HW := hide ((unhide HW).later hb)
  replace YW := hide ((unhide YW).keep hb)
  replace YG := hide ((unhide YG).keep hb)
  replace HG := hide ((unhide HG).later hb)
  have Zw11 : w10.heap.size ≤ w11.heap.size := hb.size
  replace HB := hide ((unhide HB).trans (hb.mono (by omega)))
  clear hb
  have l0YW := (unhide YW).at 0 _ rfl
  have l1YW := (unhide YW).at 1 _ rfl
  have l2YW := (unhide YW).at 2 _ rfl
  have l3YW := (unhide YW).at 3 _ rfl
  have l4YW := (unhide YW).at 4 _ rfl
  have l5YW := (unhide YW).at 5 _ rfl
  have l6YW := (unhide YW).at 6 _ rfl
  have l7YW := (unhide YW).at 7 _ rfl
  have l8YW := (unhide YW).at 8 _ rfl
  have ltYW : w1.heap.size < w11.heap.size := by omega
  have l0YG := (unhide YG).at 0 _ rfl
  have l1YG := (unhide YG).at 1 _ rfl
  have l2YG := (unhide YG).at 2 _ rfl
  have l3YG := (unhide YG).at 3 _ rfl
  have l4YG := (unhide YG).at 4 _ rfl
  have l5YG := (unhide YG).at 5 _ rfl
  have l6YG := (unhide YG).at 6 _ rfl
  have l7YG := (unhide YG).at 7 _ rfl
  have l8YG := (unhide YG).at 8 _ rfl
  have ltYG : w3.heap.size < w11.heap.size := by omega
  simp only [List.getElem_toArray, List.getElem_cons_zero, List.getElem_cons_succ] at l0YW l1YW l2YW l3YW l4YW l5YW l6YW l7YW l8YW l0YG l1YG l2YG l3YG l4YG l5YG l6YG l7YG l8YG
  go_wp2_with fail
  clear l0YW l1YW l2YW l3YW l4YW l5YW l6YW l7YW l8YW ltYW l0YG l1YG l2YG l3YG l4YG l5YG l6YG l7YG l8YG ltYG
  go_ret
  exact ⟨rfl, unhide HB⟩


end Go.Proofs.Ythpbdafhjakekaa

namespace Go.Proofs.Ythpbdafhjakekaa
open Go.RowKit

theorem Box.five {lo : Nat} {x0 x1 x2 x3 x4 : Value} {T : TypeId} {W : World} {s : Nat} (h : Box lo #[x0, x1, x2, x3, x4] T W s) :
    (W.cell? ⟨s, 0, none⟩ = some x0 ∧ W.cell? ⟨s, 1, none⟩ = some x1 ∧ W.cell? ⟨s, 2, none⟩ = some x2 ∧ W.cell? ⟨s, 3, none⟩ = some x3 ∧ W.cell? ⟨s, 4, none⟩ = some x4) ∧ (∀ o, W.frozen? ⟨s, o, none⟩ = false) ∧ s < W.heap.size := by
  refine ⟨⟨?_, ?_, ?_, ?_, ?_⟩, fun o => ?_, h.lt⟩
  all_goals first | simp [World.cell?, h.2] | simp [World.frozen?, h.2]
theorem Box.alloc {lo : Nat} {cs : Array Value} {T : TypeId} {W : World} {s : Nat} (h : Box lo cs T W s) (o : Obj) : Box lo cs T (W.alloc o) s := ⟨h.1, (Below.heap_alloc W o s h.lt).trans h.2⟩

end Go.Proofs.Ythpbdafhjakekaa

namespace Go.Proofs.Ythpbdafhjakekaa
open Go.RowKit

theorem inC (v lo hi : Int) (w : World) :
    Calls Try.prog 17 #[.int .i64 v, .int .i64 lo, .int .i64 hi] w fun e w' => e = .returned (.bool (decide (lo ≤ v) && decide (v ≤ hi))) ∧ w' = w := by
  by_cases h1 : lo ≤ v
  · have d1 : decide (lo ≤ v) = true := by simpa using h1
    rw [d1]
    cases d2 : decide (v ≤ hi) <;>
    · go_enter Try.func17, Try.ntmps17
      go_wp2_with fail
      go_ret
      exact ⟨rfl, rfl⟩
  · have d1 : decide (lo ≤ v) = false := by simpa using h1
    rw [d1]
    go_enter Try.func17, Try.ntmps17
    go_wp2_with fail
    go_ret
    exact ⟨rfl, rfl⟩

end Go.Proofs.Ythpbdafhjakekaa

namespace Go.Proofs.Ythpbdafhjakekaa
open Go.RowKit

end Go.Proofs.Ythpbdafhjakekaa

namespace Go.Proofs.Ythpbdafhjakekaa
open Go.RowKit

end Go.Proofs.Ythpbdafhjakekaa

namespace Go.Proofs.Ythpbdafhjakekaa
open Go.RowKit

def kindB (k : Int) (n : Nat) : Bool := (decide (1 ≤ k) && decide (k ≤ 2)) && !(k == 2 && decide (0 < (n : Int)))
def boundB (i s q : Int) : Bool := (decide (1 ≤ i) && decide (i ≤ 999)) && ((decide (1 ≤ s) && decide (s ≤ 9)) && (decide (1 ≤ q) && decide (q ≤ 999)))
/-- What is wrong with a write. -/
def writeFault (k i : Int) (zs : List Int) (s q : Int) : Int :=
  if kindB k zs.length then (if boundB i s q then (if k = 1 then vecFault zs else 0) else 3) else 1

/-- The write that the pointer b points at. -/
def WriteAt (w : World) (b : Nat) (k i : Int) (v : Value) (s q : Int) : Prop :=
  w.cell? ⟨b, 0, none⟩ = some (.int .i64 k) ∧ w.cell? ⟨b, 1, none⟩ = some (.int .i64 i) ∧ w.cell? ⟨b, 2, none⟩ = some v ∧ w.cell? ⟨b, 3, none⟩ = some (.int .i64 s) ∧ w.cell? ⟨b, 4, none⟩ = some (.int .i64 q)
theorem WriteAt.later {w w' : World} {b : Nat} {k i s q : Int} {v : Value} (h : WriteAt w b k i v s q) (hb : Below w.heap.size w w') : WriteAt w' b k i v s q :=
  ⟨cell_keep hb h.1, cell_keep hb h.2.1, cell_keep hb h.2.2.1, cell_keep hb h.2.2.2.1, cell_keep hb h.2.2.2.2⟩

/-- The write at an element's place. -/
def WriteAtO (w : World) (b o : Nat) (k i : Int) (v : Value) (s q : Int) : Prop :=
  w.cell? ⟨b, o, none⟩ = some (.int .i64 k) ∧ w.cell? ⟨b, o + 1, none⟩ = some (.int .i64 i) ∧ w.cell? ⟨b, o + 2, none⟩ = some v ∧ w.cell? ⟨b, o + 3, none⟩ = some (.int .i64 s) ∧ w.cell? ⟨b, o + 4, none⟩ = some (.int .i64 q)

end Go.Proofs.Ythpbdafhjakekaa

namespace Go.Proofs.Ythpbdafhjakekaa
open Go.RowKit

/-- A write without a fault. -/
theorem writeFault_zero {k i s q : Int} {zs : List Int} (h : writeFault k i zs s q = 0) : (1 ≤ i ∧ i ≤ 999) ∧ (1 ≤ s ∧ s ≤ 9) ∧ (1 ≤ q ∧ q ≤ 999) ∧ ((k = 1 ∧ vecFault zs = 0) ∨ (k = 2 ∧ zs = [])) := by
  unfold writeFault at h
  split at h
  · next hk =>
    split at h
    · next hb =>
      simp only [kindB, Bool.and_eq_true, decide_eq_true_eq, Bool.not_eq_true', Bool.and_eq_false_iff] at hk
      simp only [boundB, Bool.and_eq_true, decide_eq_true_eq] at hb
      refine ⟨hb.1, hb.2.1, hb.2.2, ?_⟩
      by_cases h1 : k = 1
      · rw [if_pos h1] at h
        exact Or.inl ⟨h1, h⟩
      · have h2 : k = 2 := by omega
        refine Or.inr ⟨h2, ?_⟩
        rcases hk.2 with h3 | h3
        · simp [h2] at h3
        · simp at h3
          exact h3
    · omega
  · omega

end Go.Proofs.Ythpbdafhjakekaa

namespace Go.Proofs.Ythpbdafhjakekaa
open Go.RowKit

def wF (x : DWrite) : Int := writeFault x.kind x.id x.vec x.session x.seq
def applyI (xs : List DItem) (x : DWrite) : List DItem := if x.kind = 2 then dropI xs x.id else if roomB xs x.id then putI xs x.id x.vec else xs
def ofI (ws : List DWrite) : List DItem := ws.foldl applyI []
def wsFrom : List DWrite → Int
  | [] => 0
  | x :: xs => if wF x = 0 then wsFrom xs else wF x
def writesF (ws : List DWrite) : Int := if 200 < ws.length then 2 else wsFrom ws
def applyR (xs : List DItem) (x : DWrite) : DTableResult := if tableFault xs = 0 then (if wF x = 0 then ⟨0, applyI xs x⟩ else ⟨wF x, []⟩) else ⟨tableFault xs, []⟩
def tableOfR (ws : List DWrite) : DTableResult := if writesF ws = 0 then ⟨0, ofI ws⟩ else ⟨writesF ws, []⟩

theorem idB_of {z : Int} (h : 1 ≤ z ∧ z ≤ 999) : idB z = true := by simp only [idB, Bool.and_eq_true, decide_eq_true_eq]; exact h
theorem right_apply {xs : List DItem} (h : Right xs) {x : DWrite} (hx : wF x = 0) : Right (applyI xs x) := by
  obtain ⟨hi, -, -, hk⟩ := writeFault_zero hx
  unfold applyI
  split
  · exact right_drop h _
  · rename_i h2
    split
    · rename_i hr
      rcases hk with ⟨-, hv⟩ | ⟨hk, -⟩
      · exact right_put h (idB_of hi) hv (room_true hr)
      · exact absurd hk h2
    · exact h
theorem ofI_snoc (ws : List DWrite) (k : Nat) (h : k < ws.length) : ofI (ws.take (k + 1)) = applyI (ofI (ws.take k)) ws[k] := by
  rw [ofI, List.take_succ_eq_append_getElem h, List.foldl_append]
  rfl
theorem right_of_writes (ws : List DWrite) (h : ∀ x ∈ ws, wF x = 0) : Right (ofI ws) := by
  have : ∀ (ys : List DWrite) (xs : List DItem), Right xs → (∀ x ∈ ys, wF x = 0) → Right (ys.foldl applyI xs) := by
    intro ys
    induction ys with
    | nil => intro xs hx _; exact hx
    | cons y ys ih =>
      intro xs hx hy
      exact ih _ (right_apply hx (hy y (by simp))) fun x hx => hy x (List.mem_cons_of_mem _ hx)
  exact this ws [] right_nil h
theorem wsFrom_at (ws : List DWrite) (k : Nat) (h : k < ws.length) (hz : ∀ j (hj : j < ws.length), j < k → wF ws[j] = 0) (hn : wF ws[k] ≠ 0) : wsFrom ws = wF ws[k] := by
  induction ws generalizing k with
  | nil => simp at h
  | cons x xs ih =>
    match k with
    | 0 => rw [wsFrom, if_neg (by simpa using hn)]; rfl
    | k + 1 =>
      have h0 : wF x = 0 := hz 0 (by simp) (by omega)
      rw [wsFrom, if_pos h0]
      exact ih k (by simpa using h) (fun j hj hjk => hz (j + 1) (by simpa using hj) (by omega)) (by simpa using hn)
theorem wsFrom_all (ws : List DWrite) (hz : ∀ j (hj : j < ws.length), wF ws[j] = 0) : wsFrom ws = 0 := by
  induction ws with
  | nil => rfl
  | cons x xs ih =>
    have h0 : wF x = 0 := hz 0 (by simp)
    rw [wsFrom, if_pos h0]
    exact ih fun j hj => hz (j + 1) (by simpa using hj)
theorem wsFrom_zero {ws : List DWrite} (h : wsFrom ws = 0) : ∀ x ∈ ws, wF x = 0 := by
  induction ws with
  | nil => simp
  | cons x xs ih =>
    rw [wsFrom] at h
    by_cases h0 : wF x = 0
    · rw [if_pos h0] at h
      intro y hy
      rcases List.mem_cons.1 hy with rfl | hy
      · exact h0
      · exact ih h y hy
    · rw [if_neg h0] at h; exact absurd h h0
theorem writesF_zero {ws : List DWrite} (h : writesF ws = 0) : ws.length ≤ 200 ∧ ∀ x ∈ ws, wF x = 0 := by
  unfold writesF at h
  by_cases hn : 200 < ws.length
  · rw [if_pos hn] at h; cases h
  · rw [if_neg hn] at h; exact ⟨by omega, wsFrom_zero h⟩
theorem wF_vals (x : DWrite) : 0 ≤ wF x ∧ wF x ≤ 3 := by
  have hv := vecFault_vals x.vec
  unfold wF writeFault
  split
  · split
    · split
      · exact hv
      · decide
    · decide
  · decide
theorem wF_wf (x : DWrite) : (Lit.int .i64 (wF x)).wf = true := wf_of_bd (by have := wF_vals x; omega)
theorem wsFrom_vals (ws : List DWrite) : 0 ≤ wsFrom ws ∧ wsFrom ws ≤ 3 := by
  induction ws with
  | nil => decide
  | cons x xs ih =>
    rw [wsFrom]
    split
    · exact ih
    · exact wF_vals x
theorem writesF_wf (ws : List DWrite) : (Lit.int .i64 (writesF ws)).wf = true := by
  have := wsFrom_vals ws
  unfold writesF
  split
  · decide
  · exact wf_of_bd (by omega)

end Go.Proofs.Ythpbdafhjakekaa

namespace Go.Proofs.Ythpbdafhjakekaa
open Go.RowKit

def ofB (s : Int) (x : DWrite) : Bool := decide (x.session = s)
def sameB (s q : Int) (x : DWrite) : Bool := decide (x.session = s) && decide (x.seq = q)
/-- The greatest number of a session. -/
def lastI (ws : List DWrite) (s : Int) : Int := ws.foldl (fun n x => if x.session = s then max n x.seq else n) 0
/-- How many writes there are up to the first one of a session and number; 0: there is none. -/
def seenFrom (s q : Int) : Nat → List DWrite → Nat
  | _, [] => 0
  | n, x :: xs => if x.session = s ∧ x.seq = q then n + 1 else seenFrom s q (n + 1) xs
def seenI (ws : List DWrite) (s q : Int) : Nat := seenFrom s q 0 ws
/-- Of each session the numbers rise. -/
def onceB : List DWrite → List DWrite → Bool
  | _, [] => true
  | pre, x :: xs => decide (lastI pre x.session < x.seq) && onceB (pre ++ [x]) xs
def askedF (ws : List DWrite) (s : Int) : Int := if writesF ws = 0 then (if 1 ≤ s ∧ s ≤ 9 then 0 else 3) else writesF ws

theorem lastI_nil (s : Int) : lastI [] s = 0 := rfl
theorem lastI_snoc (ws : List DWrite) (x : DWrite) (s : Int) : lastI (ws ++ [x]) s = if x.session = s then max (lastI ws s) x.seq else lastI ws s := by
  simp [lastI]
theorem lastI_take (ws : List DWrite) (k : Nat) (h : k < ws.length) (s : Int) : lastI (ws.take (k + 1)) s = if ws[k].session = s then max (lastI (ws.take k) s) ws[k].seq else lastI (ws.take k) s := by
  rw [List.take_succ_eq_append_getElem h, lastI_snoc]
theorem seenFrom_snoc (s q : Int) (x : DWrite) : ∀ (ws : List DWrite) (n : Nat), seenFrom s q n (ws ++ [x]) = if seenFrom s q n ws = 0 then (if x.session = s ∧ x.seq = q then n + ws.length + 1 else 0) else seenFrom s q n ws
  | [], n => by simp [seenFrom]
  | y :: ws, n => by
    rw [List.cons_append, seenFrom, seenFrom]
    by_cases h : y.session = s ∧ y.seq = q
    · rw [if_pos h, if_pos h, if_neg (by omega)]
    · rw [if_neg h, if_neg h, seenFrom_snoc s q x ws (n + 1)]
      simp only [List.length_cons]
      rw [show n + 1 + ws.length + 1 = n + (ws.length + 1) + 1 by omega]
theorem seenI_snoc (ws : List DWrite) (x : DWrite) (s q : Int) : seenI (ws ++ [x]) s q = if seenI ws s q = 0 then (if x.session = s ∧ x.seq = q then ws.length + 1 else 0) else seenI ws s q := by
  have := seenFrom_snoc s q x ws 0
  rw [Nat.zero_add] at this
  exact this
theorem seenI_le (ws : List DWrite) (s q : Int) : seenI ws s q ≤ ws.length := by
  have : ∀ (ws : List DWrite) (n : Nat), seenFrom s q n ws ≤ n + ws.length := by
    intro ws
    induction ws with
    | nil => intro n; simp [seenFrom]
    | cons x xs ih =>
      intro n
      rw [seenFrom]
      split
      · simp only [List.length_cons]; omega
      · have := ih (n + 1)
        simp only [List.length_cons]
        omega
  have := this ws 0
  rw [Nat.zero_add] at this
  exact this
theorem seenFrom_at (s q : Int) : ∀ (ws : List DWrite) (n k : Nat) (h : k < ws.length), (∀ j (hj : j < ws.length), j < k → ¬ (ws[j].session = s ∧ ws[j].seq = q)) → (ws[k].session = s ∧ ws[k].seq = q) → seenFrom s q n ws = n + k + 1
  | [], _, _, h, _, _ => by simp at h
  | x :: xs, n, 0, _, _, hk => by rw [seenFrom, if_pos (by simpa using hk)]
  | x :: xs, n, k + 1, h, hn, hk => by
    have h0 := hn 0 (by simp) (by omega)
    rw [seenFrom, if_neg (by simpa using h0), seenFrom_at s q xs (n + 1) k (by simpa using h) (fun j hj hjk => by have := hn (j + 1) (by simpa using hj) (by omega); simpa using this) (by simpa using hk)]
    omega
theorem seenI_at {s q : Int} {ws : List DWrite} {k : Nat} (h : k < ws.length) (hn : ∀ j (hj : j < ws.length), j < k → ¬ (ws[j].session = s ∧ ws[j].seq = q)) (hk : ws[k].session = s ∧ ws[k].seq = q) : seenI ws s q = k + 1 := by
  have := seenFrom_at s q ws 0 k h hn hk
  rw [Nat.zero_add] at this
  exact this
theorem seenI_none {s q : Int} {ws : List DWrite} (hn : ∀ j (hj : j < ws.length), ¬ (ws[j].session = s ∧ ws[j].seq = q)) : seenI ws s q = 0 := by
  have : ∀ (ws : List DWrite) (n : Nat), (∀ j (hj : j < ws.length), ¬ (ws[j].session = s ∧ ws[j].seq = q)) → seenFrom s q n ws = 0 := by
    intro ws
    induction ws with
    | nil => intro n _; rfl
    | cons x xs ih =>
      intro n hn
      have h0 := hn 0 (by simp)
      rw [seenFrom, if_neg (by simpa using h0)]
      exact ih (n + 1) fun j hj => by have := hn (j + 1) (by simpa using hj); simpa using this
  exact this ws 0 hn
theorem seenI_zero {ws : List DWrite} {s q : Int} (h : seenI ws s q = 0) : ∀ x ∈ ws, ¬ (x.session = s ∧ x.seq = q) := by
  have : ∀ (ws : List DWrite) (n : Nat), seenFrom s q n ws = 0 → ∀ x ∈ ws, ¬ (x.session = s ∧ x.seq = q) := by
    intro ws
    induction ws with
    | nil => intro n _ x hx; simp at hx
    | cons y xs ih =>
      intro n h x hx
      rw [seenFrom] at h
      split at h
      · omega
      · rename_i hy
        rcases List.mem_cons.1 hx with rfl | hx
        · exact hy
        · exact ih (n + 1) h x hx
  exact this ws 0 h
theorem lastI_nonneg (ws : List DWrite) (s : Int) : 0 ≤ lastI ws s := by
  have : ∀ (ws : List DWrite) (n : Int), 0 ≤ n → 0 ≤ ws.foldl (fun n x => if x.session = s then max n x.seq else n) n := by
    intro ws
    induction ws with
    | nil => intro n h; exact h
    | cons x xs ih =>
      intro n h
      rw [List.foldl_cons]
      apply ih
      split <;> omega
  exact this ws 0 (Int.le_refl _)
theorem lastI_le (ws : List DWrite) (s : Int) (h : ∀ x ∈ ws, x.seq ≤ 999) : lastI ws s ≤ 999 := by
  have : ∀ (ws : List DWrite) (n : Int), n ≤ 999 → (∀ x ∈ ws, x.seq ≤ 999) → ws.foldl (fun n x => if x.session = s then max n x.seq else n) n ≤ 999 := by
    intro ws
    induction ws with
    | nil => intro n h _; exact h
    | cons x xs ih =>
      intro n h hx
      rw [List.foldl_cons]
      apply ih
      · have := hx x (by simp)
        split <;> omega
      · intro y hy; exact hx y (List.mem_cons_of_mem _ hy)
  exact this ws 0 (by omega) h
theorem onceB_at : ∀ (ws pre : List DWrite) (k : Nat) (h : k < ws.length), (ws[k]).seq ≤ lastI (pre ++ ws.take k) (ws[k]).session → onceB pre ws = false
  | [], _, _, h, _ => by simp at h
  | x :: xs, pre, 0, _, hk => by
    have : ¬ (lastI pre x.session < x.seq) := by simpa using hk
    simp [onceB, this]
  | x :: xs, pre, k + 1, h, hk => by
    rw [onceB, onceB_at xs (pre ++ [x]) k (by simpa using h) (by simpa using hk), Bool.and_false]
theorem onceB_all : ∀ (ws pre : List DWrite), (∀ k (h : k < ws.length), lastI (pre ++ ws.take k) (ws[k]).session < (ws[k]).seq) → onceB pre ws = true
  | [], _, _ => rfl
  | x :: xs, pre, h => by
    have h0 := h 0 (by simp)
    rw [onceB, onceB_all xs (pre ++ [x]) fun k hk => by have := h (k + 1) (by simpa using hk); simpa using this]
    simpa using h0
def onceR (ws : List DWrite) : Bool := decide (writesF ws = 0) && onceB [] ws
theorem wF_seq {x : DWrite} (h : wF x = 0) : 1 ≤ x.session ∧ x.session ≤ 9 ∧ 1 ≤ x.seq ∧ x.seq ≤ 999 := by
  obtain ⟨-, h1, h2, -⟩ := writeFault_zero h
  exact ⟨h1.1, h1.2, h2.1, h2.2⟩

end Go.Proofs.Ythpbdafhjakekaa

namespace Go.Proofs.Ythpbdafhjakekaa
open Go.RowKit

structure DIntResult where
  code : Int
  value : Int

def Lay.tIntResult : Lay DIntResult := Lay.via (Lay.pair Lay.int Lay.int) (fun x => (x.code, x.value)) (fun p => ⟨p.1, p.2⟩)

theorem lies_IntResult {w : World} {cs : List Value} {x : DIntResult} {bl : List Nat} : Lay.tIntResult.lies w cs x bl ↔ cs = [.int .i64 x.code, .int .i64 x.value] ∧ bl = [] ∧ (Lit.int .i64 x.code).wf = true ∧ (Lit.int .i64 x.value).wf = true := by
  constructor
  · intro h
    obtain ⟨c0_, r0_, e0_, s0_, rfl, rfl, h0, h1⟩ := h
    obtain ⟨rfl, w0, rfl⟩ := h0
    obtain ⟨rfl, w1, rfl⟩ := h1
    exact ⟨by simp, by simp, w0, w1⟩
  · rintro ⟨rfl, hbl, w0, w1⟩
    rw [hbl]
    exact ⟨[.int .i64 x.code], [.int .i64 x.value], [], [], rfl, by simp, ⟨rfl, w0, rfl⟩, ⟨rfl, w1, rfl⟩⟩

end Go.Proofs.Ythpbdafhjakekaa

namespace Go.Proofs.Ythpbdafhjakekaa
open Go.RowKit

structure DWritesResult where
  code : Int
  writes : List DWrite

def Lay.tWritesResult : Lay DWritesResult := Lay.via (Lay.pair Lay.int (Lay.sl Lay.tWrite)) (fun x => (x.code, x.writes)) (fun p => ⟨p.1, p.2⟩)

theorem lies_WritesResult {w : World} {cs : List Value} {x : DWritesResult} {bl : List Nat} : Lay.tWritesResult.lies w cs x bl ↔ ∃ (a1 : Option Addr) (d1 : Nat) (b1 : List Nat), cs = [.int .i64 x.code, .slice a1 x.writes.length d1] ∧ bl = b1 ∧ (Lit.int .i64 x.code).wf = true ∧ (Lay.sl Lay.tWrite).lies w [.slice a1 x.writes.length d1] x.writes b1 := by
  constructor
  · intro h
    obtain ⟨c0_, r0_, e0_, s0_, rfl, rfl, h0, h1⟩ := h
    obtain ⟨rfl, w0, rfl⟩ := h0
    have k1 := h1
    obtain ⟨a1, d1, rfl, -⟩ := k1
    exact ⟨a1, d1, s0_, by simp, by simp, w0, h1⟩
  · rintro ⟨a1, d1, b1, rfl, hbl, w0, l1⟩
    rw [hbl]
    exact ⟨[.int .i64 x.code], [.slice a1 x.writes.length d1], [], b1, rfl, by simp, ⟨rfl, w0, rfl⟩, l1⟩

theorem open_WritesResult {w : World} {cs : List Value} {x : DWritesResult} (h : Lay.tWritesResult.Reads w cs x) : ∃ (a1 : Option Addr) (d1 : Nat), cs = [.int .i64 x.code, .slice a1 x.writes.length d1] ∧ (Lay.sl Lay.tWrite).Reads w [.slice a1 x.writes.length d1] x.writes := by
  obtain ⟨bl, h⟩ := h
  obtain ⟨a1, d1, b1, rfl, -, w0, l1⟩ := lies_WritesResult.1 h
  exact ⟨a1, d1, rfl, ⟨_, l1⟩⟩

end Go.Proofs.Ythpbdafhjakekaa

namespace Go.Proofs.Ythpbdafhjakekaa
open Go.RowKit

def lastR (ws : List DWrite) (s : Int) : DIntResult := if askedF ws s = 0 then ⟨0, lastI ws s⟩ else ⟨askedF ws s, 0⟩
def seenR (ws : List DWrite) (s q : Int) : DIntResult := if askedF ws s = 0 then (if 1 ≤ q ∧ q ≤ 999 then (if seenI ws s q = 0 then ⟨4, 0⟩ else ⟨0, seenI ws s q⟩) else ⟨3, 0⟩) else ⟨askedF ws s, 0⟩
def ofL (ws : List DWrite) (s : Int) : List DWrite := ws.filter fun x => decide (x.session = s)
def ofR (ws : List DWrite) (s : Int) : DWritesResult := if askedF ws s = 0 then ⟨0, ofL ws s⟩ else ⟨askedF ws s, []⟩
theorem asked_bad {ws : List DWrite} (s : Int) (h : writesF ws ≠ 0) : askedF ws s = writesF ws := by rw [askedF, if_neg h]
theorem asked_out {ws : List DWrite} {s : Int} (h : writesF ws = 0) (hs : ¬ (1 ≤ s ∧ s ≤ 9)) : askedF ws s = 3 := by rw [askedF, if_pos h, if_neg hs]
theorem asked_ok {ws : List DWrite} {s : Int} (h : writesF ws = 0) (hs : 1 ≤ s ∧ s ≤ 9) : askedF ws s = 0 := by rw [askedF, if_pos h, if_pos hs]
theorem last_bd {ws : List DWrite} (s : Int) (h : writesF ws = 0) : 0 ≤ lastI ws s ∧ lastI ws s ≤ 999 := ⟨lastI_nonneg ws s, lastI_le ws s fun x hx => (wF_seq ((writesF_zero h).2 x hx)).2.2.2⟩
theorem dec9 {s : Int} (hs : 1 ≤ s ∧ s ≤ 9) : (decide (1 ≤ s) && decide (s ≤ 9)) = true := by simp [hs.1, hs.2]
theorem dec9n {s : Int} (hs : ¬ (1 ≤ s ∧ s ≤ 9)) : (decide (1 ≤ s) && decide (s ≤ 9)) = false := by
  rw [Bool.eq_false_iff]
  intro hb
  simp only [Bool.and_eq_true, decide_eq_true_eq] at hb
  exact hs hb
theorem dec999 {s : Int} (hs : 1 ≤ s ∧ s ≤ 999) : (decide (1 ≤ s) && decide (s ≤ 999)) = true := by simp [hs.1, hs.2]
theorem dec999n {s : Int} (hs : ¬ (1 ≤ s ∧ s ≤ 999)) : (decide (1 ≤ s) && decide (s ≤ 999)) = false := by
  rw [Bool.eq_false_iff]
  intro hb
  simp only [Bool.and_eq_true, decide_eq_true_eq] at hb
  exact hs hb
theorem own_IntR {w : World} {c z : Int} {lo hi : Nat} (hc : (Lit.int .i64 c).wf = true) (hz : (Lit.int .i64 z).wf = true) : Lay.tIntResult.OwnIn w [.int .i64 c, .int .i64 z] ⟨c, z⟩ lo hi :=
  ⟨[], ⟨lies_IntResult.2 ⟨rfl, rfl, hc, hz⟩, by simp, by simp⟩, by simp⟩
theorem wsF_wf (ws : List DWrite) : (Lit.int .i64 (writesF ws)).wf = true := by
  have : 0 ≤ writesF ws ∧ writesF ws ≤ 3 := by
    unfold writesF
    split
    · omega
    · induction ws with
      | nil => simp [wsFrom]
      | cons x xs ih =>
        rw [wsFrom]
        split
        · exact ih (by rename_i h _; simp only [List.length_cons] at h; omega)
        · exact wF_vals x
  exact wf_of_bd (by omega)

end Go.Proofs.Ythpbdafhjakekaa

namespace Go.Proofs.Ythpbdafhjakekaa
open Go.RowKit

structure DOnceResult where
  code : Int
  isNew : Bool
  place : Int
  writes : List DWrite

def Lay.tOnceResult : Lay DOnceResult := Lay.via (Lay.pair Lay.int (Lay.pair Lay.bool (Lay.pair Lay.int (Lay.sl Lay.tWrite)))) (fun x => (x.code, x.isNew, x.place, x.writes)) (fun p => ⟨p.1, p.2.1, p.2.2.1, p.2.2.2⟩)

theorem lies_OnceResult {w : World} {cs : List Value} {x : DOnceResult} {bl : List Nat} : Lay.tOnceResult.lies w cs x bl ↔ ∃ (a3 : Option Addr) (d3 : Nat) (b3 : List Nat), cs = [.int .i64 x.code, .bool x.isNew, .int .i64 x.place, .slice a3 x.writes.length d3] ∧ bl = b3 ∧ (Lit.int .i64 x.code).wf = true ∧ (Lit.int .i64 x.place).wf = true ∧ (Lay.sl Lay.tWrite).lies w [.slice a3 x.writes.length d3] x.writes b3 := by
  constructor
  · intro h
    obtain ⟨c0_, r0_, e0_, s0_, rfl, rfl, h0, ⟨c1_, r1_, e1_, s1_, rfl, rfl, h1, ⟨c2_, r2_, e2_, s2_, rfl, rfl, h2, h3⟩⟩⟩ := h
    obtain ⟨rfl, w0, rfl⟩ := h0
    obtain ⟨rfl, rfl⟩ := h1
    obtain ⟨rfl, w2, rfl⟩ := h2
    have k3 := h3
    obtain ⟨a3, d3, rfl, -⟩ := k3
    exact ⟨a3, d3, s2_, by simp, by simp, w0, w2, h3⟩
  · rintro ⟨a3, d3, b3, rfl, hbl, w0, w2, l3⟩
    rw [hbl]
    exact ⟨[.int .i64 x.code], [.bool x.isNew] ++ ([.int .i64 x.place] ++ [.slice a3 x.writes.length d3]), [], [] ++ ([] ++ (b3)), rfl, by simp, ⟨rfl, w0, rfl⟩, ⟨[.bool x.isNew], [.int .i64 x.place] ++ [.slice a3 x.writes.length d3], [], [] ++ (b3), rfl, by simp, ⟨rfl, rfl⟩, ⟨[.int .i64 x.place], [.slice a3 x.writes.length d3], [], b3, rfl, by simp, ⟨rfl, w2, rfl⟩, l3⟩⟩⟩

theorem open_OnceResult {w : World} {cs : List Value} {x : DOnceResult} (h : Lay.tOnceResult.Reads w cs x) : ∃ (a3 : Option Addr) (d3 : Nat), cs = [.int .i64 x.code, .bool x.isNew, .int .i64 x.place, .slice a3 x.writes.length d3] ∧ (Lay.sl Lay.tWrite).Reads w [.slice a3 x.writes.length d3] x.writes := by
  obtain ⟨bl, h⟩ := h
  obtain ⟨a3, d3, b3, rfl, -, w0, w2, l3⟩ := lies_OnceResult.1 h
  exact ⟨a3, d3, rfl, ⟨_, l3⟩⟩

end Go.Proofs.Ythpbdafhjakekaa

namespace Go.Proofs.Ythpbdafhjakekaa
open Go.RowKit

def appR (ws : List DWrite) (x : DWrite) : DOnceResult :=
  if writesF ws = 0 then
    if wF x = 0 then
      if seenI ws x.session x.seq = 0 then
        if x.seq < lastI ws x.session then ⟨7, false, 0, []⟩ else if 200 ≤ ws.length then ⟨2, false, 0, []⟩ else ⟨0, true, (ws.length : Int) + 1, ws ++ [x]⟩
      else ⟨0, false, seenI ws x.session x.seq, ws⟩
    else ⟨wF x, false, 0, []⟩
  else ⟨writesF ws, false, 0, []⟩
theorem appR_wrong {ws : List DWrite} {x : DWrite} (h : writesF ws ≠ 0) : appR ws x = ⟨writesF ws, false, 0, []⟩ := by rw [appR, if_neg h]
theorem appR_bad {ws : List DWrite} {x : DWrite} (h : writesF ws = 0) (hf : wF x ≠ 0) : appR ws x = ⟨wF x, false, 0, []⟩ := by rw [appR, if_pos h, if_neg hf]
theorem appR_seen {ws : List DWrite} {x : DWrite} (h : writesF ws = 0) (hf : wF x = 0) (hs : seenI ws x.session x.seq ≠ 0) : appR ws x = ⟨0, false, seenI ws x.session x.seq, ws⟩ := by rw [appR, if_pos h, if_pos hf, if_neg hs]
theorem appR_old {ws : List DWrite} {x : DWrite} (h : writesF ws = 0) (hf : wF x = 0) (hs : seenI ws x.session x.seq = 0) (c : x.seq < lastI ws x.session) : appR ws x = ⟨7, false, 0, []⟩ := by rw [appR, if_pos h, if_pos hf, if_pos hs, if_pos c]
theorem appR_full {ws : List DWrite} {x : DWrite} (h : writesF ws = 0) (hf : wF x = 0) (hs : seenI ws x.session x.seq = 0) (c : ¬ x.seq < lastI ws x.session) (c2 : 200 ≤ ws.length) : appR ws x = ⟨2, false, 0, []⟩ := by rw [appR, if_pos h, if_pos hf, if_pos hs, if_neg c, if_pos c2]
theorem appR_new {ws : List DWrite} {x : DWrite} (h : writesF ws = 0) (hf : wF x = 0) (hs : seenI ws x.session x.seq = 0) (c : ¬ x.seq < lastI ws x.session) (c2 : ¬ 200 ≤ ws.length) : appR ws x = ⟨0, true, (ws.length : Int) + 1, ws ++ [x]⟩ := by rw [appR, if_pos h, if_pos hf, if_pos hs, if_neg c, if_neg c2]

end Go.Proofs.Ythpbdafhjakekaa

namespace Go.Proofs.Ythpbdafhjakekaa
open Go.RowKit

structure DNodeResult where
  code : Int
  place : Int
  node : DNode

def Lay.tNodeResult : Lay DNodeResult := Lay.via (Lay.pair Lay.int (Lay.pair Lay.int Lay.tNode)) (fun x => (x.code, x.place, x.node)) (fun p => ⟨p.1, p.2.1, p.2.2⟩)

theorem lies_NodeResult {w : World} {cs : List Value} {x : DNodeResult} {bl : List Nat} : Lay.tNodeResult.lies w cs x bl ↔ ∃ (a6 : Option Addr) (d6 : Nat) (b6 : List Nat), cs = [.int .i64 x.code, .int .i64 x.place, .int .i64 x.node.id, .bool x.node.up, .int .i64 x.node.epoch, .int .i64 x.node.lease, .slice a6 x.node.writes.length d6, .int .i64 x.node.sure, .int .i64 x.node.clean] ∧ bl = b6 ∧ (Lit.int .i64 x.code).wf = true ∧ (Lit.int .i64 x.place).wf = true ∧ (Lit.int .i64 x.node.id).wf = true ∧ (Lit.int .i64 x.node.epoch).wf = true ∧ (Lit.int .i64 x.node.lease).wf = true ∧ (Lay.sl Lay.tWrite).lies w [.slice a6 x.node.writes.length d6] x.node.writes b6 ∧ (Lit.int .i64 x.node.sure).wf = true ∧ (Lit.int .i64 x.node.clean).wf = true := by
  constructor
  · intro h
    obtain ⟨c0_, r0_, e0_, s0_, rfl, rfl, h0, ⟨c1_, r1_, e1_, s1_, rfl, rfl, h1, h2⟩⟩ := h
    obtain ⟨rfl, w0, rfl⟩ := h0
    obtain ⟨rfl, w1, rfl⟩ := h1
    obtain ⟨a6, d6, q6, rfl, hq2, w2, w4, w5, l6, w7, w8⟩ := lies_Node.1 h2
    exact ⟨a6, d6, q6, by simp, by simp [hq2], w0, w1, w2, w4, w5, l6, w7, w8⟩
  · rintro ⟨a6, d6, b6, rfl, hbl, w0, w1, w2, w4, w5, l6, w7, w8⟩
    rw [hbl]
    exact ⟨[.int .i64 x.code], [.int .i64 x.place] ++ [.int .i64 x.node.id, .bool x.node.up, .int .i64 x.node.epoch, .int .i64 x.node.lease, .slice a6 x.node.writes.length d6, .int .i64 x.node.sure, .int .i64 x.node.clean], [], [] ++ (b6), rfl, by simp, ⟨rfl, w0, rfl⟩, ⟨[.int .i64 x.place], [.int .i64 x.node.id, .bool x.node.up, .int .i64 x.node.epoch, .int .i64 x.node.lease, .slice a6 x.node.writes.length d6, .int .i64 x.node.sure, .int .i64 x.node.clean], [], b6, rfl, by simp, ⟨rfl, w1, rfl⟩, lies_Node.2 ⟨a6, d6, b6, rfl, rfl, w2, w4, w5, l6, w7, w8⟩⟩⟩

theorem open_NodeResult {w : World} {cs : List Value} {x : DNodeResult} (h : Lay.tNodeResult.Reads w cs x) : ∃ (a6 : Option Addr) (d6 : Nat), cs = [.int .i64 x.code, .int .i64 x.place, .int .i64 x.node.id, .bool x.node.up, .int .i64 x.node.epoch, .int .i64 x.node.lease, .slice a6 x.node.writes.length d6, .int .i64 x.node.sure, .int .i64 x.node.clean] ∧ Lay.tNode.Reads w [.int .i64 x.node.id, .bool x.node.up, .int .i64 x.node.epoch, .int .i64 x.node.lease, .slice a6 x.node.writes.length d6, .int .i64 x.node.sure, .int .i64 x.node.clean] x.node := by
  obtain ⟨bl, h⟩ := h
  obtain ⟨a6, d6, b6, rfl, -, w0, w1, w2, w4, w5, l6, w7, w8⟩ := lies_NodeResult.1 h
  exact ⟨a6, d6, rfl, ⟨_, lies_Node.2 ⟨a6, d6, _, rfl, rfl, w2, w4, w5, l6, w7, w8⟩⟩⟩

end Go.Proofs.Ythpbdafhjakekaa

namespace Go.Proofs.Ythpbdafhjakekaa
open Go.RowKit

def nodeFault (x : DNode) : Int :=
  if 1 ≤ x.id ∧ x.id ≤ 5 ∧ 0 ≤ x.epoch ∧ x.epoch ≤ 999 ∧ 0 ≤ x.lease ∧ x.lease ≤ 9999 then
    if 40 < x.writes.length then 2
    else if wsFrom x.writes ≠ 0 then wsFrom x.writes
    else if onceB [] x.writes = false then 6
    else if 0 ≤ x.sure ∧ x.sure ≤ x.writes.length ∧ 0 ≤ x.clean ∧ x.clean ≤ x.sure then
      if x.up = false ∧ ¬ (x.sure = x.writes.length ∧ x.clean = 0 ∧ x.lease = 0) then 1 else 0
    else 3
  else 3
def askedN (x : DNode) : Int := if nodeFault x = 0 then (if x.up = true then 0 else 10) else nodeFault x
def noNode : DNode := ⟨0, false, 0, 0, [], 0, 0⟩
def badNode (c : Int) : DNodeResult := ⟨c, 0, noNode⟩
def newNodeR (id : Int) : DNodeResult := if 1 ≤ id ∧ id ≤ 5 then ⟨0, 0, ⟨id, true, 0, 0, [], 0, 0⟩⟩ else badNode 3
def withWrites (x : DNode) (ws : List DWrite) : DNode := ⟨x.id, x.up, x.epoch, x.lease, ws, x.sure, x.clean⟩
def takeR (x : DNode) (y : DWrite) : DNodeResult :=
  if askedN x = 0 then
    if (appR x.writes y).code = 0 then
      if 40 < (appR x.writes y).writes.length then badNode 2 else ⟨0, (appR x.writes y).place, withWrites x (appR x.writes y).writes⟩
    else badNode (appR x.writes y).code
  else badNode (askedN x)
def syncR (x : DNode) : DNodeResult := if askedN x = 0 then ⟨0, x.writes.length, ⟨x.id, x.up, x.epoch, x.lease, x.writes, x.writes.length, x.clean⟩⟩ else badNode (askedN x)
def cleanR (x : DNode) (i : Int) : DNodeResult :=
  if askedN x = 0 then (if 0 ≤ i ∧ i ≤ 40 then ⟨0, 0, ⟨x.id, x.up, x.epoch, x.lease, x.writes, x.sure, max x.clean (min i x.sure)⟩⟩ else badNode 3) else badNode (askedN x)
def crashN (x : DNode) (k : Int) : DNode := ⟨x.id, false, x.epoch, 0, x.writes.take (x.sure + k).toNat, x.sure + k, 0⟩
def crashR (x : DNode) (k : Int) : DNodeResult :=
  if askedN x = 0 then (if 0 ≤ k ∧ k ≤ x.writes.length - x.sure then ⟨0, 0, crashN x k⟩ else badNode 3) else badNode (askedN x)
def dirtyB (x : DNode) (id : Int) : Bool := (x.writes.drop x.clean.toNat).any fun y => y.id == id
def dirtyR (x : DNode) (id : Int) : Bool := decide (nodeFault x = 0) && dirtyB x id
def stateR (x : DNode) (c : Int) : DTableResult :=
  if nodeFault x = 0 then (if 0 ≤ c ∧ c ≤ x.writes.length then ⟨0, ofI (x.writes.take c.toNat)⟩ else ⟨3, []⟩) else ⟨nodeFault x, []⟩

theorem nodeFault_vals (x : DNode) : 0 ≤ nodeFault x ∧ nodeFault x ≤ 6 := by
  have := wsFrom_vals x.writes
  unfold nodeFault
  split
  · split
    · omega
    · split
      · omega
      · split
        · omega
        · split
          · split <;> omega
          · omega
  · omega
theorem nodeFault_wf (x : DNode) : (Lit.int .i64 (nodeFault x)).wf = true := wf_of_bd (by have := nodeFault_vals x; omega)
theorem askedN_wf (x : DNode) : (Lit.int .i64 (askedN x)).wf = true := by
  refine wf_of_bd ?_
  have := nodeFault_vals x
  unfold askedN
  split
  · split <;> omega
  · omega
/-- A node without a fault. -/
structure NodeOK (x : DNode) : Prop where
  id : 1 ≤ x.id ∧ x.id ≤ 5
  epoch : 0 ≤ x.epoch ∧ x.epoch ≤ 999
  lease : 0 ≤ x.lease ∧ x.lease ≤ 9999
  len : x.writes.length ≤ 40
  ws : ∀ y ∈ x.writes, wF y = 0
  once : onceB [] x.writes = true
  sure : 0 ≤ x.sure ∧ x.sure ≤ x.writes.length
  clean : 0 ≤ x.clean ∧ x.clean ≤ x.sure
  down : x.up = false → x.sure = x.writes.length ∧ x.clean = 0 ∧ x.lease = 0
theorem nodeFault_zero {x : DNode} (h : nodeFault x = 0) : NodeOK x := by
  unfold nodeFault at h
  split at h
  · rename_i h1
    split at h
    · simp at h
    · rename_i h2
      split at h
      · rename_i h3; exact absurd h h3
      · rename_i h3
        split at h
        · simp at h
        · rename_i h4
          split at h
          · rename_i h5
            split at h
            · simp at h
            · rename_i h6
              refine ⟨by omega, by omega, by omega, by omega, wsFrom_zero (by simpa using h3), by simpa using h4, by omega, by omega, fun hu => ?_⟩
              exact Classical.byContradiction fun hc => h6 ⟨hu, hc⟩
          · simp at h
  · simp at h
theorem NodeOK.fault {x : DNode} (h : NodeOK x) : nodeFault x = 0 := by
  unfold nodeFault
  have h1 := h.id; have h2 := h.epoch; have h3 := h.lease; have h4 := h.len; have h5 := h.sure; have h6 := h.clean
  rw [if_pos (by omega), if_neg (by omega), if_neg (by simpa using wsFrom_all x.writes fun j hj => h.ws _ (List.getElem_mem _)), if_neg (by simp [h.once]), if_pos (by omega), if_neg]
  rintro ⟨hu, hc⟩
  exact hc (h.down hu)
theorem NodeOK.writesF {x : DNode} (h : NodeOK x) : writesF x.writes = 0 := by
  rw [Proofs.Ythpbdafhjakekaa.writesF, if_neg (by have := h.len; omega)]
  exact wsFrom_all x.writes fun j hj => h.ws _ (List.getElem_mem _)
theorem askedN_zero {x : DNode} (h : askedN x = 0) : NodeOK x ∧ x.up = true := by
  unfold askedN at h
  split at h
  · rename_i h1
    split at h
    · rename_i h2; exact ⟨nodeFault_zero h1, h2⟩
    · simp at h
  · rename_i h1; exact absurd h h1
theorem takeR_bad {x : DNode} {y : DWrite} (h : askedN x ≠ 0) : takeR x y = badNode (askedN x) := by rw [takeR, if_neg h]
theorem syncR_bad {x : DNode} (h : askedN x ≠ 0) : syncR x = badNode (askedN x) := by rw [syncR, if_neg h]
theorem cleanR_bad {x : DNode} {i : Int} (h : askedN x ≠ 0) : cleanR x i = badNode (askedN x) := by rw [cleanR, if_neg h]
theorem crashR_bad {x : DNode} {i : Int} (h : askedN x ≠ 0) : crashR x i = badNode (askedN x) := by rw [crashR, if_neg h]
end Go.Proofs.Ythpbdafhjakekaa

namespace Go.Proofs.Ythpbdafhjakekaa
open Go.RowKit

structure DChainResult where
  code : Int
  chain : DChain

def Lay.tChainResult : Lay DChainResult := Lay.via (Lay.pair Lay.int Lay.tChain) (fun x => (x.code, x.chain)) (fun p => ⟨p.1, p.2⟩)

theorem lies_ChainResult {w : World} {cs : List Value} {x : DChainResult} {bl : List Nat} : Lay.tChainResult.lies w cs x bl ↔ ∃ (a2 : Option Addr) (d2 : Nat) (b2 : List Nat), cs = [.int .i64 x.code, .int .i64 x.chain.epoch, .slice a2 x.chain.ids.length d2] ∧ bl = b2 ∧ (Lit.int .i64 x.code).wf = true ∧ (Lit.int .i64 x.chain.epoch).wf = true ∧ (Lay.sl Lay.int).lies w [.slice a2 x.chain.ids.length d2] x.chain.ids b2 := by
  constructor
  · intro h
    obtain ⟨c0_, r0_, e0_, s0_, rfl, rfl, h0, h1⟩ := h
    obtain ⟨rfl, w0, rfl⟩ := h0
    obtain ⟨a2, d2, q2, rfl, hq1, w1, l2⟩ := lies_Chain.1 h1
    exact ⟨a2, d2, q2, by simp, by simp [hq1], w0, w1, l2⟩
  · rintro ⟨a2, d2, b2, rfl, hbl, w0, w1, l2⟩
    rw [hbl]
    exact ⟨[.int .i64 x.code], [.int .i64 x.chain.epoch, .slice a2 x.chain.ids.length d2], [], b2, rfl, by simp, ⟨rfl, w0, rfl⟩, lies_Chain.2 ⟨a2, d2, b2, rfl, rfl, w1, l2⟩⟩

theorem open_ChainResult {w : World} {cs : List Value} {x : DChainResult} (h : Lay.tChainResult.Reads w cs x) : ∃ (a2 : Option Addr) (d2 : Nat), cs = [.int .i64 x.code, .int .i64 x.chain.epoch, .slice a2 x.chain.ids.length d2] ∧ Lay.tChain.Reads w [.int .i64 x.chain.epoch, .slice a2 x.chain.ids.length d2] x.chain := by
  obtain ⟨bl, h⟩ := h
  obtain ⟨a2, d2, b2, rfl, -, w0, w1, l2⟩ := lies_ChainResult.1 h
  exact ⟨a2, d2, rfl, ⟨_, lies_Chain.2 ⟨a2, d2, _, rfl, rfl, w1, l2⟩⟩⟩

end Go.Proofs.Ythpbdafhjakekaa

namespace Go.Proofs.Ythpbdafhjakekaa
open Go.RowKit

structure DTextResult where
  code : Int
  text : ByteArray

def Lay.tTextResult : Lay DTextResult := Lay.via (Lay.pair Lay.int Lay.str) (fun x => (x.code, x.text)) (fun p => ⟨p.1, p.2⟩)

theorem lies_TextResult {w : World} {cs : List Value} {x : DTextResult} {bl : List Nat} : Lay.tTextResult.lies w cs x bl ↔ cs = [.int .i64 x.code, .string x.text] ∧ bl = [] ∧ (Lit.int .i64 x.code).wf = true := by
  constructor
  · intro h
    obtain ⟨c0_, r0_, e0_, s0_, rfl, rfl, h0, h1⟩ := h
    obtain ⟨rfl, w0, rfl⟩ := h0
    obtain ⟨rfl, rfl⟩ := h1
    exact ⟨by simp, by simp, w0⟩
  · rintro ⟨rfl, hbl, w0⟩
    rw [hbl]
    exact ⟨[.int .i64 x.code], [.string x.text], [], [], rfl, by simp, ⟨rfl, w0, rfl⟩, ⟨rfl, rfl⟩⟩

end Go.Proofs.Ythpbdafhjakekaa
