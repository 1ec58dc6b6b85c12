/-
  The law FnExactParseWrite answers true at all that comes in, and writes nothing that was there.
  Condition: the program and the model tell the same (premises).
-/
import Derived.Test.YtjfplfhdfiebgaaDoorChecked
import Derived.Test.YtjfplfhdfiebgaaDoorGround
import Derived.Test.YtjfplfhdfiebgaaDoorEqWriteResult
import Derived.Test.YtjfplfhdfiebgaaDoorMkWriteResult
import Derived.Test.YtjfplfhdfiebgaaDoorImplRead
namespace Go.Proofs.YtjfplfhdfiebgaaDoor
open Go.RowKit

set_option maxRecDepth 100000 in
set_option maxHeartbeats 4000000 in
theorem lawx_ParseWrite (x0 : ByteArray) (y : DWriteResult) (w : World) (ht : Shp w) (q0 : x0.size ≤ 1048576)
    (hS : ∀ (W : World), Shp W → Calls Tryd.prog 11 #[.string x0] W fun e w' => ∃ cs, e = .returned (.agg cs.toArray) ∧ Lay.tWriteResult.Reads w' cs y ∧ Below W.heap.size W w')
    (hI : ∀ (W : World), Shp W → Calls Tryd.prog 12 #[.string x0] W fun e w' => ∃ cs, e = .returned (.agg cs.toArray) ∧ Lay.tWriteResult.OwnIn w' cs y W.heap.size w'.heap.size ∧ Below W.heap.size W w') (hc : Lay.tWriteResult.vcnt y ≤ 100000000) :
    Calls Tryd.prog 4 #[.string x0] w fun e w' => e = .returned (.bool true) ∧ Below w.heap.size w w' := by
  have HS := hide hS
  have HI := hide hI
  clear hS hI
  have HC := hide hc
  clear hc
  have HT := hide ht
  clear ht
  have HB := hide (Below.refl w.heap.size w)
  go_enter Tryd.func4, Tryd.ntmps4
  go_wp2_with fail
  refine (unhide HS w ((unhide HT).later (unhide HB))).mono ?_
  rintro e w1 ⟨cs, rfl, O, hb⟩
  have Zw1 : w.heap.size ≤ w1.heap.size := hb.size
  replace HB := hide ((unhide HB).trans (hb.mono (by omega)))
  clear hb
  obtain ⟨a3W, d3W, rfl, -⟩ := open_WriteResult O
  have HW := hide O.liesIn
  clear O
  have nb : Below w1.heap.size w1 (w1.alloc (.cells #[.int .i64 y.code, .int .i64 y.write.kind, .int .i64 y.write.id, .slice a3W y.write.vec.length d3W, .int .i64 y.write.session, .int .i64 y.write.seq] 35)) := (Below.refl _ _).alloc (Nat.le_refl _) _
  have YW : Hid (Box w1.heap.size #[.int .i64 y.code, .int .i64 y.write.kind, .int .i64 y.write.id, .slice a3W y.write.vec.length d3W, .int .i64 y.write.session, .int .i64 y.write.seq] 35 (w1.alloc (.cells #[.int .i64 y.code, .int .i64 y.write.kind, .int .i64 y.write.id, .slice a3W y.write.vec.length d3W, .int .i64 y.write.session, .int .i64 y.write.seq] 35)) w1.heap.size) := newBox (Nat.le_refl _)
  go_wp2_with fail
  generalize haw2 : w1.alloc (.cells #[.int .i64 y.code, .int .i64 y.write.kind, .int .i64 y.write.id, .slice a3W y.write.vec.length d3W, .int .i64 y.write.session, .int .i64 y.write.seq] 35) = w2 at *
  have Gw2 : w1.heap.size < w2.heap.size := by rw [← haw2]; simp
  clear haw2
  replace HW := hide ((unhide HW).later nb)
  have Zw2 : w1.heap.size ≤ w2.heap.size := nb.size
  replace HB := hide ((unhide HB).trans (nb.mono (by omega)))
  clear nb
  refine (unhide HI w2 ((unhide HT).later (unhide HB))).mono ?_
  rintro e w3 ⟨cs, rfl, O, hb⟩
  replace HW := hide ((unhide HW).later hb)
  replace YW := hide ((unhide YW).keep hb)
  have Zw3 : w2.heap.size ≤ w3.heap.size := hb.size
  replace HB := hide ((unhide HB).trans (hb.mono (by omega)))
  clear hb
  obtain ⟨a3G, d3G, rfl, -⟩ := open_WriteResult O.reads
  have HG := hide O
  clear O
  have nb : Below w3.heap.size w3 (w3.alloc (.cells #[.int .i64 y.code, .int .i64 y.write.kind, .int .i64 y.write.id, .slice a3G y.write.vec.length d3G, .int .i64 y.write.session, .int .i64 y.write.seq] 35)) := (Below.refl _ _).alloc (Nat.le_refl _) _
  have YG : Hid (Box w3.heap.size #[.int .i64 y.code, .int .i64 y.write.kind, .int .i64 y.write.id, .slice a3G y.write.vec.length d3G, .int .i64 y.write.session, .int .i64 y.write.seq] 35 (w3.alloc (.cells #[.int .i64 y.code, .int .i64 y.write.kind, .int .i64 y.write.id, .slice a3G y.write.vec.length d3G, .int .i64 y.write.session, .int .i64 y.write.seq] 35)) w3.heap.size) := newBox (Nat.le_refl _)
  have l0YW := (unhide YW).at 0 _ rfl
  have l1YW := (unhide YW).at 1 _ rfl
  have l2YW := (unhide YW).at 2 _ rfl
  have l3YW := (unhide YW).at 3 _ rfl
  have l4YW := (unhide YW).at 4 _ rfl
  have l5YW := (unhide YW).at 5 _ rfl
  have ltYW : w1.heap.size < w3.heap.size := by omega
  simp only [List.getElem_toArray, List.getElem_cons_zero, List.getElem_cons_succ] at l0YW l1YW l2YW l3YW l4YW l5YW
  go_wp2_with fail
  clear l0YW l1YW l2YW l3YW l4YW l5YW ltYW
  generalize haw4 : w3.alloc (.cells #[.int .i64 y.code, .int .i64 y.write.kind, .int .i64 y.write.id, .slice a3G y.write.vec.length d3G, .int .i64 y.write.session, .int .i64 y.write.seq] 35) = w4 at *
  have Gw4 : w3.heap.size < w4.heap.size := by rw [← haw4]; simp
  clear haw4
  replace HW := hide ((unhide HW).later nb)
  replace YW := hide ((unhide YW).keep nb)
  replace HG := hide ((unhide HG).later nb)
  have Zw4 : w3.heap.size ≤ w4.heap.size := nb.size
  replace HB := hide ((unhide HB).trans (nb.mono (by omega)))
  clear nb
  refine (eq_WriteResult _ _ y w4 (unhide HG).reads (unhide HW).reads).mono ?_
  rintro e w5 ⟨rfl, hb⟩
  replace HW := hide ((unhide HW).later hb)
  replace YW := hide ((unhide YW).keep hb)
  replace HG := hide ((unhide HG).later hb)
  replace YG := hide ((unhide YG).keep hb)
  have Zw5 : w4.heap.size ≤ w5.heap.size := hb.size
  replace HB := hide ((unhide HB).trans (hb.mono (by omega)))
  clear hb
  have l0YW := (unhide YW).at 0 _ rfl
  have l1YW := (unhide YW).at 1 _ rfl
  have l2YW := (unhide YW).at 2 _ rfl
  have l3YW := (unhide YW).at 3 _ rfl
  have l4YW := (unhide YW).at 4 _ rfl
  have l5YW := (unhide YW).at 5 _ rfl
  have ltYW : w1.heap.size < w5.heap.size := by omega
  have l0YG := (unhide YG).at 0 _ rfl
  have l1YG := (unhide YG).at 1 _ rfl
  have l2YG := (unhide YG).at 2 _ rfl
  have l3YG := (unhide YG).at 3 _ rfl
  have l4YG := (unhide YG).at 4 _ rfl
  have l5YG := (unhide YG).at 5 _ rfl
  have ltYG : w3.heap.size < w5.heap.size := by omega
  simp only [List.getElem_toArray, List.getElem_cons_zero, List.getElem_cons_succ] at l0YW l1YW l2YW l3YW l4YW l5YW l0YG l1YG l2YG l3YG l4YG l5YG
  go_wp2_with fail
  clear l0YW l1YW l2YW l3YW l4YW l5YW ltYW l0YG l1YG l2YG l3YG l4YG l5YG ltYG
  have l0YW := (unhide YW).at 0 _ rfl
  have l1YW := (unhide YW).at 1 _ rfl
  have l2YW := (unhide YW).at 2 _ rfl
  have l3YW := (unhide YW).at 3 _ rfl
  have l4YW := (unhide YW).at 4 _ rfl
  have l5YW := (unhide YW).at 5 _ rfl
  have ltYW : w1.heap.size < w5.heap.size := by omega
  have l0YG := (unhide YG).at 0 _ rfl
  have l1YG := (unhide YG).at 1 _ rfl
  have l2YG := (unhide YG).at 2 _ rfl
  have l3YG := (unhide YG).at 3 _ rfl
  have l4YG := (unhide YG).at 4 _ rfl
  have l5YG := (unhide YG).at 5 _ rfl
  have ltYG : w3.heap.size < w5.heap.size := by omega
  simp only [List.getElem_toArray, List.getElem_cons_zero, List.getElem_cons_succ] at l0YW l1YW l2YW l3YW l4YW l5YW l0YG l1YG l2YG l3YG l4YG l5YG
  go_wp2_with fail
  clear l0YW l1YW l2YW l3YW l4YW l5YW ltYW l0YG l1YG l2YG l3YG l4YG l5YG ltYG
  obtain ⟨bl, O, hbl⟩ := unhide HG
  clear HG
  have hcy := unhide HC
  refine (mark_WriteResult _ y bl 1 w5 O (by omega) (by omega)).mono ?_
  rintro e w6 ⟨rfl, O2, E⟩
  replace E := E.mono (S' := within w2.heap.size w3.heap.size) fun b _ hb => hbl b hb
  have HG : Hid (Lay.tWriteResult.OwnIn w6 _ (Lay.tWriteResult.mkv 1 y) w2.heap.size w3.heap.size) := ⟨bl, O2, hbl⟩
  clear hbl O O2
  have zlo : w.heap.size ≤ w2.heap.size ∧ w3.heap.size ≤ w5.heap.size := by omega
  replace HW := hide ((unhide HW).ext E (within_out (by omega)))
  replace YW := hide ((unhide YW).ext E (fun q => by simp only [within] at q; omega))
  replace YG := hide ((unhide YG).ext E (fun q => by simp only [within] at q; omega))
  have Zw6 : w5.heap.size ≤ w6.heap.size := E.size
  replace HB := hide ((unhide HB).trans (E.below (by omega) (fun k h q => by simp only [within] at q; omega)))
  clear E
  clear zlo
  have hq0 : decide (1 + (Lay.tWriteResult.vcnt y : Int) < 0) = false := decide_eq_false (by omega)
  have hq1 : ((1 + (Lay.tWriteResult.vcnt y : Int)) != (1 + (Lay.tWriteResult.vcnt y : Int))) = false := by simp
  clear hcy
  have l0YW := (unhide YW).at 0 _ rfl
  have l1YW := (unhide YW).at 1 _ rfl
  have l2YW := (unhide YW).at 2 _ rfl
  have l3YW := (unhide YW).at 3 _ rfl
  have l4YW := (unhide YW).at 4 _ rfl
  have l5YW := (unhide YW).at 5 _ rfl
  have ltYW : w1.heap.size < w6.heap.size := by omega
  have l0YG := (unhide YG).at 0 _ rfl
  have l1YG := (unhide YG).at 1 _ rfl
  have l2YG := (unhide YG).at 2 _ rfl
  have l3YG := (unhide YG).at 3 _ rfl
  have l4YG := (unhide YG).at 4 _ rfl
  have l5YG := (unhide YG).at 5 _ rfl
  have ltYG : w3.heap.size < w6.heap.size := by omega
  simp only [List.getElem_toArray, List.getElem_cons_zero, List.getElem_cons_succ] at l0YW l1YW l2YW l3YW l4YW l5YW l0YG l1YG l2YG l3YG l4YG l5YG
  go_wp2_with fail
  clear l0YW l1YW l2YW l3YW l4YW l5YW ltYW l0YG l1YG l2YG l3YG l4YG l5YG ltYG
  refine (held_WriteResult _ y 1 w6 (unhide HG).reads (by omega) (by have := unhide HC; omega)).mono ?_
  rintro e w7 ⟨rfl, hb⟩
  replace HW := hide ((unhide HW).later hb)
  replace YW := hide ((unhide YW).keep hb)
  replace YG := hide ((unhide YG).keep hb)
  replace HG := hide ((unhide HG).later hb)
  have Zw7 : w6.heap.size ≤ w7.heap.size := hb.size
  replace HB := hide ((unhide HB).trans (hb.mono (by omega)))
  clear hb
  have l0YW := (unhide YW).at 0 _ rfl
  have l1YW := (unhide YW).at 1 _ rfl
  have l2YW := (unhide YW).at 2 _ rfl
  have l3YW := (unhide YW).at 3 _ rfl
  have l4YW := (unhide YW).at 4 _ rfl
  have l5YW := (unhide YW).at 5 _ rfl
  have ltYW : w1.heap.size < w7.heap.size := by omega
  have l0YG := (unhide YG).at 0 _ rfl
  have l1YG := (unhide YG).at 1 _ rfl
  have l2YG := (unhide YG).at 2 _ rfl
  have l3YG := (unhide YG).at 3 _ rfl
  have l4YG := (unhide YG).at 4 _ rfl
  have l5YG := (unhide YG).at 5 _ rfl
  have ltYG : w3.heap.size < w7.heap.size := by omega
  simp only [List.getElem_toArray, List.getElem_cons_zero, List.getElem_cons_succ] at l0YW l1YW l2YW l3YW l4YW l5YW l0YG l1YG l2YG l3YG l4YG l5YG
  go_wp2_with fail
  clear l0YW l1YW l2YW l3YW l4YW l5YW ltYW l0YG l1YG l2YG l3YG l4YG l5YG ltYG
  refine (unhide HI w7 ((unhide HT).later (unhide HB))).mono ?_
  rintro e w8 ⟨cs, rfl, O, hb⟩
  replace HW := hide ((unhide HW).later hb)
  replace YW := hide ((unhide YW).keep hb)
  replace YG := hide ((unhide YG).keep hb)
  replace HG := hide ((unhide HG).later hb)
  have Zw8 : w7.heap.size ≤ w8.heap.size := hb.size
  replace HB := hide ((unhide HB).trans (hb.mono (by omega)))
  clear hb
  obtain ⟨a3K, d3K, rfl, -⟩ := open_WriteResult O.reads
  have HK := hide O
  clear O
  have nb : Below w8.heap.size w8 (w8.alloc (.cells #[.int .i64 y.code, .int .i64 y.write.kind, .int .i64 y.write.id, .slice a3K y.write.vec.length d3K, .int .i64 y.write.session, .int .i64 y.write.seq] 35)) := (Below.refl _ _).alloc (Nat.le_refl _) _
  have YK : Hid (Box w8.heap.size #[.int .i64 y.code, .int .i64 y.write.kind, .int .i64 y.write.id, .slice a3K y.write.vec.length d3K, .int .i64 y.write.session, .int .i64 y.write.seq] 35 (w8.alloc (.cells #[.int .i64 y.code, .int .i64 y.write.kind, .int .i64 y.write.id, .slice a3K y.write.vec.length d3K, .int .i64 y.write.session, .int .i64 y.write.seq] 35)) w8.heap.size) := newBox (Nat.le_refl _)
  have l0YW := (unhide YW).at 0 _ rfl
  have l1YW := (unhide YW).at 1 _ rfl
  have l2YW := (unhide YW).at 2 _ rfl
  have l3YW := (unhide YW).at 3 _ rfl
  have l4YW := (unhide YW).at 4 _ rfl
  have l5YW := (unhide YW).at 5 _ rfl
  have ltYW : w1.heap.size < w8.heap.size := by omega
  have l0YG := (unhide YG).at 0 _ rfl
  have l1YG := (unhide YG).at 1 _ rfl
  have l2YG := (unhide YG).at 2 _ rfl
  have l3YG := (unhide YG).at 3 _ rfl
  have l4YG := (unhide YG).at 4 _ rfl
  have l5YG := (unhide YG).at 5 _ rfl
  have ltYG : w3.heap.size < w8.heap.size := by omega
  simp only [List.getElem_toArray, List.getElem_cons_zero, List.getElem_cons_succ] at l0YW l1YW l2YW l3YW l4YW l5YW l0YG l1YG l2YG l3YG l4YG l5YG
  go_wp2_with fail
  clear l0YW l1YW l2YW l3YW l4YW l5YW ltYW l0YG l1YG l2YG l3YG l4YG l5YG ltYG
  generalize haw9 : w8.alloc (.cells #[.int .i64 y.code, .int .i64 y.write.kind, .int .i64 y.write.id, .slice a3K y.write.vec.length d3K, .int .i64 y.write.session, .int .i64 y.write.seq] 35) = w9 at *
  have Gw9 : w8.heap.size < w9.heap.size := by rw [← haw9]; simp
  clear haw9
  replace HW := hide ((unhide HW).later nb)
  replace YW := hide ((unhide YW).keep nb)
  replace YG := hide ((unhide YG).keep nb)
  replace HG := hide ((unhide HG).later nb)
  replace HK := hide ((unhide HK).later nb)
  have Zw9 : w8.heap.size ≤ w9.heap.size := nb.size
  replace HB := hide ((unhide HB).trans (nb.mono (by omega)))
  clear nb
  refine (eq_WriteResult _ _ y w9 (unhide HK).reads (unhide HW).reads).mono ?_
  rintro e w10 ⟨rfl, hb⟩
  replace HW := hide ((unhide HW).later hb)
  replace YW := hide ((unhide YW).keep hb)
  replace YG := hide ((unhide YG).keep hb)
  replace HG := hide ((unhide HG).later hb)
  replace HK := hide ((unhide HK).later hb)
  replace YK := hide ((unhide YK).keep hb)
  have Zw10 : w9.heap.size ≤ w10.heap.size := hb.size
  replace HB := hide ((unhide HB).trans (hb.mono (by omega)))
  clear hb
  clear HK
  clear YK
  have l0YW := (unhide YW).at 0 _ rfl
  have l1YW := (unhide YW).at 1 _ rfl
  have l2YW := (unhide YW).at 2 _ rfl
  have l3YW := (unhide YW).at 3 _ rfl
  have l4YW := (unhide YW).at 4 _ rfl
  have l5YW := (unhide YW).at 5 _ rfl
  have ltYW : w1.heap.size < w10.heap.size := by omega
  have l0YG := (unhide YG).at 0 _ rfl
  have l1YG := (unhide YG).at 1 _ rfl
  have l2YG := (unhide YG).at 2 _ rfl
  have l3YG := (unhide YG).at 3 _ rfl
  have l4YG := (unhide YG).at 4 _ rfl
  have l5YG := (unhide YG).at 5 _ rfl
  have ltYG : w3.heap.size < w10.heap.size := by omega
  simp only [List.getElem_toArray, List.getElem_cons_zero, List.getElem_cons_succ] at l0YW l1YW l2YW l3YW l4YW l5YW l0YG l1YG l2YG l3YG l4YG l5YG
  go_wp2_with fail
  clear l0YW l1YW l2YW l3YW l4YW l5YW ltYW l0YG l1YG l2YG l3YG l4YG l5YG ltYG
  refine (held_WriteResult _ y 1 w10 (unhide HG).reads (by omega) (by have := unhide HC; omega)).mono ?_
  rintro e w11 ⟨rfl, hb⟩
  replace HW := hide ((unhide HW).later hb)
  replace YW := hide ((unhide YW).keep hb)
  replace YG := hide ((unhide YG).keep hb)
  replace HG := hide ((unhide HG).later hb)
  have Zw11 : w10.heap.size ≤ w11.heap.size := hb.size
  replace HB := hide ((unhide HB).trans (hb.mono (by omega)))
  clear hb
  have l0YW := (unhide YW).at 0 _ rfl
  have l1YW := (unhide YW).at 1 _ rfl
  have l2YW := (unhide YW).at 2 _ rfl
  have l3YW := (unhide YW).at 3 _ rfl
  have l4YW := (unhide YW).at 4 _ rfl
  have l5YW := (unhide YW).at 5 _ rfl
  have ltYW : w1.heap.size < w11.heap.size := by omega
  have l0YG := (unhide YG).at 0 _ rfl
  have l1YG := (unhide YG).at 1 _ rfl
  have l2YG := (unhide YG).at 2 _ rfl
  have l3YG := (unhide YG).at 3 _ rfl
  have l4YG := (unhide YG).at 4 _ rfl
  have l5YG := (unhide YG).at 5 _ rfl
  have ltYG : w3.heap.size < w11.heap.size := by omega
  simp only [List.getElem_toArray, List.getElem_cons_zero, List.getElem_cons_succ] at l0YW l1YW l2YW l3YW l4YW l5YW l0YG l1YG l2YG l3YG l4YG l5YG
  go_wp2_with fail
  clear l0YW l1YW l2YW l3YW l4YW l5YW ltYW l0YG l1YG l2YG l3YG l4YG l5YG ltYG
  go_ret
  exact ⟨rfl, unhide HB⟩


/- lawmany -/
theorem lawmany_ParseWrite_0 (x0 : ByteArray) (w : World) (hn : 1048576 < x0.size) (hm : x0.size ≤ maxLen) :
    Calls Tryd.prog 4 #[.string x0] w fun e w' => e = .returned (.bool true) ∧ Below w.heap.size w w' := by
  unfold maxLen at hm
  go_enter Tryd.func4, Tryd.ntmps4
  go_wp2_with fail
  go_ret
  exact ⟨rfl, Below.refl _ _⟩


end Go.Proofs.YtjfplfhdfiebgaaDoor
