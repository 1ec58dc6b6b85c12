/-
  The law FnExactOfSession answers true at all that comes in, and writes nothing that was there.
  Condition: the program and the model tell the same (premises).
-/
import Derived.Test.YtkodenmpadehjaaChecked
import Derived.Test.YtkodenmpadehjaaGround
import Derived.Test.YtkodenmpadehjaaWriteLaw
import Derived.Test.YtkodenmpadehjaaMaWriteS
import Derived.Test.YtkodenmpadehjaaEqWritesResult
import Derived.Test.YtkodenmpadehjaaMkWritesResult
namespace Go.Proofs.Ytkodenmpadehjaa
open Go.RowKit

set_option maxRecDepth 100000 in
set_option maxHeartbeats 4000000 in
theorem lawx_OfSession (v0 : Value) (x0 : List DWrite) (x1 : Int) (y : DWritesResult) (w : World) (A0 : (Lay.sl Lay.tWrite).Reads w [v0] x0) (NS : (Lay.sl Lay.tWrite).sz x0 ≤ 1048576)
    (hS : ∀ (W : World) (v0 : Value), (Lay.sl Lay.tWrite).Reads W [v0] x0 → Calls Try.prog 17 #[v0, .int .i64 x1] W fun e w' => ∃ cs, e = .returned (.agg cs.toArray) ∧ Lay.tWritesResult.Reads w' cs y ∧ Below W.heap.size W w')
    (hI : ∀ (W : World) (v0 : Value), (Lay.sl Lay.tWrite).Reads W [v0] x0 → Calls Try.prog 18 #[v0, .int .i64 x1] W fun e w' => ∃ cs, e = .returned (.agg cs.toArray) ∧ Lay.tWritesResult.OwnIn w' cs y W.heap.size w'.heap.size ∧ Below W.heap.size W w') (hc : Lay.tWritesResult.vcnt y ≤ 100000000) :
    Calls Try.prog 6 #[v0, .int .i64 x1] w fun e w' => e = .returned (.bool true) ∧ Below w.heap.size w w' := by
  obtain ⟨ao0, cp0, rfl⟩ := open_sl A0
  have HS := hide hS
  have HI := hide hI
  clear hS hI
  have HA0 := hide A0.liesIn
  clear A0
  have N0 : (Lay.sl Lay.tWrite).sz x0 ≤ 1048576 := by omega
  have HN0 := hide N0
  clear N0
  have HC := hide hc
  clear hc
  have HNS := hide NS
  clear NS
  have HB := hide (Below.refl w.heap.size w)
  go_enter Try.func6, Try.ntmps6
  go_wp2_with fail
  have hns := unhide HNS
  refine (sz_WriteS _ x0 (1048576) w (unhide HA0).reads (by omega)).mono ?_
  rintro e w1 ⟨rfl, hb⟩
  replace HA0 := hide ((unhide HA0).later hb)
  have Zw1 : w.heap.size ≤ w1.heap.size := hb.size
  replace HB := hide ((unhide HB).trans (hb.mono (by omega)))
  clear hb
  rw [szR_ok (by omega)]
  have hq0 : decide (((1048576 - (Lay.sl Lay.tWrite).sz x0 : Nat) : Int) < 0) = false := by simp
  clear hns
  go_wp2_with fail
  clear hq0
  refine (to_WriteS _ x0 w1 (unhide HA0).reads (unhide HN0)).mono ?_
  rintro e w2 ⟨vc0, rfl, O, hb⟩
  replace HA0 := hide ((unhide HA0).later hb)
  have Zw2 : w1.heap.size ≤ w2.heap.size := hb.size
  replace HB := hide ((unhide HB).trans (hb.mono (by omega)))
  clear hb
  obtain ⟨aoc0, cpc0, rfl⟩ := open_sl O.reads
  have Hc0 := hide O
  clear O
  go_wp2_with fail
  refine (unhide HS w2 _ (unhide Hc0).reads).mono ?_
  rintro e w3 ⟨cs, rfl, O, hb⟩
  replace HA0 := hide ((unhide HA0).later hb)
  replace Hc0 := hide ((unhide Hc0).later hb)
  have Zw3 : w2.heap.size ≤ w3.heap.size := hb.size
  replace HB := hide ((unhide HB).trans (hb.mono (by omega)))
  clear hb
  obtain ⟨a1W, d1W, rfl, -⟩ := open_WritesResult O
  have HW := hide O.liesIn
  clear O
  have nb : Below w3.heap.size w3 (w3.alloc (.cells #[.int .i64 y.code, .slice a1W y.writes.length d1W] 37)) := (Below.refl _ _).alloc (Nat.le_refl _) _
  have YW : Hid (Box w3.heap.size #[.int .i64 y.code, .slice a1W y.writes.length d1W] 37 (w3.alloc (.cells #[.int .i64 y.code, .slice a1W y.writes.length d1W] 37)) w3.heap.size) := newBox (Nat.le_refl _)
  clear Hc0
  go_wp2_with fail
  generalize haw4 : w3.alloc (.cells #[.int .i64 y.code, .slice a1W y.writes.length d1W] 37) = w4 at *
  have Gw4 : w3.heap.size < w4.heap.size := by rw [← haw4]; simp
  clear haw4
  replace HA0 := hide ((unhide HA0).later nb)
  replace HW := hide ((unhide HW).later nb)
  have Zw4 : w3.heap.size ≤ w4.heap.size := nb.size
  replace HB := hide ((unhide HB).trans (nb.mono (by omega)))
  clear nb
  refine (to_WriteS _ x0 w4 (unhide HA0).reads (unhide HN0)).mono ?_
  rintro e w5 ⟨vx0, rfl, O, hb⟩
  replace HA0 := hide ((unhide HA0).later hb)
  replace HW := hide ((unhide HW).later hb)
  replace YW := hide ((unhide YW).keep hb)
  have Zw5 : w4.heap.size ≤ w5.heap.size := hb.size
  replace HB := hide ((unhide HB).trans (hb.mono (by omega)))
  clear hb
  obtain ⟨aox0, cpx0, rfl⟩ := open_sl O.reads
  have Hx0 := hide O
  clear O
  have l0YW := (unhide YW).at 0 _ rfl
  have l1YW := (unhide YW).at 1 _ rfl
  have ltYW : w3.heap.size < w5.heap.size := by omega
  simp only [List.getElem_toArray, List.getElem_cons_zero, List.getElem_cons_succ] at l0YW l1YW
  go_wp2_with fail
  clear l0YW l1YW ltYW
  refine (unhide HI w5 _ (unhide Hx0).reads).mono ?_
  rintro e w6 ⟨cs, rfl, O, hb⟩
  replace HA0 := hide ((unhide HA0).later hb)
  replace HW := hide ((unhide HW).later hb)
  replace YW := hide ((unhide YW).keep hb)
  replace Hx0 := hide ((unhide Hx0).later hb)
  have Zw6 : w5.heap.size ≤ w6.heap.size := hb.size
  replace HB := hide ((unhide HB).trans (hb.mono (by omega)))
  clear hb
  obtain ⟨a1G, d1G, rfl, -⟩ := open_WritesResult O.reads
  have HG := hide O
  clear O
  have nb : Below w6.heap.size w6 (w6.alloc (.cells #[.int .i64 y.code, .slice a1G y.writes.length d1G] 37)) := (Below.refl _ _).alloc (Nat.le_refl _) _
  have YG : Hid (Box w6.heap.size #[.int .i64 y.code, .slice a1G y.writes.length d1G] 37 (w6.alloc (.cells #[.int .i64 y.code, .slice a1G y.writes.length d1G] 37)) w6.heap.size) := newBox (Nat.le_refl _)
  have l0YW := (unhide YW).at 0 _ rfl
  have l1YW := (unhide YW).at 1 _ rfl
  have ltYW : w3.heap.size < w6.heap.size := by omega
  simp only [List.getElem_toArray, List.getElem_cons_zero, List.getElem_cons_succ] at l0YW l1YW
  go_wp2_with fail
  clear l0YW l1YW ltYW
  generalize haw7 : w6.alloc (.cells #[.int .i64 y.code, .slice a1G y.writes.length d1G] 37) = w7 at *
  have Gw7 : w6.heap.size < w7.heap.size := by rw [← haw7]; simp
  clear haw7
  replace HA0 := hide ((unhide HA0).later nb)
  replace HW := hide ((unhide HW).later nb)
  replace YW := hide ((unhide YW).keep nb)
  replace Hx0 := hide ((unhide Hx0).later nb)
  replace HG := hide ((unhide HG).later nb)
  have Zw7 : w6.heap.size ≤ w7.heap.size := nb.size
  replace HB := hide ((unhide HB).trans (nb.mono (by omega)))
  clear nb
  refine (eq_WritesResult _ _ y w7 (unhide HG).reads (unhide HW).reads).mono ?_
  rintro e w8 ⟨rfl, hb⟩
  replace HA0 := hide ((unhide HA0).later hb)
  replace HW := hide ((unhide HW).later hb)
  replace YW := hide ((unhide YW).keep hb)
  replace Hx0 := hide ((unhide Hx0).later hb)
  replace HG := hide ((unhide HG).later hb)
  replace YG := hide ((unhide YG).keep hb)
  have Zw8 : w7.heap.size ≤ w8.heap.size := hb.size
  replace HB := hide ((unhide HB).trans (hb.mono (by omega)))
  clear hb
  have l0YW := (unhide YW).at 0 _ rfl
  have l1YW := (unhide YW).at 1 _ rfl
  have ltYW : w3.heap.size < w8.heap.size := by omega
  have l0YG := (unhide YG).at 0 _ rfl
  have l1YG := (unhide YG).at 1 _ rfl
  have ltYG : w6.heap.size < w8.heap.size := by omega
  simp only [List.getElem_toArray, List.getElem_cons_zero, List.getElem_cons_succ] at l0YW l1YW l0YG l1YG
  go_wp2_with fail
  clear l0YW l1YW ltYW l0YG l1YG ltYG
  refine (to_WriteS _ x0 w8 (unhide HA0).reads (unhide HN0)).mono ?_
  rintro e w9 ⟨vd0, rfl, O, hb⟩
  replace HA0 := hide ((unhide HA0).later hb)
  replace HW := hide ((unhide HW).later hb)
  replace YW := hide ((unhide YW).keep hb)
  replace Hx0 := hide ((unhide Hx0).later hb)
  replace HG := hide ((unhide HG).later hb)
  replace YG := hide ((unhide YG).keep hb)
  have Zw9 : w8.heap.size ≤ w9.heap.size := hb.size
  replace HB := hide ((unhide HB).trans (hb.mono (by omega)))
  clear hb
  obtain ⟨aod0, cpd0, rfl⟩ := open_sl O.reads
  have Hd0 := hide O
  clear O
  have l0YW := (unhide YW).at 0 _ rfl
  have l1YW := (unhide YW).at 1 _ rfl
  have ltYW : w3.heap.size < w9.heap.size := by omega
  have l0YG := (unhide YG).at 0 _ rfl
  have l1YG := (unhide YG).at 1 _ rfl
  have ltYG : w6.heap.size < w9.heap.size := by omega
  simp only [List.getElem_toArray, List.getElem_cons_zero, List.getElem_cons_succ] at l0YW l1YW l0YG l1YG
  go_wp2_with fail
  clear l0YW l1YW ltYW l0YG l1YG ltYG
  refine (eq_WriteS _ _ x0 w9 (unhide Hx0).reads (unhide Hd0).reads).mono ?_
  rintro e w10 ⟨rfl, hb⟩
  replace HA0 := hide ((unhide HA0).later hb)
  replace HW := hide ((unhide HW).later hb)
  replace YW := hide ((unhide YW).keep hb)
  replace Hx0 := hide ((unhide Hx0).later hb)
  replace HG := hide ((unhide HG).later hb)
  replace YG := hide ((unhide YG).keep hb)
  replace Hd0 := hide ((unhide Hd0).later hb)
  have Zw10 : w9.heap.size ≤ w10.heap.size := hb.size
  replace HB := hide ((unhide HB).trans (hb.mono (by omega)))
  clear hb
  clear Hd0
  have l0YW := (unhide YW).at 0 _ rfl
  have l1YW := (unhide YW).at 1 _ rfl
  have ltYW : w3.heap.size < w10.heap.size := by omega
  have l0YG := (unhide YG).at 0 _ rfl
  have l1YG := (unhide YG).at 1 _ rfl
  have ltYG : w6.heap.size < w10.heap.size := by omega
  simp only [List.getElem_toArray, List.getElem_cons_zero, List.getElem_cons_succ] at l0YW l1YW l0YG l1YG
  go_wp2_with fail
  clear l0YW l1YW ltYW l0YG l1YG ltYG
  obtain ⟨bl, O, hbl⟩ := unhide Hx0
  clear Hx0
  have HCx0 := few_bound (A := (Lay.sl Lay.tWrite)) (few_sl (few_via (few_pair few_int (few_pair few_int (few_pair (few_sl few_int) (few_pair few_int few_int)))))) (unhide HN0) (by omega)
  refine (mark_WriteS _ x0 bl (1) w10 O (by omega) (by omega)).mono ?_
  rintro e w11 ⟨rfl, -, E⟩
  replace E := E.mono (S' := within w4.heap.size w5.heap.size) fun b _ hb => hbl b hb
  clear hbl O
  have zlo : w.heap.size ≤ w4.heap.size ∧ w5.heap.size ≤ w10.heap.size := by omega
  replace HA0 := hide ((unhide HA0).ext E (within_out (by omega)))
  replace HW := hide ((unhide HW).ext E (within_out (by omega)))
  replace YW := hide ((unhide YW).ext E (fun q => by simp only [within] at q; omega))
  replace HG := hide ((unhide HG).ext E (within_out (by omega)))
  replace YG := hide ((unhide YG).ext E (fun q => by simp only [within] at q; omega))
  have Zw11 : w10.heap.size ≤ w11.heap.size := E.size
  replace HB := hide ((unhide HB).trans (E.below (by omega) (fun k h q => by simp only [within] at q; omega)))
  clear E
  clear zlo
  obtain ⟨mk, hmk⟩ : ∃ mk : Int, mk = 1 + ((Lay.sl Lay.tWrite).vcnt x0 : Int) := ⟨_, rfl⟩
  rw [← hmk]
  have hm3 : decide (mk < 0) = false := decide_eq_false (by omega)
  clear hmk HCx0
  have l0YW := (unhide YW).at 0 _ rfl
  have l1YW := (unhide YW).at 1 _ rfl
  have ltYW : w3.heap.size < w11.heap.size := by omega
  have l0YG := (unhide YG).at 0 _ rfl
  have l1YG := (unhide YG).at 1 _ rfl
  have ltYG : w6.heap.size < w11.heap.size := by omega
  simp only [List.getElem_toArray, List.getElem_cons_zero, List.getElem_cons_succ] at l0YW l1YW l0YG l1YG
  go_wp2_with fail
  clear l0YW l1YW ltYW l0YG l1YG ltYG
  refine (eq_WritesResult _ _ y w11 (unhide HG).reads (unhide HW).reads).mono ?_
  rintro e w12 ⟨rfl, hb⟩
  replace HA0 := hide ((unhide HA0).later hb)
  replace HW := hide ((unhide HW).later hb)
  replace YW := hide ((unhide YW).keep hb)
  replace HG := hide ((unhide HG).later hb)
  replace YG := hide ((unhide YG).keep hb)
  have Zw12 : w11.heap.size ≤ w12.heap.size := hb.size
  replace HB := hide ((unhide HB).trans (hb.mono (by omega)))
  clear hb
  clear hm3
  have l0YW := (unhide YW).at 0 _ rfl
  have l1YW := (unhide YW).at 1 _ rfl
  have ltYW : w3.heap.size < w12.heap.size := by omega
  have l0YG := (unhide YG).at 0 _ rfl
  have l1YG := (unhide YG).at 1 _ rfl
  have ltYG : w6.heap.size < w12.heap.size := by omega
  simp only [List.getElem_toArray, List.getElem_cons_zero, List.getElem_cons_succ] at l0YW l1YW l0YG l1YG
  go_wp2_with fail
  clear l0YW l1YW ltYW l0YG l1YG ltYG
  obtain ⟨bl, O, hbl⟩ := unhide HG
  clear HG
  have hcy := unhide HC
  refine (mark_WritesResult _ y bl 1 w12 O (by omega) (by omega)).mono ?_
  rintro e w13 ⟨rfl, O2, E⟩
  replace E := E.mono (S' := within w5.heap.size w6.heap.size) fun b _ hb => hbl b hb
  have HG : Hid (Lay.tWritesResult.OwnIn w13 _ (Lay.tWritesResult.mkv 1 y) w5.heap.size w6.heap.size) := ⟨bl, O2, hbl⟩
  clear hbl O O2
  have zlo : w.heap.size ≤ w5.heap.size ∧ w6.heap.size ≤ w12.heap.size := by omega
  replace HA0 := hide ((unhide HA0).ext E (within_out (by omega)))
  replace HW := hide ((unhide HW).ext E (within_out (by omega)))
  replace YW := hide ((unhide YW).ext E (fun q => by simp only [within] at q; omega))
  replace YG := hide ((unhide YG).ext E (fun q => by simp only [within] at q; omega))
  have Zw13 : w12.heap.size ≤ w13.heap.size := E.size
  replace HB := hide ((unhide HB).trans (E.below (by omega) (fun k h q => by simp only [within] at q; omega)))
  clear E
  clear zlo
  have hq0 : decide (1 + (Lay.tWritesResult.vcnt y : Int) < 0) = false := decide_eq_false (by omega)
  have hq1 : ((1 + (Lay.tWritesResult.vcnt y : Int)) != (1 + (Lay.tWritesResult.vcnt y : Int))) = false := by simp
  clear hcy
  have l0YW := (unhide YW).at 0 _ rfl
  have l1YW := (unhide YW).at 1 _ rfl
  have ltYW : w3.heap.size < w13.heap.size := by omega
  have l0YG := (unhide YG).at 0 _ rfl
  have l1YG := (unhide YG).at 1 _ rfl
  have ltYG : w6.heap.size < w13.heap.size := by omega
  simp only [List.getElem_toArray, List.getElem_cons_zero, List.getElem_cons_succ] at l0YW l1YW l0YG l1YG
  go_wp2_with fail
  clear l0YW l1YW ltYW l0YG l1YG ltYG
  refine (held_WritesResult _ y 1 w13 (unhide HG).reads (by omega) (by have := unhide HC; omega)).mono ?_
  rintro e w14 ⟨rfl, hb⟩
  replace HA0 := hide ((unhide HA0).later hb)
  replace HW := hide ((unhide HW).later hb)
  replace YW := hide ((unhide YW).keep hb)
  replace YG := hide ((unhide YG).keep hb)
  replace HG := hide ((unhide HG).later hb)
  have Zw14 : w13.heap.size ≤ w14.heap.size := hb.size
  replace HB := hide ((unhide HB).trans (hb.mono (by omega)))
  clear hb
  have l0YW := (unhide YW).at 0 _ rfl
  have l1YW := (unhide YW).at 1 _ rfl
  have ltYW : w3.heap.size < w14.heap.size := by omega
  have l0YG := (unhide YG).at 0 _ rfl
  have l1YG := (unhide YG).at 1 _ rfl
  have ltYG : w6.heap.size < w14.heap.size := by omega
  simp only [List.getElem_toArray, List.getElem_cons_zero, List.getElem_cons_succ] at l0YW l1YW l0YG l1YG
  go_wp2_with fail
  clear l0YW l1YW ltYW l0YG l1YG ltYG
  refine (to_WriteS _ x0 w14 (unhide HA0).reads (unhide HN0)).mono ?_
  rintro e w15 ⟨vf0, rfl, O, hb⟩
  replace HA0 := hide ((unhide HA0).later hb)
  replace HW := hide ((unhide HW).later hb)
  replace YW := hide ((unhide YW).keep hb)
  replace YG := hide ((unhide YG).keep hb)
  replace HG := hide ((unhide HG).later hb)
  have Zw15 : w14.heap.size ≤ w15.heap.size := hb.size
  replace HB := hide ((unhide HB).trans (hb.mono (by omega)))
  clear hb
  obtain ⟨aof0, cpf0, rfl⟩ := open_sl O.reads
  have Hf0 := hide O
  clear O
  have l0YW := (unhide YW).at 0 _ rfl
  have l1YW := (unhide YW).at 1 _ rfl
  have ltYW : w3.heap.size < w15.heap.size := by omega
  have l0YG := (unhide YG).at 0 _ rfl
  have l1YG := (unhide YG).at 1 _ rfl
  have ltYG : w6.heap.size < w15.heap.size := by omega
  simp only [List.getElem_toArray, List.getElem_cons_zero, List.getElem_cons_succ] at l0YW l1YW l0YG l1YG
  go_wp2_with fail
  clear l0YW l1YW ltYW l0YG l1YG ltYG
  refine (unhide HI w15 _ (unhide Hf0).reads).mono ?_
  rintro e w16 ⟨cs, rfl, O, hb⟩
  replace HA0 := hide ((unhide HA0).later hb)
  replace HW := hide ((unhide HW).later hb)
  replace YW := hide ((unhide YW).keep hb)
  replace YG := hide ((unhide YG).keep hb)
  replace HG := hide ((unhide HG).later hb)
  replace Hf0 := hide ((unhide Hf0).later hb)
  have Zw16 : w15.heap.size ≤ w16.heap.size := hb.size
  replace HB := hide ((unhide HB).trans (hb.mono (by omega)))
  clear hb
  obtain ⟨a1K, d1K, rfl, -⟩ := open_WritesResult O.reads
  have HK := hide O
  clear O
  have nb : Below w16.heap.size w16 (w16.alloc (.cells #[.int .i64 y.code, .slice a1K y.writes.length d1K] 37)) := (Below.refl _ _).alloc (Nat.le_refl _) _
  have YK : Hid (Box w16.heap.size #[.int .i64 y.code, .slice a1K y.writes.length d1K] 37 (w16.alloc (.cells #[.int .i64 y.code, .slice a1K y.writes.length d1K] 37)) w16.heap.size) := newBox (Nat.le_refl _)
  clear Hf0
  have l0YW := (unhide YW).at 0 _ rfl
  have l1YW := (unhide YW).at 1 _ rfl
  have ltYW : w3.heap.size < w16.heap.size := by omega
  have l0YG := (unhide YG).at 0 _ rfl
  have l1YG := (unhide YG).at 1 _ rfl
  have ltYG : w6.heap.size < w16.heap.size := by omega
  simp only [List.getElem_toArray, List.getElem_cons_zero, List.getElem_cons_succ] at l0YW l1YW l0YG l1YG
  go_wp2_with fail
  clear l0YW l1YW ltYW l0YG l1YG ltYG
  generalize haw17 : w16.alloc (.cells #[.int .i64 y.code, .slice a1K y.writes.length d1K] 37) = w17 at *
  have Gw17 : w16.heap.size < w17.heap.size := by rw [← haw17]; simp
  clear haw17
  replace HA0 := hide ((unhide HA0).later nb)
  replace HW := hide ((unhide HW).later nb)
  replace YW := hide ((unhide YW).keep nb)
  replace YG := hide ((unhide YG).keep nb)
  replace HG := hide ((unhide HG).later nb)
  replace HK := hide ((unhide HK).later nb)
  have Zw17 : w16.heap.size ≤ w17.heap.size := nb.size
  replace HB := hide ((unhide HB).trans (nb.mono (by omega)))
  clear nb
  refine (eq_WritesResult _ _ y w17 (unhide HK).reads (unhide HW).reads).mono ?_
  rintro e w18 ⟨rfl, hb⟩
  replace HA0 := hide ((unhide HA0).later hb)
  replace HW := hide ((unhide HW).later hb)
  replace YW := hide ((unhide YW).keep hb)
  replace YG := hide ((unhide YG).keep hb)
  replace HG := hide ((unhide HG).later hb)
  replace HK := hide ((unhide HK).later hb)
  replace YK := hide ((unhide YK).keep hb)
  have Zw18 : w17.heap.size ≤ w18.heap.size := hb.size
  replace HB := hide ((unhide HB).trans (hb.mono (by omega)))
  clear hb
  clear HK
  clear YK
  have l0YW := (unhide YW).at 0 _ rfl
  have l1YW := (unhide YW).at 1 _ rfl
  have ltYW : w3.heap.size < w18.heap.size := by omega
  have l0YG := (unhide YG).at 0 _ rfl
  have l1YG := (unhide YG).at 1 _ rfl
  have ltYG : w6.heap.size < w18.heap.size := by omega
  simp only [List.getElem_toArray, List.getElem_cons_zero, List.getElem_cons_succ] at l0YW l1YW l0YG l1YG
  go_wp2_with fail
  clear l0YW l1YW ltYW l0YG l1YG ltYG
  refine (held_WritesResult _ y 1 w18 (unhide HG).reads (by omega) (by have := unhide HC; omega)).mono ?_
  rintro e w19 ⟨rfl, hb⟩
  replace HA0 := hide ((unhide HA0).later hb)
  replace HW := hide ((unhide HW).later hb)
  replace YW := hide ((unhide YW).keep hb)
  replace YG := hide ((unhide YG).keep hb)
  replace HG := hide ((unhide HG).later hb)
  have Zw19 : w18.heap.size ≤ w19.heap.size := hb.size
  replace HB := hide ((unhide HB).trans (hb.mono (by omega)))
  clear hb
  have l0YW := (unhide YW).at 0 _ rfl
  have l1YW := (unhide YW).at 1 _ rfl
  have ltYW : w3.heap.size < w19.heap.size := by omega
  have l0YG := (unhide YG).at 0 _ rfl
  have l1YG := (unhide YG).at 1 _ rfl
  have ltYG : w6.heap.size < w19.heap.size := by omega
  simp only [List.getElem_toArray, List.getElem_cons_zero, List.getElem_cons_succ] at l0YW l1YW l0YG l1YG
  go_wp2_with fail
  clear l0YW l1YW ltYW l0YG l1YG ltYG
  go_ret
  exact ⟨rfl, unhide HB⟩


set_option maxRecDepth 10000 in
set_option maxHeartbeats 1000000 in
theorem lawover_OfSession (v0 : Value) (x0 : List DWrite) (x1 : Int) (w : World) (A0 : (Lay.sl Lay.tWrite).Reads w [v0] x0) (NS : 1048576 < (Lay.sl Lay.tWrite).sz x0) :
    Calls Try.prog 6 #[v0, .int .i64 x1] w fun e w' => e = .returned (.bool true) ∧ Below w.heap.size w w' := by
  obtain ⟨ao0, cp0, rfl⟩ := open_sl A0
  have HA0 := hide A0.liesIn
  clear A0
  have HB := hide (Below.refl w.heap.size w)
  go_enter Try.func6, Try.ntmps6
  go_wp2_with fail
  refine (sz_WriteS _ x0 (1048576) w (unhide HA0).reads (by omega)).mono ?_
  rintro e w1 ⟨rfl, hb⟩
  replace HA0 := hide ((unhide HA0).later hb)
  have Zw1 : w.heap.size ≤ w1.heap.size := hb.size
  replace HB := hide ((unhide HB).trans (hb.mono (by omega)))
  clear hb
  rw [szR_many (by omega)]
  go_wp2_with fail
  go_ret
  exact ⟨rfl, unhide HB⟩

end Go.Proofs.Ytkodenmpadehjaa
