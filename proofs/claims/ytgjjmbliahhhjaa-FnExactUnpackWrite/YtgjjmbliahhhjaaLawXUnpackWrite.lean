/-
  The law FnExactUnpackWrite answers true at all that comes in, and writes nothing that was there.
  Condition: the program and the model tell the same (premises).
-/
import Derived.Test.YtgjjmbliahhhjaaChecked
import Derived.Test.YtgjjmbliahhhjaaLayLaw
import Derived.Test.YtgjjmbliahhhjaaLayInt
import Derived.Test.YtgjjmbliahhhjaaLayMark
import Derived.Test.YtgjjmbliahhhjaaEqWriteResult
import Derived.Test.YtgjjmbliahhhjaaMkWriteResult
namespace Go.Proofs.Ytgjjmbliahhhjaa
open Go.RowKit

set_option maxRecDepth 100000 in
set_option maxHeartbeats 4000000 in
theorem lawx_UnpackWrite (v0 : Value) (x0 : List Int) (y : DWriteResult) (w : World) (A0 : (Lay.sl Lay.int).Reads w [v0] x0) (N0 : (Lay.sl Lay.int).sz x0 ≤ 1048576)
    (hS : ∀ (W : World) (v0 : Value), (Lay.sl Lay.int).Reads W [v0] x0 → Calls Try.prog 18 #[v0] W fun e w' => ∃ cs, e = .returned (.agg cs.toArray) ∧ Lay.tWriteResult.Reads w' cs y ∧ Below W.heap.size W w')
    (hI : ∀ (W : World) (v0 : Value), (Lay.sl Lay.int).Reads W [v0] x0 → Calls Try.prog 20 #[v0] W fun e w' => ∃ cs, e = .returned (.agg cs.toArray) ∧ Lay.tWriteResult.OwnIn w' cs y W.heap.size w'.heap.size ∧ Below W.heap.size W w') (hc : Lay.tWriteResult.vcnt y ≤ 100000000) :
    Calls Try.prog 5 #[v0] w fun e w' => e = .returned (.bool true) ∧ Below w.heap.size w w' := by
  obtain ⟨ao0, cp0, rfl⟩ := open_sl A0
  have HS := hide hS
  have HI := hide hI
  clear hS hI
  have HA0 := hide A0.liesIn
  clear A0
  have HN0 := hide N0
  have L0 : x0.length ≤ 1048576 := by have := N0; rw [sz_ints] at this; exact this
  clear N0
  have HC := hide hc
  clear hc
  have HB := hide (Below.refl w.heap.size w)
  go_enter Try.func5, Try.ntmps5
  go_wp2_with fail
  refine (to_Int64S _ x0 w (unhide HA0).reads (unhide HN0)).mono ?_
  rintro e w1 ⟨vc0, rfl, O, hb⟩
  replace HA0 := hide ((unhide HA0).later hb)
  have Zw1 : w.heap.size ≤ w1.heap.size := hb.size
  replace HB := hide ((unhide HB).trans (hb.mono (by omega)))
  clear hb
  obtain ⟨aoc0, cpc0, rfl⟩ := open_sl O.reads
  have Hc0 := hide O
  clear O
  go_wp2_with fail
  refine (unhide HS w1 _ (unhide Hc0).reads).mono ?_
  rintro e w2 ⟨cs, rfl, O, hb⟩
  replace HA0 := hide ((unhide HA0).later hb)
  replace Hc0 := hide ((unhide Hc0).later hb)
  have Zw2 : w1.heap.size ≤ w2.heap.size := hb.size
  replace HB := hide ((unhide HB).trans (hb.mono (by omega)))
  clear hb
  obtain ⟨a3W, d3W, rfl, -⟩ := open_WriteResult O
  have HW := hide O.liesIn
  clear O
  have nb : Below w2.heap.size w2 (w2.alloc (.cells #[.int .i64 y.code, .int .i64 y.write.kind, .int .i64 y.write.id, .slice a3W y.write.vec.length d3W, .int .i64 y.write.session, .int .i64 y.write.seq] 38)) := (Below.refl _ _).alloc (Nat.le_refl _) _
  have YW : Hid (Box w2.heap.size #[.int .i64 y.code, .int .i64 y.write.kind, .int .i64 y.write.id, .slice a3W y.write.vec.length d3W, .int .i64 y.write.session, .int .i64 y.write.seq] 38 (w2.alloc (.cells #[.int .i64 y.code, .int .i64 y.write.kind, .int .i64 y.write.id, .slice a3W y.write.vec.length d3W, .int .i64 y.write.session, .int .i64 y.write.seq] 38)) w2.heap.size) := newBox (Nat.le_refl _)
  clear Hc0
  go_wp2_with fail
  generalize haw3 : w2.alloc (.cells #[.int .i64 y.code, .int .i64 y.write.kind, .int .i64 y.write.id, .slice a3W y.write.vec.length d3W, .int .i64 y.write.session, .int .i64 y.write.seq] 38) = w3 at *
  have Gw3 : w2.heap.size < w3.heap.size := by rw [← haw3]; simp
  clear haw3
  replace HA0 := hide ((unhide HA0).later nb)
  replace HW := hide ((unhide HW).later nb)
  have Zw3 : w2.heap.size ≤ w3.heap.size := nb.size
  replace HB := hide ((unhide HB).trans (nb.mono (by omega)))
  clear nb
  refine (to_Int64S _ x0 w3 (unhide HA0).reads (unhide HN0)).mono ?_
  rintro e w4 ⟨vx0, rfl, O, hb⟩
  replace HA0 := hide ((unhide HA0).later hb)
  replace HW := hide ((unhide HW).later hb)
  replace YW := hide ((unhide YW).keep hb)
  have Zw4 : w3.heap.size ≤ w4.heap.size := hb.size
  replace HB := hide ((unhide HB).trans (hb.mono (by omega)))
  clear hb
  obtain ⟨aox0, cpx0, rfl⟩ := open_sl O.reads
  have Hx0 := hide O
  clear O
  go_wp2_with fail
  refine (unhide HI w4 _ (unhide Hx0).reads).mono ?_
  rintro e w5 ⟨cs, rfl, O, hb⟩
  replace HA0 := hide ((unhide HA0).later hb)
  replace HW := hide ((unhide HW).later hb)
  replace YW := hide ((unhide YW).keep hb)
  replace Hx0 := hide ((unhide Hx0).later hb)
  have Zw5 : w4.heap.size ≤ w5.heap.size := hb.size
  replace HB := hide ((unhide HB).trans (hb.mono (by omega)))
  clear hb
  obtain ⟨a3G, d3G, rfl, -⟩ := open_WriteResult O.reads
  have HG := hide O
  clear O
  have nb : Below w5.heap.size w5 (w5.alloc (.cells #[.int .i64 y.code, .int .i64 y.write.kind, .int .i64 y.write.id, .slice a3G y.write.vec.length d3G, .int .i64 y.write.session, .int .i64 y.write.seq] 38)) := (Below.refl _ _).alloc (Nat.le_refl _) _
  have YG : Hid (Box w5.heap.size #[.int .i64 y.code, .int .i64 y.write.kind, .int .i64 y.write.id, .slice a3G y.write.vec.length d3G, .int .i64 y.write.session, .int .i64 y.write.seq] 38 (w5.alloc (.cells #[.int .i64 y.code, .int .i64 y.write.kind, .int .i64 y.write.id, .slice a3G y.write.vec.length d3G, .int .i64 y.write.session, .int .i64 y.write.seq] 38)) w5.heap.size) := newBox (Nat.le_refl _)
  have l0W := (unhide YW).at 0 _ rfl
  have l1W := (unhide YW).at 1 _ rfl
  have l2W := (unhide YW).at 2 _ rfl
  have l3W := (unhide YW).at 3 _ rfl
  have l4W := (unhide YW).at 4 _ rfl
  have l5W := (unhide YW).at 5 _ rfl
  have ltW : w2.heap.size < w5.heap.size := by omega
  go_wp2_with fail
  generalize haw6 : w5.alloc (.cells #[.int .i64 y.code, .int .i64 y.write.kind, .int .i64 y.write.id, .slice a3G y.write.vec.length d3G, .int .i64 y.write.session, .int .i64 y.write.seq] 38) = w6 at *
  have Gw6 : w5.heap.size < w6.heap.size := by rw [← haw6]; simp
  clear haw6
  replace HA0 := hide ((unhide HA0).later nb)
  replace HW := hide ((unhide HW).later nb)
  replace YW := hide ((unhide YW).keep nb)
  replace Hx0 := hide ((unhide Hx0).later nb)
  replace HG := hide ((unhide HG).later nb)
  have Zw6 : w5.heap.size ≤ w6.heap.size := nb.size
  replace HB := hide ((unhide HB).trans (nb.mono (by omega)))
  clear nb
  clear l0W l1W l2W l3W l4W l5W ltW
  refine (eq_WriteResult _ _ y w6 (unhide HG).reads (unhide HW).reads).mono ?_
  rintro e w7 ⟨rfl, hb⟩
  replace HA0 := hide ((unhide HA0).later hb)
  replace HW := hide ((unhide HW).later hb)
  replace YW := hide ((unhide YW).keep hb)
  replace Hx0 := hide ((unhide Hx0).later hb)
  replace HG := hide ((unhide HG).later hb)
  replace YG := hide ((unhide YG).keep hb)
  have Zw7 : w6.heap.size ≤ w7.heap.size := hb.size
  replace HB := hide ((unhide HB).trans (hb.mono (by omega)))
  clear hb
  go_wp2_with fail
  refine (to_Int64S _ x0 w7 (unhide HA0).reads (unhide HN0)).mono ?_
  rintro e w8 ⟨vd0, rfl, O, hb⟩
  replace HA0 := hide ((unhide HA0).later hb)
  replace HW := hide ((unhide HW).later hb)
  replace YW := hide ((unhide YW).keep hb)
  replace Hx0 := hide ((unhide Hx0).later hb)
  replace HG := hide ((unhide HG).later hb)
  replace YG := hide ((unhide YG).keep hb)
  have Zw8 : w7.heap.size ≤ w8.heap.size := hb.size
  replace HB := hide ((unhide HB).trans (hb.mono (by omega)))
  clear hb
  obtain ⟨aod0, cpd0, rfl⟩ := open_sl O.reads
  have Hd0 := hide O
  clear O
  go_wp2_with fail
  refine (eq_Int64S _ _ x0 w8 (unhide Hx0).reads (unhide Hd0).reads).mono ?_
  rintro e w9 ⟨rfl, hb⟩
  replace HA0 := hide ((unhide HA0).later hb)
  replace HW := hide ((unhide HW).later hb)
  replace YW := hide ((unhide YW).keep hb)
  replace Hx0 := hide ((unhide Hx0).later hb)
  replace HG := hide ((unhide HG).later hb)
  replace YG := hide ((unhide YG).keep hb)
  replace Hd0 := hide ((unhide Hd0).later hb)
  have Zw9 : w8.heap.size ≤ w9.heap.size := hb.size
  replace HB := hide ((unhide HB).trans (hb.mono (by omega)))
  clear hb
  clear Hd0
  go_wp2_with fail
  obtain ⟨bl, O, hbl⟩ := unhide Hx0
  clear Hx0
  have HCx0 := few_bound (A := (Lay.sl Lay.int)) (few_sl few_int) (unhide HN0) (by omega)
  refine (mark_Int64S _ x0 bl (1) w9 O (by omega) (by omega)).mono ?_
  rintro e w10 ⟨rfl, -, E⟩
  replace E := E.mono (S' := within w3.heap.size w4.heap.size) fun b _ hb => hbl b hb
  clear hbl O
  have zlo : w.heap.size ≤ w3.heap.size ∧ w4.heap.size ≤ w9.heap.size := by omega
  replace HA0 := hide ((unhide HA0).ext E (within_out (by omega)))
  replace HW := hide ((unhide HW).ext E (within_out (by omega)))
  replace YW := hide ((unhide YW).ext E (fun q => by simp only [within] at q; omega))
  replace HG := hide ((unhide HG).ext E (within_out (by omega)))
  replace YG := hide ((unhide YG).ext E (fun q => by simp only [within] at q; omega))
  have Zw10 : w9.heap.size ≤ w10.heap.size := E.size
  replace HB := hide ((unhide HB).trans (E.below (by omega) (fun k h q => by simp only [within] at q; omega)))
  clear E
  clear zlo
  obtain ⟨mk, hmk⟩ : ∃ mk : Int, mk = 1 + ((Lay.sl Lay.int).vcnt x0 : Int) := ⟨_, rfl⟩
  rw [← hmk]
  have hm3 : decide (mk < 0) = false := decide_eq_false (by omega)
  clear hmk HCx0
  have l0W := (unhide YW).at 0 _ rfl
  have l1W := (unhide YW).at 1 _ rfl
  have l2W := (unhide YW).at 2 _ rfl
  have l3W := (unhide YW).at 3 _ rfl
  have l4W := (unhide YW).at 4 _ rfl
  have l5W := (unhide YW).at 5 _ rfl
  have ltW : w2.heap.size < w10.heap.size := by omega
  have l0G := (unhide YG).at 0 _ rfl
  have l1G := (unhide YG).at 1 _ rfl
  have l2G := (unhide YG).at 2 _ rfl
  have l3G := (unhide YG).at 3 _ rfl
  have l4G := (unhide YG).at 4 _ rfl
  have l5G := (unhide YG).at 5 _ rfl
  have ltG : w5.heap.size < w10.heap.size := by omega
  go_wp2_with fail
  clear l0W l1W l2W l3W l4W l5W ltW
  clear l0G l1G l2G l3G l4G l5G ltG
  refine (eq_WriteResult _ _ y w10 (unhide HG).reads (unhide HW).reads).mono ?_
  rintro e w11 ⟨rfl, hb⟩
  replace HA0 := hide ((unhide HA0).later hb)
  replace HW := hide ((unhide HW).later hb)
  replace YW := hide ((unhide YW).keep hb)
  replace HG := hide ((unhide HG).later hb)
  replace YG := hide ((unhide YG).keep hb)
  have Zw11 : w10.heap.size ≤ w11.heap.size := hb.size
  replace HB := hide ((unhide HB).trans (hb.mono (by omega)))
  clear hb
  clear hm3
  have l0G := (unhide YG).at 0 _ rfl
  have l1G := (unhide YG).at 1 _ rfl
  have l2G := (unhide YG).at 2 _ rfl
  have l3G := (unhide YG).at 3 _ rfl
  have l4G := (unhide YG).at 4 _ rfl
  have l5G := (unhide YG).at 5 _ rfl
  have ltG : w5.heap.size < w11.heap.size := by omega
  go_wp2_with fail
  clear l0G l1G l2G l3G l4G l5G ltG
  obtain ⟨bl, O, hbl⟩ := unhide HG
  clear HG
  have hcy := unhide HC
  refine (mark_WriteResult _ y bl 1 w11 O (by omega) (by omega)).mono ?_
  rintro e w12 ⟨rfl, O2, E⟩
  replace E := E.mono (S' := within w4.heap.size w5.heap.size) fun b _ hb => hbl b hb
  have HG : Hid (Lay.tWriteResult.OwnIn w12 _ (Lay.tWriteResult.mkv 1 y) w4.heap.size w5.heap.size) := ⟨bl, O2, hbl⟩
  clear hbl O O2
  have zlo : w.heap.size ≤ w4.heap.size ∧ w5.heap.size ≤ w11.heap.size := by omega
  replace HA0 := hide ((unhide HA0).ext E (within_out (by omega)))
  replace HW := hide ((unhide HW).ext E (within_out (by omega)))
  replace YW := hide ((unhide YW).ext E (fun q => by simp only [within] at q; omega))
  replace YG := hide ((unhide YG).ext E (fun q => by simp only [within] at q; omega))
  have Zw12 : w11.heap.size ≤ w12.heap.size := E.size
  replace HB := hide ((unhide HB).trans (E.below (by omega) (fun k h q => by simp only [within] at q; omega)))
  clear E
  clear zlo
  have l0G := (unhide YG).at 0 _ rfl
  have l1G := (unhide YG).at 1 _ rfl
  have l2G := (unhide YG).at 2 _ rfl
  have l3G := (unhide YG).at 3 _ rfl
  have l4G := (unhide YG).at 4 _ rfl
  have l5G := (unhide YG).at 5 _ rfl
  have ltG : w5.heap.size < w12.heap.size := by omega
  have hq0 : decide (1 + (Lay.tWriteResult.vcnt y : Int) < 0) = false := decide_eq_false (by omega)
  have hq1 : ((1 + (Lay.tWriteResult.vcnt y : Int)) != (1 + (Lay.tWriteResult.vcnt y : Int))) = false := by simp
  clear hcy
  go_wp2_with fail
  clear l0G l1G l2G l3G l4G l5G ltG
  refine (held_WriteResult _ y 1 w12 (unhide HG).reads (by omega) (by have := unhide HC; omega)).mono ?_
  rintro e w13 ⟨rfl, hb⟩
  replace HA0 := hide ((unhide HA0).later hb)
  replace HW := hide ((unhide HW).later hb)
  replace YW := hide ((unhide YW).keep hb)
  replace YG := hide ((unhide YG).keep hb)
  replace HG := hide ((unhide HG).later hb)
  have Zw13 : w12.heap.size ≤ w13.heap.size := hb.size
  replace HB := hide ((unhide HB).trans (hb.mono (by omega)))
  clear hb
  go_wp2_with fail
  refine (to_Int64S _ x0 w13 (unhide HA0).reads (unhide HN0)).mono ?_
  rintro e w14 ⟨vf0, rfl, O, hb⟩
  replace HA0 := hide ((unhide HA0).later hb)
  replace HW := hide ((unhide HW).later hb)
  replace YW := hide ((unhide YW).keep hb)
  replace YG := hide ((unhide YG).keep hb)
  replace HG := hide ((unhide HG).later hb)
  have Zw14 : w13.heap.size ≤ w14.heap.size := hb.size
  replace HB := hide ((unhide HB).trans (hb.mono (by omega)))
  clear hb
  obtain ⟨aof0, cpf0, rfl⟩ := open_sl O.reads
  have Hf0 := hide O
  clear O
  go_wp2_with fail
  refine (unhide HI w14 _ (unhide Hf0).reads).mono ?_
  rintro e w15 ⟨cs, rfl, O, hb⟩
  replace HA0 := hide ((unhide HA0).later hb)
  replace HW := hide ((unhide HW).later hb)
  replace YW := hide ((unhide YW).keep hb)
  replace YG := hide ((unhide YG).keep hb)
  replace HG := hide ((unhide HG).later hb)
  replace Hf0 := hide ((unhide Hf0).later hb)
  have Zw15 : w14.heap.size ≤ w15.heap.size := hb.size
  replace HB := hide ((unhide HB).trans (hb.mono (by omega)))
  clear hb
  obtain ⟨a3K, d3K, rfl, -⟩ := open_WriteResult O.reads
  have HK := hide O
  clear O
  have nb : Below w15.heap.size w15 (w15.alloc (.cells #[.int .i64 y.code, .int .i64 y.write.kind, .int .i64 y.write.id, .slice a3K y.write.vec.length d3K, .int .i64 y.write.session, .int .i64 y.write.seq] 38)) := (Below.refl _ _).alloc (Nat.le_refl _) _
  have YK : Hid (Box w15.heap.size #[.int .i64 y.code, .int .i64 y.write.kind, .int .i64 y.write.id, .slice a3K y.write.vec.length d3K, .int .i64 y.write.session, .int .i64 y.write.seq] 38 (w15.alloc (.cells #[.int .i64 y.code, .int .i64 y.write.kind, .int .i64 y.write.id, .slice a3K y.write.vec.length d3K, .int .i64 y.write.session, .int .i64 y.write.seq] 38)) w15.heap.size) := newBox (Nat.le_refl _)
  clear Hf0
  have l0W := (unhide YW).at 0 _ rfl
  have l1W := (unhide YW).at 1 _ rfl
  have l2W := (unhide YW).at 2 _ rfl
  have l3W := (unhide YW).at 3 _ rfl
  have l4W := (unhide YW).at 4 _ rfl
  have l5W := (unhide YW).at 5 _ rfl
  have ltW : w2.heap.size < w15.heap.size := by omega
  go_wp2_with fail
  generalize haw16 : w15.alloc (.cells #[.int .i64 y.code, .int .i64 y.write.kind, .int .i64 y.write.id, .slice a3K y.write.vec.length d3K, .int .i64 y.write.session, .int .i64 y.write.seq] 38) = w16 at *
  have Gw16 : w15.heap.size < w16.heap.size := by rw [← haw16]; simp
  clear haw16
  replace HA0 := hide ((unhide HA0).later nb)
  replace HW := hide ((unhide HW).later nb)
  replace YW := hide ((unhide YW).keep nb)
  replace YG := hide ((unhide YG).keep nb)
  replace HG := hide ((unhide HG).later nb)
  replace HK := hide ((unhide HK).later nb)
  have Zw16 : w15.heap.size ≤ w16.heap.size := nb.size
  replace HB := hide ((unhide HB).trans (nb.mono (by omega)))
  clear nb
  clear l0W l1W l2W l3W l4W l5W ltW
  refine (eq_WriteResult _ _ y w16 (unhide HK).reads (unhide HW).reads).mono ?_
  rintro e w17 ⟨rfl, hb⟩
  replace HA0 := hide ((unhide HA0).later hb)
  replace HW := hide ((unhide HW).later hb)
  replace YW := hide ((unhide YW).keep hb)
  replace YG := hide ((unhide YG).keep hb)
  replace HG := hide ((unhide HG).later hb)
  replace HK := hide ((unhide HK).later hb)
  replace YK := hide ((unhide YK).keep hb)
  have Zw17 : w16.heap.size ≤ w17.heap.size := hb.size
  replace HB := hide ((unhide HB).trans (hb.mono (by omega)))
  clear hb
  clear HK
  clear YK
  have l0G := (unhide YG).at 0 _ rfl
  have l1G := (unhide YG).at 1 _ rfl
  have l2G := (unhide YG).at 2 _ rfl
  have l3G := (unhide YG).at 3 _ rfl
  have l4G := (unhide YG).at 4 _ rfl
  have l5G := (unhide YG).at 5 _ rfl
  have ltG : w5.heap.size < w17.heap.size := by omega
  go_wp2_with fail
  clear l0G l1G l2G l3G l4G l5G ltG
  refine (held_WriteResult _ y 1 w17 (unhide HG).reads (by omega) (by have := unhide HC; omega)).mono ?_
  rintro e w18 ⟨rfl, hb⟩
  replace HA0 := hide ((unhide HA0).later hb)
  replace HW := hide ((unhide HW).later hb)
  replace YW := hide ((unhide YW).keep hb)
  replace YG := hide ((unhide YG).keep hb)
  replace HG := hide ((unhide HG).later hb)
  have Zw18 : w17.heap.size ≤ w18.heap.size := hb.size
  replace HB := hide ((unhide HB).trans (hb.mono (by omega)))
  clear hb
  go_wp2_with fail
  go_ret
  exact ⟨rfl, unhide HB⟩


/- lawmany -/
set_option maxHeartbeats 400000 in
theorem lawmany_UnpackWrite_0 (ao0 : Option Addr) (n0 cp0 : Nat) (w : World) (hm : 1048576 < n0) :
    Calls Try.prog 5 #[.slice ao0 n0 cp0] w fun e w' => e = .returned (.bool true) ∧ Below w.heap.size w w' := by
  go_enter Try.func5, Try.ntmps5
  go_wp2
  go_ret
  exact ⟨rfl, Below.refl _ _⟩

end Go.Proofs.Ytgjjmbliahhhjaa
