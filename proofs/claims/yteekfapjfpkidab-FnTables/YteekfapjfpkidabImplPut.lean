/-
  The program's PutItem tells the table with an item in new memory, or what is wrong; nothing old is written.
  No condition.
-/
import Derived.Test.YteekfapjfpkidabImplItems
import Derived.Test.YteekfapjfpkidabImplPutM
import Derived.Test.YteekfapjfpkidabTabGround
namespace Go.Proofs.Yteekfapjfpkidab
open Go.RowKit

set_option maxRecDepth 10000 in
set_option maxHeartbeats 2000000 in
theorem implPut (v : Value) (xs : List DItem) (id : Int) (vv : Value) (vec : List Int) (w : World) (h : (Lay.sl Lay.tItem).Reads w [v] xs) (hw : (Lit.int .i64 id).wf = true) (hv : (Lay.sl Lay.int).Reads w [vv] vec) :
    Calls Try.prog 29 #[v, .int .i64 id, vv] w fun e w' => ∃ cs, e = .returned (.agg cs.toArray) ∧ Lay.tTableResult.OwnIn w' cs (putR xs id vec) w.heap.size w'.heap.size ∧ Below w.heap.size w w' := by
  have HB0 : Below w.heap.size w (w.alloc (.cells #[.int .i64 0, .slice none 0 0] 30)) := (Below.refl _ _).alloc (Nat.le_refl _) _
  have bR : Box w.heap.size #[.int .i64 0, .slice none 0 0] 30 (w.alloc (.cells #[.int .i64 0, .slice none 0 0] 30)) w.heap.size := newBox (Nat.le_refl _)
  have H := hide (h.later HB0)
  have HV := hide (Lay.ints_reads (hv.later HB0))
  obtain ⟨ao, cap, rfl⟩ := open_sl h
  obtain ⟨ao2, cap2, rfl⟩ := open_sl hv
  clear h hv
  go_enter Try.func29, Try.ntmps29
  go_wp2_with fail
  generalize w.alloc (.cells #[.int .i64 0, .slice none 0 0] 30) = W0 at *
  by_cases hf : tableFault xs = 0
  · refine (tableFrom_ok _ xs W0 (unhide H) hf).mono ?_
    rintro e w1 ⟨⟨q, rfl, hq, hT⟩, hb⟩
    have hq1 : w.heap.size < q := by have := bR.lt; omega
    replace bR := bR.keep hb
    replace HB0 := HB0.trans (hb.mono HB0.size)
    replace HV := hide ((unhide HV).later hb)
    have z0 : w1.cell? ⟨w.heap.size, 0, none⟩ = some (.int .i64 0) := bR.at 0 _ rfl
    have z1 : w1.cell? ⟨w.heap.size, 1, none⟩ = some (.slice none 0 0) := bR.at 1 _ rfl
    have f0 := bR.soft 0
    have f1 := bR.soft 1
    have l0 := bR.lt
    have HB := hide HB0
    have HT := hide hT
    have HR := hide bR
    clear hb HB0 hT bR H
    go_wp2_with fail
    refine (implId id _).mono ?_
    rintro e w1 ⟨rfl, rfl⟩
    rw [show (decide (1 ≤ id) && decide (id ≤ 999)) = idB id from rfl]
    cases hid : idB id with
    | false =>
      have HG : Hid (putR xs id vec = ⟨3, []⟩) := by
        show putR xs id vec = ⟨3, []⟩
        rw [putR, if_pos hf, hid, if_neg (by simp)]
      clear hid hf
      go_wp2_with fail
      refine bodyPost_ret (v := .agg #[.int .i64 3, .slice none 0 0]) (by simp [results, Try.results29, go_sem, z0, z1]) rfl ?_
      rw [unhide HG]
      exact ⟨[.int .i64 3, .slice none 0 0], rfl, own_codeItems (by decide), ((unhide HB).setCell (by simp) _).setCell (by simp) _⟩
    | true =>
      by_cases hvf : vecFault vec = 0
      · obtain ⟨p, q2, r, hv3⟩ := vec3 hvf
        have I1 := unhide HV
        have I2 : IsInts w1 (.slice ao2 vec.length cap2) [p, q2, r] := by rw [← hv3]; exact I1
        have L := vectorOf_ok _ p q2 r w1 I2 (by rw [← hv3]; exact hvf)
        simp only [arr3] at L
        have HL := hide L
        have HG0 : Hid (putR xs id vec = if roomB xs id then ⟨0, putI xs id vec⟩ else ⟨2, []⟩) := by
          show putR xs id vec = _
          rw [putR, if_pos hf, hid, if_pos rfl, if_pos hvf]
        have HF := hide hf
        have HV3 := hide hv3
        have HVF := hide hvf
        have HID := hide hid
        clear I1 I2 L hf hv3 hvf hid HV
        go_wp2_with fail
        clear z0 z1 f0 f1 l0
        refine (unhide HL).mono ?_
        rintro e w2 ⟨rfl, hb⟩
        have bR := (unhide HR).keep hb
        have hT2 := (unhide HT).later hb
        have hB2 := (unhide HB).trans (hb.mono (unhide HB).size)
        have nb : Below w2.heap.size w2 (w2.alloc (.cells #[.int .i64 p, .int .i64 q2, .int .i64 r] 109)) := (Below.refl _ _).alloc (Nat.le_refl _) _
        have HT2 := hide (hT2.later nb)
        have HB2 := hide (hB2.trans (nb.mono hB2.size))
        have HR2 := hide (bR.keep nb)
        clear bR hT2 hB2 nb HR HT HB HL hb
        cases hro : roomB xs id with
        | true =>
          have HG : Hid (putR xs id vec = ⟨0, putI xs id vec⟩) := by
            show putR xs id vec = _
            rw [unhide HG0, hro, if_pos rfl]
          have L : Hid (Calls Try.prog 69 #[.map (some q), .int .i64 id, .agg #[.int .i64 p, .int .i64 q2, .int .i64 r]] (w2.alloc (.cells #[.int .i64 p, .int .i64 q2, .int .i64 r] 109)) fun e w' => e = .returned (.bool true) ∧ TabAt w' q 31 (putI xs id vec) ∧ Ext (fun c => c = q) (w2.alloc (.cells #[.int .i64 p, .int .i64 q2, .int .i64 r] 109)) w') := by
            show Calls _ _ _ _ _
            rw [unhide HV3]
            cases hh : hasI xs id with
            | true => exact putM_there q 30 xs id p q2 r _ (unhide HT2) (tableFault_zero (unhide HF)).2.2 (by omega) hw hh
            | false =>
              rcases room_true hro with h | h
              · rw [hh] at h; cases h
              · exact putM_new q 30 xs id p q2 r _ (unhide HT2) (by omega) hw hh h
          have HRt := hide (right_put (right_of (unhide HF)) (unhide HID) (unhide HVF) (room_true hro))
          clear hro HG0 HF HV3 HVF HID
          go_wp2_with fail
          refine (unhide L).mono ?_
          generalize w2.alloc (.cells #[.int .i64 p, .int .i64 q2, .int .i64 r] 109) = W3 at *
          rintro e w4 ⟨rfl, hT4, hE4⟩
          have bR := (unhide HR2).ext hE4 (by omega)
          have HB := hide ((unhide HB2).trans (hE4.below (unhide HB2).size (fun c hc e => by omega)))
          have HL := hide (itemsC q 31 (putI xs id vec) w4 hT4 (unhide HRt))
          have HR := hide bR
          clear HT2 HR2 HB2 hT4 hE4 L bR
          go_wp2_with fail
          refine (unhide HL).mono ?_
          rintro e w5 ⟨v9, rfl, hO, hb⟩
          obtain ⟨ao9, cp9, rfl⟩ := open_sl hO.reads
          have bR := (unhide HR).keep hb
          have z0 : w5.cell? ⟨w.heap.size, 0, none⟩ = some (.int .i64 0) := bR.at 0 _ rfl
          have z1 : w5.cell? ⟨w.heap.size, 1, none⟩ = some (.slice none 0 0) := bR.at 1 _ rfl
          have f0 := bR.soft 0
          have f1 := bR.soft 1
          have l0 := bR.lt
          have HB9 := hide ((unhide HB).trans (hb.mono (unhide HB).size))
          have HO9 := hide (hO.mono (lo' := w.heap.size + 1) (by have := (unhide HR).lt; omega) (Nat.le_refl _))
          clear hO hb bR
          go_wp2_with fail
          refine bodyPost_ret (v := .agg #[.int .i64 0, .slice ao9 (putI xs id vec).length cp9]) (by simp [results, Try.results29, go_sem, z0, z1]) rfl ?_
          rw [unhide HG]
          have hE : Ext (fun c => c = w.heap.size) w5 ((w5.setCell ⟨w.heap.size, 0, none⟩ (.int .i64 0)).setCell ⟨w.heap.size, 1, none⟩ (.slice ao9 (putI xs id vec).length cp9)) := ((Ext.refl (fun c => c = w.heap.size) _).setCell ⟨w.heap.size, 0, none⟩ _ rfl).setCell ⟨w.heap.size, 1, none⟩ _ rfl
          refine ⟨[.int .i64 0, .slice ao9 (putI xs id vec).length cp9], rfl, own_items (by decide) ?_, ((unhide HB9).setCell (by simp) _).setCell (by simp) _⟩
          exact ((unhide HO9).ext hE (fun c h1 _ h3 => by omega)).mono (by omega) (by simp)
        | false =>
          have HG : Hid (putR xs id vec = ⟨2, []⟩) := by
            show putR xs id vec = _
            rw [unhide HG0, hro, if_neg (by simp)]
          obtain ⟨r1, r2⟩ := room_false hro
          have L := putM_full q 30 xs id p q2 r _ (unhide HT2) hw r1 r2
          simp only [arr3] at L
          have HL := hide L
          clear hro HG0 HF HV3 HVF HID L r1 r2
          go_wp2_with fail
          refine (unhide HL).mono ?_
          generalize w2.alloc (.cells #[.int .i64 p, .int .i64 q2, .int .i64 r] 109) = W3 at *
          rintro e w4 ⟨rfl, hb⟩
          have bR := (unhide HR2).keep hb
          have z0 : w4.cell? ⟨w.heap.size, 0, none⟩ = some (.int .i64 0) := bR.at 0 _ rfl
          have z1 : w4.cell? ⟨w.heap.size, 1, none⟩ = some (.slice none 0 0) := bR.at 1 _ rfl
          have f0 := bR.soft 0
          have f1 := bR.soft 1
          have l0 := bR.lt
          have HB := hide ((unhide HB2).trans (hb.mono (unhide HB2).size))
          clear HT2 HR2 HB2 hb bR HL
          go_wp2_with fail
          refine bodyPost_ret (v := .agg #[.int .i64 2, .slice none 0 0]) (by simp [results, Try.results29, go_sem, z0, z1]) rfl ?_
          rw [unhide HG]
          exact ⟨[.int .i64 2, .slice none 0 0], rfl, own_codeItems (by decide), ((unhide HB).setCell (by simp) _).setCell (by simp) _⟩
      · have HG : Hid (putR xs id vec = ⟨vecFault vec, []⟩) := by
          show putR xs id vec = _
          rw [putR, if_pos hf, hid, if_pos rfl, if_neg hvf]
        have L := vectorOf_bad _ vec w1 (unhide HV) hvf
        simp only [arr3] at L
        have HL := hide L
        have hd : (vecFault vec != 0) = true := by simpa using hvf
        clear hid hf hvf HV L HT
        go_wp2_with fail
        clear z0 z1 f0 f1 l0
        refine (unhide HL).mono ?_
        rintro e w2 ⟨rfl, hb⟩
        have bR := (unhide HR).keep hb
        have hB2 := (unhide HB).trans (hb.mono (unhide HB).size)
        have HB1 : Hid (∀ u v o, Below w.heap.size w (((w2.setCell ⟨w.heap.size, 0, none⟩ u).setCell ⟨w.heap.size, 1, none⟩ v).alloc o)) := fun u v o => ((hB2.setCell (by simp) u).setCell (by simp) v).alloc (by simpa using hB2.size) o
        have z0 : w2.cell? ⟨w.heap.size, 0, none⟩ = some (.int .i64 0) := bR.at 0 _ rfl
        have z1 : w2.cell? ⟨w.heap.size, 1, none⟩ = some (.slice none 0 0) := bR.at 1 _ rfl
        have f0 := bR.soft 0
        have f1 := bR.soft 1
        have l0 := bR.lt
        have y0 : ∀ u v o, (((w2.setCell ⟨w.heap.size, 0, none⟩ u).setCell ⟨w.heap.size, 1, none⟩ v).alloc o).cell? ⟨w.heap.size, 0, none⟩ = some u := fun u v o => (((bR.set 0 u).set 1 v).grow o).at 0 u rfl
        have y1 : ∀ u v o, (((w2.setCell ⟨w.heap.size, 0, none⟩ u).setCell ⟨w.heap.size, 1, none⟩ v).alloc o).cell? ⟨w.heap.size, 1, none⟩ = some v := fun u v o => (((bR.set 0 u).set 1 v).grow o).at 1 v rfl
        clear hb bR hB2 HR HB HL
        go_wp2_with fail
        refine bodyPost_ret (v := .agg #[.int .i64 (vecFault vec), .slice none 0 0]) (by simp [results, Try.results29, go_sem, y0, y1]) rfl ?_
        rw [unhide HG]
        exact ⟨[.int .i64 (vecFault vec), .slice none 0 0], rfl, own_codeItems (vcode_wf vec), unhide HB1 _ _ _⟩
  · have L := hide (tableFrom_bad _ xs W0 (unhide H) hf)
    have HG : Hid (putR xs id vec = ⟨tableFault xs, []⟩) := by
      show putR xs id vec = ⟨tableFault xs, []⟩
      rw [putR, if_neg hf]
    have hd : (tableFault xs != 0) = true := by simpa using hf
    clear H HV
    refine (unhide L).mono ?_
    rintro e w1 ⟨rfl, hb⟩
    replace bR := bR.keep hb
    have z0 : w1.cell? ⟨w.heap.size, 0, none⟩ = some (.int .i64 0) := bR.at 0 _ rfl
    have z1 : w1.cell? ⟨w.heap.size, 1, none⟩ = some (.slice none 0 0) := bR.at 1 _ rfl
    have f0 := bR.soft 0
    have f1 := bR.soft 1
    have l0 := bR.lt
    have HB := hide (HB0.trans (hb.mono HB0.size))
    clear hb HB0 bR L hf
    go_wp2_with fail
    refine bodyPost_ret (v := .agg #[.int .i64 (tableFault xs), .slice none 0 0]) (by simp [results, Try.results29, go_sem, z0, z1]) rfl ?_
    rw [unhide HG]
    exact ⟨[.int .i64 (tableFault xs), .slice none 0 0], rfl, own_codeItems (code_wf xs), ((unhide HB).setCell (by simp) _).setCell (by simp) _⟩

end Go.Proofs.Yteekfapjfpkidab
