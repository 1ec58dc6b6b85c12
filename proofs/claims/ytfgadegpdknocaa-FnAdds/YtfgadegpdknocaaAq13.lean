/-
  Texts of this proof in one: ImplPut, ImplDrop, LawAdds.
  Their conditions stand in their theorems.
-/
import Derived.Test.YtfgadegpdknocaaAq11
import Derived.Test.YtfgadegpdknocaaAq01
import Derived.Test.YtfgadegpdknocaaAq06
import Derived.Test.YtfgadegpdknocaaAq07
import Derived.Test.YtfgadegpdknocaaAq12
import Derived.Deep.RegionHeld3

namespace Go.Proofs.Ytfgadegpdknocaa
open Go.RowKit

set_option maxRecDepth 10000 in
set_option maxHeartbeats 2000000 in
theorem implPut (v : Value) (xs : List DItem) (id : Int) (vv : Value) (vec : List Int) (w : World) (h : (Lay.sl Lay.tItem).Reads w [v] xs) (hw : (Lit.int .i64 id).wf = true) (hv : (Lay.sl Lay.int).Reads w [vv] vec) :
    Calls Try.prog 52 #[v, .int .i64 id, vv] w fun e w' => ∃ cs, e = .returned (.agg cs.toArray) ∧ Lay.tTableResult.OwnIn w' cs (putR xs id vec) w.heap.size w'.heap.size ∧ Below w.heap.size w w' := by
  have HB0 : Below w.heap.size w (w.alloc (.cells #[.int .i64 0, .slice none 0 0] 63)) := (Below.refl _ _).alloc (Nat.le_refl _) _
  have bR : Box w.heap.size #[.int .i64 0, .slice none 0 0] 63 (w.alloc (.cells #[.int .i64 0, .slice none 0 0] 63)) w.heap.size := newBox (Nat.le_refl _)
  have H := hide (h.later HB0)
  have HV := hide (Lay.ints_reads (hv.later HB0))
  obtain ⟨ao, cap, rfl⟩ := open_sl h
  obtain ⟨ao2, cap2, rfl⟩ := open_sl hv
  clear h hv
  go_enter Try.func52, Try.ntmps52
  go_wp2_with fail
  generalize w.alloc (.cells #[.int .i64 0, .slice none 0 0] 63) = W0 at *
  by_cases hf : tableFault xs = 0
  · refine (tableFrom_ok _ xs W0 (unhide H) hf).mono ?_
    rintro e w1 ⟨⟨q, rfl, hq, hT⟩, hb⟩
    have hq1 : w.heap.size < q := by have := bR.lt; omega
    replace bR := bR.keep hb
    replace HB0 := HB0.trans (hb.mono HB0.size)
    replace HV := hide ((unhide HV).later hb)
    have z0 : w1.cell? ⟨w.heap.size, 0, none⟩ = some (.int .i64 0) := bR.at 0 _ rfl
    have z1 : w1.cell? ⟨w.heap.size, 1, none⟩ = some (.slice none 0 0) := bR.at 1 _ rfl
    have f0 := bR.soft 0
    have f1 := bR.soft 1
    have l0 := bR.lt
    have HB := hide HB0
    have HT := hide hT
    have HR := hide bR
    clear hb HB0 hT bR H
    go_wp2_with fail
    refine (implId id _).mono ?_
    rintro e w1 ⟨rfl, rfl⟩
    rw [show (decide (1 ≤ id) && decide (id ≤ 999)) = idB id from rfl]
    cases hid : idB id with
    | false =>
      have HG : Hid (putR xs id vec = ⟨3, []⟩) := by
        show putR xs id vec = ⟨3, []⟩
        rw [putR, if_pos hf, hid, if_neg (by simp)]
      clear hid hf
      go_wp2_with fail
      refine bodyPost_ret (v := .agg #[.int .i64 3, .slice none 0 0]) (by simp [results, Try.results52, go_sem, z0, z1]) rfl ?_
      rw [unhide HG]
      exact ⟨[.int .i64 3, .slice none 0 0], rfl, own_codeItems (by decide), ((unhide HB).setCell (by simp) _).setCell (by simp) _⟩
    | true =>
      by_cases hvf : vecFault vec = 0
      · obtain ⟨p, q2, r, hv3⟩ := vec3 hvf
        have I1 := unhide HV
        have I2 : IsInts w1 (.slice ao2 vec.length cap2) [p, q2, r] := by rw [← hv3]; exact I1
        have L := vectorOf_ok _ p q2 r w1 I2 (by rw [← hv3]; exact hvf)
        simp only [arr3] at L
        have HL := hide L
        have HG0 : Hid (putR xs id vec = if roomB xs id then ⟨0, putI xs id vec⟩ else ⟨2, []⟩) := by
          show putR xs id vec = _
          rw [putR, if_pos hf, hid, if_pos rfl, if_pos hvf]
        have HF := hide hf
        have HV3 := hide hv3
        have HVF := hide hvf
        have HID := hide hid
        clear I1 I2 L hf hv3 hvf hid HV
        go_wp2_with fail
        clear z0 z1 f0 f1 l0
        refine (unhide HL).mono ?_
        rintro e w2 ⟨rfl, hb⟩
        have bR := (unhide HR).keep hb
        have hT2 := (unhide HT).later hb
        have hB2 := (unhide HB).trans (hb.mono (unhide HB).size)
        have nb : Below w2.heap.size w2 (w2.alloc (.cells #[.int .i64 p, .int .i64 q2, .int .i64 r] 133)) := (Below.refl _ _).alloc (Nat.le_refl _) _
        have HT2 := hide (hT2.later nb)
        have HB2 := hide (hB2.trans (nb.mono hB2.size))
        have HR2 := hide (bR.keep nb)
        clear bR hT2 hB2 nb HR HT HB HL hb
        cases hro : roomB xs id with
        | true =>
          have HG : Hid (putR xs id vec = ⟨0, putI xs id vec⟩) := by
            show putR xs id vec = _
            rw [unhide HG0, hro, if_pos rfl]
          have L : Hid (Calls Try.prog 94 #[.map (some q), .int .i64 id, .agg #[.int .i64 p, .int .i64 q2, .int .i64 r]] (w2.alloc (.cells #[.int .i64 p, .int .i64 q2, .int .i64 r] 133)) fun e w' => e = .returned (.bool true) ∧ TabAt w' q 31 (putI xs id vec) ∧ Ext (fun c => c = q) (w2.alloc (.cells #[.int .i64 p, .int .i64 q2, .int .i64 r] 133)) w') := by
            show Calls _ _ _ _ _
            rw [unhide HV3]
            cases hh : hasI xs id with
            | true => exact putM_there q 30 xs id p q2 r _ (unhide HT2) (tableFault_zero (unhide HF)).2.2 (by omega) hw hh
            | false =>
              rcases room_true hro with h | h
              · rw [hh] at h; cases h
              · exact putM_new q 30 xs id p q2 r _ (unhide HT2) (by omega) hw hh h
          have HRt := hide (right_put (right_of (unhide HF)) (unhide HID) (unhide HVF) (room_true hro))
          clear hro HG0 HF HV3 HVF HID
          go_wp2_with fail
          refine (unhide L).mono ?_
          generalize w2.alloc (.cells #[.int .i64 p, .int .i64 q2, .int .i64 r] 133) = W3 at *
          rintro e w4 ⟨rfl, hT4, hE4⟩
          have bR := (unhide HR2).ext hE4 (by omega)
          have HB := hide ((unhide HB2).trans (hE4.below (unhide HB2).size (fun c hc e => by omega)))
          have HL := hide (itemsC q 31 (putI xs id vec) w4 hT4 (unhide HRt))
          have HR := hide bR
          clear HT2 HR2 HB2 hT4 hE4 L bR
          go_wp2_with fail
          refine (unhide HL).mono ?_
          rintro e w5 ⟨v9, rfl, hO, hb⟩
          obtain ⟨ao9, cp9, rfl⟩ := open_sl hO.reads
          have bR := (unhide HR).keep hb
          have z0 : w5.cell? ⟨w.heap.size, 0, none⟩ = some (.int .i64 0) := bR.at 0 _ rfl
          have z1 : w5.cell? ⟨w.heap.size, 1, none⟩ = some (.slice none 0 0) := bR.at 1 _ rfl
          have f0 := bR.soft 0
          have f1 := bR.soft 1
          have l0 := bR.lt
          have HB9 := hide ((unhide HB).trans (hb.mono (unhide HB).size))
          have HO9 := hide (hO.mono (lo' := w.heap.size + 1) (by have := (unhide HR).lt; omega) (Nat.le_refl _))
          clear hO hb bR
          go_wp2_with fail
          refine bodyPost_ret (v := .agg #[.int .i64 0, .slice ao9 (putI xs id vec).length cp9]) (by simp [results, Try.results52, go_sem, z0, z1]) rfl ?_
          rw [unhide HG]
          have hE : Ext (fun c => c = w.heap.size) w5 ((w5.setCell ⟨w.heap.size, 0, none⟩ (.int .i64 0)).setCell ⟨w.heap.size, 1, none⟩ (.slice ao9 (putI xs id vec).length cp9)) := ((Ext.refl (fun c => c = w.heap.size) _).setCell ⟨w.heap.size, 0, none⟩ _ rfl).setCell ⟨w.heap.size, 1, none⟩ _ rfl
          refine ⟨[.int .i64 0, .slice ao9 (putI xs id vec).length cp9], rfl, own_items (by decide) ?_, ((unhide HB9).setCell (by simp) _).setCell (by simp) _⟩
          exact ((unhide HO9).ext hE (fun c h1 _ h3 => by omega)).mono (by omega) (by simp)
        | false =>
          have HG : Hid (putR xs id vec = ⟨2, []⟩) := by
            show putR xs id vec = _
            rw [unhide HG0, hro, if_neg (by simp)]
          obtain ⟨r1, r2⟩ := room_false hro
          have L := putM_full q 30 xs id p q2 r _ (unhide HT2) hw r1 r2
          simp only [arr3] at L
          have HL := hide L
          clear hro HG0 HF HV3 HVF HID L r1 r2
          go_wp2_with fail
          refine (unhide HL).mono ?_
          generalize w2.alloc (.cells #[.int .i64 p, .int .i64 q2, .int .i64 r] 133) = W3 at *
          rintro e w4 ⟨rfl, hb⟩
          have bR := (unhide HR2).keep hb
          have z0 : w4.cell? ⟨w.heap.size, 0, none⟩ = some (.int .i64 0) := bR.at 0 _ rfl
          have z1 : w4.cell? ⟨w.heap.size, 1, none⟩ = some (.slice none 0 0) := bR.at 1 _ rfl
          have f0 := bR.soft 0
          have f1 := bR.soft 1
          have l0 := bR.lt
          have HB := hide ((unhide HB2).trans (hb.mono (unhide HB2).size))
          clear HT2 HR2 HB2 hb bR HL
          go_wp2_with fail
          refine bodyPost_ret (v := .agg #[.int .i64 2, .slice none 0 0]) (by simp [results, Try.results52, go_sem, z0, z1]) rfl ?_
          rw [unhide HG]
          exact ⟨[.int .i64 2, .slice none 0 0], rfl, own_codeItems (by decide), ((unhide HB).setCell (by simp) _).setCell (by simp) _⟩
      · have HG : Hid (putR xs id vec = ⟨vecFault vec, []⟩) := by
          show putR xs id vec = _
          rw [putR, if_pos hf, hid, if_pos rfl, if_neg hvf]
        have L := vectorOf_bad _ vec w1 (unhide HV) hvf
        simp only [arr3] at L
        have HL := hide L
        have hd : (vecFault vec != 0) = true := by simpa using hvf
        clear hid hf hvf HV L HT
        go_wp2_with fail
        clear z0 z1 f0 f1 l0
        refine (unhide HL).mono ?_
        rintro e w2 ⟨rfl, hb⟩
        have bR := (unhide HR).keep hb
        have hB2 := (unhide HB).trans (hb.mono (unhide HB).size)
        have HB1 : Hid (∀ u v o, Below w.heap.size w (((w2.setCell ⟨w.heap.size, 0, none⟩ u).setCell ⟨w.heap.size, 1, none⟩ v).alloc o)) := fun u v o => ((hB2.setCell (by simp) u).setCell (by simp) v).alloc (by simpa using hB2.size) o
        have z0 : w2.cell? ⟨w.heap.size, 0, none⟩ = some (.int .i64 0) := bR.at 0 _ rfl
        have z1 : w2.cell? ⟨w.heap.size, 1, none⟩ = some (.slice none 0 0) := bR.at 1 _ rfl
        have f0 := bR.soft 0
        have f1 := bR.soft 1
        have l0 := bR.lt
        have y0 : ∀ u v o, (((w2.setCell ⟨w.heap.size, 0, none⟩ u).setCell ⟨w.heap.size, 1, none⟩ v).alloc o).cell? ⟨w.heap.size, 0, none⟩ = some u := fun u v o => (((bR.set 0 u).set 1 v).grow o).at 0 u rfl
        have y1 : ∀ u v o, (((w2.setCell ⟨w.heap.size, 0, none⟩ u).setCell ⟨w.heap.size, 1, none⟩ v).alloc o).cell? ⟨w.heap.size, 1, none⟩ = some v := fun u v o => (((bR.set 0 u).set 1 v).grow o).at 1 v rfl
        clear hb bR hB2 HR HB HL
        go_wp2_with fail
        refine bodyPost_ret (v := .agg #[.int .i64 (vecFault vec), .slice none 0 0]) (by simp [results, Try.results52, go_sem, y0, y1]) rfl ?_
        rw [unhide HG]
        exact ⟨[.int .i64 (vecFault vec), .slice none 0 0], rfl, own_codeItems (vcode_wf vec), unhide HB1 _ _ _⟩
  · have L := hide (tableFrom_bad _ xs W0 (unhide H) hf)
    have HG : Hid (putR xs id vec = ⟨tableFault xs, []⟩) := by
      show putR xs id vec = ⟨tableFault xs, []⟩
      rw [putR, if_neg hf]
    have hd : (tableFault xs != 0) = true := by simpa using hf
    clear H HV
    refine (unhide L).mono ?_
    rintro e w1 ⟨rfl, hb⟩
    replace bR := bR.keep hb
    have z0 : w1.cell? ⟨w.heap.size, 0, none⟩ = some (.int .i64 0) := bR.at 0 _ rfl
    have z1 : w1.cell? ⟨w.heap.size, 1, none⟩ = some (.slice none 0 0) := bR.at 1 _ rfl
    have f0 := bR.soft 0
    have f1 := bR.soft 1
    have l0 := bR.lt
    have HB := hide (HB0.trans (hb.mono HB0.size))
    clear hb HB0 bR L hf
    go_wp2_with fail
    refine bodyPost_ret (v := .agg #[.int .i64 (tableFault xs), .slice none 0 0]) (by simp [results, Try.results52, go_sem, z0, z1]) rfl ?_
    rw [unhide HG]
    exact ⟨[.int .i64 (tableFault xs), .slice none 0 0], rfl, own_codeItems (code_wf xs), ((unhide HB).setCell (by simp) _).setCell (by simp) _⟩

end Go.Proofs.Ytfgadegpdknocaa

namespace Go.Proofs.Ytfgadegpdknocaa
open Go.RowKit

set_option maxRecDepth 10000 in
set_option maxHeartbeats 1000000 in
theorem implDrop (v : Value) (xs : List DItem) (id : Int) (w : World) (h : (Lay.sl Lay.tItem).Reads w [v] xs) (hw : (Lit.int .i64 id).wf = true) :
    Calls Try.prog 53 #[v, .int .i64 id] w fun e w' => ∃ cs, e = .returned (.agg cs.toArray) ∧ Lay.tTableResult.OwnIn w' cs (dropR xs id) w.heap.size w'.heap.size ∧ Below w.heap.size w w' := by
  have HB0 : Below w.heap.size w (w.alloc (.cells #[.int .i64 0, .slice none 0 0] 63)) := (Below.refl _ _).alloc (Nat.le_refl _) _
  have bR : Box w.heap.size #[.int .i64 0, .slice none 0 0] 63 (w.alloc (.cells #[.int .i64 0, .slice none 0 0] 63)) w.heap.size := newBox (Nat.le_refl _)
  have H := hide (h.later HB0)
  obtain ⟨ao, cap, rfl⟩ := open_sl h
  clear h
  go_enter Try.func53, Try.ntmps53
  go_wp2_with fail
  generalize w.alloc (.cells #[.int .i64 0, .slice none 0 0] 63) = W0 at *
  by_cases hf : tableFault xs = 0
  · refine (tableFrom_ok _ xs W0 (unhide H) hf).mono ?_
    rintro e w1 ⟨⟨q, rfl, hq, hT⟩, hb⟩
    have hq1 : w.heap.size < q := by have := bR.lt; omega
    replace bR := bR.keep hb
    replace HB0 := HB0.trans (hb.mono HB0.size)
    have z0 : w1.cell? ⟨w.heap.size, 0, none⟩ = some (.int .i64 0) := bR.at 0 _ rfl
    have z1 : w1.cell? ⟨w.heap.size, 1, none⟩ = some (.slice none 0 0) := bR.at 1 _ rfl
    have f0 := bR.soft 0
    have f1 := bR.soft 1
    have l0 := bR.lt
    have HB := hide HB0
    have HT := hide hT
    have HR := hide bR
    clear hb HB0 hT bR H
    go_wp2_with fail
    refine (implId id _).mono ?_
    rintro e w1 ⟨rfl, rfl⟩
    rw [show (decide (1 ≤ id) && decide (id ≤ 999)) = idB id from rfl]
    cases hid : idB id with
    | false =>
      have HG : Hid (dropR xs id = ⟨3, []⟩) := by
        show dropR xs id = ⟨3, []⟩
        rw [dropR, if_pos hf, hid, if_neg (by simp)]
      clear hid hf
      go_wp2_with fail
      refine bodyPost_ret (v := .agg #[.int .i64 3, .slice none 0 0]) (by simp [results, Try.results53, go_sem, z0, z1]) rfl ?_
      rw [unhide HG]
      exact ⟨[.int .i64 3, .slice none 0 0], rfl, own_codeItems (by decide), ((unhide HB).setCell (by simp) _).setCell (by simp) _⟩
    | true =>
      have HG : Hid (dropR xs id = ⟨0, dropI xs id⟩) := by
        show dropR xs id = ⟨0, dropI xs id⟩
        rw [dropR, if_pos hf, hid, if_pos rfl]
      have hRt := right_drop (right_of hf) id
      have HRt := hide hRt
      clear hid hf hRt
      go_wp2_with fail
      clear z0 z1 f0 f1 l0
      refine (dropM q 30 xs id _ (unhide HT) hw).mono ?_
      rintro e w2 ⟨rfl, hT2, hE2⟩
      have bR := (unhide HR).ext hE2 (by omega)
      have HB2 := hide ((unhide HB).trans (hE2.below (unhide HB).size (fun c hc e => by omega)))
      have L := itemsC q 30 (dropI xs id) w2 hT2 (unhide HRt)
      have HL := hide L
      clear HT HR HB hT2 hE2 L
      have HR := hide bR
      have HB := HB2
      clear bR HB2
      go_wp2_with fail
      refine (unhide HL).mono ?_
      rintro e w3 ⟨v9, rfl, hO, hb⟩
      obtain ⟨ao9, cp9, rfl⟩ := open_sl hO.reads
      have bR := (unhide HR).keep hb
      have z0 : w3.cell? ⟨w.heap.size, 0, none⟩ = some (.int .i64 0) := bR.at 0 _ rfl
      have z1 : w3.cell? ⟨w.heap.size, 1, none⟩ = some (.slice none 0 0) := bR.at 1 _ rfl
      have f0 := bR.soft 0
      have f1 := bR.soft 1
      have l0 := bR.lt
      have HB9 := hide ((unhide HB).trans (hb.mono (unhide HB).size))
      have HO9 := hide (hO.mono (lo' := w.heap.size + 1) (by have := (unhide HR).lt; omega) (Nat.le_refl _))
      clear hO hb bR
      go_wp2_with fail
      refine bodyPost_ret (v := .agg #[.int .i64 0, .slice ao9 (dropI xs id).length cp9]) (by simp [results, Try.results53, go_sem, z0, z1]) rfl ?_
      rw [unhide HG]
      have hE : Ext (fun c => c = w.heap.size) w3 ((w3.setCell ⟨w.heap.size, 0, none⟩ (.int .i64 0)).setCell ⟨w.heap.size, 1, none⟩ (.slice ao9 (dropI xs id).length cp9)) := ((Ext.refl (fun c => c = w.heap.size) _).setCell ⟨w.heap.size, 0, none⟩ _ rfl).setCell ⟨w.heap.size, 1, none⟩ _ rfl
      refine ⟨[.int .i64 0, .slice ao9 (dropI xs id).length cp9], rfl, own_items (by decide) ?_, ((unhide HB9).setCell (by simp) _).setCell (by simp) _⟩
      exact ((unhide HO9).ext hE (fun c h1 _ h3 => by omega)).mono (by omega) (by simp)
  · have L := hide (tableFrom_bad _ xs W0 (unhide H) hf)
    have HG : Hid (dropR xs id = ⟨tableFault xs, []⟩) := by
      show dropR xs id = ⟨tableFault xs, []⟩
      rw [dropR, if_neg hf]
    have hd : (tableFault xs != 0) = true := by simpa using hf
    clear H
    refine (unhide L).mono ?_
    rintro e w1 ⟨rfl, hb⟩
    replace bR := bR.keep hb
    have z0 : w1.cell? ⟨w.heap.size, 0, none⟩ = some (.int .i64 0) := bR.at 0 _ rfl
    have z1 : w1.cell? ⟨w.heap.size, 1, none⟩ = some (.slice none 0 0) := bR.at 1 _ rfl
    have f0 := bR.soft 0
    have f1 := bR.soft 1
    have l0 := bR.lt
    have HB := hide (HB0.trans (hb.mono HB0.size))
    clear hb HB0 bR L hf
    go_wp2_with fail
    refine bodyPost_ret (v := .agg #[.int .i64 (tableFault xs), .slice none 0 0]) (by simp [results, Try.results53, go_sem, z0, z1]) rfl ?_
    rw [unhide HG]
    exact ⟨[.int .i64 (tableFault xs), .slice none 0 0], rfl, own_codeItems (code_wf xs), ((unhide HB).setCell (by simp) _).setCell (by simp) _⟩

end Go.Proofs.Ytfgadegpdknocaa

namespace Go.Proofs.Ytfgadegpdknocaa
open Go.RowKit

theorem fieldQ0 (c : Int) (a : Option Addr) (n cp : Nat) (a2 : Option Addr) (n2 cp2 : Nat) (w : World) : (Instr.field 39 (.agg #[.int .i64 c, .slice a n cp, .slice a2 n2 cp2]) 0).run Try.prog w = .ok (.int .i64 c) w := by kernel_rfl
theorem fieldTR1 (c : Int) (a : Option Addr) (n cp : Nat) (w : World) : (Instr.field 63 (.agg #[.int .i64 c, .slice a n cp]) 1).run Try.prog w = .ok (.slice a n cp) w := by kernel_rfl
theorem sameIs_self (xs : List DItem) : sameIs xs xs = true := sameIs_all rfl fun _ _ _ => sameIs_refl_self _

theorem lawAdds_many (ao : Option Addr) (len cap : Nat) (w : World) (hn : 1048576 < len) :
    Calls Try.prog 8 #[.slice ao len cap] w fun e w' => e = .returned (.bool true) ∧ Below w.heap.size w w' := by
  go_enter Try.func8, Try.ntmps8
  go_wp2_with fail
  refine (big_yes ao len cap w hn).mono ?_
  rintro e w' ⟨rfl, rfl⟩
  go_wp2_with fail
  go_ret
  exact ⟨rfl, Below.refl _ _⟩

set_option maxRecDepth 100000 in
set_option maxHeartbeats 8000000 in
theorem lawAdds_few (ao : Option Addr) (len cap : Nat) (w : World) (hn : len ≤ 1048576) (hcode : IsCode w.heap.size w (.slice ao len cap)) :
    Calls Try.prog 8 #[.slice ao len cap] w fun e w' => e = .returned (.bool true) ∧ Below w.heap.size w w' := by
  have HC := hide hcode
  clear hcode
  go_enter Try.func8, Try.ntmps8
  go_wp2_with fail
  refine (big_no ao len cap w hn).mono ?_
  rintro e w ⟨rfl, rfl⟩
  go_wp2_with fail
  refine (draw_DrawAddIvf ao len cap w (unhide HC)).mono ?_
  rintro e w1 ⟨rc, rl, x, id, vv, vec, rfl, hX, hid, hV, hvl, hb1⟩
  obtain ⟨a8, c8, a9, c9, ef, -, -⟩ := open_Ivf hX
  obtain ⟨rfl, rfl⟩ : rc = .slice a8 x.centers.length c8 ∧ rl = .slice a9 x.lists.length c9 := by simpa using ef
  obtain ⟨av, dv, rfl⟩ := open_sl hV
  have hwi : (Lit.int .i64 id).wf = true := wf_of_bd (by omega)
  clear ef
  have nb1 : Below w1.heap.size w1 (w1.alloc (.cells #[.slice a8 x.centers.length c8, .slice a9 x.lists.length c9] 31)) := (Below.refl _ _).alloc (Nat.le_refl _) _
  have x3 : Box 0 #[.slice a8 x.centers.length c8, .slice a9 x.lists.length c9] 31 (w1.alloc (.cells #[.slice a8 x.centers.length c8, .slice a9 x.lists.length c9] 31)) w1.heap.size := newBox (Nat.zero_le _)
  have z0 : (w1.alloc (.cells #[.slice a8 x.centers.length c8, .slice a9 x.lists.length c9] 31)).cell? ⟨w1.heap.size, 0, none⟩ = some (.slice a8 x.centers.length c8) := x3.at 0 _ rfl
  have z1 : (w1.alloc (.cells #[.slice a8 x.centers.length c8, .slice a9 x.lists.length c9] 31)).cell? ⟨w1.heap.size, 1, none⟩ = some (.slice a9 x.lists.length c9) := x3.at 1 _ rfl
  have HX3 := hide x3
  have HRX := hide (hX.later nb1)
  have HRV := hide (hV.later nb1)
  have HB := hide (hb1.trans (nb1.mono hb1.size))
  have L2 := hide (implAddIvf _ x id _ vec _ (unhide HRX) hwi (unhide HRV))
  have HWI := hide hwi
  clear hX hV hb1 nb1 x3 HC hid hvl hwi
  go_wp2_with fail
  generalize w1.alloc (.cells #[.slice a8 x.centers.length c8, .slice a9 x.lists.length c9] 31) = W1 at *
  clear z0 z1
  refine (unhide L2).mono ?_
  rintro e w2 ⟨cs, rfl, O, hb2⟩
  obtain ⟨a1, d1, a2, d2, rfl, R2⟩ := open_IvfResult O.reads
  clear O
  by_cases hf : (addIvfR x id vec).code = 0
  · obtain ⟨y, A, Y, D, e, had⟩ : ∃ y A Y D, addIvfR x id vec = ⟨0, y⟩ ∧ Added x id vec y A Y D := ⟨_, _, _, _, added hf⟩
    obtain ⟨dI, hd1, hd2, hd3⟩ : ∃ dI, dropIvfR y id = ⟨0, dI⟩ ∧ ivfFault dI = 0 ∧ itemsIvfR dI = ⟨0, D⟩ := ⟨_, had.drop, had.dfault, had.ditems⟩
    rw [e] at R2 ⊢
    simp only at R2 ⊢
    clear e hf
    have nb2 : Below w2.heap.size w2 (w2.alloc (.cells #[.int .i64 0, .slice a1 y.centers.length d1, .slice a2 y.lists.length d2] 39)) := (Below.refl _ _).alloc (Nat.le_refl _) _
    have x2 : Box 0 #[.int .i64 0, .slice a1 y.centers.length d1, .slice a2 y.lists.length d2] 39 (w2.alloc (.cells #[.int .i64 0, .slice a1 y.centers.length d1, .slice a2 y.lists.length d2] 39)) w2.heap.size := newBox (Nat.zero_le _)
    replace HX3 := hide (((unhide HX3).keep hb2).keep nb2)
    replace HRX := hide (((unhide HRX).later hb2).later nb2)
    replace HRV := hide (((unhide HRV).later hb2).later nb2)
    have HB2 := hide x2
    have HR2 := hide (R2.later nb2)
    replace HB := hide (((unhide HB).trans (hb2.mono (unhide HB).size)).trans (nb2.mono (Nat.le_trans (unhide HB).size hb2.size)))
    clear R2 nb2 x2 hb2 L2
    have z9 : (w2.alloc (.cells #[.int .i64 0, .slice a1 y.centers.length d1, .slice a2 y.lists.length d2] 39)).cell? ⟨w2.heap.size, 0, none⟩ = some (.int .i64 0) := (unhide HB2).at 0 _ rfl
    have z0 : (w2.alloc (.cells #[.int .i64 0, .slice a1 y.centers.length d1, .slice a2 y.lists.length d2] 39)).cell? ⟨w1.heap.size, 0, none⟩ = some (.slice a8 x.centers.length c8) := (unhide HX3).at 0 _ rfl
    have z1 : (w2.alloc (.cells #[.int .i64 0, .slice a1 y.centers.length d1, .slice a2 y.lists.length d2] 39)).cell? ⟨w1.heap.size, 1, none⟩ = some (.slice a9 x.lists.length c9) := (unhide HX3).at 1 _ rfl
    have L3 := hide (implItemsIvf _ x _ (unhide HRX))
    rw [had.was] at L3
    go_wp2_with fail
    generalize w2.alloc (.cells #[.int .i64 0, .slice a1 y.centers.length d1, .slice a2 y.lists.length d2] 39) = W2 at *
    clear z0 z1
    refine (unhide L3).mono ?_
    rintro e w3 ⟨cs, rfl, O, hb3⟩
    obtain ⟨a3, d3, rfl, R3⟩ := open_TableResult O.reads
    simp only at R3 ⊢
    clear O
    clear z9
    have nb3 : Below w3.heap.size w3 (w3.alloc (.cells #[.int .i64 0, .slice a3 A.length d3] 63)) := (Below.refl _ _).alloc (Nat.le_refl _) _
    have x3 : Box 0 #[.int .i64 0, .slice a3 A.length d3] 63 (w3.alloc (.cells #[.int .i64 0, .slice a3 A.length d3] 63)) w3.heap.size := newBox (Nat.zero_le _)
    replace HX3 := hide (((unhide HX3).keep hb3).keep nb3)
    replace HB2 := hide (((unhide HB2).keep hb3).keep nb3)
    replace HRX := hide (((unhide HRX).later hb3).later nb3)
    replace HRV := hide (((unhide HRV).later hb3).later nb3)
    replace HR2 := hide (((unhide HR2).later hb3).later nb3)
    have HB3 := hide x3
    have HR3 := hide (R3.later nb3)
    replace HB := hide (((unhide HB).trans (hb3.mono (unhide HB).size)).trans (nb3.mono (Nat.le_trans (unhide HB).size hb3.size)))
    clear R3 nb3 x3 hb3 L3
    have z0 : (w3.alloc (.cells #[.int .i64 0, .slice a3 A.length d3] 63)).cell? ⟨w2.heap.size, 1, none⟩ = some (.slice a1 y.centers.length d1) := (unhide HB2).at 1 _ rfl
    have z1 : (w3.alloc (.cells #[.int .i64 0, .slice a3 A.length d3] 63)).cell? ⟨w2.heap.size, 2, none⟩ = some (.slice a2 y.lists.length d2) := (unhide HB2).at 2 _ rfl
    have L4 := hide (implItemsIvf _ y _ (unhide HR2))
    rw [had.now] at L4
    go_wp2_with fail
    generalize w3.alloc (.cells #[.int .i64 0, .slice a3 A.length d3] 63) = W3 at *
    clear z0 z1
    refine (unhide L4).mono ?_
    rintro e w4 ⟨cs, rfl, O, hb4⟩
    obtain ⟨a4, d4, rfl, R4⟩ := open_TableResult O.reads
    simp only at R4 ⊢
    clear O
    have nb4 : Below w4.heap.size w4 (w4.alloc (.cells #[.int .i64 0, .slice a4 Y.length d4] 63)) := (Below.refl _ _).alloc (Nat.le_refl _) _
    have x4 : Box 0 #[.int .i64 0, .slice a4 Y.length d4] 63 (w4.alloc (.cells #[.int .i64 0, .slice a4 Y.length d4] 63)) w4.heap.size := newBox (Nat.zero_le _)
    replace HX3 := hide (((unhide HX3).keep hb4).keep nb4)
    replace HB2 := hide (((unhide HB2).keep hb4).keep nb4)
    replace HB3 := hide (((unhide HB3).keep hb4).keep nb4)
    replace HRX := hide (((unhide HRX).later hb4).later nb4)
    replace HRV := hide (((unhide HRV).later hb4).later nb4)
    replace HR2 := hide (((unhide HR2).later hb4).later nb4)
    replace HR3 := hide (((unhide HR3).later hb4).later nb4)
    have HB4 := hide x4
    have HR4 := hide (R4.later nb4)
    replace HB := hide (((unhide HB).trans (hb4.mono (unhide HB).size)).trans (nb4.mono (Nat.le_trans (unhide HB).size hb4.size)))
    clear R4 nb4 x4 hb4 L4
    obtain ⟨_, _, _, _, efX, RXc, -⟩ := open_Ivf (unhide HRX)
    have RXC : (Lay.sl Lay.tCenter).Reads (w4.alloc (.cells #[.int .i64 0, .slice a4 Y.length d4] 63)) [.slice a8 x.centers.length c8] x.centers := by
      simp only [List.cons.injEq, Value.slice.injEq, true_and, and_true] at efX
      obtain ⟨⟨rfl, rfl⟩, rfl, rfl⟩ := efX
      exact RXc
    have z0 : (w4.alloc (.cells #[.int .i64 0, .slice a4 Y.length d4] 63)).cell? ⟨w1.heap.size, 0, none⟩ = some (.slice a8 x.centers.length c8) := (unhide HX3).at 0 _ rfl
    have z1 : (w4.alloc (.cells #[.int .i64 0, .slice a4 Y.length d4] 63)).cell? ⟨w4.heap.size, 1, none⟩ = some (.slice a4 Y.length d4) := (unhide HB4).at 1 _ rfl
    have L5 := hide (implBuildIvf _ x.centers _ Y _ RXC (unhide HR4))
    rw [had.build] at L5
    go_wp2_with fail
    generalize w4.alloc (.cells #[.int .i64 0, .slice a4 Y.length d4] 63) = W4 at *
    clear z0 z1
    refine (unhide L5).mono ?_
    rintro e w5 ⟨cs, rfl, O, hb5⟩
    obtain ⟨a5, d5, a6, d6, rfl, R5⟩ := open_IvfResult O.reads
    simp only at R5 ⊢
    clear O
    clear RXC RXc efX
    have nb5 : Below w5.heap.size w5 (w5.alloc (.cells #[.int .i64 0, .slice a5 y.centers.length d5, .slice a6 y.lists.length d6] 39)) := (Below.refl _ _).alloc (Nat.le_refl _) _
    have x5 : Box 0 #[.int .i64 0, .slice a5 y.centers.length d5, .slice a6 y.lists.length d6] 39 (w5.alloc (.cells #[.int .i64 0, .slice a5 y.centers.length d5, .slice a6 y.lists.length d6] 39)) w5.heap.size := newBox (Nat.zero_le _)
    replace HX3 := hide (((unhide HX3).keep hb5).keep nb5)
    replace HB2 := hide (((unhide HB2).keep hb5).keep nb5)
    replace HB3 := hide (((unhide HB3).keep hb5).keep nb5)
    replace HB4 := hide (((unhide HB4).keep hb5).keep nb5)
    replace HRX := hide (((unhide HRX).later hb5).later nb5)
    replace HRV := hide (((unhide HRV).later hb5).later nb5)
    replace HR2 := hide (((unhide HR2).later hb5).later nb5)
    replace HR3 := hide (((unhide HR3).later hb5).later nb5)
    replace HR4 := hide (((unhide HR4).later hb5).later nb5)
    have HB5 := hide x5
    have HR5 := hide (R5.later nb5)
    replace HB := hide (((unhide HB).trans (hb5.mono (unhide HB).size)).trans (nb5.mono (Nat.le_trans (unhide HB).size hb5.size)))
    clear R5 nb5 x5 hb5 L5
    have z0 : (w5.alloc (.cells #[.int .i64 0, .slice a5 y.centers.length d5, .slice a6 y.lists.length d6] 39)).cell? ⟨w2.heap.size, 1, none⟩ = some (.slice a1 y.centers.length d1) := (unhide HB2).at 1 _ rfl
    have z1 : (w5.alloc (.cells #[.int .i64 0, .slice a5 y.centers.length d5, .slice a6 y.lists.length d6] 39)).cell? ⟨w2.heap.size, 2, none⟩ = some (.slice a2 y.lists.length d2) := (unhide HB2).at 2 _ rfl
    have L6 := hide (implDropIvf _ y id _ (unhide HR2) (unhide HWI))
    rw [hd1] at L6
    go_wp2_with fail
    generalize w5.alloc (.cells #[.int .i64 0, .slice a5 y.centers.length d5, .slice a6 y.lists.length d6] 39) = W5 at *
    clear z0 z1
    refine (unhide L6).mono ?_
    rintro e w6 ⟨cs, rfl, O, hb6⟩
    obtain ⟨a10, d10, a11, d11, rfl, R6⟩ := open_IvfResult O.reads
    simp only at R6 ⊢
    clear O
    have nb6 : Below w6.heap.size w6 (w6.alloc (.cells #[.int .i64 0, .slice a10 dI.centers.length d10, .slice a11 dI.lists.length d11] 39)) := (Below.refl _ _).alloc (Nat.le_refl _) _
    have x6 : Box 0 #[.int .i64 0, .slice a10 dI.centers.length d10, .slice a11 dI.lists.length d11] 39 (w6.alloc (.cells #[.int .i64 0, .slice a10 dI.centers.length d10, .slice a11 dI.lists.length d11] 39)) w6.heap.size := newBox (Nat.zero_le _)
    replace HX3 := hide (((unhide HX3).keep hb6).keep nb6)
    replace HB2 := hide (((unhide HB2).keep hb6).keep nb6)
    replace HB3 := hide (((unhide HB3).keep hb6).keep nb6)
    replace HB4 := hide (((unhide HB4).keep hb6).keep nb6)
    replace HB5 := hide (((unhide HB5).keep hb6).keep nb6)
    replace HRX := hide (((unhide HRX).later hb6).later nb6)
    replace HRV := hide (((unhide HRV).later hb6).later nb6)
    replace HR2 := hide (((unhide HR2).later hb6).later nb6)
    replace HR3 := hide (((unhide HR3).later hb6).later nb6)
    replace HR4 := hide (((unhide HR4).later hb6).later nb6)
    replace HR5 := hide (((unhide HR5).later hb6).later nb6)
    have HB6 := hide x6
    have HR6 := hide (R6.later nb6)
    replace HB := hide (((unhide HB).trans (hb6.mono (unhide HB).size)).trans (nb6.mono (Nat.le_trans (unhide HB).size hb6.size)))
    clear R6 nb6 x6 hb6 L6
    go_wp2_with fail
    generalize w6.alloc (.cells #[.int .i64 0, .slice a10 dI.centers.length d10, .slice a11 dI.lists.length d11] 39) = wz at *
    have KEEP : Hid (∀ W, Below wz.heap.size wz W → W.cell? ⟨w2.heap.size, 1, none⟩ = some (.slice a1 y.centers.length d1) ∧ W.cell? ⟨w2.heap.size, 2, none⟩ = some (.slice a2 y.lists.length d2) ∧ W.cell? ⟨w3.heap.size, 0, none⟩ = some (.int .i64 0) ∧ W.cell? ⟨w3.heap.size, 1, none⟩ = some (.slice a3 A.length d3) ∧ W.cell? ⟨w4.heap.size, 1, none⟩ = some (.slice a4 Y.length d4) ∧ W.cell? ⟨w5.heap.size, 0, none⟩ = some (.int .i64 0) ∧ W.cell? ⟨w5.heap.size, 1, none⟩ = some (.slice a5 y.centers.length d5) ∧ W.cell? ⟨w5.heap.size, 2, none⟩ = some (.slice a6 y.lists.length d6) ∧ W.cell? ⟨w6.heap.size, 0, none⟩ = some (.int .i64 0) ∧ W.cell? ⟨w6.heap.size, 1, none⟩ = some (.slice a10 dI.centers.length d10) ∧ W.cell? ⟨w6.heap.size, 2, none⟩ = some (.slice a11 dI.lists.length d11)) := fun W hW =>
      ⟨((unhide HB2).keep hW).at 1 _ rfl, ((unhide HB2).keep hW).at 2 _ rfl, ((unhide HB3).keep hW).at 0 _ rfl, ((unhide HB3).keep hW).at 1 _ rfl, ((unhide HB4).keep hW).at 1 _ rfl, ((unhide HB5).keep hW).at 0 _ rfl, ((unhide HB5).keep hW).at 1 _ rfl, ((unhide HB5).keep hW).at 2 _ rfl, ((unhide HB6).keep hW).at 0 _ rfl, ((unhide HB6).keep hW).at 1 _ rfl, ((unhide HB6).keep hW).at 2 _ rfl⟩
    have LF1 : Hid (∀ W, Below wz.heap.size wz W → Calls Try.prog 12 #[.agg #[.slice a1 y.centers.length d1, .slice a2 y.lists.length d2]] W fun e w' => e = .returned (.int .i64 0) ∧ Below W.heap.size W w') := fun W hW => by
      have h9 := implIvfF _ y W ((unhide HR2).later hW)
      rwa [had.fault] at h9
    have LF2 : Hid (∀ W, Below wz.heap.size wz W → Calls Try.prog 12 #[.agg #[.slice a10 dI.centers.length d10, .slice a11 dI.lists.length d11]] W fun e w' => e = .returned (.int .i64 0) ∧ Below W.heap.size W w') := fun W hW => by
      have h9 := implIvfF _ dI W ((unhide HR6).later hW)
      rwa [hd2] at h9
    have LP : Hid (∀ W, Below wz.heap.size wz W → Calls Try.prog 52 #[.slice a3 A.length d3, .int .i64 id, .slice av vec.length dv] W fun e w' => ∃ (a : Option Addr) (cp : Nat), e = .returned (.agg #[.int .i64 0, .slice a Y.length cp]) ∧ (Lay.sl Lay.tItem).Reads w' [.slice a Y.length cp] Y ∧ Below W.heap.size W w') := fun W hW => by
      refine (implPut _ A id _ vec W ((unhide HR3).later hW) (unhide HWI) ((unhide HRV).later hW)).mono ?_
      rintro e w' ⟨cs, rfl, O, hb⟩
      rw [had.put] at O
      obtain ⟨a, cp, rfl, R⟩ := open_TableResult O.reads
      exact ⟨a, cp, rfl, R, hb⟩
    have LI1 : Hid (∀ W, Below wz.heap.size wz W → Calls Try.prog 37 #[.agg #[.slice a5 y.centers.length d5, .slice a6 y.lists.length d6]] W fun e w' => ∃ (a : Option Addr) (cp : Nat), e = .returned (.agg #[.int .i64 0, .slice a Y.length cp]) ∧ (Lay.sl Lay.tItem).Reads w' [.slice a Y.length cp] Y ∧ Below W.heap.size W w') := fun W hW => by
      refine (implItemsIvf _ y W ((unhide HR5).later hW)).mono ?_
      rintro e w' ⟨cs, rfl, O, hb⟩
      rw [had.now] at O
      obtain ⟨a, cp, rfl, R⟩ := open_TableResult O.reads
      exact ⟨a, cp, rfl, R, hb⟩
    have LI2 : Hid (∀ W, Below wz.heap.size wz W → Calls Try.prog 37 #[.agg #[.slice a10 dI.centers.length d10, .slice a11 dI.lists.length d11]] W fun e w' => ∃ (a : Option Addr) (cp : Nat), e = .returned (.agg #[.int .i64 0, .slice a D.length cp]) ∧ (Lay.sl Lay.tItem).Reads w' [.slice a D.length cp] D ∧ Below W.heap.size W w') := fun W hW => by
      refine (implItemsIvf _ dI W ((unhide HR6).later hW)).mono ?_
      rintro e w' ⟨cs, rfl, O, hb⟩
      rw [hd3] at O
      obtain ⟨a, cp, rfl, R⟩ := open_TableResult O.reads
      exact ⟨a, cp, rfl, R, hb⟩
    have LD : Hid (∀ W, Below wz.heap.size wz W → Calls Try.prog 53 #[.slice a3 A.length d3, .int .i64 id] W fun e w' => ∃ (a : Option Addr) (cp : Nat), e = .returned (.agg #[.int .i64 0, .slice a D.length cp]) ∧ (Lay.sl Lay.tItem).Reads w' [.slice a D.length cp] D ∧ Below W.heap.size W w') := fun W hW => by
      refine (implDrop _ A id W ((unhide HR3).later hW) (unhide HWI)).mono ?_
      rintro e w' ⟨cs, rfl, O, hb⟩
      rw [had.dropped] at O
      obtain ⟨a, cp, rfl, R⟩ := open_TableResult O.reads
      exact ⟨a, cp, rfl, R, hb⟩
    have LS : Hid (∀ W (u v : Value) (zs : List DItem), (Lay.sl Lay.tItem).Reads W [u] zs → (Lay.sl Lay.tItem).Reads W [v] zs → Calls Try.prog 51 #[u, v] W fun e w' => e = .returned (.bool true) ∧ Below W.heap.size W w') := fun W u v zs h1 h2 => by
      have h9 := implSameT u v zs zs W h1 h2
      rwa [sameIs_self] at h9
    have HRY : Hid (∀ W, Below wz.heap.size wz W → (Lay.sl Lay.tItem).Reads W [.slice a4 Y.length d4] Y) := fun W hW => (unhide HR4).later hW
    have hf1 := fun a n cp => fieldTR1 0 a n cp
    have e0 : ((0 : Int) == 0) = true := by decide
    clear had hd1 hd2 hd3 HX3 HB2 HB3 HB4 HB5 HB6 HRX HR2 HR3 HR4 HR5 HR6 HRV
    refine wp_region_noPanic ?_
    refine wp_region_held_drew (S := fun w' => Below wz.heap.size wz w') (by kernel_rfl) (Below.refl _ _).drew (fun hHeld => ?_)
    generalize wz.drew = wD at hHeld ⊢
    refine wpAnyH_take (i := 0) (oi := { dst := some 48, op := Go.Op.fieldAddr 39 (Go.Operand.tmp 6) 1, type := 0, pos := "laws.go:350", after := #[], guard := none }) (v := ?vf0_1) rfl (by kernel_rfl) (by kernel_rfl) (by kernel_rfl) (fun _ _ _ h => h) (Or.inl ⟨by rfl, ?hf0_1⟩) hHeld ?rf0_1
    case hf0_1 =>
      intro wS hSw
      (try dsimp only at hSw)
      go_simp
      try with_reducible rfl
    case rf0_1 =>
    simp only [Act.put, List.setIfInBounds_toArray, List.set_cons_zero, List.set_cons_succ]
    refine wpAnyH_take (i := 1) (oi := { dst := some 49, op := Go.Op.load 31 (Go.Operand.tmp 48), type := 31, pos := "laws.go:350", after := #[{ on := 0, ground := Go.Ground.data }], guard := none }) (v := ?vf1_2) rfl (by kernel_rfl) (by kernel_rfl) (by kernel_rfl) (fun _ _ _ h => h) (Or.inl ⟨by rfl, ?hf1_2⟩) hHeld ?rf1_2
    case hf1_2 =>
      intro wS hSw
      obtain ⟨y0, y1, y2, y3, y4, y5, y6, y7, y8, y9, y10⟩ := unhide KEEP _ hSw
      clear hSw
      (try dsimp only at hSw)
      go_simp
      try with_reducible rfl
    case rf1_2 =>
    simp only [Act.put, List.setIfInBounds_toArray, List.set_cons_zero, List.set_cons_succ]
    refine wpAnyH_ready (rs := [2]) (by kernel_rfl) (by simp) ?_
    refine AllReadyH.cons (o := { dst := some 50, op := Go.Op.call { callee := Go.Callee.value (Go.Operand.func 12), args := #[Go.Operand.tmp 49], argTypes := #[31] }, type := 2, pos := "laws.go:350", after := #[{ on := 1, ground := Go.Ground.data }], guard := none }) rfl (fun K hK => ?_) AllReadyH.nil
    go_simp
    go_at_call 12
    refine (unhide LF1 _ hHeld).mono ?_
    rintro e v1 ⟨rfl, hbw⟩
    try go_wp2_with fail
    refine hK.out _ _ (hHeld.trans (hbw.mono hHeld.size)) (fun hHeld => ?_)
    clear hK K
    try simp only [Act.put, List.setIfInBounds_toArray, List.set_cons_zero, List.set_cons_succ]
    refine wpAnyH_take (i := 3) (oi := { dst := some 51, op := Go.Op.binOp Go.BinOp.eql 2 (Go.Operand.tmp 50) (Go.Operand.const (Go.Value.int Go.IntKind.i64 0)) 2, type := 4, pos := "laws.go:350", after := #[{ on := 2, ground := Go.Ground.data }], guard := none }) (v := ?vf3_3) rfl (by kernel_rfl) (by kernel_rfl) (by kernel_rfl) (fun _ _ _ h => h) (Or.inl ⟨by rfl, ?hf3_3⟩) hHeld ?rf3_3
    case hf3_3 =>
      intro wS hSw
      (try dsimp only at hSw)
      go_simp
      try with_reducible rfl
    case rf3_3 =>
    simp only [Act.put, List.setIfInBounds_toArray, List.set_cons_zero, List.set_cons_succ]
    refine wpAnyH_take (i := 4) (oi := { dst := some 52, op := Go.Op.move (Go.Operand.tmp 51), type := 4, pos := "laws.go:350", after := #[{ on := 3, ground := Go.Ground.data }, { on := 2, ground := Go.Ground.chain }], guard := none }) (v := ?vf4_4) rfl (by kernel_rfl) (by kernel_rfl) (by kernel_rfl) (fun _ _ _ h => h) (Or.inl ⟨by rfl, ?hf4_4⟩) hHeld ?rf4_4
    case hf4_4 =>
      intro wS hSw
      (try dsimp only at hSw)
      go_simp
      try with_reducible rfl
    case rf4_4 =>
    simp only [Act.put, List.setIfInBounds_toArray, List.set_cons_zero, List.set_cons_succ]
    refine wpAnyH_take (i := 5) (oi := { dst := some 53, op := Go.Op.fieldAddr 63 (Go.Operand.tmp 7) 0, type := 0, pos := "laws.go:350", after := #[{ on := 4, ground := Go.Ground.guard }], guard := some (4, true) }) (v := ?vf5_5) rfl (by kernel_rfl) (by kernel_rfl) (by kernel_rfl) (fun _ _ _ h => h) (Or.inl ⟨by rfl, ?hf5_5⟩) hHeld ?rf5_5
    case hf5_5 =>
      intro wS hSw
      (try dsimp only at hSw)
      go_simp
      try with_reducible rfl
    case rf5_5 =>
    simp only [Act.put, List.setIfInBounds_toArray, List.set_cons_zero, List.set_cons_succ]
    refine wpAnyH_take (i := 6) (oi := { dst := some 54, op := Go.Op.load 2 (Go.Operand.tmp 53), type := 2, pos := "laws.go:350", after := #[{ on := 5, ground := Go.Ground.data }, { on := 4, ground := Go.Ground.guard }], guard := some (4, true) }) (v := ?vf6_6) rfl (by kernel_rfl) (by kernel_rfl) (by kernel_rfl) (fun _ _ _ h => h) (Or.inl ⟨by rfl, ?hf6_6⟩) hHeld ?rf6_6
    case hf6_6 =>
      intro wS hSw
      obtain ⟨y0, y1, y2, y3, y4, y5, y6, y7, y8, y9, y10⟩ := unhide KEEP _ hSw
      clear hSw
      (try dsimp only at hSw)
      go_simp
      try with_reducible rfl
    case rf6_6 =>
    simp only [Act.put, List.setIfInBounds_toArray, List.set_cons_zero, List.set_cons_succ]
    refine wpAnyH_take (i := 7) (oi := { dst := some 55, op := Go.Op.binOp Go.BinOp.eql 2 (Go.Operand.tmp 54) (Go.Operand.const (Go.Value.int Go.IntKind.i64 0)) 2, type := 4, pos := "laws.go:350", after := #[{ on := 6, ground := Go.Ground.data }, { on := 4, ground := Go.Ground.guard }], guard := some (4, true) }) (v := ?vf7_7) rfl (by kernel_rfl) (by kernel_rfl) (by kernel_rfl) (fun _ _ _ h => h) (Or.inl ⟨by rfl, ?hf7_7⟩) hHeld ?rf7_7
    case hf7_7 =>
      intro wS hSw
      (try dsimp only at hSw)
      go_simp
      try with_reducible rfl
    case rf7_7 =>
    simp only [Act.put, List.setIfInBounds_toArray, List.set_cons_zero, List.set_cons_succ]
    refine wpAnyH_take (i := 8) (oi := { dst := some 56, op := Go.Op.pick (Go.Operand.tmp 52) (Go.Operand.tmp 55) (Go.Operand.const (Go.Value.bool false)), type := 4, pos := "laws.go:350", after := #[{ on := 4, ground := Go.Ground.data }, { on := 7, ground := Go.Ground.data }], guard := none }) (v := ?vf8_8) rfl (by kernel_rfl) (by kernel_rfl) (by kernel_rfl) (fun _ _ _ h => h) (Or.inl ⟨by rfl, ?hf8_8⟩) hHeld ?rf8_8
    case hf8_8 =>
      intro wS hSw
      (try dsimp only at hSw)
      go_simp
      try with_reducible rfl
    case rf8_8 =>
    simp only [Act.put, List.setIfInBounds_toArray, List.set_cons_zero, List.set_cons_succ]
    refine wpAnyH_take (i := 9) (oi := { dst := some 57, op := Go.Op.move (Go.Operand.tmp 56), type := 4, pos := "laws.go:350", after := #[{ on := 8, ground := Go.Ground.data }, { on := 4, ground := Go.Ground.chain }], guard := none }) (v := ?vf9_9) rfl (by kernel_rfl) (by kernel_rfl) (by kernel_rfl) (fun _ _ _ h => h) (Or.inl ⟨by rfl, ?hf9_9⟩) hHeld ?rf9_9
    case hf9_9 =>
      intro wS hSw
      (try dsimp only at hSw)
      go_simp
      try with_reducible rfl
    case rf9_9 =>
    simp only [Act.put, List.setIfInBounds_toArray, List.set_cons_zero, List.set_cons_succ]
    refine wpAnyH_take (i := 10) (oi := { dst := some 58, op := Go.Op.fieldAddr 63 (Go.Operand.tmp 8) 1, type := 0, pos := "laws.go:350", after := #[{ on := 9, ground := Go.Ground.guard }], guard := some (9, true) }) (v := ?vf10_10) rfl (by kernel_rfl) (by kernel_rfl) (by kernel_rfl) (fun _ _ _ h => h) (Or.inl ⟨by rfl, ?hf10_10⟩) hHeld ?rf10_10
    case hf10_10 =>
      intro wS hSw
      (try dsimp only at hSw)
      go_simp
      try with_reducible rfl
    case rf10_10 =>
    simp only [Act.put, List.setIfInBounds_toArray, List.set_cons_zero, List.set_cons_succ]
    refine wpAnyH_take (i := 11) (oi := { dst := some 59, op := Go.Op.load 42 (Go.Operand.tmp 58), type := 42, pos := "laws.go:350", after := #[{ on := 10, ground := Go.Ground.data }, { on := 9, ground := Go.Ground.guard }], guard := some (9, true) }) (v := ?vf11_11) rfl (by kernel_rfl) (by kernel_rfl) (by kernel_rfl) (fun _ _ _ h => h) (Or.inl ⟨by rfl, ?hf11_11⟩) hHeld ?rf11_11
    case hf11_11 =>
      intro wS hSw
      obtain ⟨y0, y1, y2, y3, y4, y5, y6, y7, y8, y9, y10⟩ := unhide KEEP _ hSw
      clear hSw
      (try dsimp only at hSw)
      go_simp
      try with_reducible rfl
    case rf11_11 =>
    simp only [Act.put, List.setIfInBounds_toArray, List.set_cons_zero, List.set_cons_succ]
    refine wpAnyH_take (i := 12) (oi := { dst := some 60, op := Go.Op.fieldAddr 63 (Go.Operand.tmp 7) 1, type := 0, pos := "laws.go:350", after := #[{ on := 9, ground := Go.Ground.guard }], guard := some (9, true) }) (v := ?vf12_12) rfl (by kernel_rfl) (by kernel_rfl) (by kernel_rfl) (fun _ _ _ h => h) (Or.inl ⟨by rfl, ?hf12_12⟩) hHeld ?rf12_12
    case hf12_12 =>
      intro wS hSw
      (try dsimp only at hSw)
      go_simp
      try with_reducible rfl
    case rf12_12 =>
    simp only [Act.put, List.setIfInBounds_toArray, List.set_cons_zero, List.set_cons_succ]
    refine wpAnyH_take (i := 13) (oi := { dst := some 61, op := Go.Op.load 42 (Go.Operand.tmp 60), type := 42, pos := "laws.go:350", after := #[{ on := 12, ground := Go.Ground.data }, { on := 9, ground := Go.Ground.guard }], guard := some (9, true) }) (v := ?vf13_13) rfl (by kernel_rfl) (by kernel_rfl) (by kernel_rfl) (fun _ _ _ h => h) (Or.inl ⟨by rfl, ?hf13_13⟩) hHeld ?rf13_13
    case hf13_13 =>
      intro wS hSw
      obtain ⟨y0, y1, y2, y3, y4, y5, y6, y7, y8, y9, y10⟩ := unhide KEEP _ hSw
      clear hSw
      (try dsimp only at hSw)
      go_simp
      try with_reducible rfl
    case rf13_13 =>
    simp only [Act.put, List.setIfInBounds_toArray, List.set_cons_zero, List.set_cons_succ]
    refine wpAnyH_take (i := 14) (oi := { dst := some 62, op := Go.Op.move (Go.Operand.tmp 4), type := 2, pos := "laws.go:350", after := #[{ on := 9, ground := Go.Ground.guard }], guard := some (9, true) }) (v := ?vf14_14) rfl (by kernel_rfl) (by kernel_rfl) (by kernel_rfl) (fun _ _ _ h => h) (Or.inl ⟨by rfl, ?hf14_14⟩) hHeld ?rf14_14
    case hf14_14 =>
      intro wS hSw
      (try dsimp only at hSw)
      go_simp
      try with_reducible rfl
    case rf14_14 =>
    simp only [Act.put, List.setIfInBounds_toArray, List.set_cons_zero, List.set_cons_succ]
    refine wpAnyH_take (i := 15) (oi := { dst := some 63, op := Go.Op.move (Go.Operand.tmp 5), type := 51, pos := "laws.go:350", after := #[{ on := 9, ground := Go.Ground.guard }], guard := some (9, true) }) (v := ?vf15_15) rfl (by kernel_rfl) (by kernel_rfl) (by kernel_rfl) (fun _ _ _ h => h) (Or.inl ⟨by rfl, ?hf15_15⟩) hHeld ?rf15_15
    case hf15_15 =>
      intro wS hSw
      (try dsimp only at hSw)
      go_simp
      try with_reducible rfl
    case rf15_15 =>
    simp only [Act.put, List.setIfInBounds_toArray, List.set_cons_zero, List.set_cons_succ]
    refine wpAnyH_ready (rs := [16]) (by kernel_rfl) (by simp) ?_
    refine AllReadyH.cons (o := { dst := some 64, op := Go.Op.call { callee := Go.Callee.value (Go.Operand.func 52), args := #[Go.Operand.tmp 61, Go.Operand.tmp 62, Go.Operand.tmp 63], argTypes := #[42, 2, 51] }, type := 63, pos := "laws.go:350", after := #[{ on := 13, ground := Go.Ground.data }, { on := 14, ground := Go.Ground.data }, { on := 15, ground := Go.Ground.data }, { on := 9, ground := Go.Ground.chain }, { on := 9, ground := Go.Ground.guard }], guard := some (9, true) }) rfl (fun K hK => ?_) AllReadyH.nil
    go_simp
    go_at_call 52
    refine (unhide LP _ hHeld).mono ?_
    rintro e v2 ⟨a20, d20, rfl, R20, hbw⟩
    try go_wp2_with fail
    refine hK.out _ _ (hHeld.trans (hbw.mono hHeld.size)) (fun hHeld => ?_)
    clear hK K
    try simp only [Act.put, List.setIfInBounds_toArray, List.set_cons_zero, List.set_cons_succ]
    refine wpAnyH_take (i := 17) (oi := { dst := some 65, op := Go.Op.field 63 (Go.Operand.tmp 64) 1, type := 42, pos := "laws.go:350", after := #[{ on := 16, ground := Go.Ground.data }, { on := 9, ground := Go.Ground.guard }], guard := some (9, true) }) (v := ?vf17_16) rfl (by kernel_rfl) (by kernel_rfl) (by kernel_rfl) (fun _ _ _ h => h) (Or.inl ⟨by rfl, ?hf17_16⟩) hHeld ?rf17_16
    case hf17_16 =>
      intro wS hSw
      have yf := hf1 a20 Y.length d20
      clear hSw
      (try dsimp only at hSw)
      go_simp
      try with_reducible rfl
    case rf17_16 =>
    simp only [Act.put, List.setIfInBounds_toArray, List.set_cons_zero, List.set_cons_succ]
    refine wpAnyH_ready (rs := [18]) (by kernel_rfl) (by simp) ?_
    refine AllReadyH.cons (o := { dst := some 66, op := Go.Op.call { callee := Go.Callee.value (Go.Operand.func 51), args := #[Go.Operand.tmp 59, Go.Operand.tmp 65], argTypes := #[42, 42] }, type := 4, pos := "laws.go:350", after := #[{ on := 11, ground := Go.Ground.data }, { on := 17, ground := Go.Ground.data }, { on := 16, ground := Go.Ground.chain }, { on := 9, ground := Go.Ground.guard }], guard := some (9, true) }) rfl (fun K hK => ?_) AllReadyH.nil
    go_simp
    go_at_call 51
    refine (unhide LS _ _ _ Y (unhide HRY _ hHeld) R20).mono ?_
    rintro e v3 ⟨rfl, hbw⟩
    try go_wp2_with fail
    refine hK.out _ _ (hHeld.trans (hbw.mono hHeld.size)) (fun hHeld => ?_)
    clear hK K
    try simp only [Act.put, List.setIfInBounds_toArray, List.set_cons_zero, List.set_cons_succ]
    refine wpAnyH_take (i := 19) (oi := { dst := some 67, op := Go.Op.pick (Go.Operand.tmp 57) (Go.Operand.tmp 66) (Go.Operand.const (Go.Value.bool false)), type := 4, pos := "laws.go:350", after := #[{ on := 9, ground := Go.Ground.data }, { on := 18, ground := Go.Ground.data }], guard := none }) (v := ?vf19_17) rfl (by kernel_rfl) (by kernel_rfl) (by kernel_rfl) (fun _ _ _ h => h) (Or.inl ⟨by rfl, ?hf19_17⟩) hHeld ?rf19_17
    case hf19_17 =>
      intro wS hSw
      (try dsimp only at hSw)
      go_simp
      try with_reducible rfl
    case rf19_17 =>
    simp only [Act.put, List.setIfInBounds_toArray, List.set_cons_zero, List.set_cons_succ]
    refine wpAnyH_take (i := 20) (oi := { dst := some 68, op := Go.Op.move (Go.Operand.tmp 67), type := 4, pos := "laws.go:350", after := #[{ on := 19, ground := Go.Ground.data }, { on := 18, ground := Go.Ground.chain }], guard := none }) (v := ?vf20_18) rfl (by kernel_rfl) (by kernel_rfl) (by kernel_rfl) (fun _ _ _ h => h) (Or.inl ⟨by rfl, ?hf20_18⟩) hHeld ?rf20_18
    case hf20_18 =>
      intro wS hSw
      (try dsimp only at hSw)
      go_simp
      try with_reducible rfl
    case rf20_18 =>
    simp only [Act.put, List.setIfInBounds_toArray, List.set_cons_zero, List.set_cons_succ]
    refine wpAnyH_take (i := 21) (oi := { dst := some 69, op := Go.Op.fieldAddr 39 (Go.Operand.tmp 9) 0, type := 0, pos := "laws.go:350", after := #[{ on := 20, ground := Go.Ground.guard }], guard := some (20, true) }) (v := ?vf21_19) rfl (by kernel_rfl) (by kernel_rfl) (by kernel_rfl) (fun _ _ _ h => h) (Or.inl ⟨by rfl, ?hf21_19⟩) hHeld ?rf21_19
    case hf21_19 =>
      intro wS hSw
      (try dsimp only at hSw)
      go_simp
      try with_reducible rfl
    case rf21_19 =>
    simp only [Act.put, List.setIfInBounds_toArray, List.set_cons_zero, List.set_cons_succ]
    refine wpAnyH_take (i := 22) (oi := { dst := some 70, op := Go.Op.load 2 (Go.Operand.tmp 69), type := 2, pos := "laws.go:350", after := #[{ on := 21, ground := Go.Ground.data }, { on := 20, ground := Go.Ground.guard }], guard := some (20, true) }) (v := ?vf22_20) rfl (by kernel_rfl) (by kernel_rfl) (by kernel_rfl) (fun _ _ _ h => h) (Or.inl ⟨by rfl, ?hf22_20⟩) hHeld ?rf22_20
    case hf22_20 =>
      intro wS hSw
      obtain ⟨y0, y1, y2, y3, y4, y5, y6, y7, y8, y9, y10⟩ := unhide KEEP _ hSw
      clear hSw
      (try dsimp only at hSw)
      go_simp
      try with_reducible rfl
    case rf22_20 =>
    simp only [Act.put, List.setIfInBounds_toArray, List.set_cons_zero, List.set_cons_succ]
    refine wpAnyH_take (i := 23) (oi := { dst := some 71, op := Go.Op.binOp Go.BinOp.eql 2 (Go.Operand.tmp 70) (Go.Operand.const (Go.Value.int Go.IntKind.i64 0)) 2, type := 4, pos := "laws.go:350", after := #[{ on := 22, ground := Go.Ground.data }, { on := 20, ground := Go.Ground.guard }], guard := some (20, true) }) (v := ?vf23_21) rfl (by kernel_rfl) (by kernel_rfl) (by kernel_rfl) (fun _ _ _ h => h) (Or.inl ⟨by rfl, ?hf23_21⟩) hHeld ?rf23_21
    case hf23_21 =>
      intro wS hSw
      (try dsimp only at hSw)
      go_simp
      try with_reducible rfl
    case rf23_21 =>
    simp only [Act.put, List.setIfInBounds_toArray, List.set_cons_zero, List.set_cons_succ]
    refine wpAnyH_take (i := 24) (oi := { dst := some 72, op := Go.Op.pick (Go.Operand.tmp 68) (Go.Operand.tmp 71) (Go.Operand.const (Go.Value.bool false)), type := 4, pos := "laws.go:350", after := #[{ on := 20, ground := Go.Ground.data }, { on := 23, ground := Go.Ground.data }], guard := none }) (v := ?vf24_22) rfl (by kernel_rfl) (by kernel_rfl) (by kernel_rfl) (fun _ _ _ h => h) (Or.inl ⟨by rfl, ?hf24_22⟩) hHeld ?rf24_22
    case hf24_22 =>
      intro wS hSw
      (try dsimp only at hSw)
      go_simp
      try with_reducible rfl
    case rf24_22 =>
    simp only [Act.put, List.setIfInBounds_toArray, List.set_cons_zero, List.set_cons_succ]
    refine wpAnyH_take (i := 25) (oi := { dst := some 73, op := Go.Op.move (Go.Operand.tmp 72), type := 4, pos := "laws.go:350", after := #[{ on := 24, ground := Go.Ground.data }, { on := 20, ground := Go.Ground.chain }], guard := none }) (v := ?vf25_23) rfl (by kernel_rfl) (by kernel_rfl) (by kernel_rfl) (fun _ _ _ h => h) (Or.inl ⟨by rfl, ?hf25_23⟩) hHeld ?rf25_23
    case hf25_23 =>
      intro wS hSw
      (try dsimp only at hSw)
      go_simp
      try with_reducible rfl
    case rf25_23 =>
    simp only [Act.put, List.setIfInBounds_toArray, List.set_cons_zero, List.set_cons_succ]
    refine wpAnyH_take (i := 26) (oi := { dst := some 74, op := Go.Op.fieldAddr 39 (Go.Operand.tmp 9) 1, type := 0, pos := "laws.go:350", after := #[{ on := 25, ground := Go.Ground.guard }], guard := some (25, true) }) (v := ?vf26_24) rfl (by kernel_rfl) (by kernel_rfl) (by kernel_rfl) (fun _ _ _ h => h) (Or.inl ⟨by rfl, ?hf26_24⟩) hHeld ?rf26_24
    case hf26_24 =>
      intro wS hSw
      (try dsimp only at hSw)
      go_simp
      try with_reducible rfl
    case rf26_24 =>
    simp only [Act.put, List.setIfInBounds_toArray, List.set_cons_zero, List.set_cons_succ]
    refine wpAnyH_take (i := 27) (oi := { dst := some 75, op := Go.Op.load 31 (Go.Operand.tmp 74), type := 31, pos := "laws.go:350", after := #[{ on := 26, ground := Go.Ground.data }, { on := 25, ground := Go.Ground.guard }], guard := some (25, true) }) (v := ?vf27_25) rfl (by kernel_rfl) (by kernel_rfl) (by kernel_rfl) (fun _ _ _ h => h) (Or.inl ⟨by rfl, ?hf27_25⟩) hHeld ?rf27_25
    case hf27_25 =>
      intro wS hSw
      obtain ⟨y0, y1, y2, y3, y4, y5, y6, y7, y8, y9, y10⟩ := unhide KEEP _ hSw
      clear hSw
      (try dsimp only at hSw)
      go_simp
      try with_reducible rfl
    case rf27_25 =>
    simp only [Act.put, List.setIfInBounds_toArray, List.set_cons_zero, List.set_cons_succ]
    refine wpAnyH_take (i := 30) (oi := { dst := some 78, op := Go.Op.fieldAddr 63 (Go.Operand.tmp 8) 1, type := 0, pos := "laws.go:350", after := #[{ on := 25, ground := Go.Ground.guard }], guard := some (25, true) }) (v := ?vf30_26) rfl (by kernel_rfl) (by kernel_rfl) (by kernel_rfl) (fun _ _ _ h => h) (Or.inl ⟨by rfl, ?hf30_26⟩) hHeld ?rf30_26
    case hf30_26 =>
      intro wS hSw
      (try dsimp only at hSw)
      go_simp
      try with_reducible rfl
    case rf30_26 =>
    simp only [Act.put, List.setIfInBounds_toArray, List.set_cons_zero, List.set_cons_succ]
    refine wpAnyH_take (i := 31) (oi := { dst := some 79, op := Go.Op.load 42 (Go.Operand.tmp 78), type := 42, pos := "laws.go:350", after := #[{ on := 30, ground := Go.Ground.data }, { on := 25, ground := Go.Ground.guard }], guard := some (25, true) }) (v := ?vf31_27) rfl (by kernel_rfl) (by kernel_rfl) (by kernel_rfl) (fun _ _ _ h => h) (Or.inl ⟨by rfl, ?hf31_27⟩) hHeld ?rf31_27
    case hf31_27 =>
      intro wS hSw
      obtain ⟨y0, y1, y2, y3, y4, y5, y6, y7, y8, y9, y10⟩ := unhide KEEP _ hSw
      clear hSw
      (try dsimp only at hSw)
      go_simp
      try with_reducible rfl
    case rf31_27 =>
    simp only [Act.put, List.setIfInBounds_toArray, List.set_cons_zero, List.set_cons_succ]
    refine wpAnyH_ready (rs := [28]) (by kernel_rfl) (by simp) ?_
    refine AllReadyH.cons (o := { dst := some 76, op := Go.Op.call { callee := Go.Callee.value (Go.Operand.func 37), args := #[Go.Operand.tmp 75], argTypes := #[31] }, type := 63, pos := "laws.go:350", after := #[{ on := 27, ground := Go.Ground.data }, { on := 25, ground := Go.Ground.chain }, { on := 25, ground := Go.Ground.guard }], guard := some (25, true) }) rfl (fun K hK => ?_) AllReadyH.nil
    go_simp
    go_at_call 37
    refine (unhide LI1 _ hHeld).mono ?_
    rintro e v4 ⟨a21, d21, rfl, R21, hbw⟩
    try go_wp2_with fail
    refine hK.out _ _ (hHeld.trans (hbw.mono hHeld.size)) (fun hHeld => ?_)
    clear hK K
    try simp only [Act.put, List.setIfInBounds_toArray, List.set_cons_zero, List.set_cons_succ]
    refine wpAnyH_take (i := 29) (oi := { dst := some 77, op := Go.Op.field 63 (Go.Operand.tmp 76) 1, type := 42, pos := "laws.go:350", after := #[{ on := 28, ground := Go.Ground.data }, { on := 25, ground := Go.Ground.guard }], guard := some (25, true) }) (v := ?vf29_28) rfl (by kernel_rfl) (by kernel_rfl) (by kernel_rfl) (fun _ _ _ h => h) (Or.inl ⟨by rfl, ?hf29_28⟩) hHeld ?rf29_28
    case hf29_28 =>
      intro wS hSw
      have yf := hf1 a21 Y.length d21
      clear hSw
      (try dsimp only at hSw)
      go_simp
      try with_reducible rfl
    case rf29_28 =>
    simp only [Act.put, List.setIfInBounds_toArray, List.set_cons_zero, List.set_cons_succ]
    refine wpAnyH_ready (rs := [32]) (by kernel_rfl) (by simp) ?_
    refine AllReadyH.cons (o := { dst := some 80, op := Go.Op.call { callee := Go.Callee.value (Go.Operand.func 51), args := #[Go.Operand.tmp 77, Go.Operand.tmp 79], argTypes := #[42, 42] }, type := 4, pos := "laws.go:350", after := #[{ on := 29, ground := Go.Ground.data }, { on := 31, ground := Go.Ground.data }, { on := 28, ground := Go.Ground.chain }, { on := 25, ground := Go.Ground.guard }], guard := some (25, true) }) rfl (fun K hK => ?_) AllReadyH.nil
    go_simp
    go_at_call 51
    refine (unhide LS _ _ _ Y R21 (unhide HRY _ hHeld)).mono ?_
    rintro e v5 ⟨rfl, hbw⟩
    try go_wp2_with fail
    refine hK.out _ _ (hHeld.trans (hbw.mono hHeld.size)) (fun hHeld => ?_)
    clear hK K
    try simp only [Act.put, List.setIfInBounds_toArray, List.set_cons_zero, List.set_cons_succ]
    refine wpAnyH_take (i := 33) (oi := { dst := some 81, op := Go.Op.pick (Go.Operand.tmp 73) (Go.Operand.tmp 80) (Go.Operand.const (Go.Value.bool false)), type := 4, pos := "laws.go:350", after := #[{ on := 25, ground := Go.Ground.data }, { on := 32, ground := Go.Ground.data }], guard := none }) (v := ?vf33_29) rfl (by kernel_rfl) (by kernel_rfl) (by kernel_rfl) (fun _ _ _ h => h) (Or.inl ⟨by rfl, ?hf33_29⟩) hHeld ?rf33_29
    case hf33_29 =>
      intro wS hSw
      (try dsimp only at hSw)
      go_simp
      try with_reducible rfl
    case rf33_29 =>
    simp only [Act.put, List.setIfInBounds_toArray, List.set_cons_zero, List.set_cons_succ]
    refine wpAnyH_take (i := 34) (oi := { dst := some 82, op := Go.Op.move (Go.Operand.tmp 81), type := 4, pos := "laws.go:350", after := #[{ on := 33, ground := Go.Ground.data }, { on := 32, ground := Go.Ground.chain }], guard := none }) (v := ?vf34_30) rfl (by kernel_rfl) (by kernel_rfl) (by kernel_rfl) (fun _ _ _ h => h) (Or.inl ⟨by rfl, ?hf34_30⟩) hHeld ?rf34_30
    case hf34_30 =>
      intro wS hSw
      (try dsimp only at hSw)
      go_simp
      try with_reducible rfl
    case rf34_30 =>
    simp only [Act.put, List.setIfInBounds_toArray, List.set_cons_zero, List.set_cons_succ]
    refine wpAnyH_take (i := 35) (oi := { dst := some 83, op := Go.Op.fieldAddr 39 (Go.Operand.tmp 10) 0, type := 0, pos := "laws.go:350", after := #[{ on := 34, ground := Go.Ground.guard }], guard := some (34, true) }) (v := ?vf35_31) rfl (by kernel_rfl) (by kernel_rfl) (by kernel_rfl) (fun _ _ _ h => h) (Or.inl ⟨by rfl, ?hf35_31⟩) hHeld ?rf35_31
    case hf35_31 =>
      intro wS hSw
      (try dsimp only at hSw)
      go_simp
      try with_reducible rfl
    case rf35_31 =>
    simp only [Act.put, List.setIfInBounds_toArray, List.set_cons_zero, List.set_cons_succ]
    refine wpAnyH_take (i := 36) (oi := { dst := some 84, op := Go.Op.load 2 (Go.Operand.tmp 83), type := 2, pos := "laws.go:350", after := #[{ on := 35, ground := Go.Ground.data }, { on := 34, ground := Go.Ground.guard }], guard := some (34, true) }) (v := ?vf36_32) rfl (by kernel_rfl) (by kernel_rfl) (by kernel_rfl) (fun _ _ _ h => h) (Or.inl ⟨by rfl, ?hf36_32⟩) hHeld ?rf36_32
    case hf36_32 =>
      intro wS hSw
      obtain ⟨y0, y1, y2, y3, y4, y5, y6, y7, y8, y9, y10⟩ := unhide KEEP _ hSw
      clear hSw
      (try dsimp only at hSw)
      go_simp
      try with_reducible rfl
    case rf36_32 =>
    simp only [Act.put, List.setIfInBounds_toArray, List.set_cons_zero, List.set_cons_succ]
    refine wpAnyH_take (i := 37) (oi := { dst := some 85, op := Go.Op.binOp Go.BinOp.eql 2 (Go.Operand.tmp 84) (Go.Operand.const (Go.Value.int Go.IntKind.i64 0)) 2, type := 4, pos := "laws.go:350", after := #[{ on := 36, ground := Go.Ground.data }, { on := 34, ground := Go.Ground.guard }], guard := some (34, true) }) (v := ?vf37_33) rfl (by kernel_rfl) (by kernel_rfl) (by kernel_rfl) (fun _ _ _ h => h) (Or.inl ⟨by rfl, ?hf37_33⟩) hHeld ?rf37_33
    case hf37_33 =>
      intro wS hSw
      (try dsimp only at hSw)
      go_simp
      try with_reducible rfl
    case rf37_33 =>
    simp only [Act.put, List.setIfInBounds_toArray, List.set_cons_zero, List.set_cons_succ]
    refine wpAnyH_take (i := 38) (oi := { dst := some 86, op := Go.Op.pick (Go.Operand.tmp 82) (Go.Operand.tmp 85) (Go.Operand.const (Go.Value.bool false)), type := 4, pos := "laws.go:350", after := #[{ on := 34, ground := Go.Ground.data }, { on := 37, ground := Go.Ground.data }], guard := none }) (v := ?vf38_34) rfl (by kernel_rfl) (by kernel_rfl) (by kernel_rfl) (fun _ _ _ h => h) (Or.inl ⟨by rfl, ?hf38_34⟩) hHeld ?rf38_34
    case hf38_34 =>
      intro wS hSw
      (try dsimp only at hSw)
      go_simp
      try with_reducible rfl
    case rf38_34 =>
    simp only [Act.put, List.setIfInBounds_toArray, List.set_cons_zero, List.set_cons_succ]
    refine wpAnyH_take (i := 39) (oi := { dst := some 87, op := Go.Op.move (Go.Operand.tmp 86), type := 4, pos := "laws.go:350", after := #[{ on := 38, ground := Go.Ground.data }, { on := 34, ground := Go.Ground.chain }], guard := none }) (v := ?vf39_35) rfl (by kernel_rfl) (by kernel_rfl) (by kernel_rfl) (fun _ _ _ h => h) (Or.inl ⟨by rfl, ?hf39_35⟩) hHeld ?rf39_35
    case hf39_35 =>
      intro wS hSw
      (try dsimp only at hSw)
      go_simp
      try with_reducible rfl
    case rf39_35 =>
    simp only [Act.put, List.setIfInBounds_toArray, List.set_cons_zero, List.set_cons_succ]
    refine wpAnyH_take (i := 40) (oi := { dst := some 88, op := Go.Op.fieldAddr 39 (Go.Operand.tmp 10) 1, type := 0, pos := "laws.go:350", after := #[{ on := 39, ground := Go.Ground.guard }], guard := some (39, true) }) (v := ?vf40_36) rfl (by kernel_rfl) (by kernel_rfl) (by kernel_rfl) (fun _ _ _ h => h) (Or.inl ⟨by rfl, ?hf40_36⟩) hHeld ?rf40_36
    case hf40_36 =>
      intro wS hSw
      (try dsimp only at hSw)
      go_simp
      try with_reducible rfl
    case rf40_36 =>
    simp only [Act.put, List.setIfInBounds_toArray, List.set_cons_zero, List.set_cons_succ]
    refine wpAnyH_take (i := 41) (oi := { dst := some 89, op := Go.Op.load 31 (Go.Operand.tmp 88), type := 31, pos := "laws.go:350", after := #[{ on := 40, ground := Go.Ground.data }, { on := 39, ground := Go.Ground.guard }], guard := some (39, true) }) (v := ?vf41_37) rfl (by kernel_rfl) (by kernel_rfl) (by kernel_rfl) (fun _ _ _ h => h) (Or.inl ⟨by rfl, ?hf41_37⟩) hHeld ?rf41_37
    case hf41_37 =>
      intro wS hSw
      obtain ⟨y0, y1, y2, y3, y4, y5, y6, y7, y8, y9, y10⟩ := unhide KEEP _ hSw
      clear hSw
      (try dsimp only at hSw)
      go_simp
      try with_reducible rfl
    case rf41_37 =>
    simp only [Act.put, List.setIfInBounds_toArray, List.set_cons_zero, List.set_cons_succ]
    refine wpAnyH_take (i := 44) (oi := { dst := some 92, op := Go.Op.fieldAddr 63 (Go.Operand.tmp 7) 1, type := 0, pos := "laws.go:350", after := #[{ on := 39, ground := Go.Ground.guard }], guard := some (39, true) }) (v := ?vf44_38) rfl (by kernel_rfl) (by kernel_rfl) (by kernel_rfl) (fun _ _ _ h => h) (Or.inl ⟨by rfl, ?hf44_38⟩) hHeld ?rf44_38
    case hf44_38 =>
      intro wS hSw
      (try dsimp only at hSw)
      go_simp
      try with_reducible rfl
    case rf44_38 =>
    simp only [Act.put, List.setIfInBounds_toArray, List.set_cons_zero, List.set_cons_succ]
    refine wpAnyH_take (i := 45) (oi := { dst := some 93, op := Go.Op.load 42 (Go.Operand.tmp 92), type := 42, pos := "laws.go:350", after := #[{ on := 44, ground := Go.Ground.data }, { on := 39, ground := Go.Ground.guard }], guard := some (39, true) }) (v := ?vf45_39) rfl (by kernel_rfl) (by kernel_rfl) (by kernel_rfl) (fun _ _ _ h => h) (Or.inl ⟨by rfl, ?hf45_39⟩) hHeld ?rf45_39
    case hf45_39 =>
      intro wS hSw
      obtain ⟨y0, y1, y2, y3, y4, y5, y6, y7, y8, y9, y10⟩ := unhide KEEP _ hSw
      clear hSw
      (try dsimp only at hSw)
      go_simp
      try with_reducible rfl
    case rf45_39 =>
    simp only [Act.put, List.setIfInBounds_toArray, List.set_cons_zero, List.set_cons_succ]
    refine wpAnyH_take (i := 46) (oi := { dst := some 94, op := Go.Op.move (Go.Operand.tmp 4), type := 2, pos := "laws.go:350", after := #[{ on := 39, ground := Go.Ground.guard }], guard := some (39, true) }) (v := ?vf46_40) rfl (by kernel_rfl) (by kernel_rfl) (by kernel_rfl) (fun _ _ _ h => h) (Or.inl ⟨by rfl, ?hf46_40⟩) hHeld ?rf46_40
    case hf46_40 =>
      intro wS hSw
      (try dsimp only at hSw)
      go_simp
      try with_reducible rfl
    case rf46_40 =>
    simp only [Act.put, List.setIfInBounds_toArray, List.set_cons_zero, List.set_cons_succ]
    refine wpAnyH_ready (rs := [42]) (by kernel_rfl) (by simp) ?_
    refine AllReadyH.cons (o := { dst := some 90, op := Go.Op.call { callee := Go.Callee.value (Go.Operand.func 37), args := #[Go.Operand.tmp 89], argTypes := #[31] }, type := 63, pos := "laws.go:350", after := #[{ on := 41, ground := Go.Ground.data }, { on := 39, ground := Go.Ground.chain }, { on := 39, ground := Go.Ground.guard }], guard := some (39, true) }) rfl (fun K hK => ?_) AllReadyH.nil
    go_simp
    go_at_call 37
    refine (unhide LI2 _ hHeld).mono ?_
    rintro e v6 ⟨a22, d22, rfl, R22, hbw⟩
    try go_wp2_with fail
    refine hK.out _ _ (hHeld.trans (hbw.mono hHeld.size)) (fun hHeld => ?_)
    clear hK K
    try simp only [Act.put, List.setIfInBounds_toArray, List.set_cons_zero, List.set_cons_succ]
    refine wpAnyH_take (i := 43) (oi := { dst := some 91, op := Go.Op.field 63 (Go.Operand.tmp 90) 1, type := 42, pos := "laws.go:350", after := #[{ on := 42, ground := Go.Ground.data }, { on := 39, ground := Go.Ground.guard }], guard := some (39, true) }) (v := ?vf43_41) rfl (by kernel_rfl) (by kernel_rfl) (by kernel_rfl) (fun _ _ _ h => h) (Or.inl ⟨by rfl, ?hf43_41⟩) hHeld ?rf43_41
    case hf43_41 =>
      intro wS hSw
      have yf := hf1 a22 D.length d22
      clear hSw
      (try dsimp only at hSw)
      go_simp
      try with_reducible rfl
    case rf43_41 =>
    simp only [Act.put, List.setIfInBounds_toArray, List.set_cons_zero, List.set_cons_succ]
    refine wpAnyH_ready (rs := [47]) (by kernel_rfl) (by simp) ?_
    refine AllReadyH.cons (o := { dst := some 95, op := Go.Op.call { callee := Go.Callee.value (Go.Operand.func 53), args := #[Go.Operand.tmp 93, Go.Operand.tmp 94], argTypes := #[42, 2] }, type := 63, pos := "laws.go:350", after := #[{ on := 45, ground := Go.Ground.data }, { on := 46, ground := Go.Ground.data }, { on := 42, ground := Go.Ground.chain }, { on := 39, ground := Go.Ground.guard }], guard := some (39, true) }) rfl (fun K hK => ?_) AllReadyH.nil
    go_simp
    go_at_call 53
    refine (unhide LD _ hHeld).mono ?_
    rintro e v7 ⟨a23, d23, rfl, R23, hbw⟩
    replace R22 := R22.later hbw
    try go_wp2_with fail
    refine hK.out _ _ (hHeld.trans (hbw.mono hHeld.size)) (fun hHeld => ?_)
    clear hK K
    try simp only [Act.put, List.setIfInBounds_toArray, List.set_cons_zero, List.set_cons_succ]
    refine wpAnyH_take (i := 48) (oi := { dst := some 96, op := Go.Op.field 63 (Go.Operand.tmp 95) 1, type := 42, pos := "laws.go:350", after := #[{ on := 47, ground := Go.Ground.data }, { on := 39, ground := Go.Ground.guard }], guard := some (39, true) }) (v := ?vf48_42) rfl (by kernel_rfl) (by kernel_rfl) (by kernel_rfl) (fun _ _ _ h => h) (Or.inl ⟨by rfl, ?hf48_42⟩) hHeld ?rf48_42
    case hf48_42 =>
      intro wS hSw
      have yf := hf1 a23 D.length d23
      clear hSw
      (try dsimp only at hSw)
      go_simp
      try with_reducible rfl
    case rf48_42 =>
    simp only [Act.put, List.setIfInBounds_toArray, List.set_cons_zero, List.set_cons_succ]
    refine wpAnyH_ready (rs := [49]) (by kernel_rfl) (by simp) ?_
    refine AllReadyH.cons (o := { dst := some 97, op := Go.Op.call { callee := Go.Callee.value (Go.Operand.func 51), args := #[Go.Operand.tmp 91, Go.Operand.tmp 96], argTypes := #[42, 42] }, type := 4, pos := "laws.go:350", after := #[{ on := 43, ground := Go.Ground.data }, { on := 48, ground := Go.Ground.data }, { on := 47, ground := Go.Ground.chain }, { on := 39, ground := Go.Ground.guard }], guard := some (39, true) }) rfl (fun K hK => ?_) AllReadyH.nil
    go_simp
    go_at_call 51
    refine (unhide LS _ _ _ D R22 R23).mono ?_
    rintro e v8 ⟨rfl, hbw⟩
    try go_wp2_with fail
    refine hK.out _ _ (hHeld.trans (hbw.mono hHeld.size)) (fun hHeld => ?_)
    clear hK K
    try simp only [Act.put, List.setIfInBounds_toArray, List.set_cons_zero, List.set_cons_succ]
    refine wpAnyH_take (i := 50) (oi := { dst := some 98, op := Go.Op.pick (Go.Operand.tmp 87) (Go.Operand.tmp 97) (Go.Operand.const (Go.Value.bool false)), type := 4, pos := "laws.go:350", after := #[{ on := 39, ground := Go.Ground.data }, { on := 49, ground := Go.Ground.data }], guard := none }) (v := ?vf50_43) rfl (by kernel_rfl) (by kernel_rfl) (by kernel_rfl) (fun _ _ _ h => h) (Or.inl ⟨by rfl, ?hf50_43⟩) hHeld ?rf50_43
    case hf50_43 =>
      intro wS hSw
      (try dsimp only at hSw)
      go_simp
      try with_reducible rfl
    case rf50_43 =>
    simp only [Act.put, List.setIfInBounds_toArray, List.set_cons_zero, List.set_cons_succ]
    refine wpAnyH_take (i := 51) (oi := { dst := some 99, op := Go.Op.move (Go.Operand.tmp 98), type := 4, pos := "laws.go:350", after := #[{ on := 50, ground := Go.Ground.data }, { on := 49, ground := Go.Ground.chain }], guard := none }) (v := ?vf51_44) rfl (by kernel_rfl) (by kernel_rfl) (by kernel_rfl) (fun _ _ _ h => h) (Or.inl ⟨by rfl, ?hf51_44⟩) hHeld ?rf51_44
    case hf51_44 =>
      intro wS hSw
      (try dsimp only at hSw)
      go_simp
      try with_reducible rfl
    case rf51_44 =>
    simp only [Act.put, List.setIfInBounds_toArray, List.set_cons_zero, List.set_cons_succ]
    refine wpAnyH_take (i := 52) (oi := { dst := some 100, op := Go.Op.fieldAddr 39 (Go.Operand.tmp 10) 1, type := 0, pos := "laws.go:350", after := #[{ on := 51, ground := Go.Ground.guard }], guard := some (51, true) }) (v := ?vf52_45) rfl (by kernel_rfl) (by kernel_rfl) (by kernel_rfl) (fun _ _ _ h => h) (Or.inl ⟨by rfl, ?hf52_45⟩) hHeld ?rf52_45
    case hf52_45 =>
      intro wS hSw
      (try dsimp only at hSw)
      go_simp
      try with_reducible rfl
    case rf52_45 =>
    simp only [Act.put, List.setIfInBounds_toArray, List.set_cons_zero, List.set_cons_succ]
    refine wpAnyH_take (i := 53) (oi := { dst := some 101, op := Go.Op.load 31 (Go.Operand.tmp 100), type := 31, pos := "laws.go:350", after := #[{ on := 52, ground := Go.Ground.data }, { on := 51, ground := Go.Ground.guard }], guard := some (51, true) }) (v := ?vf53_46) rfl (by kernel_rfl) (by kernel_rfl) (by kernel_rfl) (fun _ _ _ h => h) (Or.inl ⟨by rfl, ?hf53_46⟩) hHeld ?rf53_46
    case hf53_46 =>
      intro wS hSw
      obtain ⟨y0, y1, y2, y3, y4, y5, y6, y7, y8, y9, y10⟩ := unhide KEEP _ hSw
      clear hSw
      (try dsimp only at hSw)
      go_simp
      try with_reducible rfl
    case rf53_46 =>
    simp only [Act.put, List.setIfInBounds_toArray, List.set_cons_zero, List.set_cons_succ]
    refine wpAnyH_ready (rs := [54]) (by kernel_rfl) (by simp) ?_
    refine AllReadyH.cons (o := { dst := some 102, op := Go.Op.call { callee := Go.Callee.value (Go.Operand.func 12), args := #[Go.Operand.tmp 101], argTypes := #[31] }, type := 2, pos := "laws.go:350", after := #[{ on := 53, ground := Go.Ground.data }, { on := 51, ground := Go.Ground.chain }, { on := 51, ground := Go.Ground.guard }], guard := some (51, true) }) rfl (fun K hK => ?_) AllReadyH.nil
    go_simp
    go_at_call 12
    refine (unhide LF2 _ hHeld).mono ?_
    rintro e v9 ⟨rfl, hbw⟩
    try go_wp2_with fail
    refine hK.out _ _ (hHeld.trans (hbw.mono hHeld.size)) (fun hHeld => ?_)
    clear hK K
    try simp only [Act.put, List.setIfInBounds_toArray, List.set_cons_zero, List.set_cons_succ]
    refine wpAnyH_take (i := 55) (oi := { dst := some 103, op := Go.Op.binOp Go.BinOp.eql 2 (Go.Operand.tmp 102) (Go.Operand.const (Go.Value.int Go.IntKind.i64 0)) 2, type := 4, pos := "laws.go:350", after := #[{ on := 54, ground := Go.Ground.data }, { on := 51, ground := Go.Ground.guard }], guard := some (51, true) }) (v := ?vf55_47) rfl (by kernel_rfl) (by kernel_rfl) (by kernel_rfl) (fun _ _ _ h => h) (Or.inl ⟨by rfl, ?hf55_47⟩) hHeld ?rf55_47
    case hf55_47 =>
      intro wS hSw
      (try dsimp only at hSw)
      go_simp
      try with_reducible rfl
    case rf55_47 =>
    simp only [Act.put, List.setIfInBounds_toArray, List.set_cons_zero, List.set_cons_succ]
    refine wpAnyH_take (i := 56) (oi := { dst := some 104, op := Go.Op.pick (Go.Operand.tmp 99) (Go.Operand.tmp 103) (Go.Operand.const (Go.Value.bool false)), type := 4, pos := "laws.go:350", after := #[{ on := 51, ground := Go.Ground.data }, { on := 55, ground := Go.Ground.data }], guard := none }) (v := ?vf56_48) rfl (by kernel_rfl) (by kernel_rfl) (by kernel_rfl) (fun _ _ _ h => h) (Or.inl ⟨by rfl, ?hf56_48⟩) hHeld ?rf56_48
    case hf56_48 =>
      intro wS hSw
      (try dsimp only at hSw)
      go_simp
      try with_reducible rfl
    case rf56_48 =>
    simp only [Act.put, List.setIfInBounds_toArray, List.set_cons_zero, List.set_cons_succ]
    refine wpAnyH_take (i := 57) (oi := { dst := some 2, op := Go.Op.assign (Go.Operand.tmp 104), type := 4, pos := "laws.go:350", after := #[{ on := 56, ground := Go.Ground.data }, { on := 54, ground := Go.Ground.chain }, { on := 0, ground := Go.Ground.phase }, { on := 1, ground := Go.Ground.phase }, { on := 2, ground := Go.Ground.phase }, { on := 3, ground := Go.Ground.phase }, { on := 4, ground := Go.Ground.phase }, { on := 5, ground := Go.Ground.phase }, { on := 6, ground := Go.Ground.phase }, { on := 7, ground := Go.Ground.phase }, { on := 8, ground := Go.Ground.phase }, { on := 9, ground := Go.Ground.phase }, { on := 10, ground := Go.Ground.phase }, { on := 11, ground := Go.Ground.phase }, { on := 12, ground := Go.Ground.phase }, { on := 13, ground := Go.Ground.phase }, { on := 14, ground := Go.Ground.phase }, { on := 15, ground := Go.Ground.phase }, { on := 16, ground := Go.Ground.phase }, { on := 17, ground := Go.Ground.phase }, { on := 18, ground := Go.Ground.phase }, { on := 19, ground := Go.Ground.phase }, { on := 20, ground := Go.Ground.phase }, { on := 21, ground := Go.Ground.phase }, { on := 22, ground := Go.Ground.phase }, { on := 23, ground := Go.Ground.phase }, { on := 24, ground := Go.Ground.phase }, { on := 25, ground := Go.Ground.phase }, { on := 26, ground := Go.Ground.phase }, { on := 27, ground := Go.Ground.phase }, { on := 28, ground := Go.Ground.phase }, { on := 29, ground := Go.Ground.phase }, { on := 30, ground := Go.Ground.phase }, { on := 31, ground := Go.Ground.phase }, { on := 32, ground := Go.Ground.phase }, { on := 33, ground := Go.Ground.phase }, { on := 34, ground := Go.Ground.phase }, { on := 35, ground := Go.Ground.phase }, { on := 36, ground := Go.Ground.phase }, { on := 37, ground := Go.Ground.phase }, { on := 38, ground := Go.Ground.phase }, { on := 39, ground := Go.Ground.phase }, { on := 40, ground := Go.Ground.phase }, { on := 41, ground := Go.Ground.phase }, { on := 42, ground := Go.Ground.phase }, { on := 43, ground := Go.Ground.phase }, { on := 44, ground := Go.Ground.phase }, { on := 45, ground := Go.Ground.phase }, { on := 46, ground := Go.Ground.phase }, { on := 47, ground := Go.Ground.phase }, { on := 48, ground := Go.Ground.phase }, { on := 49, ground := Go.Ground.phase }, { on := 50, ground := Go.Ground.phase }, { on := 51, ground := Go.Ground.phase }, { on := 52, ground := Go.Ground.phase }, { on := 53, ground := Go.Ground.phase }, { on := 54, ground := Go.Ground.phase }, { on := 55, ground := Go.Ground.phase }, { on := 56, ground := Go.Ground.phase }], guard := none }) (v := ?vf57_49) rfl (by kernel_rfl) (by kernel_rfl) (by kernel_rfl) (fun _ _ _ h => h) (Or.inl ⟨by rfl, ?hf57_49⟩) hHeld ?rf57_49
    case hf57_49 =>
      intro wS hSw
      (try dsimp only at hSw)
      go_simp
      try with_reducible rfl
    case rf57_49 =>
    simp only [Act.put, List.setIfInBounds_toArray, List.set_cons_zero, List.set_cons_succ]
    refine wpAnyH_done (by kernel_rfl) ?_ _
    refine NoPanic.normal ?_
    have HB9 := hide ((unhide HB).trans (hHeld.mono (unhide HB).size))
    clear hHeld
    go_wp2_with fail
    go_ret
    exact ⟨rfl, unhide HB9⟩
  · have hne : ((addIvfR x id vec).code != 0) = true := by rw [bne_iff_ne]; exact hf
    have heq : ((addIvfR x id vec).code == (addIvfR x id vec).code) = true := by simp
    clear hf R2
    have HFC : Hid ((addIvfR x id vec).code = (addIvfR x id vec).code) := rfl
    generalize hfc : (addIvfR x id vec).code = fc at *
    generalize (addIvfR x id vec).ivf.centers.length = n1 at *
    generalize (addIvfR x id vec).ivf.lists.length = n2 at *
    replace HFC := hide hfc
    clear hfc
    have nb2 : Below w2.heap.size w2 (w2.alloc (.cells #[.int .i64 fc, .slice a1 n1 d1, .slice a2 n2 d2] 39)) := (Below.refl _ _).alloc (Nat.le_refl _) _
    have x6 : Box 0 #[.int .i64 fc, .slice a1 n1 d1, .slice a2 n2 d2] 39 (w2.alloc (.cells #[.int .i64 fc, .slice a1 n1 d1, .slice a2 n2 d2] 39)) w2.heap.size := newBox (Nat.zero_le _)
    have z0 : (w2.alloc (.cells #[.int .i64 fc, .slice a1 n1 d1, .slice a2 n2 d2] 39)).cell? ⟨w2.heap.size, 0, none⟩ = some (.int .i64 fc) := x6.at 0 _ rfl
    have HX6 := hide x6
    replace HX3 := hide (((unhide HX3).keep hb2).keep nb2)
    replace HRX := hide (((unhide HRX).later hb2).later nb2)
    replace HRV := hide (((unhide HRV).later hb2).later nb2)
    replace HB := hide (((unhide HB).trans (hb2.mono (unhide HB).size)).trans (nb2.mono (Nat.le_trans (unhide HB).size hb2.size)))
    clear nb2 x6 hb2 L2
    go_wp2_with fail
    generalize w2.alloc (.cells #[.int .i64 fc, .slice a1 n1 d1, .slice a2 n2 d2] 39) = wz at *
    have LM : Hid (∀ W, Below wz.heap.size wz W → Calls Try.prog 49 #[.agg #[.slice a8 x.centers.length c8, .slice a9 x.lists.length c9], .int .i64 id, .slice av vec.length dv] W fun e w' => ∃ (a : Option Addr) (n cp : Nat) (a' : Option Addr) (n' cp' : Nat), e = .returned (.agg #[.int .i64 fc, .slice a n cp, .slice a' n' cp']) ∧ Below W.heap.size W w') := fun W hW => by
      refine (specAddIvf _ x id _ vec W ((unhide HRX).later hW) ((unhide HRV).later hW)).mono ?_
      rintro e w' ⟨cs, rfl, ho, hb⟩
      obtain ⟨a, cp, a', cp', rfl, -⟩ := open_IvfResult ho
      rw [unhide HFC]
      exact ⟨a, _, cp, a', _, cp', rfl, hb⟩
    have hf0 := fun a n cp a' n' cp' => fieldQ0 fc a n cp a' n' cp'
    clear z0 HRX HRV HFC
    refine wp_region_noPanic ?_
    refine wp_region_held_drew (S := fun w' => Below wz.heap.size wz w') (by kernel_rfl) (Below.refl _ _).drew (fun hHeld => ?_)
    generalize wz.drew = wD at hHeld ⊢
    refine wpAnyH_take (i := 0) (oi := { dst := some 26, op := Go.Op.load 31 (Go.Operand.tmp 3), type := 31, pos := "laws.go:344", after := #[], guard := none }) (v := ?vc0_1) rfl (by kernel_rfl) (by kernel_rfl) (by kernel_rfl) (fun _ _ _ h => h) (Or.inl ⟨by rfl, ?hc0_1⟩) hHeld ?rc0_1
    case hc0_1 =>
      intro wS hSw
      have q0 : wS.cell? ⟨w1.heap.size, 0, none⟩ = some (.slice a8 x.centers.length c8) := ((unhide HX3).keep hSw).at 0 _ rfl
      have q1 : wS.cell? ⟨w1.heap.size, 1, none⟩ = some (.slice a9 x.lists.length c9) := ((unhide HX3).keep hSw).at 1 _ rfl
      clear hSw
      (try dsimp only at hSw)
      go_simp
      try with_reducible rfl
    case rc0_1 =>
    simp only [Act.put, List.setIfInBounds_toArray, List.set_cons_zero, List.set_cons_succ]
    refine wpAnyH_take (i := 1) (oi := { dst := some 27, op := Go.Op.move (Go.Operand.tmp 4), type := 2, pos := "laws.go:344", after := #[], guard := none }) (v := ?vc1_2) rfl (by kernel_rfl) (by kernel_rfl) (by kernel_rfl) (fun _ _ _ h => h) (Or.inl ⟨by rfl, ?hc1_2⟩) hHeld ?rc1_2
    case hc1_2 =>
      intro wS hSw
      (try dsimp only at hSw)
      go_simp
      try with_reducible rfl
    case rc1_2 =>
    simp only [Act.put, List.setIfInBounds_toArray, List.set_cons_zero, List.set_cons_succ]
    refine wpAnyH_take (i := 2) (oi := { dst := some 28, op := Go.Op.move (Go.Operand.tmp 5), type := 51, pos := "laws.go:344", after := #[], guard := none }) (v := ?vc2_3) rfl (by kernel_rfl) (by kernel_rfl) (by kernel_rfl) (fun _ _ _ h => h) (Or.inl ⟨by rfl, ?hc2_3⟩) hHeld ?rc2_3
    case hc2_3 =>
      intro wS hSw
      (try dsimp only at hSw)
      go_simp
      try with_reducible rfl
    case rc2_3 =>
    simp only [Act.put, List.setIfInBounds_toArray, List.set_cons_zero, List.set_cons_succ]
    refine wpAnyH_take (i := 5) (oi := { dst := some 31, op := Go.Op.fieldAddr 39 (Go.Operand.tmp 6) 0, type := 0, pos := "laws.go:344", after := #[], guard := none }) (v := ?vc5_4) rfl (by kernel_rfl) (by kernel_rfl) (by kernel_rfl) (fun _ _ _ h => h) (Or.inl ⟨by rfl, ?hc5_4⟩) hHeld ?rc5_4
    case hc5_4 =>
      intro wS hSw
      (try dsimp only at hSw)
      go_simp
      try with_reducible rfl
    case rc5_4 =>
    simp only [Act.put, List.setIfInBounds_toArray, List.set_cons_zero, List.set_cons_succ]
    refine wpAnyH_take (i := 6) (oi := { dst := some 32, op := Go.Op.load 2 (Go.Operand.tmp 31), type := 2, pos := "laws.go:344", after := #[{ on := 5, ground := Go.Ground.data }], guard := none }) (v := ?vc6_5) rfl (by kernel_rfl) (by kernel_rfl) (by kernel_rfl) (fun _ _ _ h => h) (Or.inl ⟨by rfl, ?hc6_5⟩) hHeld ?rc6_5
    case hc6_5 =>
      intro wS hSw
      have q0 : wS.cell? ⟨w2.heap.size, 0, none⟩ = some (.int .i64 fc) := ((unhide HX6).keep hSw).at 0 _ rfl
      clear hSw
      (try dsimp only at hSw)
      go_simp
      try with_reducible rfl
    case rc6_5 =>
    simp only [Act.put, List.setIfInBounds_toArray, List.set_cons_zero, List.set_cons_succ]
    refine wpAnyH_ready (rs := [3]) (by kernel_rfl) (by simp) ?_
    refine AllReadyH.cons (o := { dst := some 29, op := Go.Op.call { callee := Go.Callee.value (Go.Operand.func 49), args := #[Go.Operand.tmp 26, Go.Operand.tmp 27, Go.Operand.tmp 28], argTypes := #[31, 2, 51] }, type := 39, pos := "laws.go:344", after := #[{ on := 0, ground := Go.Ground.data }, { on := 1, ground := Go.Ground.data }, { on := 2, ground := Go.Ground.data }], guard := none }) rfl (fun K hK => ?_) AllReadyH.nil
    go_simp
    go_at_call 49
    refine (unhide LM _ hHeld).mono ?_
    rintro e v3 ⟨a20, n20, c20, a21, n21, c21, rfl, hbw⟩
    try go_wp2_with fail
    refine hK.out _ _ (hHeld.trans (hbw.mono hHeld.size)) (fun hHeld => ?_)
    clear hK K
    try simp only [Act.put, List.setIfInBounds_toArray, List.set_cons_zero, List.set_cons_succ]
    refine wpAnyH_take (i := 4) (oi := { dst := some 30, op := Go.Op.field 39 (Go.Operand.tmp 29) 0, type := 2, pos := "laws.go:344", after := #[{ on := 3, ground := Go.Ground.data }], guard := none }) (v := ?vc4_6) rfl (by kernel_rfl) (by kernel_rfl) (by kernel_rfl) (fun _ _ _ h => h) (Or.inl ⟨by rfl, ?hc4_6⟩) hHeld ?rc4_6
    case hc4_6 =>
      intro wS hSw
      have yf := hf0 a20 n20 c20 a21 n21 c21
      clear hSw
      (try dsimp only at hSw)
      go_simp
      try with_reducible rfl
    case rc4_6 =>
    simp only [Act.put, List.setIfInBounds_toArray, List.set_cons_zero, List.set_cons_succ]
    refine wpAnyH_take (i := 7) (oi := { dst := some 33, op := Go.Op.binOp Go.BinOp.eql 2 (Go.Operand.tmp 30) (Go.Operand.tmp 32) 2, type := 4, pos := "laws.go:344", after := #[{ on := 4, ground := Go.Ground.data }, { on := 6, ground := Go.Ground.data }], guard := none }) (v := ?vc7_7) rfl (by kernel_rfl) (by kernel_rfl) (by kernel_rfl) (fun _ _ _ h => h) (Or.inl ⟨by rfl, ?hc7_7⟩) hHeld ?rc7_7
    case hc7_7 =>
      intro wS hSw
      (try dsimp only at hSw)
      go_simp
      try with_reducible rfl
    case rc7_7 =>
    simp only [Act.put, List.setIfInBounds_toArray, List.set_cons_zero, List.set_cons_succ]
    refine wpAnyH_take (i := 8) (oi := { dst := some 2, op := Go.Op.assign (Go.Operand.tmp 33), type := 4, pos := "laws.go:344", after := #[{ on := 7, ground := Go.Ground.data }, { on := 3, ground := Go.Ground.chain }, { on := 0, ground := Go.Ground.phase }, { on := 1, ground := Go.Ground.phase }, { on := 2, ground := Go.Ground.phase }, { on := 3, ground := Go.Ground.phase }, { on := 4, ground := Go.Ground.phase }, { on := 5, ground := Go.Ground.phase }, { on := 6, ground := Go.Ground.phase }, { on := 7, ground := Go.Ground.phase }], guard := none }) (v := ?vc8_8) rfl (by kernel_rfl) (by kernel_rfl) (by kernel_rfl) (fun _ _ _ h => h) (Or.inl ⟨by rfl, ?hc8_8⟩) hHeld ?rc8_8
    case hc8_8 =>
      intro wS hSw
      (try dsimp only at hSw)
      go_simp
      try with_reducible rfl
    case rc8_8 =>
    simp only [Act.put, List.setIfInBounds_toArray, List.set_cons_zero, List.set_cons_succ]
    refine wpAnyH_done (by kernel_rfl) ?_ _
    refine NoPanic.normal ?_
    have HB9 := hide ((unhide HB).trans (hHeld.mono (unhide HB).size))
    clear hHeld
    go_wp2_with fail
    go_ret
    exact ⟨rfl, unhide HB9⟩

/-- FnAdds. -/
theorem lawFnAdds (a : Option Addr) (len cap : Nat) (zs : List Int) (w : World) (h : (a = none ∧ len = 0 ∧ cap = 0 ∧ zs = []) ∨
    ∃ x, a = some x ∧ len ≤ cap ∧ cap ≤ maxLen ∧ zs.length = cap ∧ (∀ i, i < zs.length → w.cell? (x.add i) = some (.int .u8 (zs.getD i 0))) ∧ ∀ n ∈ zs, (Lit.int .u8 n).wf = true) :
    Calls Try.prog 8 #[.slice a len cap] w fun e w' => e = .returned (.bool true) ∧ Below w.heap.size w w' := by
  by_cases hn : len ≤ 1048576
  · exact lawAdds_few a len cap w hn (isCode_of_row h hn)
  · exact lawAdds_many a len cap w (by omega)

end Go.Proofs.Ytfgadegpdknocaa
