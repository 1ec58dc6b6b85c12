/-
  The program's ApplyWrite tells the table behind a write in new memory, or what is wrong; nothing old is written.
  No condition.
-/
import Derived.Test.YteekfapjfpkidabImplDo
import Derived.Test.YteekfapjfpkidabImplItems
namespace Go.Proofs.Yteekfapjfpkidab
open Go.RowKit

set_option maxRecDepth 10000 in
set_option maxHeartbeats 1000000 in
theorem implApply (v : Value) (xs : List DItem) (u : List Value) (x : DWrite) (w : World) (h : (Lay.sl Lay.tItem).Reads w [v] xs) (hx : Lay.tWrite.Reads w u x) :
    Calls Try.prog 13 #[v, .agg u.toArray] w fun e w' => ∃ cs, e = .returned (.agg cs.toArray) ∧ Lay.tTableResult.OwnIn w' cs (applyR xs x) w.heap.size w'.heap.size ∧ Below w.heap.size w w' := by
  obtain ⟨a2, d2, rfl, R2⟩ := open_Write hx
  clear hx
  have HB0 : Below w.heap.size w ((w.alloc (.cells #[.int .i64 x.kind, .int .i64 x.id, .slice a2 x.vec.length d2, .int .i64 x.session, .int .i64 x.seq] 33)).alloc (.cells #[.int .i64 0, .slice none 0 0] 30)) := ((Below.refl _ _).alloc (Nat.le_refl _) _).alloc (by simp) _
  have bX : Box w.heap.size #[.int .i64 x.kind, .int .i64 x.id, .slice a2 x.vec.length d2, .int .i64 x.session, .int .i64 x.seq] 33 ((w.alloc (.cells #[.int .i64 x.kind, .int .i64 x.id, .slice a2 x.vec.length d2, .int .i64 x.session, .int .i64 x.seq] 33)).alloc (.cells #[.int .i64 0, .slice none 0 0] 30)) w.heap.size := (newBox (Nat.le_refl _)).grow _
  have bR : Box w.heap.size #[.int .i64 0, .slice none 0 0] 30 ((w.alloc (.cells #[.int .i64 x.kind, .int .i64 x.id, .slice a2 x.vec.length d2, .int .i64 x.session, .int .i64 x.seq] 33)).alloc (.cells #[.int .i64 0, .slice none 0 0] 30)) (w.heap.size + 1) := newBoxAt (by omega) (by simp)
  have h0 := h.later HB0
  have R0 := R2.later HB0
  obtain ⟨ao, cap, rfl⟩ := open_sl h
  clear h R2
  go_enter Try.func13, Try.ntmps13
  go_wp2_with fail
  generalize (w.alloc (.cells #[.int .i64 x.kind, .int .i64 x.id, .slice a2 x.vec.length d2, .int .i64 x.session, .int .i64 x.seq] 33)).alloc (.cells #[.int .i64 0, .slice none 0 0] 30) = W0 at *
  by_cases hf : tableFault xs = 0
  · refine (tableFrom_ok _ xs W0 h0 hf).mono ?_
    rintro e w1 ⟨⟨q, rfl, hq, hT⟩, hb⟩
    have hq1 : w.heap.size + 1 < q := by have := bR.lt; omega
    replace bR := bR.keep hb
    replace bX := bX.keep hb
    have R1 := R0.later hb
    replace HB0 := HB0.trans (hb.mono HB0.size)
    have L := implDeed x.kind x.id _ x.session x.seq x.vec w1 (Lay.ints_reads R1)
    simp only [ToldDeed] at L
    rw [show writeFault x.kind x.id x.vec x.session x.seq = wF x from rfl] at L
    have HL := hide L
    have z0 : w1.cell? ⟨w.heap.size + 1, 0, none⟩ = some (.int .i64 0) := bR.at 0 _ rfl
    have z1 : w1.cell? ⟨w.heap.size + 1, 1, none⟩ = some (.slice none 0 0) := bR.at 1 _ rfl
    have f0 := bR.soft 0
    have f1 := bR.soft 1
    have l0 := bR.lt
    have c0 : w1.cell? ⟨w.heap.size, 0, none⟩ = some (.int .i64 x.kind) := bX.at 0 _ rfl
    have c1 : w1.cell? ⟨w.heap.size, 1, none⟩ = some (.int .i64 x.id) := bX.at 1 _ rfl
    have c2 : w1.cell? ⟨w.heap.size, 2, none⟩ = some (.slice a2 x.vec.length d2) := bX.at 2 _ rfl
    have c3 : w1.cell? ⟨w.heap.size, 3, none⟩ = some (.int .i64 x.session) := bX.at 3 _ rfl
    have c4 : w1.cell? ⟨w.heap.size, 4, none⟩ = some (.int .i64 x.seq) := bX.at 4 _ rfl
    have lx := bX.lt
    have HB := hide HB0
    have HT := hide hT
    have HR := hide bR
    have HX := hide bX
    clear hb HB0 hT bR bX h0 R0 R1 L
    go_wp2_with fail
    clear z0 z1 f0 f1 l0 c0 c1 c2 c3 c4 lx
    refine (unhide HL).mono ?_
    rintro e w2 ⟨rfl, hb⟩
    replace HT := hide ((unhide HT).later hb)
    replace HR := hide ((unhide HR).keep hb)
    replace HX := hide ((unhide HX).keep hb)
    replace HB := hide ((unhide HB).trans (hb.mono (unhide HB).size))
    clear hb HL
    by_cases hfw : wF x = 0
    · rw [hfw, show deedRes x.kind x.id x.vec x.session x.seq = deedV x.kind x.vec from if_pos hfw]
      have HG : Hid (applyR xs x = ⟨0, applyI xs x⟩) := by
        show applyR xs x = _
        rw [applyR, if_pos hf, if_pos hfw]
      have L := doC q 30 xs x w2 (unhide HT) (right_of hf) (by omega) hfw
      have HL := hide L
      have HRt := hide (right_apply (right_of hf) hfw)
      have c1 : w2.cell? ⟨w.heap.size, 1, none⟩ = some (.int .i64 x.id) := (unhide HX).at 1 _ rfl
      have lx := (unhide HX).lt
      generalize hdv : deedV x.kind x.vec = dv at *
      clear hdv hf hfw L
      go_wp2_with fail
      refine (unhide HL).mono ?_
      rintro e w3 ⟨rfl, hT3, hE3⟩
      have HL3 := hide (itemsC q 31 (applyI xs x) w3 hT3 (unhide HRt))
      replace HR := hide ((unhide HR).ext hE3 (by omega))
      replace HB := hide ((unhide HB).trans (hE3.below (unhide HB).size (fun c hc e => by omega)))
      clear hT3 hE3 HT HX HL HRt c1 lx
      go_wp2_with fail
      refine (unhide HL3).mono ?_
      rintro e w4 ⟨v9, rfl, hO, hb⟩
      obtain ⟨ao9, cp9, rfl⟩ := open_sl hO.reads
      have bR := (unhide HR).keep hb
      have z0 : w4.cell? ⟨w.heap.size + 1, 0, none⟩ = some (.int .i64 0) := bR.at 0 _ rfl
      have z1 : w4.cell? ⟨w.heap.size + 1, 1, none⟩ = some (.slice none 0 0) := bR.at 1 _ rfl
      have f0 := bR.soft 0
      have f1 := bR.soft 1
      have l0 := bR.lt
      have HB9 := hide ((unhide HB).trans (hb.mono (unhide HB).size))
      have HO9 := hide (hO.mono (lo' := w.heap.size + 2) (by have := (unhide HR).lt; omega) (Nat.le_refl _))
      clear hb bR hO
      go_wp2_with fail
      refine bodyPost_ret (v := .agg #[.int .i64 0, .slice ao9 (applyI xs x).length cp9]) (by simp [results, Try.results13, go_sem, z0, z1]) rfl ?_
      rw [unhide HG]
      have hE : Ext (fun c => c = w.heap.size + 1) w4 ((w4.setCell ⟨w.heap.size + 1, 0, none⟩ (.int .i64 0)).setCell ⟨w.heap.size + 1, 1, none⟩ (.slice ao9 (applyI xs x).length cp9)) := ((Ext.refl (fun c => c = w.heap.size + 1) _).setCell ⟨w.heap.size + 1, 0, none⟩ _ rfl).setCell ⟨w.heap.size + 1, 1, none⟩ _ rfl
      exact ⟨[.int .i64 0, .slice ao9 (applyI xs x).length cp9], rfl, own_items (by decide) (((unhide HO9).ext hE (fun c h1 _ h3 => by omega)).mono (by omega) (by simp)), ((unhide HB9).setCell (by simp) _).setCell (by simp) _⟩
    · have HG : Hid (applyR xs x = ⟨wF x, []⟩) := by
        show applyR xs x = _
        rw [applyR, if_pos hf, if_neg hfw]
      have hd : (wF x != 0) = true := by simpa using hfw
      have bR := unhide HR
      have z0 : w2.cell? ⟨w.heap.size + 1, 0, none⟩ = some (.int .i64 0) := bR.at 0 _ rfl
      have z1 : w2.cell? ⟨w.heap.size + 1, 1, none⟩ = some (.slice none 0 0) := bR.at 1 _ rfl
      have f0 := bR.soft 0
      have f1 := bR.soft 1
      have l0 := bR.lt
      generalize hdv : deedRes x.kind x.id x.vec x.session x.seq = dv at *
      clear hdv hf hfw bR HT HX
      go_wp2_with fail
      refine bodyPost_ret (v := .agg #[.int .i64 (wF x), .slice none 0 0]) (by simp [results, Try.results13, go_sem, z0, z1]) rfl ?_
      rw [unhide HG]
      exact ⟨[.int .i64 (wF x), .slice none 0 0], rfl, own_codeItems (wF_wf x), ((unhide HB).setCell (by simp) _).setCell (by simp) _⟩
  · have L := hide (tableFrom_bad _ xs W0 h0 hf)
    have HG : Hid (applyR xs x = ⟨tableFault xs, []⟩) := by
      show applyR xs x = _
      rw [applyR, if_neg hf]
    have hd : (tableFault xs != 0) = true := by simpa using hf
    refine (unhide L).mono ?_
    rintro e w1 ⟨rfl, hb⟩
    replace bR := bR.keep hb
    have z0 : w1.cell? ⟨w.heap.size + 1, 0, none⟩ = some (.int .i64 0) := bR.at 0 _ rfl
    have z1 : w1.cell? ⟨w.heap.size + 1, 1, none⟩ = some (.slice none 0 0) := bR.at 1 _ rfl
    have f0 := bR.soft 0
    have f1 := bR.soft 1
    have l0 := bR.lt
    have HB := hide (HB0.trans (hb.mono HB0.size))
    clear hb HB0 bR bX L hf h0 R0
    go_wp2_with fail
    refine bodyPost_ret (v := .agg #[.int .i64 (tableFault xs), .slice none 0 0]) (by simp [results, Try.results13, go_sem, z0, z1]) rfl ?_
    rw [unhide HG]
    exact ⟨[.int .i64 (tableFault xs), .slice none 0 0], rfl, own_codeItems (code_wf xs), ((unhide HB).setCell (by simp) _).setCell (by simp) _⟩

end Go.Proofs.Yteekfapjfpkidab
