/-
  The program's DropItem tells the table without an item in new memory, or what is wrong; nothing old is written.
  No condition.
-/
import Derived.Test.YteekfapjfpkidabImplItems
import Derived.Test.YteekfapjfpkidabImplDropM
import Derived.Test.YteekfapjfpkidabTabGround
namespace Go.Proofs.Yteekfapjfpkidab
open Go.RowKit

set_option maxRecDepth 10000 in
set_option maxHeartbeats 1000000 in
theorem implDrop (v : Value) (xs : List DItem) (id : Int) (w : World) (h : (Lay.sl Lay.tItem).Reads w [v] xs) (hw : (Lit.int .i64 id).wf = true) :
    Calls Try.prog 31 #[v, .int .i64 id] w fun e w' => ∃ cs, e = .returned (.agg cs.toArray) ∧ Lay.tTableResult.OwnIn w' cs (dropR xs id) w.heap.size w'.heap.size ∧ Below w.heap.size w w' := by
  have HB0 : Below w.heap.size w (w.alloc (.cells #[.int .i64 0, .slice none 0 0] 30)) := (Below.refl _ _).alloc (Nat.le_refl _) _
  have bR : Box w.heap.size #[.int .i64 0, .slice none 0 0] 30 (w.alloc (.cells #[.int .i64 0, .slice none 0 0] 30)) w.heap.size := newBox (Nat.le_refl _)
  have H := hide (h.later HB0)
  obtain ⟨ao, cap, rfl⟩ := open_sl h
  clear h
  go_enter Try.func31, Try.ntmps31
  go_wp2_with fail
  generalize w.alloc (.cells #[.int .i64 0, .slice none 0 0] 30) = W0 at *
  by_cases hf : tableFault xs = 0
  · refine (tableFrom_ok _ xs W0 (unhide H) hf).mono ?_
    rintro e w1 ⟨⟨q, rfl, hq, hT⟩, hb⟩
    have hq1 : w.heap.size < q := by have := bR.lt; omega
    replace bR := bR.keep hb
    replace HB0 := HB0.trans (hb.mono HB0.size)
    have z0 : w1.cell? ⟨w.heap.size, 0, none⟩ = some (.int .i64 0) := bR.at 0 _ rfl
    have z1 : w1.cell? ⟨w.heap.size, 1, none⟩ = some (.slice none 0 0) := bR.at 1 _ rfl
    have f0 := bR.soft 0
    have f1 := bR.soft 1
    have l0 := bR.lt
    have HB := hide HB0
    have HT := hide hT
    have HR := hide bR
    clear hb HB0 hT bR H
    go_wp2_with fail
    refine (implId id _).mono ?_
    rintro e w1 ⟨rfl, rfl⟩
    rw [show (decide (1 ≤ id) && decide (id ≤ 999)) = idB id from rfl]
    cases hid : idB id with
    | false =>
      have HG : Hid (dropR xs id = ⟨3, []⟩) := by
        show dropR xs id = ⟨3, []⟩
        rw [dropR, if_pos hf, hid, if_neg (by simp)]
      clear hid hf
      go_wp2_with fail
      refine bodyPost_ret (v := .agg #[.int .i64 3, .slice none 0 0]) (by simp [results, Try.results31, go_sem, z0, z1]) rfl ?_
      rw [unhide HG]
      exact ⟨[.int .i64 3, .slice none 0 0], rfl, own_codeItems (by decide), ((unhide HB).setCell (by simp) _).setCell (by simp) _⟩
    | true =>
      have HG : Hid (dropR xs id = ⟨0, dropI xs id⟩) := by
        show dropR xs id = ⟨0, dropI xs id⟩
        rw [dropR, if_pos hf, hid, if_pos rfl]
      have hRt := right_drop (right_of hf) id
      have HRt := hide hRt
      clear hid hf hRt
      go_wp2_with fail
      clear z0 z1 f0 f1 l0
      refine (dropM q 30 xs id _ (unhide HT) hw).mono ?_
      rintro e w2 ⟨rfl, hT2, hE2⟩
      have bR := (unhide HR).ext hE2 (by omega)
      have HB2 := hide ((unhide HB).trans (hE2.below (unhide HB).size (fun c hc e => by omega)))
      have L := itemsC q 30 (dropI xs id) w2 hT2 (unhide HRt)
      have HL := hide L
      clear HT HR HB hT2 hE2 L
      have HR := hide bR
      have HB := HB2
      clear bR HB2
      go_wp2_with fail
      refine (unhide HL).mono ?_
      rintro e w3 ⟨v9, rfl, hO, hb⟩
      obtain ⟨ao9, cp9, rfl⟩ := open_sl hO.reads
      have bR := (unhide HR).keep hb
      have z0 : w3.cell? ⟨w.heap.size, 0, none⟩ = some (.int .i64 0) := bR.at 0 _ rfl
      have z1 : w3.cell? ⟨w.heap.size, 1, none⟩ = some (.slice none 0 0) := bR.at 1 _ rfl
      have f0 := bR.soft 0
      have f1 := bR.soft 1
      have l0 := bR.lt
      have HB9 := hide ((unhide HB).trans (hb.mono (unhide HB).size))
      have HO9 := hide (hO.mono (lo' := w.heap.size + 1) (by have := (unhide HR).lt; omega) (Nat.le_refl _))
      clear hO hb bR
      go_wp2_with fail
      refine bodyPost_ret (v := .agg #[.int .i64 0, .slice ao9 (dropI xs id).length cp9]) (by simp [results, Try.results31, go_sem, z0, z1]) rfl ?_
      rw [unhide HG]
      have hE : Ext (fun c => c = w.heap.size) w3 ((w3.setCell ⟨w.heap.size, 0, none⟩ (.int .i64 0)).setCell ⟨w.heap.size, 1, none⟩ (.slice ao9 (dropI xs id).length cp9)) := ((Ext.refl (fun c => c = w.heap.size) _).setCell ⟨w.heap.size, 0, none⟩ _ rfl).setCell ⟨w.heap.size, 1, none⟩ _ rfl
      refine ⟨[.int .i64 0, .slice ao9 (dropI xs id).length cp9], rfl, own_items (by decide) ?_, ((unhide HB9).setCell (by simp) _).setCell (by simp) _⟩
      exact ((unhide HO9).ext hE (fun c h1 _ h3 => by omega)).mono (by omega) (by simp)
  · have L := hide (tableFrom_bad _ xs W0 (unhide H) hf)
    have HG : Hid (dropR xs id = ⟨tableFault xs, []⟩) := by
      show dropR xs id = ⟨tableFault xs, []⟩
      rw [dropR, if_neg hf]
    have hd : (tableFault xs != 0) = true := by simpa using hf
    clear H
    refine (unhide L).mono ?_
    rintro e w1 ⟨rfl, hb⟩
    replace bR := bR.keep hb
    have z0 : w1.cell? ⟨w.heap.size, 0, none⟩ = some (.int .i64 0) := bR.at 0 _ rfl
    have z1 : w1.cell? ⟨w.heap.size, 1, none⟩ = some (.slice none 0 0) := bR.at 1 _ rfl
    have f0 := bR.soft 0
    have f1 := bR.soft 1
    have l0 := bR.lt
    have HB := hide (HB0.trans (hb.mono HB0.size))
    clear hb HB0 bR L hf
    go_wp2_with fail
    refine bodyPost_ret (v := .agg #[.int .i64 (tableFault xs), .slice none 0 0]) (by simp [results, Try.results31, go_sem, z0, z1]) rfl ?_
    rw [unhide HG]
    exact ⟨[.int .i64 (tableFault xs), .slice none 0 0], rfl, own_codeItems (code_wf xs), ((unhide HB).setCell (by simp) _).setCell (by simp) _⟩

end Go.Proofs.Yteekfapjfpkidab
