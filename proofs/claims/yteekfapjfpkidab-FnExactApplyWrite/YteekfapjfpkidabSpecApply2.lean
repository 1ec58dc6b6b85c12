/-
  The model's ApplyWrite tells the table behind a write in new memory, or what is wrong; nothing old is written.
  No condition.
-/
import Derived.Test.YteekfapjfpkidabSpecApply
namespace Go.Proofs.Yteekfapjfpkidab
open Go.RowKit

theorem lies_items {w : World} {c : Int} {v : Value} {xs : List DItem} {lo hi : Nat} (hc : (Lit.int .i64 c).wf = true) (h : (Lay.sl Lay.tItem).LiesIn w [v] xs lo hi) : Lay.tTableResult.LiesIn w [.int .i64 c, v] ⟨c, xs⟩ lo hi := by
  obtain ⟨bl, l, i⟩ := h
  exact ⟨bl, ⟨[.int .i64 c], [v], [], bl, rfl, by simp, ⟨rfl, hc, rfl⟩, l⟩, i⟩

set_option maxRecDepth 10000 in
set_option maxHeartbeats 1000000 in
theorem specApply (v : Value) (xs : List DItem) (u : List Value) (x : DWrite) (w : World) (h : (Lay.sl Lay.tItem).Reads w [v] xs) (hx : Lay.tWrite.Reads w u x) :
    Calls Try.prog 10 #[v, .agg u.toArray] w fun e w' => ∃ cs, e = .returned (.agg cs.toArray) ∧ Lay.tTableResult.LiesIn w' cs (applyR xs x) w.heap.size w'.heap.size ∧ Below w.heap.size w w' := by
  obtain ⟨a2, d2, rfl, R2⟩ := open_Write hx
  clear hx
  have HB0 : Below w.heap.size w ((w.alloc (.cells #[.int .i64 x.kind, .int .i64 x.id, .slice a2 x.vec.length d2, .int .i64 x.session, .int .i64 x.seq] 33)).alloc (.cells #[.int .i64 0, .slice none 0 0] 30)) := ((Below.refl _ _).alloc (Nat.le_refl _) _).alloc (by simp) _
  have bX : Box w.heap.size #[.int .i64 x.kind, .int .i64 x.id, .slice a2 x.vec.length d2, .int .i64 x.session, .int .i64 x.seq] 33 ((w.alloc (.cells #[.int .i64 x.kind, .int .i64 x.id, .slice a2 x.vec.length d2, .int .i64 x.session, .int .i64 x.seq] 33)).alloc (.cells #[.int .i64 0, .slice none 0 0] 30)) w.heap.size := (newBox (Nat.le_refl _)).grow _
  have bR : Box w.heap.size #[.int .i64 0, .slice none 0 0] 30 ((w.alloc (.cells #[.int .i64 x.kind, .int .i64 x.id, .slice a2 x.vec.length d2, .int .i64 x.session, .int .i64 x.seq] 33)).alloc (.cells #[.int .i64 0, .slice none 0 0] 30)) (w.heap.size + 1) := newBoxAt (by omega) (by simp)
  have h0 := h.later HB0
  have R0 := R2.later HB0
  obtain ⟨ao, cap, rfl⟩ := open_sl h
  clear h R2
  go_enter Try.func10, Try.ntmps10
  go_wp2_with fail
  generalize (w.alloc (.cells #[.int .i64 x.kind, .int .i64 x.id, .slice a2 x.vec.length d2, .int .i64 x.session, .int .i64 x.seq] 33)).alloc (.cells #[.int .i64 0, .slice none 0 0] 30) = W0 at *
  refine (specTab _ xs W0 h0).mono ?_
  rintro e w1 ⟨rfl, hb⟩
  have h1 := h0.later hb
  have R1 := R0.later hb
  replace bR := bR.keep hb
  replace bX := bX.keep hb
  replace HB0 := HB0.trans (hb.mono HB0.size)
  have z0 : w1.cell? ⟨w.heap.size + 1, 0, none⟩ = some (.int .i64 0) := bR.at 0 _ rfl
  have z1 : w1.cell? ⟨w.heap.size + 1, 1, none⟩ = some (.slice none 0 0) := bR.at 1 _ rfl
  have f0 := bR.soft 0
  have f1 := bR.soft 1
  have l0 := bR.lt
  have hA : WriteAtO w1 w.heap.size 0 x.kind x.id (.slice a2 x.vec.length d2) x.session x.seq := ⟨bX.at 0 _ rfl, bX.at 1 _ rfl, bX.at 2 _ rfl, bX.at 3 _ rfl, bX.at 4 _ rfl⟩
  have HB := hide HB0
  have HR := hide bR
  clear hb HB0 bX bR h0 R0
  by_cases hf : tableFault xs = 0
  · rw [hf]
    have L := l3FaultO w.heap.size 0 x.kind x.id _ x.session x.seq x.vec w1 hA (Lay.ints_reads R1)
    rw [show writeFault x.kind x.id x.vec x.session x.seq = wF x from rfl] at L
    have HL := hide L
    have HA := hide hA
    have HR1 := hide R1
    have H1 := hide h1
    clear L hA R1 h1
    go_wp2_with fail
    refine (unhide HL).mono ?_
    rintro e w1 ⟨rfl, rfl⟩
    by_cases hfw : wF x = 0
    · rw [hfw]
      have HG : Hid (applyR xs x = ⟨0, applyI xs x⟩) := by
        show applyR xs x = _
        rw [applyR, if_pos hf, if_pos hfw]
      have HL2 := hide (specApplyC _ xs w.heap.size 0 _ x w1 (unhide H1) (right_of hf) (unhide HA) (unhide HR1) hfw)
      clear hf hfw HL HA HR1 H1
      go_wp2_with fail
      clear z0 z1 f0 f1 l0
      refine (unhide HL2).mono ?_
      rintro e w2 ⟨v9, rfl, hO, hb⟩
      obtain ⟨ao9, cp9, rfl⟩ := open_sl hO.reads
      have bR := (unhide HR).keep hb
      have z0 : w2.cell? ⟨w.heap.size + 1, 0, none⟩ = some (.int .i64 0) := bR.at 0 _ rfl
      have z1 : w2.cell? ⟨w.heap.size + 1, 1, none⟩ = some (.slice none 0 0) := bR.at 1 _ rfl
      have f0 := bR.soft 0
      have f1 := bR.soft 1
      have l0 := bR.lt
      have HB9 := hide ((unhide HB).trans (hb.mono (unhide HB).size))
      have HO9 := hide (hO.mono (lo' := w.heap.size + 2) (by have := (unhide HR).lt; omega) (Nat.le_refl _))
      clear hb bR hO
      go_wp2_with fail
      refine bodyPost_ret (v := .agg #[.int .i64 0, .slice ao9 (applyI xs x).length cp9]) (by simp [results, Try.results10, go_sem, z0, z1]) rfl ?_
      rw [unhide HG]
      have hE : Ext (fun c => c = w.heap.size + 1) w2 ((w2.setCell ⟨w.heap.size + 1, 0, none⟩ (.int .i64 0)).setCell ⟨w.heap.size + 1, 1, none⟩ (.slice ao9 (applyI xs x).length cp9)) := ((Ext.refl (fun c => c = w.heap.size + 1) _).setCell ⟨w.heap.size + 1, 0, none⟩ _ rfl).setCell ⟨w.heap.size + 1, 1, none⟩ _ rfl
      exact ⟨[.int .i64 0, .slice ao9 (applyI xs x).length cp9], rfl, lies_items (by decide) (((unhide HO9).ext hE (fun c h1 _ h3 => by omega)).mono (by omega) (by simp)), ((unhide HB9).setCell (by simp) _).setCell (by simp) _⟩
    · have HG : Hid (applyR xs x = ⟨wF x, []⟩) := by
        show applyR xs x = _
        rw [applyR, if_pos hf, if_neg hfw]
      have hd : (wF x != 0) = true := by simpa using hfw
      clear hf hfw HL HA HR1 H1
      go_wp2_with fail
      refine bodyPost_ret (v := .agg #[.int .i64 (wF x), .slice none 0 0]) (by simp [results, Try.results10, go_sem, z0, z1]) rfl ?_
      rw [unhide HG]
      exact ⟨[.int .i64 (wF x), .slice none 0 0], rfl, (own_codeItems (wF_wf x)).lies, ((unhide HB).setCell (by simp) _).setCell (by simp) _⟩
  · have HG : Hid (applyR xs x = ⟨tableFault xs, []⟩) := by
      show applyR xs x = _
      rw [applyR, if_neg hf]
    have hd : (tableFault xs != 0) = true := by simpa using hf
    clear hf hA R1 h1
    go_wp2_with fail
    refine bodyPost_ret (v := .agg #[.int .i64 (tableFault xs), .slice none 0 0]) (by simp [results, Try.results10, go_sem, z0, z1]) rfl ?_
    rw [unhide HG]
    exact ⟨[.int .i64 (tableFault xs), .slice none 0 0], rfl, (own_codeItems (code_wf xs)).lies, ((unhide HB).setCell (by simp) _).setCell (by simp) _⟩

end Go.Proofs.Yteekfapjfpkidab
