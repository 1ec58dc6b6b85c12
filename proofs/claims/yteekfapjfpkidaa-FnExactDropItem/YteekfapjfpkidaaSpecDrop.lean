/-
  The model's DropItem tells a table in new memory, or what is wrong; nothing old is written.
  No condition.
-/
import Derived.Test.YteekfapjfpkidaaSpecSet2
import Derived.Test.YteekfapjfpkidaaSpecAsk
namespace Go.Proofs.Yteekfapjfpkidaa
open Go.RowKit

set_option maxRecDepth 10000 in
set_option maxHeartbeats 1000000 in
theorem specDrop (v : Value) (xs : List DItem) (id : Int) (w : World) (h : (Lay.sl Lay.tItem).Reads w [v] xs) :
    Calls Try.prog 35 #[v, .int .i64 id] w fun e w' => ∃ cs, e = .returned (.agg cs.toArray) ∧ Lay.tTableResult.Reads w' cs (dropR xs id) ∧ Below w.heap.size w w' := by
  have HB0 : Below w.heap.size w (w.alloc (.cells #[.int .i64 0, .slice none 0 0] 49)) := (Below.refl _ _).alloc (Nat.le_refl _) _
  have bR : Box w.heap.size #[.int .i64 0, .slice none 0 0] 49 (w.alloc (.cells #[.int .i64 0, .slice none 0 0] 49)) w.heap.size := newBox (Nat.le_refl _)
  have h0 := h.later HB0
  obtain ⟨ao, cap, rfl⟩ := open_sl h
  clear h
  go_enter Try.func35, Try.ntmps35
  go_wp2_with fail
  generalize w.alloc (.cells #[.int .i64 0, .slice none 0 0] 49) = W0 at *
  refine (specAsked _ xs id W0 h0).mono ?_
  rintro e w1 ⟨rfl, hb⟩
  have h1 := h0.later hb
  replace bR := bR.keep hb
  replace HB0 := HB0.trans (hb.mono HB0.size)
  have z0 : w1.cell? ⟨w.heap.size, 0, none⟩ = some (.int .i64 0) := bR.at 0 _ rfl
  have z1 : w1.cell? ⟨w.heap.size, 1, none⟩ = some (.slice none 0 0) := bR.at 1 _ rfl
  have f0 := bR.soft 0
  have f1 := bR.soft 1
  have l0 := bR.lt
  have HB := hide HB0
  have HR := hide bR
  have H := hide h1
  clear hb HB0 bR h0 h1
  by_cases hf : askF xs id = 0
  · rw [hf]
    obtain ⟨h1, h2⟩ := ask_zero hf
    have HG : Hid (dropR xs id = ⟨0, dropI xs id⟩) := by
      show dropR xs id = _
      rw [dropR, if_pos h1, h2, if_pos rfl]
    obtain ⟨s1, s2⟩ := right_small (right_of h1)
    have L := specSet _ xs id [] (.slice none 0 0) false w1 (unhide H) (own_noInts (lo := 0) (hi := 0)).reads (id_wf h2) s1 s2 (by simp)
    rw [setM_drop] at L
    have HL := hide L
    clear hf h1 h2 s1 s2 L H
    go_wp2_with fail
    clear z0 z1 f0 f1 l0
    refine (unhide HL).mono ?_
    rintro e w2 ⟨v9, rfl, hO, hb⟩
    obtain ⟨ao9, cp9, rfl⟩ := open_sl hO.reads
    have bR := (unhide HR).keep hb
    have z0 : w2.cell? ⟨w.heap.size, 0, none⟩ = some (.int .i64 0) := bR.at 0 _ rfl
    have z1 : w2.cell? ⟨w.heap.size, 1, none⟩ = some (.slice none 0 0) := bR.at 1 _ rfl
    have f0 := bR.soft 0
    have f1 := bR.soft 1
    have l0 := bR.lt
    have HB9 := hide ((unhide HB).trans (hb.mono (unhide HB).size))
    have HO9 := hide (hO.mono (lo' := w.heap.size + 1) (by have := (unhide HR).lt; omega) (Nat.le_refl _))
    clear hb bR hO
    go_wp2_with fail
    refine bodyPost_ret (v := .agg #[.int .i64 0, .slice ao9 (dropI xs id).length cp9]) (by simp [results, Try.results35, go_sem, z0, z1]) rfl ?_
    rw [unhide HG]
    have hE : Ext (fun c => c = w.heap.size) w2 ((w2.setCell ⟨w.heap.size, 0, none⟩ (.int .i64 0)).setCell ⟨w.heap.size, 1, none⟩ (.slice ao9 (dropI xs id).length cp9)) := ((Ext.refl (fun c => c = w.heap.size) _).setCell ⟨w.heap.size, 0, none⟩ _ rfl).setCell ⟨w.heap.size, 1, none⟩ _ rfl
    exact ⟨[.int .i64 0, .slice ao9 (dropI xs id).length cp9], rfl, reads_items (by decide) ((unhide HO9).ext hE (fun c h1 _ h3 => by omega)).reads, ((unhide HB9).setCell (by simp) _).setCell (by simp) _⟩
  · have HG : Hid (dropR xs id = ⟨askF xs id, []⟩) := by
      show dropR xs id = ⟨askF xs id, []⟩
      unfold dropR askF
      unfold askF at hf
      by_cases h1 : tableFault xs = 0
      · rw [if_pos h1] at hf ⊢
        rw [if_pos h1]
        cases h2 : idB id with
        | true => rw [h2] at hf; exact absurd rfl hf
        | false => rfl
      · rw [if_neg h1, if_neg h1]
    have hd : (askF xs id != 0) = true := by simpa using hf
    have hcw : (Lit.int .i64 (askF xs id)).wf = true := wf_of_bd (by have := ask_vals xs id; omega)
    have HC := hide hcw
    clear hf hcw H
    go_wp2_with fail
    refine bodyPost_ret (v := .agg #[.int .i64 (askF xs id), .slice none 0 0]) (by simp [results, Try.results35, go_sem, z0, z1]) rfl ?_
    rw [unhide HG]
    exact ⟨[.int .i64 (askF xs id), .slice none 0 0], rfl, (own_codeItems (lo := 0) (hi := 0) (unhide HC)).reads, ((unhide HB).setCell (by simp) _).setCell (by simp) _⟩

end Go.Proofs.Yteekfapjfpkidaa
