/-
  The model's PutItem tells a table in new memory, or what is wrong; nothing old is written.
  No condition.
-/
import Derived.Test.YteekfapjfpkidabSpecSet2
import Derived.Test.YteekfapjfpkidabSpecAsk
namespace Go.Proofs.Yteekfapjfpkidab
open Go.RowKit

set_option maxRecDepth 10000 in
set_option maxHeartbeats 1000000 in
theorem specPut (v : Value) (xs : List DItem) (id : Int) (vv : Value) (vec : List Int) (w : World) (h : (Lay.sl Lay.tItem).Reads w [v] xs) (hv : (Lay.sl Lay.int).Reads w [vv] vec) :
    Calls Try.prog 30 #[v, .int .i64 id, vv] w fun e w' => ∃ cs, e = .returned (.agg cs.toArray) ∧ Lay.tTableResult.Reads w' cs (putR xs id vec) ∧ Below w.heap.size w w' := by
  have HB0 : Below w.heap.size w (w.alloc (.cells #[.int .i64 0, .slice none 0 0] 30)) := (Below.refl _ _).alloc (Nat.le_refl _) _
  have bR : Box w.heap.size #[.int .i64 0, .slice none 0 0] 30 (w.alloc (.cells #[.int .i64 0, .slice none 0 0] 30)) w.heap.size := newBox (Nat.le_refl _)
  have h0 := h.later HB0
  obtain ⟨ao, cap, rfl⟩ := open_sl h
  have hv0 := hv.later HB0
  obtain ⟨ao2, cap2, rfl⟩ := open_sl hv
  clear hv
  clear h
  go_enter Try.func30, Try.ntmps30
  go_wp2_with fail
  generalize w.alloc (.cells #[.int .i64 0, .slice none 0 0] 30) = W0 at *
  refine (specAsked _ xs id W0 h0).mono ?_
  rintro e w1 ⟨rfl, hb⟩
  have h1 := h0.later hb
  have HV := hide (hv0.later hb)
  clear hv0
  replace bR := bR.keep hb
  replace HB0 := HB0.trans (hb.mono HB0.size)
  have z0 : w1.cell? ⟨w.heap.size, 0, none⟩ = some (.int .i64 0) := bR.at 0 _ rfl
  have z1 : w1.cell? ⟨w.heap.size, 1, none⟩ = some (.slice none 0 0) := bR.at 1 _ rfl
  have f0 := bR.soft 0
  have f1 := bR.soft 1
  have l0 := bR.lt
  have HB := hide HB0
  have HR := hide bR
  have H := hide h1
  clear hb HB0 bR h0 h1
  by_cases hf : askF xs id = 0
  · rw [hf]
    obtain ⟨h1, h2⟩ := ask_zero hf
    have HG0 : Hid (putR xs id vec = if vecFault vec = 0 then (if roomB xs id then ⟨0, putI xs id vec⟩ else ⟨2, []⟩) else ⟨vecFault vec, []⟩) := by
      show putR xs id vec = _
      rw [putR, if_pos h1, h2, if_pos rfl]
    have HF := hide h1
    have HID := hide h2
    clear hf h1 h2
    go_wp2_with fail
    refine (modelFault _ vec _ (Lay.ints_reads (unhide HV))).mono ?_
    rintro e w1 ⟨rfl, rfl⟩
    by_cases hvf : vecFault vec = 0
    · rw [hvf]
      rw [if_pos hvf] at HG0
      have hv3 := (vecFault_zero hvf).1
      obtain ⟨s1, s2⟩ := right_small (right_of (unhide HF))
      have L := specSet _ xs id vec _ true w1 (unhide H) (unhide HV) (id_wf (unhide HID)) s1 s2 (by omega)
      rw [setM_put (tableFault_zero (unhide HF)).2.2] at L
      have HL := hide L
      have LA := hide (specAt _ xs id w1 (unhide H))
      have hbig : xs.length ≤ 1000000 := s1
      clear s1 s2 L H HV hvf hv3
      cases hro : roomB xs id with
      | true =>
        have HG : Hid (putR xs id vec = ⟨0, putI xs id vec⟩) := by
          show putR xs id vec = _
          rw [unhide HG0, hro, if_pos rfl]
        clear HG0
        by_cases hl : xs.length < 30
        · have hd : decide ((30 : Int) ≤ (xs.length : Int)) = false := by simp; omega
          clear hro LA
          go_wp2_with fail
          clear z0 z1 f0 f1 l0
          refine (unhide HL).mono ?_
          rintro e w2 ⟨v9, rfl, hO, hb⟩
          obtain ⟨ao9, cp9, rfl⟩ := open_sl hO.reads
          have bR := (unhide HR).keep hb
          have z0 : w2.cell? ⟨w.heap.size, 0, none⟩ = some (.int .i64 0) := bR.at 0 _ rfl
          have z1 : w2.cell? ⟨w.heap.size, 1, none⟩ = some (.slice none 0 0) := bR.at 1 _ rfl
          have f0 := bR.soft 0
          have f1 := bR.soft 1
          have l0 := bR.lt
          have HB9 := hide ((unhide HB).trans (hb.mono (unhide HB).size))
          have HO9 := hide (hO.mono (lo' := w.heap.size + 1) (by have := (unhide HR).lt; omega) (Nat.le_refl _))
          clear hb bR hO
          go_wp2_with fail
          refine bodyPost_ret (v := .agg #[.int .i64 0, .slice ao9 (putI xs id vec).length cp9]) (by simp [results, Try.results30, go_sem, z0, z1]) rfl ?_
          rw [unhide HG]
          have hE : Ext (fun c => c = w.heap.size) w2 ((w2.setCell ⟨w.heap.size, 0, none⟩ (.int .i64 0)).setCell ⟨w.heap.size, 1, none⟩ (.slice ao9 (putI xs id vec).length cp9)) := ((Ext.refl (fun c => c = w.heap.size) _).setCell ⟨w.heap.size, 0, none⟩ _ rfl).setCell ⟨w.heap.size, 1, none⟩ _ rfl
          exact ⟨[.int .i64 0, .slice ao9 (putI xs id vec).length cp9], rfl, reads_items (by decide) ((unhide HO9).ext hE (fun c h1 _ h3 => by omega)).reads, ((unhide HB9).setCell (by simp) _).setCell (by simp) _⟩
        · have hd : decide ((30 : Int) ≤ (xs.length : Int)) = true := by simp; omega
          have hh : hasI xs id = true := by
            rcases room_true hro with h | h
            · exact h
            · omega
          have HH := hide hh
          clear hro hh
          go_wp2_with fail
          refine (unhide LA).mono ?_
          rintro e w1 ⟨⟨r, rfl, hA⟩, rfl⟩
          rcases hA with ⟨rfl, hno⟩ | ⟨k, hk, rfl, -⟩
          · rw [unhide HH] at hno; cases hno
          · have hd2 : decide ((k : Int) < 0) = false := by simp
            go_wp2_with fail
            clear z0 z1 f0 f1 l0
            refine (unhide HL).mono ?_
            rintro e w2 ⟨v9, rfl, hO, hb⟩
            obtain ⟨ao9, cp9, rfl⟩ := open_sl hO.reads
            have bR := (unhide HR).keep hb
            have z0 : w2.cell? ⟨w.heap.size, 0, none⟩ = some (.int .i64 0) := bR.at 0 _ rfl
            have z1 : w2.cell? ⟨w.heap.size, 1, none⟩ = some (.slice none 0 0) := bR.at 1 _ rfl
            have f0 := bR.soft 0
            have f1 := bR.soft 1
            have l0 := bR.lt
            have HB9 := hide ((unhide HB).trans (hb.mono (unhide HB).size))
            have HO9 := hide (hO.mono (lo' := w.heap.size + 1) (by have := (unhide HR).lt; omega) (Nat.le_refl _))
            clear hb bR hO
            go_wp2_with fail
            refine bodyPost_ret (v := .agg #[.int .i64 0, .slice ao9 (putI xs id vec).length cp9]) (by simp [results, Try.results30, go_sem, z0, z1]) rfl ?_
            rw [unhide HG]
            have hE : Ext (fun c => c = w.heap.size) w2 ((w2.setCell ⟨w.heap.size, 0, none⟩ (.int .i64 0)).setCell ⟨w.heap.size, 1, none⟩ (.slice ao9 (putI xs id vec).length cp9)) := ((Ext.refl (fun c => c = w.heap.size) _).setCell ⟨w.heap.size, 0, none⟩ _ rfl).setCell ⟨w.heap.size, 1, none⟩ _ rfl
            exact ⟨[.int .i64 0, .slice ao9 (putI xs id vec).length cp9], rfl, reads_items (by decide) ((unhide HO9).ext hE (fun c h1 _ h3 => by omega)).reads, ((unhide HB9).setCell (by simp) _).setCell (by simp) _⟩
      | false =>
        have HG : Hid (putR xs id vec = ⟨2, []⟩) := by
          show putR xs id vec = _
          rw [unhide HG0, hro, if_neg (by simp)]
        obtain ⟨r1, r2⟩ := room_false hro
        have hd : decide ((30 : Int) ≤ (xs.length : Int)) = true := by simp; omega
        have HH := hide r1
        clear hro r1 HG0 HL
        go_wp2_with fail
        refine (unhide LA).mono ?_
        rintro e w1 ⟨⟨r, rfl, hA⟩, rfl⟩
        rcases hA with ⟨rfl, hno⟩ | ⟨k, hk, rfl, hfd⟩
        · clear hno
          go_wp2_with fail
          refine bodyPost_ret (v := .agg #[.int .i64 2, .slice none 0 0]) (by simp [results, Try.results30, go_sem, z0, z1]) rfl ?_
          rw [unhide HG]
          exact ⟨[.int .i64 2, .slice none 0 0], rfl, (own_codeItems (lo := 0) (hi := 0) (by decide)).reads, ((unhide HB).setCell (by simp) _).setCell (by simp) _⟩
        · obtain ⟨hx, hxi⟩ := find_at hfd
          exact absurd hxi (hasI_false (unhide HH) _ hx)
    · have HG : Hid (putR xs id vec = ⟨vecFault vec, []⟩) := by
        show putR xs id vec = _
        rw [unhide HG0, if_neg hvf]
      have hd : (vecFault vec != 0) = true := by simpa using hvf
      clear hvf HG0 HV H
      go_wp2_with fail
      refine bodyPost_ret (v := .agg #[.int .i64 (vecFault vec), .slice none 0 0]) (by simp [results, Try.results30, go_sem, z0, z1]) rfl ?_
      rw [unhide HG]
      exact ⟨[.int .i64 (vecFault vec), .slice none 0 0], rfl, (own_codeItems (lo := 0) (hi := 0) (vcode_wf vec)).reads, ((unhide HB).setCell (by simp) _).setCell (by simp) _⟩
  · have HG : Hid (putR xs id vec = ⟨askF xs id, []⟩) := by
      show putR xs id vec = ⟨askF xs id, []⟩
      unfold putR askF
      unfold askF at hf
      by_cases h1 : tableFault xs = 0
      · rw [if_pos h1] at hf ⊢
        rw [if_pos h1]
        cases h2 : idB id with
        | true => rw [h2] at hf; exact absurd rfl hf
        | false => rfl
      · rw [if_neg h1, if_neg h1]
    have hd : (askF xs id != 0) = true := by simpa using hf
    have hcw : (Lit.int .i64 (askF xs id)).wf = true := wf_of_bd (by have := ask_vals xs id; omega)
    have HC := hide hcw
    clear hf hcw H HV
    go_wp2_with fail
    refine bodyPost_ret (v := .agg #[.int .i64 (askF xs id), .slice none 0 0]) (by simp [results, Try.results30, go_sem, z0, z1]) rfl ?_
    rw [unhide HG]
    exact ⟨[.int .i64 (askF xs id), .slice none 0 0], rfl, (own_codeItems (lo := 0) (hi := 0) (unhide HC)).reads, ((unhide HB).setCell (by simp) _).setCell (by simp) _⟩

end Go.Proofs.Yteekfapjfpkidab
