/-
  SearchTable of the model: the nearest items, or what is wrong; in new memory; nothing old is written.
  No condition.
-/
import Derived.Test.YtkodenmpadehjabSpecTab
import Derived.Test.YtkodenmpadehjabSpecHits
import Derived.Test.YtkodenmpadehjabHitOpsB
import Derived.Test.YtkodenmpadehjabFault
import Derived.Test.YtkodenmpadehjabImplSearchH
import Derived.Test.YtkodenmpadehjabTabGround
namespace Go.Proofs.Ytkodenmpadehjab
open Go.RowKit

set_option maxRecDepth 10000 in
set_option maxHeartbeats 1000000 in
theorem specSearchH (v : Value) (xs : List DItem) (vq : Value) (q : List Int) (k : Int) (w : World) (h : (Lay.sl Lay.tItem).Reads w [v] xs) (hq : (Lay.sl Lay.int).Reads w [vq] q) :
    Calls Try.prog 7 #[v, vq, .int .i64 k] w fun e w' => ∃ cs, e = .returned (.agg cs.toArray) ∧ Lay.tHitsResult.Reads w' cs (searchR xs q k) ∧ HitsAt w' cs ((searchR xs q k).hits.map pairH) ∧ Below w.heap.size w w' := by
  have HB0 : Below w.heap.size w (w.alloc (.cells #[.int .i64 0, .slice none 0 0] 30)) := (Below.refl _ _).alloc (Nat.le_refl _) _
  have bR : Box w.heap.size #[.int .i64 0, .slice none 0 0] 30 (w.alloc (.cells #[.int .i64 0, .slice none 0 0] 30)) w.heap.size := newBox (Nat.le_refl _)
  have h0 := h.later HB0
  have HQ := hide (Lay.ints_reads (hq.later HB0))
  obtain ⟨ao, cap, rfl⟩ := open_sl h
  obtain ⟨ao2, cap2, rfl⟩ := open_sl hq
  clear h hq
  go_enter Try.func7, Try.ntmps7
  go_wp2_with fail
  generalize w.alloc (.cells #[.int .i64 0, .slice none 0 0] 30) = W0 at *
  refine (specTab _ xs W0 h0).mono ?_
  rintro e w1 ⟨rfl, hb⟩
  have H := hide (h0.later hb)
  replace HQ := hide ((unhide HQ).later hb)
  replace bR := bR.keep hb
  replace HB0 := HB0.trans (hb.mono HB0.size)
  have z0 : w1.cell? ⟨w.heap.size, 0, none⟩ = some (.int .i64 0) := bR.at 0 _ rfl
  have z1 : w1.cell? ⟨w.heap.size, 1, none⟩ = some (.slice none 0 0) := bR.at 1 _ rfl
  have f0 := bR.soft 0
  have f1 := bR.soft 1
  have l0 := bR.lt
  have HB := hide HB0
  have HR := hide bR
  clear hb HB0 bR h0
  by_cases hf : tableFault xs = 0
  · rw [hf]
    go_wp2_with fail
    refine (modelFault _ q _ (unhide HQ)).mono ?_
    rintro e w1 ⟨rfl, rfl⟩
    by_cases hfq : vecFault q = 0
    · rw [hfq]
      have HF := hide hf
      have HFQ := hide hfq
      clear hf hfq
      go_wp2_with fail
      refine (l2K k _).mono ?_
      rintro e w1 ⟨rfl, rfl⟩
      rw [show (decide (0 ≤ k) && decide (k ≤ 20)) = kB k from rfl]
      cases hk : kB k with
      | false =>
        have HG : Hid (searchR xs q k = ⟨3, []⟩) := by
          show searchR xs q k = _
          rw [searchR, if_pos (unhide HF), if_pos (unhide HFQ), hk, if_neg (by simp)]
        clear hk
        go_wp2_with fail
        refine bodyPost_ret (v := .agg #[.int .i64 3, .slice none 0 0]) (by simp [results, Try.results7, go_sem, z0, z1]) rfl ?_
        rw [unhide HG]
        exact ⟨[.int .i64 3, .slice none 0 0], rfl, (own_codeHits (lo := 0) (hi := 0) (by decide)).reads, ⟨_, _, rfl, noHits _⟩, ((unhide HB).setCell (by simp) _).setCell (by simp) _⟩
      | true =>
        have HG : Hid (searchR xs q k = ⟨0, (best k.toNat ((hitsL xs q).map pairH)).map dhit⟩) := by
          show searchR xs q k = _
          rw [searchR, if_pos (unhide HF), if_pos (unhide HFQ), hk, if_pos rfl]
        have hkb : 0 ≤ k ∧ k ≤ 20 := by simpa [kB] using hk
        have HBC := hide (best_code (unhide HF) (unhide HFQ) hk)
        have HHR := hide (hits_right (unhide HF) (unhide HFQ))
        have HL := hide (specHits _ xs _ q w1 (unhide H) (unhide HQ) (unhide HF) (unhide HFQ))
        clear hk HQ H
        go_wp2_with fail
        clear z0 z1 f0 f1 l0
        refine (unhide HL).mono ?_
        rintro e w2 ⟨v2, rfl, ho, hb⟩
        have hwf : ∀ p ∈ (hitsL xs q).map pairH, Wf2 p := fun p hp => oneB_wf ((unhide HHR).2 p hp)
        have hI := isHits_row hwf ho
        have bR := (unhide HR).keep hb
        have HB2 := hide ((unhide HB).trans (hb.mono (unhide HB).size))
        have HR2 := hide bR
        have HWF := hide hwf
        have hlen := (unhide HHR).1
        have L := l2Best _ ((hitsL xs q).map pairH) k.toNat w2 hI (by omega) (by omega)
        rw [show ((k.toNat : Nat) : Int) = k by omega] at L
        have HL2 := hide L
        clear L hI ho hb bR HR HB HL hwf HBC
        go_wp2_with fail
        refine (unhide HL2).mono ?_
        rintro e w3 ⟨g3, c3, rfl, ho3, hb3⟩
        have hO := own_hits ho3 (best_wf (unhide HWF)) (by have := best_len k.toNat ((hitsL xs q).map pairH); omega)
        have hlm : (best k.toNat ((hitsL xs q).map pairH)).length = ((best k.toNat ((hitsL xs q).map pairH)).map dhit).length := (List.length_map _).symm
        rw [hlm] at hO ⊢
        obtain ⟨ao9, cp9, hs9⟩ : ∃ ao9 cp9, ao9 = some (⟨g3, 0, none⟩ : Addr) ∧ cp9 = c3 := ⟨_, _, rfl, rfl⟩
        obtain ⟨rfl, rfl⟩ := hs9
        clear hlm
        have bR := (unhide HR2).keep hb3
        have z0 : w3.cell? ⟨w.heap.size, 0, none⟩ = some (.int .i64 0) := bR.at 0 _ rfl
        have z1 : w3.cell? ⟨w.heap.size, 1, none⟩ = some (.slice none 0 0) := bR.at 1 _ rfl
        have f0 := bR.soft 0
        have f1 := bR.soft 1
        have l0 := bR.lt
        have HB9 := hide ((unhide HB2).trans (hb3.mono (unhide HB2).size))
        have HO9 := hide (hO.mono (lo' := w.heap.size + 1) (by have := (unhide HR2).lt; omega) (Nat.le_refl _))
        have hzz : w.heap.size < w2.heap.size := (unhide HR2).lt
        have HH9 : Hid (∀ u0 u1, IsHits ((w3.setCell ⟨w.heap.size, 0, none⟩ u0).setCell ⟨w.heap.size, 1, none⟩ u1) (.slice (some ⟨g3, 0, none⟩) ((best k.toNat ((hitsL xs q).map pairH)).map dhit).length cp9) (((best k.toNat ((hitsL xs q).map pairH)).map dhit).map pairH)) := fun u0 u1 => by
          rw [pair_dhit, List.length_map]
          exact isHits_row (best_wf (unhide HWF)) (own_setC (own_setC ho3 hzz _) hzz _)
        clear hzz
        clear hO hb3 bR ho3
        generalize ((best k.toNat ((hitsL xs q).map pairH)).map dhit).length = n9 at *
        go_wp2_with fail
        refine bodyPost_ret (v := .agg #[.int .i64 0, .slice (some ⟨g3, 0, none⟩) n9 cp9]) (by simp [results, Try.results7, go_sem, z0, z1]) rfl ?_
        rw [unhide HG]
        have hE : Ext (fun c => c = w.heap.size) w3 ((w3.setCell ⟨w.heap.size, 0, none⟩ (.int .i64 0)).setCell ⟨w.heap.size, 1, none⟩ (.slice (some ⟨g3, 0, none⟩) n9 cp9)) := ((Ext.refl (fun c => c = w.heap.size) _).setCell ⟨w.heap.size, 0, none⟩ _ rfl).setCell ⟨w.heap.size, 1, none⟩ _ rfl
        exact ⟨[.int .i64 0, .slice (some ⟨g3, 0, none⟩) n9 cp9], rfl, (own_hitsR (by decide) ((unhide HO9).ext hE (fun c h1 _ h3 => by omega))).reads, ⟨_, _, rfl, unhide HH9 _ _⟩, ((unhide HB9).setCell (by simp) _).setCell (by simp) _⟩
    · have HG : Hid (searchR xs q k = ⟨vecFault q, []⟩) := by
        show searchR xs q k = _
        rw [searchR, if_pos hf, if_neg hfq]
      have hd : (vecFault q != 0) = true := by simpa using hfq
      have HC : Hid ((Lit.int .i64 (vecFault q)).wf = true) := by
        have hv : 0 ≤ vecFault q ∧ vecFault q ≤ 3 := by unfold vecFault; split <;> (try split) <;> decide
        exact wf_of_bd (by omega)
      clear hf hfq HQ H
      go_wp2_with fail
      refine bodyPost_ret (v := .agg #[.int .i64 (vecFault q), .slice none 0 0]) (by simp [results, Try.results7, go_sem, z0, z1]) rfl ?_
      rw [unhide HG]
      exact ⟨[.int .i64 (vecFault q), .slice none 0 0], rfl, (own_codeHits (lo := 0) (hi := 0) (unhide HC)).reads, ⟨_, _, rfl, noHits _⟩, ((unhide HB).setCell (by simp) _).setCell (by simp) _⟩
  · have HG : Hid (searchR xs q k = ⟨tableFault xs, []⟩) := by
      show searchR xs q k = _
      rw [searchR, if_neg hf]
    have hd : (tableFault xs != 0) = true := by simpa using hf
    clear hf HQ H
    go_wp2_with fail
    refine bodyPost_ret (v := .agg #[.int .i64 (tableFault xs), .slice none 0 0]) (by simp [results, Try.results7, go_sem, z0, z1]) rfl ?_
    rw [unhide HG]
    exact ⟨[.int .i64 (tableFault xs), .slice none 0 0], rfl, (own_codeHits (lo := 0) (hi := 0) (code_wf xs)).reads, ⟨_, _, rfl, noHits _⟩, ((unhide HB).setCell (by simp) _).setCell (by simp) _⟩

end Go.Proofs.Ytkodenmpadehjab
