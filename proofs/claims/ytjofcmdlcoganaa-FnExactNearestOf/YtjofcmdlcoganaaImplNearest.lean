/-
  NearestOf of the program; nothing old is written.
  No condition.
-/
import Derived.Test.YtjofcmdlcoganaaImplNear
import Derived.Test.YtjofcmdlcoganaaCenRes
namespace Go.Proofs.Ytjofcmdlcoganaa
open Go.RowKit

set_option maxRecDepth 10000 in
set_option maxHeartbeats 1000000 in
theorem implNearest (v : Value) (cs : List DCenter) (vq : Value) (q : List Int) (w : World) (h : (Lay.sl Lay.tCenter).Reads w [v] cs) (hq : (Lay.sl Lay.int).Reads w [vq] q) :
    Calls Try.prog 17 #[v, vq] w fun e w' => ∃ cs', e = .returned (.agg cs'.toArray) ∧ Lay.tIntResult.OwnIn w' cs' (nearestR cs q) w.heap.size w'.heap.size ∧ Below w.heap.size w w' := by
  have HB0 : Below w.heap.size w (w.alloc (.cells #[.int .i64 0, .int .i64 0] 33)) := (Below.refl _ _).alloc (Nat.le_refl _) _
  have bR : Box w.heap.size #[.int .i64 0, .int .i64 0] 33 (w.alloc (.cells #[.int .i64 0, .int .i64 0] 33)) w.heap.size := newBox (Nat.le_refl _)
  have h0 := h.later HB0
  have HQ := hide (Lay.ints_reads (hq.later HB0))
  obtain ⟨ao, cap, rfl⟩ := open_sl h
  obtain ⟨ao2, cap2, rfl⟩ := open_sl hq
  clear h hq
  go_enter Try.func17, Try.ntmps17
  go_wp2_with fail
  generalize w.alloc (.cells #[.int .i64 0, .int .i64 0] 33) = W0 at *
  refine (implCen _ cs W0 h0).mono ?_
  rintro e w1 ⟨rfl, hb⟩
  have H := hide (h0.later hb)
  replace HQ := hide ((unhide HQ).later hb)
  replace bR := bR.keep hb
  replace HB0 := HB0.trans (hb.mono HB0.size)
  have z0 : w1.cell? ⟨w.heap.size, 0, none⟩ = some (.int .i64 0) := bR.at 0 _ rfl
  have z1 : w1.cell? ⟨w.heap.size, 1, none⟩ = some (.int .i64 0) := bR.at 1 _ rfl
  have f0 := bR.soft 0
  have f1 := bR.soft 1
  have l0 := bR.lt
  have HB := hide HB0
  have HR := hide bR
  clear hb HB0 bR h0
  by_cases hf : centersFault cs = 0
  · rw [hf]
    go_wp2_with fail
    refine (implFault _ q _ (unhide HQ)).mono ?_
    rintro e w1 ⟨rfl, rfl⟩
    by_cases hfq : vecFault q = 0
    · rw [hfq]
      have HG : Hid (nearestR cs q = ⟨0, near cs q⟩) := by
        show nearestR cs q = _
        rw [nearestR, if_pos hf, if_pos hfq]
      have hlt := near_lt hf hfq
      have hle := (centersFault_zero hf).1.2
      have HN := hide (nearC _ cs _ q w1 (unhide H) (unhide HQ) hf hfq)
      clear hf hfq H HQ z0 z1 f0 f1 l0
      go_wp2_with fail
      refine (unhide HN).mono ?_
      rintro e w2 ⟨rfl, hb⟩
      have bR := (unhide HR).keep hb
      have z0 : w2.cell? ⟨w.heap.size, 0, none⟩ = some (.int .i64 0) := bR.at 0 _ rfl
      have z1 : w2.cell? ⟨w.heap.size, 1, none⟩ = some (.int .i64 0) := bR.at 1 _ rfl
      have f0 := bR.soft 0
      have f1 := bR.soft 1
      have l0 := bR.lt
      have HB9 := hide ((unhide HB).trans (hb.mono (unhide HB).size))
      clear hb bR HB HR HN
      generalize near cs q = nr at *
      generalize nearS cs q = ns at *
      go_wp2_with fail
      refine bodyPost_ret (v := .agg #[.int .i64 0, .int .i64 nr]) (by simp [results, Try.results17, go_sem, z0, z1]) rfl ?_
      rw [unhide HG]
      exact ⟨[.int .i64 0, .int .i64 nr], rfl, own_intR (by decide) (wf_of_bd (by omega)), ((unhide HB9).setCell (by simp) _).setCell (by simp) _⟩
    · have HG : Hid (nearestR cs q = ⟨vecFault q, 0⟩) := by
        show nearestR cs q = _
        rw [nearestR, if_pos hf, if_neg hfq]
      have hd : (vecFault q != 0) = true := by simpa using hfq
      have HC : Hid ((Lit.int .i64 (vecFault q)).wf = true) := wf_of_bd (by have := vecFault_bd q; omega)
      clear hf hfq HQ H
      go_wp2_with fail
      refine bodyPost_ret (v := .agg #[.int .i64 (vecFault q), .int .i64 0]) (by simp [results, Try.results17, go_sem, z0, z1]) rfl ?_
      rw [unhide HG]
      exact ⟨[.int .i64 (vecFault q), .int .i64 0], rfl, own_intR (unhide HC) (by decide), ((unhide HB).setCell (by simp) _).setCell (by simp) _⟩
  · have HG : Hid (nearestR cs q = ⟨centersFault cs, 0⟩) := by
      show nearestR cs q = _
      rw [nearestR, if_neg hf]
    have hd : (centersFault cs != 0) = true := by simpa using hf
    clear hf HQ H
    go_wp2_with fail
    refine bodyPost_ret (v := .agg #[.int .i64 (centersFault cs), .int .i64 0]) (by simp [results, Try.results17, go_sem, z0, z1]) rfl ?_
    rw [unhide HG]
    exact ⟨[.int .i64 (centersFault cs), .int .i64 0], rfl, own_intR (centersFault_wf cs) (by decide), ((unhide HB).setCell (by simp) _).setCell (by simp) _⟩

end Go.Proofs.Ytjofcmdlcoganaa
