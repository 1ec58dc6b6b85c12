/-
  The program's RankOf: code and place in plain words; nothing old is written.
  No condition.
-/
import Derived.Test.YtkodenmpadehjabImplFault
import Derived.Test.YtkodenmpadehjabRankPlain
namespace Go.Proofs.Ytkodenmpadehjab
open Go.RowKit

set_option maxRecDepth 100000 in
set_option maxHeartbeats 1000000 in
theorem implRank_all (v : Value) (hs : List (Int × Int)) (id : Int) (w : World) (h : IsHits w v hs) :
    Calls Try.prog 9 #[v, .int .i64 id] w fun e w' => e = .returned (intRes (rankOf hs id).1 (rankOf hs id).2) ∧ Below w.heap.size w w' := by
  have h' := h
  obtain ⟨ao, cap, rfl, h1, h2, hwf, hc⟩ := h'
  have HH := hide h
  have bb : Below w.heap.size w (w.alloc (.cells #[.int .i64 0, .int .i64 0] 35)) := (Below.refl _ _).alloc (Nat.le_refl _) _
  have RV : Hid (∀ W, Below (w.alloc (.cells #[.int .i64 0, .int .i64 0] 35)).heap.size (w.alloc (.cells #[.int .i64 0, .int .i64 0] 35)) W → W.cell? ⟨w.heap.size, 0, none⟩ = some (.int .i64 0) ∧ W.cell? ⟨w.heap.size, 1, none⟩ = some (.int .i64 0) ∧ (∀ o, W.frozen? ⟨w.heap.size, o, none⟩ = false) ∧ w.heap.size < W.heap.size) := fun W hW => by
    refine ⟨(hW.cell (p := ⟨w.heap.size, 0, none⟩) (by simp)).trans (by simp [go_sem]), (hW.cell (p := ⟨w.heap.size, 1, none⟩) (by simp)).trans (by simp [go_sem]), fun o => (hW.frozen (p := ⟨w.heap.size, o, none⟩) (by simp)).trans (by simp [go_sem]), ?_⟩
    have := hW.size
    simp at this
    omega
  have HBB := hide bb
  clear h hwf h1 h2 bb
  go_enter Try.func9, Try.ntmps9
  go_wp2_with fail
  generalize hwb : w.alloc (.cells #[.int .i64 0, .int .i64 0] 35) = wb at *
  clear hwb
  refine (implHitsFault _ hs _ ((unhide HH).later (unhide HBB))).mono ?_
  rintro e w2 ⟨rfl, hb2⟩
  have HB2 := hide hb2
  have HBW2 := hide (below_keep2 (unhide HBB) hb2)
  clear hb2 HH
  by_cases hf : hitsFault hs = 0
  · have e0 : rankOf hs id = rankFrom hs 0 id := by simp [rankOf, hf]
    have hl20 := (hitsFault_zero hf).1
    have E0 := hide e0
    rw [hf]
    clear hf e0
    go_wp2_with fail
    go_loopw [16] (fun i wr => ∃ j : Nat, j ≤ hs.length ∧ i = .int .i64 j ∧ rankFrom (hs.drop j) j id = rankOf hs id ∧ Below w2.heap.size w2 wr) (fun i _ => hs.length - (intOf i).toNat)
    case atStart => exact ⟨0, Nat.zero_le _, rfl, (unhide E0).symm, Below.refl _ _⟩
    case round =>
      obtain ⟨j, hj, rfl, hr, hwr⟩ := hrel
      have HB3 := hide (below_keep2 (unhide HB2) hwr)
      have HBW3 := hide (below_keep2 (unhide HBW2) hwr)
      have HW := hide hwr
      clear hwr
      by_cases hlt : j < hs.length
      · obtain ⟨x, y, hxy⟩ : ∃ x y, hs[j]? = some (x, y) := ⟨hs[j].1, hs[j].2, by simp [hlt]⟩
        obtain ⟨b, off, rfl, hc1⟩ := hc (by omega)
        have c1 := ((unhide HBW3).cell (World.block_lt_of_cell? _ _ (hc1 j x y hxy).1)).trans (hc1 j x y hxy).1
        have c2 := ((unhide HBW3).cell (World.block_lt_of_cell? _ _ (hc1 j x y hxy).2)).trans (hc1 j x y hxy).2
        rw [drop_at hxy] at hr
        unfold rankFrom at hr
        by_cases he : x = id
        · have d1 : (x == id) = true := by simpa using he
          rw [if_pos he] at hr
          have HR := hide hr
          obtain ⟨z0, z1, z2, z3⟩ := unhide RV wr (unhide HB3)
          have y0 : ∀ o u v, (((wr.setCell ⟨w.heap.size, 0, none⟩ u).setCell ⟨w.heap.size, 1, none⟩ v).alloc o).cell? ⟨w.heap.size, 0, none⟩ = some u := fun o u v => (World.grownBy_alloc _ o none).cell (by simp [go_sem, z0]) (by simp)
          have y1 : ∀ o u v, (((wr.setCell ⟨w.heap.size, 0, none⟩ u).setCell ⟨w.heap.size, 1, none⟩ v).alloc o).cell? ⟨w.heap.size, 1, none⟩ = some v := fun o u v => (World.grownBy_alloc _ o none).cell (by simp [go_sem, z1]) (by simp)
          have Y0 := hide y0
          have Y1 := hide y1
          clear hc hc1 hxy hr he RV y0 y1
          go_wp2_with fail
          refine bodyPost_ret (v := intRes 0 (j : Int)) (by simp [results, Try.results9, go_sem, intRes, unhide Y0, unhide Y1]) rfl ?_
          rw [← unhide HR]
          exact ⟨rfl, (((unhide HBW3).setCell (by simp) _).setCell (by simp) _).alloc (by simpa using (unhide HBW3).size) _⟩
        · have d1 : (x == id) = false := by simpa using he
          rw [if_neg he] at hr
          have HR := hide hr
          clear hc1 hxy hr he
          go_wp2_with fail
          go_roundw
          case rel => exact ⟨j + 1, by omega, by go_num, unhide HR, (unhide HW).alloc (unhide HW).size _⟩
          case measure => simp [intOf]; omega
      · obtain rfl : j = hs.length := by omega
        rw [List.drop_length] at hr
        have HR := hide hr
        obtain ⟨z0, z1, z2, z3⟩ := unhide RV wr (unhide HB3)
        clear hc hr RV
        go_wp2_with fail
        refine bodyPost_ret (v := intRes 4 0) (by simp [results, Try.results9, go_sem, intRes, z0, z1]) rfl ?_
        rw [← unhide HR]
        exact ⟨rfl, ((unhide HBW3).setCell (by simp) _).setCell (by simp) _⟩
  · have e0 : rankOf hs id = (hitsFault hs, 0) := by simp [rankOf, hf]
    have E0 := hide e0
    have hd : (hitsFault hs != 0) = true := by simpa using hf
    obtain ⟨z0, z1, z2, z3⟩ := unhide RV w2 (unhide HB2)
    clear hf e0 RV hc
    generalize hitsFault hs = F at *
    go_wp2_with fail
    refine bodyPost_ret (v := intRes F 0) (by simp [results, Try.results9, go_sem, intRes, z0, z1]) rfl ?_
    rw [unhide E0]
    exact ⟨rfl, ((unhide HBW2).setCell (by simp) _).setCell (by simp) _⟩

end Go.Proofs.Ytkodenmpadehjab
