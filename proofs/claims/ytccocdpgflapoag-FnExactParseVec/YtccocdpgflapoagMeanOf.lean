/-
  MeanOf of the program: the fault; or the three means, as a new slice.
  No condition.
-/
import Derived.Test.YtccocdpgflapoagMean
import Derived.Test.YtccocdpgflapoagList3
namespace Go.Proofs.Ytccocdpgflapoag
open Go.RowKit

def intsRes (c : Int) (v : Value) : Value := .agg #[.int .i64 c, v]

set_option maxHeartbeats 400000 in
theorem implMean_code (v : Value) (zs : List Int) (n : Int) (w : World) (h : IsInts w v zs) (hf : meanFault zs n ≠ 0) :
    Calls Try.prog 15 #[v, .int .i64 n] w fun e w' => e = .returned (intsRes (meanFault zs n) (.slice none 0 0)) ∧ Below w.heap.size w w' := by
  have hne : (meanFault zs n != 0) = true := by rw [bne_iff_ne]; exact hf
  go_enter Try.func15, Try.ntmps15
  go_wp2_with fail
  refine (implMeanFault v zs n _ (h.later ((Below.refl _ _).alloc (Nat.le_refl _) _))).mono ?_
  rintro e w1 ⟨rfl, rfl⟩
  go_wp2_with fail
  refine bodyPost_ret (v := intsRes (meanFault zs n) (.slice none 0 0)) (by simp [results, Try.results15, go_sem, intsRes]) rfl ⟨rfl, ?_⟩
  exact (Below.refl _ _).alloc (Nat.le_refl _) _

set_option maxHeartbeats 1000000 in
theorem implMean_three (b off cap : Nat) (x y z n : Int) (w : World) (hbl : b < w.heap.size) (c0 : w.cell? ⟨b, off, none⟩ = some (.int .i64 x)) (c1 : w.cell? ⟨b, off + 1, none⟩ = some (.int .i64 y)) (c2 : w.cell? ⟨b, off + 2, none⟩ = some (.int .i64 z))
    (h : IsInts w (.slice (some ⟨b, off, none⟩) 3 cap) [x, y, z]) (hf : meanFault [x, y, z] n = 0) (h1 : 1 ≤ n) (h2 : n ≤ 1000) (x1 : -1000 * n ≤ x) (x2 : x ≤ 1000 * n) (y1 : -1000 * n ≤ y) (y2 : y ≤ 1000 * n) (z1 : -1000 * n ≤ z) (z2 : z ≤ 1000 * n) :
    Calls Try.prog 15 #[.slice (some ⟨b, off, none⟩) 3 cap, .int .i64 n] w fun e w' => ∃ v, e = .returned (intsRes 0 v) ∧
      w'.ownsRow w.heap.size 2 1 v 3 ([mean x n, mean y n, mean z n].map (Value.int .i64)) ∧ Below w.heap.size w w' := by
  go_enter Try.func15, Try.ntmps15
  go_wp2_with fail
  refine (implMeanFault _ [x, y, z] n _ (h.later ((Below.refl _ _).alloc (Nat.le_refl _) _))).mono ?_
  rintro e w1 ⟨rfl, rfl⟩
  rw [hf]
  clear h hf
  go_wp2_with fail
  refine wp_loop_rounds 4 ?_
  rw [rounds_succ]
  go_wp2_with fail
  refine (implNear x n _ h1 h2 x1 x2).mono ?_
  rintro e w1 ⟨rfl, rfl⟩
  go_wp2_with fail
  rw [rounds_succ]
  go_wp2_with fail
  refine (implNear y n _ h1 h2 y1 y2).mono ?_
  rintro e w1 ⟨rfl, rfl⟩
  go_wp2_with fail
  rw [rounds_succ]
  go_wp2_with fail
  refine (implNear z n _ h1 h2 z1 z2).mono ?_
  rintro e w1 ⟨rfl, rfl⟩
  go_wp2_with fail
  rw [rounds_succ]
  go_wp2_with fail
  have e := listOf3 (mean x n) (mean y n) (mean z n) ((w.alloc (.cells #[.int .i64 0, .slice none 0 0] 30)).alloc (.cells #[.int .i64 (mean x n), .int .i64 (mean y n), .int .i64 (mean z n)] 40))
  simp only [arr3] at e
  refine e.mono ?_
  clear e
  rintro e w1 ⟨rfl, rfl⟩
  go_wp2_with fail
  refine bodyPost_ret (v := intsRes 0 (.slice (some ⟨w.heap.size + 1 + 1 + 1, 0, none⟩) 3 3)) (by simp [results, Try.results15, go_sem, intsRes]) rfl ⟨_, rfl, ?_, ?_⟩
  · exact own_new3 (by simp; omega) (by simp)
  · exact ((((Below.refl w.heap.size w).alloc (Nat.le_refl _) _).alloc (by simp) _).alloc (by simp; omega) _).alloc (by simp; omega) _

/-- MeanOf of the program. -/
theorem implMean (v : Value) (zs : List Int) (n : Int) (w : World) (h : IsInts w v zs) :
    Calls Try.prog 15 #[v, .int .i64 n] w fun e w' => ∃ r, e = .returned (intsRes (meanFault zs n) r) ∧
      w'.ownsRow w.heap.size 2 1 r (meanList zs n).length ((meanList zs n).map (Value.int .i64)) ∧ Below w.heap.size w w' := by
  by_cases hf : meanFault zs n = 0
  · obtain ⟨⟨h1, h2⟩, x, y, z, rfl, ⟨x1, x2⟩, ⟨y1, y2⟩, ⟨z1, z2⟩⟩ := meanFault_zero hf
    have e : meanList [x, y, z] n = [mean x n, mean y n, mean z n] := by simp [meanList, hf]
    rw [e, hf]
    obtain ⟨b, off, cap, x', y', z', he, rfl, hbl, c0, c1, c2⟩ := h.three rfl
    simp only [List.cons.injEq, and_true] at he
    obtain ⟨rfl, rfl, rfl⟩ := he
    exact implMean_three b off cap x y z n w hbl c0 c1 c2 h hf h1 h2 x1 x2 y1 y2 z1 z2
  · have e : meanList zs n = [] := by simp [meanList, hf]
    rw [e]
    refine (implMean_code v zs n w h hf).mono ?_
    rintro e w' ⟨rfl, hb⟩
    exact ⟨_, rfl, World.ownsRow_nil _ _ _ _, hb⟩

theorem meanList_bd {zs : List Int} {n : Int} : ∀ m ∈ meanList zs n, (Lit.int .i64 m).wf = true := by
  intro m hm
  unfold meanList at hm
  split at hm
  · next hf =>
    obtain ⟨⟨h1, h2⟩, x, y, z, rfl, ⟨x1, x2⟩, ⟨y1, y2⟩, ⟨z1, z2⟩⟩ := meanFault_zero hf
    have b1 := mean_bd x n h1 x1 x2
    have b2 := mean_bd y n h1 y1 y2
    have b3 := mean_bd z n h1 z1 z2
    simp at hm
    rcases hm with rfl | rfl | rfl <;> exact wf_of_bd (by omega)
  · simp at hm
theorem meanList_len {zs : List Int} {n : Int} : (meanList zs n).length ≤ 3 := by
  unfold meanList
  split <;> simp

end Go.Proofs.Ytccocdpgflapoag
