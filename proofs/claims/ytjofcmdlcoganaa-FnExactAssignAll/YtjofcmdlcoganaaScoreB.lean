/-
  ScoreOf and DotOf of the program: the fault of the first, then of the second; the sum of the squares of the differences, the sum of the products.
  No condition.
-/
import Derived.Test.YtjofcmdlcoganaaPair
import Derived.BigQuiet
import Derived.Deep.QuietTactic
namespace Go.Proofs.Ytjofcmdlcoganaa
open Go.RowKit


theorem sq_bd (x a : Int) (h1 : -1000 ≤ x) (h2 : x ≤ 1000) (h3 : -1000 ≤ a) (h4 : a ≤ 1000) : 0 ≤ (x - a) * (x - a) ∧ (x - a) * (x - a) ≤ 4000000 := by
  have e1 : -2000 ≤ x - a := by omega
  have e2 : x - a ≤ 2000 := by omega
  generalize x - a = d at *
  constructor
  · by_cases h : 0 ≤ d
    · exact Int.mul_nonneg h h
    · exact Int.mul_nonneg_of_nonpos_of_nonpos (by omega) (by omega)
  · by_cases h : 0 ≤ d
    · calc d * d ≤ 2000 * 2000 := Int.mul_le_mul e2 e2 h (by omega)
        _ = 4000000 := rfl
    · have h5 : d * d = (-d) * (-d) := by rw [Int.neg_mul_neg]
      rw [h5]
      calc (-d) * (-d) ≤ 2000 * 2000 := Int.mul_le_mul (by omega) (by omega) (by omega) (by omega)
        _ = 4000000 := rfl

theorem mul_bd (x a : Int) (h1 : -1000 ≤ x) (h2 : x ≤ 1000) (h3 : -1000 ≤ a) (h4 : a ≤ 1000) : -1000000 ≤ x * a ∧ x * a ≤ 1000000 := by
  have k1 : 0 ≤ (x + 1000) * (a + 1000) := Int.mul_nonneg (by omega) (by omega)
  have k2 : 0 ≤ (1000 - x) * (1000 - a) := Int.mul_nonneg (by omega) (by omega)
  have k3 : 0 ≤ (1000 - x) * (a + 1000) := Int.mul_nonneg (by omega) (by omega)
  have k4 : 0 ≤ (x + 1000) * (1000 - a) := Int.mul_nonneg (by omega) (by omega)
  have e1 : (x + 1000) * (a + 1000) = x * a + 1000 * x + 1000 * a + 1000000 := by rw [Int.add_mul, Int.mul_add, Int.mul_add]; omega
  have e2 : (1000 - x) * (1000 - a) = 1000000 - 1000 * a - 1000 * x + x * a := by rw [Int.sub_mul, Int.mul_sub, Int.mul_sub]; omega
  have e3 : (1000 - x) * (a + 1000) = 1000 * a + 1000000 - x * a - 1000 * x := by rw [Int.sub_mul, Int.mul_add, Int.mul_add]; omega
  have e4 : (x + 1000) * (1000 - a) = 1000 * x - x * a + 1000000 - 1000 * a := by rw [Int.add_mul, Int.mul_sub, Int.mul_sub]; omega
  rw [e1] at k1
  rw [e2] at k2
  rw [e3] at k3
  rw [e4] at k4
  omega

/-- ScoreOf, where pairOf tells a code. -/
theorem implScore_code (v1 v2 : Value) (k : Int) (w : World) (hp : Hid (∀ W, Below w.heap.size w W → Calls Try.prog 97 #[v1, v2] W fun e w' => e = .returned (.tuple #[arr3 0 0 0, arr3 0 0 0, .int .i64 k]) ∧ Below W.heap.size W w')) (hk : k ≠ 0) :
    Calls Try.prog 87 #[v1, v2] w fun e w' => e = .returned (intRes k 0) ∧ Below w.heap.size w w' := by
  have hne : (k != 0) = true := by rw [bne_iff_ne]; exact hk
  go_enter Try.func87, Try.ntmps87
  go_wp2_with fail
  refine (unhide hp _ ((Below.refl _ _).alloc (Nat.le_refl _) _)).mono ?_
  rintro e w1 ⟨rfl, hb⟩
  have hz : w.heap.size < w1.heap.size := by have := hb.size; simp at this; omega
  have p0 : w1.cell? ⟨w.heap.size, 0, none⟩ = some (.int .i64 0) := (hb.cell (p := ⟨w.heap.size, 0, none⟩) (by simp)).trans (by simp [go_sem])
  have p1 : w1.cell? ⟨w.heap.size, 1, none⟩ = some (.int .i64 0) := (hb.cell (p := ⟨w.heap.size, 1, none⟩) (by simp)).trans (by simp [go_sem])
  have p2 : ∀ o, w1.frozen? ⟨w.heap.size, o, none⟩ = false := fun o => (hb.frozen (p := ⟨w.heap.size, o, none⟩) (by simp)).trans (by simp [go_sem])
  have HB := hide (((Below.refl w.heap.size w).alloc (Nat.le_refl _) _).trans (hb.mono (by simp)))
  clear hb
  simp only [arr3]
  go_wp2_with fail
  refine bodyPost_ret (v := intRes k 0) (by simp [results, Try.results87, go_sem, intRes, p0, p1, hz]) rfl ⟨rfl, ?_⟩
  exact (((((unhide HB).setCell (by simp) _).setCell (by simp) _).alloc (by simp; omega) _).alloc (by simp; omega) _)

set_option maxHeartbeats 1000000 in
theorem implScore_ok (v1 v2 : Value) (x y z a b c : Int) (w : World) (h : IsInts w v1 [x, y, z]) (h2 : IsInts w v2 [a, b, c]) (hf1 : vecFault [x, y, z] = 0) (hf : vecFault [a, b, c] = 0) :
    Calls Try.prog 87 #[v1, v2] w fun e w' => e = .returned (intRes 0 ((x - a) * (x - a) + (y - b) * (y - b) + (z - c) * (z - c))) ∧ Below w.heap.size w w' := by
  obtain ⟨⟨x1, x2⟩, ⟨y1, y2⟩, ⟨z1, z2⟩⟩ := fault3 hf1
  obtain ⟨⟨a1, a2⟩, ⟨b1, b2⟩, ⟨c1, c2⟩⟩ := fault3 hf
  obtain ⟨m1, m2⟩ := sq_bd x a x1 x2 a1 a2
  obtain ⟨m3, m4⟩ := sq_bd y b y1 y2 b1 b2
  obtain ⟨m5, m6⟩ := sq_bd z c z1 z2 c1 c2
  go_enter Try.func87, Try.ntmps87
  go_wp2_with fail
  refine (pairOf_ok v1 v2 x y z a b c _ (h.later ((Below.refl _ _).alloc (Nat.le_refl _) _)) (h2.later ((Below.refl _ _).alloc (Nat.le_refl _) _)) hf1 hf).mono ?_
  rintro e w1 ⟨rfl, hb⟩
  have hz : w.heap.size < w1.heap.size := by have := hb.size; simp at this; omega
  have hz1 : w.heap.size < w1.heap.size + 1 := by omega
  have hn0 : ¬ w1.heap.size = w.heap.size := by omega
  have hn1 : ¬ w1.heap.size + 1 = w.heap.size := by omega
  have p0 : w1.cell? ⟨w.heap.size, 0, none⟩ = some (.int .i64 0) := (hb.cell (p := ⟨w.heap.size, 0, none⟩) (by simp)).trans (by simp [go_sem])
  have p1 : w1.cell? ⟨w.heap.size, 1, none⟩ = some (.int .i64 0) := (hb.cell (p := ⟨w.heap.size, 1, none⟩) (by simp)).trans (by simp [go_sem])
  have p2 : ∀ o, w1.frozen? ⟨w.heap.size, o, none⟩ = false := fun o => (hb.frozen (p := ⟨w.heap.size, o, none⟩) (by simp)).trans (by simp [go_sem])
  have HB := hide (((Below.refl w.heap.size w).alloc (Nat.le_refl _) _).trans (hb.mono (by simp)))
  clear hb hf hf1
  simp only [arr3]
  go_wp2_with fail
  refine wp_loop_rounds 4 ?_
  rw [rounds_succ]
  go_wp2
  go_quiet (fail)
  go_wp2
  rw [rounds_succ]
  go_wp2
  go_quiet (fail)
  go_wp2
  rw [rounds_succ]
  go_wp2
  go_quiet (fail)
  go_wp2
  rw [rounds_succ]
  go_wp2
  refine bodyPost_ret (v := intRes 0 ((x - a) * (x - a) + (y - b) * (y - b) + (z - c) * (z - c))) (by simp [results, Try.results87, go_sem, intRes, p0, p1, hz, hz1]) rfl ⟨rfl, ?_⟩
  exact (below_drawn (((unhide HB).alloc (by omega) _).alloc (by simp; omega) _) _).setCell (by simp) _ |>.setCell (by simp) _


end Go.Proofs.Ytjofcmdlcoganaa
