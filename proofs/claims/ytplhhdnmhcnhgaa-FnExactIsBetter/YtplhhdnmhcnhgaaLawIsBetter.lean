/-
  The law FnExactIsBetter answers true at every two hits, and writes nothing that was there.
  No condition.
-/
import Derived.Test.YtplhhdnmhcnhgaaImplHit
import Derived.Test.YtplhhdnmhcnhgaaHitModel
import Derived.Deep.RegionHeld3
namespace Go.Proofs.Ytplhhdnmhcnhgaa
open Go.RowKit

theorem specIsBetter (x y a b : Int) (w : World) :
    Calls Try.prog 27 #[.agg #[.int .i64 x, .int .i64 y], .agg #[.int .i64 a, .int .i64 b]] w fun e w' => e = .returned (.bool (bet (x, y) (a, b))) ∧ Below w.heap.size w w' := by
  have B : ∀ o o2, Below w.heap.size w ((w.alloc o).alloc o2) := fun o o2 => ((Below.refl _ _).alloc (Nat.le_refl _) o).alloc (by simp) o2
  go_enter Try.func27, Try.ntmps27
  go_wp2_with fail
  refine (l2Better x y a b _).mono ?_
  rintro e w1 ⟨rfl, hb⟩
  have b1 := below_keep2 (B _ _) hb
  clear hb B
  go_wp2_with fail
  go_ret
  exact ⟨rfl, b1⟩

set_option maxHeartbeats 400000 in
theorem lawIsBetter (x y a b : Int) (w : World) :
    Calls Try.prog 6 #[.agg #[.int .i64 x, .int .i64 y], .agg #[.int .i64 a, .int .i64 b]] w fun e w' => e = .returned (.bool true) ∧ Below w.heap.size w w' := by
  obtain ⟨r, hr⟩ : ∃ r, r = bet (x, y) (a, b) := ⟨_, rfl⟩
  have LS : Hid (∀ W, Calls Try.prog 27 #[.agg #[.int .i64 x, .int .i64 y], .agg #[.int .i64 a, .int .i64 b]] W fun e w' => e = .returned (.bool r) ∧ Below W.heap.size W w') := fun W => by rw [hr]; exact specIsBetter x y a b W
  have LI : Hid (∀ W, Calls Try.prog 15 #[.agg #[.int .i64 x, .int .i64 y], .agg #[.int .i64 a, .int .i64 b]] W fun e w' => e = .returned (.bool r) ∧ Below W.heap.size W w') := fun W => by rw [hr]; exact implBetter x y a b W
  have hne : (r != r) = false := by cases r <;> rfl
  clear hr
  have B0 : Below w.heap.size w ((w.alloc (.cells #[.int .i64 x, .int .i64 y] 46)).alloc (.cells #[.int .i64 a, .int .i64 b] 46)) := ((Below.refl _ _).alloc (Nat.le_refl _) _).alloc (by simp) _
  have hz : (w.alloc (.cells #[.int .i64 x, .int .i64 y] 46)).heap.size = w.heap.size + 1 := by simp
  obtain ⟨p0, p1⟩ := new_cells (w := w) (T := 46) (x := .int .i64 x) (y := .int .i64 y)
  obtain ⟨q0, q1⟩ := new_cells (w := w.alloc (.cells #[.int .i64 x, .int .i64 y] 46)) (T := 46) (x := .int .i64 a) (y := .int .i64 b)
  rw [hz] at q0 q1
  replace p0 := (World.grownBy_alloc _ (.cells #[.int .i64 a, .int .i64 b] 46) none).cell p0 (by simp)
  replace p1 := (World.grownBy_alloc _ (.cells #[.int .i64 a, .int .i64 b] 46) none).cell p1 (by simp)
  clear hz
  go_enter Try.func6, Try.ntmps6
  go_wp2_with fail
  generalize hwa : (w.alloc (.cells #[.int .i64 x, .int .i64 y] 46)).alloc (.cells #[.int .i64 a, .int .i64 b] 46) = wa at *
  clear hwa
  go_region_held3 (fun w' => Below w.heap.size w w' ∧ w'.cell? ⟨w.heap.size, 0, none⟩ = some (.int .i64 x) ∧ w'.cell? ⟨w.heap.size, 1, none⟩ = some (.int .i64 y) ∧ w'.cell? ⟨w.heap.size + 1, 0, none⟩ = some (.int .i64 a) ∧ w'.cell? ⟨w.heap.size + 1, 1, none⟩ = some (.int .i64 b))
    (first
      | exact ⟨B0.drew, p0, p1, q0, q1⟩
      | (refine ⟨below_keep2 ?_ hb2, cell_keep hb2 ?_, cell_keep hb2 ?_, cell_keep hb2 ?_, cell_keep hb2 ?_⟩ <;> (first | assumption | (go_split_ands; assumption)))
      | go_keep)
    (first
      | (go_at_call 28; refine (toHit _ _ _).mono ?_; rintro e w2 ⟨rfl, hb2⟩)
      | (go_at_call 27; refine (unhide LS _).mono ?_; rintro e w2 ⟨rfl, hb2⟩))
  have hS : Below w.heap.size w w2 ∧ w2.cell? ⟨w.heap.size, 0, none⟩ = some (.int .i64 x) ∧ w2.cell? ⟨w.heap.size, 1, none⟩ = some (.int .i64 y) ∧ w2.cell? ⟨w.heap.size + 1, 0, none⟩ = some (.int .i64 a) ∧ w2.cell? ⟨w.heap.size + 1, 1, none⟩ = some (.int .i64 b) := by refine ⟨?_, ?_, ?_, ?_, ?_⟩ <;> (first | assumption | (go_split_ands; assumption))
  obtain ⟨B5, p5, p6, q5, q6⟩ := hS
  go_wp2_with fail
  go_region_held3 (fun w' => Below w.heap.size w w' ∧ w'.cell? ⟨w.heap.size, 0, none⟩ = some (.int .i64 x) ∧ w'.cell? ⟨w.heap.size, 1, none⟩ = some (.int .i64 y) ∧ w'.cell? ⟨w.heap.size + 1, 0, none⟩ = some (.int .i64 a) ∧ w'.cell? ⟨w.heap.size + 1, 1, none⟩ = some (.int .i64 b))
    (first
      | exact ⟨B5.drew, p5, p6, q5, q6⟩
      | (refine ⟨below_keep2 ?_ hb3, cell_keep hb3 ?_, cell_keep hb3 ?_, cell_keep hb3 ?_, cell_keep hb3 ?_⟩ <;> (first | assumption | (go_split_ands; assumption)))
      | go_keep)
    (first
      | (go_at_call 28; refine (toHit _ _ _).mono ?_; rintro e w3 ⟨rfl, hb3⟩)
      | (go_at_call 15; refine (unhide LI _).mono ?_; rintro e w3 ⟨rfl, hb3⟩))
  have B6 : Below w.heap.size w w3 := by first | assumption | (go_split_ands; assumption)
  go_wp2_with fail
  go_ret
  exact ⟨rfl, B6⟩

end Go.Proofs.Ytplhhdnmhcnhgaa
