/-
  The program's small functions on hits: isId, isHit, isWanted, IsBetter: what they answer in plain words; nothing old is written.
  No condition.
-/
import Derived.Test.YtkodenmpadehjabHitInfo
import Derived.Test.YtkodenmpadehjabHitGround
import Derived.Test.YtkodenmpadehjabImplId
import Derived.Test.YtkodenmpadehjabImplWanted
namespace Go.Proofs.Ytkodenmpadehjab
open Go.RowKit

set_option maxHeartbeats 400000 in
theorem implIsHit (x y : Int) (w : World) :
    Calls Try.prog 28 #[.agg #[.int .i64 x, .int .i64 y]] w fun e w' => e = .returned (.bool (oneB (x, y))) ∧ Below w.heap.size w w' := by
  have B : ∀ o, Below w.heap.size w (w.alloc o) := fun o => (Below.refl _ _).alloc (Nat.le_refl _) o
  have L1 := implId x
  have ho : oneB (x, y) = ((decide (1 ≤ x) && decide (x ≤ 999)) && (decide (0 ≤ y) && decide (y ≤ 12000000))) := rfl
  rw [ho]
  clear ho
  cases hd : (decide (1 ≤ x) && decide (x ≤ 999)) with
  | false =>
    rw [hd] at L1
    clear hd
    go_enter Try.func28, Try.ntmps28
    go_wp2_with fail
    refine (L1 _).mono ?_
    rintro e w1 ⟨rfl, rfl⟩
    go_wp2_with fail
    go_ret
    exact ⟨rfl, B _⟩
  | true =>
    rw [hd] at L1
    clear hd
    cases d1 : decide (0 ≤ y) with
    | false =>
      go_enter Try.func28, Try.ntmps28
      go_wp2_with fail
      refine (L1 _).mono ?_
      rintro e w1 ⟨rfl, rfl⟩
      go_wp2_with fail
      go_ret
      exact ⟨rfl, B _⟩
    | true =>
      cases d2 : decide (y ≤ 12000000) <;>
      · go_enter Try.func28, Try.ntmps28
        go_wp2_with fail
        refine (L1 _).mono ?_
        rintro e w1 ⟨rfl, rfl⟩
        go_wp2_with fail
        go_ret
        exact ⟨rfl, B _⟩

set_option maxHeartbeats 400000 in
theorem implBetter (x y a b : Int) (w : World) :
    Calls Try.prog 10 #[.agg #[.int .i64 x, .int .i64 y], .agg #[.int .i64 a, .int .i64 b]] w fun e w' => e = .returned (.bool (bet (x, y) (a, b))) ∧ Below w.heap.size w w' := by
  have B : ∀ o o2, Below w.heap.size w ((w.alloc o).alloc o2) := fun o o2 => ((Below.refl _ _).alloc (Nat.le_refl _) o).alloc (by simp) o2
  by_cases h2 : y = b
  · subst h2
    have e : bet (x, y) (a, y) = decide (x < a) := by simp [bet]
    rw [e]
    go_enter Try.func10, Try.ntmps10
    go_wp2_with fail
    go_ret
    exact ⟨rfl, B _ _⟩
  · have e : bet (x, y) (a, b) = decide (y < b) := by simp [bet, h2]
    rw [e]
    go_enter Try.func10, Try.ntmps10
    go_wp2_with fail
    go_ret
    exact ⟨rfl, B _ _⟩

end Go.Proofs.Ytkodenmpadehjab
