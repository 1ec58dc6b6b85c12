/-
  The program's isWanted: what it answers in plain words; nothing is written.
  No condition.
-/
import Derived.Test.YtkodenmpadehjabChecked
import Derived.Test.YtkodenmpadehjabGround
namespace Go.Proofs.Ytkodenmpadehjab
open Go.RowKit

theorem implWanted (v : Int) (w : World) :
    Calls Try.prog 19 #[.int .i64 v] w fun e w' => e = .returned (.bool (decide (0 ≤ v) && decide (v ≤ 20))) ∧ w' = w := by
  by_cases h1 : 0 ≤ v
  · have d1 : decide (0 ≤ v) = true := by simpa using h1
    rw [d1]
    cases d2 : decide (v ≤ 20) <;>
    · go_enter Try.func19, Try.ntmps19
      go_wp2_with fail
      go_ret
      exact ⟨rfl, rfl⟩
  · have d1 : decide (0 ≤ v) = false := by simpa using h1
    rw [d1]
    go_enter Try.func19, Try.ntmps19
    go_wp2_with fail
    go_ret
    exact ⟨rfl, rfl⟩

end Go.Proofs.Ytkodenmpadehjab
