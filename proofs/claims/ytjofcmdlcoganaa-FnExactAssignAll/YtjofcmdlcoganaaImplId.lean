/-
  The program's isId: what it answers in plain words; nothing is written.
  No condition.
-/
import Derived.Test.YtjofcmdlcoganaaChecked
import Derived.Test.YtjofcmdlcoganaaGround
namespace Go.Proofs.Ytjofcmdlcoganaa
open Go.RowKit

theorem implId (v : Int) (w : World) :
    Calls Try.prog 93 #[.int .i64 v] w fun e w' => e = .returned (.bool (decide (1 ≤ v) && decide (v ≤ 999))) ∧ w' = w := by
  by_cases h1 : 1 ≤ v
  · have d1 : decide (1 ≤ v) = true := by simpa using h1
    rw [d1]
    cases d2 : decide (v ≤ 999) <;>
    · go_enter Try.func93, Try.ntmps93
      go_wp2_with fail
      go_ret
      exact ⟨rfl, rfl⟩
  · have d1 : decide (1 ≤ v) = false := by simpa using h1
    rw [d1]
    go_enter Try.func93, Try.ntmps93
    go_wp2_with fail
    go_ret
    exact ⟨rfl, rfl⟩

end Go.Proofs.Ytjofcmdlcoganaa
