/-
  The model's l1In, l2Id and l3Session: what they answer in plain words; nothing is written.
  No condition.
-/
import Derived.Test.YtjfplfhdfiebgaaDoorChecked
import Derived.Test.YtjfplfhdfiebgaaDoorInB
namespace Go.Proofs.YtjfplfhdfiebgaaDoor
open Go.RowKit

theorem sessionC (x : Int) (w : World) : Calls Tryd.prog 32 #[.int .i64 x] w fun e w' => e = .returned (.bool (decide (1 ≤ x) && decide (x ≤ 9))) ∧ w' = w := by
  go_enter Tryd.func32, Tryd.ntmps32
  go_wp2_with fail
  refine (inC x 1 9 _).mono ?_
  rintro e w1 ⟨rfl, rfl⟩
  go_wp2_with fail
  go_ret
  exact ⟨rfl, rfl⟩

end Go.Proofs.YtjfplfhdfiebgaaDoor
