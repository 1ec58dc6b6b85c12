/-
  The row of the type int64 in the program's table.
  No condition.
-/
import Derived.Test.YtjofcmdlcoganaaChecked
import Derived.WalkKit
namespace Go.Proofs.Ytjofcmdlcoganaa

theorem info2 : (Try.prog.info? 2).map (fun i => (i.zero, i.size, i.bytes)) = some (some (.int .i64 0), 1, 8) := by kernel_rfl

end Go.Proofs.Ytjofcmdlcoganaa
