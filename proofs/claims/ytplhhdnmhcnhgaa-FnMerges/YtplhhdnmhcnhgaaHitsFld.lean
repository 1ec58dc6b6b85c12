/-
  The fields of a HitsResult.
  No condition.
-/
import Derived.Test.YtplhhdnmhcnhgaaBase
import Derived.Test.YtplhhdnmhcnhgaaChecked
namespace Go.Proofs.Ytplhhdnmhcnhgaa
open Go.RowKit

theorem fieldHits1 (c : Int) (a : Option Addr) (n cp : Nat) (w : World) : (Instr.field 28 (.agg #[.int .i64 c, .slice a n cp]) 1).run Try.prog w = .ok (.slice a n cp) w := by kernel_rfl
theorem fieldHits0 (c : Int) (a : Option Addr) (n cp : Nat) (w : World) : (Instr.field 28 (.agg #[.int .i64 c, .slice a n cp]) 0).run Try.prog w = .ok (.int .i64 c) w := by kernel_rfl

end Go.Proofs.Ytplhhdnmhcnhgaa
