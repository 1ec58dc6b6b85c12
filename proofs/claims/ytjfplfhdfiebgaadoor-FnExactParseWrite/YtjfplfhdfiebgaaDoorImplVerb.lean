/-
  The verbs of the program's two deeds; the type assertions.
  No condition.
-/
import Derived.Test.YtjfplfhdfiebgaaDoorImplDeed
import Derived.Test.YtjfplfhdfiebgaaDoorWTextPlain
namespace Go.Proofs.YtjfplfhdfiebgaaDoor
open Go.RowKit

theorem methPut (n : Nat) (v : Value) (w : World) : (method (n + 1) 70 v "loop.example/g00357/impl.verb").run Tryd.prog w = .ok (62, v) w := by kernel_rfl
theorem methDrop (n : Nat) (v : Value) (w : World) : (method (n + 1) 64 v "loop.example/g00357/impl.verb").run Tryd.prog w = .ok (61, v) w := by kernel_rfl
theorem verbPut (x y z : Int) (w : World) : Calls Tryd.prog 62 #[.agg #[.int .i64 x, .int .i64 y, .int .i64 z]] w fun e w' => e = .returned (.string ⟨#[112, 117, 116]⟩) ∧ Below w.heap.size w w' := by
  go_enter Tryd.func62, Tryd.ntmps62
  go_wp2_with fail
  go_ret
  exact ⟨rfl, (Below.refl _ _).alloc (Nat.le_refl _) _⟩
theorem verbDrop (w : World) : Calls Tryd.prog 61 #[.agg #[]] w fun e w' => e = .returned (.string ⟨#[100, 114, 111, 112]⟩) ∧ Below w.heap.size w w' := by
  go_enter Tryd.func61, Tryd.ntmps61
  go_wp2_with fail
  go_ret
  exact ⟨rfl, (Below.refl _ _).alloc (Nat.le_refl _) _⟩
theorem assertPut2 (v : Value) (w : World) : (Instr.typeAssert (.iface 70 v) 46 70 true).run Tryd.prog w = .ok (.tuple #[v, .bool true]) w := by kernel_rfl
theorem assertDrop2 (v : Value) (w : World) : (Instr.typeAssert (.iface 64 v) 46 70 true).run Tryd.prog w = .ok (.tuple #[.agg #[.int .i64 0, .int .i64 0, .int .i64 0], .bool false]) w := by kernel_rfl

end Go.Proofs.YtjfplfhdfiebgaaDoor
