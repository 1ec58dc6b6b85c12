/-
  eqTextResult of laws/exact.go: the same data are the same.
  No condition.
-/
import Derived.Test.YtgjjmbliahhhjaaDoorChecked
import Derived.Test.YtgjjmbliahhhjaaDoorLayTextResult
namespace Go.Proofs.YtgjjmbliahhhjaaDoor
open Go.RowKit

set_option maxRecDepth 10000 in
set_option maxHeartbeats 1000000 in
theorem eq_TextResult (cs cs2 : List Value) (x : DTextResult) (w : World) (h : Lay.tTextResult.Reads w cs x) (h2 : Lay.tTextResult.Reads w cs2 x) :
    Calls Tryd.prog 9 #[.agg cs.toArray, .agg cs2.toArray] w fun e w' => e = .returned (.bool true) ∧ Below w.heap.size w w' := by
  obtain ⟨bl, h⟩ := h
  obtain ⟨rfl, -⟩ := lies_TextResult.1 h
  obtain ⟨bl2, h2⟩ := h2
  obtain ⟨rfl, -⟩ := lies_TextResult.1 h2
  clear h h2
  have e0 : (x.code != x.code) = false := by simp
  have e1 : ∀ W : World, (Op.stringOp .neq x.text x.text).run Tryd.prog W = .ok (.bool false) W := fun W => by simp [Op.stringOp]
  have HB0 : Below w.heap.size w ((w.alloc (.cells #[.int .i64 x.code, .string x.text] 27)).alloc (.cells #[.int .i64 x.code, .string x.text] 27)) := ((Below.refl _ _).alloc (Nat.le_refl _) _).alloc (by simp) _
  go_enter Tryd.func9, Tryd.ntmps9
  go_wp2_with fail
  go_ret
  exact ⟨rfl, HB0⟩

end Go.Proofs.YtgjjmbliahhhjaaDoor
