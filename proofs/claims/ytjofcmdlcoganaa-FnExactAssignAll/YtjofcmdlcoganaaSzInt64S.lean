/-
  szInt64S of laws/exact.go: what is left of a bound.
  Condition: the bound is at most 1048576.
-/
import Derived.Test.YtjofcmdlcoganaaChecked
import Derived.Test.YtjofcmdlcoganaaGround
import Derived.Test.YtjofcmdlcoganaaLayInt
namespace Go.Proofs.Ytjofcmdlcoganaa
open Go.RowKit

set_option maxHeartbeats 400000 in
theorem sz_Int64S (v : Value) (zs : List Int) (l : Nat) (w : World) (h : (Lay.sl Lay.int).Reads w [v] zs) (hl : l ≤ 1048576) :
    Calls Try.prog 89 #[v, .int .i64 l] w fun e w' => e = .returned (.int .i64 (szR l ((Lay.sl Lay.int).sz zs))) ∧ Below w.heap.size w w' := by
  have hb := h.big
  obtain ⟨ao, cap, rfl⟩ := open_sl h
  rw [sz_ints]
  generalize zs.length = n at *
  clear h
  by_cases hn : n ≤ l
  · rw [szR_ok hn]
    have e1 : (l : Int) - (n : Int) = ((l - n : Nat) : Int) := by omega
    have e2 : decide (((l - n : Nat) : Int) < 0) = false := by simp
    go_enter Try.func89, Try.ntmps89
    go_wp2_with fail
    go_ret
    exact ⟨rfl, Below.refl _ _⟩
  · rw [szR_many (by omega)]
    have e2 : decide ((l : Int) - (n : Int) < 0) = true := by simp; omega
    go_enter Try.func89, Try.ntmps89
    go_wp2_with fail
    go_ret
    exact ⟨rfl, Below.refl _ _⟩

end Go.Proofs.Ytjofcmdlcoganaa
