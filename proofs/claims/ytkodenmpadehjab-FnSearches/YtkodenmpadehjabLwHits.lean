/-
  lwHits tells of two lists that hold the same hits that they are the same.
  Condition: at most 1000000 hits.
-/
import Derived.Test.YtkodenmpadehjabHitEq
import Derived.Test.YtkodenmpadehjabHitFaultB
import Derived.BigQuiet
import Derived.Deep.QuietTactic
namespace Go.Proofs.Ytkodenmpadehjab
open Go.RowKit

set_option maxRecDepth 100000 in
set_option maxHeartbeats 1000000 in
theorem lwHits (u v : Value) (hs : List (Int × Int)) (w : World) (h : IsHits w u hs) (h2 : IsHits w v hs) (hn : hs.length ≤ 1000000) :
    Calls Try.prog 12 #[u, v] w fun e w' => e = .returned (.bool true) ∧ Below w.heap.size w w' := by
  obtain ⟨au, cu, rfl, -, -, -, hcu⟩ := h
  obtain ⟨av, cv, rfl, -, -, -, hcv⟩ := h2
  have hne : ((hs.length : Int) != (hs.length : Int)) = false := by simp
  go_enter Try.func12, Try.ntmps12
  go_wp2_with fail
  go_loopw [5] (fun i wr => ∃ j : Nat, j ≤ hs.length ∧ i = .int .i64 j ∧ Below w.heap.size w wr) (fun i _ => hs.length - (intOf i).toNat)
  case atStart => exact ⟨0, Nat.zero_le _, rfl, Below.refl _ _⟩
  case round =>
    obtain ⟨j, hj, rfl, hB⟩ := hrel
    by_cases hlt : j < hs.length
    · obtain ⟨x, y, hxy⟩ : ∃ x y, hs[j]? = some (x, y) := ⟨hs[j].1, hs[j].2, by simp [hlt]⟩
      obtain ⟨b1, o1, rfl, hd1⟩ := hcu (by omega)
      obtain ⟨b2, o2, rfl, hd2⟩ := hcv (by omega)
      have c1 := (hB.cell (World.block_lt_of_cell? _ _ (hd1 j x y hxy).1)).trans (hd1 j x y hxy).1
      have c2 := (hB.cell (World.block_lt_of_cell? _ _ (hd1 j x y hxy).2)).trans (hd1 j x y hxy).2
      have c3 := (hB.cell (World.block_lt_of_cell? _ _ (hd2 j x y hxy).1)).trans (hd2 j x y hxy).1
      have c4 := (hB.cell (World.block_lt_of_cell? _ _ (hd2 j x y hxy).2)).trans (hd2 j x y hxy).2
      have g3 : (j : Int) < (hs.length : Int) := by omega
      have g5 : (0 : Int) ≤ (j : Int) := by omega
      have hin := eqIn2 x y x y
      have hnn : ∀ w, (binOp .neq 38 (.agg #[.int .i64 x, .int .i64 y]) (.agg #[.int .i64 x, .int .i64 y])).run Try.prog w = .ok (.bool false) w := fun w => by rw [neq2]; simp
      have HB := hide hB
      clear hcu hcv hd1 hd2 hB hxy
      go_wp2_with fail
      go_quiet (fail)
      go_wp2_with fail
      go_roundw
      case rel => exact ⟨j + 1, by omega, by go_num, below_drewN (unhide HB) _⟩
      case measure => simp [intOf]; omega
    · obtain rfl : j = hs.length := by omega
      clear hcu hcv
      go_wp2_with fail
      go_ret
      exact ⟨rfl, hB⟩

end Go.Proofs.Ytkodenmpadehjab
