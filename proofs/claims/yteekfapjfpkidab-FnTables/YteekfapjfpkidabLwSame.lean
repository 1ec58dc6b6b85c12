/-
  lwNums tells of two lists that hold the same numbers that they are the same.
  Condition: at most 1000000 numbers.
-/
import Derived.Test.YteekfapjfpkidabChecked
import Derived.Test.YteekfapjfpkidabGround
import Derived.BigQuiet
import Derived.Deep.QuietTactic
namespace Go.Proofs.Yteekfapjfpkidab
open Go.RowKit

set_option maxRecDepth 100000 in
set_option maxHeartbeats 1000000 in
theorem lwSame (u v : Value) (zs : List Int) (w : World) (h : (Lay.sl Lay.int).Reads w [u] zs) (h2 : (Lay.sl Lay.int).Reads w [v] zs) (hn : zs.length ≤ 1000000) :
    Calls Try.prog 33 #[u, v] w fun e w' => e = .returned (.bool true) ∧ Below w.heap.size w w' := by
  obtain ⟨bl1, hl1⟩ := h
  obtain ⟨bl2, hl2⟩ := h2
  obtain ⟨au, cu, rfl, -, -, h1⟩ := Lay.lies_ints.1 hl1
  obtain ⟨av, cv, rfl, -, -, h2⟩ := Lay.lies_ints.1 hl2
  clear hl1 hl2
  have hne : ((zs.length : Int) != (zs.length : Int)) = false := by simp
  go_enter Try.func33, Try.ntmps33
  go_wp2_with fail
  go_loopw [5] (fun i wr => ∃ j : Nat, j ≤ zs.length ∧ i = .int .i64 j ∧ Below w.heap.size w wr) (fun i _ => zs.length - (intOf i).toNat)
  case atStart => exact ⟨0, Nat.zero_le _, rfl, Below.refl _ _⟩
  case round =>
    obtain ⟨j, hj, rfl, hB⟩ := hrel
    by_cases hlt : j < zs.length
    · rcases h1 with ⟨rfl, -⟩ | ⟨b1, o1, rfl, hb1, -, hc1⟩
      · simp at hlt
      rcases h2 with ⟨rfl, -⟩ | ⟨b2, o2, rfl, hb2, -, hc2⟩
      · simp at hlt
      have c1 := (hB.cell (p := ⟨b1, o1 + j, none⟩) hb1).trans (hc1 j hlt)
      have c2 := (hB.cell (p := ⟨b2, o2 + j, none⟩) hb2).trans (hc2 j hlt)
      have g3 : (j : Int) < (zs.length : Int) := by omega
      have g5 : (0 : Int) ≤ (j : Int) := by omega
      generalize zs.getD j 0 = x at *
      have hxx : (x != x) = false := by simp
      have HB := hide hB
      clear hc1 hc2 hB
      go_wp2_with fail
      go_quiet (fail)
      go_wp2_with fail
      go_roundw
      case rel => exact ⟨j + 1, by omega, by go_num, below_drewN (unhide HB) _⟩
      case measure => simp [intOf]; omega
    · obtain rfl : j = zs.length := by omega
      clear h1 h2
      go_wp2_with fail
      go_ret
      exact ⟨rfl, hB⟩

end Go.Proofs.Yteekfapjfpkidab
