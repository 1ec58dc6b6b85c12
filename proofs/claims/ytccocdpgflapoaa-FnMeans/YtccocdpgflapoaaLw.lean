/-
  lwNums tells whether two vectors are the same; lwBig whether there are more than 1048576 bytes.
  No condition.
-/
import Derived.Test.YtccocdpgflapoaaChecked
import Derived.Test.YtccocdpgflapoaaBase
import Derived.BigQuiet
import Derived.Deep.QuietTactic
namespace Go.Proofs.Ytccocdpgflapoaa
open Go.RowKit

set_option maxHeartbeats 400000 in
theorem nums3 (b0 off cap b2 off2 cap2 : Nat) (x y z a b c : Int) (w : World) (c0 : w.cell? ⟨b0, off, none⟩ = some (.int .i64 x)) (c1 : w.cell? ⟨b0, off + 1, none⟩ = some (.int .i64 y)) (c2 : w.cell? ⟨b0, off + 2, none⟩ = some (.int .i64 z))
    (d0 : w.cell? ⟨b2, off2, none⟩ = some (.int .i64 a)) (d1 : w.cell? ⟨b2, off2 + 1, none⟩ = some (.int .i64 b)) (d2 : w.cell? ⟨b2, off2 + 2, none⟩ = some (.int .i64 c)) :
    Calls Try.prog 10 #[.slice (some ⟨b0, off, none⟩) 3 cap, .slice (some ⟨b2, off2, none⟩) 3 cap2] w fun e w' => e = .returned (.bool (decide (x = a ∧ y = b ∧ z = c))) ∧ Below w.heap.size w w' := by
  by_cases h0 : x = a
  · by_cases h1 : y = b
    · have e0 : (x != a) = false := by simp [h0]
      have e1 : (y != b) = false := by simp [h1]
      by_cases h2 : z = c
      · have e2 : (z != c) = false := by simp [h2]
        have HD : Hid (decide (x = a ∧ y = b ∧ z = c) = true) := by simp [Hid, h0, h1, h2]
        clear h0 h1 h2
        go_enter Try.func10, Try.ntmps10
        go_wp2
        refine wp_loop_rounds 4 ?_
        rw [rounds_succ]
        go_wp2
        go_quiet (fail)
        go_wp2
        rw [rounds_succ]
        go_wp2
        go_quiet (fail)
        go_wp2
        rw [rounds_succ]
        go_wp2
        go_quiet (fail)
        go_wp2
        rw [rounds_succ]
        go_wp2
        go_ret
        exact ⟨by rw [unhide HD]; rfl, by repeat (first | refine below_drawn ?_ _ | exact Below.refl _ _)⟩
      · have e2 : (z != c) = true := by simp [h2]
        have HD : Hid (decide (x = a ∧ y = b ∧ z = c) = false) := by simp [Hid, h2]
        clear h0 h1 h2
        go_enter Try.func10, Try.ntmps10
        go_wp2
        refine wp_loop_rounds 4 ?_
        rw [rounds_succ]
        go_wp2
        go_quiet (fail)
        go_wp2
        rw [rounds_succ]
        go_wp2
        go_quiet (fail)
        go_wp2
        rw [rounds_succ]
        go_wp2
        go_quiet (fail)
        go_wp2
        go_ret
        exact ⟨by rw [unhide HD]; rfl, by repeat (first | refine below_drawn ?_ _ | exact Below.refl _ _)⟩
    · have e0 : (x != a) = false := by simp [h0]
      have e1 : (y != b) = true := by simp [h1]
      have HD : Hid (decide (x = a ∧ y = b ∧ z = c) = false) := by simp [Hid, h1]
      clear h0 h1
      go_enter Try.func10, Try.ntmps10
      go_wp2
      refine wp_loop_rounds 4 ?_
      rw [rounds_succ]
      go_wp2
      go_quiet (fail)
      go_wp2
      rw [rounds_succ]
      go_wp2
      go_quiet (fail)
      go_wp2
      go_ret
      exact ⟨by rw [unhide HD]; rfl, by repeat (first | refine below_drawn ?_ _ | exact Below.refl _ _)⟩
  · have e0 : (x != a) = true := by simp [h0]
    have HD : Hid (decide (x = a ∧ y = b ∧ z = c) = false) := by simp [Hid, h0]
    clear h0
    go_enter Try.func10, Try.ntmps10
    go_wp2
    refine wp_loop_rounds 4 ?_
    rw [rounds_succ]
    go_wp2
    go_quiet (fail)
    go_wp2
    go_ret
    exact ⟨by rw [unhide HD]; rfl, by repeat (first | refine below_drawn ?_ _ | exact Below.refl _ _)⟩

theorem nums_same (b0 off cap b2 off2 cap2 : Nat) (x y z : Int) (w : World) (c0 : w.cell? ⟨b0, off, none⟩ = some (.int .i64 x)) (c1 : w.cell? ⟨b0, off + 1, none⟩ = some (.int .i64 y)) (c2 : w.cell? ⟨b0, off + 2, none⟩ = some (.int .i64 z))
    (d0 : w.cell? ⟨b2, off2, none⟩ = some (.int .i64 x)) (d1 : w.cell? ⟨b2, off2 + 1, none⟩ = some (.int .i64 y)) (d2 : w.cell? ⟨b2, off2 + 2, none⟩ = some (.int .i64 z)) :
    Calls Try.prog 10 #[.slice (some ⟨b0, off, none⟩) 3 cap, .slice (some ⟨b2, off2, none⟩) 3 cap2] w fun e w' => e = .returned (.bool true) ∧ Below w.heap.size w w' := by
  refine (nums3 b0 off cap b2 off2 cap2 x y z x y z w c0 c1 c2 d0 d1 d2).mono ?_
  rintro e w' ⟨rfl, hb⟩
  exact ⟨by simp, hb⟩

theorem big_no (ao : Option Addr) (len cap : Nat) (w : World) (hn : len ≤ 1048576) :
    Calls Try.prog 5 #[.slice ao len cap] w fun e w' => e = .returned (.bool false) ∧ w' = w := by
  have hd : decide (1048576 < (len : Int)) = false := by simp; omega
  go_enter Try.func5, Try.ntmps5
  go_wp2
  go_ret
  exact ⟨rfl, rfl⟩

theorem big_yes (ao : Option Addr) (len cap : Nat) (w : World) (hn : 1048576 < len) :
    Calls Try.prog 5 #[.slice ao len cap] w fun e w' => e = .returned (.bool true) ∧ w' = w := by
  have hd : decide (1048576 < (len : Int)) = true := by simp; omega
  go_enter Try.func5, Try.ntmps5
  go_wp2
  go_ret
  exact ⟨rfl, rfl⟩

theorem field0 (x y : Int) (w : World) : (Instr.field 28 (.agg #[.int .i64 x, .int .i64 y]) 0).run Try.prog w = .ok (.int .i64 x) w := by kernel_rfl
theorem field1 (x y : Int) (w : World) : (Instr.field 28 (.agg #[.int .i64 x, .int .i64 y]) 1).run Try.prog w = .ok (.int .i64 y) w := by kernel_rfl

/-- A function that computes: what it answers wherever w1 stands. -/
def Tells (P : Program) (f : Nat) (args : Array Value) (w1 : World) (v : Value) : Prop :=
  ∀ W, Below w1.heap.size w1 W → Calls P f args W fun e w' => e = .returned v ∧ Below W.heap.size W w'

theorem below_step {w1 W W' : World} (h : Below w1.heap.size w1 W) (k : Below W.heap.size W W') : Below w1.heap.size w1 W' := h.trans (k.mono h.size)

end Go.Proofs.Ytccocdpgflapoaa
