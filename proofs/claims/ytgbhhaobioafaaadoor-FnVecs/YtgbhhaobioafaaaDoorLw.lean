/-
  lwNums tells whether two vectors are the same; lwBig whether there are more than 1048576 bytes.
  No condition.
-/
import Derived.Test.YtgbhhaobioafaaaDoorChecked
import Derived.Test.YtgbhhaobioafaaaDoorBase
import Derived.BigQuiet
import Derived.Deep.QuietTactic
namespace Go.Proofs.YtgbhhaobioafaaaDoor
open Go.RowKit

set_option maxHeartbeats 400000 in
theorem nums3 (b0 off cap b2 off2 cap2 : Nat) (x y z a b c : Int) (w : World) (c0 : w.cell? ⟨b0, off, none⟩ = some (.int .i64 x)) (c1 : w.cell? ⟨b0, off + 1, none⟩ = some (.int .i64 y)) (c2 : w.cell? ⟨b0, off + 2, none⟩ = some (.int .i64 z))
    (d0 : w.cell? ⟨b2, off2, none⟩ = some (.int .i64 a)) (d1 : w.cell? ⟨b2, off2 + 1, none⟩ = some (.int .i64 b)) (d2 : w.cell? ⟨b2, off2 + 2, none⟩ = some (.int .i64 c)) :
    Calls Tryd.prog 11 #[.slice (some ⟨b0, off, none⟩) 3 cap, .slice (some ⟨b2, off2, none⟩) 3 cap2] w fun e w' => e = .returned (.bool (decide (x = a ∧ y = b ∧ z = c))) ∧ Below w.heap.size w w' := by
  by_cases h0 : x = a
  · by_cases h1 : y = b
    · have e0 : (x != a) = false := by simp [h0]
      have e1 : (y != b) = false := by simp [h1]
      by_cases h2 : z = c
      · have e2 : (z != c) = false := by simp [h2]
        have HD : Hid (decide (x = a ∧ y = b ∧ z = c) = true) := by simp [Hid, h0, h1, h2]
        clear h0 h1 h2
        go_enter Tryd.func11, Tryd.ntmps11
        go_wp2
        refine wp_loop_rounds 4 ?_
        rw [rounds_succ]
        go_wp2
        go_quiet (fail)
        go_wp2
        rw [rounds_succ]
        go_wp2
        go_quiet (fail)
        go_wp2
        rw [rounds_succ]
        go_wp2
        go_quiet (fail)
        go_wp2
        rw [rounds_succ]
        go_wp2
        go_ret
        exact ⟨by rw [unhide HD]; rfl, by repeat (first | refine below_drawn ?_ _ | exact Below.refl _ _)⟩
      · have e2 : (z != c) = true := by simp [h2]
        have HD : Hid (decide (x = a ∧ y = b ∧ z = c) = false) := by simp [Hid, h2]
        clear h0 h1 h2
        go_enter Tryd.func11, Tryd.ntmps11
        go_wp2
        refine wp_loop_rounds 4 ?_
        rw [rounds_succ]
        go_wp2
        go_quiet (fail)
        go_wp2
        rw [rounds_succ]
        go_wp2
        go_quiet (fail)
        go_wp2
        rw [rounds_succ]
        go_wp2
        go_quiet (fail)
        go_wp2
        go_ret
        exact ⟨by rw [unhide HD]; rfl, by repeat (first | refine below_drawn ?_ _ | exact Below.refl _ _)⟩
    · have e0 : (x != a) = false := by simp [h0]
      have e1 : (y != b) = true := by simp [h1]
      have HD : Hid (decide (x = a ∧ y = b ∧ z = c) = false) := by simp [Hid, h1]
      clear h0 h1
      go_enter Tryd.func11, Tryd.ntmps11
      go_wp2
      refine wp_loop_rounds 4 ?_
      rw [rounds_succ]
      go_wp2
      go_quiet (fail)
      go_wp2
      rw [rounds_succ]
      go_wp2
      go_quiet (fail)
      go_wp2
      go_ret
      exact ⟨by rw [unhide HD]; rfl, by repeat (first | refine below_drawn ?_ _ | exact Below.refl _ _)⟩
  · have e0 : (x != a) = true := by simp [h0]
    have HD : Hid (decide (x = a ∧ y = b ∧ z = c) = false) := by simp [Hid, h0]
    clear h0
    go_enter Tryd.func11, Tryd.ntmps11
    go_wp2
    refine wp_loop_rounds 4 ?_
    rw [rounds_succ]
    go_wp2
    go_quiet (fail)
    go_wp2
    go_ret
    exact ⟨by rw [unhide HD]; rfl, by repeat (first | refine below_drawn ?_ _ | exact Below.refl _ _)⟩

theorem nums_same (b0 off cap b2 off2 cap2 : Nat) (x y z : Int) (w : World) (c0 : w.cell? ⟨b0, off, none⟩ = some (.int .i64 x)) (c1 : w.cell? ⟨b0, off + 1, none⟩ = some (.int .i64 y)) (c2 : w.cell? ⟨b0, off + 2, none⟩ = some (.int .i64 z))
    (d0 : w.cell? ⟨b2, off2, none⟩ = some (.int .i64 x)) (d1 : w.cell? ⟨b2, off2 + 1, none⟩ = some (.int .i64 y)) (d2 : w.cell? ⟨b2, off2 + 2, none⟩ = some (.int .i64 z)) :
    Calls Tryd.prog 11 #[.slice (some ⟨b0, off, none⟩) 3 cap, .slice (some ⟨b2, off2, none⟩) 3 cap2] w fun e w' => e = .returned (.bool true) ∧ Below w.heap.size w w' := by
  refine (nums3 b0 off cap b2 off2 cap2 x y z x y z w c0 c1 c2 d0 d1 d2).mono ?_
  rintro e w' ⟨rfl, hb⟩
  exact ⟨by simp, hb⟩

end Go.Proofs.YtgbhhaobioafaaaDoor
