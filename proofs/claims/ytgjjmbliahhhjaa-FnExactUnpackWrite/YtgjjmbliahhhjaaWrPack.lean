/-
  The model's l3Pack gives the eight words of a write that has no fault, in new memory; nothing old is written.
  Condition: the write has no fault.
-/
import Derived.Test.YtgjjmbliahhhjaaWrFault
import Derived.Deep.RegionHeld3
import Derived.BigQuiet
import Derived.Deep.QuietTactic
namespace Go.Proofs.Ytgjjmbliahhhjaa
open Go.RowKit

/-- What the last word is. -/
def checkOf (n : Int) : Int := (n.tmod 997 + 997).tmod 997
theorem tmod_bd (n : Int) : -997 < n.tmod 997 ∧ n.tmod 997 < 997 := ⟨by have := Int.lt_tmod_of_pos n (b := 997) (by omega); omega, Int.tmod_lt_of_pos n (by omega)⟩
/-- The sum that the last word tells of. -/
def packSum (k i s q x y z : Int) : Int := k + 3 * i + 5 * s + 7 * q + 11 * x + 13 * y + 17 * z

set_option maxRecDepth 100000 in
set_option maxHeartbeats 1000000 in
theorem l3Pack_put (b vb off cap : Nat) (i s q x y z : Int) (w : World) (hc : WriteAt w b 1 i (.slice (some ⟨vb, off, none⟩) 3 cap) s q)
    (hx : w.cell? ⟨vb, off, none⟩ = some (.int .i64 x) ∧ w.cell? ⟨vb, off + 1, none⟩ = some (.int .i64 y) ∧ w.cell? ⟨vb, off + 2, none⟩ = some (.int .i64 z))
    (hi : 1 ≤ i ∧ i ≤ 999) (hs : 1 ≤ s ∧ s ≤ 9) (hq : 1 ≤ q ∧ q ≤ 999) (bx : -1000 ≤ x ∧ x ≤ 1000) (bY : -1000 ≤ y ∧ y ≤ 1000) (bz : -1000 ≤ z ∧ z ≤ 1000) :
    Calls Try.prog 34 #[.pointer (some ⟨b, 0, none⟩)] w fun e w' => ∃ g : Nat, e = .returned (.slice (some ⟨g, 0, none⟩) 8 8) ∧
      w'.ownsRow w.heap.size 2 1 (.slice (some ⟨g, 0, none⟩) 8 8) 8 ([1, i, s, q, x, y, z, checkOf (packSum 1 i s q x y z)].map (Value.int .i64)) ∧ Below w.heap.size w w' := by
  obtain ⟨c0, c1, c2, c3, c4⟩ := hc
  obtain ⟨x0, x1, x2⟩ := hx
  obtain ⟨i1, i2⟩ := hi
  obtain ⟨s1, s2⟩ := hs
  obtain ⟨q1, q2⟩ := hq
  obtain ⟨m1, m2⟩ := bx
  obtain ⟨m3, m4⟩ := bY
  obtain ⟨m5, m6⟩ := bz
  have LV : Hid (Calls Try.prog 53 #[.pointer (some ⟨b, 0, none⟩)] w fun e w' => e = .returned (.slice (some ⟨vb, off, none⟩) 3 cap) ∧ w' = w) := by
    go_enter Try.func53, Try.ntmps53
    go_wp2_with fail
    go_ret
    exact ⟨rfl, rfl⟩
  have HS : Hid (packSum 1 i s q x y z = 1 + 3 * i + 5 * s + 7 * q + 11 * x + 13 * y + 17 * z) := by
    show packSum 1 i s q x y z = 1 + 3 * i + 5 * s + 7 * q + 11 * x + 13 * y + 17 * z
    unfold packSum
    omega
  go_enter Try.func34, Try.ntmps34
  go_wp2_with fail
  refine (unhide LV).mono ?_
  rintro e w1 ⟨rfl, rfl⟩
  go_wp2_with fail
  go_quiet (fail)
  have hS1 : -41000 ≤ 1 + 3 * i + 5 * s + 7 * q + 11 * x + 13 * y + 17 * z := by omega
  have hS2 : 1 + 3 * i + 5 * s + 7 * q + 11 * x + 13 * y + 17 * z ≤ 60000 := by omega
  generalize 1 + 3 * i + 5 * s + 7 * q + 11 * x + 13 * y + 17 * z = S0 at *
  have hT := tmod_bd S0
  have hT1 : IntKind.i64.wrap (S0.tmod 997 + 997) = S0.tmod 997 + 997 := by rw [IntKind.wrap_i64]; omega
  have HC : Hid (checkOf (packSum 1 i s q x y z) = (S0.tmod 997 + 997).tmod 997) := by
    show checkOf (packSum 1 i s q x y z) = (S0.tmod 997 + 997).tmod 997
    rw [unhide HS]
    rfl
  clear hT HS
  go_wp2_with fail
  first
    | go_region_held3 (fun w' => w'.cell? ⟨b, 0, none⟩ = some (.int .i64 1) ∧ w'.cell? ⟨b, 1, none⟩ = some (.int .i64 i) ∧ w'.cell? ⟨b, 3, none⟩ = some (.int .i64 s) ∧ w'.cell? ⟨b, 4, none⟩ = some (.int .i64 q) ∧ w'.cell? ⟨vb, off, none⟩ = some (.int .i64 x) ∧ w'.cell? ⟨vb, off + 1, none⟩ = some (.int .i64 y) ∧ w'.cell? ⟨vb, off + 2, none⟩ = some (.int .i64 z))
        (first
          | exact ⟨c0, c1, c3, c4, x0, x1, x2⟩
          | (refine ⟨(World.grownBy_alloc _ _ none).cell ?_ (by simp), (World.grownBy_alloc _ _ none).cell ?_ (by simp), (World.grownBy_alloc _ _ none).cell ?_ (by simp), (World.grownBy_alloc _ _ none).cell ?_ (by simp), (World.grownBy_alloc _ _ none).cell ?_ (by simp), (World.grownBy_alloc _ _ none).cell ?_ (by simp), (World.grownBy_alloc _ _ none).cell ?_ (by simp)⟩ <;> assumption)
          | go_keep)
        (fail)
    | fail
  have BE : Hid (∀ n o, Below w1.heap.size w1 ((w1.drewN n).alloc o)) := fun n o => (below_drawn (Below.refl w1.heap.size w1) n).alloc (Nat.le_refl _) o
  clear c0 c1 c3 c4 x0 x1 x2
  go_wp2_with fail
  go_ret
  refine ⟨_, rfl, ?_, unhide BE _ _⟩
  rw [unhide HC]
  exact World.ownsRow_lit _ _ 8 (Nat.le_refl _) (by unfold maxLen; omega) rfl

set_option maxRecDepth 100000 in
set_option maxHeartbeats 1000000 in
theorem l3Pack_drop (b : Nat) (i : Int) (v : Value) (s q : Int) (w : World) (hc : WriteAt w b 2 i v s q)
    (hi : 1 ≤ i ∧ i ≤ 999) (hs : 1 ≤ s ∧ s ≤ 9) (hq : 1 ≤ q ∧ q ≤ 999) :
    Calls Try.prog 34 #[.pointer (some ⟨b, 0, none⟩)] w fun e w' => ∃ g : Nat, e = .returned (.slice (some ⟨g, 0, none⟩) 8 8) ∧
      w'.ownsRow w.heap.size 2 1 (.slice (some ⟨g, 0, none⟩) 8 8) 8 ([2, i, s, q, 0, 0, 0, checkOf (packSum 2 i s q 0 0 0)].map (Value.int .i64)) ∧ Below w.heap.size w w' := by
  obtain ⟨c0, c1, c2, c3, c4⟩ := hc
  obtain ⟨i1, i2⟩ := hi
  obtain ⟨s1, s2⟩ := hs
  obtain ⟨q1, q2⟩ := hq
  have LV : Hid (Calls Try.prog 53 #[.pointer (some ⟨b, 0, none⟩)] w fun e w' => e = .returned (.slice (some ⟨w.heap.size, 0, none⟩) 3 3) ∧ w.alloc (.cells #[.int .i64 0, .int .i64 0, .int .i64 0] 2) = w') := by
    go_enter Try.func53, Try.ntmps53
    go_wp2_with fail
    go_ret
    exact ⟨rfl, rfl⟩
  have B0 : Below w.heap.size w (w.alloc (.cells #[.int .i64 0, .int .i64 0, .int .i64 0] 2)) := (Below.refl _ _).alloc (Nat.le_refl _) _
  replace c0 := cell_keep B0 c0
  replace c1 := cell_keep B0 c1
  replace c3 := cell_keep B0 c3
  replace c4 := cell_keep B0 c4
  have x0 : (w.alloc (.cells #[.int .i64 0, .int .i64 0, .int .i64 0] 2)).cell? ⟨w.heap.size, 0, none⟩ = some (.int .i64 0) := by simp [go_sem]
  have x1 : (w.alloc (.cells #[.int .i64 0, .int .i64 0, .int .i64 0] 2)).cell? ⟨w.heap.size, 1, none⟩ = some (.int .i64 0) := by simp [go_sem]
  have x2 : (w.alloc (.cells #[.int .i64 0, .int .i64 0, .int .i64 0] 2)).cell? ⟨w.heap.size, 2, none⟩ = some (.int .i64 0) := by simp [go_sem]
  clear c2
  have HS : Hid (packSum 2 i s q 0 0 0 = 2 + 3 * i + 5 * s + 7 * q) := by
    show packSum 2 i s q 0 0 0 = 2 + 3 * i + 5 * s + 7 * q
    unfold packSum
    omega
  go_enter Try.func34, Try.ntmps34
  go_wp2_with fail
  refine (unhide LV).mono ?_
  rintro e w1 ⟨rfl, hw1⟩
  rw [hw1] at c0 c1 c3 c4 x0 x1 x2 B0
  clear hw1
  go_wp2_with fail
  go_quiet (fail)
  have hS1 : -41000 ≤ 2 + 3 * i + 5 * s + 7 * q := by omega
  have hS2 : 2 + 3 * i + 5 * s + 7 * q ≤ 60000 := by omega
  generalize 2 + 3 * i + 5 * s + 7 * q = S0 at *
  have hT := tmod_bd S0
  have hT1 : IntKind.i64.wrap (S0.tmod 997 + 997) = S0.tmod 997 + 997 := by rw [IntKind.wrap_i64]; omega
  have HC : Hid (checkOf (packSum 2 i s q 0 0 0) = (S0.tmod 997 + 997).tmod 997) := by
    show checkOf (packSum 2 i s q 0 0 0) = (S0.tmod 997 + 997).tmod 997
    rw [unhide HS]
    rfl
  clear hT HS
  go_wp2_with fail
  first
    | go_region_held3 (fun w' => w'.cell? ⟨b, 0, none⟩ = some (.int .i64 2) ∧ w'.cell? ⟨b, 1, none⟩ = some (.int .i64 i) ∧ w'.cell? ⟨b, 3, none⟩ = some (.int .i64 s) ∧ w'.cell? ⟨b, 4, none⟩ = some (.int .i64 q) ∧ w'.cell? ⟨w.heap.size, 0, none⟩ = some (.int .i64 0) ∧ w'.cell? ⟨w.heap.size, 1, none⟩ = some (.int .i64 0) ∧ w'.cell? ⟨w.heap.size, 2, none⟩ = some (.int .i64 0))
        (first
          | exact ⟨c0, c1, c3, c4, x0, x1, x2⟩
          | (refine ⟨(World.grownBy_alloc _ _ none).cell ?_ (by simp), (World.grownBy_alloc _ _ none).cell ?_ (by simp), (World.grownBy_alloc _ _ none).cell ?_ (by simp), (World.grownBy_alloc _ _ none).cell ?_ (by simp), (World.grownBy_alloc _ _ none).cell ?_ (by simp), (World.grownBy_alloc _ _ none).cell ?_ (by simp), (World.grownBy_alloc _ _ none).cell ?_ (by simp)⟩ <;> assumption)
          | go_keep)
        (fail)
    | fail
  have BSZ := B0.size
  have BE : Hid (∀ n o, Below w.heap.size w ((w1.drewN n).alloc o)) := fun n o => (below_drawn B0 n).alloc B0.size o
  clear c0 c1 c3 c4 x0 x1 x2
  go_wp2_with fail
  go_ret
  refine ⟨_, rfl, ?_, unhide BE _ _⟩
  rw [unhide HC]
  exact World.ownsRow_lit _ _ 8 (by exact BSZ) (by unfold maxLen; omega) rfl

end Go.Proofs.Ytgjjmbliahhhjaa
