/-
  lwAt picks a number below n from a code.
  Condition: the code is at most 1048576 long, n at most 1000000.
-/
import Derived.Test.YteekfapjfpkidabDraw1
namespace Go.Proofs.Yteekfapjfpkidab
open Go.RowKit

theorem lwAt_one (ao : Option Addr) (len cap : Nat) (i : Nat) (w : World) :
    Calls Try.prog 45 #[.slice ao len cap, .int .i64 i, .int .i64 1] w fun e w' => e = .returned (.int .i64 0) ∧ Below w.heap.size w w' := by
  go_enter Try.func45, Try.ntmps45
  go_wp2
  go_ret
  exact ⟨rfl, Below.refl _ _⟩

set_option maxHeartbeats 400000 in
theorem lwAt_empty (ao : Option Addr) (cap : Nat) (i : Nat) (n : Int) (w : World) (hi : i ≤ 1000000) (hn : 1 < n) (hn2 : n ≤ 1000000) :
    Calls Try.prog 45 #[.slice ao 0 cap, .int .i64 i, .int .i64 n] w fun e w' => ∃ r : Int, e = .returned (.int .i64 r) ∧ (0 ≤ r ∧ r < n) ∧ Below w.heap.size w w' := by
  have hd : (n == 0) = false := by rw [beq_eq_false_iff_ne]; omega
  have hd2 : decide (n ≤ 1) = false := by simp; omega
  go_enter Try.func45, Try.ntmps45
  go_wp2
  go_ret
  exact ⟨_, rfl, ⟨Int.emod_nonneg _ (by omega), Int.emod_lt_of_pos _ (by omega)⟩, Below.refl _ _⟩

set_option maxHeartbeats 1000000 in
theorem lwAt_some (cb off k cap i : Nat) (n : Int) (w : World) (hi : i ≤ 1000000) (hn : 1 < n) (hn2 : n ≤ 1000000) (hk : 0 < k) (hk2 : k ≤ 1048576)
    (hc : ∀ j, j < k → ∃ z : Int, w.cell? ⟨cb, off + j, none⟩ = some (.int .u8 z) ∧ 0 ≤ z ∧ z ≤ 255) :
    Calls Try.prog 45 #[.slice (some ⟨cb, off, none⟩) k cap, .int .i64 i, .int .i64 n] w fun e w' => ∃ r : Int, e = .returned (.int .i64 r) ∧ (0 ≤ r ∧ r < n) ∧ Below w.heap.size w w' := by
  obtain ⟨z, hz, z1, z2⟩ := hc (i % k) (Nat.mod_lt _ hk)
  obtain ⟨y, hy, y1, y2⟩ := hc ((i + 1) % k) (Nat.mod_lt _ hk)
  obtain ⟨q1, q2⟩ := quot_bd i k (by omega)
  have hd : (n == 0) = false := by rw [beq_eq_false_iff_ne]; omega
  have hd2 : ((k : Int) == 0) = false := by rw [beq_eq_false_iff_ne]; omega
  have hd3 : decide (n ≤ 1) = false := by simp; omega
  have r1 : 0 ≤ (i : Int) % (k : Int) := Int.emod_nonneg _ (by omega)
  have r2 : (i : Int) % (k : Int) < (k : Int) := Int.emod_lt_of_pos _ (by omega)
  have r3 : 0 ≤ ((i : Int) + 1) % (k : Int) := Int.emod_nonneg _ (by omega)
  have r4 : ((i : Int) + 1) % (k : Int) < (k : Int) := Int.emod_lt_of_pos _ (by omega)
  clear hc
  by_cases h200 : 200 < n
  · have hd4 : decide (200 < n) = true := by simp; omega
    go_enter Try.func45, Try.ntmps45
    go_wp2
    go_quiet (fail)
    go_wp2
    go_ret
    exact ⟨_, rfl, ⟨Int.emod_nonneg _ (by omega), Int.emod_lt_of_pos _ (by omega)⟩, below_drewN (Below.refl _ _) _⟩
  · have hd4 : decide (200 < n) = false := by simp; omega
    go_enter Try.func45, Try.ntmps45
    go_wp2
    go_quiet (fail)
    go_wp2
    go_ret
    exact ⟨_, rfl, ⟨Int.emod_nonneg _ (by omega), Int.emod_lt_of_pos _ (by omega)⟩, below_drewN (Below.refl _ _) _⟩

/-- lwAt: a number below n. -/
theorem lwAt {B : Nat} (ao : Option Addr) (len cap i n : Nat) (w : World) (hc : IsCode B w (.slice ao len cap)) (hi : i ≤ 1000000) (hn : 1 ≤ n) (hn2 : n ≤ 1000000) :
    Calls Try.prog 45 #[.slice ao len cap, .int .i64 i, .int .i64 n] w fun e w' => ∃ r : Nat, e = .returned (.int .i64 r) ∧ r < n ∧ Below w.heap.size w w' := by
  have fin : ∀ (e : Ending) (w' : World), (∃ r : Int, e = .returned (.int .i64 r) ∧ (0 ≤ r ∧ r < (n : Int)) ∧ Below w.heap.size w w') → ∃ r : Nat, e = .returned (.int .i64 r) ∧ r < n ∧ Below w.heap.size w w' := by
    rintro e w' ⟨r, rfl, ⟨h1, h2⟩, h3⟩
    obtain ⟨j, rfl⟩ := Int.eq_ofNat_of_zero_le h1
    exact ⟨j, rfl, by omega, h3⟩
  obtain ⟨ao', len', cap', he, hl, hc1⟩ := hc
  simp only [Value.slice.injEq] at he
  obtain ⟨rfl, rfl, rfl⟩ := he
  by_cases h1 : n = 1
  · subst h1
    refine (lwAt_one ao len cap i w).mono ?_
    rintro e w' ⟨rfl, h⟩
    exact ⟨0, rfl, by omega, h⟩
  · by_cases hp : 0 < len
    · obtain ⟨cb, off, rfl, hB, hc2⟩ := hc1 hp
      exact (lwAt_some cb off len cap i n w hi (by omega) (by omega) hp hl hc2).mono fin
    · obtain rfl : len = 0 := by omega
      exact (lwAt_empty ao cap i n w hi (by omega) (by omega)).mono fin

end Go.Proofs.Yteekfapjfpkidab
