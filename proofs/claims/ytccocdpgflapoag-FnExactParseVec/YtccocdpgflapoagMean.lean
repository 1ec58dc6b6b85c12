/-
  The parts of MeanOf: the program's and the model's faults and roundings tell the same.
  Condition: what each is handed.
-/
import Derived.Test.YtccocdpgflapoagChecked
import Derived.Test.YtccocdpgflapoagBase
import Derived.Test.YtccocdpgflapoagPair
import Derived.Test.YtccocdpgflapoagMeanPlain
namespace Go.Proofs.Ytccocdpgflapoag
open Go.RowKit

set_option maxHeartbeats 400000 in
theorem implNear (s n : Int) (w : World) (h1 : 1 ≤ n) (h2 : n ≤ 1000) (h3 : -1000 * n ≤ s) (h4 : s ≤ 1000 * n) :
    Calls Try.prog 28 #[.int .i64 s, .int .i64 n] w fun e w' => e = .returned (.int .i64 (mean s n)) ∧ w' = w := by
  obtain ⟨b1, b2⟩ := near_bd s n h1 h3 h4
  have HM := hide (near_eq s n h1)
  have hd : (2 * n == 0) = false := by rw [beq_eq_false_iff_ne]; omega
  go_enter Try.func28, Try.ntmps28
  go_wp2
  go_ret
  refine ⟨?_, rfl⟩
  rw [← unhide HM]
  rfl

set_option maxHeartbeats 400000 in
theorem modelRound (s n : Int) (w : World) (h1 : 1 ≤ n) (h2 : n ≤ 1000) (h3 : -1000 * n ≤ s) (h4 : s ≤ 1000 * n) :
    Calls Try.prog 26 #[.int .i64 s, .int .i64 n] w fun e w' => e = .returned (.int .i64 (mean s n)) ∧ w' = w := by
  have hd : (2 * n == 0) = false := by rw [beq_eq_false_iff_ne]; omega
  by_cases hx : 0 ≤ 2 * s + n
  · have hm : 0 ≤ (2 * s + n) % (2 * n) := Int.emod_nonneg _ (by omega)
    go_enter Try.func26, Try.ntmps26
    go_wp2
    go_ret
    exact ⟨rfl, rfl⟩
  · obtain ⟨t1, t2⟩ := tdiv_neg_bd (2 * s + n) (2 * n) (by omega) (by omega)
    obtain ⟨r1, r2⟩ := round_neg (2 * s + n) (2 * n) (by omega) (by omega)
    by_cases hr : (2 * s + n).tmod (2 * n) < 0
    · have HM := hide (r1 hr)
      clear r1 r2
      go_enter Try.func26, Try.ntmps26
      go_wp2
      go_ret
      refine ⟨?_, rfl⟩
      unfold mean
      rw [← unhide HM]
      rfl
    · have HM := hide (r2 hr)
      clear r1 r2
      go_enter Try.func26, Try.ntmps26
      go_wp2
      go_ret
      refine ⟨?_, rfl⟩
      unfold mean
      rw [← unhide HM]
      rfl

theorem implMeanFault_n (ao : Option Addr) (len cap : Nat) (n : Int) (w : World) (h : n < 1 ∨ 1000 < n) :
    Calls Try.prog 27 #[.slice ao len cap, .int .i64 n] w fun e w' => e = .returned (.int .i64 3) ∧ w' = w := by
  by_cases h1 : n < 1
  · clear h
    go_enter Try.func27, Try.ntmps27
    go_wp2
    go_ret
    exact ⟨rfl, rfl⟩
  · have h2 : 1000 < n := by omega
    have hd : decide (1000 < n) = true := by simp; omega
    clear h
    go_enter Try.func27, Try.ntmps27
    go_wp2
    go_ret
    exact ⟨rfl, rfl⟩

theorem implMeanFault_len (ao : Option Addr) (len cap : Nat) (n : Int) (w : World) (h1 : 1 ≤ n) (h2 : n ≤ 1000) (hl : len ≠ 3) :
    Calls Try.prog 27 #[.slice ao len cap, .int .i64 n] w fun e w' => e = .returned (.int .i64 1) ∧ w' = w := by
  have hd : decide (1000 < n) = false := by simp; omega
  have h3 : ((len : Int) != 3) = true := by rw [bne_iff_ne]; omega
  go_enter Try.func27, Try.ntmps27
  go_wp2
  go_ret
  exact ⟨rfl, rfl⟩

set_option maxHeartbeats 400000 in
theorem implMeanFault_three (b off cap : Nat) (zs : List Int) (n : Int) (w : World) (h1 : 1 ≤ n) (h2 : n ≤ 1000) (h : zs.length = 3) (hc : ∀ j, j < 3 → w.cell? ⟨b, off + j, none⟩ = some (.int .i64 (zs.getD j 0))) :
    Calls Try.prog 27 #[.slice (some ⟨b, off, none⟩) 3 cap, .int .i64 n] w fun e w' => e = .returned (.int .i64 (meanFault zs n)) ∧ w' = w := by
  have hd : decide (1000 < n) = false := by simp; omega
  go_enter Try.func27, Try.ntmps27
  go_wp2
  go_loop [18] (fun i => ∃ k : Nat, k ≤ 3 ∧ i = .int .i64 k ∧ ∀ j, j < k → sumB n (zs.getD j 0) = true) (fun i => 3 - (intOf i).toNat)
  case atStart => exact ⟨0, Nat.zero_le _, rfl, fun j hj => by omega⟩
  case round =>
    obtain ⟨k, hk, rfl, hg⟩ := hrel
    have HG := hide hg
    have HL := hide h
    clear hg h
    by_cases hlt : k < 3
    · have hcx : w.cell? ⟨b, off + k, none⟩ = some (.int .i64 (zs.getD k 0)) := hc k hlt
      obtain ⟨z, hz⟩ : ∃ z, z = zs.getD k 0 := ⟨_, rfl⟩
      rw [← hz] at hcx
      have HZ := hide hz
      clear hz hc
      cases hp : sumB n z with
      | true =>
        obtain ⟨hb1, hb2⟩ := sumB_true hp
        have hd2 : decide (1000 * n < z) = false := by simp; omega
        have HP := hide hp
        clear hp
        go_wp2
        go_round
        case rel =>
          refine ⟨k + 1, by omega, by go_num, fun j hj => ?_⟩
          by_cases hjk : j < k
          · exact unhide HG j hjk
          · rw [show j = k by omega, ← unhide HZ]; exact unhide HP
        case measure => simp [intOf]; omega
      | false =>
        have HV := hide (meanFault_bad (unhide HL) k hlt (n := n) (by rw [← unhide HZ]; exact hp))
        have hb := sumB_false hp
        clear hp
        rcases hb with hb | hb
        · go_wp2
          go_ret
          exact ⟨by rw [unhide HV]; rfl, rfl⟩
        · have hb1 : -1000 * n ≤ z := by omega
          have hd2 : decide (1000 * n < z) = true := by simp; omega
          go_wp2
          go_ret
          exact ⟨by rw [unhide HV]; rfl, rfl⟩
    · have HV := hide (meanFault_ok h1 h2 (unhide HL) (fun j hj => unhide HG j (by omega)))
      go_wp2
      go_ret
      exact ⟨by rw [unhide HV]; rfl, rfl⟩

theorem implMeanFault (v : Value) (zs : List Int) (n : Int) (w : World) (h : IsInts w v zs) :
    Calls Try.prog 27 #[v, .int .i64 n] w fun e w' => e = .returned (.int .i64 (meanFault zs n)) ∧ w' = w := by
  obtain ⟨ao, cap, rfl, hwf, hc⟩ := h
  by_cases hn : n < 1 ∨ 1000 < n
  · rw [meanFault_n hn]
    exact implMeanFault_n ao zs.length cap n w hn
  · by_cases h3 : zs.length = 3
    · obtain ⟨b, off, rfl, hc1⟩ := hc (by omega)
      rw [h3] at hc1 ⊢
      exact implMeanFault_three b off cap zs n w (by omega) (by omega) h3 hc1
    · rw [meanFault_len (by omega) (by omega) h3]
      exact implMeanFault_len ao zs.length cap n w (by omega) (by omega) h3

end Go.Proofs.Ytccocdpgflapoag
