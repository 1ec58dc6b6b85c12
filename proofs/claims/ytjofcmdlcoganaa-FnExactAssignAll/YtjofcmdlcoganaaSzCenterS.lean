/-
  szCenterS of laws/exact.go: what is left of a bound.
  Condition: the bound is at most 1048576.
-/
import Derived.Test.YtjofcmdlcoganaaChecked
import Derived.Test.YtjofcmdlcoganaaGround
import Derived.Test.YtjofcmdlcoganaaLayCenter
import Derived.Test.YtjofcmdlcoganaaSzCenter
namespace Go.Proofs.Ytjofcmdlcoganaa
open Go.RowKit

set_option maxRecDepth 10000 in
set_option maxHeartbeats 1000000 in
theorem sz_CenterS (v : Value) (xs : List DCenter) (l : Nat) (w : World) (h : (Lay.sl Lay.tCenter).Reads w [v] xs) (hl : l ≤ 1048576) :
    Calls Try.prog 20 #[v, .int .i64 l] w fun e w' => e = .returned (.int .i64 (szR l ((Lay.sl Lay.tCenter).sz xs))) ∧ Below w.heap.size w w' := by
  have hbig := h.big
  obtain ⟨ao, cap, rfl⟩ := open_sl h
  have HV : Hid ((Lay.sl Lay.tCenter).sz xs = xs.length + cntAll Lay.tCenter.sz xs) := rfl
  by_cases hn : xs.length ≤ l
  · have e1 : (l : Int) - (xs.length : Int) = ((l - xs.length : Nat) : Int) := by omega
    have e2 : decide (((l - xs.length : Nat) : Int) < 0) = false := by simp
    by_cases hp : 0 < xs.length
    · obtain ⟨b, off, rfl, hbl⟩ := Lay.sl_addr h hp
      have H := hide h
      clear h
      go_enter Try.func20, Try.ntmps20
      go_wp2_with fail
      go_loopw [1, 5] (fun lf i wr => ∃ k s : Nat, k ≤ xs.length ∧ i = .int .i64 k ∧ s = cntAll Lay.tCenter.sz (xs.take k) ∧ xs.length + s ≤ l ∧ lf = .int .i64 ((l - (xs.length + s) : Nat) : Int) ∧ Below w.heap.size w wr) (fun _ i _ => xs.length - (intOf i).toNat)
      case atStart => exact ⟨0, 0, Nat.zero_le _, rfl, rfl, by omega, by simp, Below.refl _ _⟩
      case round =>
        obtain ⟨k, s, hk, rfl, hs, hsl, rfl, hB⟩ := hrel
        have HS := hide hs
        clear hs e1 e2
        by_cases hlt : k < xs.length
        · obtain ⟨row, hc, hr⟩ := Lay.row_at (unhide H) hlt
          replace hr := hr.later hB
          have hr2 := hr
          obtain ⟨a0, d0, rfl, -⟩ := open_Center hr2
          have c0 : wr.cell? ⟨b, off + k, none⟩ = some (.slice a0 (xs[k]).vec.length d0) := (hB.cell (p := ⟨b, off + k, none⟩) hbl).trans (by have q1 : w.cell? ⟨b, off + k * 1 + 0, none⟩ = some (.slice a0 (xs[k]).vec.length d0) := hc 0 (by decide); rw [Nat.mul_one, Nat.add_zero] at q1; exact q1)
          have HB := hide hB
          have HR := hide hr
          have HT := hide (Lay.cntAll_take (f := Lay.tCenter.sz) hlt)
          have HL := hide (Lay.cntAll_take_le (f := Lay.tCenter.sz) (xs := xs) (k := k + 1))
          clear hB hr hc
          generalize hxk : xs[k] = x at *
          clear hxk
          go_wp2_with fail
          refine (sz_Center _ x (l - (xs.length + s)) wr (unhide HR) (by omega)).mono ?_
          rintro e w2 ⟨rfl, hb⟩
          replace HB := hide ((unhide HB).trans (hb.mono (unhide HB).size))
          clear hb HR c0
          have ht := unhide HT
          rw [← unhide HS] at ht
          have hle := unhide HL
          rw [ht] at hle
          have HQ := hide ht
          by_cases hq : xs.length + s + Lay.tCenter.sz x ≤ l
          · rw [szR_ok (by omega)]
            have e3 : l - (xs.length + s) - Lay.tCenter.sz x = l - (xs.length + (s + Lay.tCenter.sz x)) := by omega
            rw [e3]
            have e4 : decide (((l - (xs.length + (s + Lay.tCenter.sz x)) : Nat) : Int) < 0) = false := by simp
            clear ht hle e3
            generalize hz : s + Lay.tCenter.sz x = s2 at *
            have hs2 : xs.length + s2 ≤ l := by omega
            clear hz hq
            go_wp2_with fail
            go_roundw
            case rel => exact ⟨k + 1, s2, by omega, by go_num, (unhide HQ).symm, hs2, rfl, unhide HB⟩
            case measure => simp [intOf]; omega
          · rw [szR_many (by omega)]
            have HN : Hid (l < xs.length + cntAll Lay.tCenter.sz xs) := by
              show l < xs.length + cntAll Lay.tCenter.sz xs
              omega
            clear ht hle
            go_wp2_with fail
            go_ret
            refine ⟨?_, unhide HB⟩
            rw [unhide HV, szR_many (unhide HN)]
            rfl
        · obtain rfl : k = xs.length := by omega
          have HE : Hid (s = cntAll Lay.tCenter.sz xs) := by
            have := unhide HS
            rw [List.take_length] at this
            exact this
          have HB := hide hB
          clear hB HS
          go_wp2_with fail
          go_ret
          refine ⟨?_, unhide HB⟩
          rw [unhide HV, ← unhide HE, szR_ok hsl]
          rfl
    · obtain rfl : xs = [] := List.eq_nil_of_length_eq_zero (by omega)
      clear h hp
      rw [unhide HV]
      simp only [List.length_nil, cntAll, Nat.add_zero, Nat.sub_zero] at *
      rw [szR_ok (Nat.zero_le _)]
      have e3 : decide ((l : Int) < 0) = false := by simp
      go_enter Try.func20, Try.ntmps20
      go_wp2_with fail
      refine wp_loop_rounds 1 ?_
      rw [rounds_succ]
      go_wp2_with fail
      go_ret
      exact ⟨by simp, Below.refl _ _⟩
  · have HN : Hid (szR l ((Lay.sl Lay.tCenter).sz xs) = -1) := szR_many (by rw [unhide HV]; omega)
    rw [unhide HN]
    have e2 : decide ((l : Int) - (xs.length : Int) < 0) = true := by simp; omega
    clear h HV HN
    generalize xs.length = n at *
    go_enter Try.func20, Try.ntmps20
    go_wp2_with fail
    go_ret
    exact ⟨rfl, Below.refl _ _⟩

end Go.Proofs.Ytjofcmdlcoganaa
