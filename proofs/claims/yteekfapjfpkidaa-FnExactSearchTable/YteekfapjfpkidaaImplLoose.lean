/-
  The program's looseFault tells what is wrong with hits in any order; nothing old is written.
  No condition.
-/
import Derived.Test.YteekfapjfpkidaaImplHit
import Derived.Test.YteekfapjfpkidaaHitFaultB
namespace Go.Proofs.Yteekfapjfpkidaa
open Go.RowKit

def looseOf (hs : List (Int × Int)) : Int := if 200 < hs.length then 2 else if hs.all oneB then 0 else 3

set_option maxHeartbeats 400000 in
theorem implLoose (v : Value) (hs : List (Int × Int)) (w : World) (h : IsHits w v hs) :
    Calls Try.prog 76 #[v] w fun e w' => e = .returned (.int .i64 (looseOf hs)) ∧ Below w.heap.size w w' := by
  obtain ⟨ao, cap, rfl, h1, h2, hwf, hc⟩ := h
  by_cases hn : hs.length ≤ 200
  · have e : looseOf hs = if hs.all oneB then 0 else 3 := by unfold looseOf; rw [if_neg (by omega)]
    rw [e]
    have e0 : ∃ F0 : Int, (if hs.all oneB = true then 0 else 3) = F0 := ⟨_, rfl⟩
    obtain ⟨F0, hF0⟩ := e0
    rw [hF0]
    clear e hwf h2
    go_enter Try.func76, Try.ntmps76
    go_wp2_with fail
    go_loopw [10] (fun i wr => ∃ k : Nat, k ≤ hs.length ∧ i = .int .i64 k ∧ (if (hs.drop k).all oneB = true then (0 : Int) else 3) = F0 ∧ Below w.heap.size w wr) (fun i _ => hs.length - (intOf i).toNat)
    case atStart => exact ⟨0, Nat.zero_le _, rfl, hF0, Below.refl _ _⟩
    case round =>
      obtain ⟨k, hk, rfl, hF, hB⟩ := hrel
      by_cases hlt : k < hs.length
      · obtain ⟨x, y, hxy⟩ : ∃ x y, hs[k]? = some (x, y) := ⟨hs[k].1, hs[k].2, by simp [hlt]⟩
        obtain ⟨b, off, rfl, hc1⟩ := hc (by omega)
        have c1 := (hB.cell (World.block_lt_of_cell? _ _ (hc1 k x y hxy).1)).trans (hc1 k x y hxy).1
        have c2 := (hB.cell (World.block_lt_of_cell? _ _ (hc1 k x y hxy).2)).trans (hc1 k x y hxy).2
        rw [drop_at hxy, List.all_cons] at hF
        have HF := hide hF
        have HB := hide hB
        clear hF hB hc1 hxy
        go_wp2_with fail
        refine (implIsHit x y _).mono ?_
        rintro e w1 ⟨rfl, hb1⟩
        have hb0 : Below wr.heap.size wr w1 := ((Below.refl _ _).alloc (Nat.le_refl _) _).trans (hb1.mono (by simp))
        have B1 := hide (below_keep2 (unhide HB) hb0)
        cases ho : oneB (x, y) with
        | false =>
          have hF := unhide HF
          rw [ho, Bool.false_and, if_neg (by simp)] at hF
          have HF2 := hide hF
          clear c1 c2 HF HB hF ho hb0 hb1 hc
          go_wp2_with fail
          go_ret
          refine ⟨?_, unhide B1⟩
          rw [← unhide HF2]
          rfl
        | true =>
          have hF := unhide HF
          rw [ho, Bool.true_and] at hF
          have HF2 := hide hF
          clear c1 c2 HF HB hF ho hb0 hb1
          go_wp2_with fail
          go_roundw
          case rel => exact ⟨k + 1, by omega, by go_num, unhide HF2, unhide B1⟩
          case measure => simp [intOf]; omega
      · obtain rfl : k = hs.length := by omega
        rw [List.drop_length, List.all_nil, if_pos rfl] at hF
        have HF := hide hF
        clear hc hF
        go_wp2_with fail
        go_ret
        refine ⟨?_, hB⟩
        rw [← unhide HF]
        rfl
  · have e : looseOf hs = 2 := by unfold looseOf; rw [if_pos (by omega)]
    rw [e]
    have hd : decide ((200 : Int) < (hs.length : Int)) = true := by simp; omega
    clear hc h1 h2 hwf e
    go_enter Try.func76, Try.ntmps76
    go_wp2_with fail
    go_ret
    exact ⟨rfl, Below.refl _ _⟩

end Go.Proofs.Yteekfapjfpkidaa
