/-
  The program's HitsFault and looseFault tell what is wrong with a list of hits; nothing old is written.
  No condition.
-/
import Derived.Test.YtkodenmpadehjabImplHit
import Derived.Test.YtkodenmpadehjabHitFaultB
namespace Go.Proofs.Ytkodenmpadehjab
open Go.RowKit

set_option maxRecDepth 100000 in
set_option maxHeartbeats 400000 in
theorem implHitsFault_pos (b off cap : Nat) (hs : List (Int × Int)) (w : World) (hn : hs.length ≤ 20) (hc : ∀ j x y, hs[j]? = some (x, y) → w.cell? ⟨b, off + j * 2, none⟩ = some (.int .i64 x) ∧ w.cell? ⟨b, off + j * 2 + 1, none⟩ = some (.int .i64 y)) :
    Calls Try.prog 11 #[.slice (some ⟨b, off, none⟩) hs.length cap] w fun e w' => e = .returned (.int .i64 (faultFrom none hs)) ∧ Below w.heap.size w w' := by
  generalize hF0 : faultFrom none hs = F0
  go_enter Try.func11, Try.ntmps11
  go_wp2_with fail
  go_loopw [10] (fun i wr => ∃ k : Nat, k ≤ hs.length ∧ i = .int .i64 k ∧ faultFrom (ahead hs k) (hs.drop k) = F0 ∧ Below w.heap.size w wr) (fun i _ => hs.length - (intOf i).toNat)
  case atStart => exact ⟨0, Nat.zero_le _, rfl, hF0, Below.refl _ _⟩
  case round =>
    obtain ⟨k, hk, rfl, hF, hB⟩ := hrel
    by_cases hlt : k < hs.length
    · obtain ⟨x, y, hxy⟩ : ∃ x y, hs[k]? = some (x, y) := ⟨hs[k].1, hs[k].2, by simp [hlt]⟩
      rw [faultFrom_step hs k x y hxy] at hF
      have cc : ∀ W, Below wr.heap.size wr W → W.cell? ⟨b, off + k * 2, none⟩ = some (.int .i64 x) ∧ W.cell? ⟨b, off + k * 2 + 1, none⟩ = some (.int .i64 y) := fun W hW =>
        ⟨cell_keep (w := wr) hW ((hB.cell (World.block_lt_of_cell? _ _ (hc k x y hxy).1)).trans (hc k x y hxy).1), cell_keep (w := wr) hW ((hB.cell (World.block_lt_of_cell? _ _ (hc k x y hxy).2)).trans (hc k x y hxy).2)⟩
      obtain ⟨c1, c2⟩ := cc wr (Below.refl _ _)
      have HF := hide hF
      have HB := hide hB
      have HC := hide hc
      have HX := hide hxy
      clear hF hB hc hxy
      go_wp2_with fail
      refine (implIsHit x y _).mono ?_
      rintro e w1 ⟨rfl, hb1⟩
      obtain ⟨q0, q1⟩ := new_cells (w := wr) (T := 38) (x := .int .i64 x) (y := .int .i64 y)
      have d1 := cell_keep hb1 q0
      have d2 := cell_keep hb1 q1
      have hb0 : Below wr.heap.size wr w1 := ((Below.refl _ _).alloc (Nat.le_refl _) _).trans (hb1.mono (by simp))
      have B1 := hide (below_keep2 (unhide HB) hb0)
      cases ho : oneB (x, y) with
      | false =>
        have hF := unhide HF
        rw [ho] at hF
        simp only [Bool.false_eq_true, if_false] at hF
        have HF2 := hide hF
        clear c1 c2 d1 d2 cc HF HB HX hF ho q0 q1 hb0 hb1
        go_wp2_with fail
        go_ret
        exact ⟨by rw [← unhide HF2]; rfl, unhide B1⟩
      | true =>
        have hF := unhide HF
        rw [ho] at hF
        simp only [if_true] at hF
        have HF2 := hide hF
        clear c1 c2 cc HF HB hF ho hb1 q0 q1 hb0
        by_cases hk0 : k = 0
        · subst hk0
          have hF := unhide HF2
          simp only [ahead, if_true, Option.all_none] at hF
          have HF3 := hide hF
          clear HF2 hF HC HX
          have g0 : decide ((0 : Int) < 0) = false := by decide
          go_wp2_with fail
          go_quiet (fail)
          all_goals go_wp2_with fail
          all_goals exact ⟨⟨0 + 1, by omega, by go_num, unhide HF3, below_drewN (unhide B1) _⟩, by simp [intOf]; omega⟩
        · obtain ⟨m, rfl⟩ : ∃ m, k = m + 1 := ⟨k - 1, by omega⟩
          obtain ⟨x2, y2, hxy2⟩ : ∃ x y, hs[m]? = some (x, y) := ⟨hs[m].1, hs[m].2, by simp [show m < hs.length by omega]⟩
          have e1 : ahead hs (m + 1) = some (x2, y2) := by simpa [ahead] using hxy2
          have hF := unhide HF2
          rw [e1] at hF
          simp only [Option.all_some] at hF
          have HF3 := hide hF
          have p1 := ((unhide B1).cell (World.block_lt_of_cell? _ _ (unhide HC m x2 y2 hxy2).1)).trans (unhide HC m x2 y2 hxy2).1
          have p2 := ((unhide B1).cell (World.block_lt_of_cell? _ _ (unhide HC m x2 y2 hxy2).2)).trans (unhide HC m x2 y2 hxy2).2
          clear HF2 hF HC HX hxy2 e1 hk0
          have g1 : decide ((0 : Int) < (m : Int) + 1) = true := by simp
          have g2 : (m : Int) + 1 - 1 = (m : Int) := by omega
          have g3 : (m : Int) < (hs.length : Int) := by omega
          have g4 : IntKind.i64.wrap ((m : Int) + 1 - 1) = (m : Int) := by simp only [IntKind.wrap_i64]; omega
          have g9 : IntKind.i64.wrap (m : Int) = (m : Int) := by simp only [IntKind.wrap_i64]; omega
          have g5 : (0 : Int) ≤ (m : Int) := by omega
          have g6 : (m : Int) + 1 < (hs.length : Int) := by omega
          have g7 : (0 : Int) ≤ (m : Int) + 1 := by omega
          have g8 : ((m : Int) + 1).toNat = m + 1 := by omega
          go_wp2_with fail
          have LB : Hid (∀ W, Calls Try.prog 10 #[.agg #[.int .i64 x2, .int .i64 y2], .agg #[.int .i64 x, .int .i64 y]] W fun e w' => e = .returned (.bool (bet (x2, y2) (x, y))) ∧ Below W.heap.size W w') := fun W => implBetter x2 y2 x y W
          (go_region_held3 (fun w' => Below w1.heap.size w1 w' ∧ w'.cell? ⟨wr.heap.size, 0, none⟩ = some (.int .i64 x) ∧ w'.cell? ⟨wr.heap.size, 1, none⟩ = some (.int .i64 y) ∧ w'.cell? ⟨b, off + m * 2, none⟩ = some (.int .i64 x2) ∧ w'.cell? ⟨b, off + m * 2 + 1, none⟩ = some (.int .i64 y2))
                (first
                  | exact ⟨(Below.refl _ _).drew, d1, d2, p1, p2⟩
                  | (refine ⟨below_keep2 ?_ hb2, cell_keep hb2 ?_, cell_keep hb2 ?_, cell_keep hb2 ?_, cell_keep hb2 ?_⟩ <;> (first | assumption | (go_split_ands; assumption)))
                  | go_keep)
                (first
                  | (go_at_call 10; refine (unhide LB _).mono ?_; rintro e w2 ⟨rfl, hb2⟩)))
          have BW : Hid (Below w.heap.size w w2) := below_keep2 (unhide B1) (by first | assumption | (go_split_ands; assumption))
          cases hbt : bet (x2, y2) (x, y) with
          | false =>
            have hF := unhide HF3
            simp only [hbt, Bool.false_eq_true, if_false] at hF
            have HF4 := hide hF
            clear hF HF3 hbt
            go_wp2_with fail
            go_ret
            exact ⟨by rw [← unhide HF4]; rfl, unhide BW⟩
          | true =>
            have hF := unhide HF3
            simp only [hbt, if_true] at hF
            have HF4 := hide hF
            clear hF HF3 hbt
            go_wp2_with fail
            go_roundw
            case rel => exact ⟨m + 1 + 1, by omega, by go_num, unhide HF4, unhide BW⟩
            case measure => simp [intOf]; omega
    · obtain rfl : k = hs.length := by omega
      simp only [List.drop_length] at hF
      have HF := hide hF
      clear hc hF
      go_wp2_with fail
      go_ret
      exact ⟨by rw [← unhide HF]; simp [faultFrom], hB⟩

set_option maxHeartbeats 400000 in
theorem implHitsFault (v : Value) (hs : List (Int × Int)) (w : World) (h : IsHits w v hs) :
    Calls Try.prog 11 #[v] w fun e w' => e = .returned (.int .i64 (hitsFault hs)) ∧ Below w.heap.size w w' := by
  obtain ⟨ao, cap, rfl, h1, h2, hwf, hc⟩ := h
  by_cases hn : hs.length ≤ 20
  · have e : hitsFault hs = faultFrom none hs := by unfold hitsFault; rw [if_neg (by omega)]
    rw [e]
    by_cases hp : 0 < hs.length
    · obtain ⟨b, off, rfl, hc1⟩ := hc hp
      exact implHitsFault_pos b off cap hs w hn hc1
    · obtain rfl : hs = [] := List.eq_nil_of_length_eq_zero (by omega)
      clear hc h1 h2 hwf e hn hp
      go_enter Try.func11, Try.ntmps11
      go_wp2_with fail
      refine wp_loop_rounds 1 ?_
      rw [rounds_succ]
      go_wp2_with fail
      go_ret
      exact ⟨rfl, Below.refl _ _⟩
  · have e : hitsFault hs = 2 := by unfold hitsFault; rw [if_pos (by omega)]
    rw [e]
    have hd : decide ((20 : Int) < (hs.length : Int)) = true := by simp; omega
    clear hc h1 h2 hwf e
    go_enter Try.func11, Try.ntmps11
    go_wp2_with fail
    go_ret
    exact ⟨rfl, Below.refl _ _⟩

end Go.Proofs.Ytkodenmpadehjab
