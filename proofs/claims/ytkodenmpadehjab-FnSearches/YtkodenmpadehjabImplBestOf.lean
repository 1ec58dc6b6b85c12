/-
  Small laws that the other texts lean on, in one text: ImplKeep, ImplFirst, ImplLoose, ImplBest.
  No condition.
-/
import Derived.Test.YtkodenmpadehjabImplHit
import Derived.Test.YtkodenmpadehjabHitAdd
import Derived.Test.YtkodenmpadehjabHitInsert
import Derived.Test.YtkodenmpadehjabHitBest
import Derived.Test.YtkodenmpadehjabHitFaultB
import Derived.Test.YtkodenmpadehjabHitOpsB

namespace Go.Proofs.Ytkodenmpadehjab
open Go.RowKit

theorem ins_same {hs : List (Int × Int)} {h : Int × Int} (he : hs[posOf hs h]? = some h) : ins hs h = hs := by
  rw [ins_pos, if_pos he]
  simp
theorem ins_new {hs : List (Int × Int)} {h : Int × Int} (he : ¬ hs[posOf hs h]? = some h) : ins hs h = hs.take (posOf hs h) ++ h :: hs.drop (posOf hs h) := by
  rw [ins_pos, if_neg he]
  simp

set_option maxRecDepth 100000 in
set_option maxHeartbeats 1000000 in
theorem implKeep_go (base : Nat) (ao : Option Addr) (cap : Nat) (hs : List (Int × Int)) (x y : Int) (k : Nat) (w : World) (hown : w.ownsRow base 38 2 (.slice ao hs.length cap) hs.length (cells2 hs)) (hn : hs.length ≤ 100000) (hk : hs.length ≤ k) (hk2 : k ≤ 100000) (hbase : base ≤ w.heap.size) (hwf : ∀ p ∈ hs, Wf2 p) (hwh : Wf2 (x, y)) :
    Calls Try.prog 44 #[.slice ao hs.length cap, .agg #[.int .i64 x, .int .i64 y], .int .i64 k, .func (.func 10) #[] #[]] w fun e w' =>
      ∃ r, e = .returned r ∧ w'.ownsRow base 38 2 r ((ins hs (x, y)).take k).length (cells2 ((ins hs (x, y)).take k)) ∧ Below base w w' := by
  have HI := isHits_row hwf hown
  have B0 : Below w.heap.size w (w.alloc (.cells #[.int .i64 x, .int .i64 y] 38)) := (Below.refl _ _).alloc (Nat.le_refl _) _
  obtain ⟨q0, q1⟩ := new_cells (w := w) (T := 38) (x := .int .i64 x) (y := .int .i64 y)
  have HH : Hid (∀ W, Below w.heap.size w W → IsHits W (.slice ao hs.length cap) hs) := fun W hW => HI.later hW
  have HO : Hid (∀ W, Below w.heap.size w W → W.ownsRow base 38 2 (.slice ao hs.length cap) hs.length (cells2 hs)) := fun W hW => own_below hown hW
  have HWF := hide hwf
  clear hown HI hwf
  go_enter Try.func44, Try.ntmps44
  go_wp2_with fail
  go_loopw [9] (fun i wr => ∃ j : Nat, j ≤ hs.length ∧ i = .int .i64 j ∧ j + posOf (hs.drop j) (x, y) = posOf hs (x, y) ∧ wr.cell? ⟨w.heap.size, 0, none⟩ = some (.int .i64 x) ∧ wr.cell? ⟨w.heap.size, 1, none⟩ = some (.int .i64 y) ∧ Below w.heap.size w wr) (fun i _ => hs.length - (intOf i).toNat)
  case atStart => exact ⟨0, Nat.zero_le _, rfl, by simp, q0, q1, B0⟩
  case round =>
    obtain ⟨j, hj, rfl, hps, r0, r1, hB⟩ := hrel
    clear q0 q1 B0
    have HPS := hide hps
    have HB := hide hB
    clear hps hB
    go_upto_region 2 with fail
    go_cut [22] from 10 to 24 (fun s22 wx => s22 = .bool (goOn hs (x, y) j) ∧ wx.cell? ⟨w.heap.size, 0, none⟩ = some (.int .i64 x) ∧ wx.cell? ⟨w.heap.size, 1, none⟩ = some (.int .i64 y) ∧ Below w.heap.size w wx)
    case first =>
      by_cases hlt : j < hs.length
      · obtain ⟨x2, y2, hxy⟩ : ∃ x y, hs[j]? = some (x, y) := ⟨hs[j].1, hs[j].2, by simp [hlt]⟩
        obtain ⟨_, _, e1, _, _, _, hcc⟩ := unhide HH wr (unhide HB)
        simp only [Value.slice.injEq] at e1
        obtain ⟨rfl, -, rfl⟩ := e1
        obtain ⟨b, off, rfl, hcd⟩ := hcc (by omega)
        obtain ⟨p1, p2⟩ := hcd j x2 y2 hxy
        have hgo : goOn hs (x, y) j = bet (x2, y2) (x, y) := by simp [goOn, hxy]
        have HG := hide hgo
        have g1 : decide ((j : Int) < (hs.length : Int)) = true := by simp; omega
        have g3 : (j : Int) < (hs.length : Int) := by omega
        have g5 : (0 : Int) ≤ (j : Int) := by omega
        have LB : Hid (∀ W, Calls Try.prog 10 #[.agg #[.int .i64 x2, .int .i64 y2], .agg #[.int .i64 x, .int .i64 y]] W fun e w' => e = .returned (.bool (bet (x2, y2) (x, y))) ∧ Below W.heap.size W w') := fun W => implBetter x2 y2 x y W
        clear hxy hgo hcc hcd HPS HWF HH HO
        go_region_held3 (fun w' => Below wr.heap.size wr w' ∧ w'.cell? ⟨b, off + j * 2, none⟩ = some (.int .i64 x2) ∧ w'.cell? ⟨b, off + j * 2 + 1, none⟩ = some (.int .i64 y2) ∧ w'.cell? ⟨w.heap.size, 0, none⟩ = some (.int .i64 x) ∧ w'.cell? ⟨w.heap.size, 1, none⟩ = some (.int .i64 y))
          (first
            | exact ⟨(Below.refl _ _).drew, p1, p2, r0, r1⟩
            | (refine ⟨below_keep2 ?_ hb2, cell_keep hb2 ?_, cell_keep hb2 ?_, cell_keep hb2 ?_, cell_keep hb2 ?_⟩ <;> (first | assumption | (go_split_ands; assumption)))
            | go_keep)
          (first
            | (go_at_call 10; refine (unhide LB _).mono ?_; rintro e w2 ⟨rfl, hb2⟩))
        go_wp2_with fail
        go_meet
        refine ⟨congrArg Value.bool (unhide HG).symm, ?_, ?_, below_keep2 (unhide HB) ?_⟩ <;> (first | assumption | (go_split_ands; assumption))
      · obtain rfl : j = hs.length := by omega
        have hgo : goOn hs (x, y) hs.length = false := by simp [goOn]
        have HG := hide hgo
        have g1 : decide ((hs.length : Int) < (hs.length : Int)) = false := by simp
        clear hgo HPS HWF HH HO
        go_quiet (fail)
        go_wp2_with fail
        go_meet
        exact ⟨congrArg Value.bool (unhide HG).symm, r0, r1, below_drewN (unhide HB) _⟩
    case rest =>
    obtain ⟨rfl, s0, s1, hBc⟩ := hcut
    clear r0 r1 HB
    cases hg : goOn hs (x, y) j with
    | true =>
      obtain ⟨hlt, he⟩ := goOn_true hg
      have HP2 : Hid (j + 1 + posOf (hs.drop (j + 1)) (x, y) = posOf hs (x, y)) := by
        show j + 1 + posOf (hs.drop (j + 1)) (x, y) = posOf hs (x, y)
        have := unhide HPS
        omega
      have HBc := hide hBc
      clear he HPS hg hBc
      go_wp2_with fail
      go_roundw
      case rel => exact ⟨j + 1, by omega, by go_num, unhide HP2, s0, s1, unhide HBc⟩
      case measure => simp [intOf]; omega
    | false =>
      have hpo := goOn_false hg
      have hps := unhide HPS
      rw [hpo, Nat.add_zero] at hps
      have HE := hide hps
      have HBc := hide hBc
      clear hpo hps hg hBc HPS
      go_upto_region 4 with fail
      go_cut [36] from 25 to 35 (fun s36 wx => s36 = .bool (decide (hs[j]? = some (x, y))) ∧ wx.cell? ⟨w.heap.size, 0, none⟩ = some (.int .i64 x) ∧ wx.cell? ⟨w.heap.size, 1, none⟩ = some (.int .i64 y) ∧ Below w.heap.size w wx)
      case first =>
        by_cases hlt : j < hs.length
        · obtain ⟨x2, y2, hxy⟩ : ∃ x y, hs[j]? = some (x, y) := ⟨hs[j].1, hs[j].2, by simp [hlt]⟩
          obtain ⟨_, _, e1, _, _, _, hcc⟩ := unhide HH wc (unhide HBc)
          simp only [Value.slice.injEq] at e1
          obtain ⟨rfl, -, rfl⟩ := e1
          obtain ⟨b, off, rfl, hcd⟩ := hcc (by omega)
          obtain ⟨p1, p2⟩ := hcd j x2 y2 hxy
          have hd : decide (hs[j]? = some (x, y)) = (x2 == x && y2 == y) := by
            rw [hxy]
            by_cases h1 : x2 = x <;> by_cases h2 : y2 = y <;> simp [h1, h2]
          have HG := hide hd
          have g1 : decide ((j : Int) < (hs.length : Int)) = true := by simp; omega
          have g3 : (j : Int) < (hs.length : Int) := by omega
          have g5 : (0 : Int) ≤ (j : Int) := by omega
          have hin := eqIn2 x2 y2 x y
          have hne := eql2 x2 y2 x y
          clear hxy hcc hcd hd HWF HH HO
          go_quiet (fail)
          go_wp2_with fail
          go_meet
          exact ⟨congrArg Value.bool (unhide HG).symm, s0, s1, below_drewN (unhide HBc) _⟩
        · obtain rfl : j = hs.length := by omega
          have hd : decide (hs[hs.length]? = some (x, y)) = false := by simp
          have HG := hide hd
          have g1 : decide ((hs.length : Int) < (hs.length : Int)) = false := by simp
          clear hd HWF HH HO
          go_quiet (fail)
          go_wp2_with fail
          go_meet
          exact ⟨congrArg Value.bool (unhide HG).symm, s0, s1, below_drewN (unhide HBc) _⟩
      case rest =>
      obtain ⟨rfl, u0, u1, hb3⟩ := hcut
      clear s0 s1 HBc
      have hj' := unhide HE
      by_cases hd : hs[j]? = some (x, y)
      · have d1 : decide (hs[j]? = some (x, y)) = true := by simp [hd]
        rw [d1]
        have hi : ins hs (x, y) = hs := ins_same (by rw [← hj']; exact hd)
        have O3 := unhide HO _ hb3
        have e1 : (ins hs (x, y)).take k = hs := by rw [hi, List.take_of_length_le hk]
        have HE1 := hide e1
        have HO3 := hide O3
        have HB3 := hide (hb3.mono hbase)
        clear d1 hd hi O3 e1 hb3 HH HO HWF u0 u1 hj'
        go_wp2_with fail
        go_ret
        refine ⟨_, rfl, ?_, unhide HB3⟩
        rw [unhide HE1]
        exact unhide HO3
      · have d1 : decide (hs[j]? = some (x, y)) = false := by simp [hd]
        rw [d1]
        have hi : ins hs (x, y) = hs.take j ++ (x, y) :: hs.drop j := by
          rw [ins_new (by rw [← hj']; exact hd), ← hj']
        have HI := hide hi
        have O3 := (unhide HO _ hb3).alloc (.cells #[.int .i64 x, .int .i64 y] 38)
        have hne : (Value.slice ao hs.length cap).ownBlock ≠ some wc.heap.size := fun e => by have := ((unhide HO _ hb3).lt _ e).2; omega
        have bs : base ≤ wc.heap.size := Nat.le_trans hbase hb3.size
        have L := implInsert base (.slice ao hs.length cap) hs.length j wc.heap.size hs x y (wc.alloc (.cells #[.int .i64 x, .int .i64 y] 38)) O3 hj (by omega) (by simp; omega) hne (by simpa using heap_alloc_new wc (.cells #[.int .i64 x, .int .i64 y] 38)) hwh
        have b4 : Below base w (wc.alloc (.cells #[.int .i64 x, .int .i64 y] 38)) := (hb3.mono hbase).alloc bs _
        have HB4 := hide b4
        have hlo : ∀ q, (Value.slice ao hs.length cap).ownBlock = some q → base ≤ q := fun q hq => ((unhide HO _ hb3).lt q hq).1
        have HLO := hide hlo
        have HBS := hide bs
        clear d1 hd hi O3 hne hb3 b4 hlo HH HO HWF bs hj'
        go_wp2_with fail
        refine L.mono ?_
        rintro e w5 ⟨r, rfl, O5, G5⟩
        have b5 : Below base w w5 := (unhide HB4).grown G5 (by have := unhide HBS; simp; omega) (fun q hq => unhide HLO q hq)
        rw [← unhide HI] at O5
        have hlen : hs.length + 1 = (ins hs (x, y)).length := by
          have := O5.1
          rw [cells2_len] at this
          omega
        obtain ⟨g, cp, rfl⟩ : ∃ g cp, r = .slice (some ⟨g, 0, none⟩) (hs.length + 1) cp := by
          rcases O5.2 with ⟨_, h0⟩ | ⟨g, cp, cur, rfl, _⟩
          · omega
          · exact ⟨g, cp, rfl⟩
        have hle := own_le O5
        have HB5 := hide b5
        clear L G5 b5 u0 u1 HB4
        by_cases hkk : hs.length = k
        · have O6 := own_take O5 k (by omega)
          have e2 : ((ins hs (x, y)).take k).length = k := by simp; omega
          have HO6 := hide O6
          have HE2 := hide e2
          have c1 : ((k : Nat) : Int) ≤ (cp : Int) := by omega
          have d2 : decide ((k : Int) < (hs.length : Int) + 1) = true := by simp; omega
          clear O5 O6 e2
          go_wp2_with fail
          go_ret
          refine ⟨_, rfl, ?_, unhide HB5⟩
          rw [unhide HE2]
          exact unhide HO6
        · have e1 : (ins hs (x, y)).take k = ins hs (x, y) := List.take_of_length_le (by omega)
          have HE1 := hide e1
          have HLE := hide hlen
          have HO5 := hide O5
          have d2 : decide ((k : Int) < (hs.length : Int) + 1) = false := by simp; omega
          clear O5 e1 hlen
          go_wp2_with fail
          go_ret
          refine ⟨_, rfl, ?_, unhide HB5⟩
          rw [unhide HE1, ← unhide HLE]
          exact unhide HO5

/-- keepHit. -/
theorem implKeep (base : Nat) (v : Value) (hs : List (Int × Int)) (x y : Int) (k : Nat) (w : World) (hown : w.ownsRow base 38 2 v hs.length (cells2 hs)) (hn : hs.length ≤ 100000) (hk : hs.length ≤ k) (hk2 : k ≤ 100000) (hbase : base ≤ w.heap.size) (hwf : ∀ p ∈ hs, Wf2 p) (hwh : Wf2 (x, y)) :
    Calls Try.prog 44 #[v, .agg #[.int .i64 x, .int .i64 y], .int .i64 k, .func (.func 10) #[] #[]] w fun e w' =>
      ∃ r, e = .returned r ∧ w'.ownsRow base 38 2 r ((ins hs (x, y)).take k).length (cells2 ((ins hs (x, y)).take k)) ∧ Below base w w' := by
  obtain ⟨ao, cap, rfl⟩ := own_shape hown
  exact implKeep_go base ao cap hs x y k w hown hn hk hk2 hbase hwf hwh

end Go.Proofs.Ytkodenmpadehjab

namespace Go.Proofs.Ytkodenmpadehjab
open Go.RowKit

set_option maxHeartbeats 1000000 in
theorem implFirst (v : Value) (hs : List (Int × Int)) (k : Nat) (w : World) (h : IsHits w v hs) (hn : hs.length ≤ 100000) (hk : k ≤ 100) :
    Calls Try.prog 36 #[v, .int .i64 k, .func (.func 10) #[] #[]] w fun e w' =>
      ∃ r, e = .returned r ∧ w'.ownsRow w.heap.size 38 2 r (best k hs).length (cells2 (best k hs)) ∧ Below w.heap.size w w' := by
  obtain ⟨ao, cap, rfl, h1, h2, hwf, hc⟩ := h
  have HWF := hide hwf
  clear hwf h2
  go_enter Try.func36, Try.ntmps36
  go_wp2_with fail
  go_loopw [7, 12] (fun v i wr => ∃ (j : Nat) (a : Option Addr) (cp : Nat), j ≤ hs.length ∧ i = .int .i64 j ∧ v = .slice a (best k (hs.take j)).length cp ∧ wr.ownsRow w.heap.size 38 2 v (best k (hs.take j)).length (cells2 (best k (hs.take j))) ∧ Below w.heap.size w wr)
    (fun _ i _ => hs.length - (intOf i).toNat)
  case atStart => exact ⟨0, none, 0, Nat.zero_le _, rfl, rfl, World.ownsRow_nil _ _ _ _, Below.refl _ _⟩
  case round =>
    obtain ⟨j, a, cp, hj, rfl, rfl, hown, hB⟩ := hrel
    by_cases hlt : j < hs.length
    · obtain ⟨x, y, hxy⟩ : ∃ x y, hs[j]? = some (x, y) := ⟨hs[j].1, hs[j].2, by simp [hlt]⟩
      obtain ⟨b, off, rfl, hcd⟩ := hc (by omega)
      have c1 := (hB.cell (World.block_lt_of_cell? _ _ (hcd j x y hxy).1)).trans (hcd j x y hxy).1
      have c2 := (hB.cell (World.block_lt_of_cell? _ _ (hcd j x y hxy).2)).trans (hcd j x y hxy).2
      have hw1 : ∀ p ∈ best k (hs.take j), Wf2 p := fun p hp => unhide HWF p (List.mem_of_mem_take (best_mem hp))
      have hl := best_len k (hs.take j)
      have hwh : Wf2 (x, y) := unhide HWF _ (List.mem_of_getElem? hxy)
      have HS := hide (best_snoc k hs j x y hxy)
      have L := implKeep w.heap.size (.slice a (best k (hs.take j)).length cp) (best k (hs.take j)) x y k (wr.alloc (.cells #[.int .i64 x, .int .i64 y] 38)) (hown.alloc _) (by omega) hl (by omega) (by have := hB.size; simp; omega) hw1 hwh
      rw [← unhide HS] at L
      have HB := hide (hB.alloc hB.size (.cells #[.int .i64 x, .int .i64 y] 38))
      have HC := hide hc
      clear hown hB hc hcd hxy hw1 hl hwh HS
      generalize (best k (hs.take j)).length = n at *
      go_wp2_with fail
      refine L.mono ?_
      rintro e w1 ⟨r, rfl, ho, hb⟩
      obtain ⟨a1, cp1, rfl⟩ := own_shape ho
      have HO := hide ho
      have HB1 := hide ((unhide HB).trans hb)
      clear L ho hb HB c1 c2
      go_wp2_with fail
      go_roundw
      case rel => exact ⟨j + 1, a1, cp1, by omega, by go_num, rfl, unhide HO, unhide HB1⟩
      case measure => simp [intOf]; omega
    · obtain rfl : j = hs.length := by omega
      rw [List.take_length] at hown ⊢
      have HO := hide hown
      have HB := hide hB
      clear hown hB hc
      go_wp2_with fail
      go_ret
      exact ⟨_, rfl, unhide HO, unhide HB⟩

end Go.Proofs.Ytkodenmpadehjab

namespace Go.Proofs.Ytkodenmpadehjab
open Go.RowKit

def looseOf (hs : List (Int × Int)) : Int := if 200 < hs.length then 2 else if hs.all oneB then 0 else 3

set_option maxHeartbeats 400000 in
theorem implLoose (v : Value) (hs : List (Int × Int)) (w : World) (h : IsHits w v hs) :
    Calls Try.prog 35 #[v] w fun e w' => e = .returned (.int .i64 (looseOf hs)) ∧ Below w.heap.size w w' := by
  obtain ⟨ao, cap, rfl, h1, h2, hwf, hc⟩ := h
  by_cases hn : hs.length ≤ 200
  · have e : looseOf hs = if hs.all oneB then 0 else 3 := by unfold looseOf; rw [if_neg (by omega)]
    rw [e]
    have e0 : ∃ F0 : Int, (if hs.all oneB = true then 0 else 3) = F0 := ⟨_, rfl⟩
    obtain ⟨F0, hF0⟩ := e0
    rw [hF0]
    clear e hwf h2
    go_enter Try.func35, Try.ntmps35
    go_wp2_with fail
    go_loopw [10] (fun i wr => ∃ k : Nat, k ≤ hs.length ∧ i = .int .i64 k ∧ (if (hs.drop k).all oneB = true then (0 : Int) else 3) = F0 ∧ Below w.heap.size w wr) (fun i _ => hs.length - (intOf i).toNat)
    case atStart => exact ⟨0, Nat.zero_le _, rfl, hF0, Below.refl _ _⟩
    case round =>
      obtain ⟨k, hk, rfl, hF, hB⟩ := hrel
      by_cases hlt : k < hs.length
      · obtain ⟨x, y, hxy⟩ : ∃ x y, hs[k]? = some (x, y) := ⟨hs[k].1, hs[k].2, by simp [hlt]⟩
        obtain ⟨b, off, rfl, hc1⟩ := hc (by omega)
        have c1 := (hB.cell (World.block_lt_of_cell? _ _ (hc1 k x y hxy).1)).trans (hc1 k x y hxy).1
        have c2 := (hB.cell (World.block_lt_of_cell? _ _ (hc1 k x y hxy).2)).trans (hc1 k x y hxy).2
        rw [drop_at hxy, List.all_cons] at hF
        have HF := hide hF
        have HB := hide hB
        clear hF hB hc1 hxy
        go_wp2_with fail
        refine (implIsHit x y _).mono ?_
        rintro e w1 ⟨rfl, hb1⟩
        have hb0 : Below wr.heap.size wr w1 := ((Below.refl _ _).alloc (Nat.le_refl _) _).trans (hb1.mono (by simp))
        have B1 := hide (below_keep2 (unhide HB) hb0)
        cases ho : oneB (x, y) with
        | false =>
          have hF := unhide HF
          rw [ho, Bool.false_and, if_neg (by simp)] at hF
          have HF2 := hide hF
          clear c1 c2 HF HB hF ho hb0 hb1 hc
          go_wp2_with fail
          go_ret
          refine ⟨?_, unhide B1⟩
          rw [← unhide HF2]
          rfl
        | true =>
          have hF := unhide HF
          rw [ho, Bool.true_and] at hF
          have HF2 := hide hF
          clear c1 c2 HF HB hF ho hb0 hb1
          go_wp2_with fail
          go_roundw
          case rel => exact ⟨k + 1, by omega, by go_num, unhide HF2, unhide B1⟩
          case measure => simp [intOf]; omega
      · obtain rfl : k = hs.length := by omega
        rw [List.drop_length, List.all_nil, if_pos rfl] at hF
        have HF := hide hF
        clear hc hF
        go_wp2_with fail
        go_ret
        refine ⟨?_, hB⟩
        rw [← unhide HF]
        rfl
  · have e : looseOf hs = 2 := by unfold looseOf; rw [if_pos (by omega)]
    rw [e]
    have hd : decide ((200 : Int) < (hs.length : Int)) = true := by simp; omega
    clear hc h1 h2 hwf e
    go_enter Try.func35, Try.ntmps35
    go_wp2_with fail
    go_ret
    exact ⟨rfl, Below.refl _ _⟩

end Go.Proofs.Ytkodenmpadehjab

namespace Go.Proofs.Ytkodenmpadehjab
open Go.RowKit

theorem bestCode_eq (hs : List (Int × Int)) (k : Int) : bestCode hs k = if kB k then looseOf hs else 3 := rfl

theorem looseOf_zero {hs : List (Int × Int)} (h : looseOf hs = 0) : hs.length ≤ 200 := by
  unfold looseOf at h
  split at h
  · omega
  · omega

set_option maxRecDepth 100000 in
set_option maxHeartbeats 1000000 in
theorem implBest_all (v : Value) (hs : List (Int × Int)) (k : Int) (w : World) (h : IsHits w v hs) :
    Calls Try.prog 20 #[v, .int .i64 k] w fun e w' => Told w w' e (bestCode hs k) (bestList hs k) := by
  have HH := hide h
  have bb : Below w.heap.size w (w.alloc (.cells #[.int .i64 0, .slice none 0 0] 30)) := (Below.refl _ _).alloc (Nat.le_refl _) _
  clear h
  go_enter Try.func20, Try.ntmps20
  go_wp2_with fail
  refine (implWanted k _).mono ?_
  rintro e w1 ⟨rfl, rfl⟩
  have RV : Hid (∀ W, Below (w.alloc (.cells #[.int .i64 0, .slice none 0 0] 30)).heap.size (w.alloc (.cells #[.int .i64 0, .slice none 0 0] 30)) W → W.cell? ⟨w.heap.size, 0, none⟩ = some (.int .i64 0) ∧ W.cell? ⟨w.heap.size, 1, none⟩ = some (.slice none 0 0) ∧ (∀ o, W.frozen? ⟨w.heap.size, o, none⟩ = false) ∧ w.heap.size < W.heap.size) := fun W hW => resVar hW
  have HBB := hide bb
  clear bb
  generalize hwb : w.alloc (.cells #[.int .i64 0, .slice none 0 0] 30) = wb at *
  clear hwb
  cases hk : kB k with
  | false =>
    have e0 : bestCode hs k = 3 := by simp [bestCode_eq, hk]
    have e1 : bestList hs k = [] := by simp [bestList, e0]
    have hk' : (decide ((0 : Int) ≤ k) && decide (k ≤ 20)) = false := hk
    rw [hk']
    have E0 := hide e0
    have E1 := hide e1
    obtain ⟨z0, z1, z2, z3⟩ := unhide RV wb (Below.refl _ _)
    clear hk hk' e0 e1 RV
    go_wp2_with fail
    refine bodyPost_ret (v := intsRes 3 (.slice none 0 0)) (by simp [results, Try.results20, go_sem, intsRes, z0, z1]) rfl ?_
    rw [unhide E0, unhide E1]
    exact told_nil (((unhide HBB).setCell (by simp) _).setCell (by simp) _)
  | true =>
    have hk' : (decide ((0 : Int) ≤ k) && decide (k ≤ 20)) = true := hk
    rw [hk']
    have HK := hide hk
    clear hk hk'
    go_wp2_with fail
    refine (implLoose v hs _ ((unhide HH).later (unhide HBB))).mono ?_
    rintro e w2 ⟨rfl, hb2⟩
    have HB2 := hide hb2
    have HBW2 := hide (below_keep2 (unhide HBB) hb2)
    clear hb2
    by_cases hf : looseOf hs = 0
    · rw [hf]
      have hkk : 0 ≤ k ∧ k ≤ 20 := by simpa [kB] using unhide HK
      obtain ⟨m, rfl⟩ : ∃ m : Nat, k = m := ⟨k.toNat, by omega⟩
      have e0 : bestCode hs m = 0 := by simp [bestCode_eq, unhide HK, hf]
      have e1 : bestList hs m = best m hs := by simp [bestList, e0]
      have E0 := hide e0
      have E1 := hide e1
      have hl := looseOf_zero hf
      have L := implFirst v hs m w2 ((unhide HH).later (unhide HBW2)) (by omega) (by omega)
      clear hf e0 e1 hkk hl
      go_wp2_with fail
      refine L.mono ?_
      rintro e w4 ⟨r, rfl, hown, hb4⟩
      have hb5 := below_keep2 (unhide HB2) hb4
      obtain ⟨z0, z1, z2, z3⟩ := unhide RV w4 hb5
      have HBW4 := hide (below_keep2 (unhide HBW2) hb4)
      have hsz := (unhide RV w2 (unhide HB2)).2.2.2
      have HO2 : Hid (w4.ownsRow (w.heap.size + 1) 38 2 r (best m hs).length (cells2 (best m hs))) := own_mono hsz hown
      obtain ⟨a2, c2, rfl⟩ := own_shape hown
      generalize hln : (best m hs).length = n at *
      clear L hown hb4 hb5 RV
      go_wp2_with fail
      refine bodyPost_ret (v := intsRes 0 (.slice a2 n c2)) (by simp [results, Try.results20, go_sem, intsRes, z0, z1]) rfl ?_
      rw [unhide E0, unhide E1]
      refine ⟨_, rfl, ?_, ((unhide HBW4).setCell (by simp) _).setCell (by simp) _⟩
      rw [hln]
      exact own_mono (b := w.heap.size + 1) (by omega) (own_set (base := w.heap.size + 1) (own_set (base := w.heap.size + 1) (unhide HO2) (by simp) _) (by simp) _)
    · have e0 : bestCode hs k = looseOf hs := by simp [bestCode_eq, unhide HK]
      have e1 : bestList hs k = [] := by simp [bestList, e0, hf]
      have E0 := hide e0
      have E1 := hide e1
      have hd : (looseOf hs != 0) = true := by simpa using hf
      obtain ⟨z0, z1, z2, z3⟩ := unhide RV w2 (unhide HB2)
      clear hf e0 e1 RV
      generalize looseOf hs = F at *
      go_wp2_with fail
      refine bodyPost_ret (v := intsRes F (.slice none 0 0)) (by simp [results, Try.results20, go_sem, intsRes, z0, z1]) rfl ?_
      rw [unhide E0, unhide E1]
      exact told_nil (((unhide HBW2).setCell (by simp) _).setCell (by simp) _)

end Go.Proofs.Ytkodenmpadehjab
