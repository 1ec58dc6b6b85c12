/-
  The program's keepHit puts a hit into a row of the caller's own and keeps the first ones; only that row and new memory are written.
  Condition: at most 100000 hits, no more than there is room for.
-/
import Derived.Test.YteekfapjfpkidaaImplHit
import Derived.Test.YteekfapjfpkidaaHitAdd
import Derived.Test.YteekfapjfpkidaaHitInsert
namespace Go.Proofs.Yteekfapjfpkidaa
open Go.RowKit

theorem ins_same {hs : List (Int × Int)} {h : Int × Int} (he : hs[posOf hs h]? = some h) : ins hs h = hs := by
  rw [ins_pos, if_pos he]
  simp
theorem ins_new {hs : List (Int × Int)} {h : Int × Int} (he : ¬ hs[posOf hs h]? = some h) : ins hs h = hs.take (posOf hs h) ++ h :: hs.drop (posOf hs h) := by
  rw [ins_pos, if_neg he]
  simp

set_option maxRecDepth 100000 in
set_option maxHeartbeats 1000000 in
theorem implKeep_go (base : Nat) (ao : Option Addr) (cap : Nat) (hs : List (Int × Int)) (x y : Int) (k : Nat) (w : World) (hown : w.ownsRow base 88 2 (.slice ao hs.length cap) hs.length (cells2 hs)) (hn : hs.length ≤ 100000) (hk : hs.length ≤ k) (hk2 : k ≤ 100000) (hbase : base ≤ w.heap.size) (hwf : ∀ p ∈ hs, Wf2 p) (hwh : Wf2 (x, y)) :
    Calls Try.prog 87 #[.slice ao hs.length cap, .agg #[.int .i64 x, .int .i64 y], .int .i64 k, .func (.func 78) #[] #[]] w fun e w' =>
      ∃ r, e = .returned r ∧ w'.ownsRow base 88 2 r ((ins hs (x, y)).take k).length (cells2 ((ins hs (x, y)).take k)) ∧ Below base w w' := by
  have HI := isHits_row hwf hown
  have B0 : Below w.heap.size w (w.alloc (.cells #[.int .i64 x, .int .i64 y] 88)) := (Below.refl _ _).alloc (Nat.le_refl _) _
  obtain ⟨q0, q1⟩ := new_cells (w := w) (T := 88) (x := .int .i64 x) (y := .int .i64 y)
  have HH : Hid (∀ W, Below w.heap.size w W → IsHits W (.slice ao hs.length cap) hs) := fun W hW => HI.later hW
  have HO : Hid (∀ W, Below w.heap.size w W → W.ownsRow base 88 2 (.slice ao hs.length cap) hs.length (cells2 hs)) := fun W hW => own_below hown hW
  have HWF := hide hwf
  clear hown HI hwf
  go_enter Try.func87, Try.ntmps87
  go_wp2_with fail
  go_loopw [9] (fun i wr => ∃ j : Nat, j ≤ hs.length ∧ i = .int .i64 j ∧ j + posOf (hs.drop j) (x, y) = posOf hs (x, y) ∧ wr.cell? ⟨w.heap.size, 0, none⟩ = some (.int .i64 x) ∧ wr.cell? ⟨w.heap.size, 1, none⟩ = some (.int .i64 y) ∧ Below w.heap.size w wr) (fun i _ => hs.length - (intOf i).toNat)
  case atStart => exact ⟨0, Nat.zero_le _, rfl, by simp, q0, q1, B0⟩
  case round =>
    obtain ⟨j, hj, rfl, hps, r0, r1, hB⟩ := hrel
    clear q0 q1 B0
    have HPS := hide hps
    have HB := hide hB
    clear hps hB
    go_upto_region 2 with fail
    go_cut [22] from 10 to 24 (fun s22 wx => s22 = .bool (goOn hs (x, y) j) ∧ wx.cell? ⟨w.heap.size, 0, none⟩ = some (.int .i64 x) ∧ wx.cell? ⟨w.heap.size, 1, none⟩ = some (.int .i64 y) ∧ Below w.heap.size w wx)
    case first =>
      by_cases hlt : j < hs.length
      · obtain ⟨x2, y2, hxy⟩ : ∃ x y, hs[j]? = some (x, y) := ⟨hs[j].1, hs[j].2, by simp [hlt]⟩
        obtain ⟨_, _, e1, _, _, _, hcc⟩ := unhide HH wr (unhide HB)
        simp only [Value.slice.injEq] at e1
        obtain ⟨rfl, -, rfl⟩ := e1
        obtain ⟨b, off, rfl, hcd⟩ := hcc (by omega)
        obtain ⟨p1, p2⟩ := hcd j x2 y2 hxy
        have hgo : goOn hs (x, y) j = bet (x2, y2) (x, y) := by simp [goOn, hxy]
        have HG := hide hgo
        have g1 : decide ((j : Int) < (hs.length : Int)) = true := by simp; omega
        have g3 : (j : Int) < (hs.length : Int) := by omega
        have g5 : (0 : Int) ≤ (j : Int) := by omega
        have LB : Hid (∀ W, Calls Try.prog 78 #[.agg #[.int .i64 x2, .int .i64 y2], .agg #[.int .i64 x, .int .i64 y]] W fun e w' => e = .returned (.bool (bet (x2, y2) (x, y))) ∧ Below W.heap.size W w') := fun W => implBetter x2 y2 x y W
        clear hxy hgo hcc hcd HPS HWF HH HO
        go_region_held3 (fun w' => Below wr.heap.size wr w' ∧ w'.cell? ⟨b, off + j * 2, none⟩ = some (.int .i64 x2) ∧ w'.cell? ⟨b, off + j * 2 + 1, none⟩ = some (.int .i64 y2) ∧ w'.cell? ⟨w.heap.size, 0, none⟩ = some (.int .i64 x) ∧ w'.cell? ⟨w.heap.size, 1, none⟩ = some (.int .i64 y))
          (first
            | exact ⟨(Below.refl _ _).drew, p1, p2, r0, r1⟩
            | (refine ⟨below_keep2 ?_ hb2, cell_keep hb2 ?_, cell_keep hb2 ?_, cell_keep hb2 ?_, cell_keep hb2 ?_⟩ <;> (first | assumption | (go_split_ands; assumption)))
            | go_keep)
          (first
            | (go_at_call 78; refine (unhide LB _).mono ?_; rintro e w2 ⟨rfl, hb2⟩))
        go_wp2_with fail
        go_meet
        refine ⟨congrArg Value.bool (unhide HG).symm, ?_, ?_, below_keep2 (unhide HB) ?_⟩ <;> (first | assumption | (go_split_ands; assumption))
      · obtain rfl : j = hs.length := by omega
        have hgo : goOn hs (x, y) hs.length = false := by simp [goOn]
        have HG := hide hgo
        have g1 : decide ((hs.length : Int) < (hs.length : Int)) = false := by simp
        clear hgo HPS HWF HH HO
        go_quiet (fail)
        go_wp2_with fail
        go_meet
        exact ⟨congrArg Value.bool (unhide HG).symm, r0, r1, below_drewN (unhide HB) _⟩
    case rest =>
    obtain ⟨rfl, s0, s1, hBc⟩ := hcut
    clear r0 r1 HB
    cases hg : goOn hs (x, y) j with
    | true =>
      obtain ⟨hlt, he⟩ := goOn_true hg
      have HP2 : Hid (j + 1 + posOf (hs.drop (j + 1)) (x, y) = posOf hs (x, y)) := by
        show j + 1 + posOf (hs.drop (j + 1)) (x, y) = posOf hs (x, y)
        have := unhide HPS
        omega
      have HBc := hide hBc
      clear he HPS hg hBc
      go_wp2_with fail
      go_roundw
      case rel => exact ⟨j + 1, by omega, by go_num, unhide HP2, s0, s1, unhide HBc⟩
      case measure => simp [intOf]; omega
    | false =>
      have hpo := goOn_false hg
      have hps := unhide HPS
      rw [hpo, Nat.add_zero] at hps
      have HE := hide hps
      have HBc := hide hBc
      clear hpo hps hg hBc HPS
      go_upto_region 4 with fail
      go_cut [36] from 25 to 35 (fun s36 wx => s36 = .bool (decide (hs[j]? = some (x, y))) ∧ wx.cell? ⟨w.heap.size, 0, none⟩ = some (.int .i64 x) ∧ wx.cell? ⟨w.heap.size, 1, none⟩ = some (.int .i64 y) ∧ Below w.heap.size w wx)
      case first =>
        by_cases hlt : j < hs.length
        · obtain ⟨x2, y2, hxy⟩ : ∃ x y, hs[j]? = some (x, y) := ⟨hs[j].1, hs[j].2, by simp [hlt]⟩
          obtain ⟨_, _, e1, _, _, _, hcc⟩ := unhide HH wc (unhide HBc)
          simp only [Value.slice.injEq] at e1
          obtain ⟨rfl, -, rfl⟩ := e1
          obtain ⟨b, off, rfl, hcd⟩ := hcc (by omega)
          obtain ⟨p1, p2⟩ := hcd j x2 y2 hxy
          have hd : decide (hs[j]? = some (x, y)) = (x2 == x && y2 == y) := by
            rw [hxy]
            by_cases h1 : x2 = x <;> by_cases h2 : y2 = y <;> simp [h1, h2]
          have HG := hide hd
          have g1 : decide ((j : Int) < (hs.length : Int)) = true := by simp; omega
          have g3 : (j : Int) < (hs.length : Int) := by omega
          have g5 : (0 : Int) ≤ (j : Int) := by omega
          have hin := eqIn2 x2 y2 x y
          have hne := eql2 x2 y2 x y
          clear hxy hcc hcd hd HWF HH HO
          go_quiet (fail)
          go_wp2_with fail
          go_meet
          exact ⟨congrArg Value.bool (unhide HG).symm, s0, s1, below_drewN (unhide HBc) _⟩
        · obtain rfl : j = hs.length := by omega
          have hd : decide (hs[hs.length]? = some (x, y)) = false := by simp
          have HG := hide hd
          have g1 : decide ((hs.length : Int) < (hs.length : Int)) = false := by simp
          clear hd HWF HH HO
          go_quiet (fail)
          go_wp2_with fail
          go_meet
          exact ⟨congrArg Value.bool (unhide HG).symm, s0, s1, below_drewN (unhide HBc) _⟩
      case rest =>
      obtain ⟨rfl, u0, u1, hb3⟩ := hcut
      clear s0 s1 HBc
      have hj' := unhide HE
      by_cases hd : hs[j]? = some (x, y)
      · have d1 : decide (hs[j]? = some (x, y)) = true := by simp [hd]
        rw [d1]
        have hi : ins hs (x, y) = hs := ins_same (by rw [← hj']; exact hd)
        have O3 := unhide HO _ hb3
        have e1 : (ins hs (x, y)).take k = hs := by rw [hi, List.take_of_length_le hk]
        have HE1 := hide e1
        have HO3 := hide O3
        have HB3 := hide (hb3.mono hbase)
        clear d1 hd hi O3 e1 hb3 HH HO HWF u0 u1 hj'
        go_wp2_with fail
        go_ret
        refine ⟨_, rfl, ?_, unhide HB3⟩
        rw [unhide HE1]
        exact unhide HO3
      · have d1 : decide (hs[j]? = some (x, y)) = false := by simp [hd]
        rw [d1]
        have hi : ins hs (x, y) = hs.take j ++ (x, y) :: hs.drop j := by
          rw [ins_new (by rw [← hj']; exact hd), ← hj']
        have HI := hide hi
        have O3 := (unhide HO _ hb3).alloc (.cells #[.int .i64 x, .int .i64 y] 88)
        have hne : (Value.slice ao hs.length cap).ownBlock ≠ some wc.heap.size := fun e => by have := ((unhide HO _ hb3).lt _ e).2; omega
        have bs : base ≤ wc.heap.size := Nat.le_trans hbase hb3.size
        have L := implInsert base (.slice ao hs.length cap) hs.length j wc.heap.size hs x y (wc.alloc (.cells #[.int .i64 x, .int .i64 y] 88)) O3 hj (by omega) (by simp; omega) hne (by simpa using heap_alloc_new wc (.cells #[.int .i64 x, .int .i64 y] 88)) hwh
        have b4 : Below base w (wc.alloc (.cells #[.int .i64 x, .int .i64 y] 88)) := (hb3.mono hbase).alloc bs _
        have HB4 := hide b4
        have hlo : ∀ q, (Value.slice ao hs.length cap).ownBlock = some q → base ≤ q := fun q hq => ((unhide HO _ hb3).lt q hq).1
        have HLO := hide hlo
        have HBS := hide bs
        clear d1 hd hi O3 hne hb3 b4 hlo HH HO HWF bs hj'
        go_wp2_with fail
        refine L.mono ?_
        rintro e w5 ⟨r, rfl, O5, G5⟩
        have b5 : Below base w w5 := (unhide HB4).grown G5 (by have := unhide HBS; simp; omega) (fun q hq => unhide HLO q hq)
        rw [← unhide HI] at O5
        have hlen : hs.length + 1 = (ins hs (x, y)).length := by
          have := O5.1
          rw [cells2_len] at this
          omega
        obtain ⟨g, cp, rfl⟩ : ∃ g cp, r = .slice (some ⟨g, 0, none⟩) (hs.length + 1) cp := by
          rcases O5.2 with ⟨_, h0⟩ | ⟨g, cp, cur, rfl, _⟩
          · omega
          · exact ⟨g, cp, rfl⟩
        have hle := own_le O5
        have HB5 := hide b5
        clear L G5 b5 u0 u1 HB4
        by_cases hkk : hs.length = k
        · have O6 := own_take O5 k (by omega)
          have e2 : ((ins hs (x, y)).take k).length = k := by simp; omega
          have HO6 := hide O6
          have HE2 := hide e2
          have c1 : ((k : Nat) : Int) ≤ (cp : Int) := by omega
          have d2 : decide ((k : Int) < (hs.length : Int) + 1) = true := by simp; omega
          clear O5 O6 e2
          go_wp2_with fail
          go_ret
          refine ⟨_, rfl, ?_, unhide HB5⟩
          rw [unhide HE2]
          exact unhide HO6
        · have e1 : (ins hs (x, y)).take k = ins hs (x, y) := List.take_of_length_le (by omega)
          have HE1 := hide e1
          have HLE := hide hlen
          have HO5 := hide O5
          have d2 : decide ((k : Int) < (hs.length : Int) + 1) = false := by simp; omega
          clear O5 e1 hlen
          go_wp2_with fail
          go_ret
          refine ⟨_, rfl, ?_, unhide HB5⟩
          rw [unhide HE1, ← unhide HLE]
          exact unhide HO5

/-- keepHit. -/
theorem implKeep (base : Nat) (v : Value) (hs : List (Int × Int)) (x y : Int) (k : Nat) (w : World) (hown : w.ownsRow base 88 2 v hs.length (cells2 hs)) (hn : hs.length ≤ 100000) (hk : hs.length ≤ k) (hk2 : k ≤ 100000) (hbase : base ≤ w.heap.size) (hwf : ∀ p ∈ hs, Wf2 p) (hwh : Wf2 (x, y)) :
    Calls Try.prog 87 #[v, .agg #[.int .i64 x, .int .i64 y], .int .i64 k, .func (.func 78) #[] #[]] w fun e w' =>
      ∃ r, e = .returned r ∧ w'.ownsRow base 88 2 r ((ins hs (x, y)).take k).length (cells2 ((ins hs (x, y)).take k)) ∧ Below base w w' := by
  obtain ⟨ao, cap, rfl⟩ := own_shape hown
  exact implKeep_go base ao cap hs x y k w hown hn hk hk2 hbase hwf hwh

end Go.Proofs.Yteekfapjfpkidaa
