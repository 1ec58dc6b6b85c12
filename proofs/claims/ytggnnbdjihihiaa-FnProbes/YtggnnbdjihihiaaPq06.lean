/-
  Texts of this proof in one: HitAdd, HitBest, HitOpsB, SearchPlain, ProbePlain, ProbeMore, ProbesLaw, Big, LwSame, RangeKit, RegIn, SortPlain, Ints, ImplPlaces, ImplIter, IvfAt, PlPlain, ListsFill, FirstPlain, ImplFirstOf, ImplCmp, ImplId.
  Their conditions stand in their theorems.
-/
import Derived.Test.YtggnnbdjihihiaaPq05
import Derived.Deep.CutRange
import Derived.Test.YtggnnbdjihihiaaPq01
import Derived.Test.YtggnnbdjihihiaaPq02
import Derived.Test.YtggnnbdjihihiaaChecked
import Derived.BigQuiet
import Derived.Deep.QuietTactic
import Derived.RangeFuncNested
import Derived.RangeFuncBound
import Derived.RangeFuncCalls
import Derived.RangeFuncLeaves
import Derived.Shelf.Abstract
import Derived.Shelf.RegionOpen
import Derived.WalkKit
import Derived.OwnWalkIn
import Derived.TacticsInMore
import Derived.LoopNIn
import Derived.LoopIn
import Derived.Deep.RegionHeld3
import Derived.WalkSmall
import Derived.Test.YtggnnbdjihihiaaPq03

namespace Go.Proofs.Ytggnnbdjihihiaa
open Go.RowKit

/-- How many hits at the head are better than h. -/
def posOf : List (Int × Int) → Int × Int → Nat
  | [], _ => 0
  | a :: r, h => if bet a h then posOf r h + 1 else 0
theorem posOf_le (hs : List (Int × Int)) (h : Int × Int) : posOf hs h ≤ hs.length := by
  induction hs with
  | nil => simp [posOf]
  | cons a r ih =>
    unfold posOf
    split <;> simp
    omega
theorem ins_pos (hs : List (Int × Int)) (h : Int × Int) : ins hs h = hs.take (posOf hs h) ++ (if hs[posOf hs h]? = some h then [] else [h]) ++ hs.drop (posOf hs h) := by
  induction hs with
  | nil => simp [ins, posOf]
  | cons a r ih =>
    unfold ins posOf
    split
    · simp [ih]
    · simp
      split <;> simp
/-- The test of the model's loop at place k. -/
def goOn (hs : List (Int × Int)) (h : Int × Int) (k : Nat) : Bool := (hs[k]?).any (bet · h)
theorem goOn_true {hs : List (Int × Int)} {h : Int × Int} {k : Nat} (hg : goOn hs h k = true) : k < hs.length ∧ posOf (hs.drop k) h = posOf (hs.drop (k + 1)) h + 1 := by
  unfold goOn at hg
  cases e : hs[k]? with
  | none => rw [e] at hg; simp at hg
  | some q =>
    rw [e] at hg
    refine ⟨at_some e, ?_⟩
    rw [drop_at e]
    simp only [Option.any_some] at hg
    simp [posOf, hg]
theorem goOn_false {hs : List (Int × Int)} {h : Int × Int} {k : Nat} (hg : goOn hs h k = false) : posOf (hs.drop k) h = 0 := by
  unfold goOn at hg
  cases e : hs[k]? with
  | none =>
    have : hs.length ≤ k := by simpa using e
    rw [List.drop_eq_nil_of_le this]
    rfl
  | some q =>
    rw [e] at hg
    rw [drop_at e]
    simp only [Option.any_some] at hg
    simp [posOf, hg]

theorem own_le {w : World} {base T sz g n cap : Nat} {xs : List Value} (h : w.ownsRow base T sz (.slice (some ⟨g, 0, none⟩) n cap) n xs) : n ≤ cap := by
  rcases h.2 with ⟨h0, _⟩ | ⟨g, c, cur, h0, _, _, h1, _⟩
  · simp at h0
  · simp only [Value.slice.injEq] at h0
    obtain ⟨-, -, rfl⟩ := h0
    exact h1
theorem hit_new {w : World} (x y : Int) (h : Wf2 (x, y)) : IsHits (w.alloc (.cells #[.int .i64 x, .int .i64 y] 41)) (.slice (some ⟨w.heap.size, 0, none⟩) 1 1) [(x, y)] := by
  obtain ⟨q0, q1⟩ := new_cells (w := w) (T := 41) (x := .int .i64 x) (y := .int .i64 y)
  refine ⟨_, _, rfl, by simp, ⟨by unfold maxLen; omega, by simp⟩, by simpa using h, fun _ => ⟨w.heap.size, 0, rfl, fun j a b hj => ?_⟩⟩
  cases j with
  | zero =>
    simp at hj
    obtain ⟨rfl, rfl⟩ := hj
    exact ⟨q0, q1⟩
  | succ j => simp at hj

set_option maxRecDepth 100000 in
set_option maxHeartbeats 1000000 in
theorem l2Add_pos (b off cap : Nat) (hs : List (Int × Int)) (x y : Int) (k : Nat) (w : World) (hp : 0 < hs.length) (hn : hs.length ≤ 100000) (hcap : hs.length ≤ cap) (hm : cap ≤ maxLen) (hwf : ∀ p ∈ hs, Wf2 p) (hwh : Wf2 (x, y))
    (hc : ∀ j x y, hs[j]? = some (x, y) → w.cell? ⟨b, off + j * 2, none⟩ = some (.int .i64 x) ∧ w.cell? ⟨b, off + j * 2 + 1, none⟩ = some (.int .i64 y)) :
    Calls Try.prog 144 #[.slice (some ⟨b, off, none⟩) hs.length cap, .agg #[.int .i64 x, .int .i64 y], .int .i64 k] w fun e w' => ∃ g cap', e = .returned (.slice (some ⟨g, 0, none⟩) ((ins hs (x, y)).take k).length cap') ∧
      w'.ownsRow w.heap.size 41 2 (.slice (some ⟨g, 0, none⟩) ((ins hs (x, y)).take k).length cap') ((ins hs (x, y)).take k).length (cells2 ((ins hs (x, y)).take k)) ∧ Below w.heap.size w w' := by
  have HH : Hid (∀ W, Below w.heap.size w W → IsHits W (.slice (some ⟨b, off, none⟩) hs.length cap) hs) := fun W hW => IsHits.later ⟨_, _, rfl, hcap, ⟨hm, by simp⟩, hwf, fun _ => ⟨b, off, rfl, hc⟩⟩ hW
  obtain ⟨q0, q1⟩ := new_cells (w := w) (T := 41) (x := .int .i64 x) (y := .int .i64 y)
  have B0 : Below w.heap.size w (w.alloc (.cells #[.int .i64 x, .int .i64 y] 41)) := (Below.refl _ _).alloc (Nat.le_refl _) _
  have HWF := hide hwf
  have HC := hide hc
  clear hwf hc
  go_enter Try.func144, Try.ntmps144
  go_wp2_with fail
  go_loopw [7] (fun i wr => ∃ j : Nat, j ≤ hs.length ∧ i = .int .i64 j ∧ j + posOf (hs.drop j) (x, y) = posOf hs (x, y) ∧ wr.cell? ⟨w.heap.size, 0, none⟩ = some (.int .i64 x) ∧ wr.cell? ⟨w.heap.size, 1, none⟩ = some (.int .i64 y) ∧ Below w.heap.size w wr) (fun i _ => hs.length - (intOf i).toNat)
  case atStart => exact ⟨0, Nat.zero_le _, rfl, by simp, q0, q1, B0⟩
  case round =>
    obtain ⟨j, hj, rfl, hps, r0, r1, hB⟩ := hrel
    clear q0 q1 B0
    have HPS := hide hps
    have HB := hide hB
    clear hps hB
    go_upto_region 2 with fail
    go_cut [20] from 9 to 22 (fun s20 wx => s20 = .bool (goOn hs (x, y) j) ∧ wx.cell? ⟨w.heap.size, 0, none⟩ = some (.int .i64 x) ∧ wx.cell? ⟨w.heap.size, 1, none⟩ = some (.int .i64 y) ∧ Below w.heap.size w wx)
    case first =>
      by_cases hlt : j < hs.length
      · obtain ⟨x2, y2, hxy⟩ : ∃ x y, hs[j]? = some (x, y) := ⟨hs[j].1, hs[j].2, by simp [hlt]⟩
        have p1 := ((unhide HB).cell (World.block_lt_of_cell? _ _ (unhide HC j x2 y2 hxy).1)).trans (unhide HC j x2 y2 hxy).1
        have p2 := ((unhide HB).cell (World.block_lt_of_cell? _ _ (unhide HC j x2 y2 hxy).2)).trans (unhide HC j x2 y2 hxy).2
        have hgo : goOn hs (x, y) j = bet (x2, y2) (x, y) := by simp [goOn, hxy]
        have HG := hide hgo
        have g1 : decide ((j : Int) < (hs.length : Int)) = true := by simp; omega
        have g3 : (j : Int) < (hs.length : Int) := by omega
        have g5 : (0 : Int) ≤ (j : Int) := by omega
        have LB : Hid (∀ W, Calls Try.prog 154 #[.agg #[.int .i64 x2, .int .i64 y2], .agg #[.int .i64 x, .int .i64 y]] W fun e w' => e = .returned (.bool (bet (x2, y2) (x, y))) ∧ Below W.heap.size W w') := fun W => l2Better x2 y2 x y W
        clear hxy hgo HPS HC HWF HH
        go_region_held3 (fun w' => Below wr.heap.size wr w' ∧ w'.cell? ⟨b, off + j * 2, none⟩ = some (.int .i64 x2) ∧ w'.cell? ⟨b, off + j * 2 + 1, none⟩ = some (.int .i64 y2) ∧ w'.cell? ⟨w.heap.size, 0, none⟩ = some (.int .i64 x) ∧ w'.cell? ⟨w.heap.size, 1, none⟩ = some (.int .i64 y))
          (first
            | exact ⟨(Below.refl _ _).drew, p1, p2, r0, r1⟩
            | (refine ⟨below_keep2 ?_ hb2, cell_keep hb2 ?_, cell_keep hb2 ?_, cell_keep hb2 ?_, cell_keep hb2 ?_⟩ <;> (first | assumption | (go_split_ands; assumption)))
            | go_keep)
          (first
            | (go_at_call 154; refine (unhide LB _).mono ?_; rintro e w2 ⟨rfl, hb2⟩))
        go_wp2_with fail
        go_meet
        refine ⟨congrArg Value.bool (unhide HG).symm, ?_, ?_, below_keep2 (unhide HB) ?_⟩ <;> (first | assumption | (go_split_ands; assumption))
      · obtain rfl : j = hs.length := by omega
        have hgo : goOn hs (x, y) hs.length = false := by simp [goOn]
        have HG := hide hgo
        have g1 : decide ((hs.length : Int) < (hs.length : Int)) = false := by simp
        clear hgo HPS HC HWF HH
        go_quiet (fail)
        go_wp2_with fail
        go_meet
        exact ⟨congrArg Value.bool (unhide HG).symm, r0, r1, below_drewN (unhide HB) _⟩
    case rest =>
    obtain ⟨rfl, s0, s1, hBc⟩ := hcut
    clear r0 r1 HB HC
    cases hg : goOn hs (x, y) j with
    | true =>
      obtain ⟨hlt, he⟩ := goOn_true hg
      have HP2 : Hid (j + 1 + posOf (hs.drop (j + 1)) (x, y) = posOf hs (x, y)) := by
        show j + 1 + posOf (hs.drop (j + 1)) (x, y) = posOf hs (x, y)
        have := unhide HPS
        omega
      have HBc := hide hBc
      clear he HPS hg hBc
      go_wp2_with fail
      go_roundw
      case rel => exact ⟨j + 1, by omega, by go_num, unhide HP2, s0, s1, unhide HBc⟩
      case measure => simp [intOf]; omega
    | false =>
      have hpo := goOn_false hg
      have hps := unhide HPS
      rw [hpo, Nat.add_zero] at hps
      have HE := hide hps
      have HBc := hide hBc
      clear hpo hps hg hBc HPS
      have hjc : (j : Int) ≤ (cap : Int) := by omega
      have hsz := World.block_lt_of_cell? _ _ s0
      have ba : Below w.heap.size w (wc.alloc (.cells #[] 41)) := (unhide HBc).alloc (unhide HBc).size _
      have O1 : (wc.alloc (.cells #[] 41)).ownsRow (w.heap.size + 1) 41 2 (.slice (some ⟨wc.heap.size, 0, none⟩) 0 0) 0 (cells2 []) := World.ownsRow_lit wc #[] 0 hsz (by unfold maxLen; omega) rfl
      have I1 := ((unhide HH) _ ba).take j hj
      have hlj : (hs.take j).length = j := by simp; omega
      have HBA := hide ba
      have HL := hide hlj
      have n1 := World.grownBy_alloc wc (.cells #[] 41) none
      have S0 := n1.cell s0 (by simp)
      have S1 := n1.cell s1 (by simp)
      clear ba n1 hlj
      go_wp2_with (at_builtin; refine wpList_append_row rfl _ _ rfl (w.heap.size + 1) wc.heap.size 0 0 [] rfl O1 _ (hs.take j) rfl I1 j ?o1 ?o2 ?o3 ?_)
      case o2 => omega
      case o3 => omega
      intro g1 cp1 w1 O2 G1 A1
      have hg1 := (O2.lt g1 rfl).1
      have b1 : Below w.heap.size w w1 := (unhide HBA).grown G1 (by simp; omega) (fun k hk => by simp at hk; omega)
      have S0' := G1.cell S0 (by simp; omega)
      have S1' := G1.cell S1 (by simp; omega)
      have hsz1 : w.heap.size + 1 ≤ w1.heap.size := by have := G1.size; simp at this; omega
      have HB1 := hide b1
      have HO2 := hide O2
      clear O1 I1 S0 S1 s0 s1 G1 A1 HBA HBc b1 O2 hsz
      go_upto_region 5 with fail
      go_cut [39] from 28 to 38 (fun s39 wx => s39 = .bool (decide (hs[j]? ≠ some (x, y))) ∧ wx.cell? ⟨w.heap.size, 0, none⟩ = some (.int .i64 x) ∧ wx.cell? ⟨w.heap.size, 1, none⟩ = some (.int .i64 y) ∧ wx.ownsRow (w.heap.size + 1) 41 2 (.slice (some ⟨g1, 0, none⟩) j cp1) j (cells2 (hs.take j)) ∧ w.heap.size + 1 ≤ wx.heap.size ∧ Below w.heap.size w wx)
      case first =>
        by_cases hlt : j < hs.length
        · obtain ⟨x2, y2, hxy⟩ : ∃ x y, hs[j]? = some (x, y) := ⟨hs[j].1, hs[j].2, by simp [hlt]⟩
          obtain ⟨_, _, e1, _, _, _, hcc⟩ := unhide HH w1 (unhide HB1)
          simp only [Value.slice.injEq] at e1
          obtain ⟨rfl, -, rfl⟩ := e1
          obtain ⟨_, _, e2, hcc⟩ := hcc hp
          simp only [Option.some.injEq, Addr.mk.injEq, and_true] at e2
          obtain ⟨rfl, rfl⟩ := e2
          obtain ⟨p1, p2⟩ := hcc j x2 y2 hxy
          have hd : decide (hs[j]? ≠ some (x, y)) = (!x2 == x || !y2 == y) := by
            rw [hxy]
            by_cases h1 : x2 = x <;> by_cases h2 : y2 = y <;> simp [h1, h2]
          have HG := hide hd
          have g1 : ((j : Int) == (hs.length : Int)) = false := by simp; omega
          have g3 : (j : Int) < (hs.length : Int) := by omega
          have g5 : (0 : Int) ≤ (j : Int) := by omega
          have hin := eqIn2 x2 y2 x y
          have hne := neq2 x2 y2 x y
          clear hxy hcc hd HWF HH
          go_quiet (fail)
          go_wp2_with fail
          go_meet
          exact ⟨congrArg Value.bool (unhide HG).symm, S0', S1', unhide HO2, hsz1, below_drewN (unhide HB1) _⟩
        · obtain rfl : j = hs.length := by omega
          have hd : decide (hs[hs.length]? ≠ some (x, y)) = true := by simp
          have HG := hide hd
          have g1 : ((hs.length : Int) == (hs.length : Int)) = true := by simp
          clear hd HWF HH
          go_quiet (fail)
          go_wp2_with fail
          go_meet
          exact ⟨congrArg Value.bool (unhide HG).symm, S0', S1', unhide HO2, hsz1, below_drewN (unhide HB1) _⟩
      case rest =>
      obtain ⟨rfl, u0, u1, O3, hsz3, hb3⟩ := hcut
      clear S0' S1' HB1 HO2 hsz1
      have HB3 := hide hb3
      have HO3 := hide O3
      clear hb3 O3
      go_upto_if 39 with fail
      go_cut [8] from 39 to 43 (fun s8 wx => ∃ (g2 cp2 n2 : Nat) (ms : List (Int × Int)), s8 = .slice (some ⟨g2, 0, none⟩) n2 cp2 ∧ ms.length = n2 ∧ n2 ≤ j + 1 ∧ ms = hs.take j ++ (if hs[j]? = some (x, y) then [] else [(x, y)]) ∧ wx.ownsRow (w.heap.size + 1) 41 2 (.slice (some ⟨g2, 0, none⟩) n2 cp2) n2 (cells2 ms) ∧ w.heap.size + 1 ≤ wx.heap.size ∧ Below w.heap.size w wx)
      case first =>
        by_cases hd : hs[j]? = some (x, y)
        · have d1 : decide (hs[j]? ≠ some (x, y)) = false := by simp [hd]
          rw [d1]
          have HD := hide hd
          clear d1 hd HH HWF
          go_wp2_with fail
          go_meet
          exact ⟨g1, cp1, j, hs.take j, rfl, by simp; omega, by omega, by simp [unhide HD], unhide HO3, hsz3, unhide HB3⟩
        · have d1 : decide (hs[j]? ≠ some (x, y)) = true := by simp [hd]
          rw [d1]
          have HD := hide hd
          have O3 := (unhide HO3).alloc (.cells #[.int .i64 x, .int .i64 y] 41)
          have X3 : IsHits (wc.alloc (.cells #[.int .i64 x, .int .i64 y] 41)) (.slice (some ⟨wc.heap.size, 0, none⟩) 1 1) [(x, y)] := hit_new x y hwh
          have b3 : Below w.heap.size w (wc.alloc (.cells #[.int .i64 x, .int .i64 y] 41)) := (unhide HB3).alloc (unhide HB3).size _
          have HB4 := hide b3
          clear d1 hd HH HWF b3
          go_wp2_with (at_builtin; refine wpList_append_row rfl _ _ rfl (w.heap.size + 1) g1 j cp1 (hs.take j) rfl O3 _ [(x, y)] rfl X3 (j + 1) rfl ?o5 ?o6 ?_)
          case o5 => omega
          case o6 => simp; omega
          intro g2 cp2 w2 O4 G2 A2
          have b4 : Below w.heap.size w w2 := (unhide HB4).grown G2 (by simp; omega) (fun k hk => by simp at hk; omega)
          have hs2 : w.heap.size + 1 ≤ w2.heap.size := by have := G2.size; simp at this; omega
          have HO4 := hide O4
          have HB5 := hide b4
          clear O3 X3 G2 A2 O4 b4 HB4
          go_wp2_with fail
          go_meet
          exact ⟨g2, cp2, j + 1, hs.take j ++ [(x, y)], rfl, by simp; omega, by omega, by simp [unhide HD], unhide HO4, hs2, unhide HB5⟩
      case rest =>
      obtain ⟨g2, cp2, n2, ms, rfl, hml, hn2, hms, O5, hsz5, hb5⟩ := hcut
      have I5 := (unhide HH) _ hb5
      have HB5 := hide hb5
      have HO5 := hide O5
      have HM := hide hms
      have HM2 := hide hml
      clear u0 u1 hsz3 HB3 HO3 hb5 hms HH HWF
      have hjl : (j : Int) ≤ (hs.length : Int) := by omega
      have hlc : (hs.length : Int) ≤ (cap : Int) := by omega
      have hld : (hs.drop j).length = hs.length - j := by simp
      have HLD := hide hld
      have HI5 := hide I5
      clear hld I5
      go_upto_region 7 with fail
      go_cut [8] from 44 to 48 (fun s8 wx => ∃ g3 cp3 : Nat, s8 = .slice (some ⟨g3, 0, none⟩) (n2 + (hs.length - j)) cp3 ∧ wx.ownsRow (w.heap.size + 1) 41 2 (.slice (some ⟨g3, 0, none⟩) (n2 + (hs.length - j)) cp3) (n2 + (hs.length - j)) (cells2 (ms ++ hs.drop j)) ∧ Below w.heap.size w wx)
      case first =>
        have hg2 := (O5.lt g2 rfl).1
        have fin : ∀ (g3 cp3 : Nat) (w3 : World), w3.ownsRow (w.heap.size + 1) 41 2 (.slice (some ⟨g3, 0, none⟩) (n2 + (hs.length - j)) cp3) (n2 + (hs.length - j)) (cells2 (ms ++ hs.drop j)) → wc.grownBy w3 (some g2) → Below w.heap.size w w3 := fun g3 cp3 w3 _ G => (unhide HB5).grown G (by omega) (fun k hk => by simp at hk; omega)
        by_cases hjc2 : j = cap
        · have hz : n2 + (hs.length - j) = n2 := by omega
          have hdz : hs.drop j = [] := List.drop_eq_nil_of_le (by omega)
          have HZ := hide hz
          have HDZ := hide hdz
          have hle2 := own_le O5
          clear O5 hz hdz fin
          subst hjc2
          go_wp2_with fail
          go_meet
          exact ⟨g2, cp2, by rw [unhide HZ], by rw [unhide HZ, unhide HDZ, List.append_nil]; exact unhide HO5, unhide HB5⟩
        · have X5 : IsHits wc (.slice (some ⟨b, off + j * 2, none⟩) (hs.length - j) (cap - j)) (hs.drop j) := (unhide HI5).drop j hj _ (fun _ => rfl)
          go_wp2_with (at_builtin; refine wpList_append_row rfl _ _ rfl (w.heap.size + 1) g2 n2 cp2 ms rfl O5 _ (hs.drop j) rfl X5 (n2 + (hs.length - j)) (by rw [unhide HLD]) (by omega) (by omega) ?_)
          intro g3 cp3 w3 O6 G3 A3
          have b6 := fin g3 cp3 w3 O6 G3
          have HO6 := hide O6
          have HB6 := hide b6
          clear O5 O6 G3 A3 b6 fin X5
          go_wp2_with fail
          go_meet
          exact ⟨g3, cp3, rfl, unhide HO6, unhide HB6⟩
      case rest =>
      obtain ⟨g3, cp3, rfl, O7, hb7⟩ := hcut
      have hls : ms ++ hs.drop j = ins hs (x, y) := by
        have he := unhide HE
        have h2 := unhide HM
        subst h2
        rw [ins_pos, ← he]
      have hll : n2 + (hs.length - j) = (ins hs (x, y)).length := by rw [← hls, List.length_append, unhide HM2, unhide HLD]
      rw [hls] at O7
      rw [hll] at O7 ⊢
      have hle := own_le O7
      have hin := ins_len hs (x, y)
      have hlk : ((ins hs (x, y)).take k).length = min k (ins hs (x, y)).length := by simp
      have HO7 := hide (own_mono (Nat.le_succ _) (own_take O7 (min k (ins hs (x, y)).length) (by omega)))
      have HB7 := hide hb7
      have HK := hide hlk
      have e1 : (ins hs (x, y)).take (min k (ins hs (x, y)).length) = (ins hs (x, y)).take k := by rw [← List.take_eq_take_min]
      have HE1 := hide e1
      clear O5 O7 hb7 hls hll hlk e1 HM HE HB5 HO5 HM2 HI5 HLD hml hjl hlc
      generalize (ins hs (x, y)).length = N at *
      go_wp2_with fail
      refine (l1Min (k : Int) (N : Int) _).mono ?_
      rintro e w9 ⟨rfl, rfl⟩
      have e2 : min (k : Int) (N : Int) = ((min k N : Nat) : Int) := by omega
      rw [e2]
      have c1 : ((min k N : Nat) : Int) ≤ (cp3 : Int) := by omega
      go_wp2_with fail
      go_ret
      refine ⟨g3, cp3, by rw [unhide HK]; rfl, ?_, unhide HB7⟩
      rw [unhide HK, ← unhide HE1]
      exact unhide HO7


set_option maxRecDepth 100000 in
set_option maxHeartbeats 1000000 in
theorem l2Add_zero (ao : Option Addr) (cap : Nat) (x y : Int) (k : Nat) (w : World) (hm : cap ≤ maxLen ∧ (ao = none → cap = 0)) (hwh : Wf2 (x, y)) :
    Calls Try.prog 144 #[.slice ao 0 cap, .agg #[.int .i64 x, .int .i64 y], .int .i64 k] w fun e w' => ∃ g cap', e = .returned (.slice (some ⟨g, 0, none⟩) (min k 1) cap') ∧
      w'.ownsRow w.heap.size 41 2 (.slice (some ⟨g, 0, none⟩) (min k 1) cap') (min k 1) (cells2 ([(x, y)].take (min k 1))) ∧ Below w.heap.size w w' := by
  obtain ⟨q0, q1⟩ := new_cells (w := w) (T := 41) (x := .int .i64 x) (y := .int .i64 y)
  have B0 : Below w.heap.size w (w.alloc (.cells #[.int .i64 x, .int .i64 y] 41)) := (Below.refl _ _).alloc (Nat.le_refl _) _
  have g1 : decide ((0 : Int) < 0) = false := by decide
  have g2 : ((0 : Int) == 0) = true := by decide
  go_enter Try.func144, Try.ntmps144
  go_wp2_with fail
  refine wp_loop_rounds 1 ?_
  rw [rounds_succ]
  go_wp2_with fail
  go_quiet (fail)
  go_upto_region 4 with fail
  generalize hwa : w.alloc (.cells #[.int .i64 x, .int .i64 y] 41) = wa at *
  have hsa : w.heap.size < wa.heap.size := World.block_lt_of_cell? _ _ q0
  have HB0 := hide B0
  clear hwa B0
  go_cut [8] from 23 to 27 (fun s8 wx => ∃ g1 : Nat, s8 = .slice (some ⟨g1, 0, none⟩) 0 0 ∧ wx.ownsRow (w.heap.size + 1) 41 2 (.slice (some ⟨g1, 0, none⟩) 0 0) 0 (cells2 []) ∧ wx.cell? ⟨w.heap.size, 0, none⟩ = some (.int .i64 x) ∧ wx.cell? ⟨w.heap.size, 1, none⟩ = some (.int .i64 y) ∧ Below w.heap.size w wx)
  case first =>
    have O1 : (wa.alloc (.cells #[] 41)).ownsRow (w.heap.size + 1) 41 2 (.slice (some ⟨wa.heap.size, 0, none⟩) 0 0) 0 (cells2 []) := World.ownsRow_lit wa #[] 0 hsa (by unfold maxLen; omega) rfl
    have n1 := World.grownBy_alloc wa (.cells #[] 41) none
    have S0 := n1.cell q0 (by simp)
    have S1 := n1.cell q1 (by simp)
    have b1 : Below w.heap.size w (wa.alloc (.cells #[] 41)) := (unhide HB0).alloc (by omega) _
    have HO1 := hide O1
    have HS0 := hide S0
    have HS1 := hide S1
    have HB1 := hide b1
    clear O1 S0 S1 b1 n1
    cases ao with
    | none =>
      obtain rfl := hm.2 rfl
      clear hm
      go_wp2_with fail
      go_meet
      exact ⟨wa.heap.size, rfl, unhide HO1, unhide HS0, unhide HS1, below_drewN (unhide HB1) _⟩
    | some a =>
      have hm1 := hm.1
      clear hm
      go_wp2_with fail
      go_meet
      exact ⟨wa.heap.size, rfl, unhide HO1, unhide HS0, unhide HS1, below_drewN (unhide HB1) _⟩
  case rest =>
  obtain ⟨g1, rfl, O1, s0, s1, hb1⟩ := hcut
  clear q0 q1 HB0 hsa
  have hg1 := (O1.lt g1 rfl).1
  have hsz := World.block_lt_of_cell? _ _ s0
  go_wp2_with fail
  go_quiet (fail)
  have O3 : ∀ n, ((wc.alloc (.cells #[.int .i64 x, .int .i64 y] 41)).drewN n).ownsRow (w.heap.size + 1) 41 2 (.slice (some ⟨g1, 0, none⟩) 0 0) 0 (cells2 []) := fun n => O1.alloc (.cells #[.int .i64 x, .int .i64 y] 41)
  have X3 : ∀ n, IsHits ((wc.alloc (.cells #[.int .i64 x, .int .i64 y] 41)).drewN n) (.slice (some ⟨wc.heap.size, 0, none⟩) 1 1) [(x, y)] := fun n => (hit_new x y hwh).later (below_drewN (Below.refl _ _) n)
  have HB1 := hide hb1
  clear hb1
  go_wp2_with (at_builtin; refine wpList_append_row rfl _ _ rfl (w.heap.size + 1) g1 0 0 [] rfl (O3 _) _ [(x, y)] rfl (X3 _) 1 rfl ?o5 ?o6 ?_)
  case o5 => omega
  case o6 => simp; omega
  intro g2 cp2 w2 O4 G2 A2
  have b4 : Below w.heap.size w w2 := ((below_drawn (unhide HB1) _).alloc (by simp; omega) _).grown G2 (by simp; omega) (fun k hk => by simp at hk; omega)
  have hle2 := own_le O4
  have HO4 := hide O4
  have HB4 := hide b4
  clear O1 O3 X3 G2 A2 O4 b4 HB1 s0 s1 hsz hg1
  go_upto_region 7 with fail
  go_cut [8] from 44 to 48 (fun s8 wx => s8 = .slice (some ⟨g2, 0, none⟩) 1 cp2 ∧ wx.ownsRow (w.heap.size + 1) 41 2 (.slice (some ⟨g2, 0, none⟩) 1 cp2) 1 (cells2 [(x, y)]) ∧ Below w.heap.size w wx)
  case first =>
    cases ao with
    | none =>
      obtain rfl := hm.2 rfl
      clear hm
      go_wp2_with fail
      go_meet
      exact ⟨rfl, unhide HO4, unhide HB4⟩
    | some a =>
      have hm1 := hm.1
      clear hm
      go_wp2_with fail
      go_meet
      exact ⟨rfl, unhide HO4, unhide HB4⟩
  case rest =>
  obtain ⟨rfl, O7, hb7⟩ := hcut
  have HO7 := hide (own_mono (Nat.le_succ _) (own_take O7 (min k 1) (by omega)))
  have HB7 := hide hb7
  clear O7 hb7 HO4 HB4
  go_wp2_with fail
  refine (l1Min (k : Int) 1 _).mono ?_
  rintro e w9 ⟨rfl, rfl⟩
  have e2 : min (k : Int) 1 = ((min k 1 : Nat) : Int) := by omega
  rw [e2]
  have c1 : ((min k 1 : Nat) : Int) ≤ (cp2 : Int) := by omega
  go_wp2_with fail
  go_ret
  exact ⟨g2, cp2, rfl, unhide HO7, unhide HB7⟩

/-- l2Add: the hit put into the list, the first k. -/
theorem l2Add (v : Value) (hs : List (Int × Int)) (x y : Int) (k : Nat) (w : World) (h : IsHits w v hs) (hn : hs.length ≤ 100000) (hwh : Wf2 (x, y)) :
    Calls Try.prog 144 #[v, .agg #[.int .i64 x, .int .i64 y], .int .i64 k] w fun e w' => ∃ g cap', e = .returned (.slice (some ⟨g, 0, none⟩) ((ins hs (x, y)).take k).length cap') ∧
      w'.ownsRow w.heap.size 41 2 (.slice (some ⟨g, 0, none⟩) ((ins hs (x, y)).take k).length cap') ((ins hs (x, y)).take k).length (cells2 ((ins hs (x, y)).take k)) ∧ Below w.heap.size w w' := by
  obtain ⟨ao, cap, rfl, h1, h2, hwf, hc⟩ := h
  by_cases hp : 0 < hs.length
  · obtain ⟨b, off, rfl, hc1⟩ := hc hp
    exact l2Add_pos b off cap hs x y k w hp hn h1 h2.1 hwf hwh hc1
  · obtain rfl : hs = [] := List.eq_nil_of_length_eq_zero (by omega)
    refine (l2Add_zero ao cap x y k w h2 hwh).mono ?_
    rintro e w' ⟨g, c, rfl, ho, hb⟩
    have e1 : ((ins [] (x, y)).take k).length = min k 1 := by simp [ins]
    have e2 : (ins [] (x, y)).take k = [(x, y)].take (min k 1) := by
      simp only [ins]
      rw [show min k 1 = min k [(x, y)].length from rfl, ← List.take_eq_take_min]
    refine ⟨g, c, by rw [e1], ?_, hb⟩
    rw [e1, e2]
    exact ho

end Go.Proofs.Ytggnnbdjihihiaa

namespace Go.Proofs.Ytggnnbdjihihiaa
open Go.RowKit

theorem best_snoc (k : Nat) (hs : List (Int × Int)) (j : Nat) (x y : Int) (h : hs[j]? = some (x, y)) : best k (hs.take (j + 1)) = (ins (best k (hs.take j)) (x, y)).take k := by
  have hj := at_some h
  have he : hs[j] = (x, y) := by simpa [hj] using h
  rw [List.take_succ_eq_append_getElem hj, he]
  simp [best, List.foldl_append]

set_option maxHeartbeats 1000000 in
theorem l2Best_pos (b off cap : Nat) (hs : List (Int × Int)) (k : Nat) (w : World) (hn : hs.length ≤ 100000) (hk : k ≤ 100) (hwf : ∀ p ∈ hs, Wf2 p)
    (hc : ∀ j x y, hs[j]? = some (x, y) → w.cell? ⟨b, off + j * 2, none⟩ = some (.int .i64 x) ∧ w.cell? ⟨b, off + j * 2 + 1, none⟩ = some (.int .i64 y)) :
    Calls Try.prog 113 #[.slice (some ⟨b, off, none⟩) hs.length cap, .int .i64 k] w fun e w' => ∃ g cap', e = .returned (.slice (some ⟨g, 0, none⟩) (best k hs).length cap') ∧
      w'.ownsRow w.heap.size 41 2 (.slice (some ⟨g, 0, none⟩) (best k hs).length cap') (best k hs).length (cells2 (best k hs)) ∧ Below w.heap.size w w' := by
  have HWF := hide hwf
  clear hwf
  go_enter Try.func113, Try.ntmps113
  go_wp2_with fail
  go_loopw [5, 6] (fun v i wr => ∃ (j g cp : Nat), j ≤ hs.length ∧ i = .int .i64 j ∧ v = .slice (some ⟨g, 0, none⟩) (best k (hs.take j)).length cp ∧ wr.ownsRow w.heap.size 41 2 v (best k (hs.take j)).length (cells2 (best k (hs.take j))) ∧ Below w.heap.size w wr)
    (fun _ i _ => hs.length - (intOf i).toNat)
  case atStart =>
    refine ⟨0, w.heap.size, 0, Nat.zero_le _, rfl, rfl, ?_, (Below.refl _ _).alloc (Nat.le_refl _) _⟩
    exact World.ownsRow_lit w #[] 0 (Nat.le_refl _) (by unfold maxLen; omega) rfl
  case round =>
    obtain ⟨j, g, cp, hj, rfl, rfl, hown, hB⟩ := hrel
    by_cases hlt : j < hs.length
    · obtain ⟨x, y, hxy⟩ : ∃ x y, hs[j]? = some (x, y) := ⟨hs[j].1, hs[j].2, by simp [hlt]⟩
      have c1 := (hB.cell (World.block_lt_of_cell? _ _ (hc j x y hxy).1)).trans (hc j x y hxy).1
      have c2 := (hB.cell (World.block_lt_of_cell? _ _ (hc j x y hxy).2)).trans (hc j x y hxy).2
      have hw1 : ∀ p ∈ best k (hs.take j), Wf2 p := fun p hp => unhide HWF p (List.mem_of_mem_take (best_mem hp))
      have hi := isHits_row hw1 hown
      have hl := best_len k (hs.take j)
      have hwh : Wf2 (x, y) := unhide HWF _ (List.mem_of_getElem? hxy)
      have HS := hide (best_snoc k hs j x y hxy)
      have L := l2Add (.slice (some ⟨g, 0, none⟩) (best k (hs.take j)).length cp) (best k (hs.take j)) x y k wr hi (by omega) hwh
      rw [← unhide HS] at L
      have HB := hide hB
      have HC := hide hc
      clear hown hB hc hxy hw1 hi hl hwh HS
      generalize (best k (hs.take j)).length = n at *
      go_wp2_with fail
      refine L.mono ?_
      rintro e w1 ⟨g1, cp1, rfl, ho, hb⟩
      have HO := hide (own_mono (unhide HB).size ho)
      have HB1 := hide (below_keep2 (unhide HB) hb)
      clear L ho hb HB c1 c2
      go_wp2_with fail
      go_roundw
      case rel => exact ⟨j + 1, g1, cp1, by omega, by go_num, rfl, unhide HO, unhide HB1⟩
      case measure => simp [intOf]; omega
    · obtain rfl : j = hs.length := by omega
      rw [List.take_length] at hown ⊢
      have HO := hide hown
      have HB := hide hB
      clear hown hB hc
      go_wp2_with fail
      go_ret
      exact ⟨g, cp, rfl, unhide HO, unhide HB⟩

set_option maxHeartbeats 400000 in
theorem l2Best_zero (ao : Option Addr) (cap : Nat) (k : Nat) (w : World) :
    Calls Try.prog 113 #[.slice ao 0 cap, .int .i64 k] w fun e w' => ∃ g cap', e = .returned (.slice (some ⟨g, 0, none⟩) 0 cap') ∧
      w'.ownsRow w.heap.size 41 2 (.slice (some ⟨g, 0, none⟩) 0 cap') 0 [] ∧ Below w.heap.size w w' := by
  have O1 : (w.alloc (.cells #[] 41)).ownsRow w.heap.size 41 2 (.slice (some ⟨w.heap.size, 0, none⟩) 0 0) 0 [] := World.ownsRow_lit w #[] 0 (Nat.le_refl _) (by unfold maxLen; omega) rfl
  have HO := hide O1
  clear O1
  go_enter Try.func113, Try.ntmps113
  go_wp2_with fail
  refine wp_loop_rounds 1 ?_
  rw [rounds_succ]
  go_wp2_with fail
  go_ret
  exact ⟨_, _, rfl, unhide HO, (Below.refl _ _).alloc (Nat.le_refl _) _⟩

/-- l2Best. -/
theorem l2Best (v : Value) (hs : List (Int × Int)) (k : Nat) (w : World) (h : IsHits w v hs) (hn : hs.length ≤ 100000) (hk : k ≤ 100) :
    Calls Try.prog 113 #[v, .int .i64 k] w fun e w' => ∃ g cap', e = .returned (.slice (some ⟨g, 0, none⟩) (best k hs).length cap') ∧
      w'.ownsRow w.heap.size 41 2 (.slice (some ⟨g, 0, none⟩) (best k hs).length cap') (best k hs).length (cells2 (best k hs)) ∧ Below w.heap.size w w' := by
  obtain ⟨ao, cap, rfl, h1, h2, hwf, hc⟩ := h
  by_cases hp : 0 < hs.length
  · obtain ⟨b, off, rfl, hc1⟩ := hc hp
    exact l2Best_pos b off cap hs k w hn hk hwf hc1
  · obtain rfl : hs = [] := List.eq_nil_of_length_eq_zero (by omega)
    exact l2Best_zero ao cap k w

end Go.Proofs.Ytggnnbdjihihiaa

namespace Go.Proofs.Ytggnnbdjihihiaa
open Go.RowKit

def kB (k : Int) : Bool := decide (0 ≤ k) && decide (k ≤ 20)

def bestCode (hs : List (Int × Int)) (k : Int) : Int := if kB k then (if 200 < hs.length then 2 else if hs.all oneB then 0 else 3) else 3

def bestList (hs : List (Int × Int)) (k : Int) : List (Int × Int) := if bestCode hs k = 0 then best k.toNat hs else []

def addCode (hs : List (Int × Int)) (h : Int × Int) (k : Int) : Int := if kB k then (if hitsFault hs = 0 then (if oneB h then 0 else 3) else hitsFault hs) else 3

def addList (hs : List (Int × Int)) (h : Int × Int) (k : Int) : List (Int × Int) := if addCode hs h k = 0 then (ins hs h).take k.toNat else []

theorem own_set {w : World} {base e size : Nat} {v : Value} {n : Nat} {xs : List Value} {a : Addr} (h : w.ownsRow base e size v n xs) (ha : a.block < base) (u : Value) : (w.setCell a u).ownsRow base e size v n xs := by
  refine ⟨h.1, ?_⟩
  rcases h.2 with h2 | ⟨g, cap, cur, hv, hg, hh, r⟩
  · exact Or.inl h2
  · exact Or.inr ⟨g, cap, cur, hv, hg, (heap_setCell_other w a g u (by omega)).trans hh, r⟩

/-- The result's own variable, a new block of (0, nil), as later worlds have it. -/
theorem resVar {w W : World} {T : TypeId} (h : Below (w.alloc (.cells #[.int .i64 0, .slice none 0 0] T)).heap.size (w.alloc (.cells #[.int .i64 0, .slice none 0 0] T)) W) :
    W.cell? ⟨w.heap.size, 0, none⟩ = some (.int .i64 0) ∧ W.cell? ⟨w.heap.size, 1, none⟩ = some (.slice none 0 0) ∧ (∀ o, W.frozen? ⟨w.heap.size, o, none⟩ = false) ∧ w.heap.size < W.heap.size := by
  refine ⟨(h.cell (p := ⟨w.heap.size, 0, none⟩) (by simp)).trans (by simp [go_sem]), (h.cell (p := ⟨w.heap.size, 1, none⟩) (by simp)).trans (by simp [go_sem]), fun o => (h.frozen (p := ⟨w.heap.size, o, none⟩) (by simp)).trans (by simp [go_sem]), ?_⟩
  have := h.size
  simp at this
  omega

/-- What AddHit tells. -/
def Told (w w' : World) (e : Ending) (c : Int) (l : List (Int × Int)) : Prop := ∃ r, e = .returned (intsRes c r) ∧ w'.ownsRow w.heap.size 41 2 r l.length (cells2 l) ∧ Below w.heap.size w w'

theorem told_nil {w w' : World} {c : Int} (h : Below w.heap.size w w') : Told w w' (.returned (intsRes c (.slice none 0 0))) c [] := ⟨_, rfl, World.ownsRow_nil _ _ _ _, h⟩

theorem bestList_len {zs : List (Int × Int)} {n : Int} : (bestList zs n).length ≤ 20 := by
  unfold bestList
  split
  · next h =>
    have hk : kB n = true := by
      cases hk : kB n with
      | true => rfl
      | false => simp [bestCode, hk] at h
    have := best_len n.toNat zs
    have hb : 0 ≤ n ∧ n ≤ 20 := by simpa [kB] using hk
    omega
  · simp

theorem bestList_mem {zs : List (Int × Int)} {n : Int} {m : Int × Int} (h : m ∈ bestList zs n) : m ∈ zs := by
  unfold bestList at h
  split at h
  · exact best_mem h
  · simp at h

end Go.Proofs.Ytggnnbdjihihiaa

namespace Go.Proofs.Ytggnnbdjihihiaa
open Go.RowKit

def hitOf (q : List Int) (x : DItem) : DHit := ⟨x.id, score3 q x.vec⟩
def pairH (h : DHit) : Int × Int := (h.id, h.score)
def dhit (p : Int × Int) : DHit := ⟨p.1, p.2⟩
def hitsL (xs : List DItem) (q : List Int) : List DHit := xs.map (hitOf q)
def searchR (xs : List DItem) (q : List Int) (k : Int) : DHitsResult :=
  if tableFault xs = 0 then (if vecFault q = 0 then (if kB k then ⟨0, (best k.toNat ((hitsL xs q).map pairH)).map dhit⟩ else ⟨3, []⟩) else ⟨vecFault q, []⟩) else ⟨tableFault xs, []⟩
theorem dhit_pair (h : DHit) : dhit (pairH h) = h := rfl
theorem cells2_map (hs : List DHit) : cells2 (hs.map pairH) = (hs.map fun h => [Value.int .i64 h.id, .int .i64 h.score]).flatten := by
  induction hs with
  | nil => rfl
  | cons h hs ih =>
    rw [List.map_cons, List.map_cons, List.flatten_cons, ← ih]
    rfl
/-- Rows of hits. -/
theorem grow_hits {w : World} {base T : Nat} {v : Value} {rows : List (List Value)} {hs : List DHit} {bls : List (List Nat)} (h : Grow Lay.tHit w base T v rows hs bls) : w.ownsRow base T 2 v (hs.map pairH).length (cells2 (hs.map pairH)) ∧ ∀ p ∈ hs.map pairH, Wf2 p := by
  have hrow : ∀ j (h1 : j < hs.length) (h2 : j < rows.length), rows[j] = [.int .i64 hs[j].id, .int .i64 hs[j].score] ∧ (Lit.int .i64 hs[j].id).wf = true ∧ (Lit.int .i64 hs[j].score).wf = true := by
    intro j h1 h2
    obtain ⟨e, -, w0, w1⟩ := lies_Hit.1 (h.lies j h1 h2 (by have := h.nbls; omega))
    exact ⟨e, w0, w1⟩
  have e : rows = hs.map fun h => [Value.int .i64 h.id, .int .i64 h.score] := by
    apply List.ext_getElem (by simp [h.nrows])
    intro j h1 h2
    rw [(hrow j (by have := h.nrows; omega) h1).1]
    simp
  refine ⟨?_, ?_⟩
  · rw [List.length_map, cells2_map, ← e]
    exact h.own
  · intro p hp
    obtain ⟨d, hd, rfl⟩ := List.mem_map.1 hp
    obtain ⟨j, hj, rfl⟩ := List.getElem_of_mem hd
    exact (hrow j hj (by have := h.nrows; omega)).2
/-- A row of hits of the call's own, as data. -/
theorem own_hits {w : World} {base T : Nat} {v : Value} {ps : List (Int × Int)} (h : w.ownsRow base T 2 v ps.length (cells2 ps)) (hw : ∀ p ∈ ps, Wf2 p) (hn : ps.length ≤ 9223372036854775807) : (Lay.sl Lay.tHit).OwnIn w [v] (ps.map dhit) base w.heap.size := by
  have hl : (ps.map dhit).length = ps.length := List.length_map _
  have e : cells2 ps = ((ps.map dhit).map fun h => [Value.int .i64 h.id, .int .i64 h.score]).flatten := by
    rw [← cells2_map, List.map_map]
    congr 1
    exact (List.map_id ps).symm
  have G : Grow Lay.tHit w base T v ((ps.map dhit).map fun h => [Value.int .i64 h.id, .int .i64 h.score]) (ps.map dhit) (List.replicate ps.length []) := by
    refine ⟨by rw [hl, ← e]; exact h, by simp, by simp, fun j h1 h2 h3 => ?_, by simp⟩
    have hj : j < ps.length := by simpa using h1
    have hq := hw ps[j] (List.getElem_mem hj)
    refine lies_Hit.2 ⟨by simp, by simp, ?_, ?_⟩
    · simpa [dhit] using hq.1
    · simpa [dhit] using hq.2
  exact G.toOwn (by rw [hl]; exact hn) (by simp) (by simp)
theorem score3_bd {q v : List Int} (h1 : vecFault q = 0) (h2 : vecFault v = 0) : 0 ≤ score3 q v ∧ score3 q v ≤ 12000000 := by
  obtain ⟨hl, -⟩ := vecFault_zero h1
  obtain ⟨hl2, -⟩ := vecFault_zero h2
  match q, hl, v, hl2 with
  | [x, y, z], _, [a, b, c], _ =>
    obtain ⟨⟨x1, x2⟩, ⟨y1, y2⟩, ⟨z1, z2⟩⟩ := fault3 h1
    obtain ⟨⟨a1, a2⟩, ⟨b1, b2⟩, ⟨c1, c2⟩⟩ := fault3 h2
    have m1 := sq_bd x a x1 x2 a1 a2
    have m2 := sq_bd y b y1 y2 b1 b2
    have m3 := sq_bd z c z1 z2 c1 c2
    show 0 ≤ (x - a) * (x - a) + (y - b) * (y - b) + (z - c) * (z - c) ∧ (x - a) * (x - a) + (y - b) * (y - b) + (z - c) * (z - c) ≤ 12000000
    omega
/-- The hits of a right table are right, and few. -/
theorem hits_right {xs : List DItem} {q : List Int} (h : tableFault xs = 0) (hq : vecFault q = 0) : ((hitsL xs q).map pairH).length ≤ 30 ∧ ∀ p ∈ (hitsL xs q).map pairH, oneB p = true := by
  obtain ⟨hl, ha, -⟩ := tableFault_zero h
  refine ⟨by simp [hitsL]; exact hl, fun p hp => ?_⟩
  obtain ⟨d, hd, rfl⟩ := List.mem_map.1 hp
  obtain ⟨x, hx, rfl⟩ := List.mem_map.1 hd
  obtain ⟨hi, hv⟩ := ha x hx
  have hs := score3_bd hq hv
  simp only [idB, Bool.and_eq_true, decide_eq_true_eq] at hi
  rw [show pairH (hitOf q x) = (x.id, score3 q x.vec) from rfl]
  simp only [oneB, Bool.and_eq_true, decide_eq_true_eq]
  omega
theorem best_code {xs : List DItem} {q : List Int} {k : Int} (h : tableFault xs = 0) (hq : vecFault q = 0) (hk : kB k = true) : bestCode ((hitsL xs q).map pairH) k = 0 ∧ bestList ((hitsL xs q).map pairH) k = best k.toNat ((hitsL xs q).map pairH) := by
  obtain ⟨h1, h2⟩ := hits_right h hq
  have e : bestCode ((hitsL xs q).map pairH) k = 0 := by
    rw [bestCode, hk, if_pos rfl, if_neg (by omega), if_pos (List.all_eq_true.2 h2)]
  exact ⟨e, by rw [bestList, if_pos e]⟩
theorem own_hitsR {w : World} {c : Int} {v : Value} {hs : List DHit} {lo hi : Nat} (hc : (Lit.int .i64 c).wf = true) (h : (Lay.sl Lay.tHit).OwnIn w [v] hs lo hi) : Lay.tHitsResult.OwnIn w [.int .i64 c, v] ⟨c, hs⟩ lo hi := by
  obtain ⟨bl, ⟨l, n, f⟩, i⟩ := h
  exact ⟨bl, ⟨⟨[.int .i64 c], [v], [], bl, rfl, by simp, ⟨rfl, hc, rfl⟩, l⟩, n, f⟩, i⟩
theorem own_codeHits {w : World} {c : Int} {lo hi : Nat} (hc : (Lit.int .i64 c).wf = true) : Lay.tHitsResult.OwnIn w [.int .i64 c, .slice none 0 0] ⟨c, []⟩ lo hi := own_hitsR hc ⟨[], ⟨⟨none, 0, rfl, by simp, Or.inl ⟨rfl, rfl⟩⟩, by simp, by simp⟩, by simp⟩
theorem vec3q {zs : List Int} (h : vecFault zs = 0) : ∃ p q r, zs = [p, q, r] := by
  have hl := (vecFault_zero h).1
  match zs, hl with
  | [p, q, r], _ => exact ⟨p, q, r, rfl⟩
theorem best_wf {ps : List (Int × Int)} {k : Nat} (h : ∀ p ∈ ps, Wf2 p) : ∀ p ∈ best k ps, Wf2 p := fun p hp => h p (best_mem hp)
theorem oneB_wf {p : Int × Int} (h : oneB p = true) : Wf2 p := by
  simp only [oneB, Bool.and_eq_true, decide_eq_true_eq] at h
  exact ⟨wf_of_bd (by omega), wf_of_bd (by omega)⟩

end Go.Proofs.Ytggnnbdjihihiaa

namespace Go.Proofs.Ytggnnbdjihihiaa
open Go.RowKit

def probeL (cs : List DCenter) (q : List Int) (k : Nat) : List DHit := (List.range k).map fun (i : Nat) => ⟨(i : Int), score3 (cs.getD i ⟨[]⟩).vec q⟩
def probesI (cs : List DCenter) (q : List Int) (n : Nat) : List Int := (best n ((probeL cs q cs.length).map pairH)).map Prod.fst
theorem probeL_step (cs : List DCenter) (q : List Int) (k : Nat) (h : k < cs.length) : probeL cs q (k + 1) = probeL cs q k ++ [⟨k, score3 cs[k].vec q⟩] := by
  have e : cs.getD k ⟨[]⟩ = cs[k] := by simp [List.getD, List.getElem?_eq_getElem h]
  rw [probeL, List.range_succ, List.map_append, List.map_cons, e]
  rfl
theorem probeL_len (cs : List DCenter) (q : List Int) (k : Nat) : (probeL cs q k).length = k := by simp [probeL]
def nB (n : Int) : Bool := decide (0 ≤ n) && decide (n ≤ 6)
def probesR (x : DIvf) (q : List Int) (n : Int) : DIntsResult :=
  if ivfFault x = 0 then (if vecFault q = 0 then (if nB n then ⟨0, probesI x.centers q n.toNat⟩ else ⟨3, []⟩) else ⟨vecFault q, []⟩) else ⟨ivfFault x, []⟩
theorem probe_wf {cs : List DCenter} {q : List Int} {n : Nat} (h6 : cs.length ≤ 1000) : ∀ z ∈ probesI cs q n, (Lit.int .i64 z).wf = true := by
  intro z hz
  obtain ⟨p, hp, rfl⟩ := List.mem_map.1 hz
  obtain ⟨d, hd, rfl⟩ := List.mem_map.1 (best_mem hp)
  obtain ⟨i, hi, rfl⟩ := List.mem_map.1 hd
  have := List.mem_range.1 hi
  exact wf_of_bd (by show _ ≤ (i : Int) ∧ (i : Int) ≤ _; omega)
theorem probe_len (cs : List DCenter) (q : List Int) (n : Nat) : (probesI cs q n).length ≤ n := by
  rw [probesI, List.length_map]
  exact best_len _ _
/-- All hits of the lists named. -/
def probedH (x : DIvf) (q : List Int) (ps : List Int) : List (Int × Int) := (ps.map fun p => (hitsL (x.lists.getD p.toNat ⟨[]⟩).items q).map pairH).flatten
def searchIvfR (x : DIvf) (q : List Int) (k n : Int) : DHitsResult :=
  if ivfFault x = 0 then (if vecFault q = 0 then (if kB k && nB n then ⟨0, (best k.toNat (probedH x q (probesI x.centers q n.toNat))).map dhit⟩ else ⟨3, []⟩) else ⟨vecFault q, []⟩) else ⟨ivfFault x, []⟩
theorem probedH_step (x : DIvf) (q : List Int) (ps : List Int) (j m : Nat) (h : j < ps.length) (e : ps[j] = (m : Int)) (hm : m < x.lists.length) : probedH x q (ps.take (j + 1)) = probedH x q (ps.take j) ++ (hitsL x.lists[m].items q).map pairH := by
  have e2 : x.lists.getD (ps[j]).toNat ⟨[]⟩ = x.lists[m] := by rw [e]; simp [List.getD, List.getElem?_eq_getElem hm]
  rw [probedH, List.take_succ_eq_append_getElem h, List.map_append, List.flatten_append, List.map_cons, e2]
  simp [probedH]
theorem probedH_right {x : DIvf} {q : List Int} (hx : ∀ l ∈ x.lists, tableFault l.items = 0) (hq : vecFault q = 0) (ps : List Int) : (probedH x q ps).length ≤ 30 * ps.length ∧ ∀ p ∈ probedH x q ps, oneB p = true := by
  have h1 : ∀ m : Nat, ((hitsL (x.lists.getD m ⟨[]⟩).items q).map pairH).length ≤ 30 ∧ ∀ p ∈ (hitsL (x.lists.getD m ⟨[]⟩).items q).map pairH, oneB p = true := fun m => by
    by_cases hm : m < x.lists.length
    · have e : x.lists.getD m ⟨[]⟩ = x.lists[m] := by simp [List.getD, List.getElem?_eq_getElem hm]
      rw [e]
      exact hits_right (hx _ (List.getElem_mem hm)) hq
    · have e : x.lists.getD m ⟨[]⟩ = ⟨[]⟩ := by simp [List.getD, List.getElem?_eq_none (Nat.le_of_not_lt hm)]
      rw [e]
      simp [hitsL]
  induction ps with
  | nil => simp [probedH]
  | cons p ps ih =>
    have e : probedH x q (p :: ps) = (hitsL (x.lists.getD p.toNat ⟨[]⟩).items q).map pairH ++ probedH x q ps := by simp [probedH]
    rw [e]
    refine ⟨?_, fun y hy => ?_⟩
    · have := (h1 p.toNat).1
      rw [List.length_append, List.length_cons]
      omega
    · rcases List.mem_append.1 hy with hy | hy
      · exact (h1 p.toNat).2 y hy
      · exact ih.2 y hy
theorem probe_at {cs : List DCenter} {q : List Int} {n : Nat} {z : Int} (h : z ∈ probesI cs q n) : ∃ m : Nat, z = m ∧ m < cs.length := by
  obtain ⟨p, hp, rfl⟩ := List.mem_map.1 h
  obtain ⟨d, hd, rfl⟩ := List.mem_map.1 (best_mem hp)
  obtain ⟨i, hi, rfl⟩ := List.mem_map.1 hd
  exact ⟨i, rfl, List.mem_range.1 hi⟩

end Go.Proofs.Ytggnnbdjihihiaa

namespace Go.Proofs.Ytggnnbdjihihiaa
open Go.RowKit

/-- The first places of a list in order are not worse than those of a part of it. -/
theorem sorted_first : ∀ (b a : List (Int × Int)), Sorted b → Sorted a → (∀ x ∈ a, x ∈ b) → ∀ i (h : i < a.length), ∃ h' : i < b.length, a[i] = b[i] ∨ bet b[i] a[i] = true
  | [], a, _, _, hs, i, h => by
    have := hs a[i] (List.getElem_mem h)
    simp at this
  | y :: s, [], _, _, _, i, h => by simp at h
  | y :: s, x :: r, hb, ha, hs, i, h => by
    by_cases e : x = y
    · subst e
      match i, h with
      | 0, _ => exact ⟨by simp, Or.inl rfl⟩
      | i + 1, h =>
        have hr : ∀ z ∈ r, z ∈ s := fun z hz => by
          rcases List.mem_cons.1 (hs z (List.mem_cons_of_mem _ hz)) with e | hz2
          · subst e
            have := List.rel_of_pairwise_cons ha hz
            rw [bet_irrefl] at this
            cases this
          · exact hz2
        obtain ⟨h1, h2⟩ := sorted_first s r hb.of_cons ha.of_cons hr i (by simpa using h)
        exact ⟨by simpa using h1, by simpa using h2⟩
    · have hx : x ∈ s := by
        rcases List.mem_cons.1 (hs x (by simp)) with e2 | h2
        · exact absurd e2 e
        · exact h2
      have hyx := List.rel_of_pairwise_cons hb hx
      have hr : ∀ z ∈ x :: r, z ∈ s := fun z hz => by
        rcases List.mem_cons.1 (hs z hz) with e2 | h2
        · subst e2
          rcases List.mem_cons.1 hz with e3 | h3
          · exact absurd e3.symm e
          · have := List.rel_of_pairwise_cons ha h3
            rw [bet_asymm this] at hyx
            cases hyx
        · exact h2
      obtain ⟨h1, h2⟩ := sorted_first s (x :: r) hb.of_cons ha hr i h
      refine ⟨by simp; omega, Or.inr ?_⟩
      have hbi : bet ((y :: s)[i]'(by simp; omega)) s[i] = true := by
        match i, h1 with
        | 0, h1 => exact List.rel_of_pairwise_cons hb (List.getElem_mem h1)
        | i + 1, h1 => exact List.pairwise_iff_getElem.1 hb.of_cons i (i + 1) (by omega) h1 (by omega)
      rcases h2 with h2 | h2
      · rw [h2]; exact hbi
      · exact bet_trans hbi h2
theorem best_more {a b : List (Int × Int)} (k : Nat) (h : ∀ x ∈ a, x ∈ b) : ∀ i (hi : i < (best k a).length), ∃ h' : i < (best k b).length, bet (best k a)[i] (best k b)[i] = false := by
  intro i hi
  have hi2 := hi
  rw [best_eq, List.length_take] at hi2
  obtain ⟨h1, h2⟩ := sorted_first (allOf b) (allOf a) (allOf_sorted b) (allOf_sorted a) (fun x hx => allOf_mem.2 (h x (allOf_mem.1 hx))) i (by omega)
  refine ⟨by rw [best_eq, List.length_take]; omega, ?_⟩
  have ea : (best k a)[i] = (allOf a)[i]'(by omega) := by simp [best_eq]
  have eb : (best k b)[i]'(by rw [best_eq, List.length_take]; omega) = (allOf b)[i] := by simp [best_eq]
  rw [ea, eb]
  rcases h2 with h2 | h2
  · rw [h2]; exact bet_irrefl _
  · exact bet_asymm h2
/-- The lists for n are the first of all. -/
theorem probes_take (cs : List DCenter) (q : List Int) {n : Nat} (hn : n ≤ 6) : probesI cs q n = (probesI cs q 6).take n := by
  rw [probesI, probesI, best_eq, best_eq, ← List.map_take, List.take_take, Nat.min_eq_left hn]
theorem probed_sub (x : DIvf) (q : List Int) {ps qs : List Int} (h : ∀ p ∈ ps, p ∈ qs) : ∀ y ∈ probedH x q ps, y ∈ probedH x q qs := by
  intro y hy
  obtain ⟨l, h1, h2⟩ := List.mem_flatten.1 hy
  obtain ⟨p, h3, rfl⟩ := List.mem_map.1 h1
  exact List.mem_flatten.2 ⟨_, List.mem_map.2 ⟨p, h p h3, rfl⟩, h2⟩
theorem ins_newP {hs : List (Int × Int)} {h : Int × Int} (hn : h ∉ hs) : (ins hs h).length = hs.length + 1 := by
  induction hs with
  | nil => rfl
  | cons a r ih =>
    unfold ins
    split
    · rw [List.length_cons, ih (fun q => hn (List.mem_cons_of_mem _ q)), List.length_cons]
    · split
      · next e => exact absurd (by rw [e]; simp) hn
      · simp
theorem allOf_lenP {hs : List (Int × Int)} (h : hs.Nodup) : (allOf hs).length = hs.length := by
  have : ∀ (ys a : List (Int × Int)), ys.Nodup → (∀ y ∈ ys, y ∉ a) → (ys.foldl ins a).length = a.length + ys.length := by
    intro ys
    induction ys with
    | nil => intro a _ _; rfl
    | cons y ys ih =>
      intro a hn hd
      rw [List.foldl_cons, ih (ins a y) (List.nodup_cons.1 hn).2 (fun z hz hq => by
        rcases ins_mem.1 hq with e | hq
        · rw [e] at hz; exact (List.nodup_cons.1 hn).1 hz
        · exact hd z (List.mem_cons_of_mem _ hz) hq), ins_newP (hd y (by simp)), List.length_cons]
      omega
  have := this hs [] h (by simp)
  show (hs.foldl ins []).length = _
  simpa using this
theorem probeL_nodup (cs : List DCenter) (q : List Int) (k : Nat) : ((probeL cs q k).map pairH).Nodup := by
  rw [probeL, List.map_map]
  refine List.Pairwise.map _ ?_ List.nodup_range
  intro a b hab e
  have : (a : Int) = (b : Int) := congrArg Prod.fst e
  omega
theorem probes_len (cs : List DCenter) (q : List Int) (n : Nat) : (probesI cs q n).length = min n cs.length := by
  rw [probesI, List.length_map, best_eq, List.length_take, allOf_lenP (probeL_nodup cs q _), List.length_map, probeL_len]
/-- Who is better than all others is the first. -/
theorem head_bestP {a : List (Int × Int)} (ha : Sorted a) {x : Int × Int} (hx : x ∈ a) (hb : ∀ y ∈ a, y = x ∨ bet x y = true) (h0 : 0 < a.length) : a[0] = x := by
  match a, h0 with
  | y :: r, _ =>
    rcases hb y (by simp) with e | h
    · exact e
    · rcases List.mem_cons.1 hx with e | hx
      · exact e.symm
      · have := List.rel_of_pairwise_cons ha hx
        rw [bet_asymm h] at this
        cases this
/-- The nearest of the first k centers is better than all others of them. -/
theorem nearK_best {cs : List DCenter} {v : List Int} (hc : ∀ c ∈ cs, vecFault c.vec = 0) (hv : vecFault v = 0) (k : Nat) (h2 : k ≤ cs.length) :
    ∀ j, j < k → j = (nearK cs v k).1 ∨ (nearK cs v k).2 < score3 (cs.getD j ⟨[]⟩).vec v ∨ ((nearK cs v k).2 = score3 (cs.getD j ⟨[]⟩).vec v ∧ (nearK cs v k).1 < j) := by
  induction k with
  | zero => intro j hj; omega
  | succ k ih =>
    intro j hj
    have hk : k < cs.length := by omega
    rw [nearK_step cs v k hk]
    have ek : score3 (cs.getD k ⟨[]⟩).vec v = score3 cs[k].vec v := by rw [getD_at hk]
    by_cases hl : score3 cs[k].vec v < (nearK cs v k).2
    · rw [if_pos hl]
      by_cases hjk : j = k
      · exact Or.inl hjk
      · have hk1 : 1 ≤ k := by omega
        rcases ih (by omega) j (by omega) with e | e | e
        · have h4 := (nearK_right hc hv k hk1 (by omega)).2.1
          rw [← e] at h4
          simp only
          omega
        · simp only; omega
        · simp only; omega
    · rw [if_neg hl]
      by_cases hjk : j = k
      · subst hjk
        have hk0 : 1 ≤ j := by
          apply Nat.succ_le_of_lt
          apply Nat.pos_of_ne_zero
          rintro rfl
          have := cscore_bd (hc cs[0] (List.getElem_mem hk)) hv
          simp only [nearK] at hl
          omega
        have h3 := (nearK_right hc hv j hk0 (by omega)).1
        omega
      · exact ih (by omega) j (by omega)
/-- The first list that is looked at is the nearest. -/
theorem probes_first {cs : List DCenter} {q : List Int} (hc : centersFault cs = 0) (hq : vecFault q = 0) {n : Nat} (h : 0 < (probesI cs q n).length) : (probesI cs q n)[0] = ((near cs q : Nat) : Int) := by
  obtain ⟨hl, hall⟩ := centersFault_zero hc
  have hn := near_lt hc hq
  have hlen := probes_len cs q n
  have h0 : 0 < (best n ((probeL cs q cs.length).map pairH)).length := by rw [probesI, List.length_map] at h; exact h
  have hb := nearK_best hall hq cs.length (Nat.le_refl _)
  have hr := nearK_right hall hq cs.length (by omega) (Nat.le_refl _)
  have hmem : ∀ y ∈ (probeL cs q cs.length).map pairH, ∃ j : Nat, j < cs.length ∧ y = ((j : Int), score3 (cs.getD j ⟨[]⟩).vec q) := fun y hy => by
    obtain ⟨d, hd, rfl⟩ := List.mem_map.1 hy
    obtain ⟨j, hj, rfl⟩ := List.mem_map.1 hd
    exact ⟨j, List.mem_range.1 hj, rfl⟩
  have hx : (((near cs q : Nat) : Int), score3 (cs.getD (near cs q) ⟨[]⟩).vec q) ∈ allOf ((probeL cs q cs.length).map pairH) := allOf_mem.2 (List.mem_map.2 ⟨⟨(near cs q : Nat), score3 (cs.getD (near cs q) ⟨[]⟩).vec q⟩, List.mem_map.2 ⟨near cs q, List.mem_range.2 hn, rfl⟩, rfl⟩)
  have h1 : 0 < (allOf ((probeL cs q cs.length).map pairH)).length := List.length_pos_of_mem hx
  have hh := head_bestP (allOf_sorted _) hx (fun y hy => by
    obtain ⟨j, hj, rfl⟩ := hmem y (allOf_mem.1 hy)
    rcases hb j hj with e | e | e
    · left
      rw [e]
      rfl
    · right
      rw [bet_iff]
      left
      show score3 (cs.getD (near cs q) ⟨[]⟩).vec q < _
      rw [show score3 (cs.getD (near cs q) ⟨[]⟩).vec q = (nearK cs q cs.length).2 from hr.2.1.symm]
      exact e
    · right
      rw [bet_iff]
      right
      refine ⟨?_, ?_⟩
      · show score3 (cs.getD (near cs q) ⟨[]⟩).vec q = _
        rw [show score3 (cs.getD (near cs q) ⟨[]⟩).vec q = (nearK cs q cs.length).2 from hr.2.1.symm]
        exact e.1
      · show ((near cs q : Nat) : Int) < (j : Int)
        have : near cs q < j := e.2
        omega) h1
  have e0 : (probesI cs q n)[0] = ((best n ((probeL cs q cs.length).map pairH))[0]'h0).1 := by simp [probesI]
  have e1 : (best n ((probeL cs q cs.length).map pairH))[0]'h0 = (allOf ((probeL cs q cs.length).map pairH))[0]'h1 := by simp [best_eq]
  rw [e0, e1, hh]

end Go.Proofs.Ytggnnbdjihihiaa

namespace Go.Proofs.Ytggnnbdjihihiaa
open Go.RowKit

theorem probes_bundle {x : DIvf} {q : List Int} {n : Int} (h : (probesR x q n).code = 0) :
    ∃ (P AP : List Int) (A B : List DHit) (nr : Nat), probesR x q n = ⟨0, P⟩ ∧ probesR x q 6 = ⟨0, AP⟩ ∧ P.length ≤ AP.length ∧ AP.take P.length = P ∧ AP.length = x.centers.length ∧ searchIvfR x q 5 n = ⟨0, A⟩ ∧ searchIvfR x q 5 6 = ⟨0, B⟩ ∧
      (∀ i (hi : i < A.length), ∃ h' : i < B.length, bet (A[i].id, A[i].score) (B[i].id, B[i].score) = false) ∧ ((P.length : Int) = n ∨ P.length = x.centers.length) ∧ (∀ h0 : 0 < P.length, P[0] = ((nr : Nat) : Int)) ∧ nearestR x.centers q = ⟨0, ((nr : Nat) : Int)⟩ ∧ x.centers.length ≤ 6 ∧ (∀ z ∈ AP, (Lit.int .i64 z).wf = true) ∧ A.length ≤ 5 := by
  unfold probesR at h
  split at h
  · rename_i h1
    split at h
    · rename_i h2
      split at h
      · rename_i h3
        have hcf : centersFault x.centers = 0 := (ivfFault_zero h1).1
        have hl6 : x.centers.length ≤ 6 := (centersFault_zero hcf).1.2
        have hn : 0 ≤ n ∧ n ≤ 6 := by simpa [nB] using h3
        obtain ⟨m, rfl⟩ : ∃ m : Nat, n = (m : Int) := ⟨n.toNat, by omega⟩
        have hm : m ≤ 6 := by omega
        have e1 : probesR x q (m : Int) = ⟨0, probesI x.centers q m⟩ := by rw [probesR, if_pos h1, if_pos h2, if_pos h3, Int.toNat_natCast]
        have e2 : probesR x q 6 = ⟨0, probesI x.centers q 6⟩ := by rw [probesR, if_pos h1, if_pos h2, if_pos (by decide)]; rfl
        have hk : kB 5 = true := by decide
        have e3 : searchIvfR x q 5 (m : Int) = ⟨0, (best 5 (probedH x q (probesI x.centers q m))).map dhit⟩ := by rw [searchIvfR, if_pos h1, if_pos h2, if_pos (by rw [hk, h3]; rfl), Int.toNat_natCast]; rfl
        have e4 : searchIvfR x q 5 6 = ⟨0, (best 5 (probedH x q (probesI x.centers q 6))).map dhit⟩ := by rw [searchIvfR, if_pos h1, if_pos h2, if_pos (by decide)]; rfl
        have l1 := probes_len x.centers q m
        have l2 := probes_len x.centers q 6
        refine ⟨_, _, _, _, near x.centers q, e1, e2, by omega, ?_, by omega, e3, e4, fun i hi => ?_, by omega, fun h0 => probes_first hcf h2 h0, by rw [nearestR, if_pos hcf, if_pos h2], hl6, probe_wf (by omega), by rw [List.length_map]; exact best_len _ _⟩
        · rw [probes_take x.centers q hm, List.length_take]
          by_cases hml : m ≤ (probesI x.centers q 6).length
          · rw [Nat.min_eq_left hml]
          · rw [Nat.min_eq_right (by omega), List.take_of_length_le (Nat.le_refl _), List.take_of_length_le (by omega)]
        · rw [List.length_map] at hi
          obtain ⟨h5, h6⟩ := best_more (a := probedH x q (probesI x.centers q m)) (b := probedH x q (probesI x.centers q 6)) 5 (probed_sub x q (fun p hp => by rw [probes_take x.centers q hm] at hp; exact List.mem_of_mem_take hp)) i hi
          refine ⟨by rw [List.length_map]; exact h5, ?_⟩
          simp only [List.getElem_map, dhit]
          exact h6
      · simp at h
    · rename_i h2
      exact absurd h h2
  · rename_i h1
    exact absurd h h1

end Go.Proofs.Ytggnnbdjihihiaa

namespace Go.Proofs.Ytggnnbdjihihiaa
open Go.RowKit

theorem big_no (ao : Option Addr) (len cap : Nat) (w : World) (hn : len ≤ 1048576) :
    Calls Try.prog 9 #[.slice ao len cap] w fun e w' => e = .returned (.bool false) ∧ w' = w := by
  have hd : decide (1048576 < (len : Int)) = false := by simp; omega
  go_enter Try.func9, Try.ntmps9
  go_wp2
  go_ret
  exact ⟨rfl, rfl⟩

theorem big_yes (ao : Option Addr) (len cap : Nat) (w : World) (hn : 1048576 < len) :
    Calls Try.prog 9 #[.slice ao len cap] w fun e w' => e = .returned (.bool true) ∧ w' = w := by
  have hd : decide (1048576 < (len : Int)) = true := by simp; omega
  go_enter Try.func9, Try.ntmps9
  go_wp2
  go_ret
  exact ⟨rfl, rfl⟩

/-- A function that computes: what it answers wherever w1 stands. -/
def Tells (P : Program) (f : Nat) (args : Array Value) (w1 : World) (v : Value) : Prop :=
  ∀ W, Below w1.heap.size w1 W → Calls P f args W fun e w' => e = .returned v ∧ Below W.heap.size W w'

theorem below_step {w1 W W' : World} (h : Below w1.heap.size w1 W) (k : Below W.heap.size W W') : Below w1.heap.size w1 W' := h.trans (k.mono h.size)

end Go.Proofs.Ytggnnbdjihihiaa

namespace Go.Proofs.Ytggnnbdjihihiaa
open Go.RowKit

set_option maxRecDepth 100000 in
set_option maxHeartbeats 1000000 in
theorem lwSame (u v : Value) (zs : List Int) (w : World) (h : (Lay.sl Lay.int).Reads w [u] zs) (h2 : (Lay.sl Lay.int).Reads w [v] zs) (hn : zs.length ≤ 1000000) :
    Calls Try.prog 13 #[u, v] w fun e w' => e = .returned (.bool true) ∧ Below w.heap.size w w' := by
  obtain ⟨bl1, hl1⟩ := h
  obtain ⟨bl2, hl2⟩ := h2
  obtain ⟨au, cu, rfl, -, -, h1⟩ := Lay.lies_ints.1 hl1
  obtain ⟨av, cv, rfl, -, -, h2⟩ := Lay.lies_ints.1 hl2
  clear hl1 hl2
  have hne : ((zs.length : Int) != (zs.length : Int)) = false := by simp
  go_enter Try.func13, Try.ntmps13
  go_wp2_with fail
  go_loopw [5] (fun i wr => ∃ j : Nat, j ≤ zs.length ∧ i = .int .i64 j ∧ Below w.heap.size w wr) (fun i _ => zs.length - (intOf i).toNat)
  case atStart => exact ⟨0, Nat.zero_le _, rfl, Below.refl _ _⟩
  case round =>
    obtain ⟨j, hj, rfl, hB⟩ := hrel
    by_cases hlt : j < zs.length
    · rcases h1 with ⟨rfl, -⟩ | ⟨b1, o1, rfl, hb1, -, hc1⟩
      · simp at hlt
      rcases h2 with ⟨rfl, -⟩ | ⟨b2, o2, rfl, hb2, -, hc2⟩
      · simp at hlt
      have c1 := (hB.cell (p := ⟨b1, o1 + j, none⟩) hb1).trans (hc1 j hlt)
      have c2 := (hB.cell (p := ⟨b2, o2 + j, none⟩) hb2).trans (hc2 j hlt)
      have g3 : (j : Int) < (zs.length : Int) := by omega
      have g5 : (0 : Int) ≤ (j : Int) := by omega
      generalize zs.getD j 0 = x at *
      have hxx : (x != x) = false := by simp
      have HB := hide hB
      clear hc1 hc2 hB
      go_wp2_with fail
      go_quiet (fail)
      go_wp2_with fail
      go_roundw
      case rel => exact ⟨j + 1, by omega, by go_num, below_drewN (unhide HB) _⟩
      case measure => simp [intOf]; omega
    · obtain rfl : j = zs.length := by omega
      clear h1 h2
      go_wp2_with fail
      go_ret
      exact ⟨rfl, hB⟩

end Go.Proofs.Ytggnnbdjihihiaa

namespace Go.Proofs.Ytggnnbdjihihiaa
open Go.RowKit

/-- Blocks below n that are not in S are as they were. -/
def KpS (n : Nat) (S : Nat → Prop) (W W' : World) : Prop := W.heap.size ≤ W'.heap.size ∧ ∀ b, b < n → ¬ S b → W'.heap[b]? = W.heap[b]?
theorem KpS.refl (n : Nat) (S : Nat → Prop) (W : World) : KpS n S W W := ⟨Nat.le_refl _, fun _ _ _ => rfl⟩
theorem KpS.trans {n : Nat} {S : Nat → Prop} {a b c : World} (h : KpS n S a b) (k : KpS n S b c) : KpS n S a c := ⟨Nat.le_trans h.1 k.1, fun i h1 h2 => (k.2 i h1 h2).trans (h.2 i h1 h2)⟩
theorem KpS.put {n : Nat} (S : Nat → Prop) (W : World) (l : Nat) (o' : Obj) (hl : n ≤ l) : KpS n S W (W.putObj l o') :=
  ⟨by simp, fun b hb _ => World.putObj_heap_other (by omega)⟩
theorem KpS.of_ext {n : Nat} {S T : Nat → Prop} {a b : World} (h : Ext T a b) (hn : n ≤ a.heap.size) (hs : ∀ k, k < n → T k → S k) : KpS n S a b :=
  ⟨h.size, fun k hk hS => h.block k (by omega) fun ht => hS (hs k hk ht)⟩
theorem KpS.of_below {n : Nat} (S : Nat → Prop) {a b : World} (h : Below a.heap.size a b) (hn : n ≤ a.heap.size) : KpS n S a b := ⟨h.size, fun k hk _ => h.block k (by omega)⟩
theorem ext_of_grownBy {A B : World} {row : Option Nat} (h : A.grownBy B row) : Ext (fun q => row = some q) A B := ⟨h.os, h.tape, h.output, h.size, fun k hk hn => h.block k hk fun e => hn e.symm⟩
theorem keepsFrom_ext {B : Nat} {S : Nat → Prop} {a b : World} (h : Ext S a b) (hs : ∀ k o, B ≤ k → a.heap[k]? = some o → o.isCells = false → ¬ S k) : KeepsFrom B a b :=
  ⟨h.size, fun k o hB hk ho => (h.block k (Array.getElem?_eq_some_iff.1 hk).1 (hs k o hB hk ho)).trans hk⟩
theorem keepsFrom_below {B : Nat} {a b : World} (h : Below a.heap.size a b) : KeepsFrom B a b :=
  ⟨h.size, fun k _ _ hk _ => (h.block k (Array.getElem?_eq_some_iff.1 hk).1).trans hk⟩
/-- A block of cells is not turned. -/
theorem grown_cells {A B : World} {row : Option Nat} (h : A.grownBy B row) {n : Nat} (hr : ∀ r, row = some r → n ≤ r ∧ ∃ o : Obj, A.heap[r]? = some o ∧ o.isCells = false) {b : Nat} {o : Obj} (hb : A.heap[b]? = some o) (ho : b < n ∨ o.isCells = true) : B.heap[b]? = some o := by
  refine (h.block b (Array.getElem?_eq_some_iff.1 hb).1 fun e => ?_).trans hb
  obtain ⟨h1, o', h2, h3⟩ := hr b e.symm
  rcases ho with ho | ho
  · omega
  · rw [hb] at h2
    cases h2
    rw [ho] at h3
    cases h3
theorem box_grown {A B : World} {row : Option Nat} (h : A.grownBy B row) {n lo : Nat} (hr : ∀ r, row = some r → n ≤ r ∧ ∃ o : Obj, A.heap[r]? = some o ∧ o.isCells = false) {cs : Array Value} {T s : Nat} (hb : Box lo cs T A s) : Box lo cs T B s :=
  ⟨hb.1, grown_cells h hr hb.2 (Or.inr rfl)⟩
theorem below_grown {A B w : World} {row : Option Nat} (h : A.grownBy B row) {n m : Nat} (hr : ∀ r, row = some r → n ≤ r ∧ ∃ o : Obj, A.heap[r]? = some o ∧ o.isCells = false) (hb : Below m w A) (hm : m ≤ n) (hw : m ≤ w.heap.size) : Below m w B :=
  hb.grown h (Nat.le_trans hw hb.size) fun k e => by have := (hr k e).1; omega

end Go.Proofs.Ytggnnbdjihihiaa

namespace Go.Proofs.Ytggnnbdjihihiaa
open Go.RowKit

variable {P : Program} {ops : Array Oper} {Q : Exit → Act → World → Prop}

def noDefer (o : Oper) : Bool := match o.op with | .defer _ => false | _ => true
theorem upon_in (l n : Nat) {o : Oper} {a : Act} {K : Act → World → Prop} {r : Result Next} (h : o.upon P a K Q r) : o.uponIn (Fence.wide.inRound l) n P a K Q r := by
  cases r with
  | ok x w' =>
    cases x with
    | value v => exact h
    | skip => exact h
    | defer d => exact h
    | enter f args => exact ⟨fun e => by simp [Fence.wide] at e, CallsIn.inRound l (callsIn_wide.2 h)⟩
    | row row args =>
      refine ⟨fun e => by simp [Fence.wide] at e, fun c cs _ => ?_⟩
      obtain ⟨v, w2, h1, h2⟩ := h c cs
      exact ⟨v, w2, h1, stepsIn_wide.2 h2⟩
    | _ => exact h.elim
  | halt x w' =>
    cases x with
    | panic v => exact h
    | _ => exact h.elim
theorem wp_in (l n : Nat) {o : Oper} {a : Act} {w : World} {K : Act → World → Prop} (hd : noDefer o = true) (h : o.wp P a w K Q) : o.wpIn (Fence.wide.inRound l) n P a w K Q := by
  refine ⟨fun _ _ => trivial, ?_⟩
  rw [show (Fence.wide.inRound l).round = some l from rfl, Oper.semAt_some l _ _ (by intro c hc; rw [noDefer, hc] at hd; cases hd)]
  exact upon_in l n h
theorem any_in (l n : Nat) {md : Region.Mode} (hd : ∀ (i : Nat) (o : Oper), ops[i]? = some o → noDefer o = true) (hL : ¬ LetsOut Q) : ∀ (fuel : Nat) (listed : Array Bool) (a : Act) (w : World), wpAny P md ops Q fuel listed a w → wpAnyIn (Fence.wide.inRound l) n P md ops Q fuel listed a w
  | 0, _, _, _, h => h
  | fuel + 1, listed, a, w, h => by
    refine ⟨h.1, fun i hi => ?_⟩
    have h2 := h.2 i hi
    unfold wpOp at h2
    unfold wpOpIn
    cases ho : ops[i]? with
    | none => rw [ho] at h2; exact any_in l n hd hL fuel _ _ _ h2
    | some o =>
      rw [ho] at h2
      simp only at h2 ⊢
      by_cases hw : Region.wanted o (yielded ops a.tmps) = true
      · rw [if_pos hw] at h2 ⊢
        rcases h2 with h2 | h2
        · exact Oper.wpIn_mono (any_in l n hd hL fuel _) (wp_in l n (hd i o ho) h2)
        · exact absurd h2.2 hL
      · rw [if_neg hw] at h2 ⊢
        exact ⟨fun _ _ => trivial, any_in l n hd hL fuel _ _ _ h2⟩
theorem noDefers (h : ops.all noDefer = true) : ∀ (i : Nat) (o : Oper), ops[i]? = some o → noDefer o = true := fun i o ho => by
  obtain ⟨hi, rfl⟩ := Array.getElem?_eq_some_iff.1 ho
  rw [Array.all_eq_true] at h
  exact h i hi
/-- Only the way behind the region. -/
def OnlyN (Q : Exit → Act → World → Prop) : Exit → Act → World → Prop
  | .normal, a, w => Q .normal a w
  | _, _, _ => False
theorem OnlyN.normal {a : Act} {w : World} (h : Q .normal a w) : OnlyN Q .normal a w := h
/-- The first move of a walk through such a region. -/
theorem wpIn_region_np {l n id : Nat} {S : World → Prop} {a : Act} {w : World} (hm : P.follows .mixedOrders = true) (hd : ops.all noDefer = true) (hS : S w.drew)
    (h : S w.drew → wpAnyH P .any ops (OnlyN Q) S ops.size (Array.replicate ops.size false) a w.drew) : (Code.region id ops true).wpIn (Fence.wide.inRound l) n P Q a w := by
  refine wpIn_mono (Q := OnlyN Q) (wpIn_region_any hm (any_in l n (noDefers hd) ?_ _ _ _ _ (wpAny_of_held _ _ _ _ (h hS)))) ?_
  · rintro ⟨a2, w2, h2⟩
    exact (show False from h2)
  · intro e a2 w2 h2
    cases e with
    | normal => exact h2
    | _ => exact (show False from h2).elim

end Go.Proofs.Ytggnnbdjihihiaa

namespace Go.Proofs.Ytggnnbdjihihiaa
open Go.RowKit

/-- A place's hit. -/
def hitAt (cs : List DCenter) (q : List Int) (p : Nat) : Int × Int := ((p : Int), score3 (cs.getD p ⟨[]⟩).vec q)
theorem probeL_hits (cs : List DCenter) (q : List Int) (k : Nat) : (probeL cs q k).map pairH = (List.range k).map (hitAt cs q) := by
  rw [probeL, List.map_map]
  rfl
/-- Places in order, all of them: their first n are those that are looked at. -/
theorem places_probes {cs : List DCenter} {q : List Int} {d : List Nat} (hs : Sorted (d.map (hitAt cs q))) (hm : ∀ p, p ∈ d ↔ p < cs.length) (n : Nat) : (d.take n).map (fun p : Nat => (p : Int)) = probesI cs q n := by
  have e : allOf ((probeL cs q cs.length).map pairH) = d.map (hitAt cs q) := by
    refine sorted_ext (allOf_sorted _) hs fun x => ?_
    rw [allOf_mem, probeL_hits, List.mem_map, List.mem_map]
    constructor
    · rintro ⟨p, hp, rfl⟩
      exact ⟨p, (hm p).2 (List.mem_range.1 hp), rfl⟩
    · rintro ⟨p, hp, rfl⟩
      exact ⟨p, List.mem_range.2 ((hm p).1 hp), rfl⟩
  rw [probesI, best_eq, e, ← List.map_take, List.map_map]
  rfl
/-- The outer loop's state: the first i places in order, the others as they were. -/
def InsO (h : Nat → Int × Int) (n i : Nat) (d : List Nat) : Prop :=
  ∃ P : List Nat, P.length = i ∧ Sorted (P.map h) ∧ (∀ p, p ∈ P ↔ p < i) ∧ d = P ++ (List.range n).drop i
/-- The inner loop's state: place i stands at j, behind it what is farther. -/
def InsI (h : Nat → Int × Int) (n i j : Nat) (d : List Nat) : Prop :=
  ∃ L R : List Nat, L.length = j ∧ L.length + R.length = i ∧ Sorted ((L ++ R).map h) ∧ (∀ p, p ∈ L ++ R ↔ p < i) ∧ (∀ r ∈ R, (h i).2 < (h r).2) ∧ d = L ++ i :: (R ++ (List.range n).drop (i + 1))
theorem insO_start (h : Nat → Int × Int) {n : Nat} (hn : 0 < n) : InsO h n 1 (List.range n) := by
  refine ⟨[0], rfl, List.pairwise_singleton _ _, fun p => ?_, ?_⟩
  · rw [List.mem_singleton]; omega
  · cases n with
    | zero => omega
    | succ n => rw [List.range_succ_eq_map]; rfl
theorem InsO.inner {h : Nat → Int × Int} {n i : Nat} {d : List Nat} (hi : i < n) (o : InsO h n i d) : InsI h n i i d := by
  obtain ⟨P, h1, h2, h3, rfl⟩ := o
  refine ⟨P, [], h1, by simpa using h1, by simpa using h2, by simpa using h3, by simp, ?_⟩
  rw [List.drop_eq_getElem_cons (by simpa using hi)]
  simp
theorem InsI.len {h : Nat → Int × Int} {n i j : Nat} {d : List Nat} (hi : i < n) (o : InsI h n i j d) : d.length = n ∧ j ≤ i := by
  obtain ⟨L, R, h1, h2, -, -, -, rfl⟩ := o
  simp
  omega
theorem InsO.len {h : Nat → Int × Int} {n i : Nat} {d : List Nat} (hi : i ≤ n) (o : InsO h n i d) : d.length = n := by
  obtain ⟨P, h1, -, -, rfl⟩ := o
  simp
  omega
theorem InsO.below {h : Nat → Int × Int} {n i : Nat} {d : List Nat} (hi : i ≤ n) (o : InsO h n i d) : ∀ p ∈ d, p < n := by
  obtain ⟨P, -, -, h3, rfl⟩ := o
  intro p hp
  rcases List.mem_append.1 hp with hp | hp
  · have := (h3 p).1 hp; omega
  · exact List.mem_range.1 (List.mem_of_mem_drop hp)
theorem InsI.below {h : Nat → Int × Int} {n i j : Nat} {d : List Nat} (hi : i < n) (o : InsI h n i j d) : ∀ p ∈ d, p < n := by
  obtain ⟨L, R, -, -, -, h4, -, rfl⟩ := o
  intro p hp
  rcases List.mem_append.1 hp with hp | hp
  · have := (h4 p).1 (List.mem_append.2 (Or.inl hp)); omega
  · rcases List.mem_cons.1 hp with rfl | hp
    · exact hi
    · rcases List.mem_append.1 hp with hp | hp
      · have := (h4 p).1 (List.mem_append.2 (Or.inr hp)); omega
      · exact List.mem_range.1 (List.mem_of_mem_drop hp)
/-- What stands at j and ahead of it. -/
theorem InsI.at {h : Nat → Int × Int} {n i j : Nat} {d : List Nat} (o : InsI h n i j d) : d[j]? = some i := by
  obtain ⟨L, R, h1, -, -, -, -, rfl⟩ := o
  rw [List.getElem?_append_right (by omega), h1, Nat.sub_self]
  rfl
theorem InsI.swap {h : Nat → Int × Int} {n i j p : Nat} {d : List Nat} (o : InsI h n i (j + 1) d) (hp : d[j]? = some p) (hlt : (h i).2 < (h p).2) : InsI h n i j ((d.set (j + 1) p).set j i) := by
  obtain ⟨L, R, h1, h2, h3, h4, h5, rfl⟩ := o
  obtain ⟨K, z, rfl⟩ : ∃ K z, L = K ++ [z] := ⟨L.dropLast, L.getLast (by intro e; rw [e] at h1; cases h1), (List.dropLast_concat_getLast _).symm⟩
  have hK : K.length = j := by simpa using h1
  have hz : z = p := by
    rw [List.append_assoc, List.getElem?_append_right (by omega), hK, Nat.sub_self] at hp
    simpa using hp
  subst hz
  refine ⟨K, z :: R, hK, ?_, ?_, ?_, ?_, ?_⟩
  · simp at h2 ⊢; omega
  · simpa using h3
  · intro p; rw [← h4 p]; simp
  · intro r hr
    rcases List.mem_cons.1 hr with rfl | hr
    · exact hlt
    · exact h5 r hr
  · rw [List.append_assoc, List.set_append_right _ _ (by omega), List.set_append_right _ _ (by omega), hK, Nat.sub_self, Nat.add_sub_cancel_left]
    rfl
theorem InsI.stop {h : Nat → Int × Int} {n i j : Nat} {d : List Nat} (hf : ∀ p, (h p).1 = (p : Int)) (o : InsI h n i j d) (hs : ∀ p, 0 < j → d[j - 1]? = some p → (h p).2 ≤ (h i).2) : InsO h n (i + 1) d := by
  obtain ⟨L, R, h1, h2, h3, h4, h5, rfl⟩ := o
  have hL : ∀ l ∈ L, bet (h l) (h i) = true := by
    intro l hl
    obtain ⟨K, z, rfl⟩ : ∃ K z, L = K ++ [z] := ⟨L.dropLast, L.getLast (by intro e; rw [e] at hl; cases hl), (List.dropLast_concat_getLast _).symm⟩
    have hj : j = K.length + 1 := by rw [← h1]; simp
    have hz : (h z).2 ≤ (h i).2 := hs z (by omega) (by
      rw [hj, Nat.add_sub_cancel, List.append_assoc, List.getElem?_append_right (Nat.le_refl _), Nat.sub_self]
      rfl)
    have li : l < i := (h4 l).1 (List.mem_append.2 (Or.inl hl))
    have hlz : (h l).2 ≤ (h z).2 := by
      rcases List.mem_append.1 hl with hl | hl
      · have h6 : Sorted ((K ++ [z]).map h) := by rw [List.map_append] at h3; exact (List.pairwise_append.1 h3).1
        rw [List.map_append] at h6
        have := (List.pairwise_append.1 h6).2.2 (h l) (List.mem_map_of_mem hl) (h z) (by simp)
        rw [bet_iff] at this
        omega
      · rw [List.mem_singleton.1 hl]; exact Int.le_refl _
    rw [bet_iff, hf, hf]
    omega
  have hR : ∀ r ∈ R, bet (h i) (h r) = true := fun r hr => by rw [bet_iff]; exact Or.inl (h5 r hr)
  refine ⟨L ++ i :: R, by simp; omega, ?_, fun p => ?_, by simp⟩
  · rw [List.map_append] at h3
    obtain ⟨q1, q2, q3⟩ := List.pairwise_append.1 h3
    rw [List.map_append, List.map_cons]
    refine List.pairwise_append.2 ⟨q1, List.Pairwise.cons (fun y hy => ?_) q2, fun y hy z hz => ?_⟩
    · obtain ⟨r, hr, rfl⟩ := List.mem_map.1 hy
      exact hR r hr
    · rcases List.mem_cons.1 hz with rfl | hz
      · obtain ⟨l, hl, rfl⟩ := List.mem_map.1 hy
        exact hL l hl
      · exact q3 y hy z hz
  · have := h4 p
    rw [List.mem_append] at this
    rw [List.mem_append, List.mem_cons]
    constructor
    · rintro (hp | rfl | hp)
      · have := this.1 (Or.inl hp); omega
      · omega
      · have := this.1 (Or.inr hp); omega
    · intro hp
      by_cases e : p = i
      · exact Or.inr (Or.inl e)
      · rcases this.2 (by omega) with h | h
        · exact Or.inl h
        · exact Or.inr (Or.inr h)
theorem insO_end {h : Nat → Int × Int} {n : Nat} {d : List Nat} (o : InsO h n n d) : Sorted (d.map h) ∧ (∀ p, p ∈ d ↔ p < n) ∧ d.length = n := by
  obtain ⟨P, h1, h2, h3, rfl⟩ := o
  rw [List.drop_eq_nil_of_le (by simp), List.append_nil]
  exact ⟨h2, h3, h1⟩

end Go.Proofs.Ytggnnbdjihihiaa

namespace Go.Proofs.Ytggnnbdjihihiaa
open Go.RowKit

set_option maxHeartbeats 400000 in
theorem toInts_pos (b off cap : Nat) (zs : List Int) (w : World) (hn : zs.length ≤ 1048576) (hc : ∀ j, j < zs.length → w.cell? ⟨b, off + j, none⟩ = some (.int .i64 (zs.getD j 0))) :
    Calls Try.prog 43 #[.slice (some ⟨b, off, none⟩) zs.length cap] w fun e w' => e = .returned (.slice (some ⟨w.heap.size, 0, none⟩) zs.length zs.length) ∧
      w'.ownsRow w.heap.size 2 1 (.slice (some ⟨w.heap.size, 0, none⟩) zs.length zs.length) zs.length (zs.map (Value.int .i64)) ∧ Below w.heap.size w w' := by
  obtain ⟨i0, hi, hz0, hz1, hz2⟩ := info_parts info2
  go_enter Try.func43, Try.ntmps43
  go_wp2_with (at_make; refine wpList_make_full _ rfl _ _ 28 rfl w.heap.size 2 i0 (.int .i64 0) 1 Try.underlying28 hi hz0 hz1 _ _ _ _ zs.length rfl rfl rfl rfl ?c1 ?c2 ?c3 ?_)
  case c1 => rw [hz2]; omega
  case c2 => unfold maxLen; omega
  case c3 => exact Nat.le_refl _
  intro w1 hown1 hgrow1
  have hB1 : Below w.heap.size w w1 := (Below.refl _ _).grown hgrow1 (Nat.le_refl _) (by simp)
  rw [toList_madeCells_one] at hown1
  clear hgrow1 hi hz0 hz1 hz2
  go_wp2
  go_loopw [4] (fun i wr => ∃ k : Nat, k ≤ zs.length ∧ i = .int .i64 k ∧ wr.ownsRow w.heap.size 2 1 (.slice (some ⟨w.heap.size, 0, none⟩) zs.length zs.length) zs.length ((zs.take k).map (Value.int .i64) ++ List.replicate (zs.length - k) (Value.int .i64 0)) ∧ Below w.heap.size w wr)
    (fun i _ => zs.length - (intOf i).toNat)
  case atStart => exact ⟨0, Nat.zero_le _, rfl, by simpa using hown1, hB1⟩
  case round =>
    obtain ⟨k, hk, rfl, hown, hB⟩ := hrel
    clear hown1 hB1
    by_cases hlt : k < zs.length
    · have hcx : wr.cell? ⟨b, off + k, none⟩ = some (.int .i64 (zs.getD k 0)) := (hB.cell (World.block_lt_of_cell? _ _ (hc k hlt))).trans (hc k hlt)
      have hcd : ∃ u, wr.cell? ⟨w.heap.size, k, none⟩ = some u := by
        rw [hown.cellAt k (by omega)]
        exact ⟨_, List.getElem?_eq_getElem (by simp; omega)⟩
      obtain ⟨u, hcd⟩ := hcd
      have hfz := hown.frozenAt k
      have hst := hown.stored k (.int .i64 (zs.getD k 0))
      rw [set_fill zs k hlt] at hst
      have R := hst.1
      have hB2 : Below w.heap.size w (wr.setCell ⟨w.heap.size, k, none⟩ (.int .i64 (zs.getD k 0))) := hB.setCell (by simp) _
      clear hst hown hB
      go_wp2
      go_roundw
      case rel => exact ⟨k + 1, by omega, by go_num, by simpa [hlt] using R, by simpa [hlt] using hB2⟩
      case measure => simp [intOf]; omega
    · have hk2 : k = zs.length := by omega
      go_wp2
      go_ret
      subst hk2
      exact ⟨rfl, by simpa using hown, hB⟩

set_option maxHeartbeats 400000 in
theorem toInts_zero (ao : Option Addr) (cap : Nat) (w : World) :
    Calls Try.prog 43 #[.slice ao 0 cap] w fun e w' => e = .returned (.slice (some ⟨w.heap.size, 0, none⟩) 0 0) ∧
      w'.ownsRow w.heap.size 2 1 (.slice (some ⟨w.heap.size, 0, none⟩) 0 0) 0 [] ∧ Below w.heap.size w w' := by
  obtain ⟨i0, hi, hz0, hz1, hz2⟩ := info_parts info2
  go_enter Try.func43, Try.ntmps43
  go_wp2_with (at_make; refine wpList_make_full _ rfl _ _ 28 rfl w.heap.size 2 i0 (.int .i64 0) 1 Try.underlying28 hi hz0 hz1 _ _ _ _ 0 rfl rfl rfl rfl ?c1 ?c2 ?c3 ?_)
  case c1 => rw [hz2]; omega
  case c2 => unfold maxLen; omega
  case c3 => exact Nat.le_refl _
  intro w1 hown1 hgrow1
  have hB1 : Below w.heap.size w w1 := (Below.refl _ _).grown hgrow1 (Nat.le_refl _) (by simp)
  clear hgrow1 hi hz0 hz1 hz2
  rw [toList_madeCells_one] at hown1
  go_wp2
  refine wp_loop_rounds 1 ?_
  rw [rounds_succ]
  go_wp2
  go_ret
  exact ⟨rfl, by simpa using hown1, hB1⟩

/-- toInt64S: a new slice of the same numbers. -/
theorem toInts (v : Value) (zs : List Int) (w : World) (h : IsInts w v zs) (hn : zs.length ≤ 1048576) :
    Calls Try.prog 43 #[v] w fun e w' => ∃ v', e = .returned v' ∧ v' = .slice (some ⟨w.heap.size, 0, none⟩) zs.length zs.length ∧
      w'.ownsRow w.heap.size 2 1 v' zs.length (zs.map (Value.int .i64)) ∧ IsInts w' v' zs ∧ Below w.heap.size w w' := by
  obtain ⟨ao, cap, rfl, hwf, hc⟩ := h
  by_cases hp : 0 < zs.length
  · obtain ⟨b, off, rfl, hc1⟩ := hc hp
    refine (toInts_pos b off cap zs w hn hc1).mono ?_
    rintro e w' ⟨rfl, ho, hb⟩
    exact ⟨_, rfl, rfl, ho, isInts_owned hwf ho, hb⟩
  · have hz : zs = [] := List.eq_nil_of_length_eq_zero (by omega)
    subst hz
    refine (toInts_zero ao cap w).mono ?_
    rintro e w' ⟨rfl, ho, hb⟩
    exact ⟨_, rfl, rfl, ho, isInts_owned hwf ho, hb⟩

set_option maxHeartbeats 400000 in
theorem eqInts_pos (b off cap b2 off2 cap2 : Nat) (zs : List Int) (w : World) (hn : zs.length ≤ 9223372036854775807) (hc : ∀ j, j < zs.length → w.cell? ⟨b, off + j, none⟩ = some (.int .i64 (zs.getD j 0)))
    (hc2 : ∀ j, j < zs.length → w.cell? ⟨b2, off2 + j, none⟩ = some (.int .i64 (zs.getD j 0))) :
    Calls Try.prog 45 #[.slice (some ⟨b, off, none⟩) zs.length cap, .slice (some ⟨b2, off2, none⟩) zs.length cap2] w fun e w' => e = .returned (.bool true) ∧ Below w.heap.size w w' := by
  go_enter Try.func45, Try.ntmps45
  go_wp2
  go_loopw [5] (fun i wr => ∃ k : Nat, k ≤ zs.length ∧ i = .int .i64 k ∧ Below w.heap.size w wr) (fun i _ => zs.length - (intOf i).toNat)
  case atStart => exact ⟨0, Nat.zero_le _, rfl, Below.refl _ _⟩
  case round =>
    obtain ⟨k, hk, rfl, hB⟩ := hrel
    by_cases hlt : k < zs.length
    · have hcx : wr.cell? ⟨b, off + k, none⟩ = some (.int .i64 (zs.getD k 0)) := (hB.cell (World.block_lt_of_cell? _ _ (hc k hlt))).trans (hc k hlt)
      have hcy : wr.cell? ⟨b2, off2 + k, none⟩ = some (.int .i64 (zs.getD k 0)) := (hB.cell (World.block_lt_of_cell? _ _ (hc2 k hlt))).trans (hc2 k hlt)
      clear hc hc2
      go_wp2
      go_quiet (fail)
      go_wp2
      go_roundw
      case rel => exact ⟨k + 1, by omega, by go_num, below_drewN hB _⟩
      case measure => simp [intOf]; omega
    · go_wp2
      go_ret
      exact ⟨rfl, hB⟩

set_option maxHeartbeats 400000 in
theorem eqInts_zero (ao ao2 : Option Addr) (cap cap2 : Nat) (w : World) :
    Calls Try.prog 45 #[.slice ao 0 cap, .slice ao2 0 cap2] w fun e w' => e = .returned (.bool true) ∧ Below w.heap.size w w' := by
  go_enter Try.func45, Try.ntmps45
  go_wp2
  refine wp_loop_rounds 1 ?_
  rw [rounds_succ]
  go_wp2
  go_ret
  exact ⟨rfl, Below.refl _ _⟩

/-- eqInt64S: two slices of the same numbers are the same. -/
theorem eqIntsBig (v v2 : Value) (zs : List Int) (w : World) (h : IsInts w v zs) (h2 : IsInts w v2 zs) (hn : zs.length ≤ 9223372036854775807) :
    Calls Try.prog 45 #[v, v2] w fun e w' => e = .returned (.bool true) ∧ Below w.heap.size w w' := by
  obtain ⟨ao, cap, rfl, hwf, hc⟩ := h
  obtain ⟨ao2, cap2, rfl, _, hc2⟩ := h2
  by_cases hp : 0 < zs.length
  · obtain ⟨b, off, rfl, hc1⟩ := hc hp
    obtain ⟨b2, off2, rfl, hc3⟩ := hc2 hp
    exact eqInts_pos b off cap b2 off2 cap2 zs w hn hc1 hc3
  · have hz : zs = [] := List.eq_nil_of_length_eq_zero (by omega)
    subst hz
    exact eqInts_zero ao ao2 cap cap2 w
theorem eqInts (v v2 : Value) (zs : List Int) (w : World) (h : IsInts w v zs) (h2 : IsInts w v2 zs) (hn : zs.length ≤ 1048576) :
    Calls Try.prog 45 #[v, v2] w fun e w' => e = .returned (.bool true) ∧ Below w.heap.size w w' := eqIntsBig v v2 zs w h h2 (by omega)

end Go.Proofs.Ytggnnbdjihihiaa

namespace Go.Proofs.Ytggnnbdjihihiaa
open Go.RowKit

/-- Places as cells. -/
def plV (d : List Nat) : List Value := d.map fun p : Nat => Value.int .i64 (p : Int)
theorem plV_len (d : List Nat) : (plV d).length = d.length := by simp [plV]
theorem plV_at {d : List Nat} {j p : Nat} (h : d[j]? = some p) : (plV d)[j]? = some (.int .i64 (p : Int)) := by simp [plV, h]
/-- The first k places are written, the others are 0. -/
def upTo (n k : Nat) : List Nat := (List.range n).map fun i => if i < k then i else 0
theorem upTo_zero (n : Nat) : plV (upTo n 0) = List.replicate n (.int .i64 0) := by
  rw [plV, upTo, List.map_map]
  refine List.ext_getElem (by simp) fun i h1 h2 => by simp
theorem upTo_set {n k : Nat} : (plV (upTo n k)).set k (.int .i64 (k : Int)) = plV (upTo n (k + 1)) := by
  refine List.ext_getElem (by simp [plV, upTo]) fun i h1 h2 => ?_
  rw [List.getElem_set]
  by_cases e : k = i
  · subst e
    simp [plV, upTo]
  · rw [if_neg e]
    simp only [plV, upTo, List.getElem_map, List.getElem_range]
    by_cases h3 : i < k
    · rw [if_pos h3, if_pos (by omega)]
    · rw [if_neg h3, if_neg (by omega)]
theorem upTo_all (n : Nat) : upTo n n = List.range n := by
  refine List.ext_getElem (by simp [upTo]) fun i h1 h2 => ?_
  have : i < n := by simpa using h2
  simp [upTo, this]

set_option maxRecDepth 100000 in
set_option maxHeartbeats 2000000 in
theorem implPlaces (ao : Option Addr) (n cap : Nat) (w : World) (hn : n ≤ 1000) :
    Calls Try.prog 140 #[.slice ao n cap] w fun e w' => e = .returned (.slice (some ⟨w.heap.size, 0, none⟩) n n) ∧ w'.ownsRow w.heap.size 2 1 (.slice (some ⟨w.heap.size, 0, none⟩) n n) n (plV (List.range n)) ∧ Below w.heap.size w w' := by
  obtain ⟨i0, hi, hz0, hz1, hz2⟩ := info_parts info2
  go_enter Try.func140, Try.ntmps140
  go_wp2_with (at_make; refine wpList_make_full _ rfl _ _ 28 rfl w.heap.size 2 i0 (.int .i64 0) 1 Try.underlying28 hi hz0 hz1 _ _ _ _ n rfl rfl rfl rfl ?c1 ?c2 ?c3 ?_)
  case c1 => rw [hz2]; omega
  case c2 => unfold maxLen; omega
  case c3 => exact Nat.le_refl _
  intro w2 hown1 hgrow1
  have hB1 : Below w.heap.size w w2 := (Below.refl _ _).grown hgrow1 (Nat.le_refl _) (by simp)
  rw [toList_madeCells_one] at hown1
  have HO1 := hide hown1
  have HB1 := hide hB1
  clear hgrow1 hi hz0 hz1 hz2 hown1 hB1
  go_wp2_with fail
  go_loopw [10] (fun i wr => ∃ k : Nat, k ≤ n ∧ i = .int .i64 k ∧ wr.ownsRow w.heap.size 2 1 (.slice (some ⟨w.heap.size, 0, none⟩) n n) n (plV (upTo n k)) ∧ Below w.heap.size w wr) (fun i _ => n - (intOf i).toNat)
  case atStart => exact ⟨0, Nat.zero_le _, rfl, by rw [upTo_zero]; exact unhide HO1, unhide HB1⟩
  case round =>
    obtain ⟨k, hk, rfl, hown, hB⟩ := hrel
    clear HO1 HB1
    by_cases hlt : k < n
    · have hcd : ∃ u, wr.cell? ⟨w.heap.size, k, none⟩ = some u := by
        rw [hown.cellAt k (by have : (plV (upTo n k)).length = n * 1 := hown.1; omega)]
        exact ⟨_, List.getElem?_eq_getElem (by simp [plV, upTo]; omega)⟩
      obtain ⟨u, hcd⟩ := hcd
      have hfz := hown.frozenAt k
      have hlg := (hown.lt w.heap.size rfl).2
      have hst := hown.stored k (.int .i64 (k : Int))
      rw [upTo_set] at hst
      have HO3 := hide hst.1
      have HB3 : Hid (Below w.heap.size w (wr.setCell ⟨w.heap.size, k, none⟩ (.int .i64 (k : Int)))) := hB.setCell (by simp) _
      clear hst hown hB
      go_wp2_with fail
      go_roundw
      case rel => exact ⟨k + 1, by omega, by go_num, unhide HO3, unhide HB3⟩
      case measure => simp [intOf]; omega
    · obtain rfl : k = n := by omega
      rw [upTo_all] at hown
      have HO := hide hown
      have HB := hide hB
      clear hown hB
      go_wp2_with fail
      go_ret
      exact ⟨rfl, unhide HO, unhide HB⟩

end Go.Proofs.Ytggnnbdjihihiaa

namespace Go.Proofs.Ytggnnbdjihihiaa
open Go.RowKit Go.Shelf
attribute [local go_sem] Oper.semAt_some

/-- A place of a list. -/
abbrev Pl (m : Nat) := { j : Nat // j < m }
/-- What the iterator reads: the lists' row in the index's box, and the places. -/
structure ItAt (W : World) (Bx bL oL m dL : Nat) (ia : Nat → Option Addr) (il ic : Nat → Nat) (bP oP : Nat) (zs : List (Pl m)) : Prop where
  box : W.cell? ⟨Bx, 1, none⟩ = some (.slice (some ⟨bL, oL, none⟩) m dL)
  lists : ∀ j, j < m → W.cell? ⟨bL, oL + j, none⟩ = some (.slice (ia j) (il j) (ic j))
  places : ∀ i (h : i < zs.length), W.cell? ⟨bP, oP + i, none⟩ = some (.int .i64 (zs[i].1 : Int))
theorem ItAt.keep {W W' : World} {Bx bL oL m dL : Nat} {ia : Nat → Option Addr} {il ic : Nat → Nat} {bP oP : Nat} {zs : List (Pl m)} (h : ItAt W Bx bL oL m dL ia il ic bP oP zs) (h1 : W'.heap[Bx]? = W.heap[Bx]?) (h2 : W'.heap[bL]? = W.heap[bL]?) (h3 : W'.heap[bP]? = W.heap[bP]?) : ItAt W' Bx bL oL m dL ia il ic bP oP zs :=
  ⟨(cell_of_heap h1 1).trans h.box, fun j hj => (cell_of_heap h2 _).trans (h.lists j hj), fun i hi => (cell_of_heap h3 _).trans (h.places i hi)⟩
theorem take_pre {α : Type} {zs : List α} {k : Nat} : zs.take k <+: zs := List.take_prefix k zs

set_option maxRecDepth 100000 in
set_option maxHeartbeats 2000000 in
theorem listsAt1 (l n Bp Bx bL oL m dL cP : Nat) (ia : Nat → Option Addr) (il ic : Nat → Nat) (bP oP : Nat) (zs : List (Pl m)) (N : Nat) (S : Nat → Prop) (hzs : zs.length ≤ 1000)
    (k1 : Bx < N ∧ ¬ S Bx) (k2 : bL < N ∧ ¬ S bL) (k3 : bP < N ∧ ¬ S bP) (J Jx : List (Pl m) → World → Prop)
    (hY : ∀ pre x W, J pre W → pre.length < zs.length → YieldAt Fence.wide (n - 1) Try.prog l #[.agg #[.int .i64 (x.1 : Int), .slice (ia x.1) (il x.1) (ic x.1)]] W fun e W' =>
      (e = .returned (.bool true) ∧ J (pre ++ [x]) W' ∧ KpS N S W W') ∨ (e = .returned (.bool false) ∧ Jx (pre ++ [x]) W'))
    (W : World) (hbp : W.cell? ⟨Bp, 0, none⟩ = some (.slice (some ⟨bP, oP, none⟩) zs.length cP)) (hit : ItAt W Bx bL oL m dL ia il ic bP oP zs) (h0 : J [] W) :
    CallsIn Fence.wide n Try.prog 139 #[.func (.yield l) #[] #[], .pointer (some ⟨Bp, 0, none⟩), .pointer (some ⟨Bx, 0, none⟩)] W fun e W' => (∃ v, e = .returned v) ∧
      ((∃ ys, ys = zs ∧ J ys W') ∨ (∃ pre, pre <+: zs ∧ Jx pre W')) := by
  refine callsIn_of_wp Try.func139 rfl trivial ?_ rfl
  simp only [Try.ntmps139, List.size_toArray, List.length_cons, List.length_nil, Nat.reduceAdd, Nat.reduceSub, Array.replicate_succ, Array.replicate_zero, List.push_toArray, List.append_toArray, List.nil_append, List.cons_append]
  have HIT := hide hit
  clear hit
  gi_wp2
  clear hbp
  gi_loopw [8] (fun i wr => ∃ k : Nat, k ≤ zs.length ∧ i = .int .i64 k ∧ J (zs.take k) wr ∧ ItAt wr Bx bL oL m dL ia il ic bP oP zs) (fun i _ => zs.length - (intOf i).toNat)
  case atStart => exact ⟨0, Nat.zero_le _, rfl, h0, unhide HIT⟩
  case round =>
    obtain ⟨k, hk, rfl, hJ, hit⟩ := hrel
    clear HIT h0
    by_cases hlt : k < zs.length
    · have cb := hit.box
      have cp := hit.places k hlt
      have cl := hit.lists zs[k].1 zs[k].2
      have hx2 := zs[k].2
      have htk : zs.take (k + 1) = zs.take k ++ [zs[k]] := List.take_succ_eq_append_getElem hlt
      obtain ⟨fn, tmps, assign, body, hy, hR⟩ := hY (zs.take k) zs[k] wr hJ (by rw [List.length_take]; omega)
      generalize zs[k] = x at *
      obtain ⟨q, hq⟩ := x
      dsimp only at hy cp cl hx2
      have HTK := hide htk
      have HIT := hide hit
      clear htk hit hJ
      gi_wp2
      refine ⟨fun h => by simp [Fence.wide] at h, hR.mono ?_⟩
      rintro e W3 (⟨rfl, hJ3, hk3⟩ | ⟨rfl, hJx3⟩)
      · have it3 := (unhide HIT).keep (hk3.2 Bx k1.1 k1.2) (hk3.2 bL k2.1 k2.2) (hk3.2 bP k3.1 k3.2)
        clear cb cp cl
        gi_wp2
        go_roundw
        case rel => exact ⟨k + 1, by omega, by go_num, by rw [unhide HTK]; exact hJ3, it3⟩
        case measure => simp [intOf]; omega
      · clear cb cp cl
        gi_wp2
        refine bodyPost_ret (results_none rfl _ _ _) rfl ?_
        exact ⟨⟨_, rfl⟩, .inr ⟨_, by rw [← unhide HTK]; exact take_pre, hJx3⟩⟩
    · obtain rfl : k = zs.length := by omega
      rw [List.take_length] at hJ
      clear hit
      gi_wp2
      go_end0
      exact ⟨⟨_, rfl⟩, .inl ⟨_, rfl, hJ⟩⟩

/-- What listsAt hands back tells the lists at those places, all or the first ones. -/
theorem listsAt_stops (n Bp Bx bL oL m dL cP : Nat) (ia : Nat → Option Addr) (il ic : Nat → Nat) (bP oP : Nat) (zs : List (Pl m)) (N : Nat) (S : Nat → Prop) (hzs : zs.length ≤ 1000)
    (k1 : Bx < N ∧ ¬ S Bx) (k2 : bL < N ∧ ¬ S bL) (k3 : bP < N ∧ ¬ S bP) (w : World) (l0 : Bp < w.heap.size) (hN : N ≤ w.heap.size) (hbp : w.cell? ⟨Bp, 0, none⟩ = some (.slice (some ⟨bP, oP, none⟩) zs.length cP)) (hit : ItAt w Bx bL oL m dL ia il ic bP oP zs) :
    SeqStopsK Fence.wide n Try.prog 139 #[.pointer (some ⟨Bp, 0, none⟩), .pointer (some ⟨Bx, 0, none⟩)] (fun x : Pl m => #[.agg #[.int .i64 (x.1 : Int), .slice (ia x.1) (il x.1) (ic x.1)]]) (KpS N S) (fun ys => ys = zs) (fun pre => pre <+: zs) zs.length w :=
  fun l J Jx W hW _ _ hY h0 => listsAt1 l n Bp Bx bL oL m dL cP ia il ic bP oP zs N S hzs k1 k2 k3 J Jx hY W ((hW.cell (p := ⟨Bp, 0, none⟩) l0).trans hbp) (hit.keep (hW.block _ (by omega)) (hW.block _ (by omega)) (hW.block _ (by omega))) h0

/-- listsAt: the index and the places are boxed; the function value captures the boxes. -/
theorem implListsAt (cv lv : Value) (ap : Option Addr) (np cp : Nat) (w : World) (h1 : ∃ a n c, cv = .slice a n c) (h2 : ∃ a n c, lv = .slice a n c) :
    Calls Try.prog 106 #[.agg #[cv, lv], .slice ap np cp] w fun e w' => e = .returned (.func (.func 139) #[] #[.pointer (some ⟨w.heap.size + 1, 0, none⟩), .pointer (some ⟨w.heap.size, 0, none⟩)]) ∧ w' = (w.alloc (.cells #[cv, lv] 27)).alloc (.cells #[.slice ap np cp] 28) := by
  obtain ⟨a1, n1, c1, rfl⟩ := h1
  obtain ⟨a2, n2, c2, rfl⟩ := h2
  go_enter Try.func106, Try.ntmps106
  go_wp2_with fail
  go_ret
  exact ⟨rfl, rfl⟩

end Go.Proofs.Ytggnnbdjihihiaa

namespace Go.Proofs.Ytggnnbdjihihiaa
open Go.RowKit

theorem one_cell {w : World} {b off k : Nat} {u : Option Value} (h : w.cell? ⟨b, off + k * Lay.tIvfList.n + 0, none⟩ = u) : w.cell? ⟨b, off + k, none⟩ = u := by
  have q : w.cell? ⟨b, off + k * 1 + 0, none⟩ = u := h
  rw [Nat.mul_one, Nat.add_zero] at q
  exact q
structure IvfAt (w : World) (b : Nat) (x : DIvf) (ac : Option Addr) (dc : Nat) (al : Option Addr) (dl : Nat) : Prop where
  c0 : w.cell? ⟨b, 0, none⟩ = some (.slice ac x.centers.length dc)
  c1 : w.cell? ⟨b, 1, none⟩ = some (.slice al x.lists.length dl)
  cens : (Lay.sl Lay.tCenter).Reads w [.slice ac x.centers.length dc] x.centers
  lists : (Lay.sl Lay.tIvfList).Reads w [.slice al x.lists.length dl] x.lists
theorem IvfAt.later {w w' : World} {b : Nat} {x : DIvf} {ac : Option Addr} {dc : Nat} {al : Option Addr} {dl : Nat} (h : IvfAt w b x ac dc al dl) (hb : Below w.heap.size w w') : IvfAt w' b x ac dc al dl :=
  ⟨cell_keep hb h.c0, cell_keep hb h.c1, h.cens.later hb, h.lists.later hb⟩
theorem ivfAt_box {lo : Nat} {w : World} {b T : Nat} {x : DIvf} {ac : Option Addr} {dc : Nat} {al : Option Addr} {dl : Nat} (h : Box lo #[.slice ac x.centers.length dc, .slice al x.lists.length dl] T w b) (h1 : (Lay.sl Lay.tCenter).Reads w [.slice ac x.centers.length dc] x.centers) (h2 : (Lay.sl Lay.tIvfList).Reads w [.slice al x.lists.length dl] x.lists) : IvfAt w b x ac dc al dl :=
  ⟨h.at 0 _ rfl, h.at 1 _ rfl, h1, h2⟩

end Go.Proofs.Ytggnnbdjihihiaa

namespace Go.Proofs.Ytggnnbdjihihiaa
open Go.RowKit

/-- What is wrong with an index, but for what stands in two lists, and how much it is in all. -/
def formF (x : DIvf) : Int := if centersFault x.centers = 0 then (if x.lists.length = x.centers.length then listsFrom x.centers 0 x.lists else 1) else centersFault x.centers
/-- All places. -/
def allPl (m : Nat) : List (Pl m) := (List.range m).pmap (fun j h => ⟨j, h⟩) (fun _ h => List.mem_range.1 h)
theorem allPl_len (m : Nat) : (allPl m).length = m := by simp [allPl]
theorem allPl_at (m i : Nat) (h : i < (allPl m).length) : (allPl m)[i].1 = i := by simp [allPl]
/-- What is wrong with one list. -/
def faultAt (x : DIvf) (p : Nat) : Int := listFault x.centers p (x.lists.getD p ⟨[]⟩).items
theorem faultAt_eq (x : DIvf) {p : Nat} (h : p < x.lists.length) : faultAt x p = listFault x.centers p x.lists[p].items := by
  unfold faultAt
  simp [List.getD, List.getElem?_eq_getElem h]
theorem listsFrom_all {cs : List DCenter} {i : Nat} {ls : List DIvfList} (h : ∀ j (hj : j < ls.length), listFault cs (i + j) ls[j].items = 0) : listsFrom cs i ls = 0 := by
  induction ls generalizing i with
  | nil => rfl
  | cons l ls ih =>
    rw [listsFrom]
    have h0 := h 0 (by simp)
    simp only [Nat.add_zero, List.getElem_cons_zero] at h0
    rw [if_pos h0]
    refine ih fun j hj => ?_
    have := h (j + 1) (by simpa using hj)
    simpa [Nat.add_comm, Nat.add_left_comm] using this
theorem listsFrom_at {cs : List DCenter} {i k : Nat} {ls : List DIvfList} (hk : k < ls.length) (h : ∀ j (hj : j < k), listFault cs (i + j) (ls[j]'(by omega)).items = 0) (hn : listFault cs (i + k) ls[k].items ≠ 0) : listsFrom cs i ls = listFault cs (i + k) ls[k].items := by
  induction ls generalizing i k with
  | nil => simp at hk
  | cons l ls ih =>
    rw [listsFrom]
    match k with
    | 0 =>
      simp only [Nat.add_zero, List.getElem_cons_zero] at hn ⊢
      rw [if_neg hn]
    | k + 1 =>
      have h0 := h 0 (by omega)
      simp only [Nat.add_zero, List.getElem_cons_zero] at h0
      rw [if_pos h0]
      have e : i + (k + 1) = i + 1 + k := by omega
      have hk2 : k < ls.length := by simpa using hk
      rw [List.getElem_cons_succ, e] at hn ⊢
      refine ih hk2 (fun j hj => ?_) hn
      have := h (j + 1) (by omega)
      have e2 : i + (j + 1) = i + 1 + j := by omega
      rw [List.getElem_cons_succ, e2] at this
      exact this
theorem form_all {x : DIvf} (hc : centersFault x.centers = 0) (hl : x.lists.length = x.centers.length) (h : ∀ p ∈ allPl x.lists.length, faultAt x p.1 = 0) : formF x = 0 := by
  rw [formF, if_pos hc, if_pos hl]
  refine listsFrom_all fun j hj => ?_
  have hj2 : j < (allPl x.lists.length).length := by rw [allPl_len]; exact hj
  have := h _ (List.getElem_mem hj2)
  rw [allPl_at, faultAt_eq x hj] at this
  rw [Nat.zero_add]
  exact this
theorem pre_at {m : Nat} {pre : List (Pl m)} {p : Pl m} (h : pre ++ [p] <+: allPl m) : p.1 = pre.length ∧ ∀ j (hj : j < pre.length), pre[j].1 = j := by
  have hlen := h.length_le
  rw [List.length_append, List.length_singleton] at hlen
  have key : ∀ j (hj : j < (pre ++ [p]).length), (pre ++ [p])[j].1 = j := fun j hj => by
    have e := h.getElem hj
    rw [e]
    exact allPl_at m j _
  constructor
  · have := key pre.length (by simp)
    simpa using this
  · intro j hj
    have := key j (by simp; omega)
    rw [List.getElem_append_left hj] at this
    exact this
theorem form_at {x : DIvf} {pre : List (Pl x.lists.length)} {p : Pl x.lists.length} (hc : centersFault x.centers = 0) (hl : x.lists.length = x.centers.length) (hp : pre ++ [p] <+: allPl x.lists.length) (h : ∀ q ∈ pre, faultAt x q.1 = 0) (hn : faultAt x p.1 ≠ 0) : formF x = faultAt x p.1 := by
  obtain ⟨h1, h2⟩ := pre_at hp
  rw [formF, if_pos hc, if_pos hl]
  have hk : p.1 < x.lists.length := p.2
  rw [faultAt_eq x hk] at hn ⊢
  have := listsFrom_at (cs := x.centers) (i := 0) (ls := x.lists) (k := p.1) hk (fun j hj => ?_) (by rw [Nat.zero_add]; exact hn)
  · rw [Nat.zero_add] at this
    exact this
  · have hj2 : j < pre.length := by omega
    have h3 := h _ (List.getElem_mem hj2)
    rw [h2 j hj2, faultAt_eq x (by omega)] at h3
    rw [Nat.zero_add]
    exact h3
/-- The items of list j. -/
def itsL (ls : List DIvfList) (j : Nat) : List DItem := (ls.getD j ⟨[]⟩).items
theorem itsL_eq {ls : List DIvfList} {j : Nat} (h : j < ls.length) : itsL ls j = ls[j].items := by simp [itsL, List.getD, List.getElem?_eq_getElem h]
theorem lists_at {w : World} {al : Option Addr} {dl : Nat} {ls : List DIvfList} (h : (Lay.sl Lay.tIvfList).Reads w [.slice al ls.length dl] ls) (hp : 0 < ls.length) : ∃ (bL oL : Nat) (ia : Nat → Option Addr) (ic : Nat → Nat), al = some ⟨bL, oL, none⟩ ∧ bL < w.heap.size ∧
    ∀ j, j < ls.length → w.cell? ⟨bL, oL + j, none⟩ = some (.slice (ia j) (itsL ls j).length (ic j)) ∧ (Lay.sl Lay.tItem).Reads w [.slice (ia j) (itsL ls j).length (ic j)] (itsL ls j) := by
  obtain ⟨bL, oL, rfl, hbl⟩ := Lay.sl_addr h hp
  have key : ∀ j : Nat, ∃ q : Option Addr × Nat, j < ls.length → w.cell? ⟨bL, oL + j, none⟩ = some (.slice q.1 (itsL ls j).length q.2) ∧ (Lay.sl Lay.tItem).Reads w [.slice q.1 (itsL ls j).length q.2] (itsL ls j) := fun j => by
    by_cases hj : j < ls.length
    · obtain ⟨row, hc, hr⟩ := Lay.row_at h hj
      obtain ⟨a5, d5, rfl, R5⟩ := open_IvfList hr
      refine ⟨(a5, d5), fun _ => ?_⟩
      rw [itsL_eq hj]
      exact ⟨one_cell (hc 0 (by decide)), R5⟩
    · exact ⟨(none, 0), fun h => absurd h hj⟩
  obtain ⟨f, hf⟩ := Classical.axiomOfChoice key
  exact ⟨bL, oL, fun j => (f j).1, fun j => (f j).2, rfl, hbl, hf⟩

end Go.Proofs.Ytggnnbdjihihiaa

namespace Go.Proofs.Ytggnnbdjihihiaa
open Go.RowKit

/-- A list of items of the call's own; its blocks are B. -/
def GrowO (w : World) (lo : Nat) (v : Value) (ys : List DItem) (B : List Nat) : Prop :=
  ∃ rows bls, Grow Lay.tItem w lo 127 v rows ys bls ∧ bls.flatten.Nodup ∧ (∀ b ∈ bls.flatten, lo ≤ b ∧ ∀ o, w.frozen? ⟨b, o, none⟩ = false) ∧ B = v.ownBlock.toList ++ bls.flatten
theorem GrowO.nil (w : World) (lo : Nat) : GrowO w lo (.slice none 0 0) [] [] :=
  ⟨[], [], Grow.nil (World.ownsRow_nil _ _ _ _), by simp, by simp, by simp [Value.ownBlock]⟩
theorem own_kept {w w' : World} {base T sz : Nat} {v : Value} {n : Nat} {xs : List Value} (h : w.ownsRow base T sz v n xs) (hk : ∀ c, v.ownBlock = some c → w'.heap[c]? = w.heap[c]?) : w'.ownsRow base T sz v n xs := by
  refine ⟨h.1, ?_⟩
  rcases h.2 with h2 | ⟨g, cap, cur, hv, hg, hh, r⟩
  · exact Or.inl h2
  · exact Or.inr ⟨g, cap, cur, hv, hg, (hk g (by rw [hv]; rfl)).trans hh, r⟩
theorem GrowO.keep {w w' : World} {lo : Nat} {v : Value} {ys : List DItem} {B : List Nat} (h : GrowO w lo v ys B) (hk : ∀ b ∈ B, w'.heap[b]? = w.heap[b]?) : GrowO w' lo v ys B := by
  obtain ⟨rows, bls, h1, h2, h3, rfl⟩ := h
  have k1 : ∀ b ∈ bls.flatten, w'.heap[b]? = w.heap[b]? := fun b hb => hk b (List.mem_append.2 (Or.inr hb))
  exact ⟨rows, bls, h1.kept (own_kept h1.own fun c hc => hk c (List.mem_append.2 (Or.inl (by rw [hc]; simp)))) k1, h2, fun b hb => ⟨(h3 b hb).1, fun o => (frozen_of_heap (k1 b hb) o).trans ((h3 b hb).2 o)⟩, rfl⟩
theorem GrowO.lt {w : World} {lo : Nat} {v : Value} {ys : List DItem} {B : List Nat} (h : GrowO w lo v ys B) : ∀ b ∈ B, lo ≤ b ∧ b < w.heap.size := by
  obtain ⟨rows, bls, h1, h2, h3, rfl⟩ := h
  intro b hb
  rcases List.mem_append.1 hb with hb | hb
  · exact h1.own.lt b (by simpa using hb)
  · exact ⟨(h3 b hb).1, h1.sub_lt b hb⟩
theorem GrowO.done {w : World} {lo : Nat} {v : Value} {ys : List DItem} {B : List Nat} (h : GrowO w lo v ys B) (hn : ys.length ≤ 1000) : ∃ bl, (Lay.sl Lay.tItem).lies w [v] ys bl ∧ bl.Nodup ∧ (∀ b ∈ bl, ∀ o, w.frozen? ⟨b, o, none⟩ = false) ∧ ∀ b ∈ bl, b ∈ B := by
  obtain ⟨rows, bls, h1, h2, h3, rfl⟩ := h
  have hr := h1.reads (by omega)
  rcases h1.form with ⟨rfl, rfl⟩ | ⟨g, cap, rfl, hg, hgl, hcap⟩
  · exact ⟨[], ⟨none, 0, rfl, ⟨by simp, by simp⟩, Or.inl ⟨rfl, rfl⟩⟩, by simp, by simp, by simp⟩
  · by_cases h0 : ys = []
    · subst h0
      exact ⟨[], ⟨_, cap, rfl, ⟨hcap, by simp⟩, Or.inl ⟨rfl, rfl⟩⟩, by simp, by simp, by simp⟩
    · simp only [if_neg h0] at hr
      rcases hr with hr | ⟨h4, -⟩
      · refine ⟨_, hr, ?_, ?_, ?_⟩
        · rw [List.nodup_cons]
          exact ⟨fun hm => h1.off g hm rfl, h2⟩
        · intro b hm o
          rcases List.mem_cons.1 hm with rfl | hm
          · exact h1.own.frozenAt o
          · exact (h3 b hm).2 o
        · intro b hm
          rcases List.mem_cons.1 hm with rfl | hm
          · simp [Value.ownBlock]
          · exact List.mem_append.2 (Or.inr hm)
      · exact absurd h4 h0

/-- A row with data behind it, in blocks from lo on. -/
theorem subs_own {α : Type} {A : Lay α} {w : World} {rows : List (List Value)} {xs : List α} {base T g cap lo hi : Nat} (hown : w.ownsRow base T A.n (.slice (some ⟨g, 0, none⟩) xs.length cap) xs.length rows.flatten) (h : Lay.Subs A w rows xs lo hi) (hg : g < lo) (hn : xs.length ≤ 9223372036854775807) :
    ∃ bl, (Lay.sl A).Own w [.slice (some ⟨g, 0, none⟩) xs.length cap] xs bl ∧ ∀ b ∈ bl, b = g ∨ lo ≤ b := by
  obtain ⟨bls, hr, hb, hl, hnd, hi', hf⟩ := h
  have hG : Grow A w base T (.slice (some ⟨g, 0, none⟩) xs.length cap) rows xs bls := ⟨hown, hr, hb, hl, fun b hm e => by
    have e2 : g = b := by simpa [Value.ownBlock] using e
    have := (hi' b hm).1
    omega⟩
  have hrd := hG.reads hn
  by_cases h0 : xs = []
  · subst h0
    rcases hG.form with ⟨e, -⟩ | ⟨g2, cap2, e, -, -, hcap⟩
    · cases e
    · exact ⟨[], ⟨⟨_, cap, rfl, ⟨by simp, by simp⟩, Or.inl ⟨rfl, rfl⟩⟩, by simp, by simp⟩, by simp⟩
  · simp only [if_neg h0] at hrd
    rcases hrd with hrd | ⟨h4, -⟩
    · refine ⟨_, ⟨hrd, ?_, ?_⟩, ?_⟩
      · rw [List.nodup_cons]
        exact ⟨fun hm => hG.off g hm rfl, hnd⟩
      · intro b hm o
        rcases List.mem_cons.1 hm with rfl | hm
        · exact hown.frozenAt o
        · exact hf b hm o
      · intro b hm
        rcases List.mem_cons.1 hm with rfl | hm
        · exact Or.inl rfl
        · exact Or.inr (hi' b hm).1
    · exact absurd h4 h0
/-- The row in block GL holds n lists; list i holds f i. -/
def ListsO (w : World) (GL lo n : Nat) (f : Nat → List DItem) : Prop :=
  (GL < lo ∧ lo ≤ w.heap.size) ∧ ∃ (vs : List Value) (B : Nat → List Nat), w.ownsRow GL 147 1 (.slice (some ⟨GL, 0, none⟩) n n) n vs ∧ (∀ i (h : i < vs.length), GrowO w lo vs[i] (f i) (B i)) ∧ ∀ i j, i < vs.length → j < vs.length → i ≠ j → ∀ b ∈ B i, b ∉ B j
theorem ListsO.start {w : World} {GL lo n : Nat} (hlo : GL < lo ∧ lo ≤ w.heap.size) (h : w.ownsRow GL 147 1 (.slice (some ⟨GL, 0, none⟩) n n) n (List.replicate n (.slice none 0 0))) : ListsO w GL lo n fun _ => [] :=
  ⟨hlo, _, fun _ => [], h, fun i hi => by rw [List.getElem_replicate]; exact GrowO.nil _ _, by simp⟩
theorem ListsO.later {w w' : World} {GL lo n : Nat} {f : Nat → List DItem} (h : ListsO w GL lo n f) (hb : Below w.heap.size w w') : ListsO w' GL lo n f := by
  obtain ⟨hlo, vs, B, h1, h2, h3⟩ := h
  exact ⟨⟨hlo.1, Nat.le_trans hlo.2 hb.size⟩, vs, B, own_below h1 hb, fun i hi => (h2 i hi).keep fun b hm => hb.block b ((h2 i hi).lt b hm).2, h3⟩
theorem ListsO.kept {w w' : World} {GL lo n : Nat} {f : Nat → List DItem} (h : ListsO w GL lo n f) (hz : w.heap.size ≤ w'.heap.size) (hk : ∀ b, GL ≤ b → b < w.heap.size → w'.heap[b]? = w.heap[b]?) : ListsO w' GL lo n f := by
  obtain ⟨hlo, vs, B, h1, h2, h3⟩ := h
  exact ⟨⟨hlo.1, Nat.le_trans hlo.2 hz⟩, vs, B, own_kept h1 fun c hc => hk c (h1.lt c hc).1 (h1.lt c hc).2, fun i hi => (h2 i hi).keep fun b hm => hk b (by have := ((h2 i hi).lt b hm).1; have := hlo.1; omega) ((h2 i hi).lt b hm).2, h3⟩
theorem ListsO.congr {w : World} {GL lo n : Nat} {f g : Nat → List DItem} (h : ListsO w GL lo n f) (e : ∀ i, i < n → f i = g i) : ListsO w GL lo n g := by
  obtain ⟨hlo, vs, B, h1, h2, h3⟩ := h
  have hl : vs.length = n * 1 := h1.1
  exact ⟨hlo, vs, B, h1, fun i hi => by rw [← e i (by omega)]; exact h2 i hi, h3⟩
theorem ListsO.open {w : World} {GL lo n : Nat} {f : Nat → List DItem} (h : ListsO w GL lo n f) {p : Nat} (hp : p < n) : ∃ v rows bls, w.cell? ⟨GL, p, none⟩ = some v ∧ w.frozen? ⟨GL, p, none⟩ = false ∧ Grow Lay.tItem w lo 127 v rows (f p) bls ∧
    ∀ (w1 w' : World) (row : List Value) (x : DItem) (bl : List Nat) (g cap : Nat), Below w.heap.size w w1 → Lay.tItem.Own w1 row x bl → (∀ b ∈ bl, w.heap.size ≤ b ∧ b < w1.heap.size) →
      Grow Lay.tItem w' lo 127 (.slice (some ⟨g, 0, none⟩) ((f p).length + 1) cap) (rows ++ [row]) (f p ++ [x]) (bls ++ [bl]) → Ext (fun q => v.ownBlock = some q) w1 w' → (v.ownBlock = some g ∨ w1.heap.size ≤ g) →
      ListsO (w'.setCell ⟨GL, p, none⟩ (.slice (some ⟨g, 0, none⟩) ((f p).length + 1) cap)) GL lo n fun i => if i = p then f p ++ [x] else f i := by
  obtain ⟨hlo, vs, B, h1, h2, h3⟩ := h
  have hl : vs.length = n * 1 := h1.1
  have hp' : p < vs.length := by omega
  obtain ⟨rows, bls, g1, g2, g3, g4⟩ := h2 p hp'
  refine ⟨vs[p], rows, bls, ?_, h1.frozenAt p, g1, ?_⟩
  · rw [h1.cellAt p (by omega)]
    exact List.getElem?_eq_getElem hp'
  intro w1 w' row x bl g cap hb ho hbl hG hE hor
  have hGL := (h1.lt GL rfl).2
  have hlo1 := hlo.1
  have hlo2 := hlo.2
  have hs1 := hb.size
  have hvo : ∀ c, vs[p].ownBlock = some c → c ∈ B p := fun c hc => by rw [g4]; exact List.mem_append.2 (Or.inl (by rw [hc]; simp))
  have hlt : ∀ i (hi : i < vs.length), ∀ b ∈ B i, lo ≤ b ∧ b < w.heap.size := fun i hi => (h2 i hi).lt
  have kp : ∀ b, b < w.heap.size → b ∉ B p → (w'.setCell ⟨GL, p, none⟩ (.slice (some ⟨g, 0, none⟩) ((f p).length + 1) cap)).heap[b]? = w.heap[b]? ∨ b = GL := fun b hb1 hb2 => by
    by_cases e : b = GL
    · exact Or.inr e
    · refine Or.inl ?_
      rw [heap_setCell_other _ _ _ _ (by simpa using e)]
      exact (hE.block b (by omega) fun hq => hb2 (hvo b hq)).trans (hb.block b hb1)
  have hGLp : GL ∉ B p := fun hm => by have := (hlt p hp' GL hm).1; omega
  have hG' : w'.heap[GL]? = w.heap[GL]? := (hE.block GL (by omega) fun hq => hGLp (hvo GL hq)).trans (hb.block GL hGL)
  have o1 : w'.ownsRow GL 147 1 (.slice (some ⟨GL, 0, none⟩) n n) n vs := own_kept h1 fun c hc => by
    obtain rfl : GL = c := by simpa [Value.ownBlock] using hc
    exact hG'
  have o2 := own_setAll o1 p [.slice (some ⟨g, 0, none⟩) ((f p).length + 1) cap]
  have hgw := (hG.own.lt g rfl)
  have hgG : g ≠ GL := by have := hgw.1; omega
  have nb : ∀ b ∈ bl, b ≠ GL ∧ w'.heap[b]? = w1.heap[b]? := fun b hm => ⟨by have := hbl b hm; omega, hE.block b (hbl b hm).2 fun hq => by have := (hlt p hp' b (hvo b hq)).2; have := (hbl b hm).1; omega⟩
  have ob : ∀ b ∈ bls.flatten, b ≠ GL ∧ b < w.heap.size ∧ w'.heap[b]? = w.heap[b]? := fun b hm => by
    have hbB : b ∈ B p := by rw [g4]; exact List.mem_append.2 (Or.inr hm)
    have hbl2 := hlt p hp' b hbB
    exact ⟨by omega, hbl2.2, (hE.block b (by omega) fun hq => g1.off b hm hq).trans (hb.block b hbl2.2)⟩
  refine ⟨⟨hlo.1, by have := hE.size; simp; omega⟩, vs.set p (.slice (some ⟨g, 0, none⟩) ((f p).length + 1) cap), fun i => if i = p then g :: (bls ++ [bl]).flatten else B i, ?_, ?_, ?_⟩
  · have e : setFrom vs p [.slice (some ⟨g, 0, none⟩) ((f p).length + 1) cap] = vs.set p (.slice (some ⟨g, 0, none⟩) ((f p).length + 1) cap) := rfl
    rw [← e]
    exact o2
  · intro i hi
    have hi' : i < vs.length := by simpa using hi
    by_cases e : i = p
    · subst e
      rw [List.getElem_set_self]
      dsimp only
      rw [if_pos rfl, if_pos rfl]
      refine ⟨rows ++ [row], bls ++ [bl], hG.kept (own_kept hG.own fun c hc => ?_) fun b hm => ?_, ?_, fun b hm => ?_, rfl⟩
      · obtain rfl : g = c := by simpa [Value.ownBlock] using hc
        exact heap_setCell_other _ _ _ _ (by simpa using hgG)
      · rw [List.flatten_append] at hm
        rcases List.mem_append.1 hm with hm | hm
        · exact heap_setCell_other _ _ _ _ (by simpa using (ob b hm).1)
        · exact heap_setCell_other _ _ _ _ (by simpa using (nb b (by simpa using hm)).1)
      · rw [List.flatten_append, List.nodup_append]
        refine ⟨g2, by simpa using ho.2.1, fun b hm c hc => ?_⟩
        have h5 := (ob b hm).2.1
        have h6 := (hbl c (by simpa using hc)).1
        omega
      · rw [List.flatten_append] at hm
        rcases List.mem_append.1 hm with hm | hm
        · refine ⟨(g3 b hm).1, fun o => ?_⟩
          rw [World.frozen?_setCell, frozen_of_heap (ob b hm).2.2 o]
          exact (g3 b hm).2 o
        · have hm' : b ∈ bl := by simpa using hm
          refine ⟨by have := (hbl b hm').1; omega, fun o => ?_⟩
          rw [World.frozen?_setCell, frozen_of_heap (nb b hm').2 o]
          exact ho.2.2 b hm' o
    · rw [List.getElem_set_ne (fun h => e h.symm)]
      dsimp only
      rw [if_neg e, if_neg e]
      refine (h2 i hi').keep fun b hm => ?_
      have h5 := hlt i hi' b hm
      rcases kp b h5.2 (h3 i p hi' hp' e b hm) with h6 | h6
      · exact h6
      · omega
  · have key : ∀ i, i < vs.length → i ≠ p → ∀ b ∈ B i, b ∉ g :: (bls ++ [bl]).flatten := fun i hi e b hm hm2 => by
      have h5 := hlt i hi b hm
      rcases List.mem_cons.1 hm2 with rfl | hm2
      · rcases hor with h6 | h6
        · exact h3 i p hi hp' e b hm (hvo b h6)
        · omega
      · rw [List.flatten_append] at hm2
        rcases List.mem_append.1 hm2 with hm2 | hm2
        · exact h3 i p hi hp' e b hm (by rw [g4]; exact List.mem_append.2 (Or.inr hm2))
        · have := (hbl b (by simpa using hm2)).1; omega
    intro i j hi hj hij b hbi hbj
    have hi' : i < vs.length := by simpa using hi
    have hj' : j < vs.length := by simpa using hj
    simp only at hbi hbj
    by_cases e1 : i = p
    · by_cases e2 : j = p
      · omega
      · rw [if_pos e1] at hbi
        rw [if_neg e2] at hbj
        exact key j hj' e2 b hbj hbi
    · rw [if_neg e1] at hbi
      by_cases e2 : j = p
      · rw [if_pos e2] at hbj
        exact key i hi' e1 b hbi hbj
      · rw [if_neg e2] at hbj
        exact h3 i j hi' hj' hij b hbi hbj
theorem nodup_map {is : List Nat} (bl : Nat → List Nat) (h0 : is.Nodup) (h1 : ∀ i ∈ is, (bl i).Nodup) (h2 : ∀ i ∈ is, ∀ j ∈ is, i ≠ j → ∀ b ∈ bl i, b ∉ bl j) : (is.map bl).flatten.Nodup := by
  induction is with
  | nil => simp
  | cons i is ih =>
    rw [List.nodup_cons] at h0
    rw [List.map_cons, List.flatten_cons, List.nodup_append]
    refine ⟨h1 i (by simp), ih h0.2 (fun j hj => h1 j (by simp [hj])) (fun j hj k hk => h2 j (by simp [hj]) k (by simp [hk])), fun b hb c hc e => ?_⟩
    obtain ⟨l, hl, hcl⟩ := List.mem_flatten.1 hc
    obtain ⟨j, hj, rfl⟩ := List.mem_map.1 hl
    exact h2 i (by simp) j (by simp [hj]) (fun e => h0.1 (e ▸ hj)) b hb (e ▸ hcl)
theorem ListsO.done {w : World} {GL lo n : Nat} {f : Nat → List DItem} (h : ListsO w GL lo n f) (hn : n ≤ 1000) (hf : ∀ i, i < n → (f i).length ≤ 1000) : ∃ bl, (Lay.sl Lay.tIvfList).Own w [.slice (some ⟨GL, 0, none⟩) n n] ((List.range n).map fun i => ⟨f i⟩) bl ∧ ∀ b ∈ bl, b = GL ∨ lo ≤ b := by
  obtain ⟨hlo, vs, B, h1, h2, h3⟩ := h
  have hl : vs.length = n * 1 := h1.1
  have hl2 : vs.length = n := by omega
  have hbl : ∀ i : Nat, ∃ bl : List Nat, ∀ h : i < vs.length, (Lay.sl Lay.tItem).lies w [vs[i]] (f i) bl ∧ bl.Nodup ∧ (∀ b ∈ bl, ∀ o, w.frozen? ⟨b, o, none⟩ = false) ∧ ∀ b ∈ bl, b ∈ B i := fun i => by
    by_cases hi : i < vs.length
    · obtain ⟨bl, q⟩ := (h2 i hi).done (hf i (by omega))
      exact ⟨bl, fun _ => q⟩
    · exact ⟨[], fun h => absurd h hi⟩
  obtain ⟨bl, hq⟩ := Classical.axiomOfChoice hbl
  have hmem : ∀ b ∈ ((List.range n).map bl).flatten, ∃ i, ∃ _ : i < vs.length, b ∈ bl i := fun b hb => by
    obtain ⟨l, hl1, hb1⟩ := List.mem_flatten.1 hb
    obtain ⟨i, hi, rfl⟩ := List.mem_map.1 hl1
    exact ⟨i, by rw [hl2]; exact List.mem_range.1 hi, hb1⟩
  have hS : Lay.Subs Lay.tIvfList w (vs.map fun v => [v]) ((List.range n).map fun i => (⟨f i⟩ : DIvfList)) lo w.heap.size := by
    refine ⟨(List.range n).map bl, by simp [hl2], by simp, fun j j1 j2 j3 => ?_, ?_, fun b hb => ?_, fun b hb => ?_⟩
    · have hj : j < vs.length := by simpa using j2
      have := (hq j hj).1
      simp only [List.getElem_map, List.getElem_range]
      exact this
    · refine nodup_map bl List.nodup_range (fun i hi => (hq i (by rw [hl2]; exact List.mem_range.1 hi)).2.1) fun i hi j hj hij b hb1 hb2 => ?_
      have hi' : i < vs.length := by rw [hl2]; exact List.mem_range.1 hi
      have hj' : j < vs.length := by rw [hl2]; exact List.mem_range.1 hj
      exact h3 i j hi' hj' hij b ((hq i hi').2.2.2 b hb1) ((hq j hj').2.2.2 b hb2)
    · obtain ⟨i, hi, hm⟩ := hmem b hb
      exact (h2 i hi).lt b ((hq i hi).2.2.2 b hm)
    · obtain ⟨i, hi, hm⟩ := hmem b hb
      exact (hq i hi).2.2.1 b hm
  have hflat : (vs.map fun v => [v]).flatten = vs := by
    clear h1 h2 h3 hq hmem hS hl hl2 hbl
    induction vs with
    | nil => rfl
    | cons v vs ih => rw [List.map_cons, List.flatten_cons, ih]; rfl
  have hlen : ((List.range n).map fun i => (⟨f i⟩ : DIvfList)).length = n := by simp
  have hown : w.ownsRow GL 147 1 (.slice (some ⟨GL, 0, none⟩) ((List.range n).map fun i => (⟨f i⟩ : DIvfList)).length n) ((List.range n).map fun i => (⟨f i⟩ : DIvfList)).length (vs.map fun v => [v]).flatten := by rw [hflat, hlen]; exact h1
  obtain ⟨bl2, q1, q2⟩ := subs_own (A := Lay.tIvfList) hown hS hlo.1 (by rw [hlen]; omega)
  rw [hlen] at q1
  exact ⟨bl2, q1, q2⟩

end Go.Proofs.Ytggnnbdjihihiaa

namespace Go.Proofs.Ytggnnbdjihihiaa
open Go.RowKit

/-- The cells of placed lists. -/
def cellsP {m : Nat} (ia : Nat → Option Addr) (il ic : Nat → Nat) (zs : List (Pl m)) : List Value := (zs.map fun y => [Value.int .i64 (y.1 : Int), Value.slice (ia y.1) (il y.1) (ic y.1)]).flatten
theorem cellsP_snoc {m : Nat} (ia : Nat → Option Addr) (il ic : Nat → Nat) (zs : List (Pl m)) (y : Pl m) : cellsP ia il ic (zs ++ [y]) = cellsP ia il ic zs ++ [Value.int .i64 (y.1 : Int), Value.slice (ia y.1) (il y.1) (ic y.1)] := by simp [cellsP]
theorem own_grown {A B : World} {row : Option Nat} (h : A.grownBy B row) {n : Nat} (hr : ∀ r, row = some r → n ≤ r ∧ ∃ o : Obj, A.heap[r]? = some o ∧ o.isCells = false) {base T sz : Nat} {v : Value} {k : Nat} {xs : List Value} (ho : A.ownsRow base T sz v k xs) : B.ownsRow base T sz v k xs := by
  refine ⟨ho.1, ?_⟩
  rcases ho.2 with h2 | ⟨g, cap, cur, hv, hg, hh, r⟩
  · exact Or.inl h2
  · exact Or.inr ⟨g, cap, cur, hv, hg, grown_cells h hr hh (Or.inr rfl), r⟩
theorem own_cells {A : World} {base T sz : Nat} {v : Value} {k : Nat} {xs : List Value} (ho : A.ownsRow base T sz v k xs) {g : Nat} (hg : v.ownBlock = some g) {o : Obj} (hb : A.heap[g]? = some o) : o.isCells = true := by
  rcases ho.2 with ⟨rfl, -⟩ | ⟨g2, cap, cur, rfl, -, hh, -⟩
  · cases hg
  · have e : g2 = g := Option.some.inj hg
    rw [e] at hh
    rw [hh] at hb
    cases hb
    rfl
theorem own_form {A : World} {base T sz : Nat} {v : Value} {k : Nat} {xs : List Value} (ho : A.ownsRow base T sz v k xs) : ∃ a c, v = .slice a k c := by
  rcases ho.2 with ⟨rfl, rfl⟩ | ⟨g, cap, cur, rfl, -⟩
  · exact ⟨none, 0, rfl⟩
  · exact ⟨_, cap, rfl⟩
theorem listIn_op {P : Program} {ops : Array Oper} {Q : Exit → Act → World → Prop} {l n : Nat} {o : Oper} {rest : List Oper} {a : Act} {w : World} (hg : o.guard = none) (hd : noDefer o = true) (h : o.wp P a w (wpListIn (Fence.wide.inRound l) n P ops Q rest) Q) : wpListIn (Fence.wide.inRound l) n P ops Q (o :: rest) a w := by
  have hw : Region.wanted o (yielded ops a.tmps) = true := by simp [Region.wanted, hg]
  unfold wpListIn
  rw [if_pos hw]
  exact wp_in l n hd h

end Go.Proofs.Ytggnnbdjihihiaa

namespace Go.Proofs.Ytggnnbdjihihiaa
open Go.RowKit Go.Shelf
attribute [local go_sem] Oper.semAt_some

theorem infoPl : (Try.prog.info? 98).map (fun i => (i.zero, i.size, i.bytes)) = some (some (.agg #[.int .i64 0, .slice none 0 0]), 2, 32) := by kernel_rfl

set_option maxRecDepth 100000 in
set_option maxHeartbeats 8000000 in
theorem firstOfC {m : Nat} (zs : List (Pl m)) (ia : Nat → Option Addr) (il ic : Nat → Nat) (lb : Array Value) (n : Nat) (w : World) (hn : n ≤ 6) (hz : zs.length ≤ 6)
    (hseq : SeqStopsK Fence.wide 8 Try.prog 139 lb (fun x : Pl m => #[.agg #[.int .i64 (x.1 : Int), .slice (ia x.1) (il x.1) (ic x.1)]]) (KpS w.heap.size (fun _ => False)) (fun ys => ys = zs) (fun pre => pre <+: zs) zs.length w) :
    Calls Try.prog 105 #[.func (.func 139) #[] lb, .int .i64 (n : Int)] w fun e w' => ∃ v, e = .returned v ∧ w'.ownsRow w.heap.size 98 2 v (zs.take n).length (cellsP ia il ic (zs.take n)) ∧ Below w.heap.size w w' := by
  have nb : Below w.heap.size w ((w.alloc (.cells #[.int .i64 (n : Int)] 2)).alloc (.cells #[.slice none 0 0] 95)) := ((Below.refl _ _).alloc (Nat.le_refl _) _).alloc (by simp) _
  have bN : Box w.heap.size #[.int .i64 (n : Int)] 2 ((w.alloc (.cells #[.int .i64 (n : Int)] 2)).alloc (.cells #[.slice none 0 0] 95)) w.heap.size := (newBox (Nat.le_refl _)).grow _
  have bF : Box w.heap.size #[.slice none 0 0] 95 ((w.alloc (.cells #[.int .i64 (n : Int)] 2)).alloc (.cells #[.slice none 0 0] 95)) (w.heap.size + 1) := newBoxAt (by omega) (by simp)
  obtain ⟨i0, hi0, hz0, hz1, hz2⟩ := info_parts infoPl
  have HNB := hide nb
  refine (callsIn_wide (n := 9)).1 ?_
  refine callsIn_of_wp_marks Try.func105 rfl trivial ?_ rfl
  refine wpIn_wide.2 ?_
  simp only [Try.ntmps105, List.size_toArray, List.length_cons, List.length_nil, Nat.reduceAdd, Nat.reduceSub, Array.replicate_succ, Array.replicate_zero, List.push_toArray, List.append_toArray, List.nil_append, List.cons_append]
  go_wp2_with fail
  generalize (w.alloc (.cells #[.int .i64 (n : Int)] 2)).alloc (.cells #[.slice none 0 0] 95) = WL at *
  have hlw : w.heap.size + 1 < WL.heap.size := bF.lt
  refine wpIn_wide.1 (wpIn_rangeFunc_ownH (F := Fence.wide) (n := 9) rfl (by decide) (gf := 139) (lb := lb) rfl trivial (enters_of Try.func139 (by kernel_rfl) rfl)
    hseq KpS.trans (fun W l _ o' hl _ _ _ => KpS.put _ W l o' (by omega)) (unhide HNB) (fun _ => rfl)
    (fun pre W => (w.heap.size ≤ W.heap.size ∧ pre.length ≤ n) ∧ Box w.heap.size #[.int .i64 (n : Int)] 2 W w.heap.size ∧ (∃ v, Box w.heap.size #[v] 95 W (w.heap.size + 1) ∧ W.ownsRow (w.heap.size + 2) 98 2 v pre.length (cellsP ia il ic pre)) ∧ Below w.heap.size w W)
    (fun c pre W => c = .exit 0 ∧ ∃ pre' p v, pre = pre' ++ [p] ∧ pre'.length = n ∧ Box w.heap.size #[v] 95 W (w.heap.size + 1) ∧ W.ownsRow (w.heap.size + 2) 98 2 v pre'.length (cellsP ia il ic pre') ∧ Below w.heap.size w W)
    (fun s A B row hs hg hr => by
      obtain ⟨⟨q1, q2⟩, q3, ⟨v, q4, q5⟩, q6⟩ := hs
      exact ⟨⟨Nat.le_trans q1 hg.size, q2⟩, box_grown hg hr q3, ⟨v, box_grown hg hr q4, own_grown hg hr q5⟩, below_grown hg hr q6 (by omega) (Nat.le_refl _)⟩)
    (fun c s A B row hs hg hr => by
      obtain ⟨rfl, pre', p, v, rfl, q1, q4, q5, q6⟩ := hs
      exact ⟨rfl, pre', p, v, rfl, q1, box_grown hg hr q4, own_grown hg hr q5, below_grown hg hr q6 (by omega) (Nat.le_refl _)⟩)
    ⟨⟨(unhide HNB).size, Nat.zero_le _⟩, bN, ⟨_, bF, World.ownsRow_nil _ _ _ _⟩, unhide HNB⟩
    (fun y a' W => ∃ Bo, Box (w.heap.size + 2) #[.int .i64 (y.1 : Int), .slice (ia y.1) (il y.1) (ic y.1)] 98 W Bo ∧ a' = { tmps := #[.func (.func 139) #[] lb, .int .i64 (n : Int), undef, .pointer (some ⟨w.heap.size, 0, none⟩), .slice none 0 0, .pointer (some ⟨w.heap.size + 1, 0, none⟩), .pointer (some ⟨Bo, 0, none⟩), .func (.func 139) #[] lb, .agg #[.int .i64 (y.1 : Int), .slice (ia y.1) (il y.1) (ic y.1)], undef, undef, undef, undef, undef, undef, undef, undef, undef], defers := [] })
    (fun y a' _ A B row hs hg hr => by
      obtain ⟨Bo, q1, q2⟩ := hs
      exact ⟨Bo, box_grown hg hr q1, q2⟩)
    ?assign ?body ?done ?stop)
  case assign =>
    rintro l pre y W K ⟨⟨hs, hp⟩, b1, ⟨v, b2, ho⟩, hB1⟩ hK
    have hbn : Below W.heap.size W (W.alloc (.cells #[.int .i64 (y.1 : Int), .slice (ia y.1) (il y.1) (ic y.1)] 98)) := (Below.refl _ _).alloc (Nat.le_refl _) _
    have l2 := b2.lt
    gi_wp2
    exact hK _ _ (keepsFrom_below hbn) (KpS.of_below _ hbn hs) ⟨⟨Nat.le_trans hs hbn.size, hp⟩, b1.keep hbn, ⟨v, b2.keep hbn, own_below ho hbn⟩, hB1.trans (hbn.mono hB1.size)⟩ ⟨W.heap.size, newBox (by omega), rfl⟩
  case body =>
    rintro l pre y a' W hl ⟨r, hr⟩ ⟨⟨hs, hp⟩, b1, ⟨v, b2, ho⟩, hB1⟩ ⟨Bo, bO, rfl⟩ hlt
    obtain ⟨a9, c9, rfl⟩ := own_form ho
    have n0 := b1.at 0 _ rfl
    have s0 := b2.at 0 _ rfl
    have sf := b2.soft 0
    have sl := b2.lt
    have o0 := bO.at 0 _ rfl
    have o1 := bO.at 1 _ rfl
    have HB1 := hide b1
    have HB2 := hide b2
    have HBB := hide hB1
    have HO := hide ho
    by_cases hge : n ≤ pre.length
    · have hd : decide ((n : Int) ≤ (pre.length : Int)) = true := by rw [decide_eq_true_iff]; omega
      clear b1 b2 ho hB1 bO hseq
      gi_wp2
      exact ⟨KeepsFrom.refl _ _, rfl, pre, y, _, rfl, by omega, unhide HB2, unhide HO, unhide HBB⟩
    · have hd : decide ((n : Int) ≤ (pre.length : Int)) = false := by rw [decide_eq_false_iff_not]; omega
      clear b1 b2 ho hB1 bO hseq
      gi_wp2_with (gi_at_builtin; refine listIn_op rfl rfl (wp_append_lies _ _ _ 95 rfl (w.heap.size + 2) 98 i0 _ 2 32 Try.underlying95 hi0 hz0 hz1 hz2 rfl (by decide) _ pre.length (cellsP ia il ic pre) rfl ((unhide HO).alloc _) ⟨W.heap.size, 0, none⟩ 1 1 [.int .i64 (y.1 : Int), .slice (ia y.1) (il y.1) (ic y.1)] rfl rfl (World.news_of_block (cs := #[.int .i64 (y.1 : Int), .slice (ia y.1) (il y.1) (ic y.1)]) (fr := (0, 0)) (heap_alloc_new W _)) ?h1c (by decide) ?h63 ?hby ?hbs _ rfl ?_))
      case h1c => simp [Value.oneCell']
      case h63 => unfold maxLen; omega
      case hby => omega
      case hbs => simp; omega
      intro g cap w' h2 h3 _ h5
      have hg := grown_alloc h3
      have E := ext_of_grownBy hg
      have hlo : ∀ k, (Value.slice a9 pre.length c9).ownBlock = some k → w.heap.size + 2 ≤ k := fun k hk => ((unhide HO).lt k hk).1
      have b2' := (unhide HB2).ext E (fun e => by have := hlo _ e; omega)
      have b1' := (unhide HB1).ext E (fun e => by have := hlo _ e; omega)
      have s1 := b2'.at 0 _ rfl
      have sf1 := b2'.soft 0
      have hKF : Hid (KeepsFrom WL.heap.size W (w'.setCell ⟨w.heap.size + 1, 0, none⟩ (.slice (some ⟨g, 0, none⟩) (pre.length + 1) cap))) := (keepsFrom_ext E (fun k o _ hk hnc e => by rw [own_cells (unhide HO) e hk] at hnc; cases hnc)).trans ((KeepsOthers.setCell _ _ _).from _)
      have hKp : Hid (KpS w.heap.size (fun _ => False) W (w'.setCell ⟨w.heap.size + 1, 0, none⟩ (.slice (some ⟨g, 0, none⟩) (pre.length + 1) cap))) := (KpS.of_ext E hs (fun k hk e => by have := hlo k e; omega)).trans ⟨by simp, fun b hb _ => heap_setCell_other _ _ _ _ (by simp; omega)⟩
      have hF2 := hide (b2'.set 0 (.slice (some ⟨g, 0, none⟩) (pre.length + 1) cap))
      have hN2 := hide (b1'.other ⟨w.heap.size + 1, 0, none⟩ (.slice (some ⟨g, 0, none⟩) (pre.length + 1) cap) (by simp))
      have hO2 : Hid ((w'.setCell ⟨w.heap.size + 1, 0, none⟩ (.slice (some ⟨g, 0, none⟩) (pre.length + 1) cap)).ownsRow (w.heap.size + 2) 98 2 (.slice (some ⟨g, 0, none⟩) (pre.length + 1) cap) (pre.length + 1) (cellsP ia il ic pre ++ [.int .i64 (y.1 : Int), .slice (ia y.1) (il y.1) (ic y.1)])) := own_kept h2 fun c hc => heap_setCell_other _ _ _ _ (by have := (h2.lt c hc).1; simp; omega)
      have hB2 : Hid (Below w.heap.size w (w'.setCell ⟨w.heap.size + 1, 0, none⟩ (.slice (some ⟨g, 0, none⟩) (pre.length + 1) cap))) := ((unhide HBB).trans (E.below (unhide HBB).size (fun k hk e => by have := hlo k e; omega))).setCell (by simp) _
      have hsz : w.heap.size ≤ w'.heap.size := Nat.le_trans hs hg.size
      clear h2 h3 h5 hg E b2' b1' hlo n0 s0 sf sl o0 o1
      gi_wp2
      refine ⟨unhide hKF, unhide hKp, ⟨by simp; omega, by simp; omega⟩, unhide hN2, ⟨_, unhide hF2, ?_⟩, unhide hB2⟩
      rw [cellsP_snoc, List.length_append]
      exact unhide hO2
  case done =>
    rintro D xs W hD rfl ⟨⟨hs, hp⟩, b1, ⟨v, b2, ho⟩, hB1⟩ hK
    obtain ⟨a9, c9, rfl⟩ := own_form ho
    have s0 := b2.at 0 _ rfl
    have HBB := hide hB1
    have HO := hide ho
    have HK := hide hK
    clear b1 b2 ho hB1 hseq hK
    go_wp2_with fail
    refine ⟨by simp, .inl ⟨_, _, rfl, run_takeDeferred (unhide HK), ?_⟩⟩
    refine ⟨_, results_tmp rfl _ _ _, _, rfl, ?_, ?_⟩
    · rw [List.take_of_length_le hp]
      exact own_mono (show w.heap.size ≤ w.heap.size + 2 by omega) (own_grown (n := WL.heap.size) (grownBy_putObj' _ D (.deferred none)) (fun r e => by cases e; exact ⟨hD, _, unhide HK, rfl⟩) (unhide HO))
    · exact (unhide HBB).grown (grownBy_putObj' _ D (.deferred none)) (by have := (unhide HBB).size; omega) (fun k e => by cases e; omega)
  case stop =>
    rintro D c pre W hD hpre ⟨rfl, pre', p, v, rfl, q1, q4, q5, q6⟩ hK
    obtain ⟨a9, c9, rfl⟩ := own_form q5
    have s0 := q4.at 0 _ rfl
    have HBB := hide q6
    have HO := hide q5
    have HK := hide hK
    have hpt : zs.take n = pre' := by
      have h1 : pre' <+: zs := (List.prefix_append pre' [p]).trans hpre
      rw [← q1]
      exact (List.prefix_iff_eq_take.1 h1).symm
    have HPT := hide hpt
    clear q1 q4 q5 q6 hseq hK hpt
    gi_wp2
    go_wp2_with fail
    refine ⟨by simp, .inl ⟨_, _, rfl, run_takeDeferred (unhide HK), ?_⟩⟩
    refine ⟨_, results_tmp rfl _ _ _, _, rfl, ?_, ?_⟩
    · rw [unhide HPT]
      exact own_mono (show w.heap.size ≤ w.heap.size + 2 by omega) (own_grown (n := WL.heap.size) (grownBy_putObj' _ D (.deferred none)) (fun r e => by cases e; exact ⟨hD, _, unhide HK, rfl⟩) (unhide HO))
    · exact (unhide HBB).grown (grownBy_putObj' _ D (.deferred none)) (by have := (unhide HBB).size; omega) (fun k e => by cases e; omega)

end Go.Proofs.Ytggnnbdjihihiaa

namespace Go.Proofs.Ytggnnbdjihihiaa
open Go.RowKit

theorem fieldV (a b : Int) (w : World) : (Instr.field 43 (.agg #[.int .i64 a, .int .i64 b]) 1).run Try.prog w = .ok (.int .i64 b) w := by kernel_rfl
def cmpI (a b : Int) : Int := if a < b then -1 else if b < a then 1 else 0

set_option maxHeartbeats 400000 in
theorem nanC (a : Int) (w : World) : Calls Try.prog 153 #[.int .i64 a] w fun e w' => e = .returned (.bool false) ∧ w' = w := by
  have hd : (a != a) = false := by simp
  go_enter Try.func153, Try.ntmps153
  go_wp2_with fail
  go_ret
  exact ⟨rfl, rfl⟩
set_option maxHeartbeats 1000000 in
theorem compareC (a b : Int) (w : World) : Calls Try.prog 143 #[.int .i64 a, .int .i64 b] w fun e w' => e = .returned (.int .i64 (cmpI a b)) ∧ w' = w := by
  generalize hF0 : cmpI a b = F0
  have HF0 := hide hF0
  clear hF0
  go_enter Try.func143, Try.ntmps143
  go_wp2_with fail
  refine (nanC a _).mono ?_
  rintro e w1 ⟨rfl, rfl⟩
  go_wp2_with fail
  refine (nanC b _).mono ?_
  rintro e w1 ⟨rfl, rfl⟩
  by_cases h1 : a < b
  · have hF : F0 = -1 := by rw [← unhide HF0, cmpI, if_pos h1]
    have d1 : decide (a < b) = true := by simpa using h1
    clear h1
    go_wp2_with fail
    go_ret
    exact ⟨by rw [hF]; rfl, rfl⟩
  · have d1 : decide (a < b) = false := by simpa using h1
    by_cases h2 : b < a
    · have hF : F0 = 1 := by rw [← unhide HF0, cmpI, if_neg h1, if_pos h2]
      have d2 : decide (b < a) = true := by simpa using h2
      clear h1 h2
      go_wp2_with fail
      go_ret
      exact ⟨by rw [hF]; rfl, rfl⟩
    · have hF : F0 = 0 := by rw [← unhide HF0, cmpI, if_neg h1, if_neg h2]
      have d2 : decide (b < a) = false := by simpa using h2
      clear h1 h2
      go_wp2_with fail
      go_ret
      exact ⟨by rw [hF]; rfl, rfl⟩

set_option maxRecDepth 100000 in
set_option maxHeartbeats 4000000 in
theorem cmpC (cs : List DCenter) (q : List Int) (ac : Option Addr) (dc : Nat) (aq : Option Addr) (dq Bl Bq p r : Nat) (w : World) (h1 : (Lay.sl Lay.tCenter).Reads w [.slice ac cs.length dc] cs) (h2 : IsInts w (.slice aq q.length dq) q) (hc : centersFault cs = 0) (hq : vecFault q = 0)
    (cl : w.cell? ⟨Bl, 0, none⟩ = some (.slice ac cs.length dc)) (cq : w.cell? ⟨Bq, 0, none⟩ = some (.slice aq q.length dq)) (hp : p < cs.length) (hr : r < cs.length) :
    Calls Try.prog 142 #[.int .i64 (p : Int), .int .i64 (r : Int), .pointer (some ⟨Bl, 0, none⟩), .pointer (some ⟨Bq, 0, none⟩)] w fun e w' => e = .returned (.int .i64 (cmpI (hitAt cs q p).2 (hitAt cs q r).2)) ∧ Below w.heap.size w w' := by
  obtain ⟨b, off, rfl, hbl⟩ := Lay.sl_addr h1 (by omega)
  obtain ⟨row1, k1, r1⟩ := Lay.row_at h1 hp
  obtain ⟨a1, d1, rfl, R1⟩ := open_Center r1
  obtain ⟨row2, k2, r2⟩ := Lay.row_at h1 hr
  obtain ⟨a2, d2, rfl, R2⟩ := open_Center r2
  have HC1 := hide (cen_cell (k1 0 (by decide)))
  have HC2 := hide (cen_cell (k2 0 (by decide)))
  have e1 : (hitAt cs q p).2 = score3 cs[p].vec q := by simp [hitAt, List.getD, List.getElem?_eq_getElem hp]
  have e2 : (hitAt cs q r).2 = score3 cs[r].vec q := by simp [hitAt, List.getD, List.getElem?_eq_getElem hr]
  have HV1 := hide ((centersFault_zero hc).2 cs[p] (List.getElem_mem hp))
  have HV2 := hide ((centersFault_zero hc).2 cs[r] (List.getElem_mem hr))
  rw [e1, e2]
  have HI1 := hide (Lay.ints_reads R1)
  have HI2 := hide (Lay.ints_reads R2)
  have HIQ := hide h2
  have HVQ := hide hq
  have HBL := hide cl
  have HBQ := hide cq
  clear e1 e2 k1 k2 r1 r2 R1 R2 h1 h2 hc hq cl cq
  generalize cs[p] = c1 at *
  generalize cs[r] = c2 at *
  go_enter Try.func142, Try.ntmps142
  go_wp2_with fail
  refine wp_region_noPanic ?_
  refine wp_region_held_drew (S := fun w' => Below w.heap.size w w') (by kernel_rfl) (Below.refl _ _).drew (fun hHeld => ?_)
  generalize w.drew = wD at hHeld ⊢
  refine wpAnyH_take (i := 0) (oi := { dst := some 7, op := Go.Op.load 24 (Go.Operand.tmp 2), type := 24, pos := "l07_ivf.go:51", after := #[], guard := none }) (v := ?vc0) rfl (by kernel_rfl) (by kernel_rfl) (by kernel_rfl) (fun _ _ _ h => h) (Or.inl ⟨by rfl, ?hc0⟩) hHeld ?rc0
  case hc0 =>
    intro wS hSw
    have y0 := (cell_keep hSw (unhide HBL))
    clear hSw
    (try dsimp only at hSw)
    go_simp
    try with_reducible rfl
  case rc0 =>
  simp only [Act.put, List.setIfInBounds_toArray, List.set_cons_zero, List.set_cons_succ]
  refine wpAnyH_take (i := 1) (oi := { dst := some 8, op := Go.Op.move (Go.Operand.tmp 0), type := 2, pos := "l07_ivf.go:51", after := #[], guard := none }) (v := ?vc1) rfl (by kernel_rfl) (by kernel_rfl) (by kernel_rfl) (fun _ _ _ h => h) (Or.inl ⟨by rfl, ?hc1⟩) hHeld ?rc1
  case hc1 =>
    intro wS hSw
    (try dsimp only at hSw)
    go_simp
    try with_reducible rfl
  case rc1 =>
  simp only [Act.put, List.setIfInBounds_toArray, List.set_cons_zero, List.set_cons_succ]
  refine wpAnyH_take (i := 2) (oi := { dst := some 9, op := Go.Op.indexAddr 24 (Go.Operand.tmp 7) (Go.Operand.tmp 8), type := 0, pos := "l07_ivf.go:51", after := #[{ on := 0, ground := Go.Ground.data }, { on := 1, ground := Go.Ground.data }], guard := none }) (v := ?vc2) rfl (by kernel_rfl) (by kernel_rfl) (by kernel_rfl) (fun _ _ _ h => h) (Or.inl ⟨by rfl, ?hc2⟩) hHeld ?rc2
  case hc2 =>
    intro wS hSw
    (try dsimp only at hSw)
    go_simp
    try with_reducible rfl
  case rc2 =>
  simp only [Act.put, List.setIfInBounds_toArray, List.set_cons_zero, List.set_cons_succ]
  refine wpAnyH_take (i := 3) (oi := { dst := some 10, op := Go.Op.fieldAddr 138 (Go.Operand.tmp 9) 0, type := 0, pos := "l07_ivf.go:51", after := #[{ on := 2, ground := Go.Ground.data }], guard := none }) (v := ?vc3) rfl (by kernel_rfl) (by kernel_rfl) (by kernel_rfl) (fun _ _ _ h => h) (Or.inl ⟨by rfl, ?hc3⟩) hHeld ?rc3
  case hc3 =>
    intro wS hSw
    (try dsimp only at hSw)
    go_simp
    try with_reducible rfl
  case rc3 =>
  simp only [Act.put, List.setIfInBounds_toArray, List.set_cons_zero, List.set_cons_succ]
  refine wpAnyH_take (i := 4) (oi := { dst := some 11, op := Go.Op.load 28 (Go.Operand.tmp 10), type := 28, pos := "l07_ivf.go:51", after := #[{ on := 3, ground := Go.Ground.data }], guard := none }) (v := ?vc4) rfl (by kernel_rfl) (by kernel_rfl) (by kernel_rfl) (fun _ _ _ h => h) (Or.inl ⟨by rfl, ?hc4⟩) hHeld ?rc4
  case hc4 =>
    intro wS hSw
    have y0 := (cell_keep hSw (unhide HC1))
    clear hSw
    (try dsimp only at hSw)
    go_simp
    try with_reducible rfl
  case rc4 =>
  simp only [Act.put, List.setIfInBounds_toArray, List.set_cons_zero, List.set_cons_succ]
  refine wpAnyH_take (i := 5) (oi := { dst := some 12, op := Go.Op.load 28 (Go.Operand.tmp 3), type := 28, pos := "l07_ivf.go:51", after := #[], guard := none }) (v := ?vc5) rfl (by kernel_rfl) (by kernel_rfl) (by kernel_rfl) (fun _ _ _ h => h) (Or.inl ⟨by rfl, ?hc5⟩) hHeld ?rc5
  case hc5 =>
    intro wS hSw
    have y0 := (cell_keep hSw (unhide HBQ))
    clear hSw
    (try dsimp only at hSw)
    go_simp
    try with_reducible rfl
  case rc5 =>
  simp only [Act.put, List.setIfInBounds_toArray, List.set_cons_zero, List.set_cons_succ]
  refine wpAnyH_take (i := 8) (oi := { dst := some 15, op := Go.Op.load 24 (Go.Operand.tmp 2), type := 24, pos := "l07_ivf.go:51", after := #[], guard := none }) (v := ?vc8) rfl (by kernel_rfl) (by kernel_rfl) (by kernel_rfl) (fun _ _ _ h => h) (Or.inl ⟨by rfl, ?hc8⟩) hHeld ?rc8
  case hc8 =>
    intro wS hSw
    have y0 := (cell_keep hSw (unhide HBL))
    clear hSw
    (try dsimp only at hSw)
    go_simp
    try with_reducible rfl
  case rc8 =>
  simp only [Act.put, List.setIfInBounds_toArray, List.set_cons_zero, List.set_cons_succ]
  refine wpAnyH_take (i := 9) (oi := { dst := some 16, op := Go.Op.move (Go.Operand.tmp 1), type := 2, pos := "l07_ivf.go:51", after := #[], guard := none }) (v := ?vc9) rfl (by kernel_rfl) (by kernel_rfl) (by kernel_rfl) (fun _ _ _ h => h) (Or.inl ⟨by rfl, ?hc9⟩) hHeld ?rc9
  case hc9 =>
    intro wS hSw
    (try dsimp only at hSw)
    go_simp
    try with_reducible rfl
  case rc9 =>
  simp only [Act.put, List.setIfInBounds_toArray, List.set_cons_zero, List.set_cons_succ]
  refine wpAnyH_take (i := 10) (oi := { dst := some 17, op := Go.Op.indexAddr 24 (Go.Operand.tmp 15) (Go.Operand.tmp 16), type := 0, pos := "l07_ivf.go:51", after := #[{ on := 8, ground := Go.Ground.data }, { on := 9, ground := Go.Ground.data }], guard := none }) (v := ?vc10) rfl (by kernel_rfl) (by kernel_rfl) (by kernel_rfl) (fun _ _ _ h => h) (Or.inl ⟨by rfl, ?hc10⟩) hHeld ?rc10
  case hc10 =>
    intro wS hSw
    (try dsimp only at hSw)
    go_simp
    try with_reducible rfl
  case rc10 =>
  simp only [Act.put, List.setIfInBounds_toArray, List.set_cons_zero, List.set_cons_succ]
  refine wpAnyH_take (i := 11) (oi := { dst := some 18, op := Go.Op.fieldAddr 138 (Go.Operand.tmp 17) 0, type := 0, pos := "l07_ivf.go:51", after := #[{ on := 10, ground := Go.Ground.data }], guard := none }) (v := ?vc11) rfl (by kernel_rfl) (by kernel_rfl) (by kernel_rfl) (fun _ _ _ h => h) (Or.inl ⟨by rfl, ?hc11⟩) hHeld ?rc11
  case hc11 =>
    intro wS hSw
    (try dsimp only at hSw)
    go_simp
    try with_reducible rfl
  case rc11 =>
  simp only [Act.put, List.setIfInBounds_toArray, List.set_cons_zero, List.set_cons_succ]
  refine wpAnyH_take (i := 12) (oi := { dst := some 19, op := Go.Op.load 28 (Go.Operand.tmp 18), type := 28, pos := "l07_ivf.go:51", after := #[{ on := 11, ground := Go.Ground.data }], guard := none }) (v := ?vc12) rfl (by kernel_rfl) (by kernel_rfl) (by kernel_rfl) (fun _ _ _ h => h) (Or.inl ⟨by rfl, ?hc12⟩) hHeld ?rc12
  case hc12 =>
    intro wS hSw
    have y0 := (cell_keep hSw (unhide HC2))
    clear hSw
    (try dsimp only at hSw)
    go_simp
    try with_reducible rfl
  case rc12 =>
  simp only [Act.put, List.setIfInBounds_toArray, List.set_cons_zero, List.set_cons_succ]
  refine wpAnyH_take (i := 13) (oi := { dst := some 20, op := Go.Op.load 28 (Go.Operand.tmp 3), type := 28, pos := "l07_ivf.go:51", after := #[], guard := none }) (v := ?vc13) rfl (by kernel_rfl) (by kernel_rfl) (by kernel_rfl) (fun _ _ _ h => h) (Or.inl ⟨by rfl, ?hc13⟩) hHeld ?rc13
  case hc13 =>
    intro wS hSw
    have y0 := (cell_keep hSw (unhide HBQ))
    clear hSw
    (try dsimp only at hSw)
    go_simp
    try with_reducible rfl
  case rc13 =>
  simp only [Act.put, List.setIfInBounds_toArray, List.set_cons_zero, List.set_cons_succ]
  refine wpAnyH_ready (rs := [6]) (by kernel_rfl) (by simp) ?_
  refine AllReadyH.cons (o := { dst := some 13, op := Go.Op.call { callee := Go.Callee.value (Go.Operand.func 114), args := #[Go.Operand.tmp 11, Go.Operand.tmp 12], argTypes := #[28, 28] }, type := 43, pos := "l07_ivf.go:51", after := #[{ on := 4, ground := Go.Ground.data }, { on := 5, ground := Go.Ground.data }], guard := none }) rfl (fun K hK => ?_) AllReadyH.nil
  go_simp
  go_at_call 114
  refine (implScore3 _ _ _ _ _ ((unhide HI1).later hHeld) ((unhide HIQ).later hHeld) (unhide HV1) (unhide HVQ)).mono ?_
  rintro e w3 ⟨rfl, hb3⟩
  try go_wp2_with fail
  refine hK.out _ _ (hHeld.trans (hb3.mono hHeld.size)) (fun hHeld => ?_)
  clear hK K
  try simp only [Act.put, List.setIfInBounds_toArray, List.set_cons_zero, List.set_cons_succ]
  refine wpAnyH_take (i := 7) (oi := { dst := some 14, op := Go.Op.field 43 (Go.Operand.tmp 13) 1, type := 2, pos := "l07_ivf.go:51", after := #[{ on := 6, ground := Go.Ground.data }], guard := none }) (v := ?vc7) rfl (by kernel_rfl) (by kernel_rfl) (by kernel_rfl) (fun _ _ _ h => h) (Or.inl ⟨by rfl, ?hc7⟩) hHeld ?rc7
  case hc7 =>
    intro wS hSw
    have hfl := fieldV 0 (score3 c1.vec q) wS
    (try dsimp only at hSw)
    go_simp
    try with_reducible rfl
  case rc7 =>
  simp only [Act.put, List.setIfInBounds_toArray, List.set_cons_zero, List.set_cons_succ]
  refine wpAnyH_ready (rs := [14]) (by kernel_rfl) (by simp) ?_
  refine AllReadyH.cons (o := { dst := some 21, op := Go.Op.call { callee := Go.Callee.value (Go.Operand.func 114), args := #[Go.Operand.tmp 19, Go.Operand.tmp 20], argTypes := #[28, 28] }, type := 43, pos := "l07_ivf.go:51", after := #[{ on := 12, ground := Go.Ground.data }, { on := 13, ground := Go.Ground.data }, { on := 6, ground := Go.Ground.chain }], guard := none }) rfl (fun K hK => ?_) AllReadyH.nil
  go_simp
  go_at_call 114
  refine (implScore3 _ _ _ _ _ ((unhide HI2).later hHeld) ((unhide HIQ).later hHeld) (unhide HV2) (unhide HVQ)).mono ?_
  rintro e w4 ⟨rfl, hb4⟩
  try go_wp2_with fail
  refine hK.out _ _ (hHeld.trans (hb4.mono hHeld.size)) (fun hHeld => ?_)
  clear hK K
  try simp only [Act.put, List.setIfInBounds_toArray, List.set_cons_zero, List.set_cons_succ]
  refine wpAnyH_take (i := 15) (oi := { dst := some 22, op := Go.Op.field 43 (Go.Operand.tmp 21) 1, type := 2, pos := "l07_ivf.go:51", after := #[{ on := 14, ground := Go.Ground.data }], guard := none }) (v := ?vc15) rfl (by kernel_rfl) (by kernel_rfl) (by kernel_rfl) (fun _ _ _ h => h) (Or.inl ⟨by rfl, ?hc15⟩) hHeld ?rc15
  case hc15 =>
    intro wS hSw
    have hfl := fieldV 0 (score3 c2.vec q) wS
    (try dsimp only at hSw)
    go_simp
    try with_reducible rfl
  case rc15 =>
  simp only [Act.put, List.setIfInBounds_toArray, List.set_cons_zero, List.set_cons_succ]
  refine wpAnyH_ready (rs := [16]) (by kernel_rfl) (by simp) ?_
  refine AllReadyH.cons (o := { dst := some 23, op := Go.Op.call { callee := Go.Callee.value (Go.Operand.func 143), args := #[Go.Operand.tmp 14, Go.Operand.tmp 22], argTypes := #[2, 2] }, type := 3, pos := "l07_ivf.go:51", after := #[{ on := 7, ground := Go.Ground.data }, { on := 15, ground := Go.Ground.data }, { on := 14, ground := Go.Ground.chain }], guard := none }) rfl (fun K hK => ?_) AllReadyH.nil
  go_simp
  go_at_call 143
  refine (compareC _ _ _).mono ?_
  rintro e w5 ⟨rfl, rfl⟩
  try go_wp2_with fail
  refine hK.out _ _ hHeld (fun hHeld => ?_)
  clear hK K
  try simp only [Act.put, List.setIfInBounds_toArray, List.set_cons_zero, List.set_cons_succ]
  refine wpAnyH_take (i := 17) (oi := { dst := some 6, op := Go.Op.assign (Go.Operand.tmp 23), type := 3, pos := "l07_ivf.go:51", after := #[{ on := 16, ground := Go.Ground.data }, { on := 16, ground := Go.Ground.chain }, { on := 0, ground := Go.Ground.phase }, { on := 1, ground := Go.Ground.phase }, { on := 2, ground := Go.Ground.phase }, { on := 3, ground := Go.Ground.phase }, { on := 4, ground := Go.Ground.phase }, { on := 5, ground := Go.Ground.phase }, { on := 6, ground := Go.Ground.phase }, { on := 7, ground := Go.Ground.phase }, { on := 8, ground := Go.Ground.phase }, { on := 9, ground := Go.Ground.phase }, { on := 10, ground := Go.Ground.phase }, { on := 11, ground := Go.Ground.phase }, { on := 12, ground := Go.Ground.phase }, { on := 13, ground := Go.Ground.phase }, { on := 14, ground := Go.Ground.phase }, { on := 15, ground := Go.Ground.phase }, { on := 16, ground := Go.Ground.phase }], guard := none }) (v := ?vc17) rfl (by kernel_rfl) (by kernel_rfl) (by kernel_rfl) (fun _ _ _ h => h) (Or.inl ⟨by rfl, ?hc17⟩) hHeld ?rc17
  case hc17 =>
    intro wS hSw
    (try dsimp only at hSw)
    go_simp
    try with_reducible rfl
  case rc17 =>
  simp only [Act.put, List.setIfInBounds_toArray, List.set_cons_zero, List.set_cons_succ]
  refine wpAnyH_done (by kernel_rfl) ?_ _
  refine NoPanic.normal ?_
  have HB := hide hHeld
  clear hHeld
  go_wp2_with fail
  go_ret
  exact ⟨rfl, unhide HB⟩

end Go.Proofs.Ytggnnbdjihihiaa

namespace Go.Proofs.Ytggnnbdjihihiaa
open Go.RowKit

theorem implId (v : Int) (w : World) :
    Calls Try.prog 73 #[.int .i64 v] w fun e w' => e = .returned (.bool (decide (1 ≤ v) && decide (v ≤ 999))) ∧ w' = w := by
  by_cases h1 : 1 ≤ v
  · have d1 : decide (1 ≤ v) = true := by simpa using h1
    rw [d1]
    cases d2 : decide (v ≤ 999) <;>
    · go_enter Try.func73, Try.ntmps73
      go_wp2_with fail
      go_ret
      exact ⟨rfl, rfl⟩
  · have d1 : decide (1 ≤ v) = false := by simpa using h1
    rw [d1]
    go_enter Try.func73, Try.ntmps73
    go_wp2_with fail
    go_ret
    exact ⟨rfl, rfl⟩

end Go.Proofs.Ytggnnbdjihihiaa
