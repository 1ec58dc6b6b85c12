/-
  Texts of this proof in one: HitEq, HitAdd, HitBest, HitOpsB, SearchPlain, ProbePlain, SortPlain, ImplPlaces, ImplIter, IvfAt.
  Their conditions stand in their theorems.
-/
import Derived.Test.YtfgadegpdknocaaGreatIs07
import Derived.Laws.StructEq
import Derived.Deep.CutRange
import Derived.Test.YtfgadegpdknocaaGreatIs02
import Derived.Test.YtfgadegpdknocaaGreatIs01
import Derived.Test.YtfgadegpdknocaaGreatIs05
import Derived.Test.YtfgadegpdknocaaGreatChecked

namespace Go.Proofs.YtfgadegpdknocaaGreat
open Go.RowKit

theorem eqIn2 (a b c d : Int) (w : World) : (Op.equalIn 10000 66 (.agg #[.int .i64 a, .int .i64 b]) (.agg #[.int .i64 c, .int .i64 d])).run Tryz.prog w = .ok (a == c && b == d) w := by
  have u3 := Tryz.underlying2
  have a3 := Tryz.isAgg2
  have z3 := Tryz.sizeOf2
  have hS : Tryz.prog.underlying 66 = some (.struct (Tryz.prog.fieldsOf 66)) := by kernel_rfl
  have hp : Tryz.prog.stoodInHeld 66 = false := by kernel_rfl
  rw [show (10000 : Nat) = 9999 + 1 from rfl, run_equalIn_agg w 9999 66 _ _ hS hp]
  simp only [Program.fieldsOf, Tryz.underlying66]
  go_simp
  by_cases h1 : a = c <;> by_cases h2 : b = d <;> simp [h1, h2]
theorem neq2 (a b c d : Int) (w : World) : (binOp .neq 66 (.agg #[.int .i64 a, .int .i64 b]) (.agg #[.int .i64 c, .int .i64 d])).run Tryz.prog w = .ok (.bool (!(a == c && b == d))) w := by
  simp only [binOp]
  simp only [Op.equal, Op.maxDepth]
  simp [eqIn2]
theorem eql2 (a b c d : Int) (w : World) : (binOp .eql 66 (.agg #[.int .i64 a, .int .i64 b]) (.agg #[.int .i64 c, .int .i64 d])).run Tryz.prog w = .ok (.bool (a == c && b == d)) w := by
  simp only [binOp]
  simp only [Op.equal, Op.maxDepth]
  simp [eqIn2]

end Go.Proofs.YtfgadegpdknocaaGreat

namespace Go.Proofs.YtfgadegpdknocaaGreat
open Go.RowKit

/-- How many hits at the head are better than h. -/
def posOf : List (Int × Int) → Int × Int → Nat
  | [], _ => 0
  | a :: r, h => if bet a h then posOf r h + 1 else 0
theorem posOf_le (hs : List (Int × Int)) (h : Int × Int) : posOf hs h ≤ hs.length := by
  induction hs with
  | nil => simp [posOf]
  | cons a r ih =>
    unfold posOf
    split <;> simp
    omega
theorem ins_pos (hs : List (Int × Int)) (h : Int × Int) : ins hs h = hs.take (posOf hs h) ++ (if hs[posOf hs h]? = some h then [] else [h]) ++ hs.drop (posOf hs h) := by
  induction hs with
  | nil => simp [ins, posOf]
  | cons a r ih =>
    unfold ins posOf
    split
    · simp [ih]
    · simp
      split <;> simp
/-- The test of the model's loop at place k. -/
def goOn (hs : List (Int × Int)) (h : Int × Int) (k : Nat) : Bool := (hs[k]?).any (bet · h)
theorem goOn_true {hs : List (Int × Int)} {h : Int × Int} {k : Nat} (hg : goOn hs h k = true) : k < hs.length ∧ posOf (hs.drop k) h = posOf (hs.drop (k + 1)) h + 1 := by
  unfold goOn at hg
  cases e : hs[k]? with
  | none => rw [e] at hg; simp at hg
  | some q =>
    rw [e] at hg
    refine ⟨at_some e, ?_⟩
    rw [drop_at e]
    simp only [Option.any_some] at hg
    simp [posOf, hg]
theorem goOn_false {hs : List (Int × Int)} {h : Int × Int} {k : Nat} (hg : goOn hs h k = false) : posOf (hs.drop k) h = 0 := by
  unfold goOn at hg
  cases e : hs[k]? with
  | none =>
    have : hs.length ≤ k := by simpa using e
    rw [List.drop_eq_nil_of_le this]
    rfl
  | some q =>
    rw [e] at hg
    rw [drop_at e]
    simp only [Option.any_some] at hg
    simp [posOf, hg]

theorem own_le {w : World} {base T sz g n cap : Nat} {xs : List Value} (h : w.ownsRow base T sz (.slice (some ⟨g, 0, none⟩) n cap) n xs) : n ≤ cap := by
  rcases h.2 with ⟨h0, _⟩ | ⟨g, c, cur, h0, _, _, h1, _⟩
  · simp at h0
  · simp only [Value.slice.injEq] at h0
    obtain ⟨-, -, rfl⟩ := h0
    exact h1
theorem hit_new {w : World} (x y : Int) (h : Wf2 (x, y)) : IsHits (w.alloc (.cells #[.int .i64 x, .int .i64 y] 66)) (.slice (some ⟨w.heap.size, 0, none⟩) 1 1) [(x, y)] := by
  obtain ⟨q0, q1⟩ := new_cells (w := w) (T := 66) (x := .int .i64 x) (y := .int .i64 y)
  refine ⟨_, _, rfl, by simp, ⟨by unfold maxLen; omega, by simp⟩, by simpa using h, fun _ => ⟨w.heap.size, 0, rfl, fun j a b hj => ?_⟩⟩
  cases j with
  | zero =>
    simp at hj
    obtain ⟨rfl, rfl⟩ := hj
    exact ⟨q0, q1⟩
  | succ j => simp at hj

set_option maxRecDepth 100000 in
set_option maxHeartbeats 1000000 in
theorem l2Add_pos (b off cap : Nat) (hs : List (Int × Int)) (x y : Int) (k : Nat) (w : World) (hp : 0 < hs.length) (hn : hs.length ≤ 100000) (hcap : hs.length ≤ cap) (hm : cap ≤ maxLen) (hwf : ∀ p ∈ hs, Wf2 p) (hwh : Wf2 (x, y))
    (hc : ∀ j x y, hs[j]? = some (x, y) → w.cell? ⟨b, off + j * 2, none⟩ = some (.int .i64 x) ∧ w.cell? ⟨b, off + j * 2 + 1, none⟩ = some (.int .i64 y)) :
    Calls Tryz.prog 105 #[.slice (some ⟨b, off, none⟩) hs.length cap, .agg #[.int .i64 x, .int .i64 y], .int .i64 k] w fun e w' => ∃ g cap', e = .returned (.slice (some ⟨g, 0, none⟩) ((ins hs (x, y)).take k).length cap') ∧
      w'.ownsRow w.heap.size 66 2 (.slice (some ⟨g, 0, none⟩) ((ins hs (x, y)).take k).length cap') ((ins hs (x, y)).take k).length (cells2 ((ins hs (x, y)).take k)) ∧ Below w.heap.size w w' := by
  have HH : Hid (∀ W, Below w.heap.size w W → IsHits W (.slice (some ⟨b, off, none⟩) hs.length cap) hs) := fun W hW => IsHits.later ⟨_, _, rfl, hcap, ⟨hm, by simp⟩, hwf, fun _ => ⟨b, off, rfl, hc⟩⟩ hW
  obtain ⟨q0, q1⟩ := new_cells (w := w) (T := 66) (x := .int .i64 x) (y := .int .i64 y)
  have B0 : Below w.heap.size w (w.alloc (.cells #[.int .i64 x, .int .i64 y] 66)) := (Below.refl _ _).alloc (Nat.le_refl _) _
  have HWF := hide hwf
  have HC := hide hc
  clear hwf hc
  go_enter Tryz.func105, Tryz.ntmps105
  go_wp2_with fail
  go_loopw [7] (fun i wr => ∃ j : Nat, j ≤ hs.length ∧ i = .int .i64 j ∧ j + posOf (hs.drop j) (x, y) = posOf hs (x, y) ∧ wr.cell? ⟨w.heap.size, 0, none⟩ = some (.int .i64 x) ∧ wr.cell? ⟨w.heap.size, 1, none⟩ = some (.int .i64 y) ∧ Below w.heap.size w wr) (fun i _ => hs.length - (intOf i).toNat)
  case atStart => exact ⟨0, Nat.zero_le _, rfl, by simp, q0, q1, B0⟩
  case round =>
    obtain ⟨j, hj, rfl, hps, r0, r1, hB⟩ := hrel
    clear q0 q1 B0
    have HPS := hide hps
    have HB := hide hB
    clear hps hB
    go_upto_region 2 with fail
    go_cut [20] from 9 to 22 (fun s20 wx => s20 = .bool (goOn hs (x, y) j) ∧ wx.cell? ⟨w.heap.size, 0, none⟩ = some (.int .i64 x) ∧ wx.cell? ⟨w.heap.size, 1, none⟩ = some (.int .i64 y) ∧ Below w.heap.size w wx)
    case first =>
      by_cases hlt : j < hs.length
      · obtain ⟨x2, y2, hxy⟩ : ∃ x y, hs[j]? = some (x, y) := ⟨hs[j].1, hs[j].2, by simp [hlt]⟩
        have p1 := ((unhide HB).cell (World.block_lt_of_cell? _ _ (unhide HC j x2 y2 hxy).1)).trans (unhide HC j x2 y2 hxy).1
        have p2 := ((unhide HB).cell (World.block_lt_of_cell? _ _ (unhide HC j x2 y2 hxy).2)).trans (unhide HC j x2 y2 hxy).2
        have hgo : goOn hs (x, y) j = bet (x2, y2) (x, y) := by simp [goOn, hxy]
        have HG := hide hgo
        have g1 : decide ((j : Int) < (hs.length : Int)) = true := by simp; omega
        have g3 : (j : Int) < (hs.length : Int) := by omega
        have g5 : (0 : Int) ≤ (j : Int) := by omega
        have LB : Hid (∀ W, Calls Tryz.prog 132 #[.agg #[.int .i64 x2, .int .i64 y2], .agg #[.int .i64 x, .int .i64 y]] W fun e w' => e = .returned (.bool (bet (x2, y2) (x, y))) ∧ Below W.heap.size W w') := fun W => l2Better x2 y2 x y W
        clear hxy hgo HPS HC HWF HH
        go_region_held3 (fun w' => Below wr.heap.size wr w' ∧ w'.cell? ⟨b, off + j * 2, none⟩ = some (.int .i64 x2) ∧ w'.cell? ⟨b, off + j * 2 + 1, none⟩ = some (.int .i64 y2) ∧ w'.cell? ⟨w.heap.size, 0, none⟩ = some (.int .i64 x) ∧ w'.cell? ⟨w.heap.size, 1, none⟩ = some (.int .i64 y))
          (first
            | exact ⟨(Below.refl _ _).drew, p1, p2, r0, r1⟩
            | (refine ⟨below_keep2 ?_ hb2, cell_keep hb2 ?_, cell_keep hb2 ?_, cell_keep hb2 ?_, cell_keep hb2 ?_⟩ <;> (first | assumption | (go_split_ands; assumption)))
            | go_keep)
          (first
            | (go_at_call 132; refine (unhide LB _).mono ?_; rintro e w2 ⟨rfl, hb2⟩))
        go_wp2_with fail
        go_meet
        refine ⟨congrArg Value.bool (unhide HG).symm, ?_, ?_, below_keep2 (unhide HB) ?_⟩ <;> (first | assumption | (go_split_ands; assumption))
      · obtain rfl : j = hs.length := by omega
        have hgo : goOn hs (x, y) hs.length = false := by simp [goOn]
        have HG := hide hgo
        have g1 : decide ((hs.length : Int) < (hs.length : Int)) = false := by simp
        clear hgo HPS HC HWF HH
        go_quiet (fail)
        go_wp2_with fail
        go_meet
        exact ⟨congrArg Value.bool (unhide HG).symm, r0, r1, below_drewN (unhide HB) _⟩
    case rest =>
    obtain ⟨rfl, s0, s1, hBc⟩ := hcut
    clear r0 r1 HB HC
    cases hg : goOn hs (x, y) j with
    | true =>
      obtain ⟨hlt, he⟩ := goOn_true hg
      have HP2 : Hid (j + 1 + posOf (hs.drop (j + 1)) (x, y) = posOf hs (x, y)) := by
        show j + 1 + posOf (hs.drop (j + 1)) (x, y) = posOf hs (x, y)
        have := unhide HPS
        omega
      have HBc := hide hBc
      clear he HPS hg hBc
      go_wp2_with fail
      go_roundw
      case rel => exact ⟨j + 1, by omega, by go_num, unhide HP2, s0, s1, unhide HBc⟩
      case measure => simp [intOf]; omega
    | false =>
      have hpo := goOn_false hg
      have hps := unhide HPS
      rw [hpo, Nat.add_zero] at hps
      have HE := hide hps
      have HBc := hide hBc
      clear hpo hps hg hBc HPS
      have hjc : (j : Int) ≤ (cap : Int) := by omega
      have hsz := World.block_lt_of_cell? _ _ s0
      have ba : Below w.heap.size w (wc.alloc (.cells #[] 66)) := (unhide HBc).alloc (unhide HBc).size _
      have O1 : (wc.alloc (.cells #[] 66)).ownsRow (w.heap.size + 1) 66 2 (.slice (some ⟨wc.heap.size, 0, none⟩) 0 0) 0 (cells2 []) := World.ownsRow_lit wc #[] 0 hsz (by unfold maxLen; omega) rfl
      have I1 := ((unhide HH) _ ba).take j hj
      have hlj : (hs.take j).length = j := by simp; omega
      have HBA := hide ba
      have HL := hide hlj
      have n1 := World.grownBy_alloc wc (.cells #[] 66) none
      have S0 := n1.cell s0 (by simp)
      have S1 := n1.cell s1 (by simp)
      clear ba n1 hlj
      go_wp2_with (at_builtin; refine wpList_append_row rfl _ _ rfl (w.heap.size + 1) wc.heap.size 0 0 [] rfl O1 _ (hs.take j) rfl I1 j ?o1 ?o2 ?o3 ?_)
      case o2 => omega
      case o3 => omega
      intro g1 cp1 w1 O2 G1 A1
      have hg1 := (O2.lt g1 rfl).1
      have b1 : Below w.heap.size w w1 := (unhide HBA).grown G1 (by simp; omega) (fun k hk => by simp at hk; omega)
      have S0' := G1.cell S0 (by simp; omega)
      have S1' := G1.cell S1 (by simp; omega)
      have hsz1 : w.heap.size + 1 ≤ w1.heap.size := by have := G1.size; simp at this; omega
      have HB1 := hide b1
      have HO2 := hide O2
      clear O1 I1 S0 S1 s0 s1 G1 A1 HBA HBc b1 O2 hsz
      go_upto_region 5 with fail
      go_cut [39] from 28 to 38 (fun s39 wx => s39 = .bool (decide (hs[j]? ≠ some (x, y))) ∧ wx.cell? ⟨w.heap.size, 0, none⟩ = some (.int .i64 x) ∧ wx.cell? ⟨w.heap.size, 1, none⟩ = some (.int .i64 y) ∧ wx.ownsRow (w.heap.size + 1) 66 2 (.slice (some ⟨g1, 0, none⟩) j cp1) j (cells2 (hs.take j)) ∧ w.heap.size + 1 ≤ wx.heap.size ∧ Below w.heap.size w wx)
      case first =>
        by_cases hlt : j < hs.length
        · obtain ⟨x2, y2, hxy⟩ : ∃ x y, hs[j]? = some (x, y) := ⟨hs[j].1, hs[j].2, by simp [hlt]⟩
          obtain ⟨_, _, e1, _, _, _, hcc⟩ := unhide HH w1 (unhide HB1)
          simp only [Value.slice.injEq] at e1
          obtain ⟨rfl, -, rfl⟩ := e1
          obtain ⟨_, _, e2, hcc⟩ := hcc hp
          simp only [Option.some.injEq, Addr.mk.injEq, and_true] at e2
          obtain ⟨rfl, rfl⟩ := e2
          obtain ⟨p1, p2⟩ := hcc j x2 y2 hxy
          have hd : decide (hs[j]? ≠ some (x, y)) = (!x2 == x || !y2 == y) := by
            rw [hxy]
            by_cases h1 : x2 = x <;> by_cases h2 : y2 = y <;> simp [h1, h2]
          have HG := hide hd
          have g1 : ((j : Int) == (hs.length : Int)) = false := by simp; omega
          have g3 : (j : Int) < (hs.length : Int) := by omega
          have g5 : (0 : Int) ≤ (j : Int) := by omega
          have hin := eqIn2 x2 y2 x y
          have hne := neq2 x2 y2 x y
          clear hxy hcc hd HWF HH
          go_quiet (fail)
          go_wp2_with fail
          go_meet
          exact ⟨congrArg Value.bool (unhide HG).symm, S0', S1', unhide HO2, hsz1, below_drewN (unhide HB1) _⟩
        · obtain rfl : j = hs.length := by omega
          have hd : decide (hs[hs.length]? ≠ some (x, y)) = true := by simp
          have HG := hide hd
          have g1 : ((hs.length : Int) == (hs.length : Int)) = true := by simp
          clear hd HWF HH
          go_quiet (fail)
          go_wp2_with fail
          go_meet
          exact ⟨congrArg Value.bool (unhide HG).symm, S0', S1', unhide HO2, hsz1, below_drewN (unhide HB1) _⟩
      case rest =>
      obtain ⟨rfl, u0, u1, O3, hsz3, hb3⟩ := hcut
      clear S0' S1' HB1 HO2 hsz1
      have HB3 := hide hb3
      have HO3 := hide O3
      clear hb3 O3
      go_upto_if 39 with fail
      go_cut [8] from 39 to 43 (fun s8 wx => ∃ (g2 cp2 n2 : Nat) (ms : List (Int × Int)), s8 = .slice (some ⟨g2, 0, none⟩) n2 cp2 ∧ ms.length = n2 ∧ n2 ≤ j + 1 ∧ ms = hs.take j ++ (if hs[j]? = some (x, y) then [] else [(x, y)]) ∧ wx.ownsRow (w.heap.size + 1) 66 2 (.slice (some ⟨g2, 0, none⟩) n2 cp2) n2 (cells2 ms) ∧ w.heap.size + 1 ≤ wx.heap.size ∧ Below w.heap.size w wx)
      case first =>
        by_cases hd : hs[j]? = some (x, y)
        · have d1 : decide (hs[j]? ≠ some (x, y)) = false := by simp [hd]
          rw [d1]
          have HD := hide hd
          clear d1 hd HH HWF
          go_wp2_with fail
          go_meet
          exact ⟨g1, cp1, j, hs.take j, rfl, by simp; omega, by omega, by simp [unhide HD], unhide HO3, hsz3, unhide HB3⟩
        · have d1 : decide (hs[j]? ≠ some (x, y)) = true := by simp [hd]
          rw [d1]
          have HD := hide hd
          have O3 := (unhide HO3).alloc (.cells #[.int .i64 x, .int .i64 y] 66)
          have X3 : IsHits (wc.alloc (.cells #[.int .i64 x, .int .i64 y] 66)) (.slice (some ⟨wc.heap.size, 0, none⟩) 1 1) [(x, y)] := hit_new x y hwh
          have b3 : Below w.heap.size w (wc.alloc (.cells #[.int .i64 x, .int .i64 y] 66)) := (unhide HB3).alloc (unhide HB3).size _
          have HB4 := hide b3
          clear d1 hd HH HWF b3
          go_wp2_with (at_builtin; refine wpList_append_row rfl _ _ rfl (w.heap.size + 1) g1 j cp1 (hs.take j) rfl O3 _ [(x, y)] rfl X3 (j + 1) rfl ?o5 ?o6 ?_)
          case o5 => omega
          case o6 => simp; omega
          intro g2 cp2 w2 O4 G2 A2
          have b4 : Below w.heap.size w w2 := (unhide HB4).grown G2 (by simp; omega) (fun k hk => by simp at hk; omega)
          have hs2 : w.heap.size + 1 ≤ w2.heap.size := by have := G2.size; simp at this; omega
          have HO4 := hide O4
          have HB5 := hide b4
          clear O3 X3 G2 A2 O4 b4 HB4
          go_wp2_with fail
          go_meet
          exact ⟨g2, cp2, j + 1, hs.take j ++ [(x, y)], rfl, by simp; omega, by omega, by simp [unhide HD], unhide HO4, hs2, unhide HB5⟩
      case rest =>
      obtain ⟨g2, cp2, n2, ms, rfl, hml, hn2, hms, O5, hsz5, hb5⟩ := hcut
      have I5 := (unhide HH) _ hb5
      have HB5 := hide hb5
      have HO5 := hide O5
      have HM := hide hms
      have HM2 := hide hml
      clear u0 u1 hsz3 HB3 HO3 hb5 hms HH HWF
      have hjl : (j : Int) ≤ (hs.length : Int) := by omega
      have hlc : (hs.length : Int) ≤ (cap : Int) := by omega
      have hld : (hs.drop j).length = hs.length - j := by simp
      have HLD := hide hld
      have HI5 := hide I5
      clear hld I5
      go_upto_region 7 with fail
      go_cut [8] from 44 to 48 (fun s8 wx => ∃ g3 cp3 : Nat, s8 = .slice (some ⟨g3, 0, none⟩) (n2 + (hs.length - j)) cp3 ∧ wx.ownsRow (w.heap.size + 1) 66 2 (.slice (some ⟨g3, 0, none⟩) (n2 + (hs.length - j)) cp3) (n2 + (hs.length - j)) (cells2 (ms ++ hs.drop j)) ∧ Below w.heap.size w wx)
      case first =>
        have hg2 := (O5.lt g2 rfl).1
        have fin : ∀ (g3 cp3 : Nat) (w3 : World), w3.ownsRow (w.heap.size + 1) 66 2 (.slice (some ⟨g3, 0, none⟩) (n2 + (hs.length - j)) cp3) (n2 + (hs.length - j)) (cells2 (ms ++ hs.drop j)) → wc.grownBy w3 (some g2) → Below w.heap.size w w3 := fun g3 cp3 w3 _ G => (unhide HB5).grown G (by omega) (fun k hk => by simp at hk; omega)
        by_cases hjc2 : j = cap
        · have hz : n2 + (hs.length - j) = n2 := by omega
          have hdz : hs.drop j = [] := List.drop_eq_nil_of_le (by omega)
          have HZ := hide hz
          have HDZ := hide hdz
          have hle2 := own_le O5
          clear O5 hz hdz fin
          subst hjc2
          go_wp2_with fail
          go_meet
          exact ⟨g2, cp2, by rw [unhide HZ], by rw [unhide HZ, unhide HDZ, List.append_nil]; exact unhide HO5, unhide HB5⟩
        · have X5 : IsHits wc (.slice (some ⟨b, off + j * 2, none⟩) (hs.length - j) (cap - j)) (hs.drop j) := (unhide HI5).drop j hj _ (fun _ => rfl)
          go_wp2_with (at_builtin; refine wpList_append_row rfl _ _ rfl (w.heap.size + 1) g2 n2 cp2 ms rfl O5 _ (hs.drop j) rfl X5 (n2 + (hs.length - j)) (by rw [unhide HLD]) (by omega) (by omega) ?_)
          intro g3 cp3 w3 O6 G3 A3
          have b6 := fin g3 cp3 w3 O6 G3
          have HO6 := hide O6
          have HB6 := hide b6
          clear O5 O6 G3 A3 b6 fin X5
          go_wp2_with fail
          go_meet
          exact ⟨g3, cp3, rfl, unhide HO6, unhide HB6⟩
      case rest =>
      obtain ⟨g3, cp3, rfl, O7, hb7⟩ := hcut
      have hls : ms ++ hs.drop j = ins hs (x, y) := by
        have he := unhide HE
        have h2 := unhide HM
        subst h2
        rw [ins_pos, ← he]
      have hll : n2 + (hs.length - j) = (ins hs (x, y)).length := by rw [← hls, List.length_append, unhide HM2, unhide HLD]
      rw [hls] at O7
      rw [hll] at O7 ⊢
      have hle := own_le O7
      have hin := ins_len hs (x, y)
      have hlk : ((ins hs (x, y)).take k).length = min k (ins hs (x, y)).length := by simp
      have HO7 := hide (own_mono (Nat.le_succ _) (own_take O7 (min k (ins hs (x, y)).length) (by omega)))
      have HB7 := hide hb7
      have HK := hide hlk
      have e1 : (ins hs (x, y)).take (min k (ins hs (x, y)).length) = (ins hs (x, y)).take k := by rw [← List.take_eq_take_min]
      have HE1 := hide e1
      clear O5 O7 hb7 hls hll hlk e1 HM HE HB5 HO5 HM2 HI5 HLD hml hjl hlc
      generalize (ins hs (x, y)).length = N at *
      go_wp2_with fail
      refine (l1Min (k : Int) (N : Int) _).mono ?_
      rintro e w9 ⟨rfl, rfl⟩
      have e2 : min (k : Int) (N : Int) = ((min k N : Nat) : Int) := by omega
      rw [e2]
      have c1 : ((min k N : Nat) : Int) ≤ (cp3 : Int) := by omega
      go_wp2_with fail
      go_ret
      refine ⟨g3, cp3, by rw [unhide HK]; rfl, ?_, unhide HB7⟩
      rw [unhide HK, ← unhide HE1]
      exact unhide HO7


set_option maxRecDepth 100000 in
set_option maxHeartbeats 1000000 in
theorem l2Add_zero (ao : Option Addr) (cap : Nat) (x y : Int) (k : Nat) (w : World) (hm : cap ≤ maxLen ∧ (ao = none → cap = 0)) (hwh : Wf2 (x, y)) :
    Calls Tryz.prog 105 #[.slice ao 0 cap, .agg #[.int .i64 x, .int .i64 y], .int .i64 k] w fun e w' => ∃ g cap', e = .returned (.slice (some ⟨g, 0, none⟩) (min k 1) cap') ∧
      w'.ownsRow w.heap.size 66 2 (.slice (some ⟨g, 0, none⟩) (min k 1) cap') (min k 1) (cells2 ([(x, y)].take (min k 1))) ∧ Below w.heap.size w w' := by
  obtain ⟨q0, q1⟩ := new_cells (w := w) (T := 66) (x := .int .i64 x) (y := .int .i64 y)
  have B0 : Below w.heap.size w (w.alloc (.cells #[.int .i64 x, .int .i64 y] 66)) := (Below.refl _ _).alloc (Nat.le_refl _) _
  have g1 : decide ((0 : Int) < 0) = false := by decide
  have g2 : ((0 : Int) == 0) = true := by decide
  go_enter Tryz.func105, Tryz.ntmps105
  go_wp2_with fail
  refine wp_loop_rounds 1 ?_
  rw [rounds_succ]
  go_wp2_with fail
  go_quiet (fail)
  go_upto_region 4 with fail
  generalize hwa : w.alloc (.cells #[.int .i64 x, .int .i64 y] 66) = wa at *
  have hsa : w.heap.size < wa.heap.size := World.block_lt_of_cell? _ _ q0
  have HB0 := hide B0
  clear hwa B0
  go_cut [8] from 23 to 27 (fun s8 wx => ∃ g1 : Nat, s8 = .slice (some ⟨g1, 0, none⟩) 0 0 ∧ wx.ownsRow (w.heap.size + 1) 66 2 (.slice (some ⟨g1, 0, none⟩) 0 0) 0 (cells2 []) ∧ wx.cell? ⟨w.heap.size, 0, none⟩ = some (.int .i64 x) ∧ wx.cell? ⟨w.heap.size, 1, none⟩ = some (.int .i64 y) ∧ Below w.heap.size w wx)
  case first =>
    have O1 : (wa.alloc (.cells #[] 66)).ownsRow (w.heap.size + 1) 66 2 (.slice (some ⟨wa.heap.size, 0, none⟩) 0 0) 0 (cells2 []) := World.ownsRow_lit wa #[] 0 hsa (by unfold maxLen; omega) rfl
    have n1 := World.grownBy_alloc wa (.cells #[] 66) none
    have S0 := n1.cell q0 (by simp)
    have S1 := n1.cell q1 (by simp)
    have b1 : Below w.heap.size w (wa.alloc (.cells #[] 66)) := (unhide HB0).alloc (by omega) _
    have HO1 := hide O1
    have HS0 := hide S0
    have HS1 := hide S1
    have HB1 := hide b1
    clear O1 S0 S1 b1 n1
    cases ao with
    | none =>
      obtain rfl := hm.2 rfl
      clear hm
      go_wp2_with fail
      go_meet
      exact ⟨wa.heap.size, rfl, unhide HO1, unhide HS0, unhide HS1, below_drewN (unhide HB1) _⟩
    | some a =>
      have hm1 := hm.1
      clear hm
      go_wp2_with fail
      go_meet
      exact ⟨wa.heap.size, rfl, unhide HO1, unhide HS0, unhide HS1, below_drewN (unhide HB1) _⟩
  case rest =>
  obtain ⟨g1, rfl, O1, s0, s1, hb1⟩ := hcut
  clear q0 q1 HB0 hsa
  have hg1 := (O1.lt g1 rfl).1
  have hsz := World.block_lt_of_cell? _ _ s0
  go_wp2_with fail
  go_quiet (fail)
  have O3 : ∀ n, ((wc.alloc (.cells #[.int .i64 x, .int .i64 y] 66)).drewN n).ownsRow (w.heap.size + 1) 66 2 (.slice (some ⟨g1, 0, none⟩) 0 0) 0 (cells2 []) := fun n => O1.alloc (.cells #[.int .i64 x, .int .i64 y] 66)
  have X3 : ∀ n, IsHits ((wc.alloc (.cells #[.int .i64 x, .int .i64 y] 66)).drewN n) (.slice (some ⟨wc.heap.size, 0, none⟩) 1 1) [(x, y)] := fun n => (hit_new x y hwh).later (below_drewN (Below.refl _ _) n)
  have HB1 := hide hb1
  clear hb1
  go_wp2_with (at_builtin; refine wpList_append_row rfl _ _ rfl (w.heap.size + 1) g1 0 0 [] rfl (O3 _) _ [(x, y)] rfl (X3 _) 1 rfl ?o5 ?o6 ?_)
  case o5 => omega
  case o6 => simp; omega
  intro g2 cp2 w2 O4 G2 A2
  have b4 : Below w.heap.size w w2 := ((below_drawn (unhide HB1) _).alloc (by simp; omega) _).grown G2 (by simp; omega) (fun k hk => by simp at hk; omega)
  have hle2 := own_le O4
  have HO4 := hide O4
  have HB4 := hide b4
  clear O1 O3 X3 G2 A2 O4 b4 HB1 s0 s1 hsz hg1
  go_upto_region 7 with fail
  go_cut [8] from 44 to 48 (fun s8 wx => s8 = .slice (some ⟨g2, 0, none⟩) 1 cp2 ∧ wx.ownsRow (w.heap.size + 1) 66 2 (.slice (some ⟨g2, 0, none⟩) 1 cp2) 1 (cells2 [(x, y)]) ∧ Below w.heap.size w wx)
  case first =>
    cases ao with
    | none =>
      obtain rfl := hm.2 rfl
      clear hm
      go_wp2_with fail
      go_meet
      exact ⟨rfl, unhide HO4, unhide HB4⟩
    | some a =>
      have hm1 := hm.1
      clear hm
      go_wp2_with fail
      go_meet
      exact ⟨rfl, unhide HO4, unhide HB4⟩
  case rest =>
  obtain ⟨rfl, O7, hb7⟩ := hcut
  have HO7 := hide (own_mono (Nat.le_succ _) (own_take O7 (min k 1) (by omega)))
  have HB7 := hide hb7
  clear O7 hb7 HO4 HB4
  go_wp2_with fail
  refine (l1Min (k : Int) 1 _).mono ?_
  rintro e w9 ⟨rfl, rfl⟩
  have e2 : min (k : Int) 1 = ((min k 1 : Nat) : Int) := by omega
  rw [e2]
  have c1 : ((min k 1 : Nat) : Int) ≤ (cp2 : Int) := by omega
  go_wp2_with fail
  go_ret
  exact ⟨g2, cp2, rfl, unhide HO7, unhide HB7⟩

/-- l2Add: the hit put into the list, the first k. -/
theorem l2Add (v : Value) (hs : List (Int × Int)) (x y : Int) (k : Nat) (w : World) (h : IsHits w v hs) (hn : hs.length ≤ 100000) (hwh : Wf2 (x, y)) :
    Calls Tryz.prog 105 #[v, .agg #[.int .i64 x, .int .i64 y], .int .i64 k] w fun e w' => ∃ g cap', e = .returned (.slice (some ⟨g, 0, none⟩) ((ins hs (x, y)).take k).length cap') ∧
      w'.ownsRow w.heap.size 66 2 (.slice (some ⟨g, 0, none⟩) ((ins hs (x, y)).take k).length cap') ((ins hs (x, y)).take k).length (cells2 ((ins hs (x, y)).take k)) ∧ Below w.heap.size w w' := by
  obtain ⟨ao, cap, rfl, h1, h2, hwf, hc⟩ := h
  by_cases hp : 0 < hs.length
  · obtain ⟨b, off, rfl, hc1⟩ := hc hp
    exact l2Add_pos b off cap hs x y k w hp hn h1 h2.1 hwf hwh hc1
  · obtain rfl : hs = [] := List.eq_nil_of_length_eq_zero (by omega)
    refine (l2Add_zero ao cap x y k w h2 hwh).mono ?_
    rintro e w' ⟨g, c, rfl, ho, hb⟩
    have e1 : ((ins [] (x, y)).take k).length = min k 1 := by simp [ins]
    have e2 : (ins [] (x, y)).take k = [(x, y)].take (min k 1) := by
      simp only [ins]
      rw [show min k 1 = min k [(x, y)].length from rfl, ← List.take_eq_take_min]
    refine ⟨g, c, by rw [e1], ?_, hb⟩
    rw [e1, e2]
    exact ho

end Go.Proofs.YtfgadegpdknocaaGreat

namespace Go.Proofs.YtfgadegpdknocaaGreat
open Go.RowKit

theorem best_snoc (k : Nat) (hs : List (Int × Int)) (j : Nat) (x y : Int) (h : hs[j]? = some (x, y)) : best k (hs.take (j + 1)) = (ins (best k (hs.take j)) (x, y)).take k := by
  have hj := at_some h
  have he : hs[j] = (x, y) := by simpa [hj] using h
  rw [List.take_succ_eq_append_getElem hj, he]
  simp [best, List.foldl_append]

set_option maxHeartbeats 1000000 in
theorem l2Best_pos (b off cap : Nat) (hs : List (Int × Int)) (k : Nat) (w : World) (hn : hs.length ≤ 100000) (hk : k ≤ 100) (hwf : ∀ p ∈ hs, Wf2 p)
    (hc : ∀ j x y, hs[j]? = some (x, y) → w.cell? ⟨b, off + j * 2, none⟩ = some (.int .i64 x) ∧ w.cell? ⟨b, off + j * 2 + 1, none⟩ = some (.int .i64 y)) :
    Calls Tryz.prog 62 #[.slice (some ⟨b, off, none⟩) hs.length cap, .int .i64 k] w fun e w' => ∃ g cap', e = .returned (.slice (some ⟨g, 0, none⟩) (best k hs).length cap') ∧
      w'.ownsRow w.heap.size 66 2 (.slice (some ⟨g, 0, none⟩) (best k hs).length cap') (best k hs).length (cells2 (best k hs)) ∧ Below w.heap.size w w' := by
  have HWF := hide hwf
  clear hwf
  go_enter Tryz.func62, Tryz.ntmps62
  go_wp2_with fail
  go_loopw [5, 6] (fun v i wr => ∃ (j g cp : Nat), j ≤ hs.length ∧ i = .int .i64 j ∧ v = .slice (some ⟨g, 0, none⟩) (best k (hs.take j)).length cp ∧ wr.ownsRow w.heap.size 66 2 v (best k (hs.take j)).length (cells2 (best k (hs.take j))) ∧ Below w.heap.size w wr)
    (fun _ i _ => hs.length - (intOf i).toNat)
  case atStart =>
    refine ⟨0, w.heap.size, 0, Nat.zero_le _, rfl, rfl, ?_, (Below.refl _ _).alloc (Nat.le_refl _) _⟩
    exact World.ownsRow_lit w #[] 0 (Nat.le_refl _) (by unfold maxLen; omega) rfl
  case round =>
    obtain ⟨j, g, cp, hj, rfl, rfl, hown, hB⟩ := hrel
    by_cases hlt : j < hs.length
    · obtain ⟨x, y, hxy⟩ : ∃ x y, hs[j]? = some (x, y) := ⟨hs[j].1, hs[j].2, by simp [hlt]⟩
      have c1 := (hB.cell (World.block_lt_of_cell? _ _ (hc j x y hxy).1)).trans (hc j x y hxy).1
      have c2 := (hB.cell (World.block_lt_of_cell? _ _ (hc j x y hxy).2)).trans (hc j x y hxy).2
      have hw1 : ∀ p ∈ best k (hs.take j), Wf2 p := fun p hp => unhide HWF p (List.mem_of_mem_take (best_mem hp))
      have hi := isHits_row hw1 hown
      have hl := best_len k (hs.take j)
      have hwh : Wf2 (x, y) := unhide HWF _ (List.mem_of_getElem? hxy)
      have HS := hide (best_snoc k hs j x y hxy)
      have L := l2Add (.slice (some ⟨g, 0, none⟩) (best k (hs.take j)).length cp) (best k (hs.take j)) x y k wr hi (by omega) hwh
      rw [← unhide HS] at L
      have HB := hide hB
      have HC := hide hc
      clear hown hB hc hxy hw1 hi hl hwh HS
      generalize (best k (hs.take j)).length = n at *
      go_wp2_with fail
      refine L.mono ?_
      rintro e w1 ⟨g1, cp1, rfl, ho, hb⟩
      have HO := hide (own_mono (unhide HB).size ho)
      have HB1 := hide (below_keep2 (unhide HB) hb)
      clear L ho hb HB c1 c2
      go_wp2_with fail
      go_roundw
      case rel => exact ⟨j + 1, g1, cp1, by omega, by go_num, rfl, unhide HO, unhide HB1⟩
      case measure => simp [intOf]; omega
    · obtain rfl : j = hs.length := by omega
      rw [List.take_length] at hown ⊢
      have HO := hide hown
      have HB := hide hB
      clear hown hB hc
      go_wp2_with fail
      go_ret
      exact ⟨g, cp, rfl, unhide HO, unhide HB⟩

set_option maxHeartbeats 400000 in
theorem l2Best_zero (ao : Option Addr) (cap : Nat) (k : Nat) (w : World) :
    Calls Tryz.prog 62 #[.slice ao 0 cap, .int .i64 k] w fun e w' => ∃ g cap', e = .returned (.slice (some ⟨g, 0, none⟩) 0 cap') ∧
      w'.ownsRow w.heap.size 66 2 (.slice (some ⟨g, 0, none⟩) 0 cap') 0 [] ∧ Below w.heap.size w w' := by
  have O1 : (w.alloc (.cells #[] 66)).ownsRow w.heap.size 66 2 (.slice (some ⟨w.heap.size, 0, none⟩) 0 0) 0 [] := World.ownsRow_lit w #[] 0 (Nat.le_refl _) (by unfold maxLen; omega) rfl
  have HO := hide O1
  clear O1
  go_enter Tryz.func62, Tryz.ntmps62
  go_wp2_with fail
  refine wp_loop_rounds 1 ?_
  rw [rounds_succ]
  go_wp2_with fail
  go_ret
  exact ⟨_, _, rfl, unhide HO, (Below.refl _ _).alloc (Nat.le_refl _) _⟩

/-- l2Best. -/
theorem l2Best (v : Value) (hs : List (Int × Int)) (k : Nat) (w : World) (h : IsHits w v hs) (hn : hs.length ≤ 100000) (hk : k ≤ 100) :
    Calls Tryz.prog 62 #[v, .int .i64 k] w fun e w' => ∃ g cap', e = .returned (.slice (some ⟨g, 0, none⟩) (best k hs).length cap') ∧
      w'.ownsRow w.heap.size 66 2 (.slice (some ⟨g, 0, none⟩) (best k hs).length cap') (best k hs).length (cells2 (best k hs)) ∧ Below w.heap.size w w' := by
  obtain ⟨ao, cap, rfl, h1, h2, hwf, hc⟩ := h
  by_cases hp : 0 < hs.length
  · obtain ⟨b, off, rfl, hc1⟩ := hc hp
    exact l2Best_pos b off cap hs k w hn hk hwf hc1
  · obtain rfl : hs = [] := List.eq_nil_of_length_eq_zero (by omega)
    exact l2Best_zero ao cap k w

end Go.Proofs.YtfgadegpdknocaaGreat

namespace Go.Proofs.YtfgadegpdknocaaGreat
open Go.RowKit

def kB (k : Int) : Bool := decide (0 ≤ k) && decide (k ≤ 20)

def bestCode (hs : List (Int × Int)) (k : Int) : Int := if kB k then (if 200 < hs.length then 2 else if hs.all oneB then 0 else 3) else 3

def bestList (hs : List (Int × Int)) (k : Int) : List (Int × Int) := if bestCode hs k = 0 then best k.toNat hs else []

def addCode (hs : List (Int × Int)) (h : Int × Int) (k : Int) : Int := if kB k then (if hitsFault hs = 0 then (if oneB h then 0 else 3) else hitsFault hs) else 3

def addList (hs : List (Int × Int)) (h : Int × Int) (k : Int) : List (Int × Int) := if addCode hs h k = 0 then (ins hs h).take k.toNat else []

theorem own_set {w : World} {base e size : Nat} {v : Value} {n : Nat} {xs : List Value} {a : Addr} (h : w.ownsRow base e size v n xs) (ha : a.block < base) (u : Value) : (w.setCell a u).ownsRow base e size v n xs := by
  refine ⟨h.1, ?_⟩
  rcases h.2 with h2 | ⟨g, cap, cur, hv, hg, hh, r⟩
  · exact Or.inl h2
  · exact Or.inr ⟨g, cap, cur, hv, hg, (heap_setCell_other w a g u (by omega)).trans hh, r⟩

/-- The result's own variable, a new block of (0, nil), as later worlds have it. -/
theorem resVar {w W : World} {T : TypeId} (h : Below (w.alloc (.cells #[.int .i64 0, .slice none 0 0] T)).heap.size (w.alloc (.cells #[.int .i64 0, .slice none 0 0] T)) W) :
    W.cell? ⟨w.heap.size, 0, none⟩ = some (.int .i64 0) ∧ W.cell? ⟨w.heap.size, 1, none⟩ = some (.slice none 0 0) ∧ (∀ o, W.frozen? ⟨w.heap.size, o, none⟩ = false) ∧ w.heap.size < W.heap.size := by
  refine ⟨(h.cell (p := ⟨w.heap.size, 0, none⟩) (by simp)).trans (by simp [go_sem]), (h.cell (p := ⟨w.heap.size, 1, none⟩) (by simp)).trans (by simp [go_sem]), fun o => (h.frozen (p := ⟨w.heap.size, o, none⟩) (by simp)).trans (by simp [go_sem]), ?_⟩
  have := h.size
  simp at this
  omega

/-- What AddHit tells. -/
def Told (w w' : World) (e : Ending) (c : Int) (l : List (Int × Int)) : Prop := ∃ r, e = .returned (intsRes c r) ∧ w'.ownsRow w.heap.size 66 2 r l.length (cells2 l) ∧ Below w.heap.size w w'

theorem told_nil {w w' : World} {c : Int} (h : Below w.heap.size w w') : Told w w' (.returned (intsRes c (.slice none 0 0))) c [] := ⟨_, rfl, World.ownsRow_nil _ _ _ _, h⟩

theorem bestList_len {zs : List (Int × Int)} {n : Int} : (bestList zs n).length ≤ 20 := by
  unfold bestList
  split
  · next h =>
    have hk : kB n = true := by
      cases hk : kB n with
      | true => rfl
      | false => simp [bestCode, hk] at h
    have := best_len n.toNat zs
    have hb : 0 ≤ n ∧ n ≤ 20 := by simpa [kB] using hk
    omega
  · simp

theorem bestList_mem {zs : List (Int × Int)} {n : Int} {m : Int × Int} (h : m ∈ bestList zs n) : m ∈ zs := by
  unfold bestList at h
  split at h
  · exact best_mem h
  · simp at h

end Go.Proofs.YtfgadegpdknocaaGreat

namespace Go.Proofs.YtfgadegpdknocaaGreat
open Go.RowKit

def hitOf (q : List Int) (x : DItem) : DHit := ⟨x.id, score3 q x.vec⟩
def pairH (h : DHit) : Int × Int := (h.id, h.score)
def dhit (p : Int × Int) : DHit := ⟨p.1, p.2⟩
def hitsL (xs : List DItem) (q : List Int) : List DHit := xs.map (hitOf q)
def searchR (xs : List DItem) (q : List Int) (k : Int) : DHitsResult :=
  if tableFault xs = 0 then (if vecFault q = 0 then (if kB k then ⟨0, (best k.toNat ((hitsL xs q).map pairH)).map dhit⟩ else ⟨3, []⟩) else ⟨vecFault q, []⟩) else ⟨tableFault xs, []⟩
theorem dhit_pair (h : DHit) : dhit (pairH h) = h := rfl
theorem cells2_map (hs : List DHit) : cells2 (hs.map pairH) = (hs.map fun h => [Value.int .i64 h.id, .int .i64 h.score]).flatten := by
  induction hs with
  | nil => rfl
  | cons h hs ih =>
    rw [List.map_cons, List.map_cons, List.flatten_cons, ← ih]
    rfl
/-- Rows of hits. -/
theorem grow_hits {w : World} {base T : Nat} {v : Value} {rows : List (List Value)} {hs : List DHit} {bls : List (List Nat)} (h : Grow Lay.tHit w base T v rows hs bls) : w.ownsRow base T 2 v (hs.map pairH).length (cells2 (hs.map pairH)) ∧ ∀ p ∈ hs.map pairH, Wf2 p := by
  have hrow : ∀ j (h1 : j < hs.length) (h2 : j < rows.length), rows[j] = [.int .i64 hs[j].id, .int .i64 hs[j].score] ∧ (Lit.int .i64 hs[j].id).wf = true ∧ (Lit.int .i64 hs[j].score).wf = true := by
    intro j h1 h2
    obtain ⟨e, -, w0, w1⟩ := lies_Hit.1 (h.lies j h1 h2 (by have := h.nbls; omega))
    exact ⟨e, w0, w1⟩
  have e : rows = hs.map fun h => [Value.int .i64 h.id, .int .i64 h.score] := by
    apply List.ext_getElem (by simp [h.nrows])
    intro j h1 h2
    rw [(hrow j (by have := h.nrows; omega) h1).1]
    simp
  refine ⟨?_, ?_⟩
  · rw [List.length_map, cells2_map, ← e]
    exact h.own
  · intro p hp
    obtain ⟨d, hd, rfl⟩ := List.mem_map.1 hp
    obtain ⟨j, hj, rfl⟩ := List.getElem_of_mem hd
    exact (hrow j hj (by have := h.nrows; omega)).2
/-- A row of hits of the call's own, as data. -/
theorem own_hits {w : World} {base T : Nat} {v : Value} {ps : List (Int × Int)} (h : w.ownsRow base T 2 v ps.length (cells2 ps)) (hw : ∀ p ∈ ps, Wf2 p) (hn : ps.length ≤ 9223372036854775807) : (Lay.sl Lay.tHit).OwnIn w [v] (ps.map dhit) base w.heap.size := by
  have hl : (ps.map dhit).length = ps.length := List.length_map _
  have e : cells2 ps = ((ps.map dhit).map fun h => [Value.int .i64 h.id, .int .i64 h.score]).flatten := by
    rw [← cells2_map, List.map_map]
    congr 1
    exact (List.map_id ps).symm
  have G : Grow Lay.tHit w base T v ((ps.map dhit).map fun h => [Value.int .i64 h.id, .int .i64 h.score]) (ps.map dhit) (List.replicate ps.length []) := by
    refine ⟨by rw [hl, ← e]; exact h, by simp, by simp, fun j h1 h2 h3 => ?_, by simp⟩
    have hj : j < ps.length := by simpa using h1
    have hq := hw ps[j] (List.getElem_mem hj)
    refine lies_Hit.2 ⟨by simp, by simp, ?_, ?_⟩
    · simpa [dhit] using hq.1
    · simpa [dhit] using hq.2
  exact G.toOwn (by rw [hl]; exact hn) (by simp) (by simp)
theorem score3_bd {q v : List Int} (h1 : vecFault q = 0) (h2 : vecFault v = 0) : 0 ≤ score3 q v ∧ score3 q v ≤ 12000000 := by
  obtain ⟨hl, -⟩ := vecFault_zero h1
  obtain ⟨hl2, -⟩ := vecFault_zero h2
  match q, hl, v, hl2 with
  | [x, y, z], _, [a, b, c], _ =>
    obtain ⟨⟨x1, x2⟩, ⟨y1, y2⟩, ⟨z1, z2⟩⟩ := fault3 h1
    obtain ⟨⟨a1, a2⟩, ⟨b1, b2⟩, ⟨c1, c2⟩⟩ := fault3 h2
    have m1 := sq_bd x a x1 x2 a1 a2
    have m2 := sq_bd y b y1 y2 b1 b2
    have m3 := sq_bd z c z1 z2 c1 c2
    show 0 ≤ (x - a) * (x - a) + (y - b) * (y - b) + (z - c) * (z - c) ∧ (x - a) * (x - a) + (y - b) * (y - b) + (z - c) * (z - c) ≤ 12000000
    omega
/-- The hits of a right table are right, and few. -/
theorem hits_right {xs : List DItem} {q : List Int} (h : tableFault xs = 0) (hq : vecFault q = 0) : ((hitsL xs q).map pairH).length ≤ 30 ∧ ∀ p ∈ (hitsL xs q).map pairH, oneB p = true := by
  obtain ⟨hl, ha, -⟩ := tableFault_zero h
  refine ⟨by simp [hitsL]; exact hl, fun p hp => ?_⟩
  obtain ⟨d, hd, rfl⟩ := List.mem_map.1 hp
  obtain ⟨x, hx, rfl⟩ := List.mem_map.1 hd
  obtain ⟨hi, hv⟩ := ha x hx
  have hs := score3_bd hq hv
  simp only [idB, Bool.and_eq_true, decide_eq_true_eq] at hi
  rw [show pairH (hitOf q x) = (x.id, score3 q x.vec) from rfl]
  simp only [oneB, Bool.and_eq_true, decide_eq_true_eq]
  omega
theorem best_code {xs : List DItem} {q : List Int} {k : Int} (h : tableFault xs = 0) (hq : vecFault q = 0) (hk : kB k = true) : bestCode ((hitsL xs q).map pairH) k = 0 ∧ bestList ((hitsL xs q).map pairH) k = best k.toNat ((hitsL xs q).map pairH) := by
  obtain ⟨h1, h2⟩ := hits_right h hq
  have e : bestCode ((hitsL xs q).map pairH) k = 0 := by
    rw [bestCode, hk, if_pos rfl, if_neg (by omega), if_pos (List.all_eq_true.2 h2)]
  exact ⟨e, by rw [bestList, if_pos e]⟩
theorem own_hitsR {w : World} {c : Int} {v : Value} {hs : List DHit} {lo hi : Nat} (hc : (Lit.int .i64 c).wf = true) (h : (Lay.sl Lay.tHit).OwnIn w [v] hs lo hi) : Lay.tHitsResult.OwnIn w [.int .i64 c, v] ⟨c, hs⟩ lo hi := by
  obtain ⟨bl, ⟨l, n, f⟩, i⟩ := h
  exact ⟨bl, ⟨⟨[.int .i64 c], [v], [], bl, rfl, by simp, ⟨rfl, hc, rfl⟩, l⟩, n, f⟩, i⟩
theorem own_codeHits {w : World} {c : Int} {lo hi : Nat} (hc : (Lit.int .i64 c).wf = true) : Lay.tHitsResult.OwnIn w [.int .i64 c, .slice none 0 0] ⟨c, []⟩ lo hi := own_hitsR hc ⟨[], ⟨⟨none, 0, rfl, by simp, Or.inl ⟨rfl, rfl⟩⟩, by simp, by simp⟩, by simp⟩
theorem vec3q {zs : List Int} (h : vecFault zs = 0) : ∃ p q r, zs = [p, q, r] := by
  have hl := (vecFault_zero h).1
  match zs, hl with
  | [p, q, r], _ => exact ⟨p, q, r, rfl⟩
theorem best_wf {ps : List (Int × Int)} {k : Nat} (h : ∀ p ∈ ps, Wf2 p) : ∀ p ∈ best k ps, Wf2 p := fun p hp => h p (best_mem hp)
theorem oneB_wf {p : Int × Int} (h : oneB p = true) : Wf2 p := by
  simp only [oneB, Bool.and_eq_true, decide_eq_true_eq] at h
  exact ⟨wf_of_bd (by omega), wf_of_bd (by omega)⟩

end Go.Proofs.YtfgadegpdknocaaGreat

namespace Go.Proofs.YtfgadegpdknocaaGreat
open Go.RowKit

def probeL (cs : List DCenter) (q : List Int) (k : Nat) : List DHit := (List.range k).map fun (i : Nat) => ⟨(i : Int), score3 (cs.getD i ⟨[]⟩).vec q⟩
def probesI (cs : List DCenter) (q : List Int) (n : Nat) : List Int := (best n ((probeL cs q cs.length).map pairH)).map Prod.fst
theorem probeL_step (cs : List DCenter) (q : List Int) (k : Nat) (h : k < cs.length) : probeL cs q (k + 1) = probeL cs q k ++ [⟨k, score3 cs[k].vec q⟩] := by
  have e : cs.getD k ⟨[]⟩ = cs[k] := by simp [List.getD, List.getElem?_eq_getElem h]
  rw [probeL, List.range_succ, List.map_append, List.map_cons, e]
  rfl
theorem probeL_len (cs : List DCenter) (q : List Int) (k : Nat) : (probeL cs q k).length = k := by simp [probeL]
def nB (n : Int) : Bool := decide (0 ≤ n) && decide (n ≤ 6)
def probesR (x : DIvf) (q : List Int) (n : Int) : DIntsResult :=
  if ivfFault x = 0 then (if vecFault q = 0 then (if nB n then ⟨0, probesI x.centers q n.toNat⟩ else ⟨3, []⟩) else ⟨vecFault q, []⟩) else ⟨ivfFault x, []⟩
theorem probe_wf {cs : List DCenter} {q : List Int} {n : Nat} (h6 : cs.length ≤ 1000) : ∀ z ∈ probesI cs q n, (Lit.int .i64 z).wf = true := by
  intro z hz
  obtain ⟨p, hp, rfl⟩ := List.mem_map.1 hz
  obtain ⟨d, hd, rfl⟩ := List.mem_map.1 (best_mem hp)
  obtain ⟨i, hi, rfl⟩ := List.mem_map.1 hd
  have := List.mem_range.1 hi
  exact wf_of_bd (by show _ ≤ (i : Int) ∧ (i : Int) ≤ _; omega)
theorem probe_len (cs : List DCenter) (q : List Int) (n : Nat) : (probesI cs q n).length ≤ n := by
  rw [probesI, List.length_map]
  exact best_len _ _
/-- All hits of the lists named. -/
def probedH (x : DIvf) (q : List Int) (ps : List Int) : List (Int × Int) := (ps.map fun p => (hitsL (x.lists.getD p.toNat ⟨[]⟩).items q).map pairH).flatten
def searchIvfR (x : DIvf) (q : List Int) (k n : Int) : DHitsResult :=
  if ivfFault x = 0 then (if vecFault q = 0 then (if kB k && nB n then ⟨0, (best k.toNat (probedH x q (probesI x.centers q n.toNat))).map dhit⟩ else ⟨3, []⟩) else ⟨vecFault q, []⟩) else ⟨ivfFault x, []⟩
theorem probedH_step (x : DIvf) (q : List Int) (ps : List Int) (j m : Nat) (h : j < ps.length) (e : ps[j] = (m : Int)) (hm : m < x.lists.length) : probedH x q (ps.take (j + 1)) = probedH x q (ps.take j) ++ (hitsL x.lists[m].items q).map pairH := by
  have e2 : x.lists.getD (ps[j]).toNat ⟨[]⟩ = x.lists[m] := by rw [e]; simp [List.getD, List.getElem?_eq_getElem hm]
  rw [probedH, List.take_succ_eq_append_getElem h, List.map_append, List.flatten_append, List.map_cons, e2]
  simp [probedH]
theorem probedH_right {x : DIvf} {q : List Int} (hx : ∀ l ∈ x.lists, tableFault l.items = 0) (hq : vecFault q = 0) (ps : List Int) : (probedH x q ps).length ≤ 30 * ps.length ∧ ∀ p ∈ probedH x q ps, oneB p = true := by
  have h1 : ∀ m : Nat, ((hitsL (x.lists.getD m ⟨[]⟩).items q).map pairH).length ≤ 30 ∧ ∀ p ∈ (hitsL (x.lists.getD m ⟨[]⟩).items q).map pairH, oneB p = true := fun m => by
    by_cases hm : m < x.lists.length
    · have e : x.lists.getD m ⟨[]⟩ = x.lists[m] := by simp [List.getD, List.getElem?_eq_getElem hm]
      rw [e]
      exact hits_right (hx _ (List.getElem_mem hm)) hq
    · have e : x.lists.getD m ⟨[]⟩ = ⟨[]⟩ := by simp [List.getD, List.getElem?_eq_none (Nat.le_of_not_lt hm)]
      rw [e]
      simp [hitsL]
  induction ps with
  | nil => simp [probedH]
  | cons p ps ih =>
    have e : probedH x q (p :: ps) = (hitsL (x.lists.getD p.toNat ⟨[]⟩).items q).map pairH ++ probedH x q ps := by simp [probedH]
    rw [e]
    refine ⟨?_, fun y hy => ?_⟩
    · have := (h1 p.toNat).1
      rw [List.length_append, List.length_cons]
      omega
    · rcases List.mem_append.1 hy with hy | hy
      · exact (h1 p.toNat).2 y hy
      · exact ih.2 y hy
theorem probe_at {cs : List DCenter} {q : List Int} {n : Nat} {z : Int} (h : z ∈ probesI cs q n) : ∃ m : Nat, z = m ∧ m < cs.length := by
  obtain ⟨p, hp, rfl⟩ := List.mem_map.1 h
  obtain ⟨d, hd, rfl⟩ := List.mem_map.1 (best_mem hp)
  obtain ⟨i, hi, rfl⟩ := List.mem_map.1 hd
  exact ⟨i, rfl, List.mem_range.1 hi⟩

end Go.Proofs.YtfgadegpdknocaaGreat

namespace Go.Proofs.YtfgadegpdknocaaGreat
open Go.RowKit

/-- A place's hit. -/
def hitAt (cs : List DCenter) (q : List Int) (p : Nat) : Int × Int := ((p : Int), score3 (cs.getD p ⟨[]⟩).vec q)
theorem probeL_hits (cs : List DCenter) (q : List Int) (k : Nat) : (probeL cs q k).map pairH = (List.range k).map (hitAt cs q) := by
  rw [probeL, List.map_map]
  rfl
/-- Places in order, all of them: their first n are those that are looked at. -/
theorem places_probes {cs : List DCenter} {q : List Int} {d : List Nat} (hs : Sorted (d.map (hitAt cs q))) (hm : ∀ p, p ∈ d ↔ p < cs.length) (n : Nat) : (d.take n).map (fun p : Nat => (p : Int)) = probesI cs q n := by
  have e : allOf ((probeL cs q cs.length).map pairH) = d.map (hitAt cs q) := by
    refine sorted_ext (allOf_sorted _) hs fun x => ?_
    rw [allOf_mem, probeL_hits, List.mem_map, List.mem_map]
    constructor
    · rintro ⟨p, hp, rfl⟩
      exact ⟨p, (hm p).2 (List.mem_range.1 hp), rfl⟩
    · rintro ⟨p, hp, rfl⟩
      exact ⟨p, List.mem_range.2 ((hm p).1 hp), rfl⟩
  rw [probesI, best_eq, e, ← List.map_take, List.map_map]
  rfl
/-- The outer loop's state: the first i places in order, the others as they were. -/
def InsO (h : Nat → Int × Int) (n i : Nat) (d : List Nat) : Prop :=
  ∃ P : List Nat, P.length = i ∧ Sorted (P.map h) ∧ (∀ p, p ∈ P ↔ p < i) ∧ d = P ++ (List.range n).drop i
/-- The inner loop's state: place i stands at j, behind it what is farther. -/
def InsI (h : Nat → Int × Int) (n i j : Nat) (d : List Nat) : Prop :=
  ∃ L R : List Nat, L.length = j ∧ L.length + R.length = i ∧ Sorted ((L ++ R).map h) ∧ (∀ p, p ∈ L ++ R ↔ p < i) ∧ (∀ r ∈ R, (h i).2 < (h r).2) ∧ d = L ++ i :: (R ++ (List.range n).drop (i + 1))
theorem insO_start (h : Nat → Int × Int) {n : Nat} (hn : 0 < n) : InsO h n 1 (List.range n) := by
  refine ⟨[0], rfl, List.pairwise_singleton _ _, fun p => ?_, ?_⟩
  · rw [List.mem_singleton]; omega
  · cases n with
    | zero => omega
    | succ n => rw [List.range_succ_eq_map]; rfl
theorem InsO.inner {h : Nat → Int × Int} {n i : Nat} {d : List Nat} (hi : i < n) (o : InsO h n i d) : InsI h n i i d := by
  obtain ⟨P, h1, h2, h3, rfl⟩ := o
  refine ⟨P, [], h1, by simpa using h1, by simpa using h2, by simpa using h3, by simp, ?_⟩
  rw [List.drop_eq_getElem_cons (by simpa using hi)]
  simp
theorem InsI.len {h : Nat → Int × Int} {n i j : Nat} {d : List Nat} (hi : i < n) (o : InsI h n i j d) : d.length = n ∧ j ≤ i := by
  obtain ⟨L, R, h1, h2, -, -, -, rfl⟩ := o
  simp
  omega
theorem InsO.len {h : Nat → Int × Int} {n i : Nat} {d : List Nat} (hi : i ≤ n) (o : InsO h n i d) : d.length = n := by
  obtain ⟨P, h1, -, -, rfl⟩ := o
  simp
  omega
theorem InsO.below {h : Nat → Int × Int} {n i : Nat} {d : List Nat} (hi : i ≤ n) (o : InsO h n i d) : ∀ p ∈ d, p < n := by
  obtain ⟨P, -, -, h3, rfl⟩ := o
  intro p hp
  rcases List.mem_append.1 hp with hp | hp
  · have := (h3 p).1 hp; omega
  · exact List.mem_range.1 (List.mem_of_mem_drop hp)
theorem InsI.below {h : Nat → Int × Int} {n i j : Nat} {d : List Nat} (hi : i < n) (o : InsI h n i j d) : ∀ p ∈ d, p < n := by
  obtain ⟨L, R, -, -, -, h4, -, rfl⟩ := o
  intro p hp
  rcases List.mem_append.1 hp with hp | hp
  · have := (h4 p).1 (List.mem_append.2 (Or.inl hp)); omega
  · rcases List.mem_cons.1 hp with rfl | hp
    · exact hi
    · rcases List.mem_append.1 hp with hp | hp
      · have := (h4 p).1 (List.mem_append.2 (Or.inr hp)); omega
      · exact List.mem_range.1 (List.mem_of_mem_drop hp)
/-- What stands at j and ahead of it. -/
theorem InsI.at {h : Nat → Int × Int} {n i j : Nat} {d : List Nat} (o : InsI h n i j d) : d[j]? = some i := by
  obtain ⟨L, R, h1, -, -, -, -, rfl⟩ := o
  rw [List.getElem?_append_right (by omega), h1, Nat.sub_self]
  rfl
theorem InsI.swap {h : Nat → Int × Int} {n i j p : Nat} {d : List Nat} (o : InsI h n i (j + 1) d) (hp : d[j]? = some p) (hlt : (h i).2 < (h p).2) : InsI h n i j ((d.set (j + 1) p).set j i) := by
  obtain ⟨L, R, h1, h2, h3, h4, h5, rfl⟩ := o
  obtain ⟨K, z, rfl⟩ : ∃ K z, L = K ++ [z] := ⟨L.dropLast, L.getLast (by intro e; rw [e] at h1; cases h1), (List.dropLast_concat_getLast _).symm⟩
  have hK : K.length = j := by simpa using h1
  have hz : z = p := by
    rw [List.append_assoc, List.getElem?_append_right (by omega), hK, Nat.sub_self] at hp
    simpa using hp
  subst hz
  refine ⟨K, z :: R, hK, ?_, ?_, ?_, ?_, ?_⟩
  · simp at h2 ⊢; omega
  · simpa using h3
  · intro p; rw [← h4 p]; simp
  · intro r hr
    rcases List.mem_cons.1 hr with rfl | hr
    · exact hlt
    · exact h5 r hr
  · rw [List.append_assoc, List.set_append_right _ _ (by omega), List.set_append_right _ _ (by omega), hK, Nat.sub_self, Nat.add_sub_cancel_left]
    rfl
theorem InsI.stop {h : Nat → Int × Int} {n i j : Nat} {d : List Nat} (hf : ∀ p, (h p).1 = (p : Int)) (o : InsI h n i j d) (hs : ∀ p, 0 < j → d[j - 1]? = some p → (h p).2 ≤ (h i).2) : InsO h n (i + 1) d := by
  obtain ⟨L, R, h1, h2, h3, h4, h5, rfl⟩ := o
  have hL : ∀ l ∈ L, bet (h l) (h i) = true := by
    intro l hl
    obtain ⟨K, z, rfl⟩ : ∃ K z, L = K ++ [z] := ⟨L.dropLast, L.getLast (by intro e; rw [e] at hl; cases hl), (List.dropLast_concat_getLast _).symm⟩
    have hj : j = K.length + 1 := by rw [← h1]; simp
    have hz : (h z).2 ≤ (h i).2 := hs z (by omega) (by
      rw [hj, Nat.add_sub_cancel, List.append_assoc, List.getElem?_append_right (Nat.le_refl _), Nat.sub_self]
      rfl)
    have li : l < i := (h4 l).1 (List.mem_append.2 (Or.inl hl))
    have hlz : (h l).2 ≤ (h z).2 := by
      rcases List.mem_append.1 hl with hl | hl
      · have h6 : Sorted ((K ++ [z]).map h) := by rw [List.map_append] at h3; exact (List.pairwise_append.1 h3).1
        rw [List.map_append] at h6
        have := (List.pairwise_append.1 h6).2.2 (h l) (List.mem_map_of_mem hl) (h z) (by simp)
        rw [bet_iff] at this
        omega
      · rw [List.mem_singleton.1 hl]; exact Int.le_refl _
    rw [bet_iff, hf, hf]
    omega
  have hR : ∀ r ∈ R, bet (h i) (h r) = true := fun r hr => by rw [bet_iff]; exact Or.inl (h5 r hr)
  refine ⟨L ++ i :: R, by simp; omega, ?_, fun p => ?_, by simp⟩
  · rw [List.map_append] at h3
    obtain ⟨q1, q2, q3⟩ := List.pairwise_append.1 h3
    rw [List.map_append, List.map_cons]
    refine List.pairwise_append.2 ⟨q1, List.Pairwise.cons (fun y hy => ?_) q2, fun y hy z hz => ?_⟩
    · obtain ⟨r, hr, rfl⟩ := List.mem_map.1 hy
      exact hR r hr
    · rcases List.mem_cons.1 hz with rfl | hz
      · obtain ⟨l, hl, rfl⟩ := List.mem_map.1 hy
        exact hL l hl
      · exact q3 y hy z hz
  · have := h4 p
    rw [List.mem_append] at this
    rw [List.mem_append, List.mem_cons]
    constructor
    · rintro (hp | rfl | hp)
      · have := this.1 (Or.inl hp); omega
      · omega
      · have := this.1 (Or.inr hp); omega
    · intro hp
      by_cases e : p = i
      · exact Or.inr (Or.inl e)
      · rcases this.2 (by omega) with h | h
        · exact Or.inl h
        · exact Or.inr (Or.inr h)
theorem insO_end {h : Nat → Int × Int} {n : Nat} {d : List Nat} (o : InsO h n n d) : Sorted (d.map h) ∧ (∀ p, p ∈ d ↔ p < n) ∧ d.length = n := by
  obtain ⟨P, h1, h2, h3, rfl⟩ := o
  rw [List.drop_eq_nil_of_le (by simp), List.append_nil]
  exact ⟨h2, h3, h1⟩

end Go.Proofs.YtfgadegpdknocaaGreat

namespace Go.Proofs.YtfgadegpdknocaaGreat
open Go.RowKit

/-- Places as cells. -/
def plV (d : List Nat) : List Value := d.map fun p : Nat => Value.int .i64 (p : Int)
theorem plV_len (d : List Nat) : (plV d).length = d.length := by simp [plV]
theorem plV_at {d : List Nat} {j p : Nat} (h : d[j]? = some p) : (plV d)[j]? = some (.int .i64 (p : Int)) := by simp [plV, h]
/-- The first k places are written, the others are 0. -/
def upTo (n k : Nat) : List Nat := (List.range n).map fun i => if i < k then i else 0
theorem upTo_zero (n : Nat) : plV (upTo n 0) = List.replicate n (.int .i64 0) := by
  rw [plV, upTo, List.map_map]
  refine List.ext_getElem (by simp) fun i h1 h2 => by simp
theorem upTo_set {n k : Nat} : (plV (upTo n k)).set k (.int .i64 (k : Int)) = plV (upTo n (k + 1)) := by
  refine List.ext_getElem (by simp [plV, upTo]) fun i h1 h2 => ?_
  rw [List.getElem_set]
  by_cases e : k = i
  · subst e
    simp [plV, upTo]
  · rw [if_neg e]
    simp only [plV, upTo, List.getElem_map, List.getElem_range]
    by_cases h3 : i < k
    · rw [if_pos h3, if_pos (by omega)]
    · rw [if_neg h3, if_neg (by omega)]
theorem upTo_all (n : Nat) : upTo n n = List.range n := by
  refine List.ext_getElem (by simp [upTo]) fun i h1 h2 => ?_
  have : i < n := by simpa using h2
  simp [upTo, this]

set_option maxRecDepth 100000 in
set_option maxHeartbeats 2000000 in
theorem implPlaces (ao : Option Addr) (n cap : Nat) (w : World) (hn : n ≤ 1000) :
    Calls Tryz.prog 123 #[.slice ao n cap] w fun e w' => e = .returned (.slice (some ⟨w.heap.size, 0, none⟩) n n) ∧ w'.ownsRow w.heap.size 2 1 (.slice (some ⟨w.heap.size, 0, none⟩) n n) n (plV (List.range n)) ∧ Below w.heap.size w w' := by
  obtain ⟨i0, hi, hz0, hz1, hz2⟩ := info_parts info2
  go_enter Tryz.func123, Tryz.ntmps123
  go_wp2_with (at_make; refine wpList_make_full _ rfl _ _ 26 rfl w.heap.size 2 i0 (.int .i64 0) 1 Tryz.underlying26 hi hz0 hz1 _ _ _ _ n rfl rfl rfl rfl ?c1 ?c2 ?c3 ?_)
  case c1 => rw [hz2]; omega
  case c2 => unfold maxLen; omega
  case c3 => exact Nat.le_refl _
  intro w2 hown1 hgrow1
  have hB1 : Below w.heap.size w w2 := (Below.refl _ _).grown hgrow1 (Nat.le_refl _) (by simp)
  rw [toList_madeCells_one] at hown1
  have HO1 := hide hown1
  have HB1 := hide hB1
  clear hgrow1 hi hz0 hz1 hz2 hown1 hB1
  go_wp2_with fail
  go_loopw [10] (fun i wr => ∃ k : Nat, k ≤ n ∧ i = .int .i64 k ∧ wr.ownsRow w.heap.size 2 1 (.slice (some ⟨w.heap.size, 0, none⟩) n n) n (plV (upTo n k)) ∧ Below w.heap.size w wr) (fun i _ => n - (intOf i).toNat)
  case atStart => exact ⟨0, Nat.zero_le _, rfl, by rw [upTo_zero]; exact unhide HO1, unhide HB1⟩
  case round =>
    obtain ⟨k, hk, rfl, hown, hB⟩ := hrel
    clear HO1 HB1
    by_cases hlt : k < n
    · have hcd : ∃ u, wr.cell? ⟨w.heap.size, k, none⟩ = some u := by
        rw [hown.cellAt k (by have : (plV (upTo n k)).length = n * 1 := hown.1; omega)]
        exact ⟨_, List.getElem?_eq_getElem (by simp [plV, upTo]; omega)⟩
      obtain ⟨u, hcd⟩ := hcd
      have hfz := hown.frozenAt k
      have hlg := (hown.lt w.heap.size rfl).2
      have hst := hown.stored k (.int .i64 (k : Int))
      rw [upTo_set] at hst
      have HO3 := hide hst.1
      have HB3 : Hid (Below w.heap.size w (wr.setCell ⟨w.heap.size, k, none⟩ (.int .i64 (k : Int)))) := hB.setCell (by simp) _
      clear hst hown hB
      go_wp2_with fail
      go_roundw
      case rel => exact ⟨k + 1, by omega, by go_num, unhide HO3, unhide HB3⟩
      case measure => simp [intOf]; omega
    · obtain rfl : k = n := by omega
      rw [upTo_all] at hown
      have HO := hide hown
      have HB := hide hB
      clear hown hB
      go_wp2_with fail
      go_ret
      exact ⟨rfl, unhide HO, unhide HB⟩

end Go.Proofs.YtfgadegpdknocaaGreat

namespace Go.Proofs.YtfgadegpdknocaaGreat
open Go.RowKit Go.Shelf
attribute [local go_sem] Oper.semAt_some

/-- A place of a list. -/
abbrev Pl (m : Nat) := { j : Nat // j < m }
/-- What the iterator reads: the lists' row in the index's box, and the places. -/
structure ItAt (W : World) (Bx bL oL m dL : Nat) (ia : Nat → Option Addr) (il ic : Nat → Nat) (bP oP : Nat) (zs : List (Pl m)) : Prop where
  box : W.cell? ⟨Bx, 1, none⟩ = some (.slice (some ⟨bL, oL, none⟩) m dL)
  lists : ∀ j, j < m → W.cell? ⟨bL, oL + j, none⟩ = some (.slice (ia j) (il j) (ic j))
  places : ∀ i (h : i < zs.length), W.cell? ⟨bP, oP + i, none⟩ = some (.int .i64 (zs[i].1 : Int))
theorem ItAt.keep {W W' : World} {Bx bL oL m dL : Nat} {ia : Nat → Option Addr} {il ic : Nat → Nat} {bP oP : Nat} {zs : List (Pl m)} (h : ItAt W Bx bL oL m dL ia il ic bP oP zs) (h1 : W'.heap[Bx]? = W.heap[Bx]?) (h2 : W'.heap[bL]? = W.heap[bL]?) (h3 : W'.heap[bP]? = W.heap[bP]?) : ItAt W' Bx bL oL m dL ia il ic bP oP zs :=
  ⟨(cell_of_heap h1 1).trans h.box, fun j hj => (cell_of_heap h2 _).trans (h.lists j hj), fun i hi => (cell_of_heap h3 _).trans (h.places i hi)⟩
theorem take_pre {α : Type} {zs : List α} {k : Nat} : zs.take k <+: zs := List.take_prefix k zs

set_option maxRecDepth 100000 in
set_option maxHeartbeats 2000000 in
theorem listsAt1 (l n Bp Bx bL oL m dL cP : Nat) (ia : Nat → Option Addr) (il ic : Nat → Nat) (bP oP : Nat) (zs : List (Pl m)) (N : Nat) (S : Nat → Prop) (hzs : zs.length ≤ 1000)
    (k1 : Bx < N ∧ ¬ S Bx) (k2 : bL < N ∧ ¬ S bL) (k3 : bP < N ∧ ¬ S bP) (J Jx : List (Pl m) → World → Prop)
    (hY : ∀ pre x W, J pre W → pre.length < zs.length → YieldAt Fence.wide (n - 1) Tryz.prog l #[.agg #[.int .i64 (x.1 : Int), .slice (ia x.1) (il x.1) (ic x.1)]] W fun e W' =>
      (e = .returned (.bool true) ∧ J (pre ++ [x]) W' ∧ KpS N S W W') ∨ (e = .returned (.bool false) ∧ Jx (pre ++ [x]) W'))
    (W : World) (hbp : W.cell? ⟨Bp, 0, none⟩ = some (.slice (some ⟨bP, oP, none⟩) zs.length cP)) (hit : ItAt W Bx bL oL m dL ia il ic bP oP zs) (h0 : J [] W) :
    CallsIn Fence.wide n Tryz.prog 134 #[.func (.yield l) #[] #[], .pointer (some ⟨Bp, 0, none⟩), .pointer (some ⟨Bx, 0, none⟩)] W fun e W' => (∃ v, e = .returned v) ∧
      ((∃ ys, ys = zs ∧ J ys W') ∨ (∃ pre, pre <+: zs ∧ Jx pre W')) := by
  refine callsIn_of_wp Tryz.func134 rfl trivial ?_ rfl
  simp only [Tryz.ntmps134, List.size_toArray, List.length_cons, List.length_nil, Nat.reduceAdd, Nat.reduceSub, Array.replicate_succ, Array.replicate_zero, List.push_toArray, List.append_toArray, List.nil_append, List.cons_append]
  have HIT := hide hit
  clear hit
  gi_wp2
  clear hbp
  gi_loopw [8] (fun i wr => ∃ k : Nat, k ≤ zs.length ∧ i = .int .i64 k ∧ J (zs.take k) wr ∧ ItAt wr Bx bL oL m dL ia il ic bP oP zs) (fun i _ => zs.length - (intOf i).toNat)
  case atStart => exact ⟨0, Nat.zero_le _, rfl, h0, unhide HIT⟩
  case round =>
    obtain ⟨k, hk, rfl, hJ, hit⟩ := hrel
    clear HIT h0
    by_cases hlt : k < zs.length
    · have cb := hit.box
      have cp := hit.places k hlt
      have cl := hit.lists zs[k].1 zs[k].2
      have hx2 := zs[k].2
      have htk : zs.take (k + 1) = zs.take k ++ [zs[k]] := List.take_succ_eq_append_getElem hlt
      obtain ⟨fn, tmps, assign, body, hy, hR⟩ := hY (zs.take k) zs[k] wr hJ (by rw [List.length_take]; omega)
      generalize zs[k] = x at *
      obtain ⟨q, hq⟩ := x
      dsimp only at hy cp cl hx2
      have HTK := hide htk
      have HIT := hide hit
      clear htk hit hJ
      gi_wp2
      refine ⟨fun h => by simp [Fence.wide] at h, hR.mono ?_⟩
      rintro e W3 (⟨rfl, hJ3, hk3⟩ | ⟨rfl, hJx3⟩)
      · have it3 := (unhide HIT).keep (hk3.2 Bx k1.1 k1.2) (hk3.2 bL k2.1 k2.2) (hk3.2 bP k3.1 k3.2)
        clear cb cp cl
        gi_wp2
        go_roundw
        case rel => exact ⟨k + 1, by omega, by go_num, by rw [unhide HTK]; exact hJ3, it3⟩
        case measure => simp [intOf]; omega
      · clear cb cp cl
        gi_wp2
        refine bodyPost_ret (results_none rfl _ _ _) rfl ?_
        exact ⟨⟨_, rfl⟩, .inr ⟨_, by rw [← unhide HTK]; exact take_pre, hJx3⟩⟩
    · obtain rfl : k = zs.length := by omega
      rw [List.take_length] at hJ
      clear hit
      gi_wp2
      go_end0
      exact ⟨⟨_, rfl⟩, .inl ⟨_, rfl, hJ⟩⟩

/-- What listsAt hands back tells the lists at those places, all or the first ones. -/
theorem listsAt_stops (n Bp Bx bL oL m dL cP : Nat) (ia : Nat → Option Addr) (il ic : Nat → Nat) (bP oP : Nat) (zs : List (Pl m)) (N : Nat) (S : Nat → Prop) (hzs : zs.length ≤ 1000)
    (k1 : Bx < N ∧ ¬ S Bx) (k2 : bL < N ∧ ¬ S bL) (k3 : bP < N ∧ ¬ S bP) (w : World) (l0 : Bp < w.heap.size) (hN : N ≤ w.heap.size) (hbp : w.cell? ⟨Bp, 0, none⟩ = some (.slice (some ⟨bP, oP, none⟩) zs.length cP)) (hit : ItAt w Bx bL oL m dL ia il ic bP oP zs) :
    SeqStopsK Fence.wide n Tryz.prog 134 #[.pointer (some ⟨Bp, 0, none⟩), .pointer (some ⟨Bx, 0, none⟩)] (fun x : Pl m => #[.agg #[.int .i64 (x.1 : Int), .slice (ia x.1) (il x.1) (ic x.1)]]) (KpS N S) (fun ys => ys = zs) (fun pre => pre <+: zs) zs.length w :=
  fun l J Jx W hW _ _ hY h0 => listsAt1 l n Bp Bx bL oL m dL cP ia il ic bP oP zs N S hzs k1 k2 k3 J Jx hY W ((hW.cell (p := ⟨Bp, 0, none⟩) l0).trans hbp) (hit.keep (hW.block _ (by omega)) (hW.block _ (by omega)) (hW.block _ (by omega))) h0

/-- listsAt: the index and the places are boxed; the function value captures the boxes. -/
theorem implListsAt (cv lv : Value) (ap : Option Addr) (np cp : Nat) (w : World) (h1 : ∃ a n c, cv = .slice a n c) (h2 : ∃ a n c, lv = .slice a n c) :
    Calls Tryz.prog 108 #[.agg #[cv, lv], .slice ap np cp] w fun e w' => e = .returned (.func (.func 134) #[] #[.pointer (some ⟨w.heap.size + 1, 0, none⟩), .pointer (some ⟨w.heap.size, 0, none⟩)]) ∧ w' = (w.alloc (.cells #[cv, lv] 31)).alloc (.cells #[.slice ap np cp] 26) := by
  obtain ⟨a1, n1, c1, rfl⟩ := h1
  obtain ⟨a2, n2, c2, rfl⟩ := h2
  go_enter Tryz.func108, Tryz.ntmps108
  go_wp2_with fail
  go_ret
  exact ⟨rfl, rfl⟩

end Go.Proofs.YtfgadegpdknocaaGreat

namespace Go.Proofs.YtfgadegpdknocaaGreat
open Go.RowKit

theorem one_cell {w : World} {b off k : Nat} {u : Option Value} (h : w.cell? ⟨b, off + k * Lay.tIvfList.n + 0, none⟩ = u) : w.cell? ⟨b, off + k, none⟩ = u := by
  have q : w.cell? ⟨b, off + k * 1 + 0, none⟩ = u := h
  rw [Nat.mul_one, Nat.add_zero] at q
  exact q
structure IvfAt (w : World) (b : Nat) (x : DIvf) (ac : Option Addr) (dc : Nat) (al : Option Addr) (dl : Nat) : Prop where
  c0 : w.cell? ⟨b, 0, none⟩ = some (.slice ac x.centers.length dc)
  c1 : w.cell? ⟨b, 1, none⟩ = some (.slice al x.lists.length dl)
  cens : (Lay.sl Lay.tCenter).Reads w [.slice ac x.centers.length dc] x.centers
  lists : (Lay.sl Lay.tIvfList).Reads w [.slice al x.lists.length dl] x.lists
theorem IvfAt.later {w w' : World} {b : Nat} {x : DIvf} {ac : Option Addr} {dc : Nat} {al : Option Addr} {dl : Nat} (h : IvfAt w b x ac dc al dl) (hb : Below w.heap.size w w') : IvfAt w' b x ac dc al dl :=
  ⟨cell_keep hb h.c0, cell_keep hb h.c1, h.cens.later hb, h.lists.later hb⟩
theorem ivfAt_box {lo : Nat} {w : World} {b T : Nat} {x : DIvf} {ac : Option Addr} {dc : Nat} {al : Option Addr} {dl : Nat} (h : Box lo #[.slice ac x.centers.length dc, .slice al x.lists.length dl] T w b) (h1 : (Lay.sl Lay.tCenter).Reads w [.slice ac x.centers.length dc] x.centers) (h2 : (Lay.sl Lay.tIvfList).Reads w [.slice al x.lists.length dl] x.lists) : IvfAt w b x ac dc al dl :=
  ⟨h.at 0 _ rfl, h.at 1 _ rfl, h1, h2⟩

end Go.Proofs.YtfgadegpdknocaaGreat
