/-
  Texts of this proof in one: ScoreB, ModelSum, CenScore, MeanPlain, CenPlain, LayIntResult, CenRes, LayIvfResult, IvfPlain, RangeKit, RegIn, HitInfo, HitModelB, HitFaultB, HitAppend.
  Their conditions stand in their theorems.
-/
import Derived.Test.YtfgadegpdknocaaGreatIs06
import Derived.BigQuiet
import Derived.Deep.QuietTactic
import Derived.WalkKit
import Derived.Test.YtfgadegpdknocaaGreatIs01
import Derived.Test.YtfgadegpdknocaaGreatIs02
import Derived.RangeFuncNested
import Derived.RangeFuncBound
import Derived.RangeFuncCalls
import Derived.RangeFuncLeaves
import Derived.Shelf.Abstract
import Derived.Shelf.RegionOpen
import Derived.OwnWalkIn
import Derived.TacticsInMore
import Derived.LoopNIn
import Derived.LoopIn
import Derived.Deep.RegionHeld3
import Derived.Test.YtfgadegpdknocaaGreatChecked
import Derived.Test.YtfgadegpdknocaaGreatIs05
import Derived.Deep.RegionWith

namespace Go.Proofs.YtfgadegpdknocaaGreat
open Go.RowKit


theorem sq_bd (x a : Int) (h1 : -1000 ≤ x) (h2 : x ≤ 1000) (h3 : -1000 ≤ a) (h4 : a ≤ 1000) : 0 ≤ (x - a) * (x - a) ∧ (x - a) * (x - a) ≤ 4000000 := by
  have e1 : -2000 ≤ x - a := by omega
  have e2 : x - a ≤ 2000 := by omega
  generalize x - a = d at *
  constructor
  · by_cases h : 0 ≤ d
    · exact Int.mul_nonneg h h
    · exact Int.mul_nonneg_of_nonpos_of_nonpos (by omega) (by omega)
  · by_cases h : 0 ≤ d
    · calc d * d ≤ 2000 * 2000 := Int.mul_le_mul e2 e2 h (by omega)
        _ = 4000000 := rfl
    · have h5 : d * d = (-d) * (-d) := by rw [Int.neg_mul_neg]
      rw [h5]
      calc (-d) * (-d) ≤ 2000 * 2000 := Int.mul_le_mul (by omega) (by omega) (by omega) (by omega)
        _ = 4000000 := rfl

theorem mul_bd (x a : Int) (h1 : -1000 ≤ x) (h2 : x ≤ 1000) (h3 : -1000 ≤ a) (h4 : a ≤ 1000) : -1000000 ≤ x * a ∧ x * a ≤ 1000000 := by
  have k1 : 0 ≤ (x + 1000) * (a + 1000) := Int.mul_nonneg (by omega) (by omega)
  have k2 : 0 ≤ (1000 - x) * (1000 - a) := Int.mul_nonneg (by omega) (by omega)
  have k3 : 0 ≤ (1000 - x) * (a + 1000) := Int.mul_nonneg (by omega) (by omega)
  have k4 : 0 ≤ (x + 1000) * (1000 - a) := Int.mul_nonneg (by omega) (by omega)
  have e1 : (x + 1000) * (a + 1000) = x * a + 1000 * x + 1000 * a + 1000000 := by rw [Int.add_mul, Int.mul_add, Int.mul_add]; omega
  have e2 : (1000 - x) * (1000 - a) = 1000000 - 1000 * a - 1000 * x + x * a := by rw [Int.sub_mul, Int.mul_sub, Int.mul_sub]; omega
  have e3 : (1000 - x) * (a + 1000) = 1000 * a + 1000000 - x * a - 1000 * x := by rw [Int.sub_mul, Int.mul_add, Int.mul_add]; omega
  have e4 : (x + 1000) * (1000 - a) = 1000 * x - x * a + 1000000 - 1000 * a := by rw [Int.add_mul, Int.mul_sub, Int.mul_sub]; omega
  rw [e1] at k1
  rw [e2] at k2
  rw [e3] at k3
  rw [e4] at k4
  omega

/-- ScoreOf, where pairOf tells a code. -/
theorem implScore_code (v1 v2 : Value) (k : Int) (w : World) (hp : Hid (∀ W, Below w.heap.size w W → Calls Tryz.prog 79 #[v1, v2] W fun e w' => e = .returned (.tuple #[arr3 0 0 0, arr3 0 0 0, .int .i64 k]) ∧ Below W.heap.size W w')) (hk : k ≠ 0) :
    Calls Tryz.prog 31 #[v1, v2] w fun e w' => e = .returned (intRes k 0) ∧ Below w.heap.size w w' := by
  have hne : (k != 0) = true := by rw [bne_iff_ne]; exact hk
  go_enter Tryz.func31, Tryz.ntmps31
  go_wp2_with fail
  refine (unhide hp _ ((Below.refl _ _).alloc (Nat.le_refl _) _)).mono ?_
  rintro e w1 ⟨rfl, hb⟩
  have hz : w.heap.size < w1.heap.size := by have := hb.size; simp at this; omega
  have p0 : w1.cell? ⟨w.heap.size, 0, none⟩ = some (.int .i64 0) := (hb.cell (p := ⟨w.heap.size, 0, none⟩) (by simp)).trans (by simp [go_sem])
  have p1 : w1.cell? ⟨w.heap.size, 1, none⟩ = some (.int .i64 0) := (hb.cell (p := ⟨w.heap.size, 1, none⟩) (by simp)).trans (by simp [go_sem])
  have p2 : ∀ o, w1.frozen? ⟨w.heap.size, o, none⟩ = false := fun o => (hb.frozen (p := ⟨w.heap.size, o, none⟩) (by simp)).trans (by simp [go_sem])
  have HB := hide (((Below.refl w.heap.size w).alloc (Nat.le_refl _) _).trans (hb.mono (by simp)))
  clear hb
  simp only [arr3]
  go_wp2_with fail
  refine bodyPost_ret (v := intRes k 0) (by simp [results, Tryz.results31, go_sem, intRes, p0, p1, hz]) rfl ⟨rfl, ?_⟩
  exact (((((unhide HB).setCell (by simp) _).setCell (by simp) _).alloc (by simp; omega) _).alloc (by simp; omega) _)

set_option maxHeartbeats 1000000 in
theorem implScore_ok (v1 v2 : Value) (x y z a b c : Int) (w : World) (h : IsInts w v1 [x, y, z]) (h2 : IsInts w v2 [a, b, c]) (hf1 : vecFault [x, y, z] = 0) (hf : vecFault [a, b, c] = 0) :
    Calls Tryz.prog 31 #[v1, v2] w fun e w' => e = .returned (intRes 0 ((x - a) * (x - a) + (y - b) * (y - b) + (z - c) * (z - c))) ∧ Below w.heap.size w w' := by
  obtain ⟨⟨x1, x2⟩, ⟨y1, y2⟩, ⟨z1, z2⟩⟩ := fault3 hf1
  obtain ⟨⟨a1, a2⟩, ⟨b1, b2⟩, ⟨c1, c2⟩⟩ := fault3 hf
  obtain ⟨m1, m2⟩ := sq_bd x a x1 x2 a1 a2
  obtain ⟨m3, m4⟩ := sq_bd y b y1 y2 b1 b2
  obtain ⟨m5, m6⟩ := sq_bd z c z1 z2 c1 c2
  go_enter Tryz.func31, Tryz.ntmps31
  go_wp2_with fail
  refine (pairOf_ok v1 v2 x y z a b c _ (h.later ((Below.refl _ _).alloc (Nat.le_refl _) _)) (h2.later ((Below.refl _ _).alloc (Nat.le_refl _) _)) hf1 hf).mono ?_
  rintro e w1 ⟨rfl, hb⟩
  have hz : w.heap.size < w1.heap.size := by have := hb.size; simp at this; omega
  have hz1 : w.heap.size < w1.heap.size + 1 := by omega
  have hn0 : ¬ w1.heap.size = w.heap.size := by omega
  have hn1 : ¬ w1.heap.size + 1 = w.heap.size := by omega
  have p0 : w1.cell? ⟨w.heap.size, 0, none⟩ = some (.int .i64 0) := (hb.cell (p := ⟨w.heap.size, 0, none⟩) (by simp)).trans (by simp [go_sem])
  have p1 : w1.cell? ⟨w.heap.size, 1, none⟩ = some (.int .i64 0) := (hb.cell (p := ⟨w.heap.size, 1, none⟩) (by simp)).trans (by simp [go_sem])
  have p2 : ∀ o, w1.frozen? ⟨w.heap.size, o, none⟩ = false := fun o => (hb.frozen (p := ⟨w.heap.size, o, none⟩) (by simp)).trans (by simp [go_sem])
  have HB := hide (((Below.refl w.heap.size w).alloc (Nat.le_refl _) _).trans (hb.mono (by simp)))
  clear hb hf hf1
  simp only [arr3]
  go_wp2_with fail
  refine wp_loop_rounds 4 ?_
  rw [rounds_succ]
  go_wp2
  go_quiet (fail)
  go_wp2
  rw [rounds_succ]
  go_wp2
  go_quiet (fail)
  go_wp2
  rw [rounds_succ]
  go_wp2
  go_quiet (fail)
  go_wp2
  rw [rounds_succ]
  go_wp2
  refine bodyPost_ret (v := intRes 0 ((x - a) * (x - a) + (y - b) * (y - b) + (z - c) * (z - c))) (by simp [results, Tryz.results31, go_sem, intRes, p0, p1, hz, hz1]) rfl ⟨rfl, ?_⟩
  exact (below_drawn (((unhide HB).alloc (by omega) _).alloc (by simp; omega) _) _).setCell (by simp) _ |>.setCell (by simp) _


end Go.Proofs.YtfgadegpdknocaaGreat

namespace Go.Proofs.YtfgadegpdknocaaGreat
open Go.RowKit

set_option maxHeartbeats 1000000 in
theorem modelSum (b0 off cap b2 off2 cap2 : Nat) (x y z a b c : Int) (w : World) (c0 : w.cell? ⟨b0, off, none⟩ = some (.int .i64 x)) (c1 : w.cell? ⟨b0, off + 1, none⟩ = some (.int .i64 y)) (c2 : w.cell? ⟨b0, off + 2, none⟩ = some (.int .i64 z))
    (d0 : w.cell? ⟨b2, off2, none⟩ = some (.int .i64 a)) (d1 : w.cell? ⟨b2, off2 + 1, none⟩ = some (.int .i64 b)) (d2 : w.cell? ⟨b2, off2 + 2, none⟩ = some (.int .i64 c)) (hf1 : vecFault [x, y, z] = 0) (hf : vecFault [a, b, c] = 0) :
    Calls Tryz.prog 104 #[.slice (some ⟨b0, off, none⟩) 3 cap, .slice (some ⟨b2, off2, none⟩) 3 cap2] w fun e w' => e = .returned (.int .i64 ((x - a) * (x - a) + (y - b) * (y - b) + (z - c) * (z - c))) ∧ Below w.heap.size w w' := by
  obtain ⟨⟨x1, x2⟩, ⟨y1, y2⟩, ⟨z1, z2⟩⟩ := fault3 hf1
  obtain ⟨⟨a1, a2⟩, ⟨b1, b3⟩, ⟨c3, c4⟩⟩ := fault3 hf
  obtain ⟨m1, m2⟩ := sq_bd x a x1 x2 a1 a2
  obtain ⟨m3, m4⟩ := sq_bd y b y1 y2 b1 b3
  obtain ⟨m5, m6⟩ := sq_bd z c z1 z2 c3 c4
  clear hf hf1
  go_enter Tryz.func104, Tryz.ntmps104
  go_wp2_with fail
  refine wp_loop_rounds 4 ?_
  rw [rounds_succ]
  go_wp2
  go_quiet (fail)
  go_wp2
  rw [rounds_succ]
  go_wp2
  go_quiet (fail)
  go_wp2
  rw [rounds_succ]
  go_wp2
  go_quiet (fail)
  go_wp2
  rw [rounds_succ]
  go_wp2
  go_ret
  exact ⟨rfl, below_drawn (Below.refl _ _) _⟩
def score3 (zs ys : List Int) : Int := (zs.getD 0 0 - ys.getD 0 0) * (zs.getD 0 0 - ys.getD 0 0) + (zs.getD 1 0 - ys.getD 1 0) * (zs.getD 1 0 - ys.getD 1 0) + (zs.getD 2 0 - ys.getD 2 0) * (zs.getD 2 0 - ys.getD 2 0)

end Go.Proofs.YtfgadegpdknocaaGreat

namespace Go.Proofs.YtfgadegpdknocaaGreat
open Go.RowKit

theorem cscore_bd {q v : List Int} (h1 : vecFault q = 0) (h2 : vecFault v = 0) : 0 ≤ score3 q v ∧ score3 q v ≤ 12000000 := by
  obtain ⟨hl, -⟩ := vecFault_zero h1
  obtain ⟨hl2, -⟩ := vecFault_zero h2
  match q, hl, v, hl2 with
  | [x, y, z], _, [a, b, c], _ =>
    obtain ⟨⟨x1, x2⟩, ⟨y1, y2⟩, ⟨z1, z2⟩⟩ := fault3 h1
    obtain ⟨⟨a1, a2⟩, ⟨b1, b2⟩, ⟨c1, c2⟩⟩ := fault3 h2
    have m1 := sq_bd x a x1 x2 a1 a2
    have m2 := sq_bd y b y1 y2 b1 b2
    have m3 := sq_bd z c z1 z2 c1 c2
    show 0 ≤ (x - a) * (x - a) + (y - b) * (y - b) + (z - c) * (z - c) ∧ (x - a) * (x - a) + (y - b) * (y - b) + (z - c) * (z - c) ≤ 12000000
    omega

end Go.Proofs.YtfgadegpdknocaaGreat

namespace Go.Proofs.YtfgadegpdknocaaGreat

def mean (s n : Int) : Int := (2 * s + n) / (2 * n)
def sumB (n z : Int) : Bool := decide (-1000 * n ≤ z) && decide (z ≤ 1000 * n)
def meanFault (zs : List Int) (n : Int) : Int := if n < 1 ∨ 1000 < n then 3 else if zs.length = 3 then (if zs.all (sumB n) then 0 else 3) else 1
def meanList (zs : List Int) (n : Int) : List Int := if meanFault zs n = 0 then [mean (zs.getD 0 0) n, mean (zs.getD 1 0) n, mean (zs.getD 2 0) n] else []

theorem near_bd (s n : Int) (h1 : 1 ≤ n) (h3 : -1000 * n ≤ s) (h4 : s ≤ 1000 * n) : 0 ≤ (2 * (s + 1000 * n) + n) / (2 * n) ∧ (2 * (s + 1000 * n) + n) / (2 * n) ≤ 2000 := by
  constructor
  · exact Int.ediv_nonneg (by omega) (by omega)
  · have : (2 * (s + 1000 * n) + n) / (2 * n) < 2001 := by
      rw [Int.ediv_lt_iff_lt_mul (by omega)]
      omega
    omega

theorem near_eq (s n : Int) (h1 : 1 ≤ n) : (2 * (s + 1000 * n) + n) / (2 * n) - 1000 = mean s n := by
  unfold mean
  have e : 2 * (s + 1000 * n) + n = (2 * s + n) + 1000 * (2 * n) := by omega
  rw [e, Int.add_mul_ediv_right _ _ (by omega)]
  omega

theorem mean_bd (s n : Int) (h1 : 1 ≤ n) (h3 : -1000 * n ≤ s) (h4 : s ≤ 1000 * n) : -1000 ≤ mean s n ∧ mean s n ≤ 1000 := by
  have := near_bd s n h1 h3 h4
  have := near_eq s n h1
  omega

theorem round_pos (a n : Int) : (2 * a + n) / (2 * n) = mean a n := rfl

theorem tdiv_neg_bd (x m : Int) (hm : 1 ≤ m) (hx : x < 0) : x ≤ x.tdiv m ∧ x.tdiv m ≤ 0 := by
  obtain ⟨y, rfl⟩ : ∃ y, x = -y := ⟨-x, by omega⟩
  rw [Int.neg_tdiv, Int.tdiv_eq_ediv_of_nonneg (by omega)]
  have h1 := Int.ediv_nonneg (show 0 ≤ y by omega) (show 0 ≤ m by omega)
  have h2 := Int.ediv_le_self (b := m) (show 0 ≤ y by omega)
  omega

/-- Below 0 Go's quotient is one too great where something is left. -/
theorem round_neg (x m : Int) (hm : 1 ≤ m) (hx : x < 0) : (x.tmod m < 0 → x.tdiv m - 1 = x / m) ∧ (¬ x.tmod m < 0 → x.tdiv m = x / m) := by
  have h1 := Int.tdiv_mul_add_tmod x m
  have h2 := Int.ediv_mul_add_emod x m
  have h3 := Int.emod_nonneg x (show m ≠ 0 by omega)
  have h4 := Int.emod_lt_of_pos x (show 0 < m by omega)
  have h5 : x.tmod m ≤ 0 := by
    obtain ⟨y, rfl⟩ : ∃ y, x = -y := ⟨-x, by omega⟩
    rw [Int.neg_tmod, Int.tmod_eq_emod_of_nonneg (by omega)]
    have := Int.emod_nonneg y (show m ≠ 0 by omega)
    omega
  have h6 : -m < x.tmod m := by
    obtain ⟨y, rfl⟩ : ∃ y, x = -y := ⟨-x, by omega⟩
    rw [Int.neg_tmod, Int.tmod_eq_emod_of_nonneg (by omega)]
    have := Int.emod_lt_of_pos y (show 0 < m by omega)
    omega
  generalize x.tmod m = r at *
  generalize x.tdiv m = q at *
  generalize x % m = r' at *
  generalize x / m = q' at *
  have e : (q' - q) * m = r - r' := by rw [Int.sub_mul]; omega
  constructor
  · intro hr
    have a1 : (q' - q) * m < 0 := by omega
    have a2 : (q' - q) * m > -2 * m := by omega
    have b1 : q' - q < 0 := by
      rcases Int.lt_or_le (q' - q) 0 with h | h
      · exact h
      · have := Int.mul_nonneg h (show 0 ≤ m by omega); omega
    have b2 : q' - q > -2 := by
      rcases Int.lt_or_le (-2) (q' - q) with h | h
      · exact h
      · have := Int.mul_le_mul_of_nonneg_right h (show 0 ≤ m by omega); omega
    omega
  · intro hr
    have hr0 : r = 0 := by omega
    subst hr0
    have a1 : (q' - q) * m ≤ 0 := by omega
    have a2 : (q' - q) * m > -m := by omega
    have b1 : q' - q ≤ 0 := by
      rcases Int.lt_or_le 0 (q' - q) with h | h
      · have := Int.mul_le_mul_of_nonneg_right (show 1 ≤ q' - q by omega) (show 0 ≤ m by omega); omega
      · exact h
    have b2 : q' - q > -1 := by
      rcases Int.lt_or_le (-1) (q' - q) with h | h
      · exact h
      · have := Int.mul_le_mul_of_nonneg_right h (show 0 ≤ m by omega); omega
    omega

theorem sumB_true {n z : Int} (h : sumB n z = true) : -1000 * n ≤ z ∧ z ≤ 1000 * n := by simpa [sumB] using h
theorem sumB_false {n z : Int} (h : sumB n z = false) : z < -1000 * n ∨ 1000 * n < z := by
  simp [sumB] at h
  omega
theorem meanFault_n {zs : List Int} {n : Int} (h : n < 1 ∨ 1000 < n) : meanFault zs n = 3 := by simp [meanFault, h]
theorem meanFault_len {zs : List Int} {n : Int} (h1 : 1 ≤ n) (h2 : n ≤ 1000) (h : zs.length ≠ 3) : meanFault zs n = 1 := by
  have : ¬ (n < 1 ∨ 1000 < n) := by omega
  simp [meanFault, h, this]
theorem meanFault_bad {zs : List Int} {n : Int} (h : zs.length = 3) (k : Nat) (hk : k < 3) (hb : sumB n (zs.getD k 0) = false) : meanFault zs n = 3 := by
  have : zs.all (sumB n) = false := by
    rw [List.all_eq_false]
    exact ⟨zs.getD k 0, by simp [List.getD, show k < zs.length by omega], by rw [hb]; simp⟩
  simp [meanFault, h, this]
theorem meanFault_ok {zs : List Int} {n : Int} (h1 : 1 ≤ n) (h2 : n ≤ 1000) (h : zs.length = 3) (hg : ∀ j, j < 3 → sumB n (zs.getD j 0) = true) : meanFault zs n = 0 := by
  have h0 : ¬ (n < 1 ∨ 1000 < n) := by omega
  have : zs.all (sumB n) = true := by
    rw [List.all_eq_true]
    intro x hx
    obtain ⟨j, hj, rfl⟩ := List.mem_iff_getElem.1 hx
    have := hg j (by omega)
    simpa [List.getD, hj] using this
  simp [meanFault, h, this, h0]
theorem meanFault_zero {zs : List Int} {n : Int} (h : meanFault zs n = 0) : (1 ≤ n ∧ n ≤ 1000) ∧ ∃ x y z, zs = [x, y, z] ∧ (-1000 * n ≤ x ∧ x ≤ 1000 * n) ∧ (-1000 * n ≤ y ∧ y ≤ 1000 * n) ∧ (-1000 * n ≤ z ∧ z ≤ 1000 * n) := by
  unfold meanFault at h
  split at h
  · simp at h
  · next hn =>
    split at h
    · next hl =>
      split at h
      · next ha =>
        match zs, hl, ha with
        | [x, y, z], _, ha =>
          simp only [List.all_cons, List.all_nil, Bool.and_true, Bool.and_eq_true] at ha
          exact ⟨by omega, x, y, z, rfl, sumB_true ha.1, sumB_true ha.2.1, sumB_true ha.2.2⟩
      · simp at h
    · simp at h

end Go.Proofs.YtfgadegpdknocaaGreat

namespace Go.Proofs.YtfgadegpdknocaaGreat
open Go.RowKit

def cenFrom : List DCenter → Int
  | [] => 0
  | c :: cs => if vecFault c.vec = 0 then cenFrom cs else vecFault c.vec
def centersFault (cs : List DCenter) : Int := if cs.length < 1 ∨ 6 < cs.length then 2 else cenFrom cs
theorem cenFrom_step (cs : List DCenter) (k : Nat) (h : k < cs.length) : cenFrom (cs.drop k) = if vecFault cs[k].vec = 0 then cenFrom (cs.drop (k + 1)) else vecFault cs[k].vec := by
  rw [List.drop_eq_getElem_cons h]
  rfl
theorem cenFrom_zero {cs : List DCenter} (h : cenFrom cs = 0) : ∀ c ∈ cs, vecFault c.vec = 0 := by
  induction cs with
  | nil => simp
  | cons c cs ih =>
    rw [cenFrom] at h
    by_cases h1 : vecFault c.vec = 0
    · rw [if_pos h1] at h
      intro d hd
      rcases List.mem_cons.1 hd with rfl | hd
      · exact h1
      · exact ih h d hd
    · rw [if_neg h1] at h; exact absurd h h1
theorem cenFrom_of {cs : List DCenter} (h : ∀ c ∈ cs, vecFault c.vec = 0) : cenFrom cs = 0 := by
  induction cs with
  | nil => rfl
  | cons c cs ih => rw [cenFrom, if_pos (h c (by simp))]; exact ih fun d hd => h d (List.mem_cons_of_mem _ hd)
theorem centersFault_zero {cs : List DCenter} (h : centersFault cs = 0) : (1 ≤ cs.length ∧ cs.length ≤ 6) ∧ ∀ c ∈ cs, vecFault c.vec = 0 := by
  unfold centersFault at h
  by_cases hn : cs.length < 1 ∨ 6 < cs.length
  · rw [if_pos hn] at h; cases h
  · rw [if_neg hn] at h
    exact ⟨by omega, cenFrom_zero h⟩
theorem centersFault_of {cs : List DCenter} (h1 : 1 ≤ cs.length ∧ cs.length ≤ 6) (h2 : ∀ c ∈ cs, vecFault c.vec = 0) : centersFault cs = 0 := by
  unfold centersFault
  rw [if_neg (by omega)]
  exact cenFrom_of h2
theorem vecFault_bd (q : List Int) : 0 ≤ vecFault q ∧ vecFault q ≤ 3 := by unfold vecFault; split <;> (try split) <;> decide
theorem centersFault_bd (cs : List DCenter) : 0 ≤ centersFault cs ∧ centersFault cs ≤ 3 := by
  unfold centersFault
  split
  · decide
  · induction cs with
    | nil => decide
    | cons c cs ih =>
      rw [cenFrom]
      split
      · by_cases h : cs.length < 1 ∨ 6 < cs.length
        · have hc : cs = [] ∨ 6 < cs.length := by
            rcases h with h | h
            · exact Or.inl (List.eq_nil_of_length_eq_zero (by omega))
            · exact Or.inr h
          rcases hc with rfl | hc
          · decide
          · rename_i h1 _
            simp only [List.length_cons] at h1
            omega
        · exact ih h
      · exact vecFault_bd _
theorem centersFault_wf (cs : List DCenter) : (Lit.int .i64 (centersFault cs)).wf = true := wf_of_bd (by have := centersFault_bd cs; omega)

/-- The nearest among the first k, and its score. -/
def nearK (cs : List DCenter) (v : List Int) : Nat → Nat × Int
  | 0 => (0, 12000001)
  | k + 1 => if score3 (cs.getD k ⟨[]⟩).vec v < (nearK cs v k).2 then (k, score3 (cs.getD k ⟨[]⟩).vec v) else nearK cs v k
def near (cs : List DCenter) (v : List Int) : Nat := (nearK cs v cs.length).1
def nearS (cs : List DCenter) (v : List Int) : Int := (nearK cs v cs.length).2
theorem getD_at {α : Type} {xs : List α} {k : Nat} (h : k < xs.length) (d : α) : xs.getD k d = xs[k] := by simp [List.getD, h]
theorem nearK_step (cs : List DCenter) (v : List Int) (k : Nat) (h : k < cs.length) : nearK cs v (k + 1) = if score3 cs[k].vec v < (nearK cs v k).2 then (k, score3 cs[k].vec v) else nearK cs v k := by
  rw [nearK, getD_at h]
theorem nearK_right {cs : List DCenter} {v : List Int} (hc : ∀ c ∈ cs, vecFault c.vec = 0) (hv : vecFault v = 0) (k : Nat) (h1 : 1 ≤ k) (h2 : k ≤ cs.length) :
    (nearK cs v k).1 < k ∧ (nearK cs v k).2 = score3 (cs.getD (nearK cs v k).1 ⟨[]⟩).vec v ∧ 0 ≤ (nearK cs v k).2 ∧ (nearK cs v k).2 ≤ 12000000 := by
  induction k with
  | zero => omega
  | succ k ih =>
    have hk : k < cs.length := by omega
    have hs := cscore_bd (hc cs[k] (List.getElem_mem hk)) hv
    rw [nearK_step cs v k hk]
    by_cases hl : score3 cs[k].vec v < (nearK cs v k).2
    · rw [if_pos hl]
      refine ⟨by simp, ?_, hs.1, hs.2⟩
      simp only [getD_at hk]
    · rw [if_neg hl]
      have hk0 : 1 ≤ k := by
        apply Nat.succ_le_of_lt
        apply Nat.pos_of_ne_zero
        rintro rfl
        simp only [nearK] at hl
        omega
      obtain ⟨a, b, c⟩ := ih hk0 (by omega)
      exact ⟨by omega, b, c⟩
theorem nearK_bd {cs : List DCenter} {v : List Int} (hc : ∀ c ∈ cs, vecFault c.vec = 0) (hv : vecFault v = 0) (k : Nat) (h2 : k ≤ cs.length) : 0 ≤ (nearK cs v k).2 ∧ (nearK cs v k).2 ≤ 12000001 ∧ (nearK cs v k).1 ≤ k := by
  by_cases h : 1 ≤ k
  · obtain ⟨a, -, b, c⟩ := nearK_right hc hv k h h2
    omega
  · obtain rfl : k = 0 := by omega
    simp [nearK]
theorem near_lt {cs : List DCenter} {v : List Int} (hc : centersFault cs = 0) (hv : vecFault v = 0) : near cs v < cs.length := by
  obtain ⟨⟨a, b⟩, c⟩ := centersFault_zero hc
  exact (nearK_right c hv cs.length a (Nat.le_refl _)).1
theorem nearS_eq {cs : List DCenter} {v : List Int} (hc : centersFault cs = 0) (hv : vecFault v = 0) (h : near cs v < cs.length) : nearS cs v = score3 (cs[near cs v]).vec v ∧ 0 ≤ nearS cs v ∧ nearS cs v ≤ 12000000 := by
  obtain ⟨⟨a, b⟩, c⟩ := centersFault_zero hc
  obtain ⟨-, e, b1, b2⟩ := nearK_right c hv cs.length a (Nat.le_refl _)
  refine ⟨?_, b1, b2⟩
  rw [← getD_at h ⟨[]⟩]
  exact e

/-- The places of the nearest centers. -/
def placesL (cs : List DCenter) (xs : List DItem) : List Int := xs.map fun x => (near cs x.vec : Int)
/-- The cost of the first k items. -/
def costK (cs : List DCenter) (xs : List DItem) : Nat → Int
  | 0 => 0
  | k + 1 => costK cs xs k + nearS cs (xs.getD k ⟨0, []⟩).vec
def cost (cs : List DCenter) (xs : List DItem) : Int := costK cs xs xs.length
theorem costK_step (cs : List DCenter) (xs : List DItem) (k : Nat) (h : k < xs.length) : costK cs xs (k + 1) = costK cs xs k + nearS cs xs[k].vec := by rw [costK, getD_at h]
theorem costK_bd {cs : List DCenter} {xs : List DItem} (hc : centersFault cs = 0) (hx : ∀ x ∈ xs, vecFault x.vec = 0) (k : Nat) (h : k ≤ xs.length) : 0 ≤ costK cs xs k ∧ costK cs xs k ≤ 12000000 * k := by
  induction k with
  | zero => simp [costK]
  | succ k ih =>
    have hk : k < xs.length := by omega
    have i := ih (by omega)
    have s := (nearS_eq hc (hx xs[k] (List.getElem_mem hk)) (near_lt hc (hx xs[k] (List.getElem_mem hk)))).2
    rw [costK_step cs xs k hk]
    omega

/-- How many of the first k items are at place p, and the sums of their parts. -/
def cntK (cs : List DCenter) (xs : List DItem) (p : Nat) : Nat → Int
  | 0 => 0
  | k + 1 => if near cs (xs.getD k ⟨0, []⟩).vec = p then cntK cs xs p k + 1 else cntK cs xs p k
def sumK (cs : List DCenter) (xs : List DItem) (p j : Nat) : Nat → Int
  | 0 => 0
  | k + 1 => if near cs (xs.getD k ⟨0, []⟩).vec = p then sumK cs xs p j k + (xs.getD k ⟨0, []⟩).vec.getD j 0 else sumK cs xs p j k
theorem cntK_step (cs : List DCenter) (xs : List DItem) (p k : Nat) (h : k < xs.length) : cntK cs xs p (k + 1) = if near cs xs[k].vec = p then cntK cs xs p k + 1 else cntK cs xs p k := by rw [cntK, getD_at h]
theorem sumK_step (cs : List DCenter) (xs : List DItem) (p j k : Nat) (h : k < xs.length) : sumK cs xs p j (k + 1) = if near cs xs[k].vec = p then sumK cs xs p j k + xs[k].vec.getD j 0 else sumK cs xs p j k := by rw [sumK, getD_at h]
theorem cntK_bd (cs : List DCenter) (xs : List DItem) (p k : Nat) : 0 ≤ cntK cs xs p k ∧ cntK cs xs p k ≤ k := by
  induction k with
  | zero => simp [cntK]
  | succ k ih =>
    rw [cntK]
    split <;> omega
theorem sumK_bd (cs : List DCenter) {xs : List DItem} (hx : ∀ x ∈ xs, vecFault x.vec = 0) (p j : Nat) (hj : j < 3) (k : Nat) (h : k ≤ xs.length) : -1000 * cntK cs xs p k ≤ sumK cs xs p j k ∧ sumK cs xs p j k ≤ 1000 * cntK cs xs p k := by
  induction k with
  | zero => simp [cntK, sumK]
  | succ k ih =>
    have hk : k < xs.length := by omega
    have i := ih (by omega)
    have b := (vecFault_zero (hx xs[k] (List.getElem_mem hk))).2 j hj
    rw [cntK_step cs xs p k hk, sumK_step cs xs p j k hk]
    split <;> omega
def cnt (cs : List DCenter) (xs : List DItem) (p : Nat) : Int := cntK cs xs p xs.length
def sums (cs : List DCenter) (xs : List DItem) (p : Nat) : List Int := [sumK cs xs p 0 xs.length, sumK cs xs p 1 xs.length, sumK cs xs p 2 xs.length]
/-- Where the center at place p moves to. -/
def meanAt (cs : List DCenter) (xs : List DItem) (p : Nat) : List Int := if cnt cs xs p = 0 then (cs.getD p ⟨[]⟩).vec else meanList (sums cs xs p) (cnt cs xs p)
def moved (cs : List DCenter) (xs : List DItem) : List DCenter := (List.range cs.length).map fun p => ⟨meanAt cs xs p⟩
theorem moved_len (cs : List DCenter) (xs : List DItem) : (moved cs xs).length = cs.length := by simp [moved]
theorem sums_right (cs : List DCenter) {xs : List DItem} (ht : tableFault xs = 0) (p : Nat) (h : cnt cs xs p ≠ 0) : meanFault (sums cs xs p) (cnt cs xs p) = 0 ∧ (1 ≤ cnt cs xs p ∧ cnt cs xs p ≤ 1000) := by
  obtain ⟨hl, ha, -⟩ := tableFault_zero ht
  have hx : ∀ x ∈ xs, vecFault x.vec = 0 := fun x hm => (ha x hm).2
  have hb := cntK_bd cs xs p xs.length
  unfold cnt at h
  have h1 : 1 ≤ cnt cs xs p ∧ cnt cs xs p ≤ 1000 := by unfold cnt; omega
  refine ⟨?_, h1⟩
  unfold meanFault
  rw [if_neg (by omega), if_pos (show (sums cs xs p).length = 3 from rfl), if_pos]
  have s0 := sumK_bd cs hx p 0 (by omega) xs.length (Nat.le_refl _)
  have s1 := sumK_bd cs hx p 1 (by omega) xs.length (Nat.le_refl _)
  have s2 := sumK_bd cs hx p 2 (by omega) xs.length (Nat.le_refl _)
  simp only [sums, List.all_cons, List.all_nil, sumB, cnt, Bool.and_eq_true, decide_eq_true_eq, and_true]
  exact ⟨s0, s1, s2⟩
theorem meanAt_right {cs : List DCenter} {xs : List DItem} (hc : centersFault cs = 0) (ht : tableFault xs = 0) (p : Nat) (hp : p < cs.length) : vecFault (meanAt cs xs p) = 0 := by
  unfold meanAt
  by_cases h : cnt cs xs p = 0
  · rw [if_pos h, getD_at hp]
    exact (centersFault_zero hc).2 _ (List.getElem_mem hp)
  · rw [if_neg h]
    obtain ⟨h1, h2, h3⟩ := sums_right cs ht p h
    obtain ⟨-, x, y, z, e, ⟨x1, x2⟩, ⟨y1, y2⟩, ⟨z1, z2⟩⟩ := meanFault_zero h1
    rw [meanList, if_pos h1, e]
    have b1 := mean_bd x _ h2 x1 x2
    have b2 := mean_bd y _ h2 y1 y2
    have b3 := mean_bd z _ h2 z1 z2
    refine vecFault_ok rfl fun j hj => ?_
    match j, hj with
    | 0, _ => simp only [List.getD_cons_zero, partB, Bool.and_eq_true, decide_eq_true_eq]; exact b1
    | 1, _ => simp only [List.getD_cons_zero, List.getD_cons_succ, partB, Bool.and_eq_true, decide_eq_true_eq]; exact b2
    | 2, _ => simp only [List.getD_cons_zero, List.getD_cons_succ, partB, Bool.and_eq_true, decide_eq_true_eq]; exact b3
theorem moved_right {cs : List DCenter} {xs : List DItem} (hc : centersFault cs = 0) (ht : tableFault xs = 0) : centersFault (moved cs xs) = 0 := by
  refine centersFault_of (by rw [moved_len]; exact (centersFault_zero hc).1) fun c hm => ?_
  obtain ⟨p, hp, rfl⟩ := List.mem_map.1 hm
  exact meanAt_right hc ht p (List.mem_range.1 hp)
theorem moved_take (cs : List DCenter) (xs : List DItem) (k : Nat) (hk : k < cs.length) : (moved cs xs).take (k + 1) = (moved cs xs).take k ++ [⟨meanAt cs xs k⟩] := by
  rw [List.take_succ_eq_append_getElem (by rw [moved_len]; exact hk)]
  simp [moved]

/-! ### Training -/
def seedB (s : Int) : Bool := decide (0 ≤ s) && decide (s ≤ 9999)
def trainFault (xs : List DItem) (seeds : List Int) (rounds : Int) : Int :=
  if tableFault xs = 0 then (if xs.length = 0 then 4 else if seeds.length < 1 ∨ 6 < seeds.length then 2 else if (decide (0 ≤ rounds) && decide (rounds ≤ 20)) then (if seeds.all seedB then 0 else 3) else 3) else tableFault xs
def seedC (xs : List DItem) (s : Int) : DCenter := ⟨(xs.getD (s.toNat % xs.length) ⟨0, []⟩).vec⟩
def seedCs (xs : List DItem) (seeds : List Int) : List DCenter := seeds.map (seedC xs)
def trainN (xs : List DItem) : Nat → List DCenter → List DCenter
  | 0, cs => cs
  | r + 1, cs => if cost cs xs ≤ cost (moved cs xs) xs then cs else trainN xs r (moved cs xs)
def trainR (xs : List DItem) (seeds : List Int) (rounds : Int) : DCentersResult :=
  if trainFault xs seeds rounds = 0 then ⟨0, trainN xs rounds.toNat (seedCs xs seeds)⟩ else ⟨trainFault xs seeds rounds, []⟩
theorem seedCs_right {xs : List DItem} {seeds : List Int} (ht : tableFault xs = 0) (h0 : xs.length ≠ 0) (hs : 1 ≤ seeds.length ∧ seeds.length ≤ 6) : centersFault (seedCs xs seeds) = 0 := by
  refine centersFault_of (by simpa [seedCs] using hs) fun c hm => ?_
  obtain ⟨s, -, rfl⟩ := List.mem_map.1 hm
  have hl : s.toNat % xs.length < xs.length := Nat.mod_lt _ (by omega)
  show vecFault (xs.getD (s.toNat % xs.length) ⟨0, []⟩).vec = 0
  rw [getD_at hl]
  exact ((tableFault_zero ht).2.1 _ (List.getElem_mem hl)).2
theorem trainN_right {xs : List DItem} (ht : tableFault xs = 0) (r : Nat) (cs : List DCenter) (hc : centersFault cs = 0) : centersFault (trainN xs r cs) = 0 ∧ (trainN xs r cs).length = cs.length ∧ cost (trainN xs r cs) xs ≤ cost cs xs := by
  induction r generalizing cs with
  | zero => exact ⟨hc, rfl, Int.le_refl _⟩
  | succ r ih =>
    rw [trainN]
    split
    · exact ⟨hc, rfl, Int.le_refl _⟩
    · obtain ⟨a, b, c⟩ := ih (moved cs xs) (moved_right hc ht)
      rename_i hlt
      exact ⟨a, by rw [b, moved_len], by omega⟩
theorem trainFault_bd (xs : List DItem) (seeds : List Int) (rounds : Int) (h : 0 ≤ tableFault xs ∧ tableFault xs ≤ 9) : 0 ≤ trainFault xs seeds rounds ∧ trainFault xs seeds rounds ≤ 9 := by
  unfold trainFault
  split
  · split
    · decide
    · split
      · decide
      · split
        · split <;> decide
        · decide
  · exact h

end Go.Proofs.YtfgadegpdknocaaGreat

namespace Go.Proofs.YtfgadegpdknocaaGreat
open Go.RowKit

structure DIntResult where
  code : Int
  value : Int

def Lay.tIntResult : Lay DIntResult := Lay.via (Lay.pair Lay.int Lay.int) (fun x => (x.code, x.value)) (fun p => ⟨p.1, p.2⟩)

theorem lies_IntResult {w : World} {cs : List Value} {x : DIntResult} {bl : List Nat} : Lay.tIntResult.lies w cs x bl ↔ cs = [.int .i64 x.code, .int .i64 x.value] ∧ bl = [] ∧ (Lit.int .i64 x.code).wf = true ∧ (Lit.int .i64 x.value).wf = true := by
  constructor
  · intro h
    obtain ⟨c0_, r0_, e0_, s0_, rfl, rfl, h0, h1⟩ := h
    obtain ⟨rfl, w0, rfl⟩ := h0
    obtain ⟨rfl, w1, rfl⟩ := h1
    exact ⟨by simp, by simp, w0, w1⟩
  · rintro ⟨rfl, hbl, w0, w1⟩
    rw [hbl]
    exact ⟨[.int .i64 x.code], [.int .i64 x.value], [], [], rfl, by simp, ⟨rfl, w0, rfl⟩, ⟨rfl, w1, rfl⟩⟩

end Go.Proofs.YtfgadegpdknocaaGreat

namespace Go.Proofs.YtfgadegpdknocaaGreat
open Go.RowKit

def nearestR (cs : List DCenter) (q : List Int) : DIntResult := if centersFault cs = 0 then (if vecFault q = 0 then ⟨0, (near cs q : Nat)⟩ else ⟨vecFault q, 0⟩) else ⟨centersFault cs, 0⟩
def askFault (cs : List DCenter) (xs : List DItem) : Int := if centersFault cs = 0 then tableFault xs else centersFault cs
theorem askFault_zero {cs : List DCenter} {xs : List DItem} (h : askFault cs xs = 0) : centersFault cs = 0 ∧ tableFault xs = 0 := by
  unfold askFault at h
  by_cases hc : centersFault cs = 0
  · rw [if_pos hc] at h; exact ⟨hc, h⟩
  · rw [if_neg hc] at h; exact absurd h hc
def assignR (cs : List DCenter) (xs : List DItem) : DIntsResult := if askFault cs xs = 0 then ⟨0, placesL cs xs⟩ else ⟨askFault cs xs, []⟩
def costR (cs : List DCenter) (xs : List DItem) : DIntResult := if askFault cs xs = 0 then ⟨0, cost cs xs⟩ else ⟨askFault cs xs, 0⟩
def movedR (cs : List DCenter) (xs : List DItem) : DCentersResult := if askFault cs xs = 0 then ⟨0, moved cs xs⟩ else ⟨askFault cs xs, []⟩
theorem own_intR {w : World} {c x : Int} {lo hi : Nat} (hc : (Lit.int .i64 c).wf = true) (hx : (Lit.int .i64 x).wf = true) : Lay.tIntResult.OwnIn w [.int .i64 c, .int .i64 x] ⟨c, x⟩ lo hi :=
  ⟨[], ⟨⟨[.int .i64 c], [.int .i64 x], [], [], rfl, by simp, ⟨rfl, hc, rfl⟩, ⟨rfl, hx, rfl⟩⟩, by simp, by simp⟩, by simp⟩
theorem own_censR {w : World} {c : Int} {v : Value} {cs : List DCenter} {lo hi : Nat} (hc : (Lit.int .i64 c).wf = true) (h : (Lay.sl Lay.tCenter).OwnIn w [v] cs lo hi) : Lay.tCentersResult.OwnIn w [.int .i64 c, v] ⟨c, cs⟩ lo hi := by
  obtain ⟨bl, ⟨l, n, f⟩, i⟩ := h
  exact ⟨bl, ⟨⟨[.int .i64 c], [v], [], bl, rfl, by simp, ⟨rfl, hc, rfl⟩, l⟩, n, f⟩, i⟩
theorem own_codeCens {w : World} {c : Int} {lo hi : Nat} (hc : (Lit.int .i64 c).wf = true) : Lay.tCentersResult.OwnIn w [.int .i64 c, .slice none 0 0] ⟨c, []⟩ lo hi := own_censR hc ⟨[], ⟨⟨none, 0, rfl, by simp, Or.inl ⟨rfl, rfl⟩⟩, by simp, by simp⟩, by simp⟩
theorem read_censR {w : World} {c : Int} {v : Value} {cs : List DCenter} (hc : (Lit.int .i64 c).wf = true) (h : (Lay.sl Lay.tCenter).Reads w [v] cs) : Lay.tCentersResult.Reads w [.int .i64 c, v] ⟨c, cs⟩ := by
  obtain ⟨bl, l⟩ := h
  exact ⟨bl, [.int .i64 c], [v], [], bl, rfl, by simp, ⟨rfl, hc, rfl⟩, l⟩
theorem own_intsR6 {w : World} {c : Int} {v : Value} {zs : List Int} {lo hi : Nat} (hc : (Lit.int .i64 c).wf = true) (h : (Lay.sl Lay.int).OwnIn w [v] zs lo hi) : Lay.tIntsResult.OwnIn w [.int .i64 c, v] ⟨c, zs⟩ lo hi := by
  obtain ⟨bl, ⟨l, n, f⟩, i⟩ := h
  exact ⟨bl, ⟨⟨[.int .i64 c], [v], [], bl, rfl, by simp, ⟨rfl, hc, rfl⟩, l⟩, n, f⟩, i⟩
theorem own_codeInts6 {w : World} {c : Int} {lo hi : Nat} (hc : (Lit.int .i64 c).wf = true) : Lay.tIntsResult.OwnIn w [.int .i64 c, .slice none 0 0] ⟨c, []⟩ lo hi := own_intsR6 hc ⟨[], ⟨⟨none, 0, rfl, by simp, Or.inl ⟨rfl, rfl⟩⟩, by simp, by simp⟩, by simp⟩
theorem tabFrom_bd (p : Option Int) (xs : List DItem) : 0 ≤ tabFrom p xs ∧ tabFrom p xs ≤ 3 := by
  induction xs generalizing p with
  | nil => show (0 : Int) ≤ 0 ∧ (0 : Int) ≤ 3; decide
  | cons x xs ih =>
    rw [tabFrom]
    split
    · split
      · split
        · exact ih _
        · decide
      · exact vecFault_bd _
    · decide
theorem tableFault_bd (xs : List DItem) : 0 ≤ tableFault xs ∧ tableFault xs ≤ 3 := by
  unfold tableFault
  split
  · decide
  · exact tabFrom_bd _ _
theorem askFault_bd (cs : List DCenter) (xs : List DItem) : 0 ≤ askFault cs xs ∧ askFault cs xs ≤ 3 := by
  unfold askFault
  split
  · exact tableFault_bd xs
  · exact centersFault_bd cs
theorem askFault_wf (cs : List DCenter) (xs : List DItem) : (Lit.int .i64 (askFault cs xs)).wf = true := wf_of_bd (by have := askFault_bd cs xs; omega)

end Go.Proofs.YtfgadegpdknocaaGreat

namespace Go.Proofs.YtfgadegpdknocaaGreat
open Go.RowKit

structure DIvfResult where
  code : Int
  ivf : DIvf

def Lay.tIvfResult : Lay DIvfResult := Lay.via (Lay.pair Lay.int Lay.tIvf) (fun x => (x.code, x.ivf)) (fun p => ⟨p.1, p.2⟩)

theorem lies_IvfResult {w : World} {cs : List Value} {x : DIvfResult} {bl : List Nat} : Lay.tIvfResult.lies w cs x bl ↔ ∃ (a1 : Option Addr) (d1 : Nat) (b1 : List Nat) (a2 : Option Addr) (d2 : Nat) (b2 : List Nat), cs = [.int .i64 x.code, .slice a1 x.ivf.centers.length d1, .slice a2 x.ivf.lists.length d2] ∧ bl = b1 ++ b2 ∧ (Lit.int .i64 x.code).wf = true ∧ (Lay.sl Lay.tCenter).lies w [.slice a1 x.ivf.centers.length d1] x.ivf.centers b1 ∧ (Lay.sl Lay.tIvfList).lies w [.slice a2 x.ivf.lists.length d2] x.ivf.lists b2 := by
  constructor
  · intro h
    obtain ⟨c0_, r0_, e0_, s0_, rfl, rfl, h0, h1⟩ := h
    obtain ⟨rfl, w0, rfl⟩ := h0
    obtain ⟨a1, d1, q1, a2, d2, q2, rfl, hq1, l1, l2⟩ := lies_Ivf.1 h1
    exact ⟨a1, d1, q1, a2, d2, q2, by simp, by simp [hq1], w0, l1, l2⟩
  · rintro ⟨a1, d1, b1, a2, d2, b2, rfl, hbl, w0, l1, l2⟩
    rw [hbl]
    exact ⟨[.int .i64 x.code], [.slice a1 x.ivf.centers.length d1, .slice a2 x.ivf.lists.length d2], [], b1 ++ b2, rfl, by simp, ⟨rfl, w0, rfl⟩, lies_Ivf.2 ⟨a1, d1, b1, a2, d2, b2, rfl, rfl, l1, l2⟩⟩

theorem open_IvfResult {w : World} {cs : List Value} {x : DIvfResult} (h : Lay.tIvfResult.Reads w cs x) : ∃ (a1 : Option Addr) (d1 : Nat) (a2 : Option Addr) (d2 : Nat), cs = [.int .i64 x.code, .slice a1 x.ivf.centers.length d1, .slice a2 x.ivf.lists.length d2] ∧ Lay.tIvf.Reads w [.slice a1 x.ivf.centers.length d1, .slice a2 x.ivf.lists.length d2] x.ivf := by
  obtain ⟨bl, h⟩ := h
  obtain ⟨a1, d1, b1, a2, d2, b2, rfl, -, w0, l1, l2⟩ := lies_IvfResult.1 h
  exact ⟨a1, d1, a2, d2, rfl, ⟨_, lies_Ivf.2 ⟨a1, d1, _, a2, d2, _, rfl, rfl, l1, l2⟩⟩⟩

end Go.Proofs.YtfgadegpdknocaaGreat

namespace Go.Proofs.YtfgadegpdknocaaGreat
open Go.RowKit

/-- All of list i are nearest to center i. -/
def atB (cs : List DCenter) (i : Nat) (xs : List DItem) : Bool := xs.all fun x => near cs x.vec == i
def listFault (cs : List DCenter) (i : Nat) (xs : List DItem) : Int := if tableFault xs = 0 then (if atB cs i xs then 0 else 1) else tableFault xs
def listsFrom (cs : List DCenter) : Nat → List DIvfList → Int
  | _, [] => 0
  | i, l :: ls => if listFault cs i l.items = 0 then listsFrom cs (i + 1) ls else listFault cs i l.items
/-- All items, put one behind the other. -/
def gatherI (out : List DItem) (xs : List DItem) : List DItem := xs.foldl (fun o x => putI o x.id x.vec) out
def allIs (ls : List DIvfList) : List DItem := ls.foldl (fun o l => gatherI o l.items) []
def countIs : List DIvfList → Nat
  | [] => 0
  | l :: ls => l.items.length + countIs ls
def ivfFault (x : DIvf) : Int :=
  if centersFault x.centers = 0 then (if x.lists.length = x.centers.length then (if listsFrom x.centers 0 x.lists = 0 then (if (allIs x.lists).length = countIs x.lists then (if countIs x.lists ≤ 30 then 0 else 2) else 6) else listsFrom x.centers 0 x.lists) else 1) else centersFault x.centers
/-- The items of center i. -/
def mineI (cs : List DCenter) (xs : List DItem) (i : Nat) : List DItem := xs.filter fun x => near cs x.vec == i
def buildI (cs : List DCenter) (xs : List DItem) : DIvf := ⟨cs, (List.range cs.length).map fun i => ⟨mineI cs xs i⟩⟩
def emptyI : DIvf := ⟨[], []⟩
def buildIvfR (cs : List DCenter) (xs : List DItem) : DIvfResult := if askFault cs xs = 0 then ⟨0, buildI cs xs⟩ else ⟨askFault cs xs, emptyI⟩
def askedI (x : DIvf) (id : Int) : Int := if ivfFault x = 0 then (if idB id then 0 else 3) else ivfFault x
def addIvfR (x : DIvf) (id : Int) (vec : List Int) : DIvfResult :=
  if askedI x id = 0 then (if vecFault vec = 0 then (if 30 ≤ (allIs x.lists).length ∧ hasI (allIs x.lists) id = false then ⟨2, emptyI⟩ else ⟨0, buildI x.centers (putI (allIs x.lists) id vec)⟩) else ⟨vecFault vec, emptyI⟩) else ⟨askedI x id, emptyI⟩
def dropIvfR (x : DIvf) (id : Int) : DIvfResult := if askedI x id = 0 then ⟨0, buildI x.centers (dropI (allIs x.lists) id)⟩ else ⟨askedI x id, emptyI⟩
def itemsIvfR (x : DIvf) : DTableResult := if ivfFault x = 0 then ⟨0, allIs x.lists⟩ else ⟨ivfFault x, []⟩

theorem listsFrom_step (cs : List DCenter) (ls : List DIvfList) (k : Nat) (h : k < ls.length) : listsFrom cs k (ls.drop k) = if listFault cs k ls[k].items = 0 then listsFrom cs (k + 1) (ls.drop (k + 1)) else listFault cs k ls[k].items := by
  rw [List.drop_eq_getElem_cons h]
  rfl
theorem listFault_zero {cs : List DCenter} {i : Nat} {xs : List DItem} (h : listFault cs i xs = 0) : tableFault xs = 0 ∧ atB cs i xs = true := by
  unfold listFault at h
  by_cases h1 : tableFault xs = 0
  · rw [if_pos h1] at h
    by_cases h2 : atB cs i xs = true
    · exact ⟨h1, h2⟩
    · rw [if_neg h2] at h; cases h
  · rw [if_neg h1] at h; exact absurd h h1
theorem listsFrom_zero {cs : List DCenter} {i : Nat} {ls : List DIvfList} (h : listsFrom cs i ls = 0) : ∀ j (hj : j < ls.length), tableFault ls[j].items = 0 ∧ atB cs (i + j) ls[j].items = true := by
  induction ls generalizing i with
  | nil => intro j hj; simp at hj
  | cons l ls ih =>
    rw [listsFrom] at h
    by_cases h1 : listFault cs i l.items = 0
    · rw [if_pos h1] at h
      intro j hj
      match j with
      | 0 => exact listFault_zero h1
      | j + 1 =>
        have := ih h j (by simpa using hj)
        simpa [Nat.add_comm, Nat.add_left_comm] using this
    · rw [if_neg h1] at h; exact absurd h h1
theorem listFault_bd (cs : List DCenter) (i : Nat) (xs : List DItem) : 0 ≤ listFault cs i xs ∧ listFault cs i xs ≤ 3 := by
  unfold listFault
  split
  · split <;> decide
  · exact tableFault_bd xs
theorem listsFrom_bd (cs : List DCenter) (i : Nat) (ls : List DIvfList) : 0 ≤ listsFrom cs i ls ∧ listsFrom cs i ls ≤ 3 := by
  induction ls generalizing i with
  | nil => show (0 : Int) ≤ 0 ∧ (0 : Int) ≤ 3; decide
  | cons l ls ih =>
    rw [listsFrom]
    split
    · exact ih _
    · exact listFault_bd _ _ _
theorem ivfFault_bd (x : DIvf) : 0 ≤ ivfFault x ∧ ivfFault x ≤ 6 := by
  unfold ivfFault
  split
  · split
    · split
      · split
        · split <;> decide
        · decide
      · have := listsFrom_bd x.centers 0 x.lists; omega
    · decide
  · have := centersFault_bd x.centers; omega
theorem ivfFault_wf (x : DIvf) : (Lit.int .i64 (ivfFault x)).wf = true := wf_of_bd (by have := ivfFault_bd x; omega)
theorem ivfFault_zero {x : DIvf} (h : ivfFault x = 0) : centersFault x.centers = 0 ∧ x.lists.length = x.centers.length ∧ listsFrom x.centers 0 x.lists = 0 ∧ (allIs x.lists).length = countIs x.lists ∧ countIs x.lists ≤ 30 := by
  unfold ivfFault at h
  by_cases h1 : centersFault x.centers = 0
  · rw [if_pos h1] at h
    by_cases h2 : x.lists.length = x.centers.length
    · rw [if_pos h2] at h
      by_cases h3 : listsFrom x.centers 0 x.lists = 0
      · rw [if_pos h3] at h
        by_cases h4 : (allIs x.lists).length = countIs x.lists
        · rw [if_pos h4] at h
          by_cases h5 : countIs x.lists ≤ 30
          · exact ⟨h1, h2, h3, h4, h5⟩
          · rw [if_neg h5] at h; cases h
        · rw [if_neg h4] at h; cases h
      · rw [if_neg h3] at h; exact absurd h h3
    · rw [if_neg h2] at h; cases h
  · rw [if_neg h1] at h; exact absurd h h1
theorem gatherI_step (out xs : List DItem) (k : Nat) (h : k < xs.length) : gatherI out (xs.take (k + 1)) = putI (gatherI out (xs.take k)) xs[k].id xs[k].vec := by
  rw [gatherI, List.take_succ_eq_append_getElem h, List.foldl_append]
  rfl
theorem allIs_step (ls : List DIvfList) (k : Nat) (h : k < ls.length) : allIs (ls.take (k + 1)) = gatherI (allIs (ls.take k)) ls[k].items := by
  rw [allIs, List.take_succ_eq_append_getElem h, List.foldl_append]
  rfl
theorem gatherI_rising {out : List DItem} (h : Rising out) (xs : List DItem) : Rising (gatherI out xs) := by
  induction xs generalizing out with
  | nil => exact h
  | cons x xs ih => exact ih (putI_rising h x.id x.vec)
theorem allIs_rising (ls : List DIvfList) : Rising (allIs ls) := by
  have : ∀ (o : List DItem), Rising o → Rising (ls.foldl (fun o l => gatherI o l.items) o) := by
    induction ls with
    | nil => exact fun o h => h
    | cons l ls ih => exact fun o h => ih _ (gatherI_rising h l.items)
  exact this [] List.Pairwise.nil
theorem putI_len_le {xs : List DItem} (h : Rising xs) (id : Int) (vec : List Int) : (putI xs id vec).length ≤ xs.length + 1 := by
  rw [putI_len h]
  split <;> omega
theorem gatherI_len {out : List DItem} (h : Rising out) (xs : List DItem) : (gatherI out xs).length ≤ out.length + xs.length := by
  induction xs generalizing out with
  | nil => exact Nat.le_refl _
  | cons x xs ih =>
    have h1 := ih (putI_rising h x.id x.vec)
    have h2 := putI_len_le h x.id x.vec
    have e : gatherI out (x :: xs) = gatherI (putI out x.id x.vec) xs := rfl
    rw [e, List.length_cons]
    omega
theorem gatherI_mem {out xs : List DItem} {y : DItem} (h : y ∈ gatherI out xs) : y ∈ out ∨ y ∈ xs := by
  induction xs generalizing out with
  | nil => exact Or.inl h
  | cons x xs ih =>
    rcases ih h with h1 | h1
    · rcases mem_putI.1 h1 with rfl | ⟨h2, -⟩
      · exact Or.inr (by cases x; simp)
      · exact Or.inl h2
    · exact Or.inr (List.mem_cons_of_mem _ h1)
theorem foldIs_mem (ls : List DIvfList) (o : List DItem) {y : DItem} (h : y ∈ ls.foldl (fun o l => gatherI o l.items) o) : y ∈ o ∨ ∃ l ∈ ls, y ∈ l.items := by
  induction ls generalizing o with
  | nil => exact Or.inl h
  | cons l ls ih =>
    rcases ih _ h with h1 | ⟨m, h1, h2⟩
    · rcases gatherI_mem h1 with h3 | h3
      · exact Or.inl h3
      · exact Or.inr ⟨l, by simp, h3⟩
    · exact Or.inr ⟨m, List.mem_cons_of_mem _ h1, h2⟩
theorem allIs_mem {ls : List DIvfList} {y : DItem} (h : y ∈ allIs ls) : ∃ l ∈ ls, y ∈ l.items := by
  rcases foldIs_mem ls [] h with h1 | h1
  · cases h1
  · exact h1
theorem allIs_len (ls : List DIvfList) : (allIs ls).length ≤ countIs ls := by
  have : ∀ (o : List DItem), Rising o → (ls.foldl (fun o l => gatherI o l.items) o).length ≤ o.length + countIs ls := by
    induction ls with
    | nil => exact fun o _ => Nat.le_refl _
    | cons l ls ih =>
      intro o ho
      have h1 := ih (gatherI o l.items) (gatherI_rising ho l.items)
      have h2 := gatherI_len ho l.items
      simp only [List.foldl_cons, countIs]
      omega
  have := this [] List.Pairwise.nil
  rw [List.length_nil, Nat.zero_add] at this
  exact this
theorem countIs_take (ls : List DIvfList) (k : Nat) (h : k < ls.length) : countIs (ls.take (k + 1)) = countIs (ls.take k) + ls[k].items.length := by
  induction ls generalizing k with
  | nil => simp at h
  | cons l ls ih =>
    match k with
    | 0 => simp [countIs]
    | k + 1 =>
      have := ih k (by simpa using h)
      simp only [List.take_succ_cons, countIs, List.getElem_cons_succ]
      omega
theorem countIs_le {ls : List DIvfList} (h : ∀ l ∈ ls, l.items.length ≤ 30) : countIs ls ≤ 30 * ls.length := by
  induction ls with
  | nil => simp [countIs]
  | cons l ls ih =>
    have h1 := h l (by simp)
    have h2 := ih fun m hm => h m (List.mem_cons_of_mem _ hm)
    simp only [countIs, List.length_cons]
    omega
theorem mineI_step (cs : List DCenter) (xs : List DItem) (i k : Nat) (h : k < xs.length) : mineI cs (xs.take (k + 1)) i = if near cs xs[k].vec == i then mineI cs (xs.take k) i ++ [xs[k]] else mineI cs (xs.take k) i := by
  rw [mineI, List.take_succ_eq_append_getElem h, List.filter_append]
  split
  · next h1 => simp [mineI, h1]
  · next h1 => simp [mineI, h1]
theorem mineI_len (cs : List DCenter) (xs : List DItem) (i : Nat) : (mineI cs xs i).length ≤ xs.length := List.length_filter_le _ _
theorem buildI_take (cs : List DCenter) (xs : List DItem) (k : Nat) (h : k < cs.length) : (buildI cs xs).lists.take (k + 1) = (buildI cs xs).lists.take k ++ [⟨mineI cs xs k⟩] := by
  show ((List.range cs.length).map _).take (k + 1) = _
  rw [List.take_succ_eq_append_getElem (by simpa using h)]
  simp [buildI]
theorem buildI_len (cs : List DCenter) (xs : List DItem) : (buildI cs xs).lists.length = cs.length := by simp [buildI]
theorem list_facts {x : DIvf} (h1 : listsFrom x.centers 0 x.lists = 0) : ∀ l ∈ x.lists, tableFault l.items = 0 := by
  intro l hl
  obtain ⟨j, hj, rfl⟩ := List.getElem_of_mem hl
  exact (listsFrom_zero h1 j hj).1
theorem allIs_right {x : DIvf} (h : ivfFault x = 0) : tableFault (allIs x.lists) = 0 := by
  obtain ⟨h1, h2, h3, h4, h5⟩ := ivfFault_zero h
  refine tableFault_of (by omega) (fun y hy => ?_) (allIs_rising _)
  obtain ⟨l, hl, hy⟩ := allIs_mem hy
  exact (tableFault_zero (list_facts h3 l hl)).2.1 y hy

end Go.Proofs.YtfgadegpdknocaaGreat

namespace Go.Proofs.YtfgadegpdknocaaGreat
open Go.RowKit

/-- Blocks below n that are not in S are as they were. -/
def KpS (n : Nat) (S : Nat → Prop) (W W' : World) : Prop := W.heap.size ≤ W'.heap.size ∧ ∀ b, b < n → ¬ S b → W'.heap[b]? = W.heap[b]?
theorem KpS.refl (n : Nat) (S : Nat → Prop) (W : World) : KpS n S W W := ⟨Nat.le_refl _, fun _ _ _ => rfl⟩
theorem KpS.trans {n : Nat} {S : Nat → Prop} {a b c : World} (h : KpS n S a b) (k : KpS n S b c) : KpS n S a c := ⟨Nat.le_trans h.1 k.1, fun i h1 h2 => (k.2 i h1 h2).trans (h.2 i h1 h2)⟩
theorem KpS.put {n : Nat} (S : Nat → Prop) (W : World) (l : Nat) (o' : Obj) (hl : n ≤ l) : KpS n S W (W.putObj l o') :=
  ⟨by simp, fun b hb _ => World.putObj_heap_other (by omega)⟩
theorem KpS.of_ext {n : Nat} {S T : Nat → Prop} {a b : World} (h : Ext T a b) (hn : n ≤ a.heap.size) (hs : ∀ k, k < n → T k → S k) : KpS n S a b :=
  ⟨h.size, fun k hk hS => h.block k (by omega) fun ht => hS (hs k hk ht)⟩
theorem KpS.of_below {n : Nat} (S : Nat → Prop) {a b : World} (h : Below a.heap.size a b) (hn : n ≤ a.heap.size) : KpS n S a b := ⟨h.size, fun k hk _ => h.block k (by omega)⟩
theorem ext_of_grownBy {A B : World} {row : Option Nat} (h : A.grownBy B row) : Ext (fun q => row = some q) A B := ⟨h.os, h.tape, h.output, h.size, fun k hk hn => h.block k hk fun e => hn e.symm⟩
theorem keepsFrom_ext {B : Nat} {S : Nat → Prop} {a b : World} (h : Ext S a b) (hs : ∀ k o, B ≤ k → a.heap[k]? = some o → o.isCells = false → ¬ S k) : KeepsFrom B a b :=
  ⟨h.size, fun k o hB hk ho => (h.block k (Array.getElem?_eq_some_iff.1 hk).1 (hs k o hB hk ho)).trans hk⟩
theorem keepsFrom_below {B : Nat} {a b : World} (h : Below a.heap.size a b) : KeepsFrom B a b :=
  ⟨h.size, fun k _ _ hk _ => (h.block k (Array.getElem?_eq_some_iff.1 hk).1).trans hk⟩
/-- A block of cells is not turned. -/
theorem grown_cells {A B : World} {row : Option Nat} (h : A.grownBy B row) {n : Nat} (hr : ∀ r, row = some r → n ≤ r ∧ ∃ o : Obj, A.heap[r]? = some o ∧ o.isCells = false) {b : Nat} {o : Obj} (hb : A.heap[b]? = some o) (ho : b < n ∨ o.isCells = true) : B.heap[b]? = some o := by
  refine (h.block b (Array.getElem?_eq_some_iff.1 hb).1 fun e => ?_).trans hb
  obtain ⟨h1, o', h2, h3⟩ := hr b e.symm
  rcases ho with ho | ho
  · omega
  · rw [hb] at h2
    cases h2
    rw [ho] at h3
    cases h3
theorem box_grown {A B : World} {row : Option Nat} (h : A.grownBy B row) {n lo : Nat} (hr : ∀ r, row = some r → n ≤ r ∧ ∃ o : Obj, A.heap[r]? = some o ∧ o.isCells = false) {cs : Array Value} {T s : Nat} (hb : Box lo cs T A s) : Box lo cs T B s :=
  ⟨hb.1, grown_cells h hr hb.2 (Or.inr rfl)⟩
theorem below_grown {A B w : World} {row : Option Nat} (h : A.grownBy B row) {n m : Nat} (hr : ∀ r, row = some r → n ≤ r ∧ ∃ o : Obj, A.heap[r]? = some o ∧ o.isCells = false) (hb : Below m w A) (hm : m ≤ n) (hw : m ≤ w.heap.size) : Below m w B :=
  hb.grown h (Nat.le_trans hw hb.size) fun k e => by have := (hr k e).1; omega

end Go.Proofs.YtfgadegpdknocaaGreat

namespace Go.Proofs.YtfgadegpdknocaaGreat
open Go.RowKit

variable {P : Program} {ops : Array Oper} {Q : Exit → Act → World → Prop}

def noDefer (o : Oper) : Bool := match o.op with | .defer _ => false | _ => true
theorem upon_in (l n : Nat) {o : Oper} {a : Act} {K : Act → World → Prop} {r : Result Next} (h : o.upon P a K Q r) : o.uponIn (Fence.wide.inRound l) n P a K Q r := by
  cases r with
  | ok x w' =>
    cases x with
    | value v => exact h
    | skip => exact h
    | defer d => exact h
    | enter f args => exact ⟨fun e => by simp [Fence.wide] at e, CallsIn.inRound l (callsIn_wide.2 h)⟩
    | row row args =>
      refine ⟨fun e => by simp [Fence.wide] at e, fun c cs _ => ?_⟩
      obtain ⟨v, w2, h1, h2⟩ := h c cs
      exact ⟨v, w2, h1, stepsIn_wide.2 h2⟩
    | _ => exact h.elim
  | halt x w' =>
    cases x with
    | panic v => exact h
    | _ => exact h.elim
theorem wp_in (l n : Nat) {o : Oper} {a : Act} {w : World} {K : Act → World → Prop} (hd : noDefer o = true) (h : o.wp P a w K Q) : o.wpIn (Fence.wide.inRound l) n P a w K Q := by
  refine ⟨fun _ _ => trivial, ?_⟩
  rw [show (Fence.wide.inRound l).round = some l from rfl, Oper.semAt_some l _ _ (by intro c hc; rw [noDefer, hc] at hd; cases hd)]
  exact upon_in l n h
theorem any_in (l n : Nat) {md : Region.Mode} (hd : ∀ (i : Nat) (o : Oper), ops[i]? = some o → noDefer o = true) (hL : ¬ LetsOut Q) : ∀ (fuel : Nat) (listed : Array Bool) (a : Act) (w : World), wpAny P md ops Q fuel listed a w → wpAnyIn (Fence.wide.inRound l) n P md ops Q fuel listed a w
  | 0, _, _, _, h => h
  | fuel + 1, listed, a, w, h => by
    refine ⟨h.1, fun i hi => ?_⟩
    have h2 := h.2 i hi
    unfold wpOp at h2
    unfold wpOpIn
    cases ho : ops[i]? with
    | none => rw [ho] at h2; exact any_in l n hd hL fuel _ _ _ h2
    | some o =>
      rw [ho] at h2
      simp only at h2 ⊢
      by_cases hw : Region.wanted o (yielded ops a.tmps) = true
      · rw [if_pos hw] at h2 ⊢
        rcases h2 with h2 | h2
        · exact Oper.wpIn_mono (any_in l n hd hL fuel _) (wp_in l n (hd i o ho) h2)
        · exact absurd h2.2 hL
      · rw [if_neg hw] at h2 ⊢
        exact ⟨fun _ _ => trivial, any_in l n hd hL fuel _ _ _ h2⟩
theorem noDefers (h : ops.all noDefer = true) : ∀ (i : Nat) (o : Oper), ops[i]? = some o → noDefer o = true := fun i o ho => by
  obtain ⟨hi, rfl⟩ := Array.getElem?_eq_some_iff.1 ho
  rw [Array.all_eq_true] at h
  exact h i hi
/-- Only the way behind the region. -/
def OnlyN (Q : Exit → Act → World → Prop) : Exit → Act → World → Prop
  | .normal, a, w => Q .normal a w
  | _, _, _ => False
theorem OnlyN.normal {a : Act} {w : World} (h : Q .normal a w) : OnlyN Q .normal a w := h
/-- The first move of a walk through such a region. -/
theorem wpIn_region_np {l n id : Nat} {S : World → Prop} {a : Act} {w : World} (hm : P.follows .mixedOrders = true) (hd : ops.all noDefer = true) (hS : S w.drew)
    (h : S w.drew → wpAnyH P .any ops (OnlyN Q) S ops.size (Array.replicate ops.size false) a w.drew) : (Code.region id ops true).wpIn (Fence.wide.inRound l) n P Q a w := by
  refine wpIn_mono (Q := OnlyN Q) (wpIn_region_any hm (any_in l n (noDefers hd) ?_ _ _ _ _ (wpAny_of_held _ _ _ _ (h hS)))) ?_
  · rintro ⟨a2, w2, h2⟩
    exact (show False from h2)
  · intro e a2 w2 h2
    cases e with
    | normal => exact h2
    | _ => exact (show False from h2).elim

end Go.Proofs.YtfgadegpdknocaaGreat

namespace Go.Proofs.YtfgadegpdknocaaGreat
open Go.RowKit

theorem infoHit : (Tryz.prog.info? 66).map (fun i => (i.zero, i.size, i.bytes)) = some (some (.agg #[.int .i64 0, .int .i64 0]), 2, 16) := by kernel_rfl

theorem made2 (n : Nat) : (madeCells #[.int .i64 0, .int .i64 0] (n * 2)).toList = cells2 (List.replicate n (0, 0)) := by
  apply List.ext_getElem?
  intro j
  by_cases hj : j < n * 2
  · obtain ⟨u, hu⟩ : ∃ u, (cells2 (List.replicate n (0, 0)))[j]? = some u := ⟨_, List.getElem?_eq_getElem (by rw [cells2_len]; simpa using hj)⟩
    obtain ⟨k, x, y, h1, h2⟩ := cells2_get _ _ _ hu
    rw [hu]
    simp [List.getElem?_replicate] at h1
    obtain ⟨h3, rfl, rfl⟩ := h1
    have hm : j % 2 = 0 ∨ j % 2 = 1 := by omega
    rcases h2 with ⟨-, rfl⟩ | ⟨-, rfl⟩ <;> rcases hm with hm | hm <;> simp [madeCells, hj, hm]
  · have h1 : (cells2 (List.replicate n ((0 : Int), (0 : Int)))).length = n * 2 := by rw [cells2_len]; simp
    rw [List.getElem?_eq_none (l := cells2 _) (by rw [h1]; omega)]
    simp [madeCells, hj]

/-- Hits that are filled in, up to k. -/
theorem set_fill2 (hs : List (Int × Int)) (k : Nat) (x y : Int) (hk : hs[k]? = some (x, y)) :
    ((cells2 (hs.take k ++ List.replicate (hs.length - k) (0, 0))).set (k * 2) (.int .i64 x)).set (k * 2 + 1) (.int .i64 y) = cells2 (hs.take (k + 1) ++ List.replicate (hs.length - (k + 1)) (0, 0)) := by
  have hlt : k < hs.length := by
    rcases Nat.lt_or_ge k hs.length with h | h
    · exact h
    · rw [List.getElem?_eq_none h] at hk; cases hk
  have hl : (cells2 (hs.take k)).length = k * 2 := by rw [cells2_len]; simp; omega
  rw [cells2_app, List.set_append_right _ _ (by omega), List.set_append_right _ _ (by omega), hl, Nat.sub_self, show k * 2 + 1 - k * 2 = 1 by omega]
  obtain ⟨m, hm⟩ : ∃ m, hs.length - k = m + 1 := ⟨hs.length - k - 1, by omega⟩
  rw [hm, show hs.length - (k + 1) = m by omega, List.replicate_succ, List.take_succ_eq_append_getElem hlt, cells2_app, cells2_app]
  have he : hs[k] = (x, y) := by simpa [hlt] using hk
  rw [he]
  simp [cells2]

theorem below_keep2 {w W W' : World} (h : Below w.heap.size w W) (k : Below W.heap.size W W') : Below w.heap.size w W' := h.trans (k.mono h.size)

end Go.Proofs.YtfgadegpdknocaaGreat

namespace Go.Proofs.YtfgadegpdknocaaGreat
open Go.RowKit

theorem l1In (v lo hi : Int) (w : World) :
    Calls Tryz.prog 103 #[.int .i64 v, .int .i64 lo, .int .i64 hi] w fun e w' => e = .returned (.bool (decide (lo ≤ v) && decide (v ≤ hi))) ∧ w' = w := by
  by_cases h1 : lo ≤ v
  · by_cases h2 : v ≤ hi
    · have d1 : decide (lo ≤ v) = true := by simpa using h1
      have d2 : decide (v ≤ hi) = true := by simpa using h2
      rw [d1, d2]
      go_enter Tryz.func103, Tryz.ntmps103
      go_wp2_with fail
      go_ret
      exact ⟨rfl, rfl⟩
    · have d1 : decide (lo ≤ v) = true := by simpa using h1
      have d2 : decide (v ≤ hi) = false := by simpa using h2
      rw [d1, d2]
      go_enter Tryz.func103, Tryz.ntmps103
      go_wp2_with fail
      go_ret
      exact ⟨rfl, rfl⟩
  · have d1 : decide (lo ≤ v) = false := by simpa using h1
    rw [d1]
    go_enter Tryz.func103, Tryz.ntmps103
    go_wp2_with fail
    go_ret
    exact ⟨rfl, rfl⟩

set_option maxHeartbeats 400000 in
theorem l2Better (x y a b : Int) (w : World) :
    Calls Tryz.prog 132 #[.agg #[.int .i64 x, .int .i64 y], .agg #[.int .i64 a, .int .i64 b]] w fun e w' => e = .returned (.bool (bet (x, y) (a, b))) ∧ Below w.heap.size w w' := by
  have B : ∀ o o2, Below w.heap.size w ((w.alloc o).alloc o2) := fun o o2 => ((Below.refl _ _).alloc (Nat.le_refl _) o).alloc (by simp) o2
  by_cases h1 : y < b
  · have d1 : decide (y < b) = true := by simpa using h1
    have e : bet (x, y) (a, b) = true := by simp [bet, h1]
    rw [e]
    go_enter Tryz.func132, Tryz.ntmps132
    go_wp2_with fail
    go_ret
    exact ⟨rfl, B _ _⟩
  · have d1 : decide (y < b) = false := by simpa using h1
    by_cases h2 : y = b
    · subst h2
      have d2 : (y == y) = true := by simp
      have e : bet (x, y) (a, y) = decide (x < a) := by simp [bet]
      rw [e]
      cases d3 : decide (x < a) <;>
      · go_enter Tryz.func132, Tryz.ntmps132
        go_wp2_with fail
        go_ret
        exact ⟨rfl, B _ _⟩
    · have d2 : (y == b) = false := by simpa using h2
      have e : bet (x, y) (a, b) = false := by simp [bet, h1, h2]
      rw [e]
      go_enter Tryz.func132, Tryz.ntmps132
      go_wp2_with fail
      go_ret
      exact ⟨rfl, B _ _⟩

theorem l2K (k : Int) (w : World) :
    Calls Tryz.prog 58 #[.int .i64 k] w fun e w' => e = .returned (.bool (decide (0 ≤ k) && decide (k ≤ 20))) ∧ w' = w := by
  go_enter Tryz.func58, Tryz.ntmps58
  go_wp2_with fail
  refine (l1In k 0 20 _).mono ?_
  rintro e w1 ⟨rfl, rfl⟩
  go_wp2_with fail
  go_ret
  exact ⟨rfl, rfl⟩

theorem l1Min (a b : Int) (w : World) :
    Calls Tryz.prog 133 #[.int .i64 a, .int .i64 b] w fun e w' => e = .returned (.int .i64 (min a b)) ∧ w' = w := by
  by_cases h : a < b
  · have e : min a b = a := by omega
    rw [e]
    go_enter Tryz.func133, Tryz.ntmps133
    go_wp2_with fail
    go_ret
    exact ⟨rfl, rfl⟩
  · have e : min a b = b := by omega
    rw [e]
    go_enter Tryz.func133, Tryz.ntmps133
    go_wp2_with fail
    go_ret
    exact ⟨rfl, rfl⟩

end Go.Proofs.YtfgadegpdknocaaGreat

namespace Go.Proofs.YtfgadegpdknocaaGreat
open Go.RowKit

theorem at_some {α : Type} {l : List α} {k : Nat} {x : α} (h : l[k]? = some x) : k < l.length := by
  rcases Nat.lt_or_ge k l.length with h2 | h2
  · exact h2
  · rw [List.getElem?_eq_none h2] at h; cases h

theorem drop_at {α : Type} {l : List α} {k : Nat} {x : α} (h : l[k]? = some x) : l.drop k = x :: l.drop (k + 1) := by
  have hk := at_some h
  rw [List.drop_eq_getElem_cons hk]
  congr 1
  simpa [hk] using h

theorem faultFrom_step (hs : List (Int × Int)) (k : Nat) (x y : Int) (h : hs[k]? = some (x, y)) :
    faultFrom (ahead hs k) (hs.drop k) = if oneB (x, y) then (if (ahead hs k).all (bet · (x, y)) then faultFrom (ahead hs (k + 1)) (hs.drop (k + 1)) else 1) else 3 := by
  rw [drop_at h]
  have : ahead hs (k + 1) = some (x, y) := by simpa [ahead] using h
  rw [this]
  rfl

end Go.Proofs.YtfgadegpdknocaaGreat

namespace Go.Proofs.YtfgadegpdknocaaGreat
open Go.RowKit

theorem append_none {P : Program} (t ty e : TypeId) (i : TypeInfo) (ht : P.underlying t = some (.slice e)) (hi : P.info? e = some i) (bo : Option Addr) (n cap c : Nat) (hn : n ≤ cap) (w : World) :
    (Builtin.append_ #[t, t] ty #[.slice bo n cap, .slice none 0 c]).run P w = (Builtin.append_ #[t, t] ty #[.slice bo n cap, .slice (some ⟨0, 0, none⟩) 0 c]).run P w := by
  simp [Builtin.append_, run_underlying ht, sizeOf, typeInfo, hi, Builtin.lenOf, hn, Builtin.firstCells, loadCells, loadCellsFrom]

theorem run_append_hits {w : World} (base ty : Nat) (v : Value) (n : Nat) (hs : List (Int × Int)) (hown : w.ownsRow base 66 2 v n (cells2 hs)) (x : Value) (ks : List (Int × Int)) (hx : IsHits w x ks)
    (hn : n + ks.length ≤ 100000000) (hbase : base ≤ w.heap.size) :
    ∃ v' w', (Builtin.append_ #[46, 46] ty #[v, x]).run Tryz.prog w = .ok v' w' ∧ w'.ownsRow base 66 2 v' (n + ks.length) (cells2 (hs ++ ks)) ∧ w.grownBy w' v.ownBlock ∧
      (v'.ownBlock = v.ownBlock ∨ v'.ownBlock = some w.heap.size) := by
  obtain ⟨i0, hi, hz0, hz1, hz2⟩ := info_parts infoHit
  have hml : n + ks.length ≤ maxLen := by unfold maxLen; omega
  rw [cells2_app]
  by_cases hp : 0 < ks.length
  · have hx' := hx
    obtain ⟨ao, cap, rfl, h1, h2, hwf, hc⟩ := hx'
    obtain ⟨b, off, rfl, hc1⟩ := hc hp
    obtain ⟨v', w', r1, r2, r3, -, r5⟩ := run_append_own_at (P := Tryz.prog) w base 46 ty 66 i0 _ 2 16 Tryz.underlying46 hi hz0 hz1 hz2 rfl (by omega) v n (cells2 hs) hown ⟨b, off, none⟩ ks.length cap (cells2 ks) (cells2_len ks) hx.news (cells2_one ks) hml (by omega) hbase
    exact ⟨v', w', r1, r2, r3, r5⟩
  · obtain rfl : ks = [] := List.eq_nil_of_length_eq_zero (by omega)
    obtain ⟨ao, cap, rfl, h1, h2, hwf, hc⟩ := hx
    cases ao with
    | none =>
      obtain ⟨v', w', r1, r2, r3, -, r5⟩ := run_append_own_at (P := Tryz.prog) w base 46 ty 66 i0 _ 2 16 Tryz.underlying46 hi hz0 hz1 hz2 rfl (by omega) v n (cells2 hs) hown ⟨0, 0, none⟩ 0 cap [] rfl (by simp) (by simp) hml (by simp at hn; omega) hbase
      refine ⟨v', w', ?_, r2, r3, r5⟩
      rcases hown.2 with ⟨rfl, h0⟩ | ⟨g, cp, cur, rfl, _, _, hle, _⟩
      · exact (append_none _ _ _ i0 Tryz.underlying46 hi none 0 0 cap (Nat.le_refl _) w).trans r1
      · exact (append_none _ _ _ i0 Tryz.underlying46 hi _ n cp cap hle w).trans r1
    | some ad =>
      obtain ⟨v', w', r1, r2, r3, -, r5⟩ := run_append_own_at (P := Tryz.prog) w base 46 ty 66 i0 _ 2 16 Tryz.underlying46 hi hz0 hz1 hz2 rfl (by omega) v n (cells2 hs) hown ad 0 cap [] rfl (by simp) (by simp) hml (by simp at hn; omega) hbase
      exact ⟨v', w', r1, r2, r3, r5⟩

/-- The same at an operation of a plain region. -/
theorem wpList_append_hits {w : World} {ops : Array Oper} {rest : List Oper} {o : Oper} {a : Act} {Q : Exit → Act → World → Prop} (hgd : o.guard = none) (s x : Operand)
    (ho : o.op = .call { callee := .builtin .append, args := #[s, x], argTypes := #[46, 46] })
    (base : Nat) (v : Value) (n : Nat) (hs : List (Int × Int)) (hv : a.eval s = v) (hown : w.ownsRow base 66 2 v n (cells2 hs)) (X : Value) (ks : List (Int × Int)) (hX : a.eval x = X) (hx : IsHits w X ks)
    (hn : n + ks.length ≤ 100000000) (hbase : base ≤ w.heap.size)
    (h : ∀ v' w', w'.ownsRow base 66 2 v' (n + ks.length) (cells2 (hs ++ ks)) → w.grownBy w' v.ownBlock → (v'.ownBlock = v.ownBlock ∨ v'.ownBlock = some w.heap.size) → wpList Tryz.prog ops Q rest (a.put o.dst v') w') :
    wpList Tryz.prog ops Q (o :: rest) a w := by
  refine wpList_plain hgd fun K hK => ?_
  obtain ⟨v', w', hr, h2, h3, h4⟩ := run_append_hits base o.type v n hs hown X ks hx hn hbase
  unfold Oper.wp execOp
  simp only [ho, resolve, invoke, builtin, Sem.run_bind, Sem.run_pure, Result.andThen_ok, List.map_toArray, List.map_cons, List.map_nil, hv, hX, hr]
  exact hK _ _ (h v' w' h2 h3 h4)

/-- .. onto a row that has a block: the new slice written out. -/
theorem wpList_append_row {w : World} {ops : Array Oper} {rest : List Oper} {o : Oper} {a : Act} {Q : Exit → Act → World → Prop} (hgd : o.guard = none) (s x : Operand)
    (ho : o.op = .call { callee := .builtin .append, args := #[s, x], argTypes := #[46, 46] })
    (base g n cp : Nat) (hs : List (Int × Int)) (hv : a.eval s = .slice (some ⟨g, 0, none⟩) n cp) (hown : w.ownsRow base 66 2 (.slice (some ⟨g, 0, none⟩) n cp) n (cells2 hs)) (X : Value) (ks : List (Int × Int)) (hX : a.eval x = X) (hx : IsHits w X ks)
    (m : Nat) (hm : n + ks.length = m) (hn : m ≤ 100000000) (hbase : base ≤ w.heap.size)
    (h : ∀ g' cp' w', w'.ownsRow base 66 2 (.slice (some ⟨g', 0, none⟩) m cp') m (cells2 (hs ++ ks)) → w.grownBy w' (some g) → (g' = g ∨ g' = w.heap.size) → wpList Tryz.prog ops Q rest (a.put o.dst (.slice (some ⟨g', 0, none⟩) m cp')) w') :
    wpList Tryz.prog ops Q (o :: rest) a w := by
  subst hm
  refine wpList_append_hits hgd s x ho base _ n hs hv hown X ks hX hx hn hbase fun v' w' h2 h3 h4 => ?_
  rcases h2.2 with ⟨rfl, h0⟩ | ⟨g', cap', cur, rfl, _⟩
  · rcases h4 with h4 | h4 <;> simp [Value.ownBlock] at h4
  · exact h g' cap' w' h2 h3 (by rcases h4 with h4 | h4 <;> simp [Value.ownBlock] at h4 <;> simp [h4])

/-- A row's first hits are a row. -/
theorem own_take {w : World} {base T g n cap : Nat} {hs : List (Int × Int)} (h : w.ownsRow base T 2 (.slice (some ⟨g, 0, none⟩) n cap) n (cells2 hs)) (k : Nat) (hk : k ≤ n) :
    w.ownsRow base T 2 (.slice (some ⟨g, 0, none⟩) k cap) k (cells2 (hs.take k)) := by
  have hl : (cells2 hs).length = n * 2 := h.1
  rcases h.2 with ⟨h', _⟩ | ⟨g', cap', cur, h', hb, hg, hnc, hcm, hcs, htake⟩
  · simp at h'
  · simp only [Value.slice.injEq, Option.some.injEq, Addr.mk.injEq, and_true, true_and] at h'
    obtain ⟨rfl, rfl⟩ := h'
    refine ⟨?_, .inr ⟨g, cap, cur, rfl, hb, hg, by omega, hcm, hcs, ?_⟩⟩
    · rw [cells2_len] at hl ⊢
      simp
      omega
    · rw [← cells2_take, ← htake, List.take_take]
      congr 1
      omega

end Go.Proofs.YtfgadegpdknocaaGreat
