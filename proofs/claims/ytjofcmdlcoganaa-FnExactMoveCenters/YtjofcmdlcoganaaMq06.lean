/-
  Texts of this proof in one: MeanPlain, CenPlain, CenRow, ImplCen, ImplId, ImplTab, LayIntResult, CenRes, ImplAsk6, CenScoreC, ImplNear, SumPlain, ImplPlus, ImplTellExt.
  Their conditions stand in their theorems.
-/
import Derived.WalkKit
import Derived.Test.YtjofcmdlcoganaaMq02
import Derived.Test.YtjofcmdlcoganaaMq04
import Derived.Test.YtjofcmdlcoganaaMq03
import Derived.Test.YtjofcmdlcoganaaMq05
import Derived.Test.YtjofcmdlcoganaaMq01
import Derived.Test.YtjofcmdlcoganaaChecked
import Derived.BigQuiet
import Derived.Deep.QuietTactic
import Derived.Deep.RegionHeld3

namespace Go.Proofs.Ytjofcmdlcoganaa

def mean (s n : Int) : Int := (2 * s + n) / (2 * n)
def sumB (n z : Int) : Bool := decide (-1000 * n ≤ z) && decide (z ≤ 1000 * n)
def meanFault (zs : List Int) (n : Int) : Int := if n < 1 ∨ 1000 < n then 3 else if zs.length = 3 then (if zs.all (sumB n) then 0 else 3) else 1
def meanList (zs : List Int) (n : Int) : List Int := if meanFault zs n = 0 then [mean (zs.getD 0 0) n, mean (zs.getD 1 0) n, mean (zs.getD 2 0) n] else []

theorem near_bd (s n : Int) (h1 : 1 ≤ n) (h3 : -1000 * n ≤ s) (h4 : s ≤ 1000 * n) : 0 ≤ (2 * (s + 1000 * n) + n) / (2 * n) ∧ (2 * (s + 1000 * n) + n) / (2 * n) ≤ 2000 := by
  constructor
  · exact Int.ediv_nonneg (by omega) (by omega)
  · have : (2 * (s + 1000 * n) + n) / (2 * n) < 2001 := by
      rw [Int.ediv_lt_iff_lt_mul (by omega)]
      omega
    omega

theorem near_eq (s n : Int) (h1 : 1 ≤ n) : (2 * (s + 1000 * n) + n) / (2 * n) - 1000 = mean s n := by
  unfold mean
  have e : 2 * (s + 1000 * n) + n = (2 * s + n) + 1000 * (2 * n) := by omega
  rw [e, Int.add_mul_ediv_right _ _ (by omega)]
  omega

theorem mean_bd (s n : Int) (h1 : 1 ≤ n) (h3 : -1000 * n ≤ s) (h4 : s ≤ 1000 * n) : -1000 ≤ mean s n ∧ mean s n ≤ 1000 := by
  have := near_bd s n h1 h3 h4
  have := near_eq s n h1
  omega

theorem round_pos (a n : Int) : (2 * a + n) / (2 * n) = mean a n := rfl

theorem tdiv_neg_bd (x m : Int) (hm : 1 ≤ m) (hx : x < 0) : x ≤ x.tdiv m ∧ x.tdiv m ≤ 0 := by
  obtain ⟨y, rfl⟩ : ∃ y, x = -y := ⟨-x, by omega⟩
  rw [Int.neg_tdiv, Int.tdiv_eq_ediv_of_nonneg (by omega)]
  have h1 := Int.ediv_nonneg (show 0 ≤ y by omega) (show 0 ≤ m by omega)
  have h2 := Int.ediv_le_self (b := m) (show 0 ≤ y by omega)
  omega

/-- Below 0 Go's quotient is one too great where something is left. -/
theorem round_neg (x m : Int) (hm : 1 ≤ m) (hx : x < 0) : (x.tmod m < 0 → x.tdiv m - 1 = x / m) ∧ (¬ x.tmod m < 0 → x.tdiv m = x / m) := by
  have h1 := Int.tdiv_mul_add_tmod x m
  have h2 := Int.ediv_mul_add_emod x m
  have h3 := Int.emod_nonneg x (show m ≠ 0 by omega)
  have h4 := Int.emod_lt_of_pos x (show 0 < m by omega)
  have h5 : x.tmod m ≤ 0 := by
    obtain ⟨y, rfl⟩ : ∃ y, x = -y := ⟨-x, by omega⟩
    rw [Int.neg_tmod, Int.tmod_eq_emod_of_nonneg (by omega)]
    have := Int.emod_nonneg y (show m ≠ 0 by omega)
    omega
  have h6 : -m < x.tmod m := by
    obtain ⟨y, rfl⟩ : ∃ y, x = -y := ⟨-x, by omega⟩
    rw [Int.neg_tmod, Int.tmod_eq_emod_of_nonneg (by omega)]
    have := Int.emod_lt_of_pos y (show 0 < m by omega)
    omega
  generalize x.tmod m = r at *
  generalize x.tdiv m = q at *
  generalize x % m = r' at *
  generalize x / m = q' at *
  have e : (q' - q) * m = r - r' := by rw [Int.sub_mul]; omega
  constructor
  · intro hr
    have a1 : (q' - q) * m < 0 := by omega
    have a2 : (q' - q) * m > -2 * m := by omega
    have b1 : q' - q < 0 := by
      rcases Int.lt_or_le (q' - q) 0 with h | h
      · exact h
      · have := Int.mul_nonneg h (show 0 ≤ m by omega); omega
    have b2 : q' - q > -2 := by
      rcases Int.lt_or_le (-2) (q' - q) with h | h
      · exact h
      · have := Int.mul_le_mul_of_nonneg_right h (show 0 ≤ m by omega); omega
    omega
  · intro hr
    have hr0 : r = 0 := by omega
    subst hr0
    have a1 : (q' - q) * m ≤ 0 := by omega
    have a2 : (q' - q) * m > -m := by omega
    have b1 : q' - q ≤ 0 := by
      rcases Int.lt_or_le 0 (q' - q) with h | h
      · have := Int.mul_le_mul_of_nonneg_right (show 1 ≤ q' - q by omega) (show 0 ≤ m by omega); omega
      · exact h
    have b2 : q' - q > -1 := by
      rcases Int.lt_or_le (-1) (q' - q) with h | h
      · exact h
      · have := Int.mul_le_mul_of_nonneg_right h (show 0 ≤ m by omega); omega
    omega

theorem sumB_true {n z : Int} (h : sumB n z = true) : -1000 * n ≤ z ∧ z ≤ 1000 * n := by simpa [sumB] using h
theorem sumB_false {n z : Int} (h : sumB n z = false) : z < -1000 * n ∨ 1000 * n < z := by
  simp [sumB] at h
  omega
theorem meanFault_n {zs : List Int} {n : Int} (h : n < 1 ∨ 1000 < n) : meanFault zs n = 3 := by simp [meanFault, h]
theorem meanFault_len {zs : List Int} {n : Int} (h1 : 1 ≤ n) (h2 : n ≤ 1000) (h : zs.length ≠ 3) : meanFault zs n = 1 := by
  have : ¬ (n < 1 ∨ 1000 < n) := by omega
  simp [meanFault, h, this]
theorem meanFault_bad {zs : List Int} {n : Int} (h : zs.length = 3) (k : Nat) (hk : k < 3) (hb : sumB n (zs.getD k 0) = false) : meanFault zs n = 3 := by
  have : zs.all (sumB n) = false := by
    rw [List.all_eq_false]
    exact ⟨zs.getD k 0, by simp [List.getD, show k < zs.length by omega], by rw [hb]; simp⟩
  simp [meanFault, h, this]
theorem meanFault_ok {zs : List Int} {n : Int} (h1 : 1 ≤ n) (h2 : n ≤ 1000) (h : zs.length = 3) (hg : ∀ j, j < 3 → sumB n (zs.getD j 0) = true) : meanFault zs n = 0 := by
  have h0 : ¬ (n < 1 ∨ 1000 < n) := by omega
  have : zs.all (sumB n) = true := by
    rw [List.all_eq_true]
    intro x hx
    obtain ⟨j, hj, rfl⟩ := List.mem_iff_getElem.1 hx
    have := hg j (by omega)
    simpa [List.getD, hj] using this
  simp [meanFault, h, this, h0]
theorem meanFault_zero {zs : List Int} {n : Int} (h : meanFault zs n = 0) : (1 ≤ n ∧ n ≤ 1000) ∧ ∃ x y z, zs = [x, y, z] ∧ (-1000 * n ≤ x ∧ x ≤ 1000 * n) ∧ (-1000 * n ≤ y ∧ y ≤ 1000 * n) ∧ (-1000 * n ≤ z ∧ z ≤ 1000 * n) := by
  unfold meanFault at h
  split at h
  · simp at h
  · next hn =>
    split at h
    · next hl =>
      split at h
      · next ha =>
        match zs, hl, ha with
        | [x, y, z], _, ha =>
          simp only [List.all_cons, List.all_nil, Bool.and_true, Bool.and_eq_true] at ha
          exact ⟨by omega, x, y, z, rfl, sumB_true ha.1, sumB_true ha.2.1, sumB_true ha.2.2⟩
      · simp at h
    · simp at h

end Go.Proofs.Ytjofcmdlcoganaa

namespace Go.Proofs.Ytjofcmdlcoganaa
open Go.RowKit

def cenFrom : List DCenter → Int
  | [] => 0
  | c :: cs => if vecFault c.vec = 0 then cenFrom cs else vecFault c.vec
def centersFault (cs : List DCenter) : Int := if cs.length < 1 ∨ 6 < cs.length then 2 else cenFrom cs
theorem cenFrom_step (cs : List DCenter) (k : Nat) (h : k < cs.length) : cenFrom (cs.drop k) = if vecFault cs[k].vec = 0 then cenFrom (cs.drop (k + 1)) else vecFault cs[k].vec := by
  rw [List.drop_eq_getElem_cons h]
  rfl
theorem cenFrom_zero {cs : List DCenter} (h : cenFrom cs = 0) : ∀ c ∈ cs, vecFault c.vec = 0 := by
  induction cs with
  | nil => simp
  | cons c cs ih =>
    rw [cenFrom] at h
    by_cases h1 : vecFault c.vec = 0
    · rw [if_pos h1] at h
      intro d hd
      rcases List.mem_cons.1 hd with rfl | hd
      · exact h1
      · exact ih h d hd
    · rw [if_neg h1] at h; exact absurd h h1
theorem cenFrom_of {cs : List DCenter} (h : ∀ c ∈ cs, vecFault c.vec = 0) : cenFrom cs = 0 := by
  induction cs with
  | nil => rfl
  | cons c cs ih => rw [cenFrom, if_pos (h c (by simp))]; exact ih fun d hd => h d (List.mem_cons_of_mem _ hd)
theorem centersFault_zero {cs : List DCenter} (h : centersFault cs = 0) : (1 ≤ cs.length ∧ cs.length ≤ 6) ∧ ∀ c ∈ cs, vecFault c.vec = 0 := by
  unfold centersFault at h
  by_cases hn : cs.length < 1 ∨ 6 < cs.length
  · rw [if_pos hn] at h; cases h
  · rw [if_neg hn] at h
    exact ⟨by omega, cenFrom_zero h⟩
theorem centersFault_of {cs : List DCenter} (h1 : 1 ≤ cs.length ∧ cs.length ≤ 6) (h2 : ∀ c ∈ cs, vecFault c.vec = 0) : centersFault cs = 0 := by
  unfold centersFault
  rw [if_neg (by omega)]
  exact cenFrom_of h2
theorem vecFault_bd (q : List Int) : 0 ≤ vecFault q ∧ vecFault q ≤ 3 := by unfold vecFault; split <;> (try split) <;> decide
theorem centersFault_bd (cs : List DCenter) : 0 ≤ centersFault cs ∧ centersFault cs ≤ 3 := by
  unfold centersFault
  split
  · decide
  · induction cs with
    | nil => decide
    | cons c cs ih =>
      rw [cenFrom]
      split
      · by_cases h : cs.length < 1 ∨ 6 < cs.length
        · have hc : cs = [] ∨ 6 < cs.length := by
            rcases h with h | h
            · exact Or.inl (List.eq_nil_of_length_eq_zero (by omega))
            · exact Or.inr h
          rcases hc with rfl | hc
          · decide
          · rename_i h1 _
            simp only [List.length_cons] at h1
            omega
        · exact ih h
      · exact vecFault_bd _
theorem centersFault_wf (cs : List DCenter) : (Lit.int .i64 (centersFault cs)).wf = true := wf_of_bd (by have := centersFault_bd cs; omega)

/-- The nearest among the first k, and its score. -/
def nearK (cs : List DCenter) (v : List Int) : Nat → Nat × Int
  | 0 => (0, 12000001)
  | k + 1 => if score3 (cs.getD k ⟨[]⟩).vec v < (nearK cs v k).2 then (k, score3 (cs.getD k ⟨[]⟩).vec v) else nearK cs v k
def near (cs : List DCenter) (v : List Int) : Nat := (nearK cs v cs.length).1
def nearS (cs : List DCenter) (v : List Int) : Int := (nearK cs v cs.length).2
theorem getD_at {α : Type} {xs : List α} {k : Nat} (h : k < xs.length) (d : α) : xs.getD k d = xs[k] := by simp [List.getD, h]
theorem nearK_step (cs : List DCenter) (v : List Int) (k : Nat) (h : k < cs.length) : nearK cs v (k + 1) = if score3 cs[k].vec v < (nearK cs v k).2 then (k, score3 cs[k].vec v) else nearK cs v k := by
  rw [nearK, getD_at h]
theorem nearK_right {cs : List DCenter} {v : List Int} (hc : ∀ c ∈ cs, vecFault c.vec = 0) (hv : vecFault v = 0) (k : Nat) (h1 : 1 ≤ k) (h2 : k ≤ cs.length) :
    (nearK cs v k).1 < k ∧ (nearK cs v k).2 = score3 (cs.getD (nearK cs v k).1 ⟨[]⟩).vec v ∧ 0 ≤ (nearK cs v k).2 ∧ (nearK cs v k).2 ≤ 12000000 := by
  induction k with
  | zero => omega
  | succ k ih =>
    have hk : k < cs.length := by omega
    have hs := cscore_bd (hc cs[k] (List.getElem_mem hk)) hv
    rw [nearK_step cs v k hk]
    by_cases hl : score3 cs[k].vec v < (nearK cs v k).2
    · rw [if_pos hl]
      refine ⟨by simp, ?_, hs.1, hs.2⟩
      simp only [getD_at hk]
    · rw [if_neg hl]
      have hk0 : 1 ≤ k := by
        apply Nat.succ_le_of_lt
        apply Nat.pos_of_ne_zero
        rintro rfl
        simp only [nearK] at hl
        omega
      obtain ⟨a, b, c⟩ := ih hk0 (by omega)
      exact ⟨by omega, b, c⟩
theorem nearK_bd {cs : List DCenter} {v : List Int} (hc : ∀ c ∈ cs, vecFault c.vec = 0) (hv : vecFault v = 0) (k : Nat) (h2 : k ≤ cs.length) : 0 ≤ (nearK cs v k).2 ∧ (nearK cs v k).2 ≤ 12000001 ∧ (nearK cs v k).1 ≤ k := by
  by_cases h : 1 ≤ k
  · obtain ⟨a, -, b, c⟩ := nearK_right hc hv k h h2
    omega
  · obtain rfl : k = 0 := by omega
    simp [nearK]
theorem near_lt {cs : List DCenter} {v : List Int} (hc : centersFault cs = 0) (hv : vecFault v = 0) : near cs v < cs.length := by
  obtain ⟨⟨a, b⟩, c⟩ := centersFault_zero hc
  exact (nearK_right c hv cs.length a (Nat.le_refl _)).1
theorem nearS_eq {cs : List DCenter} {v : List Int} (hc : centersFault cs = 0) (hv : vecFault v = 0) (h : near cs v < cs.length) : nearS cs v = score3 (cs[near cs v]).vec v ∧ 0 ≤ nearS cs v ∧ nearS cs v ≤ 12000000 := by
  obtain ⟨⟨a, b⟩, c⟩ := centersFault_zero hc
  obtain ⟨-, e, b1, b2⟩ := nearK_right c hv cs.length a (Nat.le_refl _)
  refine ⟨?_, b1, b2⟩
  rw [← getD_at h ⟨[]⟩]
  exact e

/-- The places of the nearest centers. -/
def placesL (cs : List DCenter) (xs : List DItem) : List Int := xs.map fun x => (near cs x.vec : Int)
/-- The cost of the first k items. -/
def costK (cs : List DCenter) (xs : List DItem) : Nat → Int
  | 0 => 0
  | k + 1 => costK cs xs k + nearS cs (xs.getD k ⟨0, []⟩).vec
def cost (cs : List DCenter) (xs : List DItem) : Int := costK cs xs xs.length
theorem costK_step (cs : List DCenter) (xs : List DItem) (k : Nat) (h : k < xs.length) : costK cs xs (k + 1) = costK cs xs k + nearS cs xs[k].vec := by rw [costK, getD_at h]
theorem costK_bd {cs : List DCenter} {xs : List DItem} (hc : centersFault cs = 0) (hx : ∀ x ∈ xs, vecFault x.vec = 0) (k : Nat) (h : k ≤ xs.length) : 0 ≤ costK cs xs k ∧ costK cs xs k ≤ 12000000 * k := by
  induction k with
  | zero => simp [costK]
  | succ k ih =>
    have hk : k < xs.length := by omega
    have i := ih (by omega)
    have s := (nearS_eq hc (hx xs[k] (List.getElem_mem hk)) (near_lt hc (hx xs[k] (List.getElem_mem hk)))).2
    rw [costK_step cs xs k hk]
    omega

/-- How many of the first k items are at place p, and the sums of their parts. -/
def cntK (cs : List DCenter) (xs : List DItem) (p : Nat) : Nat → Int
  | 0 => 0
  | k + 1 => if near cs (xs.getD k ⟨0, []⟩).vec = p then cntK cs xs p k + 1 else cntK cs xs p k
def sumK (cs : List DCenter) (xs : List DItem) (p j : Nat) : Nat → Int
  | 0 => 0
  | k + 1 => if near cs (xs.getD k ⟨0, []⟩).vec = p then sumK cs xs p j k + (xs.getD k ⟨0, []⟩).vec.getD j 0 else sumK cs xs p j k
theorem cntK_step (cs : List DCenter) (xs : List DItem) (p k : Nat) (h : k < xs.length) : cntK cs xs p (k + 1) = if near cs xs[k].vec = p then cntK cs xs p k + 1 else cntK cs xs p k := by rw [cntK, getD_at h]
theorem sumK_step (cs : List DCenter) (xs : List DItem) (p j k : Nat) (h : k < xs.length) : sumK cs xs p j (k + 1) = if near cs xs[k].vec = p then sumK cs xs p j k + xs[k].vec.getD j 0 else sumK cs xs p j k := by rw [sumK, getD_at h]
theorem cntK_bd (cs : List DCenter) (xs : List DItem) (p k : Nat) : 0 ≤ cntK cs xs p k ∧ cntK cs xs p k ≤ k := by
  induction k with
  | zero => simp [cntK]
  | succ k ih =>
    rw [cntK]
    split <;> omega
theorem sumK_bd (cs : List DCenter) {xs : List DItem} (hx : ∀ x ∈ xs, vecFault x.vec = 0) (p j : Nat) (hj : j < 3) (k : Nat) (h : k ≤ xs.length) : -1000 * cntK cs xs p k ≤ sumK cs xs p j k ∧ sumK cs xs p j k ≤ 1000 * cntK cs xs p k := by
  induction k with
  | zero => simp [cntK, sumK]
  | succ k ih =>
    have hk : k < xs.length := by omega
    have i := ih (by omega)
    have b := (vecFault_zero (hx xs[k] (List.getElem_mem hk))).2 j hj
    rw [cntK_step cs xs p k hk, sumK_step cs xs p j k hk]
    split <;> omega
def cnt (cs : List DCenter) (xs : List DItem) (p : Nat) : Int := cntK cs xs p xs.length
def sums (cs : List DCenter) (xs : List DItem) (p : Nat) : List Int := [sumK cs xs p 0 xs.length, sumK cs xs p 1 xs.length, sumK cs xs p 2 xs.length]
/-- Where the center at place p moves to. -/
def meanAt (cs : List DCenter) (xs : List DItem) (p : Nat) : List Int := if cnt cs xs p = 0 then (cs.getD p ⟨[]⟩).vec else meanList (sums cs xs p) (cnt cs xs p)
def moved (cs : List DCenter) (xs : List DItem) : List DCenter := (List.range cs.length).map fun p => ⟨meanAt cs xs p⟩
theorem moved_len (cs : List DCenter) (xs : List DItem) : (moved cs xs).length = cs.length := by simp [moved]
theorem sums_right (cs : List DCenter) {xs : List DItem} (ht : tableFault xs = 0) (p : Nat) (h : cnt cs xs p ≠ 0) : meanFault (sums cs xs p) (cnt cs xs p) = 0 ∧ (1 ≤ cnt cs xs p ∧ cnt cs xs p ≤ 1000) := by
  obtain ⟨hl, ha, -⟩ := tableFault_zero ht
  have hx : ∀ x ∈ xs, vecFault x.vec = 0 := fun x hm => (ha x hm).2
  have hb := cntK_bd cs xs p xs.length
  unfold cnt at h
  have h1 : 1 ≤ cnt cs xs p ∧ cnt cs xs p ≤ 1000 := by unfold cnt; omega
  refine ⟨?_, h1⟩
  unfold meanFault
  rw [if_neg (by omega), if_pos (show (sums cs xs p).length = 3 from rfl), if_pos]
  have s0 := sumK_bd cs hx p 0 (by omega) xs.length (Nat.le_refl _)
  have s1 := sumK_bd cs hx p 1 (by omega) xs.length (Nat.le_refl _)
  have s2 := sumK_bd cs hx p 2 (by omega) xs.length (Nat.le_refl _)
  simp only [sums, List.all_cons, List.all_nil, sumB, cnt, Bool.and_eq_true, decide_eq_true_eq, and_true]
  exact ⟨s0, s1, s2⟩
theorem meanAt_right {cs : List DCenter} {xs : List DItem} (hc : centersFault cs = 0) (ht : tableFault xs = 0) (p : Nat) (hp : p < cs.length) : vecFault (meanAt cs xs p) = 0 := by
  unfold meanAt
  by_cases h : cnt cs xs p = 0
  · rw [if_pos h, getD_at hp]
    exact (centersFault_zero hc).2 _ (List.getElem_mem hp)
  · rw [if_neg h]
    obtain ⟨h1, h2, h3⟩ := sums_right cs ht p h
    obtain ⟨-, x, y, z, e, ⟨x1, x2⟩, ⟨y1, y2⟩, ⟨z1, z2⟩⟩ := meanFault_zero h1
    rw [meanList, if_pos h1, e]
    have b1 := mean_bd x _ h2 x1 x2
    have b2 := mean_bd y _ h2 y1 y2
    have b3 := mean_bd z _ h2 z1 z2
    refine vecFault_ok rfl fun j hj => ?_
    match j, hj with
    | 0, _ => simp only [List.getD_cons_zero, partB, Bool.and_eq_true, decide_eq_true_eq]; exact b1
    | 1, _ => simp only [List.getD_cons_zero, List.getD_cons_succ, partB, Bool.and_eq_true, decide_eq_true_eq]; exact b2
    | 2, _ => simp only [List.getD_cons_zero, List.getD_cons_succ, partB, Bool.and_eq_true, decide_eq_true_eq]; exact b3
theorem moved_right {cs : List DCenter} {xs : List DItem} (hc : centersFault cs = 0) (ht : tableFault xs = 0) : centersFault (moved cs xs) = 0 := by
  refine centersFault_of (by rw [moved_len]; exact (centersFault_zero hc).1) fun c hm => ?_
  obtain ⟨p, hp, rfl⟩ := List.mem_map.1 hm
  exact meanAt_right hc ht p (List.mem_range.1 hp)
theorem moved_take (cs : List DCenter) (xs : List DItem) (k : Nat) (hk : k < cs.length) : (moved cs xs).take (k + 1) = (moved cs xs).take k ++ [⟨meanAt cs xs k⟩] := by
  rw [List.take_succ_eq_append_getElem (by rw [moved_len]; exact hk)]
  simp [moved]

/-! ### Training -/
def seedB (s : Int) : Bool := decide (0 ≤ s) && decide (s ≤ 9999)
def trainFault (xs : List DItem) (seeds : List Int) (rounds : Int) : Int :=
  if tableFault xs = 0 then (if xs.length = 0 then 4 else if seeds.length < 1 ∨ 6 < seeds.length then 2 else if (decide (0 ≤ rounds) && decide (rounds ≤ 20)) then (if seeds.all seedB then 0 else 3) else 3) else tableFault xs
def seedC (xs : List DItem) (s : Int) : DCenter := ⟨(xs.getD (s.toNat % xs.length) ⟨0, []⟩).vec⟩
def seedCs (xs : List DItem) (seeds : List Int) : List DCenter := seeds.map (seedC xs)
def trainN (xs : List DItem) : Nat → List DCenter → List DCenter
  | 0, cs => cs
  | r + 1, cs => if cost cs xs ≤ cost (moved cs xs) xs then cs else trainN xs r (moved cs xs)
def trainR (xs : List DItem) (seeds : List Int) (rounds : Int) : DCentersResult :=
  if trainFault xs seeds rounds = 0 then ⟨0, trainN xs rounds.toNat (seedCs xs seeds)⟩ else ⟨trainFault xs seeds rounds, []⟩
theorem seedCs_right {xs : List DItem} {seeds : List Int} (ht : tableFault xs = 0) (h0 : xs.length ≠ 0) (hs : 1 ≤ seeds.length ∧ seeds.length ≤ 6) : centersFault (seedCs xs seeds) = 0 := by
  refine centersFault_of (by simpa [seedCs] using hs) fun c hm => ?_
  obtain ⟨s, -, rfl⟩ := List.mem_map.1 hm
  have hl : s.toNat % xs.length < xs.length := Nat.mod_lt _ (by omega)
  show vecFault (xs.getD (s.toNat % xs.length) ⟨0, []⟩).vec = 0
  rw [getD_at hl]
  exact ((tableFault_zero ht).2.1 _ (List.getElem_mem hl)).2
theorem trainN_right {xs : List DItem} (ht : tableFault xs = 0) (r : Nat) (cs : List DCenter) (hc : centersFault cs = 0) : centersFault (trainN xs r cs) = 0 ∧ (trainN xs r cs).length = cs.length ∧ cost (trainN xs r cs) xs ≤ cost cs xs := by
  induction r generalizing cs with
  | zero => exact ⟨hc, rfl, Int.le_refl _⟩
  | succ r ih =>
    rw [trainN]
    split
    · exact ⟨hc, rfl, Int.le_refl _⟩
    · obtain ⟨a, b, c⟩ := ih (moved cs xs) (moved_right hc ht)
      rename_i hlt
      exact ⟨a, by rw [b, moved_len], by omega⟩
theorem trainFault_bd (xs : List DItem) (seeds : List Int) (rounds : Int) (h : 0 ≤ tableFault xs ∧ tableFault xs ≤ 9) : 0 ≤ trainFault xs seeds rounds ∧ trainFault xs seeds rounds ≤ 9 := by
  unfold trainFault
  split
  · split
    · decide
    · split
      · decide
      · split
        · split <;> decide
        · decide
  · exact h

end Go.Proofs.Ytjofcmdlcoganaa

namespace Go.Proofs.Ytjofcmdlcoganaa
open Go.RowKit

theorem cen_cell {w : World} {b off k : Nat} {u : Option Value} (h : w.cell? ⟨b, off + k * Lay.tCenter.n + 0, none⟩ = u) : w.cell? ⟨b, off + k, none⟩ = u := by
  have q : w.cell? ⟨b, off + k * 1 + 0, none⟩ = u := h
  rw [Nat.mul_one, Nat.add_zero] at q
  exact q

end Go.Proofs.Ytjofcmdlcoganaa

namespace Go.Proofs.Ytjofcmdlcoganaa
open Go.RowKit

theorem implCount (n : Int) (w : World) :
    Calls Try.prog 58 #[.int .i64 n] w fun e w' => e = .returned (.bool (decide (1 ≤ n) && decide (n ≤ 6))) ∧ w' = w := by
  by_cases h1 : 1 ≤ n
  · have d1 : decide (1 ≤ n) = true := by simpa using h1
    rw [d1]
    cases d2 : decide (n ≤ 6) <;>
    · go_enter Try.func58, Try.ntmps58
      go_wp2_with fail
      go_ret
      exact ⟨rfl, rfl⟩
  · have d1 : decide (1 ≤ n) = false := by simpa using h1
    rw [d1]
    go_enter Try.func58, Try.ntmps58
    go_wp2_with fail
    go_ret
    exact ⟨rfl, rfl⟩

set_option maxRecDepth 100000 in
set_option maxHeartbeats 1000000 in
theorem implCen_pos (b off cap : Nat) (xs : List DCenter) (w : World) (hn : 1 ≤ xs.length ∧ xs.length ≤ 6) (h : (Lay.sl Lay.tCenter).Reads w [.slice (some ⟨b, off, none⟩) xs.length cap] xs) (hbl : b < w.heap.size) :
    Calls Try.prog 18 #[.slice (some ⟨b, off, none⟩) xs.length cap] w fun e w' => e = .returned (.int .i64 (cenFrom xs)) ∧ Below w.heap.size w w' := by
  generalize hF0 : cenFrom xs = F0
  have H := hide h
  clear h
  go_enter Try.func18, Try.ntmps18
  go_wp2_with fail
  refine (implCount xs.length _).mono ?_
  rintro e w ⟨rfl, rfl⟩
  rw [show (decide ((1 : Int) ≤ (xs.length : Int)) && decide ((xs.length : Int) ≤ 6)) = true by simp; omega]
  go_wp2_with fail
  go_loopw [12] (fun i wr => ∃ k : Nat, k ≤ xs.length ∧ i = .int .i64 k ∧ cenFrom (xs.drop k) = F0 ∧ Below w.heap.size w wr) (fun i _ => xs.length - (intOf i).toNat)
  case atStart => exact ⟨0, Nat.zero_le _, rfl, hF0, Below.refl _ _⟩
  case round =>
    obtain ⟨k, hk, rfl, hF, hB⟩ := hrel
    by_cases hlt : k < xs.length
    · obtain ⟨row, hc, hr⟩ := Lay.row_at (unhide H) hlt
      replace hr := hr.later hB
      obtain ⟨a1, d1, rfl, R1⟩ := open_Center hr
      have c1 : wr.cell? ⟨b, off + k, none⟩ = some (.slice a1 (xs[k]).vec.length d1) := (hB.cell (p := ⟨b, off + k, none⟩) hbl).trans (cen_cell (hc 0 (by decide)))
      rw [cenFrom_step xs k hlt] at hF
      clear hc hr
      generalize hx : xs[k] = x at *
      clear hx
      have hbr : b < wr.heap.size := Nat.lt_of_lt_of_le hbl hB.size
      have nb : Below wr.heap.size wr (wr.alloc (.cells #[.slice a1 x.vec.length d1] 77)) := (Below.refl _ _).alloc (Nat.le_refl _) _
      have I1 := hide ((Lay.ints_reads R1).later nb)
      have HF := hide hF
      have B1 := hide (hB.trans (nb.mono hB.size))
      clear R1 hF hB nb
      go_wp2_with fail
      refine (implFault _ x.vec _ (unhide I1)).mono ?_
      rintro e w1 ⟨rfl, rfl⟩
      by_cases hv : vecFault x.vec = 0
      · rw [hv]
        have hF := unhide HF
        rw [if_pos hv] at hF
        clear HF I1 hv
        have HF := hide hF
        clear hF
        go_wp2_with fail
        go_roundw
        case rel => exact ⟨k + 1, by omega, by go_num, unhide HF, unhide B1⟩
        case measure => simp [intOf]; omega
      · have hF := unhide HF
        rw [if_neg hv] at hF
        have hd : (vecFault x.vec != 0) = true := by simpa using hv
        have HF2 := hide hF
        clear HF hF I1 hv
        go_wp2_with fail
        go_ret
        exact ⟨by rw [← unhide HF2]; rfl, unhide B1⟩
    · obtain rfl : k = xs.length := by omega
      rw [List.drop_length] at hF
      have HF := hide hF
      have HB := hide hB
      clear hF hB H
      go_wp2_with fail
      go_ret
      exact ⟨by rw [← unhide HF]; rfl, unhide HB⟩

set_option maxRecDepth 10000 in
theorem implCen (v : Value) (xs : List DCenter) (w : World) (h : (Lay.sl Lay.tCenter).Reads w [v] xs) :
    Calls Try.prog 18 #[v] w fun e w' => e = .returned (.int .i64 (centersFault xs)) ∧ Below w.heap.size w w' := by
  have hbig := h.big
  obtain ⟨ao, cap, rfl⟩ := open_sl h
  by_cases hn : xs.length < 1 ∨ 6 < xs.length
  · have e : centersFault xs = 2 := by unfold centersFault; rw [if_pos hn]
    rw [e]
    clear h e
    go_enter Try.func18, Try.ntmps18
    go_wp2_with fail
    refine (implCount xs.length _).mono ?_
    rintro e w ⟨rfl, rfl⟩
    rw [show (decide ((1 : Int) ≤ (xs.length : Int)) && decide ((xs.length : Int) ≤ 6)) = false by simp; omega]
    go_wp2_with fail
    go_ret
    exact ⟨rfl, Below.refl _ _⟩
  · have e : centersFault xs = cenFrom xs := by unfold centersFault; rw [if_neg hn]
    rw [e]
    obtain ⟨b, off, rfl, hbl⟩ := Lay.sl_addr h (by omega)
    exact implCen_pos b off cap xs w (by omega) h hbl

end Go.Proofs.Ytjofcmdlcoganaa

namespace Go.Proofs.Ytjofcmdlcoganaa
open Go.RowKit

theorem implId (v : Int) (w : World) :
    Calls Try.prog 93 #[.int .i64 v] w fun e w' => e = .returned (.bool (decide (1 ≤ v) && decide (v ≤ 999))) ∧ w' = w := by
  by_cases h1 : 1 ≤ v
  · have d1 : decide (1 ≤ v) = true := by simpa using h1
    rw [d1]
    cases d2 : decide (v ≤ 999) <;>
    · go_enter Try.func93, Try.ntmps93
      go_wp2_with fail
      go_ret
      exact ⟨rfl, rfl⟩
  · have d1 : decide (1 ≤ v) = false := by simpa using h1
    rw [d1]
    go_enter Try.func93, Try.ntmps93
    go_wp2_with fail
    go_ret
    exact ⟨rfl, rfl⟩

end Go.Proofs.Ytjofcmdlcoganaa

namespace Go.Proofs.Ytjofcmdlcoganaa
open Go.RowKit

set_option maxRecDepth 100000 in
set_option maxHeartbeats 1000000 in
theorem implTab_pos (b off cap : Nat) (xs : List DItem) (w : World) (hn : xs.length ≤ 30) (h : (Lay.sl Lay.tItem).Reads w [.slice (some ⟨b, off, none⟩) xs.length cap] xs) (hbl : b < w.heap.size) :
    Calls Try.prog 73 #[.slice (some ⟨b, off, none⟩) xs.length cap] w fun e w' => e = .returned (.int .i64 (tabFrom none xs)) ∧ Below w.heap.size w w' := by
  generalize hF0 : tabFrom none xs = F0
  have H := hide h
  clear h
  go_enter Try.func73, Try.ntmps73
  go_wp2_with fail
  go_loopw [11] (fun i wr => ∃ k : Nat, k ≤ xs.length ∧ i = .int .i64 k ∧ tabFrom (idAhead xs k) (xs.drop k) = F0 ∧ Below w.heap.size w wr) (fun i _ => xs.length - (intOf i).toNat)
  case atStart => exact ⟨0, Nat.zero_le _, rfl, hF0, Below.refl _ _⟩
  case round =>
    obtain ⟨k, hk, rfl, hF, hB⟩ := hrel
    by_cases hlt : k < xs.length
    · obtain ⟨row, hc, hr⟩ := Lay.row_at (unhide H) hlt
      replace hr := hr.later hB
      obtain ⟨a1, d1, rfl, R1⟩ := open_Item hr
      have c0 : wr.cell? ⟨b, off + k * 2, none⟩ = some (.int .i64 (xs[k]).id) := (hB.cell (p := ⟨b, off + k * 2, none⟩) hbl).trans (hc 0 (by decide))
      have c1 : wr.cell? ⟨b, off + k * 2 + 1, none⟩ = some (.slice a1 (xs[k]).vec.length d1) := (hB.cell (p := ⟨b, off + k * 2 + 1, none⟩) hbl).trans (hc 1 (by decide))
      have HP : Hid (∀ m, k = m + 1 → ∃ z, idAhead xs (m + 1) = some z ∧ wr.cell? ⟨b, off + m * 2, none⟩ = some (.int .i64 z)) := by
        rintro m rfl
        have hm : m < xs.length := by omega
        obtain ⟨row2, hc2, hr2⟩ := Lay.row_at (unhide H) hm
        obtain ⟨a2, d2, rfl, -⟩ := open_Item hr2
        exact ⟨_, idAhead_succ xs m hm, (hB.cell (p := ⟨b, off + m * 2, none⟩) hbl).trans (hc2 0 (by decide))⟩
      rw [tabFrom_step xs k hlt] at hF
      clear hc hr
      generalize hx : xs[k] = x at *
      clear hx
      have hbr : b < wr.heap.size := Nat.lt_of_lt_of_le hbl hB.size
      have nb : Below wr.heap.size wr (wr.alloc (.cells #[.int .i64 x.id, .slice a1 x.vec.length d1] 41)) := (Below.refl _ _).alloc (Nat.le_refl _) _
      have I1 := hide ((Lay.ints_reads R1).later nb)
      have HF := hide hF
      have B1 := hide (hB.trans (nb.mono hB.size))
      clear R1 hF hB nb
      go_wp2_with fail
      refine (implId x.id _).mono ?_
      rintro e w1 ⟨rfl, rfl⟩
      rw [show (decide (1 ≤ x.id) && decide (x.id ≤ 999)) = idB x.id from rfl]
      cases hid : idB x.id with
      | false =>
        have hF := unhide HF
        rw [hid, if_neg (by simp)] at hF
        have HF2 := hide hF
        clear HF hF hid HP
        go_wp2_with fail
        go_ret
        exact ⟨by rw [← unhide HF2]; rfl, unhide B1⟩
      | true =>
        have hF := unhide HF
        rw [hid, if_pos rfl] at hF
        clear HF hid
        have HF := hide hF
        clear hF
        go_wp2_with fail
        refine (implFault _ x.vec _ (unhide I1)).mono ?_
        rintro e w1 ⟨rfl, rfl⟩
        by_cases hv : vecFault x.vec = 0
        · rw [hv]
          have hF := unhide HF
          rw [if_pos hv] at hF
          clear HF I1 hv
          have HF := hide hF
          clear hF
          by_cases hk0 : k = 0
          · subst hk0
            have hF := unhide HF
            rw [idAhead_zero, Option.all_none, if_pos rfl] at hF
            have HF3 := hide hF
            clear HF hF HP
            have g0 : decide ((0 : Int) < 0) = false := by decide
            go_wp2_with fail
            go_quiet (fail)
            all_goals go_wp2_with fail
            all_goals exact ⟨⟨0 + 1, by omega, by go_num, unhide HF3, below_drewN (unhide B1) _⟩, by simp [intOf]; omega⟩
          · obtain ⟨m, rfl⟩ : ∃ m, k = m + 1 := ⟨k - 1, by omega⟩
            obtain ⟨z, e1, p0⟩ := unhide HP m rfl
            have hF := unhide HF
            rw [e1, Option.all_some] at hF
            have HF3 := hide hF
            clear HF hF HP e1 hk0
            have g1 : decide ((0 : Int) < (m : Int) + 1) = true := by simp
            have g4 : IntKind.i64.wrap ((m : Int) + 1 - 1) = (m : Int) := by simp only [IntKind.wrap_i64]; omega
            have g9 : IntKind.i64.wrap (m : Int) = (m : Int) := by simp only [IntKind.wrap_i64]; omega
            have g2 : (m : Int) + 1 - 1 = (m : Int) := by omega
            have g3 : (m : Int) < (xs.length : Int) := by omega
            have g5 : (0 : Int) ≤ (m : Int) := by omega
            cases hq : decide (z < x.id) with
            | true =>
              have hF := unhide HF3
              rw [hq, if_pos rfl] at hF
              have HF4 := hide hF
              have q1 : decide (x.id ≤ z) = false := by simp at hq ⊢; omega
              clear hF HF3 hq
              go_wp2_with fail
              go_quiet (fail)
              all_goals go_wp2_with fail
              all_goals exact ⟨⟨m + 1 + 1, by omega, by go_num, unhide HF4, below_drewN (unhide B1) _⟩, by simp [intOf]; omega⟩
            | false =>
              have hF := unhide HF3
              rw [hq, if_neg (by simp)] at hF
              have HF4 := hide hF
              have q1 : decide (x.id ≤ z) = true := by simp at hq ⊢; omega
              clear hF HF3 hq
              go_wp2_with fail
              go_quiet (fail)
              all_goals go_wp2_with fail
              all_goals go_ret
              all_goals exact ⟨by rw [← unhide HF4]; rfl, below_drewN (unhide B1) _⟩
        · have hF := unhide HF
          rw [if_neg hv] at hF
          have hd : (vecFault x.vec != 0) = true := by simpa using hv
          have HF2 := hide hF
          clear HF hF HP I1 hv
          go_wp2_with fail
          go_ret
          exact ⟨by rw [← unhide HF2]; rfl, unhide B1⟩
    · obtain rfl : k = xs.length := by omega
      rw [List.drop_length] at hF
      have HF := hide hF
      have HB := hide hB
      clear hF hB H
      go_wp2_with fail
      go_ret
      exact ⟨by rw [← unhide HF]; rfl, unhide HB⟩

set_option maxRecDepth 10000 in
/-- TableFault of the program. -/
theorem implTab (v : Value) (xs : List DItem) (w : World) (h : (Lay.sl Lay.tItem).Reads w [v] xs) :
    Calls Try.prog 73 #[v] w fun e w' => e = .returned (.int .i64 (tableFault xs)) ∧ Below w.heap.size w w' := by
  obtain ⟨ao, cap, rfl⟩ := open_sl h
  by_cases hn : xs.length ≤ 30
  · have e : tableFault xs = tabFrom none xs := by unfold tableFault; rw [if_neg (by omega)]
    rw [e]
    by_cases hp : 0 < xs.length
    · obtain ⟨b, off, rfl, hbl⟩ := Lay.sl_addr h hp
      exact implTab_pos b off cap xs w hn h hbl
    · obtain rfl : xs = [] := List.eq_nil_of_length_eq_zero (by omega)
      clear h e hn hp
      go_enter Try.func73, Try.ntmps73
      go_wp2_with fail
      refine wp_loop_rounds 1 ?_
      rw [rounds_succ]
      go_wp2_with fail
      go_ret
      exact ⟨rfl, Below.refl _ _⟩
  · have e : tableFault xs = 2 := by unfold tableFault; rw [if_pos (by omega)]
    rw [e]
    have hd : decide ((30 : Int) < (xs.length : Int)) = true := by simp; omega
    clear h e
    go_enter Try.func73, Try.ntmps73
    go_wp2_with fail
    go_ret
    exact ⟨rfl, Below.refl _ _⟩

end Go.Proofs.Ytjofcmdlcoganaa

namespace Go.Proofs.Ytjofcmdlcoganaa
open Go.RowKit

structure DIntResult where
  code : Int
  value : Int

def Lay.tIntResult : Lay DIntResult := Lay.via (Lay.pair Lay.int Lay.int) (fun x => (x.code, x.value)) (fun p => ⟨p.1, p.2⟩)

theorem lies_IntResult {w : World} {cs : List Value} {x : DIntResult} {bl : List Nat} : Lay.tIntResult.lies w cs x bl ↔ cs = [.int .i64 x.code, .int .i64 x.value] ∧ bl = [] ∧ (Lit.int .i64 x.code).wf = true ∧ (Lit.int .i64 x.value).wf = true := by
  constructor
  · intro h
    obtain ⟨c0_, r0_, e0_, s0_, rfl, rfl, h0, h1⟩ := h
    obtain ⟨rfl, w0, rfl⟩ := h0
    obtain ⟨rfl, w1, rfl⟩ := h1
    exact ⟨by simp, by simp, w0, w1⟩
  · rintro ⟨rfl, hbl, w0, w1⟩
    rw [hbl]
    exact ⟨[.int .i64 x.code], [.int .i64 x.value], [], [], rfl, by simp, ⟨rfl, w0, rfl⟩, ⟨rfl, w1, rfl⟩⟩

end Go.Proofs.Ytjofcmdlcoganaa

namespace Go.Proofs.Ytjofcmdlcoganaa
open Go.RowKit

def nearestR (cs : List DCenter) (q : List Int) : DIntResult := if centersFault cs = 0 then (if vecFault q = 0 then ⟨0, (near cs q : Nat)⟩ else ⟨vecFault q, 0⟩) else ⟨centersFault cs, 0⟩
def askFault (cs : List DCenter) (xs : List DItem) : Int := if centersFault cs = 0 then tableFault xs else centersFault cs
theorem askFault_zero {cs : List DCenter} {xs : List DItem} (h : askFault cs xs = 0) : centersFault cs = 0 ∧ tableFault xs = 0 := by
  unfold askFault at h
  by_cases hc : centersFault cs = 0
  · rw [if_pos hc] at h; exact ⟨hc, h⟩
  · rw [if_neg hc] at h; exact absurd h hc
def assignR (cs : List DCenter) (xs : List DItem) : DIntsResult := if askFault cs xs = 0 then ⟨0, placesL cs xs⟩ else ⟨askFault cs xs, []⟩
def costR (cs : List DCenter) (xs : List DItem) : DIntResult := if askFault cs xs = 0 then ⟨0, cost cs xs⟩ else ⟨askFault cs xs, 0⟩
def movedR (cs : List DCenter) (xs : List DItem) : DCentersResult := if askFault cs xs = 0 then ⟨0, moved cs xs⟩ else ⟨askFault cs xs, []⟩
theorem own_intR {w : World} {c x : Int} {lo hi : Nat} (hc : (Lit.int .i64 c).wf = true) (hx : (Lit.int .i64 x).wf = true) : Lay.tIntResult.OwnIn w [.int .i64 c, .int .i64 x] ⟨c, x⟩ lo hi :=
  ⟨[], ⟨⟨[.int .i64 c], [.int .i64 x], [], [], rfl, by simp, ⟨rfl, hc, rfl⟩, ⟨rfl, hx, rfl⟩⟩, by simp, by simp⟩, by simp⟩
theorem own_censR {w : World} {c : Int} {v : Value} {cs : List DCenter} {lo hi : Nat} (hc : (Lit.int .i64 c).wf = true) (h : (Lay.sl Lay.tCenter).OwnIn w [v] cs lo hi) : Lay.tCentersResult.OwnIn w [.int .i64 c, v] ⟨c, cs⟩ lo hi := by
  obtain ⟨bl, ⟨l, n, f⟩, i⟩ := h
  exact ⟨bl, ⟨⟨[.int .i64 c], [v], [], bl, rfl, by simp, ⟨rfl, hc, rfl⟩, l⟩, n, f⟩, i⟩
theorem own_codeCens {w : World} {c : Int} {lo hi : Nat} (hc : (Lit.int .i64 c).wf = true) : Lay.tCentersResult.OwnIn w [.int .i64 c, .slice none 0 0] ⟨c, []⟩ lo hi := own_censR hc ⟨[], ⟨⟨none, 0, rfl, by simp, Or.inl ⟨rfl, rfl⟩⟩, by simp, by simp⟩, by simp⟩
theorem read_censR {w : World} {c : Int} {v : Value} {cs : List DCenter} (hc : (Lit.int .i64 c).wf = true) (h : (Lay.sl Lay.tCenter).Reads w [v] cs) : Lay.tCentersResult.Reads w [.int .i64 c, v] ⟨c, cs⟩ := by
  obtain ⟨bl, l⟩ := h
  exact ⟨bl, [.int .i64 c], [v], [], bl, rfl, by simp, ⟨rfl, hc, rfl⟩, l⟩
theorem own_intsR6 {w : World} {c : Int} {v : Value} {zs : List Int} {lo hi : Nat} (hc : (Lit.int .i64 c).wf = true) (h : (Lay.sl Lay.int).OwnIn w [v] zs lo hi) : Lay.tIntsResult.OwnIn w [.int .i64 c, v] ⟨c, zs⟩ lo hi := by
  obtain ⟨bl, ⟨l, n, f⟩, i⟩ := h
  exact ⟨bl, ⟨⟨[.int .i64 c], [v], [], bl, rfl, by simp, ⟨rfl, hc, rfl⟩, l⟩, n, f⟩, i⟩
theorem own_codeInts6 {w : World} {c : Int} {lo hi : Nat} (hc : (Lit.int .i64 c).wf = true) : Lay.tIntsResult.OwnIn w [.int .i64 c, .slice none 0 0] ⟨c, []⟩ lo hi := own_intsR6 hc ⟨[], ⟨⟨none, 0, rfl, by simp, Or.inl ⟨rfl, rfl⟩⟩, by simp, by simp⟩, by simp⟩
theorem tabFrom_bd (p : Option Int) (xs : List DItem) : 0 ≤ tabFrom p xs ∧ tabFrom p xs ≤ 3 := by
  induction xs generalizing p with
  | nil => show (0 : Int) ≤ 0 ∧ (0 : Int) ≤ 3; decide
  | cons x xs ih =>
    rw [tabFrom]
    split
    · split
      · split
        · exact ih _
        · decide
      · exact vecFault_bd _
    · decide
theorem tableFault_bd (xs : List DItem) : 0 ≤ tableFault xs ∧ tableFault xs ≤ 3 := by
  unfold tableFault
  split
  · decide
  · exact tabFrom_bd _ _
theorem askFault_bd (cs : List DCenter) (xs : List DItem) : 0 ≤ askFault cs xs ∧ askFault cs xs ≤ 3 := by
  unfold askFault
  split
  · exact tableFault_bd xs
  · exact centersFault_bd cs
theorem askFault_wf (cs : List DCenter) (xs : List DItem) : (Lit.int .i64 (askFault cs xs)).wf = true := wf_of_bd (by have := askFault_bd cs xs; omega)

end Go.Proofs.Ytjofcmdlcoganaa

namespace Go.Proofs.Ytjofcmdlcoganaa
open Go.RowKit

set_option maxRecDepth 10000 in
theorem implAsk6 (v : Value) (cs : List DCenter) (vx : Value) (xs : List DItem) (w : World) (hcs : (Lay.sl Lay.tCenter).Reads w [v] cs) (h : (Lay.sl Lay.tItem).Reads w [vx] xs) :
    Calls Try.prog 55 #[v, vx] w fun e w' => e = .returned (.int .i64 (askFault cs xs)) ∧ Below w.heap.size w w' := by
  have HX := hide h
  have L := hide (implCen v cs w hcs)
  obtain ⟨ao, cap, rfl⟩ := open_sl hcs
  obtain ⟨ao2, cap2, rfl⟩ := open_sl h
  clear hcs h
  go_enter Try.func55, Try.ntmps55
  go_wp2_with fail
  refine (unhide L).mono ?_
  rintro e w1 ⟨rfl, hb⟩
  have L2 := hide (implTab _ xs w1 ((unhide HX).later hb))
  have HB := hide hb
  clear hb L HX
  by_cases hf : centersFault cs = 0
  · have HG : Hid (askFault cs xs = tableFault xs) := if_pos hf
    rw [hf]
    clear hf
    go_wp2_with fail
    refine (unhide L2).mono ?_
    rintro e w2 ⟨rfl, hb2⟩
    have HB2 := hide ((unhide HB).trans (hb2.mono (unhide HB).size))
    clear hb2 L2 HB
    go_wp2_with fail
    go_ret
    exact ⟨by rw [unhide HG]; rfl, unhide HB2⟩
  · have HG : Hid (askFault cs xs = centersFault cs) := if_neg hf
    have hd : (centersFault cs != 0) = true := by simpa using hf
    clear hf L2
    go_wp2_with fail
    go_ret
    exact ⟨by rw [unhide HG]; rfl, unhide HB⟩

end Go.Proofs.Ytjofcmdlcoganaa

namespace Go.Proofs.Ytjofcmdlcoganaa
open Go.RowKit

theorem cvec3 {zs : List Int} (h : vecFault zs = 0) : ∃ p q r, zs = [p, q, r] := by
  have hl := (vecFault_zero h).1
  match zs, hl with
  | [p, q, r], _ => exact ⟨p, q, r, rfl⟩
theorem implScore3 (v1 v2 : Value) (p q : List Int) (w : World) (h1 : IsInts w v1 p) (h2 : IsInts w v2 q) (f1 : vecFault p = 0) (f2 : vecFault q = 0) :
    Calls Try.prog 87 #[v1, v2] w fun e w' => e = .returned (.agg #[.int .i64 0, .int .i64 (score3 p q)]) ∧ Below w.heap.size w w' := by
  obtain ⟨x, y, z, rfl⟩ := cvec3 f1
  obtain ⟨a, b, c, rfl⟩ := cvec3 f2
  exact implScore_ok v1 v2 x y z a b c w h1 h2 f1 f2
theorem modelScore3 (v1 v2 : Value) (p q : List Int) (w : World) (h1 : IsInts w v1 p) (h2 : IsInts w v2 q) (f1 : vecFault p = 0) (f2 : vecFault q = 0) :
    Calls Try.prog 86 #[v1, v2] w fun e w' => e = .returned (.int .i64 (score3 p q)) ∧ Below w.heap.size w w' := by
  obtain ⟨x, y, z, rfl⟩ := cvec3 f1
  obtain ⟨a, b, c, rfl⟩ := cvec3 f2
  obtain ⟨b1, o1, k1, x', y', z', he, rfl, hbl, c0, c1, c2⟩ := h1.three rfl
  simp only [List.cons.injEq, and_true] at he
  obtain ⟨rfl, rfl, rfl⟩ := he
  obtain ⟨b2, o2, k2, x', y', z', he, rfl, hbl2, d0, d1, d2⟩ := h2.three rfl
  simp only [List.cons.injEq, and_true] at he
  obtain ⟨rfl, rfl, rfl⟩ := he
  exact modelSum b1 o1 k1 b2 o2 k2 x y z a b c w c0 c1 c2 d0 d1 d2 f1 f2

end Go.Proofs.Ytjofcmdlcoganaa

namespace Go.Proofs.Ytjofcmdlcoganaa
open Go.RowKit

set_option maxRecDepth 100000 in
set_option maxHeartbeats 1000000 in
theorem nearC_pos (b off cap : Nat) (cs : List DCenter) (a2 : Option Addr) (d2 : Nat) (q : List Int) (w : World) (h : (Lay.sl Lay.tCenter).Reads w [.slice (some ⟨b, off, none⟩) cs.length cap] cs) (hbl : b < w.heap.size) (hq : IsInts w (.slice a2 q.length d2) q) (hc0 : centersFault cs = 0) (hv : vecFault q = 0) :
    Calls Try.prog 56 #[.slice (some ⟨b, off, none⟩) cs.length cap, .slice a2 q.length d2] w fun e w' => e = .returned (.tuple #[.int .i64 (near cs q : Nat), .int .i64 (nearS cs q)]) ∧ Below w.heap.size w w' := by
  obtain ⟨hn, hall⟩ := centersFault_zero hc0
  have HQ := hide hq
  have HA := hide hall
  have HV := hide hv
  have H := hide h
  have HN : Hid ((near cs q = (nearK cs q cs.length).1) ∧ (nearS cs q = (nearK cs q cs.length).2)) := ⟨rfl, rfl⟩
  clear h hq hall hc0 hv
  go_enter Try.func56, Try.ntmps56
  go_wp2_with fail
  go_loopw [6, 7, 12] (fun a l i wr => ∃ k : Nat, k ≤ cs.length ∧ i = .int .i64 k ∧ a = .int .i64 ((nearK cs q k).1 : Nat) ∧ l = .int .i64 (nearK cs q k).2 ∧ Below w.heap.size w wr) (fun _ _ i _ => cs.length - (intOf i).toNat)
  case atStart => exact ⟨0, Nat.zero_le _, rfl, rfl, rfl, Below.refl _ _⟩
  case round =>
    obtain ⟨k, hk, rfl, rfl, rfl, hB⟩ := hrel
    by_cases hlt : k < cs.length
    · obtain ⟨row, hc, hr⟩ := Lay.row_at (unhide H) hlt
      replace hr := hr.later hB
      obtain ⟨a1, d1, rfl, R1⟩ := open_Center hr
      have c1 : wr.cell? ⟨b, off + k, none⟩ = some (.slice a1 (cs[k]).vec.length d1) := (hB.cell (p := ⟨b, off + k, none⟩) hbl).trans (cen_cell (hc 0 (by decide)))
      have HS := hide (nearK_step cs q k hlt)
      have hbd := nearK_bd (unhide HA) (unhide HV) k hk
      have hvx := unhide HA cs[k] (List.getElem_mem hlt)
      clear hc hr
      generalize hx : cs[k] = x at *
      clear hx
      have hsb := cscore_bd hvx (unhide HV)
      have I1 := hide (Lay.ints_reads R1)
      have I2 := hide ((unhide HQ).later hB)
      have HX := hide hvx
      have HB := hide hB
      clear R1 hB hvx
      have L := hide (implScore3 _ _ x.vec q wr (unhide I1) (unhide I2) (unhide HX) (unhide HV))
      generalize score3 x.vec q = sc at *
      generalize hs : nearK cs q k = s at *
      clear hs
      obtain ⟨sa, sl⟩ := s
      simp only at hbd
      have hfl : ∀ W : World, (Instr.field 33 (.agg #[.int .i64 0, .int .i64 sc]) 1).run Try.prog W = .ok (.int .i64 sc) W := fun _ => by kernel_rfl
      go_wp2_with fail
      refine (unhide L).mono ?_
      rintro e w1 ⟨rfl, hb⟩
      have HB2 := hide ((unhide HB).trans (hb.mono (unhide HB).size))
      clear hb L HB I1 I2 c1
      cases hd : decide (sc < sl) with
      | true =>
        have HS2 : Hid (nearK cs q (k + 1) = (k, sc)) := (unhide HS).trans (if_pos (by simpa using hd))
        clear HS
        go_wp2_with fail
        go_roundw
        case rel => exact ⟨k + 1, by omega, by go_num, by rw [unhide HS2], by rw [unhide HS2], unhide HB2⟩
        case measure => simp [intOf]; omega
      | false =>
        have HS2 : Hid (nearK cs q (k + 1) = (sa, sl)) := (unhide HS).trans (if_neg (by simpa using hd))
        clear HS
        go_wp2_with fail
        go_roundw
        case rel => exact ⟨k + 1, by omega, by go_num, by rw [unhide HS2], by rw [unhide HS2], unhide HB2⟩
        case measure => simp [intOf]; omega
    · obtain rfl : k = cs.length := by omega
      have HB := hide hB
      clear hB H
      go_wp2_with fail
      refine bodyPost_ret (v := .tuple #[.int .i64 ((nearK cs q cs.length).1 : Nat), .int .i64 (nearK cs q cs.length).2]) (by simp [results, Try.results56, go_sem]) rfl ⟨rfl, unhide HB⟩

theorem nearC (v : Value) (cs : List DCenter) (vq : Value) (q : List Int) (w : World) (h : (Lay.sl Lay.tCenter).Reads w [v] cs) (hq : IsInts w vq q) (hc : centersFault cs = 0) (hv : vecFault q = 0) :
    Calls Try.prog 56 #[v, vq] w fun e w' => e = .returned (.tuple #[.int .i64 (near cs q : Nat), .int .i64 (nearS cs q)]) ∧ Below w.heap.size w w' := by
  obtain ⟨ao, cap, rfl⟩ := open_sl h
  have hvq : ∃ a d, vq = .slice a q.length d := by obtain ⟨a, d, e, -⟩ := hq; exact ⟨a, d, e⟩
  obtain ⟨a2, d2, rfl⟩ := hvq
  obtain ⟨b, off, rfl, hbl⟩ := Lay.sl_addr h (centersFault_zero hc).1.1
  exact nearC_pos b off cap cs a2 d2 q w h hbl hq hc hv

end Go.Proofs.Ytjofcmdlcoganaa

namespace Go.Proofs.Ytjofcmdlcoganaa
open Go.RowKit

/-- A row of n triples. -/
structure Sums3 (w : World) (g n : Nat) (f : Nat → Nat → Int) : Prop where
  lt : g < w.heap.size
  soft : ∀ o, w.frozen? ⟨g, o, none⟩ = false
  cell : ∀ p, p < n → ∀ j, j < 3 → w.cell? ⟨g, p * 3 + j, none⟩ = some (.int .i64 (f p j))
/-- A row of n numbers. -/
structure Sums1 (w : World) (g n : Nat) (f : Nat → Int) : Prop where
  lt : g < w.heap.size
  soft : ∀ o, w.frozen? ⟨g, o, none⟩ = false
  cell : ∀ p, p < n → w.cell? ⟨g, p, none⟩ = some (.int .i64 (f p))
def upd3 (f : Nat → Nat → Int) (p : Nat) (x y z : Int) : Nat → Nat → Int := fun q j => if q = p then (if j = 0 then x else if j = 1 then y else z) else f q j
def upd1 (f : Nat → Int) (p : Nat) (x : Int) : Nat → Int := fun q => if q = p then x else f q

theorem Sums3.ext {S : Nat → Prop} {w w' : World} {g n : Nat} {f : Nat → Nat → Int} (h : Sums3 w g n f) (e : Ext S w w') (hs : ¬ S g) : Sums3 w' g n f := by
  have hh := e.block g h.lt hs
  exact ⟨Nat.lt_of_lt_of_le h.lt e.size, fun o => (frozen_of_heap hh o).trans (h.soft o), fun p hp j hj => (cell_of_heap hh _).trans (h.cell p hp j hj)⟩
theorem Sums3.later {w w' : World} {g n : Nat} {f : Nat → Nat → Int} (h : Sums3 w g n f) (hb : Below w.heap.size w w') : Sums3 w' g n f := h.ext (ext_of_below hb nowhere) fun h => h
theorem Sums3.drew {w : World} {g n : Nat} {f : Nat → Nat → Int} (h : Sums3 w g n f) : Sums3 w.drew g n f := ⟨h.lt, h.soft, h.cell⟩
theorem Sums1.ext {S : Nat → Prop} {w w' : World} {g n : Nat} {f : Nat → Int} (h : Sums1 w g n f) (e : Ext S w w') (hs : ¬ S g) : Sums1 w' g n f := by
  have hh := e.block g h.lt hs
  exact ⟨Nat.lt_of_lt_of_le h.lt e.size, fun o => (frozen_of_heap hh o).trans (h.soft o), fun p hp => (cell_of_heap hh _).trans (h.cell p hp)⟩
theorem Sums1.later {w w' : World} {g n : Nat} {f : Nat → Int} (h : Sums1 w g n f) (hb : Below w.heap.size w w') : Sums1 w' g n f := h.ext (ext_of_below hb nowhere) fun h => h
theorem Sums1.drew {w : World} {g n : Nat} {f : Nat → Int} (h : Sums1 w g n f) : Sums1 w.drew g n f := ⟨h.lt, h.soft, h.cell⟩

theorem frozen_set (w : World) (a : Addr) (v : Value) (p : Addr) : (w.setCell a v).frozen? p = w.frozen? p := by simp [go_sem]
theorem Sums1.set {w : World} {g n : Nat} {f : Nat → Int} (h : Sums1 w g n f) (p : Nat) (hp : p < n) (x : Int) : Sums1 (w.setCell ⟨g, p, none⟩ (.int .i64 x)) g n (upd1 f p x) := by
  refine ⟨by simpa using h.lt, fun o => (frozen_set _ _ _ _).trans (h.soft o), fun q hq => ?_⟩
  unfold upd1
  by_cases e : q = p
  · subst e
    rw [if_pos rfl]
    exact World.cell?_setCell_same _ _ _ (h.cell q hq)
  · rw [if_neg e]
    have : (w.setCell ⟨g, p, none⟩ (.int .i64 x)).cell? ⟨g, q, none⟩ = w.cell? ⟨g, q, none⟩ := by apply World.cell?_setCell_other; simp
    rw [this]
    exact h.cell q hq
theorem cell_set_same {w : World} {a : Addr} {u v : Value} (h : w.cell? a = some u) : (w.setCell a v).cell? a = some v := World.cell?_setCell_same _ _ _ h
theorem cell_set_off {w : World} {g o o' : Nat} {v : Value} (h : o' ≠ o) : (w.setCell ⟨g, o, none⟩ v).cell? ⟨g, o', none⟩ = w.cell? ⟨g, o', none⟩ := by apply World.cell?_setCell_other; simp
theorem Sums3.set {w : World} {g n : Nat} {f : Nat → Nat → Int} (h : Sums3 w g n f) (p : Nat) (hp : p < n) (x y z : Int) :
    Sums3 (((w.setCell ⟨g, p * 3, none⟩ (.int .i64 x)).setCell ⟨g, p * 3 + 1, none⟩ (.int .i64 y)).setCell ⟨g, p * 3 + 2, none⟩ (.int .i64 z)) g n (upd3 f p x y z) := by
  refine ⟨by simpa using h.lt, fun o => ((frozen_set _ _ _ _).trans ((frozen_set _ _ _ _).trans (frozen_set _ _ _ _))).trans (h.soft o), fun q hq j hj => ?_⟩
  unfold upd3
  by_cases e : q = p
  · subst e
    rw [if_pos rfl]
    have c0 := h.cell q hq 0 (by omega)
    have c1 := h.cell q hq 1 (by omega)
    have c2 := h.cell q hq 2 (by omega)
    match j, hj with
    | 0, _ =>
      rw [if_pos rfl, Nat.add_zero, cell_set_off (by omega), cell_set_off (by omega)]
      exact cell_set_same c0
    | 1, _ =>
      rw [if_neg (by omega), if_pos rfl, cell_set_off (by omega)]
      exact cell_set_same ((cell_set_off (by omega)).trans c1)
    | 2, _ =>
      rw [if_neg (by omega), if_neg (by omega)]
      exact cell_set_same ((cell_set_off (by omega)).trans ((cell_set_off (by omega)).trans c2))
  · rw [if_neg e, cell_set_off (by omega), cell_set_off (by omega), cell_set_off (by omega)]
    exact h.cell q hq j hj
theorem Sums3.of_row {w : World} {base T g n cap : Nat} (h : w.ownsRow base T 3 (.slice (some ⟨g, 0, none⟩) n cap) n (List.replicate (n * 3) (.int .i64 0))) : Sums3 w g n (fun _ _ => 0) := by
  refine ⟨(h.lt g rfl).2, fun o => h.frozenAt o, fun p hp j hj => ?_⟩
  have hm : p * 3 + j < n * 3 := by omega
  rw [h.cellAt (p * 3 + j) (by omega)]
  rw [List.getElem?_replicate, if_pos hm]
theorem Sums1.of_row {w : World} {base T g n cap : Nat} (h : w.ownsRow base T 1 (.slice (some ⟨g, 0, none⟩) n cap) n (List.replicate n (.int .i64 0))) : Sums1 w g n (fun _ => 0) := by
  refine ⟨(h.lt g rfl).2, fun o => h.frozenAt o, fun p hp => ?_⟩
  rw [h.cellAt p (by omega)]
  rw [List.getElem?_replicate, if_pos hp]

/-- The sums behind one item more. -/
def sumF (cs : List DCenter) (xs : List DItem) (k : Nat) : Nat → Nat → Int := fun p j => sumK cs xs p j k
def cntF (cs : List DCenter) (xs : List DItem) (k : Nat) : Nat → Int := fun p => cntK cs xs p k
theorem sumF_step (cs : List DCenter) (xs : List DItem) (k : Nat) (h : k < xs.length) (q j : Nat) (hj : j < 3) : sumF cs xs (k + 1) q j = upd3 (sumF cs xs k) (near cs xs[k].vec) (sumF cs xs k (near cs xs[k].vec) 0 + xs[k].vec.getD 0 0) (sumF cs xs k (near cs xs[k].vec) 1 + xs[k].vec.getD 1 0) (sumF cs xs k (near cs xs[k].vec) 2 + xs[k].vec.getD 2 0) q j := by
  unfold sumF upd3
  rw [sumK_step cs xs q j k h]
  by_cases e : near cs xs[k].vec = q
  · rw [if_pos e, if_pos e.symm, e]
    match j, hj with
    | 0, _ => rfl
    | 1, _ => rfl
    | 2, _ => rfl
  · rw [if_neg e, if_neg (fun h => e h.symm)]
theorem cntF_step (cs : List DCenter) (xs : List DItem) (k : Nat) (h : k < xs.length) (q : Nat) : cntF cs xs (k + 1) q = upd1 (cntF cs xs k) (near cs xs[k].vec) (cntF cs xs k (near cs xs[k].vec) + 1) q := by
  unfold cntF upd1
  rw [cntK_step cs xs q k h]
  by_cases e : near cs xs[k].vec = q
  · rw [if_pos e, if_pos e.symm, e]
  · rw [if_neg e, if_neg (fun h => e h.symm)]
theorem Sums3.same {w : World} {g n : Nat} {f f' : Nat → Nat → Int} (h : Sums3 w g n f) (e : ∀ q j, j < 3 → f' q j = f q j) : Sums3 w g n f' := ⟨h.lt, h.soft, fun p hp j hj => by rw [e p j hj]; exact h.cell p hp j hj⟩
theorem Sums1.same {w : World} {g n : Nat} {f f' : Nat → Int} (h : Sums1 w g n f) (e : ∀ q, f' q = f q) : Sums1 w g n f' := ⟨h.lt, h.soft, fun p hp => by rw [e p]; exact h.cell p hp⟩
theorem Sums1.sameLt {w : World} {g n : Nat} {f f' : Nat → Int} (h : Sums1 w g n f) (e : ∀ q, q < n → f' q = f q) : Sums1 w g n f' := ⟨h.lt, h.soft, fun p hp => by rw [e p hp]; exact h.cell p hp⟩

end Go.Proofs.Ytjofcmdlcoganaa

namespace Go.Proofs.Ytjofcmdlcoganaa
open Go.RowKit

theorem plusNum (x y : Int) (w : World) (h1 : -1000000 ≤ x + y) (h2 : x + y ≤ 1000000) :
    Calls Try.prog 78 #[.int .i64 x, .int .i64 y] w fun e w' => e = .returned (.int .i64 (x + y)) ∧ w' = w := by
  go_enter Try.func78, Try.ntmps78
  go_wp2_with fail
  go_ret
  exact ⟨rfl, rfl⟩

set_option maxRecDepth 10000 in
set_option maxHeartbeats 2000000 in
theorem plusVec (x y z a b c : Int) (w : World) (x1 : -1000000 ≤ x + a) (x2 : x + a ≤ 1000000) (y1 : -1000000 ≤ y + b) (y2 : y + b ≤ 1000000) (z1 : -1000000 ≤ z + c) (z2 : z + c ≤ 1000000) :
    Calls Try.prog 76 #[.agg #[.int .i64 x, .int .i64 y, .int .i64 z], .agg #[.int .i64 a, .int .i64 b, .int .i64 c]] w fun e w' => e = .returned (.agg #[.int .i64 (x + a), .int .i64 (y + b), .int .i64 (z + c)]) ∧ Below w.heap.size w w' := by
  go_enter Try.func76, Try.ntmps76
  go_wp2_with fail
  refine wp_loop_rounds 4 ?_
  rw [rounds_succ]
  go_wp2
  go_region
  go_wp2
  rw [rounds_succ]
  go_wp2
  go_region
  go_wp2
  rw [rounds_succ]
  go_wp2
  go_region
  go_wp2
  rw [rounds_succ]
  go_wp2
  refine bodyPost_ret (v := .agg #[.int .i64 (x + a), .int .i64 (y + b), .int .i64 (z + c)]) (by simp [results, Try.results76, go_sem]) rfl ⟨rfl, ?_⟩
  repeat first
    | exact Below.refl _ _
    | refine Below.drew ?_
    | refine Below.setCell ?_ (by simp <;> omega) _
    | refine Below.setCell ?_ (by simp) _
    | refine Below.alloc ?_ (by simp <;> omega) _
    | refine Below.alloc ?_ (by simp) _
    | refine below_drawn ?_ _

end Go.Proofs.Ytjofcmdlcoganaa

namespace Go.Proofs.Ytjofcmdlcoganaa
open Go.RowKit

theorem Ext.drewX {S : Nat → Prop} {a b : World} (h : Ext S a b) : Ext S a b.drew := ⟨h.os, h.tape, h.output, h.size, h.block⟩
theorem Ext.allocX {S : Nat → Prop} {a b : World} (h : Ext S a b) (o : Obj) : Ext S a (b.alloc o) := h.trans (ext_of_below ((Below.refl _ _).alloc (Nat.le_refl _) o) S)

end Go.Proofs.Ytjofcmdlcoganaa
