/-
  Texts of this proof in one: MeanPlain, CenPlain, LayIntResult, CenRes, LayIvfList, LayIvf, LayIvfResult, IvfPlain, AppIvfList, ImplTellExt, IvfTwo, IvfFirst, StepMake, DrawCen, CenRow, CenScoreC, SpecCen, SpecNear.
  Their conditions stand in their theorems.
-/
import Derived.WalkKit
import Derived.Test.YtggnnbdjihihiaaGreatVq02
import Derived.Test.YtggnnbdjihihiaaGreatVq01
import Derived.Test.YtggnnbdjihihiaaGreatChecked
import Derived.OwnWalk
import Derived.Deep.RegionHeld3

namespace Go.Proofs.YtggnnbdjihihiaaGreat

def mean (s n : Int) : Int := (2 * s + n) / (2 * n)
def sumB (n z : Int) : Bool := decide (-1000 * n ≤ z) && decide (z ≤ 1000 * n)
def meanFault (zs : List Int) (n : Int) : Int := if n < 1 ∨ 1000 < n then 3 else if zs.length = 3 then (if zs.all (sumB n) then 0 else 3) else 1
def meanList (zs : List Int) (n : Int) : List Int := if meanFault zs n = 0 then [mean (zs.getD 0 0) n, mean (zs.getD 1 0) n, mean (zs.getD 2 0) n] else []

theorem near_bd (s n : Int) (h1 : 1 ≤ n) (h3 : -1000 * n ≤ s) (h4 : s ≤ 1000 * n) : 0 ≤ (2 * (s + 1000 * n) + n) / (2 * n) ∧ (2 * (s + 1000 * n) + n) / (2 * n) ≤ 2000 := by
  constructor
  · exact Int.ediv_nonneg (by omega) (by omega)
  · have : (2 * (s + 1000 * n) + n) / (2 * n) < 2001 := by
      rw [Int.ediv_lt_iff_lt_mul (by omega)]
      omega
    omega

theorem near_eq (s n : Int) (h1 : 1 ≤ n) : (2 * (s + 1000 * n) + n) / (2 * n) - 1000 = mean s n := by
  unfold mean
  have e : 2 * (s + 1000 * n) + n = (2 * s + n) + 1000 * (2 * n) := by omega
  rw [e, Int.add_mul_ediv_right _ _ (by omega)]
  omega

theorem mean_bd (s n : Int) (h1 : 1 ≤ n) (h3 : -1000 * n ≤ s) (h4 : s ≤ 1000 * n) : -1000 ≤ mean s n ∧ mean s n ≤ 1000 := by
  have := near_bd s n h1 h3 h4
  have := near_eq s n h1
  omega

theorem round_pos (a n : Int) : (2 * a + n) / (2 * n) = mean a n := rfl

theorem tdiv_neg_bd (x m : Int) (hm : 1 ≤ m) (hx : x < 0) : x ≤ x.tdiv m ∧ x.tdiv m ≤ 0 := by
  obtain ⟨y, rfl⟩ : ∃ y, x = -y := ⟨-x, by omega⟩
  rw [Int.neg_tdiv, Int.tdiv_eq_ediv_of_nonneg (by omega)]
  have h1 := Int.ediv_nonneg (show 0 ≤ y by omega) (show 0 ≤ m by omega)
  have h2 := Int.ediv_le_self (b := m) (show 0 ≤ y by omega)
  omega

/-- Below 0 Go's quotient is one too great where something is left. -/
theorem round_neg (x m : Int) (hm : 1 ≤ m) (hx : x < 0) : (x.tmod m < 0 → x.tdiv m - 1 = x / m) ∧ (¬ x.tmod m < 0 → x.tdiv m = x / m) := by
  have h1 := Int.tdiv_mul_add_tmod x m
  have h2 := Int.ediv_mul_add_emod x m
  have h3 := Int.emod_nonneg x (show m ≠ 0 by omega)
  have h4 := Int.emod_lt_of_pos x (show 0 < m by omega)
  have h5 : x.tmod m ≤ 0 := by
    obtain ⟨y, rfl⟩ : ∃ y, x = -y := ⟨-x, by omega⟩
    rw [Int.neg_tmod, Int.tmod_eq_emod_of_nonneg (by omega)]
    have := Int.emod_nonneg y (show m ≠ 0 by omega)
    omega
  have h6 : -m < x.tmod m := by
    obtain ⟨y, rfl⟩ : ∃ y, x = -y := ⟨-x, by omega⟩
    rw [Int.neg_tmod, Int.tmod_eq_emod_of_nonneg (by omega)]
    have := Int.emod_lt_of_pos y (show 0 < m by omega)
    omega
  generalize x.tmod m = r at *
  generalize x.tdiv m = q at *
  generalize x % m = r' at *
  generalize x / m = q' at *
  have e : (q' - q) * m = r - r' := by rw [Int.sub_mul]; omega
  constructor
  · intro hr
    have a1 : (q' - q) * m < 0 := by omega
    have a2 : (q' - q) * m > -2 * m := by omega
    have b1 : q' - q < 0 := by
      rcases Int.lt_or_le (q' - q) 0 with h | h
      · exact h
      · have := Int.mul_nonneg h (show 0 ≤ m by omega); omega
    have b2 : q' - q > -2 := by
      rcases Int.lt_or_le (-2) (q' - q) with h | h
      · exact h
      · have := Int.mul_le_mul_of_nonneg_right h (show 0 ≤ m by omega); omega
    omega
  · intro hr
    have hr0 : r = 0 := by omega
    subst hr0
    have a1 : (q' - q) * m ≤ 0 := by omega
    have a2 : (q' - q) * m > -m := by omega
    have b1 : q' - q ≤ 0 := by
      rcases Int.lt_or_le 0 (q' - q) with h | h
      · have := Int.mul_le_mul_of_nonneg_right (show 1 ≤ q' - q by omega) (show 0 ≤ m by omega); omega
      · exact h
    have b2 : q' - q > -1 := by
      rcases Int.lt_or_le (-1) (q' - q) with h | h
      · exact h
      · have := Int.mul_le_mul_of_nonneg_right h (show 0 ≤ m by omega); omega
    omega

theorem sumB_true {n z : Int} (h : sumB n z = true) : -1000 * n ≤ z ∧ z ≤ 1000 * n := by simpa [sumB] using h
theorem sumB_false {n z : Int} (h : sumB n z = false) : z < -1000 * n ∨ 1000 * n < z := by
  simp [sumB] at h
  omega
theorem meanFault_n {zs : List Int} {n : Int} (h : n < 1 ∨ 1000 < n) : meanFault zs n = 3 := by simp [meanFault, h]
theorem meanFault_len {zs : List Int} {n : Int} (h1 : 1 ≤ n) (h2 : n ≤ 1000) (h : zs.length ≠ 3) : meanFault zs n = 1 := by
  have : ¬ (n < 1 ∨ 1000 < n) := by omega
  simp [meanFault, h, this]
theorem meanFault_bad {zs : List Int} {n : Int} (h : zs.length = 3) (k : Nat) (hk : k < 3) (hb : sumB n (zs.getD k 0) = false) : meanFault zs n = 3 := by
  have : zs.all (sumB n) = false := by
    rw [List.all_eq_false]
    exact ⟨zs.getD k 0, by simp [List.getD, show k < zs.length by omega], by rw [hb]; simp⟩
  simp [meanFault, h, this]
theorem meanFault_ok {zs : List Int} {n : Int} (h1 : 1 ≤ n) (h2 : n ≤ 1000) (h : zs.length = 3) (hg : ∀ j, j < 3 → sumB n (zs.getD j 0) = true) : meanFault zs n = 0 := by
  have h0 : ¬ (n < 1 ∨ 1000 < n) := by omega
  have : zs.all (sumB n) = true := by
    rw [List.all_eq_true]
    intro x hx
    obtain ⟨j, hj, rfl⟩ := List.mem_iff_getElem.1 hx
    have := hg j (by omega)
    simpa [List.getD, hj] using this
  simp [meanFault, h, this, h0]
theorem meanFault_zero {zs : List Int} {n : Int} (h : meanFault zs n = 0) : (1 ≤ n ∧ n ≤ 1000) ∧ ∃ x y z, zs = [x, y, z] ∧ (-1000 * n ≤ x ∧ x ≤ 1000 * n) ∧ (-1000 * n ≤ y ∧ y ≤ 1000 * n) ∧ (-1000 * n ≤ z ∧ z ≤ 1000 * n) := by
  unfold meanFault at h
  split at h
  · simp at h
  · next hn =>
    split at h
    · next hl =>
      split at h
      · next ha =>
        match zs, hl, ha with
        | [x, y, z], _, ha =>
          simp only [List.all_cons, List.all_nil, Bool.and_true, Bool.and_eq_true] at ha
          exact ⟨by omega, x, y, z, rfl, sumB_true ha.1, sumB_true ha.2.1, sumB_true ha.2.2⟩
      · simp at h
    · simp at h

end Go.Proofs.YtggnnbdjihihiaaGreat

namespace Go.Proofs.YtggnnbdjihihiaaGreat
open Go.RowKit

def cenFrom : List DCenter → Int
  | [] => 0
  | c :: cs => if vecFault c.vec = 0 then cenFrom cs else vecFault c.vec
def centersFault (cs : List DCenter) : Int := if cs.length < 1 ∨ 6 < cs.length then 2 else cenFrom cs
theorem cenFrom_step (cs : List DCenter) (k : Nat) (h : k < cs.length) : cenFrom (cs.drop k) = if vecFault cs[k].vec = 0 then cenFrom (cs.drop (k + 1)) else vecFault cs[k].vec := by
  rw [List.drop_eq_getElem_cons h]
  rfl
theorem cenFrom_zero {cs : List DCenter} (h : cenFrom cs = 0) : ∀ c ∈ cs, vecFault c.vec = 0 := by
  induction cs with
  | nil => simp
  | cons c cs ih =>
    rw [cenFrom] at h
    by_cases h1 : vecFault c.vec = 0
    · rw [if_pos h1] at h
      intro d hd
      rcases List.mem_cons.1 hd with rfl | hd
      · exact h1
      · exact ih h d hd
    · rw [if_neg h1] at h; exact absurd h h1
theorem cenFrom_of {cs : List DCenter} (h : ∀ c ∈ cs, vecFault c.vec = 0) : cenFrom cs = 0 := by
  induction cs with
  | nil => rfl
  | cons c cs ih => rw [cenFrom, if_pos (h c (by simp))]; exact ih fun d hd => h d (List.mem_cons_of_mem _ hd)
theorem centersFault_zero {cs : List DCenter} (h : centersFault cs = 0) : (1 ≤ cs.length ∧ cs.length ≤ 6) ∧ ∀ c ∈ cs, vecFault c.vec = 0 := by
  unfold centersFault at h
  by_cases hn : cs.length < 1 ∨ 6 < cs.length
  · rw [if_pos hn] at h; cases h
  · rw [if_neg hn] at h
    exact ⟨by omega, cenFrom_zero h⟩
theorem centersFault_of {cs : List DCenter} (h1 : 1 ≤ cs.length ∧ cs.length ≤ 6) (h2 : ∀ c ∈ cs, vecFault c.vec = 0) : centersFault cs = 0 := by
  unfold centersFault
  rw [if_neg (by omega)]
  exact cenFrom_of h2
theorem vecFault_bd (q : List Int) : 0 ≤ vecFault q ∧ vecFault q ≤ 3 := by unfold vecFault; split <;> (try split) <;> decide
theorem centersFault_bd (cs : List DCenter) : 0 ≤ centersFault cs ∧ centersFault cs ≤ 3 := by
  unfold centersFault
  split
  · decide
  · induction cs with
    | nil => decide
    | cons c cs ih =>
      rw [cenFrom]
      split
      · by_cases h : cs.length < 1 ∨ 6 < cs.length
        · have hc : cs = [] ∨ 6 < cs.length := by
            rcases h with h | h
            · exact Or.inl (List.eq_nil_of_length_eq_zero (by omega))
            · exact Or.inr h
          rcases hc with rfl | hc
          · decide
          · rename_i h1 _
            simp only [List.length_cons] at h1
            omega
        · exact ih h
      · exact vecFault_bd _
theorem centersFault_wf (cs : List DCenter) : (Lit.int .i64 (centersFault cs)).wf = true := wf_of_bd (by have := centersFault_bd cs; omega)

/-- The nearest among the first k, and its score. -/
def nearK (cs : List DCenter) (v : List Int) : Nat → Nat × Int
  | 0 => (0, 12000001)
  | k + 1 => if score3 (cs.getD k ⟨[]⟩).vec v < (nearK cs v k).2 then (k, score3 (cs.getD k ⟨[]⟩).vec v) else nearK cs v k
def near (cs : List DCenter) (v : List Int) : Nat := (nearK cs v cs.length).1
def nearS (cs : List DCenter) (v : List Int) : Int := (nearK cs v cs.length).2
theorem getD_at {α : Type} {xs : List α} {k : Nat} (h : k < xs.length) (d : α) : xs.getD k d = xs[k] := by simp [List.getD, h]
theorem nearK_step (cs : List DCenter) (v : List Int) (k : Nat) (h : k < cs.length) : nearK cs v (k + 1) = if score3 cs[k].vec v < (nearK cs v k).2 then (k, score3 cs[k].vec v) else nearK cs v k := by
  rw [nearK, getD_at h]
theorem nearK_right {cs : List DCenter} {v : List Int} (hc : ∀ c ∈ cs, vecFault c.vec = 0) (hv : vecFault v = 0) (k : Nat) (h1 : 1 ≤ k) (h2 : k ≤ cs.length) :
    (nearK cs v k).1 < k ∧ (nearK cs v k).2 = score3 (cs.getD (nearK cs v k).1 ⟨[]⟩).vec v ∧ 0 ≤ (nearK cs v k).2 ∧ (nearK cs v k).2 ≤ 12000000 := by
  induction k with
  | zero => omega
  | succ k ih =>
    have hk : k < cs.length := by omega
    have hs := cscore_bd (hc cs[k] (List.getElem_mem hk)) hv
    rw [nearK_step cs v k hk]
    by_cases hl : score3 cs[k].vec v < (nearK cs v k).2
    · rw [if_pos hl]
      refine ⟨by simp, ?_, hs.1, hs.2⟩
      simp only [getD_at hk]
    · rw [if_neg hl]
      have hk0 : 1 ≤ k := by
        apply Nat.succ_le_of_lt
        apply Nat.pos_of_ne_zero
        rintro rfl
        simp only [nearK] at hl
        omega
      obtain ⟨a, b, c⟩ := ih hk0 (by omega)
      exact ⟨by omega, b, c⟩
theorem nearK_bd {cs : List DCenter} {v : List Int} (hc : ∀ c ∈ cs, vecFault c.vec = 0) (hv : vecFault v = 0) (k : Nat) (h2 : k ≤ cs.length) : 0 ≤ (nearK cs v k).2 ∧ (nearK cs v k).2 ≤ 12000001 ∧ (nearK cs v k).1 ≤ k := by
  by_cases h : 1 ≤ k
  · obtain ⟨a, -, b, c⟩ := nearK_right hc hv k h h2
    omega
  · obtain rfl : k = 0 := by omega
    simp [nearK]
theorem near_lt {cs : List DCenter} {v : List Int} (hc : centersFault cs = 0) (hv : vecFault v = 0) : near cs v < cs.length := by
  obtain ⟨⟨a, b⟩, c⟩ := centersFault_zero hc
  exact (nearK_right c hv cs.length a (Nat.le_refl _)).1
theorem nearS_eq {cs : List DCenter} {v : List Int} (hc : centersFault cs = 0) (hv : vecFault v = 0) (h : near cs v < cs.length) : nearS cs v = score3 (cs[near cs v]).vec v ∧ 0 ≤ nearS cs v ∧ nearS cs v ≤ 12000000 := by
  obtain ⟨⟨a, b⟩, c⟩ := centersFault_zero hc
  obtain ⟨-, e, b1, b2⟩ := nearK_right c hv cs.length a (Nat.le_refl _)
  refine ⟨?_, b1, b2⟩
  rw [← getD_at h ⟨[]⟩]
  exact e

/-- The places of the nearest centers. -/
def placesL (cs : List DCenter) (xs : List DItem) : List Int := xs.map fun x => (near cs x.vec : Int)
/-- The cost of the first k items. -/
def costK (cs : List DCenter) (xs : List DItem) : Nat → Int
  | 0 => 0
  | k + 1 => costK cs xs k + nearS cs (xs.getD k ⟨0, []⟩).vec
def cost (cs : List DCenter) (xs : List DItem) : Int := costK cs xs xs.length
theorem costK_step (cs : List DCenter) (xs : List DItem) (k : Nat) (h : k < xs.length) : costK cs xs (k + 1) = costK cs xs k + nearS cs xs[k].vec := by rw [costK, getD_at h]
theorem costK_bd {cs : List DCenter} {xs : List DItem} (hc : centersFault cs = 0) (hx : ∀ x ∈ xs, vecFault x.vec = 0) (k : Nat) (h : k ≤ xs.length) : 0 ≤ costK cs xs k ∧ costK cs xs k ≤ 12000000 * k := by
  induction k with
  | zero => simp [costK]
  | succ k ih =>
    have hk : k < xs.length := by omega
    have i := ih (by omega)
    have s := (nearS_eq hc (hx xs[k] (List.getElem_mem hk)) (near_lt hc (hx xs[k] (List.getElem_mem hk)))).2
    rw [costK_step cs xs k hk]
    omega

/-- How many of the first k items are at place p, and the sums of their parts. -/
def cntK (cs : List DCenter) (xs : List DItem) (p : Nat) : Nat → Int
  | 0 => 0
  | k + 1 => if near cs (xs.getD k ⟨0, []⟩).vec = p then cntK cs xs p k + 1 else cntK cs xs p k
def sumK (cs : List DCenter) (xs : List DItem) (p j : Nat) : Nat → Int
  | 0 => 0
  | k + 1 => if near cs (xs.getD k ⟨0, []⟩).vec = p then sumK cs xs p j k + (xs.getD k ⟨0, []⟩).vec.getD j 0 else sumK cs xs p j k
theorem cntK_step (cs : List DCenter) (xs : List DItem) (p k : Nat) (h : k < xs.length) : cntK cs xs p (k + 1) = if near cs xs[k].vec = p then cntK cs xs p k + 1 else cntK cs xs p k := by rw [cntK, getD_at h]
theorem sumK_step (cs : List DCenter) (xs : List DItem) (p j k : Nat) (h : k < xs.length) : sumK cs xs p j (k + 1) = if near cs xs[k].vec = p then sumK cs xs p j k + xs[k].vec.getD j 0 else sumK cs xs p j k := by rw [sumK, getD_at h]
theorem cntK_bd (cs : List DCenter) (xs : List DItem) (p k : Nat) : 0 ≤ cntK cs xs p k ∧ cntK cs xs p k ≤ k := by
  induction k with
  | zero => simp [cntK]
  | succ k ih =>
    rw [cntK]
    split <;> omega
theorem sumK_bd (cs : List DCenter) {xs : List DItem} (hx : ∀ x ∈ xs, vecFault x.vec = 0) (p j : Nat) (hj : j < 3) (k : Nat) (h : k ≤ xs.length) : -1000 * cntK cs xs p k ≤ sumK cs xs p j k ∧ sumK cs xs p j k ≤ 1000 * cntK cs xs p k := by
  induction k with
  | zero => simp [cntK, sumK]
  | succ k ih =>
    have hk : k < xs.length := by omega
    have i := ih (by omega)
    have b := (vecFault_zero (hx xs[k] (List.getElem_mem hk))).2 j hj
    rw [cntK_step cs xs p k hk, sumK_step cs xs p j k hk]
    split <;> omega
def cnt (cs : List DCenter) (xs : List DItem) (p : Nat) : Int := cntK cs xs p xs.length
def sums (cs : List DCenter) (xs : List DItem) (p : Nat) : List Int := [sumK cs xs p 0 xs.length, sumK cs xs p 1 xs.length, sumK cs xs p 2 xs.length]
/-- Where the center at place p moves to. -/
def meanAt (cs : List DCenter) (xs : List DItem) (p : Nat) : List Int := if cnt cs xs p = 0 then (cs.getD p ⟨[]⟩).vec else meanList (sums cs xs p) (cnt cs xs p)
def moved (cs : List DCenter) (xs : List DItem) : List DCenter := (List.range cs.length).map fun p => ⟨meanAt cs xs p⟩
theorem moved_len (cs : List DCenter) (xs : List DItem) : (moved cs xs).length = cs.length := by simp [moved]
theorem sums_right (cs : List DCenter) {xs : List DItem} (ht : tableFault xs = 0) (p : Nat) (h : cnt cs xs p ≠ 0) : meanFault (sums cs xs p) (cnt cs xs p) = 0 ∧ (1 ≤ cnt cs xs p ∧ cnt cs xs p ≤ 1000) := by
  obtain ⟨hl, ha, -⟩ := tableFault_zero ht
  have hx : ∀ x ∈ xs, vecFault x.vec = 0 := fun x hm => (ha x hm).2
  have hb := cntK_bd cs xs p xs.length
  unfold cnt at h
  have h1 : 1 ≤ cnt cs xs p ∧ cnt cs xs p ≤ 1000 := by unfold cnt; omega
  refine ⟨?_, h1⟩
  unfold meanFault
  rw [if_neg (by omega), if_pos (show (sums cs xs p).length = 3 from rfl), if_pos]
  have s0 := sumK_bd cs hx p 0 (by omega) xs.length (Nat.le_refl _)
  have s1 := sumK_bd cs hx p 1 (by omega) xs.length (Nat.le_refl _)
  have s2 := sumK_bd cs hx p 2 (by omega) xs.length (Nat.le_refl _)
  simp only [sums, List.all_cons, List.all_nil, sumB, cnt, Bool.and_eq_true, decide_eq_true_eq, and_true]
  exact ⟨s0, s1, s2⟩
theorem meanAt_right {cs : List DCenter} {xs : List DItem} (hc : centersFault cs = 0) (ht : tableFault xs = 0) (p : Nat) (hp : p < cs.length) : vecFault (meanAt cs xs p) = 0 := by
  unfold meanAt
  by_cases h : cnt cs xs p = 0
  · rw [if_pos h, getD_at hp]
    exact (centersFault_zero hc).2 _ (List.getElem_mem hp)
  · rw [if_neg h]
    obtain ⟨h1, h2, h3⟩ := sums_right cs ht p h
    obtain ⟨-, x, y, z, e, ⟨x1, x2⟩, ⟨y1, y2⟩, ⟨z1, z2⟩⟩ := meanFault_zero h1
    rw [meanList, if_pos h1, e]
    have b1 := mean_bd x _ h2 x1 x2
    have b2 := mean_bd y _ h2 y1 y2
    have b3 := mean_bd z _ h2 z1 z2
    refine vecFault_ok rfl fun j hj => ?_
    match j, hj with
    | 0, _ => simp only [List.getD_cons_zero, partB, Bool.and_eq_true, decide_eq_true_eq]; exact b1
    | 1, _ => simp only [List.getD_cons_zero, List.getD_cons_succ, partB, Bool.and_eq_true, decide_eq_true_eq]; exact b2
    | 2, _ => simp only [List.getD_cons_zero, List.getD_cons_succ, partB, Bool.and_eq_true, decide_eq_true_eq]; exact b3
theorem moved_right {cs : List DCenter} {xs : List DItem} (hc : centersFault cs = 0) (ht : tableFault xs = 0) : centersFault (moved cs xs) = 0 := by
  refine centersFault_of (by rw [moved_len]; exact (centersFault_zero hc).1) fun c hm => ?_
  obtain ⟨p, hp, rfl⟩ := List.mem_map.1 hm
  exact meanAt_right hc ht p (List.mem_range.1 hp)
theorem moved_take (cs : List DCenter) (xs : List DItem) (k : Nat) (hk : k < cs.length) : (moved cs xs).take (k + 1) = (moved cs xs).take k ++ [⟨meanAt cs xs k⟩] := by
  rw [List.take_succ_eq_append_getElem (by rw [moved_len]; exact hk)]
  simp [moved]

/-! ### Training -/
def seedB (s : Int) : Bool := decide (0 ≤ s) && decide (s ≤ 9999)
def trainFault (xs : List DItem) (seeds : List Int) (rounds : Int) : Int :=
  if tableFault xs = 0 then (if xs.length = 0 then 4 else if seeds.length < 1 ∨ 6 < seeds.length then 2 else if (decide (0 ≤ rounds) && decide (rounds ≤ 20)) then (if seeds.all seedB then 0 else 3) else 3) else tableFault xs
def seedC (xs : List DItem) (s : Int) : DCenter := ⟨(xs.getD (s.toNat % xs.length) ⟨0, []⟩).vec⟩
def seedCs (xs : List DItem) (seeds : List Int) : List DCenter := seeds.map (seedC xs)
def trainN (xs : List DItem) : Nat → List DCenter → List DCenter
  | 0, cs => cs
  | r + 1, cs => if cost cs xs ≤ cost (moved cs xs) xs then cs else trainN xs r (moved cs xs)
def trainR (xs : List DItem) (seeds : List Int) (rounds : Int) : DCentersResult :=
  if trainFault xs seeds rounds = 0 then ⟨0, trainN xs rounds.toNat (seedCs xs seeds)⟩ else ⟨trainFault xs seeds rounds, []⟩
theorem seedCs_right {xs : List DItem} {seeds : List Int} (ht : tableFault xs = 0) (h0 : xs.length ≠ 0) (hs : 1 ≤ seeds.length ∧ seeds.length ≤ 6) : centersFault (seedCs xs seeds) = 0 := by
  refine centersFault_of (by simpa [seedCs] using hs) fun c hm => ?_
  obtain ⟨s, -, rfl⟩ := List.mem_map.1 hm
  have hl : s.toNat % xs.length < xs.length := Nat.mod_lt _ (by omega)
  show vecFault (xs.getD (s.toNat % xs.length) ⟨0, []⟩).vec = 0
  rw [getD_at hl]
  exact ((tableFault_zero ht).2.1 _ (List.getElem_mem hl)).2
theorem trainN_right {xs : List DItem} (ht : tableFault xs = 0) (r : Nat) (cs : List DCenter) (hc : centersFault cs = 0) : centersFault (trainN xs r cs) = 0 ∧ (trainN xs r cs).length = cs.length ∧ cost (trainN xs r cs) xs ≤ cost cs xs := by
  induction r generalizing cs with
  | zero => exact ⟨hc, rfl, Int.le_refl _⟩
  | succ r ih =>
    rw [trainN]
    split
    · exact ⟨hc, rfl, Int.le_refl _⟩
    · obtain ⟨a, b, c⟩ := ih (moved cs xs) (moved_right hc ht)
      rename_i hlt
      exact ⟨a, by rw [b, moved_len], by omega⟩
theorem trainFault_bd (xs : List DItem) (seeds : List Int) (rounds : Int) (h : 0 ≤ tableFault xs ∧ tableFault xs ≤ 9) : 0 ≤ trainFault xs seeds rounds ∧ trainFault xs seeds rounds ≤ 9 := by
  unfold trainFault
  split
  · split
    · decide
    · split
      · decide
      · split
        · split <;> decide
        · decide
  · exact h

end Go.Proofs.YtggnnbdjihihiaaGreat

namespace Go.Proofs.YtggnnbdjihihiaaGreat
open Go.RowKit

structure DIntResult where
  code : Int
  value : Int

def Lay.tIntResult : Lay DIntResult := Lay.via (Lay.pair Lay.int Lay.int) (fun x => (x.code, x.value)) (fun p => ⟨p.1, p.2⟩)

theorem lies_IntResult {w : World} {cs : List Value} {x : DIntResult} {bl : List Nat} : Lay.tIntResult.lies w cs x bl ↔ cs = [.int .i64 x.code, .int .i64 x.value] ∧ bl = [] ∧ (Lit.int .i64 x.code).wf = true ∧ (Lit.int .i64 x.value).wf = true := by
  constructor
  · intro h
    obtain ⟨c0_, r0_, e0_, s0_, rfl, rfl, h0, h1⟩ := h
    obtain ⟨rfl, w0, rfl⟩ := h0
    obtain ⟨rfl, w1, rfl⟩ := h1
    exact ⟨by simp, by simp, w0, w1⟩
  · rintro ⟨rfl, hbl, w0, w1⟩
    rw [hbl]
    exact ⟨[.int .i64 x.code], [.int .i64 x.value], [], [], rfl, by simp, ⟨rfl, w0, rfl⟩, ⟨rfl, w1, rfl⟩⟩

end Go.Proofs.YtggnnbdjihihiaaGreat

namespace Go.Proofs.YtggnnbdjihihiaaGreat
open Go.RowKit

def nearestR (cs : List DCenter) (q : List Int) : DIntResult := if centersFault cs = 0 then (if vecFault q = 0 then ⟨0, (near cs q : Nat)⟩ else ⟨vecFault q, 0⟩) else ⟨centersFault cs, 0⟩
def askFault (cs : List DCenter) (xs : List DItem) : Int := if centersFault cs = 0 then tableFault xs else centersFault cs
theorem askFault_zero {cs : List DCenter} {xs : List DItem} (h : askFault cs xs = 0) : centersFault cs = 0 ∧ tableFault xs = 0 := by
  unfold askFault at h
  by_cases hc : centersFault cs = 0
  · rw [if_pos hc] at h; exact ⟨hc, h⟩
  · rw [if_neg hc] at h; exact absurd h hc
def assignR (cs : List DCenter) (xs : List DItem) : DIntsResult := if askFault cs xs = 0 then ⟨0, placesL cs xs⟩ else ⟨askFault cs xs, []⟩
def costR (cs : List DCenter) (xs : List DItem) : DIntResult := if askFault cs xs = 0 then ⟨0, cost cs xs⟩ else ⟨askFault cs xs, 0⟩
def movedR (cs : List DCenter) (xs : List DItem) : DCentersResult := if askFault cs xs = 0 then ⟨0, moved cs xs⟩ else ⟨askFault cs xs, []⟩
theorem own_intR {w : World} {c x : Int} {lo hi : Nat} (hc : (Lit.int .i64 c).wf = true) (hx : (Lit.int .i64 x).wf = true) : Lay.tIntResult.OwnIn w [.int .i64 c, .int .i64 x] ⟨c, x⟩ lo hi :=
  ⟨[], ⟨⟨[.int .i64 c], [.int .i64 x], [], [], rfl, by simp, ⟨rfl, hc, rfl⟩, ⟨rfl, hx, rfl⟩⟩, by simp, by simp⟩, by simp⟩
theorem own_censR {w : World} {c : Int} {v : Value} {cs : List DCenter} {lo hi : Nat} (hc : (Lit.int .i64 c).wf = true) (h : (Lay.sl Lay.tCenter).OwnIn w [v] cs lo hi) : Lay.tCentersResult.OwnIn w [.int .i64 c, v] ⟨c, cs⟩ lo hi := by
  obtain ⟨bl, ⟨l, n, f⟩, i⟩ := h
  exact ⟨bl, ⟨⟨[.int .i64 c], [v], [], bl, rfl, by simp, ⟨rfl, hc, rfl⟩, l⟩, n, f⟩, i⟩
theorem own_codeCens {w : World} {c : Int} {lo hi : Nat} (hc : (Lit.int .i64 c).wf = true) : Lay.tCentersResult.OwnIn w [.int .i64 c, .slice none 0 0] ⟨c, []⟩ lo hi := own_censR hc ⟨[], ⟨⟨none, 0, rfl, by simp, Or.inl ⟨rfl, rfl⟩⟩, by simp, by simp⟩, by simp⟩
theorem read_censR {w : World} {c : Int} {v : Value} {cs : List DCenter} (hc : (Lit.int .i64 c).wf = true) (h : (Lay.sl Lay.tCenter).Reads w [v] cs) : Lay.tCentersResult.Reads w [.int .i64 c, v] ⟨c, cs⟩ := by
  obtain ⟨bl, l⟩ := h
  exact ⟨bl, [.int .i64 c], [v], [], bl, rfl, by simp, ⟨rfl, hc, rfl⟩, l⟩
theorem own_intsR6 {w : World} {c : Int} {v : Value} {zs : List Int} {lo hi : Nat} (hc : (Lit.int .i64 c).wf = true) (h : (Lay.sl Lay.int).OwnIn w [v] zs lo hi) : Lay.tIntsResult.OwnIn w [.int .i64 c, v] ⟨c, zs⟩ lo hi := by
  obtain ⟨bl, ⟨l, n, f⟩, i⟩ := h
  exact ⟨bl, ⟨⟨[.int .i64 c], [v], [], bl, rfl, by simp, ⟨rfl, hc, rfl⟩, l⟩, n, f⟩, i⟩
theorem own_codeInts6 {w : World} {c : Int} {lo hi : Nat} (hc : (Lit.int .i64 c).wf = true) : Lay.tIntsResult.OwnIn w [.int .i64 c, .slice none 0 0] ⟨c, []⟩ lo hi := own_intsR6 hc ⟨[], ⟨⟨none, 0, rfl, by simp, Or.inl ⟨rfl, rfl⟩⟩, by simp, by simp⟩, by simp⟩
theorem tabFrom_bd (p : Option Int) (xs : List DItem) : 0 ≤ tabFrom p xs ∧ tabFrom p xs ≤ 3 := by
  induction xs generalizing p with
  | nil => show (0 : Int) ≤ 0 ∧ (0 : Int) ≤ 3; decide
  | cons x xs ih =>
    rw [tabFrom]
    split
    · split
      · split
        · exact ih _
        · decide
      · exact vecFault_bd _
    · decide
theorem tableFault_bd (xs : List DItem) : 0 ≤ tableFault xs ∧ tableFault xs ≤ 3 := by
  unfold tableFault
  split
  · decide
  · exact tabFrom_bd _ _
theorem askFault_bd (cs : List DCenter) (xs : List DItem) : 0 ≤ askFault cs xs ∧ askFault cs xs ≤ 3 := by
  unfold askFault
  split
  · exact tableFault_bd xs
  · exact centersFault_bd cs
theorem askFault_wf (cs : List DCenter) (xs : List DItem) : (Lit.int .i64 (askFault cs xs)).wf = true := wf_of_bd (by have := askFault_bd cs xs; omega)

end Go.Proofs.YtggnnbdjihihiaaGreat

namespace Go.Proofs.YtggnnbdjihihiaaGreat
open Go.RowKit

structure DIvfList where
  items : List DItem

def Lay.tIvfList : Lay DIvfList := Lay.via (Lay.sl Lay.tItem) (fun x => x.items) (fun p => ⟨p⟩)

theorem lies_IvfList {w : World} {cs : List Value} {x : DIvfList} {bl : List Nat} : Lay.tIvfList.lies w cs x bl ↔ ∃ (a0 : Option Addr) (d0 : Nat) (b0 : List Nat), cs = [.slice a0 x.items.length d0] ∧ bl = b0 ∧ (Lay.sl Lay.tItem).lies w [.slice a0 x.items.length d0] x.items b0 := by
  constructor
  · intro h
    have h0 := h
    have k0 := h0
    obtain ⟨a0, d0, rfl, -⟩ := k0
    exact ⟨a0, d0, bl, by simp, by simp, h0⟩
  · rintro ⟨a0, d0, b0, rfl, hbl, l0⟩
    rw [hbl]
    exact l0

theorem open_IvfList {w : World} {cs : List Value} {x : DIvfList} (h : Lay.tIvfList.Reads w cs x) : ∃ (a0 : Option Addr) (d0 : Nat), cs = [.slice a0 x.items.length d0] ∧ (Lay.sl Lay.tItem).Reads w [.slice a0 x.items.length d0] x.items := by
  obtain ⟨bl, h⟩ := h
  obtain ⟨a0, d0, b0, rfl, -, l0⟩ := lies_IvfList.1 h
  exact ⟨a0, d0, rfl, ⟨_, l0⟩⟩

end Go.Proofs.YtggnnbdjihihiaaGreat

namespace Go.Proofs.YtggnnbdjihihiaaGreat
open Go.RowKit

structure DIvf where
  centers : List DCenter
  lists : List DIvfList

def Lay.tIvf : Lay DIvf := Lay.via (Lay.pair (Lay.sl Lay.tCenter) (Lay.sl Lay.tIvfList)) (fun x => (x.centers, x.lists)) (fun p => ⟨p.1, p.2⟩)

theorem lies_Ivf {w : World} {cs : List Value} {x : DIvf} {bl : List Nat} : Lay.tIvf.lies w cs x bl ↔ ∃ (a0 : Option Addr) (d0 : Nat) (b0 : List Nat) (a1 : Option Addr) (d1 : Nat) (b1 : List Nat), cs = [.slice a0 x.centers.length d0, .slice a1 x.lists.length d1] ∧ bl = b0 ++ b1 ∧ (Lay.sl Lay.tCenter).lies w [.slice a0 x.centers.length d0] x.centers b0 ∧ (Lay.sl Lay.tIvfList).lies w [.slice a1 x.lists.length d1] x.lists b1 := by
  constructor
  · intro h
    obtain ⟨c0_, r0_, e0_, s0_, rfl, rfl, h0, h1⟩ := h
    have k0 := h0
    obtain ⟨a0, d0, rfl, -⟩ := k0
    have k1 := h1
    obtain ⟨a1, d1, rfl, -⟩ := k1
    exact ⟨a0, d0, e0_, a1, d1, s0_, by simp, by simp, h0, h1⟩
  · rintro ⟨a0, d0, b0, a1, d1, b1, rfl, hbl, l0, l1⟩
    rw [hbl]
    exact ⟨[.slice a0 x.centers.length d0], [.slice a1 x.lists.length d1], b0, b1, rfl, by simp, l0, l1⟩

theorem open_Ivf {w : World} {cs : List Value} {x : DIvf} (h : Lay.tIvf.Reads w cs x) : ∃ (a0 : Option Addr) (d0 : Nat) (a1 : Option Addr) (d1 : Nat), cs = [.slice a0 x.centers.length d0, .slice a1 x.lists.length d1] ∧ (Lay.sl Lay.tCenter).Reads w [.slice a0 x.centers.length d0] x.centers ∧ (Lay.sl Lay.tIvfList).Reads w [.slice a1 x.lists.length d1] x.lists := by
  obtain ⟨bl, h⟩ := h
  obtain ⟨a0, d0, b0, a1, d1, b1, rfl, -, l0, l1⟩ := lies_Ivf.1 h
  exact ⟨a0, d0, a1, d1, rfl, ⟨_, l0⟩, ⟨_, l1⟩⟩

end Go.Proofs.YtggnnbdjihihiaaGreat

namespace Go.Proofs.YtggnnbdjihihiaaGreat
open Go.RowKit

structure DIvfResult where
  code : Int
  ivf : DIvf

def Lay.tIvfResult : Lay DIvfResult := Lay.via (Lay.pair Lay.int Lay.tIvf) (fun x => (x.code, x.ivf)) (fun p => ⟨p.1, p.2⟩)

theorem lies_IvfResult {w : World} {cs : List Value} {x : DIvfResult} {bl : List Nat} : Lay.tIvfResult.lies w cs x bl ↔ ∃ (a1 : Option Addr) (d1 : Nat) (b1 : List Nat) (a2 : Option Addr) (d2 : Nat) (b2 : List Nat), cs = [.int .i64 x.code, .slice a1 x.ivf.centers.length d1, .slice a2 x.ivf.lists.length d2] ∧ bl = b1 ++ b2 ∧ (Lit.int .i64 x.code).wf = true ∧ (Lay.sl Lay.tCenter).lies w [.slice a1 x.ivf.centers.length d1] x.ivf.centers b1 ∧ (Lay.sl Lay.tIvfList).lies w [.slice a2 x.ivf.lists.length d2] x.ivf.lists b2 := by
  constructor
  · intro h
    obtain ⟨c0_, r0_, e0_, s0_, rfl, rfl, h0, h1⟩ := h
    obtain ⟨rfl, w0, rfl⟩ := h0
    obtain ⟨a1, d1, q1, a2, d2, q2, rfl, hq1, l1, l2⟩ := lies_Ivf.1 h1
    exact ⟨a1, d1, q1, a2, d2, q2, by simp, by simp [hq1], w0, l1, l2⟩
  · rintro ⟨a1, d1, b1, a2, d2, b2, rfl, hbl, w0, l1, l2⟩
    rw [hbl]
    exact ⟨[.int .i64 x.code], [.slice a1 x.ivf.centers.length d1, .slice a2 x.ivf.lists.length d2], [], b1 ++ b2, rfl, by simp, ⟨rfl, w0, rfl⟩, lies_Ivf.2 ⟨a1, d1, b1, a2, d2, b2, rfl, rfl, l1, l2⟩⟩

theorem open_IvfResult {w : World} {cs : List Value} {x : DIvfResult} (h : Lay.tIvfResult.Reads w cs x) : ∃ (a1 : Option Addr) (d1 : Nat) (a2 : Option Addr) (d2 : Nat), cs = [.int .i64 x.code, .slice a1 x.ivf.centers.length d1, .slice a2 x.ivf.lists.length d2] ∧ Lay.tIvf.Reads w [.slice a1 x.ivf.centers.length d1, .slice a2 x.ivf.lists.length d2] x.ivf := by
  obtain ⟨bl, h⟩ := h
  obtain ⟨a1, d1, b1, a2, d2, b2, rfl, -, w0, l1, l2⟩ := lies_IvfResult.1 h
  exact ⟨a1, d1, a2, d2, rfl, ⟨_, lies_Ivf.2 ⟨a1, d1, _, a2, d2, _, rfl, rfl, l1, l2⟩⟩⟩

end Go.Proofs.YtggnnbdjihihiaaGreat

namespace Go.Proofs.YtggnnbdjihihiaaGreat
open Go.RowKit

/-- All of list i are nearest to center i. -/
def atB (cs : List DCenter) (i : Nat) (xs : List DItem) : Bool := xs.all fun x => near cs x.vec == i
def listFault (cs : List DCenter) (i : Nat) (xs : List DItem) : Int := if tableFault xs = 0 then (if atB cs i xs then 0 else 1) else tableFault xs
def listsFrom (cs : List DCenter) : Nat → List DIvfList → Int
  | _, [] => 0
  | i, l :: ls => if listFault cs i l.items = 0 then listsFrom cs (i + 1) ls else listFault cs i l.items
/-- All items, put one behind the other. -/
def gatherI (out : List DItem) (xs : List DItem) : List DItem := xs.foldl (fun o x => putI o x.id x.vec) out
def allIs (ls : List DIvfList) : List DItem := ls.foldl (fun o l => gatherI o l.items) []
def countIs : List DIvfList → Nat
  | [] => 0
  | l :: ls => l.items.length + countIs ls
def ivfFault (x : DIvf) : Int :=
  if centersFault x.centers = 0 then (if x.lists.length = x.centers.length then (if listsFrom x.centers 0 x.lists = 0 then (if (allIs x.lists).length = countIs x.lists then (if countIs x.lists ≤ 30 then 0 else 2) else 6) else listsFrom x.centers 0 x.lists) else 1) else centersFault x.centers
/-- The items of center i. -/
def mineI (cs : List DCenter) (xs : List DItem) (i : Nat) : List DItem := xs.filter fun x => near cs x.vec == i
def buildI (cs : List DCenter) (xs : List DItem) : DIvf := ⟨cs, (List.range cs.length).map fun i => ⟨mineI cs xs i⟩⟩
def emptyI : DIvf := ⟨[], []⟩
def buildIvfR (cs : List DCenter) (xs : List DItem) : DIvfResult := if askFault cs xs = 0 then ⟨0, buildI cs xs⟩ else ⟨askFault cs xs, emptyI⟩
def askedI (x : DIvf) (id : Int) : Int := if ivfFault x = 0 then (if idB id then 0 else 3) else ivfFault x
def addIvfR (x : DIvf) (id : Int) (vec : List Int) : DIvfResult :=
  if askedI x id = 0 then (if vecFault vec = 0 then (if 30 ≤ (allIs x.lists).length ∧ hasI (allIs x.lists) id = false then ⟨2, emptyI⟩ else ⟨0, buildI x.centers (putI (allIs x.lists) id vec)⟩) else ⟨vecFault vec, emptyI⟩) else ⟨askedI x id, emptyI⟩
def dropIvfR (x : DIvf) (id : Int) : DIvfResult := if askedI x id = 0 then ⟨0, buildI x.centers (dropI (allIs x.lists) id)⟩ else ⟨askedI x id, emptyI⟩
def itemsIvfR (x : DIvf) : DTableResult := if ivfFault x = 0 then ⟨0, allIs x.lists⟩ else ⟨ivfFault x, []⟩

theorem listsFrom_step (cs : List DCenter) (ls : List DIvfList) (k : Nat) (h : k < ls.length) : listsFrom cs k (ls.drop k) = if listFault cs k ls[k].items = 0 then listsFrom cs (k + 1) (ls.drop (k + 1)) else listFault cs k ls[k].items := by
  rw [List.drop_eq_getElem_cons h]
  rfl
theorem listFault_zero {cs : List DCenter} {i : Nat} {xs : List DItem} (h : listFault cs i xs = 0) : tableFault xs = 0 ∧ atB cs i xs = true := by
  unfold listFault at h
  by_cases h1 : tableFault xs = 0
  · rw [if_pos h1] at h
    by_cases h2 : atB cs i xs = true
    · exact ⟨h1, h2⟩
    · rw [if_neg h2] at h; cases h
  · rw [if_neg h1] at h; exact absurd h h1
theorem listsFrom_zero {cs : List DCenter} {i : Nat} {ls : List DIvfList} (h : listsFrom cs i ls = 0) : ∀ j (hj : j < ls.length), tableFault ls[j].items = 0 ∧ atB cs (i + j) ls[j].items = true := by
  induction ls generalizing i with
  | nil => intro j hj; simp at hj
  | cons l ls ih =>
    rw [listsFrom] at h
    by_cases h1 : listFault cs i l.items = 0
    · rw [if_pos h1] at h
      intro j hj
      match j with
      | 0 => exact listFault_zero h1
      | j + 1 =>
        have := ih h j (by simpa using hj)
        simpa [Nat.add_comm, Nat.add_left_comm] using this
    · rw [if_neg h1] at h; exact absurd h h1
theorem listFault_bd (cs : List DCenter) (i : Nat) (xs : List DItem) : 0 ≤ listFault cs i xs ∧ listFault cs i xs ≤ 3 := by
  unfold listFault
  split
  · split <;> decide
  · exact tableFault_bd xs
theorem listsFrom_bd (cs : List DCenter) (i : Nat) (ls : List DIvfList) : 0 ≤ listsFrom cs i ls ∧ listsFrom cs i ls ≤ 3 := by
  induction ls generalizing i with
  | nil => show (0 : Int) ≤ 0 ∧ (0 : Int) ≤ 3; decide
  | cons l ls ih =>
    rw [listsFrom]
    split
    · exact ih _
    · exact listFault_bd _ _ _
theorem ivfFault_bd (x : DIvf) : 0 ≤ ivfFault x ∧ ivfFault x ≤ 6 := by
  unfold ivfFault
  split
  · split
    · split
      · split
        · split <;> decide
        · decide
      · have := listsFrom_bd x.centers 0 x.lists; omega
    · decide
  · have := centersFault_bd x.centers; omega
theorem ivfFault_wf (x : DIvf) : (Lit.int .i64 (ivfFault x)).wf = true := wf_of_bd (by have := ivfFault_bd x; omega)
theorem ivfFault_zero {x : DIvf} (h : ivfFault x = 0) : centersFault x.centers = 0 ∧ x.lists.length = x.centers.length ∧ listsFrom x.centers 0 x.lists = 0 ∧ (allIs x.lists).length = countIs x.lists ∧ countIs x.lists ≤ 30 := by
  unfold ivfFault at h
  by_cases h1 : centersFault x.centers = 0
  · rw [if_pos h1] at h
    by_cases h2 : x.lists.length = x.centers.length
    · rw [if_pos h2] at h
      by_cases h3 : listsFrom x.centers 0 x.lists = 0
      · rw [if_pos h3] at h
        by_cases h4 : (allIs x.lists).length = countIs x.lists
        · rw [if_pos h4] at h
          by_cases h5 : countIs x.lists ≤ 30
          · exact ⟨h1, h2, h3, h4, h5⟩
          · rw [if_neg h5] at h; cases h
        · rw [if_neg h4] at h; cases h
      · rw [if_neg h3] at h; exact absurd h h3
    · rw [if_neg h2] at h; cases h
  · rw [if_neg h1] at h; exact absurd h h1
theorem gatherI_step (out xs : List DItem) (k : Nat) (h : k < xs.length) : gatherI out (xs.take (k + 1)) = putI (gatherI out (xs.take k)) xs[k].id xs[k].vec := by
  rw [gatherI, List.take_succ_eq_append_getElem h, List.foldl_append]
  rfl
theorem allIs_step (ls : List DIvfList) (k : Nat) (h : k < ls.length) : allIs (ls.take (k + 1)) = gatherI (allIs (ls.take k)) ls[k].items := by
  rw [allIs, List.take_succ_eq_append_getElem h, List.foldl_append]
  rfl
theorem gatherI_rising {out : List DItem} (h : Rising out) (xs : List DItem) : Rising (gatherI out xs) := by
  induction xs generalizing out with
  | nil => exact h
  | cons x xs ih => exact ih (putI_rising h x.id x.vec)
theorem allIs_rising (ls : List DIvfList) : Rising (allIs ls) := by
  have : ∀ (o : List DItem), Rising o → Rising (ls.foldl (fun o l => gatherI o l.items) o) := by
    induction ls with
    | nil => exact fun o h => h
    | cons l ls ih => exact fun o h => ih _ (gatherI_rising h l.items)
  exact this [] List.Pairwise.nil
theorem putI_len_le {xs : List DItem} (h : Rising xs) (id : Int) (vec : List Int) : (putI xs id vec).length ≤ xs.length + 1 := by
  rw [putI_len h]
  split <;> omega
theorem gatherI_len {out : List DItem} (h : Rising out) (xs : List DItem) : (gatherI out xs).length ≤ out.length + xs.length := by
  induction xs generalizing out with
  | nil => exact Nat.le_refl _
  | cons x xs ih =>
    have h1 := ih (putI_rising h x.id x.vec)
    have h2 := putI_len_le h x.id x.vec
    have e : gatherI out (x :: xs) = gatherI (putI out x.id x.vec) xs := rfl
    rw [e, List.length_cons]
    omega
theorem gatherI_mem {out xs : List DItem} {y : DItem} (h : y ∈ gatherI out xs) : y ∈ out ∨ y ∈ xs := by
  induction xs generalizing out with
  | nil => exact Or.inl h
  | cons x xs ih =>
    rcases ih h with h1 | h1
    · rcases mem_putI.1 h1 with rfl | ⟨h2, -⟩
      · exact Or.inr (by cases x; simp)
      · exact Or.inl h2
    · exact Or.inr (List.mem_cons_of_mem _ h1)
theorem foldIs_mem (ls : List DIvfList) (o : List DItem) {y : DItem} (h : y ∈ ls.foldl (fun o l => gatherI o l.items) o) : y ∈ o ∨ ∃ l ∈ ls, y ∈ l.items := by
  induction ls generalizing o with
  | nil => exact Or.inl h
  | cons l ls ih =>
    rcases ih _ h with h1 | ⟨m, h1, h2⟩
    · rcases gatherI_mem h1 with h3 | h3
      · exact Or.inl h3
      · exact Or.inr ⟨l, by simp, h3⟩
    · exact Or.inr ⟨m, List.mem_cons_of_mem _ h1, h2⟩
theorem allIs_mem {ls : List DIvfList} {y : DItem} (h : y ∈ allIs ls) : ∃ l ∈ ls, y ∈ l.items := by
  rcases foldIs_mem ls [] h with h1 | h1
  · cases h1
  · exact h1
theorem allIs_len (ls : List DIvfList) : (allIs ls).length ≤ countIs ls := by
  have : ∀ (o : List DItem), Rising o → (ls.foldl (fun o l => gatherI o l.items) o).length ≤ o.length + countIs ls := by
    induction ls with
    | nil => exact fun o _ => Nat.le_refl _
    | cons l ls ih =>
      intro o ho
      have h1 := ih (gatherI o l.items) (gatherI_rising ho l.items)
      have h2 := gatherI_len ho l.items
      simp only [List.foldl_cons, countIs]
      omega
  have := this [] List.Pairwise.nil
  rw [List.length_nil, Nat.zero_add] at this
  exact this
theorem countIs_take (ls : List DIvfList) (k : Nat) (h : k < ls.length) : countIs (ls.take (k + 1)) = countIs (ls.take k) + ls[k].items.length := by
  induction ls generalizing k with
  | nil => simp at h
  | cons l ls ih =>
    match k with
    | 0 => simp [countIs]
    | k + 1 =>
      have := ih k (by simpa using h)
      simp only [List.take_succ_cons, countIs, List.getElem_cons_succ]
      omega
theorem countIs_le {ls : List DIvfList} (h : ∀ l ∈ ls, l.items.length ≤ 30) : countIs ls ≤ 30 * ls.length := by
  induction ls with
  | nil => simp [countIs]
  | cons l ls ih =>
    have h1 := h l (by simp)
    have h2 := ih fun m hm => h m (List.mem_cons_of_mem _ hm)
    simp only [countIs, List.length_cons]
    omega
theorem mineI_step (cs : List DCenter) (xs : List DItem) (i k : Nat) (h : k < xs.length) : mineI cs (xs.take (k + 1)) i = if near cs xs[k].vec == i then mineI cs (xs.take k) i ++ [xs[k]] else mineI cs (xs.take k) i := by
  rw [mineI, List.take_succ_eq_append_getElem h, List.filter_append]
  split
  · next h1 => simp [mineI, h1]
  · next h1 => simp [mineI, h1]
theorem mineI_len (cs : List DCenter) (xs : List DItem) (i : Nat) : (mineI cs xs i).length ≤ xs.length := List.length_filter_le _ _
theorem buildI_take (cs : List DCenter) (xs : List DItem) (k : Nat) (h : k < cs.length) : (buildI cs xs).lists.take (k + 1) = (buildI cs xs).lists.take k ++ [⟨mineI cs xs k⟩] := by
  show ((List.range cs.length).map _).take (k + 1) = _
  rw [List.take_succ_eq_append_getElem (by simpa using h)]
  simp [buildI]
theorem buildI_len (cs : List DCenter) (xs : List DItem) : (buildI cs xs).lists.length = cs.length := by simp [buildI]
theorem list_facts {x : DIvf} (h1 : listsFrom x.centers 0 x.lists = 0) : ∀ l ∈ x.lists, tableFault l.items = 0 := by
  intro l hl
  obtain ⟨j, hj, rfl⟩ := List.getElem_of_mem hl
  exact (listsFrom_zero h1 j hj).1
theorem allIs_right {x : DIvf} (h : ivfFault x = 0) : tableFault (allIs x.lists) = 0 := by
  obtain ⟨h1, h2, h3, h4, h5⟩ := ivfFault_zero h
  refine tableFault_of (by omega) (fun y hy => ?_) (allIs_rising _)
  obtain ⟨l, hl, hy⟩ := allIs_mem hy
  exact (tableFault_zero (list_facts h3 l hl)).2.1 y hy

end Go.Proofs.YtggnnbdjihihiaaGreat

namespace Go.Proofs.YtggnnbdjihihiaaGreat
open Go.RowKit

theorem infoAppIvfList : (Tryz.prog.info? 91).map (fun i => (i.zero, i.size, i.bytes)) = some (some (.agg #[.slice none 0 0]), 1, 24) := by kernel_rfl
theorem one_IvfList {w : World} {row : List Value} {x : DIvfList} {bl : List Nat} (h : Lay.tIvfList.lies w row x bl) : (∀ u ∈ row, u.oneCell' = true) ∧ row.length = 1 * 1 := by
  obtain ⟨_, _, _, rfl, -⟩ := lies_IvfList.1 h
  simp [Value.oneCell']

/-- At an operation of a plain region: the new one lies in a block of its own. -/
theorem wpList_append_IvfList {w1 : World} {base : Nat} {v : Value} {rows : List (List Value)} {xs : List DIvfList} {bls : List (List Nat)} (hG : Grow Lay.tIvfList w1 base 91 v rows xs bls) {row : List Value} {x : DIvfList} {bl : List Nat} (hl : Lay.tIvfList.lies w1 row x bl) (hbl : ∀ b ∈ bl, v.ownBlock ≠ some b) {ops : Array Oper} {rest : List Oper} {o : Oper} {a : Act} {Q : Exit → Act → World → Prop} (hgd : o.guard = none) (s y : Operand)
    (ho : o.op = .call { callee := .builtin .append, args := #[s, y], argTypes := #[25, 25] }) (hs : a.eval s = v) (hy : a.eval y = .slice (some ⟨w1.heap.size, 0, none⟩) 1 1) (hn : xs.length + 1 ≤ 100000000) (hbase : base ≤ w1.heap.size)
    (h : ∀ g cap w', Grow Lay.tIvfList w' base 91 (.slice (some ⟨g, 0, none⟩) (xs.length + 1) cap) (rows ++ [row]) (xs ++ [x]) (bls ++ [bl]) → Below base w1 w' → Ext (fun q => v.ownBlock = some q) w1 w' → g < w'.heap.size → w1.heap.size ≤ w'.heap.size → (v.ownBlock = some g ∨ w1.heap.size ≤ g) → wpList Tryz.prog ops Q rest (a.put o.dst (.slice (some ⟨g, 0, none⟩) (xs.length + 1) cap)) w') :
    wpList Tryz.prog ops Q (o :: rest) a (w1.alloc (.cells row.toArray 91)) := by
  obtain ⟨i0, hi0, hz0, hz1, hz2⟩ := info_parts infoAppIvfList
  obtain ⟨h1, hlen⟩ := one_IvfList hl
  refine wpList_append_lies _ hgd s y 25 ho base 91 i0 _ 1 24 Tryz.underlying25 hi0 hz0 hz1 hz2 rfl (by omega) v xs.length rows.flatten hs (hG.own.alloc _) ⟨w1.heap.size, 0, none⟩ 1 1 row hy hlen (World.news_of_block (cs := row.toArray) (t := 91) (fr := (0, 0)) (heap_alloc_new w1 _)) h1 (by omega) (by unfold maxLen; omega) (by omega) (by simp; omega) (w1.alloc (.cells row.toArray 91)).heap.size rfl ?_
  intro g cap w' h2 h3 h4 h5
  have hg := grown_alloc h3
  have hbw : Below base w1 w' := (Below.refl _ _).grown hg hbase (fun j hj => (hG.own.lt j hj).1)
  have hor : v.ownBlock = some g ∨ w1.heap.size ≤ g := by
    rcases h4 with h4 | h4
    · exact Or.inl h4
    · exact Or.inr (by rw [h4]; simp)
  exact h g cap w' (hG.snoc hl hbl h2 hg hor) hbw ⟨hbw.os, hbw.tape, hbw.output, hbw.size, fun k hk hn => hg.block k hk (fun e => hn e.symm)⟩ h5 hbw.size hor

/-- At a step of a region that draws its order. -/
theorem step_append_IvfList {w1 : World} {base : Nat} {v : Value} {rows : List (List Value)} {xs : List DIvfList} {bls : List (List Nat)} (hG : Grow Lay.tIvfList w1 base 91 v rows xs bls) {row : List Value} {x : DIvfList} {bl : List Nat} (hl : Lay.tIvfList.lies w1 row x bl) (hbl : ∀ b ∈ bl, v.ownBlock ≠ some b) {ops : Array Oper} {o : Oper} {a : Act} {K : Act → World → Prop} {Q : Exit → Act → World → Prop} {E : Prop} (hgd : o.guard = none) (s y : Operand)
    (ho : o.op = .call { callee := .builtin .append, args := #[s, y], argTypes := #[25, 25] }) (hs : a.eval s = v) (hy : a.eval y = .slice (some ⟨w1.heap.size, 0, none⟩) 1 1) (hn : xs.length + 1 ≤ 100000000) (hbase : base ≤ w1.heap.size)
    (h : ∀ g cap w', Grow Lay.tIvfList w' base 91 (.slice (some ⟨g, 0, none⟩) (xs.length + 1) cap) (rows ++ [row]) (xs ++ [x]) (bls ++ [bl]) → Below base w1 w' → Ext (fun q => v.ownBlock = some q) w1 w' → g < w'.heap.size → w1.heap.size ≤ w'.heap.size → (v.ownBlock = some g ∨ w1.heap.size ≤ g) → K (a.put o.dst (.slice (some ⟨g, 0, none⟩) (xs.length + 1) cap)) w') :
    if Region.wanted o (yielded ops a.tmps) = true then Oper.wp Tryz.prog o a (w1.alloc (.cells row.toArray 91)) K Q else E := by
  obtain ⟨i0, hi0, hz0, hz1, hz2⟩ := info_parts infoAppIvfList
  obtain ⟨h1, hlen⟩ := one_IvfList hl
  refine step_append_lies _ hgd s y 25 ho base 91 i0 _ 1 24 Tryz.underlying25 hi0 hz0 hz1 hz2 rfl (by omega) v xs.length rows.flatten hs (hG.own.alloc _) ⟨w1.heap.size, 0, none⟩ 1 1 row hy hlen (World.news_of_block (cs := row.toArray) (t := 91) (fr := (0, 0)) (heap_alloc_new w1 _)) h1 (by omega) (by unfold maxLen; omega) (by omega) (by simp; omega) (w1.alloc (.cells row.toArray 91)).heap.size rfl ?_
  intro g cap w' h2 h3 h4 h5
  have hg := grown_alloc h3
  have hbw : Below base w1 w' := (Below.refl _ _).grown hg hbase (fun j hj => (hG.own.lt j hj).1)
  have hor : v.ownBlock = some g ∨ w1.heap.size ≤ g := by
    rcases h4 with h4 | h4
    · exact Or.inl h4
    · exact Or.inr (by rw [h4]; simp)
  exact h g cap w' (hG.snoc hl hbl h2 hg hor) hbw ⟨hbw.os, hbw.tape, hbw.output, hbw.size, fun k hk hn => hg.block k hk (fun e => hn e.symm)⟩ h5 hbw.size hor

end Go.Proofs.YtggnnbdjihihiaaGreat

namespace Go.Proofs.YtggnnbdjihihiaaGreat
open Go.RowKit

theorem Ext.drewX {S : Nat → Prop} {a b : World} (h : Ext S a b) : Ext S a b.drew := ⟨h.os, h.tape, h.output, h.size, h.block⟩
theorem Ext.allocX {S : Nat → Prop} {a b : World} (h : Ext S a b) (o : Obj) : Ext S a (b.alloc o) := h.trans (ext_of_below ((Below.refl _ _).alloc (Nat.le_refl _) o) S)

end Go.Proofs.YtggnnbdjihihiaaGreat

namespace Go.Proofs.YtggnnbdjihihiaaGreat
open Go.RowKit

theorem own_ext {S : Nat → Prop} {w w' : World} {base T sz : Nat} {v : Value} {n : Nat} {xs : List Value} (h : w.ownsRow base T sz v n xs) (e : Ext S w w') (hs : ∀ c, v.ownBlock = some c → ¬ S c) : w'.ownsRow base T sz v n xs := by
  refine ⟨h.1, ?_⟩
  rcases h.2 with h2 | ⟨g, cap, cur, hv, hg, hh, r⟩
  · exact Or.inl h2
  · exact Or.inr ⟨g, cap, cur, hv, hg, (e.block g (lt_of_block hh) (hs g (by rw [hv]; rfl))).trans hh, r⟩
theorem Grow.ext {α : Type} {A : Lay α} {S : Nat → Prop} {w w' : World} {base T : Nat} {v : Value} {rows : List (List Value)} {xs : List α} {bls : List (List Nat)} (h : Grow A w base T v rows xs bls) (e : Ext S w w') (h1 : ∀ c, v.ownBlock = some c → ¬ S c) (h2 : ∀ c ∈ bls.flatten, ¬ S c) : Grow A w' base T v rows xs bls :=
  h.kept (own_ext h.own e h1) fun b hb => e.block b (h.sub_lt b hb) (h2 b hb)

/-- Centers and lists, each in a row of its own. -/
def Two (w : World) (base : Nat) (rc rl : Value) (cs : List DCenter) (ls : List DIvfList) : Prop :=
  ∃ rowsC blsC rowsL blsL, Grow Lay.tCenter w base 145 rc rowsC cs blsC ∧ Grow Lay.tIvfList w base 91 rl rowsL ls blsL ∧ (∀ b ∈ blsC.flatten, base ≤ b) ∧ (∀ b ∈ blsL.flatten, base ≤ b) ∧
    (∀ c ∈ blsL.flatten, rc.ownBlock ≠ some c) ∧ (∀ c ∈ blsC.flatten, rl.ownBlock ≠ some c) ∧ ∀ c, rc.ownBlock = some c → rl.ownBlock ≠ some c
theorem Two.later {w w' : World} {base : Nat} {rc rl : Value} {cs : List DCenter} {ls : List DIvfList} (h : Two w base rc rl cs ls) (hb : Below w.heap.size w w') : Two w' base rc rl cs ls := by
  obtain ⟨a, b, c, d, g1, g2, r⟩ := h
  exact ⟨a, b, c, d, g1.later hb, g2.later hb, r⟩
theorem Two.ext {S : Nat → Prop} {w w' : World} {base : Nat} {rc rl : Value} {cs : List DCenter} {ls : List DIvfList} (h : Two w base rc rl cs ls) (e : Ext S w w') (hs : ∀ c, base ≤ c → ¬ S c) : Two w' base rc rl cs ls := by
  obtain ⟨a, b, c, d, g1, g2, s1, s2, r⟩ := h
  exact ⟨a, b, c, d, g1.ext e (fun q hq => hs q (g1.own.lt q hq).1) (fun q hq => hs q (s1 q hq)), g2.ext e (fun q hq => hs q (g2.own.lt q hq).1) (fun q hq => hs q (s2 q hq)), s1, s2, r⟩
theorem two_nil (w : World) (base : Nat) : Two w base (.slice none 0 0) (.slice none 0 0) [] [] :=
  ⟨[], [], [], [], Grow.nil (World.ownsRow_nil _ _ _ _), Grow.nil (World.ownsRow_nil _ _ _ _), by simp, by simp, by simp, by simp, by simp [Value.ownBlock]⟩
theorem flat_add {bls : List (List Nat)} {bl : List Nat} {P : Nat → Prop} (h : ∀ c ∈ bls.flatten, P c) (h2 : ∀ c ∈ bl, P c) : ∀ c ∈ (bls ++ [bl]).flatten, P c := by
  intro c hc
  rw [List.flatten_append] at hc
  rcases List.mem_append.1 hc with hc | hc
  · exact h c hc
  · exact h2 c (by simpa using hc)
theorem Two.cens {w w' : World} {base g cap : Nat} {rc rl : Value} {cs : List DCenter} {ls : List DIvfList} {rowsC : List (List Value)} {blsC : List (List Nat)} {rowsL : List (List Value)} {blsL : List (List Nat)} {row : List Value} {x : DCenter} {bl : List Nat}
    (g2 : Grow Lay.tIvfList w base 91 rl rowsL ls blsL) (s1 : ∀ b ∈ blsC.flatten, base ≤ b) (s2 : ∀ b ∈ blsL.flatten, base ≤ b) (x1 : ∀ c ∈ blsL.flatten, rc.ownBlock ≠ some c) (x2 : ∀ c ∈ blsC.flatten, rl.ownBlock ≠ some c) (x3 : ∀ c, rc.ownBlock = some c → rl.ownBlock ≠ some c)
    (hG : Grow Lay.tCenter w' base 145 (.slice (some ⟨g, 0, none⟩) (cs.length + 1) cap) (rowsC ++ [row]) (cs ++ [x]) (blsC ++ [bl])) (e : Ext (fun q => rc.ownBlock = some q) w w') (hor : rc.ownBlock = some g ∨ w.heap.size ≤ g) (hb1 : ∀ b ∈ bl, base ≤ b) (hb2 : ∀ b ∈ bl, rl.ownBlock ≠ some b) :
    Two w' base (.slice (some ⟨g, 0, none⟩) (cs.length + 1) cap) rl (cs ++ [x]) ls := by
  have hlt := g2.sub_lt
  refine ⟨_, _, rowsL, blsL, hG, g2.ext e (fun c hc hs => x3 c hs hc) (fun c hc hs => x1 c hc hs), flat_add s1 hb1, s2, fun c hc hq => ?_, flat_add x2 hb2, fun c hc hq => ?_⟩
  · have eg : c = g := by simpa [Value.ownBlock] using hq.symm
    rcases hor with h | h
    · exact x1 c hc (by rw [h, eg])
    · have := hlt c hc; omega
  · have eg : c = g := by simpa [Value.ownBlock] using hc.symm
    rcases hor with h | h
    · exact x3 c (by rw [h, eg]) hq
    · have := (g2.own.lt c hq).2; omega
theorem Two.listsA {w w' : World} {base g cap : Nat} {rc rl : Value} {cs : List DCenter} {ls : List DIvfList} {rowsC : List (List Value)} {blsC : List (List Nat)} {rowsL : List (List Value)} {blsL : List (List Nat)} {row : List Value} {x : DIvfList} {bl : List Nat}
    (g1 : Grow Lay.tCenter w base 145 rc rowsC cs blsC) (s1 : ∀ b ∈ blsC.flatten, base ≤ b) (s2 : ∀ b ∈ blsL.flatten, base ≤ b) (x1 : ∀ c ∈ blsL.flatten, rc.ownBlock ≠ some c) (x2 : ∀ c ∈ blsC.flatten, rl.ownBlock ≠ some c) (x3 : ∀ c, rc.ownBlock = some c → rl.ownBlock ≠ some c)
    (hG : Grow Lay.tIvfList w' base 91 (.slice (some ⟨g, 0, none⟩) (ls.length + 1) cap) (rowsL ++ [row]) (ls ++ [x]) (blsL ++ [bl])) (e : Ext (fun q => rl.ownBlock = some q) w w') (hor : rl.ownBlock = some g ∨ w.heap.size ≤ g) (hb1 : ∀ b ∈ bl, base ≤ b) (hb2 : ∀ b ∈ bl, rc.ownBlock ≠ some b) :
    Two w' base rc (.slice (some ⟨g, 0, none⟩) (ls.length + 1) cap) cs (ls ++ [x]) := by
  have hlt := g1.sub_lt
  refine ⟨rowsC, blsC, _, _, g1.ext e (fun c hc hs => x3 c hc hs) (fun c hc hs => x2 c hc hs), hG, s1, flat_add s2 hb1, flat_add x1 hb2, fun c hc hq => ?_, fun c hc hq => ?_⟩
  · have eg : c = g := by simpa [Value.ownBlock] using hq.symm
    rcases hor with h | h
    · exact x2 c hc (by rw [h, eg])
    · have := hlt c hc; omega
  · have eg : c = g := by simpa [Value.ownBlock] using hq.symm
    rcases hor with h | h
    · exact x3 c hc (by rw [h, eg])
    · have := (g1.own.lt c hc).2; omega
theorem Two.lies {w : World} {base : Nat} {rc rl : Value} {cs : List DCenter} {ls : List DIvfList} (h : Two w base rc rl cs ls) (h1 : cs.length ≤ 1000) (h2 : ls.length ≤ 1000) : Lay.tIvf.LiesIn w [rc, rl] ⟨cs, ls⟩ base w.heap.size := by
  obtain ⟨a, b, c, d, g1, g2, s1, s2, -⟩ := h
  obtain ⟨bl1, l1, i1⟩ := g1.toLies (by omega) s1
  obtain ⟨bl2, l2, i2⟩ := g2.toLies (by omega) s2
  refine ⟨bl1 ++ bl2, ⟨[rc], [rl], bl1, bl2, rfl, rfl, l1, l2⟩, fun q hq => ?_⟩
  rcases List.mem_append.1 hq with hq | hq
  · exact i1 q hq
  · exact i2 q hq

end Go.Proofs.YtggnnbdjihihiaaGreat

namespace Go.Proofs.YtggnnbdjihihiaaGreat
open Go.RowKit

/-- The first list is a row of its own, apart from all else. -/
def FirstOK (w : World) (base : Nat) (rc rl : Value) (blsC : List (List Nat)) (rowsL : List (List Value)) (blsL : List (List Nat)) (ls : List DIvfList) : Prop :=
  ls ≠ [] → ∃ (v0 : Value) (rows0 : List (List Value)) (bls0 : List (List Nat)), rowsL[0]? = some [v0] ∧ Grow Lay.tItem w base 139 v0 rows0 (ls.getD 0 ⟨[]⟩).items bls0 ∧ (∀ c ∈ bls0.flatten, base ≤ c) ∧
    (∀ c, v0.ownBlock = some c → rc.ownBlock ≠ some c ∧ rl.ownBlock ≠ some c ∧ c ∉ blsC.flatten ∧ c ∉ (blsL.drop 1).flatten) ∧ ∀ c ∈ bls0.flatten, rc.ownBlock ≠ some c ∧ rl.ownBlock ≠ some c
theorem FirstOK.ext {S : Nat → Prop} {w w' : World} {base : Nat} {rc rl : Value} {blsC : List (List Nat)} {rowsL : List (List Value)} {blsL : List (List Nat)} {ls : List DIvfList} (F : FirstOK w base rc rl blsC rowsL blsL ls) (e : Ext S w w') (hs : ∀ c, base ≤ c → ¬ S c) : FirstOK w' base rc rl blsC rowsL blsL ls := fun h => by
  obtain ⟨v0, rows0, bls0, e0, G0, sb, s1, s2⟩ := F h
  exact ⟨v0, rows0, bls0, e0, G0.ext e (fun c hc => hs c (G0.own.lt c hc).1) (fun c hc => hs c (sb c hc)), sb, s1, s2⟩
theorem FirstOK.later {w w' : World} {base : Nat} {rc rl : Value} {blsC : List (List Nat)} {rowsL : List (List Value)} {blsL : List (List Nat)} {ls : List DIvfList} (F : FirstOK w base rc rl blsC rowsL blsL ls) (hb : Below w.heap.size w w') : FirstOK w' base rc rl blsC rowsL blsL ls := F.ext (ext_of_below hb nowhere) fun _ _ h => h
/-- Centers and lists, each in a row of its own, and the first list in a row of its own. -/
def Two0 (w : World) (base : Nat) (rc rl : Value) (cs : List DCenter) (ls : List DIvfList) : Prop :=
  ∃ rowsC blsC rowsL blsL, Grow Lay.tCenter w base 145 rc rowsC cs blsC ∧ Grow Lay.tIvfList w base 91 rl rowsL ls blsL ∧ (∀ b ∈ blsC.flatten, base ≤ b) ∧ (∀ b ∈ blsL.flatten, base ≤ b) ∧
    (∀ c ∈ blsL.flatten, rc.ownBlock ≠ some c) ∧ (∀ c ∈ blsC.flatten, rl.ownBlock ≠ some c) ∧ (∀ c, rc.ownBlock = some c → rl.ownBlock ≠ some c) ∧ FirstOK w base rc rl blsC rowsL blsL ls
theorem two0_nil (w : World) (base : Nat) : Two0 w base (.slice none 0 0) (.slice none 0 0) [] [] :=
  ⟨[], [], [], [], Grow.nil (World.ownsRow_nil _ _ _ _), Grow.nil (World.ownsRow_nil _ _ _ _), by simp, by simp, by simp, by simp, by simp [Value.ownBlock], fun h => absurd rfl h⟩
theorem Two0.ext {S : Nat → Prop} {w w' : World} {base : Nat} {rc rl : Value} {cs : List DCenter} {ls : List DIvfList} (h : Two0 w base rc rl cs ls) (e : Ext S w w') (hs : ∀ c, base ≤ c → ¬ S c) : Two0 w' base rc rl cs ls := by
  obtain ⟨a, b, c, d, g1, g2, s1, s2, x1, x2, x3, F⟩ := h
  exact ⟨a, b, c, d, g1.ext e (fun q hq => hs q (g1.own.lt q hq).1) (fun q hq => hs q (s1 q hq)), g2.ext e (fun q hq => hs q (g2.own.lt q hq).1) (fun q hq => hs q (s2 q hq)), s1, s2, x1, x2, x3, F.ext e hs⟩
theorem Two0.later {w w' : World} {base : Nat} {rc rl : Value} {cs : List DCenter} {ls : List DIvfList} (h : Two0 w base rc rl cs ls) (hb : Below w.heap.size w w') : Two0 w' base rc rl cs ls := h.ext (ext_of_below hb nowhere) fun _ _ h => h
theorem Two0.lower {w : World} {base b' : Nat} {rc rl : Value} {cs : List DCenter} {ls : List DIvfList} (h : Two0 w base rc rl cs ls) (hb : b' ≤ base) : Two0 w b' rc rl cs ls := by
  obtain ⟨a, b, c, d, g1, g2, s1, s2, x1, x2, x3, F⟩ := h
  refine ⟨a, b, c, d, g1.lower hb, g2.lower hb, fun q hq => Nat.le_trans hb (s1 q hq), fun q hq => Nat.le_trans hb (s2 q hq), x1, x2, x3, fun h => ?_⟩
  obtain ⟨v0, rows0, bls0, e0, G0, sb, t1, t2⟩ := F h
  exact ⟨v0, rows0, bls0, e0, G0.lower hb, fun q hq => Nat.le_trans hb (sb q hq), t1, t2⟩
theorem Two0.two {w : World} {base : Nat} {rc rl : Value} {cs : List DCenter} {ls : List DIvfList} (h : Two0 w base rc rl cs ls) : Two w base rc rl cs ls := by
  obtain ⟨a, b, c, d, g1, g2, s1, s2, x1, x2, x3, -⟩ := h
  exact ⟨a, b, c, d, g1, g2, s1, s2, x1, x2, x3⟩
theorem not_flat {bls : List (List Nat)} {bl : List Nat} {c : Nat} (h1 : c ∉ bls.flatten) (h2 : c ∉ bl) : c ∉ (bls ++ [bl]).flatten := by
  intro hc
  rw [List.flatten_append] at hc
  rcases List.mem_append.1 hc with hc | hc
  · exact h1 hc
  · exact h2 (by simpa using hc)
/-- One center more. -/
theorem Two0.cens {w0 w w' : World} {base g cap : Nat} {rc rl : Value} {cs : List DCenter} {ls : List DIvfList} {rowsC : List (List Value)} {blsC : List (List Nat)} {rowsL : List (List Value)} {blsL : List (List Nat)} {row : List Value} {x : DCenter} {bl : List Nat}
    (g2 : Grow Lay.tIvfList w base 91 rl rowsL ls blsL) (s1 : ∀ b ∈ blsC.flatten, base ≤ b) (s2 : ∀ b ∈ blsL.flatten, base ≤ b) (x1 : ∀ c ∈ blsL.flatten, rc.ownBlock ≠ some c) (x2 : ∀ c ∈ blsC.flatten, rl.ownBlock ≠ some c) (x3 : ∀ c, rc.ownBlock = some c → rl.ownBlock ≠ some c)
    (hG : Grow Lay.tCenter w' base 145 (.slice (some ⟨g, 0, none⟩) (cs.length + 1) cap) (rowsC ++ [row]) (cs ++ [x]) (blsC ++ [bl])) (e : Ext (fun q => rc.ownBlock = some q) w w') (hor : rc.ownBlock = some g ∨ w.heap.size ≤ g) (hb1 : ∀ b ∈ bl, base ≤ b) (hb2 : ∀ b ∈ bl, rl.ownBlock ≠ some b)
    (F : FirstOK w0 base rc rl blsC rowsL blsL ls) (hb : Below w0.heap.size w0 w) (hfr : ∀ c ∈ bl, w0.heap.size ≤ c) :
    Two0 w' base (.slice (some ⟨g, 0, none⟩) (cs.length + 1) cap) rl (cs ++ [x]) ls := by
  have hlt := g2.sub_lt
  have hsz := hb.size
  refine ⟨_, _, rowsL, blsL, hG, g2.ext e (fun c hc hs => x3 c hs hc) (fun c hc hs => x1 c hc hs), flat_add s1 hb1, s2, fun c hc hq => ?_, flat_add x2 hb2, fun c hc hq => ?_, fun h => ?_⟩
  · have eg : c = g := by simpa [Value.ownBlock] using hq.symm
    rcases hor with h | h
    · exact x1 c hc (by rw [h, eg])
    · have := hlt c hc; omega
  · have eg : c = g := by simpa [Value.ownBlock] using hc.symm
    rcases hor with h | h
    · exact x3 c (by rw [h, eg]) hq
    · have := (g2.own.lt c hq).2; omega
  · obtain ⟨v0, rows0, bls0, e0, G0, sb, t1, t2⟩ := F h
    refine ⟨v0, rows0, bls0, e0, (G0.later hb).ext e (fun c hc hq => (t1 c hc).1 hq) (fun c hc hq => (t2 c hc).1 hq), sb, fun c hc => ⟨fun hq => ?_, (t1 c hc).2.1, not_flat (t1 c hc).2.2.1 (fun hm => ?_), (t1 c hc).2.2.2⟩, fun c hc => ⟨fun hq => ?_, (t2 c hc).2⟩⟩
    · have eg : c = g := by simpa [Value.ownBlock] using hq.symm
      have := (G0.own.lt c hc).2
      rcases hor with h | h
      · exact (t1 c hc).1 (by rw [h, eg])
      · omega
    · have h1 := (G0.own.lt c hc).2
      have h2 := hfr c hm
      omega
    · have eg : c = g := by simpa [Value.ownBlock] using hq.symm
      have := G0.sub_lt c hc
      rcases hor with h | h
      · exact (t2 c hc).1 (by rw [h, eg])
      · omega
/-- One list more. -/
theorem Two0.listsA {w0 w w' : World} {base g cap : Nat} {rc rl : Value} {cs : List DCenter} {ls : List DIvfList} {rowsC : List (List Value)} {blsC : List (List Nat)} {rowsL : List (List Value)} {blsL : List (List Nat)} {v9 : Value} {x : DIvfList} {bl : List Nat}
    (g1 : Grow Lay.tCenter w base 145 rc rowsC cs blsC) (s1 : ∀ b ∈ blsC.flatten, base ≤ b) (s2 : ∀ b ∈ blsL.flatten, base ≤ b) (x1 : ∀ c ∈ blsL.flatten, rc.ownBlock ≠ some c) (x2 : ∀ c ∈ blsC.flatten, rl.ownBlock ≠ some c) (x3 : ∀ c, rc.ownBlock = some c → rl.ownBlock ≠ some c)
    (hG : Grow Lay.tIvfList w' base 91 (.slice (some ⟨g, 0, none⟩) (ls.length + 1) cap) (rowsL ++ [[v9]]) (ls ++ [x]) (blsL ++ [bl])) (e : Ext (fun q => rl.ownBlock = some q) w w') (hor : rl.ownBlock = some g ∨ w.heap.size ≤ g) (hb1 : ∀ b ∈ bl, base ≤ b) (hb2 : ∀ b ∈ bl, rc.ownBlock ≠ some b)
    (F : FirstOK w0 base rc rl blsC rowsL blsL ls) (hb : Below w0.heap.size w0 w) (hfr : ∀ c ∈ bl, w0.heap.size ≤ c) (gC0 : Grow Lay.tCenter w0 base 145 rc rowsC cs blsC) (gL0 : Grow Lay.tIvfList w0 base 91 rl rowsL ls blsL)
    {rows9 : List (List Value)} {bls9 : List (List Nat)} (G9 : Grow Lay.tItem w w0.heap.size 139 v9 rows9 x.items bls9) (hs9 : ∀ c ∈ bls9.flatten, w0.heap.size ≤ c) (hbase : base ≤ w0.heap.size) :
    Two0 w' base rc (.slice (some ⟨g, 0, none⟩) (ls.length + 1) cap) cs (ls ++ [x]) := by
  have hlt := g1.sub_lt
  have hsz := hb.size
  refine ⟨rowsC, blsC, _, _, g1.ext e (fun c hc hs => x3 c hc hs) (fun c hc hs => x2 c hc hs), hG, s1, flat_add s2 hb1, flat_add x1 hb2, fun c hc hq => ?_, fun c hc hq => ?_, fun _ => ?_⟩
  · have eg : c = g := by simpa [Value.ownBlock] using hq.symm
    rcases hor with h | h
    · exact x2 c hc (by rw [h, eg])
    · have := hlt c hc; omega
  · have eg : c = g := by simpa [Value.ownBlock] using hq.symm
    rcases hor with h | h
    · exact x3 c hc (by rw [h, eg])
    · have := (g1.own.lt c hc).2; omega
  · by_cases hls : ls = []
    · subst hls
      obtain rfl : rowsL = [] := List.eq_nil_of_length_eq_zero gL0.nrows
      obtain rfl : blsL = [] := List.eq_nil_of_length_eq_zero gL0.nbls
      refine ⟨v9, rows9, bls9, rfl, (G9.lower hbase).ext e (fun c hc hq => ?_) (fun c hc hq => ?_), fun c hc => Nat.le_trans hbase (hs9 c hc), fun c hc => ⟨fun hq => ?_, fun hq => ?_, fun hm => ?_, by simp⟩, fun c hc => ⟨fun hq => ?_, fun hq => ?_⟩⟩
      · have h1 := (G9.own.lt c hc).1; have h2 := (gL0.own.lt c hq).2; omega
      · have h1 := hs9 c hc; have h2 := (gL0.own.lt c hq).2; omega
      · have h1 := (G9.own.lt c hc).1; have h2 := (gC0.own.lt c hq).2; omega
      · have eg : c = g := by simpa [Value.ownBlock] using hq.symm
        have h1 := G9.own.lt c hc
        rcases hor with h | h
        · have h2 := (gL0.own.lt g h).2; omega
        · omega
      · have h1 := (G9.own.lt c hc).1; have h2 := gC0.sub_lt c hm; omega
      · have h1 := hs9 c hc; have h2 := (gC0.own.lt c hq).2; omega
      · have eg : c = g := by simpa [Value.ownBlock] using hq.symm
        have h1 := hs9 c hc
        have h3 := G9.sub_lt c hc
        rcases hor with h | h
        · have h2 := (gL0.own.lt g h).2; omega
        · omega
    · obtain ⟨v0, rows0, bls0, e0, G0, sb, t1, t2⟩ := F hls
      obtain ⟨l0, lr, rfl⟩ : ∃ l0 lr, ls = l0 :: lr := by
        cases ls with
        | nil => exact absurd rfl hls
        | cons l0 lr => exact ⟨l0, lr, rfl⟩
      obtain ⟨b0, br, rfl⟩ : ∃ b0 br, blsL = b0 :: br := by
        cases blsL with
        | nil => have := gL0.nbls; simp at this
        | cons b0 br => exact ⟨b0, br, rfl⟩
      obtain ⟨r0, rr, rfl⟩ : ∃ r0 rr, rowsL = r0 :: rr := by
        cases rowsL with
        | nil => have := gL0.nrows; simp at this
        | cons r0 rr => exact ⟨r0, rr, rfl⟩
      refine ⟨v0, rows0, bls0, by simpa using e0, ?_, sb, fun c hc => ⟨(t1 c hc).1, fun hq => ?_, (t1 c hc).2.2.1, ?_⟩, fun c hc => ⟨(t2 c hc).1, fun hq => ?_⟩⟩
      · have := (G0.later hb).ext e (fun c hc hq => (t1 c hc).2.1 hq) (fun c hc hq => (t2 c hc).2 hq)
        simpa using this
      · have eg : c = g := by simpa [Value.ownBlock] using hq.symm
        have := (G0.own.lt c hc).2
        rcases hor with h | h
        · exact (t1 c hc).2.1 (by rw [h, eg])
        · omega
      · have h3 := (t1 c hc).2.2.2
        rw [List.drop_one, List.tail_cons] at h3
        rw [List.cons_append, List.drop_one, List.tail_cons]
        exact not_flat h3 (fun hm => by have h1 := (G0.own.lt c hc).2; have h2 := hfr c hm; omega)
      · have eg : c = g := by simpa [Value.ownBlock] using hq.symm
        have := G0.sub_lt c hc
        rcases hor with h | h
        · exact (t2 c hc).2 (by rw [h, eg])
        · omega

end Go.Proofs.YtggnnbdjihihiaaGreat

namespace Go.Proofs.YtggnnbdjihihiaaGreat
open Go.RowKit

theorem step_make_full {P : Program} (w : World) {ops : Array Oper} {o : Oper} {a : Act} {K : Act → World → Prop} {Q : Exit → Act → World → Prop} {E : Prop}
    (hg : o.guard = none) (l c : Operand) (t : TypeId) (hop : o.op = Op.makeSlice t l c)
    (base : Nat) (e : TypeId) (i : TypeInfo) (z : Value) (size : Nat) (h1 : P.underlying t = some (.slice e)) (h2 : P.info? e = some i) (h3 : i.zero = some z) (h4 : i.size = size)
    (kl kc : IntKind) (L C : Int) (n : Nat) (hl : a.eval l = .int kl L) (hc : a.eval c = .int kc C) (hL : L = (n : Int)) (hC : C = (n : Int)) (b2 : i.bytes * n ≤ 281474976710656) (b3 : n ≤ maxLen) (b4 : base ≤ w.heap.size)
    (hK : ∀ w', w'.ownsRow base e size (.slice (some ⟨w.heap.size, 0, none⟩) n n) n (madeCells z.cells (n * size)).toList → w.grownBy w' none → K (a.put o.dst (.slice (some ⟨w.heap.size, 0, none⟩) n n)) w') :
    if Region.wanted o (yielded ops a.tmps) = true then Oper.wp P o a w K Q else E := by
  have hw : Region.wanted o (yielded ops a.tmps) = true := by simp [Region.wanted, hg]
  rw [if_pos hw]
  obtain ⟨w', hrun, r1, r2⟩ := run_make_full (P := P) w base t e i z size h1 h2 h3 h4 kl kc n b2 b3 b4
  subst hL
  subst hC
  unfold Oper.wp
  simp [execOp, hop, hl, hc, hrun, Result.andThen, Oper.upon]
  exact hK w' r1 r2
theorem made_nil (n : Nat) : (madeCells (Value.agg #[.slice none 0 0]).cells (n * 1)).toList = List.replicate n (.slice none 0 0) := by
  rw [show (Value.agg #[Value.slice none 0 0]).cells = #[Value.slice none 0 0] from rfl, toList_madeCells_one, Nat.mul_one]

end Go.Proofs.YtggnnbdjihihiaaGreat

namespace Go.Proofs.YtggnnbdjihihiaaGreat
open Go.RowKit

theorem infoCenD : (Tryz.prog.info? 145).map (fun i => (i.zero, i.size, i.bytes)) = some (some (.agg #[.slice none 0 0]), 1, 24) := by kernel_rfl
theorem flat_ones (n : Nat) (v : Value) : (List.replicate n [v]).flatten = List.replicate n v := by
  induction n with
  | zero => rfl
  | succ n ih => rw [List.replicate_succ, List.flatten_cons, ih]; rfl
theorem grow7 {w : World} {base : Nat} {v : Value} (h : w.ownsRow base 145 1 v 7 (List.replicate 7 (.slice none 0 0))) : Grow Lay.tCenter w base 145 v (List.replicate 7 [.slice none 0 0]) (List.replicate 7 ⟨[]⟩) (List.replicate 7 []) := by
  refine ⟨?_, by rw [List.length_replicate, List.length_replicate], by rw [List.length_replicate, List.length_replicate], fun j h1 h2 h3 => ?_, fun b hb => (flat_none _ b hb).elim⟩
  · rw [List.length_replicate, flat_ones]; exact h
  · rw [List.getElem_replicate, List.getElem_replicate, List.getElem_replicate]
    exact ⟨none, 0, rfl, ⟨by simp, by simp⟩, Or.inl ⟨rfl, rfl⟩⟩
/-- Some centers of the draw's own; the source has gone on. -/
def CensPost (b m : Nat) (cv : Value) (w : World) (e : Ending) (w' : World) : Prop :=
  ∃ (v : Value) (rows : List (List Value)) (cs : List DCenter) (bls : List (List Nat)) (m' : Nat), e = .returned v ∧ Grow Lay.tCenter w' w.heap.size 145 v rows cs bls ∧ (∀ c ∈ bls.flatten, w.heap.size ≤ c) ∧ cs.length ≤ 7 ∧
    SrcAt w' b cv m' ∧ m' ≤ m + 100 ∧ IsCode b w' cv ∧ w.grownBy w' (some b)

set_option maxRecDepth 10000 in
set_option maxHeartbeats 2000000 in
theorem drawCen (b m : Nat) (cv : Value) (w : World) (hs : SrcAt w b cv m) (hc : IsCode b w cv) (hm : m ≤ 1000000) :
    Calls Tryz.prog 120 #[.pointer (some ⟨b, 0, none⟩)] w (CensPost b m cv w) := by
  unfold CensPost
  have hbw := hs.lt
  have nb : Below w.heap.size w (w.alloc (.cells #[] 145)) := (Below.refl w.heap.size w).alloc (Nat.le_refl _) (.cells #[] 145)
  have G0 : Grow Lay.tCenter (w.alloc (.cells #[] 145)) w.heap.size 145 (.slice (some ⟨w.heap.size, 0, none⟩) 0 0) [] [] [] := Grow.nil (World.ownsRow_lit w #[] 0 (Nat.le_refl _) (Nat.zero_le _) rfl)
  have L := next b m cv 4 (w.alloc (.cells #[] 145)) (hs.on nb) (hc.on (Nat.le_of_lt hbw) nb) (by omega) (by omega) (by omega)
  have HL := hide L
  have HG := hide G0
  have HN := hide nb
  clear L G0 nb hs hc
  go_enter Tryz.func120, Tryz.ntmps120
  go_wp2_with fail
  refine (unhide HL).mono ?_
  rintro e w1 ⟨r, rfl, hr, s1, c1, g1⟩
  have hr2 : r ≤ 3 := by omega
  have HG1 := hide ((unhide HG).grown g1 hbw (by simp))
  have HS1 := hide s1
  have HC1 := hide c1
  have HGR1 : Hid (w.grownBy w1 (some b)) := ⟨g1.os.trans (unhide HN).os, g1.tape.trans (unhide HN).tape, g1.output.trans (unhide HN).output, Nat.le_trans (unhide HN).size g1.size, fun i hi hn => (g1.block i (Nat.lt_of_lt_of_le hi (unhide HN).size) hn).trans ((unhide HN).block i hi)⟩
  clear s1 c1 g1 HL HG HN hr
  go_wp2_with fail
  go_loopw [3, 4] (fun v kk wr => ∃ (j : Nat) (rows : List (List Value)) (cs : List DCenter) (bls : List (List Nat)) (m' : Nat), j ≤ 4 ∧ kk = .int .i64 j ∧ Grow Lay.tCenter wr w.heap.size 145 v rows cs bls ∧ (∀ c ∈ bls.flatten, w.heap.size ≤ c) ∧ (∀ c ∈ cs, vecFault c.vec = 0) ∧ cs.length + j = r + 1 ∧
      SrcAt wr b cv m' ∧ m' + 9 * j ≤ m + 40 ∧ IsCode b wr cv ∧ w.grownBy wr (some b)) (fun _ kk _ => (intOf kk).toNat)
  case atStart => exact ⟨r + 1, [], [], [], m + 1, by omega, by go_num, unhide HG1, by simp, by simp, by simp, unhide HS1, by omega, unhide HC1, unhide HGR1⟩
  case round =>
    obtain ⟨j, rows, cs, bls, m', hj, rfl, hG, hsf, hcv, hlen, hS, hm', hC, hgr⟩ := hrel
    clear HG1 HS1 HC1 HGR1
    by_cases hlt : 0 < j
    · have L := draw b m' cv wr hS hC (by omega)
      have HL2 := hide L
      have HG := hide hG
      have HSF := hide hsf
      have HCV := hide hcv
      have HGR := hide hgr
      have HLE := hide hlen
      have hcl : cs.length ≤ 4 := by omega
      clear L hG hsf hcv hS hC hgr hlen
      go_wp2_with fail
      refine (unhide HL2).mono ?_
      rintro e w3 ⟨vd, ds, rfl, hd3, hdr, hod, s3, c3, g3⟩
      have hz3 := g3.size
      have hG3 := (unhide HG).grown g3 hbw (unhide HSF)
      have hGR3 : w.grownBy w3 (some b) := grown_trans (unhide HGR) g3
      have hdw : ∀ z ∈ ds, (Lit.int .i64 z).wf = true := fun z hz => wf_of_bd (by have := hdr z hz; omega)
      rw [← hd3] at hod
      obtain ⟨bl9, ⟨hl9, -, -⟩, hi9⟩ := Lay.ownInts hdw (by omega) hod
      obtain ⟨a9, d9, rfl⟩ := open_sl ⟨bl9, hl9⟩
      have hlC : Lay.tCenter.lies w3 [.slice a9 ds.length d9] ⟨ds⟩ bl9 := hl9
      have hoff : ∀ c ∈ bl9, u3.ownBlock ≠ some c := fun c hc e => by
        have h1 := (hi9 c hc).1
        have h2 := ((unhide HG).own.lt c e).2
        omega
      have hwz : w.heap.size ≤ w3.heap.size := hGR3.size
      have HSF4 : Hid (∀ c ∈ (bls ++ [bl9]).flatten, w.heap.size ≤ c) := flat_add (unhide HSF) (fun c hc => by have := (hi9 c hc).1; have := (unhide HGR).size; omega)
      have HCV4 : Hid (∀ c ∈ cs ++ [(⟨ds⟩ : DCenter)], vecFault c.vec = 0) := fun c hc => by
        rcases List.mem_append.1 hc with hc | hc
        · exact unhide HCV c hc
        · rw [List.mem_singleton.1 hc]; exact vec_right hd3 hdr
      have HS3 := hide s3
      have HC3 := hide c3
      have HGR3 := hide hGR3
      clear hod hdw hdr s3 c3 g3 HL2 hGR3 hi9 hl9 hd3 HG
      go_wp2_with (at_builtin; refine wpList_append_Center hG3 hlC hoff rfl _ _ rfl rfl rfl ?hn9 hwz ?_; case hn9 => omega)
      intro g cap w6 hG6 hb6 hE6 hg6 hz6 hor6
      have HG6 := hide hG6
      have HS6 : Hid (SrcAt w6 b cv (m' + 9)) := (hb6.block b hbw).trans (unhide HS3)
      have HC6 := hide ((unhide HC3).later (hb6.mono (Nat.le_of_lt hbw)))
      have HGR6 := hide (grown_lowI (unhide HGR3) hb6)
      clear hG6 hb6 hE6 hg6 hz6 hor6 hG3 hlC hoff HS3 HC3 HGR3
      go_wp2_with fail
      go_roundw
      case rel => exact ⟨j - 1, _, _, _, m' + 9, by omega, by go_num, unhide HG6, unhide HSF4, unhide HCV4, by have := unhide HLE; simp; omega, unhide HS6, by omega, unhide HC6, unhide HGR6⟩
      case measure => simp [intOf]; omega
    · obtain rfl : j = 0 := by omega
      have L := hide (next b m' cv 14 wr hS hC (by omega) (by omega) (by omega))
      have HG := hide hG
      have HSF := hide hsf
      have HGR := hide hgr
      have hcl : cs.length ≤ 4 := by omega
      clear hG hsf hcv hS hC hgr hlen
      go_wp2_with fail
      refine (unhide L).mono ?_
      rintro e w3 ⟨q, rfl, hq, s3, c3, g3⟩
      replace HG := hide ((unhide HG).grown g3 hbw (unhide HSF))
      replace HGR := hide (grown_trans (unhide HGR) g3)
      have HS := hide s3
      have HC := hide c3
      have hw3 : w.heap.size ≤ w3.heap.size := (unhide HGR).size
      clear s3 c3 g3 L
      rcases (show q = 0 ∨ q = 1 ∨ q = 2 ∨ 3 ≤ q by omega) with rfl | rfl | rfl | h2
      · have L4 := hide (bent b (m' + 1) cv w3 (unhide HS) (unhide HC) (by omega))
        clear HS HC
        go_wp2_with fail
        refine (unhide L4).mono ?_
        rintro e w5 ⟨v3, zs, m3, rfl, hzs, hNI, hm3, s5, c5, g5⟩
        obtain ⟨bz, hlz, hbz⟩ := hNI.lies (by omega)
        obtain ⟨a3, d3, rfl⟩ := open_sl ⟨bz, hlz⟩
        have hG := (unhide HG).grown g5 hbw (unhide HSF)
        have hoff : ∀ c ∈ bz, u3.ownBlock ≠ some c := fun c hc e => by
          have h1 := hbz c hc
          have h2 := ((unhide HG).own.lt c e).2
          omega
        have hl : Lay.tCenter.lies w5 [.slice a3 zs.length d3] ⟨zs⟩ bz := hlz
        replace HSF := hide (flat_snocI (unhide HSF) (fun c hc => Nat.le_trans hw3 (hbz c hc)))
        replace HGR := hide (grown_trans (unhide HGR) g5)
        have HS := hide s5
        have HC := hide c5
        have HZ : w.heap.size ≤ w5.heap.size := (unhide HGR).size
        clear s5 c5 g5 L4 hNI hlz hbz HG
        go_wp2_with (at_builtin; refine wpList_append_Center hG hl hoff rfl _ _ rfl rfl rfl ?hn9 HZ ?_; case hn9 => omega)
        intro g cap w6 hG6 hb6 hE6 hg6 hz6 hor6
        have HG6 := hide hG6
        have HS6 : Hid (SrcAt w6 b cv m3) := (hb6.block b hbw).trans (unhide HS)
        have HC6 := hide ((unhide HC).later (hb6.mono (Nat.le_of_lt hbw)))
        have HGR6 := hide (grown_lowI (unhide HGR) hb6)
        clear hG hl hoff hG6 hb6 hE6 hg6 hz6 hor6 HS HC HGR
        go_wp2_with fail
        go_ret
        exact ⟨_, _, _, _, m3, rfl, unhide HG6, unhide HSF, by simp; omega, unhide HS6, by omega, unhide HC6, unhide HGR6⟩
      · obtain ⟨i0, hi, hz0, hz1, hz2⟩ := info_parts infoCenD
        clear HG HSF
        go_wp2_with (at_make; refine wpList_make_full _ rfl _ _ 24 rfl w.heap.size 145 i0 _ 1 Tryz.underlying24 hi hz0 hz1 _ _ _ _ 7 rfl rfl rfl rfl ?c1 ?c2 ?c3 ?_)
        case c1 => omega
        case c2 => unfold maxLen; omega
        case c3 => omega
        intro w4 o4 g4
        rw [toList_madeCells_one] at o4
        have hb4 : Below w3.heap.size w3 w4 := (Below.refl _ _).grown g4 (Nat.le_refl _) (by simp)
        have HG4 := hide (grow7 o4)
        have HS4 := hide ((unhide HS).on hb4)
        have HC4 := hide ((unhide HC).on (by omega) hb4)
        have HGR4 := hide (grown_on (unhide HGR) hb4)
        clear o4 g4 hi hz0 hz1 hz2 hb4 HS HC HGR
        go_wp2_with fail
        go_ret
        exact ⟨_, _, _, _, m' + 1, rfl, unhide HG4, fun c hc => (flat_none _ c hc).elim, by rw [List.length_replicate]; omega, unhide HS4, by omega, unhide HC4, unhide HGR4⟩
      · clear HG HSF
        go_wp2_with fail
        go_ret
        exact ⟨_, [], [], [], m' + 1, rfl, Grow.nil (World.ownsRow_nil _ _ _ _), by simp, by simp, unhide HS, by omega, unhide HC, unhide HGR⟩
      · have d0 : ((q : Int) == 0) = false := by rw [beq_eq_false_iff_ne]; omega
        have d1 : ((q : Int) == 1) = false := by rw [beq_eq_false_iff_ne]; omega
        have d2 : ((q : Int) == 2) = false := by rw [beq_eq_false_iff_ne]; omega
        go_wp2_with fail
        go_ret
        exact ⟨_, rows, cs, bls, m' + 1, rfl, unhide HG, unhide HSF, by omega, unhide HS, by omega, unhide HC, unhide HGR⟩

end Go.Proofs.YtggnnbdjihihiaaGreat

namespace Go.Proofs.YtggnnbdjihihiaaGreat
open Go.RowKit

theorem cen_cell {w : World} {b off k : Nat} {u : Option Value} (h : w.cell? ⟨b, off + k * Lay.tCenter.n + 0, none⟩ = u) : w.cell? ⟨b, off + k, none⟩ = u := by
  have q : w.cell? ⟨b, off + k * 1 + 0, none⟩ = u := h
  rw [Nat.mul_one, Nat.add_zero] at q
  exact q

end Go.Proofs.YtggnnbdjihihiaaGreat

namespace Go.Proofs.YtggnnbdjihihiaaGreat
open Go.RowKit

theorem cvec3 {zs : List Int} (h : vecFault zs = 0) : ∃ p q r, zs = [p, q, r] := by
  have hl := (vecFault_zero h).1
  match zs, hl with
  | [p, q, r], _ => exact ⟨p, q, r, rfl⟩
theorem implScore3 (v1 v2 : Value) (p q : List Int) (w : World) (h1 : IsInts w v1 p) (h2 : IsInts w v2 q) (f1 : vecFault p = 0) (f2 : vecFault q = 0) :
    Calls Tryz.prog 14 #[v1, v2] w fun e w' => e = .returned (.agg #[.int .i64 0, .int .i64 (score3 p q)]) ∧ Below w.heap.size w w' := by
  obtain ⟨x, y, z, rfl⟩ := cvec3 f1
  obtain ⟨a, b, c, rfl⟩ := cvec3 f2
  exact implScore_ok v1 v2 x y z a b c w h1 h2 f1 f2
theorem modelScore3 (v1 v2 : Value) (p q : List Int) (w : World) (h1 : IsInts w v1 p) (h2 : IsInts w v2 q) (f1 : vecFault p = 0) (f2 : vecFault q = 0) :
    Calls Tryz.prog 96 #[v1, v2] w fun e w' => e = .returned (.int .i64 (score3 p q)) ∧ Below w.heap.size w w' := by
  obtain ⟨x, y, z, rfl⟩ := cvec3 f1
  obtain ⟨a, b, c, rfl⟩ := cvec3 f2
  obtain ⟨b1, o1, k1, x', y', z', he, rfl, hbl, c0, c1, c2⟩ := h1.three rfl
  simp only [List.cons.injEq, and_true] at he
  obtain ⟨rfl, rfl, rfl⟩ := he
  obtain ⟨b2, o2, k2, x', y', z', he, rfl, hbl2, d0, d1, d2⟩ := h2.three rfl
  simp only [List.cons.injEq, and_true] at he
  obtain ⟨rfl, rfl, rfl⟩ := he
  exact modelSum b1 o1 k1 b2 o2 k2 x y z a b c w c0 c1 c2 d0 d1 d2 f1 f2

end Go.Proofs.YtggnnbdjihihiaaGreat

namespace Go.Proofs.YtggnnbdjihihiaaGreat
open Go.RowKit

set_option maxRecDepth 100000 in
set_option maxHeartbeats 1000000 in
theorem specCen_pos (b off cap : Nat) (xs : List DCenter) (w : World) (hn : 1 ≤ xs.length ∧ xs.length ≤ 6) (h : (Lay.sl Lay.tCenter).Reads w [.slice (some ⟨b, off, none⟩) xs.length cap] xs) (hbl : b < w.heap.size) :
    Calls Tryz.prog 92 #[.slice (some ⟨b, off, none⟩) xs.length cap] w fun e w' => e = .returned (.int .i64 (cenFrom xs)) ∧ Below w.heap.size w w' := by
  generalize hF0 : cenFrom xs = F0
  have H := hide h
  clear h
  have d1 : decide ((xs.length : Int) < 1) = false := by simp; omega
  have d2 : decide ((6 : Int) < (xs.length : Int)) = false := by simp; omega
  go_enter Tryz.func92, Tryz.ntmps92
  go_wp2_with fail
  go_loopw [3] (fun i wr => ∃ k : Nat, k ≤ xs.length ∧ i = .int .i64 k ∧ cenFrom (xs.drop k) = F0 ∧ Below w.heap.size w wr) (fun i _ => xs.length - (intOf i).toNat)
  case atStart => exact ⟨0, Nat.zero_le _, rfl, hF0, Below.refl _ _⟩
  case round =>
    obtain ⟨k, hk, rfl, hF, hB⟩ := hrel
    by_cases hlt : k < xs.length
    · obtain ⟨row, hc, hr⟩ := Lay.row_at (unhide H) hlt
      replace hr := hr.later hB
      obtain ⟨a1, d1, rfl, R1⟩ := open_Center hr
      have c1 : wr.cell? ⟨b, off + k, none⟩ = some (.slice a1 (xs[k]).vec.length d1) := (hB.cell (p := ⟨b, off + k, none⟩) hbl).trans (cen_cell (hc 0 (by decide)))
      rw [cenFrom_step xs k hlt] at hF
      clear hc hr
      generalize hx : xs[k] = x at *
      clear hx
      have hbr : b < wr.heap.size := Nat.lt_of_lt_of_le hbl hB.size
      have I1 := hide (Lay.ints_reads R1)
      have HF := hide hF
      have B1 := hide hB
      clear R1 hF hB
      go_wp2_with fail
      refine (modelFault _ x.vec _ (unhide I1)).mono ?_
      rintro e w1 ⟨rfl, rfl⟩
      by_cases hv : vecFault x.vec = 0
      · rw [hv]
        have hF := unhide HF
        rw [if_pos hv] at hF
        clear HF I1 hv
        have HF := hide hF
        clear hF
        go_wp2_with fail
        go_roundw
        case rel => exact ⟨k + 1, by omega, by go_num, unhide HF, unhide B1⟩
        case measure => simp [intOf]; omega
      · have hF := unhide HF
        rw [if_neg hv] at hF
        have hd : (vecFault x.vec != 0) = true := by simpa using hv
        have HF2 := hide hF
        clear HF hF I1 hv
        go_wp2_with fail
        go_ret
        exact ⟨by rw [← unhide HF2]; rfl, unhide B1⟩
    · obtain rfl : k = xs.length := by omega
      rw [List.drop_length] at hF
      have HF := hide hF
      have HB := hide hB
      clear hF hB H
      go_wp2_with fail
      go_ret
      exact ⟨by rw [← unhide HF]; rfl, unhide HB⟩

set_option maxRecDepth 10000 in
theorem specCen (v : Value) (xs : List DCenter) (w : World) (h : (Lay.sl Lay.tCenter).Reads w [v] xs) :
    Calls Tryz.prog 92 #[v] w fun e w' => e = .returned (.int .i64 (centersFault xs)) ∧ Below w.heap.size w w' := by
  have hbig := h.big
  obtain ⟨ao, cap, rfl⟩ := open_sl h
  by_cases hn : xs.length < 1 ∨ 6 < xs.length
  · have e : centersFault xs = 2 := by unfold centersFault; rw [if_pos hn]
    rw [e]
    clear h e
    go_enter Tryz.func92, Tryz.ntmps92
    by_cases h1 : xs.length < 1
    · have d1 : decide ((xs.length : Int) < 1) = true := by simp; omega
      go_wp2_with fail
      go_ret
      exact ⟨rfl, Below.refl _ _⟩
    · have d1 : decide ((xs.length : Int) < 1) = false := by simp; omega
      have d2 : decide ((6 : Int) < (xs.length : Int)) = true := by simp; omega
      go_wp2_with fail
      go_ret
      exact ⟨rfl, Below.refl _ _⟩
  · have e : centersFault xs = cenFrom xs := by unfold centersFault; rw [if_neg hn]
    rw [e]
    obtain ⟨b, off, rfl, hbl⟩ := Lay.sl_addr h (by omega)
    exact specCen_pos b off cap xs w (by omega) h hbl

end Go.Proofs.YtggnnbdjihihiaaGreat

namespace Go.Proofs.YtggnnbdjihihiaaGreat
open Go.RowKit

set_option maxRecDepth 100000 in
set_option maxHeartbeats 2000000 in
theorem specNear_pos (b off cap : Nat) (cs : List DCenter) (a2 : Option Addr) (d2 : Nat) (q : List Int) (w : World) (h : (Lay.sl Lay.tCenter).Reads w [.slice (some ⟨b, off, none⟩) cs.length cap] cs) (hbl : b < w.heap.size) (hq : IsInts w (.slice a2 q.length d2) q) (hc0 : centersFault cs = 0) (hv : vecFault q = 0) :
    Calls Tryz.prog 107 #[.slice (some ⟨b, off, none⟩) cs.length cap, .slice a2 q.length d2] w fun e w' => e = .returned (.int .i64 (near cs q : Nat)) ∧ Below w.heap.size w w' := by
  obtain ⟨hn, hall⟩ := centersFault_zero hc0
  have HQ := hide hq
  have HA := hide hall
  have HV := hide hv
  have H := hide h
  have HN : Hid (near cs q = (nearK cs q cs.length).1) := rfl
  have H1 : Hid (nearK cs q 1 = (0, score3 cs[0].vec q)) := by
    show nearK cs q 1 = _
    have hs := cscore_bd (hall cs[0] (List.getElem_mem (by omega))) hv
    rw [nearK_step cs q 0 (by omega), if_pos (by simp only [nearK]; omega)]
  clear h hq hall hc0 hv
  go_enter Tryz.func107, Tryz.ntmps107
  go_wp2_with fail
  go_loopw [5, 6] (fun a i wr => ∃ k : Nat, 1 ≤ k ∧ k ≤ cs.length ∧ i = .int .i64 k ∧ a = .int .i64 ((nearK cs q k).1 : Nat) ∧ Below w.heap.size w wr) (fun _ i _ => cs.length - (intOf i).toNat)
  case atStart => exact ⟨1, Nat.le_refl _, hn.1, rfl, by rw [unhide H1]; rfl, Below.refl _ _⟩
  case round =>
    obtain ⟨k, hk1, hk, rfl, rfl, hB⟩ := hrel
    clear H1
    by_cases hlt : k < cs.length
    · obtain ⟨row, hc, hr⟩ := Lay.row_at (unhide H) hlt
      obtain ⟨a1, d1, rfl, R1⟩ := open_Center hr
      have c1 : w.cell? ⟨b, off + k, none⟩ = some (.slice a1 (cs[k]).vec.length d1) := cen_cell (hc 0 (by decide))
      have HS := hide (nearK_step cs q k hlt)
      obtain ⟨hm1, hm2, -, -⟩ := nearK_right (unhide HA) (unhide HV) k hk1 hk
      have hm3 : (nearK cs q k).1 < cs.length := by omega
      rw [getD_at hm3] at hm2
      obtain ⟨row2, hc2, hr2⟩ := Lay.row_at (unhide H) hm3
      obtain ⟨a3, d3, rfl, R2⟩ := open_Center hr2
      have c2 : w.cell? ⟨b, off + (nearK cs q k).1, none⟩ = some (.slice a3 (cs[(nearK cs q k).1]).vec.length d3) := cen_cell (hc2 0 (by decide))
      have hvx := unhide HA cs[k] (List.getElem_mem hlt)
      have hvy := unhide HA cs[(nearK cs q k).1] (List.getElem_mem hm3)
      clear hc hr hc2 hr2
      generalize hx : cs[k] = x at *
      clear hx
      generalize hy : cs[(nearK cs q k).1] = y at *
      clear hy
      generalize hs : nearK cs q k = s at *
      clear hs
      obtain ⟨m, sl⟩ := s
      simp only at hm1 hm2 hm3 c2 ⊢
      have HM2 := hide hm2
      have I1 := hide (Lay.ints_reads R1)
      have I2 := hide (Lay.ints_reads R2)
      have HX := hide hvx
      have HY := hide hvy
      have HB := hide hB
      clear R1 R2 hB hvx hvy hm2
      have i1 : (0 : Int) ≤ (k : Int) := by omega
      have i2 : (k : Int) < (cs.length : Int) := by omega
      have i3 : (0 : Int) ≤ (m : Int) := by omega
      have i4 : (m : Int) < (cs.length : Int) := by omega
      go_wp2_with fail
      refine wp_region_noPanic ?_
      refine wp_region_held_drew (S := fun w' => Below w.heap.size w w') (by kernel_rfl) (unhide HB).drew (fun hHeld => ?_)
      generalize wr.drew = wD at hHeld ⊢
      refine wpAnyH_take (i := 0) (oi := { dst := some 13, op := Go.Op.move (Go.Operand.tmp 0), type := 24, pos := "l06_center.go:24", after := #[], guard := none }) (v := ?v0) rfl (by kernel_rfl) (by kernel_rfl) (by kernel_rfl) (fun _ _ _ h => h) (Or.inl ⟨by rfl, ?h0⟩) hHeld ?r0
      case h0 =>
        intro wS hSw
        (try dsimp only at hSw)
        go_simp
        try with_reducible rfl
      case r0 =>
      simp only [Act.put, List.setIfInBounds_toArray, List.set_cons_zero, List.set_cons_succ]
      refine wpAnyH_take (i := 1) (oi := { dst := some 14, op := Go.Op.move (Go.Operand.tmp 6), type := 3, pos := "l06_center.go:24", after := #[], guard := none }) (v := ?v1) rfl (by kernel_rfl) (by kernel_rfl) (by kernel_rfl) (fun _ _ _ h => h) (Or.inl ⟨by rfl, ?h1⟩) hHeld ?r1
      case h1 =>
        intro wS hSw
        (try dsimp only at hSw)
        go_simp
        try with_reducible rfl
      case r1 =>
      simp only [Act.put, List.setIfInBounds_toArray, List.set_cons_zero, List.set_cons_succ]
      refine wpAnyH_take (i := 2) (oi := { dst := some 15, op := Go.Op.indexAddr 24 (Go.Operand.tmp 13) (Go.Operand.tmp 14), type := 0, pos := "l06_center.go:24", after := #[{ on := 0, ground := Go.Ground.data }, { on := 1, ground := Go.Ground.data }], guard := none }) (v := ?v2) rfl (by kernel_rfl) (by kernel_rfl) (by kernel_rfl) (fun _ _ _ h => h) (Or.inl ⟨by rfl, ?h2⟩) hHeld ?r2
      case h2 =>
        intro wS hSw
        (try dsimp only at hSw)
        go_simp
        try with_reducible rfl
      case r2 =>
      simp only [Act.put, List.setIfInBounds_toArray, List.set_cons_zero, List.set_cons_succ]
      refine wpAnyH_take (i := 3) (oi := { dst := some 16, op := Go.Op.fieldAddr 145 (Go.Operand.tmp 15) 0, type := 0, pos := "l06_center.go:24", after := #[{ on := 2, ground := Go.Ground.data }], guard := none }) (v := ?v3) rfl (by kernel_rfl) (by kernel_rfl) (by kernel_rfl) (fun _ _ _ h => h) (Or.inl ⟨by rfl, ?h3⟩) hHeld ?r3
      case h3 =>
        intro wS hSw
        (try dsimp only at hSw)
        go_simp
        try with_reducible rfl
      case r3 =>
      simp only [Act.put, List.setIfInBounds_toArray, List.set_cons_zero, List.set_cons_succ]
      refine wpAnyH_take (i := 4) (oi := { dst := some 17, op := Go.Op.load 28 (Go.Operand.tmp 16), type := 28, pos := "l06_center.go:24", after := #[{ on := 3, ground := Go.Ground.data }], guard := none }) (v := ?v4) rfl (by kernel_rfl) (by kernel_rfl) (by kernel_rfl) (fun _ _ _ h => h) (Or.inl ⟨by rfl, ?h4⟩) hHeld ?r4
      case h4 =>
        intro wS hSw
        have y1 := (hSw.cell (p := ⟨b, off + k, none⟩) hbl).trans c1
        clear hSw
        (try dsimp only at hSw)
        go_simp
        try with_reducible rfl
      case r4 =>
      simp only [Act.put, List.setIfInBounds_toArray, List.set_cons_zero, List.set_cons_succ]
      refine wpAnyH_take (i := 5) (oi := { dst := some 18, op := Go.Op.move (Go.Operand.tmp 1), type := 28, pos := "l06_center.go:24", after := #[], guard := none }) (v := ?v5) rfl (by kernel_rfl) (by kernel_rfl) (by kernel_rfl) (fun _ _ _ h => h) (Or.inl ⟨by rfl, ?h5⟩) hHeld ?r5
      case h5 =>
        intro wS hSw
        (try dsimp only at hSw)
        go_simp
        try with_reducible rfl
      case r5 =>
      simp only [Act.put, List.setIfInBounds_toArray, List.set_cons_zero, List.set_cons_succ]
      refine wpAnyH_take (i := 7) (oi := { dst := some 20, op := Go.Op.move (Go.Operand.tmp 0), type := 24, pos := "l06_center.go:24", after := #[], guard := none }) (v := ?v7) rfl (by kernel_rfl) (by kernel_rfl) (by kernel_rfl) (fun _ _ _ h => h) (Or.inl ⟨by rfl, ?h7⟩) hHeld ?r7
      case h7 =>
        intro wS hSw
        (try dsimp only at hSw)
        go_simp
        try with_reducible rfl
      case r7 =>
      simp only [Act.put, List.setIfInBounds_toArray, List.set_cons_zero, List.set_cons_succ]
      refine wpAnyH_take (i := 8) (oi := { dst := some 21, op := Go.Op.move (Go.Operand.tmp 5), type := 3, pos := "l06_center.go:24", after := #[], guard := none }) (v := ?v8) rfl (by kernel_rfl) (by kernel_rfl) (by kernel_rfl) (fun _ _ _ h => h) (Or.inl ⟨by rfl, ?h8⟩) hHeld ?r8
      case h8 =>
        intro wS hSw
        (try dsimp only at hSw)
        go_simp
        try with_reducible rfl
      case r8 =>
      simp only [Act.put, List.setIfInBounds_toArray, List.set_cons_zero, List.set_cons_succ]
      refine wpAnyH_take (i := 9) (oi := { dst := some 22, op := Go.Op.indexAddr 24 (Go.Operand.tmp 20) (Go.Operand.tmp 21), type := 0, pos := "l06_center.go:24", after := #[{ on := 7, ground := Go.Ground.data }, { on := 8, ground := Go.Ground.data }], guard := none }) (v := ?v9) rfl (by kernel_rfl) (by kernel_rfl) (by kernel_rfl) (fun _ _ _ h => h) (Or.inl ⟨by rfl, ?h9⟩) hHeld ?r9
      case h9 =>
        intro wS hSw
        (try dsimp only at hSw)
        go_simp
        try with_reducible rfl
      case r9 =>
      simp only [Act.put, List.setIfInBounds_toArray, List.set_cons_zero, List.set_cons_succ]
      refine wpAnyH_take (i := 10) (oi := { dst := some 23, op := Go.Op.fieldAddr 145 (Go.Operand.tmp 22) 0, type := 0, pos := "l06_center.go:24", after := #[{ on := 9, ground := Go.Ground.data }], guard := none }) (v := ?v10) rfl (by kernel_rfl) (by kernel_rfl) (by kernel_rfl) (fun _ _ _ h => h) (Or.inl ⟨by rfl, ?h10⟩) hHeld ?r10
      case h10 =>
        intro wS hSw
        (try dsimp only at hSw)
        go_simp
        try with_reducible rfl
      case r10 =>
      simp only [Act.put, List.setIfInBounds_toArray, List.set_cons_zero, List.set_cons_succ]
      refine wpAnyH_take (i := 11) (oi := { dst := some 24, op := Go.Op.load 28 (Go.Operand.tmp 23), type := 28, pos := "l06_center.go:24", after := #[{ on := 10, ground := Go.Ground.data }], guard := none }) (v := ?v11) rfl (by kernel_rfl) (by kernel_rfl) (by kernel_rfl) (fun _ _ _ h => h) (Or.inl ⟨by rfl, ?h11⟩) hHeld ?r11
      case h11 =>
        intro wS hSw
        have y1 := (hSw.cell (p := ⟨b, off + m, none⟩) hbl).trans c2
        clear hSw
        (try dsimp only at hSw)
        go_simp
        try with_reducible rfl
      case r11 =>
      simp only [Act.put, List.setIfInBounds_toArray, List.set_cons_zero, List.set_cons_succ]
      refine wpAnyH_take (i := 12) (oi := { dst := some 25, op := Go.Op.move (Go.Operand.tmp 1), type := 28, pos := "l06_center.go:24", after := #[], guard := none }) (v := ?v12) rfl (by kernel_rfl) (by kernel_rfl) (by kernel_rfl) (fun _ _ _ h => h) (Or.inl ⟨by rfl, ?h12⟩) hHeld ?r12
      case h12 =>
        intro wS hSw
        (try dsimp only at hSw)
        go_simp
        try with_reducible rfl
      case r12 =>
      simp only [Act.put, List.setIfInBounds_toArray, List.set_cons_zero, List.set_cons_succ]
      refine wpAnyH_ready (rs := [6]) (by kernel_rfl) (by simp) ?_
      refine AllReadyH.cons (o := { dst := some 19, op := Go.Op.call { callee := Go.Callee.value (Go.Operand.func 96), args := #[Go.Operand.tmp 17, Go.Operand.tmp 18], argTypes := #[28, 28] }, type := 2, pos := "l06_center.go:24", after := #[{ on := 4, ground := Go.Ground.data }, { on := 5, ground := Go.Ground.data }], guard := none }) rfl (fun K hK => ?_) AllReadyH.nil
      go_simp
      go_at_call 96
      refine (modelScore3 _ _ x.vec q _ ((unhide I1).later hHeld) ((unhide HQ).later hHeld) (unhide HX) (unhide HV)).mono ?_
      rintro e w3 ⟨rfl, hbw⟩
      try go_wp2_with fail
      refine hK.out _ _ (hHeld.trans (hbw.mono hHeld.size)) (fun hHeld => ?_)
      clear hK K
      try simp only [Act.put, List.setIfInBounds_toArray, List.set_cons_zero, List.set_cons_succ]
      refine wpAnyH_ready (rs := [13]) (by kernel_rfl) (by simp) ?_
      refine AllReadyH.cons (o := { dst := some 26, op := Go.Op.call { callee := Go.Callee.value (Go.Operand.func 96), args := #[Go.Operand.tmp 24, Go.Operand.tmp 25], argTypes := #[28, 28] }, type := 2, pos := "l06_center.go:24", after := #[{ on := 11, ground := Go.Ground.data }, { on := 12, ground := Go.Ground.data }, { on := 6, ground := Go.Ground.chain }], guard := none }) rfl (fun K hK => ?_) AllReadyH.nil
      go_simp
      go_at_call 96
      refine (modelScore3 _ _ y.vec q _ ((unhide I2).later hHeld) ((unhide HQ).later hHeld) (unhide HY) (unhide HV)).mono ?_
      rintro e w3 ⟨rfl, hbw⟩
      try go_wp2_with fail
      refine hK.out _ _ (hHeld.trans (hbw.mono hHeld.size)) (fun hHeld => ?_)
      clear hK K
      try simp only [Act.put, List.setIfInBounds_toArray, List.set_cons_zero, List.set_cons_succ]
      refine wpAnyH_take (i := 14) (oi := { dst := some 27, op := Go.Op.binOp Go.BinOp.lss 2 (Go.Operand.tmp 19) (Go.Operand.tmp 26) 2, type := 4, pos := "l06_center.go:24", after := #[{ on := 6, ground := Go.Ground.data }, { on := 13, ground := Go.Ground.data }], guard := none }) (v := ?v14) rfl (by kernel_rfl) (by kernel_rfl) (by kernel_rfl) (fun _ _ _ h => h) (Or.inl ⟨by rfl, ?h14⟩) hHeld ?r14
      case h14 =>
        intro wS hSw
        (try dsimp only at hSw)
        go_simp
        try with_reducible rfl
      case r14 =>
      simp only [Act.put, List.setIfInBounds_toArray, List.set_cons_zero, List.set_cons_succ]
      refine wpAnyH_done (by kernel_rfl) ?_ _
      refine NoPanic.normal ?_
      have HB3 := hide hHeld
      clear hHeld c1 c2 HB I1 I2
      have hS2 := unhide HS
      rw [unhide HM2] at hS2
      have HS2 := hide hS2
      clear hS2 HS
      cases hd : decide (score3 x.vec q < score3 y.vec q) with
      | true =>
        have HS3 : Hid (nearK cs q (k + 1) = (k, score3 x.vec q)) := (unhide HS2).trans (if_pos (by simpa using hd))
        clear HS2
        go_wp2_with fail
        go_roundw
        case rel => exact ⟨k + 1, by omega, by omega, by go_num, by rw [unhide HS3], unhide HB3⟩
        case measure => simp [intOf]; omega
      | false =>
        have HS3 : Hid (nearK cs q (k + 1) = (m, score3 y.vec q)) := (unhide HS2).trans (if_neg (by simpa using hd))
        clear HS2
        go_wp2_with fail
        go_roundw
        case rel => exact ⟨k + 1, by omega, by omega, by go_num, by rw [unhide HS3], unhide HB3⟩
        case measure => simp [intOf]; omega
    · obtain rfl : k = cs.length := by omega
      have HB := hide hB
      clear hB H
      go_wp2_with fail
      go_ret
      exact ⟨rfl, unhide HB⟩

theorem specNear (v : Value) (cs : List DCenter) (vq : Value) (q : List Int) (w : World) (h : (Lay.sl Lay.tCenter).Reads w [v] cs) (hq : IsInts w vq q) (hc : centersFault cs = 0) (hv : vecFault q = 0) :
    Calls Tryz.prog 107 #[v, vq] w fun e w' => e = .returned (.int .i64 (near cs q : Nat)) ∧ Below w.heap.size w w' := by
  obtain ⟨ao, cap, rfl⟩ := open_sl h
  have hvq : ∃ a d, vq = .slice a q.length d := by obtain ⟨a, d, e, -⟩ := hq; exact ⟨a, d, e⟩
  obtain ⟨a2, d2, rfl⟩ := hvq
  obtain ⟨b, off, rfl, hbl⟩ := Lay.sl_addr h (centersFault_zero hc).1.1
  exact specNear_pos b off cap cs a2 d2 q w h hbl hq hc hv

end Go.Proofs.YtggnnbdjihihiaaGreat
