/-
  Centers in plain words: what is wrong with them, the nearest one, assigned items, costs, means, training.
  No program is named here.
-/
import Derived.Test.YtjofcmdlcoganaaLayCenter
import Derived.Test.YtjofcmdlcoganaaLayCentersResult
import Derived.Test.YtjofcmdlcoganaaTabGround
import Derived.Test.YtjofcmdlcoganaaCenScore
import Derived.Test.YtjofcmdlcoganaaMeanPlain
namespace Go.Proofs.Ytjofcmdlcoganaa
open Go.RowKit

def cenFrom : List DCenter → Int
  | [] => 0
  | c :: cs => if vecFault c.vec = 0 then cenFrom cs else vecFault c.vec
def centersFault (cs : List DCenter) : Int := if cs.length < 1 ∨ 6 < cs.length then 2 else cenFrom cs
theorem cenFrom_step (cs : List DCenter) (k : Nat) (h : k < cs.length) : cenFrom (cs.drop k) = if vecFault cs[k].vec = 0 then cenFrom (cs.drop (k + 1)) else vecFault cs[k].vec := by
  rw [List.drop_eq_getElem_cons h]
  rfl
theorem cenFrom_zero {cs : List DCenter} (h : cenFrom cs = 0) : ∀ c ∈ cs, vecFault c.vec = 0 := by
  induction cs with
  | nil => simp
  | cons c cs ih =>
    rw [cenFrom] at h
    by_cases h1 : vecFault c.vec = 0
    · rw [if_pos h1] at h
      intro d hd
      rcases List.mem_cons.1 hd with rfl | hd
      · exact h1
      · exact ih h d hd
    · rw [if_neg h1] at h; exact absurd h h1
theorem cenFrom_of {cs : List DCenter} (h : ∀ c ∈ cs, vecFault c.vec = 0) : cenFrom cs = 0 := by
  induction cs with
  | nil => rfl
  | cons c cs ih => rw [cenFrom, if_pos (h c (by simp))]; exact ih fun d hd => h d (List.mem_cons_of_mem _ hd)
theorem centersFault_zero {cs : List DCenter} (h : centersFault cs = 0) : (1 ≤ cs.length ∧ cs.length ≤ 6) ∧ ∀ c ∈ cs, vecFault c.vec = 0 := by
  unfold centersFault at h
  by_cases hn : cs.length < 1 ∨ 6 < cs.length
  · rw [if_pos hn] at h; cases h
  · rw [if_neg hn] at h
    exact ⟨by omega, cenFrom_zero h⟩
theorem centersFault_of {cs : List DCenter} (h1 : 1 ≤ cs.length ∧ cs.length ≤ 6) (h2 : ∀ c ∈ cs, vecFault c.vec = 0) : centersFault cs = 0 := by
  unfold centersFault
  rw [if_neg (by omega)]
  exact cenFrom_of h2
theorem vecFault_bd (q : List Int) : 0 ≤ vecFault q ∧ vecFault q ≤ 3 := by unfold vecFault; split <;> (try split) <;> decide
theorem centersFault_bd (cs : List DCenter) : 0 ≤ centersFault cs ∧ centersFault cs ≤ 3 := by
  unfold centersFault
  split
  · decide
  · induction cs with
    | nil => decide
    | cons c cs ih =>
      rw [cenFrom]
      split
      · by_cases h : cs.length < 1 ∨ 6 < cs.length
        · have hc : cs = [] ∨ 6 < cs.length := by
            rcases h with h | h
            · exact Or.inl (List.eq_nil_of_length_eq_zero (by omega))
            · exact Or.inr h
          rcases hc with rfl | hc
          · decide
          · rename_i h1 _
            simp only [List.length_cons] at h1
            omega
        · exact ih h
      · exact vecFault_bd _
theorem centersFault_wf (cs : List DCenter) : (Lit.int .i64 (centersFault cs)).wf = true := wf_of_bd (by have := centersFault_bd cs; omega)

/-- The nearest among the first k, and its score. -/
def nearK (cs : List DCenter) (v : List Int) : Nat → Nat × Int
  | 0 => (0, 12000001)
  | k + 1 => if score3 (cs.getD k ⟨[]⟩).vec v < (nearK cs v k).2 then (k, score3 (cs.getD k ⟨[]⟩).vec v) else nearK cs v k
def near (cs : List DCenter) (v : List Int) : Nat := (nearK cs v cs.length).1
def nearS (cs : List DCenter) (v : List Int) : Int := (nearK cs v cs.length).2
theorem getD_at {α : Type} {xs : List α} {k : Nat} (h : k < xs.length) (d : α) : xs.getD k d = xs[k] := by simp [List.getD, h]
theorem nearK_step (cs : List DCenter) (v : List Int) (k : Nat) (h : k < cs.length) : nearK cs v (k + 1) = if score3 cs[k].vec v < (nearK cs v k).2 then (k, score3 cs[k].vec v) else nearK cs v k := by
  rw [nearK, getD_at h]
theorem nearK_right {cs : List DCenter} {v : List Int} (hc : ∀ c ∈ cs, vecFault c.vec = 0) (hv : vecFault v = 0) (k : Nat) (h1 : 1 ≤ k) (h2 : k ≤ cs.length) :
    (nearK cs v k).1 < k ∧ (nearK cs v k).2 = score3 (cs.getD (nearK cs v k).1 ⟨[]⟩).vec v ∧ 0 ≤ (nearK cs v k).2 ∧ (nearK cs v k).2 ≤ 12000000 := by
  induction k with
  | zero => omega
  | succ k ih =>
    have hk : k < cs.length := by omega
    have hs := cscore_bd (hc cs[k] (List.getElem_mem hk)) hv
    rw [nearK_step cs v k hk]
    by_cases hl : score3 cs[k].vec v < (nearK cs v k).2
    · rw [if_pos hl]
      refine ⟨by simp, ?_, hs.1, hs.2⟩
      simp only [getD_at hk]
    · rw [if_neg hl]
      have hk0 : 1 ≤ k := by
        apply Nat.succ_le_of_lt
        apply Nat.pos_of_ne_zero
        rintro rfl
        simp only [nearK] at hl
        omega
      obtain ⟨a, b, c⟩ := ih hk0 (by omega)
      exact ⟨by omega, b, c⟩
theorem nearK_bd {cs : List DCenter} {v : List Int} (hc : ∀ c ∈ cs, vecFault c.vec = 0) (hv : vecFault v = 0) (k : Nat) (h2 : k ≤ cs.length) : 0 ≤ (nearK cs v k).2 ∧ (nearK cs v k).2 ≤ 12000001 ∧ (nearK cs v k).1 ≤ k := by
  by_cases h : 1 ≤ k
  · obtain ⟨a, -, b, c⟩ := nearK_right hc hv k h h2
    omega
  · obtain rfl : k = 0 := by omega
    simp [nearK]
theorem near_lt {cs : List DCenter} {v : List Int} (hc : centersFault cs = 0) (hv : vecFault v = 0) : near cs v < cs.length := by
  obtain ⟨⟨a, b⟩, c⟩ := centersFault_zero hc
  exact (nearK_right c hv cs.length a (Nat.le_refl _)).1
theorem nearS_eq {cs : List DCenter} {v : List Int} (hc : centersFault cs = 0) (hv : vecFault v = 0) (h : near cs v < cs.length) : nearS cs v = score3 (cs[near cs v]).vec v ∧ 0 ≤ nearS cs v ∧ nearS cs v ≤ 12000000 := by
  obtain ⟨⟨a, b⟩, c⟩ := centersFault_zero hc
  obtain ⟨-, e, b1, b2⟩ := nearK_right c hv cs.length a (Nat.le_refl _)
  refine ⟨?_, b1, b2⟩
  rw [← getD_at h ⟨[]⟩]
  exact e

/-- The places of the nearest centers. -/
def placesL (cs : List DCenter) (xs : List DItem) : List Int := xs.map fun x => (near cs x.vec : Int)
/-- The cost of the first k items. -/
def costK (cs : List DCenter) (xs : List DItem) : Nat → Int
  | 0 => 0
  | k + 1 => costK cs xs k + nearS cs (xs.getD k ⟨0, []⟩).vec
def cost (cs : List DCenter) (xs : List DItem) : Int := costK cs xs xs.length
theorem costK_step (cs : List DCenter) (xs : List DItem) (k : Nat) (h : k < xs.length) : costK cs xs (k + 1) = costK cs xs k + nearS cs xs[k].vec := by rw [costK, getD_at h]
theorem costK_bd {cs : List DCenter} {xs : List DItem} (hc : centersFault cs = 0) (hx : ∀ x ∈ xs, vecFault x.vec = 0) (k : Nat) (h : k ≤ xs.length) : 0 ≤ costK cs xs k ∧ costK cs xs k ≤ 12000000 * k := by
  induction k with
  | zero => simp [costK]
  | succ k ih =>
    have hk : k < xs.length := by omega
    have i := ih (by omega)
    have s := (nearS_eq hc (hx xs[k] (List.getElem_mem hk)) (near_lt hc (hx xs[k] (List.getElem_mem hk)))).2
    rw [costK_step cs xs k hk]
    omega

/-- How many of the first k items are at place p, and the sums of their parts. -/
def cntK (cs : List DCenter) (xs : List DItem) (p : Nat) : Nat → Int
  | 0 => 0
  | k + 1 => if near cs (xs.getD k ⟨0, []⟩).vec = p then cntK cs xs p k + 1 else cntK cs xs p k
def sumK (cs : List DCenter) (xs : List DItem) (p j : Nat) : Nat → Int
  | 0 => 0
  | k + 1 => if near cs (xs.getD k ⟨0, []⟩).vec = p then sumK cs xs p j k + (xs.getD k ⟨0, []⟩).vec.getD j 0 else sumK cs xs p j k
theorem cntK_step (cs : List DCenter) (xs : List DItem) (p k : Nat) (h : k < xs.length) : cntK cs xs p (k + 1) = if near cs xs[k].vec = p then cntK cs xs p k + 1 else cntK cs xs p k := by rw [cntK, getD_at h]
theorem sumK_step (cs : List DCenter) (xs : List DItem) (p j k : Nat) (h : k < xs.length) : sumK cs xs p j (k + 1) = if near cs xs[k].vec = p then sumK cs xs p j k + xs[k].vec.getD j 0 else sumK cs xs p j k := by rw [sumK, getD_at h]
theorem cntK_bd (cs : List DCenter) (xs : List DItem) (p k : Nat) : 0 ≤ cntK cs xs p k ∧ cntK cs xs p k ≤ k := by
  induction k with
  | zero => simp [cntK]
  | succ k ih =>
    rw [cntK]
    split <;> omega
theorem sumK_bd (cs : List DCenter) {xs : List DItem} (hx : ∀ x ∈ xs, vecFault x.vec = 0) (p j : Nat) (hj : j < 3) (k : Nat) (h : k ≤ xs.length) : -1000 * cntK cs xs p k ≤ sumK cs xs p j k ∧ sumK cs xs p j k ≤ 1000 * cntK cs xs p k := by
  induction k with
  | zero => simp [cntK, sumK]
  | succ k ih =>
    have hk : k < xs.length := by omega
    have i := ih (by omega)
    have b := (vecFault_zero (hx xs[k] (List.getElem_mem hk))).2 j hj
    rw [cntK_step cs xs p k hk, sumK_step cs xs p j k hk]
    split <;> omega
def cnt (cs : List DCenter) (xs : List DItem) (p : Nat) : Int := cntK cs xs p xs.length
def sums (cs : List DCenter) (xs : List DItem) (p : Nat) : List Int := [sumK cs xs p 0 xs.length, sumK cs xs p 1 xs.length, sumK cs xs p 2 xs.length]
/-- Where the center at place p moves to. -/
def meanAt (cs : List DCenter) (xs : List DItem) (p : Nat) : List Int := if cnt cs xs p = 0 then (cs.getD p ⟨[]⟩).vec else meanList (sums cs xs p) (cnt cs xs p)
def moved (cs : List DCenter) (xs : List DItem) : List DCenter := (List.range cs.length).map fun p => ⟨meanAt cs xs p⟩
theorem moved_len (cs : List DCenter) (xs : List DItem) : (moved cs xs).length = cs.length := by simp [moved]
theorem sums_right (cs : List DCenter) {xs : List DItem} (ht : tableFault xs = 0) (p : Nat) (h : cnt cs xs p ≠ 0) : meanFault (sums cs xs p) (cnt cs xs p) = 0 ∧ (1 ≤ cnt cs xs p ∧ cnt cs xs p ≤ 1000) := by
  obtain ⟨hl, ha, -⟩ := tableFault_zero ht
  have hx : ∀ x ∈ xs, vecFault x.vec = 0 := fun x hm => (ha x hm).2
  have hb := cntK_bd cs xs p xs.length
  unfold cnt at h
  have h1 : 1 ≤ cnt cs xs p ∧ cnt cs xs p ≤ 1000 := by unfold cnt; omega
  refine ⟨?_, h1⟩
  unfold meanFault
  rw [if_neg (by omega), if_pos (show (sums cs xs p).length = 3 from rfl), if_pos]
  have s0 := sumK_bd cs hx p 0 (by omega) xs.length (Nat.le_refl _)
  have s1 := sumK_bd cs hx p 1 (by omega) xs.length (Nat.le_refl _)
  have s2 := sumK_bd cs hx p 2 (by omega) xs.length (Nat.le_refl _)
  simp only [sums, List.all_cons, List.all_nil, sumB, cnt, Bool.and_eq_true, decide_eq_true_eq, and_true]
  exact ⟨s0, s1, s2⟩
theorem meanAt_right {cs : List DCenter} {xs : List DItem} (hc : centersFault cs = 0) (ht : tableFault xs = 0) (p : Nat) (hp : p < cs.length) : vecFault (meanAt cs xs p) = 0 := by
  unfold meanAt
  by_cases h : cnt cs xs p = 0
  · rw [if_pos h, getD_at hp]
    exact (centersFault_zero hc).2 _ (List.getElem_mem hp)
  · rw [if_neg h]
    obtain ⟨h1, h2, h3⟩ := sums_right cs ht p h
    obtain ⟨-, x, y, z, e, ⟨x1, x2⟩, ⟨y1, y2⟩, ⟨z1, z2⟩⟩ := meanFault_zero h1
    rw [meanList, if_pos h1, e]
    have b1 := mean_bd x _ h2 x1 x2
    have b2 := mean_bd y _ h2 y1 y2
    have b3 := mean_bd z _ h2 z1 z2
    refine vecFault_ok rfl fun j hj => ?_
    match j, hj with
    | 0, _ => simp only [List.getD_cons_zero, partB, Bool.and_eq_true, decide_eq_true_eq]; exact b1
    | 1, _ => simp only [List.getD_cons_zero, List.getD_cons_succ, partB, Bool.and_eq_true, decide_eq_true_eq]; exact b2
    | 2, _ => simp only [List.getD_cons_zero, List.getD_cons_succ, partB, Bool.and_eq_true, decide_eq_true_eq]; exact b3
theorem moved_right {cs : List DCenter} {xs : List DItem} (hc : centersFault cs = 0) (ht : tableFault xs = 0) : centersFault (moved cs xs) = 0 := by
  refine centersFault_of (by rw [moved_len]; exact (centersFault_zero hc).1) fun c hm => ?_
  obtain ⟨p, hp, rfl⟩ := List.mem_map.1 hm
  exact meanAt_right hc ht p (List.mem_range.1 hp)
theorem moved_take (cs : List DCenter) (xs : List DItem) (k : Nat) (hk : k < cs.length) : (moved cs xs).take (k + 1) = (moved cs xs).take k ++ [⟨meanAt cs xs k⟩] := by
  rw [List.take_succ_eq_append_getElem (by rw [moved_len]; exact hk)]
  simp [moved]

/-! ### Training -/
def seedB (s : Int) : Bool := decide (0 ≤ s) && decide (s ≤ 9999)
def trainFault (xs : List DItem) (seeds : List Int) (rounds : Int) : Int :=
  if tableFault xs = 0 then (if xs.length = 0 then 4 else if seeds.length < 1 ∨ 6 < seeds.length then 2 else if (decide (0 ≤ rounds) && decide (rounds ≤ 20)) then (if seeds.all seedB then 0 else 3) else 3) else tableFault xs
def seedC (xs : List DItem) (s : Int) : DCenter := ⟨(xs.getD (s.toNat % xs.length) ⟨0, []⟩).vec⟩
def seedCs (xs : List DItem) (seeds : List Int) : List DCenter := seeds.map (seedC xs)
def trainN (xs : List DItem) : Nat → List DCenter → List DCenter
  | 0, cs => cs
  | r + 1, cs => if cost cs xs ≤ cost (moved cs xs) xs then cs else trainN xs r (moved cs xs)
def trainR (xs : List DItem) (seeds : List Int) (rounds : Int) : DCentersResult :=
  if trainFault xs seeds rounds = 0 then ⟨0, trainN xs rounds.toNat (seedCs xs seeds)⟩ else ⟨trainFault xs seeds rounds, []⟩
theorem seedCs_right {xs : List DItem} {seeds : List Int} (ht : tableFault xs = 0) (h0 : xs.length ≠ 0) (hs : 1 ≤ seeds.length ∧ seeds.length ≤ 6) : centersFault (seedCs xs seeds) = 0 := by
  refine centersFault_of (by simpa [seedCs] using hs) fun c hm => ?_
  obtain ⟨s, -, rfl⟩ := List.mem_map.1 hm
  have hl : s.toNat % xs.length < xs.length := Nat.mod_lt _ (by omega)
  show vecFault (xs.getD (s.toNat % xs.length) ⟨0, []⟩).vec = 0
  rw [getD_at hl]
  exact ((tableFault_zero ht).2.1 _ (List.getElem_mem hl)).2
theorem trainN_right {xs : List DItem} (ht : tableFault xs = 0) (r : Nat) (cs : List DCenter) (hc : centersFault cs = 0) : centersFault (trainN xs r cs) = 0 ∧ (trainN xs r cs).length = cs.length ∧ cost (trainN xs r cs) xs ≤ cost cs xs := by
  induction r generalizing cs with
  | zero => exact ⟨hc, rfl, Int.le_refl _⟩
  | succ r ih =>
    rw [trainN]
    split
    · exact ⟨hc, rfl, Int.le_refl _⟩
    · obtain ⟨a, b, c⟩ := ih (moved cs xs) (moved_right hc ht)
      rename_i hlt
      exact ⟨a, by rw [b, moved_len], by omega⟩
theorem trainFault_bd (xs : List DItem) (seeds : List Int) (rounds : Int) (h : 0 ≤ tableFault xs ∧ tableFault xs ≤ 9) : 0 ≤ trainFault xs seeds rounds ∧ trainFault xs seeds rounds ≤ 9 := by
  unfold trainFault
  split
  · split
    · decide
    · split
      · decide
      · split
        · split <;> decide
        · decide
  · exact h

end Go.Proofs.Ytjofcmdlcoganaa
