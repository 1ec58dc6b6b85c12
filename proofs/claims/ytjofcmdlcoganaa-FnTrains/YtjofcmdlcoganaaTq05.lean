/-
  Texts of this proof in one: CenPlain, CenRow, ImplCen, LayIntResult, CenRes, TrainPlain, CenFill, ImplClone, ImplTrainF, CenScoreC, ImplNear, SumPlain, ImplPlus, ImplTellExt.
  Their conditions stand in their theorems.
-/
import Derived.Test.YtjofcmdlcoganaaTq04
import Derived.Test.YtjofcmdlcoganaaTq02
import Derived.Test.YtjofcmdlcoganaaTq01
import Derived.Test.YtjofcmdlcoganaaChecked
import Derived.BigQuiet
import Derived.Deep.QuietTactic
import Derived.WalkSmall

namespace Go.Proofs.Ytjofcmdlcoganaa
open Go.RowKit

def cenFrom : List DCenter → Int
  | [] => 0
  | c :: cs => if vecFault c.vec = 0 then cenFrom cs else vecFault c.vec
def centersFault (cs : List DCenter) : Int := if cs.length < 1 ∨ 6 < cs.length then 2 else cenFrom cs
theorem cenFrom_step (cs : List DCenter) (k : Nat) (h : k < cs.length) : cenFrom (cs.drop k) = if vecFault cs[k].vec = 0 then cenFrom (cs.drop (k + 1)) else vecFault cs[k].vec := by
  rw [List.drop_eq_getElem_cons h]
  rfl
theorem cenFrom_zero {cs : List DCenter} (h : cenFrom cs = 0) : ∀ c ∈ cs, vecFault c.vec = 0 := by
  induction cs with
  | nil => simp
  | cons c cs ih =>
    rw [cenFrom] at h
    by_cases h1 : vecFault c.vec = 0
    · rw [if_pos h1] at h
      intro d hd
      rcases List.mem_cons.1 hd with rfl | hd
      · exact h1
      · exact ih h d hd
    · rw [if_neg h1] at h; exact absurd h h1
theorem cenFrom_of {cs : List DCenter} (h : ∀ c ∈ cs, vecFault c.vec = 0) : cenFrom cs = 0 := by
  induction cs with
  | nil => rfl
  | cons c cs ih => rw [cenFrom, if_pos (h c (by simp))]; exact ih fun d hd => h d (List.mem_cons_of_mem _ hd)
theorem centersFault_zero {cs : List DCenter} (h : centersFault cs = 0) : (1 ≤ cs.length ∧ cs.length ≤ 6) ∧ ∀ c ∈ cs, vecFault c.vec = 0 := by
  unfold centersFault at h
  by_cases hn : cs.length < 1 ∨ 6 < cs.length
  · rw [if_pos hn] at h; cases h
  · rw [if_neg hn] at h
    exact ⟨by omega, cenFrom_zero h⟩
theorem centersFault_of {cs : List DCenter} (h1 : 1 ≤ cs.length ∧ cs.length ≤ 6) (h2 : ∀ c ∈ cs, vecFault c.vec = 0) : centersFault cs = 0 := by
  unfold centersFault
  rw [if_neg (by omega)]
  exact cenFrom_of h2
theorem vecFault_bd (q : List Int) : 0 ≤ vecFault q ∧ vecFault q ≤ 3 := by unfold vecFault; split <;> (try split) <;> decide
theorem centersFault_bd (cs : List DCenter) : 0 ≤ centersFault cs ∧ centersFault cs ≤ 3 := by
  unfold centersFault
  split
  · decide
  · induction cs with
    | nil => decide
    | cons c cs ih =>
      rw [cenFrom]
      split
      · by_cases h : cs.length < 1 ∨ 6 < cs.length
        · have hc : cs = [] ∨ 6 < cs.length := by
            rcases h with h | h
            · exact Or.inl (List.eq_nil_of_length_eq_zero (by omega))
            · exact Or.inr h
          rcases hc with rfl | hc
          · decide
          · rename_i h1 _
            simp only [List.length_cons] at h1
            omega
        · exact ih h
      · exact vecFault_bd _
theorem centersFault_wf (cs : List DCenter) : (Lit.int .i64 (centersFault cs)).wf = true := wf_of_bd (by have := centersFault_bd cs; omega)

/-- The nearest among the first k, and its score. -/
def nearK (cs : List DCenter) (v : List Int) : Nat → Nat × Int
  | 0 => (0, 12000001)
  | k + 1 => if score3 (cs.getD k ⟨[]⟩).vec v < (nearK cs v k).2 then (k, score3 (cs.getD k ⟨[]⟩).vec v) else nearK cs v k
def near (cs : List DCenter) (v : List Int) : Nat := (nearK cs v cs.length).1
def nearS (cs : List DCenter) (v : List Int) : Int := (nearK cs v cs.length).2
theorem getD_at {α : Type} {xs : List α} {k : Nat} (h : k < xs.length) (d : α) : xs.getD k d = xs[k] := by simp [List.getD, h]
theorem nearK_step (cs : List DCenter) (v : List Int) (k : Nat) (h : k < cs.length) : nearK cs v (k + 1) = if score3 cs[k].vec v < (nearK cs v k).2 then (k, score3 cs[k].vec v) else nearK cs v k := by
  rw [nearK, getD_at h]
theorem nearK_right {cs : List DCenter} {v : List Int} (hc : ∀ c ∈ cs, vecFault c.vec = 0) (hv : vecFault v = 0) (k : Nat) (h1 : 1 ≤ k) (h2 : k ≤ cs.length) :
    (nearK cs v k).1 < k ∧ (nearK cs v k).2 = score3 (cs.getD (nearK cs v k).1 ⟨[]⟩).vec v ∧ 0 ≤ (nearK cs v k).2 ∧ (nearK cs v k).2 ≤ 12000000 := by
  induction k with
  | zero => omega
  | succ k ih =>
    have hk : k < cs.length := by omega
    have hs := cscore_bd (hc cs[k] (List.getElem_mem hk)) hv
    rw [nearK_step cs v k hk]
    by_cases hl : score3 cs[k].vec v < (nearK cs v k).2
    · rw [if_pos hl]
      refine ⟨by simp, ?_, hs.1, hs.2⟩
      simp only [getD_at hk]
    · rw [if_neg hl]
      have hk0 : 1 ≤ k := by
        apply Nat.succ_le_of_lt
        apply Nat.pos_of_ne_zero
        rintro rfl
        simp only [nearK] at hl
        omega
      obtain ⟨a, b, c⟩ := ih hk0 (by omega)
      exact ⟨by omega, b, c⟩
theorem nearK_bd {cs : List DCenter} {v : List Int} (hc : ∀ c ∈ cs, vecFault c.vec = 0) (hv : vecFault v = 0) (k : Nat) (h2 : k ≤ cs.length) : 0 ≤ (nearK cs v k).2 ∧ (nearK cs v k).2 ≤ 12000001 ∧ (nearK cs v k).1 ≤ k := by
  by_cases h : 1 ≤ k
  · obtain ⟨a, -, b, c⟩ := nearK_right hc hv k h h2
    omega
  · obtain rfl : k = 0 := by omega
    simp [nearK]
theorem near_lt {cs : List DCenter} {v : List Int} (hc : centersFault cs = 0) (hv : vecFault v = 0) : near cs v < cs.length := by
  obtain ⟨⟨a, b⟩, c⟩ := centersFault_zero hc
  exact (nearK_right c hv cs.length a (Nat.le_refl _)).1
theorem nearS_eq {cs : List DCenter} {v : List Int} (hc : centersFault cs = 0) (hv : vecFault v = 0) (h : near cs v < cs.length) : nearS cs v = score3 (cs[near cs v]).vec v ∧ 0 ≤ nearS cs v ∧ nearS cs v ≤ 12000000 := by
  obtain ⟨⟨a, b⟩, c⟩ := centersFault_zero hc
  obtain ⟨-, e, b1, b2⟩ := nearK_right c hv cs.length a (Nat.le_refl _)
  refine ⟨?_, b1, b2⟩
  rw [← getD_at h ⟨[]⟩]
  exact e

/-- The places of the nearest centers. -/
def placesL (cs : List DCenter) (xs : List DItem) : List Int := xs.map fun x => (near cs x.vec : Int)
/-- The cost of the first k items. -/
def costK (cs : List DCenter) (xs : List DItem) : Nat → Int
  | 0 => 0
  | k + 1 => costK cs xs k + nearS cs (xs.getD k ⟨0, []⟩).vec
def cost (cs : List DCenter) (xs : List DItem) : Int := costK cs xs xs.length
theorem costK_step (cs : List DCenter) (xs : List DItem) (k : Nat) (h : k < xs.length) : costK cs xs (k + 1) = costK cs xs k + nearS cs xs[k].vec := by rw [costK, getD_at h]
theorem costK_bd {cs : List DCenter} {xs : List DItem} (hc : centersFault cs = 0) (hx : ∀ x ∈ xs, vecFault x.vec = 0) (k : Nat) (h : k ≤ xs.length) : 0 ≤ costK cs xs k ∧ costK cs xs k ≤ 12000000 * k := by
  induction k with
  | zero => simp [costK]
  | succ k ih =>
    have hk : k < xs.length := by omega
    have i := ih (by omega)
    have s := (nearS_eq hc (hx xs[k] (List.getElem_mem hk)) (near_lt hc (hx xs[k] (List.getElem_mem hk)))).2
    rw [costK_step cs xs k hk]
    omega

/-- How many of the first k items are at place p, and the sums of their parts. -/
def cntK (cs : List DCenter) (xs : List DItem) (p : Nat) : Nat → Int
  | 0 => 0
  | k + 1 => if near cs (xs.getD k ⟨0, []⟩).vec = p then cntK cs xs p k + 1 else cntK cs xs p k
def sumK (cs : List DCenter) (xs : List DItem) (p j : Nat) : Nat → Int
  | 0 => 0
  | k + 1 => if near cs (xs.getD k ⟨0, []⟩).vec = p then sumK cs xs p j k + (xs.getD k ⟨0, []⟩).vec.getD j 0 else sumK cs xs p j k
theorem cntK_step (cs : List DCenter) (xs : List DItem) (p k : Nat) (h : k < xs.length) : cntK cs xs p (k + 1) = if near cs xs[k].vec = p then cntK cs xs p k + 1 else cntK cs xs p k := by rw [cntK, getD_at h]
theorem sumK_step (cs : List DCenter) (xs : List DItem) (p j k : Nat) (h : k < xs.length) : sumK cs xs p j (k + 1) = if near cs xs[k].vec = p then sumK cs xs p j k + xs[k].vec.getD j 0 else sumK cs xs p j k := by rw [sumK, getD_at h]
theorem cntK_bd (cs : List DCenter) (xs : List DItem) (p k : Nat) : 0 ≤ cntK cs xs p k ∧ cntK cs xs p k ≤ k := by
  induction k with
  | zero => simp [cntK]
  | succ k ih =>
    rw [cntK]
    split <;> omega
theorem sumK_bd (cs : List DCenter) {xs : List DItem} (hx : ∀ x ∈ xs, vecFault x.vec = 0) (p j : Nat) (hj : j < 3) (k : Nat) (h : k ≤ xs.length) : -1000 * cntK cs xs p k ≤ sumK cs xs p j k ∧ sumK cs xs p j k ≤ 1000 * cntK cs xs p k := by
  induction k with
  | zero => simp [cntK, sumK]
  | succ k ih =>
    have hk : k < xs.length := by omega
    have i := ih (by omega)
    have b := (vecFault_zero (hx xs[k] (List.getElem_mem hk))).2 j hj
    rw [cntK_step cs xs p k hk, sumK_step cs xs p j k hk]
    split <;> omega
def cnt (cs : List DCenter) (xs : List DItem) (p : Nat) : Int := cntK cs xs p xs.length
def sums (cs : List DCenter) (xs : List DItem) (p : Nat) : List Int := [sumK cs xs p 0 xs.length, sumK cs xs p 1 xs.length, sumK cs xs p 2 xs.length]
/-- Where the center at place p moves to. -/
def meanAt (cs : List DCenter) (xs : List DItem) (p : Nat) : List Int := if cnt cs xs p = 0 then (cs.getD p ⟨[]⟩).vec else meanList (sums cs xs p) (cnt cs xs p)
def moved (cs : List DCenter) (xs : List DItem) : List DCenter := (List.range cs.length).map fun p => ⟨meanAt cs xs p⟩
theorem moved_len (cs : List DCenter) (xs : List DItem) : (moved cs xs).length = cs.length := by simp [moved]
theorem sums_right (cs : List DCenter) {xs : List DItem} (ht : tableFault xs = 0) (p : Nat) (h : cnt cs xs p ≠ 0) : meanFault (sums cs xs p) (cnt cs xs p) = 0 ∧ (1 ≤ cnt cs xs p ∧ cnt cs xs p ≤ 1000) := by
  obtain ⟨hl, ha, -⟩ := tableFault_zero ht
  have hx : ∀ x ∈ xs, vecFault x.vec = 0 := fun x hm => (ha x hm).2
  have hb := cntK_bd cs xs p xs.length
  unfold cnt at h
  have h1 : 1 ≤ cnt cs xs p ∧ cnt cs xs p ≤ 1000 := by unfold cnt; omega
  refine ⟨?_, h1⟩
  unfold meanFault
  rw [if_neg (by omega), if_pos (show (sums cs xs p).length = 3 from rfl), if_pos]
  have s0 := sumK_bd cs hx p 0 (by omega) xs.length (Nat.le_refl _)
  have s1 := sumK_bd cs hx p 1 (by omega) xs.length (Nat.le_refl _)
  have s2 := sumK_bd cs hx p 2 (by omega) xs.length (Nat.le_refl _)
  simp only [sums, List.all_cons, List.all_nil, sumB, cnt, Bool.and_eq_true, decide_eq_true_eq, and_true]
  exact ⟨s0, s1, s2⟩
theorem meanAt_right {cs : List DCenter} {xs : List DItem} (hc : centersFault cs = 0) (ht : tableFault xs = 0) (p : Nat) (hp : p < cs.length) : vecFault (meanAt cs xs p) = 0 := by
  unfold meanAt
  by_cases h : cnt cs xs p = 0
  · rw [if_pos h, getD_at hp]
    exact (centersFault_zero hc).2 _ (List.getElem_mem hp)
  · rw [if_neg h]
    obtain ⟨h1, h2, h3⟩ := sums_right cs ht p h
    obtain ⟨-, x, y, z, e, ⟨x1, x2⟩, ⟨y1, y2⟩, ⟨z1, z2⟩⟩ := meanFault_zero h1
    rw [meanList, if_pos h1, e]
    have b1 := mean_bd x _ h2 x1 x2
    have b2 := mean_bd y _ h2 y1 y2
    have b3 := mean_bd z _ h2 z1 z2
    refine vecFault_ok rfl fun j hj => ?_
    match j, hj with
    | 0, _ => simp only [List.getD_cons_zero, partB, Bool.and_eq_true, decide_eq_true_eq]; exact b1
    | 1, _ => simp only [List.getD_cons_zero, List.getD_cons_succ, partB, Bool.and_eq_true, decide_eq_true_eq]; exact b2
    | 2, _ => simp only [List.getD_cons_zero, List.getD_cons_succ, partB, Bool.and_eq_true, decide_eq_true_eq]; exact b3
theorem moved_right {cs : List DCenter} {xs : List DItem} (hc : centersFault cs = 0) (ht : tableFault xs = 0) : centersFault (moved cs xs) = 0 := by
  refine centersFault_of (by rw [moved_len]; exact (centersFault_zero hc).1) fun c hm => ?_
  obtain ⟨p, hp, rfl⟩ := List.mem_map.1 hm
  exact meanAt_right hc ht p (List.mem_range.1 hp)
theorem moved_take (cs : List DCenter) (xs : List DItem) (k : Nat) (hk : k < cs.length) : (moved cs xs).take (k + 1) = (moved cs xs).take k ++ [⟨meanAt cs xs k⟩] := by
  rw [List.take_succ_eq_append_getElem (by rw [moved_len]; exact hk)]
  simp [moved]

/-! ### Training -/
def seedB (s : Int) : Bool := decide (0 ≤ s) && decide (s ≤ 9999)
def trainFault (xs : List DItem) (seeds : List Int) (rounds : Int) : Int :=
  if tableFault xs = 0 then (if xs.length = 0 then 4 else if seeds.length < 1 ∨ 6 < seeds.length then 2 else if (decide (0 ≤ rounds) && decide (rounds ≤ 20)) then (if seeds.all seedB then 0 else 3) else 3) else tableFault xs
def seedC (xs : List DItem) (s : Int) : DCenter := ⟨(xs.getD (s.toNat % xs.length) ⟨0, []⟩).vec⟩
def seedCs (xs : List DItem) (seeds : List Int) : List DCenter := seeds.map (seedC xs)
def trainN (xs : List DItem) : Nat → List DCenter → List DCenter
  | 0, cs => cs
  | r + 1, cs => if cost cs xs ≤ cost (moved cs xs) xs then cs else trainN xs r (moved cs xs)
def trainR (xs : List DItem) (seeds : List Int) (rounds : Int) : DCentersResult :=
  if trainFault xs seeds rounds = 0 then ⟨0, trainN xs rounds.toNat (seedCs xs seeds)⟩ else ⟨trainFault xs seeds rounds, []⟩
theorem seedCs_right {xs : List DItem} {seeds : List Int} (ht : tableFault xs = 0) (h0 : xs.length ≠ 0) (hs : 1 ≤ seeds.length ∧ seeds.length ≤ 6) : centersFault (seedCs xs seeds) = 0 := by
  refine centersFault_of (by simpa [seedCs] using hs) fun c hm => ?_
  obtain ⟨s, -, rfl⟩ := List.mem_map.1 hm
  have hl : s.toNat % xs.length < xs.length := Nat.mod_lt _ (by omega)
  show vecFault (xs.getD (s.toNat % xs.length) ⟨0, []⟩).vec = 0
  rw [getD_at hl]
  exact ((tableFault_zero ht).2.1 _ (List.getElem_mem hl)).2
theorem trainN_right {xs : List DItem} (ht : tableFault xs = 0) (r : Nat) (cs : List DCenter) (hc : centersFault cs = 0) : centersFault (trainN xs r cs) = 0 ∧ (trainN xs r cs).length = cs.length ∧ cost (trainN xs r cs) xs ≤ cost cs xs := by
  induction r generalizing cs with
  | zero => exact ⟨hc, rfl, Int.le_refl _⟩
  | succ r ih =>
    rw [trainN]
    split
    · exact ⟨hc, rfl, Int.le_refl _⟩
    · obtain ⟨a, b, c⟩ := ih (moved cs xs) (moved_right hc ht)
      rename_i hlt
      exact ⟨a, by rw [b, moved_len], by omega⟩
theorem trainFault_bd (xs : List DItem) (seeds : List Int) (rounds : Int) (h : 0 ≤ tableFault xs ∧ tableFault xs ≤ 9) : 0 ≤ trainFault xs seeds rounds ∧ trainFault xs seeds rounds ≤ 9 := by
  unfold trainFault
  split
  · split
    · decide
    · split
      · decide
      · split
        · split <;> decide
        · decide
  · exact h

end Go.Proofs.Ytjofcmdlcoganaa

namespace Go.Proofs.Ytjofcmdlcoganaa
open Go.RowKit

theorem cen_cell {w : World} {b off k : Nat} {u : Option Value} (h : w.cell? ⟨b, off + k * Lay.tCenter.n + 0, none⟩ = u) : w.cell? ⟨b, off + k, none⟩ = u := by
  have q : w.cell? ⟨b, off + k * 1 + 0, none⟩ = u := h
  rw [Nat.mul_one, Nat.add_zero] at q
  exact q

end Go.Proofs.Ytjofcmdlcoganaa

namespace Go.Proofs.Ytjofcmdlcoganaa
open Go.RowKit

theorem implCount (n : Int) (w : World) :
    Calls Try.prog 58 #[.int .i64 n] w fun e w' => e = .returned (.bool (decide (1 ≤ n) && decide (n ≤ 6))) ∧ w' = w := by
  by_cases h1 : 1 ≤ n
  · have d1 : decide (1 ≤ n) = true := by simpa using h1
    rw [d1]
    cases d2 : decide (n ≤ 6) <;>
    · go_enter Try.func58, Try.ntmps58
      go_wp2_with fail
      go_ret
      exact ⟨rfl, rfl⟩
  · have d1 : decide (1 ≤ n) = false := by simpa using h1
    rw [d1]
    go_enter Try.func58, Try.ntmps58
    go_wp2_with fail
    go_ret
    exact ⟨rfl, rfl⟩

set_option maxRecDepth 100000 in
set_option maxHeartbeats 1000000 in
theorem implCen_pos (b off cap : Nat) (xs : List DCenter) (w : World) (hn : 1 ≤ xs.length ∧ xs.length ≤ 6) (h : (Lay.sl Lay.tCenter).Reads w [.slice (some ⟨b, off, none⟩) xs.length cap] xs) (hbl : b < w.heap.size) :
    Calls Try.prog 18 #[.slice (some ⟨b, off, none⟩) xs.length cap] w fun e w' => e = .returned (.int .i64 (cenFrom xs)) ∧ Below w.heap.size w w' := by
  generalize hF0 : cenFrom xs = F0
  have H := hide h
  clear h
  go_enter Try.func18, Try.ntmps18
  go_wp2_with fail
  refine (implCount xs.length _).mono ?_
  rintro e w ⟨rfl, rfl⟩
  rw [show (decide ((1 : Int) ≤ (xs.length : Int)) && decide ((xs.length : Int) ≤ 6)) = true by simp; omega]
  go_wp2_with fail
  go_loopw [12] (fun i wr => ∃ k : Nat, k ≤ xs.length ∧ i = .int .i64 k ∧ cenFrom (xs.drop k) = F0 ∧ Below w.heap.size w wr) (fun i _ => xs.length - (intOf i).toNat)
  case atStart => exact ⟨0, Nat.zero_le _, rfl, hF0, Below.refl _ _⟩
  case round =>
    obtain ⟨k, hk, rfl, hF, hB⟩ := hrel
    by_cases hlt : k < xs.length
    · obtain ⟨row, hc, hr⟩ := Lay.row_at (unhide H) hlt
      replace hr := hr.later hB
      obtain ⟨a1, d1, rfl, R1⟩ := open_Center hr
      have c1 : wr.cell? ⟨b, off + k, none⟩ = some (.slice a1 (xs[k]).vec.length d1) := (hB.cell (p := ⟨b, off + k, none⟩) hbl).trans (cen_cell (hc 0 (by decide)))
      rw [cenFrom_step xs k hlt] at hF
      clear hc hr
      generalize hx : xs[k] = x at *
      clear hx
      have hbr : b < wr.heap.size := Nat.lt_of_lt_of_le hbl hB.size
      have nb : Below wr.heap.size wr (wr.alloc (.cells #[.slice a1 x.vec.length d1] 77)) := (Below.refl _ _).alloc (Nat.le_refl _) _
      have I1 := hide ((Lay.ints_reads R1).later nb)
      have HF := hide hF
      have B1 := hide (hB.trans (nb.mono hB.size))
      clear R1 hF hB nb
      go_wp2_with fail
      refine (implFault _ x.vec _ (unhide I1)).mono ?_
      rintro e w1 ⟨rfl, rfl⟩
      by_cases hv : vecFault x.vec = 0
      · rw [hv]
        have hF := unhide HF
        rw [if_pos hv] at hF
        clear HF I1 hv
        have HF := hide hF
        clear hF
        go_wp2_with fail
        go_roundw
        case rel => exact ⟨k + 1, by omega, by go_num, unhide HF, unhide B1⟩
        case measure => simp [intOf]; omega
      · have hF := unhide HF
        rw [if_neg hv] at hF
        have hd : (vecFault x.vec != 0) = true := by simpa using hv
        have HF2 := hide hF
        clear HF hF I1 hv
        go_wp2_with fail
        go_ret
        exact ⟨by rw [← unhide HF2]; rfl, unhide B1⟩
    · obtain rfl : k = xs.length := by omega
      rw [List.drop_length] at hF
      have HF := hide hF
      have HB := hide hB
      clear hF hB H
      go_wp2_with fail
      go_ret
      exact ⟨by rw [← unhide HF]; rfl, unhide HB⟩

set_option maxRecDepth 10000 in
theorem implCen (v : Value) (xs : List DCenter) (w : World) (h : (Lay.sl Lay.tCenter).Reads w [v] xs) :
    Calls Try.prog 18 #[v] w fun e w' => e = .returned (.int .i64 (centersFault xs)) ∧ Below w.heap.size w w' := by
  have hbig := h.big
  obtain ⟨ao, cap, rfl⟩ := open_sl h
  by_cases hn : xs.length < 1 ∨ 6 < xs.length
  · have e : centersFault xs = 2 := by unfold centersFault; rw [if_pos hn]
    rw [e]
    clear h e
    go_enter Try.func18, Try.ntmps18
    go_wp2_with fail
    refine (implCount xs.length _).mono ?_
    rintro e w ⟨rfl, rfl⟩
    rw [show (decide ((1 : Int) ≤ (xs.length : Int)) && decide ((xs.length : Int) ≤ 6)) = false by simp; omega]
    go_wp2_with fail
    go_ret
    exact ⟨rfl, Below.refl _ _⟩
  · have e : centersFault xs = cenFrom xs := by unfold centersFault; rw [if_neg hn]
    rw [e]
    obtain ⟨b, off, rfl, hbl⟩ := Lay.sl_addr h (by omega)
    exact implCen_pos b off cap xs w (by omega) h hbl

end Go.Proofs.Ytjofcmdlcoganaa

namespace Go.Proofs.Ytjofcmdlcoganaa
open Go.RowKit

structure DIntResult where
  code : Int
  value : Int

def Lay.tIntResult : Lay DIntResult := Lay.via (Lay.pair Lay.int Lay.int) (fun x => (x.code, x.value)) (fun p => ⟨p.1, p.2⟩)

theorem lies_IntResult {w : World} {cs : List Value} {x : DIntResult} {bl : List Nat} : Lay.tIntResult.lies w cs x bl ↔ cs = [.int .i64 x.code, .int .i64 x.value] ∧ bl = [] ∧ (Lit.int .i64 x.code).wf = true ∧ (Lit.int .i64 x.value).wf = true := by
  constructor
  · intro h
    obtain ⟨c0_, r0_, e0_, s0_, rfl, rfl, h0, h1⟩ := h
    obtain ⟨rfl, w0, rfl⟩ := h0
    obtain ⟨rfl, w1, rfl⟩ := h1
    exact ⟨by simp, by simp, w0, w1⟩
  · rintro ⟨rfl, hbl, w0, w1⟩
    rw [hbl]
    exact ⟨[.int .i64 x.code], [.int .i64 x.value], [], [], rfl, by simp, ⟨rfl, w0, rfl⟩, ⟨rfl, w1, rfl⟩⟩

end Go.Proofs.Ytjofcmdlcoganaa

namespace Go.Proofs.Ytjofcmdlcoganaa
open Go.RowKit

def nearestR (cs : List DCenter) (q : List Int) : DIntResult := if centersFault cs = 0 then (if vecFault q = 0 then ⟨0, (near cs q : Nat)⟩ else ⟨vecFault q, 0⟩) else ⟨centersFault cs, 0⟩
def askFault (cs : List DCenter) (xs : List DItem) : Int := if centersFault cs = 0 then tableFault xs else centersFault cs
theorem askFault_zero {cs : List DCenter} {xs : List DItem} (h : askFault cs xs = 0) : centersFault cs = 0 ∧ tableFault xs = 0 := by
  unfold askFault at h
  by_cases hc : centersFault cs = 0
  · rw [if_pos hc] at h; exact ⟨hc, h⟩
  · rw [if_neg hc] at h; exact absurd h hc
def assignR (cs : List DCenter) (xs : List DItem) : DIntsResult := if askFault cs xs = 0 then ⟨0, placesL cs xs⟩ else ⟨askFault cs xs, []⟩
def costR (cs : List DCenter) (xs : List DItem) : DIntResult := if askFault cs xs = 0 then ⟨0, cost cs xs⟩ else ⟨askFault cs xs, 0⟩
def movedR (cs : List DCenter) (xs : List DItem) : DCentersResult := if askFault cs xs = 0 then ⟨0, moved cs xs⟩ else ⟨askFault cs xs, []⟩
theorem own_intR {w : World} {c x : Int} {lo hi : Nat} (hc : (Lit.int .i64 c).wf = true) (hx : (Lit.int .i64 x).wf = true) : Lay.tIntResult.OwnIn w [.int .i64 c, .int .i64 x] ⟨c, x⟩ lo hi :=
  ⟨[], ⟨⟨[.int .i64 c], [.int .i64 x], [], [], rfl, by simp, ⟨rfl, hc, rfl⟩, ⟨rfl, hx, rfl⟩⟩, by simp, by simp⟩, by simp⟩
theorem own_censR {w : World} {c : Int} {v : Value} {cs : List DCenter} {lo hi : Nat} (hc : (Lit.int .i64 c).wf = true) (h : (Lay.sl Lay.tCenter).OwnIn w [v] cs lo hi) : Lay.tCentersResult.OwnIn w [.int .i64 c, v] ⟨c, cs⟩ lo hi := by
  obtain ⟨bl, ⟨l, n, f⟩, i⟩ := h
  exact ⟨bl, ⟨⟨[.int .i64 c], [v], [], bl, rfl, by simp, ⟨rfl, hc, rfl⟩, l⟩, n, f⟩, i⟩
theorem own_codeCens {w : World} {c : Int} {lo hi : Nat} (hc : (Lit.int .i64 c).wf = true) : Lay.tCentersResult.OwnIn w [.int .i64 c, .slice none 0 0] ⟨c, []⟩ lo hi := own_censR hc ⟨[], ⟨⟨none, 0, rfl, by simp, Or.inl ⟨rfl, rfl⟩⟩, by simp, by simp⟩, by simp⟩
theorem read_censR {w : World} {c : Int} {v : Value} {cs : List DCenter} (hc : (Lit.int .i64 c).wf = true) (h : (Lay.sl Lay.tCenter).Reads w [v] cs) : Lay.tCentersResult.Reads w [.int .i64 c, v] ⟨c, cs⟩ := by
  obtain ⟨bl, l⟩ := h
  exact ⟨bl, [.int .i64 c], [v], [], bl, rfl, by simp, ⟨rfl, hc, rfl⟩, l⟩
theorem own_intsR6 {w : World} {c : Int} {v : Value} {zs : List Int} {lo hi : Nat} (hc : (Lit.int .i64 c).wf = true) (h : (Lay.sl Lay.int).OwnIn w [v] zs lo hi) : Lay.tIntsResult.OwnIn w [.int .i64 c, v] ⟨c, zs⟩ lo hi := by
  obtain ⟨bl, ⟨l, n, f⟩, i⟩ := h
  exact ⟨bl, ⟨⟨[.int .i64 c], [v], [], bl, rfl, by simp, ⟨rfl, hc, rfl⟩, l⟩, n, f⟩, i⟩
theorem own_codeInts6 {w : World} {c : Int} {lo hi : Nat} (hc : (Lit.int .i64 c).wf = true) : Lay.tIntsResult.OwnIn w [.int .i64 c, .slice none 0 0] ⟨c, []⟩ lo hi := own_intsR6 hc ⟨[], ⟨⟨none, 0, rfl, by simp, Or.inl ⟨rfl, rfl⟩⟩, by simp, by simp⟩, by simp⟩
theorem tabFrom_bd (p : Option Int) (xs : List DItem) : 0 ≤ tabFrom p xs ∧ tabFrom p xs ≤ 3 := by
  induction xs generalizing p with
  | nil => show (0 : Int) ≤ 0 ∧ (0 : Int) ≤ 3; decide
  | cons x xs ih =>
    rw [tabFrom]
    split
    · split
      · split
        · exact ih _
        · decide
      · exact vecFault_bd _
    · decide
theorem tableFault_bd (xs : List DItem) : 0 ≤ tableFault xs ∧ tableFault xs ≤ 3 := by
  unfold tableFault
  split
  · decide
  · exact tabFrom_bd _ _
theorem askFault_bd (cs : List DCenter) (xs : List DItem) : 0 ≤ askFault cs xs ∧ askFault cs xs ≤ 3 := by
  unfold askFault
  split
  · exact tableFault_bd xs
  · exact centersFault_bd cs
theorem askFault_wf (cs : List DCenter) (xs : List DItem) : (Lit.int .i64 (askFault cs xs)).wf = true := wf_of_bd (by have := askFault_bd cs xs; omega)

end Go.Proofs.Ytjofcmdlcoganaa

namespace Go.Proofs.Ytjofcmdlcoganaa
open Go.RowKit

theorem all_step (ss : List Int) (k : Nat) (h : k < ss.length) : (ss.drop k).all seedB = (seedB ss[k] && (ss.drop (k + 1)).all seedB) := by rw [List.drop_eq_getElem_cons h]; rfl
theorem trainFault_tab {xs : List DItem} (h : tableFault xs ≠ 0) (ss : List Int) (r : Int) : trainFault xs ss r = tableFault xs := if_neg h
theorem trainFault_none {xs : List DItem} (h : tableFault xs = 0) (h0 : xs.length = 0) (ss : List Int) (r : Int) : trainFault xs ss r = 4 := by rw [trainFault, if_pos h, if_pos h0]
theorem trainFault_many {xs : List DItem} (h : tableFault xs = 0) (h0 : xs.length ≠ 0) {ss : List Int} (hs : ss.length < 1 ∨ 6 < ss.length) (r : Int) : trainFault xs ss r = 2 := by rw [trainFault, if_pos h, if_neg h0, if_pos hs]
theorem trainFault_rounds {xs : List DItem} (h : tableFault xs = 0) (h0 : xs.length ≠ 0) {ss : List Int} (hs : ¬ (ss.length < 1 ∨ 6 < ss.length)) {r : Int} (hr : (decide (0 ≤ r) && decide (r ≤ 20)) = false) : trainFault xs ss r = 3 := by rw [trainFault, if_pos h, if_neg h0, if_neg hs, hr, if_neg (by simp)]
theorem trainFault_seeds {xs : List DItem} (h : tableFault xs = 0) (h0 : xs.length ≠ 0) {ss : List Int} (hs : ¬ (ss.length < 1 ∨ 6 < ss.length)) {r : Int} (hr : (decide (0 ≤ r) && decide (r ≤ 20)) = true) : trainFault xs ss r = if ss.all seedB then 0 else 3 := by rw [trainFault, if_pos h, if_neg h0, if_neg hs, hr, if_pos rfl]
theorem trainFault_bad {xs : List DItem} (h : tableFault xs = 0) (h0 : xs.length ≠ 0) {ss : List Int} (hs : ¬ (ss.length < 1 ∨ 6 < ss.length)) {r : Int} (ha : ss.all seedB = false) : trainFault xs ss r = 3 := by
  cases hr : (decide (0 ≤ r) && decide (r ≤ 20)) with
  | false => exact trainFault_rounds h h0 hs hr
  | true => rw [trainFault_seeds h h0 hs hr, ha, if_neg (by simp)]
theorem trainFault_zero {xs : List DItem} {ss : List Int} {r : Int} (h : trainFault xs ss r = 0) : tableFault xs = 0 ∧ xs.length ≠ 0 ∧ (1 ≤ ss.length ∧ ss.length ≤ 6) ∧ (0 ≤ r ∧ r ≤ 20) ∧ ss.all seedB = true := by
  by_cases h1 : tableFault xs = 0
  · by_cases h0 : xs.length = 0
    · rw [trainFault_none h1 h0] at h; cases h
    · by_cases hs : ss.length < 1 ∨ 6 < ss.length
      · rw [trainFault_many h1 h0 hs] at h; cases h
      · cases hr : (decide (0 ≤ r) && decide (r ≤ 20)) with
        | false => rw [trainFault_rounds h1 h0 hs hr] at h; cases h
        | true =>
          rw [trainFault_seeds h1 h0 hs hr] at h
          have hr2 : 0 ≤ r ∧ r ≤ 20 := by simpa using hr
          cases ha : ss.all seedB with
          | false => rw [ha, if_neg (by simp)] at h; cases h
          | true => exact ⟨h1, h0, by omega, hr2, rfl⟩
  · rw [trainFault_tab h1] at h; exact absurd h h1
theorem trainFault_wf (xs : List DItem) (ss : List Int) (r : Int) : (Lit.int .i64 (trainFault xs ss r)).wf = true := wf_of_bd (by have := trainFault_bd xs ss r (by have := tableFault_bd xs; omega); omega)
theorem seed_rem (s : Int) (n : Nat) (h : 0 ≤ s) : s.tmod (n : Int) = ((s.toNat % n : Nat) : Int) := by
  obtain ⟨m, rfl⟩ := Int.eq_ofNat_of_zero_le h
  rfl
theorem seedCs_take (xs : List DItem) (ss : List Int) (k : Nat) (h : k < ss.length) : (seedCs xs ss).take (k + 1) = (seedCs xs ss).take k ++ [seedC xs ss[k]] := by
  rw [List.take_succ_eq_append_getElem (by simpa [seedCs] using h)]
  simp [seedCs]
theorem seedCs_len (xs : List DItem) (ss : List Int) : (seedCs xs ss).length = ss.length := by simp [seedCs]
theorem ints_cell {w : World} {b off cap n : Nat} {zs : List Int} (h : IsInts w (.slice (some ⟨b, off, none⟩) n cap) zs) (k : Nat) (hk : k < zs.length) : w.cell? ⟨b, off + k, none⟩ = some (.int .i64 zs[k]) := by
  obtain ⟨_, _, e, -, hc⟩ := h
  obtain ⟨b', o', e2, hc⟩ := hc (by omega)
  simp only [Value.slice.injEq] at e
  obtain ⟨rfl, -, -⟩ := e
  simp only [Option.some.injEq, Addr.mk.injEq, and_true] at e2
  obtain ⟨rfl, rfl⟩ := e2
  rw [hc k hk]
  simp [List.getD, hk]
theorem ints_addr {w : World} {ao : Option Addr} {cap n : Nat} {zs : List Int} (h : IsInts w (.slice ao n cap) zs) (hp : 0 < zs.length) : ∃ b off, ao = some ⟨b, off, none⟩ := by
  obtain ⟨_, _, e, -, hc⟩ := h
  obtain ⟨b', o', e2, -⟩ := hc hp
  simp only [Value.slice.injEq] at e
  obtain ⟨rfl, -, -⟩ := e
  exact ⟨b', o', e2⟩
theorem ints_wf {w : World} {v : Value} {zs : List Int} (h : IsInts w v zs) : ∀ z ∈ zs, (Lit.int .i64 z).wf = true := by
  obtain ⟨_, _, _, hw, -⟩ := h
  exact hw

end Go.Proofs.Ytjofcmdlcoganaa

namespace Go.Proofs.Ytjofcmdlcoganaa
open Go.RowKit

theorem infoCenF : (Try.prog.info? 77).map (fun i => (i.zero, i.size, i.bytes)) = some (some (.agg #[.slice none 0 0]), 1, 24) := by kernel_rfl

/-- The row in block G has n places; the first k hold those of cs. -/
def FillC (w : World) (G n k : Nat) (cs : List DCenter) : Prop :=
  ∃ (rows : List (List Value)) (Q : List Value) (hi : Nat), w.ownsRow G 77 1 (.slice (some ⟨G, 0, none⟩) n n) n (rows.flatten ++ Q) ∧ rows.flatten.length = k ∧ k ≤ n ∧ Lay.Subs Lay.tCenter w rows (cs.take k) (G + 1) hi ∧ hi ≤ w.heap.size ∧ G < hi

theorem FillC.start {w : World} {G n : Nat} {Q : List Value} (cs : List DCenter) (h : w.ownsRow G 77 1 (.slice (some ⟨G, 0, none⟩) n n) n Q) : FillC w G n 0 cs :=
  ⟨[], Q, w.heap.size, by simpa using h, rfl, Nat.zero_le _, Lay.subs_nil, Nat.le_refl _, (h.lt G rfl).2⟩
theorem FillC.later {w w' : World} {G n k : Nat} {cs : List DCenter} (h : FillC w G n k cs) (hb : Below w.heap.size w w') : FillC w' G n k cs := by
  obtain ⟨rows, Q, hi, ho, hl, hk, hsb, h1, h2⟩ := h
  exact ⟨rows, Q, hi, own_below ho hb, hl, hk, Lay.subs_ext hsb (ext_of_below hb nowhere) (fun _ _ _ h => h), Nat.le_trans h1 hb.size, h2⟩
theorem FillC.there {w : World} {G n k : Nat} {cs : List DCenter} (h : FillC w G n k cs) (hk : k < n) : (∃ u, w.cell? ⟨G, k, none⟩ = some u) ∧ w.frozen? ⟨G, k, none⟩ = false ∧ G < w.heap.size := by
  obtain ⟨rows, Q, hi, ho, hl, hk2, hsb, h1, h2⟩ := h
  have hlen : (rows.flatten ++ Q).length = n * 1 := ho.1
  refine ⟨?_, ho.frozenAt k, by omega⟩
  rw [ho.cellAt k (by omega)]
  exact ⟨_, List.getElem?_eq_getElem (by omega)⟩
theorem FillC.put {w w' : World} {G n k : Nat} {cs : List DCenter} {v : Value} {zs : List Int} (h : FillC w G n k cs) (hk : k < n) (hb : Below w.heap.size w w') (ho : (Lay.sl Lay.int).OwnIn w' [v] zs w.heap.size w'.heap.size) (ht : cs.take (k + 1) = cs.take k ++ [⟨zs⟩]) : FillC (w'.setCell ⟨G, k, none⟩ v) G n (k + 1) cs := by
  obtain ⟨rows, Q, hi, hown, hl, hk2, hsb, h1, h2⟩ := h.later hb
  obtain ⟨rows0, Q0, hi0, hown0, hl0, hk20, hsb0, h10, h20⟩ := h
  have hlen : (rows.flatten ++ Q).length = n * 1 := hown.1
  have hcen : Lay.tCenter.OwnIn w' [v] ⟨zs⟩ w.heap.size w'.heap.size := ho
  have hlG := (hown0.lt G rfl).2
  obtain ⟨rows, Q, hown, hl, hsb⟩ : ∃ rows Q, w'.ownsRow G 77 1 (.slice (some ⟨G, 0, none⟩) n n) n (rows.flatten ++ Q) ∧ rows.flatten.length = k ∧ Lay.Subs Lay.tCenter w' rows (cs.take k) (G + 1) hi0 :=
    ⟨rows0, Q0, own_below hown0 hb, hl0, Lay.subs_ext hsb0 (ext_of_below hb nowhere) (fun _ _ _ h => h)⟩
  have hlen : (rows.flatten ++ Q).length = n * 1 := hown.1
  have hs2 := Lay.subs_snoc hsb hcen h10 (by omega) (Nat.le_trans h10 hb.size)
  have E : Ext (fun q => q = G) w' (w'.setCell ⟨G, k, none⟩ v) := (Ext.refl _ _).setCell ⟨G, k, none⟩ v rfl
  have hs3 := Lay.subs_ext hs2 E (fun q a b c => by omega)
  have o3 := own_setAll hown k [v]
  rw [show k = rows.flatten.length from hl.symm, setFrom_app _ _ _ (by rw [List.length_append] at hlen; simp; omega), hl] at o3
  refine ⟨rows ++ [[v]], Q.drop 1, w'.heap.size, ?_, ?_, by omega, ?_, by simp, by have := hb.size; omega⟩
  · rw [List.flatten_append]
    simpa [setAll] using o3
  · rw [List.flatten_append]
    simp [hl]
  · rw [ht]
    exact hs3
theorem FillC.done {w : World} {G n : Nat} {cs : List DCenter} (h : FillC w G n n cs) (hl : cs.length = n) (hn : n ≤ 9223372036854775807) : (Lay.sl Lay.tCenter).OwnIn w [.slice (some ⟨G, 0, none⟩) n n] cs G w.heap.size := by
  obtain ⟨rows, Q, hi, hown, hlr, hk2, hsb, h1, h2⟩ := h
  have hlen : (rows.flatten ++ Q).length = n * 1 := hown.1
  have e0 : Q = [] := List.eq_nil_of_length_eq_zero (by rw [List.length_append] at hlen; omega)
  subst e0
  subst hl
  rw [List.append_nil] at hown
  rw [List.take_length] at hsb
  exact Lay.subs_done (A := Lay.tCenter) hown hsb (by omega) h1 hn

end Go.Proofs.Ytjofcmdlcoganaa

namespace Go.Proofs.Ytjofcmdlcoganaa
open Go.RowKit

set_option maxHeartbeats 400000 in
theorem slClone (ad : Addr) (cap : Nat) (zs : List Int) (w : World) (h : IsInts w (.slice (some ad) zs.length cap) zs) (hn : zs.length ≤ 100000000) :
    Calls Try.prog 74 #[.slice (some ad) zs.length cap] w fun e w' => ∃ v', e = .returned v' ∧ w'.ownsRow w.heap.size 2 1 v' zs.length (zs.map (Value.int .i64)) ∧ Below w.heap.size w w' := by
  have nb : Below w.heap.size w (w.alloc (.cells #[] 2)) := (Below.refl _ _).alloc (Nat.le_refl _) _
  have O : (w.alloc (.cells #[] 2)).ownsRow w.heap.size 2 1 (.slice (some ⟨w.heap.size, 0, none⟩) 0 0) 0 [] := World.ownsRow_lit w _ 0 (Nat.le_refl _) (by unfold maxLen; omega) rfl
  have h1 := h.later nb
  have HB := hide nb
  have hnil : ∀ w : World, (binOp .eql 25 (.slice (some ad) zs.length cap) (.slice none 0 0)).run Try.prog w = .ok (.bool false) w := fun _ => by kernel_rfl
  clear nb h
  go_enter Try.func74, Try.ntmps74
  go_wp2_with (at_builtin; refine wpList_append_ints O h1 rfl _ _ rfl rfl rfl (by omega) (by simp) ?_)
  rintro v' w' O2 - hb
  have HB2 := hide ((unhide HB).trans hb)
  clear O h1 hb HB
  go_wp2_with fail
  go_ret
  exact ⟨v', rfl, by simpa using O2, unhide HB2⟩

end Go.Proofs.Ytjofcmdlcoganaa

namespace Go.Proofs.Ytjofcmdlcoganaa
open Go.RowKit

set_option maxRecDepth 10000 in
set_option maxHeartbeats 1000000 in
theorem trainFaultC (vx : Value) (xs : List DItem) (vs : Value) (ss : List Int) (r : Int) (w : World) (h : (Lay.sl Lay.tItem).Reads w [vx] xs) (hs : (Lay.sl Lay.int).Reads w [vs] ss) :
    Calls Try.prog 46 #[vx, vs, .int .i64 r] w fun e w' => e = .returned (.int .i64 (trainFault xs ss r)) ∧ Below w.heap.size w w' := by
  have HI0 := hide (Lay.ints_reads hs)
  obtain ⟨ao, cap, rfl⟩ := open_sl h
  obtain ⟨ao2, cap2, rfl⟩ := open_sl hs
  have L := hide (implTab _ xs w h)
  have hbig := hs.big
  clear h hs
  go_enter Try.func46, Try.ntmps46
  go_wp2_with fail
  refine (unhide L).mono ?_
  rintro e w1 ⟨rfl, hb⟩
  have HI := hide ((unhide HI0).later hb)
  have HB := hide hb
  clear hb L HI0
  by_cases hf : tableFault xs = 0
  · rw [hf]
    by_cases h0 : xs.length = 0
    · have HG := hide (trainFault_none hf h0 ss r)
      have hd : ((xs.length : Int) == 0) = true := by rw [beq_iff_eq]; omega
      clear hf h0
      go_wp2_with fail
      go_ret
      exact ⟨by rw [unhide HG]; rfl, unhide HB⟩
    · have hd : ((xs.length : Int) == 0) = false := by rw [beq_eq_false_iff_ne]; omega
      have HF := hide hf
      have H0 := hide h0
      clear hf h0
      go_wp2_with fail
      refine (implCount ss.length _).mono ?_
      rintro e w1 ⟨rfl, rfl⟩
      by_cases hm : ss.length < 1 ∨ 6 < ss.length
      · have HG := hide (trainFault_many (unhide HF) (unhide H0) hm r)
        rw [show (decide ((1 : Int) ≤ (ss.length : Int)) && decide ((ss.length : Int) ≤ 6)) = false by simp; omega]
        clear hm
        go_wp2_with fail
        go_ret
        exact ⟨by rw [unhide HG]; rfl, unhide HB⟩
      · rw [show (decide ((1 : Int) ≤ (ss.length : Int)) && decide ((ss.length : Int) ≤ 6)) = true by simp; omega]
        have HM := hide hm
        clear hm
        by_cases hr1 : r < 0
        · have HG := hide (trainFault_rounds (unhide HF) (unhide H0) (unhide HM) (r := r) (by simp; omega))
          have hd1 : decide (r < 0) = true := by simpa using hr1
          clear hr1
          go_wp2_with fail
          go_ret
          exact ⟨by rw [unhide HG]; rfl, unhide HB⟩
        · by_cases hr2 : 20 < r
          · have HG := hide (trainFault_rounds (unhide HF) (unhide H0) (unhide HM) (r := r) (by simp; omega))
            have hd1 : decide (r < 0) = false := by simpa using hr1
            have hd2 : decide (20 < r) = true := by simpa using hr2
            clear hr1 hr2
            go_wp2_with fail
            go_ret
            exact ⟨by rw [unhide HG]; rfl, unhide HB⟩
          · have HG := hide (trainFault_seeds (unhide HF) (unhide H0) (unhide HM) (r := r) (by simp; omega))
            have hd1 : decide (r < 0) = false := by simpa using hr1
            have hd2 : decide (20 < r) = false := by simpa using hr2
            obtain ⟨b, off, rfl⟩ := ints_addr (unhide HI) (by have := unhide HM; omega)
            clear hr1 hr2
            go_wp2_with fail
            go_loopw [30] (fun i wr => ∃ k : Nat, k ≤ ss.length ∧ i = .int .i64 k ∧ (ss.drop k).all seedB = ss.all seedB ∧ wr = w1) (fun i _ => ss.length - (intOf i).toNat)
            case atStart => exact ⟨0, Nat.zero_le _, rfl, rfl, rfl⟩
            case round =>
              obtain ⟨k, hk, rfl, hall, rfl⟩ := hrel
              by_cases hlt : k < ss.length
              · have c1 := ints_cell (unhide HI) k hlt
                rw [all_step ss k hlt] at hall
                generalize hz : ss[k] = z at *
                clear hz
                by_cases hz1 : z < 0
                · have HG2 : Hid (trainFault xs ss r = 3) := by
                    show trainFault xs ss r = 3
                    rw [unhide HG, ← hall, show seedB z = false by simp [seedB]; omega]
                    simp
                  have hd3 : decide (z < 0) = true := by simpa using hz1
                  clear hall hz1
                  go_wp2_with fail
                  go_ret
                  exact ⟨by rw [unhide HG2]; rfl, unhide HB⟩
                · by_cases hz2 : 9999 < z
                  · have HG2 : Hid (trainFault xs ss r = 3) := by
                      show trainFault xs ss r = 3
                      rw [unhide HG, ← hall, show seedB z = false by simp [seedB]; omega]
                      simp
                    have hd3 : decide (z < 0) = false := by simpa using hz1
                    have hd4 : decide (9999 < z) = true := by simpa using hz2
                    clear hall hz1 hz2
                    go_wp2_with fail
                    go_ret
                    exact ⟨by rw [unhide HG2]; rfl, unhide HB⟩
                  · rw [show seedB z = true by simp [seedB]; omega, Bool.true_and] at hall
                    have HALL := hide hall
                    have hd3 : decide (z < 0) = false := by simpa using hz1
                    have hd4 : decide (9999 < z) = false := by simpa using hz2
                    clear hall hz1 hz2
                    go_wp2_with fail
                    go_roundw
                    case rel => exact ⟨k + 1, by omega, by go_num, unhide HALL, by simp⟩
                    case measure => simp [intOf]; omega
              · obtain rfl : k = ss.length := by omega
                rw [List.drop_length] at hall
                have HG2 : Hid (trainFault xs ss r = 0) := by
                  show trainFault xs ss r = 0
                  rw [unhide HG, ← hall]
                  rfl
                clear hall
                go_wp2_with fail
                go_ret
                exact ⟨by rw [unhide HG2]; rfl, unhide HB⟩
  · have HG := hide (trainFault_tab hf ss r)
    have hd : (tableFault xs != 0) = true := by simpa using hf
    clear hf
    go_wp2_with fail
    go_ret
    exact ⟨by rw [unhide HG]; rfl, unhide HB⟩

set_option maxRecDepth 100000 in
set_option maxHeartbeats 2000000 in
theorem seedsC (vx : Value) (xs : List DItem) (vs : Value) (ss : List Int) (w : World) (h : (Lay.sl Lay.tItem).Reads w [vx] xs) (hs : (Lay.sl Lay.int).Reads w [vs] ss) (hft : tableFault xs = 0) (h0 : xs.length ≠ 0) (hn : 1 ≤ ss.length ∧ ss.length ≤ 6) (hall : ss.all seedB = true) :
    Calls Try.prog 47 #[vx, vs] w fun e w' => ∃ v', e = .returned v' ∧ (Lay.sl Lay.tCenter).OwnIn w' [v'] (seedCs xs ss) w.heap.size w'.heap.size ∧ Below w.heap.size w w' := by
  have HI := hide (Lay.ints_reads hs)
  have HX := hide h
  obtain ⟨ao, cap, rfl⟩ := open_sl h
  obtain ⟨ao2, cap2, rfl⟩ := open_sl hs
  obtain ⟨b2, off2, rfl⟩ := ints_addr (unhide HI) (by omega)
  obtain ⟨b, off, rfl, hbl⟩ := Lay.sl_addr h (by omega)
  have hbl2 : b2 < w.heap.size := World.block_lt_of_cell? _ _ (ints_cell (unhide HI) 0 (by omega))
  obtain ⟨hlen, hxa, -⟩ := tableFault_zero hft
  have HXV : Hid (∀ x ∈ xs, vecFault x.vec = 0) := fun x hm => (hxa x hm).2
  have HALL : Hid (∀ z ∈ ss, 0 ≤ z ∧ z ≤ 9999) := fun z hz => by
    have := List.all_eq_true.1 hall z hz
    simpa [seedB] using this
  obtain ⟨i0, hi, hz0, hz1, hz2⟩ := info_parts infoCenF
  clear h hs hft hxa hall
  go_enter Try.func47, Try.ntmps47
  go_wp2_with (at_make; refine wpList_make_full _ rfl _ _ 28 rfl w.heap.size 77 i0 _ 1 Try.underlying28 hi hz0 hz1 _ _ _ _ ss.length rfl rfl rfl rfl ?c1 ?c2 ?c3 ?_)
  case c1 => rw [hz2]; omega
  case c2 => unfold maxLen; omega
  case c3 => exact Nat.le_refl _
  intro w8 hown8 hgrow8
  have hB8 : Below w.heap.size w w8 := (Below.refl _ _).grown hgrow8 (Nat.le_refl _) (by simp)
  have HF8 := hide (FillC.start (seedCs xs ss) hown8)
  have HB8 := hide hB8
  clear hown8 hgrow8 hB8 hi hz0 hz1 hz2
  go_wp2_with fail
  go_loopw [14] (fun i wr => ∃ k : Nat, k ≤ ss.length ∧ i = .int .i64 k ∧ FillC wr w.heap.size ss.length k (seedCs xs ss) ∧ Below w.heap.size w wr) (fun i _ => ss.length - (intOf i).toNat)
  case atStart => exact ⟨0, Nat.zero_le _, rfl, unhide HF8, unhide HB8⟩
  case round =>
    obtain ⟨k, hk, rfl, hF, hB⟩ := hrel
    clear HF8 HB8
    by_cases hlt : k < ss.length
    · have c2 : wr.cell? ⟨b2, off2 + k, none⟩ = some (.int .i64 ss[k]) := (hB.cell (p := ⟨b2, off2 + k, none⟩) hbl2).trans (ints_cell (unhide HI) k hlt)
      obtain ⟨hz1, hz2⟩ := unhide HALL ss[k] (List.getElem_mem hlt)
      have HT := hide (seedCs_take xs ss k hlt)
      generalize hz : ss[k] = z at *
      clear hz
      have hml : z.toNat % xs.length < xs.length := Nat.mod_lt _ (by omega)
      have hrem := seed_rem z xs.length hz1
      have HT2 : Hid ((seedCs xs ss).take (k + 1) = (seedCs xs ss).take k ++ [⟨(xs[z.toNat % xs.length]).vec⟩]) := by
        show (seedCs xs ss).take (k + 1) = _
        rw [unhide HT, seedC, getD_at hml]
      obtain ⟨row, hc, hr⟩ := Lay.row_at (unhide HX) hml
      obtain ⟨a1, d1, rfl, R1⟩ := open_Item hr
      have hvx := unhide HXV xs[z.toNat % xs.length] (List.getElem_mem hml)
      have c0 : wr.cell? ⟨b, off + (z.toNat % xs.length) * 2, none⟩ = some (.int .i64 (xs[z.toNat % xs.length]).id) := (hB.cell (p := ⟨b, off + (z.toNat % xs.length) * 2, none⟩) hbl).trans (hc 0 (by decide))
      have c1 : wr.cell? ⟨b, off + (z.toNat % xs.length) * 2 + 1, none⟩ = some (.slice a1 (xs[z.toNat % xs.length]).vec.length d1) := (hB.cell (p := ⟨b, off + (z.toNat % xs.length) * 2 + 1, none⟩) hbl).trans (hc 1 (by decide))
      clear hc hr HT
      generalize hx : xs[z.toNat % xs.length] = x at *
      clear hx
      generalize z.toNat % xs.length = m at *
      have hl3 := (vecFault_zero hvx).1
      obtain ⟨b1, off1, rfl, hbl1⟩ := Lay.sl_addr R1 (by omega)
      have L := hide (slClone ⟨b1, off1, none⟩ d1 x.vec wr ((Lay.ints_reads R1).later hB) (by omega))
      have HWF := hide (ints_wf (Lay.ints_reads R1))
      have HL3 := hide hl3
      have HF := hide hF
      have HB := hide hB
      have hne : ((xs.length : Int) == 0) = false := by rw [beq_eq_false_iff_ne]; omega
      have hne2 : ¬ (xs.length : Int) = 0 := by omega
      clear R1 hB hF hvx hl3
      go_wp2_with fail
      refine (unhide L).mono ?_
      rintro e w9 ⟨v9, rfl, ho9, hb9⟩
      have hO9 := Lay.ownInts (unhide HWF) (by have := unhide HL3; omega) ho9
      obtain ⟨⟨u9, hu9⟩, hf9, hl9⟩ := ((unhide HF).later hb9).there hlt
      have HF9 := hide ((unhide HF).put hlt hb9 hO9 (unhide HT2))
      have HB9 : Hid (Below w.heap.size w (w9.setCell ⟨w.heap.size, k, none⟩ v9)) := ((unhide HB).trans (hb9.mono (unhide HB).size)).setCell (by simp) _
      obtain ⟨a9, c9, rfl⟩ := open_sl hO9.reads
      clear hO9 ho9 hb9 L c0 c1 c2
      generalize x.vec.length = yl9 at *
      go_wp2_with fail
      go_roundw
      case rel => exact ⟨k + 1, by omega, by go_num, unhide HF9, unhide HB9⟩
      case measure => simp [intOf]; omega
    · obtain rfl : k = ss.length := by omega
      have HO := hide (hF.done (seedCs_len xs ss) (by omega))
      have HB := hide hB
      clear hF hB
      go_wp2_with fail
      go_ret
      exact ⟨_, rfl, unhide HO, unhide HB⟩

end Go.Proofs.Ytjofcmdlcoganaa

namespace Go.Proofs.Ytjofcmdlcoganaa
open Go.RowKit

theorem cvec3 {zs : List Int} (h : vecFault zs = 0) : ∃ p q r, zs = [p, q, r] := by
  have hl := (vecFault_zero h).1
  match zs, hl with
  | [p, q, r], _ => exact ⟨p, q, r, rfl⟩
theorem implScore3 (v1 v2 : Value) (p q : List Int) (w : World) (h1 : IsInts w v1 p) (h2 : IsInts w v2 q) (f1 : vecFault p = 0) (f2 : vecFault q = 0) :
    Calls Try.prog 87 #[v1, v2] w fun e w' => e = .returned (.agg #[.int .i64 0, .int .i64 (score3 p q)]) ∧ Below w.heap.size w w' := by
  obtain ⟨x, y, z, rfl⟩ := cvec3 f1
  obtain ⟨a, b, c, rfl⟩ := cvec3 f2
  exact implScore_ok v1 v2 x y z a b c w h1 h2 f1 f2
theorem modelScore3 (v1 v2 : Value) (p q : List Int) (w : World) (h1 : IsInts w v1 p) (h2 : IsInts w v2 q) (f1 : vecFault p = 0) (f2 : vecFault q = 0) :
    Calls Try.prog 86 #[v1, v2] w fun e w' => e = .returned (.int .i64 (score3 p q)) ∧ Below w.heap.size w w' := by
  obtain ⟨x, y, z, rfl⟩ := cvec3 f1
  obtain ⟨a, b, c, rfl⟩ := cvec3 f2
  obtain ⟨b1, o1, k1, x', y', z', he, rfl, hbl, c0, c1, c2⟩ := h1.three rfl
  simp only [List.cons.injEq, and_true] at he
  obtain ⟨rfl, rfl, rfl⟩ := he
  obtain ⟨b2, o2, k2, x', y', z', he, rfl, hbl2, d0, d1, d2⟩ := h2.three rfl
  simp only [List.cons.injEq, and_true] at he
  obtain ⟨rfl, rfl, rfl⟩ := he
  exact modelSum b1 o1 k1 b2 o2 k2 x y z a b c w c0 c1 c2 d0 d1 d2 f1 f2

end Go.Proofs.Ytjofcmdlcoganaa

namespace Go.Proofs.Ytjofcmdlcoganaa
open Go.RowKit

set_option maxRecDepth 100000 in
set_option maxHeartbeats 1000000 in
theorem nearC_pos (b off cap : Nat) (cs : List DCenter) (a2 : Option Addr) (d2 : Nat) (q : List Int) (w : World) (h : (Lay.sl Lay.tCenter).Reads w [.slice (some ⟨b, off, none⟩) cs.length cap] cs) (hbl : b < w.heap.size) (hq : IsInts w (.slice a2 q.length d2) q) (hc0 : centersFault cs = 0) (hv : vecFault q = 0) :
    Calls Try.prog 56 #[.slice (some ⟨b, off, none⟩) cs.length cap, .slice a2 q.length d2] w fun e w' => e = .returned (.tuple #[.int .i64 (near cs q : Nat), .int .i64 (nearS cs q)]) ∧ Below w.heap.size w w' := by
  obtain ⟨hn, hall⟩ := centersFault_zero hc0
  have HQ := hide hq
  have HA := hide hall
  have HV := hide hv
  have H := hide h
  have HN : Hid ((near cs q = (nearK cs q cs.length).1) ∧ (nearS cs q = (nearK cs q cs.length).2)) := ⟨rfl, rfl⟩
  clear h hq hall hc0 hv
  go_enter Try.func56, Try.ntmps56
  go_wp2_with fail
  go_loopw [6, 7, 12] (fun a l i wr => ∃ k : Nat, k ≤ cs.length ∧ i = .int .i64 k ∧ a = .int .i64 ((nearK cs q k).1 : Nat) ∧ l = .int .i64 (nearK cs q k).2 ∧ Below w.heap.size w wr) (fun _ _ i _ => cs.length - (intOf i).toNat)
  case atStart => exact ⟨0, Nat.zero_le _, rfl, rfl, rfl, Below.refl _ _⟩
  case round =>
    obtain ⟨k, hk, rfl, rfl, rfl, hB⟩ := hrel
    by_cases hlt : k < cs.length
    · obtain ⟨row, hc, hr⟩ := Lay.row_at (unhide H) hlt
      replace hr := hr.later hB
      obtain ⟨a1, d1, rfl, R1⟩ := open_Center hr
      have c1 : wr.cell? ⟨b, off + k, none⟩ = some (.slice a1 (cs[k]).vec.length d1) := (hB.cell (p := ⟨b, off + k, none⟩) hbl).trans (cen_cell (hc 0 (by decide)))
      have HS := hide (nearK_step cs q k hlt)
      have hbd := nearK_bd (unhide HA) (unhide HV) k hk
      have hvx := unhide HA cs[k] (List.getElem_mem hlt)
      clear hc hr
      generalize hx : cs[k] = x at *
      clear hx
      have hsb := cscore_bd hvx (unhide HV)
      have I1 := hide (Lay.ints_reads R1)
      have I2 := hide ((unhide HQ).later hB)
      have HX := hide hvx
      have HB := hide hB
      clear R1 hB hvx
      have L := hide (implScore3 _ _ x.vec q wr (unhide I1) (unhide I2) (unhide HX) (unhide HV))
      generalize score3 x.vec q = sc at *
      generalize hs : nearK cs q k = s at *
      clear hs
      obtain ⟨sa, sl⟩ := s
      simp only at hbd
      have hfl : ∀ W : World, (Instr.field 33 (.agg #[.int .i64 0, .int .i64 sc]) 1).run Try.prog W = .ok (.int .i64 sc) W := fun _ => by kernel_rfl
      go_wp2_with fail
      refine (unhide L).mono ?_
      rintro e w1 ⟨rfl, hb⟩
      have HB2 := hide ((unhide HB).trans (hb.mono (unhide HB).size))
      clear hb L HB I1 I2 c1
      cases hd : decide (sc < sl) with
      | true =>
        have HS2 : Hid (nearK cs q (k + 1) = (k, sc)) := (unhide HS).trans (if_pos (by simpa using hd))
        clear HS
        go_wp2_with fail
        go_roundw
        case rel => exact ⟨k + 1, by omega, by go_num, by rw [unhide HS2], by rw [unhide HS2], unhide HB2⟩
        case measure => simp [intOf]; omega
      | false =>
        have HS2 : Hid (nearK cs q (k + 1) = (sa, sl)) := (unhide HS).trans (if_neg (by simpa using hd))
        clear HS
        go_wp2_with fail
        go_roundw
        case rel => exact ⟨k + 1, by omega, by go_num, by rw [unhide HS2], by rw [unhide HS2], unhide HB2⟩
        case measure => simp [intOf]; omega
    · obtain rfl : k = cs.length := by omega
      have HB := hide hB
      clear hB H
      go_wp2_with fail
      refine bodyPost_ret (v := .tuple #[.int .i64 ((nearK cs q cs.length).1 : Nat), .int .i64 (nearK cs q cs.length).2]) (by simp [results, Try.results56, go_sem]) rfl ⟨rfl, unhide HB⟩

theorem nearC (v : Value) (cs : List DCenter) (vq : Value) (q : List Int) (w : World) (h : (Lay.sl Lay.tCenter).Reads w [v] cs) (hq : IsInts w vq q) (hc : centersFault cs = 0) (hv : vecFault q = 0) :
    Calls Try.prog 56 #[v, vq] w fun e w' => e = .returned (.tuple #[.int .i64 (near cs q : Nat), .int .i64 (nearS cs q)]) ∧ Below w.heap.size w w' := by
  obtain ⟨ao, cap, rfl⟩ := open_sl h
  have hvq : ∃ a d, vq = .slice a q.length d := by obtain ⟨a, d, e, -⟩ := hq; exact ⟨a, d, e⟩
  obtain ⟨a2, d2, rfl⟩ := hvq
  obtain ⟨b, off, rfl, hbl⟩ := Lay.sl_addr h (centersFault_zero hc).1.1
  exact nearC_pos b off cap cs a2 d2 q w h hbl hq hc hv

end Go.Proofs.Ytjofcmdlcoganaa

namespace Go.Proofs.Ytjofcmdlcoganaa
open Go.RowKit

/-- A row of n triples. -/
structure Sums3 (w : World) (g n : Nat) (f : Nat → Nat → Int) : Prop where
  lt : g < w.heap.size
  soft : ∀ o, w.frozen? ⟨g, o, none⟩ = false
  cell : ∀ p, p < n → ∀ j, j < 3 → w.cell? ⟨g, p * 3 + j, none⟩ = some (.int .i64 (f p j))
/-- A row of n numbers. -/
structure Sums1 (w : World) (g n : Nat) (f : Nat → Int) : Prop where
  lt : g < w.heap.size
  soft : ∀ o, w.frozen? ⟨g, o, none⟩ = false
  cell : ∀ p, p < n → w.cell? ⟨g, p, none⟩ = some (.int .i64 (f p))
def upd3 (f : Nat → Nat → Int) (p : Nat) (x y z : Int) : Nat → Nat → Int := fun q j => if q = p then (if j = 0 then x else if j = 1 then y else z) else f q j
def upd1 (f : Nat → Int) (p : Nat) (x : Int) : Nat → Int := fun q => if q = p then x else f q

theorem Sums3.ext {S : Nat → Prop} {w w' : World} {g n : Nat} {f : Nat → Nat → Int} (h : Sums3 w g n f) (e : Ext S w w') (hs : ¬ S g) : Sums3 w' g n f := by
  have hh := e.block g h.lt hs
  exact ⟨Nat.lt_of_lt_of_le h.lt e.size, fun o => (frozen_of_heap hh o).trans (h.soft o), fun p hp j hj => (cell_of_heap hh _).trans (h.cell p hp j hj)⟩
theorem Sums3.later {w w' : World} {g n : Nat} {f : Nat → Nat → Int} (h : Sums3 w g n f) (hb : Below w.heap.size w w') : Sums3 w' g n f := h.ext (ext_of_below hb nowhere) fun h => h
theorem Sums3.drew {w : World} {g n : Nat} {f : Nat → Nat → Int} (h : Sums3 w g n f) : Sums3 w.drew g n f := ⟨h.lt, h.soft, h.cell⟩
theorem Sums1.ext {S : Nat → Prop} {w w' : World} {g n : Nat} {f : Nat → Int} (h : Sums1 w g n f) (e : Ext S w w') (hs : ¬ S g) : Sums1 w' g n f := by
  have hh := e.block g h.lt hs
  exact ⟨Nat.lt_of_lt_of_le h.lt e.size, fun o => (frozen_of_heap hh o).trans (h.soft o), fun p hp => (cell_of_heap hh _).trans (h.cell p hp)⟩
theorem Sums1.later {w w' : World} {g n : Nat} {f : Nat → Int} (h : Sums1 w g n f) (hb : Below w.heap.size w w') : Sums1 w' g n f := h.ext (ext_of_below hb nowhere) fun h => h
theorem Sums1.drew {w : World} {g n : Nat} {f : Nat → Int} (h : Sums1 w g n f) : Sums1 w.drew g n f := ⟨h.lt, h.soft, h.cell⟩

theorem frozen_set (w : World) (a : Addr) (v : Value) (p : Addr) : (w.setCell a v).frozen? p = w.frozen? p := by simp [go_sem]
theorem Sums1.set {w : World} {g n : Nat} {f : Nat → Int} (h : Sums1 w g n f) (p : Nat) (hp : p < n) (x : Int) : Sums1 (w.setCell ⟨g, p, none⟩ (.int .i64 x)) g n (upd1 f p x) := by
  refine ⟨by simpa using h.lt, fun o => (frozen_set _ _ _ _).trans (h.soft o), fun q hq => ?_⟩
  unfold upd1
  by_cases e : q = p
  · subst e
    rw [if_pos rfl]
    exact World.cell?_setCell_same _ _ _ (h.cell q hq)
  · rw [if_neg e]
    have : (w.setCell ⟨g, p, none⟩ (.int .i64 x)).cell? ⟨g, q, none⟩ = w.cell? ⟨g, q, none⟩ := by apply World.cell?_setCell_other; simp
    rw [this]
    exact h.cell q hq
theorem cell_set_same {w : World} {a : Addr} {u v : Value} (h : w.cell? a = some u) : (w.setCell a v).cell? a = some v := World.cell?_setCell_same _ _ _ h
theorem cell_set_off {w : World} {g o o' : Nat} {v : Value} (h : o' ≠ o) : (w.setCell ⟨g, o, none⟩ v).cell? ⟨g, o', none⟩ = w.cell? ⟨g, o', none⟩ := by apply World.cell?_setCell_other; simp
theorem Sums3.set {w : World} {g n : Nat} {f : Nat → Nat → Int} (h : Sums3 w g n f) (p : Nat) (hp : p < n) (x y z : Int) :
    Sums3 (((w.setCell ⟨g, p * 3, none⟩ (.int .i64 x)).setCell ⟨g, p * 3 + 1, none⟩ (.int .i64 y)).setCell ⟨g, p * 3 + 2, none⟩ (.int .i64 z)) g n (upd3 f p x y z) := by
  refine ⟨by simpa using h.lt, fun o => ((frozen_set _ _ _ _).trans ((frozen_set _ _ _ _).trans (frozen_set _ _ _ _))).trans (h.soft o), fun q hq j hj => ?_⟩
  unfold upd3
  by_cases e : q = p
  · subst e
    rw [if_pos rfl]
    have c0 := h.cell q hq 0 (by omega)
    have c1 := h.cell q hq 1 (by omega)
    have c2 := h.cell q hq 2 (by omega)
    match j, hj with
    | 0, _ =>
      rw [if_pos rfl, Nat.add_zero, cell_set_off (by omega), cell_set_off (by omega)]
      exact cell_set_same c0
    | 1, _ =>
      rw [if_neg (by omega), if_pos rfl, cell_set_off (by omega)]
      exact cell_set_same ((cell_set_off (by omega)).trans c1)
    | 2, _ =>
      rw [if_neg (by omega), if_neg (by omega)]
      exact cell_set_same ((cell_set_off (by omega)).trans ((cell_set_off (by omega)).trans c2))
  · rw [if_neg e, cell_set_off (by omega), cell_set_off (by omega), cell_set_off (by omega)]
    exact h.cell q hq j hj
theorem Sums3.of_row {w : World} {base T g n cap : Nat} (h : w.ownsRow base T 3 (.slice (some ⟨g, 0, none⟩) n cap) n (List.replicate (n * 3) (.int .i64 0))) : Sums3 w g n (fun _ _ => 0) := by
  refine ⟨(h.lt g rfl).2, fun o => h.frozenAt o, fun p hp j hj => ?_⟩
  have hm : p * 3 + j < n * 3 := by omega
  rw [h.cellAt (p * 3 + j) (by omega)]
  rw [List.getElem?_replicate, if_pos hm]
theorem Sums1.of_row {w : World} {base T g n cap : Nat} (h : w.ownsRow base T 1 (.slice (some ⟨g, 0, none⟩) n cap) n (List.replicate n (.int .i64 0))) : Sums1 w g n (fun _ => 0) := by
  refine ⟨(h.lt g rfl).2, fun o => h.frozenAt o, fun p hp => ?_⟩
  rw [h.cellAt p (by omega)]
  rw [List.getElem?_replicate, if_pos hp]

/-- The sums behind one item more. -/
def sumF (cs : List DCenter) (xs : List DItem) (k : Nat) : Nat → Nat → Int := fun p j => sumK cs xs p j k
def cntF (cs : List DCenter) (xs : List DItem) (k : Nat) : Nat → Int := fun p => cntK cs xs p k
theorem sumF_step (cs : List DCenter) (xs : List DItem) (k : Nat) (h : k < xs.length) (q j : Nat) (hj : j < 3) : sumF cs xs (k + 1) q j = upd3 (sumF cs xs k) (near cs xs[k].vec) (sumF cs xs k (near cs xs[k].vec) 0 + xs[k].vec.getD 0 0) (sumF cs xs k (near cs xs[k].vec) 1 + xs[k].vec.getD 1 0) (sumF cs xs k (near cs xs[k].vec) 2 + xs[k].vec.getD 2 0) q j := by
  unfold sumF upd3
  rw [sumK_step cs xs q j k h]
  by_cases e : near cs xs[k].vec = q
  · rw [if_pos e, if_pos e.symm, e]
    match j, hj with
    | 0, _ => rfl
    | 1, _ => rfl
    | 2, _ => rfl
  · rw [if_neg e, if_neg (fun h => e h.symm)]
theorem cntF_step (cs : List DCenter) (xs : List DItem) (k : Nat) (h : k < xs.length) (q : Nat) : cntF cs xs (k + 1) q = upd1 (cntF cs xs k) (near cs xs[k].vec) (cntF cs xs k (near cs xs[k].vec) + 1) q := by
  unfold cntF upd1
  rw [cntK_step cs xs q k h]
  by_cases e : near cs xs[k].vec = q
  · rw [if_pos e, if_pos e.symm, e]
  · rw [if_neg e, if_neg (fun h => e h.symm)]
theorem Sums3.same {w : World} {g n : Nat} {f f' : Nat → Nat → Int} (h : Sums3 w g n f) (e : ∀ q j, j < 3 → f' q j = f q j) : Sums3 w g n f' := ⟨h.lt, h.soft, fun p hp j hj => by rw [e p j hj]; exact h.cell p hp j hj⟩
theorem Sums1.same {w : World} {g n : Nat} {f f' : Nat → Int} (h : Sums1 w g n f) (e : ∀ q, f' q = f q) : Sums1 w g n f' := ⟨h.lt, h.soft, fun p hp => by rw [e p]; exact h.cell p hp⟩
theorem Sums1.sameLt {w : World} {g n : Nat} {f f' : Nat → Int} (h : Sums1 w g n f) (e : ∀ q, q < n → f' q = f q) : Sums1 w g n f' := ⟨h.lt, h.soft, fun p hp => by rw [e p hp]; exact h.cell p hp⟩

end Go.Proofs.Ytjofcmdlcoganaa

namespace Go.Proofs.Ytjofcmdlcoganaa
open Go.RowKit

theorem plusNum (x y : Int) (w : World) (h1 : -1000000 ≤ x + y) (h2 : x + y ≤ 1000000) :
    Calls Try.prog 78 #[.int .i64 x, .int .i64 y] w fun e w' => e = .returned (.int .i64 (x + y)) ∧ w' = w := by
  go_enter Try.func78, Try.ntmps78
  go_wp2_with fail
  go_ret
  exact ⟨rfl, rfl⟩

set_option maxRecDepth 10000 in
set_option maxHeartbeats 2000000 in
theorem plusVec (x y z a b c : Int) (w : World) (x1 : -1000000 ≤ x + a) (x2 : x + a ≤ 1000000) (y1 : -1000000 ≤ y + b) (y2 : y + b ≤ 1000000) (z1 : -1000000 ≤ z + c) (z2 : z + c ≤ 1000000) :
    Calls Try.prog 76 #[.agg #[.int .i64 x, .int .i64 y, .int .i64 z], .agg #[.int .i64 a, .int .i64 b, .int .i64 c]] w fun e w' => e = .returned (.agg #[.int .i64 (x + a), .int .i64 (y + b), .int .i64 (z + c)]) ∧ Below w.heap.size w w' := by
  go_enter Try.func76, Try.ntmps76
  go_wp2_with fail
  refine wp_loop_rounds 4 ?_
  rw [rounds_succ]
  go_wp2
  go_region
  go_wp2
  rw [rounds_succ]
  go_wp2
  go_region
  go_wp2
  rw [rounds_succ]
  go_wp2
  go_region
  go_wp2
  rw [rounds_succ]
  go_wp2
  refine bodyPost_ret (v := .agg #[.int .i64 (x + a), .int .i64 (y + b), .int .i64 (z + c)]) (by simp [results, Try.results76, go_sem]) rfl ⟨rfl, ?_⟩
  repeat first
    | exact Below.refl _ _
    | refine Below.drew ?_
    | refine Below.setCell ?_ (by simp <;> omega) _
    | refine Below.setCell ?_ (by simp) _
    | refine Below.alloc ?_ (by simp <;> omega) _
    | refine Below.alloc ?_ (by simp) _
    | refine below_drawn ?_ _

end Go.Proofs.Ytjofcmdlcoganaa

namespace Go.Proofs.Ytjofcmdlcoganaa
open Go.RowKit

theorem Ext.drewX {S : Nat → Prop} {a b : World} (h : Ext S a b) : Ext S a b.drew := ⟨h.os, h.tape, h.output, h.size, h.block⟩
theorem Ext.allocX {S : Nat → Prop} {a b : World} (h : Ext S a b) (o : Obj) : Ext S a (b.alloc o) := h.trans (ext_of_below ((Below.refl _ _).alloc (Nat.le_refl _) o) S)

end Go.Proofs.Ytjofcmdlcoganaa
