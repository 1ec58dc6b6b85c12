/-
  Texts of this proof in one: CenPlain, CenRow, CenFill, LayIntResult, CenRes, IvfPlain, AppInt, AppCenter, AppIvfList, AppItem, ImplTellExt, IvfTwo, ListsFill, CenFill2, StepMake, AppInts, ImplClone, CenScoreC, ImplCen, ImplNear, RangeKit, RegIn.
  Their conditions stand in their theorems.
-/
import Derived.Test.YtfgadegpdknocaaIb01
import Derived.Test.YtfgadegpdknocaaIb03
import Derived.Test.YtfgadegpdknocaaIb02
import Derived.Test.YtfgadegpdknocaaChecked
import Derived.Deep.AppendLies
import Derived.OwnWalk
import Derived.Maps.AppendAt
import Derived.BigQuiet
import Derived.Deep.QuietTactic
import Derived.WalkSmall
import Derived.RangeFuncNested
import Derived.RangeFuncBound
import Derived.RangeFuncCalls
import Derived.RangeFuncLeaves
import Derived.Shelf.Abstract
import Derived.Shelf.RegionOpen
import Derived.WalkKit
import Derived.OwnWalkIn
import Derived.TacticsInMore
import Derived.LoopNIn
import Derived.LoopIn
import Derived.Deep.RegionHeld3

namespace Go.Proofs.Ytfgadegpdknocaa
open Go.RowKit

def cenFrom : List DCenter → Int
  | [] => 0
  | c :: cs => if vecFault c.vec = 0 then cenFrom cs else vecFault c.vec
def centersFault (cs : List DCenter) : Int := if cs.length < 1 ∨ 6 < cs.length then 2 else cenFrom cs
theorem cenFrom_step (cs : List DCenter) (k : Nat) (h : k < cs.length) : cenFrom (cs.drop k) = if vecFault cs[k].vec = 0 then cenFrom (cs.drop (k + 1)) else vecFault cs[k].vec := by
  rw [List.drop_eq_getElem_cons h]
  rfl
theorem cenFrom_zero {cs : List DCenter} (h : cenFrom cs = 0) : ∀ c ∈ cs, vecFault c.vec = 0 := by
  induction cs with
  | nil => simp
  | cons c cs ih =>
    rw [cenFrom] at h
    by_cases h1 : vecFault c.vec = 0
    · rw [if_pos h1] at h
      intro d hd
      rcases List.mem_cons.1 hd with rfl | hd
      · exact h1
      · exact ih h d hd
    · rw [if_neg h1] at h; exact absurd h h1
theorem cenFrom_of {cs : List DCenter} (h : ∀ c ∈ cs, vecFault c.vec = 0) : cenFrom cs = 0 := by
  induction cs with
  | nil => rfl
  | cons c cs ih => rw [cenFrom, if_pos (h c (by simp))]; exact ih fun d hd => h d (List.mem_cons_of_mem _ hd)
theorem centersFault_zero {cs : List DCenter} (h : centersFault cs = 0) : (1 ≤ cs.length ∧ cs.length ≤ 6) ∧ ∀ c ∈ cs, vecFault c.vec = 0 := by
  unfold centersFault at h
  by_cases hn : cs.length < 1 ∨ 6 < cs.length
  · rw [if_pos hn] at h; cases h
  · rw [if_neg hn] at h
    exact ⟨by omega, cenFrom_zero h⟩
theorem centersFault_of {cs : List DCenter} (h1 : 1 ≤ cs.length ∧ cs.length ≤ 6) (h2 : ∀ c ∈ cs, vecFault c.vec = 0) : centersFault cs = 0 := by
  unfold centersFault
  rw [if_neg (by omega)]
  exact cenFrom_of h2
theorem vecFault_bd (q : List Int) : 0 ≤ vecFault q ∧ vecFault q ≤ 3 := by unfold vecFault; split <;> (try split) <;> decide
theorem centersFault_bd (cs : List DCenter) : 0 ≤ centersFault cs ∧ centersFault cs ≤ 3 := by
  unfold centersFault
  split
  · decide
  · induction cs with
    | nil => decide
    | cons c cs ih =>
      rw [cenFrom]
      split
      · by_cases h : cs.length < 1 ∨ 6 < cs.length
        · have hc : cs = [] ∨ 6 < cs.length := by
            rcases h with h | h
            · exact Or.inl (List.eq_nil_of_length_eq_zero (by omega))
            · exact Or.inr h
          rcases hc with rfl | hc
          · decide
          · rename_i h1 _
            simp only [List.length_cons] at h1
            omega
        · exact ih h
      · exact vecFault_bd _
theorem centersFault_wf (cs : List DCenter) : (Lit.int .i64 (centersFault cs)).wf = true := wf_of_bd (by have := centersFault_bd cs; omega)

/-- The nearest among the first k, and its score. -/
def nearK (cs : List DCenter) (v : List Int) : Nat → Nat × Int
  | 0 => (0, 12000001)
  | k + 1 => if score3 (cs.getD k ⟨[]⟩).vec v < (nearK cs v k).2 then (k, score3 (cs.getD k ⟨[]⟩).vec v) else nearK cs v k
def near (cs : List DCenter) (v : List Int) : Nat := (nearK cs v cs.length).1
def nearS (cs : List DCenter) (v : List Int) : Int := (nearK cs v cs.length).2
theorem getD_at {α : Type} {xs : List α} {k : Nat} (h : k < xs.length) (d : α) : xs.getD k d = xs[k] := by simp [List.getD, h]
theorem nearK_step (cs : List DCenter) (v : List Int) (k : Nat) (h : k < cs.length) : nearK cs v (k + 1) = if score3 cs[k].vec v < (nearK cs v k).2 then (k, score3 cs[k].vec v) else nearK cs v k := by
  rw [nearK, getD_at h]
theorem nearK_right {cs : List DCenter} {v : List Int} (hc : ∀ c ∈ cs, vecFault c.vec = 0) (hv : vecFault v = 0) (k : Nat) (h1 : 1 ≤ k) (h2 : k ≤ cs.length) :
    (nearK cs v k).1 < k ∧ (nearK cs v k).2 = score3 (cs.getD (nearK cs v k).1 ⟨[]⟩).vec v ∧ 0 ≤ (nearK cs v k).2 ∧ (nearK cs v k).2 ≤ 12000000 := by
  induction k with
  | zero => omega
  | succ k ih =>
    have hk : k < cs.length := by omega
    have hs := cscore_bd (hc cs[k] (List.getElem_mem hk)) hv
    rw [nearK_step cs v k hk]
    by_cases hl : score3 cs[k].vec v < (nearK cs v k).2
    · rw [if_pos hl]
      refine ⟨by simp, ?_, hs.1, hs.2⟩
      simp only [getD_at hk]
    · rw [if_neg hl]
      have hk0 : 1 ≤ k := by
        apply Nat.succ_le_of_lt
        apply Nat.pos_of_ne_zero
        rintro rfl
        simp only [nearK] at hl
        omega
      obtain ⟨a, b, c⟩ := ih hk0 (by omega)
      exact ⟨by omega, b, c⟩
theorem nearK_bd {cs : List DCenter} {v : List Int} (hc : ∀ c ∈ cs, vecFault c.vec = 0) (hv : vecFault v = 0) (k : Nat) (h2 : k ≤ cs.length) : 0 ≤ (nearK cs v k).2 ∧ (nearK cs v k).2 ≤ 12000001 ∧ (nearK cs v k).1 ≤ k := by
  by_cases h : 1 ≤ k
  · obtain ⟨a, -, b, c⟩ := nearK_right hc hv k h h2
    omega
  · obtain rfl : k = 0 := by omega
    simp [nearK]
theorem near_lt {cs : List DCenter} {v : List Int} (hc : centersFault cs = 0) (hv : vecFault v = 0) : near cs v < cs.length := by
  obtain ⟨⟨a, b⟩, c⟩ := centersFault_zero hc
  exact (nearK_right c hv cs.length a (Nat.le_refl _)).1
theorem nearS_eq {cs : List DCenter} {v : List Int} (hc : centersFault cs = 0) (hv : vecFault v = 0) (h : near cs v < cs.length) : nearS cs v = score3 (cs[near cs v]).vec v ∧ 0 ≤ nearS cs v ∧ nearS cs v ≤ 12000000 := by
  obtain ⟨⟨a, b⟩, c⟩ := centersFault_zero hc
  obtain ⟨-, e, b1, b2⟩ := nearK_right c hv cs.length a (Nat.le_refl _)
  refine ⟨?_, b1, b2⟩
  rw [← getD_at h ⟨[]⟩]
  exact e

/-- The places of the nearest centers. -/
def placesL (cs : List DCenter) (xs : List DItem) : List Int := xs.map fun x => (near cs x.vec : Int)
/-- The cost of the first k items. -/
def costK (cs : List DCenter) (xs : List DItem) : Nat → Int
  | 0 => 0
  | k + 1 => costK cs xs k + nearS cs (xs.getD k ⟨0, []⟩).vec
def cost (cs : List DCenter) (xs : List DItem) : Int := costK cs xs xs.length
theorem costK_step (cs : List DCenter) (xs : List DItem) (k : Nat) (h : k < xs.length) : costK cs xs (k + 1) = costK cs xs k + nearS cs xs[k].vec := by rw [costK, getD_at h]
theorem costK_bd {cs : List DCenter} {xs : List DItem} (hc : centersFault cs = 0) (hx : ∀ x ∈ xs, vecFault x.vec = 0) (k : Nat) (h : k ≤ xs.length) : 0 ≤ costK cs xs k ∧ costK cs xs k ≤ 12000000 * k := by
  induction k with
  | zero => simp [costK]
  | succ k ih =>
    have hk : k < xs.length := by omega
    have i := ih (by omega)
    have s := (nearS_eq hc (hx xs[k] (List.getElem_mem hk)) (near_lt hc (hx xs[k] (List.getElem_mem hk)))).2
    rw [costK_step cs xs k hk]
    omega

/-- How many of the first k items are at place p, and the sums of their parts. -/
def cntK (cs : List DCenter) (xs : List DItem) (p : Nat) : Nat → Int
  | 0 => 0
  | k + 1 => if near cs (xs.getD k ⟨0, []⟩).vec = p then cntK cs xs p k + 1 else cntK cs xs p k
def sumK (cs : List DCenter) (xs : List DItem) (p j : Nat) : Nat → Int
  | 0 => 0
  | k + 1 => if near cs (xs.getD k ⟨0, []⟩).vec = p then sumK cs xs p j k + (xs.getD k ⟨0, []⟩).vec.getD j 0 else sumK cs xs p j k
theorem cntK_step (cs : List DCenter) (xs : List DItem) (p k : Nat) (h : k < xs.length) : cntK cs xs p (k + 1) = if near cs xs[k].vec = p then cntK cs xs p k + 1 else cntK cs xs p k := by rw [cntK, getD_at h]
theorem sumK_step (cs : List DCenter) (xs : List DItem) (p j k : Nat) (h : k < xs.length) : sumK cs xs p j (k + 1) = if near cs xs[k].vec = p then sumK cs xs p j k + xs[k].vec.getD j 0 else sumK cs xs p j k := by rw [sumK, getD_at h]
theorem cntK_bd (cs : List DCenter) (xs : List DItem) (p k : Nat) : 0 ≤ cntK cs xs p k ∧ cntK cs xs p k ≤ k := by
  induction k with
  | zero => simp [cntK]
  | succ k ih =>
    rw [cntK]
    split <;> omega
theorem sumK_bd (cs : List DCenter) {xs : List DItem} (hx : ∀ x ∈ xs, vecFault x.vec = 0) (p j : Nat) (hj : j < 3) (k : Nat) (h : k ≤ xs.length) : -1000 * cntK cs xs p k ≤ sumK cs xs p j k ∧ sumK cs xs p j k ≤ 1000 * cntK cs xs p k := by
  induction k with
  | zero => simp [cntK, sumK]
  | succ k ih =>
    have hk : k < xs.length := by omega
    have i := ih (by omega)
    have b := (vecFault_zero (hx xs[k] (List.getElem_mem hk))).2 j hj
    rw [cntK_step cs xs p k hk, sumK_step cs xs p j k hk]
    split <;> omega
def cnt (cs : List DCenter) (xs : List DItem) (p : Nat) : Int := cntK cs xs p xs.length
def sums (cs : List DCenter) (xs : List DItem) (p : Nat) : List Int := [sumK cs xs p 0 xs.length, sumK cs xs p 1 xs.length, sumK cs xs p 2 xs.length]
/-- Where the center at place p moves to. -/
def meanAt (cs : List DCenter) (xs : List DItem) (p : Nat) : List Int := if cnt cs xs p = 0 then (cs.getD p ⟨[]⟩).vec else meanList (sums cs xs p) (cnt cs xs p)
def moved (cs : List DCenter) (xs : List DItem) : List DCenter := (List.range cs.length).map fun p => ⟨meanAt cs xs p⟩
theorem moved_len (cs : List DCenter) (xs : List DItem) : (moved cs xs).length = cs.length := by simp [moved]
theorem sums_right (cs : List DCenter) {xs : List DItem} (ht : tableFault xs = 0) (p : Nat) (h : cnt cs xs p ≠ 0) : meanFault (sums cs xs p) (cnt cs xs p) = 0 ∧ (1 ≤ cnt cs xs p ∧ cnt cs xs p ≤ 1000) := by
  obtain ⟨hl, ha, -⟩ := tableFault_zero ht
  have hx : ∀ x ∈ xs, vecFault x.vec = 0 := fun x hm => (ha x hm).2
  have hb := cntK_bd cs xs p xs.length
  unfold cnt at h
  have h1 : 1 ≤ cnt cs xs p ∧ cnt cs xs p ≤ 1000 := by unfold cnt; omega
  refine ⟨?_, h1⟩
  unfold meanFault
  rw [if_neg (by omega), if_pos (show (sums cs xs p).length = 3 from rfl), if_pos]
  have s0 := sumK_bd cs hx p 0 (by omega) xs.length (Nat.le_refl _)
  have s1 := sumK_bd cs hx p 1 (by omega) xs.length (Nat.le_refl _)
  have s2 := sumK_bd cs hx p 2 (by omega) xs.length (Nat.le_refl _)
  simp only [sums, List.all_cons, List.all_nil, sumB, cnt, Bool.and_eq_true, decide_eq_true_eq, and_true]
  exact ⟨s0, s1, s2⟩
theorem meanAt_right {cs : List DCenter} {xs : List DItem} (hc : centersFault cs = 0) (ht : tableFault xs = 0) (p : Nat) (hp : p < cs.length) : vecFault (meanAt cs xs p) = 0 := by
  unfold meanAt
  by_cases h : cnt cs xs p = 0
  · rw [if_pos h, getD_at hp]
    exact (centersFault_zero hc).2 _ (List.getElem_mem hp)
  · rw [if_neg h]
    obtain ⟨h1, h2, h3⟩ := sums_right cs ht p h
    obtain ⟨-, x, y, z, e, ⟨x1, x2⟩, ⟨y1, y2⟩, ⟨z1, z2⟩⟩ := meanFault_zero h1
    rw [meanList, if_pos h1, e]
    have b1 := mean_bd x _ h2 x1 x2
    have b2 := mean_bd y _ h2 y1 y2
    have b3 := mean_bd z _ h2 z1 z2
    refine vecFault_ok rfl fun j hj => ?_
    match j, hj with
    | 0, _ => simp only [List.getD_cons_zero, partB, Bool.and_eq_true, decide_eq_true_eq]; exact b1
    | 1, _ => simp only [List.getD_cons_zero, List.getD_cons_succ, partB, Bool.and_eq_true, decide_eq_true_eq]; exact b2
    | 2, _ => simp only [List.getD_cons_zero, List.getD_cons_succ, partB, Bool.and_eq_true, decide_eq_true_eq]; exact b3
theorem moved_right {cs : List DCenter} {xs : List DItem} (hc : centersFault cs = 0) (ht : tableFault xs = 0) : centersFault (moved cs xs) = 0 := by
  refine centersFault_of (by rw [moved_len]; exact (centersFault_zero hc).1) fun c hm => ?_
  obtain ⟨p, hp, rfl⟩ := List.mem_map.1 hm
  exact meanAt_right hc ht p (List.mem_range.1 hp)
theorem moved_take (cs : List DCenter) (xs : List DItem) (k : Nat) (hk : k < cs.length) : (moved cs xs).take (k + 1) = (moved cs xs).take k ++ [⟨meanAt cs xs k⟩] := by
  rw [List.take_succ_eq_append_getElem (by rw [moved_len]; exact hk)]
  simp [moved]

/-! ### Training -/
def seedB (s : Int) : Bool := decide (0 ≤ s) && decide (s ≤ 9999)
def trainFault (xs : List DItem) (seeds : List Int) (rounds : Int) : Int :=
  if tableFault xs = 0 then (if xs.length = 0 then 4 else if seeds.length < 1 ∨ 6 < seeds.length then 2 else if (decide (0 ≤ rounds) && decide (rounds ≤ 20)) then (if seeds.all seedB then 0 else 3) else 3) else tableFault xs
def seedC (xs : List DItem) (s : Int) : DCenter := ⟨(xs.getD (s.toNat % xs.length) ⟨0, []⟩).vec⟩
def seedCs (xs : List DItem) (seeds : List Int) : List DCenter := seeds.map (seedC xs)
def trainN (xs : List DItem) : Nat → List DCenter → List DCenter
  | 0, cs => cs
  | r + 1, cs => if cost cs xs ≤ cost (moved cs xs) xs then cs else trainN xs r (moved cs xs)
def trainR (xs : List DItem) (seeds : List Int) (rounds : Int) : DCentersResult :=
  if trainFault xs seeds rounds = 0 then ⟨0, trainN xs rounds.toNat (seedCs xs seeds)⟩ else ⟨trainFault xs seeds rounds, []⟩
theorem seedCs_right {xs : List DItem} {seeds : List Int} (ht : tableFault xs = 0) (h0 : xs.length ≠ 0) (hs : 1 ≤ seeds.length ∧ seeds.length ≤ 6) : centersFault (seedCs xs seeds) = 0 := by
  refine centersFault_of (by simpa [seedCs] using hs) fun c hm => ?_
  obtain ⟨s, -, rfl⟩ := List.mem_map.1 hm
  have hl : s.toNat % xs.length < xs.length := Nat.mod_lt _ (by omega)
  show vecFault (xs.getD (s.toNat % xs.length) ⟨0, []⟩).vec = 0
  rw [getD_at hl]
  exact ((tableFault_zero ht).2.1 _ (List.getElem_mem hl)).2
theorem trainN_right {xs : List DItem} (ht : tableFault xs = 0) (r : Nat) (cs : List DCenter) (hc : centersFault cs = 0) : centersFault (trainN xs r cs) = 0 ∧ (trainN xs r cs).length = cs.length ∧ cost (trainN xs r cs) xs ≤ cost cs xs := by
  induction r generalizing cs with
  | zero => exact ⟨hc, rfl, Int.le_refl _⟩
  | succ r ih =>
    rw [trainN]
    split
    · exact ⟨hc, rfl, Int.le_refl _⟩
    · obtain ⟨a, b, c⟩ := ih (moved cs xs) (moved_right hc ht)
      rename_i hlt
      exact ⟨a, by rw [b, moved_len], by omega⟩
theorem trainFault_bd (xs : List DItem) (seeds : List Int) (rounds : Int) (h : 0 ≤ tableFault xs ∧ tableFault xs ≤ 9) : 0 ≤ trainFault xs seeds rounds ∧ trainFault xs seeds rounds ≤ 9 := by
  unfold trainFault
  split
  · split
    · decide
    · split
      · decide
      · split
        · split <;> decide
        · decide
  · exact h

end Go.Proofs.Ytfgadegpdknocaa

namespace Go.Proofs.Ytfgadegpdknocaa
open Go.RowKit

theorem cen_cell {w : World} {b off k : Nat} {u : Option Value} (h : w.cell? ⟨b, off + k * Lay.tCenter.n + 0, none⟩ = u) : w.cell? ⟨b, off + k, none⟩ = u := by
  have q : w.cell? ⟨b, off + k * 1 + 0, none⟩ = u := h
  rw [Nat.mul_one, Nat.add_zero] at q
  exact q

end Go.Proofs.Ytfgadegpdknocaa

namespace Go.Proofs.Ytfgadegpdknocaa
open Go.RowKit

theorem infoCenF : (Try.prog.info? 104).map (fun i => (i.zero, i.size, i.bytes)) = some (some (.agg #[.slice none 0 0]), 1, 24) := by kernel_rfl

/-- The row in block G has n places; the first k hold those of cs. -/
def FillC (w : World) (G n k : Nat) (cs : List DCenter) : Prop :=
  ∃ (rows : List (List Value)) (Q : List Value) (hi : Nat), w.ownsRow G 104 1 (.slice (some ⟨G, 0, none⟩) n n) n (rows.flatten ++ Q) ∧ rows.flatten.length = k ∧ k ≤ n ∧ Lay.Subs Lay.tCenter w rows (cs.take k) (G + 1) hi ∧ hi ≤ w.heap.size ∧ G < hi

theorem FillC.start {w : World} {G n : Nat} {Q : List Value} (cs : List DCenter) (h : w.ownsRow G 104 1 (.slice (some ⟨G, 0, none⟩) n n) n Q) : FillC w G n 0 cs :=
  ⟨[], Q, w.heap.size, by simpa using h, rfl, Nat.zero_le _, Lay.subs_nil, Nat.le_refl _, (h.lt G rfl).2⟩
theorem FillC.later {w w' : World} {G n k : Nat} {cs : List DCenter} (h : FillC w G n k cs) (hb : Below w.heap.size w w') : FillC w' G n k cs := by
  obtain ⟨rows, Q, hi, ho, hl, hk, hsb, h1, h2⟩ := h
  exact ⟨rows, Q, hi, own_below ho hb, hl, hk, Lay.subs_ext hsb (ext_of_below hb nowhere) (fun _ _ _ h => h), Nat.le_trans h1 hb.size, h2⟩
theorem FillC.there {w : World} {G n k : Nat} {cs : List DCenter} (h : FillC w G n k cs) (hk : k < n) : (∃ u, w.cell? ⟨G, k, none⟩ = some u) ∧ w.frozen? ⟨G, k, none⟩ = false ∧ G < w.heap.size := by
  obtain ⟨rows, Q, hi, ho, hl, hk2, hsb, h1, h2⟩ := h
  have hlen : (rows.flatten ++ Q).length = n * 1 := ho.1
  refine ⟨?_, ho.frozenAt k, by omega⟩
  rw [ho.cellAt k (by omega)]
  exact ⟨_, List.getElem?_eq_getElem (by omega)⟩
theorem FillC.put {w w' : World} {G n k : Nat} {cs : List DCenter} {v : Value} {zs : List Int} (h : FillC w G n k cs) (hk : k < n) (hb : Below w.heap.size w w') (ho : (Lay.sl Lay.int).OwnIn w' [v] zs w.heap.size w'.heap.size) (ht : cs.take (k + 1) = cs.take k ++ [⟨zs⟩]) : FillC (w'.setCell ⟨G, k, none⟩ v) G n (k + 1) cs := by
  obtain ⟨rows, Q, hi, hown, hl, hk2, hsb, h1, h2⟩ := h.later hb
  obtain ⟨rows0, Q0, hi0, hown0, hl0, hk20, hsb0, h10, h20⟩ := h
  have hlen : (rows.flatten ++ Q).length = n * 1 := hown.1
  have hcen : Lay.tCenter.OwnIn w' [v] ⟨zs⟩ w.heap.size w'.heap.size := ho
  have hlG := (hown0.lt G rfl).2
  obtain ⟨rows, Q, hown, hl, hsb⟩ : ∃ rows Q, w'.ownsRow G 104 1 (.slice (some ⟨G, 0, none⟩) n n) n (rows.flatten ++ Q) ∧ rows.flatten.length = k ∧ Lay.Subs Lay.tCenter w' rows (cs.take k) (G + 1) hi0 :=
    ⟨rows0, Q0, own_below hown0 hb, hl0, Lay.subs_ext hsb0 (ext_of_below hb nowhere) (fun _ _ _ h => h)⟩
  have hlen : (rows.flatten ++ Q).length = n * 1 := hown.1
  have hs2 := Lay.subs_snoc hsb hcen h10 (by omega) (Nat.le_trans h10 hb.size)
  have E : Ext (fun q => q = G) w' (w'.setCell ⟨G, k, none⟩ v) := (Ext.refl _ _).setCell ⟨G, k, none⟩ v rfl
  have hs3 := Lay.subs_ext hs2 E (fun q a b c => by omega)
  have o3 := own_setAll hown k [v]
  rw [show k = rows.flatten.length from hl.symm, setFrom_app _ _ _ (by rw [List.length_append] at hlen; simp; omega), hl] at o3
  refine ⟨rows ++ [[v]], Q.drop 1, w'.heap.size, ?_, ?_, by omega, ?_, by simp, by have := hb.size; omega⟩
  · rw [List.flatten_append]
    simpa [setAll] using o3
  · rw [List.flatten_append]
    simp [hl]
  · rw [ht]
    exact hs3
theorem FillC.done {w : World} {G n : Nat} {cs : List DCenter} (h : FillC w G n n cs) (hl : cs.length = n) (hn : n ≤ 9223372036854775807) : (Lay.sl Lay.tCenter).OwnIn w [.slice (some ⟨G, 0, none⟩) n n] cs G w.heap.size := by
  obtain ⟨rows, Q, hi, hown, hlr, hk2, hsb, h1, h2⟩ := h
  have hlen : (rows.flatten ++ Q).length = n * 1 := hown.1
  have e0 : Q = [] := List.eq_nil_of_length_eq_zero (by rw [List.length_append] at hlen; omega)
  subst e0
  subst hl
  rw [List.append_nil] at hown
  rw [List.take_length] at hsb
  exact Lay.subs_done (A := Lay.tCenter) hown hsb (by omega) h1 hn

end Go.Proofs.Ytfgadegpdknocaa

namespace Go.Proofs.Ytfgadegpdknocaa
open Go.RowKit

structure DIntResult where
  code : Int
  value : Int

def Lay.tIntResult : Lay DIntResult := Lay.via (Lay.pair Lay.int Lay.int) (fun x => (x.code, x.value)) (fun p => ⟨p.1, p.2⟩)

theorem lies_IntResult {w : World} {cs : List Value} {x : DIntResult} {bl : List Nat} : Lay.tIntResult.lies w cs x bl ↔ cs = [.int .i64 x.code, .int .i64 x.value] ∧ bl = [] ∧ (Lit.int .i64 x.code).wf = true ∧ (Lit.int .i64 x.value).wf = true := by
  constructor
  · intro h
    obtain ⟨c0_, r0_, e0_, s0_, rfl, rfl, h0, h1⟩ := h
    obtain ⟨rfl, w0, rfl⟩ := h0
    obtain ⟨rfl, w1, rfl⟩ := h1
    exact ⟨by simp, by simp, w0, w1⟩
  · rintro ⟨rfl, hbl, w0, w1⟩
    rw [hbl]
    exact ⟨[.int .i64 x.code], [.int .i64 x.value], [], [], rfl, by simp, ⟨rfl, w0, rfl⟩, ⟨rfl, w1, rfl⟩⟩

end Go.Proofs.Ytfgadegpdknocaa

namespace Go.Proofs.Ytfgadegpdknocaa
open Go.RowKit

def nearestR (cs : List DCenter) (q : List Int) : DIntResult := if centersFault cs = 0 then (if vecFault q = 0 then ⟨0, (near cs q : Nat)⟩ else ⟨vecFault q, 0⟩) else ⟨centersFault cs, 0⟩
def askFault (cs : List DCenter) (xs : List DItem) : Int := if centersFault cs = 0 then tableFault xs else centersFault cs
theorem askFault_zero {cs : List DCenter} {xs : List DItem} (h : askFault cs xs = 0) : centersFault cs = 0 ∧ tableFault xs = 0 := by
  unfold askFault at h
  by_cases hc : centersFault cs = 0
  · rw [if_pos hc] at h; exact ⟨hc, h⟩
  · rw [if_neg hc] at h; exact absurd h hc
def assignR (cs : List DCenter) (xs : List DItem) : DIntsResult := if askFault cs xs = 0 then ⟨0, placesL cs xs⟩ else ⟨askFault cs xs, []⟩
def costR (cs : List DCenter) (xs : List DItem) : DIntResult := if askFault cs xs = 0 then ⟨0, cost cs xs⟩ else ⟨askFault cs xs, 0⟩
def movedR (cs : List DCenter) (xs : List DItem) : DCentersResult := if askFault cs xs = 0 then ⟨0, moved cs xs⟩ else ⟨askFault cs xs, []⟩
theorem own_intR {w : World} {c x : Int} {lo hi : Nat} (hc : (Lit.int .i64 c).wf = true) (hx : (Lit.int .i64 x).wf = true) : Lay.tIntResult.OwnIn w [.int .i64 c, .int .i64 x] ⟨c, x⟩ lo hi :=
  ⟨[], ⟨⟨[.int .i64 c], [.int .i64 x], [], [], rfl, by simp, ⟨rfl, hc, rfl⟩, ⟨rfl, hx, rfl⟩⟩, by simp, by simp⟩, by simp⟩
theorem own_censR {w : World} {c : Int} {v : Value} {cs : List DCenter} {lo hi : Nat} (hc : (Lit.int .i64 c).wf = true) (h : (Lay.sl Lay.tCenter).OwnIn w [v] cs lo hi) : Lay.tCentersResult.OwnIn w [.int .i64 c, v] ⟨c, cs⟩ lo hi := by
  obtain ⟨bl, ⟨l, n, f⟩, i⟩ := h
  exact ⟨bl, ⟨⟨[.int .i64 c], [v], [], bl, rfl, by simp, ⟨rfl, hc, rfl⟩, l⟩, n, f⟩, i⟩
theorem own_codeCens {w : World} {c : Int} {lo hi : Nat} (hc : (Lit.int .i64 c).wf = true) : Lay.tCentersResult.OwnIn w [.int .i64 c, .slice none 0 0] ⟨c, []⟩ lo hi := own_censR hc ⟨[], ⟨⟨none, 0, rfl, by simp, Or.inl ⟨rfl, rfl⟩⟩, by simp, by simp⟩, by simp⟩
theorem read_censR {w : World} {c : Int} {v : Value} {cs : List DCenter} (hc : (Lit.int .i64 c).wf = true) (h : (Lay.sl Lay.tCenter).Reads w [v] cs) : Lay.tCentersResult.Reads w [.int .i64 c, v] ⟨c, cs⟩ := by
  obtain ⟨bl, l⟩ := h
  exact ⟨bl, [.int .i64 c], [v], [], bl, rfl, by simp, ⟨rfl, hc, rfl⟩, l⟩
theorem own_intsR6 {w : World} {c : Int} {v : Value} {zs : List Int} {lo hi : Nat} (hc : (Lit.int .i64 c).wf = true) (h : (Lay.sl Lay.int).OwnIn w [v] zs lo hi) : Lay.tIntsResult.OwnIn w [.int .i64 c, v] ⟨c, zs⟩ lo hi := by
  obtain ⟨bl, ⟨l, n, f⟩, i⟩ := h
  exact ⟨bl, ⟨⟨[.int .i64 c], [v], [], bl, rfl, by simp, ⟨rfl, hc, rfl⟩, l⟩, n, f⟩, i⟩
theorem own_codeInts6 {w : World} {c : Int} {lo hi : Nat} (hc : (Lit.int .i64 c).wf = true) : Lay.tIntsResult.OwnIn w [.int .i64 c, .slice none 0 0] ⟨c, []⟩ lo hi := own_intsR6 hc ⟨[], ⟨⟨none, 0, rfl, by simp, Or.inl ⟨rfl, rfl⟩⟩, by simp, by simp⟩, by simp⟩
theorem tabFrom_bd (p : Option Int) (xs : List DItem) : 0 ≤ tabFrom p xs ∧ tabFrom p xs ≤ 3 := by
  induction xs generalizing p with
  | nil => show (0 : Int) ≤ 0 ∧ (0 : Int) ≤ 3; decide
  | cons x xs ih =>
    rw [tabFrom]
    split
    · split
      · split
        · exact ih _
        · decide
      · exact vecFault_bd _
    · decide
theorem tableFault_bd (xs : List DItem) : 0 ≤ tableFault xs ∧ tableFault xs ≤ 3 := by
  unfold tableFault
  split
  · decide
  · exact tabFrom_bd _ _
theorem askFault_bd (cs : List DCenter) (xs : List DItem) : 0 ≤ askFault cs xs ∧ askFault cs xs ≤ 3 := by
  unfold askFault
  split
  · exact tableFault_bd xs
  · exact centersFault_bd cs
theorem askFault_wf (cs : List DCenter) (xs : List DItem) : (Lit.int .i64 (askFault cs xs)).wf = true := wf_of_bd (by have := askFault_bd cs xs; omega)

end Go.Proofs.Ytfgadegpdknocaa

namespace Go.Proofs.Ytfgadegpdknocaa
open Go.RowKit

/-- All of list i are nearest to center i. -/
def atB (cs : List DCenter) (i : Nat) (xs : List DItem) : Bool := xs.all fun x => near cs x.vec == i
def listFault (cs : List DCenter) (i : Nat) (xs : List DItem) : Int := if tableFault xs = 0 then (if atB cs i xs then 0 else 1) else tableFault xs
def listsFrom (cs : List DCenter) : Nat → List DIvfList → Int
  | _, [] => 0
  | i, l :: ls => if listFault cs i l.items = 0 then listsFrom cs (i + 1) ls else listFault cs i l.items
/-- All items, put one behind the other. -/
def gatherI (out : List DItem) (xs : List DItem) : List DItem := xs.foldl (fun o x => putI o x.id x.vec) out
def allIs (ls : List DIvfList) : List DItem := ls.foldl (fun o l => gatherI o l.items) []
def countIs : List DIvfList → Nat
  | [] => 0
  | l :: ls => l.items.length + countIs ls
def ivfFault (x : DIvf) : Int :=
  if centersFault x.centers = 0 then (if x.lists.length = x.centers.length then (if listsFrom x.centers 0 x.lists = 0 then (if (allIs x.lists).length = countIs x.lists then (if countIs x.lists ≤ 30 then 0 else 2) else 6) else listsFrom x.centers 0 x.lists) else 1) else centersFault x.centers
/-- The items of center i. -/
def mineI (cs : List DCenter) (xs : List DItem) (i : Nat) : List DItem := xs.filter fun x => near cs x.vec == i
def buildI (cs : List DCenter) (xs : List DItem) : DIvf := ⟨cs, (List.range cs.length).map fun i => ⟨mineI cs xs i⟩⟩
def emptyI : DIvf := ⟨[], []⟩
def buildIvfR (cs : List DCenter) (xs : List DItem) : DIvfResult := if askFault cs xs = 0 then ⟨0, buildI cs xs⟩ else ⟨askFault cs xs, emptyI⟩
def askedI (x : DIvf) (id : Int) : Int := if ivfFault x = 0 then (if idB id then 0 else 3) else ivfFault x
def addIvfR (x : DIvf) (id : Int) (vec : List Int) : DIvfResult :=
  if askedI x id = 0 then (if vecFault vec = 0 then (if 30 ≤ (allIs x.lists).length ∧ hasI (allIs x.lists) id = false then ⟨2, emptyI⟩ else ⟨0, buildI x.centers (putI (allIs x.lists) id vec)⟩) else ⟨vecFault vec, emptyI⟩) else ⟨askedI x id, emptyI⟩
def dropIvfR (x : DIvf) (id : Int) : DIvfResult := if askedI x id = 0 then ⟨0, buildI x.centers (dropI (allIs x.lists) id)⟩ else ⟨askedI x id, emptyI⟩
def itemsIvfR (x : DIvf) : DTableResult := if ivfFault x = 0 then ⟨0, allIs x.lists⟩ else ⟨ivfFault x, []⟩

theorem listsFrom_step (cs : List DCenter) (ls : List DIvfList) (k : Nat) (h : k < ls.length) : listsFrom cs k (ls.drop k) = if listFault cs k ls[k].items = 0 then listsFrom cs (k + 1) (ls.drop (k + 1)) else listFault cs k ls[k].items := by
  rw [List.drop_eq_getElem_cons h]
  rfl
theorem listFault_zero {cs : List DCenter} {i : Nat} {xs : List DItem} (h : listFault cs i xs = 0) : tableFault xs = 0 ∧ atB cs i xs = true := by
  unfold listFault at h
  by_cases h1 : tableFault xs = 0
  · rw [if_pos h1] at h
    by_cases h2 : atB cs i xs = true
    · exact ⟨h1, h2⟩
    · rw [if_neg h2] at h; cases h
  · rw [if_neg h1] at h; exact absurd h h1
theorem listsFrom_zero {cs : List DCenter} {i : Nat} {ls : List DIvfList} (h : listsFrom cs i ls = 0) : ∀ j (hj : j < ls.length), tableFault ls[j].items = 0 ∧ atB cs (i + j) ls[j].items = true := by
  induction ls generalizing i with
  | nil => intro j hj; simp at hj
  | cons l ls ih =>
    rw [listsFrom] at h
    by_cases h1 : listFault cs i l.items = 0
    · rw [if_pos h1] at h
      intro j hj
      match j with
      | 0 => exact listFault_zero h1
      | j + 1 =>
        have := ih h j (by simpa using hj)
        simpa [Nat.add_comm, Nat.add_left_comm] using this
    · rw [if_neg h1] at h; exact absurd h h1
theorem listFault_bd (cs : List DCenter) (i : Nat) (xs : List DItem) : 0 ≤ listFault cs i xs ∧ listFault cs i xs ≤ 3 := by
  unfold listFault
  split
  · split <;> decide
  · exact tableFault_bd xs
theorem listsFrom_bd (cs : List DCenter) (i : Nat) (ls : List DIvfList) : 0 ≤ listsFrom cs i ls ∧ listsFrom cs i ls ≤ 3 := by
  induction ls generalizing i with
  | nil => show (0 : Int) ≤ 0 ∧ (0 : Int) ≤ 3; decide
  | cons l ls ih =>
    rw [listsFrom]
    split
    · exact ih _
    · exact listFault_bd _ _ _
theorem ivfFault_bd (x : DIvf) : 0 ≤ ivfFault x ∧ ivfFault x ≤ 6 := by
  unfold ivfFault
  split
  · split
    · split
      · split
        · split <;> decide
        · decide
      · have := listsFrom_bd x.centers 0 x.lists; omega
    · decide
  · have := centersFault_bd x.centers; omega
theorem ivfFault_wf (x : DIvf) : (Lit.int .i64 (ivfFault x)).wf = true := wf_of_bd (by have := ivfFault_bd x; omega)
theorem ivfFault_zero {x : DIvf} (h : ivfFault x = 0) : centersFault x.centers = 0 ∧ x.lists.length = x.centers.length ∧ listsFrom x.centers 0 x.lists = 0 ∧ (allIs x.lists).length = countIs x.lists ∧ countIs x.lists ≤ 30 := by
  unfold ivfFault at h
  by_cases h1 : centersFault x.centers = 0
  · rw [if_pos h1] at h
    by_cases h2 : x.lists.length = x.centers.length
    · rw [if_pos h2] at h
      by_cases h3 : listsFrom x.centers 0 x.lists = 0
      · rw [if_pos h3] at h
        by_cases h4 : (allIs x.lists).length = countIs x.lists
        · rw [if_pos h4] at h
          by_cases h5 : countIs x.lists ≤ 30
          · exact ⟨h1, h2, h3, h4, h5⟩
          · rw [if_neg h5] at h; cases h
        · rw [if_neg h4] at h; cases h
      · rw [if_neg h3] at h; exact absurd h h3
    · rw [if_neg h2] at h; cases h
  · rw [if_neg h1] at h; exact absurd h h1
theorem gatherI_step (out xs : List DItem) (k : Nat) (h : k < xs.length) : gatherI out (xs.take (k + 1)) = putI (gatherI out (xs.take k)) xs[k].id xs[k].vec := by
  rw [gatherI, List.take_succ_eq_append_getElem h, List.foldl_append]
  rfl
theorem allIs_step (ls : List DIvfList) (k : Nat) (h : k < ls.length) : allIs (ls.take (k + 1)) = gatherI (allIs (ls.take k)) ls[k].items := by
  rw [allIs, List.take_succ_eq_append_getElem h, List.foldl_append]
  rfl
theorem gatherI_rising {out : List DItem} (h : Rising out) (xs : List DItem) : Rising (gatherI out xs) := by
  induction xs generalizing out with
  | nil => exact h
  | cons x xs ih => exact ih (putI_rising h x.id x.vec)
theorem allIs_rising (ls : List DIvfList) : Rising (allIs ls) := by
  have : ∀ (o : List DItem), Rising o → Rising (ls.foldl (fun o l => gatherI o l.items) o) := by
    induction ls with
    | nil => exact fun o h => h
    | cons l ls ih => exact fun o h => ih _ (gatherI_rising h l.items)
  exact this [] List.Pairwise.nil
theorem putI_len_le {xs : List DItem} (h : Rising xs) (id : Int) (vec : List Int) : (putI xs id vec).length ≤ xs.length + 1 := by
  rw [putI_len h]
  split <;> omega
theorem gatherI_len {out : List DItem} (h : Rising out) (xs : List DItem) : (gatherI out xs).length ≤ out.length + xs.length := by
  induction xs generalizing out with
  | nil => exact Nat.le_refl _
  | cons x xs ih =>
    have h1 := ih (putI_rising h x.id x.vec)
    have h2 := putI_len_le h x.id x.vec
    have e : gatherI out (x :: xs) = gatherI (putI out x.id x.vec) xs := rfl
    rw [e, List.length_cons]
    omega
theorem gatherI_mem {out xs : List DItem} {y : DItem} (h : y ∈ gatherI out xs) : y ∈ out ∨ y ∈ xs := by
  induction xs generalizing out with
  | nil => exact Or.inl h
  | cons x xs ih =>
    rcases ih h with h1 | h1
    · rcases mem_putI.1 h1 with rfl | ⟨h2, -⟩
      · exact Or.inr (by cases x; simp)
      · exact Or.inl h2
    · exact Or.inr (List.mem_cons_of_mem _ h1)
theorem foldIs_mem (ls : List DIvfList) (o : List DItem) {y : DItem} (h : y ∈ ls.foldl (fun o l => gatherI o l.items) o) : y ∈ o ∨ ∃ l ∈ ls, y ∈ l.items := by
  induction ls generalizing o with
  | nil => exact Or.inl h
  | cons l ls ih =>
    rcases ih _ h with h1 | ⟨m, h1, h2⟩
    · rcases gatherI_mem h1 with h3 | h3
      · exact Or.inl h3
      · exact Or.inr ⟨l, by simp, h3⟩
    · exact Or.inr ⟨m, List.mem_cons_of_mem _ h1, h2⟩
theorem allIs_mem {ls : List DIvfList} {y : DItem} (h : y ∈ allIs ls) : ∃ l ∈ ls, y ∈ l.items := by
  rcases foldIs_mem ls [] h with h1 | h1
  · cases h1
  · exact h1
theorem allIs_len (ls : List DIvfList) : (allIs ls).length ≤ countIs ls := by
  have : ∀ (o : List DItem), Rising o → (ls.foldl (fun o l => gatherI o l.items) o).length ≤ o.length + countIs ls := by
    induction ls with
    | nil => exact fun o _ => Nat.le_refl _
    | cons l ls ih =>
      intro o ho
      have h1 := ih (gatherI o l.items) (gatherI_rising ho l.items)
      have h2 := gatherI_len ho l.items
      simp only [List.foldl_cons, countIs]
      omega
  have := this [] List.Pairwise.nil
  rw [List.length_nil, Nat.zero_add] at this
  exact this
theorem countIs_take (ls : List DIvfList) (k : Nat) (h : k < ls.length) : countIs (ls.take (k + 1)) = countIs (ls.take k) + ls[k].items.length := by
  induction ls generalizing k with
  | nil => simp at h
  | cons l ls ih =>
    match k with
    | 0 => simp [countIs]
    | k + 1 =>
      have := ih k (by simpa using h)
      simp only [List.take_succ_cons, countIs, List.getElem_cons_succ]
      omega
theorem countIs_le {ls : List DIvfList} (h : ∀ l ∈ ls, l.items.length ≤ 30) : countIs ls ≤ 30 * ls.length := by
  induction ls with
  | nil => simp [countIs]
  | cons l ls ih =>
    have h1 := h l (by simp)
    have h2 := ih fun m hm => h m (List.mem_cons_of_mem _ hm)
    simp only [countIs, List.length_cons]
    omega
theorem mineI_step (cs : List DCenter) (xs : List DItem) (i k : Nat) (h : k < xs.length) : mineI cs (xs.take (k + 1)) i = if near cs xs[k].vec == i then mineI cs (xs.take k) i ++ [xs[k]] else mineI cs (xs.take k) i := by
  rw [mineI, List.take_succ_eq_append_getElem h, List.filter_append]
  split
  · next h1 => simp [mineI, h1]
  · next h1 => simp [mineI, h1]
theorem mineI_len (cs : List DCenter) (xs : List DItem) (i : Nat) : (mineI cs xs i).length ≤ xs.length := List.length_filter_le _ _
theorem buildI_take (cs : List DCenter) (xs : List DItem) (k : Nat) (h : k < cs.length) : (buildI cs xs).lists.take (k + 1) = (buildI cs xs).lists.take k ++ [⟨mineI cs xs k⟩] := by
  show ((List.range cs.length).map _).take (k + 1) = _
  rw [List.take_succ_eq_append_getElem (by simpa using h)]
  simp [buildI]
theorem buildI_len (cs : List DCenter) (xs : List DItem) : (buildI cs xs).lists.length = cs.length := by simp [buildI]
theorem list_facts {x : DIvf} (h1 : listsFrom x.centers 0 x.lists = 0) : ∀ l ∈ x.lists, tableFault l.items = 0 := by
  intro l hl
  obtain ⟨j, hj, rfl⟩ := List.getElem_of_mem hl
  exact (listsFrom_zero h1 j hj).1
theorem allIs_right {x : DIvf} (h : ivfFault x = 0) : tableFault (allIs x.lists) = 0 := by
  obtain ⟨h1, h2, h3, h4, h5⟩ := ivfFault_zero h
  refine tableFault_of (by omega) (fun y hy => ?_) (allIs_rising _)
  obtain ⟨l, hl, hy⟩ := allIs_mem hy
  exact (tableFault_zero (list_facts h3 l hl)).2.1 y hy

end Go.Proofs.Ytfgadegpdknocaa

namespace Go.Proofs.Ytfgadegpdknocaa
open Go.RowKit

theorem grown_alloc {w w' : World} {o : Obj} {r : Option Nat} (h : (w.alloc o).grownBy w' r) : w.grownBy w' r := grown_trans (World.grownBy_alloc w o r) h

/-- At an operation of a plain region: 'append(s, q)', q laid into a block of its own first. -/
theorem wpList_append_int {w1 : World} {base : Nat} {v : Value} {n : Nat} {xs : List Value} (hown : w1.ownsRow base 2 1 v n xs) (q : Int) {ops : Array Oper} {rest : List Oper} {o : Oper} {a : Act} {Q : Exit → Act → World → Prop} (hgd : o.guard = none) (s x : Operand)
    (ho : o.op = .call { callee := .builtin .append, args := #[s, x], argTypes := #[51, 51] }) (hs : a.eval s = v) (hx : a.eval x = .slice (some ⟨w1.heap.size, 0, none⟩) 1 1)
    (hn : n ≤ 100000000) (hbase : base ≤ w1.heap.size)
    (h : ∀ g cap w', w'.ownsRow base 2 1 (.slice (some ⟨g, 0, none⟩) (n + 1) cap) (n + 1) (xs ++ [.int .i64 q]) → w1.grownBy w' v.ownBlock → Below base w1 w' → g < w'.heap.size → w1.heap.size < w'.heap.size → wpList Try.prog ops Q rest (a.put o.dst (.slice (some ⟨g, 0, none⟩) (n + 1) cap)) w') :
    wpList Try.prog ops Q (o :: rest) a (w1.alloc (.cells #[.int .i64 q] 2)) := by
  obtain ⟨i0, hi0, hz0, hz1, hz2⟩ := info_parts info2
  refine wpList_append_lies _ hgd s x 51 ho base 2 i0 _ 1 8 Try.underlying51 hi0 hz0 hz1 hz2 rfl (by omega) v n xs hs (hown.alloc _) ⟨w1.heap.size, 0, none⟩ 1 1 [.int .i64 q] hx rfl (World.news_of_block (cs := #[.int .i64 q]) (t := 2) (fr := (0, 0)) (heap_alloc_new w1 _)) (by simp [Value.oneCell']) (by omega) (by unfold maxLen; omega) (by omega) (by simp; omega) (w1.heap.size + 1) (by simp) ?_
  intro g cap w' h2 h3 _ h5
  have hg := grown_alloc h3
  have hsz := h3.size
  simp only [World.size_alloc] at hsz
  exact h g cap w' h2 hg ((Below.refl _ _).grown hg hbase (fun j hj => (hown.lt j hj).1)) h5 (by omega)

end Go.Proofs.Ytfgadegpdknocaa

namespace Go.Proofs.Ytfgadegpdknocaa
open Go.RowKit

theorem infoAppCenter : (Try.prog.info? 104).map (fun i => (i.zero, i.size, i.bytes)) = some (some (.agg #[.slice none 0 0]), 1, 24) := by kernel_rfl
theorem one_Center {w : World} {row : List Value} {x : DCenter} {bl : List Nat} (h : Lay.tCenter.lies w row x bl) : (∀ u ∈ row, u.oneCell' = true) ∧ row.length = 1 * 1 := by
  obtain ⟨_, _, _, rfl, -⟩ := lies_Center.1 h
  simp [Value.oneCell']

/-- At an operation of a plain region: the new one lies in a block of its own. -/
theorem wpList_append_Center {w1 : World} {base : Nat} {v : Value} {rows : List (List Value)} {xs : List DCenter} {bls : List (List Nat)} (hG : Grow Lay.tCenter w1 base 104 v rows xs bls) {row : List Value} {x : DCenter} {bl : List Nat} (hl : Lay.tCenter.lies w1 row x bl) (hbl : ∀ b ∈ bl, v.ownBlock ≠ some b) {ops : Array Oper} {rest : List Oper} {o : Oper} {a : Act} {Q : Exit → Act → World → Prop} (hgd : o.guard = none) (s y : Operand)
    (ho : o.op = .call { callee := .builtin .append, args := #[s, y], argTypes := #[28, 28] }) (hs : a.eval s = v) (hy : a.eval y = .slice (some ⟨w1.heap.size, 0, none⟩) 1 1) (hn : xs.length + 1 ≤ 100000000) (hbase : base ≤ w1.heap.size)
    (h : ∀ g cap w', Grow Lay.tCenter w' base 104 (.slice (some ⟨g, 0, none⟩) (xs.length + 1) cap) (rows ++ [row]) (xs ++ [x]) (bls ++ [bl]) → Below base w1 w' → Ext (fun q => v.ownBlock = some q) w1 w' → g < w'.heap.size → w1.heap.size ≤ w'.heap.size → (v.ownBlock = some g ∨ w1.heap.size ≤ g) → wpList Try.prog ops Q rest (a.put o.dst (.slice (some ⟨g, 0, none⟩) (xs.length + 1) cap)) w') :
    wpList Try.prog ops Q (o :: rest) a (w1.alloc (.cells row.toArray 104)) := by
  obtain ⟨i0, hi0, hz0, hz1, hz2⟩ := info_parts infoAppCenter
  obtain ⟨h1, hlen⟩ := one_Center hl
  refine wpList_append_lies _ hgd s y 28 ho base 104 i0 _ 1 24 Try.underlying28 hi0 hz0 hz1 hz2 rfl (by omega) v xs.length rows.flatten hs (hG.own.alloc _) ⟨w1.heap.size, 0, none⟩ 1 1 row hy hlen (World.news_of_block (cs := row.toArray) (t := 104) (fr := (0, 0)) (heap_alloc_new w1 _)) h1 (by omega) (by unfold maxLen; omega) (by omega) (by simp; omega) (w1.alloc (.cells row.toArray 104)).heap.size rfl ?_
  intro g cap w' h2 h3 h4 h5
  have hg := grown_alloc h3
  have hbw : Below base w1 w' := (Below.refl _ _).grown hg hbase (fun j hj => (hG.own.lt j hj).1)
  have hor : v.ownBlock = some g ∨ w1.heap.size ≤ g := by
    rcases h4 with h4 | h4
    · exact Or.inl h4
    · exact Or.inr (by rw [h4]; simp)
  exact h g cap w' (hG.snoc hl hbl h2 hg hor) hbw ⟨hbw.os, hbw.tape, hbw.output, hbw.size, fun k hk hn => hg.block k hk (fun e => hn e.symm)⟩ h5 hbw.size hor

/-- At a step of a region that draws its order. -/
theorem step_append_Center {w1 : World} {base : Nat} {v : Value} {rows : List (List Value)} {xs : List DCenter} {bls : List (List Nat)} (hG : Grow Lay.tCenter w1 base 104 v rows xs bls) {row : List Value} {x : DCenter} {bl : List Nat} (hl : Lay.tCenter.lies w1 row x bl) (hbl : ∀ b ∈ bl, v.ownBlock ≠ some b) {ops : Array Oper} {o : Oper} {a : Act} {K : Act → World → Prop} {Q : Exit → Act → World → Prop} {E : Prop} (hgd : o.guard = none) (s y : Operand)
    (ho : o.op = .call { callee := .builtin .append, args := #[s, y], argTypes := #[28, 28] }) (hs : a.eval s = v) (hy : a.eval y = .slice (some ⟨w1.heap.size, 0, none⟩) 1 1) (hn : xs.length + 1 ≤ 100000000) (hbase : base ≤ w1.heap.size)
    (h : ∀ g cap w', Grow Lay.tCenter w' base 104 (.slice (some ⟨g, 0, none⟩) (xs.length + 1) cap) (rows ++ [row]) (xs ++ [x]) (bls ++ [bl]) → Below base w1 w' → Ext (fun q => v.ownBlock = some q) w1 w' → g < w'.heap.size → w1.heap.size ≤ w'.heap.size → (v.ownBlock = some g ∨ w1.heap.size ≤ g) → K (a.put o.dst (.slice (some ⟨g, 0, none⟩) (xs.length + 1) cap)) w') :
    if Region.wanted o (yielded ops a.tmps) = true then Oper.wp Try.prog o a (w1.alloc (.cells row.toArray 104)) K Q else E := by
  obtain ⟨i0, hi0, hz0, hz1, hz2⟩ := info_parts infoAppCenter
  obtain ⟨h1, hlen⟩ := one_Center hl
  refine step_append_lies _ hgd s y 28 ho base 104 i0 _ 1 24 Try.underlying28 hi0 hz0 hz1 hz2 rfl (by omega) v xs.length rows.flatten hs (hG.own.alloc _) ⟨w1.heap.size, 0, none⟩ 1 1 row hy hlen (World.news_of_block (cs := row.toArray) (t := 104) (fr := (0, 0)) (heap_alloc_new w1 _)) h1 (by omega) (by unfold maxLen; omega) (by omega) (by simp; omega) (w1.alloc (.cells row.toArray 104)).heap.size rfl ?_
  intro g cap w' h2 h3 h4 h5
  have hg := grown_alloc h3
  have hbw : Below base w1 w' := (Below.refl _ _).grown hg hbase (fun j hj => (hG.own.lt j hj).1)
  have hor : v.ownBlock = some g ∨ w1.heap.size ≤ g := by
    rcases h4 with h4 | h4
    · exact Or.inl h4
    · exact Or.inr (by rw [h4]; simp)
  exact h g cap w' (hG.snoc hl hbl h2 hg hor) hbw ⟨hbw.os, hbw.tape, hbw.output, hbw.size, fun k hk hn => hg.block k hk (fun e => hn e.symm)⟩ h5 hbw.size hor

end Go.Proofs.Ytfgadegpdknocaa

namespace Go.Proofs.Ytfgadegpdknocaa
open Go.RowKit

theorem infoAppIvfList : (Try.prog.info? 147).map (fun i => (i.zero, i.size, i.bytes)) = some (some (.agg #[.slice none 0 0]), 1, 24) := by kernel_rfl
theorem one_IvfList {w : World} {row : List Value} {x : DIvfList} {bl : List Nat} (h : Lay.tIvfList.lies w row x bl) : (∀ u ∈ row, u.oneCell' = true) ∧ row.length = 1 * 1 := by
  obtain ⟨_, _, _, rfl, -⟩ := lies_IvfList.1 h
  simp [Value.oneCell']

/-- At an operation of a plain region: the new one lies in a block of its own. -/
theorem wpList_append_IvfList {w1 : World} {base : Nat} {v : Value} {rows : List (List Value)} {xs : List DIvfList} {bls : List (List Nat)} (hG : Grow Lay.tIvfList w1 base 147 v rows xs bls) {row : List Value} {x : DIvfList} {bl : List Nat} (hl : Lay.tIvfList.lies w1 row x bl) (hbl : ∀ b ∈ bl, v.ownBlock ≠ some b) {ops : Array Oper} {rest : List Oper} {o : Oper} {a : Act} {Q : Exit → Act → World → Prop} (hgd : o.guard = none) (s y : Operand)
    (ho : o.op = .call { callee := .builtin .append, args := #[s, y], argTypes := #[29, 29] }) (hs : a.eval s = v) (hy : a.eval y = .slice (some ⟨w1.heap.size, 0, none⟩) 1 1) (hn : xs.length + 1 ≤ 100000000) (hbase : base ≤ w1.heap.size)
    (h : ∀ g cap w', Grow Lay.tIvfList w' base 147 (.slice (some ⟨g, 0, none⟩) (xs.length + 1) cap) (rows ++ [row]) (xs ++ [x]) (bls ++ [bl]) → Below base w1 w' → Ext (fun q => v.ownBlock = some q) w1 w' → g < w'.heap.size → w1.heap.size ≤ w'.heap.size → (v.ownBlock = some g ∨ w1.heap.size ≤ g) → wpList Try.prog ops Q rest (a.put o.dst (.slice (some ⟨g, 0, none⟩) (xs.length + 1) cap)) w') :
    wpList Try.prog ops Q (o :: rest) a (w1.alloc (.cells row.toArray 147)) := by
  obtain ⟨i0, hi0, hz0, hz1, hz2⟩ := info_parts infoAppIvfList
  obtain ⟨h1, hlen⟩ := one_IvfList hl
  refine wpList_append_lies _ hgd s y 29 ho base 147 i0 _ 1 24 Try.underlying29 hi0 hz0 hz1 hz2 rfl (by omega) v xs.length rows.flatten hs (hG.own.alloc _) ⟨w1.heap.size, 0, none⟩ 1 1 row hy hlen (World.news_of_block (cs := row.toArray) (t := 147) (fr := (0, 0)) (heap_alloc_new w1 _)) h1 (by omega) (by unfold maxLen; omega) (by omega) (by simp; omega) (w1.alloc (.cells row.toArray 147)).heap.size rfl ?_
  intro g cap w' h2 h3 h4 h5
  have hg := grown_alloc h3
  have hbw : Below base w1 w' := (Below.refl _ _).grown hg hbase (fun j hj => (hG.own.lt j hj).1)
  have hor : v.ownBlock = some g ∨ w1.heap.size ≤ g := by
    rcases h4 with h4 | h4
    · exact Or.inl h4
    · exact Or.inr (by rw [h4]; simp)
  exact h g cap w' (hG.snoc hl hbl h2 hg hor) hbw ⟨hbw.os, hbw.tape, hbw.output, hbw.size, fun k hk hn => hg.block k hk (fun e => hn e.symm)⟩ h5 hbw.size hor

/-- At a step of a region that draws its order. -/
theorem step_append_IvfList {w1 : World} {base : Nat} {v : Value} {rows : List (List Value)} {xs : List DIvfList} {bls : List (List Nat)} (hG : Grow Lay.tIvfList w1 base 147 v rows xs bls) {row : List Value} {x : DIvfList} {bl : List Nat} (hl : Lay.tIvfList.lies w1 row x bl) (hbl : ∀ b ∈ bl, v.ownBlock ≠ some b) {ops : Array Oper} {o : Oper} {a : Act} {K : Act → World → Prop} {Q : Exit → Act → World → Prop} {E : Prop} (hgd : o.guard = none) (s y : Operand)
    (ho : o.op = .call { callee := .builtin .append, args := #[s, y], argTypes := #[29, 29] }) (hs : a.eval s = v) (hy : a.eval y = .slice (some ⟨w1.heap.size, 0, none⟩) 1 1) (hn : xs.length + 1 ≤ 100000000) (hbase : base ≤ w1.heap.size)
    (h : ∀ g cap w', Grow Lay.tIvfList w' base 147 (.slice (some ⟨g, 0, none⟩) (xs.length + 1) cap) (rows ++ [row]) (xs ++ [x]) (bls ++ [bl]) → Below base w1 w' → Ext (fun q => v.ownBlock = some q) w1 w' → g < w'.heap.size → w1.heap.size ≤ w'.heap.size → (v.ownBlock = some g ∨ w1.heap.size ≤ g) → K (a.put o.dst (.slice (some ⟨g, 0, none⟩) (xs.length + 1) cap)) w') :
    if Region.wanted o (yielded ops a.tmps) = true then Oper.wp Try.prog o a (w1.alloc (.cells row.toArray 147)) K Q else E := by
  obtain ⟨i0, hi0, hz0, hz1, hz2⟩ := info_parts infoAppIvfList
  obtain ⟨h1, hlen⟩ := one_IvfList hl
  refine step_append_lies _ hgd s y 29 ho base 147 i0 _ 1 24 Try.underlying29 hi0 hz0 hz1 hz2 rfl (by omega) v xs.length rows.flatten hs (hG.own.alloc _) ⟨w1.heap.size, 0, none⟩ 1 1 row hy hlen (World.news_of_block (cs := row.toArray) (t := 147) (fr := (0, 0)) (heap_alloc_new w1 _)) h1 (by omega) (by unfold maxLen; omega) (by omega) (by simp; omega) (w1.alloc (.cells row.toArray 147)).heap.size rfl ?_
  intro g cap w' h2 h3 h4 h5
  have hg := grown_alloc h3
  have hbw : Below base w1 w' := (Below.refl _ _).grown hg hbase (fun j hj => (hG.own.lt j hj).1)
  have hor : v.ownBlock = some g ∨ w1.heap.size ≤ g := by
    rcases h4 with h4 | h4
    · exact Or.inl h4
    · exact Or.inr (by rw [h4]; simp)
  exact h g cap w' (hG.snoc hl hbl h2 hg hor) hbw ⟨hbw.os, hbw.tape, hbw.output, hbw.size, fun k hk hn => hg.block k hk (fun e => hn e.symm)⟩ h5 hbw.size hor

end Go.Proofs.Ytfgadegpdknocaa

namespace Go.Proofs.Ytfgadegpdknocaa
open Go.RowKit

theorem infoAppItem : (Try.prog.info? 106).map (fun i => (i.zero, i.size, i.bytes)) = some (some (.agg #[.int .i64 0, .slice none 0 0]), 2, 32) := by kernel_rfl
theorem one_Item {w : World} {row : List Value} {x : DItem} {bl : List Nat} (h : Lay.tItem.lies w row x bl) : (∀ u ∈ row, u.oneCell' = true) ∧ row.length = 1 * 2 := by
  obtain ⟨_, _, _, rfl, -⟩ := lies_Item.1 h
  simp [Value.oneCell']

/-- At an operation of a plain region: the new one lies in a block of its own. -/
theorem wpList_append_Item {w1 : World} {base : Nat} {v : Value} {rows : List (List Value)} {xs : List DItem} {bls : List (List Nat)} (hG : Grow Lay.tItem w1 base 106 v rows xs bls) {row : List Value} {x : DItem} {bl : List Nat} (hl : Lay.tItem.lies w1 row x bl) (hbl : ∀ b ∈ bl, v.ownBlock ≠ some b) {ops : Array Oper} {rest : List Oper} {o : Oper} {a : Act} {Q : Exit → Act → World → Prop} (hgd : o.guard = none) (s y : Operand)
    (ho : o.op = .call { callee := .builtin .append, args := #[s, y], argTypes := #[42, 42] }) (hs : a.eval s = v) (hy : a.eval y = .slice (some ⟨w1.heap.size, 0, none⟩) 1 1) (hn : xs.length + 1 ≤ 100000000) (hbase : base ≤ w1.heap.size)
    (h : ∀ g cap w', Grow Lay.tItem w' base 106 (.slice (some ⟨g, 0, none⟩) (xs.length + 1) cap) (rows ++ [row]) (xs ++ [x]) (bls ++ [bl]) → Below base w1 w' → Ext (fun q => v.ownBlock = some q) w1 w' → g < w'.heap.size → w1.heap.size ≤ w'.heap.size → (v.ownBlock = some g ∨ w1.heap.size ≤ g) → wpList Try.prog ops Q rest (a.put o.dst (.slice (some ⟨g, 0, none⟩) (xs.length + 1) cap)) w') :
    wpList Try.prog ops Q (o :: rest) a (w1.alloc (.cells row.toArray 106)) := by
  obtain ⟨i0, hi0, hz0, hz1, hz2⟩ := info_parts infoAppItem
  obtain ⟨h1, hlen⟩ := one_Item hl
  refine wpList_append_lies _ hgd s y 42 ho base 106 i0 _ 2 32 Try.underlying42 hi0 hz0 hz1 hz2 rfl (by omega) v xs.length rows.flatten hs (hG.own.alloc _) ⟨w1.heap.size, 0, none⟩ 1 1 row hy hlen (World.news_of_block (cs := row.toArray) (t := 106) (fr := (0, 0)) (heap_alloc_new w1 _)) h1 (by omega) (by unfold maxLen; omega) (by omega) (by simp; omega) (w1.alloc (.cells row.toArray 106)).heap.size rfl ?_
  intro g cap w' h2 h3 h4 h5
  have hg := grown_alloc h3
  have hbw : Below base w1 w' := (Below.refl _ _).grown hg hbase (fun j hj => (hG.own.lt j hj).1)
  have hor : v.ownBlock = some g ∨ w1.heap.size ≤ g := by
    rcases h4 with h4 | h4
    · exact Or.inl h4
    · exact Or.inr (by rw [h4]; simp)
  exact h g cap w' (hG.snoc hl hbl h2 hg hor) hbw ⟨hbw.os, hbw.tape, hbw.output, hbw.size, fun k hk hn => hg.block k hk (fun e => hn e.symm)⟩ h5 hbw.size hor

/-- At a step of a region that draws its order. -/
theorem step_append_Item {w1 : World} {base : Nat} {v : Value} {rows : List (List Value)} {xs : List DItem} {bls : List (List Nat)} (hG : Grow Lay.tItem w1 base 106 v rows xs bls) {row : List Value} {x : DItem} {bl : List Nat} (hl : Lay.tItem.lies w1 row x bl) (hbl : ∀ b ∈ bl, v.ownBlock ≠ some b) {ops : Array Oper} {o : Oper} {a : Act} {K : Act → World → Prop} {Q : Exit → Act → World → Prop} {E : Prop} (hgd : o.guard = none) (s y : Operand)
    (ho : o.op = .call { callee := .builtin .append, args := #[s, y], argTypes := #[42, 42] }) (hs : a.eval s = v) (hy : a.eval y = .slice (some ⟨w1.heap.size, 0, none⟩) 1 1) (hn : xs.length + 1 ≤ 100000000) (hbase : base ≤ w1.heap.size)
    (h : ∀ g cap w', Grow Lay.tItem w' base 106 (.slice (some ⟨g, 0, none⟩) (xs.length + 1) cap) (rows ++ [row]) (xs ++ [x]) (bls ++ [bl]) → Below base w1 w' → Ext (fun q => v.ownBlock = some q) w1 w' → g < w'.heap.size → w1.heap.size ≤ w'.heap.size → (v.ownBlock = some g ∨ w1.heap.size ≤ g) → K (a.put o.dst (.slice (some ⟨g, 0, none⟩) (xs.length + 1) cap)) w') :
    if Region.wanted o (yielded ops a.tmps) = true then Oper.wp Try.prog o a (w1.alloc (.cells row.toArray 106)) K Q else E := by
  obtain ⟨i0, hi0, hz0, hz1, hz2⟩ := info_parts infoAppItem
  obtain ⟨h1, hlen⟩ := one_Item hl
  refine step_append_lies _ hgd s y 42 ho base 106 i0 _ 2 32 Try.underlying42 hi0 hz0 hz1 hz2 rfl (by omega) v xs.length rows.flatten hs (hG.own.alloc _) ⟨w1.heap.size, 0, none⟩ 1 1 row hy hlen (World.news_of_block (cs := row.toArray) (t := 106) (fr := (0, 0)) (heap_alloc_new w1 _)) h1 (by omega) (by unfold maxLen; omega) (by omega) (by simp; omega) (w1.alloc (.cells row.toArray 106)).heap.size rfl ?_
  intro g cap w' h2 h3 h4 h5
  have hg := grown_alloc h3
  have hbw : Below base w1 w' := (Below.refl _ _).grown hg hbase (fun j hj => (hG.own.lt j hj).1)
  have hor : v.ownBlock = some g ∨ w1.heap.size ≤ g := by
    rcases h4 with h4 | h4
    · exact Or.inl h4
    · exact Or.inr (by rw [h4]; simp)
  exact h g cap w' (hG.snoc hl hbl h2 hg hor) hbw ⟨hbw.os, hbw.tape, hbw.output, hbw.size, fun k hk hn => hg.block k hk (fun e => hn e.symm)⟩ h5 hbw.size hor

end Go.Proofs.Ytfgadegpdknocaa

namespace Go.Proofs.Ytfgadegpdknocaa
open Go.RowKit

theorem Ext.drewX {S : Nat → Prop} {a b : World} (h : Ext S a b) : Ext S a b.drew := ⟨h.os, h.tape, h.output, h.size, h.block⟩
theorem Ext.allocX {S : Nat → Prop} {a b : World} (h : Ext S a b) (o : Obj) : Ext S a (b.alloc o) := h.trans (ext_of_below ((Below.refl _ _).alloc (Nat.le_refl _) o) S)

end Go.Proofs.Ytfgadegpdknocaa

namespace Go.Proofs.Ytfgadegpdknocaa
open Go.RowKit

theorem own_ext {S : Nat → Prop} {w w' : World} {base T sz : Nat} {v : Value} {n : Nat} {xs : List Value} (h : w.ownsRow base T sz v n xs) (e : Ext S w w') (hs : ∀ c, v.ownBlock = some c → ¬ S c) : w'.ownsRow base T sz v n xs := by
  refine ⟨h.1, ?_⟩
  rcases h.2 with h2 | ⟨g, cap, cur, hv, hg, hh, r⟩
  · exact Or.inl h2
  · exact Or.inr ⟨g, cap, cur, hv, hg, (e.block g (lt_of_block hh) (hs g (by rw [hv]; rfl))).trans hh, r⟩
theorem Grow.ext {α : Type} {A : Lay α} {S : Nat → Prop} {w w' : World} {base T : Nat} {v : Value} {rows : List (List Value)} {xs : List α} {bls : List (List Nat)} (h : Grow A w base T v rows xs bls) (e : Ext S w w') (h1 : ∀ c, v.ownBlock = some c → ¬ S c) (h2 : ∀ c ∈ bls.flatten, ¬ S c) : Grow A w' base T v rows xs bls :=
  h.kept (own_ext h.own e h1) fun b hb => e.block b (h.sub_lt b hb) (h2 b hb)

/-- Centers and lists, each in a row of its own. -/
def Two (w : World) (base : Nat) (rc rl : Value) (cs : List DCenter) (ls : List DIvfList) : Prop :=
  ∃ rowsC blsC rowsL blsL, Grow Lay.tCenter w base 104 rc rowsC cs blsC ∧ Grow Lay.tIvfList w base 147 rl rowsL ls blsL ∧ (∀ b ∈ blsC.flatten, base ≤ b) ∧ (∀ b ∈ blsL.flatten, base ≤ b) ∧
    (∀ c ∈ blsL.flatten, rc.ownBlock ≠ some c) ∧ (∀ c ∈ blsC.flatten, rl.ownBlock ≠ some c) ∧ ∀ c, rc.ownBlock = some c → rl.ownBlock ≠ some c
theorem Two.later {w w' : World} {base : Nat} {rc rl : Value} {cs : List DCenter} {ls : List DIvfList} (h : Two w base rc rl cs ls) (hb : Below w.heap.size w w') : Two w' base rc rl cs ls := by
  obtain ⟨a, b, c, d, g1, g2, r⟩ := h
  exact ⟨a, b, c, d, g1.later hb, g2.later hb, r⟩
theorem Two.ext {S : Nat → Prop} {w w' : World} {base : Nat} {rc rl : Value} {cs : List DCenter} {ls : List DIvfList} (h : Two w base rc rl cs ls) (e : Ext S w w') (hs : ∀ c, base ≤ c → ¬ S c) : Two w' base rc rl cs ls := by
  obtain ⟨a, b, c, d, g1, g2, s1, s2, r⟩ := h
  exact ⟨a, b, c, d, g1.ext e (fun q hq => hs q (g1.own.lt q hq).1) (fun q hq => hs q (s1 q hq)), g2.ext e (fun q hq => hs q (g2.own.lt q hq).1) (fun q hq => hs q (s2 q hq)), s1, s2, r⟩
theorem two_nil (w : World) (base : Nat) : Two w base (.slice none 0 0) (.slice none 0 0) [] [] :=
  ⟨[], [], [], [], Grow.nil (World.ownsRow_nil _ _ _ _), Grow.nil (World.ownsRow_nil _ _ _ _), by simp, by simp, by simp, by simp, by simp [Value.ownBlock]⟩
theorem flat_add {bls : List (List Nat)} {bl : List Nat} {P : Nat → Prop} (h : ∀ c ∈ bls.flatten, P c) (h2 : ∀ c ∈ bl, P c) : ∀ c ∈ (bls ++ [bl]).flatten, P c := by
  intro c hc
  rw [List.flatten_append] at hc
  rcases List.mem_append.1 hc with hc | hc
  · exact h c hc
  · exact h2 c (by simpa using hc)
theorem Two.cens {w w' : World} {base g cap : Nat} {rc rl : Value} {cs : List DCenter} {ls : List DIvfList} {rowsC : List (List Value)} {blsC : List (List Nat)} {rowsL : List (List Value)} {blsL : List (List Nat)} {row : List Value} {x : DCenter} {bl : List Nat}
    (g2 : Grow Lay.tIvfList w base 147 rl rowsL ls blsL) (s1 : ∀ b ∈ blsC.flatten, base ≤ b) (s2 : ∀ b ∈ blsL.flatten, base ≤ b) (x1 : ∀ c ∈ blsL.flatten, rc.ownBlock ≠ some c) (x2 : ∀ c ∈ blsC.flatten, rl.ownBlock ≠ some c) (x3 : ∀ c, rc.ownBlock = some c → rl.ownBlock ≠ some c)
    (hG : Grow Lay.tCenter w' base 104 (.slice (some ⟨g, 0, none⟩) (cs.length + 1) cap) (rowsC ++ [row]) (cs ++ [x]) (blsC ++ [bl])) (e : Ext (fun q => rc.ownBlock = some q) w w') (hor : rc.ownBlock = some g ∨ w.heap.size ≤ g) (hb1 : ∀ b ∈ bl, base ≤ b) (hb2 : ∀ b ∈ bl, rl.ownBlock ≠ some b) :
    Two w' base (.slice (some ⟨g, 0, none⟩) (cs.length + 1) cap) rl (cs ++ [x]) ls := by
  have hlt := g2.sub_lt
  refine ⟨_, _, rowsL, blsL, hG, g2.ext e (fun c hc hs => x3 c hs hc) (fun c hc hs => x1 c hc hs), flat_add s1 hb1, s2, fun c hc hq => ?_, flat_add x2 hb2, fun c hc hq => ?_⟩
  · have eg : c = g := by simpa [Value.ownBlock] using hq.symm
    rcases hor with h | h
    · exact x1 c hc (by rw [h, eg])
    · have := hlt c hc; omega
  · have eg : c = g := by simpa [Value.ownBlock] using hc.symm
    rcases hor with h | h
    · exact x3 c (by rw [h, eg]) hq
    · have := (g2.own.lt c hq).2; omega
theorem Two.listsA {w w' : World} {base g cap : Nat} {rc rl : Value} {cs : List DCenter} {ls : List DIvfList} {rowsC : List (List Value)} {blsC : List (List Nat)} {rowsL : List (List Value)} {blsL : List (List Nat)} {row : List Value} {x : DIvfList} {bl : List Nat}
    (g1 : Grow Lay.tCenter w base 104 rc rowsC cs blsC) (s1 : ∀ b ∈ blsC.flatten, base ≤ b) (s2 : ∀ b ∈ blsL.flatten, base ≤ b) (x1 : ∀ c ∈ blsL.flatten, rc.ownBlock ≠ some c) (x2 : ∀ c ∈ blsC.flatten, rl.ownBlock ≠ some c) (x3 : ∀ c, rc.ownBlock = some c → rl.ownBlock ≠ some c)
    (hG : Grow Lay.tIvfList w' base 147 (.slice (some ⟨g, 0, none⟩) (ls.length + 1) cap) (rowsL ++ [row]) (ls ++ [x]) (blsL ++ [bl])) (e : Ext (fun q => rl.ownBlock = some q) w w') (hor : rl.ownBlock = some g ∨ w.heap.size ≤ g) (hb1 : ∀ b ∈ bl, base ≤ b) (hb2 : ∀ b ∈ bl, rc.ownBlock ≠ some b) :
    Two w' base rc (.slice (some ⟨g, 0, none⟩) (ls.length + 1) cap) cs (ls ++ [x]) := by
  have hlt := g1.sub_lt
  refine ⟨rowsC, blsC, _, _, g1.ext e (fun c hc hs => x3 c hc hs) (fun c hc hs => x2 c hc hs), hG, s1, flat_add s2 hb1, flat_add x1 hb2, fun c hc hq => ?_, fun c hc hq => ?_⟩
  · have eg : c = g := by simpa [Value.ownBlock] using hq.symm
    rcases hor with h | h
    · exact x2 c hc (by rw [h, eg])
    · have := hlt c hc; omega
  · have eg : c = g := by simpa [Value.ownBlock] using hq.symm
    rcases hor with h | h
    · exact x3 c hc (by rw [h, eg])
    · have := (g1.own.lt c hc).2; omega
theorem Two.lies {w : World} {base : Nat} {rc rl : Value} {cs : List DCenter} {ls : List DIvfList} (h : Two w base rc rl cs ls) (h1 : cs.length ≤ 1000) (h2 : ls.length ≤ 1000) : Lay.tIvf.LiesIn w [rc, rl] ⟨cs, ls⟩ base w.heap.size := by
  obtain ⟨a, b, c, d, g1, g2, s1, s2, -⟩ := h
  obtain ⟨bl1, l1, i1⟩ := g1.toLies (by omega) s1
  obtain ⟨bl2, l2, i2⟩ := g2.toLies (by omega) s2
  refine ⟨bl1 ++ bl2, ⟨[rc], [rl], bl1, bl2, rfl, rfl, l1, l2⟩, fun q hq => ?_⟩
  rcases List.mem_append.1 hq with hq | hq
  · exact i1 q hq
  · exact i2 q hq

end Go.Proofs.Ytfgadegpdknocaa

namespace Go.Proofs.Ytfgadegpdknocaa
open Go.RowKit

/-- A list of items of the call's own; its blocks are B. -/
def GrowO (w : World) (lo : Nat) (v : Value) (ys : List DItem) (B : List Nat) : Prop :=
  ∃ rows bls, Grow Lay.tItem w lo 106 v rows ys bls ∧ bls.flatten.Nodup ∧ (∀ b ∈ bls.flatten, lo ≤ b ∧ ∀ o, w.frozen? ⟨b, o, none⟩ = false) ∧ B = v.ownBlock.toList ++ bls.flatten
theorem GrowO.nil (w : World) (lo : Nat) : GrowO w lo (.slice none 0 0) [] [] :=
  ⟨[], [], Grow.nil (World.ownsRow_nil _ _ _ _), by simp, by simp, by simp [Value.ownBlock]⟩
theorem own_kept {w w' : World} {base T sz : Nat} {v : Value} {n : Nat} {xs : List Value} (h : w.ownsRow base T sz v n xs) (hk : ∀ c, v.ownBlock = some c → w'.heap[c]? = w.heap[c]?) : w'.ownsRow base T sz v n xs := by
  refine ⟨h.1, ?_⟩
  rcases h.2 with h2 | ⟨g, cap, cur, hv, hg, hh, r⟩
  · exact Or.inl h2
  · exact Or.inr ⟨g, cap, cur, hv, hg, (hk g (by rw [hv]; rfl)).trans hh, r⟩
theorem GrowO.keep {w w' : World} {lo : Nat} {v : Value} {ys : List DItem} {B : List Nat} (h : GrowO w lo v ys B) (hk : ∀ b ∈ B, w'.heap[b]? = w.heap[b]?) : GrowO w' lo v ys B := by
  obtain ⟨rows, bls, h1, h2, h3, rfl⟩ := h
  have k1 : ∀ b ∈ bls.flatten, w'.heap[b]? = w.heap[b]? := fun b hb => hk b (List.mem_append.2 (Or.inr hb))
  exact ⟨rows, bls, h1.kept (own_kept h1.own fun c hc => hk c (List.mem_append.2 (Or.inl (by rw [hc]; simp)))) k1, h2, fun b hb => ⟨(h3 b hb).1, fun o => (frozen_of_heap (k1 b hb) o).trans ((h3 b hb).2 o)⟩, rfl⟩
theorem GrowO.lt {w : World} {lo : Nat} {v : Value} {ys : List DItem} {B : List Nat} (h : GrowO w lo v ys B) : ∀ b ∈ B, lo ≤ b ∧ b < w.heap.size := by
  obtain ⟨rows, bls, h1, h2, h3, rfl⟩ := h
  intro b hb
  rcases List.mem_append.1 hb with hb | hb
  · exact h1.own.lt b (by simpa using hb)
  · exact ⟨(h3 b hb).1, h1.sub_lt b hb⟩
theorem GrowO.done {w : World} {lo : Nat} {v : Value} {ys : List DItem} {B : List Nat} (h : GrowO w lo v ys B) (hn : ys.length ≤ 1000) : ∃ bl, (Lay.sl Lay.tItem).lies w [v] ys bl ∧ bl.Nodup ∧ (∀ b ∈ bl, ∀ o, w.frozen? ⟨b, o, none⟩ = false) ∧ ∀ b ∈ bl, b ∈ B := by
  obtain ⟨rows, bls, h1, h2, h3, rfl⟩ := h
  have hr := h1.reads (by omega)
  rcases h1.form with ⟨rfl, rfl⟩ | ⟨g, cap, rfl, hg, hgl, hcap⟩
  · exact ⟨[], ⟨none, 0, rfl, ⟨by simp, by simp⟩, Or.inl ⟨rfl, rfl⟩⟩, by simp, by simp, by simp⟩
  · by_cases h0 : ys = []
    · subst h0
      exact ⟨[], ⟨_, cap, rfl, ⟨hcap, by simp⟩, Or.inl ⟨rfl, rfl⟩⟩, by simp, by simp, by simp⟩
    · simp only [if_neg h0] at hr
      rcases hr with hr | ⟨h4, -⟩
      · refine ⟨_, hr, ?_, ?_, ?_⟩
        · rw [List.nodup_cons]
          exact ⟨fun hm => h1.off g hm rfl, h2⟩
        · intro b hm o
          rcases List.mem_cons.1 hm with rfl | hm
          · exact h1.own.frozenAt o
          · exact (h3 b hm).2 o
        · intro b hm
          rcases List.mem_cons.1 hm with rfl | hm
          · simp [Value.ownBlock]
          · exact List.mem_append.2 (Or.inr hm)
      · exact absurd h4 h0

/-- A row with data behind it, in blocks from lo on. -/
theorem subs_own {α : Type} {A : Lay α} {w : World} {rows : List (List Value)} {xs : List α} {base T g cap lo hi : Nat} (hown : w.ownsRow base T A.n (.slice (some ⟨g, 0, none⟩) xs.length cap) xs.length rows.flatten) (h : Lay.Subs A w rows xs lo hi) (hg : g < lo) (hn : xs.length ≤ 9223372036854775807) :
    ∃ bl, (Lay.sl A).Own w [.slice (some ⟨g, 0, none⟩) xs.length cap] xs bl ∧ ∀ b ∈ bl, b = g ∨ lo ≤ b := by
  obtain ⟨bls, hr, hb, hl, hnd, hi', hf⟩ := h
  have hG : Grow A w base T (.slice (some ⟨g, 0, none⟩) xs.length cap) rows xs bls := ⟨hown, hr, hb, hl, fun b hm e => by
    have e2 : g = b := by simpa [Value.ownBlock] using e
    have := (hi' b hm).1
    omega⟩
  have hrd := hG.reads hn
  by_cases h0 : xs = []
  · subst h0
    rcases hG.form with ⟨e, -⟩ | ⟨g2, cap2, e, -, -, hcap⟩
    · cases e
    · exact ⟨[], ⟨⟨_, cap, rfl, ⟨by simp, by simp⟩, Or.inl ⟨rfl, rfl⟩⟩, by simp, by simp⟩, by simp⟩
  · simp only [if_neg h0] at hrd
    rcases hrd with hrd | ⟨h4, -⟩
    · refine ⟨_, ⟨hrd, ?_, ?_⟩, ?_⟩
      · rw [List.nodup_cons]
        exact ⟨fun hm => hG.off g hm rfl, hnd⟩
      · intro b hm o
        rcases List.mem_cons.1 hm with rfl | hm
        · exact hown.frozenAt o
        · exact hf b hm o
      · intro b hm
        rcases List.mem_cons.1 hm with rfl | hm
        · exact Or.inl rfl
        · exact Or.inr (hi' b hm).1
    · exact absurd h4 h0
/-- The row in block GL holds n lists; list i holds f i. -/
def ListsO (w : World) (GL lo n : Nat) (f : Nat → List DItem) : Prop :=
  (GL < lo ∧ lo ≤ w.heap.size) ∧ ∃ (vs : List Value) (B : Nat → List Nat), w.ownsRow GL 147 1 (.slice (some ⟨GL, 0, none⟩) n n) n vs ∧ (∀ i (h : i < vs.length), GrowO w lo vs[i] (f i) (B i)) ∧ ∀ i j, i < vs.length → j < vs.length → i ≠ j → ∀ b ∈ B i, b ∉ B j
theorem ListsO.start {w : World} {GL lo n : Nat} (hlo : GL < lo ∧ lo ≤ w.heap.size) (h : w.ownsRow GL 147 1 (.slice (some ⟨GL, 0, none⟩) n n) n (List.replicate n (.slice none 0 0))) : ListsO w GL lo n fun _ => [] :=
  ⟨hlo, _, fun _ => [], h, fun i hi => by rw [List.getElem_replicate]; exact GrowO.nil _ _, by simp⟩
theorem ListsO.later {w w' : World} {GL lo n : Nat} {f : Nat → List DItem} (h : ListsO w GL lo n f) (hb : Below w.heap.size w w') : ListsO w' GL lo n f := by
  obtain ⟨hlo, vs, B, h1, h2, h3⟩ := h
  exact ⟨⟨hlo.1, Nat.le_trans hlo.2 hb.size⟩, vs, B, own_below h1 hb, fun i hi => (h2 i hi).keep fun b hm => hb.block b ((h2 i hi).lt b hm).2, h3⟩
theorem ListsO.kept {w w' : World} {GL lo n : Nat} {f : Nat → List DItem} (h : ListsO w GL lo n f) (hz : w.heap.size ≤ w'.heap.size) (hk : ∀ b, GL ≤ b → b < w.heap.size → w'.heap[b]? = w.heap[b]?) : ListsO w' GL lo n f := by
  obtain ⟨hlo, vs, B, h1, h2, h3⟩ := h
  exact ⟨⟨hlo.1, Nat.le_trans hlo.2 hz⟩, vs, B, own_kept h1 fun c hc => hk c (h1.lt c hc).1 (h1.lt c hc).2, fun i hi => (h2 i hi).keep fun b hm => hk b (by have := ((h2 i hi).lt b hm).1; have := hlo.1; omega) ((h2 i hi).lt b hm).2, h3⟩
theorem ListsO.congr {w : World} {GL lo n : Nat} {f g : Nat → List DItem} (h : ListsO w GL lo n f) (e : ∀ i, i < n → f i = g i) : ListsO w GL lo n g := by
  obtain ⟨hlo, vs, B, h1, h2, h3⟩ := h
  have hl : vs.length = n * 1 := h1.1
  exact ⟨hlo, vs, B, h1, fun i hi => by rw [← e i (by omega)]; exact h2 i hi, h3⟩
theorem ListsO.open {w : World} {GL lo n : Nat} {f : Nat → List DItem} (h : ListsO w GL lo n f) {p : Nat} (hp : p < n) : ∃ v rows bls, w.cell? ⟨GL, p, none⟩ = some v ∧ w.frozen? ⟨GL, p, none⟩ = false ∧ Grow Lay.tItem w lo 106 v rows (f p) bls ∧
    ∀ (w1 w' : World) (row : List Value) (x : DItem) (bl : List Nat) (g cap : Nat), Below w.heap.size w w1 → Lay.tItem.Own w1 row x bl → (∀ b ∈ bl, w.heap.size ≤ b ∧ b < w1.heap.size) →
      Grow Lay.tItem w' lo 106 (.slice (some ⟨g, 0, none⟩) ((f p).length + 1) cap) (rows ++ [row]) (f p ++ [x]) (bls ++ [bl]) → Ext (fun q => v.ownBlock = some q) w1 w' → (v.ownBlock = some g ∨ w1.heap.size ≤ g) →
      ListsO (w'.setCell ⟨GL, p, none⟩ (.slice (some ⟨g, 0, none⟩) ((f p).length + 1) cap)) GL lo n fun i => if i = p then f p ++ [x] else f i := by
  obtain ⟨hlo, vs, B, h1, h2, h3⟩ := h
  have hl : vs.length = n * 1 := h1.1
  have hp' : p < vs.length := by omega
  obtain ⟨rows, bls, g1, g2, g3, g4⟩ := h2 p hp'
  refine ⟨vs[p], rows, bls, ?_, h1.frozenAt p, g1, ?_⟩
  · rw [h1.cellAt p (by omega)]
    exact List.getElem?_eq_getElem hp'
  intro w1 w' row x bl g cap hb ho hbl hG hE hor
  have hGL := (h1.lt GL rfl).2
  have hlo1 := hlo.1
  have hlo2 := hlo.2
  have hs1 := hb.size
  have hvo : ∀ c, vs[p].ownBlock = some c → c ∈ B p := fun c hc => by rw [g4]; exact List.mem_append.2 (Or.inl (by rw [hc]; simp))
  have hlt : ∀ i (hi : i < vs.length), ∀ b ∈ B i, lo ≤ b ∧ b < w.heap.size := fun i hi => (h2 i hi).lt
  have kp : ∀ b, b < w.heap.size → b ∉ B p → (w'.setCell ⟨GL, p, none⟩ (.slice (some ⟨g, 0, none⟩) ((f p).length + 1) cap)).heap[b]? = w.heap[b]? ∨ b = GL := fun b hb1 hb2 => by
    by_cases e : b = GL
    · exact Or.inr e
    · refine Or.inl ?_
      rw [heap_setCell_other _ _ _ _ (by simpa using e)]
      exact (hE.block b (by omega) fun hq => hb2 (hvo b hq)).trans (hb.block b hb1)
  have hGLp : GL ∉ B p := fun hm => by have := (hlt p hp' GL hm).1; omega
  have hG' : w'.heap[GL]? = w.heap[GL]? := (hE.block GL (by omega) fun hq => hGLp (hvo GL hq)).trans (hb.block GL hGL)
  have o1 : w'.ownsRow GL 147 1 (.slice (some ⟨GL, 0, none⟩) n n) n vs := own_kept h1 fun c hc => by
    obtain rfl : GL = c := by simpa [Value.ownBlock] using hc
    exact hG'
  have o2 := own_setAll o1 p [.slice (some ⟨g, 0, none⟩) ((f p).length + 1) cap]
  have hgw := (hG.own.lt g rfl)
  have hgG : g ≠ GL := by have := hgw.1; omega
  have nb : ∀ b ∈ bl, b ≠ GL ∧ w'.heap[b]? = w1.heap[b]? := fun b hm => ⟨by have := hbl b hm; omega, hE.block b (hbl b hm).2 fun hq => by have := (hlt p hp' b (hvo b hq)).2; have := (hbl b hm).1; omega⟩
  have ob : ∀ b ∈ bls.flatten, b ≠ GL ∧ b < w.heap.size ∧ w'.heap[b]? = w.heap[b]? := fun b hm => by
    have hbB : b ∈ B p := by rw [g4]; exact List.mem_append.2 (Or.inr hm)
    have hbl2 := hlt p hp' b hbB
    exact ⟨by omega, hbl2.2, (hE.block b (by omega) fun hq => g1.off b hm hq).trans (hb.block b hbl2.2)⟩
  refine ⟨⟨hlo.1, by have := hE.size; simp; omega⟩, vs.set p (.slice (some ⟨g, 0, none⟩) ((f p).length + 1) cap), fun i => if i = p then g :: (bls ++ [bl]).flatten else B i, ?_, ?_, ?_⟩
  · have e : setFrom vs p [.slice (some ⟨g, 0, none⟩) ((f p).length + 1) cap] = vs.set p (.slice (some ⟨g, 0, none⟩) ((f p).length + 1) cap) := rfl
    rw [← e]
    exact o2
  · intro i hi
    have hi' : i < vs.length := by simpa using hi
    by_cases e : i = p
    · subst e
      rw [List.getElem_set_self]
      dsimp only
      rw [if_pos rfl, if_pos rfl]
      refine ⟨rows ++ [row], bls ++ [bl], hG.kept (own_kept hG.own fun c hc => ?_) fun b hm => ?_, ?_, fun b hm => ?_, rfl⟩
      · obtain rfl : g = c := by simpa [Value.ownBlock] using hc
        exact heap_setCell_other _ _ _ _ (by simpa using hgG)
      · rw [List.flatten_append] at hm
        rcases List.mem_append.1 hm with hm | hm
        · exact heap_setCell_other _ _ _ _ (by simpa using (ob b hm).1)
        · exact heap_setCell_other _ _ _ _ (by simpa using (nb b (by simpa using hm)).1)
      · rw [List.flatten_append, List.nodup_append]
        refine ⟨g2, by simpa using ho.2.1, fun b hm c hc => ?_⟩
        have h5 := (ob b hm).2.1
        have h6 := (hbl c (by simpa using hc)).1
        omega
      · rw [List.flatten_append] at hm
        rcases List.mem_append.1 hm with hm | hm
        · refine ⟨(g3 b hm).1, fun o => ?_⟩
          rw [World.frozen?_setCell, frozen_of_heap (ob b hm).2.2 o]
          exact (g3 b hm).2 o
        · have hm' : b ∈ bl := by simpa using hm
          refine ⟨by have := (hbl b hm').1; omega, fun o => ?_⟩
          rw [World.frozen?_setCell, frozen_of_heap (nb b hm').2 o]
          exact ho.2.2 b hm' o
    · rw [List.getElem_set_ne (fun h => e h.symm)]
      dsimp only
      rw [if_neg e, if_neg e]
      refine (h2 i hi').keep fun b hm => ?_
      have h5 := hlt i hi' b hm
      rcases kp b h5.2 (h3 i p hi' hp' e b hm) with h6 | h6
      · exact h6
      · omega
  · have key : ∀ i, i < vs.length → i ≠ p → ∀ b ∈ B i, b ∉ g :: (bls ++ [bl]).flatten := fun i hi e b hm hm2 => by
      have h5 := hlt i hi b hm
      rcases List.mem_cons.1 hm2 with rfl | hm2
      · rcases hor with h6 | h6
        · exact h3 i p hi hp' e b hm (hvo b h6)
        · omega
      · rw [List.flatten_append] at hm2
        rcases List.mem_append.1 hm2 with hm2 | hm2
        · exact h3 i p hi hp' e b hm (by rw [g4]; exact List.mem_append.2 (Or.inr hm2))
        · have := (hbl b (by simpa using hm2)).1; omega
    intro i j hi hj hij b hbi hbj
    have hi' : i < vs.length := by simpa using hi
    have hj' : j < vs.length := by simpa using hj
    simp only at hbi hbj
    by_cases e1 : i = p
    · by_cases e2 : j = p
      · omega
      · rw [if_pos e1] at hbi
        rw [if_neg e2] at hbj
        exact key j hj' e2 b hbj hbi
    · rw [if_neg e1] at hbi
      by_cases e2 : j = p
      · rw [if_pos e2] at hbj
        exact key i hi' e1 b hbi hbj
      · rw [if_neg e2] at hbj
        exact h3 i j hi' hj' hij b hbi hbj
theorem nodup_map {is : List Nat} (bl : Nat → List Nat) (h0 : is.Nodup) (h1 : ∀ i ∈ is, (bl i).Nodup) (h2 : ∀ i ∈ is, ∀ j ∈ is, i ≠ j → ∀ b ∈ bl i, b ∉ bl j) : (is.map bl).flatten.Nodup := by
  induction is with
  | nil => simp
  | cons i is ih =>
    rw [List.nodup_cons] at h0
    rw [List.map_cons, List.flatten_cons, List.nodup_append]
    refine ⟨h1 i (by simp), ih h0.2 (fun j hj => h1 j (by simp [hj])) (fun j hj k hk => h2 j (by simp [hj]) k (by simp [hk])), fun b hb c hc e => ?_⟩
    obtain ⟨l, hl, hcl⟩ := List.mem_flatten.1 hc
    obtain ⟨j, hj, rfl⟩ := List.mem_map.1 hl
    exact h2 i (by simp) j (by simp [hj]) (fun e => h0.1 (e ▸ hj)) b hb (e ▸ hcl)
theorem ListsO.done {w : World} {GL lo n : Nat} {f : Nat → List DItem} (h : ListsO w GL lo n f) (hn : n ≤ 1000) (hf : ∀ i, i < n → (f i).length ≤ 1000) : ∃ bl, (Lay.sl Lay.tIvfList).Own w [.slice (some ⟨GL, 0, none⟩) n n] ((List.range n).map fun i => ⟨f i⟩) bl ∧ ∀ b ∈ bl, b = GL ∨ lo ≤ b := by
  obtain ⟨hlo, vs, B, h1, h2, h3⟩ := h
  have hl : vs.length = n * 1 := h1.1
  have hl2 : vs.length = n := by omega
  have hbl : ∀ i : Nat, ∃ bl : List Nat, ∀ h : i < vs.length, (Lay.sl Lay.tItem).lies w [vs[i]] (f i) bl ∧ bl.Nodup ∧ (∀ b ∈ bl, ∀ o, w.frozen? ⟨b, o, none⟩ = false) ∧ ∀ b ∈ bl, b ∈ B i := fun i => by
    by_cases hi : i < vs.length
    · obtain ⟨bl, q⟩ := (h2 i hi).done (hf i (by omega))
      exact ⟨bl, fun _ => q⟩
    · exact ⟨[], fun h => absurd h hi⟩
  obtain ⟨bl, hq⟩ := Classical.axiomOfChoice hbl
  have hmem : ∀ b ∈ ((List.range n).map bl).flatten, ∃ i, ∃ _ : i < vs.length, b ∈ bl i := fun b hb => by
    obtain ⟨l, hl1, hb1⟩ := List.mem_flatten.1 hb
    obtain ⟨i, hi, rfl⟩ := List.mem_map.1 hl1
    exact ⟨i, by rw [hl2]; exact List.mem_range.1 hi, hb1⟩
  have hS : Lay.Subs Lay.tIvfList w (vs.map fun v => [v]) ((List.range n).map fun i => (⟨f i⟩ : DIvfList)) lo w.heap.size := by
    refine ⟨(List.range n).map bl, by simp [hl2], by simp, fun j j1 j2 j3 => ?_, ?_, fun b hb => ?_, fun b hb => ?_⟩
    · have hj : j < vs.length := by simpa using j2
      have := (hq j hj).1
      simp only [List.getElem_map, List.getElem_range]
      exact this
    · refine nodup_map bl List.nodup_range (fun i hi => (hq i (by rw [hl2]; exact List.mem_range.1 hi)).2.1) fun i hi j hj hij b hb1 hb2 => ?_
      have hi' : i < vs.length := by rw [hl2]; exact List.mem_range.1 hi
      have hj' : j < vs.length := by rw [hl2]; exact List.mem_range.1 hj
      exact h3 i j hi' hj' hij b ((hq i hi').2.2.2 b hb1) ((hq j hj').2.2.2 b hb2)
    · obtain ⟨i, hi, hm⟩ := hmem b hb
      exact (h2 i hi).lt b ((hq i hi).2.2.2 b hm)
    · obtain ⟨i, hi, hm⟩ := hmem b hb
      exact (hq i hi).2.2.1 b hm
  have hflat : (vs.map fun v => [v]).flatten = vs := by
    clear h1 h2 h3 hq hmem hS hl hl2 hbl
    induction vs with
    | nil => rfl
    | cons v vs ih => rw [List.map_cons, List.flatten_cons, ih]; rfl
  have hlen : ((List.range n).map fun i => (⟨f i⟩ : DIvfList)).length = n := by simp
  have hown : w.ownsRow GL 147 1 (.slice (some ⟨GL, 0, none⟩) ((List.range n).map fun i => (⟨f i⟩ : DIvfList)).length n) ((List.range n).map fun i => (⟨f i⟩ : DIvfList)).length (vs.map fun v => [v]).flatten := by rw [hflat, hlen]; exact h1
  obtain ⟨bl2, q1, q2⟩ := subs_own (A := Lay.tIvfList) hown hS hlo.1 (by rw [hlen]; omega)
  rw [hlen] at q1
  exact ⟨bl2, q1, q2⟩

end Go.Proofs.Ytfgadegpdknocaa

namespace Go.Proofs.Ytfgadegpdknocaa
open Go.RowKit

/-- The row in block G has n places; the first k hold those of cs. -/
def FillL (w : World) (G lo n k : Nat) (cs : List DCenter) : Prop :=
  ∃ (rows : List (List Value)) (Q : List Value) (hi : Nat), w.ownsRow G 104 1 (.slice (some ⟨G, 0, none⟩) n n) n (rows.flatten ++ Q) ∧ rows.flatten.length = k ∧ k ≤ n ∧ Lay.Subs Lay.tCenter w rows (cs.take k) lo hi ∧ hi ≤ w.heap.size ∧ (G < lo ∧ lo ≤ hi)

theorem FillL.start {w : World} {G lo n : Nat} {Q : List Value} (cs : List DCenter) (hlo : G < lo ∧ lo ≤ w.heap.size) (h : w.ownsRow G 104 1 (.slice (some ⟨G, 0, none⟩) n n) n Q) : FillL w G lo n 0 cs :=
  ⟨[], Q, w.heap.size, by simpa using h, rfl, Nat.zero_le _, Lay.subs_nil, Nat.le_refl _, hlo⟩
theorem FillL.later {w w' : World} {G lo n k : Nat} {cs : List DCenter} (h : FillL w G lo n k cs) (hb : Below w.heap.size w w') : FillL w' G lo n k cs := by
  obtain ⟨rows, Q, hi, ho, hl, hk, hsb, h1, h2⟩ := h
  exact ⟨rows, Q, hi, own_below ho hb, hl, hk, Lay.subs_ext hsb (ext_of_below hb nowhere) (fun _ _ _ h => h), Nat.le_trans h1 hb.size, h2⟩
theorem FillL.there {w : World} {G lo n k : Nat} {cs : List DCenter} (h : FillL w G lo n k cs) (hk : k < n) : (∃ u, w.cell? ⟨G, k, none⟩ = some u) ∧ w.frozen? ⟨G, k, none⟩ = false ∧ G < w.heap.size := by
  obtain ⟨rows, Q, hi, ho, hl, hk2, hsb, h1, h2⟩ := h
  have hlen : (rows.flatten ++ Q).length = n * 1 := ho.1
  refine ⟨?_, ho.frozenAt k, by omega⟩
  rw [ho.cellAt k (by omega)]
  exact ⟨_, List.getElem?_eq_getElem (by omega)⟩
theorem FillL.put {w w' : World} {G lo n k : Nat} {cs : List DCenter} {v : Value} {zs : List Int} (h : FillL w G lo n k cs) (hk : k < n) (hb : Below w.heap.size w w') (ho : (Lay.sl Lay.int).OwnIn w' [v] zs w.heap.size w'.heap.size) (ht : cs.take (k + 1) = cs.take k ++ [⟨zs⟩]) : FillL (w'.setCell ⟨G, k, none⟩ v) G lo n (k + 1) cs := by
  obtain ⟨rows, Q, hi, hown, hl, hk2, hsb, h1, h2⟩ := h.later hb
  obtain ⟨rows0, Q0, hi0, hown0, hl0, hk20, hsb0, h10, h20⟩ := h
  have hlen : (rows.flatten ++ Q).length = n * 1 := hown.1
  have hcen : Lay.tCenter.OwnIn w' [v] ⟨zs⟩ w.heap.size w'.heap.size := ho
  have hlG := (hown0.lt G rfl).2
  obtain ⟨rows, Q, hown, hl, hsb⟩ : ∃ rows Q, w'.ownsRow G 104 1 (.slice (some ⟨G, 0, none⟩) n n) n (rows.flatten ++ Q) ∧ rows.flatten.length = k ∧ Lay.Subs Lay.tCenter w' rows (cs.take k) lo hi0 :=
    ⟨rows0, Q0, own_below hown0 hb, hl0, Lay.subs_ext hsb0 (ext_of_below hb nowhere) (fun _ _ _ h => h)⟩
  have hlen : (rows.flatten ++ Q).length = n * 1 := hown.1
  have hs2 := Lay.subs_snoc hsb hcen h10 (by omega) (Nat.le_trans h10 hb.size)
  have E : Ext (fun q => q = G) w' (w'.setCell ⟨G, k, none⟩ v) := (Ext.refl _ _).setCell ⟨G, k, none⟩ v rfl
  have hs3 := Lay.subs_ext hs2 E (fun q a b c => by omega)
  have o3 := own_setAll hown k [v]
  rw [show k = rows.flatten.length from hl.symm, setFrom_app _ _ _ (by rw [List.length_append] at hlen; simp; omega), hl] at o3
  refine ⟨rows ++ [[v]], Q.drop 1, w'.heap.size, ?_, ?_, by omega, ?_, by simp, by have := hb.size; omega⟩
  · rw [List.flatten_append]
    simpa [setAll] using o3
  · rw [List.flatten_append]
    simp [hl]
  · rw [ht]
    exact hs3
theorem FillL.done {w : World} {G lo n : Nat} {cs : List DCenter} (h : FillL w G lo n n cs) (hl : cs.length = n) (hn : n ≤ 9223372036854775807) : ∃ bl, (Lay.sl Lay.tCenter).Own w [.slice (some ⟨G, 0, none⟩) n n] cs bl ∧ ∀ b ∈ bl, b = G ∨ lo ≤ b := by
  obtain ⟨rows, Q, hi, hown, hlr, hk2, hsb, h1, h2⟩ := h
  have hlen : (rows.flatten ++ Q).length = n * 1 := hown.1
  have e0 : Q = [] := List.eq_nil_of_length_eq_zero (by rw [List.length_append] at hlen; omega)
  subst e0
  subst hl
  rw [List.append_nil] at hown
  rw [List.take_length] at hsb
  exact subs_own (A := Lay.tCenter) hown hsb h2.1 hn

end Go.Proofs.Ytfgadegpdknocaa

namespace Go.Proofs.Ytfgadegpdknocaa
open Go.RowKit

theorem step_make_full {P : Program} (w : World) {ops : Array Oper} {o : Oper} {a : Act} {K : Act → World → Prop} {Q : Exit → Act → World → Prop} {E : Prop}
    (hg : o.guard = none) (l c : Operand) (t : TypeId) (hop : o.op = Op.makeSlice t l c)
    (base : Nat) (e : TypeId) (i : TypeInfo) (z : Value) (size : Nat) (h1 : P.underlying t = some (.slice e)) (h2 : P.info? e = some i) (h3 : i.zero = some z) (h4 : i.size = size)
    (kl kc : IntKind) (L C : Int) (n : Nat) (hl : a.eval l = .int kl L) (hc : a.eval c = .int kc C) (hL : L = (n : Int)) (hC : C = (n : Int)) (b2 : i.bytes * n ≤ 281474976710656) (b3 : n ≤ maxLen) (b4 : base ≤ w.heap.size)
    (hK : ∀ w', w'.ownsRow base e size (.slice (some ⟨w.heap.size, 0, none⟩) n n) n (madeCells z.cells (n * size)).toList → w.grownBy w' none → K (a.put o.dst (.slice (some ⟨w.heap.size, 0, none⟩) n n)) w') :
    if Region.wanted o (yielded ops a.tmps) = true then Oper.wp P o a w K Q else E := by
  have hw : Region.wanted o (yielded ops a.tmps) = true := by simp [Region.wanted, hg]
  rw [if_pos hw]
  obtain ⟨w', hrun, r1, r2⟩ := run_make_full (P := P) w base t e i z size h1 h2 h3 h4 kl kc n b2 b3 b4
  subst hL
  subst hC
  unfold Oper.wp
  simp [execOp, hop, hl, hc, hrun, Result.andThen, Oper.upon]
  exact hK w' r1 r2
theorem made_nil (n : Nat) : (madeCells (Value.agg #[.slice none 0 0]).cells (n * 1)).toList = List.replicate n (.slice none 0 0) := by
  rw [show (Value.agg #[Value.slice none 0 0]).cells = #[Value.slice none 0 0] from rfl, toList_madeCells_one, Nat.mul_one]

end Go.Proofs.Ytfgadegpdknocaa

namespace Go.Proofs.Ytfgadegpdknocaa
open Go.RowKit

theorem append_noneI {P : Program} (t ty e : TypeId) (i : TypeInfo) (ht : P.underlying t = some (.slice e)) (hi : P.info? e = some i) (bo : Option Addr) (n cap c : Nat) (hn : n ≤ cap) (w : World) :
    (Builtin.append_ #[t, t] ty #[.slice bo n cap, .slice none 0 c]).run P w = (Builtin.append_ #[t, t] ty #[.slice bo n cap, .slice (some ⟨0, 0, none⟩) 0 c]).run P w := by
  simp [Builtin.append_, run_underlying ht, sizeOf, typeInfo, hi, Builtin.lenOf, hn, Builtin.firstCells, loadCells, loadCellsFrom]

theorem IsInts.news {w : World} {b off cap : Nat} {zs : List Int} (h : IsInts w (.slice (some ⟨b, off, none⟩) zs.length cap) zs) (hp : 0 < zs.length) : ∀ j u, (zs.map (Value.int .i64))[j]? = some u → w.cell? ((⟨b, off, none⟩ : Addr).add j) = some u := by
  intro j u hu
  obtain ⟨ao, cp, hv, hwf, hc⟩ := h
  obtain ⟨b', off', hao, hc1⟩ := hc hp
  simp only [Value.slice.injEq] at hv
  obtain ⟨rfl, -, -⟩ := hv
  simp only [Option.some.injEq, Addr.mk.injEq, and_true] at hao
  obtain ⟨rfl, rfl⟩ := hao
  have hj : j < zs.length := by
    have := (List.getElem?_eq_some_iff.1 hu).1
    simpa using this
  rw [Addr.add_lit, hc1 j hj]
  simp [hj] at hu
  simp [List.getD, hj, hu]

theorem run_append_ints {w : World} (base ty : Nat) (v : Value) (n : Nat) (xs : List Value) (hown : w.ownsRow base 2 1 v n xs) (x : Value) (ks : List Int) (hx : IsInts w x ks)
    (hn : n + ks.length ≤ 100000000) (hbase : base ≤ w.heap.size) :
    ∃ v' w', (Builtin.append_ #[51, 51] ty #[v, x]).run Try.prog w = .ok v' w' ∧ w'.ownsRow base 2 1 v' (n + ks.length) (xs ++ ks.map (Value.int .i64)) ∧ w.grownBy w' v.ownBlock := by
  obtain ⟨i0, hi, hz0, hz1, hz2⟩ := info_parts info2
  have hml : n + ks.length ≤ maxLen := by unfold maxLen; omega
  by_cases hp : 0 < ks.length
  · have hx' := hx
    obtain ⟨ao, cap, rfl, hwf, hc⟩ := hx'
    obtain ⟨b, off, rfl, hc1⟩ := hc hp
    obtain ⟨v', w', r1, r2, r3, -, -⟩ := run_append_own_at (P := Try.prog) w base 51 ty 2 i0 _ 1 8 Try.underlying51 hi hz0 hz1 hz2 rfl (by omega) v n xs hown ⟨b, off, none⟩ ks.length cap (ks.map (Value.int .i64)) (by simp) (hx.news hp) (by simp [Value.oneCell']) hml (by omega) hbase
    exact ⟨v', w', r1, r2, r3⟩
  · obtain rfl : ks = [] := List.eq_nil_of_length_eq_zero (by omega)
    obtain ⟨ao, cap, rfl, hwf, hc⟩ := hx
    cases ao with
    | none =>
      obtain ⟨v', w', r1, r2, r3, -, -⟩ := run_append_own_at (P := Try.prog) w base 51 ty 2 i0 _ 1 8 Try.underlying51 hi hz0 hz1 hz2 rfl (by omega) v n xs hown ⟨0, 0, none⟩ 0 cap [] rfl (by simp) (by simp) hml (by simp at hn; omega) hbase
      refine ⟨v', w', ?_, r2, r3⟩
      rcases hown.2 with ⟨rfl, h0⟩ | ⟨g, cp, cur, rfl, _, _, hle, _⟩
      · exact (append_noneI _ _ _ i0 Try.underlying51 hi none 0 0 cap (Nat.le_refl _) w).trans r1
      · exact (append_noneI _ _ _ i0 Try.underlying51 hi _ n cp cap hle w).trans r1
    | some ad =>
      obtain ⟨v', w', r1, r2, r3, -, -⟩ := run_append_own_at (P := Try.prog) w base 51 ty 2 i0 _ 1 8 Try.underlying51 hi hz0 hz1 hz2 rfl (by omega) v n xs hown ad 0 cap [] rfl (by simp) (by simp) hml (by simp at hn; omega) hbase
      exact ⟨v', w', r1, r2, r3⟩

/-- The same at an operation of a plain region. -/
theorem wpList_append_ints {w : World} {base : Nat} {v : Value} {n : Nat} {xs : List Value} (hown : w.ownsRow base 2 1 v n xs) {X : Value} {ks : List Int} (hx : IsInts w X ks)
    {ops : Array Oper} {rest : List Oper} {o : Oper} {a : Act} {Q : Exit → Act → World → Prop} (hgd : o.guard = none) (s x : Operand)
    (ho : o.op = .call { callee := .builtin .append, args := #[s, x], argTypes := #[51, 51] }) (hv : a.eval s = v) (hX : a.eval x = X)
    (hn : n + ks.length ≤ 100000000) (hbase : base ≤ w.heap.size)
    (h : ∀ v' w', w'.ownsRow base 2 1 v' (n + ks.length) (xs ++ ks.map (Value.int .i64)) → w.grownBy w' v.ownBlock → Below base w w' → wpList Try.prog ops Q rest (a.put o.dst v') w') :
    wpList Try.prog ops Q (o :: rest) a w := by
  refine wpList_plain hgd fun K hK => ?_
  obtain ⟨v', w', hr, h2, h3⟩ := run_append_ints base o.type v n xs hown X ks hx hn hbase
  unfold Oper.wp execOp
  simp only [ho, resolve, invoke, builtin, Sem.run_bind, Sem.run_pure, Result.andThen_ok, List.map_toArray, List.map_cons, List.map_nil, hv, hX, hr]
  exact hK _ _ (h v' w' h2 h3 ((Below.refl _ _).grown h3 hbase (fun j hj => (hown.lt j hj).1)))

end Go.Proofs.Ytfgadegpdknocaa

namespace Go.Proofs.Ytfgadegpdknocaa
open Go.RowKit

set_option maxHeartbeats 400000 in
theorem slClone (ad : Addr) (cap : Nat) (zs : List Int) (w : World) (h : IsInts w (.slice (some ad) zs.length cap) zs) (hn : zs.length ≤ 100000000) :
    Calls Try.prog 115 #[.slice (some ad) zs.length cap] w fun e w' => ∃ v', e = .returned v' ∧ w'.ownsRow w.heap.size 2 1 v' zs.length (zs.map (Value.int .i64)) ∧ Below w.heap.size w w' := by
  have nb : Below w.heap.size w (w.alloc (.cells #[] 2)) := (Below.refl _ _).alloc (Nat.le_refl _) _
  have O : (w.alloc (.cells #[] 2)).ownsRow w.heap.size 2 1 (.slice (some ⟨w.heap.size, 0, none⟩) 0 0) 0 [] := World.ownsRow_lit w _ 0 (Nat.le_refl _) (by unfold maxLen; omega) rfl
  have h1 := h.later nb
  have HB := hide nb
  have hnil : ∀ w : World, (binOp .eql 51 (.slice (some ad) zs.length cap) (.slice none 0 0)).run Try.prog w = .ok (.bool false) w := fun _ => by kernel_rfl
  clear nb h
  go_enter Try.func115, Try.ntmps115
  go_wp2_with (at_builtin; refine wpList_append_ints O h1 rfl _ _ rfl rfl rfl (by omega) (by simp) ?_)
  rintro v' w' O2 - hb
  have HB2 := hide ((unhide HB).trans hb)
  clear O h1 hb HB
  go_wp2_with fail
  go_ret
  exact ⟨v', rfl, by simpa using O2, unhide HB2⟩

end Go.Proofs.Ytfgadegpdknocaa

namespace Go.Proofs.Ytfgadegpdknocaa
open Go.RowKit

theorem cvec3 {zs : List Int} (h : vecFault zs = 0) : ∃ p q r, zs = [p, q, r] := by
  have hl := (vecFault_zero h).1
  match zs, hl with
  | [p, q, r], _ => exact ⟨p, q, r, rfl⟩
theorem implScore3 (v1 v2 : Value) (p q : List Int) (w : World) (h1 : IsInts w v1 p) (h2 : IsInts w v2 q) (f1 : vecFault p = 0) (f2 : vecFault q = 0) :
    Calls Try.prog 131 #[v1, v2] w fun e w' => e = .returned (.agg #[.int .i64 0, .int .i64 (score3 p q)]) ∧ Below w.heap.size w w' := by
  obtain ⟨x, y, z, rfl⟩ := cvec3 f1
  obtain ⟨a, b, c, rfl⟩ := cvec3 f2
  exact implScore_ok v1 v2 x y z a b c w h1 h2 f1 f2
theorem modelScore3 (v1 v2 : Value) (p q : List Int) (w : World) (h1 : IsInts w v1 p) (h2 : IsInts w v2 q) (f1 : vecFault p = 0) (f2 : vecFault q = 0) :
    Calls Try.prog 120 #[v1, v2] w fun e w' => e = .returned (.int .i64 (score3 p q)) ∧ Below w.heap.size w w' := by
  obtain ⟨x, y, z, rfl⟩ := cvec3 f1
  obtain ⟨a, b, c, rfl⟩ := cvec3 f2
  obtain ⟨b1, o1, k1, x', y', z', he, rfl, hbl, c0, c1, c2⟩ := h1.three rfl
  simp only [List.cons.injEq, and_true] at he
  obtain ⟨rfl, rfl, rfl⟩ := he
  obtain ⟨b2, o2, k2, x', y', z', he, rfl, hbl2, d0, d1, d2⟩ := h2.three rfl
  simp only [List.cons.injEq, and_true] at he
  obtain ⟨rfl, rfl, rfl⟩ := he
  exact modelSum b1 o1 k1 b2 o2 k2 x y z a b c w c0 c1 c2 d0 d1 d2 f1 f2

end Go.Proofs.Ytfgadegpdknocaa

namespace Go.Proofs.Ytfgadegpdknocaa
open Go.RowKit

theorem implCount (n : Int) (w : World) :
    Calls Try.prog 134 #[.int .i64 n] w fun e w' => e = .returned (.bool (decide (1 ≤ n) && decide (n ≤ 6))) ∧ w' = w := by
  by_cases h1 : 1 ≤ n
  · have d1 : decide (1 ≤ n) = true := by simpa using h1
    rw [d1]
    cases d2 : decide (n ≤ 6) <;>
    · go_enter Try.func134, Try.ntmps134
      go_wp2_with fail
      go_ret
      exact ⟨rfl, rfl⟩
  · have d1 : decide (1 ≤ n) = false := by simpa using h1
    rw [d1]
    go_enter Try.func134, Try.ntmps134
    go_wp2_with fail
    go_ret
    exact ⟨rfl, rfl⟩

set_option maxRecDepth 100000 in
set_option maxHeartbeats 1000000 in
theorem implCen_pos (b off cap : Nat) (xs : List DCenter) (w : World) (hn : 1 ≤ xs.length ∧ xs.length ≤ 6) (h : (Lay.sl Lay.tCenter).Reads w [.slice (some ⟨b, off, none⟩) xs.length cap] xs) (hbl : b < w.heap.size) :
    Calls Try.prog 89 #[.slice (some ⟨b, off, none⟩) xs.length cap] w fun e w' => e = .returned (.int .i64 (cenFrom xs)) ∧ Below w.heap.size w w' := by
  generalize hF0 : cenFrom xs = F0
  have H := hide h
  clear h
  go_enter Try.func89, Try.ntmps89
  go_wp2_with fail
  refine (implCount xs.length _).mono ?_
  rintro e w ⟨rfl, rfl⟩
  rw [show (decide ((1 : Int) ≤ (xs.length : Int)) && decide ((xs.length : Int) ≤ 6)) = true by simp; omega]
  go_wp2_with fail
  go_loopw [12] (fun i wr => ∃ k : Nat, k ≤ xs.length ∧ i = .int .i64 k ∧ cenFrom (xs.drop k) = F0 ∧ Below w.heap.size w wr) (fun i _ => xs.length - (intOf i).toNat)
  case atStart => exact ⟨0, Nat.zero_le _, rfl, hF0, Below.refl _ _⟩
  case round =>
    obtain ⟨k, hk, rfl, hF, hB⟩ := hrel
    by_cases hlt : k < xs.length
    · obtain ⟨row, hc, hr⟩ := Lay.row_at (unhide H) hlt
      replace hr := hr.later hB
      obtain ⟨a1, d1, rfl, R1⟩ := open_Center hr
      have c1 : wr.cell? ⟨b, off + k, none⟩ = some (.slice a1 (xs[k]).vec.length d1) := (hB.cell (p := ⟨b, off + k, none⟩) hbl).trans (cen_cell (hc 0 (by decide)))
      rw [cenFrom_step xs k hlt] at hF
      clear hc hr
      generalize hx : xs[k] = x at *
      clear hx
      have hbr : b < wr.heap.size := Nat.lt_of_lt_of_le hbl hB.size
      have nb : Below wr.heap.size wr (wr.alloc (.cells #[.slice a1 x.vec.length d1] 104)) := (Below.refl _ _).alloc (Nat.le_refl _) _
      have I1 := hide ((Lay.ints_reads R1).later nb)
      have HF := hide hF
      have B1 := hide (hB.trans (nb.mono hB.size))
      clear R1 hF hB nb
      go_wp2_with fail
      refine (implFault _ x.vec _ (unhide I1)).mono ?_
      rintro e w1 ⟨rfl, rfl⟩
      by_cases hv : vecFault x.vec = 0
      · rw [hv]
        have hF := unhide HF
        rw [if_pos hv] at hF
        clear HF I1 hv
        have HF := hide hF
        clear hF
        go_wp2_with fail
        go_roundw
        case rel => exact ⟨k + 1, by omega, by go_num, unhide HF, unhide B1⟩
        case measure => simp [intOf]; omega
      · have hF := unhide HF
        rw [if_neg hv] at hF
        have hd : (vecFault x.vec != 0) = true := by simpa using hv
        have HF2 := hide hF
        clear HF hF I1 hv
        go_wp2_with fail
        go_ret
        exact ⟨by rw [← unhide HF2]; rfl, unhide B1⟩
    · obtain rfl : k = xs.length := by omega
      rw [List.drop_length] at hF
      have HF := hide hF
      have HB := hide hB
      clear hF hB H
      go_wp2_with fail
      go_ret
      exact ⟨by rw [← unhide HF]; rfl, unhide HB⟩

set_option maxRecDepth 10000 in
theorem implCen (v : Value) (xs : List DCenter) (w : World) (h : (Lay.sl Lay.tCenter).Reads w [v] xs) :
    Calls Try.prog 89 #[v] w fun e w' => e = .returned (.int .i64 (centersFault xs)) ∧ Below w.heap.size w w' := by
  have hbig := h.big
  obtain ⟨ao, cap, rfl⟩ := open_sl h
  by_cases hn : xs.length < 1 ∨ 6 < xs.length
  · have e : centersFault xs = 2 := by unfold centersFault; rw [if_pos hn]
    rw [e]
    clear h e
    go_enter Try.func89, Try.ntmps89
    go_wp2_with fail
    refine (implCount xs.length _).mono ?_
    rintro e w ⟨rfl, rfl⟩
    rw [show (decide ((1 : Int) ≤ (xs.length : Int)) && decide ((xs.length : Int) ≤ 6)) = false by simp; omega]
    go_wp2_with fail
    go_ret
    exact ⟨rfl, Below.refl _ _⟩
  · have e : centersFault xs = cenFrom xs := by unfold centersFault; rw [if_neg hn]
    rw [e]
    obtain ⟨b, off, rfl, hbl⟩ := Lay.sl_addr h (by omega)
    exact implCen_pos b off cap xs w (by omega) h hbl

end Go.Proofs.Ytfgadegpdknocaa

namespace Go.Proofs.Ytfgadegpdknocaa
open Go.RowKit

set_option maxRecDepth 100000 in
set_option maxHeartbeats 1000000 in
theorem nearC_pos (b off cap : Nat) (cs : List DCenter) (a2 : Option Addr) (d2 : Nat) (q : List Int) (w : World) (h : (Lay.sl Lay.tCenter).Reads w [.slice (some ⟨b, off, none⟩) cs.length cap] cs) (hbl : b < w.heap.size) (hq : IsInts w (.slice a2 q.length d2) q) (hc0 : centersFault cs = 0) (hv : vecFault q = 0) :
    Calls Try.prog 91 #[.slice (some ⟨b, off, none⟩) cs.length cap, .slice a2 q.length d2] w fun e w' => e = .returned (.tuple #[.int .i64 (near cs q : Nat), .int .i64 (nearS cs q)]) ∧ Below w.heap.size w w' := by
  obtain ⟨hn, hall⟩ := centersFault_zero hc0
  have HQ := hide hq
  have HA := hide hall
  have HV := hide hv
  have H := hide h
  have HN : Hid ((near cs q = (nearK cs q cs.length).1) ∧ (nearS cs q = (nearK cs q cs.length).2)) := ⟨rfl, rfl⟩
  clear h hq hall hc0 hv
  go_enter Try.func91, Try.ntmps91
  go_wp2_with fail
  go_loopw [6, 7, 12] (fun a l i wr => ∃ k : Nat, k ≤ cs.length ∧ i = .int .i64 k ∧ a = .int .i64 ((nearK cs q k).1 : Nat) ∧ l = .int .i64 (nearK cs q k).2 ∧ Below w.heap.size w wr) (fun _ _ i _ => cs.length - (intOf i).toNat)
  case atStart => exact ⟨0, Nat.zero_le _, rfl, rfl, rfl, Below.refl _ _⟩
  case round =>
    obtain ⟨k, hk, rfl, rfl, rfl, hB⟩ := hrel
    by_cases hlt : k < cs.length
    · obtain ⟨row, hc, hr⟩ := Lay.row_at (unhide H) hlt
      replace hr := hr.later hB
      obtain ⟨a1, d1, rfl, R1⟩ := open_Center hr
      have c1 : wr.cell? ⟨b, off + k, none⟩ = some (.slice a1 (cs[k]).vec.length d1) := (hB.cell (p := ⟨b, off + k, none⟩) hbl).trans (cen_cell (hc 0 (by decide)))
      have HS := hide (nearK_step cs q k hlt)
      have hbd := nearK_bd (unhide HA) (unhide HV) k hk
      have hvx := unhide HA cs[k] (List.getElem_mem hlt)
      clear hc hr
      generalize hx : cs[k] = x at *
      clear hx
      have hsb := cscore_bd hvx (unhide HV)
      have I1 := hide (Lay.ints_reads R1)
      have I2 := hide ((unhide HQ).later hB)
      have HX := hide hvx
      have HB := hide hB
      clear R1 hB hvx
      have L := hide (implScore3 _ _ x.vec q wr (unhide I1) (unhide I2) (unhide HX) (unhide HV))
      generalize score3 x.vec q = sc at *
      generalize hs : nearK cs q k = s at *
      clear hs
      obtain ⟨sa, sl⟩ := s
      simp only at hbd
      have hfl : ∀ W : World, (Instr.field 79 (.agg #[.int .i64 0, .int .i64 sc]) 1).run Try.prog W = .ok (.int .i64 sc) W := fun _ => by kernel_rfl
      go_wp2_with fail
      refine (unhide L).mono ?_
      rintro e w1 ⟨rfl, hb⟩
      have HB2 := hide ((unhide HB).trans (hb.mono (unhide HB).size))
      clear hb L HB I1 I2 c1
      cases hd : decide (sc < sl) with
      | true =>
        have HS2 : Hid (nearK cs q (k + 1) = (k, sc)) := (unhide HS).trans (if_pos (by simpa using hd))
        clear HS
        go_wp2_with fail
        go_roundw
        case rel => exact ⟨k + 1, by omega, by go_num, by rw [unhide HS2], by rw [unhide HS2], unhide HB2⟩
        case measure => simp [intOf]; omega
      | false =>
        have HS2 : Hid (nearK cs q (k + 1) = (sa, sl)) := (unhide HS).trans (if_neg (by simpa using hd))
        clear HS
        go_wp2_with fail
        go_roundw
        case rel => exact ⟨k + 1, by omega, by go_num, by rw [unhide HS2], by rw [unhide HS2], unhide HB2⟩
        case measure => simp [intOf]; omega
    · obtain rfl : k = cs.length := by omega
      have HB := hide hB
      clear hB H
      go_wp2_with fail
      refine bodyPost_ret (v := .tuple #[.int .i64 ((nearK cs q cs.length).1 : Nat), .int .i64 (nearK cs q cs.length).2]) (by simp [results, Try.results91, go_sem]) rfl ⟨rfl, unhide HB⟩

theorem nearC (v : Value) (cs : List DCenter) (vq : Value) (q : List Int) (w : World) (h : (Lay.sl Lay.tCenter).Reads w [v] cs) (hq : IsInts w vq q) (hc : centersFault cs = 0) (hv : vecFault q = 0) :
    Calls Try.prog 91 #[v, vq] w fun e w' => e = .returned (.tuple #[.int .i64 (near cs q : Nat), .int .i64 (nearS cs q)]) ∧ Below w.heap.size w w' := by
  obtain ⟨ao, cap, rfl⟩ := open_sl h
  have hvq : ∃ a d, vq = .slice a q.length d := by obtain ⟨a, d, e, -⟩ := hq; exact ⟨a, d, e⟩
  obtain ⟨a2, d2, rfl⟩ := hvq
  obtain ⟨b, off, rfl, hbl⟩ := Lay.sl_addr h (centersFault_zero hc).1.1
  exact nearC_pos b off cap cs a2 d2 q w h hbl hq hc hv

end Go.Proofs.Ytfgadegpdknocaa

namespace Go.Proofs.Ytfgadegpdknocaa
open Go.RowKit

/-- Blocks below n that are not in S are as they were. -/
def KpS (n : Nat) (S : Nat → Prop) (W W' : World) : Prop := W.heap.size ≤ W'.heap.size ∧ ∀ b, b < n → ¬ S b → W'.heap[b]? = W.heap[b]?
theorem KpS.refl (n : Nat) (S : Nat → Prop) (W : World) : KpS n S W W := ⟨Nat.le_refl _, fun _ _ _ => rfl⟩
theorem KpS.trans {n : Nat} {S : Nat → Prop} {a b c : World} (h : KpS n S a b) (k : KpS n S b c) : KpS n S a c := ⟨Nat.le_trans h.1 k.1, fun i h1 h2 => (k.2 i h1 h2).trans (h.2 i h1 h2)⟩
theorem KpS.put {n : Nat} (S : Nat → Prop) (W : World) (l : Nat) (o' : Obj) (hl : n ≤ l) : KpS n S W (W.putObj l o') :=
  ⟨by simp, fun b hb _ => World.putObj_heap_other (by omega)⟩
theorem KpS.of_ext {n : Nat} {S T : Nat → Prop} {a b : World} (h : Ext T a b) (hn : n ≤ a.heap.size) (hs : ∀ k, k < n → T k → S k) : KpS n S a b :=
  ⟨h.size, fun k hk hS => h.block k (by omega) fun ht => hS (hs k hk ht)⟩
theorem KpS.of_below {n : Nat} (S : Nat → Prop) {a b : World} (h : Below a.heap.size a b) (hn : n ≤ a.heap.size) : KpS n S a b := ⟨h.size, fun k hk _ => h.block k (by omega)⟩
theorem ext_of_grownBy {A B : World} {row : Option Nat} (h : A.grownBy B row) : Ext (fun q => row = some q) A B := ⟨h.os, h.tape, h.output, h.size, fun k hk hn => h.block k hk fun e => hn e.symm⟩
theorem keepsFrom_ext {B : Nat} {S : Nat → Prop} {a b : World} (h : Ext S a b) (hs : ∀ k o, B ≤ k → a.heap[k]? = some o → o.isCells = false → ¬ S k) : KeepsFrom B a b :=
  ⟨h.size, fun k o hB hk ho => (h.block k (Array.getElem?_eq_some_iff.1 hk).1 (hs k o hB hk ho)).trans hk⟩
theorem keepsFrom_below {B : Nat} {a b : World} (h : Below a.heap.size a b) : KeepsFrom B a b :=
  ⟨h.size, fun k _ _ hk _ => (h.block k (Array.getElem?_eq_some_iff.1 hk).1).trans hk⟩
/-- A block of cells is not turned. -/
theorem grown_cells {A B : World} {row : Option Nat} (h : A.grownBy B row) {n : Nat} (hr : ∀ r, row = some r → n ≤ r ∧ ∃ o : Obj, A.heap[r]? = some o ∧ o.isCells = false) {b : Nat} {o : Obj} (hb : A.heap[b]? = some o) (ho : b < n ∨ o.isCells = true) : B.heap[b]? = some o := by
  refine (h.block b (Array.getElem?_eq_some_iff.1 hb).1 fun e => ?_).trans hb
  obtain ⟨h1, o', h2, h3⟩ := hr b e.symm
  rcases ho with ho | ho
  · omega
  · rw [hb] at h2
    cases h2
    rw [ho] at h3
    cases h3
theorem box_grown {A B : World} {row : Option Nat} (h : A.grownBy B row) {n lo : Nat} (hr : ∀ r, row = some r → n ≤ r ∧ ∃ o : Obj, A.heap[r]? = some o ∧ o.isCells = false) {cs : Array Value} {T s : Nat} (hb : Box lo cs T A s) : Box lo cs T B s :=
  ⟨hb.1, grown_cells h hr hb.2 (Or.inr rfl)⟩
theorem below_grown {A B w : World} {row : Option Nat} (h : A.grownBy B row) {n m : Nat} (hr : ∀ r, row = some r → n ≤ r ∧ ∃ o : Obj, A.heap[r]? = some o ∧ o.isCells = false) (hb : Below m w A) (hm : m ≤ n) (hw : m ≤ w.heap.size) : Below m w B :=
  hb.grown h (Nat.le_trans hw hb.size) fun k e => by have := (hr k e).1; omega

end Go.Proofs.Ytfgadegpdknocaa

namespace Go.Proofs.Ytfgadegpdknocaa
open Go.RowKit

variable {P : Program} {ops : Array Oper} {Q : Exit → Act → World → Prop}

def noDefer (o : Oper) : Bool := match o.op with | .defer _ => false | _ => true
theorem upon_in (l n : Nat) {o : Oper} {a : Act} {K : Act → World → Prop} {r : Result Next} (h : o.upon P a K Q r) : o.uponIn (Fence.wide.inRound l) n P a K Q r := by
  cases r with
  | ok x w' =>
    cases x with
    | value v => exact h
    | skip => exact h
    | defer d => exact h
    | enter f args => exact ⟨fun e => by simp [Fence.wide] at e, CallsIn.inRound l (callsIn_wide.2 h)⟩
    | row row args =>
      refine ⟨fun e => by simp [Fence.wide] at e, fun c cs _ => ?_⟩
      obtain ⟨v, w2, h1, h2⟩ := h c cs
      exact ⟨v, w2, h1, stepsIn_wide.2 h2⟩
    | _ => exact h.elim
  | halt x w' =>
    cases x with
    | panic v => exact h
    | _ => exact h.elim
theorem wp_in (l n : Nat) {o : Oper} {a : Act} {w : World} {K : Act → World → Prop} (hd : noDefer o = true) (h : o.wp P a w K Q) : o.wpIn (Fence.wide.inRound l) n P a w K Q := by
  refine ⟨fun _ _ => trivial, ?_⟩
  rw [show (Fence.wide.inRound l).round = some l from rfl, Oper.semAt_some l _ _ (by intro c hc; rw [noDefer, hc] at hd; cases hd)]
  exact upon_in l n h
theorem any_in (l n : Nat) {md : Region.Mode} (hd : ∀ (i : Nat) (o : Oper), ops[i]? = some o → noDefer o = true) (hL : ¬ LetsOut Q) : ∀ (fuel : Nat) (listed : Array Bool) (a : Act) (w : World), wpAny P md ops Q fuel listed a w → wpAnyIn (Fence.wide.inRound l) n P md ops Q fuel listed a w
  | 0, _, _, _, h => h
  | fuel + 1, listed, a, w, h => by
    refine ⟨h.1, fun i hi => ?_⟩
    have h2 := h.2 i hi
    unfold wpOp at h2
    unfold wpOpIn
    cases ho : ops[i]? with
    | none => rw [ho] at h2; exact any_in l n hd hL fuel _ _ _ h2
    | some o =>
      rw [ho] at h2
      simp only at h2 ⊢
      by_cases hw : Region.wanted o (yielded ops a.tmps) = true
      · rw [if_pos hw] at h2 ⊢
        rcases h2 with h2 | h2
        · exact Oper.wpIn_mono (any_in l n hd hL fuel _) (wp_in l n (hd i o ho) h2)
        · exact absurd h2.2 hL
      · rw [if_neg hw] at h2 ⊢
        exact ⟨fun _ _ => trivial, any_in l n hd hL fuel _ _ _ h2⟩
theorem noDefers (h : ops.all noDefer = true) : ∀ (i : Nat) (o : Oper), ops[i]? = some o → noDefer o = true := fun i o ho => by
  obtain ⟨hi, rfl⟩ := Array.getElem?_eq_some_iff.1 ho
  rw [Array.all_eq_true] at h
  exact h i hi
/-- Only the way behind the region. -/
def OnlyN (Q : Exit → Act → World → Prop) : Exit → Act → World → Prop
  | .normal, a, w => Q .normal a w
  | _, _, _ => False
theorem OnlyN.normal {a : Act} {w : World} (h : Q .normal a w) : OnlyN Q .normal a w := h
/-- The first move of a walk through such a region. -/
theorem wpIn_region_np {l n id : Nat} {S : World → Prop} {a : Act} {w : World} (hm : P.follows .mixedOrders = true) (hd : ops.all noDefer = true) (hS : S w.drew)
    (h : S w.drew → wpAnyH P .any ops (OnlyN Q) S ops.size (Array.replicate ops.size false) a w.drew) : (Code.region id ops true).wpIn (Fence.wide.inRound l) n P Q a w := by
  refine wpIn_mono (Q := OnlyN Q) (wpIn_region_any hm (any_in l n (noDefers hd) ?_ _ _ _ _ (wpAny_of_held _ _ _ _ (h hS)))) ?_
  · rintro ⟨a2, w2, h2⟩
    exact (show False from h2)
  · intro e a2 w2 h2
    cases e with
    | normal => exact h2
    | _ => exact (show False from h2).elim

end Go.Proofs.Ytfgadegpdknocaa
