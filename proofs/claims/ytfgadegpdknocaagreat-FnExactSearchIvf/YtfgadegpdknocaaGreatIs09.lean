/-
  Texts of this proof in one: PlPlain, AppInt, AppCenter, AppIvfList, AppItem, ImplTellExt, IvfTwo, ListsFill, FirstPlain, ImplFirstOf, CenScoreC, CenRow.
  Their conditions stand in their theorems.
-/
import Derived.Test.YtfgadegpdknocaaGreatIs07
import Derived.Test.YtfgadegpdknocaaGreatIs08
import Derived.Test.YtfgadegpdknocaaGreatIs01
import Derived.Test.YtfgadegpdknocaaGreatIs02
import Derived.Deep.AppendLies
import Derived.Test.YtfgadegpdknocaaGreatChecked

namespace Go.Proofs.YtfgadegpdknocaaGreat
open Go.RowKit

/-- What is wrong with an index, but for what stands in two lists, and how much it is in all. -/
def formF (x : DIvf) : Int := if centersFault x.centers = 0 then (if x.lists.length = x.centers.length then listsFrom x.centers 0 x.lists else 1) else centersFault x.centers
/-- All places. -/
def allPl (m : Nat) : List (Pl m) := (List.range m).pmap (fun j h => ⟨j, h⟩) (fun _ h => List.mem_range.1 h)
theorem allPl_len (m : Nat) : (allPl m).length = m := by simp [allPl]
theorem allPl_at (m i : Nat) (h : i < (allPl m).length) : (allPl m)[i].1 = i := by simp [allPl]
/-- What is wrong with one list. -/
def faultAt (x : DIvf) (p : Nat) : Int := listFault x.centers p (x.lists.getD p ⟨[]⟩).items
theorem faultAt_eq (x : DIvf) {p : Nat} (h : p < x.lists.length) : faultAt x p = listFault x.centers p x.lists[p].items := by
  unfold faultAt
  simp [List.getD, List.getElem?_eq_getElem h]
theorem listsFrom_all {cs : List DCenter} {i : Nat} {ls : List DIvfList} (h : ∀ j (hj : j < ls.length), listFault cs (i + j) ls[j].items = 0) : listsFrom cs i ls = 0 := by
  induction ls generalizing i with
  | nil => rfl
  | cons l ls ih =>
    rw [listsFrom]
    have h0 := h 0 (by simp)
    simp only [Nat.add_zero, List.getElem_cons_zero] at h0
    rw [if_pos h0]
    refine ih fun j hj => ?_
    have := h (j + 1) (by simpa using hj)
    simpa [Nat.add_comm, Nat.add_left_comm] using this
theorem listsFrom_at {cs : List DCenter} {i k : Nat} {ls : List DIvfList} (hk : k < ls.length) (h : ∀ j (hj : j < k), listFault cs (i + j) (ls[j]'(by omega)).items = 0) (hn : listFault cs (i + k) ls[k].items ≠ 0) : listsFrom cs i ls = listFault cs (i + k) ls[k].items := by
  induction ls generalizing i k with
  | nil => simp at hk
  | cons l ls ih =>
    rw [listsFrom]
    match k with
    | 0 =>
      simp only [Nat.add_zero, List.getElem_cons_zero] at hn ⊢
      rw [if_neg hn]
    | k + 1 =>
      have h0 := h 0 (by omega)
      simp only [Nat.add_zero, List.getElem_cons_zero] at h0
      rw [if_pos h0]
      have e : i + (k + 1) = i + 1 + k := by omega
      have hk2 : k < ls.length := by simpa using hk
      rw [List.getElem_cons_succ, e] at hn ⊢
      refine ih hk2 (fun j hj => ?_) hn
      have := h (j + 1) (by omega)
      have e2 : i + (j + 1) = i + 1 + j := by omega
      rw [List.getElem_cons_succ, e2] at this
      exact this
theorem form_all {x : DIvf} (hc : centersFault x.centers = 0) (hl : x.lists.length = x.centers.length) (h : ∀ p ∈ allPl x.lists.length, faultAt x p.1 = 0) : formF x = 0 := by
  rw [formF, if_pos hc, if_pos hl]
  refine listsFrom_all fun j hj => ?_
  have hj2 : j < (allPl x.lists.length).length := by rw [allPl_len]; exact hj
  have := h _ (List.getElem_mem hj2)
  rw [allPl_at, faultAt_eq x hj] at this
  rw [Nat.zero_add]
  exact this
theorem pre_at {m : Nat} {pre : List (Pl m)} {p : Pl m} (h : pre ++ [p] <+: allPl m) : p.1 = pre.length ∧ ∀ j (hj : j < pre.length), pre[j].1 = j := by
  have hlen := h.length_le
  rw [List.length_append, List.length_singleton] at hlen
  have key : ∀ j (hj : j < (pre ++ [p]).length), (pre ++ [p])[j].1 = j := fun j hj => by
    have e := h.getElem hj
    rw [e]
    exact allPl_at m j _
  constructor
  · have := key pre.length (by simp)
    simpa using this
  · intro j hj
    have := key j (by simp; omega)
    rw [List.getElem_append_left hj] at this
    exact this
theorem form_at {x : DIvf} {pre : List (Pl x.lists.length)} {p : Pl x.lists.length} (hc : centersFault x.centers = 0) (hl : x.lists.length = x.centers.length) (hp : pre ++ [p] <+: allPl x.lists.length) (h : ∀ q ∈ pre, faultAt x q.1 = 0) (hn : faultAt x p.1 ≠ 0) : formF x = faultAt x p.1 := by
  obtain ⟨h1, h2⟩ := pre_at hp
  rw [formF, if_pos hc, if_pos hl]
  have hk : p.1 < x.lists.length := p.2
  rw [faultAt_eq x hk] at hn ⊢
  have := listsFrom_at (cs := x.centers) (i := 0) (ls := x.lists) (k := p.1) hk (fun j hj => ?_) (by rw [Nat.zero_add]; exact hn)
  · rw [Nat.zero_add] at this
    exact this
  · have hj2 : j < pre.length := by omega
    have h3 := h _ (List.getElem_mem hj2)
    rw [h2 j hj2, faultAt_eq x (by omega)] at h3
    rw [Nat.zero_add]
    exact h3
/-- The items of list j. -/
def itsL (ls : List DIvfList) (j : Nat) : List DItem := (ls.getD j ⟨[]⟩).items
theorem itsL_eq {ls : List DIvfList} {j : Nat} (h : j < ls.length) : itsL ls j = ls[j].items := by simp [itsL, List.getD, List.getElem?_eq_getElem h]
theorem lists_at {w : World} {al : Option Addr} {dl : Nat} {ls : List DIvfList} (h : (Lay.sl Lay.tIvfList).Reads w [.slice al ls.length dl] ls) (hp : 0 < ls.length) : ∃ (bL oL : Nat) (ia : Nat → Option Addr) (ic : Nat → Nat), al = some ⟨bL, oL, none⟩ ∧ bL < w.heap.size ∧
    ∀ j, j < ls.length → w.cell? ⟨bL, oL + j, none⟩ = some (.slice (ia j) (itsL ls j).length (ic j)) ∧ (Lay.sl Lay.tItem).Reads w [.slice (ia j) (itsL ls j).length (ic j)] (itsL ls j) := by
  obtain ⟨bL, oL, rfl, hbl⟩ := Lay.sl_addr h hp
  have key : ∀ j : Nat, ∃ q : Option Addr × Nat, j < ls.length → w.cell? ⟨bL, oL + j, none⟩ = some (.slice q.1 (itsL ls j).length q.2) ∧ (Lay.sl Lay.tItem).Reads w [.slice q.1 (itsL ls j).length q.2] (itsL ls j) := fun j => by
    by_cases hj : j < ls.length
    · obtain ⟨row, hc, hr⟩ := Lay.row_at h hj
      obtain ⟨a5, d5, rfl, R5⟩ := open_IvfList hr
      refine ⟨(a5, d5), fun _ => ?_⟩
      rw [itsL_eq hj]
      exact ⟨one_cell (hc 0 (by decide)), R5⟩
    · exact ⟨(none, 0), fun h => absurd h hj⟩
  obtain ⟨f, hf⟩ := Classical.axiomOfChoice key
  exact ⟨bL, oL, fun j => (f j).1, fun j => (f j).2, rfl, hbl, hf⟩

end Go.Proofs.YtfgadegpdknocaaGreat

namespace Go.Proofs.YtfgadegpdknocaaGreat
open Go.RowKit

theorem grown_alloc {w w' : World} {o : Obj} {r : Option Nat} (h : (w.alloc o).grownBy w' r) : w.grownBy w' r := grown_trans (World.grownBy_alloc w o r) h

/-- At an operation of a plain region: 'append(s, q)', q laid into a block of its own first. -/
theorem wpList_append_int {w1 : World} {base : Nat} {v : Value} {n : Nat} {xs : List Value} (hown : w1.ownsRow base 2 1 v n xs) (q : Int) {ops : Array Oper} {rest : List Oper} {o : Oper} {a : Act} {Q : Exit → Act → World → Prop} (hgd : o.guard = none) (s x : Operand)
    (ho : o.op = .call { callee := .builtin .append, args := #[s, x], argTypes := #[26, 26] }) (hs : a.eval s = v) (hx : a.eval x = .slice (some ⟨w1.heap.size, 0, none⟩) 1 1)
    (hn : n ≤ 100000000) (hbase : base ≤ w1.heap.size)
    (h : ∀ g cap w', w'.ownsRow base 2 1 (.slice (some ⟨g, 0, none⟩) (n + 1) cap) (n + 1) (xs ++ [.int .i64 q]) → w1.grownBy w' v.ownBlock → Below base w1 w' → g < w'.heap.size → w1.heap.size < w'.heap.size → wpList Tryz.prog ops Q rest (a.put o.dst (.slice (some ⟨g, 0, none⟩) (n + 1) cap)) w') :
    wpList Tryz.prog ops Q (o :: rest) a (w1.alloc (.cells #[.int .i64 q] 2)) := by
  obtain ⟨i0, hi0, hz0, hz1, hz2⟩ := info_parts info2
  refine wpList_append_lies _ hgd s x 26 ho base 2 i0 _ 1 8 Tryz.underlying26 hi0 hz0 hz1 hz2 rfl (by omega) v n xs hs (hown.alloc _) ⟨w1.heap.size, 0, none⟩ 1 1 [.int .i64 q] hx rfl (World.news_of_block (cs := #[.int .i64 q]) (t := 2) (fr := (0, 0)) (heap_alloc_new w1 _)) (by simp [Value.oneCell']) (by omega) (by unfold maxLen; omega) (by omega) (by simp; omega) (w1.heap.size + 1) (by simp) ?_
  intro g cap w' h2 h3 _ h5
  have hg := grown_alloc h3
  have hsz := h3.size
  simp only [World.size_alloc] at hsz
  exact h g cap w' h2 hg ((Below.refl _ _).grown hg hbase (fun j hj => (hown.lt j hj).1)) h5 (by omega)

end Go.Proofs.YtfgadegpdknocaaGreat

namespace Go.Proofs.YtfgadegpdknocaaGreat
open Go.RowKit

theorem infoAppCenter : (Tryz.prog.info? 134).map (fun i => (i.zero, i.size, i.bytes)) = some (some (.agg #[.slice none 0 0]), 1, 24) := by kernel_rfl
theorem one_Center {w : World} {row : List Value} {x : DCenter} {bl : List Nat} (h : Lay.tCenter.lies w row x bl) : (∀ u ∈ row, u.oneCell' = true) ∧ row.length = 1 * 1 := by
  obtain ⟨_, _, _, rfl, -⟩ := lies_Center.1 h
  simp [Value.oneCell']

/-- At an operation of a plain region: the new one lies in a block of its own. -/
theorem wpList_append_Center {w1 : World} {base : Nat} {v : Value} {rows : List (List Value)} {xs : List DCenter} {bls : List (List Nat)} (hG : Grow Lay.tCenter w1 base 134 v rows xs bls) {row : List Value} {x : DCenter} {bl : List Nat} (hl : Lay.tCenter.lies w1 row x bl) (hbl : ∀ b ∈ bl, v.ownBlock ≠ some b) {ops : Array Oper} {rest : List Oper} {o : Oper} {a : Act} {Q : Exit → Act → World → Prop} (hgd : o.guard = none) (s y : Operand)
    (ho : o.op = .call { callee := .builtin .append, args := #[s, y], argTypes := #[28, 28] }) (hs : a.eval s = v) (hy : a.eval y = .slice (some ⟨w1.heap.size, 0, none⟩) 1 1) (hn : xs.length + 1 ≤ 100000000) (hbase : base ≤ w1.heap.size)
    (h : ∀ g cap w', Grow Lay.tCenter w' base 134 (.slice (some ⟨g, 0, none⟩) (xs.length + 1) cap) (rows ++ [row]) (xs ++ [x]) (bls ++ [bl]) → Below base w1 w' → Ext (fun q => v.ownBlock = some q) w1 w' → g < w'.heap.size → w1.heap.size ≤ w'.heap.size → (v.ownBlock = some g ∨ w1.heap.size ≤ g) → wpList Tryz.prog ops Q rest (a.put o.dst (.slice (some ⟨g, 0, none⟩) (xs.length + 1) cap)) w') :
    wpList Tryz.prog ops Q (o :: rest) a (w1.alloc (.cells row.toArray 134)) := by
  obtain ⟨i0, hi0, hz0, hz1, hz2⟩ := info_parts infoAppCenter
  obtain ⟨h1, hlen⟩ := one_Center hl
  refine wpList_append_lies _ hgd s y 28 ho base 134 i0 _ 1 24 Tryz.underlying28 hi0 hz0 hz1 hz2 rfl (by omega) v xs.length rows.flatten hs (hG.own.alloc _) ⟨w1.heap.size, 0, none⟩ 1 1 row hy hlen (World.news_of_block (cs := row.toArray) (t := 134) (fr := (0, 0)) (heap_alloc_new w1 _)) h1 (by omega) (by unfold maxLen; omega) (by omega) (by simp; omega) (w1.alloc (.cells row.toArray 134)).heap.size rfl ?_
  intro g cap w' h2 h3 h4 h5
  have hg := grown_alloc h3
  have hbw : Below base w1 w' := (Below.refl _ _).grown hg hbase (fun j hj => (hG.own.lt j hj).1)
  have hor : v.ownBlock = some g ∨ w1.heap.size ≤ g := by
    rcases h4 with h4 | h4
    · exact Or.inl h4
    · exact Or.inr (by rw [h4]; simp)
  exact h g cap w' (hG.snoc hl hbl h2 hg hor) hbw ⟨hbw.os, hbw.tape, hbw.output, hbw.size, fun k hk hn => hg.block k hk (fun e => hn e.symm)⟩ h5 hbw.size hor

/-- At a step of a region that draws its order. -/
theorem step_append_Center {w1 : World} {base : Nat} {v : Value} {rows : List (List Value)} {xs : List DCenter} {bls : List (List Nat)} (hG : Grow Lay.tCenter w1 base 134 v rows xs bls) {row : List Value} {x : DCenter} {bl : List Nat} (hl : Lay.tCenter.lies w1 row x bl) (hbl : ∀ b ∈ bl, v.ownBlock ≠ some b) {ops : Array Oper} {o : Oper} {a : Act} {K : Act → World → Prop} {Q : Exit → Act → World → Prop} {E : Prop} (hgd : o.guard = none) (s y : Operand)
    (ho : o.op = .call { callee := .builtin .append, args := #[s, y], argTypes := #[28, 28] }) (hs : a.eval s = v) (hy : a.eval y = .slice (some ⟨w1.heap.size, 0, none⟩) 1 1) (hn : xs.length + 1 ≤ 100000000) (hbase : base ≤ w1.heap.size)
    (h : ∀ g cap w', Grow Lay.tCenter w' base 134 (.slice (some ⟨g, 0, none⟩) (xs.length + 1) cap) (rows ++ [row]) (xs ++ [x]) (bls ++ [bl]) → Below base w1 w' → Ext (fun q => v.ownBlock = some q) w1 w' → g < w'.heap.size → w1.heap.size ≤ w'.heap.size → (v.ownBlock = some g ∨ w1.heap.size ≤ g) → K (a.put o.dst (.slice (some ⟨g, 0, none⟩) (xs.length + 1) cap)) w') :
    if Region.wanted o (yielded ops a.tmps) = true then Oper.wp Tryz.prog o a (w1.alloc (.cells row.toArray 134)) K Q else E := by
  obtain ⟨i0, hi0, hz0, hz1, hz2⟩ := info_parts infoAppCenter
  obtain ⟨h1, hlen⟩ := one_Center hl
  refine step_append_lies _ hgd s y 28 ho base 134 i0 _ 1 24 Tryz.underlying28 hi0 hz0 hz1 hz2 rfl (by omega) v xs.length rows.flatten hs (hG.own.alloc _) ⟨w1.heap.size, 0, none⟩ 1 1 row hy hlen (World.news_of_block (cs := row.toArray) (t := 134) (fr := (0, 0)) (heap_alloc_new w1 _)) h1 (by omega) (by unfold maxLen; omega) (by omega) (by simp; omega) (w1.alloc (.cells row.toArray 134)).heap.size rfl ?_
  intro g cap w' h2 h3 h4 h5
  have hg := grown_alloc h3
  have hbw : Below base w1 w' := (Below.refl _ _).grown hg hbase (fun j hj => (hG.own.lt j hj).1)
  have hor : v.ownBlock = some g ∨ w1.heap.size ≤ g := by
    rcases h4 with h4 | h4
    · exact Or.inl h4
    · exact Or.inr (by rw [h4]; simp)
  exact h g cap w' (hG.snoc hl hbl h2 hg hor) hbw ⟨hbw.os, hbw.tape, hbw.output, hbw.size, fun k hk hn => hg.block k hk (fun e => hn e.symm)⟩ h5 hbw.size hor

end Go.Proofs.YtfgadegpdknocaaGreat

namespace Go.Proofs.YtfgadegpdknocaaGreat
open Go.RowKit

theorem infoAppIvfList : (Tryz.prog.info? 104).map (fun i => (i.zero, i.size, i.bytes)) = some (some (.agg #[.slice none 0 0]), 1, 24) := by kernel_rfl
theorem one_IvfList {w : World} {row : List Value} {x : DIvfList} {bl : List Nat} (h : Lay.tIvfList.lies w row x bl) : (∀ u ∈ row, u.oneCell' = true) ∧ row.length = 1 * 1 := by
  obtain ⟨_, _, _, rfl, -⟩ := lies_IvfList.1 h
  simp [Value.oneCell']

/-- At an operation of a plain region: the new one lies in a block of its own. -/
theorem wpList_append_IvfList {w1 : World} {base : Nat} {v : Value} {rows : List (List Value)} {xs : List DIvfList} {bls : List (List Nat)} (hG : Grow Lay.tIvfList w1 base 104 v rows xs bls) {row : List Value} {x : DIvfList} {bl : List Nat} (hl : Lay.tIvfList.lies w1 row x bl) (hbl : ∀ b ∈ bl, v.ownBlock ≠ some b) {ops : Array Oper} {rest : List Oper} {o : Oper} {a : Act} {Q : Exit → Act → World → Prop} (hgd : o.guard = none) (s y : Operand)
    (ho : o.op = .call { callee := .builtin .append, args := #[s, y], argTypes := #[29, 29] }) (hs : a.eval s = v) (hy : a.eval y = .slice (some ⟨w1.heap.size, 0, none⟩) 1 1) (hn : xs.length + 1 ≤ 100000000) (hbase : base ≤ w1.heap.size)
    (h : ∀ g cap w', Grow Lay.tIvfList w' base 104 (.slice (some ⟨g, 0, none⟩) (xs.length + 1) cap) (rows ++ [row]) (xs ++ [x]) (bls ++ [bl]) → Below base w1 w' → Ext (fun q => v.ownBlock = some q) w1 w' → g < w'.heap.size → w1.heap.size ≤ w'.heap.size → (v.ownBlock = some g ∨ w1.heap.size ≤ g) → wpList Tryz.prog ops Q rest (a.put o.dst (.slice (some ⟨g, 0, none⟩) (xs.length + 1) cap)) w') :
    wpList Tryz.prog ops Q (o :: rest) a (w1.alloc (.cells row.toArray 104)) := by
  obtain ⟨i0, hi0, hz0, hz1, hz2⟩ := info_parts infoAppIvfList
  obtain ⟨h1, hlen⟩ := one_IvfList hl
  refine wpList_append_lies _ hgd s y 29 ho base 104 i0 _ 1 24 Tryz.underlying29 hi0 hz0 hz1 hz2 rfl (by omega) v xs.length rows.flatten hs (hG.own.alloc _) ⟨w1.heap.size, 0, none⟩ 1 1 row hy hlen (World.news_of_block (cs := row.toArray) (t := 104) (fr := (0, 0)) (heap_alloc_new w1 _)) h1 (by omega) (by unfold maxLen; omega) (by omega) (by simp; omega) (w1.alloc (.cells row.toArray 104)).heap.size rfl ?_
  intro g cap w' h2 h3 h4 h5
  have hg := grown_alloc h3
  have hbw : Below base w1 w' := (Below.refl _ _).grown hg hbase (fun j hj => (hG.own.lt j hj).1)
  have hor : v.ownBlock = some g ∨ w1.heap.size ≤ g := by
    rcases h4 with h4 | h4
    · exact Or.inl h4
    · exact Or.inr (by rw [h4]; simp)
  exact h g cap w' (hG.snoc hl hbl h2 hg hor) hbw ⟨hbw.os, hbw.tape, hbw.output, hbw.size, fun k hk hn => hg.block k hk (fun e => hn e.symm)⟩ h5 hbw.size hor

/-- At a step of a region that draws its order. -/
theorem step_append_IvfList {w1 : World} {base : Nat} {v : Value} {rows : List (List Value)} {xs : List DIvfList} {bls : List (List Nat)} (hG : Grow Lay.tIvfList w1 base 104 v rows xs bls) {row : List Value} {x : DIvfList} {bl : List Nat} (hl : Lay.tIvfList.lies w1 row x bl) (hbl : ∀ b ∈ bl, v.ownBlock ≠ some b) {ops : Array Oper} {o : Oper} {a : Act} {K : Act → World → Prop} {Q : Exit → Act → World → Prop} {E : Prop} (hgd : o.guard = none) (s y : Operand)
    (ho : o.op = .call { callee := .builtin .append, args := #[s, y], argTypes := #[29, 29] }) (hs : a.eval s = v) (hy : a.eval y = .slice (some ⟨w1.heap.size, 0, none⟩) 1 1) (hn : xs.length + 1 ≤ 100000000) (hbase : base ≤ w1.heap.size)
    (h : ∀ g cap w', Grow Lay.tIvfList w' base 104 (.slice (some ⟨g, 0, none⟩) (xs.length + 1) cap) (rows ++ [row]) (xs ++ [x]) (bls ++ [bl]) → Below base w1 w' → Ext (fun q => v.ownBlock = some q) w1 w' → g < w'.heap.size → w1.heap.size ≤ w'.heap.size → (v.ownBlock = some g ∨ w1.heap.size ≤ g) → K (a.put o.dst (.slice (some ⟨g, 0, none⟩) (xs.length + 1) cap)) w') :
    if Region.wanted o (yielded ops a.tmps) = true then Oper.wp Tryz.prog o a (w1.alloc (.cells row.toArray 104)) K Q else E := by
  obtain ⟨i0, hi0, hz0, hz1, hz2⟩ := info_parts infoAppIvfList
  obtain ⟨h1, hlen⟩ := one_IvfList hl
  refine step_append_lies _ hgd s y 29 ho base 104 i0 _ 1 24 Tryz.underlying29 hi0 hz0 hz1 hz2 rfl (by omega) v xs.length rows.flatten hs (hG.own.alloc _) ⟨w1.heap.size, 0, none⟩ 1 1 row hy hlen (World.news_of_block (cs := row.toArray) (t := 104) (fr := (0, 0)) (heap_alloc_new w1 _)) h1 (by omega) (by unfold maxLen; omega) (by omega) (by simp; omega) (w1.alloc (.cells row.toArray 104)).heap.size rfl ?_
  intro g cap w' h2 h3 h4 h5
  have hg := grown_alloc h3
  have hbw : Below base w1 w' := (Below.refl _ _).grown hg hbase (fun j hj => (hG.own.lt j hj).1)
  have hor : v.ownBlock = some g ∨ w1.heap.size ≤ g := by
    rcases h4 with h4 | h4
    · exact Or.inl h4
    · exact Or.inr (by rw [h4]; simp)
  exact h g cap w' (hG.snoc hl hbl h2 hg hor) hbw ⟨hbw.os, hbw.tape, hbw.output, hbw.size, fun k hk hn => hg.block k hk (fun e => hn e.symm)⟩ h5 hbw.size hor

end Go.Proofs.YtfgadegpdknocaaGreat

namespace Go.Proofs.YtfgadegpdknocaaGreat
open Go.RowKit

theorem infoAppItem : (Tryz.prog.info? 133).map (fun i => (i.zero, i.size, i.bytes)) = some (some (.agg #[.int .i64 0, .slice none 0 0]), 2, 32) := by kernel_rfl
theorem one_Item {w : World} {row : List Value} {x : DItem} {bl : List Nat} (h : Lay.tItem.lies w row x bl) : (∀ u ∈ row, u.oneCell' = true) ∧ row.length = 1 * 2 := by
  obtain ⟨_, _, _, rfl, -⟩ := lies_Item.1 h
  simp [Value.oneCell']

/-- At an operation of a plain region: the new one lies in a block of its own. -/
theorem wpList_append_Item {w1 : World} {base : Nat} {v : Value} {rows : List (List Value)} {xs : List DItem} {bls : List (List Nat)} (hG : Grow Lay.tItem w1 base 133 v rows xs bls) {row : List Value} {x : DItem} {bl : List Nat} (hl : Lay.tItem.lies w1 row x bl) (hbl : ∀ b ∈ bl, v.ownBlock ≠ some b) {ops : Array Oper} {rest : List Oper} {o : Oper} {a : Act} {Q : Exit → Act → World → Prop} (hgd : o.guard = none) (s y : Operand)
    (ho : o.op = .call { callee := .builtin .append, args := #[s, y], argTypes := #[57, 57] }) (hs : a.eval s = v) (hy : a.eval y = .slice (some ⟨w1.heap.size, 0, none⟩) 1 1) (hn : xs.length + 1 ≤ 100000000) (hbase : base ≤ w1.heap.size)
    (h : ∀ g cap w', Grow Lay.tItem w' base 133 (.slice (some ⟨g, 0, none⟩) (xs.length + 1) cap) (rows ++ [row]) (xs ++ [x]) (bls ++ [bl]) → Below base w1 w' → Ext (fun q => v.ownBlock = some q) w1 w' → g < w'.heap.size → w1.heap.size ≤ w'.heap.size → (v.ownBlock = some g ∨ w1.heap.size ≤ g) → wpList Tryz.prog ops Q rest (a.put o.dst (.slice (some ⟨g, 0, none⟩) (xs.length + 1) cap)) w') :
    wpList Tryz.prog ops Q (o :: rest) a (w1.alloc (.cells row.toArray 133)) := by
  obtain ⟨i0, hi0, hz0, hz1, hz2⟩ := info_parts infoAppItem
  obtain ⟨h1, hlen⟩ := one_Item hl
  refine wpList_append_lies _ hgd s y 57 ho base 133 i0 _ 2 32 Tryz.underlying57 hi0 hz0 hz1 hz2 rfl (by omega) v xs.length rows.flatten hs (hG.own.alloc _) ⟨w1.heap.size, 0, none⟩ 1 1 row hy hlen (World.news_of_block (cs := row.toArray) (t := 133) (fr := (0, 0)) (heap_alloc_new w1 _)) h1 (by omega) (by unfold maxLen; omega) (by omega) (by simp; omega) (w1.alloc (.cells row.toArray 133)).heap.size rfl ?_
  intro g cap w' h2 h3 h4 h5
  have hg := grown_alloc h3
  have hbw : Below base w1 w' := (Below.refl _ _).grown hg hbase (fun j hj => (hG.own.lt j hj).1)
  have hor : v.ownBlock = some g ∨ w1.heap.size ≤ g := by
    rcases h4 with h4 | h4
    · exact Or.inl h4
    · exact Or.inr (by rw [h4]; simp)
  exact h g cap w' (hG.snoc hl hbl h2 hg hor) hbw ⟨hbw.os, hbw.tape, hbw.output, hbw.size, fun k hk hn => hg.block k hk (fun e => hn e.symm)⟩ h5 hbw.size hor

/-- At a step of a region that draws its order. -/
theorem step_append_Item {w1 : World} {base : Nat} {v : Value} {rows : List (List Value)} {xs : List DItem} {bls : List (List Nat)} (hG : Grow Lay.tItem w1 base 133 v rows xs bls) {row : List Value} {x : DItem} {bl : List Nat} (hl : Lay.tItem.lies w1 row x bl) (hbl : ∀ b ∈ bl, v.ownBlock ≠ some b) {ops : Array Oper} {o : Oper} {a : Act} {K : Act → World → Prop} {Q : Exit → Act → World → Prop} {E : Prop} (hgd : o.guard = none) (s y : Operand)
    (ho : o.op = .call { callee := .builtin .append, args := #[s, y], argTypes := #[57, 57] }) (hs : a.eval s = v) (hy : a.eval y = .slice (some ⟨w1.heap.size, 0, none⟩) 1 1) (hn : xs.length + 1 ≤ 100000000) (hbase : base ≤ w1.heap.size)
    (h : ∀ g cap w', Grow Lay.tItem w' base 133 (.slice (some ⟨g, 0, none⟩) (xs.length + 1) cap) (rows ++ [row]) (xs ++ [x]) (bls ++ [bl]) → Below base w1 w' → Ext (fun q => v.ownBlock = some q) w1 w' → g < w'.heap.size → w1.heap.size ≤ w'.heap.size → (v.ownBlock = some g ∨ w1.heap.size ≤ g) → K (a.put o.dst (.slice (some ⟨g, 0, none⟩) (xs.length + 1) cap)) w') :
    if Region.wanted o (yielded ops a.tmps) = true then Oper.wp Tryz.prog o a (w1.alloc (.cells row.toArray 133)) K Q else E := by
  obtain ⟨i0, hi0, hz0, hz1, hz2⟩ := info_parts infoAppItem
  obtain ⟨h1, hlen⟩ := one_Item hl
  refine step_append_lies _ hgd s y 57 ho base 133 i0 _ 2 32 Tryz.underlying57 hi0 hz0 hz1 hz2 rfl (by omega) v xs.length rows.flatten hs (hG.own.alloc _) ⟨w1.heap.size, 0, none⟩ 1 1 row hy hlen (World.news_of_block (cs := row.toArray) (t := 133) (fr := (0, 0)) (heap_alloc_new w1 _)) h1 (by omega) (by unfold maxLen; omega) (by omega) (by simp; omega) (w1.alloc (.cells row.toArray 133)).heap.size rfl ?_
  intro g cap w' h2 h3 h4 h5
  have hg := grown_alloc h3
  have hbw : Below base w1 w' := (Below.refl _ _).grown hg hbase (fun j hj => (hG.own.lt j hj).1)
  have hor : v.ownBlock = some g ∨ w1.heap.size ≤ g := by
    rcases h4 with h4 | h4
    · exact Or.inl h4
    · exact Or.inr (by rw [h4]; simp)
  exact h g cap w' (hG.snoc hl hbl h2 hg hor) hbw ⟨hbw.os, hbw.tape, hbw.output, hbw.size, fun k hk hn => hg.block k hk (fun e => hn e.symm)⟩ h5 hbw.size hor

end Go.Proofs.YtfgadegpdknocaaGreat

namespace Go.Proofs.YtfgadegpdknocaaGreat
open Go.RowKit

theorem Ext.drewX {S : Nat → Prop} {a b : World} (h : Ext S a b) : Ext S a b.drew := ⟨h.os, h.tape, h.output, h.size, h.block⟩
theorem Ext.allocX {S : Nat → Prop} {a b : World} (h : Ext S a b) (o : Obj) : Ext S a (b.alloc o) := h.trans (ext_of_below ((Below.refl _ _).alloc (Nat.le_refl _) o) S)

end Go.Proofs.YtfgadegpdknocaaGreat

namespace Go.Proofs.YtfgadegpdknocaaGreat
open Go.RowKit

theorem own_ext {S : Nat → Prop} {w w' : World} {base T sz : Nat} {v : Value} {n : Nat} {xs : List Value} (h : w.ownsRow base T sz v n xs) (e : Ext S w w') (hs : ∀ c, v.ownBlock = some c → ¬ S c) : w'.ownsRow base T sz v n xs := by
  refine ⟨h.1, ?_⟩
  rcases h.2 with h2 | ⟨g, cap, cur, hv, hg, hh, r⟩
  · exact Or.inl h2
  · exact Or.inr ⟨g, cap, cur, hv, hg, (e.block g (lt_of_block hh) (hs g (by rw [hv]; rfl))).trans hh, r⟩
theorem Grow.ext {α : Type} {A : Lay α} {S : Nat → Prop} {w w' : World} {base T : Nat} {v : Value} {rows : List (List Value)} {xs : List α} {bls : List (List Nat)} (h : Grow A w base T v rows xs bls) (e : Ext S w w') (h1 : ∀ c, v.ownBlock = some c → ¬ S c) (h2 : ∀ c ∈ bls.flatten, ¬ S c) : Grow A w' base T v rows xs bls :=
  h.kept (own_ext h.own e h1) fun b hb => e.block b (h.sub_lt b hb) (h2 b hb)

/-- Centers and lists, each in a row of its own. -/
def Two (w : World) (base : Nat) (rc rl : Value) (cs : List DCenter) (ls : List DIvfList) : Prop :=
  ∃ rowsC blsC rowsL blsL, Grow Lay.tCenter w base 134 rc rowsC cs blsC ∧ Grow Lay.tIvfList w base 104 rl rowsL ls blsL ∧ (∀ b ∈ blsC.flatten, base ≤ b) ∧ (∀ b ∈ blsL.flatten, base ≤ b) ∧
    (∀ c ∈ blsL.flatten, rc.ownBlock ≠ some c) ∧ (∀ c ∈ blsC.flatten, rl.ownBlock ≠ some c) ∧ ∀ c, rc.ownBlock = some c → rl.ownBlock ≠ some c
theorem Two.later {w w' : World} {base : Nat} {rc rl : Value} {cs : List DCenter} {ls : List DIvfList} (h : Two w base rc rl cs ls) (hb : Below w.heap.size w w') : Two w' base rc rl cs ls := by
  obtain ⟨a, b, c, d, g1, g2, r⟩ := h
  exact ⟨a, b, c, d, g1.later hb, g2.later hb, r⟩
theorem Two.ext {S : Nat → Prop} {w w' : World} {base : Nat} {rc rl : Value} {cs : List DCenter} {ls : List DIvfList} (h : Two w base rc rl cs ls) (e : Ext S w w') (hs : ∀ c, base ≤ c → ¬ S c) : Two w' base rc rl cs ls := by
  obtain ⟨a, b, c, d, g1, g2, s1, s2, r⟩ := h
  exact ⟨a, b, c, d, g1.ext e (fun q hq => hs q (g1.own.lt q hq).1) (fun q hq => hs q (s1 q hq)), g2.ext e (fun q hq => hs q (g2.own.lt q hq).1) (fun q hq => hs q (s2 q hq)), s1, s2, r⟩
theorem two_nil (w : World) (base : Nat) : Two w base (.slice none 0 0) (.slice none 0 0) [] [] :=
  ⟨[], [], [], [], Grow.nil (World.ownsRow_nil _ _ _ _), Grow.nil (World.ownsRow_nil _ _ _ _), by simp, by simp, by simp, by simp, by simp [Value.ownBlock]⟩
theorem flat_add {bls : List (List Nat)} {bl : List Nat} {P : Nat → Prop} (h : ∀ c ∈ bls.flatten, P c) (h2 : ∀ c ∈ bl, P c) : ∀ c ∈ (bls ++ [bl]).flatten, P c := by
  intro c hc
  rw [List.flatten_append] at hc
  rcases List.mem_append.1 hc with hc | hc
  · exact h c hc
  · exact h2 c (by simpa using hc)
theorem Two.cens {w w' : World} {base g cap : Nat} {rc rl : Value} {cs : List DCenter} {ls : List DIvfList} {rowsC : List (List Value)} {blsC : List (List Nat)} {rowsL : List (List Value)} {blsL : List (List Nat)} {row : List Value} {x : DCenter} {bl : List Nat}
    (g2 : Grow Lay.tIvfList w base 104 rl rowsL ls blsL) (s1 : ∀ b ∈ blsC.flatten, base ≤ b) (s2 : ∀ b ∈ blsL.flatten, base ≤ b) (x1 : ∀ c ∈ blsL.flatten, rc.ownBlock ≠ some c) (x2 : ∀ c ∈ blsC.flatten, rl.ownBlock ≠ some c) (x3 : ∀ c, rc.ownBlock = some c → rl.ownBlock ≠ some c)
    (hG : Grow Lay.tCenter w' base 134 (.slice (some ⟨g, 0, none⟩) (cs.length + 1) cap) (rowsC ++ [row]) (cs ++ [x]) (blsC ++ [bl])) (e : Ext (fun q => rc.ownBlock = some q) w w') (hor : rc.ownBlock = some g ∨ w.heap.size ≤ g) (hb1 : ∀ b ∈ bl, base ≤ b) (hb2 : ∀ b ∈ bl, rl.ownBlock ≠ some b) :
    Two w' base (.slice (some ⟨g, 0, none⟩) (cs.length + 1) cap) rl (cs ++ [x]) ls := by
  have hlt := g2.sub_lt
  refine ⟨_, _, rowsL, blsL, hG, g2.ext e (fun c hc hs => x3 c hs hc) (fun c hc hs => x1 c hc hs), flat_add s1 hb1, s2, fun c hc hq => ?_, flat_add x2 hb2, fun c hc hq => ?_⟩
  · have eg : c = g := by simpa [Value.ownBlock] using hq.symm
    rcases hor with h | h
    · exact x1 c hc (by rw [h, eg])
    · have := hlt c hc; omega
  · have eg : c = g := by simpa [Value.ownBlock] using hc.symm
    rcases hor with h | h
    · exact x3 c (by rw [h, eg]) hq
    · have := (g2.own.lt c hq).2; omega
theorem Two.listsA {w w' : World} {base g cap : Nat} {rc rl : Value} {cs : List DCenter} {ls : List DIvfList} {rowsC : List (List Value)} {blsC : List (List Nat)} {rowsL : List (List Value)} {blsL : List (List Nat)} {row : List Value} {x : DIvfList} {bl : List Nat}
    (g1 : Grow Lay.tCenter w base 134 rc rowsC cs blsC) (s1 : ∀ b ∈ blsC.flatten, base ≤ b) (s2 : ∀ b ∈ blsL.flatten, base ≤ b) (x1 : ∀ c ∈ blsL.flatten, rc.ownBlock ≠ some c) (x2 : ∀ c ∈ blsC.flatten, rl.ownBlock ≠ some c) (x3 : ∀ c, rc.ownBlock = some c → rl.ownBlock ≠ some c)
    (hG : Grow Lay.tIvfList w' base 104 (.slice (some ⟨g, 0, none⟩) (ls.length + 1) cap) (rowsL ++ [row]) (ls ++ [x]) (blsL ++ [bl])) (e : Ext (fun q => rl.ownBlock = some q) w w') (hor : rl.ownBlock = some g ∨ w.heap.size ≤ g) (hb1 : ∀ b ∈ bl, base ≤ b) (hb2 : ∀ b ∈ bl, rc.ownBlock ≠ some b) :
    Two w' base rc (.slice (some ⟨g, 0, none⟩) (ls.length + 1) cap) cs (ls ++ [x]) := by
  have hlt := g1.sub_lt
  refine ⟨rowsC, blsC, _, _, g1.ext e (fun c hc hs => x3 c hc hs) (fun c hc hs => x2 c hc hs), hG, s1, flat_add s2 hb1, flat_add x1 hb2, fun c hc hq => ?_, fun c hc hq => ?_⟩
  · have eg : c = g := by simpa [Value.ownBlock] using hq.symm
    rcases hor with h | h
    · exact x2 c hc (by rw [h, eg])
    · have := hlt c hc; omega
  · have eg : c = g := by simpa [Value.ownBlock] using hq.symm
    rcases hor with h | h
    · exact x3 c hc (by rw [h, eg])
    · have := (g1.own.lt c hc).2; omega
theorem Two.lies {w : World} {base : Nat} {rc rl : Value} {cs : List DCenter} {ls : List DIvfList} (h : Two w base rc rl cs ls) (h1 : cs.length ≤ 1000) (h2 : ls.length ≤ 1000) : Lay.tIvf.LiesIn w [rc, rl] ⟨cs, ls⟩ base w.heap.size := by
  obtain ⟨a, b, c, d, g1, g2, s1, s2, -⟩ := h
  obtain ⟨bl1, l1, i1⟩ := g1.toLies (by omega) s1
  obtain ⟨bl2, l2, i2⟩ := g2.toLies (by omega) s2
  refine ⟨bl1 ++ bl2, ⟨[rc], [rl], bl1, bl2, rfl, rfl, l1, l2⟩, fun q hq => ?_⟩
  rcases List.mem_append.1 hq with hq | hq
  · exact i1 q hq
  · exact i2 q hq

end Go.Proofs.YtfgadegpdknocaaGreat

namespace Go.Proofs.YtfgadegpdknocaaGreat
open Go.RowKit

/-- A list of items of the call's own; its blocks are B. -/
def GrowO (w : World) (lo : Nat) (v : Value) (ys : List DItem) (B : List Nat) : Prop :=
  ∃ rows bls, Grow Lay.tItem w lo 133 v rows ys bls ∧ bls.flatten.Nodup ∧ (∀ b ∈ bls.flatten, lo ≤ b ∧ ∀ o, w.frozen? ⟨b, o, none⟩ = false) ∧ B = v.ownBlock.toList ++ bls.flatten
theorem GrowO.nil (w : World) (lo : Nat) : GrowO w lo (.slice none 0 0) [] [] :=
  ⟨[], [], Grow.nil (World.ownsRow_nil _ _ _ _), by simp, by simp, by simp [Value.ownBlock]⟩
theorem own_kept {w w' : World} {base T sz : Nat} {v : Value} {n : Nat} {xs : List Value} (h : w.ownsRow base T sz v n xs) (hk : ∀ c, v.ownBlock = some c → w'.heap[c]? = w.heap[c]?) : w'.ownsRow base T sz v n xs := by
  refine ⟨h.1, ?_⟩
  rcases h.2 with h2 | ⟨g, cap, cur, hv, hg, hh, r⟩
  · exact Or.inl h2
  · exact Or.inr ⟨g, cap, cur, hv, hg, (hk g (by rw [hv]; rfl)).trans hh, r⟩
theorem GrowO.keep {w w' : World} {lo : Nat} {v : Value} {ys : List DItem} {B : List Nat} (h : GrowO w lo v ys B) (hk : ∀ b ∈ B, w'.heap[b]? = w.heap[b]?) : GrowO w' lo v ys B := by
  obtain ⟨rows, bls, h1, h2, h3, rfl⟩ := h
  have k1 : ∀ b ∈ bls.flatten, w'.heap[b]? = w.heap[b]? := fun b hb => hk b (List.mem_append.2 (Or.inr hb))
  exact ⟨rows, bls, h1.kept (own_kept h1.own fun c hc => hk c (List.mem_append.2 (Or.inl (by rw [hc]; simp)))) k1, h2, fun b hb => ⟨(h3 b hb).1, fun o => (frozen_of_heap (k1 b hb) o).trans ((h3 b hb).2 o)⟩, rfl⟩
theorem GrowO.lt {w : World} {lo : Nat} {v : Value} {ys : List DItem} {B : List Nat} (h : GrowO w lo v ys B) : ∀ b ∈ B, lo ≤ b ∧ b < w.heap.size := by
  obtain ⟨rows, bls, h1, h2, h3, rfl⟩ := h
  intro b hb
  rcases List.mem_append.1 hb with hb | hb
  · exact h1.own.lt b (by simpa using hb)
  · exact ⟨(h3 b hb).1, h1.sub_lt b hb⟩
theorem GrowO.done {w : World} {lo : Nat} {v : Value} {ys : List DItem} {B : List Nat} (h : GrowO w lo v ys B) (hn : ys.length ≤ 1000) : ∃ bl, (Lay.sl Lay.tItem).lies w [v] ys bl ∧ bl.Nodup ∧ (∀ b ∈ bl, ∀ o, w.frozen? ⟨b, o, none⟩ = false) ∧ ∀ b ∈ bl, b ∈ B := by
  obtain ⟨rows, bls, h1, h2, h3, rfl⟩ := h
  have hr := h1.reads (by omega)
  rcases h1.form with ⟨rfl, rfl⟩ | ⟨g, cap, rfl, hg, hgl, hcap⟩
  · exact ⟨[], ⟨none, 0, rfl, ⟨by simp, by simp⟩, Or.inl ⟨rfl, rfl⟩⟩, by simp, by simp, by simp⟩
  · by_cases h0 : ys = []
    · subst h0
      exact ⟨[], ⟨_, cap, rfl, ⟨hcap, by simp⟩, Or.inl ⟨rfl, rfl⟩⟩, by simp, by simp, by simp⟩
    · simp only [if_neg h0] at hr
      rcases hr with hr | ⟨h4, -⟩
      · refine ⟨_, hr, ?_, ?_, ?_⟩
        · rw [List.nodup_cons]
          exact ⟨fun hm => h1.off g hm rfl, h2⟩
        · intro b hm o
          rcases List.mem_cons.1 hm with rfl | hm
          · exact h1.own.frozenAt o
          · exact (h3 b hm).2 o
        · intro b hm
          rcases List.mem_cons.1 hm with rfl | hm
          · simp [Value.ownBlock]
          · exact List.mem_append.2 (Or.inr hm)
      · exact absurd h4 h0

/-- A row with data behind it, in blocks from lo on. -/
theorem subs_own {α : Type} {A : Lay α} {w : World} {rows : List (List Value)} {xs : List α} {base T g cap lo hi : Nat} (hown : w.ownsRow base T A.n (.slice (some ⟨g, 0, none⟩) xs.length cap) xs.length rows.flatten) (h : Lay.Subs A w rows xs lo hi) (hg : g < lo) (hn : xs.length ≤ 9223372036854775807) :
    ∃ bl, (Lay.sl A).Own w [.slice (some ⟨g, 0, none⟩) xs.length cap] xs bl ∧ ∀ b ∈ bl, b = g ∨ lo ≤ b := by
  obtain ⟨bls, hr, hb, hl, hnd, hi', hf⟩ := h
  have hG : Grow A w base T (.slice (some ⟨g, 0, none⟩) xs.length cap) rows xs bls := ⟨hown, hr, hb, hl, fun b hm e => by
    have e2 : g = b := by simpa [Value.ownBlock] using e
    have := (hi' b hm).1
    omega⟩
  have hrd := hG.reads hn
  by_cases h0 : xs = []
  · subst h0
    rcases hG.form with ⟨e, -⟩ | ⟨g2, cap2, e, -, -, hcap⟩
    · cases e
    · exact ⟨[], ⟨⟨_, cap, rfl, ⟨by simp, by simp⟩, Or.inl ⟨rfl, rfl⟩⟩, by simp, by simp⟩, by simp⟩
  · simp only [if_neg h0] at hrd
    rcases hrd with hrd | ⟨h4, -⟩
    · refine ⟨_, ⟨hrd, ?_, ?_⟩, ?_⟩
      · rw [List.nodup_cons]
        exact ⟨fun hm => hG.off g hm rfl, hnd⟩
      · intro b hm o
        rcases List.mem_cons.1 hm with rfl | hm
        · exact hown.frozenAt o
        · exact hf b hm o
      · intro b hm
        rcases List.mem_cons.1 hm with rfl | hm
        · exact Or.inl rfl
        · exact Or.inr (hi' b hm).1
    · exact absurd h4 h0
/-- The row in block GL holds n lists; list i holds f i. -/
def ListsO (w : World) (GL lo n : Nat) (f : Nat → List DItem) : Prop :=
  (GL < lo ∧ lo ≤ w.heap.size) ∧ ∃ (vs : List Value) (B : Nat → List Nat), w.ownsRow GL 104 1 (.slice (some ⟨GL, 0, none⟩) n n) n vs ∧ (∀ i (h : i < vs.length), GrowO w lo vs[i] (f i) (B i)) ∧ ∀ i j, i < vs.length → j < vs.length → i ≠ j → ∀ b ∈ B i, b ∉ B j
theorem ListsO.start {w : World} {GL lo n : Nat} (hlo : GL < lo ∧ lo ≤ w.heap.size) (h : w.ownsRow GL 104 1 (.slice (some ⟨GL, 0, none⟩) n n) n (List.replicate n (.slice none 0 0))) : ListsO w GL lo n fun _ => [] :=
  ⟨hlo, _, fun _ => [], h, fun i hi => by rw [List.getElem_replicate]; exact GrowO.nil _ _, by simp⟩
theorem ListsO.later {w w' : World} {GL lo n : Nat} {f : Nat → List DItem} (h : ListsO w GL lo n f) (hb : Below w.heap.size w w') : ListsO w' GL lo n f := by
  obtain ⟨hlo, vs, B, h1, h2, h3⟩ := h
  exact ⟨⟨hlo.1, Nat.le_trans hlo.2 hb.size⟩, vs, B, own_below h1 hb, fun i hi => (h2 i hi).keep fun b hm => hb.block b ((h2 i hi).lt b hm).2, h3⟩
theorem ListsO.kept {w w' : World} {GL lo n : Nat} {f : Nat → List DItem} (h : ListsO w GL lo n f) (hz : w.heap.size ≤ w'.heap.size) (hk : ∀ b, GL ≤ b → b < w.heap.size → w'.heap[b]? = w.heap[b]?) : ListsO w' GL lo n f := by
  obtain ⟨hlo, vs, B, h1, h2, h3⟩ := h
  exact ⟨⟨hlo.1, Nat.le_trans hlo.2 hz⟩, vs, B, own_kept h1 fun c hc => hk c (h1.lt c hc).1 (h1.lt c hc).2, fun i hi => (h2 i hi).keep fun b hm => hk b (by have := ((h2 i hi).lt b hm).1; have := hlo.1; omega) ((h2 i hi).lt b hm).2, h3⟩
theorem ListsO.congr {w : World} {GL lo n : Nat} {f g : Nat → List DItem} (h : ListsO w GL lo n f) (e : ∀ i, i < n → f i = g i) : ListsO w GL lo n g := by
  obtain ⟨hlo, vs, B, h1, h2, h3⟩ := h
  have hl : vs.length = n * 1 := h1.1
  exact ⟨hlo, vs, B, h1, fun i hi => by rw [← e i (by omega)]; exact h2 i hi, h3⟩
theorem ListsO.open {w : World} {GL lo n : Nat} {f : Nat → List DItem} (h : ListsO w GL lo n f) {p : Nat} (hp : p < n) : ∃ v rows bls, w.cell? ⟨GL, p, none⟩ = some v ∧ w.frozen? ⟨GL, p, none⟩ = false ∧ Grow Lay.tItem w lo 133 v rows (f p) bls ∧
    ∀ (w1 w' : World) (row : List Value) (x : DItem) (bl : List Nat) (g cap : Nat), Below w.heap.size w w1 → Lay.tItem.Own w1 row x bl → (∀ b ∈ bl, w.heap.size ≤ b ∧ b < w1.heap.size) →
      Grow Lay.tItem w' lo 133 (.slice (some ⟨g, 0, none⟩) ((f p).length + 1) cap) (rows ++ [row]) (f p ++ [x]) (bls ++ [bl]) → Ext (fun q => v.ownBlock = some q) w1 w' → (v.ownBlock = some g ∨ w1.heap.size ≤ g) →
      ListsO (w'.setCell ⟨GL, p, none⟩ (.slice (some ⟨g, 0, none⟩) ((f p).length + 1) cap)) GL lo n fun i => if i = p then f p ++ [x] else f i := by
  obtain ⟨hlo, vs, B, h1, h2, h3⟩ := h
  have hl : vs.length = n * 1 := h1.1
  have hp' : p < vs.length := by omega
  obtain ⟨rows, bls, g1, g2, g3, g4⟩ := h2 p hp'
  refine ⟨vs[p], rows, bls, ?_, h1.frozenAt p, g1, ?_⟩
  · rw [h1.cellAt p (by omega)]
    exact List.getElem?_eq_getElem hp'
  intro w1 w' row x bl g cap hb ho hbl hG hE hor
  have hGL := (h1.lt GL rfl).2
  have hlo1 := hlo.1
  have hlo2 := hlo.2
  have hs1 := hb.size
  have hvo : ∀ c, vs[p].ownBlock = some c → c ∈ B p := fun c hc => by rw [g4]; exact List.mem_append.2 (Or.inl (by rw [hc]; simp))
  have hlt : ∀ i (hi : i < vs.length), ∀ b ∈ B i, lo ≤ b ∧ b < w.heap.size := fun i hi => (h2 i hi).lt
  have kp : ∀ b, b < w.heap.size → b ∉ B p → (w'.setCell ⟨GL, p, none⟩ (.slice (some ⟨g, 0, none⟩) ((f p).length + 1) cap)).heap[b]? = w.heap[b]? ∨ b = GL := fun b hb1 hb2 => by
    by_cases e : b = GL
    · exact Or.inr e
    · refine Or.inl ?_
      rw [heap_setCell_other _ _ _ _ (by simpa using e)]
      exact (hE.block b (by omega) fun hq => hb2 (hvo b hq)).trans (hb.block b hb1)
  have hGLp : GL ∉ B p := fun hm => by have := (hlt p hp' GL hm).1; omega
  have hG' : w'.heap[GL]? = w.heap[GL]? := (hE.block GL (by omega) fun hq => hGLp (hvo GL hq)).trans (hb.block GL hGL)
  have o1 : w'.ownsRow GL 104 1 (.slice (some ⟨GL, 0, none⟩) n n) n vs := own_kept h1 fun c hc => by
    obtain rfl : GL = c := by simpa [Value.ownBlock] using hc
    exact hG'
  have o2 := own_setAll o1 p [.slice (some ⟨g, 0, none⟩) ((f p).length + 1) cap]
  have hgw := (hG.own.lt g rfl)
  have hgG : g ≠ GL := by have := hgw.1; omega
  have nb : ∀ b ∈ bl, b ≠ GL ∧ w'.heap[b]? = w1.heap[b]? := fun b hm => ⟨by have := hbl b hm; omega, hE.block b (hbl b hm).2 fun hq => by have := (hlt p hp' b (hvo b hq)).2; have := (hbl b hm).1; omega⟩
  have ob : ∀ b ∈ bls.flatten, b ≠ GL ∧ b < w.heap.size ∧ w'.heap[b]? = w.heap[b]? := fun b hm => by
    have hbB : b ∈ B p := by rw [g4]; exact List.mem_append.2 (Or.inr hm)
    have hbl2 := hlt p hp' b hbB
    exact ⟨by omega, hbl2.2, (hE.block b (by omega) fun hq => g1.off b hm hq).trans (hb.block b hbl2.2)⟩
  refine ⟨⟨hlo.1, by have := hE.size; simp; omega⟩, vs.set p (.slice (some ⟨g, 0, none⟩) ((f p).length + 1) cap), fun i => if i = p then g :: (bls ++ [bl]).flatten else B i, ?_, ?_, ?_⟩
  · have e : setFrom vs p [.slice (some ⟨g, 0, none⟩) ((f p).length + 1) cap] = vs.set p (.slice (some ⟨g, 0, none⟩) ((f p).length + 1) cap) := rfl
    rw [← e]
    exact o2
  · intro i hi
    have hi' : i < vs.length := by simpa using hi
    by_cases e : i = p
    · subst e
      rw [List.getElem_set_self]
      dsimp only
      rw [if_pos rfl, if_pos rfl]
      refine ⟨rows ++ [row], bls ++ [bl], hG.kept (own_kept hG.own fun c hc => ?_) fun b hm => ?_, ?_, fun b hm => ?_, rfl⟩
      · obtain rfl : g = c := by simpa [Value.ownBlock] using hc
        exact heap_setCell_other _ _ _ _ (by simpa using hgG)
      · rw [List.flatten_append] at hm
        rcases List.mem_append.1 hm with hm | hm
        · exact heap_setCell_other _ _ _ _ (by simpa using (ob b hm).1)
        · exact heap_setCell_other _ _ _ _ (by simpa using (nb b (by simpa using hm)).1)
      · rw [List.flatten_append, List.nodup_append]
        refine ⟨g2, by simpa using ho.2.1, fun b hm c hc => ?_⟩
        have h5 := (ob b hm).2.1
        have h6 := (hbl c (by simpa using hc)).1
        omega
      · rw [List.flatten_append] at hm
        rcases List.mem_append.1 hm with hm | hm
        · refine ⟨(g3 b hm).1, fun o => ?_⟩
          rw [World.frozen?_setCell, frozen_of_heap (ob b hm).2.2 o]
          exact (g3 b hm).2 o
        · have hm' : b ∈ bl := by simpa using hm
          refine ⟨by have := (hbl b hm').1; omega, fun o => ?_⟩
          rw [World.frozen?_setCell, frozen_of_heap (nb b hm').2 o]
          exact ho.2.2 b hm' o
    · rw [List.getElem_set_ne (fun h => e h.symm)]
      dsimp only
      rw [if_neg e, if_neg e]
      refine (h2 i hi').keep fun b hm => ?_
      have h5 := hlt i hi' b hm
      rcases kp b h5.2 (h3 i p hi' hp' e b hm) with h6 | h6
      · exact h6
      · omega
  · have key : ∀ i, i < vs.length → i ≠ p → ∀ b ∈ B i, b ∉ g :: (bls ++ [bl]).flatten := fun i hi e b hm hm2 => by
      have h5 := hlt i hi b hm
      rcases List.mem_cons.1 hm2 with rfl | hm2
      · rcases hor with h6 | h6
        · exact h3 i p hi hp' e b hm (hvo b h6)
        · omega
      · rw [List.flatten_append] at hm2
        rcases List.mem_append.1 hm2 with hm2 | hm2
        · exact h3 i p hi hp' e b hm (by rw [g4]; exact List.mem_append.2 (Or.inr hm2))
        · have := (hbl b (by simpa using hm2)).1; omega
    intro i j hi hj hij b hbi hbj
    have hi' : i < vs.length := by simpa using hi
    have hj' : j < vs.length := by simpa using hj
    simp only at hbi hbj
    by_cases e1 : i = p
    · by_cases e2 : j = p
      · omega
      · rw [if_pos e1] at hbi
        rw [if_neg e2] at hbj
        exact key j hj' e2 b hbj hbi
    · rw [if_neg e1] at hbi
      by_cases e2 : j = p
      · rw [if_pos e2] at hbj
        exact key i hi' e1 b hbi hbj
      · rw [if_neg e2] at hbj
        exact h3 i j hi' hj' hij b hbi hbj
theorem nodup_map {is : List Nat} (bl : Nat → List Nat) (h0 : is.Nodup) (h1 : ∀ i ∈ is, (bl i).Nodup) (h2 : ∀ i ∈ is, ∀ j ∈ is, i ≠ j → ∀ b ∈ bl i, b ∉ bl j) : (is.map bl).flatten.Nodup := by
  induction is with
  | nil => simp
  | cons i is ih =>
    rw [List.nodup_cons] at h0
    rw [List.map_cons, List.flatten_cons, List.nodup_append]
    refine ⟨h1 i (by simp), ih h0.2 (fun j hj => h1 j (by simp [hj])) (fun j hj k hk => h2 j (by simp [hj]) k (by simp [hk])), fun b hb c hc e => ?_⟩
    obtain ⟨l, hl, hcl⟩ := List.mem_flatten.1 hc
    obtain ⟨j, hj, rfl⟩ := List.mem_map.1 hl
    exact h2 i (by simp) j (by simp [hj]) (fun e => h0.1 (e ▸ hj)) b hb (e ▸ hcl)
theorem ListsO.done {w : World} {GL lo n : Nat} {f : Nat → List DItem} (h : ListsO w GL lo n f) (hn : n ≤ 1000) (hf : ∀ i, i < n → (f i).length ≤ 1000) : ∃ bl, (Lay.sl Lay.tIvfList).Own w [.slice (some ⟨GL, 0, none⟩) n n] ((List.range n).map fun i => ⟨f i⟩) bl ∧ ∀ b ∈ bl, b = GL ∨ lo ≤ b := by
  obtain ⟨hlo, vs, B, h1, h2, h3⟩ := h
  have hl : vs.length = n * 1 := h1.1
  have hl2 : vs.length = n := by omega
  have hbl : ∀ i : Nat, ∃ bl : List Nat, ∀ h : i < vs.length, (Lay.sl Lay.tItem).lies w [vs[i]] (f i) bl ∧ bl.Nodup ∧ (∀ b ∈ bl, ∀ o, w.frozen? ⟨b, o, none⟩ = false) ∧ ∀ b ∈ bl, b ∈ B i := fun i => by
    by_cases hi : i < vs.length
    · obtain ⟨bl, q⟩ := (h2 i hi).done (hf i (by omega))
      exact ⟨bl, fun _ => q⟩
    · exact ⟨[], fun h => absurd h hi⟩
  obtain ⟨bl, hq⟩ := Classical.axiomOfChoice hbl
  have hmem : ∀ b ∈ ((List.range n).map bl).flatten, ∃ i, ∃ _ : i < vs.length, b ∈ bl i := fun b hb => by
    obtain ⟨l, hl1, hb1⟩ := List.mem_flatten.1 hb
    obtain ⟨i, hi, rfl⟩ := List.mem_map.1 hl1
    exact ⟨i, by rw [hl2]; exact List.mem_range.1 hi, hb1⟩
  have hS : Lay.Subs Lay.tIvfList w (vs.map fun v => [v]) ((List.range n).map fun i => (⟨f i⟩ : DIvfList)) lo w.heap.size := by
    refine ⟨(List.range n).map bl, by simp [hl2], by simp, fun j j1 j2 j3 => ?_, ?_, fun b hb => ?_, fun b hb => ?_⟩
    · have hj : j < vs.length := by simpa using j2
      have := (hq j hj).1
      simp only [List.getElem_map, List.getElem_range]
      exact this
    · refine nodup_map bl List.nodup_range (fun i hi => (hq i (by rw [hl2]; exact List.mem_range.1 hi)).2.1) fun i hi j hj hij b hb1 hb2 => ?_
      have hi' : i < vs.length := by rw [hl2]; exact List.mem_range.1 hi
      have hj' : j < vs.length := by rw [hl2]; exact List.mem_range.1 hj
      exact h3 i j hi' hj' hij b ((hq i hi').2.2.2 b hb1) ((hq j hj').2.2.2 b hb2)
    · obtain ⟨i, hi, hm⟩ := hmem b hb
      exact (h2 i hi).lt b ((hq i hi).2.2.2 b hm)
    · obtain ⟨i, hi, hm⟩ := hmem b hb
      exact (hq i hi).2.2.1 b hm
  have hflat : (vs.map fun v => [v]).flatten = vs := by
    clear h1 h2 h3 hq hmem hS hl hl2 hbl
    induction vs with
    | nil => rfl
    | cons v vs ih => rw [List.map_cons, List.flatten_cons, ih]; rfl
  have hlen : ((List.range n).map fun i => (⟨f i⟩ : DIvfList)).length = n := by simp
  have hown : w.ownsRow GL 104 1 (.slice (some ⟨GL, 0, none⟩) ((List.range n).map fun i => (⟨f i⟩ : DIvfList)).length n) ((List.range n).map fun i => (⟨f i⟩ : DIvfList)).length (vs.map fun v => [v]).flatten := by rw [hflat, hlen]; exact h1
  obtain ⟨bl2, q1, q2⟩ := subs_own (A := Lay.tIvfList) hown hS hlo.1 (by rw [hlen]; omega)
  rw [hlen] at q1
  exact ⟨bl2, q1, q2⟩

end Go.Proofs.YtfgadegpdknocaaGreat

namespace Go.Proofs.YtfgadegpdknocaaGreat
open Go.RowKit

/-- The cells of placed lists. -/
def cellsP {m : Nat} (ia : Nat → Option Addr) (il ic : Nat → Nat) (zs : List (Pl m)) : List Value := (zs.map fun y => [Value.int .i64 (y.1 : Int), Value.slice (ia y.1) (il y.1) (ic y.1)]).flatten
theorem cellsP_snoc {m : Nat} (ia : Nat → Option Addr) (il ic : Nat → Nat) (zs : List (Pl m)) (y : Pl m) : cellsP ia il ic (zs ++ [y]) = cellsP ia il ic zs ++ [Value.int .i64 (y.1 : Int), Value.slice (ia y.1) (il y.1) (ic y.1)] := by simp [cellsP]
theorem own_grown {A B : World} {row : Option Nat} (h : A.grownBy B row) {n : Nat} (hr : ∀ r, row = some r → n ≤ r ∧ ∃ o : Obj, A.heap[r]? = some o ∧ o.isCells = false) {base T sz : Nat} {v : Value} {k : Nat} {xs : List Value} (ho : A.ownsRow base T sz v k xs) : B.ownsRow base T sz v k xs := by
  refine ⟨ho.1, ?_⟩
  rcases ho.2 with h2 | ⟨g, cap, cur, hv, hg, hh, r⟩
  · exact Or.inl h2
  · exact Or.inr ⟨g, cap, cur, hv, hg, grown_cells h hr hh (Or.inr rfl), r⟩
theorem own_cells {A : World} {base T sz : Nat} {v : Value} {k : Nat} {xs : List Value} (ho : A.ownsRow base T sz v k xs) {g : Nat} (hg : v.ownBlock = some g) {o : Obj} (hb : A.heap[g]? = some o) : o.isCells = true := by
  rcases ho.2 with ⟨rfl, -⟩ | ⟨g2, cap, cur, rfl, -, hh, -⟩
  · cases hg
  · have e : g2 = g := Option.some.inj hg
    rw [e] at hh
    rw [hh] at hb
    cases hb
    rfl
theorem own_form {A : World} {base T sz : Nat} {v : Value} {k : Nat} {xs : List Value} (ho : A.ownsRow base T sz v k xs) : ∃ a c, v = .slice a k c := by
  rcases ho.2 with ⟨rfl, rfl⟩ | ⟨g, cap, cur, rfl, -⟩
  · exact ⟨none, 0, rfl⟩
  · exact ⟨_, cap, rfl⟩
theorem listIn_op {P : Program} {ops : Array Oper} {Q : Exit → Act → World → Prop} {l n : Nat} {o : Oper} {rest : List Oper} {a : Act} {w : World} (hg : o.guard = none) (hd : noDefer o = true) (h : o.wp P a w (wpListIn (Fence.wide.inRound l) n P ops Q rest) Q) : wpListIn (Fence.wide.inRound l) n P ops Q (o :: rest) a w := by
  have hw : Region.wanted o (yielded ops a.tmps) = true := by simp [Region.wanted, hg]
  unfold wpListIn
  rw [if_pos hw]
  exact wp_in l n hd h

end Go.Proofs.YtfgadegpdknocaaGreat

namespace Go.Proofs.YtfgadegpdknocaaGreat
open Go.RowKit Go.Shelf
attribute [local go_sem] Oper.semAt_some

theorem infoPl : (Tryz.prog.info? 110).map (fun i => (i.zero, i.size, i.bytes)) = some (some (.agg #[.int .i64 0, .slice none 0 0]), 2, 32) := by kernel_rfl

set_option maxRecDepth 100000 in
set_option maxHeartbeats 8000000 in
theorem firstOfC {m : Nat} (zs : List (Pl m)) (ia : Nat → Option Addr) (il ic : Nat → Nat) (lb : Array Value) (n : Nat) (w : World) (hn : n ≤ 6) (hz : zs.length ≤ 6)
    (hseq : SeqStopsK Fence.wide 8 Tryz.prog 134 lb (fun x : Pl m => #[.agg #[.int .i64 (x.1 : Int), .slice (ia x.1) (il x.1) (ic x.1)]]) (KpS w.heap.size (fun _ => False)) (fun ys => ys = zs) (fun pre => pre <+: zs) zs.length w) :
    Calls Tryz.prog 107 #[.func (.func 134) #[] lb, .int .i64 (n : Int)] w fun e w' => ∃ v, e = .returned v ∧ w'.ownsRow w.heap.size 110 2 v (zs.take n).length (cellsP ia il ic (zs.take n)) ∧ Below w.heap.size w w' := by
  have nb : Below w.heap.size w ((w.alloc (.cells #[.int .i64 (n : Int)] 2)).alloc (.cells #[.slice none 0 0] 107)) := ((Below.refl _ _).alloc (Nat.le_refl _) _).alloc (by simp) _
  have bN : Box w.heap.size #[.int .i64 (n : Int)] 2 ((w.alloc (.cells #[.int .i64 (n : Int)] 2)).alloc (.cells #[.slice none 0 0] 107)) w.heap.size := (newBox (Nat.le_refl _)).grow _
  have bF : Box w.heap.size #[.slice none 0 0] 107 ((w.alloc (.cells #[.int .i64 (n : Int)] 2)).alloc (.cells #[.slice none 0 0] 107)) (w.heap.size + 1) := newBoxAt (by omega) (by simp)
  obtain ⟨i0, hi0, hz0, hz1, hz2⟩ := info_parts infoPl
  have HNB := hide nb
  refine (callsIn_wide (n := 9)).1 ?_
  refine callsIn_of_wp_marks Tryz.func107 rfl trivial ?_ rfl
  refine wpIn_wide.2 ?_
  simp only [Tryz.ntmps107, List.size_toArray, List.length_cons, List.length_nil, Nat.reduceAdd, Nat.reduceSub, Array.replicate_succ, Array.replicate_zero, List.push_toArray, List.append_toArray, List.nil_append, List.cons_append]
  go_wp2_with fail
  generalize (w.alloc (.cells #[.int .i64 (n : Int)] 2)).alloc (.cells #[.slice none 0 0] 107) = WL at *
  have hlw : w.heap.size + 1 < WL.heap.size := bF.lt
  refine wpIn_wide.1 (wpIn_rangeFunc_ownH (F := Fence.wide) (n := 9) rfl (by decide) (gf := 134) (lb := lb) rfl trivial (enters_of Tryz.func134 (by kernel_rfl) rfl)
    hseq KpS.trans (fun W l _ o' hl _ _ _ => KpS.put _ W l o' (by omega)) (unhide HNB) (fun _ => rfl)
    (fun pre W => (w.heap.size ≤ W.heap.size ∧ pre.length ≤ n) ∧ Box w.heap.size #[.int .i64 (n : Int)] 2 W w.heap.size ∧ (∃ v, Box w.heap.size #[v] 107 W (w.heap.size + 1) ∧ W.ownsRow (w.heap.size + 2) 110 2 v pre.length (cellsP ia il ic pre)) ∧ Below w.heap.size w W)
    (fun c pre W => c = .exit 0 ∧ ∃ pre' p v, pre = pre' ++ [p] ∧ pre'.length = n ∧ Box w.heap.size #[v] 107 W (w.heap.size + 1) ∧ W.ownsRow (w.heap.size + 2) 110 2 v pre'.length (cellsP ia il ic pre') ∧ Below w.heap.size w W)
    (fun s A B row hs hg hr => by
      obtain ⟨⟨q1, q2⟩, q3, ⟨v, q4, q5⟩, q6⟩ := hs
      exact ⟨⟨Nat.le_trans q1 hg.size, q2⟩, box_grown hg hr q3, ⟨v, box_grown hg hr q4, own_grown hg hr q5⟩, below_grown hg hr q6 (by omega) (Nat.le_refl _)⟩)
    (fun c s A B row hs hg hr => by
      obtain ⟨rfl, pre', p, v, rfl, q1, q4, q5, q6⟩ := hs
      exact ⟨rfl, pre', p, v, rfl, q1, box_grown hg hr q4, own_grown hg hr q5, below_grown hg hr q6 (by omega) (Nat.le_refl _)⟩)
    ⟨⟨(unhide HNB).size, Nat.zero_le _⟩, bN, ⟨_, bF, World.ownsRow_nil _ _ _ _⟩, unhide HNB⟩
    (fun y a' W => ∃ Bo, Box (w.heap.size + 2) #[.int .i64 (y.1 : Int), .slice (ia y.1) (il y.1) (ic y.1)] 110 W Bo ∧ a' = { tmps := #[.func (.func 134) #[] lb, .int .i64 (n : Int), undef, .pointer (some ⟨w.heap.size, 0, none⟩), .slice none 0 0, .pointer (some ⟨w.heap.size + 1, 0, none⟩), .pointer (some ⟨Bo, 0, none⟩), .func (.func 134) #[] lb, .agg #[.int .i64 (y.1 : Int), .slice (ia y.1) (il y.1) (ic y.1)], undef, undef, undef, undef, undef, undef, undef, undef, undef], defers := [] })
    (fun y a' _ A B row hs hg hr => by
      obtain ⟨Bo, q1, q2⟩ := hs
      exact ⟨Bo, box_grown hg hr q1, q2⟩)
    ?assign ?body ?done ?stop)
  case assign =>
    rintro l pre y W K ⟨⟨hs, hp⟩, b1, ⟨v, b2, ho⟩, hB1⟩ hK
    have hbn : Below W.heap.size W (W.alloc (.cells #[.int .i64 (y.1 : Int), .slice (ia y.1) (il y.1) (ic y.1)] 110)) := (Below.refl _ _).alloc (Nat.le_refl _) _
    have l2 := b2.lt
    gi_wp2
    exact hK _ _ (keepsFrom_below hbn) (KpS.of_below _ hbn hs) ⟨⟨Nat.le_trans hs hbn.size, hp⟩, b1.keep hbn, ⟨v, b2.keep hbn, own_below ho hbn⟩, hB1.trans (hbn.mono hB1.size)⟩ ⟨W.heap.size, newBox (by omega), rfl⟩
  case body =>
    rintro l pre y a' W hl ⟨r, hr⟩ ⟨⟨hs, hp⟩, b1, ⟨v, b2, ho⟩, hB1⟩ ⟨Bo, bO, rfl⟩ hlt
    obtain ⟨a9, c9, rfl⟩ := own_form ho
    have n0 := b1.at 0 _ rfl
    have s0 := b2.at 0 _ rfl
    have sf := b2.soft 0
    have sl := b2.lt
    have o0 := bO.at 0 _ rfl
    have o1 := bO.at 1 _ rfl
    have HB1 := hide b1
    have HB2 := hide b2
    have HBB := hide hB1
    have HO := hide ho
    by_cases hge : n ≤ pre.length
    · have hd : decide ((n : Int) ≤ (pre.length : Int)) = true := by rw [decide_eq_true_iff]; omega
      clear b1 b2 ho hB1 bO hseq
      gi_wp2
      exact ⟨KeepsFrom.refl _ _, rfl, pre, y, _, rfl, by omega, unhide HB2, unhide HO, unhide HBB⟩
    · have hd : decide ((n : Int) ≤ (pre.length : Int)) = false := by rw [decide_eq_false_iff_not]; omega
      clear b1 b2 ho hB1 bO hseq
      gi_wp2_with (gi_at_builtin; refine listIn_op rfl rfl (wp_append_lies _ _ _ 107 rfl (w.heap.size + 2) 110 i0 _ 2 32 Tryz.underlying107 hi0 hz0 hz1 hz2 rfl (by decide) _ pre.length (cellsP ia il ic pre) rfl ((unhide HO).alloc _) ⟨W.heap.size, 0, none⟩ 1 1 [.int .i64 (y.1 : Int), .slice (ia y.1) (il y.1) (ic y.1)] rfl rfl (World.news_of_block (cs := #[.int .i64 (y.1 : Int), .slice (ia y.1) (il y.1) (ic y.1)]) (fr := (0, 0)) (heap_alloc_new W _)) ?h1c (by decide) ?h63 ?hby ?hbs _ rfl ?_))
      case h1c => simp [Value.oneCell']
      case h63 => unfold maxLen; omega
      case hby => omega
      case hbs => simp; omega
      intro g cap w' h2 h3 _ h5
      have hg := grown_alloc h3
      have E := ext_of_grownBy hg
      have hlo : ∀ k, (Value.slice a9 pre.length c9).ownBlock = some k → w.heap.size + 2 ≤ k := fun k hk => ((unhide HO).lt k hk).1
      have b2' := (unhide HB2).ext E (fun e => by have := hlo _ e; omega)
      have b1' := (unhide HB1).ext E (fun e => by have := hlo _ e; omega)
      have s1 := b2'.at 0 _ rfl
      have sf1 := b2'.soft 0
      have hKF : Hid (KeepsFrom WL.heap.size W (w'.setCell ⟨w.heap.size + 1, 0, none⟩ (.slice (some ⟨g, 0, none⟩) (pre.length + 1) cap))) := (keepsFrom_ext E (fun k o _ hk hnc e => by rw [own_cells (unhide HO) e hk] at hnc; cases hnc)).trans ((KeepsOthers.setCell _ _ _).from _)
      have hKp : Hid (KpS w.heap.size (fun _ => False) W (w'.setCell ⟨w.heap.size + 1, 0, none⟩ (.slice (some ⟨g, 0, none⟩) (pre.length + 1) cap))) := (KpS.of_ext E hs (fun k hk e => by have := hlo k e; omega)).trans ⟨by simp, fun b hb _ => heap_setCell_other _ _ _ _ (by simp; omega)⟩
      have hF2 := hide (b2'.set 0 (.slice (some ⟨g, 0, none⟩) (pre.length + 1) cap))
      have hN2 := hide (b1'.other ⟨w.heap.size + 1, 0, none⟩ (.slice (some ⟨g, 0, none⟩) (pre.length + 1) cap) (by simp))
      have hO2 : Hid ((w'.setCell ⟨w.heap.size + 1, 0, none⟩ (.slice (some ⟨g, 0, none⟩) (pre.length + 1) cap)).ownsRow (w.heap.size + 2) 110 2 (.slice (some ⟨g, 0, none⟩) (pre.length + 1) cap) (pre.length + 1) (cellsP ia il ic pre ++ [.int .i64 (y.1 : Int), .slice (ia y.1) (il y.1) (ic y.1)])) := own_kept h2 fun c hc => heap_setCell_other _ _ _ _ (by have := (h2.lt c hc).1; simp; omega)
      have hB2 : Hid (Below w.heap.size w (w'.setCell ⟨w.heap.size + 1, 0, none⟩ (.slice (some ⟨g, 0, none⟩) (pre.length + 1) cap))) := ((unhide HBB).trans (E.below (unhide HBB).size (fun k hk e => by have := hlo k e; omega))).setCell (by simp) _
      have hsz : w.heap.size ≤ w'.heap.size := Nat.le_trans hs hg.size
      clear h2 h3 h5 hg E b2' b1' hlo n0 s0 sf sl o0 o1
      gi_wp2
      refine ⟨unhide hKF, unhide hKp, ⟨by simp; omega, by simp; omega⟩, unhide hN2, ⟨_, unhide hF2, ?_⟩, unhide hB2⟩
      rw [cellsP_snoc, List.length_append]
      exact unhide hO2
  case done =>
    rintro D xs W hD rfl ⟨⟨hs, hp⟩, b1, ⟨v, b2, ho⟩, hB1⟩ hK
    obtain ⟨a9, c9, rfl⟩ := own_form ho
    have s0 := b2.at 0 _ rfl
    have HBB := hide hB1
    have HO := hide ho
    have HK := hide hK
    clear b1 b2 ho hB1 hseq hK
    go_wp2_with fail
    refine ⟨by simp, .inl ⟨_, _, rfl, run_takeDeferred (unhide HK), ?_⟩⟩
    refine ⟨_, results_tmp rfl _ _ _, _, rfl, ?_, ?_⟩
    · rw [List.take_of_length_le hp]
      exact own_mono (show w.heap.size ≤ w.heap.size + 2 by omega) (own_grown (n := WL.heap.size) (grownBy_putObj' _ D (.deferred none)) (fun r e => by cases e; exact ⟨hD, _, unhide HK, rfl⟩) (unhide HO))
    · exact (unhide HBB).grown (grownBy_putObj' _ D (.deferred none)) (by have := (unhide HBB).size; omega) (fun k e => by cases e; omega)
  case stop =>
    rintro D c pre W hD hpre ⟨rfl, pre', p, v, rfl, q1, q4, q5, q6⟩ hK
    obtain ⟨a9, c9, rfl⟩ := own_form q5
    have s0 := q4.at 0 _ rfl
    have HBB := hide q6
    have HO := hide q5
    have HK := hide hK
    have hpt : zs.take n = pre' := by
      have h1 : pre' <+: zs := (List.prefix_append pre' [p]).trans hpre
      rw [← q1]
      exact (List.prefix_iff_eq_take.1 h1).symm
    have HPT := hide hpt
    clear q1 q4 q5 q6 hseq hK hpt
    gi_wp2
    go_wp2_with fail
    refine ⟨by simp, .inl ⟨_, _, rfl, run_takeDeferred (unhide HK), ?_⟩⟩
    refine ⟨_, results_tmp rfl _ _ _, _, rfl, ?_, ?_⟩
    · rw [unhide HPT]
      exact own_mono (show w.heap.size ≤ w.heap.size + 2 by omega) (own_grown (n := WL.heap.size) (grownBy_putObj' _ D (.deferred none)) (fun r e => by cases e; exact ⟨hD, _, unhide HK, rfl⟩) (unhide HO))
    · exact (unhide HBB).grown (grownBy_putObj' _ D (.deferred none)) (by have := (unhide HBB).size; omega) (fun k e => by cases e; omega)

end Go.Proofs.YtfgadegpdknocaaGreat

namespace Go.Proofs.YtfgadegpdknocaaGreat
open Go.RowKit

theorem cvec3 {zs : List Int} (h : vecFault zs = 0) : ∃ p q r, zs = [p, q, r] := by
  have hl := (vecFault_zero h).1
  match zs, hl with
  | [p, q, r], _ => exact ⟨p, q, r, rfl⟩
theorem implScore3 (v1 v2 : Value) (p q : List Int) (w : World) (h1 : IsInts w v1 p) (h2 : IsInts w v2 q) (f1 : vecFault p = 0) (f2 : vecFault q = 0) :
    Calls Tryz.prog 31 #[v1, v2] w fun e w' => e = .returned (.agg #[.int .i64 0, .int .i64 (score3 p q)]) ∧ Below w.heap.size w w' := by
  obtain ⟨x, y, z, rfl⟩ := cvec3 f1
  obtain ⟨a, b, c, rfl⟩ := cvec3 f2
  exact implScore_ok v1 v2 x y z a b c w h1 h2 f1 f2
theorem modelScore3 (v1 v2 : Value) (p q : List Int) (w : World) (h1 : IsInts w v1 p) (h2 : IsInts w v2 q) (f1 : vecFault p = 0) (f2 : vecFault q = 0) :
    Calls Tryz.prog 104 #[v1, v2] w fun e w' => e = .returned (.int .i64 (score3 p q)) ∧ Below w.heap.size w w' := by
  obtain ⟨x, y, z, rfl⟩ := cvec3 f1
  obtain ⟨a, b, c, rfl⟩ := cvec3 f2
  obtain ⟨b1, o1, k1, x', y', z', he, rfl, hbl, c0, c1, c2⟩ := h1.three rfl
  simp only [List.cons.injEq, and_true] at he
  obtain ⟨rfl, rfl, rfl⟩ := he
  obtain ⟨b2, o2, k2, x', y', z', he, rfl, hbl2, d0, d1, d2⟩ := h2.three rfl
  simp only [List.cons.injEq, and_true] at he
  obtain ⟨rfl, rfl, rfl⟩ := he
  exact modelSum b1 o1 k1 b2 o2 k2 x y z a b c w c0 c1 c2 d0 d1 d2 f1 f2

end Go.Proofs.YtfgadegpdknocaaGreat

namespace Go.Proofs.YtfgadegpdknocaaGreat
open Go.RowKit

theorem cen_cell {w : World} {b off k : Nat} {u : Option Value} (h : w.cell? ⟨b, off + k * Lay.tCenter.n + 0, none⟩ = u) : w.cell? ⟨b, off + k, none⟩ = u := by
  have q : w.cell? ⟨b, off + k * 1 + 0, none⟩ = u := h
  rw [Nat.mul_one, Nat.add_zero] at q
  exact q

end Go.Proofs.YtfgadegpdknocaaGreat
