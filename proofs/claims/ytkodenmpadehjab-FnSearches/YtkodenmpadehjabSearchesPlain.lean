/-
  What a search tells and leaves out, in plain words.
  No program is named here.
-/
import Derived.Test.YtkodenmpadehjabSearchPlain
import Derived.Test.YtkodenmpadehjabRankPlain
import Derived.Test.YtkodenmpadehjabTablesPlain
namespace Go.Proofs.Ytkodenmpadehjab
open Go.RowKit

theorem ins_newS {hs : List (Int × Int)} {h : Int × Int} (hn : h ∉ hs) : (ins hs h).length = hs.length + 1 := by
  induction hs with
  | nil => rfl
  | cons g r ih =>
    have h1 : h ≠ g := fun e => hn (by simp [e])
    have h2 : h ∉ r := fun e => hn (by simp [e])
    unfold ins
    split
    · simp [ih h2]
    · split
      · rename_i e
        exact absurd e.symm h1
      · simp
theorem foldl_newS (hs : List (Int × Int)) (a : List (Int × Int)) (h : hs.Nodup) (hd : ∀ x ∈ hs, x ∉ a) : (hs.foldl ins a).length = a.length + hs.length := by
  induction hs generalizing a with
  | nil => rfl
  | cons g r ih =>
    obtain ⟨h1, h2⟩ := List.nodup_cons.1 h
    rw [List.foldl_cons, ih _ h2 (fun x hx hm => ?_), ins_newS (hd g (by simp)), List.length_cons]
    · omega
    · rcases ins_mem.1 hm with e | e
      · exact h1 (e ▸ hx)
      · exact hd x (List.mem_cons_of_mem _ hx) e
theorem best_num {hs : List (Int × Int)} (h : hs.Nodup) (k : Nat) : (best k hs).length = min k hs.length := by
  rw [best_eq, List.length_take, allOf, foldl_newS hs [] h (by simp)]
  simp
theorem rankFrom_tells (l : List (Int × Int)) (i : Nat) (id : Int) : (∃ r y, rankFrom l i id = (0, ((i + r : Nat) : Int)) ∧ l[r]? = some (id, y)) ∨ (rankFrom l i id = (4, 0) ∧ ∀ y, (id, y) ∉ l) := by
  induction l generalizing i with
  | nil => exact Or.inr ⟨rfl, by simp⟩
  | cons h r ih =>
    obtain ⟨hx, hy⟩ := h
    unfold rankFrom
    by_cases he : hx = id
    · subst he
      exact Or.inl ⟨0, hy, by simp, by simp⟩
    · rw [if_neg he]
      rcases ih (i + 1) with ⟨q, y, h1, h2⟩ | ⟨h1, h2⟩
      · exact Or.inl ⟨q + 1, y, by rw [h1]; congr 2; omega, by simpa using h2⟩
      · refine Or.inr ⟨h1, fun y hm => ?_⟩
        rcases List.mem_cons.1 hm with e | e
        · simp only [Prod.mk.injEq] at e
          exact he e.1.symm
        · exact h2 y e
theorem best_worse2 {k : Nat} {hs : List (Int × Int)} {x y : Int × Int} (hx : x ∈ hs) (hn : x ∉ best k hs) (hy : y ∈ best k hs) : bet x y = false := by
  rw [best_eq] at hn hy
  have h1 : x ∈ allOf hs := allOf_mem.2 hx
  have hs1 := allOf_sorted hs
  rw [← List.take_append_drop k (allOf hs)] at h1 hs1
  rcases List.mem_append.1 h1 with h2 | h2
  · exact absurd h2 hn
  · exact bet_asymm ((List.pairwise_append.1 hs1).2.2 y hy x h2)
def hitP (q : List Int) (x : DItem) : Int × Int := (x.id, score3 q x.vec)
/-- All that the law of searches asks. -/
structure Searched (xs : List DItem) (q : List Int) (k : Int) (ms : List (Int × Int)) : Prop where
  right : hitsFault ms = 0
  few : (ms.length : Int) ≤ k
  full : (ms.length : Int) < k → ms.length = xs.length
  most : ms.length ≤ xs.length
  told : ∀ x ∈ xs, (∃ r : Nat, rankOf ms x.id = (0, (r : Int)) ∧ ms[r]? = some (hitP q x)) ∨ (rankOf ms x.id = (4, 0) ∧ ∀ y ∈ ms, bet (hitP q x) y = false)
theorem searched {xs : List DItem} {q : List Int} {k : Int} (hx : Right xs) (hq : vecFault q = 0) (hk : kB k = true) : Searched xs q k (best k.toNat (xs.map (hitP q))) := by
  obtain ⟨hl, ha, hr⟩ := tableFault_zero hx
  have hkk : 0 ≤ k ∧ k ≤ 20 := by simpa [kB] using hk
  have hnd : (xs.map (hitP q)).Nodup := by
    rw [List.Nodup, List.pairwise_map]
    refine hr.imp ?_
    intro a b hab e
    simp only [hitP, Prod.mk.injEq] at e
    omega
  have hone : ∀ p ∈ xs.map (hitP q), oneB p = true := by
    intro p hp
    obtain ⟨x, hx1, rfl⟩ := List.mem_map.1 hp
    have h1 := ha x hx1
    have h2 := score3_bd hq h1.2
    have h3 : 1 ≤ x.id ∧ x.id ≤ 999 := by simpa [idB] using h1.1
    simp only [oneB, hitP, Bool.and_eq_true]
    exact ⟨⟨decide_eq_true h3.1, decide_eq_true h3.2⟩, ⟨decide_eq_true h2.1, decide_eq_true h2.2⟩⟩
  have hlen := best_num hnd k.toNat
  rw [List.length_map] at hlen
  have hf : hitsFault (best k.toNat (xs.map (hitP q))) = 0 := hitsFault_of (by omega) (fun x hx1 => hone x (best_mem hx1)) (best_sorted _ _)
  refine ⟨hf, by omega, fun h => by omega, by omega, fun x hx1 => ?_⟩
  have hin : hitP q x ∈ xs.map (hitP q) := List.mem_map_of_mem hx1
  rw [rankOf, if_pos hf]
  rcases rankFrom_tells (best k.toNat (xs.map (hitP q))) 0 x.id with ⟨r, y, h1, h2⟩ | ⟨h1, h2⟩
  · refine Or.inl ⟨r, by rw [h1]; simp, ?_⟩
    have hm := best_mem (List.mem_of_getElem? h2)
    obtain ⟨z, hz, e⟩ := List.mem_map.1 hm
    have e1 : z.id = x.id := congrArg Prod.fst e
    rw [h2, ← e, rising_inj hr hz hx1 e1]
  · exact Or.inr ⟨h1, fun y hy => best_worse2 hin (h2 _) hy⟩

theorem searchR_zero {xs : List DItem} {q : List Int} {k : Int} (h : (searchR xs q k).code = 0) : Right xs ∧ vecFault q = 0 ∧ kB k = true ∧ searchR xs q k = ⟨0, (best k.toNat (xs.map (hitP q))).map dhit⟩ := by
  have e : (hitsL xs q).map pairH = xs.map (hitP q) := by simp [hitsL, List.map_map, Function.comp_def, hitOf, pairH, hitP]
  unfold searchR at h ⊢
  by_cases h1 : tableFault xs = 0
  · rw [if_pos h1] at h ⊢
    by_cases h2 : vecFault q = 0
    · rw [if_pos h2] at h ⊢
      by_cases h3 : kB k = true
      · rw [if_pos h3, e]
        exact ⟨h1, h2, h3, rfl⟩
      · rw [if_neg h3] at h; cases h
    · rw [if_neg h2] at h; exact absurd h h2
  · rw [if_neg h1] at h; exact absurd h h1

end Go.Proofs.Ytkodenmpadehjab
