/-
  l1Bent draws a vector that may be bent: at most four numbers from -1001 to 1001, in new memory.
  Condition: at most 100000000 numbers have been drawn.
-/
import Derived.Test.YtkodenmpadehjabDraw2
import Derived.Test.YtkodenmpadehjabGround
namespace Go.Proofs.Ytkodenmpadehjab
open Go.RowKit

/-- The slice v holds the numbers zs in memory from block B on. -/
def NewInts (B : Nat) (w : World) (v : Value) (zs : List Int) : Prop :=
  ∃ ao cap, v = .slice ao zs.length cap ∧ (∀ z ∈ zs, -1001 ≤ z ∧ z ≤ 1001) ∧
    (0 < zs.length → ∃ g off, ao = some ⟨g, off, none⟩ ∧ B ≤ g ∧ ∀ j, j < zs.length → w.cell? ⟨g, off + j, none⟩ = some (.int .i64 (zs.getD j 0))) ∧ zs.length ≤ cap

theorem NewInts.ints {B : Nat} {w : World} {v : Value} {zs : List Int} (h : NewInts B w v zs) : IsInts w v zs := by
  obtain ⟨ao, cap, rfl, hb, hc, -⟩ := h
  refine ⟨ao, cap, rfl, fun z hz => wf_of_bd (by have := hb z hz; omega), fun hp => ?_⟩
  obtain ⟨g, off, h1, _, h2⟩ := hc hp
  exact ⟨g, off, h1, h2⟩

theorem NewInts.keep {B b : Nat} {w w' : World} {v : Value} {zs : List Int} (h : NewInts B w v zs) (hg : w.grownBy w' (some b)) (hb : b < B) : NewInts B w' v zs := by
  obtain ⟨ao, cap, rfl, hr, hc, hcap⟩ := h
  refine ⟨ao, cap, rfl, hr, fun hp => ?_, hcap⟩
  obtain ⟨g, off, h1, h2, h3⟩ := hc hp
  refine ⟨g, off, h1, h2, fun j hj => ?_⟩
  have h4 := h3 j hj
  exact (hg.cell_far _ (World.block_lt_of_cell? _ _ h4) (by simp; omega)).trans h4

theorem newInts_own {B T : Nat} {w : World} {v : Value} {zs : List Int} (hr : ∀ z ∈ zs, -1001 ≤ z ∧ z ≤ 1001) (h : w.ownsRow B T 1 v zs.length (zs.map (Value.int .i64))) : NewInts B w v zs := by
  rcases h.2 with ⟨rfl, h0⟩ | ⟨g, cap, cur, rfl, hB, _, hcap, _⟩
  · obtain rfl : zs = [] := List.eq_nil_of_length_eq_zero h0
    exact ⟨none, 0, rfl, hr, by simp, by simp⟩
  · refine ⟨_, _, rfl, hr, fun hp => ⟨g, 0, rfl, hB, fun j hj => ?_⟩, hcap⟩
    rw [Nat.zero_add, h.cellAt j (by omega)]
    simp [List.getD, hj]

theorem own_three {w : World} {B T : Nat} {v : Value} {xs : List Value} (h : w.ownsRow B T 1 v 3 xs) : ∃ g cap, v = .slice (some ⟨g, 0, none⟩) 3 cap ∧ B ≤ g ∧ g < w.heap.size ∧ 3 ≤ cap := by
  rcases h.2 with ⟨_, h0⟩ | ⟨g, cap, cur, rfl, hB, hh, hcap, _⟩
  · omega
  · exact ⟨g, cap, rfl, hB, lt_of_block hh, hcap⟩

/-- What a bent draw leaves. -/
def BentPost (b m : Nat) (cv : Value) (w : World) (e : Ending) (w' : World) : Prop :=
  ∃ (v : Value) (zs : List Int) (m' : Nat), e = .returned v ∧ zs.length ≤ 4 ∧ NewInts w.heap.size w' v zs ∧ m' ≤ m + 11 ∧ SrcAt w' b cv m' ∧ IsCode b w' cv ∧ w.grownBy w' (some b)

set_option maxHeartbeats 1000000 in
theorem bent (b m : Nat) (cv : Value) (w : World) (hs : SrcAt w b cv m) (hc : IsCode b w cv) (hm : m ≤ 90000000) :
    Calls Try.prog 15 #[.pointer (some ⟨b, 0, none⟩)] w (BentPost b m cv w) := by
  have hbw := hs.lt
  go_enter Try.func15, Try.ntmps15
  go_wp2_with fail
  refine (draw b m cv w hs hc (by omega)).mono ?_
  rintro e w1 ⟨v, ds, rfl, hl, hr, hown, hs1, hc1, hg1⟩
  obtain ⟨g, cap, rfl, hBg, -, hcap⟩ := own_three hown
  have HL := hide hl
  have HR := hide hr
  have hw1 : w.heap.size ≤ w1.heap.size := hg1.size
  clear hs hc hl hr
  go_wp2_with fail
  refine (next b (m + 9) cv 12 _ hs1 hc1 (by omega) (by omega) (by omega)).mono ?_
  rintro e w2 ⟨r, rfl, hr, hs2, hc2, hg2⟩
  have hown2 := hown.kept hg2 (Or.inr (own_ne hown hbw))
  have HW := hide (grown_trans hg1 hg2)
  have hw2 : w1.heap.size ≤ w2.heap.size := hg2.size
  clear hown hs1 hc1 hg1 hg2
  rcases (show r = 0 ∨ r = 1 ∨ r = 2 ∨ 3 ≤ r by omega) with rfl | rfl | rfl | h3
  · go_wp2_with fail
    have e := pick b (m + 9 + 1) w2.heap.size cv [1001, -1001] (w2.alloc (.cells #[.int .i64 1001, .int .i64 (-1001)] 2)) (hs2.alloc _) (hc2.alloc (by omega) _) (by omega) (by simp) (by simp) (heap_alloc_new w2 _) (by omega)
    refine e.mono ?_
    clear e
    rintro e w3 ⟨q, rfl, hq, hs3, hc3, hg3⟩
    have hqq : -1001 ≤ q ∧ q ≤ 1001 := by
      simp at hq
      omega
    have hown3 := (hown2.alloc (.cells #[.int .i64 1001, .int .i64 (-1001)] 2)).kept hg3 (Or.inr (own_ne hown2 hbw))
    have hw3 : w2.heap.size ≤ w3.heap.size := by have := hg3.size; simp at this; omega
    obtain ⟨u, hcd⟩ : ∃ u, w3.cell? ⟨g, 0, none⟩ = some u := by
      rw [hown3.cellAt 0 (by omega)]
      exact ⟨_, List.getElem?_eq_getElem (by simp [unhide HL])⟩
    have hfz := hown3.frozenAt 0
    have hst := hown3.stored 0 (.int .i64 q)
    have HO := hide hst.1
    have hgb : some b ≠ some g := by simp; omega
    have HS := hide (hs3.keep hst.2 hgb)
    have HC := hide (hc3.later ((Below.refl b _).grown hst.2 (by omega) (fun j hj => by simp at hj; omega)))
    have HW2 := hide (grown_new (grown_trans (grown_trans (unhide HW) (World.grownBy_alloc w2 (.cells #[.int .i64 1001, .int .i64 (-1001)] 2) _)) hg3) hst.2 (fun j hj => by simp at hj; omega))
    have HQ := hide hqq
    clear hown2 hs2 hc2 hs3 hc3 hg3 hown3 hst hq hqq HW
    go_wp2_with fail
    go_ret
    refine ⟨_, ds.set 0 q, m + 11, rfl, by simp [unhide HL], newInts_own (T := 2) (fun z hz => ?_) (by simpa [unhide HL, List.map_set] using unhide HO), by omega, unhide HS, unhide HC, unhide HW2⟩
    rcases List.mem_or_eq_of_mem_set hz with h | h
    · have := unhide HR z h; omega
    · subst h; exact unhide HQ
  · have hcell : ∀ j, j < 2 → w2.cell? ⟨g, 1 + j, none⟩ = some (.int .i64 (ds.tail.getD j 0)) := by
      intro j hj
      rw [hown2.cellAt (1 + j) (by omega)]
      match ds, unhide HL with
      | [x, y, z], _ =>
        rcases (show j = 0 ∨ j = 1 by omega) with rfl | rfl <;> rfl
    have HC2 := hide hcell
    have HS := hide hs2
    have HC := hide hc2
    clear hown2 hs2 hc2 hcell
    go_wp2_with fail
    go_ret
    have hl2 : ds.tail.length = 2 := by simp [unhide HL]
    refine ⟨_, ds.tail, m + 10, rfl, by omega, ⟨some ⟨g, 1, none⟩, cap - 1, by rw [hl2]; rfl, fun z hz => ?_, fun _ => ⟨g, 1, rfl, hBg, fun j hj => unhide HC2 j (by omega)⟩, by omega⟩, by omega, unhide HS, unhide HC, unhide HW⟩
    have := unhide HR z (List.mem_of_mem_tail hz)
    omega
  · obtain ⟨i0, hi0, hz0, hz1, hz2⟩ := info_parts info2
    have HS := hide hs2
    have HC := hide hc2
    clear hs2 hc2
    go_wp2_with (at_builtin; refine wpList_append_lies _ rfl _ _ 25 rfl w.heap.size 2 i0 _ 1 8 Try.underlying25 hi0 hz0 hz1 hz2 rfl (by omega) _ 3 _ rfl (hown2.alloc _) ⟨w2.heap.size, 0, none⟩ 1 1 [.int .i64 0] rfl rfl (World.news_of_block (cs := #[.int .i64 0]) (t := 2) (fr := (0, 0)) (heap_alloc_new w2 _)) (by simp [Value.oneCell']) (by omega) (by unfold maxLen; omega) (by omega) (by simp; omega) (w2.heap.size + 1) (by simp) ?_)
    intro gg cap2 w3 hown3 hgr hat hlt4
    have HO : Hid (w3.ownsRow w.heap.size 2 1 (.slice (some ⟨gg, 0, none⟩) (ds ++ [0]).length cap2) (ds ++ [0]).length ((ds ++ [0]).map (Value.int .i64))) := by
      show w3.ownsRow w.heap.size 2 1 (.slice (some ⟨gg, 0, none⟩) (ds ++ [0]).length cap2) (ds ++ [0]).length ((ds ++ [0]).map (Value.int .i64))
      rw [List.map_append, List.length_append, unhide HL]
      exact hown3
    have hne := own_ne hown2 hbw
    have HS3 := hide (((unhide HS).alloc (.cells #[.int .i64 0] 2)).keep hgr (Ne.symm hne))
    have HW3 := hide (grown_new (grown_trans (unhide HW) (World.grownBy_alloc w2 (.cells #[.int .i64 0] 2) _)) hgr (fun j hj => (hown2.lt j hj).1))
    have HC3 := hide (((unhide HC).alloc (by omega) (.cells #[.int .i64 0] 2)).later (((Below.refl b _).grown hgr (by simp; omega) (fun j hj => by have := (hown2.lt j hj).1; omega))))
    clear hown2 hown3 hgr hat HS HC HW hne hi0 hz0 hz1 hz2
    go_wp2_with fail
    go_ret
    have hl4 : (ds ++ [(0 : Int)]).length = 4 := by simp [unhide HL]
    refine ⟨_, ds ++ [0], m + 10, rfl, by omega, ?_, by omega, unhide HS3, unhide HC3, unhide HW3⟩
    have h1 := unhide HO
    rw [hl4] at h1
    refine newInts_own (T := 2) (fun z hz => ?_) (by rw [hl4]; exact h1)
    rcases List.mem_append.1 hz with h | h
    · have := unhide HR z h; omega
    · simp at h; omega
  · have e0 : ((r : Int) == 0) = false := by rw [beq_eq_false_iff_ne]; omega
    have e1 : ((r : Int) == 1) = false := by rw [beq_eq_false_iff_ne]; omega
    have e2 : ((r : Int) == 2) = false := by rw [beq_eq_false_iff_ne]; omega
    have HO := hide hown2
    have HS := hide hs2
    have HC := hide hc2
    clear hown2 hs2 hc2
    go_wp2_with fail
    go_ret
    refine ⟨_, ds, m + 10, rfl, by rw [unhide HL]; omega, newInts_own (T := 2) (fun z hz => by have := unhide HR z hz; omega) (by rw [unhide HL]; exact unhide HO), by omega, unhide HS, unhide HC, unhide HW⟩

theorem NewInts.lies {B : Nat} {w : World} {v : Value} {zs : List Int} (h : NewInts B w v zs) (hn : zs.length ≤ 10) : ∃ bl, (Lay.sl Lay.int).lies w [v] zs bl ∧ ∀ c ∈ bl, B ≤ c := by
  obtain ⟨ao, cap, rfl, hr, hc, hcap⟩ := h
  have hwf : ∀ z ∈ zs, (Lit.int .i64 z).wf = true := fun z hz => wf_of_bd (by have := hr z hz; omega)
  by_cases hp : 0 < zs.length
  · obtain ⟨g, off, rfl, hB, hcell⟩ := hc hp
    exact ⟨[g], Lay.lies_ints.2 ⟨_, cap, rfl, ⟨hcap, by omega⟩, hwf, Or.inr ⟨g, off, rfl, World.block_lt_of_cell? _ _ (hcell 0 hp), rfl, hcell⟩⟩, by simp; exact hB⟩
  · obtain rfl : zs = [] := List.eq_nil_of_length_eq_zero (by omega)
    exact ⟨[], Lay.lies_ints.2 ⟨ao, cap, rfl, ⟨hcap, by simp⟩, by simp, Or.inl ⟨rfl, rfl⟩⟩, by simp⟩

end Go.Proofs.Ytkodenmpadehjab
