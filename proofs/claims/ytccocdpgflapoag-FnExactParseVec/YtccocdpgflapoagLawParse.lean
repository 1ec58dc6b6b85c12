/-
  The law FnExactParseVec answers true at every text, and writes nothing that was there.
  No condition.
-/
import Derived.Test.YtccocdpgflapoagParseVec
import Derived.Test.YtccocdpgflapoagMarks
namespace Go.Proofs.Ytccocdpgflapoag
open Go.RowKit

theorem isInts_marks {w : World} {base T n : Nat} {v : Value} {k : Int} (hk : 0 ≤ k) (hk2 : k ≤ 100000000) (hn : n ≤ 1048576) (h : w.ownsRow base T 1 v n ((marks k n).map (Value.int .i64))) : IsInts w v (marks k n) := by
  refine isInts_row (base := base) (T := T) (marks_wf k n hk hk2 hn) ?_
  rw [marks_len]
  exact h

theorem lawParse_many (s : ByteArray) (w : World) (hn : 1048576 < s.size) (hm : s.size ≤ maxLen) :
    Calls Try.prog 6 #[.string s] w fun e w' => e = .returned (.bool true) ∧ Below w.heap.size w w' := by
  unfold maxLen at hm
  go_enter Try.func6, Try.ntmps6
  go_wp2_with fail
  go_ret
  exact ⟨rfl, Below.refl _ _⟩

set_option maxHeartbeats 1000000 in
theorem lawParse_few (s : ByteArray) (w : World) (hn : s.size ≤ 1048576) :
    Calls Try.prog 6 #[.string s] w fun e w' => e = .returned (.bool true) ∧ Below w.heap.size w w' := by
  obtain ⟨ms, hms⟩ : ∃ ms, ms = pList s.data.toList := ⟨_, rfl⟩
  obtain ⟨c, hcc⟩ : ∃ c, c = pCode s.data.toList := ⟨_, rfl⟩
  have hlen : ms.length ≤ 1048576 := by rw [hms]; have := pList_len s.data.toList; omega
  have hmwf : ∀ m ∈ ms, (Lit.int .i64 m).wf = true := by rw [hms]; exact pList_wf _
  have HM := hide hms
  have HC := hide hcc
  have HL := hide hlen
  have HW := hide hmwf
  clear hms hcc hlen hmwf
  go_enter Try.func6, Try.ntmps6
  go_wp2_with fail
  refine (modelParseVec s w hn).mono ?_
  rintro e w2 ⟨r0, rfl, ho, hb2⟩
  rw [← unhide HM] at ho
  rw [← unhide HC]
  obtain ⟨a0, c0, rfl⟩ := own_shape ho
  have nb : Below w2.heap.size w2 (w2.alloc (.cells #[.int .i64 c, .slice a0 ms.length c0] 30)) := (Below.refl _ _).alloc (Nat.le_refl _) _
  obtain ⟨k0, k1⟩ := new_cells (w := w2) (T := 30) (x := .int .i64 c) (y := .slice a0 ms.length c0)
  have hP1 : IsInts (w2.alloc (.cells #[.int .i64 c, .slice a0 ms.length c0] 30)) (.slice a0 ms.length c0) ms := (isInts_row (unhide HW) ho).later nb
  have HWA := hide (hb2.trans (nb.mono hb2.size))
  simp only [intsRes]
  clear hb2 ho nb
  go_wp2_with fail
  generalize hwa : w2.alloc (.cells #[.int .i64 c, .slice a0 ms.length c0] 30) = wa at *
  generalize w2.heap.size = s0 at *
  clear hwa
  have hs0 : s0 < wa.heap.size := World.block_lt_of_cell? _ _ k0
  have keep : Hid (∀ W, Below wa.heap.size wa W → IsInts W (.slice a0 ms.length c0) ms ∧ W.cell? ⟨s0, 0, none⟩ = some (.int .i64 c) ∧ W.cell? ⟨s0, 1, none⟩ = some (.slice a0 ms.length c0)) := by
    intro W hW
    exact ⟨hP1.later hW, cell_keep hW k0, cell_keep hW k1⟩
  clear hP1 k0 k1
  refine (implParseVec s wa hn).mono ?_
  rintro e w4 ⟨r1, rfl, ho, hb4⟩
  rw [← unhide HM] at ho
  rw [← unhide HC]
  obtain ⟨a1, c1, rfl⟩ := own_shape ho
  simp only [intsRes]
  have nb : Below w4.heap.size w4 (w4.alloc (.cells #[.int .i64 c, .slice a1 ms.length c1] 30)) := (Below.refl _ _).alloc (Nat.le_refl _) _
  obtain ⟨k2, k3⟩ := new_cells (w := w4) (T := 30) (x := .int .i64 c) (y := .slice a1 ms.length c1)
  have HR := hide (own_below ho nb)
  have hs14 : wa.heap.size ≤ w4.heap.size := hb4.size
  have HB4 := hide (hb4.trans (nb.mono hs14))
  have HRS : Hid (∀ k, (Value.slice a1 ms.length c1).ownBlock = some k → wa.heap.size ≤ k ∧ k < w4.heap.size) := fun k hk => ho.lt k hk
  obtain ⟨-, z0, z1⟩ := unhide keep _ (unhide HB4)
  have hs04 : s0 < w4.heap.size := by omega
  clear ho hb4 nb
  go_wp2_with fail
  generalize hwb : w4.alloc (.cells #[.int .i64 c, .slice a1 ms.length c1] 30) = wb at *
  have hs1 : w4.heap.size < wb.heap.size := by rw [← hwb]; simp
  generalize w4.heap.size = s1 at *
  clear hwb
  have q1 := isInts_row (unhide HW) (unhide HR)
  have e := eqIntsRes c a1 a0 ms.length c1 ms.length c0 ms wb (unhide HL) q1 (unhide keep _ (unhide HB4)).1
  simp only [intsRes] at e
  refine e.mono ?_
  clear e q1
  rintro e w9 ⟨rfl, hb9⟩
  have HR9 := hide (own_below (unhide HR) hb9)
  have HB9 := hide ((unhide HB4).trans (hb9.mono (by omega)))
  replace k2 := cell_keep hb9 k2
  replace k3 := cell_keep hb9 k3
  have hs9 : s1 < w9.heap.size := by have := hb9.size; omega
  clear HR HB4 hb9 hs1 z0 z1
  go_wp2_with fail
  have e := markRes c a1 ms.length c1 wa.heap.size ms 1 w9 rfl (unhide HL) (by omega) (by omega) (unhide HR9)
  simp only [intsRes] at e
  refine e.mono ?_
  clear e
  rintro e w10 ⟨rfl, ho, hgr⟩
  have HI := hide (isInts_marks (by omega) (by omega) (unhide HL) ho)
  have hne : some s1 ≠ (Value.slice a1 ms.length c1).ownBlock := fun e => by have := (unhide HRS s1 e.symm).2; omega
  have HB10 := hide ((unhide HB9).grown hgr (by omega) (fun k hk => by have := (unhide HRS k hk).1; omega))
  replace k2 := (hgr.cell_far _ (by simpa using hs9) hne).trans k2
  replace k3 := (hgr.cell_far _ (by simpa using hs9) hne).trans k3
  have hs10 : s1 < w10.heap.size := by have := hgr.size; omega
  clear HR9 HB9 hgr hne hs9 ho
  go_wp2_with fail
  have hL := unhide HL
  have hq : ((1 + (ms.length : Int)) != (1 + (ms.length : Int))) = false := by simp
  have e := heldRes c a1 ms.length c1 ms.length 1 w10 hL (by omega) (by omega) (unhide HI)
  simp only [intsRes] at e
  refine e.mono ?_
  clear e
  rintro e w11 ⟨rfl, hb11⟩
  have HI11 := hide ((unhide HI).later hb11)
  have HB11 := hide ((unhide HB10).trans (hb11.mono (by omega)))
  replace k2 := cell_keep hb11 k2
  replace k3 := cell_keep hb11 k3
  have hs11 : s1 < w11.heap.size := by have := hb11.size; omega
  clear HI HB10 hb11 hs10
  go_wp2_with fail
  refine (implParseVec s w11 hn).mono ?_
  rintro e w13 ⟨r2, rfl, ho, hb13⟩
  rw [← unhide HM] at ho
  rw [← unhide HC]
  obtain ⟨a2, c2, rfl⟩ := own_shape ho
  simp only [intsRes]
  have nb : Below w13.heap.size w13 (w13.alloc (.cells #[.int .i64 c, .slice a2 ms.length c2] 30)) := (Below.refl _ _).alloc (Nat.le_refl _) _
  have hs13 : s1 < w13.heap.size := by have := hb13.size; omega
  have HI13 := hide (((unhide HI11).later hb13).later nb)
  have HB13 := hide (((unhide HB11).trans (hb13.mono (by omega))).trans (nb.mono (by omega)))
  replace k2 := cell_keep nb (cell_keep hb13 k2)
  replace k3 := cell_keep nb (cell_keep hb13 k3)
  have HR2 := hide ((isInts_row (unhide HW) ho).later nb)
  obtain ⟨-, z0, z1⟩ := unhide keep _ (unhide HB13)
  have hs03 : s0 < w13.heap.size := by omega
  clear HI11 HB11 hb13 hs11 ho nb
  go_wp2_with fail
  generalize hwc : w13.alloc (.cells #[.int .i64 c, .slice a2 ms.length c2] 30) = wc at *
  have hsc : s1 < wc.heap.size := World.block_lt_of_cell? _ _ k2
  clear hwc
  have e := eqIntsRes c a2 a0 ms.length c2 ms.length c0 ms wc hL (unhide HR2) (unhide keep _ (unhide HB13)).1
  simp only [intsRes] at e
  refine e.mono ?_
  clear e
  rintro e w14 ⟨rfl, hb14⟩
  have HI14 := hide ((unhide HI13).later hb14)
  have HB14 := hide ((unhide HB13).trans (hb14.mono (by omega)))
  replace k2 := cell_keep hb14 k2
  replace k3 := cell_keep hb14 k3
  have hs14' : s1 < w14.heap.size := by have := hb14.size; omega
  clear HI13 HB13 hb14 hsc hs13 HR2 z0 z1
  go_wp2_with fail
  have e := heldRes c a1 ms.length c1 ms.length 1 w14 hL (by omega) (by omega) (unhide HI14)
  simp only [intsRes] at e
  refine e.mono ?_
  clear e
  rintro e w15 ⟨rfl, hb15⟩
  have HB15 := hide ((unhide HB14).trans (hb15.mono (by omega)))
  clear HI14 HB14 hb15 k2 k3
  go_wp2_with fail
  go_ret
  exact ⟨rfl, (unhide HWA).trans ((unhide HB15).mono (unhide HWA).size)⟩

theorem lawParse (s : ByteArray) (w : World) (hm : s.size ≤ maxLen) :
    Calls Try.prog 6 #[.string s] w fun e w' => e = .returned (.bool true) ∧ Below w.heap.size w w' := by
  by_cases hn : s.size ≤ 1048576
  · exact lawParse_few s w hn
  · exact lawParse_many s w (by omega) hm

end Go.Proofs.Ytccocdpgflapoag
