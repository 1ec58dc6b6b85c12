/-
  The law FnExactMeanOf answers true at every slice of int64 and every number, and writes nothing that was there.
  No condition.
-/
import Derived.Test.YtccocdpgflapoagMarks
import Derived.Test.YtccocdpgflapoagMeanModel
namespace Go.Proofs.Ytccocdpgflapoag
open Go.RowKit

theorem IsInts.wf {w : World} {v : Value} {zs : List Int} (h : IsInts w v zs) : ∀ z ∈ zs, (Lit.int .i64 z).wf = true := by
  obtain ⟨_, _, _, hwf, _⟩ := h
  exact hwf

theorem lt_own {w : World} {base T g n cap : Nat} {xs : List Value} (h : w.ownsRow base T 1 (.slice (some ⟨g, 0, none⟩) n cap) n xs) : g < w.heap.size := (h.lt g rfl).2

theorem isInts_marks {w : World} {base T n : Nat} {v : Value} {k : Int} (hk : 0 ≤ k) (hk2 : k ≤ 100000000) (hn : n ≤ 1048576) (h : w.ownsRow base T 1 v n ((marks k n).map (Value.int .i64))) : IsInts w v (marks k n) := by
  refine isInts_row (base := base) (T := T) (marks_wf k n hk hk2 hn) ?_
  rw [marks_len]
  exact h

theorem own_shape {w : World} {base T : Nat} {v : Value} {n : Nat} {xs : List Value} (h : w.ownsRow base T 1 v n xs) : ∃ ao cap, v = .slice ao n cap := by
  rcases h.2 with ⟨rfl, h0⟩ | ⟨g, cap, cur, rfl, _⟩
  · exact ⟨none, 0, by rw [h0]⟩
  · exact ⟨_, _, rfl⟩

theorem own_below {w w' : World} {base T : Nat} {v : Value} {n : Nat} {xs : List Value} (h : w.ownsRow base T 1 v n xs) (hb : Below w.heap.size w w') : w'.ownsRow base T 1 v n xs := by
  refine ⟨h.1, ?_⟩
  rcases h.2 with h2 | ⟨g, cap, cur, hv, hg, hh, r⟩
  · exact Or.inl h2
  · exact Or.inr ⟨g, cap, cur, hv, hg, (hb.block g (lt_of_block hh)).trans hh, r⟩

theorem lawMeanOf_many (ao : Option Addr) (n cap : Nat) (q : Int) (w : World) (hn : 1048576 < n) :
    Calls Try.prog 5 #[.slice ao n cap, .int .i64 q] w fun e w' => e = .returned (.bool true) ∧ Below w.heap.size w w' := by
  go_enter Try.func5, Try.ntmps5
  go_wp2_with fail
  go_ret
  exact ⟨rfl, Below.refl _ _⟩

set_option maxHeartbeats 1000000 in
theorem lawMeanOf_few (ao : Option Addr) (cap : Nat) (zs : List Int) (q : Int) (w : World) (h : IsInts w (.slice ao zs.length cap) zs) (hn : zs.length ≤ 1048576) :
    Calls Try.prog 5 #[.slice ao zs.length cap, .int .i64 q] w fun e w' => e = .returned (.bool true) ∧ Below w.heap.size w w' := by
  obtain ⟨ms, hms⟩ : ∃ ms, ms = meanList zs q := ⟨_, rfl⟩
  obtain ⟨c, hcc⟩ : ∃ c, c = meanFault zs q := ⟨_, rfl⟩
  have hlen : ms.length ≤ 1048576 := by rw [hms]; have := meanList_len (zs := zs) (n := q); omega
  have hmwf : ∀ m ∈ ms, (Lit.int .i64 m).wf = true := by rw [hms]; exact meanList_bd
  have HM := hide hms
  have HC := hide hcc
  have HL := hide hlen
  have HW := hide hmwf
  clear hms hcc hlen hmwf
  go_enter Try.func5, Try.ntmps5
  go_wp2_with fail
  refine (toInts _ zs _ h hn).mono ?_
  rintro e w1 ⟨v1, rfl, -, -, hi1, hb1⟩
  have h1 := h.later hb1
  go_wp2_with fail
  refine (modelMean v1 zs q _ hi1).mono ?_
  rintro e w2 ⟨r0, rfl, ho, hb2⟩
  rw [← unhide HM] at ho
  rw [← unhide HC]
  obtain ⟨a0, c0, rfl⟩ := own_shape ho
  have b2 : Below w.heap.size w w2 := hb1.trans (hb2.mono hb1.size)
  have nb : Below w2.heap.size w2 (w2.alloc (.cells #[.int .i64 c, .slice a0 ms.length c0] 30)) := (Below.refl _ _).alloc (Nat.le_refl _) _
  obtain ⟨k0, k1⟩ := new_cells (w := w2) (T := 30) (x := .int .i64 c) (y := .slice a0 ms.length c0)
  have hP0 : IsInts (w2.alloc (.cells #[.int .i64 c, .slice a0 ms.length c0] 30)) (.slice ao zs.length cap) zs := (h1.later hb2).later nb
  have hP1 : IsInts (w2.alloc (.cells #[.int .i64 c, .slice a0 ms.length c0] 30)) (.slice a0 ms.length c0) ms := (isInts_row (unhide HW) ho).later nb
  have b3 := b2.trans (nb.mono b2.size)
  simp only [intsRes]
  clear hb1 hb2 h1 hi1 ho b2 nb h
  go_wp2_with fail
  have HWA := hide b3
  generalize hwa : w2.alloc (.cells #[.int .i64 c, .slice a0 ms.length c0] 30) = wa at *
  generalize w2.heap.size = s0 at *
  clear hwa
  refine (toInts _ zs _ hP0 hn).mono ?_
  rintro e w3 ⟨x0, rfl, hx0, hox, -, hb3⟩
  obtain ⟨g, hg⟩ : ∃ g, g = wa.heap.size := ⟨_, rfl⟩
  have hxe : x0 = .slice (some ⟨g, 0, none⟩) zs.length zs.length := by rw [hg]; exact hx0
  clear hx0
  subst hxe
  rw [← hg] at hox
  have B3 : Below g wa w3 := by rw [hg]; exact hb3
  have hs0 : s0 < g := by rw [hg]; exact World.block_lt_of_cell? _ _ k0
  have HG := hide hg
  have b4 : Below w.heap.size w w3 := b3.trans (hb3.mono b3.size)
  have hwg : w.heap.size ≤ g := by rw [hg]; exact b3.size
  have keep : Hid (∀ W, Below g wa W → IsInts W (.slice ao zs.length cap) zs ∧ IsInts W (.slice a0 ms.length c0) ms ∧ W.cell? ⟨s0, 0, none⟩ = some (.int .i64 c) ∧ W.cell? ⟨s0, 1, none⟩ = some (.slice a0 ms.length c0)) := by
    intro W hW
    rw [hg] at hW
    exact ⟨hP0.later hW, hP1.later hW, cell_keep hW k0, cell_keep hW k1⟩
  clear hP0 hP1 k0 k1 hb3 hg b3
  have hxi := isInts_row (v := .slice (some ⟨g, 0, none⟩) zs.length zs.length) (zs := zs) (unhide keep w3 B3).1.wf hox
  go_wp2_with fail
  refine (implMean _ zs q _ hxi).mono ?_
  rintro e w4 ⟨r1, rfl, ho, hb4⟩
  rw [← unhide HM] at ho
  rw [← unhide HC]
  obtain ⟨a1, c1, rfl⟩ := own_shape ho
  simp only [intsRes]
  have hlt3 : g < w3.heap.size := lt_own hox
  have nb : Below w4.heap.size w4 (w4.alloc (.cells #[.int .i64 c, .slice a1 ms.length c1] 30)) := (Below.refl _ _).alloc (Nat.le_refl _) _
  obtain ⟨k2, k3⟩ := new_cells (w := w4) (T := 30) (x := .int .i64 c) (y := .slice a1 ms.length c1)
  have hox4 := own_below (own_below hox hb4) nb
  have hor4 := own_below ho nb
  have B4 : Below g wa (w4.alloc (.cells #[.int .i64 c, .slice a1 ms.length c1] 30)) := (B3.trans (hb4.mono (by omega))).trans (nb.mono (by have := hb4.size; omega))
  have hs14 : w3.heap.size ≤ w4.heap.size := hb4.size
  have hrs : ∀ k, (Value.slice a1 ms.length c1).ownBlock = some k → w3.heap.size ≤ k ∧ k < w4.heap.size := fun k hk => ho.lt k hk
  have HRS := hide hrs
  obtain ⟨-, -, z0, z1⟩ := unhide keep _ B4
  have HX := hide hox4
  have HR := hide hor4
  have HB4 := hide B4
  clear ho hb4 hox hxi B3 b4 nb hox4 hor4 hrs B4
  go_wp2_with fail
  generalize hwb : w4.alloc (.cells #[.int .i64 c, .slice a1 ms.length c1] 30) = wb at *
  have hs1 : w4.heap.size < wb.heap.size := by rw [← hwb]; simp
  generalize w4.heap.size = s1 at *
  clear hwb
  have q1 := isInts_row (unhide HW) (unhide HR)
  have e := eqIntsRes c a1 a0 ms.length c1 ms.length c0 ms wb (unhide HL) q1 (unhide keep _ (unhide HB4)).2.1
  simp only [intsRes] at e
  refine e.mono ?_
  clear e q1
  rintro e w5 ⟨rfl, hb5⟩
  have HX5 := hide (own_below (unhide HX) hb5)
  have HR5 := hide (own_below (unhide HR) hb5)
  have HB5 := hide ((unhide HB4).trans (hb5.mono (by omega)))
  replace k2 := cell_keep hb5 k2
  replace k3 := cell_keep hb5 k3
  have hs5 : s1 < w5.heap.size := by have := hb5.size; omega
  clear HX HR HB4 hb5 z0 z1 hs1
  go_wp2_with fail
  refine (toInts _ zs _ (unhide keep _ (unhide HB5)).1 hn).mono ?_
  rintro e w6 ⟨y0, rfl, -, -, hy0, hb6⟩
  have HX6 := hide (own_below (unhide HX5) hb6)
  have HR6 := hide (own_below (unhide HR5) hb6)
  have HB6 := hide ((unhide HB5).trans (hb6.mono (by omega)))
  replace k2 := cell_keep hb6 k2
  replace k3 := cell_keep hb6 k3
  have hs6 : s1 < w6.heap.size := by have := hb6.size; omega
  clear HX5 HR5 HB5 hb6 hs5
  go_wp2_with fail
  refine (eqInts _ y0 zs _ (isInts_row (unhide keep _ (unhide HB6)).1.wf (unhide HX6)) hy0 hn).mono ?_
  rintro e w7 ⟨rfl, hb7⟩
  have HX7 := hide (own_below (unhide HX6) hb7)
  have HR7 := hide (own_below (unhide HR6) hb7)
  have HB7 := hide ((unhide HB6).trans (hb7.mono (by omega)))
  replace k2 := cell_keep hb7 k2
  replace k3 := cell_keep hb7 k3
  have hs7 : s1 < w7.heap.size := by have := hb7.size; omega
  clear HX6 HR6 HB6 hb7 hs6 hy0
  go_wp2_with fail
  refine (markInts _ g zs 1 _ hn (by omega) (by omega) (unhide HX7)).mono ?_
  rintro e w8 ⟨rfl, -, hgr⟩
  have hgr' : w7.grownBy w8 (some g) := hgr
  have hne : (Value.slice a1 ms.length c1).ownBlock ≠ some g := fun e => by have := (unhide HRS g e).1; omega
  have HR8 := hide ((unhide HR7).kept hgr' (Or.inr hne))
  have HB8 := hide ((unhide HB7).grown hgr' (by omega) (fun k hk => by simp at hk; omega))
  replace k2 := (hgr'.cell_far _ (by simpa using hs7) (by simp; omega)).trans k2
  replace k3 := (hgr'.cell_far _ (by simpa using hs7) (by simp; omega)).trans k3
  have hs8 : s1 < w8.heap.size := by have := hgr'.size; omega
  obtain ⟨-, -, z0, z1⟩ := unhide keep _ (unhide HB8)
  clear HX7 HR7 HB7 hgr hgr' hne hs7
  go_wp2_with fail
  have e := eqIntsRes c a1 a0 ms.length c1 ms.length c0 ms w8 (unhide HL) (isInts_row (unhide HW) (unhide HR8)) (unhide keep _ (unhide HB8)).2.1
  simp only [intsRes] at e
  refine e.mono ?_
  clear e
  rintro e w9 ⟨rfl, hb9⟩
  have HR9 := hide (own_below (unhide HR8) hb9)
  have HB9 := hide ((unhide HB8).trans (hb9.mono (by omega)))
  replace k2 := cell_keep hb9 k2
  replace k3 := cell_keep hb9 k3
  have hs9 : s1 < w9.heap.size := by have := hb9.size; omega
  clear HR8 HB8 hb9 hs8 z0 z1
  go_wp2_with fail
  have e := markRes c a1 ms.length c1 w3.heap.size ms 1 w9 rfl (unhide HL) (by omega) (by omega) (unhide HR9)
  simp only [intsRes] at e
  refine e.mono ?_
  clear e
  rintro e w10 ⟨rfl, ho, hgr⟩
  have HI := hide (isInts_marks (by omega) (by omega) (unhide HL) ho)
  have hne : some s1 ≠ (Value.slice a1 ms.length c1).ownBlock := fun e => by have := (unhide HRS s1 e.symm).2; omega
  have HB10 := hide ((unhide HB9).grown hgr (by omega) (fun k hk => by have := (unhide HRS k hk).1; omega))
  replace k2 := (hgr.cell_far _ (by simpa using hs9) hne).trans k2
  replace k3 := (hgr.cell_far _ (by simpa using hs9) hne).trans k3
  have hs10 : s1 < w10.heap.size := by have := hgr.size; omega
  clear HR9 HB9 hgr hne hs9 ho
  go_wp2_with fail
  have hL := unhide HL
  have hq : ((1 + (ms.length : Int)) != (1 + (ms.length : Int))) = false := by simp
  have e := heldRes c a1 ms.length c1 ms.length 1 w10 hL (by omega) (by omega) (unhide HI)
  simp only [intsRes] at e
  refine e.mono ?_
  clear e
  rintro e w11 ⟨rfl, hb11⟩
  have HI11 := hide ((unhide HI).later hb11)
  have HB11 := hide ((unhide HB10).trans (hb11.mono (by omega)))
  replace k2 := cell_keep hb11 k2
  replace k3 := cell_keep hb11 k3
  have hs11 : s1 < w11.heap.size := by have := hb11.size; omega
  clear HI HB10 hb11 hs10
  go_wp2_with fail
  refine (toInts _ zs _ (unhide keep _ (unhide HB11)).1 hn).mono ?_
  rintro e w12 ⟨y1, rfl, -, -, hy1, hb12⟩
  have HI12 := hide ((unhide HI11).later hb12)
  have HB12 := hide ((unhide HB11).trans (hb12.mono (by omega)))
  replace k2 := cell_keep hb12 k2
  replace k3 := cell_keep hb12 k3
  have hs12 : s1 < w12.heap.size := by have := hb12.size; omega
  clear HI11 HB11 hb12 hs11
  go_wp2_with fail
  refine (implMean y1 zs q _ hy1).mono ?_
  rintro e w13 ⟨r2, rfl, ho, hb13⟩
  rw [← unhide HM] at ho
  rw [← unhide HC]
  obtain ⟨a2, c2, rfl⟩ := own_shape ho
  simp only [intsRes]
  have nb : Below w13.heap.size w13 (w13.alloc (.cells #[.int .i64 c, .slice a2 ms.length c2] 30)) := (Below.refl _ _).alloc (Nat.le_refl _) _
  have hs13 : s1 < w13.heap.size := by have := hb13.size; omega
  have HI13 := hide (((unhide HI12).later hb13).later nb)
  have HB13 := hide (((unhide HB12).trans (hb13.mono (by omega))).trans (nb.mono (by omega)))
  replace k2 := cell_keep nb (cell_keep hb13 k2)
  replace k3 := cell_keep nb (cell_keep hb13 k3)
  have HR2 := hide ((isInts_row (unhide HW) ho).later nb)
  obtain ⟨-, -, z0, z1⟩ := unhide keep _ (unhide HB13)
  have hs03 : s0 < w13.heap.size := by omega
  clear HI12 HB12 hb13 hs12 ho hy1 nb
  go_wp2_with fail
  generalize hwc : w13.alloc (.cells #[.int .i64 c, .slice a2 ms.length c2] 30) = wc at *
  have hsc : s1 < wc.heap.size := World.block_lt_of_cell? _ _ k2
  clear hwc
  have e := eqIntsRes c a2 a0 ms.length c2 ms.length c0 ms wc hL (unhide HR2) (unhide keep _ (unhide HB13)).2.1
  simp only [intsRes] at e
  refine e.mono ?_
  clear e
  rintro e w14 ⟨rfl, hb14⟩
  have HI14 := hide ((unhide HI13).later hb14)
  have HB14 := hide ((unhide HB13).trans (hb14.mono (by omega)))
  replace k2 := cell_keep hb14 k2
  replace k3 := cell_keep hb14 k3
  have hs14' : s1 < w14.heap.size := by have := hb14.size; omega
  clear HI13 HB13 hb14 hsc hs13 HR2 z0 z1
  go_wp2_with fail
  have e := heldRes c a1 ms.length c1 ms.length 1 w14 hL (by omega) (by omega) (unhide HI14)
  simp only [intsRes] at e
  refine e.mono ?_
  clear e
  rintro e w15 ⟨rfl, hb15⟩
  have HB15 := hide ((unhide HB14).trans (hb15.mono (by omega)))
  clear HI14 HB14 hb15 k2 k3
  go_wp2_with fail
  go_ret
  refine ⟨rfl, ?_⟩
  exact ((unhide HWA).trans ((unhide HB15).mono hwg))

theorem lawMeanOf (v : Value) (zs : List Int) (q : Int) (w : World) (h : IsInts w v zs) :
    Calls Try.prog 5 #[v, .int .i64 q] w fun e w' => e = .returned (.bool true) ∧ Below w.heap.size w w' := by
  obtain ⟨ao, cap, rfl, hr⟩ := h
  by_cases hn : zs.length ≤ 1048576
  · exact lawMeanOf_few ao cap zs q w ⟨ao, cap, rfl, hr⟩ hn
  · exact lawMeanOf_many ao zs.length cap q w (by omega)

end Go.Proofs.Ytccocdpgflapoag
