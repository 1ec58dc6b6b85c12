/-
  The law FnExactBestOf answers true at every slice of hits and every number, and writes nothing that was there.
  Condition: BestOf of the program tells what the model tells (a premise).
-/
import Derived.Test.YtplhhdnmhcnhgaaHitMarks
import Derived.Test.YtplhhdnmhcnhgaaHitOps
namespace Go.Proofs.Ytplhhdnmhcnhgaa
open Go.RowKit

/-- What BestOf of the program is to tell. -/
def ImplBest : Prop := ∀ (v : Value) (hs : List (Int × Int)) (k : Int) (w : World), (Lit.int .i64 k).wf = true → IsHits w v hs →
    Calls Try.prog 13 #[v, .int .i64 k] w fun e w' => ∃ r, e = .returned (intsRes (bestCode hs k) r) ∧ w'.ownsRow w.heap.size 31 2 r (bestList hs k).length (cells2 (bestList hs k)) ∧ Below w.heap.size w w'

theorem bestList_len {zs : List (Int × Int)} {n : Int} : (bestList zs n).length ≤ 20 := by
  unfold bestList
  split
  · next h =>
    have hk : kB n = true := by
      cases hk : kB n with
      | true => rfl
      | false => simp [bestCode, hk] at h
    have := best_len n.toNat zs
    have hb : 0 ≤ n ∧ n ≤ 20 := by simpa [kB] using hk
    omega
  · simp
theorem bestList_mem {zs : List (Int × Int)} {n : Int} {m : Int × Int} (h : m ∈ bestList zs n) : m ∈ zs := by
  unfold bestList at h
  split at h
  · exact best_mem h
  · simp at h

theorem lawBestOf_many (ao : Option Addr) (n cap : Nat) (q : Int) (w : World) (hn : 1048576 < n) (hm : n ≤ 9223372036854775807) :
    Calls Try.prog 7 #[.slice ao n cap, .int .i64 q] w fun e w' => e = .returned (.bool true) ∧ Below w.heap.size w w' := by
  go_enter Try.func7, Try.ntmps7
  go_wp2_with fail
  refine (szHits_many ao n cap 1048576 w hn (by omega) hm).mono ?_
  rintro e w' ⟨rfl, rfl⟩
  go_wp2_with fail
  go_ret
  exact ⟨rfl, Below.refl _ _⟩

set_option maxHeartbeats 1000000 in
theorem lawBestOf_few (implBest : ImplBest) (ao : Option Addr) (cap : Nat) (zs : List (Int × Int)) (q : Int) (w : World) (hqw : (Lit.int .i64 q).wf = true) (h : IsHits w (.slice ao zs.length cap) zs) (hn : zs.length ≤ 1048576) :
    Calls Try.prog 7 #[.slice ao zs.length cap, .int .i64 q] w fun e w' => e = .returned (.bool true) ∧ Below w.heap.size w w' := by
  have HQ := hide hqw
  have HIB := hide implBest
  clear hqw implBest
  obtain ⟨ms, hms⟩ : ∃ ms, ms = bestList zs q := ⟨_, rfl⟩
  obtain ⟨c, hcc⟩ : ∃ c, c = bestCode zs q := ⟨_, rfl⟩
  have hlen : ms.length ≤ 1048576 := by rw [hms]; have := bestList_len (zs := zs) (n := q); omega
  have hmwf : ∀ m ∈ ms, Wf2 m := by rw [hms]; exact fun m hm => h.wf m (bestList_mem hm)
  have HM := hide hms
  have HC := hide hcc
  have HL := hide hlen
  have HW := hide hmwf
  clear hms hcc hlen hmwf
  go_enter Try.func7, Try.ntmps7
  go_wp2_with fail
  refine (szHits_ok ao zs.length cap 1048576 w hn (by omega)).mono ?_
  rintro e w ⟨rfl, rfl⟩
  have hd0 : decide (((1048576 - zs.length : Nat) : Int) < 0) = false := by simp
  go_wp2_with fail
  refine (toHits _ zs _ h hn).mono ?_
  rintro e w1 ⟨v1, rfl, -, -, hi1, hb1⟩
  have h1 := h.later hb1
  go_wp2_with fail
  refine (modelBest v1 zs q _ hi1).mono ?_
  rintro e w2 ⟨r0, rfl, ho, hb2⟩
  rw [← unhide HM] at ho
  rw [← unhide HC]
  obtain ⟨a0, c0, rfl⟩ := own_shape ho
  have b2 : Below w.heap.size w w2 := hb1.trans (hb2.mono hb1.size)
  have nb : Below w2.heap.size w2 (w2.alloc (.cells #[.int .i64 c, .slice a0 ms.length c0] 28)) := (Below.refl _ _).alloc (Nat.le_refl _) _
  obtain ⟨k0, k1⟩ := new_cells (w := w2) (T := 28) (x := .int .i64 c) (y := .slice a0 ms.length c0)
  have hP0 : IsHits (w2.alloc (.cells #[.int .i64 c, .slice a0 ms.length c0] 28)) (.slice ao zs.length cap) zs := (h1.later hb2).later nb
  have hP1 : IsHits (w2.alloc (.cells #[.int .i64 c, .slice a0 ms.length c0] 28)) (.slice a0 ms.length c0) ms := (isHits_row (unhide HW) ho).later nb
  have b3 := b2.trans (nb.mono b2.size)
  simp only [intsRes]
  clear hb1 hb2 h1 hi1 ho b2 nb h
  go_wp2_with fail
  have HWA := hide b3
  generalize hwa : w2.alloc (.cells #[.int .i64 c, .slice a0 ms.length c0] 28) = wa at *
  generalize w2.heap.size = s0 at *
  clear hwa
  refine (toHits _ zs _ hP0 hn).mono ?_
  rintro e w3 ⟨x0, rfl, hx0, hox, -, hb3⟩
  obtain ⟨g, hg⟩ : ∃ g, g = wa.heap.size := ⟨_, rfl⟩
  have hxe : x0 = .slice (some ⟨g, 0, none⟩) zs.length zs.length := by rw [hg]; exact hx0
  clear hx0
  subst hxe
  rw [← hg] at hox
  have B3 : Below g wa w3 := by rw [hg]; exact hb3
  have hs0 : s0 < g := by rw [hg]; exact World.block_lt_of_cell? _ _ k0
  have HG := hide hg
  have b4 : Below w.heap.size w w3 := b3.trans (hb3.mono b3.size)
  have hwg : w.heap.size ≤ g := by rw [hg]; exact b3.size
  have keep : Hid (∀ W, Below g wa W → IsHits W (.slice ao zs.length cap) zs ∧ IsHits W (.slice a0 ms.length c0) ms ∧ W.cell? ⟨s0, 0, none⟩ = some (.int .i64 c) ∧ W.cell? ⟨s0, 1, none⟩ = some (.slice a0 ms.length c0)) := by
    intro W hW
    rw [hg] at hW
    exact ⟨hP0.later hW, hP1.later hW, cell_keep hW k0, cell_keep hW k1⟩
  clear hP0 hP1 k0 k1 hb3 hg b3
  have hxi := isHits_row (v := .slice (some ⟨g, 0, none⟩) zs.length zs.length) (hs := zs) (unhide keep w3 B3).1.wf hox
  go_wp2_with fail
  refine (unhide HIB _ zs q _ (unhide HQ) hxi).mono ?_
  rintro e w4 ⟨r1, rfl, ho, hb4⟩
  rw [← unhide HM] at ho
  rw [← unhide HC]
  obtain ⟨a1, c1, rfl⟩ := own_shape ho
  simp only [intsRes]
  have hlt3 : g < w3.heap.size := lt_own hox
  have nb : Below w4.heap.size w4 (w4.alloc (.cells #[.int .i64 c, .slice a1 ms.length c1] 28)) := (Below.refl _ _).alloc (Nat.le_refl _) _
  obtain ⟨k2, k3⟩ := new_cells (w := w4) (T := 28) (x := .int .i64 c) (y := .slice a1 ms.length c1)
  have hox4 := own_below (own_below hox hb4) nb
  have hor4 := own_below ho nb
  have B4 : Below g wa (w4.alloc (.cells #[.int .i64 c, .slice a1 ms.length c1] 28)) := (B3.trans (hb4.mono (by omega))).trans (nb.mono (by have := hb4.size; omega))
  have hs14 : w3.heap.size ≤ w4.heap.size := hb4.size
  have hrs : ∀ k, (Value.slice a1 ms.length c1).ownBlock = some k → w3.heap.size ≤ k ∧ k < w4.heap.size := fun k hk => ho.lt k hk
  have HRS := hide hrs
  obtain ⟨-, -, z0, z1⟩ := unhide keep _ B4
  have HX := hide hox4
  have HR := hide hor4
  have HB4 := hide B4
  clear ho hb4 hox hxi B3 b4 nb hox4 hor4 hrs B4
  go_wp2_with fail
  generalize hwb : w4.alloc (.cells #[.int .i64 c, .slice a1 ms.length c1] 28) = wb at *
  have hs1 : w4.heap.size < wb.heap.size := by rw [← hwb]; simp
  generalize w4.heap.size = s1 at *
  clear hwb
  have q1 := isHits_row (unhide HW) (unhide HR)
  have e := eqHitsRes c a1 a0 ms.length c1 ms.length c0 ms wb (unhide HL) q1 (unhide keep _ (unhide HB4)).2.1
  simp only [intsRes] at e
  refine e.mono ?_
  clear e q1
  rintro e w5 ⟨rfl, hb5⟩
  have HX5 := hide (own_below (unhide HX) hb5)
  have HR5 := hide (own_below (unhide HR) hb5)
  have HB5 := hide ((unhide HB4).trans (hb5.mono (by omega)))
  replace k2 := cell_keep hb5 k2
  replace k3 := cell_keep hb5 k3
  have hs5 : s1 < w5.heap.size := by have := hb5.size; omega
  clear HX HR HB4 hb5 z0 z1 hs1
  go_wp2_with fail
  refine (toHits _ zs _ (unhide keep _ (unhide HB5)).1 hn).mono ?_
  rintro e w6 ⟨y0, rfl, -, -, hy0, hb6⟩
  have HX6 := hide (own_below (unhide HX5) hb6)
  have HR6 := hide (own_below (unhide HR5) hb6)
  have HB6 := hide ((unhide HB5).trans (hb6.mono (by omega)))
  replace k2 := cell_keep hb6 k2
  replace k3 := cell_keep hb6 k3
  have hs6 : s1 < w6.heap.size := by have := hb6.size; omega
  clear HX5 HR5 HB5 hb6 hs5
  go_wp2_with fail
  refine (eqHits _ y0 zs _ (isHits_row (unhide keep _ (unhide HB6)).1.wf (unhide HX6)) hy0 hn).mono ?_
  rintro e w7 ⟨rfl, hb7⟩
  have HX7 := hide (own_below (unhide HX6) hb7)
  have HR7 := hide (own_below (unhide HR6) hb7)
  have HB7 := hide ((unhide HB6).trans (hb7.mono (by omega)))
  replace k2 := cell_keep hb7 k2
  replace k3 := cell_keep hb7 k3
  have hs7 : s1 < w7.heap.size := by have := hb7.size; omega
  clear HX6 HR6 HB6 hb7 hs6 hy0
  go_wp2_with fail
  refine (markHits _ g zs 1 _ hn (by omega) (by omega) (unhide HX7)).mono ?_
  rintro e w8 ⟨rfl, -, hgr⟩
  have hgr' : w7.grownBy w8 (some g) := hgr
  have hne : (Value.slice a1 ms.length c1).ownBlock ≠ some g := fun e => by have := (unhide HRS g e).1; omega
  have HR8 := hide ((unhide HR7).kept hgr' (Or.inr hne))
  have HB8 := hide ((unhide HB7).grown hgr' (by omega) (fun k hk => by simp at hk; omega))
  replace k2 := (hgr'.cell_far _ (by simpa using hs7) (by simp; omega)).trans k2
  replace k3 := (hgr'.cell_far _ (by simpa using hs7) (by simp; omega)).trans k3
  have hs8 : s1 < w8.heap.size := by have := hgr'.size; omega
  obtain ⟨-, -, z0, z1⟩ := unhide keep _ (unhide HB8)
  clear HX7 HR7 HB7 hgr hgr' hne hs7
  go_wp2_with fail
  have e := eqHitsRes c a1 a0 ms.length c1 ms.length c0 ms w8 (unhide HL) (isHits_row (unhide HW) (unhide HR8)) (unhide keep _ (unhide HB8)).2.1
  simp only [intsRes] at e
  refine e.mono ?_
  clear e
  rintro e w9 ⟨rfl, hb9⟩
  have HR9 := hide (own_below (unhide HR8) hb9)
  have HB9 := hide ((unhide HB8).trans (hb9.mono (by omega)))
  replace k2 := cell_keep hb9 k2
  replace k3 := cell_keep hb9 k3
  have hs9 : s1 < w9.heap.size := by have := hb9.size; omega
  clear HR8 HB8 hb9 hs8 z0 z1
  go_wp2_with fail
  have e := markHitsRes c a1 ms.length c1 w3.heap.size ms 1 w9 rfl (unhide HL) (by omega) (by omega) (unhide HR9)
  simp only [intsRes] at e
  refine e.mono ?_
  clear e
  rintro e w10 ⟨rfl, ho, hgr⟩
  have HI := hide (isHits_marks (by omega) (by omega) (unhide HL) ho)
  have hne : some s1 ≠ (Value.slice a1 ms.length c1).ownBlock := fun e => by have := (unhide HRS s1 e.symm).2; omega
  have HB10 := hide ((unhide HB9).grown hgr (by omega) (fun k hk => by have := (unhide HRS k hk).1; omega))
  replace k2 := (hgr.cell_far _ (by simpa using hs9) hne).trans k2
  replace k3 := (hgr.cell_far _ (by simpa using hs9) hne).trans k3
  have hs10 : s1 < w10.heap.size := by have := hgr.size; omega
  clear HR9 HB9 hgr hne hs9 ho
  go_wp2_with fail
  have hL := unhide HL
  have hq : ((1 + (ms.length : Int) * 2) != (1 + (ms.length : Int) * 2)) = false := by simp
  have e := heldHitsRes c a1 ms.length c1 ms.length 1 w10 hL (by omega) (by omega) (unhide HI)
  simp only [intsRes] at e
  refine e.mono ?_
  clear e
  rintro e w11 ⟨rfl, hb11⟩
  have HI11 := hide ((unhide HI).later hb11)
  have HB11 := hide ((unhide HB10).trans (hb11.mono (by omega)))
  replace k2 := cell_keep hb11 k2
  replace k3 := cell_keep hb11 k3
  have hs11 : s1 < w11.heap.size := by have := hb11.size; omega
  clear HI HB10 hb11 hs10
  go_wp2_with fail
  refine (toHits _ zs _ (unhide keep _ (unhide HB11)).1 hn).mono ?_
  rintro e w12 ⟨y1, rfl, -, -, hy1, hb12⟩
  have HI12 := hide ((unhide HI11).later hb12)
  have HB12 := hide ((unhide HB11).trans (hb12.mono (by omega)))
  replace k2 := cell_keep hb12 k2
  replace k3 := cell_keep hb12 k3
  have hs12 : s1 < w12.heap.size := by have := hb12.size; omega
  clear HI11 HB11 hb12 hs11
  go_wp2_with fail
  refine (unhide HIB y1 zs q _ (unhide HQ) hy1).mono ?_
  rintro e w13 ⟨r2, rfl, ho, hb13⟩
  rw [← unhide HM] at ho
  rw [← unhide HC]
  obtain ⟨a2, c2, rfl⟩ := own_shape ho
  simp only [intsRes]
  have nb : Below w13.heap.size w13 (w13.alloc (.cells #[.int .i64 c, .slice a2 ms.length c2] 28)) := (Below.refl _ _).alloc (Nat.le_refl _) _
  have hs13 : s1 < w13.heap.size := by have := hb13.size; omega
  have HI13 := hide (((unhide HI12).later hb13).later nb)
  have HB13 := hide (((unhide HB12).trans (hb13.mono (by omega))).trans (nb.mono (by omega)))
  replace k2 := cell_keep nb (cell_keep hb13 k2)
  replace k3 := cell_keep nb (cell_keep hb13 k3)
  have HR2 := hide ((isHits_row (unhide HW) ho).later nb)
  obtain ⟨-, -, z0, z1⟩ := unhide keep _ (unhide HB13)
  have hs03 : s0 < w13.heap.size := by omega
  clear HI12 HB12 hb13 hs12 ho hy1 nb
  go_wp2_with fail
  generalize hwc : w13.alloc (.cells #[.int .i64 c, .slice a2 ms.length c2] 28) = wc at *
  have hsc : s1 < wc.heap.size := World.block_lt_of_cell? _ _ k2
  clear hwc
  have e := eqHitsRes c a2 a0 ms.length c2 ms.length c0 ms wc hL (unhide HR2) (unhide keep _ (unhide HB13)).2.1
  simp only [intsRes] at e
  refine e.mono ?_
  clear e
  rintro e w14 ⟨rfl, hb14⟩
  have HI14 := hide ((unhide HI13).later hb14)
  have HB14 := hide ((unhide HB13).trans (hb14.mono (by omega)))
  replace k2 := cell_keep hb14 k2
  replace k3 := cell_keep hb14 k3
  have hs14' : s1 < w14.heap.size := by have := hb14.size; omega
  clear HI13 HB13 hb14 hsc hs13 HR2 z0 z1
  go_wp2_with fail
  have e := heldHitsRes c a1 ms.length c1 ms.length 1 w14 hL (by omega) (by omega) (unhide HI14)
  simp only [intsRes] at e
  refine e.mono ?_
  clear e
  rintro e w15 ⟨rfl, hb15⟩
  have HB15 := hide ((unhide HB14).trans (hb15.mono (by omega)))
  clear HI14 HB14 hb15 k2 k3
  go_wp2_with fail
  go_ret
  refine ⟨rfl, ?_⟩
  exact ((unhide HWA).trans ((unhide HB15).mono hwg))

theorem lawBestOf (implBest : ImplBest) (v : Value) (zs : List (Int × Int)) (q : Int) (w : World) (hqw : (Lit.int .i64 q).wf = true) (h : IsHits w v zs) :
    Calls Try.prog 7 #[v, .int .i64 q] w fun e w' => e = .returned (.bool true) ∧ Below w.heap.size w w' := by
  have h' := h
  obtain ⟨ao, cap, rfl, h1, h2, hr⟩ := h'
  by_cases hn : zs.length ≤ 1048576
  · exact lawBestOf_few implBest ao cap zs q w hqw h hn
  · exact lawBestOf_many ao zs.length cap q w (by omega) (by have := h2.1; unfold maxLen at this; omega)

end Go.Proofs.Ytplhhdnmhcnhgaa
