/-
  The law FnExactMergeHits answers true at every two slices of hits and every number, and writes nothing that was there.
  Condition: MergeHits of the program tells what the model tells (a premise).
-/
import Derived.Test.YtplhhdnmhcnhgaaHitMarks
import Derived.Test.YtplhhdnmhcnhgaaHitOps3
namespace Go.Proofs.Ytplhhdnmhcnhgaa
open Go.RowKit

/-- What MergeHits of the program is to tell. -/
def ImplMerge : Prop := ∀ (u v : Value) (a b : List (Int × Int)) (k : Int) (w : World), (Lit.int .i64 k).wf = true → IsHits w u a → IsHits w v b →
    Calls Try.prog 19 #[u, v, .int .i64 k] w fun e w' => Told w w' e (mergeCode a b k) (mergeList a b k)

theorem mergeList_len {a b : List (Int × Int)} {n : Int} : (mergeList a b n).length ≤ 20 := by
  unfold mergeList
  split
  · next h =>
    have hk : kB n = true := by
      cases hk : kB n with
      | true => rfl
      | false => simp [mergeCode, hk] at h
    have := best_len n.toNat (a ++ b)
    have hb : 0 ≤ n ∧ n ≤ 20 := by simpa [kB] using hk
    omega
  · simp
theorem mergeList_mem {a b : List (Int × Int)} {n : Int} {m : Int × Int} (h : m ∈ mergeList a b n) : m ∈ a ∨ m ∈ b := by
  unfold mergeList at h
  split at h
  · exact List.mem_append.1 (best_mem h)
  · simp at h

theorem lawMerge_many (ao bo : Option Addr) (n cap k cbp : Nat) (q : Int) (w : World) (hn : 1048576 < n) (hm : n ≤ 9223372036854775807) :
    Calls Try.prog 9 #[.slice ao n cap, .slice bo k cbp, .int .i64 q] w fun e w' => e = .returned (.bool true) ∧ Below w.heap.size w w' := by
  go_enter Try.func9, Try.ntmps9
  go_wp2_with fail
  refine (szHits_many ao n cap 1048576 w hn (by omega) hm).mono ?_
  rintro e w' ⟨rfl, rfl⟩
  go_wp2_with fail
  go_ret
  exact ⟨rfl, Below.refl _ _⟩

theorem lawMerge_many2 (ao bo : Option Addr) (n cap k cbp : Nat) (q : Int) (w : World) (hn : n ≤ 1048576) (hk : 1048576 - n < k) (hm : k ≤ 9223372036854775807) :
    Calls Try.prog 9 #[.slice ao n cap, .slice bo k cbp, .int .i64 q] w fun e w' => e = .returned (.bool true) ∧ Below w.heap.size w w' := by
  go_enter Try.func9, Try.ntmps9
  go_wp2_with fail
  refine (szHits_ok ao n cap 1048576 w hn (by omega)).mono ?_
  rintro e w ⟨rfl, rfl⟩
  have hd0 : decide (((1048576 - n : Nat) : Int) < 0) = false := by simp
  obtain ⟨l, hl⟩ : ∃ l, l = 1048576 - n := ⟨_, rfl⟩
  rw [← hl] at hd0 hk ⊢
  have hl2 : l ≤ 1048576 := by omega
  clear hl
  go_wp2_with fail
  refine (szHits_many bo k cbp l w hk hl2 hm).mono ?_
  rintro e w ⟨rfl, rfl⟩
  go_wp2_with fail
  go_ret
  exact ⟨rfl, Below.refl _ _⟩

set_option maxHeartbeats 1000000 in
theorem lawMerge_few (implMerge : ImplMerge) (ao bo : Option Addr) (cap cbp : Nat) (zs ys : List (Int × Int)) (q : Int) (w : World) (hqw : (Lit.int .i64 q).wf = true) (h : IsHits w (.slice ao zs.length cap) zs) (hy : IsHits w (.slice bo ys.length cbp) ys) (hn : zs.length ≤ 1048576) (hny : ys.length ≤ 1048576 - zs.length) :
    Calls Try.prog 9 #[.slice ao zs.length cap, .slice bo ys.length cbp, .int .i64 q] w fun e w' => e = .returned (.bool true) ∧ Below w.heap.size w w' := by
  have HQ := hide hqw
  have HIB := hide implMerge
  have hny2 : ys.length ≤ 1048576 := by omega
  clear hqw implMerge
  obtain ⟨ms, hms⟩ : ∃ ms, ms = mergeList zs ys q := ⟨_, rfl⟩
  obtain ⟨c, hcc⟩ : ∃ c, c = mergeCode zs ys q := ⟨_, rfl⟩
  have hlen : ms.length ≤ 1048576 := by rw [hms]; have := mergeList_len (a := zs) (b := ys) (n := q); omega
  have hmwf : ∀ m ∈ ms, Wf2 m := by rw [hms]; exact fun m hm => (mergeList_mem hm).elim (fun e => h.wf m e) (fun e => hy.wf m e)
  have HM := hide hms
  have HC := hide hcc
  have HL := hide hlen
  have HW := hide hmwf
  clear hms hcc hlen hmwf
  go_enter Try.func9, Try.ntmps9
  go_wp2_with fail
  refine (szHits_ok ao zs.length cap 1048576 w hn (by omega)).mono ?_
  rintro e w ⟨rfl, rfl⟩
  have hd0 : decide (((1048576 - zs.length : Nat) : Int) < 0) = false := by simp
  obtain ⟨l, hl⟩ : ∃ l, l = 1048576 - zs.length := ⟨_, rfl⟩
  rw [← hl] at hd0 hny ⊢
  have hl2 : l ≤ 1048576 := by omega
  clear hl
  go_wp2_with fail
  refine (szHits_ok bo ys.length cbp l w hny hl2).mono ?_
  rintro e w ⟨rfl, rfl⟩
  have hd1 : decide (((l - ys.length : Nat) : Int) < 0) = false := by simp
  obtain ⟨l2, hl3⟩ : ∃ l2, l2 = l - ys.length := ⟨_, rfl⟩
  rw [← hl3] at hd1 ⊢
  clear hl3 hny
  go_wp2_with fail
  refine (toHits _ zs _ h hn).mono ?_
  rintro e w1o ⟨v1, rfl, -, -, hi1, hb1o⟩
  have hy1 := hy.later hb1o
  go_wp2_with fail
  refine (toHits _ ys _ hy1 hny2).mono ?_
  rintro e w1 ⟨v2, rfl, -, -, hi2, hb1⟩
  replace hi1 := hi1.later hb1
  replace hb1 := below_keep2 hb1o hb1
  have h1 := h.later hb1
  replace hy1 := hy.later hb1
  clear hb1o
  go_wp2_with fail
  refine (modelMerge v1 v2 zs ys q _ hi1 hi2).mono ?_
  rintro e w2 ⟨r0, rfl, ho, hb2⟩
  rw [← unhide HM] at ho
  rw [← unhide HC]
  obtain ⟨a0, c0, rfl⟩ := own_shape ho
  have b2 : Below w.heap.size w w2 := hb1.trans (hb2.mono hb1.size)
  have nb : Below w2.heap.size w2 (w2.alloc (.cells #[.int .i64 c, .slice a0 ms.length c0] 28)) := (Below.refl _ _).alloc (Nat.le_refl _) _
  obtain ⟨k0, k1⟩ := new_cells (w := w2) (T := 28) (x := .int .i64 c) (y := .slice a0 ms.length c0)
  have hP0 : IsHits (w2.alloc (.cells #[.int .i64 c, .slice a0 ms.length c0] 28)) (.slice ao zs.length cap) zs := (h1.later hb2).later nb
  have hP2 : IsHits (w2.alloc (.cells #[.int .i64 c, .slice a0 ms.length c0] 28)) (.slice bo ys.length cbp) ys := (hy1.later hb2).later nb
  have hP1 : IsHits (w2.alloc (.cells #[.int .i64 c, .slice a0 ms.length c0] 28)) (.slice a0 ms.length c0) ms := (isHits_row (unhide HW) ho).later nb
  have b3 := b2.trans (nb.mono b2.size)
  simp only [intsRes]
  clear hb1 hb2 h1 hi1 hi2 hy1 ho b2 nb h hy
  go_wp2_with fail
  have HWA := hide b3
  generalize hwa : w2.alloc (.cells #[.int .i64 c, .slice a0 ms.length c0] 28) = wa at *
  generalize w2.heap.size = s0 at *
  clear hwa
  refine (toHits _ zs _ hP0 hn).mono ?_
  rintro e w3o ⟨x0, rfl, hx0, hox, -, hb3⟩
  obtain ⟨g, hg⟩ : ∃ g, g = wa.heap.size := ⟨_, rfl⟩
  have hxe : x0 = .slice (some ⟨g, 0, none⟩) zs.length zs.length := by rw [hg]; exact hx0
  clear hx0
  subst hxe
  rw [← hg] at hox
  have B3o : Below g wa w3o := by rw [hg]; exact hb3
  have hs0 : s0 < g := by rw [hg]; exact World.block_lt_of_cell? _ _ k0
  have hwg : w.heap.size ≤ g := by rw [hg]; exact b3.size
  have keep : Hid (∀ W, Below g wa W → IsHits W (.slice ao zs.length cap) zs ∧ IsHits W (.slice bo ys.length cbp) ys ∧ IsHits W (.slice a0 ms.length c0) ms ∧ W.cell? ⟨s0, 0, none⟩ = some (.int .i64 c) ∧ W.cell? ⟨s0, 1, none⟩ = some (.slice a0 ms.length c0)) := by
    intro W hW
    rw [hg] at hW
    exact ⟨hP0.later hW, hP2.later hW, hP1.later hW, cell_keep hW k0, cell_keep hW k1⟩
  have hg3o : g < w3o.heap.size := lt_own hox
  clear hP0 hP1 hP2 k0 k1 hb3 hg b3
  go_wp2_with fail
  refine (toHits _ ys _ (unhide keep _ B3o).2.1 hny2).mono ?_
  rintro e w3 ⟨x1, rfl, hx1, hoy, -, hb3⟩
  obtain ⟨g2, hg2⟩ : ∃ g2, g2 = w3o.heap.size := ⟨_, rfl⟩
  have hxe : x1 = .slice (some ⟨g2, 0, none⟩) ys.length ys.length := by rw [hg2]; exact hx1
  clear hx1
  subst hxe
  rw [← hg2] at hoy
  have hgg : g < g2 := by omega
  replace hox := own_below hox hb3
  have B3 : Below g wa w3 := B3o.trans (hb3.mono (by omega))
  clear B3o hb3 hg2 hg3o
  have hxi := isHits_row (v := .slice (some ⟨g, 0, none⟩) zs.length zs.length) (hs := zs) (unhide keep w3 B3).1.wf hox
  have hyi := isHits_row (v := .slice (some ⟨g2, 0, none⟩) ys.length ys.length) (hs := ys) (unhide keep w3 B3).2.1.wf hoy
  go_wp2_with fail
  refine (unhide HIB _ _ zs ys q _ (unhide HQ) hxi hyi).mono ?_
  rintro e w4 ⟨r1, rfl, ho, hb4⟩
  rw [← unhide HM] at ho
  rw [← unhide HC]
  obtain ⟨a1, c1, rfl⟩ := own_shape ho
  simp only [intsRes]
  have hlt3 : g2 < w3.heap.size := lt_own hoy
  have nb : Below w4.heap.size w4 (w4.alloc (.cells #[.int .i64 c, .slice a1 ms.length c1] 28)) := (Below.refl _ _).alloc (Nat.le_refl _) _
  obtain ⟨k2, k3⟩ := new_cells (w := w4) (T := 28) (x := .int .i64 c) (y := .slice a1 ms.length c1)
  have hox4 := own_below (own_below hox hb4) nb
  have hoy4 := own_below (own_below hoy hb4) nb
  have hor4 := own_below ho nb
  have B4 : Below g wa (w4.alloc (.cells #[.int .i64 c, .slice a1 ms.length c1] 28)) := (B3.trans (hb4.mono (by omega))).trans (nb.mono (by have := hb4.size; omega))
  have hs14 : w3.heap.size ≤ w4.heap.size := hb4.size
  have hrs : ∀ k, (Value.slice a1 ms.length c1).ownBlock = some k → w3.heap.size ≤ k ∧ k < w4.heap.size := fun k hk => ho.lt k hk
  have HRS := hide hrs
  obtain ⟨-, -, -, z0, z1⟩ := unhide keep _ B4
  have HX := hide hox4
  have HY := hide hoy4
  have HR := hide hor4
  have HB4 := hide B4
  clear ho hb4 hox hoy hxi hyi B3 nb hox4 hoy4 hor4 hrs B4
  go_wp2_with fail
  generalize hwb : w4.alloc (.cells #[.int .i64 c, .slice a1 ms.length c1] 28) = wb at *
  have hs1 : w4.heap.size < wb.heap.size := by rw [← hwb]; simp
  generalize w4.heap.size = s1 at *
  clear hwb
  have q1 := isHits_row (unhide HW) (unhide HR)
  have e := eqHitsRes c a1 a0 ms.length c1 ms.length c0 ms wb (unhide HL) q1 (unhide keep _ (unhide HB4)).2.2.1
  simp only [intsRes] at e
  refine e.mono ?_
  clear e q1
  rintro e w5 ⟨rfl, hb5⟩
  have HX5 := hide (own_below (unhide HX) hb5)
  have HY5 := hide (own_below (unhide HY) hb5)
  have HR5 := hide (own_below (unhide HR) hb5)
  have HB5 := hide ((unhide HB4).trans (hb5.mono (by omega)))
  replace k2 := cell_keep hb5 k2
  replace k3 := cell_keep hb5 k3
  have hs5 : s1 < w5.heap.size := by have := hb5.size; omega
  clear HX HY HR HB4 hb5 hs1 z0 z1
  go_wp2_with fail
  refine (toHits _ zs _ (unhide keep _ (unhide HB5)).1 hn).mono ?_
  rintro e w6 ⟨y0, rfl, -, -, hy0, hb6⟩
  have HX6 := hide (own_below (unhide HX5) hb6)
  have HY6 := hide (own_below (unhide HY5) hb6)
  have HR6 := hide (own_below (unhide HR5) hb6)
  have HB6 := hide ((unhide HB5).trans (hb6.mono (by omega)))
  replace k2 := cell_keep hb6 k2
  replace k3 := cell_keep hb6 k3
  have hs6 : s1 < w6.heap.size := by have := hb6.size; omega
  clear HX5 HY5 HR5 HB5 hb6 hs5 
  go_wp2_with fail
  refine (eqHits _ y0 zs _ (isHits_row (unhide keep _ (unhide HB6)).1.wf (unhide HX6)) hy0 hn).mono ?_
  rintro e w7 ⟨rfl, hb7⟩
  have HX7 := hide (own_below (unhide HX6) hb7)
  have HY7 := hide (own_below (unhide HY6) hb7)
  have HR7 := hide (own_below (unhide HR6) hb7)
  have HB7 := hide ((unhide HB6).trans (hb7.mono (by omega)))
  replace k2 := cell_keep hb7 k2
  replace k3 := cell_keep hb7 k3
  have hs7 : s1 < w7.heap.size := by have := hb7.size; omega
  clear HX6 HY6 HR6 HB6 hb7 hs6 hy0
  go_wp2_with fail
  refine (toHits _ ys _ (unhide keep _ (unhide HB7)).2.1 hny2).mono ?_
  rintro e w6 ⟨y0, rfl, -, -, hy0, hb6⟩
  have HX6 := hide (own_below (unhide HX7) hb6)
  have HY6 := hide (own_below (unhide HY7) hb6)
  have HR6 := hide (own_below (unhide HR7) hb6)
  have HB6 := hide ((unhide HB7).trans (hb6.mono (by omega)))
  replace k2 := cell_keep hb6 k2
  replace k3 := cell_keep hb6 k3
  have hs6 : s1 < w6.heap.size := by have := hb6.size; omega
  clear HX7 HY7 HR7 HB7 hb6 hs7 
  go_wp2_with fail
  refine (eqHits _ y0 ys _ (isHits_row (unhide keep _ (unhide HB6)).2.1.wf (unhide HY6)) hy0 hny2).mono ?_
  rintro e w7 ⟨rfl, hb7⟩
  have HX7 := hide (own_below (unhide HX6) hb7)
  have HY7 := hide (own_below (unhide HY6) hb7)
  have HR7 := hide (own_below (unhide HR6) hb7)
  have HB7 := hide ((unhide HB6).trans (hb7.mono (by omega)))
  replace k2 := cell_keep hb7 k2
  replace k3 := cell_keep hb7 k3
  have hs7 : s1 < w7.heap.size := by have := hb7.size; omega
  clear HX6 HY6 HR6 HB6 hb7 hs6 hy0
  go_wp2_with fail
  refine (markHits _ g zs 1 _ hn (by omega) (by omega) (unhide HX7)).mono ?_
  rintro e w8 ⟨rfl, -, hgr⟩
  have hgr' : w7.grownBy w8 (some g) := hgr
  have hne : (Value.slice a1 ms.length c1).ownBlock ≠ some g := fun e => by have := (unhide HRS g e).1; omega
  have HR8 := hide ((unhide HR7).kept hgr' (Or.inr hne))
  have HY8 := hide ((unhide HY7).kept hgr' (Or.inr (by simp [Value.ownBlock]; omega)))
  have HB8 := hide ((unhide HB7).grown hgr' (by omega) (fun k hk => by simp at hk; omega))
  replace k2 := (hgr'.cell_far _ (by simpa using hs7) (by simp; omega)).trans k2
  replace k3 := (hgr'.cell_far _ (by simpa using hs7) (by simp; omega)).trans k3
  have hs8 : s1 < w8.heap.size := by have := hgr'.size; omega
  clear HX7 HY7 HR7 HB7 hgr hgr' hne hs7
  obtain ⟨mk, hmk⟩ : ∃ mk : Int, mk = 1 + (zs.length : Int) * 2 := ⟨_, rfl⟩
  rw [← hmk]
  have hm1 : 0 ≤ mk := by omega
  have hm2 : mk ≤ 100000000 := by omega
  clear hmk
  go_wp2_with fail
  refine (markHits _ g2 ys mk _ hny2 hm1 hm2 (unhide HY8)).mono ?_
  rintro e w7 ⟨rfl, -, hgr⟩
  have hgr' : w8.grownBy w7 (some g2) := hgr
  have hne : (Value.slice a1 ms.length c1).ownBlock ≠ some g2 := fun e => by have := (unhide HRS g2 e).1; omega
  have HR7 := hide ((unhide HR8).kept hgr' (Or.inr hne))
  have HB7 := hide ((unhide HB8).grown hgr' (by omega) (fun k hk => by simp at hk; omega))
  replace k2 := (hgr'.cell_far _ (by simpa using hs8) (by simp; omega)).trans k2
  replace k3 := (hgr'.cell_far _ (by simpa using hs8) (by simp; omega)).trans k3
  have hs7 : s1 < w7.heap.size := by have := hgr'.size; omega
  obtain ⟨-, -, -, z0, z1⟩ := unhide keep _ (unhide HB7)
  clear HY8 HR8 HB8 hgr hgr' hne hs8
  obtain ⟨mk2, hmk2⟩ : ∃ mk2 : Int, mk2 = mk + (ys.length : Int) * 2 := ⟨_, rfl⟩
  rw [← hmk2]
  have hm3 : decide (mk2 < 0) = false := by simp; omega
  clear hmk2
  go_wp2_with fail
  have e := eqHitsRes c a1 a0 ms.length c1 ms.length c0 ms w7 (unhide HL) (isHits_row (unhide HW) (unhide HR7)) (unhide keep _ (unhide HB7)).2.2.1
  simp only [intsRes] at e
  refine e.mono ?_
  clear e
  rintro e w9 ⟨rfl, hb9⟩
  have HR9 := hide (own_below (unhide HR7) hb9)
  have HB9 := hide ((unhide HB7).trans (hb9.mono (by omega)))
  replace k2 := cell_keep hb9 k2
  replace k3 := cell_keep hb9 k3
  have hs9 : s1 < w9.heap.size := by have := hb9.size; omega
  clear HR7 HB7 hb9 hs7 z0 z1
  go_wp2_with fail
  have e := markHitsRes c a1 ms.length c1 w3.heap.size ms 1 w9 rfl (unhide HL) (by omega) (by omega) (unhide HR9)
  simp only [intsRes] at e
  refine e.mono ?_
  clear e
  rintro e w10 ⟨rfl, ho, hgr⟩
  have HI := hide (isHits_marks (by omega) (by omega) (unhide HL) ho)
  have hne : some s1 ≠ (Value.slice a1 ms.length c1).ownBlock := fun e => by have := (unhide HRS s1 e.symm).2; omega
  have HB10 := hide ((unhide HB9).grown hgr (by omega) (fun k hk => by have := (unhide HRS k hk).1; omega))
  replace k2 := (hgr.cell_far _ (by simpa using hs9) hne).trans k2
  replace k3 := (hgr.cell_far _ (by simpa using hs9) hne).trans k3
  have hs10 : s1 < w10.heap.size := by have := hgr.size; omega
  clear HR9 HB9 hgr hne hs9 ho
  go_wp2_with fail
  have hL := unhide HL
  have hq : ((1 + (ms.length : Int) * 2) != (1 + (ms.length : Int) * 2)) = false := by simp
  have e := heldHitsRes c a1 ms.length c1 ms.length 1 w10 hL (by omega) (by omega) (unhide HI)
  simp only [intsRes] at e
  refine e.mono ?_
  clear e
  rintro e w11 ⟨rfl, hb11⟩
  have HI11 := hide ((unhide HI).later hb11)
  have HB11 := hide ((unhide HB10).trans (hb11.mono (by omega)))
  replace k2 := cell_keep hb11 k2
  replace k3 := cell_keep hb11 k3
  have hs11 : s1 < w11.heap.size := by have := hb11.size; omega
  clear HI HB10 hb11 hs10
  go_wp2_with fail
  refine (toHits _ zs _ (unhide keep _ (unhide HB11)).1 hn).mono ?_
  rintro e w12o ⟨y1, rfl, -, -, hy1, hb12o⟩
  have HB12o := hide ((unhide HB11).trans (hb12o.mono (by omega)))
  go_wp2_with fail
  refine (toHits _ ys _ (unhide keep _ (unhide HB12o)).2.1 hny2).mono ?_
  rintro e w12 ⟨y2, rfl, -, -, hy2, hb12⟩
  replace hy1 := hy1.later hb12
  replace hb12 := below_keep2 hb12o hb12
  clear HB12o hb12o
  have HI12 := hide ((unhide HI11).later hb12)
  have HB12 := hide ((unhide HB11).trans (hb12.mono (by omega)))
  replace k2 := cell_keep hb12 k2
  replace k3 := cell_keep hb12 k3
  have hs12 : s1 < w12.heap.size := by have := hb12.size; omega
  clear HI11 HB11 hb12 hs11
  go_wp2_with fail
  refine (unhide HIB y1 y2 zs ys q _ (unhide HQ) hy1 hy2).mono ?_
  rintro e w13 ⟨r2, rfl, ho, hb13⟩
  rw [← unhide HM] at ho
  rw [← unhide HC]
  obtain ⟨a2, c2, rfl⟩ := own_shape ho
  simp only [intsRes]
  have nb : Below w13.heap.size w13 (w13.alloc (.cells #[.int .i64 c, .slice a2 ms.length c2] 28)) := (Below.refl _ _).alloc (Nat.le_refl _) _
  have hs13 : s1 < w13.heap.size := by have := hb13.size; omega
  have HI13 := hide (((unhide HI12).later hb13).later nb)
  have HB13 := hide (((unhide HB12).trans (hb13.mono (by omega))).trans (nb.mono (by omega)))
  replace k2 := cell_keep nb (cell_keep hb13 k2)
  replace k3 := cell_keep nb (cell_keep hb13 k3)
  have HR2 := hide ((isHits_row (unhide HW) ho).later nb)
  obtain ⟨-, -, -, z0, z1⟩ := unhide keep _ (unhide HB13)
  have hs03 : s0 < w13.heap.size := by omega
  clear HI12 HB12 hb13 hs12 ho hy1 hy2 nb
  go_wp2_with fail
  generalize hwc : w13.alloc (.cells #[.int .i64 c, .slice a2 ms.length c2] 28) = wc at *
  have hsc : s1 < wc.heap.size := World.block_lt_of_cell? _ _ k2
  clear hwc
  have e := eqHitsRes c a2 a0 ms.length c2 ms.length c0 ms wc hL (unhide HR2) (unhide keep _ (unhide HB13)).2.2.1
  simp only [intsRes] at e
  refine e.mono ?_
  clear e
  rintro e w14 ⟨rfl, hb14⟩
  have HI14 := hide ((unhide HI13).later hb14)
  have HB14 := hide ((unhide HB13).trans (hb14.mono (by omega)))
  replace k2 := cell_keep hb14 k2
  replace k3 := cell_keep hb14 k3
  have hs14' : s1 < w14.heap.size := by have := hb14.size; omega
  clear HI13 HB13 hb14 hsc hs13 HR2 z0 z1
  go_wp2_with fail
  have e := heldHitsRes c a1 ms.length c1 ms.length 1 w14 hL (by omega) (by omega) (unhide HI14)
  simp only [intsRes] at e
  refine e.mono ?_
  clear e
  rintro e w15 ⟨rfl, hb15⟩
  have HB15 := hide ((unhide HB14).trans (hb15.mono (by omega)))
  clear HI14 HB14 hb15 k2 k3
  go_wp2_with fail
  go_ret
  refine ⟨rfl, ?_⟩
  exact ((unhide HWA).trans ((unhide HB15).mono hwg))

theorem lawMerge (implMerge : ImplMerge) (u v : Value) (zs ys : List (Int × Int)) (q : Int) (w : World) (hqw : (Lit.int .i64 q).wf = true) (h : IsHits w u zs) (hy : IsHits w v ys) :
    Calls Try.prog 9 #[u, v, .int .i64 q] w fun e w' => e = .returned (.bool true) ∧ Below w.heap.size w w' := by
  have h' := h
  have hy' := hy
  obtain ⟨ao, cap, rfl, h1, h2, hr⟩ := h'
  obtain ⟨bo, cbp, rfl, h3, h4, hr2⟩ := hy'
  by_cases hn : zs.length ≤ 1048576
  · by_cases hm : ys.length ≤ 1048576 - zs.length
    · exact lawMerge_few implMerge ao bo cap cbp zs ys q w hqw h hy hn hm
    · exact lawMerge_many2 ao bo zs.length cap ys.length cbp q w hn (by omega) (by have := h4.1; unfold maxLen at this; omega)
  · exact lawMerge_many ao bo zs.length cap ys.length cbp q w (by omega) (by have := h2.1; unfold maxLen at this; omega)

end Go.Proofs.Ytplhhdnmhcnhgaa
