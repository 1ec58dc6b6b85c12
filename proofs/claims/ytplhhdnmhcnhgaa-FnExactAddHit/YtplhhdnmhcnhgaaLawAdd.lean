/-
  The law FnExactAddHit answers true at every slice of hits, every hit and every number, and writes nothing that was there.
  Condition: AddHit of the program tells what the model tells (a premise).
-/
import Derived.Test.YtplhhdnmhcnhgaaHitMarks
import Derived.Test.YtplhhdnmhcnhgaaHitOps2
import Derived.Test.YtplhhdnmhcnhgaaBox
import Derived.Deep.CutRange
namespace Go.Proofs.Ytplhhdnmhcnhgaa
open Go.RowKit

/-- What AddHit of the program is to tell. -/
def ImplAdd : Prop := ∀ (v : Value) (hs : List (Int × Int)) (x y k : Int) (w : World), Wf2 (x, y) → (Lit.int .i64 k).wf = true → IsHits w v hs →
    Calls Try.prog 21 #[v, .agg #[.int .i64 x, .int .i64 y], .int .i64 k] w fun e w' => Told w w' e (addCode hs (x, y) k) (addList hs (x, y) k)

theorem addList_len {zs : List (Int × Int)} {h : Int × Int} {n : Int} : (addList zs h n).length ≤ 20 := by
  unfold addList
  split
  · next h =>
    have hk : kB n = true := by
      cases hk : kB n with
      | true => rfl
      | false => simp [addCode, hk] at h
    have hb : 0 ≤ n ∧ n ≤ 20 := by simpa [kB] using hk
    simp
    omega
  · simp
theorem addList_mem {zs : List (Int × Int)} {h : Int × Int} {n : Int} {m : Int × Int} (hm : m ∈ addList zs h n) : m = h ∨ m ∈ zs := by
  unfold addList at hm
  split at hm
  · exact ins_mem.1 (List.mem_of_mem_take hm)
  · simp at hm

/-- What the statement 'w := f(..)' leaves: a block of its own with the code and the hits. -/
theorem fin_set {wB w3 : World} {s c0 : Nat} {a0 : Option Addr} {c : Int} {ms : List (Int × Int)} (hw : ∀ m ∈ ms, Wf2 m) (hb : Below wB.heap.size wB w3) (hq : Box wB.heap.size #[.int .i64 0, .slice none 0 0] 28 w3 s) (ho : w3.ownsRow (s + 1) 31 2 (.slice a0 ms.length c0) ms.length (cells2 ms)) :
    ∃ (s0 : Nat) (a1 : Option Addr) (c1 : Nat), Value.pointer (some ⟨s, 0, none⟩) = .pointer (some ⟨s0, 0, none⟩) ∧ ((w3.setCell ⟨s, 0, none⟩ (.int .i64 c)).setCell ⟨s, 1, none⟩ (.slice a0 ms.length c0)).cell? ⟨s0, 0, none⟩ = some (.int .i64 c) ∧ ((w3.setCell ⟨s, 0, none⟩ (.int .i64 c)).setCell ⟨s, 1, none⟩ (.slice a0 ms.length c0)).cell? ⟨s0, 1, none⟩ = some (.slice a1 ms.length c1) ∧
      IsHits ((w3.setCell ⟨s, 0, none⟩ (.int .i64 c)).setCell ⟨s, 1, none⟩ (.slice a0 ms.length c0)) (.slice a1 ms.length c1) ms ∧ Below wB.heap.size wB ((w3.setCell ⟨s, 0, none⟩ (.int .i64 c)).setCell ⟨s, 1, none⟩ (.slice a0 ms.length c0)) := by
  obtain ⟨z0, z1, -, -⟩ := hq.two
  refine ⟨s, a0, c0, rfl, by simp [go_sem, z0], by simp [go_sem, z1], ?_, ?_⟩
  · exact isHits_row hw (own_set (base := s + 1) (own_set (base := s + 1) ho (by simp) _) (by simp) _)
  · exact (hb.setCell (by simpa using hq.1) _).setCell (by simpa using hq.1) _
theorem fin_new {wB w3 : World} {c0 : Nat} {a0 : Option Addr} {c : Int} {ms : List (Int × Int)} (hi : IsHits w3 (.slice a0 ms.length c0) ms) (hb : Below wB.heap.size wB w3) :
    ∃ (s0 : Nat) (a1 : Option Addr) (c1 : Nat), Value.pointer (some ⟨w3.heap.size, 0, none⟩) = .pointer (some ⟨s0, 0, none⟩) ∧ (w3.alloc (.cells #[.int .i64 c, .slice a0 ms.length c0] 28)).cell? ⟨s0, 0, none⟩ = some (.int .i64 c) ∧ (w3.alloc (.cells #[.int .i64 c, .slice a0 ms.length c0] 28)).cell? ⟨s0, 1, none⟩ = some (.slice a1 ms.length c1) ∧
      IsHits (w3.alloc (.cells #[.int .i64 c, .slice a0 ms.length c0] 28)) (.slice a1 ms.length c1) ms ∧ Below wB.heap.size wB (w3.alloc (.cells #[.int .i64 c, .slice a0 ms.length c0] 28)) := by
  obtain ⟨k0, k1⟩ := new_cells (w := w3) (T := 28) (x := .int .i64 c) (y := .slice a0 ms.length c0)
  exact ⟨_, a0, c0, rfl, k0, k1, hi.later ((Below.refl _ _).alloc (Nat.le_refl _) _), hb.alloc hb.size _⟩

theorem lawAddHit_many (ao : Option Addr) (n cap : Nat) (x y q : Int) (w : World) (hn : 1048576 < n) (hm : n ≤ 9223372036854775807) :
    Calls Try.prog 8 #[.slice ao n cap, .agg #[.int .i64 x, .int .i64 y], .int .i64 q] w fun e w' => e = .returned (.bool true) ∧ Below w.heap.size w w' := by
  go_enter Try.func8, Try.ntmps8
  have b0 : Below w.heap.size w (w.alloc (.cells #[.int .i64 x, .int .i64 y] 46)) := (Below.refl _ _).alloc (Nat.le_refl _) _
  go_wp2_with fail
  refine (szHits_many ao n cap 1048576 _ hn (by omega) hm).mono ?_
  rintro e w' ⟨rfl, rfl⟩
  go_wp2_with fail
  go_ret
  exact ⟨rfl, b0⟩

set_option maxHeartbeats 4000000 in
theorem lawAddHit_few (implAdd : ImplAdd) (ao : Option Addr) (cap : Nat) (zs : List (Int × Int)) (x y q : Int) (w : World) (hwh : Wf2 (x, y)) (hqw : (Lit.int .i64 q).wf = true) (h : IsHits w (.slice ao zs.length cap) zs) (hn : zs.length ≤ 1048576) :
    Calls Try.prog 8 #[.slice ao zs.length cap, .agg #[.int .i64 x, .int .i64 y], .int .i64 q] w fun e w' => e = .returned (.bool true) ∧ Below w.heap.size w w' := by
  have HQ := hide hqw
  have HIB := hide implAdd
  clear hqw implAdd
  obtain ⟨ms, hms⟩ : ∃ ms, ms = addList zs (x, y) q := ⟨_, rfl⟩
  obtain ⟨c, hcc⟩ : ∃ c, c = addCode zs (x, y) q := ⟨_, rfl⟩
  have hlen : ms.length ≤ 1048576 := by rw [hms]; have := addList_len (zs := zs) (h := (x, y)) (n := q); omega
  have hmwf : ∀ m ∈ ms, Wf2 m := by rw [hms]; exact fun m hm => (addList_mem hm).elim (fun e => e ▸ hwh) (fun hm => h.wf m hm)
  have HM := hide hms
  have HC := hide hcc
  have HL := hide hlen
  have HW := hide hmwf
  clear hms hcc hlen hmwf
  go_enter Try.func8, Try.ntmps8
  obtain ⟨p0, p1⟩ := new_cells (w := w) (T := 46) (x := .int .i64 x) (y := .int .i64 y)
  have b0 : Below w.heap.size w (w.alloc (.cells #[.int .i64 x, .int .i64 y] 46)) := (Below.refl _ _).alloc (Nat.le_refl _) _
  replace h := h.later b0
  go_wp2_with fail
  generalize w.alloc (.cells #[.int .i64 x, .int .i64 y] 46) = wB at *
  refine (szHits_ok ao zs.length cap 1048576 wB hn (by omega)).mono ?_
  rintro e wB ⟨rfl, rfl⟩
  have hd0 : decide (((1048576 - zs.length : Nat) : Int) < 0) = false := by simp
  go_upto_region 5 with fail
  have hl0 := World.block_lt_of_cell? _ _ p0
  have LT1 : Hid (∀ W, Below wB.heap.size wB W → Calls Try.prog 25 #[.slice ao zs.length cap] W fun e w' => ∃ v1, e = .returned v1 ∧ IsHits w' v1 zs ∧ Below wB.heap.size wB w' ∧ ∀ s, Box wB.heap.size #[.int .i64 0, .slice none 0 0] 28 W s → Box wB.heap.size #[.int .i64 0, .slice none 0 0] 28 w' s) := fun W hW =>
    (toHits _ zs W (h.later hW) hn).mono fun e w' ⟨v1, h1, _, _, h4, h5⟩ => ⟨v1, h1, h4, below_keep2 hW h5, fun s hs => hs.keep h5⟩
  have LT2 : Hid (∀ W v1, Below wB.heap.size wB W → IsHits W v1 zs → Calls Try.prog 28 #[.agg #[.int .i64 x, .int .i64 y]] W fun e w' => e = .returned (.agg #[.int .i64 x, .int .i64 y]) ∧ IsHits w' v1 zs ∧ Below wB.heap.size wB w' ∧ ∀ s, Box wB.heap.size #[.int .i64 0, .slice none 0 0] 28 W s → Box wB.heap.size #[.int .i64 0, .slice none 0 0] 28 w' s) := fun W v1 hW hi =>
    (toHit x y W).mono fun e w' ⟨h1, h5⟩ => ⟨h1, hi.later h5, below_keep2 hW h5, fun s hs => hs.keep h5⟩
  have LT3 : Hid (∀ W v1, Below wB.heap.size wB W → IsHits W v1 zs → Calls Try.prog 33 #[v1, .agg #[.int .i64 x, .int .i64 y], .int .i64 q] W fun e w' => ∃ a0 c0, e = .returned (.agg #[.int .i64 c, .slice a0 ms.length c0]) ∧ IsHits w' (.slice a0 ms.length c0) ms ∧ Below wB.heap.size wB w' ∧ ∀ s, Box wB.heap.size #[.int .i64 0, .slice none 0 0] 28 W s → Box wB.heap.size #[.int .i64 0, .slice none 0 0] 28 w' s ∧ w'.ownsRow (s + 1) 31 2 (.slice a0 ms.length c0) ms.length (cells2 ms)) := fun W v1 hW hi => by
    refine (modelAdd v1 zs x y q W hi hwh).mono ?_
    rintro e w' ⟨r, rfl, ho, hb⟩
    rw [← unhide HM] at ho
    rw [← unhide HC]
    obtain ⟨a0, c0, rfl⟩ := own_shape ho
    exact ⟨a0, c0, rfl, isHits_row (unhide HW) ho, below_keep2 hW hb, fun s hs => ⟨hs.keep hb, own_mono hs.lt ho⟩⟩
  go_cut [8] from 20 to 25 (fun s8 wx => ∃ (s0 : Nat) (a0 : Option Addr) (c0 : Nat), s8 = .pointer (some ⟨s0, 0, none⟩) ∧ wx.cell? ⟨s0, 0, none⟩ = some (.int .i64 c) ∧ wx.cell? ⟨s0, 1, none⟩ = some (.slice a0 ms.length c0) ∧ IsHits wx (.slice a0 ms.length c0) ms ∧ Below wB.heap.size wB wx)
  case first =>
    first
      | go_region_with (first
          | (go_at_call 25; refine (unhide LT1 _ (by first | exact (Below.refl wB.heap.size wB) | exact (Below.refl wB.heap.size wB).drew | exact (Below.refl wB.heap.size wB).drew.drew | exact (Below.refl wB.heap.size wB).alloc (Below.refl wB.heap.size wB).size _ | exact ((Below.refl wB.heap.size wB).alloc (Below.refl wB.heap.size wB).size _).drew | exact ((Below.refl wB.heap.size wB).alloc (Below.refl wB.heap.size wB).size _).drew.drew | exact ((Below.refl wB.heap.size wB).alloc (Below.refl wB.heap.size wB).size _).drew.drew.drew)).mono ?_; rintro e w1 ⟨v1, rfl, hi1, hb1, hk1⟩; have p2 := cell_keep hb1 p0; have p3 := cell_keep hb1 p1; have hl1 := Nat.lt_of_lt_of_le hl0 hb1.size; (first | have hq := hk1 _ (newBox (Nat.le_refl _)) | have hq := hk1 _ (newBox (Nat.le_refl _)).drew | have hq := hk1 _ (newBox (Nat.le_refl _)).drew.drew | have hq := hk1 _ (newBox (Nat.le_refl _)).drew.drew.drew | skip))
          | (go_at_call 28; refine (unhide LT2 _ v1 (by first | exact hb1 | exact hb1.drew | exact hb1.drew.drew | exact hb1.alloc hb1.size _ | exact (hb1.alloc hb1.size _).drew | exact (hb1.alloc hb1.size _).drew.drew | exact (hb1.alloc hb1.size _).drew.drew.drew) (by first | exact hi1 | exact hi1.later (Below.refl _ _).drew | exact hi1.later (Below.refl _ _).drew.drew | exact hi1.later ((Below.refl _ _).alloc (Nat.le_refl _) _) | exact hi1.later ((Below.refl _ _).alloc (Nat.le_refl _) _).drew | exact hi1.later ((Below.refl _ _).alloc (Nat.le_refl _) _).drew.drew)).mono ?_; rintro e w2 ⟨rfl, hi2, hb2, hk2⟩; (first | have hq2 := hk2 _ hq | have hq2 := hk2 _ hq.drew | have hq2 := hk2 _ hq.drew.drew | have hq2 := hk2 _ (newBox hb1.size) | have hq2 := hk2 _ (newBox hb1.size).drew | have hq2 := hk2 _ (newBox hb1.size).drew.drew | skip))
          | (go_at_call 33; refine (unhide LT3 _ v1 (by first | exact hb2 | exact hb2.drew | exact hb2.drew.drew | exact hb2.alloc hb2.size _ | exact (hb2.alloc hb2.size _).drew | exact (hb2.alloc hb2.size _).drew.drew | exact (hb2.alloc hb2.size _).drew.drew.drew) (by first | exact hi2 | exact hi2.later (Below.refl _ _).drew | exact hi2.later (Below.refl _ _).drew.drew | exact hi2.later ((Below.refl _ _).alloc (Nat.le_refl _) _) | exact hi2.later ((Below.refl _ _).alloc (Nat.le_refl _) _).drew | exact hi2.later ((Below.refl _ _).alloc (Nat.le_refl _) _).drew.drew)).mono ?_; rintro e w3 ⟨a0, c0, rfl, hi3, hb3, hk3⟩; (first | have hq3 := hk3 _ hq2 | have hq3 := hk3 _ hq2.drew | have hq3 := hk3 _ hq2.drew.drew | have hq3 := hk3 _ (newBox hb2.size) | have hq3 := hk3 _ (newBox hb2.size).drew | have hq3 := hk3 _ (newBox hb2.size).drew.drew | skip); (first | (obtain ⟨z0, z1, z2, z3⟩ := hq3.1.two) | skip)))
      | fail
    all_goals
      go_wp2_with fail
      go_meet
      first
        | exact fin_set (unhide HW) hb3 hq3.1 hq3.2
        | exact fin_new hi3 hb3
  case rest =>
  obtain ⟨s0, a0, c0, rfl, k0, k1, hP1, hBx⟩ := hcut
  have hP0 := h.later hBx
  replace p0 := cell_keep hBx p0
  replace p1 := cell_keep hBx p1
  have b3 := below_keep2 b0 hBx
  obtain ⟨wa, hwa⟩ : ∃ wa, wa = wc := ⟨_, rfl⟩
  subst hwa
  clear LT1 LT2 LT3 hBx h b0 hl0
  go_wp2_with fail
  have HWA := hide b3
  refine (toHits _ zs _ hP0 hn).mono ?_
  rintro e w3o ⟨x0, rfl, hx0, hox, -, hb3⟩
  obtain ⟨g, hg⟩ : ∃ g, g = wa.heap.size := ⟨_, rfl⟩
  have hxe : x0 = .slice (some ⟨g, 0, none⟩) zs.length zs.length := by rw [hg]; exact hx0
  clear hx0
  subst hxe
  rw [← hg] at hox
  have B3 : Below g wa w3o := by rw [hg]; exact hb3
  have hs0 : s0 < g := by rw [hg]; exact World.block_lt_of_cell? _ _ k0
  have HG := hide hg
  have b4 : Below w.heap.size w w3o := b3.trans (hb3.mono b3.size)
  have hwg : w.heap.size ≤ g := by rw [hg]; exact b3.size
  have keep : Hid (∀ W, Below g wa W → IsHits W (.slice ao zs.length cap) zs ∧ IsHits W (.slice a0 ms.length c0) ms ∧ W.cell? ⟨s0, 0, none⟩ = some (.int .i64 c) ∧ W.cell? ⟨s0, 1, none⟩ = some (.slice a0 ms.length c0) ∧ W.cell? ⟨w.heap.size, 0, none⟩ = some (.int .i64 x) ∧ W.cell? ⟨w.heap.size, 1, none⟩ = some (.int .i64 y)) := by
    intro W hW
    rw [hg] at hW
    exact ⟨hP0.later hW, hP1.later hW, cell_keep hW k0, cell_keep hW k1, cell_keep hW p0, cell_keep hW p1⟩
  clear hP0 hP1 k0 k1 hb3 p0 p1 hg b3
  have hxi := isHits_row (v := .slice (some ⟨g, 0, none⟩) zs.length zs.length) (hs := zs) (unhide keep w3o B3).1.wf hox
  obtain ⟨-, -, -, -, p0, p1⟩ := unhide keep _ B3
  go_wp2_with fail
  refine (toHit x y _).mono ?_
  rintro e w3 ⟨rfl, hbt⟩
  clear p0 p1
  replace hxi := hxi.later hbt
  have hgo : g ≤ w3o.heap.size := Nat.le_of_lt (lt_own hox)
  replace hox := own_below hox hbt
  replace B3 := B3.trans (hbt.mono hgo)
  replace b4 := below_keep2 b4 hbt
  clear hbt hgo
  go_wp2_with fail
  refine (unhide HIB _ zs x y q _ hwh (unhide HQ) hxi).mono ?_
  rintro e w4 ⟨r1, rfl, ho, hb4⟩
  rw [← unhide HM] at ho
  rw [← unhide HC]
  obtain ⟨a1, c1, rfl⟩ := own_shape ho
  simp only [intsRes]
  have hlt3 : g < w3.heap.size := lt_own hox
  have nb : Below w4.heap.size w4 (w4.alloc (.cells #[.int .i64 c, .slice a1 ms.length c1] 28)) := (Below.refl _ _).alloc (Nat.le_refl _) _
  obtain ⟨k2, k3⟩ := new_cells (w := w4) (T := 28) (x := .int .i64 c) (y := .slice a1 ms.length c1)
  have hox4 := own_below (own_below hox hb4) nb
  have hor4 := own_below ho nb
  have B4 : Below g wa (w4.alloc (.cells #[.int .i64 c, .slice a1 ms.length c1] 28)) := (B3.trans (hb4.mono (by omega))).trans (nb.mono (by have := hb4.size; omega))
  have hs14 : w3.heap.size ≤ w4.heap.size := hb4.size
  have hrs : ∀ k, (Value.slice a1 ms.length c1).ownBlock = some k → w3.heap.size ≤ k ∧ k < w4.heap.size := fun k hk => ho.lt k hk
  have HRS := hide hrs
  obtain ⟨-, -, z0, z1, -, -⟩ := unhide keep _ B4
  have HX := hide hox4
  have HR := hide hor4
  have HB4 := hide B4
  clear ho hb4 hox hxi B3 b4 nb hox4 hor4 hrs B4
  go_wp2_with fail
  generalize hwb : w4.alloc (.cells #[.int .i64 c, .slice a1 ms.length c1] 28) = wb at *
  have hs1 : w4.heap.size < wb.heap.size := by rw [← hwb]; simp
  generalize w4.heap.size = s1 at *
  clear hwb
  have q1 := isHits_row (unhide HW) (unhide HR)
  have e := eqHitsRes c a1 a0 ms.length c1 ms.length c0 ms wb (unhide HL) q1 (unhide keep _ (unhide HB4)).2.1
  simp only [intsRes] at e
  refine e.mono ?_
  clear e q1
  rintro e w5 ⟨rfl, hb5⟩
  have HX5 := hide (own_below (unhide HX) hb5)
  have HR5 := hide (own_below (unhide HR) hb5)
  have HB5 := hide ((unhide HB4).trans (hb5.mono (by omega)))
  replace k2 := cell_keep hb5 k2
  replace k3 := cell_keep hb5 k3
  have hs5 : s1 < w5.heap.size := by have := hb5.size; omega
  clear HX HR HB4 hb5 z0 z1 hs1
  go_wp2_with fail
  refine (toHits _ zs _ (unhide keep _ (unhide HB5)).1 hn).mono ?_
  rintro e w6 ⟨y0, rfl, -, -, hy0, hb6⟩
  have HX6 := hide (own_below (unhide HX5) hb6)
  have HR6 := hide (own_below (unhide HR5) hb6)
  have HB6 := hide ((unhide HB5).trans (hb6.mono (by omega)))
  replace k2 := cell_keep hb6 k2
  replace k3 := cell_keep hb6 k3
  have hs6 : s1 < w6.heap.size := by have := hb6.size; omega
  clear HX5 HR5 HB5 hb6 hs5
  go_wp2_with fail
  refine (eqHits _ y0 zs _ (isHits_row (unhide keep _ (unhide HB6)).1.wf (unhide HX6)) hy0 hn).mono ?_
  rintro e w7 ⟨rfl, hb7⟩
  have HX7 := hide (own_below (unhide HX6) hb7)
  have HR7 := hide (own_below (unhide HR6) hb7)
  have HB7 := hide ((unhide HB6).trans (hb7.mono (by omega)))
  replace k2 := cell_keep hb7 k2
  replace k3 := cell_keep hb7 k3
  have hs7 : s1 < w7.heap.size := by have := hb7.size; omega
  clear HX6 HR6 HB6 hb7 hs6 hy0
  go_wp2_with fail
  refine (markHits _ g zs 1 _ hn (by omega) (by omega) (unhide HX7)).mono ?_
  rintro e w8 ⟨rfl, -, hgr⟩
  have hgr' : w7.grownBy w8 (some g) := hgr
  have hne : (Value.slice a1 ms.length c1).ownBlock ≠ some g := fun e => by have := (unhide HRS g e).1; omega
  have HR8 := hide ((unhide HR7).kept hgr' (Or.inr hne))
  have HB8 := hide ((unhide HB7).grown hgr' (by omega) (fun k hk => by simp at hk; omega))
  replace k2 := (hgr'.cell_far _ (by simpa using hs7) (by simp; omega)).trans k2
  replace k3 := (hgr'.cell_far _ (by simpa using hs7) (by simp; omega)).trans k3
  have hs8 : s1 < w8.heap.size := by have := hgr'.size; omega
  obtain ⟨-, -, z0, z1, -, -⟩ := unhide keep _ (unhide HB8)
  clear HX7 HR7 HB7 hgr hgr' hne hs7
  go_wp2_with fail
  have e := eqHitsRes c a1 a0 ms.length c1 ms.length c0 ms w8 (unhide HL) (isHits_row (unhide HW) (unhide HR8)) (unhide keep _ (unhide HB8)).2.1
  simp only [intsRes] at e
  refine e.mono ?_
  clear e
  rintro e w9 ⟨rfl, hb9⟩
  have HR9 := hide (own_below (unhide HR8) hb9)
  have HB9 := hide ((unhide HB8).trans (hb9.mono (by omega)))
  replace k2 := cell_keep hb9 k2
  replace k3 := cell_keep hb9 k3
  have hs9 : s1 < w9.heap.size := by have := hb9.size; omega
  clear HR8 HB8 hb9 hs8 z0 z1
  go_wp2_with fail
  have e := markHitsRes c a1 ms.length c1 w3.heap.size ms 1 w9 rfl (unhide HL) (by omega) (by omega) (unhide HR9)
  simp only [intsRes] at e
  refine e.mono ?_
  clear e
  rintro e w10 ⟨rfl, ho, hgr⟩
  have HI := hide (isHits_marks (by omega) (by omega) (unhide HL) ho)
  have hne : some s1 ≠ (Value.slice a1 ms.length c1).ownBlock := fun e => by have := (unhide HRS s1 e.symm).2; omega
  have HB10 := hide ((unhide HB9).grown hgr (by omega) (fun k hk => by have := (unhide HRS k hk).1; omega))
  replace k2 := (hgr.cell_far _ (by simpa using hs9) hne).trans k2
  replace k3 := (hgr.cell_far _ (by simpa using hs9) hne).trans k3
  have hs10 : s1 < w10.heap.size := by have := hgr.size; omega
  clear HR9 HB9 hgr hne hs9 ho
  go_wp2_with fail
  have hL := unhide HL
  have hq : ((1 + (ms.length : Int) * 2) != (1 + (ms.length : Int) * 2)) = false := by simp
  have e := heldHitsRes c a1 ms.length c1 ms.length 1 w10 hL (by omega) (by omega) (unhide HI)
  simp only [intsRes] at e
  refine e.mono ?_
  clear e
  rintro e w11 ⟨rfl, hb11⟩
  have HI11 := hide ((unhide HI).later hb11)
  have HB11 := hide ((unhide HB10).trans (hb11.mono (by omega)))
  replace k2 := cell_keep hb11 k2
  replace k3 := cell_keep hb11 k3
  have hs11 : s1 < w11.heap.size := by have := hb11.size; omega
  clear HI HB10 hb11 hs10
  obtain ⟨ih0, -, -, -, p0, p1⟩ := unhide keep _ (unhide HB11)
  go_upto_region 24 with fail
  have hl0 := World.block_lt_of_cell? _ _ p0
  have LT1 : Hid (∀ W, Below w11.heap.size w11 W → Calls Try.prog 25 #[.slice ao zs.length cap] W fun e w' => ∃ v1, e = .returned v1 ∧ IsHits w' v1 zs ∧ Below w11.heap.size w11 w' ∧ ∀ s, Box w11.heap.size #[.int .i64 0, .slice none 0 0] 28 W s → Box w11.heap.size #[.int .i64 0, .slice none 0 0] 28 w' s) := fun W hW =>
    (toHits _ zs W (ih0.later hW) hn).mono fun e w' ⟨v1, h1, _, _, h4, h5⟩ => ⟨v1, h1, h4, below_keep2 hW h5, fun s hs => hs.keep h5⟩
  have LT2 : Hid (∀ W v1, Below w11.heap.size w11 W → IsHits W v1 zs → Calls Try.prog 28 #[.agg #[.int .i64 x, .int .i64 y]] W fun e w' => e = .returned (.agg #[.int .i64 x, .int .i64 y]) ∧ IsHits w' v1 zs ∧ Below w11.heap.size w11 w' ∧ ∀ s, Box w11.heap.size #[.int .i64 0, .slice none 0 0] 28 W s → Box w11.heap.size #[.int .i64 0, .slice none 0 0] 28 w' s) := fun W v1 hW hi =>
    (toHit x y W).mono fun e w' ⟨h1, h5⟩ => ⟨h1, hi.later h5, below_keep2 hW h5, fun s hs => hs.keep h5⟩
  have LT3 : Hid (∀ W v1, Below w11.heap.size w11 W → IsHits W v1 zs → Calls Try.prog 21 #[v1, .agg #[.int .i64 x, .int .i64 y], .int .i64 q] W fun e w' => ∃ a0 c0, e = .returned (.agg #[.int .i64 c, .slice a0 ms.length c0]) ∧ IsHits w' (.slice a0 ms.length c0) ms ∧ Below w11.heap.size w11 w' ∧ ∀ s, Box w11.heap.size #[.int .i64 0, .slice none 0 0] 28 W s → Box w11.heap.size #[.int .i64 0, .slice none 0 0] 28 w' s ∧ w'.ownsRow (s + 1) 31 2 (.slice a0 ms.length c0) ms.length (cells2 ms)) := fun W v1 hW hi => by
    refine (unhide HIB v1 zs x y q W hwh (unhide HQ) hi).mono ?_
    rintro e w' ⟨r, rfl, ho, hb⟩
    rw [← unhide HM] at ho
    rw [← unhide HC]
    obtain ⟨a0, c0, rfl⟩ := own_shape ho
    exact ⟨a0, c0, rfl, isHits_row (unhide HW) ho, below_keep2 hW hb, fun s hs => ⟨hs.keep hb, own_mono hs.lt ho⟩⟩
  go_cut [14] from 64 to 69 (fun s8 wx => ∃ (s0 : Nat) (a0 : Option Addr) (c0 : Nat), s8 = .pointer (some ⟨s0, 0, none⟩) ∧ wx.cell? ⟨s0, 0, none⟩ = some (.int .i64 c) ∧ wx.cell? ⟨s0, 1, none⟩ = some (.slice a0 ms.length c0) ∧ IsHits wx (.slice a0 ms.length c0) ms ∧ Below w11.heap.size w11 wx)
  case first =>
    first
      | go_region_with (first
          | (go_at_call 25; refine (unhide LT1 _ (by first | exact (Below.refl w11.heap.size w11) | exact (Below.refl w11.heap.size w11).drew | exact (Below.refl w11.heap.size w11).drew.drew | exact (Below.refl w11.heap.size w11).alloc (Below.refl w11.heap.size w11).size _ | exact ((Below.refl w11.heap.size w11).alloc (Below.refl w11.heap.size w11).size _).drew | exact ((Below.refl w11.heap.size w11).alloc (Below.refl w11.heap.size w11).size _).drew.drew | exact ((Below.refl w11.heap.size w11).alloc (Below.refl w11.heap.size w11).size _).drew.drew.drew)).mono ?_; rintro e w1 ⟨v1, rfl, hi1, hb1, hk1⟩; have p2 := cell_keep hb1 p0; have p3 := cell_keep hb1 p1; have hl1 := Nat.lt_of_lt_of_le hl0 hb1.size; (first | have hq := hk1 _ (newBox (Nat.le_refl _)) | have hq := hk1 _ (newBox (Nat.le_refl _)).drew | have hq := hk1 _ (newBox (Nat.le_refl _)).drew.drew | have hq := hk1 _ (newBox (Nat.le_refl _)).drew.drew.drew | skip))
          | (go_at_call 28; refine (unhide LT2 _ v1 (by first | exact hb1 | exact hb1.drew | exact hb1.drew.drew | exact hb1.alloc hb1.size _ | exact (hb1.alloc hb1.size _).drew | exact (hb1.alloc hb1.size _).drew.drew | exact (hb1.alloc hb1.size _).drew.drew.drew) (by first | exact hi1 | exact hi1.later (Below.refl _ _).drew | exact hi1.later (Below.refl _ _).drew.drew | exact hi1.later ((Below.refl _ _).alloc (Nat.le_refl _) _) | exact hi1.later ((Below.refl _ _).alloc (Nat.le_refl _) _).drew | exact hi1.later ((Below.refl _ _).alloc (Nat.le_refl _) _).drew.drew)).mono ?_; rintro e w2 ⟨rfl, hi2, hb2, hk2⟩; (first | have hq2 := hk2 _ hq | have hq2 := hk2 _ hq.drew | have hq2 := hk2 _ hq.drew.drew | have hq2 := hk2 _ (newBox hb1.size) | have hq2 := hk2 _ (newBox hb1.size).drew | have hq2 := hk2 _ (newBox hb1.size).drew.drew | skip))
          | (go_at_call 21; refine (unhide LT3 _ v1 (by first | exact hb2 | exact hb2.drew | exact hb2.drew.drew | exact hb2.alloc hb2.size _ | exact (hb2.alloc hb2.size _).drew | exact (hb2.alloc hb2.size _).drew.drew | exact (hb2.alloc hb2.size _).drew.drew.drew) (by first | exact hi2 | exact hi2.later (Below.refl _ _).drew | exact hi2.later (Below.refl _ _).drew.drew | exact hi2.later ((Below.refl _ _).alloc (Nat.le_refl _) _) | exact hi2.later ((Below.refl _ _).alloc (Nat.le_refl _) _).drew | exact hi2.later ((Below.refl _ _).alloc (Nat.le_refl _) _).drew.drew)).mono ?_; rintro e w3 ⟨a0, c0, rfl, hi3, hb3, hk3⟩; (first | have hq3 := hk3 _ hq2 | have hq3 := hk3 _ hq2.drew | have hq3 := hk3 _ hq2.drew.drew | have hq3 := hk3 _ (newBox hb2.size) | have hq3 := hk3 _ (newBox hb2.size).drew | have hq3 := hk3 _ (newBox hb2.size).drew.drew | skip); (first | (obtain ⟨z0, z1, z2, z3⟩ := hq3.1.two) | skip)))
      | fail
    all_goals
      go_wp2_with fail
      go_meet
      first
        | exact fin_set (unhide HW) hb3 hq3.1 hq3.2
        | exact fin_new hi3 hb3
  case rest =>
  obtain ⟨s2, a2, c2, rfl, k4, k5, hP2, hBx⟩ := hcut
  have HI13 := hide ((unhide HI11).later hBx)
  have HB13 := hide ((unhide HB11).trans (hBx.mono (by omega)))
  replace k2 := cell_keep hBx k2
  replace k3 := cell_keep hBx k3
  have HR2 := hide hP2
  have hsc : s1 < wc.heap.size := World.block_lt_of_cell? _ _ k2
  obtain ⟨-, -, z0, z1, -, -⟩ := unhide keep _ (unhide HB13)
  clear LT1 LT2 LT3 hBx hl0 p0 p1 ih0 hP2 HI11 HB11 hs11
  go_wp2_with fail
  have e := eqHitsRes c a2 a0 ms.length c2 ms.length c0 ms wc hL (unhide HR2) (unhide keep _ (unhide HB13)).2.1
  simp only [intsRes] at e
  refine e.mono ?_
  clear e
  rintro e w14 ⟨rfl, hb14⟩
  have HI14 := hide ((unhide HI13).later hb14)
  have HB14 := hide ((unhide HB13).trans (hb14.mono (by omega)))
  replace k2 := cell_keep hb14 k2
  replace k3 := cell_keep hb14 k3
  have hs14' : s1 < w14.heap.size := by have := hb14.size; omega
  clear HI13 HB13 hb14 hsc HR2 z0 z1 k4 k5
  go_wp2_with fail
  have e := heldHitsRes c a1 ms.length c1 ms.length 1 w14 hL (by omega) (by omega) (unhide HI14)
  simp only [intsRes] at e
  refine e.mono ?_
  clear e
  rintro e w15 ⟨rfl, hb15⟩
  have HB15 := hide ((unhide HB14).trans (hb15.mono (by omega)))
  clear HI14 HB14 hb15 k2 k3
  go_wp2_with fail
  go_ret
  refine ⟨rfl, ?_⟩
  exact ((unhide HWA).trans ((unhide HB15).mono hwg))

theorem lawAddHit (implAdd : ImplAdd) (v : Value) (zs : List (Int × Int)) (x y q : Int) (w : World) (hwh : Wf2 (x, y)) (hqw : (Lit.int .i64 q).wf = true) (h : IsHits w v zs) :
    Calls Try.prog 8 #[v, .agg #[.int .i64 x, .int .i64 y], .int .i64 q] w fun e w' => e = .returned (.bool true) ∧ Below w.heap.size w w' := by
  have h' := h
  obtain ⟨ao, cap, rfl, h1, h2, hr⟩ := h'
  by_cases hn : zs.length ≤ 1048576
  · exact lawAddHit_few implAdd ao cap zs x y q w hwh hqw h hn
  · exact lawAddHit_many ao zs.length cap x y q w (by omega) (by have := h2.1; unfold maxLen at this; omega)

end Go.Proofs.Ytplhhdnmhcnhgaa
