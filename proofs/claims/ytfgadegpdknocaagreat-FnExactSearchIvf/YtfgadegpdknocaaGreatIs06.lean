/-
  Texts of this proof in one: LawXSearchIvf, LayCentersResult, Fault, VecOf, Pair.
  Their conditions stand in their theorems.
-/
import Derived.Test.YtfgadegpdknocaaGreatChecked
import Derived.Test.YtfgadegpdknocaaGreatIs01
import Derived.Test.YtfgadegpdknocaaGreatIs03
import Derived.Test.YtfgadegpdknocaaGreatIs04
import Derived.Test.YtfgadegpdknocaaGreatIs05
import Derived.Test.YtfgadegpdknocaaGreatIs02
import Derived.Deep.RegionHeld3
import Derived.Deep.CutRange
import Derived.WalkSmall
import Derived.Outline

namespace Go.Proofs.YtfgadegpdknocaaGreat
open Go.RowKit

set_option maxRecDepth 100000 in
set_option maxHeartbeats 4000000 in
theorem lawx_SearchIvf (u0 : List Value) (x0 : DIvf) (v1 : Value) (x1 : List Int) (x2 : Int) (x3 : Int) (y : DHitsResult) (w : World) (A0 : Lay.tIvf.Reads w u0 x0) (A1 : (Lay.sl Lay.int).Reads w [v1] x1) (N1 : (Lay.sl Lay.int).sz x1 ≤ 1048576) (NS : Lay.tIvf.sz x0 ≤ 1048576)
    (hS : ∀ (W : World) (u0 : List Value) (v1 : Value), Lay.tIvf.Reads W u0 x0 → (Lay.sl Lay.int).Reads W [v1] x1 → Calls Tryz.prog 21 #[.agg u0.toArray, v1, .int .i64 x2, .int .i64 x3] W fun e w' => ∃ cs, e = .returned (.agg cs.toArray) ∧ Lay.tHitsResult.Reads w' cs y ∧ Below W.heap.size W w')
    (hI : ∀ (W : World) (u0 : List Value) (v1 : Value), Lay.tIvf.Reads W u0 x0 → (Lay.sl Lay.int).Reads W [v1] x1 → Calls Tryz.prog 22 #[.agg u0.toArray, v1, .int .i64 x2, .int .i64 x3] W fun e w' => ∃ cs, e = .returned (.agg cs.toArray) ∧ Lay.tHitsResult.OwnIn w' cs y W.heap.size w'.heap.size ∧ Below W.heap.size W w') (hc : Lay.tHitsResult.vcnt y ≤ 100000000) :
    Calls Tryz.prog 5 #[.agg u0.toArray, v1, .int .i64 x2, .int .i64 x3] w fun e w' => e = .returned (.bool true) ∧ Below w.heap.size w w' := by
  obtain ⟨a0p0, d0p0, a1p0, d1p0, rfl, -, -⟩ := open_Ivf A0
  obtain ⟨ao1, cp1, rfl⟩ := open_sl A1
  have HS := hide hS
  have HI := hide hI
  clear hS hI
  have HA0 := hide A0.liesIn
  clear A0
  have HA1 := hide A1.liesIn
  clear A1
  have N0 : Lay.tIvf.sz x0 ≤ 1048576 := by omega
  have HN0 := hide N0
  have HN1 := hide N1
  have L1 : x1.length ≤ 1048576 := by have := N1; rw [sz_ints] at this; exact this
  clear N0 N1
  have HC := hide hc
  clear hc
  have HNS := hide NS
  clear NS
  have HB := hide (Below.refl w.heap.size w)
  go_enter Tryz.func5, Tryz.ntmps5
  go_wp2_with fail
  have nb : Below w.heap.size w (w.alloc (.cells #[.slice a0p0 x0.centers.length d0p0, .slice a1p0 x0.lists.length d1p0] 25)) := (Below.refl w.heap.size w).alloc (Nat.le_refl _) _
  have P0 : Hid (Box w.heap.size #[.slice a0p0 x0.centers.length d0p0, .slice a1p0 x0.lists.length d1p0] 25 (w.alloc (.cells #[.slice a0p0 x0.centers.length d0p0, .slice a1p0 x0.lists.length d1p0] 25)) (w.heap.size)) := newBoxAt (by omega) (by simp)
  generalize haw1 : (w.alloc (.cells #[.slice a0p0 x0.centers.length d0p0, .slice a1p0 x0.lists.length d1p0] 25)) = w1 at *
  have Gw1 : w.heap.size + 1 ≤ w1.heap.size := by rw [← haw1]; simp
  clear haw1
  replace HA0 := hide ((unhide HA0).later nb)
  replace HA1 := hide ((unhide HA1).later nb)
  have Zw1 : w.heap.size ≤ w1.heap.size := nb.size
  replace HB := hide ((unhide HB).trans (nb.mono (by omega)))
  clear nb
  have hns := unhide HNS
  refine (sz_Ivf _ x0 (1048576) w1 (unhide HA0).reads (by omega)).mono ?_
  rintro e w2 ⟨rfl, hb⟩
  replace HA0 := hide ((unhide HA0).later hb)
  replace HA1 := hide ((unhide HA1).later hb)
  replace P0 := hide ((unhide P0).keep hb)
  have Zw2 : w1.heap.size ≤ w2.heap.size := hb.size
  replace HB := hide ((unhide HB).trans (hb.mono (by omega)))
  clear hb
  rw [szR_ok (by omega)]
  have hq0 : decide (((1048576 - Lay.tIvf.sz x0 : Nat) : Int) < 0) = false := by simp
  clear hns
  have l0P0 := (unhide P0).at 0 _ rfl
  have l1P0 := (unhide P0).at 1 _ rfl
  have ltP0 : w.heap.size < w2.heap.size := by omega
  simp only [List.getElem_toArray, List.getElem_cons_zero, List.getElem_cons_succ] at l0P0 l1P0
  go_wp2_with fail
  clear l0P0 l1P0 ltP0
  clear hq0
  refine (to_Ivf _ x0 w2 (unhide HA0).reads (unhide HN0)).mono ?_
  rintro e w3 ⟨vc0, rfl, O, hb⟩
  replace HA0 := hide ((unhide HA0).later hb)
  replace HA1 := hide ((unhide HA1).later hb)
  replace P0 := hide ((unhide P0).keep hb)
  have Zw3 : w2.heap.size ≤ w3.heap.size := hb.size
  replace HB := hide ((unhide HB).trans (hb.mono (by omega)))
  clear hb
  obtain ⟨a0c0, d0c0, a1c0, d1c0, rfl, -, -⟩ := open_Ivf O.reads
  have Hc0 := hide O
  clear O
  have l0P0 := (unhide P0).at 0 _ rfl
  have l1P0 := (unhide P0).at 1 _ rfl
  have ltP0 : w.heap.size < w3.heap.size := by omega
  simp only [List.getElem_toArray, List.getElem_cons_zero, List.getElem_cons_succ] at l0P0 l1P0
  go_wp2_with fail
  clear l0P0 l1P0 ltP0
  refine (to_Int64S _ x1 w3 (unhide HA1).reads (unhide HN1)).mono ?_
  rintro e w4 ⟨vc1, rfl, O, hb⟩
  replace HA0 := hide ((unhide HA0).later hb)
  replace HA1 := hide ((unhide HA1).later hb)
  replace P0 := hide ((unhide P0).keep hb)
  replace Hc0 := hide ((unhide Hc0).later hb)
  have Zw4 : w3.heap.size ≤ w4.heap.size := hb.size
  replace HB := hide ((unhide HB).trans (hb.mono (by omega)))
  clear hb
  obtain ⟨aoc1, cpc1, rfl⟩ := open_sl O.reads
  have Hc1 := hide O
  clear O
  have l0P0 := (unhide P0).at 0 _ rfl
  have l1P0 := (unhide P0).at 1 _ rfl
  have ltP0 : w.heap.size < w4.heap.size := by omega
  simp only [List.getElem_toArray, List.getElem_cons_zero, List.getElem_cons_succ] at l0P0 l1P0
  go_wp2_with fail
  clear l0P0 l1P0 ltP0
  refine (unhide HS w4 _ _ (unhide Hc0).reads (unhide Hc1).reads).mono ?_
  rintro e w5 ⟨cs, rfl, O, hb⟩
  replace HA0 := hide ((unhide HA0).later hb)
  replace HA1 := hide ((unhide HA1).later hb)
  replace P0 := hide ((unhide P0).keep hb)
  replace Hc0 := hide ((unhide Hc0).later hb)
  replace Hc1 := hide ((unhide Hc1).later hb)
  have Zw5 : w4.heap.size ≤ w5.heap.size := hb.size
  replace HB := hide ((unhide HB).trans (hb.mono (by omega)))
  clear hb
  obtain ⟨a1W, d1W, rfl, -⟩ := open_HitsResult O
  have HW := hide O.liesIn
  clear O
  have nb : Below w5.heap.size w5 (w5.alloc (.cells #[.int .i64 y.code, .slice a1W y.hits.length d1W] 48)) := (Below.refl _ _).alloc (Nat.le_refl _) _
  have YW : Hid (Box w5.heap.size #[.int .i64 y.code, .slice a1W y.hits.length d1W] 48 (w5.alloc (.cells #[.int .i64 y.code, .slice a1W y.hits.length d1W] 48)) w5.heap.size) := newBox (Nat.le_refl _)
  clear Hc0
  clear Hc1
  have l0P0 := (unhide P0).at 0 _ rfl
  have l1P0 := (unhide P0).at 1 _ rfl
  have ltP0 : w.heap.size < w5.heap.size := by omega
  simp only [List.getElem_toArray, List.getElem_cons_zero, List.getElem_cons_succ] at l0P0 l1P0
  go_wp2_with fail
  clear l0P0 l1P0 ltP0
  generalize haw6 : w5.alloc (.cells #[.int .i64 y.code, .slice a1W y.hits.length d1W] 48) = w6 at *
  have Gw6 : w5.heap.size < w6.heap.size := by rw [← haw6]; simp
  clear haw6
  replace HA0 := hide ((unhide HA0).later nb)
  replace HA1 := hide ((unhide HA1).later nb)
  replace P0 := hide ((unhide P0).keep nb)
  replace HW := hide ((unhide HW).later nb)
  have Zw6 : w5.heap.size ≤ w6.heap.size := nb.size
  replace HB := hide ((unhide HB).trans (nb.mono (by omega)))
  clear nb
  refine (to_Ivf _ x0 w6 (unhide HA0).reads (unhide HN0)).mono ?_
  rintro e w7 ⟨vx0, rfl, O, hb⟩
  replace HA0 := hide ((unhide HA0).later hb)
  replace HA1 := hide ((unhide HA1).later hb)
  replace P0 := hide ((unhide P0).keep hb)
  replace HW := hide ((unhide HW).later hb)
  replace YW := hide ((unhide YW).keep hb)
  have Zw7 : w6.heap.size ≤ w7.heap.size := hb.size
  replace HB := hide ((unhide HB).trans (hb.mono (by omega)))
  clear hb
  obtain ⟨a0x0, d0x0, a1x0, d1x0, rfl, -, -⟩ := open_Ivf O.reads
  have Hx0 := hide O
  clear O
  have nb : Below w7.heap.size w7 (w7.alloc (.cells #[.slice a0x0 x0.centers.length d0x0, .slice a1x0 x0.lists.length d1x0] 31)) := (Below.refl _ _).alloc (Nat.le_refl _) _
  have X0 : Hid (Box w7.heap.size #[.slice a0x0 x0.centers.length d0x0, .slice a1x0 x0.lists.length d1x0] 31 (w7.alloc (.cells #[.slice a0x0 x0.centers.length d0x0, .slice a1x0 x0.lists.length d1x0] 31)) w7.heap.size) := newBox (Nat.le_refl _)
  have l0P0 := (unhide P0).at 0 _ rfl
  have l1P0 := (unhide P0).at 1 _ rfl
  have ltP0 : w.heap.size < w7.heap.size := by omega
  have l0YW := (unhide YW).at 0 _ rfl
  have l1YW := (unhide YW).at 1 _ rfl
  have ltYW : w5.heap.size < w7.heap.size := by omega
  simp only [List.getElem_toArray, List.getElem_cons_zero, List.getElem_cons_succ] at l0P0 l1P0 l0YW l1YW
  go_wp2_with fail
  clear l0P0 l1P0 ltP0 l0YW l1YW ltYW
  generalize haw8 : w7.alloc (.cells #[.slice a0x0 x0.centers.length d0x0, .slice a1x0 x0.lists.length d1x0] 31) = w8 at *
  have Gw8 : w7.heap.size < w8.heap.size := by rw [← haw8]; simp
  clear haw8
  replace HA0 := hide ((unhide HA0).later nb)
  replace HA1 := hide ((unhide HA1).later nb)
  replace P0 := hide ((unhide P0).keep nb)
  replace HW := hide ((unhide HW).later nb)
  replace YW := hide ((unhide YW).keep nb)
  replace Hx0 := hide ((unhide Hx0).later nb)
  have Zw8 : w7.heap.size ≤ w8.heap.size := nb.size
  replace HB := hide ((unhide HB).trans (nb.mono (by omega)))
  clear nb
  refine (to_Int64S _ x1 w8 (unhide HA1).reads (unhide HN1)).mono ?_
  rintro e w9 ⟨vx1, rfl, O, hb⟩
  replace HA0 := hide ((unhide HA0).later hb)
  replace HA1 := hide ((unhide HA1).later hb)
  replace P0 := hide ((unhide P0).keep hb)
  replace HW := hide ((unhide HW).later hb)
  replace YW := hide ((unhide YW).keep hb)
  replace Hx0 := hide ((unhide Hx0).later hb)
  replace X0 := hide ((unhide X0).keep hb)
  have Zw9 : w8.heap.size ≤ w9.heap.size := hb.size
  replace HB := hide ((unhide HB).trans (hb.mono (by omega)))
  clear hb
  obtain ⟨aox1, cpx1, rfl⟩ := open_sl O.reads
  have Hx1 := hide O
  clear O
  have l0P0 := (unhide P0).at 0 _ rfl
  have l1P0 := (unhide P0).at 1 _ rfl
  have ltP0 : w.heap.size < w9.heap.size := by omega
  have l0YW := (unhide YW).at 0 _ rfl
  have l1YW := (unhide YW).at 1 _ rfl
  have ltYW : w5.heap.size < w9.heap.size := by omega
  have l0X0 := (unhide X0).at 0 _ rfl
  have l1X0 := (unhide X0).at 1 _ rfl
  have ltX0 : w7.heap.size < w9.heap.size := by omega
  simp only [List.getElem_toArray, List.getElem_cons_zero, List.getElem_cons_succ] at l0P0 l1P0 l0YW l1YW l0X0 l1X0
  go_wp2_with fail
  clear l0P0 l1P0 ltP0 l0YW l1YW ltYW l0X0 l1X0 ltX0
  refine (unhide HI w9 _ _ (unhide Hx0).reads (unhide Hx1).reads).mono ?_
  rintro e w10 ⟨cs, rfl, O, hb⟩
  replace HA0 := hide ((unhide HA0).later hb)
  replace HA1 := hide ((unhide HA1).later hb)
  replace P0 := hide ((unhide P0).keep hb)
  replace HW := hide ((unhide HW).later hb)
  replace YW := hide ((unhide YW).keep hb)
  replace Hx0 := hide ((unhide Hx0).later hb)
  replace X0 := hide ((unhide X0).keep hb)
  replace Hx1 := hide ((unhide Hx1).later hb)
  have Zw10 : w9.heap.size ≤ w10.heap.size := hb.size
  replace HB := hide ((unhide HB).trans (hb.mono (by omega)))
  clear hb
  obtain ⟨a1G, d1G, rfl, -⟩ := open_HitsResult O.reads
  have HG := hide O
  clear O
  have nb : Below w10.heap.size w10 (w10.alloc (.cells #[.int .i64 y.code, .slice a1G y.hits.length d1G] 48)) := (Below.refl _ _).alloc (Nat.le_refl _) _
  have YG : Hid (Box w10.heap.size #[.int .i64 y.code, .slice a1G y.hits.length d1G] 48 (w10.alloc (.cells #[.int .i64 y.code, .slice a1G y.hits.length d1G] 48)) w10.heap.size) := newBox (Nat.le_refl _)
  have l0P0 := (unhide P0).at 0 _ rfl
  have l1P0 := (unhide P0).at 1 _ rfl
  have ltP0 : w.heap.size < w10.heap.size := by omega
  have l0YW := (unhide YW).at 0 _ rfl
  have l1YW := (unhide YW).at 1 _ rfl
  have ltYW : w5.heap.size < w10.heap.size := by omega
  have l0X0 := (unhide X0).at 0 _ rfl
  have l1X0 := (unhide X0).at 1 _ rfl
  have ltX0 : w7.heap.size < w10.heap.size := by omega
  simp only [List.getElem_toArray, List.getElem_cons_zero, List.getElem_cons_succ] at l0P0 l1P0 l0YW l1YW l0X0 l1X0
  go_wp2_with fail
  clear l0P0 l1P0 ltP0 l0YW l1YW ltYW l0X0 l1X0 ltX0
  generalize haw11 : w10.alloc (.cells #[.int .i64 y.code, .slice a1G y.hits.length d1G] 48) = w11 at *
  have Gw11 : w10.heap.size < w11.heap.size := by rw [← haw11]; simp
  clear haw11
  replace HA0 := hide ((unhide HA0).later nb)
  replace HA1 := hide ((unhide HA1).later nb)
  replace P0 := hide ((unhide P0).keep nb)
  replace HW := hide ((unhide HW).later nb)
  replace YW := hide ((unhide YW).keep nb)
  replace Hx0 := hide ((unhide Hx0).later nb)
  replace X0 := hide ((unhide X0).keep nb)
  replace Hx1 := hide ((unhide Hx1).later nb)
  replace HG := hide ((unhide HG).later nb)
  have Zw11 : w10.heap.size ≤ w11.heap.size := nb.size
  replace HB := hide ((unhide HB).trans (nb.mono (by omega)))
  clear nb
  refine (eq_HitsResult _ _ y w11 (unhide HG).reads (unhide HW).reads).mono ?_
  rintro e w12 ⟨rfl, hb⟩
  replace HA0 := hide ((unhide HA0).later hb)
  replace HA1 := hide ((unhide HA1).later hb)
  replace P0 := hide ((unhide P0).keep hb)
  replace HW := hide ((unhide HW).later hb)
  replace YW := hide ((unhide YW).keep hb)
  replace Hx0 := hide ((unhide Hx0).later hb)
  replace X0 := hide ((unhide X0).keep hb)
  replace Hx1 := hide ((unhide Hx1).later hb)
  replace HG := hide ((unhide HG).later hb)
  replace YG := hide ((unhide YG).keep hb)
  have Zw12 : w11.heap.size ≤ w12.heap.size := hb.size
  replace HB := hide ((unhide HB).trans (hb.mono (by omega)))
  clear hb
  have l0P0 := (unhide P0).at 0 _ rfl
  have l1P0 := (unhide P0).at 1 _ rfl
  have ltP0 : w.heap.size < w12.heap.size := by omega
  have l0YW := (unhide YW).at 0 _ rfl
  have l1YW := (unhide YW).at 1 _ rfl
  have ltYW : w5.heap.size < w12.heap.size := by omega
  have l0X0 := (unhide X0).at 0 _ rfl
  have l1X0 := (unhide X0).at 1 _ rfl
  have ltX0 : w7.heap.size < w12.heap.size := by omega
  have l0YG := (unhide YG).at 0 _ rfl
  have l1YG := (unhide YG).at 1 _ rfl
  have ltYG : w10.heap.size < w12.heap.size := by omega
  simp only [List.getElem_toArray, List.getElem_cons_zero, List.getElem_cons_succ] at l0P0 l1P0 l0YW l1YW l0X0 l1X0 l0YG l1YG
  go_wp2_with fail
  clear l0P0 l1P0 ltP0 l0YW l1YW ltYW l0X0 l1X0 ltX0 l0YG l1YG ltYG
  have l0P0 := (unhide P0).at 0 _ rfl
  have l1P0 := (unhide P0).at 1 _ rfl
  have ltP0 : w.heap.size < w12.heap.size := by omega
  have l0X0 := (unhide X0).at 0 _ rfl
  have l1X0 := (unhide X0).at 1 _ rfl
  have ltX0 : w7.heap.size < w12.heap.size := by omega
  simp only [List.getElem_toArray, List.getElem_cons_zero, List.getElem_cons_succ] at l0P0 l1P0 l0X0 l1X0
  refine wp_region_noPanic ?_
  refine wp_region_held_drew (S := fun w' => Below w12.heap.size w12 w') (by kernel_rfl) (Below.refl _ _).drew (fun hHeld => ?_)
  generalize w12.drew = wD at hHeld ⊢
  refine wpAnyH_take (i := 0) (oi := { dst := some 46, op := Go.Op.load 31 (Go.Operand.tmp 11), type := 31, pos := "exact.go:3401", after := #[], guard := none }) (v := ?vs00) rfl (by kernel_rfl) (by kernel_rfl) (by kernel_rfl) (fun _ _ _ h => h) (Or.inl ⟨by rfl, ?hs00⟩) hHeld ?rs00
  case hs00 =>
    intro wS hSw
    have y0P0 := (hSw.cell (p := ⟨w.heap.size, 0, none⟩) ltP0).trans l0P0
    have y1P0 := (hSw.cell (p := ⟨w.heap.size, 1, none⟩) ltP0).trans l1P0
    have y0X0 := (hSw.cell (p := ⟨w7.heap.size, 0, none⟩) ltX0).trans l0X0
    have y1X0 := (hSw.cell (p := ⟨w7.heap.size, 1, none⟩) ltX0).trans l1X0
    clear hSw
    (try dsimp only at hSw)
    go_simp
    try with_reducible rfl
  case rs00 =>
  simp only [Act.put, List.setIfInBounds_toArray, List.set_cons_zero, List.set_cons_succ]
  refine wpAnyH_take (i := 1) (oi := { dst := some 47, op := Go.Op.load 25 (Go.Operand.tmp 4), type := 25, pos := "exact.go:3401", after := #[], guard := none }) (v := ?vs01) rfl (by kernel_rfl) (by kernel_rfl) (by kernel_rfl) (fun _ _ _ h => h) (Or.inl ⟨by rfl, ?hs01⟩) hHeld ?rs01
  case hs01 =>
    intro wS hSw
    have y0P0 := (hSw.cell (p := ⟨w.heap.size, 0, none⟩) ltP0).trans l0P0
    have y1P0 := (hSw.cell (p := ⟨w.heap.size, 1, none⟩) ltP0).trans l1P0
    have y0X0 := (hSw.cell (p := ⟨w7.heap.size, 0, none⟩) ltX0).trans l0X0
    have y1X0 := (hSw.cell (p := ⟨w7.heap.size, 1, none⟩) ltX0).trans l1X0
    clear hSw
    (try dsimp only at hSw)
    go_simp
    try with_reducible rfl
  case rs01 =>
  simp only [Act.put, List.setIfInBounds_toArray, List.set_cons_zero, List.set_cons_succ]
  refine wpAnyH_ready (rs := [2]) (by kernel_rfl) (by simp) ?_
  refine AllReadyH.cons (o := { dst := some 48, op := Go.Op.call { callee := Go.Callee.value (Go.Operand.func 9), args := #[Go.Operand.tmp 47], argTypes := #[25] }, type := 31, pos := "exact.go:3401", after := #[{ on := 1, ground := Go.Ground.data }], guard := none }) rfl (fun K hK => ?_) AllReadyH.nil
  go_simp
  go_at_call 9
  refine (to_Ivf _ x0 _ ((unhide HA0).reads.later hHeld) (unhide HN0)).mono ?_
  rintro e wT ⟨vT, rfl, OT, hbw⟩
  have RT := OT.reads
  obtain ⟨a0T, d0T, a1T, d1T, rfl, -, -⟩ := open_Ivf RT
  try go_wp2_with fail
  refine hK.out _ _ (hHeld.trans (hbw.mono hHeld.size)) (fun hHeld => ?_)
  clear hK K
  try simp only [Act.put, List.setIfInBounds_toArray, List.set_cons_zero, List.set_cons_succ]
  refine wpAnyH_ready (rs := [3]) (by kernel_rfl) (by simp) ?_
  refine AllReadyH.cons (o := { dst := some 49, op := Go.Op.call { callee := Go.Callee.value (Go.Operand.func 13), args := #[Go.Operand.tmp 46, Go.Operand.tmp 48], argTypes := #[31, 31] }, type := 4, pos := "exact.go:3401", after := #[{ on := 0, ground := Go.Ground.data }, { on := 2, ground := Go.Ground.data }, { on := 2, ground := Go.Ground.chain }], guard := none }) rfl (fun K hK => ?_) AllReadyH.nil
  go_simp
  go_at_call 13
  refine (eq_Ivf _ _ x0 _ ((unhide Hx0).reads.later hHeld) RT).mono ?_
  rintro e wU ⟨rfl, hbw⟩
  try go_wp2_with fail
  refine hK.out _ _ (hHeld.trans (hbw.mono hHeld.size)) (fun hHeld => ?_)
  clear hK K
  try simp only [Act.put, List.setIfInBounds_toArray, List.set_cons_zero, List.set_cons_succ]
  refine wpAnyH_take (i := 4) (oi := { dst := some 50, op := Go.Op.unOp Go.UnOp.not 4 (Go.Operand.tmp 49), type := 4, pos := "exact.go:3401", after := #[{ on := 3, ground := Go.Ground.data }], guard := none }) (v := ?vs04) rfl (by kernel_rfl) (by kernel_rfl) (by kernel_rfl) (fun _ _ _ h => h) (Or.inl ⟨by rfl, ?hs04⟩) hHeld ?rs04
  case hs04 =>
    intro wS hSw
    (try dsimp only at hSw)
    go_simp
    try with_reducible rfl
  case rs04 =>
  simp only [Act.put, List.setIfInBounds_toArray, List.set_cons_zero, List.set_cons_succ]
  refine wpAnyH_done (by kernel_rfl) ?_ _
  refine NoPanic.normal ?_
  clear l0P0 l1P0 ltP0 l0X0 l1X0 ltX0 OT RT
  have hb : Below w12.heap.size w12 wU := hHeld
  clear hHeld hbw
  replace HA0 := hide ((unhide HA0).later hb)
  replace HA1 := hide ((unhide HA1).later hb)
  replace P0 := hide ((unhide P0).keep hb)
  replace HW := hide ((unhide HW).later hb)
  replace YW := hide ((unhide YW).keep hb)
  replace Hx0 := hide ((unhide Hx0).later hb)
  replace X0 := hide ((unhide X0).keep hb)
  replace Hx1 := hide ((unhide Hx1).later hb)
  replace HG := hide ((unhide HG).later hb)
  replace YG := hide ((unhide YG).keep hb)
  have ZwU : w12.heap.size ≤ wU.heap.size := hb.size
  replace HB := hide ((unhide HB).trans (hb.mono (by omega)))
  clear hb
  have l0P0 := (unhide P0).at 0 _ rfl
  have l1P0 := (unhide P0).at 1 _ rfl
  have ltP0 : w.heap.size < wU.heap.size := by omega
  have l0YW := (unhide YW).at 0 _ rfl
  have l1YW := (unhide YW).at 1 _ rfl
  have ltYW : w5.heap.size < wU.heap.size := by omega
  have l0X0 := (unhide X0).at 0 _ rfl
  have l1X0 := (unhide X0).at 1 _ rfl
  have ltX0 : w7.heap.size < wU.heap.size := by omega
  have l0YG := (unhide YG).at 0 _ rfl
  have l1YG := (unhide YG).at 1 _ rfl
  have ltYG : w10.heap.size < wU.heap.size := by omega
  simp only [List.getElem_toArray, List.getElem_cons_zero, List.getElem_cons_succ] at l0P0 l1P0 l0YW l1YW l0X0 l1X0 l0YG l1YG
  go_wp2_with fail
  clear l0P0 l1P0 ltP0 l0YW l1YW ltYW l0X0 l1X0 ltX0 l0YG l1YG ltYG
  refine (to_Int64S _ x1 wU (unhide HA1).reads (unhide HN1)).mono ?_
  rintro e w14 ⟨vd1, rfl, O, hb⟩
  replace HA0 := hide ((unhide HA0).later hb)
  replace HA1 := hide ((unhide HA1).later hb)
  replace P0 := hide ((unhide P0).keep hb)
  replace HW := hide ((unhide HW).later hb)
  replace YW := hide ((unhide YW).keep hb)
  replace Hx0 := hide ((unhide Hx0).later hb)
  replace X0 := hide ((unhide X0).keep hb)
  replace Hx1 := hide ((unhide Hx1).later hb)
  replace HG := hide ((unhide HG).later hb)
  replace YG := hide ((unhide YG).keep hb)
  have Zw14 : wU.heap.size ≤ w14.heap.size := hb.size
  replace HB := hide ((unhide HB).trans (hb.mono (by omega)))
  clear hb
  obtain ⟨aod1, cpd1, rfl⟩ := open_sl O.reads
  have Hd1 := hide O
  clear O
  have l0P0 := (unhide P0).at 0 _ rfl
  have l1P0 := (unhide P0).at 1 _ rfl
  have ltP0 : w.heap.size < w14.heap.size := by omega
  have l0YW := (unhide YW).at 0 _ rfl
  have l1YW := (unhide YW).at 1 _ rfl
  have ltYW : w5.heap.size < w14.heap.size := by omega
  have l0X0 := (unhide X0).at 0 _ rfl
  have l1X0 := (unhide X0).at 1 _ rfl
  have ltX0 : w7.heap.size < w14.heap.size := by omega
  have l0YG := (unhide YG).at 0 _ rfl
  have l1YG := (unhide YG).at 1 _ rfl
  have ltYG : w10.heap.size < w14.heap.size := by omega
  simp only [List.getElem_toArray, List.getElem_cons_zero, List.getElem_cons_succ] at l0P0 l1P0 l0YW l1YW l0X0 l1X0 l0YG l1YG
  go_wp2_with fail
  clear l0P0 l1P0 ltP0 l0YW l1YW ltYW l0X0 l1X0 ltX0 l0YG l1YG ltYG
  refine (eq_Int64S _ _ x1 w14 (unhide Hx1).reads (unhide Hd1).reads).mono ?_
  rintro e w15 ⟨rfl, hb⟩
  replace HA0 := hide ((unhide HA0).later hb)
  replace HA1 := hide ((unhide HA1).later hb)
  replace P0 := hide ((unhide P0).keep hb)
  replace HW := hide ((unhide HW).later hb)
  replace YW := hide ((unhide YW).keep hb)
  replace Hx0 := hide ((unhide Hx0).later hb)
  replace X0 := hide ((unhide X0).keep hb)
  replace Hx1 := hide ((unhide Hx1).later hb)
  replace HG := hide ((unhide HG).later hb)
  replace YG := hide ((unhide YG).keep hb)
  replace Hd1 := hide ((unhide Hd1).later hb)
  have Zw15 : w14.heap.size ≤ w15.heap.size := hb.size
  replace HB := hide ((unhide HB).trans (hb.mono (by omega)))
  clear hb
  clear Hd1
  have l0P0 := (unhide P0).at 0 _ rfl
  have l1P0 := (unhide P0).at 1 _ rfl
  have ltP0 : w.heap.size < w15.heap.size := by omega
  have l0YW := (unhide YW).at 0 _ rfl
  have l1YW := (unhide YW).at 1 _ rfl
  have ltYW : w5.heap.size < w15.heap.size := by omega
  have l0X0 := (unhide X0).at 0 _ rfl
  have l1X0 := (unhide X0).at 1 _ rfl
  have ltX0 : w7.heap.size < w15.heap.size := by omega
  have l0YG := (unhide YG).at 0 _ rfl
  have l1YG := (unhide YG).at 1 _ rfl
  have ltYG : w10.heap.size < w15.heap.size := by omega
  simp only [List.getElem_toArray, List.getElem_cons_zero, List.getElem_cons_succ] at l0P0 l1P0 l0YW l1YW l0X0 l1X0 l0YG l1YG
  go_wp2_with fail
  clear l0P0 l1P0 ltP0 l0YW l1YW ltYW l0X0 l1X0 ltX0 l0YG l1YG ltYG
  obtain ⟨bl, O, hbl⟩ := unhide Hx0
  clear Hx0
  have HCx0 := few_bound (A := Lay.tIvf) (few_via (few_pair (few_sl (few_via (few_sl few_int))) (few_sl (few_via (few_sl (few_via (few_pair few_int (few_sl few_int)))))))) (unhide HN0) (by omega)
  refine (mark_Ivf _ x0 bl (1) w15 O (by omega) (by omega)).mono ?_
  rintro e w16 ⟨rfl, -, E⟩
  replace E := E.mono (S' := within w6.heap.size w7.heap.size) fun b _ hb => hbl b hb
  clear hbl O
  have zlo : w.heap.size ≤ w6.heap.size ∧ w7.heap.size ≤ w15.heap.size := by omega
  replace HA0 := hide ((unhide HA0).ext E (within_out (by omega)))
  replace HA1 := hide ((unhide HA1).ext E (within_out (by omega)))
  replace P0 := hide ((unhide P0).ext E (fun q => by simp only [within] at q; omega))
  replace HW := hide ((unhide HW).ext E (within_out (by omega)))
  replace YW := hide ((unhide YW).ext E (fun q => by simp only [within] at q; omega))
  replace X0 := hide ((unhide X0).ext E (fun q => by simp only [within] at q; omega))
  replace Hx1 := hide ((unhide Hx1).ext E (within_out (by omega)))
  replace HG := hide ((unhide HG).ext E (within_out (by omega)))
  replace YG := hide ((unhide YG).ext E (fun q => by simp only [within] at q; omega))
  have Zw16 : w15.heap.size ≤ w16.heap.size := E.size
  replace HB := hide ((unhide HB).trans (E.below (by omega) (fun k h q => by simp only [within] at q; omega)))
  clear E
  clear zlo
  have l0P0 := (unhide P0).at 0 _ rfl
  have l1P0 := (unhide P0).at 1 _ rfl
  have ltP0 : w.heap.size < w16.heap.size := by omega
  have l0YW := (unhide YW).at 0 _ rfl
  have l1YW := (unhide YW).at 1 _ rfl
  have ltYW : w5.heap.size < w16.heap.size := by omega
  have l0X0 := (unhide X0).at 0 _ rfl
  have l1X0 := (unhide X0).at 1 _ rfl
  have ltX0 : w7.heap.size < w16.heap.size := by omega
  have l0YG := (unhide YG).at 0 _ rfl
  have l1YG := (unhide YG).at 1 _ rfl
  have ltYG : w10.heap.size < w16.heap.size := by omega
  simp only [List.getElem_toArray, List.getElem_cons_zero, List.getElem_cons_succ] at l0P0 l1P0 l0YW l1YW l0X0 l1X0 l0YG l1YG
  go_wp2_with fail
  clear l0P0 l1P0 ltP0 l0YW l1YW ltYW l0X0 l1X0 ltX0 l0YG l1YG ltYG
  obtain ⟨bl, O, hbl⟩ := unhide Hx1
  clear Hx1
  have HCx1 := few_bound (A := (Lay.sl Lay.int)) (few_sl few_int) (unhide HN1) (by omega)
  refine (mark_Int64S _ x1 bl (1 + (Lay.tIvf.vcnt x0 : Int)) w16 O (by omega) (by omega)).mono ?_
  rintro e w17 ⟨rfl, -, E⟩
  replace E := E.mono (S' := within w8.heap.size w9.heap.size) fun b _ hb => hbl b hb
  clear hbl O
  have zlo : w.heap.size ≤ w8.heap.size ∧ w9.heap.size ≤ w16.heap.size := by omega
  replace HA0 := hide ((unhide HA0).ext E (within_out (by omega)))
  replace HA1 := hide ((unhide HA1).ext E (within_out (by omega)))
  replace P0 := hide ((unhide P0).ext E (fun q => by simp only [within] at q; omega))
  replace HW := hide ((unhide HW).ext E (within_out (by omega)))
  replace YW := hide ((unhide YW).ext E (fun q => by simp only [within] at q; omega))
  replace X0 := hide ((unhide X0).ext E (fun q => by simp only [within] at q; omega))
  replace HG := hide ((unhide HG).ext E (within_out (by omega)))
  replace YG := hide ((unhide YG).ext E (fun q => by simp only [within] at q; omega))
  have Zw17 : w16.heap.size ≤ w17.heap.size := E.size
  replace HB := hide ((unhide HB).trans (E.below (by omega) (fun k h q => by simp only [within] at q; omega)))
  clear E
  clear zlo
  obtain ⟨mk, hmk⟩ : ∃ mk : Int, mk = 1 + (Lay.tIvf.vcnt x0 : Int) + ((Lay.sl Lay.int).vcnt x1 : Int) := ⟨_, rfl⟩
  rw [← hmk]
  have hm3 : decide (mk < 0) = false := decide_eq_false (by omega)
  clear hmk HCx0 HCx1
  have l0P0 := (unhide P0).at 0 _ rfl
  have l1P0 := (unhide P0).at 1 _ rfl
  have ltP0 : w.heap.size < w17.heap.size := by omega
  have l0YW := (unhide YW).at 0 _ rfl
  have l1YW := (unhide YW).at 1 _ rfl
  have ltYW : w5.heap.size < w17.heap.size := by omega
  have l0X0 := (unhide X0).at 0 _ rfl
  have l1X0 := (unhide X0).at 1 _ rfl
  have ltX0 : w7.heap.size < w17.heap.size := by omega
  have l0YG := (unhide YG).at 0 _ rfl
  have l1YG := (unhide YG).at 1 _ rfl
  have ltYG : w10.heap.size < w17.heap.size := by omega
  simp only [List.getElem_toArray, List.getElem_cons_zero, List.getElem_cons_succ] at l0P0 l1P0 l0YW l1YW l0X0 l1X0 l0YG l1YG
  go_wp2_with fail
  clear l0P0 l1P0 ltP0 l0YW l1YW ltYW l0X0 l1X0 ltX0 l0YG l1YG ltYG
  refine (eq_HitsResult _ _ y w17 (unhide HG).reads (unhide HW).reads).mono ?_
  rintro e w18 ⟨rfl, hb⟩
  replace HA0 := hide ((unhide HA0).later hb)
  replace HA1 := hide ((unhide HA1).later hb)
  replace P0 := hide ((unhide P0).keep hb)
  replace HW := hide ((unhide HW).later hb)
  replace YW := hide ((unhide YW).keep hb)
  replace X0 := hide ((unhide X0).keep hb)
  replace HG := hide ((unhide HG).later hb)
  replace YG := hide ((unhide YG).keep hb)
  have Zw18 : w17.heap.size ≤ w18.heap.size := hb.size
  replace HB := hide ((unhide HB).trans (hb.mono (by omega)))
  clear hb
  clear hm3
  have l0P0 := (unhide P0).at 0 _ rfl
  have l1P0 := (unhide P0).at 1 _ rfl
  have ltP0 : w.heap.size < w18.heap.size := by omega
  have l0YW := (unhide YW).at 0 _ rfl
  have l1YW := (unhide YW).at 1 _ rfl
  have ltYW : w5.heap.size < w18.heap.size := by omega
  have l0X0 := (unhide X0).at 0 _ rfl
  have l1X0 := (unhide X0).at 1 _ rfl
  have ltX0 : w7.heap.size < w18.heap.size := by omega
  have l0YG := (unhide YG).at 0 _ rfl
  have l1YG := (unhide YG).at 1 _ rfl
  have ltYG : w10.heap.size < w18.heap.size := by omega
  simp only [List.getElem_toArray, List.getElem_cons_zero, List.getElem_cons_succ] at l0P0 l1P0 l0YW l1YW l0X0 l1X0 l0YG l1YG
  go_wp2_with fail
  clear l0P0 l1P0 ltP0 l0YW l1YW ltYW l0X0 l1X0 ltX0 l0YG l1YG ltYG
  obtain ⟨bl, O, hbl⟩ := unhide HG
  clear HG
  have hcy := unhide HC
  refine (mark_HitsResult _ y bl 1 w18 O (by omega) (by omega)).mono ?_
  rintro e w19 ⟨rfl, O2, E⟩
  replace E := E.mono (S' := within w9.heap.size w10.heap.size) fun b _ hb => hbl b hb
  have HG : Hid (Lay.tHitsResult.OwnIn w19 _ (Lay.tHitsResult.mkv 1 y) w9.heap.size w10.heap.size) := ⟨bl, O2, hbl⟩
  clear hbl O O2
  have zlo : w.heap.size ≤ w9.heap.size ∧ w10.heap.size ≤ w18.heap.size := by omega
  replace HA0 := hide ((unhide HA0).ext E (within_out (by omega)))
  replace HA1 := hide ((unhide HA1).ext E (within_out (by omega)))
  replace P0 := hide ((unhide P0).ext E (fun q => by simp only [within] at q; omega))
  replace HW := hide ((unhide HW).ext E (within_out (by omega)))
  replace YW := hide ((unhide YW).ext E (fun q => by simp only [within] at q; omega))
  replace X0 := hide ((unhide X0).ext E (fun q => by simp only [within] at q; omega))
  replace YG := hide ((unhide YG).ext E (fun q => by simp only [within] at q; omega))
  have Zw19 : w18.heap.size ≤ w19.heap.size := E.size
  replace HB := hide ((unhide HB).trans (E.below (by omega) (fun k h q => by simp only [within] at q; omega)))
  clear E
  clear zlo
  have hq0 : decide (1 + (Lay.tHitsResult.vcnt y : Int) < 0) = false := decide_eq_false (by omega)
  have hq1 : ((1 + (Lay.tHitsResult.vcnt y : Int)) != (1 + (Lay.tHitsResult.vcnt y : Int))) = false := by simp
  clear hcy
  have l0P0 := (unhide P0).at 0 _ rfl
  have l1P0 := (unhide P0).at 1 _ rfl
  have ltP0 : w.heap.size < w19.heap.size := by omega
  have l0YW := (unhide YW).at 0 _ rfl
  have l1YW := (unhide YW).at 1 _ rfl
  have ltYW : w5.heap.size < w19.heap.size := by omega
  have l0X0 := (unhide X0).at 0 _ rfl
  have l1X0 := (unhide X0).at 1 _ rfl
  have ltX0 : w7.heap.size < w19.heap.size := by omega
  have l0YG := (unhide YG).at 0 _ rfl
  have l1YG := (unhide YG).at 1 _ rfl
  have ltYG : w10.heap.size < w19.heap.size := by omega
  simp only [List.getElem_toArray, List.getElem_cons_zero, List.getElem_cons_succ] at l0P0 l1P0 l0YW l1YW l0X0 l1X0 l0YG l1YG
  go_wp2_with fail
  clear l0P0 l1P0 ltP0 l0YW l1YW ltYW l0X0 l1X0 ltX0 l0YG l1YG ltYG
  refine (held_HitsResult _ y 1 w19 (unhide HG).reads (by omega) (by have := unhide HC; omega)).mono ?_
  rintro e w20 ⟨rfl, hb⟩
  replace HA0 := hide ((unhide HA0).later hb)
  replace HA1 := hide ((unhide HA1).later hb)
  replace P0 := hide ((unhide P0).keep hb)
  replace HW := hide ((unhide HW).later hb)
  replace YW := hide ((unhide YW).keep hb)
  replace X0 := hide ((unhide X0).keep hb)
  replace YG := hide ((unhide YG).keep hb)
  replace HG := hide ((unhide HG).later hb)
  have Zw20 : w19.heap.size ≤ w20.heap.size := hb.size
  replace HB := hide ((unhide HB).trans (hb.mono (by omega)))
  clear hb
  have l0P0 := (unhide P0).at 0 _ rfl
  have l1P0 := (unhide P0).at 1 _ rfl
  have ltP0 : w.heap.size < w20.heap.size := by omega
  have l0YW := (unhide YW).at 0 _ rfl
  have l1YW := (unhide YW).at 1 _ rfl
  have ltYW : w5.heap.size < w20.heap.size := by omega
  have l0X0 := (unhide X0).at 0 _ rfl
  have l1X0 := (unhide X0).at 1 _ rfl
  have ltX0 : w7.heap.size < w20.heap.size := by omega
  have l0YG := (unhide YG).at 0 _ rfl
  have l1YG := (unhide YG).at 1 _ rfl
  have ltYG : w10.heap.size < w20.heap.size := by omega
  simp only [List.getElem_toArray, List.getElem_cons_zero, List.getElem_cons_succ] at l0P0 l1P0 l0YW l1YW l0X0 l1X0 l0YG l1YG
  go_wp2_with fail
  clear l0P0 l1P0 ltP0 l0YW l1YW ltYW l0X0 l1X0 ltX0 l0YG l1YG ltYG
  refine (to_Ivf _ x0 w20 (unhide HA0).reads (unhide HN0)).mono ?_
  rintro e w21 ⟨vf0, rfl, O, hb⟩
  replace HA0 := hide ((unhide HA0).later hb)
  replace HA1 := hide ((unhide HA1).later hb)
  replace P0 := hide ((unhide P0).keep hb)
  replace HW := hide ((unhide HW).later hb)
  replace YW := hide ((unhide YW).keep hb)
  replace X0 := hide ((unhide X0).keep hb)
  replace YG := hide ((unhide YG).keep hb)
  replace HG := hide ((unhide HG).later hb)
  have Zw21 : w20.heap.size ≤ w21.heap.size := hb.size
  replace HB := hide ((unhide HB).trans (hb.mono (by omega)))
  clear hb
  obtain ⟨a0f0, d0f0, a1f0, d1f0, rfl, -, -⟩ := open_Ivf O.reads
  have Hf0 := hide O
  clear O
  have l0P0 := (unhide P0).at 0 _ rfl
  have l1P0 := (unhide P0).at 1 _ rfl
  have ltP0 : w.heap.size < w21.heap.size := by omega
  have l0YW := (unhide YW).at 0 _ rfl
  have l1YW := (unhide YW).at 1 _ rfl
  have ltYW : w5.heap.size < w21.heap.size := by omega
  have l0X0 := (unhide X0).at 0 _ rfl
  have l1X0 := (unhide X0).at 1 _ rfl
  have ltX0 : w7.heap.size < w21.heap.size := by omega
  have l0YG := (unhide YG).at 0 _ rfl
  have l1YG := (unhide YG).at 1 _ rfl
  have ltYG : w10.heap.size < w21.heap.size := by omega
  simp only [List.getElem_toArray, List.getElem_cons_zero, List.getElem_cons_succ] at l0P0 l1P0 l0YW l1YW l0X0 l1X0 l0YG l1YG
  go_wp2_with fail
  clear l0P0 l1P0 ltP0 l0YW l1YW ltYW l0X0 l1X0 ltX0 l0YG l1YG ltYG
  refine (to_Int64S _ x1 w21 (unhide HA1).reads (unhide HN1)).mono ?_
  rintro e w22 ⟨vf1, rfl, O, hb⟩
  replace HA0 := hide ((unhide HA0).later hb)
  replace HA1 := hide ((unhide HA1).later hb)
  replace P0 := hide ((unhide P0).keep hb)
  replace HW := hide ((unhide HW).later hb)
  replace YW := hide ((unhide YW).keep hb)
  replace X0 := hide ((unhide X0).keep hb)
  replace YG := hide ((unhide YG).keep hb)
  replace HG := hide ((unhide HG).later hb)
  replace Hf0 := hide ((unhide Hf0).later hb)
  have Zw22 : w21.heap.size ≤ w22.heap.size := hb.size
  replace HB := hide ((unhide HB).trans (hb.mono (by omega)))
  clear hb
  obtain ⟨aof1, cpf1, rfl⟩ := open_sl O.reads
  have Hf1 := hide O
  clear O
  have l0P0 := (unhide P0).at 0 _ rfl
  have l1P0 := (unhide P0).at 1 _ rfl
  have ltP0 : w.heap.size < w22.heap.size := by omega
  have l0YW := (unhide YW).at 0 _ rfl
  have l1YW := (unhide YW).at 1 _ rfl
  have ltYW : w5.heap.size < w22.heap.size := by omega
  have l0X0 := (unhide X0).at 0 _ rfl
  have l1X0 := (unhide X0).at 1 _ rfl
  have ltX0 : w7.heap.size < w22.heap.size := by omega
  have l0YG := (unhide YG).at 0 _ rfl
  have l1YG := (unhide YG).at 1 _ rfl
  have ltYG : w10.heap.size < w22.heap.size := by omega
  simp only [List.getElem_toArray, List.getElem_cons_zero, List.getElem_cons_succ] at l0P0 l1P0 l0YW l1YW l0X0 l1X0 l0YG l1YG
  go_wp2_with fail
  clear l0P0 l1P0 ltP0 l0YW l1YW ltYW l0X0 l1X0 ltX0 l0YG l1YG ltYG
  refine (unhide HI w22 _ _ (unhide Hf0).reads (unhide Hf1).reads).mono ?_
  rintro e w23 ⟨cs, rfl, O, hb⟩
  replace HA0 := hide ((unhide HA0).later hb)
  replace HA1 := hide ((unhide HA1).later hb)
  replace P0 := hide ((unhide P0).keep hb)
  replace HW := hide ((unhide HW).later hb)
  replace YW := hide ((unhide YW).keep hb)
  replace X0 := hide ((unhide X0).keep hb)
  replace YG := hide ((unhide YG).keep hb)
  replace HG := hide ((unhide HG).later hb)
  replace Hf0 := hide ((unhide Hf0).later hb)
  replace Hf1 := hide ((unhide Hf1).later hb)
  have Zw23 : w22.heap.size ≤ w23.heap.size := hb.size
  replace HB := hide ((unhide HB).trans (hb.mono (by omega)))
  clear hb
  obtain ⟨a1K, d1K, rfl, -⟩ := open_HitsResult O.reads
  have HK := hide O
  clear O
  have nb : Below w23.heap.size w23 (w23.alloc (.cells #[.int .i64 y.code, .slice a1K y.hits.length d1K] 48)) := (Below.refl _ _).alloc (Nat.le_refl _) _
  have YK : Hid (Box w23.heap.size #[.int .i64 y.code, .slice a1K y.hits.length d1K] 48 (w23.alloc (.cells #[.int .i64 y.code, .slice a1K y.hits.length d1K] 48)) w23.heap.size) := newBox (Nat.le_refl _)
  clear Hf0
  clear Hf1
  have l0P0 := (unhide P0).at 0 _ rfl
  have l1P0 := (unhide P0).at 1 _ rfl
  have ltP0 : w.heap.size < w23.heap.size := by omega
  have l0YW := (unhide YW).at 0 _ rfl
  have l1YW := (unhide YW).at 1 _ rfl
  have ltYW : w5.heap.size < w23.heap.size := by omega
  have l0X0 := (unhide X0).at 0 _ rfl
  have l1X0 := (unhide X0).at 1 _ rfl
  have ltX0 : w7.heap.size < w23.heap.size := by omega
  have l0YG := (unhide YG).at 0 _ rfl
  have l1YG := (unhide YG).at 1 _ rfl
  have ltYG : w10.heap.size < w23.heap.size := by omega
  simp only [List.getElem_toArray, List.getElem_cons_zero, List.getElem_cons_succ] at l0P0 l1P0 l0YW l1YW l0X0 l1X0 l0YG l1YG
  go_wp2_with fail
  clear l0P0 l1P0 ltP0 l0YW l1YW ltYW l0X0 l1X0 ltX0 l0YG l1YG ltYG
  generalize haw24 : w23.alloc (.cells #[.int .i64 y.code, .slice a1K y.hits.length d1K] 48) = w24 at *
  have Gw24 : w23.heap.size < w24.heap.size := by rw [← haw24]; simp
  clear haw24
  replace HA0 := hide ((unhide HA0).later nb)
  replace HA1 := hide ((unhide HA1).later nb)
  replace P0 := hide ((unhide P0).keep nb)
  replace HW := hide ((unhide HW).later nb)
  replace YW := hide ((unhide YW).keep nb)
  replace X0 := hide ((unhide X0).keep nb)
  replace YG := hide ((unhide YG).keep nb)
  replace HG := hide ((unhide HG).later nb)
  replace HK := hide ((unhide HK).later nb)
  have Zw24 : w23.heap.size ≤ w24.heap.size := nb.size
  replace HB := hide ((unhide HB).trans (nb.mono (by omega)))
  clear nb
  refine (eq_HitsResult _ _ y w24 (unhide HK).reads (unhide HW).reads).mono ?_
  rintro e w25 ⟨rfl, hb⟩
  replace HA0 := hide ((unhide HA0).later hb)
  replace HA1 := hide ((unhide HA1).later hb)
  replace P0 := hide ((unhide P0).keep hb)
  replace HW := hide ((unhide HW).later hb)
  replace YW := hide ((unhide YW).keep hb)
  replace X0 := hide ((unhide X0).keep hb)
  replace YG := hide ((unhide YG).keep hb)
  replace HG := hide ((unhide HG).later hb)
  replace HK := hide ((unhide HK).later hb)
  replace YK := hide ((unhide YK).keep hb)
  have Zw25 : w24.heap.size ≤ w25.heap.size := hb.size
  replace HB := hide ((unhide HB).trans (hb.mono (by omega)))
  clear hb
  clear HK
  clear YK
  have l0P0 := (unhide P0).at 0 _ rfl
  have l1P0 := (unhide P0).at 1 _ rfl
  have ltP0 : w.heap.size < w25.heap.size := by omega
  have l0YW := (unhide YW).at 0 _ rfl
  have l1YW := (unhide YW).at 1 _ rfl
  have ltYW : w5.heap.size < w25.heap.size := by omega
  have l0X0 := (unhide X0).at 0 _ rfl
  have l1X0 := (unhide X0).at 1 _ rfl
  have ltX0 : w7.heap.size < w25.heap.size := by omega
  have l0YG := (unhide YG).at 0 _ rfl
  have l1YG := (unhide YG).at 1 _ rfl
  have ltYG : w10.heap.size < w25.heap.size := by omega
  simp only [List.getElem_toArray, List.getElem_cons_zero, List.getElem_cons_succ] at l0P0 l1P0 l0YW l1YW l0X0 l1X0 l0YG l1YG
  go_wp2_with fail
  clear l0P0 l1P0 ltP0 l0YW l1YW ltYW l0X0 l1X0 ltX0 l0YG l1YG ltYG
  refine (held_HitsResult _ y 1 w25 (unhide HG).reads (by omega) (by have := unhide HC; omega)).mono ?_
  rintro e w26 ⟨rfl, hb⟩
  replace HA0 := hide ((unhide HA0).later hb)
  replace HA1 := hide ((unhide HA1).later hb)
  replace P0 := hide ((unhide P0).keep hb)
  replace HW := hide ((unhide HW).later hb)
  replace YW := hide ((unhide YW).keep hb)
  replace X0 := hide ((unhide X0).keep hb)
  replace YG := hide ((unhide YG).keep hb)
  replace HG := hide ((unhide HG).later hb)
  have Zw26 : w25.heap.size ≤ w26.heap.size := hb.size
  replace HB := hide ((unhide HB).trans (hb.mono (by omega)))
  clear hb
  have l0P0 := (unhide P0).at 0 _ rfl
  have l1P0 := (unhide P0).at 1 _ rfl
  have ltP0 : w.heap.size < w26.heap.size := by omega
  have l0YW := (unhide YW).at 0 _ rfl
  have l1YW := (unhide YW).at 1 _ rfl
  have ltYW : w5.heap.size < w26.heap.size := by omega
  have l0X0 := (unhide X0).at 0 _ rfl
  have l1X0 := (unhide X0).at 1 _ rfl
  have ltX0 : w7.heap.size < w26.heap.size := by omega
  have l0YG := (unhide YG).at 0 _ rfl
  have l1YG := (unhide YG).at 1 _ rfl
  have ltYG : w10.heap.size < w26.heap.size := by omega
  simp only [List.getElem_toArray, List.getElem_cons_zero, List.getElem_cons_succ] at l0P0 l1P0 l0YW l1YW l0X0 l1X0 l0YG l1YG
  go_wp2_with fail
  clear l0P0 l1P0 ltP0 l0YW l1YW ltYW l0X0 l1X0 ltX0 l0YG l1YG ltYG
  go_ret
  exact ⟨rfl, unhide HB⟩


/- lawmany -/
set_option maxHeartbeats 400000 in
theorem lawmany_SearchIvf_1 (u0 : Value) (ao1 : Option Addr) (n1 cp1 : Nat) (u2 : Value) (u3 : Value) (w : World) (hm : 1048576 < n1) :
    Calls Tryz.prog 5 #[u0, .slice ao1 n1 cp1, u2, u3] w fun e w' => e = .returned (.bool true) ∧ Below w.heap.size w w' := by
  go_enter Tryz.func5, Tryz.ntmps5
  go_wp2
  all_goals go_ret
  all_goals exact ⟨rfl, by first | exact Below.refl _ _ | exact (Below.refl _ _).alloc (Nat.le_refl _) _⟩

set_option maxRecDepth 10000 in
set_option maxHeartbeats 1000000 in
theorem lawover_SearchIvf (u0 : List Value) (x0 : DIvf) (v1 : Value) (x1 : List Int) (x2 : Int) (x3 : Int) (w : World) (A0 : Lay.tIvf.Reads w u0 x0) (A1 : (Lay.sl Lay.int).Reads w [v1] x1) (N1 : (Lay.sl Lay.int).sz x1 ≤ 1048576) (NS : 1048576 < Lay.tIvf.sz x0) :
    Calls Tryz.prog 5 #[.agg u0.toArray, v1, .int .i64 x2, .int .i64 x3] w fun e w' => e = .returned (.bool true) ∧ Below w.heap.size w w' := by
  obtain ⟨a0p0, d0p0, a1p0, d1p0, rfl, -, -⟩ := open_Ivf A0
  obtain ⟨ao1, cp1, rfl⟩ := open_sl A1
  have HA0 := hide A0.liesIn
  clear A0
  clear A1
  have L1 : x1.length ≤ 1048576 := by have := N1; rw [sz_ints] at this; exact this
  clear N1
  have HB := hide (Below.refl w.heap.size w)
  go_enter Tryz.func5, Tryz.ntmps5
  go_wp2_with fail
  have nb : Below w.heap.size w (w.alloc (.cells #[.slice a0p0 x0.centers.length d0p0, .slice a1p0 x0.lists.length d1p0] 25)) := (Below.refl w.heap.size w).alloc (Nat.le_refl _) _
  have P0 : Hid (Box w.heap.size #[.slice a0p0 x0.centers.length d0p0, .slice a1p0 x0.lists.length d1p0] 25 (w.alloc (.cells #[.slice a0p0 x0.centers.length d0p0, .slice a1p0 x0.lists.length d1p0] 25)) (w.heap.size)) := newBoxAt (by omega) (by simp)
  generalize haw1 : (w.alloc (.cells #[.slice a0p0 x0.centers.length d0p0, .slice a1p0 x0.lists.length d1p0] 25)) = w1 at *
  have Gw1 : w.heap.size + 1 ≤ w1.heap.size := by rw [← haw1]; simp
  clear haw1
  replace HA0 := hide ((unhide HA0).later nb)
  have Zw1 : w.heap.size ≤ w1.heap.size := nb.size
  replace HB := hide ((unhide HB).trans (nb.mono (by omega)))
  clear nb
  refine (sz_Ivf _ x0 (1048576) w1 (unhide HA0).reads (by omega)).mono ?_
  rintro e w2 ⟨rfl, hb⟩
  replace HA0 := hide ((unhide HA0).later hb)
  replace P0 := hide ((unhide P0).keep hb)
  have Zw2 : w1.heap.size ≤ w2.heap.size := hb.size
  replace HB := hide ((unhide HB).trans (hb.mono (by omega)))
  clear hb
  rw [szR_many (by omega)]
  go_wp2_with fail
  go_ret
  exact ⟨rfl, unhide HB⟩

end Go.Proofs.YtfgadegpdknocaaGreat

namespace Go.Proofs.YtfgadegpdknocaaGreat
open Go.RowKit

structure DCentersResult where
  code : Int
  centers : List DCenter

def Lay.tCentersResult : Lay DCentersResult := Lay.via (Lay.pair Lay.int (Lay.sl Lay.tCenter)) (fun x => (x.code, x.centers)) (fun p => ⟨p.1, p.2⟩)

theorem lies_CentersResult {w : World} {cs : List Value} {x : DCentersResult} {bl : List Nat} : Lay.tCentersResult.lies w cs x bl ↔ ∃ (a1 : Option Addr) (d1 : Nat) (b1 : List Nat), cs = [.int .i64 x.code, .slice a1 x.centers.length d1] ∧ bl = b1 ∧ (Lit.int .i64 x.code).wf = true ∧ (Lay.sl Lay.tCenter).lies w [.slice a1 x.centers.length d1] x.centers b1 := by
  constructor
  · intro h
    obtain ⟨c0_, r0_, e0_, s0_, rfl, rfl, h0, h1⟩ := h
    obtain ⟨rfl, w0, rfl⟩ := h0
    have k1 := h1
    obtain ⟨a1, d1, rfl, -⟩ := k1
    exact ⟨a1, d1, s0_, by simp, by simp, w0, h1⟩
  · rintro ⟨a1, d1, b1, rfl, hbl, w0, l1⟩
    rw [hbl]
    exact ⟨[.int .i64 x.code], [.slice a1 x.centers.length d1], [], b1, rfl, by simp, ⟨rfl, w0, rfl⟩, l1⟩

theorem open_CentersResult {w : World} {cs : List Value} {x : DCentersResult} (h : Lay.tCentersResult.Reads w cs x) : ∃ (a1 : Option Addr) (d1 : Nat), cs = [.int .i64 x.code, .slice a1 x.centers.length d1] ∧ (Lay.sl Lay.tCenter).Reads w [.slice a1 x.centers.length d1] x.centers := by
  obtain ⟨bl, h⟩ := h
  obtain ⟨a1, d1, b1, rfl, -, w0, l1⟩ := lies_CentersResult.1 h
  exact ⟨a1, d1, rfl, ⟨_, l1⟩⟩

end Go.Proofs.YtfgadegpdknocaaGreat

namespace Go.Proofs.YtfgadegpdknocaaGreat
open Go.RowKit

set_option maxHeartbeats 400000 in
theorem implFault_len (ao : Option Addr) (n cap : Nat) (w : World) (h : n ≠ 3) :
    Calls Tryz.prog 76 #[.slice ao n cap] w fun e w' => e = .returned (.int .i64 1) ∧ w' = w := by
  have h3 : ((n : Int) != 3) = true := by rw [bne_iff_ne]; omega
  go_enter Tryz.func76, Tryz.ntmps76
  go_wp2
  go_ret
  exact ⟨rfl, rfl⟩

set_option maxHeartbeats 400000 in
theorem implFault_three (b off cap : Nat) (zs : List Int) (w : World) (h : zs.length = 3) (hc : ∀ j, j < 3 → w.cell? ⟨b, off + j, none⟩ = some (.int .i64 (zs.getD j 0))) :
    Calls Tryz.prog 76 #[.slice (some ⟨b, off, none⟩) 3 cap] w fun e w' => e = .returned (.int .i64 (vecFault zs)) ∧ w' = w := by
  go_enter Tryz.func76, Tryz.ntmps76
  go_wp2
  go_loop [10] (fun i => ∃ k : Nat, k ≤ 3 ∧ i = .int .i64 k ∧ ∀ j, j < k → partB (zs.getD j 0) = true) (fun i => 3 - (intOf i).toNat)
  case atStart => exact ⟨0, Nat.zero_le _, rfl, fun j hj => by omega⟩
  case round =>
    obtain ⟨k, hk, rfl, hg⟩ := hrel
    have HG : Hid (∀ j, j < k → partB (zs.getD j 0) = true) := hg
    have HL : Hid (zs.length = 3) := h
    clear hg h
    by_cases hlt : k < 3
    · have hcx : w.cell? ⟨b, off + k, none⟩ = some (.int .i64 (zs.getD k 0)) := hc k hlt
      obtain ⟨z, hz⟩ : ∃ z, z = zs.getD k 0 := ⟨_, rfl⟩
      rw [← hz] at hcx
      have HZ : Hid (z = zs.getD k 0) := hz
      clear hz hc
      cases hp : partB z with
      | true =>
        have hb := partB_true hp
        have HP : Hid (partB z = true) := hp
        clear hp
        obtain ⟨hb1, hb2⟩ := hb
        go_wp2
        go_round
        case rel =>
          refine ⟨k + 1, by omega, by go_num, fun j hj => ?_⟩
          by_cases hjk : j < k
          · exact HG.out j hjk
          · rw [show j = k by omega, ← HZ.out]; exact HP.out
        case measure => simp [intOf]; omega
      | false =>
        have HV : Hid (vecFault zs = 3) := vecFault_bad HL.out k hlt (by rw [← HZ.out]; exact hp)
        have hb := partB_false hp
        clear hp
        rcases hb with hb | hb
        · go_wp2
          go_ret
          exact ⟨by rw [HV.out]; rfl, rfl⟩
        · have hb1 : -1000 ≤ z := by omega
          have hd : decide (z ≤ 1000) = false := by simp; omega
          go_wp2
          go_ret
          exact ⟨by rw [HV.out]; rfl, rfl⟩
    · have HV : Hid (vecFault zs = 0) := vecFault_ok HL.out (fun j hj => HG.out j (by omega))
      go_wp2
      go_ret
      exact ⟨by rw [HV.out]; rfl, rfl⟩

set_option maxHeartbeats 400000 in
theorem modelFault_len (ao : Option Addr) (n cap : Nat) (w : World) (h : n ≠ 3) :
    Calls Tryz.prog 38 #[.slice ao n cap] w fun e w' => e = .returned (.int .i64 1) ∧ w' = w := by
  have h3 : ((n : Int) != 3) = true := by rw [bne_iff_ne]; omega
  go_enter Tryz.func38, Tryz.ntmps38
  go_wp2
  go_ret
  exact ⟨rfl, rfl⟩

set_option maxHeartbeats 400000 in
theorem modelFault_three (b off cap : Nat) (zs : List Int) (w : World) (h : zs.length = 3) (hc : ∀ j, j < 3 → w.cell? ⟨b, off + j, none⟩ = some (.int .i64 (zs.getD j 0))) :
    Calls Tryz.prog 38 #[.slice (some ⟨b, off, none⟩) 3 cap] w fun e w' => e = .returned (.int .i64 (vecFault zs)) ∧ w' = w := by
  go_enter Tryz.func38, Tryz.ntmps38
  go_wp2
  go_loop [3] (fun i => ∃ k : Nat, k ≤ 3 ∧ i = .int .i64 k ∧ ∀ j, j < k → partB (zs.getD j 0) = true) (fun i => 3 - (intOf i).toNat)
  case atStart => exact ⟨0, Nat.zero_le _, rfl, fun j hj => by omega⟩
  case round =>
    obtain ⟨k, hk, rfl, hg⟩ := hrel
    have HG : Hid (∀ j, j < k → partB (zs.getD j 0) = true) := hg
    have HL : Hid (zs.length = 3) := h
    clear hg h
    by_cases hlt : k < 3
    · have hcx : w.cell? ⟨b, off + k, none⟩ = some (.int .i64 (zs.getD k 0)) := hc k hlt
      obtain ⟨z, hz⟩ : ∃ z, z = zs.getD k 0 := ⟨_, rfl⟩
      rw [← hz] at hcx
      have HZ : Hid (z = zs.getD k 0) := hz
      clear hz hc
      cases hp : partB z with
      | true =>
        have hb := partB_true hp
        have HP : Hid (partB z = true) := hp
        clear hp
        obtain ⟨hb1, hb2⟩ := hb
        go_wp2
        go_round
        case rel =>
          refine ⟨k + 1, by omega, by go_num, fun j hj => ?_⟩
          by_cases hjk : j < k
          · exact HG.out j hjk
          · rw [show j = k by omega, ← HZ.out]; exact HP.out
        case measure => simp [intOf]; omega
      | false =>
        have HV : Hid (vecFault zs = 3) := vecFault_bad HL.out k hlt (by rw [← HZ.out]; exact hp)
        have hb := partB_false hp
        clear hp
        rcases hb with hb | hb
        · go_wp2
          go_ret
          exact ⟨by rw [HV.out]; rfl, rfl⟩
        · have hb1 : -1000 ≤ z := by omega
          have hd : decide (z ≤ 1000) = false := by simp; omega
          go_wp2
          go_ret
          exact ⟨by rw [HV.out]; rfl, rfl⟩
    · have HV : Hid (vecFault zs = 0) := vecFault_ok HL.out (fun j hj => HG.out j (by omega))
      go_wp2
      go_ret
      exact ⟨by rw [HV.out]; rfl, rfl⟩


/-- VecFault of the program. -/
theorem implFault (v : Value) (zs : List Int) (w : World) (h : IsInts w v zs) :
    Calls Tryz.prog 76 #[v] w fun e w' => e = .returned (.int .i64 (vecFault zs)) ∧ w' = w := by
  obtain ⟨ao, cap, rfl, hwf, hc⟩ := h
  by_cases h3 : zs.length = 3
  · obtain ⟨b, off, rfl, hc1⟩ := hc (by omega)
    rw [h3] at hc1 ⊢
    exact implFault_three b off cap zs w h3 hc1
  · rw [vecFault_len h3]
    exact implFault_len ao zs.length cap w h3

/-- VecFault of the model. -/
theorem modelFault (v : Value) (zs : List Int) (w : World) (h : IsInts w v zs) :
    Calls Tryz.prog 38 #[v] w fun e w' => e = .returned (.int .i64 (vecFault zs)) ∧ w' = w := by
  obtain ⟨ao, cap, rfl, hwf, hc⟩ := h
  by_cases h3 : zs.length = 3
  · obtain ⟨b, off, rfl, hc1⟩ := hc (by omega)
    rw [h3] at hc1 ⊢
    exact modelFault_three b off cap zs w h3 hc1
  · rw [vecFault_len h3]
    exact modelFault_len ao zs.length cap w h3

end Go.Proofs.YtfgadegpdknocaaGreat

namespace Go.Proofs.YtfgadegpdknocaaGreat
open Go.RowKit

theorem bcell {W w1 : World} (hb : Below W.heap.size W w1) : (∀ b o, b < W.heap.size → w1.cell? ⟨b, o, none⟩ = W.cell? ⟨b, o, none⟩) ∧ (∀ b o, b < W.heap.size → w1.frozen? ⟨b, o, none⟩ = W.frozen? ⟨b, o, none⟩) :=
  ⟨fun b o h => hb.cell (p := ⟨b, o, none⟩) h, fun b o h => hb.frozen (p := ⟨b, o, none⟩) h⟩

/-- Two blocks of three cells that were laid ahead of a call are there behind it, and may be written. -/
theorem two_kept {w w1 : World} {T : TypeId} {x0 x1 x2 y0 y1 y2 : Value} (hb : Below ((w.alloc (.cells #[x0, x1, x2] T)).alloc (.cells #[y0, y1, y2] T)).heap.size ((w.alloc (.cells #[x0, x1, x2] T)).alloc (.cells #[y0, y1, y2] T)) w1) :
    (w1.cell? ⟨w.heap.size, 0, none⟩ = some x0 ∧ w1.cell? ⟨w.heap.size, 1, none⟩ = some x1 ∧ w1.cell? ⟨w.heap.size, 2, none⟩ = some x2) ∧
    (w1.cell? ⟨w.heap.size + 1, 0, none⟩ = some y0 ∧ w1.cell? ⟨w.heap.size + 1, 1, none⟩ = some y1 ∧ w1.cell? ⟨w.heap.size + 1, 2, none⟩ = some y2) ∧
    (∀ o, w1.frozen? ⟨w.heap.size, o, none⟩ = false) ∧ (∀ o, w1.frozen? ⟨w.heap.size + 1, o, none⟩ = false) := by
  refine ⟨⟨?_, ?_, ?_⟩, ⟨?_, ?_, ?_⟩, fun o => ?_, fun o => ?_⟩
  all_goals first | rw [hb.cell (by simp [World.size_alloc]; try omega)] | rw [hb.frozen (by simp [World.size_alloc]; try omega)]
  all_goals simp [go_sem]

/-- Three numbers as an array. -/
def arr3 (x y z : Int) : Value := .agg #[.int .i64 x, .int .i64 y, .int .i64 z]

theorem IsInts.three {w : World} {v : Value} {zs : List Int} (h : IsInts w v zs) (h3 : zs.length = 3) :
    ∃ b off cap x y z, zs = [x, y, z] ∧ v = .slice (some ⟨b, off, none⟩) 3 cap ∧ b < w.heap.size ∧ w.cell? ⟨b, off, none⟩ = some (.int .i64 x) ∧ w.cell? ⟨b, off + 1, none⟩ = some (.int .i64 y) ∧ w.cell? ⟨b, off + 2, none⟩ = some (.int .i64 z) := by
  obtain ⟨ao, cap, rfl, hwf, hc⟩ := h
  match zs, h3 with
  | [x, y, z], _ =>
    obtain ⟨b, off, rfl, hc1⟩ := hc (by simp)
    have c0 := hc1 0 (by simp)
    have c1 := hc1 1 (by simp)
    have c2 := hc1 2 (by simp)
    exact ⟨b, off, cap, x, y, z, rfl, rfl, World.block_lt_of_cell? _ _ c0, by simpa using c0, by simpa using c1, by simpa using c2⟩

set_option maxHeartbeats 400000 in
theorem vectorOf_bad (v : Value) (zs : List Int) (w : World) (h : IsInts w v zs) (hf : vecFault zs ≠ 0) :
    Calls Tryz.prog 47 #[v] w fun e w' => e = .returned (.tuple #[arr3 0 0 0, .int .i64 (vecFault zs)]) ∧ Below w.heap.size w w' := by
  go_enter Tryz.func47, Tryz.ntmps47
  go_wp2_with fail
  refine (implFault v zs _ (h.later (((Below.refl _ _).alloc (Nat.le_refl _) _).alloc (by simp) _))).mono ?_
  rintro e w' ⟨rfl, rfl⟩
  have hne : (vecFault zs != 0) = true := by rw [bne_iff_ne]; exact hf
  go_wp2_with fail
  refine bodyPost_ret (v := .tuple #[arr3 0 0 0, .int .i64 (vecFault zs)]) (by simp [results, Tryz.results47, go_sem, arr3]) rfl ⟨rfl, ?_⟩
  exact ((Below.refl _ _).alloc (Nat.le_refl _) _).alloc (by simp) _

set_option maxHeartbeats 1000000 in
theorem vectorOf_three (b off cap : Nat) (x y z : Int) (w : World) (hbl : b < w.heap.size) (c0 : w.cell? ⟨b, off, none⟩ = some (.int .i64 x)) (c1 : w.cell? ⟨b, off + 1, none⟩ = some (.int .i64 y)) (c2 : w.cell? ⟨b, off + 2, none⟩ = some (.int .i64 z))
    (h : IsInts w (.slice (some ⟨b, off, none⟩) 3 cap) [x, y, z]) (hf : vecFault [x, y, z] = 0) :
    Calls Tryz.prog 47 #[.slice (some ⟨b, off, none⟩) 3 cap] w fun e w' => e = .returned (.tuple #[arr3 x y z, .int .i64 0]) ∧ Below w.heap.size w w' := by
  go_enter Tryz.func47, Tryz.ntmps47
  go_wp2_with fail
  refine (implFault _ [x, y, z] _ (h.later (((Below.refl _ _).alloc (Nat.le_refl _) _).alloc (by simp) _))).mono ?_
  rintro e w' ⟨rfl, rfl⟩
  rw [hf]
  clear h hf
  go_wp2_with fail
  refine wp_loop_rounds 4 ?_
  rw [rounds_succ]
  go_wp2
  rw [rounds_succ]
  go_wp2
  rw [rounds_succ]
  go_wp2
  rw [rounds_succ]
  go_wp2
  refine bodyPost_ret (v := .tuple #[arr3 x y z, .int .i64 0]) (by simp [results, Tryz.results47, go_sem, arr3]) rfl ⟨rfl, ?_⟩
  exact ((Below.refl _ _).alloc (Nat.le_refl _) _).alloc (by simp) _

theorem vectorOf_ok (v : Value) (x y z : Int) (w : World) (h : IsInts w v [x, y, z]) (hf : vecFault [x, y, z] = 0) :
    Calls Tryz.prog 47 #[v] w fun e w' => e = .returned (.tuple #[arr3 x y z, .int .i64 0]) ∧ Below w.heap.size w w' := by
  obtain ⟨b, off, cap, x', y', z', he, rfl, hbl, c0, c1, c2⟩ := h.three rfl
  simp only [List.cons.injEq, and_true] at he
  obtain ⟨rfl, rfl, rfl⟩ := he
  exact vectorOf_three b off cap x y z w hbl c0 c1 c2 h hf

end Go.Proofs.YtfgadegpdknocaaGreat

namespace Go.Proofs.YtfgadegpdknocaaGreat
open Go.RowKit

set_option maxHeartbeats 400000 in
theorem pairOf_bad1 (v1 v2 : Value) (zs : List Int) (w : World) (h : IsInts w v1 zs) (hf : vecFault zs ≠ 0) :
    Calls Tryz.prog 79 #[v1, v2] w fun e w' => e = .returned (.tuple #[arr3 0 0 0, arr3 0 0 0, .int .i64 (vecFault zs)]) ∧ Below w.heap.size w w' := by
  have hne : (vecFault zs != 0) = true := by rw [bne_iff_ne]; exact hf
  go_enter Tryz.func79, Tryz.ntmps79
  go_wp2_with fail
  refine (vectorOf_bad v1 zs _ (h.later (((Below.refl _ _).alloc (Nat.le_refl _) _).alloc (by simp) _)) hf).mono ?_
  rintro e w1 ⟨rfl, hb⟩
  obtain ⟨p0, p1, p2, p3⟩ := two_kept hb
  have hz : w.heap.size + 1 < w1.heap.size := by have := hb.size; simp at this; omega
  have hz0 : w.heap.size < w1.heap.size := by omega
  have hB1 : Below w.heap.size w w1 := (((Below.refl _ _).alloc (Nat.le_refl _) _).alloc (by simp) _).trans (hb.mono (by simp; omega))
  have HB := hide hB1
  clear hb hB1
  simp only [arr3]
  go_wp2_with fail
  refine bodyPost_ret (v := .tuple #[arr3 0 0 0, arr3 0 0 0, .int .i64 (vecFault zs)]) (by simp [results, Tryz.results79, go_sem, arr3, p0, p1, hz, hz0]) rfl ⟨rfl, ?_⟩
  exact ((((((((unhide HB).setCell (by simp) _).setCell (by simp) _).setCell (by simp) _).setCell (by simp) _).setCell (by simp) _).setCell (by simp) _).alloc (by simp; omega) _)

set_option maxHeartbeats 400000 in
theorem pairOf_bad2 (v1 v2 : Value) (x y z : Int) (zs : List Int) (w : World) (h : IsInts w v1 [x, y, z]) (h2 : IsInts w v2 zs) (hf1 : vecFault [x, y, z] = 0) (hf : vecFault zs ≠ 0) :
    Calls Tryz.prog 79 #[v1, v2] w fun e w' => e = .returned (.tuple #[arr3 0 0 0, arr3 0 0 0, .int .i64 (vecFault zs)]) ∧ Below w.heap.size w w' := by
  have hne : (vecFault zs != 0) = true := by rw [bne_iff_ne]; exact hf
  go_enter Tryz.func79, Tryz.ntmps79
  go_wp2_with fail
  refine (vectorOf_ok v1 x y z _ (h.later (((Below.refl _ _).alloc (Nat.le_refl _) _).alloc (by simp) _)) hf1).mono ?_
  rintro e w1 ⟨rfl, hb⟩
  obtain ⟨p0, p1, p2, p3⟩ := two_kept hb
  have hz : w.heap.size + 1 < w1.heap.size := by have := hb.size; simp at this; omega
  have hz0 : w.heap.size < w1.heap.size := by omega
  have hB1 : Below w.heap.size w w1 := (((Below.refl _ _).alloc (Nat.le_refl _) _).alloc (by simp) _).trans (hb.mono (by simp; omega))
  have HB := hide hB1
  clear hb hB1 hf1
  simp only [arr3]
  go_wp2_with fail
  refine (vectorOf_bad v2 zs _ ((h2.later (unhide HB)).later ((Below.refl _ _).alloc (Nat.le_refl _) _)) hf).mono ?_
  rintro e w2 ⟨rfl, hb⟩
  obtain ⟨hc, hfz⟩ := bcell hb
  have hz2 : w1.heap.size < w2.heap.size := by have := hb.size; simp at this; omega
  have hz3 : w.heap.size < w2.heap.size := by omega
  have hz4 : w.heap.size + 1 < w2.heap.size := by omega
  have hB2 : Below w.heap.size w w2 := ((unhide HB).alloc (by omega) _).trans (hb.mono (by simp; omega))
  have q0 : ∀ o, w2.frozen? ⟨w.heap.size, o, none⟩ = false := fun o => (hb.frozen (p := ⟨w.heap.size, o, none⟩) (by simp; omega)).trans (by simp [go_sem, p2, hz0])
  have q1 : ∀ o, w2.frozen? ⟨w.heap.size + 1, o, none⟩ = false := fun o => (hb.frozen (p := ⟨w.heap.size + 1, o, none⟩) (by simp; omega)).trans (by simp [go_sem, p3, hz])
  have q2 : ∀ o, w2.cell? ⟨w.heap.size, o, none⟩ = w1.cell? ⟨w.heap.size, o, none⟩ := fun o => (hb.cell (p := ⟨w.heap.size, o, none⟩) (by simp; omega)).trans (by simp [go_sem, hz0])
  have q3 : ∀ o, w2.cell? ⟨w.heap.size + 1, o, none⟩ = w1.cell? ⟨w.heap.size + 1, o, none⟩ := fun o => (hb.cell (p := ⟨w.heap.size + 1, o, none⟩) (by simp; omega)).trans (by simp [go_sem, hz])
  have HB2 := hide hB2
  clear hb hB2 hc hfz
  simp only [arr3]
  go_wp2_with fail
  refine bodyPost_ret (v := .tuple #[arr3 0 0 0, arr3 0 0 0, .int .i64 (vecFault zs)]) (by simp [results, Tryz.results79, go_sem, arr3, p0, p1, q2, q3, hz3, hz4]) rfl ⟨rfl, ?_⟩
  exact ((((((((unhide HB2).setCell (by simp) _).setCell (by simp) _).setCell (by simp) _).setCell (by simp) _).setCell (by simp) _).setCell (by simp) _).alloc (by simp; omega) _)

set_option maxHeartbeats 1000000 in
theorem pairOf_ok (v1 v2 : Value) (x y z a b c : Int) (w : World) (h : IsInts w v1 [x, y, z]) (h2 : IsInts w v2 [a, b, c]) (hf1 : vecFault [x, y, z] = 0) (hf : vecFault [a, b, c] = 0) :
    Calls Tryz.prog 79 #[v1, v2] w fun e w' => e = .returned (.tuple #[arr3 x y z, arr3 a b c, .int .i64 0]) ∧ Below w.heap.size w w' := by
  go_enter Tryz.func79, Tryz.ntmps79
  go_wp2_with fail
  refine (vectorOf_ok v1 x y z _ (h.later (((Below.refl _ _).alloc (Nat.le_refl _) _).alloc (by simp) _)) hf1).mono ?_
  rintro e w1 ⟨rfl, hb⟩
  obtain ⟨p0, p1, p2, p3⟩ := two_kept hb
  have hz : w.heap.size + 1 < w1.heap.size := by have := hb.size; simp at this; omega
  have hz0 : w.heap.size < w1.heap.size := by omega
  have hB1 : Below w.heap.size w w1 := (((Below.refl _ _).alloc (Nat.le_refl _) _).alloc (by simp) _).trans (hb.mono (by simp; omega))
  have HB := hide hB1
  clear hb hB1 hf1
  simp only [arr3]
  go_wp2_with fail
  refine (vectorOf_ok v2 a b c _ ((h2.later (unhide HB)).later ((Below.refl _ _).alloc (Nat.le_refl _) _)) hf).mono ?_
  rintro e w2 ⟨rfl, hb⟩
  have hz2 : w1.heap.size < w2.heap.size := by have := hb.size; simp at this; omega
  have hz3 : w.heap.size < w2.heap.size := by omega
  have hz4 : w.heap.size + 1 < w2.heap.size := by omega
  have hB2 : Below w.heap.size w w2 := ((unhide HB).alloc (by omega) _).trans (hb.mono (by simp; omega))
  have q0 : ∀ o, w2.frozen? ⟨w.heap.size, o, none⟩ = false := fun o => (hb.frozen (p := ⟨w.heap.size, o, none⟩) (by simp; omega)).trans (by simp [go_sem, p2, hz0])
  have q1 : ∀ o, w2.frozen? ⟨w.heap.size + 1, o, none⟩ = false := fun o => (hb.frozen (p := ⟨w.heap.size + 1, o, none⟩) (by simp; omega)).trans (by simp [go_sem, p3, hz])
  have q2 : ∀ o, w2.cell? ⟨w.heap.size, o, none⟩ = w1.cell? ⟨w.heap.size, o, none⟩ := fun o => (hb.cell (p := ⟨w.heap.size, o, none⟩) (by simp; omega)).trans (by simp [go_sem, hz0])
  have q3 : ∀ o, w2.cell? ⟨w.heap.size + 1, o, none⟩ = w1.cell? ⟨w.heap.size + 1, o, none⟩ := fun o => (hb.cell (p := ⟨w.heap.size + 1, o, none⟩) (by simp; omega)).trans (by simp [go_sem, hz])
  have r0 : w2.cell? ⟨w1.heap.size, 0, none⟩ = some (.int .i64 x) := (hb.cell (p := ⟨w1.heap.size, 0, none⟩) (by simp)).trans (by simp [go_sem])
  have r1 : w2.cell? ⟨w1.heap.size, 1, none⟩ = some (.int .i64 y) := (hb.cell (p := ⟨w1.heap.size, 1, none⟩) (by simp)).trans (by simp [go_sem])
  have r2 : w2.cell? ⟨w1.heap.size, 2, none⟩ = some (.int .i64 z) := (hb.cell (p := ⟨w1.heap.size, 2, none⟩) (by simp)).trans (by simp [go_sem])
  have hn0 : ¬ w1.heap.size = w.heap.size := by omega
  have hn1 : ¬ w1.heap.size = w.heap.size + 1 := by omega
  have hn2 : ¬ w2.heap.size = w.heap.size := by omega
  have hn3 : ¬ w2.heap.size = w.heap.size + 1 := by omega
  have HB2 := hide hB2
  clear hb hB2
  simp only [arr3]
  go_wp2_with fail
  go_region
  go_wp2_with fail
  refine bodyPost_ret (v := .tuple #[arr3 x y z, arr3 a b c, .int .i64 0]) (by simp [results, Tryz.results79, go_sem, arr3, p0, p1, q2, q3, hz3, hz4]) rfl ⟨rfl, ?_⟩
  refine Below.drew ?_
  exact ((((((((unhide HB2).setCell (by simp) _).setCell (by simp) _).setCell (by simp) _).setCell (by simp) _).setCell (by simp) _).setCell (by simp) _).alloc (by simp; omega) _)

end Go.Proofs.YtfgadegpdknocaaGreat
