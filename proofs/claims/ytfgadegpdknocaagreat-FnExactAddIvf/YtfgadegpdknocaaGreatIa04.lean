/-
  Texts of this proof in one: LawXAddIvf, LayCentersResult, Fault, VecOf, Pair, ScoreB, ModelSum, CenScore, MeanPlain, CenPlain, CenRow, CenFill, LayIntResult, CenRes.
  Their conditions stand in their theorems.
-/
import Derived.Test.YtfgadegpdknocaaGreatChecked
import Derived.Test.YtfgadegpdknocaaGreatIa01
import Derived.Test.YtfgadegpdknocaaGreatIa02
import Derived.Test.YtfgadegpdknocaaGreatIa03
import Derived.Deep.RegionHeld3
import Derived.Deep.CutRange
import Derived.WalkSmall
import Derived.Outline
import Derived.BigQuiet
import Derived.Deep.QuietTactic
import Derived.WalkKit

namespace Go.Proofs.YtfgadegpdknocaaGreat
open Go.RowKit

set_option maxRecDepth 100000 in
set_option maxHeartbeats 4000000 in
theorem lawx_AddIvf (u0 : List Value) (x0 : DIvf) (x1 : Int) (v2 : Value) (x2 : List Int) (y : DIvfResult) (w : World) (A0 : Lay.tIvf.Reads w u0 x0) (A2 : (Lay.sl Lay.int).Reads w [v2] x2) (N2 : (Lay.sl Lay.int).sz x2 ≤ 1048576) (NS : Lay.tIvf.sz x0 ≤ 1048576)
    (hS : ∀ (W : World) (u0 : List Value) (v2 : Value), Lay.tIvf.Reads W u0 x0 → (Lay.sl Lay.int).Reads W [v2] x2 → Calls Tryz.prog 8 #[.agg u0.toArray, .int .i64 x1, v2] W fun e w' => ∃ cs, e = .returned (.agg cs.toArray) ∧ Lay.tIvfResult.Reads w' cs y ∧ Below W.heap.size W w')
    (hI : ∀ (W : World) (u0 : List Value) (v2 : Value), Lay.tIvf.Reads W u0 x0 → (Lay.sl Lay.int).Reads W [v2] x2 → Calls Tryz.prog 11 #[.agg u0.toArray, .int .i64 x1, v2] W fun e w' => ∃ cs, e = .returned (.agg cs.toArray) ∧ Lay.tIvfResult.OwnIn w' cs y W.heap.size w'.heap.size ∧ Below W.heap.size W w') (hc : Lay.tIvfResult.vcnt y ≤ 100000000) :
    Calls Tryz.prog 3 #[.agg u0.toArray, .int .i64 x1, v2] w fun e w' => e = .returned (.bool true) ∧ Below w.heap.size w w' := by
  obtain ⟨a0p0, d0p0, a1p0, d1p0, rfl, -, -⟩ := open_Ivf A0
  obtain ⟨ao2, cp2, rfl⟩ := open_sl A2
  have HS := hide hS
  have HI := hide hI
  clear hS hI
  have HA0 := hide A0.liesIn
  clear A0
  have HA2 := hide A2.liesIn
  clear A2
  have N0 : Lay.tIvf.sz x0 ≤ 1048576 := by omega
  have HN0 := hide N0
  have HN2 := hide N2
  have L2 : x2.length ≤ 1048576 := by have := N2; rw [sz_ints] at this; exact this
  clear N0 N2
  have HC := hide hc
  clear hc
  have HNS := hide NS
  clear NS
  have HB := hide (Below.refl w.heap.size w)
  go_enter Tryz.func3, Tryz.ntmps3
  go_wp2_with fail
  have nb : Below w.heap.size w (w.alloc (.cells #[.slice a0p0 x0.centers.length d0p0, .slice a1p0 x0.lists.length d1p0] 25)) := (Below.refl w.heap.size w).alloc (Nat.le_refl _) _
  have P0 : Hid (Box w.heap.size #[.slice a0p0 x0.centers.length d0p0, .slice a1p0 x0.lists.length d1p0] 25 (w.alloc (.cells #[.slice a0p0 x0.centers.length d0p0, .slice a1p0 x0.lists.length d1p0] 25)) (w.heap.size)) := newBoxAt (by omega) (by simp)
  generalize haw1 : (w.alloc (.cells #[.slice a0p0 x0.centers.length d0p0, .slice a1p0 x0.lists.length d1p0] 25)) = w1 at *
  have Gw1 : w.heap.size + 1 ≤ w1.heap.size := by rw [← haw1]; simp
  clear haw1
  replace HA0 := hide ((unhide HA0).later nb)
  replace HA2 := hide ((unhide HA2).later nb)
  have Zw1 : w.heap.size ≤ w1.heap.size := nb.size
  replace HB := hide ((unhide HB).trans (nb.mono (by omega)))
  clear nb
  have hns := unhide HNS
  refine (sz_Ivf _ x0 (1048576) w1 (unhide HA0).reads (by omega)).mono ?_
  rintro e w2 ⟨rfl, hb⟩
  replace HA0 := hide ((unhide HA0).later hb)
  replace HA2 := hide ((unhide HA2).later hb)
  replace P0 := hide ((unhide P0).keep hb)
  have Zw2 : w1.heap.size ≤ w2.heap.size := hb.size
  replace HB := hide ((unhide HB).trans (hb.mono (by omega)))
  clear hb
  rw [szR_ok (by omega)]
  have hq0 : decide (((1048576 - Lay.tIvf.sz x0 : Nat) : Int) < 0) = false := by simp
  clear hns
  have l0P0 := (unhide P0).at 0 _ rfl
  have l1P0 := (unhide P0).at 1 _ rfl
  have ltP0 : w.heap.size < w2.heap.size := by omega
  simp only [List.getElem_toArray, List.getElem_cons_zero, List.getElem_cons_succ] at l0P0 l1P0
  go_wp2_with fail
  clear l0P0 l1P0 ltP0
  clear hq0
  refine (to_Ivf _ x0 w2 (unhide HA0).reads (unhide HN0)).mono ?_
  rintro e w3 ⟨vc0, rfl, O, hb⟩
  replace HA0 := hide ((unhide HA0).later hb)
  replace HA2 := hide ((unhide HA2).later hb)
  replace P0 := hide ((unhide P0).keep hb)
  have Zw3 : w2.heap.size ≤ w3.heap.size := hb.size
  replace HB := hide ((unhide HB).trans (hb.mono (by omega)))
  clear hb
  obtain ⟨a0c0, d0c0, a1c0, d1c0, rfl, -, -⟩ := open_Ivf O.reads
  have Hc0 := hide O
  clear O
  have l0P0 := (unhide P0).at 0 _ rfl
  have l1P0 := (unhide P0).at 1 _ rfl
  have ltP0 : w.heap.size < w3.heap.size := by omega
  simp only [List.getElem_toArray, List.getElem_cons_zero, List.getElem_cons_succ] at l0P0 l1P0
  go_wp2_with fail
  clear l0P0 l1P0 ltP0
  refine (to_Int64S _ x2 w3 (unhide HA2).reads (unhide HN2)).mono ?_
  rintro e w4 ⟨vc2, rfl, O, hb⟩
  replace HA0 := hide ((unhide HA0).later hb)
  replace HA2 := hide ((unhide HA2).later hb)
  replace P0 := hide ((unhide P0).keep hb)
  replace Hc0 := hide ((unhide Hc0).later hb)
  have Zw4 : w3.heap.size ≤ w4.heap.size := hb.size
  replace HB := hide ((unhide HB).trans (hb.mono (by omega)))
  clear hb
  obtain ⟨aoc2, cpc2, rfl⟩ := open_sl O.reads
  have Hc2 := hide O
  clear O
  have l0P0 := (unhide P0).at 0 _ rfl
  have l1P0 := (unhide P0).at 1 _ rfl
  have ltP0 : w.heap.size < w4.heap.size := by omega
  simp only [List.getElem_toArray, List.getElem_cons_zero, List.getElem_cons_succ] at l0P0 l1P0
  go_wp2_with fail
  clear l0P0 l1P0 ltP0
  refine (unhide HS w4 _ _ (unhide Hc0).reads (unhide Hc2).reads).mono ?_
  rintro e w5 ⟨cs, rfl, O, hb⟩
  replace HA0 := hide ((unhide HA0).later hb)
  replace HA2 := hide ((unhide HA2).later hb)
  replace P0 := hide ((unhide P0).keep hb)
  replace Hc0 := hide ((unhide Hc0).later hb)
  replace Hc2 := hide ((unhide Hc2).later hb)
  have Zw5 : w4.heap.size ≤ w5.heap.size := hb.size
  replace HB := hide ((unhide HB).trans (hb.mono (by omega)))
  clear hb
  obtain ⟨a1W, d1W, a2W, d2W, rfl, -⟩ := open_IvfResult O
  have HW := hide O.liesIn
  clear O
  have nb : Below w5.heap.size w5 (w5.alloc (.cells #[.int .i64 y.code, .slice a1W y.ivf.centers.length d1W, .slice a2W y.ivf.lists.length d2W] 33)) := (Below.refl _ _).alloc (Nat.le_refl _) _
  have YW : Hid (Box w5.heap.size #[.int .i64 y.code, .slice a1W y.ivf.centers.length d1W, .slice a2W y.ivf.lists.length d2W] 33 (w5.alloc (.cells #[.int .i64 y.code, .slice a1W y.ivf.centers.length d1W, .slice a2W y.ivf.lists.length d2W] 33)) w5.heap.size) := newBox (Nat.le_refl _)
  clear Hc0
  clear Hc2
  have l0P0 := (unhide P0).at 0 _ rfl
  have l1P0 := (unhide P0).at 1 _ rfl
  have ltP0 : w.heap.size < w5.heap.size := by omega
  simp only [List.getElem_toArray, List.getElem_cons_zero, List.getElem_cons_succ] at l0P0 l1P0
  go_wp2_with fail
  clear l0P0 l1P0 ltP0
  generalize haw6 : w5.alloc (.cells #[.int .i64 y.code, .slice a1W y.ivf.centers.length d1W, .slice a2W y.ivf.lists.length d2W] 33) = w6 at *
  have Gw6 : w5.heap.size < w6.heap.size := by rw [← haw6]; simp
  clear haw6
  replace HA0 := hide ((unhide HA0).later nb)
  replace HA2 := hide ((unhide HA2).later nb)
  replace P0 := hide ((unhide P0).keep nb)
  replace HW := hide ((unhide HW).later nb)
  have Zw6 : w5.heap.size ≤ w6.heap.size := nb.size
  replace HB := hide ((unhide HB).trans (nb.mono (by omega)))
  clear nb
  refine (to_Ivf _ x0 w6 (unhide HA0).reads (unhide HN0)).mono ?_
  rintro e w7 ⟨vx0, rfl, O, hb⟩
  replace HA0 := hide ((unhide HA0).later hb)
  replace HA2 := hide ((unhide HA2).later hb)
  replace P0 := hide ((unhide P0).keep hb)
  replace HW := hide ((unhide HW).later hb)
  replace YW := hide ((unhide YW).keep hb)
  have Zw7 : w6.heap.size ≤ w7.heap.size := hb.size
  replace HB := hide ((unhide HB).trans (hb.mono (by omega)))
  clear hb
  obtain ⟨a0x0, d0x0, a1x0, d1x0, rfl, -, -⟩ := open_Ivf O.reads
  have Hx0 := hide O
  clear O
  have nb : Below w7.heap.size w7 (w7.alloc (.cells #[.slice a0x0 x0.centers.length d0x0, .slice a1x0 x0.lists.length d1x0] 31)) := (Below.refl _ _).alloc (Nat.le_refl _) _
  have X0 : Hid (Box w7.heap.size #[.slice a0x0 x0.centers.length d0x0, .slice a1x0 x0.lists.length d1x0] 31 (w7.alloc (.cells #[.slice a0x0 x0.centers.length d0x0, .slice a1x0 x0.lists.length d1x0] 31)) w7.heap.size) := newBox (Nat.le_refl _)
  have l0P0 := (unhide P0).at 0 _ rfl
  have l1P0 := (unhide P0).at 1 _ rfl
  have ltP0 : w.heap.size < w7.heap.size := by omega
  have l0YW := (unhide YW).at 0 _ rfl
  have l1YW := (unhide YW).at 1 _ rfl
  have l2YW := (unhide YW).at 2 _ rfl
  have ltYW : w5.heap.size < w7.heap.size := by omega
  simp only [List.getElem_toArray, List.getElem_cons_zero, List.getElem_cons_succ] at l0P0 l1P0 l0YW l1YW l2YW
  go_wp2_with fail
  clear l0P0 l1P0 ltP0 l0YW l1YW l2YW ltYW
  generalize haw8 : w7.alloc (.cells #[.slice a0x0 x0.centers.length d0x0, .slice a1x0 x0.lists.length d1x0] 31) = w8 at *
  have Gw8 : w7.heap.size < w8.heap.size := by rw [← haw8]; simp
  clear haw8
  replace HA0 := hide ((unhide HA0).later nb)
  replace HA2 := hide ((unhide HA2).later nb)
  replace P0 := hide ((unhide P0).keep nb)
  replace HW := hide ((unhide HW).later nb)
  replace YW := hide ((unhide YW).keep nb)
  replace Hx0 := hide ((unhide Hx0).later nb)
  have Zw8 : w7.heap.size ≤ w8.heap.size := nb.size
  replace HB := hide ((unhide HB).trans (nb.mono (by omega)))
  clear nb
  refine (to_Int64S _ x2 w8 (unhide HA2).reads (unhide HN2)).mono ?_
  rintro e w9 ⟨vx2, rfl, O, hb⟩
  replace HA0 := hide ((unhide HA0).later hb)
  replace HA2 := hide ((unhide HA2).later hb)
  replace P0 := hide ((unhide P0).keep hb)
  replace HW := hide ((unhide HW).later hb)
  replace YW := hide ((unhide YW).keep hb)
  replace Hx0 := hide ((unhide Hx0).later hb)
  replace X0 := hide ((unhide X0).keep hb)
  have Zw9 : w8.heap.size ≤ w9.heap.size := hb.size
  replace HB := hide ((unhide HB).trans (hb.mono (by omega)))
  clear hb
  obtain ⟨aox2, cpx2, rfl⟩ := open_sl O.reads
  have Hx2 := hide O
  clear O
  have l0P0 := (unhide P0).at 0 _ rfl
  have l1P0 := (unhide P0).at 1 _ rfl
  have ltP0 : w.heap.size < w9.heap.size := by omega
  have l0YW := (unhide YW).at 0 _ rfl
  have l1YW := (unhide YW).at 1 _ rfl
  have l2YW := (unhide YW).at 2 _ rfl
  have ltYW : w5.heap.size < w9.heap.size := by omega
  have l0X0 := (unhide X0).at 0 _ rfl
  have l1X0 := (unhide X0).at 1 _ rfl
  have ltX0 : w7.heap.size < w9.heap.size := by omega
  simp only [List.getElem_toArray, List.getElem_cons_zero, List.getElem_cons_succ] at l0P0 l1P0 l0YW l1YW l2YW l0X0 l1X0
  go_wp2_with fail
  clear l0P0 l1P0 ltP0 l0YW l1YW l2YW ltYW l0X0 l1X0 ltX0
  refine (unhide HI w9 _ _ (unhide Hx0).reads (unhide Hx2).reads).mono ?_
  rintro e w10 ⟨cs, rfl, O, hb⟩
  replace HA0 := hide ((unhide HA0).later hb)
  replace HA2 := hide ((unhide HA2).later hb)
  replace P0 := hide ((unhide P0).keep hb)
  replace HW := hide ((unhide HW).later hb)
  replace YW := hide ((unhide YW).keep hb)
  replace Hx0 := hide ((unhide Hx0).later hb)
  replace X0 := hide ((unhide X0).keep hb)
  replace Hx2 := hide ((unhide Hx2).later hb)
  have Zw10 : w9.heap.size ≤ w10.heap.size := hb.size
  replace HB := hide ((unhide HB).trans (hb.mono (by omega)))
  clear hb
  obtain ⟨a1G, d1G, a2G, d2G, rfl, -⟩ := open_IvfResult O.reads
  have HG := hide O
  clear O
  have nb : Below w10.heap.size w10 (w10.alloc (.cells #[.int .i64 y.code, .slice a1G y.ivf.centers.length d1G, .slice a2G y.ivf.lists.length d2G] 33)) := (Below.refl _ _).alloc (Nat.le_refl _) _
  have YG : Hid (Box w10.heap.size #[.int .i64 y.code, .slice a1G y.ivf.centers.length d1G, .slice a2G y.ivf.lists.length d2G] 33 (w10.alloc (.cells #[.int .i64 y.code, .slice a1G y.ivf.centers.length d1G, .slice a2G y.ivf.lists.length d2G] 33)) w10.heap.size) := newBox (Nat.le_refl _)
  have l0P0 := (unhide P0).at 0 _ rfl
  have l1P0 := (unhide P0).at 1 _ rfl
  have ltP0 : w.heap.size < w10.heap.size := by omega
  have l0YW := (unhide YW).at 0 _ rfl
  have l1YW := (unhide YW).at 1 _ rfl
  have l2YW := (unhide YW).at 2 _ rfl
  have ltYW : w5.heap.size < w10.heap.size := by omega
  have l0X0 := (unhide X0).at 0 _ rfl
  have l1X0 := (unhide X0).at 1 _ rfl
  have ltX0 : w7.heap.size < w10.heap.size := by omega
  simp only [List.getElem_toArray, List.getElem_cons_zero, List.getElem_cons_succ] at l0P0 l1P0 l0YW l1YW l2YW l0X0 l1X0
  go_wp2_with fail
  clear l0P0 l1P0 ltP0 l0YW l1YW l2YW ltYW l0X0 l1X0 ltX0
  generalize haw11 : w10.alloc (.cells #[.int .i64 y.code, .slice a1G y.ivf.centers.length d1G, .slice a2G y.ivf.lists.length d2G] 33) = w11 at *
  have Gw11 : w10.heap.size < w11.heap.size := by rw [← haw11]; simp
  clear haw11
  replace HA0 := hide ((unhide HA0).later nb)
  replace HA2 := hide ((unhide HA2).later nb)
  replace P0 := hide ((unhide P0).keep nb)
  replace HW := hide ((unhide HW).later nb)
  replace YW := hide ((unhide YW).keep nb)
  replace Hx0 := hide ((unhide Hx0).later nb)
  replace X0 := hide ((unhide X0).keep nb)
  replace Hx2 := hide ((unhide Hx2).later nb)
  replace HG := hide ((unhide HG).later nb)
  have Zw11 : w10.heap.size ≤ w11.heap.size := nb.size
  replace HB := hide ((unhide HB).trans (nb.mono (by omega)))
  clear nb
  refine (eq_IvfResult _ _ y w11 (unhide HG).reads (unhide HW).reads).mono ?_
  rintro e w12 ⟨rfl, hb⟩
  replace HA0 := hide ((unhide HA0).later hb)
  replace HA2 := hide ((unhide HA2).later hb)
  replace P0 := hide ((unhide P0).keep hb)
  replace HW := hide ((unhide HW).later hb)
  replace YW := hide ((unhide YW).keep hb)
  replace Hx0 := hide ((unhide Hx0).later hb)
  replace X0 := hide ((unhide X0).keep hb)
  replace Hx2 := hide ((unhide Hx2).later hb)
  replace HG := hide ((unhide HG).later hb)
  replace YG := hide ((unhide YG).keep hb)
  have Zw12 : w11.heap.size ≤ w12.heap.size := hb.size
  replace HB := hide ((unhide HB).trans (hb.mono (by omega)))
  clear hb
  have l0P0 := (unhide P0).at 0 _ rfl
  have l1P0 := (unhide P0).at 1 _ rfl
  have ltP0 : w.heap.size < w12.heap.size := by omega
  have l0YW := (unhide YW).at 0 _ rfl
  have l1YW := (unhide YW).at 1 _ rfl
  have l2YW := (unhide YW).at 2 _ rfl
  have ltYW : w5.heap.size < w12.heap.size := by omega
  have l0X0 := (unhide X0).at 0 _ rfl
  have l1X0 := (unhide X0).at 1 _ rfl
  have ltX0 : w7.heap.size < w12.heap.size := by omega
  have l0YG := (unhide YG).at 0 _ rfl
  have l1YG := (unhide YG).at 1 _ rfl
  have l2YG := (unhide YG).at 2 _ rfl
  have ltYG : w10.heap.size < w12.heap.size := by omega
  simp only [List.getElem_toArray, List.getElem_cons_zero, List.getElem_cons_succ] at l0P0 l1P0 l0YW l1YW l2YW l0X0 l1X0 l0YG l1YG l2YG
  go_wp2_with fail
  clear l0P0 l1P0 ltP0 l0YW l1YW l2YW ltYW l0X0 l1X0 ltX0 l0YG l1YG l2YG ltYG
  have l0P0 := (unhide P0).at 0 _ rfl
  have l1P0 := (unhide P0).at 1 _ rfl
  have ltP0 : w.heap.size < w12.heap.size := by omega
  have l0X0 := (unhide X0).at 0 _ rfl
  have l1X0 := (unhide X0).at 1 _ rfl
  have ltX0 : w7.heap.size < w12.heap.size := by omega
  simp only [List.getElem_toArray, List.getElem_cons_zero, List.getElem_cons_succ] at l0P0 l1P0 l0X0 l1X0
  refine wp_region_noPanic ?_
  refine wp_region_held_drew (S := fun w' => Below w12.heap.size w12 w') (by kernel_rfl) (Below.refl _ _).drew (fun hHeld => ?_)
  generalize w12.drew = wD at hHeld ⊢
  refine wpAnyH_take (i := 0) (oi := { dst := some 42, op := Go.Op.load 31 (Go.Operand.tmp 9), type := 31, pos := "exact.go:3247", after := #[], guard := none }) (v := ?vs00) rfl (by kernel_rfl) (by kernel_rfl) (by kernel_rfl) (fun _ _ _ h => h) (Or.inl ⟨by rfl, ?hs00⟩) hHeld ?rs00
  case hs00 =>
    intro wS hSw
    have y0P0 := (hSw.cell (p := ⟨w.heap.size, 0, none⟩) ltP0).trans l0P0
    have y1P0 := (hSw.cell (p := ⟨w.heap.size, 1, none⟩) ltP0).trans l1P0
    have y0X0 := (hSw.cell (p := ⟨w7.heap.size, 0, none⟩) ltX0).trans l0X0
    have y1X0 := (hSw.cell (p := ⟨w7.heap.size, 1, none⟩) ltX0).trans l1X0
    clear hSw
    (try dsimp only at hSw)
    go_simp
    try with_reducible rfl
  case rs00 =>
  simp only [Act.put, List.setIfInBounds_toArray, List.set_cons_zero, List.set_cons_succ]
  refine wpAnyH_take (i := 1) (oi := { dst := some 43, op := Go.Op.load 25 (Go.Operand.tmp 3), type := 25, pos := "exact.go:3247", after := #[], guard := none }) (v := ?vs01) rfl (by kernel_rfl) (by kernel_rfl) (by kernel_rfl) (fun _ _ _ h => h) (Or.inl ⟨by rfl, ?hs01⟩) hHeld ?rs01
  case hs01 =>
    intro wS hSw
    have y0P0 := (hSw.cell (p := ⟨w.heap.size, 0, none⟩) ltP0).trans l0P0
    have y1P0 := (hSw.cell (p := ⟨w.heap.size, 1, none⟩) ltP0).trans l1P0
    have y0X0 := (hSw.cell (p := ⟨w7.heap.size, 0, none⟩) ltX0).trans l0X0
    have y1X0 := (hSw.cell (p := ⟨w7.heap.size, 1, none⟩) ltX0).trans l1X0
    clear hSw
    (try dsimp only at hSw)
    go_simp
    try with_reducible rfl
  case rs01 =>
  simp only [Act.put, List.setIfInBounds_toArray, List.set_cons_zero, List.set_cons_succ]
  refine wpAnyH_ready (rs := [2]) (by kernel_rfl) (by simp) ?_
  refine AllReadyH.cons (o := { dst := some 44, op := Go.Op.call { callee := Go.Callee.value (Go.Operand.func 9), args := #[Go.Operand.tmp 43], argTypes := #[25] }, type := 31, pos := "exact.go:3247", after := #[{ on := 1, ground := Go.Ground.data }], guard := none }) rfl (fun K hK => ?_) AllReadyH.nil
  go_simp
  go_at_call 9
  refine (to_Ivf _ x0 _ ((unhide HA0).reads.later hHeld) (unhide HN0)).mono ?_
  rintro e wT ⟨vT, rfl, OT, hbw⟩
  have RT := OT.reads
  obtain ⟨a0T, d0T, a1T, d1T, rfl, -, -⟩ := open_Ivf RT
  try go_wp2_with fail
  refine hK.out _ _ (hHeld.trans (hbw.mono hHeld.size)) (fun hHeld => ?_)
  clear hK K
  try simp only [Act.put, List.setIfInBounds_toArray, List.set_cons_zero, List.set_cons_succ]
  refine wpAnyH_ready (rs := [3]) (by kernel_rfl) (by simp) ?_
  refine AllReadyH.cons (o := { dst := some 45, op := Go.Op.call { callee := Go.Callee.value (Go.Operand.func 13), args := #[Go.Operand.tmp 42, Go.Operand.tmp 44], argTypes := #[31, 31] }, type := 4, pos := "exact.go:3247", after := #[{ on := 0, ground := Go.Ground.data }, { on := 2, ground := Go.Ground.data }, { on := 2, ground := Go.Ground.chain }], guard := none }) rfl (fun K hK => ?_) AllReadyH.nil
  go_simp
  go_at_call 13
  refine (eq_Ivf _ _ x0 _ ((unhide Hx0).reads.later hHeld) RT).mono ?_
  rintro e wU ⟨rfl, hbw⟩
  try go_wp2_with fail
  refine hK.out _ _ (hHeld.trans (hbw.mono hHeld.size)) (fun hHeld => ?_)
  clear hK K
  try simp only [Act.put, List.setIfInBounds_toArray, List.set_cons_zero, List.set_cons_succ]
  refine wpAnyH_take (i := 4) (oi := { dst := some 46, op := Go.Op.unOp Go.UnOp.not 4 (Go.Operand.tmp 45), type := 4, pos := "exact.go:3247", after := #[{ on := 3, ground := Go.Ground.data }], guard := none }) (v := ?vs04) rfl (by kernel_rfl) (by kernel_rfl) (by kernel_rfl) (fun _ _ _ h => h) (Or.inl ⟨by rfl, ?hs04⟩) hHeld ?rs04
  case hs04 =>
    intro wS hSw
    (try dsimp only at hSw)
    go_simp
    try with_reducible rfl
  case rs04 =>
  simp only [Act.put, List.setIfInBounds_toArray, List.set_cons_zero, List.set_cons_succ]
  refine wpAnyH_done (by kernel_rfl) ?_ _
  refine NoPanic.normal ?_
  clear l0P0 l1P0 ltP0 l0X0 l1X0 ltX0 OT RT
  have hb : Below w12.heap.size w12 wU := hHeld
  clear hHeld hbw
  replace HA0 := hide ((unhide HA0).later hb)
  replace HA2 := hide ((unhide HA2).later hb)
  replace P0 := hide ((unhide P0).keep hb)
  replace HW := hide ((unhide HW).later hb)
  replace YW := hide ((unhide YW).keep hb)
  replace Hx0 := hide ((unhide Hx0).later hb)
  replace X0 := hide ((unhide X0).keep hb)
  replace Hx2 := hide ((unhide Hx2).later hb)
  replace HG := hide ((unhide HG).later hb)
  replace YG := hide ((unhide YG).keep hb)
  have ZwU : w12.heap.size ≤ wU.heap.size := hb.size
  replace HB := hide ((unhide HB).trans (hb.mono (by omega)))
  clear hb
  have l0P0 := (unhide P0).at 0 _ rfl
  have l1P0 := (unhide P0).at 1 _ rfl
  have ltP0 : w.heap.size < wU.heap.size := by omega
  have l0YW := (unhide YW).at 0 _ rfl
  have l1YW := (unhide YW).at 1 _ rfl
  have l2YW := (unhide YW).at 2 _ rfl
  have ltYW : w5.heap.size < wU.heap.size := by omega
  have l0X0 := (unhide X0).at 0 _ rfl
  have l1X0 := (unhide X0).at 1 _ rfl
  have ltX0 : w7.heap.size < wU.heap.size := by omega
  have l0YG := (unhide YG).at 0 _ rfl
  have l1YG := (unhide YG).at 1 _ rfl
  have l2YG := (unhide YG).at 2 _ rfl
  have ltYG : w10.heap.size < wU.heap.size := by omega
  simp only [List.getElem_toArray, List.getElem_cons_zero, List.getElem_cons_succ] at l0P0 l1P0 l0YW l1YW l2YW l0X0 l1X0 l0YG l1YG l2YG
  go_wp2_with fail
  clear l0P0 l1P0 ltP0 l0YW l1YW l2YW ltYW l0X0 l1X0 ltX0 l0YG l1YG l2YG ltYG
  refine (to_Int64S _ x2 wU (unhide HA2).reads (unhide HN2)).mono ?_
  rintro e w14 ⟨vd2, rfl, O, hb⟩
  replace HA0 := hide ((unhide HA0).later hb)
  replace HA2 := hide ((unhide HA2).later hb)
  replace P0 := hide ((unhide P0).keep hb)
  replace HW := hide ((unhide HW).later hb)
  replace YW := hide ((unhide YW).keep hb)
  replace Hx0 := hide ((unhide Hx0).later hb)
  replace X0 := hide ((unhide X0).keep hb)
  replace Hx2 := hide ((unhide Hx2).later hb)
  replace HG := hide ((unhide HG).later hb)
  replace YG := hide ((unhide YG).keep hb)
  have Zw14 : wU.heap.size ≤ w14.heap.size := hb.size
  replace HB := hide ((unhide HB).trans (hb.mono (by omega)))
  clear hb
  obtain ⟨aod2, cpd2, rfl⟩ := open_sl O.reads
  have Hd2 := hide O
  clear O
  have l0P0 := (unhide P0).at 0 _ rfl
  have l1P0 := (unhide P0).at 1 _ rfl
  have ltP0 : w.heap.size < w14.heap.size := by omega
  have l0YW := (unhide YW).at 0 _ rfl
  have l1YW := (unhide YW).at 1 _ rfl
  have l2YW := (unhide YW).at 2 _ rfl
  have ltYW : w5.heap.size < w14.heap.size := by omega
  have l0X0 := (unhide X0).at 0 _ rfl
  have l1X0 := (unhide X0).at 1 _ rfl
  have ltX0 : w7.heap.size < w14.heap.size := by omega
  have l0YG := (unhide YG).at 0 _ rfl
  have l1YG := (unhide YG).at 1 _ rfl
  have l2YG := (unhide YG).at 2 _ rfl
  have ltYG : w10.heap.size < w14.heap.size := by omega
  simp only [List.getElem_toArray, List.getElem_cons_zero, List.getElem_cons_succ] at l0P0 l1P0 l0YW l1YW l2YW l0X0 l1X0 l0YG l1YG l2YG
  go_wp2_with fail
  clear l0P0 l1P0 ltP0 l0YW l1YW l2YW ltYW l0X0 l1X0 ltX0 l0YG l1YG l2YG ltYG
  refine (eq_Int64S _ _ x2 w14 (unhide Hx2).reads (unhide Hd2).reads).mono ?_
  rintro e w15 ⟨rfl, hb⟩
  replace HA0 := hide ((unhide HA0).later hb)
  replace HA2 := hide ((unhide HA2).later hb)
  replace P0 := hide ((unhide P0).keep hb)
  replace HW := hide ((unhide HW).later hb)
  replace YW := hide ((unhide YW).keep hb)
  replace Hx0 := hide ((unhide Hx0).later hb)
  replace X0 := hide ((unhide X0).keep hb)
  replace Hx2 := hide ((unhide Hx2).later hb)
  replace HG := hide ((unhide HG).later hb)
  replace YG := hide ((unhide YG).keep hb)
  replace Hd2 := hide ((unhide Hd2).later hb)
  have Zw15 : w14.heap.size ≤ w15.heap.size := hb.size
  replace HB := hide ((unhide HB).trans (hb.mono (by omega)))
  clear hb
  clear Hd2
  have l0P0 := (unhide P0).at 0 _ rfl
  have l1P0 := (unhide P0).at 1 _ rfl
  have ltP0 : w.heap.size < w15.heap.size := by omega
  have l0YW := (unhide YW).at 0 _ rfl
  have l1YW := (unhide YW).at 1 _ rfl
  have l2YW := (unhide YW).at 2 _ rfl
  have ltYW : w5.heap.size < w15.heap.size := by omega
  have l0X0 := (unhide X0).at 0 _ rfl
  have l1X0 := (unhide X0).at 1 _ rfl
  have ltX0 : w7.heap.size < w15.heap.size := by omega
  have l0YG := (unhide YG).at 0 _ rfl
  have l1YG := (unhide YG).at 1 _ rfl
  have l2YG := (unhide YG).at 2 _ rfl
  have ltYG : w10.heap.size < w15.heap.size := by omega
  simp only [List.getElem_toArray, List.getElem_cons_zero, List.getElem_cons_succ] at l0P0 l1P0 l0YW l1YW l2YW l0X0 l1X0 l0YG l1YG l2YG
  go_wp2_with fail
  clear l0P0 l1P0 ltP0 l0YW l1YW l2YW ltYW l0X0 l1X0 ltX0 l0YG l1YG l2YG ltYG
  obtain ⟨bl, O, hbl⟩ := unhide Hx0
  clear Hx0
  have HCx0 := few_bound (A := Lay.tIvf) (few_via (few_pair (few_sl (few_via (few_sl few_int))) (few_sl (few_via (few_sl (few_via (few_pair few_int (few_sl few_int)))))))) (unhide HN0) (by omega)
  refine (mark_Ivf _ x0 bl (1) w15 O (by omega) (by omega)).mono ?_
  rintro e w16 ⟨rfl, -, E⟩
  replace E := E.mono (S' := within w6.heap.size w7.heap.size) fun b _ hb => hbl b hb
  clear hbl O
  have zlo : w.heap.size ≤ w6.heap.size ∧ w7.heap.size ≤ w15.heap.size := by omega
  replace HA0 := hide ((unhide HA0).ext E (within_out (by omega)))
  replace HA2 := hide ((unhide HA2).ext E (within_out (by omega)))
  replace P0 := hide ((unhide P0).ext E (fun q => by simp only [within] at q; omega))
  replace HW := hide ((unhide HW).ext E (within_out (by omega)))
  replace YW := hide ((unhide YW).ext E (fun q => by simp only [within] at q; omega))
  replace X0 := hide ((unhide X0).ext E (fun q => by simp only [within] at q; omega))
  replace Hx2 := hide ((unhide Hx2).ext E (within_out (by omega)))
  replace HG := hide ((unhide HG).ext E (within_out (by omega)))
  replace YG := hide ((unhide YG).ext E (fun q => by simp only [within] at q; omega))
  have Zw16 : w15.heap.size ≤ w16.heap.size := E.size
  replace HB := hide ((unhide HB).trans (E.below (by omega) (fun k h q => by simp only [within] at q; omega)))
  clear E
  clear zlo
  have l0P0 := (unhide P0).at 0 _ rfl
  have l1P0 := (unhide P0).at 1 _ rfl
  have ltP0 : w.heap.size < w16.heap.size := by omega
  have l0YW := (unhide YW).at 0 _ rfl
  have l1YW := (unhide YW).at 1 _ rfl
  have l2YW := (unhide YW).at 2 _ rfl
  have ltYW : w5.heap.size < w16.heap.size := by omega
  have l0X0 := (unhide X0).at 0 _ rfl
  have l1X0 := (unhide X0).at 1 _ rfl
  have ltX0 : w7.heap.size < w16.heap.size := by omega
  have l0YG := (unhide YG).at 0 _ rfl
  have l1YG := (unhide YG).at 1 _ rfl
  have l2YG := (unhide YG).at 2 _ rfl
  have ltYG : w10.heap.size < w16.heap.size := by omega
  simp only [List.getElem_toArray, List.getElem_cons_zero, List.getElem_cons_succ] at l0P0 l1P0 l0YW l1YW l2YW l0X0 l1X0 l0YG l1YG l2YG
  go_wp2_with fail
  clear l0P0 l1P0 ltP0 l0YW l1YW l2YW ltYW l0X0 l1X0 ltX0 l0YG l1YG l2YG ltYG
  obtain ⟨bl, O, hbl⟩ := unhide Hx2
  clear Hx2
  have HCx2 := few_bound (A := (Lay.sl Lay.int)) (few_sl few_int) (unhide HN2) (by omega)
  refine (mark_Int64S _ x2 bl (1 + (Lay.tIvf.vcnt x0 : Int)) w16 O (by omega) (by omega)).mono ?_
  rintro e w17 ⟨rfl, -, E⟩
  replace E := E.mono (S' := within w8.heap.size w9.heap.size) fun b _ hb => hbl b hb
  clear hbl O
  have zlo : w.heap.size ≤ w8.heap.size ∧ w9.heap.size ≤ w16.heap.size := by omega
  replace HA0 := hide ((unhide HA0).ext E (within_out (by omega)))
  replace HA2 := hide ((unhide HA2).ext E (within_out (by omega)))
  replace P0 := hide ((unhide P0).ext E (fun q => by simp only [within] at q; omega))
  replace HW := hide ((unhide HW).ext E (within_out (by omega)))
  replace YW := hide ((unhide YW).ext E (fun q => by simp only [within] at q; omega))
  replace X0 := hide ((unhide X0).ext E (fun q => by simp only [within] at q; omega))
  replace HG := hide ((unhide HG).ext E (within_out (by omega)))
  replace YG := hide ((unhide YG).ext E (fun q => by simp only [within] at q; omega))
  have Zw17 : w16.heap.size ≤ w17.heap.size := E.size
  replace HB := hide ((unhide HB).trans (E.below (by omega) (fun k h q => by simp only [within] at q; omega)))
  clear E
  clear zlo
  obtain ⟨mk, hmk⟩ : ∃ mk : Int, mk = 1 + (Lay.tIvf.vcnt x0 : Int) + ((Lay.sl Lay.int).vcnt x2 : Int) := ⟨_, rfl⟩
  rw [← hmk]
  have hm3 : decide (mk < 0) = false := decide_eq_false (by omega)
  clear hmk HCx0 HCx2
  have l0P0 := (unhide P0).at 0 _ rfl
  have l1P0 := (unhide P0).at 1 _ rfl
  have ltP0 : w.heap.size < w17.heap.size := by omega
  have l0YW := (unhide YW).at 0 _ rfl
  have l1YW := (unhide YW).at 1 _ rfl
  have l2YW := (unhide YW).at 2 _ rfl
  have ltYW : w5.heap.size < w17.heap.size := by omega
  have l0X0 := (unhide X0).at 0 _ rfl
  have l1X0 := (unhide X0).at 1 _ rfl
  have ltX0 : w7.heap.size < w17.heap.size := by omega
  have l0YG := (unhide YG).at 0 _ rfl
  have l1YG := (unhide YG).at 1 _ rfl
  have l2YG := (unhide YG).at 2 _ rfl
  have ltYG : w10.heap.size < w17.heap.size := by omega
  simp only [List.getElem_toArray, List.getElem_cons_zero, List.getElem_cons_succ] at l0P0 l1P0 l0YW l1YW l2YW l0X0 l1X0 l0YG l1YG l2YG
  go_wp2_with fail
  clear l0P0 l1P0 ltP0 l0YW l1YW l2YW ltYW l0X0 l1X0 ltX0 l0YG l1YG l2YG ltYG
  refine (eq_IvfResult _ _ y w17 (unhide HG).reads (unhide HW).reads).mono ?_
  rintro e w18 ⟨rfl, hb⟩
  replace HA0 := hide ((unhide HA0).later hb)
  replace HA2 := hide ((unhide HA2).later hb)
  replace P0 := hide ((unhide P0).keep hb)
  replace HW := hide ((unhide HW).later hb)
  replace YW := hide ((unhide YW).keep hb)
  replace X0 := hide ((unhide X0).keep hb)
  replace HG := hide ((unhide HG).later hb)
  replace YG := hide ((unhide YG).keep hb)
  have Zw18 : w17.heap.size ≤ w18.heap.size := hb.size
  replace HB := hide ((unhide HB).trans (hb.mono (by omega)))
  clear hb
  clear hm3
  have l0P0 := (unhide P0).at 0 _ rfl
  have l1P0 := (unhide P0).at 1 _ rfl
  have ltP0 : w.heap.size < w18.heap.size := by omega
  have l0YW := (unhide YW).at 0 _ rfl
  have l1YW := (unhide YW).at 1 _ rfl
  have l2YW := (unhide YW).at 2 _ rfl
  have ltYW : w5.heap.size < w18.heap.size := by omega
  have l0X0 := (unhide X0).at 0 _ rfl
  have l1X0 := (unhide X0).at 1 _ rfl
  have ltX0 : w7.heap.size < w18.heap.size := by omega
  have l0YG := (unhide YG).at 0 _ rfl
  have l1YG := (unhide YG).at 1 _ rfl
  have l2YG := (unhide YG).at 2 _ rfl
  have ltYG : w10.heap.size < w18.heap.size := by omega
  simp only [List.getElem_toArray, List.getElem_cons_zero, List.getElem_cons_succ] at l0P0 l1P0 l0YW l1YW l2YW l0X0 l1X0 l0YG l1YG l2YG
  go_wp2_with fail
  clear l0P0 l1P0 ltP0 l0YW l1YW l2YW ltYW l0X0 l1X0 ltX0 l0YG l1YG l2YG ltYG
  obtain ⟨bl, O, hbl⟩ := unhide HG
  clear HG
  have hcy := unhide HC
  refine (mark_IvfResult _ y bl 1 w18 O (by omega) (by omega)).mono ?_
  rintro e w19 ⟨rfl, O2, E⟩
  replace E := E.mono (S' := within w9.heap.size w10.heap.size) fun b _ hb => hbl b hb
  have HG : Hid (Lay.tIvfResult.OwnIn w19 _ (Lay.tIvfResult.mkv 1 y) w9.heap.size w10.heap.size) := ⟨bl, O2, hbl⟩
  clear hbl O O2
  have zlo : w.heap.size ≤ w9.heap.size ∧ w10.heap.size ≤ w18.heap.size := by omega
  replace HA0 := hide ((unhide HA0).ext E (within_out (by omega)))
  replace HA2 := hide ((unhide HA2).ext E (within_out (by omega)))
  replace P0 := hide ((unhide P0).ext E (fun q => by simp only [within] at q; omega))
  replace HW := hide ((unhide HW).ext E (within_out (by omega)))
  replace YW := hide ((unhide YW).ext E (fun q => by simp only [within] at q; omega))
  replace X0 := hide ((unhide X0).ext E (fun q => by simp only [within] at q; omega))
  replace YG := hide ((unhide YG).ext E (fun q => by simp only [within] at q; omega))
  have Zw19 : w18.heap.size ≤ w19.heap.size := E.size
  replace HB := hide ((unhide HB).trans (E.below (by omega) (fun k h q => by simp only [within] at q; omega)))
  clear E
  clear zlo
  have hq0 : decide (1 + (Lay.tIvfResult.vcnt y : Int) < 0) = false := decide_eq_false (by omega)
  have hq1 : ((1 + (Lay.tIvfResult.vcnt y : Int)) != (1 + (Lay.tIvfResult.vcnt y : Int))) = false := by simp
  clear hcy
  have l0P0 := (unhide P0).at 0 _ rfl
  have l1P0 := (unhide P0).at 1 _ rfl
  have ltP0 : w.heap.size < w19.heap.size := by omega
  have l0YW := (unhide YW).at 0 _ rfl
  have l1YW := (unhide YW).at 1 _ rfl
  have l2YW := (unhide YW).at 2 _ rfl
  have ltYW : w5.heap.size < w19.heap.size := by omega
  have l0X0 := (unhide X0).at 0 _ rfl
  have l1X0 := (unhide X0).at 1 _ rfl
  have ltX0 : w7.heap.size < w19.heap.size := by omega
  have l0YG := (unhide YG).at 0 _ rfl
  have l1YG := (unhide YG).at 1 _ rfl
  have l2YG := (unhide YG).at 2 _ rfl
  have ltYG : w10.heap.size < w19.heap.size := by omega
  simp only [List.getElem_toArray, List.getElem_cons_zero, List.getElem_cons_succ] at l0P0 l1P0 l0YW l1YW l2YW l0X0 l1X0 l0YG l1YG l2YG
  go_wp2_with fail
  clear l0P0 l1P0 ltP0 l0YW l1YW l2YW ltYW l0X0 l1X0 ltX0 l0YG l1YG l2YG ltYG
  refine (held_IvfResult _ y 1 w19 (unhide HG).reads (by omega) (by have := unhide HC; omega)).mono ?_
  rintro e w20 ⟨rfl, hb⟩
  replace HA0 := hide ((unhide HA0).later hb)
  replace HA2 := hide ((unhide HA2).later hb)
  replace P0 := hide ((unhide P0).keep hb)
  replace HW := hide ((unhide HW).later hb)
  replace YW := hide ((unhide YW).keep hb)
  replace X0 := hide ((unhide X0).keep hb)
  replace YG := hide ((unhide YG).keep hb)
  replace HG := hide ((unhide HG).later hb)
  have Zw20 : w19.heap.size ≤ w20.heap.size := hb.size
  replace HB := hide ((unhide HB).trans (hb.mono (by omega)))
  clear hb
  have l0P0 := (unhide P0).at 0 _ rfl
  have l1P0 := (unhide P0).at 1 _ rfl
  have ltP0 : w.heap.size < w20.heap.size := by omega
  have l0YW := (unhide YW).at 0 _ rfl
  have l1YW := (unhide YW).at 1 _ rfl
  have l2YW := (unhide YW).at 2 _ rfl
  have ltYW : w5.heap.size < w20.heap.size := by omega
  have l0X0 := (unhide X0).at 0 _ rfl
  have l1X0 := (unhide X0).at 1 _ rfl
  have ltX0 : w7.heap.size < w20.heap.size := by omega
  have l0YG := (unhide YG).at 0 _ rfl
  have l1YG := (unhide YG).at 1 _ rfl
  have l2YG := (unhide YG).at 2 _ rfl
  have ltYG : w10.heap.size < w20.heap.size := by omega
  simp only [List.getElem_toArray, List.getElem_cons_zero, List.getElem_cons_succ] at l0P0 l1P0 l0YW l1YW l2YW l0X0 l1X0 l0YG l1YG l2YG
  go_wp2_with fail
  clear l0P0 l1P0 ltP0 l0YW l1YW l2YW ltYW l0X0 l1X0 ltX0 l0YG l1YG l2YG ltYG
  refine (to_Ivf _ x0 w20 (unhide HA0).reads (unhide HN0)).mono ?_
  rintro e w21 ⟨vf0, rfl, O, hb⟩
  replace HA0 := hide ((unhide HA0).later hb)
  replace HA2 := hide ((unhide HA2).later hb)
  replace P0 := hide ((unhide P0).keep hb)
  replace HW := hide ((unhide HW).later hb)
  replace YW := hide ((unhide YW).keep hb)
  replace X0 := hide ((unhide X0).keep hb)
  replace YG := hide ((unhide YG).keep hb)
  replace HG := hide ((unhide HG).later hb)
  have Zw21 : w20.heap.size ≤ w21.heap.size := hb.size
  replace HB := hide ((unhide HB).trans (hb.mono (by omega)))
  clear hb
  obtain ⟨a0f0, d0f0, a1f0, d1f0, rfl, -, -⟩ := open_Ivf O.reads
  have Hf0 := hide O
  clear O
  have l0P0 := (unhide P0).at 0 _ rfl
  have l1P0 := (unhide P0).at 1 _ rfl
  have ltP0 : w.heap.size < w21.heap.size := by omega
  have l0YW := (unhide YW).at 0 _ rfl
  have l1YW := (unhide YW).at 1 _ rfl
  have l2YW := (unhide YW).at 2 _ rfl
  have ltYW : w5.heap.size < w21.heap.size := by omega
  have l0X0 := (unhide X0).at 0 _ rfl
  have l1X0 := (unhide X0).at 1 _ rfl
  have ltX0 : w7.heap.size < w21.heap.size := by omega
  have l0YG := (unhide YG).at 0 _ rfl
  have l1YG := (unhide YG).at 1 _ rfl
  have l2YG := (unhide YG).at 2 _ rfl
  have ltYG : w10.heap.size < w21.heap.size := by omega
  simp only [List.getElem_toArray, List.getElem_cons_zero, List.getElem_cons_succ] at l0P0 l1P0 l0YW l1YW l2YW l0X0 l1X0 l0YG l1YG l2YG
  go_wp2_with fail
  clear l0P0 l1P0 ltP0 l0YW l1YW l2YW ltYW l0X0 l1X0 ltX0 l0YG l1YG l2YG ltYG
  refine (to_Int64S _ x2 w21 (unhide HA2).reads (unhide HN2)).mono ?_
  rintro e w22 ⟨vf2, rfl, O, hb⟩
  replace HA0 := hide ((unhide HA0).later hb)
  replace HA2 := hide ((unhide HA2).later hb)
  replace P0 := hide ((unhide P0).keep hb)
  replace HW := hide ((unhide HW).later hb)
  replace YW := hide ((unhide YW).keep hb)
  replace X0 := hide ((unhide X0).keep hb)
  replace YG := hide ((unhide YG).keep hb)
  replace HG := hide ((unhide HG).later hb)
  replace Hf0 := hide ((unhide Hf0).later hb)
  have Zw22 : w21.heap.size ≤ w22.heap.size := hb.size
  replace HB := hide ((unhide HB).trans (hb.mono (by omega)))
  clear hb
  obtain ⟨aof2, cpf2, rfl⟩ := open_sl O.reads
  have Hf2 := hide O
  clear O
  have l0P0 := (unhide P0).at 0 _ rfl
  have l1P0 := (unhide P0).at 1 _ rfl
  have ltP0 : w.heap.size < w22.heap.size := by omega
  have l0YW := (unhide YW).at 0 _ rfl
  have l1YW := (unhide YW).at 1 _ rfl
  have l2YW := (unhide YW).at 2 _ rfl
  have ltYW : w5.heap.size < w22.heap.size := by omega
  have l0X0 := (unhide X0).at 0 _ rfl
  have l1X0 := (unhide X0).at 1 _ rfl
  have ltX0 : w7.heap.size < w22.heap.size := by omega
  have l0YG := (unhide YG).at 0 _ rfl
  have l1YG := (unhide YG).at 1 _ rfl
  have l2YG := (unhide YG).at 2 _ rfl
  have ltYG : w10.heap.size < w22.heap.size := by omega
  simp only [List.getElem_toArray, List.getElem_cons_zero, List.getElem_cons_succ] at l0P0 l1P0 l0YW l1YW l2YW l0X0 l1X0 l0YG l1YG l2YG
  go_wp2_with fail
  clear l0P0 l1P0 ltP0 l0YW l1YW l2YW ltYW l0X0 l1X0 ltX0 l0YG l1YG l2YG ltYG
  refine (unhide HI w22 _ _ (unhide Hf0).reads (unhide Hf2).reads).mono ?_
  rintro e w23 ⟨cs, rfl, O, hb⟩
  replace HA0 := hide ((unhide HA0).later hb)
  replace HA2 := hide ((unhide HA2).later hb)
  replace P0 := hide ((unhide P0).keep hb)
  replace HW := hide ((unhide HW).later hb)
  replace YW := hide ((unhide YW).keep hb)
  replace X0 := hide ((unhide X0).keep hb)
  replace YG := hide ((unhide YG).keep hb)
  replace HG := hide ((unhide HG).later hb)
  replace Hf0 := hide ((unhide Hf0).later hb)
  replace Hf2 := hide ((unhide Hf2).later hb)
  have Zw23 : w22.heap.size ≤ w23.heap.size := hb.size
  replace HB := hide ((unhide HB).trans (hb.mono (by omega)))
  clear hb
  obtain ⟨a1K, d1K, a2K, d2K, rfl, -⟩ := open_IvfResult O.reads
  have HK := hide O
  clear O
  have nb : Below w23.heap.size w23 (w23.alloc (.cells #[.int .i64 y.code, .slice a1K y.ivf.centers.length d1K, .slice a2K y.ivf.lists.length d2K] 33)) := (Below.refl _ _).alloc (Nat.le_refl _) _
  have YK : Hid (Box w23.heap.size #[.int .i64 y.code, .slice a1K y.ivf.centers.length d1K, .slice a2K y.ivf.lists.length d2K] 33 (w23.alloc (.cells #[.int .i64 y.code, .slice a1K y.ivf.centers.length d1K, .slice a2K y.ivf.lists.length d2K] 33)) w23.heap.size) := newBox (Nat.le_refl _)
  clear Hf0
  clear Hf2
  have l0P0 := (unhide P0).at 0 _ rfl
  have l1P0 := (unhide P0).at 1 _ rfl
  have ltP0 : w.heap.size < w23.heap.size := by omega
  have l0YW := (unhide YW).at 0 _ rfl
  have l1YW := (unhide YW).at 1 _ rfl
  have l2YW := (unhide YW).at 2 _ rfl
  have ltYW : w5.heap.size < w23.heap.size := by omega
  have l0X0 := (unhide X0).at 0 _ rfl
  have l1X0 := (unhide X0).at 1 _ rfl
  have ltX0 : w7.heap.size < w23.heap.size := by omega
  have l0YG := (unhide YG).at 0 _ rfl
  have l1YG := (unhide YG).at 1 _ rfl
  have l2YG := (unhide YG).at 2 _ rfl
  have ltYG : w10.heap.size < w23.heap.size := by omega
  simp only [List.getElem_toArray, List.getElem_cons_zero, List.getElem_cons_succ] at l0P0 l1P0 l0YW l1YW l2YW l0X0 l1X0 l0YG l1YG l2YG
  go_wp2_with fail
  clear l0P0 l1P0 ltP0 l0YW l1YW l2YW ltYW l0X0 l1X0 ltX0 l0YG l1YG l2YG ltYG
  generalize haw24 : w23.alloc (.cells #[.int .i64 y.code, .slice a1K y.ivf.centers.length d1K, .slice a2K y.ivf.lists.length d2K] 33) = w24 at *
  have Gw24 : w23.heap.size < w24.heap.size := by rw [← haw24]; simp
  clear haw24
  replace HA0 := hide ((unhide HA0).later nb)
  replace HA2 := hide ((unhide HA2).later nb)
  replace P0 := hide ((unhide P0).keep nb)
  replace HW := hide ((unhide HW).later nb)
  replace YW := hide ((unhide YW).keep nb)
  replace X0 := hide ((unhide X0).keep nb)
  replace YG := hide ((unhide YG).keep nb)
  replace HG := hide ((unhide HG).later nb)
  replace HK := hide ((unhide HK).later nb)
  have Zw24 : w23.heap.size ≤ w24.heap.size := nb.size
  replace HB := hide ((unhide HB).trans (nb.mono (by omega)))
  clear nb
  refine (eq_IvfResult _ _ y w24 (unhide HK).reads (unhide HW).reads).mono ?_
  rintro e w25 ⟨rfl, hb⟩
  replace HA0 := hide ((unhide HA0).later hb)
  replace HA2 := hide ((unhide HA2).later hb)
  replace P0 := hide ((unhide P0).keep hb)
  replace HW := hide ((unhide HW).later hb)
  replace YW := hide ((unhide YW).keep hb)
  replace X0 := hide ((unhide X0).keep hb)
  replace YG := hide ((unhide YG).keep hb)
  replace HG := hide ((unhide HG).later hb)
  replace HK := hide ((unhide HK).later hb)
  replace YK := hide ((unhide YK).keep hb)
  have Zw25 : w24.heap.size ≤ w25.heap.size := hb.size
  replace HB := hide ((unhide HB).trans (hb.mono (by omega)))
  clear hb
  clear HK
  clear YK
  have l0P0 := (unhide P0).at 0 _ rfl
  have l1P0 := (unhide P0).at 1 _ rfl
  have ltP0 : w.heap.size < w25.heap.size := by omega
  have l0YW := (unhide YW).at 0 _ rfl
  have l1YW := (unhide YW).at 1 _ rfl
  have l2YW := (unhide YW).at 2 _ rfl
  have ltYW : w5.heap.size < w25.heap.size := by omega
  have l0X0 := (unhide X0).at 0 _ rfl
  have l1X0 := (unhide X0).at 1 _ rfl
  have ltX0 : w7.heap.size < w25.heap.size := by omega
  have l0YG := (unhide YG).at 0 _ rfl
  have l1YG := (unhide YG).at 1 _ rfl
  have l2YG := (unhide YG).at 2 _ rfl
  have ltYG : w10.heap.size < w25.heap.size := by omega
  simp only [List.getElem_toArray, List.getElem_cons_zero, List.getElem_cons_succ] at l0P0 l1P0 l0YW l1YW l2YW l0X0 l1X0 l0YG l1YG l2YG
  go_wp2_with fail
  clear l0P0 l1P0 ltP0 l0YW l1YW l2YW ltYW l0X0 l1X0 ltX0 l0YG l1YG l2YG ltYG
  refine (held_IvfResult _ y 1 w25 (unhide HG).reads (by omega) (by have := unhide HC; omega)).mono ?_
  rintro e w26 ⟨rfl, hb⟩
  replace HA0 := hide ((unhide HA0).later hb)
  replace HA2 := hide ((unhide HA2).later hb)
  replace P0 := hide ((unhide P0).keep hb)
  replace HW := hide ((unhide HW).later hb)
  replace YW := hide ((unhide YW).keep hb)
  replace X0 := hide ((unhide X0).keep hb)
  replace YG := hide ((unhide YG).keep hb)
  replace HG := hide ((unhide HG).later hb)
  have Zw26 : w25.heap.size ≤ w26.heap.size := hb.size
  replace HB := hide ((unhide HB).trans (hb.mono (by omega)))
  clear hb
  have l0P0 := (unhide P0).at 0 _ rfl
  have l1P0 := (unhide P0).at 1 _ rfl
  have ltP0 : w.heap.size < w26.heap.size := by omega
  have l0YW := (unhide YW).at 0 _ rfl
  have l1YW := (unhide YW).at 1 _ rfl
  have l2YW := (unhide YW).at 2 _ rfl
  have ltYW : w5.heap.size < w26.heap.size := by omega
  have l0X0 := (unhide X0).at 0 _ rfl
  have l1X0 := (unhide X0).at 1 _ rfl
  have ltX0 : w7.heap.size < w26.heap.size := by omega
  have l0YG := (unhide YG).at 0 _ rfl
  have l1YG := (unhide YG).at 1 _ rfl
  have l2YG := (unhide YG).at 2 _ rfl
  have ltYG : w10.heap.size < w26.heap.size := by omega
  simp only [List.getElem_toArray, List.getElem_cons_zero, List.getElem_cons_succ] at l0P0 l1P0 l0YW l1YW l2YW l0X0 l1X0 l0YG l1YG l2YG
  go_wp2_with fail
  clear l0P0 l1P0 ltP0 l0YW l1YW l2YW ltYW l0X0 l1X0 ltX0 l0YG l1YG l2YG ltYG
  go_ret
  exact ⟨rfl, unhide HB⟩


/- lawmany -/
set_option maxHeartbeats 400000 in
theorem lawmany_AddIvf_2 (u0 : Value) (u1 : Value) (ao2 : Option Addr) (n2 cp2 : Nat) (w : World) (hm : 1048576 < n2) :
    Calls Tryz.prog 3 #[u0, u1, .slice ao2 n2 cp2] w fun e w' => e = .returned (.bool true) ∧ Below w.heap.size w w' := by
  go_enter Tryz.func3, Tryz.ntmps3
  go_wp2
  all_goals go_ret
  all_goals exact ⟨rfl, by first | exact Below.refl _ _ | exact (Below.refl _ _).alloc (Nat.le_refl _) _⟩

set_option maxRecDepth 10000 in
set_option maxHeartbeats 1000000 in
theorem lawover_AddIvf (u0 : List Value) (x0 : DIvf) (x1 : Int) (v2 : Value) (x2 : List Int) (w : World) (A0 : Lay.tIvf.Reads w u0 x0) (A2 : (Lay.sl Lay.int).Reads w [v2] x2) (N2 : (Lay.sl Lay.int).sz x2 ≤ 1048576) (NS : 1048576 < Lay.tIvf.sz x0) :
    Calls Tryz.prog 3 #[.agg u0.toArray, .int .i64 x1, v2] w fun e w' => e = .returned (.bool true) ∧ Below w.heap.size w w' := by
  obtain ⟨a0p0, d0p0, a1p0, d1p0, rfl, -, -⟩ := open_Ivf A0
  obtain ⟨ao2, cp2, rfl⟩ := open_sl A2
  have HA0 := hide A0.liesIn
  clear A0
  clear A2
  have L2 : x2.length ≤ 1048576 := by have := N2; rw [sz_ints] at this; exact this
  clear N2
  have HB := hide (Below.refl w.heap.size w)
  go_enter Tryz.func3, Tryz.ntmps3
  go_wp2_with fail
  have nb : Below w.heap.size w (w.alloc (.cells #[.slice a0p0 x0.centers.length d0p0, .slice a1p0 x0.lists.length d1p0] 25)) := (Below.refl w.heap.size w).alloc (Nat.le_refl _) _
  have P0 : Hid (Box w.heap.size #[.slice a0p0 x0.centers.length d0p0, .slice a1p0 x0.lists.length d1p0] 25 (w.alloc (.cells #[.slice a0p0 x0.centers.length d0p0, .slice a1p0 x0.lists.length d1p0] 25)) (w.heap.size)) := newBoxAt (by omega) (by simp)
  generalize haw1 : (w.alloc (.cells #[.slice a0p0 x0.centers.length d0p0, .slice a1p0 x0.lists.length d1p0] 25)) = w1 at *
  have Gw1 : w.heap.size + 1 ≤ w1.heap.size := by rw [← haw1]; simp
  clear haw1
  replace HA0 := hide ((unhide HA0).later nb)
  have Zw1 : w.heap.size ≤ w1.heap.size := nb.size
  replace HB := hide ((unhide HB).trans (nb.mono (by omega)))
  clear nb
  refine (sz_Ivf _ x0 (1048576) w1 (unhide HA0).reads (by omega)).mono ?_
  rintro e w2 ⟨rfl, hb⟩
  replace HA0 := hide ((unhide HA0).later hb)
  replace P0 := hide ((unhide P0).keep hb)
  have Zw2 : w1.heap.size ≤ w2.heap.size := hb.size
  replace HB := hide ((unhide HB).trans (hb.mono (by omega)))
  clear hb
  rw [szR_many (by omega)]
  go_wp2_with fail
  go_ret
  exact ⟨rfl, unhide HB⟩

end Go.Proofs.YtfgadegpdknocaaGreat

namespace Go.Proofs.YtfgadegpdknocaaGreat
open Go.RowKit

structure DCentersResult where
  code : Int
  centers : List DCenter

def Lay.tCentersResult : Lay DCentersResult := Lay.via (Lay.pair Lay.int (Lay.sl Lay.tCenter)) (fun x => (x.code, x.centers)) (fun p => ⟨p.1, p.2⟩)

theorem lies_CentersResult {w : World} {cs : List Value} {x : DCentersResult} {bl : List Nat} : Lay.tCentersResult.lies w cs x bl ↔ ∃ (a1 : Option Addr) (d1 : Nat) (b1 : List Nat), cs = [.int .i64 x.code, .slice a1 x.centers.length d1] ∧ bl = b1 ∧ (Lit.int .i64 x.code).wf = true ∧ (Lay.sl Lay.tCenter).lies w [.slice a1 x.centers.length d1] x.centers b1 := by
  constructor
  · intro h
    obtain ⟨c0_, r0_, e0_, s0_, rfl, rfl, h0, h1⟩ := h
    obtain ⟨rfl, w0, rfl⟩ := h0
    have k1 := h1
    obtain ⟨a1, d1, rfl, -⟩ := k1
    exact ⟨a1, d1, s0_, by simp, by simp, w0, h1⟩
  · rintro ⟨a1, d1, b1, rfl, hbl, w0, l1⟩
    rw [hbl]
    exact ⟨[.int .i64 x.code], [.slice a1 x.centers.length d1], [], b1, rfl, by simp, ⟨rfl, w0, rfl⟩, l1⟩

theorem open_CentersResult {w : World} {cs : List Value} {x : DCentersResult} (h : Lay.tCentersResult.Reads w cs x) : ∃ (a1 : Option Addr) (d1 : Nat), cs = [.int .i64 x.code, .slice a1 x.centers.length d1] ∧ (Lay.sl Lay.tCenter).Reads w [.slice a1 x.centers.length d1] x.centers := by
  obtain ⟨bl, h⟩ := h
  obtain ⟨a1, d1, b1, rfl, -, w0, l1⟩ := lies_CentersResult.1 h
  exact ⟨a1, d1, rfl, ⟨_, l1⟩⟩

end Go.Proofs.YtfgadegpdknocaaGreat

namespace Go.Proofs.YtfgadegpdknocaaGreat
open Go.RowKit

set_option maxHeartbeats 400000 in
theorem implFault_len (ao : Option Addr) (n cap : Nat) (w : World) (h : n ≠ 3) :
    Calls Tryz.prog 76 #[.slice ao n cap] w fun e w' => e = .returned (.int .i64 1) ∧ w' = w := by
  have h3 : ((n : Int) != 3) = true := by rw [bne_iff_ne]; omega
  go_enter Tryz.func76, Tryz.ntmps76
  go_wp2
  go_ret
  exact ⟨rfl, rfl⟩

set_option maxHeartbeats 400000 in
theorem implFault_three (b off cap : Nat) (zs : List Int) (w : World) (h : zs.length = 3) (hc : ∀ j, j < 3 → w.cell? ⟨b, off + j, none⟩ = some (.int .i64 (zs.getD j 0))) :
    Calls Tryz.prog 76 #[.slice (some ⟨b, off, none⟩) 3 cap] w fun e w' => e = .returned (.int .i64 (vecFault zs)) ∧ w' = w := by
  go_enter Tryz.func76, Tryz.ntmps76
  go_wp2
  go_loop [10] (fun i => ∃ k : Nat, k ≤ 3 ∧ i = .int .i64 k ∧ ∀ j, j < k → partB (zs.getD j 0) = true) (fun i => 3 - (intOf i).toNat)
  case atStart => exact ⟨0, Nat.zero_le _, rfl, fun j hj => by omega⟩
  case round =>
    obtain ⟨k, hk, rfl, hg⟩ := hrel
    have HG : Hid (∀ j, j < k → partB (zs.getD j 0) = true) := hg
    have HL : Hid (zs.length = 3) := h
    clear hg h
    by_cases hlt : k < 3
    · have hcx : w.cell? ⟨b, off + k, none⟩ = some (.int .i64 (zs.getD k 0)) := hc k hlt
      obtain ⟨z, hz⟩ : ∃ z, z = zs.getD k 0 := ⟨_, rfl⟩
      rw [← hz] at hcx
      have HZ : Hid (z = zs.getD k 0) := hz
      clear hz hc
      cases hp : partB z with
      | true =>
        have hb := partB_true hp
        have HP : Hid (partB z = true) := hp
        clear hp
        obtain ⟨hb1, hb2⟩ := hb
        go_wp2
        go_round
        case rel =>
          refine ⟨k + 1, by omega, by go_num, fun j hj => ?_⟩
          by_cases hjk : j < k
          · exact HG.out j hjk
          · rw [show j = k by omega, ← HZ.out]; exact HP.out
        case measure => simp [intOf]; omega
      | false =>
        have HV : Hid (vecFault zs = 3) := vecFault_bad HL.out k hlt (by rw [← HZ.out]; exact hp)
        have hb := partB_false hp
        clear hp
        rcases hb with hb | hb
        · go_wp2
          go_ret
          exact ⟨by rw [HV.out]; rfl, rfl⟩
        · have hb1 : -1000 ≤ z := by omega
          have hd : decide (z ≤ 1000) = false := by simp; omega
          go_wp2
          go_ret
          exact ⟨by rw [HV.out]; rfl, rfl⟩
    · have HV : Hid (vecFault zs = 0) := vecFault_ok HL.out (fun j hj => HG.out j (by omega))
      go_wp2
      go_ret
      exact ⟨by rw [HV.out]; rfl, rfl⟩

set_option maxHeartbeats 400000 in
theorem modelFault_len (ao : Option Addr) (n cap : Nat) (w : World) (h : n ≠ 3) :
    Calls Tryz.prog 38 #[.slice ao n cap] w fun e w' => e = .returned (.int .i64 1) ∧ w' = w := by
  have h3 : ((n : Int) != 3) = true := by rw [bne_iff_ne]; omega
  go_enter Tryz.func38, Tryz.ntmps38
  go_wp2
  go_ret
  exact ⟨rfl, rfl⟩

set_option maxHeartbeats 400000 in
theorem modelFault_three (b off cap : Nat) (zs : List Int) (w : World) (h : zs.length = 3) (hc : ∀ j, j < 3 → w.cell? ⟨b, off + j, none⟩ = some (.int .i64 (zs.getD j 0))) :
    Calls Tryz.prog 38 #[.slice (some ⟨b, off, none⟩) 3 cap] w fun e w' => e = .returned (.int .i64 (vecFault zs)) ∧ w' = w := by
  go_enter Tryz.func38, Tryz.ntmps38
  go_wp2
  go_loop [3] (fun i => ∃ k : Nat, k ≤ 3 ∧ i = .int .i64 k ∧ ∀ j, j < k → partB (zs.getD j 0) = true) (fun i => 3 - (intOf i).toNat)
  case atStart => exact ⟨0, Nat.zero_le _, rfl, fun j hj => by omega⟩
  case round =>
    obtain ⟨k, hk, rfl, hg⟩ := hrel
    have HG : Hid (∀ j, j < k → partB (zs.getD j 0) = true) := hg
    have HL : Hid (zs.length = 3) := h
    clear hg h
    by_cases hlt : k < 3
    · have hcx : w.cell? ⟨b, off + k, none⟩ = some (.int .i64 (zs.getD k 0)) := hc k hlt
      obtain ⟨z, hz⟩ : ∃ z, z = zs.getD k 0 := ⟨_, rfl⟩
      rw [← hz] at hcx
      have HZ : Hid (z = zs.getD k 0) := hz
      clear hz hc
      cases hp : partB z with
      | true =>
        have hb := partB_true hp
        have HP : Hid (partB z = true) := hp
        clear hp
        obtain ⟨hb1, hb2⟩ := hb
        go_wp2
        go_round
        case rel =>
          refine ⟨k + 1, by omega, by go_num, fun j hj => ?_⟩
          by_cases hjk : j < k
          · exact HG.out j hjk
          · rw [show j = k by omega, ← HZ.out]; exact HP.out
        case measure => simp [intOf]; omega
      | false =>
        have HV : Hid (vecFault zs = 3) := vecFault_bad HL.out k hlt (by rw [← HZ.out]; exact hp)
        have hb := partB_false hp
        clear hp
        rcases hb with hb | hb
        · go_wp2
          go_ret
          exact ⟨by rw [HV.out]; rfl, rfl⟩
        · have hb1 : -1000 ≤ z := by omega
          have hd : decide (z ≤ 1000) = false := by simp; omega
          go_wp2
          go_ret
          exact ⟨by rw [HV.out]; rfl, rfl⟩
    · have HV : Hid (vecFault zs = 0) := vecFault_ok HL.out (fun j hj => HG.out j (by omega))
      go_wp2
      go_ret
      exact ⟨by rw [HV.out]; rfl, rfl⟩


/-- VecFault of the program. -/
theorem implFault (v : Value) (zs : List Int) (w : World) (h : IsInts w v zs) :
    Calls Tryz.prog 76 #[v] w fun e w' => e = .returned (.int .i64 (vecFault zs)) ∧ w' = w := by
  obtain ⟨ao, cap, rfl, hwf, hc⟩ := h
  by_cases h3 : zs.length = 3
  · obtain ⟨b, off, rfl, hc1⟩ := hc (by omega)
    rw [h3] at hc1 ⊢
    exact implFault_three b off cap zs w h3 hc1
  · rw [vecFault_len h3]
    exact implFault_len ao zs.length cap w h3

/-- VecFault of the model. -/
theorem modelFault (v : Value) (zs : List Int) (w : World) (h : IsInts w v zs) :
    Calls Tryz.prog 38 #[v] w fun e w' => e = .returned (.int .i64 (vecFault zs)) ∧ w' = w := by
  obtain ⟨ao, cap, rfl, hwf, hc⟩ := h
  by_cases h3 : zs.length = 3
  · obtain ⟨b, off, rfl, hc1⟩ := hc (by omega)
    rw [h3] at hc1 ⊢
    exact modelFault_three b off cap zs w h3 hc1
  · rw [vecFault_len h3]
    exact modelFault_len ao zs.length cap w h3

end Go.Proofs.YtfgadegpdknocaaGreat

namespace Go.Proofs.YtfgadegpdknocaaGreat
open Go.RowKit

theorem bcell {W w1 : World} (hb : Below W.heap.size W w1) : (∀ b o, b < W.heap.size → w1.cell? ⟨b, o, none⟩ = W.cell? ⟨b, o, none⟩) ∧ (∀ b o, b < W.heap.size → w1.frozen? ⟨b, o, none⟩ = W.frozen? ⟨b, o, none⟩) :=
  ⟨fun b o h => hb.cell (p := ⟨b, o, none⟩) h, fun b o h => hb.frozen (p := ⟨b, o, none⟩) h⟩

/-- Two blocks of three cells that were laid ahead of a call are there behind it, and may be written. -/
theorem two_kept {w w1 : World} {T : TypeId} {x0 x1 x2 y0 y1 y2 : Value} (hb : Below ((w.alloc (.cells #[x0, x1, x2] T)).alloc (.cells #[y0, y1, y2] T)).heap.size ((w.alloc (.cells #[x0, x1, x2] T)).alloc (.cells #[y0, y1, y2] T)) w1) :
    (w1.cell? ⟨w.heap.size, 0, none⟩ = some x0 ∧ w1.cell? ⟨w.heap.size, 1, none⟩ = some x1 ∧ w1.cell? ⟨w.heap.size, 2, none⟩ = some x2) ∧
    (w1.cell? ⟨w.heap.size + 1, 0, none⟩ = some y0 ∧ w1.cell? ⟨w.heap.size + 1, 1, none⟩ = some y1 ∧ w1.cell? ⟨w.heap.size + 1, 2, none⟩ = some y2) ∧
    (∀ o, w1.frozen? ⟨w.heap.size, o, none⟩ = false) ∧ (∀ o, w1.frozen? ⟨w.heap.size + 1, o, none⟩ = false) := by
  refine ⟨⟨?_, ?_, ?_⟩, ⟨?_, ?_, ?_⟩, fun o => ?_, fun o => ?_⟩
  all_goals first | rw [hb.cell (by simp [World.size_alloc]; try omega)] | rw [hb.frozen (by simp [World.size_alloc]; try omega)]
  all_goals simp [go_sem]

/-- Three numbers as an array. -/
def arr3 (x y z : Int) : Value := .agg #[.int .i64 x, .int .i64 y, .int .i64 z]

theorem IsInts.three {w : World} {v : Value} {zs : List Int} (h : IsInts w v zs) (h3 : zs.length = 3) :
    ∃ b off cap x y z, zs = [x, y, z] ∧ v = .slice (some ⟨b, off, none⟩) 3 cap ∧ b < w.heap.size ∧ w.cell? ⟨b, off, none⟩ = some (.int .i64 x) ∧ w.cell? ⟨b, off + 1, none⟩ = some (.int .i64 y) ∧ w.cell? ⟨b, off + 2, none⟩ = some (.int .i64 z) := by
  obtain ⟨ao, cap, rfl, hwf, hc⟩ := h
  match zs, h3 with
  | [x, y, z], _ =>
    obtain ⟨b, off, rfl, hc1⟩ := hc (by simp)
    have c0 := hc1 0 (by simp)
    have c1 := hc1 1 (by simp)
    have c2 := hc1 2 (by simp)
    exact ⟨b, off, cap, x, y, z, rfl, rfl, World.block_lt_of_cell? _ _ c0, by simpa using c0, by simpa using c1, by simpa using c2⟩

set_option maxHeartbeats 400000 in
theorem vectorOf_bad (v : Value) (zs : List Int) (w : World) (h : IsInts w v zs) (hf : vecFault zs ≠ 0) :
    Calls Tryz.prog 47 #[v] w fun e w' => e = .returned (.tuple #[arr3 0 0 0, .int .i64 (vecFault zs)]) ∧ Below w.heap.size w w' := by
  go_enter Tryz.func47, Tryz.ntmps47
  go_wp2_with fail
  refine (implFault v zs _ (h.later (((Below.refl _ _).alloc (Nat.le_refl _) _).alloc (by simp) _))).mono ?_
  rintro e w' ⟨rfl, rfl⟩
  have hne : (vecFault zs != 0) = true := by rw [bne_iff_ne]; exact hf
  go_wp2_with fail
  refine bodyPost_ret (v := .tuple #[arr3 0 0 0, .int .i64 (vecFault zs)]) (by simp [results, Tryz.results47, go_sem, arr3]) rfl ⟨rfl, ?_⟩
  exact ((Below.refl _ _).alloc (Nat.le_refl _) _).alloc (by simp) _

set_option maxHeartbeats 1000000 in
theorem vectorOf_three (b off cap : Nat) (x y z : Int) (w : World) (hbl : b < w.heap.size) (c0 : w.cell? ⟨b, off, none⟩ = some (.int .i64 x)) (c1 : w.cell? ⟨b, off + 1, none⟩ = some (.int .i64 y)) (c2 : w.cell? ⟨b, off + 2, none⟩ = some (.int .i64 z))
    (h : IsInts w (.slice (some ⟨b, off, none⟩) 3 cap) [x, y, z]) (hf : vecFault [x, y, z] = 0) :
    Calls Tryz.prog 47 #[.slice (some ⟨b, off, none⟩) 3 cap] w fun e w' => e = .returned (.tuple #[arr3 x y z, .int .i64 0]) ∧ Below w.heap.size w w' := by
  go_enter Tryz.func47, Tryz.ntmps47
  go_wp2_with fail
  refine (implFault _ [x, y, z] _ (h.later (((Below.refl _ _).alloc (Nat.le_refl _) _).alloc (by simp) _))).mono ?_
  rintro e w' ⟨rfl, rfl⟩
  rw [hf]
  clear h hf
  go_wp2_with fail
  refine wp_loop_rounds 4 ?_
  rw [rounds_succ]
  go_wp2
  rw [rounds_succ]
  go_wp2
  rw [rounds_succ]
  go_wp2
  rw [rounds_succ]
  go_wp2
  refine bodyPost_ret (v := .tuple #[arr3 x y z, .int .i64 0]) (by simp [results, Tryz.results47, go_sem, arr3]) rfl ⟨rfl, ?_⟩
  exact ((Below.refl _ _).alloc (Nat.le_refl _) _).alloc (by simp) _

theorem vectorOf_ok (v : Value) (x y z : Int) (w : World) (h : IsInts w v [x, y, z]) (hf : vecFault [x, y, z] = 0) :
    Calls Tryz.prog 47 #[v] w fun e w' => e = .returned (.tuple #[arr3 x y z, .int .i64 0]) ∧ Below w.heap.size w w' := by
  obtain ⟨b, off, cap, x', y', z', he, rfl, hbl, c0, c1, c2⟩ := h.three rfl
  simp only [List.cons.injEq, and_true] at he
  obtain ⟨rfl, rfl, rfl⟩ := he
  exact vectorOf_three b off cap x y z w hbl c0 c1 c2 h hf

end Go.Proofs.YtfgadegpdknocaaGreat

namespace Go.Proofs.YtfgadegpdknocaaGreat
open Go.RowKit

set_option maxHeartbeats 400000 in
theorem pairOf_bad1 (v1 v2 : Value) (zs : List Int) (w : World) (h : IsInts w v1 zs) (hf : vecFault zs ≠ 0) :
    Calls Tryz.prog 79 #[v1, v2] w fun e w' => e = .returned (.tuple #[arr3 0 0 0, arr3 0 0 0, .int .i64 (vecFault zs)]) ∧ Below w.heap.size w w' := by
  have hne : (vecFault zs != 0) = true := by rw [bne_iff_ne]; exact hf
  go_enter Tryz.func79, Tryz.ntmps79
  go_wp2_with fail
  refine (vectorOf_bad v1 zs _ (h.later (((Below.refl _ _).alloc (Nat.le_refl _) _).alloc (by simp) _)) hf).mono ?_
  rintro e w1 ⟨rfl, hb⟩
  obtain ⟨p0, p1, p2, p3⟩ := two_kept hb
  have hz : w.heap.size + 1 < w1.heap.size := by have := hb.size; simp at this; omega
  have hz0 : w.heap.size < w1.heap.size := by omega
  have hB1 : Below w.heap.size w w1 := (((Below.refl _ _).alloc (Nat.le_refl _) _).alloc (by simp) _).trans (hb.mono (by simp; omega))
  have HB := hide hB1
  clear hb hB1
  simp only [arr3]
  go_wp2_with fail
  refine bodyPost_ret (v := .tuple #[arr3 0 0 0, arr3 0 0 0, .int .i64 (vecFault zs)]) (by simp [results, Tryz.results79, go_sem, arr3, p0, p1, hz, hz0]) rfl ⟨rfl, ?_⟩
  exact ((((((((unhide HB).setCell (by simp) _).setCell (by simp) _).setCell (by simp) _).setCell (by simp) _).setCell (by simp) _).setCell (by simp) _).alloc (by simp; omega) _)

set_option maxHeartbeats 400000 in
theorem pairOf_bad2 (v1 v2 : Value) (x y z : Int) (zs : List Int) (w : World) (h : IsInts w v1 [x, y, z]) (h2 : IsInts w v2 zs) (hf1 : vecFault [x, y, z] = 0) (hf : vecFault zs ≠ 0) :
    Calls Tryz.prog 79 #[v1, v2] w fun e w' => e = .returned (.tuple #[arr3 0 0 0, arr3 0 0 0, .int .i64 (vecFault zs)]) ∧ Below w.heap.size w w' := by
  have hne : (vecFault zs != 0) = true := by rw [bne_iff_ne]; exact hf
  go_enter Tryz.func79, Tryz.ntmps79
  go_wp2_with fail
  refine (vectorOf_ok v1 x y z _ (h.later (((Below.refl _ _).alloc (Nat.le_refl _) _).alloc (by simp) _)) hf1).mono ?_
  rintro e w1 ⟨rfl, hb⟩
  obtain ⟨p0, p1, p2, p3⟩ := two_kept hb
  have hz : w.heap.size + 1 < w1.heap.size := by have := hb.size; simp at this; omega
  have hz0 : w.heap.size < w1.heap.size := by omega
  have hB1 : Below w.heap.size w w1 := (((Below.refl _ _).alloc (Nat.le_refl _) _).alloc (by simp) _).trans (hb.mono (by simp; omega))
  have HB := hide hB1
  clear hb hB1 hf1
  simp only [arr3]
  go_wp2_with fail
  refine (vectorOf_bad v2 zs _ ((h2.later (unhide HB)).later ((Below.refl _ _).alloc (Nat.le_refl _) _)) hf).mono ?_
  rintro e w2 ⟨rfl, hb⟩
  obtain ⟨hc, hfz⟩ := bcell hb
  have hz2 : w1.heap.size < w2.heap.size := by have := hb.size; simp at this; omega
  have hz3 : w.heap.size < w2.heap.size := by omega
  have hz4 : w.heap.size + 1 < w2.heap.size := by omega
  have hB2 : Below w.heap.size w w2 := ((unhide HB).alloc (by omega) _).trans (hb.mono (by simp; omega))
  have q0 : ∀ o, w2.frozen? ⟨w.heap.size, o, none⟩ = false := fun o => (hb.frozen (p := ⟨w.heap.size, o, none⟩) (by simp; omega)).trans (by simp [go_sem, p2, hz0])
  have q1 : ∀ o, w2.frozen? ⟨w.heap.size + 1, o, none⟩ = false := fun o => (hb.frozen (p := ⟨w.heap.size + 1, o, none⟩) (by simp; omega)).trans (by simp [go_sem, p3, hz])
  have q2 : ∀ o, w2.cell? ⟨w.heap.size, o, none⟩ = w1.cell? ⟨w.heap.size, o, none⟩ := fun o => (hb.cell (p := ⟨w.heap.size, o, none⟩) (by simp; omega)).trans (by simp [go_sem, hz0])
  have q3 : ∀ o, w2.cell? ⟨w.heap.size + 1, o, none⟩ = w1.cell? ⟨w.heap.size + 1, o, none⟩ := fun o => (hb.cell (p := ⟨w.heap.size + 1, o, none⟩) (by simp; omega)).trans (by simp [go_sem, hz])
  have HB2 := hide hB2
  clear hb hB2 hc hfz
  simp only [arr3]
  go_wp2_with fail
  refine bodyPost_ret (v := .tuple #[arr3 0 0 0, arr3 0 0 0, .int .i64 (vecFault zs)]) (by simp [results, Tryz.results79, go_sem, arr3, p0, p1, q2, q3, hz3, hz4]) rfl ⟨rfl, ?_⟩
  exact ((((((((unhide HB2).setCell (by simp) _).setCell (by simp) _).setCell (by simp) _).setCell (by simp) _).setCell (by simp) _).setCell (by simp) _).alloc (by simp; omega) _)

set_option maxHeartbeats 1000000 in
theorem pairOf_ok (v1 v2 : Value) (x y z a b c : Int) (w : World) (h : IsInts w v1 [x, y, z]) (h2 : IsInts w v2 [a, b, c]) (hf1 : vecFault [x, y, z] = 0) (hf : vecFault [a, b, c] = 0) :
    Calls Tryz.prog 79 #[v1, v2] w fun e w' => e = .returned (.tuple #[arr3 x y z, arr3 a b c, .int .i64 0]) ∧ Below w.heap.size w w' := by
  go_enter Tryz.func79, Tryz.ntmps79
  go_wp2_with fail
  refine (vectorOf_ok v1 x y z _ (h.later (((Below.refl _ _).alloc (Nat.le_refl _) _).alloc (by simp) _)) hf1).mono ?_
  rintro e w1 ⟨rfl, hb⟩
  obtain ⟨p0, p1, p2, p3⟩ := two_kept hb
  have hz : w.heap.size + 1 < w1.heap.size := by have := hb.size; simp at this; omega
  have hz0 : w.heap.size < w1.heap.size := by omega
  have hB1 : Below w.heap.size w w1 := (((Below.refl _ _).alloc (Nat.le_refl _) _).alloc (by simp) _).trans (hb.mono (by simp; omega))
  have HB := hide hB1
  clear hb hB1 hf1
  simp only [arr3]
  go_wp2_with fail
  refine (vectorOf_ok v2 a b c _ ((h2.later (unhide HB)).later ((Below.refl _ _).alloc (Nat.le_refl _) _)) hf).mono ?_
  rintro e w2 ⟨rfl, hb⟩
  have hz2 : w1.heap.size < w2.heap.size := by have := hb.size; simp at this; omega
  have hz3 : w.heap.size < w2.heap.size := by omega
  have hz4 : w.heap.size + 1 < w2.heap.size := by omega
  have hB2 : Below w.heap.size w w2 := ((unhide HB).alloc (by omega) _).trans (hb.mono (by simp; omega))
  have q0 : ∀ o, w2.frozen? ⟨w.heap.size, o, none⟩ = false := fun o => (hb.frozen (p := ⟨w.heap.size, o, none⟩) (by simp; omega)).trans (by simp [go_sem, p2, hz0])
  have q1 : ∀ o, w2.frozen? ⟨w.heap.size + 1, o, none⟩ = false := fun o => (hb.frozen (p := ⟨w.heap.size + 1, o, none⟩) (by simp; omega)).trans (by simp [go_sem, p3, hz])
  have q2 : ∀ o, w2.cell? ⟨w.heap.size, o, none⟩ = w1.cell? ⟨w.heap.size, o, none⟩ := fun o => (hb.cell (p := ⟨w.heap.size, o, none⟩) (by simp; omega)).trans (by simp [go_sem, hz0])
  have q3 : ∀ o, w2.cell? ⟨w.heap.size + 1, o, none⟩ = w1.cell? ⟨w.heap.size + 1, o, none⟩ := fun o => (hb.cell (p := ⟨w.heap.size + 1, o, none⟩) (by simp; omega)).trans (by simp [go_sem, hz])
  have r0 : w2.cell? ⟨w1.heap.size, 0, none⟩ = some (.int .i64 x) := (hb.cell (p := ⟨w1.heap.size, 0, none⟩) (by simp)).trans (by simp [go_sem])
  have r1 : w2.cell? ⟨w1.heap.size, 1, none⟩ = some (.int .i64 y) := (hb.cell (p := ⟨w1.heap.size, 1, none⟩) (by simp)).trans (by simp [go_sem])
  have r2 : w2.cell? ⟨w1.heap.size, 2, none⟩ = some (.int .i64 z) := (hb.cell (p := ⟨w1.heap.size, 2, none⟩) (by simp)).trans (by simp [go_sem])
  have hn0 : ¬ w1.heap.size = w.heap.size := by omega
  have hn1 : ¬ w1.heap.size = w.heap.size + 1 := by omega
  have hn2 : ¬ w2.heap.size = w.heap.size := by omega
  have hn3 : ¬ w2.heap.size = w.heap.size + 1 := by omega
  have HB2 := hide hB2
  clear hb hB2
  simp only [arr3]
  go_wp2_with fail
  go_region
  go_wp2_with fail
  refine bodyPost_ret (v := .tuple #[arr3 x y z, arr3 a b c, .int .i64 0]) (by simp [results, Tryz.results79, go_sem, arr3, p0, p1, q2, q3, hz3, hz4]) rfl ⟨rfl, ?_⟩
  refine Below.drew ?_
  exact ((((((((unhide HB2).setCell (by simp) _).setCell (by simp) _).setCell (by simp) _).setCell (by simp) _).setCell (by simp) _).setCell (by simp) _).alloc (by simp; omega) _)

end Go.Proofs.YtfgadegpdknocaaGreat

namespace Go.Proofs.YtfgadegpdknocaaGreat
open Go.RowKit


theorem sq_bd (x a : Int) (h1 : -1000 ≤ x) (h2 : x ≤ 1000) (h3 : -1000 ≤ a) (h4 : a ≤ 1000) : 0 ≤ (x - a) * (x - a) ∧ (x - a) * (x - a) ≤ 4000000 := by
  have e1 : -2000 ≤ x - a := by omega
  have e2 : x - a ≤ 2000 := by omega
  generalize x - a = d at *
  constructor
  · by_cases h : 0 ≤ d
    · exact Int.mul_nonneg h h
    · exact Int.mul_nonneg_of_nonpos_of_nonpos (by omega) (by omega)
  · by_cases h : 0 ≤ d
    · calc d * d ≤ 2000 * 2000 := Int.mul_le_mul e2 e2 h (by omega)
        _ = 4000000 := rfl
    · have h5 : d * d = (-d) * (-d) := by rw [Int.neg_mul_neg]
      rw [h5]
      calc (-d) * (-d) ≤ 2000 * 2000 := Int.mul_le_mul (by omega) (by omega) (by omega) (by omega)
        _ = 4000000 := rfl

theorem mul_bd (x a : Int) (h1 : -1000 ≤ x) (h2 : x ≤ 1000) (h3 : -1000 ≤ a) (h4 : a ≤ 1000) : -1000000 ≤ x * a ∧ x * a ≤ 1000000 := by
  have k1 : 0 ≤ (x + 1000) * (a + 1000) := Int.mul_nonneg (by omega) (by omega)
  have k2 : 0 ≤ (1000 - x) * (1000 - a) := Int.mul_nonneg (by omega) (by omega)
  have k3 : 0 ≤ (1000 - x) * (a + 1000) := Int.mul_nonneg (by omega) (by omega)
  have k4 : 0 ≤ (x + 1000) * (1000 - a) := Int.mul_nonneg (by omega) (by omega)
  have e1 : (x + 1000) * (a + 1000) = x * a + 1000 * x + 1000 * a + 1000000 := by rw [Int.add_mul, Int.mul_add, Int.mul_add]; omega
  have e2 : (1000 - x) * (1000 - a) = 1000000 - 1000 * a - 1000 * x + x * a := by rw [Int.sub_mul, Int.mul_sub, Int.mul_sub]; omega
  have e3 : (1000 - x) * (a + 1000) = 1000 * a + 1000000 - x * a - 1000 * x := by rw [Int.sub_mul, Int.mul_add, Int.mul_add]; omega
  have e4 : (x + 1000) * (1000 - a) = 1000 * x - x * a + 1000000 - 1000 * a := by rw [Int.add_mul, Int.mul_sub, Int.mul_sub]; omega
  rw [e1] at k1
  rw [e2] at k2
  rw [e3] at k3
  rw [e4] at k4
  omega

/-- ScoreOf, where pairOf tells a code. -/
theorem implScore_code (v1 v2 : Value) (k : Int) (w : World) (hp : Hid (∀ W, Below w.heap.size w W → Calls Tryz.prog 79 #[v1, v2] W fun e w' => e = .returned (.tuple #[arr3 0 0 0, arr3 0 0 0, .int .i64 k]) ∧ Below W.heap.size W w')) (hk : k ≠ 0) :
    Calls Tryz.prog 31 #[v1, v2] w fun e w' => e = .returned (intRes k 0) ∧ Below w.heap.size w w' := by
  have hne : (k != 0) = true := by rw [bne_iff_ne]; exact hk
  go_enter Tryz.func31, Tryz.ntmps31
  go_wp2_with fail
  refine (unhide hp _ ((Below.refl _ _).alloc (Nat.le_refl _) _)).mono ?_
  rintro e w1 ⟨rfl, hb⟩
  have hz : w.heap.size < w1.heap.size := by have := hb.size; simp at this; omega
  have p0 : w1.cell? ⟨w.heap.size, 0, none⟩ = some (.int .i64 0) := (hb.cell (p := ⟨w.heap.size, 0, none⟩) (by simp)).trans (by simp [go_sem])
  have p1 : w1.cell? ⟨w.heap.size, 1, none⟩ = some (.int .i64 0) := (hb.cell (p := ⟨w.heap.size, 1, none⟩) (by simp)).trans (by simp [go_sem])
  have p2 : ∀ o, w1.frozen? ⟨w.heap.size, o, none⟩ = false := fun o => (hb.frozen (p := ⟨w.heap.size, o, none⟩) (by simp)).trans (by simp [go_sem])
  have HB := hide (((Below.refl w.heap.size w).alloc (Nat.le_refl _) _).trans (hb.mono (by simp)))
  clear hb
  simp only [arr3]
  go_wp2_with fail
  refine bodyPost_ret (v := intRes k 0) (by simp [results, Tryz.results31, go_sem, intRes, p0, p1, hz]) rfl ⟨rfl, ?_⟩
  exact (((((unhide HB).setCell (by simp) _).setCell (by simp) _).alloc (by simp; omega) _).alloc (by simp; omega) _)

set_option maxHeartbeats 1000000 in
theorem implScore_ok (v1 v2 : Value) (x y z a b c : Int) (w : World) (h : IsInts w v1 [x, y, z]) (h2 : IsInts w v2 [a, b, c]) (hf1 : vecFault [x, y, z] = 0) (hf : vecFault [a, b, c] = 0) :
    Calls Tryz.prog 31 #[v1, v2] w fun e w' => e = .returned (intRes 0 ((x - a) * (x - a) + (y - b) * (y - b) + (z - c) * (z - c))) ∧ Below w.heap.size w w' := by
  obtain ⟨⟨x1, x2⟩, ⟨y1, y2⟩, ⟨z1, z2⟩⟩ := fault3 hf1
  obtain ⟨⟨a1, a2⟩, ⟨b1, b2⟩, ⟨c1, c2⟩⟩ := fault3 hf
  obtain ⟨m1, m2⟩ := sq_bd x a x1 x2 a1 a2
  obtain ⟨m3, m4⟩ := sq_bd y b y1 y2 b1 b2
  obtain ⟨m5, m6⟩ := sq_bd z c z1 z2 c1 c2
  go_enter Tryz.func31, Tryz.ntmps31
  go_wp2_with fail
  refine (pairOf_ok v1 v2 x y z a b c _ (h.later ((Below.refl _ _).alloc (Nat.le_refl _) _)) (h2.later ((Below.refl _ _).alloc (Nat.le_refl _) _)) hf1 hf).mono ?_
  rintro e w1 ⟨rfl, hb⟩
  have hz : w.heap.size < w1.heap.size := by have := hb.size; simp at this; omega
  have hz1 : w.heap.size < w1.heap.size + 1 := by omega
  have hn0 : ¬ w1.heap.size = w.heap.size := by omega
  have hn1 : ¬ w1.heap.size + 1 = w.heap.size := by omega
  have p0 : w1.cell? ⟨w.heap.size, 0, none⟩ = some (.int .i64 0) := (hb.cell (p := ⟨w.heap.size, 0, none⟩) (by simp)).trans (by simp [go_sem])
  have p1 : w1.cell? ⟨w.heap.size, 1, none⟩ = some (.int .i64 0) := (hb.cell (p := ⟨w.heap.size, 1, none⟩) (by simp)).trans (by simp [go_sem])
  have p2 : ∀ o, w1.frozen? ⟨w.heap.size, o, none⟩ = false := fun o => (hb.frozen (p := ⟨w.heap.size, o, none⟩) (by simp)).trans (by simp [go_sem])
  have HB := hide (((Below.refl w.heap.size w).alloc (Nat.le_refl _) _).trans (hb.mono (by simp)))
  clear hb hf hf1
  simp only [arr3]
  go_wp2_with fail
  refine wp_loop_rounds 4 ?_
  rw [rounds_succ]
  go_wp2
  go_quiet (fail)
  go_wp2
  rw [rounds_succ]
  go_wp2
  go_quiet (fail)
  go_wp2
  rw [rounds_succ]
  go_wp2
  go_quiet (fail)
  go_wp2
  rw [rounds_succ]
  go_wp2
  refine bodyPost_ret (v := intRes 0 ((x - a) * (x - a) + (y - b) * (y - b) + (z - c) * (z - c))) (by simp [results, Tryz.results31, go_sem, intRes, p0, p1, hz, hz1]) rfl ⟨rfl, ?_⟩
  exact (below_drawn (((unhide HB).alloc (by omega) _).alloc (by simp; omega) _) _).setCell (by simp) _ |>.setCell (by simp) _


end Go.Proofs.YtfgadegpdknocaaGreat

namespace Go.Proofs.YtfgadegpdknocaaGreat
open Go.RowKit

set_option maxHeartbeats 1000000 in
theorem modelSum (b0 off cap b2 off2 cap2 : Nat) (x y z a b c : Int) (w : World) (c0 : w.cell? ⟨b0, off, none⟩ = some (.int .i64 x)) (c1 : w.cell? ⟨b0, off + 1, none⟩ = some (.int .i64 y)) (c2 : w.cell? ⟨b0, off + 2, none⟩ = some (.int .i64 z))
    (d0 : w.cell? ⟨b2, off2, none⟩ = some (.int .i64 a)) (d1 : w.cell? ⟨b2, off2 + 1, none⟩ = some (.int .i64 b)) (d2 : w.cell? ⟨b2, off2 + 2, none⟩ = some (.int .i64 c)) (hf1 : vecFault [x, y, z] = 0) (hf : vecFault [a, b, c] = 0) :
    Calls Tryz.prog 104 #[.slice (some ⟨b0, off, none⟩) 3 cap, .slice (some ⟨b2, off2, none⟩) 3 cap2] w fun e w' => e = .returned (.int .i64 ((x - a) * (x - a) + (y - b) * (y - b) + (z - c) * (z - c))) ∧ Below w.heap.size w w' := by
  obtain ⟨⟨x1, x2⟩, ⟨y1, y2⟩, ⟨z1, z2⟩⟩ := fault3 hf1
  obtain ⟨⟨a1, a2⟩, ⟨b1, b3⟩, ⟨c3, c4⟩⟩ := fault3 hf
  obtain ⟨m1, m2⟩ := sq_bd x a x1 x2 a1 a2
  obtain ⟨m3, m4⟩ := sq_bd y b y1 y2 b1 b3
  obtain ⟨m5, m6⟩ := sq_bd z c z1 z2 c3 c4
  clear hf hf1
  go_enter Tryz.func104, Tryz.ntmps104
  go_wp2_with fail
  refine wp_loop_rounds 4 ?_
  rw [rounds_succ]
  go_wp2
  go_quiet (fail)
  go_wp2
  rw [rounds_succ]
  go_wp2
  go_quiet (fail)
  go_wp2
  rw [rounds_succ]
  go_wp2
  go_quiet (fail)
  go_wp2
  rw [rounds_succ]
  go_wp2
  go_ret
  exact ⟨rfl, below_drawn (Below.refl _ _) _⟩
def score3 (zs ys : List Int) : Int := (zs.getD 0 0 - ys.getD 0 0) * (zs.getD 0 0 - ys.getD 0 0) + (zs.getD 1 0 - ys.getD 1 0) * (zs.getD 1 0 - ys.getD 1 0) + (zs.getD 2 0 - ys.getD 2 0) * (zs.getD 2 0 - ys.getD 2 0)

end Go.Proofs.YtfgadegpdknocaaGreat

namespace Go.Proofs.YtfgadegpdknocaaGreat
open Go.RowKit

theorem cscore_bd {q v : List Int} (h1 : vecFault q = 0) (h2 : vecFault v = 0) : 0 ≤ score3 q v ∧ score3 q v ≤ 12000000 := by
  obtain ⟨hl, -⟩ := vecFault_zero h1
  obtain ⟨hl2, -⟩ := vecFault_zero h2
  match q, hl, v, hl2 with
  | [x, y, z], _, [a, b, c], _ =>
    obtain ⟨⟨x1, x2⟩, ⟨y1, y2⟩, ⟨z1, z2⟩⟩ := fault3 h1
    obtain ⟨⟨a1, a2⟩, ⟨b1, b2⟩, ⟨c1, c2⟩⟩ := fault3 h2
    have m1 := sq_bd x a x1 x2 a1 a2
    have m2 := sq_bd y b y1 y2 b1 b2
    have m3 := sq_bd z c z1 z2 c1 c2
    show 0 ≤ (x - a) * (x - a) + (y - b) * (y - b) + (z - c) * (z - c) ∧ (x - a) * (x - a) + (y - b) * (y - b) + (z - c) * (z - c) ≤ 12000000
    omega

end Go.Proofs.YtfgadegpdknocaaGreat

namespace Go.Proofs.YtfgadegpdknocaaGreat

def mean (s n : Int) : Int := (2 * s + n) / (2 * n)
def sumB (n z : Int) : Bool := decide (-1000 * n ≤ z) && decide (z ≤ 1000 * n)
def meanFault (zs : List Int) (n : Int) : Int := if n < 1 ∨ 1000 < n then 3 else if zs.length = 3 then (if zs.all (sumB n) then 0 else 3) else 1
def meanList (zs : List Int) (n : Int) : List Int := if meanFault zs n = 0 then [mean (zs.getD 0 0) n, mean (zs.getD 1 0) n, mean (zs.getD 2 0) n] else []

theorem near_bd (s n : Int) (h1 : 1 ≤ n) (h3 : -1000 * n ≤ s) (h4 : s ≤ 1000 * n) : 0 ≤ (2 * (s + 1000 * n) + n) / (2 * n) ∧ (2 * (s + 1000 * n) + n) / (2 * n) ≤ 2000 := by
  constructor
  · exact Int.ediv_nonneg (by omega) (by omega)
  · have : (2 * (s + 1000 * n) + n) / (2 * n) < 2001 := by
      rw [Int.ediv_lt_iff_lt_mul (by omega)]
      omega
    omega

theorem near_eq (s n : Int) (h1 : 1 ≤ n) : (2 * (s + 1000 * n) + n) / (2 * n) - 1000 = mean s n := by
  unfold mean
  have e : 2 * (s + 1000 * n) + n = (2 * s + n) + 1000 * (2 * n) := by omega
  rw [e, Int.add_mul_ediv_right _ _ (by omega)]
  omega

theorem mean_bd (s n : Int) (h1 : 1 ≤ n) (h3 : -1000 * n ≤ s) (h4 : s ≤ 1000 * n) : -1000 ≤ mean s n ∧ mean s n ≤ 1000 := by
  have := near_bd s n h1 h3 h4
  have := near_eq s n h1
  omega

theorem round_pos (a n : Int) : (2 * a + n) / (2 * n) = mean a n := rfl

theorem tdiv_neg_bd (x m : Int) (hm : 1 ≤ m) (hx : x < 0) : x ≤ x.tdiv m ∧ x.tdiv m ≤ 0 := by
  obtain ⟨y, rfl⟩ : ∃ y, x = -y := ⟨-x, by omega⟩
  rw [Int.neg_tdiv, Int.tdiv_eq_ediv_of_nonneg (by omega)]
  have h1 := Int.ediv_nonneg (show 0 ≤ y by omega) (show 0 ≤ m by omega)
  have h2 := Int.ediv_le_self (b := m) (show 0 ≤ y by omega)
  omega

/-- Below 0 Go's quotient is one too great where something is left. -/
theorem round_neg (x m : Int) (hm : 1 ≤ m) (hx : x < 0) : (x.tmod m < 0 → x.tdiv m - 1 = x / m) ∧ (¬ x.tmod m < 0 → x.tdiv m = x / m) := by
  have h1 := Int.tdiv_mul_add_tmod x m
  have h2 := Int.ediv_mul_add_emod x m
  have h3 := Int.emod_nonneg x (show m ≠ 0 by omega)
  have h4 := Int.emod_lt_of_pos x (show 0 < m by omega)
  have h5 : x.tmod m ≤ 0 := by
    obtain ⟨y, rfl⟩ : ∃ y, x = -y := ⟨-x, by omega⟩
    rw [Int.neg_tmod, Int.tmod_eq_emod_of_nonneg (by omega)]
    have := Int.emod_nonneg y (show m ≠ 0 by omega)
    omega
  have h6 : -m < x.tmod m := by
    obtain ⟨y, rfl⟩ : ∃ y, x = -y := ⟨-x, by omega⟩
    rw [Int.neg_tmod, Int.tmod_eq_emod_of_nonneg (by omega)]
    have := Int.emod_lt_of_pos y (show 0 < m by omega)
    omega
  generalize x.tmod m = r at *
  generalize x.tdiv m = q at *
  generalize x % m = r' at *
  generalize x / m = q' at *
  have e : (q' - q) * m = r - r' := by rw [Int.sub_mul]; omega
  constructor
  · intro hr
    have a1 : (q' - q) * m < 0 := by omega
    have a2 : (q' - q) * m > -2 * m := by omega
    have b1 : q' - q < 0 := by
      rcases Int.lt_or_le (q' - q) 0 with h | h
      · exact h
      · have := Int.mul_nonneg h (show 0 ≤ m by omega); omega
    have b2 : q' - q > -2 := by
      rcases Int.lt_or_le (-2) (q' - q) with h | h
      · exact h
      · have := Int.mul_le_mul_of_nonneg_right h (show 0 ≤ m by omega); omega
    omega
  · intro hr
    have hr0 : r = 0 := by omega
    subst hr0
    have a1 : (q' - q) * m ≤ 0 := by omega
    have a2 : (q' - q) * m > -m := by omega
    have b1 : q' - q ≤ 0 := by
      rcases Int.lt_or_le 0 (q' - q) with h | h
      · have := Int.mul_le_mul_of_nonneg_right (show 1 ≤ q' - q by omega) (show 0 ≤ m by omega); omega
      · exact h
    have b2 : q' - q > -1 := by
      rcases Int.lt_or_le (-1) (q' - q) with h | h
      · exact h
      · have := Int.mul_le_mul_of_nonneg_right h (show 0 ≤ m by omega); omega
    omega

theorem sumB_true {n z : Int} (h : sumB n z = true) : -1000 * n ≤ z ∧ z ≤ 1000 * n := by simpa [sumB] using h
theorem sumB_false {n z : Int} (h : sumB n z = false) : z < -1000 * n ∨ 1000 * n < z := by
  simp [sumB] at h
  omega
theorem meanFault_n {zs : List Int} {n : Int} (h : n < 1 ∨ 1000 < n) : meanFault zs n = 3 := by simp [meanFault, h]
theorem meanFault_len {zs : List Int} {n : Int} (h1 : 1 ≤ n) (h2 : n ≤ 1000) (h : zs.length ≠ 3) : meanFault zs n = 1 := by
  have : ¬ (n < 1 ∨ 1000 < n) := by omega
  simp [meanFault, h, this]
theorem meanFault_bad {zs : List Int} {n : Int} (h : zs.length = 3) (k : Nat) (hk : k < 3) (hb : sumB n (zs.getD k 0) = false) : meanFault zs n = 3 := by
  have : zs.all (sumB n) = false := by
    rw [List.all_eq_false]
    exact ⟨zs.getD k 0, by simp [List.getD, show k < zs.length by omega], by rw [hb]; simp⟩
  simp [meanFault, h, this]
theorem meanFault_ok {zs : List Int} {n : Int} (h1 : 1 ≤ n) (h2 : n ≤ 1000) (h : zs.length = 3) (hg : ∀ j, j < 3 → sumB n (zs.getD j 0) = true) : meanFault zs n = 0 := by
  have h0 : ¬ (n < 1 ∨ 1000 < n) := by omega
  have : zs.all (sumB n) = true := by
    rw [List.all_eq_true]
    intro x hx
    obtain ⟨j, hj, rfl⟩ := List.mem_iff_getElem.1 hx
    have := hg j (by omega)
    simpa [List.getD, hj] using this
  simp [meanFault, h, this, h0]
theorem meanFault_zero {zs : List Int} {n : Int} (h : meanFault zs n = 0) : (1 ≤ n ∧ n ≤ 1000) ∧ ∃ x y z, zs = [x, y, z] ∧ (-1000 * n ≤ x ∧ x ≤ 1000 * n) ∧ (-1000 * n ≤ y ∧ y ≤ 1000 * n) ∧ (-1000 * n ≤ z ∧ z ≤ 1000 * n) := by
  unfold meanFault at h
  split at h
  · simp at h
  · next hn =>
    split at h
    · next hl =>
      split at h
      · next ha =>
        match zs, hl, ha with
        | [x, y, z], _, ha =>
          simp only [List.all_cons, List.all_nil, Bool.and_true, Bool.and_eq_true] at ha
          exact ⟨by omega, x, y, z, rfl, sumB_true ha.1, sumB_true ha.2.1, sumB_true ha.2.2⟩
      · simp at h
    · simp at h

end Go.Proofs.YtfgadegpdknocaaGreat

namespace Go.Proofs.YtfgadegpdknocaaGreat
open Go.RowKit

def cenFrom : List DCenter → Int
  | [] => 0
  | c :: cs => if vecFault c.vec = 0 then cenFrom cs else vecFault c.vec
def centersFault (cs : List DCenter) : Int := if cs.length < 1 ∨ 6 < cs.length then 2 else cenFrom cs
theorem cenFrom_step (cs : List DCenter) (k : Nat) (h : k < cs.length) : cenFrom (cs.drop k) = if vecFault cs[k].vec = 0 then cenFrom (cs.drop (k + 1)) else vecFault cs[k].vec := by
  rw [List.drop_eq_getElem_cons h]
  rfl
theorem cenFrom_zero {cs : List DCenter} (h : cenFrom cs = 0) : ∀ c ∈ cs, vecFault c.vec = 0 := by
  induction cs with
  | nil => simp
  | cons c cs ih =>
    rw [cenFrom] at h
    by_cases h1 : vecFault c.vec = 0
    · rw [if_pos h1] at h
      intro d hd
      rcases List.mem_cons.1 hd with rfl | hd
      · exact h1
      · exact ih h d hd
    · rw [if_neg h1] at h; exact absurd h h1
theorem cenFrom_of {cs : List DCenter} (h : ∀ c ∈ cs, vecFault c.vec = 0) : cenFrom cs = 0 := by
  induction cs with
  | nil => rfl
  | cons c cs ih => rw [cenFrom, if_pos (h c (by simp))]; exact ih fun d hd => h d (List.mem_cons_of_mem _ hd)
theorem centersFault_zero {cs : List DCenter} (h : centersFault cs = 0) : (1 ≤ cs.length ∧ cs.length ≤ 6) ∧ ∀ c ∈ cs, vecFault c.vec = 0 := by
  unfold centersFault at h
  by_cases hn : cs.length < 1 ∨ 6 < cs.length
  · rw [if_pos hn] at h; cases h
  · rw [if_neg hn] at h
    exact ⟨by omega, cenFrom_zero h⟩
theorem centersFault_of {cs : List DCenter} (h1 : 1 ≤ cs.length ∧ cs.length ≤ 6) (h2 : ∀ c ∈ cs, vecFault c.vec = 0) : centersFault cs = 0 := by
  unfold centersFault
  rw [if_neg (by omega)]
  exact cenFrom_of h2
theorem vecFault_bd (q : List Int) : 0 ≤ vecFault q ∧ vecFault q ≤ 3 := by unfold vecFault; split <;> (try split) <;> decide
theorem centersFault_bd (cs : List DCenter) : 0 ≤ centersFault cs ∧ centersFault cs ≤ 3 := by
  unfold centersFault
  split
  · decide
  · induction cs with
    | nil => decide
    | cons c cs ih =>
      rw [cenFrom]
      split
      · by_cases h : cs.length < 1 ∨ 6 < cs.length
        · have hc : cs = [] ∨ 6 < cs.length := by
            rcases h with h | h
            · exact Or.inl (List.eq_nil_of_length_eq_zero (by omega))
            · exact Or.inr h
          rcases hc with rfl | hc
          · decide
          · rename_i h1 _
            simp only [List.length_cons] at h1
            omega
        · exact ih h
      · exact vecFault_bd _
theorem centersFault_wf (cs : List DCenter) : (Lit.int .i64 (centersFault cs)).wf = true := wf_of_bd (by have := centersFault_bd cs; omega)

/-- The nearest among the first k, and its score. -/
def nearK (cs : List DCenter) (v : List Int) : Nat → Nat × Int
  | 0 => (0, 12000001)
  | k + 1 => if score3 (cs.getD k ⟨[]⟩).vec v < (nearK cs v k).2 then (k, score3 (cs.getD k ⟨[]⟩).vec v) else nearK cs v k
def near (cs : List DCenter) (v : List Int) : Nat := (nearK cs v cs.length).1
def nearS (cs : List DCenter) (v : List Int) : Int := (nearK cs v cs.length).2
theorem getD_at {α : Type} {xs : List α} {k : Nat} (h : k < xs.length) (d : α) : xs.getD k d = xs[k] := by simp [List.getD, h]
theorem nearK_step (cs : List DCenter) (v : List Int) (k : Nat) (h : k < cs.length) : nearK cs v (k + 1) = if score3 cs[k].vec v < (nearK cs v k).2 then (k, score3 cs[k].vec v) else nearK cs v k := by
  rw [nearK, getD_at h]
theorem nearK_right {cs : List DCenter} {v : List Int} (hc : ∀ c ∈ cs, vecFault c.vec = 0) (hv : vecFault v = 0) (k : Nat) (h1 : 1 ≤ k) (h2 : k ≤ cs.length) :
    (nearK cs v k).1 < k ∧ (nearK cs v k).2 = score3 (cs.getD (nearK cs v k).1 ⟨[]⟩).vec v ∧ 0 ≤ (nearK cs v k).2 ∧ (nearK cs v k).2 ≤ 12000000 := by
  induction k with
  | zero => omega
  | succ k ih =>
    have hk : k < cs.length := by omega
    have hs := cscore_bd (hc cs[k] (List.getElem_mem hk)) hv
    rw [nearK_step cs v k hk]
    by_cases hl : score3 cs[k].vec v < (nearK cs v k).2
    · rw [if_pos hl]
      refine ⟨by simp, ?_, hs.1, hs.2⟩
      simp only [getD_at hk]
    · rw [if_neg hl]
      have hk0 : 1 ≤ k := by
        apply Nat.succ_le_of_lt
        apply Nat.pos_of_ne_zero
        rintro rfl
        simp only [nearK] at hl
        omega
      obtain ⟨a, b, c⟩ := ih hk0 (by omega)
      exact ⟨by omega, b, c⟩
theorem nearK_bd {cs : List DCenter} {v : List Int} (hc : ∀ c ∈ cs, vecFault c.vec = 0) (hv : vecFault v = 0) (k : Nat) (h2 : k ≤ cs.length) : 0 ≤ (nearK cs v k).2 ∧ (nearK cs v k).2 ≤ 12000001 ∧ (nearK cs v k).1 ≤ k := by
  by_cases h : 1 ≤ k
  · obtain ⟨a, -, b, c⟩ := nearK_right hc hv k h h2
    omega
  · obtain rfl : k = 0 := by omega
    simp [nearK]
theorem near_lt {cs : List DCenter} {v : List Int} (hc : centersFault cs = 0) (hv : vecFault v = 0) : near cs v < cs.length := by
  obtain ⟨⟨a, b⟩, c⟩ := centersFault_zero hc
  exact (nearK_right c hv cs.length a (Nat.le_refl _)).1
theorem nearS_eq {cs : List DCenter} {v : List Int} (hc : centersFault cs = 0) (hv : vecFault v = 0) (h : near cs v < cs.length) : nearS cs v = score3 (cs[near cs v]).vec v ∧ 0 ≤ nearS cs v ∧ nearS cs v ≤ 12000000 := by
  obtain ⟨⟨a, b⟩, c⟩ := centersFault_zero hc
  obtain ⟨-, e, b1, b2⟩ := nearK_right c hv cs.length a (Nat.le_refl _)
  refine ⟨?_, b1, b2⟩
  rw [← getD_at h ⟨[]⟩]
  exact e

/-- The places of the nearest centers. -/
def placesL (cs : List DCenter) (xs : List DItem) : List Int := xs.map fun x => (near cs x.vec : Int)
/-- The cost of the first k items. -/
def costK (cs : List DCenter) (xs : List DItem) : Nat → Int
  | 0 => 0
  | k + 1 => costK cs xs k + nearS cs (xs.getD k ⟨0, []⟩).vec
def cost (cs : List DCenter) (xs : List DItem) : Int := costK cs xs xs.length
theorem costK_step (cs : List DCenter) (xs : List DItem) (k : Nat) (h : k < xs.length) : costK cs xs (k + 1) = costK cs xs k + nearS cs xs[k].vec := by rw [costK, getD_at h]
theorem costK_bd {cs : List DCenter} {xs : List DItem} (hc : centersFault cs = 0) (hx : ∀ x ∈ xs, vecFault x.vec = 0) (k : Nat) (h : k ≤ xs.length) : 0 ≤ costK cs xs k ∧ costK cs xs k ≤ 12000000 * k := by
  induction k with
  | zero => simp [costK]
  | succ k ih =>
    have hk : k < xs.length := by omega
    have i := ih (by omega)
    have s := (nearS_eq hc (hx xs[k] (List.getElem_mem hk)) (near_lt hc (hx xs[k] (List.getElem_mem hk)))).2
    rw [costK_step cs xs k hk]
    omega

/-- How many of the first k items are at place p, and the sums of their parts. -/
def cntK (cs : List DCenter) (xs : List DItem) (p : Nat) : Nat → Int
  | 0 => 0
  | k + 1 => if near cs (xs.getD k ⟨0, []⟩).vec = p then cntK cs xs p k + 1 else cntK cs xs p k
def sumK (cs : List DCenter) (xs : List DItem) (p j : Nat) : Nat → Int
  | 0 => 0
  | k + 1 => if near cs (xs.getD k ⟨0, []⟩).vec = p then sumK cs xs p j k + (xs.getD k ⟨0, []⟩).vec.getD j 0 else sumK cs xs p j k
theorem cntK_step (cs : List DCenter) (xs : List DItem) (p k : Nat) (h : k < xs.length) : cntK cs xs p (k + 1) = if near cs xs[k].vec = p then cntK cs xs p k + 1 else cntK cs xs p k := by rw [cntK, getD_at h]
theorem sumK_step (cs : List DCenter) (xs : List DItem) (p j k : Nat) (h : k < xs.length) : sumK cs xs p j (k + 1) = if near cs xs[k].vec = p then sumK cs xs p j k + xs[k].vec.getD j 0 else sumK cs xs p j k := by rw [sumK, getD_at h]
theorem cntK_bd (cs : List DCenter) (xs : List DItem) (p k : Nat) : 0 ≤ cntK cs xs p k ∧ cntK cs xs p k ≤ k := by
  induction k with
  | zero => simp [cntK]
  | succ k ih =>
    rw [cntK]
    split <;> omega
theorem sumK_bd (cs : List DCenter) {xs : List DItem} (hx : ∀ x ∈ xs, vecFault x.vec = 0) (p j : Nat) (hj : j < 3) (k : Nat) (h : k ≤ xs.length) : -1000 * cntK cs xs p k ≤ sumK cs xs p j k ∧ sumK cs xs p j k ≤ 1000 * cntK cs xs p k := by
  induction k with
  | zero => simp [cntK, sumK]
  | succ k ih =>
    have hk : k < xs.length := by omega
    have i := ih (by omega)
    have b := (vecFault_zero (hx xs[k] (List.getElem_mem hk))).2 j hj
    rw [cntK_step cs xs p k hk, sumK_step cs xs p j k hk]
    split <;> omega
def cnt (cs : List DCenter) (xs : List DItem) (p : Nat) : Int := cntK cs xs p xs.length
def sums (cs : List DCenter) (xs : List DItem) (p : Nat) : List Int := [sumK cs xs p 0 xs.length, sumK cs xs p 1 xs.length, sumK cs xs p 2 xs.length]
/-- Where the center at place p moves to. -/
def meanAt (cs : List DCenter) (xs : List DItem) (p : Nat) : List Int := if cnt cs xs p = 0 then (cs.getD p ⟨[]⟩).vec else meanList (sums cs xs p) (cnt cs xs p)
def moved (cs : List DCenter) (xs : List DItem) : List DCenter := (List.range cs.length).map fun p => ⟨meanAt cs xs p⟩
theorem moved_len (cs : List DCenter) (xs : List DItem) : (moved cs xs).length = cs.length := by simp [moved]
theorem sums_right (cs : List DCenter) {xs : List DItem} (ht : tableFault xs = 0) (p : Nat) (h : cnt cs xs p ≠ 0) : meanFault (sums cs xs p) (cnt cs xs p) = 0 ∧ (1 ≤ cnt cs xs p ∧ cnt cs xs p ≤ 1000) := by
  obtain ⟨hl, ha, -⟩ := tableFault_zero ht
  have hx : ∀ x ∈ xs, vecFault x.vec = 0 := fun x hm => (ha x hm).2
  have hb := cntK_bd cs xs p xs.length
  unfold cnt at h
  have h1 : 1 ≤ cnt cs xs p ∧ cnt cs xs p ≤ 1000 := by unfold cnt; omega
  refine ⟨?_, h1⟩
  unfold meanFault
  rw [if_neg (by omega), if_pos (show (sums cs xs p).length = 3 from rfl), if_pos]
  have s0 := sumK_bd cs hx p 0 (by omega) xs.length (Nat.le_refl _)
  have s1 := sumK_bd cs hx p 1 (by omega) xs.length (Nat.le_refl _)
  have s2 := sumK_bd cs hx p 2 (by omega) xs.length (Nat.le_refl _)
  simp only [sums, List.all_cons, List.all_nil, sumB, cnt, Bool.and_eq_true, decide_eq_true_eq, and_true]
  exact ⟨s0, s1, s2⟩
theorem meanAt_right {cs : List DCenter} {xs : List DItem} (hc : centersFault cs = 0) (ht : tableFault xs = 0) (p : Nat) (hp : p < cs.length) : vecFault (meanAt cs xs p) = 0 := by
  unfold meanAt
  by_cases h : cnt cs xs p = 0
  · rw [if_pos h, getD_at hp]
    exact (centersFault_zero hc).2 _ (List.getElem_mem hp)
  · rw [if_neg h]
    obtain ⟨h1, h2, h3⟩ := sums_right cs ht p h
    obtain ⟨-, x, y, z, e, ⟨x1, x2⟩, ⟨y1, y2⟩, ⟨z1, z2⟩⟩ := meanFault_zero h1
    rw [meanList, if_pos h1, e]
    have b1 := mean_bd x _ h2 x1 x2
    have b2 := mean_bd y _ h2 y1 y2
    have b3 := mean_bd z _ h2 z1 z2
    refine vecFault_ok rfl fun j hj => ?_
    match j, hj with
    | 0, _ => simp only [List.getD_cons_zero, partB, Bool.and_eq_true, decide_eq_true_eq]; exact b1
    | 1, _ => simp only [List.getD_cons_zero, List.getD_cons_succ, partB, Bool.and_eq_true, decide_eq_true_eq]; exact b2
    | 2, _ => simp only [List.getD_cons_zero, List.getD_cons_succ, partB, Bool.and_eq_true, decide_eq_true_eq]; exact b3
theorem moved_right {cs : List DCenter} {xs : List DItem} (hc : centersFault cs = 0) (ht : tableFault xs = 0) : centersFault (moved cs xs) = 0 := by
  refine centersFault_of (by rw [moved_len]; exact (centersFault_zero hc).1) fun c hm => ?_
  obtain ⟨p, hp, rfl⟩ := List.mem_map.1 hm
  exact meanAt_right hc ht p (List.mem_range.1 hp)
theorem moved_take (cs : List DCenter) (xs : List DItem) (k : Nat) (hk : k < cs.length) : (moved cs xs).take (k + 1) = (moved cs xs).take k ++ [⟨meanAt cs xs k⟩] := by
  rw [List.take_succ_eq_append_getElem (by rw [moved_len]; exact hk)]
  simp [moved]

/-! ### Training -/
def seedB (s : Int) : Bool := decide (0 ≤ s) && decide (s ≤ 9999)
def trainFault (xs : List DItem) (seeds : List Int) (rounds : Int) : Int :=
  if tableFault xs = 0 then (if xs.length = 0 then 4 else if seeds.length < 1 ∨ 6 < seeds.length then 2 else if (decide (0 ≤ rounds) && decide (rounds ≤ 20)) then (if seeds.all seedB then 0 else 3) else 3) else tableFault xs
def seedC (xs : List DItem) (s : Int) : DCenter := ⟨(xs.getD (s.toNat % xs.length) ⟨0, []⟩).vec⟩
def seedCs (xs : List DItem) (seeds : List Int) : List DCenter := seeds.map (seedC xs)
def trainN (xs : List DItem) : Nat → List DCenter → List DCenter
  | 0, cs => cs
  | r + 1, cs => if cost cs xs ≤ cost (moved cs xs) xs then cs else trainN xs r (moved cs xs)
def trainR (xs : List DItem) (seeds : List Int) (rounds : Int) : DCentersResult :=
  if trainFault xs seeds rounds = 0 then ⟨0, trainN xs rounds.toNat (seedCs xs seeds)⟩ else ⟨trainFault xs seeds rounds, []⟩
theorem seedCs_right {xs : List DItem} {seeds : List Int} (ht : tableFault xs = 0) (h0 : xs.length ≠ 0) (hs : 1 ≤ seeds.length ∧ seeds.length ≤ 6) : centersFault (seedCs xs seeds) = 0 := by
  refine centersFault_of (by simpa [seedCs] using hs) fun c hm => ?_
  obtain ⟨s, -, rfl⟩ := List.mem_map.1 hm
  have hl : s.toNat % xs.length < xs.length := Nat.mod_lt _ (by omega)
  show vecFault (xs.getD (s.toNat % xs.length) ⟨0, []⟩).vec = 0
  rw [getD_at hl]
  exact ((tableFault_zero ht).2.1 _ (List.getElem_mem hl)).2
theorem trainN_right {xs : List DItem} (ht : tableFault xs = 0) (r : Nat) (cs : List DCenter) (hc : centersFault cs = 0) : centersFault (trainN xs r cs) = 0 ∧ (trainN xs r cs).length = cs.length ∧ cost (trainN xs r cs) xs ≤ cost cs xs := by
  induction r generalizing cs with
  | zero => exact ⟨hc, rfl, Int.le_refl _⟩
  | succ r ih =>
    rw [trainN]
    split
    · exact ⟨hc, rfl, Int.le_refl _⟩
    · obtain ⟨a, b, c⟩ := ih (moved cs xs) (moved_right hc ht)
      rename_i hlt
      exact ⟨a, by rw [b, moved_len], by omega⟩
theorem trainFault_bd (xs : List DItem) (seeds : List Int) (rounds : Int) (h : 0 ≤ tableFault xs ∧ tableFault xs ≤ 9) : 0 ≤ trainFault xs seeds rounds ∧ trainFault xs seeds rounds ≤ 9 := by
  unfold trainFault
  split
  · split
    · decide
    · split
      · decide
      · split
        · split <;> decide
        · decide
  · exact h

end Go.Proofs.YtfgadegpdknocaaGreat

namespace Go.Proofs.YtfgadegpdknocaaGreat
open Go.RowKit

theorem cen_cell {w : World} {b off k : Nat} {u : Option Value} (h : w.cell? ⟨b, off + k * Lay.tCenter.n + 0, none⟩ = u) : w.cell? ⟨b, off + k, none⟩ = u := by
  have q : w.cell? ⟨b, off + k * 1 + 0, none⟩ = u := h
  rw [Nat.mul_one, Nat.add_zero] at q
  exact q

end Go.Proofs.YtfgadegpdknocaaGreat

namespace Go.Proofs.YtfgadegpdknocaaGreat
open Go.RowKit

theorem infoCenF : (Tryz.prog.info? 134).map (fun i => (i.zero, i.size, i.bytes)) = some (some (.agg #[.slice none 0 0]), 1, 24) := by kernel_rfl

/-- The row in block G has n places; the first k hold those of cs. -/
def FillC (w : World) (G n k : Nat) (cs : List DCenter) : Prop :=
  ∃ (rows : List (List Value)) (Q : List Value) (hi : Nat), w.ownsRow G 134 1 (.slice (some ⟨G, 0, none⟩) n n) n (rows.flatten ++ Q) ∧ rows.flatten.length = k ∧ k ≤ n ∧ Lay.Subs Lay.tCenter w rows (cs.take k) (G + 1) hi ∧ hi ≤ w.heap.size ∧ G < hi

theorem FillC.start {w : World} {G n : Nat} {Q : List Value} (cs : List DCenter) (h : w.ownsRow G 134 1 (.slice (some ⟨G, 0, none⟩) n n) n Q) : FillC w G n 0 cs :=
  ⟨[], Q, w.heap.size, by simpa using h, rfl, Nat.zero_le _, Lay.subs_nil, Nat.le_refl _, (h.lt G rfl).2⟩
theorem FillC.later {w w' : World} {G n k : Nat} {cs : List DCenter} (h : FillC w G n k cs) (hb : Below w.heap.size w w') : FillC w' G n k cs := by
  obtain ⟨rows, Q, hi, ho, hl, hk, hsb, h1, h2⟩ := h
  exact ⟨rows, Q, hi, own_below ho hb, hl, hk, Lay.subs_ext hsb (ext_of_below hb nowhere) (fun _ _ _ h => h), Nat.le_trans h1 hb.size, h2⟩
theorem FillC.there {w : World} {G n k : Nat} {cs : List DCenter} (h : FillC w G n k cs) (hk : k < n) : (∃ u, w.cell? ⟨G, k, none⟩ = some u) ∧ w.frozen? ⟨G, k, none⟩ = false ∧ G < w.heap.size := by
  obtain ⟨rows, Q, hi, ho, hl, hk2, hsb, h1, h2⟩ := h
  have hlen : (rows.flatten ++ Q).length = n * 1 := ho.1
  refine ⟨?_, ho.frozenAt k, by omega⟩
  rw [ho.cellAt k (by omega)]
  exact ⟨_, List.getElem?_eq_getElem (by omega)⟩
theorem FillC.put {w w' : World} {G n k : Nat} {cs : List DCenter} {v : Value} {zs : List Int} (h : FillC w G n k cs) (hk : k < n) (hb : Below w.heap.size w w') (ho : (Lay.sl Lay.int).OwnIn w' [v] zs w.heap.size w'.heap.size) (ht : cs.take (k + 1) = cs.take k ++ [⟨zs⟩]) : FillC (w'.setCell ⟨G, k, none⟩ v) G n (k + 1) cs := by
  obtain ⟨rows, Q, hi, hown, hl, hk2, hsb, h1, h2⟩ := h.later hb
  obtain ⟨rows0, Q0, hi0, hown0, hl0, hk20, hsb0, h10, h20⟩ := h
  have hlen : (rows.flatten ++ Q).length = n * 1 := hown.1
  have hcen : Lay.tCenter.OwnIn w' [v] ⟨zs⟩ w.heap.size w'.heap.size := ho
  have hlG := (hown0.lt G rfl).2
  obtain ⟨rows, Q, hown, hl, hsb⟩ : ∃ rows Q, w'.ownsRow G 134 1 (.slice (some ⟨G, 0, none⟩) n n) n (rows.flatten ++ Q) ∧ rows.flatten.length = k ∧ Lay.Subs Lay.tCenter w' rows (cs.take k) (G + 1) hi0 :=
    ⟨rows0, Q0, own_below hown0 hb, hl0, Lay.subs_ext hsb0 (ext_of_below hb nowhere) (fun _ _ _ h => h)⟩
  have hlen : (rows.flatten ++ Q).length = n * 1 := hown.1
  have hs2 := Lay.subs_snoc hsb hcen h10 (by omega) (Nat.le_trans h10 hb.size)
  have E : Ext (fun q => q = G) w' (w'.setCell ⟨G, k, none⟩ v) := (Ext.refl _ _).setCell ⟨G, k, none⟩ v rfl
  have hs3 := Lay.subs_ext hs2 E (fun q a b c => by omega)
  have o3 := own_setAll hown k [v]
  rw [show k = rows.flatten.length from hl.symm, setFrom_app _ _ _ (by rw [List.length_append] at hlen; simp; omega), hl] at o3
  refine ⟨rows ++ [[v]], Q.drop 1, w'.heap.size, ?_, ?_, by omega, ?_, by simp, by have := hb.size; omega⟩
  · rw [List.flatten_append]
    simpa [setAll] using o3
  · rw [List.flatten_append]
    simp [hl]
  · rw [ht]
    exact hs3
theorem FillC.done {w : World} {G n : Nat} {cs : List DCenter} (h : FillC w G n n cs) (hl : cs.length = n) (hn : n ≤ 9223372036854775807) : (Lay.sl Lay.tCenter).OwnIn w [.slice (some ⟨G, 0, none⟩) n n] cs G w.heap.size := by
  obtain ⟨rows, Q, hi, hown, hlr, hk2, hsb, h1, h2⟩ := h
  have hlen : (rows.flatten ++ Q).length = n * 1 := hown.1
  have e0 : Q = [] := List.eq_nil_of_length_eq_zero (by rw [List.length_append] at hlen; omega)
  subst e0
  subst hl
  rw [List.append_nil] at hown
  rw [List.take_length] at hsb
  exact Lay.subs_done (A := Lay.tCenter) hown hsb (by omega) h1 hn

end Go.Proofs.YtfgadegpdknocaaGreat

namespace Go.Proofs.YtfgadegpdknocaaGreat
open Go.RowKit

structure DIntResult where
  code : Int
  value : Int

def Lay.tIntResult : Lay DIntResult := Lay.via (Lay.pair Lay.int Lay.int) (fun x => (x.code, x.value)) (fun p => ⟨p.1, p.2⟩)

theorem lies_IntResult {w : World} {cs : List Value} {x : DIntResult} {bl : List Nat} : Lay.tIntResult.lies w cs x bl ↔ cs = [.int .i64 x.code, .int .i64 x.value] ∧ bl = [] ∧ (Lit.int .i64 x.code).wf = true ∧ (Lit.int .i64 x.value).wf = true := by
  constructor
  · intro h
    obtain ⟨c0_, r0_, e0_, s0_, rfl, rfl, h0, h1⟩ := h
    obtain ⟨rfl, w0, rfl⟩ := h0
    obtain ⟨rfl, w1, rfl⟩ := h1
    exact ⟨by simp, by simp, w0, w1⟩
  · rintro ⟨rfl, hbl, w0, w1⟩
    rw [hbl]
    exact ⟨[.int .i64 x.code], [.int .i64 x.value], [], [], rfl, by simp, ⟨rfl, w0, rfl⟩, ⟨rfl, w1, rfl⟩⟩

end Go.Proofs.YtfgadegpdknocaaGreat

namespace Go.Proofs.YtfgadegpdknocaaGreat
open Go.RowKit

def nearestR (cs : List DCenter) (q : List Int) : DIntResult := if centersFault cs = 0 then (if vecFault q = 0 then ⟨0, (near cs q : Nat)⟩ else ⟨vecFault q, 0⟩) else ⟨centersFault cs, 0⟩
def askFault (cs : List DCenter) (xs : List DItem) : Int := if centersFault cs = 0 then tableFault xs else centersFault cs
theorem askFault_zero {cs : List DCenter} {xs : List DItem} (h : askFault cs xs = 0) : centersFault cs = 0 ∧ tableFault xs = 0 := by
  unfold askFault at h
  by_cases hc : centersFault cs = 0
  · rw [if_pos hc] at h; exact ⟨hc, h⟩
  · rw [if_neg hc] at h; exact absurd h hc
def assignR (cs : List DCenter) (xs : List DItem) : DIntsResult := if askFault cs xs = 0 then ⟨0, placesL cs xs⟩ else ⟨askFault cs xs, []⟩
def costR (cs : List DCenter) (xs : List DItem) : DIntResult := if askFault cs xs = 0 then ⟨0, cost cs xs⟩ else ⟨askFault cs xs, 0⟩
def movedR (cs : List DCenter) (xs : List DItem) : DCentersResult := if askFault cs xs = 0 then ⟨0, moved cs xs⟩ else ⟨askFault cs xs, []⟩
theorem own_intR {w : World} {c x : Int} {lo hi : Nat} (hc : (Lit.int .i64 c).wf = true) (hx : (Lit.int .i64 x).wf = true) : Lay.tIntResult.OwnIn w [.int .i64 c, .int .i64 x] ⟨c, x⟩ lo hi :=
  ⟨[], ⟨⟨[.int .i64 c], [.int .i64 x], [], [], rfl, by simp, ⟨rfl, hc, rfl⟩, ⟨rfl, hx, rfl⟩⟩, by simp, by simp⟩, by simp⟩
theorem own_censR {w : World} {c : Int} {v : Value} {cs : List DCenter} {lo hi : Nat} (hc : (Lit.int .i64 c).wf = true) (h : (Lay.sl Lay.tCenter).OwnIn w [v] cs lo hi) : Lay.tCentersResult.OwnIn w [.int .i64 c, v] ⟨c, cs⟩ lo hi := by
  obtain ⟨bl, ⟨l, n, f⟩, i⟩ := h
  exact ⟨bl, ⟨⟨[.int .i64 c], [v], [], bl, rfl, by simp, ⟨rfl, hc, rfl⟩, l⟩, n, f⟩, i⟩
theorem own_codeCens {w : World} {c : Int} {lo hi : Nat} (hc : (Lit.int .i64 c).wf = true) : Lay.tCentersResult.OwnIn w [.int .i64 c, .slice none 0 0] ⟨c, []⟩ lo hi := own_censR hc ⟨[], ⟨⟨none, 0, rfl, by simp, Or.inl ⟨rfl, rfl⟩⟩, by simp, by simp⟩, by simp⟩
theorem read_censR {w : World} {c : Int} {v : Value} {cs : List DCenter} (hc : (Lit.int .i64 c).wf = true) (h : (Lay.sl Lay.tCenter).Reads w [v] cs) : Lay.tCentersResult.Reads w [.int .i64 c, v] ⟨c, cs⟩ := by
  obtain ⟨bl, l⟩ := h
  exact ⟨bl, [.int .i64 c], [v], [], bl, rfl, by simp, ⟨rfl, hc, rfl⟩, l⟩
theorem own_intsR6 {w : World} {c : Int} {v : Value} {zs : List Int} {lo hi : Nat} (hc : (Lit.int .i64 c).wf = true) (h : (Lay.sl Lay.int).OwnIn w [v] zs lo hi) : Lay.tIntsResult.OwnIn w [.int .i64 c, v] ⟨c, zs⟩ lo hi := by
  obtain ⟨bl, ⟨l, n, f⟩, i⟩ := h
  exact ⟨bl, ⟨⟨[.int .i64 c], [v], [], bl, rfl, by simp, ⟨rfl, hc, rfl⟩, l⟩, n, f⟩, i⟩
theorem own_codeInts6 {w : World} {c : Int} {lo hi : Nat} (hc : (Lit.int .i64 c).wf = true) : Lay.tIntsResult.OwnIn w [.int .i64 c, .slice none 0 0] ⟨c, []⟩ lo hi := own_intsR6 hc ⟨[], ⟨⟨none, 0, rfl, by simp, Or.inl ⟨rfl, rfl⟩⟩, by simp, by simp⟩, by simp⟩
theorem tabFrom_bd (p : Option Int) (xs : List DItem) : 0 ≤ tabFrom p xs ∧ tabFrom p xs ≤ 3 := by
  induction xs generalizing p with
  | nil => show (0 : Int) ≤ 0 ∧ (0 : Int) ≤ 3; decide
  | cons x xs ih =>
    rw [tabFrom]
    split
    · split
      · split
        · exact ih _
        · decide
      · exact vecFault_bd _
    · decide
theorem tableFault_bd (xs : List DItem) : 0 ≤ tableFault xs ∧ tableFault xs ≤ 3 := by
  unfold tableFault
  split
  · decide
  · exact tabFrom_bd _ _
theorem askFault_bd (cs : List DCenter) (xs : List DItem) : 0 ≤ askFault cs xs ∧ askFault cs xs ≤ 3 := by
  unfold askFault
  split
  · exact tableFault_bd xs
  · exact centersFault_bd cs
theorem askFault_wf (cs : List DCenter) (xs : List DItem) : (Lit.int .i64 (askFault cs xs)).wf = true := wf_of_bd (by have := askFault_bd cs xs; omega)

end Go.Proofs.YtfgadegpdknocaaGreat
