/-
  Texts of this proof in one: LawXChainText, LayChainResult, LayIntResult, ChainPlain, OwnChain, OwnChainResult, StoreKit, ChainKit, ImplNodeId, ImplEpoch, PartReads, ImplChainF, InB, SpecNode9, SpecChainF.
  Their conditions stand in their theorems.
-/
import Derived.Test.YtceoaphcjnfphaaDoorChecked
import Derived.Test.YtceoaphcjnfphaaDoorCt01
import Derived.Test.YtceoaphcjnfphaaDoorCt02
import Derived.Deep.RegionHeld3
import Derived.Deep.CutRange

namespace Go.Proofs.YtceoaphcjnfphaaDoor
open Go.RowKit

set_option maxRecDepth 100000 in
set_option maxHeartbeats 4000000 in
theorem lawx_ChainText (u0 : List Value) (x0 : DChain) (y : DTextResult) (w : World) (A0 : Lay.tChain.Reads w u0 x0) (NS : Lay.tChain.sz x0 ≤ 1048576) (ht : Tab w)
    (hS : ∀ (W : World) (u0 : List Value), Tab W → Lay.tChain.Reads W u0 x0 → Calls Tryd.prog 15 #[.agg u0.toArray] W fun e w' => ∃ cs, e = .returned (.agg cs.toArray) ∧ Lay.tTextResult.Reads w' cs y ∧ Below W.heap.size W w')
    (hI : ∀ (W : World) (u0 : List Value), Tab W → Lay.tChain.Reads W u0 x0 → Calls Tryd.prog 14 #[.agg u0.toArray] W fun e w' => ∃ cs, e = .returned (.agg cs.toArray) ∧ Lay.tTextResult.OwnIn w' cs y W.heap.size w'.heap.size ∧ Below W.heap.size W w') :
    Calls Tryd.prog 4 #[.agg u0.toArray] w fun e w' => e = .returned (.bool true) ∧ Below w.heap.size w w' := by
  obtain ⟨a1p0, d1p0, rfl, -⟩ := open_Chain A0
  have HS := hide hS
  have HI := hide hI
  clear hS hI
  have HA0 := hide A0.liesIn
  clear A0
  have N0 : Lay.tChain.sz x0 ≤ 1048576 := by omega
  have HN0 := hide N0
  clear N0
  have HNS := hide NS
  clear NS
  have HT := hide ht
  clear ht
  have HB := hide (Below.refl w.heap.size w)
  go_enter Tryd.func4, Tryd.ntmps4
  go_wp2_with fail
  have nb : Below w.heap.size w (w.alloc (.cells #[.int .i64 x0.epoch, .slice a1p0 x0.ids.length d1p0] 39)) := (Below.refl w.heap.size w).alloc (Nat.le_refl _) _
  have P0 : Hid (Box w.heap.size #[.int .i64 x0.epoch, .slice a1p0 x0.ids.length d1p0] 39 (w.alloc (.cells #[.int .i64 x0.epoch, .slice a1p0 x0.ids.length d1p0] 39)) (w.heap.size)) := newBoxAt (by omega) (by simp)
  generalize haw1 : (w.alloc (.cells #[.int .i64 x0.epoch, .slice a1p0 x0.ids.length d1p0] 39)) = w1 at *
  have Gw1 : w.heap.size + 1 ≤ w1.heap.size := by rw [← haw1]; simp
  clear haw1
  replace HA0 := hide ((unhide HA0).later nb)
  have Zw1 : w.heap.size ≤ w1.heap.size := nb.size
  replace HB := hide ((unhide HB).trans (nb.mono (by omega)))
  clear nb
  have hns := unhide HNS
  refine (sz_Chain _ x0 (1048576) w1 (unhide HA0).reads (by omega)).mono ?_
  rintro e w2 ⟨rfl, hb⟩
  replace HA0 := hide ((unhide HA0).later hb)
  replace P0 := hide ((unhide P0).keep hb)
  have Zw2 : w1.heap.size ≤ w2.heap.size := hb.size
  replace HB := hide ((unhide HB).trans (hb.mono (by omega)))
  clear hb
  rw [szR_ok (by omega)]
  have hq0 : decide (((1048576 - Lay.tChain.sz x0 : Nat) : Int) < 0) = false := by simp
  clear hns
  have l0P0 := (unhide P0).at 0 _ rfl
  have l1P0 := (unhide P0).at 1 _ rfl
  have ltP0 : w.heap.size < w2.heap.size := by omega
  simp only [List.getElem_toArray, List.getElem_cons_zero, List.getElem_cons_succ] at l0P0 l1P0
  go_wp2_with fail
  clear l0P0 l1P0 ltP0
  clear hq0
  refine (to_Chain _ x0 w2 (unhide HA0).reads (unhide HN0)).mono ?_
  rintro e w3 ⟨vc0, rfl, O, hb⟩
  replace HA0 := hide ((unhide HA0).later hb)
  replace P0 := hide ((unhide P0).keep hb)
  have Zw3 : w2.heap.size ≤ w3.heap.size := hb.size
  replace HB := hide ((unhide HB).trans (hb.mono (by omega)))
  clear hb
  obtain ⟨a1c0, d1c0, rfl, -⟩ := open_Chain O.reads
  have Hc0 := hide O
  clear O
  have l0P0 := (unhide P0).at 0 _ rfl
  have l1P0 := (unhide P0).at 1 _ rfl
  have ltP0 : w.heap.size < w3.heap.size := by omega
  simp only [List.getElem_toArray, List.getElem_cons_zero, List.getElem_cons_succ] at l0P0 l1P0
  go_wp2_with fail
  clear l0P0 l1P0 ltP0
  refine (unhide HS w3 _ ((unhide HT).later (unhide HB)) (unhide Hc0).reads).mono ?_
  rintro e w4 ⟨cs, rfl, O, hb⟩
  replace HA0 := hide ((unhide HA0).later hb)
  replace P0 := hide ((unhide P0).keep hb)
  replace Hc0 := hide ((unhide Hc0).later hb)
  have Zw4 : w3.heap.size ≤ w4.heap.size := hb.size
  replace HB := hide ((unhide HB).trans (hb.mono (by omega)))
  clear hb
  obtain ⟨bl, O⟩ := O
  obtain ⟨rfl, -⟩ := lies_TextResult.1 O
  have HW := hide (Lay.Reads.liesIn ⟨_, O⟩)
  clear O
  have nb : Below w4.heap.size w4 (w4.alloc (.cells #[.int .i64 y.code, .string y.text] 37)) := (Below.refl _ _).alloc (Nat.le_refl _) _
  have YW : Hid (Box w4.heap.size #[.int .i64 y.code, .string y.text] 37 (w4.alloc (.cells #[.int .i64 y.code, .string y.text] 37)) w4.heap.size) := newBox (Nat.le_refl _)
  clear Hc0
  have l0P0 := (unhide P0).at 0 _ rfl
  have l1P0 := (unhide P0).at 1 _ rfl
  have ltP0 : w.heap.size < w4.heap.size := by omega
  simp only [List.getElem_toArray, List.getElem_cons_zero, List.getElem_cons_succ] at l0P0 l1P0
  go_wp2_with fail
  clear l0P0 l1P0 ltP0
  generalize haw5 : w4.alloc (.cells #[.int .i64 y.code, .string y.text] 37) = w5 at *
  have Gw5 : w4.heap.size < w5.heap.size := by rw [← haw5]; simp
  clear haw5
  replace HA0 := hide ((unhide HA0).later nb)
  replace P0 := hide ((unhide P0).keep nb)
  replace HW := hide ((unhide HW).later nb)
  have Zw5 : w4.heap.size ≤ w5.heap.size := nb.size
  replace HB := hide ((unhide HB).trans (nb.mono (by omega)))
  clear nb
  refine (to_Chain _ x0 w5 (unhide HA0).reads (unhide HN0)).mono ?_
  rintro e w6 ⟨vx0, rfl, O, hb⟩
  replace HA0 := hide ((unhide HA0).later hb)
  replace P0 := hide ((unhide P0).keep hb)
  replace HW := hide ((unhide HW).later hb)
  replace YW := hide ((unhide YW).keep hb)
  have Zw6 : w5.heap.size ≤ w6.heap.size := hb.size
  replace HB := hide ((unhide HB).trans (hb.mono (by omega)))
  clear hb
  obtain ⟨a1x0, d1x0, rfl, -⟩ := open_Chain O.reads
  have Hx0 := hide O
  clear O
  have nb : Below w6.heap.size w6 (w6.alloc (.cells #[.int .i64 x0.epoch, .slice a1x0 x0.ids.length d1x0] 26)) := (Below.refl _ _).alloc (Nat.le_refl _) _
  have X0 : Hid (Box w6.heap.size #[.int .i64 x0.epoch, .slice a1x0 x0.ids.length d1x0] 26 (w6.alloc (.cells #[.int .i64 x0.epoch, .slice a1x0 x0.ids.length d1x0] 26)) w6.heap.size) := newBox (Nat.le_refl _)
  have l0P0 := (unhide P0).at 0 _ rfl
  have l1P0 := (unhide P0).at 1 _ rfl
  have ltP0 : w.heap.size < w6.heap.size := by omega
  have l0YW := (unhide YW).at 0 _ rfl
  have l1YW := (unhide YW).at 1 _ rfl
  have ltYW : w4.heap.size < w6.heap.size := by omega
  simp only [List.getElem_toArray, List.getElem_cons_zero, List.getElem_cons_succ] at l0P0 l1P0 l0YW l1YW
  go_wp2_with fail
  clear l0P0 l1P0 ltP0 l0YW l1YW ltYW
  generalize haw7 : w6.alloc (.cells #[.int .i64 x0.epoch, .slice a1x0 x0.ids.length d1x0] 26) = w7 at *
  have Gw7 : w6.heap.size < w7.heap.size := by rw [← haw7]; simp
  clear haw7
  replace HA0 := hide ((unhide HA0).later nb)
  replace P0 := hide ((unhide P0).keep nb)
  replace HW := hide ((unhide HW).later nb)
  replace YW := hide ((unhide YW).keep nb)
  replace Hx0 := hide ((unhide Hx0).later nb)
  have Zw7 : w6.heap.size ≤ w7.heap.size := nb.size
  replace HB := hide ((unhide HB).trans (nb.mono (by omega)))
  clear nb
  refine (unhide HI w7 _ ((unhide HT).later (unhide HB)) (unhide Hx0).reads).mono ?_
  rintro e w8 ⟨cs, rfl, O, hb⟩
  replace HA0 := hide ((unhide HA0).later hb)
  replace P0 := hide ((unhide P0).keep hb)
  replace HW := hide ((unhide HW).later hb)
  replace YW := hide ((unhide YW).keep hb)
  replace Hx0 := hide ((unhide Hx0).later hb)
  replace X0 := hide ((unhide X0).keep hb)
  have Zw8 : w7.heap.size ≤ w8.heap.size := hb.size
  replace HB := hide ((unhide HB).trans (hb.mono (by omega)))
  clear hb
  obtain ⟨bl, O⟩ := O.reads
  obtain ⟨rfl, -⟩ := lies_TextResult.1 O
  have HG := hide (Lay.Reads.liesIn ⟨_, O⟩)
  clear O
  have nb : Below w8.heap.size w8 (w8.alloc (.cells #[.int .i64 y.code, .string y.text] 37)) := (Below.refl _ _).alloc (Nat.le_refl _) _
  have YG : Hid (Box w8.heap.size #[.int .i64 y.code, .string y.text] 37 (w8.alloc (.cells #[.int .i64 y.code, .string y.text] 37)) w8.heap.size) := newBox (Nat.le_refl _)
  have l0P0 := (unhide P0).at 0 _ rfl
  have l1P0 := (unhide P0).at 1 _ rfl
  have ltP0 : w.heap.size < w8.heap.size := by omega
  have l0YW := (unhide YW).at 0 _ rfl
  have l1YW := (unhide YW).at 1 _ rfl
  have ltYW : w4.heap.size < w8.heap.size := by omega
  have l0X0 := (unhide X0).at 0 _ rfl
  have l1X0 := (unhide X0).at 1 _ rfl
  have ltX0 : w6.heap.size < w8.heap.size := by omega
  simp only [List.getElem_toArray, List.getElem_cons_zero, List.getElem_cons_succ] at l0P0 l1P0 l0YW l1YW l0X0 l1X0
  go_wp2_with fail
  clear l0P0 l1P0 ltP0 l0YW l1YW ltYW l0X0 l1X0 ltX0
  generalize haw9 : w8.alloc (.cells #[.int .i64 y.code, .string y.text] 37) = w9 at *
  have Gw9 : w8.heap.size < w9.heap.size := by rw [← haw9]; simp
  clear haw9
  replace HA0 := hide ((unhide HA0).later nb)
  replace P0 := hide ((unhide P0).keep nb)
  replace HW := hide ((unhide HW).later nb)
  replace YW := hide ((unhide YW).keep nb)
  replace Hx0 := hide ((unhide Hx0).later nb)
  replace X0 := hide ((unhide X0).keep nb)
  replace HG := hide ((unhide HG).later nb)
  have Zw9 : w8.heap.size ≤ w9.heap.size := nb.size
  replace HB := hide ((unhide HB).trans (nb.mono (by omega)))
  clear nb
  refine (eq_TextResult _ _ y w9 (unhide HG).reads (unhide HW).reads).mono ?_
  rintro e w10 ⟨rfl, hb⟩
  replace HA0 := hide ((unhide HA0).later hb)
  replace P0 := hide ((unhide P0).keep hb)
  replace HW := hide ((unhide HW).later hb)
  replace YW := hide ((unhide YW).keep hb)
  replace Hx0 := hide ((unhide Hx0).later hb)
  replace X0 := hide ((unhide X0).keep hb)
  replace HG := hide ((unhide HG).later hb)
  replace YG := hide ((unhide YG).keep hb)
  have Zw10 : w9.heap.size ≤ w10.heap.size := hb.size
  replace HB := hide ((unhide HB).trans (hb.mono (by omega)))
  clear hb
  have l0P0 := (unhide P0).at 0 _ rfl
  have l1P0 := (unhide P0).at 1 _ rfl
  have ltP0 : w.heap.size < w10.heap.size := by omega
  have l0YW := (unhide YW).at 0 _ rfl
  have l1YW := (unhide YW).at 1 _ rfl
  have ltYW : w4.heap.size < w10.heap.size := by omega
  have l0X0 := (unhide X0).at 0 _ rfl
  have l1X0 := (unhide X0).at 1 _ rfl
  have ltX0 : w6.heap.size < w10.heap.size := by omega
  have l0YG := (unhide YG).at 0 _ rfl
  have l1YG := (unhide YG).at 1 _ rfl
  have ltYG : w8.heap.size < w10.heap.size := by omega
  simp only [List.getElem_toArray, List.getElem_cons_zero, List.getElem_cons_succ] at l0P0 l1P0 l0YW l1YW l0X0 l1X0 l0YG l1YG
  go_wp2_with fail
  clear l0P0 l1P0 ltP0 l0YW l1YW ltYW l0X0 l1X0 ltX0 l0YG l1YG ltYG
  have l0P0 := (unhide P0).at 0 _ rfl
  have l1P0 := (unhide P0).at 1 _ rfl
  have ltP0 : w.heap.size < w10.heap.size := by omega
  have l0X0 := (unhide X0).at 0 _ rfl
  have l1X0 := (unhide X0).at 1 _ rfl
  have ltX0 : w6.heap.size < w10.heap.size := by omega
  simp only [List.getElem_toArray, List.getElem_cons_zero, List.getElem_cons_succ] at l0P0 l1P0 l0X0 l1X0
  refine wp_region_noPanic ?_
  refine wp_region_held_drew (S := fun w' => Below w10.heap.size w10 w') (by kernel_rfl) (Below.refl _ _).drew (fun hHeld => ?_)
  generalize w10.drew = wD at hHeld ⊢
  refine wpAnyH_take (i := 0) (oi := { dst := some 23, op := Go.Op.load 26 (Go.Operand.tmp 5), type := 26, pos := "exact.go:4243", after := #[], guard := none }) (v := ?vs00) rfl (by kernel_rfl) (by kernel_rfl) (by kernel_rfl) (fun _ _ _ h => h) (Or.inl ⟨by rfl, ?hs00⟩) hHeld ?rs00
  case hs00 =>
    intro wS hSw
    have y0P0 := (hSw.cell (p := ⟨w.heap.size, 0, none⟩) ltP0).trans l0P0
    have y1P0 := (hSw.cell (p := ⟨w.heap.size, 1, none⟩) ltP0).trans l1P0
    have y0X0 := (hSw.cell (p := ⟨w6.heap.size, 0, none⟩) ltX0).trans l0X0
    have y1X0 := (hSw.cell (p := ⟨w6.heap.size, 1, none⟩) ltX0).trans l1X0
    clear hSw
    (try dsimp only at hSw)
    go_simp
    try with_reducible rfl
  case rs00 =>
  simp only [Act.put, List.setIfInBounds_toArray, List.set_cons_zero, List.set_cons_succ]
  refine wpAnyH_take (i := 1) (oi := { dst := some 24, op := Go.Op.load 39 (Go.Operand.tmp 1), type := 39, pos := "exact.go:4243", after := #[], guard := none }) (v := ?vs01) rfl (by kernel_rfl) (by kernel_rfl) (by kernel_rfl) (fun _ _ _ h => h) (Or.inl ⟨by rfl, ?hs01⟩) hHeld ?rs01
  case hs01 =>
    intro wS hSw
    have y0P0 := (hSw.cell (p := ⟨w.heap.size, 0, none⟩) ltP0).trans l0P0
    have y1P0 := (hSw.cell (p := ⟨w.heap.size, 1, none⟩) ltP0).trans l1P0
    have y0X0 := (hSw.cell (p := ⟨w6.heap.size, 0, none⟩) ltX0).trans l0X0
    have y1X0 := (hSw.cell (p := ⟨w6.heap.size, 1, none⟩) ltX0).trans l1X0
    clear hSw
    (try dsimp only at hSw)
    go_simp
    try with_reducible rfl
  case rs01 =>
  simp only [Act.put, List.setIfInBounds_toArray, List.set_cons_zero, List.set_cons_succ]
  refine wpAnyH_ready (rs := [2]) (by kernel_rfl) (by simp) ?_
  refine AllReadyH.cons (o := { dst := some 25, op := Go.Op.call { callee := Go.Callee.value (Go.Operand.func 17), args := #[Go.Operand.tmp 24], argTypes := #[39] }, type := 26, pos := "exact.go:4243", after := #[{ on := 1, ground := Go.Ground.data }], guard := none }) rfl (fun K hK => ?_) AllReadyH.nil
  go_simp
  go_at_call 17
  refine (to_Chain _ x0 _ ((unhide HA0).reads.later hHeld) (unhide HN0)).mono ?_
  rintro e wT ⟨vT, rfl, OT, hbw⟩
  have RT := OT.reads
  obtain ⟨a1T, d1T, rfl, -⟩ := open_Chain RT
  try go_wp2_with fail
  refine hK.out _ _ (hHeld.trans (hbw.mono hHeld.size)) (fun hHeld => ?_)
  clear hK K
  try simp only [Act.put, List.setIfInBounds_toArray, List.set_cons_zero, List.set_cons_succ]
  refine wpAnyH_ready (rs := [3]) (by kernel_rfl) (by simp) ?_
  refine AllReadyH.cons (o := { dst := some 26, op := Go.Op.call { callee := Go.Callee.value (Go.Operand.func 19), args := #[Go.Operand.tmp 23, Go.Operand.tmp 25], argTypes := #[26, 26] }, type := 4, pos := "exact.go:4243", after := #[{ on := 0, ground := Go.Ground.data }, { on := 2, ground := Go.Ground.data }, { on := 2, ground := Go.Ground.chain }], guard := none }) rfl (fun K hK => ?_) AllReadyH.nil
  go_simp
  go_at_call 19
  refine (eq_Chain _ _ x0 _ ((unhide Hx0).reads.later hHeld) RT).mono ?_
  rintro e wU0 ⟨rfl, hbw⟩
  try go_wp2_with fail
  refine hK.out _ _ (hHeld.trans (hbw.mono hHeld.size)) (fun hHeld => ?_)
  clear hK K
  try simp only [Act.put, List.setIfInBounds_toArray, List.set_cons_zero, List.set_cons_succ]
  refine wpAnyH_take (i := 4) (oi := { dst := some 27, op := Go.Op.unOp Go.UnOp.not 4 (Go.Operand.tmp 26), type := 4, pos := "exact.go:4243", after := #[{ on := 3, ground := Go.Ground.data }], guard := none }) (v := ?vs04) rfl (by kernel_rfl) (by kernel_rfl) (by kernel_rfl) (fun _ _ _ h => h) (Or.inl ⟨by rfl, ?hs04⟩) hHeld ?rs04
  case hs04 =>
    intro wS hSw
    (try dsimp only at hSw)
    go_simp
    try with_reducible rfl
  case rs04 =>
  simp only [Act.put, List.setIfInBounds_toArray, List.set_cons_zero, List.set_cons_succ]
  refine wpAnyH_done (by kernel_rfl) ?_ _
  refine NoPanic.normal ?_
  clear l0P0 l1P0 ltP0 l0X0 l1X0 ltX0 OT RT
  have hb : Below w10.heap.size w10 wU0 := hHeld
  clear hHeld hbw
  replace HA0 := hide ((unhide HA0).later hb)
  replace P0 := hide ((unhide P0).keep hb)
  replace HW := hide ((unhide HW).later hb)
  replace YW := hide ((unhide YW).keep hb)
  replace Hx0 := hide ((unhide Hx0).later hb)
  replace X0 := hide ((unhide X0).keep hb)
  replace HG := hide ((unhide HG).later hb)
  replace YG := hide ((unhide YG).keep hb)
  have ZwU0 : w10.heap.size ≤ wU0.heap.size := hb.size
  replace HB := hide ((unhide HB).trans (hb.mono (by omega)))
  clear hb
  have l0P0 := (unhide P0).at 0 _ rfl
  have l1P0 := (unhide P0).at 1 _ rfl
  have ltP0 : w.heap.size < wU0.heap.size := by omega
  have l0YW := (unhide YW).at 0 _ rfl
  have l1YW := (unhide YW).at 1 _ rfl
  have ltYW : w4.heap.size < wU0.heap.size := by omega
  have l0X0 := (unhide X0).at 0 _ rfl
  have l1X0 := (unhide X0).at 1 _ rfl
  have ltX0 : w6.heap.size < wU0.heap.size := by omega
  have l0YG := (unhide YG).at 0 _ rfl
  have l1YG := (unhide YG).at 1 _ rfl
  have ltYG : w8.heap.size < wU0.heap.size := by omega
  simp only [List.getElem_toArray, List.getElem_cons_zero, List.getElem_cons_succ] at l0P0 l1P0 l0YW l1YW l0X0 l1X0 l0YG l1YG
  go_wp2_with fail
  clear l0P0 l1P0 ltP0 l0YW l1YW ltYW l0X0 l1X0 ltX0 l0YG l1YG ltYG
  go_ret
  exact ⟨rfl, unhide HB⟩


set_option maxRecDepth 10000 in
set_option maxHeartbeats 1000000 in
theorem lawover_ChainText (u0 : List Value) (x0 : DChain) (w : World) (A0 : Lay.tChain.Reads w u0 x0) (NS : 1048576 < Lay.tChain.sz x0) :
    Calls Tryd.prog 4 #[.agg u0.toArray] w fun e w' => e = .returned (.bool true) ∧ Below w.heap.size w w' := by
  obtain ⟨a1p0, d1p0, rfl, -⟩ := open_Chain A0
  have HA0 := hide A0.liesIn
  clear A0
  have HB := hide (Below.refl w.heap.size w)
  go_enter Tryd.func4, Tryd.ntmps4
  go_wp2_with fail
  have nb : Below w.heap.size w (w.alloc (.cells #[.int .i64 x0.epoch, .slice a1p0 x0.ids.length d1p0] 39)) := (Below.refl w.heap.size w).alloc (Nat.le_refl _) _
  have P0 : Hid (Box w.heap.size #[.int .i64 x0.epoch, .slice a1p0 x0.ids.length d1p0] 39 (w.alloc (.cells #[.int .i64 x0.epoch, .slice a1p0 x0.ids.length d1p0] 39)) (w.heap.size)) := newBoxAt (by omega) (by simp)
  generalize haw1 : (w.alloc (.cells #[.int .i64 x0.epoch, .slice a1p0 x0.ids.length d1p0] 39)) = w1 at *
  have Gw1 : w.heap.size + 1 ≤ w1.heap.size := by rw [← haw1]; simp
  clear haw1
  replace HA0 := hide ((unhide HA0).later nb)
  have Zw1 : w.heap.size ≤ w1.heap.size := nb.size
  replace HB := hide ((unhide HB).trans (nb.mono (by omega)))
  clear nb
  refine (sz_Chain _ x0 (1048576) w1 (unhide HA0).reads (by omega)).mono ?_
  rintro e w2 ⟨rfl, hb⟩
  replace HA0 := hide ((unhide HA0).later hb)
  replace P0 := hide ((unhide P0).keep hb)
  have Zw2 : w1.heap.size ≤ w2.heap.size := hb.size
  replace HB := hide ((unhide HB).trans (hb.mono (by omega)))
  clear hb
  rw [szR_many (by omega)]
  go_wp2_with fail
  go_ret
  exact ⟨rfl, unhide HB⟩

end Go.Proofs.YtceoaphcjnfphaaDoor

namespace Go.Proofs.YtceoaphcjnfphaaDoor
open Go.RowKit

structure DChainResult where
  code : Int
  chain : DChain

def Lay.tChainResult : Lay DChainResult := Lay.via (Lay.pair Lay.int Lay.tChain) (fun x => (x.code, x.chain)) (fun p => ⟨p.1, p.2⟩)

theorem lies_ChainResult {w : World} {cs : List Value} {x : DChainResult} {bl : List Nat} : Lay.tChainResult.lies w cs x bl ↔ ∃ (a2 : Option Addr) (d2 : Nat) (b2 : List Nat), cs = [.int .i64 x.code, .int .i64 x.chain.epoch, .slice a2 x.chain.ids.length d2] ∧ bl = b2 ∧ (Lit.int .i64 x.code).wf = true ∧ (Lit.int .i64 x.chain.epoch).wf = true ∧ (Lay.sl Lay.int).lies w [.slice a2 x.chain.ids.length d2] x.chain.ids b2 := by
  constructor
  · intro h
    obtain ⟨c0_, r0_, e0_, s0_, rfl, rfl, h0, h1⟩ := h
    obtain ⟨rfl, w0, rfl⟩ := h0
    obtain ⟨a2, d2, q2, rfl, hq1, w1, l2⟩ := lies_Chain.1 h1
    exact ⟨a2, d2, q2, by simp, by simp [hq1], w0, w1, l2⟩
  · rintro ⟨a2, d2, b2, rfl, hbl, w0, w1, l2⟩
    rw [hbl]
    exact ⟨[.int .i64 x.code], [.int .i64 x.chain.epoch, .slice a2 x.chain.ids.length d2], [], b2, rfl, by simp, ⟨rfl, w0, rfl⟩, lies_Chain.2 ⟨a2, d2, b2, rfl, rfl, w1, l2⟩⟩

theorem open_ChainResult {w : World} {cs : List Value} {x : DChainResult} (h : Lay.tChainResult.Reads w cs x) : ∃ (a2 : Option Addr) (d2 : Nat), cs = [.int .i64 x.code, .int .i64 x.chain.epoch, .slice a2 x.chain.ids.length d2] ∧ Lay.tChain.Reads w [.int .i64 x.chain.epoch, .slice a2 x.chain.ids.length d2] x.chain := by
  obtain ⟨bl, h⟩ := h
  obtain ⟨a2, d2, b2, rfl, -, w0, w1, l2⟩ := lies_ChainResult.1 h
  exact ⟨a2, d2, rfl, ⟨_, lies_Chain.2 ⟨a2, d2, _, rfl, rfl, w1, l2⟩⟩⟩

end Go.Proofs.YtceoaphcjnfphaaDoor

namespace Go.Proofs.YtceoaphcjnfphaaDoor
open Go.RowKit

structure DIntResult where
  code : Int
  value : Int

def Lay.tIntResult : Lay DIntResult := Lay.via (Lay.pair Lay.int Lay.int) (fun x => (x.code, x.value)) (fun p => ⟨p.1, p.2⟩)

theorem lies_IntResult {w : World} {cs : List Value} {x : DIntResult} {bl : List Nat} : Lay.tIntResult.lies w cs x bl ↔ cs = [.int .i64 x.code, .int .i64 x.value] ∧ bl = [] ∧ (Lit.int .i64 x.code).wf = true ∧ (Lit.int .i64 x.value).wf = true := by
  constructor
  · intro h
    obtain ⟨c0_, r0_, e0_, s0_, rfl, rfl, h0, h1⟩ := h
    obtain ⟨rfl, w0, rfl⟩ := h0
    obtain ⟨rfl, w1, rfl⟩ := h1
    exact ⟨by simp, by simp, w0, w1⟩
  · rintro ⟨rfl, hbl, w0, w1⟩
    rw [hbl]
    exact ⟨[.int .i64 x.code], [.int .i64 x.value], [], [], rfl, by simp, ⟨rfl, w0, rfl⟩, ⟨rfl, w1, rfl⟩⟩

end Go.Proofs.YtceoaphcjnfphaaDoor

namespace Go.Proofs.YtceoaphcjnfphaaDoor
open Go.RowKit

/-- Where an id stands first; how many there are, where it doesn't. -/
def atC (ids : List Int) (id : Int) : Nat := ids.findIdx (· == id)
/-- The place as a number, -1 where there is none. -/
def placeC (ids : List Int) (id : Int) : Int := if atC ids id < ids.length then (atC ids id : Int) else -1
/-- The first fault among ids, pre: those ahead of them. -/
def idsF : List Int → List Int → Int
  | _, [] => 0
  | pre, z :: zs => if 1 ≤ z ∧ z ≤ 5 then (if z ∈ pre then 6 else idsF (pre ++ [z]) zs) else 3
def chainFault (x : DChain) : Int :=
  if 1 ≤ x.epoch ∧ x.epoch ≤ 999 then (if 1 ≤ x.ids.length ∧ x.ids.length ≤ 5 then idsF [] x.ids else 2) else 3
def noChain : DChain := ⟨0, []⟩
def badChain (c : Int) : DChainResult := ⟨c, noChain⟩
def upToC (n : Nat) : List Int := (List.range n).map fun (k : Nat) => (k : Int) + 1
def newChainR (n : Int) : DChainResult := if 1 ≤ n ∧ n ≤ 5 then ⟨0, ⟨1, upToC n.toNat⟩⟩ else badChain 3
/-- Who stands by behind id; 0: nobody. -/
def nextC (ids : List Int) (id : Int) (d : Int) : Int :=
  if placeC ids id < 0 ∨ placeC ids id + d < 0 ∨ (ids.length : Int) ≤ placeC ids id + d then 0 else ids.getD (placeC ids id + d).toNat 0
def besideR (x : DChain) (id d : Int) : DIntResult :=
  if chainFault x = 0 then
    if placeC x.ids id < 0 then ⟨4, 0⟩ else if nextC x.ids id d = 0 then ⟨8, 0⟩ else ⟨0, nextC x.ids id d⟩
  else ⟨chainFault x, 0⟩
def cutCh (x : DChain) (id : Int) : DChain := ⟨x.epoch + 1, x.ids.filter fun z => z != id⟩
def cutR (x : DChain) (id : Int) : DChainResult :=
  if chainFault x = 0 then
    if placeC x.ids id < 0 then badChain 4 else if x.ids.length = 1 then badChain 8 else if 999 ≤ x.epoch then badChain 2 else ⟨0, cutCh x id⟩
  else badChain (chainFault x)
def joinCh (x : DChain) (id : Int) : DChain := ⟨x.epoch + 1, x.ids ++ [id]⟩
def joinR (x : DChain) (id : Int) : DChainResult :=
  if chainFault x = 0 then
    if 1 ≤ id ∧ id ≤ 5 then (if 0 ≤ placeC x.ids id then badChain 6 else if 999 ≤ x.epoch then badChain 2 else ⟨0, joinCh x id⟩) else badChain 3
  else badChain (chainFault x)

theorem atC_le (ids : List Int) (id : Int) : atC ids id ≤ ids.length := List.findIdx_le_length
theorem placeC_bd (ids : List Int) (id : Int) : -1 ≤ placeC ids id ∧ placeC ids id < ids.length + 1 := by
  unfold placeC
  split <;> omega
theorem placeC_neg (ids : List Int) (id : Int) : placeC ids id < 0 ↔ id ∉ ids := by
  unfold placeC atC
  have h := List.findIdx_lt_length (p := fun z => z == id) (xs := ids)
  constructor
  · intro h1 hm
    rw [if_pos (h.2 ⟨id, hm, by simp⟩)] at h1
    omega
  · intro h1
    rw [if_neg]
    · omega
    · intro h2
      obtain ⟨z, hz, e⟩ := h.1 h2
      rw [beq_iff_eq] at e
      rw [e] at hz
      exact h1 hz
/-- No one of the first k is id, and the k-th is. -/
theorem placeC_at {ids : List Int} {id : Int} {k : Nat} (hk : k < ids.length) (h : ids[k] = id) (hb : ∀ j (hj : j < k), ids[j] ≠ id) : placeC ids id = (k : Int) := by
  have e : atC ids id = k := by
    unfold atC
    rw [List.findIdx_eq hk]
    exact ⟨by simpa using h, fun j hj => by simpa using hb j hj⟩
  rw [placeC, e, if_pos hk]
theorem placeC_none {ids : List Int} {id : Int} (hb : ∀ j (hj : j < ids.length), ids[j] ≠ id) : placeC ids id = -1 := by
  have h1 : placeC ids id < 0 := by
    rw [placeC_neg]
    intro hm
    obtain ⟨j, hj, e⟩ := List.getElem_of_mem hm
    exact hb j hj e
  have := placeC_bd ids id
  omega
theorem placeC_get {ids : List Int} {id : Int} (h : 0 ≤ placeC ids id) : ∃ (k : Nat) (hk : k < ids.length), placeC ids id = (k : Int) ∧ ids[k] = id ∧ ∀ j (hj : j < k), ids[j] ≠ id := by
  have hl : atC ids id < ids.length := by
    unfold placeC at h
    split at h
    · assumption
    · omega
  refine ⟨atC ids id, hl, by rw [placeC, if_pos hl], ?_, fun j hj => ?_⟩
  · have := List.findIdx_getElem (xs := ids) (p := fun z => z == id) (w := hl)
    exact beq_iff_eq.1 this
  · have := List.not_of_lt_findIdx (xs := ids) (p := fun z => z == id) hj
    simpa using this
theorem idsF_vals : ∀ (zs pre : List Int), 0 ≤ idsF pre zs ∧ idsF pre zs ≤ 6
  | [], _ => by simp [idsF]
  | z :: zs, pre => by
    rw [idsF]
    split
    · split
      · omega
      · exact idsF_vals zs _
    · omega
theorem chainFault_vals (x : DChain) : 0 ≤ chainFault x ∧ chainFault x ≤ 6 := by
  have := idsF_vals x.ids []
  unfold chainFault
  split
  · split <;> omega
  · omega
theorem chainFault_bd (x : DChain) : -1000000000 ≤ chainFault x ∧ chainFault x ≤ 1000000000 := by have := chainFault_vals x; omega
/-- From the k-th on: the loop's own spelling. -/
theorem idsF_step (ids : List Int) (k : Nat) (hk : k < ids.length) : idsF (ids.take k) (ids.drop k) = if 1 ≤ ids[k] ∧ ids[k] ≤ 5 then (if ids[k] ∈ ids.take k then 6 else idsF (ids.take (k + 1)) (ids.drop (k + 1))) else 3 := by
  conv => lhs; rw [List.drop_eq_getElem_cons hk, idsF]
  rw [List.take_succ_eq_append_getElem hk]
theorem idsF_end (ids : List Int) : idsF (ids.take ids.length) (ids.drop ids.length) = 0 := by simp [idsF]
/-- The k-th id stands first at k just if it isn't among those ahead. -/
theorem placeC_self {ids : List Int} {k : Nat} (hk : k < ids.length) : (placeC ids ids[k] = (k : Int)) ↔ ids[k] ∉ ids.take k := by
  constructor
  · intro h hm
    obtain ⟨j, hj, e⟩ := List.getElem_of_mem hm
    rw [List.length_take] at hj
    rw [List.getElem_take] at e
    obtain ⟨m, hm1, h1, h2, h3⟩ := placeC_get (ids := ids) (id := ids[k]) (by omega)
    obtain rfl : m = k := by omega
    exact h3 j (by omega) e
  · intro h
    refine placeC_at hk rfl fun j hj e => h ?_
    rw [List.mem_iff_getElem]
    exact ⟨j, by rw [List.length_take]; omega, by rw [List.getElem_take]; exact e⟩
/-- A chain without a fault. -/
structure ChainOK (x : DChain) : Prop where
  epoch : 1 ≤ x.epoch ∧ x.epoch ≤ 999
  len : 1 ≤ x.ids.length ∧ x.ids.length ≤ 5
  ids : ∀ z ∈ x.ids, 1 ≤ z ∧ z ≤ 5
  nodup : x.ids.Nodup
theorem idsF_zero : ∀ (zs pre : List Int), idsF pre zs = 0 → (∀ z ∈ zs, 1 ≤ z ∧ z ≤ 5) ∧ zs.Nodup ∧ ∀ z ∈ zs, z ∉ pre
  | [], _, _ => by simp
  | z :: zs, pre, h => by
    rw [idsF] at h
    split at h
    · rename_i h1
      split at h
      · simp at h
      · rename_i h2
        obtain ⟨q1, q2, q3⟩ := idsF_zero zs _ h
        refine ⟨?_, ?_, ?_⟩
        · intro u hu
          rcases List.mem_cons.1 hu with rfl | hu
          · exact h1
          · exact q1 u hu
        · refine List.nodup_cons.2 ⟨fun hm => q3 z hm (by simp), q2⟩
        · intro u hu hp
          rcases List.mem_cons.1 hu with rfl | hu
          · exact h2 hp
          · exact q3 u hu (List.mem_append_left _ hp)
    · simp at h
theorem idsF_ok : ∀ (zs pre : List Int), (∀ z ∈ zs, 1 ≤ z ∧ z ≤ 5) → zs.Nodup → (∀ z ∈ zs, z ∉ pre) → idsF pre zs = 0
  | [], _, _, _, _ => by simp [idsF]
  | z :: zs, pre, h1, h2, h3 => by
    rw [idsF, if_pos (h1 z (by simp)), if_neg (h3 z (by simp))]
    obtain ⟨n1, n2⟩ := List.nodup_cons.1 h2
    refine idsF_ok zs _ (fun u hu => h1 u (List.mem_cons_of_mem _ hu)) n2 fun u hu hp => ?_
    rcases List.mem_append.1 hp with hp | hp
    · exact h3 u (List.mem_cons_of_mem _ hu) hp
    · rw [List.mem_singleton.1 hp] at hu
      exact n1 hu
theorem chainFault_zero {x : DChain} (h : chainFault x = 0) : ChainOK x := by
  unfold chainFault at h
  split at h
  · rename_i h1
    split at h
    · rename_i h2
      obtain ⟨q1, q2, -⟩ := idsF_zero _ _ h
      exact ⟨h1, h2, q1, q2⟩
    · simp at h
  · simp at h
theorem ChainOK.fault {x : DChain} (h : ChainOK x) : chainFault x = 0 := by
  rw [chainFault, if_pos h.epoch, if_pos h.len]
  exact idsF_ok _ _ h.ids h.nodup (by simp)
theorem upToC_len (n : Nat) : (upToC n).length = n := by simp [upToC]
theorem upToC_succ (n : Nat) : upToC (n + 1) = upToC n ++ [(n : Int) + 1] := by simp [upToC, List.range_succ]
theorem upToC_bd {n : Nat} {z : Int} (h : z ∈ upToC n) : 1 ≤ z ∧ z ≤ n := by
  simp only [upToC, List.mem_map, List.mem_range] at h
  obtain ⟨k, hk, rfl⟩ := h
  omega
theorem besideR_bad {x : DChain} {id d : Int} (h : chainFault x ≠ 0) : besideR x id d = ⟨chainFault x, 0⟩ := by rw [besideR, if_neg h]
theorem cutR_bad {x : DChain} {id : Int} (h : chainFault x ≠ 0) : cutR x id = badChain (chainFault x) := by rw [cutR, if_neg h]
theorem joinR_bad {x : DChain} {id : Int} (h : chainFault x ≠ 0) : joinR x id = badChain (chainFault x) := by rw [joinR, if_neg h]
end Go.Proofs.YtceoaphcjnfphaaDoor

namespace Go.Proofs.YtceoaphcjnfphaaDoor
open Go.RowKit

theorem vcnt_Chain (x : DChain) : Lay.tChain.vcnt x = (Lay.sl Lay.int).vcnt x.ids := by
  show 0 + ((Lay.sl Lay.int).vcnt x.ids) = (Lay.sl Lay.int).vcnt x.ids
  omega
theorem mkv_Chain (k : Int) (x : DChain) : Lay.tChain.mkv k x = ⟨x.epoch, (Lay.sl Lay.int).mkv (k) x.ids⟩ := by
  simp [Lay.tChain, Lay.via, Lay.pair, Lay.int]
theorem own_Chain {w : World} {cs : List Value} {x : DChain} {bl : List Nat} (h : Lay.tChain.Own w cs x bl) : ∃ (a1 : Option Addr) (d1 : Nat) (g1 : List Nat), cs = [.int .i64 x.epoch, .slice a1 x.ids.length d1] ∧ bl = g1 ∧ (Lay.sl Lay.int).Own w [.slice a1 x.ids.length d1] x.ids g1 ∧ (Lit.int .i64 x.epoch).wf = true := by
  obtain ⟨hl, hn, hf⟩ := h
  obtain ⟨a1, d1, b1, rfl, hbl, w0, l1⟩ := lies_Chain.1 hl
  rw [hbl] at hn hf
  exact ⟨a1, d1, b1, rfl, hbl, ⟨l1, hn, hf⟩, w0⟩
theorem mkOwn_Chain {w : World} {x : DChain} {c1 : List Value} {g1 : List Nat} (O1 : (Lay.sl Lay.int).Own w c1 x.ids g1) (v0 : (Lit.int .i64 x.epoch).wf = true) (hn : (g1).Nodup) : Lay.tChain.Own w ([.int .i64 x.epoch] ++ c1) x (g1) := by
  refine ⟨⟨[.int .i64 x.epoch], c1, [], g1, rfl, by simp, ⟨rfl, v0, rfl⟩, O1.1⟩, hn, ?_⟩
  intro b hb o
  exact O1.2.2 b hb o

end Go.Proofs.YtceoaphcjnfphaaDoor

namespace Go.Proofs.YtceoaphcjnfphaaDoor
open Go.RowKit

theorem vcnt_ChainResult (x : DChainResult) : Lay.tChainResult.vcnt x = Lay.tChain.vcnt x.chain := by
  show 0 + (Lay.tChain.vcnt x.chain) = Lay.tChain.vcnt x.chain
  omega
theorem mkv_ChainResult (k : Int) (x : DChainResult) : Lay.tChainResult.mkv k x = ⟨x.code, Lay.tChain.mkv (k) x.chain⟩ := by
  simp [Lay.tChainResult, Lay.via, Lay.pair, Lay.int]
theorem own_ChainResult {w : World} {cs : List Value} {x : DChainResult} {bl : List Nat} (h : Lay.tChainResult.Own w cs x bl) : ∃ (a2 : Option Addr) (d2 : Nat) (g1 : List Nat), cs = [.int .i64 x.code, .int .i64 x.chain.epoch, .slice a2 x.chain.ids.length d2] ∧ bl = g1 ∧ Lay.tChain.Own w [.int .i64 x.chain.epoch, .slice a2 x.chain.ids.length d2] x.chain g1 ∧ (Lit.int .i64 x.code).wf = true := by
  obtain ⟨hl, hn, hf⟩ := h
  obtain ⟨a2, d2, b2, rfl, hbl, w0, w1, l2⟩ := lies_ChainResult.1 hl
  rw [hbl] at hn hf
  exact ⟨a2, d2, b2, rfl, hbl, ⟨lies_Chain.2 ⟨a2, d2, b2, rfl, rfl, w1, l2⟩, hn, hf⟩, w0⟩
theorem mkOwn_ChainResult {w : World} {x : DChainResult} {c1 : List Value} {g1 : List Nat} (O1 : Lay.tChain.Own w c1 x.chain g1) (v0 : (Lit.int .i64 x.code).wf = true) (hn : (g1).Nodup) : Lay.tChainResult.Own w ([.int .i64 x.code] ++ c1) x (g1) := by
  refine ⟨⟨[.int .i64 x.code], c1, [], g1, rfl, by simp, ⟨rfl, v0, rfl⟩, O1.1⟩, hn, ?_⟩
  intro b hb o
  exact O1.2.2 b hb o

end Go.Proofs.YtceoaphcjnfphaaDoor

namespace Go.Proofs.YtceoaphcjnfphaaDoor
open Go.RowKit

theorem lies_store {α : Type} {A : Lay α} {w w4 : World} {cs vs : List Value} {y : α} {lo hi : Nat} (h : A.LiesIn w4 cs y lo hi) (hlo : w.heap.size < lo) (hhi : hi ≤ w4.heap.size) :
    A.LiesIn (setAll w4 w.heap.size 0 vs) cs y w.heap.size (setAll w4 w.heap.size 0 vs).heap.size := by
  rw [size_setAll]
  exact (h.ext (ext_setAll (fun q => q = w.heap.size) (Ext.refl _ _) _ _ _ rfl) (fun q h1 h2 h3 => by omega)).mono (by omega) hhi
theorem own_store {α : Type} {A : Lay α} {w w4 : World} {cs vs : List Value} {y : α} {lo hi : Nat} (h : A.OwnIn w4 cs y lo hi) (hlo : w.heap.size < lo) (hhi : hi ≤ w4.heap.size) :
    A.OwnIn (setAll w4 w.heap.size 0 vs) cs y w.heap.size (setAll w4 w.heap.size 0 vs).heap.size := by
  rw [size_setAll]
  exact (h.ext (ext_setAll (fun q => q = w.heap.size) (Ext.refl _ _) _ _ _ rfl) (fun q h1 h2 h3 => by omega)).mono (by omega) hhi

/-- The block s alone may turn, and it is none of those that the answer lies in. -/
theorem lies_store' {α : Type} {A : Lay α} {w4 : World} {s : Nat} {cs vs : List Value} {y : α} {lo hi : Nat} (h : A.LiesIn w4 cs y lo hi) (hs : s < lo) : A.LiesIn (setAll w4 s 0 vs) cs y lo hi :=
  h.ext (ext_setAll (fun q => q = s) (Ext.refl _ _) _ _ _ rfl) (fun q h1 h2 h3 => by omega)
theorem own_store' {α : Type} {A : Lay α} {w4 : World} {s : Nat} {cs vs : List Value} {y : α} {lo hi : Nat} (h : A.OwnIn w4 cs y lo hi) (hs : s < lo) : A.OwnIn (setAll w4 s 0 vs) cs y lo hi :=
  h.ext (ext_setAll (fun q => q = s) (Ext.refl _ _) _ _ _ rfl) (fun q h1 h2 h3 => by omega)

theorem nil_own {α : Type} {A : Lay α} {w : World} {lo hi : Nat} : (Lay.sl A).OwnIn w [.slice none 0 0] [] lo hi := ⟨[], ⟨⟨none, 0, rfl, by simp, Or.inl ⟨rfl, rfl⟩⟩, by simp, by simp⟩, by simp⟩

end Go.Proofs.YtceoaphcjnfphaaDoor

namespace Go.Proofs.YtceoaphcjnfphaaDoor
open Go.RowKit

theorem int_cell {w : World} {b off cap k : Nat} {zs : List Int} (h : (Lay.sl Lay.int).Reads w [.slice (some ⟨b, off, none⟩) zs.length cap] zs) (hk : k < zs.length) : w.cell? ⟨b, off + k, none⟩ = some (.int .i64 zs[k]) := by
  obtain ⟨bl, h⟩ := h
  obtain ⟨ao, cp, e, -, -, h⟩ := Lay.lies_ints.1 h
  simp only [Value.slice.injEq] at e
  obtain ⟨rfl, -, rfl⟩ := e
  rcases h with ⟨rfl, -⟩ | ⟨b', off', e2, -, -, hj⟩
  · simp at hk
  · simp only [Option.some.injEq, Addr.mk.injEq, and_true] at e2
    obtain ⟨rfl, rfl⟩ := e2
    rw [hj k hk]
    simp [List.getD, hk]
theorem int_wf {w : World} {v : Value} {zs : List Int} (h : (Lay.sl Lay.int).Reads w [v] zs) : ∀ z ∈ zs, (Lit.int .i64 z).wf = true := (Lay.ints_reads h).wf
theorem own_chainR {w : World} {c : Int} {v : Value} {x : DChain} {lo hi : Nat} (hc : (Lit.int .i64 c).wf = true) (he : (Lit.int .i64 x.epoch).wf = true) (h : (Lay.sl Lay.int).OwnIn w [v] x.ids lo hi) : Lay.tChainResult.OwnIn w [.int .i64 c, .int .i64 x.epoch, v] ⟨c, x⟩ lo hi := by
  obtain ⟨bl, O, i⟩ := h
  exact ⟨bl, mkOwn_ChainResult (x := ⟨c, x⟩) (mkOwn_Chain O he O.2.1) hc O.2.1, i⟩
theorem lies_chainR {w : World} {c : Int} {a : Option Addr} {m d : Nat} {x : DChain} {lo hi : Nat} (hc : (Lit.int .i64 c).wf = true) (he : (Lit.int .i64 x.epoch).wf = true) (h : (Lay.sl Lay.int).LiesIn w [.slice a m d] x.ids lo hi) : Lay.tChainResult.LiesIn w [.int .i64 c, .int .i64 x.epoch, .slice a m d] ⟨c, x⟩ lo hi := by
  obtain ⟨bl, l, i⟩ := h
  have hm : m = x.ids.length := (Lay.Reads.cap ⟨bl, l⟩).1
  subst hm
  exact ⟨bl, lies_ChainResult.2 ⟨a, d, bl, rfl, rfl, hc, he, l⟩, i⟩
theorem own_badChain {w : World} {c : Int} {lo hi : Nat} (hc : -1000000000 ≤ c ∧ c ≤ 1000000000) : Lay.tChainResult.OwnIn w [.int .i64 c, .int .i64 0, .slice none 0 0] (badChain c) lo hi := own_chainR (x := noChain) (wf_of_bd hc) (by decide) nil_own
theorem own_intRC {w : World} {c n : Int} {lo hi : Nat} (hc : (Lit.int .i64 c).wf = true) (hn : (Lit.int .i64 n).wf = true) : Lay.tIntResult.OwnIn w [.int .i64 c, .int .i64 n] ⟨c, n⟩ lo hi :=
  ⟨[], ⟨lies_IntResult.2 ⟨rfl, rfl, hc, hn⟩, by simp, by simp⟩, by simp⟩
end Go.Proofs.YtceoaphcjnfphaaDoor

namespace Go.Proofs.YtceoaphcjnfphaaDoor
open Go.RowKit

theorem isNodeIdC (n : Int) (w : World) :
    Calls Tryd.prog 29 #[.int .i64 n] w fun e w' => e = .returned (.bool (decide (1 ≤ n) && decide (n ≤ 5))) ∧ w' = w := by
  by_cases h1 : 1 ≤ n
  · have d1 : decide (1 ≤ n) = true := by simpa using h1
    rw [d1]
    cases d2 : decide (n ≤ 5) <;>
    · go_enter Tryd.func29, Tryd.ntmps29
      go_wp2_with fail
      go_ret
      exact ⟨rfl, rfl⟩
  · have d1 : decide (1 ≤ n) = false := by simpa using h1
    rw [d1]
    go_enter Tryd.func29, Tryd.ntmps29
    go_wp2_with fail
    go_ret
    exact ⟨rfl, rfl⟩
end Go.Proofs.YtceoaphcjnfphaaDoor

namespace Go.Proofs.YtceoaphcjnfphaaDoor
open Go.RowKit

theorem isChainEpochC (n : Int) (w : World) :
    Calls Tryd.prog 27 #[.int .i64 n] w fun e w' => e = .returned (.bool (decide (1 ≤ n) && decide (n ≤ 999))) ∧ w' = w := by
  by_cases h1 : 1 ≤ n
  · have d1 : decide (1 ≤ n) = true := by simpa using h1
    rw [d1]
    cases d2 : decide (n ≤ 999) <;>
    · go_enter Tryd.func27, Tryd.ntmps27
      go_wp2_with fail
      go_ret
      exact ⟨rfl, rfl⟩
  · have d1 : decide (1 ≤ n) = false := by simpa using h1
    rw [d1]
    go_enter Tryd.func27, Tryd.ntmps27
    go_wp2_with fail
    go_ret
    exact ⟨rfl, rfl⟩
end Go.Proofs.YtceoaphcjnfphaaDoor

namespace Go.Proofs.YtceoaphcjnfphaaDoor
open Go.RowKit

/-- Any part of a list of numbers that stands in memory. -/
theorem part_reads {w : World} {b off cap : Nat} {zs : List Int} (h : (Lay.sl Lay.int).Reads w [.slice (some ⟨b, off, none⟩) zs.length cap] zs) (m n c : Nat) (hm : m + n ≤ zs.length) (hc : n ≤ c) :
    (Lay.sl Lay.int).Reads w [.slice (some ⟨b, off + m, none⟩) n c] ((zs.drop m).take n) := by
  have hi := Lay.ints_reads h
  have hbig := h.big
  obtain ⟨ao, cp, e, hwf, hcs⟩ := hi
  have hlen : ((zs.drop m).take n).length = n := by simp; omega
  refine Lay.reads_ints ?_ (fun ao' cap' e' => ?_) (by rw [hlen]; omega)
  · refine ⟨_, c, by rw [hlen], fun z hz => hwf z (List.mem_of_mem_drop (List.mem_of_mem_take hz)), fun hp => ⟨b, off + m, rfl, fun j hj => ?_⟩⟩
    rw [hlen] at hp hj
    obtain ⟨b', off', hao, hc1⟩ := hcs (by omega)
    simp only [Value.slice.injEq] at e
    obtain ⟨rfl, -, -⟩ := e
    simp only [Option.some.injEq, Addr.mk.injEq, and_true] at hao
    obtain ⟨rfl, rfl⟩ := hao
    rw [Nat.add_assoc, hc1 (m + j) (by omega)]
    simp only [List.getD]
    rw [List.getElem?_take, if_pos hj, List.getElem?_drop]
  · simp only [Value.slice.injEq] at e'
    rw [hlen]
    omega
/-- The first numbers of a list. -/
theorem take_reads {w : World} {ao : Option Addr} {n cap : Nat} {zs : List Int} (h : (Lay.sl Lay.int).Reads w [.slice ao n cap] zs) (k : Nat) (hk : k ≤ zs.length) :
    (Lay.sl Lay.int).Reads w [.slice ao k cap] (zs.take k) := by
  have hc := h.cap
  by_cases h0 : k = 0
  · subst h0
    rw [List.take_zero]
    exact Lay.reads_ints ⟨ao, cap, rfl, by simp, fun hp => by simp at hp⟩ (fun _ _ _ => by simp) (by simp)
  · have hi := Lay.ints_reads h
    obtain ⟨ao', cp, e, hwf, hcs⟩ := hi
    obtain ⟨b', off', hao, hc1⟩ := hcs (by omega)
    simp only [Value.slice.injEq] at e
    obtain ⟨rfl, rfl, rfl⟩ := e
    subst hao
    have := part_reads h 0 k cap (by omega) (by omega)
    simpa using this

end Go.Proofs.YtceoaphcjnfphaaDoor

namespace Go.Proofs.YtceoaphcjnfphaaDoor
open Go.RowKit

theorem isNodeCountC (n : Int) (w : World) :
    Calls Tryd.prog 45 #[.int .i64 n] w fun e w' => e = .returned (.bool (decide (1 ≤ n) && decide (n ≤ 5))) ∧ w' = w := by
  by_cases h1 : 1 ≤ n
  · have d1 : decide (1 ≤ n) = true := by simpa using h1
    rw [d1]
    cases d2 : decide (n ≤ 5) <;>
    · go_enter Tryd.func45, Tryd.ntmps45
      go_wp2_with fail
      go_ret
      exact ⟨rfl, rfl⟩
  · have d1 : decide (1 ≤ n) = false := by simpa using h1
    rw [d1]
    go_enter Tryd.func45, Tryd.ntmps45
    go_wp2_with fail
    go_ret
    exact ⟨rfl, rfl⟩

set_option maxRecDepth 10000 in
set_option maxHeartbeats 1000000 in
theorem indexI (v : Value) (ids : List Int) (id : Int) (w : World) (R : (Lay.sl Lay.int).Reads w [v] ids) :
    Calls Tryd.prog 21 #[v, .int .i64 id] w fun e w' => e = .returned (.int .i64 (placeC ids id)) ∧ w' = w := by
  obtain ⟨ao, cap, rfl⟩ := open_sl R
  have hbig := R.big
  have H := hide R
  clear R
  go_enter Tryd.func21, Tryd.ntmps21
  go_wp2_with fail
  go_loop [8] (fun i => ∃ k : Nat, k ≤ ids.length ∧ i = .int .i64 k ∧ (∀ j (hj : j < ids.length), j < k → ids[j] ≠ id)) (fun i => ids.length - (intOf i).toNat)
  case atStart => exact ⟨0, Nat.zero_le _, rfl, fun j _ h => by omega⟩
  case round =>
    obtain ⟨k, hk, rfl, hz⟩ := hrel
    by_cases hlt : k < ids.length
    · obtain ⟨b2, off, rfl, -⟩ := Lay.sl_addr (unhide H) (by omega)
      have c1 := int_cell (unhide H) hlt
      cases hq : (id == ids[k])
      · have HZ : Hid (∀ j (hj : j < ids.length), j < k + 1 → ids[j] ≠ id) := fun j hj hjk => by
          by_cases h2 : j < k
          · exact hz j hj h2
          · obtain rfl : j = k := by omega
            intro h3
            rw [h3] at hq
            simp at hq
        clear hz
        generalize ids[k] = z at *
        go_wp2_with fail
        go_round
        case rel => exact ⟨k + 1, by omega, by go_num, unhide HZ⟩
        case measure => simp [intOf]; omega
      · have HP := hide (placeC_at hlt (beq_iff_eq.1 hq).symm (fun j hj => hz j (by omega) hj))
        clear hz
        generalize ids[k] = z at *
        go_wp2_with fail
        go_ret
        exact ⟨by rw [unhide HP]; rfl, rfl⟩
    · obtain rfl : k = ids.length := by omega
      have HP := hide (placeC_none (id := id) (fun j hj => hz j hj hj))
      clear hz
      go_wp2_with fail
      go_ret
      exact ⟨by rw [unhide HP]; rfl, rfl⟩

theorem containsI (v : Value) (ids : List Int) (id : Int) (w : World) (R : (Lay.sl Lay.int).Reads w [v] ids) :
    Calls Tryd.prog 30 #[v, .int .i64 id] w fun e w' => e = .returned (.bool (decide (0 ≤ placeC ids id))) ∧ w' = w := by
  have HL := hide (indexI v ids id w R)
  obtain ⟨ao, cap, rfl⟩ := open_sl R
  generalize placeC ids id = n at *
  clear R
  go_enter Tryd.func30, Tryd.ntmps30
  go_wp2_with fail
  refine (unhide HL).mono ?_
  rintro e w1 ⟨rfl, h1⟩
  subst w1
  clear HL
  go_wp2_with fail
  go_ret
  exact ⟨rfl, rfl⟩

def idsFaultP (ids : List Int) : Int := if 1 ≤ ids.length ∧ ids.length ≤ 5 then idsF [] ids else 2
theorem idsFaultP_many {ids : List Int} (h : (decide (1 ≤ (ids.length : Int)) && decide ((ids.length : Int) ≤ 5)) = false) : idsFaultP ids = 2 := by
  rw [idsFaultP, if_neg]
  intro h2
  rw [decide_eq_true (by omega), decide_eq_true (by omega)] at h
  simp at h
theorem idsFaultP_few {ids : List Int} (h : (decide (1 ≤ (ids.length : Int)) && decide ((ids.length : Int) ≤ 5)) = true) : idsFaultP ids = idsF (ids.take 0) (ids.drop 0) := by
  rw [idsFaultP, if_pos]
  · simp
  · simp at h
    omega
theorem mem_place (ids : List Int) (z : Int) : decide (0 ≤ placeC ids z) = true ↔ z ∈ ids := by
  have h := placeC_neg ids z
  rw [decide_eq_true_iff]
  constructor
  · intro h1
    refine Decidable.byContradiction fun h2 => ?_
    have := h.2 h2
    omega
  · intro h1
    refine Decidable.byContradiction fun h2 => ?_
    exact h.1 (by omega) h1

set_option maxRecDepth 10000 in
set_option maxHeartbeats 1000000 in
theorem idsFaultC (v : Value) (ids : List Int) (w : World) (R : (Lay.sl Lay.int).Reads w [v] ids) :
    Calls Tryd.prog 28 #[v] w fun e w' => e = .returned (.int .i64 (idsFaultP ids)) ∧ w' = w := by
  obtain ⟨ao, cap, rfl⟩ := open_sl R
  have hbig := R.big
  have hcap := R.cap
  have H := hide R
  clear R
  go_enter Tryd.func28, Tryd.ntmps28
  go_wp2_with fail
  refine (isNodeCountC (ids.length : Int) w).mono ?_
  rintro e w1 ⟨rfl, h1⟩
  subst w1
  cases d1 : (decide (1 ≤ (ids.length : Int)) && decide ((ids.length : Int) ≤ 5))
  · have HF := hide (idsFaultP_many d1)
    clear d1
    go_wp2_with fail
    go_ret
    exact ⟨by rw [unhide HF]; rfl, rfl⟩
  · have HF := hide (idsFaultP_few d1)
    clear d1
    go_wp2_with fail
    go_loop [11] (fun i => ∃ k : Nat, k ≤ ids.length ∧ i = .int .i64 k ∧ idsFaultP ids = idsF (ids.take k) (ids.drop k)) (fun i => ids.length - (intOf i).toNat)
    case atStart => exact ⟨0, Nat.zero_le _, rfl, unhide HF⟩
    case round =>
      obtain ⟨k, hk, rfl, hz⟩ := hrel
      clear HF
      by_cases hlt : k < ids.length
      · rw [idsF_step ids k hlt] at hz
        obtain ⟨b2, off, rfl, -⟩ := Lay.sl_addr (unhide H) (by omega)
        have c1 := int_cell (unhide H) hlt
        have HC := hide (containsI (.slice (some ⟨b2, off, none⟩) k cap) (ids.take k) ids[k] w (take_reads (unhide H) k (by omega)))
        have HM := hide (mem_place (ids.take k) ids[k])
        have hdl : decide ((k : Int) < (ids.length : Int)) = true := by simp; omega
        have HZ := hide hz
        have hkc : k ≤ cap := by omega
        clear hz
        generalize ids[k] = z at *
        generalize ids.take k = zk at *
        go_wp2_with fail
        refine (isNodeIdC z w).mono ?_
        rintro e w1 ⟨rfl, h1⟩
        subst w1
        cases d2 : (decide (1 ≤ z) && decide (z ≤ 5))
        · have hz := unhide HZ
          rw [if_neg (by intro h; simp at d2; omega)] at hz
          have HF := hide hz
          clear hz HZ d2
          go_wp2_with fail
          go_ret
          exact ⟨by rw [unhide HF]; rfl, rfl⟩
        · have hz := unhide HZ
          rw [if_pos (by simpa using d2)] at hz
          clear HZ d2
          have HZ := hide hz
          clear hz
          go_wp2_with fail
          refine (unhide HC).mono ?_
          rintro e w1 ⟨rfl, h1⟩
          subst w1
          cases d3 : decide (0 ≤ placeC zk z)
          · have hz := unhide HZ
            rw [if_neg (fun hm => by rw [(unhide HM).2 hm] at d3; simp at d3)] at hz
            have HF := hide hz
            clear hz HZ d3 HM HC
            go_wp2_with fail
            go_round
            case rel => exact ⟨k + 1, by omega, by go_num, unhide HF⟩
            case measure => simp [intOf]; omega
          · have hz := unhide HZ
            rw [if_pos ((unhide HM).1 d3)] at hz
            have HF := hide hz
            clear hz HZ d3 HM HC
            go_wp2_with fail
            go_ret
            exact ⟨by rw [unhide HF]; rfl, rfl⟩
      · obtain rfl : k = ids.length := by omega
        rw [idsF_end] at hz
        have HF := hide hz
        clear hz
        go_wp2_with fail
        go_ret
        exact ⟨by rw [unhide HF]; rfl, rfl⟩

theorem cfi_out {x : DChain} (h : (decide (1 ≤ x.epoch) && decide (x.epoch ≤ 999)) = false) : chainFault x = 3 := by rw [chainFault, if_neg (by simp at h; omega)]
theorem cfi_ids {x : DChain} (h : (decide (1 ≤ x.epoch) && decide (x.epoch ≤ 999)) = true) : chainFault x = idsFaultP x.ids := by rw [chainFault, if_pos (by simp at h; omega), idsFaultP]

set_option maxRecDepth 10000 in
set_option maxHeartbeats 1000000 in
theorem implChainFault (cs : List Value) (x : DChain) (w : World) (h : Lay.tChain.Reads w cs x) :
    Calls Tryd.prog 9 #[.agg cs.toArray] w fun e w' => e = .returned (.int .i64 (chainFault x)) ∧ Below w.heap.size w w' := by
  obtain ⟨a, d, rfl, R⟩ := open_Chain h
  have nb : Below w.heap.size w (w.alloc (.cells #[.int .i64 x.epoch, .slice a x.ids.length d] 26)) := (Below.refl _ _).alloc (Nat.le_refl _) _
  have HR := hide (R.later nb)
  have HB := hide nb
  have HX : Hid (Box 0 #[.int .i64 x.epoch, .slice a x.ids.length d] 26 (w.alloc (.cells #[.int .i64 x.epoch, .slice a x.ids.length d] 26)) w.heap.size) := newBox (Nat.zero_le _)
  clear R h nb
  go_enter Tryd.func9, Tryd.ntmps9
  go_upto_region 1 with fail
  generalize w.alloc (.cells #[.int .i64 x.epoch, .slice a x.ids.length d] 26) = W at *
  have z0 : W.cell? ⟨w.heap.size, 0, none⟩ = some (.int .i64 x.epoch) := (unhide HX).at 0 _ rfl
  have z1 : W.cell? ⟨w.heap.size, 1, none⟩ = some (.slice a x.ids.length d) := (unhide HX).at 1 _ rfl
  clear HX
  cases d1 : (decide (1 ≤ x.epoch) && decide (x.epoch ≤ 999))
  · have HF := hide (cfi_out d1)
    have L := hide (isChainEpochC x.epoch W)
    rw [d1] at L
    clear d1
    go_wp2_with fail
    refine (unhide L).mono ?_
    rintro e w1 ⟨rfl, h1⟩
    subst w1
    clear L
    go_wp2_with fail
    go_ret
    exact ⟨by rw [unhide HF]; rfl, unhide HB⟩
  · have HF := hide (cfi_ids d1)
    have L := hide (isChainEpochC x.epoch W)
    rw [d1] at L
    clear d1
    go_wp2_with fail
    refine (unhide L).mono ?_
    rintro e w1 ⟨rfl, h1⟩
    subst w1
    clear L
    have L := hide (idsFaultC _ x.ids _ (unhide HR))
    go_wp2_with fail
    refine (unhide L).mono ?_
    rintro e w1 ⟨rfl, h1⟩
    subst w1
    clear L
    go_wp2_with fail
    go_ret
    exact ⟨by rw [unhide HF]; rfl, unhide HB⟩
end Go.Proofs.YtceoaphcjnfphaaDoor

namespace Go.Proofs.YtceoaphcjnfphaaDoor
open Go.RowKit

theorem inC (v lo hi : Int) (w : World) :
    Calls Tryd.prog 43 #[.int .i64 v, .int .i64 lo, .int .i64 hi] w fun e w' => e = .returned (.bool (decide (lo ≤ v) && decide (v ≤ hi))) ∧ w' = w := by
  by_cases h1 : lo ≤ v
  · have d1 : decide (lo ≤ v) = true := by simpa using h1
    rw [d1]
    cases d2 : decide (v ≤ hi) <;>
    · go_enter Tryd.func43, Tryd.ntmps43
      go_wp2_with fail
      go_ret
      exact ⟨rfl, rfl⟩
  · have d1 : decide (lo ≤ v) = false := by simpa using h1
    rw [d1]
    go_enter Tryd.func43, Tryd.ntmps43
    go_wp2_with fail
    go_ret
    exact ⟨rfl, rfl⟩

end Go.Proofs.YtceoaphcjnfphaaDoor

namespace Go.Proofs.YtceoaphcjnfphaaDoor
open Go.RowKit

theorem node10C (x : Int) (w : World) : Calls Tryd.prog 44 #[.int .i64 x] w fun e w' => e = .returned (.bool (decide (1 ≤ x) && decide (x ≤ 5))) ∧ w' = w := by
  go_enter Tryd.func44, Tryd.ntmps44
  go_wp2_with fail
  refine (inC x 1 5 _).mono ?_
  rintro e w1 ⟨rfl, rfl⟩
  go_wp2_with fail
  go_ret
  exact ⟨rfl, rfl⟩

end Go.Proofs.YtceoaphcjnfphaaDoor

namespace Go.Proofs.YtceoaphcjnfphaaDoor
open Go.RowKit

/-- A chain in a block. -/
abbrev ChainAt (w : World) (b : Nat) (v : Value) (x : DChain) : Prop := Box 0 #[.int .i64 x.epoch, v] 26 w b
set_option maxRecDepth 10000 in
set_option maxHeartbeats 1000000 in
theorem l10AtC (b : Nat) (a : Option Addr) (d : Nat) (x : DChain) (id : Int) (w : World) (hX : ChainAt w b (.slice a x.ids.length d) x) (R : (Lay.sl Lay.int).Reads w [.slice a x.ids.length d] x.ids) :
    Calls Tryd.prog 25 #[.pointer (some ⟨b, 0, none⟩), .int .i64 id] w fun e w' => e = .returned (.int .i64 (placeC x.ids id)) ∧ w' = w := by
  have x1 := Box.at hX 1 _ rfl
  simp only [List.getElem_toArray, List.getElem_cons_zero, List.getElem_cons_succ] at x1
  have xl := Box.lt hX
  have hbig := R.big
  have H := hide R
  clear hX R
  generalize x.ids = ids at *
  go_enter Tryd.func25, Tryd.ntmps25
  go_wp2_with fail
  go_loop [5] (fun i => ∃ k : Nat, k ≤ ids.length ∧ i = .int .i64 k ∧ (∀ j (hj : j < ids.length), j < k → ids[j] ≠ id)) (fun i => ids.length - (intOf i).toNat)
  case atStart => exact ⟨0, Nat.zero_le _, rfl, fun j _ h => by omega⟩
  case round =>
    obtain ⟨k, hk, rfl, hz⟩ := hrel
    by_cases hlt : k < ids.length
    · obtain ⟨b2, off, rfl, -⟩ := Lay.sl_addr (unhide H) (by omega)
      have c1 := int_cell (unhide H) hlt
      cases hq : (ids[k] == id)
      · have HZ : Hid (∀ j (hj : j < ids.length), j < k + 1 → ids[j] ≠ id) := fun j hj hjk => by
          by_cases h2 : j < k
          · exact hz j hj h2
          · obtain rfl : j = k := by omega
            simpa using hq
        clear hz
        generalize ids[k] = z at *
        go_wp2_with fail
        go_round
        case rel => exact ⟨k + 1, by omega, by go_num, unhide HZ⟩
        case measure => simp [intOf]; omega
      · have HP := hide (placeC_at hlt (by simpa using hq) (fun j hj => hz j (by omega) hj))
        clear hz
        generalize ids[k] = z at *
        go_wp2_with fail
        go_ret
        exact ⟨by rw [unhide HP]; rfl, rfl⟩
    · obtain rfl : k = ids.length := by omega
      have HP := hide (placeC_none (id := id) (fun j hj => hz j hj hj))
      clear hz
      go_wp2_with fail
      go_ret
      exact ⟨by rw [unhide HP]; rfl, rfl⟩

theorem cf_epoch {x : DChain} (h : (decide (1 ≤ x.epoch) && decide (x.epoch ≤ 999)) = false) : chainFault x = 3 := by
  rw [chainFault, if_neg]
  simpa using h
theorem cf_len {x : DChain} (h : (decide (1 ≤ x.epoch) && decide (x.epoch ≤ 999)) = true) (hn : x.ids.length < 1 ∨ 5 < x.ids.length) : chainFault x = 2 := by
  rw [chainFault, if_pos (by simpa using h), if_neg (by omega)]
theorem cf_ids {x : DChain} (h : (decide (1 ≤ x.epoch) && decide (x.epoch ≤ 999)) = true) (hn : ¬ x.ids.length < 1) (hm : ¬ 5 < x.ids.length) : chainFault x = idsF (x.ids.take 0) (x.ids.drop 0) := by
  rw [chainFault, if_pos (by simpa using h), if_pos (by omega)]
  simp

set_option maxRecDepth 10000 in
set_option maxHeartbeats 1000000 in
theorem l10FaultC (b : Nat) (a : Option Addr) (d : Nat) (x : DChain) (w : World) (hX : ChainAt w b (.slice a x.ids.length d) x) (R : (Lay.sl Lay.int).Reads w [.slice a x.ids.length d] x.ids) :
    Calls Tryd.prog 24 #[.pointer (some ⟨b, 0, none⟩)] w fun e w' => e = .returned (.int .i64 (chainFault x)) ∧ w' = w := by
  have x0 := Box.at hX 0 _ rfl
  have x1 := Box.at hX 1 _ rfl
  simp only [List.getElem_toArray, List.getElem_cons_zero, List.getElem_cons_succ] at x0 x1
  have xl := Box.lt hX
  have hbig := R.big
  have HX := hide hX
  have H := hide R
  clear hX R
  go_enter Tryd.func24, Tryd.ntmps24
  go_wp2_with fail
  refine (inC x.epoch 1 999 w).mono ?_
  rintro e w1 ⟨rfl, h1⟩
  subst w1
  cases d1 : (decide (1 ≤ x.epoch) && decide (x.epoch ≤ 999))
  · have HF := hide (cf_epoch d1)
    clear d1
    go_wp2_with fail
    go_ret
    exact ⟨by rw [unhide HF]; rfl, rfl⟩
  · by_cases hn : x.ids.length < 1
    · have HF := hide (cf_len d1 (Or.inl hn))
      have hd : decide ((x.ids.length : Int) < 1) = true := by simp; omega
      clear d1
      go_wp2_with fail
      go_ret
      exact ⟨by rw [unhide HF]; rfl, rfl⟩
    · have hd : decide ((x.ids.length : Int) < 1) = false := by simp; omega
      by_cases hm : 5 < x.ids.length
      · have HF := hide (cf_len d1 (Or.inr hm))
        have hd2 : decide ((5 : Int) < (x.ids.length : Int)) = true := by simp; omega
        clear d1
        go_wp2_with fail
        go_ret
        exact ⟨by rw [unhide HF]; rfl, rfl⟩
      · have HF := hide (cf_ids d1 hn hm)
        have hd2 : decide ((5 : Int) < (x.ids.length : Int)) = false := by simp; omega
        clear d1
        go_wp2_with fail
        clear hd hd2
        go_loop [3] (fun i => ∃ k : Nat, k ≤ x.ids.length ∧ i = .int .i64 k ∧ chainFault x = idsF (x.ids.take k) (x.ids.drop k)) (fun i => x.ids.length - (intOf i).toNat)
        case atStart => exact ⟨0, Nat.zero_le _, rfl, unhide HF⟩
        case round =>
          obtain ⟨k, hk, rfl, hz⟩ := hrel
          clear HF
          by_cases hlt : k < x.ids.length
          · rw [idsF_step x.ids k hlt] at hz
            have hself := placeC_self hlt
            obtain ⟨b2, off, rfl, -⟩ := Lay.sl_addr (unhide H) (by omega)
            have c1 := int_cell (unhide H) hlt
            have HP := hide (l10AtC b (some ⟨b2, off, none⟩) d x x.ids[k] w (unhide HX) (unhide H))
            have hdl : decide ((k : Int) < (x.ids.length : Int)) = true := by simp; omega
            have HZ := hide hz
            have HS := hide hself
            clear hz hself
            generalize x.ids[k] = z at *
            go_wp2_with fail
            refine (node10C z w).mono ?_
            rintro e w1 ⟨rfl, h1⟩
            subst w1
            cases d2 : (decide (1 ≤ z) && decide (z ≤ 5))
            · have hz := unhide HZ
              rw [if_neg (by simpa using d2)] at hz
              have HF := hide hz
              clear d2 HZ HS hz
              go_wp2_with fail
              go_ret
              exact ⟨by rw [unhide HF]; rfl, rfl⟩
            · have hz := unhide HZ
              rw [if_pos (by simpa using d2)] at hz
              have HZ2 := hide hz
              clear d2 HZ hz
              go_wp2_with fail
              refine (unhide HP).mono ?_
              rintro e w1 ⟨rfl, h1⟩
              subst w1
              clear HP
              by_cases hq : placeC x.ids z = (k : Int)
              · have hz := unhide HZ2
                rw [if_neg ((unhide HS).1 hq)] at hz
                have HF := hide hz
                have hb : (placeC x.ids z != (k : Int)) = false := by rw [hq]; simp
                clear HZ2 HS hz hq
                generalize placeC x.ids z = p at *
                go_wp2_with fail
                go_round
                case rel => exact ⟨k + 1, by omega, by go_num, unhide HF⟩
                case measure => simp [intOf]; omega
              · have hz := unhide HZ2
                rw [if_pos (Classical.not_not.1 fun hc => hq ((unhide HS).2 hc))] at hz
                have HF := hide hz
                have hb : (placeC x.ids z != (k : Int)) = true := by rw [bne_iff_ne]; exact hq
                clear HZ2 HS hz hq
                generalize placeC x.ids z = p at *
                go_wp2_with fail
                go_ret
                exact ⟨by rw [unhide HF]; rfl, rfl⟩
          · obtain rfl : k = x.ids.length := by omega
            rw [idsF_end] at hz
            have hdl : decide ((x.ids.length : Int) < (x.ids.length : Int)) = false := by simp
            have HF := hide hz
            clear hz
            go_wp2_with fail
            go_ret
            exact ⟨by rw [unhide HF]; rfl, rfl⟩

theorem specChainFault (cs : List Value) (x : DChain) (w : World) (h : Lay.tChain.Reads w cs x) :
    Calls Tryd.prog 10 #[.agg cs.toArray] w fun e w' => e = .returned (.int .i64 (chainFault x)) ∧ Below w.heap.size w w' := by
  obtain ⟨a, d, rfl, R⟩ := open_Chain h
  have nb : Below w.heap.size w (w.alloc (.cells #[.int .i64 x.epoch, .slice a x.ids.length d] 26)) := (Below.refl _ _).alloc (Nat.le_refl _) _
  have HL := hide (l10FaultC w.heap.size a d x _ (newBox (Nat.zero_le _)) (R.later nb))
  have HB := hide nb
  clear h R nb
  go_enter Tryd.func10, Tryd.ntmps10
  go_wp2_with fail
  refine (unhide HL).mono ?_
  rintro e w1 ⟨rfl, h1⟩
  subst w1
  go_wp2_with fail
  go_ret
  exact ⟨rfl, unhide HB⟩
end Go.Proofs.YtceoaphcjnfphaaDoor
