/-
  Texts of this proof in one: LawXTakeWrite, LayIntResult, LayWritesResult, SeqPlain, LayOnceResult.
  Their conditions stand in their theorems.
-/
import Derived.Test.YtbogjepkdcknfaaDoorChecked
import Derived.Test.YtbogjepkdcknfaaDoorTk01
import Derived.Test.YtbogjepkdcknfaaDoorTk02
import Derived.Deep.RegionHeld3
import Derived.Deep.CutRange

namespace Go.Proofs.YtbogjepkdcknfaaDoor
open Go.RowKit

set_option maxRecDepth 100000 in
set_option maxHeartbeats 4000000 in
theorem lawx_TakeWrite (u0 : List Value) (x0 : DNode) (u1 : List Value) (x1 : DWrite) (y : DNodeResult) (w : World) (A0 : Lay.tNode.Reads w u0 x0) (A1 : Lay.tWrite.Reads w u1 x1) (NS : Lay.tNode.sz x0 + Lay.tWrite.sz x1 ≤ 1048576) (ht : Errs w)
    (hS : ∀ (W : World) (u0 : List Value) (u1 : List Value), Errs W → Lay.tNode.Reads W u0 x0 → Lay.tWrite.Reads W u1 x1 → Calls Tryd.prog 6 #[.agg u0.toArray, .agg u1.toArray] W fun e w' => ∃ cs, e = .returned (.agg cs.toArray) ∧ Lay.tNodeResult.LiesIn w' cs y W.heap.size w'.heap.size ∧ Below W.heap.size W w')
    (hI : ∀ (W : World) (u0 : List Value) (u1 : List Value), Errs W → Lay.tNode.Reads W u0 x0 → Lay.tWrite.Reads W u1 x1 → Calls Tryd.prog 9 #[.agg u0.toArray, .agg u1.toArray] W fun e w' => ∃ cs, e = .returned (.agg cs.toArray) ∧ Lay.tNodeResult.OwnIn w' cs y W.heap.size w'.heap.size ∧ Below W.heap.size W w') (hc : Lay.tNodeResult.vcnt y ≤ 100000000) :
    Calls Tryd.prog 3 #[.agg u0.toArray, .agg u1.toArray] w fun e w' => e = .returned (.bool true) ∧ Below w.heap.size w w' := by
  obtain ⟨a4p0, d4p0, rfl, -⟩ := open_Node A0
  obtain ⟨a2p1, d2p1, rfl, -⟩ := open_Write A1
  have HS := hide hS
  have HI := hide hI
  clear hS hI
  have HA0 := hide A0.liesIn
  clear A0
  have HA1 := hide A1.liesIn
  clear A1
  have N0 : Lay.tNode.sz x0 ≤ 1048576 := by omega
  have N1 : Lay.tWrite.sz x1 ≤ 1048576 := by omega
  have HN0 := hide N0
  have HN1 := hide N1
  clear N0 N1
  have HC := hide hc
  clear hc
  have HNS := hide NS
  clear NS
  have HT := hide ht
  clear ht
  have HB := hide (Below.refl w.heap.size w)
  go_enter Tryd.func3, Tryd.ntmps3
  go_wp2_with fail
  have nb : Below w.heap.size w ((w.alloc (.cells #[.int .i64 x0.id, .bool x0.up, .int .i64 x0.epoch, .int .i64 x0.lease, .slice a4p0 x0.writes.length d4p0, .int .i64 x0.sure, .int .i64 x0.clean] 24)).alloc (.cells #[.int .i64 x1.kind, .int .i64 x1.id, .slice a2p1 x1.vec.length d2p1, .int .i64 x1.session, .int .i64 x1.seq] 27)) := ((Below.refl w.heap.size w).alloc (Nat.le_refl _) _).alloc (by simp) _
  have P0 : Hid (Box w.heap.size #[.int .i64 x0.id, .bool x0.up, .int .i64 x0.epoch, .int .i64 x0.lease, .slice a4p0 x0.writes.length d4p0, .int .i64 x0.sure, .int .i64 x0.clean] 24 ((w.alloc (.cells #[.int .i64 x0.id, .bool x0.up, .int .i64 x0.epoch, .int .i64 x0.lease, .slice a4p0 x0.writes.length d4p0, .int .i64 x0.sure, .int .i64 x0.clean] 24)).alloc (.cells #[.int .i64 x1.kind, .int .i64 x1.id, .slice a2p1 x1.vec.length d2p1, .int .i64 x1.session, .int .i64 x1.seq] 27)) (w.heap.size)) := (newBoxAt (by omega) (by simp)).grow _
  have P1 : Hid (Box w.heap.size #[.int .i64 x1.kind, .int .i64 x1.id, .slice a2p1 x1.vec.length d2p1, .int .i64 x1.session, .int .i64 x1.seq] 27 ((w.alloc (.cells #[.int .i64 x0.id, .bool x0.up, .int .i64 x0.epoch, .int .i64 x0.lease, .slice a4p0 x0.writes.length d4p0, .int .i64 x0.sure, .int .i64 x0.clean] 24)).alloc (.cells #[.int .i64 x1.kind, .int .i64 x1.id, .slice a2p1 x1.vec.length d2p1, .int .i64 x1.session, .int .i64 x1.seq] 27)) (w.heap.size + 1)) := newBoxAt (by omega) (by simp)
  generalize haw1 : ((w.alloc (.cells #[.int .i64 x0.id, .bool x0.up, .int .i64 x0.epoch, .int .i64 x0.lease, .slice a4p0 x0.writes.length d4p0, .int .i64 x0.sure, .int .i64 x0.clean] 24)).alloc (.cells #[.int .i64 x1.kind, .int .i64 x1.id, .slice a2p1 x1.vec.length d2p1, .int .i64 x1.session, .int .i64 x1.seq] 27)) = w1 at *
  have Gw1 : w.heap.size + 2 ≤ w1.heap.size := by rw [← haw1]; simp
  clear haw1
  replace HA0 := hide ((unhide HA0).later nb)
  replace HA1 := hide ((unhide HA1).later nb)
  have Zw1 : w.heap.size ≤ w1.heap.size := nb.size
  replace HB := hide ((unhide HB).trans (nb.mono (by omega)))
  clear nb
  have hns := unhide HNS
  refine (sz_Node _ x0 (1048576) w1 (unhide HA0).reads (by omega)).mono ?_
  rintro e w2 ⟨rfl, hb⟩
  replace HA0 := hide ((unhide HA0).later hb)
  replace HA1 := hide ((unhide HA1).later hb)
  replace P0 := hide ((unhide P0).keep hb)
  replace P1 := hide ((unhide P1).keep hb)
  have Zw2 : w1.heap.size ≤ w2.heap.size := hb.size
  replace HB := hide ((unhide HB).trans (hb.mono (by omega)))
  clear hb
  rw [szR_ok (by omega)]
  have hq0 : decide (((1048576 - Lay.tNode.sz x0 : Nat) : Int) < 0) = false := by simp
  clear hns
  have l0P0 := (unhide P0).at 0 _ rfl
  have l1P0 := (unhide P0).at 1 _ rfl
  have l2P0 := (unhide P0).at 2 _ rfl
  have l3P0 := (unhide P0).at 3 _ rfl
  have l4P0 := (unhide P0).at 4 _ rfl
  have l5P0 := (unhide P0).at 5 _ rfl
  have l6P0 := (unhide P0).at 6 _ rfl
  have ltP0 : w.heap.size < w2.heap.size := by omega
  have l0P1 := (unhide P1).at 0 _ rfl
  have l1P1 := (unhide P1).at 1 _ rfl
  have l2P1 := (unhide P1).at 2 _ rfl
  have l3P1 := (unhide P1).at 3 _ rfl
  have l4P1 := (unhide P1).at 4 _ rfl
  have ltP1 : w.heap.size + 1 < w2.heap.size := by omega
  simp only [List.getElem_toArray, List.getElem_cons_zero, List.getElem_cons_succ] at l0P0 l1P0 l2P0 l3P0 l4P0 l5P0 l6P0 l0P1 l1P1 l2P1 l3P1 l4P1
  go_wp2_with fail
  clear l0P0 l1P0 l2P0 l3P0 l4P0 l5P0 l6P0 ltP0 l0P1 l1P1 l2P1 l3P1 l4P1 ltP1
  clear hq0
  have hns := unhide HNS
  refine (sz_Write _ x1 (1048576 - Lay.tNode.sz x0) w2 (unhide HA1).reads (by omega)).mono ?_
  rintro e w3 ⟨rfl, hb⟩
  replace HA0 := hide ((unhide HA0).later hb)
  replace HA1 := hide ((unhide HA1).later hb)
  replace P0 := hide ((unhide P0).keep hb)
  replace P1 := hide ((unhide P1).keep hb)
  have Zw3 : w2.heap.size ≤ w3.heap.size := hb.size
  replace HB := hide ((unhide HB).trans (hb.mono (by omega)))
  clear hb
  rw [szR_ok (by omega)]
  have hq1 : decide (((1048576 - Lay.tNode.sz x0 - Lay.tWrite.sz x1 : Nat) : Int) < 0) = false := by simp
  clear hns
  have l0P0 := (unhide P0).at 0 _ rfl
  have l1P0 := (unhide P0).at 1 _ rfl
  have l2P0 := (unhide P0).at 2 _ rfl
  have l3P0 := (unhide P0).at 3 _ rfl
  have l4P0 := (unhide P0).at 4 _ rfl
  have l5P0 := (unhide P0).at 5 _ rfl
  have l6P0 := (unhide P0).at 6 _ rfl
  have ltP0 : w.heap.size < w3.heap.size := by omega
  have l0P1 := (unhide P1).at 0 _ rfl
  have l1P1 := (unhide P1).at 1 _ rfl
  have l2P1 := (unhide P1).at 2 _ rfl
  have l3P1 := (unhide P1).at 3 _ rfl
  have l4P1 := (unhide P1).at 4 _ rfl
  have ltP1 : w.heap.size + 1 < w3.heap.size := by omega
  simp only [List.getElem_toArray, List.getElem_cons_zero, List.getElem_cons_succ] at l0P0 l1P0 l2P0 l3P0 l4P0 l5P0 l6P0 l0P1 l1P1 l2P1 l3P1 l4P1
  go_upto_region 8 with fail
  clear l0P0 l1P0 l2P0 l3P0 l4P0 l5P0 l6P0 ltP0 l0P1 l1P1 l2P1 l3P1 l4P1 ltP1
  clear hq1
  have l0P0 := (unhide P0).at 0 _ rfl
  have l1P0 := (unhide P0).at 1 _ rfl
  have l2P0 := (unhide P0).at 2 _ rfl
  have l3P0 := (unhide P0).at 3 _ rfl
  have l4P0 := (unhide P0).at 4 _ rfl
  have l5P0 := (unhide P0).at 5 _ rfl
  have l6P0 := (unhide P0).at 6 _ rfl
  have ltP0 : w.heap.size < w3.heap.size := by omega
  have l0P1 := (unhide P1).at 0 _ rfl
  have l1P1 := (unhide P1).at 1 _ rfl
  have l2P1 := (unhide P1).at 2 _ rfl
  have l3P1 := (unhide P1).at 3 _ rfl
  have l4P1 := (unhide P1).at 4 _ rfl
  have ltP1 : w.heap.size + 1 < w3.heap.size := by omega
  simp only [List.getElem_toArray, List.getElem_cons_zero, List.getElem_cons_succ] at l0P0 l1P0 l2P0 l3P0 l4P0 l5P0 l6P0 l0P1 l1P1 l2P1 l3P1 l4P1
  go_cut [6] from 24 to 28 (fun sL wx => ∃ (s0 : Nat) (a6W : Option Addr) (d6W : Nat), sL = .pointer (some ⟨s0, 0, none⟩) ∧ s0 < wx.heap.size ∧ Box w3.heap.size #[.int .i64 y.code, .int .i64 y.place, .int .i64 y.node.id, .bool y.node.up, .int .i64 y.node.epoch, .int .i64 y.node.lease, .slice a6W y.node.writes.length d6W, .int .i64 y.node.sure, .int .i64 y.node.clean] 34 wx s0 ∧ Lay.tNodeResult.Reads wx [.int .i64 y.code, .int .i64 y.place, .int .i64 y.node.id, .bool y.node.up, .int .i64 y.node.epoch, .int .i64 y.node.lease, .slice a6W y.node.writes.length d6W, .int .i64 y.node.sure, .int .i64 y.node.clean] y ∧ Below w3.heap.size w3 wx)
  case first =>
    refine wp_region_noPanic ?_
    refine wp_region_held_drew (S := fun w' => Below w3.heap.size w3 w') (by kernel_rfl) (Below.refl _ _).drew (fun hHeld => ?_)
    generalize w3.drew = X0 at hHeld ⊢
    refine wpAnyH_take (i := 0) (oi := { dst := some 24, op := Go.Op.load 24 (Go.Operand.tmp 2), type := 24, pos := "exact.go:3802", after := #[], guard := none }) (v := ?v0_1) rfl (by kernel_rfl) (by kernel_rfl) (by kernel_rfl) (fun _ _ _ h => h) (Or.inl ⟨by rfl, ?h0_1⟩) hHeld ?r0_1
    case h0_1 =>
      intro wS hSw
      have y0P0 := (hSw.cell (p := ⟨w.heap.size, 0, none⟩) ltP0).trans l0P0
      have y1P0 := (hSw.cell (p := ⟨w.heap.size, 1, none⟩) ltP0).trans l1P0
      have y2P0 := (hSw.cell (p := ⟨w.heap.size, 2, none⟩) ltP0).trans l2P0
      have y3P0 := (hSw.cell (p := ⟨w.heap.size, 3, none⟩) ltP0).trans l3P0
      have y4P0 := (hSw.cell (p := ⟨w.heap.size, 4, none⟩) ltP0).trans l4P0
      have y5P0 := (hSw.cell (p := ⟨w.heap.size, 5, none⟩) ltP0).trans l5P0
      have y6P0 := (hSw.cell (p := ⟨w.heap.size, 6, none⟩) ltP0).trans l6P0
      have y0P1 := (hSw.cell (p := ⟨w.heap.size + 1, 0, none⟩) ltP1).trans l0P1
      have y1P1 := (hSw.cell (p := ⟨w.heap.size + 1, 1, none⟩) ltP1).trans l1P1
      have y2P1 := (hSw.cell (p := ⟨w.heap.size + 1, 2, none⟩) ltP1).trans l2P1
      have y3P1 := (hSw.cell (p := ⟨w.heap.size + 1, 3, none⟩) ltP1).trans l3P1
      have y4P1 := (hSw.cell (p := ⟨w.heap.size + 1, 4, none⟩) ltP1).trans l4P1
      clear hSw
      (try dsimp only at hSw)
      go_simp
      try with_reducible rfl
    case r0_1 =>
    simp only [Act.put, List.setIfInBounds_toArray, List.set_cons_zero, List.set_cons_succ]
    refine wpAnyH_take (i := 2) (oi := { dst := some 26, op := Go.Op.load 27 (Go.Operand.tmp 3), type := 27, pos := "exact.go:3802", after := #[], guard := none }) (v := ?v2_2) rfl (by kernel_rfl) (by kernel_rfl) (by kernel_rfl) (fun _ _ _ h => h) (Or.inl ⟨by rfl, ?h2_2⟩) hHeld ?r2_2
    case h2_2 =>
      intro wS hSw
      have y0P0 := (hSw.cell (p := ⟨w.heap.size, 0, none⟩) ltP0).trans l0P0
      have y1P0 := (hSw.cell (p := ⟨w.heap.size, 1, none⟩) ltP0).trans l1P0
      have y2P0 := (hSw.cell (p := ⟨w.heap.size, 2, none⟩) ltP0).trans l2P0
      have y3P0 := (hSw.cell (p := ⟨w.heap.size, 3, none⟩) ltP0).trans l3P0
      have y4P0 := (hSw.cell (p := ⟨w.heap.size, 4, none⟩) ltP0).trans l4P0
      have y5P0 := (hSw.cell (p := ⟨w.heap.size, 5, none⟩) ltP0).trans l5P0
      have y6P0 := (hSw.cell (p := ⟨w.heap.size, 6, none⟩) ltP0).trans l6P0
      have y0P1 := (hSw.cell (p := ⟨w.heap.size + 1, 0, none⟩) ltP1).trans l0P1
      have y1P1 := (hSw.cell (p := ⟨w.heap.size + 1, 1, none⟩) ltP1).trans l1P1
      have y2P1 := (hSw.cell (p := ⟨w.heap.size + 1, 2, none⟩) ltP1).trans l2P1
      have y3P1 := (hSw.cell (p := ⟨w.heap.size + 1, 3, none⟩) ltP1).trans l3P1
      have y4P1 := (hSw.cell (p := ⟨w.heap.size + 1, 4, none⟩) ltP1).trans l4P1
      clear hSw
      (try dsimp only at hSw)
      go_simp
      try with_reducible rfl
    case r2_2 =>
    simp only [Act.put, List.setIfInBounds_toArray, List.set_cons_zero, List.set_cons_succ]
    refine wpAnyH_ready (rs := [1, 5]) (by kernel_rfl) (by simp) ?_
    refine AllReadyH.cons (o := { dst := some 25, op := Go.Op.call { callee := Go.Callee.value (Go.Operand.func 7), args := #[Go.Operand.tmp 24], argTypes := #[24] }, type := 32, pos := "exact.go:3802", after := #[{ on := 0, ground := Go.Ground.data }], guard := none }) rfl (fun K hK => ?_) (AllReadyH.cons (o := { dst := some 6, op := Go.Op.alloc 34, type := 0, pos := "exact.go:3802", after := #[], guard := none }) rfl (fun K hK => ?_) AllReadyH.nil)
    · go_simp
      go_at_call 7
      refine (to_Node _ x0 _ ((unhide HA0).reads.later hHeld) (unhide HN0)).mono ?_
      rintro e X3 ⟨vT0, rfl, OT, hbw⟩
      have rt0 := OT.reads
      obtain ⟨a4T0, d4T0, rfl, -⟩ := open_Node rt0
      clear OT
      try go_wp2_with fail
      refine hK.out _ _ (hHeld.trans (hbw.mono hHeld.size)) (fun hHeld => ?_)
      clear hK K hbw
      try simp only [Act.put, List.setIfInBounds_toArray, List.set_cons_zero, List.set_cons_succ]
      refine wpAnyH_ready (rs := [3, 5]) (by kernel_rfl) (by simp) ?_
      refine AllReadyH.cons (o := { dst := some 27, op := Go.Op.call { callee := Go.Callee.value (Go.Operand.func 8), args := #[Go.Operand.tmp 26], argTypes := #[27] }, type := 37, pos := "exact.go:3802", after := #[{ on := 2, ground := Go.Ground.data }, { on := 1, ground := Go.Ground.chain }], guard := none }) rfl (fun K hK => ?_) (AllReadyH.cons (o := { dst := some 6, op := Go.Op.alloc 34, type := 0, pos := "exact.go:3802", after := #[], guard := none }) rfl (fun K hK => ?_) AllReadyH.nil)
      · go_simp
        go_at_call 8
        refine (to_Write _ x1 _ ((unhide HA1).reads.later hHeld) (unhide HN1)).mono ?_
        rintro e X4 ⟨vT1, rfl, OT, hbw⟩
        have rt1 := OT.reads
        obtain ⟨a2T1, d2T1, rfl, -⟩ := open_Write rt1
        replace rt0 := rt0.later hbw
        clear OT
        try go_wp2_with fail
        refine hK.out _ _ (hHeld.trans (hbw.mono hHeld.size)) (fun hHeld => ?_)
        clear hK K hbw
        try simp only [Act.put, List.setIfInBounds_toArray, List.set_cons_zero, List.set_cons_succ]
        refine wpAnyH_ready (rs := [4, 5]) (by kernel_rfl) (by simp) ?_
        refine AllReadyH.cons (o := { dst := some 28, op := Go.Op.call { callee := Go.Callee.value (Go.Operand.func 6), args := #[Go.Operand.tmp 25, Go.Operand.tmp 27], argTypes := #[32, 37] }, type := 34, pos := "exact.go:3802", after := #[{ on := 1, ground := Go.Ground.data }, { on := 3, ground := Go.Ground.data }, { on := 3, ground := Go.Ground.chain }], guard := none }) rfl (fun K hK => ?_) (AllReadyH.cons (o := { dst := some 6, op := Go.Op.alloc 34, type := 0, pos := "exact.go:3802", after := #[], guard := none }) rfl (fun K hK => ?_) AllReadyH.nil)
        · go_simp
          go_at_call 6
          refine (unhide HS _ _ _ (((unhide HT).later (unhide HB)).later hHeld) rt0 rt1).mono ?_
          rintro e X5 ⟨cs, rfl, O, hbw⟩
          obtain ⟨a6W, d6W, rfl, -⟩ := open_NodeResult O.reads
          have hz9 := hbw.size
          have rd := O
          clear O
          try go_wp2_with fail
          refine hK.out _ _ (hHeld.trans (hbw.mono hHeld.size)) (fun hHeld => ?_)
          clear hK K hbw hz9
          try simp only [Act.put, List.setIfInBounds_toArray, List.set_cons_zero, List.set_cons_succ]
          clear rt0 rt1
          refine wpAnyH_ready (rs := [5]) (by kernel_rfl) (by simp) ?_
          refine AllReadyH.cons (o := { dst := some 6, op := Go.Op.alloc 34, type := 0, pos := "exact.go:3802", after := #[], guard := none }) rfl (fun K hK => ?_) AllReadyH.nil
          have bx : Box w3.heap.size #[.int .i64 0, .int .i64 0, .int .i64 0, .bool false, .int .i64 0, .int .i64 0, .slice none 0 0, .int .i64 0, .int .i64 0] 34 (X5.alloc (.cells #[.int .i64 0, .int .i64 0, .int .i64 0, .bool false, .int .i64 0, .int .i64 0, .slice none 0 0, .int .i64 0, .int .i64 0] 34)) X5.heap.size := newBox hHeld.size
          have nbA : Below X5.heap.size X5 (X5.alloc (.cells #[.int .i64 0, .int .i64 0, .int .i64 0, .bool false, .int .i64 0, .int .i64 0, .slice none 0 0, .int .i64 0, .int .i64 0] 34)) := (Below.refl _ _).alloc (Nat.le_refl _) _
          replace rd := rd.later nbA
          have hNx := hHeld.trans (nbA.mono hHeld.size)
          go_simp
          refine hK.out _ _ hNx (fun hHeld => ?_)
          clear hK K hNx nbA
          try simp only [Act.put, List.setIfInBounds_toArray, List.set_cons_zero, List.set_cons_succ]
          generalize X5.alloc (.cells #[.int .i64 0, .int .i64 0, .int .i64 0, .bool false, .int .i64 0, .int .i64 0, .slice none 0 0, .int .i64 0, .int .i64 0] 34) = X6 at *
          refine wpAnyH_ready (rs := [6]) (by kernel_rfl) (by simp) ?_
          refine AllReadyH.cons (o := { dst := none, op := Go.Op.store 34 (Go.Operand.tmp 6) (Go.Operand.tmp 28), type := 0, pos := "exact.go:3802", after := #[{ on := 5, ground := Go.Ground.data }, { on := 4, ground := Go.Ground.data }, { on := 4, ground := Go.Ground.chain }, { on := 0, ground := Go.Ground.phase }, { on := 1, ground := Go.Ground.phase }, { on := 2, ground := Go.Ground.phase }, { on := 3, ground := Go.Ground.phase }, { on := 4, ground := Go.Ground.phase }, { on := 5, ground := Go.Ground.phase }], guard := none }) rfl (fun K hK => ?_) AllReadyH.nil
          have z0 : X6.cell? ⟨X5.heap.size, 0, none⟩ = some (.int .i64 0) := bx.at 0 _ rfl
          have f0 := bx.soft 0
          have z1 : X6.cell? ⟨X5.heap.size, 1, none⟩ = some (.int .i64 0) := bx.at 1 _ rfl
          have f1 := bx.soft 1
          have z2 : X6.cell? ⟨X5.heap.size, 2, none⟩ = some (.int .i64 0) := bx.at 2 _ rfl
          have f2 := bx.soft 2
          have z3 : X6.cell? ⟨X5.heap.size, 3, none⟩ = some (.bool false) := bx.at 3 _ rfl
          have f3 := bx.soft 3
          have z4 : X6.cell? ⟨X5.heap.size, 4, none⟩ = some (.int .i64 0) := bx.at 4 _ rfl
          have f4 := bx.soft 4
          have z5 : X6.cell? ⟨X5.heap.size, 5, none⟩ = some (.int .i64 0) := bx.at 5 _ rfl
          have f5 := bx.soft 5
          have z6 : X6.cell? ⟨X5.heap.size, 6, none⟩ = some (.slice none 0 0) := bx.at 6 _ rfl
          have f6 := bx.soft 6
          have z7 : X6.cell? ⟨X5.heap.size, 7, none⟩ = some (.int .i64 0) := bx.at 7 _ rfl
          have f7 := bx.soft 7
          have z8 : X6.cell? ⟨X5.heap.size, 8, none⟩ = some (.int .i64 0) := bx.at 8 _ rfl
          have f8 := bx.soft 8
          have l0 := bx.lt
          have bx9 : Box w3.heap.size #[.int .i64 y.code, .int .i64 y.place, .int .i64 y.node.id, .bool y.node.up, .int .i64 y.node.epoch, .int .i64 y.node.lease, .slice a6W y.node.writes.length d6W, .int .i64 y.node.sure, .int .i64 y.node.clean] 34 (((((((((X6.setCell ⟨X5.heap.size, 0, none⟩ (.int .i64 y.code)).setCell ⟨X5.heap.size, 1, none⟩ (.int .i64 y.place)).setCell ⟨X5.heap.size, 2, none⟩ (.int .i64 y.node.id)).setCell ⟨X5.heap.size, 3, none⟩ (.bool y.node.up)).setCell ⟨X5.heap.size, 4, none⟩ (.int .i64 y.node.epoch)).setCell ⟨X5.heap.size, 5, none⟩ (.int .i64 y.node.lease)).setCell ⟨X5.heap.size, 6, none⟩ (.slice a6W y.node.writes.length d6W)).setCell ⟨X5.heap.size, 7, none⟩ (.int .i64 y.node.sure)).setCell ⟨X5.heap.size, 8, none⟩ (.int .i64 y.node.clean)) X5.heap.size := by have q := (((((((((bx.set 0 (.int .i64 y.code)).set 1 (.int .i64 y.place)).set 2 (.int .i64 y.node.id)).set 3 (.bool y.node.up)).set 4 (.int .i64 y.node.epoch)).set 5 (.int .i64 y.node.lease)).set 6 (.slice a6W y.node.writes.length d6W)).set 7 (.int .i64 y.node.sure)).set 8 (.int .i64 y.node.clean)); simp only [List.setIfInBounds_toArray, List.set_cons_zero, List.set_cons_succ] at q; exact q
          have hE9 : Ext (fun c => c = X5.heap.size) X6 (((((((((X6.setCell ⟨X5.heap.size, 0, none⟩ (.int .i64 y.code)).setCell ⟨X5.heap.size, 1, none⟩ (.int .i64 y.place)).setCell ⟨X5.heap.size, 2, none⟩ (.int .i64 y.node.id)).setCell ⟨X5.heap.size, 3, none⟩ (.bool y.node.up)).setCell ⟨X5.heap.size, 4, none⟩ (.int .i64 y.node.epoch)).setCell ⟨X5.heap.size, 5, none⟩ (.int .i64 y.node.lease)).setCell ⟨X5.heap.size, 6, none⟩ (.slice a6W y.node.writes.length d6W)).setCell ⟨X5.heap.size, 7, none⟩ (.int .i64 y.node.sure)).setCell ⟨X5.heap.size, 8, none⟩ (.int .i64 y.node.clean)) := ((((((((((Ext.refl (fun c => c = X5.heap.size) _).setCell ⟨X5.heap.size, 0, none⟩ (.int .i64 y.code) rfl).setCell ⟨X5.heap.size, 1, none⟩ (.int .i64 y.place) rfl).setCell ⟨X5.heap.size, 2, none⟩ (.int .i64 y.node.id) rfl).setCell ⟨X5.heap.size, 3, none⟩ (.bool y.node.up) rfl).setCell ⟨X5.heap.size, 4, none⟩ (.int .i64 y.node.epoch) rfl).setCell ⟨X5.heap.size, 5, none⟩ (.int .i64 y.node.lease) rfl).setCell ⟨X5.heap.size, 6, none⟩ (.slice a6W y.node.writes.length d6W) rfl).setCell ⟨X5.heap.size, 7, none⟩ (.int .i64 y.node.sure) rfl).setCell ⟨X5.heap.size, 8, none⟩ (.int .i64 y.node.clean) rfl)
          have rd9 := (rd.ext hE9 (fun c h1 h2 h3 => by omega)).reads
          have hH9 : Below w3.heap.size w3 (((((((((X6.setCell ⟨X5.heap.size, 0, none⟩ (.int .i64 y.code)).setCell ⟨X5.heap.size, 1, none⟩ (.int .i64 y.place)).setCell ⟨X5.heap.size, 2, none⟩ (.int .i64 y.node.id)).setCell ⟨X5.heap.size, 3, none⟩ (.bool y.node.up)).setCell ⟨X5.heap.size, 4, none⟩ (.int .i64 y.node.epoch)).setCell ⟨X5.heap.size, 5, none⟩ (.int .i64 y.node.lease)).setCell ⟨X5.heap.size, 6, none⟩ (.slice a6W y.node.writes.length d6W)).setCell ⟨X5.heap.size, 7, none⟩ (.int .i64 y.node.sure)).setCell ⟨X5.heap.size, 8, none⟩ (.int .i64 y.node.clean)) := (((((((((hHeld.setCell (by simpa using bx.1) (.int .i64 y.code)).setCell (by simpa using bx.1) (.int .i64 y.place)).setCell (by simpa using bx.1) (.int .i64 y.node.id)).setCell (by simpa using bx.1) (.bool y.node.up)).setCell (by simpa using bx.1) (.int .i64 y.node.epoch)).setCell (by simpa using bx.1) (.int .i64 y.node.lease)).setCell (by simpa using bx.1) (.slice a6W y.node.writes.length d6W)).setCell (by simpa using bx.1) (.int .i64 y.node.sure)).setCell (by simpa using bx.1) (.int .i64 y.node.clean))
          clear bx rd hE9
          have bx := bx9
          have rd := rd9
          clear bx9 rd9
          go_simp
          refine hK.out _ _ hH9 (fun hHeld => ?_)
          clear hK K hH9 l0 z0 f0 z1 f1 z2 f2 z3 f3 z4 f4 z5 f5 z6 f6 z7 f7 z8 f8
          try simp only [Act.put, List.setIfInBounds_toArray, List.set_cons_zero, List.set_cons_succ]
          refine wpAnyH_done (by kernel_rfl) ?_ _
          refine NoPanic.normal ?_
          have HH := hide hHeld
          have HBX := hide bx
          have HRD := hide rd
          clear hHeld bx rd
          go_wp2_with fail
          go_meet
          exact ⟨_, _, _, rfl, (unhide HBX).lt, unhide HBX, unhide HRD, unhide HH⟩
        · have bx : Box w3.heap.size #[.int .i64 0, .int .i64 0, .int .i64 0, .bool false, .int .i64 0, .int .i64 0, .slice none 0 0, .int .i64 0, .int .i64 0] 34 (X4.alloc (.cells #[.int .i64 0, .int .i64 0, .int .i64 0, .bool false, .int .i64 0, .int .i64 0, .slice none 0 0, .int .i64 0, .int .i64 0] 34)) X4.heap.size := newBox hHeld.size
          have nbA : Below X4.heap.size X4 (X4.alloc (.cells #[.int .i64 0, .int .i64 0, .int .i64 0, .bool false, .int .i64 0, .int .i64 0, .slice none 0 0, .int .i64 0, .int .i64 0] 34)) := (Below.refl _ _).alloc (Nat.le_refl _) _
          replace rt0 := rt0.later nbA
          replace rt1 := rt1.later nbA
          have hNx := hHeld.trans (nbA.mono hHeld.size)
          go_simp
          refine hK.out _ _ hNx (fun hHeld => ?_)
          clear hK K hNx nbA
          try simp only [Act.put, List.setIfInBounds_toArray, List.set_cons_zero, List.set_cons_succ]
          generalize X4.alloc (.cells #[.int .i64 0, .int .i64 0, .int .i64 0, .bool false, .int .i64 0, .int .i64 0, .slice none 0 0, .int .i64 0, .int .i64 0] 34) = X8 at *
          refine wpAnyH_ready (rs := [4]) (by kernel_rfl) (by simp) ?_
          refine AllReadyH.cons (o := { dst := some 28, op := Go.Op.call { callee := Go.Callee.value (Go.Operand.func 6), args := #[Go.Operand.tmp 25, Go.Operand.tmp 27], argTypes := #[32, 37] }, type := 34, pos := "exact.go:3802", after := #[{ on := 1, ground := Go.Ground.data }, { on := 3, ground := Go.Ground.data }, { on := 3, ground := Go.Ground.chain }], guard := none }) rfl (fun K hK => ?_) AllReadyH.nil
          go_simp
          go_at_call 6
          refine (unhide HS _ _ _ (((unhide HT).later (unhide HB)).later hHeld) rt0 rt1).mono ?_
          rintro e X9 ⟨cs, rfl, O, hbw⟩
          obtain ⟨a6W, d6W, rfl, -⟩ := open_NodeResult O.reads
          have hs0 := bx.lt
          replace bx := bx.keep hbw
          have hz9 := hbw.size
          have rd := O
          clear O
          replace rd := rd.mono (lo' := X4.heap.size + 1) (by omega) (Nat.le_refl _)
          clear hs0
          try go_wp2_with fail
          refine hK.out _ _ (hHeld.trans (hbw.mono hHeld.size)) (fun hHeld => ?_)
          clear hK K hbw hz9
          try simp only [Act.put, List.setIfInBounds_toArray, List.set_cons_zero, List.set_cons_succ]
          clear rt0 rt1
          refine wpAnyH_ready (rs := [6]) (by kernel_rfl) (by simp) ?_
          refine AllReadyH.cons (o := { dst := none, op := Go.Op.store 34 (Go.Operand.tmp 6) (Go.Operand.tmp 28), type := 0, pos := "exact.go:3802", after := #[{ on := 5, ground := Go.Ground.data }, { on := 4, ground := Go.Ground.data }, { on := 4, ground := Go.Ground.chain }, { on := 0, ground := Go.Ground.phase }, { on := 1, ground := Go.Ground.phase }, { on := 2, ground := Go.Ground.phase }, { on := 3, ground := Go.Ground.phase }, { on := 4, ground := Go.Ground.phase }, { on := 5, ground := Go.Ground.phase }], guard := none }) rfl (fun K hK => ?_) AllReadyH.nil
          have z0 : X9.cell? ⟨X4.heap.size, 0, none⟩ = some (.int .i64 0) := bx.at 0 _ rfl
          have f0 := bx.soft 0
          have z1 : X9.cell? ⟨X4.heap.size, 1, none⟩ = some (.int .i64 0) := bx.at 1 _ rfl
          have f1 := bx.soft 1
          have z2 : X9.cell? ⟨X4.heap.size, 2, none⟩ = some (.int .i64 0) := bx.at 2 _ rfl
          have f2 := bx.soft 2
          have z3 : X9.cell? ⟨X4.heap.size, 3, none⟩ = some (.bool false) := bx.at 3 _ rfl
          have f3 := bx.soft 3
          have z4 : X9.cell? ⟨X4.heap.size, 4, none⟩ = some (.int .i64 0) := bx.at 4 _ rfl
          have f4 := bx.soft 4
          have z5 : X9.cell? ⟨X4.heap.size, 5, none⟩ = some (.int .i64 0) := bx.at 5 _ rfl
          have f5 := bx.soft 5
          have z6 : X9.cell? ⟨X4.heap.size, 6, none⟩ = some (.slice none 0 0) := bx.at 6 _ rfl
          have f6 := bx.soft 6
          have z7 : X9.cell? ⟨X4.heap.size, 7, none⟩ = some (.int .i64 0) := bx.at 7 _ rfl
          have f7 := bx.soft 7
          have z8 : X9.cell? ⟨X4.heap.size, 8, none⟩ = some (.int .i64 0) := bx.at 8 _ rfl
          have f8 := bx.soft 8
          have l0 := bx.lt
          have bx9 : Box w3.heap.size #[.int .i64 y.code, .int .i64 y.place, .int .i64 y.node.id, .bool y.node.up, .int .i64 y.node.epoch, .int .i64 y.node.lease, .slice a6W y.node.writes.length d6W, .int .i64 y.node.sure, .int .i64 y.node.clean] 34 (((((((((X9.setCell ⟨X4.heap.size, 0, none⟩ (.int .i64 y.code)).setCell ⟨X4.heap.size, 1, none⟩ (.int .i64 y.place)).setCell ⟨X4.heap.size, 2, none⟩ (.int .i64 y.node.id)).setCell ⟨X4.heap.size, 3, none⟩ (.bool y.node.up)).setCell ⟨X4.heap.size, 4, none⟩ (.int .i64 y.node.epoch)).setCell ⟨X4.heap.size, 5, none⟩ (.int .i64 y.node.lease)).setCell ⟨X4.heap.size, 6, none⟩ (.slice a6W y.node.writes.length d6W)).setCell ⟨X4.heap.size, 7, none⟩ (.int .i64 y.node.sure)).setCell ⟨X4.heap.size, 8, none⟩ (.int .i64 y.node.clean)) X4.heap.size := by have q := (((((((((bx.set 0 (.int .i64 y.code)).set 1 (.int .i64 y.place)).set 2 (.int .i64 y.node.id)).set 3 (.bool y.node.up)).set 4 (.int .i64 y.node.epoch)).set 5 (.int .i64 y.node.lease)).set 6 (.slice a6W y.node.writes.length d6W)).set 7 (.int .i64 y.node.sure)).set 8 (.int .i64 y.node.clean)); simp only [List.setIfInBounds_toArray, List.set_cons_zero, List.set_cons_succ] at q; exact q
          have hE9 : Ext (fun c => c = X4.heap.size) X9 (((((((((X9.setCell ⟨X4.heap.size, 0, none⟩ (.int .i64 y.code)).setCell ⟨X4.heap.size, 1, none⟩ (.int .i64 y.place)).setCell ⟨X4.heap.size, 2, none⟩ (.int .i64 y.node.id)).setCell ⟨X4.heap.size, 3, none⟩ (.bool y.node.up)).setCell ⟨X4.heap.size, 4, none⟩ (.int .i64 y.node.epoch)).setCell ⟨X4.heap.size, 5, none⟩ (.int .i64 y.node.lease)).setCell ⟨X4.heap.size, 6, none⟩ (.slice a6W y.node.writes.length d6W)).setCell ⟨X4.heap.size, 7, none⟩ (.int .i64 y.node.sure)).setCell ⟨X4.heap.size, 8, none⟩ (.int .i64 y.node.clean)) := ((((((((((Ext.refl (fun c => c = X4.heap.size) _).setCell ⟨X4.heap.size, 0, none⟩ (.int .i64 y.code) rfl).setCell ⟨X4.heap.size, 1, none⟩ (.int .i64 y.place) rfl).setCell ⟨X4.heap.size, 2, none⟩ (.int .i64 y.node.id) rfl).setCell ⟨X4.heap.size, 3, none⟩ (.bool y.node.up) rfl).setCell ⟨X4.heap.size, 4, none⟩ (.int .i64 y.node.epoch) rfl).setCell ⟨X4.heap.size, 5, none⟩ (.int .i64 y.node.lease) rfl).setCell ⟨X4.heap.size, 6, none⟩ (.slice a6W y.node.writes.length d6W) rfl).setCell ⟨X4.heap.size, 7, none⟩ (.int .i64 y.node.sure) rfl).setCell ⟨X4.heap.size, 8, none⟩ (.int .i64 y.node.clean) rfl)
          have rd9 := (rd.ext hE9 (fun c h1 h2 h3 => by omega)).reads
          have hH9 : Below w3.heap.size w3 (((((((((X9.setCell ⟨X4.heap.size, 0, none⟩ (.int .i64 y.code)).setCell ⟨X4.heap.size, 1, none⟩ (.int .i64 y.place)).setCell ⟨X4.heap.size, 2, none⟩ (.int .i64 y.node.id)).setCell ⟨X4.heap.size, 3, none⟩ (.bool y.node.up)).setCell ⟨X4.heap.size, 4, none⟩ (.int .i64 y.node.epoch)).setCell ⟨X4.heap.size, 5, none⟩ (.int .i64 y.node.lease)).setCell ⟨X4.heap.size, 6, none⟩ (.slice a6W y.node.writes.length d6W)).setCell ⟨X4.heap.size, 7, none⟩ (.int .i64 y.node.sure)).setCell ⟨X4.heap.size, 8, none⟩ (.int .i64 y.node.clean)) := (((((((((hHeld.setCell (by simpa using bx.1) (.int .i64 y.code)).setCell (by simpa using bx.1) (.int .i64 y.place)).setCell (by simpa using bx.1) (.int .i64 y.node.id)).setCell (by simpa using bx.1) (.bool y.node.up)).setCell (by simpa using bx.1) (.int .i64 y.node.epoch)).setCell (by simpa using bx.1) (.int .i64 y.node.lease)).setCell (by simpa using bx.1) (.slice a6W y.node.writes.length d6W)).setCell (by simpa using bx.1) (.int .i64 y.node.sure)).setCell (by simpa using bx.1) (.int .i64 y.node.clean))
          clear bx rd hE9
          have bx := bx9
          have rd := rd9
          clear bx9 rd9
          go_simp
          refine hK.out _ _ hH9 (fun hHeld => ?_)
          clear hK K hH9 l0 z0 f0 z1 f1 z2 f2 z3 f3 z4 f4 z5 f5 z6 f6 z7 f7 z8 f8
          try simp only [Act.put, List.setIfInBounds_toArray, List.set_cons_zero, List.set_cons_succ]
          refine wpAnyH_done (by kernel_rfl) ?_ _
          refine NoPanic.normal ?_
          have HH := hide hHeld
          have HBX := hide bx
          have HRD := hide rd
          clear hHeld bx rd
          go_wp2_with fail
          go_meet
          exact ⟨_, _, _, rfl, (unhide HBX).lt, unhide HBX, unhide HRD, unhide HH⟩
      · have bx : Box w3.heap.size #[.int .i64 0, .int .i64 0, .int .i64 0, .bool false, .int .i64 0, .int .i64 0, .slice none 0 0, .int .i64 0, .int .i64 0] 34 (X3.alloc (.cells #[.int .i64 0, .int .i64 0, .int .i64 0, .bool false, .int .i64 0, .int .i64 0, .slice none 0 0, .int .i64 0, .int .i64 0] 34)) X3.heap.size := newBox hHeld.size
        have nbA : Below X3.heap.size X3 (X3.alloc (.cells #[.int .i64 0, .int .i64 0, .int .i64 0, .bool false, .int .i64 0, .int .i64 0, .slice none 0 0, .int .i64 0, .int .i64 0] 34)) := (Below.refl _ _).alloc (Nat.le_refl _) _
        replace rt0 := rt0.later nbA
        have hNx := hHeld.trans (nbA.mono hHeld.size)
        go_simp
        refine hK.out _ _ hNx (fun hHeld => ?_)
        clear hK K hNx nbA
        try simp only [Act.put, List.setIfInBounds_toArray, List.set_cons_zero, List.set_cons_succ]
        generalize X3.alloc (.cells #[.int .i64 0, .int .i64 0, .int .i64 0, .bool false, .int .i64 0, .int .i64 0, .slice none 0 0, .int .i64 0, .int .i64 0] 34) = X11 at *
        refine wpAnyH_ready (rs := [3]) (by kernel_rfl) (by simp) ?_
        refine AllReadyH.cons (o := { dst := some 27, op := Go.Op.call { callee := Go.Callee.value (Go.Operand.func 8), args := #[Go.Operand.tmp 26], argTypes := #[27] }, type := 37, pos := "exact.go:3802", after := #[{ on := 2, ground := Go.Ground.data }, { on := 1, ground := Go.Ground.chain }], guard := none }) rfl (fun K hK => ?_) AllReadyH.nil
        go_simp
        go_at_call 8
        refine (to_Write _ x1 _ ((unhide HA1).reads.later hHeld) (unhide HN1)).mono ?_
        rintro e X12 ⟨vT1, rfl, OT, hbw⟩
        have rt1 := OT.reads
        obtain ⟨a2T1, d2T1, rfl, -⟩ := open_Write rt1
        replace rt0 := rt0.later hbw
        replace bx := bx.keep hbw
        clear OT
        try go_wp2_with fail
        refine hK.out _ _ (hHeld.trans (hbw.mono hHeld.size)) (fun hHeld => ?_)
        clear hK K hbw
        try simp only [Act.put, List.setIfInBounds_toArray, List.set_cons_zero, List.set_cons_succ]
        refine wpAnyH_ready (rs := [4]) (by kernel_rfl) (by simp) ?_
        refine AllReadyH.cons (o := { dst := some 28, op := Go.Op.call { callee := Go.Callee.value (Go.Operand.func 6), args := #[Go.Operand.tmp 25, Go.Operand.tmp 27], argTypes := #[32, 37] }, type := 34, pos := "exact.go:3802", after := #[{ on := 1, ground := Go.Ground.data }, { on := 3, ground := Go.Ground.data }, { on := 3, ground := Go.Ground.chain }], guard := none }) rfl (fun K hK => ?_) AllReadyH.nil
        go_simp
        go_at_call 6
        refine (unhide HS _ _ _ (((unhide HT).later (unhide HB)).later hHeld) rt0 rt1).mono ?_
        rintro e X13 ⟨cs, rfl, O, hbw⟩
        obtain ⟨a6W, d6W, rfl, -⟩ := open_NodeResult O.reads
        have hs0 := bx.lt
        replace bx := bx.keep hbw
        have hz9 := hbw.size
        have rd := O
        clear O
        replace rd := rd.mono (lo' := X3.heap.size + 1) (by omega) (Nat.le_refl _)
        clear hs0
        try go_wp2_with fail
        refine hK.out _ _ (hHeld.trans (hbw.mono hHeld.size)) (fun hHeld => ?_)
        clear hK K hbw hz9
        try simp only [Act.put, List.setIfInBounds_toArray, List.set_cons_zero, List.set_cons_succ]
        clear rt0 rt1
        refine wpAnyH_ready (rs := [6]) (by kernel_rfl) (by simp) ?_
        refine AllReadyH.cons (o := { dst := none, op := Go.Op.store 34 (Go.Operand.tmp 6) (Go.Operand.tmp 28), type := 0, pos := "exact.go:3802", after := #[{ on := 5, ground := Go.Ground.data }, { on := 4, ground := Go.Ground.data }, { on := 4, ground := Go.Ground.chain }, { on := 0, ground := Go.Ground.phase }, { on := 1, ground := Go.Ground.phase }, { on := 2, ground := Go.Ground.phase }, { on := 3, ground := Go.Ground.phase }, { on := 4, ground := Go.Ground.phase }, { on := 5, ground := Go.Ground.phase }], guard := none }) rfl (fun K hK => ?_) AllReadyH.nil
        have z0 : X13.cell? ⟨X3.heap.size, 0, none⟩ = some (.int .i64 0) := bx.at 0 _ rfl
        have f0 := bx.soft 0
        have z1 : X13.cell? ⟨X3.heap.size, 1, none⟩ = some (.int .i64 0) := bx.at 1 _ rfl
        have f1 := bx.soft 1
        have z2 : X13.cell? ⟨X3.heap.size, 2, none⟩ = some (.int .i64 0) := bx.at 2 _ rfl
        have f2 := bx.soft 2
        have z3 : X13.cell? ⟨X3.heap.size, 3, none⟩ = some (.bool false) := bx.at 3 _ rfl
        have f3 := bx.soft 3
        have z4 : X13.cell? ⟨X3.heap.size, 4, none⟩ = some (.int .i64 0) := bx.at 4 _ rfl
        have f4 := bx.soft 4
        have z5 : X13.cell? ⟨X3.heap.size, 5, none⟩ = some (.int .i64 0) := bx.at 5 _ rfl
        have f5 := bx.soft 5
        have z6 : X13.cell? ⟨X3.heap.size, 6, none⟩ = some (.slice none 0 0) := bx.at 6 _ rfl
        have f6 := bx.soft 6
        have z7 : X13.cell? ⟨X3.heap.size, 7, none⟩ = some (.int .i64 0) := bx.at 7 _ rfl
        have f7 := bx.soft 7
        have z8 : X13.cell? ⟨X3.heap.size, 8, none⟩ = some (.int .i64 0) := bx.at 8 _ rfl
        have f8 := bx.soft 8
        have l0 := bx.lt
        have bx9 : Box w3.heap.size #[.int .i64 y.code, .int .i64 y.place, .int .i64 y.node.id, .bool y.node.up, .int .i64 y.node.epoch, .int .i64 y.node.lease, .slice a6W y.node.writes.length d6W, .int .i64 y.node.sure, .int .i64 y.node.clean] 34 (((((((((X13.setCell ⟨X3.heap.size, 0, none⟩ (.int .i64 y.code)).setCell ⟨X3.heap.size, 1, none⟩ (.int .i64 y.place)).setCell ⟨X3.heap.size, 2, none⟩ (.int .i64 y.node.id)).setCell ⟨X3.heap.size, 3, none⟩ (.bool y.node.up)).setCell ⟨X3.heap.size, 4, none⟩ (.int .i64 y.node.epoch)).setCell ⟨X3.heap.size, 5, none⟩ (.int .i64 y.node.lease)).setCell ⟨X3.heap.size, 6, none⟩ (.slice a6W y.node.writes.length d6W)).setCell ⟨X3.heap.size, 7, none⟩ (.int .i64 y.node.sure)).setCell ⟨X3.heap.size, 8, none⟩ (.int .i64 y.node.clean)) X3.heap.size := by have q := (((((((((bx.set 0 (.int .i64 y.code)).set 1 (.int .i64 y.place)).set 2 (.int .i64 y.node.id)).set 3 (.bool y.node.up)).set 4 (.int .i64 y.node.epoch)).set 5 (.int .i64 y.node.lease)).set 6 (.slice a6W y.node.writes.length d6W)).set 7 (.int .i64 y.node.sure)).set 8 (.int .i64 y.node.clean)); simp only [List.setIfInBounds_toArray, List.set_cons_zero, List.set_cons_succ] at q; exact q
        have hE9 : Ext (fun c => c = X3.heap.size) X13 (((((((((X13.setCell ⟨X3.heap.size, 0, none⟩ (.int .i64 y.code)).setCell ⟨X3.heap.size, 1, none⟩ (.int .i64 y.place)).setCell ⟨X3.heap.size, 2, none⟩ (.int .i64 y.node.id)).setCell ⟨X3.heap.size, 3, none⟩ (.bool y.node.up)).setCell ⟨X3.heap.size, 4, none⟩ (.int .i64 y.node.epoch)).setCell ⟨X3.heap.size, 5, none⟩ (.int .i64 y.node.lease)).setCell ⟨X3.heap.size, 6, none⟩ (.slice a6W y.node.writes.length d6W)).setCell ⟨X3.heap.size, 7, none⟩ (.int .i64 y.node.sure)).setCell ⟨X3.heap.size, 8, none⟩ (.int .i64 y.node.clean)) := ((((((((((Ext.refl (fun c => c = X3.heap.size) _).setCell ⟨X3.heap.size, 0, none⟩ (.int .i64 y.code) rfl).setCell ⟨X3.heap.size, 1, none⟩ (.int .i64 y.place) rfl).setCell ⟨X3.heap.size, 2, none⟩ (.int .i64 y.node.id) rfl).setCell ⟨X3.heap.size, 3, none⟩ (.bool y.node.up) rfl).setCell ⟨X3.heap.size, 4, none⟩ (.int .i64 y.node.epoch) rfl).setCell ⟨X3.heap.size, 5, none⟩ (.int .i64 y.node.lease) rfl).setCell ⟨X3.heap.size, 6, none⟩ (.slice a6W y.node.writes.length d6W) rfl).setCell ⟨X3.heap.size, 7, none⟩ (.int .i64 y.node.sure) rfl).setCell ⟨X3.heap.size, 8, none⟩ (.int .i64 y.node.clean) rfl)
        have rd9 := (rd.ext hE9 (fun c h1 h2 h3 => by omega)).reads
        have hH9 : Below w3.heap.size w3 (((((((((X13.setCell ⟨X3.heap.size, 0, none⟩ (.int .i64 y.code)).setCell ⟨X3.heap.size, 1, none⟩ (.int .i64 y.place)).setCell ⟨X3.heap.size, 2, none⟩ (.int .i64 y.node.id)).setCell ⟨X3.heap.size, 3, none⟩ (.bool y.node.up)).setCell ⟨X3.heap.size, 4, none⟩ (.int .i64 y.node.epoch)).setCell ⟨X3.heap.size, 5, none⟩ (.int .i64 y.node.lease)).setCell ⟨X3.heap.size, 6, none⟩ (.slice a6W y.node.writes.length d6W)).setCell ⟨X3.heap.size, 7, none⟩ (.int .i64 y.node.sure)).setCell ⟨X3.heap.size, 8, none⟩ (.int .i64 y.node.clean)) := (((((((((hHeld.setCell (by simpa using bx.1) (.int .i64 y.code)).setCell (by simpa using bx.1) (.int .i64 y.place)).setCell (by simpa using bx.1) (.int .i64 y.node.id)).setCell (by simpa using bx.1) (.bool y.node.up)).setCell (by simpa using bx.1) (.int .i64 y.node.epoch)).setCell (by simpa using bx.1) (.int .i64 y.node.lease)).setCell (by simpa using bx.1) (.slice a6W y.node.writes.length d6W)).setCell (by simpa using bx.1) (.int .i64 y.node.sure)).setCell (by simpa using bx.1) (.int .i64 y.node.clean))
        clear bx rd hE9
        have bx := bx9
        have rd := rd9
        clear bx9 rd9
        go_simp
        refine hK.out _ _ hH9 (fun hHeld => ?_)
        clear hK K hH9 l0 z0 f0 z1 f1 z2 f2 z3 f3 z4 f4 z5 f5 z6 f6 z7 f7 z8 f8
        try simp only [Act.put, List.setIfInBounds_toArray, List.set_cons_zero, List.set_cons_succ]
        refine wpAnyH_done (by kernel_rfl) ?_ _
        refine NoPanic.normal ?_
        have HH := hide hHeld
        have HBX := hide bx
        have HRD := hide rd
        clear hHeld bx rd
        go_wp2_with fail
        go_meet
        exact ⟨_, _, _, rfl, (unhide HBX).lt, unhide HBX, unhide HRD, unhide HH⟩
    · have bx : Box w3.heap.size #[.int .i64 0, .int .i64 0, .int .i64 0, .bool false, .int .i64 0, .int .i64 0, .slice none 0 0, .int .i64 0, .int .i64 0] 34 (X0.alloc (.cells #[.int .i64 0, .int .i64 0, .int .i64 0, .bool false, .int .i64 0, .int .i64 0, .slice none 0 0, .int .i64 0, .int .i64 0] 34)) X0.heap.size := newBox hHeld.size
      have nbA : Below X0.heap.size X0 (X0.alloc (.cells #[.int .i64 0, .int .i64 0, .int .i64 0, .bool false, .int .i64 0, .int .i64 0, .slice none 0 0, .int .i64 0, .int .i64 0] 34)) := (Below.refl _ _).alloc (Nat.le_refl _) _
      have hNx := hHeld.trans (nbA.mono hHeld.size)
      go_simp
      refine hK.out _ _ hNx (fun hHeld => ?_)
      clear hK K hNx nbA
      try simp only [Act.put, List.setIfInBounds_toArray, List.set_cons_zero, List.set_cons_succ]
      generalize X0.alloc (.cells #[.int .i64 0, .int .i64 0, .int .i64 0, .bool false, .int .i64 0, .int .i64 0, .slice none 0 0, .int .i64 0, .int .i64 0] 34) = X15 at *
      refine wpAnyH_ready (rs := [1]) (by kernel_rfl) (by simp) ?_
      refine AllReadyH.cons (o := { dst := some 25, op := Go.Op.call { callee := Go.Callee.value (Go.Operand.func 7), args := #[Go.Operand.tmp 24], argTypes := #[24] }, type := 32, pos := "exact.go:3802", after := #[{ on := 0, ground := Go.Ground.data }], guard := none }) rfl (fun K hK => ?_) AllReadyH.nil
      go_simp
      go_at_call 7
      refine (to_Node _ x0 _ ((unhide HA0).reads.later hHeld) (unhide HN0)).mono ?_
      rintro e X16 ⟨vT0, rfl, OT, hbw⟩
      have rt0 := OT.reads
      obtain ⟨a4T0, d4T0, rfl, -⟩ := open_Node rt0
      replace bx := bx.keep hbw
      clear OT
      try go_wp2_with fail
      refine hK.out _ _ (hHeld.trans (hbw.mono hHeld.size)) (fun hHeld => ?_)
      clear hK K hbw
      try simp only [Act.put, List.setIfInBounds_toArray, List.set_cons_zero, List.set_cons_succ]
      refine wpAnyH_ready (rs := [3]) (by kernel_rfl) (by simp) ?_
      refine AllReadyH.cons (o := { dst := some 27, op := Go.Op.call { callee := Go.Callee.value (Go.Operand.func 8), args := #[Go.Operand.tmp 26], argTypes := #[27] }, type := 37, pos := "exact.go:3802", after := #[{ on := 2, ground := Go.Ground.data }, { on := 1, ground := Go.Ground.chain }], guard := none }) rfl (fun K hK => ?_) AllReadyH.nil
      go_simp
      go_at_call 8
      refine (to_Write _ x1 _ ((unhide HA1).reads.later hHeld) (unhide HN1)).mono ?_
      rintro e X17 ⟨vT1, rfl, OT, hbw⟩
      have rt1 := OT.reads
      obtain ⟨a2T1, d2T1, rfl, -⟩ := open_Write rt1
      replace rt0 := rt0.later hbw
      replace bx := bx.keep hbw
      clear OT
      try go_wp2_with fail
      refine hK.out _ _ (hHeld.trans (hbw.mono hHeld.size)) (fun hHeld => ?_)
      clear hK K hbw
      try simp only [Act.put, List.setIfInBounds_toArray, List.set_cons_zero, List.set_cons_succ]
      refine wpAnyH_ready (rs := [4]) (by kernel_rfl) (by simp) ?_
      refine AllReadyH.cons (o := { dst := some 28, op := Go.Op.call { callee := Go.Callee.value (Go.Operand.func 6), args := #[Go.Operand.tmp 25, Go.Operand.tmp 27], argTypes := #[32, 37] }, type := 34, pos := "exact.go:3802", after := #[{ on := 1, ground := Go.Ground.data }, { on := 3, ground := Go.Ground.data }, { on := 3, ground := Go.Ground.chain }], guard := none }) rfl (fun K hK => ?_) AllReadyH.nil
      go_simp
      go_at_call 6
      refine (unhide HS _ _ _ (((unhide HT).later (unhide HB)).later hHeld) rt0 rt1).mono ?_
      rintro e X18 ⟨cs, rfl, O, hbw⟩
      obtain ⟨a6W, d6W, rfl, -⟩ := open_NodeResult O.reads
      have hs0 := bx.lt
      replace bx := bx.keep hbw
      have hz9 := hbw.size
      have rd := O
      clear O
      replace rd := rd.mono (lo' := X0.heap.size + 1) (by omega) (Nat.le_refl _)
      clear hs0
      try go_wp2_with fail
      refine hK.out _ _ (hHeld.trans (hbw.mono hHeld.size)) (fun hHeld => ?_)
      clear hK K hbw hz9
      try simp only [Act.put, List.setIfInBounds_toArray, List.set_cons_zero, List.set_cons_succ]
      clear rt0 rt1
      refine wpAnyH_ready (rs := [6]) (by kernel_rfl) (by simp) ?_
      refine AllReadyH.cons (o := { dst := none, op := Go.Op.store 34 (Go.Operand.tmp 6) (Go.Operand.tmp 28), type := 0, pos := "exact.go:3802", after := #[{ on := 5, ground := Go.Ground.data }, { on := 4, ground := Go.Ground.data }, { on := 4, ground := Go.Ground.chain }, { on := 0, ground := Go.Ground.phase }, { on := 1, ground := Go.Ground.phase }, { on := 2, ground := Go.Ground.phase }, { on := 3, ground := Go.Ground.phase }, { on := 4, ground := Go.Ground.phase }, { on := 5, ground := Go.Ground.phase }], guard := none }) rfl (fun K hK => ?_) AllReadyH.nil
      have z0 : X18.cell? ⟨X0.heap.size, 0, none⟩ = some (.int .i64 0) := bx.at 0 _ rfl
      have f0 := bx.soft 0
      have z1 : X18.cell? ⟨X0.heap.size, 1, none⟩ = some (.int .i64 0) := bx.at 1 _ rfl
      have f1 := bx.soft 1
      have z2 : X18.cell? ⟨X0.heap.size, 2, none⟩ = some (.int .i64 0) := bx.at 2 _ rfl
      have f2 := bx.soft 2
      have z3 : X18.cell? ⟨X0.heap.size, 3, none⟩ = some (.bool false) := bx.at 3 _ rfl
      have f3 := bx.soft 3
      have z4 : X18.cell? ⟨X0.heap.size, 4, none⟩ = some (.int .i64 0) := bx.at 4 _ rfl
      have f4 := bx.soft 4
      have z5 : X18.cell? ⟨X0.heap.size, 5, none⟩ = some (.int .i64 0) := bx.at 5 _ rfl
      have f5 := bx.soft 5
      have z6 : X18.cell? ⟨X0.heap.size, 6, none⟩ = some (.slice none 0 0) := bx.at 6 _ rfl
      have f6 := bx.soft 6
      have z7 : X18.cell? ⟨X0.heap.size, 7, none⟩ = some (.int .i64 0) := bx.at 7 _ rfl
      have f7 := bx.soft 7
      have z8 : X18.cell? ⟨X0.heap.size, 8, none⟩ = some (.int .i64 0) := bx.at 8 _ rfl
      have f8 := bx.soft 8
      have l0 := bx.lt
      have bx9 : Box w3.heap.size #[.int .i64 y.code, .int .i64 y.place, .int .i64 y.node.id, .bool y.node.up, .int .i64 y.node.epoch, .int .i64 y.node.lease, .slice a6W y.node.writes.length d6W, .int .i64 y.node.sure, .int .i64 y.node.clean] 34 (((((((((X18.setCell ⟨X0.heap.size, 0, none⟩ (.int .i64 y.code)).setCell ⟨X0.heap.size, 1, none⟩ (.int .i64 y.place)).setCell ⟨X0.heap.size, 2, none⟩ (.int .i64 y.node.id)).setCell ⟨X0.heap.size, 3, none⟩ (.bool y.node.up)).setCell ⟨X0.heap.size, 4, none⟩ (.int .i64 y.node.epoch)).setCell ⟨X0.heap.size, 5, none⟩ (.int .i64 y.node.lease)).setCell ⟨X0.heap.size, 6, none⟩ (.slice a6W y.node.writes.length d6W)).setCell ⟨X0.heap.size, 7, none⟩ (.int .i64 y.node.sure)).setCell ⟨X0.heap.size, 8, none⟩ (.int .i64 y.node.clean)) X0.heap.size := by have q := (((((((((bx.set 0 (.int .i64 y.code)).set 1 (.int .i64 y.place)).set 2 (.int .i64 y.node.id)).set 3 (.bool y.node.up)).set 4 (.int .i64 y.node.epoch)).set 5 (.int .i64 y.node.lease)).set 6 (.slice a6W y.node.writes.length d6W)).set 7 (.int .i64 y.node.sure)).set 8 (.int .i64 y.node.clean)); simp only [List.setIfInBounds_toArray, List.set_cons_zero, List.set_cons_succ] at q; exact q
      have hE9 : Ext (fun c => c = X0.heap.size) X18 (((((((((X18.setCell ⟨X0.heap.size, 0, none⟩ (.int .i64 y.code)).setCell ⟨X0.heap.size, 1, none⟩ (.int .i64 y.place)).setCell ⟨X0.heap.size, 2, none⟩ (.int .i64 y.node.id)).setCell ⟨X0.heap.size, 3, none⟩ (.bool y.node.up)).setCell ⟨X0.heap.size, 4, none⟩ (.int .i64 y.node.epoch)).setCell ⟨X0.heap.size, 5, none⟩ (.int .i64 y.node.lease)).setCell ⟨X0.heap.size, 6, none⟩ (.slice a6W y.node.writes.length d6W)).setCell ⟨X0.heap.size, 7, none⟩ (.int .i64 y.node.sure)).setCell ⟨X0.heap.size, 8, none⟩ (.int .i64 y.node.clean)) := ((((((((((Ext.refl (fun c => c = X0.heap.size) _).setCell ⟨X0.heap.size, 0, none⟩ (.int .i64 y.code) rfl).setCell ⟨X0.heap.size, 1, none⟩ (.int .i64 y.place) rfl).setCell ⟨X0.heap.size, 2, none⟩ (.int .i64 y.node.id) rfl).setCell ⟨X0.heap.size, 3, none⟩ (.bool y.node.up) rfl).setCell ⟨X0.heap.size, 4, none⟩ (.int .i64 y.node.epoch) rfl).setCell ⟨X0.heap.size, 5, none⟩ (.int .i64 y.node.lease) rfl).setCell ⟨X0.heap.size, 6, none⟩ (.slice a6W y.node.writes.length d6W) rfl).setCell ⟨X0.heap.size, 7, none⟩ (.int .i64 y.node.sure) rfl).setCell ⟨X0.heap.size, 8, none⟩ (.int .i64 y.node.clean) rfl)
      have rd9 := (rd.ext hE9 (fun c h1 h2 h3 => by omega)).reads
      have hH9 : Below w3.heap.size w3 (((((((((X18.setCell ⟨X0.heap.size, 0, none⟩ (.int .i64 y.code)).setCell ⟨X0.heap.size, 1, none⟩ (.int .i64 y.place)).setCell ⟨X0.heap.size, 2, none⟩ (.int .i64 y.node.id)).setCell ⟨X0.heap.size, 3, none⟩ (.bool y.node.up)).setCell ⟨X0.heap.size, 4, none⟩ (.int .i64 y.node.epoch)).setCell ⟨X0.heap.size, 5, none⟩ (.int .i64 y.node.lease)).setCell ⟨X0.heap.size, 6, none⟩ (.slice a6W y.node.writes.length d6W)).setCell ⟨X0.heap.size, 7, none⟩ (.int .i64 y.node.sure)).setCell ⟨X0.heap.size, 8, none⟩ (.int .i64 y.node.clean)) := (((((((((hHeld.setCell (by simpa using bx.1) (.int .i64 y.code)).setCell (by simpa using bx.1) (.int .i64 y.place)).setCell (by simpa using bx.1) (.int .i64 y.node.id)).setCell (by simpa using bx.1) (.bool y.node.up)).setCell (by simpa using bx.1) (.int .i64 y.node.epoch)).setCell (by simpa using bx.1) (.int .i64 y.node.lease)).setCell (by simpa using bx.1) (.slice a6W y.node.writes.length d6W)).setCell (by simpa using bx.1) (.int .i64 y.node.sure)).setCell (by simpa using bx.1) (.int .i64 y.node.clean))
      clear bx rd hE9
      have bx := bx9
      have rd := rd9
      clear bx9 rd9
      go_simp
      refine hK.out _ _ hH9 (fun hHeld => ?_)
      clear hK K hH9 l0 z0 f0 z1 f1 z2 f2 z3 f3 z4 f4 z5 f5 z6 f6 z7 f7 z8 f8
      try simp only [Act.put, List.setIfInBounds_toArray, List.set_cons_zero, List.set_cons_succ]
      refine wpAnyH_done (by kernel_rfl) ?_ _
      refine NoPanic.normal ?_
      have HH := hide hHeld
      have HBX := hide bx
      have HRD := hide rd
      clear hHeld bx rd
      go_wp2_with fail
      go_meet
      exact ⟨_, _, _, rfl, (unhide HBX).lt, unhide HBX, unhide HRD, unhide HH⟩
  case rest =>
  obtain ⟨sW, a6W, d6W, rfl, hsW, YB, O, hb⟩ := hcut
  obtain ⟨w4, hww4⟩ : ∃ q, q = wc := ⟨_, rfl⟩
  subst hww4
  clear l0P0 l1P0 l2P0 l3P0 l4P0 l5P0 l6P0 ltP0 l0P1 l1P1 l2P1 l3P1 l4P1 ltP1
  replace HA0 := hide ((unhide HA0).later hb)
  replace HA1 := hide ((unhide HA1).later hb)
  replace P0 := hide ((unhide P0).keep hb)
  replace P1 := hide ((unhide P1).keep hb)
  have Zw4 : w3.heap.size ≤ w4.heap.size := hb.size
  replace HB := hide ((unhide HB).trans (hb.mono (by omega)))
  clear hb
  have YW := hide YB
  have HW := hide O.liesIn
  clear YB O
  have l0P0 := (unhide P0).at 0 _ rfl
  have l1P0 := (unhide P0).at 1 _ rfl
  have l2P0 := (unhide P0).at 2 _ rfl
  have l3P0 := (unhide P0).at 3 _ rfl
  have l4P0 := (unhide P0).at 4 _ rfl
  have l5P0 := (unhide P0).at 5 _ rfl
  have l6P0 := (unhide P0).at 6 _ rfl
  have ltP0 : w.heap.size < w4.heap.size := by omega
  have l0P1 := (unhide P1).at 0 _ rfl
  have l1P1 := (unhide P1).at 1 _ rfl
  have l2P1 := (unhide P1).at 2 _ rfl
  have l3P1 := (unhide P1).at 3 _ rfl
  have l4P1 := (unhide P1).at 4 _ rfl
  have ltP1 : w.heap.size + 1 < w4.heap.size := by omega
  have l0YW := (unhide YW).at 0 _ rfl
  have l1YW := (unhide YW).at 1 _ rfl
  have l2YW := (unhide YW).at 2 _ rfl
  have l3YW := (unhide YW).at 3 _ rfl
  have l4YW := (unhide YW).at 4 _ rfl
  have l5YW := (unhide YW).at 5 _ rfl
  have l6YW := (unhide YW).at 6 _ rfl
  have l7YW := (unhide YW).at 7 _ rfl
  have l8YW := (unhide YW).at 8 _ rfl
  have ltYW : sW < w4.heap.size := by omega
  simp only [List.getElem_toArray, List.getElem_cons_zero, List.getElem_cons_succ] at l0P0 l1P0 l2P0 l3P0 l4P0 l5P0 l6P0 l0P1 l1P1 l2P1 l3P1 l4P1 l0YW l1YW l2YW l3YW l4YW l5YW l6YW l7YW l8YW
  go_wp2_with fail
  clear l0P0 l1P0 l2P0 l3P0 l4P0 l5P0 l6P0 ltP0 l0P1 l1P1 l2P1 l3P1 l4P1 ltP1 l0YW l1YW l2YW l3YW l4YW l5YW l6YW l7YW l8YW ltYW
  refine (to_Node _ x0 w4 (unhide HA0).reads (unhide HN0)).mono ?_
  rintro e w5 ⟨vx0, rfl, O, hb⟩
  replace HA0 := hide ((unhide HA0).later hb)
  replace HA1 := hide ((unhide HA1).later hb)
  replace P0 := hide ((unhide P0).keep hb)
  replace P1 := hide ((unhide P1).keep hb)
  replace HW := hide ((unhide HW).later hb)
  replace YW := hide ((unhide YW).keep hb)
  have Zw5 : w4.heap.size ≤ w5.heap.size := hb.size
  replace HB := hide ((unhide HB).trans (hb.mono (by omega)))
  clear hb
  obtain ⟨a4x0, d4x0, rfl, -⟩ := open_Node O.reads
  have Hx0 := hide O
  clear O
  have nb : Below w5.heap.size w5 (w5.alloc (.cells #[.int .i64 x0.id, .bool x0.up, .int .i64 x0.epoch, .int .i64 x0.lease, .slice a4x0 x0.writes.length d4x0, .int .i64 x0.sure, .int .i64 x0.clean] 32)) := (Below.refl _ _).alloc (Nat.le_refl _) _
  have X0 : Hid (Box w5.heap.size #[.int .i64 x0.id, .bool x0.up, .int .i64 x0.epoch, .int .i64 x0.lease, .slice a4x0 x0.writes.length d4x0, .int .i64 x0.sure, .int .i64 x0.clean] 32 (w5.alloc (.cells #[.int .i64 x0.id, .bool x0.up, .int .i64 x0.epoch, .int .i64 x0.lease, .slice a4x0 x0.writes.length d4x0, .int .i64 x0.sure, .int .i64 x0.clean] 32)) w5.heap.size) := newBox (Nat.le_refl _)
  have l0P0 := (unhide P0).at 0 _ rfl
  have l1P0 := (unhide P0).at 1 _ rfl
  have l2P0 := (unhide P0).at 2 _ rfl
  have l3P0 := (unhide P0).at 3 _ rfl
  have l4P0 := (unhide P0).at 4 _ rfl
  have l5P0 := (unhide P0).at 5 _ rfl
  have l6P0 := (unhide P0).at 6 _ rfl
  have ltP0 : w.heap.size < w5.heap.size := by omega
  have l0P1 := (unhide P1).at 0 _ rfl
  have l1P1 := (unhide P1).at 1 _ rfl
  have l2P1 := (unhide P1).at 2 _ rfl
  have l3P1 := (unhide P1).at 3 _ rfl
  have l4P1 := (unhide P1).at 4 _ rfl
  have ltP1 : w.heap.size + 1 < w5.heap.size := by omega
  have l0YW := (unhide YW).at 0 _ rfl
  have l1YW := (unhide YW).at 1 _ rfl
  have l2YW := (unhide YW).at 2 _ rfl
  have l3YW := (unhide YW).at 3 _ rfl
  have l4YW := (unhide YW).at 4 _ rfl
  have l5YW := (unhide YW).at 5 _ rfl
  have l6YW := (unhide YW).at 6 _ rfl
  have l7YW := (unhide YW).at 7 _ rfl
  have l8YW := (unhide YW).at 8 _ rfl
  have ltYW : sW < w5.heap.size := by omega
  simp only [List.getElem_toArray, List.getElem_cons_zero, List.getElem_cons_succ] at l0P0 l1P0 l2P0 l3P0 l4P0 l5P0 l6P0 l0P1 l1P1 l2P1 l3P1 l4P1 l0YW l1YW l2YW l3YW l4YW l5YW l6YW l7YW l8YW
  go_wp2_with fail
  clear l0P0 l1P0 l2P0 l3P0 l4P0 l5P0 l6P0 ltP0 l0P1 l1P1 l2P1 l3P1 l4P1 ltP1 l0YW l1YW l2YW l3YW l4YW l5YW l6YW l7YW l8YW ltYW
  generalize haw6 : w5.alloc (.cells #[.int .i64 x0.id, .bool x0.up, .int .i64 x0.epoch, .int .i64 x0.lease, .slice a4x0 x0.writes.length d4x0, .int .i64 x0.sure, .int .i64 x0.clean] 32) = w6 at *
  have Gw6 : w5.heap.size < w6.heap.size := by rw [← haw6]; simp
  clear haw6
  replace HA0 := hide ((unhide HA0).later nb)
  replace HA1 := hide ((unhide HA1).later nb)
  replace P0 := hide ((unhide P0).keep nb)
  replace P1 := hide ((unhide P1).keep nb)
  replace HW := hide ((unhide HW).later nb)
  replace YW := hide ((unhide YW).keep nb)
  replace Hx0 := hide ((unhide Hx0).later nb)
  have Zw6 : w5.heap.size ≤ w6.heap.size := nb.size
  replace HB := hide ((unhide HB).trans (nb.mono (by omega)))
  clear nb
  refine (to_Write _ x1 w6 (unhide HA1).reads (unhide HN1)).mono ?_
  rintro e w7 ⟨vx1, rfl, O, hb⟩
  replace HA0 := hide ((unhide HA0).later hb)
  replace HA1 := hide ((unhide HA1).later hb)
  replace P0 := hide ((unhide P0).keep hb)
  replace P1 := hide ((unhide P1).keep hb)
  replace HW := hide ((unhide HW).later hb)
  replace YW := hide ((unhide YW).keep hb)
  replace Hx0 := hide ((unhide Hx0).later hb)
  replace X0 := hide ((unhide X0).keep hb)
  have Zw7 : w6.heap.size ≤ w7.heap.size := hb.size
  replace HB := hide ((unhide HB).trans (hb.mono (by omega)))
  clear hb
  obtain ⟨a2x1, d2x1, rfl, -⟩ := open_Write O.reads
  have Hx1 := hide O
  clear O
  have nb : Below w7.heap.size w7 (w7.alloc (.cells #[.int .i64 x1.kind, .int .i64 x1.id, .slice a2x1 x1.vec.length d2x1, .int .i64 x1.session, .int .i64 x1.seq] 37)) := (Below.refl _ _).alloc (Nat.le_refl _) _
  have X1 : Hid (Box w7.heap.size #[.int .i64 x1.kind, .int .i64 x1.id, .slice a2x1 x1.vec.length d2x1, .int .i64 x1.session, .int .i64 x1.seq] 37 (w7.alloc (.cells #[.int .i64 x1.kind, .int .i64 x1.id, .slice a2x1 x1.vec.length d2x1, .int .i64 x1.session, .int .i64 x1.seq] 37)) w7.heap.size) := newBox (Nat.le_refl _)
  have l0P0 := (unhide P0).at 0 _ rfl
  have l1P0 := (unhide P0).at 1 _ rfl
  have l2P0 := (unhide P0).at 2 _ rfl
  have l3P0 := (unhide P0).at 3 _ rfl
  have l4P0 := (unhide P0).at 4 _ rfl
  have l5P0 := (unhide P0).at 5 _ rfl
  have l6P0 := (unhide P0).at 6 _ rfl
  have ltP0 : w.heap.size < w7.heap.size := by omega
  have l0P1 := (unhide P1).at 0 _ rfl
  have l1P1 := (unhide P1).at 1 _ rfl
  have l2P1 := (unhide P1).at 2 _ rfl
  have l3P1 := (unhide P1).at 3 _ rfl
  have l4P1 := (unhide P1).at 4 _ rfl
  have ltP1 : w.heap.size + 1 < w7.heap.size := by omega
  have l0YW := (unhide YW).at 0 _ rfl
  have l1YW := (unhide YW).at 1 _ rfl
  have l2YW := (unhide YW).at 2 _ rfl
  have l3YW := (unhide YW).at 3 _ rfl
  have l4YW := (unhide YW).at 4 _ rfl
  have l5YW := (unhide YW).at 5 _ rfl
  have l6YW := (unhide YW).at 6 _ rfl
  have l7YW := (unhide YW).at 7 _ rfl
  have l8YW := (unhide YW).at 8 _ rfl
  have ltYW : sW < w7.heap.size := by omega
  have l0X0 := (unhide X0).at 0 _ rfl
  have l1X0 := (unhide X0).at 1 _ rfl
  have l2X0 := (unhide X0).at 2 _ rfl
  have l3X0 := (unhide X0).at 3 _ rfl
  have l4X0 := (unhide X0).at 4 _ rfl
  have l5X0 := (unhide X0).at 5 _ rfl
  have l6X0 := (unhide X0).at 6 _ rfl
  have ltX0 : w5.heap.size < w7.heap.size := by omega
  simp only [List.getElem_toArray, List.getElem_cons_zero, List.getElem_cons_succ] at l0P0 l1P0 l2P0 l3P0 l4P0 l5P0 l6P0 l0P1 l1P1 l2P1 l3P1 l4P1 l0YW l1YW l2YW l3YW l4YW l5YW l6YW l7YW l8YW l0X0 l1X0 l2X0 l3X0 l4X0 l5X0 l6X0
  go_wp2_with fail
  clear l0P0 l1P0 l2P0 l3P0 l4P0 l5P0 l6P0 ltP0 l0P1 l1P1 l2P1 l3P1 l4P1 ltP1 l0YW l1YW l2YW l3YW l4YW l5YW l6YW l7YW l8YW ltYW l0X0 l1X0 l2X0 l3X0 l4X0 l5X0 l6X0 ltX0
  generalize haw8 : w7.alloc (.cells #[.int .i64 x1.kind, .int .i64 x1.id, .slice a2x1 x1.vec.length d2x1, .int .i64 x1.session, .int .i64 x1.seq] 37) = w8 at *
  have Gw8 : w7.heap.size < w8.heap.size := by rw [← haw8]; simp
  clear haw8
  replace HA0 := hide ((unhide HA0).later nb)
  replace HA1 := hide ((unhide HA1).later nb)
  replace P0 := hide ((unhide P0).keep nb)
  replace P1 := hide ((unhide P1).keep nb)
  replace HW := hide ((unhide HW).later nb)
  replace YW := hide ((unhide YW).keep nb)
  replace Hx0 := hide ((unhide Hx0).later nb)
  replace X0 := hide ((unhide X0).keep nb)
  replace Hx1 := hide ((unhide Hx1).later nb)
  have Zw8 : w7.heap.size ≤ w8.heap.size := nb.size
  replace HB := hide ((unhide HB).trans (nb.mono (by omega)))
  clear nb
  refine (unhide HI w8 _ _ ((unhide HT).later (unhide HB)) (unhide Hx0).reads (unhide Hx1).reads).mono ?_
  rintro e w9 ⟨cs, rfl, O, hb⟩
  replace HA0 := hide ((unhide HA0).later hb)
  replace HA1 := hide ((unhide HA1).later hb)
  replace P0 := hide ((unhide P0).keep hb)
  replace P1 := hide ((unhide P1).keep hb)
  replace HW := hide ((unhide HW).later hb)
  replace YW := hide ((unhide YW).keep hb)
  replace Hx0 := hide ((unhide Hx0).later hb)
  replace X0 := hide ((unhide X0).keep hb)
  replace Hx1 := hide ((unhide Hx1).later hb)
  replace X1 := hide ((unhide X1).keep hb)
  have Zw9 : w8.heap.size ≤ w9.heap.size := hb.size
  replace HB := hide ((unhide HB).trans (hb.mono (by omega)))
  clear hb
  obtain ⟨a6G, d6G, rfl, -⟩ := open_NodeResult O.reads
  have HG := hide O
  clear O
  have nb : Below w9.heap.size w9 (w9.alloc (.cells #[.int .i64 y.code, .int .i64 y.place, .int .i64 y.node.id, .bool y.node.up, .int .i64 y.node.epoch, .int .i64 y.node.lease, .slice a6G y.node.writes.length d6G, .int .i64 y.node.sure, .int .i64 y.node.clean] 34)) := (Below.refl _ _).alloc (Nat.le_refl _) _
  have YG : Hid (Box w9.heap.size #[.int .i64 y.code, .int .i64 y.place, .int .i64 y.node.id, .bool y.node.up, .int .i64 y.node.epoch, .int .i64 y.node.lease, .slice a6G y.node.writes.length d6G, .int .i64 y.node.sure, .int .i64 y.node.clean] 34 (w9.alloc (.cells #[.int .i64 y.code, .int .i64 y.place, .int .i64 y.node.id, .bool y.node.up, .int .i64 y.node.epoch, .int .i64 y.node.lease, .slice a6G y.node.writes.length d6G, .int .i64 y.node.sure, .int .i64 y.node.clean] 34)) w9.heap.size) := newBox (Nat.le_refl _)
  have l0P0 := (unhide P0).at 0 _ rfl
  have l1P0 := (unhide P0).at 1 _ rfl
  have l2P0 := (unhide P0).at 2 _ rfl
  have l3P0 := (unhide P0).at 3 _ rfl
  have l4P0 := (unhide P0).at 4 _ rfl
  have l5P0 := (unhide P0).at 5 _ rfl
  have l6P0 := (unhide P0).at 6 _ rfl
  have ltP0 : w.heap.size < w9.heap.size := by omega
  have l0P1 := (unhide P1).at 0 _ rfl
  have l1P1 := (unhide P1).at 1 _ rfl
  have l2P1 := (unhide P1).at 2 _ rfl
  have l3P1 := (unhide P1).at 3 _ rfl
  have l4P1 := (unhide P1).at 4 _ rfl
  have ltP1 : w.heap.size + 1 < w9.heap.size := by omega
  have l0YW := (unhide YW).at 0 _ rfl
  have l1YW := (unhide YW).at 1 _ rfl
  have l2YW := (unhide YW).at 2 _ rfl
  have l3YW := (unhide YW).at 3 _ rfl
  have l4YW := (unhide YW).at 4 _ rfl
  have l5YW := (unhide YW).at 5 _ rfl
  have l6YW := (unhide YW).at 6 _ rfl
  have l7YW := (unhide YW).at 7 _ rfl
  have l8YW := (unhide YW).at 8 _ rfl
  have ltYW : sW < w9.heap.size := by omega
  have l0X0 := (unhide X0).at 0 _ rfl
  have l1X0 := (unhide X0).at 1 _ rfl
  have l2X0 := (unhide X0).at 2 _ rfl
  have l3X0 := (unhide X0).at 3 _ rfl
  have l4X0 := (unhide X0).at 4 _ rfl
  have l5X0 := (unhide X0).at 5 _ rfl
  have l6X0 := (unhide X0).at 6 _ rfl
  have ltX0 : w5.heap.size < w9.heap.size := by omega
  have l0X1 := (unhide X1).at 0 _ rfl
  have l1X1 := (unhide X1).at 1 _ rfl
  have l2X1 := (unhide X1).at 2 _ rfl
  have l3X1 := (unhide X1).at 3 _ rfl
  have l4X1 := (unhide X1).at 4 _ rfl
  have ltX1 : w7.heap.size < w9.heap.size := by omega
  simp only [List.getElem_toArray, List.getElem_cons_zero, List.getElem_cons_succ] at l0P0 l1P0 l2P0 l3P0 l4P0 l5P0 l6P0 l0P1 l1P1 l2P1 l3P1 l4P1 l0YW l1YW l2YW l3YW l4YW l5YW l6YW l7YW l8YW l0X0 l1X0 l2X0 l3X0 l4X0 l5X0 l6X0 l0X1 l1X1 l2X1 l3X1 l4X1
  go_wp2_with fail
  clear l0P0 l1P0 l2P0 l3P0 l4P0 l5P0 l6P0 ltP0 l0P1 l1P1 l2P1 l3P1 l4P1 ltP1 l0YW l1YW l2YW l3YW l4YW l5YW l6YW l7YW l8YW ltYW l0X0 l1X0 l2X0 l3X0 l4X0 l5X0 l6X0 ltX0 l0X1 l1X1 l2X1 l3X1 l4X1 ltX1
  generalize haw10 : w9.alloc (.cells #[.int .i64 y.code, .int .i64 y.place, .int .i64 y.node.id, .bool y.node.up, .int .i64 y.node.epoch, .int .i64 y.node.lease, .slice a6G y.node.writes.length d6G, .int .i64 y.node.sure, .int .i64 y.node.clean] 34) = w10 at *
  have Gw10 : w9.heap.size < w10.heap.size := by rw [← haw10]; simp
  clear haw10
  replace HA0 := hide ((unhide HA0).later nb)
  replace HA1 := hide ((unhide HA1).later nb)
  replace P0 := hide ((unhide P0).keep nb)
  replace P1 := hide ((unhide P1).keep nb)
  replace HW := hide ((unhide HW).later nb)
  replace YW := hide ((unhide YW).keep nb)
  replace Hx0 := hide ((unhide Hx0).later nb)
  replace X0 := hide ((unhide X0).keep nb)
  replace Hx1 := hide ((unhide Hx1).later nb)
  replace X1 := hide ((unhide X1).keep nb)
  replace HG := hide ((unhide HG).later nb)
  have Zw10 : w9.heap.size ≤ w10.heap.size := nb.size
  replace HB := hide ((unhide HB).trans (nb.mono (by omega)))
  clear nb
  refine (eq_NodeResult _ _ y w10 (unhide HG).reads (unhide HW).reads).mono ?_
  rintro e w11 ⟨rfl, hb⟩
  replace HA0 := hide ((unhide HA0).later hb)
  replace HA1 := hide ((unhide HA1).later hb)
  replace P0 := hide ((unhide P0).keep hb)
  replace P1 := hide ((unhide P1).keep hb)
  replace HW := hide ((unhide HW).later hb)
  replace YW := hide ((unhide YW).keep hb)
  replace Hx0 := hide ((unhide Hx0).later hb)
  replace X0 := hide ((unhide X0).keep hb)
  replace Hx1 := hide ((unhide Hx1).later hb)
  replace X1 := hide ((unhide X1).keep hb)
  replace HG := hide ((unhide HG).later hb)
  replace YG := hide ((unhide YG).keep hb)
  have Zw11 : w10.heap.size ≤ w11.heap.size := hb.size
  replace HB := hide ((unhide HB).trans (hb.mono (by omega)))
  clear hb
  have l0P0 := (unhide P0).at 0 _ rfl
  have l1P0 := (unhide P0).at 1 _ rfl
  have l2P0 := (unhide P0).at 2 _ rfl
  have l3P0 := (unhide P0).at 3 _ rfl
  have l4P0 := (unhide P0).at 4 _ rfl
  have l5P0 := (unhide P0).at 5 _ rfl
  have l6P0 := (unhide P0).at 6 _ rfl
  have ltP0 : w.heap.size < w11.heap.size := by omega
  have l0P1 := (unhide P1).at 0 _ rfl
  have l1P1 := (unhide P1).at 1 _ rfl
  have l2P1 := (unhide P1).at 2 _ rfl
  have l3P1 := (unhide P1).at 3 _ rfl
  have l4P1 := (unhide P1).at 4 _ rfl
  have ltP1 : w.heap.size + 1 < w11.heap.size := by omega
  have l0YW := (unhide YW).at 0 _ rfl
  have l1YW := (unhide YW).at 1 _ rfl
  have l2YW := (unhide YW).at 2 _ rfl
  have l3YW := (unhide YW).at 3 _ rfl
  have l4YW := (unhide YW).at 4 _ rfl
  have l5YW := (unhide YW).at 5 _ rfl
  have l6YW := (unhide YW).at 6 _ rfl
  have l7YW := (unhide YW).at 7 _ rfl
  have l8YW := (unhide YW).at 8 _ rfl
  have ltYW : sW < w11.heap.size := by omega
  have l0X0 := (unhide X0).at 0 _ rfl
  have l1X0 := (unhide X0).at 1 _ rfl
  have l2X0 := (unhide X0).at 2 _ rfl
  have l3X0 := (unhide X0).at 3 _ rfl
  have l4X0 := (unhide X0).at 4 _ rfl
  have l5X0 := (unhide X0).at 5 _ rfl
  have l6X0 := (unhide X0).at 6 _ rfl
  have ltX0 : w5.heap.size < w11.heap.size := by omega
  have l0X1 := (unhide X1).at 0 _ rfl
  have l1X1 := (unhide X1).at 1 _ rfl
  have l2X1 := (unhide X1).at 2 _ rfl
  have l3X1 := (unhide X1).at 3 _ rfl
  have l4X1 := (unhide X1).at 4 _ rfl
  have ltX1 : w7.heap.size < w11.heap.size := by omega
  have l0YG := (unhide YG).at 0 _ rfl
  have l1YG := (unhide YG).at 1 _ rfl
  have l2YG := (unhide YG).at 2 _ rfl
  have l3YG := (unhide YG).at 3 _ rfl
  have l4YG := (unhide YG).at 4 _ rfl
  have l5YG := (unhide YG).at 5 _ rfl
  have l6YG := (unhide YG).at 6 _ rfl
  have l7YG := (unhide YG).at 7 _ rfl
  have l8YG := (unhide YG).at 8 _ rfl
  have ltYG : w9.heap.size < w11.heap.size := by omega
  simp only [List.getElem_toArray, List.getElem_cons_zero, List.getElem_cons_succ] at l0P0 l1P0 l2P0 l3P0 l4P0 l5P0 l6P0 l0P1 l1P1 l2P1 l3P1 l4P1 l0YW l1YW l2YW l3YW l4YW l5YW l6YW l7YW l8YW l0X0 l1X0 l2X0 l3X0 l4X0 l5X0 l6X0 l0X1 l1X1 l2X1 l3X1 l4X1 l0YG l1YG l2YG l3YG l4YG l5YG l6YG l7YG l8YG
  go_wp2_with fail
  clear l0P0 l1P0 l2P0 l3P0 l4P0 l5P0 l6P0 ltP0 l0P1 l1P1 l2P1 l3P1 l4P1 ltP1 l0YW l1YW l2YW l3YW l4YW l5YW l6YW l7YW l8YW ltYW l0X0 l1X0 l2X0 l3X0 l4X0 l5X0 l6X0 ltX0 l0X1 l1X1 l2X1 l3X1 l4X1 ltX1 l0YG l1YG l2YG l3YG l4YG l5YG l6YG l7YG l8YG ltYG
  have l0P0 := (unhide P0).at 0 _ rfl
  have l1P0 := (unhide P0).at 1 _ rfl
  have l2P0 := (unhide P0).at 2 _ rfl
  have l3P0 := (unhide P0).at 3 _ rfl
  have l4P0 := (unhide P0).at 4 _ rfl
  have l5P0 := (unhide P0).at 5 _ rfl
  have l6P0 := (unhide P0).at 6 _ rfl
  have ltP0 : w.heap.size < w11.heap.size := by omega
  have l0X0 := (unhide X0).at 0 _ rfl
  have l1X0 := (unhide X0).at 1 _ rfl
  have l2X0 := (unhide X0).at 2 _ rfl
  have l3X0 := (unhide X0).at 3 _ rfl
  have l4X0 := (unhide X0).at 4 _ rfl
  have l5X0 := (unhide X0).at 5 _ rfl
  have l6X0 := (unhide X0).at 6 _ rfl
  have ltX0 : w5.heap.size < w11.heap.size := by omega
  simp only [List.getElem_toArray, List.getElem_cons_zero, List.getElem_cons_succ] at l0P0 l1P0 l2P0 l3P0 l4P0 l5P0 l6P0 l0X0 l1X0 l2X0 l3X0 l4X0 l5X0 l6X0
  refine wp_region_noPanic ?_
  refine wp_region_held_drew (S := fun w' => Below w11.heap.size w11 w') (by kernel_rfl) (Below.refl _ _).drew (fun hHeld => ?_)
  generalize w11.drew = wD at hHeld ⊢
  refine wpAnyH_take (i := 0) (oi := { dst := some 40, op := Go.Op.load 32 (Go.Operand.tmp 7), type := 32, pos := "exact.go:3809", after := #[], guard := none }) (v := ?vs00) rfl (by kernel_rfl) (by kernel_rfl) (by kernel_rfl) (fun _ _ _ h => h) (Or.inl ⟨by rfl, ?hs00⟩) hHeld ?rs00
  case hs00 =>
    intro wS hSw
    have y0P0 := (hSw.cell (p := ⟨w.heap.size, 0, none⟩) ltP0).trans l0P0
    have y1P0 := (hSw.cell (p := ⟨w.heap.size, 1, none⟩) ltP0).trans l1P0
    have y2P0 := (hSw.cell (p := ⟨w.heap.size, 2, none⟩) ltP0).trans l2P0
    have y3P0 := (hSw.cell (p := ⟨w.heap.size, 3, none⟩) ltP0).trans l3P0
    have y4P0 := (hSw.cell (p := ⟨w.heap.size, 4, none⟩) ltP0).trans l4P0
    have y5P0 := (hSw.cell (p := ⟨w.heap.size, 5, none⟩) ltP0).trans l5P0
    have y6P0 := (hSw.cell (p := ⟨w.heap.size, 6, none⟩) ltP0).trans l6P0
    have y0X0 := (hSw.cell (p := ⟨w5.heap.size, 0, none⟩) ltX0).trans l0X0
    have y1X0 := (hSw.cell (p := ⟨w5.heap.size, 1, none⟩) ltX0).trans l1X0
    have y2X0 := (hSw.cell (p := ⟨w5.heap.size, 2, none⟩) ltX0).trans l2X0
    have y3X0 := (hSw.cell (p := ⟨w5.heap.size, 3, none⟩) ltX0).trans l3X0
    have y4X0 := (hSw.cell (p := ⟨w5.heap.size, 4, none⟩) ltX0).trans l4X0
    have y5X0 := (hSw.cell (p := ⟨w5.heap.size, 5, none⟩) ltX0).trans l5X0
    have y6X0 := (hSw.cell (p := ⟨w5.heap.size, 6, none⟩) ltX0).trans l6X0
    clear hSw
    (try dsimp only at hSw)
    go_simp
    try with_reducible rfl
  case rs00 =>
  simp only [Act.put, List.setIfInBounds_toArray, List.set_cons_zero, List.set_cons_succ]
  refine wpAnyH_take (i := 1) (oi := { dst := some 41, op := Go.Op.load 24 (Go.Operand.tmp 2), type := 24, pos := "exact.go:3809", after := #[], guard := none }) (v := ?vs01) rfl (by kernel_rfl) (by kernel_rfl) (by kernel_rfl) (fun _ _ _ h => h) (Or.inl ⟨by rfl, ?hs01⟩) hHeld ?rs01
  case hs01 =>
    intro wS hSw
    have y0P0 := (hSw.cell (p := ⟨w.heap.size, 0, none⟩) ltP0).trans l0P0
    have y1P0 := (hSw.cell (p := ⟨w.heap.size, 1, none⟩) ltP0).trans l1P0
    have y2P0 := (hSw.cell (p := ⟨w.heap.size, 2, none⟩) ltP0).trans l2P0
    have y3P0 := (hSw.cell (p := ⟨w.heap.size, 3, none⟩) ltP0).trans l3P0
    have y4P0 := (hSw.cell (p := ⟨w.heap.size, 4, none⟩) ltP0).trans l4P0
    have y5P0 := (hSw.cell (p := ⟨w.heap.size, 5, none⟩) ltP0).trans l5P0
    have y6P0 := (hSw.cell (p := ⟨w.heap.size, 6, none⟩) ltP0).trans l6P0
    have y0X0 := (hSw.cell (p := ⟨w5.heap.size, 0, none⟩) ltX0).trans l0X0
    have y1X0 := (hSw.cell (p := ⟨w5.heap.size, 1, none⟩) ltX0).trans l1X0
    have y2X0 := (hSw.cell (p := ⟨w5.heap.size, 2, none⟩) ltX0).trans l2X0
    have y3X0 := (hSw.cell (p := ⟨w5.heap.size, 3, none⟩) ltX0).trans l3X0
    have y4X0 := (hSw.cell (p := ⟨w5.heap.size, 4, none⟩) ltX0).trans l4X0
    have y5X0 := (hSw.cell (p := ⟨w5.heap.size, 5, none⟩) ltX0).trans l5X0
    have y6X0 := (hSw.cell (p := ⟨w5.heap.size, 6, none⟩) ltX0).trans l6X0
    clear hSw
    (try dsimp only at hSw)
    go_simp
    try with_reducible rfl
  case rs01 =>
  simp only [Act.put, List.setIfInBounds_toArray, List.set_cons_zero, List.set_cons_succ]
  refine wpAnyH_ready (rs := [2]) (by kernel_rfl) (by simp) ?_
  refine AllReadyH.cons (o := { dst := some 42, op := Go.Op.call { callee := Go.Callee.value (Go.Operand.func 7), args := #[Go.Operand.tmp 41], argTypes := #[24] }, type := 32, pos := "exact.go:3809", after := #[{ on := 1, ground := Go.Ground.data }], guard := none }) rfl (fun K hK => ?_) AllReadyH.nil
  go_simp
  go_at_call 7
  refine (to_Node _ x0 _ ((unhide HA0).reads.later hHeld) (unhide HN0)).mono ?_
  rintro e wT ⟨vT, rfl, OT, hbw⟩
  have RT := OT.reads
  obtain ⟨a4T, d4T, rfl, -⟩ := open_Node RT
  try go_wp2_with fail
  refine hK.out _ _ (hHeld.trans (hbw.mono hHeld.size)) (fun hHeld => ?_)
  clear hK K
  try simp only [Act.put, List.setIfInBounds_toArray, List.set_cons_zero, List.set_cons_succ]
  refine wpAnyH_ready (rs := [3]) (by kernel_rfl) (by simp) ?_
  refine AllReadyH.cons (o := { dst := some 43, op := Go.Op.call { callee := Go.Callee.value (Go.Operand.func 11), args := #[Go.Operand.tmp 40, Go.Operand.tmp 42], argTypes := #[32, 32] }, type := 4, pos := "exact.go:3809", after := #[{ on := 0, ground := Go.Ground.data }, { on := 2, ground := Go.Ground.data }, { on := 2, ground := Go.Ground.chain }], guard := none }) rfl (fun K hK => ?_) AllReadyH.nil
  go_simp
  go_at_call 11
  refine (eq_Node _ _ x0 _ ((unhide Hx0).reads.later hHeld) RT).mono ?_
  rintro e wU0 ⟨rfl, hbw⟩
  try go_wp2_with fail
  refine hK.out _ _ (hHeld.trans (hbw.mono hHeld.size)) (fun hHeld => ?_)
  clear hK K
  try simp only [Act.put, List.setIfInBounds_toArray, List.set_cons_zero, List.set_cons_succ]
  refine wpAnyH_take (i := 4) (oi := { dst := some 44, op := Go.Op.unOp Go.UnOp.not 4 (Go.Operand.tmp 43), type := 4, pos := "exact.go:3809", after := #[{ on := 3, ground := Go.Ground.data }], guard := none }) (v := ?vs04) rfl (by kernel_rfl) (by kernel_rfl) (by kernel_rfl) (fun _ _ _ h => h) (Or.inl ⟨by rfl, ?hs04⟩) hHeld ?rs04
  case hs04 =>
    intro wS hSw
    (try dsimp only at hSw)
    go_simp
    try with_reducible rfl
  case rs04 =>
  simp only [Act.put, List.setIfInBounds_toArray, List.set_cons_zero, List.set_cons_succ]
  refine wpAnyH_done (by kernel_rfl) ?_ _
  refine NoPanic.normal ?_
  clear l0P0 l1P0 l2P0 l3P0 l4P0 l5P0 l6P0 ltP0 l0X0 l1X0 l2X0 l3X0 l4X0 l5X0 l6X0 ltX0 OT RT
  have hb : Below w11.heap.size w11 wU0 := hHeld
  clear hHeld hbw
  replace HA0 := hide ((unhide HA0).later hb)
  replace HA1 := hide ((unhide HA1).later hb)
  replace P0 := hide ((unhide P0).keep hb)
  replace P1 := hide ((unhide P1).keep hb)
  replace HW := hide ((unhide HW).later hb)
  replace YW := hide ((unhide YW).keep hb)
  replace Hx0 := hide ((unhide Hx0).later hb)
  replace X0 := hide ((unhide X0).keep hb)
  replace Hx1 := hide ((unhide Hx1).later hb)
  replace X1 := hide ((unhide X1).keep hb)
  replace HG := hide ((unhide HG).later hb)
  replace YG := hide ((unhide YG).keep hb)
  have ZwU0 : w11.heap.size ≤ wU0.heap.size := hb.size
  replace HB := hide ((unhide HB).trans (hb.mono (by omega)))
  clear hb
  have l0P0 := (unhide P0).at 0 _ rfl
  have l1P0 := (unhide P0).at 1 _ rfl
  have l2P0 := (unhide P0).at 2 _ rfl
  have l3P0 := (unhide P0).at 3 _ rfl
  have l4P0 := (unhide P0).at 4 _ rfl
  have l5P0 := (unhide P0).at 5 _ rfl
  have l6P0 := (unhide P0).at 6 _ rfl
  have ltP0 : w.heap.size < wU0.heap.size := by omega
  have l0P1 := (unhide P1).at 0 _ rfl
  have l1P1 := (unhide P1).at 1 _ rfl
  have l2P1 := (unhide P1).at 2 _ rfl
  have l3P1 := (unhide P1).at 3 _ rfl
  have l4P1 := (unhide P1).at 4 _ rfl
  have ltP1 : w.heap.size + 1 < wU0.heap.size := by omega
  have l0YW := (unhide YW).at 0 _ rfl
  have l1YW := (unhide YW).at 1 _ rfl
  have l2YW := (unhide YW).at 2 _ rfl
  have l3YW := (unhide YW).at 3 _ rfl
  have l4YW := (unhide YW).at 4 _ rfl
  have l5YW := (unhide YW).at 5 _ rfl
  have l6YW := (unhide YW).at 6 _ rfl
  have l7YW := (unhide YW).at 7 _ rfl
  have l8YW := (unhide YW).at 8 _ rfl
  have ltYW : sW < wU0.heap.size := by omega
  have l0X0 := (unhide X0).at 0 _ rfl
  have l1X0 := (unhide X0).at 1 _ rfl
  have l2X0 := (unhide X0).at 2 _ rfl
  have l3X0 := (unhide X0).at 3 _ rfl
  have l4X0 := (unhide X0).at 4 _ rfl
  have l5X0 := (unhide X0).at 5 _ rfl
  have l6X0 := (unhide X0).at 6 _ rfl
  have ltX0 : w5.heap.size < wU0.heap.size := by omega
  have l0X1 := (unhide X1).at 0 _ rfl
  have l1X1 := (unhide X1).at 1 _ rfl
  have l2X1 := (unhide X1).at 2 _ rfl
  have l3X1 := (unhide X1).at 3 _ rfl
  have l4X1 := (unhide X1).at 4 _ rfl
  have ltX1 : w7.heap.size < wU0.heap.size := by omega
  have l0YG := (unhide YG).at 0 _ rfl
  have l1YG := (unhide YG).at 1 _ rfl
  have l2YG := (unhide YG).at 2 _ rfl
  have l3YG := (unhide YG).at 3 _ rfl
  have l4YG := (unhide YG).at 4 _ rfl
  have l5YG := (unhide YG).at 5 _ rfl
  have l6YG := (unhide YG).at 6 _ rfl
  have l7YG := (unhide YG).at 7 _ rfl
  have l8YG := (unhide YG).at 8 _ rfl
  have ltYG : w9.heap.size < wU0.heap.size := by omega
  simp only [List.getElem_toArray, List.getElem_cons_zero, List.getElem_cons_succ] at l0P0 l1P0 l2P0 l3P0 l4P0 l5P0 l6P0 l0P1 l1P1 l2P1 l3P1 l4P1 l0YW l1YW l2YW l3YW l4YW l5YW l6YW l7YW l8YW l0X0 l1X0 l2X0 l3X0 l4X0 l5X0 l6X0 l0X1 l1X1 l2X1 l3X1 l4X1 l0YG l1YG l2YG l3YG l4YG l5YG l6YG l7YG l8YG
  go_wp2_with fail
  clear l0P0 l1P0 l2P0 l3P0 l4P0 l5P0 l6P0 ltP0 l0P1 l1P1 l2P1 l3P1 l4P1 ltP1 l0YW l1YW l2YW l3YW l4YW l5YW l6YW l7YW l8YW ltYW l0X0 l1X0 l2X0 l3X0 l4X0 l5X0 l6X0 ltX0 l0X1 l1X1 l2X1 l3X1 l4X1 ltX1 l0YG l1YG l2YG l3YG l4YG l5YG l6YG l7YG l8YG ltYG
  have l0P1 := (unhide P1).at 0 _ rfl
  have l1P1 := (unhide P1).at 1 _ rfl
  have l2P1 := (unhide P1).at 2 _ rfl
  have l3P1 := (unhide P1).at 3 _ rfl
  have l4P1 := (unhide P1).at 4 _ rfl
  have ltP1 : w.heap.size + 1 < wU0.heap.size := by omega
  have l0X1 := (unhide X1).at 0 _ rfl
  have l1X1 := (unhide X1).at 1 _ rfl
  have l2X1 := (unhide X1).at 2 _ rfl
  have l3X1 := (unhide X1).at 3 _ rfl
  have l4X1 := (unhide X1).at 4 _ rfl
  have ltX1 : w7.heap.size < wU0.heap.size := by omega
  simp only [List.getElem_toArray, List.getElem_cons_zero, List.getElem_cons_succ] at l0P1 l1P1 l2P1 l3P1 l4P1 l0X1 l1X1 l2X1 l3X1 l4X1
  refine wp_region_noPanic ?_
  refine wp_region_held_drew (S := fun w' => Below wU0.heap.size wU0 w') (by kernel_rfl) (Below.refl _ _).drew (fun hHeld => ?_)
  generalize wU0.drew = wD at hHeld ⊢
  refine wpAnyH_take (i := 0) (oi := { dst := some 45, op := Go.Op.load 37 (Go.Operand.tmp 8), type := 37, pos := "exact.go:3812", after := #[], guard := none }) (v := ?vs10) rfl (by kernel_rfl) (by kernel_rfl) (by kernel_rfl) (fun _ _ _ h => h) (Or.inl ⟨by rfl, ?hs10⟩) hHeld ?rs10
  case hs10 =>
    intro wS hSw
    have y0P1 := (hSw.cell (p := ⟨w.heap.size + 1, 0, none⟩) ltP1).trans l0P1
    have y1P1 := (hSw.cell (p := ⟨w.heap.size + 1, 1, none⟩) ltP1).trans l1P1
    have y2P1 := (hSw.cell (p := ⟨w.heap.size + 1, 2, none⟩) ltP1).trans l2P1
    have y3P1 := (hSw.cell (p := ⟨w.heap.size + 1, 3, none⟩) ltP1).trans l3P1
    have y4P1 := (hSw.cell (p := ⟨w.heap.size + 1, 4, none⟩) ltP1).trans l4P1
    have y0X1 := (hSw.cell (p := ⟨w7.heap.size, 0, none⟩) ltX1).trans l0X1
    have y1X1 := (hSw.cell (p := ⟨w7.heap.size, 1, none⟩) ltX1).trans l1X1
    have y2X1 := (hSw.cell (p := ⟨w7.heap.size, 2, none⟩) ltX1).trans l2X1
    have y3X1 := (hSw.cell (p := ⟨w7.heap.size, 3, none⟩) ltX1).trans l3X1
    have y4X1 := (hSw.cell (p := ⟨w7.heap.size, 4, none⟩) ltX1).trans l4X1
    clear hSw
    (try dsimp only at hSw)
    go_simp
    try with_reducible rfl
  case rs10 =>
  simp only [Act.put, List.setIfInBounds_toArray, List.set_cons_zero, List.set_cons_succ]
  refine wpAnyH_take (i := 1) (oi := { dst := some 46, op := Go.Op.load 27 (Go.Operand.tmp 3), type := 27, pos := "exact.go:3812", after := #[], guard := none }) (v := ?vs11) rfl (by kernel_rfl) (by kernel_rfl) (by kernel_rfl) (fun _ _ _ h => h) (Or.inl ⟨by rfl, ?hs11⟩) hHeld ?rs11
  case hs11 =>
    intro wS hSw
    have y0P1 := (hSw.cell (p := ⟨w.heap.size + 1, 0, none⟩) ltP1).trans l0P1
    have y1P1 := (hSw.cell (p := ⟨w.heap.size + 1, 1, none⟩) ltP1).trans l1P1
    have y2P1 := (hSw.cell (p := ⟨w.heap.size + 1, 2, none⟩) ltP1).trans l2P1
    have y3P1 := (hSw.cell (p := ⟨w.heap.size + 1, 3, none⟩) ltP1).trans l3P1
    have y4P1 := (hSw.cell (p := ⟨w.heap.size + 1, 4, none⟩) ltP1).trans l4P1
    have y0X1 := (hSw.cell (p := ⟨w7.heap.size, 0, none⟩) ltX1).trans l0X1
    have y1X1 := (hSw.cell (p := ⟨w7.heap.size, 1, none⟩) ltX1).trans l1X1
    have y2X1 := (hSw.cell (p := ⟨w7.heap.size, 2, none⟩) ltX1).trans l2X1
    have y3X1 := (hSw.cell (p := ⟨w7.heap.size, 3, none⟩) ltX1).trans l3X1
    have y4X1 := (hSw.cell (p := ⟨w7.heap.size, 4, none⟩) ltX1).trans l4X1
    clear hSw
    (try dsimp only at hSw)
    go_simp
    try with_reducible rfl
  case rs11 =>
  simp only [Act.put, List.setIfInBounds_toArray, List.set_cons_zero, List.set_cons_succ]
  refine wpAnyH_ready (rs := [2]) (by kernel_rfl) (by simp) ?_
  refine AllReadyH.cons (o := { dst := some 47, op := Go.Op.call { callee := Go.Callee.value (Go.Operand.func 8), args := #[Go.Operand.tmp 46], argTypes := #[27] }, type := 37, pos := "exact.go:3812", after := #[{ on := 1, ground := Go.Ground.data }], guard := none }) rfl (fun K hK => ?_) AllReadyH.nil
  go_simp
  go_at_call 8
  refine (to_Write _ x1 _ ((unhide HA1).reads.later hHeld) (unhide HN1)).mono ?_
  rintro e wT ⟨vT, rfl, OT, hbw⟩
  have RT := OT.reads
  obtain ⟨a2T, d2T, rfl, -⟩ := open_Write RT
  try go_wp2_with fail
  refine hK.out _ _ (hHeld.trans (hbw.mono hHeld.size)) (fun hHeld => ?_)
  clear hK K
  try simp only [Act.put, List.setIfInBounds_toArray, List.set_cons_zero, List.set_cons_succ]
  refine wpAnyH_ready (rs := [3]) (by kernel_rfl) (by simp) ?_
  refine AllReadyH.cons (o := { dst := some 48, op := Go.Op.call { callee := Go.Callee.value (Go.Operand.func 12), args := #[Go.Operand.tmp 45, Go.Operand.tmp 47], argTypes := #[37, 37] }, type := 4, pos := "exact.go:3812", after := #[{ on := 0, ground := Go.Ground.data }, { on := 2, ground := Go.Ground.data }, { on := 2, ground := Go.Ground.chain }], guard := none }) rfl (fun K hK => ?_) AllReadyH.nil
  go_simp
  go_at_call 12
  refine (eq_Write _ _ x1 _ ((unhide Hx1).reads.later hHeld) RT).mono ?_
  rintro e wU1 ⟨rfl, hbw⟩
  try go_wp2_with fail
  refine hK.out _ _ (hHeld.trans (hbw.mono hHeld.size)) (fun hHeld => ?_)
  clear hK K
  try simp only [Act.put, List.setIfInBounds_toArray, List.set_cons_zero, List.set_cons_succ]
  refine wpAnyH_take (i := 4) (oi := { dst := some 49, op := Go.Op.unOp Go.UnOp.not 4 (Go.Operand.tmp 48), type := 4, pos := "exact.go:3812", after := #[{ on := 3, ground := Go.Ground.data }], guard := none }) (v := ?vs14) rfl (by kernel_rfl) (by kernel_rfl) (by kernel_rfl) (fun _ _ _ h => h) (Or.inl ⟨by rfl, ?hs14⟩) hHeld ?rs14
  case hs14 =>
    intro wS hSw
    (try dsimp only at hSw)
    go_simp
    try with_reducible rfl
  case rs14 =>
  simp only [Act.put, List.setIfInBounds_toArray, List.set_cons_zero, List.set_cons_succ]
  refine wpAnyH_done (by kernel_rfl) ?_ _
  refine NoPanic.normal ?_
  clear l0P1 l1P1 l2P1 l3P1 l4P1 ltP1 l0X1 l1X1 l2X1 l3X1 l4X1 ltX1 OT RT
  have hb : Below wU0.heap.size wU0 wU1 := hHeld
  clear hHeld hbw
  replace HA0 := hide ((unhide HA0).later hb)
  replace HA1 := hide ((unhide HA1).later hb)
  replace P0 := hide ((unhide P0).keep hb)
  replace P1 := hide ((unhide P1).keep hb)
  replace HW := hide ((unhide HW).later hb)
  replace YW := hide ((unhide YW).keep hb)
  replace Hx0 := hide ((unhide Hx0).later hb)
  replace X0 := hide ((unhide X0).keep hb)
  replace Hx1 := hide ((unhide Hx1).later hb)
  replace X1 := hide ((unhide X1).keep hb)
  replace HG := hide ((unhide HG).later hb)
  replace YG := hide ((unhide YG).keep hb)
  have ZwU1 : wU0.heap.size ≤ wU1.heap.size := hb.size
  replace HB := hide ((unhide HB).trans (hb.mono (by omega)))
  clear hb
  have l0P0 := (unhide P0).at 0 _ rfl
  have l1P0 := (unhide P0).at 1 _ rfl
  have l2P0 := (unhide P0).at 2 _ rfl
  have l3P0 := (unhide P0).at 3 _ rfl
  have l4P0 := (unhide P0).at 4 _ rfl
  have l5P0 := (unhide P0).at 5 _ rfl
  have l6P0 := (unhide P0).at 6 _ rfl
  have ltP0 : w.heap.size < wU1.heap.size := by omega
  have l0P1 := (unhide P1).at 0 _ rfl
  have l1P1 := (unhide P1).at 1 _ rfl
  have l2P1 := (unhide P1).at 2 _ rfl
  have l3P1 := (unhide P1).at 3 _ rfl
  have l4P1 := (unhide P1).at 4 _ rfl
  have ltP1 : w.heap.size + 1 < wU1.heap.size := by omega
  have l0YW := (unhide YW).at 0 _ rfl
  have l1YW := (unhide YW).at 1 _ rfl
  have l2YW := (unhide YW).at 2 _ rfl
  have l3YW := (unhide YW).at 3 _ rfl
  have l4YW := (unhide YW).at 4 _ rfl
  have l5YW := (unhide YW).at 5 _ rfl
  have l6YW := (unhide YW).at 6 _ rfl
  have l7YW := (unhide YW).at 7 _ rfl
  have l8YW := (unhide YW).at 8 _ rfl
  have ltYW : sW < wU1.heap.size := by omega
  have l0X0 := (unhide X0).at 0 _ rfl
  have l1X0 := (unhide X0).at 1 _ rfl
  have l2X0 := (unhide X0).at 2 _ rfl
  have l3X0 := (unhide X0).at 3 _ rfl
  have l4X0 := (unhide X0).at 4 _ rfl
  have l5X0 := (unhide X0).at 5 _ rfl
  have l6X0 := (unhide X0).at 6 _ rfl
  have ltX0 : w5.heap.size < wU1.heap.size := by omega
  have l0X1 := (unhide X1).at 0 _ rfl
  have l1X1 := (unhide X1).at 1 _ rfl
  have l2X1 := (unhide X1).at 2 _ rfl
  have l3X1 := (unhide X1).at 3 _ rfl
  have l4X1 := (unhide X1).at 4 _ rfl
  have ltX1 : w7.heap.size < wU1.heap.size := by omega
  have l0YG := (unhide YG).at 0 _ rfl
  have l1YG := (unhide YG).at 1 _ rfl
  have l2YG := (unhide YG).at 2 _ rfl
  have l3YG := (unhide YG).at 3 _ rfl
  have l4YG := (unhide YG).at 4 _ rfl
  have l5YG := (unhide YG).at 5 _ rfl
  have l6YG := (unhide YG).at 6 _ rfl
  have l7YG := (unhide YG).at 7 _ rfl
  have l8YG := (unhide YG).at 8 _ rfl
  have ltYG : w9.heap.size < wU1.heap.size := by omega
  simp only [List.getElem_toArray, List.getElem_cons_zero, List.getElem_cons_succ] at l0P0 l1P0 l2P0 l3P0 l4P0 l5P0 l6P0 l0P1 l1P1 l2P1 l3P1 l4P1 l0YW l1YW l2YW l3YW l4YW l5YW l6YW l7YW l8YW l0X0 l1X0 l2X0 l3X0 l4X0 l5X0 l6X0 l0X1 l1X1 l2X1 l3X1 l4X1 l0YG l1YG l2YG l3YG l4YG l5YG l6YG l7YG l8YG
  go_wp2_with fail
  clear l0P0 l1P0 l2P0 l3P0 l4P0 l5P0 l6P0 ltP0 l0P1 l1P1 l2P1 l3P1 l4P1 ltP1 l0YW l1YW l2YW l3YW l4YW l5YW l6YW l7YW l8YW ltYW l0X0 l1X0 l2X0 l3X0 l4X0 l5X0 l6X0 ltX0 l0X1 l1X1 l2X1 l3X1 l4X1 ltX1 l0YG l1YG l2YG l3YG l4YG l5YG l6YG l7YG l8YG ltYG
  obtain ⟨bl, O, hbl⟩ := unhide Hx0
  clear Hx0
  have HCx0 := few_bound (A := Lay.tNode) (few_via (few_pair few_int (few_pair few_bool (few_pair few_int (few_pair few_int (few_pair (few_sl (few_via (few_pair few_int (few_pair few_int (few_pair (few_sl few_int) (few_pair few_int few_int)))))) (few_pair few_int few_int))))))) (unhide HN0) (by omega)
  refine (mark_Node _ x0 bl (1) wU1 O (by omega) (by omega)).mono ?_
  rintro e w14 ⟨rfl, -, E⟩
  replace E := E.mono (S' := within w4.heap.size w5.heap.size) fun b _ hb => hbl b hb
  clear hbl O
  have zlo : w.heap.size ≤ w4.heap.size ∧ w5.heap.size ≤ wU1.heap.size := by omega
  replace HA0 := hide ((unhide HA0).ext E (within_out (by omega)))
  replace HA1 := hide ((unhide HA1).ext E (within_out (by omega)))
  replace P0 := hide ((unhide P0).ext E (fun q => by simp only [within] at q; omega))
  replace P1 := hide ((unhide P1).ext E (fun q => by simp only [within] at q; omega))
  replace HW := hide ((unhide HW).ext E (within_out (by omega)))
  replace YW := hide ((unhide YW).ext E (fun q => by simp only [within] at q; omega))
  replace X0 := hide ((unhide X0).ext E (fun q => by simp only [within] at q; omega))
  replace Hx1 := hide ((unhide Hx1).ext E (within_out (by omega)))
  replace X1 := hide ((unhide X1).ext E (fun q => by simp only [within] at q; omega))
  replace HG := hide ((unhide HG).ext E (within_out (by omega)))
  replace YG := hide ((unhide YG).ext E (fun q => by simp only [within] at q; omega))
  have Zw14 : wU1.heap.size ≤ w14.heap.size := E.size
  replace HB := hide ((unhide HB).trans (E.below (by omega) (fun k h q => by simp only [within] at q; omega)))
  clear E
  clear zlo
  have l0P0 := (unhide P0).at 0 _ rfl
  have l1P0 := (unhide P0).at 1 _ rfl
  have l2P0 := (unhide P0).at 2 _ rfl
  have l3P0 := (unhide P0).at 3 _ rfl
  have l4P0 := (unhide P0).at 4 _ rfl
  have l5P0 := (unhide P0).at 5 _ rfl
  have l6P0 := (unhide P0).at 6 _ rfl
  have ltP0 : w.heap.size < w14.heap.size := by omega
  have l0P1 := (unhide P1).at 0 _ rfl
  have l1P1 := (unhide P1).at 1 _ rfl
  have l2P1 := (unhide P1).at 2 _ rfl
  have l3P1 := (unhide P1).at 3 _ rfl
  have l4P1 := (unhide P1).at 4 _ rfl
  have ltP1 : w.heap.size + 1 < w14.heap.size := by omega
  have l0YW := (unhide YW).at 0 _ rfl
  have l1YW := (unhide YW).at 1 _ rfl
  have l2YW := (unhide YW).at 2 _ rfl
  have l3YW := (unhide YW).at 3 _ rfl
  have l4YW := (unhide YW).at 4 _ rfl
  have l5YW := (unhide YW).at 5 _ rfl
  have l6YW := (unhide YW).at 6 _ rfl
  have l7YW := (unhide YW).at 7 _ rfl
  have l8YW := (unhide YW).at 8 _ rfl
  have ltYW : sW < w14.heap.size := by omega
  have l0X0 := (unhide X0).at 0 _ rfl
  have l1X0 := (unhide X0).at 1 _ rfl
  have l2X0 := (unhide X0).at 2 _ rfl
  have l3X0 := (unhide X0).at 3 _ rfl
  have l4X0 := (unhide X0).at 4 _ rfl
  have l5X0 := (unhide X0).at 5 _ rfl
  have l6X0 := (unhide X0).at 6 _ rfl
  have ltX0 : w5.heap.size < w14.heap.size := by omega
  have l0X1 := (unhide X1).at 0 _ rfl
  have l1X1 := (unhide X1).at 1 _ rfl
  have l2X1 := (unhide X1).at 2 _ rfl
  have l3X1 := (unhide X1).at 3 _ rfl
  have l4X1 := (unhide X1).at 4 _ rfl
  have ltX1 : w7.heap.size < w14.heap.size := by omega
  have l0YG := (unhide YG).at 0 _ rfl
  have l1YG := (unhide YG).at 1 _ rfl
  have l2YG := (unhide YG).at 2 _ rfl
  have l3YG := (unhide YG).at 3 _ rfl
  have l4YG := (unhide YG).at 4 _ rfl
  have l5YG := (unhide YG).at 5 _ rfl
  have l6YG := (unhide YG).at 6 _ rfl
  have l7YG := (unhide YG).at 7 _ rfl
  have l8YG := (unhide YG).at 8 _ rfl
  have ltYG : w9.heap.size < w14.heap.size := by omega
  simp only [List.getElem_toArray, List.getElem_cons_zero, List.getElem_cons_succ] at l0P0 l1P0 l2P0 l3P0 l4P0 l5P0 l6P0 l0P1 l1P1 l2P1 l3P1 l4P1 l0YW l1YW l2YW l3YW l4YW l5YW l6YW l7YW l8YW l0X0 l1X0 l2X0 l3X0 l4X0 l5X0 l6X0 l0X1 l1X1 l2X1 l3X1 l4X1 l0YG l1YG l2YG l3YG l4YG l5YG l6YG l7YG l8YG
  go_wp2_with fail
  clear l0P0 l1P0 l2P0 l3P0 l4P0 l5P0 l6P0 ltP0 l0P1 l1P1 l2P1 l3P1 l4P1 ltP1 l0YW l1YW l2YW l3YW l4YW l5YW l6YW l7YW l8YW ltYW l0X0 l1X0 l2X0 l3X0 l4X0 l5X0 l6X0 ltX0 l0X1 l1X1 l2X1 l3X1 l4X1 ltX1 l0YG l1YG l2YG l3YG l4YG l5YG l6YG l7YG l8YG ltYG
  obtain ⟨bl, O, hbl⟩ := unhide Hx1
  clear Hx1
  have HCx1 := few_bound (A := Lay.tWrite) (few_via (few_pair few_int (few_pair few_int (few_pair (few_sl few_int) (few_pair few_int few_int))))) (unhide HN1) (by omega)
  refine (mark_Write _ x1 bl (1 + (Lay.tNode.vcnt x0 : Int)) w14 O (by omega) (by omega)).mono ?_
  rintro e w15 ⟨rfl, -, E⟩
  replace E := E.mono (S' := within w6.heap.size w7.heap.size) fun b _ hb => hbl b hb
  clear hbl O
  have zlo : w.heap.size ≤ w6.heap.size ∧ w7.heap.size ≤ w14.heap.size := by omega
  replace HA0 := hide ((unhide HA0).ext E (within_out (by omega)))
  replace HA1 := hide ((unhide HA1).ext E (within_out (by omega)))
  replace P0 := hide ((unhide P0).ext E (fun q => by simp only [within] at q; omega))
  replace P1 := hide ((unhide P1).ext E (fun q => by simp only [within] at q; omega))
  replace HW := hide ((unhide HW).ext E (within_out (by omega)))
  replace YW := hide ((unhide YW).ext E (fun q => by simp only [within] at q; omega))
  replace X0 := hide ((unhide X0).ext E (fun q => by simp only [within] at q; omega))
  replace X1 := hide ((unhide X1).ext E (fun q => by simp only [within] at q; omega))
  replace HG := hide ((unhide HG).ext E (within_out (by omega)))
  replace YG := hide ((unhide YG).ext E (fun q => by simp only [within] at q; omega))
  have Zw15 : w14.heap.size ≤ w15.heap.size := E.size
  replace HB := hide ((unhide HB).trans (E.below (by omega) (fun k h q => by simp only [within] at q; omega)))
  clear E
  clear zlo
  obtain ⟨mk, hmk⟩ : ∃ mk : Int, mk = 1 + (Lay.tNode.vcnt x0 : Int) + (Lay.tWrite.vcnt x1 : Int) := ⟨_, rfl⟩
  rw [← hmk]
  have hm3 : decide (mk < 0) = false := decide_eq_false (by omega)
  clear hmk HCx0 HCx1
  have l0P0 := (unhide P0).at 0 _ rfl
  have l1P0 := (unhide P0).at 1 _ rfl
  have l2P0 := (unhide P0).at 2 _ rfl
  have l3P0 := (unhide P0).at 3 _ rfl
  have l4P0 := (unhide P0).at 4 _ rfl
  have l5P0 := (unhide P0).at 5 _ rfl
  have l6P0 := (unhide P0).at 6 _ rfl
  have ltP0 : w.heap.size < w15.heap.size := by omega
  have l0P1 := (unhide P1).at 0 _ rfl
  have l1P1 := (unhide P1).at 1 _ rfl
  have l2P1 := (unhide P1).at 2 _ rfl
  have l3P1 := (unhide P1).at 3 _ rfl
  have l4P1 := (unhide P1).at 4 _ rfl
  have ltP1 : w.heap.size + 1 < w15.heap.size := by omega
  have l0YW := (unhide YW).at 0 _ rfl
  have l1YW := (unhide YW).at 1 _ rfl
  have l2YW := (unhide YW).at 2 _ rfl
  have l3YW := (unhide YW).at 3 _ rfl
  have l4YW := (unhide YW).at 4 _ rfl
  have l5YW := (unhide YW).at 5 _ rfl
  have l6YW := (unhide YW).at 6 _ rfl
  have l7YW := (unhide YW).at 7 _ rfl
  have l8YW := (unhide YW).at 8 _ rfl
  have ltYW : sW < w15.heap.size := by omega
  have l0X0 := (unhide X0).at 0 _ rfl
  have l1X0 := (unhide X0).at 1 _ rfl
  have l2X0 := (unhide X0).at 2 _ rfl
  have l3X0 := (unhide X0).at 3 _ rfl
  have l4X0 := (unhide X0).at 4 _ rfl
  have l5X0 := (unhide X0).at 5 _ rfl
  have l6X0 := (unhide X0).at 6 _ rfl
  have ltX0 : w5.heap.size < w15.heap.size := by omega
  have l0X1 := (unhide X1).at 0 _ rfl
  have l1X1 := (unhide X1).at 1 _ rfl
  have l2X1 := (unhide X1).at 2 _ rfl
  have l3X1 := (unhide X1).at 3 _ rfl
  have l4X1 := (unhide X1).at 4 _ rfl
  have ltX1 : w7.heap.size < w15.heap.size := by omega
  have l0YG := (unhide YG).at 0 _ rfl
  have l1YG := (unhide YG).at 1 _ rfl
  have l2YG := (unhide YG).at 2 _ rfl
  have l3YG := (unhide YG).at 3 _ rfl
  have l4YG := (unhide YG).at 4 _ rfl
  have l5YG := (unhide YG).at 5 _ rfl
  have l6YG := (unhide YG).at 6 _ rfl
  have l7YG := (unhide YG).at 7 _ rfl
  have l8YG := (unhide YG).at 8 _ rfl
  have ltYG : w9.heap.size < w15.heap.size := by omega
  simp only [List.getElem_toArray, List.getElem_cons_zero, List.getElem_cons_succ] at l0P0 l1P0 l2P0 l3P0 l4P0 l5P0 l6P0 l0P1 l1P1 l2P1 l3P1 l4P1 l0YW l1YW l2YW l3YW l4YW l5YW l6YW l7YW l8YW l0X0 l1X0 l2X0 l3X0 l4X0 l5X0 l6X0 l0X1 l1X1 l2X1 l3X1 l4X1 l0YG l1YG l2YG l3YG l4YG l5YG l6YG l7YG l8YG
  go_wp2_with fail
  clear l0P0 l1P0 l2P0 l3P0 l4P0 l5P0 l6P0 ltP0 l0P1 l1P1 l2P1 l3P1 l4P1 ltP1 l0YW l1YW l2YW l3YW l4YW l5YW l6YW l7YW l8YW ltYW l0X0 l1X0 l2X0 l3X0 l4X0 l5X0 l6X0 ltX0 l0X1 l1X1 l2X1 l3X1 l4X1 ltX1 l0YG l1YG l2YG l3YG l4YG l5YG l6YG l7YG l8YG ltYG
  refine (eq_NodeResult _ _ y w15 (unhide HG).reads (unhide HW).reads).mono ?_
  rintro e w16 ⟨rfl, hb⟩
  replace HA0 := hide ((unhide HA0).later hb)
  replace HA1 := hide ((unhide HA1).later hb)
  replace P0 := hide ((unhide P0).keep hb)
  replace P1 := hide ((unhide P1).keep hb)
  replace HW := hide ((unhide HW).later hb)
  replace YW := hide ((unhide YW).keep hb)
  replace X0 := hide ((unhide X0).keep hb)
  replace X1 := hide ((unhide X1).keep hb)
  replace HG := hide ((unhide HG).later hb)
  replace YG := hide ((unhide YG).keep hb)
  have Zw16 : w15.heap.size ≤ w16.heap.size := hb.size
  replace HB := hide ((unhide HB).trans (hb.mono (by omega)))
  clear hb
  clear hm3
  have l0P0 := (unhide P0).at 0 _ rfl
  have l1P0 := (unhide P0).at 1 _ rfl
  have l2P0 := (unhide P0).at 2 _ rfl
  have l3P0 := (unhide P0).at 3 _ rfl
  have l4P0 := (unhide P0).at 4 _ rfl
  have l5P0 := (unhide P0).at 5 _ rfl
  have l6P0 := (unhide P0).at 6 _ rfl
  have ltP0 : w.heap.size < w16.heap.size := by omega
  have l0P1 := (unhide P1).at 0 _ rfl
  have l1P1 := (unhide P1).at 1 _ rfl
  have l2P1 := (unhide P1).at 2 _ rfl
  have l3P1 := (unhide P1).at 3 _ rfl
  have l4P1 := (unhide P1).at 4 _ rfl
  have ltP1 : w.heap.size + 1 < w16.heap.size := by omega
  have l0YW := (unhide YW).at 0 _ rfl
  have l1YW := (unhide YW).at 1 _ rfl
  have l2YW := (unhide YW).at 2 _ rfl
  have l3YW := (unhide YW).at 3 _ rfl
  have l4YW := (unhide YW).at 4 _ rfl
  have l5YW := (unhide YW).at 5 _ rfl
  have l6YW := (unhide YW).at 6 _ rfl
  have l7YW := (unhide YW).at 7 _ rfl
  have l8YW := (unhide YW).at 8 _ rfl
  have ltYW : sW < w16.heap.size := by omega
  have l0X0 := (unhide X0).at 0 _ rfl
  have l1X0 := (unhide X0).at 1 _ rfl
  have l2X0 := (unhide X0).at 2 _ rfl
  have l3X0 := (unhide X0).at 3 _ rfl
  have l4X0 := (unhide X0).at 4 _ rfl
  have l5X0 := (unhide X0).at 5 _ rfl
  have l6X0 := (unhide X0).at 6 _ rfl
  have ltX0 : w5.heap.size < w16.heap.size := by omega
  have l0X1 := (unhide X1).at 0 _ rfl
  have l1X1 := (unhide X1).at 1 _ rfl
  have l2X1 := (unhide X1).at 2 _ rfl
  have l3X1 := (unhide X1).at 3 _ rfl
  have l4X1 := (unhide X1).at 4 _ rfl
  have ltX1 : w7.heap.size < w16.heap.size := by omega
  have l0YG := (unhide YG).at 0 _ rfl
  have l1YG := (unhide YG).at 1 _ rfl
  have l2YG := (unhide YG).at 2 _ rfl
  have l3YG := (unhide YG).at 3 _ rfl
  have l4YG := (unhide YG).at 4 _ rfl
  have l5YG := (unhide YG).at 5 _ rfl
  have l6YG := (unhide YG).at 6 _ rfl
  have l7YG := (unhide YG).at 7 _ rfl
  have l8YG := (unhide YG).at 8 _ rfl
  have ltYG : w9.heap.size < w16.heap.size := by omega
  simp only [List.getElem_toArray, List.getElem_cons_zero, List.getElem_cons_succ] at l0P0 l1P0 l2P0 l3P0 l4P0 l5P0 l6P0 l0P1 l1P1 l2P1 l3P1 l4P1 l0YW l1YW l2YW l3YW l4YW l5YW l6YW l7YW l8YW l0X0 l1X0 l2X0 l3X0 l4X0 l5X0 l6X0 l0X1 l1X1 l2X1 l3X1 l4X1 l0YG l1YG l2YG l3YG l4YG l5YG l6YG l7YG l8YG
  go_wp2_with fail
  clear l0P0 l1P0 l2P0 l3P0 l4P0 l5P0 l6P0 ltP0 l0P1 l1P1 l2P1 l3P1 l4P1 ltP1 l0YW l1YW l2YW l3YW l4YW l5YW l6YW l7YW l8YW ltYW l0X0 l1X0 l2X0 l3X0 l4X0 l5X0 l6X0 ltX0 l0X1 l1X1 l2X1 l3X1 l4X1 ltX1 l0YG l1YG l2YG l3YG l4YG l5YG l6YG l7YG l8YG ltYG
  obtain ⟨bl, O, hbl⟩ := unhide HG
  clear HG
  have hcy := unhide HC
  refine (mark_NodeResult _ y bl 1 w16 O (by omega) (by omega)).mono ?_
  rintro e w17 ⟨rfl, O2, E⟩
  replace E := E.mono (S' := within w8.heap.size w9.heap.size) fun b _ hb => hbl b hb
  have HG : Hid (Lay.tNodeResult.OwnIn w17 _ (Lay.tNodeResult.mkv 1 y) w8.heap.size w9.heap.size) := ⟨bl, O2, hbl⟩
  clear hbl O O2
  have zlo : w.heap.size ≤ w8.heap.size ∧ w9.heap.size ≤ w16.heap.size := by omega
  replace HA0 := hide ((unhide HA0).ext E (within_out (by omega)))
  replace HA1 := hide ((unhide HA1).ext E (within_out (by omega)))
  replace P0 := hide ((unhide P0).ext E (fun q => by simp only [within] at q; omega))
  replace P1 := hide ((unhide P1).ext E (fun q => by simp only [within] at q; omega))
  replace HW := hide ((unhide HW).ext E (within_out (by omega)))
  replace YW := hide ((unhide YW).ext E (fun q => by simp only [within] at q; omega))
  replace X0 := hide ((unhide X0).ext E (fun q => by simp only [within] at q; omega))
  replace X1 := hide ((unhide X1).ext E (fun q => by simp only [within] at q; omega))
  replace YG := hide ((unhide YG).ext E (fun q => by simp only [within] at q; omega))
  have Zw17 : w16.heap.size ≤ w17.heap.size := E.size
  replace HB := hide ((unhide HB).trans (E.below (by omega) (fun k h q => by simp only [within] at q; omega)))
  clear E
  clear zlo
  have hq0 : decide (1 + (Lay.tNodeResult.vcnt y : Int) < 0) = false := decide_eq_false (by omega)
  have hq1 : ((1 + (Lay.tNodeResult.vcnt y : Int)) != (1 + (Lay.tNodeResult.vcnt y : Int))) = false := by simp
  clear hcy
  have l0P0 := (unhide P0).at 0 _ rfl
  have l1P0 := (unhide P0).at 1 _ rfl
  have l2P0 := (unhide P0).at 2 _ rfl
  have l3P0 := (unhide P0).at 3 _ rfl
  have l4P0 := (unhide P0).at 4 _ rfl
  have l5P0 := (unhide P0).at 5 _ rfl
  have l6P0 := (unhide P0).at 6 _ rfl
  have ltP0 : w.heap.size < w17.heap.size := by omega
  have l0P1 := (unhide P1).at 0 _ rfl
  have l1P1 := (unhide P1).at 1 _ rfl
  have l2P1 := (unhide P1).at 2 _ rfl
  have l3P1 := (unhide P1).at 3 _ rfl
  have l4P1 := (unhide P1).at 4 _ rfl
  have ltP1 : w.heap.size + 1 < w17.heap.size := by omega
  have l0YW := (unhide YW).at 0 _ rfl
  have l1YW := (unhide YW).at 1 _ rfl
  have l2YW := (unhide YW).at 2 _ rfl
  have l3YW := (unhide YW).at 3 _ rfl
  have l4YW := (unhide YW).at 4 _ rfl
  have l5YW := (unhide YW).at 5 _ rfl
  have l6YW := (unhide YW).at 6 _ rfl
  have l7YW := (unhide YW).at 7 _ rfl
  have l8YW := (unhide YW).at 8 _ rfl
  have ltYW : sW < w17.heap.size := by omega
  have l0X0 := (unhide X0).at 0 _ rfl
  have l1X0 := (unhide X0).at 1 _ rfl
  have l2X0 := (unhide X0).at 2 _ rfl
  have l3X0 := (unhide X0).at 3 _ rfl
  have l4X0 := (unhide X0).at 4 _ rfl
  have l5X0 := (unhide X0).at 5 _ rfl
  have l6X0 := (unhide X0).at 6 _ rfl
  have ltX0 : w5.heap.size < w17.heap.size := by omega
  have l0X1 := (unhide X1).at 0 _ rfl
  have l1X1 := (unhide X1).at 1 _ rfl
  have l2X1 := (unhide X1).at 2 _ rfl
  have l3X1 := (unhide X1).at 3 _ rfl
  have l4X1 := (unhide X1).at 4 _ rfl
  have ltX1 : w7.heap.size < w17.heap.size := by omega
  have l0YG := (unhide YG).at 0 _ rfl
  have l1YG := (unhide YG).at 1 _ rfl
  have l2YG := (unhide YG).at 2 _ rfl
  have l3YG := (unhide YG).at 3 _ rfl
  have l4YG := (unhide YG).at 4 _ rfl
  have l5YG := (unhide YG).at 5 _ rfl
  have l6YG := (unhide YG).at 6 _ rfl
  have l7YG := (unhide YG).at 7 _ rfl
  have l8YG := (unhide YG).at 8 _ rfl
  have ltYG : w9.heap.size < w17.heap.size := by omega
  simp only [List.getElem_toArray, List.getElem_cons_zero, List.getElem_cons_succ] at l0P0 l1P0 l2P0 l3P0 l4P0 l5P0 l6P0 l0P1 l1P1 l2P1 l3P1 l4P1 l0YW l1YW l2YW l3YW l4YW l5YW l6YW l7YW l8YW l0X0 l1X0 l2X0 l3X0 l4X0 l5X0 l6X0 l0X1 l1X1 l2X1 l3X1 l4X1 l0YG l1YG l2YG l3YG l4YG l5YG l6YG l7YG l8YG
  go_wp2_with fail
  clear l0P0 l1P0 l2P0 l3P0 l4P0 l5P0 l6P0 ltP0 l0P1 l1P1 l2P1 l3P1 l4P1 ltP1 l0YW l1YW l2YW l3YW l4YW l5YW l6YW l7YW l8YW ltYW l0X0 l1X0 l2X0 l3X0 l4X0 l5X0 l6X0 ltX0 l0X1 l1X1 l2X1 l3X1 l4X1 ltX1 l0YG l1YG l2YG l3YG l4YG l5YG l6YG l7YG l8YG ltYG
  refine (held_NodeResult _ y 1 w17 (unhide HG).reads (by omega) (by have := unhide HC; omega)).mono ?_
  rintro e w18 ⟨rfl, hb⟩
  replace HA0 := hide ((unhide HA0).later hb)
  replace HA1 := hide ((unhide HA1).later hb)
  replace P0 := hide ((unhide P0).keep hb)
  replace P1 := hide ((unhide P1).keep hb)
  replace HW := hide ((unhide HW).later hb)
  replace YW := hide ((unhide YW).keep hb)
  replace X0 := hide ((unhide X0).keep hb)
  replace X1 := hide ((unhide X1).keep hb)
  replace YG := hide ((unhide YG).keep hb)
  replace HG := hide ((unhide HG).later hb)
  have Zw18 : w17.heap.size ≤ w18.heap.size := hb.size
  replace HB := hide ((unhide HB).trans (hb.mono (by omega)))
  clear hb
  have l0P0 := (unhide P0).at 0 _ rfl
  have l1P0 := (unhide P0).at 1 _ rfl
  have l2P0 := (unhide P0).at 2 _ rfl
  have l3P0 := (unhide P0).at 3 _ rfl
  have l4P0 := (unhide P0).at 4 _ rfl
  have l5P0 := (unhide P0).at 5 _ rfl
  have l6P0 := (unhide P0).at 6 _ rfl
  have ltP0 : w.heap.size < w18.heap.size := by omega
  have l0P1 := (unhide P1).at 0 _ rfl
  have l1P1 := (unhide P1).at 1 _ rfl
  have l2P1 := (unhide P1).at 2 _ rfl
  have l3P1 := (unhide P1).at 3 _ rfl
  have l4P1 := (unhide P1).at 4 _ rfl
  have ltP1 : w.heap.size + 1 < w18.heap.size := by omega
  have l0YW := (unhide YW).at 0 _ rfl
  have l1YW := (unhide YW).at 1 _ rfl
  have l2YW := (unhide YW).at 2 _ rfl
  have l3YW := (unhide YW).at 3 _ rfl
  have l4YW := (unhide YW).at 4 _ rfl
  have l5YW := (unhide YW).at 5 _ rfl
  have l6YW := (unhide YW).at 6 _ rfl
  have l7YW := (unhide YW).at 7 _ rfl
  have l8YW := (unhide YW).at 8 _ rfl
  have ltYW : sW < w18.heap.size := by omega
  have l0X0 := (unhide X0).at 0 _ rfl
  have l1X0 := (unhide X0).at 1 _ rfl
  have l2X0 := (unhide X0).at 2 _ rfl
  have l3X0 := (unhide X0).at 3 _ rfl
  have l4X0 := (unhide X0).at 4 _ rfl
  have l5X0 := (unhide X0).at 5 _ rfl
  have l6X0 := (unhide X0).at 6 _ rfl
  have ltX0 : w5.heap.size < w18.heap.size := by omega
  have l0X1 := (unhide X1).at 0 _ rfl
  have l1X1 := (unhide X1).at 1 _ rfl
  have l2X1 := (unhide X1).at 2 _ rfl
  have l3X1 := (unhide X1).at 3 _ rfl
  have l4X1 := (unhide X1).at 4 _ rfl
  have ltX1 : w7.heap.size < w18.heap.size := by omega
  have l0YG := (unhide YG).at 0 _ rfl
  have l1YG := (unhide YG).at 1 _ rfl
  have l2YG := (unhide YG).at 2 _ rfl
  have l3YG := (unhide YG).at 3 _ rfl
  have l4YG := (unhide YG).at 4 _ rfl
  have l5YG := (unhide YG).at 5 _ rfl
  have l6YG := (unhide YG).at 6 _ rfl
  have l7YG := (unhide YG).at 7 _ rfl
  have l8YG := (unhide YG).at 8 _ rfl
  have ltYG : w9.heap.size < w18.heap.size := by omega
  simp only [List.getElem_toArray, List.getElem_cons_zero, List.getElem_cons_succ] at l0P0 l1P0 l2P0 l3P0 l4P0 l5P0 l6P0 l0P1 l1P1 l2P1 l3P1 l4P1 l0YW l1YW l2YW l3YW l4YW l5YW l6YW l7YW l8YW l0X0 l1X0 l2X0 l3X0 l4X0 l5X0 l6X0 l0X1 l1X1 l2X1 l3X1 l4X1 l0YG l1YG l2YG l3YG l4YG l5YG l6YG l7YG l8YG
  go_upto_region 31 with fail
  clear l0P0 l1P0 l2P0 l3P0 l4P0 l5P0 l6P0 ltP0 l0P1 l1P1 l2P1 l3P1 l4P1 ltP1 l0YW l1YW l2YW l3YW l4YW l5YW l6YW l7YW l8YW ltYW l0X0 l1X0 l2X0 l3X0 l4X0 l5X0 l6X0 ltX0 l0X1 l1X1 l2X1 l3X1 l4X1 ltX1 l0YG l1YG l2YG l3YG l4YG l5YG l6YG l7YG l8YG ltYG
  have l0P0 := (unhide P0).at 0 _ rfl
  have l1P0 := (unhide P0).at 1 _ rfl
  have l2P0 := (unhide P0).at 2 _ rfl
  have l3P0 := (unhide P0).at 3 _ rfl
  have l4P0 := (unhide P0).at 4 _ rfl
  have l5P0 := (unhide P0).at 5 _ rfl
  have l6P0 := (unhide P0).at 6 _ rfl
  have ltP0 : w.heap.size < w18.heap.size := by omega
  have l0P1 := (unhide P1).at 0 _ rfl
  have l1P1 := (unhide P1).at 1 _ rfl
  have l2P1 := (unhide P1).at 2 _ rfl
  have l3P1 := (unhide P1).at 3 _ rfl
  have l4P1 := (unhide P1).at 4 _ rfl
  have ltP1 : w.heap.size + 1 < w18.heap.size := by omega
  simp only [List.getElem_toArray, List.getElem_cons_zero, List.getElem_cons_succ] at l0P0 l1P0 l2P0 l3P0 l4P0 l5P0 l6P0 l0P1 l1P1 l2P1 l3P1 l4P1
  go_cut [13] from 75 to 79 (fun sL wx => ∃ (s0 : Nat) (a6K : Option Addr) (d6K : Nat), sL = .pointer (some ⟨s0, 0, none⟩) ∧ s0 < wx.heap.size ∧ Box w18.heap.size #[.int .i64 y.code, .int .i64 y.place, .int .i64 y.node.id, .bool y.node.up, .int .i64 y.node.epoch, .int .i64 y.node.lease, .slice a6K y.node.writes.length d6K, .int .i64 y.node.sure, .int .i64 y.node.clean] 34 wx s0 ∧ Lay.tNodeResult.Reads wx [.int .i64 y.code, .int .i64 y.place, .int .i64 y.node.id, .bool y.node.up, .int .i64 y.node.epoch, .int .i64 y.node.lease, .slice a6K y.node.writes.length d6K, .int .i64 y.node.sure, .int .i64 y.node.clean] y ∧ Below w18.heap.size w18 wx)
  case first =>
    refine wp_region_noPanic ?_
    refine wp_region_held_drew (S := fun w' => Below w18.heap.size w18 w') (by kernel_rfl) (Below.refl _ _).drew (fun hHeld => ?_)
    generalize w18.drew = X0 at hHeld ⊢
    refine wpAnyH_take (i := 0) (oi := { dst := some 75, op := Go.Op.load 24 (Go.Operand.tmp 2), type := 24, pos := "exact.go:3831", after := #[], guard := none }) (v := ?v0_1) rfl (by kernel_rfl) (by kernel_rfl) (by kernel_rfl) (fun _ _ _ h => h) (Or.inl ⟨by rfl, ?h0_1⟩) hHeld ?r0_1
    case h0_1 =>
      intro wS hSw
      have y0P0 := (hSw.cell (p := ⟨w.heap.size, 0, none⟩) ltP0).trans l0P0
      have y1P0 := (hSw.cell (p := ⟨w.heap.size, 1, none⟩) ltP0).trans l1P0
      have y2P0 := (hSw.cell (p := ⟨w.heap.size, 2, none⟩) ltP0).trans l2P0
      have y3P0 := (hSw.cell (p := ⟨w.heap.size, 3, none⟩) ltP0).trans l3P0
      have y4P0 := (hSw.cell (p := ⟨w.heap.size, 4, none⟩) ltP0).trans l4P0
      have y5P0 := (hSw.cell (p := ⟨w.heap.size, 5, none⟩) ltP0).trans l5P0
      have y6P0 := (hSw.cell (p := ⟨w.heap.size, 6, none⟩) ltP0).trans l6P0
      have y0P1 := (hSw.cell (p := ⟨w.heap.size + 1, 0, none⟩) ltP1).trans l0P1
      have y1P1 := (hSw.cell (p := ⟨w.heap.size + 1, 1, none⟩) ltP1).trans l1P1
      have y2P1 := (hSw.cell (p := ⟨w.heap.size + 1, 2, none⟩) ltP1).trans l2P1
      have y3P1 := (hSw.cell (p := ⟨w.heap.size + 1, 3, none⟩) ltP1).trans l3P1
      have y4P1 := (hSw.cell (p := ⟨w.heap.size + 1, 4, none⟩) ltP1).trans l4P1
      clear hSw
      (try dsimp only at hSw)
      go_simp
      try with_reducible rfl
    case r0_1 =>
    simp only [Act.put, List.setIfInBounds_toArray, List.set_cons_zero, List.set_cons_succ]
    refine wpAnyH_take (i := 2) (oi := { dst := some 77, op := Go.Op.load 27 (Go.Operand.tmp 3), type := 27, pos := "exact.go:3831", after := #[], guard := none }) (v := ?v2_2) rfl (by kernel_rfl) (by kernel_rfl) (by kernel_rfl) (fun _ _ _ h => h) (Or.inl ⟨by rfl, ?h2_2⟩) hHeld ?r2_2
    case h2_2 =>
      intro wS hSw
      have y0P0 := (hSw.cell (p := ⟨w.heap.size, 0, none⟩) ltP0).trans l0P0
      have y1P0 := (hSw.cell (p := ⟨w.heap.size, 1, none⟩) ltP0).trans l1P0
      have y2P0 := (hSw.cell (p := ⟨w.heap.size, 2, none⟩) ltP0).trans l2P0
      have y3P0 := (hSw.cell (p := ⟨w.heap.size, 3, none⟩) ltP0).trans l3P0
      have y4P0 := (hSw.cell (p := ⟨w.heap.size, 4, none⟩) ltP0).trans l4P0
      have y5P0 := (hSw.cell (p := ⟨w.heap.size, 5, none⟩) ltP0).trans l5P0
      have y6P0 := (hSw.cell (p := ⟨w.heap.size, 6, none⟩) ltP0).trans l6P0
      have y0P1 := (hSw.cell (p := ⟨w.heap.size + 1, 0, none⟩) ltP1).trans l0P1
      have y1P1 := (hSw.cell (p := ⟨w.heap.size + 1, 1, none⟩) ltP1).trans l1P1
      have y2P1 := (hSw.cell (p := ⟨w.heap.size + 1, 2, none⟩) ltP1).trans l2P1
      have y3P1 := (hSw.cell (p := ⟨w.heap.size + 1, 3, none⟩) ltP1).trans l3P1
      have y4P1 := (hSw.cell (p := ⟨w.heap.size + 1, 4, none⟩) ltP1).trans l4P1
      clear hSw
      (try dsimp only at hSw)
      go_simp
      try with_reducible rfl
    case r2_2 =>
    simp only [Act.put, List.setIfInBounds_toArray, List.set_cons_zero, List.set_cons_succ]
    refine wpAnyH_ready (rs := [1, 5]) (by kernel_rfl) (by simp) ?_
    refine AllReadyH.cons (o := { dst := some 76, op := Go.Op.call { callee := Go.Callee.value (Go.Operand.func 7), args := #[Go.Operand.tmp 75], argTypes := #[24] }, type := 32, pos := "exact.go:3831", after := #[{ on := 0, ground := Go.Ground.data }], guard := none }) rfl (fun K hK => ?_) (AllReadyH.cons (o := { dst := some 13, op := Go.Op.alloc 34, type := 0, pos := "exact.go:3831", after := #[], guard := none }) rfl (fun K hK => ?_) AllReadyH.nil)
    · go_simp
      go_at_call 7
      refine (to_Node _ x0 _ ((unhide HA0).reads.later hHeld) (unhide HN0)).mono ?_
      rintro e X3 ⟨vT0, rfl, OT, hbw⟩
      have rt0 := OT.reads
      obtain ⟨a4T0, d4T0, rfl, -⟩ := open_Node rt0
      clear OT
      try go_wp2_with fail
      refine hK.out _ _ (hHeld.trans (hbw.mono hHeld.size)) (fun hHeld => ?_)
      clear hK K hbw
      try simp only [Act.put, List.setIfInBounds_toArray, List.set_cons_zero, List.set_cons_succ]
      refine wpAnyH_ready (rs := [3, 5]) (by kernel_rfl) (by simp) ?_
      refine AllReadyH.cons (o := { dst := some 78, op := Go.Op.call { callee := Go.Callee.value (Go.Operand.func 8), args := #[Go.Operand.tmp 77], argTypes := #[27] }, type := 37, pos := "exact.go:3831", after := #[{ on := 2, ground := Go.Ground.data }, { on := 1, ground := Go.Ground.chain }], guard := none }) rfl (fun K hK => ?_) (AllReadyH.cons (o := { dst := some 13, op := Go.Op.alloc 34, type := 0, pos := "exact.go:3831", after := #[], guard := none }) rfl (fun K hK => ?_) AllReadyH.nil)
      · go_simp
        go_at_call 8
        refine (to_Write _ x1 _ ((unhide HA1).reads.later hHeld) (unhide HN1)).mono ?_
        rintro e X4 ⟨vT1, rfl, OT, hbw⟩
        have rt1 := OT.reads
        obtain ⟨a2T1, d2T1, rfl, -⟩ := open_Write rt1
        replace rt0 := rt0.later hbw
        clear OT
        try go_wp2_with fail
        refine hK.out _ _ (hHeld.trans (hbw.mono hHeld.size)) (fun hHeld => ?_)
        clear hK K hbw
        try simp only [Act.put, List.setIfInBounds_toArray, List.set_cons_zero, List.set_cons_succ]
        refine wpAnyH_ready (rs := [4, 5]) (by kernel_rfl) (by simp) ?_
        refine AllReadyH.cons (o := { dst := some 79, op := Go.Op.call { callee := Go.Callee.value (Go.Operand.func 9), args := #[Go.Operand.tmp 76, Go.Operand.tmp 78], argTypes := #[32, 37] }, type := 34, pos := "exact.go:3831", after := #[{ on := 1, ground := Go.Ground.data }, { on := 3, ground := Go.Ground.data }, { on := 3, ground := Go.Ground.chain }], guard := none }) rfl (fun K hK => ?_) (AllReadyH.cons (o := { dst := some 13, op := Go.Op.alloc 34, type := 0, pos := "exact.go:3831", after := #[], guard := none }) rfl (fun K hK => ?_) AllReadyH.nil)
        · go_simp
          go_at_call 9
          refine (unhide HI _ _ _ (((unhide HT).later (unhide HB)).later hHeld) rt0 rt1).mono ?_
          rintro e X5 ⟨cs, rfl, O, hbw⟩
          obtain ⟨a6K, d6K, rfl, -⟩ := open_NodeResult O.reads
          have hz9 := hbw.size
          have rd := O.lies
          clear O
          try go_wp2_with fail
          refine hK.out _ _ (hHeld.trans (hbw.mono hHeld.size)) (fun hHeld => ?_)
          clear hK K hbw hz9
          try simp only [Act.put, List.setIfInBounds_toArray, List.set_cons_zero, List.set_cons_succ]
          clear rt0 rt1
          refine wpAnyH_ready (rs := [5]) (by kernel_rfl) (by simp) ?_
          refine AllReadyH.cons (o := { dst := some 13, op := Go.Op.alloc 34, type := 0, pos := "exact.go:3831", after := #[], guard := none }) rfl (fun K hK => ?_) AllReadyH.nil
          have bx : Box w18.heap.size #[.int .i64 0, .int .i64 0, .int .i64 0, .bool false, .int .i64 0, .int .i64 0, .slice none 0 0, .int .i64 0, .int .i64 0] 34 (X5.alloc (.cells #[.int .i64 0, .int .i64 0, .int .i64 0, .bool false, .int .i64 0, .int .i64 0, .slice none 0 0, .int .i64 0, .int .i64 0] 34)) X5.heap.size := newBox hHeld.size
          have nbA : Below X5.heap.size X5 (X5.alloc (.cells #[.int .i64 0, .int .i64 0, .int .i64 0, .bool false, .int .i64 0, .int .i64 0, .slice none 0 0, .int .i64 0, .int .i64 0] 34)) := (Below.refl _ _).alloc (Nat.le_refl _) _
          replace rd := rd.later nbA
          have hNx := hHeld.trans (nbA.mono hHeld.size)
          go_simp
          refine hK.out _ _ hNx (fun hHeld => ?_)
          clear hK K hNx nbA
          try simp only [Act.put, List.setIfInBounds_toArray, List.set_cons_zero, List.set_cons_succ]
          generalize X5.alloc (.cells #[.int .i64 0, .int .i64 0, .int .i64 0, .bool false, .int .i64 0, .int .i64 0, .slice none 0 0, .int .i64 0, .int .i64 0] 34) = X6 at *
          refine wpAnyH_ready (rs := [6]) (by kernel_rfl) (by simp) ?_
          refine AllReadyH.cons (o := { dst := none, op := Go.Op.store 34 (Go.Operand.tmp 13) (Go.Operand.tmp 79), type := 0, pos := "exact.go:3831", after := #[{ on := 5, ground := Go.Ground.data }, { on := 4, ground := Go.Ground.data }, { on := 4, ground := Go.Ground.chain }, { on := 0, ground := Go.Ground.phase }, { on := 1, ground := Go.Ground.phase }, { on := 2, ground := Go.Ground.phase }, { on := 3, ground := Go.Ground.phase }, { on := 4, ground := Go.Ground.phase }, { on := 5, ground := Go.Ground.phase }], guard := none }) rfl (fun K hK => ?_) AllReadyH.nil
          have z0 : X6.cell? ⟨X5.heap.size, 0, none⟩ = some (.int .i64 0) := bx.at 0 _ rfl
          have f0 := bx.soft 0
          have z1 : X6.cell? ⟨X5.heap.size, 1, none⟩ = some (.int .i64 0) := bx.at 1 _ rfl
          have f1 := bx.soft 1
          have z2 : X6.cell? ⟨X5.heap.size, 2, none⟩ = some (.int .i64 0) := bx.at 2 _ rfl
          have f2 := bx.soft 2
          have z3 : X6.cell? ⟨X5.heap.size, 3, none⟩ = some (.bool false) := bx.at 3 _ rfl
          have f3 := bx.soft 3
          have z4 : X6.cell? ⟨X5.heap.size, 4, none⟩ = some (.int .i64 0) := bx.at 4 _ rfl
          have f4 := bx.soft 4
          have z5 : X6.cell? ⟨X5.heap.size, 5, none⟩ = some (.int .i64 0) := bx.at 5 _ rfl
          have f5 := bx.soft 5
          have z6 : X6.cell? ⟨X5.heap.size, 6, none⟩ = some (.slice none 0 0) := bx.at 6 _ rfl
          have f6 := bx.soft 6
          have z7 : X6.cell? ⟨X5.heap.size, 7, none⟩ = some (.int .i64 0) := bx.at 7 _ rfl
          have f7 := bx.soft 7
          have z8 : X6.cell? ⟨X5.heap.size, 8, none⟩ = some (.int .i64 0) := bx.at 8 _ rfl
          have f8 := bx.soft 8
          have l0 := bx.lt
          have bx9 : Box w18.heap.size #[.int .i64 y.code, .int .i64 y.place, .int .i64 y.node.id, .bool y.node.up, .int .i64 y.node.epoch, .int .i64 y.node.lease, .slice a6K y.node.writes.length d6K, .int .i64 y.node.sure, .int .i64 y.node.clean] 34 (((((((((X6.setCell ⟨X5.heap.size, 0, none⟩ (.int .i64 y.code)).setCell ⟨X5.heap.size, 1, none⟩ (.int .i64 y.place)).setCell ⟨X5.heap.size, 2, none⟩ (.int .i64 y.node.id)).setCell ⟨X5.heap.size, 3, none⟩ (.bool y.node.up)).setCell ⟨X5.heap.size, 4, none⟩ (.int .i64 y.node.epoch)).setCell ⟨X5.heap.size, 5, none⟩ (.int .i64 y.node.lease)).setCell ⟨X5.heap.size, 6, none⟩ (.slice a6K y.node.writes.length d6K)).setCell ⟨X5.heap.size, 7, none⟩ (.int .i64 y.node.sure)).setCell ⟨X5.heap.size, 8, none⟩ (.int .i64 y.node.clean)) X5.heap.size := by have q := (((((((((bx.set 0 (.int .i64 y.code)).set 1 (.int .i64 y.place)).set 2 (.int .i64 y.node.id)).set 3 (.bool y.node.up)).set 4 (.int .i64 y.node.epoch)).set 5 (.int .i64 y.node.lease)).set 6 (.slice a6K y.node.writes.length d6K)).set 7 (.int .i64 y.node.sure)).set 8 (.int .i64 y.node.clean)); simp only [List.setIfInBounds_toArray, List.set_cons_zero, List.set_cons_succ] at q; exact q
          have hE9 : Ext (fun c => c = X5.heap.size) X6 (((((((((X6.setCell ⟨X5.heap.size, 0, none⟩ (.int .i64 y.code)).setCell ⟨X5.heap.size, 1, none⟩ (.int .i64 y.place)).setCell ⟨X5.heap.size, 2, none⟩ (.int .i64 y.node.id)).setCell ⟨X5.heap.size, 3, none⟩ (.bool y.node.up)).setCell ⟨X5.heap.size, 4, none⟩ (.int .i64 y.node.epoch)).setCell ⟨X5.heap.size, 5, none⟩ (.int .i64 y.node.lease)).setCell ⟨X5.heap.size, 6, none⟩ (.slice a6K y.node.writes.length d6K)).setCell ⟨X5.heap.size, 7, none⟩ (.int .i64 y.node.sure)).setCell ⟨X5.heap.size, 8, none⟩ (.int .i64 y.node.clean)) := ((((((((((Ext.refl (fun c => c = X5.heap.size) _).setCell ⟨X5.heap.size, 0, none⟩ (.int .i64 y.code) rfl).setCell ⟨X5.heap.size, 1, none⟩ (.int .i64 y.place) rfl).setCell ⟨X5.heap.size, 2, none⟩ (.int .i64 y.node.id) rfl).setCell ⟨X5.heap.size, 3, none⟩ (.bool y.node.up) rfl).setCell ⟨X5.heap.size, 4, none⟩ (.int .i64 y.node.epoch) rfl).setCell ⟨X5.heap.size, 5, none⟩ (.int .i64 y.node.lease) rfl).setCell ⟨X5.heap.size, 6, none⟩ (.slice a6K y.node.writes.length d6K) rfl).setCell ⟨X5.heap.size, 7, none⟩ (.int .i64 y.node.sure) rfl).setCell ⟨X5.heap.size, 8, none⟩ (.int .i64 y.node.clean) rfl)
          have rd9 := (rd.ext hE9 (fun c h1 h2 h3 => by omega)).reads
          have hH9 : Below w18.heap.size w18 (((((((((X6.setCell ⟨X5.heap.size, 0, none⟩ (.int .i64 y.code)).setCell ⟨X5.heap.size, 1, none⟩ (.int .i64 y.place)).setCell ⟨X5.heap.size, 2, none⟩ (.int .i64 y.node.id)).setCell ⟨X5.heap.size, 3, none⟩ (.bool y.node.up)).setCell ⟨X5.heap.size, 4, none⟩ (.int .i64 y.node.epoch)).setCell ⟨X5.heap.size, 5, none⟩ (.int .i64 y.node.lease)).setCell ⟨X5.heap.size, 6, none⟩ (.slice a6K y.node.writes.length d6K)).setCell ⟨X5.heap.size, 7, none⟩ (.int .i64 y.node.sure)).setCell ⟨X5.heap.size, 8, none⟩ (.int .i64 y.node.clean)) := (((((((((hHeld.setCell (by simpa using bx.1) (.int .i64 y.code)).setCell (by simpa using bx.1) (.int .i64 y.place)).setCell (by simpa using bx.1) (.int .i64 y.node.id)).setCell (by simpa using bx.1) (.bool y.node.up)).setCell (by simpa using bx.1) (.int .i64 y.node.epoch)).setCell (by simpa using bx.1) (.int .i64 y.node.lease)).setCell (by simpa using bx.1) (.slice a6K y.node.writes.length d6K)).setCell (by simpa using bx.1) (.int .i64 y.node.sure)).setCell (by simpa using bx.1) (.int .i64 y.node.clean))
          clear bx rd hE9
          have bx := bx9
          have rd := rd9
          clear bx9 rd9
          go_simp
          refine hK.out _ _ hH9 (fun hHeld => ?_)
          clear hK K hH9 l0 z0 f0 z1 f1 z2 f2 z3 f3 z4 f4 z5 f5 z6 f6 z7 f7 z8 f8
          try simp only [Act.put, List.setIfInBounds_toArray, List.set_cons_zero, List.set_cons_succ]
          refine wpAnyH_done (by kernel_rfl) ?_ _
          refine NoPanic.normal ?_
          have HH := hide hHeld
          have HBX := hide bx
          have HRD := hide rd
          clear hHeld bx rd
          go_wp2_with fail
          go_meet
          exact ⟨_, _, _, rfl, (unhide HBX).lt, unhide HBX, unhide HRD, unhide HH⟩
        · have bx : Box w18.heap.size #[.int .i64 0, .int .i64 0, .int .i64 0, .bool false, .int .i64 0, .int .i64 0, .slice none 0 0, .int .i64 0, .int .i64 0] 34 (X4.alloc (.cells #[.int .i64 0, .int .i64 0, .int .i64 0, .bool false, .int .i64 0, .int .i64 0, .slice none 0 0, .int .i64 0, .int .i64 0] 34)) X4.heap.size := newBox hHeld.size
          have nbA : Below X4.heap.size X4 (X4.alloc (.cells #[.int .i64 0, .int .i64 0, .int .i64 0, .bool false, .int .i64 0, .int .i64 0, .slice none 0 0, .int .i64 0, .int .i64 0] 34)) := (Below.refl _ _).alloc (Nat.le_refl _) _
          replace rt0 := rt0.later nbA
          replace rt1 := rt1.later nbA
          have hNx := hHeld.trans (nbA.mono hHeld.size)
          go_simp
          refine hK.out _ _ hNx (fun hHeld => ?_)
          clear hK K hNx nbA
          try simp only [Act.put, List.setIfInBounds_toArray, List.set_cons_zero, List.set_cons_succ]
          generalize X4.alloc (.cells #[.int .i64 0, .int .i64 0, .int .i64 0, .bool false, .int .i64 0, .int .i64 0, .slice none 0 0, .int .i64 0, .int .i64 0] 34) = X8 at *
          refine wpAnyH_ready (rs := [4]) (by kernel_rfl) (by simp) ?_
          refine AllReadyH.cons (o := { dst := some 79, op := Go.Op.call { callee := Go.Callee.value (Go.Operand.func 9), args := #[Go.Operand.tmp 76, Go.Operand.tmp 78], argTypes := #[32, 37] }, type := 34, pos := "exact.go:3831", after := #[{ on := 1, ground := Go.Ground.data }, { on := 3, ground := Go.Ground.data }, { on := 3, ground := Go.Ground.chain }], guard := none }) rfl (fun K hK => ?_) AllReadyH.nil
          go_simp
          go_at_call 9
          refine (unhide HI _ _ _ (((unhide HT).later (unhide HB)).later hHeld) rt0 rt1).mono ?_
          rintro e X9 ⟨cs, rfl, O, hbw⟩
          obtain ⟨a6K, d6K, rfl, -⟩ := open_NodeResult O.reads
          have hs0 := bx.lt
          replace bx := bx.keep hbw
          have hz9 := hbw.size
          have rd := O.lies
          clear O
          replace rd := rd.mono (lo' := X4.heap.size + 1) (by omega) (Nat.le_refl _)
          clear hs0
          try go_wp2_with fail
          refine hK.out _ _ (hHeld.trans (hbw.mono hHeld.size)) (fun hHeld => ?_)
          clear hK K hbw hz9
          try simp only [Act.put, List.setIfInBounds_toArray, List.set_cons_zero, List.set_cons_succ]
          clear rt0 rt1
          refine wpAnyH_ready (rs := [6]) (by kernel_rfl) (by simp) ?_
          refine AllReadyH.cons (o := { dst := none, op := Go.Op.store 34 (Go.Operand.tmp 13) (Go.Operand.tmp 79), type := 0, pos := "exact.go:3831", after := #[{ on := 5, ground := Go.Ground.data }, { on := 4, ground := Go.Ground.data }, { on := 4, ground := Go.Ground.chain }, { on := 0, ground := Go.Ground.phase }, { on := 1, ground := Go.Ground.phase }, { on := 2, ground := Go.Ground.phase }, { on := 3, ground := Go.Ground.phase }, { on := 4, ground := Go.Ground.phase }, { on := 5, ground := Go.Ground.phase }], guard := none }) rfl (fun K hK => ?_) AllReadyH.nil
          have z0 : X9.cell? ⟨X4.heap.size, 0, none⟩ = some (.int .i64 0) := bx.at 0 _ rfl
          have f0 := bx.soft 0
          have z1 : X9.cell? ⟨X4.heap.size, 1, none⟩ = some (.int .i64 0) := bx.at 1 _ rfl
          have f1 := bx.soft 1
          have z2 : X9.cell? ⟨X4.heap.size, 2, none⟩ = some (.int .i64 0) := bx.at 2 _ rfl
          have f2 := bx.soft 2
          have z3 : X9.cell? ⟨X4.heap.size, 3, none⟩ = some (.bool false) := bx.at 3 _ rfl
          have f3 := bx.soft 3
          have z4 : X9.cell? ⟨X4.heap.size, 4, none⟩ = some (.int .i64 0) := bx.at 4 _ rfl
          have f4 := bx.soft 4
          have z5 : X9.cell? ⟨X4.heap.size, 5, none⟩ = some (.int .i64 0) := bx.at 5 _ rfl
          have f5 := bx.soft 5
          have z6 : X9.cell? ⟨X4.heap.size, 6, none⟩ = some (.slice none 0 0) := bx.at 6 _ rfl
          have f6 := bx.soft 6
          have z7 : X9.cell? ⟨X4.heap.size, 7, none⟩ = some (.int .i64 0) := bx.at 7 _ rfl
          have f7 := bx.soft 7
          have z8 : X9.cell? ⟨X4.heap.size, 8, none⟩ = some (.int .i64 0) := bx.at 8 _ rfl
          have f8 := bx.soft 8
          have l0 := bx.lt
          have bx9 : Box w18.heap.size #[.int .i64 y.code, .int .i64 y.place, .int .i64 y.node.id, .bool y.node.up, .int .i64 y.node.epoch, .int .i64 y.node.lease, .slice a6K y.node.writes.length d6K, .int .i64 y.node.sure, .int .i64 y.node.clean] 34 (((((((((X9.setCell ⟨X4.heap.size, 0, none⟩ (.int .i64 y.code)).setCell ⟨X4.heap.size, 1, none⟩ (.int .i64 y.place)).setCell ⟨X4.heap.size, 2, none⟩ (.int .i64 y.node.id)).setCell ⟨X4.heap.size, 3, none⟩ (.bool y.node.up)).setCell ⟨X4.heap.size, 4, none⟩ (.int .i64 y.node.epoch)).setCell ⟨X4.heap.size, 5, none⟩ (.int .i64 y.node.lease)).setCell ⟨X4.heap.size, 6, none⟩ (.slice a6K y.node.writes.length d6K)).setCell ⟨X4.heap.size, 7, none⟩ (.int .i64 y.node.sure)).setCell ⟨X4.heap.size, 8, none⟩ (.int .i64 y.node.clean)) X4.heap.size := by have q := (((((((((bx.set 0 (.int .i64 y.code)).set 1 (.int .i64 y.place)).set 2 (.int .i64 y.node.id)).set 3 (.bool y.node.up)).set 4 (.int .i64 y.node.epoch)).set 5 (.int .i64 y.node.lease)).set 6 (.slice a6K y.node.writes.length d6K)).set 7 (.int .i64 y.node.sure)).set 8 (.int .i64 y.node.clean)); simp only [List.setIfInBounds_toArray, List.set_cons_zero, List.set_cons_succ] at q; exact q
          have hE9 : Ext (fun c => c = X4.heap.size) X9 (((((((((X9.setCell ⟨X4.heap.size, 0, none⟩ (.int .i64 y.code)).setCell ⟨X4.heap.size, 1, none⟩ (.int .i64 y.place)).setCell ⟨X4.heap.size, 2, none⟩ (.int .i64 y.node.id)).setCell ⟨X4.heap.size, 3, none⟩ (.bool y.node.up)).setCell ⟨X4.heap.size, 4, none⟩ (.int .i64 y.node.epoch)).setCell ⟨X4.heap.size, 5, none⟩ (.int .i64 y.node.lease)).setCell ⟨X4.heap.size, 6, none⟩ (.slice a6K y.node.writes.length d6K)).setCell ⟨X4.heap.size, 7, none⟩ (.int .i64 y.node.sure)).setCell ⟨X4.heap.size, 8, none⟩ (.int .i64 y.node.clean)) := ((((((((((Ext.refl (fun c => c = X4.heap.size) _).setCell ⟨X4.heap.size, 0, none⟩ (.int .i64 y.code) rfl).setCell ⟨X4.heap.size, 1, none⟩ (.int .i64 y.place) rfl).setCell ⟨X4.heap.size, 2, none⟩ (.int .i64 y.node.id) rfl).setCell ⟨X4.heap.size, 3, none⟩ (.bool y.node.up) rfl).setCell ⟨X4.heap.size, 4, none⟩ (.int .i64 y.node.epoch) rfl).setCell ⟨X4.heap.size, 5, none⟩ (.int .i64 y.node.lease) rfl).setCell ⟨X4.heap.size, 6, none⟩ (.slice a6K y.node.writes.length d6K) rfl).setCell ⟨X4.heap.size, 7, none⟩ (.int .i64 y.node.sure) rfl).setCell ⟨X4.heap.size, 8, none⟩ (.int .i64 y.node.clean) rfl)
          have rd9 := (rd.ext hE9 (fun c h1 h2 h3 => by omega)).reads
          have hH9 : Below w18.heap.size w18 (((((((((X9.setCell ⟨X4.heap.size, 0, none⟩ (.int .i64 y.code)).setCell ⟨X4.heap.size, 1, none⟩ (.int .i64 y.place)).setCell ⟨X4.heap.size, 2, none⟩ (.int .i64 y.node.id)).setCell ⟨X4.heap.size, 3, none⟩ (.bool y.node.up)).setCell ⟨X4.heap.size, 4, none⟩ (.int .i64 y.node.epoch)).setCell ⟨X4.heap.size, 5, none⟩ (.int .i64 y.node.lease)).setCell ⟨X4.heap.size, 6, none⟩ (.slice a6K y.node.writes.length d6K)).setCell ⟨X4.heap.size, 7, none⟩ (.int .i64 y.node.sure)).setCell ⟨X4.heap.size, 8, none⟩ (.int .i64 y.node.clean)) := (((((((((hHeld.setCell (by simpa using bx.1) (.int .i64 y.code)).setCell (by simpa using bx.1) (.int .i64 y.place)).setCell (by simpa using bx.1) (.int .i64 y.node.id)).setCell (by simpa using bx.1) (.bool y.node.up)).setCell (by simpa using bx.1) (.int .i64 y.node.epoch)).setCell (by simpa using bx.1) (.int .i64 y.node.lease)).setCell (by simpa using bx.1) (.slice a6K y.node.writes.length d6K)).setCell (by simpa using bx.1) (.int .i64 y.node.sure)).setCell (by simpa using bx.1) (.int .i64 y.node.clean))
          clear bx rd hE9
          have bx := bx9
          have rd := rd9
          clear bx9 rd9
          go_simp
          refine hK.out _ _ hH9 (fun hHeld => ?_)
          clear hK K hH9 l0 z0 f0 z1 f1 z2 f2 z3 f3 z4 f4 z5 f5 z6 f6 z7 f7 z8 f8
          try simp only [Act.put, List.setIfInBounds_toArray, List.set_cons_zero, List.set_cons_succ]
          refine wpAnyH_done (by kernel_rfl) ?_ _
          refine NoPanic.normal ?_
          have HH := hide hHeld
          have HBX := hide bx
          have HRD := hide rd
          clear hHeld bx rd
          go_wp2_with fail
          go_meet
          exact ⟨_, _, _, rfl, (unhide HBX).lt, unhide HBX, unhide HRD, unhide HH⟩
      · have bx : Box w18.heap.size #[.int .i64 0, .int .i64 0, .int .i64 0, .bool false, .int .i64 0, .int .i64 0, .slice none 0 0, .int .i64 0, .int .i64 0] 34 (X3.alloc (.cells #[.int .i64 0, .int .i64 0, .int .i64 0, .bool false, .int .i64 0, .int .i64 0, .slice none 0 0, .int .i64 0, .int .i64 0] 34)) X3.heap.size := newBox hHeld.size
        have nbA : Below X3.heap.size X3 (X3.alloc (.cells #[.int .i64 0, .int .i64 0, .int .i64 0, .bool false, .int .i64 0, .int .i64 0, .slice none 0 0, .int .i64 0, .int .i64 0] 34)) := (Below.refl _ _).alloc (Nat.le_refl _) _
        replace rt0 := rt0.later nbA
        have hNx := hHeld.trans (nbA.mono hHeld.size)
        go_simp
        refine hK.out _ _ hNx (fun hHeld => ?_)
        clear hK K hNx nbA
        try simp only [Act.put, List.setIfInBounds_toArray, List.set_cons_zero, List.set_cons_succ]
        generalize X3.alloc (.cells #[.int .i64 0, .int .i64 0, .int .i64 0, .bool false, .int .i64 0, .int .i64 0, .slice none 0 0, .int .i64 0, .int .i64 0] 34) = X11 at *
        refine wpAnyH_ready (rs := [3]) (by kernel_rfl) (by simp) ?_
        refine AllReadyH.cons (o := { dst := some 78, op := Go.Op.call { callee := Go.Callee.value (Go.Operand.func 8), args := #[Go.Operand.tmp 77], argTypes := #[27] }, type := 37, pos := "exact.go:3831", after := #[{ on := 2, ground := Go.Ground.data }, { on := 1, ground := Go.Ground.chain }], guard := none }) rfl (fun K hK => ?_) AllReadyH.nil
        go_simp
        go_at_call 8
        refine (to_Write _ x1 _ ((unhide HA1).reads.later hHeld) (unhide HN1)).mono ?_
        rintro e X12 ⟨vT1, rfl, OT, hbw⟩
        have rt1 := OT.reads
        obtain ⟨a2T1, d2T1, rfl, -⟩ := open_Write rt1
        replace rt0 := rt0.later hbw
        replace bx := bx.keep hbw
        clear OT
        try go_wp2_with fail
        refine hK.out _ _ (hHeld.trans (hbw.mono hHeld.size)) (fun hHeld => ?_)
        clear hK K hbw
        try simp only [Act.put, List.setIfInBounds_toArray, List.set_cons_zero, List.set_cons_succ]
        refine wpAnyH_ready (rs := [4]) (by kernel_rfl) (by simp) ?_
        refine AllReadyH.cons (o := { dst := some 79, op := Go.Op.call { callee := Go.Callee.value (Go.Operand.func 9), args := #[Go.Operand.tmp 76, Go.Operand.tmp 78], argTypes := #[32, 37] }, type := 34, pos := "exact.go:3831", after := #[{ on := 1, ground := Go.Ground.data }, { on := 3, ground := Go.Ground.data }, { on := 3, ground := Go.Ground.chain }], guard := none }) rfl (fun K hK => ?_) AllReadyH.nil
        go_simp
        go_at_call 9
        refine (unhide HI _ _ _ (((unhide HT).later (unhide HB)).later hHeld) rt0 rt1).mono ?_
        rintro e X13 ⟨cs, rfl, O, hbw⟩
        obtain ⟨a6K, d6K, rfl, -⟩ := open_NodeResult O.reads
        have hs0 := bx.lt
        replace bx := bx.keep hbw
        have hz9 := hbw.size
        have rd := O.lies
        clear O
        replace rd := rd.mono (lo' := X3.heap.size + 1) (by omega) (Nat.le_refl _)
        clear hs0
        try go_wp2_with fail
        refine hK.out _ _ (hHeld.trans (hbw.mono hHeld.size)) (fun hHeld => ?_)
        clear hK K hbw hz9
        try simp only [Act.put, List.setIfInBounds_toArray, List.set_cons_zero, List.set_cons_succ]
        clear rt0 rt1
        refine wpAnyH_ready (rs := [6]) (by kernel_rfl) (by simp) ?_
        refine AllReadyH.cons (o := { dst := none, op := Go.Op.store 34 (Go.Operand.tmp 13) (Go.Operand.tmp 79), type := 0, pos := "exact.go:3831", after := #[{ on := 5, ground := Go.Ground.data }, { on := 4, ground := Go.Ground.data }, { on := 4, ground := Go.Ground.chain }, { on := 0, ground := Go.Ground.phase }, { on := 1, ground := Go.Ground.phase }, { on := 2, ground := Go.Ground.phase }, { on := 3, ground := Go.Ground.phase }, { on := 4, ground := Go.Ground.phase }, { on := 5, ground := Go.Ground.phase }], guard := none }) rfl (fun K hK => ?_) AllReadyH.nil
        have z0 : X13.cell? ⟨X3.heap.size, 0, none⟩ = some (.int .i64 0) := bx.at 0 _ rfl
        have f0 := bx.soft 0
        have z1 : X13.cell? ⟨X3.heap.size, 1, none⟩ = some (.int .i64 0) := bx.at 1 _ rfl
        have f1 := bx.soft 1
        have z2 : X13.cell? ⟨X3.heap.size, 2, none⟩ = some (.int .i64 0) := bx.at 2 _ rfl
        have f2 := bx.soft 2
        have z3 : X13.cell? ⟨X3.heap.size, 3, none⟩ = some (.bool false) := bx.at 3 _ rfl
        have f3 := bx.soft 3
        have z4 : X13.cell? ⟨X3.heap.size, 4, none⟩ = some (.int .i64 0) := bx.at 4 _ rfl
        have f4 := bx.soft 4
        have z5 : X13.cell? ⟨X3.heap.size, 5, none⟩ = some (.int .i64 0) := bx.at 5 _ rfl
        have f5 := bx.soft 5
        have z6 : X13.cell? ⟨X3.heap.size, 6, none⟩ = some (.slice none 0 0) := bx.at 6 _ rfl
        have f6 := bx.soft 6
        have z7 : X13.cell? ⟨X3.heap.size, 7, none⟩ = some (.int .i64 0) := bx.at 7 _ rfl
        have f7 := bx.soft 7
        have z8 : X13.cell? ⟨X3.heap.size, 8, none⟩ = some (.int .i64 0) := bx.at 8 _ rfl
        have f8 := bx.soft 8
        have l0 := bx.lt
        have bx9 : Box w18.heap.size #[.int .i64 y.code, .int .i64 y.place, .int .i64 y.node.id, .bool y.node.up, .int .i64 y.node.epoch, .int .i64 y.node.lease, .slice a6K y.node.writes.length d6K, .int .i64 y.node.sure, .int .i64 y.node.clean] 34 (((((((((X13.setCell ⟨X3.heap.size, 0, none⟩ (.int .i64 y.code)).setCell ⟨X3.heap.size, 1, none⟩ (.int .i64 y.place)).setCell ⟨X3.heap.size, 2, none⟩ (.int .i64 y.node.id)).setCell ⟨X3.heap.size, 3, none⟩ (.bool y.node.up)).setCell ⟨X3.heap.size, 4, none⟩ (.int .i64 y.node.epoch)).setCell ⟨X3.heap.size, 5, none⟩ (.int .i64 y.node.lease)).setCell ⟨X3.heap.size, 6, none⟩ (.slice a6K y.node.writes.length d6K)).setCell ⟨X3.heap.size, 7, none⟩ (.int .i64 y.node.sure)).setCell ⟨X3.heap.size, 8, none⟩ (.int .i64 y.node.clean)) X3.heap.size := by have q := (((((((((bx.set 0 (.int .i64 y.code)).set 1 (.int .i64 y.place)).set 2 (.int .i64 y.node.id)).set 3 (.bool y.node.up)).set 4 (.int .i64 y.node.epoch)).set 5 (.int .i64 y.node.lease)).set 6 (.slice a6K y.node.writes.length d6K)).set 7 (.int .i64 y.node.sure)).set 8 (.int .i64 y.node.clean)); simp only [List.setIfInBounds_toArray, List.set_cons_zero, List.set_cons_succ] at q; exact q
        have hE9 : Ext (fun c => c = X3.heap.size) X13 (((((((((X13.setCell ⟨X3.heap.size, 0, none⟩ (.int .i64 y.code)).setCell ⟨X3.heap.size, 1, none⟩ (.int .i64 y.place)).setCell ⟨X3.heap.size, 2, none⟩ (.int .i64 y.node.id)).setCell ⟨X3.heap.size, 3, none⟩ (.bool y.node.up)).setCell ⟨X3.heap.size, 4, none⟩ (.int .i64 y.node.epoch)).setCell ⟨X3.heap.size, 5, none⟩ (.int .i64 y.node.lease)).setCell ⟨X3.heap.size, 6, none⟩ (.slice a6K y.node.writes.length d6K)).setCell ⟨X3.heap.size, 7, none⟩ (.int .i64 y.node.sure)).setCell ⟨X3.heap.size, 8, none⟩ (.int .i64 y.node.clean)) := ((((((((((Ext.refl (fun c => c = X3.heap.size) _).setCell ⟨X3.heap.size, 0, none⟩ (.int .i64 y.code) rfl).setCell ⟨X3.heap.size, 1, none⟩ (.int .i64 y.place) rfl).setCell ⟨X3.heap.size, 2, none⟩ (.int .i64 y.node.id) rfl).setCell ⟨X3.heap.size, 3, none⟩ (.bool y.node.up) rfl).setCell ⟨X3.heap.size, 4, none⟩ (.int .i64 y.node.epoch) rfl).setCell ⟨X3.heap.size, 5, none⟩ (.int .i64 y.node.lease) rfl).setCell ⟨X3.heap.size, 6, none⟩ (.slice a6K y.node.writes.length d6K) rfl).setCell ⟨X3.heap.size, 7, none⟩ (.int .i64 y.node.sure) rfl).setCell ⟨X3.heap.size, 8, none⟩ (.int .i64 y.node.clean) rfl)
        have rd9 := (rd.ext hE9 (fun c h1 h2 h3 => by omega)).reads
        have hH9 : Below w18.heap.size w18 (((((((((X13.setCell ⟨X3.heap.size, 0, none⟩ (.int .i64 y.code)).setCell ⟨X3.heap.size, 1, none⟩ (.int .i64 y.place)).setCell ⟨X3.heap.size, 2, none⟩ (.int .i64 y.node.id)).setCell ⟨X3.heap.size, 3, none⟩ (.bool y.node.up)).setCell ⟨X3.heap.size, 4, none⟩ (.int .i64 y.node.epoch)).setCell ⟨X3.heap.size, 5, none⟩ (.int .i64 y.node.lease)).setCell ⟨X3.heap.size, 6, none⟩ (.slice a6K y.node.writes.length d6K)).setCell ⟨X3.heap.size, 7, none⟩ (.int .i64 y.node.sure)).setCell ⟨X3.heap.size, 8, none⟩ (.int .i64 y.node.clean)) := (((((((((hHeld.setCell (by simpa using bx.1) (.int .i64 y.code)).setCell (by simpa using bx.1) (.int .i64 y.place)).setCell (by simpa using bx.1) (.int .i64 y.node.id)).setCell (by simpa using bx.1) (.bool y.node.up)).setCell (by simpa using bx.1) (.int .i64 y.node.epoch)).setCell (by simpa using bx.1) (.int .i64 y.node.lease)).setCell (by simpa using bx.1) (.slice a6K y.node.writes.length d6K)).setCell (by simpa using bx.1) (.int .i64 y.node.sure)).setCell (by simpa using bx.1) (.int .i64 y.node.clean))
        clear bx rd hE9
        have bx := bx9
        have rd := rd9
        clear bx9 rd9
        go_simp
        refine hK.out _ _ hH9 (fun hHeld => ?_)
        clear hK K hH9 l0 z0 f0 z1 f1 z2 f2 z3 f3 z4 f4 z5 f5 z6 f6 z7 f7 z8 f8
        try simp only [Act.put, List.setIfInBounds_toArray, List.set_cons_zero, List.set_cons_succ]
        refine wpAnyH_done (by kernel_rfl) ?_ _
        refine NoPanic.normal ?_
        have HH := hide hHeld
        have HBX := hide bx
        have HRD := hide rd
        clear hHeld bx rd
        go_wp2_with fail
        go_meet
        exact ⟨_, _, _, rfl, (unhide HBX).lt, unhide HBX, unhide HRD, unhide HH⟩
    · have bx : Box w18.heap.size #[.int .i64 0, .int .i64 0, .int .i64 0, .bool false, .int .i64 0, .int .i64 0, .slice none 0 0, .int .i64 0, .int .i64 0] 34 (X0.alloc (.cells #[.int .i64 0, .int .i64 0, .int .i64 0, .bool false, .int .i64 0, .int .i64 0, .slice none 0 0, .int .i64 0, .int .i64 0] 34)) X0.heap.size := newBox hHeld.size
      have nbA : Below X0.heap.size X0 (X0.alloc (.cells #[.int .i64 0, .int .i64 0, .int .i64 0, .bool false, .int .i64 0, .int .i64 0, .slice none 0 0, .int .i64 0, .int .i64 0] 34)) := (Below.refl _ _).alloc (Nat.le_refl _) _
      have hNx := hHeld.trans (nbA.mono hHeld.size)
      go_simp
      refine hK.out _ _ hNx (fun hHeld => ?_)
      clear hK K hNx nbA
      try simp only [Act.put, List.setIfInBounds_toArray, List.set_cons_zero, List.set_cons_succ]
      generalize X0.alloc (.cells #[.int .i64 0, .int .i64 0, .int .i64 0, .bool false, .int .i64 0, .int .i64 0, .slice none 0 0, .int .i64 0, .int .i64 0] 34) = X15 at *
      refine wpAnyH_ready (rs := [1]) (by kernel_rfl) (by simp) ?_
      refine AllReadyH.cons (o := { dst := some 76, op := Go.Op.call { callee := Go.Callee.value (Go.Operand.func 7), args := #[Go.Operand.tmp 75], argTypes := #[24] }, type := 32, pos := "exact.go:3831", after := #[{ on := 0, ground := Go.Ground.data }], guard := none }) rfl (fun K hK => ?_) AllReadyH.nil
      go_simp
      go_at_call 7
      refine (to_Node _ x0 _ ((unhide HA0).reads.later hHeld) (unhide HN0)).mono ?_
      rintro e X16 ⟨vT0, rfl, OT, hbw⟩
      have rt0 := OT.reads
      obtain ⟨a4T0, d4T0, rfl, -⟩ := open_Node rt0
      replace bx := bx.keep hbw
      clear OT
      try go_wp2_with fail
      refine hK.out _ _ (hHeld.trans (hbw.mono hHeld.size)) (fun hHeld => ?_)
      clear hK K hbw
      try simp only [Act.put, List.setIfInBounds_toArray, List.set_cons_zero, List.set_cons_succ]
      refine wpAnyH_ready (rs := [3]) (by kernel_rfl) (by simp) ?_
      refine AllReadyH.cons (o := { dst := some 78, op := Go.Op.call { callee := Go.Callee.value (Go.Operand.func 8), args := #[Go.Operand.tmp 77], argTypes := #[27] }, type := 37, pos := "exact.go:3831", after := #[{ on := 2, ground := Go.Ground.data }, { on := 1, ground := Go.Ground.chain }], guard := none }) rfl (fun K hK => ?_) AllReadyH.nil
      go_simp
      go_at_call 8
      refine (to_Write _ x1 _ ((unhide HA1).reads.later hHeld) (unhide HN1)).mono ?_
      rintro e X17 ⟨vT1, rfl, OT, hbw⟩
      have rt1 := OT.reads
      obtain ⟨a2T1, d2T1, rfl, -⟩ := open_Write rt1
      replace rt0 := rt0.later hbw
      replace bx := bx.keep hbw
      clear OT
      try go_wp2_with fail
      refine hK.out _ _ (hHeld.trans (hbw.mono hHeld.size)) (fun hHeld => ?_)
      clear hK K hbw
      try simp only [Act.put, List.setIfInBounds_toArray, List.set_cons_zero, List.set_cons_succ]
      refine wpAnyH_ready (rs := [4]) (by kernel_rfl) (by simp) ?_
      refine AllReadyH.cons (o := { dst := some 79, op := Go.Op.call { callee := Go.Callee.value (Go.Operand.func 9), args := #[Go.Operand.tmp 76, Go.Operand.tmp 78], argTypes := #[32, 37] }, type := 34, pos := "exact.go:3831", after := #[{ on := 1, ground := Go.Ground.data }, { on := 3, ground := Go.Ground.data }, { on := 3, ground := Go.Ground.chain }], guard := none }) rfl (fun K hK => ?_) AllReadyH.nil
      go_simp
      go_at_call 9
      refine (unhide HI _ _ _ (((unhide HT).later (unhide HB)).later hHeld) rt0 rt1).mono ?_
      rintro e X18 ⟨cs, rfl, O, hbw⟩
      obtain ⟨a6K, d6K, rfl, -⟩ := open_NodeResult O.reads
      have hs0 := bx.lt
      replace bx := bx.keep hbw
      have hz9 := hbw.size
      have rd := O.lies
      clear O
      replace rd := rd.mono (lo' := X0.heap.size + 1) (by omega) (Nat.le_refl _)
      clear hs0
      try go_wp2_with fail
      refine hK.out _ _ (hHeld.trans (hbw.mono hHeld.size)) (fun hHeld => ?_)
      clear hK K hbw hz9
      try simp only [Act.put, List.setIfInBounds_toArray, List.set_cons_zero, List.set_cons_succ]
      clear rt0 rt1
      refine wpAnyH_ready (rs := [6]) (by kernel_rfl) (by simp) ?_
      refine AllReadyH.cons (o := { dst := none, op := Go.Op.store 34 (Go.Operand.tmp 13) (Go.Operand.tmp 79), type := 0, pos := "exact.go:3831", after := #[{ on := 5, ground := Go.Ground.data }, { on := 4, ground := Go.Ground.data }, { on := 4, ground := Go.Ground.chain }, { on := 0, ground := Go.Ground.phase }, { on := 1, ground := Go.Ground.phase }, { on := 2, ground := Go.Ground.phase }, { on := 3, ground := Go.Ground.phase }, { on := 4, ground := Go.Ground.phase }, { on := 5, ground := Go.Ground.phase }], guard := none }) rfl (fun K hK => ?_) AllReadyH.nil
      have z0 : X18.cell? ⟨X0.heap.size, 0, none⟩ = some (.int .i64 0) := bx.at 0 _ rfl
      have f0 := bx.soft 0
      have z1 : X18.cell? ⟨X0.heap.size, 1, none⟩ = some (.int .i64 0) := bx.at 1 _ rfl
      have f1 := bx.soft 1
      have z2 : X18.cell? ⟨X0.heap.size, 2, none⟩ = some (.int .i64 0) := bx.at 2 _ rfl
      have f2 := bx.soft 2
      have z3 : X18.cell? ⟨X0.heap.size, 3, none⟩ = some (.bool false) := bx.at 3 _ rfl
      have f3 := bx.soft 3
      have z4 : X18.cell? ⟨X0.heap.size, 4, none⟩ = some (.int .i64 0) := bx.at 4 _ rfl
      have f4 := bx.soft 4
      have z5 : X18.cell? ⟨X0.heap.size, 5, none⟩ = some (.int .i64 0) := bx.at 5 _ rfl
      have f5 := bx.soft 5
      have z6 : X18.cell? ⟨X0.heap.size, 6, none⟩ = some (.slice none 0 0) := bx.at 6 _ rfl
      have f6 := bx.soft 6
      have z7 : X18.cell? ⟨X0.heap.size, 7, none⟩ = some (.int .i64 0) := bx.at 7 _ rfl
      have f7 := bx.soft 7
      have z8 : X18.cell? ⟨X0.heap.size, 8, none⟩ = some (.int .i64 0) := bx.at 8 _ rfl
      have f8 := bx.soft 8
      have l0 := bx.lt
      have bx9 : Box w18.heap.size #[.int .i64 y.code, .int .i64 y.place, .int .i64 y.node.id, .bool y.node.up, .int .i64 y.node.epoch, .int .i64 y.node.lease, .slice a6K y.node.writes.length d6K, .int .i64 y.node.sure, .int .i64 y.node.clean] 34 (((((((((X18.setCell ⟨X0.heap.size, 0, none⟩ (.int .i64 y.code)).setCell ⟨X0.heap.size, 1, none⟩ (.int .i64 y.place)).setCell ⟨X0.heap.size, 2, none⟩ (.int .i64 y.node.id)).setCell ⟨X0.heap.size, 3, none⟩ (.bool y.node.up)).setCell ⟨X0.heap.size, 4, none⟩ (.int .i64 y.node.epoch)).setCell ⟨X0.heap.size, 5, none⟩ (.int .i64 y.node.lease)).setCell ⟨X0.heap.size, 6, none⟩ (.slice a6K y.node.writes.length d6K)).setCell ⟨X0.heap.size, 7, none⟩ (.int .i64 y.node.sure)).setCell ⟨X0.heap.size, 8, none⟩ (.int .i64 y.node.clean)) X0.heap.size := by have q := (((((((((bx.set 0 (.int .i64 y.code)).set 1 (.int .i64 y.place)).set 2 (.int .i64 y.node.id)).set 3 (.bool y.node.up)).set 4 (.int .i64 y.node.epoch)).set 5 (.int .i64 y.node.lease)).set 6 (.slice a6K y.node.writes.length d6K)).set 7 (.int .i64 y.node.sure)).set 8 (.int .i64 y.node.clean)); simp only [List.setIfInBounds_toArray, List.set_cons_zero, List.set_cons_succ] at q; exact q
      have hE9 : Ext (fun c => c = X0.heap.size) X18 (((((((((X18.setCell ⟨X0.heap.size, 0, none⟩ (.int .i64 y.code)).setCell ⟨X0.heap.size, 1, none⟩ (.int .i64 y.place)).setCell ⟨X0.heap.size, 2, none⟩ (.int .i64 y.node.id)).setCell ⟨X0.heap.size, 3, none⟩ (.bool y.node.up)).setCell ⟨X0.heap.size, 4, none⟩ (.int .i64 y.node.epoch)).setCell ⟨X0.heap.size, 5, none⟩ (.int .i64 y.node.lease)).setCell ⟨X0.heap.size, 6, none⟩ (.slice a6K y.node.writes.length d6K)).setCell ⟨X0.heap.size, 7, none⟩ (.int .i64 y.node.sure)).setCell ⟨X0.heap.size, 8, none⟩ (.int .i64 y.node.clean)) := ((((((((((Ext.refl (fun c => c = X0.heap.size) _).setCell ⟨X0.heap.size, 0, none⟩ (.int .i64 y.code) rfl).setCell ⟨X0.heap.size, 1, none⟩ (.int .i64 y.place) rfl).setCell ⟨X0.heap.size, 2, none⟩ (.int .i64 y.node.id) rfl).setCell ⟨X0.heap.size, 3, none⟩ (.bool y.node.up) rfl).setCell ⟨X0.heap.size, 4, none⟩ (.int .i64 y.node.epoch) rfl).setCell ⟨X0.heap.size, 5, none⟩ (.int .i64 y.node.lease) rfl).setCell ⟨X0.heap.size, 6, none⟩ (.slice a6K y.node.writes.length d6K) rfl).setCell ⟨X0.heap.size, 7, none⟩ (.int .i64 y.node.sure) rfl).setCell ⟨X0.heap.size, 8, none⟩ (.int .i64 y.node.clean) rfl)
      have rd9 := (rd.ext hE9 (fun c h1 h2 h3 => by omega)).reads
      have hH9 : Below w18.heap.size w18 (((((((((X18.setCell ⟨X0.heap.size, 0, none⟩ (.int .i64 y.code)).setCell ⟨X0.heap.size, 1, none⟩ (.int .i64 y.place)).setCell ⟨X0.heap.size, 2, none⟩ (.int .i64 y.node.id)).setCell ⟨X0.heap.size, 3, none⟩ (.bool y.node.up)).setCell ⟨X0.heap.size, 4, none⟩ (.int .i64 y.node.epoch)).setCell ⟨X0.heap.size, 5, none⟩ (.int .i64 y.node.lease)).setCell ⟨X0.heap.size, 6, none⟩ (.slice a6K y.node.writes.length d6K)).setCell ⟨X0.heap.size, 7, none⟩ (.int .i64 y.node.sure)).setCell ⟨X0.heap.size, 8, none⟩ (.int .i64 y.node.clean)) := (((((((((hHeld.setCell (by simpa using bx.1) (.int .i64 y.code)).setCell (by simpa using bx.1) (.int .i64 y.place)).setCell (by simpa using bx.1) (.int .i64 y.node.id)).setCell (by simpa using bx.1) (.bool y.node.up)).setCell (by simpa using bx.1) (.int .i64 y.node.epoch)).setCell (by simpa using bx.1) (.int .i64 y.node.lease)).setCell (by simpa using bx.1) (.slice a6K y.node.writes.length d6K)).setCell (by simpa using bx.1) (.int .i64 y.node.sure)).setCell (by simpa using bx.1) (.int .i64 y.node.clean))
      clear bx rd hE9
      have bx := bx9
      have rd := rd9
      clear bx9 rd9
      go_simp
      refine hK.out _ _ hH9 (fun hHeld => ?_)
      clear hK K hH9 l0 z0 f0 z1 f1 z2 f2 z3 f3 z4 f4 z5 f5 z6 f6 z7 f7 z8 f8
      try simp only [Act.put, List.setIfInBounds_toArray, List.set_cons_zero, List.set_cons_succ]
      refine wpAnyH_done (by kernel_rfl) ?_ _
      refine NoPanic.normal ?_
      have HH := hide hHeld
      have HBX := hide bx
      have HRD := hide rd
      clear hHeld bx rd
      go_wp2_with fail
      go_meet
      exact ⟨_, _, _, rfl, (unhide HBX).lt, unhide HBX, unhide HRD, unhide HH⟩
  case rest =>
  obtain ⟨sK, a6K, d6K, rfl, hsK, YB, O, hb⟩ := hcut
  obtain ⟨w19, hww19⟩ : ∃ q, q = wc := ⟨_, rfl⟩
  subst hww19
  clear l0P0 l1P0 l2P0 l3P0 l4P0 l5P0 l6P0 ltP0 l0P1 l1P1 l2P1 l3P1 l4P1 ltP1
  replace HA0 := hide ((unhide HA0).later hb)
  replace HA1 := hide ((unhide HA1).later hb)
  replace P0 := hide ((unhide P0).keep hb)
  replace P1 := hide ((unhide P1).keep hb)
  replace HW := hide ((unhide HW).later hb)
  replace YW := hide ((unhide YW).keep hb)
  replace X0 := hide ((unhide X0).keep hb)
  replace X1 := hide ((unhide X1).keep hb)
  replace YG := hide ((unhide YG).keep hb)
  replace HG := hide ((unhide HG).later hb)
  have Zw19 : w18.heap.size ≤ w19.heap.size := hb.size
  replace HB := hide ((unhide HB).trans (hb.mono (by omega)))
  clear hb
  have YK := hide YB
  have HK := hide O.liesIn
  clear YB O
  have l0P0 := (unhide P0).at 0 _ rfl
  have l1P0 := (unhide P0).at 1 _ rfl
  have l2P0 := (unhide P0).at 2 _ rfl
  have l3P0 := (unhide P0).at 3 _ rfl
  have l4P0 := (unhide P0).at 4 _ rfl
  have l5P0 := (unhide P0).at 5 _ rfl
  have l6P0 := (unhide P0).at 6 _ rfl
  have ltP0 : w.heap.size < w19.heap.size := by omega
  have l0P1 := (unhide P1).at 0 _ rfl
  have l1P1 := (unhide P1).at 1 _ rfl
  have l2P1 := (unhide P1).at 2 _ rfl
  have l3P1 := (unhide P1).at 3 _ rfl
  have l4P1 := (unhide P1).at 4 _ rfl
  have ltP1 : w.heap.size + 1 < w19.heap.size := by omega
  have l0YW := (unhide YW).at 0 _ rfl
  have l1YW := (unhide YW).at 1 _ rfl
  have l2YW := (unhide YW).at 2 _ rfl
  have l3YW := (unhide YW).at 3 _ rfl
  have l4YW := (unhide YW).at 4 _ rfl
  have l5YW := (unhide YW).at 5 _ rfl
  have l6YW := (unhide YW).at 6 _ rfl
  have l7YW := (unhide YW).at 7 _ rfl
  have l8YW := (unhide YW).at 8 _ rfl
  have ltYW : sW < w19.heap.size := by omega
  have l0X0 := (unhide X0).at 0 _ rfl
  have l1X0 := (unhide X0).at 1 _ rfl
  have l2X0 := (unhide X0).at 2 _ rfl
  have l3X0 := (unhide X0).at 3 _ rfl
  have l4X0 := (unhide X0).at 4 _ rfl
  have l5X0 := (unhide X0).at 5 _ rfl
  have l6X0 := (unhide X0).at 6 _ rfl
  have ltX0 : w5.heap.size < w19.heap.size := by omega
  have l0X1 := (unhide X1).at 0 _ rfl
  have l1X1 := (unhide X1).at 1 _ rfl
  have l2X1 := (unhide X1).at 2 _ rfl
  have l3X1 := (unhide X1).at 3 _ rfl
  have l4X1 := (unhide X1).at 4 _ rfl
  have ltX1 : w7.heap.size < w19.heap.size := by omega
  have l0YG := (unhide YG).at 0 _ rfl
  have l1YG := (unhide YG).at 1 _ rfl
  have l2YG := (unhide YG).at 2 _ rfl
  have l3YG := (unhide YG).at 3 _ rfl
  have l4YG := (unhide YG).at 4 _ rfl
  have l5YG := (unhide YG).at 5 _ rfl
  have l6YG := (unhide YG).at 6 _ rfl
  have l7YG := (unhide YG).at 7 _ rfl
  have l8YG := (unhide YG).at 8 _ rfl
  have ltYG : w9.heap.size < w19.heap.size := by omega
  have l0YK := (unhide YK).at 0 _ rfl
  have l1YK := (unhide YK).at 1 _ rfl
  have l2YK := (unhide YK).at 2 _ rfl
  have l3YK := (unhide YK).at 3 _ rfl
  have l4YK := (unhide YK).at 4 _ rfl
  have l5YK := (unhide YK).at 5 _ rfl
  have l6YK := (unhide YK).at 6 _ rfl
  have l7YK := (unhide YK).at 7 _ rfl
  have l8YK := (unhide YK).at 8 _ rfl
  have ltYK : sK < w19.heap.size := by omega
  simp only [List.getElem_toArray, List.getElem_cons_zero, List.getElem_cons_succ] at l0P0 l1P0 l2P0 l3P0 l4P0 l5P0 l6P0 l0P1 l1P1 l2P1 l3P1 l4P1 l0YW l1YW l2YW l3YW l4YW l5YW l6YW l7YW l8YW l0X0 l1X0 l2X0 l3X0 l4X0 l5X0 l6X0 l0X1 l1X1 l2X1 l3X1 l4X1 l0YG l1YG l2YG l3YG l4YG l5YG l6YG l7YG l8YG l0YK l1YK l2YK l3YK l4YK l5YK l6YK l7YK l8YK
  go_wp2_with fail
  clear l0P0 l1P0 l2P0 l3P0 l4P0 l5P0 l6P0 ltP0 l0P1 l1P1 l2P1 l3P1 l4P1 ltP1 l0YW l1YW l2YW l3YW l4YW l5YW l6YW l7YW l8YW ltYW l0X0 l1X0 l2X0 l3X0 l4X0 l5X0 l6X0 ltX0 l0X1 l1X1 l2X1 l3X1 l4X1 ltX1 l0YG l1YG l2YG l3YG l4YG l5YG l6YG l7YG l8YG ltYG l0YK l1YK l2YK l3YK l4YK l5YK l6YK l7YK l8YK ltYK
  refine (eq_NodeResult _ _ y w19 (unhide HK).reads (unhide HW).reads).mono ?_
  rintro e w20 ⟨rfl, hb⟩
  replace HA0 := hide ((unhide HA0).later hb)
  replace HA1 := hide ((unhide HA1).later hb)
  replace P0 := hide ((unhide P0).keep hb)
  replace P1 := hide ((unhide P1).keep hb)
  replace HW := hide ((unhide HW).later hb)
  replace YW := hide ((unhide YW).keep hb)
  replace X0 := hide ((unhide X0).keep hb)
  replace X1 := hide ((unhide X1).keep hb)
  replace YG := hide ((unhide YG).keep hb)
  replace HG := hide ((unhide HG).later hb)
  replace HK := hide ((unhide HK).later hb)
  replace YK := hide ((unhide YK).keep hb)
  have Zw20 : w19.heap.size ≤ w20.heap.size := hb.size
  replace HB := hide ((unhide HB).trans (hb.mono (by omega)))
  clear hb
  clear HK
  clear YK
  have l0P0 := (unhide P0).at 0 _ rfl
  have l1P0 := (unhide P0).at 1 _ rfl
  have l2P0 := (unhide P0).at 2 _ rfl
  have l3P0 := (unhide P0).at 3 _ rfl
  have l4P0 := (unhide P0).at 4 _ rfl
  have l5P0 := (unhide P0).at 5 _ rfl
  have l6P0 := (unhide P0).at 6 _ rfl
  have ltP0 : w.heap.size < w20.heap.size := by omega
  have l0P1 := (unhide P1).at 0 _ rfl
  have l1P1 := (unhide P1).at 1 _ rfl
  have l2P1 := (unhide P1).at 2 _ rfl
  have l3P1 := (unhide P1).at 3 _ rfl
  have l4P1 := (unhide P1).at 4 _ rfl
  have ltP1 : w.heap.size + 1 < w20.heap.size := by omega
  have l0YW := (unhide YW).at 0 _ rfl
  have l1YW := (unhide YW).at 1 _ rfl
  have l2YW := (unhide YW).at 2 _ rfl
  have l3YW := (unhide YW).at 3 _ rfl
  have l4YW := (unhide YW).at 4 _ rfl
  have l5YW := (unhide YW).at 5 _ rfl
  have l6YW := (unhide YW).at 6 _ rfl
  have l7YW := (unhide YW).at 7 _ rfl
  have l8YW := (unhide YW).at 8 _ rfl
  have ltYW : sW < w20.heap.size := by omega
  have l0X0 := (unhide X0).at 0 _ rfl
  have l1X0 := (unhide X0).at 1 _ rfl
  have l2X0 := (unhide X0).at 2 _ rfl
  have l3X0 := (unhide X0).at 3 _ rfl
  have l4X0 := (unhide X0).at 4 _ rfl
  have l5X0 := (unhide X0).at 5 _ rfl
  have l6X0 := (unhide X0).at 6 _ rfl
  have ltX0 : w5.heap.size < w20.heap.size := by omega
  have l0X1 := (unhide X1).at 0 _ rfl
  have l1X1 := (unhide X1).at 1 _ rfl
  have l2X1 := (unhide X1).at 2 _ rfl
  have l3X1 := (unhide X1).at 3 _ rfl
  have l4X1 := (unhide X1).at 4 _ rfl
  have ltX1 : w7.heap.size < w20.heap.size := by omega
  have l0YG := (unhide YG).at 0 _ rfl
  have l1YG := (unhide YG).at 1 _ rfl
  have l2YG := (unhide YG).at 2 _ rfl
  have l3YG := (unhide YG).at 3 _ rfl
  have l4YG := (unhide YG).at 4 _ rfl
  have l5YG := (unhide YG).at 5 _ rfl
  have l6YG := (unhide YG).at 6 _ rfl
  have l7YG := (unhide YG).at 7 _ rfl
  have l8YG := (unhide YG).at 8 _ rfl
  have ltYG : w9.heap.size < w20.heap.size := by omega
  simp only [List.getElem_toArray, List.getElem_cons_zero, List.getElem_cons_succ] at l0P0 l1P0 l2P0 l3P0 l4P0 l5P0 l6P0 l0P1 l1P1 l2P1 l3P1 l4P1 l0YW l1YW l2YW l3YW l4YW l5YW l6YW l7YW l8YW l0X0 l1X0 l2X0 l3X0 l4X0 l5X0 l6X0 l0X1 l1X1 l2X1 l3X1 l4X1 l0YG l1YG l2YG l3YG l4YG l5YG l6YG l7YG l8YG
  go_wp2_with fail
  clear l0P0 l1P0 l2P0 l3P0 l4P0 l5P0 l6P0 ltP0 l0P1 l1P1 l2P1 l3P1 l4P1 ltP1 l0YW l1YW l2YW l3YW l4YW l5YW l6YW l7YW l8YW ltYW l0X0 l1X0 l2X0 l3X0 l4X0 l5X0 l6X0 ltX0 l0X1 l1X1 l2X1 l3X1 l4X1 ltX1 l0YG l1YG l2YG l3YG l4YG l5YG l6YG l7YG l8YG ltYG
  refine (held_NodeResult _ y 1 w20 (unhide HG).reads (by omega) (by have := unhide HC; omega)).mono ?_
  rintro e w21 ⟨rfl, hb⟩
  replace HA0 := hide ((unhide HA0).later hb)
  replace HA1 := hide ((unhide HA1).later hb)
  replace P0 := hide ((unhide P0).keep hb)
  replace P1 := hide ((unhide P1).keep hb)
  replace HW := hide ((unhide HW).later hb)
  replace YW := hide ((unhide YW).keep hb)
  replace X0 := hide ((unhide X0).keep hb)
  replace X1 := hide ((unhide X1).keep hb)
  replace YG := hide ((unhide YG).keep hb)
  replace HG := hide ((unhide HG).later hb)
  have Zw21 : w20.heap.size ≤ w21.heap.size := hb.size
  replace HB := hide ((unhide HB).trans (hb.mono (by omega)))
  clear hb
  have l0P0 := (unhide P0).at 0 _ rfl
  have l1P0 := (unhide P0).at 1 _ rfl
  have l2P0 := (unhide P0).at 2 _ rfl
  have l3P0 := (unhide P0).at 3 _ rfl
  have l4P0 := (unhide P0).at 4 _ rfl
  have l5P0 := (unhide P0).at 5 _ rfl
  have l6P0 := (unhide P0).at 6 _ rfl
  have ltP0 : w.heap.size < w21.heap.size := by omega
  have l0P1 := (unhide P1).at 0 _ rfl
  have l1P1 := (unhide P1).at 1 _ rfl
  have l2P1 := (unhide P1).at 2 _ rfl
  have l3P1 := (unhide P1).at 3 _ rfl
  have l4P1 := (unhide P1).at 4 _ rfl
  have ltP1 : w.heap.size + 1 < w21.heap.size := by omega
  have l0YW := (unhide YW).at 0 _ rfl
  have l1YW := (unhide YW).at 1 _ rfl
  have l2YW := (unhide YW).at 2 _ rfl
  have l3YW := (unhide YW).at 3 _ rfl
  have l4YW := (unhide YW).at 4 _ rfl
  have l5YW := (unhide YW).at 5 _ rfl
  have l6YW := (unhide YW).at 6 _ rfl
  have l7YW := (unhide YW).at 7 _ rfl
  have l8YW := (unhide YW).at 8 _ rfl
  have ltYW : sW < w21.heap.size := by omega
  have l0X0 := (unhide X0).at 0 _ rfl
  have l1X0 := (unhide X0).at 1 _ rfl
  have l2X0 := (unhide X0).at 2 _ rfl
  have l3X0 := (unhide X0).at 3 _ rfl
  have l4X0 := (unhide X0).at 4 _ rfl
  have l5X0 := (unhide X0).at 5 _ rfl
  have l6X0 := (unhide X0).at 6 _ rfl
  have ltX0 : w5.heap.size < w21.heap.size := by omega
  have l0X1 := (unhide X1).at 0 _ rfl
  have l1X1 := (unhide X1).at 1 _ rfl
  have l2X1 := (unhide X1).at 2 _ rfl
  have l3X1 := (unhide X1).at 3 _ rfl
  have l4X1 := (unhide X1).at 4 _ rfl
  have ltX1 : w7.heap.size < w21.heap.size := by omega
  have l0YG := (unhide YG).at 0 _ rfl
  have l1YG := (unhide YG).at 1 _ rfl
  have l2YG := (unhide YG).at 2 _ rfl
  have l3YG := (unhide YG).at 3 _ rfl
  have l4YG := (unhide YG).at 4 _ rfl
  have l5YG := (unhide YG).at 5 _ rfl
  have l6YG := (unhide YG).at 6 _ rfl
  have l7YG := (unhide YG).at 7 _ rfl
  have l8YG := (unhide YG).at 8 _ rfl
  have ltYG : w9.heap.size < w21.heap.size := by omega
  simp only [List.getElem_toArray, List.getElem_cons_zero, List.getElem_cons_succ] at l0P0 l1P0 l2P0 l3P0 l4P0 l5P0 l6P0 l0P1 l1P1 l2P1 l3P1 l4P1 l0YW l1YW l2YW l3YW l4YW l5YW l6YW l7YW l8YW l0X0 l1X0 l2X0 l3X0 l4X0 l5X0 l6X0 l0X1 l1X1 l2X1 l3X1 l4X1 l0YG l1YG l2YG l3YG l4YG l5YG l6YG l7YG l8YG
  go_wp2_with fail
  clear l0P0 l1P0 l2P0 l3P0 l4P0 l5P0 l6P0 ltP0 l0P1 l1P1 l2P1 l3P1 l4P1 ltP1 l0YW l1YW l2YW l3YW l4YW l5YW l6YW l7YW l8YW ltYW l0X0 l1X0 l2X0 l3X0 l4X0 l5X0 l6X0 ltX0 l0X1 l1X1 l2X1 l3X1 l4X1 ltX1 l0YG l1YG l2YG l3YG l4YG l5YG l6YG l7YG l8YG ltYG
  go_ret
  exact ⟨rfl, unhide HB⟩


set_option maxRecDepth 10000 in
set_option maxHeartbeats 1000000 in
theorem lawover_TakeWrite (u0 : List Value) (x0 : DNode) (u1 : List Value) (x1 : DWrite) (w : World) (A0 : Lay.tNode.Reads w u0 x0) (A1 : Lay.tWrite.Reads w u1 x1) (NS : 1048576 < Lay.tNode.sz x0 + Lay.tWrite.sz x1) :
    Calls Tryd.prog 3 #[.agg u0.toArray, .agg u1.toArray] w fun e w' => e = .returned (.bool true) ∧ Below w.heap.size w w' := by
  obtain ⟨a4p0, d4p0, rfl, -⟩ := open_Node A0
  obtain ⟨a2p1, d2p1, rfl, -⟩ := open_Write A1
  have HA0 := hide A0.liesIn
  clear A0
  have HA1 := hide A1.liesIn
  clear A1
  have HB := hide (Below.refl w.heap.size w)
  go_enter Tryd.func3, Tryd.ntmps3
  go_wp2_with fail
  have nb : Below w.heap.size w ((w.alloc (.cells #[.int .i64 x0.id, .bool x0.up, .int .i64 x0.epoch, .int .i64 x0.lease, .slice a4p0 x0.writes.length d4p0, .int .i64 x0.sure, .int .i64 x0.clean] 24)).alloc (.cells #[.int .i64 x1.kind, .int .i64 x1.id, .slice a2p1 x1.vec.length d2p1, .int .i64 x1.session, .int .i64 x1.seq] 27)) := ((Below.refl w.heap.size w).alloc (Nat.le_refl _) _).alloc (by simp) _
  have P0 : Hid (Box w.heap.size #[.int .i64 x0.id, .bool x0.up, .int .i64 x0.epoch, .int .i64 x0.lease, .slice a4p0 x0.writes.length d4p0, .int .i64 x0.sure, .int .i64 x0.clean] 24 ((w.alloc (.cells #[.int .i64 x0.id, .bool x0.up, .int .i64 x0.epoch, .int .i64 x0.lease, .slice a4p0 x0.writes.length d4p0, .int .i64 x0.sure, .int .i64 x0.clean] 24)).alloc (.cells #[.int .i64 x1.kind, .int .i64 x1.id, .slice a2p1 x1.vec.length d2p1, .int .i64 x1.session, .int .i64 x1.seq] 27)) (w.heap.size)) := (newBoxAt (by omega) (by simp)).grow _
  have P1 : Hid (Box w.heap.size #[.int .i64 x1.kind, .int .i64 x1.id, .slice a2p1 x1.vec.length d2p1, .int .i64 x1.session, .int .i64 x1.seq] 27 ((w.alloc (.cells #[.int .i64 x0.id, .bool x0.up, .int .i64 x0.epoch, .int .i64 x0.lease, .slice a4p0 x0.writes.length d4p0, .int .i64 x0.sure, .int .i64 x0.clean] 24)).alloc (.cells #[.int .i64 x1.kind, .int .i64 x1.id, .slice a2p1 x1.vec.length d2p1, .int .i64 x1.session, .int .i64 x1.seq] 27)) (w.heap.size + 1)) := newBoxAt (by omega) (by simp)
  generalize haw1 : ((w.alloc (.cells #[.int .i64 x0.id, .bool x0.up, .int .i64 x0.epoch, .int .i64 x0.lease, .slice a4p0 x0.writes.length d4p0, .int .i64 x0.sure, .int .i64 x0.clean] 24)).alloc (.cells #[.int .i64 x1.kind, .int .i64 x1.id, .slice a2p1 x1.vec.length d2p1, .int .i64 x1.session, .int .i64 x1.seq] 27)) = w1 at *
  have Gw1 : w.heap.size + 2 ≤ w1.heap.size := by rw [← haw1]; simp
  clear haw1
  replace HA0 := hide ((unhide HA0).later nb)
  replace HA1 := hide ((unhide HA1).later nb)
  have Zw1 : w.heap.size ≤ w1.heap.size := nb.size
  replace HB := hide ((unhide HB).trans (nb.mono (by omega)))
  clear nb
  refine (sz_Node _ x0 (1048576) w1 (unhide HA0).reads (by omega)).mono ?_
  rintro e w2 ⟨rfl, hb⟩
  replace HA0 := hide ((unhide HA0).later hb)
  replace HA1 := hide ((unhide HA1).later hb)
  replace P0 := hide ((unhide P0).keep hb)
  replace P1 := hide ((unhide P1).keep hb)
  have Zw2 : w1.heap.size ≤ w2.heap.size := hb.size
  replace HB := hide ((unhide HB).trans (hb.mono (by omega)))
  clear hb
  by_cases hs0 : Lay.tNode.sz x0 ≤ 1048576
  · rw [szR_ok hs0]
    have hq0 : decide (((1048576 - Lay.tNode.sz x0 : Nat) : Int) < 0) = false := by simp
    have l0P0 := (unhide P0).at 0 _ rfl
    have l1P0 := (unhide P0).at 1 _ rfl
    have l2P0 := (unhide P0).at 2 _ rfl
    have l3P0 := (unhide P0).at 3 _ rfl
    have l4P0 := (unhide P0).at 4 _ rfl
    have l5P0 := (unhide P0).at 5 _ rfl
    have l6P0 := (unhide P0).at 6 _ rfl
    have ltP0 : w.heap.size < w2.heap.size := by omega
    have l0P1 := (unhide P1).at 0 _ rfl
    have l1P1 := (unhide P1).at 1 _ rfl
    have l2P1 := (unhide P1).at 2 _ rfl
    have l3P1 := (unhide P1).at 3 _ rfl
    have l4P1 := (unhide P1).at 4 _ rfl
    have ltP1 : w.heap.size + 1 < w2.heap.size := by omega
    simp only [List.getElem_toArray, List.getElem_cons_zero, List.getElem_cons_succ] at l0P0 l1P0 l2P0 l3P0 l4P0 l5P0 l6P0 l0P1 l1P1 l2P1 l3P1 l4P1
    go_wp2_with fail
    clear l0P0 l1P0 l2P0 l3P0 l4P0 l5P0 l6P0 ltP0 l0P1 l1P1 l2P1 l3P1 l4P1 ltP1
    clear hq0
    refine (sz_Write _ x1 (1048576 - Lay.tNode.sz x0) w2 (unhide HA1).reads (by omega)).mono ?_
    rintro e w3 ⟨rfl, hb⟩
    replace HA0 := hide ((unhide HA0).later hb)
    replace HA1 := hide ((unhide HA1).later hb)
    replace P0 := hide ((unhide P0).keep hb)
    replace P1 := hide ((unhide P1).keep hb)
    have Zw3 : w2.heap.size ≤ w3.heap.size := hb.size
    replace HB := hide ((unhide HB).trans (hb.mono (by omega)))
    clear hb
    rw [szR_many (by omega)]
    go_wp2_with fail
    go_ret
    exact ⟨rfl, unhide HB⟩
  · rw [szR_many (by omega)]
    go_wp2_with fail
    go_ret
    exact ⟨rfl, unhide HB⟩

end Go.Proofs.YtbogjepkdcknfaaDoor

namespace Go.Proofs.YtbogjepkdcknfaaDoor
open Go.RowKit

structure DIntResult where
  code : Int
  value : Int

def Lay.tIntResult : Lay DIntResult := Lay.via (Lay.pair Lay.int Lay.int) (fun x => (x.code, x.value)) (fun p => ⟨p.1, p.2⟩)

theorem lies_IntResult {w : World} {cs : List Value} {x : DIntResult} {bl : List Nat} : Lay.tIntResult.lies w cs x bl ↔ cs = [.int .i64 x.code, .int .i64 x.value] ∧ bl = [] ∧ (Lit.int .i64 x.code).wf = true ∧ (Lit.int .i64 x.value).wf = true := by
  constructor
  · intro h
    obtain ⟨c0_, r0_, e0_, s0_, rfl, rfl, h0, h1⟩ := h
    obtain ⟨rfl, w0, rfl⟩ := h0
    obtain ⟨rfl, w1, rfl⟩ := h1
    exact ⟨by simp, by simp, w0, w1⟩
  · rintro ⟨rfl, hbl, w0, w1⟩
    rw [hbl]
    exact ⟨[.int .i64 x.code], [.int .i64 x.value], [], [], rfl, by simp, ⟨rfl, w0, rfl⟩, ⟨rfl, w1, rfl⟩⟩

end Go.Proofs.YtbogjepkdcknfaaDoor

namespace Go.Proofs.YtbogjepkdcknfaaDoor
open Go.RowKit

structure DWritesResult where
  code : Int
  writes : List DWrite

def Lay.tWritesResult : Lay DWritesResult := Lay.via (Lay.pair Lay.int (Lay.sl Lay.tWrite)) (fun x => (x.code, x.writes)) (fun p => ⟨p.1, p.2⟩)

theorem lies_WritesResult {w : World} {cs : List Value} {x : DWritesResult} {bl : List Nat} : Lay.tWritesResult.lies w cs x bl ↔ ∃ (a1 : Option Addr) (d1 : Nat) (b1 : List Nat), cs = [.int .i64 x.code, .slice a1 x.writes.length d1] ∧ bl = b1 ∧ (Lit.int .i64 x.code).wf = true ∧ (Lay.sl Lay.tWrite).lies w [.slice a1 x.writes.length d1] x.writes b1 := by
  constructor
  · intro h
    obtain ⟨c0_, r0_, e0_, s0_, rfl, rfl, h0, h1⟩ := h
    obtain ⟨rfl, w0, rfl⟩ := h0
    have k1 := h1
    obtain ⟨a1, d1, rfl, -⟩ := k1
    exact ⟨a1, d1, s0_, by simp, by simp, w0, h1⟩
  · rintro ⟨a1, d1, b1, rfl, hbl, w0, l1⟩
    rw [hbl]
    exact ⟨[.int .i64 x.code], [.slice a1 x.writes.length d1], [], b1, rfl, by simp, ⟨rfl, w0, rfl⟩, l1⟩

theorem open_WritesResult {w : World} {cs : List Value} {x : DWritesResult} (h : Lay.tWritesResult.Reads w cs x) : ∃ (a1 : Option Addr) (d1 : Nat), cs = [.int .i64 x.code, .slice a1 x.writes.length d1] ∧ (Lay.sl Lay.tWrite).Reads w [.slice a1 x.writes.length d1] x.writes := by
  obtain ⟨bl, h⟩ := h
  obtain ⟨a1, d1, b1, rfl, -, w0, l1⟩ := lies_WritesResult.1 h
  exact ⟨a1, d1, rfl, ⟨_, l1⟩⟩

end Go.Proofs.YtbogjepkdcknfaaDoor

namespace Go.Proofs.YtbogjepkdcknfaaDoor
open Go.RowKit

def lastR (ws : List DWrite) (s : Int) : DIntResult := if askedF ws s = 0 then ⟨0, lastI ws s⟩ else ⟨askedF ws s, 0⟩
def seenR (ws : List DWrite) (s q : Int) : DIntResult := if askedF ws s = 0 then (if 1 ≤ q ∧ q ≤ 999 then (if seenI ws s q = 0 then ⟨4, 0⟩ else ⟨0, seenI ws s q⟩) else ⟨3, 0⟩) else ⟨askedF ws s, 0⟩
def ofL (ws : List DWrite) (s : Int) : List DWrite := ws.filter fun x => decide (x.session = s)
def ofR (ws : List DWrite) (s : Int) : DWritesResult := if askedF ws s = 0 then ⟨0, ofL ws s⟩ else ⟨askedF ws s, []⟩
theorem asked_bad {ws : List DWrite} (s : Int) (h : writesF ws ≠ 0) : askedF ws s = writesF ws := by rw [askedF, if_neg h]
theorem asked_out {ws : List DWrite} {s : Int} (h : writesF ws = 0) (hs : ¬ (1 ≤ s ∧ s ≤ 9)) : askedF ws s = 3 := by rw [askedF, if_pos h, if_neg hs]
theorem asked_ok {ws : List DWrite} {s : Int} (h : writesF ws = 0) (hs : 1 ≤ s ∧ s ≤ 9) : askedF ws s = 0 := by rw [askedF, if_pos h, if_pos hs]
theorem last_bd {ws : List DWrite} (s : Int) (h : writesF ws = 0) : 0 ≤ lastI ws s ∧ lastI ws s ≤ 999 := ⟨lastI_nonneg ws s, lastI_le ws s fun x hx => (wF_seq ((writesF_zero h).2 x hx)).2.2.2⟩
theorem dec9 {s : Int} (hs : 1 ≤ s ∧ s ≤ 9) : (decide (1 ≤ s) && decide (s ≤ 9)) = true := by simp [hs.1, hs.2]
theorem dec9n {s : Int} (hs : ¬ (1 ≤ s ∧ s ≤ 9)) : (decide (1 ≤ s) && decide (s ≤ 9)) = false := by
  rw [Bool.eq_false_iff]
  intro hb
  simp only [Bool.and_eq_true, decide_eq_true_eq] at hb
  exact hs hb
theorem dec999 {s : Int} (hs : 1 ≤ s ∧ s ≤ 999) : (decide (1 ≤ s) && decide (s ≤ 999)) = true := by simp [hs.1, hs.2]
theorem dec999n {s : Int} (hs : ¬ (1 ≤ s ∧ s ≤ 999)) : (decide (1 ≤ s) && decide (s ≤ 999)) = false := by
  rw [Bool.eq_false_iff]
  intro hb
  simp only [Bool.and_eq_true, decide_eq_true_eq] at hb
  exact hs hb
theorem own_IntR {w : World} {c z : Int} {lo hi : Nat} (hc : (Lit.int .i64 c).wf = true) (hz : (Lit.int .i64 z).wf = true) : Lay.tIntResult.OwnIn w [.int .i64 c, .int .i64 z] ⟨c, z⟩ lo hi :=
  ⟨[], ⟨lies_IntResult.2 ⟨rfl, rfl, hc, hz⟩, by simp, by simp⟩, by simp⟩
theorem wsF_wf (ws : List DWrite) : (Lit.int .i64 (writesF ws)).wf = true := by
  have : 0 ≤ writesF ws ∧ writesF ws ≤ 3 := by
    unfold writesF
    split
    · omega
    · induction ws with
      | nil => simp [wsFrom]
      | cons x xs ih =>
        rw [wsFrom]
        split
        · exact ih (by rename_i h _; simp only [List.length_cons] at h; omega)
        · exact wF_vals x
  exact wf_of_bd (by omega)

end Go.Proofs.YtbogjepkdcknfaaDoor

namespace Go.Proofs.YtbogjepkdcknfaaDoor
open Go.RowKit

structure DOnceResult where
  code : Int
  isNew : Bool
  place : Int
  writes : List DWrite

def Lay.tOnceResult : Lay DOnceResult := Lay.via (Lay.pair Lay.int (Lay.pair Lay.bool (Lay.pair Lay.int (Lay.sl Lay.tWrite)))) (fun x => (x.code, x.isNew, x.place, x.writes)) (fun p => ⟨p.1, p.2.1, p.2.2.1, p.2.2.2⟩)

theorem lies_OnceResult {w : World} {cs : List Value} {x : DOnceResult} {bl : List Nat} : Lay.tOnceResult.lies w cs x bl ↔ ∃ (a3 : Option Addr) (d3 : Nat) (b3 : List Nat), cs = [.int .i64 x.code, .bool x.isNew, .int .i64 x.place, .slice a3 x.writes.length d3] ∧ bl = b3 ∧ (Lit.int .i64 x.code).wf = true ∧ (Lit.int .i64 x.place).wf = true ∧ (Lay.sl Lay.tWrite).lies w [.slice a3 x.writes.length d3] x.writes b3 := by
  constructor
  · intro h
    obtain ⟨c0_, r0_, e0_, s0_, rfl, rfl, h0, ⟨c1_, r1_, e1_, s1_, rfl, rfl, h1, ⟨c2_, r2_, e2_, s2_, rfl, rfl, h2, h3⟩⟩⟩ := h
    obtain ⟨rfl, w0, rfl⟩ := h0
    obtain ⟨rfl, rfl⟩ := h1
    obtain ⟨rfl, w2, rfl⟩ := h2
    have k3 := h3
    obtain ⟨a3, d3, rfl, -⟩ := k3
    exact ⟨a3, d3, s2_, by simp, by simp, w0, w2, h3⟩
  · rintro ⟨a3, d3, b3, rfl, hbl, w0, w2, l3⟩
    rw [hbl]
    exact ⟨[.int .i64 x.code], [.bool x.isNew] ++ ([.int .i64 x.place] ++ [.slice a3 x.writes.length d3]), [], [] ++ ([] ++ (b3)), rfl, by simp, ⟨rfl, w0, rfl⟩, ⟨[.bool x.isNew], [.int .i64 x.place] ++ [.slice a3 x.writes.length d3], [], [] ++ (b3), rfl, by simp, ⟨rfl, rfl⟩, ⟨[.int .i64 x.place], [.slice a3 x.writes.length d3], [], b3, rfl, by simp, ⟨rfl, w2, rfl⟩, l3⟩⟩⟩

theorem open_OnceResult {w : World} {cs : List Value} {x : DOnceResult} (h : Lay.tOnceResult.Reads w cs x) : ∃ (a3 : Option Addr) (d3 : Nat), cs = [.int .i64 x.code, .bool x.isNew, .int .i64 x.place, .slice a3 x.writes.length d3] ∧ (Lay.sl Lay.tWrite).Reads w [.slice a3 x.writes.length d3] x.writes := by
  obtain ⟨bl, h⟩ := h
  obtain ⟨a3, d3, b3, rfl, -, w0, w2, l3⟩ := lies_OnceResult.1 h
  exact ⟨a3, d3, rfl, ⟨_, l3⟩⟩

end Go.Proofs.YtbogjepkdcknfaaDoor
