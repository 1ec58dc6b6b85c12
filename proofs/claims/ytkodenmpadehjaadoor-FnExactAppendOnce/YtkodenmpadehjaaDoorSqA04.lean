/-
  The law FnExactAppendOnce answers true at all that comes in, and writes nothing that was there.
  Condition: the program and the model tell the same (premises).
-/
import Derived.Test.YtkodenmpadehjaaDoorChecked
import Derived.Test.YtkodenmpadehjaaDoorSqA01
import Derived.Test.YtkodenmpadehjaaDoorSqA02
import Derived.Test.YtkodenmpadehjaaDoorSqA03
import Derived.Deep.RegionHeld3
import Derived.Deep.CutRange

namespace Go.Proofs.YtkodenmpadehjaaDoor
open Go.RowKit

set_option maxRecDepth 100000 in
set_option maxHeartbeats 4000000 in
theorem lawx_AppendOnce (v0 : Value) (x0 : List DWrite) (u1 : List Value) (x1 : DWrite) (y : DOnceResult) (w : World) (A0 : (Lay.sl Lay.tWrite).Reads w [v0] x0) (A1 : Lay.tWrite.Reads w u1 x1) (NS : (Lay.sl Lay.tWrite).sz x0 + Lay.tWrite.sz x1 ≤ 1048576) (ht : Errs w)
    (hS : ∀ (W : World) (v0 : Value) (u1 : List Value), Errs W → (Lay.sl Lay.tWrite).Reads W [v0] x0 → Lay.tWrite.Reads W u1 x1 → Calls Tryd.prog 8 #[v0, .agg u1.toArray] W fun e w' => ∃ cs, e = .returned (.agg cs.toArray) ∧ Lay.tOnceResult.LiesIn w' cs y W.heap.size w'.heap.size ∧ Below W.heap.size W w')
    (hI : ∀ (W : World) (v0 : Value) (u1 : List Value), Errs W → (Lay.sl Lay.tWrite).Reads W [v0] x0 → Lay.tWrite.Reads W u1 x1 → Calls Tryd.prog 7 #[v0, .agg u1.toArray] W fun e w' => ∃ cs, e = .returned (.agg cs.toArray) ∧ Lay.tOnceResult.OwnIn w' cs y W.heap.size w'.heap.size ∧ Below W.heap.size W w') (hc : Lay.tOnceResult.vcnt y ≤ 100000000) :
    Calls Tryd.prog 4 #[v0, .agg u1.toArray] w fun e w' => e = .returned (.bool true) ∧ Below w.heap.size w w' := by
  obtain ⟨ao0, cp0, rfl⟩ := open_sl A0
  obtain ⟨a2p1, d2p1, rfl, -⟩ := open_Write A1
  have HS := hide hS
  have HI := hide hI
  clear hS hI
  have HA0 := hide A0.liesIn
  clear A0
  have HA1 := hide A1.liesIn
  clear A1
  have N0 : (Lay.sl Lay.tWrite).sz x0 ≤ 1048576 := by omega
  have N1 : Lay.tWrite.sz x1 ≤ 1048576 := by omega
  have HN0 := hide N0
  have HN1 := hide N1
  clear N0 N1
  have HC := hide hc
  clear hc
  have HNS := hide NS
  clear NS
  have HT := hide ht
  clear ht
  have HB := hide (Below.refl w.heap.size w)
  go_enter Tryd.func4, Tryd.ntmps4
  go_wp2_with fail
  have nb : Below w.heap.size w (w.alloc (.cells #[.int .i64 x1.kind, .int .i64 x1.id, .slice a2p1 x1.vec.length d2p1, .int .i64 x1.session, .int .i64 x1.seq] 43)) := (Below.refl w.heap.size w).alloc (Nat.le_refl _) _
  have P1 : Hid (Box w.heap.size #[.int .i64 x1.kind, .int .i64 x1.id, .slice a2p1 x1.vec.length d2p1, .int .i64 x1.session, .int .i64 x1.seq] 43 (w.alloc (.cells #[.int .i64 x1.kind, .int .i64 x1.id, .slice a2p1 x1.vec.length d2p1, .int .i64 x1.session, .int .i64 x1.seq] 43)) (w.heap.size)) := newBoxAt (by omega) (by simp)
  generalize haw1 : (w.alloc (.cells #[.int .i64 x1.kind, .int .i64 x1.id, .slice a2p1 x1.vec.length d2p1, .int .i64 x1.session, .int .i64 x1.seq] 43)) = w1 at *
  have Gw1 : w.heap.size + 1 ≤ w1.heap.size := by rw [← haw1]; simp
  clear haw1
  replace HA0 := hide ((unhide HA0).later nb)
  replace HA1 := hide ((unhide HA1).later nb)
  have Zw1 : w.heap.size ≤ w1.heap.size := nb.size
  replace HB := hide ((unhide HB).trans (nb.mono (by omega)))
  clear nb
  have hns := unhide HNS
  refine (sz_WriteS _ x0 (1048576) w1 (unhide HA0).reads (by omega)).mono ?_
  rintro e w2 ⟨rfl, hb⟩
  replace HA0 := hide ((unhide HA0).later hb)
  replace HA1 := hide ((unhide HA1).later hb)
  replace P1 := hide ((unhide P1).keep hb)
  have Zw2 : w1.heap.size ≤ w2.heap.size := hb.size
  replace HB := hide ((unhide HB).trans (hb.mono (by omega)))
  clear hb
  rw [szR_ok (by omega)]
  have hq0 : decide (((1048576 - (Lay.sl Lay.tWrite).sz x0 : Nat) : Int) < 0) = false := by simp
  clear hns
  have l0P1 := (unhide P1).at 0 _ rfl
  have l1P1 := (unhide P1).at 1 _ rfl
  have l2P1 := (unhide P1).at 2 _ rfl
  have l3P1 := (unhide P1).at 3 _ rfl
  have l4P1 := (unhide P1).at 4 _ rfl
  have ltP1 : w.heap.size < w2.heap.size := by omega
  simp only [List.getElem_toArray, List.getElem_cons_zero, List.getElem_cons_succ] at l0P1 l1P1 l2P1 l3P1 l4P1
  go_wp2_with fail
  clear l0P1 l1P1 l2P1 l3P1 l4P1 ltP1
  clear hq0
  have hns := unhide HNS
  refine (sz_Write _ x1 (1048576 - (Lay.sl Lay.tWrite).sz x0) w2 (unhide HA1).reads (by omega)).mono ?_
  rintro e w3 ⟨rfl, hb⟩
  replace HA0 := hide ((unhide HA0).later hb)
  replace HA1 := hide ((unhide HA1).later hb)
  replace P1 := hide ((unhide P1).keep hb)
  have Zw3 : w2.heap.size ≤ w3.heap.size := hb.size
  replace HB := hide ((unhide HB).trans (hb.mono (by omega)))
  clear hb
  rw [szR_ok (by omega)]
  have hq1 : decide (((1048576 - (Lay.sl Lay.tWrite).sz x0 - Lay.tWrite.sz x1 : Nat) : Int) < 0) = false := by simp
  clear hns
  have l0P1 := (unhide P1).at 0 _ rfl
  have l1P1 := (unhide P1).at 1 _ rfl
  have l2P1 := (unhide P1).at 2 _ rfl
  have l3P1 := (unhide P1).at 3 _ rfl
  have l4P1 := (unhide P1).at 4 _ rfl
  have ltP1 : w.heap.size < w3.heap.size := by omega
  simp only [List.getElem_toArray, List.getElem_cons_zero, List.getElem_cons_succ] at l0P1 l1P1 l2P1 l3P1 l4P1
  go_upto_region 8 with fail
  clear l0P1 l1P1 l2P1 l3P1 l4P1 ltP1
  clear hq1
  have l0P1 := (unhide P1).at 0 _ rfl
  have l1P1 := (unhide P1).at 1 _ rfl
  have l2P1 := (unhide P1).at 2 _ rfl
  have l3P1 := (unhide P1).at 3 _ rfl
  have l4P1 := (unhide P1).at 4 _ rfl
  have ltP1 : w.heap.size < w3.heap.size := by omega
  simp only [List.getElem_toArray, List.getElem_cons_zero, List.getElem_cons_succ] at l0P1 l1P1 l2P1 l3P1 l4P1
  go_cut [6] from 24 to 28 (fun sL wx => ∃ (s0 : Nat) (a3W : Option Addr) (d3W : Nat), sL = .pointer (some ⟨s0, 0, none⟩) ∧ s0 < wx.heap.size ∧ Box w3.heap.size #[.int .i64 y.code, .bool y.isNew, .int .i64 y.place, .slice a3W y.writes.length d3W] 31 wx s0 ∧ Lay.tOnceResult.Reads wx [.int .i64 y.code, .bool y.isNew, .int .i64 y.place, .slice a3W y.writes.length d3W] y ∧ Below w3.heap.size w3 wx)
  case first =>
    refine wp_region_noPanic ?_
    refine wp_region_held_drew (S := fun w' => Below w3.heap.size w3 w') (by kernel_rfl) (Below.refl _ _).drew (fun hHeld => ?_)
    generalize w3.drew = X0 at hHeld ⊢
    refine wpAnyH_take (i := 0) (oi := { dst := some 24, op := Go.Op.move (Go.Operand.tmp 0), type := 42, pos := "exact.go:2811", after := #[], guard := none }) (v := ?v0_1) rfl (by kernel_rfl) (by kernel_rfl) (by kernel_rfl) (fun _ _ _ h => h) (Or.inl ⟨by rfl, ?h0_1⟩) hHeld ?r0_1
    case h0_1 =>
      intro wS hSw
      (try dsimp only at hSw)
      go_simp
      try with_reducible rfl
    case r0_1 =>
    simp only [Act.put, List.setIfInBounds_toArray, List.set_cons_zero, List.set_cons_succ]
    refine wpAnyH_take (i := 2) (oi := { dst := some 26, op := Go.Op.load 43 (Go.Operand.tmp 3), type := 43, pos := "exact.go:2811", after := #[], guard := none }) (v := ?v2_2) rfl (by kernel_rfl) (by kernel_rfl) (by kernel_rfl) (fun _ _ _ h => h) (Or.inl ⟨by rfl, ?h2_2⟩) hHeld ?r2_2
    case h2_2 =>
      intro wS hSw
      have y0P1 := (hSw.cell (p := ⟨w.heap.size, 0, none⟩) ltP1).trans l0P1
      have y1P1 := (hSw.cell (p := ⟨w.heap.size, 1, none⟩) ltP1).trans l1P1
      have y2P1 := (hSw.cell (p := ⟨w.heap.size, 2, none⟩) ltP1).trans l2P1
      have y3P1 := (hSw.cell (p := ⟨w.heap.size, 3, none⟩) ltP1).trans l3P1
      have y4P1 := (hSw.cell (p := ⟨w.heap.size, 4, none⟩) ltP1).trans l4P1
      clear hSw
      (try dsimp only at hSw)
      go_simp
      try with_reducible rfl
    case r2_2 =>
    simp only [Act.put, List.setIfInBounds_toArray, List.set_cons_zero, List.set_cons_succ]
    refine wpAnyH_ready (rs := [1, 5]) (by kernel_rfl) (by simp) ?_
    refine AllReadyH.cons (o := { dst := some 25, op := Go.Op.call { callee := Go.Callee.value (Go.Operand.func 16), args := #[Go.Operand.tmp 24], argTypes := #[42] }, type := 24, pos := "exact.go:2811", after := #[{ on := 0, ground := Go.Ground.data }], guard := none }) rfl (fun K hK => ?_) (AllReadyH.cons (o := { dst := some 6, op := Go.Op.alloc 31, type := 0, pos := "exact.go:2811", after := #[], guard := none }) rfl (fun K hK => ?_) AllReadyH.nil)
    · go_simp
      go_at_call 16
      refine (to_WriteS _ x0 _ ((unhide HA0).reads.later hHeld) (unhide HN0)).mono ?_
      rintro e X3 ⟨vT0, rfl, OT, hbw⟩
      have rt0 := OT.reads
      obtain ⟨aoT0, cpT0, rfl⟩ := open_sl rt0
      clear OT
      try go_wp2_with fail
      refine hK.out _ _ (hHeld.trans (hbw.mono hHeld.size)) (fun hHeld => ?_)
      clear hK K hbw
      try simp only [Act.put, List.setIfInBounds_toArray, List.set_cons_zero, List.set_cons_succ]
      refine wpAnyH_ready (rs := [3, 5]) (by kernel_rfl) (by simp) ?_
      refine AllReadyH.cons (o := { dst := some 27, op := Go.Op.call { callee := Go.Callee.value (Go.Operand.func 17), args := #[Go.Operand.tmp 26], argTypes := #[43] }, type := 27, pos := "exact.go:2811", after := #[{ on := 2, ground := Go.Ground.data }, { on := 1, ground := Go.Ground.chain }], guard := none }) rfl (fun K hK => ?_) (AllReadyH.cons (o := { dst := some 6, op := Go.Op.alloc 31, type := 0, pos := "exact.go:2811", after := #[], guard := none }) rfl (fun K hK => ?_) AllReadyH.nil)
      · go_simp
        go_at_call 17
        refine (to_Write _ x1 _ ((unhide HA1).reads.later hHeld) (unhide HN1)).mono ?_
        rintro e X4 ⟨vT1, rfl, OT, hbw⟩
        have rt1 := OT.reads
        obtain ⟨a2T1, d2T1, rfl, -⟩ := open_Write rt1
        replace rt0 := rt0.later hbw
        clear OT
        try go_wp2_with fail
        refine hK.out _ _ (hHeld.trans (hbw.mono hHeld.size)) (fun hHeld => ?_)
        clear hK K hbw
        try simp only [Act.put, List.setIfInBounds_toArray, List.set_cons_zero, List.set_cons_succ]
        refine wpAnyH_ready (rs := [4, 5]) (by kernel_rfl) (by simp) ?_
        refine AllReadyH.cons (o := { dst := some 28, op := Go.Op.call { callee := Go.Callee.value (Go.Operand.func 8), args := #[Go.Operand.tmp 25, Go.Operand.tmp 27], argTypes := #[24, 27] }, type := 31, pos := "exact.go:2811", after := #[{ on := 1, ground := Go.Ground.data }, { on := 3, ground := Go.Ground.data }, { on := 3, ground := Go.Ground.chain }], guard := none }) rfl (fun K hK => ?_) (AllReadyH.cons (o := { dst := some 6, op := Go.Op.alloc 31, type := 0, pos := "exact.go:2811", after := #[], guard := none }) rfl (fun K hK => ?_) AllReadyH.nil)
        · go_simp
          go_at_call 8
          refine (unhide HS _ _ _ (((unhide HT).later (unhide HB)).later hHeld) rt0 rt1).mono ?_
          rintro e X5 ⟨cs, rfl, O, hbw⟩
          obtain ⟨a3W, d3W, rfl, -⟩ := open_OnceResult O.reads
          have hz9 := hbw.size
          have rd := O
          clear O
          try go_wp2_with fail
          refine hK.out _ _ (hHeld.trans (hbw.mono hHeld.size)) (fun hHeld => ?_)
          clear hK K hbw hz9
          try simp only [Act.put, List.setIfInBounds_toArray, List.set_cons_zero, List.set_cons_succ]
          clear rt0 rt1
          refine wpAnyH_ready (rs := [5]) (by kernel_rfl) (by simp) ?_
          refine AllReadyH.cons (o := { dst := some 6, op := Go.Op.alloc 31, type := 0, pos := "exact.go:2811", after := #[], guard := none }) rfl (fun K hK => ?_) AllReadyH.nil
          have bx : Box w3.heap.size #[.int .i64 0, .bool false, .int .i64 0, .slice none 0 0] 31 (X5.alloc (.cells #[.int .i64 0, .bool false, .int .i64 0, .slice none 0 0] 31)) X5.heap.size := newBox hHeld.size
          have nbA : Below X5.heap.size X5 (X5.alloc (.cells #[.int .i64 0, .bool false, .int .i64 0, .slice none 0 0] 31)) := (Below.refl _ _).alloc (Nat.le_refl _) _
          replace rd := rd.later nbA
          have hNx := hHeld.trans (nbA.mono hHeld.size)
          go_simp
          refine hK.out _ _ hNx (fun hHeld => ?_)
          clear hK K hNx nbA
          try simp only [Act.put, List.setIfInBounds_toArray, List.set_cons_zero, List.set_cons_succ]
          generalize X5.alloc (.cells #[.int .i64 0, .bool false, .int .i64 0, .slice none 0 0] 31) = X6 at *
          refine wpAnyH_ready (rs := [6]) (by kernel_rfl) (by simp) ?_
          refine AllReadyH.cons (o := { dst := none, op := Go.Op.store 31 (Go.Operand.tmp 6) (Go.Operand.tmp 28), type := 0, pos := "exact.go:2811", after := #[{ on := 5, ground := Go.Ground.data }, { on := 4, ground := Go.Ground.data }, { on := 4, ground := Go.Ground.chain }, { on := 0, ground := Go.Ground.phase }, { on := 1, ground := Go.Ground.phase }, { on := 2, ground := Go.Ground.phase }, { on := 3, ground := Go.Ground.phase }, { on := 4, ground := Go.Ground.phase }, { on := 5, ground := Go.Ground.phase }], guard := none }) rfl (fun K hK => ?_) AllReadyH.nil
          have z0 : X6.cell? ⟨X5.heap.size, 0, none⟩ = some (.int .i64 0) := bx.at 0 _ rfl
          have f0 := bx.soft 0
          have z1 : X6.cell? ⟨X5.heap.size, 1, none⟩ = some (.bool false) := bx.at 1 _ rfl
          have f1 := bx.soft 1
          have z2 : X6.cell? ⟨X5.heap.size, 2, none⟩ = some (.int .i64 0) := bx.at 2 _ rfl
          have f2 := bx.soft 2
          have z3 : X6.cell? ⟨X5.heap.size, 3, none⟩ = some (.slice none 0 0) := bx.at 3 _ rfl
          have f3 := bx.soft 3
          have l0 := bx.lt
          have bx9 : Box w3.heap.size #[.int .i64 y.code, .bool y.isNew, .int .i64 y.place, .slice a3W y.writes.length d3W] 31 ((((X6.setCell ⟨X5.heap.size, 0, none⟩ (.int .i64 y.code)).setCell ⟨X5.heap.size, 1, none⟩ (.bool y.isNew)).setCell ⟨X5.heap.size, 2, none⟩ (.int .i64 y.place)).setCell ⟨X5.heap.size, 3, none⟩ (.slice a3W y.writes.length d3W)) X5.heap.size := ((((bx.set 0 (.int .i64 y.code)).set 1 (.bool y.isNew)).set 2 (.int .i64 y.place)).set 3 (.slice a3W y.writes.length d3W))
          have hE9 : Ext (fun c => c = X5.heap.size) X6 ((((X6.setCell ⟨X5.heap.size, 0, none⟩ (.int .i64 y.code)).setCell ⟨X5.heap.size, 1, none⟩ (.bool y.isNew)).setCell ⟨X5.heap.size, 2, none⟩ (.int .i64 y.place)).setCell ⟨X5.heap.size, 3, none⟩ (.slice a3W y.writes.length d3W)) := (((((Ext.refl (fun c => c = X5.heap.size) _).setCell ⟨X5.heap.size, 0, none⟩ (.int .i64 y.code) rfl).setCell ⟨X5.heap.size, 1, none⟩ (.bool y.isNew) rfl).setCell ⟨X5.heap.size, 2, none⟩ (.int .i64 y.place) rfl).setCell ⟨X5.heap.size, 3, none⟩ (.slice a3W y.writes.length d3W) rfl)
          have rd9 := (rd.ext hE9 (fun c h1 h2 h3 => by omega)).reads
          have hH9 : Below w3.heap.size w3 ((((X6.setCell ⟨X5.heap.size, 0, none⟩ (.int .i64 y.code)).setCell ⟨X5.heap.size, 1, none⟩ (.bool y.isNew)).setCell ⟨X5.heap.size, 2, none⟩ (.int .i64 y.place)).setCell ⟨X5.heap.size, 3, none⟩ (.slice a3W y.writes.length d3W)) := ((((hHeld.setCell (by simpa using bx.1) (.int .i64 y.code)).setCell (by simpa using bx.1) (.bool y.isNew)).setCell (by simpa using bx.1) (.int .i64 y.place)).setCell (by simpa using bx.1) (.slice a3W y.writes.length d3W))
          clear bx rd hE9
          have bx := bx9
          have rd := rd9
          clear bx9 rd9
          go_simp
          refine hK.out _ _ hH9 (fun hHeld => ?_)
          clear hK K hH9 l0 z0 f0 z1 f1 z2 f2 z3 f3
          try simp only [Act.put, List.setIfInBounds_toArray, List.set_cons_zero, List.set_cons_succ]
          refine wpAnyH_done (by kernel_rfl) ?_ _
          refine NoPanic.normal ?_
          have HH := hide hHeld
          have HBX := hide bx
          have HRD := hide rd
          clear hHeld bx rd
          go_wp2_with fail
          go_meet
          exact ⟨_, _, _, rfl, (unhide HBX).lt, unhide HBX, unhide HRD, unhide HH⟩
        · have bx : Box w3.heap.size #[.int .i64 0, .bool false, .int .i64 0, .slice none 0 0] 31 (X4.alloc (.cells #[.int .i64 0, .bool false, .int .i64 0, .slice none 0 0] 31)) X4.heap.size := newBox hHeld.size
          have nbA : Below X4.heap.size X4 (X4.alloc (.cells #[.int .i64 0, .bool false, .int .i64 0, .slice none 0 0] 31)) := (Below.refl _ _).alloc (Nat.le_refl _) _
          replace rt0 := rt0.later nbA
          replace rt1 := rt1.later nbA
          have hNx := hHeld.trans (nbA.mono hHeld.size)
          go_simp
          refine hK.out _ _ hNx (fun hHeld => ?_)
          clear hK K hNx nbA
          try simp only [Act.put, List.setIfInBounds_toArray, List.set_cons_zero, List.set_cons_succ]
          generalize X4.alloc (.cells #[.int .i64 0, .bool false, .int .i64 0, .slice none 0 0] 31) = X8 at *
          refine wpAnyH_ready (rs := [4]) (by kernel_rfl) (by simp) ?_
          refine AllReadyH.cons (o := { dst := some 28, op := Go.Op.call { callee := Go.Callee.value (Go.Operand.func 8), args := #[Go.Operand.tmp 25, Go.Operand.tmp 27], argTypes := #[24, 27] }, type := 31, pos := "exact.go:2811", after := #[{ on := 1, ground := Go.Ground.data }, { on := 3, ground := Go.Ground.data }, { on := 3, ground := Go.Ground.chain }], guard := none }) rfl (fun K hK => ?_) AllReadyH.nil
          go_simp
          go_at_call 8
          refine (unhide HS _ _ _ (((unhide HT).later (unhide HB)).later hHeld) rt0 rt1).mono ?_
          rintro e X9 ⟨cs, rfl, O, hbw⟩
          obtain ⟨a3W, d3W, rfl, -⟩ := open_OnceResult O.reads
          have hs0 := bx.lt
          replace bx := bx.keep hbw
          have hz9 := hbw.size
          have rd := O
          clear O
          replace rd := rd.mono (lo' := X4.heap.size + 1) (by omega) (Nat.le_refl _)
          clear hs0
          try go_wp2_with fail
          refine hK.out _ _ (hHeld.trans (hbw.mono hHeld.size)) (fun hHeld => ?_)
          clear hK K hbw hz9
          try simp only [Act.put, List.setIfInBounds_toArray, List.set_cons_zero, List.set_cons_succ]
          clear rt0 rt1
          refine wpAnyH_ready (rs := [6]) (by kernel_rfl) (by simp) ?_
          refine AllReadyH.cons (o := { dst := none, op := Go.Op.store 31 (Go.Operand.tmp 6) (Go.Operand.tmp 28), type := 0, pos := "exact.go:2811", after := #[{ on := 5, ground := Go.Ground.data }, { on := 4, ground := Go.Ground.data }, { on := 4, ground := Go.Ground.chain }, { on := 0, ground := Go.Ground.phase }, { on := 1, ground := Go.Ground.phase }, { on := 2, ground := Go.Ground.phase }, { on := 3, ground := Go.Ground.phase }, { on := 4, ground := Go.Ground.phase }, { on := 5, ground := Go.Ground.phase }], guard := none }) rfl (fun K hK => ?_) AllReadyH.nil
          have z0 : X9.cell? ⟨X4.heap.size, 0, none⟩ = some (.int .i64 0) := bx.at 0 _ rfl
          have f0 := bx.soft 0
          have z1 : X9.cell? ⟨X4.heap.size, 1, none⟩ = some (.bool false) := bx.at 1 _ rfl
          have f1 := bx.soft 1
          have z2 : X9.cell? ⟨X4.heap.size, 2, none⟩ = some (.int .i64 0) := bx.at 2 _ rfl
          have f2 := bx.soft 2
          have z3 : X9.cell? ⟨X4.heap.size, 3, none⟩ = some (.slice none 0 0) := bx.at 3 _ rfl
          have f3 := bx.soft 3
          have l0 := bx.lt
          have bx9 : Box w3.heap.size #[.int .i64 y.code, .bool y.isNew, .int .i64 y.place, .slice a3W y.writes.length d3W] 31 ((((X9.setCell ⟨X4.heap.size, 0, none⟩ (.int .i64 y.code)).setCell ⟨X4.heap.size, 1, none⟩ (.bool y.isNew)).setCell ⟨X4.heap.size, 2, none⟩ (.int .i64 y.place)).setCell ⟨X4.heap.size, 3, none⟩ (.slice a3W y.writes.length d3W)) X4.heap.size := ((((bx.set 0 (.int .i64 y.code)).set 1 (.bool y.isNew)).set 2 (.int .i64 y.place)).set 3 (.slice a3W y.writes.length d3W))
          have hE9 : Ext (fun c => c = X4.heap.size) X9 ((((X9.setCell ⟨X4.heap.size, 0, none⟩ (.int .i64 y.code)).setCell ⟨X4.heap.size, 1, none⟩ (.bool y.isNew)).setCell ⟨X4.heap.size, 2, none⟩ (.int .i64 y.place)).setCell ⟨X4.heap.size, 3, none⟩ (.slice a3W y.writes.length d3W)) := (((((Ext.refl (fun c => c = X4.heap.size) _).setCell ⟨X4.heap.size, 0, none⟩ (.int .i64 y.code) rfl).setCell ⟨X4.heap.size, 1, none⟩ (.bool y.isNew) rfl).setCell ⟨X4.heap.size, 2, none⟩ (.int .i64 y.place) rfl).setCell ⟨X4.heap.size, 3, none⟩ (.slice a3W y.writes.length d3W) rfl)
          have rd9 := (rd.ext hE9 (fun c h1 h2 h3 => by omega)).reads
          have hH9 : Below w3.heap.size w3 ((((X9.setCell ⟨X4.heap.size, 0, none⟩ (.int .i64 y.code)).setCell ⟨X4.heap.size, 1, none⟩ (.bool y.isNew)).setCell ⟨X4.heap.size, 2, none⟩ (.int .i64 y.place)).setCell ⟨X4.heap.size, 3, none⟩ (.slice a3W y.writes.length d3W)) := ((((hHeld.setCell (by simpa using bx.1) (.int .i64 y.code)).setCell (by simpa using bx.1) (.bool y.isNew)).setCell (by simpa using bx.1) (.int .i64 y.place)).setCell (by simpa using bx.1) (.slice a3W y.writes.length d3W))
          clear bx rd hE9
          have bx := bx9
          have rd := rd9
          clear bx9 rd9
          go_simp
          refine hK.out _ _ hH9 (fun hHeld => ?_)
          clear hK K hH9 l0 z0 f0 z1 f1 z2 f2 z3 f3
          try simp only [Act.put, List.setIfInBounds_toArray, List.set_cons_zero, List.set_cons_succ]
          refine wpAnyH_done (by kernel_rfl) ?_ _
          refine NoPanic.normal ?_
          have HH := hide hHeld
          have HBX := hide bx
          have HRD := hide rd
          clear hHeld bx rd
          go_wp2_with fail
          go_meet
          exact ⟨_, _, _, rfl, (unhide HBX).lt, unhide HBX, unhide HRD, unhide HH⟩
      · have bx : Box w3.heap.size #[.int .i64 0, .bool false, .int .i64 0, .slice none 0 0] 31 (X3.alloc (.cells #[.int .i64 0, .bool false, .int .i64 0, .slice none 0 0] 31)) X3.heap.size := newBox hHeld.size
        have nbA : Below X3.heap.size X3 (X3.alloc (.cells #[.int .i64 0, .bool false, .int .i64 0, .slice none 0 0] 31)) := (Below.refl _ _).alloc (Nat.le_refl _) _
        replace rt0 := rt0.later nbA
        have hNx := hHeld.trans (nbA.mono hHeld.size)
        go_simp
        refine hK.out _ _ hNx (fun hHeld => ?_)
        clear hK K hNx nbA
        try simp only [Act.put, List.setIfInBounds_toArray, List.set_cons_zero, List.set_cons_succ]
        generalize X3.alloc (.cells #[.int .i64 0, .bool false, .int .i64 0, .slice none 0 0] 31) = X11 at *
        refine wpAnyH_ready (rs := [3]) (by kernel_rfl) (by simp) ?_
        refine AllReadyH.cons (o := { dst := some 27, op := Go.Op.call { callee := Go.Callee.value (Go.Operand.func 17), args := #[Go.Operand.tmp 26], argTypes := #[43] }, type := 27, pos := "exact.go:2811", after := #[{ on := 2, ground := Go.Ground.data }, { on := 1, ground := Go.Ground.chain }], guard := none }) rfl (fun K hK => ?_) AllReadyH.nil
        go_simp
        go_at_call 17
        refine (to_Write _ x1 _ ((unhide HA1).reads.later hHeld) (unhide HN1)).mono ?_
        rintro e X12 ⟨vT1, rfl, OT, hbw⟩
        have rt1 := OT.reads
        obtain ⟨a2T1, d2T1, rfl, -⟩ := open_Write rt1
        replace rt0 := rt0.later hbw
        replace bx := bx.keep hbw
        clear OT
        try go_wp2_with fail
        refine hK.out _ _ (hHeld.trans (hbw.mono hHeld.size)) (fun hHeld => ?_)
        clear hK K hbw
        try simp only [Act.put, List.setIfInBounds_toArray, List.set_cons_zero, List.set_cons_succ]
        refine wpAnyH_ready (rs := [4]) (by kernel_rfl) (by simp) ?_
        refine AllReadyH.cons (o := { dst := some 28, op := Go.Op.call { callee := Go.Callee.value (Go.Operand.func 8), args := #[Go.Operand.tmp 25, Go.Operand.tmp 27], argTypes := #[24, 27] }, type := 31, pos := "exact.go:2811", after := #[{ on := 1, ground := Go.Ground.data }, { on := 3, ground := Go.Ground.data }, { on := 3, ground := Go.Ground.chain }], guard := none }) rfl (fun K hK => ?_) AllReadyH.nil
        go_simp
        go_at_call 8
        refine (unhide HS _ _ _ (((unhide HT).later (unhide HB)).later hHeld) rt0 rt1).mono ?_
        rintro e X13 ⟨cs, rfl, O, hbw⟩
        obtain ⟨a3W, d3W, rfl, -⟩ := open_OnceResult O.reads
        have hs0 := bx.lt
        replace bx := bx.keep hbw
        have hz9 := hbw.size
        have rd := O
        clear O
        replace rd := rd.mono (lo' := X3.heap.size + 1) (by omega) (Nat.le_refl _)
        clear hs0
        try go_wp2_with fail
        refine hK.out _ _ (hHeld.trans (hbw.mono hHeld.size)) (fun hHeld => ?_)
        clear hK K hbw hz9
        try simp only [Act.put, List.setIfInBounds_toArray, List.set_cons_zero, List.set_cons_succ]
        clear rt0 rt1
        refine wpAnyH_ready (rs := [6]) (by kernel_rfl) (by simp) ?_
        refine AllReadyH.cons (o := { dst := none, op := Go.Op.store 31 (Go.Operand.tmp 6) (Go.Operand.tmp 28), type := 0, pos := "exact.go:2811", after := #[{ on := 5, ground := Go.Ground.data }, { on := 4, ground := Go.Ground.data }, { on := 4, ground := Go.Ground.chain }, { on := 0, ground := Go.Ground.phase }, { on := 1, ground := Go.Ground.phase }, { on := 2, ground := Go.Ground.phase }, { on := 3, ground := Go.Ground.phase }, { on := 4, ground := Go.Ground.phase }, { on := 5, ground := Go.Ground.phase }], guard := none }) rfl (fun K hK => ?_) AllReadyH.nil
        have z0 : X13.cell? ⟨X3.heap.size, 0, none⟩ = some (.int .i64 0) := bx.at 0 _ rfl
        have f0 := bx.soft 0
        have z1 : X13.cell? ⟨X3.heap.size, 1, none⟩ = some (.bool false) := bx.at 1 _ rfl
        have f1 := bx.soft 1
        have z2 : X13.cell? ⟨X3.heap.size, 2, none⟩ = some (.int .i64 0) := bx.at 2 _ rfl
        have f2 := bx.soft 2
        have z3 : X13.cell? ⟨X3.heap.size, 3, none⟩ = some (.slice none 0 0) := bx.at 3 _ rfl
        have f3 := bx.soft 3
        have l0 := bx.lt
        have bx9 : Box w3.heap.size #[.int .i64 y.code, .bool y.isNew, .int .i64 y.place, .slice a3W y.writes.length d3W] 31 ((((X13.setCell ⟨X3.heap.size, 0, none⟩ (.int .i64 y.code)).setCell ⟨X3.heap.size, 1, none⟩ (.bool y.isNew)).setCell ⟨X3.heap.size, 2, none⟩ (.int .i64 y.place)).setCell ⟨X3.heap.size, 3, none⟩ (.slice a3W y.writes.length d3W)) X3.heap.size := ((((bx.set 0 (.int .i64 y.code)).set 1 (.bool y.isNew)).set 2 (.int .i64 y.place)).set 3 (.slice a3W y.writes.length d3W))
        have hE9 : Ext (fun c => c = X3.heap.size) X13 ((((X13.setCell ⟨X3.heap.size, 0, none⟩ (.int .i64 y.code)).setCell ⟨X3.heap.size, 1, none⟩ (.bool y.isNew)).setCell ⟨X3.heap.size, 2, none⟩ (.int .i64 y.place)).setCell ⟨X3.heap.size, 3, none⟩ (.slice a3W y.writes.length d3W)) := (((((Ext.refl (fun c => c = X3.heap.size) _).setCell ⟨X3.heap.size, 0, none⟩ (.int .i64 y.code) rfl).setCell ⟨X3.heap.size, 1, none⟩ (.bool y.isNew) rfl).setCell ⟨X3.heap.size, 2, none⟩ (.int .i64 y.place) rfl).setCell ⟨X3.heap.size, 3, none⟩ (.slice a3W y.writes.length d3W) rfl)
        have rd9 := (rd.ext hE9 (fun c h1 h2 h3 => by omega)).reads
        have hH9 : Below w3.heap.size w3 ((((X13.setCell ⟨X3.heap.size, 0, none⟩ (.int .i64 y.code)).setCell ⟨X3.heap.size, 1, none⟩ (.bool y.isNew)).setCell ⟨X3.heap.size, 2, none⟩ (.int .i64 y.place)).setCell ⟨X3.heap.size, 3, none⟩ (.slice a3W y.writes.length d3W)) := ((((hHeld.setCell (by simpa using bx.1) (.int .i64 y.code)).setCell (by simpa using bx.1) (.bool y.isNew)).setCell (by simpa using bx.1) (.int .i64 y.place)).setCell (by simpa using bx.1) (.slice a3W y.writes.length d3W))
        clear bx rd hE9
        have bx := bx9
        have rd := rd9
        clear bx9 rd9
        go_simp
        refine hK.out _ _ hH9 (fun hHeld => ?_)
        clear hK K hH9 l0 z0 f0 z1 f1 z2 f2 z3 f3
        try simp only [Act.put, List.setIfInBounds_toArray, List.set_cons_zero, List.set_cons_succ]
        refine wpAnyH_done (by kernel_rfl) ?_ _
        refine NoPanic.normal ?_
        have HH := hide hHeld
        have HBX := hide bx
        have HRD := hide rd
        clear hHeld bx rd
        go_wp2_with fail
        go_meet
        exact ⟨_, _, _, rfl, (unhide HBX).lt, unhide HBX, unhide HRD, unhide HH⟩
    · have bx : Box w3.heap.size #[.int .i64 0, .bool false, .int .i64 0, .slice none 0 0] 31 (X0.alloc (.cells #[.int .i64 0, .bool false, .int .i64 0, .slice none 0 0] 31)) X0.heap.size := newBox hHeld.size
      have nbA : Below X0.heap.size X0 (X0.alloc (.cells #[.int .i64 0, .bool false, .int .i64 0, .slice none 0 0] 31)) := (Below.refl _ _).alloc (Nat.le_refl _) _
      have hNx := hHeld.trans (nbA.mono hHeld.size)
      go_simp
      refine hK.out _ _ hNx (fun hHeld => ?_)
      clear hK K hNx nbA
      try simp only [Act.put, List.setIfInBounds_toArray, List.set_cons_zero, List.set_cons_succ]
      generalize X0.alloc (.cells #[.int .i64 0, .bool false, .int .i64 0, .slice none 0 0] 31) = X15 at *
      refine wpAnyH_ready (rs := [1]) (by kernel_rfl) (by simp) ?_
      refine AllReadyH.cons (o := { dst := some 25, op := Go.Op.call { callee := Go.Callee.value (Go.Operand.func 16), args := #[Go.Operand.tmp 24], argTypes := #[42] }, type := 24, pos := "exact.go:2811", after := #[{ on := 0, ground := Go.Ground.data }], guard := none }) rfl (fun K hK => ?_) AllReadyH.nil
      go_simp
      go_at_call 16
      refine (to_WriteS _ x0 _ ((unhide HA0).reads.later hHeld) (unhide HN0)).mono ?_
      rintro e X16 ⟨vT0, rfl, OT, hbw⟩
      have rt0 := OT.reads
      obtain ⟨aoT0, cpT0, rfl⟩ := open_sl rt0
      replace bx := bx.keep hbw
      clear OT
      try go_wp2_with fail
      refine hK.out _ _ (hHeld.trans (hbw.mono hHeld.size)) (fun hHeld => ?_)
      clear hK K hbw
      try simp only [Act.put, List.setIfInBounds_toArray, List.set_cons_zero, List.set_cons_succ]
      refine wpAnyH_ready (rs := [3]) (by kernel_rfl) (by simp) ?_
      refine AllReadyH.cons (o := { dst := some 27, op := Go.Op.call { callee := Go.Callee.value (Go.Operand.func 17), args := #[Go.Operand.tmp 26], argTypes := #[43] }, type := 27, pos := "exact.go:2811", after := #[{ on := 2, ground := Go.Ground.data }, { on := 1, ground := Go.Ground.chain }], guard := none }) rfl (fun K hK => ?_) AllReadyH.nil
      go_simp
      go_at_call 17
      refine (to_Write _ x1 _ ((unhide HA1).reads.later hHeld) (unhide HN1)).mono ?_
      rintro e X17 ⟨vT1, rfl, OT, hbw⟩
      have rt1 := OT.reads
      obtain ⟨a2T1, d2T1, rfl, -⟩ := open_Write rt1
      replace rt0 := rt0.later hbw
      replace bx := bx.keep hbw
      clear OT
      try go_wp2_with fail
      refine hK.out _ _ (hHeld.trans (hbw.mono hHeld.size)) (fun hHeld => ?_)
      clear hK K hbw
      try simp only [Act.put, List.setIfInBounds_toArray, List.set_cons_zero, List.set_cons_succ]
      refine wpAnyH_ready (rs := [4]) (by kernel_rfl) (by simp) ?_
      refine AllReadyH.cons (o := { dst := some 28, op := Go.Op.call { callee := Go.Callee.value (Go.Operand.func 8), args := #[Go.Operand.tmp 25, Go.Operand.tmp 27], argTypes := #[24, 27] }, type := 31, pos := "exact.go:2811", after := #[{ on := 1, ground := Go.Ground.data }, { on := 3, ground := Go.Ground.data }, { on := 3, ground := Go.Ground.chain }], guard := none }) rfl (fun K hK => ?_) AllReadyH.nil
      go_simp
      go_at_call 8
      refine (unhide HS _ _ _ (((unhide HT).later (unhide HB)).later hHeld) rt0 rt1).mono ?_
      rintro e X18 ⟨cs, rfl, O, hbw⟩
      obtain ⟨a3W, d3W, rfl, -⟩ := open_OnceResult O.reads
      have hs0 := bx.lt
      replace bx := bx.keep hbw
      have hz9 := hbw.size
      have rd := O
      clear O
      replace rd := rd.mono (lo' := X0.heap.size + 1) (by omega) (Nat.le_refl _)
      clear hs0
      try go_wp2_with fail
      refine hK.out _ _ (hHeld.trans (hbw.mono hHeld.size)) (fun hHeld => ?_)
      clear hK K hbw hz9
      try simp only [Act.put, List.setIfInBounds_toArray, List.set_cons_zero, List.set_cons_succ]
      clear rt0 rt1
      refine wpAnyH_ready (rs := [6]) (by kernel_rfl) (by simp) ?_
      refine AllReadyH.cons (o := { dst := none, op := Go.Op.store 31 (Go.Operand.tmp 6) (Go.Operand.tmp 28), type := 0, pos := "exact.go:2811", after := #[{ on := 5, ground := Go.Ground.data }, { on := 4, ground := Go.Ground.data }, { on := 4, ground := Go.Ground.chain }, { on := 0, ground := Go.Ground.phase }, { on := 1, ground := Go.Ground.phase }, { on := 2, ground := Go.Ground.phase }, { on := 3, ground := Go.Ground.phase }, { on := 4, ground := Go.Ground.phase }, { on := 5, ground := Go.Ground.phase }], guard := none }) rfl (fun K hK => ?_) AllReadyH.nil
      have z0 : X18.cell? ⟨X0.heap.size, 0, none⟩ = some (.int .i64 0) := bx.at 0 _ rfl
      have f0 := bx.soft 0
      have z1 : X18.cell? ⟨X0.heap.size, 1, none⟩ = some (.bool false) := bx.at 1 _ rfl
      have f1 := bx.soft 1
      have z2 : X18.cell? ⟨X0.heap.size, 2, none⟩ = some (.int .i64 0) := bx.at 2 _ rfl
      have f2 := bx.soft 2
      have z3 : X18.cell? ⟨X0.heap.size, 3, none⟩ = some (.slice none 0 0) := bx.at 3 _ rfl
      have f3 := bx.soft 3
      have l0 := bx.lt
      have bx9 : Box w3.heap.size #[.int .i64 y.code, .bool y.isNew, .int .i64 y.place, .slice a3W y.writes.length d3W] 31 ((((X18.setCell ⟨X0.heap.size, 0, none⟩ (.int .i64 y.code)).setCell ⟨X0.heap.size, 1, none⟩ (.bool y.isNew)).setCell ⟨X0.heap.size, 2, none⟩ (.int .i64 y.place)).setCell ⟨X0.heap.size, 3, none⟩ (.slice a3W y.writes.length d3W)) X0.heap.size := ((((bx.set 0 (.int .i64 y.code)).set 1 (.bool y.isNew)).set 2 (.int .i64 y.place)).set 3 (.slice a3W y.writes.length d3W))
      have hE9 : Ext (fun c => c = X0.heap.size) X18 ((((X18.setCell ⟨X0.heap.size, 0, none⟩ (.int .i64 y.code)).setCell ⟨X0.heap.size, 1, none⟩ (.bool y.isNew)).setCell ⟨X0.heap.size, 2, none⟩ (.int .i64 y.place)).setCell ⟨X0.heap.size, 3, none⟩ (.slice a3W y.writes.length d3W)) := (((((Ext.refl (fun c => c = X0.heap.size) _).setCell ⟨X0.heap.size, 0, none⟩ (.int .i64 y.code) rfl).setCell ⟨X0.heap.size, 1, none⟩ (.bool y.isNew) rfl).setCell ⟨X0.heap.size, 2, none⟩ (.int .i64 y.place) rfl).setCell ⟨X0.heap.size, 3, none⟩ (.slice a3W y.writes.length d3W) rfl)
      have rd9 := (rd.ext hE9 (fun c h1 h2 h3 => by omega)).reads
      have hH9 : Below w3.heap.size w3 ((((X18.setCell ⟨X0.heap.size, 0, none⟩ (.int .i64 y.code)).setCell ⟨X0.heap.size, 1, none⟩ (.bool y.isNew)).setCell ⟨X0.heap.size, 2, none⟩ (.int .i64 y.place)).setCell ⟨X0.heap.size, 3, none⟩ (.slice a3W y.writes.length d3W)) := ((((hHeld.setCell (by simpa using bx.1) (.int .i64 y.code)).setCell (by simpa using bx.1) (.bool y.isNew)).setCell (by simpa using bx.1) (.int .i64 y.place)).setCell (by simpa using bx.1) (.slice a3W y.writes.length d3W))
      clear bx rd hE9
      have bx := bx9
      have rd := rd9
      clear bx9 rd9
      go_simp
      refine hK.out _ _ hH9 (fun hHeld => ?_)
      clear hK K hH9 l0 z0 f0 z1 f1 z2 f2 z3 f3
      try simp only [Act.put, List.setIfInBounds_toArray, List.set_cons_zero, List.set_cons_succ]
      refine wpAnyH_done (by kernel_rfl) ?_ _
      refine NoPanic.normal ?_
      have HH := hide hHeld
      have HBX := hide bx
      have HRD := hide rd
      clear hHeld bx rd
      go_wp2_with fail
      go_meet
      exact ⟨_, _, _, rfl, (unhide HBX).lt, unhide HBX, unhide HRD, unhide HH⟩
  case rest =>
  obtain ⟨sW, a3W, d3W, rfl, hsW, YB, O, hb⟩ := hcut
  obtain ⟨w4, hww4⟩ : ∃ q, q = wc := ⟨_, rfl⟩
  subst hww4
  clear l0P1 l1P1 l2P1 l3P1 l4P1 ltP1
  replace HA0 := hide ((unhide HA0).later hb)
  replace HA1 := hide ((unhide HA1).later hb)
  replace P1 := hide ((unhide P1).keep hb)
  have Zw4 : w3.heap.size ≤ w4.heap.size := hb.size
  replace HB := hide ((unhide HB).trans (hb.mono (by omega)))
  clear hb
  have YW := hide YB
  have HW := hide O.liesIn
  clear YB O
  have l0P1 := (unhide P1).at 0 _ rfl
  have l1P1 := (unhide P1).at 1 _ rfl
  have l2P1 := (unhide P1).at 2 _ rfl
  have l3P1 := (unhide P1).at 3 _ rfl
  have l4P1 := (unhide P1).at 4 _ rfl
  have ltP1 : w.heap.size < w4.heap.size := by omega
  have l0YW := (unhide YW).at 0 _ rfl
  have l1YW := (unhide YW).at 1 _ rfl
  have l2YW := (unhide YW).at 2 _ rfl
  have l3YW := (unhide YW).at 3 _ rfl
  have ltYW : sW < w4.heap.size := by omega
  simp only [List.getElem_toArray, List.getElem_cons_zero, List.getElem_cons_succ] at l0P1 l1P1 l2P1 l3P1 l4P1 l0YW l1YW l2YW l3YW
  go_wp2_with fail
  clear l0P1 l1P1 l2P1 l3P1 l4P1 ltP1 l0YW l1YW l2YW l3YW ltYW
  refine (to_WriteS _ x0 w4 (unhide HA0).reads (unhide HN0)).mono ?_
  rintro e w5 ⟨vx0, rfl, O, hb⟩
  replace HA0 := hide ((unhide HA0).later hb)
  replace HA1 := hide ((unhide HA1).later hb)
  replace P1 := hide ((unhide P1).keep hb)
  replace HW := hide ((unhide HW).later hb)
  replace YW := hide ((unhide YW).keep hb)
  have Zw5 : w4.heap.size ≤ w5.heap.size := hb.size
  replace HB := hide ((unhide HB).trans (hb.mono (by omega)))
  clear hb
  obtain ⟨aox0, cpx0, rfl⟩ := open_sl O.reads
  have Hx0 := hide O
  clear O
  have l0P1 := (unhide P1).at 0 _ rfl
  have l1P1 := (unhide P1).at 1 _ rfl
  have l2P1 := (unhide P1).at 2 _ rfl
  have l3P1 := (unhide P1).at 3 _ rfl
  have l4P1 := (unhide P1).at 4 _ rfl
  have ltP1 : w.heap.size < w5.heap.size := by omega
  have l0YW := (unhide YW).at 0 _ rfl
  have l1YW := (unhide YW).at 1 _ rfl
  have l2YW := (unhide YW).at 2 _ rfl
  have l3YW := (unhide YW).at 3 _ rfl
  have ltYW : sW < w5.heap.size := by omega
  simp only [List.getElem_toArray, List.getElem_cons_zero, List.getElem_cons_succ] at l0P1 l1P1 l2P1 l3P1 l4P1 l0YW l1YW l2YW l3YW
  go_wp2_with fail
  clear l0P1 l1P1 l2P1 l3P1 l4P1 ltP1 l0YW l1YW l2YW l3YW ltYW
  refine (to_Write _ x1 w5 (unhide HA1).reads (unhide HN1)).mono ?_
  rintro e w6 ⟨vx1, rfl, O, hb⟩
  replace HA0 := hide ((unhide HA0).later hb)
  replace HA1 := hide ((unhide HA1).later hb)
  replace P1 := hide ((unhide P1).keep hb)
  replace HW := hide ((unhide HW).later hb)
  replace YW := hide ((unhide YW).keep hb)
  replace Hx0 := hide ((unhide Hx0).later hb)
  have Zw6 : w5.heap.size ≤ w6.heap.size := hb.size
  replace HB := hide ((unhide HB).trans (hb.mono (by omega)))
  clear hb
  obtain ⟨a2x1, d2x1, rfl, -⟩ := open_Write O.reads
  have Hx1 := hide O
  clear O
  have nb : Below w6.heap.size w6 (w6.alloc (.cells #[.int .i64 x1.kind, .int .i64 x1.id, .slice a2x1 x1.vec.length d2x1, .int .i64 x1.session, .int .i64 x1.seq] 27)) := (Below.refl _ _).alloc (Nat.le_refl _) _
  have X1 : Hid (Box w6.heap.size #[.int .i64 x1.kind, .int .i64 x1.id, .slice a2x1 x1.vec.length d2x1, .int .i64 x1.session, .int .i64 x1.seq] 27 (w6.alloc (.cells #[.int .i64 x1.kind, .int .i64 x1.id, .slice a2x1 x1.vec.length d2x1, .int .i64 x1.session, .int .i64 x1.seq] 27)) w6.heap.size) := newBox (Nat.le_refl _)
  have l0P1 := (unhide P1).at 0 _ rfl
  have l1P1 := (unhide P1).at 1 _ rfl
  have l2P1 := (unhide P1).at 2 _ rfl
  have l3P1 := (unhide P1).at 3 _ rfl
  have l4P1 := (unhide P1).at 4 _ rfl
  have ltP1 : w.heap.size < w6.heap.size := by omega
  have l0YW := (unhide YW).at 0 _ rfl
  have l1YW := (unhide YW).at 1 _ rfl
  have l2YW := (unhide YW).at 2 _ rfl
  have l3YW := (unhide YW).at 3 _ rfl
  have ltYW : sW < w6.heap.size := by omega
  simp only [List.getElem_toArray, List.getElem_cons_zero, List.getElem_cons_succ] at l0P1 l1P1 l2P1 l3P1 l4P1 l0YW l1YW l2YW l3YW
  go_wp2_with fail
  clear l0P1 l1P1 l2P1 l3P1 l4P1 ltP1 l0YW l1YW l2YW l3YW ltYW
  generalize haw7 : w6.alloc (.cells #[.int .i64 x1.kind, .int .i64 x1.id, .slice a2x1 x1.vec.length d2x1, .int .i64 x1.session, .int .i64 x1.seq] 27) = w7 at *
  have Gw7 : w6.heap.size < w7.heap.size := by rw [← haw7]; simp
  clear haw7
  replace HA0 := hide ((unhide HA0).later nb)
  replace HA1 := hide ((unhide HA1).later nb)
  replace P1 := hide ((unhide P1).keep nb)
  replace HW := hide ((unhide HW).later nb)
  replace YW := hide ((unhide YW).keep nb)
  replace Hx0 := hide ((unhide Hx0).later nb)
  replace Hx1 := hide ((unhide Hx1).later nb)
  have Zw7 : w6.heap.size ≤ w7.heap.size := nb.size
  replace HB := hide ((unhide HB).trans (nb.mono (by omega)))
  clear nb
  refine (unhide HI w7 _ _ ((unhide HT).later (unhide HB)) (unhide Hx0).reads (unhide Hx1).reads).mono ?_
  rintro e w8 ⟨cs, rfl, O, hb⟩
  replace HA0 := hide ((unhide HA0).later hb)
  replace HA1 := hide ((unhide HA1).later hb)
  replace P1 := hide ((unhide P1).keep hb)
  replace HW := hide ((unhide HW).later hb)
  replace YW := hide ((unhide YW).keep hb)
  replace Hx0 := hide ((unhide Hx0).later hb)
  replace Hx1 := hide ((unhide Hx1).later hb)
  replace X1 := hide ((unhide X1).keep hb)
  have Zw8 : w7.heap.size ≤ w8.heap.size := hb.size
  replace HB := hide ((unhide HB).trans (hb.mono (by omega)))
  clear hb
  obtain ⟨a3G, d3G, rfl, -⟩ := open_OnceResult O.reads
  have HG := hide O
  clear O
  have nb : Below w8.heap.size w8 (w8.alloc (.cells #[.int .i64 y.code, .bool y.isNew, .int .i64 y.place, .slice a3G y.writes.length d3G] 31)) := (Below.refl _ _).alloc (Nat.le_refl _) _
  have YG : Hid (Box w8.heap.size #[.int .i64 y.code, .bool y.isNew, .int .i64 y.place, .slice a3G y.writes.length d3G] 31 (w8.alloc (.cells #[.int .i64 y.code, .bool y.isNew, .int .i64 y.place, .slice a3G y.writes.length d3G] 31)) w8.heap.size) := newBox (Nat.le_refl _)
  have l0P1 := (unhide P1).at 0 _ rfl
  have l1P1 := (unhide P1).at 1 _ rfl
  have l2P1 := (unhide P1).at 2 _ rfl
  have l3P1 := (unhide P1).at 3 _ rfl
  have l4P1 := (unhide P1).at 4 _ rfl
  have ltP1 : w.heap.size < w8.heap.size := by omega
  have l0YW := (unhide YW).at 0 _ rfl
  have l1YW := (unhide YW).at 1 _ rfl
  have l2YW := (unhide YW).at 2 _ rfl
  have l3YW := (unhide YW).at 3 _ rfl
  have ltYW : sW < w8.heap.size := by omega
  have l0X1 := (unhide X1).at 0 _ rfl
  have l1X1 := (unhide X1).at 1 _ rfl
  have l2X1 := (unhide X1).at 2 _ rfl
  have l3X1 := (unhide X1).at 3 _ rfl
  have l4X1 := (unhide X1).at 4 _ rfl
  have ltX1 : w6.heap.size < w8.heap.size := by omega
  simp only [List.getElem_toArray, List.getElem_cons_zero, List.getElem_cons_succ] at l0P1 l1P1 l2P1 l3P1 l4P1 l0YW l1YW l2YW l3YW l0X1 l1X1 l2X1 l3X1 l4X1
  go_wp2_with fail
  clear l0P1 l1P1 l2P1 l3P1 l4P1 ltP1 l0YW l1YW l2YW l3YW ltYW l0X1 l1X1 l2X1 l3X1 l4X1 ltX1
  generalize haw9 : w8.alloc (.cells #[.int .i64 y.code, .bool y.isNew, .int .i64 y.place, .slice a3G y.writes.length d3G] 31) = w9 at *
  have Gw9 : w8.heap.size < w9.heap.size := by rw [← haw9]; simp
  clear haw9
  replace HA0 := hide ((unhide HA0).later nb)
  replace HA1 := hide ((unhide HA1).later nb)
  replace P1 := hide ((unhide P1).keep nb)
  replace HW := hide ((unhide HW).later nb)
  replace YW := hide ((unhide YW).keep nb)
  replace Hx0 := hide ((unhide Hx0).later nb)
  replace Hx1 := hide ((unhide Hx1).later nb)
  replace X1 := hide ((unhide X1).keep nb)
  replace HG := hide ((unhide HG).later nb)
  have Zw9 : w8.heap.size ≤ w9.heap.size := nb.size
  replace HB := hide ((unhide HB).trans (nb.mono (by omega)))
  clear nb
  refine (eq_OnceResult _ _ y w9 (unhide HG).reads (unhide HW).reads).mono ?_
  rintro e w10 ⟨rfl, hb⟩
  replace HA0 := hide ((unhide HA0).later hb)
  replace HA1 := hide ((unhide HA1).later hb)
  replace P1 := hide ((unhide P1).keep hb)
  replace HW := hide ((unhide HW).later hb)
  replace YW := hide ((unhide YW).keep hb)
  replace Hx0 := hide ((unhide Hx0).later hb)
  replace Hx1 := hide ((unhide Hx1).later hb)
  replace X1 := hide ((unhide X1).keep hb)
  replace HG := hide ((unhide HG).later hb)
  replace YG := hide ((unhide YG).keep hb)
  have Zw10 : w9.heap.size ≤ w10.heap.size := hb.size
  replace HB := hide ((unhide HB).trans (hb.mono (by omega)))
  clear hb
  have l0P1 := (unhide P1).at 0 _ rfl
  have l1P1 := (unhide P1).at 1 _ rfl
  have l2P1 := (unhide P1).at 2 _ rfl
  have l3P1 := (unhide P1).at 3 _ rfl
  have l4P1 := (unhide P1).at 4 _ rfl
  have ltP1 : w.heap.size < w10.heap.size := by omega
  have l0YW := (unhide YW).at 0 _ rfl
  have l1YW := (unhide YW).at 1 _ rfl
  have l2YW := (unhide YW).at 2 _ rfl
  have l3YW := (unhide YW).at 3 _ rfl
  have ltYW : sW < w10.heap.size := by omega
  have l0X1 := (unhide X1).at 0 _ rfl
  have l1X1 := (unhide X1).at 1 _ rfl
  have l2X1 := (unhide X1).at 2 _ rfl
  have l3X1 := (unhide X1).at 3 _ rfl
  have l4X1 := (unhide X1).at 4 _ rfl
  have ltX1 : w6.heap.size < w10.heap.size := by omega
  have l0YG := (unhide YG).at 0 _ rfl
  have l1YG := (unhide YG).at 1 _ rfl
  have l2YG := (unhide YG).at 2 _ rfl
  have l3YG := (unhide YG).at 3 _ rfl
  have ltYG : w8.heap.size < w10.heap.size := by omega
  simp only [List.getElem_toArray, List.getElem_cons_zero, List.getElem_cons_succ] at l0P1 l1P1 l2P1 l3P1 l4P1 l0YW l1YW l2YW l3YW l0X1 l1X1 l2X1 l3X1 l4X1 l0YG l1YG l2YG l3YG
  go_wp2_with fail
  clear l0P1 l1P1 l2P1 l3P1 l4P1 ltP1 l0YW l1YW l2YW l3YW ltYW l0X1 l1X1 l2X1 l3X1 l4X1 ltX1 l0YG l1YG l2YG l3YG ltYG
  refine (to_WriteS _ x0 w10 (unhide HA0).reads (unhide HN0)).mono ?_
  rintro e w11 ⟨vd0, rfl, O, hb⟩
  replace HA0 := hide ((unhide HA0).later hb)
  replace HA1 := hide ((unhide HA1).later hb)
  replace P1 := hide ((unhide P1).keep hb)
  replace HW := hide ((unhide HW).later hb)
  replace YW := hide ((unhide YW).keep hb)
  replace Hx0 := hide ((unhide Hx0).later hb)
  replace Hx1 := hide ((unhide Hx1).later hb)
  replace X1 := hide ((unhide X1).keep hb)
  replace HG := hide ((unhide HG).later hb)
  replace YG := hide ((unhide YG).keep hb)
  have Zw11 : w10.heap.size ≤ w11.heap.size := hb.size
  replace HB := hide ((unhide HB).trans (hb.mono (by omega)))
  clear hb
  obtain ⟨aod0, cpd0, rfl⟩ := open_sl O.reads
  have Hd0 := hide O
  clear O
  have l0P1 := (unhide P1).at 0 _ rfl
  have l1P1 := (unhide P1).at 1 _ rfl
  have l2P1 := (unhide P1).at 2 _ rfl
  have l3P1 := (unhide P1).at 3 _ rfl
  have l4P1 := (unhide P1).at 4 _ rfl
  have ltP1 : w.heap.size < w11.heap.size := by omega
  have l0YW := (unhide YW).at 0 _ rfl
  have l1YW := (unhide YW).at 1 _ rfl
  have l2YW := (unhide YW).at 2 _ rfl
  have l3YW := (unhide YW).at 3 _ rfl
  have ltYW : sW < w11.heap.size := by omega
  have l0X1 := (unhide X1).at 0 _ rfl
  have l1X1 := (unhide X1).at 1 _ rfl
  have l2X1 := (unhide X1).at 2 _ rfl
  have l3X1 := (unhide X1).at 3 _ rfl
  have l4X1 := (unhide X1).at 4 _ rfl
  have ltX1 : w6.heap.size < w11.heap.size := by omega
  have l0YG := (unhide YG).at 0 _ rfl
  have l1YG := (unhide YG).at 1 _ rfl
  have l2YG := (unhide YG).at 2 _ rfl
  have l3YG := (unhide YG).at 3 _ rfl
  have ltYG : w8.heap.size < w11.heap.size := by omega
  simp only [List.getElem_toArray, List.getElem_cons_zero, List.getElem_cons_succ] at l0P1 l1P1 l2P1 l3P1 l4P1 l0YW l1YW l2YW l3YW l0X1 l1X1 l2X1 l3X1 l4X1 l0YG l1YG l2YG l3YG
  go_wp2_with fail
  clear l0P1 l1P1 l2P1 l3P1 l4P1 ltP1 l0YW l1YW l2YW l3YW ltYW l0X1 l1X1 l2X1 l3X1 l4X1 ltX1 l0YG l1YG l2YG l3YG ltYG
  refine (eq_WriteS _ _ x0 w11 (unhide Hx0).reads (unhide Hd0).reads).mono ?_
  rintro e w12 ⟨rfl, hb⟩
  replace HA0 := hide ((unhide HA0).later hb)
  replace HA1 := hide ((unhide HA1).later hb)
  replace P1 := hide ((unhide P1).keep hb)
  replace HW := hide ((unhide HW).later hb)
  replace YW := hide ((unhide YW).keep hb)
  replace Hx0 := hide ((unhide Hx0).later hb)
  replace Hx1 := hide ((unhide Hx1).later hb)
  replace X1 := hide ((unhide X1).keep hb)
  replace HG := hide ((unhide HG).later hb)
  replace YG := hide ((unhide YG).keep hb)
  replace Hd0 := hide ((unhide Hd0).later hb)
  have Zw12 : w11.heap.size ≤ w12.heap.size := hb.size
  replace HB := hide ((unhide HB).trans (hb.mono (by omega)))
  clear hb
  clear Hd0
  have l0P1 := (unhide P1).at 0 _ rfl
  have l1P1 := (unhide P1).at 1 _ rfl
  have l2P1 := (unhide P1).at 2 _ rfl
  have l3P1 := (unhide P1).at 3 _ rfl
  have l4P1 := (unhide P1).at 4 _ rfl
  have ltP1 : w.heap.size < w12.heap.size := by omega
  have l0YW := (unhide YW).at 0 _ rfl
  have l1YW := (unhide YW).at 1 _ rfl
  have l2YW := (unhide YW).at 2 _ rfl
  have l3YW := (unhide YW).at 3 _ rfl
  have ltYW : sW < w12.heap.size := by omega
  have l0X1 := (unhide X1).at 0 _ rfl
  have l1X1 := (unhide X1).at 1 _ rfl
  have l2X1 := (unhide X1).at 2 _ rfl
  have l3X1 := (unhide X1).at 3 _ rfl
  have l4X1 := (unhide X1).at 4 _ rfl
  have ltX1 : w6.heap.size < w12.heap.size := by omega
  have l0YG := (unhide YG).at 0 _ rfl
  have l1YG := (unhide YG).at 1 _ rfl
  have l2YG := (unhide YG).at 2 _ rfl
  have l3YG := (unhide YG).at 3 _ rfl
  have ltYG : w8.heap.size < w12.heap.size := by omega
  simp only [List.getElem_toArray, List.getElem_cons_zero, List.getElem_cons_succ] at l0P1 l1P1 l2P1 l3P1 l4P1 l0YW l1YW l2YW l3YW l0X1 l1X1 l2X1 l3X1 l4X1 l0YG l1YG l2YG l3YG
  go_wp2_with fail
  clear l0P1 l1P1 l2P1 l3P1 l4P1 ltP1 l0YW l1YW l2YW l3YW ltYW l0X1 l1X1 l2X1 l3X1 l4X1 ltX1 l0YG l1YG l2YG l3YG ltYG
  have l0P1 := (unhide P1).at 0 _ rfl
  have l1P1 := (unhide P1).at 1 _ rfl
  have l2P1 := (unhide P1).at 2 _ rfl
  have l3P1 := (unhide P1).at 3 _ rfl
  have l4P1 := (unhide P1).at 4 _ rfl
  have ltP1 : w.heap.size < w12.heap.size := by omega
  have l0X1 := (unhide X1).at 0 _ rfl
  have l1X1 := (unhide X1).at 1 _ rfl
  have l2X1 := (unhide X1).at 2 _ rfl
  have l3X1 := (unhide X1).at 3 _ rfl
  have l4X1 := (unhide X1).at 4 _ rfl
  have ltX1 : w6.heap.size < w12.heap.size := by omega
  simp only [List.getElem_toArray, List.getElem_cons_zero, List.getElem_cons_succ] at l0P1 l1P1 l2P1 l3P1 l4P1 l0X1 l1X1 l2X1 l3X1 l4X1
  refine wp_region_noPanic ?_
  refine wp_region_held_drew (S := fun w' => Below w12.heap.size w12 w') (by kernel_rfl) (Below.refl _ _).drew (fun hHeld => ?_)
  generalize w12.drew = wD at hHeld ⊢
  refine wpAnyH_take (i := 0) (oi := { dst := some 45, op := Go.Op.load 27 (Go.Operand.tmp 8), type := 27, pos := "exact.go:2821", after := #[], guard := none }) (v := ?vs10) rfl (by kernel_rfl) (by kernel_rfl) (by kernel_rfl) (fun _ _ _ h => h) (Or.inl ⟨by rfl, ?hs10⟩) hHeld ?rs10
  case hs10 =>
    intro wS hSw
    have y0P1 := (hSw.cell (p := ⟨w.heap.size, 0, none⟩) ltP1).trans l0P1
    have y1P1 := (hSw.cell (p := ⟨w.heap.size, 1, none⟩) ltP1).trans l1P1
    have y2P1 := (hSw.cell (p := ⟨w.heap.size, 2, none⟩) ltP1).trans l2P1
    have y3P1 := (hSw.cell (p := ⟨w.heap.size, 3, none⟩) ltP1).trans l3P1
    have y4P1 := (hSw.cell (p := ⟨w.heap.size, 4, none⟩) ltP1).trans l4P1
    have y0X1 := (hSw.cell (p := ⟨w6.heap.size, 0, none⟩) ltX1).trans l0X1
    have y1X1 := (hSw.cell (p := ⟨w6.heap.size, 1, none⟩) ltX1).trans l1X1
    have y2X1 := (hSw.cell (p := ⟨w6.heap.size, 2, none⟩) ltX1).trans l2X1
    have y3X1 := (hSw.cell (p := ⟨w6.heap.size, 3, none⟩) ltX1).trans l3X1
    have y4X1 := (hSw.cell (p := ⟨w6.heap.size, 4, none⟩) ltX1).trans l4X1
    clear hSw
    (try dsimp only at hSw)
    go_simp
    try with_reducible rfl
  case rs10 =>
  simp only [Act.put, List.setIfInBounds_toArray, List.set_cons_zero, List.set_cons_succ]
  refine wpAnyH_take (i := 1) (oi := { dst := some 46, op := Go.Op.load 43 (Go.Operand.tmp 3), type := 43, pos := "exact.go:2821", after := #[], guard := none }) (v := ?vs11) rfl (by kernel_rfl) (by kernel_rfl) (by kernel_rfl) (fun _ _ _ h => h) (Or.inl ⟨by rfl, ?hs11⟩) hHeld ?rs11
  case hs11 =>
    intro wS hSw
    have y0P1 := (hSw.cell (p := ⟨w.heap.size, 0, none⟩) ltP1).trans l0P1
    have y1P1 := (hSw.cell (p := ⟨w.heap.size, 1, none⟩) ltP1).trans l1P1
    have y2P1 := (hSw.cell (p := ⟨w.heap.size, 2, none⟩) ltP1).trans l2P1
    have y3P1 := (hSw.cell (p := ⟨w.heap.size, 3, none⟩) ltP1).trans l3P1
    have y4P1 := (hSw.cell (p := ⟨w.heap.size, 4, none⟩) ltP1).trans l4P1
    have y0X1 := (hSw.cell (p := ⟨w6.heap.size, 0, none⟩) ltX1).trans l0X1
    have y1X1 := (hSw.cell (p := ⟨w6.heap.size, 1, none⟩) ltX1).trans l1X1
    have y2X1 := (hSw.cell (p := ⟨w6.heap.size, 2, none⟩) ltX1).trans l2X1
    have y3X1 := (hSw.cell (p := ⟨w6.heap.size, 3, none⟩) ltX1).trans l3X1
    have y4X1 := (hSw.cell (p := ⟨w6.heap.size, 4, none⟩) ltX1).trans l4X1
    clear hSw
    (try dsimp only at hSw)
    go_simp
    try with_reducible rfl
  case rs11 =>
  simp only [Act.put, List.setIfInBounds_toArray, List.set_cons_zero, List.set_cons_succ]
  refine wpAnyH_ready (rs := [2]) (by kernel_rfl) (by simp) ?_
  refine AllReadyH.cons (o := { dst := some 47, op := Go.Op.call { callee := Go.Callee.value (Go.Operand.func 17), args := #[Go.Operand.tmp 46], argTypes := #[43] }, type := 27, pos := "exact.go:2821", after := #[{ on := 1, ground := Go.Ground.data }], guard := none }) rfl (fun K hK => ?_) AllReadyH.nil
  go_simp
  go_at_call 17
  refine (to_Write _ x1 _ ((unhide HA1).reads.later hHeld) (unhide HN1)).mono ?_
  rintro e wT ⟨vT, rfl, OT, hbw⟩
  have RT := OT.reads
  obtain ⟨a2T, d2T, rfl, -⟩ := open_Write RT
  try go_wp2_with fail
  refine hK.out _ _ (hHeld.trans (hbw.mono hHeld.size)) (fun hHeld => ?_)
  clear hK K
  try simp only [Act.put, List.setIfInBounds_toArray, List.set_cons_zero, List.set_cons_succ]
  refine wpAnyH_ready (rs := [3]) (by kernel_rfl) (by simp) ?_
  refine AllReadyH.cons (o := { dst := some 48, op := Go.Op.call { callee := Go.Callee.value (Go.Operand.func 20), args := #[Go.Operand.tmp 45, Go.Operand.tmp 47], argTypes := #[27, 27] }, type := 4, pos := "exact.go:2821", after := #[{ on := 0, ground := Go.Ground.data }, { on := 2, ground := Go.Ground.data }, { on := 2, ground := Go.Ground.chain }], guard := none }) rfl (fun K hK => ?_) AllReadyH.nil
  go_simp
  go_at_call 20
  refine (eq_Write _ _ x1 _ ((unhide Hx1).reads.later hHeld) RT).mono ?_
  rintro e wU ⟨rfl, hbw⟩
  try go_wp2_with fail
  refine hK.out _ _ (hHeld.trans (hbw.mono hHeld.size)) (fun hHeld => ?_)
  clear hK K
  try simp only [Act.put, List.setIfInBounds_toArray, List.set_cons_zero, List.set_cons_succ]
  refine wpAnyH_take (i := 4) (oi := { dst := some 49, op := Go.Op.unOp Go.UnOp.not 4 (Go.Operand.tmp 48), type := 4, pos := "exact.go:2821", after := #[{ on := 3, ground := Go.Ground.data }], guard := none }) (v := ?vs14) rfl (by kernel_rfl) (by kernel_rfl) (by kernel_rfl) (fun _ _ _ h => h) (Or.inl ⟨by rfl, ?hs14⟩) hHeld ?rs14
  case hs14 =>
    intro wS hSw
    (try dsimp only at hSw)
    go_simp
    try with_reducible rfl
  case rs14 =>
  simp only [Act.put, List.setIfInBounds_toArray, List.set_cons_zero, List.set_cons_succ]
  refine wpAnyH_done (by kernel_rfl) ?_ _
  refine NoPanic.normal ?_
  clear l0P1 l1P1 l2P1 l3P1 l4P1 ltP1 l0X1 l1X1 l2X1 l3X1 l4X1 ltX1 OT RT
  have hb : Below w12.heap.size w12 wU := hHeld
  clear hHeld hbw
  replace HA0 := hide ((unhide HA0).later hb)
  replace HA1 := hide ((unhide HA1).later hb)
  replace P1 := hide ((unhide P1).keep hb)
  replace HW := hide ((unhide HW).later hb)
  replace YW := hide ((unhide YW).keep hb)
  replace Hx0 := hide ((unhide Hx0).later hb)
  replace Hx1 := hide ((unhide Hx1).later hb)
  replace X1 := hide ((unhide X1).keep hb)
  replace HG := hide ((unhide HG).later hb)
  replace YG := hide ((unhide YG).keep hb)
  have ZwU : w12.heap.size ≤ wU.heap.size := hb.size
  replace HB := hide ((unhide HB).trans (hb.mono (by omega)))
  clear hb
  have l0P1 := (unhide P1).at 0 _ rfl
  have l1P1 := (unhide P1).at 1 _ rfl
  have l2P1 := (unhide P1).at 2 _ rfl
  have l3P1 := (unhide P1).at 3 _ rfl
  have l4P1 := (unhide P1).at 4 _ rfl
  have ltP1 : w.heap.size < wU.heap.size := by omega
  have l0YW := (unhide YW).at 0 _ rfl
  have l1YW := (unhide YW).at 1 _ rfl
  have l2YW := (unhide YW).at 2 _ rfl
  have l3YW := (unhide YW).at 3 _ rfl
  have ltYW : sW < wU.heap.size := by omega
  have l0X1 := (unhide X1).at 0 _ rfl
  have l1X1 := (unhide X1).at 1 _ rfl
  have l2X1 := (unhide X1).at 2 _ rfl
  have l3X1 := (unhide X1).at 3 _ rfl
  have l4X1 := (unhide X1).at 4 _ rfl
  have ltX1 : w6.heap.size < wU.heap.size := by omega
  have l0YG := (unhide YG).at 0 _ rfl
  have l1YG := (unhide YG).at 1 _ rfl
  have l2YG := (unhide YG).at 2 _ rfl
  have l3YG := (unhide YG).at 3 _ rfl
  have ltYG : w8.heap.size < wU.heap.size := by omega
  simp only [List.getElem_toArray, List.getElem_cons_zero, List.getElem_cons_succ] at l0P1 l1P1 l2P1 l3P1 l4P1 l0YW l1YW l2YW l3YW l0X1 l1X1 l2X1 l3X1 l4X1 l0YG l1YG l2YG l3YG
  go_wp2_with fail
  clear l0P1 l1P1 l2P1 l3P1 l4P1 ltP1 l0YW l1YW l2YW l3YW ltYW l0X1 l1X1 l2X1 l3X1 l4X1 ltX1 l0YG l1YG l2YG l3YG ltYG
  obtain ⟨bl, O, hbl⟩ := unhide Hx0
  clear Hx0
  have HCx0 := few_bound (A := (Lay.sl Lay.tWrite)) (few_sl (few_via (few_pair few_int (few_pair few_int (few_pair (few_sl few_int) (few_pair few_int few_int)))))) (unhide HN0) (by omega)
  refine (mark_WriteS _ x0 bl (1) wU O (by omega) (by omega)).mono ?_
  rintro e w14 ⟨rfl, -, E⟩
  replace E := E.mono (S' := within w4.heap.size w5.heap.size) fun b _ hb => hbl b hb
  clear hbl O
  have zlo : w.heap.size ≤ w4.heap.size ∧ w5.heap.size ≤ wU.heap.size := by omega
  replace HA0 := hide ((unhide HA0).ext E (within_out (by omega)))
  replace HA1 := hide ((unhide HA1).ext E (within_out (by omega)))
  replace P1 := hide ((unhide P1).ext E (fun q => by simp only [within] at q; omega))
  replace HW := hide ((unhide HW).ext E (within_out (by omega)))
  replace YW := hide ((unhide YW).ext E (fun q => by simp only [within] at q; omega))
  replace Hx1 := hide ((unhide Hx1).ext E (within_out (by omega)))
  replace X1 := hide ((unhide X1).ext E (fun q => by simp only [within] at q; omega))
  replace HG := hide ((unhide HG).ext E (within_out (by omega)))
  replace YG := hide ((unhide YG).ext E (fun q => by simp only [within] at q; omega))
  have Zw14 : wU.heap.size ≤ w14.heap.size := E.size
  replace HB := hide ((unhide HB).trans (E.below (by omega) (fun k h q => by simp only [within] at q; omega)))
  clear E
  clear zlo
  have l0P1 := (unhide P1).at 0 _ rfl
  have l1P1 := (unhide P1).at 1 _ rfl
  have l2P1 := (unhide P1).at 2 _ rfl
  have l3P1 := (unhide P1).at 3 _ rfl
  have l4P1 := (unhide P1).at 4 _ rfl
  have ltP1 : w.heap.size < w14.heap.size := by omega
  have l0YW := (unhide YW).at 0 _ rfl
  have l1YW := (unhide YW).at 1 _ rfl
  have l2YW := (unhide YW).at 2 _ rfl
  have l3YW := (unhide YW).at 3 _ rfl
  have ltYW : sW < w14.heap.size := by omega
  have l0X1 := (unhide X1).at 0 _ rfl
  have l1X1 := (unhide X1).at 1 _ rfl
  have l2X1 := (unhide X1).at 2 _ rfl
  have l3X1 := (unhide X1).at 3 _ rfl
  have l4X1 := (unhide X1).at 4 _ rfl
  have ltX1 : w6.heap.size < w14.heap.size := by omega
  have l0YG := (unhide YG).at 0 _ rfl
  have l1YG := (unhide YG).at 1 _ rfl
  have l2YG := (unhide YG).at 2 _ rfl
  have l3YG := (unhide YG).at 3 _ rfl
  have ltYG : w8.heap.size < w14.heap.size := by omega
  simp only [List.getElem_toArray, List.getElem_cons_zero, List.getElem_cons_succ] at l0P1 l1P1 l2P1 l3P1 l4P1 l0YW l1YW l2YW l3YW l0X1 l1X1 l2X1 l3X1 l4X1 l0YG l1YG l2YG l3YG
  go_wp2_with fail
  clear l0P1 l1P1 l2P1 l3P1 l4P1 ltP1 l0YW l1YW l2YW l3YW ltYW l0X1 l1X1 l2X1 l3X1 l4X1 ltX1 l0YG l1YG l2YG l3YG ltYG
  obtain ⟨bl, O, hbl⟩ := unhide Hx1
  clear Hx1
  have HCx1 := few_bound (A := Lay.tWrite) (few_via (few_pair few_int (few_pair few_int (few_pair (few_sl few_int) (few_pair few_int few_int))))) (unhide HN1) (by omega)
  refine (mark_Write _ x1 bl (1 + ((Lay.sl Lay.tWrite).vcnt x0 : Int)) w14 O (by omega) (by omega)).mono ?_
  rintro e w15 ⟨rfl, -, E⟩
  replace E := E.mono (S' := within w5.heap.size w6.heap.size) fun b _ hb => hbl b hb
  clear hbl O
  have zlo : w.heap.size ≤ w5.heap.size ∧ w6.heap.size ≤ w14.heap.size := by omega
  replace HA0 := hide ((unhide HA0).ext E (within_out (by omega)))
  replace HA1 := hide ((unhide HA1).ext E (within_out (by omega)))
  replace P1 := hide ((unhide P1).ext E (fun q => by simp only [within] at q; omega))
  replace HW := hide ((unhide HW).ext E (within_out (by omega)))
  replace YW := hide ((unhide YW).ext E (fun q => by simp only [within] at q; omega))
  replace X1 := hide ((unhide X1).ext E (fun q => by simp only [within] at q; omega))
  replace HG := hide ((unhide HG).ext E (within_out (by omega)))
  replace YG := hide ((unhide YG).ext E (fun q => by simp only [within] at q; omega))
  have Zw15 : w14.heap.size ≤ w15.heap.size := E.size
  replace HB := hide ((unhide HB).trans (E.below (by omega) (fun k h q => by simp only [within] at q; omega)))
  clear E
  clear zlo
  obtain ⟨mk, hmk⟩ : ∃ mk : Int, mk = 1 + ((Lay.sl Lay.tWrite).vcnt x0 : Int) + (Lay.tWrite.vcnt x1 : Int) := ⟨_, rfl⟩
  rw [← hmk]
  have hm3 : decide (mk < 0) = false := decide_eq_false (by omega)
  clear hmk HCx0 HCx1
  have l0P1 := (unhide P1).at 0 _ rfl
  have l1P1 := (unhide P1).at 1 _ rfl
  have l2P1 := (unhide P1).at 2 _ rfl
  have l3P1 := (unhide P1).at 3 _ rfl
  have l4P1 := (unhide P1).at 4 _ rfl
  have ltP1 : w.heap.size < w15.heap.size := by omega
  have l0YW := (unhide YW).at 0 _ rfl
  have l1YW := (unhide YW).at 1 _ rfl
  have l2YW := (unhide YW).at 2 _ rfl
  have l3YW := (unhide YW).at 3 _ rfl
  have ltYW : sW < w15.heap.size := by omega
  have l0X1 := (unhide X1).at 0 _ rfl
  have l1X1 := (unhide X1).at 1 _ rfl
  have l2X1 := (unhide X1).at 2 _ rfl
  have l3X1 := (unhide X1).at 3 _ rfl
  have l4X1 := (unhide X1).at 4 _ rfl
  have ltX1 : w6.heap.size < w15.heap.size := by omega
  have l0YG := (unhide YG).at 0 _ rfl
  have l1YG := (unhide YG).at 1 _ rfl
  have l2YG := (unhide YG).at 2 _ rfl
  have l3YG := (unhide YG).at 3 _ rfl
  have ltYG : w8.heap.size < w15.heap.size := by omega
  simp only [List.getElem_toArray, List.getElem_cons_zero, List.getElem_cons_succ] at l0P1 l1P1 l2P1 l3P1 l4P1 l0YW l1YW l2YW l3YW l0X1 l1X1 l2X1 l3X1 l4X1 l0YG l1YG l2YG l3YG
  go_wp2_with fail
  clear l0P1 l1P1 l2P1 l3P1 l4P1 ltP1 l0YW l1YW l2YW l3YW ltYW l0X1 l1X1 l2X1 l3X1 l4X1 ltX1 l0YG l1YG l2YG l3YG ltYG
  refine (eq_OnceResult _ _ y w15 (unhide HG).reads (unhide HW).reads).mono ?_
  rintro e w16 ⟨rfl, hb⟩
  replace HA0 := hide ((unhide HA0).later hb)
  replace HA1 := hide ((unhide HA1).later hb)
  replace P1 := hide ((unhide P1).keep hb)
  replace HW := hide ((unhide HW).later hb)
  replace YW := hide ((unhide YW).keep hb)
  replace X1 := hide ((unhide X1).keep hb)
  replace HG := hide ((unhide HG).later hb)
  replace YG := hide ((unhide YG).keep hb)
  have Zw16 : w15.heap.size ≤ w16.heap.size := hb.size
  replace HB := hide ((unhide HB).trans (hb.mono (by omega)))
  clear hb
  clear hm3
  have l0P1 := (unhide P1).at 0 _ rfl
  have l1P1 := (unhide P1).at 1 _ rfl
  have l2P1 := (unhide P1).at 2 _ rfl
  have l3P1 := (unhide P1).at 3 _ rfl
  have l4P1 := (unhide P1).at 4 _ rfl
  have ltP1 : w.heap.size < w16.heap.size := by omega
  have l0YW := (unhide YW).at 0 _ rfl
  have l1YW := (unhide YW).at 1 _ rfl
  have l2YW := (unhide YW).at 2 _ rfl
  have l3YW := (unhide YW).at 3 _ rfl
  have ltYW : sW < w16.heap.size := by omega
  have l0X1 := (unhide X1).at 0 _ rfl
  have l1X1 := (unhide X1).at 1 _ rfl
  have l2X1 := (unhide X1).at 2 _ rfl
  have l3X1 := (unhide X1).at 3 _ rfl
  have l4X1 := (unhide X1).at 4 _ rfl
  have ltX1 : w6.heap.size < w16.heap.size := by omega
  have l0YG := (unhide YG).at 0 _ rfl
  have l1YG := (unhide YG).at 1 _ rfl
  have l2YG := (unhide YG).at 2 _ rfl
  have l3YG := (unhide YG).at 3 _ rfl
  have ltYG : w8.heap.size < w16.heap.size := by omega
  simp only [List.getElem_toArray, List.getElem_cons_zero, List.getElem_cons_succ] at l0P1 l1P1 l2P1 l3P1 l4P1 l0YW l1YW l2YW l3YW l0X1 l1X1 l2X1 l3X1 l4X1 l0YG l1YG l2YG l3YG
  go_wp2_with fail
  clear l0P1 l1P1 l2P1 l3P1 l4P1 ltP1 l0YW l1YW l2YW l3YW ltYW l0X1 l1X1 l2X1 l3X1 l4X1 ltX1 l0YG l1YG l2YG l3YG ltYG
  obtain ⟨bl, O, hbl⟩ := unhide HG
  clear HG
  have hcy := unhide HC
  refine (mark_OnceResult _ y bl 1 w16 O (by omega) (by omega)).mono ?_
  rintro e w17 ⟨rfl, O2, E⟩
  replace E := E.mono (S' := within w7.heap.size w8.heap.size) fun b _ hb => hbl b hb
  have HG : Hid (Lay.tOnceResult.OwnIn w17 _ (Lay.tOnceResult.mkv 1 y) w7.heap.size w8.heap.size) := ⟨bl, O2, hbl⟩
  clear hbl O O2
  have zlo : w.heap.size ≤ w7.heap.size ∧ w8.heap.size ≤ w16.heap.size := by omega
  replace HA0 := hide ((unhide HA0).ext E (within_out (by omega)))
  replace HA1 := hide ((unhide HA1).ext E (within_out (by omega)))
  replace P1 := hide ((unhide P1).ext E (fun q => by simp only [within] at q; omega))
  replace HW := hide ((unhide HW).ext E (within_out (by omega)))
  replace YW := hide ((unhide YW).ext E (fun q => by simp only [within] at q; omega))
  replace X1 := hide ((unhide X1).ext E (fun q => by simp only [within] at q; omega))
  replace YG := hide ((unhide YG).ext E (fun q => by simp only [within] at q; omega))
  have Zw17 : w16.heap.size ≤ w17.heap.size := E.size
  replace HB := hide ((unhide HB).trans (E.below (by omega) (fun k h q => by simp only [within] at q; omega)))
  clear E
  clear zlo
  have hq0 : decide (1 + (Lay.tOnceResult.vcnt y : Int) < 0) = false := decide_eq_false (by omega)
  have hq1 : ((1 + (Lay.tOnceResult.vcnt y : Int)) != (1 + (Lay.tOnceResult.vcnt y : Int))) = false := by simp
  clear hcy
  have l0P1 := (unhide P1).at 0 _ rfl
  have l1P1 := (unhide P1).at 1 _ rfl
  have l2P1 := (unhide P1).at 2 _ rfl
  have l3P1 := (unhide P1).at 3 _ rfl
  have l4P1 := (unhide P1).at 4 _ rfl
  have ltP1 : w.heap.size < w17.heap.size := by omega
  have l0YW := (unhide YW).at 0 _ rfl
  have l1YW := (unhide YW).at 1 _ rfl
  have l2YW := (unhide YW).at 2 _ rfl
  have l3YW := (unhide YW).at 3 _ rfl
  have ltYW : sW < w17.heap.size := by omega
  have l0X1 := (unhide X1).at 0 _ rfl
  have l1X1 := (unhide X1).at 1 _ rfl
  have l2X1 := (unhide X1).at 2 _ rfl
  have l3X1 := (unhide X1).at 3 _ rfl
  have l4X1 := (unhide X1).at 4 _ rfl
  have ltX1 : w6.heap.size < w17.heap.size := by omega
  have l0YG := (unhide YG).at 0 _ rfl
  have l1YG := (unhide YG).at 1 _ rfl
  have l2YG := (unhide YG).at 2 _ rfl
  have l3YG := (unhide YG).at 3 _ rfl
  have ltYG : w8.heap.size < w17.heap.size := by omega
  simp only [List.getElem_toArray, List.getElem_cons_zero, List.getElem_cons_succ] at l0P1 l1P1 l2P1 l3P1 l4P1 l0YW l1YW l2YW l3YW l0X1 l1X1 l2X1 l3X1 l4X1 l0YG l1YG l2YG l3YG
  go_wp2_with fail
  clear l0P1 l1P1 l2P1 l3P1 l4P1 ltP1 l0YW l1YW l2YW l3YW ltYW l0X1 l1X1 l2X1 l3X1 l4X1 ltX1 l0YG l1YG l2YG l3YG ltYG
  refine (held_OnceResult _ y 1 w17 (unhide HG).reads (by omega) (by have := unhide HC; omega)).mono ?_
  rintro e w18 ⟨rfl, hb⟩
  replace HA0 := hide ((unhide HA0).later hb)
  replace HA1 := hide ((unhide HA1).later hb)
  replace P1 := hide ((unhide P1).keep hb)
  replace HW := hide ((unhide HW).later hb)
  replace YW := hide ((unhide YW).keep hb)
  replace X1 := hide ((unhide X1).keep hb)
  replace YG := hide ((unhide YG).keep hb)
  replace HG := hide ((unhide HG).later hb)
  have Zw18 : w17.heap.size ≤ w18.heap.size := hb.size
  replace HB := hide ((unhide HB).trans (hb.mono (by omega)))
  clear hb
  have l0P1 := (unhide P1).at 0 _ rfl
  have l1P1 := (unhide P1).at 1 _ rfl
  have l2P1 := (unhide P1).at 2 _ rfl
  have l3P1 := (unhide P1).at 3 _ rfl
  have l4P1 := (unhide P1).at 4 _ rfl
  have ltP1 : w.heap.size < w18.heap.size := by omega
  have l0YW := (unhide YW).at 0 _ rfl
  have l1YW := (unhide YW).at 1 _ rfl
  have l2YW := (unhide YW).at 2 _ rfl
  have l3YW := (unhide YW).at 3 _ rfl
  have ltYW : sW < w18.heap.size := by omega
  have l0X1 := (unhide X1).at 0 _ rfl
  have l1X1 := (unhide X1).at 1 _ rfl
  have l2X1 := (unhide X1).at 2 _ rfl
  have l3X1 := (unhide X1).at 3 _ rfl
  have l4X1 := (unhide X1).at 4 _ rfl
  have ltX1 : w6.heap.size < w18.heap.size := by omega
  have l0YG := (unhide YG).at 0 _ rfl
  have l1YG := (unhide YG).at 1 _ rfl
  have l2YG := (unhide YG).at 2 _ rfl
  have l3YG := (unhide YG).at 3 _ rfl
  have ltYG : w8.heap.size < w18.heap.size := by omega
  simp only [List.getElem_toArray, List.getElem_cons_zero, List.getElem_cons_succ] at l0P1 l1P1 l2P1 l3P1 l4P1 l0YW l1YW l2YW l3YW l0X1 l1X1 l2X1 l3X1 l4X1 l0YG l1YG l2YG l3YG
  go_upto_region 31 with fail
  clear l0P1 l1P1 l2P1 l3P1 l4P1 ltP1 l0YW l1YW l2YW l3YW ltYW l0X1 l1X1 l2X1 l3X1 l4X1 ltX1 l0YG l1YG l2YG l3YG ltYG
  have l0P1 := (unhide P1).at 0 _ rfl
  have l1P1 := (unhide P1).at 1 _ rfl
  have l2P1 := (unhide P1).at 2 _ rfl
  have l3P1 := (unhide P1).at 3 _ rfl
  have l4P1 := (unhide P1).at 4 _ rfl
  have ltP1 : w.heap.size < w18.heap.size := by omega
  simp only [List.getElem_toArray, List.getElem_cons_zero, List.getElem_cons_succ] at l0P1 l1P1 l2P1 l3P1 l4P1
  go_cut [13] from 75 to 79 (fun sL wx => ∃ (s0 : Nat) (a3K : Option Addr) (d3K : Nat), sL = .pointer (some ⟨s0, 0, none⟩) ∧ s0 < wx.heap.size ∧ Box w18.heap.size #[.int .i64 y.code, .bool y.isNew, .int .i64 y.place, .slice a3K y.writes.length d3K] 31 wx s0 ∧ Lay.tOnceResult.Reads wx [.int .i64 y.code, .bool y.isNew, .int .i64 y.place, .slice a3K y.writes.length d3K] y ∧ Below w18.heap.size w18 wx)
  case first =>
    refine wp_region_noPanic ?_
    refine wp_region_held_drew (S := fun w' => Below w18.heap.size w18 w') (by kernel_rfl) (Below.refl _ _).drew (fun hHeld => ?_)
    generalize w18.drew = X0 at hHeld ⊢
    refine wpAnyH_take (i := 0) (oi := { dst := some 75, op := Go.Op.move (Go.Operand.tmp 0), type := 42, pos := "exact.go:2840", after := #[], guard := none }) (v := ?v0_1) rfl (by kernel_rfl) (by kernel_rfl) (by kernel_rfl) (fun _ _ _ h => h) (Or.inl ⟨by rfl, ?h0_1⟩) hHeld ?r0_1
    case h0_1 =>
      intro wS hSw
      (try dsimp only at hSw)
      go_simp
      try with_reducible rfl
    case r0_1 =>
    simp only [Act.put, List.setIfInBounds_toArray, List.set_cons_zero, List.set_cons_succ]
    refine wpAnyH_take (i := 2) (oi := { dst := some 77, op := Go.Op.load 43 (Go.Operand.tmp 3), type := 43, pos := "exact.go:2840", after := #[], guard := none }) (v := ?v2_2) rfl (by kernel_rfl) (by kernel_rfl) (by kernel_rfl) (fun _ _ _ h => h) (Or.inl ⟨by rfl, ?h2_2⟩) hHeld ?r2_2
    case h2_2 =>
      intro wS hSw
      have y0P1 := (hSw.cell (p := ⟨w.heap.size, 0, none⟩) ltP1).trans l0P1
      have y1P1 := (hSw.cell (p := ⟨w.heap.size, 1, none⟩) ltP1).trans l1P1
      have y2P1 := (hSw.cell (p := ⟨w.heap.size, 2, none⟩) ltP1).trans l2P1
      have y3P1 := (hSw.cell (p := ⟨w.heap.size, 3, none⟩) ltP1).trans l3P1
      have y4P1 := (hSw.cell (p := ⟨w.heap.size, 4, none⟩) ltP1).trans l4P1
      clear hSw
      (try dsimp only at hSw)
      go_simp
      try with_reducible rfl
    case r2_2 =>
    simp only [Act.put, List.setIfInBounds_toArray, List.set_cons_zero, List.set_cons_succ]
    refine wpAnyH_ready (rs := [1, 5]) (by kernel_rfl) (by simp) ?_
    refine AllReadyH.cons (o := { dst := some 76, op := Go.Op.call { callee := Go.Callee.value (Go.Operand.func 16), args := #[Go.Operand.tmp 75], argTypes := #[42] }, type := 24, pos := "exact.go:2840", after := #[{ on := 0, ground := Go.Ground.data }], guard := none }) rfl (fun K hK => ?_) (AllReadyH.cons (o := { dst := some 13, op := Go.Op.alloc 31, type := 0, pos := "exact.go:2840", after := #[], guard := none }) rfl (fun K hK => ?_) AllReadyH.nil)
    · go_simp
      go_at_call 16
      refine (to_WriteS _ x0 _ ((unhide HA0).reads.later hHeld) (unhide HN0)).mono ?_
      rintro e X3 ⟨vT0, rfl, OT, hbw⟩
      have rt0 := OT.reads
      obtain ⟨aoT0, cpT0, rfl⟩ := open_sl rt0
      clear OT
      try go_wp2_with fail
      refine hK.out _ _ (hHeld.trans (hbw.mono hHeld.size)) (fun hHeld => ?_)
      clear hK K hbw
      try simp only [Act.put, List.setIfInBounds_toArray, List.set_cons_zero, List.set_cons_succ]
      refine wpAnyH_ready (rs := [3, 5]) (by kernel_rfl) (by simp) ?_
      refine AllReadyH.cons (o := { dst := some 78, op := Go.Op.call { callee := Go.Callee.value (Go.Operand.func 17), args := #[Go.Operand.tmp 77], argTypes := #[43] }, type := 27, pos := "exact.go:2840", after := #[{ on := 2, ground := Go.Ground.data }, { on := 1, ground := Go.Ground.chain }], guard := none }) rfl (fun K hK => ?_) (AllReadyH.cons (o := { dst := some 13, op := Go.Op.alloc 31, type := 0, pos := "exact.go:2840", after := #[], guard := none }) rfl (fun K hK => ?_) AllReadyH.nil)
      · go_simp
        go_at_call 17
        refine (to_Write _ x1 _ ((unhide HA1).reads.later hHeld) (unhide HN1)).mono ?_
        rintro e X4 ⟨vT1, rfl, OT, hbw⟩
        have rt1 := OT.reads
        obtain ⟨a2T1, d2T1, rfl, -⟩ := open_Write rt1
        replace rt0 := rt0.later hbw
        clear OT
        try go_wp2_with fail
        refine hK.out _ _ (hHeld.trans (hbw.mono hHeld.size)) (fun hHeld => ?_)
        clear hK K hbw
        try simp only [Act.put, List.setIfInBounds_toArray, List.set_cons_zero, List.set_cons_succ]
        refine wpAnyH_ready (rs := [4, 5]) (by kernel_rfl) (by simp) ?_
        refine AllReadyH.cons (o := { dst := some 79, op := Go.Op.call { callee := Go.Callee.value (Go.Operand.func 7), args := #[Go.Operand.tmp 76, Go.Operand.tmp 78], argTypes := #[24, 27] }, type := 31, pos := "exact.go:2840", after := #[{ on := 1, ground := Go.Ground.data }, { on := 3, ground := Go.Ground.data }, { on := 3, ground := Go.Ground.chain }], guard := none }) rfl (fun K hK => ?_) (AllReadyH.cons (o := { dst := some 13, op := Go.Op.alloc 31, type := 0, pos := "exact.go:2840", after := #[], guard := none }) rfl (fun K hK => ?_) AllReadyH.nil)
        · go_simp
          go_at_call 7
          refine (unhide HI _ _ _ (((unhide HT).later (unhide HB)).later hHeld) rt0 rt1).mono ?_
          rintro e X5 ⟨cs, rfl, O, hbw⟩
          obtain ⟨a3K, d3K, rfl, -⟩ := open_OnceResult O.reads
          have hz9 := hbw.size
          have rd := O.lies
          clear O
          try go_wp2_with fail
          refine hK.out _ _ (hHeld.trans (hbw.mono hHeld.size)) (fun hHeld => ?_)
          clear hK K hbw hz9
          try simp only [Act.put, List.setIfInBounds_toArray, List.set_cons_zero, List.set_cons_succ]
          clear rt0 rt1
          refine wpAnyH_ready (rs := [5]) (by kernel_rfl) (by simp) ?_
          refine AllReadyH.cons (o := { dst := some 13, op := Go.Op.alloc 31, type := 0, pos := "exact.go:2840", after := #[], guard := none }) rfl (fun K hK => ?_) AllReadyH.nil
          have bx : Box w18.heap.size #[.int .i64 0, .bool false, .int .i64 0, .slice none 0 0] 31 (X5.alloc (.cells #[.int .i64 0, .bool false, .int .i64 0, .slice none 0 0] 31)) X5.heap.size := newBox hHeld.size
          have nbA : Below X5.heap.size X5 (X5.alloc (.cells #[.int .i64 0, .bool false, .int .i64 0, .slice none 0 0] 31)) := (Below.refl _ _).alloc (Nat.le_refl _) _
          replace rd := rd.later nbA
          have hNx := hHeld.trans (nbA.mono hHeld.size)
          go_simp
          refine hK.out _ _ hNx (fun hHeld => ?_)
          clear hK K hNx nbA
          try simp only [Act.put, List.setIfInBounds_toArray, List.set_cons_zero, List.set_cons_succ]
          generalize X5.alloc (.cells #[.int .i64 0, .bool false, .int .i64 0, .slice none 0 0] 31) = X6 at *
          refine wpAnyH_ready (rs := [6]) (by kernel_rfl) (by simp) ?_
          refine AllReadyH.cons (o := { dst := none, op := Go.Op.store 31 (Go.Operand.tmp 13) (Go.Operand.tmp 79), type := 0, pos := "exact.go:2840", after := #[{ on := 5, ground := Go.Ground.data }, { on := 4, ground := Go.Ground.data }, { on := 4, ground := Go.Ground.chain }, { on := 0, ground := Go.Ground.phase }, { on := 1, ground := Go.Ground.phase }, { on := 2, ground := Go.Ground.phase }, { on := 3, ground := Go.Ground.phase }, { on := 4, ground := Go.Ground.phase }, { on := 5, ground := Go.Ground.phase }], guard := none }) rfl (fun K hK => ?_) AllReadyH.nil
          have z0 : X6.cell? ⟨X5.heap.size, 0, none⟩ = some (.int .i64 0) := bx.at 0 _ rfl
          have f0 := bx.soft 0
          have z1 : X6.cell? ⟨X5.heap.size, 1, none⟩ = some (.bool false) := bx.at 1 _ rfl
          have f1 := bx.soft 1
          have z2 : X6.cell? ⟨X5.heap.size, 2, none⟩ = some (.int .i64 0) := bx.at 2 _ rfl
          have f2 := bx.soft 2
          have z3 : X6.cell? ⟨X5.heap.size, 3, none⟩ = some (.slice none 0 0) := bx.at 3 _ rfl
          have f3 := bx.soft 3
          have l0 := bx.lt
          have bx9 : Box w18.heap.size #[.int .i64 y.code, .bool y.isNew, .int .i64 y.place, .slice a3K y.writes.length d3K] 31 ((((X6.setCell ⟨X5.heap.size, 0, none⟩ (.int .i64 y.code)).setCell ⟨X5.heap.size, 1, none⟩ (.bool y.isNew)).setCell ⟨X5.heap.size, 2, none⟩ (.int .i64 y.place)).setCell ⟨X5.heap.size, 3, none⟩ (.slice a3K y.writes.length d3K)) X5.heap.size := ((((bx.set 0 (.int .i64 y.code)).set 1 (.bool y.isNew)).set 2 (.int .i64 y.place)).set 3 (.slice a3K y.writes.length d3K))
          have hE9 : Ext (fun c => c = X5.heap.size) X6 ((((X6.setCell ⟨X5.heap.size, 0, none⟩ (.int .i64 y.code)).setCell ⟨X5.heap.size, 1, none⟩ (.bool y.isNew)).setCell ⟨X5.heap.size, 2, none⟩ (.int .i64 y.place)).setCell ⟨X5.heap.size, 3, none⟩ (.slice a3K y.writes.length d3K)) := (((((Ext.refl (fun c => c = X5.heap.size) _).setCell ⟨X5.heap.size, 0, none⟩ (.int .i64 y.code) rfl).setCell ⟨X5.heap.size, 1, none⟩ (.bool y.isNew) rfl).setCell ⟨X5.heap.size, 2, none⟩ (.int .i64 y.place) rfl).setCell ⟨X5.heap.size, 3, none⟩ (.slice a3K y.writes.length d3K) rfl)
          have rd9 := (rd.ext hE9 (fun c h1 h2 h3 => by omega)).reads
          have hH9 : Below w18.heap.size w18 ((((X6.setCell ⟨X5.heap.size, 0, none⟩ (.int .i64 y.code)).setCell ⟨X5.heap.size, 1, none⟩ (.bool y.isNew)).setCell ⟨X5.heap.size, 2, none⟩ (.int .i64 y.place)).setCell ⟨X5.heap.size, 3, none⟩ (.slice a3K y.writes.length d3K)) := ((((hHeld.setCell (by simpa using bx.1) (.int .i64 y.code)).setCell (by simpa using bx.1) (.bool y.isNew)).setCell (by simpa using bx.1) (.int .i64 y.place)).setCell (by simpa using bx.1) (.slice a3K y.writes.length d3K))
          clear bx rd hE9
          have bx := bx9
          have rd := rd9
          clear bx9 rd9
          go_simp
          refine hK.out _ _ hH9 (fun hHeld => ?_)
          clear hK K hH9 l0 z0 f0 z1 f1 z2 f2 z3 f3
          try simp only [Act.put, List.setIfInBounds_toArray, List.set_cons_zero, List.set_cons_succ]
          refine wpAnyH_done (by kernel_rfl) ?_ _
          refine NoPanic.normal ?_
          have HH := hide hHeld
          have HBX := hide bx
          have HRD := hide rd
          clear hHeld bx rd
          go_wp2_with fail
          go_meet
          exact ⟨_, _, _, rfl, (unhide HBX).lt, unhide HBX, unhide HRD, unhide HH⟩
        · have bx : Box w18.heap.size #[.int .i64 0, .bool false, .int .i64 0, .slice none 0 0] 31 (X4.alloc (.cells #[.int .i64 0, .bool false, .int .i64 0, .slice none 0 0] 31)) X4.heap.size := newBox hHeld.size
          have nbA : Below X4.heap.size X4 (X4.alloc (.cells #[.int .i64 0, .bool false, .int .i64 0, .slice none 0 0] 31)) := (Below.refl _ _).alloc (Nat.le_refl _) _
          replace rt0 := rt0.later nbA
          replace rt1 := rt1.later nbA
          have hNx := hHeld.trans (nbA.mono hHeld.size)
          go_simp
          refine hK.out _ _ hNx (fun hHeld => ?_)
          clear hK K hNx nbA
          try simp only [Act.put, List.setIfInBounds_toArray, List.set_cons_zero, List.set_cons_succ]
          generalize X4.alloc (.cells #[.int .i64 0, .bool false, .int .i64 0, .slice none 0 0] 31) = X8 at *
          refine wpAnyH_ready (rs := [4]) (by kernel_rfl) (by simp) ?_
          refine AllReadyH.cons (o := { dst := some 79, op := Go.Op.call { callee := Go.Callee.value (Go.Operand.func 7), args := #[Go.Operand.tmp 76, Go.Operand.tmp 78], argTypes := #[24, 27] }, type := 31, pos := "exact.go:2840", after := #[{ on := 1, ground := Go.Ground.data }, { on := 3, ground := Go.Ground.data }, { on := 3, ground := Go.Ground.chain }], guard := none }) rfl (fun K hK => ?_) AllReadyH.nil
          go_simp
          go_at_call 7
          refine (unhide HI _ _ _ (((unhide HT).later (unhide HB)).later hHeld) rt0 rt1).mono ?_
          rintro e X9 ⟨cs, rfl, O, hbw⟩
          obtain ⟨a3K, d3K, rfl, -⟩ := open_OnceResult O.reads
          have hs0 := bx.lt
          replace bx := bx.keep hbw
          have hz9 := hbw.size
          have rd := O.lies
          clear O
          replace rd := rd.mono (lo' := X4.heap.size + 1) (by omega) (Nat.le_refl _)
          clear hs0
          try go_wp2_with fail
          refine hK.out _ _ (hHeld.trans (hbw.mono hHeld.size)) (fun hHeld => ?_)
          clear hK K hbw hz9
          try simp only [Act.put, List.setIfInBounds_toArray, List.set_cons_zero, List.set_cons_succ]
          clear rt0 rt1
          refine wpAnyH_ready (rs := [6]) (by kernel_rfl) (by simp) ?_
          refine AllReadyH.cons (o := { dst := none, op := Go.Op.store 31 (Go.Operand.tmp 13) (Go.Operand.tmp 79), type := 0, pos := "exact.go:2840", after := #[{ on := 5, ground := Go.Ground.data }, { on := 4, ground := Go.Ground.data }, { on := 4, ground := Go.Ground.chain }, { on := 0, ground := Go.Ground.phase }, { on := 1, ground := Go.Ground.phase }, { on := 2, ground := Go.Ground.phase }, { on := 3, ground := Go.Ground.phase }, { on := 4, ground := Go.Ground.phase }, { on := 5, ground := Go.Ground.phase }], guard := none }) rfl (fun K hK => ?_) AllReadyH.nil
          have z0 : X9.cell? ⟨X4.heap.size, 0, none⟩ = some (.int .i64 0) := bx.at 0 _ rfl
          have f0 := bx.soft 0
          have z1 : X9.cell? ⟨X4.heap.size, 1, none⟩ = some (.bool false) := bx.at 1 _ rfl
          have f1 := bx.soft 1
          have z2 : X9.cell? ⟨X4.heap.size, 2, none⟩ = some (.int .i64 0) := bx.at 2 _ rfl
          have f2 := bx.soft 2
          have z3 : X9.cell? ⟨X4.heap.size, 3, none⟩ = some (.slice none 0 0) := bx.at 3 _ rfl
          have f3 := bx.soft 3
          have l0 := bx.lt
          have bx9 : Box w18.heap.size #[.int .i64 y.code, .bool y.isNew, .int .i64 y.place, .slice a3K y.writes.length d3K] 31 ((((X9.setCell ⟨X4.heap.size, 0, none⟩ (.int .i64 y.code)).setCell ⟨X4.heap.size, 1, none⟩ (.bool y.isNew)).setCell ⟨X4.heap.size, 2, none⟩ (.int .i64 y.place)).setCell ⟨X4.heap.size, 3, none⟩ (.slice a3K y.writes.length d3K)) X4.heap.size := ((((bx.set 0 (.int .i64 y.code)).set 1 (.bool y.isNew)).set 2 (.int .i64 y.place)).set 3 (.slice a3K y.writes.length d3K))
          have hE9 : Ext (fun c => c = X4.heap.size) X9 ((((X9.setCell ⟨X4.heap.size, 0, none⟩ (.int .i64 y.code)).setCell ⟨X4.heap.size, 1, none⟩ (.bool y.isNew)).setCell ⟨X4.heap.size, 2, none⟩ (.int .i64 y.place)).setCell ⟨X4.heap.size, 3, none⟩ (.slice a3K y.writes.length d3K)) := (((((Ext.refl (fun c => c = X4.heap.size) _).setCell ⟨X4.heap.size, 0, none⟩ (.int .i64 y.code) rfl).setCell ⟨X4.heap.size, 1, none⟩ (.bool y.isNew) rfl).setCell ⟨X4.heap.size, 2, none⟩ (.int .i64 y.place) rfl).setCell ⟨X4.heap.size, 3, none⟩ (.slice a3K y.writes.length d3K) rfl)
          have rd9 := (rd.ext hE9 (fun c h1 h2 h3 => by omega)).reads
          have hH9 : Below w18.heap.size w18 ((((X9.setCell ⟨X4.heap.size, 0, none⟩ (.int .i64 y.code)).setCell ⟨X4.heap.size, 1, none⟩ (.bool y.isNew)).setCell ⟨X4.heap.size, 2, none⟩ (.int .i64 y.place)).setCell ⟨X4.heap.size, 3, none⟩ (.slice a3K y.writes.length d3K)) := ((((hHeld.setCell (by simpa using bx.1) (.int .i64 y.code)).setCell (by simpa using bx.1) (.bool y.isNew)).setCell (by simpa using bx.1) (.int .i64 y.place)).setCell (by simpa using bx.1) (.slice a3K y.writes.length d3K))
          clear bx rd hE9
          have bx := bx9
          have rd := rd9
          clear bx9 rd9
          go_simp
          refine hK.out _ _ hH9 (fun hHeld => ?_)
          clear hK K hH9 l0 z0 f0 z1 f1 z2 f2 z3 f3
          try simp only [Act.put, List.setIfInBounds_toArray, List.set_cons_zero, List.set_cons_succ]
          refine wpAnyH_done (by kernel_rfl) ?_ _
          refine NoPanic.normal ?_
          have HH := hide hHeld
          have HBX := hide bx
          have HRD := hide rd
          clear hHeld bx rd
          go_wp2_with fail
          go_meet
          exact ⟨_, _, _, rfl, (unhide HBX).lt, unhide HBX, unhide HRD, unhide HH⟩
      · have bx : Box w18.heap.size #[.int .i64 0, .bool false, .int .i64 0, .slice none 0 0] 31 (X3.alloc (.cells #[.int .i64 0, .bool false, .int .i64 0, .slice none 0 0] 31)) X3.heap.size := newBox hHeld.size
        have nbA : Below X3.heap.size X3 (X3.alloc (.cells #[.int .i64 0, .bool false, .int .i64 0, .slice none 0 0] 31)) := (Below.refl _ _).alloc (Nat.le_refl _) _
        replace rt0 := rt0.later nbA
        have hNx := hHeld.trans (nbA.mono hHeld.size)
        go_simp
        refine hK.out _ _ hNx (fun hHeld => ?_)
        clear hK K hNx nbA
        try simp only [Act.put, List.setIfInBounds_toArray, List.set_cons_zero, List.set_cons_succ]
        generalize X3.alloc (.cells #[.int .i64 0, .bool false, .int .i64 0, .slice none 0 0] 31) = X11 at *
        refine wpAnyH_ready (rs := [3]) (by kernel_rfl) (by simp) ?_
        refine AllReadyH.cons (o := { dst := some 78, op := Go.Op.call { callee := Go.Callee.value (Go.Operand.func 17), args := #[Go.Operand.tmp 77], argTypes := #[43] }, type := 27, pos := "exact.go:2840", after := #[{ on := 2, ground := Go.Ground.data }, { on := 1, ground := Go.Ground.chain }], guard := none }) rfl (fun K hK => ?_) AllReadyH.nil
        go_simp
        go_at_call 17
        refine (to_Write _ x1 _ ((unhide HA1).reads.later hHeld) (unhide HN1)).mono ?_
        rintro e X12 ⟨vT1, rfl, OT, hbw⟩
        have rt1 := OT.reads
        obtain ⟨a2T1, d2T1, rfl, -⟩ := open_Write rt1
        replace rt0 := rt0.later hbw
        replace bx := bx.keep hbw
        clear OT
        try go_wp2_with fail
        refine hK.out _ _ (hHeld.trans (hbw.mono hHeld.size)) (fun hHeld => ?_)
        clear hK K hbw
        try simp only [Act.put, List.setIfInBounds_toArray, List.set_cons_zero, List.set_cons_succ]
        refine wpAnyH_ready (rs := [4]) (by kernel_rfl) (by simp) ?_
        refine AllReadyH.cons (o := { dst := some 79, op := Go.Op.call { callee := Go.Callee.value (Go.Operand.func 7), args := #[Go.Operand.tmp 76, Go.Operand.tmp 78], argTypes := #[24, 27] }, type := 31, pos := "exact.go:2840", after := #[{ on := 1, ground := Go.Ground.data }, { on := 3, ground := Go.Ground.data }, { on := 3, ground := Go.Ground.chain }], guard := none }) rfl (fun K hK => ?_) AllReadyH.nil
        go_simp
        go_at_call 7
        refine (unhide HI _ _ _ (((unhide HT).later (unhide HB)).later hHeld) rt0 rt1).mono ?_
        rintro e X13 ⟨cs, rfl, O, hbw⟩
        obtain ⟨a3K, d3K, rfl, -⟩ := open_OnceResult O.reads
        have hs0 := bx.lt
        replace bx := bx.keep hbw
        have hz9 := hbw.size
        have rd := O.lies
        clear O
        replace rd := rd.mono (lo' := X3.heap.size + 1) (by omega) (Nat.le_refl _)
        clear hs0
        try go_wp2_with fail
        refine hK.out _ _ (hHeld.trans (hbw.mono hHeld.size)) (fun hHeld => ?_)
        clear hK K hbw hz9
        try simp only [Act.put, List.setIfInBounds_toArray, List.set_cons_zero, List.set_cons_succ]
        clear rt0 rt1
        refine wpAnyH_ready (rs := [6]) (by kernel_rfl) (by simp) ?_
        refine AllReadyH.cons (o := { dst := none, op := Go.Op.store 31 (Go.Operand.tmp 13) (Go.Operand.tmp 79), type := 0, pos := "exact.go:2840", after := #[{ on := 5, ground := Go.Ground.data }, { on := 4, ground := Go.Ground.data }, { on := 4, ground := Go.Ground.chain }, { on := 0, ground := Go.Ground.phase }, { on := 1, ground := Go.Ground.phase }, { on := 2, ground := Go.Ground.phase }, { on := 3, ground := Go.Ground.phase }, { on := 4, ground := Go.Ground.phase }, { on := 5, ground := Go.Ground.phase }], guard := none }) rfl (fun K hK => ?_) AllReadyH.nil
        have z0 : X13.cell? ⟨X3.heap.size, 0, none⟩ = some (.int .i64 0) := bx.at 0 _ rfl
        have f0 := bx.soft 0
        have z1 : X13.cell? ⟨X3.heap.size, 1, none⟩ = some (.bool false) := bx.at 1 _ rfl
        have f1 := bx.soft 1
        have z2 : X13.cell? ⟨X3.heap.size, 2, none⟩ = some (.int .i64 0) := bx.at 2 _ rfl
        have f2 := bx.soft 2
        have z3 : X13.cell? ⟨X3.heap.size, 3, none⟩ = some (.slice none 0 0) := bx.at 3 _ rfl
        have f3 := bx.soft 3
        have l0 := bx.lt
        have bx9 : Box w18.heap.size #[.int .i64 y.code, .bool y.isNew, .int .i64 y.place, .slice a3K y.writes.length d3K] 31 ((((X13.setCell ⟨X3.heap.size, 0, none⟩ (.int .i64 y.code)).setCell ⟨X3.heap.size, 1, none⟩ (.bool y.isNew)).setCell ⟨X3.heap.size, 2, none⟩ (.int .i64 y.place)).setCell ⟨X3.heap.size, 3, none⟩ (.slice a3K y.writes.length d3K)) X3.heap.size := ((((bx.set 0 (.int .i64 y.code)).set 1 (.bool y.isNew)).set 2 (.int .i64 y.place)).set 3 (.slice a3K y.writes.length d3K))
        have hE9 : Ext (fun c => c = X3.heap.size) X13 ((((X13.setCell ⟨X3.heap.size, 0, none⟩ (.int .i64 y.code)).setCell ⟨X3.heap.size, 1, none⟩ (.bool y.isNew)).setCell ⟨X3.heap.size, 2, none⟩ (.int .i64 y.place)).setCell ⟨X3.heap.size, 3, none⟩ (.slice a3K y.writes.length d3K)) := (((((Ext.refl (fun c => c = X3.heap.size) _).setCell ⟨X3.heap.size, 0, none⟩ (.int .i64 y.code) rfl).setCell ⟨X3.heap.size, 1, none⟩ (.bool y.isNew) rfl).setCell ⟨X3.heap.size, 2, none⟩ (.int .i64 y.place) rfl).setCell ⟨X3.heap.size, 3, none⟩ (.slice a3K y.writes.length d3K) rfl)
        have rd9 := (rd.ext hE9 (fun c h1 h2 h3 => by omega)).reads
        have hH9 : Below w18.heap.size w18 ((((X13.setCell ⟨X3.heap.size, 0, none⟩ (.int .i64 y.code)).setCell ⟨X3.heap.size, 1, none⟩ (.bool y.isNew)).setCell ⟨X3.heap.size, 2, none⟩ (.int .i64 y.place)).setCell ⟨X3.heap.size, 3, none⟩ (.slice a3K y.writes.length d3K)) := ((((hHeld.setCell (by simpa using bx.1) (.int .i64 y.code)).setCell (by simpa using bx.1) (.bool y.isNew)).setCell (by simpa using bx.1) (.int .i64 y.place)).setCell (by simpa using bx.1) (.slice a3K y.writes.length d3K))
        clear bx rd hE9
        have bx := bx9
        have rd := rd9
        clear bx9 rd9
        go_simp
        refine hK.out _ _ hH9 (fun hHeld => ?_)
        clear hK K hH9 l0 z0 f0 z1 f1 z2 f2 z3 f3
        try simp only [Act.put, List.setIfInBounds_toArray, List.set_cons_zero, List.set_cons_succ]
        refine wpAnyH_done (by kernel_rfl) ?_ _
        refine NoPanic.normal ?_
        have HH := hide hHeld
        have HBX := hide bx
        have HRD := hide rd
        clear hHeld bx rd
        go_wp2_with fail
        go_meet
        exact ⟨_, _, _, rfl, (unhide HBX).lt, unhide HBX, unhide HRD, unhide HH⟩
    · have bx : Box w18.heap.size #[.int .i64 0, .bool false, .int .i64 0, .slice none 0 0] 31 (X0.alloc (.cells #[.int .i64 0, .bool false, .int .i64 0, .slice none 0 0] 31)) X0.heap.size := newBox hHeld.size
      have nbA : Below X0.heap.size X0 (X0.alloc (.cells #[.int .i64 0, .bool false, .int .i64 0, .slice none 0 0] 31)) := (Below.refl _ _).alloc (Nat.le_refl _) _
      have hNx := hHeld.trans (nbA.mono hHeld.size)
      go_simp
      refine hK.out _ _ hNx (fun hHeld => ?_)
      clear hK K hNx nbA
      try simp only [Act.put, List.setIfInBounds_toArray, List.set_cons_zero, List.set_cons_succ]
      generalize X0.alloc (.cells #[.int .i64 0, .bool false, .int .i64 0, .slice none 0 0] 31) = X15 at *
      refine wpAnyH_ready (rs := [1]) (by kernel_rfl) (by simp) ?_
      refine AllReadyH.cons (o := { dst := some 76, op := Go.Op.call { callee := Go.Callee.value (Go.Operand.func 16), args := #[Go.Operand.tmp 75], argTypes := #[42] }, type := 24, pos := "exact.go:2840", after := #[{ on := 0, ground := Go.Ground.data }], guard := none }) rfl (fun K hK => ?_) AllReadyH.nil
      go_simp
      go_at_call 16
      refine (to_WriteS _ x0 _ ((unhide HA0).reads.later hHeld) (unhide HN0)).mono ?_
      rintro e X16 ⟨vT0, rfl, OT, hbw⟩
      have rt0 := OT.reads
      obtain ⟨aoT0, cpT0, rfl⟩ := open_sl rt0
      replace bx := bx.keep hbw
      clear OT
      try go_wp2_with fail
      refine hK.out _ _ (hHeld.trans (hbw.mono hHeld.size)) (fun hHeld => ?_)
      clear hK K hbw
      try simp only [Act.put, List.setIfInBounds_toArray, List.set_cons_zero, List.set_cons_succ]
      refine wpAnyH_ready (rs := [3]) (by kernel_rfl) (by simp) ?_
      refine AllReadyH.cons (o := { dst := some 78, op := Go.Op.call { callee := Go.Callee.value (Go.Operand.func 17), args := #[Go.Operand.tmp 77], argTypes := #[43] }, type := 27, pos := "exact.go:2840", after := #[{ on := 2, ground := Go.Ground.data }, { on := 1, ground := Go.Ground.chain }], guard := none }) rfl (fun K hK => ?_) AllReadyH.nil
      go_simp
      go_at_call 17
      refine (to_Write _ x1 _ ((unhide HA1).reads.later hHeld) (unhide HN1)).mono ?_
      rintro e X17 ⟨vT1, rfl, OT, hbw⟩
      have rt1 := OT.reads
      obtain ⟨a2T1, d2T1, rfl, -⟩ := open_Write rt1
      replace rt0 := rt0.later hbw
      replace bx := bx.keep hbw
      clear OT
      try go_wp2_with fail
      refine hK.out _ _ (hHeld.trans (hbw.mono hHeld.size)) (fun hHeld => ?_)
      clear hK K hbw
      try simp only [Act.put, List.setIfInBounds_toArray, List.set_cons_zero, List.set_cons_succ]
      refine wpAnyH_ready (rs := [4]) (by kernel_rfl) (by simp) ?_
      refine AllReadyH.cons (o := { dst := some 79, op := Go.Op.call { callee := Go.Callee.value (Go.Operand.func 7), args := #[Go.Operand.tmp 76, Go.Operand.tmp 78], argTypes := #[24, 27] }, type := 31, pos := "exact.go:2840", after := #[{ on := 1, ground := Go.Ground.data }, { on := 3, ground := Go.Ground.data }, { on := 3, ground := Go.Ground.chain }], guard := none }) rfl (fun K hK => ?_) AllReadyH.nil
      go_simp
      go_at_call 7
      refine (unhide HI _ _ _ (((unhide HT).later (unhide HB)).later hHeld) rt0 rt1).mono ?_
      rintro e X18 ⟨cs, rfl, O, hbw⟩
      obtain ⟨a3K, d3K, rfl, -⟩ := open_OnceResult O.reads
      have hs0 := bx.lt
      replace bx := bx.keep hbw
      have hz9 := hbw.size
      have rd := O.lies
      clear O
      replace rd := rd.mono (lo' := X0.heap.size + 1) (by omega) (Nat.le_refl _)
      clear hs0
      try go_wp2_with fail
      refine hK.out _ _ (hHeld.trans (hbw.mono hHeld.size)) (fun hHeld => ?_)
      clear hK K hbw hz9
      try simp only [Act.put, List.setIfInBounds_toArray, List.set_cons_zero, List.set_cons_succ]
      clear rt0 rt1
      refine wpAnyH_ready (rs := [6]) (by kernel_rfl) (by simp) ?_
      refine AllReadyH.cons (o := { dst := none, op := Go.Op.store 31 (Go.Operand.tmp 13) (Go.Operand.tmp 79), type := 0, pos := "exact.go:2840", after := #[{ on := 5, ground := Go.Ground.data }, { on := 4, ground := Go.Ground.data }, { on := 4, ground := Go.Ground.chain }, { on := 0, ground := Go.Ground.phase }, { on := 1, ground := Go.Ground.phase }, { on := 2, ground := Go.Ground.phase }, { on := 3, ground := Go.Ground.phase }, { on := 4, ground := Go.Ground.phase }, { on := 5, ground := Go.Ground.phase }], guard := none }) rfl (fun K hK => ?_) AllReadyH.nil
      have z0 : X18.cell? ⟨X0.heap.size, 0, none⟩ = some (.int .i64 0) := bx.at 0 _ rfl
      have f0 := bx.soft 0
      have z1 : X18.cell? ⟨X0.heap.size, 1, none⟩ = some (.bool false) := bx.at 1 _ rfl
      have f1 := bx.soft 1
      have z2 : X18.cell? ⟨X0.heap.size, 2, none⟩ = some (.int .i64 0) := bx.at 2 _ rfl
      have f2 := bx.soft 2
      have z3 : X18.cell? ⟨X0.heap.size, 3, none⟩ = some (.slice none 0 0) := bx.at 3 _ rfl
      have f3 := bx.soft 3
      have l0 := bx.lt
      have bx9 : Box w18.heap.size #[.int .i64 y.code, .bool y.isNew, .int .i64 y.place, .slice a3K y.writes.length d3K] 31 ((((X18.setCell ⟨X0.heap.size, 0, none⟩ (.int .i64 y.code)).setCell ⟨X0.heap.size, 1, none⟩ (.bool y.isNew)).setCell ⟨X0.heap.size, 2, none⟩ (.int .i64 y.place)).setCell ⟨X0.heap.size, 3, none⟩ (.slice a3K y.writes.length d3K)) X0.heap.size := ((((bx.set 0 (.int .i64 y.code)).set 1 (.bool y.isNew)).set 2 (.int .i64 y.place)).set 3 (.slice a3K y.writes.length d3K))
      have hE9 : Ext (fun c => c = X0.heap.size) X18 ((((X18.setCell ⟨X0.heap.size, 0, none⟩ (.int .i64 y.code)).setCell ⟨X0.heap.size, 1, none⟩ (.bool y.isNew)).setCell ⟨X0.heap.size, 2, none⟩ (.int .i64 y.place)).setCell ⟨X0.heap.size, 3, none⟩ (.slice a3K y.writes.length d3K)) := (((((Ext.refl (fun c => c = X0.heap.size) _).setCell ⟨X0.heap.size, 0, none⟩ (.int .i64 y.code) rfl).setCell ⟨X0.heap.size, 1, none⟩ (.bool y.isNew) rfl).setCell ⟨X0.heap.size, 2, none⟩ (.int .i64 y.place) rfl).setCell ⟨X0.heap.size, 3, none⟩ (.slice a3K y.writes.length d3K) rfl)
      have rd9 := (rd.ext hE9 (fun c h1 h2 h3 => by omega)).reads
      have hH9 : Below w18.heap.size w18 ((((X18.setCell ⟨X0.heap.size, 0, none⟩ (.int .i64 y.code)).setCell ⟨X0.heap.size, 1, none⟩ (.bool y.isNew)).setCell ⟨X0.heap.size, 2, none⟩ (.int .i64 y.place)).setCell ⟨X0.heap.size, 3, none⟩ (.slice a3K y.writes.length d3K)) := ((((hHeld.setCell (by simpa using bx.1) (.int .i64 y.code)).setCell (by simpa using bx.1) (.bool y.isNew)).setCell (by simpa using bx.1) (.int .i64 y.place)).setCell (by simpa using bx.1) (.slice a3K y.writes.length d3K))
      clear bx rd hE9
      have bx := bx9
      have rd := rd9
      clear bx9 rd9
      go_simp
      refine hK.out _ _ hH9 (fun hHeld => ?_)
      clear hK K hH9 l0 z0 f0 z1 f1 z2 f2 z3 f3
      try simp only [Act.put, List.setIfInBounds_toArray, List.set_cons_zero, List.set_cons_succ]
      refine wpAnyH_done (by kernel_rfl) ?_ _
      refine NoPanic.normal ?_
      have HH := hide hHeld
      have HBX := hide bx
      have HRD := hide rd
      clear hHeld bx rd
      go_wp2_with fail
      go_meet
      exact ⟨_, _, _, rfl, (unhide HBX).lt, unhide HBX, unhide HRD, unhide HH⟩
  case rest =>
  obtain ⟨sK, a3K, d3K, rfl, hsK, YB, O, hb⟩ := hcut
  obtain ⟨w19, hww19⟩ : ∃ q, q = wc := ⟨_, rfl⟩
  subst hww19
  clear l0P1 l1P1 l2P1 l3P1 l4P1 ltP1
  replace HA0 := hide ((unhide HA0).later hb)
  replace HA1 := hide ((unhide HA1).later hb)
  replace P1 := hide ((unhide P1).keep hb)
  replace HW := hide ((unhide HW).later hb)
  replace YW := hide ((unhide YW).keep hb)
  replace X1 := hide ((unhide X1).keep hb)
  replace YG := hide ((unhide YG).keep hb)
  replace HG := hide ((unhide HG).later hb)
  have Zw19 : w18.heap.size ≤ w19.heap.size := hb.size
  replace HB := hide ((unhide HB).trans (hb.mono (by omega)))
  clear hb
  have YK := hide YB
  have HK := hide O.liesIn
  clear YB O
  have l0P1 := (unhide P1).at 0 _ rfl
  have l1P1 := (unhide P1).at 1 _ rfl
  have l2P1 := (unhide P1).at 2 _ rfl
  have l3P1 := (unhide P1).at 3 _ rfl
  have l4P1 := (unhide P1).at 4 _ rfl
  have ltP1 : w.heap.size < w19.heap.size := by omega
  have l0YW := (unhide YW).at 0 _ rfl
  have l1YW := (unhide YW).at 1 _ rfl
  have l2YW := (unhide YW).at 2 _ rfl
  have l3YW := (unhide YW).at 3 _ rfl
  have ltYW : sW < w19.heap.size := by omega
  have l0X1 := (unhide X1).at 0 _ rfl
  have l1X1 := (unhide X1).at 1 _ rfl
  have l2X1 := (unhide X1).at 2 _ rfl
  have l3X1 := (unhide X1).at 3 _ rfl
  have l4X1 := (unhide X1).at 4 _ rfl
  have ltX1 : w6.heap.size < w19.heap.size := by omega
  have l0YG := (unhide YG).at 0 _ rfl
  have l1YG := (unhide YG).at 1 _ rfl
  have l2YG := (unhide YG).at 2 _ rfl
  have l3YG := (unhide YG).at 3 _ rfl
  have ltYG : w8.heap.size < w19.heap.size := by omega
  have l0YK := (unhide YK).at 0 _ rfl
  have l1YK := (unhide YK).at 1 _ rfl
  have l2YK := (unhide YK).at 2 _ rfl
  have l3YK := (unhide YK).at 3 _ rfl
  have ltYK : sK < w19.heap.size := by omega
  simp only [List.getElem_toArray, List.getElem_cons_zero, List.getElem_cons_succ] at l0P1 l1P1 l2P1 l3P1 l4P1 l0YW l1YW l2YW l3YW l0X1 l1X1 l2X1 l3X1 l4X1 l0YG l1YG l2YG l3YG l0YK l1YK l2YK l3YK
  go_wp2_with fail
  clear l0P1 l1P1 l2P1 l3P1 l4P1 ltP1 l0YW l1YW l2YW l3YW ltYW l0X1 l1X1 l2X1 l3X1 l4X1 ltX1 l0YG l1YG l2YG l3YG ltYG l0YK l1YK l2YK l3YK ltYK
  refine (eq_OnceResult _ _ y w19 (unhide HK).reads (unhide HW).reads).mono ?_
  rintro e w20 ⟨rfl, hb⟩
  replace HA0 := hide ((unhide HA0).later hb)
  replace HA1 := hide ((unhide HA1).later hb)
  replace P1 := hide ((unhide P1).keep hb)
  replace HW := hide ((unhide HW).later hb)
  replace YW := hide ((unhide YW).keep hb)
  replace X1 := hide ((unhide X1).keep hb)
  replace YG := hide ((unhide YG).keep hb)
  replace HG := hide ((unhide HG).later hb)
  replace HK := hide ((unhide HK).later hb)
  replace YK := hide ((unhide YK).keep hb)
  have Zw20 : w19.heap.size ≤ w20.heap.size := hb.size
  replace HB := hide ((unhide HB).trans (hb.mono (by omega)))
  clear hb
  clear HK
  clear YK
  have l0P1 := (unhide P1).at 0 _ rfl
  have l1P1 := (unhide P1).at 1 _ rfl
  have l2P1 := (unhide P1).at 2 _ rfl
  have l3P1 := (unhide P1).at 3 _ rfl
  have l4P1 := (unhide P1).at 4 _ rfl
  have ltP1 : w.heap.size < w20.heap.size := by omega
  have l0YW := (unhide YW).at 0 _ rfl
  have l1YW := (unhide YW).at 1 _ rfl
  have l2YW := (unhide YW).at 2 _ rfl
  have l3YW := (unhide YW).at 3 _ rfl
  have ltYW : sW < w20.heap.size := by omega
  have l0X1 := (unhide X1).at 0 _ rfl
  have l1X1 := (unhide X1).at 1 _ rfl
  have l2X1 := (unhide X1).at 2 _ rfl
  have l3X1 := (unhide X1).at 3 _ rfl
  have l4X1 := (unhide X1).at 4 _ rfl
  have ltX1 : w6.heap.size < w20.heap.size := by omega
  have l0YG := (unhide YG).at 0 _ rfl
  have l1YG := (unhide YG).at 1 _ rfl
  have l2YG := (unhide YG).at 2 _ rfl
  have l3YG := (unhide YG).at 3 _ rfl
  have ltYG : w8.heap.size < w20.heap.size := by omega
  simp only [List.getElem_toArray, List.getElem_cons_zero, List.getElem_cons_succ] at l0P1 l1P1 l2P1 l3P1 l4P1 l0YW l1YW l2YW l3YW l0X1 l1X1 l2X1 l3X1 l4X1 l0YG l1YG l2YG l3YG
  go_wp2_with fail
  clear l0P1 l1P1 l2P1 l3P1 l4P1 ltP1 l0YW l1YW l2YW l3YW ltYW l0X1 l1X1 l2X1 l3X1 l4X1 ltX1 l0YG l1YG l2YG l3YG ltYG
  refine (held_OnceResult _ y 1 w20 (unhide HG).reads (by omega) (by have := unhide HC; omega)).mono ?_
  rintro e w21 ⟨rfl, hb⟩
  replace HA0 := hide ((unhide HA0).later hb)
  replace HA1 := hide ((unhide HA1).later hb)
  replace P1 := hide ((unhide P1).keep hb)
  replace HW := hide ((unhide HW).later hb)
  replace YW := hide ((unhide YW).keep hb)
  replace X1 := hide ((unhide X1).keep hb)
  replace YG := hide ((unhide YG).keep hb)
  replace HG := hide ((unhide HG).later hb)
  have Zw21 : w20.heap.size ≤ w21.heap.size := hb.size
  replace HB := hide ((unhide HB).trans (hb.mono (by omega)))
  clear hb
  have l0P1 := (unhide P1).at 0 _ rfl
  have l1P1 := (unhide P1).at 1 _ rfl
  have l2P1 := (unhide P1).at 2 _ rfl
  have l3P1 := (unhide P1).at 3 _ rfl
  have l4P1 := (unhide P1).at 4 _ rfl
  have ltP1 : w.heap.size < w21.heap.size := by omega
  have l0YW := (unhide YW).at 0 _ rfl
  have l1YW := (unhide YW).at 1 _ rfl
  have l2YW := (unhide YW).at 2 _ rfl
  have l3YW := (unhide YW).at 3 _ rfl
  have ltYW : sW < w21.heap.size := by omega
  have l0X1 := (unhide X1).at 0 _ rfl
  have l1X1 := (unhide X1).at 1 _ rfl
  have l2X1 := (unhide X1).at 2 _ rfl
  have l3X1 := (unhide X1).at 3 _ rfl
  have l4X1 := (unhide X1).at 4 _ rfl
  have ltX1 : w6.heap.size < w21.heap.size := by omega
  have l0YG := (unhide YG).at 0 _ rfl
  have l1YG := (unhide YG).at 1 _ rfl
  have l2YG := (unhide YG).at 2 _ rfl
  have l3YG := (unhide YG).at 3 _ rfl
  have ltYG : w8.heap.size < w21.heap.size := by omega
  simp only [List.getElem_toArray, List.getElem_cons_zero, List.getElem_cons_succ] at l0P1 l1P1 l2P1 l3P1 l4P1 l0YW l1YW l2YW l3YW l0X1 l1X1 l2X1 l3X1 l4X1 l0YG l1YG l2YG l3YG
  go_wp2_with fail
  clear l0P1 l1P1 l2P1 l3P1 l4P1 ltP1 l0YW l1YW l2YW l3YW ltYW l0X1 l1X1 l2X1 l3X1 l4X1 ltX1 l0YG l1YG l2YG l3YG ltYG
  go_ret
  exact ⟨rfl, unhide HB⟩


set_option maxRecDepth 10000 in
set_option maxHeartbeats 1000000 in
theorem lawover_AppendOnce (v0 : Value) (x0 : List DWrite) (u1 : List Value) (x1 : DWrite) (w : World) (A0 : (Lay.sl Lay.tWrite).Reads w [v0] x0) (A1 : Lay.tWrite.Reads w u1 x1) (NS : 1048576 < (Lay.sl Lay.tWrite).sz x0 + Lay.tWrite.sz x1) :
    Calls Tryd.prog 4 #[v0, .agg u1.toArray] w fun e w' => e = .returned (.bool true) ∧ Below w.heap.size w w' := by
  obtain ⟨ao0, cp0, rfl⟩ := open_sl A0
  obtain ⟨a2p1, d2p1, rfl, -⟩ := open_Write A1
  have HA0 := hide A0.liesIn
  clear A0
  have HA1 := hide A1.liesIn
  clear A1
  have HB := hide (Below.refl w.heap.size w)
  go_enter Tryd.func4, Tryd.ntmps4
  go_wp2_with fail
  have nb : Below w.heap.size w (w.alloc (.cells #[.int .i64 x1.kind, .int .i64 x1.id, .slice a2p1 x1.vec.length d2p1, .int .i64 x1.session, .int .i64 x1.seq] 43)) := (Below.refl w.heap.size w).alloc (Nat.le_refl _) _
  have P1 : Hid (Box w.heap.size #[.int .i64 x1.kind, .int .i64 x1.id, .slice a2p1 x1.vec.length d2p1, .int .i64 x1.session, .int .i64 x1.seq] 43 (w.alloc (.cells #[.int .i64 x1.kind, .int .i64 x1.id, .slice a2p1 x1.vec.length d2p1, .int .i64 x1.session, .int .i64 x1.seq] 43)) (w.heap.size)) := newBoxAt (by omega) (by simp)
  generalize haw1 : (w.alloc (.cells #[.int .i64 x1.kind, .int .i64 x1.id, .slice a2p1 x1.vec.length d2p1, .int .i64 x1.session, .int .i64 x1.seq] 43)) = w1 at *
  have Gw1 : w.heap.size + 1 ≤ w1.heap.size := by rw [← haw1]; simp
  clear haw1
  replace HA0 := hide ((unhide HA0).later nb)
  replace HA1 := hide ((unhide HA1).later nb)
  have Zw1 : w.heap.size ≤ w1.heap.size := nb.size
  replace HB := hide ((unhide HB).trans (nb.mono (by omega)))
  clear nb
  refine (sz_WriteS _ x0 (1048576) w1 (unhide HA0).reads (by omega)).mono ?_
  rintro e w2 ⟨rfl, hb⟩
  replace HA0 := hide ((unhide HA0).later hb)
  replace HA1 := hide ((unhide HA1).later hb)
  replace P1 := hide ((unhide P1).keep hb)
  have Zw2 : w1.heap.size ≤ w2.heap.size := hb.size
  replace HB := hide ((unhide HB).trans (hb.mono (by omega)))
  clear hb
  by_cases hs0 : (Lay.sl Lay.tWrite).sz x0 ≤ 1048576
  · rw [szR_ok hs0]
    have hq0 : decide (((1048576 - (Lay.sl Lay.tWrite).sz x0 : Nat) : Int) < 0) = false := by simp
    have l0P1 := (unhide P1).at 0 _ rfl
    have l1P1 := (unhide P1).at 1 _ rfl
    have l2P1 := (unhide P1).at 2 _ rfl
    have l3P1 := (unhide P1).at 3 _ rfl
    have l4P1 := (unhide P1).at 4 _ rfl
    have ltP1 : w.heap.size < w2.heap.size := by omega
    simp only [List.getElem_toArray, List.getElem_cons_zero, List.getElem_cons_succ] at l0P1 l1P1 l2P1 l3P1 l4P1
    go_wp2_with fail
    clear l0P1 l1P1 l2P1 l3P1 l4P1 ltP1
    clear hq0
    refine (sz_Write _ x1 (1048576 - (Lay.sl Lay.tWrite).sz x0) w2 (unhide HA1).reads (by omega)).mono ?_
    rintro e w3 ⟨rfl, hb⟩
    replace HA0 := hide ((unhide HA0).later hb)
    replace HA1 := hide ((unhide HA1).later hb)
    replace P1 := hide ((unhide P1).keep hb)
    have Zw3 : w2.heap.size ≤ w3.heap.size := hb.size
    replace HB := hide ((unhide HB).trans (hb.mono (by omega)))
    clear hb
    rw [szR_many (by omega)]
    go_wp2_with fail
    go_ret
    exact ⟨rfl, unhide HB⟩
  · rw [szR_many (by omega)]
    go_wp2_with fail
    go_ret
    exact ⟨rfl, unhide HB⟩

end Go.Proofs.YtkodenmpadehjaaDoor
