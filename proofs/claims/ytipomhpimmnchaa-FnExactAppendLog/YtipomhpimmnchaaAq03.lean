/-
  The law FnExactAppendLog answers true at all that comes in, and writes nothing that was there.
  Condition: the program and the model tell the same (premises).
-/
import Derived.Test.YtipomhpimmnchaaChecked
import Derived.Test.YtipomhpimmnchaaAq01
import Derived.Test.YtipomhpimmnchaaAq02
import Derived.Deep.RegionHeld3
import Derived.Deep.CutRange

namespace Go.Proofs.Ytipomhpimmnchaa
open Go.RowKit

set_option maxRecDepth 100000 in
set_option maxHeartbeats 4000000 in
theorem lawx_AppendLog (u0 : List Value) (x0 : DLog) (u1 : List Value) (x1 : DWrite) (y : DLogResult) (w : World) (A0 : Lay.tLog.Reads w u0 x0) (A1 : Lay.tWrite.Reads w u1 x1) (NS : Lay.tLog.sz x0 + Lay.tWrite.sz x1 ≤ 1048576)
    (hS : ∀ (W : World) (u0 : List Value) (u1 : List Value), Lay.tLog.Reads W u0 x0 → Lay.tWrite.Reads W u1 x1 → Calls Try.prog 34 #[.agg u0.toArray, .agg u1.toArray] W fun e w' => ∃ cs, e = .returned (.agg cs.toArray) ∧ Lay.tLogResult.LiesIn w' cs y W.heap.size w'.heap.size ∧ Below W.heap.size W w')
    (hI : ∀ (W : World) (u0 : List Value) (u1 : List Value), Lay.tLog.Reads W u0 x0 → Lay.tWrite.Reads W u1 x1 → Calls Try.prog 36 #[.agg u0.toArray, .agg u1.toArray] W fun e w' => ∃ cs, e = .returned (.agg cs.toArray) ∧ Lay.tLogResult.OwnIn w' cs y W.heap.size w'.heap.size ∧ Below W.heap.size W w') (hc : Lay.tLogResult.vcnt y ≤ 100000000) :
    Calls Try.prog 6 #[.agg u0.toArray, .agg u1.toArray] w fun e w' => e = .returned (.bool true) ∧ Below w.heap.size w w' := by
  obtain ⟨a0p0, d0p0, a1p0, d1p0, rfl, -, -⟩ := open_Log A0
  obtain ⟨a2p1, d2p1, rfl, -⟩ := open_Write A1
  have HS := hide hS
  have HI := hide hI
  clear hS hI
  have HA0 := hide A0.liesIn
  clear A0
  have HA1 := hide A1.liesIn
  clear A1
  have N0 : Lay.tLog.sz x0 ≤ 1048576 := by omega
  have N1 : Lay.tWrite.sz x1 ≤ 1048576 := by omega
  have HN0 := hide N0
  have HN1 := hide N1
  clear N0 N1
  have HC := hide hc
  clear hc
  have HNS := hide NS
  clear NS
  have HB := hide (Below.refl w.heap.size w)
  go_enter Try.func6, Try.ntmps6
  go_wp2_with fail
  have nb : Below w.heap.size w ((w.alloc (.cells #[.slice a0p0 x0.sure.length d0p0, .slice a1p0 x0.loose.length d1p0] 45)).alloc (.cells #[.int .i64 x1.kind, .int .i64 x1.id, .slice a2p1 x1.vec.length d2p1, .int .i64 x1.session, .int .i64 x1.seq] 53)) := ((Below.refl w.heap.size w).alloc (Nat.le_refl _) _).alloc (by simp) _
  have P0 : Hid (Box w.heap.size #[.slice a0p0 x0.sure.length d0p0, .slice a1p0 x0.loose.length d1p0] 45 ((w.alloc (.cells #[.slice a0p0 x0.sure.length d0p0, .slice a1p0 x0.loose.length d1p0] 45)).alloc (.cells #[.int .i64 x1.kind, .int .i64 x1.id, .slice a2p1 x1.vec.length d2p1, .int .i64 x1.session, .int .i64 x1.seq] 53)) (w.heap.size)) := (newBoxAt (by omega) (by simp)).grow _
  have P1 : Hid (Box w.heap.size #[.int .i64 x1.kind, .int .i64 x1.id, .slice a2p1 x1.vec.length d2p1, .int .i64 x1.session, .int .i64 x1.seq] 53 ((w.alloc (.cells #[.slice a0p0 x0.sure.length d0p0, .slice a1p0 x0.loose.length d1p0] 45)).alloc (.cells #[.int .i64 x1.kind, .int .i64 x1.id, .slice a2p1 x1.vec.length d2p1, .int .i64 x1.session, .int .i64 x1.seq] 53)) (w.heap.size + 1)) := newBoxAt (by omega) (by simp)
  generalize haw1 : ((w.alloc (.cells #[.slice a0p0 x0.sure.length d0p0, .slice a1p0 x0.loose.length d1p0] 45)).alloc (.cells #[.int .i64 x1.kind, .int .i64 x1.id, .slice a2p1 x1.vec.length d2p1, .int .i64 x1.session, .int .i64 x1.seq] 53)) = w1 at *
  have Gw1 : w.heap.size + 2 ≤ w1.heap.size := by rw [← haw1]; simp
  clear haw1
  replace HA0 := hide ((unhide HA0).later nb)
  replace HA1 := hide ((unhide HA1).later nb)
  have Zw1 : w.heap.size ≤ w1.heap.size := nb.size
  replace HB := hide ((unhide HB).trans (nb.mono (by omega)))
  clear nb
  have hns := unhide HNS
  refine (sz_Log _ x0 (1048576) w1 (unhide HA0).reads (by omega)).mono ?_
  rintro e w2 ⟨rfl, hb⟩
  replace HA0 := hide ((unhide HA0).later hb)
  replace HA1 := hide ((unhide HA1).later hb)
  replace P0 := hide ((unhide P0).keep hb)
  replace P1 := hide ((unhide P1).keep hb)
  have Zw2 : w1.heap.size ≤ w2.heap.size := hb.size
  replace HB := hide ((unhide HB).trans (hb.mono (by omega)))
  clear hb
  rw [szR_ok (by omega)]
  have hq0 : decide (((1048576 - Lay.tLog.sz x0 : Nat) : Int) < 0) = false := by simp
  clear hns
  have l0P0 := (unhide P0).at 0 _ rfl
  have l1P0 := (unhide P0).at 1 _ rfl
  have ltP0 : w.heap.size < w2.heap.size := by omega
  have l0P1 := (unhide P1).at 0 _ rfl
  have l1P1 := (unhide P1).at 1 _ rfl
  have l2P1 := (unhide P1).at 2 _ rfl
  have l3P1 := (unhide P1).at 3 _ rfl
  have l4P1 := (unhide P1).at 4 _ rfl
  have ltP1 : w.heap.size + 1 < w2.heap.size := by omega
  simp only [List.getElem_toArray, List.getElem_cons_zero, List.getElem_cons_succ] at l0P0 l1P0 l0P1 l1P1 l2P1 l3P1 l4P1
  go_wp2_with fail
  clear l0P0 l1P0 ltP0 l0P1 l1P1 l2P1 l3P1 l4P1 ltP1
  clear hq0
  have hns := unhide HNS
  refine (sz_Write _ x1 (1048576 - Lay.tLog.sz x0) w2 (unhide HA1).reads (by omega)).mono ?_
  rintro e w3 ⟨rfl, hb⟩
  replace HA0 := hide ((unhide HA0).later hb)
  replace HA1 := hide ((unhide HA1).later hb)
  replace P0 := hide ((unhide P0).keep hb)
  replace P1 := hide ((unhide P1).keep hb)
  have Zw3 : w2.heap.size ≤ w3.heap.size := hb.size
  replace HB := hide ((unhide HB).trans (hb.mono (by omega)))
  clear hb
  rw [szR_ok (by omega)]
  have hq1 : decide (((1048576 - Lay.tLog.sz x0 - Lay.tWrite.sz x1 : Nat) : Int) < 0) = false := by simp
  clear hns
  have l0P0 := (unhide P0).at 0 _ rfl
  have l1P0 := (unhide P0).at 1 _ rfl
  have ltP0 : w.heap.size < w3.heap.size := by omega
  have l0P1 := (unhide P1).at 0 _ rfl
  have l1P1 := (unhide P1).at 1 _ rfl
  have l2P1 := (unhide P1).at 2 _ rfl
  have l3P1 := (unhide P1).at 3 _ rfl
  have l4P1 := (unhide P1).at 4 _ rfl
  have ltP1 : w.heap.size + 1 < w3.heap.size := by omega
  simp only [List.getElem_toArray, List.getElem_cons_zero, List.getElem_cons_succ] at l0P0 l1P0 l0P1 l1P1 l2P1 l3P1 l4P1
  go_upto_region 8 with fail
  clear l0P0 l1P0 ltP0 l0P1 l1P1 l2P1 l3P1 l4P1 ltP1
  clear hq1
  have l0P0 := (unhide P0).at 0 _ rfl
  have l1P0 := (unhide P0).at 1 _ rfl
  have ltP0 : w.heap.size < w3.heap.size := by omega
  have l0P1 := (unhide P1).at 0 _ rfl
  have l1P1 := (unhide P1).at 1 _ rfl
  have l2P1 := (unhide P1).at 2 _ rfl
  have l3P1 := (unhide P1).at 3 _ rfl
  have l4P1 := (unhide P1).at 4 _ rfl
  have ltP1 : w.heap.size + 1 < w3.heap.size := by omega
  simp only [List.getElem_toArray, List.getElem_cons_zero, List.getElem_cons_succ] at l0P0 l1P0 l0P1 l1P1 l2P1 l3P1 l4P1
  go_cut [6] from 24 to 28 (fun sL wx => ∃ (s0 : Nat) (a2W : Option Addr) (d2W : Nat) (a3W : Option Addr) (d3W : Nat), sL = .pointer (some ⟨s0, 0, none⟩) ∧ s0 < wx.heap.size ∧ Box w3.heap.size #[.int .i64 y.code, .int .i64 y.count, .slice a2W y.log.sure.length d2W, .slice a3W y.log.loose.length d3W] 56 wx s0 ∧ Lay.tLogResult.Reads wx [.int .i64 y.code, .int .i64 y.count, .slice a2W y.log.sure.length d2W, .slice a3W y.log.loose.length d3W] y ∧ Below w3.heap.size w3 wx)
  case first =>
    refine wp_region_noPanic ?_
    refine wp_region_held_drew (S := fun w' => Below w3.heap.size w3 w') (by kernel_rfl) (Below.refl _ _).drew (fun hHeld => ?_)
    generalize w3.drew = X0 at hHeld ⊢
    refine wpAnyH_take (i := 0) (oi := { dst := some 24, op := Go.Op.load 45 (Go.Operand.tmp 2), type := 45, pos := "exact.go:3514", after := #[], guard := none }) (v := ?v0_1) rfl (by kernel_rfl) (by kernel_rfl) (by kernel_rfl) (fun _ _ _ h => h) (Or.inl ⟨by rfl, ?h0_1⟩) hHeld ?r0_1
    case h0_1 =>
      intro wS hSw
      have y0P0 := (hSw.cell (p := ⟨w.heap.size, 0, none⟩) ltP0).trans l0P0
      have y1P0 := (hSw.cell (p := ⟨w.heap.size, 1, none⟩) ltP0).trans l1P0
      have y0P1 := (hSw.cell (p := ⟨w.heap.size + 1, 0, none⟩) ltP1).trans l0P1
      have y1P1 := (hSw.cell (p := ⟨w.heap.size + 1, 1, none⟩) ltP1).trans l1P1
      have y2P1 := (hSw.cell (p := ⟨w.heap.size + 1, 2, none⟩) ltP1).trans l2P1
      have y3P1 := (hSw.cell (p := ⟨w.heap.size + 1, 3, none⟩) ltP1).trans l3P1
      have y4P1 := (hSw.cell (p := ⟨w.heap.size + 1, 4, none⟩) ltP1).trans l4P1
      clear hSw
      (try dsimp only at hSw)
      go_simp
      try with_reducible rfl
    case r0_1 =>
    simp only [Act.put, List.setIfInBounds_toArray, List.set_cons_zero, List.set_cons_succ]
    refine wpAnyH_take (i := 2) (oi := { dst := some 26, op := Go.Op.load 53 (Go.Operand.tmp 3), type := 53, pos := "exact.go:3514", after := #[], guard := none }) (v := ?v2_2) rfl (by kernel_rfl) (by kernel_rfl) (by kernel_rfl) (fun _ _ _ h => h) (Or.inl ⟨by rfl, ?h2_2⟩) hHeld ?r2_2
    case h2_2 =>
      intro wS hSw
      have y0P0 := (hSw.cell (p := ⟨w.heap.size, 0, none⟩) ltP0).trans l0P0
      have y1P0 := (hSw.cell (p := ⟨w.heap.size, 1, none⟩) ltP0).trans l1P0
      have y0P1 := (hSw.cell (p := ⟨w.heap.size + 1, 0, none⟩) ltP1).trans l0P1
      have y1P1 := (hSw.cell (p := ⟨w.heap.size + 1, 1, none⟩) ltP1).trans l1P1
      have y2P1 := (hSw.cell (p := ⟨w.heap.size + 1, 2, none⟩) ltP1).trans l2P1
      have y3P1 := (hSw.cell (p := ⟨w.heap.size + 1, 3, none⟩) ltP1).trans l3P1
      have y4P1 := (hSw.cell (p := ⟨w.heap.size + 1, 4, none⟩) ltP1).trans l4P1
      clear hSw
      (try dsimp only at hSw)
      go_simp
      try with_reducible rfl
    case r2_2 =>
    simp only [Act.put, List.setIfInBounds_toArray, List.set_cons_zero, List.set_cons_succ]
    refine wpAnyH_ready (rs := [1, 5]) (by kernel_rfl) (by simp) ?_
    refine AllReadyH.cons (o := { dst := some 25, op := Go.Op.call { callee := Go.Callee.value (Go.Operand.func 30), args := #[Go.Operand.tmp 24], argTypes := #[45] }, type := 48, pos := "exact.go:3514", after := #[{ on := 0, ground := Go.Ground.data }], guard := none }) rfl (fun K hK => ?_) (AllReadyH.cons (o := { dst := some 6, op := Go.Op.alloc 56, type := 0, pos := "exact.go:3514", after := #[], guard := none }) rfl (fun K hK => ?_) AllReadyH.nil)
    · go_simp
      go_at_call 30
      refine (to_Log _ x0 _ ((unhide HA0).reads.later hHeld) (unhide HN0)).mono ?_
      rintro e X3 ⟨vT0, rfl, OT, hbw⟩
      have rt0 := OT.reads
      obtain ⟨a0T0, d0T0, a1T0, d1T0, rfl, -, -⟩ := open_Log rt0
      clear OT
      try go_wp2_with fail
      refine hK.out _ _ (hHeld.trans (hbw.mono hHeld.size)) (fun hHeld => ?_)
      clear hK K hbw
      try simp only [Act.put, List.setIfInBounds_toArray, List.set_cons_zero, List.set_cons_succ]
      refine wpAnyH_ready (rs := [3, 5]) (by kernel_rfl) (by simp) ?_
      refine AllReadyH.cons (o := { dst := some 27, op := Go.Op.call { callee := Go.Callee.value (Go.Operand.func 35), args := #[Go.Operand.tmp 26], argTypes := #[53] }, type := 58, pos := "exact.go:3514", after := #[{ on := 2, ground := Go.Ground.data }, { on := 1, ground := Go.Ground.chain }], guard := none }) rfl (fun K hK => ?_) (AllReadyH.cons (o := { dst := some 6, op := Go.Op.alloc 56, type := 0, pos := "exact.go:3514", after := #[], guard := none }) rfl (fun K hK => ?_) AllReadyH.nil)
      · go_simp
        go_at_call 35
        refine (to_Write _ x1 _ ((unhide HA1).reads.later hHeld) (unhide HN1)).mono ?_
        rintro e X4 ⟨vT1, rfl, OT, hbw⟩
        have rt1 := OT.reads
        obtain ⟨a2T1, d2T1, rfl, -⟩ := open_Write rt1
        replace rt0 := rt0.later hbw
        clear OT
        try go_wp2_with fail
        refine hK.out _ _ (hHeld.trans (hbw.mono hHeld.size)) (fun hHeld => ?_)
        clear hK K hbw
        try simp only [Act.put, List.setIfInBounds_toArray, List.set_cons_zero, List.set_cons_succ]
        refine wpAnyH_ready (rs := [4, 5]) (by kernel_rfl) (by simp) ?_
        refine AllReadyH.cons (o := { dst := some 28, op := Go.Op.call { callee := Go.Callee.value (Go.Operand.func 34), args := #[Go.Operand.tmp 25, Go.Operand.tmp 27], argTypes := #[48, 58] }, type := 56, pos := "exact.go:3514", after := #[{ on := 1, ground := Go.Ground.data }, { on := 3, ground := Go.Ground.data }, { on := 3, ground := Go.Ground.chain }], guard := none }) rfl (fun K hK => ?_) (AllReadyH.cons (o := { dst := some 6, op := Go.Op.alloc 56, type := 0, pos := "exact.go:3514", after := #[], guard := none }) rfl (fun K hK => ?_) AllReadyH.nil)
        · go_simp
          go_at_call 34
          refine (unhide HS _ _ _ rt0 rt1).mono ?_
          rintro e X5 ⟨cs, rfl, O, hbw⟩
          obtain ⟨a2W, d2W, a3W, d3W, rfl, -⟩ := open_LogResult O.reads
          have hz9 := hbw.size
          have rd := O
          clear O
          try go_wp2_with fail
          refine hK.out _ _ (hHeld.trans (hbw.mono hHeld.size)) (fun hHeld => ?_)
          clear hK K hbw hz9
          try simp only [Act.put, List.setIfInBounds_toArray, List.set_cons_zero, List.set_cons_succ]
          clear rt0 rt1
          refine wpAnyH_ready (rs := [5]) (by kernel_rfl) (by simp) ?_
          refine AllReadyH.cons (o := { dst := some 6, op := Go.Op.alloc 56, type := 0, pos := "exact.go:3514", after := #[], guard := none }) rfl (fun K hK => ?_) AllReadyH.nil
          have bx : Box w3.heap.size #[.int .i64 0, .int .i64 0, .slice none 0 0, .slice none 0 0] 56 (X5.alloc (.cells #[.int .i64 0, .int .i64 0, .slice none 0 0, .slice none 0 0] 56)) X5.heap.size := newBox hHeld.size
          have nbA : Below X5.heap.size X5 (X5.alloc (.cells #[.int .i64 0, .int .i64 0, .slice none 0 0, .slice none 0 0] 56)) := (Below.refl _ _).alloc (Nat.le_refl _) _
          replace rd := rd.later nbA
          have hNx := hHeld.trans (nbA.mono hHeld.size)
          go_simp
          refine hK.out _ _ hNx (fun hHeld => ?_)
          clear hK K hNx nbA
          try simp only [Act.put, List.setIfInBounds_toArray, List.set_cons_zero, List.set_cons_succ]
          generalize X5.alloc (.cells #[.int .i64 0, .int .i64 0, .slice none 0 0, .slice none 0 0] 56) = X6 at *
          refine wpAnyH_ready (rs := [6]) (by kernel_rfl) (by simp) ?_
          refine AllReadyH.cons (o := { dst := none, op := Go.Op.store 56 (Go.Operand.tmp 6) (Go.Operand.tmp 28), type := 0, pos := "exact.go:3514", after := #[{ on := 5, ground := Go.Ground.data }, { on := 4, ground := Go.Ground.data }, { on := 4, ground := Go.Ground.chain }, { on := 0, ground := Go.Ground.phase }, { on := 1, ground := Go.Ground.phase }, { on := 2, ground := Go.Ground.phase }, { on := 3, ground := Go.Ground.phase }, { on := 4, ground := Go.Ground.phase }, { on := 5, ground := Go.Ground.phase }], guard := none }) rfl (fun K hK => ?_) AllReadyH.nil
          have z0 : X6.cell? ⟨X5.heap.size, 0, none⟩ = some (.int .i64 0) := bx.at 0 _ rfl
          have f0 := bx.soft 0
          have z1 : X6.cell? ⟨X5.heap.size, 1, none⟩ = some (.int .i64 0) := bx.at 1 _ rfl
          have f1 := bx.soft 1
          have z2 : X6.cell? ⟨X5.heap.size, 2, none⟩ = some (.slice none 0 0) := bx.at 2 _ rfl
          have f2 := bx.soft 2
          have z3 : X6.cell? ⟨X5.heap.size, 3, none⟩ = some (.slice none 0 0) := bx.at 3 _ rfl
          have f3 := bx.soft 3
          have l0 := bx.lt
          have bx9 : Box w3.heap.size #[.int .i64 y.code, .int .i64 y.count, .slice a2W y.log.sure.length d2W, .slice a3W y.log.loose.length d3W] 56 ((((X6.setCell ⟨X5.heap.size, 0, none⟩ (.int .i64 y.code)).setCell ⟨X5.heap.size, 1, none⟩ (.int .i64 y.count)).setCell ⟨X5.heap.size, 2, none⟩ (.slice a2W y.log.sure.length d2W)).setCell ⟨X5.heap.size, 3, none⟩ (.slice a3W y.log.loose.length d3W)) X5.heap.size := ((((bx.set 0 (.int .i64 y.code)).set 1 (.int .i64 y.count)).set 2 (.slice a2W y.log.sure.length d2W)).set 3 (.slice a3W y.log.loose.length d3W))
          have hE9 : Ext (fun c => c = X5.heap.size) X6 ((((X6.setCell ⟨X5.heap.size, 0, none⟩ (.int .i64 y.code)).setCell ⟨X5.heap.size, 1, none⟩ (.int .i64 y.count)).setCell ⟨X5.heap.size, 2, none⟩ (.slice a2W y.log.sure.length d2W)).setCell ⟨X5.heap.size, 3, none⟩ (.slice a3W y.log.loose.length d3W)) := (((((Ext.refl (fun c => c = X5.heap.size) _).setCell ⟨X5.heap.size, 0, none⟩ (.int .i64 y.code) rfl).setCell ⟨X5.heap.size, 1, none⟩ (.int .i64 y.count) rfl).setCell ⟨X5.heap.size, 2, none⟩ (.slice a2W y.log.sure.length d2W) rfl).setCell ⟨X5.heap.size, 3, none⟩ (.slice a3W y.log.loose.length d3W) rfl)
          have rd9 := (rd.ext hE9 (fun c h1 h2 h3 => by omega)).reads
          have hH9 : Below w3.heap.size w3 ((((X6.setCell ⟨X5.heap.size, 0, none⟩ (.int .i64 y.code)).setCell ⟨X5.heap.size, 1, none⟩ (.int .i64 y.count)).setCell ⟨X5.heap.size, 2, none⟩ (.slice a2W y.log.sure.length d2W)).setCell ⟨X5.heap.size, 3, none⟩ (.slice a3W y.log.loose.length d3W)) := ((((hHeld.setCell (by simpa using bx.1) (.int .i64 y.code)).setCell (by simpa using bx.1) (.int .i64 y.count)).setCell (by simpa using bx.1) (.slice a2W y.log.sure.length d2W)).setCell (by simpa using bx.1) (.slice a3W y.log.loose.length d3W))
          clear bx rd hE9
          have bx := bx9
          have rd := rd9
          clear bx9 rd9
          go_simp
          refine hK.out _ _ hH9 (fun hHeld => ?_)
          clear hK K hH9 l0 z0 f0 z1 f1 z2 f2 z3 f3
          try simp only [Act.put, List.setIfInBounds_toArray, List.set_cons_zero, List.set_cons_succ]
          refine wpAnyH_done (by kernel_rfl) ?_ _
          refine NoPanic.normal ?_
          have HH := hide hHeld
          have HBX := hide bx
          have HRD := hide rd
          clear hHeld bx rd
          go_wp2_with fail
          go_meet
          exact ⟨_, _, _, _, _, rfl, (unhide HBX).lt, unhide HBX, unhide HRD, unhide HH⟩
        · have bx : Box w3.heap.size #[.int .i64 0, .int .i64 0, .slice none 0 0, .slice none 0 0] 56 (X4.alloc (.cells #[.int .i64 0, .int .i64 0, .slice none 0 0, .slice none 0 0] 56)) X4.heap.size := newBox hHeld.size
          have nbA : Below X4.heap.size X4 (X4.alloc (.cells #[.int .i64 0, .int .i64 0, .slice none 0 0, .slice none 0 0] 56)) := (Below.refl _ _).alloc (Nat.le_refl _) _
          replace rt0 := rt0.later nbA
          replace rt1 := rt1.later nbA
          have hNx := hHeld.trans (nbA.mono hHeld.size)
          go_simp
          refine hK.out _ _ hNx (fun hHeld => ?_)
          clear hK K hNx nbA
          try simp only [Act.put, List.setIfInBounds_toArray, List.set_cons_zero, List.set_cons_succ]
          generalize X4.alloc (.cells #[.int .i64 0, .int .i64 0, .slice none 0 0, .slice none 0 0] 56) = X8 at *
          refine wpAnyH_ready (rs := [4]) (by kernel_rfl) (by simp) ?_
          refine AllReadyH.cons (o := { dst := some 28, op := Go.Op.call { callee := Go.Callee.value (Go.Operand.func 34), args := #[Go.Operand.tmp 25, Go.Operand.tmp 27], argTypes := #[48, 58] }, type := 56, pos := "exact.go:3514", after := #[{ on := 1, ground := Go.Ground.data }, { on := 3, ground := Go.Ground.data }, { on := 3, ground := Go.Ground.chain }], guard := none }) rfl (fun K hK => ?_) AllReadyH.nil
          go_simp
          go_at_call 34
          refine (unhide HS _ _ _ rt0 rt1).mono ?_
          rintro e X9 ⟨cs, rfl, O, hbw⟩
          obtain ⟨a2W, d2W, a3W, d3W, rfl, -⟩ := open_LogResult O.reads
          have hs0 := bx.lt
          replace bx := bx.keep hbw
          have hz9 := hbw.size
          have rd := O
          clear O
          replace rd := rd.mono (lo' := X4.heap.size + 1) (by omega) (Nat.le_refl _)
          clear hs0
          try go_wp2_with fail
          refine hK.out _ _ (hHeld.trans (hbw.mono hHeld.size)) (fun hHeld => ?_)
          clear hK K hbw hz9
          try simp only [Act.put, List.setIfInBounds_toArray, List.set_cons_zero, List.set_cons_succ]
          clear rt0 rt1
          refine wpAnyH_ready (rs := [6]) (by kernel_rfl) (by simp) ?_
          refine AllReadyH.cons (o := { dst := none, op := Go.Op.store 56 (Go.Operand.tmp 6) (Go.Operand.tmp 28), type := 0, pos := "exact.go:3514", after := #[{ on := 5, ground := Go.Ground.data }, { on := 4, ground := Go.Ground.data }, { on := 4, ground := Go.Ground.chain }, { on := 0, ground := Go.Ground.phase }, { on := 1, ground := Go.Ground.phase }, { on := 2, ground := Go.Ground.phase }, { on := 3, ground := Go.Ground.phase }, { on := 4, ground := Go.Ground.phase }, { on := 5, ground := Go.Ground.phase }], guard := none }) rfl (fun K hK => ?_) AllReadyH.nil
          have z0 : X9.cell? ⟨X4.heap.size, 0, none⟩ = some (.int .i64 0) := bx.at 0 _ rfl
          have f0 := bx.soft 0
          have z1 : X9.cell? ⟨X4.heap.size, 1, none⟩ = some (.int .i64 0) := bx.at 1 _ rfl
          have f1 := bx.soft 1
          have z2 : X9.cell? ⟨X4.heap.size, 2, none⟩ = some (.slice none 0 0) := bx.at 2 _ rfl
          have f2 := bx.soft 2
          have z3 : X9.cell? ⟨X4.heap.size, 3, none⟩ = some (.slice none 0 0) := bx.at 3 _ rfl
          have f3 := bx.soft 3
          have l0 := bx.lt
          have bx9 : Box w3.heap.size #[.int .i64 y.code, .int .i64 y.count, .slice a2W y.log.sure.length d2W, .slice a3W y.log.loose.length d3W] 56 ((((X9.setCell ⟨X4.heap.size, 0, none⟩ (.int .i64 y.code)).setCell ⟨X4.heap.size, 1, none⟩ (.int .i64 y.count)).setCell ⟨X4.heap.size, 2, none⟩ (.slice a2W y.log.sure.length d2W)).setCell ⟨X4.heap.size, 3, none⟩ (.slice a3W y.log.loose.length d3W)) X4.heap.size := ((((bx.set 0 (.int .i64 y.code)).set 1 (.int .i64 y.count)).set 2 (.slice a2W y.log.sure.length d2W)).set 3 (.slice a3W y.log.loose.length d3W))
          have hE9 : Ext (fun c => c = X4.heap.size) X9 ((((X9.setCell ⟨X4.heap.size, 0, none⟩ (.int .i64 y.code)).setCell ⟨X4.heap.size, 1, none⟩ (.int .i64 y.count)).setCell ⟨X4.heap.size, 2, none⟩ (.slice a2W y.log.sure.length d2W)).setCell ⟨X4.heap.size, 3, none⟩ (.slice a3W y.log.loose.length d3W)) := (((((Ext.refl (fun c => c = X4.heap.size) _).setCell ⟨X4.heap.size, 0, none⟩ (.int .i64 y.code) rfl).setCell ⟨X4.heap.size, 1, none⟩ (.int .i64 y.count) rfl).setCell ⟨X4.heap.size, 2, none⟩ (.slice a2W y.log.sure.length d2W) rfl).setCell ⟨X4.heap.size, 3, none⟩ (.slice a3W y.log.loose.length d3W) rfl)
          have rd9 := (rd.ext hE9 (fun c h1 h2 h3 => by omega)).reads
          have hH9 : Below w3.heap.size w3 ((((X9.setCell ⟨X4.heap.size, 0, none⟩ (.int .i64 y.code)).setCell ⟨X4.heap.size, 1, none⟩ (.int .i64 y.count)).setCell ⟨X4.heap.size, 2, none⟩ (.slice a2W y.log.sure.length d2W)).setCell ⟨X4.heap.size, 3, none⟩ (.slice a3W y.log.loose.length d3W)) := ((((hHeld.setCell (by simpa using bx.1) (.int .i64 y.code)).setCell (by simpa using bx.1) (.int .i64 y.count)).setCell (by simpa using bx.1) (.slice a2W y.log.sure.length d2W)).setCell (by simpa using bx.1) (.slice a3W y.log.loose.length d3W))
          clear bx rd hE9
          have bx := bx9
          have rd := rd9
          clear bx9 rd9
          go_simp
          refine hK.out _ _ hH9 (fun hHeld => ?_)
          clear hK K hH9 l0 z0 f0 z1 f1 z2 f2 z3 f3
          try simp only [Act.put, List.setIfInBounds_toArray, List.set_cons_zero, List.set_cons_succ]
          refine wpAnyH_done (by kernel_rfl) ?_ _
          refine NoPanic.normal ?_
          have HH := hide hHeld
          have HBX := hide bx
          have HRD := hide rd
          clear hHeld bx rd
          go_wp2_with fail
          go_meet
          exact ⟨_, _, _, _, _, rfl, (unhide HBX).lt, unhide HBX, unhide HRD, unhide HH⟩
      · have bx : Box w3.heap.size #[.int .i64 0, .int .i64 0, .slice none 0 0, .slice none 0 0] 56 (X3.alloc (.cells #[.int .i64 0, .int .i64 0, .slice none 0 0, .slice none 0 0] 56)) X3.heap.size := newBox hHeld.size
        have nbA : Below X3.heap.size X3 (X3.alloc (.cells #[.int .i64 0, .int .i64 0, .slice none 0 0, .slice none 0 0] 56)) := (Below.refl _ _).alloc (Nat.le_refl _) _
        replace rt0 := rt0.later nbA
        have hNx := hHeld.trans (nbA.mono hHeld.size)
        go_simp
        refine hK.out _ _ hNx (fun hHeld => ?_)
        clear hK K hNx nbA
        try simp only [Act.put, List.setIfInBounds_toArray, List.set_cons_zero, List.set_cons_succ]
        generalize X3.alloc (.cells #[.int .i64 0, .int .i64 0, .slice none 0 0, .slice none 0 0] 56) = X11 at *
        refine wpAnyH_ready (rs := [3]) (by kernel_rfl) (by simp) ?_
        refine AllReadyH.cons (o := { dst := some 27, op := Go.Op.call { callee := Go.Callee.value (Go.Operand.func 35), args := #[Go.Operand.tmp 26], argTypes := #[53] }, type := 58, pos := "exact.go:3514", after := #[{ on := 2, ground := Go.Ground.data }, { on := 1, ground := Go.Ground.chain }], guard := none }) rfl (fun K hK => ?_) AllReadyH.nil
        go_simp
        go_at_call 35
        refine (to_Write _ x1 _ ((unhide HA1).reads.later hHeld) (unhide HN1)).mono ?_
        rintro e X12 ⟨vT1, rfl, OT, hbw⟩
        have rt1 := OT.reads
        obtain ⟨a2T1, d2T1, rfl, -⟩ := open_Write rt1
        replace rt0 := rt0.later hbw
        replace bx := bx.keep hbw
        clear OT
        try go_wp2_with fail
        refine hK.out _ _ (hHeld.trans (hbw.mono hHeld.size)) (fun hHeld => ?_)
        clear hK K hbw
        try simp only [Act.put, List.setIfInBounds_toArray, List.set_cons_zero, List.set_cons_succ]
        refine wpAnyH_ready (rs := [4]) (by kernel_rfl) (by simp) ?_
        refine AllReadyH.cons (o := { dst := some 28, op := Go.Op.call { callee := Go.Callee.value (Go.Operand.func 34), args := #[Go.Operand.tmp 25, Go.Operand.tmp 27], argTypes := #[48, 58] }, type := 56, pos := "exact.go:3514", after := #[{ on := 1, ground := Go.Ground.data }, { on := 3, ground := Go.Ground.data }, { on := 3, ground := Go.Ground.chain }], guard := none }) rfl (fun K hK => ?_) AllReadyH.nil
        go_simp
        go_at_call 34
        refine (unhide HS _ _ _ rt0 rt1).mono ?_
        rintro e X13 ⟨cs, rfl, O, hbw⟩
        obtain ⟨a2W, d2W, a3W, d3W, rfl, -⟩ := open_LogResult O.reads
        have hs0 := bx.lt
        replace bx := bx.keep hbw
        have hz9 := hbw.size
        have rd := O
        clear O
        replace rd := rd.mono (lo' := X3.heap.size + 1) (by omega) (Nat.le_refl _)
        clear hs0
        try go_wp2_with fail
        refine hK.out _ _ (hHeld.trans (hbw.mono hHeld.size)) (fun hHeld => ?_)
        clear hK K hbw hz9
        try simp only [Act.put, List.setIfInBounds_toArray, List.set_cons_zero, List.set_cons_succ]
        clear rt0 rt1
        refine wpAnyH_ready (rs := [6]) (by kernel_rfl) (by simp) ?_
        refine AllReadyH.cons (o := { dst := none, op := Go.Op.store 56 (Go.Operand.tmp 6) (Go.Operand.tmp 28), type := 0, pos := "exact.go:3514", after := #[{ on := 5, ground := Go.Ground.data }, { on := 4, ground := Go.Ground.data }, { on := 4, ground := Go.Ground.chain }, { on := 0, ground := Go.Ground.phase }, { on := 1, ground := Go.Ground.phase }, { on := 2, ground := Go.Ground.phase }, { on := 3, ground := Go.Ground.phase }, { on := 4, ground := Go.Ground.phase }, { on := 5, ground := Go.Ground.phase }], guard := none }) rfl (fun K hK => ?_) AllReadyH.nil
        have z0 : X13.cell? ⟨X3.heap.size, 0, none⟩ = some (.int .i64 0) := bx.at 0 _ rfl
        have f0 := bx.soft 0
        have z1 : X13.cell? ⟨X3.heap.size, 1, none⟩ = some (.int .i64 0) := bx.at 1 _ rfl
        have f1 := bx.soft 1
        have z2 : X13.cell? ⟨X3.heap.size, 2, none⟩ = some (.slice none 0 0) := bx.at 2 _ rfl
        have f2 := bx.soft 2
        have z3 : X13.cell? ⟨X3.heap.size, 3, none⟩ = some (.slice none 0 0) := bx.at 3 _ rfl
        have f3 := bx.soft 3
        have l0 := bx.lt
        have bx9 : Box w3.heap.size #[.int .i64 y.code, .int .i64 y.count, .slice a2W y.log.sure.length d2W, .slice a3W y.log.loose.length d3W] 56 ((((X13.setCell ⟨X3.heap.size, 0, none⟩ (.int .i64 y.code)).setCell ⟨X3.heap.size, 1, none⟩ (.int .i64 y.count)).setCell ⟨X3.heap.size, 2, none⟩ (.slice a2W y.log.sure.length d2W)).setCell ⟨X3.heap.size, 3, none⟩ (.slice a3W y.log.loose.length d3W)) X3.heap.size := ((((bx.set 0 (.int .i64 y.code)).set 1 (.int .i64 y.count)).set 2 (.slice a2W y.log.sure.length d2W)).set 3 (.slice a3W y.log.loose.length d3W))
        have hE9 : Ext (fun c => c = X3.heap.size) X13 ((((X13.setCell ⟨X3.heap.size, 0, none⟩ (.int .i64 y.code)).setCell ⟨X3.heap.size, 1, none⟩ (.int .i64 y.count)).setCell ⟨X3.heap.size, 2, none⟩ (.slice a2W y.log.sure.length d2W)).setCell ⟨X3.heap.size, 3, none⟩ (.slice a3W y.log.loose.length d3W)) := (((((Ext.refl (fun c => c = X3.heap.size) _).setCell ⟨X3.heap.size, 0, none⟩ (.int .i64 y.code) rfl).setCell ⟨X3.heap.size, 1, none⟩ (.int .i64 y.count) rfl).setCell ⟨X3.heap.size, 2, none⟩ (.slice a2W y.log.sure.length d2W) rfl).setCell ⟨X3.heap.size, 3, none⟩ (.slice a3W y.log.loose.length d3W) rfl)
        have rd9 := (rd.ext hE9 (fun c h1 h2 h3 => by omega)).reads
        have hH9 : Below w3.heap.size w3 ((((X13.setCell ⟨X3.heap.size, 0, none⟩ (.int .i64 y.code)).setCell ⟨X3.heap.size, 1, none⟩ (.int .i64 y.count)).setCell ⟨X3.heap.size, 2, none⟩ (.slice a2W y.log.sure.length d2W)).setCell ⟨X3.heap.size, 3, none⟩ (.slice a3W y.log.loose.length d3W)) := ((((hHeld.setCell (by simpa using bx.1) (.int .i64 y.code)).setCell (by simpa using bx.1) (.int .i64 y.count)).setCell (by simpa using bx.1) (.slice a2W y.log.sure.length d2W)).setCell (by simpa using bx.1) (.slice a3W y.log.loose.length d3W))
        clear bx rd hE9
        have bx := bx9
        have rd := rd9
        clear bx9 rd9
        go_simp
        refine hK.out _ _ hH9 (fun hHeld => ?_)
        clear hK K hH9 l0 z0 f0 z1 f1 z2 f2 z3 f3
        try simp only [Act.put, List.setIfInBounds_toArray, List.set_cons_zero, List.set_cons_succ]
        refine wpAnyH_done (by kernel_rfl) ?_ _
        refine NoPanic.normal ?_
        have HH := hide hHeld
        have HBX := hide bx
        have HRD := hide rd
        clear hHeld bx rd
        go_wp2_with fail
        go_meet
        exact ⟨_, _, _, _, _, rfl, (unhide HBX).lt, unhide HBX, unhide HRD, unhide HH⟩
    · have bx : Box w3.heap.size #[.int .i64 0, .int .i64 0, .slice none 0 0, .slice none 0 0] 56 (X0.alloc (.cells #[.int .i64 0, .int .i64 0, .slice none 0 0, .slice none 0 0] 56)) X0.heap.size := newBox hHeld.size
      have nbA : Below X0.heap.size X0 (X0.alloc (.cells #[.int .i64 0, .int .i64 0, .slice none 0 0, .slice none 0 0] 56)) := (Below.refl _ _).alloc (Nat.le_refl _) _
      have hNx := hHeld.trans (nbA.mono hHeld.size)
      go_simp
      refine hK.out _ _ hNx (fun hHeld => ?_)
      clear hK K hNx nbA
      try simp only [Act.put, List.setIfInBounds_toArray, List.set_cons_zero, List.set_cons_succ]
      generalize X0.alloc (.cells #[.int .i64 0, .int .i64 0, .slice none 0 0, .slice none 0 0] 56) = X15 at *
      refine wpAnyH_ready (rs := [1]) (by kernel_rfl) (by simp) ?_
      refine AllReadyH.cons (o := { dst := some 25, op := Go.Op.call { callee := Go.Callee.value (Go.Operand.func 30), args := #[Go.Operand.tmp 24], argTypes := #[45] }, type := 48, pos := "exact.go:3514", after := #[{ on := 0, ground := Go.Ground.data }], guard := none }) rfl (fun K hK => ?_) AllReadyH.nil
      go_simp
      go_at_call 30
      refine (to_Log _ x0 _ ((unhide HA0).reads.later hHeld) (unhide HN0)).mono ?_
      rintro e X16 ⟨vT0, rfl, OT, hbw⟩
      have rt0 := OT.reads
      obtain ⟨a0T0, d0T0, a1T0, d1T0, rfl, -, -⟩ := open_Log rt0
      replace bx := bx.keep hbw
      clear OT
      try go_wp2_with fail
      refine hK.out _ _ (hHeld.trans (hbw.mono hHeld.size)) (fun hHeld => ?_)
      clear hK K hbw
      try simp only [Act.put, List.setIfInBounds_toArray, List.set_cons_zero, List.set_cons_succ]
      refine wpAnyH_ready (rs := [3]) (by kernel_rfl) (by simp) ?_
      refine AllReadyH.cons (o := { dst := some 27, op := Go.Op.call { callee := Go.Callee.value (Go.Operand.func 35), args := #[Go.Operand.tmp 26], argTypes := #[53] }, type := 58, pos := "exact.go:3514", after := #[{ on := 2, ground := Go.Ground.data }, { on := 1, ground := Go.Ground.chain }], guard := none }) rfl (fun K hK => ?_) AllReadyH.nil
      go_simp
      go_at_call 35
      refine (to_Write _ x1 _ ((unhide HA1).reads.later hHeld) (unhide HN1)).mono ?_
      rintro e X17 ⟨vT1, rfl, OT, hbw⟩
      have rt1 := OT.reads
      obtain ⟨a2T1, d2T1, rfl, -⟩ := open_Write rt1
      replace rt0 := rt0.later hbw
      replace bx := bx.keep hbw
      clear OT
      try go_wp2_with fail
      refine hK.out _ _ (hHeld.trans (hbw.mono hHeld.size)) (fun hHeld => ?_)
      clear hK K hbw
      try simp only [Act.put, List.setIfInBounds_toArray, List.set_cons_zero, List.set_cons_succ]
      refine wpAnyH_ready (rs := [4]) (by kernel_rfl) (by simp) ?_
      refine AllReadyH.cons (o := { dst := some 28, op := Go.Op.call { callee := Go.Callee.value (Go.Operand.func 34), args := #[Go.Operand.tmp 25, Go.Operand.tmp 27], argTypes := #[48, 58] }, type := 56, pos := "exact.go:3514", after := #[{ on := 1, ground := Go.Ground.data }, { on := 3, ground := Go.Ground.data }, { on := 3, ground := Go.Ground.chain }], guard := none }) rfl (fun K hK => ?_) AllReadyH.nil
      go_simp
      go_at_call 34
      refine (unhide HS _ _ _ rt0 rt1).mono ?_
      rintro e X18 ⟨cs, rfl, O, hbw⟩
      obtain ⟨a2W, d2W, a3W, d3W, rfl, -⟩ := open_LogResult O.reads
      have hs0 := bx.lt
      replace bx := bx.keep hbw
      have hz9 := hbw.size
      have rd := O
      clear O
      replace rd := rd.mono (lo' := X0.heap.size + 1) (by omega) (Nat.le_refl _)
      clear hs0
      try go_wp2_with fail
      refine hK.out _ _ (hHeld.trans (hbw.mono hHeld.size)) (fun hHeld => ?_)
      clear hK K hbw hz9
      try simp only [Act.put, List.setIfInBounds_toArray, List.set_cons_zero, List.set_cons_succ]
      clear rt0 rt1
      refine wpAnyH_ready (rs := [6]) (by kernel_rfl) (by simp) ?_
      refine AllReadyH.cons (o := { dst := none, op := Go.Op.store 56 (Go.Operand.tmp 6) (Go.Operand.tmp 28), type := 0, pos := "exact.go:3514", after := #[{ on := 5, ground := Go.Ground.data }, { on := 4, ground := Go.Ground.data }, { on := 4, ground := Go.Ground.chain }, { on := 0, ground := Go.Ground.phase }, { on := 1, ground := Go.Ground.phase }, { on := 2, ground := Go.Ground.phase }, { on := 3, ground := Go.Ground.phase }, { on := 4, ground := Go.Ground.phase }, { on := 5, ground := Go.Ground.phase }], guard := none }) rfl (fun K hK => ?_) AllReadyH.nil
      have z0 : X18.cell? ⟨X0.heap.size, 0, none⟩ = some (.int .i64 0) := bx.at 0 _ rfl
      have f0 := bx.soft 0
      have z1 : X18.cell? ⟨X0.heap.size, 1, none⟩ = some (.int .i64 0) := bx.at 1 _ rfl
      have f1 := bx.soft 1
      have z2 : X18.cell? ⟨X0.heap.size, 2, none⟩ = some (.slice none 0 0) := bx.at 2 _ rfl
      have f2 := bx.soft 2
      have z3 : X18.cell? ⟨X0.heap.size, 3, none⟩ = some (.slice none 0 0) := bx.at 3 _ rfl
      have f3 := bx.soft 3
      have l0 := bx.lt
      have bx9 : Box w3.heap.size #[.int .i64 y.code, .int .i64 y.count, .slice a2W y.log.sure.length d2W, .slice a3W y.log.loose.length d3W] 56 ((((X18.setCell ⟨X0.heap.size, 0, none⟩ (.int .i64 y.code)).setCell ⟨X0.heap.size, 1, none⟩ (.int .i64 y.count)).setCell ⟨X0.heap.size, 2, none⟩ (.slice a2W y.log.sure.length d2W)).setCell ⟨X0.heap.size, 3, none⟩ (.slice a3W y.log.loose.length d3W)) X0.heap.size := ((((bx.set 0 (.int .i64 y.code)).set 1 (.int .i64 y.count)).set 2 (.slice a2W y.log.sure.length d2W)).set 3 (.slice a3W y.log.loose.length d3W))
      have hE9 : Ext (fun c => c = X0.heap.size) X18 ((((X18.setCell ⟨X0.heap.size, 0, none⟩ (.int .i64 y.code)).setCell ⟨X0.heap.size, 1, none⟩ (.int .i64 y.count)).setCell ⟨X0.heap.size, 2, none⟩ (.slice a2W y.log.sure.length d2W)).setCell ⟨X0.heap.size, 3, none⟩ (.slice a3W y.log.loose.length d3W)) := (((((Ext.refl (fun c => c = X0.heap.size) _).setCell ⟨X0.heap.size, 0, none⟩ (.int .i64 y.code) rfl).setCell ⟨X0.heap.size, 1, none⟩ (.int .i64 y.count) rfl).setCell ⟨X0.heap.size, 2, none⟩ (.slice a2W y.log.sure.length d2W) rfl).setCell ⟨X0.heap.size, 3, none⟩ (.slice a3W y.log.loose.length d3W) rfl)
      have rd9 := (rd.ext hE9 (fun c h1 h2 h3 => by omega)).reads
      have hH9 : Below w3.heap.size w3 ((((X18.setCell ⟨X0.heap.size, 0, none⟩ (.int .i64 y.code)).setCell ⟨X0.heap.size, 1, none⟩ (.int .i64 y.count)).setCell ⟨X0.heap.size, 2, none⟩ (.slice a2W y.log.sure.length d2W)).setCell ⟨X0.heap.size, 3, none⟩ (.slice a3W y.log.loose.length d3W)) := ((((hHeld.setCell (by simpa using bx.1) (.int .i64 y.code)).setCell (by simpa using bx.1) (.int .i64 y.count)).setCell (by simpa using bx.1) (.slice a2W y.log.sure.length d2W)).setCell (by simpa using bx.1) (.slice a3W y.log.loose.length d3W))
      clear bx rd hE9
      have bx := bx9
      have rd := rd9
      clear bx9 rd9
      go_simp
      refine hK.out _ _ hH9 (fun hHeld => ?_)
      clear hK K hH9 l0 z0 f0 z1 f1 z2 f2 z3 f3
      try simp only [Act.put, List.setIfInBounds_toArray, List.set_cons_zero, List.set_cons_succ]
      refine wpAnyH_done (by kernel_rfl) ?_ _
      refine NoPanic.normal ?_
      have HH := hide hHeld
      have HBX := hide bx
      have HRD := hide rd
      clear hHeld bx rd
      go_wp2_with fail
      go_meet
      exact ⟨_, _, _, _, _, rfl, (unhide HBX).lt, unhide HBX, unhide HRD, unhide HH⟩
  case rest =>
  obtain ⟨sW, a2W, d2W, a3W, d3W, rfl, hsW, YB, O, hb⟩ := hcut
  obtain ⟨w4, hww4⟩ : ∃ q, q = wc := ⟨_, rfl⟩
  subst hww4
  clear l0P0 l1P0 ltP0 l0P1 l1P1 l2P1 l3P1 l4P1 ltP1
  replace HA0 := hide ((unhide HA0).later hb)
  replace HA1 := hide ((unhide HA1).later hb)
  replace P0 := hide ((unhide P0).keep hb)
  replace P1 := hide ((unhide P1).keep hb)
  have Zw4 : w3.heap.size ≤ w4.heap.size := hb.size
  replace HB := hide ((unhide HB).trans (hb.mono (by omega)))
  clear hb
  have YW := hide YB
  have HW := hide O.liesIn
  clear YB O
  have l0P0 := (unhide P0).at 0 _ rfl
  have l1P0 := (unhide P0).at 1 _ rfl
  have ltP0 : w.heap.size < w4.heap.size := by omega
  have l0P1 := (unhide P1).at 0 _ rfl
  have l1P1 := (unhide P1).at 1 _ rfl
  have l2P1 := (unhide P1).at 2 _ rfl
  have l3P1 := (unhide P1).at 3 _ rfl
  have l4P1 := (unhide P1).at 4 _ rfl
  have ltP1 : w.heap.size + 1 < w4.heap.size := by omega
  have l0YW := (unhide YW).at 0 _ rfl
  have l1YW := (unhide YW).at 1 _ rfl
  have l2YW := (unhide YW).at 2 _ rfl
  have l3YW := (unhide YW).at 3 _ rfl
  have ltYW : sW < w4.heap.size := by omega
  simp only [List.getElem_toArray, List.getElem_cons_zero, List.getElem_cons_succ] at l0P0 l1P0 l0P1 l1P1 l2P1 l3P1 l4P1 l0YW l1YW l2YW l3YW
  go_wp2_with fail
  clear l0P0 l1P0 ltP0 l0P1 l1P1 l2P1 l3P1 l4P1 ltP1 l0YW l1YW l2YW l3YW ltYW
  refine (to_Log _ x0 w4 (unhide HA0).reads (unhide HN0)).mono ?_
  rintro e w5 ⟨vx0, rfl, O, hb⟩
  replace HA0 := hide ((unhide HA0).later hb)
  replace HA1 := hide ((unhide HA1).later hb)
  replace P0 := hide ((unhide P0).keep hb)
  replace P1 := hide ((unhide P1).keep hb)
  replace HW := hide ((unhide HW).later hb)
  replace YW := hide ((unhide YW).keep hb)
  have Zw5 : w4.heap.size ≤ w5.heap.size := hb.size
  replace HB := hide ((unhide HB).trans (hb.mono (by omega)))
  clear hb
  obtain ⟨a0x0, d0x0, a1x0, d1x0, rfl, -, -⟩ := open_Log O.reads
  have Hx0 := hide O
  clear O
  have nb : Below w5.heap.size w5 (w5.alloc (.cells #[.slice a0x0 x0.sure.length d0x0, .slice a1x0 x0.loose.length d1x0] 48)) := (Below.refl _ _).alloc (Nat.le_refl _) _
  have X0 : Hid (Box w5.heap.size #[.slice a0x0 x0.sure.length d0x0, .slice a1x0 x0.loose.length d1x0] 48 (w5.alloc (.cells #[.slice a0x0 x0.sure.length d0x0, .slice a1x0 x0.loose.length d1x0] 48)) w5.heap.size) := newBox (Nat.le_refl _)
  have l0P0 := (unhide P0).at 0 _ rfl
  have l1P0 := (unhide P0).at 1 _ rfl
  have ltP0 : w.heap.size < w5.heap.size := by omega
  have l0P1 := (unhide P1).at 0 _ rfl
  have l1P1 := (unhide P1).at 1 _ rfl
  have l2P1 := (unhide P1).at 2 _ rfl
  have l3P1 := (unhide P1).at 3 _ rfl
  have l4P1 := (unhide P1).at 4 _ rfl
  have ltP1 : w.heap.size + 1 < w5.heap.size := by omega
  have l0YW := (unhide YW).at 0 _ rfl
  have l1YW := (unhide YW).at 1 _ rfl
  have l2YW := (unhide YW).at 2 _ rfl
  have l3YW := (unhide YW).at 3 _ rfl
  have ltYW : sW < w5.heap.size := by omega
  simp only [List.getElem_toArray, List.getElem_cons_zero, List.getElem_cons_succ] at l0P0 l1P0 l0P1 l1P1 l2P1 l3P1 l4P1 l0YW l1YW l2YW l3YW
  go_wp2_with fail
  clear l0P0 l1P0 ltP0 l0P1 l1P1 l2P1 l3P1 l4P1 ltP1 l0YW l1YW l2YW l3YW ltYW
  generalize haw6 : w5.alloc (.cells #[.slice a0x0 x0.sure.length d0x0, .slice a1x0 x0.loose.length d1x0] 48) = w6 at *
  have Gw6 : w5.heap.size < w6.heap.size := by rw [← haw6]; simp
  clear haw6
  replace HA0 := hide ((unhide HA0).later nb)
  replace HA1 := hide ((unhide HA1).later nb)
  replace P0 := hide ((unhide P0).keep nb)
  replace P1 := hide ((unhide P1).keep nb)
  replace HW := hide ((unhide HW).later nb)
  replace YW := hide ((unhide YW).keep nb)
  replace Hx0 := hide ((unhide Hx0).later nb)
  have Zw6 : w5.heap.size ≤ w6.heap.size := nb.size
  replace HB := hide ((unhide HB).trans (nb.mono (by omega)))
  clear nb
  refine (to_Write _ x1 w6 (unhide HA1).reads (unhide HN1)).mono ?_
  rintro e w7 ⟨vx1, rfl, O, hb⟩
  replace HA0 := hide ((unhide HA0).later hb)
  replace HA1 := hide ((unhide HA1).later hb)
  replace P0 := hide ((unhide P0).keep hb)
  replace P1 := hide ((unhide P1).keep hb)
  replace HW := hide ((unhide HW).later hb)
  replace YW := hide ((unhide YW).keep hb)
  replace Hx0 := hide ((unhide Hx0).later hb)
  replace X0 := hide ((unhide X0).keep hb)
  have Zw7 : w6.heap.size ≤ w7.heap.size := hb.size
  replace HB := hide ((unhide HB).trans (hb.mono (by omega)))
  clear hb
  obtain ⟨a2x1, d2x1, rfl, -⟩ := open_Write O.reads
  have Hx1 := hide O
  clear O
  have nb : Below w7.heap.size w7 (w7.alloc (.cells #[.int .i64 x1.kind, .int .i64 x1.id, .slice a2x1 x1.vec.length d2x1, .int .i64 x1.session, .int .i64 x1.seq] 58)) := (Below.refl _ _).alloc (Nat.le_refl _) _
  have X1 : Hid (Box w7.heap.size #[.int .i64 x1.kind, .int .i64 x1.id, .slice a2x1 x1.vec.length d2x1, .int .i64 x1.session, .int .i64 x1.seq] 58 (w7.alloc (.cells #[.int .i64 x1.kind, .int .i64 x1.id, .slice a2x1 x1.vec.length d2x1, .int .i64 x1.session, .int .i64 x1.seq] 58)) w7.heap.size) := newBox (Nat.le_refl _)
  have l0P0 := (unhide P0).at 0 _ rfl
  have l1P0 := (unhide P0).at 1 _ rfl
  have ltP0 : w.heap.size < w7.heap.size := by omega
  have l0P1 := (unhide P1).at 0 _ rfl
  have l1P1 := (unhide P1).at 1 _ rfl
  have l2P1 := (unhide P1).at 2 _ rfl
  have l3P1 := (unhide P1).at 3 _ rfl
  have l4P1 := (unhide P1).at 4 _ rfl
  have ltP1 : w.heap.size + 1 < w7.heap.size := by omega
  have l0YW := (unhide YW).at 0 _ rfl
  have l1YW := (unhide YW).at 1 _ rfl
  have l2YW := (unhide YW).at 2 _ rfl
  have l3YW := (unhide YW).at 3 _ rfl
  have ltYW : sW < w7.heap.size := by omega
  have l0X0 := (unhide X0).at 0 _ rfl
  have l1X0 := (unhide X0).at 1 _ rfl
  have ltX0 : w5.heap.size < w7.heap.size := by omega
  simp only [List.getElem_toArray, List.getElem_cons_zero, List.getElem_cons_succ] at l0P0 l1P0 l0P1 l1P1 l2P1 l3P1 l4P1 l0YW l1YW l2YW l3YW l0X0 l1X0
  go_wp2_with fail
  clear l0P0 l1P0 ltP0 l0P1 l1P1 l2P1 l3P1 l4P1 ltP1 l0YW l1YW l2YW l3YW ltYW l0X0 l1X0 ltX0
  generalize haw8 : w7.alloc (.cells #[.int .i64 x1.kind, .int .i64 x1.id, .slice a2x1 x1.vec.length d2x1, .int .i64 x1.session, .int .i64 x1.seq] 58) = w8 at *
  have Gw8 : w7.heap.size < w8.heap.size := by rw [← haw8]; simp
  clear haw8
  replace HA0 := hide ((unhide HA0).later nb)
  replace HA1 := hide ((unhide HA1).later nb)
  replace P0 := hide ((unhide P0).keep nb)
  replace P1 := hide ((unhide P1).keep nb)
  replace HW := hide ((unhide HW).later nb)
  replace YW := hide ((unhide YW).keep nb)
  replace Hx0 := hide ((unhide Hx0).later nb)
  replace X0 := hide ((unhide X0).keep nb)
  replace Hx1 := hide ((unhide Hx1).later nb)
  have Zw8 : w7.heap.size ≤ w8.heap.size := nb.size
  replace HB := hide ((unhide HB).trans (nb.mono (by omega)))
  clear nb
  refine (unhide HI w8 _ _ (unhide Hx0).reads (unhide Hx1).reads).mono ?_
  rintro e w9 ⟨cs, rfl, O, hb⟩
  replace HA0 := hide ((unhide HA0).later hb)
  replace HA1 := hide ((unhide HA1).later hb)
  replace P0 := hide ((unhide P0).keep hb)
  replace P1 := hide ((unhide P1).keep hb)
  replace HW := hide ((unhide HW).later hb)
  replace YW := hide ((unhide YW).keep hb)
  replace Hx0 := hide ((unhide Hx0).later hb)
  replace X0 := hide ((unhide X0).keep hb)
  replace Hx1 := hide ((unhide Hx1).later hb)
  replace X1 := hide ((unhide X1).keep hb)
  have Zw9 : w8.heap.size ≤ w9.heap.size := hb.size
  replace HB := hide ((unhide HB).trans (hb.mono (by omega)))
  clear hb
  obtain ⟨a2G, d2G, a3G, d3G, rfl, -⟩ := open_LogResult O.reads
  have HG := hide O
  clear O
  have nb : Below w9.heap.size w9 (w9.alloc (.cells #[.int .i64 y.code, .int .i64 y.count, .slice a2G y.log.sure.length d2G, .slice a3G y.log.loose.length d3G] 56)) := (Below.refl _ _).alloc (Nat.le_refl _) _
  have YG : Hid (Box w9.heap.size #[.int .i64 y.code, .int .i64 y.count, .slice a2G y.log.sure.length d2G, .slice a3G y.log.loose.length d3G] 56 (w9.alloc (.cells #[.int .i64 y.code, .int .i64 y.count, .slice a2G y.log.sure.length d2G, .slice a3G y.log.loose.length d3G] 56)) w9.heap.size) := newBox (Nat.le_refl _)
  have l0P0 := (unhide P0).at 0 _ rfl
  have l1P0 := (unhide P0).at 1 _ rfl
  have ltP0 : w.heap.size < w9.heap.size := by omega
  have l0P1 := (unhide P1).at 0 _ rfl
  have l1P1 := (unhide P1).at 1 _ rfl
  have l2P1 := (unhide P1).at 2 _ rfl
  have l3P1 := (unhide P1).at 3 _ rfl
  have l4P1 := (unhide P1).at 4 _ rfl
  have ltP1 : w.heap.size + 1 < w9.heap.size := by omega
  have l0YW := (unhide YW).at 0 _ rfl
  have l1YW := (unhide YW).at 1 _ rfl
  have l2YW := (unhide YW).at 2 _ rfl
  have l3YW := (unhide YW).at 3 _ rfl
  have ltYW : sW < w9.heap.size := by omega
  have l0X0 := (unhide X0).at 0 _ rfl
  have l1X0 := (unhide X0).at 1 _ rfl
  have ltX0 : w5.heap.size < w9.heap.size := by omega
  have l0X1 := (unhide X1).at 0 _ rfl
  have l1X1 := (unhide X1).at 1 _ rfl
  have l2X1 := (unhide X1).at 2 _ rfl
  have l3X1 := (unhide X1).at 3 _ rfl
  have l4X1 := (unhide X1).at 4 _ rfl
  have ltX1 : w7.heap.size < w9.heap.size := by omega
  simp only [List.getElem_toArray, List.getElem_cons_zero, List.getElem_cons_succ] at l0P0 l1P0 l0P1 l1P1 l2P1 l3P1 l4P1 l0YW l1YW l2YW l3YW l0X0 l1X0 l0X1 l1X1 l2X1 l3X1 l4X1
  go_wp2_with fail
  clear l0P0 l1P0 ltP0 l0P1 l1P1 l2P1 l3P1 l4P1 ltP1 l0YW l1YW l2YW l3YW ltYW l0X0 l1X0 ltX0 l0X1 l1X1 l2X1 l3X1 l4X1 ltX1
  generalize haw10 : w9.alloc (.cells #[.int .i64 y.code, .int .i64 y.count, .slice a2G y.log.sure.length d2G, .slice a3G y.log.loose.length d3G] 56) = w10 at *
  have Gw10 : w9.heap.size < w10.heap.size := by rw [← haw10]; simp
  clear haw10
  replace HA0 := hide ((unhide HA0).later nb)
  replace HA1 := hide ((unhide HA1).later nb)
  replace P0 := hide ((unhide P0).keep nb)
  replace P1 := hide ((unhide P1).keep nb)
  replace HW := hide ((unhide HW).later nb)
  replace YW := hide ((unhide YW).keep nb)
  replace Hx0 := hide ((unhide Hx0).later nb)
  replace X0 := hide ((unhide X0).keep nb)
  replace Hx1 := hide ((unhide Hx1).later nb)
  replace X1 := hide ((unhide X1).keep nb)
  replace HG := hide ((unhide HG).later nb)
  have Zw10 : w9.heap.size ≤ w10.heap.size := nb.size
  replace HB := hide ((unhide HB).trans (nb.mono (by omega)))
  clear nb
  refine (eq_LogResult _ _ y w10 (unhide HG).reads (unhide HW).reads).mono ?_
  rintro e w11 ⟨rfl, hb⟩
  replace HA0 := hide ((unhide HA0).later hb)
  replace HA1 := hide ((unhide HA1).later hb)
  replace P0 := hide ((unhide P0).keep hb)
  replace P1 := hide ((unhide P1).keep hb)
  replace HW := hide ((unhide HW).later hb)
  replace YW := hide ((unhide YW).keep hb)
  replace Hx0 := hide ((unhide Hx0).later hb)
  replace X0 := hide ((unhide X0).keep hb)
  replace Hx1 := hide ((unhide Hx1).later hb)
  replace X1 := hide ((unhide X1).keep hb)
  replace HG := hide ((unhide HG).later hb)
  replace YG := hide ((unhide YG).keep hb)
  have Zw11 : w10.heap.size ≤ w11.heap.size := hb.size
  replace HB := hide ((unhide HB).trans (hb.mono (by omega)))
  clear hb
  have l0P0 := (unhide P0).at 0 _ rfl
  have l1P0 := (unhide P0).at 1 _ rfl
  have ltP0 : w.heap.size < w11.heap.size := by omega
  have l0P1 := (unhide P1).at 0 _ rfl
  have l1P1 := (unhide P1).at 1 _ rfl
  have l2P1 := (unhide P1).at 2 _ rfl
  have l3P1 := (unhide P1).at 3 _ rfl
  have l4P1 := (unhide P1).at 4 _ rfl
  have ltP1 : w.heap.size + 1 < w11.heap.size := by omega
  have l0YW := (unhide YW).at 0 _ rfl
  have l1YW := (unhide YW).at 1 _ rfl
  have l2YW := (unhide YW).at 2 _ rfl
  have l3YW := (unhide YW).at 3 _ rfl
  have ltYW : sW < w11.heap.size := by omega
  have l0X0 := (unhide X0).at 0 _ rfl
  have l1X0 := (unhide X0).at 1 _ rfl
  have ltX0 : w5.heap.size < w11.heap.size := by omega
  have l0X1 := (unhide X1).at 0 _ rfl
  have l1X1 := (unhide X1).at 1 _ rfl
  have l2X1 := (unhide X1).at 2 _ rfl
  have l3X1 := (unhide X1).at 3 _ rfl
  have l4X1 := (unhide X1).at 4 _ rfl
  have ltX1 : w7.heap.size < w11.heap.size := by omega
  have l0YG := (unhide YG).at 0 _ rfl
  have l1YG := (unhide YG).at 1 _ rfl
  have l2YG := (unhide YG).at 2 _ rfl
  have l3YG := (unhide YG).at 3 _ rfl
  have ltYG : w9.heap.size < w11.heap.size := by omega
  simp only [List.getElem_toArray, List.getElem_cons_zero, List.getElem_cons_succ] at l0P0 l1P0 l0P1 l1P1 l2P1 l3P1 l4P1 l0YW l1YW l2YW l3YW l0X0 l1X0 l0X1 l1X1 l2X1 l3X1 l4X1 l0YG l1YG l2YG l3YG
  go_wp2_with fail
  clear l0P0 l1P0 ltP0 l0P1 l1P1 l2P1 l3P1 l4P1 ltP1 l0YW l1YW l2YW l3YW ltYW l0X0 l1X0 ltX0 l0X1 l1X1 l2X1 l3X1 l4X1 ltX1 l0YG l1YG l2YG l3YG ltYG
  have l0P0 := (unhide P0).at 0 _ rfl
  have l1P0 := (unhide P0).at 1 _ rfl
  have ltP0 : w.heap.size < w11.heap.size := by omega
  have l0X0 := (unhide X0).at 0 _ rfl
  have l1X0 := (unhide X0).at 1 _ rfl
  have ltX0 : w5.heap.size < w11.heap.size := by omega
  simp only [List.getElem_toArray, List.getElem_cons_zero, List.getElem_cons_succ] at l0P0 l1P0 l0X0 l1X0
  refine wp_region_noPanic ?_
  refine wp_region_held_drew (S := fun w' => Below w11.heap.size w11 w') (by kernel_rfl) (Below.refl _ _).drew (fun hHeld => ?_)
  generalize w11.drew = wD at hHeld ⊢
  refine wpAnyH_take (i := 0) (oi := { dst := some 40, op := Go.Op.load 48 (Go.Operand.tmp 7), type := 48, pos := "exact.go:3521", after := #[], guard := none }) (v := ?vs00) rfl (by kernel_rfl) (by kernel_rfl) (by kernel_rfl) (fun _ _ _ h => h) (Or.inl ⟨by rfl, ?hs00⟩) hHeld ?rs00
  case hs00 =>
    intro wS hSw
    have y0P0 := (hSw.cell (p := ⟨w.heap.size, 0, none⟩) ltP0).trans l0P0
    have y1P0 := (hSw.cell (p := ⟨w.heap.size, 1, none⟩) ltP0).trans l1P0
    have y0X0 := (hSw.cell (p := ⟨w5.heap.size, 0, none⟩) ltX0).trans l0X0
    have y1X0 := (hSw.cell (p := ⟨w5.heap.size, 1, none⟩) ltX0).trans l1X0
    clear hSw
    (try dsimp only at hSw)
    go_simp
    try with_reducible rfl
  case rs00 =>
  simp only [Act.put, List.setIfInBounds_toArray, List.set_cons_zero, List.set_cons_succ]
  refine wpAnyH_take (i := 1) (oi := { dst := some 41, op := Go.Op.load 45 (Go.Operand.tmp 2), type := 45, pos := "exact.go:3521", after := #[], guard := none }) (v := ?vs01) rfl (by kernel_rfl) (by kernel_rfl) (by kernel_rfl) (fun _ _ _ h => h) (Or.inl ⟨by rfl, ?hs01⟩) hHeld ?rs01
  case hs01 =>
    intro wS hSw
    have y0P0 := (hSw.cell (p := ⟨w.heap.size, 0, none⟩) ltP0).trans l0P0
    have y1P0 := (hSw.cell (p := ⟨w.heap.size, 1, none⟩) ltP0).trans l1P0
    have y0X0 := (hSw.cell (p := ⟨w5.heap.size, 0, none⟩) ltX0).trans l0X0
    have y1X0 := (hSw.cell (p := ⟨w5.heap.size, 1, none⟩) ltX0).trans l1X0
    clear hSw
    (try dsimp only at hSw)
    go_simp
    try with_reducible rfl
  case rs01 =>
  simp only [Act.put, List.setIfInBounds_toArray, List.set_cons_zero, List.set_cons_succ]
  refine wpAnyH_ready (rs := [2]) (by kernel_rfl) (by simp) ?_
  refine AllReadyH.cons (o := { dst := some 42, op := Go.Op.call { callee := Go.Callee.value (Go.Operand.func 30), args := #[Go.Operand.tmp 41], argTypes := #[45] }, type := 48, pos := "exact.go:3521", after := #[{ on := 1, ground := Go.Ground.data }], guard := none }) rfl (fun K hK => ?_) AllReadyH.nil
  go_simp
  go_at_call 30
  refine (to_Log _ x0 _ ((unhide HA0).reads.later hHeld) (unhide HN0)).mono ?_
  rintro e wT ⟨vT, rfl, OT, hbw⟩
  have RT := OT.reads
  obtain ⟨a0T, d0T, a1T, d1T, rfl, -, -⟩ := open_Log RT
  try go_wp2_with fail
  refine hK.out _ _ (hHeld.trans (hbw.mono hHeld.size)) (fun hHeld => ?_)
  clear hK K
  try simp only [Act.put, List.setIfInBounds_toArray, List.set_cons_zero, List.set_cons_succ]
  refine wpAnyH_ready (rs := [3]) (by kernel_rfl) (by simp) ?_
  refine AllReadyH.cons (o := { dst := some 43, op := Go.Op.call { callee := Go.Callee.value (Go.Operand.func 32), args := #[Go.Operand.tmp 40, Go.Operand.tmp 42], argTypes := #[48, 48] }, type := 4, pos := "exact.go:3521", after := #[{ on := 0, ground := Go.Ground.data }, { on := 2, ground := Go.Ground.data }, { on := 2, ground := Go.Ground.chain }], guard := none }) rfl (fun K hK => ?_) AllReadyH.nil
  go_simp
  go_at_call 32
  refine (eq_Log _ _ x0 _ ((unhide Hx0).reads.later hHeld) RT).mono ?_
  rintro e wU0 ⟨rfl, hbw⟩
  try go_wp2_with fail
  refine hK.out _ _ (hHeld.trans (hbw.mono hHeld.size)) (fun hHeld => ?_)
  clear hK K
  try simp only [Act.put, List.setIfInBounds_toArray, List.set_cons_zero, List.set_cons_succ]
  refine wpAnyH_take (i := 4) (oi := { dst := some 44, op := Go.Op.unOp Go.UnOp.not 4 (Go.Operand.tmp 43), type := 4, pos := "exact.go:3521", after := #[{ on := 3, ground := Go.Ground.data }], guard := none }) (v := ?vs04) rfl (by kernel_rfl) (by kernel_rfl) (by kernel_rfl) (fun _ _ _ h => h) (Or.inl ⟨by rfl, ?hs04⟩) hHeld ?rs04
  case hs04 =>
    intro wS hSw
    (try dsimp only at hSw)
    go_simp
    try with_reducible rfl
  case rs04 =>
  simp only [Act.put, List.setIfInBounds_toArray, List.set_cons_zero, List.set_cons_succ]
  refine wpAnyH_done (by kernel_rfl) ?_ _
  refine NoPanic.normal ?_
  clear l0P0 l1P0 ltP0 l0X0 l1X0 ltX0 OT RT
  have hb : Below w11.heap.size w11 wU0 := hHeld
  clear hHeld hbw
  replace HA0 := hide ((unhide HA0).later hb)
  replace HA1 := hide ((unhide HA1).later hb)
  replace P0 := hide ((unhide P0).keep hb)
  replace P1 := hide ((unhide P1).keep hb)
  replace HW := hide ((unhide HW).later hb)
  replace YW := hide ((unhide YW).keep hb)
  replace Hx0 := hide ((unhide Hx0).later hb)
  replace X0 := hide ((unhide X0).keep hb)
  replace Hx1 := hide ((unhide Hx1).later hb)
  replace X1 := hide ((unhide X1).keep hb)
  replace HG := hide ((unhide HG).later hb)
  replace YG := hide ((unhide YG).keep hb)
  have ZwU0 : w11.heap.size ≤ wU0.heap.size := hb.size
  replace HB := hide ((unhide HB).trans (hb.mono (by omega)))
  clear hb
  have l0P0 := (unhide P0).at 0 _ rfl
  have l1P0 := (unhide P0).at 1 _ rfl
  have ltP0 : w.heap.size < wU0.heap.size := by omega
  have l0P1 := (unhide P1).at 0 _ rfl
  have l1P1 := (unhide P1).at 1 _ rfl
  have l2P1 := (unhide P1).at 2 _ rfl
  have l3P1 := (unhide P1).at 3 _ rfl
  have l4P1 := (unhide P1).at 4 _ rfl
  have ltP1 : w.heap.size + 1 < wU0.heap.size := by omega
  have l0YW := (unhide YW).at 0 _ rfl
  have l1YW := (unhide YW).at 1 _ rfl
  have l2YW := (unhide YW).at 2 _ rfl
  have l3YW := (unhide YW).at 3 _ rfl
  have ltYW : sW < wU0.heap.size := by omega
  have l0X0 := (unhide X0).at 0 _ rfl
  have l1X0 := (unhide X0).at 1 _ rfl
  have ltX0 : w5.heap.size < wU0.heap.size := by omega
  have l0X1 := (unhide X1).at 0 _ rfl
  have l1X1 := (unhide X1).at 1 _ rfl
  have l2X1 := (unhide X1).at 2 _ rfl
  have l3X1 := (unhide X1).at 3 _ rfl
  have l4X1 := (unhide X1).at 4 _ rfl
  have ltX1 : w7.heap.size < wU0.heap.size := by omega
  have l0YG := (unhide YG).at 0 _ rfl
  have l1YG := (unhide YG).at 1 _ rfl
  have l2YG := (unhide YG).at 2 _ rfl
  have l3YG := (unhide YG).at 3 _ rfl
  have ltYG : w9.heap.size < wU0.heap.size := by omega
  simp only [List.getElem_toArray, List.getElem_cons_zero, List.getElem_cons_succ] at l0P0 l1P0 l0P1 l1P1 l2P1 l3P1 l4P1 l0YW l1YW l2YW l3YW l0X0 l1X0 l0X1 l1X1 l2X1 l3X1 l4X1 l0YG l1YG l2YG l3YG
  go_wp2_with fail
  clear l0P0 l1P0 ltP0 l0P1 l1P1 l2P1 l3P1 l4P1 ltP1 l0YW l1YW l2YW l3YW ltYW l0X0 l1X0 ltX0 l0X1 l1X1 l2X1 l3X1 l4X1 ltX1 l0YG l1YG l2YG l3YG ltYG
  have l0P1 := (unhide P1).at 0 _ rfl
  have l1P1 := (unhide P1).at 1 _ rfl
  have l2P1 := (unhide P1).at 2 _ rfl
  have l3P1 := (unhide P1).at 3 _ rfl
  have l4P1 := (unhide P1).at 4 _ rfl
  have ltP1 : w.heap.size + 1 < wU0.heap.size := by omega
  have l0X1 := (unhide X1).at 0 _ rfl
  have l1X1 := (unhide X1).at 1 _ rfl
  have l2X1 := (unhide X1).at 2 _ rfl
  have l3X1 := (unhide X1).at 3 _ rfl
  have l4X1 := (unhide X1).at 4 _ rfl
  have ltX1 : w7.heap.size < wU0.heap.size := by omega
  simp only [List.getElem_toArray, List.getElem_cons_zero, List.getElem_cons_succ] at l0P1 l1P1 l2P1 l3P1 l4P1 l0X1 l1X1 l2X1 l3X1 l4X1
  refine wp_region_noPanic ?_
  refine wp_region_held_drew (S := fun w' => Below wU0.heap.size wU0 w') (by kernel_rfl) (Below.refl _ _).drew (fun hHeld => ?_)
  generalize wU0.drew = wD at hHeld ⊢
  refine wpAnyH_take (i := 0) (oi := { dst := some 45, op := Go.Op.load 58 (Go.Operand.tmp 8), type := 58, pos := "exact.go:3524", after := #[], guard := none }) (v := ?vs10) rfl (by kernel_rfl) (by kernel_rfl) (by kernel_rfl) (fun _ _ _ h => h) (Or.inl ⟨by rfl, ?hs10⟩) hHeld ?rs10
  case hs10 =>
    intro wS hSw
    have y0P1 := (hSw.cell (p := ⟨w.heap.size + 1, 0, none⟩) ltP1).trans l0P1
    have y1P1 := (hSw.cell (p := ⟨w.heap.size + 1, 1, none⟩) ltP1).trans l1P1
    have y2P1 := (hSw.cell (p := ⟨w.heap.size + 1, 2, none⟩) ltP1).trans l2P1
    have y3P1 := (hSw.cell (p := ⟨w.heap.size + 1, 3, none⟩) ltP1).trans l3P1
    have y4P1 := (hSw.cell (p := ⟨w.heap.size + 1, 4, none⟩) ltP1).trans l4P1
    have y0X1 := (hSw.cell (p := ⟨w7.heap.size, 0, none⟩) ltX1).trans l0X1
    have y1X1 := (hSw.cell (p := ⟨w7.heap.size, 1, none⟩) ltX1).trans l1X1
    have y2X1 := (hSw.cell (p := ⟨w7.heap.size, 2, none⟩) ltX1).trans l2X1
    have y3X1 := (hSw.cell (p := ⟨w7.heap.size, 3, none⟩) ltX1).trans l3X1
    have y4X1 := (hSw.cell (p := ⟨w7.heap.size, 4, none⟩) ltX1).trans l4X1
    clear hSw
    (try dsimp only at hSw)
    go_simp
    try with_reducible rfl
  case rs10 =>
  simp only [Act.put, List.setIfInBounds_toArray, List.set_cons_zero, List.set_cons_succ]
  refine wpAnyH_take (i := 1) (oi := { dst := some 46, op := Go.Op.load 53 (Go.Operand.tmp 3), type := 53, pos := "exact.go:3524", after := #[], guard := none }) (v := ?vs11) rfl (by kernel_rfl) (by kernel_rfl) (by kernel_rfl) (fun _ _ _ h => h) (Or.inl ⟨by rfl, ?hs11⟩) hHeld ?rs11
  case hs11 =>
    intro wS hSw
    have y0P1 := (hSw.cell (p := ⟨w.heap.size + 1, 0, none⟩) ltP1).trans l0P1
    have y1P1 := (hSw.cell (p := ⟨w.heap.size + 1, 1, none⟩) ltP1).trans l1P1
    have y2P1 := (hSw.cell (p := ⟨w.heap.size + 1, 2, none⟩) ltP1).trans l2P1
    have y3P1 := (hSw.cell (p := ⟨w.heap.size + 1, 3, none⟩) ltP1).trans l3P1
    have y4P1 := (hSw.cell (p := ⟨w.heap.size + 1, 4, none⟩) ltP1).trans l4P1
    have y0X1 := (hSw.cell (p := ⟨w7.heap.size, 0, none⟩) ltX1).trans l0X1
    have y1X1 := (hSw.cell (p := ⟨w7.heap.size, 1, none⟩) ltX1).trans l1X1
    have y2X1 := (hSw.cell (p := ⟨w7.heap.size, 2, none⟩) ltX1).trans l2X1
    have y3X1 := (hSw.cell (p := ⟨w7.heap.size, 3, none⟩) ltX1).trans l3X1
    have y4X1 := (hSw.cell (p := ⟨w7.heap.size, 4, none⟩) ltX1).trans l4X1
    clear hSw
    (try dsimp only at hSw)
    go_simp
    try with_reducible rfl
  case rs11 =>
  simp only [Act.put, List.setIfInBounds_toArray, List.set_cons_zero, List.set_cons_succ]
  refine wpAnyH_ready (rs := [2]) (by kernel_rfl) (by simp) ?_
  refine AllReadyH.cons (o := { dst := some 47, op := Go.Op.call { callee := Go.Callee.value (Go.Operand.func 35), args := #[Go.Operand.tmp 46], argTypes := #[53] }, type := 58, pos := "exact.go:3524", after := #[{ on := 1, ground := Go.Ground.data }], guard := none }) rfl (fun K hK => ?_) AllReadyH.nil
  go_simp
  go_at_call 35
  refine (to_Write _ x1 _ ((unhide HA1).reads.later hHeld) (unhide HN1)).mono ?_
  rintro e wT ⟨vT, rfl, OT, hbw⟩
  have RT := OT.reads
  obtain ⟨a2T, d2T, rfl, -⟩ := open_Write RT
  try go_wp2_with fail
  refine hK.out _ _ (hHeld.trans (hbw.mono hHeld.size)) (fun hHeld => ?_)
  clear hK K
  try simp only [Act.put, List.setIfInBounds_toArray, List.set_cons_zero, List.set_cons_succ]
  refine wpAnyH_ready (rs := [3]) (by kernel_rfl) (by simp) ?_
  refine AllReadyH.cons (o := { dst := some 48, op := Go.Op.call { callee := Go.Callee.value (Go.Operand.func 38), args := #[Go.Operand.tmp 45, Go.Operand.tmp 47], argTypes := #[58, 58] }, type := 4, pos := "exact.go:3524", after := #[{ on := 0, ground := Go.Ground.data }, { on := 2, ground := Go.Ground.data }, { on := 2, ground := Go.Ground.chain }], guard := none }) rfl (fun K hK => ?_) AllReadyH.nil
  go_simp
  go_at_call 38
  refine (eq_Write _ _ x1 _ ((unhide Hx1).reads.later hHeld) RT).mono ?_
  rintro e wU1 ⟨rfl, hbw⟩
  try go_wp2_with fail
  refine hK.out _ _ (hHeld.trans (hbw.mono hHeld.size)) (fun hHeld => ?_)
  clear hK K
  try simp only [Act.put, List.setIfInBounds_toArray, List.set_cons_zero, List.set_cons_succ]
  refine wpAnyH_take (i := 4) (oi := { dst := some 49, op := Go.Op.unOp Go.UnOp.not 4 (Go.Operand.tmp 48), type := 4, pos := "exact.go:3524", after := #[{ on := 3, ground := Go.Ground.data }], guard := none }) (v := ?vs14) rfl (by kernel_rfl) (by kernel_rfl) (by kernel_rfl) (fun _ _ _ h => h) (Or.inl ⟨by rfl, ?hs14⟩) hHeld ?rs14
  case hs14 =>
    intro wS hSw
    (try dsimp only at hSw)
    go_simp
    try with_reducible rfl
  case rs14 =>
  simp only [Act.put, List.setIfInBounds_toArray, List.set_cons_zero, List.set_cons_succ]
  refine wpAnyH_done (by kernel_rfl) ?_ _
  refine NoPanic.normal ?_
  clear l0P1 l1P1 l2P1 l3P1 l4P1 ltP1 l0X1 l1X1 l2X1 l3X1 l4X1 ltX1 OT RT
  have hb : Below wU0.heap.size wU0 wU1 := hHeld
  clear hHeld hbw
  replace HA0 := hide ((unhide HA0).later hb)
  replace HA1 := hide ((unhide HA1).later hb)
  replace P0 := hide ((unhide P0).keep hb)
  replace P1 := hide ((unhide P1).keep hb)
  replace HW := hide ((unhide HW).later hb)
  replace YW := hide ((unhide YW).keep hb)
  replace Hx0 := hide ((unhide Hx0).later hb)
  replace X0 := hide ((unhide X0).keep hb)
  replace Hx1 := hide ((unhide Hx1).later hb)
  replace X1 := hide ((unhide X1).keep hb)
  replace HG := hide ((unhide HG).later hb)
  replace YG := hide ((unhide YG).keep hb)
  have ZwU1 : wU0.heap.size ≤ wU1.heap.size := hb.size
  replace HB := hide ((unhide HB).trans (hb.mono (by omega)))
  clear hb
  have l0P0 := (unhide P0).at 0 _ rfl
  have l1P0 := (unhide P0).at 1 _ rfl
  have ltP0 : w.heap.size < wU1.heap.size := by omega
  have l0P1 := (unhide P1).at 0 _ rfl
  have l1P1 := (unhide P1).at 1 _ rfl
  have l2P1 := (unhide P1).at 2 _ rfl
  have l3P1 := (unhide P1).at 3 _ rfl
  have l4P1 := (unhide P1).at 4 _ rfl
  have ltP1 : w.heap.size + 1 < wU1.heap.size := by omega
  have l0YW := (unhide YW).at 0 _ rfl
  have l1YW := (unhide YW).at 1 _ rfl
  have l2YW := (unhide YW).at 2 _ rfl
  have l3YW := (unhide YW).at 3 _ rfl
  have ltYW : sW < wU1.heap.size := by omega
  have l0X0 := (unhide X0).at 0 _ rfl
  have l1X0 := (unhide X0).at 1 _ rfl
  have ltX0 : w5.heap.size < wU1.heap.size := by omega
  have l0X1 := (unhide X1).at 0 _ rfl
  have l1X1 := (unhide X1).at 1 _ rfl
  have l2X1 := (unhide X1).at 2 _ rfl
  have l3X1 := (unhide X1).at 3 _ rfl
  have l4X1 := (unhide X1).at 4 _ rfl
  have ltX1 : w7.heap.size < wU1.heap.size := by omega
  have l0YG := (unhide YG).at 0 _ rfl
  have l1YG := (unhide YG).at 1 _ rfl
  have l2YG := (unhide YG).at 2 _ rfl
  have l3YG := (unhide YG).at 3 _ rfl
  have ltYG : w9.heap.size < wU1.heap.size := by omega
  simp only [List.getElem_toArray, List.getElem_cons_zero, List.getElem_cons_succ] at l0P0 l1P0 l0P1 l1P1 l2P1 l3P1 l4P1 l0YW l1YW l2YW l3YW l0X0 l1X0 l0X1 l1X1 l2X1 l3X1 l4X1 l0YG l1YG l2YG l3YG
  go_wp2_with fail
  clear l0P0 l1P0 ltP0 l0P1 l1P1 l2P1 l3P1 l4P1 ltP1 l0YW l1YW l2YW l3YW ltYW l0X0 l1X0 ltX0 l0X1 l1X1 l2X1 l3X1 l4X1 ltX1 l0YG l1YG l2YG l3YG ltYG
  obtain ⟨bl, O, hbl⟩ := unhide Hx0
  clear Hx0
  have HCx0 := few_bound (A := Lay.tLog) (few_via (few_pair (few_sl few_int) (few_sl few_int))) (unhide HN0) (by omega)
  refine (mark_Log _ x0 bl (1) wU1 O (by omega) (by omega)).mono ?_
  rintro e w14 ⟨rfl, -, E⟩
  replace E := E.mono (S' := within w4.heap.size w5.heap.size) fun b _ hb => hbl b hb
  clear hbl O
  have zlo : w.heap.size ≤ w4.heap.size ∧ w5.heap.size ≤ wU1.heap.size := by omega
  replace HA0 := hide ((unhide HA0).ext E (within_out (by omega)))
  replace HA1 := hide ((unhide HA1).ext E (within_out (by omega)))
  replace P0 := hide ((unhide P0).ext E (fun q => by simp only [within] at q; omega))
  replace P1 := hide ((unhide P1).ext E (fun q => by simp only [within] at q; omega))
  replace HW := hide ((unhide HW).ext E (within_out (by omega)))
  replace YW := hide ((unhide YW).ext E (fun q => by simp only [within] at q; omega))
  replace X0 := hide ((unhide X0).ext E (fun q => by simp only [within] at q; omega))
  replace Hx1 := hide ((unhide Hx1).ext E (within_out (by omega)))
  replace X1 := hide ((unhide X1).ext E (fun q => by simp only [within] at q; omega))
  replace HG := hide ((unhide HG).ext E (within_out (by omega)))
  replace YG := hide ((unhide YG).ext E (fun q => by simp only [within] at q; omega))
  have Zw14 : wU1.heap.size ≤ w14.heap.size := E.size
  replace HB := hide ((unhide HB).trans (E.below (by omega) (fun k h q => by simp only [within] at q; omega)))
  clear E
  clear zlo
  have l0P0 := (unhide P0).at 0 _ rfl
  have l1P0 := (unhide P0).at 1 _ rfl
  have ltP0 : w.heap.size < w14.heap.size := by omega
  have l0P1 := (unhide P1).at 0 _ rfl
  have l1P1 := (unhide P1).at 1 _ rfl
  have l2P1 := (unhide P1).at 2 _ rfl
  have l3P1 := (unhide P1).at 3 _ rfl
  have l4P1 := (unhide P1).at 4 _ rfl
  have ltP1 : w.heap.size + 1 < w14.heap.size := by omega
  have l0YW := (unhide YW).at 0 _ rfl
  have l1YW := (unhide YW).at 1 _ rfl
  have l2YW := (unhide YW).at 2 _ rfl
  have l3YW := (unhide YW).at 3 _ rfl
  have ltYW : sW < w14.heap.size := by omega
  have l0X0 := (unhide X0).at 0 _ rfl
  have l1X0 := (unhide X0).at 1 _ rfl
  have ltX0 : w5.heap.size < w14.heap.size := by omega
  have l0X1 := (unhide X1).at 0 _ rfl
  have l1X1 := (unhide X1).at 1 _ rfl
  have l2X1 := (unhide X1).at 2 _ rfl
  have l3X1 := (unhide X1).at 3 _ rfl
  have l4X1 := (unhide X1).at 4 _ rfl
  have ltX1 : w7.heap.size < w14.heap.size := by omega
  have l0YG := (unhide YG).at 0 _ rfl
  have l1YG := (unhide YG).at 1 _ rfl
  have l2YG := (unhide YG).at 2 _ rfl
  have l3YG := (unhide YG).at 3 _ rfl
  have ltYG : w9.heap.size < w14.heap.size := by omega
  simp only [List.getElem_toArray, List.getElem_cons_zero, List.getElem_cons_succ] at l0P0 l1P0 l0P1 l1P1 l2P1 l3P1 l4P1 l0YW l1YW l2YW l3YW l0X0 l1X0 l0X1 l1X1 l2X1 l3X1 l4X1 l0YG l1YG l2YG l3YG
  go_wp2_with fail
  clear l0P0 l1P0 ltP0 l0P1 l1P1 l2P1 l3P1 l4P1 ltP1 l0YW l1YW l2YW l3YW ltYW l0X0 l1X0 ltX0 l0X1 l1X1 l2X1 l3X1 l4X1 ltX1 l0YG l1YG l2YG l3YG ltYG
  obtain ⟨bl, O, hbl⟩ := unhide Hx1
  clear Hx1
  have HCx1 := few_bound (A := Lay.tWrite) (few_via (few_pair few_int (few_pair few_int (few_pair (few_sl few_int) (few_pair few_int few_int))))) (unhide HN1) (by omega)
  refine (mark_Write _ x1 bl (1 + (Lay.tLog.vcnt x0 : Int)) w14 O (by omega) (by omega)).mono ?_
  rintro e w15 ⟨rfl, -, E⟩
  replace E := E.mono (S' := within w6.heap.size w7.heap.size) fun b _ hb => hbl b hb
  clear hbl O
  have zlo : w.heap.size ≤ w6.heap.size ∧ w7.heap.size ≤ w14.heap.size := by omega
  replace HA0 := hide ((unhide HA0).ext E (within_out (by omega)))
  replace HA1 := hide ((unhide HA1).ext E (within_out (by omega)))
  replace P0 := hide ((unhide P0).ext E (fun q => by simp only [within] at q; omega))
  replace P1 := hide ((unhide P1).ext E (fun q => by simp only [within] at q; omega))
  replace HW := hide ((unhide HW).ext E (within_out (by omega)))
  replace YW := hide ((unhide YW).ext E (fun q => by simp only [within] at q; omega))
  replace X0 := hide ((unhide X0).ext E (fun q => by simp only [within] at q; omega))
  replace X1 := hide ((unhide X1).ext E (fun q => by simp only [within] at q; omega))
  replace HG := hide ((unhide HG).ext E (within_out (by omega)))
  replace YG := hide ((unhide YG).ext E (fun q => by simp only [within] at q; omega))
  have Zw15 : w14.heap.size ≤ w15.heap.size := E.size
  replace HB := hide ((unhide HB).trans (E.below (by omega) (fun k h q => by simp only [within] at q; omega)))
  clear E
  clear zlo
  obtain ⟨mk, hmk⟩ : ∃ mk : Int, mk = 1 + (Lay.tLog.vcnt x0 : Int) + (Lay.tWrite.vcnt x1 : Int) := ⟨_, rfl⟩
  rw [← hmk]
  have hm3 : decide (mk < 0) = false := decide_eq_false (by omega)
  clear hmk HCx0 HCx1
  have l0P0 := (unhide P0).at 0 _ rfl
  have l1P0 := (unhide P0).at 1 _ rfl
  have ltP0 : w.heap.size < w15.heap.size := by omega
  have l0P1 := (unhide P1).at 0 _ rfl
  have l1P1 := (unhide P1).at 1 _ rfl
  have l2P1 := (unhide P1).at 2 _ rfl
  have l3P1 := (unhide P1).at 3 _ rfl
  have l4P1 := (unhide P1).at 4 _ rfl
  have ltP1 : w.heap.size + 1 < w15.heap.size := by omega
  have l0YW := (unhide YW).at 0 _ rfl
  have l1YW := (unhide YW).at 1 _ rfl
  have l2YW := (unhide YW).at 2 _ rfl
  have l3YW := (unhide YW).at 3 _ rfl
  have ltYW : sW < w15.heap.size := by omega
  have l0X0 := (unhide X0).at 0 _ rfl
  have l1X0 := (unhide X0).at 1 _ rfl
  have ltX0 : w5.heap.size < w15.heap.size := by omega
  have l0X1 := (unhide X1).at 0 _ rfl
  have l1X1 := (unhide X1).at 1 _ rfl
  have l2X1 := (unhide X1).at 2 _ rfl
  have l3X1 := (unhide X1).at 3 _ rfl
  have l4X1 := (unhide X1).at 4 _ rfl
  have ltX1 : w7.heap.size < w15.heap.size := by omega
  have l0YG := (unhide YG).at 0 _ rfl
  have l1YG := (unhide YG).at 1 _ rfl
  have l2YG := (unhide YG).at 2 _ rfl
  have l3YG := (unhide YG).at 3 _ rfl
  have ltYG : w9.heap.size < w15.heap.size := by omega
  simp only [List.getElem_toArray, List.getElem_cons_zero, List.getElem_cons_succ] at l0P0 l1P0 l0P1 l1P1 l2P1 l3P1 l4P1 l0YW l1YW l2YW l3YW l0X0 l1X0 l0X1 l1X1 l2X1 l3X1 l4X1 l0YG l1YG l2YG l3YG
  go_wp2_with fail
  clear l0P0 l1P0 ltP0 l0P1 l1P1 l2P1 l3P1 l4P1 ltP1 l0YW l1YW l2YW l3YW ltYW l0X0 l1X0 ltX0 l0X1 l1X1 l2X1 l3X1 l4X1 ltX1 l0YG l1YG l2YG l3YG ltYG
  refine (eq_LogResult _ _ y w15 (unhide HG).reads (unhide HW).reads).mono ?_
  rintro e w16 ⟨rfl, hb⟩
  replace HA0 := hide ((unhide HA0).later hb)
  replace HA1 := hide ((unhide HA1).later hb)
  replace P0 := hide ((unhide P0).keep hb)
  replace P1 := hide ((unhide P1).keep hb)
  replace HW := hide ((unhide HW).later hb)
  replace YW := hide ((unhide YW).keep hb)
  replace X0 := hide ((unhide X0).keep hb)
  replace X1 := hide ((unhide X1).keep hb)
  replace HG := hide ((unhide HG).later hb)
  replace YG := hide ((unhide YG).keep hb)
  have Zw16 : w15.heap.size ≤ w16.heap.size := hb.size
  replace HB := hide ((unhide HB).trans (hb.mono (by omega)))
  clear hb
  clear hm3
  have l0P0 := (unhide P0).at 0 _ rfl
  have l1P0 := (unhide P0).at 1 _ rfl
  have ltP0 : w.heap.size < w16.heap.size := by omega
  have l0P1 := (unhide P1).at 0 _ rfl
  have l1P1 := (unhide P1).at 1 _ rfl
  have l2P1 := (unhide P1).at 2 _ rfl
  have l3P1 := (unhide P1).at 3 _ rfl
  have l4P1 := (unhide P1).at 4 _ rfl
  have ltP1 : w.heap.size + 1 < w16.heap.size := by omega
  have l0YW := (unhide YW).at 0 _ rfl
  have l1YW := (unhide YW).at 1 _ rfl
  have l2YW := (unhide YW).at 2 _ rfl
  have l3YW := (unhide YW).at 3 _ rfl
  have ltYW : sW < w16.heap.size := by omega
  have l0X0 := (unhide X0).at 0 _ rfl
  have l1X0 := (unhide X0).at 1 _ rfl
  have ltX0 : w5.heap.size < w16.heap.size := by omega
  have l0X1 := (unhide X1).at 0 _ rfl
  have l1X1 := (unhide X1).at 1 _ rfl
  have l2X1 := (unhide X1).at 2 _ rfl
  have l3X1 := (unhide X1).at 3 _ rfl
  have l4X1 := (unhide X1).at 4 _ rfl
  have ltX1 : w7.heap.size < w16.heap.size := by omega
  have l0YG := (unhide YG).at 0 _ rfl
  have l1YG := (unhide YG).at 1 _ rfl
  have l2YG := (unhide YG).at 2 _ rfl
  have l3YG := (unhide YG).at 3 _ rfl
  have ltYG : w9.heap.size < w16.heap.size := by omega
  simp only [List.getElem_toArray, List.getElem_cons_zero, List.getElem_cons_succ] at l0P0 l1P0 l0P1 l1P1 l2P1 l3P1 l4P1 l0YW l1YW l2YW l3YW l0X0 l1X0 l0X1 l1X1 l2X1 l3X1 l4X1 l0YG l1YG l2YG l3YG
  go_wp2_with fail
  clear l0P0 l1P0 ltP0 l0P1 l1P1 l2P1 l3P1 l4P1 ltP1 l0YW l1YW l2YW l3YW ltYW l0X0 l1X0 ltX0 l0X1 l1X1 l2X1 l3X1 l4X1 ltX1 l0YG l1YG l2YG l3YG ltYG
  obtain ⟨bl, O, hbl⟩ := unhide HG
  clear HG
  have hcy := unhide HC
  refine (mark_LogResult _ y bl 1 w16 O (by omega) (by omega)).mono ?_
  rintro e w17 ⟨rfl, O2, E⟩
  replace E := E.mono (S' := within w8.heap.size w9.heap.size) fun b _ hb => hbl b hb
  have HG : Hid (Lay.tLogResult.OwnIn w17 _ (Lay.tLogResult.mkv 1 y) w8.heap.size w9.heap.size) := ⟨bl, O2, hbl⟩
  clear hbl O O2
  have zlo : w.heap.size ≤ w8.heap.size ∧ w9.heap.size ≤ w16.heap.size := by omega
  replace HA0 := hide ((unhide HA0).ext E (within_out (by omega)))
  replace HA1 := hide ((unhide HA1).ext E (within_out (by omega)))
  replace P0 := hide ((unhide P0).ext E (fun q => by simp only [within] at q; omega))
  replace P1 := hide ((unhide P1).ext E (fun q => by simp only [within] at q; omega))
  replace HW := hide ((unhide HW).ext E (within_out (by omega)))
  replace YW := hide ((unhide YW).ext E (fun q => by simp only [within] at q; omega))
  replace X0 := hide ((unhide X0).ext E (fun q => by simp only [within] at q; omega))
  replace X1 := hide ((unhide X1).ext E (fun q => by simp only [within] at q; omega))
  replace YG := hide ((unhide YG).ext E (fun q => by simp only [within] at q; omega))
  have Zw17 : w16.heap.size ≤ w17.heap.size := E.size
  replace HB := hide ((unhide HB).trans (E.below (by omega) (fun k h q => by simp only [within] at q; omega)))
  clear E
  clear zlo
  have hq0 : decide (1 + (Lay.tLogResult.vcnt y : Int) < 0) = false := decide_eq_false (by omega)
  have hq1 : ((1 + (Lay.tLogResult.vcnt y : Int)) != (1 + (Lay.tLogResult.vcnt y : Int))) = false := by simp
  clear hcy
  have l0P0 := (unhide P0).at 0 _ rfl
  have l1P0 := (unhide P0).at 1 _ rfl
  have ltP0 : w.heap.size < w17.heap.size := by omega
  have l0P1 := (unhide P1).at 0 _ rfl
  have l1P1 := (unhide P1).at 1 _ rfl
  have l2P1 := (unhide P1).at 2 _ rfl
  have l3P1 := (unhide P1).at 3 _ rfl
  have l4P1 := (unhide P1).at 4 _ rfl
  have ltP1 : w.heap.size + 1 < w17.heap.size := by omega
  have l0YW := (unhide YW).at 0 _ rfl
  have l1YW := (unhide YW).at 1 _ rfl
  have l2YW := (unhide YW).at 2 _ rfl
  have l3YW := (unhide YW).at 3 _ rfl
  have ltYW : sW < w17.heap.size := by omega
  have l0X0 := (unhide X0).at 0 _ rfl
  have l1X0 := (unhide X0).at 1 _ rfl
  have ltX0 : w5.heap.size < w17.heap.size := by omega
  have l0X1 := (unhide X1).at 0 _ rfl
  have l1X1 := (unhide X1).at 1 _ rfl
  have l2X1 := (unhide X1).at 2 _ rfl
  have l3X1 := (unhide X1).at 3 _ rfl
  have l4X1 := (unhide X1).at 4 _ rfl
  have ltX1 : w7.heap.size < w17.heap.size := by omega
  have l0YG := (unhide YG).at 0 _ rfl
  have l1YG := (unhide YG).at 1 _ rfl
  have l2YG := (unhide YG).at 2 _ rfl
  have l3YG := (unhide YG).at 3 _ rfl
  have ltYG : w9.heap.size < w17.heap.size := by omega
  simp only [List.getElem_toArray, List.getElem_cons_zero, List.getElem_cons_succ] at l0P0 l1P0 l0P1 l1P1 l2P1 l3P1 l4P1 l0YW l1YW l2YW l3YW l0X0 l1X0 l0X1 l1X1 l2X1 l3X1 l4X1 l0YG l1YG l2YG l3YG
  go_wp2_with fail
  clear l0P0 l1P0 ltP0 l0P1 l1P1 l2P1 l3P1 l4P1 ltP1 l0YW l1YW l2YW l3YW ltYW l0X0 l1X0 ltX0 l0X1 l1X1 l2X1 l3X1 l4X1 ltX1 l0YG l1YG l2YG l3YG ltYG
  refine (held_LogResult _ y 1 w17 (unhide HG).reads (by omega) (by have := unhide HC; omega)).mono ?_
  rintro e w18 ⟨rfl, hb⟩
  replace HA0 := hide ((unhide HA0).later hb)
  replace HA1 := hide ((unhide HA1).later hb)
  replace P0 := hide ((unhide P0).keep hb)
  replace P1 := hide ((unhide P1).keep hb)
  replace HW := hide ((unhide HW).later hb)
  replace YW := hide ((unhide YW).keep hb)
  replace X0 := hide ((unhide X0).keep hb)
  replace X1 := hide ((unhide X1).keep hb)
  replace YG := hide ((unhide YG).keep hb)
  replace HG := hide ((unhide HG).later hb)
  have Zw18 : w17.heap.size ≤ w18.heap.size := hb.size
  replace HB := hide ((unhide HB).trans (hb.mono (by omega)))
  clear hb
  have l0P0 := (unhide P0).at 0 _ rfl
  have l1P0 := (unhide P0).at 1 _ rfl
  have ltP0 : w.heap.size < w18.heap.size := by omega
  have l0P1 := (unhide P1).at 0 _ rfl
  have l1P1 := (unhide P1).at 1 _ rfl
  have l2P1 := (unhide P1).at 2 _ rfl
  have l3P1 := (unhide P1).at 3 _ rfl
  have l4P1 := (unhide P1).at 4 _ rfl
  have ltP1 : w.heap.size + 1 < w18.heap.size := by omega
  have l0YW := (unhide YW).at 0 _ rfl
  have l1YW := (unhide YW).at 1 _ rfl
  have l2YW := (unhide YW).at 2 _ rfl
  have l3YW := (unhide YW).at 3 _ rfl
  have ltYW : sW < w18.heap.size := by omega
  have l0X0 := (unhide X0).at 0 _ rfl
  have l1X0 := (unhide X0).at 1 _ rfl
  have ltX0 : w5.heap.size < w18.heap.size := by omega
  have l0X1 := (unhide X1).at 0 _ rfl
  have l1X1 := (unhide X1).at 1 _ rfl
  have l2X1 := (unhide X1).at 2 _ rfl
  have l3X1 := (unhide X1).at 3 _ rfl
  have l4X1 := (unhide X1).at 4 _ rfl
  have ltX1 : w7.heap.size < w18.heap.size := by omega
  have l0YG := (unhide YG).at 0 _ rfl
  have l1YG := (unhide YG).at 1 _ rfl
  have l2YG := (unhide YG).at 2 _ rfl
  have l3YG := (unhide YG).at 3 _ rfl
  have ltYG : w9.heap.size < w18.heap.size := by omega
  simp only [List.getElem_toArray, List.getElem_cons_zero, List.getElem_cons_succ] at l0P0 l1P0 l0P1 l1P1 l2P1 l3P1 l4P1 l0YW l1YW l2YW l3YW l0X0 l1X0 l0X1 l1X1 l2X1 l3X1 l4X1 l0YG l1YG l2YG l3YG
  go_upto_region 31 with fail
  clear l0P0 l1P0 ltP0 l0P1 l1P1 l2P1 l3P1 l4P1 ltP1 l0YW l1YW l2YW l3YW ltYW l0X0 l1X0 ltX0 l0X1 l1X1 l2X1 l3X1 l4X1 ltX1 l0YG l1YG l2YG l3YG ltYG
  have l0P0 := (unhide P0).at 0 _ rfl
  have l1P0 := (unhide P0).at 1 _ rfl
  have ltP0 : w.heap.size < w18.heap.size := by omega
  have l0P1 := (unhide P1).at 0 _ rfl
  have l1P1 := (unhide P1).at 1 _ rfl
  have l2P1 := (unhide P1).at 2 _ rfl
  have l3P1 := (unhide P1).at 3 _ rfl
  have l4P1 := (unhide P1).at 4 _ rfl
  have ltP1 : w.heap.size + 1 < w18.heap.size := by omega
  simp only [List.getElem_toArray, List.getElem_cons_zero, List.getElem_cons_succ] at l0P0 l1P0 l0P1 l1P1 l2P1 l3P1 l4P1
  go_cut [13] from 75 to 79 (fun sL wx => ∃ (s0 : Nat) (a2K : Option Addr) (d2K : Nat) (a3K : Option Addr) (d3K : Nat), sL = .pointer (some ⟨s0, 0, none⟩) ∧ s0 < wx.heap.size ∧ Box w18.heap.size #[.int .i64 y.code, .int .i64 y.count, .slice a2K y.log.sure.length d2K, .slice a3K y.log.loose.length d3K] 56 wx s0 ∧ Lay.tLogResult.Reads wx [.int .i64 y.code, .int .i64 y.count, .slice a2K y.log.sure.length d2K, .slice a3K y.log.loose.length d3K] y ∧ Below w18.heap.size w18 wx)
  case first =>
    refine wp_region_noPanic ?_
    refine wp_region_held_drew (S := fun w' => Below w18.heap.size w18 w') (by kernel_rfl) (Below.refl _ _).drew (fun hHeld => ?_)
    generalize w18.drew = X0 at hHeld ⊢
    refine wpAnyH_take (i := 0) (oi := { dst := some 75, op := Go.Op.load 45 (Go.Operand.tmp 2), type := 45, pos := "exact.go:3543", after := #[], guard := none }) (v := ?v0_1) rfl (by kernel_rfl) (by kernel_rfl) (by kernel_rfl) (fun _ _ _ h => h) (Or.inl ⟨by rfl, ?h0_1⟩) hHeld ?r0_1
    case h0_1 =>
      intro wS hSw
      have y0P0 := (hSw.cell (p := ⟨w.heap.size, 0, none⟩) ltP0).trans l0P0
      have y1P0 := (hSw.cell (p := ⟨w.heap.size, 1, none⟩) ltP0).trans l1P0
      have y0P1 := (hSw.cell (p := ⟨w.heap.size + 1, 0, none⟩) ltP1).trans l0P1
      have y1P1 := (hSw.cell (p := ⟨w.heap.size + 1, 1, none⟩) ltP1).trans l1P1
      have y2P1 := (hSw.cell (p := ⟨w.heap.size + 1, 2, none⟩) ltP1).trans l2P1
      have y3P1 := (hSw.cell (p := ⟨w.heap.size + 1, 3, none⟩) ltP1).trans l3P1
      have y4P1 := (hSw.cell (p := ⟨w.heap.size + 1, 4, none⟩) ltP1).trans l4P1
      clear hSw
      (try dsimp only at hSw)
      go_simp
      try with_reducible rfl
    case r0_1 =>
    simp only [Act.put, List.setIfInBounds_toArray, List.set_cons_zero, List.set_cons_succ]
    refine wpAnyH_take (i := 2) (oi := { dst := some 77, op := Go.Op.load 53 (Go.Operand.tmp 3), type := 53, pos := "exact.go:3543", after := #[], guard := none }) (v := ?v2_2) rfl (by kernel_rfl) (by kernel_rfl) (by kernel_rfl) (fun _ _ _ h => h) (Or.inl ⟨by rfl, ?h2_2⟩) hHeld ?r2_2
    case h2_2 =>
      intro wS hSw
      have y0P0 := (hSw.cell (p := ⟨w.heap.size, 0, none⟩) ltP0).trans l0P0
      have y1P0 := (hSw.cell (p := ⟨w.heap.size, 1, none⟩) ltP0).trans l1P0
      have y0P1 := (hSw.cell (p := ⟨w.heap.size + 1, 0, none⟩) ltP1).trans l0P1
      have y1P1 := (hSw.cell (p := ⟨w.heap.size + 1, 1, none⟩) ltP1).trans l1P1
      have y2P1 := (hSw.cell (p := ⟨w.heap.size + 1, 2, none⟩) ltP1).trans l2P1
      have y3P1 := (hSw.cell (p := ⟨w.heap.size + 1, 3, none⟩) ltP1).trans l3P1
      have y4P1 := (hSw.cell (p := ⟨w.heap.size + 1, 4, none⟩) ltP1).trans l4P1
      clear hSw
      (try dsimp only at hSw)
      go_simp
      try with_reducible rfl
    case r2_2 =>
    simp only [Act.put, List.setIfInBounds_toArray, List.set_cons_zero, List.set_cons_succ]
    refine wpAnyH_ready (rs := [1, 5]) (by kernel_rfl) (by simp) ?_
    refine AllReadyH.cons (o := { dst := some 76, op := Go.Op.call { callee := Go.Callee.value (Go.Operand.func 30), args := #[Go.Operand.tmp 75], argTypes := #[45] }, type := 48, pos := "exact.go:3543", after := #[{ on := 0, ground := Go.Ground.data }], guard := none }) rfl (fun K hK => ?_) (AllReadyH.cons (o := { dst := some 13, op := Go.Op.alloc 56, type := 0, pos := "exact.go:3543", after := #[], guard := none }) rfl (fun K hK => ?_) AllReadyH.nil)
    · go_simp
      go_at_call 30
      refine (to_Log _ x0 _ ((unhide HA0).reads.later hHeld) (unhide HN0)).mono ?_
      rintro e X3 ⟨vT0, rfl, OT, hbw⟩
      have rt0 := OT.reads
      obtain ⟨a0T0, d0T0, a1T0, d1T0, rfl, -, -⟩ := open_Log rt0
      clear OT
      try go_wp2_with fail
      refine hK.out _ _ (hHeld.trans (hbw.mono hHeld.size)) (fun hHeld => ?_)
      clear hK K hbw
      try simp only [Act.put, List.setIfInBounds_toArray, List.set_cons_zero, List.set_cons_succ]
      refine wpAnyH_ready (rs := [3, 5]) (by kernel_rfl) (by simp) ?_
      refine AllReadyH.cons (o := { dst := some 78, op := Go.Op.call { callee := Go.Callee.value (Go.Operand.func 35), args := #[Go.Operand.tmp 77], argTypes := #[53] }, type := 58, pos := "exact.go:3543", after := #[{ on := 2, ground := Go.Ground.data }, { on := 1, ground := Go.Ground.chain }], guard := none }) rfl (fun K hK => ?_) (AllReadyH.cons (o := { dst := some 13, op := Go.Op.alloc 56, type := 0, pos := "exact.go:3543", after := #[], guard := none }) rfl (fun K hK => ?_) AllReadyH.nil)
      · go_simp
        go_at_call 35
        refine (to_Write _ x1 _ ((unhide HA1).reads.later hHeld) (unhide HN1)).mono ?_
        rintro e X4 ⟨vT1, rfl, OT, hbw⟩
        have rt1 := OT.reads
        obtain ⟨a2T1, d2T1, rfl, -⟩ := open_Write rt1
        replace rt0 := rt0.later hbw
        clear OT
        try go_wp2_with fail
        refine hK.out _ _ (hHeld.trans (hbw.mono hHeld.size)) (fun hHeld => ?_)
        clear hK K hbw
        try simp only [Act.put, List.setIfInBounds_toArray, List.set_cons_zero, List.set_cons_succ]
        refine wpAnyH_ready (rs := [4, 5]) (by kernel_rfl) (by simp) ?_
        refine AllReadyH.cons (o := { dst := some 79, op := Go.Op.call { callee := Go.Callee.value (Go.Operand.func 36), args := #[Go.Operand.tmp 76, Go.Operand.tmp 78], argTypes := #[48, 58] }, type := 56, pos := "exact.go:3543", after := #[{ on := 1, ground := Go.Ground.data }, { on := 3, ground := Go.Ground.data }, { on := 3, ground := Go.Ground.chain }], guard := none }) rfl (fun K hK => ?_) (AllReadyH.cons (o := { dst := some 13, op := Go.Op.alloc 56, type := 0, pos := "exact.go:3543", after := #[], guard := none }) rfl (fun K hK => ?_) AllReadyH.nil)
        · go_simp
          go_at_call 36
          refine (unhide HI _ _ _ rt0 rt1).mono ?_
          rintro e X5 ⟨cs, rfl, O, hbw⟩
          obtain ⟨a2K, d2K, a3K, d3K, rfl, -⟩ := open_LogResult O.reads
          have hz9 := hbw.size
          have rd := O.lies
          clear O
          try go_wp2_with fail
          refine hK.out _ _ (hHeld.trans (hbw.mono hHeld.size)) (fun hHeld => ?_)
          clear hK K hbw hz9
          try simp only [Act.put, List.setIfInBounds_toArray, List.set_cons_zero, List.set_cons_succ]
          clear rt0 rt1
          refine wpAnyH_ready (rs := [5]) (by kernel_rfl) (by simp) ?_
          refine AllReadyH.cons (o := { dst := some 13, op := Go.Op.alloc 56, type := 0, pos := "exact.go:3543", after := #[], guard := none }) rfl (fun K hK => ?_) AllReadyH.nil
          have bx : Box w18.heap.size #[.int .i64 0, .int .i64 0, .slice none 0 0, .slice none 0 0] 56 (X5.alloc (.cells #[.int .i64 0, .int .i64 0, .slice none 0 0, .slice none 0 0] 56)) X5.heap.size := newBox hHeld.size
          have nbA : Below X5.heap.size X5 (X5.alloc (.cells #[.int .i64 0, .int .i64 0, .slice none 0 0, .slice none 0 0] 56)) := (Below.refl _ _).alloc (Nat.le_refl _) _
          replace rd := rd.later nbA
          have hNx := hHeld.trans (nbA.mono hHeld.size)
          go_simp
          refine hK.out _ _ hNx (fun hHeld => ?_)
          clear hK K hNx nbA
          try simp only [Act.put, List.setIfInBounds_toArray, List.set_cons_zero, List.set_cons_succ]
          generalize X5.alloc (.cells #[.int .i64 0, .int .i64 0, .slice none 0 0, .slice none 0 0] 56) = X6 at *
          refine wpAnyH_ready (rs := [6]) (by kernel_rfl) (by simp) ?_
          refine AllReadyH.cons (o := { dst := none, op := Go.Op.store 56 (Go.Operand.tmp 13) (Go.Operand.tmp 79), type := 0, pos := "exact.go:3543", after := #[{ on := 5, ground := Go.Ground.data }, { on := 4, ground := Go.Ground.data }, { on := 4, ground := Go.Ground.chain }, { on := 0, ground := Go.Ground.phase }, { on := 1, ground := Go.Ground.phase }, { on := 2, ground := Go.Ground.phase }, { on := 3, ground := Go.Ground.phase }, { on := 4, ground := Go.Ground.phase }, { on := 5, ground := Go.Ground.phase }], guard := none }) rfl (fun K hK => ?_) AllReadyH.nil
          have z0 : X6.cell? ⟨X5.heap.size, 0, none⟩ = some (.int .i64 0) := bx.at 0 _ rfl
          have f0 := bx.soft 0
          have z1 : X6.cell? ⟨X5.heap.size, 1, none⟩ = some (.int .i64 0) := bx.at 1 _ rfl
          have f1 := bx.soft 1
          have z2 : X6.cell? ⟨X5.heap.size, 2, none⟩ = some (.slice none 0 0) := bx.at 2 _ rfl
          have f2 := bx.soft 2
          have z3 : X6.cell? ⟨X5.heap.size, 3, none⟩ = some (.slice none 0 0) := bx.at 3 _ rfl
          have f3 := bx.soft 3
          have l0 := bx.lt
          have bx9 : Box w18.heap.size #[.int .i64 y.code, .int .i64 y.count, .slice a2K y.log.sure.length d2K, .slice a3K y.log.loose.length d3K] 56 ((((X6.setCell ⟨X5.heap.size, 0, none⟩ (.int .i64 y.code)).setCell ⟨X5.heap.size, 1, none⟩ (.int .i64 y.count)).setCell ⟨X5.heap.size, 2, none⟩ (.slice a2K y.log.sure.length d2K)).setCell ⟨X5.heap.size, 3, none⟩ (.slice a3K y.log.loose.length d3K)) X5.heap.size := ((((bx.set 0 (.int .i64 y.code)).set 1 (.int .i64 y.count)).set 2 (.slice a2K y.log.sure.length d2K)).set 3 (.slice a3K y.log.loose.length d3K))
          have hE9 : Ext (fun c => c = X5.heap.size) X6 ((((X6.setCell ⟨X5.heap.size, 0, none⟩ (.int .i64 y.code)).setCell ⟨X5.heap.size, 1, none⟩ (.int .i64 y.count)).setCell ⟨X5.heap.size, 2, none⟩ (.slice a2K y.log.sure.length d2K)).setCell ⟨X5.heap.size, 3, none⟩ (.slice a3K y.log.loose.length d3K)) := (((((Ext.refl (fun c => c = X5.heap.size) _).setCell ⟨X5.heap.size, 0, none⟩ (.int .i64 y.code) rfl).setCell ⟨X5.heap.size, 1, none⟩ (.int .i64 y.count) rfl).setCell ⟨X5.heap.size, 2, none⟩ (.slice a2K y.log.sure.length d2K) rfl).setCell ⟨X5.heap.size, 3, none⟩ (.slice a3K y.log.loose.length d3K) rfl)
          have rd9 := (rd.ext hE9 (fun c h1 h2 h3 => by omega)).reads
          have hH9 : Below w18.heap.size w18 ((((X6.setCell ⟨X5.heap.size, 0, none⟩ (.int .i64 y.code)).setCell ⟨X5.heap.size, 1, none⟩ (.int .i64 y.count)).setCell ⟨X5.heap.size, 2, none⟩ (.slice a2K y.log.sure.length d2K)).setCell ⟨X5.heap.size, 3, none⟩ (.slice a3K y.log.loose.length d3K)) := ((((hHeld.setCell (by simpa using bx.1) (.int .i64 y.code)).setCell (by simpa using bx.1) (.int .i64 y.count)).setCell (by simpa using bx.1) (.slice a2K y.log.sure.length d2K)).setCell (by simpa using bx.1) (.slice a3K y.log.loose.length d3K))
          clear bx rd hE9
          have bx := bx9
          have rd := rd9
          clear bx9 rd9
          go_simp
          refine hK.out _ _ hH9 (fun hHeld => ?_)
          clear hK K hH9 l0 z0 f0 z1 f1 z2 f2 z3 f3
          try simp only [Act.put, List.setIfInBounds_toArray, List.set_cons_zero, List.set_cons_succ]
          refine wpAnyH_done (by kernel_rfl) ?_ _
          refine NoPanic.normal ?_
          have HH := hide hHeld
          have HBX := hide bx
          have HRD := hide rd
          clear hHeld bx rd
          go_wp2_with fail
          go_meet
          exact ⟨_, _, _, _, _, rfl, (unhide HBX).lt, unhide HBX, unhide HRD, unhide HH⟩
        · have bx : Box w18.heap.size #[.int .i64 0, .int .i64 0, .slice none 0 0, .slice none 0 0] 56 (X4.alloc (.cells #[.int .i64 0, .int .i64 0, .slice none 0 0, .slice none 0 0] 56)) X4.heap.size := newBox hHeld.size
          have nbA : Below X4.heap.size X4 (X4.alloc (.cells #[.int .i64 0, .int .i64 0, .slice none 0 0, .slice none 0 0] 56)) := (Below.refl _ _).alloc (Nat.le_refl _) _
          replace rt0 := rt0.later nbA
          replace rt1 := rt1.later nbA
          have hNx := hHeld.trans (nbA.mono hHeld.size)
          go_simp
          refine hK.out _ _ hNx (fun hHeld => ?_)
          clear hK K hNx nbA
          try simp only [Act.put, List.setIfInBounds_toArray, List.set_cons_zero, List.set_cons_succ]
          generalize X4.alloc (.cells #[.int .i64 0, .int .i64 0, .slice none 0 0, .slice none 0 0] 56) = X8 at *
          refine wpAnyH_ready (rs := [4]) (by kernel_rfl) (by simp) ?_
          refine AllReadyH.cons (o := { dst := some 79, op := Go.Op.call { callee := Go.Callee.value (Go.Operand.func 36), args := #[Go.Operand.tmp 76, Go.Operand.tmp 78], argTypes := #[48, 58] }, type := 56, pos := "exact.go:3543", after := #[{ on := 1, ground := Go.Ground.data }, { on := 3, ground := Go.Ground.data }, { on := 3, ground := Go.Ground.chain }], guard := none }) rfl (fun K hK => ?_) AllReadyH.nil
          go_simp
          go_at_call 36
          refine (unhide HI _ _ _ rt0 rt1).mono ?_
          rintro e X9 ⟨cs, rfl, O, hbw⟩
          obtain ⟨a2K, d2K, a3K, d3K, rfl, -⟩ := open_LogResult O.reads
          have hs0 := bx.lt
          replace bx := bx.keep hbw
          have hz9 := hbw.size
          have rd := O.lies
          clear O
          replace rd := rd.mono (lo' := X4.heap.size + 1) (by omega) (Nat.le_refl _)
          clear hs0
          try go_wp2_with fail
          refine hK.out _ _ (hHeld.trans (hbw.mono hHeld.size)) (fun hHeld => ?_)
          clear hK K hbw hz9
          try simp only [Act.put, List.setIfInBounds_toArray, List.set_cons_zero, List.set_cons_succ]
          clear rt0 rt1
          refine wpAnyH_ready (rs := [6]) (by kernel_rfl) (by simp) ?_
          refine AllReadyH.cons (o := { dst := none, op := Go.Op.store 56 (Go.Operand.tmp 13) (Go.Operand.tmp 79), type := 0, pos := "exact.go:3543", after := #[{ on := 5, ground := Go.Ground.data }, { on := 4, ground := Go.Ground.data }, { on := 4, ground := Go.Ground.chain }, { on := 0, ground := Go.Ground.phase }, { on := 1, ground := Go.Ground.phase }, { on := 2, ground := Go.Ground.phase }, { on := 3, ground := Go.Ground.phase }, { on := 4, ground := Go.Ground.phase }, { on := 5, ground := Go.Ground.phase }], guard := none }) rfl (fun K hK => ?_) AllReadyH.nil
          have z0 : X9.cell? ⟨X4.heap.size, 0, none⟩ = some (.int .i64 0) := bx.at 0 _ rfl
          have f0 := bx.soft 0
          have z1 : X9.cell? ⟨X4.heap.size, 1, none⟩ = some (.int .i64 0) := bx.at 1 _ rfl
          have f1 := bx.soft 1
          have z2 : X9.cell? ⟨X4.heap.size, 2, none⟩ = some (.slice none 0 0) := bx.at 2 _ rfl
          have f2 := bx.soft 2
          have z3 : X9.cell? ⟨X4.heap.size, 3, none⟩ = some (.slice none 0 0) := bx.at 3 _ rfl
          have f3 := bx.soft 3
          have l0 := bx.lt
          have bx9 : Box w18.heap.size #[.int .i64 y.code, .int .i64 y.count, .slice a2K y.log.sure.length d2K, .slice a3K y.log.loose.length d3K] 56 ((((X9.setCell ⟨X4.heap.size, 0, none⟩ (.int .i64 y.code)).setCell ⟨X4.heap.size, 1, none⟩ (.int .i64 y.count)).setCell ⟨X4.heap.size, 2, none⟩ (.slice a2K y.log.sure.length d2K)).setCell ⟨X4.heap.size, 3, none⟩ (.slice a3K y.log.loose.length d3K)) X4.heap.size := ((((bx.set 0 (.int .i64 y.code)).set 1 (.int .i64 y.count)).set 2 (.slice a2K y.log.sure.length d2K)).set 3 (.slice a3K y.log.loose.length d3K))
          have hE9 : Ext (fun c => c = X4.heap.size) X9 ((((X9.setCell ⟨X4.heap.size, 0, none⟩ (.int .i64 y.code)).setCell ⟨X4.heap.size, 1, none⟩ (.int .i64 y.count)).setCell ⟨X4.heap.size, 2, none⟩ (.slice a2K y.log.sure.length d2K)).setCell ⟨X4.heap.size, 3, none⟩ (.slice a3K y.log.loose.length d3K)) := (((((Ext.refl (fun c => c = X4.heap.size) _).setCell ⟨X4.heap.size, 0, none⟩ (.int .i64 y.code) rfl).setCell ⟨X4.heap.size, 1, none⟩ (.int .i64 y.count) rfl).setCell ⟨X4.heap.size, 2, none⟩ (.slice a2K y.log.sure.length d2K) rfl).setCell ⟨X4.heap.size, 3, none⟩ (.slice a3K y.log.loose.length d3K) rfl)
          have rd9 := (rd.ext hE9 (fun c h1 h2 h3 => by omega)).reads
          have hH9 : Below w18.heap.size w18 ((((X9.setCell ⟨X4.heap.size, 0, none⟩ (.int .i64 y.code)).setCell ⟨X4.heap.size, 1, none⟩ (.int .i64 y.count)).setCell ⟨X4.heap.size, 2, none⟩ (.slice a2K y.log.sure.length d2K)).setCell ⟨X4.heap.size, 3, none⟩ (.slice a3K y.log.loose.length d3K)) := ((((hHeld.setCell (by simpa using bx.1) (.int .i64 y.code)).setCell (by simpa using bx.1) (.int .i64 y.count)).setCell (by simpa using bx.1) (.slice a2K y.log.sure.length d2K)).setCell (by simpa using bx.1) (.slice a3K y.log.loose.length d3K))
          clear bx rd hE9
          have bx := bx9
          have rd := rd9
          clear bx9 rd9
          go_simp
          refine hK.out _ _ hH9 (fun hHeld => ?_)
          clear hK K hH9 l0 z0 f0 z1 f1 z2 f2 z3 f3
          try simp only [Act.put, List.setIfInBounds_toArray, List.set_cons_zero, List.set_cons_succ]
          refine wpAnyH_done (by kernel_rfl) ?_ _
          refine NoPanic.normal ?_
          have HH := hide hHeld
          have HBX := hide bx
          have HRD := hide rd
          clear hHeld bx rd
          go_wp2_with fail
          go_meet
          exact ⟨_, _, _, _, _, rfl, (unhide HBX).lt, unhide HBX, unhide HRD, unhide HH⟩
      · have bx : Box w18.heap.size #[.int .i64 0, .int .i64 0, .slice none 0 0, .slice none 0 0] 56 (X3.alloc (.cells #[.int .i64 0, .int .i64 0, .slice none 0 0, .slice none 0 0] 56)) X3.heap.size := newBox hHeld.size
        have nbA : Below X3.heap.size X3 (X3.alloc (.cells #[.int .i64 0, .int .i64 0, .slice none 0 0, .slice none 0 0] 56)) := (Below.refl _ _).alloc (Nat.le_refl _) _
        replace rt0 := rt0.later nbA
        have hNx := hHeld.trans (nbA.mono hHeld.size)
        go_simp
        refine hK.out _ _ hNx (fun hHeld => ?_)
        clear hK K hNx nbA
        try simp only [Act.put, List.setIfInBounds_toArray, List.set_cons_zero, List.set_cons_succ]
        generalize X3.alloc (.cells #[.int .i64 0, .int .i64 0, .slice none 0 0, .slice none 0 0] 56) = X11 at *
        refine wpAnyH_ready (rs := [3]) (by kernel_rfl) (by simp) ?_
        refine AllReadyH.cons (o := { dst := some 78, op := Go.Op.call { callee := Go.Callee.value (Go.Operand.func 35), args := #[Go.Operand.tmp 77], argTypes := #[53] }, type := 58, pos := "exact.go:3543", after := #[{ on := 2, ground := Go.Ground.data }, { on := 1, ground := Go.Ground.chain }], guard := none }) rfl (fun K hK => ?_) AllReadyH.nil
        go_simp
        go_at_call 35
        refine (to_Write _ x1 _ ((unhide HA1).reads.later hHeld) (unhide HN1)).mono ?_
        rintro e X12 ⟨vT1, rfl, OT, hbw⟩
        have rt1 := OT.reads
        obtain ⟨a2T1, d2T1, rfl, -⟩ := open_Write rt1
        replace rt0 := rt0.later hbw
        replace bx := bx.keep hbw
        clear OT
        try go_wp2_with fail
        refine hK.out _ _ (hHeld.trans (hbw.mono hHeld.size)) (fun hHeld => ?_)
        clear hK K hbw
        try simp only [Act.put, List.setIfInBounds_toArray, List.set_cons_zero, List.set_cons_succ]
        refine wpAnyH_ready (rs := [4]) (by kernel_rfl) (by simp) ?_
        refine AllReadyH.cons (o := { dst := some 79, op := Go.Op.call { callee := Go.Callee.value (Go.Operand.func 36), args := #[Go.Operand.tmp 76, Go.Operand.tmp 78], argTypes := #[48, 58] }, type := 56, pos := "exact.go:3543", after := #[{ on := 1, ground := Go.Ground.data }, { on := 3, ground := Go.Ground.data }, { on := 3, ground := Go.Ground.chain }], guard := none }) rfl (fun K hK => ?_) AllReadyH.nil
        go_simp
        go_at_call 36
        refine (unhide HI _ _ _ rt0 rt1).mono ?_
        rintro e X13 ⟨cs, rfl, O, hbw⟩
        obtain ⟨a2K, d2K, a3K, d3K, rfl, -⟩ := open_LogResult O.reads
        have hs0 := bx.lt
        replace bx := bx.keep hbw
        have hz9 := hbw.size
        have rd := O.lies
        clear O
        replace rd := rd.mono (lo' := X3.heap.size + 1) (by omega) (Nat.le_refl _)
        clear hs0
        try go_wp2_with fail
        refine hK.out _ _ (hHeld.trans (hbw.mono hHeld.size)) (fun hHeld => ?_)
        clear hK K hbw hz9
        try simp only [Act.put, List.setIfInBounds_toArray, List.set_cons_zero, List.set_cons_succ]
        clear rt0 rt1
        refine wpAnyH_ready (rs := [6]) (by kernel_rfl) (by simp) ?_
        refine AllReadyH.cons (o := { dst := none, op := Go.Op.store 56 (Go.Operand.tmp 13) (Go.Operand.tmp 79), type := 0, pos := "exact.go:3543", after := #[{ on := 5, ground := Go.Ground.data }, { on := 4, ground := Go.Ground.data }, { on := 4, ground := Go.Ground.chain }, { on := 0, ground := Go.Ground.phase }, { on := 1, ground := Go.Ground.phase }, { on := 2, ground := Go.Ground.phase }, { on := 3, ground := Go.Ground.phase }, { on := 4, ground := Go.Ground.phase }, { on := 5, ground := Go.Ground.phase }], guard := none }) rfl (fun K hK => ?_) AllReadyH.nil
        have z0 : X13.cell? ⟨X3.heap.size, 0, none⟩ = some (.int .i64 0) := bx.at 0 _ rfl
        have f0 := bx.soft 0
        have z1 : X13.cell? ⟨X3.heap.size, 1, none⟩ = some (.int .i64 0) := bx.at 1 _ rfl
        have f1 := bx.soft 1
        have z2 : X13.cell? ⟨X3.heap.size, 2, none⟩ = some (.slice none 0 0) := bx.at 2 _ rfl
        have f2 := bx.soft 2
        have z3 : X13.cell? ⟨X3.heap.size, 3, none⟩ = some (.slice none 0 0) := bx.at 3 _ rfl
        have f3 := bx.soft 3
        have l0 := bx.lt
        have bx9 : Box w18.heap.size #[.int .i64 y.code, .int .i64 y.count, .slice a2K y.log.sure.length d2K, .slice a3K y.log.loose.length d3K] 56 ((((X13.setCell ⟨X3.heap.size, 0, none⟩ (.int .i64 y.code)).setCell ⟨X3.heap.size, 1, none⟩ (.int .i64 y.count)).setCell ⟨X3.heap.size, 2, none⟩ (.slice a2K y.log.sure.length d2K)).setCell ⟨X3.heap.size, 3, none⟩ (.slice a3K y.log.loose.length d3K)) X3.heap.size := ((((bx.set 0 (.int .i64 y.code)).set 1 (.int .i64 y.count)).set 2 (.slice a2K y.log.sure.length d2K)).set 3 (.slice a3K y.log.loose.length d3K))
        have hE9 : Ext (fun c => c = X3.heap.size) X13 ((((X13.setCell ⟨X3.heap.size, 0, none⟩ (.int .i64 y.code)).setCell ⟨X3.heap.size, 1, none⟩ (.int .i64 y.count)).setCell ⟨X3.heap.size, 2, none⟩ (.slice a2K y.log.sure.length d2K)).setCell ⟨X3.heap.size, 3, none⟩ (.slice a3K y.log.loose.length d3K)) := (((((Ext.refl (fun c => c = X3.heap.size) _).setCell ⟨X3.heap.size, 0, none⟩ (.int .i64 y.code) rfl).setCell ⟨X3.heap.size, 1, none⟩ (.int .i64 y.count) rfl).setCell ⟨X3.heap.size, 2, none⟩ (.slice a2K y.log.sure.length d2K) rfl).setCell ⟨X3.heap.size, 3, none⟩ (.slice a3K y.log.loose.length d3K) rfl)
        have rd9 := (rd.ext hE9 (fun c h1 h2 h3 => by omega)).reads
        have hH9 : Below w18.heap.size w18 ((((X13.setCell ⟨X3.heap.size, 0, none⟩ (.int .i64 y.code)).setCell ⟨X3.heap.size, 1, none⟩ (.int .i64 y.count)).setCell ⟨X3.heap.size, 2, none⟩ (.slice a2K y.log.sure.length d2K)).setCell ⟨X3.heap.size, 3, none⟩ (.slice a3K y.log.loose.length d3K)) := ((((hHeld.setCell (by simpa using bx.1) (.int .i64 y.code)).setCell (by simpa using bx.1) (.int .i64 y.count)).setCell (by simpa using bx.1) (.slice a2K y.log.sure.length d2K)).setCell (by simpa using bx.1) (.slice a3K y.log.loose.length d3K))
        clear bx rd hE9
        have bx := bx9
        have rd := rd9
        clear bx9 rd9
        go_simp
        refine hK.out _ _ hH9 (fun hHeld => ?_)
        clear hK K hH9 l0 z0 f0 z1 f1 z2 f2 z3 f3
        try simp only [Act.put, List.setIfInBounds_toArray, List.set_cons_zero, List.set_cons_succ]
        refine wpAnyH_done (by kernel_rfl) ?_ _
        refine NoPanic.normal ?_
        have HH := hide hHeld
        have HBX := hide bx
        have HRD := hide rd
        clear hHeld bx rd
        go_wp2_with fail
        go_meet
        exact ⟨_, _, _, _, _, rfl, (unhide HBX).lt, unhide HBX, unhide HRD, unhide HH⟩
    · have bx : Box w18.heap.size #[.int .i64 0, .int .i64 0, .slice none 0 0, .slice none 0 0] 56 (X0.alloc (.cells #[.int .i64 0, .int .i64 0, .slice none 0 0, .slice none 0 0] 56)) X0.heap.size := newBox hHeld.size
      have nbA : Below X0.heap.size X0 (X0.alloc (.cells #[.int .i64 0, .int .i64 0, .slice none 0 0, .slice none 0 0] 56)) := (Below.refl _ _).alloc (Nat.le_refl _) _
      have hNx := hHeld.trans (nbA.mono hHeld.size)
      go_simp
      refine hK.out _ _ hNx (fun hHeld => ?_)
      clear hK K hNx nbA
      try simp only [Act.put, List.setIfInBounds_toArray, List.set_cons_zero, List.set_cons_succ]
      generalize X0.alloc (.cells #[.int .i64 0, .int .i64 0, .slice none 0 0, .slice none 0 0] 56) = X15 at *
      refine wpAnyH_ready (rs := [1]) (by kernel_rfl) (by simp) ?_
      refine AllReadyH.cons (o := { dst := some 76, op := Go.Op.call { callee := Go.Callee.value (Go.Operand.func 30), args := #[Go.Operand.tmp 75], argTypes := #[45] }, type := 48, pos := "exact.go:3543", after := #[{ on := 0, ground := Go.Ground.data }], guard := none }) rfl (fun K hK => ?_) AllReadyH.nil
      go_simp
      go_at_call 30
      refine (to_Log _ x0 _ ((unhide HA0).reads.later hHeld) (unhide HN0)).mono ?_
      rintro e X16 ⟨vT0, rfl, OT, hbw⟩
      have rt0 := OT.reads
      obtain ⟨a0T0, d0T0, a1T0, d1T0, rfl, -, -⟩ := open_Log rt0
      replace bx := bx.keep hbw
      clear OT
      try go_wp2_with fail
      refine hK.out _ _ (hHeld.trans (hbw.mono hHeld.size)) (fun hHeld => ?_)
      clear hK K hbw
      try simp only [Act.put, List.setIfInBounds_toArray, List.set_cons_zero, List.set_cons_succ]
      refine wpAnyH_ready (rs := [3]) (by kernel_rfl) (by simp) ?_
      refine AllReadyH.cons (o := { dst := some 78, op := Go.Op.call { callee := Go.Callee.value (Go.Operand.func 35), args := #[Go.Operand.tmp 77], argTypes := #[53] }, type := 58, pos := "exact.go:3543", after := #[{ on := 2, ground := Go.Ground.data }, { on := 1, ground := Go.Ground.chain }], guard := none }) rfl (fun K hK => ?_) AllReadyH.nil
      go_simp
      go_at_call 35
      refine (to_Write _ x1 _ ((unhide HA1).reads.later hHeld) (unhide HN1)).mono ?_
      rintro e X17 ⟨vT1, rfl, OT, hbw⟩
      have rt1 := OT.reads
      obtain ⟨a2T1, d2T1, rfl, -⟩ := open_Write rt1
      replace rt0 := rt0.later hbw
      replace bx := bx.keep hbw
      clear OT
      try go_wp2_with fail
      refine hK.out _ _ (hHeld.trans (hbw.mono hHeld.size)) (fun hHeld => ?_)
      clear hK K hbw
      try simp only [Act.put, List.setIfInBounds_toArray, List.set_cons_zero, List.set_cons_succ]
      refine wpAnyH_ready (rs := [4]) (by kernel_rfl) (by simp) ?_
      refine AllReadyH.cons (o := { dst := some 79, op := Go.Op.call { callee := Go.Callee.value (Go.Operand.func 36), args := #[Go.Operand.tmp 76, Go.Operand.tmp 78], argTypes := #[48, 58] }, type := 56, pos := "exact.go:3543", after := #[{ on := 1, ground := Go.Ground.data }, { on := 3, ground := Go.Ground.data }, { on := 3, ground := Go.Ground.chain }], guard := none }) rfl (fun K hK => ?_) AllReadyH.nil
      go_simp
      go_at_call 36
      refine (unhide HI _ _ _ rt0 rt1).mono ?_
      rintro e X18 ⟨cs, rfl, O, hbw⟩
      obtain ⟨a2K, d2K, a3K, d3K, rfl, -⟩ := open_LogResult O.reads
      have hs0 := bx.lt
      replace bx := bx.keep hbw
      have hz9 := hbw.size
      have rd := O.lies
      clear O
      replace rd := rd.mono (lo' := X0.heap.size + 1) (by omega) (Nat.le_refl _)
      clear hs0
      try go_wp2_with fail
      refine hK.out _ _ (hHeld.trans (hbw.mono hHeld.size)) (fun hHeld => ?_)
      clear hK K hbw hz9
      try simp only [Act.put, List.setIfInBounds_toArray, List.set_cons_zero, List.set_cons_succ]
      clear rt0 rt1
      refine wpAnyH_ready (rs := [6]) (by kernel_rfl) (by simp) ?_
      refine AllReadyH.cons (o := { dst := none, op := Go.Op.store 56 (Go.Operand.tmp 13) (Go.Operand.tmp 79), type := 0, pos := "exact.go:3543", after := #[{ on := 5, ground := Go.Ground.data }, { on := 4, ground := Go.Ground.data }, { on := 4, ground := Go.Ground.chain }, { on := 0, ground := Go.Ground.phase }, { on := 1, ground := Go.Ground.phase }, { on := 2, ground := Go.Ground.phase }, { on := 3, ground := Go.Ground.phase }, { on := 4, ground := Go.Ground.phase }, { on := 5, ground := Go.Ground.phase }], guard := none }) rfl (fun K hK => ?_) AllReadyH.nil
      have z0 : X18.cell? ⟨X0.heap.size, 0, none⟩ = some (.int .i64 0) := bx.at 0 _ rfl
      have f0 := bx.soft 0
      have z1 : X18.cell? ⟨X0.heap.size, 1, none⟩ = some (.int .i64 0) := bx.at 1 _ rfl
      have f1 := bx.soft 1
      have z2 : X18.cell? ⟨X0.heap.size, 2, none⟩ = some (.slice none 0 0) := bx.at 2 _ rfl
      have f2 := bx.soft 2
      have z3 : X18.cell? ⟨X0.heap.size, 3, none⟩ = some (.slice none 0 0) := bx.at 3 _ rfl
      have f3 := bx.soft 3
      have l0 := bx.lt
      have bx9 : Box w18.heap.size #[.int .i64 y.code, .int .i64 y.count, .slice a2K y.log.sure.length d2K, .slice a3K y.log.loose.length d3K] 56 ((((X18.setCell ⟨X0.heap.size, 0, none⟩ (.int .i64 y.code)).setCell ⟨X0.heap.size, 1, none⟩ (.int .i64 y.count)).setCell ⟨X0.heap.size, 2, none⟩ (.slice a2K y.log.sure.length d2K)).setCell ⟨X0.heap.size, 3, none⟩ (.slice a3K y.log.loose.length d3K)) X0.heap.size := ((((bx.set 0 (.int .i64 y.code)).set 1 (.int .i64 y.count)).set 2 (.slice a2K y.log.sure.length d2K)).set 3 (.slice a3K y.log.loose.length d3K))
      have hE9 : Ext (fun c => c = X0.heap.size) X18 ((((X18.setCell ⟨X0.heap.size, 0, none⟩ (.int .i64 y.code)).setCell ⟨X0.heap.size, 1, none⟩ (.int .i64 y.count)).setCell ⟨X0.heap.size, 2, none⟩ (.slice a2K y.log.sure.length d2K)).setCell ⟨X0.heap.size, 3, none⟩ (.slice a3K y.log.loose.length d3K)) := (((((Ext.refl (fun c => c = X0.heap.size) _).setCell ⟨X0.heap.size, 0, none⟩ (.int .i64 y.code) rfl).setCell ⟨X0.heap.size, 1, none⟩ (.int .i64 y.count) rfl).setCell ⟨X0.heap.size, 2, none⟩ (.slice a2K y.log.sure.length d2K) rfl).setCell ⟨X0.heap.size, 3, none⟩ (.slice a3K y.log.loose.length d3K) rfl)
      have rd9 := (rd.ext hE9 (fun c h1 h2 h3 => by omega)).reads
      have hH9 : Below w18.heap.size w18 ((((X18.setCell ⟨X0.heap.size, 0, none⟩ (.int .i64 y.code)).setCell ⟨X0.heap.size, 1, none⟩ (.int .i64 y.count)).setCell ⟨X0.heap.size, 2, none⟩ (.slice a2K y.log.sure.length d2K)).setCell ⟨X0.heap.size, 3, none⟩ (.slice a3K y.log.loose.length d3K)) := ((((hHeld.setCell (by simpa using bx.1) (.int .i64 y.code)).setCell (by simpa using bx.1) (.int .i64 y.count)).setCell (by simpa using bx.1) (.slice a2K y.log.sure.length d2K)).setCell (by simpa using bx.1) (.slice a3K y.log.loose.length d3K))
      clear bx rd hE9
      have bx := bx9
      have rd := rd9
      clear bx9 rd9
      go_simp
      refine hK.out _ _ hH9 (fun hHeld => ?_)
      clear hK K hH9 l0 z0 f0 z1 f1 z2 f2 z3 f3
      try simp only [Act.put, List.setIfInBounds_toArray, List.set_cons_zero, List.set_cons_succ]
      refine wpAnyH_done (by kernel_rfl) ?_ _
      refine NoPanic.normal ?_
      have HH := hide hHeld
      have HBX := hide bx
      have HRD := hide rd
      clear hHeld bx rd
      go_wp2_with fail
      go_meet
      exact ⟨_, _, _, _, _, rfl, (unhide HBX).lt, unhide HBX, unhide HRD, unhide HH⟩
  case rest =>
  obtain ⟨sK, a2K, d2K, a3K, d3K, rfl, hsK, YB, O, hb⟩ := hcut
  obtain ⟨w19, hww19⟩ : ∃ q, q = wc := ⟨_, rfl⟩
  subst hww19
  clear l0P0 l1P0 ltP0 l0P1 l1P1 l2P1 l3P1 l4P1 ltP1
  replace HA0 := hide ((unhide HA0).later hb)
  replace HA1 := hide ((unhide HA1).later hb)
  replace P0 := hide ((unhide P0).keep hb)
  replace P1 := hide ((unhide P1).keep hb)
  replace HW := hide ((unhide HW).later hb)
  replace YW := hide ((unhide YW).keep hb)
  replace X0 := hide ((unhide X0).keep hb)
  replace X1 := hide ((unhide X1).keep hb)
  replace YG := hide ((unhide YG).keep hb)
  replace HG := hide ((unhide HG).later hb)
  have Zw19 : w18.heap.size ≤ w19.heap.size := hb.size
  replace HB := hide ((unhide HB).trans (hb.mono (by omega)))
  clear hb
  have YK := hide YB
  have HK := hide O.liesIn
  clear YB O
  have l0P0 := (unhide P0).at 0 _ rfl
  have l1P0 := (unhide P0).at 1 _ rfl
  have ltP0 : w.heap.size < w19.heap.size := by omega
  have l0P1 := (unhide P1).at 0 _ rfl
  have l1P1 := (unhide P1).at 1 _ rfl
  have l2P1 := (unhide P1).at 2 _ rfl
  have l3P1 := (unhide P1).at 3 _ rfl
  have l4P1 := (unhide P1).at 4 _ rfl
  have ltP1 : w.heap.size + 1 < w19.heap.size := by omega
  have l0YW := (unhide YW).at 0 _ rfl
  have l1YW := (unhide YW).at 1 _ rfl
  have l2YW := (unhide YW).at 2 _ rfl
  have l3YW := (unhide YW).at 3 _ rfl
  have ltYW : sW < w19.heap.size := by omega
  have l0X0 := (unhide X0).at 0 _ rfl
  have l1X0 := (unhide X0).at 1 _ rfl
  have ltX0 : w5.heap.size < w19.heap.size := by omega
  have l0X1 := (unhide X1).at 0 _ rfl
  have l1X1 := (unhide X1).at 1 _ rfl
  have l2X1 := (unhide X1).at 2 _ rfl
  have l3X1 := (unhide X1).at 3 _ rfl
  have l4X1 := (unhide X1).at 4 _ rfl
  have ltX1 : w7.heap.size < w19.heap.size := by omega
  have l0YG := (unhide YG).at 0 _ rfl
  have l1YG := (unhide YG).at 1 _ rfl
  have l2YG := (unhide YG).at 2 _ rfl
  have l3YG := (unhide YG).at 3 _ rfl
  have ltYG : w9.heap.size < w19.heap.size := by omega
  have l0YK := (unhide YK).at 0 _ rfl
  have l1YK := (unhide YK).at 1 _ rfl
  have l2YK := (unhide YK).at 2 _ rfl
  have l3YK := (unhide YK).at 3 _ rfl
  have ltYK : sK < w19.heap.size := by omega
  simp only [List.getElem_toArray, List.getElem_cons_zero, List.getElem_cons_succ] at l0P0 l1P0 l0P1 l1P1 l2P1 l3P1 l4P1 l0YW l1YW l2YW l3YW l0X0 l1X0 l0X1 l1X1 l2X1 l3X1 l4X1 l0YG l1YG l2YG l3YG l0YK l1YK l2YK l3YK
  go_wp2_with fail
  clear l0P0 l1P0 ltP0 l0P1 l1P1 l2P1 l3P1 l4P1 ltP1 l0YW l1YW l2YW l3YW ltYW l0X0 l1X0 ltX0 l0X1 l1X1 l2X1 l3X1 l4X1 ltX1 l0YG l1YG l2YG l3YG ltYG l0YK l1YK l2YK l3YK ltYK
  refine (eq_LogResult _ _ y w19 (unhide HK).reads (unhide HW).reads).mono ?_
  rintro e w20 ⟨rfl, hb⟩
  replace HA0 := hide ((unhide HA0).later hb)
  replace HA1 := hide ((unhide HA1).later hb)
  replace P0 := hide ((unhide P0).keep hb)
  replace P1 := hide ((unhide P1).keep hb)
  replace HW := hide ((unhide HW).later hb)
  replace YW := hide ((unhide YW).keep hb)
  replace X0 := hide ((unhide X0).keep hb)
  replace X1 := hide ((unhide X1).keep hb)
  replace YG := hide ((unhide YG).keep hb)
  replace HG := hide ((unhide HG).later hb)
  replace HK := hide ((unhide HK).later hb)
  replace YK := hide ((unhide YK).keep hb)
  have Zw20 : w19.heap.size ≤ w20.heap.size := hb.size
  replace HB := hide ((unhide HB).trans (hb.mono (by omega)))
  clear hb
  clear HK
  clear YK
  have l0P0 := (unhide P0).at 0 _ rfl
  have l1P0 := (unhide P0).at 1 _ rfl
  have ltP0 : w.heap.size < w20.heap.size := by omega
  have l0P1 := (unhide P1).at 0 _ rfl
  have l1P1 := (unhide P1).at 1 _ rfl
  have l2P1 := (unhide P1).at 2 _ rfl
  have l3P1 := (unhide P1).at 3 _ rfl
  have l4P1 := (unhide P1).at 4 _ rfl
  have ltP1 : w.heap.size + 1 < w20.heap.size := by omega
  have l0YW := (unhide YW).at 0 _ rfl
  have l1YW := (unhide YW).at 1 _ rfl
  have l2YW := (unhide YW).at 2 _ rfl
  have l3YW := (unhide YW).at 3 _ rfl
  have ltYW : sW < w20.heap.size := by omega
  have l0X0 := (unhide X0).at 0 _ rfl
  have l1X0 := (unhide X0).at 1 _ rfl
  have ltX0 : w5.heap.size < w20.heap.size := by omega
  have l0X1 := (unhide X1).at 0 _ rfl
  have l1X1 := (unhide X1).at 1 _ rfl
  have l2X1 := (unhide X1).at 2 _ rfl
  have l3X1 := (unhide X1).at 3 _ rfl
  have l4X1 := (unhide X1).at 4 _ rfl
  have ltX1 : w7.heap.size < w20.heap.size := by omega
  have l0YG := (unhide YG).at 0 _ rfl
  have l1YG := (unhide YG).at 1 _ rfl
  have l2YG := (unhide YG).at 2 _ rfl
  have l3YG := (unhide YG).at 3 _ rfl
  have ltYG : w9.heap.size < w20.heap.size := by omega
  simp only [List.getElem_toArray, List.getElem_cons_zero, List.getElem_cons_succ] at l0P0 l1P0 l0P1 l1P1 l2P1 l3P1 l4P1 l0YW l1YW l2YW l3YW l0X0 l1X0 l0X1 l1X1 l2X1 l3X1 l4X1 l0YG l1YG l2YG l3YG
  go_wp2_with fail
  clear l0P0 l1P0 ltP0 l0P1 l1P1 l2P1 l3P1 l4P1 ltP1 l0YW l1YW l2YW l3YW ltYW l0X0 l1X0 ltX0 l0X1 l1X1 l2X1 l3X1 l4X1 ltX1 l0YG l1YG l2YG l3YG ltYG
  refine (held_LogResult _ y 1 w20 (unhide HG).reads (by omega) (by have := unhide HC; omega)).mono ?_
  rintro e w21 ⟨rfl, hb⟩
  replace HA0 := hide ((unhide HA0).later hb)
  replace HA1 := hide ((unhide HA1).later hb)
  replace P0 := hide ((unhide P0).keep hb)
  replace P1 := hide ((unhide P1).keep hb)
  replace HW := hide ((unhide HW).later hb)
  replace YW := hide ((unhide YW).keep hb)
  replace X0 := hide ((unhide X0).keep hb)
  replace X1 := hide ((unhide X1).keep hb)
  replace YG := hide ((unhide YG).keep hb)
  replace HG := hide ((unhide HG).later hb)
  have Zw21 : w20.heap.size ≤ w21.heap.size := hb.size
  replace HB := hide ((unhide HB).trans (hb.mono (by omega)))
  clear hb
  have l0P0 := (unhide P0).at 0 _ rfl
  have l1P0 := (unhide P0).at 1 _ rfl
  have ltP0 : w.heap.size < w21.heap.size := by omega
  have l0P1 := (unhide P1).at 0 _ rfl
  have l1P1 := (unhide P1).at 1 _ rfl
  have l2P1 := (unhide P1).at 2 _ rfl
  have l3P1 := (unhide P1).at 3 _ rfl
  have l4P1 := (unhide P1).at 4 _ rfl
  have ltP1 : w.heap.size + 1 < w21.heap.size := by omega
  have l0YW := (unhide YW).at 0 _ rfl
  have l1YW := (unhide YW).at 1 _ rfl
  have l2YW := (unhide YW).at 2 _ rfl
  have l3YW := (unhide YW).at 3 _ rfl
  have ltYW : sW < w21.heap.size := by omega
  have l0X0 := (unhide X0).at 0 _ rfl
  have l1X0 := (unhide X0).at 1 _ rfl
  have ltX0 : w5.heap.size < w21.heap.size := by omega
  have l0X1 := (unhide X1).at 0 _ rfl
  have l1X1 := (unhide X1).at 1 _ rfl
  have l2X1 := (unhide X1).at 2 _ rfl
  have l3X1 := (unhide X1).at 3 _ rfl
  have l4X1 := (unhide X1).at 4 _ rfl
  have ltX1 : w7.heap.size < w21.heap.size := by omega
  have l0YG := (unhide YG).at 0 _ rfl
  have l1YG := (unhide YG).at 1 _ rfl
  have l2YG := (unhide YG).at 2 _ rfl
  have l3YG := (unhide YG).at 3 _ rfl
  have ltYG : w9.heap.size < w21.heap.size := by omega
  simp only [List.getElem_toArray, List.getElem_cons_zero, List.getElem_cons_succ] at l0P0 l1P0 l0P1 l1P1 l2P1 l3P1 l4P1 l0YW l1YW l2YW l3YW l0X0 l1X0 l0X1 l1X1 l2X1 l3X1 l4X1 l0YG l1YG l2YG l3YG
  go_wp2_with fail
  clear l0P0 l1P0 ltP0 l0P1 l1P1 l2P1 l3P1 l4P1 ltP1 l0YW l1YW l2YW l3YW ltYW l0X0 l1X0 ltX0 l0X1 l1X1 l2X1 l3X1 l4X1 ltX1 l0YG l1YG l2YG l3YG ltYG
  go_ret
  exact ⟨rfl, unhide HB⟩


set_option maxRecDepth 10000 in
set_option maxHeartbeats 1000000 in
theorem lawover_AppendLog (u0 : List Value) (x0 : DLog) (u1 : List Value) (x1 : DWrite) (w : World) (A0 : Lay.tLog.Reads w u0 x0) (A1 : Lay.tWrite.Reads w u1 x1) (NS : 1048576 < Lay.tLog.sz x0 + Lay.tWrite.sz x1) :
    Calls Try.prog 6 #[.agg u0.toArray, .agg u1.toArray] w fun e w' => e = .returned (.bool true) ∧ Below w.heap.size w w' := by
  obtain ⟨a0p0, d0p0, a1p0, d1p0, rfl, -, -⟩ := open_Log A0
  obtain ⟨a2p1, d2p1, rfl, -⟩ := open_Write A1
  have HA0 := hide A0.liesIn
  clear A0
  have HA1 := hide A1.liesIn
  clear A1
  have HB := hide (Below.refl w.heap.size w)
  go_enter Try.func6, Try.ntmps6
  go_wp2_with fail
  have nb : Below w.heap.size w ((w.alloc (.cells #[.slice a0p0 x0.sure.length d0p0, .slice a1p0 x0.loose.length d1p0] 45)).alloc (.cells #[.int .i64 x1.kind, .int .i64 x1.id, .slice a2p1 x1.vec.length d2p1, .int .i64 x1.session, .int .i64 x1.seq] 53)) := ((Below.refl w.heap.size w).alloc (Nat.le_refl _) _).alloc (by simp) _
  have P0 : Hid (Box w.heap.size #[.slice a0p0 x0.sure.length d0p0, .slice a1p0 x0.loose.length d1p0] 45 ((w.alloc (.cells #[.slice a0p0 x0.sure.length d0p0, .slice a1p0 x0.loose.length d1p0] 45)).alloc (.cells #[.int .i64 x1.kind, .int .i64 x1.id, .slice a2p1 x1.vec.length d2p1, .int .i64 x1.session, .int .i64 x1.seq] 53)) (w.heap.size)) := (newBoxAt (by omega) (by simp)).grow _
  have P1 : Hid (Box w.heap.size #[.int .i64 x1.kind, .int .i64 x1.id, .slice a2p1 x1.vec.length d2p1, .int .i64 x1.session, .int .i64 x1.seq] 53 ((w.alloc (.cells #[.slice a0p0 x0.sure.length d0p0, .slice a1p0 x0.loose.length d1p0] 45)).alloc (.cells #[.int .i64 x1.kind, .int .i64 x1.id, .slice a2p1 x1.vec.length d2p1, .int .i64 x1.session, .int .i64 x1.seq] 53)) (w.heap.size + 1)) := newBoxAt (by omega) (by simp)
  generalize haw1 : ((w.alloc (.cells #[.slice a0p0 x0.sure.length d0p0, .slice a1p0 x0.loose.length d1p0] 45)).alloc (.cells #[.int .i64 x1.kind, .int .i64 x1.id, .slice a2p1 x1.vec.length d2p1, .int .i64 x1.session, .int .i64 x1.seq] 53)) = w1 at *
  have Gw1 : w.heap.size + 2 ≤ w1.heap.size := by rw [← haw1]; simp
  clear haw1
  replace HA0 := hide ((unhide HA0).later nb)
  replace HA1 := hide ((unhide HA1).later nb)
  have Zw1 : w.heap.size ≤ w1.heap.size := nb.size
  replace HB := hide ((unhide HB).trans (nb.mono (by omega)))
  clear nb
  refine (sz_Log _ x0 (1048576) w1 (unhide HA0).reads (by omega)).mono ?_
  rintro e w2 ⟨rfl, hb⟩
  replace HA0 := hide ((unhide HA0).later hb)
  replace HA1 := hide ((unhide HA1).later hb)
  replace P0 := hide ((unhide P0).keep hb)
  replace P1 := hide ((unhide P1).keep hb)
  have Zw2 : w1.heap.size ≤ w2.heap.size := hb.size
  replace HB := hide ((unhide HB).trans (hb.mono (by omega)))
  clear hb
  by_cases hs0 : Lay.tLog.sz x0 ≤ 1048576
  · rw [szR_ok hs0]
    have hq0 : decide (((1048576 - Lay.tLog.sz x0 : Nat) : Int) < 0) = false := by simp
    have l0P0 := (unhide P0).at 0 _ rfl
    have l1P0 := (unhide P0).at 1 _ rfl
    have ltP0 : w.heap.size < w2.heap.size := by omega
    have l0P1 := (unhide P1).at 0 _ rfl
    have l1P1 := (unhide P1).at 1 _ rfl
    have l2P1 := (unhide P1).at 2 _ rfl
    have l3P1 := (unhide P1).at 3 _ rfl
    have l4P1 := (unhide P1).at 4 _ rfl
    have ltP1 : w.heap.size + 1 < w2.heap.size := by omega
    simp only [List.getElem_toArray, List.getElem_cons_zero, List.getElem_cons_succ] at l0P0 l1P0 l0P1 l1P1 l2P1 l3P1 l4P1
    go_wp2_with fail
    clear l0P0 l1P0 ltP0 l0P1 l1P1 l2P1 l3P1 l4P1 ltP1
    clear hq0
    refine (sz_Write _ x1 (1048576 - Lay.tLog.sz x0) w2 (unhide HA1).reads (by omega)).mono ?_
    rintro e w3 ⟨rfl, hb⟩
    replace HA0 := hide ((unhide HA0).later hb)
    replace HA1 := hide ((unhide HA1).later hb)
    replace P0 := hide ((unhide P0).keep hb)
    replace P1 := hide ((unhide P1).keep hb)
    have Zw3 : w2.heap.size ≤ w3.heap.size := hb.size
    replace HB := hide ((unhide HB).trans (hb.mono (by omega)))
    clear hb
    rw [szR_many (by omega)]
    go_wp2_with fail
    go_ret
    exact ⟨rfl, unhide HB⟩
  · rw [szR_many (by omega)]
    go_wp2_with fail
    go_ret
    exact ⟨rfl, unhide HB⟩

end Go.Proofs.Ytipomhpimmnchaa
