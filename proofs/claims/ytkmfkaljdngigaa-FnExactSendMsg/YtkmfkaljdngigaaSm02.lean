/-
  Texts of this proof in one: LawXSendMsg, LayIntResult, WrBox, InB, InC, Fault, WrFault, WrZero, ApplyPlain, SessPlain, SamePlain, NetPlain, SpecNode9, LayOpen, OpenWrite, OpenMsg.
  Their conditions stand in their theorems.
-/
import Derived.Test.YtkmfkaljdngigaaChecked
import Derived.Test.YtkmfkaljdngigaaSm01
import Derived.Deep.RegionHeld3
import Derived.Deep.CutRange
import Derived.BigQuiet
import Derived.Deep.QuietTactic
import Derived.WalkSmall
import Derived.ProofKit
import Derived.OpenShut
import Derived.Deep.Slices

namespace Go.Proofs.Ytkmfkaljdngigaa
open Go.RowKit

set_option maxRecDepth 100000 in
set_option maxHeartbeats 4000000 in
theorem lawx_SendMsg (v0 : Value) (x0 : List DMsg) (u1 : List Value) (x1 : DMsg) (y : DNetResult) (w : World) (A0 : (Lay.sl Lay.tMsg).Reads w [v0] x0) (A1 : Lay.tMsg.Reads w u1 x1) (NS : (Lay.sl Lay.tMsg).sz x0 + Lay.tMsg.sz x1 ≤ 1048576)
    (hS : ∀ (W : World) (v0 : Value) (u1 : List Value), (Lay.sl Lay.tMsg).Reads W [v0] x0 → Lay.tMsg.Reads W u1 x1 → Calls Try.prog 18 #[v0, .agg u1.toArray] W fun e w' => ∃ cs, e = .returned (.agg cs.toArray) ∧ Lay.tNetResult.LiesIn w' cs y W.heap.size w'.heap.size ∧ Below W.heap.size W w')
    (hI : ∀ (W : World) (v0 : Value) (u1 : List Value), (Lay.sl Lay.tMsg).Reads W [v0] x0 → Lay.tMsg.Reads W u1 x1 → Calls Try.prog 19 #[v0, .agg u1.toArray] W fun e w' => ∃ cs, e = .returned (.agg cs.toArray) ∧ Lay.tNetResult.OwnIn w' cs y W.heap.size w'.heap.size ∧ Below W.heap.size W w') (hc : Lay.tNetResult.vcnt y ≤ 100000000) :
    Calls Try.prog 5 #[v0, .agg u1.toArray] w fun e w' => e = .returned (.bool true) ∧ Below w.heap.size w w' := by
  obtain ⟨ao0, cp0, rfl⟩ := open_sl A0
  obtain ⟨a7p1, d7p1, rfl, -⟩ := open_Msg A1
  have HS := hide hS
  have HI := hide hI
  clear hS hI
  have HA0 := hide A0.liesIn
  clear A0
  have HA1 := hide A1.liesIn
  clear A1
  have N0 : (Lay.sl Lay.tMsg).sz x0 ≤ 1048576 := by omega
  have N1 : Lay.tMsg.sz x1 ≤ 1048576 := by omega
  have HN0 := hide N0
  have HN1 := hide N1
  clear N0 N1
  have HC := hide hc
  clear hc
  have HNS := hide NS
  clear NS
  have HB := hide (Below.refl w.heap.size w)
  go_enter Try.func5, Try.ntmps5
  go_wp2_with fail
  have nb : Below w.heap.size w (w.alloc (.cells #[.int .i64 x1.kind, .int .i64 x1.epoch, .int .i64 x1.src, .int .i64 x1.dst, .int .i64 x1.index, .int .i64 x1.write.kind, .int .i64 x1.write.id, .slice a7p1 x1.write.vec.length d7p1, .int .i64 x1.write.session, .int .i64 x1.write.seq] 26)) := (Below.refl w.heap.size w).alloc (Nat.le_refl _) _
  have P1 : Hid (Box w.heap.size #[.int .i64 x1.kind, .int .i64 x1.epoch, .int .i64 x1.src, .int .i64 x1.dst, .int .i64 x1.index, .int .i64 x1.write.kind, .int .i64 x1.write.id, .slice a7p1 x1.write.vec.length d7p1, .int .i64 x1.write.session, .int .i64 x1.write.seq] 26 (w.alloc (.cells #[.int .i64 x1.kind, .int .i64 x1.epoch, .int .i64 x1.src, .int .i64 x1.dst, .int .i64 x1.index, .int .i64 x1.write.kind, .int .i64 x1.write.id, .slice a7p1 x1.write.vec.length d7p1, .int .i64 x1.write.session, .int .i64 x1.write.seq] 26)) (w.heap.size)) := newBoxAt (by omega) (by simp)
  generalize haw1 : (w.alloc (.cells #[.int .i64 x1.kind, .int .i64 x1.epoch, .int .i64 x1.src, .int .i64 x1.dst, .int .i64 x1.index, .int .i64 x1.write.kind, .int .i64 x1.write.id, .slice a7p1 x1.write.vec.length d7p1, .int .i64 x1.write.session, .int .i64 x1.write.seq] 26)) = w1 at *
  have Gw1 : w.heap.size + 1 ≤ w1.heap.size := by rw [← haw1]; simp
  clear haw1
  replace HA0 := hide ((unhide HA0).later nb)
  replace HA1 := hide ((unhide HA1).later nb)
  have Zw1 : w.heap.size ≤ w1.heap.size := nb.size
  replace HB := hide ((unhide HB).trans (nb.mono (by omega)))
  clear nb
  have hns := unhide HNS
  refine (sz_MsgS _ x0 (1048576) w1 (unhide HA0).reads (by omega)).mono ?_
  rintro e w2 ⟨rfl, hb⟩
  replace HA0 := hide ((unhide HA0).later hb)
  replace HA1 := hide ((unhide HA1).later hb)
  replace P1 := hide ((unhide P1).keep hb)
  have Zw2 : w1.heap.size ≤ w2.heap.size := hb.size
  replace HB := hide ((unhide HB).trans (hb.mono (by omega)))
  clear hb
  rw [szR_ok (by omega)]
  have hq0 : decide (((1048576 - (Lay.sl Lay.tMsg).sz x0 : Nat) : Int) < 0) = false := by simp
  clear hns
  have l0P1 := (unhide P1).at 0 _ rfl
  have l1P1 := (unhide P1).at 1 _ rfl
  have l2P1 := (unhide P1).at 2 _ rfl
  have l3P1 := (unhide P1).at 3 _ rfl
  have l4P1 := (unhide P1).at 4 _ rfl
  have l5P1 := (unhide P1).at 5 _ rfl
  have l6P1 := (unhide P1).at 6 _ rfl
  have l7P1 := (unhide P1).at 7 _ rfl
  have l8P1 := (unhide P1).at 8 _ rfl
  have l9P1 := (unhide P1).at 9 _ rfl
  have ltP1 : w.heap.size < w2.heap.size := by omega
  simp only [List.getElem_toArray, List.getElem_cons_zero, List.getElem_cons_succ] at l0P1 l1P1 l2P1 l3P1 l4P1 l5P1 l6P1 l7P1 l8P1 l9P1
  go_wp2_with fail
  clear l0P1 l1P1 l2P1 l3P1 l4P1 l5P1 l6P1 l7P1 l8P1 l9P1 ltP1
  clear hq0
  have hns := unhide HNS
  refine (sz_Msg _ x1 (1048576 - (Lay.sl Lay.tMsg).sz x0) w2 (unhide HA1).reads (by omega)).mono ?_
  rintro e w3 ⟨rfl, hb⟩
  replace HA0 := hide ((unhide HA0).later hb)
  replace HA1 := hide ((unhide HA1).later hb)
  replace P1 := hide ((unhide P1).keep hb)
  have Zw3 : w2.heap.size ≤ w3.heap.size := hb.size
  replace HB := hide ((unhide HB).trans (hb.mono (by omega)))
  clear hb
  rw [szR_ok (by omega)]
  have hq1 : decide (((1048576 - (Lay.sl Lay.tMsg).sz x0 - Lay.tMsg.sz x1 : Nat) : Int) < 0) = false := by simp
  clear hns
  have l0P1 := (unhide P1).at 0 _ rfl
  have l1P1 := (unhide P1).at 1 _ rfl
  have l2P1 := (unhide P1).at 2 _ rfl
  have l3P1 := (unhide P1).at 3 _ rfl
  have l4P1 := (unhide P1).at 4 _ rfl
  have l5P1 := (unhide P1).at 5 _ rfl
  have l6P1 := (unhide P1).at 6 _ rfl
  have l7P1 := (unhide P1).at 7 _ rfl
  have l8P1 := (unhide P1).at 8 _ rfl
  have l9P1 := (unhide P1).at 9 _ rfl
  have ltP1 : w.heap.size < w3.heap.size := by omega
  simp only [List.getElem_toArray, List.getElem_cons_zero, List.getElem_cons_succ] at l0P1 l1P1 l2P1 l3P1 l4P1 l5P1 l6P1 l7P1 l8P1 l9P1
  go_upto_region 8 with fail
  clear l0P1 l1P1 l2P1 l3P1 l4P1 l5P1 l6P1 l7P1 l8P1 l9P1 ltP1
  clear hq1
  have l0P1 := (unhide P1).at 0 _ rfl
  have l1P1 := (unhide P1).at 1 _ rfl
  have l2P1 := (unhide P1).at 2 _ rfl
  have l3P1 := (unhide P1).at 3 _ rfl
  have l4P1 := (unhide P1).at 4 _ rfl
  have l5P1 := (unhide P1).at 5 _ rfl
  have l6P1 := (unhide P1).at 6 _ rfl
  have l7P1 := (unhide P1).at 7 _ rfl
  have l8P1 := (unhide P1).at 8 _ rfl
  have l9P1 := (unhide P1).at 9 _ rfl
  have ltP1 : w.heap.size < w3.heap.size := by omega
  simp only [List.getElem_toArray, List.getElem_cons_zero, List.getElem_cons_succ] at l0P1 l1P1 l2P1 l3P1 l4P1 l5P1 l6P1 l7P1 l8P1 l9P1
  go_cut [6] from 24 to 28 (fun sL wx => ∃ (s0 : Nat) (a1W : Option Addr) (d1W : Nat), sL = .pointer (some ⟨s0, 0, none⟩) ∧ s0 < wx.heap.size ∧ Box w3.heap.size #[.int .i64 y.code, .slice a1W y.msgs.length d1W] 43 wx s0 ∧ Lay.tNetResult.Reads wx [.int .i64 y.code, .slice a1W y.msgs.length d1W] y ∧ Below w3.heap.size w3 wx)
  case first =>
    refine wp_region_noPanic ?_
    refine wp_region_held_drew (S := fun w' => Below w3.heap.size w3 w') (by kernel_rfl) (Below.refl _ _).drew (fun hHeld => ?_)
    generalize w3.drew = X0 at hHeld ⊢
    refine wpAnyH_take (i := 0) (oi := { dst := some 24, op := Go.Op.move (Go.Operand.tmp 0), type := 35, pos := "exact.go:4298", after := #[], guard := none }) (v := ?v0_1) rfl (by kernel_rfl) (by kernel_rfl) (by kernel_rfl) (fun _ _ _ h => h) (Or.inl ⟨by rfl, ?h0_1⟩) hHeld ?r0_1
    case h0_1 =>
      intro wS hSw
      (try dsimp only at hSw)
      go_simp
      try with_reducible rfl
    case r0_1 =>
    simp only [Act.put, List.setIfInBounds_toArray, List.set_cons_zero, List.set_cons_succ]
    refine wpAnyH_take (i := 2) (oi := { dst := some 26, op := Go.Op.load 26 (Go.Operand.tmp 3), type := 26, pos := "exact.go:4298", after := #[], guard := none }) (v := ?v2_2) rfl (by kernel_rfl) (by kernel_rfl) (by kernel_rfl) (fun _ _ _ h => h) (Or.inl ⟨by rfl, ?h2_2⟩) hHeld ?r2_2
    case h2_2 =>
      intro wS hSw
      have y0P1 := (hSw.cell (p := ⟨w.heap.size, 0, none⟩) ltP1).trans l0P1
      have y1P1 := (hSw.cell (p := ⟨w.heap.size, 1, none⟩) ltP1).trans l1P1
      have y2P1 := (hSw.cell (p := ⟨w.heap.size, 2, none⟩) ltP1).trans l2P1
      have y3P1 := (hSw.cell (p := ⟨w.heap.size, 3, none⟩) ltP1).trans l3P1
      have y4P1 := (hSw.cell (p := ⟨w.heap.size, 4, none⟩) ltP1).trans l4P1
      have y5P1 := (hSw.cell (p := ⟨w.heap.size, 5, none⟩) ltP1).trans l5P1
      have y6P1 := (hSw.cell (p := ⟨w.heap.size, 6, none⟩) ltP1).trans l6P1
      have y7P1 := (hSw.cell (p := ⟨w.heap.size, 7, none⟩) ltP1).trans l7P1
      have y8P1 := (hSw.cell (p := ⟨w.heap.size, 8, none⟩) ltP1).trans l8P1
      have y9P1 := (hSw.cell (p := ⟨w.heap.size, 9, none⟩) ltP1).trans l9P1
      clear hSw
      (try dsimp only at hSw)
      go_simp
      try with_reducible rfl
    case r2_2 =>
    simp only [Act.put, List.setIfInBounds_toArray, List.set_cons_zero, List.set_cons_succ]
    refine wpAnyH_ready (rs := [1, 5]) (by kernel_rfl) (by simp) ?_
    refine AllReadyH.cons (o := { dst := some 25, op := Go.Op.call { callee := Go.Callee.value (Go.Operand.func 15), args := #[Go.Operand.tmp 24], argTypes := #[35] }, type := 38, pos := "exact.go:4298", after := #[{ on := 0, ground := Go.Ground.data }], guard := none }) rfl (fun K hK => ?_) (AllReadyH.cons (o := { dst := some 6, op := Go.Op.alloc 43, type := 0, pos := "exact.go:4298", after := #[], guard := none }) rfl (fun K hK => ?_) AllReadyH.nil)
    · go_simp
      go_at_call 15
      refine (to_MsgS _ x0 _ ((unhide HA0).reads.later hHeld) (unhide HN0)).mono ?_
      rintro e X3 ⟨vT0, rfl, OT, hbw⟩
      have rt0 := OT.reads
      obtain ⟨aoT0, cpT0, rfl⟩ := open_sl rt0
      clear OT
      try go_wp2_with fail
      refine hK.out _ _ (hHeld.trans (hbw.mono hHeld.size)) (fun hHeld => ?_)
      clear hK K hbw
      try simp only [Act.put, List.setIfInBounds_toArray, List.set_cons_zero, List.set_cons_succ]
      refine wpAnyH_ready (rs := [3, 5]) (by kernel_rfl) (by simp) ?_
      refine AllReadyH.cons (o := { dst := some 27, op := Go.Op.call { callee := Go.Callee.value (Go.Operand.func 10), args := #[Go.Operand.tmp 26], argTypes := #[26] }, type := 31, pos := "exact.go:4298", after := #[{ on := 2, ground := Go.Ground.data }, { on := 1, ground := Go.Ground.chain }], guard := none }) rfl (fun K hK => ?_) (AllReadyH.cons (o := { dst := some 6, op := Go.Op.alloc 43, type := 0, pos := "exact.go:4298", after := #[], guard := none }) rfl (fun K hK => ?_) AllReadyH.nil)
      · go_simp
        go_at_call 10
        refine (to_Msg _ x1 _ ((unhide HA1).reads.later hHeld) (unhide HN1)).mono ?_
        rintro e X4 ⟨vT1, rfl, OT, hbw⟩
        have rt1 := OT.reads
        obtain ⟨a7T1, d7T1, rfl, -⟩ := open_Msg rt1
        replace rt0 := rt0.later hbw
        clear OT
        try go_wp2_with fail
        refine hK.out _ _ (hHeld.trans (hbw.mono hHeld.size)) (fun hHeld => ?_)
        clear hK K hbw
        try simp only [Act.put, List.setIfInBounds_toArray, List.set_cons_zero, List.set_cons_succ]
        refine wpAnyH_ready (rs := [4, 5]) (by kernel_rfl) (by simp) ?_
        refine AllReadyH.cons (o := { dst := some 28, op := Go.Op.call { callee := Go.Callee.value (Go.Operand.func 18), args := #[Go.Operand.tmp 25, Go.Operand.tmp 27], argTypes := #[38, 31] }, type := 43, pos := "exact.go:4298", after := #[{ on := 1, ground := Go.Ground.data }, { on := 3, ground := Go.Ground.data }, { on := 3, ground := Go.Ground.chain }], guard := none }) rfl (fun K hK => ?_) (AllReadyH.cons (o := { dst := some 6, op := Go.Op.alloc 43, type := 0, pos := "exact.go:4298", after := #[], guard := none }) rfl (fun K hK => ?_) AllReadyH.nil)
        · go_simp
          go_at_call 18
          refine (unhide HS _ _ _ rt0 rt1).mono ?_
          rintro e X5 ⟨cs, rfl, O, hbw⟩
          obtain ⟨a1W, d1W, rfl, -⟩ := open_NetResult O.reads
          have hz9 := hbw.size
          have rd := O
          clear O
          try go_wp2_with fail
          refine hK.out _ _ (hHeld.trans (hbw.mono hHeld.size)) (fun hHeld => ?_)
          clear hK K hbw hz9
          try simp only [Act.put, List.setIfInBounds_toArray, List.set_cons_zero, List.set_cons_succ]
          clear rt0 rt1
          refine wpAnyH_ready (rs := [5]) (by kernel_rfl) (by simp) ?_
          refine AllReadyH.cons (o := { dst := some 6, op := Go.Op.alloc 43, type := 0, pos := "exact.go:4298", after := #[], guard := none }) rfl (fun K hK => ?_) AllReadyH.nil
          have bx : Box w3.heap.size #[.int .i64 0, .slice none 0 0] 43 (X5.alloc (.cells #[.int .i64 0, .slice none 0 0] 43)) X5.heap.size := newBox hHeld.size
          have nbA : Below X5.heap.size X5 (X5.alloc (.cells #[.int .i64 0, .slice none 0 0] 43)) := (Below.refl _ _).alloc (Nat.le_refl _) _
          replace rd := rd.later nbA
          have hNx := hHeld.trans (nbA.mono hHeld.size)
          go_simp
          refine hK.out _ _ hNx (fun hHeld => ?_)
          clear hK K hNx nbA
          try simp only [Act.put, List.setIfInBounds_toArray, List.set_cons_zero, List.set_cons_succ]
          generalize X5.alloc (.cells #[.int .i64 0, .slice none 0 0] 43) = X6 at *
          refine wpAnyH_ready (rs := [6]) (by kernel_rfl) (by simp) ?_
          refine AllReadyH.cons (o := { dst := none, op := Go.Op.store 43 (Go.Operand.tmp 6) (Go.Operand.tmp 28), type := 0, pos := "exact.go:4298", after := #[{ on := 5, ground := Go.Ground.data }, { on := 4, ground := Go.Ground.data }, { on := 4, ground := Go.Ground.chain }, { on := 0, ground := Go.Ground.phase }, { on := 1, ground := Go.Ground.phase }, { on := 2, ground := Go.Ground.phase }, { on := 3, ground := Go.Ground.phase }, { on := 4, ground := Go.Ground.phase }, { on := 5, ground := Go.Ground.phase }], guard := none }) rfl (fun K hK => ?_) AllReadyH.nil
          have z0 : X6.cell? ⟨X5.heap.size, 0, none⟩ = some (.int .i64 0) := bx.at 0 _ rfl
          have f0 := bx.soft 0
          have z1 : X6.cell? ⟨X5.heap.size, 1, none⟩ = some (.slice none 0 0) := bx.at 1 _ rfl
          have f1 := bx.soft 1
          have l0 := bx.lt
          have bx9 : Box w3.heap.size #[.int .i64 y.code, .slice a1W y.msgs.length d1W] 43 ((X6.setCell ⟨X5.heap.size, 0, none⟩ (.int .i64 y.code)).setCell ⟨X5.heap.size, 1, none⟩ (.slice a1W y.msgs.length d1W)) X5.heap.size := by have q := ((bx.set 0 (.int .i64 y.code)).set 1 (.slice a1W y.msgs.length d1W)); simp only [List.setIfInBounds_toArray, List.set_cons_zero, List.set_cons_succ] at q; exact q
          have hE9 : Ext (fun c => c = X5.heap.size) X6 ((X6.setCell ⟨X5.heap.size, 0, none⟩ (.int .i64 y.code)).setCell ⟨X5.heap.size, 1, none⟩ (.slice a1W y.msgs.length d1W)) := (((Ext.refl (fun c => c = X5.heap.size) _).setCell ⟨X5.heap.size, 0, none⟩ (.int .i64 y.code) rfl).setCell ⟨X5.heap.size, 1, none⟩ (.slice a1W y.msgs.length d1W) rfl)
          have rd9 := (rd.ext hE9 (fun c h1 h2 h3 => by omega)).reads
          have hH9 : Below w3.heap.size w3 ((X6.setCell ⟨X5.heap.size, 0, none⟩ (.int .i64 y.code)).setCell ⟨X5.heap.size, 1, none⟩ (.slice a1W y.msgs.length d1W)) := ((hHeld.setCell (by simpa using bx.1) (.int .i64 y.code)).setCell (by simpa using bx.1) (.slice a1W y.msgs.length d1W))
          clear bx rd hE9
          have bx := bx9
          have rd := rd9
          clear bx9 rd9
          go_simp
          refine hK.out _ _ hH9 (fun hHeld => ?_)
          clear hK K hH9 l0 z0 f0 z1 f1
          try simp only [Act.put, List.setIfInBounds_toArray, List.set_cons_zero, List.set_cons_succ]
          refine wpAnyH_done (by kernel_rfl) ?_ _
          refine NoPanic.normal ?_
          have HH := hide hHeld
          have HBX := hide bx
          have HRD := hide rd
          clear hHeld bx rd
          go_wp2_with fail
          go_meet
          exact ⟨_, _, _, rfl, (unhide HBX).lt, unhide HBX, unhide HRD, unhide HH⟩
        · have bx : Box w3.heap.size #[.int .i64 0, .slice none 0 0] 43 (X4.alloc (.cells #[.int .i64 0, .slice none 0 0] 43)) X4.heap.size := newBox hHeld.size
          have nbA : Below X4.heap.size X4 (X4.alloc (.cells #[.int .i64 0, .slice none 0 0] 43)) := (Below.refl _ _).alloc (Nat.le_refl _) _
          replace rt0 := rt0.later nbA
          replace rt1 := rt1.later nbA
          have hNx := hHeld.trans (nbA.mono hHeld.size)
          go_simp
          refine hK.out _ _ hNx (fun hHeld => ?_)
          clear hK K hNx nbA
          try simp only [Act.put, List.setIfInBounds_toArray, List.set_cons_zero, List.set_cons_succ]
          generalize X4.alloc (.cells #[.int .i64 0, .slice none 0 0] 43) = X8 at *
          refine wpAnyH_ready (rs := [4]) (by kernel_rfl) (by simp) ?_
          refine AllReadyH.cons (o := { dst := some 28, op := Go.Op.call { callee := Go.Callee.value (Go.Operand.func 18), args := #[Go.Operand.tmp 25, Go.Operand.tmp 27], argTypes := #[38, 31] }, type := 43, pos := "exact.go:4298", after := #[{ on := 1, ground := Go.Ground.data }, { on := 3, ground := Go.Ground.data }, { on := 3, ground := Go.Ground.chain }], guard := none }) rfl (fun K hK => ?_) AllReadyH.nil
          go_simp
          go_at_call 18
          refine (unhide HS _ _ _ rt0 rt1).mono ?_
          rintro e X9 ⟨cs, rfl, O, hbw⟩
          obtain ⟨a1W, d1W, rfl, -⟩ := open_NetResult O.reads
          have hs0 := bx.lt
          replace bx := bx.keep hbw
          have hz9 := hbw.size
          have rd := O
          clear O
          replace rd := rd.mono (lo' := X4.heap.size + 1) (by omega) (Nat.le_refl _)
          clear hs0
          try go_wp2_with fail
          refine hK.out _ _ (hHeld.trans (hbw.mono hHeld.size)) (fun hHeld => ?_)
          clear hK K hbw hz9
          try simp only [Act.put, List.setIfInBounds_toArray, List.set_cons_zero, List.set_cons_succ]
          clear rt0 rt1
          refine wpAnyH_ready (rs := [6]) (by kernel_rfl) (by simp) ?_
          refine AllReadyH.cons (o := { dst := none, op := Go.Op.store 43 (Go.Operand.tmp 6) (Go.Operand.tmp 28), type := 0, pos := "exact.go:4298", after := #[{ on := 5, ground := Go.Ground.data }, { on := 4, ground := Go.Ground.data }, { on := 4, ground := Go.Ground.chain }, { on := 0, ground := Go.Ground.phase }, { on := 1, ground := Go.Ground.phase }, { on := 2, ground := Go.Ground.phase }, { on := 3, ground := Go.Ground.phase }, { on := 4, ground := Go.Ground.phase }, { on := 5, ground := Go.Ground.phase }], guard := none }) rfl (fun K hK => ?_) AllReadyH.nil
          have z0 : X9.cell? ⟨X4.heap.size, 0, none⟩ = some (.int .i64 0) := bx.at 0 _ rfl
          have f0 := bx.soft 0
          have z1 : X9.cell? ⟨X4.heap.size, 1, none⟩ = some (.slice none 0 0) := bx.at 1 _ rfl
          have f1 := bx.soft 1
          have l0 := bx.lt
          have bx9 : Box w3.heap.size #[.int .i64 y.code, .slice a1W y.msgs.length d1W] 43 ((X9.setCell ⟨X4.heap.size, 0, none⟩ (.int .i64 y.code)).setCell ⟨X4.heap.size, 1, none⟩ (.slice a1W y.msgs.length d1W)) X4.heap.size := by have q := ((bx.set 0 (.int .i64 y.code)).set 1 (.slice a1W y.msgs.length d1W)); simp only [List.setIfInBounds_toArray, List.set_cons_zero, List.set_cons_succ] at q; exact q
          have hE9 : Ext (fun c => c = X4.heap.size) X9 ((X9.setCell ⟨X4.heap.size, 0, none⟩ (.int .i64 y.code)).setCell ⟨X4.heap.size, 1, none⟩ (.slice a1W y.msgs.length d1W)) := (((Ext.refl (fun c => c = X4.heap.size) _).setCell ⟨X4.heap.size, 0, none⟩ (.int .i64 y.code) rfl).setCell ⟨X4.heap.size, 1, none⟩ (.slice a1W y.msgs.length d1W) rfl)
          have rd9 := (rd.ext hE9 (fun c h1 h2 h3 => by omega)).reads
          have hH9 : Below w3.heap.size w3 ((X9.setCell ⟨X4.heap.size, 0, none⟩ (.int .i64 y.code)).setCell ⟨X4.heap.size, 1, none⟩ (.slice a1W y.msgs.length d1W)) := ((hHeld.setCell (by simpa using bx.1) (.int .i64 y.code)).setCell (by simpa using bx.1) (.slice a1W y.msgs.length d1W))
          clear bx rd hE9
          have bx := bx9
          have rd := rd9
          clear bx9 rd9
          go_simp
          refine hK.out _ _ hH9 (fun hHeld => ?_)
          clear hK K hH9 l0 z0 f0 z1 f1
          try simp only [Act.put, List.setIfInBounds_toArray, List.set_cons_zero, List.set_cons_succ]
          refine wpAnyH_done (by kernel_rfl) ?_ _
          refine NoPanic.normal ?_
          have HH := hide hHeld
          have HBX := hide bx
          have HRD := hide rd
          clear hHeld bx rd
          go_wp2_with fail
          go_meet
          exact ⟨_, _, _, rfl, (unhide HBX).lt, unhide HBX, unhide HRD, unhide HH⟩
      · have bx : Box w3.heap.size #[.int .i64 0, .slice none 0 0] 43 (X3.alloc (.cells #[.int .i64 0, .slice none 0 0] 43)) X3.heap.size := newBox hHeld.size
        have nbA : Below X3.heap.size X3 (X3.alloc (.cells #[.int .i64 0, .slice none 0 0] 43)) := (Below.refl _ _).alloc (Nat.le_refl _) _
        replace rt0 := rt0.later nbA
        have hNx := hHeld.trans (nbA.mono hHeld.size)
        go_simp
        refine hK.out _ _ hNx (fun hHeld => ?_)
        clear hK K hNx nbA
        try simp only [Act.put, List.setIfInBounds_toArray, List.set_cons_zero, List.set_cons_succ]
        generalize X3.alloc (.cells #[.int .i64 0, .slice none 0 0] 43) = X11 at *
        refine wpAnyH_ready (rs := [3]) (by kernel_rfl) (by simp) ?_
        refine AllReadyH.cons (o := { dst := some 27, op := Go.Op.call { callee := Go.Callee.value (Go.Operand.func 10), args := #[Go.Operand.tmp 26], argTypes := #[26] }, type := 31, pos := "exact.go:4298", after := #[{ on := 2, ground := Go.Ground.data }, { on := 1, ground := Go.Ground.chain }], guard := none }) rfl (fun K hK => ?_) AllReadyH.nil
        go_simp
        go_at_call 10
        refine (to_Msg _ x1 _ ((unhide HA1).reads.later hHeld) (unhide HN1)).mono ?_
        rintro e X12 ⟨vT1, rfl, OT, hbw⟩
        have rt1 := OT.reads
        obtain ⟨a7T1, d7T1, rfl, -⟩ := open_Msg rt1
        replace rt0 := rt0.later hbw
        replace bx := bx.keep hbw
        clear OT
        try go_wp2_with fail
        refine hK.out _ _ (hHeld.trans (hbw.mono hHeld.size)) (fun hHeld => ?_)
        clear hK K hbw
        try simp only [Act.put, List.setIfInBounds_toArray, List.set_cons_zero, List.set_cons_succ]
        refine wpAnyH_ready (rs := [4]) (by kernel_rfl) (by simp) ?_
        refine AllReadyH.cons (o := { dst := some 28, op := Go.Op.call { callee := Go.Callee.value (Go.Operand.func 18), args := #[Go.Operand.tmp 25, Go.Operand.tmp 27], argTypes := #[38, 31] }, type := 43, pos := "exact.go:4298", after := #[{ on := 1, ground := Go.Ground.data }, { on := 3, ground := Go.Ground.data }, { on := 3, ground := Go.Ground.chain }], guard := none }) rfl (fun K hK => ?_) AllReadyH.nil
        go_simp
        go_at_call 18
        refine (unhide HS _ _ _ rt0 rt1).mono ?_
        rintro e X13 ⟨cs, rfl, O, hbw⟩
        obtain ⟨a1W, d1W, rfl, -⟩ := open_NetResult O.reads
        have hs0 := bx.lt
        replace bx := bx.keep hbw
        have hz9 := hbw.size
        have rd := O
        clear O
        replace rd := rd.mono (lo' := X3.heap.size + 1) (by omega) (Nat.le_refl _)
        clear hs0
        try go_wp2_with fail
        refine hK.out _ _ (hHeld.trans (hbw.mono hHeld.size)) (fun hHeld => ?_)
        clear hK K hbw hz9
        try simp only [Act.put, List.setIfInBounds_toArray, List.set_cons_zero, List.set_cons_succ]
        clear rt0 rt1
        refine wpAnyH_ready (rs := [6]) (by kernel_rfl) (by simp) ?_
        refine AllReadyH.cons (o := { dst := none, op := Go.Op.store 43 (Go.Operand.tmp 6) (Go.Operand.tmp 28), type := 0, pos := "exact.go:4298", after := #[{ on := 5, ground := Go.Ground.data }, { on := 4, ground := Go.Ground.data }, { on := 4, ground := Go.Ground.chain }, { on := 0, ground := Go.Ground.phase }, { on := 1, ground := Go.Ground.phase }, { on := 2, ground := Go.Ground.phase }, { on := 3, ground := Go.Ground.phase }, { on := 4, ground := Go.Ground.phase }, { on := 5, ground := Go.Ground.phase }], guard := none }) rfl (fun K hK => ?_) AllReadyH.nil
        have z0 : X13.cell? ⟨X3.heap.size, 0, none⟩ = some (.int .i64 0) := bx.at 0 _ rfl
        have f0 := bx.soft 0
        have z1 : X13.cell? ⟨X3.heap.size, 1, none⟩ = some (.slice none 0 0) := bx.at 1 _ rfl
        have f1 := bx.soft 1
        have l0 := bx.lt
        have bx9 : Box w3.heap.size #[.int .i64 y.code, .slice a1W y.msgs.length d1W] 43 ((X13.setCell ⟨X3.heap.size, 0, none⟩ (.int .i64 y.code)).setCell ⟨X3.heap.size, 1, none⟩ (.slice a1W y.msgs.length d1W)) X3.heap.size := by have q := ((bx.set 0 (.int .i64 y.code)).set 1 (.slice a1W y.msgs.length d1W)); simp only [List.setIfInBounds_toArray, List.set_cons_zero, List.set_cons_succ] at q; exact q
        have hE9 : Ext (fun c => c = X3.heap.size) X13 ((X13.setCell ⟨X3.heap.size, 0, none⟩ (.int .i64 y.code)).setCell ⟨X3.heap.size, 1, none⟩ (.slice a1W y.msgs.length d1W)) := (((Ext.refl (fun c => c = X3.heap.size) _).setCell ⟨X3.heap.size, 0, none⟩ (.int .i64 y.code) rfl).setCell ⟨X3.heap.size, 1, none⟩ (.slice a1W y.msgs.length d1W) rfl)
        have rd9 := (rd.ext hE9 (fun c h1 h2 h3 => by omega)).reads
        have hH9 : Below w3.heap.size w3 ((X13.setCell ⟨X3.heap.size, 0, none⟩ (.int .i64 y.code)).setCell ⟨X3.heap.size, 1, none⟩ (.slice a1W y.msgs.length d1W)) := ((hHeld.setCell (by simpa using bx.1) (.int .i64 y.code)).setCell (by simpa using bx.1) (.slice a1W y.msgs.length d1W))
        clear bx rd hE9
        have bx := bx9
        have rd := rd9
        clear bx9 rd9
        go_simp
        refine hK.out _ _ hH9 (fun hHeld => ?_)
        clear hK K hH9 l0 z0 f0 z1 f1
        try simp only [Act.put, List.setIfInBounds_toArray, List.set_cons_zero, List.set_cons_succ]
        refine wpAnyH_done (by kernel_rfl) ?_ _
        refine NoPanic.normal ?_
        have HH := hide hHeld
        have HBX := hide bx
        have HRD := hide rd
        clear hHeld bx rd
        go_wp2_with fail
        go_meet
        exact ⟨_, _, _, rfl, (unhide HBX).lt, unhide HBX, unhide HRD, unhide HH⟩
    · have bx : Box w3.heap.size #[.int .i64 0, .slice none 0 0] 43 (X0.alloc (.cells #[.int .i64 0, .slice none 0 0] 43)) X0.heap.size := newBox hHeld.size
      have nbA : Below X0.heap.size X0 (X0.alloc (.cells #[.int .i64 0, .slice none 0 0] 43)) := (Below.refl _ _).alloc (Nat.le_refl _) _
      have hNx := hHeld.trans (nbA.mono hHeld.size)
      go_simp
      refine hK.out _ _ hNx (fun hHeld => ?_)
      clear hK K hNx nbA
      try simp only [Act.put, List.setIfInBounds_toArray, List.set_cons_zero, List.set_cons_succ]
      generalize X0.alloc (.cells #[.int .i64 0, .slice none 0 0] 43) = X15 at *
      refine wpAnyH_ready (rs := [1]) (by kernel_rfl) (by simp) ?_
      refine AllReadyH.cons (o := { dst := some 25, op := Go.Op.call { callee := Go.Callee.value (Go.Operand.func 15), args := #[Go.Operand.tmp 24], argTypes := #[35] }, type := 38, pos := "exact.go:4298", after := #[{ on := 0, ground := Go.Ground.data }], guard := none }) rfl (fun K hK => ?_) AllReadyH.nil
      go_simp
      go_at_call 15
      refine (to_MsgS _ x0 _ ((unhide HA0).reads.later hHeld) (unhide HN0)).mono ?_
      rintro e X16 ⟨vT0, rfl, OT, hbw⟩
      have rt0 := OT.reads
      obtain ⟨aoT0, cpT0, rfl⟩ := open_sl rt0
      replace bx := bx.keep hbw
      clear OT
      try go_wp2_with fail
      refine hK.out _ _ (hHeld.trans (hbw.mono hHeld.size)) (fun hHeld => ?_)
      clear hK K hbw
      try simp only [Act.put, List.setIfInBounds_toArray, List.set_cons_zero, List.set_cons_succ]
      refine wpAnyH_ready (rs := [3]) (by kernel_rfl) (by simp) ?_
      refine AllReadyH.cons (o := { dst := some 27, op := Go.Op.call { callee := Go.Callee.value (Go.Operand.func 10), args := #[Go.Operand.tmp 26], argTypes := #[26] }, type := 31, pos := "exact.go:4298", after := #[{ on := 2, ground := Go.Ground.data }, { on := 1, ground := Go.Ground.chain }], guard := none }) rfl (fun K hK => ?_) AllReadyH.nil
      go_simp
      go_at_call 10
      refine (to_Msg _ x1 _ ((unhide HA1).reads.later hHeld) (unhide HN1)).mono ?_
      rintro e X17 ⟨vT1, rfl, OT, hbw⟩
      have rt1 := OT.reads
      obtain ⟨a7T1, d7T1, rfl, -⟩ := open_Msg rt1
      replace rt0 := rt0.later hbw
      replace bx := bx.keep hbw
      clear OT
      try go_wp2_with fail
      refine hK.out _ _ (hHeld.trans (hbw.mono hHeld.size)) (fun hHeld => ?_)
      clear hK K hbw
      try simp only [Act.put, List.setIfInBounds_toArray, List.set_cons_zero, List.set_cons_succ]
      refine wpAnyH_ready (rs := [4]) (by kernel_rfl) (by simp) ?_
      refine AllReadyH.cons (o := { dst := some 28, op := Go.Op.call { callee := Go.Callee.value (Go.Operand.func 18), args := #[Go.Operand.tmp 25, Go.Operand.tmp 27], argTypes := #[38, 31] }, type := 43, pos := "exact.go:4298", after := #[{ on := 1, ground := Go.Ground.data }, { on := 3, ground := Go.Ground.data }, { on := 3, ground := Go.Ground.chain }], guard := none }) rfl (fun K hK => ?_) AllReadyH.nil
      go_simp
      go_at_call 18
      refine (unhide HS _ _ _ rt0 rt1).mono ?_
      rintro e X18 ⟨cs, rfl, O, hbw⟩
      obtain ⟨a1W, d1W, rfl, -⟩ := open_NetResult O.reads
      have hs0 := bx.lt
      replace bx := bx.keep hbw
      have hz9 := hbw.size
      have rd := O
      clear O
      replace rd := rd.mono (lo' := X0.heap.size + 1) (by omega) (Nat.le_refl _)
      clear hs0
      try go_wp2_with fail
      refine hK.out _ _ (hHeld.trans (hbw.mono hHeld.size)) (fun hHeld => ?_)
      clear hK K hbw hz9
      try simp only [Act.put, List.setIfInBounds_toArray, List.set_cons_zero, List.set_cons_succ]
      clear rt0 rt1
      refine wpAnyH_ready (rs := [6]) (by kernel_rfl) (by simp) ?_
      refine AllReadyH.cons (o := { dst := none, op := Go.Op.store 43 (Go.Operand.tmp 6) (Go.Operand.tmp 28), type := 0, pos := "exact.go:4298", after := #[{ on := 5, ground := Go.Ground.data }, { on := 4, ground := Go.Ground.data }, { on := 4, ground := Go.Ground.chain }, { on := 0, ground := Go.Ground.phase }, { on := 1, ground := Go.Ground.phase }, { on := 2, ground := Go.Ground.phase }, { on := 3, ground := Go.Ground.phase }, { on := 4, ground := Go.Ground.phase }, { on := 5, ground := Go.Ground.phase }], guard := none }) rfl (fun K hK => ?_) AllReadyH.nil
      have z0 : X18.cell? ⟨X0.heap.size, 0, none⟩ = some (.int .i64 0) := bx.at 0 _ rfl
      have f0 := bx.soft 0
      have z1 : X18.cell? ⟨X0.heap.size, 1, none⟩ = some (.slice none 0 0) := bx.at 1 _ rfl
      have f1 := bx.soft 1
      have l0 := bx.lt
      have bx9 : Box w3.heap.size #[.int .i64 y.code, .slice a1W y.msgs.length d1W] 43 ((X18.setCell ⟨X0.heap.size, 0, none⟩ (.int .i64 y.code)).setCell ⟨X0.heap.size, 1, none⟩ (.slice a1W y.msgs.length d1W)) X0.heap.size := by have q := ((bx.set 0 (.int .i64 y.code)).set 1 (.slice a1W y.msgs.length d1W)); simp only [List.setIfInBounds_toArray, List.set_cons_zero, List.set_cons_succ] at q; exact q
      have hE9 : Ext (fun c => c = X0.heap.size) X18 ((X18.setCell ⟨X0.heap.size, 0, none⟩ (.int .i64 y.code)).setCell ⟨X0.heap.size, 1, none⟩ (.slice a1W y.msgs.length d1W)) := (((Ext.refl (fun c => c = X0.heap.size) _).setCell ⟨X0.heap.size, 0, none⟩ (.int .i64 y.code) rfl).setCell ⟨X0.heap.size, 1, none⟩ (.slice a1W y.msgs.length d1W) rfl)
      have rd9 := (rd.ext hE9 (fun c h1 h2 h3 => by omega)).reads
      have hH9 : Below w3.heap.size w3 ((X18.setCell ⟨X0.heap.size, 0, none⟩ (.int .i64 y.code)).setCell ⟨X0.heap.size, 1, none⟩ (.slice a1W y.msgs.length d1W)) := ((hHeld.setCell (by simpa using bx.1) (.int .i64 y.code)).setCell (by simpa using bx.1) (.slice a1W y.msgs.length d1W))
      clear bx rd hE9
      have bx := bx9
      have rd := rd9
      clear bx9 rd9
      go_simp
      refine hK.out _ _ hH9 (fun hHeld => ?_)
      clear hK K hH9 l0 z0 f0 z1 f1
      try simp only [Act.put, List.setIfInBounds_toArray, List.set_cons_zero, List.set_cons_succ]
      refine wpAnyH_done (by kernel_rfl) ?_ _
      refine NoPanic.normal ?_
      have HH := hide hHeld
      have HBX := hide bx
      have HRD := hide rd
      clear hHeld bx rd
      go_wp2_with fail
      go_meet
      exact ⟨_, _, _, rfl, (unhide HBX).lt, unhide HBX, unhide HRD, unhide HH⟩
  case rest =>
  obtain ⟨sW, a1W, d1W, rfl, hsW, YB, O, hb⟩ := hcut
  obtain ⟨w4, hww4⟩ : ∃ q, q = wc := ⟨_, rfl⟩
  subst hww4
  clear l0P1 l1P1 l2P1 l3P1 l4P1 l5P1 l6P1 l7P1 l8P1 l9P1 ltP1
  replace HA0 := hide ((unhide HA0).later hb)
  replace HA1 := hide ((unhide HA1).later hb)
  replace P1 := hide ((unhide P1).keep hb)
  have Zw4 : w3.heap.size ≤ w4.heap.size := hb.size
  replace HB := hide ((unhide HB).trans (hb.mono (by omega)))
  clear hb
  have YW := hide YB
  have HW := hide O.liesIn
  clear YB O
  have l0P1 := (unhide P1).at 0 _ rfl
  have l1P1 := (unhide P1).at 1 _ rfl
  have l2P1 := (unhide P1).at 2 _ rfl
  have l3P1 := (unhide P1).at 3 _ rfl
  have l4P1 := (unhide P1).at 4 _ rfl
  have l5P1 := (unhide P1).at 5 _ rfl
  have l6P1 := (unhide P1).at 6 _ rfl
  have l7P1 := (unhide P1).at 7 _ rfl
  have l8P1 := (unhide P1).at 8 _ rfl
  have l9P1 := (unhide P1).at 9 _ rfl
  have ltP1 : w.heap.size < w4.heap.size := by omega
  have l0YW := (unhide YW).at 0 _ rfl
  have l1YW := (unhide YW).at 1 _ rfl
  have ltYW : sW < w4.heap.size := by omega
  simp only [List.getElem_toArray, List.getElem_cons_zero, List.getElem_cons_succ] at l0P1 l1P1 l2P1 l3P1 l4P1 l5P1 l6P1 l7P1 l8P1 l9P1 l0YW l1YW
  go_wp2_with fail
  clear l0P1 l1P1 l2P1 l3P1 l4P1 l5P1 l6P1 l7P1 l8P1 l9P1 ltP1 l0YW l1YW ltYW
  refine (to_MsgS _ x0 w4 (unhide HA0).reads (unhide HN0)).mono ?_
  rintro e w5 ⟨vx0, rfl, O, hb⟩
  replace HA0 := hide ((unhide HA0).later hb)
  replace HA1 := hide ((unhide HA1).later hb)
  replace P1 := hide ((unhide P1).keep hb)
  replace HW := hide ((unhide HW).later hb)
  replace YW := hide ((unhide YW).keep hb)
  have Zw5 : w4.heap.size ≤ w5.heap.size := hb.size
  replace HB := hide ((unhide HB).trans (hb.mono (by omega)))
  clear hb
  obtain ⟨aox0, cpx0, rfl⟩ := open_sl O.reads
  have Hx0 := hide O
  clear O
  have l0P1 := (unhide P1).at 0 _ rfl
  have l1P1 := (unhide P1).at 1 _ rfl
  have l2P1 := (unhide P1).at 2 _ rfl
  have l3P1 := (unhide P1).at 3 _ rfl
  have l4P1 := (unhide P1).at 4 _ rfl
  have l5P1 := (unhide P1).at 5 _ rfl
  have l6P1 := (unhide P1).at 6 _ rfl
  have l7P1 := (unhide P1).at 7 _ rfl
  have l8P1 := (unhide P1).at 8 _ rfl
  have l9P1 := (unhide P1).at 9 _ rfl
  have ltP1 : w.heap.size < w5.heap.size := by omega
  have l0YW := (unhide YW).at 0 _ rfl
  have l1YW := (unhide YW).at 1 _ rfl
  have ltYW : sW < w5.heap.size := by omega
  simp only [List.getElem_toArray, List.getElem_cons_zero, List.getElem_cons_succ] at l0P1 l1P1 l2P1 l3P1 l4P1 l5P1 l6P1 l7P1 l8P1 l9P1 l0YW l1YW
  go_wp2_with fail
  clear l0P1 l1P1 l2P1 l3P1 l4P1 l5P1 l6P1 l7P1 l8P1 l9P1 ltP1 l0YW l1YW ltYW
  refine (to_Msg _ x1 w5 (unhide HA1).reads (unhide HN1)).mono ?_
  rintro e w6 ⟨vx1, rfl, O, hb⟩
  replace HA0 := hide ((unhide HA0).later hb)
  replace HA1 := hide ((unhide HA1).later hb)
  replace P1 := hide ((unhide P1).keep hb)
  replace HW := hide ((unhide HW).later hb)
  replace YW := hide ((unhide YW).keep hb)
  replace Hx0 := hide ((unhide Hx0).later hb)
  have Zw6 : w5.heap.size ≤ w6.heap.size := hb.size
  replace HB := hide ((unhide HB).trans (hb.mono (by omega)))
  clear hb
  obtain ⟨a7x1, d7x1, rfl, -⟩ := open_Msg O.reads
  have Hx1 := hide O
  clear O
  have nb : Below w6.heap.size w6 (w6.alloc (.cells #[.int .i64 x1.kind, .int .i64 x1.epoch, .int .i64 x1.src, .int .i64 x1.dst, .int .i64 x1.index, .int .i64 x1.write.kind, .int .i64 x1.write.id, .slice a7x1 x1.write.vec.length d7x1, .int .i64 x1.write.session, .int .i64 x1.write.seq] 31)) := (Below.refl _ _).alloc (Nat.le_refl _) _
  have X1 : Hid (Box w6.heap.size #[.int .i64 x1.kind, .int .i64 x1.epoch, .int .i64 x1.src, .int .i64 x1.dst, .int .i64 x1.index, .int .i64 x1.write.kind, .int .i64 x1.write.id, .slice a7x1 x1.write.vec.length d7x1, .int .i64 x1.write.session, .int .i64 x1.write.seq] 31 (w6.alloc (.cells #[.int .i64 x1.kind, .int .i64 x1.epoch, .int .i64 x1.src, .int .i64 x1.dst, .int .i64 x1.index, .int .i64 x1.write.kind, .int .i64 x1.write.id, .slice a7x1 x1.write.vec.length d7x1, .int .i64 x1.write.session, .int .i64 x1.write.seq] 31)) w6.heap.size) := newBox (Nat.le_refl _)
  have l0P1 := (unhide P1).at 0 _ rfl
  have l1P1 := (unhide P1).at 1 _ rfl
  have l2P1 := (unhide P1).at 2 _ rfl
  have l3P1 := (unhide P1).at 3 _ rfl
  have l4P1 := (unhide P1).at 4 _ rfl
  have l5P1 := (unhide P1).at 5 _ rfl
  have l6P1 := (unhide P1).at 6 _ rfl
  have l7P1 := (unhide P1).at 7 _ rfl
  have l8P1 := (unhide P1).at 8 _ rfl
  have l9P1 := (unhide P1).at 9 _ rfl
  have ltP1 : w.heap.size < w6.heap.size := by omega
  have l0YW := (unhide YW).at 0 _ rfl
  have l1YW := (unhide YW).at 1 _ rfl
  have ltYW : sW < w6.heap.size := by omega
  simp only [List.getElem_toArray, List.getElem_cons_zero, List.getElem_cons_succ] at l0P1 l1P1 l2P1 l3P1 l4P1 l5P1 l6P1 l7P1 l8P1 l9P1 l0YW l1YW
  go_wp2_with fail
  clear l0P1 l1P1 l2P1 l3P1 l4P1 l5P1 l6P1 l7P1 l8P1 l9P1 ltP1 l0YW l1YW ltYW
  generalize haw7 : w6.alloc (.cells #[.int .i64 x1.kind, .int .i64 x1.epoch, .int .i64 x1.src, .int .i64 x1.dst, .int .i64 x1.index, .int .i64 x1.write.kind, .int .i64 x1.write.id, .slice a7x1 x1.write.vec.length d7x1, .int .i64 x1.write.session, .int .i64 x1.write.seq] 31) = w7 at *
  have Gw7 : w6.heap.size < w7.heap.size := by rw [← haw7]; simp
  clear haw7
  replace HA0 := hide ((unhide HA0).later nb)
  replace HA1 := hide ((unhide HA1).later nb)
  replace P1 := hide ((unhide P1).keep nb)
  replace HW := hide ((unhide HW).later nb)
  replace YW := hide ((unhide YW).keep nb)
  replace Hx0 := hide ((unhide Hx0).later nb)
  replace Hx1 := hide ((unhide Hx1).later nb)
  have Zw7 : w6.heap.size ≤ w7.heap.size := nb.size
  replace HB := hide ((unhide HB).trans (nb.mono (by omega)))
  clear nb
  refine (unhide HI w7 _ _ (unhide Hx0).reads (unhide Hx1).reads).mono ?_
  rintro e w8 ⟨cs, rfl, O, hb⟩
  replace HA0 := hide ((unhide HA0).later hb)
  replace HA1 := hide ((unhide HA1).later hb)
  replace P1 := hide ((unhide P1).keep hb)
  replace HW := hide ((unhide HW).later hb)
  replace YW := hide ((unhide YW).keep hb)
  replace Hx0 := hide ((unhide Hx0).later hb)
  replace Hx1 := hide ((unhide Hx1).later hb)
  replace X1 := hide ((unhide X1).keep hb)
  have Zw8 : w7.heap.size ≤ w8.heap.size := hb.size
  replace HB := hide ((unhide HB).trans (hb.mono (by omega)))
  clear hb
  obtain ⟨a1G, d1G, rfl, -⟩ := open_NetResult O.reads
  have HG := hide O
  clear O
  have nb : Below w8.heap.size w8 (w8.alloc (.cells #[.int .i64 y.code, .slice a1G y.msgs.length d1G] 43)) := (Below.refl _ _).alloc (Nat.le_refl _) _
  have YG : Hid (Box w8.heap.size #[.int .i64 y.code, .slice a1G y.msgs.length d1G] 43 (w8.alloc (.cells #[.int .i64 y.code, .slice a1G y.msgs.length d1G] 43)) w8.heap.size) := newBox (Nat.le_refl _)
  have l0P1 := (unhide P1).at 0 _ rfl
  have l1P1 := (unhide P1).at 1 _ rfl
  have l2P1 := (unhide P1).at 2 _ rfl
  have l3P1 := (unhide P1).at 3 _ rfl
  have l4P1 := (unhide P1).at 4 _ rfl
  have l5P1 := (unhide P1).at 5 _ rfl
  have l6P1 := (unhide P1).at 6 _ rfl
  have l7P1 := (unhide P1).at 7 _ rfl
  have l8P1 := (unhide P1).at 8 _ rfl
  have l9P1 := (unhide P1).at 9 _ rfl
  have ltP1 : w.heap.size < w8.heap.size := by omega
  have l0YW := (unhide YW).at 0 _ rfl
  have l1YW := (unhide YW).at 1 _ rfl
  have ltYW : sW < w8.heap.size := by omega
  have l0X1 := (unhide X1).at 0 _ rfl
  have l1X1 := (unhide X1).at 1 _ rfl
  have l2X1 := (unhide X1).at 2 _ rfl
  have l3X1 := (unhide X1).at 3 _ rfl
  have l4X1 := (unhide X1).at 4 _ rfl
  have l5X1 := (unhide X1).at 5 _ rfl
  have l6X1 := (unhide X1).at 6 _ rfl
  have l7X1 := (unhide X1).at 7 _ rfl
  have l8X1 := (unhide X1).at 8 _ rfl
  have l9X1 := (unhide X1).at 9 _ rfl
  have ltX1 : w6.heap.size < w8.heap.size := by omega
  simp only [List.getElem_toArray, List.getElem_cons_zero, List.getElem_cons_succ] at l0P1 l1P1 l2P1 l3P1 l4P1 l5P1 l6P1 l7P1 l8P1 l9P1 l0YW l1YW l0X1 l1X1 l2X1 l3X1 l4X1 l5X1 l6X1 l7X1 l8X1 l9X1
  go_wp2_with fail
  clear l0P1 l1P1 l2P1 l3P1 l4P1 l5P1 l6P1 l7P1 l8P1 l9P1 ltP1 l0YW l1YW ltYW l0X1 l1X1 l2X1 l3X1 l4X1 l5X1 l6X1 l7X1 l8X1 l9X1 ltX1
  generalize haw9 : w8.alloc (.cells #[.int .i64 y.code, .slice a1G y.msgs.length d1G] 43) = w9 at *
  have Gw9 : w8.heap.size < w9.heap.size := by rw [← haw9]; simp
  clear haw9
  replace HA0 := hide ((unhide HA0).later nb)
  replace HA1 := hide ((unhide HA1).later nb)
  replace P1 := hide ((unhide P1).keep nb)
  replace HW := hide ((unhide HW).later nb)
  replace YW := hide ((unhide YW).keep nb)
  replace Hx0 := hide ((unhide Hx0).later nb)
  replace Hx1 := hide ((unhide Hx1).later nb)
  replace X1 := hide ((unhide X1).keep nb)
  replace HG := hide ((unhide HG).later nb)
  have Zw9 : w8.heap.size ≤ w9.heap.size := nb.size
  replace HB := hide ((unhide HB).trans (nb.mono (by omega)))
  clear nb
  refine (eq_NetResult _ _ y w9 (unhide HG).reads (unhide HW).reads).mono ?_
  rintro e w10 ⟨rfl, hb⟩
  replace HA0 := hide ((unhide HA0).later hb)
  replace HA1 := hide ((unhide HA1).later hb)
  replace P1 := hide ((unhide P1).keep hb)
  replace HW := hide ((unhide HW).later hb)
  replace YW := hide ((unhide YW).keep hb)
  replace Hx0 := hide ((unhide Hx0).later hb)
  replace Hx1 := hide ((unhide Hx1).later hb)
  replace X1 := hide ((unhide X1).keep hb)
  replace HG := hide ((unhide HG).later hb)
  replace YG := hide ((unhide YG).keep hb)
  have Zw10 : w9.heap.size ≤ w10.heap.size := hb.size
  replace HB := hide ((unhide HB).trans (hb.mono (by omega)))
  clear hb
  have l0P1 := (unhide P1).at 0 _ rfl
  have l1P1 := (unhide P1).at 1 _ rfl
  have l2P1 := (unhide P1).at 2 _ rfl
  have l3P1 := (unhide P1).at 3 _ rfl
  have l4P1 := (unhide P1).at 4 _ rfl
  have l5P1 := (unhide P1).at 5 _ rfl
  have l6P1 := (unhide P1).at 6 _ rfl
  have l7P1 := (unhide P1).at 7 _ rfl
  have l8P1 := (unhide P1).at 8 _ rfl
  have l9P1 := (unhide P1).at 9 _ rfl
  have ltP1 : w.heap.size < w10.heap.size := by omega
  have l0YW := (unhide YW).at 0 _ rfl
  have l1YW := (unhide YW).at 1 _ rfl
  have ltYW : sW < w10.heap.size := by omega
  have l0X1 := (unhide X1).at 0 _ rfl
  have l1X1 := (unhide X1).at 1 _ rfl
  have l2X1 := (unhide X1).at 2 _ rfl
  have l3X1 := (unhide X1).at 3 _ rfl
  have l4X1 := (unhide X1).at 4 _ rfl
  have l5X1 := (unhide X1).at 5 _ rfl
  have l6X1 := (unhide X1).at 6 _ rfl
  have l7X1 := (unhide X1).at 7 _ rfl
  have l8X1 := (unhide X1).at 8 _ rfl
  have l9X1 := (unhide X1).at 9 _ rfl
  have ltX1 : w6.heap.size < w10.heap.size := by omega
  have l0YG := (unhide YG).at 0 _ rfl
  have l1YG := (unhide YG).at 1 _ rfl
  have ltYG : w8.heap.size < w10.heap.size := by omega
  simp only [List.getElem_toArray, List.getElem_cons_zero, List.getElem_cons_succ] at l0P1 l1P1 l2P1 l3P1 l4P1 l5P1 l6P1 l7P1 l8P1 l9P1 l0YW l1YW l0X1 l1X1 l2X1 l3X1 l4X1 l5X1 l6X1 l7X1 l8X1 l9X1 l0YG l1YG
  go_wp2_with fail
  clear l0P1 l1P1 l2P1 l3P1 l4P1 l5P1 l6P1 l7P1 l8P1 l9P1 ltP1 l0YW l1YW ltYW l0X1 l1X1 l2X1 l3X1 l4X1 l5X1 l6X1 l7X1 l8X1 l9X1 ltX1 l0YG l1YG ltYG
  refine (to_MsgS _ x0 w10 (unhide HA0).reads (unhide HN0)).mono ?_
  rintro e w11 ⟨vd0, rfl, O, hb⟩
  replace HA0 := hide ((unhide HA0).later hb)
  replace HA1 := hide ((unhide HA1).later hb)
  replace P1 := hide ((unhide P1).keep hb)
  replace HW := hide ((unhide HW).later hb)
  replace YW := hide ((unhide YW).keep hb)
  replace Hx0 := hide ((unhide Hx0).later hb)
  replace Hx1 := hide ((unhide Hx1).later hb)
  replace X1 := hide ((unhide X1).keep hb)
  replace HG := hide ((unhide HG).later hb)
  replace YG := hide ((unhide YG).keep hb)
  have Zw11 : w10.heap.size ≤ w11.heap.size := hb.size
  replace HB := hide ((unhide HB).trans (hb.mono (by omega)))
  clear hb
  obtain ⟨aod0, cpd0, rfl⟩ := open_sl O.reads
  have Hd0 := hide O
  clear O
  have l0P1 := (unhide P1).at 0 _ rfl
  have l1P1 := (unhide P1).at 1 _ rfl
  have l2P1 := (unhide P1).at 2 _ rfl
  have l3P1 := (unhide P1).at 3 _ rfl
  have l4P1 := (unhide P1).at 4 _ rfl
  have l5P1 := (unhide P1).at 5 _ rfl
  have l6P1 := (unhide P1).at 6 _ rfl
  have l7P1 := (unhide P1).at 7 _ rfl
  have l8P1 := (unhide P1).at 8 _ rfl
  have l9P1 := (unhide P1).at 9 _ rfl
  have ltP1 : w.heap.size < w11.heap.size := by omega
  have l0YW := (unhide YW).at 0 _ rfl
  have l1YW := (unhide YW).at 1 _ rfl
  have ltYW : sW < w11.heap.size := by omega
  have l0X1 := (unhide X1).at 0 _ rfl
  have l1X1 := (unhide X1).at 1 _ rfl
  have l2X1 := (unhide X1).at 2 _ rfl
  have l3X1 := (unhide X1).at 3 _ rfl
  have l4X1 := (unhide X1).at 4 _ rfl
  have l5X1 := (unhide X1).at 5 _ rfl
  have l6X1 := (unhide X1).at 6 _ rfl
  have l7X1 := (unhide X1).at 7 _ rfl
  have l8X1 := (unhide X1).at 8 _ rfl
  have l9X1 := (unhide X1).at 9 _ rfl
  have ltX1 : w6.heap.size < w11.heap.size := by omega
  have l0YG := (unhide YG).at 0 _ rfl
  have l1YG := (unhide YG).at 1 _ rfl
  have ltYG : w8.heap.size < w11.heap.size := by omega
  simp only [List.getElem_toArray, List.getElem_cons_zero, List.getElem_cons_succ] at l0P1 l1P1 l2P1 l3P1 l4P1 l5P1 l6P1 l7P1 l8P1 l9P1 l0YW l1YW l0X1 l1X1 l2X1 l3X1 l4X1 l5X1 l6X1 l7X1 l8X1 l9X1 l0YG l1YG
  go_wp2_with fail
  clear l0P1 l1P1 l2P1 l3P1 l4P1 l5P1 l6P1 l7P1 l8P1 l9P1 ltP1 l0YW l1YW ltYW l0X1 l1X1 l2X1 l3X1 l4X1 l5X1 l6X1 l7X1 l8X1 l9X1 ltX1 l0YG l1YG ltYG
  refine (eq_MsgS _ _ x0 w11 (unhide Hx0).reads (unhide Hd0).reads).mono ?_
  rintro e w12 ⟨rfl, hb⟩
  replace HA0 := hide ((unhide HA0).later hb)
  replace HA1 := hide ((unhide HA1).later hb)
  replace P1 := hide ((unhide P1).keep hb)
  replace HW := hide ((unhide HW).later hb)
  replace YW := hide ((unhide YW).keep hb)
  replace Hx0 := hide ((unhide Hx0).later hb)
  replace Hx1 := hide ((unhide Hx1).later hb)
  replace X1 := hide ((unhide X1).keep hb)
  replace HG := hide ((unhide HG).later hb)
  replace YG := hide ((unhide YG).keep hb)
  replace Hd0 := hide ((unhide Hd0).later hb)
  have Zw12 : w11.heap.size ≤ w12.heap.size := hb.size
  replace HB := hide ((unhide HB).trans (hb.mono (by omega)))
  clear hb
  clear Hd0
  have l0P1 := (unhide P1).at 0 _ rfl
  have l1P1 := (unhide P1).at 1 _ rfl
  have l2P1 := (unhide P1).at 2 _ rfl
  have l3P1 := (unhide P1).at 3 _ rfl
  have l4P1 := (unhide P1).at 4 _ rfl
  have l5P1 := (unhide P1).at 5 _ rfl
  have l6P1 := (unhide P1).at 6 _ rfl
  have l7P1 := (unhide P1).at 7 _ rfl
  have l8P1 := (unhide P1).at 8 _ rfl
  have l9P1 := (unhide P1).at 9 _ rfl
  have ltP1 : w.heap.size < w12.heap.size := by omega
  have l0YW := (unhide YW).at 0 _ rfl
  have l1YW := (unhide YW).at 1 _ rfl
  have ltYW : sW < w12.heap.size := by omega
  have l0X1 := (unhide X1).at 0 _ rfl
  have l1X1 := (unhide X1).at 1 _ rfl
  have l2X1 := (unhide X1).at 2 _ rfl
  have l3X1 := (unhide X1).at 3 _ rfl
  have l4X1 := (unhide X1).at 4 _ rfl
  have l5X1 := (unhide X1).at 5 _ rfl
  have l6X1 := (unhide X1).at 6 _ rfl
  have l7X1 := (unhide X1).at 7 _ rfl
  have l8X1 := (unhide X1).at 8 _ rfl
  have l9X1 := (unhide X1).at 9 _ rfl
  have ltX1 : w6.heap.size < w12.heap.size := by omega
  have l0YG := (unhide YG).at 0 _ rfl
  have l1YG := (unhide YG).at 1 _ rfl
  have ltYG : w8.heap.size < w12.heap.size := by omega
  simp only [List.getElem_toArray, List.getElem_cons_zero, List.getElem_cons_succ] at l0P1 l1P1 l2P1 l3P1 l4P1 l5P1 l6P1 l7P1 l8P1 l9P1 l0YW l1YW l0X1 l1X1 l2X1 l3X1 l4X1 l5X1 l6X1 l7X1 l8X1 l9X1 l0YG l1YG
  go_wp2_with fail
  clear l0P1 l1P1 l2P1 l3P1 l4P1 l5P1 l6P1 l7P1 l8P1 l9P1 ltP1 l0YW l1YW ltYW l0X1 l1X1 l2X1 l3X1 l4X1 l5X1 l6X1 l7X1 l8X1 l9X1 ltX1 l0YG l1YG ltYG
  have l0P1 := (unhide P1).at 0 _ rfl
  have l1P1 := (unhide P1).at 1 _ rfl
  have l2P1 := (unhide P1).at 2 _ rfl
  have l3P1 := (unhide P1).at 3 _ rfl
  have l4P1 := (unhide P1).at 4 _ rfl
  have l5P1 := (unhide P1).at 5 _ rfl
  have l6P1 := (unhide P1).at 6 _ rfl
  have l7P1 := (unhide P1).at 7 _ rfl
  have l8P1 := (unhide P1).at 8 _ rfl
  have l9P1 := (unhide P1).at 9 _ rfl
  have ltP1 : w.heap.size < w12.heap.size := by omega
  have l0X1 := (unhide X1).at 0 _ rfl
  have l1X1 := (unhide X1).at 1 _ rfl
  have l2X1 := (unhide X1).at 2 _ rfl
  have l3X1 := (unhide X1).at 3 _ rfl
  have l4X1 := (unhide X1).at 4 _ rfl
  have l5X1 := (unhide X1).at 5 _ rfl
  have l6X1 := (unhide X1).at 6 _ rfl
  have l7X1 := (unhide X1).at 7 _ rfl
  have l8X1 := (unhide X1).at 8 _ rfl
  have l9X1 := (unhide X1).at 9 _ rfl
  have ltX1 : w6.heap.size < w12.heap.size := by omega
  simp only [List.getElem_toArray, List.getElem_cons_zero, List.getElem_cons_succ] at l0P1 l1P1 l2P1 l3P1 l4P1 l5P1 l6P1 l7P1 l8P1 l9P1 l0X1 l1X1 l2X1 l3X1 l4X1 l5X1 l6X1 l7X1 l8X1 l9X1
  refine wp_region_noPanic ?_
  refine wp_region_held_drew (S := fun w' => Below w12.heap.size w12 w') (by kernel_rfl) (Below.refl _ _).drew (fun hHeld => ?_)
  generalize w12.drew = wD at hHeld ⊢
  refine wpAnyH_take (i := 0) (oi := { dst := some 45, op := Go.Op.load 31 (Go.Operand.tmp 8), type := 31, pos := "exact.go:4308", after := #[], guard := none }) (v := ?vs10) rfl (by kernel_rfl) (by kernel_rfl) (by kernel_rfl) (fun _ _ _ h => h) (Or.inl ⟨by rfl, ?hs10⟩) hHeld ?rs10
  case hs10 =>
    intro wS hSw
    have y0P1 := (hSw.cell (p := ⟨w.heap.size, 0, none⟩) ltP1).trans l0P1
    have y1P1 := (hSw.cell (p := ⟨w.heap.size, 1, none⟩) ltP1).trans l1P1
    have y2P1 := (hSw.cell (p := ⟨w.heap.size, 2, none⟩) ltP1).trans l2P1
    have y3P1 := (hSw.cell (p := ⟨w.heap.size, 3, none⟩) ltP1).trans l3P1
    have y4P1 := (hSw.cell (p := ⟨w.heap.size, 4, none⟩) ltP1).trans l4P1
    have y5P1 := (hSw.cell (p := ⟨w.heap.size, 5, none⟩) ltP1).trans l5P1
    have y6P1 := (hSw.cell (p := ⟨w.heap.size, 6, none⟩) ltP1).trans l6P1
    have y7P1 := (hSw.cell (p := ⟨w.heap.size, 7, none⟩) ltP1).trans l7P1
    have y8P1 := (hSw.cell (p := ⟨w.heap.size, 8, none⟩) ltP1).trans l8P1
    have y9P1 := (hSw.cell (p := ⟨w.heap.size, 9, none⟩) ltP1).trans l9P1
    have y0X1 := (hSw.cell (p := ⟨w6.heap.size, 0, none⟩) ltX1).trans l0X1
    have y1X1 := (hSw.cell (p := ⟨w6.heap.size, 1, none⟩) ltX1).trans l1X1
    have y2X1 := (hSw.cell (p := ⟨w6.heap.size, 2, none⟩) ltX1).trans l2X1
    have y3X1 := (hSw.cell (p := ⟨w6.heap.size, 3, none⟩) ltX1).trans l3X1
    have y4X1 := (hSw.cell (p := ⟨w6.heap.size, 4, none⟩) ltX1).trans l4X1
    have y5X1 := (hSw.cell (p := ⟨w6.heap.size, 5, none⟩) ltX1).trans l5X1
    have y6X1 := (hSw.cell (p := ⟨w6.heap.size, 6, none⟩) ltX1).trans l6X1
    have y7X1 := (hSw.cell (p := ⟨w6.heap.size, 7, none⟩) ltX1).trans l7X1
    have y8X1 := (hSw.cell (p := ⟨w6.heap.size, 8, none⟩) ltX1).trans l8X1
    have y9X1 := (hSw.cell (p := ⟨w6.heap.size, 9, none⟩) ltX1).trans l9X1
    clear hSw
    (try dsimp only at hSw)
    go_simp
    try with_reducible rfl
  case rs10 =>
  simp only [Act.put, List.setIfInBounds_toArray, List.set_cons_zero, List.set_cons_succ]
  refine wpAnyH_take (i := 1) (oi := { dst := some 46, op := Go.Op.load 26 (Go.Operand.tmp 3), type := 26, pos := "exact.go:4308", after := #[], guard := none }) (v := ?vs11) rfl (by kernel_rfl) (by kernel_rfl) (by kernel_rfl) (fun _ _ _ h => h) (Or.inl ⟨by rfl, ?hs11⟩) hHeld ?rs11
  case hs11 =>
    intro wS hSw
    have y0P1 := (hSw.cell (p := ⟨w.heap.size, 0, none⟩) ltP1).trans l0P1
    have y1P1 := (hSw.cell (p := ⟨w.heap.size, 1, none⟩) ltP1).trans l1P1
    have y2P1 := (hSw.cell (p := ⟨w.heap.size, 2, none⟩) ltP1).trans l2P1
    have y3P1 := (hSw.cell (p := ⟨w.heap.size, 3, none⟩) ltP1).trans l3P1
    have y4P1 := (hSw.cell (p := ⟨w.heap.size, 4, none⟩) ltP1).trans l4P1
    have y5P1 := (hSw.cell (p := ⟨w.heap.size, 5, none⟩) ltP1).trans l5P1
    have y6P1 := (hSw.cell (p := ⟨w.heap.size, 6, none⟩) ltP1).trans l6P1
    have y7P1 := (hSw.cell (p := ⟨w.heap.size, 7, none⟩) ltP1).trans l7P1
    have y8P1 := (hSw.cell (p := ⟨w.heap.size, 8, none⟩) ltP1).trans l8P1
    have y9P1 := (hSw.cell (p := ⟨w.heap.size, 9, none⟩) ltP1).trans l9P1
    have y0X1 := (hSw.cell (p := ⟨w6.heap.size, 0, none⟩) ltX1).trans l0X1
    have y1X1 := (hSw.cell (p := ⟨w6.heap.size, 1, none⟩) ltX1).trans l1X1
    have y2X1 := (hSw.cell (p := ⟨w6.heap.size, 2, none⟩) ltX1).trans l2X1
    have y3X1 := (hSw.cell (p := ⟨w6.heap.size, 3, none⟩) ltX1).trans l3X1
    have y4X1 := (hSw.cell (p := ⟨w6.heap.size, 4, none⟩) ltX1).trans l4X1
    have y5X1 := (hSw.cell (p := ⟨w6.heap.size, 5, none⟩) ltX1).trans l5X1
    have y6X1 := (hSw.cell (p := ⟨w6.heap.size, 6, none⟩) ltX1).trans l6X1
    have y7X1 := (hSw.cell (p := ⟨w6.heap.size, 7, none⟩) ltX1).trans l7X1
    have y8X1 := (hSw.cell (p := ⟨w6.heap.size, 8, none⟩) ltX1).trans l8X1
    have y9X1 := (hSw.cell (p := ⟨w6.heap.size, 9, none⟩) ltX1).trans l9X1
    clear hSw
    (try dsimp only at hSw)
    go_simp
    try with_reducible rfl
  case rs11 =>
  simp only [Act.put, List.setIfInBounds_toArray, List.set_cons_zero, List.set_cons_succ]
  refine wpAnyH_ready (rs := [2]) (by kernel_rfl) (by simp) ?_
  refine AllReadyH.cons (o := { dst := some 47, op := Go.Op.call { callee := Go.Callee.value (Go.Operand.func 10), args := #[Go.Operand.tmp 46], argTypes := #[26] }, type := 31, pos := "exact.go:4308", after := #[{ on := 1, ground := Go.Ground.data }], guard := none }) rfl (fun K hK => ?_) AllReadyH.nil
  go_simp
  go_at_call 10
  refine (to_Msg _ x1 _ ((unhide HA1).reads.later hHeld) (unhide HN1)).mono ?_
  rintro e wT ⟨vT, rfl, OT, hbw⟩
  have RT := OT.reads
  obtain ⟨a7T, d7T, rfl, -⟩ := open_Msg RT
  try go_wp2_with fail
  refine hK.out _ _ (hHeld.trans (hbw.mono hHeld.size)) (fun hHeld => ?_)
  clear hK K
  try simp only [Act.put, List.setIfInBounds_toArray, List.set_cons_zero, List.set_cons_succ]
  refine wpAnyH_ready (rs := [3]) (by kernel_rfl) (by simp) ?_
  refine AllReadyH.cons (o := { dst := some 48, op := Go.Op.call { callee := Go.Callee.value (Go.Operand.func 12), args := #[Go.Operand.tmp 45, Go.Operand.tmp 47], argTypes := #[31, 31] }, type := 4, pos := "exact.go:4308", after := #[{ on := 0, ground := Go.Ground.data }, { on := 2, ground := Go.Ground.data }, { on := 2, ground := Go.Ground.chain }], guard := none }) rfl (fun K hK => ?_) AllReadyH.nil
  go_simp
  go_at_call 12
  refine (eq_Msg _ _ x1 _ ((unhide Hx1).reads.later hHeld) RT).mono ?_
  rintro e wU1 ⟨rfl, hbw⟩
  try go_wp2_with fail
  refine hK.out _ _ (hHeld.trans (hbw.mono hHeld.size)) (fun hHeld => ?_)
  clear hK K
  try simp only [Act.put, List.setIfInBounds_toArray, List.set_cons_zero, List.set_cons_succ]
  refine wpAnyH_take (i := 4) (oi := { dst := some 49, op := Go.Op.unOp Go.UnOp.not 4 (Go.Operand.tmp 48), type := 4, pos := "exact.go:4308", after := #[{ on := 3, ground := Go.Ground.data }], guard := none }) (v := ?vs14) rfl (by kernel_rfl) (by kernel_rfl) (by kernel_rfl) (fun _ _ _ h => h) (Or.inl ⟨by rfl, ?hs14⟩) hHeld ?rs14
  case hs14 =>
    intro wS hSw
    (try dsimp only at hSw)
    go_simp
    try with_reducible rfl
  case rs14 =>
  simp only [Act.put, List.setIfInBounds_toArray, List.set_cons_zero, List.set_cons_succ]
  refine wpAnyH_done (by kernel_rfl) ?_ _
  refine NoPanic.normal ?_
  clear l0P1 l1P1 l2P1 l3P1 l4P1 l5P1 l6P1 l7P1 l8P1 l9P1 ltP1 l0X1 l1X1 l2X1 l3X1 l4X1 l5X1 l6X1 l7X1 l8X1 l9X1 ltX1 OT RT
  have hb : Below w12.heap.size w12 wU1 := hHeld
  clear hHeld hbw
  replace HA0 := hide ((unhide HA0).later hb)
  replace HA1 := hide ((unhide HA1).later hb)
  replace P1 := hide ((unhide P1).keep hb)
  replace HW := hide ((unhide HW).later hb)
  replace YW := hide ((unhide YW).keep hb)
  replace Hx0 := hide ((unhide Hx0).later hb)
  replace Hx1 := hide ((unhide Hx1).later hb)
  replace X1 := hide ((unhide X1).keep hb)
  replace HG := hide ((unhide HG).later hb)
  replace YG := hide ((unhide YG).keep hb)
  have ZwU1 : w12.heap.size ≤ wU1.heap.size := hb.size
  replace HB := hide ((unhide HB).trans (hb.mono (by omega)))
  clear hb
  have l0P1 := (unhide P1).at 0 _ rfl
  have l1P1 := (unhide P1).at 1 _ rfl
  have l2P1 := (unhide P1).at 2 _ rfl
  have l3P1 := (unhide P1).at 3 _ rfl
  have l4P1 := (unhide P1).at 4 _ rfl
  have l5P1 := (unhide P1).at 5 _ rfl
  have l6P1 := (unhide P1).at 6 _ rfl
  have l7P1 := (unhide P1).at 7 _ rfl
  have l8P1 := (unhide P1).at 8 _ rfl
  have l9P1 := (unhide P1).at 9 _ rfl
  have ltP1 : w.heap.size < wU1.heap.size := by omega
  have l0YW := (unhide YW).at 0 _ rfl
  have l1YW := (unhide YW).at 1 _ rfl
  have ltYW : sW < wU1.heap.size := by omega
  have l0X1 := (unhide X1).at 0 _ rfl
  have l1X1 := (unhide X1).at 1 _ rfl
  have l2X1 := (unhide X1).at 2 _ rfl
  have l3X1 := (unhide X1).at 3 _ rfl
  have l4X1 := (unhide X1).at 4 _ rfl
  have l5X1 := (unhide X1).at 5 _ rfl
  have l6X1 := (unhide X1).at 6 _ rfl
  have l7X1 := (unhide X1).at 7 _ rfl
  have l8X1 := (unhide X1).at 8 _ rfl
  have l9X1 := (unhide X1).at 9 _ rfl
  have ltX1 : w6.heap.size < wU1.heap.size := by omega
  have l0YG := (unhide YG).at 0 _ rfl
  have l1YG := (unhide YG).at 1 _ rfl
  have ltYG : w8.heap.size < wU1.heap.size := by omega
  simp only [List.getElem_toArray, List.getElem_cons_zero, List.getElem_cons_succ] at l0P1 l1P1 l2P1 l3P1 l4P1 l5P1 l6P1 l7P1 l8P1 l9P1 l0YW l1YW l0X1 l1X1 l2X1 l3X1 l4X1 l5X1 l6X1 l7X1 l8X1 l9X1 l0YG l1YG
  go_wp2_with fail
  clear l0P1 l1P1 l2P1 l3P1 l4P1 l5P1 l6P1 l7P1 l8P1 l9P1 ltP1 l0YW l1YW ltYW l0X1 l1X1 l2X1 l3X1 l4X1 l5X1 l6X1 l7X1 l8X1 l9X1 ltX1 l0YG l1YG ltYG
  obtain ⟨bl, O, hbl⟩ := unhide Hx0
  clear Hx0
  have HCx0 := few_bound (A := (Lay.sl Lay.tMsg)) (few_sl (few_via (few_pair few_int (few_pair few_int (few_pair few_int (few_pair few_int (few_pair few_int (few_via (few_pair few_int (few_pair few_int (few_pair (few_sl few_int) (few_pair few_int few_int)))))))))))) (unhide HN0) (by omega)
  refine (mark_MsgS _ x0 bl (1) wU1 O (by omega) (by omega)).mono ?_
  rintro e w14 ⟨rfl, -, E⟩
  replace E := E.mono (S' := within w4.heap.size w5.heap.size) fun b _ hb => hbl b hb
  clear hbl O
  have zlo : w.heap.size ≤ w4.heap.size ∧ w5.heap.size ≤ wU1.heap.size := by omega
  replace HA0 := hide ((unhide HA0).ext E (within_out (by omega)))
  replace HA1 := hide ((unhide HA1).ext E (within_out (by omega)))
  replace P1 := hide ((unhide P1).ext E (fun q => by simp only [within] at q; omega))
  replace HW := hide ((unhide HW).ext E (within_out (by omega)))
  replace YW := hide ((unhide YW).ext E (fun q => by simp only [within] at q; omega))
  replace Hx1 := hide ((unhide Hx1).ext E (within_out (by omega)))
  replace X1 := hide ((unhide X1).ext E (fun q => by simp only [within] at q; omega))
  replace HG := hide ((unhide HG).ext E (within_out (by omega)))
  replace YG := hide ((unhide YG).ext E (fun q => by simp only [within] at q; omega))
  have Zw14 : wU1.heap.size ≤ w14.heap.size := E.size
  replace HB := hide ((unhide HB).trans (E.below (by omega) (fun k h q => by simp only [within] at q; omega)))
  clear E
  clear zlo
  have l0P1 := (unhide P1).at 0 _ rfl
  have l1P1 := (unhide P1).at 1 _ rfl
  have l2P1 := (unhide P1).at 2 _ rfl
  have l3P1 := (unhide P1).at 3 _ rfl
  have l4P1 := (unhide P1).at 4 _ rfl
  have l5P1 := (unhide P1).at 5 _ rfl
  have l6P1 := (unhide P1).at 6 _ rfl
  have l7P1 := (unhide P1).at 7 _ rfl
  have l8P1 := (unhide P1).at 8 _ rfl
  have l9P1 := (unhide P1).at 9 _ rfl
  have ltP1 : w.heap.size < w14.heap.size := by omega
  have l0YW := (unhide YW).at 0 _ rfl
  have l1YW := (unhide YW).at 1 _ rfl
  have ltYW : sW < w14.heap.size := by omega
  have l0X1 := (unhide X1).at 0 _ rfl
  have l1X1 := (unhide X1).at 1 _ rfl
  have l2X1 := (unhide X1).at 2 _ rfl
  have l3X1 := (unhide X1).at 3 _ rfl
  have l4X1 := (unhide X1).at 4 _ rfl
  have l5X1 := (unhide X1).at 5 _ rfl
  have l6X1 := (unhide X1).at 6 _ rfl
  have l7X1 := (unhide X1).at 7 _ rfl
  have l8X1 := (unhide X1).at 8 _ rfl
  have l9X1 := (unhide X1).at 9 _ rfl
  have ltX1 : w6.heap.size < w14.heap.size := by omega
  have l0YG := (unhide YG).at 0 _ rfl
  have l1YG := (unhide YG).at 1 _ rfl
  have ltYG : w8.heap.size < w14.heap.size := by omega
  simp only [List.getElem_toArray, List.getElem_cons_zero, List.getElem_cons_succ] at l0P1 l1P1 l2P1 l3P1 l4P1 l5P1 l6P1 l7P1 l8P1 l9P1 l0YW l1YW l0X1 l1X1 l2X1 l3X1 l4X1 l5X1 l6X1 l7X1 l8X1 l9X1 l0YG l1YG
  go_wp2_with fail
  clear l0P1 l1P1 l2P1 l3P1 l4P1 l5P1 l6P1 l7P1 l8P1 l9P1 ltP1 l0YW l1YW ltYW l0X1 l1X1 l2X1 l3X1 l4X1 l5X1 l6X1 l7X1 l8X1 l9X1 ltX1 l0YG l1YG ltYG
  obtain ⟨bl, O, hbl⟩ := unhide Hx1
  clear Hx1
  have HCx1 := few_bound (A := Lay.tMsg) (few_via (few_pair few_int (few_pair few_int (few_pair few_int (few_pair few_int (few_pair few_int (few_via (few_pair few_int (few_pair few_int (few_pair (few_sl few_int) (few_pair few_int few_int))))))))))) (unhide HN1) (by omega)
  refine (mark_Msg _ x1 bl (1 + ((Lay.sl Lay.tMsg).vcnt x0 : Int)) w14 O (by omega) (by omega)).mono ?_
  rintro e w15 ⟨rfl, -, E⟩
  replace E := E.mono (S' := within w5.heap.size w6.heap.size) fun b _ hb => hbl b hb
  clear hbl O
  have zlo : w.heap.size ≤ w5.heap.size ∧ w6.heap.size ≤ w14.heap.size := by omega
  replace HA0 := hide ((unhide HA0).ext E (within_out (by omega)))
  replace HA1 := hide ((unhide HA1).ext E (within_out (by omega)))
  replace P1 := hide ((unhide P1).ext E (fun q => by simp only [within] at q; omega))
  replace HW := hide ((unhide HW).ext E (within_out (by omega)))
  replace YW := hide ((unhide YW).ext E (fun q => by simp only [within] at q; omega))
  replace X1 := hide ((unhide X1).ext E (fun q => by simp only [within] at q; omega))
  replace HG := hide ((unhide HG).ext E (within_out (by omega)))
  replace YG := hide ((unhide YG).ext E (fun q => by simp only [within] at q; omega))
  have Zw15 : w14.heap.size ≤ w15.heap.size := E.size
  replace HB := hide ((unhide HB).trans (E.below (by omega) (fun k h q => by simp only [within] at q; omega)))
  clear E
  clear zlo
  obtain ⟨mk, hmk⟩ : ∃ mk : Int, mk = 1 + ((Lay.sl Lay.tMsg).vcnt x0 : Int) + (Lay.tMsg.vcnt x1 : Int) := ⟨_, rfl⟩
  rw [← hmk]
  have hm3 : decide (mk < 0) = false := decide_eq_false (by omega)
  clear hmk HCx0 HCx1
  have l0P1 := (unhide P1).at 0 _ rfl
  have l1P1 := (unhide P1).at 1 _ rfl
  have l2P1 := (unhide P1).at 2 _ rfl
  have l3P1 := (unhide P1).at 3 _ rfl
  have l4P1 := (unhide P1).at 4 _ rfl
  have l5P1 := (unhide P1).at 5 _ rfl
  have l6P1 := (unhide P1).at 6 _ rfl
  have l7P1 := (unhide P1).at 7 _ rfl
  have l8P1 := (unhide P1).at 8 _ rfl
  have l9P1 := (unhide P1).at 9 _ rfl
  have ltP1 : w.heap.size < w15.heap.size := by omega
  have l0YW := (unhide YW).at 0 _ rfl
  have l1YW := (unhide YW).at 1 _ rfl
  have ltYW : sW < w15.heap.size := by omega
  have l0X1 := (unhide X1).at 0 _ rfl
  have l1X1 := (unhide X1).at 1 _ rfl
  have l2X1 := (unhide X1).at 2 _ rfl
  have l3X1 := (unhide X1).at 3 _ rfl
  have l4X1 := (unhide X1).at 4 _ rfl
  have l5X1 := (unhide X1).at 5 _ rfl
  have l6X1 := (unhide X1).at 6 _ rfl
  have l7X1 := (unhide X1).at 7 _ rfl
  have l8X1 := (unhide X1).at 8 _ rfl
  have l9X1 := (unhide X1).at 9 _ rfl
  have ltX1 : w6.heap.size < w15.heap.size := by omega
  have l0YG := (unhide YG).at 0 _ rfl
  have l1YG := (unhide YG).at 1 _ rfl
  have ltYG : w8.heap.size < w15.heap.size := by omega
  simp only [List.getElem_toArray, List.getElem_cons_zero, List.getElem_cons_succ] at l0P1 l1P1 l2P1 l3P1 l4P1 l5P1 l6P1 l7P1 l8P1 l9P1 l0YW l1YW l0X1 l1X1 l2X1 l3X1 l4X1 l5X1 l6X1 l7X1 l8X1 l9X1 l0YG l1YG
  go_wp2_with fail
  clear l0P1 l1P1 l2P1 l3P1 l4P1 l5P1 l6P1 l7P1 l8P1 l9P1 ltP1 l0YW l1YW ltYW l0X1 l1X1 l2X1 l3X1 l4X1 l5X1 l6X1 l7X1 l8X1 l9X1 ltX1 l0YG l1YG ltYG
  refine (eq_NetResult _ _ y w15 (unhide HG).reads (unhide HW).reads).mono ?_
  rintro e w16 ⟨rfl, hb⟩
  replace HA0 := hide ((unhide HA0).later hb)
  replace HA1 := hide ((unhide HA1).later hb)
  replace P1 := hide ((unhide P1).keep hb)
  replace HW := hide ((unhide HW).later hb)
  replace YW := hide ((unhide YW).keep hb)
  replace X1 := hide ((unhide X1).keep hb)
  replace HG := hide ((unhide HG).later hb)
  replace YG := hide ((unhide YG).keep hb)
  have Zw16 : w15.heap.size ≤ w16.heap.size := hb.size
  replace HB := hide ((unhide HB).trans (hb.mono (by omega)))
  clear hb
  clear hm3
  have l0P1 := (unhide P1).at 0 _ rfl
  have l1P1 := (unhide P1).at 1 _ rfl
  have l2P1 := (unhide P1).at 2 _ rfl
  have l3P1 := (unhide P1).at 3 _ rfl
  have l4P1 := (unhide P1).at 4 _ rfl
  have l5P1 := (unhide P1).at 5 _ rfl
  have l6P1 := (unhide P1).at 6 _ rfl
  have l7P1 := (unhide P1).at 7 _ rfl
  have l8P1 := (unhide P1).at 8 _ rfl
  have l9P1 := (unhide P1).at 9 _ rfl
  have ltP1 : w.heap.size < w16.heap.size := by omega
  have l0YW := (unhide YW).at 0 _ rfl
  have l1YW := (unhide YW).at 1 _ rfl
  have ltYW : sW < w16.heap.size := by omega
  have l0X1 := (unhide X1).at 0 _ rfl
  have l1X1 := (unhide X1).at 1 _ rfl
  have l2X1 := (unhide X1).at 2 _ rfl
  have l3X1 := (unhide X1).at 3 _ rfl
  have l4X1 := (unhide X1).at 4 _ rfl
  have l5X1 := (unhide X1).at 5 _ rfl
  have l6X1 := (unhide X1).at 6 _ rfl
  have l7X1 := (unhide X1).at 7 _ rfl
  have l8X1 := (unhide X1).at 8 _ rfl
  have l9X1 := (unhide X1).at 9 _ rfl
  have ltX1 : w6.heap.size < w16.heap.size := by omega
  have l0YG := (unhide YG).at 0 _ rfl
  have l1YG := (unhide YG).at 1 _ rfl
  have ltYG : w8.heap.size < w16.heap.size := by omega
  simp only [List.getElem_toArray, List.getElem_cons_zero, List.getElem_cons_succ] at l0P1 l1P1 l2P1 l3P1 l4P1 l5P1 l6P1 l7P1 l8P1 l9P1 l0YW l1YW l0X1 l1X1 l2X1 l3X1 l4X1 l5X1 l6X1 l7X1 l8X1 l9X1 l0YG l1YG
  go_wp2_with fail
  clear l0P1 l1P1 l2P1 l3P1 l4P1 l5P1 l6P1 l7P1 l8P1 l9P1 ltP1 l0YW l1YW ltYW l0X1 l1X1 l2X1 l3X1 l4X1 l5X1 l6X1 l7X1 l8X1 l9X1 ltX1 l0YG l1YG ltYG
  obtain ⟨bl, O, hbl⟩ := unhide HG
  clear HG
  have hcy := unhide HC
  refine (mark_NetResult _ y bl 1 w16 O (by omega) (by omega)).mono ?_
  rintro e w17 ⟨rfl, O2, E⟩
  replace E := E.mono (S' := within w7.heap.size w8.heap.size) fun b _ hb => hbl b hb
  have HG : Hid (Lay.tNetResult.OwnIn w17 _ (Lay.tNetResult.mkv 1 y) w7.heap.size w8.heap.size) := ⟨bl, O2, hbl⟩
  clear hbl O O2
  have zlo : w.heap.size ≤ w7.heap.size ∧ w8.heap.size ≤ w16.heap.size := by omega
  replace HA0 := hide ((unhide HA0).ext E (within_out (by omega)))
  replace HA1 := hide ((unhide HA1).ext E (within_out (by omega)))
  replace P1 := hide ((unhide P1).ext E (fun q => by simp only [within] at q; omega))
  replace HW := hide ((unhide HW).ext E (within_out (by omega)))
  replace YW := hide ((unhide YW).ext E (fun q => by simp only [within] at q; omega))
  replace X1 := hide ((unhide X1).ext E (fun q => by simp only [within] at q; omega))
  replace YG := hide ((unhide YG).ext E (fun q => by simp only [within] at q; omega))
  have Zw17 : w16.heap.size ≤ w17.heap.size := E.size
  replace HB := hide ((unhide HB).trans (E.below (by omega) (fun k h q => by simp only [within] at q; omega)))
  clear E
  clear zlo
  have hq0 : decide (1 + (Lay.tNetResult.vcnt y : Int) < 0) = false := decide_eq_false (by omega)
  have hq1 : ((1 + (Lay.tNetResult.vcnt y : Int)) != (1 + (Lay.tNetResult.vcnt y : Int))) = false := by simp
  clear hcy
  have l0P1 := (unhide P1).at 0 _ rfl
  have l1P1 := (unhide P1).at 1 _ rfl
  have l2P1 := (unhide P1).at 2 _ rfl
  have l3P1 := (unhide P1).at 3 _ rfl
  have l4P1 := (unhide P1).at 4 _ rfl
  have l5P1 := (unhide P1).at 5 _ rfl
  have l6P1 := (unhide P1).at 6 _ rfl
  have l7P1 := (unhide P1).at 7 _ rfl
  have l8P1 := (unhide P1).at 8 _ rfl
  have l9P1 := (unhide P1).at 9 _ rfl
  have ltP1 : w.heap.size < w17.heap.size := by omega
  have l0YW := (unhide YW).at 0 _ rfl
  have l1YW := (unhide YW).at 1 _ rfl
  have ltYW : sW < w17.heap.size := by omega
  have l0X1 := (unhide X1).at 0 _ rfl
  have l1X1 := (unhide X1).at 1 _ rfl
  have l2X1 := (unhide X1).at 2 _ rfl
  have l3X1 := (unhide X1).at 3 _ rfl
  have l4X1 := (unhide X1).at 4 _ rfl
  have l5X1 := (unhide X1).at 5 _ rfl
  have l6X1 := (unhide X1).at 6 _ rfl
  have l7X1 := (unhide X1).at 7 _ rfl
  have l8X1 := (unhide X1).at 8 _ rfl
  have l9X1 := (unhide X1).at 9 _ rfl
  have ltX1 : w6.heap.size < w17.heap.size := by omega
  have l0YG := (unhide YG).at 0 _ rfl
  have l1YG := (unhide YG).at 1 _ rfl
  have ltYG : w8.heap.size < w17.heap.size := by omega
  simp only [List.getElem_toArray, List.getElem_cons_zero, List.getElem_cons_succ] at l0P1 l1P1 l2P1 l3P1 l4P1 l5P1 l6P1 l7P1 l8P1 l9P1 l0YW l1YW l0X1 l1X1 l2X1 l3X1 l4X1 l5X1 l6X1 l7X1 l8X1 l9X1 l0YG l1YG
  go_wp2_with fail
  clear l0P1 l1P1 l2P1 l3P1 l4P1 l5P1 l6P1 l7P1 l8P1 l9P1 ltP1 l0YW l1YW ltYW l0X1 l1X1 l2X1 l3X1 l4X1 l5X1 l6X1 l7X1 l8X1 l9X1 ltX1 l0YG l1YG ltYG
  refine (held_NetResult _ y 1 w17 (unhide HG).reads (by omega) (by have := unhide HC; omega)).mono ?_
  rintro e w18 ⟨rfl, hb⟩
  replace HA0 := hide ((unhide HA0).later hb)
  replace HA1 := hide ((unhide HA1).later hb)
  replace P1 := hide ((unhide P1).keep hb)
  replace HW := hide ((unhide HW).later hb)
  replace YW := hide ((unhide YW).keep hb)
  replace X1 := hide ((unhide X1).keep hb)
  replace YG := hide ((unhide YG).keep hb)
  replace HG := hide ((unhide HG).later hb)
  have Zw18 : w17.heap.size ≤ w18.heap.size := hb.size
  replace HB := hide ((unhide HB).trans (hb.mono (by omega)))
  clear hb
  have l0P1 := (unhide P1).at 0 _ rfl
  have l1P1 := (unhide P1).at 1 _ rfl
  have l2P1 := (unhide P1).at 2 _ rfl
  have l3P1 := (unhide P1).at 3 _ rfl
  have l4P1 := (unhide P1).at 4 _ rfl
  have l5P1 := (unhide P1).at 5 _ rfl
  have l6P1 := (unhide P1).at 6 _ rfl
  have l7P1 := (unhide P1).at 7 _ rfl
  have l8P1 := (unhide P1).at 8 _ rfl
  have l9P1 := (unhide P1).at 9 _ rfl
  have ltP1 : w.heap.size < w18.heap.size := by omega
  have l0YW := (unhide YW).at 0 _ rfl
  have l1YW := (unhide YW).at 1 _ rfl
  have ltYW : sW < w18.heap.size := by omega
  have l0X1 := (unhide X1).at 0 _ rfl
  have l1X1 := (unhide X1).at 1 _ rfl
  have l2X1 := (unhide X1).at 2 _ rfl
  have l3X1 := (unhide X1).at 3 _ rfl
  have l4X1 := (unhide X1).at 4 _ rfl
  have l5X1 := (unhide X1).at 5 _ rfl
  have l6X1 := (unhide X1).at 6 _ rfl
  have l7X1 := (unhide X1).at 7 _ rfl
  have l8X1 := (unhide X1).at 8 _ rfl
  have l9X1 := (unhide X1).at 9 _ rfl
  have ltX1 : w6.heap.size < w18.heap.size := by omega
  have l0YG := (unhide YG).at 0 _ rfl
  have l1YG := (unhide YG).at 1 _ rfl
  have ltYG : w8.heap.size < w18.heap.size := by omega
  simp only [List.getElem_toArray, List.getElem_cons_zero, List.getElem_cons_succ] at l0P1 l1P1 l2P1 l3P1 l4P1 l5P1 l6P1 l7P1 l8P1 l9P1 l0YW l1YW l0X1 l1X1 l2X1 l3X1 l4X1 l5X1 l6X1 l7X1 l8X1 l9X1 l0YG l1YG
  go_upto_region 31 with fail
  clear l0P1 l1P1 l2P1 l3P1 l4P1 l5P1 l6P1 l7P1 l8P1 l9P1 ltP1 l0YW l1YW ltYW l0X1 l1X1 l2X1 l3X1 l4X1 l5X1 l6X1 l7X1 l8X1 l9X1 ltX1 l0YG l1YG ltYG
  have l0P1 := (unhide P1).at 0 _ rfl
  have l1P1 := (unhide P1).at 1 _ rfl
  have l2P1 := (unhide P1).at 2 _ rfl
  have l3P1 := (unhide P1).at 3 _ rfl
  have l4P1 := (unhide P1).at 4 _ rfl
  have l5P1 := (unhide P1).at 5 _ rfl
  have l6P1 := (unhide P1).at 6 _ rfl
  have l7P1 := (unhide P1).at 7 _ rfl
  have l8P1 := (unhide P1).at 8 _ rfl
  have l9P1 := (unhide P1).at 9 _ rfl
  have ltP1 : w.heap.size < w18.heap.size := by omega
  simp only [List.getElem_toArray, List.getElem_cons_zero, List.getElem_cons_succ] at l0P1 l1P1 l2P1 l3P1 l4P1 l5P1 l6P1 l7P1 l8P1 l9P1
  go_cut [13] from 75 to 79 (fun sL wx => ∃ (s0 : Nat) (a1K : Option Addr) (d1K : Nat), sL = .pointer (some ⟨s0, 0, none⟩) ∧ s0 < wx.heap.size ∧ Box w18.heap.size #[.int .i64 y.code, .slice a1K y.msgs.length d1K] 43 wx s0 ∧ Lay.tNetResult.Reads wx [.int .i64 y.code, .slice a1K y.msgs.length d1K] y ∧ Below w18.heap.size w18 wx)
  case first =>
    refine wp_region_noPanic ?_
    refine wp_region_held_drew (S := fun w' => Below w18.heap.size w18 w') (by kernel_rfl) (Below.refl _ _).drew (fun hHeld => ?_)
    generalize w18.drew = X0 at hHeld ⊢
    refine wpAnyH_take (i := 0) (oi := { dst := some 75, op := Go.Op.move (Go.Operand.tmp 0), type := 35, pos := "exact.go:4327", after := #[], guard := none }) (v := ?v0_1) rfl (by kernel_rfl) (by kernel_rfl) (by kernel_rfl) (fun _ _ _ h => h) (Or.inl ⟨by rfl, ?h0_1⟩) hHeld ?r0_1
    case h0_1 =>
      intro wS hSw
      (try dsimp only at hSw)
      go_simp
      try with_reducible rfl
    case r0_1 =>
    simp only [Act.put, List.setIfInBounds_toArray, List.set_cons_zero, List.set_cons_succ]
    refine wpAnyH_take (i := 2) (oi := { dst := some 77, op := Go.Op.load 26 (Go.Operand.tmp 3), type := 26, pos := "exact.go:4327", after := #[], guard := none }) (v := ?v2_2) rfl (by kernel_rfl) (by kernel_rfl) (by kernel_rfl) (fun _ _ _ h => h) (Or.inl ⟨by rfl, ?h2_2⟩) hHeld ?r2_2
    case h2_2 =>
      intro wS hSw
      have y0P1 := (hSw.cell (p := ⟨w.heap.size, 0, none⟩) ltP1).trans l0P1
      have y1P1 := (hSw.cell (p := ⟨w.heap.size, 1, none⟩) ltP1).trans l1P1
      have y2P1 := (hSw.cell (p := ⟨w.heap.size, 2, none⟩) ltP1).trans l2P1
      have y3P1 := (hSw.cell (p := ⟨w.heap.size, 3, none⟩) ltP1).trans l3P1
      have y4P1 := (hSw.cell (p := ⟨w.heap.size, 4, none⟩) ltP1).trans l4P1
      have y5P1 := (hSw.cell (p := ⟨w.heap.size, 5, none⟩) ltP1).trans l5P1
      have y6P1 := (hSw.cell (p := ⟨w.heap.size, 6, none⟩) ltP1).trans l6P1
      have y7P1 := (hSw.cell (p := ⟨w.heap.size, 7, none⟩) ltP1).trans l7P1
      have y8P1 := (hSw.cell (p := ⟨w.heap.size, 8, none⟩) ltP1).trans l8P1
      have y9P1 := (hSw.cell (p := ⟨w.heap.size, 9, none⟩) ltP1).trans l9P1
      clear hSw
      (try dsimp only at hSw)
      go_simp
      try with_reducible rfl
    case r2_2 =>
    simp only [Act.put, List.setIfInBounds_toArray, List.set_cons_zero, List.set_cons_succ]
    refine wpAnyH_ready (rs := [1, 5]) (by kernel_rfl) (by simp) ?_
    refine AllReadyH.cons (o := { dst := some 76, op := Go.Op.call { callee := Go.Callee.value (Go.Operand.func 15), args := #[Go.Operand.tmp 75], argTypes := #[35] }, type := 38, pos := "exact.go:4327", after := #[{ on := 0, ground := Go.Ground.data }], guard := none }) rfl (fun K hK => ?_) (AllReadyH.cons (o := { dst := some 13, op := Go.Op.alloc 43, type := 0, pos := "exact.go:4327", after := #[], guard := none }) rfl (fun K hK => ?_) AllReadyH.nil)
    · go_simp
      go_at_call 15
      refine (to_MsgS _ x0 _ ((unhide HA0).reads.later hHeld) (unhide HN0)).mono ?_
      rintro e X3 ⟨vT0, rfl, OT, hbw⟩
      have rt0 := OT.reads
      obtain ⟨aoT0, cpT0, rfl⟩ := open_sl rt0
      clear OT
      try go_wp2_with fail
      refine hK.out _ _ (hHeld.trans (hbw.mono hHeld.size)) (fun hHeld => ?_)
      clear hK K hbw
      try simp only [Act.put, List.setIfInBounds_toArray, List.set_cons_zero, List.set_cons_succ]
      refine wpAnyH_ready (rs := [3, 5]) (by kernel_rfl) (by simp) ?_
      refine AllReadyH.cons (o := { dst := some 78, op := Go.Op.call { callee := Go.Callee.value (Go.Operand.func 10), args := #[Go.Operand.tmp 77], argTypes := #[26] }, type := 31, pos := "exact.go:4327", after := #[{ on := 2, ground := Go.Ground.data }, { on := 1, ground := Go.Ground.chain }], guard := none }) rfl (fun K hK => ?_) (AllReadyH.cons (o := { dst := some 13, op := Go.Op.alloc 43, type := 0, pos := "exact.go:4327", after := #[], guard := none }) rfl (fun K hK => ?_) AllReadyH.nil)
      · go_simp
        go_at_call 10
        refine (to_Msg _ x1 _ ((unhide HA1).reads.later hHeld) (unhide HN1)).mono ?_
        rintro e X4 ⟨vT1, rfl, OT, hbw⟩
        have rt1 := OT.reads
        obtain ⟨a7T1, d7T1, rfl, -⟩ := open_Msg rt1
        replace rt0 := rt0.later hbw
        clear OT
        try go_wp2_with fail
        refine hK.out _ _ (hHeld.trans (hbw.mono hHeld.size)) (fun hHeld => ?_)
        clear hK K hbw
        try simp only [Act.put, List.setIfInBounds_toArray, List.set_cons_zero, List.set_cons_succ]
        refine wpAnyH_ready (rs := [4, 5]) (by kernel_rfl) (by simp) ?_
        refine AllReadyH.cons (o := { dst := some 79, op := Go.Op.call { callee := Go.Callee.value (Go.Operand.func 19), args := #[Go.Operand.tmp 76, Go.Operand.tmp 78], argTypes := #[38, 31] }, type := 43, pos := "exact.go:4327", after := #[{ on := 1, ground := Go.Ground.data }, { on := 3, ground := Go.Ground.data }, { on := 3, ground := Go.Ground.chain }], guard := none }) rfl (fun K hK => ?_) (AllReadyH.cons (o := { dst := some 13, op := Go.Op.alloc 43, type := 0, pos := "exact.go:4327", after := #[], guard := none }) rfl (fun K hK => ?_) AllReadyH.nil)
        · go_simp
          go_at_call 19
          refine (unhide HI _ _ _ rt0 rt1).mono ?_
          rintro e X5 ⟨cs, rfl, O, hbw⟩
          obtain ⟨a1K, d1K, rfl, -⟩ := open_NetResult O.reads
          have hz9 := hbw.size
          have rd := O.lies
          clear O
          try go_wp2_with fail
          refine hK.out _ _ (hHeld.trans (hbw.mono hHeld.size)) (fun hHeld => ?_)
          clear hK K hbw hz9
          try simp only [Act.put, List.setIfInBounds_toArray, List.set_cons_zero, List.set_cons_succ]
          clear rt0 rt1
          refine wpAnyH_ready (rs := [5]) (by kernel_rfl) (by simp) ?_
          refine AllReadyH.cons (o := { dst := some 13, op := Go.Op.alloc 43, type := 0, pos := "exact.go:4327", after := #[], guard := none }) rfl (fun K hK => ?_) AllReadyH.nil
          have bx : Box w18.heap.size #[.int .i64 0, .slice none 0 0] 43 (X5.alloc (.cells #[.int .i64 0, .slice none 0 0] 43)) X5.heap.size := newBox hHeld.size
          have nbA : Below X5.heap.size X5 (X5.alloc (.cells #[.int .i64 0, .slice none 0 0] 43)) := (Below.refl _ _).alloc (Nat.le_refl _) _
          replace rd := rd.later nbA
          have hNx := hHeld.trans (nbA.mono hHeld.size)
          go_simp
          refine hK.out _ _ hNx (fun hHeld => ?_)
          clear hK K hNx nbA
          try simp only [Act.put, List.setIfInBounds_toArray, List.set_cons_zero, List.set_cons_succ]
          generalize X5.alloc (.cells #[.int .i64 0, .slice none 0 0] 43) = X6 at *
          refine wpAnyH_ready (rs := [6]) (by kernel_rfl) (by simp) ?_
          refine AllReadyH.cons (o := { dst := none, op := Go.Op.store 43 (Go.Operand.tmp 13) (Go.Operand.tmp 79), type := 0, pos := "exact.go:4327", after := #[{ on := 5, ground := Go.Ground.data }, { on := 4, ground := Go.Ground.data }, { on := 4, ground := Go.Ground.chain }, { on := 0, ground := Go.Ground.phase }, { on := 1, ground := Go.Ground.phase }, { on := 2, ground := Go.Ground.phase }, { on := 3, ground := Go.Ground.phase }, { on := 4, ground := Go.Ground.phase }, { on := 5, ground := Go.Ground.phase }], guard := none }) rfl (fun K hK => ?_) AllReadyH.nil
          have z0 : X6.cell? ⟨X5.heap.size, 0, none⟩ = some (.int .i64 0) := bx.at 0 _ rfl
          have f0 := bx.soft 0
          have z1 : X6.cell? ⟨X5.heap.size, 1, none⟩ = some (.slice none 0 0) := bx.at 1 _ rfl
          have f1 := bx.soft 1
          have l0 := bx.lt
          have bx9 : Box w18.heap.size #[.int .i64 y.code, .slice a1K y.msgs.length d1K] 43 ((X6.setCell ⟨X5.heap.size, 0, none⟩ (.int .i64 y.code)).setCell ⟨X5.heap.size, 1, none⟩ (.slice a1K y.msgs.length d1K)) X5.heap.size := by have q := ((bx.set 0 (.int .i64 y.code)).set 1 (.slice a1K y.msgs.length d1K)); simp only [List.setIfInBounds_toArray, List.set_cons_zero, List.set_cons_succ] at q; exact q
          have hE9 : Ext (fun c => c = X5.heap.size) X6 ((X6.setCell ⟨X5.heap.size, 0, none⟩ (.int .i64 y.code)).setCell ⟨X5.heap.size, 1, none⟩ (.slice a1K y.msgs.length d1K)) := (((Ext.refl (fun c => c = X5.heap.size) _).setCell ⟨X5.heap.size, 0, none⟩ (.int .i64 y.code) rfl).setCell ⟨X5.heap.size, 1, none⟩ (.slice a1K y.msgs.length d1K) rfl)
          have rd9 := (rd.ext hE9 (fun c h1 h2 h3 => by omega)).reads
          have hH9 : Below w18.heap.size w18 ((X6.setCell ⟨X5.heap.size, 0, none⟩ (.int .i64 y.code)).setCell ⟨X5.heap.size, 1, none⟩ (.slice a1K y.msgs.length d1K)) := ((hHeld.setCell (by simpa using bx.1) (.int .i64 y.code)).setCell (by simpa using bx.1) (.slice a1K y.msgs.length d1K))
          clear bx rd hE9
          have bx := bx9
          have rd := rd9
          clear bx9 rd9
          go_simp
          refine hK.out _ _ hH9 (fun hHeld => ?_)
          clear hK K hH9 l0 z0 f0 z1 f1
          try simp only [Act.put, List.setIfInBounds_toArray, List.set_cons_zero, List.set_cons_succ]
          refine wpAnyH_done (by kernel_rfl) ?_ _
          refine NoPanic.normal ?_
          have HH := hide hHeld
          have HBX := hide bx
          have HRD := hide rd
          clear hHeld bx rd
          go_wp2_with fail
          go_meet
          exact ⟨_, _, _, rfl, (unhide HBX).lt, unhide HBX, unhide HRD, unhide HH⟩
        · have bx : Box w18.heap.size #[.int .i64 0, .slice none 0 0] 43 (X4.alloc (.cells #[.int .i64 0, .slice none 0 0] 43)) X4.heap.size := newBox hHeld.size
          have nbA : Below X4.heap.size X4 (X4.alloc (.cells #[.int .i64 0, .slice none 0 0] 43)) := (Below.refl _ _).alloc (Nat.le_refl _) _
          replace rt0 := rt0.later nbA
          replace rt1 := rt1.later nbA
          have hNx := hHeld.trans (nbA.mono hHeld.size)
          go_simp
          refine hK.out _ _ hNx (fun hHeld => ?_)
          clear hK K hNx nbA
          try simp only [Act.put, List.setIfInBounds_toArray, List.set_cons_zero, List.set_cons_succ]
          generalize X4.alloc (.cells #[.int .i64 0, .slice none 0 0] 43) = X8 at *
          refine wpAnyH_ready (rs := [4]) (by kernel_rfl) (by simp) ?_
          refine AllReadyH.cons (o := { dst := some 79, op := Go.Op.call { callee := Go.Callee.value (Go.Operand.func 19), args := #[Go.Operand.tmp 76, Go.Operand.tmp 78], argTypes := #[38, 31] }, type := 43, pos := "exact.go:4327", after := #[{ on := 1, ground := Go.Ground.data }, { on := 3, ground := Go.Ground.data }, { on := 3, ground := Go.Ground.chain }], guard := none }) rfl (fun K hK => ?_) AllReadyH.nil
          go_simp
          go_at_call 19
          refine (unhide HI _ _ _ rt0 rt1).mono ?_
          rintro e X9 ⟨cs, rfl, O, hbw⟩
          obtain ⟨a1K, d1K, rfl, -⟩ := open_NetResult O.reads
          have hs0 := bx.lt
          replace bx := bx.keep hbw
          have hz9 := hbw.size
          have rd := O.lies
          clear O
          replace rd := rd.mono (lo' := X4.heap.size + 1) (by omega) (Nat.le_refl _)
          clear hs0
          try go_wp2_with fail
          refine hK.out _ _ (hHeld.trans (hbw.mono hHeld.size)) (fun hHeld => ?_)
          clear hK K hbw hz9
          try simp only [Act.put, List.setIfInBounds_toArray, List.set_cons_zero, List.set_cons_succ]
          clear rt0 rt1
          refine wpAnyH_ready (rs := [6]) (by kernel_rfl) (by simp) ?_
          refine AllReadyH.cons (o := { dst := none, op := Go.Op.store 43 (Go.Operand.tmp 13) (Go.Operand.tmp 79), type := 0, pos := "exact.go:4327", after := #[{ on := 5, ground := Go.Ground.data }, { on := 4, ground := Go.Ground.data }, { on := 4, ground := Go.Ground.chain }, { on := 0, ground := Go.Ground.phase }, { on := 1, ground := Go.Ground.phase }, { on := 2, ground := Go.Ground.phase }, { on := 3, ground := Go.Ground.phase }, { on := 4, ground := Go.Ground.phase }, { on := 5, ground := Go.Ground.phase }], guard := none }) rfl (fun K hK => ?_) AllReadyH.nil
          have z0 : X9.cell? ⟨X4.heap.size, 0, none⟩ = some (.int .i64 0) := bx.at 0 _ rfl
          have f0 := bx.soft 0
          have z1 : X9.cell? ⟨X4.heap.size, 1, none⟩ = some (.slice none 0 0) := bx.at 1 _ rfl
          have f1 := bx.soft 1
          have l0 := bx.lt
          have bx9 : Box w18.heap.size #[.int .i64 y.code, .slice a1K y.msgs.length d1K] 43 ((X9.setCell ⟨X4.heap.size, 0, none⟩ (.int .i64 y.code)).setCell ⟨X4.heap.size, 1, none⟩ (.slice a1K y.msgs.length d1K)) X4.heap.size := by have q := ((bx.set 0 (.int .i64 y.code)).set 1 (.slice a1K y.msgs.length d1K)); simp only [List.setIfInBounds_toArray, List.set_cons_zero, List.set_cons_succ] at q; exact q
          have hE9 : Ext (fun c => c = X4.heap.size) X9 ((X9.setCell ⟨X4.heap.size, 0, none⟩ (.int .i64 y.code)).setCell ⟨X4.heap.size, 1, none⟩ (.slice a1K y.msgs.length d1K)) := (((Ext.refl (fun c => c = X4.heap.size) _).setCell ⟨X4.heap.size, 0, none⟩ (.int .i64 y.code) rfl).setCell ⟨X4.heap.size, 1, none⟩ (.slice a1K y.msgs.length d1K) rfl)
          have rd9 := (rd.ext hE9 (fun c h1 h2 h3 => by omega)).reads
          have hH9 : Below w18.heap.size w18 ((X9.setCell ⟨X4.heap.size, 0, none⟩ (.int .i64 y.code)).setCell ⟨X4.heap.size, 1, none⟩ (.slice a1K y.msgs.length d1K)) := ((hHeld.setCell (by simpa using bx.1) (.int .i64 y.code)).setCell (by simpa using bx.1) (.slice a1K y.msgs.length d1K))
          clear bx rd hE9
          have bx := bx9
          have rd := rd9
          clear bx9 rd9
          go_simp
          refine hK.out _ _ hH9 (fun hHeld => ?_)
          clear hK K hH9 l0 z0 f0 z1 f1
          try simp only [Act.put, List.setIfInBounds_toArray, List.set_cons_zero, List.set_cons_succ]
          refine wpAnyH_done (by kernel_rfl) ?_ _
          refine NoPanic.normal ?_
          have HH := hide hHeld
          have HBX := hide bx
          have HRD := hide rd
          clear hHeld bx rd
          go_wp2_with fail
          go_meet
          exact ⟨_, _, _, rfl, (unhide HBX).lt, unhide HBX, unhide HRD, unhide HH⟩
      · have bx : Box w18.heap.size #[.int .i64 0, .slice none 0 0] 43 (X3.alloc (.cells #[.int .i64 0, .slice none 0 0] 43)) X3.heap.size := newBox hHeld.size
        have nbA : Below X3.heap.size X3 (X3.alloc (.cells #[.int .i64 0, .slice none 0 0] 43)) := (Below.refl _ _).alloc (Nat.le_refl _) _
        replace rt0 := rt0.later nbA
        have hNx := hHeld.trans (nbA.mono hHeld.size)
        go_simp
        refine hK.out _ _ hNx (fun hHeld => ?_)
        clear hK K hNx nbA
        try simp only [Act.put, List.setIfInBounds_toArray, List.set_cons_zero, List.set_cons_succ]
        generalize X3.alloc (.cells #[.int .i64 0, .slice none 0 0] 43) = X11 at *
        refine wpAnyH_ready (rs := [3]) (by kernel_rfl) (by simp) ?_
        refine AllReadyH.cons (o := { dst := some 78, op := Go.Op.call { callee := Go.Callee.value (Go.Operand.func 10), args := #[Go.Operand.tmp 77], argTypes := #[26] }, type := 31, pos := "exact.go:4327", after := #[{ on := 2, ground := Go.Ground.data }, { on := 1, ground := Go.Ground.chain }], guard := none }) rfl (fun K hK => ?_) AllReadyH.nil
        go_simp
        go_at_call 10
        refine (to_Msg _ x1 _ ((unhide HA1).reads.later hHeld) (unhide HN1)).mono ?_
        rintro e X12 ⟨vT1, rfl, OT, hbw⟩
        have rt1 := OT.reads
        obtain ⟨a7T1, d7T1, rfl, -⟩ := open_Msg rt1
        replace rt0 := rt0.later hbw
        replace bx := bx.keep hbw
        clear OT
        try go_wp2_with fail
        refine hK.out _ _ (hHeld.trans (hbw.mono hHeld.size)) (fun hHeld => ?_)
        clear hK K hbw
        try simp only [Act.put, List.setIfInBounds_toArray, List.set_cons_zero, List.set_cons_succ]
        refine wpAnyH_ready (rs := [4]) (by kernel_rfl) (by simp) ?_
        refine AllReadyH.cons (o := { dst := some 79, op := Go.Op.call { callee := Go.Callee.value (Go.Operand.func 19), args := #[Go.Operand.tmp 76, Go.Operand.tmp 78], argTypes := #[38, 31] }, type := 43, pos := "exact.go:4327", after := #[{ on := 1, ground := Go.Ground.data }, { on := 3, ground := Go.Ground.data }, { on := 3, ground := Go.Ground.chain }], guard := none }) rfl (fun K hK => ?_) AllReadyH.nil
        go_simp
        go_at_call 19
        refine (unhide HI _ _ _ rt0 rt1).mono ?_
        rintro e X13 ⟨cs, rfl, O, hbw⟩
        obtain ⟨a1K, d1K, rfl, -⟩ := open_NetResult O.reads
        have hs0 := bx.lt
        replace bx := bx.keep hbw
        have hz9 := hbw.size
        have rd := O.lies
        clear O
        replace rd := rd.mono (lo' := X3.heap.size + 1) (by omega) (Nat.le_refl _)
        clear hs0
        try go_wp2_with fail
        refine hK.out _ _ (hHeld.trans (hbw.mono hHeld.size)) (fun hHeld => ?_)
        clear hK K hbw hz9
        try simp only [Act.put, List.setIfInBounds_toArray, List.set_cons_zero, List.set_cons_succ]
        clear rt0 rt1
        refine wpAnyH_ready (rs := [6]) (by kernel_rfl) (by simp) ?_
        refine AllReadyH.cons (o := { dst := none, op := Go.Op.store 43 (Go.Operand.tmp 13) (Go.Operand.tmp 79), type := 0, pos := "exact.go:4327", after := #[{ on := 5, ground := Go.Ground.data }, { on := 4, ground := Go.Ground.data }, { on := 4, ground := Go.Ground.chain }, { on := 0, ground := Go.Ground.phase }, { on := 1, ground := Go.Ground.phase }, { on := 2, ground := Go.Ground.phase }, { on := 3, ground := Go.Ground.phase }, { on := 4, ground := Go.Ground.phase }, { on := 5, ground := Go.Ground.phase }], guard := none }) rfl (fun K hK => ?_) AllReadyH.nil
        have z0 : X13.cell? ⟨X3.heap.size, 0, none⟩ = some (.int .i64 0) := bx.at 0 _ rfl
        have f0 := bx.soft 0
        have z1 : X13.cell? ⟨X3.heap.size, 1, none⟩ = some (.slice none 0 0) := bx.at 1 _ rfl
        have f1 := bx.soft 1
        have l0 := bx.lt
        have bx9 : Box w18.heap.size #[.int .i64 y.code, .slice a1K y.msgs.length d1K] 43 ((X13.setCell ⟨X3.heap.size, 0, none⟩ (.int .i64 y.code)).setCell ⟨X3.heap.size, 1, none⟩ (.slice a1K y.msgs.length d1K)) X3.heap.size := by have q := ((bx.set 0 (.int .i64 y.code)).set 1 (.slice a1K y.msgs.length d1K)); simp only [List.setIfInBounds_toArray, List.set_cons_zero, List.set_cons_succ] at q; exact q
        have hE9 : Ext (fun c => c = X3.heap.size) X13 ((X13.setCell ⟨X3.heap.size, 0, none⟩ (.int .i64 y.code)).setCell ⟨X3.heap.size, 1, none⟩ (.slice a1K y.msgs.length d1K)) := (((Ext.refl (fun c => c = X3.heap.size) _).setCell ⟨X3.heap.size, 0, none⟩ (.int .i64 y.code) rfl).setCell ⟨X3.heap.size, 1, none⟩ (.slice a1K y.msgs.length d1K) rfl)
        have rd9 := (rd.ext hE9 (fun c h1 h2 h3 => by omega)).reads
        have hH9 : Below w18.heap.size w18 ((X13.setCell ⟨X3.heap.size, 0, none⟩ (.int .i64 y.code)).setCell ⟨X3.heap.size, 1, none⟩ (.slice a1K y.msgs.length d1K)) := ((hHeld.setCell (by simpa using bx.1) (.int .i64 y.code)).setCell (by simpa using bx.1) (.slice a1K y.msgs.length d1K))
        clear bx rd hE9
        have bx := bx9
        have rd := rd9
        clear bx9 rd9
        go_simp
        refine hK.out _ _ hH9 (fun hHeld => ?_)
        clear hK K hH9 l0 z0 f0 z1 f1
        try simp only [Act.put, List.setIfInBounds_toArray, List.set_cons_zero, List.set_cons_succ]
        refine wpAnyH_done (by kernel_rfl) ?_ _
        refine NoPanic.normal ?_
        have HH := hide hHeld
        have HBX := hide bx
        have HRD := hide rd
        clear hHeld bx rd
        go_wp2_with fail
        go_meet
        exact ⟨_, _, _, rfl, (unhide HBX).lt, unhide HBX, unhide HRD, unhide HH⟩
    · have bx : Box w18.heap.size #[.int .i64 0, .slice none 0 0] 43 (X0.alloc (.cells #[.int .i64 0, .slice none 0 0] 43)) X0.heap.size := newBox hHeld.size
      have nbA : Below X0.heap.size X0 (X0.alloc (.cells #[.int .i64 0, .slice none 0 0] 43)) := (Below.refl _ _).alloc (Nat.le_refl _) _
      have hNx := hHeld.trans (nbA.mono hHeld.size)
      go_simp
      refine hK.out _ _ hNx (fun hHeld => ?_)
      clear hK K hNx nbA
      try simp only [Act.put, List.setIfInBounds_toArray, List.set_cons_zero, List.set_cons_succ]
      generalize X0.alloc (.cells #[.int .i64 0, .slice none 0 0] 43) = X15 at *
      refine wpAnyH_ready (rs := [1]) (by kernel_rfl) (by simp) ?_
      refine AllReadyH.cons (o := { dst := some 76, op := Go.Op.call { callee := Go.Callee.value (Go.Operand.func 15), args := #[Go.Operand.tmp 75], argTypes := #[35] }, type := 38, pos := "exact.go:4327", after := #[{ on := 0, ground := Go.Ground.data }], guard := none }) rfl (fun K hK => ?_) AllReadyH.nil
      go_simp
      go_at_call 15
      refine (to_MsgS _ x0 _ ((unhide HA0).reads.later hHeld) (unhide HN0)).mono ?_
      rintro e X16 ⟨vT0, rfl, OT, hbw⟩
      have rt0 := OT.reads
      obtain ⟨aoT0, cpT0, rfl⟩ := open_sl rt0
      replace bx := bx.keep hbw
      clear OT
      try go_wp2_with fail
      refine hK.out _ _ (hHeld.trans (hbw.mono hHeld.size)) (fun hHeld => ?_)
      clear hK K hbw
      try simp only [Act.put, List.setIfInBounds_toArray, List.set_cons_zero, List.set_cons_succ]
      refine wpAnyH_ready (rs := [3]) (by kernel_rfl) (by simp) ?_
      refine AllReadyH.cons (o := { dst := some 78, op := Go.Op.call { callee := Go.Callee.value (Go.Operand.func 10), args := #[Go.Operand.tmp 77], argTypes := #[26] }, type := 31, pos := "exact.go:4327", after := #[{ on := 2, ground := Go.Ground.data }, { on := 1, ground := Go.Ground.chain }], guard := none }) rfl (fun K hK => ?_) AllReadyH.nil
      go_simp
      go_at_call 10
      refine (to_Msg _ x1 _ ((unhide HA1).reads.later hHeld) (unhide HN1)).mono ?_
      rintro e X17 ⟨vT1, rfl, OT, hbw⟩
      have rt1 := OT.reads
      obtain ⟨a7T1, d7T1, rfl, -⟩ := open_Msg rt1
      replace rt0 := rt0.later hbw
      replace bx := bx.keep hbw
      clear OT
      try go_wp2_with fail
      refine hK.out _ _ (hHeld.trans (hbw.mono hHeld.size)) (fun hHeld => ?_)
      clear hK K hbw
      try simp only [Act.put, List.setIfInBounds_toArray, List.set_cons_zero, List.set_cons_succ]
      refine wpAnyH_ready (rs := [4]) (by kernel_rfl) (by simp) ?_
      refine AllReadyH.cons (o := { dst := some 79, op := Go.Op.call { callee := Go.Callee.value (Go.Operand.func 19), args := #[Go.Operand.tmp 76, Go.Operand.tmp 78], argTypes := #[38, 31] }, type := 43, pos := "exact.go:4327", after := #[{ on := 1, ground := Go.Ground.data }, { on := 3, ground := Go.Ground.data }, { on := 3, ground := Go.Ground.chain }], guard := none }) rfl (fun K hK => ?_) AllReadyH.nil
      go_simp
      go_at_call 19
      refine (unhide HI _ _ _ rt0 rt1).mono ?_
      rintro e X18 ⟨cs, rfl, O, hbw⟩
      obtain ⟨a1K, d1K, rfl, -⟩ := open_NetResult O.reads
      have hs0 := bx.lt
      replace bx := bx.keep hbw
      have hz9 := hbw.size
      have rd := O.lies
      clear O
      replace rd := rd.mono (lo' := X0.heap.size + 1) (by omega) (Nat.le_refl _)
      clear hs0
      try go_wp2_with fail
      refine hK.out _ _ (hHeld.trans (hbw.mono hHeld.size)) (fun hHeld => ?_)
      clear hK K hbw hz9
      try simp only [Act.put, List.setIfInBounds_toArray, List.set_cons_zero, List.set_cons_succ]
      clear rt0 rt1
      refine wpAnyH_ready (rs := [6]) (by kernel_rfl) (by simp) ?_
      refine AllReadyH.cons (o := { dst := none, op := Go.Op.store 43 (Go.Operand.tmp 13) (Go.Operand.tmp 79), type := 0, pos := "exact.go:4327", after := #[{ on := 5, ground := Go.Ground.data }, { on := 4, ground := Go.Ground.data }, { on := 4, ground := Go.Ground.chain }, { on := 0, ground := Go.Ground.phase }, { on := 1, ground := Go.Ground.phase }, { on := 2, ground := Go.Ground.phase }, { on := 3, ground := Go.Ground.phase }, { on := 4, ground := Go.Ground.phase }, { on := 5, ground := Go.Ground.phase }], guard := none }) rfl (fun K hK => ?_) AllReadyH.nil
      have z0 : X18.cell? ⟨X0.heap.size, 0, none⟩ = some (.int .i64 0) := bx.at 0 _ rfl
      have f0 := bx.soft 0
      have z1 : X18.cell? ⟨X0.heap.size, 1, none⟩ = some (.slice none 0 0) := bx.at 1 _ rfl
      have f1 := bx.soft 1
      have l0 := bx.lt
      have bx9 : Box w18.heap.size #[.int .i64 y.code, .slice a1K y.msgs.length d1K] 43 ((X18.setCell ⟨X0.heap.size, 0, none⟩ (.int .i64 y.code)).setCell ⟨X0.heap.size, 1, none⟩ (.slice a1K y.msgs.length d1K)) X0.heap.size := by have q := ((bx.set 0 (.int .i64 y.code)).set 1 (.slice a1K y.msgs.length d1K)); simp only [List.setIfInBounds_toArray, List.set_cons_zero, List.set_cons_succ] at q; exact q
      have hE9 : Ext (fun c => c = X0.heap.size) X18 ((X18.setCell ⟨X0.heap.size, 0, none⟩ (.int .i64 y.code)).setCell ⟨X0.heap.size, 1, none⟩ (.slice a1K y.msgs.length d1K)) := (((Ext.refl (fun c => c = X0.heap.size) _).setCell ⟨X0.heap.size, 0, none⟩ (.int .i64 y.code) rfl).setCell ⟨X0.heap.size, 1, none⟩ (.slice a1K y.msgs.length d1K) rfl)
      have rd9 := (rd.ext hE9 (fun c h1 h2 h3 => by omega)).reads
      have hH9 : Below w18.heap.size w18 ((X18.setCell ⟨X0.heap.size, 0, none⟩ (.int .i64 y.code)).setCell ⟨X0.heap.size, 1, none⟩ (.slice a1K y.msgs.length d1K)) := ((hHeld.setCell (by simpa using bx.1) (.int .i64 y.code)).setCell (by simpa using bx.1) (.slice a1K y.msgs.length d1K))
      clear bx rd hE9
      have bx := bx9
      have rd := rd9
      clear bx9 rd9
      go_simp
      refine hK.out _ _ hH9 (fun hHeld => ?_)
      clear hK K hH9 l0 z0 f0 z1 f1
      try simp only [Act.put, List.setIfInBounds_toArray, List.set_cons_zero, List.set_cons_succ]
      refine wpAnyH_done (by kernel_rfl) ?_ _
      refine NoPanic.normal ?_
      have HH := hide hHeld
      have HBX := hide bx
      have HRD := hide rd
      clear hHeld bx rd
      go_wp2_with fail
      go_meet
      exact ⟨_, _, _, rfl, (unhide HBX).lt, unhide HBX, unhide HRD, unhide HH⟩
  case rest =>
  obtain ⟨sK, a1K, d1K, rfl, hsK, YB, O, hb⟩ := hcut
  obtain ⟨w19, hww19⟩ : ∃ q, q = wc := ⟨_, rfl⟩
  subst hww19
  clear l0P1 l1P1 l2P1 l3P1 l4P1 l5P1 l6P1 l7P1 l8P1 l9P1 ltP1
  replace HA0 := hide ((unhide HA0).later hb)
  replace HA1 := hide ((unhide HA1).later hb)
  replace P1 := hide ((unhide P1).keep hb)
  replace HW := hide ((unhide HW).later hb)
  replace YW := hide ((unhide YW).keep hb)
  replace X1 := hide ((unhide X1).keep hb)
  replace YG := hide ((unhide YG).keep hb)
  replace HG := hide ((unhide HG).later hb)
  have Zw19 : w18.heap.size ≤ w19.heap.size := hb.size
  replace HB := hide ((unhide HB).trans (hb.mono (by omega)))
  clear hb
  have YK := hide YB
  have HK := hide O.liesIn
  clear YB O
  have l0P1 := (unhide P1).at 0 _ rfl
  have l1P1 := (unhide P1).at 1 _ rfl
  have l2P1 := (unhide P1).at 2 _ rfl
  have l3P1 := (unhide P1).at 3 _ rfl
  have l4P1 := (unhide P1).at 4 _ rfl
  have l5P1 := (unhide P1).at 5 _ rfl
  have l6P1 := (unhide P1).at 6 _ rfl
  have l7P1 := (unhide P1).at 7 _ rfl
  have l8P1 := (unhide P1).at 8 _ rfl
  have l9P1 := (unhide P1).at 9 _ rfl
  have ltP1 : w.heap.size < w19.heap.size := by omega
  have l0YW := (unhide YW).at 0 _ rfl
  have l1YW := (unhide YW).at 1 _ rfl
  have ltYW : sW < w19.heap.size := by omega
  have l0X1 := (unhide X1).at 0 _ rfl
  have l1X1 := (unhide X1).at 1 _ rfl
  have l2X1 := (unhide X1).at 2 _ rfl
  have l3X1 := (unhide X1).at 3 _ rfl
  have l4X1 := (unhide X1).at 4 _ rfl
  have l5X1 := (unhide X1).at 5 _ rfl
  have l6X1 := (unhide X1).at 6 _ rfl
  have l7X1 := (unhide X1).at 7 _ rfl
  have l8X1 := (unhide X1).at 8 _ rfl
  have l9X1 := (unhide X1).at 9 _ rfl
  have ltX1 : w6.heap.size < w19.heap.size := by omega
  have l0YG := (unhide YG).at 0 _ rfl
  have l1YG := (unhide YG).at 1 _ rfl
  have ltYG : w8.heap.size < w19.heap.size := by omega
  have l0YK := (unhide YK).at 0 _ rfl
  have l1YK := (unhide YK).at 1 _ rfl
  have ltYK : sK < w19.heap.size := by omega
  simp only [List.getElem_toArray, List.getElem_cons_zero, List.getElem_cons_succ] at l0P1 l1P1 l2P1 l3P1 l4P1 l5P1 l6P1 l7P1 l8P1 l9P1 l0YW l1YW l0X1 l1X1 l2X1 l3X1 l4X1 l5X1 l6X1 l7X1 l8X1 l9X1 l0YG l1YG l0YK l1YK
  go_wp2_with fail
  clear l0P1 l1P1 l2P1 l3P1 l4P1 l5P1 l6P1 l7P1 l8P1 l9P1 ltP1 l0YW l1YW ltYW l0X1 l1X1 l2X1 l3X1 l4X1 l5X1 l6X1 l7X1 l8X1 l9X1 ltX1 l0YG l1YG ltYG l0YK l1YK ltYK
  refine (eq_NetResult _ _ y w19 (unhide HK).reads (unhide HW).reads).mono ?_
  rintro e w20 ⟨rfl, hb⟩
  replace HA0 := hide ((unhide HA0).later hb)
  replace HA1 := hide ((unhide HA1).later hb)
  replace P1 := hide ((unhide P1).keep hb)
  replace HW := hide ((unhide HW).later hb)
  replace YW := hide ((unhide YW).keep hb)
  replace X1 := hide ((unhide X1).keep hb)
  replace YG := hide ((unhide YG).keep hb)
  replace HG := hide ((unhide HG).later hb)
  replace HK := hide ((unhide HK).later hb)
  replace YK := hide ((unhide YK).keep hb)
  have Zw20 : w19.heap.size ≤ w20.heap.size := hb.size
  replace HB := hide ((unhide HB).trans (hb.mono (by omega)))
  clear hb
  clear HK
  clear YK
  have l0P1 := (unhide P1).at 0 _ rfl
  have l1P1 := (unhide P1).at 1 _ rfl
  have l2P1 := (unhide P1).at 2 _ rfl
  have l3P1 := (unhide P1).at 3 _ rfl
  have l4P1 := (unhide P1).at 4 _ rfl
  have l5P1 := (unhide P1).at 5 _ rfl
  have l6P1 := (unhide P1).at 6 _ rfl
  have l7P1 := (unhide P1).at 7 _ rfl
  have l8P1 := (unhide P1).at 8 _ rfl
  have l9P1 := (unhide P1).at 9 _ rfl
  have ltP1 : w.heap.size < w20.heap.size := by omega
  have l0YW := (unhide YW).at 0 _ rfl
  have l1YW := (unhide YW).at 1 _ rfl
  have ltYW : sW < w20.heap.size := by omega
  have l0X1 := (unhide X1).at 0 _ rfl
  have l1X1 := (unhide X1).at 1 _ rfl
  have l2X1 := (unhide X1).at 2 _ rfl
  have l3X1 := (unhide X1).at 3 _ rfl
  have l4X1 := (unhide X1).at 4 _ rfl
  have l5X1 := (unhide X1).at 5 _ rfl
  have l6X1 := (unhide X1).at 6 _ rfl
  have l7X1 := (unhide X1).at 7 _ rfl
  have l8X1 := (unhide X1).at 8 _ rfl
  have l9X1 := (unhide X1).at 9 _ rfl
  have ltX1 : w6.heap.size < w20.heap.size := by omega
  have l0YG := (unhide YG).at 0 _ rfl
  have l1YG := (unhide YG).at 1 _ rfl
  have ltYG : w8.heap.size < w20.heap.size := by omega
  simp only [List.getElem_toArray, List.getElem_cons_zero, List.getElem_cons_succ] at l0P1 l1P1 l2P1 l3P1 l4P1 l5P1 l6P1 l7P1 l8P1 l9P1 l0YW l1YW l0X1 l1X1 l2X1 l3X1 l4X1 l5X1 l6X1 l7X1 l8X1 l9X1 l0YG l1YG
  go_wp2_with fail
  clear l0P1 l1P1 l2P1 l3P1 l4P1 l5P1 l6P1 l7P1 l8P1 l9P1 ltP1 l0YW l1YW ltYW l0X1 l1X1 l2X1 l3X1 l4X1 l5X1 l6X1 l7X1 l8X1 l9X1 ltX1 l0YG l1YG ltYG
  refine (held_NetResult _ y 1 w20 (unhide HG).reads (by omega) (by have := unhide HC; omega)).mono ?_
  rintro e w21 ⟨rfl, hb⟩
  replace HA0 := hide ((unhide HA0).later hb)
  replace HA1 := hide ((unhide HA1).later hb)
  replace P1 := hide ((unhide P1).keep hb)
  replace HW := hide ((unhide HW).later hb)
  replace YW := hide ((unhide YW).keep hb)
  replace X1 := hide ((unhide X1).keep hb)
  replace YG := hide ((unhide YG).keep hb)
  replace HG := hide ((unhide HG).later hb)
  have Zw21 : w20.heap.size ≤ w21.heap.size := hb.size
  replace HB := hide ((unhide HB).trans (hb.mono (by omega)))
  clear hb
  have l0P1 := (unhide P1).at 0 _ rfl
  have l1P1 := (unhide P1).at 1 _ rfl
  have l2P1 := (unhide P1).at 2 _ rfl
  have l3P1 := (unhide P1).at 3 _ rfl
  have l4P1 := (unhide P1).at 4 _ rfl
  have l5P1 := (unhide P1).at 5 _ rfl
  have l6P1 := (unhide P1).at 6 _ rfl
  have l7P1 := (unhide P1).at 7 _ rfl
  have l8P1 := (unhide P1).at 8 _ rfl
  have l9P1 := (unhide P1).at 9 _ rfl
  have ltP1 : w.heap.size < w21.heap.size := by omega
  have l0YW := (unhide YW).at 0 _ rfl
  have l1YW := (unhide YW).at 1 _ rfl
  have ltYW : sW < w21.heap.size := by omega
  have l0X1 := (unhide X1).at 0 _ rfl
  have l1X1 := (unhide X1).at 1 _ rfl
  have l2X1 := (unhide X1).at 2 _ rfl
  have l3X1 := (unhide X1).at 3 _ rfl
  have l4X1 := (unhide X1).at 4 _ rfl
  have l5X1 := (unhide X1).at 5 _ rfl
  have l6X1 := (unhide X1).at 6 _ rfl
  have l7X1 := (unhide X1).at 7 _ rfl
  have l8X1 := (unhide X1).at 8 _ rfl
  have l9X1 := (unhide X1).at 9 _ rfl
  have ltX1 : w6.heap.size < w21.heap.size := by omega
  have l0YG := (unhide YG).at 0 _ rfl
  have l1YG := (unhide YG).at 1 _ rfl
  have ltYG : w8.heap.size < w21.heap.size := by omega
  simp only [List.getElem_toArray, List.getElem_cons_zero, List.getElem_cons_succ] at l0P1 l1P1 l2P1 l3P1 l4P1 l5P1 l6P1 l7P1 l8P1 l9P1 l0YW l1YW l0X1 l1X1 l2X1 l3X1 l4X1 l5X1 l6X1 l7X1 l8X1 l9X1 l0YG l1YG
  go_wp2_with fail
  clear l0P1 l1P1 l2P1 l3P1 l4P1 l5P1 l6P1 l7P1 l8P1 l9P1 ltP1 l0YW l1YW ltYW l0X1 l1X1 l2X1 l3X1 l4X1 l5X1 l6X1 l7X1 l8X1 l9X1 ltX1 l0YG l1YG ltYG
  go_ret
  exact ⟨rfl, unhide HB⟩


set_option maxRecDepth 10000 in
set_option maxHeartbeats 1000000 in
theorem lawover_SendMsg (v0 : Value) (x0 : List DMsg) (u1 : List Value) (x1 : DMsg) (w : World) (A0 : (Lay.sl Lay.tMsg).Reads w [v0] x0) (A1 : Lay.tMsg.Reads w u1 x1) (NS : 1048576 < (Lay.sl Lay.tMsg).sz x0 + Lay.tMsg.sz x1) :
    Calls Try.prog 5 #[v0, .agg u1.toArray] w fun e w' => e = .returned (.bool true) ∧ Below w.heap.size w w' := by
  obtain ⟨ao0, cp0, rfl⟩ := open_sl A0
  obtain ⟨a7p1, d7p1, rfl, -⟩ := open_Msg A1
  have HA0 := hide A0.liesIn
  clear A0
  have HA1 := hide A1.liesIn
  clear A1
  have HB := hide (Below.refl w.heap.size w)
  go_enter Try.func5, Try.ntmps5
  go_wp2_with fail
  have nb : Below w.heap.size w (w.alloc (.cells #[.int .i64 x1.kind, .int .i64 x1.epoch, .int .i64 x1.src, .int .i64 x1.dst, .int .i64 x1.index, .int .i64 x1.write.kind, .int .i64 x1.write.id, .slice a7p1 x1.write.vec.length d7p1, .int .i64 x1.write.session, .int .i64 x1.write.seq] 26)) := (Below.refl w.heap.size w).alloc (Nat.le_refl _) _
  have P1 : Hid (Box w.heap.size #[.int .i64 x1.kind, .int .i64 x1.epoch, .int .i64 x1.src, .int .i64 x1.dst, .int .i64 x1.index, .int .i64 x1.write.kind, .int .i64 x1.write.id, .slice a7p1 x1.write.vec.length d7p1, .int .i64 x1.write.session, .int .i64 x1.write.seq] 26 (w.alloc (.cells #[.int .i64 x1.kind, .int .i64 x1.epoch, .int .i64 x1.src, .int .i64 x1.dst, .int .i64 x1.index, .int .i64 x1.write.kind, .int .i64 x1.write.id, .slice a7p1 x1.write.vec.length d7p1, .int .i64 x1.write.session, .int .i64 x1.write.seq] 26)) (w.heap.size)) := newBoxAt (by omega) (by simp)
  generalize haw1 : (w.alloc (.cells #[.int .i64 x1.kind, .int .i64 x1.epoch, .int .i64 x1.src, .int .i64 x1.dst, .int .i64 x1.index, .int .i64 x1.write.kind, .int .i64 x1.write.id, .slice a7p1 x1.write.vec.length d7p1, .int .i64 x1.write.session, .int .i64 x1.write.seq] 26)) = w1 at *
  have Gw1 : w.heap.size + 1 ≤ w1.heap.size := by rw [← haw1]; simp
  clear haw1
  replace HA0 := hide ((unhide HA0).later nb)
  replace HA1 := hide ((unhide HA1).later nb)
  have Zw1 : w.heap.size ≤ w1.heap.size := nb.size
  replace HB := hide ((unhide HB).trans (nb.mono (by omega)))
  clear nb
  refine (sz_MsgS _ x0 (1048576) w1 (unhide HA0).reads (by omega)).mono ?_
  rintro e w2 ⟨rfl, hb⟩
  replace HA0 := hide ((unhide HA0).later hb)
  replace HA1 := hide ((unhide HA1).later hb)
  replace P1 := hide ((unhide P1).keep hb)
  have Zw2 : w1.heap.size ≤ w2.heap.size := hb.size
  replace HB := hide ((unhide HB).trans (hb.mono (by omega)))
  clear hb
  by_cases hs0 : (Lay.sl Lay.tMsg).sz x0 ≤ 1048576
  · rw [szR_ok hs0]
    have hq0 : decide (((1048576 - (Lay.sl Lay.tMsg).sz x0 : Nat) : Int) < 0) = false := by simp
    have l0P1 := (unhide P1).at 0 _ rfl
    have l1P1 := (unhide P1).at 1 _ rfl
    have l2P1 := (unhide P1).at 2 _ rfl
    have l3P1 := (unhide P1).at 3 _ rfl
    have l4P1 := (unhide P1).at 4 _ rfl
    have l5P1 := (unhide P1).at 5 _ rfl
    have l6P1 := (unhide P1).at 6 _ rfl
    have l7P1 := (unhide P1).at 7 _ rfl
    have l8P1 := (unhide P1).at 8 _ rfl
    have l9P1 := (unhide P1).at 9 _ rfl
    have ltP1 : w.heap.size < w2.heap.size := by omega
    simp only [List.getElem_toArray, List.getElem_cons_zero, List.getElem_cons_succ] at l0P1 l1P1 l2P1 l3P1 l4P1 l5P1 l6P1 l7P1 l8P1 l9P1
    go_wp2_with fail
    clear l0P1 l1P1 l2P1 l3P1 l4P1 l5P1 l6P1 l7P1 l8P1 l9P1 ltP1
    clear hq0
    refine (sz_Msg _ x1 (1048576 - (Lay.sl Lay.tMsg).sz x0) w2 (unhide HA1).reads (by omega)).mono ?_
    rintro e w3 ⟨rfl, hb⟩
    replace HA0 := hide ((unhide HA0).later hb)
    replace HA1 := hide ((unhide HA1).later hb)
    replace P1 := hide ((unhide P1).keep hb)
    have Zw3 : w2.heap.size ≤ w3.heap.size := hb.size
    replace HB := hide ((unhide HB).trans (hb.mono (by omega)))
    clear hb
    rw [szR_many (by omega)]
    go_wp2_with fail
    go_ret
    exact ⟨rfl, unhide HB⟩
  · rw [szR_many (by omega)]
    go_wp2_with fail
    go_ret
    exact ⟨rfl, unhide HB⟩

end Go.Proofs.Ytkmfkaljdngigaa

namespace Go.Proofs.Ytkmfkaljdngigaa
open Go.RowKit

structure DIntResult where
  code : Int
  value : Int

def Lay.tIntResult : Lay DIntResult := Lay.via (Lay.pair Lay.int Lay.int) (fun x => (x.code, x.value)) (fun p => ⟨p.1, p.2⟩)

theorem lies_IntResult {w : World} {cs : List Value} {x : DIntResult} {bl : List Nat} : Lay.tIntResult.lies w cs x bl ↔ cs = [.int .i64 x.code, .int .i64 x.value] ∧ bl = [] ∧ (Lit.int .i64 x.code).wf = true ∧ (Lit.int .i64 x.value).wf = true := by
  constructor
  · intro h
    obtain ⟨c0_, r0_, e0_, s0_, rfl, rfl, h0, h1⟩ := h
    obtain ⟨rfl, w0, rfl⟩ := h0
    obtain ⟨rfl, w1, rfl⟩ := h1
    exact ⟨by simp, by simp, w0, w1⟩
  · rintro ⟨rfl, hbl, w0, w1⟩
    rw [hbl]
    exact ⟨[.int .i64 x.code], [.int .i64 x.value], [], [], rfl, by simp, ⟨rfl, w0, rfl⟩, ⟨rfl, w1, rfl⟩⟩

end Go.Proofs.Ytkmfkaljdngigaa

namespace Go.Proofs.Ytkmfkaljdngigaa
open Go.RowKit

theorem Box.five {lo : Nat} {x0 x1 x2 x3 x4 : Value} {T : TypeId} {W : World} {s : Nat} (h : Box lo #[x0, x1, x2, x3, x4] T W s) :
    (W.cell? ⟨s, 0, none⟩ = some x0 ∧ W.cell? ⟨s, 1, none⟩ = some x1 ∧ W.cell? ⟨s, 2, none⟩ = some x2 ∧ W.cell? ⟨s, 3, none⟩ = some x3 ∧ W.cell? ⟨s, 4, none⟩ = some x4) ∧ (∀ o, W.frozen? ⟨s, o, none⟩ = false) ∧ s < W.heap.size := by
  refine ⟨⟨?_, ?_, ?_, ?_, ?_⟩, fun o => ?_, h.lt⟩
  all_goals first | simp [World.cell?, h.2] | simp [World.frozen?, h.2]
theorem Box.alloc {lo : Nat} {cs : Array Value} {T : TypeId} {W : World} {s : Nat} (h : Box lo cs T W s) (o : Obj) : Box lo cs T (W.alloc o) s := ⟨h.1, (Below.heap_alloc W o s h.lt).trans h.2⟩

end Go.Proofs.Ytkmfkaljdngigaa

namespace Go.Proofs.Ytkmfkaljdngigaa
open Go.RowKit

theorem inC (v lo hi : Int) (w : World) :
    Calls Try.prog 47 #[.int .i64 v, .int .i64 lo, .int .i64 hi] w fun e w' => e = .returned (.bool (decide (lo ≤ v) && decide (v ≤ hi))) ∧ w' = w := by
  by_cases h1 : lo ≤ v
  · have d1 : decide (lo ≤ v) = true := by simpa using h1
    rw [d1]
    cases d2 : decide (v ≤ hi) <;>
    · go_enter Try.func47, Try.ntmps47
      go_wp2_with fail
      go_ret
      exact ⟨rfl, rfl⟩
  · have d1 : decide (lo ≤ v) = false := by simpa using h1
    rw [d1]
    go_enter Try.func47, Try.ntmps47
    go_wp2_with fail
    go_ret
    exact ⟨rfl, rfl⟩
theorem idC (x : Int) (w : World) : Calls Try.prog 78 #[.int .i64 x] w fun e w' => e = .returned (.bool (decide (1 ≤ x) && decide (x ≤ 999))) ∧ w' = w := by
  go_enter Try.func78, Try.ntmps78
  go_wp2_with fail
  refine (inC x 1 999 _).mono ?_
  rintro e w1 ⟨rfl, rfl⟩
  go_wp2_with fail
  go_ret
  exact ⟨rfl, rfl⟩

end Go.Proofs.Ytkmfkaljdngigaa

namespace Go.Proofs.Ytkmfkaljdngigaa
open Go.RowKit

theorem sessionC (x : Int) (w : World) : Calls Try.prog 79 #[.int .i64 x] w fun e w' => e = .returned (.bool (decide (1 ≤ x) && decide (x ≤ 9))) ∧ w' = w := by
  go_enter Try.func79, Try.ntmps79
  go_wp2_with fail
  refine (inC x 1 9 _).mono ?_
  rintro e w1 ⟨rfl, rfl⟩
  go_wp2_with fail
  go_ret
  exact ⟨rfl, rfl⟩

end Go.Proofs.Ytkmfkaljdngigaa

namespace Go.Proofs.Ytkmfkaljdngigaa
open Go.RowKit

set_option maxHeartbeats 400000 in
theorem implFault_len (ao : Option Addr) (n cap : Nat) (w : World) (h : n ≠ 3) :
    Calls Try.prog 94 #[.slice ao n cap] w fun e w' => e = .returned (.int .i64 1) ∧ w' = w := by
  have h3 : ((n : Int) != 3) = true := by rw [bne_iff_ne]; omega
  go_enter Try.func94, Try.ntmps94
  go_wp2
  go_ret
  exact ⟨rfl, rfl⟩

set_option maxHeartbeats 400000 in
theorem implFault_three (b off cap : Nat) (zs : List Int) (w : World) (h : zs.length = 3) (hc : ∀ j, j < 3 → w.cell? ⟨b, off + j, none⟩ = some (.int .i64 (zs.getD j 0))) :
    Calls Try.prog 94 #[.slice (some ⟨b, off, none⟩) 3 cap] w fun e w' => e = .returned (.int .i64 (vecFault zs)) ∧ w' = w := by
  go_enter Try.func94, Try.ntmps94
  go_wp2
  go_loop [10] (fun i => ∃ k : Nat, k ≤ 3 ∧ i = .int .i64 k ∧ ∀ j, j < k → partB (zs.getD j 0) = true) (fun i => 3 - (intOf i).toNat)
  case atStart => exact ⟨0, Nat.zero_le _, rfl, fun j hj => by omega⟩
  case round =>
    obtain ⟨k, hk, rfl, hg⟩ := hrel
    have HG : Hid (∀ j, j < k → partB (zs.getD j 0) = true) := hg
    have HL : Hid (zs.length = 3) := h
    clear hg h
    by_cases hlt : k < 3
    · have hcx : w.cell? ⟨b, off + k, none⟩ = some (.int .i64 (zs.getD k 0)) := hc k hlt
      obtain ⟨z, hz⟩ : ∃ z, z = zs.getD k 0 := ⟨_, rfl⟩
      rw [← hz] at hcx
      have HZ : Hid (z = zs.getD k 0) := hz
      clear hz hc
      cases hp : partB z with
      | true =>
        have hb := partB_true hp
        have HP : Hid (partB z = true) := hp
        clear hp
        obtain ⟨hb1, hb2⟩ := hb
        go_wp2
        go_round
        case rel =>
          refine ⟨k + 1, by omega, by go_num, fun j hj => ?_⟩
          by_cases hjk : j < k
          · exact HG.out j hjk
          · rw [show j = k by omega, ← HZ.out]; exact HP.out
        case measure => simp [intOf]; omega
      | false =>
        have HV : Hid (vecFault zs = 3) := vecFault_bad HL.out k hlt (by rw [← HZ.out]; exact hp)
        have hb := partB_false hp
        clear hp
        rcases hb with hb | hb
        · go_wp2
          go_ret
          exact ⟨by rw [HV.out]; rfl, rfl⟩
        · have hb1 : -1000 ≤ z := by omega
          have hd : decide (z ≤ 1000) = false := by simp; omega
          go_wp2
          go_ret
          exact ⟨by rw [HV.out]; rfl, rfl⟩
    · have HV : Hid (vecFault zs = 0) := vecFault_ok HL.out (fun j hj => HG.out j (by omega))
      go_wp2
      go_ret
      exact ⟨by rw [HV.out]; rfl, rfl⟩

set_option maxHeartbeats 400000 in
theorem modelFault_len (ao : Option Addr) (n cap : Nat) (w : World) (h : n ≠ 3) :
    Calls Try.prog 80 #[.slice ao n cap] w fun e w' => e = .returned (.int .i64 1) ∧ w' = w := by
  have h3 : ((n : Int) != 3) = true := by rw [bne_iff_ne]; omega
  go_enter Try.func80, Try.ntmps80
  go_wp2
  go_ret
  exact ⟨rfl, rfl⟩

set_option maxHeartbeats 400000 in
theorem modelFault_three (b off cap : Nat) (zs : List Int) (w : World) (h : zs.length = 3) (hc : ∀ j, j < 3 → w.cell? ⟨b, off + j, none⟩ = some (.int .i64 (zs.getD j 0))) :
    Calls Try.prog 80 #[.slice (some ⟨b, off, none⟩) 3 cap] w fun e w' => e = .returned (.int .i64 (vecFault zs)) ∧ w' = w := by
  go_enter Try.func80, Try.ntmps80
  go_wp2
  go_loop [3] (fun i => ∃ k : Nat, k ≤ 3 ∧ i = .int .i64 k ∧ ∀ j, j < k → partB (zs.getD j 0) = true) (fun i => 3 - (intOf i).toNat)
  case atStart => exact ⟨0, Nat.zero_le _, rfl, fun j hj => by omega⟩
  case round =>
    obtain ⟨k, hk, rfl, hg⟩ := hrel
    have HG : Hid (∀ j, j < k → partB (zs.getD j 0) = true) := hg
    have HL : Hid (zs.length = 3) := h
    clear hg h
    by_cases hlt : k < 3
    · have hcx : w.cell? ⟨b, off + k, none⟩ = some (.int .i64 (zs.getD k 0)) := hc k hlt
      obtain ⟨z, hz⟩ : ∃ z, z = zs.getD k 0 := ⟨_, rfl⟩
      rw [← hz] at hcx
      have HZ : Hid (z = zs.getD k 0) := hz
      clear hz hc
      cases hp : partB z with
      | true =>
        have hb := partB_true hp
        have HP : Hid (partB z = true) := hp
        clear hp
        obtain ⟨hb1, hb2⟩ := hb
        go_wp2
        go_round
        case rel =>
          refine ⟨k + 1, by omega, by go_num, fun j hj => ?_⟩
          by_cases hjk : j < k
          · exact HG.out j hjk
          · rw [show j = k by omega, ← HZ.out]; exact HP.out
        case measure => simp [intOf]; omega
      | false =>
        have HV : Hid (vecFault zs = 3) := vecFault_bad HL.out k hlt (by rw [← HZ.out]; exact hp)
        have hb := partB_false hp
        clear hp
        rcases hb with hb | hb
        · go_wp2
          go_ret
          exact ⟨by rw [HV.out]; rfl, rfl⟩
        · have hb1 : -1000 ≤ z := by omega
          have hd : decide (z ≤ 1000) = false := by simp; omega
          go_wp2
          go_ret
          exact ⟨by rw [HV.out]; rfl, rfl⟩
    · have HV : Hid (vecFault zs = 0) := vecFault_ok HL.out (fun j hj => HG.out j (by omega))
      go_wp2
      go_ret
      exact ⟨by rw [HV.out]; rfl, rfl⟩


/-- VecFault of the program. -/
theorem implFault (v : Value) (zs : List Int) (w : World) (h : IsInts w v zs) :
    Calls Try.prog 94 #[v] w fun e w' => e = .returned (.int .i64 (vecFault zs)) ∧ w' = w := by
  obtain ⟨ao, cap, rfl, hwf, hc⟩ := h
  by_cases h3 : zs.length = 3
  · obtain ⟨b, off, rfl, hc1⟩ := hc (by omega)
    rw [h3] at hc1 ⊢
    exact implFault_three b off cap zs w h3 hc1
  · rw [vecFault_len h3]
    exact implFault_len ao zs.length cap w h3

/-- VecFault of the model. -/
theorem modelFault (v : Value) (zs : List Int) (w : World) (h : IsInts w v zs) :
    Calls Try.prog 80 #[v] w fun e w' => e = .returned (.int .i64 (vecFault zs)) ∧ w' = w := by
  obtain ⟨ao, cap, rfl, hwf, hc⟩ := h
  by_cases h3 : zs.length = 3
  · obtain ⟨b, off, rfl, hc1⟩ := hc (by omega)
    rw [h3] at hc1 ⊢
    exact modelFault_three b off cap zs w h3 hc1
  · rw [vecFault_len h3]
    exact modelFault_len ao zs.length cap w h3

end Go.Proofs.Ytkmfkaljdngigaa

namespace Go.Proofs.Ytkmfkaljdngigaa
open Go.RowKit

def kindB (k : Int) (n : Nat) : Bool := (decide (1 ≤ k) && decide (k ≤ 2)) && !(k == 2 && decide (0 < (n : Int)))
def boundB (i s q : Int) : Bool := (decide (1 ≤ i) && decide (i ≤ 999)) && ((decide (1 ≤ s) && decide (s ≤ 9)) && (decide (1 ≤ q) && decide (q ≤ 999)))
/-- What is wrong with a write. -/
def writeFault (k i : Int) (zs : List Int) (s q : Int) : Int :=
  if kindB k zs.length then (if boundB i s q then (if k = 1 then vecFault zs else 0) else 3) else 1

/-- The write that the pointer b points at. -/
def WriteAt (w : World) (b : Nat) (k i : Int) (v : Value) (s q : Int) : Prop :=
  w.cell? ⟨b, 0, none⟩ = some (.int .i64 k) ∧ w.cell? ⟨b, 1, none⟩ = some (.int .i64 i) ∧ w.cell? ⟨b, 2, none⟩ = some v ∧ w.cell? ⟨b, 3, none⟩ = some (.int .i64 s) ∧ w.cell? ⟨b, 4, none⟩ = some (.int .i64 q)
theorem WriteAt.later {w w' : World} {b : Nat} {k i s q : Int} {v : Value} (h : WriteAt w b k i v s q) (hb : Below w.heap.size w w') : WriteAt w' b k i v s q :=
  ⟨cell_keep hb h.1, cell_keep hb h.2.1, cell_keep hb h.2.2.1, cell_keep hb h.2.2.2.1, cell_keep hb h.2.2.2.2⟩

/-- The write at an element's place. -/
def WriteAtO (w : World) (b o : Nat) (k i : Int) (v : Value) (s q : Int) : Prop :=
  w.cell? ⟨b, o, none⟩ = some (.int .i64 k) ∧ w.cell? ⟨b, o + 1, none⟩ = some (.int .i64 i) ∧ w.cell? ⟨b, o + 2, none⟩ = some v ∧ w.cell? ⟨b, o + 3, none⟩ = some (.int .i64 s) ∧ w.cell? ⟨b, o + 4, none⟩ = some (.int .i64 q)

set_option maxRecDepth 100000 in
set_option maxHeartbeats 1000000 in
theorem l3FaultO (b o : Nat) (k i : Int) (v : Value) (s q : Int) (zs : List Int) (w : World) (hc : WriteAtO w b o k i v s q) (h : IsInts w v zs) :
    Calls Try.prog 56 #[.pointer (some ⟨b, o, none⟩)] w fun e w' => e = .returned (.int .i64 (writeFault k i zs s q)) ∧ w' = w := by
  have hv : ∃ a c, v = .slice a zs.length c := by obtain ⟨a, c, h, -⟩ := h; exact ⟨a, c, h⟩
  obtain ⟨av, cv, rfl⟩ := hv
  obtain ⟨c0, c1, c2, c3, c4⟩ := hc
  have HH := hide h
  clear h
  generalize hF : writeFault k i zs s q = F
  have HF := hide hF
  clear hF
  cases d1 : (decide (1 ≤ k) && decide (k ≤ 2)) with
  | false =>
    have hE : F = 1 := by rw [← unhide HF, writeFault, kindB, d1]; rfl
    subst hE
    go_enter Try.func56, Try.ntmps56
    go_wp2_with fail
    refine (inC k 1 2 _).mono ?_
    rintro e w1 ⟨rfl, rfl⟩
    rw [d1]
    go_wp2_with fail
    go_ret
    exact ⟨rfl, rfl⟩
  | true =>
    have hk : k = 1 ∨ k = 2 := by
      simp only [Bool.and_eq_true, decide_eq_true_eq] at d1
      omega
    clear d1
    rcases hk with rfl | rfl
    · have hK : kindB 1 zs.length = true := rfl
      cases dI : (decide (1 ≤ i) && decide (i ≤ 999)) with
      | false =>
        have hE : F = 3 := by rw [← unhide HF, writeFault, hK, if_pos rfl, boundB, dI]; rfl
        subst hE
        go_enter Try.func56, Try.ntmps56
        go_wp2_with fail
        refine (inC 1 1 2 _).mono ?_
        rintro e w1 ⟨rfl, rfl⟩
        go_wp2_with fail
        refine (idC i _).mono ?_
        rintro e w1 ⟨rfl, rfl⟩
        rw [dI]
        go_wp2_with fail
        go_ret
        exact ⟨rfl, rfl⟩
      | true =>
        cases dS : (decide (1 ≤ s) && decide (s ≤ 9)) with
        | false =>
          have hE : F = 3 := by rw [← unhide HF, writeFault, hK, if_pos rfl, boundB, dI, dS]; rfl
          subst hE
          go_enter Try.func56, Try.ntmps56
          go_wp2_with fail
          refine (inC 1 1 2 _).mono ?_
          rintro e w1 ⟨rfl, rfl⟩
          go_wp2_with fail
          refine (idC i _).mono ?_
          rintro e w1 ⟨rfl, rfl⟩
          rw [dI]
          go_wp2_with fail
          refine (sessionC s _).mono ?_
          rintro e w1 ⟨rfl, rfl⟩
          rw [dS]
          go_wp2_with fail
          go_ret
          exact ⟨rfl, rfl⟩
        | true =>
          cases dQ : (decide (1 ≤ q) && decide (q ≤ 999)) with
          | false =>
            have hE : F = 3 := by rw [← unhide HF, writeFault, hK, if_pos rfl, boundB, dI, dS, dQ]; rfl
            subst hE
            go_enter Try.func56, Try.ntmps56
            go_wp2_with fail
            refine (inC 1 1 2 _).mono ?_
            rintro e w1 ⟨rfl, rfl⟩
            go_wp2_with fail
            refine (idC i _).mono ?_
            rintro e w1 ⟨rfl, rfl⟩
            rw [dI]
            go_wp2_with fail
            refine (sessionC s _).mono ?_
            rintro e w1 ⟨rfl, rfl⟩
            rw [dS]
            go_wp2_with fail
            refine (inC q 1 999 _).mono ?_
            rintro e w1 ⟨rfl, rfl⟩
            rw [dQ]
            go_wp2_with fail
            go_ret
            exact ⟨rfl, rfl⟩
          | true =>
            have hE : F = vecFault zs := by rw [← unhide HF, writeFault, hK, if_pos rfl, boundB, dI, dS, dQ]; rfl
            subst hE
            go_enter Try.func56, Try.ntmps56
            go_wp2_with fail
            refine (inC 1 1 2 _).mono ?_
            rintro e w1 ⟨rfl, rfl⟩
            go_wp2_with fail
            refine (idC i _).mono ?_
            rintro e w1 ⟨rfl, rfl⟩
            rw [dI]
            go_wp2_with fail
            refine (sessionC s _).mono ?_
            rintro e w1 ⟨rfl, rfl⟩
            rw [dS]
            go_wp2_with fail
            refine (inC q 1 999 _).mono ?_
            rintro e w1 ⟨rfl, rfl⟩
            rw [dQ]
            go_wp2_with fail
            refine (modelFault _ zs _ (unhide HH)).mono ?_
            rintro e w1 ⟨rfl, rfl⟩
            go_wp2_with fail
            go_ret
            exact ⟨rfl, rfl⟩
    · by_cases hz : zs.length = 0
      · obtain rfl : zs = [] := List.eq_nil_of_length_eq_zero hz
        have hK : kindB 2 ([] : List Int).length = true := rfl
        simp only [List.length_nil] at c2 hK
        clear hz
        cases dI : (decide (1 ≤ i) && decide (i ≤ 999)) with
        | false =>
          have hE : F = 3 := by rw [← unhide HF, writeFault, show kindB 2 ([] : List Int).length = true from rfl, if_pos rfl, boundB, dI]; rfl
          subst hE
          go_enter Try.func56, Try.ntmps56
          go_wp2_with fail
          refine (inC 2 1 2 _).mono ?_
          rintro e w1 ⟨rfl, rfl⟩
          go_wp2_with fail
          refine (idC i _).mono ?_
          rintro e w1 ⟨rfl, rfl⟩
          rw [dI]
          go_wp2_with fail
          go_ret
          exact ⟨rfl, rfl⟩
        | true =>
          cases dS : (decide (1 ≤ s) && decide (s ≤ 9)) with
          | false =>
            have hE : F = 3 := by rw [← unhide HF, writeFault, show kindB 2 ([] : List Int).length = true from rfl, if_pos rfl, boundB, dI, dS]; rfl
            subst hE
            go_enter Try.func56, Try.ntmps56
            go_wp2_with fail
            refine (inC 2 1 2 _).mono ?_
            rintro e w1 ⟨rfl, rfl⟩
            go_wp2_with fail
            refine (idC i _).mono ?_
            rintro e w1 ⟨rfl, rfl⟩
            rw [dI]
            go_wp2_with fail
            refine (sessionC s _).mono ?_
            rintro e w1 ⟨rfl, rfl⟩
            rw [dS]
            go_wp2_with fail
            go_ret
            exact ⟨rfl, rfl⟩
          | true =>
            cases dQ : (decide (1 ≤ q) && decide (q ≤ 999)) with
            | false =>
              have hE : F = 3 := by rw [← unhide HF, writeFault, show kindB 2 ([] : List Int).length = true from rfl, if_pos rfl, boundB, dI, dS, dQ]; rfl
              subst hE
              go_enter Try.func56, Try.ntmps56
              go_wp2_with fail
              refine (inC 2 1 2 _).mono ?_
              rintro e w1 ⟨rfl, rfl⟩
              go_wp2_with fail
              refine (idC i _).mono ?_
              rintro e w1 ⟨rfl, rfl⟩
              rw [dI]
              go_wp2_with fail
              refine (sessionC s _).mono ?_
              rintro e w1 ⟨rfl, rfl⟩
              rw [dS]
              go_wp2_with fail
              refine (inC q 1 999 _).mono ?_
              rintro e w1 ⟨rfl, rfl⟩
              rw [dQ]
              go_wp2_with fail
              go_ret
              exact ⟨rfl, rfl⟩
            | true =>
              have hE : F = 0 := by rw [← unhide HF, writeFault, show kindB 2 ([] : List Int).length = true from rfl, if_pos rfl, boundB, dI, dS, dQ]; rfl
              subst hE
              go_enter Try.func56, Try.ntmps56
              go_wp2_with fail
              refine (inC 2 1 2 _).mono ?_
              rintro e w1 ⟨rfl, rfl⟩
              go_wp2_with fail
              refine (idC i _).mono ?_
              rintro e w1 ⟨rfl, rfl⟩
              rw [dI]
              go_wp2_with fail
              refine (sessionC s _).mono ?_
              rintro e w1 ⟨rfl, rfl⟩
              rw [dS]
              go_wp2_with fail
              refine (inC q 1 999 _).mono ?_
              rintro e w1 ⟨rfl, rfl⟩
              rw [dQ]
              go_wp2_with fail
              go_ret
              exact ⟨rfl, rfl⟩
      · have hE : F = 1 := by
          have : kindB 2 zs.length = false := by simp [kindB]; omega
          rw [← unhide HF, writeFault, this]; rfl
        subst hE
        obtain ⟨m, hm⟩ : ∃ m, zs.length = m + 1 := ⟨zs.length - 1, by omega⟩
        rw [hm] at c2
        clear hz hm
        go_enter Try.func56, Try.ntmps56
        go_wp2_with fail
        refine (inC 2 1 2 _).mono ?_
        rintro e w1 ⟨rfl, rfl⟩
        go_wp2_with fail
        go_ret
        exact ⟨rfl, rfl⟩

theorem l3Fault (b : Nat) (k i : Int) (v : Value) (s q : Int) (zs : List Int) (w : World) (hc : WriteAt w b k i v s q) (h : IsInts w v zs) :
    Calls Try.prog 56 #[.pointer (some ⟨b, 0, none⟩)] w fun e w' => e = .returned (.int .i64 (writeFault k i zs s q)) ∧ w' = w :=
  l3FaultO b 0 k i v s q zs w hc h

end Go.Proofs.Ytkmfkaljdngigaa

namespace Go.Proofs.Ytkmfkaljdngigaa
open Go.RowKit

/-- A write without a fault. -/
theorem writeFault_zero {k i s q : Int} {zs : List Int} (h : writeFault k i zs s q = 0) : (1 ≤ i ∧ i ≤ 999) ∧ (1 ≤ s ∧ s ≤ 9) ∧ (1 ≤ q ∧ q ≤ 999) ∧ ((k = 1 ∧ vecFault zs = 0) ∨ (k = 2 ∧ zs = [])) := by
  unfold writeFault at h
  split at h
  · next hk =>
    split at h
    · next hb =>
      simp only [kindB, Bool.and_eq_true, decide_eq_true_eq, Bool.not_eq_true', Bool.and_eq_false_iff] at hk
      simp only [boundB, Bool.and_eq_true, decide_eq_true_eq] at hb
      refine ⟨hb.1, hb.2.1, hb.2.2, ?_⟩
      by_cases h1 : k = 1
      · rw [if_pos h1] at h
        exact Or.inl ⟨h1, h⟩
      · have h2 : k = 2 := by omega
        refine Or.inr ⟨h2, ?_⟩
        rcases hk.2 with h3 | h3
        · simp [h2] at h3
        · simp at h3
          exact h3
    · omega
  · omega

end Go.Proofs.Ytkmfkaljdngigaa

namespace Go.Proofs.Ytkmfkaljdngigaa
open Go.RowKit

def wF (x : DWrite) : Int := writeFault x.kind x.id x.vec x.session x.seq
def applyI (xs : List DItem) (x : DWrite) : List DItem := if x.kind = 2 then dropI xs x.id else if roomB xs x.id then putI xs x.id x.vec else xs
def ofI (ws : List DWrite) : List DItem := ws.foldl applyI []
def wsFrom : List DWrite → Int
  | [] => 0
  | x :: xs => if wF x = 0 then wsFrom xs else wF x
def writesF (ws : List DWrite) : Int := if 200 < ws.length then 2 else wsFrom ws
def applyR (xs : List DItem) (x : DWrite) : DTableResult := if tableFault xs = 0 then (if wF x = 0 then ⟨0, applyI xs x⟩ else ⟨wF x, []⟩) else ⟨tableFault xs, []⟩
def tableOfR (ws : List DWrite) : DTableResult := if writesF ws = 0 then ⟨0, ofI ws⟩ else ⟨writesF ws, []⟩

theorem idB_of {z : Int} (h : 1 ≤ z ∧ z ≤ 999) : idB z = true := by simp only [idB, Bool.and_eq_true, decide_eq_true_eq]; exact h
theorem right_apply {xs : List DItem} (h : Right xs) {x : DWrite} (hx : wF x = 0) : Right (applyI xs x) := by
  obtain ⟨hi, -, -, hk⟩ := writeFault_zero hx
  unfold applyI
  split
  · exact right_drop h _
  · rename_i h2
    split
    · rename_i hr
      rcases hk with ⟨-, hv⟩ | ⟨hk, -⟩
      · exact right_put h (idB_of hi) hv (room_true hr)
      · exact absurd hk h2
    · exact h
theorem ofI_snoc (ws : List DWrite) (k : Nat) (h : k < ws.length) : ofI (ws.take (k + 1)) = applyI (ofI (ws.take k)) ws[k] := by
  rw [ofI, List.take_succ_eq_append_getElem h, List.foldl_append]
  rfl
theorem right_of_writes (ws : List DWrite) (h : ∀ x ∈ ws, wF x = 0) : Right (ofI ws) := by
  have : ∀ (ys : List DWrite) (xs : List DItem), Right xs → (∀ x ∈ ys, wF x = 0) → Right (ys.foldl applyI xs) := by
    intro ys
    induction ys with
    | nil => intro xs hx _; exact hx
    | cons y ys ih =>
      intro xs hx hy
      exact ih _ (right_apply hx (hy y (by simp))) fun x hx => hy x (List.mem_cons_of_mem _ hx)
  exact this ws [] right_nil h
theorem wsFrom_at (ws : List DWrite) (k : Nat) (h : k < ws.length) (hz : ∀ j (hj : j < ws.length), j < k → wF ws[j] = 0) (hn : wF ws[k] ≠ 0) : wsFrom ws = wF ws[k] := by
  induction ws generalizing k with
  | nil => simp at h
  | cons x xs ih =>
    match k with
    | 0 => rw [wsFrom, if_neg (by simpa using hn)]; rfl
    | k + 1 =>
      have h0 : wF x = 0 := hz 0 (by simp) (by omega)
      rw [wsFrom, if_pos h0]
      exact ih k (by simpa using h) (fun j hj hjk => hz (j + 1) (by simpa using hj) (by omega)) (by simpa using hn)
theorem wsFrom_all (ws : List DWrite) (hz : ∀ j (hj : j < ws.length), wF ws[j] = 0) : wsFrom ws = 0 := by
  induction ws with
  | nil => rfl
  | cons x xs ih =>
    have h0 : wF x = 0 := hz 0 (by simp)
    rw [wsFrom, if_pos h0]
    exact ih fun j hj => hz (j + 1) (by simpa using hj)
theorem wsFrom_zero {ws : List DWrite} (h : wsFrom ws = 0) : ∀ x ∈ ws, wF x = 0 := by
  induction ws with
  | nil => simp
  | cons x xs ih =>
    rw [wsFrom] at h
    by_cases h0 : wF x = 0
    · rw [if_pos h0] at h
      intro y hy
      rcases List.mem_cons.1 hy with rfl | hy
      · exact h0
      · exact ih h y hy
    · rw [if_neg h0] at h; exact absurd h h0
theorem writesF_zero {ws : List DWrite} (h : writesF ws = 0) : ws.length ≤ 200 ∧ ∀ x ∈ ws, wF x = 0 := by
  unfold writesF at h
  by_cases hn : 200 < ws.length
  · rw [if_pos hn] at h; cases h
  · rw [if_neg hn] at h; exact ⟨by omega, wsFrom_zero h⟩
theorem wF_vals (x : DWrite) : 0 ≤ wF x ∧ wF x ≤ 3 := by
  have hv := vecFault_vals x.vec
  unfold wF writeFault
  split
  · split
    · split
      · exact hv
      · decide
    · decide
  · decide
theorem wF_wf (x : DWrite) : (Lit.int .i64 (wF x)).wf = true := wf_of_bd (by have := wF_vals x; omega)
theorem wsFrom_vals (ws : List DWrite) : 0 ≤ wsFrom ws ∧ wsFrom ws ≤ 3 := by
  induction ws with
  | nil => decide
  | cons x xs ih =>
    rw [wsFrom]
    split
    · exact ih
    · exact wF_vals x
theorem writesF_wf (ws : List DWrite) : (Lit.int .i64 (writesF ws)).wf = true := by
  have := wsFrom_vals ws
  unfold writesF
  split
  · decide
  · exact wf_of_bd (by omega)

end Go.Proofs.Ytkmfkaljdngigaa

namespace Go.Proofs.Ytkmfkaljdngigaa
open Go.RowKit

def ofB (s : Int) (x : DWrite) : Bool := decide (x.session = s)
def sameB (s q : Int) (x : DWrite) : Bool := decide (x.session = s) && decide (x.seq = q)
/-- The greatest number of a session. -/
def lastI (ws : List DWrite) (s : Int) : Int := ws.foldl (fun n x => if x.session = s then max n x.seq else n) 0
/-- How many writes there are up to the first one of a session and number; 0: there is none. -/
def seenFrom (s q : Int) : Nat → List DWrite → Nat
  | _, [] => 0
  | n, x :: xs => if x.session = s ∧ x.seq = q then n + 1 else seenFrom s q (n + 1) xs
def seenI (ws : List DWrite) (s q : Int) : Nat := seenFrom s q 0 ws
/-- Of each session the numbers rise. -/
def onceB : List DWrite → List DWrite → Bool
  | _, [] => true
  | pre, x :: xs => decide (lastI pre x.session < x.seq) && onceB (pre ++ [x]) xs
def askedF (ws : List DWrite) (s : Int) : Int := if writesF ws = 0 then (if 1 ≤ s ∧ s ≤ 9 then 0 else 3) else writesF ws

theorem lastI_nil (s : Int) : lastI [] s = 0 := rfl
theorem lastI_snoc (ws : List DWrite) (x : DWrite) (s : Int) : lastI (ws ++ [x]) s = if x.session = s then max (lastI ws s) x.seq else lastI ws s := by
  simp [lastI]
theorem lastI_take (ws : List DWrite) (k : Nat) (h : k < ws.length) (s : Int) : lastI (ws.take (k + 1)) s = if ws[k].session = s then max (lastI (ws.take k) s) ws[k].seq else lastI (ws.take k) s := by
  rw [List.take_succ_eq_append_getElem h, lastI_snoc]
theorem seenFrom_snoc (s q : Int) (x : DWrite) : ∀ (ws : List DWrite) (n : Nat), seenFrom s q n (ws ++ [x]) = if seenFrom s q n ws = 0 then (if x.session = s ∧ x.seq = q then n + ws.length + 1 else 0) else seenFrom s q n ws
  | [], n => by simp [seenFrom]
  | y :: ws, n => by
    rw [List.cons_append, seenFrom, seenFrom]
    by_cases h : y.session = s ∧ y.seq = q
    · rw [if_pos h, if_pos h, if_neg (by omega)]
    · rw [if_neg h, if_neg h, seenFrom_snoc s q x ws (n + 1)]
      simp only [List.length_cons]
      rw [show n + 1 + ws.length + 1 = n + (ws.length + 1) + 1 by omega]
theorem seenI_snoc (ws : List DWrite) (x : DWrite) (s q : Int) : seenI (ws ++ [x]) s q = if seenI ws s q = 0 then (if x.session = s ∧ x.seq = q then ws.length + 1 else 0) else seenI ws s q := by
  have := seenFrom_snoc s q x ws 0
  rw [Nat.zero_add] at this
  exact this
theorem seenI_le (ws : List DWrite) (s q : Int) : seenI ws s q ≤ ws.length := by
  have : ∀ (ws : List DWrite) (n : Nat), seenFrom s q n ws ≤ n + ws.length := by
    intro ws
    induction ws with
    | nil => intro n; simp [seenFrom]
    | cons x xs ih =>
      intro n
      rw [seenFrom]
      split
      · simp only [List.length_cons]; omega
      · have := ih (n + 1)
        simp only [List.length_cons]
        omega
  have := this ws 0
  rw [Nat.zero_add] at this
  exact this
theorem seenFrom_at (s q : Int) : ∀ (ws : List DWrite) (n k : Nat) (h : k < ws.length), (∀ j (hj : j < ws.length), j < k → ¬ (ws[j].session = s ∧ ws[j].seq = q)) → (ws[k].session = s ∧ ws[k].seq = q) → seenFrom s q n ws = n + k + 1
  | [], _, _, h, _, _ => by simp at h
  | x :: xs, n, 0, _, _, hk => by rw [seenFrom, if_pos (by simpa using hk)]
  | x :: xs, n, k + 1, h, hn, hk => by
    have h0 := hn 0 (by simp) (by omega)
    rw [seenFrom, if_neg (by simpa using h0), seenFrom_at s q xs (n + 1) k (by simpa using h) (fun j hj hjk => by have := hn (j + 1) (by simpa using hj) (by omega); simpa using this) (by simpa using hk)]
    omega
theorem seenI_at {s q : Int} {ws : List DWrite} {k : Nat} (h : k < ws.length) (hn : ∀ j (hj : j < ws.length), j < k → ¬ (ws[j].session = s ∧ ws[j].seq = q)) (hk : ws[k].session = s ∧ ws[k].seq = q) : seenI ws s q = k + 1 := by
  have := seenFrom_at s q ws 0 k h hn hk
  rw [Nat.zero_add] at this
  exact this
theorem seenI_none {s q : Int} {ws : List DWrite} (hn : ∀ j (hj : j < ws.length), ¬ (ws[j].session = s ∧ ws[j].seq = q)) : seenI ws s q = 0 := by
  have : ∀ (ws : List DWrite) (n : Nat), (∀ j (hj : j < ws.length), ¬ (ws[j].session = s ∧ ws[j].seq = q)) → seenFrom s q n ws = 0 := by
    intro ws
    induction ws with
    | nil => intro n _; rfl
    | cons x xs ih =>
      intro n hn
      have h0 := hn 0 (by simp)
      rw [seenFrom, if_neg (by simpa using h0)]
      exact ih (n + 1) fun j hj => by have := hn (j + 1) (by simpa using hj); simpa using this
  exact this ws 0 hn
theorem seenI_zero {ws : List DWrite} {s q : Int} (h : seenI ws s q = 0) : ∀ x ∈ ws, ¬ (x.session = s ∧ x.seq = q) := by
  have : ∀ (ws : List DWrite) (n : Nat), seenFrom s q n ws = 0 → ∀ x ∈ ws, ¬ (x.session = s ∧ x.seq = q) := by
    intro ws
    induction ws with
    | nil => intro n _ x hx; simp at hx
    | cons y xs ih =>
      intro n h x hx
      rw [seenFrom] at h
      split at h
      · omega
      · rename_i hy
        rcases List.mem_cons.1 hx with rfl | hx
        · exact hy
        · exact ih (n + 1) h x hx
  exact this ws 0 h
theorem lastI_nonneg (ws : List DWrite) (s : Int) : 0 ≤ lastI ws s := by
  have : ∀ (ws : List DWrite) (n : Int), 0 ≤ n → 0 ≤ ws.foldl (fun n x => if x.session = s then max n x.seq else n) n := by
    intro ws
    induction ws with
    | nil => intro n h; exact h
    | cons x xs ih =>
      intro n h
      rw [List.foldl_cons]
      apply ih
      split <;> omega
  exact this ws 0 (Int.le_refl _)
theorem lastI_le (ws : List DWrite) (s : Int) (h : ∀ x ∈ ws, x.seq ≤ 999) : lastI ws s ≤ 999 := by
  have : ∀ (ws : List DWrite) (n : Int), n ≤ 999 → (∀ x ∈ ws, x.seq ≤ 999) → ws.foldl (fun n x => if x.session = s then max n x.seq else n) n ≤ 999 := by
    intro ws
    induction ws with
    | nil => intro n h _; exact h
    | cons x xs ih =>
      intro n h hx
      rw [List.foldl_cons]
      apply ih
      · have := hx x (by simp)
        split <;> omega
      · intro y hy; exact hx y (List.mem_cons_of_mem _ hy)
  exact this ws 0 (by omega) h
theorem onceB_at : ∀ (ws pre : List DWrite) (k : Nat) (h : k < ws.length), (ws[k]).seq ≤ lastI (pre ++ ws.take k) (ws[k]).session → onceB pre ws = false
  | [], _, _, h, _ => by simp at h
  | x :: xs, pre, 0, _, hk => by
    have : ¬ (lastI pre x.session < x.seq) := by simpa using hk
    simp [onceB, this]
  | x :: xs, pre, k + 1, h, hk => by
    rw [onceB, onceB_at xs (pre ++ [x]) k (by simpa using h) (by simpa using hk), Bool.and_false]
theorem onceB_all : ∀ (ws pre : List DWrite), (∀ k (h : k < ws.length), lastI (pre ++ ws.take k) (ws[k]).session < (ws[k]).seq) → onceB pre ws = true
  | [], _, _ => rfl
  | x :: xs, pre, h => by
    have h0 := h 0 (by simp)
    rw [onceB, onceB_all xs (pre ++ [x]) fun k hk => by have := h (k + 1) (by simpa using hk); simpa using this]
    simpa using h0
def onceR (ws : List DWrite) : Bool := decide (writesF ws = 0) && onceB [] ws
theorem wF_seq {x : DWrite} (h : wF x = 0) : 1 ≤ x.session ∧ x.session ≤ 9 ∧ 1 ≤ x.seq ∧ x.seq ≤ 999 := by
  obtain ⟨-, h1, h2, -⟩ := writeFault_zero h
  exact ⟨h1.1, h1.2, h2.1, h2.2⟩

end Go.Proofs.Ytkmfkaljdngigaa

namespace Go.Proofs.Ytkmfkaljdngigaa
open Go.RowKit

def sameW (x y : DWrite) : Bool := x.kind == y.kind && (x.id == y.id && (x.session == y.session && (x.seq == y.seq && decide (x.vec = y.vec))))
def sameWs : List DWrite → List DWrite → Bool
  | [], [] => true
  | x :: xs, y :: ys => sameW x y && sameWs xs ys
  | _, _ => false
theorem sameWs_len {xs ys : List DWrite} (h : xs.length ≠ ys.length) : sameWs xs ys = false := by
  induction xs generalizing ys with
  | nil => match ys, h with | y :: ys, _ => rfl
  | cons x xs ih =>
    match ys, h with
    | [], _ => rfl
    | y :: ys, h => rw [sameWs, ih (by simpa using h), Bool.and_false]
theorem sameWs_at {xs ys : List DWrite} (k : Nat) (h1 : k < xs.length) (h2 : k < ys.length) (h : sameW xs[k] ys[k] = false) : sameWs xs ys = false := by
  induction xs generalizing ys k with
  | nil => simp at h1
  | cons x xs ih =>
    match ys, k with
    | y :: ys, 0 => rw [sameWs, show sameW x y = false by simpa using h, Bool.false_and]
    | y :: ys, k + 1 => rw [sameWs, ih k (by simpa using h1) (by simpa using h2) (by simpa using h), Bool.and_false]
theorem sameWs_all {xs ys : List DWrite} (hl : xs.length = ys.length) (h : ∀ k (h1 : k < xs.length) (h2 : k < ys.length), sameW xs[k] ys[k] = true) : sameWs xs ys = true := by
  induction xs generalizing ys with
  | nil => match ys, hl with | [], _ => rfl
  | cons x xs ih =>
    match ys, hl with
    | y :: ys, hl =>
      rw [sameWs, show sameW x y = true from h 0 (by simp) (by simp), ih (by simpa using hl) fun k h1 h2 => h (k + 1) (by simpa using h1) (by simpa using h2), Bool.true_and]
theorem sameWs_refl_self (x : DWrite) : sameW x x = true := by simp [sameW]

end Go.Proofs.Ytkmfkaljdngigaa

namespace Go.Proofs.Ytkmfkaljdngigaa
open Go.RowKit

/-- A write that is none. -/
def noW (y : DWrite) : Prop := y.kind = 0 ∧ y.id = 0 ∧ y.session = 0 ∧ y.seq = 0 ∧ y.vec.length = 0
instance (y : DWrite) : Decidable (noW y) := by unfold noW; infer_instance
def msgFault (x : DMsg) : Int :=
  if ¬ (1 ≤ x.kind ∧ x.kind ≤ 2) ∨ x.src = x.dst ∨ (x.kind = 2 ∧ ¬ noW x.write) then 1
  else if ¬ (1 ≤ x.epoch ∧ x.epoch ≤ 999) ∨ ¬ (1 ≤ x.src ∧ x.src ≤ 5) ∨ ¬ (1 ≤ x.dst ∧ x.dst ≤ 5) ∨ ¬ (0 ≤ x.index ∧ x.index ≤ 40) ∨ (x.kind ≠ 2 ∧ x.index = 0) then 3
  else if x.kind = 2 then 0 else wF x.write
def msgsFrom : List DMsg → Int
  | [] => 0
  | x :: xs => if msgFault x = 0 then msgsFrom xs else msgFault x
def netFault (xs : List DMsg) : Int := if 40 < xs.length then 2 else msgsFrom xs
def sameM (x y : DMsg) : Bool := x.kind == y.kind && x.epoch == y.epoch && x.src == y.src && x.dst == y.dst && x.index == y.index && sameW x.write y.write
def badNet (c : Int) : DNetResult := ⟨c, []⟩
def sendM (xs : List DMsg) (x : DMsg) : DNetResult :=
  if xs.any (fun y => sameM y x) then ⟨0, xs⟩ else if 40 ≤ xs.length then badNet 2 else ⟨0, xs ++ [x]⟩
def sendR (xs : List DMsg) (x : DMsg) : DNetResult :=
  if netFault xs = 0 then (if msgFault x = 0 then sendM xs x else badNet (msgFault x)) else badNet (netFault xs)
def dropMR (xs : List DMsg) (i : Int) : DNetResult :=
  if netFault xs = 0 then (if 0 ≤ i ∧ i ≤ xs.length - 1 then ⟨0, xs.take i.toNat ++ xs.drop (i.toNat + 1)⟩ else badNet 3) else badNet (netFault xs)
def countM (xs : List DMsg) (z : Int) : Nat := (xs.filter fun y => y.dst == z).length
def countR (xs : List DMsg) (z : Int) : DIntResult := if netFault xs = 0 then ⟨0, countM xs z⟩ else ⟨netFault xs, 0⟩

theorem msgFault_vals (x : DMsg) : 0 ≤ msgFault x ∧ msgFault x ≤ 6 := by
  have := wF_vals x.write
  unfold msgFault
  split
  · omega
  · split
    · omega
    · split
      · omega
      · omega
theorem msgsFrom_vals : ∀ xs : List DMsg, 0 ≤ msgsFrom xs ∧ msgsFrom xs ≤ 6
  | [] => by simp [msgsFrom]
  | x :: xs => by
    rw [msgsFrom]
    split
    · exact msgsFrom_vals xs
    · exact msgFault_vals x
theorem netFault_vals (xs : List DMsg) : 0 ≤ netFault xs ∧ netFault xs ≤ 6 := by
  unfold netFault
  split
  · omega
  · exact msgsFrom_vals xs
theorem msgsFrom_zero : ∀ {xs : List DMsg}, msgsFrom xs = 0 → ∀ x ∈ xs, msgFault x = 0
  | [], _, _, h => by cases h
  | x :: xs, h, y, hy => by
    rw [msgsFrom] at h
    by_cases h1 : msgFault x = 0
    · rw [if_pos h1] at h
      rcases List.mem_cons.1 hy with rfl | hy
      · exact h1
      · exact msgsFrom_zero h y hy
    · rw [if_neg h1] at h
      exact absurd h h1
theorem msgsFrom_all : ∀ {xs : List DMsg}, (∀ x ∈ xs, msgFault x = 0) → msgsFrom xs = 0
  | [], _ => rfl
  | x :: xs, h => by
    rw [msgsFrom, if_pos (h x (by simp))]
    exact msgsFrom_all fun y hy => h y (List.mem_cons_of_mem _ hy)
theorem msgsFrom_at : ∀ {xs : List DMsg} {k : Nat} (hk : k < xs.length), (∀ j (hj : j < k), msgFault xs[j] = 0) → msgFault xs[k] ≠ 0 → msgsFrom xs = msgFault xs[k]
  | x :: xs, 0, hk, _, h => by
    have h1 : msgFault x ≠ 0 := h
    rw [msgsFrom, if_neg h1]
    rfl
  | x :: xs, k + 1, hk, hb, h => by
    have h1 : msgFault x = 0 := hb 0 (by omega)
    rw [msgsFrom, if_pos h1]
    exact msgsFrom_at (xs := xs) (k := k) (by simpa using hk) (fun j hj => hb (j + 1) (by omega)) h
end Go.Proofs.Ytkmfkaljdngigaa

namespace Go.Proofs.Ytkmfkaljdngigaa
open Go.RowKit

theorem node10C (x : Int) (w : World) : Calls Try.prog 55 #[.int .i64 x] w fun e w' => e = .returned (.bool (decide (1 ≤ x) && decide (x ≤ 5))) ∧ w' = w := by
  go_enter Try.func55, Try.ntmps55
  go_wp2_with fail
  refine (inC x 1 5 _).mono ?_
  rintro e w1 ⟨rfl, rfl⟩
  go_wp2_with fail
  go_ret
  exact ⟨rfl, rfl⟩

end Go.Proofs.Ytkmfkaljdngigaa

namespace Go.Proofs.Ytkmfkaljdngigaa
open Go.RowKit Go.ChangeShapes Go.WideShapes

/-- Whatever reads as data of the type t lies as A says. -/
def Opens {α : Type} (A : Lay α) (t : TypeId) : Prop :=
  ∀ {H : Type} (enc : TypeId × Value → H) (W : World) (base : Nat) (spare : Nat → Bool) (held : Bool) (fuel : Nat) (cs : List Value) (x : DataW H × List MemPlace), DataW.trod enc Try.prog W base spare held fuel t cs = some x → ∃ y, A.Reads W cs y

theorem reads_pair {α β : Type} {A : Lay α} {B : Lay β} {W : World} {c1 c2 : List Value} {x : α} {y : β} (h : A.Reads W c1 x) (k : B.Reads W c2 y) : (Lay.pair A B).Reads W (c1 ++ c2) (x, y) := by
  obtain ⟨b1, h⟩ := h
  obtain ⟨b2, k⟩ := k
  exact ⟨b1 ++ b2, c1, c2, b1, b2, rfl, rfl, h, k⟩

theorem opens_int {t : TypeId} (ht : Try.prog.underlying t = some (.int .i64)) : Opens Lay.int t := by
  intro H enc W base spare held fuel cs x h
  obtain ⟨n, rfl, -, hw⟩ := DataW.trod_int ht h
  exact ⟨n, [], rfl, hw, rfl⟩
theorem opens_bool {t : TypeId} (ht : Try.prog.underlying t = some .bool) : Opens Lay.bool t := by
  intro H enc W base spare held fuel cs x h
  obtain ⟨b, rfl, -⟩ := DataW.trod_bool ht h
  exact ⟨b, [], rfl, rfl⟩
theorem opens_str {t : TypeId} (ht : Try.prog.underlying t = some .string) : Opens Lay.str t := by
  intro H enc W base spare held fuel cs x h
  obtain ⟨s, rfl, -, -⟩ := DataW.trod_string ht h
  exact ⟨s, [], rfl, rfl⟩

theorem opens_sl {α : Type} {A : Lay α} {t e : TypeId} (ht : Try.prog.underlying t = some (.slice e)) (hn : Try.prog.cellsOf e = A.n) (h0 : 0 < A.n) (h : Opens A e) : Opens (Lay.sl A) t := by
  intro H enc W base spare held fuel cs x hx
  rcases Go.Deep.open_slice ht hx with ⟨rfl, -⟩ | ⟨a, len, cap, m, n, D, Pl, rfl, hb, hl, hm, hmm, -, hel⟩
  · exact ⟨[], [], none, 0, rfl, ⟨Nat.le_refl _, by simp⟩, Or.inl ⟨rfl, rfl⟩⟩
  · have hlm : len ≤ m := by rw [hmm]; split <;> omega
    rw [hn] at hel
    have each : ∀ i, i < len → ∃ q : List Value × α, (∀ j, j < A.n → W.cell? (a.add (i * A.n + j)) = q.1[j]?) ∧ q.1.length = A.n ∧ A.Reads W q.1 q.2 := by
      intro i hi
      obtain ⟨cs', h1, h2⟩ := hel i (by omega)
      obtain ⟨-, hlen, hc⟩ := World.cells?_some h1
      obtain ⟨y, hy⟩ := h enc W base spare held n cs' _ h2
      refine ⟨(cs', y), fun j hj => ?_, hlen, hy⟩
      have := hc j hj
      rw [Addr.add_add] at this
      exact this
    by_cases hp : 0 < len
    · obtain ⟨b, off, spot⟩ := a
      obtain ⟨q0, c0, l0, -⟩ := each 0 hp
      have hc0 := c0 0 h0
      have hs0 : ∃ v, W.cell? ((⟨b, off, spot⟩ : Addr).add (0 * A.n + 0)) = some v := ⟨_, hc0.trans (List.getElem?_eq_getElem (by omega))⟩
      obtain ⟨v0, hv0⟩ := hs0
      have hspot : spot = none := by simpa [Addr.add] using World.cell?_spot hv0
      subst hspot
      have hbl : b < W.heap.size := by
        have := World.block_lt_of_cell? _ _ hv0
        simpa [Addr.add] using this
      have pick : ∃ f : (i : Nat) → i < len → List Value × α, ∀ i (hi : i < len), (∀ j, j < A.n → W.cell? ((⟨b, off, none⟩ : Addr).add (i * A.n + j)) = (f i hi).1[j]?) ∧ (f i hi).1.length = A.n ∧ A.Reads W (f i hi).1 (f i hi).2 :=
        ⟨fun i hi => Classical.choose (each i hi), fun i hi => Classical.choose_spec (each i hi)⟩
      obtain ⟨f, hf⟩ := pick
      have pick2 : ∃ g : (i : Nat) → i < len → List Nat, ∀ i (hi : i < len), A.lies W (f i hi).1 (f i hi).2 (g i hi) :=
        ⟨fun i hi => Classical.choose (hf i hi).2.2, fun i hi => Classical.choose_spec (hf i hi).2.2⟩
      obtain ⟨g, hg⟩ := pick2
      refine ⟨(List.finRange len).map (fun i => (f i.1 i.2).2), b :: ((List.finRange len).map (fun i => g i.1 i.2)).flatten, some ⟨b, off, none⟩, cap, by simp, ⟨by simpa using hl, by simp; unfold maxLen at hm; omega⟩, Or.inr ⟨b, off, (List.finRange len).map (fun i => (f i.1 i.2).1), (List.finRange len).map (fun i => g i.1 i.2), rfl, hbl, rfl, by simp, by simp, fun j h1 h2 h3 => ?_⟩⟩
      have hj : j < len := by simpa using h1
      refine ⟨fun k hk => ?_, ?_⟩
      · have := (hf j hj).1 k hk
        rw [Addr.add_lit] at this
        simpa [Nat.add_assoc] using this
      · simpa using hg j hj
    · obtain rfl : len = 0 := by omega
      exact ⟨[], [], some a, cap, rfl, ⟨hl, by simp⟩, Or.inl ⟨rfl, rfl⟩⟩

theorem open_arg {α : Type} {A : Lay α} {t : TypeId} (O : Opens A t) {H : Type} {enc : TypeId × Value → H} {W : World} {base : Nat} {spare : Nat → Bool} {held : Bool} {a : Option Addr} {len cap : Nat} {d : DataW H} {p : List MemPlace}
    (h : DataW.Trod enc Try.prog W base spare held t (.slice a len cap) d p) : ∃ y, A.Reads W [.slice a len cap] y := by
  obtain ⟨fuel, hf⟩ := h
  exact O enc W base spare held fuel _ _ (by simpa [Value.cells] using hf)
theorem open_arg_st {α : Type} {A : Lay α} {t : TypeId} (O : Opens A t) {H : Type} {enc : TypeId × Value → H} {W : World} {base : Nat} {spare : Nat → Bool} {held : Bool} {cs : Array Value} {d : DataW H} {p : List MemPlace}
    (h : DataW.Trod enc Try.prog W base spare held t (.agg cs) d p) : ∃ y, A.Reads W cs.toList y := by
  obtain ⟨fuel, hf⟩ := h
  exact O enc W base spare held fuel _ _ (by simpa [Value.cells] using hf)

end Go.Proofs.Ytkmfkaljdngigaa

namespace Go.Proofs.Ytkmfkaljdngigaa
open Go.RowKit

set_option maxRecDepth 10000 in
theorem opens_Write : Opens Lay.tWrite 24 := by
  intro H enc W base spare held fuel cs x h
  obtain ⟨xs, n, _, _, hlen, hl, hfi⟩ := DataW.trod_struct Try.underlying24 h
  rw [show Try.prog.cellsOf 24 = 5 by kernel_rfl] at hlen
  match cs, hlen with
  | [c0, c1, c2, c3, c4], _ =>
  match xs, hl with
  | [y0, y1, y2, y3, y4], _ =>
  have z0 : Try.prog.cellsOf 2 = 1 := by kernel_rfl
  have z1 : Try.prog.cellsOf 22 = 1 := by kernel_rfl
  have f0 : DataW.trod enc Try.prog W base spare held n 2 (([c0, c1, c2, c3, c4].drop 0).take (Try.prog.cellsOf 2)) = some y0 := hfi 0 _ rfl
  rw [z0] at f0
  obtain ⟨d0, r0⟩ := (opens_int Try.underlying2) enc W base spare held n _ _ f0
  have f1 : DataW.trod enc Try.prog W base spare held n 2 (([c0, c1, c2, c3, c4].drop 1).take (Try.prog.cellsOf 2)) = some y1 := hfi 1 _ rfl
  rw [z0] at f1
  obtain ⟨d1, r1⟩ := (opens_int Try.underlying2) enc W base spare held n _ _ f1
  have f2 : DataW.trod enc Try.prog W base spare held n 22 (([c0, c1, c2, c3, c4].drop 2).take (Try.prog.cellsOf 22)) = some y2 := hfi 2 _ rfl
  rw [z1] at f2
  obtain ⟨d2, r2⟩ := (opens_sl Try.underlying22 (by kernel_rfl) (by decide) (opens_int Try.underlying2)) enc W base spare held n _ _ f2
  have f3 : DataW.trod enc Try.prog W base spare held n 2 (([c0, c1, c2, c3, c4].drop 3).take (Try.prog.cellsOf 2)) = some y3 := hfi 3 _ rfl
  rw [z0] at f3
  obtain ⟨d3, r3⟩ := (opens_int Try.underlying2) enc W base spare held n _ _ f3
  have f4 : DataW.trod enc Try.prog W base spare held n 2 (([c0, c1, c2, c3, c4].drop 4).take (Try.prog.cellsOf 2)) = some y4 := hfi 4 _ rfl
  rw [z0] at f4
  obtain ⟨d4, r4⟩ := (opens_int Try.underlying2) enc W base spare held n _ _ f4
  exact ⟨⟨d0, d1, d2, d3, d4⟩, (reads_pair r0 (reads_pair r1 (reads_pair r2 (reads_pair r3 r4))))⟩

end Go.Proofs.Ytkmfkaljdngigaa

namespace Go.Proofs.Ytkmfkaljdngigaa
open Go.RowKit

set_option maxRecDepth 10000 in
theorem opens_Msg : Opens Lay.tMsg 26 := by
  intro H enc W base spare held fuel cs x h
  obtain ⟨xs, n, _, _, hlen, hl, hfi⟩ := DataW.trod_struct Try.underlying26 h
  rw [show Try.prog.cellsOf 26 = 10 by kernel_rfl] at hlen
  match cs, hlen with
  | [c0, c1, c2, c3, c4, c5, c6, c7, c8, c9], _ =>
  match xs, hl with
  | [y0, y1, y2, y3, y4, y5], _ =>
  have z0 : Try.prog.cellsOf 2 = 1 := by kernel_rfl
  have z1 : Try.prog.cellsOf 24 = 5 := by kernel_rfl
  have f0 : DataW.trod enc Try.prog W base spare held n 2 (([c0, c1, c2, c3, c4, c5, c6, c7, c8, c9].drop 0).take (Try.prog.cellsOf 2)) = some y0 := hfi 0 _ rfl
  rw [z0] at f0
  obtain ⟨d0, r0⟩ := (opens_int Try.underlying2) enc W base spare held n _ _ f0
  have f1 : DataW.trod enc Try.prog W base spare held n 2 (([c0, c1, c2, c3, c4, c5, c6, c7, c8, c9].drop 1).take (Try.prog.cellsOf 2)) = some y1 := hfi 1 _ rfl
  rw [z0] at f1
  obtain ⟨d1, r1⟩ := (opens_int Try.underlying2) enc W base spare held n _ _ f1
  have f2 : DataW.trod enc Try.prog W base spare held n 2 (([c0, c1, c2, c3, c4, c5, c6, c7, c8, c9].drop 2).take (Try.prog.cellsOf 2)) = some y2 := hfi 2 _ rfl
  rw [z0] at f2
  obtain ⟨d2, r2⟩ := (opens_int Try.underlying2) enc W base spare held n _ _ f2
  have f3 : DataW.trod enc Try.prog W base spare held n 2 (([c0, c1, c2, c3, c4, c5, c6, c7, c8, c9].drop 3).take (Try.prog.cellsOf 2)) = some y3 := hfi 3 _ rfl
  rw [z0] at f3
  obtain ⟨d3, r3⟩ := (opens_int Try.underlying2) enc W base spare held n _ _ f3
  have f4 : DataW.trod enc Try.prog W base spare held n 2 (([c0, c1, c2, c3, c4, c5, c6, c7, c8, c9].drop 4).take (Try.prog.cellsOf 2)) = some y4 := hfi 4 _ rfl
  rw [z0] at f4
  obtain ⟨d4, r4⟩ := (opens_int Try.underlying2) enc W base spare held n _ _ f4
  have f5 : DataW.trod enc Try.prog W base spare held n 24 (([c0, c1, c2, c3, c4, c5, c6, c7, c8, c9].drop 5).take (Try.prog.cellsOf 24)) = some y5 := hfi 5 _ rfl
  rw [z1] at f5
  obtain ⟨d5, r5⟩ := (opens_Write) enc W base spare held n _ _ f5
  exact ⟨⟨d0, d1, d2, d3, d4, d5⟩, (reads_pair r0 (reads_pair r1 (reads_pair r2 (reads_pair r3 (reads_pair r4 r5)))))⟩

end Go.Proofs.Ytkmfkaljdngigaa
