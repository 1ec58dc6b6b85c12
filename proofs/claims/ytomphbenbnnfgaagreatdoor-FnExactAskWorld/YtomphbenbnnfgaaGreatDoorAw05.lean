/-
  Texts of this proof in one: LawXAskWorld, AppInt, AppEntry, LayIntResult, LayWritesResult, SeqPlain, LayOnceResult, AppPlain, LayNodeResult, NodePlain, LayChainResult, LayTextResult, ReadPlain, NumPlain, ChainPlain, LayNetResult, SamePlain, NetPlain, NetsPlain.
  Their conditions stand in their theorems.
-/
import Derived.Test.YtomphbenbnnfgaaGreatDoorChecked
import Derived.Test.YtomphbenbnnfgaaGreatDoorAw01
import Derived.Test.YtomphbenbnnfgaaGreatDoorAw02
import Derived.Test.YtomphbenbnnfgaaGreatDoorAw03
import Derived.Test.YtomphbenbnnfgaaGreatDoorAw04
import Derived.Deep.RegionHeld3
import Derived.Deep.CutRange
import Derived.Test.YtomphbenbnnfgaaGreatDoorAw00
import Derived.Deep.AppendLies
import Derived.WalkKit
set_option maxRecDepth 100000
set_option maxHeartbeats 4000000
namespace Go.Proofs.YtomphbenbnnfgaaGreatDoor
open Go.RowKit
abbrev rP : Oper := ⟨some 6, .alloc 41, 0, "exact.go:4488", #[], none⟩
abbrev te : Oper := ⟨some 13, .alloc 41, 0, "exact.go:4517", #[], none⟩
theorem cG {lo : Nat} {T : TypeId} {W : World} {s : Nat} {z0 z1 z2 z3 z4 z5 z6 z7 z8 : Value} (h : aA lo #[z0, z1, z2, z3, z4, z5, z6, z7, z8] T W s) (v0 v1 v2 v3 v4 v5 v6 v7 v8 : Value) : aA lo #[v0, v1, v2, v3, v4, v5, v6, v7, v8] T (aG W s 0 [v0, v1, v2, v3, v4, v5, v6, v7, v8]) s := by
 have q := (((((((((h.set 0 v0).set 1 v1).set 2 v2).set 3 v3).set 4 v4).set 5 v5).set 6 v6).set 7 v7).set 8 v8)
 simp only [List.setIfInBounds_toArray, List.set_cons_zero, List.set_cons_succ] at q
 exact q
theorem kK (u0 : List Value) (x0 : ay) (u1 : List Value) (x1 : aj) (y : bk) (w : World) (A0 : ab.aF.Reads w u0 x0) (A1 : ab.ag.Reads w u1 x1) (NS : ab.aF.sz x0 + ab.ag.sz x1 ≤ 1048576) (ht : ix w)
  (hS : ∀ (W : World) (u0 : List Value) (u1 : List Value), ix W → ab.aF.Reads W u0 x0 → ab.ag.Reads W u1 x1 → Calls Tryz.prog 9 #[.agg u0.toArray, .agg u1.toArray] W fun e w' => ∃ cs, e = .returned (.agg cs.toArray) ∧ ab.aE.cr w' cs y W.heap.size w'.heap.size ∧ Below W.heap.size W w')
  (hI : ∀ (W : World) (u0 : List Value) (u1 : List Value), ix W → ab.aF.Reads W u0 x0 → ab.ag.Reads W u1 x1 → Calls Tryz.prog 12 #[.agg u0.toArray, .agg u1.toArray] W fun e w' => ∃ cs, e = .returned (.agg cs.toArray) ∧ ab.aE.aN w' cs y W.heap.size w'.heap.size ∧ Below W.heap.size W w') (hc : ab.aE.ak y ≤ 100000000) :
  Calls Tryz.prog 3 #[.agg u0.toArray, .agg u1.toArray] w fun e w' => e = .returned (.bool true) ∧ Below w.heap.size w w' := by
 obtain ⟨a3p0, d3p0, a4p0, d4p0, a5p0, d5p0, a6p0, d6p0, rfl, -, -, -, -⟩ := aK A0
 obtain ⟨a2p1, d2p1, rfl, -⟩ := aM A1
 have HS := yh hS
 have HI := yh hI
 clear hS hI
 have HA0 := yh A0.dd
 clear A0
 have HA1 := yh A1.dd
 clear A1
 have N0 : ab.aF.sz x0 ≤ 1048576 := by omega
 have N1 : ab.ag.sz x1 ≤ 1048576 := by omega
 have HN0 := yh N0
 have HN1 := yh N1
 clear N0 N1
 have HC := yh hc
 clear hc
 have HNS := yh NS
 clear NS
 have HT := yh ht
 clear ht
 have HB := yh (Below.refl w.heap.size w)
 go_enter Tryz.func3, Tryz.ntmps3
 go_wp2_with fail
 have nb : Below w.heap.size w ((w.alloc (.cells #[.int .i64 x0.now, .int .i64 x0.events, .int .i64 x0.chain.ae, .slice a3p0 x0.chain.ids.length d3p0, .slice a4p0 x0.nodes.length d4p0, .slice a5p0 x0.msgs.length d5p0, .slice a6p0 x0.af.length d6p0] 29)).alloc (.cells #[.int .i64 x1.kind, .int .i64 x1.id, .slice a2p1 x1.vec.length d2p1, .int .i64 x1.aa, .int .i64 x1.seq] 31)) := ((Below.refl w.heap.size w).alloc (Nat.le_refl _) _).alloc (by simp) _
 have P0 : Hid (aA w.heap.size #[.int .i64 x0.now, .int .i64 x0.events, .int .i64 x0.chain.ae, .slice a3p0 x0.chain.ids.length d3p0, .slice a4p0 x0.nodes.length d4p0, .slice a5p0 x0.msgs.length d5p0, .slice a6p0 x0.af.length d6p0] 29 ((w.alloc (.cells #[.int .i64 x0.now, .int .i64 x0.events, .int .i64 x0.chain.ae, .slice a3p0 x0.chain.ids.length d3p0, .slice a4p0 x0.nodes.length d4p0, .slice a5p0 x0.msgs.length d5p0, .slice a6p0 x0.af.length d6p0] 29)).alloc (.cells #[.int .i64 x1.kind, .int .i64 x1.id, .slice a2p1 x1.vec.length d2p1, .int .i64 x1.aa, .int .i64 x1.seq] 31)) (w.heap.size)) := (bm (by omega) (by simp)).grow _
 have P1 : Hid (aA w.heap.size #[.int .i64 x1.kind, .int .i64 x1.id, .slice a2p1 x1.vec.length d2p1, .int .i64 x1.aa, .int .i64 x1.seq] 31 ((w.alloc (.cells #[.int .i64 x0.now, .int .i64 x0.events, .int .i64 x0.chain.ae, .slice a3p0 x0.chain.ids.length d3p0, .slice a4p0 x0.nodes.length d4p0, .slice a5p0 x0.msgs.length d5p0, .slice a6p0 x0.af.length d6p0] 29)).alloc (.cells #[.int .i64 x1.kind, .int .i64 x1.id, .slice a2p1 x1.vec.length d2p1, .int .i64 x1.aa, .int .i64 x1.seq] 31)) (w.heap.size + 1)) := bm (by omega) (by simp)
 generalize haw1 : ((w.alloc (.cells #[.int .i64 x0.now, .int .i64 x0.events, .int .i64 x0.chain.ae, .slice a3p0 x0.chain.ids.length d3p0, .slice a4p0 x0.nodes.length d4p0, .slice a5p0 x0.msgs.length d5p0, .slice a6p0 x0.af.length d6p0] 29)).alloc (.cells #[.int .i64 x1.kind, .int .i64 x1.id, .slice a2p1 x1.vec.length d2p1, .int .i64 x1.aa, .int .i64 x1.seq] 31)) = w1 at *
 have Gw1 : w.heap.size + 2 ≤ w1.heap.size := by rw [← haw1]; simp
 clear haw1
 replace HA0 := yh ((uh HA0).later nb)
 replace HA1 := yh ((uh HA1).later nb)
 have Zw1 : w.heap.size ≤ w1.heap.size := nb.size
 replace HB := yh ((uh HB).trans (nb.mono (by omega)))
 clear nb
 have hns := uh HNS
 refine (nE _ x0 (1048576) w1 (uh HA0).reads (by omega)).mono ?_
 rintro e w2 ⟨rfl, hb⟩
 replace HA0 := yh ((uh HA0).later hb)
 replace HA1 := yh ((uh HA1).later hb)
 replace P0 := yh ((uh P0).ai hb)
 replace P1 := yh ((uh P1).ai hb)
 have Zw2 : w1.heap.size ≤ w2.heap.size := hb.size
 replace HB := yh ((uh HB).trans (hb.mono (by omega)))
 clear hb
 rw [cg (by omega)]
 have hq0 : decide (((1048576 - ab.aF.sz x0 : Nat) : Int) < 0) = false := by simp
 clear hns
 have l0P0 := (uh P0).at 0 _ rfl
 have l1P0 := (uh P0).at 1 _ rfl
 have l2P0 := (uh P0).at 2 _ rfl
 have l3P0 := (uh P0).at 3 _ rfl
 have l4P0 := (uh P0).at 4 _ rfl
 have l5P0 := (uh P0).at 5 _ rfl
 have l6P0 := (uh P0).at 6 _ rfl
 have ltP0 : w.heap.size < w2.heap.size := by omega
 have l0P1 := (uh P1).at 0 _ rfl
 have l1P1 := (uh P1).at 1 _ rfl
 have l2P1 := (uh P1).at 2 _ rfl
 have l3P1 := (uh P1).at 3 _ rfl
 have l4P1 := (uh P1).at 4 _ rfl
 have ltP1 : w.heap.size + 1 < w2.heap.size := by omega
 simp only [ga, gb, gc] at l0P0 l1P0 l2P0 l3P0 l4P0 l5P0 l6P0 l0P1 l1P1 l2P1 l3P1 l4P1
 go_wp2_with fail
 clear l0P0 l1P0 l2P0 l3P0 l4P0 l5P0 l6P0 ltP0 l0P1 l1P1 l2P1 l3P1 l4P1 ltP1
 clear hq0
 have hns := uh HNS
 refine (gY _ x1 (1048576 - ab.aF.sz x0) w2 (uh HA1).reads (by omega)).mono ?_
 rintro e w3 ⟨rfl, hb⟩
 replace HA0 := yh ((uh HA0).later hb)
 replace HA1 := yh ((uh HA1).later hb)
 replace P0 := yh ((uh P0).ai hb)
 replace P1 := yh ((uh P1).ai hb)
 have Zw3 : w2.heap.size ≤ w3.heap.size := hb.size
 replace HB := yh ((uh HB).trans (hb.mono (by omega)))
 clear hb
 rw [cg (by omega)]
 have hq1 : decide (((1048576 - ab.aF.sz x0 - ab.ag.sz x1 : Nat) : Int) < 0) = false := by simp
 clear hns
 have l0P0 := (uh P0).at 0 _ rfl
 have l1P0 := (uh P0).at 1 _ rfl
 have l2P0 := (uh P0).at 2 _ rfl
 have l3P0 := (uh P0).at 3 _ rfl
 have l4P0 := (uh P0).at 4 _ rfl
 have l5P0 := (uh P0).at 5 _ rfl
 have l6P0 := (uh P0).at 6 _ rfl
 have ltP0 : w.heap.size < w3.heap.size := by omega
 have l0P1 := (uh P1).at 0 _ rfl
 have l1P1 := (uh P1).at 1 _ rfl
 have l2P1 := (uh P1).at 2 _ rfl
 have l3P1 := (uh P1).at 3 _ rfl
 have l4P1 := (uh P1).at 4 _ rfl
 have ltP1 : w.heap.size + 1 < w3.heap.size := by omega
 simp only [ga, gb, gc] at l0P0 l1P0 l2P0 l3P0 l4P0 l5P0 l6P0 l0P1 l1P1 l2P1 l3P1 l4P1
 go_upto_region 8 with fail
 clear l0P0 l1P0 l2P0 l3P0 l4P0 l5P0 l6P0 ltP0 l0P1 l1P1 l2P1 l3P1 l4P1 ltP1
 clear hq1
 have l0P0 := (uh P0).at 0 _ rfl
 have l1P0 := (uh P0).at 1 _ rfl
 have l2P0 := (uh P0).at 2 _ rfl
 have l3P0 := (uh P0).at 3 _ rfl
 have l4P0 := (uh P0).at 4 _ rfl
 have l5P0 := (uh P0).at 5 _ rfl
 have l6P0 := (uh P0).at 6 _ rfl
 have ltP0 : w.heap.size < w3.heap.size := by omega
 have l0P1 := (uh P1).at 0 _ rfl
 have l1P1 := (uh P1).at 1 _ rfl
 have l2P1 := (uh P1).at 2 _ rfl
 have l3P1 := (uh P1).at 3 _ rfl
 have l4P1 := (uh P1).at 4 _ rfl
 have ltP1 : w.heap.size + 1 < w3.heap.size := by omega
 simp only [ga, gb, gc] at l0P0 l1P0 l2P0 l3P0 l4P0 l5P0 l6P0 l0P1 l1P1 l2P1 l3P1 l4P1
 go_cut [6] from 24 to 28 (fun sL wx => ∃ (s0 : Nat) (a5W : Option Addr) (d5W : Nat) (a6W : Option Addr) (d6W : Nat) (a7W : Option Addr) (d7W : Nat) (a8W : Option Addr) (d8W : Nat), sL = .pointer (some ⟨s0, 0, none⟩) ∧ s0 < wx.heap.size ∧ aA w3.heap.size #[.int .i64 y.code, .bool y.aZ, .int .i64 y.world.now, .int .i64 y.world.events, .int .i64 y.world.chain.ae, .slice a5W y.world.chain.ids.length d5W, .slice a6W y.world.nodes.length d6W, .slice a7W y.world.msgs.length d7W, .slice a8W y.world.af.length d8W] 41 wx s0 ∧ ab.aE.Reads wx [.int .i64 y.code, .bool y.aZ, .int .i64 y.world.now, .int .i64 y.world.events, .int .i64 y.world.chain.ae, .slice a5W y.world.chain.ids.length d5W, .slice a6W y.world.nodes.length d6W, .slice a7W y.world.msgs.length d7W, .slice a8W y.world.af.length d8W] y ∧ Below w3.heap.size w3 wx)
 case first =>
  refine wZz (fun w' => Below w3.heap.size w3 w') (Below.refl _ _).drew (fun zq => ?_)
  generalize w3.drew = X0 at zq ⊢
  refine tkJ 0 (v := ?v0_1) ?h0_1 zq ?r0_1
  case h0_1 =>
   intro wS hSw
   have y0P0 := cZ hSw ltP0 l0P0
   have y1P0 := cZ hSw ltP0 l1P0
   have y2P0 := cZ hSw ltP0 l2P0
   have y3P0 := cZ hSw ltP0 l3P0
   have y4P0 := cZ hSw ltP0 l4P0
   have y5P0 := cZ hSw ltP0 l5P0
   have y6P0 := cZ hSw ltP0 l6P0
   have y0P1 := (hSw.cell (p := ⟨w.heap.size + 1, 0, none⟩) ltP1).trans l0P1
   have y1P1 := (hSw.cell (p := ⟨w.heap.size + 1, 1, none⟩) ltP1).trans l1P1
   have y2P1 := (hSw.cell (p := ⟨w.heap.size + 1, 2, none⟩) ltP1).trans l2P1
   have y3P1 := (hSw.cell (p := ⟨w.heap.size + 1, 3, none⟩) ltP1).trans l3P1
   have y4P1 := (hSw.cell (p := ⟨w.heap.size + 1, 4, none⟩) ltP1).trans l4P1
   clear hSw
   exact fZ
  refine tkJ 2 (v := ?v2_2) ?h2_2 zq ?r2_2
  case h2_2 =>
   intro wS hSw
   have y0P0 := cZ hSw ltP0 l0P0
   have y1P0 := cZ hSw ltP0 l1P0
   have y2P0 := cZ hSw ltP0 l2P0
   have y3P0 := cZ hSw ltP0 l3P0
   have y4P0 := cZ hSw ltP0 l4P0
   have y5P0 := cZ hSw ltP0 l5P0
   have y6P0 := cZ hSw ltP0 l6P0
   have y0P1 := (hSw.cell (p := ⟨w.heap.size + 1, 0, none⟩) ltP1).trans l0P1
   have y1P1 := (hSw.cell (p := ⟨w.heap.size + 1, 1, none⟩) ltP1).trans l1P1
   have y2P1 := (hSw.cell (p := ⟨w.heap.size + 1, 2, none⟩) ltP1).trans l2P1
   have y3P1 := (hSw.cell (p := ⟨w.heap.size + 1, 3, none⟩) ltP1).trans l3P1
   have y4P1 := (hSw.cell (p := ⟨w.heap.size + 1, 4, none⟩) ltP1).trans l4P1
   clear hSw
   exact fZ
  refine wpAnyH_ready (rs := [1, 5]) (by kernel_rfl) (by simp) ?_
  refine AllReadyH.cons (o := ⟨some 25, .call { callee := .value (.func 10), args := #[.tmp 24], argTypes := #[29] }, 39, "exact.go:4488", #[⟨0, .data⟩], none⟩) rfl (fun K hK => ?_) (AllReadyH.cons (o := rP) rfl (fun K hK => ?_) AllReadyH.nil)
  ·
   go_simp
   go_at_call 10
   refine (fw _ x0 _ ((uh HA0).reads.later zq) (uh HN0)).mono ?_
   rintro e X3 ⟨vT0, rfl, OT, hbw⟩
   have rt0 := OT.reads
   obtain ⟨a3T0, d3T0, a4T0, d4T0, a5T0, d5T0, a6T0, d6T0, rfl, -, -, -, -⟩ := aK rt0
   clear OT
   try go_wp2_with fail
   refine hK.out _ _ (zq.trans (hbw.mono zq.size)) (fun zq => ?_)
   clear hK K hbw
   try simp only [Act.put, pz, py, px]
   refine wpAnyH_ready (rs := [3, 5]) (by kernel_rfl) (by simp) ?_
   refine AllReadyH.cons (o := ⟨some 27, .call { callee := .value (.func 11), args := #[.tmp 26], argTypes := #[31] }, 44, "exact.go:4488", #[⟨2, .data⟩, ⟨1, .chain⟩], none⟩) rfl (fun K hK => ?_) (AllReadyH.cons (o := rP) rfl (fun K hK => ?_) AllReadyH.nil)
   ·
    go_simp
    go_at_call 11
    refine (dP _ x1 _ ((uh HA1).reads.later zq) (uh HN1)).mono ?_
    rintro e X4 ⟨vT1, rfl, OT, hbw⟩
    have rt1 := OT.reads
    obtain ⟨a2T1, d2T1, rfl, -⟩ := aM rt1
    replace rt0 := rt0.later hbw
    clear OT
    try go_wp2_with fail
    refine hK.out _ _ (zq.trans (hbw.mono zq.size)) (fun zq => ?_)
    clear hK K hbw
    try simp only [Act.put, pz, py, px]
    refine wpAnyH_ready (rs := [4, 5]) (by kernel_rfl) (by simp) ?_
    refine AllReadyH.cons (o := ⟨some 28, .call { callee := .value (.func 9), args := #[.tmp 25, .tmp 27], argTypes := #[39, 44] }, 41, "exact.go:4488", #[⟨1, .data⟩, ⟨3, .data⟩, ⟨3, .chain⟩], none⟩) rfl (fun K hK => ?_) (AllReadyH.cons (o := rP) rfl (fun K hK => ?_) AllReadyH.nil)
    ·
     go_simp
     go_at_call 9
     refine (uh HS _ _ _ (((uh HT).later (uh HB)).later zq) rt0 rt1).mono ?_
     rintro e X5 ⟨cs, rfl, O, hbw⟩
     obtain ⟨a5W, d5W, a6W, d6W, a7W, d7W, a8W, d8W, rfl, -⟩ := br O.reads
     have hz9 := hbw.size
     have rd := O
     clear O
     try go_wp2_with fail
     refine hK.out _ _ (zq.trans (hbw.mono zq.size)) (fun zq => ?_)
     clear hK K hbw hz9
     try simp only [Act.put, pz, py, px]
     clear rt0 rt1
     refine rdH 5 (fun K hK => ?_)
     have bx : aA w3.heap.size #[.int .i64 0, .bool false, .int .i64 0, .int .i64 0, .int .i64 0, .slice none 0 0, .slice none 0 0, .slice none 0 0, .slice none 0 0] 41 (X5.alloc (.cells #[.int .i64 0, .bool false, .int .i64 0, .int .i64 0, .int .i64 0, .slice none 0 0, .slice none 0 0, .slice none 0 0, .slice none 0 0] 41)) X5.heap.size := aD zq.size
     have nbA : Below X5.heap.size X5 (X5.alloc (.cells #[.int .i64 0, .bool false, .int .i64 0, .int .i64 0, .int .i64 0, .slice none 0 0, .slice none 0 0, .slice none 0 0, .slice none 0 0] 41)) := (Below.refl _ _).alloc (Nat.le_refl _) _
     replace rd := rd.later nbA
     have hNx := zq.trans (nbA.mono zq.size)
     go_simp
     refine hK.out _ _ hNx (fun zq => ?_)
     clear hK K hNx nbA
     try simp only [Act.put, pz, py, px]
     generalize X5.alloc (.cells #[.int .i64 0, .bool false, .int .i64 0, .int .i64 0, .int .i64 0, .slice none 0 0, .slice none 0 0, .slice none 0 0, .slice none 0 0] 41) = X6 at *
     refine rdH 6 (fun K hK => ?_)
     have z0 : X6.cell? ⟨X5.heap.size, 0, none⟩ = some (.int .i64 0) := bx.at 0 _ rfl
     have f0 := bx.soft 0
     have z1 : X6.cell? ⟨X5.heap.size, 1, none⟩ = some (.bool false) := bx.at 1 _ rfl
     have f1 := bx.soft 1
     have z2 : X6.cell? ⟨X5.heap.size, 2, none⟩ = some (.int .i64 0) := bx.at 2 _ rfl
     have f2 := bx.soft 2
     have z3 : X6.cell? ⟨X5.heap.size, 3, none⟩ = some (.int .i64 0) := bx.at 3 _ rfl
     have f3 := bx.soft 3
     have z4 : X6.cell? ⟨X5.heap.size, 4, none⟩ = some (.int .i64 0) := bx.at 4 _ rfl
     have f4 := bx.soft 4
     have z5 : X6.cell? ⟨X5.heap.size, 5, none⟩ = some (.slice none 0 0) := bx.at 5 _ rfl
     have f5 := bx.soft 5
     have z6 : X6.cell? ⟨X5.heap.size, 6, none⟩ = some (.slice none 0 0) := bx.at 6 _ rfl
     have f6 := bx.soft 6
     have z7 : X6.cell? ⟨X5.heap.size, 7, none⟩ = some (.slice none 0 0) := bx.at 7 _ rfl
     have f7 := bx.soft 7
     have z8 : X6.cell? ⟨X5.heap.size, 8, none⟩ = some (.slice none 0 0) := bx.at 8 _ rfl
     have f8 := bx.soft 8
     have l0 := bx.lt
     have bx9 : aA w3.heap.size #[.int .i64 y.code, .bool y.aZ, .int .i64 y.world.now, .int .i64 y.world.events, .int .i64 y.world.chain.ae, .slice a5W y.world.chain.ids.length d5W, .slice a6W y.world.nodes.length d6W, .slice a7W y.world.msgs.length d7W, .slice a8W y.world.af.length d8W] 41 (aG X6 X5.heap.size 0 [.int .i64 y.code, .bool y.aZ, .int .i64 y.world.now, .int .i64 y.world.events, .int .i64 y.world.chain.ae, .slice a5W y.world.chain.ids.length d5W, .slice a6W y.world.nodes.length d6W, .slice a7W y.world.msgs.length d7W, .slice a8W y.world.af.length d8W]) X5.heap.size := cG bx _ _ _ _ _ _ _ _ _
     have hE9 : Ext (fun c => c = X5.heap.size) X6 (aG X6 X5.heap.size 0 [.int .i64 y.code, .bool y.aZ, .int .i64 y.world.now, .int .i64 y.world.events, .int .i64 y.world.chain.ae, .slice a5W y.world.chain.ids.length d5W, .slice a6W y.world.nodes.length d6W, .slice a7W y.world.msgs.length d7W, .slice a8W y.world.af.length d8W]) := bb _ (Ext.refl _ _) _ _ _ rfl
     have rd9 := (rd.ext hE9 (fun c h1 h2 h3 => by omega)).reads
     have hH9 : Below w3.heap.size w3 (aG X6 X5.heap.size 0 [.int .i64 y.code, .bool y.aZ, .int .i64 y.world.now, .int .i64 y.world.events, .int .i64 y.world.chain.ae, .slice a5W y.world.chain.ids.length d5W, .slice a6W y.world.nodes.length d6W, .slice a7W y.world.msgs.length d7W, .slice a8W y.world.af.length d8W]) := aB zq _ _ _ (by simpa using bx.1)
     clear bx rd hE9
     have bx := bx9
     have rd := rd9
     clear bx9 rd9
     go_simp
     refine hK.out _ _ hH9 (fun zq => ?_)
     clear hK K hH9 l0 z0 f0 z1 f1 z2 f2 z3 f3 z4 f4 z5 f5 z6 f6 z7 f7 z8 f8
     try simp only [Act.put, pz, py, px]
     refine dZ ?_
     have HH := yh zq
     have HBX := yh bx
     have HRD := yh rd
     clear zq bx rd
     go_wp2_with fail
     go_meet
     exact ⟨_, _, _, _, _, _, _, _, _, rfl, (uh HBX).lt, uh HBX, uh HRD, uh HH⟩
    have bx : aA w3.heap.size #[.int .i64 0, .bool false, .int .i64 0, .int .i64 0, .int .i64 0, .slice none 0 0, .slice none 0 0, .slice none 0 0, .slice none 0 0] 41 (X4.alloc (.cells #[.int .i64 0, .bool false, .int .i64 0, .int .i64 0, .int .i64 0, .slice none 0 0, .slice none 0 0, .slice none 0 0, .slice none 0 0] 41)) X4.heap.size := aD zq.size
    have nbA : Below X4.heap.size X4 (X4.alloc (.cells #[.int .i64 0, .bool false, .int .i64 0, .int .i64 0, .int .i64 0, .slice none 0 0, .slice none 0 0, .slice none 0 0, .slice none 0 0] 41)) := (Below.refl _ _).alloc (Nat.le_refl _) _
    replace rt0 := rt0.later nbA
    replace rt1 := rt1.later nbA
    have hNx := zq.trans (nbA.mono zq.size)
    go_simp
    refine hK.out _ _ hNx (fun zq => ?_)
    clear hK K hNx nbA
    try simp only [Act.put, pz, py, px]
    generalize X4.alloc (.cells #[.int .i64 0, .bool false, .int .i64 0, .int .i64 0, .int .i64 0, .slice none 0 0, .slice none 0 0, .slice none 0 0, .slice none 0 0] 41) = X8 at *
    refine rdH 4 (fun K hK => ?_)
    go_simp
    go_at_call 9
    refine (uh HS _ _ _ (((uh HT).later (uh HB)).later zq) rt0 rt1).mono ?_
    rintro e X9 ⟨cs, rfl, O, hbw⟩
    obtain ⟨a5W, d5W, a6W, d6W, a7W, d7W, a8W, d8W, rfl, -⟩ := br O.reads
    have hs0 := bx.lt
    replace bx := bx.ai hbw
    have hz9 := hbw.size
    have rd := O
    clear O
    replace rd := rd.mono (lo' := X4.heap.size + 1) (by omega) (Nat.le_refl _)
    clear hs0
    try go_wp2_with fail
    refine hK.out _ _ (zq.trans (hbw.mono zq.size)) (fun zq => ?_)
    clear hK K hbw hz9
    try simp only [Act.put, pz, py, px]
    clear rt0 rt1
    refine rdH 6 (fun K hK => ?_)
    have z0 : X9.cell? ⟨X4.heap.size, 0, none⟩ = some (.int .i64 0) := bx.at 0 _ rfl
    have f0 := bx.soft 0
    have z1 : X9.cell? ⟨X4.heap.size, 1, none⟩ = some (.bool false) := bx.at 1 _ rfl
    have f1 := bx.soft 1
    have z2 : X9.cell? ⟨X4.heap.size, 2, none⟩ = some (.int .i64 0) := bx.at 2 _ rfl
    have f2 := bx.soft 2
    have z3 : X9.cell? ⟨X4.heap.size, 3, none⟩ = some (.int .i64 0) := bx.at 3 _ rfl
    have f3 := bx.soft 3
    have z4 : X9.cell? ⟨X4.heap.size, 4, none⟩ = some (.int .i64 0) := bx.at 4 _ rfl
    have f4 := bx.soft 4
    have z5 : X9.cell? ⟨X4.heap.size, 5, none⟩ = some (.slice none 0 0) := bx.at 5 _ rfl
    have f5 := bx.soft 5
    have z6 : X9.cell? ⟨X4.heap.size, 6, none⟩ = some (.slice none 0 0) := bx.at 6 _ rfl
    have f6 := bx.soft 6
    have z7 : X9.cell? ⟨X4.heap.size, 7, none⟩ = some (.slice none 0 0) := bx.at 7 _ rfl
    have f7 := bx.soft 7
    have z8 : X9.cell? ⟨X4.heap.size, 8, none⟩ = some (.slice none 0 0) := bx.at 8 _ rfl
    have f8 := bx.soft 8
    have l0 := bx.lt
    have bx9 : aA w3.heap.size #[.int .i64 y.code, .bool y.aZ, .int .i64 y.world.now, .int .i64 y.world.events, .int .i64 y.world.chain.ae, .slice a5W y.world.chain.ids.length d5W, .slice a6W y.world.nodes.length d6W, .slice a7W y.world.msgs.length d7W, .slice a8W y.world.af.length d8W] 41 (aG X9 X4.heap.size 0 [.int .i64 y.code, .bool y.aZ, .int .i64 y.world.now, .int .i64 y.world.events, .int .i64 y.world.chain.ae, .slice a5W y.world.chain.ids.length d5W, .slice a6W y.world.nodes.length d6W, .slice a7W y.world.msgs.length d7W, .slice a8W y.world.af.length d8W]) X4.heap.size := cG bx _ _ _ _ _ _ _ _ _
    have hE9 : Ext (fun c => c = X4.heap.size) X9 (aG X9 X4.heap.size 0 [.int .i64 y.code, .bool y.aZ, .int .i64 y.world.now, .int .i64 y.world.events, .int .i64 y.world.chain.ae, .slice a5W y.world.chain.ids.length d5W, .slice a6W y.world.nodes.length d6W, .slice a7W y.world.msgs.length d7W, .slice a8W y.world.af.length d8W]) := bb _ (Ext.refl _ _) _ _ _ rfl
    have rd9 := (rd.ext hE9 (fun c h1 h2 h3 => by omega)).reads
    have hH9 : Below w3.heap.size w3 (aG X9 X4.heap.size 0 [.int .i64 y.code, .bool y.aZ, .int .i64 y.world.now, .int .i64 y.world.events, .int .i64 y.world.chain.ae, .slice a5W y.world.chain.ids.length d5W, .slice a6W y.world.nodes.length d6W, .slice a7W y.world.msgs.length d7W, .slice a8W y.world.af.length d8W]) := aB zq _ _ _ (by simpa using bx.1)
    clear bx rd hE9
    have bx := bx9
    have rd := rd9
    clear bx9 rd9
    go_simp
    refine hK.out _ _ hH9 (fun zq => ?_)
    clear hK K hH9 l0 z0 f0 z1 f1 z2 f2 z3 f3 z4 f4 z5 f5 z6 f6 z7 f7 z8 f8
    try simp only [Act.put, pz, py, px]
    refine dZ ?_
    have HH := yh zq
    have HBX := yh bx
    have HRD := yh rd
    clear zq bx rd
    go_wp2_with fail
    go_meet
    exact ⟨_, _, _, _, _, _, _, _, _, rfl, (uh HBX).lt, uh HBX, uh HRD, uh HH⟩
   have bx : aA w3.heap.size #[.int .i64 0, .bool false, .int .i64 0, .int .i64 0, .int .i64 0, .slice none 0 0, .slice none 0 0, .slice none 0 0, .slice none 0 0] 41 (X3.alloc (.cells #[.int .i64 0, .bool false, .int .i64 0, .int .i64 0, .int .i64 0, .slice none 0 0, .slice none 0 0, .slice none 0 0, .slice none 0 0] 41)) X3.heap.size := aD zq.size
   have nbA : Below X3.heap.size X3 (X3.alloc (.cells #[.int .i64 0, .bool false, .int .i64 0, .int .i64 0, .int .i64 0, .slice none 0 0, .slice none 0 0, .slice none 0 0, .slice none 0 0] 41)) := (Below.refl _ _).alloc (Nat.le_refl _) _
   replace rt0 := rt0.later nbA
   have hNx := zq.trans (nbA.mono zq.size)
   go_simp
   refine hK.out _ _ hNx (fun zq => ?_)
   clear hK K hNx nbA
   try simp only [Act.put, pz, py, px]
   generalize X3.alloc (.cells #[.int .i64 0, .bool false, .int .i64 0, .int .i64 0, .int .i64 0, .slice none 0 0, .slice none 0 0, .slice none 0 0, .slice none 0 0] 41) = X11 at *
   refine rdH 3 (fun K hK => ?_)
   go_simp
   go_at_call 11
   refine (dP _ x1 _ ((uh HA1).reads.later zq) (uh HN1)).mono ?_
   rintro e X12 ⟨vT1, rfl, OT, hbw⟩
   have rt1 := OT.reads
   obtain ⟨a2T1, d2T1, rfl, -⟩ := aM rt1
   replace rt0 := rt0.later hbw
   replace bx := bx.ai hbw
   clear OT
   try go_wp2_with fail
   refine hK.out _ _ (zq.trans (hbw.mono zq.size)) (fun zq => ?_)
   clear hK K hbw
   try simp only [Act.put, pz, py, px]
   refine rdH 4 (fun K hK => ?_)
   go_simp
   go_at_call 9
   refine (uh HS _ _ _ (((uh HT).later (uh HB)).later zq) rt0 rt1).mono ?_
   rintro e X13 ⟨cs, rfl, O, hbw⟩
   obtain ⟨a5W, d5W, a6W, d6W, a7W, d7W, a8W, d8W, rfl, -⟩ := br O.reads
   have hs0 := bx.lt
   replace bx := bx.ai hbw
   have hz9 := hbw.size
   have rd := O
   clear O
   replace rd := rd.mono (lo' := X3.heap.size + 1) (by omega) (Nat.le_refl _)
   clear hs0
   try go_wp2_with fail
   refine hK.out _ _ (zq.trans (hbw.mono zq.size)) (fun zq => ?_)
   clear hK K hbw hz9
   try simp only [Act.put, pz, py, px]
   clear rt0 rt1
   refine rdH 6 (fun K hK => ?_)
   have z0 : X13.cell? ⟨X3.heap.size, 0, none⟩ = some (.int .i64 0) := bx.at 0 _ rfl
   have f0 := bx.soft 0
   have z1 : X13.cell? ⟨X3.heap.size, 1, none⟩ = some (.bool false) := bx.at 1 _ rfl
   have f1 := bx.soft 1
   have z2 : X13.cell? ⟨X3.heap.size, 2, none⟩ = some (.int .i64 0) := bx.at 2 _ rfl
   have f2 := bx.soft 2
   have z3 : X13.cell? ⟨X3.heap.size, 3, none⟩ = some (.int .i64 0) := bx.at 3 _ rfl
   have f3 := bx.soft 3
   have z4 : X13.cell? ⟨X3.heap.size, 4, none⟩ = some (.int .i64 0) := bx.at 4 _ rfl
   have f4 := bx.soft 4
   have z5 : X13.cell? ⟨X3.heap.size, 5, none⟩ = some (.slice none 0 0) := bx.at 5 _ rfl
   have f5 := bx.soft 5
   have z6 : X13.cell? ⟨X3.heap.size, 6, none⟩ = some (.slice none 0 0) := bx.at 6 _ rfl
   have f6 := bx.soft 6
   have z7 : X13.cell? ⟨X3.heap.size, 7, none⟩ = some (.slice none 0 0) := bx.at 7 _ rfl
   have f7 := bx.soft 7
   have z8 : X13.cell? ⟨X3.heap.size, 8, none⟩ = some (.slice none 0 0) := bx.at 8 _ rfl
   have f8 := bx.soft 8
   have l0 := bx.lt
   have bx9 : aA w3.heap.size #[.int .i64 y.code, .bool y.aZ, .int .i64 y.world.now, .int .i64 y.world.events, .int .i64 y.world.chain.ae, .slice a5W y.world.chain.ids.length d5W, .slice a6W y.world.nodes.length d6W, .slice a7W y.world.msgs.length d7W, .slice a8W y.world.af.length d8W] 41 (aG X13 X3.heap.size 0 [.int .i64 y.code, .bool y.aZ, .int .i64 y.world.now, .int .i64 y.world.events, .int .i64 y.world.chain.ae, .slice a5W y.world.chain.ids.length d5W, .slice a6W y.world.nodes.length d6W, .slice a7W y.world.msgs.length d7W, .slice a8W y.world.af.length d8W]) X3.heap.size := cG bx _ _ _ _ _ _ _ _ _
   have hE9 : Ext (fun c => c = X3.heap.size) X13 (aG X13 X3.heap.size 0 [.int .i64 y.code, .bool y.aZ, .int .i64 y.world.now, .int .i64 y.world.events, .int .i64 y.world.chain.ae, .slice a5W y.world.chain.ids.length d5W, .slice a6W y.world.nodes.length d6W, .slice a7W y.world.msgs.length d7W, .slice a8W y.world.af.length d8W]) := bb _ (Ext.refl _ _) _ _ _ rfl
   have rd9 := (rd.ext hE9 (fun c h1 h2 h3 => by omega)).reads
   have hH9 : Below w3.heap.size w3 (aG X13 X3.heap.size 0 [.int .i64 y.code, .bool y.aZ, .int .i64 y.world.now, .int .i64 y.world.events, .int .i64 y.world.chain.ae, .slice a5W y.world.chain.ids.length d5W, .slice a6W y.world.nodes.length d6W, .slice a7W y.world.msgs.length d7W, .slice a8W y.world.af.length d8W]) := aB zq _ _ _ (by simpa using bx.1)
   clear bx rd hE9
   have bx := bx9
   have rd := rd9
   clear bx9 rd9
   go_simp
   refine hK.out _ _ hH9 (fun zq => ?_)
   clear hK K hH9 l0 z0 f0 z1 f1 z2 f2 z3 f3 z4 f4 z5 f5 z6 f6 z7 f7 z8 f8
   try simp only [Act.put, pz, py, px]
   refine dZ ?_
   have HH := yh zq
   have HBX := yh bx
   have HRD := yh rd
   clear zq bx rd
   go_wp2_with fail
   go_meet
   exact ⟨_, _, _, _, _, _, _, _, _, rfl, (uh HBX).lt, uh HBX, uh HRD, uh HH⟩
  have bx : aA w3.heap.size #[.int .i64 0, .bool false, .int .i64 0, .int .i64 0, .int .i64 0, .slice none 0 0, .slice none 0 0, .slice none 0 0, .slice none 0 0] 41 (X0.alloc (.cells #[.int .i64 0, .bool false, .int .i64 0, .int .i64 0, .int .i64 0, .slice none 0 0, .slice none 0 0, .slice none 0 0, .slice none 0 0] 41)) X0.heap.size := aD zq.size
  have nbA : Below X0.heap.size X0 (X0.alloc (.cells #[.int .i64 0, .bool false, .int .i64 0, .int .i64 0, .int .i64 0, .slice none 0 0, .slice none 0 0, .slice none 0 0, .slice none 0 0] 41)) := (Below.refl _ _).alloc (Nat.le_refl _) _
  have hNx := zq.trans (nbA.mono zq.size)
  go_simp
  refine hK.out _ _ hNx (fun zq => ?_)
  clear hK K hNx nbA
  try simp only [Act.put, pz, py, px]
  generalize X0.alloc (.cells #[.int .i64 0, .bool false, .int .i64 0, .int .i64 0, .int .i64 0, .slice none 0 0, .slice none 0 0, .slice none 0 0, .slice none 0 0] 41) = X15 at *
  refine rdH 1 (fun K hK => ?_)
  go_simp
  go_at_call 10
  refine (fw _ x0 _ ((uh HA0).reads.later zq) (uh HN0)).mono ?_
  rintro e X16 ⟨vT0, rfl, OT, hbw⟩
  have rt0 := OT.reads
  obtain ⟨a3T0, d3T0, a4T0, d4T0, a5T0, d5T0, a6T0, d6T0, rfl, -, -, -, -⟩ := aK rt0
  replace bx := bx.ai hbw
  clear OT
  try go_wp2_with fail
  refine hK.out _ _ (zq.trans (hbw.mono zq.size)) (fun zq => ?_)
  clear hK K hbw
  try simp only [Act.put, pz, py, px]
  refine rdH 3 (fun K hK => ?_)
  go_simp
  go_at_call 11
  refine (dP _ x1 _ ((uh HA1).reads.later zq) (uh HN1)).mono ?_
  rintro e X17 ⟨vT1, rfl, OT, hbw⟩
  have rt1 := OT.reads
  obtain ⟨a2T1, d2T1, rfl, -⟩ := aM rt1
  replace rt0 := rt0.later hbw
  replace bx := bx.ai hbw
  clear OT
  try go_wp2_with fail
  refine hK.out _ _ (zq.trans (hbw.mono zq.size)) (fun zq => ?_)
  clear hK K hbw
  try simp only [Act.put, pz, py, px]
  refine rdH 4 (fun K hK => ?_)
  go_simp
  go_at_call 9
  refine (uh HS _ _ _ (((uh HT).later (uh HB)).later zq) rt0 rt1).mono ?_
  rintro e X18 ⟨cs, rfl, O, hbw⟩
  obtain ⟨a5W, d5W, a6W, d6W, a7W, d7W, a8W, d8W, rfl, -⟩ := br O.reads
  have hs0 := bx.lt
  replace bx := bx.ai hbw
  have hz9 := hbw.size
  have rd := O
  clear O
  replace rd := rd.mono (lo' := X0.heap.size + 1) (by omega) (Nat.le_refl _)
  clear hs0
  try go_wp2_with fail
  refine hK.out _ _ (zq.trans (hbw.mono zq.size)) (fun zq => ?_)
  clear hK K hbw hz9
  try simp only [Act.put, pz, py, px]
  clear rt0 rt1
  refine rdH 6 (fun K hK => ?_)
  have z0 : X18.cell? ⟨X0.heap.size, 0, none⟩ = some (.int .i64 0) := bx.at 0 _ rfl
  have f0 := bx.soft 0
  have z1 : X18.cell? ⟨X0.heap.size, 1, none⟩ = some (.bool false) := bx.at 1 _ rfl
  have f1 := bx.soft 1
  have z2 : X18.cell? ⟨X0.heap.size, 2, none⟩ = some (.int .i64 0) := bx.at 2 _ rfl
  have f2 := bx.soft 2
  have z3 : X18.cell? ⟨X0.heap.size, 3, none⟩ = some (.int .i64 0) := bx.at 3 _ rfl
  have f3 := bx.soft 3
  have z4 : X18.cell? ⟨X0.heap.size, 4, none⟩ = some (.int .i64 0) := bx.at 4 _ rfl
  have f4 := bx.soft 4
  have z5 : X18.cell? ⟨X0.heap.size, 5, none⟩ = some (.slice none 0 0) := bx.at 5 _ rfl
  have f5 := bx.soft 5
  have z6 : X18.cell? ⟨X0.heap.size, 6, none⟩ = some (.slice none 0 0) := bx.at 6 _ rfl
  have f6 := bx.soft 6
  have z7 : X18.cell? ⟨X0.heap.size, 7, none⟩ = some (.slice none 0 0) := bx.at 7 _ rfl
  have f7 := bx.soft 7
  have z8 : X18.cell? ⟨X0.heap.size, 8, none⟩ = some (.slice none 0 0) := bx.at 8 _ rfl
  have f8 := bx.soft 8
  have l0 := bx.lt
  have bx9 : aA w3.heap.size #[.int .i64 y.code, .bool y.aZ, .int .i64 y.world.now, .int .i64 y.world.events, .int .i64 y.world.chain.ae, .slice a5W y.world.chain.ids.length d5W, .slice a6W y.world.nodes.length d6W, .slice a7W y.world.msgs.length d7W, .slice a8W y.world.af.length d8W] 41 (aG X18 X0.heap.size 0 [.int .i64 y.code, .bool y.aZ, .int .i64 y.world.now, .int .i64 y.world.events, .int .i64 y.world.chain.ae, .slice a5W y.world.chain.ids.length d5W, .slice a6W y.world.nodes.length d6W, .slice a7W y.world.msgs.length d7W, .slice a8W y.world.af.length d8W]) X0.heap.size := cG bx _ _ _ _ _ _ _ _ _
  have hE9 : Ext (fun c => c = X0.heap.size) X18 (aG X18 X0.heap.size 0 [.int .i64 y.code, .bool y.aZ, .int .i64 y.world.now, .int .i64 y.world.events, .int .i64 y.world.chain.ae, .slice a5W y.world.chain.ids.length d5W, .slice a6W y.world.nodes.length d6W, .slice a7W y.world.msgs.length d7W, .slice a8W y.world.af.length d8W]) := bb _ (Ext.refl _ _) _ _ _ rfl
  have rd9 := (rd.ext hE9 (fun c h1 h2 h3 => by omega)).reads
  have hH9 : Below w3.heap.size w3 (aG X18 X0.heap.size 0 [.int .i64 y.code, .bool y.aZ, .int .i64 y.world.now, .int .i64 y.world.events, .int .i64 y.world.chain.ae, .slice a5W y.world.chain.ids.length d5W, .slice a6W y.world.nodes.length d6W, .slice a7W y.world.msgs.length d7W, .slice a8W y.world.af.length d8W]) := aB zq _ _ _ (by simpa using bx.1)
  clear bx rd hE9
  have bx := bx9
  have rd := rd9
  clear bx9 rd9
  go_simp
  refine hK.out _ _ hH9 (fun zq => ?_)
  clear hK K hH9 l0 z0 f0 z1 f1 z2 f2 z3 f3 z4 f4 z5 f5 z6 f6 z7 f7 z8 f8
  try simp only [Act.put, pz, py, px]
  refine dZ ?_
  have HH := yh zq
  have HBX := yh bx
  have HRD := yh rd
  clear zq bx rd
  go_wp2_with fail
  go_meet
  exact ⟨_, _, _, _, _, _, _, _, _, rfl, (uh HBX).lt, uh HBX, uh HRD, uh HH⟩
 case rest =>
 obtain ⟨sW, a5W, d5W, a6W, d6W, a7W, d7W, a8W, d8W, rfl, hsW, YB, O, hb⟩ := hcut
 obtain ⟨w4, hww4⟩ : ∃ q, q = wc := ⟨_, rfl⟩
 subst hww4
 clear l0P0 l1P0 l2P0 l3P0 l4P0 l5P0 l6P0 ltP0 l0P1 l1P1 l2P1 l3P1 l4P1 ltP1
 replace HA0 := yh ((uh HA0).later hb)
 replace HA1 := yh ((uh HA1).later hb)
 replace P0 := yh ((uh P0).ai hb)
 replace P1 := yh ((uh P1).ai hb)
 have Zw4 : w3.heap.size ≤ w4.heap.size := hb.size
 replace HB := yh ((uh HB).trans (hb.mono (by omega)))
 clear hb
 have YW := yh YB
 have HW := yh O.dd
 clear YB O
 have l0P0 := (uh P0).at 0 _ rfl
 have l1P0 := (uh P0).at 1 _ rfl
 have l2P0 := (uh P0).at 2 _ rfl
 have l3P0 := (uh P0).at 3 _ rfl
 have l4P0 := (uh P0).at 4 _ rfl
 have l5P0 := (uh P0).at 5 _ rfl
 have l6P0 := (uh P0).at 6 _ rfl
 have ltP0 : w.heap.size < w4.heap.size := by omega
 have l0P1 := (uh P1).at 0 _ rfl
 have l1P1 := (uh P1).at 1 _ rfl
 have l2P1 := (uh P1).at 2 _ rfl
 have l3P1 := (uh P1).at 3 _ rfl
 have l4P1 := (uh P1).at 4 _ rfl
 have ltP1 : w.heap.size + 1 < w4.heap.size := by omega
 have l0YW := (uh YW).at 0 _ rfl
 have l1YW := (uh YW).at 1 _ rfl
 have l2YW := (uh YW).at 2 _ rfl
 have l3YW := (uh YW).at 3 _ rfl
 have l4YW := (uh YW).at 4 _ rfl
 have l5YW := (uh YW).at 5 _ rfl
 have l6YW := (uh YW).at 6 _ rfl
 have l7YW := (uh YW).at 7 _ rfl
 have l8YW := (uh YW).at 8 _ rfl
 have ltYW : sW < w4.heap.size := by omega
 simp only [ga, gb, gc] at l0P0 l1P0 l2P0 l3P0 l4P0 l5P0 l6P0 l0P1 l1P1 l2P1 l3P1 l4P1 l0YW l1YW l2YW l3YW l4YW l5YW l6YW l7YW l8YW
 go_wp2_with fail
 clear l0P0 l1P0 l2P0 l3P0 l4P0 l5P0 l6P0 ltP0 l0P1 l1P1 l2P1 l3P1 l4P1 ltP1 l0YW l1YW l2YW l3YW l4YW l5YW l6YW l7YW l8YW ltYW
 refine (fw _ x0 w4 (uh HA0).reads (uh HN0)).mono ?_
 rintro e w5 ⟨vx0, rfl, O, hb⟩
 replace HA0 := yh ((uh HA0).later hb)
 replace HA1 := yh ((uh HA1).later hb)
 replace P0 := yh ((uh P0).ai hb)
 replace P1 := yh ((uh P1).ai hb)
 replace HW := yh ((uh HW).later hb)
 replace YW := yh ((uh YW).ai hb)
 have Zw5 : w4.heap.size ≤ w5.heap.size := hb.size
 replace HB := yh ((uh HB).trans (hb.mono (by omega)))
 clear hb
 obtain ⟨a3x0, d3x0, a4x0, d4x0, a5x0, d5x0, a6x0, d6x0, rfl, -, -, -, -⟩ := aK O.reads
 have Hx0 := yh O
 clear O
 have nb : Below w5.heap.size w5 (w5.alloc (.cells #[.int .i64 x0.now, .int .i64 x0.events, .int .i64 x0.chain.ae, .slice a3x0 x0.chain.ids.length d3x0, .slice a4x0 x0.nodes.length d4x0, .slice a5x0 x0.msgs.length d5x0, .slice a6x0 x0.af.length d6x0] 39)) := (Below.refl _ _).alloc (Nat.le_refl _) _
 have X0 : Hid (aA w5.heap.size #[.int .i64 x0.now, .int .i64 x0.events, .int .i64 x0.chain.ae, .slice a3x0 x0.chain.ids.length d3x0, .slice a4x0 x0.nodes.length d4x0, .slice a5x0 x0.msgs.length d5x0, .slice a6x0 x0.af.length d6x0] 39 (w5.alloc (.cells #[.int .i64 x0.now, .int .i64 x0.events, .int .i64 x0.chain.ae, .slice a3x0 x0.chain.ids.length d3x0, .slice a4x0 x0.nodes.length d4x0, .slice a5x0 x0.msgs.length d5x0, .slice a6x0 x0.af.length d6x0] 39)) w5.heap.size) := aD (Nat.le_refl _)
 have l0P0 := (uh P0).at 0 _ rfl
 have l1P0 := (uh P0).at 1 _ rfl
 have l2P0 := (uh P0).at 2 _ rfl
 have l3P0 := (uh P0).at 3 _ rfl
 have l4P0 := (uh P0).at 4 _ rfl
 have l5P0 := (uh P0).at 5 _ rfl
 have l6P0 := (uh P0).at 6 _ rfl
 have ltP0 : w.heap.size < w5.heap.size := by omega
 have l0P1 := (uh P1).at 0 _ rfl
 have l1P1 := (uh P1).at 1 _ rfl
 have l2P1 := (uh P1).at 2 _ rfl
 have l3P1 := (uh P1).at 3 _ rfl
 have l4P1 := (uh P1).at 4 _ rfl
 have ltP1 : w.heap.size + 1 < w5.heap.size := by omega
 have l0YW := (uh YW).at 0 _ rfl
 have l1YW := (uh YW).at 1 _ rfl
 have l2YW := (uh YW).at 2 _ rfl
 have l3YW := (uh YW).at 3 _ rfl
 have l4YW := (uh YW).at 4 _ rfl
 have l5YW := (uh YW).at 5 _ rfl
 have l6YW := (uh YW).at 6 _ rfl
 have l7YW := (uh YW).at 7 _ rfl
 have l8YW := (uh YW).at 8 _ rfl
 have ltYW : sW < w5.heap.size := by omega
 simp only [ga, gb, gc] at l0P0 l1P0 l2P0 l3P0 l4P0 l5P0 l6P0 l0P1 l1P1 l2P1 l3P1 l4P1 l0YW l1YW l2YW l3YW l4YW l5YW l6YW l7YW l8YW
 go_wp2_with fail
 clear l0P0 l1P0 l2P0 l3P0 l4P0 l5P0 l6P0 ltP0 l0P1 l1P1 l2P1 l3P1 l4P1 ltP1 l0YW l1YW l2YW l3YW l4YW l5YW l6YW l7YW l8YW ltYW
 generalize haw6 : w5.alloc (.cells #[.int .i64 x0.now, .int .i64 x0.events, .int .i64 x0.chain.ae, .slice a3x0 x0.chain.ids.length d3x0, .slice a4x0 x0.nodes.length d4x0, .slice a5x0 x0.msgs.length d5x0, .slice a6x0 x0.af.length d6x0] 39) = w6 at *
 have Gw6 : w5.heap.size < w6.heap.size := by rw [← haw6]; simp
 clear haw6
 replace HA0 := yh ((uh HA0).later nb)
 replace HA1 := yh ((uh HA1).later nb)
 replace P0 := yh ((uh P0).ai nb)
 replace P1 := yh ((uh P1).ai nb)
 replace HW := yh ((uh HW).later nb)
 replace YW := yh ((uh YW).ai nb)
 replace Hx0 := yh ((uh Hx0).later nb)
 have Zw6 : w5.heap.size ≤ w6.heap.size := nb.size
 replace HB := yh ((uh HB).trans (nb.mono (by omega)))
 clear nb
 refine (dP _ x1 w6 (uh HA1).reads (uh HN1)).mono ?_
 rintro e w7 ⟨vx1, rfl, O, hb⟩
 replace HA0 := yh ((uh HA0).later hb)
 replace HA1 := yh ((uh HA1).later hb)
 replace P0 := yh ((uh P0).ai hb)
 replace P1 := yh ((uh P1).ai hb)
 replace HW := yh ((uh HW).later hb)
 replace YW := yh ((uh YW).ai hb)
 replace Hx0 := yh ((uh Hx0).later hb)
 replace X0 := yh ((uh X0).ai hb)
 have Zw7 : w6.heap.size ≤ w7.heap.size := hb.size
 replace HB := yh ((uh HB).trans (hb.mono (by omega)))
 clear hb
 obtain ⟨a2x1, d2x1, rfl, -⟩ := aM O.reads
 have Hx1 := yh O
 clear O
 have nb : Below w7.heap.size w7 (w7.alloc (.cells #[.int .i64 x1.kind, .int .i64 x1.id, .slice a2x1 x1.vec.length d2x1, .int .i64 x1.aa, .int .i64 x1.seq] 44)) := (Below.refl _ _).alloc (Nat.le_refl _) _
 have X1 : Hid (aA w7.heap.size #[.int .i64 x1.kind, .int .i64 x1.id, .slice a2x1 x1.vec.length d2x1, .int .i64 x1.aa, .int .i64 x1.seq] 44 (w7.alloc (.cells #[.int .i64 x1.kind, .int .i64 x1.id, .slice a2x1 x1.vec.length d2x1, .int .i64 x1.aa, .int .i64 x1.seq] 44)) w7.heap.size) := aD (Nat.le_refl _)
 have l0P0 := (uh P0).at 0 _ rfl
 have l1P0 := (uh P0).at 1 _ rfl
 have l2P0 := (uh P0).at 2 _ rfl
 have l3P0 := (uh P0).at 3 _ rfl
 have l4P0 := (uh P0).at 4 _ rfl
 have l5P0 := (uh P0).at 5 _ rfl
 have l6P0 := (uh P0).at 6 _ rfl
 have ltP0 : w.heap.size < w7.heap.size := by omega
 have l0P1 := (uh P1).at 0 _ rfl
 have l1P1 := (uh P1).at 1 _ rfl
 have l2P1 := (uh P1).at 2 _ rfl
 have l3P1 := (uh P1).at 3 _ rfl
 have l4P1 := (uh P1).at 4 _ rfl
 have ltP1 : w.heap.size + 1 < w7.heap.size := by omega
 have l0YW := (uh YW).at 0 _ rfl
 have l1YW := (uh YW).at 1 _ rfl
 have l2YW := (uh YW).at 2 _ rfl
 have l3YW := (uh YW).at 3 _ rfl
 have l4YW := (uh YW).at 4 _ rfl
 have l5YW := (uh YW).at 5 _ rfl
 have l6YW := (uh YW).at 6 _ rfl
 have l7YW := (uh YW).at 7 _ rfl
 have l8YW := (uh YW).at 8 _ rfl
 have ltYW : sW < w7.heap.size := by omega
 have l0X0 := (uh X0).at 0 _ rfl
 have l1X0 := (uh X0).at 1 _ rfl
 have l2X0 := (uh X0).at 2 _ rfl
 have l3X0 := (uh X0).at 3 _ rfl
 have l4X0 := (uh X0).at 4 _ rfl
 have l5X0 := (uh X0).at 5 _ rfl
 have l6X0 := (uh X0).at 6 _ rfl
 have ltX0 : w5.heap.size < w7.heap.size := by omega
 simp only [ga, gb, gc] at l0P0 l1P0 l2P0 l3P0 l4P0 l5P0 l6P0 l0P1 l1P1 l2P1 l3P1 l4P1 l0YW l1YW l2YW l3YW l4YW l5YW l6YW l7YW l8YW l0X0 l1X0 l2X0 l3X0 l4X0 l5X0 l6X0
 go_wp2_with fail
 clear l0P0 l1P0 l2P0 l3P0 l4P0 l5P0 l6P0 ltP0 l0P1 l1P1 l2P1 l3P1 l4P1 ltP1 l0YW l1YW l2YW l3YW l4YW l5YW l6YW l7YW l8YW ltYW l0X0 l1X0 l2X0 l3X0 l4X0 l5X0 l6X0 ltX0
 generalize haw8 : w7.alloc (.cells #[.int .i64 x1.kind, .int .i64 x1.id, .slice a2x1 x1.vec.length d2x1, .int .i64 x1.aa, .int .i64 x1.seq] 44) = w8 at *
 have Gw8 : w7.heap.size < w8.heap.size := by rw [← haw8]; simp
 clear haw8
 replace HA0 := yh ((uh HA0).later nb)
 replace HA1 := yh ((uh HA1).later nb)
 replace P0 := yh ((uh P0).ai nb)
 replace P1 := yh ((uh P1).ai nb)
 replace HW := yh ((uh HW).later nb)
 replace YW := yh ((uh YW).ai nb)
 replace Hx0 := yh ((uh Hx0).later nb)
 replace X0 := yh ((uh X0).ai nb)
 replace Hx1 := yh ((uh Hx1).later nb)
 have Zw8 : w7.heap.size ≤ w8.heap.size := nb.size
 replace HB := yh ((uh HB).trans (nb.mono (by omega)))
 clear nb
 refine (uh HI w8 _ _ ((uh HT).later (uh HB)) (uh Hx0).reads (uh Hx1).reads).mono ?_
 rintro e w9 ⟨cs, rfl, O, hb⟩
 replace HA0 := yh ((uh HA0).later hb)
 replace HA1 := yh ((uh HA1).later hb)
 replace P0 := yh ((uh P0).ai hb)
 replace P1 := yh ((uh P1).ai hb)
 replace HW := yh ((uh HW).later hb)
 replace YW := yh ((uh YW).ai hb)
 replace Hx0 := yh ((uh Hx0).later hb)
 replace X0 := yh ((uh X0).ai hb)
 replace Hx1 := yh ((uh Hx1).later hb)
 replace X1 := yh ((uh X1).ai hb)
 have Zw9 : w8.heap.size ≤ w9.heap.size := hb.size
 replace HB := yh ((uh HB).trans (hb.mono (by omega)))
 clear hb
 obtain ⟨a5G, d5G, a6G, d6G, a7G, d7G, a8G, d8G, rfl, -⟩ := br O.reads
 have HG := yh O
 clear O
 have nb : Below w9.heap.size w9 (w9.alloc (.cells #[.int .i64 y.code, .bool y.aZ, .int .i64 y.world.now, .int .i64 y.world.events, .int .i64 y.world.chain.ae, .slice a5G y.world.chain.ids.length d5G, .slice a6G y.world.nodes.length d6G, .slice a7G y.world.msgs.length d7G, .slice a8G y.world.af.length d8G] 41)) := (Below.refl _ _).alloc (Nat.le_refl _) _
 have YG : Hid (aA w9.heap.size #[.int .i64 y.code, .bool y.aZ, .int .i64 y.world.now, .int .i64 y.world.events, .int .i64 y.world.chain.ae, .slice a5G y.world.chain.ids.length d5G, .slice a6G y.world.nodes.length d6G, .slice a7G y.world.msgs.length d7G, .slice a8G y.world.af.length d8G] 41 (w9.alloc (.cells #[.int .i64 y.code, .bool y.aZ, .int .i64 y.world.now, .int .i64 y.world.events, .int .i64 y.world.chain.ae, .slice a5G y.world.chain.ids.length d5G, .slice a6G y.world.nodes.length d6G, .slice a7G y.world.msgs.length d7G, .slice a8G y.world.af.length d8G] 41)) w9.heap.size) := aD (Nat.le_refl _)
 have l0P0 := (uh P0).at 0 _ rfl
 have l1P0 := (uh P0).at 1 _ rfl
 have l2P0 := (uh P0).at 2 _ rfl
 have l3P0 := (uh P0).at 3 _ rfl
 have l4P0 := (uh P0).at 4 _ rfl
 have l5P0 := (uh P0).at 5 _ rfl
 have l6P0 := (uh P0).at 6 _ rfl
 have ltP0 : w.heap.size < w9.heap.size := by omega
 have l0P1 := (uh P1).at 0 _ rfl
 have l1P1 := (uh P1).at 1 _ rfl
 have l2P1 := (uh P1).at 2 _ rfl
 have l3P1 := (uh P1).at 3 _ rfl
 have l4P1 := (uh P1).at 4 _ rfl
 have ltP1 : w.heap.size + 1 < w9.heap.size := by omega
 have l0YW := (uh YW).at 0 _ rfl
 have l1YW := (uh YW).at 1 _ rfl
 have l2YW := (uh YW).at 2 _ rfl
 have l3YW := (uh YW).at 3 _ rfl
 have l4YW := (uh YW).at 4 _ rfl
 have l5YW := (uh YW).at 5 _ rfl
 have l6YW := (uh YW).at 6 _ rfl
 have l7YW := (uh YW).at 7 _ rfl
 have l8YW := (uh YW).at 8 _ rfl
 have ltYW : sW < w9.heap.size := by omega
 have l0X0 := (uh X0).at 0 _ rfl
 have l1X0 := (uh X0).at 1 _ rfl
 have l2X0 := (uh X0).at 2 _ rfl
 have l3X0 := (uh X0).at 3 _ rfl
 have l4X0 := (uh X0).at 4 _ rfl
 have l5X0 := (uh X0).at 5 _ rfl
 have l6X0 := (uh X0).at 6 _ rfl
 have ltX0 : w5.heap.size < w9.heap.size := by omega
 have l0X1 := (uh X1).at 0 _ rfl
 have l1X1 := (uh X1).at 1 _ rfl
 have l2X1 := (uh X1).at 2 _ rfl
 have l3X1 := (uh X1).at 3 _ rfl
 have l4X1 := (uh X1).at 4 _ rfl
 have ltX1 : w7.heap.size < w9.heap.size := by omega
 simp only [ga, gb, gc] at l0P0 l1P0 l2P0 l3P0 l4P0 l5P0 l6P0 l0P1 l1P1 l2P1 l3P1 l4P1 l0YW l1YW l2YW l3YW l4YW l5YW l6YW l7YW l8YW l0X0 l1X0 l2X0 l3X0 l4X0 l5X0 l6X0 l0X1 l1X1 l2X1 l3X1 l4X1
 go_wp2_with fail
 clear l0P0 l1P0 l2P0 l3P0 l4P0 l5P0 l6P0 ltP0 l0P1 l1P1 l2P1 l3P1 l4P1 ltP1 l0YW l1YW l2YW l3YW l4YW l5YW l6YW l7YW l8YW ltYW l0X0 l1X0 l2X0 l3X0 l4X0 l5X0 l6X0 ltX0 l0X1 l1X1 l2X1 l3X1 l4X1 ltX1
 generalize haw10 : w9.alloc (.cells #[.int .i64 y.code, .bool y.aZ, .int .i64 y.world.now, .int .i64 y.world.events, .int .i64 y.world.chain.ae, .slice a5G y.world.chain.ids.length d5G, .slice a6G y.world.nodes.length d6G, .slice a7G y.world.msgs.length d7G, .slice a8G y.world.af.length d8G] 41) = w10 at *
 have Gw10 : w9.heap.size < w10.heap.size := by rw [← haw10]; simp
 clear haw10
 replace HA0 := yh ((uh HA0).later nb)
 replace HA1 := yh ((uh HA1).later nb)
 replace P0 := yh ((uh P0).ai nb)
 replace P1 := yh ((uh P1).ai nb)
 replace HW := yh ((uh HW).later nb)
 replace YW := yh ((uh YW).ai nb)
 replace Hx0 := yh ((uh Hx0).later nb)
 replace X0 := yh ((uh X0).ai nb)
 replace Hx1 := yh ((uh Hx1).later nb)
 replace X1 := yh ((uh X1).ai nb)
 replace HG := yh ((uh HG).later nb)
 have Zw10 : w9.heap.size ≤ w10.heap.size := nb.size
 replace HB := yh ((uh HB).trans (nb.mono (by omega)))
 clear nb
 refine (eW _ _ y w10 (uh HG).reads (uh HW).reads).mono ?_
 rintro e w11 ⟨rfl, hb⟩
 replace HA0 := yh ((uh HA0).later hb)
 replace HA1 := yh ((uh HA1).later hb)
 replace P0 := yh ((uh P0).ai hb)
 replace P1 := yh ((uh P1).ai hb)
 replace HW := yh ((uh HW).later hb)
 replace YW := yh ((uh YW).ai hb)
 replace Hx0 := yh ((uh Hx0).later hb)
 replace X0 := yh ((uh X0).ai hb)
 replace Hx1 := yh ((uh Hx1).later hb)
 replace X1 := yh ((uh X1).ai hb)
 replace HG := yh ((uh HG).later hb)
 replace YG := yh ((uh YG).ai hb)
 have Zw11 : w10.heap.size ≤ w11.heap.size := hb.size
 replace HB := yh ((uh HB).trans (hb.mono (by omega)))
 clear hb
 have l0P0 := (uh P0).at 0 _ rfl
 have l1P0 := (uh P0).at 1 _ rfl
 have l2P0 := (uh P0).at 2 _ rfl
 have l3P0 := (uh P0).at 3 _ rfl
 have l4P0 := (uh P0).at 4 _ rfl
 have l5P0 := (uh P0).at 5 _ rfl
 have l6P0 := (uh P0).at 6 _ rfl
 have ltP0 : w.heap.size < w11.heap.size := by omega
 have l0P1 := (uh P1).at 0 _ rfl
 have l1P1 := (uh P1).at 1 _ rfl
 have l2P1 := (uh P1).at 2 _ rfl
 have l3P1 := (uh P1).at 3 _ rfl
 have l4P1 := (uh P1).at 4 _ rfl
 have ltP1 : w.heap.size + 1 < w11.heap.size := by omega
 have l0YW := (uh YW).at 0 _ rfl
 have l1YW := (uh YW).at 1 _ rfl
 have l2YW := (uh YW).at 2 _ rfl
 have l3YW := (uh YW).at 3 _ rfl
 have l4YW := (uh YW).at 4 _ rfl
 have l5YW := (uh YW).at 5 _ rfl
 have l6YW := (uh YW).at 6 _ rfl
 have l7YW := (uh YW).at 7 _ rfl
 have l8YW := (uh YW).at 8 _ rfl
 have ltYW : sW < w11.heap.size := by omega
 have l0X0 := (uh X0).at 0 _ rfl
 have l1X0 := (uh X0).at 1 _ rfl
 have l2X0 := (uh X0).at 2 _ rfl
 have l3X0 := (uh X0).at 3 _ rfl
 have l4X0 := (uh X0).at 4 _ rfl
 have l5X0 := (uh X0).at 5 _ rfl
 have l6X0 := (uh X0).at 6 _ rfl
 have ltX0 : w5.heap.size < w11.heap.size := by omega
 have l0X1 := (uh X1).at 0 _ rfl
 have l1X1 := (uh X1).at 1 _ rfl
 have l2X1 := (uh X1).at 2 _ rfl
 have l3X1 := (uh X1).at 3 _ rfl
 have l4X1 := (uh X1).at 4 _ rfl
 have ltX1 : w7.heap.size < w11.heap.size := by omega
 have l0YG := (uh YG).at 0 _ rfl
 have l1YG := (uh YG).at 1 _ rfl
 have l2YG := (uh YG).at 2 _ rfl
 have l3YG := (uh YG).at 3 _ rfl
 have l4YG := (uh YG).at 4 _ rfl
 have l5YG := (uh YG).at 5 _ rfl
 have l6YG := (uh YG).at 6 _ rfl
 have l7YG := (uh YG).at 7 _ rfl
 have l8YG := (uh YG).at 8 _ rfl
 have ltYG : w9.heap.size < w11.heap.size := by omega
 simp only [ga, gb, gc] at l0P0 l1P0 l2P0 l3P0 l4P0 l5P0 l6P0 l0P1 l1P1 l2P1 l3P1 l4P1 l0YW l1YW l2YW l3YW l4YW l5YW l6YW l7YW l8YW l0X0 l1X0 l2X0 l3X0 l4X0 l5X0 l6X0 l0X1 l1X1 l2X1 l3X1 l4X1 l0YG l1YG l2YG l3YG l4YG l5YG l6YG l7YG l8YG
 go_wp2_with fail
 clear l0P0 l1P0 l2P0 l3P0 l4P0 l5P0 l6P0 ltP0 l0P1 l1P1 l2P1 l3P1 l4P1 ltP1 l0YW l1YW l2YW l3YW l4YW l5YW l6YW l7YW l8YW ltYW l0X0 l1X0 l2X0 l3X0 l4X0 l5X0 l6X0 ltX0 l0X1 l1X1 l2X1 l3X1 l4X1 ltX1 l0YG l1YG l2YG l3YG l4YG l5YG l6YG l7YG l8YG ltYG
 have l0P0 := (uh P0).at 0 _ rfl
 have l1P0 := (uh P0).at 1 _ rfl
 have l2P0 := (uh P0).at 2 _ rfl
 have l3P0 := (uh P0).at 3 _ rfl
 have l4P0 := (uh P0).at 4 _ rfl
 have l5P0 := (uh P0).at 5 _ rfl
 have l6P0 := (uh P0).at 6 _ rfl
 have ltP0 : w.heap.size < w11.heap.size := by omega
 have l0X0 := (uh X0).at 0 _ rfl
 have l1X0 := (uh X0).at 1 _ rfl
 have l2X0 := (uh X0).at 2 _ rfl
 have l3X0 := (uh X0).at 3 _ rfl
 have l4X0 := (uh X0).at 4 _ rfl
 have l5X0 := (uh X0).at 5 _ rfl
 have l6X0 := (uh X0).at 6 _ rfl
 have ltX0 : w5.heap.size < w11.heap.size := by omega
 simp only [ga, gb, gc] at l0P0 l1P0 l2P0 l3P0 l4P0 l5P0 l6P0 l0X0 l1X0 l2X0 l3X0 l4X0 l5X0 l6X0
 refine wZz (fun w' => Below w11.heap.size w11 w') (Below.refl _ _).drew (fun zq => ?_)
 generalize w11.drew = wD at zq ⊢
 refine tkJ 0 (v := ?vs00) ?hs00 zq ?rs00
 case hs00 =>
  intro wS hSw
  have y0P0 := cZ hSw ltP0 l0P0
  have y1P0 := cZ hSw ltP0 l1P0
  have y2P0 := cZ hSw ltP0 l2P0
  have y3P0 := cZ hSw ltP0 l3P0
  have y4P0 := cZ hSw ltP0 l4P0
  have y5P0 := cZ hSw ltP0 l5P0
  have y6P0 := cZ hSw ltP0 l6P0
  have y0X0 := cZ hSw ltX0 l0X0
  have y1X0 := cZ hSw ltX0 l1X0
  have y2X0 := cZ hSw ltX0 l2X0
  have y3X0 := cZ hSw ltX0 l3X0
  have y4X0 := cZ hSw ltX0 l4X0
  have y5X0 := cZ hSw ltX0 l5X0
  have y6X0 := cZ hSw ltX0 l6X0
  clear hSw
  exact fZ
 refine tkJ 1 (v := ?vs01) ?hs01 zq ?rs01
 case hs01 =>
  intro wS hSw
  have y0P0 := cZ hSw ltP0 l0P0
  have y1P0 := cZ hSw ltP0 l1P0
  have y2P0 := cZ hSw ltP0 l2P0
  have y3P0 := cZ hSw ltP0 l3P0
  have y4P0 := cZ hSw ltP0 l4P0
  have y5P0 := cZ hSw ltP0 l5P0
  have y6P0 := cZ hSw ltP0 l6P0
  have y0X0 := cZ hSw ltX0 l0X0
  have y1X0 := cZ hSw ltX0 l1X0
  have y2X0 := cZ hSw ltX0 l2X0
  have y3X0 := cZ hSw ltX0 l3X0
  have y4X0 := cZ hSw ltX0 l4X0
  have y5X0 := cZ hSw ltX0 l5X0
  have y6X0 := cZ hSw ltX0 l6X0
  clear hSw
  exact fZ
 refine rdH 2 (fun K hK => ?_)
 go_simp
 go_at_call 10
 refine (fw _ x0 _ ((uh HA0).reads.later zq) (uh HN0)).mono ?_
 rintro e wT ⟨vT, rfl, OT, hbw⟩
 have RT := OT.reads
 obtain ⟨a3T, d3T, a4T, d4T, a5T, d5T, a6T, d6T, rfl, -, -, -, -⟩ := aK RT
 try go_wp2_with fail
 refine hK.out _ _ (zq.trans (hbw.mono zq.size)) (fun zq => ?_)
 clear hK K
 try simp only [Act.put, pz, py, px]
 refine rdH 3 (fun K hK => ?_)
 go_simp
 go_at_call 14
 refine (nX _ _ x0 _ ((uh Hx0).reads.later zq) RT).mono ?_
 rintro e wU0 ⟨rfl, hbw⟩
 try go_wp2_with fail
 refine hK.out _ _ (zq.trans (hbw.mono zq.size)) (fun zq => ?_)
 clear hK K
 try simp only [Act.put, pz, py, px]
 refine tkH 4 zq ?_
 refine dZ ?_
 clear l0P0 l1P0 l2P0 l3P0 l4P0 l5P0 l6P0 ltP0 l0X0 l1X0 l2X0 l3X0 l4X0 l5X0 l6X0 ltX0 OT RT
 have hb : Below w11.heap.size w11 wU0 := zq
 clear zq hbw
 replace HA0 := yh ((uh HA0).later hb)
 replace HA1 := yh ((uh HA1).later hb)
 replace P0 := yh ((uh P0).ai hb)
 replace P1 := yh ((uh P1).ai hb)
 replace HW := yh ((uh HW).later hb)
 replace YW := yh ((uh YW).ai hb)
 replace Hx0 := yh ((uh Hx0).later hb)
 replace X0 := yh ((uh X0).ai hb)
 replace Hx1 := yh ((uh Hx1).later hb)
 replace X1 := yh ((uh X1).ai hb)
 replace HG := yh ((uh HG).later hb)
 replace YG := yh ((uh YG).ai hb)
 have ZwU0 : w11.heap.size ≤ wU0.heap.size := hb.size
 replace HB := yh ((uh HB).trans (hb.mono (by omega)))
 clear hb
 have l0P0 := (uh P0).at 0 _ rfl
 have l1P0 := (uh P0).at 1 _ rfl
 have l2P0 := (uh P0).at 2 _ rfl
 have l3P0 := (uh P0).at 3 _ rfl
 have l4P0 := (uh P0).at 4 _ rfl
 have l5P0 := (uh P0).at 5 _ rfl
 have l6P0 := (uh P0).at 6 _ rfl
 have ltP0 : w.heap.size < wU0.heap.size := by omega
 have l0P1 := (uh P1).at 0 _ rfl
 have l1P1 := (uh P1).at 1 _ rfl
 have l2P1 := (uh P1).at 2 _ rfl
 have l3P1 := (uh P1).at 3 _ rfl
 have l4P1 := (uh P1).at 4 _ rfl
 have ltP1 : w.heap.size + 1 < wU0.heap.size := by omega
 have l0YW := (uh YW).at 0 _ rfl
 have l1YW := (uh YW).at 1 _ rfl
 have l2YW := (uh YW).at 2 _ rfl
 have l3YW := (uh YW).at 3 _ rfl
 have l4YW := (uh YW).at 4 _ rfl
 have l5YW := (uh YW).at 5 _ rfl
 have l6YW := (uh YW).at 6 _ rfl
 have l7YW := (uh YW).at 7 _ rfl
 have l8YW := (uh YW).at 8 _ rfl
 have ltYW : sW < wU0.heap.size := by omega
 have l0X0 := (uh X0).at 0 _ rfl
 have l1X0 := (uh X0).at 1 _ rfl
 have l2X0 := (uh X0).at 2 _ rfl
 have l3X0 := (uh X0).at 3 _ rfl
 have l4X0 := (uh X0).at 4 _ rfl
 have l5X0 := (uh X0).at 5 _ rfl
 have l6X0 := (uh X0).at 6 _ rfl
 have ltX0 : w5.heap.size < wU0.heap.size := by omega
 have l0X1 := (uh X1).at 0 _ rfl
 have l1X1 := (uh X1).at 1 _ rfl
 have l2X1 := (uh X1).at 2 _ rfl
 have l3X1 := (uh X1).at 3 _ rfl
 have l4X1 := (uh X1).at 4 _ rfl
 have ltX1 : w7.heap.size < wU0.heap.size := by omega
 have l0YG := (uh YG).at 0 _ rfl
 have l1YG := (uh YG).at 1 _ rfl
 have l2YG := (uh YG).at 2 _ rfl
 have l3YG := (uh YG).at 3 _ rfl
 have l4YG := (uh YG).at 4 _ rfl
 have l5YG := (uh YG).at 5 _ rfl
 have l6YG := (uh YG).at 6 _ rfl
 have l7YG := (uh YG).at 7 _ rfl
 have l8YG := (uh YG).at 8 _ rfl
 have ltYG : w9.heap.size < wU0.heap.size := by omega
 simp only [ga, gb, gc] at l0P0 l1P0 l2P0 l3P0 l4P0 l5P0 l6P0 l0P1 l1P1 l2P1 l3P1 l4P1 l0YW l1YW l2YW l3YW l4YW l5YW l6YW l7YW l8YW l0X0 l1X0 l2X0 l3X0 l4X0 l5X0 l6X0 l0X1 l1X1 l2X1 l3X1 l4X1 l0YG l1YG l2YG l3YG l4YG l5YG l6YG l7YG l8YG
 go_wp2_with fail
 clear l0P0 l1P0 l2P0 l3P0 l4P0 l5P0 l6P0 ltP0 l0P1 l1P1 l2P1 l3P1 l4P1 ltP1 l0YW l1YW l2YW l3YW l4YW l5YW l6YW l7YW l8YW ltYW l0X0 l1X0 l2X0 l3X0 l4X0 l5X0 l6X0 ltX0 l0X1 l1X1 l2X1 l3X1 l4X1 ltX1 l0YG l1YG l2YG l3YG l4YG l5YG l6YG l7YG l8YG ltYG
 have l0P1 := (uh P1).at 0 _ rfl
 have l1P1 := (uh P1).at 1 _ rfl
 have l2P1 := (uh P1).at 2 _ rfl
 have l3P1 := (uh P1).at 3 _ rfl
 have l4P1 := (uh P1).at 4 _ rfl
 have ltP1 : w.heap.size + 1 < wU0.heap.size := by omega
 have l0X1 := (uh X1).at 0 _ rfl
 have l1X1 := (uh X1).at 1 _ rfl
 have l2X1 := (uh X1).at 2 _ rfl
 have l3X1 := (uh X1).at 3 _ rfl
 have l4X1 := (uh X1).at 4 _ rfl
 have ltX1 : w7.heap.size < wU0.heap.size := by omega
 simp only [ga, gb, gc] at l0P1 l1P1 l2P1 l3P1 l4P1 l0X1 l1X1 l2X1 l3X1 l4X1
 refine wZz (fun w' => Below wU0.heap.size wU0 w') (Below.refl _ _).drew (fun zq => ?_)
 generalize wU0.drew = wD at zq ⊢
 refine tkJ 0 (v := ?vs10) ?hs10 zq ?rs10
 case hs10 =>
  intro wS hSw
  have y0P1 := (hSw.cell (p := ⟨w.heap.size + 1, 0, none⟩) ltP1).trans l0P1
  have y1P1 := (hSw.cell (p := ⟨w.heap.size + 1, 1, none⟩) ltP1).trans l1P1
  have y2P1 := (hSw.cell (p := ⟨w.heap.size + 1, 2, none⟩) ltP1).trans l2P1
  have y3P1 := (hSw.cell (p := ⟨w.heap.size + 1, 3, none⟩) ltP1).trans l3P1
  have y4P1 := (hSw.cell (p := ⟨w.heap.size + 1, 4, none⟩) ltP1).trans l4P1
  have y0X1 := cZ hSw ltX1 l0X1
  have y1X1 := cZ hSw ltX1 l1X1
  have y2X1 := cZ hSw ltX1 l2X1
  have y3X1 := cZ hSw ltX1 l3X1
  have y4X1 := cZ hSw ltX1 l4X1
  clear hSw
  exact fZ
 refine tkJ 1 (v := ?vs11) ?hs11 zq ?rs11
 case hs11 =>
  intro wS hSw
  have y0P1 := (hSw.cell (p := ⟨w.heap.size + 1, 0, none⟩) ltP1).trans l0P1
  have y1P1 := (hSw.cell (p := ⟨w.heap.size + 1, 1, none⟩) ltP1).trans l1P1
  have y2P1 := (hSw.cell (p := ⟨w.heap.size + 1, 2, none⟩) ltP1).trans l2P1
  have y3P1 := (hSw.cell (p := ⟨w.heap.size + 1, 3, none⟩) ltP1).trans l3P1
  have y4P1 := (hSw.cell (p := ⟨w.heap.size + 1, 4, none⟩) ltP1).trans l4P1
  have y0X1 := cZ hSw ltX1 l0X1
  have y1X1 := cZ hSw ltX1 l1X1
  have y2X1 := cZ hSw ltX1 l2X1
  have y3X1 := cZ hSw ltX1 l3X1
  have y4X1 := cZ hSw ltX1 l4X1
  clear hSw
  exact fZ
 refine rdH 2 (fun K hK => ?_)
 go_simp
 go_at_call 11
 refine (dP _ x1 _ ((uh HA1).reads.later zq) (uh HN1)).mono ?_
 rintro e wT ⟨vT, rfl, OT, hbw⟩
 have RT := OT.reads
 obtain ⟨a2T, d2T, rfl, -⟩ := aM RT
 try go_wp2_with fail
 refine hK.out _ _ (zq.trans (hbw.mono zq.size)) (fun zq => ?_)
 clear hK K
 try simp only [Act.put, pz, py, px]
 refine rdH 3 (fun K hK => ?_)
 go_simp
 go_at_call 15
 refine (jL _ _ x1 _ ((uh Hx1).reads.later zq) RT).mono ?_
 rintro e wU1 ⟨rfl, hbw⟩
 try go_wp2_with fail
 refine hK.out _ _ (zq.trans (hbw.mono zq.size)) (fun zq => ?_)
 clear hK K
 try simp only [Act.put, pz, py, px]
 refine tkH 4 zq ?_
 refine dZ ?_
 clear l0P1 l1P1 l2P1 l3P1 l4P1 ltP1 l0X1 l1X1 l2X1 l3X1 l4X1 ltX1 OT RT
 have hb : Below wU0.heap.size wU0 wU1 := zq
 clear zq hbw
 replace HA0 := yh ((uh HA0).later hb)
 replace HA1 := yh ((uh HA1).later hb)
 replace P0 := yh ((uh P0).ai hb)
 replace P1 := yh ((uh P1).ai hb)
 replace HW := yh ((uh HW).later hb)
 replace YW := yh ((uh YW).ai hb)
 replace Hx0 := yh ((uh Hx0).later hb)
 replace X0 := yh ((uh X0).ai hb)
 replace Hx1 := yh ((uh Hx1).later hb)
 replace X1 := yh ((uh X1).ai hb)
 replace HG := yh ((uh HG).later hb)
 replace YG := yh ((uh YG).ai hb)
 have ZwU1 : wU0.heap.size ≤ wU1.heap.size := hb.size
 replace HB := yh ((uh HB).trans (hb.mono (by omega)))
 clear hb
 have l0P0 := (uh P0).at 0 _ rfl
 have l1P0 := (uh P0).at 1 _ rfl
 have l2P0 := (uh P0).at 2 _ rfl
 have l3P0 := (uh P0).at 3 _ rfl
 have l4P0 := (uh P0).at 4 _ rfl
 have l5P0 := (uh P0).at 5 _ rfl
 have l6P0 := (uh P0).at 6 _ rfl
 have ltP0 : w.heap.size < wU1.heap.size := by omega
 have l0P1 := (uh P1).at 0 _ rfl
 have l1P1 := (uh P1).at 1 _ rfl
 have l2P1 := (uh P1).at 2 _ rfl
 have l3P1 := (uh P1).at 3 _ rfl
 have l4P1 := (uh P1).at 4 _ rfl
 have ltP1 : w.heap.size + 1 < wU1.heap.size := by omega
 have l0YW := (uh YW).at 0 _ rfl
 have l1YW := (uh YW).at 1 _ rfl
 have l2YW := (uh YW).at 2 _ rfl
 have l3YW := (uh YW).at 3 _ rfl
 have l4YW := (uh YW).at 4 _ rfl
 have l5YW := (uh YW).at 5 _ rfl
 have l6YW := (uh YW).at 6 _ rfl
 have l7YW := (uh YW).at 7 _ rfl
 have l8YW := (uh YW).at 8 _ rfl
 have ltYW : sW < wU1.heap.size := by omega
 have l0X0 := (uh X0).at 0 _ rfl
 have l1X0 := (uh X0).at 1 _ rfl
 have l2X0 := (uh X0).at 2 _ rfl
 have l3X0 := (uh X0).at 3 _ rfl
 have l4X0 := (uh X0).at 4 _ rfl
 have l5X0 := (uh X0).at 5 _ rfl
 have l6X0 := (uh X0).at 6 _ rfl
 have ltX0 : w5.heap.size < wU1.heap.size := by omega
 have l0X1 := (uh X1).at 0 _ rfl
 have l1X1 := (uh X1).at 1 _ rfl
 have l2X1 := (uh X1).at 2 _ rfl
 have l3X1 := (uh X1).at 3 _ rfl
 have l4X1 := (uh X1).at 4 _ rfl
 have ltX1 : w7.heap.size < wU1.heap.size := by omega
 have l0YG := (uh YG).at 0 _ rfl
 have l1YG := (uh YG).at 1 _ rfl
 have l2YG := (uh YG).at 2 _ rfl
 have l3YG := (uh YG).at 3 _ rfl
 have l4YG := (uh YG).at 4 _ rfl
 have l5YG := (uh YG).at 5 _ rfl
 have l6YG := (uh YG).at 6 _ rfl
 have l7YG := (uh YG).at 7 _ rfl
 have l8YG := (uh YG).at 8 _ rfl
 have ltYG : w9.heap.size < wU1.heap.size := by omega
 simp only [ga, gb, gc] at l0P0 l1P0 l2P0 l3P0 l4P0 l5P0 l6P0 l0P1 l1P1 l2P1 l3P1 l4P1 l0YW l1YW l2YW l3YW l4YW l5YW l6YW l7YW l8YW l0X0 l1X0 l2X0 l3X0 l4X0 l5X0 l6X0 l0X1 l1X1 l2X1 l3X1 l4X1 l0YG l1YG l2YG l3YG l4YG l5YG l6YG l7YG l8YG
 go_wp2_with fail
 clear l0P0 l1P0 l2P0 l3P0 l4P0 l5P0 l6P0 ltP0 l0P1 l1P1 l2P1 l3P1 l4P1 ltP1 l0YW l1YW l2YW l3YW l4YW l5YW l6YW l7YW l8YW ltYW l0X0 l1X0 l2X0 l3X0 l4X0 l5X0 l6X0 ltX0 l0X1 l1X1 l2X1 l3X1 l4X1 ltX1 l0YG l1YG l2YG l3YG l4YG l5YG l6YG l7YG l8YG ltYG
 obtain ⟨bl, O, hbl⟩ := uh Hx0
 clear Hx0
 have HCx0 := lO (A := ab.aF) (eO (bf bz (bf bz (bf (eO (bf bz (fc bz))) (bf (fc (eO (bf bz (bf rT (bf bz (bf bz (bf (fc (eO (bf bz (bf bz (bf (fc bz) (bf bz bz)))))) (bf bz bz)))))))) (bf (fc (eO (bf bz (bf bz (bf bz (bf bz (bf bz (eO (bf bz (bf bz (bf (fc bz) (bf bz bz)))))))))))) (fc (eO (bf bz (bf bz (bf bz (bf bz (bf (fc bz) (bf bz (bf bz (bf bz (bf bz (bf (fc bz) (fc (eO (bf bz bz))))))))))))))))))))) (uh HN0) (by omega)
 refine (jB _ x0 bl (1) wU1 O (by omega) (by omega)).mono ?_
 rintro e w14 ⟨rfl, -, E⟩
 replace E := E.mono (S' := within w4.heap.size w5.heap.size) fun b _ hb => hbl b hb
 clear hbl O
 have zlo : w.heap.size ≤ w4.heap.size ∧ w5.heap.size ≤ wU1.heap.size := by omega
 replace HA0 := yh ((uh HA0).ext E (cK (by omega)))
 replace HA1 := yh ((uh HA1).ext E (cK (by omega)))
 replace P0 := yh ((uh P0).ext E (fun q => by simp only [within] at q; omega))
 replace P1 := yh ((uh P1).ext E (fun q => by simp only [within] at q; omega))
 replace HW := yh ((uh HW).ext E (cK (by omega)))
 replace YW := yh ((uh YW).ext E (fun q => by simp only [within] at q; omega))
 replace X0 := yh ((uh X0).ext E (fun q => by simp only [within] at q; omega))
 replace Hx1 := yh ((uh Hx1).ext E (cK (by omega)))
 replace X1 := yh ((uh X1).ext E (fun q => by simp only [within] at q; omega))
 replace HG := yh ((uh HG).ext E (cK (by omega)))
 replace YG := yh ((uh YG).ext E (fun q => by simp only [within] at q; omega))
 have Zw14 : wU1.heap.size ≤ w14.heap.size := E.size
 replace HB := yh ((uh HB).trans (E.below (by omega) (fun k h q => by simp only [within] at q; omega)))
 clear E
 clear zlo
 have l0P0 := (uh P0).at 0 _ rfl
 have l1P0 := (uh P0).at 1 _ rfl
 have l2P0 := (uh P0).at 2 _ rfl
 have l3P0 := (uh P0).at 3 _ rfl
 have l4P0 := (uh P0).at 4 _ rfl
 have l5P0 := (uh P0).at 5 _ rfl
 have l6P0 := (uh P0).at 6 _ rfl
 have ltP0 : w.heap.size < w14.heap.size := by omega
 have l0P1 := (uh P1).at 0 _ rfl
 have l1P1 := (uh P1).at 1 _ rfl
 have l2P1 := (uh P1).at 2 _ rfl
 have l3P1 := (uh P1).at 3 _ rfl
 have l4P1 := (uh P1).at 4 _ rfl
 have ltP1 : w.heap.size + 1 < w14.heap.size := by omega
 have l0YW := (uh YW).at 0 _ rfl
 have l1YW := (uh YW).at 1 _ rfl
 have l2YW := (uh YW).at 2 _ rfl
 have l3YW := (uh YW).at 3 _ rfl
 have l4YW := (uh YW).at 4 _ rfl
 have l5YW := (uh YW).at 5 _ rfl
 have l6YW := (uh YW).at 6 _ rfl
 have l7YW := (uh YW).at 7 _ rfl
 have l8YW := (uh YW).at 8 _ rfl
 have ltYW : sW < w14.heap.size := by omega
 have l0X0 := (uh X0).at 0 _ rfl
 have l1X0 := (uh X0).at 1 _ rfl
 have l2X0 := (uh X0).at 2 _ rfl
 have l3X0 := (uh X0).at 3 _ rfl
 have l4X0 := (uh X0).at 4 _ rfl
 have l5X0 := (uh X0).at 5 _ rfl
 have l6X0 := (uh X0).at 6 _ rfl
 have ltX0 : w5.heap.size < w14.heap.size := by omega
 have l0X1 := (uh X1).at 0 _ rfl
 have l1X1 := (uh X1).at 1 _ rfl
 have l2X1 := (uh X1).at 2 _ rfl
 have l3X1 := (uh X1).at 3 _ rfl
 have l4X1 := (uh X1).at 4 _ rfl
 have ltX1 : w7.heap.size < w14.heap.size := by omega
 have l0YG := (uh YG).at 0 _ rfl
 have l1YG := (uh YG).at 1 _ rfl
 have l2YG := (uh YG).at 2 _ rfl
 have l3YG := (uh YG).at 3 _ rfl
 have l4YG := (uh YG).at 4 _ rfl
 have l5YG := (uh YG).at 5 _ rfl
 have l6YG := (uh YG).at 6 _ rfl
 have l7YG := (uh YG).at 7 _ rfl
 have l8YG := (uh YG).at 8 _ rfl
 have ltYG : w9.heap.size < w14.heap.size := by omega
 simp only [ga, gb, gc] at l0P0 l1P0 l2P0 l3P0 l4P0 l5P0 l6P0 l0P1 l1P1 l2P1 l3P1 l4P1 l0YW l1YW l2YW l3YW l4YW l5YW l6YW l7YW l8YW l0X0 l1X0 l2X0 l3X0 l4X0 l5X0 l6X0 l0X1 l1X1 l2X1 l3X1 l4X1 l0YG l1YG l2YG l3YG l4YG l5YG l6YG l7YG l8YG
 go_wp2_with fail
 clear l0P0 l1P0 l2P0 l3P0 l4P0 l5P0 l6P0 ltP0 l0P1 l1P1 l2P1 l3P1 l4P1 ltP1 l0YW l1YW l2YW l3YW l4YW l5YW l6YW l7YW l8YW ltYW l0X0 l1X0 l2X0 l3X0 l4X0 l5X0 l6X0 ltX0 l0X1 l1X1 l2X1 l3X1 l4X1 ltX1 l0YG l1YG l2YG l3YG l4YG l5YG l6YG l7YG l8YG ltYG
 obtain ⟨bl, O, hbl⟩ := uh Hx1
 clear Hx1
 have HCx1 := lO (A := ab.ag) (eO (bf bz (bf bz (bf (fc bz) (bf bz bz))))) (uh HN1) (by omega)
 refine (oQ _ x1 bl (1 + (ab.aF.ak x0 : Int)) w14 O (by omega) (by omega)).mono ?_
 rintro e w15 ⟨rfl, -, E⟩
 replace E := E.mono (S' := within w6.heap.size w7.heap.size) fun b _ hb => hbl b hb
 clear hbl O
 have zlo : w.heap.size ≤ w6.heap.size ∧ w7.heap.size ≤ w14.heap.size := by omega
 replace HA0 := yh ((uh HA0).ext E (cK (by omega)))
 replace HA1 := yh ((uh HA1).ext E (cK (by omega)))
 replace P0 := yh ((uh P0).ext E (fun q => by simp only [within] at q; omega))
 replace P1 := yh ((uh P1).ext E (fun q => by simp only [within] at q; omega))
 replace HW := yh ((uh HW).ext E (cK (by omega)))
 replace YW := yh ((uh YW).ext E (fun q => by simp only [within] at q; omega))
 replace X0 := yh ((uh X0).ext E (fun q => by simp only [within] at q; omega))
 replace X1 := yh ((uh X1).ext E (fun q => by simp only [within] at q; omega))
 replace HG := yh ((uh HG).ext E (cK (by omega)))
 replace YG := yh ((uh YG).ext E (fun q => by simp only [within] at q; omega))
 have Zw15 : w14.heap.size ≤ w15.heap.size := E.size
 replace HB := yh ((uh HB).trans (E.below (by omega) (fun k h q => by simp only [within] at q; omega)))
 clear E
 clear zlo
 obtain ⟨mk, hmk⟩ : ∃ mk : Int, mk = 1 + (ab.aF.ak x0 : Int) + (ab.ag.ak x1 : Int) := ⟨_, rfl⟩
 rw [← hmk]
 have hm3 : decide (mk < 0) = false := decide_eq_false (by omega)
 clear hmk HCx0 HCx1
 have l0P0 := (uh P0).at 0 _ rfl
 have l1P0 := (uh P0).at 1 _ rfl
 have l2P0 := (uh P0).at 2 _ rfl
 have l3P0 := (uh P0).at 3 _ rfl
 have l4P0 := (uh P0).at 4 _ rfl
 have l5P0 := (uh P0).at 5 _ rfl
 have l6P0 := (uh P0).at 6 _ rfl
 have ltP0 : w.heap.size < w15.heap.size := by omega
 have l0P1 := (uh P1).at 0 _ rfl
 have l1P1 := (uh P1).at 1 _ rfl
 have l2P1 := (uh P1).at 2 _ rfl
 have l3P1 := (uh P1).at 3 _ rfl
 have l4P1 := (uh P1).at 4 _ rfl
 have ltP1 : w.heap.size + 1 < w15.heap.size := by omega
 have l0YW := (uh YW).at 0 _ rfl
 have l1YW := (uh YW).at 1 _ rfl
 have l2YW := (uh YW).at 2 _ rfl
 have l3YW := (uh YW).at 3 _ rfl
 have l4YW := (uh YW).at 4 _ rfl
 have l5YW := (uh YW).at 5 _ rfl
 have l6YW := (uh YW).at 6 _ rfl
 have l7YW := (uh YW).at 7 _ rfl
 have l8YW := (uh YW).at 8 _ rfl
 have ltYW : sW < w15.heap.size := by omega
 have l0X0 := (uh X0).at 0 _ rfl
 have l1X0 := (uh X0).at 1 _ rfl
 have l2X0 := (uh X0).at 2 _ rfl
 have l3X0 := (uh X0).at 3 _ rfl
 have l4X0 := (uh X0).at 4 _ rfl
 have l5X0 := (uh X0).at 5 _ rfl
 have l6X0 := (uh X0).at 6 _ rfl
 have ltX0 : w5.heap.size < w15.heap.size := by omega
 have l0X1 := (uh X1).at 0 _ rfl
 have l1X1 := (uh X1).at 1 _ rfl
 have l2X1 := (uh X1).at 2 _ rfl
 have l3X1 := (uh X1).at 3 _ rfl
 have l4X1 := (uh X1).at 4 _ rfl
 have ltX1 : w7.heap.size < w15.heap.size := by omega
 have l0YG := (uh YG).at 0 _ rfl
 have l1YG := (uh YG).at 1 _ rfl
 have l2YG := (uh YG).at 2 _ rfl
 have l3YG := (uh YG).at 3 _ rfl
 have l4YG := (uh YG).at 4 _ rfl
 have l5YG := (uh YG).at 5 _ rfl
 have l6YG := (uh YG).at 6 _ rfl
 have l7YG := (uh YG).at 7 _ rfl
 have l8YG := (uh YG).at 8 _ rfl
 have ltYG : w9.heap.size < w15.heap.size := by omega
 simp only [ga, gb, gc] at l0P0 l1P0 l2P0 l3P0 l4P0 l5P0 l6P0 l0P1 l1P1 l2P1 l3P1 l4P1 l0YW l1YW l2YW l3YW l4YW l5YW l6YW l7YW l8YW l0X0 l1X0 l2X0 l3X0 l4X0 l5X0 l6X0 l0X1 l1X1 l2X1 l3X1 l4X1 l0YG l1YG l2YG l3YG l4YG l5YG l6YG l7YG l8YG
 go_wp2_with fail
 clear l0P0 l1P0 l2P0 l3P0 l4P0 l5P0 l6P0 ltP0 l0P1 l1P1 l2P1 l3P1 l4P1 ltP1 l0YW l1YW l2YW l3YW l4YW l5YW l6YW l7YW l8YW ltYW l0X0 l1X0 l2X0 l3X0 l4X0 l5X0 l6X0 ltX0 l0X1 l1X1 l2X1 l3X1 l4X1 ltX1 l0YG l1YG l2YG l3YG l4YG l5YG l6YG l7YG l8YG ltYG
 refine (eW _ _ y w15 (uh HG).reads (uh HW).reads).mono ?_
 rintro e w16 ⟨rfl, hb⟩
 replace HA0 := yh ((uh HA0).later hb)
 replace HA1 := yh ((uh HA1).later hb)
 replace P0 := yh ((uh P0).ai hb)
 replace P1 := yh ((uh P1).ai hb)
 replace HW := yh ((uh HW).later hb)
 replace YW := yh ((uh YW).ai hb)
 replace X0 := yh ((uh X0).ai hb)
 replace X1 := yh ((uh X1).ai hb)
 replace HG := yh ((uh HG).later hb)
 replace YG := yh ((uh YG).ai hb)
 have Zw16 : w15.heap.size ≤ w16.heap.size := hb.size
 replace HB := yh ((uh HB).trans (hb.mono (by omega)))
 clear hb
 clear hm3
 have l0P0 := (uh P0).at 0 _ rfl
 have l1P0 := (uh P0).at 1 _ rfl
 have l2P0 := (uh P0).at 2 _ rfl
 have l3P0 := (uh P0).at 3 _ rfl
 have l4P0 := (uh P0).at 4 _ rfl
 have l5P0 := (uh P0).at 5 _ rfl
 have l6P0 := (uh P0).at 6 _ rfl
 have ltP0 : w.heap.size < w16.heap.size := by omega
 have l0P1 := (uh P1).at 0 _ rfl
 have l1P1 := (uh P1).at 1 _ rfl
 have l2P1 := (uh P1).at 2 _ rfl
 have l3P1 := (uh P1).at 3 _ rfl
 have l4P1 := (uh P1).at 4 _ rfl
 have ltP1 : w.heap.size + 1 < w16.heap.size := by omega
 have l0YW := (uh YW).at 0 _ rfl
 have l1YW := (uh YW).at 1 _ rfl
 have l2YW := (uh YW).at 2 _ rfl
 have l3YW := (uh YW).at 3 _ rfl
 have l4YW := (uh YW).at 4 _ rfl
 have l5YW := (uh YW).at 5 _ rfl
 have l6YW := (uh YW).at 6 _ rfl
 have l7YW := (uh YW).at 7 _ rfl
 have l8YW := (uh YW).at 8 _ rfl
 have ltYW : sW < w16.heap.size := by omega
 have l0X0 := (uh X0).at 0 _ rfl
 have l1X0 := (uh X0).at 1 _ rfl
 have l2X0 := (uh X0).at 2 _ rfl
 have l3X0 := (uh X0).at 3 _ rfl
 have l4X0 := (uh X0).at 4 _ rfl
 have l5X0 := (uh X0).at 5 _ rfl
 have l6X0 := (uh X0).at 6 _ rfl
 have ltX0 : w5.heap.size < w16.heap.size := by omega
 have l0X1 := (uh X1).at 0 _ rfl
 have l1X1 := (uh X1).at 1 _ rfl
 have l2X1 := (uh X1).at 2 _ rfl
 have l3X1 := (uh X1).at 3 _ rfl
 have l4X1 := (uh X1).at 4 _ rfl
 have ltX1 : w7.heap.size < w16.heap.size := by omega
 have l0YG := (uh YG).at 0 _ rfl
 have l1YG := (uh YG).at 1 _ rfl
 have l2YG := (uh YG).at 2 _ rfl
 have l3YG := (uh YG).at 3 _ rfl
 have l4YG := (uh YG).at 4 _ rfl
 have l5YG := (uh YG).at 5 _ rfl
 have l6YG := (uh YG).at 6 _ rfl
 have l7YG := (uh YG).at 7 _ rfl
 have l8YG := (uh YG).at 8 _ rfl
 have ltYG : w9.heap.size < w16.heap.size := by omega
 simp only [ga, gb, gc] at l0P0 l1P0 l2P0 l3P0 l4P0 l5P0 l6P0 l0P1 l1P1 l2P1 l3P1 l4P1 l0YW l1YW l2YW l3YW l4YW l5YW l6YW l7YW l8YW l0X0 l1X0 l2X0 l3X0 l4X0 l5X0 l6X0 l0X1 l1X1 l2X1 l3X1 l4X1 l0YG l1YG l2YG l3YG l4YG l5YG l6YG l7YG l8YG
 go_wp2_with fail
 clear l0P0 l1P0 l2P0 l3P0 l4P0 l5P0 l6P0 ltP0 l0P1 l1P1 l2P1 l3P1 l4P1 ltP1 l0YW l1YW l2YW l3YW l4YW l5YW l6YW l7YW l8YW ltYW l0X0 l1X0 l2X0 l3X0 l4X0 l5X0 l6X0 ltX0 l0X1 l1X1 l2X1 l3X1 l4X1 ltX1 l0YG l1YG l2YG l3YG l4YG l5YG l6YG l7YG l8YG ltYG
 obtain ⟨bl, O, hbl⟩ := uh HG
 clear HG
 have hcy := uh HC
 refine (iz _ y bl 1 w16 O (by omega) (by omega)).mono ?_
 rintro e w17 ⟨rfl, O2, E⟩
 replace E := E.mono (S' := within w8.heap.size w9.heap.size) fun b _ hb => hbl b hb
 have HG : Hid (ab.aE.aN w17 _ (ab.aE.cF 1 y) w8.heap.size w9.heap.size) := ⟨bl, O2, hbl⟩
 clear hbl O O2
 have zlo : w.heap.size ≤ w8.heap.size ∧ w9.heap.size ≤ w16.heap.size := by omega
 replace HA0 := yh ((uh HA0).ext E (cK (by omega)))
 replace HA1 := yh ((uh HA1).ext E (cK (by omega)))
 replace P0 := yh ((uh P0).ext E (fun q => by simp only [within] at q; omega))
 replace P1 := yh ((uh P1).ext E (fun q => by simp only [within] at q; omega))
 replace HW := yh ((uh HW).ext E (cK (by omega)))
 replace YW := yh ((uh YW).ext E (fun q => by simp only [within] at q; omega))
 replace X0 := yh ((uh X0).ext E (fun q => by simp only [within] at q; omega))
 replace X1 := yh ((uh X1).ext E (fun q => by simp only [within] at q; omega))
 replace YG := yh ((uh YG).ext E (fun q => by simp only [within] at q; omega))
 have Zw17 : w16.heap.size ≤ w17.heap.size := E.size
 replace HB := yh ((uh HB).trans (E.below (by omega) (fun k h q => by simp only [within] at q; omega)))
 clear E
 clear zlo
 have hq0 : decide (1 + (ab.aE.ak y : Int) < 0) = false := decide_eq_false (by omega)
 have hq1 : ((1 + (ab.aE.ak y : Int)) != (1 + (ab.aE.ak y : Int))) = false := by simp
 clear hcy
 have l0P0 := (uh P0).at 0 _ rfl
 have l1P0 := (uh P0).at 1 _ rfl
 have l2P0 := (uh P0).at 2 _ rfl
 have l3P0 := (uh P0).at 3 _ rfl
 have l4P0 := (uh P0).at 4 _ rfl
 have l5P0 := (uh P0).at 5 _ rfl
 have l6P0 := (uh P0).at 6 _ rfl
 have ltP0 : w.heap.size < w17.heap.size := by omega
 have l0P1 := (uh P1).at 0 _ rfl
 have l1P1 := (uh P1).at 1 _ rfl
 have l2P1 := (uh P1).at 2 _ rfl
 have l3P1 := (uh P1).at 3 _ rfl
 have l4P1 := (uh P1).at 4 _ rfl
 have ltP1 : w.heap.size + 1 < w17.heap.size := by omega
 have l0YW := (uh YW).at 0 _ rfl
 have l1YW := (uh YW).at 1 _ rfl
 have l2YW := (uh YW).at 2 _ rfl
 have l3YW := (uh YW).at 3 _ rfl
 have l4YW := (uh YW).at 4 _ rfl
 have l5YW := (uh YW).at 5 _ rfl
 have l6YW := (uh YW).at 6 _ rfl
 have l7YW := (uh YW).at 7 _ rfl
 have l8YW := (uh YW).at 8 _ rfl
 have ltYW : sW < w17.heap.size := by omega
 have l0X0 := (uh X0).at 0 _ rfl
 have l1X0 := (uh X0).at 1 _ rfl
 have l2X0 := (uh X0).at 2 _ rfl
 have l3X0 := (uh X0).at 3 _ rfl
 have l4X0 := (uh X0).at 4 _ rfl
 have l5X0 := (uh X0).at 5 _ rfl
 have l6X0 := (uh X0).at 6 _ rfl
 have ltX0 : w5.heap.size < w17.heap.size := by omega
 have l0X1 := (uh X1).at 0 _ rfl
 have l1X1 := (uh X1).at 1 _ rfl
 have l2X1 := (uh X1).at 2 _ rfl
 have l3X1 := (uh X1).at 3 _ rfl
 have l4X1 := (uh X1).at 4 _ rfl
 have ltX1 : w7.heap.size < w17.heap.size := by omega
 have l0YG := (uh YG).at 0 _ rfl
 have l1YG := (uh YG).at 1 _ rfl
 have l2YG := (uh YG).at 2 _ rfl
 have l3YG := (uh YG).at 3 _ rfl
 have l4YG := (uh YG).at 4 _ rfl
 have l5YG := (uh YG).at 5 _ rfl
 have l6YG := (uh YG).at 6 _ rfl
 have l7YG := (uh YG).at 7 _ rfl
 have l8YG := (uh YG).at 8 _ rfl
 have ltYG : w9.heap.size < w17.heap.size := by omega
 simp only [ga, gb, gc] at l0P0 l1P0 l2P0 l3P0 l4P0 l5P0 l6P0 l0P1 l1P1 l2P1 l3P1 l4P1 l0YW l1YW l2YW l3YW l4YW l5YW l6YW l7YW l8YW l0X0 l1X0 l2X0 l3X0 l4X0 l5X0 l6X0 l0X1 l1X1 l2X1 l3X1 l4X1 l0YG l1YG l2YG l3YG l4YG l5YG l6YG l7YG l8YG
 go_wp2_with fail
 clear l0P0 l1P0 l2P0 l3P0 l4P0 l5P0 l6P0 ltP0 l0P1 l1P1 l2P1 l3P1 l4P1 ltP1 l0YW l1YW l2YW l3YW l4YW l5YW l6YW l7YW l8YW ltYW l0X0 l1X0 l2X0 l3X0 l4X0 l5X0 l6X0 ltX0 l0X1 l1X1 l2X1 l3X1 l4X1 ltX1 l0YG l1YG l2YG l3YG l4YG l5YG l6YG l7YG l8YG ltYG
 refine (fL _ y 1 w17 (uh HG).reads (by omega) (by have := uh HC; omega)).mono ?_
 rintro e w18 ⟨rfl, hb⟩
 replace HA0 := yh ((uh HA0).later hb)
 replace HA1 := yh ((uh HA1).later hb)
 replace P0 := yh ((uh P0).ai hb)
 replace P1 := yh ((uh P1).ai hb)
 replace HW := yh ((uh HW).later hb)
 replace YW := yh ((uh YW).ai hb)
 replace X0 := yh ((uh X0).ai hb)
 replace X1 := yh ((uh X1).ai hb)
 replace YG := yh ((uh YG).ai hb)
 replace HG := yh ((uh HG).later hb)
 have Zw18 : w17.heap.size ≤ w18.heap.size := hb.size
 replace HB := yh ((uh HB).trans (hb.mono (by omega)))
 clear hb
 have l0P0 := (uh P0).at 0 _ rfl
 have l1P0 := (uh P0).at 1 _ rfl
 have l2P0 := (uh P0).at 2 _ rfl
 have l3P0 := (uh P0).at 3 _ rfl
 have l4P0 := (uh P0).at 4 _ rfl
 have l5P0 := (uh P0).at 5 _ rfl
 have l6P0 := (uh P0).at 6 _ rfl
 have ltP0 : w.heap.size < w18.heap.size := by omega
 have l0P1 := (uh P1).at 0 _ rfl
 have l1P1 := (uh P1).at 1 _ rfl
 have l2P1 := (uh P1).at 2 _ rfl
 have l3P1 := (uh P1).at 3 _ rfl
 have l4P1 := (uh P1).at 4 _ rfl
 have ltP1 : w.heap.size + 1 < w18.heap.size := by omega
 have l0YW := (uh YW).at 0 _ rfl
 have l1YW := (uh YW).at 1 _ rfl
 have l2YW := (uh YW).at 2 _ rfl
 have l3YW := (uh YW).at 3 _ rfl
 have l4YW := (uh YW).at 4 _ rfl
 have l5YW := (uh YW).at 5 _ rfl
 have l6YW := (uh YW).at 6 _ rfl
 have l7YW := (uh YW).at 7 _ rfl
 have l8YW := (uh YW).at 8 _ rfl
 have ltYW : sW < w18.heap.size := by omega
 have l0X0 := (uh X0).at 0 _ rfl
 have l1X0 := (uh X0).at 1 _ rfl
 have l2X0 := (uh X0).at 2 _ rfl
 have l3X0 := (uh X0).at 3 _ rfl
 have l4X0 := (uh X0).at 4 _ rfl
 have l5X0 := (uh X0).at 5 _ rfl
 have l6X0 := (uh X0).at 6 _ rfl
 have ltX0 : w5.heap.size < w18.heap.size := by omega
 have l0X1 := (uh X1).at 0 _ rfl
 have l1X1 := (uh X1).at 1 _ rfl
 have l2X1 := (uh X1).at 2 _ rfl
 have l3X1 := (uh X1).at 3 _ rfl
 have l4X1 := (uh X1).at 4 _ rfl
 have ltX1 : w7.heap.size < w18.heap.size := by omega
 have l0YG := (uh YG).at 0 _ rfl
 have l1YG := (uh YG).at 1 _ rfl
 have l2YG := (uh YG).at 2 _ rfl
 have l3YG := (uh YG).at 3 _ rfl
 have l4YG := (uh YG).at 4 _ rfl
 have l5YG := (uh YG).at 5 _ rfl
 have l6YG := (uh YG).at 6 _ rfl
 have l7YG := (uh YG).at 7 _ rfl
 have l8YG := (uh YG).at 8 _ rfl
 have ltYG : w9.heap.size < w18.heap.size := by omega
 simp only [ga, gb, gc] at l0P0 l1P0 l2P0 l3P0 l4P0 l5P0 l6P0 l0P1 l1P1 l2P1 l3P1 l4P1 l0YW l1YW l2YW l3YW l4YW l5YW l6YW l7YW l8YW l0X0 l1X0 l2X0 l3X0 l4X0 l5X0 l6X0 l0X1 l1X1 l2X1 l3X1 l4X1 l0YG l1YG l2YG l3YG l4YG l5YG l6YG l7YG l8YG
 go_upto_region 31 with fail
 clear l0P0 l1P0 l2P0 l3P0 l4P0 l5P0 l6P0 ltP0 l0P1 l1P1 l2P1 l3P1 l4P1 ltP1 l0YW l1YW l2YW l3YW l4YW l5YW l6YW l7YW l8YW ltYW l0X0 l1X0 l2X0 l3X0 l4X0 l5X0 l6X0 ltX0 l0X1 l1X1 l2X1 l3X1 l4X1 ltX1 l0YG l1YG l2YG l3YG l4YG l5YG l6YG l7YG l8YG ltYG
 have l0P0 := (uh P0).at 0 _ rfl
 have l1P0 := (uh P0).at 1 _ rfl
 have l2P0 := (uh P0).at 2 _ rfl
 have l3P0 := (uh P0).at 3 _ rfl
 have l4P0 := (uh P0).at 4 _ rfl
 have l5P0 := (uh P0).at 5 _ rfl
 have l6P0 := (uh P0).at 6 _ rfl
 have ltP0 : w.heap.size < w18.heap.size := by omega
 have l0P1 := (uh P1).at 0 _ rfl
 have l1P1 := (uh P1).at 1 _ rfl
 have l2P1 := (uh P1).at 2 _ rfl
 have l3P1 := (uh P1).at 3 _ rfl
 have l4P1 := (uh P1).at 4 _ rfl
 have ltP1 : w.heap.size + 1 < w18.heap.size := by omega
 simp only [ga, gb, gc] at l0P0 l1P0 l2P0 l3P0 l4P0 l5P0 l6P0 l0P1 l1P1 l2P1 l3P1 l4P1
 go_cut [13] from 75 to 79 (fun sL wx => ∃ (s0 : Nat) (a5K : Option Addr) (d5K : Nat) (a6K : Option Addr) (d6K : Nat) (a7K : Option Addr) (d7K : Nat) (a8K : Option Addr) (d8K : Nat), sL = .pointer (some ⟨s0, 0, none⟩) ∧ s0 < wx.heap.size ∧ aA w18.heap.size #[.int .i64 y.code, .bool y.aZ, .int .i64 y.world.now, .int .i64 y.world.events, .int .i64 y.world.chain.ae, .slice a5K y.world.chain.ids.length d5K, .slice a6K y.world.nodes.length d6K, .slice a7K y.world.msgs.length d7K, .slice a8K y.world.af.length d8K] 41 wx s0 ∧ ab.aE.Reads wx [.int .i64 y.code, .bool y.aZ, .int .i64 y.world.now, .int .i64 y.world.events, .int .i64 y.world.chain.ae, .slice a5K y.world.chain.ids.length d5K, .slice a6K y.world.nodes.length d6K, .slice a7K y.world.msgs.length d7K, .slice a8K y.world.af.length d8K] y ∧ Below w18.heap.size w18 wx)
 case first =>
  refine wZz (fun w' => Below w18.heap.size w18 w') (Below.refl _ _).drew (fun zq => ?_)
  generalize w18.drew = X0 at zq ⊢
  refine tkJ 0 (v := ?v0_1b) ?h0_1b zq ?r0_1b
  case h0_1b =>
   intro wS hSw
   have y0P0 := cZ hSw ltP0 l0P0
   have y1P0 := cZ hSw ltP0 l1P0
   have y2P0 := cZ hSw ltP0 l2P0
   have y3P0 := cZ hSw ltP0 l3P0
   have y4P0 := cZ hSw ltP0 l4P0
   have y5P0 := cZ hSw ltP0 l5P0
   have y6P0 := cZ hSw ltP0 l6P0
   have y0P1 := (hSw.cell (p := ⟨w.heap.size + 1, 0, none⟩) ltP1).trans l0P1
   have y1P1 := (hSw.cell (p := ⟨w.heap.size + 1, 1, none⟩) ltP1).trans l1P1
   have y2P1 := (hSw.cell (p := ⟨w.heap.size + 1, 2, none⟩) ltP1).trans l2P1
   have y3P1 := (hSw.cell (p := ⟨w.heap.size + 1, 3, none⟩) ltP1).trans l3P1
   have y4P1 := (hSw.cell (p := ⟨w.heap.size + 1, 4, none⟩) ltP1).trans l4P1
   clear hSw
   exact fZ
  refine tkJ 2 (v := ?v2_2b) ?h2_2b zq ?r2_2b
  case h2_2b =>
   intro wS hSw
   have y0P0 := cZ hSw ltP0 l0P0
   have y1P0 := cZ hSw ltP0 l1P0
   have y2P0 := cZ hSw ltP0 l2P0
   have y3P0 := cZ hSw ltP0 l3P0
   have y4P0 := cZ hSw ltP0 l4P0
   have y5P0 := cZ hSw ltP0 l5P0
   have y6P0 := cZ hSw ltP0 l6P0
   have y0P1 := (hSw.cell (p := ⟨w.heap.size + 1, 0, none⟩) ltP1).trans l0P1
   have y1P1 := (hSw.cell (p := ⟨w.heap.size + 1, 1, none⟩) ltP1).trans l1P1
   have y2P1 := (hSw.cell (p := ⟨w.heap.size + 1, 2, none⟩) ltP1).trans l2P1
   have y3P1 := (hSw.cell (p := ⟨w.heap.size + 1, 3, none⟩) ltP1).trans l3P1
   have y4P1 := (hSw.cell (p := ⟨w.heap.size + 1, 4, none⟩) ltP1).trans l4P1
   clear hSw
   exact fZ
  refine wpAnyH_ready (rs := [1, 5]) (by kernel_rfl) (by simp) ?_
  refine AllReadyH.cons (o := ⟨some 76, .call { callee := .value (.func 10), args := #[.tmp 75], argTypes := #[29] }, 39, "exact.go:4517", #[⟨0, .data⟩], none⟩) rfl (fun K hK => ?_) (AllReadyH.cons (o := te) rfl (fun K hK => ?_) AllReadyH.nil)
  ·
   go_simp
   go_at_call 10
   refine (fw _ x0 _ ((uh HA0).reads.later zq) (uh HN0)).mono ?_
   rintro e X3 ⟨vT0, rfl, OT, hbw⟩
   have rt0 := OT.reads
   obtain ⟨a3T0, d3T0, a4T0, d4T0, a5T0, d5T0, a6T0, d6T0, rfl, -, -, -, -⟩ := aK rt0
   clear OT
   try go_wp2_with fail
   refine hK.out _ _ (zq.trans (hbw.mono zq.size)) (fun zq => ?_)
   clear hK K hbw
   try simp only [Act.put, pz, py, px]
   refine wpAnyH_ready (rs := [3, 5]) (by kernel_rfl) (by simp) ?_
   refine AllReadyH.cons (o := ⟨some 78, .call { callee := .value (.func 11), args := #[.tmp 77], argTypes := #[31] }, 44, "exact.go:4517", #[⟨2, .data⟩, ⟨1, .chain⟩], none⟩) rfl (fun K hK => ?_) (AllReadyH.cons (o := te) rfl (fun K hK => ?_) AllReadyH.nil)
   ·
    go_simp
    go_at_call 11
    refine (dP _ x1 _ ((uh HA1).reads.later zq) (uh HN1)).mono ?_
    rintro e X4 ⟨vT1, rfl, OT, hbw⟩
    have rt1 := OT.reads
    obtain ⟨a2T1, d2T1, rfl, -⟩ := aM rt1
    replace rt0 := rt0.later hbw
    clear OT
    try go_wp2_with fail
    refine hK.out _ _ (zq.trans (hbw.mono zq.size)) (fun zq => ?_)
    clear hK K hbw
    try simp only [Act.put, pz, py, px]
    refine wpAnyH_ready (rs := [4, 5]) (by kernel_rfl) (by simp) ?_
    refine AllReadyH.cons (o := ⟨some 79, .call { callee := .value (.func 12), args := #[.tmp 76, .tmp 78], argTypes := #[39, 44] }, 41, "exact.go:4517", #[⟨1, .data⟩, ⟨3, .data⟩, ⟨3, .chain⟩], none⟩) rfl (fun K hK => ?_) (AllReadyH.cons (o := te) rfl (fun K hK => ?_) AllReadyH.nil)
    ·
     go_simp
     go_at_call 12
     refine (uh HI _ _ _ (((uh HT).later (uh HB)).later zq) rt0 rt1).mono ?_
     rintro e X5 ⟨cs, rfl, O, hbw⟩
     obtain ⟨a5K, d5K, a6K, d6K, a7K, d7K, a8K, d8K, rfl, -⟩ := br O.reads
     have hz9 := hbw.size
     have rd := O.bg
     clear O
     try go_wp2_with fail
     refine hK.out _ _ (zq.trans (hbw.mono zq.size)) (fun zq => ?_)
     clear hK K hbw hz9
     try simp only [Act.put, pz, py, px]
     clear rt0 rt1
     refine rdH 5 (fun K hK => ?_)
     have bx : aA w18.heap.size #[.int .i64 0, .bool false, .int .i64 0, .int .i64 0, .int .i64 0, .slice none 0 0, .slice none 0 0, .slice none 0 0, .slice none 0 0] 41 (X5.alloc (.cells #[.int .i64 0, .bool false, .int .i64 0, .int .i64 0, .int .i64 0, .slice none 0 0, .slice none 0 0, .slice none 0 0, .slice none 0 0] 41)) X5.heap.size := aD zq.size
     have nbA : Below X5.heap.size X5 (X5.alloc (.cells #[.int .i64 0, .bool false, .int .i64 0, .int .i64 0, .int .i64 0, .slice none 0 0, .slice none 0 0, .slice none 0 0, .slice none 0 0] 41)) := (Below.refl _ _).alloc (Nat.le_refl _) _
     replace rd := rd.later nbA
     have hNx := zq.trans (nbA.mono zq.size)
     go_simp
     refine hK.out _ _ hNx (fun zq => ?_)
     clear hK K hNx nbA
     try simp only [Act.put, pz, py, px]
     generalize X5.alloc (.cells #[.int .i64 0, .bool false, .int .i64 0, .int .i64 0, .int .i64 0, .slice none 0 0, .slice none 0 0, .slice none 0 0, .slice none 0 0] 41) = X6 at *
     refine rdH 6 (fun K hK => ?_)
     have z0 : X6.cell? ⟨X5.heap.size, 0, none⟩ = some (.int .i64 0) := bx.at 0 _ rfl
     have f0 := bx.soft 0
     have z1 : X6.cell? ⟨X5.heap.size, 1, none⟩ = some (.bool false) := bx.at 1 _ rfl
     have f1 := bx.soft 1
     have z2 : X6.cell? ⟨X5.heap.size, 2, none⟩ = some (.int .i64 0) := bx.at 2 _ rfl
     have f2 := bx.soft 2
     have z3 : X6.cell? ⟨X5.heap.size, 3, none⟩ = some (.int .i64 0) := bx.at 3 _ rfl
     have f3 := bx.soft 3
     have z4 : X6.cell? ⟨X5.heap.size, 4, none⟩ = some (.int .i64 0) := bx.at 4 _ rfl
     have f4 := bx.soft 4
     have z5 : X6.cell? ⟨X5.heap.size, 5, none⟩ = some (.slice none 0 0) := bx.at 5 _ rfl
     have f5 := bx.soft 5
     have z6 : X6.cell? ⟨X5.heap.size, 6, none⟩ = some (.slice none 0 0) := bx.at 6 _ rfl
     have f6 := bx.soft 6
     have z7 : X6.cell? ⟨X5.heap.size, 7, none⟩ = some (.slice none 0 0) := bx.at 7 _ rfl
     have f7 := bx.soft 7
     have z8 : X6.cell? ⟨X5.heap.size, 8, none⟩ = some (.slice none 0 0) := bx.at 8 _ rfl
     have f8 := bx.soft 8
     have l0 := bx.lt
     have bx9 : aA w18.heap.size #[.int .i64 y.code, .bool y.aZ, .int .i64 y.world.now, .int .i64 y.world.events, .int .i64 y.world.chain.ae, .slice a5K y.world.chain.ids.length d5K, .slice a6K y.world.nodes.length d6K, .slice a7K y.world.msgs.length d7K, .slice a8K y.world.af.length d8K] 41 (aG X6 X5.heap.size 0 [.int .i64 y.code, .bool y.aZ, .int .i64 y.world.now, .int .i64 y.world.events, .int .i64 y.world.chain.ae, .slice a5K y.world.chain.ids.length d5K, .slice a6K y.world.nodes.length d6K, .slice a7K y.world.msgs.length d7K, .slice a8K y.world.af.length d8K]) X5.heap.size := cG bx _ _ _ _ _ _ _ _ _
     have hE9 : Ext (fun c => c = X5.heap.size) X6 (aG X6 X5.heap.size 0 [.int .i64 y.code, .bool y.aZ, .int .i64 y.world.now, .int .i64 y.world.events, .int .i64 y.world.chain.ae, .slice a5K y.world.chain.ids.length d5K, .slice a6K y.world.nodes.length d6K, .slice a7K y.world.msgs.length d7K, .slice a8K y.world.af.length d8K]) := bb _ (Ext.refl _ _) _ _ _ rfl
     have rd9 := (rd.ext hE9 (fun c h1 h2 h3 => by omega)).reads
     have hH9 : Below w18.heap.size w18 (aG X6 X5.heap.size 0 [.int .i64 y.code, .bool y.aZ, .int .i64 y.world.now, .int .i64 y.world.events, .int .i64 y.world.chain.ae, .slice a5K y.world.chain.ids.length d5K, .slice a6K y.world.nodes.length d6K, .slice a7K y.world.msgs.length d7K, .slice a8K y.world.af.length d8K]) := aB zq _ _ _ (by simpa using bx.1)
     clear bx rd hE9
     have bx := bx9
     have rd := rd9
     clear bx9 rd9
     go_simp
     refine hK.out _ _ hH9 (fun zq => ?_)
     clear hK K hH9 l0 z0 f0 z1 f1 z2 f2 z3 f3 z4 f4 z5 f5 z6 f6 z7 f7 z8 f8
     try simp only [Act.put, pz, py, px]
     refine dZ ?_
     have HH := yh zq
     have HBX := yh bx
     have HRD := yh rd
     clear zq bx rd
     go_wp2_with fail
     go_meet
     exact ⟨_, _, _, _, _, _, _, _, _, rfl, (uh HBX).lt, uh HBX, uh HRD, uh HH⟩
    have bx : aA w18.heap.size #[.int .i64 0, .bool false, .int .i64 0, .int .i64 0, .int .i64 0, .slice none 0 0, .slice none 0 0, .slice none 0 0, .slice none 0 0] 41 (X4.alloc (.cells #[.int .i64 0, .bool false, .int .i64 0, .int .i64 0, .int .i64 0, .slice none 0 0, .slice none 0 0, .slice none 0 0, .slice none 0 0] 41)) X4.heap.size := aD zq.size
    have nbA : Below X4.heap.size X4 (X4.alloc (.cells #[.int .i64 0, .bool false, .int .i64 0, .int .i64 0, .int .i64 0, .slice none 0 0, .slice none 0 0, .slice none 0 0, .slice none 0 0] 41)) := (Below.refl _ _).alloc (Nat.le_refl _) _
    replace rt0 := rt0.later nbA
    replace rt1 := rt1.later nbA
    have hNx := zq.trans (nbA.mono zq.size)
    go_simp
    refine hK.out _ _ hNx (fun zq => ?_)
    clear hK K hNx nbA
    try simp only [Act.put, pz, py, px]
    generalize X4.alloc (.cells #[.int .i64 0, .bool false, .int .i64 0, .int .i64 0, .int .i64 0, .slice none 0 0, .slice none 0 0, .slice none 0 0, .slice none 0 0] 41) = X8 at *
    refine rdH 4 (fun K hK => ?_)
    go_simp
    go_at_call 12
    refine (uh HI _ _ _ (((uh HT).later (uh HB)).later zq) rt0 rt1).mono ?_
    rintro e X9 ⟨cs, rfl, O, hbw⟩
    obtain ⟨a5K, d5K, a6K, d6K, a7K, d7K, a8K, d8K, rfl, -⟩ := br O.reads
    have hs0 := bx.lt
    replace bx := bx.ai hbw
    have hz9 := hbw.size
    have rd := O.bg
    clear O
    replace rd := rd.mono (lo' := X4.heap.size + 1) (by omega) (Nat.le_refl _)
    clear hs0
    try go_wp2_with fail
    refine hK.out _ _ (zq.trans (hbw.mono zq.size)) (fun zq => ?_)
    clear hK K hbw hz9
    try simp only [Act.put, pz, py, px]
    clear rt0 rt1
    refine rdH 6 (fun K hK => ?_)
    have z0 : X9.cell? ⟨X4.heap.size, 0, none⟩ = some (.int .i64 0) := bx.at 0 _ rfl
    have f0 := bx.soft 0
    have z1 : X9.cell? ⟨X4.heap.size, 1, none⟩ = some (.bool false) := bx.at 1 _ rfl
    have f1 := bx.soft 1
    have z2 : X9.cell? ⟨X4.heap.size, 2, none⟩ = some (.int .i64 0) := bx.at 2 _ rfl
    have f2 := bx.soft 2
    have z3 : X9.cell? ⟨X4.heap.size, 3, none⟩ = some (.int .i64 0) := bx.at 3 _ rfl
    have f3 := bx.soft 3
    have z4 : X9.cell? ⟨X4.heap.size, 4, none⟩ = some (.int .i64 0) := bx.at 4 _ rfl
    have f4 := bx.soft 4
    have z5 : X9.cell? ⟨X4.heap.size, 5, none⟩ = some (.slice none 0 0) := bx.at 5 _ rfl
    have f5 := bx.soft 5
    have z6 : X9.cell? ⟨X4.heap.size, 6, none⟩ = some (.slice none 0 0) := bx.at 6 _ rfl
    have f6 := bx.soft 6
    have z7 : X9.cell? ⟨X4.heap.size, 7, none⟩ = some (.slice none 0 0) := bx.at 7 _ rfl
    have f7 := bx.soft 7
    have z8 : X9.cell? ⟨X4.heap.size, 8, none⟩ = some (.slice none 0 0) := bx.at 8 _ rfl
    have f8 := bx.soft 8
    have l0 := bx.lt
    have bx9 : aA w18.heap.size #[.int .i64 y.code, .bool y.aZ, .int .i64 y.world.now, .int .i64 y.world.events, .int .i64 y.world.chain.ae, .slice a5K y.world.chain.ids.length d5K, .slice a6K y.world.nodes.length d6K, .slice a7K y.world.msgs.length d7K, .slice a8K y.world.af.length d8K] 41 (aG X9 X4.heap.size 0 [.int .i64 y.code, .bool y.aZ, .int .i64 y.world.now, .int .i64 y.world.events, .int .i64 y.world.chain.ae, .slice a5K y.world.chain.ids.length d5K, .slice a6K y.world.nodes.length d6K, .slice a7K y.world.msgs.length d7K, .slice a8K y.world.af.length d8K]) X4.heap.size := cG bx _ _ _ _ _ _ _ _ _
    have hE9 : Ext (fun c => c = X4.heap.size) X9 (aG X9 X4.heap.size 0 [.int .i64 y.code, .bool y.aZ, .int .i64 y.world.now, .int .i64 y.world.events, .int .i64 y.world.chain.ae, .slice a5K y.world.chain.ids.length d5K, .slice a6K y.world.nodes.length d6K, .slice a7K y.world.msgs.length d7K, .slice a8K y.world.af.length d8K]) := bb _ (Ext.refl _ _) _ _ _ rfl
    have rd9 := (rd.ext hE9 (fun c h1 h2 h3 => by omega)).reads
    have hH9 : Below w18.heap.size w18 (aG X9 X4.heap.size 0 [.int .i64 y.code, .bool y.aZ, .int .i64 y.world.now, .int .i64 y.world.events, .int .i64 y.world.chain.ae, .slice a5K y.world.chain.ids.length d5K, .slice a6K y.world.nodes.length d6K, .slice a7K y.world.msgs.length d7K, .slice a8K y.world.af.length d8K]) := aB zq _ _ _ (by simpa using bx.1)
    clear bx rd hE9
    have bx := bx9
    have rd := rd9
    clear bx9 rd9
    go_simp
    refine hK.out _ _ hH9 (fun zq => ?_)
    clear hK K hH9 l0 z0 f0 z1 f1 z2 f2 z3 f3 z4 f4 z5 f5 z6 f6 z7 f7 z8 f8
    try simp only [Act.put, pz, py, px]
    refine dZ ?_
    have HH := yh zq
    have HBX := yh bx
    have HRD := yh rd
    clear zq bx rd
    go_wp2_with fail
    go_meet
    exact ⟨_, _, _, _, _, _, _, _, _, rfl, (uh HBX).lt, uh HBX, uh HRD, uh HH⟩
   have bx : aA w18.heap.size #[.int .i64 0, .bool false, .int .i64 0, .int .i64 0, .int .i64 0, .slice none 0 0, .slice none 0 0, .slice none 0 0, .slice none 0 0] 41 (X3.alloc (.cells #[.int .i64 0, .bool false, .int .i64 0, .int .i64 0, .int .i64 0, .slice none 0 0, .slice none 0 0, .slice none 0 0, .slice none 0 0] 41)) X3.heap.size := aD zq.size
   have nbA : Below X3.heap.size X3 (X3.alloc (.cells #[.int .i64 0, .bool false, .int .i64 0, .int .i64 0, .int .i64 0, .slice none 0 0, .slice none 0 0, .slice none 0 0, .slice none 0 0] 41)) := (Below.refl _ _).alloc (Nat.le_refl _) _
   replace rt0 := rt0.later nbA
   have hNx := zq.trans (nbA.mono zq.size)
   go_simp
   refine hK.out _ _ hNx (fun zq => ?_)
   clear hK K hNx nbA
   try simp only [Act.put, pz, py, px]
   generalize X3.alloc (.cells #[.int .i64 0, .bool false, .int .i64 0, .int .i64 0, .int .i64 0, .slice none 0 0, .slice none 0 0, .slice none 0 0, .slice none 0 0] 41) = X11 at *
   refine rdH 3 (fun K hK => ?_)
   go_simp
   go_at_call 11
   refine (dP _ x1 _ ((uh HA1).reads.later zq) (uh HN1)).mono ?_
   rintro e X12 ⟨vT1, rfl, OT, hbw⟩
   have rt1 := OT.reads
   obtain ⟨a2T1, d2T1, rfl, -⟩ := aM rt1
   replace rt0 := rt0.later hbw
   replace bx := bx.ai hbw
   clear OT
   try go_wp2_with fail
   refine hK.out _ _ (zq.trans (hbw.mono zq.size)) (fun zq => ?_)
   clear hK K hbw
   try simp only [Act.put, pz, py, px]
   refine rdH 4 (fun K hK => ?_)
   go_simp
   go_at_call 12
   refine (uh HI _ _ _ (((uh HT).later (uh HB)).later zq) rt0 rt1).mono ?_
   rintro e X13 ⟨cs, rfl, O, hbw⟩
   obtain ⟨a5K, d5K, a6K, d6K, a7K, d7K, a8K, d8K, rfl, -⟩ := br O.reads
   have hs0 := bx.lt
   replace bx := bx.ai hbw
   have hz9 := hbw.size
   have rd := O.bg
   clear O
   replace rd := rd.mono (lo' := X3.heap.size + 1) (by omega) (Nat.le_refl _)
   clear hs0
   try go_wp2_with fail
   refine hK.out _ _ (zq.trans (hbw.mono zq.size)) (fun zq => ?_)
   clear hK K hbw hz9
   try simp only [Act.put, pz, py, px]
   clear rt0 rt1
   refine rdH 6 (fun K hK => ?_)
   have z0 : X13.cell? ⟨X3.heap.size, 0, none⟩ = some (.int .i64 0) := bx.at 0 _ rfl
   have f0 := bx.soft 0
   have z1 : X13.cell? ⟨X3.heap.size, 1, none⟩ = some (.bool false) := bx.at 1 _ rfl
   have f1 := bx.soft 1
   have z2 : X13.cell? ⟨X3.heap.size, 2, none⟩ = some (.int .i64 0) := bx.at 2 _ rfl
   have f2 := bx.soft 2
   have z3 : X13.cell? ⟨X3.heap.size, 3, none⟩ = some (.int .i64 0) := bx.at 3 _ rfl
   have f3 := bx.soft 3
   have z4 : X13.cell? ⟨X3.heap.size, 4, none⟩ = some (.int .i64 0) := bx.at 4 _ rfl
   have f4 := bx.soft 4
   have z5 : X13.cell? ⟨X3.heap.size, 5, none⟩ = some (.slice none 0 0) := bx.at 5 _ rfl
   have f5 := bx.soft 5
   have z6 : X13.cell? ⟨X3.heap.size, 6, none⟩ = some (.slice none 0 0) := bx.at 6 _ rfl
   have f6 := bx.soft 6
   have z7 : X13.cell? ⟨X3.heap.size, 7, none⟩ = some (.slice none 0 0) := bx.at 7 _ rfl
   have f7 := bx.soft 7
   have z8 : X13.cell? ⟨X3.heap.size, 8, none⟩ = some (.slice none 0 0) := bx.at 8 _ rfl
   have f8 := bx.soft 8
   have l0 := bx.lt
   have bx9 : aA w18.heap.size #[.int .i64 y.code, .bool y.aZ, .int .i64 y.world.now, .int .i64 y.world.events, .int .i64 y.world.chain.ae, .slice a5K y.world.chain.ids.length d5K, .slice a6K y.world.nodes.length d6K, .slice a7K y.world.msgs.length d7K, .slice a8K y.world.af.length d8K] 41 (aG X13 X3.heap.size 0 [.int .i64 y.code, .bool y.aZ, .int .i64 y.world.now, .int .i64 y.world.events, .int .i64 y.world.chain.ae, .slice a5K y.world.chain.ids.length d5K, .slice a6K y.world.nodes.length d6K, .slice a7K y.world.msgs.length d7K, .slice a8K y.world.af.length d8K]) X3.heap.size := cG bx _ _ _ _ _ _ _ _ _
   have hE9 : Ext (fun c => c = X3.heap.size) X13 (aG X13 X3.heap.size 0 [.int .i64 y.code, .bool y.aZ, .int .i64 y.world.now, .int .i64 y.world.events, .int .i64 y.world.chain.ae, .slice a5K y.world.chain.ids.length d5K, .slice a6K y.world.nodes.length d6K, .slice a7K y.world.msgs.length d7K, .slice a8K y.world.af.length d8K]) := bb _ (Ext.refl _ _) _ _ _ rfl
   have rd9 := (rd.ext hE9 (fun c h1 h2 h3 => by omega)).reads
   have hH9 : Below w18.heap.size w18 (aG X13 X3.heap.size 0 [.int .i64 y.code, .bool y.aZ, .int .i64 y.world.now, .int .i64 y.world.events, .int .i64 y.world.chain.ae, .slice a5K y.world.chain.ids.length d5K, .slice a6K y.world.nodes.length d6K, .slice a7K y.world.msgs.length d7K, .slice a8K y.world.af.length d8K]) := aB zq _ _ _ (by simpa using bx.1)
   clear bx rd hE9
   have bx := bx9
   have rd := rd9
   clear bx9 rd9
   go_simp
   refine hK.out _ _ hH9 (fun zq => ?_)
   clear hK K hH9 l0 z0 f0 z1 f1 z2 f2 z3 f3 z4 f4 z5 f5 z6 f6 z7 f7 z8 f8
   try simp only [Act.put, pz, py, px]
   refine dZ ?_
   have HH := yh zq
   have HBX := yh bx
   have HRD := yh rd
   clear zq bx rd
   go_wp2_with fail
   go_meet
   exact ⟨_, _, _, _, _, _, _, _, _, rfl, (uh HBX).lt, uh HBX, uh HRD, uh HH⟩
  have bx : aA w18.heap.size #[.int .i64 0, .bool false, .int .i64 0, .int .i64 0, .int .i64 0, .slice none 0 0, .slice none 0 0, .slice none 0 0, .slice none 0 0] 41 (X0.alloc (.cells #[.int .i64 0, .bool false, .int .i64 0, .int .i64 0, .int .i64 0, .slice none 0 0, .slice none 0 0, .slice none 0 0, .slice none 0 0] 41)) X0.heap.size := aD zq.size
  have nbA : Below X0.heap.size X0 (X0.alloc (.cells #[.int .i64 0, .bool false, .int .i64 0, .int .i64 0, .int .i64 0, .slice none 0 0, .slice none 0 0, .slice none 0 0, .slice none 0 0] 41)) := (Below.refl _ _).alloc (Nat.le_refl _) _
  have hNx := zq.trans (nbA.mono zq.size)
  go_simp
  refine hK.out _ _ hNx (fun zq => ?_)
  clear hK K hNx nbA
  try simp only [Act.put, pz, py, px]
  generalize X0.alloc (.cells #[.int .i64 0, .bool false, .int .i64 0, .int .i64 0, .int .i64 0, .slice none 0 0, .slice none 0 0, .slice none 0 0, .slice none 0 0] 41) = X15 at *
  refine rdH 1 (fun K hK => ?_)
  go_simp
  go_at_call 10
  refine (fw _ x0 _ ((uh HA0).reads.later zq) (uh HN0)).mono ?_
  rintro e X16 ⟨vT0, rfl, OT, hbw⟩
  have rt0 := OT.reads
  obtain ⟨a3T0, d3T0, a4T0, d4T0, a5T0, d5T0, a6T0, d6T0, rfl, -, -, -, -⟩ := aK rt0
  replace bx := bx.ai hbw
  clear OT
  try go_wp2_with fail
  refine hK.out _ _ (zq.trans (hbw.mono zq.size)) (fun zq => ?_)
  clear hK K hbw
  try simp only [Act.put, pz, py, px]
  refine rdH 3 (fun K hK => ?_)
  go_simp
  go_at_call 11
  refine (dP _ x1 _ ((uh HA1).reads.later zq) (uh HN1)).mono ?_
  rintro e X17 ⟨vT1, rfl, OT, hbw⟩
  have rt1 := OT.reads
  obtain ⟨a2T1, d2T1, rfl, -⟩ := aM rt1
  replace rt0 := rt0.later hbw
  replace bx := bx.ai hbw
  clear OT
  try go_wp2_with fail
  refine hK.out _ _ (zq.trans (hbw.mono zq.size)) (fun zq => ?_)
  clear hK K hbw
  try simp only [Act.put, pz, py, px]
  refine rdH 4 (fun K hK => ?_)
  go_simp
  go_at_call 12
  refine (uh HI _ _ _ (((uh HT).later (uh HB)).later zq) rt0 rt1).mono ?_
  rintro e X18 ⟨cs, rfl, O, hbw⟩
  obtain ⟨a5K, d5K, a6K, d6K, a7K, d7K, a8K, d8K, rfl, -⟩ := br O.reads
  have hs0 := bx.lt
  replace bx := bx.ai hbw
  have hz9 := hbw.size
  have rd := O.bg
  clear O
  replace rd := rd.mono (lo' := X0.heap.size + 1) (by omega) (Nat.le_refl _)
  clear hs0
  try go_wp2_with fail
  refine hK.out _ _ (zq.trans (hbw.mono zq.size)) (fun zq => ?_)
  clear hK K hbw hz9
  try simp only [Act.put, pz, py, px]
  clear rt0 rt1
  refine rdH 6 (fun K hK => ?_)
  have z0 : X18.cell? ⟨X0.heap.size, 0, none⟩ = some (.int .i64 0) := bx.at 0 _ rfl
  have f0 := bx.soft 0
  have z1 : X18.cell? ⟨X0.heap.size, 1, none⟩ = some (.bool false) := bx.at 1 _ rfl
  have f1 := bx.soft 1
  have z2 : X18.cell? ⟨X0.heap.size, 2, none⟩ = some (.int .i64 0) := bx.at 2 _ rfl
  have f2 := bx.soft 2
  have z3 : X18.cell? ⟨X0.heap.size, 3, none⟩ = some (.int .i64 0) := bx.at 3 _ rfl
  have f3 := bx.soft 3
  have z4 : X18.cell? ⟨X0.heap.size, 4, none⟩ = some (.int .i64 0) := bx.at 4 _ rfl
  have f4 := bx.soft 4
  have z5 : X18.cell? ⟨X0.heap.size, 5, none⟩ = some (.slice none 0 0) := bx.at 5 _ rfl
  have f5 := bx.soft 5
  have z6 : X18.cell? ⟨X0.heap.size, 6, none⟩ = some (.slice none 0 0) := bx.at 6 _ rfl
  have f6 := bx.soft 6
  have z7 : X18.cell? ⟨X0.heap.size, 7, none⟩ = some (.slice none 0 0) := bx.at 7 _ rfl
  have f7 := bx.soft 7
  have z8 : X18.cell? ⟨X0.heap.size, 8, none⟩ = some (.slice none 0 0) := bx.at 8 _ rfl
  have f8 := bx.soft 8
  have l0 := bx.lt
  have bx9 : aA w18.heap.size #[.int .i64 y.code, .bool y.aZ, .int .i64 y.world.now, .int .i64 y.world.events, .int .i64 y.world.chain.ae, .slice a5K y.world.chain.ids.length d5K, .slice a6K y.world.nodes.length d6K, .slice a7K y.world.msgs.length d7K, .slice a8K y.world.af.length d8K] 41 (aG X18 X0.heap.size 0 [.int .i64 y.code, .bool y.aZ, .int .i64 y.world.now, .int .i64 y.world.events, .int .i64 y.world.chain.ae, .slice a5K y.world.chain.ids.length d5K, .slice a6K y.world.nodes.length d6K, .slice a7K y.world.msgs.length d7K, .slice a8K y.world.af.length d8K]) X0.heap.size := cG bx _ _ _ _ _ _ _ _ _
  have hE9 : Ext (fun c => c = X0.heap.size) X18 (aG X18 X0.heap.size 0 [.int .i64 y.code, .bool y.aZ, .int .i64 y.world.now, .int .i64 y.world.events, .int .i64 y.world.chain.ae, .slice a5K y.world.chain.ids.length d5K, .slice a6K y.world.nodes.length d6K, .slice a7K y.world.msgs.length d7K, .slice a8K y.world.af.length d8K]) := bb _ (Ext.refl _ _) _ _ _ rfl
  have rd9 := (rd.ext hE9 (fun c h1 h2 h3 => by omega)).reads
  have hH9 : Below w18.heap.size w18 (aG X18 X0.heap.size 0 [.int .i64 y.code, .bool y.aZ, .int .i64 y.world.now, .int .i64 y.world.events, .int .i64 y.world.chain.ae, .slice a5K y.world.chain.ids.length d5K, .slice a6K y.world.nodes.length d6K, .slice a7K y.world.msgs.length d7K, .slice a8K y.world.af.length d8K]) := aB zq _ _ _ (by simpa using bx.1)
  clear bx rd hE9
  have bx := bx9
  have rd := rd9
  clear bx9 rd9
  go_simp
  refine hK.out _ _ hH9 (fun zq => ?_)
  clear hK K hH9 l0 z0 f0 z1 f1 z2 f2 z3 f3 z4 f4 z5 f5 z6 f6 z7 f7 z8 f8
  try simp only [Act.put, pz, py, px]
  refine dZ ?_
  have HH := yh zq
  have HBX := yh bx
  have HRD := yh rd
  clear zq bx rd
  go_wp2_with fail
  go_meet
  exact ⟨_, _, _, _, _, _, _, _, _, rfl, (uh HBX).lt, uh HBX, uh HRD, uh HH⟩
 case rest =>
 obtain ⟨sK, a5K, d5K, a6K, d6K, a7K, d7K, a8K, d8K, rfl, hsK, YB, O, hb⟩ := hcut
 obtain ⟨w19, hww19⟩ : ∃ q, q = wc := ⟨_, rfl⟩
 subst hww19
 clear l0P0 l1P0 l2P0 l3P0 l4P0 l5P0 l6P0 ltP0 l0P1 l1P1 l2P1 l3P1 l4P1 ltP1
 replace HA0 := yh ((uh HA0).later hb)
 replace HA1 := yh ((uh HA1).later hb)
 replace P0 := yh ((uh P0).ai hb)
 replace P1 := yh ((uh P1).ai hb)
 replace HW := yh ((uh HW).later hb)
 replace YW := yh ((uh YW).ai hb)
 replace X0 := yh ((uh X0).ai hb)
 replace X1 := yh ((uh X1).ai hb)
 replace YG := yh ((uh YG).ai hb)
 replace HG := yh ((uh HG).later hb)
 have Zw19 : w18.heap.size ≤ w19.heap.size := hb.size
 replace HB := yh ((uh HB).trans (hb.mono (by omega)))
 clear hb
 have YK := yh YB
 have HK := yh O.dd
 clear YB O
 have l0P0 := (uh P0).at 0 _ rfl
 have l1P0 := (uh P0).at 1 _ rfl
 have l2P0 := (uh P0).at 2 _ rfl
 have l3P0 := (uh P0).at 3 _ rfl
 have l4P0 := (uh P0).at 4 _ rfl
 have l5P0 := (uh P0).at 5 _ rfl
 have l6P0 := (uh P0).at 6 _ rfl
 have ltP0 : w.heap.size < w19.heap.size := by omega
 have l0P1 := (uh P1).at 0 _ rfl
 have l1P1 := (uh P1).at 1 _ rfl
 have l2P1 := (uh P1).at 2 _ rfl
 have l3P1 := (uh P1).at 3 _ rfl
 have l4P1 := (uh P1).at 4 _ rfl
 have ltP1 : w.heap.size + 1 < w19.heap.size := by omega
 have l0YW := (uh YW).at 0 _ rfl
 have l1YW := (uh YW).at 1 _ rfl
 have l2YW := (uh YW).at 2 _ rfl
 have l3YW := (uh YW).at 3 _ rfl
 have l4YW := (uh YW).at 4 _ rfl
 have l5YW := (uh YW).at 5 _ rfl
 have l6YW := (uh YW).at 6 _ rfl
 have l7YW := (uh YW).at 7 _ rfl
 have l8YW := (uh YW).at 8 _ rfl
 have ltYW : sW < w19.heap.size := by omega
 have l0X0 := (uh X0).at 0 _ rfl
 have l1X0 := (uh X0).at 1 _ rfl
 have l2X0 := (uh X0).at 2 _ rfl
 have l3X0 := (uh X0).at 3 _ rfl
 have l4X0 := (uh X0).at 4 _ rfl
 have l5X0 := (uh X0).at 5 _ rfl
 have l6X0 := (uh X0).at 6 _ rfl
 have ltX0 : w5.heap.size < w19.heap.size := by omega
 have l0X1 := (uh X1).at 0 _ rfl
 have l1X1 := (uh X1).at 1 _ rfl
 have l2X1 := (uh X1).at 2 _ rfl
 have l3X1 := (uh X1).at 3 _ rfl
 have l4X1 := (uh X1).at 4 _ rfl
 have ltX1 : w7.heap.size < w19.heap.size := by omega
 have l0YG := (uh YG).at 0 _ rfl
 have l1YG := (uh YG).at 1 _ rfl
 have l2YG := (uh YG).at 2 _ rfl
 have l3YG := (uh YG).at 3 _ rfl
 have l4YG := (uh YG).at 4 _ rfl
 have l5YG := (uh YG).at 5 _ rfl
 have l6YG := (uh YG).at 6 _ rfl
 have l7YG := (uh YG).at 7 _ rfl
 have l8YG := (uh YG).at 8 _ rfl
 have ltYG : w9.heap.size < w19.heap.size := by omega
 have l0YK := (uh YK).at 0 _ rfl
 have l1YK := (uh YK).at 1 _ rfl
 have l2YK := (uh YK).at 2 _ rfl
 have l3YK := (uh YK).at 3 _ rfl
 have l4YK := (uh YK).at 4 _ rfl
 have l5YK := (uh YK).at 5 _ rfl
 have l6YK := (uh YK).at 6 _ rfl
 have l7YK := (uh YK).at 7 _ rfl
 have l8YK := (uh YK).at 8 _ rfl
 have ltYK : sK < w19.heap.size := by omega
 simp only [ga, gb, gc] at l0P0 l1P0 l2P0 l3P0 l4P0 l5P0 l6P0 l0P1 l1P1 l2P1 l3P1 l4P1 l0YW l1YW l2YW l3YW l4YW l5YW l6YW l7YW l8YW l0X0 l1X0 l2X0 l3X0 l4X0 l5X0 l6X0 l0X1 l1X1 l2X1 l3X1 l4X1 l0YG l1YG l2YG l3YG l4YG l5YG l6YG l7YG l8YG l0YK l1YK l2YK l3YK l4YK l5YK l6YK l7YK l8YK
 go_wp2_with fail
 clear l0P0 l1P0 l2P0 l3P0 l4P0 l5P0 l6P0 ltP0 l0P1 l1P1 l2P1 l3P1 l4P1 ltP1 l0YW l1YW l2YW l3YW l4YW l5YW l6YW l7YW l8YW ltYW l0X0 l1X0 l2X0 l3X0 l4X0 l5X0 l6X0 ltX0 l0X1 l1X1 l2X1 l3X1 l4X1 ltX1 l0YG l1YG l2YG l3YG l4YG l5YG l6YG l7YG l8YG ltYG l0YK l1YK l2YK l3YK l4YK l5YK l6YK l7YK l8YK ltYK
 refine (eW _ _ y w19 (uh HK).reads (uh HW).reads).mono ?_
 rintro e w20 ⟨rfl, hb⟩
 replace HA0 := yh ((uh HA0).later hb)
 replace HA1 := yh ((uh HA1).later hb)
 replace P0 := yh ((uh P0).ai hb)
 replace P1 := yh ((uh P1).ai hb)
 replace HW := yh ((uh HW).later hb)
 replace YW := yh ((uh YW).ai hb)
 replace X0 := yh ((uh X0).ai hb)
 replace X1 := yh ((uh X1).ai hb)
 replace YG := yh ((uh YG).ai hb)
 replace HG := yh ((uh HG).later hb)
 replace HK := yh ((uh HK).later hb)
 replace YK := yh ((uh YK).ai hb)
 have Zw20 : w19.heap.size ≤ w20.heap.size := hb.size
 replace HB := yh ((uh HB).trans (hb.mono (by omega)))
 clear hb
 clear HK
 clear YK
 have l0P0 := (uh P0).at 0 _ rfl
 have l1P0 := (uh P0).at 1 _ rfl
 have l2P0 := (uh P0).at 2 _ rfl
 have l3P0 := (uh P0).at 3 _ rfl
 have l4P0 := (uh P0).at 4 _ rfl
 have l5P0 := (uh P0).at 5 _ rfl
 have l6P0 := (uh P0).at 6 _ rfl
 have ltP0 : w.heap.size < w20.heap.size := by omega
 have l0P1 := (uh P1).at 0 _ rfl
 have l1P1 := (uh P1).at 1 _ rfl
 have l2P1 := (uh P1).at 2 _ rfl
 have l3P1 := (uh P1).at 3 _ rfl
 have l4P1 := (uh P1).at 4 _ rfl
 have ltP1 : w.heap.size + 1 < w20.heap.size := by omega
 have l0YW := (uh YW).at 0 _ rfl
 have l1YW := (uh YW).at 1 _ rfl
 have l2YW := (uh YW).at 2 _ rfl
 have l3YW := (uh YW).at 3 _ rfl
 have l4YW := (uh YW).at 4 _ rfl
 have l5YW := (uh YW).at 5 _ rfl
 have l6YW := (uh YW).at 6 _ rfl
 have l7YW := (uh YW).at 7 _ rfl
 have l8YW := (uh YW).at 8 _ rfl
 have ltYW : sW < w20.heap.size := by omega
 have l0X0 := (uh X0).at 0 _ rfl
 have l1X0 := (uh X0).at 1 _ rfl
 have l2X0 := (uh X0).at 2 _ rfl
 have l3X0 := (uh X0).at 3 _ rfl
 have l4X0 := (uh X0).at 4 _ rfl
 have l5X0 := (uh X0).at 5 _ rfl
 have l6X0 := (uh X0).at 6 _ rfl
 have ltX0 : w5.heap.size < w20.heap.size := by omega
 have l0X1 := (uh X1).at 0 _ rfl
 have l1X1 := (uh X1).at 1 _ rfl
 have l2X1 := (uh X1).at 2 _ rfl
 have l3X1 := (uh X1).at 3 _ rfl
 have l4X1 := (uh X1).at 4 _ rfl
 have ltX1 : w7.heap.size < w20.heap.size := by omega
 have l0YG := (uh YG).at 0 _ rfl
 have l1YG := (uh YG).at 1 _ rfl
 have l2YG := (uh YG).at 2 _ rfl
 have l3YG := (uh YG).at 3 _ rfl
 have l4YG := (uh YG).at 4 _ rfl
 have l5YG := (uh YG).at 5 _ rfl
 have l6YG := (uh YG).at 6 _ rfl
 have l7YG := (uh YG).at 7 _ rfl
 have l8YG := (uh YG).at 8 _ rfl
 have ltYG : w9.heap.size < w20.heap.size := by omega
 simp only [ga, gb, gc] at l0P0 l1P0 l2P0 l3P0 l4P0 l5P0 l6P0 l0P1 l1P1 l2P1 l3P1 l4P1 l0YW l1YW l2YW l3YW l4YW l5YW l6YW l7YW l8YW l0X0 l1X0 l2X0 l3X0 l4X0 l5X0 l6X0 l0X1 l1X1 l2X1 l3X1 l4X1 l0YG l1YG l2YG l3YG l4YG l5YG l6YG l7YG l8YG
 go_wp2_with fail
 clear l0P0 l1P0 l2P0 l3P0 l4P0 l5P0 l6P0 ltP0 l0P1 l1P1 l2P1 l3P1 l4P1 ltP1 l0YW l1YW l2YW l3YW l4YW l5YW l6YW l7YW l8YW ltYW l0X0 l1X0 l2X0 l3X0 l4X0 l5X0 l6X0 ltX0 l0X1 l1X1 l2X1 l3X1 l4X1 ltX1 l0YG l1YG l2YG l3YG l4YG l5YG l6YG l7YG l8YG ltYG
 refine (fL _ y 1 w20 (uh HG).reads (by omega) (by have := uh HC; omega)).mono ?_
 rintro e w21 ⟨rfl, hb⟩
 replace HA0 := yh ((uh HA0).later hb)
 replace HA1 := yh ((uh HA1).later hb)
 replace P0 := yh ((uh P0).ai hb)
 replace P1 := yh ((uh P1).ai hb)
 replace HW := yh ((uh HW).later hb)
 replace YW := yh ((uh YW).ai hb)
 replace X0 := yh ((uh X0).ai hb)
 replace X1 := yh ((uh X1).ai hb)
 replace YG := yh ((uh YG).ai hb)
 replace HG := yh ((uh HG).later hb)
 have Zw21 : w20.heap.size ≤ w21.heap.size := hb.size
 replace HB := yh ((uh HB).trans (hb.mono (by omega)))
 clear hb
 have l0P0 := (uh P0).at 0 _ rfl
 have l1P0 := (uh P0).at 1 _ rfl
 have l2P0 := (uh P0).at 2 _ rfl
 have l3P0 := (uh P0).at 3 _ rfl
 have l4P0 := (uh P0).at 4 _ rfl
 have l5P0 := (uh P0).at 5 _ rfl
 have l6P0 := (uh P0).at 6 _ rfl
 have ltP0 : w.heap.size < w21.heap.size := by omega
 have l0P1 := (uh P1).at 0 _ rfl
 have l1P1 := (uh P1).at 1 _ rfl
 have l2P1 := (uh P1).at 2 _ rfl
 have l3P1 := (uh P1).at 3 _ rfl
 have l4P1 := (uh P1).at 4 _ rfl
 have ltP1 : w.heap.size + 1 < w21.heap.size := by omega
 have l0YW := (uh YW).at 0 _ rfl
 have l1YW := (uh YW).at 1 _ rfl
 have l2YW := (uh YW).at 2 _ rfl
 have l3YW := (uh YW).at 3 _ rfl
 have l4YW := (uh YW).at 4 _ rfl
 have l5YW := (uh YW).at 5 _ rfl
 have l6YW := (uh YW).at 6 _ rfl
 have l7YW := (uh YW).at 7 _ rfl
 have l8YW := (uh YW).at 8 _ rfl
 have ltYW : sW < w21.heap.size := by omega
 have l0X0 := (uh X0).at 0 _ rfl
 have l1X0 := (uh X0).at 1 _ rfl
 have l2X0 := (uh X0).at 2 _ rfl
 have l3X0 := (uh X0).at 3 _ rfl
 have l4X0 := (uh X0).at 4 _ rfl
 have l5X0 := (uh X0).at 5 _ rfl
 have l6X0 := (uh X0).at 6 _ rfl
 have ltX0 : w5.heap.size < w21.heap.size := by omega
 have l0X1 := (uh X1).at 0 _ rfl
 have l1X1 := (uh X1).at 1 _ rfl
 have l2X1 := (uh X1).at 2 _ rfl
 have l3X1 := (uh X1).at 3 _ rfl
 have l4X1 := (uh X1).at 4 _ rfl
 have ltX1 : w7.heap.size < w21.heap.size := by omega
 have l0YG := (uh YG).at 0 _ rfl
 have l1YG := (uh YG).at 1 _ rfl
 have l2YG := (uh YG).at 2 _ rfl
 have l3YG := (uh YG).at 3 _ rfl
 have l4YG := (uh YG).at 4 _ rfl
 have l5YG := (uh YG).at 5 _ rfl
 have l6YG := (uh YG).at 6 _ rfl
 have l7YG := (uh YG).at 7 _ rfl
 have l8YG := (uh YG).at 8 _ rfl
 have ltYG : w9.heap.size < w21.heap.size := by omega
 simp only [ga, gb, gc] at l0P0 l1P0 l2P0 l3P0 l4P0 l5P0 l6P0 l0P1 l1P1 l2P1 l3P1 l4P1 l0YW l1YW l2YW l3YW l4YW l5YW l6YW l7YW l8YW l0X0 l1X0 l2X0 l3X0 l4X0 l5X0 l6X0 l0X1 l1X1 l2X1 l3X1 l4X1 l0YG l1YG l2YG l3YG l4YG l5YG l6YG l7YG l8YG
 go_wp2_with fail
 clear l0P0 l1P0 l2P0 l3P0 l4P0 l5P0 l6P0 ltP0 l0P1 l1P1 l2P1 l3P1 l4P1 ltP1 l0YW l1YW l2YW l3YW l4YW l5YW l6YW l7YW l8YW ltYW l0X0 l1X0 l2X0 l3X0 l4X0 l5X0 l6X0 ltX0 l0X1 l1X1 l2X1 l3X1 l4X1 ltX1 l0YG l1YG l2YG l3YG l4YG l5YG l6YG l7YG l8YG ltYG
 go_ret
 exact ⟨rfl, uh HB⟩
theorem iN (u0 : List Value) (x0 : ay) (u1 : List Value) (x1 : aj) (w : World) (A0 : ab.aF.Reads w u0 x0) (A1 : ab.ag.Reads w u1 x1) (NS : 1048576 < ab.aF.sz x0 + ab.ag.sz x1) :
  Calls Tryz.prog 3 #[.agg u0.toArray, .agg u1.toArray] w fun e w' => e = .returned (.bool true) ∧ Below w.heap.size w w' := by
 obtain ⟨a3p0, d3p0, a4p0, d4p0, a5p0, d5p0, a6p0, d6p0, rfl, -, -, -, -⟩ := aK A0
 obtain ⟨a2p1, d2p1, rfl, -⟩ := aM A1
 have HA0 := yh A0.dd
 clear A0
 have HA1 := yh A1.dd
 clear A1
 have HB := yh (Below.refl w.heap.size w)
 go_enter Tryz.func3, Tryz.ntmps3
 go_wp2_with fail
 have nb : Below w.heap.size w ((w.alloc (.cells #[.int .i64 x0.now, .int .i64 x0.events, .int .i64 x0.chain.ae, .slice a3p0 x0.chain.ids.length d3p0, .slice a4p0 x0.nodes.length d4p0, .slice a5p0 x0.msgs.length d5p0, .slice a6p0 x0.af.length d6p0] 29)).alloc (.cells #[.int .i64 x1.kind, .int .i64 x1.id, .slice a2p1 x1.vec.length d2p1, .int .i64 x1.aa, .int .i64 x1.seq] 31)) := ((Below.refl w.heap.size w).alloc (Nat.le_refl _) _).alloc (by simp) _
 have P0 : Hid (aA w.heap.size #[.int .i64 x0.now, .int .i64 x0.events, .int .i64 x0.chain.ae, .slice a3p0 x0.chain.ids.length d3p0, .slice a4p0 x0.nodes.length d4p0, .slice a5p0 x0.msgs.length d5p0, .slice a6p0 x0.af.length d6p0] 29 ((w.alloc (.cells #[.int .i64 x0.now, .int .i64 x0.events, .int .i64 x0.chain.ae, .slice a3p0 x0.chain.ids.length d3p0, .slice a4p0 x0.nodes.length d4p0, .slice a5p0 x0.msgs.length d5p0, .slice a6p0 x0.af.length d6p0] 29)).alloc (.cells #[.int .i64 x1.kind, .int .i64 x1.id, .slice a2p1 x1.vec.length d2p1, .int .i64 x1.aa, .int .i64 x1.seq] 31)) (w.heap.size)) := (bm (by omega) (by simp)).grow _
 have P1 : Hid (aA w.heap.size #[.int .i64 x1.kind, .int .i64 x1.id, .slice a2p1 x1.vec.length d2p1, .int .i64 x1.aa, .int .i64 x1.seq] 31 ((w.alloc (.cells #[.int .i64 x0.now, .int .i64 x0.events, .int .i64 x0.chain.ae, .slice a3p0 x0.chain.ids.length d3p0, .slice a4p0 x0.nodes.length d4p0, .slice a5p0 x0.msgs.length d5p0, .slice a6p0 x0.af.length d6p0] 29)).alloc (.cells #[.int .i64 x1.kind, .int .i64 x1.id, .slice a2p1 x1.vec.length d2p1, .int .i64 x1.aa, .int .i64 x1.seq] 31)) (w.heap.size + 1)) := bm (by omega) (by simp)
 generalize haw1 : ((w.alloc (.cells #[.int .i64 x0.now, .int .i64 x0.events, .int .i64 x0.chain.ae, .slice a3p0 x0.chain.ids.length d3p0, .slice a4p0 x0.nodes.length d4p0, .slice a5p0 x0.msgs.length d5p0, .slice a6p0 x0.af.length d6p0] 29)).alloc (.cells #[.int .i64 x1.kind, .int .i64 x1.id, .slice a2p1 x1.vec.length d2p1, .int .i64 x1.aa, .int .i64 x1.seq] 31)) = w1 at *
 have Gw1 : w.heap.size + 2 ≤ w1.heap.size := by rw [← haw1]; simp
 clear haw1
 replace HA0 := yh ((uh HA0).later nb)
 replace HA1 := yh ((uh HA1).later nb)
 have Zw1 : w.heap.size ≤ w1.heap.size := nb.size
 replace HB := yh ((uh HB).trans (nb.mono (by omega)))
 clear nb
 refine (nE _ x0 (1048576) w1 (uh HA0).reads (by omega)).mono ?_
 rintro e w2 ⟨rfl, hb⟩
 replace HA0 := yh ((uh HA0).later hb)
 replace HA1 := yh ((uh HA1).later hb)
 replace P0 := yh ((uh P0).ai hb)
 replace P1 := yh ((uh P1).ai hb)
 have Zw2 : w1.heap.size ≤ w2.heap.size := hb.size
 replace HB := yh ((uh HB).trans (hb.mono (by omega)))
 clear hb
 by_cases hs0 : ab.aF.sz x0 ≤ 1048576
 ·
  rw [cg hs0]
  have hq0 : decide (((1048576 - ab.aF.sz x0 : Nat) : Int) < 0) = false := by simp
  have l0P0 := (uh P0).at 0 _ rfl
  have l1P0 := (uh P0).at 1 _ rfl
  have l2P0 := (uh P0).at 2 _ rfl
  have l3P0 := (uh P0).at 3 _ rfl
  have l4P0 := (uh P0).at 4 _ rfl
  have l5P0 := (uh P0).at 5 _ rfl
  have l6P0 := (uh P0).at 6 _ rfl
  have ltP0 : w.heap.size < w2.heap.size := by omega
  have l0P1 := (uh P1).at 0 _ rfl
  have l1P1 := (uh P1).at 1 _ rfl
  have l2P1 := (uh P1).at 2 _ rfl
  have l3P1 := (uh P1).at 3 _ rfl
  have l4P1 := (uh P1).at 4 _ rfl
  have ltP1 : w.heap.size + 1 < w2.heap.size := by omega
  simp only [ga, gb, gc] at l0P0 l1P0 l2P0 l3P0 l4P0 l5P0 l6P0 l0P1 l1P1 l2P1 l3P1 l4P1
  go_wp2_with fail
  clear l0P0 l1P0 l2P0 l3P0 l4P0 l5P0 l6P0 ltP0 l0P1 l1P1 l2P1 l3P1 l4P1 ltP1
  clear hq0
  refine (gY _ x1 (1048576 - ab.aF.sz x0) w2 (uh HA1).reads (by omega)).mono ?_
  rintro e w3 ⟨rfl, hb⟩
  replace HA0 := yh ((uh HA0).later hb)
  replace HA1 := yh ((uh HA1).later hb)
  replace P0 := yh ((uh P0).ai hb)
  replace P1 := yh ((uh P1).ai hb)
  have Zw3 : w2.heap.size ≤ w3.heap.size := hb.size
  replace HB := yh ((uh HB).trans (hb.mono (by omega)))
  clear hb
  rw [bp (by omega)]
  go_wp2_with fail
  go_ret
  exact ⟨rfl, uh HB⟩
 rw [bp (by omega)]
 go_wp2_with fail
 go_ret
 exact ⟨rfl, uh HB⟩
theorem dV {w w' : World} {o : Obj} {r : Option Nat} (h : (w.alloc o).grownBy w' r) : w.grownBy w' r := nA (World.grownBy_alloc w o r) h
theorem gV : (Tryz.prog.info? 89).map (fun i => (i.zero, i.size, i.bytes)) = some (some (.agg #[.int .i64 0, .int .i64 0, .int .i64 0, .int .i64 0, .slice none 0 0, .int .i64 0, .int .i64 0, .int .i64 0, .int .i64 0, .slice none 0 0, .slice none 0 0]), 11, 136) := by kernel_rfl
theorem lg {w : World} {row : List Value} {x : bj} {bl : List Nat} (h : ab.ar.bg w row x bl) : (∀ u ∈ row, u.oneCell' = true) ∧ row.length = 1 * 11 := by
 obtain ⟨_, _, _, _, _, _, _, _, _, rfl, -⟩ := dj.1 h
 simp [Value.oneCell']
theorem eJ {w1 : World} {base : Nat} {v : Value} {rows : List (List Value)} {xs : List bj} {bls : List (List Nat)} (hG : bU ab.ar w1 base 89 v rows xs bls) {row : List Value} {x : bj} {bl : List Nat} (hl : ab.ar.bg w1 row x bl) (hbl : ∀ b ∈ bl, v.ownBlock ≠ some b) {ops : Array Oper} {rest : List Oper} {o : Oper} {a : Act} {Q : Exit → Act → World → Prop} (hgd : o.guard = none) (s y : Operand)
  (ho : o.op = .call { callee := .builtin .append, args := #[s, y], argTypes := #[37, 37] }) (hs : a.eval s = v) (hy : a.eval y = .slice (some ⟨w1.heap.size, 0, none⟩) 1 1) (hn : xs.length + 1 ≤ 100000000) (hbase : base ≤ w1.heap.size)
  (h : ∀ g cap w', bU ab.ar w' base 89 (.slice (some ⟨g, 0, none⟩) (xs.length + 1) cap) (rows ++ [row]) (xs ++ [x]) (bls ++ [bl]) → Below base w1 w' → Ext (fun q => v.ownBlock = some q) w1 w' → g < w'.heap.size → w1.heap.size ≤ w'.heap.size → (v.ownBlock = some g ∨ w1.heap.size ≤ g) → wpList Tryz.prog ops Q rest (a.put o.dst (.slice (some ⟨g, 0, none⟩) (xs.length + 1) cap)) w') :
  wpList Tryz.prog ops Q (o :: rest) a (w1.alloc (.cells row.toArray 89)) := by
 obtain ⟨i0, hi0, hz0, hz1, hz2⟩ := info_parts gV
 obtain ⟨h1, hlen⟩ := lg hl
 refine wpList_append_lies _ hgd s y 37 ho base 89 i0 _ 11 136 Tryz.underlying37 hi0 hz0 hz1 hz2 rfl (by omega) v xs.length rows.flatten hs (hG.own.alloc _) ⟨w1.heap.size, 0, none⟩ 1 1 row hy hlen (World.news_of_block (cs := row.toArray) (t := 89) (fr := (0, 0)) (heap_alloc_new w1 _)) h1 (by omega) (by unfold maxLen; omega) (by omega) (by simp; omega) (w1.alloc (.cells row.toArray 89)).heap.size rfl ?_
 intro g cap w' h2 h3 h4 h5
 have hg := dV h3
 have hbw : Below base w1 w' := (Below.refl _ _).grown hg hbase (fun j hj => (hG.own.lt j hj).1)
 have hor : v.ownBlock = some g ∨ w1.heap.size ≤ g := by
  rcases h4 with h4 | h4
  ·
   exact Or.inl h4
  exact Or.inr (by rw [h4]; simp)
 exact h g cap w' (hG.snoc hl hbl h2 hg hor) hbw ⟨hbw.os, hbw.tape, hbw.output, hbw.size, fun k hk hn => hg.block k hk (fun e => hn e.symm)⟩ h5 hbw.size hor
theorem vt (ws : List aj) : (Lit.int .i64 (aR ws)).wf = true := by
 have : 0 ≤ aR ws ∧ aR ws ≤ 3 := by
  unfold aR
  split
  ·
   omega
  induction ws with
  | nil => simp [cx]
  | cons x xs ih =>
   rw [cx]
   split
   ·
    exact ih (by rename_i h _; simp only [List.length_cons] at h; omega)
   exact fo x
 exact aP (by omega)
structure dX where
 code : Int
 dt : Bool
 place : Int
 writes : List aj
def ab.dW : ab dX := ab.via (ab.pair ab.int (ab.pair ab.bool (ab.pair ab.int (ab.sl ab.ag)))) (fun x => (x.code, x.dt, x.place, x.writes)) (fun p => ⟨p.1, p.2.1, p.2.2.1, p.2.2.2⟩)
theorem js {w : World} {cs : List Value} {x : dX} {bl : List Nat} : ab.dW.bg w cs x bl ↔ ∃ (a3 : Option Addr) (d3 : Nat) (b3 : List Nat), cs = [.int .i64 x.code, .bool x.dt, .int .i64 x.place, .slice a3 x.writes.length d3] ∧ bl = b3 ∧ (Lit.int .i64 x.code).wf = true ∧ (Lit.int .i64 x.place).wf = true ∧ (ab.sl ab.ag).bg w [.slice a3 x.writes.length d3] x.writes b3 := by
 constructor
 ·
  intro h
  obtain ⟨c0_, r0_, e0_, s0_, rfl, rfl, h0, ⟨c1_, r1_, e1_, s1_, rfl, rfl, h1, ⟨c2_, r2_, e2_, s2_, rfl, rfl, h2, h3⟩⟩⟩ := h
  obtain ⟨rfl, w0, rfl⟩ := h0
  obtain ⟨rfl, rfl⟩ := h1
  obtain ⟨rfl, w2, rfl⟩ := h2
  have k3 := h3
  obtain ⟨a3, d3, rfl, -⟩ := k3
  exact ⟨a3, d3, s2_, by simp, by simp, w0, w2, h3⟩
 rintro ⟨a3, d3, b3, rfl, hbl, w0, w2, l3⟩
 rw [hbl]
 exact ⟨[.int .i64 x.code], [.bool x.dt] ++ ([.int .i64 x.place] ++ [.slice a3 x.writes.length d3]), [], [] ++ ([] ++ (b3)), rfl, by simp, ⟨rfl, w0, rfl⟩, ⟨[.bool x.dt], [.int .i64 x.place] ++ [.slice a3 x.writes.length d3], [], [] ++ (b3), rfl, by simp, ⟨rfl, rfl⟩, ⟨[.int .i64 x.place], [.slice a3 x.writes.length d3], [], b3, rfl, by simp, ⟨rfl, w2, rfl⟩, l3⟩⟩⟩
def bF (ws : List aj) (x : aj) : dX :=
 if aR ws = 0 then
  if wF x = 0 then
   if ck ws x.aa x.seq = 0 then
    if x.seq < aT ws x.aa then ⟨7, false, 0, []⟩ else if 200 ≤ ws.length then ⟨2, false, 0, []⟩ else ⟨0, true, (ws.length : Int) + 1, ws ++ [x]⟩
   else ⟨0, false, ck ws x.aa x.seq, ws⟩
  else ⟨wF x, false, 0, []⟩
 else ⟨aR ws, false, 0, []⟩
theorem oF {ws : List aj} {x : aj} (h : aR ws ≠ 0) : bF ws x = ⟨aR ws, false, 0, []⟩ := by rw [bF, if_neg h]
theorem nO {ws : List aj} {x : aj} (h : aR ws = 0) (hf : wF x ≠ 0) : bF ws x = ⟨wF x, false, 0, []⟩ := by rw [bF, if_pos h, if_neg hf]
theorem fB {ws : List aj} {x : aj} (h : aR ws = 0) (hf : wF x = 0) (hs : ck ws x.aa x.seq ≠ 0) : bF ws x = ⟨0, false, ck ws x.aa x.seq, ws⟩ := by rw [bF, if_pos h, if_pos hf, if_neg hs]
theorem gi {ws : List aj} {x : aj} (h : aR ws = 0) (hf : wF x = 0) (hs : ck ws x.aa x.seq = 0) (c : x.seq < aT ws x.aa) : bF ws x = ⟨7, false, 0, []⟩ := by rw [bF, if_pos h, if_pos hf, if_pos hs, if_pos c]
theorem fy {ws : List aj} {x : aj} (h : aR ws = 0) (hf : wF x = 0) (hs : ck ws x.aa x.seq = 0) (c : ¬ x.seq < aT ws x.aa) (c2 : 200 ≤ ws.length) : bF ws x = ⟨2, false, 0, []⟩ := by rw [bF, if_pos h, if_pos hf, if_pos hs, if_neg c, if_pos c2]
theorem gn {ws : List aj} {x : aj} (h : aR ws = 0) (hf : wF x = 0) (hs : ck ws x.aa x.seq = 0) (c : ¬ x.seq < aT ws x.aa) (c2 : ¬ 200 ≤ ws.length) : bF ws x = ⟨0, true, (ws.length : Int) + 1, ws ++ [x]⟩ := by rw [bF, if_pos h, if_pos hf, if_pos hs, if_neg c, if_neg c2]
structure cX where
 code : Int
 place : Int
 node : aV
def ab.da : ab cX := ab.via (ab.pair ab.int (ab.pair ab.int ab.ax)) (fun x => (x.code, x.place, x.node)) (fun p => ⟨p.1, p.2.1, p.2.2⟩)
theorem fS {w : World} {cs : List Value} {x : cX} {bl : List Nat} : ab.da.bg w cs x bl ↔ ∃ (a6 : Option Addr) (d6 : Nat) (b6 : List Nat), cs = [.int .i64 x.code, .int .i64 x.place, .int .i64 x.node.id, .bool x.node.up, .int .i64 x.node.ae, .int .i64 x.node.au, .slice a6 x.node.writes.length d6, .int .i64 x.node.sure, .int .i64 x.node.clean] ∧ bl = b6 ∧ (Lit.int .i64 x.code).wf = true ∧ (Lit.int .i64 x.place).wf = true ∧ (Lit.int .i64 x.node.id).wf = true ∧ (Lit.int .i64 x.node.ae).wf = true ∧ (Lit.int .i64 x.node.au).wf = true ∧ (ab.sl ab.ag).bg w [.slice a6 x.node.writes.length d6] x.node.writes b6 ∧ (Lit.int .i64 x.node.sure).wf = true ∧ (Lit.int .i64 x.node.clean).wf = true := by
 constructor
 ·
  intro h
  obtain ⟨c0_, r0_, e0_, s0_, rfl, rfl, h0, ⟨c1_, r1_, e1_, s1_, rfl, rfl, h1, h2⟩⟩ := h
  obtain ⟨rfl, w0, rfl⟩ := h0
  obtain ⟨rfl, w1, rfl⟩ := h1
  obtain ⟨a6, d6, q6, rfl, hq2, w2, w4, w5, l6, w7, w8⟩ := cD.1 h2
  exact ⟨a6, d6, q6, by simp, by simp [hq2], w0, w1, w2, w4, w5, l6, w7, w8⟩
 rintro ⟨a6, d6, b6, rfl, hbl, w0, w1, w2, w4, w5, l6, w7, w8⟩
 rw [hbl]
 exact ⟨[.int .i64 x.code], [.int .i64 x.place] ++ [.int .i64 x.node.id, .bool x.node.up, .int .i64 x.node.ae, .int .i64 x.node.au, .slice a6 x.node.writes.length d6, .int .i64 x.node.sure, .int .i64 x.node.clean], [], [] ++ (b6), rfl, by simp, ⟨rfl, w0, rfl⟩, ⟨[.int .i64 x.place], [.int .i64 x.node.id, .bool x.node.up, .int .i64 x.node.ae, .int .i64 x.node.au, .slice a6 x.node.writes.length d6, .int .i64 x.node.sure, .int .i64 x.node.clean], [], b6, rfl, by simp, ⟨rfl, w1, rfl⟩, cD.2 ⟨a6, d6, b6, rfl, rfl, w2, w4, w5, l6, w7, w8⟩⟩⟩
theorem jy {w : World} {cs : List Value} {x : cX} (h : ab.da.Reads w cs x) : ∃ (a6 : Option Addr) (d6 : Nat), cs = [.int .i64 x.code, .int .i64 x.place, .int .i64 x.node.id, .bool x.node.up, .int .i64 x.node.ae, .int .i64 x.node.au, .slice a6 x.node.writes.length d6, .int .i64 x.node.sure, .int .i64 x.node.clean] ∧ ab.ax.Reads w [.int .i64 x.node.id, .bool x.node.up, .int .i64 x.node.ae, .int .i64 x.node.au, .slice a6 x.node.writes.length d6, .int .i64 x.node.sure, .int .i64 x.node.clean] x.node := by
 obtain ⟨bl, h⟩ := h
 obtain ⟨a6, d6, b6, rfl, -, w0, w1, w2, w4, w5, l6, w7, w8⟩ := fS.1 h
 exact ⟨a6, d6, rfl, ⟨_, cD.2 ⟨a6, d6, _, rfl, rfl, w2, w4, w5, l6, w7, w8⟩⟩⟩
def aJ (x : aV) : Int :=
 if 1 ≤ x.id ∧ x.id ≤ 5 ∧ 0 ≤ x.ae ∧ x.ae ≤ 999 ∧ 0 ≤ x.au ∧ x.au ≤ 9999 then
  if 40 < x.writes.length then 2
  else if cx x.writes ≠ 0 then cx x.writes
  else if dk [] x.writes = false then 6
  else if 0 ≤ x.sure ∧ x.sure ≤ x.writes.length ∧ 0 ≤ x.clean ∧ x.clean ≤ x.sure then
   if x.up = false ∧ ¬ (x.sure = x.writes.length ∧ x.clean = 0 ∧ x.au = 0) then 1 else 0
  else 3
 else 3
def cV (x : aV) : Int := if aJ x = 0 then (if x.up = true then 0 else 10) else aJ x
def iy : aV := ⟨0, false, 0, 0, [], 0, 0⟩
def fp (c : Int) : cX := ⟨c, 0, iy⟩
def ca (x : aV) (ws : List aj) : aV := ⟨x.id, x.up, x.ae, x.au, ws, x.sure, x.clean⟩
def dp (x : aV) (y : aj) : cX :=
 if cV x = 0 then
  if (bF x.writes y).code = 0 then
   if 40 < (bF x.writes y).writes.length then fp 2 else ⟨0, (bF x.writes y).place, ca x (bF x.writes y).writes⟩
  else fp (bF x.writes y).code
 else fp (cV x)
theorem gg (x : aV) : 0 ≤ aJ x ∧ aJ x ≤ 6 := by
 have := iS x.writes
 unfold aJ
 split
 ·
  split
  ·
   omega
  split
  ·
   omega
  split
  ·
   omega
  split
  ·
   split <;> omega
  omega
 omega
structure fY (x : aV) : Prop where
 id : 1 ≤ x.id ∧ x.id ≤ 5
 ae : 0 ≤ x.ae ∧ x.ae ≤ 999
 au : 0 ≤ x.au ∧ x.au ≤ 9999
 len : x.writes.length ≤ 40
 ws : ∀ y ∈ x.writes, wF y = 0
 once : dk [] x.writes = true
 sure : 0 ≤ x.sure ∧ x.sure ≤ x.writes.length
 clean : 0 ≤ x.clean ∧ x.clean ≤ x.sure
 down : x.up = false → x.sure = x.writes.length ∧ x.clean = 0 ∧ x.au = 0
theorem cR {x : aV} (h : aJ x = 0) : fY x := by
 unfold aJ at h
 split at h
 ·
  rename_i h1
  split at h
  ·
   simp at h
  rename_i h2
  split at h
  ·
   rename_i h3; exact absurd h h3
  rename_i h3
  split at h
  ·
   simp at h
  rename_i h4
  split at h
  ·
   rename_i h5
   split at h
   ·
    simp at h
   rename_i h6
   refine ⟨by omega, by omega, by omega, by omega, iW (by simpa using h3), by simpa using h4, by omega, by omega, fun hu => ?_⟩
   exact Classical.byContradiction fun hc => h6 ⟨hu, hc⟩
  simp at h
 simp at h
theorem fY.fault {x : aV} (h : fY x) : aJ x = 0 := by
 unfold aJ
 have h1 := h.id; have h2 := h.ae; have h3 := h.au; have h4 := h.len; have h5 := h.sure; have h6 := h.clean
 rw [if_pos (by omega), if_neg (by omega), if_neg (by simpa using eX x.writes fun j hj => h.ws _ (List.getElem_mem _)), if_neg (by simp [h.once]), if_pos (by omega), if_neg]
 rintro ⟨hu, hc⟩
 exact hc (h.down hu)
theorem fY.aR {x : aV} (h : fY x) : aR x.writes = 0 := by
 rw [Proofs.YtomphbenbnnfgaaGreatDoor.aR, if_neg (by have := h.len; omega)]
 exact eX x.writes fun j hj => h.ws _ (List.getElem_mem _)
theorem ja {x : aV} (h : cV x = 0) : fY x ∧ x.up = true := by
 unfold cV at h
 split at h
 ·
  rename_i h1
  split at h
  ·
   rename_i h2; exact ⟨cR h1, h2⟩
  simp at h
 rename_i h1; exact absurd h h1
theorem qD {x : aV} {y : aj} (h : cV x ≠ 0) : dp x y = fp (cV x) := by rw [dp, if_neg h]
end Go.Proofs.YtomphbenbnnfgaaGreatDoor

namespace Go.Proofs.YtomphbenbnnfgaaGreatDoor
end Go.Proofs.YtomphbenbnnfgaaGreatDoor

namespace Go.Proofs.YtomphbenbnnfgaaGreatDoor
end Go.Proofs.YtomphbenbnnfgaaGreatDoor

namespace Go.Proofs.YtomphbenbnnfgaaGreatDoor
open Go.RowKit
def uS (ids : List Int) (id : Int) : Nat := ids.findIdx (· == id)
def bK (ids : List Int) (id : Int) : Int := if uS ids id < ids.length then (uS ids id : Int) else -1
def fW : List Int → List Int → Int
 | _, [] => 0
 | pre, z :: zs => if 1 ≤ z ∧ z ≤ 5 then (if z ∈ pre then 6 else fW (pre ++ [z]) zs) else 3
def aX (x : bQ) : Int :=
 if 1 ≤ x.ae ∧ x.ae ≤ 999 then (if 1 ≤ x.ids.length ∧ x.ids.length ≤ 5 then fW [] x.ids else 2) else 3
def pY : bQ := ⟨0, []⟩
theorem qq (ids : List Int) (id : Int) : -1 ≤ bK ids id ∧ bK ids id < ids.length + 1 := by
 unfold bK
 split <;> omega
theorem kn (ids : List Int) (id : Int) : bK ids id < 0 ↔ id ∉ ids := by
 unfold bK uS
 have h := List.findIdx_lt_length (p := fun z => z == id) (xs := ids)
 constructor
 ·
  intro h1 hm
  rw [if_pos (h.2 ⟨id, hm, by simp⟩)] at h1
  omega
 intro h1
 rw [if_neg]
 ·
  omega
 intro h2
 obtain ⟨z, hz, e⟩ := h.1 h2
 rw [beq_iff_eq] at e
 rw [e] at hz
 exact h1 hz
theorem iH {ids : List Int} {id : Int} {k : Nat} (hk : k < ids.length) (h : ids[k] = id) (hb : ∀ j (hj : j < k), ids[j] ≠ id) : bK ids id = (k : Int) := by
 have e : uS ids id = k := by
  unfold uS
  rw [List.findIdx_eq hk]
  exact ⟨by simpa using h, fun j hj => by simpa using hb j hj⟩
 rw [bK, e, if_pos hk]
theorem jr {ids : List Int} {id : Int} (hb : ∀ j (hj : j < ids.length), ids[j] ≠ id) : bK ids id = -1 := by
 have h1 : bK ids id < 0 := by
  rw [kn]
  intro hm
  obtain ⟨j, hj, e⟩ := List.getElem_of_mem hm
  exact hb j hj e
 have := qq ids id
 omega
theorem oN {ids : List Int} {id : Int} (h : 0 ≤ bK ids id) : ∃ (k : Nat) (hk : k < ids.length), bK ids id = (k : Int) ∧ ids[k] = id ∧ ∀ j (hj : j < k), ids[j] ≠ id := by
 have hl : uS ids id < ids.length := by
  unfold bK at h
  split at h
  ·
   assumption
  omega
 refine ⟨uS ids id, hl, by rw [bK, if_pos hl], ?_, fun j hj => ?_⟩
 ·
  have := List.findIdx_getElem (xs := ids) (p := fun z => z == id) (w := hl)
  exact beq_iff_eq.1 this
 have := List.not_of_lt_findIdx (xs := ids) (p := fun z => z == id) hj
 simpa using this
theorem lC : ∀ (zs pre : List Int), 0 ≤ fW pre zs ∧ fW pre zs ≤ 6
 | [], _ => by simp [fW]
 | z :: zs, pre => by
  rw [fW]
  split
  ·
   split
   ·
    omega
   exact lC zs _
  omega
theorem fT (x : bQ) : 0 ≤ aX x ∧ aX x ≤ 6 := by
 have := lC x.ids []
 unfold aX
 split
 ·
  split <;> omega
 omega
theorem lT (ids : List Int) (k : Nat) (hk : k < ids.length) : fW (ids.take k) (ids.drop k) = if 1 ≤ ids[k] ∧ ids[k] ≤ 5 then (if ids[k] ∈ ids.take k then 6 else fW (ids.take (k + 1)) (ids.drop (k + 1))) else 3 := by
 conv => lhs; rw [List.drop_eq_getElem_cons hk, fW]
 rw [List.take_succ_eq_append_getElem hk]
theorem nS (ids : List Int) : fW (ids.take ids.length) (ids.drop ids.length) = 0 := by simp [fW]
theorem nN {ids : List Int} {k : Nat} (hk : k < ids.length) : (bK ids ids[k] = (k : Int)) ↔ ids[k] ∉ ids.take k := by
 constructor
 ·
  intro h hm
  obtain ⟨j, hj, e⟩ := List.getElem_of_mem hm
  rw [List.length_take] at hj
  rw [List.getElem_take] at e
  obtain ⟨m, hm1, h1, h2, h3⟩ := oN (ids := ids) (id := ids[k]) (by omega)
  obtain rfl : m = k := by omega
  exact h3 j (by omega) e
 intro h
 refine iH hk rfl fun j hj e => h ?_
 rw [List.mem_iff_getElem]
 exact ⟨j, by rw [List.length_take]; omega, by rw [List.getElem_take]; exact e⟩
structure uq (x : bQ) : Prop where
 ae : 1 ≤ x.ae ∧ x.ae ≤ 999
 len : 1 ≤ x.ids.length ∧ x.ids.length ≤ 5
 ids : ∀ z ∈ x.ids, 1 ≤ z ∧ z ≤ 5
 nodup : x.ids.Nodup
theorem lA : ∀ (zs pre : List Int), fW pre zs = 0 → (∀ z ∈ zs, 1 ≤ z ∧ z ≤ 5) ∧ zs.Nodup ∧ ∀ z ∈ zs, z ∉ pre
 | [], _, _ => by simp
 | z :: zs, pre, h => by
  rw [fW] at h
  split at h
  ·
   rename_i h1
   split at h
   ·
    simp at h
   rename_i h2
   obtain ⟨q1, q2, q3⟩ := lA zs _ h
   refine ⟨?_, ?_, ?_⟩
   ·
    intro u hu
    rcases List.mem_cons.1 hu with rfl | hu
    ·
     exact h1
    exact q1 u hu
   ·
    refine List.nodup_cons.2 ⟨fun hm => q3 z hm (by simp), q2⟩
   intro u hu hp
   rcases List.mem_cons.1 hu with rfl | hu
   ·
    exact h2 hp
   exact q3 u hu (List.mem_append_left _ hp)
  simp at h
theorem cB {x : bQ} (h : aX x = 0) : uq x := by
 unfold aX at h
 split at h
 ·
  rename_i h1
  split at h
  ·
   rename_i h2
   obtain ⟨q1, q2, -⟩ := lA _ _ h
   exact ⟨h1, h2, q1, q2⟩
  simp at h
 simp at h
def dR (x y : aj) : Bool := x.kind == y.kind && (x.id == y.id && (x.aa == y.aa && (x.seq == y.seq && decide (x.vec = y.vec))))
def mQ (y : aj) : Prop := y.kind = 0 ∧ y.id = 0 ∧ y.aa = 0 ∧ y.seq = 0 ∧ y.vec.length = 0
instance (y : aj) : Decidable (mQ y) := by unfold mQ; infer_instance
def aL (x : bP) : Int :=
 if ¬ (1 ≤ x.kind ∧ x.kind ≤ 2) ∨ x.src = x.dst ∨ (x.kind = 2 ∧ ¬ mQ x.write) then 1
 else if ¬ (1 ≤ x.ae ∧ x.ae ≤ 999) ∨ ¬ (1 ≤ x.src ∧ x.src ≤ 5) ∨ ¬ (1 ≤ x.dst ∧ x.dst ≤ 5) ∨ ¬ (0 ≤ x.index ∧ x.index ≤ 40) ∨ (x.kind ≠ 2 ∧ x.index = 0) then 3
 else if x.kind = 2 then 0 else wF x.write
def cw : List bP → Int
 | [] => 0
 | x :: xs => if aL x = 0 then cw xs else aL x
def bd (xs : List bP) : Int := if 40 < xs.length then 2 else cw xs
theorem kH (x : bP) : 0 ≤ aL x ∧ aL x ≤ 6 := by
 have := fo x.write
 unfold aL
 split
 ·
  omega
 split
 ·
  omega
 split
 ·
  omega
 omega
theorem gH : ∀ xs : List bP, 0 ≤ cw xs ∧ cw xs ≤ 6
 | [] => by simp [cw]
 | x :: xs => by
  rw [cw]
  split
  ·
   exact gH xs
  exact kH x
theorem kU (xs : List bP) : 0 ≤ bd xs ∧ bd xs ≤ 6 := by
 unfold bd
 split
 ·
  omega
 exact gH xs
theorem gI : ∀ {xs : List bP}, cw xs = 0 → ∀ x ∈ xs, aL x = 0
 | [], _, _, h => by cases h
 | x :: xs, h, y, hy => by
  rw [cw] at h
  by_cases h1 : aL x = 0
  ·
   rw [if_pos h1] at h
   rcases List.mem_cons.1 hy with rfl | hy
   ·
    exact h1
   exact gI h y hy
  rw [if_neg h1] at h
  exact absurd h h1
theorem ig : ∀ {xs : List bP}, (∀ x ∈ xs, aL x = 0) → cw xs = 0
 | [], _ => rfl
 | x :: xs, h => by
  rw [cw, if_pos (h x (by simp))]
  exact ig fun y hy => h y (List.mem_cons_of_mem _ hy)
theorem jl : ∀ {xs : List bP} {k : Nat} (hk : k < xs.length), (∀ j (hj : j < k), aL xs[j] = 0) → aL xs[k] ≠ 0 → cw xs = aL xs[k]
 | x :: xs, 0, hk, _, h => by
  have h1 : aL x ≠ 0 := h
  rw [cw, if_neg h1]
  rfl
 | x :: xs, k + 1, hk, hb, h => by
  have h1 : aL x = 0 := hb 0 (by omega)
  rw [cw, if_pos h1]
  exact jl (xs := xs) (k := k) (by simpa using hk) (fun j hj => hb (j + 1) (by omega)) h
theorem dx {xs : List bP} (h : bd xs = 0) : xs.length ≤ 40 ∧ ∀ x ∈ xs, aL x = 0 := by
 unfold bd at h
 split at h
 ·
  simp at h
 exact ⟨by omega, gI h⟩
end Go.Proofs.YtomphbenbnnfgaaGreatDoor
