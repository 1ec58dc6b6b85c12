/-
  Texts of this proof in one: ImplRemW, LawRemW, OpenChain, OpenWrite, OpenNode, OpenMsg, OpenHit, OpenEntry, OpenWorld.
  Their conditions stand in their theorems.
-/
import Derived.Test.YtoanimpijfijgaaGreatRx12
import Derived.Test.YtoanimpijfijgaaGreatRx11
import Derived.Test.YtoanimpijfijgaaGreatRx04
import Derived.Test.YtoanimpijfijgaaGreatRx00
import Derived.Test.YtoanimpijfijgaaGreatRx05
import Derived.Test.YtoanimpijfijgaaGreatRx09
import Derived.Test.YtoanimpijfijgaaGreatRx01
set_option maxRecDepth 100000
set_option maxHeartbeats 4000000
namespace Go.Proofs.YtoanimpijfijgaaGreat
open Go.RowKit
theorem removeMake (id : Int) (w : World) :
  Calls Tryz.prog 90 #[.int .i64 id] w fun e w' => e = .returned (.func (.func 170) #[] #[.pointer (some ⟨w.heap.size, 0, none⟩)]) ∧ w' = (w.alloc (.cells #[.int .i64 id] 2)) := by
 have hmf : ∀ (fn : Fn) (first cap : Array Value) (w : World), (Instr.makeFunc fn first cap).run Tryz.prog w = .ok (.func fn first cap) w := fun _ _ _ _ => rfl
 go_enter Tryz.func90, Tryz.ntmps90
 go_wp2_with fail
 go_ret
 exact ⟨rfl, rfl⟩
theorem implRemoveWorld (cs : List Value) (x : DWorld) (id : Int) (w : World) (h : Lay.tWorld.Reads w cs x) (hf : Fits x) :
  Calls Tryz.prog 31 #[.agg cs.toArray, .int .i64 id] w fun e w' => ∃ cs', e = .returned (.agg cs'.toArray) ∧ Lay.tWorldResult.OwnIn w' cs' (removeWR x id) w.heap.size w'.heap.size ∧ Below w.heap.size w w' := by
 obtain ⟨a3, d3, a4, d4, a5, d5, a6, d6, rfl, -, -, -, -⟩ := open_World h
 have nb1 : Below w.heap.size w (w.alloc (.cells #[.int .i64 x.now, .int .i64 x.events, .int .i64 x.chain.epoch, .slice a3 x.chain.ids.length d3, .slice a4 x.nodes.length d4, .slice a5 x.msgs.length d5, .slice a6 x.history.length d6] 36)) := (Below.refl _ _).alloc (Nat.le_refl _) _
 have nb : Below w.heap.size w ((w.alloc (.cells #[.int .i64 x.now, .int .i64 x.events, .int .i64 x.chain.epoch, .slice a3 x.chain.ids.length d3, .slice a4 x.nodes.length d4, .slice a5 x.msgs.length d5, .slice a6 x.history.length d6] 36)).alloc (.cells #[.int .i64 0, .bool false, .int .i64 0, .int .i64 0, .int .i64 0, .slice none 0 0, .slice none 0 0, .slice none 0 0, .slice none 0 0] 38)) := nb1.alloc (by simp) _
 have HX : Hid (Box 0 #[.int .i64 x.now, .int .i64 x.events, .int .i64 x.chain.epoch, .slice a3 x.chain.ids.length d3, .slice a4 x.nodes.length d4, .slice a5 x.msgs.length d5, .slice a6 x.history.length d6] 36 ((w.alloc (.cells #[.int .i64 x.now, .int .i64 x.events, .int .i64 x.chain.epoch, .slice a3 x.chain.ids.length d3, .slice a4 x.nodes.length d4, .slice a5 x.msgs.length d5, .slice a6 x.history.length d6] 36)).alloc (.cells #[.int .i64 0, .bool false, .int .i64 0, .int .i64 0, .int .i64 0, .slice none 0 0, .slice none 0 0, .slice none 0 0, .slice none 0 0] 38)) w.heap.size) := (newBox (Nat.zero_le _)).grow _
 have HY : Hid (Box 0 #[.int .i64 0, .bool false, .int .i64 0, .int .i64 0, .int .i64 0, .slice none 0 0, .slice none 0 0, .slice none 0 0, .slice none 0 0] 38 ((w.alloc (.cells #[.int .i64 x.now, .int .i64 x.events, .int .i64 x.chain.epoch, .slice a3 x.chain.ids.length d3, .slice a4 x.nodes.length d4, .slice a5 x.msgs.length d5, .slice a6 x.history.length d6] 36)).alloc (.cells #[.int .i64 0, .bool false, .int .i64 0, .int .i64 0, .int .i64 0, .slice none 0 0, .slice none 0 0, .slice none 0 0, .slice none 0 0] 38)) (w.heap.size + 1)) := newBoxAt (Nat.zero_le _) (by simp)
 have hz0 : ((w.alloc (.cells #[.int .i64 x.now, .int .i64 x.events, .int .i64 x.chain.epoch, .slice a3 x.chain.ids.length d3, .slice a4 x.nodes.length d4, .slice a5 x.msgs.length d5, .slice a6 x.history.length d6] 36)).alloc (.cells #[.int .i64 0, .bool false, .int .i64 0, .int .i64 0, .int .i64 0, .slice none 0 0, .slice none 0 0, .slice none 0 0, .slice none 0 0] 38)).heap.size = w.heap.size + 2 := by simp
 have HR := yh (h.later nb)
 have HB := yh nb
 have HFT := yh hf
 clear nb1 nb h hf
 go_enter Tryz.func31, Tryz.ntmps31
 go_upto_region 1 with fail
 generalize (w.alloc (.cells #[.int .i64 x.now, .int .i64 x.events, .int .i64 x.chain.epoch, .slice a3 x.chain.ids.length d3, .slice a4 x.nodes.length d4, .slice a5 x.msgs.length d5, .slice a6 x.history.length d6] 36)).alloc (.cells #[.int .i64 0, .bool false, .int .i64 0, .int .i64 0, .int .i64 0, .slice none 0 0, .slice none 0 0, .slice none 0 0, .slice none 0 0] 38) = W1 at *
 have LI : Hid (∀ V, Below W1.heap.size W1 V → Calls Tryz.prog 71 #[.agg #[.int .i64 x.now, .int .i64 x.events, .int .i64 x.chain.epoch, .slice a3 x.chain.ids.length d3, .slice a4 x.nodes.length d4, .slice a5 x.msgs.length d5, .slice a6 x.history.length d6], .int .i64 id] V fun e w' => e = .returned (.int .i64 (idFaultR x id)) ∧ Below V.heap.size V w') := fun V hV => idFaultC _ x id V ((uh HR).later hV)
 have LS : Hid (∀ V, Below W1.heap.size W1 V → Calls Tryz.prog 70 #[.agg #[.int .i64 x.now, .int .i64 x.events, .int .i64 x.chain.epoch, .slice a3 x.chain.ids.length d3, .slice a4 x.nodes.length d4, .slice a5 x.msgs.length d5, .slice a6 x.history.length d6], .int .i64 (idFaultR x id), .func (.func 170) #[] #[.pointer (some ⟨V.heap.size, 0, none⟩)]] (V.alloc (.cells #[.int .i64 id] 2)) fun e w' => ∃ cs', e = .returned (.agg cs'.toArray) ∧ Lay.tWorldResult.OwnIn w' cs' (removeWR x id) V.heap.size w'.heap.size ∧ Below V.heap.size V w') := by
  intro V hV
  have nv : Below V.heap.size V (V.alloc (.cells #[.int .i64 id] 2)) := (Below.refl _ _).alloc (Nat.le_refl _) _
  refine (steppedC 170 _ _ x (idFaultR x id) (removeC (nextW x) id) true (removed (nextW x) id) _ (fun a W => rfl) ((uh HR).later (hV.trans (nv.mono hV.size))) (fun h0 => worldFault_zero (idFault_zero h0).1) (uh HFT) (removeC_bd _ _) (idFault_bd x id) (fun h0 W hW => ?_)).mono ?_
  ·
   obtain ⟨h1, h2⟩ := idFault_zero h0
   have hok := worldFault_zero h1
   obtain ⟨k, hk, rfl⟩ := nodeIn_at h2
   have hn := hok.nodes k hk
   try rw [nodeOf_at hk]
   exact removeStepC _ k (V.heap.size) (nextW x) W (Box.keep (newBox (Nat.zero_le _)) hW) (by simp) hk hok.some.2 hok.ids (fun i h => (hok.nodes i h).2.1) (fun i h => ⟨(nodeFault_zero (hok.nodes i h).1).epoch, (nodeFault_zero (hok.nodes i h).1).lease⟩) hok.chain hok.now
  rintro e w' ⟨cs', rfl, O, hb⟩
  rw [removeW_eq] at O
  exact ⟨cs', rfl, O.mono nv.size (Nat.le_refl _), nv.trans (hb.mono nv.size)⟩
 have hx := uh HX
 have hxl := hx.lt
 have HD : Hid (Below W1.heap.size W1 W1.drew) := (Below.refl _ _).drew
 replace HY : Hid (Box 0 #[.int .i64 0, .bool false, .int .i64 0, .int .i64 0, .int .i64 0, .slice none 0 0, .slice none 0 0, .slice none 0 0, .slice none 0 0] 38 W1.drew (w.heap.size + 1)) := (uh HY)
 refine wp_region_noPanic ?_
 refine wp_region_held_drew (S := fun w' => Ext (fun q => w.heap.size < q) W1 w') (by kernel_rfl) ((Ext.refl _ _).drew 1) (fun zq => ?_)
 generalize W1.drew = wD at zq HD HY ⊢
 refine tkJ 0 (v := ?vf0) ?hf0 zq ?rf0
 case hf0 =>
  intro wS hSw
  have bS := hx.ext hSw (fun e => Nat.lt_irrefl _ e)
  have q0 := Box.at bS 0 _ rfl
  have q1 := Box.at bS 1 _ rfl
  have q2 := Box.at bS 2 _ rfl
  have q3 := Box.at bS 3 _ rfl
  have q4 := Box.at bS 4 _ rfl
  have q5 := Box.at bS 5 _ rfl
  have q6 := Box.at bS 6 _ rfl
  simp only [ga, gb, gc] at q0 q1 q2 q3 q4 q5 q6
  clear bS hSw
  (try dsimp only at hSw)
  go_simp
  try with_reducible rfl
 refine tkJ 1 (v := ?vf1) ?hf1 zq ?rf1
 case hf1 =>
  intro wS hSw
  have bS := hx.ext hSw (fun e => Nat.lt_irrefl _ e)
  have q0 := Box.at bS 0 _ rfl
  have q1 := Box.at bS 1 _ rfl
  have q2 := Box.at bS 2 _ rfl
  have q3 := Box.at bS 3 _ rfl
  have q4 := Box.at bS 4 _ rfl
  have q5 := Box.at bS 5 _ rfl
  have q6 := Box.at bS 6 _ rfl
  simp only [ga, gb, gc] at q0 q1 q2 q3 q4 q5 q6
  clear bS hSw
  (try dsimp only at hSw)
  go_simp
  try with_reducible rfl
 refine tkH 2 zq ?_
 refine tkH 4 zq ?_
 refine rdH 3 (fun K hK => ?_)
 go_simp
 go_at_call 71
 refine (uh LI _ (uh HD)).mono ?_
 rintro e u1 ⟨rfl, hb1⟩
 have HD1 := yh ((uh HD).trans (hb1.mono (uh HD).size))
 have HY1 := yh ((uh HY).keep hb1)
 try go_wp2_with fail
 have hH1 := zq.trans (ext_of_below hb1 (fun q => w.heap.size < q))
 refine hK.out _ _ (zq.trans (ext_of_below hb1 _)) (fun zq => ?_)
 clear hK K
 try simp only [Act.put, pz, py, px]
 refine rdH 5 (fun K hK => ?_)
 go_simp
 go_at_call 90
 refine (removeMake id _).mono ?_
 rintro e u2 ⟨rfl, rfl⟩
 try go_wp2_with fail
 refine hK.out _ _ (zq.trans (ext_of_below ((Below.refl _ _).alloc (Nat.le_refl _) _) _)) (fun zq => ?_)
 clear hK K
 try simp only [Act.put, pz, py, px]
 refine rdH 6 (fun K hK => ?_)
 go_simp
 go_at_call 70
 refine (uh LS u1 (uh HD1)).mono ?_
 rintro e u3 ⟨cs, rfl, O, hb3⟩
 obtain ⟨a5r, d5r, a6r, d6r, a7r, d7r, a8r, d8r, rfl, -⟩ := open_WorldResult O.reads
 have hy := (uh HY1).keep hb3
 try go_wp2_with fail
 refine hK.out _ _ (hH1.trans (ext_of_below hb3 _)) (fun zq => ?_)
 clear hK K
 try simp only [Act.put, pz, py, px]
 refine rdH 7 (fun K hK => ?_)
 generalize hyr : removeWR x id = yr at *
 have HYR := yh hyr
 clear hyr
 have r0 := Box.at hy 0 _ rfl
 have r1 := Box.at hy 1 _ rfl
 have r2 := Box.at hy 2 _ rfl
 have r3 := Box.at hy 3 _ rfl
 have r4 := Box.at hy 4 _ rfl
 have r5 := Box.at hy 5 _ rfl
 have r6 := Box.at hy 6 _ rfl
 have r7 := Box.at hy 7 _ rfl
 have r8 := Box.at hy 8 _ rfl
 simp only [ga, gb, gc] at r0 r1 r2 r3 r4 r5 r6 r7 r8
 have rf := Box.soft hy
 have rl := hy.lt
 go_simp
 refine hK.out _ _ (Ext.setCell (Ext.setCell (Ext.setCell (Ext.setCell (Ext.setCell (Ext.setCell (Ext.setCell (Ext.setCell (Ext.setCell zq ⟨w.heap.size + 1, 0, none⟩ (.int .i64 yr.code) (Nat.lt_succ_self _)) ⟨w.heap.size + 1, 1, none⟩ (.bool yr.moved) (Nat.lt_succ_self _)) ⟨w.heap.size + 1, 2, none⟩ (.int .i64 yr.world.now) (Nat.lt_succ_self _)) ⟨w.heap.size + 1, 3, none⟩ (.int .i64 yr.world.events) (Nat.lt_succ_self _)) ⟨w.heap.size + 1, 4, none⟩ (.int .i64 yr.world.chain.epoch) (Nat.lt_succ_self _)) ⟨w.heap.size + 1, 5, none⟩ (.slice a5r yr.world.chain.ids.length d5r) (Nat.lt_succ_self _)) ⟨w.heap.size + 1, 6, none⟩ (.slice a6r yr.world.nodes.length d6r) (Nat.lt_succ_self _)) ⟨w.heap.size + 1, 7, none⟩ (.slice a7r yr.world.msgs.length d7r) (Nat.lt_succ_self _)) ⟨w.heap.size + 1, 8, none⟩ (.slice a8r yr.world.history.length d8r) (Nat.lt_succ_self _)) (fun zq => ?_)
 clear hK K
 try simp only [Act.put, pz, py, px]
 refine wpAnyH_done (by kernel_rfl) ?_ _
 refine NoPanic.normal ?_
 have hy9 := box_set9W hy (.int .i64 yr.code) (.bool yr.moved) (.int .i64 yr.world.now) (.int .i64 yr.world.events) (.int .i64 yr.world.chain.epoch) (.slice a5r yr.world.chain.ids.length d5r) (.slice a6r yr.world.nodes.length d6r) (.slice a7r yr.world.msgs.length d7r) (.slice a8r yr.world.history.length d8r)
 have e2 : Ext (fun q => q = w.heap.size + 1) u3 (setAll u3 (w.heap.size + 1) 0 [.int .i64 yr.code, .bool yr.moved, .int .i64 yr.world.now, .int .i64 yr.world.events, .int .i64 yr.world.chain.epoch, .slice a5r yr.world.chain.ids.length d5r, .slice a6r yr.world.nodes.length d6r, .slice a7r yr.world.msgs.length d7r, .slice a8r yr.world.history.length d8r]) := ext_setAll _ (Ext.refl _ _) _ _ _ rfl
 have hs1 := hb1.size
 have hs2 := (uh HB).size
 have hs3 := (uh HD).size
 have HO := yh (O.ext e2 (fun q h1 h2 h3 => by omega))
 have HB9 := yh (below_setAll (((uh HB).trans ((uh HD1).mono (uh HB).size)).trans (hb3.mono (by omega))) (w.heap.size + 1) 0 [.int .i64 yr.code, .bool yr.moved, .int .i64 yr.world.now, .int .i64 yr.world.events, .int .i64 yr.world.chain.epoch, .slice a5r yr.world.chain.ids.length d5r, .slice a6r yr.world.nodes.length d6r, .slice a7r yr.world.msgs.length d7r, .slice a8r yr.world.history.length d8r] (by omega))
 have hsz : Hid ((setAll u3 (w.heap.size + 1) 0 [.int .i64 yr.code, .bool yr.moved, .int .i64 yr.world.now, .int .i64 yr.world.events, .int .i64 yr.world.chain.epoch, .slice a5r yr.world.chain.ids.length d5r, .slice a6r yr.world.nodes.length d6r, .slice a7r yr.world.msgs.length d7r, .slice a8r yr.world.history.length d8r]).heap.size = u3.heap.size) := size_setAll _ _ _ _
 clear r0 r1 r2 r3 r4 r5 r6 r7 r8 rf rl
 have r0 := Box.at hy9 0 _ rfl
 have r1 := Box.at hy9 1 _ rfl
 have r2 := Box.at hy9 2 _ rfl
 have r3 := Box.at hy9 3 _ rfl
 have r4 := Box.at hy9 4 _ rfl
 have r5 := Box.at hy9 5 _ rfl
 have r6 := Box.at hy9 6 _ rfl
 have r7 := Box.at hy9 7 _ rfl
 have r8 := Box.at hy9 8 _ rfl
 simp only [ga, gb, gc] at r0 r1 r2 r3 r4 r5 r6 r7 r8
 clear hy hy9 zq e2 O hb3 hb1
 go_wp2_with fail
 refine bodyPost_ret (v := .agg #[.int .i64 yr.code, .bool yr.moved, .int .i64 yr.world.now, .int .i64 yr.world.events, .int .i64 yr.world.chain.epoch, .slice a5r yr.world.chain.ids.length d5r, .slice a6r yr.world.nodes.length d6r, .slice a7r yr.world.msgs.length d7r, .slice a8r yr.world.history.length d8r]) (by simp only [setAll] at r0 r1 r2 r3 r4 r5 r6 r7 r8; simp [results, Tryz.results31, go_sem, r0, r1, r2, r3, r4, r5, r6, r7, r8]) rfl ?_
 rw [uh HYR]
 exact ⟨_, rfl, (uh HO).mono (by omega) (Nat.le_of_eq (uh hsz).symm), uh HB9⟩
theorem lawRemoveWorld (cs : List Value) (x : DWorld) (id : Int) (w : World) (h : Lay.tWorld.Reads w cs x) :
  Calls Tryz.prog 7 #[.agg cs.toArray, .int .i64 id] w fun e w' => e = .returned (.bool true) ∧ Below w.heap.size w w' := by
 by_cases hn : Lay.tWorld.sz x ≤ 1048576
 ·
  refine lawx_RemoveWorld cs x id (removeWR x id) w h hn (fun W a ha => specRemoveWorld a x id W ha (fits_of_sz hn)) (fun W a ha => implRemoveWorld a x id W ha (fits_of_sz hn)) (removeWR_few hn)
 exact lawover_RemoveWorld cs x id w h (by omega)
theorem opens_Chain : Opens Lay.tChain 24 := by
 intro H enc W base spare held fuel cs x h
 obtain ⟨xs, n, _, _, hlen, hl, hfi⟩ := DataW.trod_struct Tryz.underlying24 h
 rw [show Tryz.prog.cellsOf 24 = 2 by kernel_rfl] at hlen
 match cs, hlen with
 | [c0, c1], _ =>
 match xs, hl with
 | [y0, y1], _ =>
 have z0 : Tryz.prog.cellsOf 2 = 1 := by kernel_rfl
 have z1 : Tryz.prog.cellsOf 22 = 1 := by kernel_rfl
 have f0 : DataW.trod enc Tryz.prog W base spare held n 2 (([c0, c1].drop 0).take (Tryz.prog.cellsOf 2)) = some y0 := hfi 0 _ rfl
 rw [z0] at f0
 obtain ⟨d0, r0⟩ := (opens_int Tryz.underlying2) enc W base spare held n _ _ f0
 have f1 : DataW.trod enc Tryz.prog W base spare held n 22 (([c0, c1].drop 1).take (Tryz.prog.cellsOf 22)) = some y1 := hfi 1 _ rfl
 rw [z1] at f1
 obtain ⟨d1, r1⟩ := (opens_sl Tryz.underlying22 (by kernel_rfl) (by decide) (opens_int Tryz.underlying2)) enc W base spare held n _ _ f1
 exact ⟨⟨d0, d1⟩, (reads_pair r0 r1)⟩
theorem opens_Write : Opens Lay.tWrite 150 := by
 intro H enc W base spare held fuel cs x h
 obtain ⟨xs, n, _, _, hlen, hl, hfi⟩ := DataW.trod_struct Tryz.underlying150 h
 rw [show Tryz.prog.cellsOf 150 = 5 by kernel_rfl] at hlen
 match cs, hlen with
 | [c0, c1, c2, c3, c4], _ =>
 match xs, hl with
 | [y0, y1, y2, y3, y4], _ =>
 have z0 : Tryz.prog.cellsOf 2 = 1 := by kernel_rfl
 have z1 : Tryz.prog.cellsOf 22 = 1 := by kernel_rfl
 have f0 : DataW.trod enc Tryz.prog W base spare held n 2 (([c0, c1, c2, c3, c4].drop 0).take (Tryz.prog.cellsOf 2)) = some y0 := hfi 0 _ rfl
 rw [z0] at f0
 obtain ⟨d0, r0⟩ := (opens_int Tryz.underlying2) enc W base spare held n _ _ f0
 have f1 : DataW.trod enc Tryz.prog W base spare held n 2 (([c0, c1, c2, c3, c4].drop 1).take (Tryz.prog.cellsOf 2)) = some y1 := hfi 1 _ rfl
 rw [z0] at f1
 obtain ⟨d1, r1⟩ := (opens_int Tryz.underlying2) enc W base spare held n _ _ f1
 have f2 : DataW.trod enc Tryz.prog W base spare held n 22 (([c0, c1, c2, c3, c4].drop 2).take (Tryz.prog.cellsOf 22)) = some y2 := hfi 2 _ rfl
 rw [z1] at f2
 obtain ⟨d2, r2⟩ := (opens_sl Tryz.underlying22 (by kernel_rfl) (by decide) (opens_int Tryz.underlying2)) enc W base spare held n _ _ f2
 have f3 : DataW.trod enc Tryz.prog W base spare held n 2 (([c0, c1, c2, c3, c4].drop 3).take (Tryz.prog.cellsOf 2)) = some y3 := hfi 3 _ rfl
 rw [z0] at f3
 obtain ⟨d3, r3⟩ := (opens_int Tryz.underlying2) enc W base spare held n _ _ f3
 have f4 : DataW.trod enc Tryz.prog W base spare held n 2 (([c0, c1, c2, c3, c4].drop 4).take (Tryz.prog.cellsOf 2)) = some y4 := hfi 4 _ rfl
 rw [z0] at f4
 obtain ⟨d4, r4⟩ := (opens_int Tryz.underlying2) enc W base spare held n _ _ f4
 exact ⟨⟨d0, d1, d2, d3, d4⟩, (reads_pair r0 (reads_pair r1 (reads_pair r2 (reads_pair r3 r4))))⟩
theorem opens_Node : Opens Lay.tNode 148 := by
 intro H enc W base spare held fuel cs x h
 obtain ⟨xs, n, _, _, hlen, hl, hfi⟩ := DataW.trod_struct Tryz.underlying148 h
 rw [show Tryz.prog.cellsOf 148 = 7 by kernel_rfl] at hlen
 match cs, hlen with
 | [c0, c1, c2, c3, c4, c5, c6], _ =>
 match xs, hl with
 | [y0, y1, y2, y3, y4, y5, y6], _ =>
 have z0 : Tryz.prog.cellsOf 2 = 1 := by kernel_rfl
 have z1 : Tryz.prog.cellsOf 4 = 1 := by kernel_rfl
 have z2 : Tryz.prog.cellsOf 146 = 1 := by kernel_rfl
 have f0 : DataW.trod enc Tryz.prog W base spare held n 2 (([c0, c1, c2, c3, c4, c5, c6].drop 0).take (Tryz.prog.cellsOf 2)) = some y0 := hfi 0 _ rfl
 rw [z0] at f0
 obtain ⟨d0, r0⟩ := (opens_int Tryz.underlying2) enc W base spare held n _ _ f0
 have f1 : DataW.trod enc Tryz.prog W base spare held n 4 (([c0, c1, c2, c3, c4, c5, c6].drop 1).take (Tryz.prog.cellsOf 4)) = some y1 := hfi 1 _ rfl
 rw [z1] at f1
 obtain ⟨d1, r1⟩ := (opens_bool Tryz.underlying4) enc W base spare held n _ _ f1
 have f2 : DataW.trod enc Tryz.prog W base spare held n 2 (([c0, c1, c2, c3, c4, c5, c6].drop 2).take (Tryz.prog.cellsOf 2)) = some y2 := hfi 2 _ rfl
 rw [z0] at f2
 obtain ⟨d2, r2⟩ := (opens_int Tryz.underlying2) enc W base spare held n _ _ f2
 have f3 : DataW.trod enc Tryz.prog W base spare held n 2 (([c0, c1, c2, c3, c4, c5, c6].drop 3).take (Tryz.prog.cellsOf 2)) = some y3 := hfi 3 _ rfl
 rw [z0] at f3
 obtain ⟨d3, r3⟩ := (opens_int Tryz.underlying2) enc W base spare held n _ _ f3
 have f4 : DataW.trod enc Tryz.prog W base spare held n 146 (([c0, c1, c2, c3, c4, c5, c6].drop 4).take (Tryz.prog.cellsOf 146)) = some y4 := hfi 4 _ rfl
 rw [z2] at f4
 obtain ⟨d4, r4⟩ := (opens_sl Tryz.underlying146 (by kernel_rfl) (by decide) opens_Write) enc W base spare held n _ _ f4
 have f5 : DataW.trod enc Tryz.prog W base spare held n 2 (([c0, c1, c2, c3, c4, c5, c6].drop 5).take (Tryz.prog.cellsOf 2)) = some y5 := hfi 5 _ rfl
 rw [z0] at f5
 obtain ⟨d5, r5⟩ := (opens_int Tryz.underlying2) enc W base spare held n _ _ f5
 have f6 : DataW.trod enc Tryz.prog W base spare held n 2 (([c0, c1, c2, c3, c4, c5, c6].drop 6).take (Tryz.prog.cellsOf 2)) = some y6 := hfi 6 _ rfl
 rw [z0] at f6
 obtain ⟨d6, r6⟩ := (opens_int Tryz.underlying2) enc W base spare held n _ _ f6
 exact ⟨⟨d0, d1, d2, d3, d4, d5, d6⟩, (reads_pair r0 (reads_pair r1 (reads_pair r2 (reads_pair r3 (reads_pair r4 (reads_pair r5 r6))))))⟩
theorem opens_Msg : Opens Lay.tMsg 152 := by
 intro H enc W base spare held fuel cs x h
 obtain ⟨xs, n, _, _, hlen, hl, hfi⟩ := DataW.trod_struct Tryz.underlying152 h
 rw [show Tryz.prog.cellsOf 152 = 10 by kernel_rfl] at hlen
 match cs, hlen with
 | [c0, c1, c2, c3, c4, c5, c6, c7, c8, c9], _ =>
 match xs, hl with
 | [y0, y1, y2, y3, y4, y5], _ =>
 have z0 : Tryz.prog.cellsOf 2 = 1 := by kernel_rfl
 have z1 : Tryz.prog.cellsOf 150 = 5 := by kernel_rfl
 have f0 : DataW.trod enc Tryz.prog W base spare held n 2 (([c0, c1, c2, c3, c4, c5, c6, c7, c8, c9].drop 0).take (Tryz.prog.cellsOf 2)) = some y0 := hfi 0 _ rfl
 rw [z0] at f0
 obtain ⟨d0, r0⟩ := (opens_int Tryz.underlying2) enc W base spare held n _ _ f0
 have f1 : DataW.trod enc Tryz.prog W base spare held n 2 (([c0, c1, c2, c3, c4, c5, c6, c7, c8, c9].drop 1).take (Tryz.prog.cellsOf 2)) = some y1 := hfi 1 _ rfl
 rw [z0] at f1
 obtain ⟨d1, r1⟩ := (opens_int Tryz.underlying2) enc W base spare held n _ _ f1
 have f2 : DataW.trod enc Tryz.prog W base spare held n 2 (([c0, c1, c2, c3, c4, c5, c6, c7, c8, c9].drop 2).take (Tryz.prog.cellsOf 2)) = some y2 := hfi 2 _ rfl
 rw [z0] at f2
 obtain ⟨d2, r2⟩ := (opens_int Tryz.underlying2) enc W base spare held n _ _ f2
 have f3 : DataW.trod enc Tryz.prog W base spare held n 2 (([c0, c1, c2, c3, c4, c5, c6, c7, c8, c9].drop 3).take (Tryz.prog.cellsOf 2)) = some y3 := hfi 3 _ rfl
 rw [z0] at f3
 obtain ⟨d3, r3⟩ := (opens_int Tryz.underlying2) enc W base spare held n _ _ f3
 have f4 : DataW.trod enc Tryz.prog W base spare held n 2 (([c0, c1, c2, c3, c4, c5, c6, c7, c8, c9].drop 4).take (Tryz.prog.cellsOf 2)) = some y4 := hfi 4 _ rfl
 rw [z0] at f4
 obtain ⟨d4, r4⟩ := (opens_int Tryz.underlying2) enc W base spare held n _ _ f4
 have f5 : DataW.trod enc Tryz.prog W base spare held n 150 (([c0, c1, c2, c3, c4, c5, c6, c7, c8, c9].drop 5).take (Tryz.prog.cellsOf 150)) = some y5 := hfi 5 _ rfl
 rw [z1] at f5
 obtain ⟨d5, r5⟩ := (opens_Write) enc W base spare held n _ _ f5
 exact ⟨⟨d0, d1, d2, d3, d4, d5⟩, (reads_pair r0 (reads_pair r1 (reads_pair r2 (reads_pair r3 (reads_pair r4 r5)))))⟩
theorem opens_Hit : Opens Lay.tHit 297 := by
 intro H enc W base spare held fuel cs x h
 obtain ⟨xs, n, _, _, hlen, hl, hfi⟩ := DataW.trod_struct Tryz.underlying297 h
 rw [show Tryz.prog.cellsOf 297 = 2 by kernel_rfl] at hlen
 match cs, hlen with
 | [c0, c1], _ =>
 match xs, hl with
 | [y0, y1], _ =>
 have z0 : Tryz.prog.cellsOf 2 = 1 := by kernel_rfl
 have f0 : DataW.trod enc Tryz.prog W base spare held n 2 (([c0, c1].drop 0).take (Tryz.prog.cellsOf 2)) = some y0 := hfi 0 _ rfl
 rw [z0] at f0
 obtain ⟨d0, r0⟩ := (opens_int Tryz.underlying2) enc W base spare held n _ _ f0
 have f1 : DataW.trod enc Tryz.prog W base spare held n 2 (([c0, c1].drop 1).take (Tryz.prog.cellsOf 2)) = some y1 := hfi 1 _ rfl
 rw [z0] at f1
 obtain ⟨d1, r1⟩ := (opens_int Tryz.underlying2) enc W base spare held n _ _ f1
 exact ⟨⟨d0, d1⟩, (reads_pair r0 r1)⟩
theorem opens_Entry : Opens Lay.tEntry 156 := by
 intro H enc W base spare held fuel cs x h
 obtain ⟨xs, n, _, _, hlen, hl, hfi⟩ := DataW.trod_struct Tryz.underlying156 h
 rw [show Tryz.prog.cellsOf 156 = 11 by kernel_rfl] at hlen
 match cs, hlen with
 | [c0, c1, c2, c3, c4, c5, c6, c7, c8, c9, c10], _ =>
 match xs, hl with
 | [y0, y1, y2, y3, y4, y5, y6, y7, y8, y9, y10], _ =>
 have z0 : Tryz.prog.cellsOf 2 = 1 := by kernel_rfl
 have z1 : Tryz.prog.cellsOf 22 = 1 := by kernel_rfl
 have z2 : Tryz.prog.cellsOf 154 = 1 := by kernel_rfl
 have f0 : DataW.trod enc Tryz.prog W base spare held n 2 (([c0, c1, c2, c3, c4, c5, c6, c7, c8, c9, c10].drop 0).take (Tryz.prog.cellsOf 2)) = some y0 := hfi 0 _ rfl
 rw [z0] at f0
 obtain ⟨d0, r0⟩ := (opens_int Tryz.underlying2) enc W base spare held n _ _ f0
 have f1 : DataW.trod enc Tryz.prog W base spare held n 2 (([c0, c1, c2, c3, c4, c5, c6, c7, c8, c9, c10].drop 1).take (Tryz.prog.cellsOf 2)) = some y1 := hfi 1 _ rfl
 rw [z0] at f1
 obtain ⟨d1, r1⟩ := (opens_int Tryz.underlying2) enc W base spare held n _ _ f1
 have f2 : DataW.trod enc Tryz.prog W base spare held n 2 (([c0, c1, c2, c3, c4, c5, c6, c7, c8, c9, c10].drop 2).take (Tryz.prog.cellsOf 2)) = some y2 := hfi 2 _ rfl
 rw [z0] at f2
 obtain ⟨d2, r2⟩ := (opens_int Tryz.underlying2) enc W base spare held n _ _ f2
 have f3 : DataW.trod enc Tryz.prog W base spare held n 2 (([c0, c1, c2, c3, c4, c5, c6, c7, c8, c9, c10].drop 3).take (Tryz.prog.cellsOf 2)) = some y3 := hfi 3 _ rfl
 rw [z0] at f3
 obtain ⟨d3, r3⟩ := (opens_int Tryz.underlying2) enc W base spare held n _ _ f3
 have f4 : DataW.trod enc Tryz.prog W base spare held n 22 (([c0, c1, c2, c3, c4, c5, c6, c7, c8, c9, c10].drop 4).take (Tryz.prog.cellsOf 22)) = some y4 := hfi 4 _ rfl
 rw [z1] at f4
 obtain ⟨d4, r4⟩ := (opens_sl Tryz.underlying22 (by kernel_rfl) (by decide) (opens_int Tryz.underlying2)) enc W base spare held n _ _ f4
 have f5 : DataW.trod enc Tryz.prog W base spare held n 2 (([c0, c1, c2, c3, c4, c5, c6, c7, c8, c9, c10].drop 5).take (Tryz.prog.cellsOf 2)) = some y5 := hfi 5 _ rfl
 rw [z0] at f5
 obtain ⟨d5, r5⟩ := (opens_int Tryz.underlying2) enc W base spare held n _ _ f5
 have f6 : DataW.trod enc Tryz.prog W base spare held n 2 (([c0, c1, c2, c3, c4, c5, c6, c7, c8, c9, c10].drop 6).take (Tryz.prog.cellsOf 2)) = some y6 := hfi 6 _ rfl
 rw [z0] at f6
 obtain ⟨d6, r6⟩ := (opens_int Tryz.underlying2) enc W base spare held n _ _ f6
 have f7 : DataW.trod enc Tryz.prog W base spare held n 2 (([c0, c1, c2, c3, c4, c5, c6, c7, c8, c9, c10].drop 7).take (Tryz.prog.cellsOf 2)) = some y7 := hfi 7 _ rfl
 rw [z0] at f7
 obtain ⟨d7, r7⟩ := (opens_int Tryz.underlying2) enc W base spare held n _ _ f7
 have f8 : DataW.trod enc Tryz.prog W base spare held n 2 (([c0, c1, c2, c3, c4, c5, c6, c7, c8, c9, c10].drop 8).take (Tryz.prog.cellsOf 2)) = some y8 := hfi 8 _ rfl
 rw [z0] at f8
 obtain ⟨d8, r8⟩ := (opens_int Tryz.underlying2) enc W base spare held n _ _ f8
 have f9 : DataW.trod enc Tryz.prog W base spare held n 22 (([c0, c1, c2, c3, c4, c5, c6, c7, c8, c9, c10].drop 9).take (Tryz.prog.cellsOf 22)) = some y9 := hfi 9 _ rfl
 rw [z1] at f9
 obtain ⟨d9, r9⟩ := (opens_sl Tryz.underlying22 (by kernel_rfl) (by decide) (opens_int Tryz.underlying2)) enc W base spare held n _ _ f9
 have f10 : DataW.trod enc Tryz.prog W base spare held n 154 (([c0, c1, c2, c3, c4, c5, c6, c7, c8, c9, c10].drop 10).take (Tryz.prog.cellsOf 154)) = some y10 := hfi 10 _ rfl
 rw [z2] at f10
 obtain ⟨d10, r10⟩ := (opens_sl Tryz.underlying154 (by kernel_rfl) (by decide) opens_Hit) enc W base spare held n _ _ f10
 exact ⟨⟨d0, d1, d2, d3, d4, d5, d6, d7, d8, d9, d10⟩, (reads_pair r0 (reads_pair r1 (reads_pair r2 (reads_pair r3 (reads_pair r4 (reads_pair r5 (reads_pair r6 (reads_pair r7 (reads_pair r8 (reads_pair r9 r10))))))))))⟩
theorem opens_World : Opens Lay.tWorld 29 := by
 intro H enc W base spare held fuel cs x h
 obtain ⟨xs, n, _, _, hlen, hl, hfi⟩ := DataW.trod_struct Tryz.underlying29 h
 rw [show Tryz.prog.cellsOf 29 = 7 by kernel_rfl] at hlen
 match cs, hlen with
 | [c0, c1, c2, c3, c4, c5, c6], _ =>
 match xs, hl with
 | [y0, y1, y2, y3, y4, y5], _ =>
 have z0 : Tryz.prog.cellsOf 2 = 1 := by kernel_rfl
 have z1 : Tryz.prog.cellsOf 24 = 2 := by kernel_rfl
 have z2 : Tryz.prog.cellsOf 25 = 1 := by kernel_rfl
 have z3 : Tryz.prog.cellsOf 26 = 1 := by kernel_rfl
 have z4 : Tryz.prog.cellsOf 27 = 1 := by kernel_rfl
 have f0 : DataW.trod enc Tryz.prog W base spare held n 2 (([c0, c1, c2, c3, c4, c5, c6].drop 0).take (Tryz.prog.cellsOf 2)) = some y0 := hfi 0 _ rfl
 rw [z0] at f0
 obtain ⟨d0, r0⟩ := (opens_int Tryz.underlying2) enc W base spare held n _ _ f0
 have f1 : DataW.trod enc Tryz.prog W base spare held n 2 (([c0, c1, c2, c3, c4, c5, c6].drop 1).take (Tryz.prog.cellsOf 2)) = some y1 := hfi 1 _ rfl
 rw [z0] at f1
 obtain ⟨d1, r1⟩ := (opens_int Tryz.underlying2) enc W base spare held n _ _ f1
 have f2 : DataW.trod enc Tryz.prog W base spare held n 24 (([c0, c1, c2, c3, c4, c5, c6].drop 2).take (Tryz.prog.cellsOf 24)) = some y2 := hfi 2 _ rfl
 rw [z1] at f2
 obtain ⟨d2, r2⟩ := (opens_Chain) enc W base spare held n _ _ f2
 have f3 : DataW.trod enc Tryz.prog W base spare held n 25 (([c0, c1, c2, c3, c4, c5, c6].drop 4).take (Tryz.prog.cellsOf 25)) = some y3 := hfi 3 _ rfl
 rw [z2] at f3
 obtain ⟨d3, r3⟩ := (opens_sl Tryz.underlying25 (by kernel_rfl) (by decide) opens_Node) enc W base spare held n _ _ f3
 have f4 : DataW.trod enc Tryz.prog W base spare held n 26 (([c0, c1, c2, c3, c4, c5, c6].drop 5).take (Tryz.prog.cellsOf 26)) = some y4 := hfi 4 _ rfl
 rw [z3] at f4
 obtain ⟨d4, r4⟩ := (opens_sl Tryz.underlying26 (by kernel_rfl) (by decide) opens_Msg) enc W base spare held n _ _ f4
 have f5 : DataW.trod enc Tryz.prog W base spare held n 27 (([c0, c1, c2, c3, c4, c5, c6].drop 6).take (Tryz.prog.cellsOf 27)) = some y5 := hfi 5 _ rfl
 rw [z4] at f5
 obtain ⟨d5, r5⟩ := (opens_sl Tryz.underlying27 (by kernel_rfl) (by decide) opens_Entry) enc W base spare held n _ _ f5
 exact ⟨⟨d0, d1, d2, d3, d4, d5⟩, (reads_pair r0 (reads_pair r1 (reads_pair r2 (reads_pair r3 (reads_pair r4 r5)))))⟩
end Go.Proofs.YtoanimpijfijgaaGreat
