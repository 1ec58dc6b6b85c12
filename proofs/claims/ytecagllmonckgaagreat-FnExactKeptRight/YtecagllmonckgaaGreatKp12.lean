/-
  Texts of this proof in one: ImplTailIn, ImplSure, ImplLast, ImplSeenAt, ImplPlace, ImplOver, ImplKept, LawKept, OpenChain, OpenWrite, OpenNode, OpenMsg, OpenHit, OpenEntry, OpenWorld.
  Their conditions stand in their theorems.
-/
import Derived.Test.YtecagllmonckgaaGreatKp09
import Derived.Test.YtecagllmonckgaaGreatKp11
import Derived.Test.YtecagllmonckgaaGreatKp05
import Derived.Deep.RegionHeld3
import Derived.Deep.CutRange
import Derived.Test.YtecagllmonckgaaGreatKp00
import Derived.Test.YtecagllmonckgaaGreatKp07
import Derived.Test.YtecagllmonckgaaGreatKp08
import Derived.Test.YtecagllmonckgaaGreatKp01
set_option maxRecDepth 100000
set_option maxHeartbeats 4000000
namespace Go.Proofs.YtecagllmonckgaaGreat
open Go.RowKit
theorem kE (cs : List Value) (x : aL) (k : Nat) (w : World) (h : ad.aS.Reads w cs x) (hok : cN x) (hk : k < x.nodes.length) (ht : b8 x = (k : Int) + 1) :
  Calls Tryz.prog 128 #[.agg cs.toArray] w fun e w' => ∃ an dn, e = .returned (.agg #[.int .i64 x.nodes[k].id, .bool x.nodes[k].up, .int .i64 x.nodes[k].ab, .int .i64 x.nodes[k].ak, .slice an x.nodes[k].writes.length dn, .int .i64 x.nodes[k].sure, .int .i64 x.nodes[k].clean]) ∧ ad.aP.Reads w' [.int .i64 x.nodes[k].id, .bool x.nodes[k].up, .int .i64 x.nodes[k].ab, .int .i64 x.nodes[k].ak, .slice an x.nodes[k].writes.length dn, .int .i64 x.nodes[k].sure, .int .i64 x.nodes[k].clean] x.nodes[k] ∧ Below w.heap.size w w' := by
 obtain ⟨a3, d3, a4, d4, a5, d5, a6, d6, rfl, RC0, RN0, -, -⟩ := aw h
 obtain ⟨b, off, rfl, hbl⟩ := ad.aF RN0 (by omega)
 obtain ⟨row, hcl, hr⟩ := ad.aX RN0 hk
 have hr0 := hr
 obtain ⟨an, dn, rfl, -⟩ := a0 hr
 have nb : Below w.heap.size w ((w.alloc (.cells #[.int .i64 x.now, .int .i64 x.events, .int .i64 x.chain.ab, .slice a3 x.chain.ids.length d3, .slice (some ⟨b, off, none⟩) x.nodes.length d4, .slice a5 x.msgs.length d5, .slice a6 x.ae.length d6] 37)).alloc (.cells #[.int .i64 0, .bool false, .int .i64 0, .int .i64 0, .slice none 0 0, .int .i64 0, .int .i64 0] 79)) := ((Below.refl _ _).alloc (Nat.le_refl _) _).alloc (by simp) _
 have HX : Hid (aj 0 #[.int .i64 x.now, .int .i64 x.events, .int .i64 x.chain.ab, .slice a3 x.chain.ids.length d3, .slice (some ⟨b, off, none⟩) x.nodes.length d4, .slice a5 x.msgs.length d5, .slice a6 x.ae.length d6] 37 ((w.alloc (.cells #[.int .i64 x.now, .int .i64 x.events, .int .i64 x.chain.ab, .slice a3 x.chain.ids.length d3, .slice (some ⟨b, off, none⟩) x.nodes.length d4, .slice a5 x.msgs.length d5, .slice a6 x.ae.length d6] 37)).alloc (.cells #[.int .i64 0, .bool false, .int .i64 0, .int .i64 0, .slice none 0 0, .int .i64 0, .int .i64 0] 79)) w.heap.size) := (aI (Nat.zero_le _)).grow _
 have HY : Hid (aj 0 #[.int .i64 0, .bool false, .int .i64 0, .int .i64 0, .slice none 0 0, .int .i64 0, .int .i64 0] 79 ((w.alloc (.cells #[.int .i64 x.now, .int .i64 x.events, .int .i64 x.chain.ab, .slice a3 x.chain.ids.length d3, .slice (some ⟨b, off, none⟩) x.nodes.length d4, .slice a5 x.msgs.length d5, .slice a6 x.ae.length d6] 37)).alloc (.cells #[.int .i64 0, .bool false, .int .i64 0, .int .i64 0, .slice none 0 0, .int .i64 0, .int .i64 0] 79)) (w.heap.size + 1)) := aW (Nat.zero_le _) (by simp)
 have hz0 : ((w.alloc (.cells #[.int .i64 x.now, .int .i64 x.events, .int .i64 x.chain.ab, .slice a3 x.chain.ids.length d3, .slice (some ⟨b, off, none⟩) x.nodes.length d4, .slice a5 x.msgs.length d5, .slice a6 x.ae.length d6] 37)).alloc (.cells #[.int .i64 0, .bool false, .int .i64 0, .int .i64 0, .slice none 0 0, .int .i64 0, .int .i64 0] 79)).heap.size = w.heap.size + 2 := by simp
 have hl := (cu hok.chain).len
 have HL0 := yh (RC0.af nb)
 have x0 : ((w.alloc (.cells #[.int .i64 x.now, .int .i64 x.events, .int .i64 x.chain.ab, .slice a3 x.chain.ids.length d3, .slice (some ⟨b, off, none⟩) x.nodes.length d4, .slice a5 x.msgs.length d5, .slice a6 x.ae.length d6] 37)).alloc (.cells #[.int .i64 0, .bool false, .int .i64 0, .int .i64 0, .slice none 0 0, .int .i64 0, .int .i64 0] 79)).cell? ⟨b, off + k * 7, none⟩ = some (.int .i64 (x.nodes[k]).id) := (cell_of_heap (nb.block b hbl) _).trans (hcl 0 (by decide))
 have x1 : ((w.alloc (.cells #[.int .i64 x.now, .int .i64 x.events, .int .i64 x.chain.ab, .slice a3 x.chain.ids.length d3, .slice (some ⟨b, off, none⟩) x.nodes.length d4, .slice a5 x.msgs.length d5, .slice a6 x.ae.length d6] 37)).alloc (.cells #[.int .i64 0, .bool false, .int .i64 0, .int .i64 0, .slice none 0 0, .int .i64 0, .int .i64 0] 79)).cell? ⟨b, off + k * 7 + 1, none⟩ = some (.bool (x.nodes[k]).up) := (cell_of_heap (nb.block b hbl) _).trans (hcl 1 (by decide))
 have x2 : ((w.alloc (.cells #[.int .i64 x.now, .int .i64 x.events, .int .i64 x.chain.ab, .slice a3 x.chain.ids.length d3, .slice (some ⟨b, off, none⟩) x.nodes.length d4, .slice a5 x.msgs.length d5, .slice a6 x.ae.length d6] 37)).alloc (.cells #[.int .i64 0, .bool false, .int .i64 0, .int .i64 0, .slice none 0 0, .int .i64 0, .int .i64 0] 79)).cell? ⟨b, off + k * 7 + 2, none⟩ = some (.int .i64 (x.nodes[k]).ab) := (cell_of_heap (nb.block b hbl) _).trans (hcl 2 (by decide))
 have x3 : ((w.alloc (.cells #[.int .i64 x.now, .int .i64 x.events, .int .i64 x.chain.ab, .slice a3 x.chain.ids.length d3, .slice (some ⟨b, off, none⟩) x.nodes.length d4, .slice a5 x.msgs.length d5, .slice a6 x.ae.length d6] 37)).alloc (.cells #[.int .i64 0, .bool false, .int .i64 0, .int .i64 0, .slice none 0 0, .int .i64 0, .int .i64 0] 79)).cell? ⟨b, off + k * 7 + 3, none⟩ = some (.int .i64 (x.nodes[k]).ak) := (cell_of_heap (nb.block b hbl) _).trans (hcl 3 (by decide))
 have x4 : ((w.alloc (.cells #[.int .i64 x.now, .int .i64 x.events, .int .i64 x.chain.ab, .slice a3 x.chain.ids.length d3, .slice (some ⟨b, off, none⟩) x.nodes.length d4, .slice a5 x.msgs.length d5, .slice a6 x.ae.length d6] 37)).alloc (.cells #[.int .i64 0, .bool false, .int .i64 0, .int .i64 0, .slice none 0 0, .int .i64 0, .int .i64 0] 79)).cell? ⟨b, off + k * 7 + 4, none⟩ = some (.slice an (x.nodes[k]).writes.length dn) := (cell_of_heap (nb.block b hbl) _).trans (hcl 4 (by decide))
 have x5 : ((w.alloc (.cells #[.int .i64 x.now, .int .i64 x.events, .int .i64 x.chain.ab, .slice a3 x.chain.ids.length d3, .slice (some ⟨b, off, none⟩) x.nodes.length d4, .slice a5 x.msgs.length d5, .slice a6 x.ae.length d6] 37)).alloc (.cells #[.int .i64 0, .bool false, .int .i64 0, .int .i64 0, .slice none 0 0, .int .i64 0, .int .i64 0] 79)).cell? ⟨b, off + k * 7 + 5, none⟩ = some (.int .i64 (x.nodes[k]).sure) := (cell_of_heap (nb.block b hbl) _).trans (hcl 5 (by decide))
 have x6 : ((w.alloc (.cells #[.int .i64 x.now, .int .i64 x.events, .int .i64 x.chain.ab, .slice a3 x.chain.ids.length d3, .slice (some ⟨b, off, none⟩) x.nodes.length d4, .slice a5 x.msgs.length d5, .slice a6 x.ae.length d6] 37)).alloc (.cells #[.int .i64 0, .bool false, .int .i64 0, .int .i64 0, .slice none 0 0, .int .i64 0, .int .i64 0] 79)).cell? ⟨b, off + k * 7 + 6, none⟩ = some (.int .i64 (x.nodes[k]).clean) := (cell_of_heap (nb.block b hbl) _).trans (hcl 6 (by decide))
 have hbl2 : b < ((w.alloc (.cells #[.int .i64 x.now, .int .i64 x.events, .int .i64 x.chain.ab, .slice a3 x.chain.ids.length d3, .slice (some ⟨b, off, none⟩) x.nodes.length d4, .slice a5 x.msgs.length d5, .slice a6 x.ae.length d6] 37)).alloc (.cells #[.int .i64 0, .bool false, .int .i64 0, .int .i64 0, .slice none 0 0, .int .i64 0, .int .i64 0] 79)).heap.size := by omega
 have HN := yh hr0
 have hw1 : IntKind.i64.wrap (k : Int) = (k : Int) := by
  have := hok.some
  rw [IntKind.wrap_i64]
  omega
 have hki : (k : Int) < (x.nodes.length : Int) := by omega
 have hki0 : (0 : Int) ≤ (k : Int) := by omega
 have HB := yh nb
 clear hcl hr hr0 RC0 RN0 h hok nb
 generalize hnn : x.nodes[k] = n at *
 clear hnn
 go_enter Tryz.func128, Tryz.ntmps128
 go_upto_region 1 with fail
 generalize ((w.alloc (.cells #[.int .i64 x.now, .int .i64 x.events, .int .i64 x.chain.ab, .slice a3 x.chain.ids.length d3, .slice (some ⟨b, off, none⟩) x.nodes.length d4, .slice a5 x.msgs.length d5, .slice a6 x.ae.length d6] 37)).alloc (.cells #[.int .i64 0, .bool false, .int .i64 0, .int .i64 0, .slice none 0 0, .int .i64 0, .int .i64 0] 79)) = W0 at *
 have HL := yh (ln _ x.chain W0.drew ((uh HL0).drew 1) (x.chain.ids.length - 1) (by omega) hl.2)
 rw [show x.chain.ids.getD (x.chain.ids.length - 1) 0 = (k : Int) + 1 from ht] at HL
 have hx := uh HX
 have hxl := hx.lt
 have z2 := aj.at hx 2 _ rfl
 have z3 := aj.at hx 3 _ rfl
 have z4 := aj.at hx 4 _ rfl
 simp only [ga, gb, gc] at z2 z3 z4
 have HYD := yh (uh HY).drew
 have HBD := yh (uh HB).drew
 clear hx HX HY HB HL0 ht hl
 refine wZz (fun w' => Ext (fun q => w.heap.size < q) W0 w') ((Ext.refl _ _).drew 1) (fun zq => ?_)
 generalize W0.drew = wD at zq HL HYD HBD ⊢
 refine tkH 0 zq ?_
 refine tkJ 1 (v := ?vc1) ?hc1 zq ?rc1
 case hc1 =>
  intro wS hSw
  have q4 := (cell_of_heap (hSw.block w.heap.size hxl (fun e => Nat.lt_irrefl _ e)) 4).trans z4
  clear hSw
  exact fZ
 refine tkH 2 zq ?_
 refine tkJ 3 (v := ?vc3) ?hc3 zq ?rc3
 case hc3 =>
  intro wS hSw
  have q2 := (cell_of_heap (hSw.block w.heap.size hxl (fun e => Nat.lt_irrefl _ e)) 2).trans z2
  have q3 := (cell_of_heap (hSw.block w.heap.size hxl (fun e => Nat.lt_irrefl _ e)) 3).trans z3
  clear hSw
  exact fZ
 refine rdH 4 (fun K hK => ?_)
 go_simp
 go_at_call 194
 refine (uh HL).mono ?_
 rintro e w3 ⟨rfl, hb3⟩
 have hy3 := (uh HYD).ar hb3
 have r0 := aj.at hy3 0 _ rfl
 have r1 := aj.at hy3 1 _ rfl
 have r2 := aj.at hy3 2 _ rfl
 have r3 := aj.at hy3 3 _ rfl
 have r4 := aj.at hy3 4 _ rfl
 have r5 := aj.at hy3 5 _ rfl
 have r6 := aj.at hy3 6 _ rfl
 simp only [ga, gb, gc] at r0 r1 r2 r3 r4 r5 r6
 have rf := aj.soft hy3
 have rl := hy3.lt
 try go_wp2_with fail
 refine hK.out _ _ (zq.trans (bd hb3 _)) (fun zq => ?_)
 clear hK K
 try simp only [Act.put, pz, py, px]
 refine tkH 5 zq ?_
 refine tkH 6 zq ?_
 refine tkJ 7 (v := ?vc7) ?hc7 zq ?rc7
 case hc7 =>
  intro wS hSw
  have q0 : wS.cell? ⟨b, off + k * 7, none⟩ = some (.int .i64 n.id) := (cell_of_heap (hSw.block b hbl2 (fun e => by omega)) (off + k * 7)).trans x0
  have q1 : wS.cell? ⟨b, off + k * 7 + 1, none⟩ = some (.bool n.up) := (cell_of_heap (hSw.block b hbl2 (fun e => by omega)) (off + k * 7 + 1)).trans x1
  have q2 : wS.cell? ⟨b, off + k * 7 + 2, none⟩ = some (.int .i64 n.ab) := (cell_of_heap (hSw.block b hbl2 (fun e => by omega)) (off + k * 7 + 2)).trans x2
  have q3 : wS.cell? ⟨b, off + k * 7 + 3, none⟩ = some (.int .i64 n.ak) := (cell_of_heap (hSw.block b hbl2 (fun e => by omega)) (off + k * 7 + 3)).trans x3
  have q4 : wS.cell? ⟨b, off + k * 7 + 4, none⟩ = some (.slice an n.writes.length dn) := (cell_of_heap (hSw.block b hbl2 (fun e => by omega)) (off + k * 7 + 4)).trans x4
  have q5 : wS.cell? ⟨b, off + k * 7 + 5, none⟩ = some (.int .i64 n.sure) := (cell_of_heap (hSw.block b hbl2 (fun e => by omega)) (off + k * 7 + 5)).trans x5
  have q6 : wS.cell? ⟨b, off + k * 7 + 6, none⟩ = some (.int .i64 n.clean) := (cell_of_heap (hSw.block b hbl2 (fun e => by omega)) (off + k * 7 + 6)).trans x6
  clear hSw
  exact fZ
 refine rdH 8 (fun K hK => ?_)
 go_simp
 refine hK.out _ _ (Ext.setCell (Ext.setCell (Ext.setCell (Ext.setCell (Ext.setCell (Ext.setCell (Ext.setCell zq ⟨w.heap.size + 1, 0, none⟩ (.int .i64 n.id) (Nat.lt_succ_self _)) ⟨w.heap.size + 1, 1, none⟩ (.bool n.up) (Nat.lt_succ_self _)) ⟨w.heap.size + 1, 2, none⟩ (.int .i64 n.ab) (Nat.lt_succ_self _)) ⟨w.heap.size + 1, 3, none⟩ (.int .i64 n.ak) (Nat.lt_succ_self _)) ⟨w.heap.size + 1, 4, none⟩ (.slice an n.writes.length dn) (Nat.lt_succ_self _)) ⟨w.heap.size + 1, 5, none⟩ (.int .i64 n.sure) (Nat.lt_succ_self _)) ⟨w.heap.size + 1, 6, none⟩ (.int .i64 n.clean) (Nat.lt_succ_self _)) (fun zq => ?_)
 clear hK K
 try simp only [Act.put, pz, py, px]
 refine dZ ?_
 have hy9 := (aj.set (aj.set (aj.set (aj.set (aj.set (aj.set (aj.set hy3 0 (.int .i64 n.id)) 1 (.bool n.up)) 2 (.int .i64 n.ab)) 3 (.int .i64 n.ak)) 4 (.slice an n.writes.length dn)) 5 (.int .i64 n.sure)) 6 (.int .i64 n.clean))
 simp only [List.setIfInBounds_toArray, List.set_cons_zero, List.set_cons_succ] at hy9
 have HB9 := yh (bF ((uh HBD).trans (hb3.mono (uh HBD).size)) (w.heap.size + 1) 0 [.int .i64 n.id, .bool n.up, .int .i64 n.ab, .int .i64 n.ak, .slice an n.writes.length dn, .int .i64 n.sure, .int .i64 n.clean] (by omega))
 clear r0 r1 r2 r3 r4 r5 r6
 have r0 := aj.at hy9 0 _ rfl
 have r1 := aj.at hy9 1 _ rfl
 have r2 := aj.at hy9 2 _ rfl
 have r3 := aj.at hy9 3 _ rfl
 have r4 := aj.at hy9 4 _ rfl
 have r5 := aj.at hy9 5 _ rfl
 have r6 := aj.at hy9 6 _ rfl
 simp only [ga, gb, gc] at r0 r1 r2 r3 r4 r5 r6
 clear zq hy3 hy9 hb3 HL HYD HBD x0 x1 x2 x3 x4 x5 x6
 go_wp2_with fail
 refine bodyPost_ret (v := .agg #[.int .i64 n.id, .bool n.up, .int .i64 n.ab, .int .i64 n.ak, .slice an n.writes.length dn, .int .i64 n.sure, .int .i64 n.clean]) (by simp [results, Tryz.results128, go_sem, r0, r1, r2, r3, r4, r5, r6]) rfl ?_
 exact ⟨an, dn, rfl, (uh HN).af (uh HB9), uh HB9⟩
theorem gU (cs : List Value) (x : aL) (k : Nat) (w : World) (h : ad.aS.Reads w cs x) (hok : cN x) (hk : k < x.nodes.length) (ht : b8 x = (k : Int) + 1) :
  Calls Tryz.prog 163 #[.agg cs.toArray] w fun e w' => ∃ v, e = .returned v ∧ (ad.sl ad.ag).Reads w' [v] (x.nodes[k].writes.take x.nodes[k].sure.toNat) ∧ Below w.heap.size w w' := by
 obtain ⟨a3, d3, a4, d4, a5, d5, a6, d6, rfl, -, -, -, -⟩ := aw h
 have nb : Below w.heap.size w (w.alloc (.cells #[.int .i64 x.now, .int .i64 x.events, .int .i64 x.chain.ab, .slice a3 x.chain.ids.length d3, .slice a4 x.nodes.length d4, .slice a5 x.msgs.length d5, .slice a6 x.ae.length d6] 37)) := (Below.refl _ _).alloc (Nat.le_refl _) _
 have HX : Hid (aj 0 #[.int .i64 x.now, .int .i64 x.events, .int .i64 x.chain.ab, .slice a3 x.chain.ids.length d3, .slice a4 x.nodes.length d4, .slice a5 x.msgs.length d5, .slice a6 x.ae.length d6] 37 (w.alloc (.cells #[.int .i64 x.now, .int .i64 x.events, .int .i64 x.chain.ab, .slice a3 x.chain.ids.length d3, .slice a4 x.nodes.length d4, .slice a5 x.msgs.length d5, .slice a6 x.ae.length d6] 37)) w.heap.size) := aI (Nat.zero_le _)
 have HL := yh (kE _ x k _ (h.af nb) hok hk ht)
 have HB := yh nb
 have hno := cE (hok.nodes k hk).1
 have HS := yh hno.sure
 have HN4 := yh hno.len
 clear nb h hok hno
 go_enter Tryz.func163, Tryz.ntmps163
 go_upto_region 1 with fail
 generalize (w.alloc (.cells #[.int .i64 x.now, .int .i64 x.events, .int .i64 x.chain.ab, .slice a3 x.chain.ids.length d3, .slice a4 x.nodes.length d4, .slice a5 x.msgs.length d5, .slice a6 x.ae.length d6] 37)) = W1 at *
 have z0 := aj.at (uh HX) 0 _ rfl
 have z1 := aj.at (uh HX) 1 _ rfl
 have z2 := aj.at (uh HX) 2 _ rfl
 have z3 := aj.at (uh HX) 3 _ rfl
 have z4 := aj.at (uh HX) 4 _ rfl
 have z5 := aj.at (uh HX) 5 _ rfl
 have z6 := aj.at (uh HX) 6 _ rfl
 simp only [ga, gb, gc] at z0 z1 z2 z3 z4 z5 z6
 have zl := (uh HX).lt
 go_wp2_with fail
 refine (uh HL).mono ?_
 rintro e w3 ⟨an, dn, rfl, RN, hb3⟩
 generalize hnn : x.nodes[k] = n at *
 obtain ⟨an', dn', hq, RW⟩ := a0 RN
 simp only [List.cons.injEq, Value.slice.injEq, true_and, and_true] at hq
 obtain ⟨rfl, rfl⟩ := hq
 obtain ⟨m, hm⟩ : ∃ m : Nat, n.sure = (m : Int) := ⟨n.sure.toNat, by have := (uh HS).1; omega⟩
 have hmw : m ≤ n.writes.length := by have := (uh HS).2; omega
 have hmd : m ≤ dn := Nat.le_trans hmw RW.cap.2
 have hln : n.writes.length ≤ 40 := uh HN4
 have nb4 : Below w3.heap.size w3 (w3.alloc (.cells #[.int .i64 n.id, .bool n.up, .int .i64 n.ab, .int .i64 n.ak, .slice an n.writes.length dn, .int .i64 n.sure, .int .i64 n.clean] 79)) := (Below.refl _ _).alloc (Nat.le_refl _) _
 have HY : Hid (aj 0 #[.int .i64 n.id, .bool n.up, .int .i64 n.ab, .int .i64 n.ak, .slice an n.writes.length dn, .int .i64 n.sure, .int .i64 n.clean] 79 (w3.alloc (.cells #[.int .i64 n.id, .bool n.up, .int .i64 n.ab, .int .i64 n.ak, .slice an n.writes.length dn, .int .i64 n.sure, .int .i64 n.clean] 79)) w3.heap.size) := aI (Nat.zero_le _)
 have HT := yh (dR (RW.af nb4).cF m hmw)
 replace HB := yh (((uh HB).trans (hb3.mono (uh HB).size)).trans (nb4.mono (Nat.le_trans (uh HB).size hb3.size)))
 have HTN : Hid (n.sure.toNat = m) := by show n.sure.toNat = m; omega
 rw [hm] at HY nb4 HT HB ⊢
 clear hb3 nb4 HL z0 z1 z2 z3 z4 z5 z6 zl RN RW HX hm HS
 go_upto_region 2 with fail
 generalize w3.alloc (.cells #[.int .i64 n.id, .bool n.up, .int .i64 n.ab, .int .i64 n.ak, .slice an n.writes.length dn, .int .i64 (m : Int), .int .i64 n.clean] 79) = w4 at *
 have y0 := aj.at (uh HY) 0 _ rfl
 have y1 := aj.at (uh HY) 1 _ rfl
 have y2 := aj.at (uh HY) 2 _ rfl
 have y3 := aj.at (uh HY) 3 _ rfl
 have y4 := aj.at (uh HY) 4 _ rfl
 have y5 := aj.at (uh HY) 5 _ rfl
 have y6 := aj.at (uh HY) 6 _ rfl
 simp only [ga, gb, gc] at y0 y1 y2 y3 y4 y5 y6
 have yl := (uh HY).lt
 clear HY
 go_wp2_with fail
 go_ret
 exact ⟨_, rfl, by rw [hnn, uh HTN]; exact (uh HT).reads, uh HB⟩
theorem iz (v : Value) (ws : List ai) (s q : Int) (w : World) (h : (ad.sl ad.ag).Reads w [v] ws) :
  Calls Tryz.prog 162 #[v, .int .i64 s , .int .i64 q] w fun e w' => ∃ cs, e = .returned (.agg cs.toArray) ∧ ad.cV.aV w' cs (bE ws s q) w.heap.size w'.heap.size ∧ Below w.heap.size w w' := by
 have nb : Below w.heap.size w (w.alloc (.cells #[.int .i64 0, .int .i64 0] 60)) := (Below.refl _ _).alloc (Nat.le_refl _) _
 have bR0 : aj w.heap.size #[.int .i64 0, .int .i64 0] 60 (w.alloc (.cells #[.int .i64 0, .int .i64 0] 60)) w.heap.size := aI (Nat.le_refl _)
 have HR := yh (h.af nb)
 have HB0 := yh nb
 have HBR := yh bR0
 obtain ⟨ao, cap, rfl⟩ := aB h
 clear nb bR0 h
 have HL := yh (gl _ ws _ (uh HR))
 go_enter Tryz.func162, Tryz.ntmps162
 go_wp2_with fail
 refine (uh HL).mono ?_
 rintro e w2 ⟨r, rfl, g0, g1, hb⟩
 have bR := (uh HBR).ar hb
 have HB2 := yh ((uh HB0).trans (hb.mono (uh HB0).size))
 have hsz : (w.alloc (.cells #[.int .i64 0, .int .i64 0] 60)).heap.size = w.heap.size + 1 := by simp
 rw [hsz] at g0
 clear hb HL HB0 HBR HR hsz
 by_cases hf : aD ws = 0
 ·
  obtain ⟨rfl, v2, rows, bls, hT⟩ := g0 hf
  clear g0 g1
  have HF := yh hf
  rw [hf]
  clear hf
  have HS := yh (ca s w2)
  by_cases hs : 1 ≤ s ∧ s ≤ 9
  ·
   rw [dec9 hs] at HS
   have HQ := yh (fb q w2)
   by_cases hq : 1 ≤ q ∧ q ≤ 999
   ·
    rw [lJ hq] at HQ
    have hlk := hT.seen.look (s := s) (q := q) (cj (by omega)) (cj (by omega))
    simp only [tick] at hlk
    have zm : w2.cell? ⟨w.heap.size + 1 + 1, 1, none⟩ = some (.map (some (w.heap.size + 1))) := hT.box.at 1 _ rfl
    by_cases h0 : bf ws s q = 0
    ·
     have HG : Hid (bE ws s q = ⟨4, 0⟩) := by show bE ws s q = _; rw [bE, if_pos (cR (uh HF) hs), if_pos hq, if_pos h0]
     have hlk2 : (Instr.lookup 234 (.map (some (w.heap.size + 1))) (.agg #[.int .i64 s, .int .i64 q]) true).run Tryz.prog w2 = .ok (.tuple #[.int .i64 0, .bool false]) w2 := by rw [hlk, h0]; rfl
     clear hlk h0 hs hq hT HF
     go_wp2_with fail
     refine (uh HS).mono ?_
     rintro e w3 ⟨rfl, hw3⟩
     rw [hw3]
     clear hw3 w3
     go_wp2_with fail
     refine (uh HQ).mono ?_
     rintro e w3 ⟨rfl, hw3⟩
     rw [hw3]
     clear hw3 w3
     clear HS HQ
     have z0 : w2.cell? ⟨w.heap.size, 0, none⟩ = some (.int .i64 0) := bR.at 0 _ rfl
     have z1 : w2.cell? ⟨w.heap.size, 1, none⟩ = some (.int .i64 0) := bR.at 1 _ rfl
     have f0 := bR.soft 0
     have f1 := bR.soft 1
     have l0 := bR.lt
     clear bR
     go_wp2_with fail
     refine bodyPost_ret (v := .agg #[.int .i64 (4), .int .i64 (0)]) (by simp [results, Tryz.results162, go_sem, z0, z1]) rfl ?_
     rw [uh HG]
     exact ⟨_, rfl, di (by decide) (by decide), ((uh HB2).setCell (by simp) _).setCell (by simp) _⟩
    have HG : Hid (bE ws s q = ⟨0, bf ws s q⟩) := by show bE ws s q = _; rw [bE, if_pos (cR (uh HF) hs), if_pos hq, if_neg h0]
    have HBD : Hid (bf ws s q ≤ 200) := Nat.le_trans (jK ws s q) (dL (uh HF)).1
    have hlk2 : (Instr.lookup 234 (.map (some (w.heap.size + 1))) (.agg #[.int .i64 s, .int .i64 q]) true).run Tryz.prog w2 = .ok (.tuple #[.int .i64 (bf ws s q), .bool true]) w2 := by rw [hlk]; simp [h0]
    clear hlk h0 hs hq hT HF
    go_wp2_with fail
    refine (uh HS).mono ?_
    rintro e w3 ⟨rfl, hw3⟩
    rw [hw3]
    clear hw3 w3
    go_wp2_with fail
    refine (uh HQ).mono ?_
    rintro e w3 ⟨rfl, hw3⟩
    rw [hw3]
    clear hw3 w3
    clear HS HQ
    have z0 : w2.cell? ⟨w.heap.size, 0, none⟩ = some (.int .i64 0) := bR.at 0 _ rfl
    have z1 : w2.cell? ⟨w.heap.size, 1, none⟩ = some (.int .i64 0) := bR.at 1 _ rfl
    have f0 := bR.soft 0
    have f1 := bR.soft 1
    have l0 := bR.lt
    clear bR
    go_wp2_with fail
    refine bodyPost_ret (v := .agg #[.int .i64 (0), .int .i64 (bf ws s q)]) (by simp [results, Tryz.results162, go_sem, z0, z1]) rfl ?_
    rw [uh HG]
    exact ⟨_, rfl, di (by decide) (cj (by have := uh HBD; omega)), ((uh HB2).setCell (by simp) _).setCell (by simp) _⟩
   rw [lj hq] at HQ
   have HG : Hid (bE ws s q = ⟨3, 0⟩) := by show bE ws s q = _; rw [bE, if_pos (cR (uh HF) hs), if_neg hq]
   clear hs hq hT HF
   go_wp2_with fail
   refine (uh HS).mono ?_
   rintro e w3 ⟨rfl, hw3⟩
   rw [hw3]
   clear hw3 w3
   go_wp2_with fail
   refine (uh HQ).mono ?_
   rintro e w3 ⟨rfl, hw3⟩
   rw [hw3]
   clear hw3 w3
   clear HS HQ
   have z0 : w2.cell? ⟨w.heap.size, 0, none⟩ = some (.int .i64 0) := bR.at 0 _ rfl
   have z1 : w2.cell? ⟨w.heap.size, 1, none⟩ = some (.int .i64 0) := bR.at 1 _ rfl
   have f0 := bR.soft 0
   have f1 := bR.soft 1
   have l0 := bR.lt
   clear bR
   go_wp2_with fail
   refine bodyPost_ret (v := .agg #[.int .i64 (3), .int .i64 (0)]) (by simp [results, Tryz.results162, go_sem, z0, z1]) rfl ?_
   rw [uh HG]
   exact ⟨_, rfl, di (by decide) (by decide), ((uh HB2).setCell (by simp) _).setCell (by simp) _⟩
  rw [mf hs] at HS
  have HG : Hid (bE ws s q = ⟨3, 0⟩) := by show bE ws s q = _; rw [bE, ed (uh HF) hs, if_neg (by decide)]
  clear hs hT HF
  go_wp2_with fail
  refine (uh HS).mono ?_
  rintro e w3 ⟨rfl, hw3⟩
  rw [hw3]
  clear hw3 w3
  clear HS
  have z0 : w2.cell? ⟨w.heap.size, 0, none⟩ = some (.int .i64 0) := bR.at 0 _ rfl
  have z1 : w2.cell? ⟨w.heap.size, 1, none⟩ = some (.int .i64 0) := bR.at 1 _ rfl
  have f0 := bR.soft 0
  have f1 := bR.soft 1
  have l0 := bR.lt
  clear bR
  go_wp2_with fail
  refine bodyPost_ret (v := .agg #[.int .i64 (3), .int .i64 (0)]) (by simp [results, Tryz.results162, go_sem, z0, z1]) rfl ?_
  rw [uh HG]
  exact ⟨_, rfl, di (by decide) (by decide), ((uh HB2).setCell (by simp) _).setCell (by simp) _⟩
 obtain rfl := g1 hf
 clear g0 g1
 have HG : Hid (bE ws s q = ⟨aD ws, 0⟩) := by show bE ws s q = _; rw [bE, jw s hf, if_neg hf]
 have HWF := yh (lH ws)
 have hd : (aD ws != 0) = true := by simpa using hf
 clear hf
 have z0 : w2.cell? ⟨w.heap.size, 0, none⟩ = some (.int .i64 0) := bR.at 0 _ rfl
 have z1 : w2.cell? ⟨w.heap.size, 1, none⟩ = some (.int .i64 0) := bR.at 1 _ rfl
 have f0 := bR.soft 0
 have f1 := bR.soft 1
 have l0 := bR.lt
 clear bR
 go_wp2_with fail
 refine bodyPost_ret (v := .agg #[.int .i64 (aD ws), .int .i64 (0)]) (by simp [results, Tryz.results162, go_sem, z0, z1]) rfl ?_
 rw [uh HG]
 exact ⟨_, rfl, di (uh HWF) (by decide), ((uh HB2).setCell (by simp) _).setCell (by simp) _⟩
theorem fX (cs : List Value) (x : aL) (k : Nat) (s q : Int) (w : World) (h : ad.aS.Reads w cs x) (hok : cN x) (hk : k < x.nodes.length) (ht : b8 x = (k : Int) + 1) :
  Calls Tryz.prog 96 #[.agg cs.toArray, .int .i64 s, .int .i64 q] w fun e w' => e = .returned (.int .i64 (bQ x s q)) ∧ Below w.heap.size w w' := by
 obtain ⟨a3, d3, a4, d4, a5, d5, a6, d6, rfl, -, -, -, -⟩ := aw h
 have nb : Below w.heap.size w (w.alloc (.cells #[.int .i64 x.now, .int .i64 x.events, .int .i64 x.chain.ab, .slice a3 x.chain.ids.length d3, .slice a4 x.nodes.length d4, .slice a5 x.msgs.length d5, .slice a6 x.ae.length d6] 37)) := (Below.refl _ _).alloc (Nat.le_refl _) _
 have HX : Hid (aj 0 #[.int .i64 x.now, .int .i64 x.events, .int .i64 x.chain.ab, .slice a3 x.chain.ids.length d3, .slice a4 x.nodes.length d4, .slice a5 x.msgs.length d5, .slice a6 x.ae.length d6] 37 (w.alloc (.cells #[.int .i64 x.now, .int .i64 x.events, .int .i64 x.chain.ab, .slice a3 x.chain.ids.length d3, .slice a4 x.nodes.length d4, .slice a5 x.msgs.length d5, .slice a6 x.ae.length d6] 37)) w.heap.size) := aI (Nat.zero_le _)
 have HL := yh (gU _ x k _ (h.af nb) hok hk ht)
 have HB := yh nb
 have hno := cE (hok.nodes k hk).1
 have HSV := yh (gx (ws := (x.nodes[k].writes.take x.nodes[k].sure.toNat)) (s := s) (q := q) (by rw [List.length_take]; have := hno.len; omega) (fun v hv => hno.ws v (List.mem_of_mem_take hv)))
 have HPL : Hid (bQ x s q = ((bf (x.nodes[k].writes.take x.nodes[k].sure.toNat) s q : Nat) : Int)) := by show bQ x s q = _; rw [bQ, fI hk ht]
 clear nb h hok hno
 go_enter Tryz.func96, Tryz.ntmps96
 go_upto_region 1 with fail
 generalize (w.alloc (.cells #[.int .i64 x.now, .int .i64 x.events, .int .i64 x.chain.ab, .slice a3 x.chain.ids.length d3, .slice a4 x.nodes.length d4, .slice a5 x.msgs.length d5, .slice a6 x.ae.length d6] 37)) = W1 at *
 have z0 := aj.at (uh HX) 0 _ rfl
 have z1 := aj.at (uh HX) 1 _ rfl
 have z2 := aj.at (uh HX) 2 _ rfl
 have z3 := aj.at (uh HX) 3 _ rfl
 have z4 := aj.at (uh HX) 4 _ rfl
 have z5 := aj.at (uh HX) 5 _ rfl
 have z6 := aj.at (uh HX) 6 _ rfl
 simp only [ga, gb, gc] at z0 z1 z2 z3 z4 z5 z6
 have zl := (uh HX).lt
 go_wp2_with fail
 refine (uh HL).mono ?_
 rintro e w3 ⟨v3, rfl, RA, hb3⟩
 have HS := yh (iz v3 _ s q w3 RA)
 replace HB := bZ HB hb3
 clear hb3 HL RA z0 z1 z2 z3 z4 z5 z6 zl HX
 go_wp2_with fail
 refine (uh HS).mono ?_
 rintro e w4 ⟨us, rfl, O0, hb4⟩
 obtain ⟨rfl, -, -⟩ := iL O0
 replace HB := bZ HB hb4
 clear hb4 HS O0
 generalize (bE (x.nodes[k].writes.take x.nodes[k].sure.toNat) s q).code = c1 at *
 generalize (bE (x.nodes[k].writes.take x.nodes[k].sure.toNat) s q).value = v1 at *
 have hfl : ∀ w : World, (Instr.field 60 (.agg #[.int .i64 c1, .int .i64 v1]) 1).run Tryz.prog w = .ok (.int .i64 v1) w := fun _ => by kernel_rfl
 go_wp2_with fail
 go_ret
 exact ⟨by rw [uh HPL, ← uh HSV]; try rfl, uh HB⟩
theorem kB (cs : List Value) (x : bw) (w : World) (h : ad.aH.Reads w cs x) :
  Calls Tryz.prog 94 #[.agg cs.toArray] w fun e w' => e = .returned (.bool (x.fin != 0)) ∧ Below w.heap.size w w' := by
 obtain ⟨aq, dq, av, dv, ah, dh, rfl, -, -, -⟩ := aZ h
 have nb : Below w.heap.size w (w.alloc (.cells #[.int .i64 x.kind, .int .i64 x.aa, .int .i64 x.seq, .int .i64 x.id, .slice aq x.query.length dq, .int .i64 x.k, .int .i64 x.start, .int .i64 x.fin, .int .i64 x.place, .slice av x.vec.length dv, .slice ah x.aO.length dh] 85)) := (Below.refl _ _).alloc (Nat.le_refl _) _
 have bX : aj 0 #[.int .i64 x.kind, .int .i64 x.aa, .int .i64 x.seq, .int .i64 x.id, .slice aq x.query.length dq, .int .i64 x.k, .int .i64 x.start, .int .i64 x.fin, .int .i64 x.place, .slice av x.vec.length dv, .slice ah x.aO.length dh] 85 (w.alloc (.cells #[.int .i64 x.kind, .int .i64 x.aa, .int .i64 x.seq, .int .i64 x.id, .slice aq x.query.length dq, .int .i64 x.k, .int .i64 x.start, .int .i64 x.fin, .int .i64 x.place, .slice av x.vec.length dv, .slice ah x.aO.length dh] 85)) w.heap.size := aI (Nat.zero_le _)
 have z7 := aj.at bX 7 _ rfl
 simp only [ga, gb, gc] at z7
 have HB := yh nb
 clear nb bX h
 go_enter Tryz.func94, Tryz.ntmps94
 go_wp2_with fail
 go_ret
 exact ⟨rfl, uh HB⟩
theorem la (cs ds : List Value) (x : aL) (e : bw) (k : Nat) (w : World) (h : ad.aS.Reads w cs x) (he : ad.aH.Reads w ds e) (hok : cN x) (hk : k < x.nodes.length) (ht : b8 x = (k : Int) + 1) :
  Calls Tryz.prog 157 #[.agg cs.toArray, .agg ds.toArray] w fun r w' => r = .returned (.bool (dT x e)) ∧ Below w.heap.size w w' := by
 obtain ⟨a3, d3, a4, d4, a5, d5, a6, d6, rfl, -, -, -, -⟩ := aw h
 obtain ⟨aq, dq, av, dv, ah, dh, rfl, -, -, -⟩ := aZ he
 have nb : Below w.heap.size w ((w.alloc (.cells #[.int .i64 x.now, .int .i64 x.events, .int .i64 x.chain.ab, .slice a3 x.chain.ids.length d3, .slice a4 x.nodes.length d4, .slice a5 x.msgs.length d5, .slice a6 x.ae.length d6] 37)).alloc (.cells #[.int .i64 e.kind, .int .i64 e.aa, .int .i64 e.seq, .int .i64 e.id, .slice aq e.query.length dq, .int .i64 e.k, .int .i64 e.start, .int .i64 e.fin, .int .i64 e.place, .slice av e.vec.length dv, .slice ah e.aO.length dh] 85)) := ((Below.refl _ _).alloc (Nat.le_refl _) _).alloc (by simp) _
 have HX : Hid (aj 0 #[.int .i64 x.now, .int .i64 x.events, .int .i64 x.chain.ab, .slice a3 x.chain.ids.length d3, .slice a4 x.nodes.length d4, .slice a5 x.msgs.length d5, .slice a6 x.ae.length d6] 37 ((w.alloc (.cells #[.int .i64 x.now, .int .i64 x.events, .int .i64 x.chain.ab, .slice a3 x.chain.ids.length d3, .slice a4 x.nodes.length d4, .slice a5 x.msgs.length d5, .slice a6 x.ae.length d6] 37)).alloc (.cells #[.int .i64 e.kind, .int .i64 e.aa, .int .i64 e.seq, .int .i64 e.id, .slice aq e.query.length dq, .int .i64 e.k, .int .i64 e.start, .int .i64 e.fin, .int .i64 e.place, .slice av e.vec.length dv, .slice ah e.aO.length dh] 85)) w.heap.size) := (aI (Nat.zero_le _)).grow _
 have HE : Hid (aj 0 #[.int .i64 e.kind, .int .i64 e.aa, .int .i64 e.seq, .int .i64 e.id, .slice aq e.query.length dq, .int .i64 e.k, .int .i64 e.start, .int .i64 e.fin, .int .i64 e.place, .slice av e.vec.length dv, .slice ah e.aO.length dh] 85 ((w.alloc (.cells #[.int .i64 x.now, .int .i64 x.events, .int .i64 x.chain.ab, .slice a3 x.chain.ids.length d3, .slice a4 x.nodes.length d4, .slice a5 x.msgs.length d5, .slice a6 x.ae.length d6] 37)).alloc (.cells #[.int .i64 e.kind, .int .i64 e.aa, .int .i64 e.seq, .int .i64 e.id, .slice aq e.query.length dq, .int .i64 e.k, .int .i64 e.start, .int .i64 e.fin, .int .i64 e.place, .slice av e.vec.length dv, .slice ah e.aO.length dh] 85)) (w.heap.size + 1)) := aW (Nat.zero_le _) (by simp)
 have HB := yh nb
 have HP : Hid (dT x e = (e.kind != 1 || (e.fin == 0 || e.place == bQ x e.aa e.seq))) := rfl
 have HL : Hid (∀ V, Below ((w.alloc (.cells #[.int .i64 x.now, .int .i64 x.events, .int .i64 x.chain.ab, .slice a3 x.chain.ids.length d3, .slice a4 x.nodes.length d4, .slice a5 x.msgs.length d5, .slice a6 x.ae.length d6] 37)).alloc (.cells #[.int .i64 e.kind, .int .i64 e.aa, .int .i64 e.seq, .int .i64 e.id, .slice aq e.query.length dq, .int .i64 e.k, .int .i64 e.start, .int .i64 e.fin, .int .i64 e.place, .slice av e.vec.length dv, .slice ah e.aO.length dh] 85)).heap.size ((w.alloc (.cells #[.int .i64 x.now, .int .i64 x.events, .int .i64 x.chain.ab, .slice a3 x.chain.ids.length d3, .slice a4 x.nodes.length d4, .slice a5 x.msgs.length d5, .slice a6 x.ae.length d6] 37)).alloc (.cells #[.int .i64 e.kind, .int .i64 e.aa, .int .i64 e.seq, .int .i64 e.id, .slice aq e.query.length dq, .int .i64 e.k, .int .i64 e.start, .int .i64 e.fin, .int .i64 e.place, .slice av e.vec.length dv, .slice ah e.aO.length dh] 85)) V → Calls Tryz.prog 94 #[.agg #[.int .i64 e.kind, .int .i64 e.aa, .int .i64 e.seq, .int .i64 e.id, .slice aq e.query.length dq, .int .i64 e.k, .int .i64 e.start, .int .i64 e.fin, .int .i64 e.place, .slice av e.vec.length dv, .slice ah e.aO.length dh]] V fun r w' => r = .returned (.bool (e.fin != 0)) ∧ Below V.heap.size V w') := fun V hV => kB _ e V ((he.af nb).af hV)
 have HQ : Hid (∀ V, Below ((w.alloc (.cells #[.int .i64 x.now, .int .i64 x.events, .int .i64 x.chain.ab, .slice a3 x.chain.ids.length d3, .slice a4 x.nodes.length d4, .slice a5 x.msgs.length d5, .slice a6 x.ae.length d6] 37)).alloc (.cells #[.int .i64 e.kind, .int .i64 e.aa, .int .i64 e.seq, .int .i64 e.id, .slice aq e.query.length dq, .int .i64 e.k, .int .i64 e.start, .int .i64 e.fin, .int .i64 e.place, .slice av e.vec.length dv, .slice ah e.aO.length dh] 85)).heap.size ((w.alloc (.cells #[.int .i64 x.now, .int .i64 x.events, .int .i64 x.chain.ab, .slice a3 x.chain.ids.length d3, .slice a4 x.nodes.length d4, .slice a5 x.msgs.length d5, .slice a6 x.ae.length d6] 37)).alloc (.cells #[.int .i64 e.kind, .int .i64 e.aa, .int .i64 e.seq, .int .i64 e.id, .slice aq e.query.length dq, .int .i64 e.k, .int .i64 e.start, .int .i64 e.fin, .int .i64 e.place, .slice av e.vec.length dv, .slice ah e.aO.length dh] 85)) V → Calls Tryz.prog 96 #[.agg #[.int .i64 x.now, .int .i64 x.events, .int .i64 x.chain.ab, .slice a3 x.chain.ids.length d3, .slice a4 x.nodes.length d4, .slice a5 x.msgs.length d5, .slice a6 x.ae.length d6], .int .i64 e.aa, .int .i64 e.seq] V fun r w' => r = .returned (.int .i64 (bQ x e.aa e.seq)) ∧ Below V.heap.size V w') := fun V hV => fX _ x k e.aa e.seq V ((h.af nb).af hV) hok hk ht
 clear nb h he hok ht hk
 generalize bQ x e.aa e.seq = pl at *
 generalize dT x e = R at *
 go_enter Tryz.func157, Tryz.ntmps157
 go_upto_region 1 with fail
 generalize ((w.alloc (.cells #[.int .i64 x.now, .int .i64 x.events, .int .i64 x.chain.ab, .slice a3 x.chain.ids.length d3, .slice a4 x.nodes.length d4, .slice a5 x.msgs.length d5, .slice a6 x.ae.length d6] 37)).alloc (.cells #[.int .i64 e.kind, .int .i64 e.aa, .int .i64 e.seq, .int .i64 e.id, .slice aq e.query.length dq, .int .i64 e.k, .int .i64 e.start, .int .i64 e.fin, .int .i64 e.place, .slice av e.vec.length dv, .slice ah e.aO.length dh] 85)) = W1 at *
 cases h1 : (e.kind != 1)
 ·
  rw [h1, Bool.false_or] at HP
  cases h2 : (e.fin != 0)
  ·
   have h3 : (e.fin == 0) = true := by simpa using h2
   simp only [h2] at HL
   rw [h3, Bool.true_or] at HP
   clear h2 h3 HQ
   refine wZz (fun w' => Below W1.heap.size W1 w') ((Below.refl _ _).drew) (fun zq => ?_)
   generalize W1.drew = wD at zq ⊢
   refine tkH 0 zq ?_
   refine tkJ 1 (v := ?vk11) ?hk11 zq ?rk11
   case hk11 =>
    intro wS hSw
    have bS := (uh HE).ar hSw
    have q0 := aj.at bS 0 _ rfl
    simp only [List.getElem_toArray, List.getElem_cons_zero] at q0
    clear bS hSw
    exact fZ
   refine tkH 2 zq ?_
   refine tkH 3 zq ?_
   refine tkJ 4 (v := ?vk14) ?hk14 zq ?rk14
   case hk14 =>
    intro wS hSw
    have bS := (uh HE).ar hSw
    have q0 := aj.at bS 0 _ rfl
    have q1 := aj.at bS 1 _ rfl
    have q2 := aj.at bS 2 _ rfl
    have q3 := aj.at bS 3 _ rfl
    have q4 := aj.at bS 4 _ rfl
    have q5 := aj.at bS 5 _ rfl
    have q6 := aj.at bS 6 _ rfl
    have q7 := aj.at bS 7 _ rfl
    have q8 := aj.at bS 8 _ rfl
    have q9 := aj.at bS 9 _ rfl
    have q10 := aj.at bS 10 _ rfl
    simp only [ga, gb, gc] at q0 q1 q2 q3 q4 q5 q6 q7 q8 q9 q10
    clear bS hSw
    exact fZ
   refine rdH 5 (fun K hK => ?_)
   go_simp
   go_at_call 94
   refine (uh HL _ zq).mono ?_
   rintro r u ⟨rfl, hbu⟩
   try go_wp2_with fail
   refine hK.out _ _ (zq.trans (hbu.mono zq.size)) (fun zq => ?_)
   clear hK K
   try simp only [Act.put, pz, py, px]
   refine tkH 6 zq ?_
   refine tkH 7 zq ?_
   refine tkH 8 zq ?_
   refine skH 9 zq ?_
   refine skH 10 zq ?_
   refine skH 11 zq ?_
   refine skH 12 zq ?_
   refine skH 13 zq ?_
   refine skH 14 zq ?_
   refine skH 15 zq ?_
   refine skH 16 zq ?_
   refine skH 17 zq ?_
   refine tkH 18 zq ?_
   refine tkH 19 zq ?_
   refine dZ ?_
   go_wp2_with fail
   go_ret
   exact ⟨by rw [uh HP]; try rfl, (uh HB).trans (zq.mono (uh HB).size)⟩
  ·
   have h3 : (e.fin == 0) = false := by simpa using h2
   simp only [h2] at HL
   rw [h3, Bool.false_or] at HP
   clear h2 h3
   refine wZz (fun w' => Below W1.heap.size W1 w') ((Below.refl _ _).drew) (fun zq => ?_)
   generalize W1.drew = wD at zq ⊢
   refine tkH 0 zq ?_
   refine tkJ 1 (v := ?vk21) ?hk21 zq ?rk21
   case hk21 =>
    intro wS hSw
    have bS := (uh HE).ar hSw
    have q0 := aj.at bS 0 _ rfl
    simp only [List.getElem_toArray, List.getElem_cons_zero] at q0
    clear bS hSw
    exact fZ
   refine tkH 2 zq ?_
   refine tkH 3 zq ?_
   refine tkJ 4 (v := ?vk24) ?hk24 zq ?rk24
   case hk24 =>
    intro wS hSw
    have bS := (uh HE).ar hSw
    have q0 := aj.at bS 0 _ rfl
    have q1 := aj.at bS 1 _ rfl
    have q2 := aj.at bS 2 _ rfl
    have q3 := aj.at bS 3 _ rfl
    have q4 := aj.at bS 4 _ rfl
    have q5 := aj.at bS 5 _ rfl
    have q6 := aj.at bS 6 _ rfl
    have q7 := aj.at bS 7 _ rfl
    have q8 := aj.at bS 8 _ rfl
    have q9 := aj.at bS 9 _ rfl
    have q10 := aj.at bS 10 _ rfl
    simp only [ga, gb, gc] at q0 q1 q2 q3 q4 q5 q6 q7 q8 q9 q10
    clear bS hSw
    exact fZ
   refine rdH 5 (fun K hK => ?_)
   go_simp
   go_at_call 94
   refine (uh HL _ zq).mono ?_
   rintro r u ⟨rfl, hbu⟩
   try go_wp2_with fail
   refine hK.out _ _ (zq.trans (hbu.mono zq.size)) (fun zq => ?_)
   clear hK K
   try simp only [Act.put, pz, py, px]
   refine tkH 6 zq ?_
   refine tkH 7 zq ?_
   refine tkH 8 zq ?_
   refine tkH 9 zq ?_
   refine tkJ 10 (v := ?vk210) ?hk210 zq ?rk210
   case hk210 =>
    intro wS hSw
    have bS := (uh HE).ar hSw
    have q8 := aj.at bS 8 _ rfl
    simp only [ga, gb, gc] at q8
    clear bS hSw
    exact fZ
   refine tkJ 11 (v := ?vk211) ?hk211 zq ?rk211
   case hk211 =>
    intro wS hSw
    have bS := (uh HX).ar hSw
    have q0 := aj.at bS 0 _ rfl
    have q1 := aj.at bS 1 _ rfl
    have q2 := aj.at bS 2 _ rfl
    have q3 := aj.at bS 3 _ rfl
    have q4 := aj.at bS 4 _ rfl
    have q5 := aj.at bS 5 _ rfl
    have q6 := aj.at bS 6 _ rfl
    simp only [ga, gb, gc] at q0 q1 q2 q3 q4 q5 q6
    clear bS hSw
    exact fZ
   refine tkH 12 zq ?_
   refine tkJ 13 (v := ?vk213) ?hk213 zq ?rk213
   case hk213 =>
    intro wS hSw
    have bS := (uh HE).ar hSw
    have q1 := aj.at bS 1 _ rfl
    simp only [ga, gb, gc] at q1
    clear bS hSw
    exact fZ
   refine tkH 14 zq ?_
   refine tkJ 15 (v := ?vk215) ?hk215 zq ?rk215
   case hk215 =>
    intro wS hSw
    have bS := (uh HE).ar hSw
    have q2 := aj.at bS 2 _ rfl
    simp only [ga, gb, gc] at q2
    clear bS hSw
    exact fZ
   refine rdH 16 (fun K hK => ?_)
   go_simp
   go_at_call 96
   refine (uh HQ _ zq).mono ?_
   rintro r u2 ⟨rfl, hbu2⟩
   try go_wp2_with fail
   refine hK.out _ _ (zq.trans (hbu2.mono zq.size)) (fun zq => ?_)
   clear hK K
   try simp only [Act.put, pz, py, px]
   refine tkH 17 zq ?_
   refine tkH 18 zq ?_
   refine tkH 19 zq ?_
   refine dZ ?_
   go_wp2_with fail
   go_ret
   exact ⟨by rw [uh HP]; try rfl, (uh HB).trans (zq.mono (uh HB).size)⟩
 ·
  rw [h1, Bool.true_or] at HP
  clear HL HQ
  refine wZz (fun w' => Below W1.heap.size W1 w') ((Below.refl _ _).drew) (fun zq => ?_)
  generalize W1.drew = wD at zq ⊢
  refine tkH 0 zq ?_
  refine tkJ 1 (v := ?vk01) ?hk01 zq ?rk01
  case hk01 =>
   intro wS hSw
   have bS := (uh HE).ar hSw
   have q0 := aj.at bS 0 _ rfl
   simp only [List.getElem_toArray, List.getElem_cons_zero] at q0
   clear bS hSw
   exact fZ
  refine tkH 2 zq ?_
  refine tkH 3 zq ?_
  refine skH 4 zq ?_
  refine skH 5 zq ?_
  refine skH 6 zq ?_
  refine tkH 7 zq ?_
  refine tkH 8 zq ?_
  refine skH 9 zq ?_
  refine skH 10 zq ?_
  refine skH 11 zq ?_
  refine skH 12 zq ?_
  refine skH 13 zq ?_
  refine skH 14 zq ?_
  refine skH 15 zq ?_
  refine skH 16 zq ?_
  refine skH 17 zq ?_
  refine tkH 18 zq ?_
  refine tkH 19 zq ?_
  refine dZ ?_
  go_wp2_with fail
  go_ret
  exact ⟨by rw [uh HP]; try rfl, (uh HB).trans (zq.mono (uh HB).size)⟩
theorem jf (cs : List Value) (x : aL) (k : Nat) (w : World) (h : ad.aS.Reads w cs x) (hok : cN x) (hk : k < x.nodes.length) (ht : b8 x = (k : Int) + 1) (hfew : x.ae.length ≤ 1000) :
  Calls Tryz.prog 91 #[.agg cs.toArray] w fun r w' => r = .returned (.bool (bB x x.ae)) ∧ Below w.heap.size w w' := by
 obtain ⟨a3, d3, a4, d4, a5, d5, a6, d6, rfl, -, -, -, RE0⟩ := aw h
 have nb : Below w.heap.size w (w.alloc (.cells #[.int .i64 x.now, .int .i64 x.events, .int .i64 x.chain.ab, .slice a3 x.chain.ids.length d3, .slice a4 x.nodes.length d4, .slice a5 x.msgs.length d5, .slice a6 x.ae.length d6] 37)) := (Below.refl _ _).alloc (Nat.le_refl _) _
 have HX : Hid (aj 0 #[.int .i64 x.now, .int .i64 x.events, .int .i64 x.chain.ab, .slice a3 x.chain.ids.length d3, .slice a4 x.nodes.length d4, .slice a5 x.msgs.length d5, .slice a6 x.ae.length d6] 37 (w.alloc (.cells #[.int .i64 x.now, .int .i64 x.events, .int .i64 x.chain.ab, .slice a3 x.chain.ids.length d3, .slice a4 x.nodes.length d4, .slice a5 x.msgs.length d5, .slice a6 x.ae.length d6] 37)) w.heap.size) := aI (Nat.zero_le _)
 have HB := yh nb
 have H := yh (RE0.af nb)
 have HK : Hid (∀ (ds : List Value) (e : bw) V, Below (w.alloc (.cells #[.int .i64 x.now, .int .i64 x.events, .int .i64 x.chain.ab, .slice a3 x.chain.ids.length d3, .slice a4 x.nodes.length d4, .slice a5 x.msgs.length d5, .slice a6 x.ae.length d6] 37)).heap.size (w.alloc (.cells #[.int .i64 x.now, .int .i64 x.events, .int .i64 x.chain.ab, .slice a3 x.chain.ids.length d3, .slice a4 x.nodes.length d4, .slice a5 x.msgs.length d5, .slice a6 x.ae.length d6] 37)) V → ad.aH.Reads V ds e → Calls Tryz.prog 157 #[.agg #[.int .i64 x.now, .int .i64 x.events, .int .i64 x.chain.ab, .slice a3 x.chain.ids.length d3, .slice a4 x.nodes.length d4, .slice a5 x.msgs.length d5, .slice a6 x.ae.length d6], .agg ds.toArray] V fun r w' => r = .returned (.bool (dT x e)) ∧ Below V.heap.size V w') := fun ds e V hV he => la _ ds x e k V ((h.af nb).af hV) he hok hk ht
 have HF : Hid (bB x x.ae = bB x (x.ae.drop 0)) := rfl
 clear nb h RE0 hok ht hk
 generalize bB x x.ae = R at *
 go_enter Tryz.func91, Tryz.ntmps91
 go_upto_region 1 with fail
 generalize (w.alloc (.cells #[.int .i64 x.now, .int .i64 x.events, .int .i64 x.chain.ab, .slice a3 x.chain.ids.length d3, .slice a4 x.nodes.length d4, .slice a5 x.msgs.length d5, .slice a6 x.ae.length d6] 37)) = W0 at *
 have z6 := aj.at (uh HX) 6 _ rfl
 simp only [ga, gb, gc] at z6
 have zl := (uh HX).lt
 generalize hxs : x.ae = xs at *
 go_wp2_with fail
 clear z6 zl
 go_loopw [8] (fun i wr => ∃ j : Nat, j ≤ xs.length ∧ i = .int .i64 j ∧ R = bB x (xs.drop j) ∧ Below W0.heap.size W0 wr) (fun i _ => xs.length - (intOf i).toNat)
 case atStart => exact ⟨0, Nat.zero_le _, rfl, uh HF, Below.refl _ _⟩
 case round =>
  obtain ⟨j, hj, rfl, hF, hE⟩ := hrel
  clear HF
  by_cases hlt : j < xs.length
  ·
   obtain ⟨b, off, rfl, hbl⟩ := ad.aF (uh H) (by omega)
   obtain ⟨row, hcl, hr⟩ := ad.aX (uh H) hlt
   replace hr := hr.af hE
   rw [dX hlt] at hF
   have hdl : decide ((j : Int) < (xs.length : Int)) = true := by simp; omega
   obtain ⟨aq, dq, av, dv, ah, dh, rfl, -⟩ := aZ hr
   have c0 : wr.cell? ⟨b, off + j * 11, none⟩ = some (.int .i64 (xs[j]).kind) := (hE.cell (p := ⟨b, off + j * 11, none⟩) hbl).trans (hcl 0 (by decide))
   have c1 : wr.cell? ⟨b, off + j * 11 + 1, none⟩ = some (.int .i64 (xs[j]).aa) := (hE.cell (p := ⟨b, off + j * 11 + 1, none⟩) hbl).trans (hcl 1 (by decide))
   have c2 : wr.cell? ⟨b, off + j * 11 + 2, none⟩ = some (.int .i64 (xs[j]).seq) := (hE.cell (p := ⟨b, off + j * 11 + 2, none⟩) hbl).trans (hcl 2 (by decide))
   have c3 : wr.cell? ⟨b, off + j * 11 + 3, none⟩ = some (.int .i64 (xs[j]).id) := (hE.cell (p := ⟨b, off + j * 11 + 3, none⟩) hbl).trans (hcl 3 (by decide))
   have c4 : wr.cell? ⟨b, off + j * 11 + 4, none⟩ = some (.slice aq (xs[j]).query.length dq) := (hE.cell (p := ⟨b, off + j * 11 + 4, none⟩) hbl).trans (hcl 4 (by decide))
   have c5 : wr.cell? ⟨b, off + j * 11 + 5, none⟩ = some (.int .i64 (xs[j]).k) := (hE.cell (p := ⟨b, off + j * 11 + 5, none⟩) hbl).trans (hcl 5 (by decide))
   have c6 : wr.cell? ⟨b, off + j * 11 + 6, none⟩ = some (.int .i64 (xs[j]).start) := (hE.cell (p := ⟨b, off + j * 11 + 6, none⟩) hbl).trans (hcl 6 (by decide))
   have c7 : wr.cell? ⟨b, off + j * 11 + 7, none⟩ = some (.int .i64 (xs[j]).fin) := (hE.cell (p := ⟨b, off + j * 11 + 7, none⟩) hbl).trans (hcl 7 (by decide))
   have c8 : wr.cell? ⟨b, off + j * 11 + 8, none⟩ = some (.int .i64 (xs[j]).place) := (hE.cell (p := ⟨b, off + j * 11 + 8, none⟩) hbl).trans (hcl 8 (by decide))
   have c9 : wr.cell? ⟨b, off + j * 11 + 9, none⟩ = some (.slice av (xs[j]).vec.length dv) := (hE.cell (p := ⟨b, off + j * 11 + 9, none⟩) hbl).trans (hcl 9 (by decide))
   have c10 : wr.cell? ⟨b, off + j * 11 + 10, none⟩ = some (.slice ah (xs[j]).aO.length dh) := (hE.cell (p := ⟨b, off + j * 11 + 10, none⟩) hbl).trans (hcl 10 (by decide))
   have HF := yh hF
   have HR := yh hr
   have HX1 := yh ((uh HX).ar hE)
   have HE := yh hE
   clear hF hr hE hcl
   generalize hx : xs[j] = e at *
   clear hx
   have nb : Below wr.heap.size wr (wr.alloc (.cells #[.int .i64 e.kind, .int .i64 e.aa, .int .i64 e.seq, .int .i64 e.id, .slice aq e.query.length dq, .int .i64 e.k, .int .i64 e.start, .int .i64 e.fin, .int .i64 e.place, .slice av e.vec.length dv, .slice ah e.aO.length dh] 85)) := (Below.refl _ _).alloc (Nat.le_refl _) _
   have HEB : Hid (aj 0 #[.int .i64 e.kind, .int .i64 e.aa, .int .i64 e.seq, .int .i64 e.id, .slice aq e.query.length dq, .int .i64 e.k, .int .i64 e.start, .int .i64 e.fin, .int .i64 e.place, .slice av e.vec.length dv, .slice ah e.aO.length dh] 85 (wr.alloc (.cells #[.int .i64 e.kind, .int .i64 e.aa, .int .i64 e.seq, .int .i64 e.id, .slice aq e.query.length dq, .int .i64 e.k, .int .i64 e.start, .int .i64 e.fin, .int .i64 e.place, .slice av e.vec.length dv, .slice ah e.aO.length dh] 85)) wr.heap.size) := aI (Nat.zero_le _)
   replace HX1 := yh ((uh HX1).ar nb)
   replace HE := yh ((uh HE).trans (nb.mono (uh HE).size))
   have HL := yh (uh HK _ e _ (uh HE) ((uh HR).af nb))
   clear nb HR
   go_upto_region 4 with fail
   generalize (wr.alloc (.cells #[.int .i64 e.kind, .int .i64 e.aa, .int .i64 e.seq, .int .i64 e.id, .slice aq e.query.length dq, .int .i64 e.k, .int .i64 e.start, .int .i64 e.fin, .int .i64 e.place, .slice av e.vec.length dv, .slice ah e.aO.length dh] 85)) = W1 at *
   clear c0 c1 c2 c3 c4 c5 c6 c7 c8 c9 c10
   have z0 := aj.at (uh HX1) 0 _ rfl
   have z1 := aj.at (uh HX1) 1 _ rfl
   have z2 := aj.at (uh HX1) 2 _ rfl
   have z3 := aj.at (uh HX1) 3 _ rfl
   have z4 := aj.at (uh HX1) 4 _ rfl
   have z5 := aj.at (uh HX1) 5 _ rfl
   have z6 := aj.at (uh HX1) 6 _ rfl
   simp only [ga, gb, gc] at z0 z1 z2 z3 z4 z5 z6
   have zl := (uh HX1).lt
   have y0 := aj.at (uh HEB) 0 _ rfl
   have y1 := aj.at (uh HEB) 1 _ rfl
   have y2 := aj.at (uh HEB) 2 _ rfl
   have y3 := aj.at (uh HEB) 3 _ rfl
   have y4 := aj.at (uh HEB) 4 _ rfl
   have y5 := aj.at (uh HEB) 5 _ rfl
   have y6 := aj.at (uh HEB) 6 _ rfl
   have y7 := aj.at (uh HEB) 7 _ rfl
   have y8 := aj.at (uh HEB) 8 _ rfl
   have y9 := aj.at (uh HEB) 9 _ rfl
   have y10 := aj.at (uh HEB) 10 _ rfl
   simp only [ga, gb, gc] at y0 y1 y2 y3 y4 y5 y6 y7 y8 y9 y10
   have yl := (uh HEB).lt
   clear HX1 HEB
   go_wp2_with fail
   refine (uh HL).mono ?_
   rintro r W2 ⟨rfl, hb⟩
   replace HE := yh ((uh HE).trans (hb.mono (uh HE).size))
   clear hb HL z0 z1 z2 z3 z4 z5 z6 zl y0 y1 y2 y3 y4 y5 y6 y7 y8 y9 y10 yl
   cases hf : dT x e
   ·
    rw [hf, Bool.false_and] at HF
    clear hf
    go_wp2_with fail
    go_ret
    exact ⟨by rw [uh HF]; try rfl, (uh HB).trans ((uh HE).mono (uh HB).size)⟩
   ·
    rw [hf, Bool.true_and] at HF
    clear hf
    go_wp2_with fail
    go_roundw
    case rel => exact ⟨j + 1, by omega, by go_num, uh HF, uh HE⟩
    case measure => simp [intOf]; omega
  obtain rfl : j = xs.length := by omega
  rw [List.drop_length] at hF
  have hdl : decide ((xs.length : Int) < (xs.length : Int)) = false := by simp
  have HF := yh hF
  have HE := yh hE
  clear hF hE
  go_wp2_with fail
  go_ret
  exact ⟨by rw [uh HF]; rfl, (uh HB).trans ((uh HE).mono (uh HB).size)⟩
theorem fv (cs : List Value) (x : aL) (w : World) (h : ad.aS.Reads w cs x) :
  Calls Tryz.prog 35 #[.agg cs.toArray] w fun r w' => r = .returned (.bool (cc x)) ∧ Below w.heap.size w w' := by
 obtain ⟨a3, d3, a4, d4, a5, d5, a6, d6, rfl, -, -, -, -⟩ := aw h
 have nb : Below w.heap.size w (w.alloc (.cells #[.int .i64 x.now, .int .i64 x.events, .int .i64 x.chain.ab, .slice a3 x.chain.ids.length d3, .slice a4 x.nodes.length d4, .slice a5 x.msgs.length d5, .slice a6 x.ae.length d6] 37)) := (Below.refl _ _).alloc (Nat.le_refl _) _
 have HX : Hid (aj 0 #[.int .i64 x.now, .int .i64 x.events, .int .i64 x.chain.ab, .slice a3 x.chain.ids.length d3, .slice a4 x.nodes.length d4, .slice a5 x.msgs.length d5, .slice a6 x.ae.length d6] 37 (w.alloc (.cells #[.int .i64 x.now, .int .i64 x.events, .int .i64 x.chain.ab, .slice a3 x.chain.ids.length d3, .slice a4 x.nodes.length d4, .slice a5 x.msgs.length d5, .slice a6 x.ae.length d6] 37)) w.heap.size) := aI (Nat.zero_le _)
 have HB := yh nb
 have HR := yh (h.af nb)
 have HP : Hid (cc x = (aT x == 0 && bB x x.ae)) := rfl
 clear nb h
 generalize cc x = R at *
 go_enter Tryz.func35, Tryz.ntmps35
 go_upto_region 1 with fail
 generalize (w.alloc (.cells #[.int .i64 x.now, .int .i64 x.events, .int .i64 x.chain.ab, .slice a3 x.chain.ids.length d3, .slice a4 x.nodes.length d4, .slice a5 x.msgs.length d5, .slice a6 x.ae.length d6] 37)) = W0 at *
 have z0 := aj.at (uh HX) 0 _ rfl
 have z1 := aj.at (uh HX) 1 _ rfl
 have z2 := aj.at (uh HX) 2 _ rfl
 have z3 := aj.at (uh HX) 3 _ rfl
 have z4 := aj.at (uh HX) 4 _ rfl
 have z5 := aj.at (uh HX) 5 _ rfl
 have z6 := aj.at (uh HX) 6 _ rfl
 simp only [ga, gb, gc] at z0 z1 z2 z3 z4 z5 z6
 have zl := (uh HX).lt
 go_wp2_with fail
 refine (eX _ x W0 (uh HR)).mono ?_
 rintro r wa ⟨rfl, hb⟩
 clear z0 z1 z2 z3 z4 z5 z6 zl
 replace HX := yh ((uh HX).ar hb)
 replace HR := yh ((uh HR).af hb)
 replace HB := bZ HB hb
 clear hb
 by_cases d1 : aT x = 0
 ·
  have hok := db d1
  obtain ⟨k, hk, ht⟩ := tail_at hok
  have HL := yh (jf _ x k wa (uh HR) hok.mid hk ht (by have := hok.few; omega))
  rw [d1] at HP ⊢
  have e0 : ((0 : Int) == 0) = true := rfl
  rw [e0, Bool.true_and] at HP
  clear hok ht hk d1 e0 HR
  generalize bB x x.ae = K at *
  have z0 := aj.at (uh HX) 0 _ rfl
  have z1 := aj.at (uh HX) 1 _ rfl
  have z2 := aj.at (uh HX) 2 _ rfl
  have z3 := aj.at (uh HX) 3 _ rfl
  have z4 := aj.at (uh HX) 4 _ rfl
  have z5 := aj.at (uh HX) 5 _ rfl
  have z6 := aj.at (uh HX) 6 _ rfl
  simp only [ga, gb, gc] at z0 z1 z2 z3 z4 z5 z6
  have zl := (uh HX).lt
  go_wp2_with fail
  refine (uh HL).mono ?_
  rintro r wb ⟨rfl, hb⟩
  replace HB := bZ HB hb
  clear hb HL z0 z1 z2 z3 z4 z5 z6 zl HX
  go_wp2_with fail
  go_ret
  exact ⟨by rw [uh HP]; try rfl, uh HB⟩
 ·
  have hd : (aT x == 0) = false := by simpa using d1
  rw [hd, Bool.false_and] at HP
  clear d1
  go_wp2_with fail
  go_ret
  exact ⟨by rw [uh HP]; try rfl, uh HB⟩
theorem gq (cs : List Value) (x : aL) (w : World) (h : ad.aS.Reads w cs x) :
  Calls Tryz.prog 8 #[.agg cs.toArray] w fun e w' => e = .returned (.bool true) ∧ Below w.heap.size w w' := by
 by_cases hn : ad.aS.sz x ≤ 1048576
 ·
  exact fs cs x (cc x) w h hn (fun W a ha => fu a x W ha) (fun W a ha => fv a x W ha)
 exact dY cs x w h (by omega)
theorem gN : cY ad.aY 24 := by
 intro H enc W base spare held fuel cs x h
 obtain ⟨xs, n, _, _, hlen, hl, hfi⟩ := DataW.trod_struct Tryz.underlying24 h
 rw [show Tryz.prog.cellsOf 24 = 2 by kernel_rfl] at hlen
 match cs, hlen with
 | [c0, c1], _ =>
 match xs, hl with
 | [y0, y1], _ =>
 have z0 : Tryz.prog.cellsOf 2 = 1 := by kernel_rfl
 have z1 : Tryz.prog.cellsOf 22 = 1 := by kernel_rfl
 have f0 : DataW.trod enc Tryz.prog W base spare held n 2 (([c0, c1].drop 0).take (Tryz.prog.cellsOf 2)) = some y0 := hfi 0 _ rfl
 rw [z0] at f0
 obtain ⟨d0, r0⟩ := (aG Tryz.underlying2) enc W base spare held n _ _ f0
 have f1 : DataW.trod enc Tryz.prog W base spare held n 22 (([c0, c1].drop 1).take (Tryz.prog.cellsOf 22)) = some y1 := hfi 1 _ rfl
 rw [z1] at f1
 obtain ⟨d1, r1⟩ := (cg Tryz.underlying22 (by kernel_rfl) (by decide) (aG Tryz.underlying2)) enc W base spare held n _ _ f1
 exact ⟨⟨d0, d1⟩, (ay r0 r1)⟩
theorem eC : cY ad.ag 132 := by
 intro H enc W base spare held fuel cs x h
 obtain ⟨xs, n, _, _, hlen, hl, hfi⟩ := DataW.trod_struct Tryz.underlying132 h
 rw [show Tryz.prog.cellsOf 132 = 5 by kernel_rfl] at hlen
 match cs, hlen with
 | [c0, c1, c2, c3, c4], _ =>
 match xs, hl with
 | [y0, y1, y2, y3, y4], _ =>
 have z0 : Tryz.prog.cellsOf 2 = 1 := by kernel_rfl
 have z1 : Tryz.prog.cellsOf 22 = 1 := by kernel_rfl
 have f0 : DataW.trod enc Tryz.prog W base spare held n 2 (([c0, c1, c2, c3, c4].drop 0).take (Tryz.prog.cellsOf 2)) = some y0 := hfi 0 _ rfl
 rw [z0] at f0
 obtain ⟨d0, r0⟩ := (aG Tryz.underlying2) enc W base spare held n _ _ f0
 have f1 : DataW.trod enc Tryz.prog W base spare held n 2 (([c0, c1, c2, c3, c4].drop 1).take (Tryz.prog.cellsOf 2)) = some y1 := hfi 1 _ rfl
 rw [z0] at f1
 obtain ⟨d1, r1⟩ := (aG Tryz.underlying2) enc W base spare held n _ _ f1
 have f2 : DataW.trod enc Tryz.prog W base spare held n 22 (([c0, c1, c2, c3, c4].drop 2).take (Tryz.prog.cellsOf 22)) = some y2 := hfi 2 _ rfl
 rw [z1] at f2
 obtain ⟨d2, r2⟩ := (cg Tryz.underlying22 (by kernel_rfl) (by decide) (aG Tryz.underlying2)) enc W base spare held n _ _ f2
 have f3 : DataW.trod enc Tryz.prog W base spare held n 2 (([c0, c1, c2, c3, c4].drop 3).take (Tryz.prog.cellsOf 2)) = some y3 := hfi 3 _ rfl
 rw [z0] at f3
 obtain ⟨d3, r3⟩ := (aG Tryz.underlying2) enc W base spare held n _ _ f3
 have f4 : DataW.trod enc Tryz.prog W base spare held n 2 (([c0, c1, c2, c3, c4].drop 4).take (Tryz.prog.cellsOf 2)) = some y4 := hfi 4 _ rfl
 rw [z0] at f4
 obtain ⟨d4, r4⟩ := (aG Tryz.underlying2) enc W base spare held n _ _ f4
 exact ⟨⟨d0, d1, d2, d3, d4⟩, (ay r0 (ay r1 (ay r2 (ay r3 r4))))⟩
theorem iN : cY ad.aP 129 := by
 intro H enc W base spare held fuel cs x h
 obtain ⟨xs, n, _, _, hlen, hl, hfi⟩ := DataW.trod_struct Tryz.underlying129 h
 rw [show Tryz.prog.cellsOf 129 = 7 by kernel_rfl] at hlen
 match cs, hlen with
 | [c0, c1, c2, c3, c4, c5, c6], _ =>
 match xs, hl with
 | [y0, y1, y2, y3, y4, y5, y6], _ =>
 have z0 : Tryz.prog.cellsOf 2 = 1 := by kernel_rfl
 have z1 : Tryz.prog.cellsOf 4 = 1 := by kernel_rfl
 have z2 : Tryz.prog.cellsOf 127 = 1 := by kernel_rfl
 have f0 : DataW.trod enc Tryz.prog W base spare held n 2 (([c0, c1, c2, c3, c4, c5, c6].drop 0).take (Tryz.prog.cellsOf 2)) = some y0 := hfi 0 _ rfl
 rw [z0] at f0
 obtain ⟨d0, r0⟩ := (aG Tryz.underlying2) enc W base spare held n _ _ f0
 have f1 : DataW.trod enc Tryz.prog W base spare held n 4 (([c0, c1, c2, c3, c4, c5, c6].drop 1).take (Tryz.prog.cellsOf 4)) = some y1 := hfi 1 _ rfl
 rw [z1] at f1
 obtain ⟨d1, r1⟩ := (iA Tryz.underlying4) enc W base spare held n _ _ f1
 have f2 : DataW.trod enc Tryz.prog W base spare held n 2 (([c0, c1, c2, c3, c4, c5, c6].drop 2).take (Tryz.prog.cellsOf 2)) = some y2 := hfi 2 _ rfl
 rw [z0] at f2
 obtain ⟨d2, r2⟩ := (aG Tryz.underlying2) enc W base spare held n _ _ f2
 have f3 : DataW.trod enc Tryz.prog W base spare held n 2 (([c0, c1, c2, c3, c4, c5, c6].drop 3).take (Tryz.prog.cellsOf 2)) = some y3 := hfi 3 _ rfl
 rw [z0] at f3
 obtain ⟨d3, r3⟩ := (aG Tryz.underlying2) enc W base spare held n _ _ f3
 have f4 : DataW.trod enc Tryz.prog W base spare held n 127 (([c0, c1, c2, c3, c4, c5, c6].drop 4).take (Tryz.prog.cellsOf 127)) = some y4 := hfi 4 _ rfl
 rw [z2] at f4
 obtain ⟨d4, r4⟩ := (cg Tryz.underlying127 (by kernel_rfl) (by decide) eC) enc W base spare held n _ _ f4
 have f5 : DataW.trod enc Tryz.prog W base spare held n 2 (([c0, c1, c2, c3, c4, c5, c6].drop 5).take (Tryz.prog.cellsOf 2)) = some y5 := hfi 5 _ rfl
 rw [z0] at f5
 obtain ⟨d5, r5⟩ := (aG Tryz.underlying2) enc W base spare held n _ _ f5
 have f6 : DataW.trod enc Tryz.prog W base spare held n 2 (([c0, c1, c2, c3, c4, c5, c6].drop 6).take (Tryz.prog.cellsOf 2)) = some y6 := hfi 6 _ rfl
 rw [z0] at f6
 obtain ⟨d6, r6⟩ := (aG Tryz.underlying2) enc W base spare held n _ _ f6
 exact ⟨⟨d0, d1, d2, d3, d4, d5, d6⟩, (ay r0 (ay r1 (ay r2 (ay r3 (ay r4 (ay r5 r6))))))⟩
theorem ja : cY ad.bg 134 := by
 intro H enc W base spare held fuel cs x h
 obtain ⟨xs, n, _, _, hlen, hl, hfi⟩ := DataW.trod_struct Tryz.underlying134 h
 rw [show Tryz.prog.cellsOf 134 = 10 by kernel_rfl] at hlen
 match cs, hlen with
 | [c0, c1, c2, c3, c4, c5, c6, c7, c8, c9], _ =>
 match xs, hl with
 | [y0, y1, y2, y3, y4, y5], _ =>
 have z0 : Tryz.prog.cellsOf 2 = 1 := by kernel_rfl
 have z1 : Tryz.prog.cellsOf 132 = 5 := by kernel_rfl
 have f0 : DataW.trod enc Tryz.prog W base spare held n 2 (([c0, c1, c2, c3, c4, c5, c6, c7, c8, c9].drop 0).take (Tryz.prog.cellsOf 2)) = some y0 := hfi 0 _ rfl
 rw [z0] at f0
 obtain ⟨d0, r0⟩ := (aG Tryz.underlying2) enc W base spare held n _ _ f0
 have f1 : DataW.trod enc Tryz.prog W base spare held n 2 (([c0, c1, c2, c3, c4, c5, c6, c7, c8, c9].drop 1).take (Tryz.prog.cellsOf 2)) = some y1 := hfi 1 _ rfl
 rw [z0] at f1
 obtain ⟨d1, r1⟩ := (aG Tryz.underlying2) enc W base spare held n _ _ f1
 have f2 : DataW.trod enc Tryz.prog W base spare held n 2 (([c0, c1, c2, c3, c4, c5, c6, c7, c8, c9].drop 2).take (Tryz.prog.cellsOf 2)) = some y2 := hfi 2 _ rfl
 rw [z0] at f2
 obtain ⟨d2, r2⟩ := (aG Tryz.underlying2) enc W base spare held n _ _ f2
 have f3 : DataW.trod enc Tryz.prog W base spare held n 2 (([c0, c1, c2, c3, c4, c5, c6, c7, c8, c9].drop 3).take (Tryz.prog.cellsOf 2)) = some y3 := hfi 3 _ rfl
 rw [z0] at f3
 obtain ⟨d3, r3⟩ := (aG Tryz.underlying2) enc W base spare held n _ _ f3
 have f4 : DataW.trod enc Tryz.prog W base spare held n 2 (([c0, c1, c2, c3, c4, c5, c6, c7, c8, c9].drop 4).take (Tryz.prog.cellsOf 2)) = some y4 := hfi 4 _ rfl
 rw [z0] at f4
 obtain ⟨d4, r4⟩ := (aG Tryz.underlying2) enc W base spare held n _ _ f4
 have f5 : DataW.trod enc Tryz.prog W base spare held n 132 (([c0, c1, c2, c3, c4, c5, c6, c7, c8, c9].drop 5).take (Tryz.prog.cellsOf 132)) = some y5 := hfi 5 _ rfl
 rw [z1] at f5
 obtain ⟨d5, r5⟩ := (eC) enc W base spare held n _ _ f5
 exact ⟨⟨d0, d1, d2, d3, d4, d5⟩, (ay r0 (ay r1 (ay r2 (ay r3 (ay r4 r5)))))⟩
theorem jn : cY ad.cb 242 := by
 intro H enc W base spare held fuel cs x h
 obtain ⟨xs, n, _, _, hlen, hl, hfi⟩ := DataW.trod_struct Tryz.underlying242 h
 rw [show Tryz.prog.cellsOf 242 = 2 by kernel_rfl] at hlen
 match cs, hlen with
 | [c0, c1], _ =>
 match xs, hl with
 | [y0, y1], _ =>
 have z0 : Tryz.prog.cellsOf 2 = 1 := by kernel_rfl
 have f0 : DataW.trod enc Tryz.prog W base spare held n 2 (([c0, c1].drop 0).take (Tryz.prog.cellsOf 2)) = some y0 := hfi 0 _ rfl
 rw [z0] at f0
 obtain ⟨d0, r0⟩ := (aG Tryz.underlying2) enc W base spare held n _ _ f0
 have f1 : DataW.trod enc Tryz.prog W base spare held n 2 (([c0, c1].drop 1).take (Tryz.prog.cellsOf 2)) = some y1 := hfi 1 _ rfl
 rw [z0] at f1
 obtain ⟨d1, r1⟩ := (aG Tryz.underlying2) enc W base spare held n _ _ f1
 exact ⟨⟨d0, d1⟩, (ay r0 r1)⟩
theorem gC : cY ad.aH 138 := by
 intro H enc W base spare held fuel cs x h
 obtain ⟨xs, n, _, _, hlen, hl, hfi⟩ := DataW.trod_struct Tryz.underlying138 h
 rw [show Tryz.prog.cellsOf 138 = 11 by kernel_rfl] at hlen
 match cs, hlen with
 | [c0, c1, c2, c3, c4, c5, c6, c7, c8, c9, c10], _ =>
 match xs, hl with
 | [y0, y1, y2, y3, y4, y5, y6, y7, y8, y9, y10], _ =>
 have z0 : Tryz.prog.cellsOf 2 = 1 := by kernel_rfl
 have z1 : Tryz.prog.cellsOf 22 = 1 := by kernel_rfl
 have z2 : Tryz.prog.cellsOf 136 = 1 := by kernel_rfl
 have f0 : DataW.trod enc Tryz.prog W base spare held n 2 (([c0, c1, c2, c3, c4, c5, c6, c7, c8, c9, c10].drop 0).take (Tryz.prog.cellsOf 2)) = some y0 := hfi 0 _ rfl
 rw [z0] at f0
 obtain ⟨d0, r0⟩ := (aG Tryz.underlying2) enc W base spare held n _ _ f0
 have f1 : DataW.trod enc Tryz.prog W base spare held n 2 (([c0, c1, c2, c3, c4, c5, c6, c7, c8, c9, c10].drop 1).take (Tryz.prog.cellsOf 2)) = some y1 := hfi 1 _ rfl
 rw [z0] at f1
 obtain ⟨d1, r1⟩ := (aG Tryz.underlying2) enc W base spare held n _ _ f1
 have f2 : DataW.trod enc Tryz.prog W base spare held n 2 (([c0, c1, c2, c3, c4, c5, c6, c7, c8, c9, c10].drop 2).take (Tryz.prog.cellsOf 2)) = some y2 := hfi 2 _ rfl
 rw [z0] at f2
 obtain ⟨d2, r2⟩ := (aG Tryz.underlying2) enc W base spare held n _ _ f2
 have f3 : DataW.trod enc Tryz.prog W base spare held n 2 (([c0, c1, c2, c3, c4, c5, c6, c7, c8, c9, c10].drop 3).take (Tryz.prog.cellsOf 2)) = some y3 := hfi 3 _ rfl
 rw [z0] at f3
 obtain ⟨d3, r3⟩ := (aG Tryz.underlying2) enc W base spare held n _ _ f3
 have f4 : DataW.trod enc Tryz.prog W base spare held n 22 (([c0, c1, c2, c3, c4, c5, c6, c7, c8, c9, c10].drop 4).take (Tryz.prog.cellsOf 22)) = some y4 := hfi 4 _ rfl
 rw [z1] at f4
 obtain ⟨d4, r4⟩ := (cg Tryz.underlying22 (by kernel_rfl) (by decide) (aG Tryz.underlying2)) enc W base spare held n _ _ f4
 have f5 : DataW.trod enc Tryz.prog W base spare held n 2 (([c0, c1, c2, c3, c4, c5, c6, c7, c8, c9, c10].drop 5).take (Tryz.prog.cellsOf 2)) = some y5 := hfi 5 _ rfl
 rw [z0] at f5
 obtain ⟨d5, r5⟩ := (aG Tryz.underlying2) enc W base spare held n _ _ f5
 have f6 : DataW.trod enc Tryz.prog W base spare held n 2 (([c0, c1, c2, c3, c4, c5, c6, c7, c8, c9, c10].drop 6).take (Tryz.prog.cellsOf 2)) = some y6 := hfi 6 _ rfl
 rw [z0] at f6
 obtain ⟨d6, r6⟩ := (aG Tryz.underlying2) enc W base spare held n _ _ f6
 have f7 : DataW.trod enc Tryz.prog W base spare held n 2 (([c0, c1, c2, c3, c4, c5, c6, c7, c8, c9, c10].drop 7).take (Tryz.prog.cellsOf 2)) = some y7 := hfi 7 _ rfl
 rw [z0] at f7
 obtain ⟨d7, r7⟩ := (aG Tryz.underlying2) enc W base spare held n _ _ f7
 have f8 : DataW.trod enc Tryz.prog W base spare held n 2 (([c0, c1, c2, c3, c4, c5, c6, c7, c8, c9, c10].drop 8).take (Tryz.prog.cellsOf 2)) = some y8 := hfi 8 _ rfl
 rw [z0] at f8
 obtain ⟨d8, r8⟩ := (aG Tryz.underlying2) enc W base spare held n _ _ f8
 have f9 : DataW.trod enc Tryz.prog W base spare held n 22 (([c0, c1, c2, c3, c4, c5, c6, c7, c8, c9, c10].drop 9).take (Tryz.prog.cellsOf 22)) = some y9 := hfi 9 _ rfl
 rw [z1] at f9
 obtain ⟨d9, r9⟩ := (cg Tryz.underlying22 (by kernel_rfl) (by decide) (aG Tryz.underlying2)) enc W base spare held n _ _ f9
 have f10 : DataW.trod enc Tryz.prog W base spare held n 136 (([c0, c1, c2, c3, c4, c5, c6, c7, c8, c9, c10].drop 10).take (Tryz.prog.cellsOf 136)) = some y10 := hfi 10 _ rfl
 rw [z2] at f10
 obtain ⟨d10, r10⟩ := (cg Tryz.underlying136 (by kernel_rfl) (by decide) jn) enc W base spare held n _ _ f10
 exact ⟨⟨d0, d1, d2, d3, d4, d5, d6, d7, d8, d9, d10⟩, (ay r0 (ay r1 (ay r2 (ay r3 (ay r4 (ay r5 (ay r6 (ay r7 (ay r8 (ay r9 r10))))))))))⟩
theorem ie : cY ad.aS 29 := by
 intro H enc W base spare held fuel cs x h
 obtain ⟨xs, n, _, _, hlen, hl, hfi⟩ := DataW.trod_struct Tryz.underlying29 h
 rw [show Tryz.prog.cellsOf 29 = 7 by kernel_rfl] at hlen
 match cs, hlen with
 | [c0, c1, c2, c3, c4, c5, c6], _ =>
 match xs, hl with
 | [y0, y1, y2, y3, y4, y5], _ =>
 have z0 : Tryz.prog.cellsOf 2 = 1 := by kernel_rfl
 have z1 : Tryz.prog.cellsOf 24 = 2 := by kernel_rfl
 have z2 : Tryz.prog.cellsOf 25 = 1 := by kernel_rfl
 have z3 : Tryz.prog.cellsOf 26 = 1 := by kernel_rfl
 have z4 : Tryz.prog.cellsOf 27 = 1 := by kernel_rfl
 have f0 : DataW.trod enc Tryz.prog W base spare held n 2 (([c0, c1, c2, c3, c4, c5, c6].drop 0).take (Tryz.prog.cellsOf 2)) = some y0 := hfi 0 _ rfl
 rw [z0] at f0
 obtain ⟨d0, r0⟩ := (aG Tryz.underlying2) enc W base spare held n _ _ f0
 have f1 : DataW.trod enc Tryz.prog W base spare held n 2 (([c0, c1, c2, c3, c4, c5, c6].drop 1).take (Tryz.prog.cellsOf 2)) = some y1 := hfi 1 _ rfl
 rw [z0] at f1
 obtain ⟨d1, r1⟩ := (aG Tryz.underlying2) enc W base spare held n _ _ f1
 have f2 : DataW.trod enc Tryz.prog W base spare held n 24 (([c0, c1, c2, c3, c4, c5, c6].drop 2).take (Tryz.prog.cellsOf 24)) = some y2 := hfi 2 _ rfl
 rw [z1] at f2
 obtain ⟨d2, r2⟩ := (gN) enc W base spare held n _ _ f2
 have f3 : DataW.trod enc Tryz.prog W base spare held n 25 (([c0, c1, c2, c3, c4, c5, c6].drop 4).take (Tryz.prog.cellsOf 25)) = some y3 := hfi 3 _ rfl
 rw [z2] at f3
 obtain ⟨d3, r3⟩ := (cg Tryz.underlying25 (by kernel_rfl) (by decide) iN) enc W base spare held n _ _ f3
 have f4 : DataW.trod enc Tryz.prog W base spare held n 26 (([c0, c1, c2, c3, c4, c5, c6].drop 5).take (Tryz.prog.cellsOf 26)) = some y4 := hfi 4 _ rfl
 rw [z3] at f4
 obtain ⟨d4, r4⟩ := (cg Tryz.underlying26 (by kernel_rfl) (by decide) ja) enc W base spare held n _ _ f4
 have f5 : DataW.trod enc Tryz.prog W base spare held n 27 (([c0, c1, c2, c3, c4, c5, c6].drop 6).take (Tryz.prog.cellsOf 27)) = some y5 := hfi 5 _ rfl
 rw [z4] at f5
 obtain ⟨d5, r5⟩ := (cg Tryz.underlying27 (by kernel_rfl) (by decide) gC) enc W base spare held n _ _ f5
 exact ⟨⟨d0, d1, d2, d3, d4, d5⟩, (ay r0 (ay r1 (ay r2 (ay r3 (ay r4 r5)))))⟩
end Go.Proofs.YtecagllmonckgaaGreat
