/-
  Texts of this proof in one: SpecStateIn, ImplTail, ImplTailIn, ImplSure, ImplId, ImplTab, MapTab, ImplFrom, ImplPutM, ImplDropM, ImplDo, Iter, KeysC, ImplItems, ImplTOf, NodeKit, ImplStateIn, TOfFew, LawStateIn, OpenChain, OpenWrite.
  Their conditions stand in their theorems.
-/
import Derived.Test.YtoanimpijfijgaaGreatSi09
import Derived.Test.YtoanimpijfijgaaGreatSi11
import Derived.Deep.RegionHeld3
import Derived.Test.YtoanimpijfijgaaGreatSi00
import Derived.Test.YtoanimpijfijgaaGreatSi08
import Derived.Deep.CutRange
import Derived.Test.YtoanimpijfijgaaGreatSi06
import Derived.Test.YtoanimpijfijgaaGreatChecked
import Derived.Test.YtoanimpijfijgaaGreatSi01
import Derived.BigQuiet
import Derived.Deep.QuietTactic
import Derived.Test.YtoanimpijfijgaaGreatSi07
import Derived.Shelf.SlIterI.Nil
import Derived.Shelf.SortM.Plain
import Derived.Shelf.SortM.SortNone
import Derived.Ground.GgzProg
import Derived.Ground.SlgmProg
import Derived.Shelf.SlGeneric
import Derived.Test.YtoanimpijfijgaaGreatProg
import Derived.Test.YtoanimpijfijgaaGreatSi10
import Derived.Test.YtoanimpijfijgaaGreatSi05
set_option maxRecDepth 100000
set_option maxHeartbeats 4000000
namespace Go.Proofs.YtoanimpijfijgaaGreat
open Go.RowKit
theorem specStateIn (cs : List Value) (x : DWorld) (w : World) (h : Lay.tWorld.Reads w cs x) :
  Calls Tryz.prog 49 #[.agg cs.toArray] w fun e w' => ∃ cs', e = .returned (.agg cs'.toArray) ∧ Lay.tTableResult.Reads w' cs' (stateInR x) ∧ Below w.heap.size w w' := by
 have HP : Hid (stateInR x = if worldFault x ≠ 0 then ⟨worldFault x, []⟩ else ⟨0, ofI (sureWs x)⟩) := rfl
 obtain ⟨a3, d3, a4, d4, a5, d5, a6, d6, rfl, -, -, -, -⟩ := open_World h
 have HBN : Hid (∀ b off, a4 = some ⟨b, off, none⟩ → 0 < x.nodes.length → b < w.heap.size) := fun b off e hp => by
  obtain ⟨_, _, _, _, _, _, _, _, hq, -, RN, -, -⟩ := open_World h
  simp only [List.cons.injEq, Value.slice.injEq, and_true, true_and] at hq
  obtain ⟨-, ⟨rfl, rfl⟩, -, -, -⟩ := hq
  obtain ⟨b', off', e', hb⟩ := Lay.sl_addr RN hp
  rw [e] at e'
  simp only [Option.some.injEq, Addr.mk.injEq, and_true] at e'
  obtain ⟨rfl, -⟩ := e'
  exact hb
 have nb : Below w.heap.size w ((w.alloc (.cells #[.int .i64 x.now, .int .i64 x.events, .int .i64 x.chain.epoch, .slice a3 x.chain.ids.length d3, .slice a4 x.nodes.length d4, .slice a5 x.msgs.length d5, .slice a6 x.history.length d6] 36)).alloc (.cells #[.int .i64 0, .slice none 0 0] 66)) := ((Below.refl _ _).alloc (Nat.le_refl _) _).alloc (by simp) _
 have HX : Hid (Box 0 #[.int .i64 x.now, .int .i64 x.events, .int .i64 x.chain.epoch, .slice a3 x.chain.ids.length d3, .slice a4 x.nodes.length d4, .slice a5 x.msgs.length d5, .slice a6 x.history.length d6] 36 ((w.alloc (.cells #[.int .i64 x.now, .int .i64 x.events, .int .i64 x.chain.epoch, .slice a3 x.chain.ids.length d3, .slice a4 x.nodes.length d4, .slice a5 x.msgs.length d5, .slice a6 x.history.length d6] 36)).alloc (.cells #[.int .i64 0, .slice none 0 0] 66)) w.heap.size) := (newBox (Nat.zero_le _)).grow _
 have HY : Hid (Box 0 #[.int .i64 0, .slice none 0 0] 66 ((w.alloc (.cells #[.int .i64 x.now, .int .i64 x.events, .int .i64 x.chain.epoch, .slice a3 x.chain.ids.length d3, .slice a4 x.nodes.length d4, .slice a5 x.msgs.length d5, .slice a6 x.history.length d6] 36)).alloc (.cells #[.int .i64 0, .slice none 0 0] 66)) (w.heap.size + 1)) := newBoxAt (Nat.zero_le _) (by simp)
 have hz0 : ((w.alloc (.cells #[.int .i64 x.now, .int .i64 x.events, .int .i64 x.chain.epoch, .slice a3 x.chain.ids.length d3, .slice a4 x.nodes.length d4, .slice a5 x.msgs.length d5, .slice a6 x.history.length d6] 36)).alloc (.cells #[.int .i64 0, .slice none 0 0] 66)).heap.size = w.heap.size + 2 := by simp
 have HR := yh (h.later nb)
 have HB := yh nb
 clear nb h
 generalize stateInR x = R at *
 go_enter Tryz.func49, Tryz.ntmps49
 go_upto_region 1 with fail
 generalize ((w.alloc (.cells #[.int .i64 x.now, .int .i64 x.events, .int .i64 x.chain.epoch, .slice a3 x.chain.ids.length d3, .slice a4 x.nodes.length d4, .slice a5 x.msgs.length d5, .slice a6 x.history.length d6] 36)).alloc (.cells #[.int .i64 0, .slice none 0 0] 66)) = W0 at *
 go_wp2_with fail
 refine (l12FaultC a3 d3 a4 d4 a5 d5 a6 d6 x w.heap.size W0 (uh HX) (uh HR)).mono ?_
 rintro e wa ⟨rfl, hb⟩
 replace HX := yh ((uh HX).keep hb)
 replace HR := yh ((uh HR).later hb)
 replace HY := yh ((uh HY).keep hb)
 replace HB := yh ((uh HB).trans (hb.mono (uh HB).size))
 have hza := hb.size
 clear hb
 by_cases d1 : worldFault x ≠ 0
 ·
  have hd : (worldFault x != 0) = true := by simpa using d1
  replace HP := yh ((uh HP).trans (if_pos d1))
  have HC := yh (wf_vals x)
  clear d1
  generalize worldFault x = c at *
  have r0 := Box.at (uh HY) 0 _ rfl
  have r1 := Box.at (uh HY) 1 _ rfl
  simp only [ga, gb, gc] at r0 r1
  have rf := Box.soft (uh HY)
  have rl := (uh HY).lt
  have HB9 := yh (((uh HB).setCell (p := ⟨w.heap.size + 1, 0, none⟩) (by simp) (.int .i64 c)).setCell (p := ⟨w.heap.size + 1, 1, none⟩) (by simp) (.slice none 0 0))
  clear HX HR HY HB
  go_wp2_with fail
  refine bodyPost_ret (v := .agg #[.int .i64 c, .slice none 0 0]) (by simp [results, Tryz.results49, go_sem, r0, r1]) rfl ?_
  rw [uh HP]
  exact ⟨[.int .i64 c, .slice none 0 0], rfl, (own_codeItems (lo := 0) (hi := 0) (wf_of_bd (by have := uh HC; omega))).reads, uh HB9⟩
 replace HP := yh ((uh HP).trans (if_neg d1))
 have hok := worldFault_zero (by simpa using d1 : worldFault x = 0)
 rw [show worldFault x = 0 by simpa using d1]
 obtain ⟨k, hk, ht⟩ := tail_at hok
 have HS4 := yh (hok.nodes k hk)
 have HLN : Hid ((x.nodes[k].writes.take x.nodes[k].sure.toNat).length ≤ 40) := by
  have := (nodeFault_zero (hok.nodes k hk).1).len
  have h2 := List.length_take_le x.nodes[k].sure.toNat x.nodes[k].writes
  show (x.nodes[k].writes.take x.nodes[k].sure.toNat).length ≤ 40
  rw [List.length_take]
  omega
 have HALL : Hid (∀ y ∈ (x.nodes[k].writes.take x.nodes[k].sure.toNat), wF y = 0) := fun y hy => (nodeFault_zero (hok.nodes k hk).1).ws y (List.mem_of_mem_take hy)
 have HPS : Hid (R = ⟨0, ofI (x.nodes[k].writes.take x.nodes[k].sure.toNat)⟩) := by
  show R = _
  rw [uh HP, sureWs, ht, nodeOf_at hk]
 obtain ⟨_, _, _, _, _, _, _, _, hq, -, RN, -, -⟩ := open_World (uh HR)
 simp only [List.cons.injEq, Value.slice.injEq, and_true, true_and] at hq
 obtain ⟨-, ⟨rfl, rfl⟩, -, -, -⟩ := hq
 obtain ⟨b, off, rfl, hbl⟩ := Lay.sl_addr RN (by omega)
 have hbw := uh HBN b off rfl (by omega)
 have HL := yh (l13TailC a3 d3 d4 a5 d5 a6 d6 b off k x w.heap.size wa (uh HX) (uh HR) hok hk ht)
 have hno := nodeFault_zero (hok.nodes k hk).1
 have HS := yh hno.sure
 have hln : x.nodes[k].writes.length ≤ 40 := hno.len
 clear RN hok ht d1 HS4 hno
 go_wp2_with fail
 refine (uh HL).mono ?_
 rintro e w2 ⟨rfl, hb⟩
 have HYD := yh (((uh HY).keep hb).drew)
 have HBD := yh (((uh HB).trans (hb.mono (uh HB).size)).drew)
 obtain ⟨_, _, _, _, _, _, _, _, hq, -, RN, -, -⟩ := open_World ((uh HR).later hb)
 simp only [List.cons.injEq, Value.slice.injEq, and_true, true_and] at hq
 obtain ⟨-, ⟨rfl, rfl⟩, -, -, -⟩ := hq
 obtain ⟨row, hcl, hr⟩ := Lay.row_at RN hk
 obtain ⟨an, dn, rfl, RW⟩ := open_Node hr
 generalize hnd : x.nodes[k] = n at *
 clear hnd
 obtain ⟨m, hm⟩ : ∃ m : Nat, n.sure = (m : Int) := ⟨n.sure.toNat, by have := (uh HS).1; omega⟩
 have hmw : m ≤ n.writes.length := by have := (uh HS).2; omega
 have hmd : m ≤ dn := Nat.le_trans hmw RW.cap.2
 have x4 : w2.cell? ⟨b, off + k * 7 + 4, none⟩ = some (.slice an n.writes.length dn) := hcl 4 (by decide)
 have x5 : w2.cell? ⟨b, off + k * 7 + 5, none⟩ = some (.int .i64 n.sure) := hcl 5 (by decide)
 have htn : n.sure.toNat = m := by omega
 rw [htn] at HLN HALL HPS
 rw [hm] at x5
 have hbl2 : b < w2.heap.size := Nat.lt_of_lt_of_le hbl hb.size
 have hzz : w.heap.size + 1 < w2.heap.size := Nat.lt_of_lt_of_le (uh HY).lt hb.size
 have HO := yh (specOf _ (n.writes.take m) w2.drew ((sl_take_lies RW.liesIn m hmw).reads.drew 1) (by have := uh HLN; omega) (uh HALL))
 clear hb hcl hr RN RW HX HR HY HB HL HS HLN HALL hm htn
 go_upto_region 5 with fail
 refine wp_region_noPanic ?_
 refine wp_region_held_drew (S := fun w' => Ext (fun q => w.heap.size < q) w2 w') (by kernel_rfl) ((Ext.refl _ _).drew 1) (fun zq => ?_)
 generalize w2.drew = wD at zq HO HYD HBD ⊢
 refine tkH 0 zq ?_
 refine tkH 1 zq ?_
 refine tkH 2 zq ?_
 refine tkJ 3 (v := ?vc3) ?hc3 zq ?rc3
 case hc3 =>
  intro wS hSw
  have q4 : wS.cell? ⟨b, off + k * 7 + 4, none⟩ = some (.slice an n.writes.length dn) := (cell_of_heap (hSw.block b hbl2 (fun e => by omega)) (off + k * 7 + 4)).trans x4
  clear hSw
  (try dsimp only at hSw)
  go_simp
  try with_reducible rfl
 refine tkH 4 zq ?_
 refine tkH 5 zq ?_
 refine tkH 6 zq ?_
 refine tkJ 7 (v := ?vc7) ?hc7 zq ?rc7
 case hc7 =>
  intro wS hSw
  have q5 : wS.cell? ⟨b, off + k * 7 + 5, none⟩ = some (.int .i64 (m : Int)) := (cell_of_heap (hSw.block b hbl2 (fun e => by omega)) (off + k * 7 + 5)).trans x5
  clear hSw
  (try dsimp only at hSw)
  go_simp
  try with_reducible rfl
 refine tkH 8 zq ?_
 refine rdH 9 (fun K hK => ?_)
 go_simp
 go_at_call 118
 refine (uh HO).mono ?_
 rintro e w3 ⟨v9, rfl, O9, hb3⟩
 obtain ⟨a9, d9, rfl⟩ := open_sl O9.reads
 have hy3 := (uh HYD).keep hb3
 have r0 := Box.at hy3 0 _ rfl
 have r1 := Box.at hy3 1 _ rfl
 simp only [ga, gb, gc] at r0 r1
 have rf := Box.soft hy3
 have rl := hy3.lt
 generalize hnn : (ofI (n.writes.take m)).length = nn at *
 try go_wp2_with fail
 refine hK.out _ _ (zq.trans (ext_of_below hb3 _)) (fun zq => ?_)
 clear hK K
 try simp only [Act.put, pz, py, px]
 refine tkH 10 zq ?_
 refine rdH 11 (fun K hK => ?_)
 go_simp
 refine hK.out _ _ (Ext.setCell (Ext.setCell zq ⟨w.heap.size + 1, 0, none⟩ (.int .i64 0) (Nat.lt_succ_self _)) ⟨w.heap.size + 1, 1, none⟩ (.slice a9 nn d9) (Nat.lt_succ_self _)) (fun zq => ?_)
 clear hK K
 try simp only [Act.put, pz, py, px]
 refine wpAnyH_done (by kernel_rfl) ?_ _
 refine NoPanic.normal ?_
 have hy4 := Box.set (Box.set hy3 0 (.int .i64 0)) 1 (.slice a9 nn d9)
 simp only [List.setIfInBounds_toArray, List.set_cons_zero, List.set_cons_succ] at hy4
 have hlt : w.heap.size + 1 < w3.heap.size := rl
 have HB9 := yh (below_setAll ((uh HBD).trans (hb3.mono (uh HBD).size)) (w.heap.size + 1) 0 [.int .i64 0, .slice a9 nn d9] (by omega))
 have HZD : Hid (w.heap.size + 1 < wD.heap.size) := (uh HYD).lt
 rw [← hnn] at *
 have HOF := yh (lies_store' (s := w.heap.size + 1) (vs := [.int .i64 0, .slice a9 (ofI (n.writes.take m)).length d9]) O9 (uh HZD))
 clear r0 r1 rf rl
 have r0 := Box.at hy4 0 _ rfl
 have r1 := Box.at hy4 1 _ rfl
 simp only [ga, gb, gc] at r0 r1
 clear zq hy3 hy4 hb3 HO HYD HBD x4 x5 O9 hnn
 generalize (ofI (n.writes.take m)).length = nn at *
 go_wp2_with fail
 refine bodyPost_ret (v := .agg #[.int .i64 0, .slice a9 nn d9]) (by simp [results, Tryz.results49, go_sem, r0, r1]) rfl ?_
 rw [uh HPS]
 exact ⟨[.int .i64 0, .slice a9 nn d9], rfl, reads_items (by decide) (uh HOF).reads, uh HB9⟩
theorem tailOfC (cs : List Value) (x : DChain) (w : World) (h : Lay.tChain.Reads w cs x) (k : Nat) (hk : x.ids.length = k + 1) (hn : x.ids.length ≤ 5) :
  Calls Tryz.prog 177 #[.agg cs.toArray] w fun e w' => e = .returned (.int .i64 (x.ids.getD k 0)) ∧ Below w.heap.size w w' := by
 obtain ⟨a3, d3, rfl, R3⟩ := open_Chain h
 have hlt : k < x.ids.length := by omega
 have hv : x.ids.getD k 0 = x.ids[k] := by simp [List.getD, hlt]
 rw [hv]
 have nb : Below w.heap.size w (w.alloc (.cells #[.int .i64 x.epoch, .slice a3 x.ids.length d3] 31)) := (Below.refl _ _).alloc (Nat.le_refl _) _
 have HX : Hid (Box 0 #[.int .i64 x.epoch, .slice a3 x.ids.length d3] 31 (w.alloc (.cells #[.int .i64 x.epoch, .slice a3 x.ids.length d3] 31)) w.heap.size) := newBox (Nat.zero_le _)
 have R := R3.later nb
 obtain ⟨b, off, rfl, hbl⟩ := Lay.sl_addr R (by omega)
 have c1 := int_cell R hlt
 have HB := yh nb
 have hw1 : IntKind.i64.wrap ((k : Int) + 1 - 1) = (k : Int) := by rw [IntKind.wrap_i64]; omega
 have hw2 : IntKind.i64.wrap (k : Int) = (k : Int) := by rw [IntKind.wrap_i64]; omega
 have hki0 : (0 : Int) ≤ (k : Int) := by omega
 have hki : (k : Int) < ((k + 1 : Nat) : Int) := by omega
 have hks : ((k + 1 : Nat) : Int) - 1 = (k : Int) := by omega
 clear hv
 generalize x.ids[k] = z at *
 have HK := yh hk
 clear nb R R3 h hlt hn hk
 go_enter Tryz.func177, Tryz.ntmps177
 go_upto_region 1 with fail
 generalize hWW : w.alloc (.cells #[.int .i64 x.epoch, .slice (some ⟨b, off, none⟩) x.ids.length d3] 31) = w1 at *
 have z1 := Box.at (uh HX) 1 _ rfl
 simp only [ga, gb, gc] at z1
 have zl := (uh HX).lt
 clear hWW HX
 have hk := uh HK
 rw [hk] at z1
 clear hk HK
 go_wp2_with fail
 go_ret
 exact ⟨rfl, uh HB⟩
theorem tailInC (cs : List Value) (x : DWorld) (k : Nat) (w : World) (h : Lay.tWorld.Reads w cs x) (hok : WorldMid x) (hk : k < x.nodes.length) (ht : tailId x = (k : Int) + 1) :
  Calls Tryz.prog 96 #[.agg cs.toArray] w fun e w' => ∃ an dn, e = .returned (.agg #[.int .i64 x.nodes[k].id, .bool x.nodes[k].up, .int .i64 x.nodes[k].epoch, .int .i64 x.nodes[k].lease, .slice an x.nodes[k].writes.length dn, .int .i64 x.nodes[k].sure, .int .i64 x.nodes[k].clean]) ∧ Lay.tNode.Reads w' [.int .i64 x.nodes[k].id, .bool x.nodes[k].up, .int .i64 x.nodes[k].epoch, .int .i64 x.nodes[k].lease, .slice an x.nodes[k].writes.length dn, .int .i64 x.nodes[k].sure, .int .i64 x.nodes[k].clean] x.nodes[k] ∧ Below w.heap.size w w' := by
 obtain ⟨a3, d3, a4, d4, a5, d5, a6, d6, rfl, RC0, RN0, -, -⟩ := open_World h
 obtain ⟨b, off, rfl, hbl⟩ := Lay.sl_addr RN0 (by omega)
 obtain ⟨row, hcl, hr⟩ := Lay.row_at RN0 hk
 have hr0 := hr
 obtain ⟨an, dn, rfl, -⟩ := open_Node hr
 have nb : Below w.heap.size w ((w.alloc (.cells #[.int .i64 x.now, .int .i64 x.events, .int .i64 x.chain.epoch, .slice a3 x.chain.ids.length d3, .slice (some ⟨b, off, none⟩) x.nodes.length d4, .slice a5 x.msgs.length d5, .slice a6 x.history.length d6] 36)).alloc (.cells #[.int .i64 0, .bool false, .int .i64 0, .int .i64 0, .slice none 0 0, .int .i64 0, .int .i64 0] 84)) := ((Below.refl _ _).alloc (Nat.le_refl _) _).alloc (by simp) _
 have HX : Hid (Box 0 #[.int .i64 x.now, .int .i64 x.events, .int .i64 x.chain.epoch, .slice a3 x.chain.ids.length d3, .slice (some ⟨b, off, none⟩) x.nodes.length d4, .slice a5 x.msgs.length d5, .slice a6 x.history.length d6] 36 ((w.alloc (.cells #[.int .i64 x.now, .int .i64 x.events, .int .i64 x.chain.epoch, .slice a3 x.chain.ids.length d3, .slice (some ⟨b, off, none⟩) x.nodes.length d4, .slice a5 x.msgs.length d5, .slice a6 x.history.length d6] 36)).alloc (.cells #[.int .i64 0, .bool false, .int .i64 0, .int .i64 0, .slice none 0 0, .int .i64 0, .int .i64 0] 84)) w.heap.size) := (newBox (Nat.zero_le _)).grow _
 have HY : Hid (Box 0 #[.int .i64 0, .bool false, .int .i64 0, .int .i64 0, .slice none 0 0, .int .i64 0, .int .i64 0] 84 ((w.alloc (.cells #[.int .i64 x.now, .int .i64 x.events, .int .i64 x.chain.epoch, .slice a3 x.chain.ids.length d3, .slice (some ⟨b, off, none⟩) x.nodes.length d4, .slice a5 x.msgs.length d5, .slice a6 x.history.length d6] 36)).alloc (.cells #[.int .i64 0, .bool false, .int .i64 0, .int .i64 0, .slice none 0 0, .int .i64 0, .int .i64 0] 84)) (w.heap.size + 1)) := newBoxAt (Nat.zero_le _) (by simp)
 have hz0 : ((w.alloc (.cells #[.int .i64 x.now, .int .i64 x.events, .int .i64 x.chain.epoch, .slice a3 x.chain.ids.length d3, .slice (some ⟨b, off, none⟩) x.nodes.length d4, .slice a5 x.msgs.length d5, .slice a6 x.history.length d6] 36)).alloc (.cells #[.int .i64 0, .bool false, .int .i64 0, .int .i64 0, .slice none 0 0, .int .i64 0, .int .i64 0] 84)).heap.size = w.heap.size + 2 := by simp
 have hl := (chainFault_zero hok.chain).len
 have HL0 := yh (RC0.later nb)
 have x0 : ((w.alloc (.cells #[.int .i64 x.now, .int .i64 x.events, .int .i64 x.chain.epoch, .slice a3 x.chain.ids.length d3, .slice (some ⟨b, off, none⟩) x.nodes.length d4, .slice a5 x.msgs.length d5, .slice a6 x.history.length d6] 36)).alloc (.cells #[.int .i64 0, .bool false, .int .i64 0, .int .i64 0, .slice none 0 0, .int .i64 0, .int .i64 0] 84)).cell? ⟨b, off + k * 7, none⟩ = some (.int .i64 (x.nodes[k]).id) := (cell_of_heap (nb.block b hbl) _).trans (hcl 0 (by decide))
 have x1 : ((w.alloc (.cells #[.int .i64 x.now, .int .i64 x.events, .int .i64 x.chain.epoch, .slice a3 x.chain.ids.length d3, .slice (some ⟨b, off, none⟩) x.nodes.length d4, .slice a5 x.msgs.length d5, .slice a6 x.history.length d6] 36)).alloc (.cells #[.int .i64 0, .bool false, .int .i64 0, .int .i64 0, .slice none 0 0, .int .i64 0, .int .i64 0] 84)).cell? ⟨b, off + k * 7 + 1, none⟩ = some (.bool (x.nodes[k]).up) := (cell_of_heap (nb.block b hbl) _).trans (hcl 1 (by decide))
 have x2 : ((w.alloc (.cells #[.int .i64 x.now, .int .i64 x.events, .int .i64 x.chain.epoch, .slice a3 x.chain.ids.length d3, .slice (some ⟨b, off, none⟩) x.nodes.length d4, .slice a5 x.msgs.length d5, .slice a6 x.history.length d6] 36)).alloc (.cells #[.int .i64 0, .bool false, .int .i64 0, .int .i64 0, .slice none 0 0, .int .i64 0, .int .i64 0] 84)).cell? ⟨b, off + k * 7 + 2, none⟩ = some (.int .i64 (x.nodes[k]).epoch) := (cell_of_heap (nb.block b hbl) _).trans (hcl 2 (by decide))
 have x3 : ((w.alloc (.cells #[.int .i64 x.now, .int .i64 x.events, .int .i64 x.chain.epoch, .slice a3 x.chain.ids.length d3, .slice (some ⟨b, off, none⟩) x.nodes.length d4, .slice a5 x.msgs.length d5, .slice a6 x.history.length d6] 36)).alloc (.cells #[.int .i64 0, .bool false, .int .i64 0, .int .i64 0, .slice none 0 0, .int .i64 0, .int .i64 0] 84)).cell? ⟨b, off + k * 7 + 3, none⟩ = some (.int .i64 (x.nodes[k]).lease) := (cell_of_heap (nb.block b hbl) _).trans (hcl 3 (by decide))
 have x4 : ((w.alloc (.cells #[.int .i64 x.now, .int .i64 x.events, .int .i64 x.chain.epoch, .slice a3 x.chain.ids.length d3, .slice (some ⟨b, off, none⟩) x.nodes.length d4, .slice a5 x.msgs.length d5, .slice a6 x.history.length d6] 36)).alloc (.cells #[.int .i64 0, .bool false, .int .i64 0, .int .i64 0, .slice none 0 0, .int .i64 0, .int .i64 0] 84)).cell? ⟨b, off + k * 7 + 4, none⟩ = some (.slice an (x.nodes[k]).writes.length dn) := (cell_of_heap (nb.block b hbl) _).trans (hcl 4 (by decide))
 have x5 : ((w.alloc (.cells #[.int .i64 x.now, .int .i64 x.events, .int .i64 x.chain.epoch, .slice a3 x.chain.ids.length d3, .slice (some ⟨b, off, none⟩) x.nodes.length d4, .slice a5 x.msgs.length d5, .slice a6 x.history.length d6] 36)).alloc (.cells #[.int .i64 0, .bool false, .int .i64 0, .int .i64 0, .slice none 0 0, .int .i64 0, .int .i64 0] 84)).cell? ⟨b, off + k * 7 + 5, none⟩ = some (.int .i64 (x.nodes[k]).sure) := (cell_of_heap (nb.block b hbl) _).trans (hcl 5 (by decide))
 have x6 : ((w.alloc (.cells #[.int .i64 x.now, .int .i64 x.events, .int .i64 x.chain.epoch, .slice a3 x.chain.ids.length d3, .slice (some ⟨b, off, none⟩) x.nodes.length d4, .slice a5 x.msgs.length d5, .slice a6 x.history.length d6] 36)).alloc (.cells #[.int .i64 0, .bool false, .int .i64 0, .int .i64 0, .slice none 0 0, .int .i64 0, .int .i64 0] 84)).cell? ⟨b, off + k * 7 + 6, none⟩ = some (.int .i64 (x.nodes[k]).clean) := (cell_of_heap (nb.block b hbl) _).trans (hcl 6 (by decide))
 have hbl2 : b < ((w.alloc (.cells #[.int .i64 x.now, .int .i64 x.events, .int .i64 x.chain.epoch, .slice a3 x.chain.ids.length d3, .slice (some ⟨b, off, none⟩) x.nodes.length d4, .slice a5 x.msgs.length d5, .slice a6 x.history.length d6] 36)).alloc (.cells #[.int .i64 0, .bool false, .int .i64 0, .int .i64 0, .slice none 0 0, .int .i64 0, .int .i64 0] 84)).heap.size := by omega
 have HN := yh hr0
 have hw1 : IntKind.i64.wrap (k : Int) = (k : Int) := by
  have := hok.some
  rw [IntKind.wrap_i64]
  omega
 have hki : (k : Int) < (x.nodes.length : Int) := by omega
 have hki0 : (0 : Int) ≤ (k : Int) := by omega
 have HB := yh nb
 clear hcl hr hr0 RC0 RN0 h hok nb
 generalize hnn : x.nodes[k] = n at *
 clear hnn
 go_enter Tryz.func96, Tryz.ntmps96
 go_upto_region 1 with fail
 generalize ((w.alloc (.cells #[.int .i64 x.now, .int .i64 x.events, .int .i64 x.chain.epoch, .slice a3 x.chain.ids.length d3, .slice (some ⟨b, off, none⟩) x.nodes.length d4, .slice a5 x.msgs.length d5, .slice a6 x.history.length d6] 36)).alloc (.cells #[.int .i64 0, .bool false, .int .i64 0, .int .i64 0, .slice none 0 0, .int .i64 0, .int .i64 0] 84)) = W0 at *
 have HL := yh (tailOfC _ x.chain W0.drew ((uh HL0).drew 1) (x.chain.ids.length - 1) (by omega) hl.2)
 rw [show x.chain.ids.getD (x.chain.ids.length - 1) 0 = (k : Int) + 1 from ht] at HL
 have hx := uh HX
 have hxl := hx.lt
 have z2 := Box.at hx 2 _ rfl
 have z3 := Box.at hx 3 _ rfl
 have z4 := Box.at hx 4 _ rfl
 simp only [ga, gb, gc] at z2 z3 z4
 have HYD := yh (uh HY).drew
 have HBD := yh (uh HB).drew
 clear hx HX HY HB HL0 ht hl
 refine wp_region_noPanic ?_
 refine wp_region_held_drew (S := fun w' => Ext (fun q => w.heap.size < q) W0 w') (by kernel_rfl) ((Ext.refl _ _).drew 1) (fun zq => ?_)
 generalize W0.drew = wD at zq HL HYD HBD ⊢
 refine tkH 0 zq ?_
 refine tkJ 1 (v := ?vc1) ?hc1 zq ?rc1
 case hc1 =>
  intro wS hSw
  have q4 := (cell_of_heap (hSw.block w.heap.size hxl (fun e => Nat.lt_irrefl _ e)) 4).trans z4
  clear hSw
  (try dsimp only at hSw)
  go_simp
  try with_reducible rfl
 refine tkH 2 zq ?_
 refine tkJ 3 (v := ?vc3) ?hc3 zq ?rc3
 case hc3 =>
  intro wS hSw
  have q2 := (cell_of_heap (hSw.block w.heap.size hxl (fun e => Nat.lt_irrefl _ e)) 2).trans z2
  have q3 := (cell_of_heap (hSw.block w.heap.size hxl (fun e => Nat.lt_irrefl _ e)) 3).trans z3
  clear hSw
  (try dsimp only at hSw)
  go_simp
  try with_reducible rfl
 refine rdH 4 (fun K hK => ?_)
 go_simp
 go_at_call 177
 refine (uh HL).mono ?_
 rintro e w3 ⟨rfl, hb3⟩
 have hy3 := (uh HYD).keep hb3
 have r0 := Box.at hy3 0 _ rfl
 have r1 := Box.at hy3 1 _ rfl
 have r2 := Box.at hy3 2 _ rfl
 have r3 := Box.at hy3 3 _ rfl
 have r4 := Box.at hy3 4 _ rfl
 have r5 := Box.at hy3 5 _ rfl
 have r6 := Box.at hy3 6 _ rfl
 simp only [ga, gb, gc] at r0 r1 r2 r3 r4 r5 r6
 have rf := Box.soft hy3
 have rl := hy3.lt
 try go_wp2_with fail
 refine hK.out _ _ (zq.trans (ext_of_below hb3 _)) (fun zq => ?_)
 clear hK K
 try simp only [Act.put, pz, py, px]
 refine tkH 5 zq ?_
 refine tkH 6 zq ?_
 refine tkJ 7 (v := ?vc7) ?hc7 zq ?rc7
 case hc7 =>
  intro wS hSw
  have q0 : wS.cell? ⟨b, off + k * 7, none⟩ = some (.int .i64 n.id) := (cell_of_heap (hSw.block b hbl2 (fun e => by omega)) (off + k * 7)).trans x0
  have q1 : wS.cell? ⟨b, off + k * 7 + 1, none⟩ = some (.bool n.up) := (cell_of_heap (hSw.block b hbl2 (fun e => by omega)) (off + k * 7 + 1)).trans x1
  have q2 : wS.cell? ⟨b, off + k * 7 + 2, none⟩ = some (.int .i64 n.epoch) := (cell_of_heap (hSw.block b hbl2 (fun e => by omega)) (off + k * 7 + 2)).trans x2
  have q3 : wS.cell? ⟨b, off + k * 7 + 3, none⟩ = some (.int .i64 n.lease) := (cell_of_heap (hSw.block b hbl2 (fun e => by omega)) (off + k * 7 + 3)).trans x3
  have q4 : wS.cell? ⟨b, off + k * 7 + 4, none⟩ = some (.slice an n.writes.length dn) := (cell_of_heap (hSw.block b hbl2 (fun e => by omega)) (off + k * 7 + 4)).trans x4
  have q5 : wS.cell? ⟨b, off + k * 7 + 5, none⟩ = some (.int .i64 n.sure) := (cell_of_heap (hSw.block b hbl2 (fun e => by omega)) (off + k * 7 + 5)).trans x5
  have q6 : wS.cell? ⟨b, off + k * 7 + 6, none⟩ = some (.int .i64 n.clean) := (cell_of_heap (hSw.block b hbl2 (fun e => by omega)) (off + k * 7 + 6)).trans x6
  clear hSw
  (try dsimp only at hSw)
  go_simp
  try with_reducible rfl
 refine rdH 8 (fun K hK => ?_)
 go_simp
 refine hK.out _ _ (Ext.setCell (Ext.setCell (Ext.setCell (Ext.setCell (Ext.setCell (Ext.setCell (Ext.setCell zq ⟨w.heap.size + 1, 0, none⟩ (.int .i64 n.id) (Nat.lt_succ_self _)) ⟨w.heap.size + 1, 1, none⟩ (.bool n.up) (Nat.lt_succ_self _)) ⟨w.heap.size + 1, 2, none⟩ (.int .i64 n.epoch) (Nat.lt_succ_self _)) ⟨w.heap.size + 1, 3, none⟩ (.int .i64 n.lease) (Nat.lt_succ_self _)) ⟨w.heap.size + 1, 4, none⟩ (.slice an n.writes.length dn) (Nat.lt_succ_self _)) ⟨w.heap.size + 1, 5, none⟩ (.int .i64 n.sure) (Nat.lt_succ_self _)) ⟨w.heap.size + 1, 6, none⟩ (.int .i64 n.clean) (Nat.lt_succ_self _)) (fun zq => ?_)
 clear hK K
 try simp only [Act.put, pz, py, px]
 refine wpAnyH_done (by kernel_rfl) ?_ _
 refine NoPanic.normal ?_
 have hy9 := (Box.set (Box.set (Box.set (Box.set (Box.set (Box.set (Box.set hy3 0 (.int .i64 n.id)) 1 (.bool n.up)) 2 (.int .i64 n.epoch)) 3 (.int .i64 n.lease)) 4 (.slice an n.writes.length dn)) 5 (.int .i64 n.sure)) 6 (.int .i64 n.clean))
 simp only [List.setIfInBounds_toArray, List.set_cons_zero, List.set_cons_succ] at hy9
 have HB9 := yh (below_setAll ((uh HBD).trans (hb3.mono (uh HBD).size)) (w.heap.size + 1) 0 [.int .i64 n.id, .bool n.up, .int .i64 n.epoch, .int .i64 n.lease, .slice an n.writes.length dn, .int .i64 n.sure, .int .i64 n.clean] (by omega))
 clear r0 r1 r2 r3 r4 r5 r6
 have r0 := Box.at hy9 0 _ rfl
 have r1 := Box.at hy9 1 _ rfl
 have r2 := Box.at hy9 2 _ rfl
 have r3 := Box.at hy9 3 _ rfl
 have r4 := Box.at hy9 4 _ rfl
 have r5 := Box.at hy9 5 _ rfl
 have r6 := Box.at hy9 6 _ rfl
 simp only [ga, gb, gc] at r0 r1 r2 r3 r4 r5 r6
 clear zq hy3 hy9 hb3 HL HYD HBD x0 x1 x2 x3 x4 x5 x6
 go_wp2_with fail
 refine bodyPost_ret (v := .agg #[.int .i64 n.id, .bool n.up, .int .i64 n.epoch, .int .i64 n.lease, .slice an n.writes.length dn, .int .i64 n.sure, .int .i64 n.clean]) (by simp [results, Tryz.results96, go_sem, r0, r1, r2, r3, r4, r5, r6]) rfl ?_
 exact ⟨an, dn, rfl, (uh HN).later (uh HB9), uh HB9⟩
theorem sureAtTailC (cs : List Value) (x : DWorld) (k : Nat) (w : World) (h : Lay.tWorld.Reads w cs x) (hok : WorldMid x) (hk : k < x.nodes.length) (ht : tailId x = (k : Int) + 1) :
  Calls Tryz.prog 120 #[.agg cs.toArray] w fun e w' => ∃ v, e = .returned v ∧ (Lay.sl Lay.tWrite).Reads w' [v] (x.nodes[k].writes.take x.nodes[k].sure.toNat) ∧ Below w.heap.size w w' := by
 obtain ⟨a3, d3, a4, d4, a5, d5, a6, d6, rfl, -, -, -, -⟩ := open_World h
 have nb : Below w.heap.size w (w.alloc (.cells #[.int .i64 x.now, .int .i64 x.events, .int .i64 x.chain.epoch, .slice a3 x.chain.ids.length d3, .slice a4 x.nodes.length d4, .slice a5 x.msgs.length d5, .slice a6 x.history.length d6] 36)) := (Below.refl _ _).alloc (Nat.le_refl _) _
 have HX : Hid (Box 0 #[.int .i64 x.now, .int .i64 x.events, .int .i64 x.chain.epoch, .slice a3 x.chain.ids.length d3, .slice a4 x.nodes.length d4, .slice a5 x.msgs.length d5, .slice a6 x.history.length d6] 36 (w.alloc (.cells #[.int .i64 x.now, .int .i64 x.events, .int .i64 x.chain.epoch, .slice a3 x.chain.ids.length d3, .slice a4 x.nodes.length d4, .slice a5 x.msgs.length d5, .slice a6 x.history.length d6] 36)) w.heap.size) := newBox (Nat.zero_le _)
 have HL := yh (tailInC _ x k _ (h.later nb) hok hk ht)
 have HB := yh nb
 have hno := nodeFault_zero (hok.nodes k hk).1
 have HS := yh hno.sure
 have HN4 := yh hno.len
 clear nb h hok hno
 go_enter Tryz.func120, Tryz.ntmps120
 go_upto_region 1 with fail
 generalize (w.alloc (.cells #[.int .i64 x.now, .int .i64 x.events, .int .i64 x.chain.epoch, .slice a3 x.chain.ids.length d3, .slice a4 x.nodes.length d4, .slice a5 x.msgs.length d5, .slice a6 x.history.length d6] 36)) = W1 at *
 have z0 := Box.at (uh HX) 0 _ rfl
 have z1 := Box.at (uh HX) 1 _ rfl
 have z2 := Box.at (uh HX) 2 _ rfl
 have z3 := Box.at (uh HX) 3 _ rfl
 have z4 := Box.at (uh HX) 4 _ rfl
 have z5 := Box.at (uh HX) 5 _ rfl
 have z6 := Box.at (uh HX) 6 _ rfl
 simp only [ga, gb, gc] at z0 z1 z2 z3 z4 z5 z6
 have zl := (uh HX).lt
 go_wp2_with fail
 refine (uh HL).mono ?_
 rintro e w3 ⟨an, dn, rfl, RN, hb3⟩
 generalize hnn : x.nodes[k] = n at *
 obtain ⟨an', dn', hq, RW⟩ := open_Node RN
 simp only [List.cons.injEq, Value.slice.injEq, true_and, and_true] at hq
 obtain ⟨rfl, rfl⟩ := hq
 obtain ⟨m, hm⟩ : ∃ m : Nat, n.sure = (m : Int) := ⟨n.sure.toNat, by have := (uh HS).1; omega⟩
 have hmw : m ≤ n.writes.length := by have := (uh HS).2; omega
 have hmd : m ≤ dn := Nat.le_trans hmw RW.cap.2
 have hln : n.writes.length ≤ 40 := uh HN4
 have nb4 : Below w3.heap.size w3 (w3.alloc (.cells #[.int .i64 n.id, .bool n.up, .int .i64 n.epoch, .int .i64 n.lease, .slice an n.writes.length dn, .int .i64 n.sure, .int .i64 n.clean] 84)) := (Below.refl _ _).alloc (Nat.le_refl _) _
 have HY : Hid (Box 0 #[.int .i64 n.id, .bool n.up, .int .i64 n.epoch, .int .i64 n.lease, .slice an n.writes.length dn, .int .i64 n.sure, .int .i64 n.clean] 84 (w3.alloc (.cells #[.int .i64 n.id, .bool n.up, .int .i64 n.epoch, .int .i64 n.lease, .slice an n.writes.length dn, .int .i64 n.sure, .int .i64 n.clean] 84)) w3.heap.size) := newBox (Nat.zero_le _)
 have HT := yh (sl_take_lies (RW.later nb4).liesIn m hmw)
 replace HB := yh (((uh HB).trans (hb3.mono (uh HB).size)).trans (nb4.mono (Nat.le_trans (uh HB).size hb3.size)))
 have HTN : Hid (n.sure.toNat = m) := by show n.sure.toNat = m; omega
 rw [hm] at HY nb4 HT HB ⊢
 clear hb3 nb4 HL z0 z1 z2 z3 z4 z5 z6 zl RN RW HX hm HS
 go_upto_region 2 with fail
 generalize w3.alloc (.cells #[.int .i64 n.id, .bool n.up, .int .i64 n.epoch, .int .i64 n.lease, .slice an n.writes.length dn, .int .i64 (m : Int), .int .i64 n.clean] 84) = w4 at *
 have y0 := Box.at (uh HY) 0 _ rfl
 have y1 := Box.at (uh HY) 1 _ rfl
 have y2 := Box.at (uh HY) 2 _ rfl
 have y3 := Box.at (uh HY) 3 _ rfl
 have y4 := Box.at (uh HY) 4 _ rfl
 have y5 := Box.at (uh HY) 5 _ rfl
 have y6 := Box.at (uh HY) 6 _ rfl
 simp only [ga, gb, gc] at y0 y1 y2 y3 y4 y5 y6
 have yl := (uh HY).lt
 clear HY
 go_wp2_with fail
 go_ret
 exact ⟨_, rfl, by rw [hnn, uh HTN]; exact (uh HT).reads, uh HB⟩
end Go.Proofs.YtoanimpijfijgaaGreat

namespace Go.Proofs.YtoanimpijfijgaaGreat
open Go.RowKit Go.Maps
def vecR : Value → Option (DataW Unit × List MemPlace)
 | .agg cs => match cs.toList with
  | [.int .i64 a, .int .i64 b, .int .i64 c] => some (vecD [a, b, c], [])
  | _ => none
 | _ => none
theorem vecR_mk (a b c : Int) : vecR (arr3 a b c) = some (vecD [a, b, c], []) := rfl
theorem vecR_inv {v : Value} {z : DataW Unit × List MemPlace} (h : vecR v = some z) : ∃ a b c, v = arr3 a b c ∧ z = (vecD [a, b, c], []) := by
 unfold vecR at h
 split at h
 ·
  rename_i cs
  split at h
  ·
   rename_i a b c he
   cases h
   refine ⟨a, b, c, ?_, rfl⟩
   obtain ⟨l⟩ := cs
   simp only at he
   rw [he]; rfl
  cases h
 cases h
theorem keyed64 : Keyed Tryz.prog 2 := int_keyed Tryz.underlying2
theorem zeroVec (w : World) : (zeroValue 283).run Tryz.prog w = .ok (arr3 0 0 0) w := by kernel_rfl
def TabAt (w : World) (b n : Nat) (xs : List DItem) : Prop := w.ownsMap Tryz.prog 2 vecR b n (mapD xs)
theorem TabAt.ext {S : Nat → Prop} {w w' : World} {b n : Nat} {xs : List DItem} (h : TabAt w b n xs) (e : Ext S w w') (hb : ¬ S b) : TabAt w' b n xs := by
 have hlt := World.ownsMap.lt h
 obtain ⟨es, clock, hb', r⟩ := h
 exact ⟨es, clock, (e.block b hlt hb).trans hb', r⟩
theorem TabAt.later {w w' : World} {b n : Nat} {xs : List DItem} (h : TabAt w b n xs) (e : Below w.heap.size w w') : TabAt w' b n xs := h.ext (ext_of_below e nowhere) (fun h => h)
theorem TabAt.lt {w : World} {b n : Nat} {xs : List DItem} (h : TabAt w b n xs) : b < w.heap.size := World.ownsMap.lt h
theorem TabAt.mono {w : World} {b n n' : Nat} {xs : List DItem} (h : TabAt w b n xs) (hn : n ≤ n') : TabAt w b n' xs := World.ownsMap.mono h hn
theorem ext_of_turned {w w' : World} {b : Nat} (h : w.mapTurned w' b) : Ext (fun q => q = b) w w' := by
 have g := h.grown
 obtain ⟨es, clock, es', clock', hb, rfl⟩ := h
 exact ⟨rfl, rfl, rfl, by simp [ChangeMaps.setBlock], fun k hk hn => g.block k hk (fun e => hn (by simpa using e))⟩
theorem key64 {a : Int} (h : (Lit.int .i64 a).wf = true) : keyOf Tryz.prog 2 (.int .i64 a) = some (.int .i64 a) := keyOf_int_mk Tryz.underlying2 h
theorem TabAt.put {w : World} {b n : Nat} {xs : List DItem} (h : TabAt w b n xs) (hn : n < 1000) {id : Int} (hw : (Lit.int .i64 id).wf = true) (x y z : Int) :
  ∃ w', (Instr.mapUpdate 215 (.map (some b)) (.int .i64 id) (arr3 x y z)).run Tryz.prog w = .ok () w' ∧ TabAt w' b (n + 1) (putI xs id [x, y, z]) ∧ Ext (fun q => q = b) w w' := by
 obtain ⟨w', h1, h2, h3⟩ := World.ownsMap.store h keyed64 Tryz.underlying215 (by unfold maxLen; omega) (key64 hw) (vecR_mk x y z)
 rw [put_mapD] at h2
 exact ⟨w', h1, h2, ext_of_turned h3⟩
theorem TabAt.look {w : World} {b n : Nat} {xs : List DItem} (h : TabAt w b n xs) (hr : Rising xs) {id : Int} (hw : (Lit.int .i64 id).wf = true) {x : DItem} (hx : x ∈ xs) (hid : x.id = id) :
  ∃ p q r, x.vec = [p, q, r] ∧ (Instr.lookup 215 (.map (some b)) (.int .i64 id) true).run Tryz.prog w = .ok (.tuple #[arr3 p q r, .bool true]) w ∧ (Instr.lookup 215 (.map (some b)) (.int .i64 id) false).run Tryz.prog w = .ok (arr3 p q r) w := by
 subst hid
 have hh : hasI xs x.id = true := by simp only [hasI, List.any_eq_true]; exact ⟨x, hx, by simp⟩
 obtain ⟨v, ps, hrun, hv⟩ := World.ownsMap.look_ok h keyed64 Tryz.underlying215 (zeroVec w) (vecR_mk 0 0 0) (key64 hw)
 obtain ⟨v2, ps2, hrun2, hv2⟩ := World.ownsMap.lookup h keyed64 Tryz.underlying215 (zeroVec w) (vecR_mk 0 0 0) (key64 hw)
 rw [at_mapD hr hx] at hv hv2
 obtain ⟨p, q, r, rfl, e⟩ := vecR_inv hv
 obtain ⟨p2, q2, r2, rfl, e2⟩ := vecR_inv hv2
 rw [has_mapD, hh] at hrun
 have k1 : x.vec = [p, q, r] := vecD_inj (congrArg Prod.fst e)
 have k2 : x.vec = [p2, q2, r2] := vecD_inj (congrArg Prod.fst e2)
 rw [k1] at k2
 simp only [List.cons.injEq, and_true] at k2
 obtain ⟨rfl, rfl, rfl⟩ := k2
 exact ⟨p, q, r, k1, hrun, hrun2⟩
theorem TabAt.miss {w : World} {b n : Nat} {xs : List DItem} (h : TabAt w b n xs) {id : Int} (hw : (Lit.int .i64 id).wf = true) (hi : hasI xs id = false) :
  ∃ p q r, (Instr.lookup 215 (.map (some b)) (.int .i64 id) true).run Tryz.prog w = .ok (.tuple #[arr3 p q r, .bool false]) w := by
 obtain ⟨v, ps, hrun, hv⟩ := World.ownsMap.look_ok h keyed64 Tryz.underlying215 (zeroVec w) (vecR_mk 0 0 0) (key64 hw)
 have hh : Maps.has (mapD xs) (.int .i64 id) = false := by rw [has_mapD]; exact hi
 rw [Maps.atKey_of_not_has hh] at hv
 obtain ⟨p, q, r, rfl, e⟩ := vecR_inv hv
 rw [hh] at hrun
 exact ⟨p, q, r, hrun⟩
theorem TabAt.len {w : World} {b n : Nat} {xs : List DItem} (h : TabAt w b n xs) (ty : TypeId) : (Builtin.len_ #[215] ty #[.map (some b)]).run Tryz.prog w = .ok (.int .i64 xs.length) w := by
 have := World.ownsMap.len h Tryz.underlying215 ty
 rwa [size_mapD] at this
theorem tabAt_new (w : World) : TabAt (w.alloc (.map #[] 0)) w.heap.size 0 [] := World.ownsMap_made w _ _ _
end Go.Proofs.YtoanimpijfijgaaGreat

namespace Go.Proofs.YtoanimpijfijgaaGreat
open Go.RowKit
theorem vec3 {zs : List Int} (h : vecFault zs = 0) : ∃ p q r, zs = [p, q, r] := by
 have hl := (vecFault_zero h).1
 match zs, hl with
 | [p, q, r], _ => exact ⟨p, q, r, rfl⟩
end Go.Proofs.YtoanimpijfijgaaGreat

namespace Go.Proofs.YtoanimpijfijgaaGreat
open Go.RowKit Go.Maps
theorem putM_there (b n : Nat) (xs : List DItem) (id x y z : Int) (w : World) (hT : TabAt w b n xs) (hr : Rising xs) (hn : n < 1000) (hw : (Lit.int .i64 id).wf = true) (hi : hasI xs id = true) :
  Calls Tryz.prog 264 #[.map (some b), .int .i64 id, arr3 x y z] w fun e w' => e = .returned (.bool true) ∧ TabAt w' b (n + 1) (putI xs id [x, y, z]) ∧ Ext (fun q => q = b) w w' := by
 obtain ⟨a, ha, hai⟩ := hasI_true hi
 have n1 : Below w.heap.size w (w.alloc (.cells #[.int .i64 x, .int .i64 y, .int .i64 z] 283)) := (Below.refl _ _).alloc (Nat.le_refl _) _
 obtain ⟨p, q, r, -, hrun, -⟩ := (hT.later n1).look hr hw ha hai
 have n2 : Below w.heap.size w ((w.alloc (.cells #[.int .i64 x, .int .i64 y, .int .i64 z] 283)).alloc (.cells #[.int .i64 p, .int .i64 q, .int .i64 r] 283)) := n1.alloc (by simp) _
 obtain ⟨w5, hrun5, hT5, hE5⟩ := (hT.later n2).put hn hw x y z
 have HT := yh hT5
 have HE := yh ((ext_of_below n2 (fun q => q = b)).trans hE5)
 simp only [arr3] at hrun hrun5 ⊢
 clear hT5 hE5 n1 n2 hT hr ha hai hi a hw
 go_enter Tryz.func264, Tryz.ntmps264
 go_wp2_with fail
 go_ret
 exact ⟨rfl, uh HT, uh HE⟩
theorem putM_new (b n : Nat) (xs : List DItem) (id x y z : Int) (w : World) (hT : TabAt w b n xs) (hn : n < 1000) (hw : (Lit.int .i64 id).wf = true) (hi : hasI xs id = false) (hl : xs.length < 30) :
  Calls Tryz.prog 264 #[.map (some b), .int .i64 id, arr3 x y z] w fun e w' => e = .returned (.bool true) ∧ TabAt w' b (n + 1) (putI xs id [x, y, z]) ∧ Ext (fun q => q = b) w w' := by
 have n1 : Below w.heap.size w (w.alloc (.cells #[.int .i64 x, .int .i64 y, .int .i64 z] 283)) := (Below.refl _ _).alloc (Nat.le_refl _) _
 obtain ⟨p, q, r, hrun⟩ := (hT.later n1).miss hw hi
 have n2 : Below w.heap.size w ((w.alloc (.cells #[.int .i64 x, .int .i64 y, .int .i64 z] 283)).alloc (.cells #[.int .i64 p, .int .i64 q, .int .i64 r] 283)) := n1.alloc (by simp) _
 have hlen := (hT.later n2).len 3
 obtain ⟨w5, hrun5, hT5, hE5⟩ := (hT.later n2).put hn hw x y z
 have HT := yh hT5
 have HE := yh ((ext_of_below n2 (fun q => q = b)).trans hE5)
 have hd : decide ((30 : Int) ≤ (xs.length : Int)) = false := by simp; omega
 simp only [arr3] at hrun hrun5 ⊢
 clear hT5 hE5 n1 n2 hT hi hw
 go_enter Tryz.func264, Tryz.ntmps264
 go_wp2_with fail
 go_ret
 exact ⟨rfl, uh HT, uh HE⟩
theorem putM_full (b n : Nat) (xs : List DItem) (id x y z : Int) (w : World) (hT : TabAt w b n xs) (hw : (Lit.int .i64 id).wf = true) (hi : hasI xs id = false) (hl : 30 ≤ xs.length) :
  Calls Tryz.prog 264 #[.map (some b), .int .i64 id, arr3 x y z] w fun e w' => e = .returned (.bool false) ∧ Below w.heap.size w w' := by
 have n1 : Below w.heap.size w (w.alloc (.cells #[.int .i64 x, .int .i64 y, .int .i64 z] 283)) := (Below.refl _ _).alloc (Nat.le_refl _) _
 obtain ⟨p, q, r, hrun⟩ := (hT.later n1).miss hw hi
 have n2 : Below w.heap.size w ((w.alloc (.cells #[.int .i64 x, .int .i64 y, .int .i64 z] 283)).alloc (.cells #[.int .i64 p, .int .i64 q, .int .i64 r] 283)) := n1.alloc (by simp) _
 have hlen := (hT.later n2).len 3
 have HE := yh n2
 have hd : decide ((30 : Int) ≤ (xs.length : Int)) = true := by simp; omega
 simp only [arr3] at hrun ⊢
 clear n1 n2 hT hi hw
 go_enter Tryz.func264, Tryz.ntmps264
 go_wp2_with fail
 go_ret
 exact ⟨rfl, uh HE⟩
end Go.Proofs.YtoanimpijfijgaaGreat

namespace Go.Proofs.YtoanimpijfijgaaGreat
open Go.RowKit Go.Maps
theorem dropM (b n : Nat) (xs : List DItem) (id : Int) (w : World) (hT : TabAt w b n xs) (hw : (Lit.int .i64 id).wf = true) :
  Calls Tryz.prog 265 #[.map (some b), .int .i64 id] w fun e w' => e = .returned (.tuple #[]) ∧ TabAt w' b n (dropI xs id) ∧ Ext (fun q => q = b) w w' := by
 have hown : w.ownsMap Tryz.prog 2 vecR b n (mapD xs) := hT
 have hkey := key64 hw
 clear hT hw
 go_enter Tryz.func265, Tryz.ntmps265
 go_wp2_with (at_delete; refine wpList_delete_own _ rfl _ _ 215 2 rfl 283 keyed64 Tryz.underlying215 vecR b n (mapD xs) rfl hown _ _ rfl hkey ?_)
 intro w1 h1 ht
 rw [del_mapD] at h1
 have HT : Hid (TabAt w1 b n (dropI xs id)) := h1
 have HE := yh (ext_of_turned ht)
 clear h1 ht hown hkey
 go_wp2_with fail
 refine bodyPost_end (v := .tuple #[]) (by simp [results, Tryz.results265, go_sem]) rfl ?_
 exact ⟨rfl, uh HT, uh HE⟩
end Go.Proofs.YtoanimpijfijgaaGreat

namespace Go.Proofs.YtoanimpijfijgaaGreat
open Go.RowKit
theorem asPut (v : Value) (w : World) : (Instr.typeAssert (.iface 287 v) 217 287 true).run Tryz.prog w = .ok (.tuple #[v, .bool true]) w := by kernel_rfl
theorem asNoPut (v : Value) (w : World) : (Instr.typeAssert (.iface 282 v) 217 287 true).run Tryz.prog w = .ok (.tuple #[.agg #[.int .i64 0, .int .i64 0, .int .i64 0], .bool false]) w := by kernel_rfl
theorem asDrop (v : Value) (w : World) : (Instr.typeAssert (.iface 282 v) 217 282 true).run Tryz.prog w = .ok (.tuple #[v, .bool true]) w := by kernel_rfl
theorem do_put (b n : Nat) (xs : List DItem) (id x y z : Int) (w : World) (hT : TabAt w b n xs) (hR : Right xs) (hn : n < 1000) (hw : (Lit.int .i64 id).wf = true) :
  Calls Tryz.prog 204 #[.map (some b), putV x y z, .int .i64 id] w fun e w' => e = .returned (.tuple #[]) ∧ TabAt w' b (n + 1) (if roomB xs id then putI xs id [x, y, z] else xs) ∧ Ext (fun q => q = b) w w' := by
 have a1 := asPut
 have nb : Below w.heap.size w (w.alloc (.cells #[.int .i64 x, .int .i64 y, .int .i64 z] 287)) := (Below.refl _ _).alloc (Nat.le_refl _) _
 have hT1 := hT.later nb
 have L : Hid (Calls Tryz.prog 264 #[.map (some b), .int .i64 id, .agg #[.int .i64 x, .int .i64 y, .int .i64 z]] (w.alloc (.cells #[.int .i64 x, .int .i64 y, .int .i64 z] 287)) fun e w' => ∃ r, e = .returned (.bool r) ∧ TabAt w' b (n + 1) (if roomB xs id then putI xs id [x, y, z] else xs) ∧ Ext (fun q => q = b) w w') := by
  show Calls _ _ _ _ _
  cases hr : roomB xs id with
  | true =>
   rw [if_pos rfl]
   have E0 := ext_of_below nb (fun q => q = b)
   cases hh : hasI xs id with
   | true => exact (putM_there b n xs id x y z _ hT1 (tableFault_zero hR).2.2 hn hw hh).mono fun e w' ⟨h1, h2, h3⟩ => ⟨_, h1, h2, E0.trans h3⟩
   | false =>
    rcases room_true hr with h | h
    ·
     rw [hh] at h; cases h
    exact (putM_new b n xs id x y z _ hT1 hn hw hh h).mono fun e w' ⟨h1, h2, h3⟩ => ⟨_, h1, h2, E0.trans h3⟩
  | false =>
   rw [if_neg (by simp)]
   obtain ⟨h1, h2⟩ := room_false hr
   exact (putM_full b n xs id x y z _ hT1 hw h1 h2).mono fun e w' ⟨k1, k2⟩ => ⟨_, k1, (hT1.later k2).mono (by omega), (ext_of_below nb _).trans (ext_of_below k2 _)⟩
 clear hT hR hT1 nb hw
 generalize (if roomB xs id then putI xs id [x, y, z] else xs) = Y at *
 simp only [putV]
 go_enter Tryz.func204, Tryz.ntmps204
 go_wp2_with fail
 refine (uh L).mono ?_
 rintro e w1 ⟨r, rfl, hT, hE⟩
 have HT := yh hT
 have HE := yh hE
 clear hT hE L
 go_wp2_with fail
 refine bodyPost_end (v := .tuple #[]) (by simp [results, Tryz.results204, go_sem]) rfl ?_
 exact ⟨rfl, uh HT, uh HE⟩
theorem do_drop (b n : Nat) (xs : List DItem) (id : Int) (w : World) (hT : TabAt w b n xs) (hw : (Lit.int .i64 id).wf = true) :
  Calls Tryz.prog 204 #[.map (some b), dropV, .int .i64 id] w fun e w' => e = .returned (.tuple #[]) ∧ TabAt w' b (n + 1) (dropI xs id) ∧ Ext (fun q => q = b) w w' := by
 have a1 := asNoPut
 have a2 := asDrop
 have nb : ∀ o, Below w.heap.size w (w.alloc o) := fun o => (Below.refl _ _).alloc (Nat.le_refl _) _
 have L : Hid (∀ o, Calls Tryz.prog 265 #[.map (some b), .int .i64 id] (w.alloc o) fun e w' => e = .returned (.tuple #[]) ∧ TabAt w' b (n + 1) (dropI xs id) ∧ Ext (fun q => q = b) w w') := fun o =>
  (dropM b n xs id _ (hT.later (nb o)) hw).mono fun e w' ⟨h1, h2, h3⟩ => ⟨h1, h2.mono (by omega), (ext_of_below (nb o) _).trans h3⟩
 clear hT hw nb
 simp only [dropV]
 go_enter Tryz.func204, Tryz.ntmps204
 go_wp2_with fail
 refine (uh L _).mono ?_
 rintro e w1 ⟨rfl, hT, hE⟩
 have HT := yh hT
 have HE := yh hE
 clear hT hE L
 go_wp2_with fail
 refine bodyPost_end (v := .tuple #[]) (by simp [results, Tryz.results204, go_sem]) rfl ?_
 exact ⟨rfl, uh HT, uh HE⟩
theorem doC (b n : Nat) (xs : List DItem) (x : DWrite) (w : World) (hT : TabAt w b n xs) (hR : Right xs) (hn : n < 1000) (hx : wF x = 0) :
  Calls Tryz.prog 204 #[.map (some b), deedV x.kind x.vec, .int .i64 x.id] w fun e w' => e = .returned (.tuple #[]) ∧ TabAt w' b (n + 1) (applyI xs x) ∧ Ext (fun q => q = b) w w' := by
 obtain ⟨hi, -, -, hk⟩ := writeFault_zero hx
 have hw := id_wf (idB_of hi)
 rcases hk with ⟨h1, hv⟩ | ⟨h2, -⟩
 ·
  obtain ⟨p, q, r, e⟩ := vec3 hv
  rw [deedV, if_pos h1, applyI, if_neg (by omega), e]
  exact do_put b n xs x.id p q r w hT hR hn hw
 rw [deedV, if_neg (by omega), applyI, if_pos h2]
 exact do_drop b n xs x.id w hT hw
end Go.Proofs.YtoanimpijfijgaaGreat

namespace Go.Proofs
open Go.Shelf
def Tryz.keys267_ren : Go.Shelf.Ren := ⟨fun | 7 => 267 | 10 => 299 | n => n, fun | 23 => 215 | 26 => 2 | 3 => 283 | 28 => 292 | 0 => 0 | 27 => 291 | 33 => 119 | 4 => 4 | n => n, fun | n => n⟩
theorem Tryz.keys267 : Go.Proofs.SlLaysZI.n7 Tryz.prog Tryz.keys267_ren := {
 mixed := by kernel_rfl
 f7 := ⟨Tryz.f267.name, by decide, Tryz.func267.trans (congrArg some (by kernel_rfl))⟩
 f10 := ⟨Tryz.f299.name, by decide, Tryz.func299.trans (congrArg some (by kernel_rfl))⟩
 t0 := Tryz.underlying0
 a0 := Tryz.isAgg0
 z0 := Tryz.sizeOf0
 v0 := Tryz.zeroValue0
 t4 := Tryz.underlying4
 a4 := Tryz.isAgg4
 z4 := Tryz.sizeOf4
 v4 := Tryz.zeroValue4
 t23 := Tryz.underlying215
 a23 := Tryz.isAgg215
 z23 := Tryz.sizeOf215
 v23 := Tryz.zeroValue215
 t26 := Tryz.underlying2
 a26 := Tryz.isAgg2
 z26 := Tryz.sizeOf2
 v26 := Tryz.zeroValue2
 t27 := Tryz.underlying291
 a27 := Tryz.isAgg291
 z27 := Tryz.sizeOf291
 v27 := Tryz.zeroValue291
 t28 := Tryz.underlying292
 a28 := Tryz.isAgg292
 z28 := Tryz.sizeOf292
 v28 := Tryz.zeroValue292
 t33 := Tryz.underlying119
 a33 := Tryz.isAgg119
 z33 := Tryz.sizeOf119
 v33 := Tryz.zeroValue119 }
def Tryz.sorted266_ren : Go.Shelf.Ren := ⟨fun | 6 => 266 | 8 => 297 | 9 => 298 | 11 => 318 | 13 => 320 | 12 => 319 | 23 => 336 | 24 => 337 | 14 => 327 | 15 => 328 | 16 => 329 | 17 => 330 | 18 => 331 | 19 => 332 | 20 => 333 | 21 => 334 | 22 => 335 | 25 => 339 | 26 => 340 | 27 => 341 | 28 => 342 | 29 => 343 | 30 => 344 | 31 => 347 | n => n, fun | 26 => 2 | 28 => 292 | 24 => 22 | 0 => 0 | 3 => 3 | 37 => 342 | 48 => 358 | 50 => 180 | 4 => 4 | 40 => 351 | 39 => 350 | 45 => 355 | 5 => 5 | 9 => 9 | 51 => 361 | 55 => 365 | 57 => 368 | 58 => 369 | 33 => 119 | n => n, fun | n => n⟩
theorem Tryz.sorted266 : Go.Proofs.SlLaysZI.n6 Tryz.prog Tryz.sorted266_ren := {
 mixed := by kernel_rfl
 f6 := ⟨Tryz.f266.name, by decide, Tryz.func266.trans (congrArg some (by kernel_rfl))⟩
 f8 := ⟨Tryz.f297.name, by decide, Tryz.func297.trans (congrArg some (by kernel_rfl))⟩
 f11 := ⟨Tryz.f318.name, by decide, Tryz.func318.trans (congrArg some (by kernel_rfl))⟩
 t0 := Tryz.underlying0
 a0 := Tryz.isAgg0
 z0 := Tryz.sizeOf0
 v0 := Tryz.zeroValue0
 t24 := Tryz.underlying22
 a24 := Tryz.isAgg22
 z24 := Tryz.sizeOf22
 v24 := Tryz.zeroValue22
 t26 := Tryz.underlying2
 a26 := Tryz.isAgg2
 z26 := Tryz.sizeOf2
 v26 := Tryz.zeroValue2
 t28 := Tryz.underlying292
 a28 := Tryz.isAgg292
 z28 := Tryz.sizeOf292
 v28 := Tryz.zeroValue292
 i26 := by kernel_rfl }
def Tryz.sort298_ren : Go.Shelf.Ren := ⟨fun | 5 => 298 | 8 => 320 | 7 => 319 | 19 => 336 | 20 => 337 | 10 => 327 | 11 => 328 | 12 => 329 | 13 => 330 | 14 => 331 | 15 => 332 | 16 => 333 | 17 => 334 | 18 => 335 | 30 => 339 | 31 => 340 | 32 => 341 | 33 => 342 | 34 => 343 | 35 => 344 | 40 => 347 | n => n, fun | 23 => 22 | 25 => 2 | 3 => 3 | 32 => 342 | 22 => 22 | 0 => 0 | 44 => 358 | 46 => 180 | 4 => 4 | 36 => 351 | 35 => 350 | 41 => 355 | 5 => 5 | 9 => 9 | 53 => 361 | 57 => 365 | 63 => 368 | 64 => 369 | n => n, fun | n => n⟩
theorem Tryz.sort298 : Go.Proofs.SlLaysM.n5 Tryz.prog Tryz.sort298_ren := {
 mixed := by kernel_rfl
 f5 := ⟨Tryz.f298.name, by decide, Tryz.func298.trans (congrArg some (by kernel_rfl))⟩
 f7 := ⟨Tryz.f319.name, by decide, Tryz.func319.trans (congrArg some (by kernel_rfl))⟩
 f8 := Tryz.func320.trans (congrArg some (by kernel_rfl))
 f10 := ⟨Tryz.f327.name, by decide, Tryz.func327.trans (congrArg some (by kernel_rfl))⟩
 f11 := ⟨Tryz.f328.name, by decide, Tryz.func328.trans (congrArg some (by kernel_rfl))⟩
 f12 := ⟨Tryz.f329.name, by decide, Tryz.func329.trans (congrArg some (by kernel_rfl))⟩
 f13 := ⟨Tryz.f330.name, by decide, Tryz.func330.trans (congrArg some (by kernel_rfl))⟩
 f14 := ⟨Tryz.f331.name, by decide, Tryz.func331.trans (congrArg some (by kernel_rfl))⟩
 f15 := ⟨Tryz.f332.name, by decide, Tryz.func332.trans (congrArg some (by kernel_rfl))⟩
 f16 := ⟨Tryz.f333.name, by decide, Tryz.func333.trans (congrArg some (by kernel_rfl))⟩
 f17 := ⟨Tryz.f334.name, by decide, Tryz.func334.trans (congrArg some (by kernel_rfl))⟩
 f18 := ⟨Tryz.f335.name, by decide, Tryz.func335.trans (congrArg some (by kernel_rfl))⟩
 f19 := Tryz.func336.trans (congrArg some (by kernel_rfl))
 f20 := Tryz.func337.trans (congrArg some (by kernel_rfl))
 f30 := ⟨Tryz.f339.name, by decide, Tryz.func339.trans (congrArg some (by kernel_rfl))⟩
 f31 := Tryz.func340.trans (congrArg some (by kernel_rfl))
 f32 := Tryz.func341.trans (congrArg some (by kernel_rfl))
 f33 := ⟨Tryz.f342.name, by decide, Tryz.func342.trans (congrArg some (by kernel_rfl))⟩
 f34 := ⟨Tryz.f343.name, by decide, Tryz.func343.trans (congrArg some (by kernel_rfl))⟩
 f35 := ⟨Tryz.f344.name, by decide, Tryz.func344.trans (congrArg some (by kernel_rfl))⟩
 f40 := ⟨Tryz.f347.name, by decide, Tryz.func347.trans (congrArg some (by kernel_rfl))⟩
 t0 := Tryz.underlying0
 a0 := Tryz.isAgg0
 z0 := Tryz.sizeOf0
 v0 := Tryz.zeroValue0
 t3 := Tryz.underlying3
 a3 := Tryz.isAgg3
 z3 := Tryz.sizeOf3
 v3 := Tryz.zeroValue3
 t4 := Tryz.underlying4
 a4 := Tryz.isAgg4
 z4 := Tryz.sizeOf4
 v4 := Tryz.zeroValue4
 t5 := Tryz.underlying5
 a5 := Tryz.isAgg5
 z5 := Tryz.sizeOf5
 v5 := Tryz.zeroValue5
 t9 := Tryz.underlying9
 a9 := Tryz.isAgg9
 z9 := Tryz.sizeOf9
 v9 := Tryz.zeroValue9
 t22 := Tryz.underlying22
 a22 := Tryz.isAgg22
 z22 := Tryz.sizeOf22
 v22 := Tryz.zeroValue22
 t23 := Tryz.underlying22
 a23 := Tryz.isAgg22
 z23 := Tryz.sizeOf22
 v23 := Tryz.zeroValue22
 t25 := Tryz.underlying2
 a25 := Tryz.isAgg2
 z25 := Tryz.sizeOf2
 v25 := Tryz.zeroValue2
 t32 := Tryz.underlying342
 a32 := Tryz.isAgg342
 z32 := Tryz.sizeOf342
 v32 := Tryz.zeroValue342
 t35 := Tryz.underlying350
 a35 := Tryz.isAgg350
 z35 := Tryz.sizeOf350
 v35 := Tryz.zeroValue350
 t36 := Tryz.underlying351
 a36 := Tryz.isAgg351
 z36 := Tryz.sizeOf351
 v36 := Tryz.zeroValue351
 t41 := Tryz.underlying355
 a41 := Tryz.isAgg355
 z41 := Tryz.sizeOf355
 v41 := Tryz.zeroValue355
 t44 := Tryz.underlying358
 a44 := Tryz.isAgg358
 z44 := Tryz.sizeOf358
 v44 := Tryz.zeroValue358
 t46 := Tryz.underlying180
 a46 := Tryz.isAgg180
 z46 := Tryz.sizeOf180
 v46 := Tryz.zeroValue180
 t53 := Tryz.underlying361
 a53 := Tryz.isAgg361
 z53 := Tryz.sizeOf361
 v53 := Tryz.zeroValue361
 t57 := Tryz.underlying365
 a57 := Tryz.isAgg365
 z57 := Tryz.sizeOf365
 v57 := Tryz.zeroValue365
 t63 := Tryz.underlying368
 a63 := Tryz.isAgg368
 z63 := Tryz.sizeOf368
 v63 := Tryz.zeroValue368
 t64 := Tryz.underlying369
 a64 := Tryz.isAgg369
 z64 := Tryz.sizeOf369
 v64 := Tryz.zeroValue369 }
end Go.Proofs

namespace Go.Proofs.YtoanimpijfijgaaGreat
open Go.RowKit Go.Maps Go.Sort Go.Shelf
theorem sorts64 (m : Nat) : AnyZI.SortsIn Tryz.prog Tryz.sorted266_ren Fence.wide m :=
 ⟨fun blk off cap ss W hH hblk hsz => callsIn_wide.2 (AnyM.slices_Sort_int Tryz.sort298 blk off cap ss W hH hblk hsz),
  fun p cap W => callsIn_wide.2 (AnyM.slices_Sort_int_none Tryz.sort298 p cap W)⟩
theorem mapKeys (mb : Option Nat) (W : World) : Calls Tryz.prog 267 #[.map mb] W fun e w' => e = .returned (.func (.func 299) #[] #[.pointer (some ⟨W.heap.size, 0, none⟩)]) ∧ w' = W.alloc (.cells #[.map mb] 215) :=
 (callsIn_wide (n := 5)).1 (AnyZI.keys_in Tryz.keys267 Fence.wide 5 trivial rfl mb W)
theorem sortedKeys (b n : Nat) (xs : List DItem) (w : World) (hT : TabAt w b n xs) (hx : xs.length ≤ 1000) :
  Calls Tryz.prog 266 #[.func (.func 299) #[] #[.pointer (some ⟨w.heap.size, 0, none⟩)]] (w.alloc (.cells #[.map (some b)] 215)) fun e w' => ∃ (v : Value) (ss : List Int), e = .returned v ∧ ss.Perm (intKeys (mapD xs)) ∧
   w'.ownsRow (w.alloc (.cells #[.map (some b)] 215)).heap.size 2 1 v ss.length ((ss.mergeSort (fun x y => decide (x ≤ y))).map encZ) ∧ Below (w.alloc (.cells #[.map (some b)] 215)).heap.size (w.alloc (.cells #[.map (some b)] 215)) w' := by
 have hown : w.ownsMap Tryz.prog 2 vecR b n (mapD xs) := hT
 have hbl := hown.lt
 have hmax : Maps.size (mapD xs) ≤ maxLen := by rw [size_mapD]; unfold maxLen; omega
 have hbytes : Maps.size (mapD xs) * 8 ≤ 140737488355328 := by rw [size_mapD]; omega
 have hseq : SeqGives Fence.wide 2 Tryz.prog 299 #[.pointer (some ⟨w.heap.size, 0, none⟩)] encZ (fun ss => ss.Perm (intKeys (mapD xs))) (Maps.size (mapD xs)) (w.alloc (.cells #[.map (some b)] 215)) :=
  AnyZI.keys_gives (ρ := Tryz.keys267_ren) { Tryz.keys267 with } Fence.wide _ trivial rfl (by omega) w.heap.size b n (mapD xs) _ (by simp) (by simp) (by
   obtain ⟨es, clock, hb, Ft, hs, hD⟩ := hown
   exact ⟨es, clock, (Below.heap_alloc _ _ b hbl).trans hb, Ft, hs, hD⟩)
 have cS := AnyZI.sorted_in Tryz.sorted266 Fence.wide 5 trivial trivial trivial trivial rfl (by omega) (sorts64 _) (enters_of Tryz.func298 (by kernel_rfl) rfl) 299 #[.pointer (some ⟨w.heap.size, 0, none⟩)] trivial (enters_of Tryz.func299 (by kernel_rfl) rfl) _ _ hmax hbytes _ hseq
 change CallsIn _ _ Tryz.prog 266 _ _ _ at cS
 refine ((callsIn_wide (n := 5)).1 cS).mono ?_
 rintro e w' ⟨v, ss, rfl, hS, hrow, -, hb⟩
 exact ⟨v, ss, rfl, hS, hrow, hb⟩
theorem encZ_eq : encZ = Value.int .i64 := rfl
theorem intKeys_mapD (xs : List DItem) : intKeys (mapD xs) = xs.map (·.id) := by
 simp only [intKeys, mapD, mapL, List.map_map]
 exact List.map_congr_left fun _ _ => rfl
theorem sort_ids {xs : List DItem} (h : Rising xs) {ss : List Int} (hp : ss.Perm (xs.map (·.id))) : ss.mergeSort (fun x y => decide (x ≤ y)) = xs.map (·.id) := by
 have tr : ∀ a b c : Int, decide (a ≤ b) = true → decide (b ≤ c) = true → decide (a ≤ c) = true := fun a b c h1 h2 => by simp only [decide_eq_true_eq] at *; omega
 have tot : ∀ a b : Int, (decide (a ≤ b) || decide (b ≤ a)) = true := fun a b => by simp only [Bool.or_eq_true, decide_eq_true_eq]; omega
 refine List.Perm.eq_of_pairwise (le := fun a b => decide (a ≤ b) = true) (fun a b _ _ h1 h2 => ?_) (List.pairwise_mergeSort tr tot ss) ?_ ((List.mergeSort_perm ss _).trans hp)
 ·
  simp only [decide_eq_true_eq] at h1 h2
  omega
 refine List.pairwise_map.2 (h.imp fun {a b} hab => ?_)
 simp only [decide_eq_true_eq]
 omega
end Go.Proofs.YtoanimpijfijgaaGreat

namespace Go.Proofs.YtoanimpijfijgaaGreat
open Go.RowKit Go.Maps
theorem grown_of_ext {r : Option Nat} {w w' : World} (e : Ext (fun q => r = some q) w w') : w.grownBy w' r :=
 ⟨e.os, e.tape, e.output, e.size, fun i hi hn => e.block i hi fun h => hn h.symm⟩
theorem own_snoc {w w' : World} {base : Nat} {bls : List (List Nat)} {bl : List Nat} (hn : bls.flatten.Nodup) (hs : ∀ b ∈ bls.flatten, base ≤ b ∧ ∀ o, w.frozen? ⟨b, o, none⟩ = false) (hlt : ∀ b ∈ bls.flatten, b < w.heap.size)
  (hn2 : bl.Nodup) (hs2 : ∀ b ∈ bl, w.heap.size ≤ b ∧ ∀ o, w'.frozen? ⟨b, o, none⟩ = false) (hb : base ≤ w.heap.size) (hk : ∀ b ∈ bls.flatten, w'.heap[b]? = w.heap[b]?) :
  (bls ++ [bl]).flatten.Nodup ∧ ∀ b ∈ (bls ++ [bl]).flatten, base ≤ b ∧ ∀ o, w'.frozen? ⟨b, o, none⟩ = false := by
 refine ⟨?_, ?_⟩
 ·
  rw [List.flatten_append, List.nodup_append]
  refine ⟨hn, by simpa using hn2, fun a ha c hc e => ?_⟩
  have := hlt a ha
  have := (hs2 c (by simpa using hc)).1
  omega
 intro b hm
 rw [List.flatten_append] at hm
 rcases List.mem_append.1 hm with hm | hm
 ·
  exact ⟨(hs b hm).1, fun o => (frozen_of_heap (hk b hm) o).trans ((hs b hm).2 o)⟩
 have h2 := hs2 b (by simpa using hm)
 exact ⟨by omega, h2.2⟩
theorem itemsC (b n : Nat) (xs : List DItem) (w : World) (hT : TabAt w b n xs) (hR : Right xs) :
  Calls Tryz.prog 205 #[.map (some b)] w fun e w' => ∃ v, e = .returned v ∧ (Lay.sl Lay.tItem).OwnIn w' [v] xs w.heap.size w'.heap.size ∧ Below w.heap.size w w' := by
 obtain ⟨hlen, hall, hris⟩ := tableFault_zero hR
 have hbw := hT.lt
 have hown : w.ownsMap Tryz.prog 2 vecR b n (mapD xs) := hT
 obtain ⟨i0, hi, hz0, hz1, hz2⟩ := info_parts infoAppItem
 have HT := yh hT
 have HA := yh hall
 have HI := yh hris
 have hsz : Maps.size (mapD xs) = xs.length := size_mapD xs
 clear hT hall hris hR
 go_enter Tryz.func205, Tryz.ntmps205
 go_wp2_with (first
  | (at_len; refine wpList_len_own _ rfl _ 215 rfl 2 283 Tryz.underlying215 vecR b n (mapD xs) rfl hown ?_; rw [hsz])
  | (at_make; refine wpList_make_own _ rfl _ _ 64 rfl w.heap.size 125 i0 _ 2 Tryz.underlying64 hi hz0 hz1 .i64 .i64 _ xs.length rfl rfl rfl (by rw [hz2]; omega) (by unfold maxLen; omega) (Nat.le_refl _) ?_))
 clear hown hsz
 intro w1 hown1 hg1
 have hB1 : Below w.heap.size w w1 := (Below.refl _ _).grown hg1 (Nat.le_refl _) (by simp)
 have hz1' : w.heap.size < w1.heap.size := (hown1.lt w.heap.size rfl).2
 have hT1 := (uh HT).later hB1
 have LS := sortedKeys b n xs w1 hT1 (by omega)
 have hB2 : Below w1.heap.size w1 (w1.alloc (.cells #[.map (some b)] 215)) := (Below.refl _ _).alloc (Nat.le_refl _) _
 have HT2 := yh (hT1.later hB2)
 have HG2 := yh ((Grow.nil (A := Lay.tItem) hown1).later hB2)
 have HB2 := yh (hB1.trans (hB2.mono hB1.size))
 have HLS := yh LS
 clear hown1 hg1 hB1 hT1 hB2 LS HT hi hz0 hz1 hz2
 go_wp2_with fail
 refine (mapKeys (some b) w1).mono ?_
 rintro e w2 ⟨rfl, rfl⟩
 go_wp2_with fail
 refine (uh HLS).mono ?_
 generalize w1.alloc (.cells #[.map (some b)] 215) = W2 at *
 rintro e w3 ⟨sv, ss, rfl, hS, hrow, hb⟩
 rw [intKeys_mapD] at hS
 have hsl : ss.length = xs.length := by rw [hS.length_eq, List.length_map]
 rw [sort_ids (uh HI) hS, encZ_eq, hsl] at hrow
 have hT3 := (uh HT2).later hb
 have hG3 := (uh HG2).later hb
 have hB3 := (uh HB2).trans (hb.mono (uh HB2).size)
 have hov : w.heap.size < W2.heap.size := by have := ((uh HG2).own.lt w.heap.size rfl).2; omega
 clear hS HLS HT2 HG2 HB2 hb hsl ss
 by_cases hp : 0 < xs.length
 ·
  obtain ⟨sg, cap, rfl, hsg, hsgl⟩ : ∃ sg cap, sv = .slice (some ⟨sg, 0, none⟩) xs.length cap ∧ W2.heap.size ≤ sg ∧ sg < w3.heap.size := by
   rcases hrow.2 with ⟨-, h0⟩ | ⟨g, cap, cur, rfl, hg, hh, -⟩
   ·
    omega
   exact ⟨g, cap, rfl, hg, lt_of_block hh⟩
  have HT3 := yh hT3
  have HG3 := yh hG3
  have HB3 := yh hB3
  have HROW := yh hrow
  clear hT3 hG3 hB3 hrow
  have hbig : xs.length ≤ 30 := hlen
  go_wp2_with fail
  go_loopw [3, 13] (fun v i wr => ∃ (k : Nat) (rows : List (List Value)) (bls : List (List Nat)), k ≤ xs.length ∧ i = .int .i64 k ∧ Grow Lay.tItem wr w.heap.size 125 v rows (xs.take k) bls ∧
    (bls.flatten.Nodup ∧ ∀ b ∈ bls.flatten, w.heap.size ≤ b ∧ ∀ o, wr.frozen? ⟨b, o, none⟩ = false) ∧ wr.ownsRow W2.heap.size 2 1 (.slice (some ⟨sg, 0, none⟩) xs.length cap) xs.length ((xs.map (·.id)).map (Value.int .i64)) ∧ v.ownBlock ≠ some sg ∧ TabAt wr b n xs ∧ Below w.heap.size w wr) (fun _ i _ => xs.length - (intOf i).toNat)
  case atStart =>
   exact ⟨0, [], [], Nat.zero_le _, rfl, uh HG3, ⟨by simp, by simp⟩, uh HROW, fun e => by simp [Value.ownBlock] at e; omega, uh HT3, uh HB3⟩
  case round =>
   obtain ⟨k, rows, bls, hk, rfl, hG, ⟨hnd, hsf⟩, hrow, hne, hT, hB⟩ := hrel
   clear HT3 HG3 HB3 HROW
   by_cases hlt : k < xs.length
   ·
    have hc : wr.cell? ⟨sg, k, none⟩ = some (.int .i64 xs[k].id) := by
     rw [hrow.cellAt k (by omega)]
     simp [hlt]
    obtain ⟨hid, hvf⟩ := uh HA xs[k] (List.getElem_mem hlt)
    obtain ⟨p, q, r, hv3, -, hrun⟩ := hT.look (uh HI) (id_wf hid) (List.getElem_mem hlt) rfl
    have HTK : Hid (xs.take (k + 1) = xs.take k ++ [xs[k]]) := List.take_succ_eq_append_getElem hlt
    have HL : Hid ((xs.take k).length = k) := by show (xs.take k).length = k; rw [List.length_take]; omega
    generalize hx : xs[k] = x at *
    clear hx
    rw [hv3] at hvf
    obtain ⟨⟨b1, b2⟩, ⟨b3, b4⟩, b5, b6⟩ := fault3 hvf
    have HWF : Hid (∀ z ∈ [p, q, r], (Lit.int .i64 z).wf = true) := by
     show ∀ z ∈ [p, q, r], (Lit.int .i64 z).wf = true
     intro z hz
     simp only [List.mem_cons, List.not_mem_nil, or_false] at hz
     rcases hz with rfl | rfl | rfl <;> exact wf_of_bd (by omega)
    have LL := listOwn p q r wr (uh HWF)
    simp only [arr3] at hrun LL
    have HLL := yh LL
    have hwi := id_wf hid
    have HWI := yh hwi
    have HV3 := yh hv3
    have HG := yh hG
    have HND := yh hnd
    have HSF := yh hsf
    have HROW := yh hrow
    have HNE := yh hne
    have HT := yh hT
    have HB := yh hB
    clear hG hnd hsf hrow hne hT hB hid hvf b1 b2 b3 b4 b5 b6 LL hwi hv3
    go_wp2_with fail
    refine (uh HLL).mono ?_
    rintro e w4 ⟨g2, rfl, hO, hb4⟩
    obtain ⟨bl2, ⟨hl2, hn2, hf2⟩, hr2⟩ := hO
    have hG4 := (uh HG).later hb4
    have hz4 := hb4.size
    have hB4 := (uh HB).trans (hb4.mono (uh HB).size)
    have hlies : Lay.tItem.lies w4 [.int .i64 x.id, .slice (some ⟨g2, 0, none⟩) 3 3] x bl2 := by
     refine lies_Item.2 ⟨some ⟨g2, 0, none⟩, 3, bl2, by rw [uh HV3]; rfl, rfl, uh HWI, ?_⟩
     rw [uh HV3]; exact hl2
    have hoff : ∀ c ∈ bl2, u3.ownBlock ≠ some c := fun c hc e => by have h1 := hr2 c hc; have h2 := ((uh HG).own.lt c e).2; omega
    have HSN := yh (own_snoc (w' := w4) (uh HND) (uh HSF) (uh HG).sub_lt hn2 (fun c hc => ⟨(hr2 c hc).1, hf2 c hc⟩) (uh HB).size (fun c hc => hb4.block c ((uh HG).sub_lt c hc)))
    have HROW4 := yh (own_below (uh HROW) hb4)
    have HT4 := yh ((uh HT).later hb4)
    have hkl := uh HL
    have HLO := yh hoff
    have HLT : Hid (∀ c ∈ (bls ++ [bl2]).flatten, u3.ownBlock ≠ some c) := by
     intro c hc
     rw [List.flatten_append] at hc
     rcases List.mem_append.1 hc with hc | hc
     ·
      exact (uh HG).off c hc
     exact uh HLO c (by simpa using hc)
    have HLS : Hid (∀ c ∈ (bls ++ [bl2]).flatten, c < w4.heap.size) := by
     intro c hc
     rw [List.flatten_append] at hc
     rcases List.mem_append.1 hc with hc | hc
     ·
      have := (uh HG).sub_lt c hc; omega
     have := (hr2 c (by simpa using hc)).2; omega
    have HB4 := yh hB4
    have HZ : Hid (w.heap.size ≤ w4.heap.size) := hB4.size
    have HSG : Hid (sg < w4.heap.size) := by show sg < w4.heap.size; have := (uh HROW).lt sg rfl; omega
    clear HLL hb4 hl2 hn2 hf2 hr2 hB4 HND HSF HROW HT HB HWF HWI HV3 hrun hc
    go_wp2_with (at_builtin; refine wpList_append_Item hG4 hlies hoff rfl _ _ rfl rfl rfl (by omega) (uh HZ) ?_)
    rintro g5 cp5 w5 hG5 hb5 hE5 hl5 hz5 hor
    clear hG4 hlies hoff hkl
    have HG5 := yh hG5
    have HB5 := yh ((uh HB4).trans hb5)
    have HT5 := yh ((uh HT4).ext hE5 (fun e => by have := ((uh HG).own.lt b e).1; omega))
    have HROW5 := yh ((uh HROW4).kept (grown_of_ext hE5) (Or.inr (fun e => uh HNE e.symm)))
    have HNE5 : Hid (some g5 ≠ some sg) := by
     intro e
     have e1 : g5 = sg := by simpa using e
     rcases hor with h | h
     ·
      exact uh HNE (by rw [h, e1])
     have := uh HSG; omega
    have HSN5 : Hid ((bls ++ [bl2]).flatten.Nodup ∧ ∀ c ∈ (bls ++ [bl2]).flatten, w.heap.size ≤ c ∧ ∀ o, w5.frozen? ⟨c, o, none⟩ = false) := by
     obtain ⟨s1, s2⟩ := uh HSN
     exact ⟨s1, fun c hc => ⟨(s2 c hc).1, fun o => (frozen_of_heap (hE5.block c (uh HLS c hc) (uh HLT c hc)) o).trans ((s2 c hc).2 o)⟩⟩
    clear hG5 hb5 hE5 hor HB4 HT4 HROW4 HSN HG HNE HLT HLS HLO
    go_wp2_with fail
    go_roundw
    case rel =>
     have hg := uh HG5
     rw [← uh HTK] at hg
     exact ⟨k + 1, _, _, by omega, by go_num, hg, uh HSN5, uh HROW5, uh HNE5, uh HT5, uh HB5⟩
    case measure => simp [intOf]; omega
   obtain rfl : k = xs.length := by omega
   rw [List.take_length] at hG
   have HO := yh (hG.toOwn (by omega) hnd hsf)
   have HB := yh hB
   clear hG hB hnd hsf hrow hne hT
   go_wp2_with fail
   go_ret
   exact ⟨_, rfl, uh HO, uh HB⟩
 obtain rfl : xs = [] := List.eq_nil_of_length_eq_zero (by omega)
 have HO := yh (hG3.toOwn (by simp) (by simp) (by simp))
 have HB := yh hB3
 have hsv : ∃ ao cap, sv = .slice ao 0 cap := by
  rcases hrow.2 with ⟨rfl, -⟩ | ⟨g, cap, cur, rfl, -⟩
  ·
   exact ⟨none, 0, rfl⟩
  exact ⟨_, cap, rfl⟩
 obtain ⟨ao, cap, rfl⟩ := hsv
 clear hG3 hB3 hT3 hrow hp
 go_wp2_with fail
 refine wp_loop_rounds 1 ?_
 rw [rounds_succ]
 go_wp2_with fail
 go_ret
 exact ⟨_, rfl, uh HO, uh HB⟩
end Go.Proofs.YtoanimpijfijgaaGreat

namespace Go.Proofs.YtoanimpijfijgaaGreat
open Go.RowKit
theorem implTOf_pos (b off cap : Nat) (ws : List DWrite) (w : World) (h : (Lay.sl Lay.tWrite).Reads w [.slice (some ⟨b, off, none⟩) ws.length cap] ws) (hbl : b < w.heap.size) (hn : ws.length ≤ 200) :
  Calls Tryz.prog 119 #[.slice (some ⟨b, off, none⟩) ws.length cap] w fun e w' => ∃ cs, e = .returned (.agg cs.toArray) ∧ Lay.tTableResult.OwnIn w' cs (tableOfR ws) w.heap.size w'.heap.size ∧ Below w.heap.size w w' := by
 have HW : Hid (writesF ws = wsFrom ws) := by show writesF ws = wsFrom ws; rw [writesF, if_neg (by omega)]
 have HB0 : Below w.heap.size w (w.alloc (.cells #[.int .i64 0, .slice none 0 0] 66)) := (Below.refl _ _).alloc (Nat.le_refl _) _
 have bR : Box w.heap.size #[.int .i64 0, .slice none 0 0] 66 (w.alloc (.cells #[.int .i64 0, .slice none 0 0] 66)) w.heap.size := newBox (Nat.le_refl _)
 have H := yh h
 clear h
 have nb : Below (w.alloc (.cells #[.int .i64 0, .slice none 0 0] 66)).heap.size (w.alloc (.cells #[.int .i64 0, .slice none 0 0] 66)) ((w.alloc (.cells #[.int .i64 0, .slice none 0 0] 66)).alloc (.map #[] 0)) := (Below.refl _ _).alloc (Nat.le_refl _) _
 have HT0 := yh (tabAt_new (w.alloc (.cells #[.int .i64 0, .slice none 0 0] 66)))
 have HBB := yh (HB0.trans (nb.mono HB0.size))
 have HRR := yh (bR.keep nb)
 have hQ : (w.alloc (.cells #[.int .i64 0, .slice none 0 0] 66)).heap.size = w.heap.size + 1 := by simp
 rw [hQ] at HT0
 clear HB0 bR nb hQ
 have hmk := @run_makeMap Tryz.prog
 go_enter Tryz.func119, Tryz.ntmps119
 go_wp2_with fail
 clear hmk
 go_loopw [15] (fun i wr => ∃ k : Nat, k ≤ ws.length ∧ i = .int .i64 k ∧ (∀ j (hj : j < ws.length), j < k → wF ws[j] = 0) ∧ TabAt wr (w.heap.size + 1) k (ofI (ws.take k)) ∧ Box w.heap.size #[.int .i64 0, .slice none 0 0] 66 wr w.heap.size ∧ Below w.heap.size w wr) (fun i _ => ws.length - (intOf i).toNat)
 case atStart => exact ⟨0, Nat.zero_le _, rfl, fun j _ hj => by omega, uh HT0, uh HRR, uh HBB⟩
 case round =>
  obtain ⟨k, hk, rfl, hz, hT, bR, hB⟩ := hrel
  clear HT0 HRR HBB
  by_cases hlt : k < ws.length
  ·
   obtain ⟨row, hc, hr⟩ := Lay.row_at (uh H) hlt
   replace hr := hr.later hB
   obtain ⟨a2, d2, rfl, R2⟩ := open_Write hr
   have c0 : wr.cell? ⟨b, off + k * 5, none⟩ = some (.int .i64 (ws[k]).kind) := (hB.cell (p := ⟨b, off + k * 5, none⟩) hbl).trans (hc 0 (by decide))
   have c1 : wr.cell? ⟨b, off + k * 5 + 1, none⟩ = some (.int .i64 (ws[k]).id) := (hB.cell (p := ⟨b, off + k * 5 + 1, none⟩) hbl).trans (hc 1 (by decide))
   have c2 : wr.cell? ⟨b, off + k * 5 + 2, none⟩ = some (.slice a2 (ws[k]).vec.length d2) := (hB.cell (p := ⟨b, off + k * 5 + 2, none⟩) hbl).trans (hc 2 (by decide))
   have c3 : wr.cell? ⟨b, off + k * 5 + 3, none⟩ = some (.int .i64 (ws[k]).session) := (hB.cell (p := ⟨b, off + k * 5 + 3, none⟩) hbl).trans (hc 3 (by decide))
   have c4 : wr.cell? ⟨b, off + k * 5 + 4, none⟩ = some (.int .i64 (ws[k]).seq) := (hB.cell (p := ⟨b, off + k * 5 + 4, none⟩) hbl).trans (hc 4 (by decide))
   have HZ := yh hz
   have HST := yh (ofI_snoc ws k hlt)
   have HAT : Hid (wF ws[k] ≠ 0 → writesF ws = wF ws[k]) := fun hn => (uh HW).trans (wsFrom_at ws k hlt hz hn)
   have HRT := yh (right_of_writes (ws.take k) fun x hx => by
    obtain ⟨j, hj, rfl⟩ := List.getElem_of_mem hx
    rw [List.length_take] at hj
    rw [List.getElem_take]
    exact hz j (by omega) (by omega))
   have HZ2 : Hid (wF ws[k] = 0 → ∀ j (hj : j < ws.length), j < k + 1 → wF ws[j] = 0) := by
    intro h0 j hj hjk
    by_cases hjk2 : j < k
    ·
     exact uh HZ j hj hjk2
    obtain rfl : j = k := by omega
    exact h0
   clear hc hr hz HZ
   generalize hx : ws[k] = x at *
   clear hx
   have hbr : b < wr.heap.size := Nat.lt_of_lt_of_le hbl hB.size
   have hTl := hT.lt
   have nb : Below wr.heap.size wr (wr.alloc (.cells #[.int .i64 x.kind, .int .i64 x.id, .slice a2 x.vec.length d2, .int .i64 x.session, .int .i64 x.seq] 87)) := (Below.refl _ _).alloc (Nat.le_refl _) _
   have bI : Box wr.heap.size #[.int .i64 x.kind, .int .i64 x.id, .slice a2 x.vec.length d2, .int .i64 x.session, .int .i64 x.seq] 87 (wr.alloc (.cells #[.int .i64 x.kind, .int .i64 x.id, .slice a2 x.vec.length d2, .int .i64 x.session, .int .i64 x.seq] 87)) wr.heap.size := newBox (Nat.le_refl _)
   have L := implDeed x.kind x.id (.slice a2 x.vec.length d2) x.session x.seq x.vec _ ((Lay.ints_reads R2).later nb)
   simp only [ToldDeed] at L
   rw [show writeFault x.kind x.id x.vec x.session x.seq = wF x from rfl] at L
   have HL := yh L
   have HT := yh (hT.later nb)
   have HB := yh (hB.trans (nb.mono hB.size))
   have HR := yh (bR.keep nb)
   have HBI := yh bI
   clear R2 hT hB bR nb bI L
   go_wp2_with fail
   clear c0 c1 c2 c3 c4
   refine (uh HL).mono ?_
   generalize hW0 : wr.alloc (.cells #[.int .i64 x.kind, .int .i64 x.id, .slice a2 x.vec.length d2, .int .i64 x.session, .int .i64 x.seq] 87) = W0 at *
   clear hW0
   rintro e w2 ⟨rfl, hb⟩
   replace HT := yh ((uh HT).later hb)
   replace HR := yh ((uh HR).keep hb)
   replace HBI := yh ((uh HBI).keep hb)
   replace HB := yh ((uh HB).trans (hb.mono (uh HB).size))
   clear hb HL
   have hb1 : w2.cell? ⟨wr.heap.size, 1, none⟩ = some (.int .i64 x.id) := (uh HBI).at 1 _ rfl
   have hbl1 : wr.heap.size < w2.heap.size := (uh HBI).lt
   by_cases hf : wF x = 0
   ·
    rw [hf, show deedRes x.kind x.id x.vec x.session x.seq = deedV x.kind x.vec from if_pos hf]
    have L := doC (w.heap.size + 1) k (ofI (ws.take k)) x w2 (uh HT) (uh HRT) (by omega) hf
    rw [← uh HST] at L
    have HL := yh L
    have HZ3 := yh (uh HZ2 hf)
    generalize hdv : deedV x.kind x.vec = dv at *
    clear L hf hdv HZ2 HAT HST HRT
    go_wp2_with fail
    refine (uh HL).mono ?_
    rintro e w3 ⟨rfl, hT3, hE3⟩
    have HT3 := yh hT3
    have HR3 := yh ((uh HR).ext hE3 (by omega))
    have HB3 := yh ((uh HB).trans (hE3.below (uh HB).size (fun c hc e => by omega)))
    clear hT3 hE3 HT HR HB HL HBI hb1 hbl1
    go_wp2_with fail
    go_roundw
    case rel => exact ⟨k + 1, by omega, by go_num, uh HZ3, uh HT3, uh HR3, uh HB3⟩
    case measure => simp [intOf]; omega
   have hd : (wF x != 0) = true := by simpa using hf
   have HG : Hid (tableOfR ws = ⟨wF x, []⟩) := by
    show tableOfR ws = _
    rw [tableOfR, if_neg (by rw [uh HAT hf]; exact hf), uh HAT hf]
   have bR := uh HR
   have z0 : w2.cell? ⟨w.heap.size, 0, none⟩ = some (.int .i64 0) := bR.at 0 _ rfl
   have z1 : w2.cell? ⟨w.heap.size, 1, none⟩ = some (.slice none 0 0) := bR.at 1 _ rfl
   have f0 := bR.soft 0
   have f1 := bR.soft 1
   have l0 := bR.lt
   generalize hdr : deedRes x.kind x.id x.vec x.session x.seq = dr at *
   clear hf hdr HZ2 HAT HST HRT bR HT
   go_wp2_with fail
   refine bodyPost_ret (v := .agg #[.int .i64 (wF x), .slice none 0 0]) (by simp [results, Tryz.results119, go_sem, z0, z1]) rfl ?_
   rw [uh HG]
   exact ⟨[.int .i64 (wF x), .slice none 0 0], rfl, own_codeItems (wF_wf x), ((uh HB).setCell (by simp) _).setCell (by simp) _⟩
  obtain rfl : k = ws.length := by omega
  have hall : ∀ x ∈ ws, wF x = 0 := fun x hx => by
   obtain ⟨j, hj, rfl⟩ := List.getElem_of_mem hx
   exact hz j hj hj
  have HG : Hid (tableOfR ws = ⟨0, ofI ws⟩) := by
   show tableOfR ws = _
   rw [tableOfR, if_pos (by rw [uh HW]; exact wsFrom_all ws fun j hj => hz j hj hj)]
  rw [List.take_length] at hT
  have HL := yh (itemsC (w.heap.size + 1) ws.length (ofI ws) wr hT (right_of_writes ws hall))
  have HR := yh bR
  have HB := yh hB
  clear hT bR hB hz hall H HW
  go_wp2_with fail
  refine (uh HL).mono ?_
  rintro e w3 ⟨v9, rfl, hO, hb⟩
  obtain ⟨ao9, cp9, rfl⟩ := open_sl hO.reads
  have bR := (uh HR).keep hb
  have z0 : w3.cell? ⟨w.heap.size, 0, none⟩ = some (.int .i64 0) := bR.at 0 _ rfl
  have z1 : w3.cell? ⟨w.heap.size, 1, none⟩ = some (.slice none 0 0) := bR.at 1 _ rfl
  have f0 := bR.soft 0
  have f1 := bR.soft 1
  have l0 := bR.lt
  have HB9 := yh ((uh HB).trans (hb.mono (uh HB).size))
  have HO9 := yh (hO.mono (lo' := w.heap.size + 1) (by have := (uh HR).lt; omega) (Nat.le_refl _))
  clear hO hb bR
  go_wp2_with fail
  refine bodyPost_ret (v := .agg #[.int .i64 0, .slice ao9 (ofI ws).length cp9]) (by simp [results, Tryz.results119, go_sem, z0, z1]) rfl ?_
  rw [uh HG]
  have hE : Ext (fun c => c = w.heap.size) w3 ((w3.setCell ⟨w.heap.size, 0, none⟩ (.int .i64 0)).setCell ⟨w.heap.size, 1, none⟩ (.slice ao9 (ofI ws).length cp9)) := ((Ext.refl (fun c => c = w.heap.size) _).setCell ⟨w.heap.size, 0, none⟩ _ rfl).setCell ⟨w.heap.size, 1, none⟩ _ rfl
  refine ⟨[.int .i64 0, .slice ao9 (ofI ws).length cp9], rfl, own_items (by decide) ?_, ((uh HB9).setCell (by simp) _).setCell (by simp) _⟩
  exact ((uh HO9).ext hE (fun c h1 _ h3 => by omega)).mono (by omega) (by simp)
theorem implTOf_zero (ao : Option Addr) (cap : Nat) (w : World) :
  Calls Tryz.prog 119 #[.slice ao 0 cap] w fun e w' => ∃ cs, e = .returned (.agg cs.toArray) ∧ Lay.tTableResult.OwnIn w' cs (tableOfR []) w.heap.size w'.heap.size ∧ Below w.heap.size w w' := by
 have HB0 : Below w.heap.size w (w.alloc (.cells #[.int .i64 0, .slice none 0 0] 66)) := (Below.refl _ _).alloc (Nat.le_refl _) _
 have bR : Box w.heap.size #[.int .i64 0, .slice none 0 0] 66 (w.alloc (.cells #[.int .i64 0, .slice none 0 0] 66)) w.heap.size := newBox (Nat.le_refl _)
 have nb : Below (w.alloc (.cells #[.int .i64 0, .slice none 0 0] 66)).heap.size (w.alloc (.cells #[.int .i64 0, .slice none 0 0] 66)) ((w.alloc (.cells #[.int .i64 0, .slice none 0 0] 66)).alloc (.map #[] 0)) := (Below.refl _ _).alloc (Nat.le_refl _) _
 have hT := tabAt_new (w.alloc (.cells #[.int .i64 0, .slice none 0 0] 66))
 have HB := yh (HB0.trans (nb.mono HB0.size))
 have HR := yh (bR.keep nb)
 have hQ : (w.alloc (.cells #[.int .i64 0, .slice none 0 0] 66)).heap.size = w.heap.size + 1 := by simp
 rw [hQ] at hT
 have HL := yh (itemsC (w.heap.size + 1) 0 [] _ hT right_nil)
 have HG : Hid (tableOfR [] = ⟨0, []⟩) := rfl
 clear HB0 bR nb hQ hT
 have hmk := @run_makeMap Tryz.prog
 go_enter Tryz.func119, Tryz.ntmps119
 go_wp2_with fail
 clear hmk
 refine wp_loop_rounds 1 ?_
 rw [rounds_succ]
 go_wp2_with fail
 refine (uh HL).mono ?_
 rintro e w3 ⟨v9, rfl, hO, hb⟩
 obtain ⟨ao9, cp9, rfl⟩ := open_sl hO.reads
 have bR := (uh HR).keep hb
 have z0 : w3.cell? ⟨w.heap.size, 0, none⟩ = some (.int .i64 0) := bR.at 0 _ rfl
 have z1 : w3.cell? ⟨w.heap.size, 1, none⟩ = some (.slice none 0 0) := bR.at 1 _ rfl
 have f0 := bR.soft 0
 have f1 := bR.soft 1
 have l0 := bR.lt
 have HB9 := yh ((uh HB).trans (hb.mono (uh HB).size))
 have HO9 := yh (hO.mono (lo' := w.heap.size + 1) (by have := (uh HR).lt; omega) (Nat.le_refl _))
 clear hO hb bR
 go_wp2_with fail
 refine bodyPost_ret (v := .agg #[.int .i64 0, .slice ao9 (([] : List DItem)).length cp9]) (by simp [results, Tryz.results119, go_sem, z0, z1]) rfl ?_
 rw [uh HG]
 have hE : Ext (fun c => c = w.heap.size) w3 ((w3.setCell ⟨w.heap.size, 0, none⟩ (.int .i64 0)).setCell ⟨w.heap.size, 1, none⟩ (.slice ao9 (([] : List DItem)).length cp9)) := ((Ext.refl (fun c => c = w.heap.size) _).setCell ⟨w.heap.size, 0, none⟩ _ rfl).setCell ⟨w.heap.size, 1, none⟩ _ rfl
 refine ⟨[.int .i64 0, .slice ao9 (([] : List DItem)).length cp9], rfl, own_items (by decide) ?_, ((uh HB9).setCell (by simp) _).setCell (by simp) _⟩
 exact ((uh HO9).ext hE (fun c h1 _ h3 => by omega)).mono (by omega) (by simp)
theorem implTOf (v : Value) (ws : List DWrite) (w : World) (h : (Lay.sl Lay.tWrite).Reads w [v] ws) :
  Calls Tryz.prog 119 #[v] w fun e w' => ∃ cs, e = .returned (.agg cs.toArray) ∧ Lay.tTableResult.OwnIn w' cs (tableOfR ws) w.heap.size w'.heap.size ∧ Below w.heap.size w w' := by
 obtain ⟨ao, cap, rfl⟩ := open_sl h
 by_cases hn : ws.length ≤ 200
 ·
  by_cases hp : 0 < ws.length
  ·
   obtain ⟨b, off, rfl, hbl⟩ := Lay.sl_addr h hp
   exact implTOf_pos b off cap ws w h hbl hn
  obtain rfl : ws = [] := List.eq_nil_of_length_eq_zero (by omega)
  exact implTOf_zero ao cap w
 have e : writesF ws = 2 := by rw [writesF, if_pos (by omega)]
 have HG : Hid (tableOfR ws = ⟨2, []⟩) := by show tableOfR ws = _; rw [tableOfR, if_neg (by rw [e]; decide), e]
 have hd : decide ((200 : Int) < (ws.length : Int)) = true := by simp; omega
 have HB := yh ((Below.refl w.heap.size w).alloc (Nat.le_refl _) (.cells #[.int .i64 2, .slice none 0 0] 66))
 clear h e
 go_enter Tryz.func119, Tryz.ntmps119
 go_wp2_with fail
 refine bodyPost_ret (v := .agg #[.int .i64 2, .slice none 0 0]) (by simp [results, Tryz.results119, go_sem]) rfl ?_
 rw [uh HG]
 exact ⟨[.int .i64 2, .slice none 0 0], rfl, own_codeItems (by decide), uh HB⟩
end Go.Proofs.YtoanimpijfijgaaGreat

namespace Go.Proofs.YtoanimpijfijgaaGreat
end Go.Proofs.YtoanimpijfijgaaGreat

namespace Go.Proofs.YtoanimpijfijgaaGreat
open Go.RowKit
theorem implStateIn (cs : List Value) (x : DWorld) (w : World) (h : Lay.tWorld.Reads w cs x) :
  Calls Tryz.prog 50 #[.agg cs.toArray] w fun e w' => ∃ cs', e = .returned (.agg cs'.toArray) ∧ Lay.tTableResult.OwnIn w' cs' (stateInR x) w.heap.size w'.heap.size ∧ Below w.heap.size w w' := by
 have HP : Hid (stateInR x = if worldFault x ≠ 0 then ⟨worldFault x, []⟩ else ⟨0, ofI (sureWs x)⟩) := rfl
 obtain ⟨a3, d3, a4, d4, a5, d5, a6, d6, rfl, -, -, -, -⟩ := open_World h
 have nb : Below w.heap.size w ((w.alloc (.cells #[.int .i64 x.now, .int .i64 x.events, .int .i64 x.chain.epoch, .slice a3 x.chain.ids.length d3, .slice a4 x.nodes.length d4, .slice a5 x.msgs.length d5, .slice a6 x.history.length d6] 36)).alloc (.cells #[.int .i64 0, .slice none 0 0] 66)) := ((Below.refl _ _).alloc (Nat.le_refl _) _).alloc (by simp) _
 have HX : Hid (Box 0 #[.int .i64 x.now, .int .i64 x.events, .int .i64 x.chain.epoch, .slice a3 x.chain.ids.length d3, .slice a4 x.nodes.length d4, .slice a5 x.msgs.length d5, .slice a6 x.history.length d6] 36 ((w.alloc (.cells #[.int .i64 x.now, .int .i64 x.events, .int .i64 x.chain.epoch, .slice a3 x.chain.ids.length d3, .slice a4 x.nodes.length d4, .slice a5 x.msgs.length d5, .slice a6 x.history.length d6] 36)).alloc (.cells #[.int .i64 0, .slice none 0 0] 66)) w.heap.size) := (newBox (Nat.zero_le _)).grow _
 have HY : Hid (Box 0 #[.int .i64 0, .slice none 0 0] 66 ((w.alloc (.cells #[.int .i64 x.now, .int .i64 x.events, .int .i64 x.chain.epoch, .slice a3 x.chain.ids.length d3, .slice a4 x.nodes.length d4, .slice a5 x.msgs.length d5, .slice a6 x.history.length d6] 36)).alloc (.cells #[.int .i64 0, .slice none 0 0] 66)) (w.heap.size + 1)) := newBoxAt (Nat.zero_le _) (by simp)
 have hz0 : ((w.alloc (.cells #[.int .i64 x.now, .int .i64 x.events, .int .i64 x.chain.epoch, .slice a3 x.chain.ids.length d3, .slice a4 x.nodes.length d4, .slice a5 x.msgs.length d5, .slice a6 x.history.length d6] 36)).alloc (.cells #[.int .i64 0, .slice none 0 0] 66)).heap.size = w.heap.size + 2 := by simp
 have HR := yh (h.later nb)
 have HB := yh nb
 clear nb h
 generalize stateInR x = R at *
 go_enter Tryz.func50, Tryz.ntmps50
 go_upto_region 1 with fail
 generalize ((w.alloc (.cells #[.int .i64 x.now, .int .i64 x.events, .int .i64 x.chain.epoch, .slice a3 x.chain.ids.length d3, .slice a4 x.nodes.length d4, .slice a5 x.msgs.length d5, .slice a6 x.history.length d6] 36)).alloc (.cells #[.int .i64 0, .slice none 0 0] 66)) = W0 at *
 have z0 := Box.at (uh HX) 0 _ rfl
 have z1 := Box.at (uh HX) 1 _ rfl
 have z2 := Box.at (uh HX) 2 _ rfl
 have z3 := Box.at (uh HX) 3 _ rfl
 have z4 := Box.at (uh HX) 4 _ rfl
 have z5 := Box.at (uh HX) 5 _ rfl
 have z6 := Box.at (uh HX) 6 _ rfl
 simp only [ga, gb, gc] at z0 z1 z2 z3 z4 z5 z6
 have zl := (uh HX).lt
 go_wp2_with fail
 refine (implWorldFault _ x W0 (uh HR)).mono ?_
 rintro e wa ⟨rfl, hb⟩
 clear z0 z1 z2 z3 z4 z5 z6 zl
 replace HX := yh ((uh HX).keep hb)
 replace HR := yh ((uh HR).later hb)
 replace HY := yh ((uh HY).keep hb)
 replace HB := yh ((uh HB).trans (hb.mono (uh HB).size))
 have hza := hb.size
 clear hb
 by_cases d1 : worldFault x ≠ 0
 ·
  have hd : (worldFault x != 0) = true := by simpa using d1
  replace HP := yh ((uh HP).trans (if_pos d1))
  have HC := yh (wf_vals x)
  clear d1
  generalize worldFault x = c at *
  have r0 := Box.at (uh HY) 0 _ rfl
  have r1 := Box.at (uh HY) 1 _ rfl
  simp only [ga, gb, gc] at r0 r1
  have rf := Box.soft (uh HY)
  have rl := (uh HY).lt
  have HB9 := yh (((uh HB).setCell (p := ⟨w.heap.size + 1, 0, none⟩) (by simp) (.int .i64 c)).setCell (p := ⟨w.heap.size + 1, 1, none⟩) (by simp) (.slice none 0 0))
  clear HX HR HY HB
  go_wp2_with fail
  refine bodyPost_ret (v := .agg #[.int .i64 c, .slice none 0 0]) (by simp [results, Tryz.results50, go_sem, r0, r1]) rfl ?_
  rw [uh HP]
  exact ⟨[.int .i64 c, .slice none 0 0], rfl, own_codeItems (wf_of_bd (by have := uh HC; omega)), uh HB9⟩
 replace HP := yh ((uh HP).trans (if_neg d1))
 have hok := worldFault_zero (by simpa using d1 : worldFault x = 0)
 rw [show worldFault x = 0 by simpa using d1]
 obtain ⟨k, hk, ht⟩ := tail_at hok
 have HS4 := yh (hok.nodes k hk)
 have HLN : Hid ((x.nodes[k].writes.take x.nodes[k].sure.toNat).length ≤ 40) := by
  have := (nodeFault_zero (hok.nodes k hk).1).len
  have h2 := List.length_take_le x.nodes[k].sure.toNat x.nodes[k].writes
  show (x.nodes[k].writes.take x.nodes[k].sure.toNat).length ≤ 40
  rw [List.length_take]
  omega
 have HALL : Hid (∀ y ∈ (x.nodes[k].writes.take x.nodes[k].sure.toNat), wF y = 0) := fun y hy => (nodeFault_zero (hok.nodes k hk).1).ws y (List.mem_of_mem_take hy)
 have HPS : Hid (R = ⟨0, ofI (x.nodes[k].writes.take x.nodes[k].sure.toNat)⟩) := by
  show R = _
  rw [uh HP, sureWs, ht, nodeOf_at hk]
 have HL := yh (sureAtTailC _ x k wa (uh HR) hok.mid hk ht)
 have z0 := Box.at (uh HX) 0 _ rfl
 have z1 := Box.at (uh HX) 1 _ rfl
 have z2 := Box.at (uh HX) 2 _ rfl
 have z3 := Box.at (uh HX) 3 _ rfl
 have z4 := Box.at (uh HX) 4 _ rfl
 have z5 := Box.at (uh HX) 5 _ rfl
 have z6 := Box.at (uh HX) 6 _ rfl
 simp only [ga, gb, gc] at z0 z1 z2 z3 z4 z5 z6
 have zl := (uh HX).lt
 clear hok ht
 go_wp2_with fail
 refine (uh HL).mono ?_
 rintro e w3 ⟨v3, rfl, RW, hb3⟩
 have HT := implTOf v3 (x.nodes[k].writes.take x.nodes[k].sure.toNat) w3 RW
 have hw0 : writesF (x.nodes[k].writes.take x.nodes[k].sure.toNat) = 0 := by
  have := uh HLN
  rw [writesF, if_neg (by omega)]
  exact wsFrom_all _ fun j hj => (uh HALL) _ (List.getElem_mem _)
 rw [show tableOfR (x.nodes[k].writes.take x.nodes[k].sure.toNat) = ⟨0, ofI (x.nodes[k].writes.take x.nodes[k].sure.toNat)⟩ by rw [tableOfR, if_pos hw0]] at HT
 replace HT := yh HT
 replace HY := yh ((uh HY).keep hb3)
 replace HB := yh ((uh HB).trans (hb3.mono (uh HB).size))
 have hz3 := hb3.size
 clear hb3 HL z0 z1 z2 z3 z4 z5 z6 zl HX HR RW hw0 HALL HLN HS4
 go_wp2_with fail
 refine (uh HT).mono ?_
 rintro e w4 ⟨cs9, rfl, O9, hb4⟩
 obtain ⟨a9, d9, rfl, -⟩ := open_TableResult O9.reads
 have hy := (uh HY).keep hb4
 have r0 := Box.at hy 0 _ rfl
 have r1 := Box.at hy 1 _ rfl
 simp only [ga, gb, gc] at r0 r1
 have rf := Box.soft hy
 have rl := hy.lt
 have HB9 := yh (below_setAll ((uh HB).trans (hb4.mono (uh HB).size)) (w.heap.size + 1) 0 [.int .i64 0, .slice a9 (ofI (x.nodes[k].writes.take x.nodes[k].sure.toNat)).length d9] (by omega))
 have HOF := yh (own_store' (s := w.heap.size + 1) (vs := [.int .i64 0, .slice a9 (ofI (x.nodes[k].writes.take x.nodes[k].sure.toNat)).length d9]) O9 (by omega))
 have HZF := yh (size_setAll w4 (w.heap.size + 1) 0 [.int .i64 0, .slice a9 (ofI (x.nodes[k].writes.take x.nodes[k].sure.toNat)).length d9])
 clear hy hb4 O9 HT HY HB
 generalize (ofI (x.nodes[k].writes.take x.nodes[k].sure.toNat)).length = nn at *
 go_wp2_with fail
 refine bodyPost_ret (v := .agg #[.int .i64 0, .slice a9 nn d9]) (by simp [results, Tryz.results50, go_sem, r0, r1]) rfl ?_
 rw [uh HPS]
 exact ⟨[.int .i64 0, .slice a9 nn d9], rfl, (uh HOF).mono (by omega) (Nat.le_of_eq (uh HZF).symm), uh HB9⟩
theorem tableOfR_few (ws : List DWrite) : Lay.tTableResult.vcnt (tableOfR ws) ≤ 100000000 := by
 rw [vcnt_TableResult]
 show cntAll Lay.tItem.cnt (tableOfR ws).items ≤ 100000000
 unfold tableOfR
 split
 ·
  rename_i hf
  exact Nat.le_trans (right_few (right_of_writes ws (writesF_zero hf).2)) (by decide)
 exact Nat.zero_le _
theorem stateIn_few (x : DWorld) : Lay.tTableResult.vcnt (stateInR x) ≤ 100000000 := by
 unfold stateInR
 split
 ·
  rw [vcnt_TableResult]
  exact Nat.zero_le _
 rename_i q
 have hok := worldFault_zero (by simpa using q : worldFault x = 0)
 obtain ⟨k, hk, ht⟩ := tail_at hok
 have hno := nodeFault_zero (hok.nodes k hk).1
 have e : tableOfR (sureWs x) = ⟨0, ofI (sureWs x)⟩ := by
  have hw0 : writesF (sureWs x) = 0 := by
   rw [sureWs, ht, nodeOf_at hk]
   rw [writesF, if_neg (by rw [List.length_take]; have := hno.len; omega)]
   exact wsFrom_all _ fun j hj => hno.ws _ (List.mem_of_mem_take (List.getElem_mem _))
  rw [tableOfR, if_pos hw0]
 rw [← e]
 exact tableOfR_few _
theorem lawStateIn (cs : List Value) (x : DWorld) (w : World) (h : Lay.tWorld.Reads w cs x) :
  Calls Tryz.prog 13 #[.agg cs.toArray] w fun e w' => e = .returned (.bool true) ∧ Below w.heap.size w w' := by
 by_cases hn : Lay.tWorld.sz x ≤ 1048576
 ·
  exact lawx_StateIn cs x (stateInR x) w h hn (fun W a ha => specStateIn a x W ha) (fun W a ha => implStateIn a x W ha) (stateIn_few x)
 exact lawover_StateIn cs x w h (by omega)
theorem opens_Chain : Opens Lay.tChain 24 := by
 intro H enc W base spare held fuel cs x h
 obtain ⟨xs, n, _, _, hlen, hl, hfi⟩ := DataW.trod_struct Tryz.underlying24 h
 rw [show Tryz.prog.cellsOf 24 = 2 by kernel_rfl] at hlen
 match cs, hlen with
 | [c0, c1], _ =>
 match xs, hl with
 | [y0, y1], _ =>
 have z0 : Tryz.prog.cellsOf 2 = 1 := by kernel_rfl
 have z1 : Tryz.prog.cellsOf 22 = 1 := by kernel_rfl
 have f0 : DataW.trod enc Tryz.prog W base spare held n 2 (([c0, c1].drop 0).take (Tryz.prog.cellsOf 2)) = some y0 := hfi 0 _ rfl
 rw [z0] at f0
 obtain ⟨d0, r0⟩ := (opens_int Tryz.underlying2) enc W base spare held n _ _ f0
 have f1 : DataW.trod enc Tryz.prog W base spare held n 22 (([c0, c1].drop 1).take (Tryz.prog.cellsOf 22)) = some y1 := hfi 1 _ rfl
 rw [z1] at f1
 obtain ⟨d1, r1⟩ := (opens_sl Tryz.underlying22 (by kernel_rfl) (by decide) (opens_int Tryz.underlying2)) enc W base spare held n _ _ f1
 exact ⟨⟨d0, d1⟩, (reads_pair r0 r1)⟩
theorem opens_Write : Opens Lay.tWrite 150 := by
 intro H enc W base spare held fuel cs x h
 obtain ⟨xs, n, _, _, hlen, hl, hfi⟩ := DataW.trod_struct Tryz.underlying150 h
 rw [show Tryz.prog.cellsOf 150 = 5 by kernel_rfl] at hlen
 match cs, hlen with
 | [c0, c1, c2, c3, c4], _ =>
 match xs, hl with
 | [y0, y1, y2, y3, y4], _ =>
 have z0 : Tryz.prog.cellsOf 2 = 1 := by kernel_rfl
 have z1 : Tryz.prog.cellsOf 22 = 1 := by kernel_rfl
 have f0 : DataW.trod enc Tryz.prog W base spare held n 2 (([c0, c1, c2, c3, c4].drop 0).take (Tryz.prog.cellsOf 2)) = some y0 := hfi 0 _ rfl
 rw [z0] at f0
 obtain ⟨d0, r0⟩ := (opens_int Tryz.underlying2) enc W base spare held n _ _ f0
 have f1 : DataW.trod enc Tryz.prog W base spare held n 2 (([c0, c1, c2, c3, c4].drop 1).take (Tryz.prog.cellsOf 2)) = some y1 := hfi 1 _ rfl
 rw [z0] at f1
 obtain ⟨d1, r1⟩ := (opens_int Tryz.underlying2) enc W base spare held n _ _ f1
 have f2 : DataW.trod enc Tryz.prog W base spare held n 22 (([c0, c1, c2, c3, c4].drop 2).take (Tryz.prog.cellsOf 22)) = some y2 := hfi 2 _ rfl
 rw [z1] at f2
 obtain ⟨d2, r2⟩ := (opens_sl Tryz.underlying22 (by kernel_rfl) (by decide) (opens_int Tryz.underlying2)) enc W base spare held n _ _ f2
 have f3 : DataW.trod enc Tryz.prog W base spare held n 2 (([c0, c1, c2, c3, c4].drop 3).take (Tryz.prog.cellsOf 2)) = some y3 := hfi 3 _ rfl
 rw [z0] at f3
 obtain ⟨d3, r3⟩ := (opens_int Tryz.underlying2) enc W base spare held n _ _ f3
 have f4 : DataW.trod enc Tryz.prog W base spare held n 2 (([c0, c1, c2, c3, c4].drop 4).take (Tryz.prog.cellsOf 2)) = some y4 := hfi 4 _ rfl
 rw [z0] at f4
 obtain ⟨d4, r4⟩ := (opens_int Tryz.underlying2) enc W base spare held n _ _ f4
 exact ⟨⟨d0, d1, d2, d3, d4⟩, (reads_pair r0 (reads_pair r1 (reads_pair r2 (reads_pair r3 r4))))⟩
end Go.Proofs.YtoanimpijfijgaaGreat
