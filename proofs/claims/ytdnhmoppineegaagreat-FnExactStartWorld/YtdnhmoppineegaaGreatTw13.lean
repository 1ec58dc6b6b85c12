/-
  Texts of this proof in one: SpecStartW, WorldUpd, ImplSetN, ImplStartS, ImplStartW, NodeFew, WorldFew, LawStartW, OpenChain, OpenWrite, OpenNode, OpenMsg, OpenHit, OpenEntry, OpenWorld.
  Their conditions stand in their theorems.
-/
import Derived.Test.YtdnhmoppineegaaGreatTw12
import Derived.Test.YtdnhmoppineegaaGreatTw08
import Derived.Deep.RegionHeld3
import Derived.Test.YtdnhmoppineegaaGreatTw00
import Derived.Test.YtdnhmoppineegaaGreatTw06
import Derived.Test.YtdnhmoppineegaaGreatTw03
import Derived.Deep.CutRange
import Derived.Test.YtdnhmoppineegaaGreatTw10
import Derived.Test.YtdnhmoppineegaaGreatTw05
import Derived.Test.YtdnhmoppineegaaGreatTw01
set_option maxRecDepth 100000
set_option maxHeartbeats 4000000
namespace Go.Proofs.YtdnhmoppineegaaGreat
open Go.RowKit
theorem specStartWorld (cs : List Value) (x : DWorld) (id : Int) (w : World) (h : Lay.tWorld.Reads w cs x) (hf : Fits x) :
  Calls Tryz.prog 25 #[.agg cs.toArray, .int .i64 id] w fun e w' => ∃ cs', e = .returned (.agg cs'.toArray) ∧ Lay.tWorldResult.Reads w' cs' (startWR x id) ∧ Below w.heap.size w w' := by
 have HP : Hid (startWR x id = if askedW x id ≠ 0 then badWorld (askedW x id) else if (nodeOf x id).up = true then badWorld 8 else ⟨0, true, putNode (nextW x) { nodeOf x id with up := true, epoch := if 0 ≤ placeC x.chain.ids id then x.chain.epoch else (nodeOf x id).epoch }⟩) := rfl
 obtain ⟨a3, d3, a4, d4, a5, d5, a6, d6, rfl, -, -, -, -⟩ := open_World h
 have HBN : Hid (∀ b off, a4 = some ⟨b, off, none⟩ → 0 < x.nodes.length → b < w.heap.size) := fun b off e hp => by
  obtain ⟨_, _, _, _, _, _, _, _, hq, -, RN, -, -⟩ := open_World h
  simp only [List.cons.injEq, Value.slice.injEq, and_true, true_and] at hq
  obtain ⟨-, ⟨rfl, rfl⟩, -, -, -⟩ := hq
  obtain ⟨b', off', e', hb⟩ := Lay.sl_addr RN hp
  rw [e] at e'
  simp only [Option.some.injEq, Addr.mk.injEq, and_true] at e'
  obtain ⟨rfl, -⟩ := e'
  exact hb
 have nb : Below w.heap.size w ((w.alloc (.cells #[.int .i64 x.now, .int .i64 x.events, .int .i64 x.chain.epoch, .slice a3 x.chain.ids.length d3, .slice a4 x.nodes.length d4, .slice a5 x.msgs.length d5, .slice a6 x.history.length d6] 36)).alloc (.cells #[.int .i64 0, .bool false, .int .i64 0, .int .i64 0, .int .i64 0, .slice none 0 0, .slice none 0 0, .slice none 0 0, .slice none 0 0] 38)) := ((Below.refl _ _).alloc (Nat.le_refl _) _).alloc (by simp) _
 have HX : Hid (Box 0 #[.int .i64 x.now, .int .i64 x.events, .int .i64 x.chain.epoch, .slice a3 x.chain.ids.length d3, .slice a4 x.nodes.length d4, .slice a5 x.msgs.length d5, .slice a6 x.history.length d6] 36 ((w.alloc (.cells #[.int .i64 x.now, .int .i64 x.events, .int .i64 x.chain.epoch, .slice a3 x.chain.ids.length d3, .slice a4 x.nodes.length d4, .slice a5 x.msgs.length d5, .slice a6 x.history.length d6] 36)).alloc (.cells #[.int .i64 0, .bool false, .int .i64 0, .int .i64 0, .int .i64 0, .slice none 0 0, .slice none 0 0, .slice none 0 0, .slice none 0 0] 38)) w.heap.size) := ((newBox (Nat.zero_le _)).grow _)
 have HY : Hid (Box 0 #[.int .i64 0, .bool false, .int .i64 0, .int .i64 0, .int .i64 0, .slice none 0 0, .slice none 0 0, .slice none 0 0, .slice none 0 0] 38 ((w.alloc (.cells #[.int .i64 x.now, .int .i64 x.events, .int .i64 x.chain.epoch, .slice a3 x.chain.ids.length d3, .slice a4 x.nodes.length d4, .slice a5 x.msgs.length d5, .slice a6 x.history.length d6] 36)).alloc (.cells #[.int .i64 0, .bool false, .int .i64 0, .int .i64 0, .int .i64 0, .slice none 0 0, .slice none 0 0, .slice none 0 0, .slice none 0 0] 38)) (w.heap.size + 1)) := newBoxAt (Nat.zero_le _) (by simp)
 have hz0 : ((w.alloc (.cells #[.int .i64 x.now, .int .i64 x.events, .int .i64 x.chain.epoch, .slice a3 x.chain.ids.length d3, .slice a4 x.nodes.length d4, .slice a5 x.msgs.length d5, .slice a6 x.history.length d6] 36)).alloc (.cells #[.int .i64 0, .bool false, .int .i64 0, .int .i64 0, .int .i64 0, .slice none 0 0, .slice none 0 0, .slice none 0 0, .slice none 0 0] 38)).heap.size = w.heap.size + 2 := by simp
 have HR := yh (h.later nb)
 have HB := yh nb
 clear nb
 clear h
 generalize startWR x id = R at *
 go_enter Tryz.func25, Tryz.ntmps25
 go_upto_region 1 with fail
 generalize ((w.alloc (.cells #[.int .i64 x.now, .int .i64 x.events, .int .i64 x.chain.epoch, .slice a3 x.chain.ids.length d3, .slice a4 x.nodes.length d4, .slice a5 x.msgs.length d5, .slice a6 x.history.length d6] 36)).alloc (.cells #[.int .i64 0, .bool false, .int .i64 0, .int .i64 0, .int .i64 0, .slice none 0 0, .slice none 0 0, .slice none 0 0, .slice none 0 0] 38)) = W0 at *
 go_wp2_with fail
 refine (l12AskedC a3 d3 a4 d4 a5 d5 a6 d6 x id w.heap.size W0 (uh HX) (uh HR)).mono ?_
 rintro e wa ⟨rfl, hb⟩
 replace HX := yh ((uh HX).keep hb)
 replace HR := yh ((uh HR).later hb)
 replace HY := yh ((uh HY).keep hb)
 replace HB := yh ((uh HB).trans (hb.mono (uh HB).size))
 have hza := hb.size
 clear hb
 by_cases d1 : askedW x id ≠ 0
 ·
  have hd : (askedW x id != 0) = true := by simpa using d1
  replace HP := yh ((uh HP).trans (if_pos d1))
  have HC := yh (asked_bd x id)
  clear d1 hf 
  generalize askedW x id = c at *
  go_wp2_with fail
  refine (l12BadCZ (c) _).mono ?_
  rintro e wB ⟨rfl, hbB⟩
  have hyB := (uh HY).keep hbB
  have z0 := Box.at hyB 0 _ rfl
  have z1 := Box.at hyB 1 _ rfl
  have z2 := Box.at hyB 2 _ rfl
  have z3 := Box.at hyB 3 _ rfl
  have z4 := Box.at hyB 4 _ rfl
  have z5 := Box.at hyB 5 _ rfl
  have z6 := Box.at hyB 6 _ rfl
  have z7 := Box.at hyB 7 _ rfl
  have z8 := Box.at hyB 8 _ rfl
  simp only [ga, gb, gc] at z0 z1 z2 z3 z4 z5 z6 z7 z8
  have zf := Box.soft hyB
  have zl := hyB.lt
  have HB9 := yh (below_setAll ((uh HB).trans (hbB.mono (uh HB).size)) (w.heap.size + 1) 0 [.int .i64 c, .bool false, .int .i64 0, .int .i64 0, .int .i64 0, .slice none 0 0, .slice none 0 0, .slice none 0 0, .slice none 0 0] (by omega))
  clear hyB hbB HY HB
  go_wp2_with fail
  refine bodyPost_ret (v := .agg #[.int .i64 c, .bool false, .int .i64 0, .int .i64 0, .int .i64 0, .slice none 0 0, .slice none 0 0, .slice none 0 0, .slice none 0 0]) (by simp [results, Tryz.results25, go_sem, z0, z1, z2, z3, z4, z5, z6, z7, z8]) rfl ?_
  rw [uh HP]
  exact ⟨[.int .i64 c, .bool false, .int .i64 0, .int .i64 0, .int .i64 0, .slice none 0 0, .slice none 0 0, .slice none 0 0, .slice none 0 0], rfl, (own_badW (uh HC) (lo := 0) (hi := 0) (Nat.le_refl 0)).lies.reads, uh HB9⟩
 replace HP := yh ((uh HP).trans (if_neg d1))
 have hd0 : askedW x id = 0 := by simpa using d1
 obtain ⟨hwf, hni⟩ := asked_zero hd0
 have hok := worldFault_zero hwf
 obtain ⟨k, hk, rfl⟩ := nodeIn_at hni
 rw [hd0]
 clear d1 hd0 hwf hni
 have hn := hok.nodes k hk
 obtain ⟨_, _, _, _, _, _, _, _, hq, RC, RN, -, -⟩ := open_World (uh HR)
 simp only [List.cons.injEq, Value.slice.injEq, and_true, true_and] at hq
 obtain ⟨⟨rfl, rfl⟩, ⟨rfl, rfl⟩, -, -, -⟩ := hq
 obtain ⟨b0, off0, rfl, hbl⟩ := Lay.sl_addr RN (by omega)
 obtain ⟨row, hcl, hr⟩ := Lay.row_at RN hk
 obtain ⟨an0, dn0, rfl, -⟩ := open_Node hr
 have x1 : wa.cell? ⟨b0, off0 + k * 7 + 1, none⟩ = some (.bool x.nodes[k].up) := hcl 1 (by decide)
 rw [nodeOf_at hk] at HP
 have hx := uh HX
 have z4 := Box.at hx 4 _ rfl
 have z0 := Box.at hx 0 _ rfl
 have z1 := Box.at hx 1 _ rfl
 have z2 := Box.at hx 2 _ rfl
 have z3 := Box.at hx 3 _ rfl
 have z5 := Box.at hx 5 _ rfl
 have z6 := Box.at hx 6 _ rfl
 simp only [ga, gb, gc] at z0 z1 z2 z3 z4 z5 z6
 have zl := hx.lt
 have hw1 : IntKind.i64.wrap (k : Int) = (k : Int) := by
  have := hok.some
  rw [IntKind.wrap_i64]
  omega
 have hki : (k : Int) < (x.nodes.length : Int) := by omega
 have hki0 : (0 : Int) ≤ (k : Int) := by omega
 have HOK := yh hok
 have HRC := yh RC
 have HIDK := yh hn.2.1
 have HEPW := yh (wf_World (uh HR)).2.2
 clear hn RN RC hcl hr hok hx
 by_cases d1 : x.nodes[k].up = true
 ·
  replace HP := yh ((uh HP).trans (if_pos d1))
  rw [d1] at x1
  have HC : Hid (-1000000000 ≤ (8 : Int) ∧ (8 : Int) ≤ 1000000000) := by show (-1000000000 : Int) ≤ 8 ∧ (8 : Int) ≤ 1000000000; omega
  clear d1
  go_wp2_with fail
  refine (l12BadCZ (8) _).mono ?_
  rintro e wB ⟨rfl, hbB⟩
  have hyB := (uh HY).keep hbB
  have z0 := Box.at hyB 0 _ rfl
  have z1 := Box.at hyB 1 _ rfl
  have z2 := Box.at hyB 2 _ rfl
  have z3 := Box.at hyB 3 _ rfl
  have z4 := Box.at hyB 4 _ rfl
  have z5 := Box.at hyB 5 _ rfl
  have z6 := Box.at hyB 6 _ rfl
  have z7 := Box.at hyB 7 _ rfl
  have z8 := Box.at hyB 8 _ rfl
  simp only [ga, gb, gc] at z0 z1 z2 z3 z4 z5 z6 z7 z8
  have zf := Box.soft hyB
  have zl := hyB.lt
  have HB9 := yh (below_setAll ((uh HB).trans (hbB.mono (uh HB).size)) (w.heap.size + 1) 0 [.int .i64 8, .bool false, .int .i64 0, .int .i64 0, .int .i64 0, .slice none 0 0, .slice none 0 0, .slice none 0 0, .slice none 0 0] (by omega))
  clear hyB hbB HY HB
  go_wp2_with fail
  refine bodyPost_ret (v := .agg #[.int .i64 8, .bool false, .int .i64 0, .int .i64 0, .int .i64 0, .slice none 0 0, .slice none 0 0, .slice none 0 0, .slice none 0 0]) (by simp [results, Tryz.results25, go_sem, z0, z1, z2, z3, z4, z5, z6, z7, z8]) rfl ?_
  rw [uh HP]
  exact ⟨[.int .i64 8, .bool false, .int .i64 0, .int .i64 0, .int .i64 0, .slice none 0 0, .slice none 0 0, .slice none 0 0, .slice none 0 0], rfl, (own_badW (uh HC) (lo := 0) (hi := 0) (Nat.le_refl 0)).lies.reads, uh HB9⟩
 replace HP := yh ((uh HP).trans (if_neg d1))
 have d2 : x.nodes[k].up = false := by simpa using d1
 rw [d2] at x1
 have HL := yh (l12NextC _ x wa (uh HR) (uh HOK) hf)
 clear d1
 go_wp2_with fail
 clear x1 z4
 refine (uh HL).mono ?_
 rintro e W1 ⟨cs', rfl, O, hb⟩
 have hop := open_World O.reads
 dsimp only [nextW] at hop
 obtain ⟨a3w, d3w, a4w, d4w, a5w, d5w, a6w, d6w, rfl, -⟩ := hop
 have hz1 : wa.heap.size ≤ W1.heap.size := hb.size
 have nb : Below W1.heap.size W1 (W1.alloc (.cells #[.int .i64 x.now, .int .i64 (x.events + 1), .int .i64 x.chain.epoch, .slice a3w x.chain.ids.length d3w, .slice a4w x.nodes.length d4w, .slice a5w x.msgs.length d5w, .slice a6w x.history.length d6w] 36)) := (Below.refl _ _).alloc (Nat.le_refl _) _
 have HG : Hid (Box 0 #[.int .i64 x.now, .int .i64 (x.events + 1), .int .i64 x.chain.epoch, .slice a3w x.chain.ids.length d3w, .slice a4w x.nodes.length d4w, .slice a5w x.msgs.length d5w, .slice a6w x.history.length d6w] 36 (W1.alloc (.cells #[.int .i64 x.now, .int .i64 (x.events + 1), .int .i64 x.chain.epoch, .slice a3w x.chain.ids.length d3w, .slice a4w x.nodes.length d4w, .slice a5w x.msgs.length d5w, .slice a6w x.history.length d6w] 36)) W1.heap.size) := newBox (Nat.zero_le _)
 have HO := yh ((O.later nb).st (G := fun c => c < 0 ∨ c < wa.heap.size ∨ c = W1.heap.size) (fun k hk => by omega))
 replace HX := yh (((uh HX).keep hb).keep nb)
 replace HR := yh (((uh HR).later hb).later nb)
 replace HY := yh (((uh HY).keep hb).keep nb)
 replace HB := yh ((uh HB).trans ((hb.trans (nb.mono hb.size)).mono (uh HB).size))
 have hz2 : W1.heap.size < (W1.alloc (.cells #[.int .i64 x.now, .int .i64 (x.events + 1), .int .i64 x.chain.epoch, .slice a3w x.chain.ids.length d3w, .slice a4w x.nodes.length d4w, .slice a5w x.msgs.length d5w, .slice a6w x.history.length d6w] 36)).heap.size := by simp
 have HBW := yh (hb.trans (nb.mono hb.size))
 clear nb O hb HL
 clear z0 z1 z2 z3 z5 z6
 go_upto_region 7 with fail
 generalize W1.alloc (.cells #[.int .i64 x.now, .int .i64 (x.events + 1), .int .i64 x.chain.epoch, .slice a3w x.chain.ids.length d3w, .slice a4w x.nodes.length d4w, .slice a5w x.msgs.length d5w, .slice a6w x.history.length d6w] 36) = W2 at *
 have hg := uh HG
 have hk' : k < (nextW x).nodes.length := hk
 obtain ⟨b, off, d4, an, dn, e4, hb1, hb2, hb3, hbG, hR0, hwf, hkc, -, hput⟩ := wst_upd (y := nextW x) (uh HO) hk'
 simp only [Value.slice.injEq] at e4
 obtain ⟨rfl, -, rfl⟩ := e4
 have hen : (nextW x).nodes[k] = x.nodes[k] := rfl
 rw [hen] at hput hR0 hwf
 have y4 := Box.at hg 4 _ rfl
 simp only [ga, gb, gc] at y4
 have yl := hg.lt
 have x1 : W2.cell? ⟨b, off + k * 7 + 1, none⟩ = some (.bool x.nodes[k].up) := hR0.cells 1 (by decide)
 have f1 : W2.frozen? ⟨b, off + k * 7 + 1, none⟩ = false := hR0.soft _
 have hR2 := hR0.set 1 (.bool true) (by decide)
 simp only [List.set_cons_succ, List.set_cons_zero] at hR2
 have e1 : Ext (fun q => q = b) W2 (W2.setCell ⟨b, off + k * 7 + 1, none⟩ (.bool true)) := (Ext.refl _ _).setCell _ _ rfl
 have hbg : b ≠ W1.heap.size := fun e => hbG (Or.inr (Or.inr e))
 have hbw := uh HBN b0 off0 rfl (by omega)
 have HG3 := yh (hg.ext e1 (fun e => hbg e.symm))
 have HX3 := yh ((uh HX).ext e1 (by omega))
 have HY3 := yh ((uh HY).ext e1 (by omega))
 have HB3 := yh ((uh HB).trans (e1.below (B := w.heap.size) (by omega) (fun c hc e => by omega)))
 have HR2 := yh hR2
 have HPUT := yh hput
 have HWF := yh hwf
 have HZ3 : Hid (W2.heap.size ≤ (W2.setCell ⟨b, off + k * 7 + 1, none⟩ (.bool true)).heap.size) := e1.size
 have HRC3 : Hid (Lay.tChain.Reads (W2.setCell ⟨b, off + k * 7 + 1, none⟩ (.bool true)) [.int .i64 x.chain.epoch, .slice a3 x.chain.ids.length d3] x.chain) := by
  obtain ⟨bc, hlc⟩ := uh HRC
  have hbx : wa.heap.size ≤ b := hb1
  exact ⟨bc, Lay.tChain.keep hlc (fun c hc => ((e1.block c (by have := Lay.tChain.lt hlc c hc; omega) (fun e => by have := Lay.tChain.lt hlc c hc; omega))).trans ((uh HBW).block c (Lay.tChain.lt hlc c hc)))⟩
 clear hg hR0 hR2 e1 hput hwf hkc HG HX HY HB HO hbG HR HRC HBW hen
 go_upto_region 8 with fail
 generalize W2.setCell ⟨b, off + k * 7 + 1, none⟩ (.bool true) = W3 at *
 have hz3 := uh HZ3
 clear y4 yl x1 f1
 have hx3 := uh HX3
 have z2 := Box.at hx3 2 _ rfl
 have z3 := Box.at hx3 3 _ rfl
 simp only [ga, gb, gc] at z2 z3
 obtain ⟨_, _, hq, RI⟩ := open_Chain (uh HRC3)
 simp only [List.cons.injEq, Value.slice.injEq, and_true, true_and] at hq
 obtain ⟨rfl, rfl⟩ := hq
 have HLA : Hid (Calls Tryz.prog 71 #[.pointer (some ⟨w.heap.size, 2, none⟩), .int .i64 ((k : Int) + 1)] W3 fun e w' => e = .returned (.int .i64 (placeC x.chain.ids ((k : Int) + 1))) ∧ w' = W3) := l10AtO w.heap.size 2 a3 d3 x.chain ((k : Int) + 1) W3 ⟨z2, z3⟩ RI
 have zl := hx3.lt
 clear z2 z3 RI hx3 HRC3
 go_wp2_with fail
 refine (uh HLA).mono ?_
 rintro e w8 ⟨rfl, h8⟩
 subst w8
 clear HLA
 by_cases d3' : 0 ≤ placeC x.chain.ids ((k : Int) + 1)
 ·
  have hd3 : decide (0 ≤ placeC x.chain.ids ((k : Int) + 1)) = true := by simpa using d3'
  rw [if_pos d3'] at HP
  clear d3'
  generalize placeC x.chain.ids ((k : Int) + 1) = pp at *
  have hg := uh HG3
  have hR2 := uh HR2
  have y4 := Box.at hg 4 _ rfl
  have z2 := Box.at (uh HX3) 2 _ rfl
  simp only [ga, gb, gc] at y4 z2
  have yl := hg.lt
  have x1 : W3.cell? ⟨b, off + k * 7 + 2, none⟩ = some (.int .i64 x.nodes[k].epoch) := hR2.cells 2 (by decide)
  have f1 : W3.frozen? ⟨b, off + k * 7 + 2, none⟩ = false := hR2.soft _
  have hR4 := hR2.set 2 (.int .i64 x.chain.epoch) (by decide)
  simp only [List.set_cons_succ, List.set_cons_zero] at hR4
  have e4 : Ext (fun q => q = b) W3 (W3.setCell ⟨b, off + k * 7 + 2, none⟩ (.int .i64 x.chain.epoch)) := (Ext.refl _ _).setCell _ _ rfl
  replace HP := yh ((uh HP).trans (congrArg (fun z => (⟨0, true, z⟩ : DWorldResult)) (putNode_eq (y := nextW x) (k := k) (uh HIDK))))
  have hO : WSt (W3.setCell ⟨b, off + k * 7 + 2, none⟩ (.int .i64 x.chain.epoch)) wa.heap.size W1.heap.size (fun c => c < 0 ∨ c < wa.heap.size ∨ c = W1.heap.size) [.int .i64 x.now, .int .i64 (x.events + 1), .int .i64 x.chain.epoch, .slice a3w x.chain.ids.length d3w, .slice (some ⟨b, off, none⟩) x.nodes.length d4w, .slice a5w x.msgs.length d5w, .slice a6w x.history.length d6w] (setN (nextW x) k { x.nodes[k] with up := true, epoch := x.chain.epoch }) := uh HPUT _ { x.nodes[k] with up := true, epoch := x.chain.epoch } rfl ⟨(uh HWF).1, uh HEPW, (uh HWF).2.2.1, (uh HWF).2.2.2.1, (uh HWF).2.2.2.2⟩ hR4
  have HO := yh hO
  have HG := yh (hg.ext e4 (fun e => hbg e.symm))
  have HY := yh ((uh HY3).ext e4 (by omega))
  have HB := yh ((uh HB3).trans (e4.below (B := w.heap.size) (by omega) (fun c hc e => by omega)))
  clear hg hR2 hR4 e4 hO HG3 HY3 HB3 HX3 HR2 HPUT HWF
  go_upto_region 10 with fail
  generalize hW9 : W3.setCell ⟨b, off + k * 7 + 2, none⟩ (.int .i64 x.chain.epoch) = W9 at *
  clear hW9 y4 z2 yl x1 f1 zl
  have y0 := Box.at (uh HG) 0 _ rfl
  have y1 := Box.at (uh HG) 1 _ rfl
  have y2 := Box.at (uh HG) 2 _ rfl
  have y3 := Box.at (uh HG) 3 _ rfl
  have y4 := Box.at (uh HG) 4 _ rfl
  have y5 := Box.at (uh HG) 5 _ rfl
  have y6 := Box.at (uh HG) 6 _ rfl
  simp only [ga, gb, gc] at y0 y1 y2 y3 y4 y5 y6
  have yl := (uh HG).lt
  have r0 := Box.at (uh HY) 0 _ rfl
  have r1 := Box.at (uh HY) 1 _ rfl
  have r2 := Box.at (uh HY) 2 _ rfl
  have r3 := Box.at (uh HY) 3 _ rfl
  have r4 := Box.at (uh HY) 4 _ rfl
  have r5 := Box.at (uh HY) 5 _ rfl
  have r6 := Box.at (uh HY) 6 _ rfl
  have r7 := Box.at (uh HY) 7 _ rfl
  have r8 := Box.at (uh HY) 8 _ rfl
  simp only [ga, gb, gc] at r0 r1 r2 r3 r4 r5 r6 r7 r8
  have rl := (uh HY).lt
  have rf := Box.soft (uh HY)
  have e9 : Ext (fun q => q = w.heap.size + 1) W9 (setAll W9 (w.heap.size + 1) 0 [.int .i64 0, .bool true, .int .i64 x.now, .int .i64 (x.events + 1), .int .i64 x.chain.epoch, .slice a3w x.chain.ids.length d3w, .slice (some ⟨b, off, none⟩) x.nodes.length d4w, .slice a5w x.msgs.length d5w, .slice a6w x.history.length d6w]) := ext_setAll _ (Ext.refl _ _) _ _ _ rfl
  have HO9 := yh (okR_lies (m := true) (((uh HO).ext e9 (fun c h1 h2 h3 => h2 (Or.inr (Or.inl (by omega))))).liesIn (B := 0) (fun c hc => by omega)))
  have HB9 := yh (below_setAll (uh HB) (w.heap.size + 1) 0 [.int .i64 0, .bool true, .int .i64 x.now, .int .i64 (x.events + 1), .int .i64 x.chain.epoch, .slice a3w x.chain.ids.length d3w, .slice (some ⟨b, off, none⟩) x.nodes.length d4w, .slice a5w x.msgs.length d5w, .slice a6w x.history.length d6w] (by omega))
  clear e9 HO HG HY HB
  go_wp2_with fail
  refine bodyPost_ret (v := .agg #[.int .i64 0, .bool true, .int .i64 x.now, .int .i64 (x.events + 1), .int .i64 x.chain.epoch, .slice a3w x.chain.ids.length d3w, .slice (some ⟨b, off, none⟩) x.nodes.length d4w, .slice a5w x.msgs.length d5w, .slice a6w x.history.length d6w]) (by simp [results, Tryz.results25, go_sem, r0, r1, r2, r3, r4, r5, r6, r7, r8]) rfl ?_
  rw [uh HP]
  exact ⟨_, rfl, (uh HO9).reads, uh HB9⟩
 have hd3 : decide (0 ≤ placeC x.chain.ids ((k : Int) + 1)) = false := by simpa using d3'
 rw [if_neg d3'] at HP
 clear d3'
 generalize placeC x.chain.ids ((k : Int) + 1) = pp at *
 replace HP := yh ((uh HP).trans (congrArg (fun z => (⟨0, true, z⟩ : DWorldResult)) (putNode_eq (y := nextW x) (k := k) (uh HIDK))))
 have hO : WSt W3 wa.heap.size W1.heap.size (fun c => c < 0 ∨ c < wa.heap.size ∨ c = W1.heap.size) [.int .i64 x.now, .int .i64 (x.events + 1), .int .i64 x.chain.epoch, .slice a3w x.chain.ids.length d3w, .slice (some ⟨b, off, none⟩) x.nodes.length d4w, .slice a5w x.msgs.length d5w, .slice a6w x.history.length d6w] (setN (nextW x) k { x.nodes[k] with up := true, epoch := x.nodes[k].epoch }) := uh HPUT _ { x.nodes[k] with up := true, epoch := x.nodes[k].epoch } rfl (uh HWF) (uh HR2)
 have HO := yh hO
 have HG := HG3
 have HY := HY3
 have HB := HB3
 clear hO HG3 HY3 HB3 HX3 HR2 HPUT HWF
 go_upto_region 10 with fail
 generalize W3 = W9 at *
 clear zl
 have y0 := Box.at (uh HG) 0 _ rfl
 have y1 := Box.at (uh HG) 1 _ rfl
 have y2 := Box.at (uh HG) 2 _ rfl
 have y3 := Box.at (uh HG) 3 _ rfl
 have y4 := Box.at (uh HG) 4 _ rfl
 have y5 := Box.at (uh HG) 5 _ rfl
 have y6 := Box.at (uh HG) 6 _ rfl
 simp only [ga, gb, gc] at y0 y1 y2 y3 y4 y5 y6
 have yl := (uh HG).lt
 have r0 := Box.at (uh HY) 0 _ rfl
 have r1 := Box.at (uh HY) 1 _ rfl
 have r2 := Box.at (uh HY) 2 _ rfl
 have r3 := Box.at (uh HY) 3 _ rfl
 have r4 := Box.at (uh HY) 4 _ rfl
 have r5 := Box.at (uh HY) 5 _ rfl
 have r6 := Box.at (uh HY) 6 _ rfl
 have r7 := Box.at (uh HY) 7 _ rfl
 have r8 := Box.at (uh HY) 8 _ rfl
 simp only [ga, gb, gc] at r0 r1 r2 r3 r4 r5 r6 r7 r8
 have rl := (uh HY).lt
 have rf := Box.soft (uh HY)
 have e9 : Ext (fun q => q = w.heap.size + 1) W9 (setAll W9 (w.heap.size + 1) 0 [.int .i64 0, .bool true, .int .i64 x.now, .int .i64 (x.events + 1), .int .i64 x.chain.epoch, .slice a3w x.chain.ids.length d3w, .slice (some ⟨b, off, none⟩) x.nodes.length d4w, .slice a5w x.msgs.length d5w, .slice a6w x.history.length d6w]) := ext_setAll _ (Ext.refl _ _) _ _ _ rfl
 have HO9 := yh (okR_lies (m := true) (((uh HO).ext e9 (fun c h1 h2 h3 => h2 (Or.inr (Or.inl (by omega))))).liesIn (B := 0) (fun c hc => by omega)))
 have HB9 := yh (below_setAll (uh HB) (w.heap.size + 1) 0 [.int .i64 0, .bool true, .int .i64 x.now, .int .i64 (x.events + 1), .int .i64 x.chain.epoch, .slice a3w x.chain.ids.length d3w, .slice (some ⟨b, off, none⟩) x.nodes.length d4w, .slice a5w x.msgs.length d5w, .slice a6w x.history.length d6w] (by omega))
 clear e9 HO HG HY HB
 go_wp2_with fail
 refine bodyPost_ret (v := .agg #[.int .i64 0, .bool true, .int .i64 x.now, .int .i64 (x.events + 1), .int .i64 x.chain.epoch, .slice a3w x.chain.ids.length d3w, .slice (some ⟨b, off, none⟩) x.nodes.length d4w, .slice a5w x.msgs.length d5w, .slice a6w x.history.length d6w]) (by simp [results, Tryz.results25, go_sem, r0, r1, r2, r3, r4, r5, r6, r7, r8]) rfl ?_
 rw [uh HP]
 exact ⟨_, rfl, (uh HO9).reads, uh HB9⟩
def wfN (n : DNode) : Prop := (Lit.int .i64 n.id).wf = true ∧ (Lit.int .i64 n.epoch).wf = true ∧ (Lit.int .i64 n.lease).wf = true ∧ (Lit.int .i64 n.sure).wf = true ∧ (Lit.int .i64 n.clean).wf = true
theorem wown_upd {W : World} {lo g k : Nat} {v3 v4 v5 v6 : Value} {y : DWorld} (h : WOwn W lo g [.int .i64 y.now, .int .i64 y.events, .int .i64 y.chain.epoch, v3, v4, v5, v6] y) (hk : k < y.nodes.length) :
  ∃ b off cap an dn, v4 = .slice (some ⟨b, off, none⟩) y.nodes.length cap ∧ lo ≤ b ∧ b < W.heap.size ∧ b ≠ g ∧ RowAt W W b (off + k * 7) 7 [.int .i64 y.nodes[k].id, .bool y.nodes[k].up, .int .i64 y.nodes[k].epoch, .int .i64 y.nodes[k].lease, .slice an y.nodes[k].writes.length dn, .int .i64 y.nodes[k].sure, .int .i64 y.nodes[k].clean] [] ∧ wfN y.nodes[k] ∧ (∀ V, Ext (fun q => q = b) W V → Lay.tChain.Reads V [.int .i64 y.chain.epoch, v3] y.chain) ∧
   ∀ (W2 : World) (n : DNode), n.writes = y.nodes[k].writes → wfN n → RowAt W W2 b (off + k * 7) 7 [.int .i64 n.id, .bool n.up, .int .i64 n.epoch, .int .i64 n.lease, .slice an y.nodes[k].writes.length dn, .int .i64 n.sure, .int .i64 n.clean] [] → WOwn W2 lo g [.int .i64 y.now, .int .i64 y.events, .int .i64 y.chain.epoch, v3, v4, v5, v6] (setN y k n) := by
 obtain ⟨bl, O, hgb, hbl⟩ := h
 obtain ⟨a3, d3, a4, d4, a5, d5, a6, d6, g2, g4, g5, g6, hq, rfl, O2, O4, O5, O6, w0, w1⟩ := own_World O
 simp only [List.cons.injEq, and_true, true_and] at hq
 obtain ⟨rfl, rfl, rfl, rfl⟩ := hq
 have hnd := O.2.1
 obtain ⟨b, off, cap, r, e4, rfl, hA⟩ := Lay.apart_of_own O4 (by omega)
 simp only [Value.slice.injEq, true_and] at e4
 obtain ⟨rfl, rfl⟩ := e4
 obtain ⟨row, blk, hR, hOn, hbk, hsub, hput⟩ := Lay.own_upd O4 hk
 obtain ⟨an, dn, gn, rfl, rfl, hOw, n0, n2, n3, n5, n6⟩ := own_Node hOn
 have hbin := hbl b (by simp)
 have hbg : b ≠ g := fun e => hgb (by rw [← e]; simp)
 rw [List.nodup_append, List.nodup_append] at hnd
 obtain ⟨-, ⟨-, -, x4⟩, x2⟩ := hnd
 refine ⟨b, off, d4, an, dn, rfl, hbin.1, hbin.2, hbg, ⟨hR.len, hR.cells, hR.others, hR.soft, hR.lt, Ext.refl _ _⟩, ⟨n0, n2, n3, n5, n6⟩, fun V e => (O2.ext e (fun c hc e2 => x2 c hc b (by simp) e2)).reads, fun W2 n hw hwf hR2 => ?_⟩
 have hE : Ext (fun q => q = b) W W2 := hR2.ext.mono (fun k _ q => by rcases q with q | q; exact q; cases q)
 obtain ⟨m0, m2, m3, m5, m6⟩ := hwf
 have hOw2 := hOw.ext hE (fun c hc e => hbk (e ▸ hc))
 rw [← hw] at hOw2
 have hN := mkOwn_Node (x := n) hOw2 m0 m2 m3 m5 m6 hOw.2.1
 have O4' := hput W2 _ n ⟨hR2.len, hR2.cells, hR2.others, hR2.soft, hR2.lt, hE.mono (fun q _ e => Or.inl e)⟩ (by rw [← hw]; exact hN)
 have P2 := O2.ext hE (fun c hc e => x2 c hc b (by simp) e)
 have P5 := O5.ext hE (fun c hc e => x4 b (by simp) c (by simp [hc]) e.symm)
 have P6 := O6.ext hE (fun c hc e => x4 b (by simp) c (by simp [hc]) e.symm)
 exact ⟨_, mkOwn_World (x := setN y k n) P2 O4' P5 P6 w0 w1 O.2.1, hgb, fun c hc => ⟨(hbl c hc).1, Nat.lt_of_lt_of_le (hbl c hc).2 hE.size⟩⟩
def startN (y : DWorld) (n : DNode) : DNode := { n with up := true, epoch := if 0 ≤ placeC y.chain.ids n.id then y.chain.epoch else n.epoch }
def startC (n : DNode) : Int := if n.up = true then 8 else 0
theorem startStepC (L k : Nat) (p : Nat) (y : DWorld) (W : World) (hp : Box 0 #[.int .i64 ((k : Int) + 1)] 2 W p) (lp : p < L) (hk : k < y.nodes.length) (hn5 : y.nodes.length ≤ 5) (hid : y.nodes[k].id = (k : Int) + 1) :
  StepC L 126 #[.pointer (some ⟨p, 0, none⟩)] y (startC y.nodes[k]) true (setN y k (startN y y.nodes[k])) W := by
 intro g lo v3 v4 v5 v6 hL hg hlo hO
 show Calls Tryz.prog 126 #[.pointer (some ⟨g, 0, none⟩), .pointer (some ⟨p, 0, none⟩)] W _
 have HO0 := yh hO
 obtain ⟨a3, d3, a4, d4, a5, d5, a6, d6, hq, RC, -, -, -⟩ := open_World hO.reads
 simp only [List.cons.injEq, and_true, true_and] at hq
 obtain ⟨rfl, rfl, rfl, rfl⟩ := hq
 obtain ⟨b, off, cap, an, dn, e4, hb1, hb2, hbg, hR0, hwf, hkc, hput⟩ := wown_upd hO hk
 simp only [Value.slice.injEq, true_and] at e4
 obtain ⟨rfl, rfl⟩ := e4
 have HEP := yh (wf_World hO.reads).2.2
 have g4 : W.drew.cell? ⟨g, 4, none⟩ = some (.slice (some ⟨b, off, none⟩) y.nodes.length d4) := Box.at hg 4 _ rfl
 have hp0 : W.drew.cell? ⟨p, 0, none⟩ = some (.int .i64 ((k : Int) + 1)) := Box.at hp 0 _ rfl
 have hw1 : IntKind.i64.wrap (k : Int) = (k : Int) := by
  rw [IntKind.wrap_i64]
  omega
 have hki : (k : Int) < (y.nodes.length : Int) := by omega
 have hki0 : (0 : Int) ≤ (k : Int) := by omega
 have HP : Hid (Box 0 #[.int .i64 y.now, .int .i64 y.events, .int .i64 y.chain.epoch, .slice a3 y.chain.ids.length d3, .slice (some ⟨b, off, none⟩) y.nodes.length d4, .slice a5 y.msgs.length d5, .slice a6 y.history.length d6] 36 W.drew g ∧ Box 0 #[.int .i64 ((k : Int) + 1)] 2 W.drew p ∧ RowAt W W.drew b (off + k * 7) 7 [.int .i64 y.nodes[k].id, .bool y.nodes[k].up, .int .i64 y.nodes[k].epoch, .int .i64 y.nodes[k].lease, .slice an y.nodes[k].writes.length dn, .int .i64 y.nodes[k].sure, .int .i64 y.nodes[k].clean] [] ∧ Lay.tChain.Reads W.drew [.int .i64 y.chain.epoch, .slice a3 y.chain.ids.length d3] y.chain ∧ Ext (fun q => lo ≤ q) W W.drew ∧ ∀ V, Ext (fun q => q = b) W.drew V → Lay.tChain.Reads V [.int .i64 y.chain.epoch, .slice a3 y.chain.ids.length d3] y.chain) :=
  ⟨hg, hp, ⟨hR0.len, hR0.cells, hR0.others, hR0.soft, hR0.lt, (Ext.refl _ _).drew 1⟩, RC.drew 1, (Ext.refl _ _).drew 1, fun V e => hkc V (((Ext.refl _ W).drew 1).trans e)⟩
 have HPUT := yh hput
 have HWF := yh hwf
 have HID := yh hid
 have HB1 := yh hb1
 have HBG := yh hbg
 clear hg hp hO hR0 RC hput hwf hid HO0
 generalize hnn : y.nodes[k] = n at *
 clear hnn
 go_enter Tryz.func126, Tryz.ntmps126
 go_upto_region 1 with fail
 refine wp_region_noPanic ?_
 refine wp_region_held_drew (S := fun w' => w' = W.drew) (by kernel_rfl) rfl (fun zq => ?_)
 generalize W.drew = wD at zq g4 hp0 HP ⊢
 refine tkH (i := 0) (oi := ⟨some 6, .move (.tmp 0), 58, "l12_world.go:373", #[], none⟩) (v := ?va0) rfl ?ha0 zq ?ra0
 case ha0 => intro _ _; go_simp; try with_reducible rfl
 refine tkH (i := 1) (oi := ⟨some 7, .nilCheck (.tmp 6), 0, "l12_world.go:373", #[⟨0, .data⟩], none⟩) (v := ?va1) rfl ?ha1 zq ?ra1
 case ha1 => intro _ _; go_simp; try with_reducible rfl
 refine tkH (i := 2) (oi := ⟨some 8, .fieldAddr 36 (.tmp 7) 3, 0, "l12_world.go:373", #[⟨1, .data⟩], none⟩) (v := ?va2) rfl ?ha2 zq ?ra2
 case ha2 => intro _ _; go_simp; try with_reducible rfl
 refine tkH (i := 3) (oi := ⟨some 9, .load 32 (.tmp 8), 32, "l12_world.go:373", #[⟨2, .data⟩], none⟩) (v := ?va3) rfl ?ha3 zq ?ra3
 case ha3 =>
  intro wS hSw
  subst hSw
  (try dsimp only at hSw)
  go_simp
  try with_reducible rfl
 refine tkH (i := 4) (oi := ⟨some 10, .load 2 (.tmp 1), 2, "l12_world.go:373", #[], none⟩) (v := ?va4) rfl ?ha4 zq ?ra4
 case ha4 =>
  intro wS hSw
  subst hSw
  (try dsimp only at hSw)
  go_simp
  try with_reducible rfl
 refine tkH (i := 5) (oi := ⟨some 11, .binOp .sub 2 (.tmp 10) (.const (.int .i64 1)) 2, 2, "l12_world.go:373", #[⟨4, .data⟩], none⟩) (v := ?va5) rfl ?ha5 zq ?ra5
 case ha5 => intro _ _; go_simp; try with_reducible rfl
 refine tkH (i := 6) (oi := ⟨some 12, .indexAddr 32 (.tmp 9) (.tmp 11), 0, "l12_world.go:373", #[⟨3, .data⟩, ⟨5, .data⟩], none⟩) (v := ?va6) rfl ?ha6 zq ?ra6
 case ha6 => intro _ _; go_simp; try with_reducible rfl
 refine tkH (i := 7) (oi := ⟨some 5, .assign (.tmp 12), 102, "l12_world.go:373", #[⟨6, .data⟩, ⟨0, .phase⟩, ⟨1, .phase⟩, ⟨2, .phase⟩, ⟨3, .phase⟩, ⟨4, .phase⟩, ⟨5, .phase⟩, ⟨6, .phase⟩], none⟩) (v := ?va7) rfl ?ha7 zq ?ra7
 case ha7 => intro _ _; go_simp; try with_reducible rfl
 refine wpAnyH_done (by kernel_rfl) ?_ _
 refine NoPanic.normal ?_
 clear zq g4 hp0
 obtain ⟨hg, hp, hR, hRC, hEX, hKC⟩ := uh HP
 have HEX := yh hEX
 have HKC := yh hKC
 have HG := yh hg
 have HPP := yh hp
 have HRW := yh hR
 have HRC := yh hRC
 have x1 : wD.cell? ⟨b, off + k * 7 + 1, none⟩ = some (.bool n.up) := hR.cells 1 (by decide)
 clear HP hg hp hR hRC hEX hKC
 have hgl := (uh HG).lt
 have hbl2 : b < wD.heap.size := (uh HRW).lt
 cases hup : n.up
 ·
  have HC : Hid (startC n = 0) := by show startC n = 0; rw [startC, hup]; rfl
  rw [hup] at x1
  have f1 : wD.frozen? ⟨b, off + k * 7 + 1, none⟩ = false := (uh HRW).soft _
  have hR2 := (uh HRW).set 1 (.bool true) (by decide)
  simp only [List.set_cons_succ, List.set_cons_zero] at hR2
  have e1 : Ext (fun q => q = b) wD (wD.setCell ⟨b, off + k * 7 + 1, none⟩ (.bool true)) := (Ext.refl _ _).setCell _ _ rfl
  replace HG := yh ((uh HG).ext e1 (fun e => uh HBG e.symm))
  have hpb : p ≠ b := by have := uh HB1; omega
  replace HPP := yh ((uh HPP).ext e1 hpb)
  replace HEX := yh ((uh HEX).trans (e1.mono (fun q _ e => by rw [e]; exact uh HB1)))
  have HR2 := yh hR2
  have HRC2 : Hid (Lay.tChain.Reads (wD.setCell ⟨b, off + k * 7 + 1, none⟩ (.bool true)) [.int .i64 y.chain.epoch, .slice a3 y.chain.ids.length d3] y.chain) := uh HKC _ e1
  clear e1 hR2 HRC
  go_upto_region 5 with fail
  generalize hWW : wD.setCell ⟨b, off + k * 7 + 1, none⟩ (.bool true) = w2 at *
  clear hWW x1 f1
  have g2 : w2.drew.cell? ⟨g, 2, none⟩ = some (.int .i64 y.chain.epoch) := Box.at (uh HG) 2 _ rfl
  have g3 : w2.drew.cell? ⟨g, 3, none⟩ = some (.slice a3 y.chain.ids.length d3) := Box.at (uh HG) 3 _ rfl
  have hp0 : w2.drew.cell? ⟨p, 0, none⟩ = some (.int .i64 ((k : Int) + 1)) := Box.at (uh HPP) 0 _ rfl
  have HL : Hid (Calls Tryz.prog 127 #[.agg #[.int .i64 y.chain.epoch, .slice a3 y.chain.ids.length d3], .int .i64 ((k : Int) + 1)] w2.drew fun e w' => e = .returned (.bool (decide (0 ≤ placeC y.chain.ids ((k : Int) + 1)))) ∧ Below w2.drew.heap.size w2.drew w') := isInChainC _ y.chain _ w2.drew ((uh HRC2).drew 1)
  have gl : g < w2.drew.heap.size := (uh HG).lt
  have pl : p < w2.drew.heap.size := (uh HPP).lt
  have HALL : Hid (Box 0 #[.int .i64 y.now, .int .i64 y.events, .int .i64 y.chain.epoch, .slice a3 y.chain.ids.length d3, .slice (some ⟨b, off, none⟩) y.nodes.length d4, .slice a5 y.msgs.length d5, .slice a6 y.history.length d6] 36 w2.drew g ∧ RowAt W w2.drew b (off + k * 7) 7 [.int .i64 n.id, .bool true, .int .i64 n.epoch, .int .i64 n.lease, .slice an n.writes.length dn, .int .i64 n.sure, .int .i64 n.clean] [] ∧ Ext (fun q => lo ≤ q) W w2.drew) :=
   ⟨uh HG, ⟨(uh HR2).len, (uh HR2).cells, (uh HR2).others, (uh HR2).soft, (uh HR2).lt, (uh HR2).ext.drew 1⟩, (uh HEX).drew 1⟩
  generalize hpl : decide (0 ≤ placeC y.chain.ids ((k : Int) + 1)) = q at *
  have HPL := yh hpl
  clear hpl HG HPP HR2 HEX HRC2
  refine wp_region_noPanic ?_
  refine wp_region_held_drew (S := fun w' => Below w2.drew.heap.size w2.drew w') (by kernel_rfl) (Below.refl _ _) (fun zq => ?_)
  generalize w2.drew = wD at zq g2 g3 hp0 HL HALL gl pl ⊢
  refine tkH (i := 0) (oi := ⟨some 20, .move (.tmp 0), 58, "l12_world.go:378", #[], none⟩) (v := ?vc0) rfl ?hc0 zq ?rc0
  case hc0 => intro _ _; go_simp; try with_reducible rfl
  refine tkH (i := 1) (oi := ⟨some 21, .nilCheck (.tmp 20), 0, "l12_world.go:378", #[⟨0, .data⟩], none⟩) (v := ?vc1) rfl ?hc1 zq ?rc1
  case hc1 => intro _ _; go_simp; try with_reducible rfl
  refine tkH (i := 2) (oi := ⟨some 22, .fieldAddr 36 (.tmp 21) 2, 0, "l12_world.go:378", #[⟨1, .data⟩], none⟩) (v := ?vc2) rfl ?hc2 zq ?rc2
  case hc2 => intro _ _; go_simp; try with_reducible rfl
  refine tkH (i := 3) (oi := ⟨some 23, .load 31 (.tmp 22), 31, "l12_world.go:378", #[⟨2, .data⟩], none⟩) (v := ?vc3) rfl ?hc3 zq ?rc3
  case hc3 =>
   intro wS hSw
   have q2 := (hSw.cell (p := ⟨g, 2, none⟩) gl).trans g2
   have q3 := (hSw.cell (p := ⟨g, 3, none⟩) gl).trans g3
   clear hSw
   (try dsimp only at hSw)
   go_simp
   try with_reducible rfl
  refine tkH (i := 4) (oi := ⟨some 24, .load 2 (.tmp 1), 2, "l12_world.go:378", #[], none⟩) (v := ?vc4) rfl ?hc4 zq ?rc4
  case hc4 =>
   intro wS hSw
   have q2 := (hSw.cell (p := ⟨p, 0, none⟩) pl).trans hp0
   clear hSw
   (try dsimp only at hSw)
   go_simp
   try with_reducible rfl
  refine rdH (i := 5) (oi := ⟨some 25, .call { callee := .value (.func 127), args := #[.tmp 23, .tmp 24], argTypes := #[31, 2] }, 4, "l12_world.go:378", #[⟨3, .data⟩, ⟨4, .data⟩], none⟩) rfl (fun K hK => ?_)
  go_simp
  go_at_call 127
  refine (uh HL).mono ?_
  rintro e u3 ⟨rfl, hb3⟩
  try go_wp2_with fail
  refine hK.out _ _ (zq.trans (hb3.mono zq.size)) (fun zq => ?_)
  clear hK K
  try simp only [Act.put, pz, py, px]
  refine wpAnyH_done (by kernel_rfl) ?_ _
  refine NoPanic.normal ?_
  clear zq g2 g3 hp0 HL gl pl
  obtain ⟨hG, hR, hX⟩ := uh HALL
  have hG3 := hG.keep hb3
  have hR3 := hR.call (g := []) (ext_of_below hb3 _) (fun _ h => h) (by simp)
  have hX3 := hX.trans (ext_of_below hb3 (fun q => lo ≤ q))
  have HG3 := yh hG3
  have HR3 := yh hR3
  have HX3 := yh hX3
  clear HALL hG hR hX hb3 hG3 hR3 hX3
  cases q
  ·
   have hs : startN y n = { n with up := true } := by
    have hpl := uh HPL
    have hq : ¬ 0 ≤ placeC y.chain.ids n.id := by rw [uh HID]; simpa using hpl
    rw [startN, if_neg hq]
   have hO := uh HPUT u3 (startN y n) rfl (by rw [hs]; exact uh HWF) (by rw [hs]; exact uh HR3)
   have HO := yh hO
   clear hs hO HPUT HWF HR3
   go_wp2_with fail
   go_ret2
   exact ⟨true, by rw [uh HC]; rfl, fun _ => ⟨rfl, _, _, _, _, uh HG3, uh HO⟩, uh HX3⟩
  have hs : startN y n = { n with up := true, epoch := y.chain.epoch } := by
   have hpl := uh HPL
   have hq : 0 ≤ placeC y.chain.ids n.id := by rw [uh HID]; simpa using hpl
   rw [startN, if_pos hq]
  have x2 : u3.cell? ⟨b, off + k * 7 + 2, none⟩ = some (.int .i64 n.epoch) := (uh HR3).cells 2 (by decide)
  have f2 : u3.frozen? ⟨b, off + k * 7 + 2, none⟩ = false := (uh HR3).soft _
  have g2 : u3.cell? ⟨g, 2, none⟩ = some (.int .i64 y.chain.epoch) := Box.at (uh HG3) 2 _ rfl
  have hgl3 := (uh HG3).lt
  have hbl3 := (uh HR3).lt
  have hR4 := (uh HR3).set 2 (.int .i64 y.chain.epoch) (by decide)
  simp only [List.set_cons_succ, List.set_cons_zero] at hR4
  have e4 : Ext (fun q => q = b) u3 (u3.setCell ⟨b, off + k * 7 + 2, none⟩ (.int .i64 y.chain.epoch)) := (Ext.refl _ _).setCell _ _ rfl
  have HG4 := yh ((uh HG3).ext e4 (fun e => uh HBG e.symm))
  have HX4 := yh ((uh HX3).trans (e4.mono (fun q _ e => by rw [e]; exact uh HB1)))
  have hO := uh HPUT _ (startN y n) rfl (by rw [hs]; exact ⟨(uh HWF).1, uh HEP, (uh HWF).2.2.1, (uh HWF).2.2.2.1, (uh HWF).2.2.2.2⟩) (by rw [hs]; exact hR4)
  have HO := yh hO
  clear hs hO HPUT HWF HR3 HG3 HX3 hR4 e4
  go_wp2_with fail
  go_ret2
  exact ⟨true, by rw [uh HC]; rfl, fun _ => ⟨rfl, _, _, _, _, uh HG4, uh HO⟩, uh HX4⟩
 rw [hup] at x1
 have HC : Hid (startC n = 8) := if_pos hup
 clear HPUT HWF HRC HKC HG HPP HRW
 go_wp2_with fail
 go_ret2
 exact ⟨false, by rw [uh HC]; rfl, fun h0 => by rw [uh HC] at h0; simp at h0, uh HEX⟩
theorem startC_bd (n : DNode) : -1000000000 ≤ startC n ∧ startC n ≤ 1000000000 := by
 unfold startC
 split <;> omega
theorem startW_eq (x : DWorld) (id : Int) : steppedR x (idFaultR x id) (startC (nodeOf x id)) true (putNode (nextW x) (startN (nextW x) (nodeOf x id))) = startWR x id := by
 rw [steppedR_eq, startWR]
 by_cases h : askedW x id ≠ 0
 ·
  rw [if_pos h, if_pos h]
 rw [if_neg h, if_neg h]
 have h0 : idFaultR x id = 0 := by
  rw [askedW_eq] at h
  refine Decidable.byContradiction fun q => h ?_
  rw [if_pos q]
  exact q
 obtain ⟨h1, h2⟩ := idFault_zero h0
 obtain ⟨k, hk, rfl⟩ := nodeIn_at h2
 have hid := ((worldFault_zero h1).nodes k hk).2.1
 rw [nodeOf_at hk, resW, startC]
 by_cases hu : x.nodes[k].up = true
 ·
  rw [if_pos hu, if_neg (by decide), if_pos hu]
 rw [if_neg hu, if_pos rfl, if_neg hu]
 simp only [startN, nextW, hid]
theorem startMake (id : Int) (w : World) :
  Calls Tryz.prog 72 #[.int .i64 id] w fun e w' => e = .returned (.func (.func 126) #[] #[.pointer (some ⟨w.heap.size, 0, none⟩)]) ∧ w' = (w.alloc (.cells #[.int .i64 id] 2)) := by
 have hmf : ∀ (fn : Fn) (first cap : Array Value) (w : World), (Instr.makeFunc fn first cap).run Tryz.prog w = .ok (.func fn first cap) w := fun _ _ _ _ => rfl
 go_enter Tryz.func72, Tryz.ntmps72
 go_wp2_with fail
 go_ret
 exact ⟨rfl, rfl⟩
theorem implStartWorld (cs : List Value) (x : DWorld) (id : Int) (w : World) (h : Lay.tWorld.Reads w cs x) (hf : Fits x) :
  Calls Tryz.prog 26 #[.agg cs.toArray, .int .i64 id] w fun e w' => ∃ cs', e = .returned (.agg cs'.toArray) ∧ Lay.tWorldResult.OwnIn w' cs' (startWR x id) w.heap.size w'.heap.size ∧ Below w.heap.size w w' := by
 obtain ⟨a3, d3, a4, d4, a5, d5, a6, d6, rfl, -, -, -, -⟩ := open_World h
 have nb1 : Below w.heap.size w (w.alloc (.cells #[.int .i64 x.now, .int .i64 x.events, .int .i64 x.chain.epoch, .slice a3 x.chain.ids.length d3, .slice a4 x.nodes.length d4, .slice a5 x.msgs.length d5, .slice a6 x.history.length d6] 36)) := (Below.refl _ _).alloc (Nat.le_refl _) _
 have nb : Below w.heap.size w ((w.alloc (.cells #[.int .i64 x.now, .int .i64 x.events, .int .i64 x.chain.epoch, .slice a3 x.chain.ids.length d3, .slice a4 x.nodes.length d4, .slice a5 x.msgs.length d5, .slice a6 x.history.length d6] 36)).alloc (.cells #[.int .i64 0, .bool false, .int .i64 0, .int .i64 0, .int .i64 0, .slice none 0 0, .slice none 0 0, .slice none 0 0, .slice none 0 0] 38)) := nb1.alloc (by simp) _
 have HX : Hid (Box 0 #[.int .i64 x.now, .int .i64 x.events, .int .i64 x.chain.epoch, .slice a3 x.chain.ids.length d3, .slice a4 x.nodes.length d4, .slice a5 x.msgs.length d5, .slice a6 x.history.length d6] 36 ((w.alloc (.cells #[.int .i64 x.now, .int .i64 x.events, .int .i64 x.chain.epoch, .slice a3 x.chain.ids.length d3, .slice a4 x.nodes.length d4, .slice a5 x.msgs.length d5, .slice a6 x.history.length d6] 36)).alloc (.cells #[.int .i64 0, .bool false, .int .i64 0, .int .i64 0, .int .i64 0, .slice none 0 0, .slice none 0 0, .slice none 0 0, .slice none 0 0] 38)) w.heap.size) := (newBox (Nat.zero_le _)).grow _
 have HY : Hid (Box 0 #[.int .i64 0, .bool false, .int .i64 0, .int .i64 0, .int .i64 0, .slice none 0 0, .slice none 0 0, .slice none 0 0, .slice none 0 0] 38 ((w.alloc (.cells #[.int .i64 x.now, .int .i64 x.events, .int .i64 x.chain.epoch, .slice a3 x.chain.ids.length d3, .slice a4 x.nodes.length d4, .slice a5 x.msgs.length d5, .slice a6 x.history.length d6] 36)).alloc (.cells #[.int .i64 0, .bool false, .int .i64 0, .int .i64 0, .int .i64 0, .slice none 0 0, .slice none 0 0, .slice none 0 0, .slice none 0 0] 38)) (w.heap.size + 1)) := newBoxAt (Nat.zero_le _) (by simp)
 have hz0 : ((w.alloc (.cells #[.int .i64 x.now, .int .i64 x.events, .int .i64 x.chain.epoch, .slice a3 x.chain.ids.length d3, .slice a4 x.nodes.length d4, .slice a5 x.msgs.length d5, .slice a6 x.history.length d6] 36)).alloc (.cells #[.int .i64 0, .bool false, .int .i64 0, .int .i64 0, .int .i64 0, .slice none 0 0, .slice none 0 0, .slice none 0 0, .slice none 0 0] 38)).heap.size = w.heap.size + 2 := by simp
 have HR := yh (h.later nb)
 have HB := yh nb
 have HFT := yh hf
 clear nb1 nb h hf
 go_enter Tryz.func26, Tryz.ntmps26
 go_upto_region 1 with fail
 generalize (w.alloc (.cells #[.int .i64 x.now, .int .i64 x.events, .int .i64 x.chain.epoch, .slice a3 x.chain.ids.length d3, .slice a4 x.nodes.length d4, .slice a5 x.msgs.length d5, .slice a6 x.history.length d6] 36)).alloc (.cells #[.int .i64 0, .bool false, .int .i64 0, .int .i64 0, .int .i64 0, .slice none 0 0, .slice none 0 0, .slice none 0 0, .slice none 0 0] 38) = W1 at *
 have LI : Hid (∀ V, Below W1.heap.size W1 V → Calls Tryz.prog 57 #[.agg #[.int .i64 x.now, .int .i64 x.events, .int .i64 x.chain.epoch, .slice a3 x.chain.ids.length d3, .slice a4 x.nodes.length d4, .slice a5 x.msgs.length d5, .slice a6 x.history.length d6], .int .i64 id] V fun e w' => e = .returned (.int .i64 (idFaultR x id)) ∧ Below V.heap.size V w') := fun V hV => idFaultC _ x id V ((uh HR).later hV)
 have LS : Hid (∀ V, Below W1.heap.size W1 V → Calls Tryz.prog 56 #[.agg #[.int .i64 x.now, .int .i64 x.events, .int .i64 x.chain.epoch, .slice a3 x.chain.ids.length d3, .slice a4 x.nodes.length d4, .slice a5 x.msgs.length d5, .slice a6 x.history.length d6], .int .i64 (idFaultR x id), .func (.func 126) #[] #[.pointer (some ⟨V.heap.size, 0, none⟩)]] (V.alloc (.cells #[.int .i64 id] 2)) fun e w' => ∃ cs', e = .returned (.agg cs'.toArray) ∧ Lay.tWorldResult.OwnIn w' cs' (startWR x id) V.heap.size w'.heap.size ∧ Below V.heap.size V w') := by
  intro V hV
  have nv : Below V.heap.size V (V.alloc (.cells #[.int .i64 id] 2)) := (Below.refl _ _).alloc (Nat.le_refl _) _
  refine (steppedC 126 _ _ x (idFaultR x id) (startC (nodeOf x id)) true (putNode (nextW x) (startN (nextW x) (nodeOf x id))) _ (fun a W => rfl) ((uh HR).later (hV.trans (nv.mono hV.size))) (fun h0 => worldFault_zero (idFault_zero h0).1) (uh HFT) (startC_bd _) (idFault_bd x id) (fun h0 W hW => ?_)).mono ?_
  ·
   obtain ⟨h1, h2⟩ := idFault_zero h0
   have hok := worldFault_zero h1
   obtain ⟨k, hk, rfl⟩ := nodeIn_at h2
   have hn := hok.nodes k hk
   rw [nodeOf_at hk]
   rw [putNode_eq (k := k) (show (startN (nextW x) x.nodes[k]).id = (k : Int) + 1 from hn.2.1)]
   exact startStepC _ k (V.heap.size) (nextW x) W (Box.keep (newBox (Nat.zero_le _)) hW) (by simp) hk hok.some.2 hn.2.1
  rintro e w' ⟨cs', rfl, O, hb⟩
  rw [startW_eq] at O
  exact ⟨cs', rfl, O.mono nv.size (Nat.le_refl _), nv.trans (hb.mono nv.size)⟩
 have hx := uh HX
 have hxl := hx.lt
 have HD : Hid (Below W1.heap.size W1 W1.drew) := (Below.refl _ _).drew
 replace HY : Hid (Box 0 #[.int .i64 0, .bool false, .int .i64 0, .int .i64 0, .int .i64 0, .slice none 0 0, .slice none 0 0, .slice none 0 0, .slice none 0 0] 38 W1.drew (w.heap.size + 1)) := (uh HY)
 refine wp_region_noPanic ?_
 refine wp_region_held_drew (S := fun w' => Ext (fun q => w.heap.size < q) W1 w') (by kernel_rfl) ((Ext.refl _ _).drew 1) (fun zq => ?_)
 generalize W1.drew = wD at zq HD HY ⊢
 refine tkH (i := 0) (oi := ⟨some 5, .load 36 (.tmp 2), 36, "l12_world.go:424", #[], none⟩) (v := ?vf0) rfl ?hf0 zq ?rf0
 case hf0 =>
  intro wS hSw
  have bS := hx.ext hSw (fun e => Nat.lt_irrefl _ e)
  have q0 := Box.at bS 0 _ rfl
  have q1 := Box.at bS 1 _ rfl
  have q2 := Box.at bS 2 _ rfl
  have q3 := Box.at bS 3 _ rfl
  have q4 := Box.at bS 4 _ rfl
  have q5 := Box.at bS 5 _ rfl
  have q6 := Box.at bS 6 _ rfl
  simp only [ga, gb, gc] at q0 q1 q2 q3 q4 q5 q6
  clear bS hSw
  (try dsimp only at hSw)
  go_simp
  try with_reducible rfl
 refine tkH (i := 1) (oi := ⟨some 6, .load 36 (.tmp 2), 36, "l12_world.go:424", #[], none⟩) (v := ?vf1) rfl ?hf1 zq ?rf1
 case hf1 =>
  intro wS hSw
  have bS := hx.ext hSw (fun e => Nat.lt_irrefl _ e)
  have q0 := Box.at bS 0 _ rfl
  have q1 := Box.at bS 1 _ rfl
  have q2 := Box.at bS 2 _ rfl
  have q3 := Box.at bS 3 _ rfl
  have q4 := Box.at bS 4 _ rfl
  have q5 := Box.at bS 5 _ rfl
  have q6 := Box.at bS 6 _ rfl
  simp only [ga, gb, gc] at q0 q1 q2 q3 q4 q5 q6
  clear bS hSw
  (try dsimp only at hSw)
  go_simp
  try with_reducible rfl
 refine tkH (i := 2) (oi := ⟨some 7, .move (.tmp 1), 2, "l12_world.go:424", #[], none⟩) (v := ?vf2) rfl ?hf2 zq ?rf2
 case hf2 => intro _ _; go_simp; try with_reducible rfl
 refine tkH (i := 4) (oi := ⟨some 9, .move (.tmp 1), 2, "l12_world.go:424", #[], none⟩) (v := ?vf4) rfl ?hf4 zq ?rf4
 case hf4 => intro _ _; go_simp; try with_reducible rfl
 refine rdH (i := 3) (oi := ⟨some 8, .call { callee := .value (.func 57), args := #[.tmp 6, .tmp 7], argTypes := #[36, 2] }, 2, "l12_world.go:424", #[⟨1, .data⟩, ⟨2, .data⟩], none⟩) rfl (fun K hK => ?_)
 go_simp
 go_at_call 57
 refine (uh LI _ (uh HD)).mono ?_
 rintro e u1 ⟨rfl, hb1⟩
 have HD1 := yh ((uh HD).trans (hb1.mono (uh HD).size))
 have HY1 := yh ((uh HY).keep hb1)
 try go_wp2_with fail
 have hH1 := zq.trans (ext_of_below hb1 (fun q => w.heap.size < q))
 refine hK.out _ _ (zq.trans (ext_of_below hb1 _)) (fun zq => ?_)
 clear hK K
 try simp only [Act.put, pz, py, px]
 refine rdH (i := 5) (oi := ⟨some 10, .call { callee := .value (.func 72), args := #[.tmp 9], argTypes := #[2] }, 74, "l12_world.go:424", #[⟨4, .data⟩, ⟨3, .chain⟩], none⟩) rfl (fun K hK => ?_)
 go_simp
 go_at_call 72
 refine (startMake id _).mono ?_
 rintro e u2 ⟨rfl, rfl⟩
 try go_wp2_with fail
 refine hK.out _ _ (zq.trans (ext_of_below ((Below.refl _ _).alloc (Nat.le_refl _) _) _)) (fun zq => ?_)
 clear hK K
 try simp only [Act.put, pz, py, px]
 refine rdH (i := 6) (oi := ⟨some 11, .call { callee := .value (.func 56), args := #[.tmp 5, .tmp 8, .tmp 10], argTypes := #[36, 2, 74] }, 38, "l12_world.go:424", #[⟨0, .data⟩, ⟨3, .data⟩, ⟨5, .data⟩, ⟨5, .chain⟩], none⟩) rfl (fun K hK => ?_)
 go_simp
 go_at_call 56
 refine (uh LS u1 (uh HD1)).mono ?_
 rintro e u3 ⟨cs, rfl, O, hb3⟩
 obtain ⟨a5r, d5r, a6r, d6r, a7r, d7r, a8r, d8r, rfl, -⟩ := open_WorldResult O.reads
 have hy := (uh HY1).keep hb3
 try go_wp2_with fail
 refine hK.out _ _ (hH1.trans (ext_of_below hb3 _)) (fun zq => ?_)
 clear hK K
 try simp only [Act.put, pz, py, px]
 refine rdH (i := 7) (oi := ⟨none, .store 38 (.tmp 4) (.tmp 11), 0, "l12_world.go:424", #[⟨6, .data⟩, ⟨6, .chain⟩, ⟨0, .phase⟩, ⟨1, .phase⟩, ⟨2, .phase⟩, ⟨3, .phase⟩, ⟨4, .phase⟩, ⟨5, .phase⟩, ⟨6, .phase⟩], none⟩) rfl (fun K hK => ?_)
 generalize hyr : startWR x id = yr at *
 have HYR := yh hyr
 clear hyr
 have r0 := Box.at hy 0 _ rfl
 have r1 := Box.at hy 1 _ rfl
 have r2 := Box.at hy 2 _ rfl
 have r3 := Box.at hy 3 _ rfl
 have r4 := Box.at hy 4 _ rfl
 have r5 := Box.at hy 5 _ rfl
 have r6 := Box.at hy 6 _ rfl
 have r7 := Box.at hy 7 _ rfl
 have r8 := Box.at hy 8 _ rfl
 simp only [ga, gb, gc] at r0 r1 r2 r3 r4 r5 r6 r7 r8
 have rf := Box.soft hy
 have rl := hy.lt
 go_simp
 refine hK.out _ _ (Ext.setCell (Ext.setCell (Ext.setCell (Ext.setCell (Ext.setCell (Ext.setCell (Ext.setCell (Ext.setCell (Ext.setCell zq ⟨w.heap.size + 1, 0, none⟩ (.int .i64 yr.code) (Nat.lt_succ_self _)) ⟨w.heap.size + 1, 1, none⟩ (.bool yr.moved) (Nat.lt_succ_self _)) ⟨w.heap.size + 1, 2, none⟩ (.int .i64 yr.world.now) (Nat.lt_succ_self _)) ⟨w.heap.size + 1, 3, none⟩ (.int .i64 yr.world.events) (Nat.lt_succ_self _)) ⟨w.heap.size + 1, 4, none⟩ (.int .i64 yr.world.chain.epoch) (Nat.lt_succ_self _)) ⟨w.heap.size + 1, 5, none⟩ (.slice a5r yr.world.chain.ids.length d5r) (Nat.lt_succ_self _)) ⟨w.heap.size + 1, 6, none⟩ (.slice a6r yr.world.nodes.length d6r) (Nat.lt_succ_self _)) ⟨w.heap.size + 1, 7, none⟩ (.slice a7r yr.world.msgs.length d7r) (Nat.lt_succ_self _)) ⟨w.heap.size + 1, 8, none⟩ (.slice a8r yr.world.history.length d8r) (Nat.lt_succ_self _)) (fun zq => ?_)
 clear hK K
 try simp only [Act.put, pz, py, px]
 refine wpAnyH_done (by kernel_rfl) ?_ _
 refine NoPanic.normal ?_
 have hy9 := box_set9W hy (.int .i64 yr.code) (.bool yr.moved) (.int .i64 yr.world.now) (.int .i64 yr.world.events) (.int .i64 yr.world.chain.epoch) (.slice a5r yr.world.chain.ids.length d5r) (.slice a6r yr.world.nodes.length d6r) (.slice a7r yr.world.msgs.length d7r) (.slice a8r yr.world.history.length d8r)
 have e2 : Ext (fun q => q = w.heap.size + 1) u3 (setAll u3 (w.heap.size + 1) 0 [.int .i64 yr.code, .bool yr.moved, .int .i64 yr.world.now, .int .i64 yr.world.events, .int .i64 yr.world.chain.epoch, .slice a5r yr.world.chain.ids.length d5r, .slice a6r yr.world.nodes.length d6r, .slice a7r yr.world.msgs.length d7r, .slice a8r yr.world.history.length d8r]) := ext_setAll _ (Ext.refl _ _) _ _ _ rfl
 have hs1 := hb1.size
 have hs2 := (uh HB).size
 have hs3 := (uh HD).size
 have HO := yh (O.ext e2 (fun q h1 h2 h3 => by omega))
 have HB9 := yh (below_setAll (((uh HB).trans ((uh HD1).mono (uh HB).size)).trans (hb3.mono (by omega))) (w.heap.size + 1) 0 [.int .i64 yr.code, .bool yr.moved, .int .i64 yr.world.now, .int .i64 yr.world.events, .int .i64 yr.world.chain.epoch, .slice a5r yr.world.chain.ids.length d5r, .slice a6r yr.world.nodes.length d6r, .slice a7r yr.world.msgs.length d7r, .slice a8r yr.world.history.length d8r] (by omega))
 have hsz : Hid ((setAll u3 (w.heap.size + 1) 0 [.int .i64 yr.code, .bool yr.moved, .int .i64 yr.world.now, .int .i64 yr.world.events, .int .i64 yr.world.chain.epoch, .slice a5r yr.world.chain.ids.length d5r, .slice a6r yr.world.nodes.length d6r, .slice a7r yr.world.msgs.length d7r, .slice a8r yr.world.history.length d8r]).heap.size = u3.heap.size) := size_setAll _ _ _ _
 clear r0 r1 r2 r3 r4 r5 r6 r7 r8 rf rl
 have r0 := Box.at hy9 0 _ rfl
 have r1 := Box.at hy9 1 _ rfl
 have r2 := Box.at hy9 2 _ rfl
 have r3 := Box.at hy9 3 _ rfl
 have r4 := Box.at hy9 4 _ rfl
 have r5 := Box.at hy9 5 _ rfl
 have r6 := Box.at hy9 6 _ rfl
 have r7 := Box.at hy9 7 _ rfl
 have r8 := Box.at hy9 8 _ rfl
 simp only [ga, gb, gc] at r0 r1 r2 r3 r4 r5 r6 r7 r8
 clear hy hy9 zq e2 O hb3 hb1
 go_wp2_with fail
 refine bodyPost_ret (v := .agg #[.int .i64 yr.code, .bool yr.moved, .int .i64 yr.world.now, .int .i64 yr.world.events, .int .i64 yr.world.chain.epoch, .slice a5r yr.world.chain.ids.length d5r, .slice a6r yr.world.nodes.length d6r, .slice a7r yr.world.msgs.length d7r, .slice a8r yr.world.history.length d8r]) (by simp only [setAll] at r0 r1 r2 r3 r4 r5 r6 r7 r8; simp [results, Tryz.results26, go_sem, r0, r1, r2, r3, r4, r5, r6, r7, r8]) rfl ?_
 rw [uh HYR]
 exact ⟨_, rfl, (uh HO).mono (by omega) (Nat.le_of_eq (uh hsz).symm), uh HB9⟩
theorem writes_few9 {ws : List DWrite} (h : ∀ x ∈ ws, wF x = 0) : cntAll Lay.tWrite.cnt ws ≤ 10 * ws.length := by
 induction ws with
 | nil => simp [cntAll]
 | cons x xs ih =>
  have h1 := ih fun y hy => h y (List.mem_cons_of_mem _ hy)
  have h2 : x.vec.length ≤ 3 := by
   obtain ⟨-, -, -, hk⟩ := writeFault_zero (h x (by simp))
   rcases hk with ⟨-, hv⟩ | ⟨-, hv⟩
   ·
    have := (vecFault_zero hv).1; omega
   rw [hv]; simp
  have h3 : Lay.tWrite.cnt x = x.vec.length + 4 := by
   have e : cntAll Lay.int.cnt x.vec = x.vec.length := by
    generalize x.vec = l
    induction l with
    | nil => rfl
    | cons y ys ihy => simp only [cntAll, List.length_cons, ihy]; show 1 + ys.length = _; omega
   show 1 + (1 + (cntAll Lay.int.cnt x.vec + (1 + 1))) = _
   omega
  simp only [cntAll, List.length_cons]
  omega
theorem ints_cnt (l : List Int) : cntAll Lay.int.cnt l = l.length := by
 induction l with
 | nil => rfl
 | cons y ys ih => simp only [cntAll, List.length_cons, ih]; show 1 + ys.length = _; omega
structure FewW (y : DWorld) : Prop where
 ids : y.chain.ids.length ≤ 1000
 len : y.nodes.length ≤ 1000
 nodes : ∀ n ∈ y.nodes, n.writes.length ≤ 1000 ∧ ∀ v ∈ n.writes, wF v = 0
 mlen : y.msgs.length ≤ 1000
 msgs : ∀ m ∈ y.msgs, m.write.vec.length ≤ 1000
 hist : cntAll Lay.tEntry.cnt y.history ≤ 20000000
theorem nodes_cnt {ns : List DNode} (h : ∀ n ∈ ns, n.writes.length ≤ 1000 ∧ ∀ v ∈ n.writes, wF v = 0) : cntAll Lay.tNode.cnt ns ≤ 10006 * ns.length := by
 induction ns with
 | nil => simp [cntAll]
 | cons n ns ih =>
  have h1 := ih fun m hm => h m (List.mem_cons_of_mem _ hm)
  obtain ⟨h2, h3⟩ := h n (by simp)
  have h4 := writes_few9 h3
  have h5 : Lay.tNode.cnt n = cntAll Lay.tWrite.cnt n.writes + 6 := by
   show 1 + (1 + (1 + (1 + (cntAll Lay.tWrite.cnt n.writes + (1 + 1))))) = _
   omega
  simp only [cntAll, List.length_cons]
  omega
theorem msg_vec9 {x : DMsg} (h : msgFault x = 0) : x.write.vec.length ≤ 3 := by
 unfold msgFault at h
 split at h
 ·
  simp at h
 rename_i h1
 split at h
 ·
  simp at h
 split at h
 ·
  rename_i h3
  have h4 : noW x.write := Decidable.byContradiction fun q => h1 (Or.inr (Or.inr ⟨h3, q⟩))
  have := h4.2.2.2.2
  omega
 obtain ⟨-, -, -, hk⟩ := writeFault_zero h
 rcases hk with ⟨-, hv⟩ | ⟨-, hv⟩
 ·
  have := (vecFault_zero hv).1; omega
 rw [hv]; simp
theorem msgs_cnt {ms : List DMsg} (h : ∀ m ∈ ms, m.write.vec.length ≤ 1000) : cntAll Lay.tMsg.cnt ms ≤ 1009 * ms.length := by
 induction ms with
 | nil => simp [cntAll]
 | cons m ms ih =>
  have h1 := ih fun q hq => h q (List.mem_cons_of_mem _ hq)
  have h2 := h m (by simp)
  have h5 : Lay.tMsg.cnt m = m.write.vec.length + 9 := by
   show 1 + (1 + (1 + (1 + (1 + (1 + (1 + (cntAll Lay.int.cnt m.write.vec + (1 + 1)))))))) = _
   rw [ints_cnt]
   omega
  simp only [cntAll, List.length_cons]
  omega
theorem hits_cnt (hs : List DHit) : cntAll Lay.tHit.cnt hs = 2 * hs.length := by
 induction hs with
 | nil => rfl
 | cons y ys ih => simp only [cntAll, List.length_cons, ih]; show 1 + 1 + 2 * ys.length = _; omega
theorem entries_cnt (es : List DEntry) : cntAll Lay.tEntry.cnt es ≤ 8 * es.length + 2 * cntAll Lay.tEntry.sz es := by
 induction es with
 | nil => simp [cntAll]
 | cons e es ih =>
  have h1 : Lay.tEntry.cnt e = 8 + e.query.length + e.vec.length + 2 * e.hits.length := by
   show 1 + (1 + (1 + (1 + (cntAll Lay.int.cnt e.query + (1 + (1 + (1 + (1 + (cntAll Lay.int.cnt e.vec + cntAll Lay.tHit.cnt e.hits))))))))) = _
   rw [ints_cnt, ints_cnt, hits_cnt]
   omega
  have h2 : e.query.length + e.vec.length + e.hits.length ≤ Lay.tEntry.sz e := by
   show _ ≤ 0 + (0 + (0 + (0 + ((e.query.length + cntAll Lay.int.sz e.query) + (0 + (0 + (0 + (0 + ((e.vec.length + cntAll Lay.int.sz e.vec) + (e.hits.length + cntAll Lay.tHit.sz e.hits))))))))))
   omega
  simp only [cntAll, List.length_cons]
  omega
theorem askedW_ok {x : DWorld} {id : Int} (h : askedW x id = 0) : worldFault x = 0 := by
 unfold askedW at h
 split at h
 ·
  rename_i q; exact absurd h q
 rename_i q; simpa using q
theorem few_of_ok {x : DWorld} (h : WorldOK x) (hs : Lay.tWorld.sz x ≤ 1048576) : FewW x := by
 have hx : Lay.tWorld.sz x = 0 + (0 + ((0 + (x.chain.ids.length + cntAll Lay.int.sz x.chain.ids)) + ((x.nodes.length + cntAll Lay.tNode.sz x.nodes) + ((x.msgs.length + cntAll Lay.tMsg.sz x.msgs) + (x.history.length + cntAll Lay.tEntry.sz x.history))))) := rfl
 have h1 := (chainFault_zero h.chain).len
 have h2 := entries_cnt x.history
 refine ⟨by omega, by have := h.some; omega, fun n hn => ?_, by have := (netFault_zero h.net).1; omega, fun m hm => ?_, by omega⟩
 ·
  obtain ⟨k, hk, rfl⟩ := List.getElem_of_mem hn
  have hok := nodeFault_zero (h.nodes k hk).1
  exact ⟨by have := hok.len; omega, hok.ws⟩
 have := msg_vec9 ((netFault_zero h.net).2 m hm)
 omega
theorem few_vcnt {y : DWorldResult} (h : FewW y.world) : Lay.tWorldResult.vcnt y ≤ 100000000 := by
 rw [vcnt_WorldResult, vcnt_World, vcnt_Chain]
 show cntAll Lay.int.cnt y.world.chain.ids + cntAll Lay.tNode.cnt y.world.nodes + cntAll Lay.tMsg.cnt y.world.msgs + cntAll Lay.tEntry.cnt y.world.history ≤ 100000000
 rw [ints_cnt]
 have h1 := nodes_cnt h.nodes
 have h2 := msgs_cnt h.msgs
 have h3 := h.ids
 have h4 := h.len
 have h5 := h.mlen
 have h6 := h.hist
 omega
theorem badW_few (c : Int) : Lay.tWorldResult.vcnt (badWorld c) ≤ 100000000 := few_vcnt ⟨by simp [badWorld, noWorld, noChain], by simp [badWorld, noWorld], by simp [badWorld, noWorld], by simp [badWorld, noWorld], by simp [badWorld, noWorld], by simp [badWorld, noWorld, cntAll]⟩
theorem few_next {x : DWorld} (h : FewW x) : FewW (nextW x) := ⟨h.ids, h.len, h.nodes, h.mlen, h.msgs, h.hist⟩
theorem few_setN {y : DWorld} {k : Nat} {n : DNode} (h : FewW y) (hn : n.writes.length ≤ 1000 ∧ ∀ v ∈ n.writes, wF v = 0) : FewW (setN y k n) := by
 refine ⟨h.ids, by show (y.nodes.set k n).length ≤ 1000; simpa using h.len, fun m hm => ?_, h.mlen, h.msgs, h.hist⟩
 rcases List.mem_or_eq_of_mem_set hm with q | rfl
 ·
  exact h.nodes m q
 exact hn
theorem few_put {y : DWorld} {n : DNode} (h : FewW y) (hn : n.writes.length ≤ 1000 ∧ ∀ v ∈ n.writes, wF v = 0) : FewW (putNode y n) := few_setN (k := (n.id - 1).toNat) h hn
theorem nodeOf_ws {x : DWorld} (h : FewW x) (id : Int) : (nodeOf x id).writes.length ≤ 1000 ∧ ∀ v ∈ (nodeOf x id).writes, wF v = 0 := by
 by_cases hk : (id - 1).toNat < x.nodes.length
 ·
  have e : nodeOf x id = x.nodes[(id - 1).toNat] := by
   unfold nodeOf
   generalize (id - 1).toNat = j at *
   simp [List.getD, hk]
  rw [e]
  exact h.nodes _ (List.getElem_mem hk)
 have e : nodeOf x id = noNode := by
  unfold nodeOf
  generalize (id - 1).toNat = j at *
  simp [List.getD, List.getElem?_eq_none (by omega : x.nodes.length ≤ j)]
 rw [e]
 exact ⟨by simp [noNode], fun v hv => by simp [noNode] at hv⟩
theorem startWR_few {x : DWorld} {id : Int} (hs : Lay.tWorld.sz x ≤ 1048576) : Lay.tWorldResult.vcnt (startWR x id) ≤ 100000000 := by
 unfold startWR
 split
 ·
  exact badW_few _
 rename_i q
 have hF := few_of_ok (worldFault_zero (askedW_ok (by simpa using q))) hs
 split
 ·
  exact badW_few _
 exact few_vcnt (few_put (few_next hF) (nodeOf_ws hF id))
theorem lawStartWorld (cs : List Value) (x : DWorld) (id : Int) (w : World) (h : Lay.tWorld.Reads w cs x) :
  Calls Tryz.prog 5 #[.agg cs.toArray, .int .i64 id] w fun e w' => e = .returned (.bool true) ∧ Below w.heap.size w w' := by
 by_cases hn : Lay.tWorld.sz x ≤ 1048576
 ·
  refine lawx_StartWorld cs x id (startWR x id) w h hn (fun W a ha => specStartWorld a x id W ha (fits_of_sz hn)) (fun W a ha => implStartWorld a x id W ha (fits_of_sz hn)) (startWR_few hn)
 exact lawover_StartWorld cs x id w h (by omega)
theorem opens_Chain : Opens Lay.tChain 24 := by
 intro H enc W base spare held fuel cs x h
 obtain ⟨xs, n, _, _, hlen, hl, hfi⟩ := DataW.trod_struct Tryz.underlying24 h
 rw [show Tryz.prog.cellsOf 24 = 2 by kernel_rfl] at hlen
 match cs, hlen with
 | [c0, c1], _ =>
 match xs, hl with
 | [y0, y1], _ =>
 have z0 : Tryz.prog.cellsOf 2 = 1 := by kernel_rfl
 have z1 : Tryz.prog.cellsOf 22 = 1 := by kernel_rfl
 have f0 : DataW.trod enc Tryz.prog W base spare held n 2 (([c0, c1].drop 0).take (Tryz.prog.cellsOf 2)) = some y0 := hfi 0 _ rfl
 rw [z0] at f0
 obtain ⟨d0, r0⟩ := (opens_int Tryz.underlying2) enc W base spare held n _ _ f0
 have f1 : DataW.trod enc Tryz.prog W base spare held n 22 (([c0, c1].drop 1).take (Tryz.prog.cellsOf 22)) = some y1 := hfi 1 _ rfl
 rw [z1] at f1
 obtain ⟨d1, r1⟩ := (opens_sl Tryz.underlying22 (by kernel_rfl) (by decide) (opens_int Tryz.underlying2)) enc W base spare held n _ _ f1
 exact ⟨⟨d0, d1⟩, (reads_pair r0 r1)⟩
theorem opens_Write : Opens Lay.tWrite 116 := by
 intro H enc W base spare held fuel cs x h
 obtain ⟨xs, n, _, _, hlen, hl, hfi⟩ := DataW.trod_struct Tryz.underlying116 h
 rw [show Tryz.prog.cellsOf 116 = 5 by kernel_rfl] at hlen
 match cs, hlen with
 | [c0, c1, c2, c3, c4], _ =>
 match xs, hl with
 | [y0, y1, y2, y3, y4], _ =>
 have z0 : Tryz.prog.cellsOf 2 = 1 := by kernel_rfl
 have z1 : Tryz.prog.cellsOf 22 = 1 := by kernel_rfl
 have f0 : DataW.trod enc Tryz.prog W base spare held n 2 (([c0, c1, c2, c3, c4].drop 0).take (Tryz.prog.cellsOf 2)) = some y0 := hfi 0 _ rfl
 rw [z0] at f0
 obtain ⟨d0, r0⟩ := (opens_int Tryz.underlying2) enc W base spare held n _ _ f0
 have f1 : DataW.trod enc Tryz.prog W base spare held n 2 (([c0, c1, c2, c3, c4].drop 1).take (Tryz.prog.cellsOf 2)) = some y1 := hfi 1 _ rfl
 rw [z0] at f1
 obtain ⟨d1, r1⟩ := (opens_int Tryz.underlying2) enc W base spare held n _ _ f1
 have f2 : DataW.trod enc Tryz.prog W base spare held n 22 (([c0, c1, c2, c3, c4].drop 2).take (Tryz.prog.cellsOf 22)) = some y2 := hfi 2 _ rfl
 rw [z1] at f2
 obtain ⟨d2, r2⟩ := (opens_sl Tryz.underlying22 (by kernel_rfl) (by decide) (opens_int Tryz.underlying2)) enc W base spare held n _ _ f2
 have f3 : DataW.trod enc Tryz.prog W base spare held n 2 (([c0, c1, c2, c3, c4].drop 3).take (Tryz.prog.cellsOf 2)) = some y3 := hfi 3 _ rfl
 rw [z0] at f3
 obtain ⟨d3, r3⟩ := (opens_int Tryz.underlying2) enc W base spare held n _ _ f3
 have f4 : DataW.trod enc Tryz.prog W base spare held n 2 (([c0, c1, c2, c3, c4].drop 4).take (Tryz.prog.cellsOf 2)) = some y4 := hfi 4 _ rfl
 rw [z0] at f4
 obtain ⟨d4, r4⟩ := (opens_int Tryz.underlying2) enc W base spare held n _ _ f4
 exact ⟨⟨d0, d1, d2, d3, d4⟩, (reads_pair r0 (reads_pair r1 (reads_pair r2 (reads_pair r3 r4))))⟩
theorem opens_Node : Opens Lay.tNode 114 := by
 intro H enc W base spare held fuel cs x h
 obtain ⟨xs, n, _, _, hlen, hl, hfi⟩ := DataW.trod_struct Tryz.underlying114 h
 rw [show Tryz.prog.cellsOf 114 = 7 by kernel_rfl] at hlen
 match cs, hlen with
 | [c0, c1, c2, c3, c4, c5, c6], _ =>
 match xs, hl with
 | [y0, y1, y2, y3, y4, y5, y6], _ =>
 have z0 : Tryz.prog.cellsOf 2 = 1 := by kernel_rfl
 have z1 : Tryz.prog.cellsOf 4 = 1 := by kernel_rfl
 have z2 : Tryz.prog.cellsOf 112 = 1 := by kernel_rfl
 have f0 : DataW.trod enc Tryz.prog W base spare held n 2 (([c0, c1, c2, c3, c4, c5, c6].drop 0).take (Tryz.prog.cellsOf 2)) = some y0 := hfi 0 _ rfl
 rw [z0] at f0
 obtain ⟨d0, r0⟩ := (opens_int Tryz.underlying2) enc W base spare held n _ _ f0
 have f1 : DataW.trod enc Tryz.prog W base spare held n 4 (([c0, c1, c2, c3, c4, c5, c6].drop 1).take (Tryz.prog.cellsOf 4)) = some y1 := hfi 1 _ rfl
 rw [z1] at f1
 obtain ⟨d1, r1⟩ := (opens_bool Tryz.underlying4) enc W base spare held n _ _ f1
 have f2 : DataW.trod enc Tryz.prog W base spare held n 2 (([c0, c1, c2, c3, c4, c5, c6].drop 2).take (Tryz.prog.cellsOf 2)) = some y2 := hfi 2 _ rfl
 rw [z0] at f2
 obtain ⟨d2, r2⟩ := (opens_int Tryz.underlying2) enc W base spare held n _ _ f2
 have f3 : DataW.trod enc Tryz.prog W base spare held n 2 (([c0, c1, c2, c3, c4, c5, c6].drop 3).take (Tryz.prog.cellsOf 2)) = some y3 := hfi 3 _ rfl
 rw [z0] at f3
 obtain ⟨d3, r3⟩ := (opens_int Tryz.underlying2) enc W base spare held n _ _ f3
 have f4 : DataW.trod enc Tryz.prog W base spare held n 112 (([c0, c1, c2, c3, c4, c5, c6].drop 4).take (Tryz.prog.cellsOf 112)) = some y4 := hfi 4 _ rfl
 rw [z2] at f4
 obtain ⟨d4, r4⟩ := (opens_sl Tryz.underlying112 (by kernel_rfl) (by decide) opens_Write) enc W base spare held n _ _ f4
 have f5 : DataW.trod enc Tryz.prog W base spare held n 2 (([c0, c1, c2, c3, c4, c5, c6].drop 5).take (Tryz.prog.cellsOf 2)) = some y5 := hfi 5 _ rfl
 rw [z0] at f5
 obtain ⟨d5, r5⟩ := (opens_int Tryz.underlying2) enc W base spare held n _ _ f5
 have f6 : DataW.trod enc Tryz.prog W base spare held n 2 (([c0, c1, c2, c3, c4, c5, c6].drop 6).take (Tryz.prog.cellsOf 2)) = some y6 := hfi 6 _ rfl
 rw [z0] at f6
 obtain ⟨d6, r6⟩ := (opens_int Tryz.underlying2) enc W base spare held n _ _ f6
 exact ⟨⟨d0, d1, d2, d3, d4, d5, d6⟩, (reads_pair r0 (reads_pair r1 (reads_pair r2 (reads_pair r3 (reads_pair r4 (reads_pair r5 r6))))))⟩
theorem opens_Msg : Opens Lay.tMsg 118 := by
 intro H enc W base spare held fuel cs x h
 obtain ⟨xs, n, _, _, hlen, hl, hfi⟩ := DataW.trod_struct Tryz.underlying118 h
 rw [show Tryz.prog.cellsOf 118 = 10 by kernel_rfl] at hlen
 match cs, hlen with
 | [c0, c1, c2, c3, c4, c5, c6, c7, c8, c9], _ =>
 match xs, hl with
 | [y0, y1, y2, y3, y4, y5], _ =>
 have z0 : Tryz.prog.cellsOf 2 = 1 := by kernel_rfl
 have z1 : Tryz.prog.cellsOf 116 = 5 := by kernel_rfl
 have f0 : DataW.trod enc Tryz.prog W base spare held n 2 (([c0, c1, c2, c3, c4, c5, c6, c7, c8, c9].drop 0).take (Tryz.prog.cellsOf 2)) = some y0 := hfi 0 _ rfl
 rw [z0] at f0
 obtain ⟨d0, r0⟩ := (opens_int Tryz.underlying2) enc W base spare held n _ _ f0
 have f1 : DataW.trod enc Tryz.prog W base spare held n 2 (([c0, c1, c2, c3, c4, c5, c6, c7, c8, c9].drop 1).take (Tryz.prog.cellsOf 2)) = some y1 := hfi 1 _ rfl
 rw [z0] at f1
 obtain ⟨d1, r1⟩ := (opens_int Tryz.underlying2) enc W base spare held n _ _ f1
 have f2 : DataW.trod enc Tryz.prog W base spare held n 2 (([c0, c1, c2, c3, c4, c5, c6, c7, c8, c9].drop 2).take (Tryz.prog.cellsOf 2)) = some y2 := hfi 2 _ rfl
 rw [z0] at f2
 obtain ⟨d2, r2⟩ := (opens_int Tryz.underlying2) enc W base spare held n _ _ f2
 have f3 : DataW.trod enc Tryz.prog W base spare held n 2 (([c0, c1, c2, c3, c4, c5, c6, c7, c8, c9].drop 3).take (Tryz.prog.cellsOf 2)) = some y3 := hfi 3 _ rfl
 rw [z0] at f3
 obtain ⟨d3, r3⟩ := (opens_int Tryz.underlying2) enc W base spare held n _ _ f3
 have f4 : DataW.trod enc Tryz.prog W base spare held n 2 (([c0, c1, c2, c3, c4, c5, c6, c7, c8, c9].drop 4).take (Tryz.prog.cellsOf 2)) = some y4 := hfi 4 _ rfl
 rw [z0] at f4
 obtain ⟨d4, r4⟩ := (opens_int Tryz.underlying2) enc W base spare held n _ _ f4
 have f5 : DataW.trod enc Tryz.prog W base spare held n 116 (([c0, c1, c2, c3, c4, c5, c6, c7, c8, c9].drop 5).take (Tryz.prog.cellsOf 116)) = some y5 := hfi 5 _ rfl
 rw [z1] at f5
 obtain ⟨d5, r5⟩ := (opens_Write) enc W base spare held n _ _ f5
 exact ⟨⟨d0, d1, d2, d3, d4, d5⟩, (reads_pair r0 (reads_pair r1 (reads_pair r2 (reads_pair r3 (reads_pair r4 r5)))))⟩
theorem opens_Hit : Opens Lay.tHit 219 := by
 intro H enc W base spare held fuel cs x h
 obtain ⟨xs, n, _, _, hlen, hl, hfi⟩ := DataW.trod_struct Tryz.underlying219 h
 rw [show Tryz.prog.cellsOf 219 = 2 by kernel_rfl] at hlen
 match cs, hlen with
 | [c0, c1], _ =>
 match xs, hl with
 | [y0, y1], _ =>
 have z0 : Tryz.prog.cellsOf 2 = 1 := by kernel_rfl
 have f0 : DataW.trod enc Tryz.prog W base spare held n 2 (([c0, c1].drop 0).take (Tryz.prog.cellsOf 2)) = some y0 := hfi 0 _ rfl
 rw [z0] at f0
 obtain ⟨d0, r0⟩ := (opens_int Tryz.underlying2) enc W base spare held n _ _ f0
 have f1 : DataW.trod enc Tryz.prog W base spare held n 2 (([c0, c1].drop 1).take (Tryz.prog.cellsOf 2)) = some y1 := hfi 1 _ rfl
 rw [z0] at f1
 obtain ⟨d1, r1⟩ := (opens_int Tryz.underlying2) enc W base spare held n _ _ f1
 exact ⟨⟨d0, d1⟩, (reads_pair r0 r1)⟩
theorem opens_Entry : Opens Lay.tEntry 122 := by
 intro H enc W base spare held fuel cs x h
 obtain ⟨xs, n, _, _, hlen, hl, hfi⟩ := DataW.trod_struct Tryz.underlying122 h
 rw [show Tryz.prog.cellsOf 122 = 11 by kernel_rfl] at hlen
 match cs, hlen with
 | [c0, c1, c2, c3, c4, c5, c6, c7, c8, c9, c10], _ =>
 match xs, hl with
 | [y0, y1, y2, y3, y4, y5, y6, y7, y8, y9, y10], _ =>
 have z0 : Tryz.prog.cellsOf 2 = 1 := by kernel_rfl
 have z1 : Tryz.prog.cellsOf 22 = 1 := by kernel_rfl
 have z2 : Tryz.prog.cellsOf 120 = 1 := by kernel_rfl
 have f0 : DataW.trod enc Tryz.prog W base spare held n 2 (([c0, c1, c2, c3, c4, c5, c6, c7, c8, c9, c10].drop 0).take (Tryz.prog.cellsOf 2)) = some y0 := hfi 0 _ rfl
 rw [z0] at f0
 obtain ⟨d0, r0⟩ := (opens_int Tryz.underlying2) enc W base spare held n _ _ f0
 have f1 : DataW.trod enc Tryz.prog W base spare held n 2 (([c0, c1, c2, c3, c4, c5, c6, c7, c8, c9, c10].drop 1).take (Tryz.prog.cellsOf 2)) = some y1 := hfi 1 _ rfl
 rw [z0] at f1
 obtain ⟨d1, r1⟩ := (opens_int Tryz.underlying2) enc W base spare held n _ _ f1
 have f2 : DataW.trod enc Tryz.prog W base spare held n 2 (([c0, c1, c2, c3, c4, c5, c6, c7, c8, c9, c10].drop 2).take (Tryz.prog.cellsOf 2)) = some y2 := hfi 2 _ rfl
 rw [z0] at f2
 obtain ⟨d2, r2⟩ := (opens_int Tryz.underlying2) enc W base spare held n _ _ f2
 have f3 : DataW.trod enc Tryz.prog W base spare held n 2 (([c0, c1, c2, c3, c4, c5, c6, c7, c8, c9, c10].drop 3).take (Tryz.prog.cellsOf 2)) = some y3 := hfi 3 _ rfl
 rw [z0] at f3
 obtain ⟨d3, r3⟩ := (opens_int Tryz.underlying2) enc W base spare held n _ _ f3
 have f4 : DataW.trod enc Tryz.prog W base spare held n 22 (([c0, c1, c2, c3, c4, c5, c6, c7, c8, c9, c10].drop 4).take (Tryz.prog.cellsOf 22)) = some y4 := hfi 4 _ rfl
 rw [z1] at f4
 obtain ⟨d4, r4⟩ := (opens_sl Tryz.underlying22 (by kernel_rfl) (by decide) (opens_int Tryz.underlying2)) enc W base spare held n _ _ f4
 have f5 : DataW.trod enc Tryz.prog W base spare held n 2 (([c0, c1, c2, c3, c4, c5, c6, c7, c8, c9, c10].drop 5).take (Tryz.prog.cellsOf 2)) = some y5 := hfi 5 _ rfl
 rw [z0] at f5
 obtain ⟨d5, r5⟩ := (opens_int Tryz.underlying2) enc W base spare held n _ _ f5
 have f6 : DataW.trod enc Tryz.prog W base spare held n 2 (([c0, c1, c2, c3, c4, c5, c6, c7, c8, c9, c10].drop 6).take (Tryz.prog.cellsOf 2)) = some y6 := hfi 6 _ rfl
 rw [z0] at f6
 obtain ⟨d6, r6⟩ := (opens_int Tryz.underlying2) enc W base spare held n _ _ f6
 have f7 : DataW.trod enc Tryz.prog W base spare held n 2 (([c0, c1, c2, c3, c4, c5, c6, c7, c8, c9, c10].drop 7).take (Tryz.prog.cellsOf 2)) = some y7 := hfi 7 _ rfl
 rw [z0] at f7
 obtain ⟨d7, r7⟩ := (opens_int Tryz.underlying2) enc W base spare held n _ _ f7
 have f8 : DataW.trod enc Tryz.prog W base spare held n 2 (([c0, c1, c2, c3, c4, c5, c6, c7, c8, c9, c10].drop 8).take (Tryz.prog.cellsOf 2)) = some y8 := hfi 8 _ rfl
 rw [z0] at f8
 obtain ⟨d8, r8⟩ := (opens_int Tryz.underlying2) enc W base spare held n _ _ f8
 have f9 : DataW.trod enc Tryz.prog W base spare held n 22 (([c0, c1, c2, c3, c4, c5, c6, c7, c8, c9, c10].drop 9).take (Tryz.prog.cellsOf 22)) = some y9 := hfi 9 _ rfl
 rw [z1] at f9
 obtain ⟨d9, r9⟩ := (opens_sl Tryz.underlying22 (by kernel_rfl) (by decide) (opens_int Tryz.underlying2)) enc W base spare held n _ _ f9
 have f10 : DataW.trod enc Tryz.prog W base spare held n 120 (([c0, c1, c2, c3, c4, c5, c6, c7, c8, c9, c10].drop 10).take (Tryz.prog.cellsOf 120)) = some y10 := hfi 10 _ rfl
 rw [z2] at f10
 obtain ⟨d10, r10⟩ := (opens_sl Tryz.underlying120 (by kernel_rfl) (by decide) opens_Hit) enc W base spare held n _ _ f10
 exact ⟨⟨d0, d1, d2, d3, d4, d5, d6, d7, d8, d9, d10⟩, (reads_pair r0 (reads_pair r1 (reads_pair r2 (reads_pair r3 (reads_pair r4 (reads_pair r5 (reads_pair r6 (reads_pair r7 (reads_pair r8 (reads_pair r9 r10))))))))))⟩
theorem opens_World : Opens Lay.tWorld 29 := by
 intro H enc W base spare held fuel cs x h
 obtain ⟨xs, n, _, _, hlen, hl, hfi⟩ := DataW.trod_struct Tryz.underlying29 h
 rw [show Tryz.prog.cellsOf 29 = 7 by kernel_rfl] at hlen
 match cs, hlen with
 | [c0, c1, c2, c3, c4, c5, c6], _ =>
 match xs, hl with
 | [y0, y1, y2, y3, y4, y5], _ =>
 have z0 : Tryz.prog.cellsOf 2 = 1 := by kernel_rfl
 have z1 : Tryz.prog.cellsOf 24 = 2 := by kernel_rfl
 have z2 : Tryz.prog.cellsOf 25 = 1 := by kernel_rfl
 have z3 : Tryz.prog.cellsOf 26 = 1 := by kernel_rfl
 have z4 : Tryz.prog.cellsOf 27 = 1 := by kernel_rfl
 have f0 : DataW.trod enc Tryz.prog W base spare held n 2 (([c0, c1, c2, c3, c4, c5, c6].drop 0).take (Tryz.prog.cellsOf 2)) = some y0 := hfi 0 _ rfl
 rw [z0] at f0
 obtain ⟨d0, r0⟩ := (opens_int Tryz.underlying2) enc W base spare held n _ _ f0
 have f1 : DataW.trod enc Tryz.prog W base spare held n 2 (([c0, c1, c2, c3, c4, c5, c6].drop 1).take (Tryz.prog.cellsOf 2)) = some y1 := hfi 1 _ rfl
 rw [z0] at f1
 obtain ⟨d1, r1⟩ := (opens_int Tryz.underlying2) enc W base spare held n _ _ f1
 have f2 : DataW.trod enc Tryz.prog W base spare held n 24 (([c0, c1, c2, c3, c4, c5, c6].drop 2).take (Tryz.prog.cellsOf 24)) = some y2 := hfi 2 _ rfl
 rw [z1] at f2
 obtain ⟨d2, r2⟩ := (opens_Chain) enc W base spare held n _ _ f2
 have f3 : DataW.trod enc Tryz.prog W base spare held n 25 (([c0, c1, c2, c3, c4, c5, c6].drop 4).take (Tryz.prog.cellsOf 25)) = some y3 := hfi 3 _ rfl
 rw [z2] at f3
 obtain ⟨d3, r3⟩ := (opens_sl Tryz.underlying25 (by kernel_rfl) (by decide) opens_Node) enc W base spare held n _ _ f3
 have f4 : DataW.trod enc Tryz.prog W base spare held n 26 (([c0, c1, c2, c3, c4, c5, c6].drop 5).take (Tryz.prog.cellsOf 26)) = some y4 := hfi 4 _ rfl
 rw [z3] at f4
 obtain ⟨d4, r4⟩ := (opens_sl Tryz.underlying26 (by kernel_rfl) (by decide) opens_Msg) enc W base spare held n _ _ f4
 have f5 : DataW.trod enc Tryz.prog W base spare held n 27 (([c0, c1, c2, c3, c4, c5, c6].drop 6).take (Tryz.prog.cellsOf 27)) = some y5 := hfi 5 _ rfl
 rw [z4] at f5
 obtain ⟨d5, r5⟩ := (opens_sl Tryz.underlying27 (by kernel_rfl) (by decide) opens_Entry) enc W base spare held n _ _ f5
 exact ⟨⟨d0, d1, d2, d3, d4, d5⟩, (reads_pair r0 (reads_pair r1 (reads_pair r2 (reads_pair r3 (reads_pair r4 r5)))))⟩
end Go.Proofs.YtdnhmoppineegaaGreat
