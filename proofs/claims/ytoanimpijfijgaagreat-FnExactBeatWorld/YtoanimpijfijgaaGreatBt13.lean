/-
  Texts of this proof in one: WorldFew, ImplMember, BeatPlain, SpecBeatW, FloatNat, Clock, ImplClock, WorldUpd, ImplBeatS, ImplBeatW, LawBeatW, OpenChain, OpenWrite, OpenNode, OpenMsg, OpenHit, OpenEntry, OpenWorld.
  Their conditions stand in their theorems.
-/
import Derived.Test.YtoanimpijfijgaaGreatBt06
import Derived.Test.YtoanimpijfijgaaGreatBt12
import Derived.Test.YtoanimpijfijgaaGreatBt00
import Derived.Test.YtoanimpijfijgaaGreatBt10
import Derived.Deep.CutRange
import Derived.Deep.RegionHeld3
import Derived.Test.YtoanimpijfijgaaGreatBt01
import Derived.Laws.ComplexArith
import Derived.Test.YtoanimpijfijgaaGreatChecked
import Derived.Test.YtoanimpijfijgaaGreatBt03
import Derived.Test.YtoanimpijfijgaaGreatBt04
import Derived.Test.YtoanimpijfijgaaGreatBt05
set_option maxRecDepth 100000
set_option maxHeartbeats 4000000
namespace Go.Proofs.YtoanimpijfijgaaGreat
open Go.RowKit
theorem ints_cnt (l : List Int) : cntAll Lay.int.cnt l = l.length := by
 induction l with
 | nil => rfl
 | cons y ys ih => simp only [cntAll, List.length_cons, ih]; show 1 + ys.length = _; omega
structure FewW (y : DWorld) : Prop where
 ids : y.chain.ids.length ≤ 1000
 len : y.nodes.length ≤ 1000
 nodes : ∀ n ∈ y.nodes, n.writes.length ≤ 1000 ∧ ∀ v ∈ n.writes, wF v = 0
 mlen : y.msgs.length ≤ 1000
 msgs : ∀ m ∈ y.msgs, m.write.vec.length ≤ 1000
 hist : cntAll Lay.tEntry.cnt y.history ≤ 20000000
theorem nodes_cnt {ns : List DNode} (h : ∀ n ∈ ns, n.writes.length ≤ 1000 ∧ ∀ v ∈ n.writes, wF v = 0) : cntAll Lay.tNode.cnt ns ≤ 10006 * ns.length := by
 induction ns with
 | nil => simp [cntAll]
 | cons n ns ih =>
  have h1 := ih fun m hm => h m (List.mem_cons_of_mem _ hm)
  obtain ⟨h2, h3⟩ := h n (by simp)
  have h4 := writes_few9 h3
  have h5 : Lay.tNode.cnt n = cntAll Lay.tWrite.cnt n.writes + 6 := by
   show 1 + (1 + (1 + (1 + (cntAll Lay.tWrite.cnt n.writes + (1 + 1))))) = _
   omega
  simp only [cntAll, List.length_cons]
  omega
theorem msg_vec9 {x : DMsg} (h : msgFault x = 0) : x.write.vec.length ≤ 3 := by
 unfold msgFault at h
 split at h
 ·
  simp at h
 rename_i h1
 split at h
 ·
  simp at h
 split at h
 ·
  rename_i h3
  have h4 : noW x.write := Decidable.byContradiction fun q => h1 (Or.inr (Or.inr ⟨h3, q⟩))
  have := h4.2.2.2.2
  omega
 obtain ⟨-, -, -, hk⟩ := writeFault_zero h
 rcases hk with ⟨-, hv⟩ | ⟨-, hv⟩
 ·
  have := (vecFault_zero hv).1; omega
 rw [hv]; simp
theorem msgs_cnt {ms : List DMsg} (h : ∀ m ∈ ms, m.write.vec.length ≤ 1000) : cntAll Lay.tMsg.cnt ms ≤ 1009 * ms.length := by
 induction ms with
 | nil => simp [cntAll]
 | cons m ms ih =>
  have h1 := ih fun q hq => h q (List.mem_cons_of_mem _ hq)
  have h2 := h m (by simp)
  have h5 : Lay.tMsg.cnt m = m.write.vec.length + 9 := by
   show 1 + (1 + (1 + (1 + (1 + (1 + (1 + (cntAll Lay.int.cnt m.write.vec + (1 + 1)))))))) = _
   rw [ints_cnt]
   omega
  simp only [cntAll, List.length_cons]
  omega
theorem hits_cnt (hs : List DHit) : cntAll Lay.tHit.cnt hs = 2 * hs.length := by
 induction hs with
 | nil => rfl
 | cons y ys ih => simp only [cntAll, List.length_cons, ih]; show 1 + 1 + 2 * ys.length = _; omega
theorem entries_cnt (es : List DEntry) : cntAll Lay.tEntry.cnt es ≤ 8 * es.length + 2 * cntAll Lay.tEntry.sz es := by
 induction es with
 | nil => simp [cntAll]
 | cons e es ih =>
  have h1 : Lay.tEntry.cnt e = 8 + e.query.length + e.vec.length + 2 * e.hits.length := by
   show 1 + (1 + (1 + (1 + (cntAll Lay.int.cnt e.query + (1 + (1 + (1 + (1 + (cntAll Lay.int.cnt e.vec + cntAll Lay.tHit.cnt e.hits))))))))) = _
   rw [ints_cnt, ints_cnt, hits_cnt]
   omega
  have h2 : e.query.length + e.vec.length + e.hits.length ≤ Lay.tEntry.sz e := by
   show _ ≤ 0 + (0 + (0 + (0 + ((e.query.length + cntAll Lay.int.sz e.query) + (0 + (0 + (0 + (0 + ((e.vec.length + cntAll Lay.int.sz e.vec) + (e.hits.length + cntAll Lay.tHit.sz e.hits))))))))))
   omega
  simp only [cntAll, List.length_cons]
  omega
theorem few_of_ok {x : DWorld} (h : WorldOK x) (hs : Lay.tWorld.sz x ≤ 1048576) : FewW x := by
 have hx : Lay.tWorld.sz x = 0 + (0 + ((0 + (x.chain.ids.length + cntAll Lay.int.sz x.chain.ids)) + ((x.nodes.length + cntAll Lay.tNode.sz x.nodes) + ((x.msgs.length + cntAll Lay.tMsg.sz x.msgs) + (x.history.length + cntAll Lay.tEntry.sz x.history))))) := rfl
 have h1 := (chainFault_zero h.chain).len
 have h2 := entries_cnt x.history
 refine ⟨by omega, by have := h.some; omega, fun n hn => ?_, by have := (netFault_zero h.net).1; omega, fun m hm => ?_, by omega⟩
 ·
  obtain ⟨k, hk, rfl⟩ := List.getElem_of_mem hn
  have hok := nodeFault_zero (h.nodes k hk).1
  exact ⟨by have := hok.len; omega, hok.ws⟩
 have := msg_vec9 ((netFault_zero h.net).2 m hm)
 omega
theorem few_vcnt {y : DWorldResult} (h : FewW y.world) : Lay.tWorldResult.vcnt y ≤ 100000000 := by
 rw [vcnt_WorldResult, vcnt_World, vcnt_Chain]
 show cntAll Lay.int.cnt y.world.chain.ids + cntAll Lay.tNode.cnt y.world.nodes + cntAll Lay.tMsg.cnt y.world.msgs + cntAll Lay.tEntry.cnt y.world.history ≤ 100000000
 rw [ints_cnt]
 have h1 := nodes_cnt h.nodes
 have h2 := msgs_cnt h.msgs
 have h3 := h.ids
 have h4 := h.len
 have h5 := h.mlen
 have h6 := h.hist
 omega
theorem badW_few (c : Int) : Lay.tWorldResult.vcnt (badWorld c) ≤ 100000000 := few_vcnt ⟨by simp [badWorld, noWorld, noChain], by simp [badWorld, noWorld], by simp [badWorld, noWorld], by simp [badWorld, noWorld], by simp [badWorld, noWorld], by simp [badWorld, noWorld, cntAll]⟩
def memberW (x : DWorld) (id : Int) : Bool := decide (0 ≤ placeC x.chain.ids id) && ((nodeOf x id).up && (nodeOf x id).epoch == x.chain.epoch)
theorem memberW_eq (x : DWorld) (id : Int) : memberW x id = memberB x id := by
 unfold memberW memberB
 cases decide (0 ≤ placeC x.chain.ids id) <;> cases (nodeOf x id).up <;> simp
theorem isMemberC (cs : List Value) (x : DWorld) (id : Int) (w : World) (h : Lay.tWorld.Reads w cs x) (hi : ∀ z ∈ x.chain.ids, nodeIn x z = true) (hn5 : x.nodes.length ≤ 5) :
  Calls Tryz.prog 140 #[.agg cs.toArray, .int .i64 id] w fun e w' => e = .returned (.bool (memberW x id)) ∧ Below w.heap.size w w' := by
 obtain ⟨a3, d3, a4, d4, a5, d5, a6, d6, rfl, RC, RN, -, -⟩ := open_World h
 have nb : Below w.heap.size w (w.alloc (.cells #[.int .i64 x.now, .int .i64 x.events, .int .i64 x.chain.epoch, .slice a3 x.chain.ids.length d3, .slice a4 x.nodes.length d4, .slice a5 x.msgs.length d5, .slice a6 x.history.length d6] 36)) := (Below.refl _ _).alloc (Nat.le_refl _) _
 have HX : Hid (Box 0 #[.int .i64 x.now, .int .i64 x.events, .int .i64 x.chain.epoch, .slice a3 x.chain.ids.length d3, .slice a4 x.nodes.length d4, .slice a5 x.msgs.length d5, .slice a6 x.history.length d6] 36 (w.alloc (.cells #[.int .i64 x.now, .int .i64 x.events, .int .i64 x.chain.epoch, .slice a3 x.chain.ids.length d3, .slice a4 x.nodes.length d4, .slice a5 x.msgs.length d5, .slice a6 x.history.length d6] 36)) w.heap.size) := newBox (Nat.zero_le _)
 have HL := yh (isInChainC _ x.chain id _ (RC.later nb))
 have HRN := yh (RN.later nb)
 have HB := yh nb
 have HP : Hid (memberW x id = (decide (0 ≤ placeC x.chain.ids id) && ((nodeOf x id).up && (nodeOf x id).epoch == x.chain.epoch))) := rfl
 have HM : Hid (decide (0 ≤ placeC x.chain.ids id) = true → nodeIn x id = true) := fun q => hi id ((mem_place _ _).1 q)
 clear nb h RC RN hi
 generalize memberW x id = r at *
 generalize hq : decide (0 ≤ placeC x.chain.ids id) = q at *
 clear hq
 go_enter Tryz.func140, Tryz.ntmps140
 go_upto_region 1 with fail
 generalize w.alloc (.cells #[.int .i64 x.now, .int .i64 x.events, .int .i64 x.chain.epoch, .slice a3 x.chain.ids.length d3, .slice a4 x.nodes.length d4, .slice a5 x.msgs.length d5, .slice a6 x.history.length d6] 36) = w1 at *
 have z2 := Box.at (uh HX) 2 _ rfl
 have z3 := Box.at (uh HX) 3 _ rfl
 simp only [ga, gb, gc] at z2 z3
 have zl := (uh HX).lt
 go_wp2_with fail
 refine (uh HL).mono ?_
 rintro e w2 ⟨rfl, hb⟩
 replace HX := yh ((uh HX).keep hb)
 replace HRN := yh ((uh HRN).later hb)
 replace HB := yh ((uh HB).trans (hb.mono (uh HB).size))
 clear hb HL z2 z3 zl
 cases q
 ·
  go_wp2_with fail
  go_ret
  exact ⟨by rw [uh HP]; rfl, uh HB⟩
 obtain ⟨k, hk, rfl⟩ := nodeIn_at (uh HM rfl)
 rw [nodeOf_at hk] at HP
 obtain ⟨b, off, rfl, hbl⟩ := Lay.sl_addr (uh HRN) (by omega)
 obtain ⟨row, hcl, hr⟩ := Lay.row_at (uh HRN) hk
 obtain ⟨an, dn, rfl, -⟩ := open_Node hr
 have c0 : w2.cell? ⟨b, off + k * 7, none⟩ = some (.int .i64 (x.nodes[k]).id) := hcl 0 (by decide)
 have c1 : w2.cell? ⟨b, off + k * 7 + 1, none⟩ = some (.bool (x.nodes[k]).up) := hcl 1 (by decide)
 have c2 : w2.cell? ⟨b, off + k * 7 + 2, none⟩ = some (.int .i64 (x.nodes[k]).epoch) := hcl 2 (by decide)
 have c3 : w2.cell? ⟨b, off + k * 7 + 3, none⟩ = some (.int .i64 (x.nodes[k]).lease) := hcl 3 (by decide)
 have c4 : w2.cell? ⟨b, off + k * 7 + 4, none⟩ = some (.slice an (x.nodes[k]).writes.length dn) := hcl 4 (by decide)
 have c5 : w2.cell? ⟨b, off + k * 7 + 5, none⟩ = some (.int .i64 (x.nodes[k]).sure) := hcl 5 (by decide)
 have c6 : w2.cell? ⟨b, off + k * 7 + 6, none⟩ = some (.int .i64 (x.nodes[k]).clean) := hcl 6 (by decide)
 have hw1 : IntKind.i64.wrap (k : Int) = (k : Int) := by
  rw [IntKind.wrap_i64]
  omega
 have hki : (k : Int) < (x.nodes.length : Int) := by omega
 have z4 := Box.at (uh HX) 4 _ rfl
 have z2 := Box.at (uh HX) 2 _ rfl
 simp only [ga, gb, gc] at z4 z2
 have zl := (uh HX).lt
 clear hcl hr HRN HM HX
 generalize x.nodes[k] = n at *
 have nb : Below w2.heap.size w2 (w2.alloc (.cells #[.int .i64 n.id, .bool n.up, .int .i64 n.epoch, .int .i64 n.lease, .slice an n.writes.length dn, .int .i64 n.sure, .int .i64 n.clean] 84)) := (Below.refl _ _).alloc (Nat.le_refl _) _
 replace HB := yh ((uh HB).trans (nb.mono (uh HB).size))
 clear nb
 generalize hu : n.up = u at *
 clear hu
 generalize he : (n.epoch == x.chain.epoch) = v at *
 cases u
 ·
  go_wp2_with fail
  go_ret
  exact ⟨by rw [uh HP]; rfl, uh HB⟩
 cases v
 ·
  go_wp2_with fail
  go_ret
  exact ⟨by rw [uh HP]; rfl, uh HB⟩
 go_wp2_with fail
 go_ret
 exact ⟨by rw [uh HP]; rfl, uh HB⟩
def leaseN (n : DNode) (t : Int) : DNode := ⟨n.id, n.up, n.epoch, t, n.writes, n.sure, n.clean⟩
def beatC (y : DWorld) (id : Int) : Int := if memberB y id = true then 0 else 10
def beatWR (x : DWorld) (id : Int) : DWorldResult :=
 if askedW x id ≠ 0 then badWorld (askedW x id) else if memberB x id = false then badWorld 10 else ⟨0, true, putNode (nextW x) (leaseN (nodeOf x id) (x.now + 4))⟩
theorem beatC_bd (y : DWorld) (id : Int) : -1000000000 ≤ beatC y id ∧ beatC y id ≤ 1000000000 := by
 unfold beatC
 split <;> omega
theorem beatW_eq (x : DWorld) (id : Int) : steppedR x (idFaultR x id) (beatC (nextW x) id) true (putNode (nextW x) (leaseN (nodeOf x id) (x.now + 4))) = beatWR x id := by
 rw [steppedR_eq, beatWR]
 by_cases h : askedW x id ≠ 0
 ·
  rw [if_pos h, if_pos h]
 rw [if_neg h, if_neg h, resW]
 have hm : memberB (nextW x) id = memberB x id := rfl
 rw [beatC, hm]
 cases memberB x id
 ·
  rfl
 rfl
theorem putN_few {x : DWorld} {id : Int} {n : DNode} (hF : FewW x) (h : n.writes = (nodeOf x id).writes) (hin : nodeIn x id = true) : FewW (putNode (nextW x) n) := by
 obtain ⟨k, hk, rfl⟩ := nodeIn_at hin
 rw [nodeOf_at hk] at h
 refine ⟨hF.ids, ?_, fun z hz => ?_, hF.mlen, hF.msgs, hF.hist⟩
 ·
  show (List.set _ _ _).length ≤ _
  rw [List.length_set]
  exact hF.len
 rcases List.mem_or_eq_of_mem_set hz with q | q
 ·
  exact hF.nodes z q
 rw [q, h]
 exact hF.nodes _ (List.getElem_mem hk)
theorem beatWR_few {x : DWorld} {id : Int} (hs : Lay.tWorld.sz x ≤ 1048576) : Lay.tWorldResult.vcnt (beatWR x id) ≤ 100000000 := by
 unfold beatWR
 split
 ·
  exact badW_few _
 rename_i q
 obtain ⟨hwf, hni⟩ := asked_zero (by simpa using q)
 have hF := few_of_ok (worldFault_zero hwf) hs
 split
 ·
  exact badW_few _
 exact few_vcnt (putN_few hF rfl hni)
theorem specBeatWorld (cs : List Value) (x : DWorld) (id : Int) (w : World) (h : Lay.tWorld.Reads w cs x) (hf : Fits x) :
  Calls Tryz.prog 28 #[.agg cs.toArray, .int .i64 id] w fun e w' => ∃ cs', e = .returned (.agg cs'.toArray) ∧ Lay.tWorldResult.Reads w' cs' (beatWR x id) ∧ Below w.heap.size w w' := by
 have HP : Hid (beatWR x id = if askedW x id ≠ 0 then badWorld (askedW x id) else if memberB x id = false then badWorld 10 else ⟨0, true, putNode (nextW x) (leaseN (nodeOf x id) (x.now + 4))⟩) := rfl
 obtain ⟨a3, d3, a4, d4, a5, d5, a6, d6, rfl, -, -, -, -⟩ := open_World h
 have HBN : Hid (∀ b off, a4 = some ⟨b, off, none⟩ → 0 < x.nodes.length → b < w.heap.size) := fun b off e hp => by
  obtain ⟨_, _, _, _, _, _, _, _, hq, -, RN, -, -⟩ := open_World h
  simp only [List.cons.injEq, Value.slice.injEq, and_true, true_and] at hq
  obtain ⟨-, ⟨rfl, rfl⟩, -, -, -⟩ := hq
  obtain ⟨b', off', e', hb⟩ := Lay.sl_addr RN hp
  rw [e] at e'
  simp only [Option.some.injEq, Addr.mk.injEq, and_true] at e'
  obtain ⟨rfl, -⟩ := e'
  exact hb
 have nb : Below w.heap.size w ((w.alloc (.cells #[.int .i64 x.now, .int .i64 x.events, .int .i64 x.chain.epoch, .slice a3 x.chain.ids.length d3, .slice a4 x.nodes.length d4, .slice a5 x.msgs.length d5, .slice a6 x.history.length d6] 36)).alloc (.cells #[.int .i64 0, .bool false, .int .i64 0, .int .i64 0, .int .i64 0, .slice none 0 0, .slice none 0 0, .slice none 0 0, .slice none 0 0] 38)) := ((Below.refl _ _).alloc (Nat.le_refl _) _).alloc (by simp) _
 have HX : Hid (Box 0 #[.int .i64 x.now, .int .i64 x.events, .int .i64 x.chain.epoch, .slice a3 x.chain.ids.length d3, .slice a4 x.nodes.length d4, .slice a5 x.msgs.length d5, .slice a6 x.history.length d6] 36 ((w.alloc (.cells #[.int .i64 x.now, .int .i64 x.events, .int .i64 x.chain.epoch, .slice a3 x.chain.ids.length d3, .slice a4 x.nodes.length d4, .slice a5 x.msgs.length d5, .slice a6 x.history.length d6] 36)).alloc (.cells #[.int .i64 0, .bool false, .int .i64 0, .int .i64 0, .int .i64 0, .slice none 0 0, .slice none 0 0, .slice none 0 0, .slice none 0 0] 38)) w.heap.size) := ((newBox (Nat.zero_le _)).grow _)
 have HY : Hid (Box 0 #[.int .i64 0, .bool false, .int .i64 0, .int .i64 0, .int .i64 0, .slice none 0 0, .slice none 0 0, .slice none 0 0, .slice none 0 0] 38 ((w.alloc (.cells #[.int .i64 x.now, .int .i64 x.events, .int .i64 x.chain.epoch, .slice a3 x.chain.ids.length d3, .slice a4 x.nodes.length d4, .slice a5 x.msgs.length d5, .slice a6 x.history.length d6] 36)).alloc (.cells #[.int .i64 0, .bool false, .int .i64 0, .int .i64 0, .int .i64 0, .slice none 0 0, .slice none 0 0, .slice none 0 0, .slice none 0 0] 38)) (w.heap.size + 1)) := newBoxAt (Nat.zero_le _) (by simp)
 have hz0 : ((w.alloc (.cells #[.int .i64 x.now, .int .i64 x.events, .int .i64 x.chain.epoch, .slice a3 x.chain.ids.length d3, .slice a4 x.nodes.length d4, .slice a5 x.msgs.length d5, .slice a6 x.history.length d6] 36)).alloc (.cells #[.int .i64 0, .bool false, .int .i64 0, .int .i64 0, .int .i64 0, .slice none 0 0, .slice none 0 0, .slice none 0 0, .slice none 0 0] 38)).heap.size = w.heap.size + 2 := by simp
 have HR := yh (h.later nb)
 have HB := yh nb
 clear nb
 clear h
 generalize beatWR x id = R at *
 go_enter Tryz.func28, Tryz.ntmps28
 go_upto_region 1 with fail
 generalize ((w.alloc (.cells #[.int .i64 x.now, .int .i64 x.events, .int .i64 x.chain.epoch, .slice a3 x.chain.ids.length d3, .slice a4 x.nodes.length d4, .slice a5 x.msgs.length d5, .slice a6 x.history.length d6] 36)).alloc (.cells #[.int .i64 0, .bool false, .int .i64 0, .int .i64 0, .int .i64 0, .slice none 0 0, .slice none 0 0, .slice none 0 0, .slice none 0 0] 38)) = W0 at *
 go_wp2_with fail
 refine (l12AskedC a3 d3 a4 d4 a5 d5 a6 d6 x id w.heap.size W0 (uh HX) (uh HR)).mono ?_
 rintro e wa ⟨rfl, hb⟩
 replace HX := yh ((uh HX).keep hb)
 replace HR := yh ((uh HR).later hb)
 replace HY := yh ((uh HY).keep hb)
 replace HB := yh ((uh HB).trans (hb.mono (uh HB).size))
 have hza := hb.size
 clear hb
 by_cases d1 : askedW x id ≠ 0
 ·
  have hd : (askedW x id != 0) = true := by simpa using d1
  replace HP := yh ((uh HP).trans (if_pos d1))
  have HC := yh (asked_bd x id)
  clear d1 hf 
  generalize askedW x id = c at *
  go_wp2_with fail
  refine (l12BadCZ (c) _).mono ?_
  rintro e wB ⟨rfl, hbB⟩
  have hyB := (uh HY).keep hbB
  have z0 := Box.at hyB 0 _ rfl
  have z1 := Box.at hyB 1 _ rfl
  have z2 := Box.at hyB 2 _ rfl
  have z3 := Box.at hyB 3 _ rfl
  have z4 := Box.at hyB 4 _ rfl
  have z5 := Box.at hyB 5 _ rfl
  have z6 := Box.at hyB 6 _ rfl
  have z7 := Box.at hyB 7 _ rfl
  have z8 := Box.at hyB 8 _ rfl
  simp only [ga, gb, gc] at z0 z1 z2 z3 z4 z5 z6 z7 z8
  have zf := Box.soft hyB
  have zl := hyB.lt
  have HB9 := yh (below_setAll ((uh HB).trans (hbB.mono (uh HB).size)) (w.heap.size + 1) 0 [.int .i64 c, .bool false, .int .i64 0, .int .i64 0, .int .i64 0, .slice none 0 0, .slice none 0 0, .slice none 0 0, .slice none 0 0] (by omega))
  clear hyB hbB HY HB
  go_wp2_with fail
  refine bodyPost_ret (v := .agg #[.int .i64 c, .bool false, .int .i64 0, .int .i64 0, .int .i64 0, .slice none 0 0, .slice none 0 0, .slice none 0 0, .slice none 0 0]) (by simp [results, Tryz.results28, go_sem, z0, z1, z2, z3, z4, z5, z6, z7, z8]) rfl ?_
  rw [uh HP]
  exact ⟨[.int .i64 c, .bool false, .int .i64 0, .int .i64 0, .int .i64 0, .slice none 0 0, .slice none 0 0, .slice none 0 0, .slice none 0 0], rfl, (own_badW (uh HC) (lo := 0) (hi := 0) (Nat.le_refl 0)).lies.reads, uh HB9⟩
 replace HP := yh ((uh HP).trans (if_neg d1))
 have hd0 : askedW x id = 0 := by simpa using d1
 obtain ⟨hwf, hni⟩ := asked_zero hd0
 have hok := worldFault_zero hwf
 obtain ⟨k, hk, rfl⟩ := nodeIn_at hni
 rw [hd0]
 clear d1 hd0 hwf hni
 have hn := hok.nodes k hk
 obtain ⟨_, _, _, _, _, _, _, _, hq, RC, RN, -, -⟩ := open_World (uh HR)
 simp only [List.cons.injEq, Value.slice.injEq, and_true, true_and] at hq
 obtain ⟨⟨rfl, rfl⟩, ⟨rfl, rfl⟩, -, -, -⟩ := hq
 obtain ⟨b0, off0, rfl, hbl⟩ := Lay.sl_addr RN (by omega)
 rw [nodeOf_at hk] at HP
 have HLM := yh (l12MemberC a3 d3 b0 off0 d4 a5 d5 a6 d6 x k w.heap.size wa (uh HX) (uh HR) hk hok.some.2)
 have hnow := hok.now.1
 have hnow2 := hok.now.2
 have hw1 : IntKind.i64.wrap (k : Int) = (k : Int) := by
  have := hok.some
  rw [IntKind.wrap_i64]
  omega
 have hki : (k : Int) < (x.nodes.length : Int) := by omega
 have hki0 : (0 : Int) ≤ (k : Int) := by omega
 have HOK := yh hok
 have HIDK := yh hn.2.1
 have HWL := yh (show (Lit.int .i64 (x.now + 4)).wf = true from wf_of_bd (by omega))
 clear hn RN RC hok
 go_wp2_with fail
 refine (uh HLM).mono ?_
 rintro e wb ⟨rfl, hbm⟩
 replace HX := yh ((uh HX).keep hbm)
 replace HR := yh ((uh HR).later hbm)
 replace HY := yh ((uh HY).keep hbm)
 replace HB := yh ((uh HB).trans (hbm.mono (uh HB).size))
 have hzb := hbm.size
 clear hbm HLM
 cases hm : memberB x ((k : Int) + 1)
 ·
  replace HP := yh ((uh HP).trans (if_pos hm))
  have HC : Hid (-1000000000 ≤ (10 : Int) ∧ (10 : Int) ≤ 1000000000) := by show (-1000000000 : Int) ≤ 10 ∧ (10 : Int) ≤ 1000000000; omega
  clear hm
  go_wp2_with fail
  refine (l12BadCZ (10) _).mono ?_
  rintro e wB ⟨rfl, hbB⟩
  have hyB := (uh HY).keep hbB
  have z0 := Box.at hyB 0 _ rfl
  have z1 := Box.at hyB 1 _ rfl
  have z2 := Box.at hyB 2 _ rfl
  have z3 := Box.at hyB 3 _ rfl
  have z4 := Box.at hyB 4 _ rfl
  have z5 := Box.at hyB 5 _ rfl
  have z6 := Box.at hyB 6 _ rfl
  have z7 := Box.at hyB 7 _ rfl
  have z8 := Box.at hyB 8 _ rfl
  simp only [ga, gb, gc] at z0 z1 z2 z3 z4 z5 z6 z7 z8
  have zf := Box.soft hyB
  have zl := hyB.lt
  have HB9 := yh (below_setAll ((uh HB).trans (hbB.mono (uh HB).size)) (w.heap.size + 1) 0 [.int .i64 10, .bool false, .int .i64 0, .int .i64 0, .int .i64 0, .slice none 0 0, .slice none 0 0, .slice none 0 0, .slice none 0 0] (by omega))
  clear hyB hbB HY HB
  go_wp2_with fail
  refine bodyPost_ret (v := .agg #[.int .i64 10, .bool false, .int .i64 0, .int .i64 0, .int .i64 0, .slice none 0 0, .slice none 0 0, .slice none 0 0, .slice none 0 0]) (by simp [results, Tryz.results28, go_sem, z0, z1, z2, z3, z4, z5, z6, z7, z8]) rfl ?_
  rw [uh HP]
  exact ⟨[.int .i64 10, .bool false, .int .i64 0, .int .i64 0, .int .i64 0, .slice none 0 0, .slice none 0 0, .slice none 0 0, .slice none 0 0], rfl, (own_badW (uh HC) (lo := 0) (hi := 0) (Nat.le_refl 0)).lies.reads, uh HB9⟩
 replace HP := yh ((uh HP).trans (if_neg (by rw [hm]; decide)))
 have HL := yh (l12NextC _ x wb (uh HR) (uh HOK) hf)
 clear hm
 have z0 := Box.at (uh HX) 0 _ rfl
 have z1 := Box.at (uh HX) 1 _ rfl
 have z2 := Box.at (uh HX) 2 _ rfl
 have z3 := Box.at (uh HX) 3 _ rfl
 have z4 := Box.at (uh HX) 4 _ rfl
 have z5 := Box.at (uh HX) 5 _ rfl
 have z6 := Box.at (uh HX) 6 _ rfl
 simp only [ga, gb, gc] at z0 z1 z2 z3 z4 z5 z6
 have zl := (uh HX).lt
 go_wp2_with fail
 clear z0 z1 z2 z3 z4 z5 z6 zl
 refine (uh HL).mono ?_
 rintro e W1 ⟨cs', rfl, O, hb⟩
 have hop := open_World O.reads
 dsimp only [nextW] at hop
 obtain ⟨a3w, d3w, a4w, d4w, a5w, d5w, a6w, d6w, rfl, -⟩ := hop
 have hz1 : wb.heap.size ≤ W1.heap.size := hb.size
 have nb : Below W1.heap.size W1 (W1.alloc (.cells #[.int .i64 x.now, .int .i64 (x.events + 1), .int .i64 x.chain.epoch, .slice a3w x.chain.ids.length d3w, .slice a4w x.nodes.length d4w, .slice a5w x.msgs.length d5w, .slice a6w x.history.length d6w] 36)) := (Below.refl _ _).alloc (Nat.le_refl _) _
 have HG : Hid (Box 0 #[.int .i64 x.now, .int .i64 (x.events + 1), .int .i64 x.chain.epoch, .slice a3w x.chain.ids.length d3w, .slice a4w x.nodes.length d4w, .slice a5w x.msgs.length d5w, .slice a6w x.history.length d6w] 36 (W1.alloc (.cells #[.int .i64 x.now, .int .i64 (x.events + 1), .int .i64 x.chain.epoch, .slice a3w x.chain.ids.length d3w, .slice a4w x.nodes.length d4w, .slice a5w x.msgs.length d5w, .slice a6w x.history.length d6w] 36)) W1.heap.size) := newBox (Nat.zero_le _)
 have HO := yh ((O.later nb).st (G := fun c => c < 0 ∨ c < wb.heap.size ∨ c = W1.heap.size) (fun k hk => by omega))
 replace HX := yh (((uh HX).keep hb).keep nb)
 replace HR := yh (((uh HR).later hb).later nb)
 replace HY := yh (((uh HY).keep hb).keep nb)
 replace HB := yh ((uh HB).trans ((hb.trans (nb.mono hb.size)).mono (uh HB).size))
 have hz2 : W1.heap.size < (W1.alloc (.cells #[.int .i64 x.now, .int .i64 (x.events + 1), .int .i64 x.chain.epoch, .slice a3w x.chain.ids.length d3w, .slice a4w x.nodes.length d4w, .slice a5w x.msgs.length d5w, .slice a6w x.history.length d6w] 36)).heap.size := by simp
 clear nb O hb HL
 go_upto_region 7 with fail
 generalize W1.alloc (.cells #[.int .i64 x.now, .int .i64 (x.events + 1), .int .i64 x.chain.epoch, .slice a3w x.chain.ids.length d3w, .slice a4w x.nodes.length d4w, .slice a5w x.msgs.length d5w, .slice a6w x.history.length d6w] 36) = W2 at *
 have hg := uh HG
 have hk' : k < (nextW x).nodes.length := hk
 obtain ⟨b, off, d4, an, dn, e4, hb1, hb2, hb3, hbG, hR0, hwf, hkc, -, hput⟩ := wst_upd (y := nextW x) (uh HO) hk'
 simp only [Value.slice.injEq] at e4
 obtain ⟨rfl, -, rfl⟩ := e4
 have hen : (nextW x).nodes[k] = x.nodes[k] := rfl
 rw [hen] at hput hR0 hwf
 have y4 := Box.at hg 4 _ rfl
 have z0 := Box.at (uh HX) 0 _ rfl
 simp only [ga, gb, gc] at y4 z0
 have yl := hg.lt
 have zl := (uh HX).lt
 have x1 : W2.cell? ⟨b, off + k * 7 + 3, none⟩ = some (.int .i64 x.nodes[k].lease) := hR0.cells 3 (by decide)
 have f1 : W2.frozen? ⟨b, off + k * 7 + 3, none⟩ = false := hR0.soft _
 have hR2 := hR0.set 3 (.int .i64 (x.now + 4)) (by decide)
 simp only [List.set_cons_succ, List.set_cons_zero] at hR2
 have e1 : Ext (fun q => q = b) W2 (W2.setCell ⟨b, off + k * 7 + 3, none⟩ (.int .i64 (x.now + 4))) := (Ext.refl _ _).setCell _ _ rfl
 have hbg : b ≠ W1.heap.size := fun e => hbG (Or.inr (Or.inr e))
 replace HP := yh ((uh HP).trans (congrArg (fun z => (⟨0, true, z⟩ : DWorldResult)) (putNode_eq (y := nextW x) (k := k) (show (leaseN x.nodes[k] (x.now + 4)).id = (k : Int) + 1 from uh HIDK))))
 have hO : WSt (W2.setCell ⟨b, off + k * 7 + 3, none⟩ (.int .i64 (x.now + 4))) wb.heap.size W1.heap.size (fun c => c < 0 ∨ c < wb.heap.size ∨ c = W1.heap.size) [.int .i64 x.now, .int .i64 (x.events + 1), .int .i64 x.chain.epoch, .slice a3w x.chain.ids.length d3w, .slice (some ⟨b, off, none⟩) x.nodes.length d4w, .slice a5w x.msgs.length d5w, .slice a6w x.history.length d6w] (setN (nextW x) k (leaseN x.nodes[k] (x.now + 4))) := hput _ (leaseN x.nodes[k] (x.now + 4)) rfl ⟨hwf.1, hwf.2.1, uh HWL, hwf.2.2.2.1, hwf.2.2.2.2⟩ hR2
 have HO := yh hO
 have HG3 := yh (hg.ext e1 (fun e => hbg e.symm))
 have HY3 := yh ((uh HY).ext e1 (by omega))
 have HB3 := yh ((uh HB).trans (e1.below (B := w.heap.size) (by omega) (fun c hc e => by omega)))
 clear hg hR0 hR2 e1 hput hwf hkc HG HX HY HB hbG HR hen hO
 go_upto_region 8 with fail
 generalize hW9 : W2.setCell ⟨b, off + k * 7 + 3, none⟩ (.int .i64 (x.now + 4)) = W9 at *
 clear hW9 y4 z0 yl zl x1 f1
 have y0 := Box.at (uh HG3) 0 _ rfl
 have y1 := Box.at (uh HG3) 1 _ rfl
 have y2 := Box.at (uh HG3) 2 _ rfl
 have y3 := Box.at (uh HG3) 3 _ rfl
 have y4 := Box.at (uh HG3) 4 _ rfl
 have y5 := Box.at (uh HG3) 5 _ rfl
 have y6 := Box.at (uh HG3) 6 _ rfl
 simp only [ga, gb, gc] at y0 y1 y2 y3 y4 y5 y6
 have yl := (uh HG3).lt
 have r0 := Box.at (uh HY3) 0 _ rfl
 have r1 := Box.at (uh HY3) 1 _ rfl
 have r2 := Box.at (uh HY3) 2 _ rfl
 have r3 := Box.at (uh HY3) 3 _ rfl
 have r4 := Box.at (uh HY3) 4 _ rfl
 have r5 := Box.at (uh HY3) 5 _ rfl
 have r6 := Box.at (uh HY3) 6 _ rfl
 have r7 := Box.at (uh HY3) 7 _ rfl
 have r8 := Box.at (uh HY3) 8 _ rfl
 simp only [ga, gb, gc] at r0 r1 r2 r3 r4 r5 r6 r7 r8
 have rl := (uh HY3).lt
 have rf := Box.soft (uh HY3)
 have e9 : Ext (fun q => q = w.heap.size + 1) W9 (setAll W9 (w.heap.size + 1) 0 [.int .i64 0, .bool true, .int .i64 x.now, .int .i64 (x.events + 1), .int .i64 x.chain.epoch, .slice a3w x.chain.ids.length d3w, .slice (some ⟨b, off, none⟩) x.nodes.length d4w, .slice a5w x.msgs.length d5w, .slice a6w x.history.length d6w]) := ext_setAll _ (Ext.refl _ _) _ _ _ rfl
 have HO9 := yh (okR_lies (m := true) (((uh HO).ext e9 (fun c h1 h2 h3 => h2 (Or.inr (Or.inl (by omega))))).liesIn (B := 0) (fun c hc => by omega)))
 have HB9 := yh (below_setAll (uh HB3) (w.heap.size + 1) 0 [.int .i64 0, .bool true, .int .i64 x.now, .int .i64 (x.events + 1), .int .i64 x.chain.epoch, .slice a3w x.chain.ids.length d3w, .slice (some ⟨b, off, none⟩) x.nodes.length d4w, .slice a5w x.msgs.length d5w, .slice a6w x.history.length d6w] (by omega))
 clear e9 HO HG3 HY3 HB3
 go_wp2_with fail
 refine bodyPost_ret (v := .agg #[.int .i64 0, .bool true, .int .i64 x.now, .int .i64 (x.events + 1), .int .i64 x.chain.epoch, .slice a3w x.chain.ids.length d3w, .slice (some ⟨b, off, none⟩) x.nodes.length d4w, .slice a5w x.msgs.length d5w, .slice a6w x.history.length d6w]) (by simp [results, Tryz.results28, go_sem, r0, r1, r2, r3, r4, r5, r6, r7, r8]) rfl ?_
 rw [uh HP]
 exact ⟨_, rfl, (uh HO9).reads, uh HB9⟩
end Go.Proofs.YtoanimpijfijgaaGreat

namespace Go.Proofs.YtoanimpijfijgaaGreat
open Go Go.RowKit Ieee
theorem fl_neg (n : Nat) : decide ((n : Int) < 0) = false := decide_eq_false (by omega)
theorem fl_ne {x : Nat} (hx : x ≠ 0) (S : Nat) : x <<< S ≠ 0 := by
 rw [Nat.shiftLeft_eq]
 exact Nat.mul_ne_zero hx (Nat.pos_iff_ne_zero.1 (Nat.two_pow_pos S))
theorem fl_log2 {x : Nat} (hx : x ≠ 0) (S : Nat) : (x <<< S).log2 = x.log2 + S := by
 have h0 : x <<< S ≠ 0 := by
  rw [Nat.shiftLeft_eq]
  exact Nat.mul_ne_zero hx (Nat.pos_iff_ne_zero.1 (Nat.two_pow_pos S))
 have h := (Nat.log2_eq_iff hx).1 rfl
 refine (Nat.log2_eq_iff h0).2 ?_
 rw [Nat.shiftLeft_eq]
 constructor
 ·
  rw [Nat.pow_add]; exact Nat.mul_le_mul_right _ h.1
 rw [show x.log2 + S + 1 = (x.log2 + 1) + S by omega, Nat.pow_add]
 exact Nat.mul_lt_mul_of_pos_right h.2 (Nat.two_pow_pos S)
def rung (x : Nat) : Nat := if x = 0 then 0 else (1022 + x.log2) * 2 ^ 52 + x <<< (52 - x.log2)
theorem fl_bounds {x : Nat} (hx : x ≠ 0) (hl : x.log2 ≤ 52) : 2 ^ 52 ≤ x <<< (52 - x.log2) ∧ x <<< (52 - x.log2) < 2 ^ 53 := by
 have h := (Nat.log2_eq_iff hx).1 rfl
 rw [Nat.shiftLeft_eq]
 constructor
 ·
  calc 2 ^ 52 = 2 ^ x.log2 * 2 ^ (52 - x.log2) := by rw [← Nat.pow_add]; congr 1; omega
   _ ≤ _ := Nat.mul_le_mul_right _ h.1
 calc x * 2 ^ (52 - x.log2) < 2 ^ (x.log2 + 1) * 2 ^ (52 - x.log2) := Nat.mul_lt_mul_of_pos_right h.2 (Nat.two_pow_pos _)
  _ = 2 ^ 53 := by rw [← Nat.pow_add]; congr 1; omega
theorem fl_cut (n d : Nat) (hd : d ≤ n.log2 + 2) (q : Nat) (h : n = q <<< d) : Toward.even.cut false n d = q := by
 unfold Toward.cut
 have hm : min d (n.log2 + 2) = d := Nat.min_eq_left hd
 simp only [hm]
 have hg : (1 <<< d) = 2 ^ d := by rw [Nat.shiftLeft_eq, Nat.one_mul]
 have hp := Nat.two_pow_pos d
 rw [hg, h, Nat.shiftLeft_eq, Nat.mul_div_cancel _ hp, Nat.mul_mod_left]
 have h1 : decide (2 ^ d < 2 * 0) = false := by simp
 have h2 : (2 ^ d == 2 * 0) = false := by
  simp
 rw [h1, h2]
 simp
theorem fl_nearest {x : Nat} (hl : x.log2 ≤ 52) (S : Nat) (hS : 52 - x.log2 ≤ S) (_h1 : S ≤ 1074) : double.nearest false (x <<< S) (-(S : Int)) = rung x := by
 by_cases hx : x = 0
 ·
  subst hx
  simp [Format.nearest, rung, Format.word]
 have h0 : x <<< S ≠ 0 := by
  rw [Nat.shiftLeft_eq]
  exact Nat.mul_ne_zero hx (Nat.pos_iff_ne_zero.1 (Nat.two_pow_pos S))
 have hb := fl_bounds hx hl
 unfold Format.nearest rung
 rw [if_neg h0, if_neg hx]
 have hleast : double.leastPlace = -1074 := by decide
 have hfr : double.fractionBits = 52 := rfl
 have hbin : double.binade = 2 ^ 52 := rfl
 have hlast : max (-(S : Int) + ((x <<< S).log2 : Nat) - (double.fractionBits : Nat)) double.leastPlace = (x.log2 : Int) - 52 := by
  rw [fl_log2 hx, hfr, hleast]
  omega
 simp only [hlast]
 simp only [hleast, hbin]
 have e1 : (-(S : Int) - ((x.log2 : Int) - 52)).toNat = 0 := by omega
 have e2 : ((x.log2 : Int) - 52 - -(S : Int)).toNat = S - (52 - x.log2) := by omega
 have e3 : ((x.log2 : Int) - 52 - -1074).toNat = 1022 + x.log2 := by omega
 rw [e1, e2, e3, Nat.shiftLeft_zero]
 rw [fl_cut (x <<< S) (S - (52 - x.log2)) (by rw [fl_log2 hx]; omega) (x <<< (52 - x.log2)) (by
  rw [← Nat.shiftLeft_add]; congr 1; omega)]
 have hinf : double.infRung = 2047 * 2 ^ 52 := by decide
 rw [hinf, Nat.min_eq_left (by omega)]
 rfl
theorem fl_of {x : Nat} (hl : x.log2 ≤ 52) : floatOfInt .f64 (x : Int) = rung x := by
 have h := fl_nearest hl (52 - x.log2) (Nat.le_refl _) (by omega)
 show double.nearest (decide ((x : Int) < 0)) x 0 = rung x
 have hn : decide ((x : Int) < 0) = false := by simp
 rw [hn, ← h]
 by_cases hx : x = 0
 ·
  subst hx; simp [Format.nearest, Format.word]
 have h0 : x <<< (52 - x.log2) ≠ 0 := by
  have := (fl_bounds hx hl).1
  omega
 unfold Format.nearest
 rw [if_neg h0, if_neg hx]
 have hleast : double.leastPlace = -1074 := by decide
 have hfr : double.fractionBits = 52 := rfl
 have hlast : max (-((52 - x.log2 : Nat) : Int) + ((x <<< (52 - x.log2)).log2 : Nat) - (double.fractionBits : Nat)) double.leastPlace = (x.log2 : Int) - 52 := by
  rw [fl_log2 hx, hfr, hleast]
  omega
 have hlast0 : max ((0 : Int) + (x.log2 : Nat) - (double.fractionBits : Nat)) double.leastPlace = (x.log2 : Int) - 52 := by
  rw [hfr, hleast]
  omega
 simp only [hlast, hlast0]
 have e1 : (-((52 - x.log2 : Nat) : Int) - ((x.log2 : Int) - 52)).toNat = 0 := by omega
 have e2 : ((x.log2 : Int) - 52 - -((52 - x.log2 : Nat) : Int)).toNat = 0 := by omega
 have e3 : ((0 : Int) - ((x.log2 : Int) - 52)).toNat = 52 - x.log2 := by omega
 have e4 : ((x.log2 : Int) - 52 - 0).toNat = 0 := by omega
 rw [e1, e2, e3, e4, Nat.shiftLeft_zero]
theorem fl_read {x : Nat} (hx : x ≠ 0) (hl : x.log2 ≤ 52) : double.read (rung x) = .number false (x <<< (52 - x.log2)) (-((52 - x.log2 : Nat) : Int)) := by
 have hb := fl_bounds hx hl
 have hr : rung x = (1022 + x.log2) * 2 ^ 52 + x <<< (52 - x.log2) := by unfold rung; rw [if_neg hx]
 have hs : double.signWeight = 2 ^ 63 := rfl
 have hbin : double.binade = 2 ^ 52 := rfl
 have hinf : double.infRung = 2047 * 2 ^ 52 := by decide
 have hleast : double.leastPlace = -1074 := by decide
 have hm : rung x % 2 ^ 63 = rung x := Nat.mod_eq_of_lt (by omega)
 have hd : rung x / 2 ^ 63 = 0 := Nat.div_eq_of_lt (by omega)
 unfold Format.read
 simp only [hs, hbin, hinf, hleast, hm, hd]
 rw [if_neg (by omega), if_pos (by omega)]
 congr 1
 ·
  omega
 omega
theorem fl_read0 : double.read (rung 0) = .number false 0 (-1074) := by decide
theorem fl_add {x y : Nat} (hx : x.log2 ≤ 52) (hy : y.log2 ≤ 52) (hz : (x + y).log2 ≤ 52) : floatBits .add .f64 (rung x) (rung y) = some (rung (x + y)) := by
 show ((double.read (rung x)).sum (double.read (rung y))).map double.write = some (rung (x + y))
 by_cases h0 : x = 0
 ·
  subst h0
  by_cases h1 : y = 0
  ·
   subst h1; decide
  rw [fl_read0, fl_read h1 hy]
  unfold Datum.sum
  have hm : min (-1074 : Int) (-((52 - y.log2 : Nat) : Int)) = -1074 := by omega
  simp only [hm]
  have e : (-((52 - y.log2 : Nat) : Int) - -1074).toNat = 1074 - (52 - y.log2) := by omega
  rw [e]
  have hsg : signed false 0 ((-1074 : Int) - -1074).toNat + signed false (y <<< (52 - y.log2)) (1074 - (52 - y.log2)) = ((y <<< 1074 : Nat) : Int) := by
   unfold signed
   rw [if_neg (by decide), if_neg (by decide), ← Nat.shiftLeft_add, show 52 - y.log2 + (1074 - (52 - y.log2)) = 1074 by omega]
   simp
  rw [hsg]
  have hn : y <<< 1074 ≠ 0 := fl_ne h1 _
  rw [if_neg (by omega)]
  have hd : decide (((y <<< 1074 : Nat) : Int) < 0) = false := fl_neg _
  rw [hd, Int.natAbs_natCast, Nat.zero_add]
  show some (double.nearest false (y <<< 1074) (-((1074 : Nat) : Int))) = _
  rw [fl_nearest hy 1074 (by omega) (by omega)]
 by_cases h1 : y = 0
 ·
  subst h1
  rw [fl_read0, fl_read h0 hx]
  unfold Datum.sum
  have hm : min (-((52 - x.log2 : Nat) : Int)) (-1074 : Int) = -1074 := by omega
  simp only [hm]
  have e : (-((52 - x.log2 : Nat) : Int) - -1074).toNat = 1074 - (52 - x.log2) := by omega
  rw [e]
  have hsg : signed false (x <<< (52 - x.log2)) (1074 - (52 - x.log2)) + signed false 0 ((-1074 : Int) - -1074).toNat = ((x <<< 1074 : Nat) : Int) := by
   unfold signed
   rw [if_neg (by decide), if_neg (by decide), ← Nat.shiftLeft_add, show 52 - x.log2 + (1074 - (52 - x.log2)) = 1074 by omega]
   simp
  rw [hsg]
  have hn : x <<< 1074 ≠ 0 := fl_ne h0 _
  rw [if_neg (by omega)]
  have hd : decide (((x <<< 1074 : Nat) : Int) < 0) = false := fl_neg _
  rw [hd, Int.natAbs_natCast, Nat.add_zero]
  show some (double.nearest false (x <<< 1074) (-((1074 : Nat) : Int))) = _
  rw [fl_nearest hx 1074 (by omega) (by omega)]
 rw [fl_read h0 hx, fl_read h1 hy]
 have hS : ∃ S : Nat, S = max (52 - x.log2) (52 - y.log2) := ⟨_, rfl⟩
 obtain ⟨S, hS⟩ := hS
 unfold Datum.sum
 have hm : min (-((52 - x.log2 : Nat) : Int)) (-((52 - y.log2 : Nat) : Int)) = -(S : Int) := by omega
 simp only [hm]
 have e1 : (-((52 - x.log2 : Nat) : Int) - -(S : Int)).toNat = S - (52 - x.log2) := by omega
 have e2 : (-((52 - y.log2 : Nat) : Int) - -(S : Int)).toNat = S - (52 - y.log2) := by omega
 rw [e1, e2]
 have hsg : signed false (x <<< (52 - x.log2)) (S - (52 - x.log2)) + signed false (y <<< (52 - y.log2)) (S - (52 - y.log2)) = (((x + y) <<< S : Nat) : Int) := by
  unfold signed
  rw [if_neg (by decide), if_neg (by decide), ← Nat.shiftLeft_add, ← Nat.shiftLeft_add, show 52 - x.log2 + (S - (52 - x.log2)) = S by omega, show 52 - y.log2 + (S - (52 - y.log2)) = S by omega]
  rw [Nat.shiftLeft_eq, Nat.shiftLeft_eq, Nat.shiftLeft_eq, Nat.add_mul]
  simp
 rw [hsg]
 have hxy : x + y ≠ 0 := by omega
 have hn : (x + y) <<< S ≠ 0 := by
  rw [Nat.shiftLeft_eq]
  exact Nat.mul_ne_zero hxy (Nat.pos_iff_ne_zero.1 (Nat.two_pow_pos _))
 rw [if_neg (by omega)]
 have hd : decide ((((x + y) <<< S : Nat) : Int) < 0) = false := fl_neg _
 rw [hd, Int.natAbs_natCast]
 show some (double.nearest false ((x + y) <<< S) (-(S : Int))) = _
 have hmono : x.log2 ≤ (x + y).log2 := by
  have h := (Nat.log2_eq_iff h0).1 rfl
  exact (Nat.le_log2 hxy).2 (by omega)
 rw [fl_nearest hz S (by omega) (by omega)]
theorem fl_int {x : Nat} (hl : x.log2 ≤ 52) (k : IntKind) (hk : k.min ≤ (x : Int) ∧ (x : Int) ≤ k.max) : floatToIntVal .f64 (rung x) k = some (x : Int) := by
 have ht : (FloatKind.f64.decode (rung x)).toInt .zero = some (x : Int) := by
  show (double.read (rung x)).toInt .zero = some (x : Int)
  by_cases hx : x = 0
  ·
   subst hx; decide
  rw [fl_read hx hl]
  unfold Datum.toInt Datum.integral
  have e1 : (-((52 - x.log2 : Nat) : Int)).toNat = 0 := by omega
  have e2 : (- -((52 - x.log2 : Nat) : Int)).toNat = 52 - x.log2 := by omega
  simp only [e1, e2, Nat.shiftLeft_zero]
  have hc : Toward.zero.cut false (x <<< (52 - x.log2)) (52 - x.log2) = x := by
   unfold Toward.cut
   have hm : min (52 - x.log2) ((x <<< (52 - x.log2)).log2 + 2) = 52 - x.log2 := Nat.min_eq_left (by rw [fl_log2 hx]; omega)
   simp only [hm]
   have hg : (1 <<< (52 - x.log2)) = 2 ^ (52 - x.log2) := by rw [Nat.shiftLeft_eq, Nat.one_mul]
   rw [hg, Nat.shiftLeft_eq, Nat.mul_div_cancel _ (Nat.two_pow_pos _)]
   rfl
  rw [hc]
  rfl
 unfold floatToIntVal
 rw [ht]
 simp only [hk.1, hk.2, and_self, if_true]
theorem fl_small {x : Nat} (h : x ≤ 1000000) : x.log2 ≤ 52 := by
 by_cases hx : x = 0
 ·
  subst hx; decide
 have := (Nat.log2_lt hx (k := 53)).2 (by omega)
 omega
end Go.Proofs.YtoanimpijfijgaaGreat

namespace Go.Proofs.YtoanimpijfijgaaGreat
open Go.RowKit
def fl (e : Int) : Nat := rung e.toNat
abbrev mom (e a : Int) : Value := .complex .f64 (fl e) (fl a)
theorem fl_ofInt {e : Int} (h : 0 ≤ e ∧ e ≤ 1000000) : floatOfInt .f64 e = fl e := by
 unfold fl
 have h1 : ((e.toNat : Nat) : Int) = e := by omega
 have := fl_of (fl_small (x := e.toNat) (by omega))
 rw [h1] at this
 exact this
theorem fl_toInt {e : Int} (h : 0 ≤ e ∧ e ≤ 1000000) (k : IntKind) (hk : k = .i64 ∨ k = .u64) : floatToIntVal .f64 (fl e) k = some e := by
 unfold fl
 have h1 : ((e.toNat : Nat) : Int) = e := by omega
 have := fl_int (fl_small (x := e.toNat) (by omega)) k (by
  rw [h1]
  rcases hk with rfl | rfl
  ·
   have a : IntKind.i64.min = -9223372036854775808 := by decide
   have b : IntKind.i64.max = 9223372036854775807 := by decide
   omega
  have a : IntKind.u64.min = 0 := by decide
  have b : IntKind.u64.max = 18446744073709551615 := by decide
  omega)
 rw [h1] at this
 exact this
theorem run_moments {P : Program} (w : World) (t : TypeId) {e a f b r s : Int} (he : 0 ≤ e ∧ e ≤ 500000) (ha : 0 ≤ a ∧ a ≤ 500000) (hf : 0 ≤ f ∧ f ≤ 500000) (hb : 0 ≤ b ∧ b ≤ 500000) (hr : e + f = r) (hs : a + b = s) :
  (binOp .add t (mom e a) (mom f b)).run P w = .ok (mom r s) w := by
 subst hr
 subst hs
 have h1 : (e + f).toNat = e.toNat + f.toNat := by omega
 have h2 : (a + b).toNat = a.toNat + b.toNat := by omega
 have := run_complex_sum (P := P) w .add (Or.inl rfl) t .f64 (rung e.toNat) (rung a.toNat) (rung f.toNat) (rung b.toNat) (rung (e.toNat + f.toNat)) (rung (a.toNat + b.toNat)) (by
  unfold cSumBits
  rw [fl_add (fl_small (by omega)) (fl_small (by omega)) (fl_small (by omega)), fl_add (fl_small (by omega)) (fl_small (by omega)) (fl_small (by omega))]
  rfl)
 rw [mom, mom, mom, fl, fl, fl, fl, fl, fl, h1, h2]
 exact this
theorem momentOfC (e a : Int) (he : 0 ≤ e ∧ e ≤ 1000000) (ha : 0 ≤ a ∧ a ≤ 1000000) (w : World) :
  Calls Tryz.prog 164 #[.int .i64 e, .int .u64 a] w fun r w' => r = .returned (mom e a) ∧ w' = w := by
 have f1 := fl_ofInt he
 have f2 := fl_ofInt ha
 go_enter Tryz.func164, Tryz.ntmps164
 go_wp2_with fail
 all_goals (go_ret; exact ⟨rfl, rfl⟩)
theorem epochC (e a : Int) (he : 0 ≤ e ∧ e ≤ 1000000) (w : World) :
  Calls Tryz.prog 235 #[mom e a] w fun r w' => r = .returned (.int .i64 e) ∧ w' = w := by
 have hc : ∀ w, (convert 249 2 (.float .f64 (fl e))).run Tryz.prog w = .ok (.int .i64 e) w := fun w => run_convert_float_int w 249 2 .f64 .i64 _ _ (by rw [Tryz.underlying249]; rfl) Tryz.underlying2 (fl_toInt he .i64 (Or.inl rfl))
 show Calls Tryz.prog 235 #[.complex .f64 (fl e) (fl a)] w _
 generalize fl e = re at *
 generalize fl a = ra at *
 go_enter Tryz.func235, Tryz.ntmps235
 go_wp2_with (simp only [hc])
 all_goals (go_ret; exact ⟨rfl, rfl⟩)
theorem timeC (e a : Int) (ha : 0 ≤ a ∧ a ≤ 1000000) (w : World) :
  Calls Tryz.prog 165 #[mom e a] w fun r w' => r = .returned (.int .u64 a) ∧ w' = w := by
 have hc : ∀ w, (convert 249 181 (.float .f64 (fl a))).run Tryz.prog w = .ok (.int .u64 a) w := fun w => run_convert_float_int w 249 181 .f64 .u64 _ _ (by rw [Tryz.underlying249]; rfl) Tryz.underlying181 (fl_toInt ha .u64 (Or.inr rfl))
 show Calls Tryz.prog 165 #[.complex .f64 (fl e) (fl a)] w _
 generalize fl e = re at *
 generalize fl a = ra at *
 go_enter Tryz.func165, Tryz.ntmps165
 go_wp2_with (simp only [hc])
 all_goals (go_ret; exact ⟨rfl, rfl⟩)
theorem wrap_u64 {a : Int} (h : 0 ≤ a ∧ a ≤ 1000000) : IntKind.u64.wrap a = a := by
 rw [IntKind.wrap_u64]
 omega
theorem clockOfC (t ev ep : Int) (v3 v4 v5 v6 : Value) (w : World) (he : 0 ≤ ep ∧ ep ≤ 999) (ht : 0 ≤ t ∧ t ≤ 9999) :
  Calls Tryz.prog 163 #[.agg #[.int .i64 t, .int .i64 ev, .int .i64 ep, v3, v4, v5, v6]] w fun e w' => e = .returned (mom ep t) ∧ Below w.heap.size w w' := by
 have nb : Below w.heap.size w (w.alloc (.cells #[.int .i64 t, .int .i64 ev, .int .i64 ep, v3, v4, v5, v6] 36)) := (Below.refl _ _).alloc (Nat.le_refl _) _
 have HX : Hid (Box 0 #[.int .i64 t, .int .i64 ev, .int .i64 ep, v3, v4, v5, v6] 36 (w.alloc (.cells #[.int .i64 t, .int .i64 ev, .int .i64 ep, v3, v4, v5, v6] 36)) w.heap.size) := newBox (Nat.zero_le _)
 have HB := yh nb
 have hw1 : IntKind.u64.wrap t = t := wrap_u64 (by omega)
 have HL := yh (momentOfC ep t (by omega) (by omega))
 clear nb he ht
 go_enter Tryz.func163, Tryz.ntmps163
 go_upto_region 1 with fail
 generalize w.alloc (.cells #[.int .i64 t, .int .i64 ev, .int .i64 ep, v3, v4, v5, v6] 36) = w1 at *
 have z0 := Box.at (uh HX) 0 _ rfl
 have z2 := Box.at (uh HX) 2 _ rfl
 simp only [ga, gb, gc] at z0 z2
 have zl := (uh HX).lt
 clear HX
 go_wp2_with fail
 refine (uh HL _).mono ?_
 rintro e w2 ⟨rfl, rfl⟩
 go_wp2_with fail
 go_ret
 exact ⟨rfl, uh HB⟩
theorem grantTermC (b o : Nat) (e a : Int) (v2 v3 : Value) (w : World) (he : 0 ≤ e ∧ e ≤ 1000000) (ha : 0 ≤ a ∧ a ≤ 1000000) (h2 : w.cell? ⟨b, o + 2, none⟩ = some v2) (h3 : w.cell? ⟨b, o + 3, none⟩ = some v3) (hf : ∀ q, w.frozen? ⟨b, q, none⟩ = false) :
  Calls Tryz.prog 167 #[.pointer (some ⟨b, o, none⟩), mom e a] w fun r w' => r = .returned (.tuple #[]) ∧ w' = (w.setCell ⟨b, o + 2, none⟩ (.int .i64 e)).setCell ⟨b, o + 3, none⟩ (.int .i64 a) := by
 have HE := yh (epochC e a he)
 have HT := yh (timeC e a ha)
 have hw1 : IntKind.i64.wrap a = a := by rw [IntKind.wrap_i64]; omega
 have hbl : b < w.heap.size := World.block_lt_of_cell? _ _ h2
 have f2 := hf (o + 2)
 have f3 := hf (o + 3)
 show Calls Tryz.prog 167 #[.pointer (some ⟨b, o, none⟩), .complex .f64 (fl e) (fl a)] w _
 have HE' : Hid (∀ w, Calls Tryz.prog 235 #[.complex .f64 (fl e) (fl a)] w fun r w' => r = .returned (.int .i64 e) ∧ w' = w) := HE
 have HT' : Hid (∀ w, Calls Tryz.prog 165 #[.complex .f64 (fl e) (fl a)] w fun r w' => r = .returned (.int .u64 a) ∧ w' = w) := HT
 clear HE HT he ha hf
 generalize fl e = re at *
 generalize fl a = ra at *
 go_enter Tryz.func167, Tryz.ntmps167
 go_wp2_with fail
 refine (uh HE' _).mono ?_
 rintro q w2 ⟨rfl, rfl⟩
 go_wp2_with fail
 refine (uh HT' _).mono ?_
 rintro q w3 ⟨rfl, rfl⟩
 go_wp2_with fail
 refine bodyPost_end (v := .tuple #[]) (by simp [results, Tryz.results167, go_sem]) rfl ?_
 exact ⟨rfl, rfl⟩
def wfN (n : DNode) : Prop := (Lit.int .i64 n.id).wf = true ∧ (Lit.int .i64 n.epoch).wf = true ∧ (Lit.int .i64 n.lease).wf = true ∧ (Lit.int .i64 n.sure).wf = true ∧ (Lit.int .i64 n.clean).wf = true
theorem wown_upd {W : World} {lo g k : Nat} {v3 v4 v5 v6 : Value} {y : DWorld} (h : WOwn W lo g [.int .i64 y.now, .int .i64 y.events, .int .i64 y.chain.epoch, v3, v4, v5, v6] y) (hk : k < y.nodes.length) :
  ∃ b off cap an dn, v4 = .slice (some ⟨b, off, none⟩) y.nodes.length cap ∧ lo ≤ b ∧ b < W.heap.size ∧ b ≠ g ∧ RowAt W W b (off + k * 7) 7 [.int .i64 y.nodes[k].id, .bool y.nodes[k].up, .int .i64 y.nodes[k].epoch, .int .i64 y.nodes[k].lease, .slice an y.nodes[k].writes.length dn, .int .i64 y.nodes[k].sure, .int .i64 y.nodes[k].clean] [] ∧ wfN y.nodes[k] ∧ (∀ V, Ext (fun q => q = b) W V → Lay.tChain.Reads V [.int .i64 y.chain.epoch, v3] y.chain) ∧
   ∀ (W2 : World) (n : DNode), n.writes = y.nodes[k].writes → wfN n → RowAt W W2 b (off + k * 7) 7 [.int .i64 n.id, .bool n.up, .int .i64 n.epoch, .int .i64 n.lease, .slice an y.nodes[k].writes.length dn, .int .i64 n.sure, .int .i64 n.clean] [] → WOwn W2 lo g [.int .i64 y.now, .int .i64 y.events, .int .i64 y.chain.epoch, v3, v4, v5, v6] (setN y k n) := by
 obtain ⟨bl, O, hgb, hbl⟩ := h
 obtain ⟨a3, d3, a4, d4, a5, d5, a6, d6, g2, g4, g5, g6, hq, rfl, O2, O4, O5, O6, w0, w1⟩ := own_World O
 simp only [List.cons.injEq, and_true, true_and] at hq
 obtain ⟨rfl, rfl, rfl, rfl⟩ := hq
 have hnd := O.2.1
 obtain ⟨b, off, cap, r, e4, rfl, hA⟩ := Lay.apart_of_own O4 (by omega)
 simp only [Value.slice.injEq, true_and] at e4
 obtain ⟨rfl, rfl⟩ := e4
 obtain ⟨row, blk, hR, hOn, hbk, hsub, hput⟩ := Lay.own_upd O4 hk
 obtain ⟨an, dn, gn, rfl, rfl, hOw, n0, n2, n3, n5, n6⟩ := own_Node hOn
 have hbin := hbl b (by simp)
 have hbg : b ≠ g := fun e => hgb (by rw [← e]; simp)
 rw [List.nodup_append, List.nodup_append] at hnd
 obtain ⟨-, ⟨-, -, x4⟩, x2⟩ := hnd
 refine ⟨b, off, d4, an, dn, rfl, hbin.1, hbin.2, hbg, ⟨hR.len, hR.cells, hR.others, hR.soft, hR.lt, Ext.refl _ _⟩, ⟨n0, n2, n3, n5, n6⟩, fun V e => (O2.ext e (fun c hc e2 => x2 c hc b (by simp) e2)).reads, fun W2 n hw hwf hR2 => ?_⟩
 have hE : Ext (fun q => q = b) W W2 := hR2.ext.mono (fun k _ q => by rcases q with q | q; exact q; cases q)
 obtain ⟨m0, m2, m3, m5, m6⟩ := hwf
 have hOw2 := hOw.ext hE (fun c hc e => hbk (e ▸ hc))
 rw [← hw] at hOw2
 have hN := mkOwn_Node (x := n) hOw2 m0 m2 m3 m5 m6 hOw.2.1
 have O4' := hput W2 _ n ⟨hR2.len, hR2.cells, hR2.others, hR2.soft, hR2.lt, hE.mono (fun q _ e => Or.inl e)⟩ (by rw [← hw]; exact hN)
 have P2 := O2.ext hE (fun c hc e => x2 c hc b (by simp) e)
 have P5 := O5.ext hE (fun c hc e => x4 b (by simp) c (by simp [hc]) e.symm)
 have P6 := O6.ext hE (fun c hc e => x4 b (by simp) c (by simp [hc]) e.symm)
 exact ⟨_, mkOwn_World (x := setN y k n) P2 O4' P5 P6 w0 w1 O.2.1, hgb, fun c hc => ⟨(hbl c hc).1, Nat.lt_of_lt_of_le (hbl c hc).2 hE.size⟩⟩
theorem beatStepC (L k p : Nat) (y : DWorld) (W : World) (hp : Box 0 #[.int .i64 ((k : Int) + 1)] 2 W p) (lp : p < L) (hk : k < y.nodes.length) (hn5 : y.nodes.length ≤ 5) (hi : ∀ z ∈ y.chain.ids, nodeIn y z = true) (he : 0 ≤ y.chain.epoch ∧ y.chain.epoch ≤ 999) (ht : 0 ≤ y.now ∧ y.now ≤ 9000) :
  StepC L 166 #[.pointer (some ⟨p, 0, none⟩)] y (beatC y ((k : Int) + 1)) true (setN y k (leaseN y.nodes[k] (y.now + 4))) W := by
 intro g lo v3 v4 v5 v6 hL hg hlo hO
 show Calls Tryz.prog 166 #[.pointer (some ⟨g, 0, none⟩), .pointer (some ⟨p, 0, none⟩)] W _
 have HO0 := yh hO
 obtain ⟨a3, d3, a4, d4, a5, d5, a6, d6, hq, -, -, -, -⟩ := open_World hO.reads
 simp only [List.cons.injEq, and_true, true_and] at hq
 obtain ⟨rfl, rfl, rfl, rfl⟩ := hq
 have HRD := yh hO.reads
 have HI := yh hi
 have HE : Hid (0 ≤ y.chain.epoch ∧ y.chain.epoch ≤ 999) := he
 have HT : Hid (0 ≤ y.now ∧ y.now ≤ 9000) := ht
 have hp0 : W.cell? ⟨p, 0, none⟩ = some (.int .i64 ((k : Int) + 1)) := Box.at hp 0 _ rfl
 have hpl := hp.lt
 have HP := yh hp
 have HG := yh hg
 have z0 := Box.at hg 0 _ rfl
 have z1 := Box.at hg 1 _ rfl
 have z2 := Box.at hg 2 _ rfl
 have z3 := Box.at hg 3 _ rfl
 have z4 := Box.at hg 4 _ rfl
 have z5 := Box.at hg 5 _ rfl
 have z6 := Box.at hg 6 _ rfl
 simp only [ga, gb, gc] at z0 z1 z2 z3 z4 z5 z6
 have hgl := hg.lt
 have hw1 : IntKind.i64.wrap (k : Int) = (k : Int) := by
  rw [IntKind.wrap_i64]
  omega
 have hki : (k : Int) < (y.nodes.length : Int) := by omega
 have hki0 : (0 : Int) ≤ (k : Int) := by omega
 clear hp hg hO hi he ht
 go_enter Tryz.func166, Tryz.ntmps166
 go_upto_region 1 with fail
 refine wp_region_noPanic ?_
 refine wp_region_held_drew (S := fun w' => Below W.heap.size W w') (by kernel_rfl) ((Below.refl _ _).drew) (fun zq => ?_)
 generalize W.drew = wD at zq ⊢
 refine tkH (i := 0) (oi := ⟨some 5, .move (.tmp 0), 76, "l13_master.go:84", #[], none⟩) (v := ?va0) rfl ?ha0 zq ?ra0
 case ha0 => intro _ _; go_simp; try with_reducible rfl
 refine tkH (i := 1) (oi := ⟨some 6, .nilCheck (.tmp 5), 0, "l13_master.go:84", #[⟨0, .data⟩], none⟩) (v := ?va1) rfl ?ha1 zq ?ra1
 case ha1 => intro _ _; go_simp; try with_reducible rfl
 refine tkH (i := 2) (oi := ⟨some 7, .load 36 (.tmp 6), 36, "l13_master.go:84", #[⟨1, .data⟩], none⟩) (v := ?va2) rfl ?ha2 zq ?ra2
 case ha2 =>
  intro wS hSw
  have q0 := (hSw.cell (p := ⟨g, 0, none⟩) hgl).trans z0
  have q1 := (hSw.cell (p := ⟨g, 1, none⟩) hgl).trans z1
  have q2 := (hSw.cell (p := ⟨g, 2, none⟩) hgl).trans z2
  have q3 := (hSw.cell (p := ⟨g, 3, none⟩) hgl).trans z3
  have q4 := (hSw.cell (p := ⟨g, 4, none⟩) hgl).trans z4
  have q5 := (hSw.cell (p := ⟨g, 5, none⟩) hgl).trans z5
  have q6 := (hSw.cell (p := ⟨g, 6, none⟩) hgl).trans z6
  clear hSw
  (try dsimp only at hSw)
  go_simp
  try with_reducible rfl
 refine tkH (i := 3) (oi := ⟨some 8, .load 2 (.tmp 1), 2, "l13_master.go:84", #[], none⟩) (v := ?va3) rfl ?ha3 zq ?ra3
 case ha3 =>
  intro wS hSw
  have q0 := (hSw.cell (p := ⟨p, 0, none⟩) hpl).trans hp0
  clear hSw
  (try dsimp only at hSw)
  go_simp
  try with_reducible rfl
 refine rdH (i := 4) (oi := ⟨some 9, .call { callee := .value (.func 140), args := #[.tmp 7, .tmp 8], argTypes := #[36, 2] }, 4, "l13_master.go:84", #[⟨2, .data⟩, ⟨3, .data⟩], none⟩) rfl (fun K hK => ?_)
 go_simp
 go_at_call 140
 refine (isMemberC _ y ((k : Int) + 1) _ ((uh HRD).later zq) (uh HI) hn5).mono ?_
 rintro e u ⟨rfl, hbu⟩
 rw [memberW_eq]
 generalize hm : memberB y ((k : Int) + 1) = mb at *
 try go_wp2_with fail
 refine hK.out _ _ (zq.trans (hbu.mono zq.size)) (fun zq => ?_)
 clear hK K
 try simp only [Act.put, pz, py, px]
 refine tkH (i := 5) (oi := ⟨some 10, .unOp .not 4 (.tmp 9), 4, "l13_master.go:84", #[⟨4, .data⟩], none⟩) (v := ?va5) rfl ?ha5 zq ?ra5
 case ha5 => intro _ _; go_simp; try with_reducible rfl
 refine wpAnyH_done (by kernel_rfl) ?_ _
 refine NoPanic.normal ?_
 clear z0 z1 z2 z3 z4 z5 z6 hp0
 have HM := yh hm
 have HZ := yh zq.size
 replace HG := yh ((uh HG).keep zq)
 replace HP := yh ((uh HP).keep zq)
 have HO := yh ((uh HO0).later zq)
 have HX0 : Hid (Ext (fun q => lo ≤ q) W u) := yh (ext_of_below zq _)
 clear zq hm hgl hpl HRD HO0 HI
 cases mb
 ·
  have HC : Hid (beatC y ((k : Int) + 1) = 10) := by show beatC y ((k : Int) + 1) = 10; rw [beatC, uh HM]; rfl
  go_wp2_with fail
  go_ret2
  exact ⟨false, by rw [uh HC]; rfl, fun h0 => by rw [uh HC] at h0; simp at h0, uh HX0⟩
 have HC : Hid (beatC y ((k : Int) + 1) = 0) := by show beatC y ((k : Int) + 1) = 0; rw [beatC, uh HM]; rfl
 obtain ⟨b, off, cap, an, dn, e4, hb1, hb2, hbg, hR0, hwf, -, hput⟩ := wown_upd (uh HO) hk
 simp only [Value.slice.injEq, true_and] at e4
 obtain ⟨rfl, rfl⟩ := e4
 have hep : y.nodes[k].epoch = y.chain.epoch := by
  have hm := uh HM
  rw [memberB, nodeOf_at hk] at hm
  simp only [Bool.and_eq_true, beq_iff_eq] at hm
  exact hm.2.1
 have HEP := yh hep
 have HPUT := yh hput
 have HWF := yh hwf
 have HR : Hid (RowAt u u b (off + k * 7) 7 [.int .i64 y.nodes[k].id, .bool y.nodes[k].up, .int .i64 y.nodes[k].epoch, .int .i64 y.nodes[k].lease, .slice an y.nodes[k].writes.length dn, .int .i64 y.nodes[k].sure, .int .i64 y.nodes[k].clean] []) := ⟨hR0.len, hR0.cells, hR0.others, hR0.soft, hR0.lt, Ext.refl _ _⟩
 have hgb : g ≠ b := fun e => hbg e.symm
 have hpb : p ≠ b := by omega
 have HBW : Hid (Below u.heap.size u u.drew) := (Below.refl _ _).drew
 have HLO : Hid (lo ≤ b) := hb1
 clear hep hput hwf hR0 hb1 hb2 hbg HO
 go_upto_region 3 with fail
 refine wp_region_noPanic ?_
 refine wp_region_held_drew (S := fun w' => Ext (fun q => q = b) u w') (by kernel_rfl) ((Ext.refl _ _).drew 1) (fun zq => ?_)
 generalize u.drew = wE at zq HBW ⊢
 refine tkH (i := 0) (oi := ⟨some 11, .move (.tmp 0), 76, "l13_master.go:87", #[], none⟩) (v := ?vc0) rfl ?hc0 zq ?rc0
 case hc0 => intro _ _; go_simp; try with_reducible rfl
 refine tkH (i := 1) (oi := ⟨some 12, .nilCheck (.tmp 11), 0, "l13_master.go:87", #[⟨0, .data⟩], none⟩) (v := ?vc1) rfl ?hc1 zq ?rc1
 case hc1 => intro _ _; go_simp; try with_reducible rfl
 refine tkH (i := 2) (oi := ⟨some 13, .fieldAddr 36 (.tmp 12) 3, 0, "l13_master.go:87", #[⟨1, .data⟩], none⟩) (v := ?vc2) rfl ?hc2 zq ?rc2
 case hc2 => intro _ _; go_simp; try with_reducible rfl
 refine tkH (i := 3) (oi := ⟨some 14, .load 32 (.tmp 13), 32, "l13_master.go:87", #[⟨2, .data⟩], none⟩) (v := ?vc3) rfl ?hc3 zq ?rc3
 case hc3 =>
  intro wS hSw
  have bS := (uh HG).ext hSw (fun e => hgb e)
  have q0 := Box.at bS 0 _ rfl
  have q1 := Box.at bS 1 _ rfl
  have q2 := Box.at bS 2 _ rfl
  have q3 := Box.at bS 3 _ rfl
  have q4 := Box.at bS 4 _ rfl
  have q5 := Box.at bS 5 _ rfl
  have q6 := Box.at bS 6 _ rfl
  simp only [ga, gb, gc] at q0 q1 q2 q3 q4 q5 q6
  clear bS hSw
  (try dsimp only at hSw)
  go_simp
  try with_reducible rfl
 refine tkH (i := 4) (oi := ⟨some 15, .load 2 (.tmp 1), 2, "l13_master.go:87", #[], none⟩) (v := ?vc4) rfl ?hc4 zq ?rc4
 case hc4 =>
  intro wS hSw
  have bS := (uh HP).ext hSw (fun e => hpb e)
  have q0 := Box.at bS 0 _ rfl
  simp only [List.getElem_toArray, List.getElem_cons_zero] at q0
  clear bS hSw
  (try dsimp only at hSw)
  go_simp
  try with_reducible rfl
 refine tkH (i := 5) (oi := ⟨some 16, .binOp .sub 2 (.tmp 15) (.const (.int .i64 1)) 2, 2, "l13_master.go:87", #[⟨4, .data⟩], none⟩) (v := ?vc5) rfl ?hc5 zq ?rc5
 case hc5 => intro _ _; go_simp; try with_reducible rfl
 refine tkH (i := 6) (oi := ⟨some 17, .indexAddr 32 (.tmp 14) (.tmp 16), 0, "l13_master.go:87", #[⟨3, .data⟩, ⟨5, .data⟩], none⟩) (v := ?vc6) rfl ?hc6 zq ?rc6
 case hc6 => intro _ _; go_simp; try with_reducible rfl
 refine tkH (i := 7) (oi := ⟨some 18, .move (.tmp 0), 76, "l13_master.go:87", #[], none⟩) (v := ?vc7) rfl ?hc7 zq ?rc7
 case hc7 => intro _ _; go_simp; try with_reducible rfl
 refine tkH (i := 8) (oi := ⟨some 19, .nilCheck (.tmp 18), 0, "l13_master.go:87", #[⟨7, .data⟩], none⟩) (v := ?vc8) rfl ?hc8 zq ?rc8
 case hc8 => intro _ _; go_simp; try with_reducible rfl
 refine tkH (i := 9) (oi := ⟨some 20, .load 36 (.tmp 19), 36, "l13_master.go:87", #[⟨8, .data⟩], none⟩) (v := ?vc9) rfl ?hc9 zq ?rc9
 case hc9 =>
  intro wS hSw
  have bS := (uh HG).ext hSw (fun e => hgb e)
  have q0 := Box.at bS 0 _ rfl
  have q1 := Box.at bS 1 _ rfl
  have q2 := Box.at bS 2 _ rfl
  have q3 := Box.at bS 3 _ rfl
  have q4 := Box.at bS 4 _ rfl
  have q5 := Box.at bS 5 _ rfl
  have q6 := Box.at bS 6 _ rfl
  simp only [ga, gb, gc] at q0 q1 q2 q3 q4 q5 q6
  clear bS hSw
  (try dsimp only at hSw)
  go_simp
  try with_reducible rfl
 refine rdH (i := 10) (oi := ⟨some 21, .call { callee := .value (.func 163), args := #[.tmp 20], argTypes := #[36] }, 183, "l13_master.go:87", #[⟨9, .data⟩], none⟩) rfl (fun K hK => ?_)
 go_simp
 go_at_call 163
 refine (clockOfC y.now y.events y.chain.epoch _ _ _ _ _ (uh HE) ⟨(uh HT).1, by have := (uh HT).2; omega⟩).mono ?_
 rintro e v ⟨rfl, hbv⟩
 dsimp only [mom]
 try go_wp2_with fail
 replace HBW := yh ((uh HBW).trans (hbv.mono (uh HBW).size))
 refine hK.out _ _ (zq.trans (ext_of_below hbv _)) (fun zq => ?_)
 clear hK K
 try simp only [Act.put, pz, py, px]
 refine rdH (i := 11) (oi := ⟨some 22, .call { callee := .value (.func 164), args := #[.const (.int .i64 0), .const (.int .u64 4)], argTypes := #[2, 181] }, 183, "l13_master.go:87", #[⟨10, .chain⟩], none⟩) rfl (fun K hK => ?_)
 go_simp
 go_at_call 164
 refine (momentOfC 0 4 (by omega) (by omega) _).mono ?_
 rintro e v2 ⟨rfl, rfl⟩
 dsimp only [mom]
 try go_wp2_with fail
 refine hK.out _ _ zq (fun zq => ?_)
 clear hK K
 try simp only [Act.put, pz, py, px]
 refine tkH (i := 12) (oi := ⟨some 23, .binOp .add 183 (.tmp 21) (.tmp 22) 183, 183, "l13_master.go:87", #[⟨10, .data⟩, ⟨11, .data⟩], none⟩) (v := ?vc12) rfl ?hc12 zq ?rc12
 case hc12 =>
  intro wS hSw
  have hop := run_moments (P := Tryz.prog) wS 183 (e := y.chain.epoch) (a := y.now) (f := 0) (b := 4) (r := y.chain.epoch) (s := y.now + 4) ⟨(uh HE).1, by have := (uh HE).2; omega⟩ ⟨(uh HT).1, by have := (uh HT).2; omega⟩ (by omega) (by omega) (by omega) rfl
  dsimp only [mom] at hop
  clear hSw
  (try dsimp only at hSw)
  go_simp
  try with_reducible rfl
 refine rdH (i := 13) (oi := ⟨some 24, .call { callee := .value (.func 167), args := #[.tmp 17, .tmp 23], argTypes := #[113, 183] }, 0, "l13_master.go:87", #[⟨6, .data⟩, ⟨12, .data⟩, ⟨11, .chain⟩], none⟩) rfl (fun K hK => ?_)
 go_simp
 go_at_call 167
 have hR3 := (uh HR).call (g := []) (ext_of_below (uh HBW) _) (fun _ h => h) (by simp)
 have HR3 := yh hR3
 refine (grantTermC b (off + k * 7) y.chain.epoch (y.now + 4) _ _ _ ⟨by have := (uh HE).1; omega, by have := (uh HE).2; omega⟩ ⟨by have := (uh HT).1; omega, by have := (uh HT).2; omega⟩ (hR3.cells 2 (by decide)) (hR3.cells 3 (by decide)) (fun q => hR3.soft q)).mono ?_
 clear hR3
 rintro e u9 ⟨rfl, hu9⟩
 have HU9 := yh hu9
 clear hu9
 try go_wp2_with fail
 refine hK.out _ _ (by rw [uh HU9]; exact (zq.setCell _ _ rfl).setCell _ _ rfl) (fun zq => ?_)
 clear hK K
 try simp only [Act.put, pz, py, px]
 refine wpAnyH_done (by kernel_rfl) ?_ _
 refine NoPanic.normal ?_
 have HG9 := yh ((uh HG).ext zq hgb)
 have HX9 := yh ((uh HX0).trans (zq.mono (fun q _ e => by have := uh HLO; rw [e]; exact this)) : Ext (fun q => lo ≤ q) W u9)
 have hR9 := ((uh HR3).set 2 (.int .i64 y.chain.epoch) (by decide)).set 3 (.int .i64 (y.now + 4)) (by decide)
 rw [← uh HU9] at hR9
 simp only [List.set_cons_succ, List.set_cons_zero] at hR9
 rw [← uh HEP] at hR9
 have hwl : (Lit.int .i64 (y.now + 4)).wf = true := wf_of_bd (by have := (uh HT).1; have := (uh HT).2; omega)
 have hO9 := uh HPUT u9 (leaseN y.nodes[k] (y.now + 4)) rfl ⟨(uh HWF).1, (uh HWF).2.1, hwl, (uh HWF).2.2.2.1, (uh HWF).2.2.2.2⟩ ⟨hR9.len, hR9.cells, hR9.others, hR9.soft, hR9.lt, hR9.ext⟩
 have HO9 := yh hO9
 clear hO9 hR9 HR3 HPUT HWF hwl zq HG HP HX0 HR HU9
 go_wp2_with fail
 go_ret2
 exact ⟨true, by rw [uh HC]; rfl, fun _ => ⟨rfl, _, _, _, _, uh HG9, uh HO9⟩, uh HX9⟩
theorem beatMake (id : Int) (w : World) :
  Calls Tryz.prog 87 #[.int .i64 id] w fun e w' => e = .returned (.func (.func 166) #[] #[.pointer (some ⟨w.heap.size, 0, none⟩)]) ∧ w' = (w.alloc (.cells #[.int .i64 id] 2)) := by
 have hmf : ∀ (fn : Fn) (first cap : Array Value) (w : World), (Instr.makeFunc fn first cap).run Tryz.prog w = .ok (.func fn first cap) w := fun _ _ _ _ => rfl
 go_enter Tryz.func87, Tryz.ntmps87
 go_wp2_with fail
 go_ret
 exact ⟨rfl, rfl⟩
theorem implBeatWorld (cs : List Value) (x : DWorld) (id : Int) (w : World) (h : Lay.tWorld.Reads w cs x) (hf : Fits x) :
  Calls Tryz.prog 29 #[.agg cs.toArray, .int .i64 id] w fun e w' => ∃ cs', e = .returned (.agg cs'.toArray) ∧ Lay.tWorldResult.OwnIn w' cs' (beatWR x id) w.heap.size w'.heap.size ∧ Below w.heap.size w w' := by
 obtain ⟨a3, d3, a4, d4, a5, d5, a6, d6, rfl, -, -, -, -⟩ := open_World h
 have nb1 : Below w.heap.size w (w.alloc (.cells #[.int .i64 x.now, .int .i64 x.events, .int .i64 x.chain.epoch, .slice a3 x.chain.ids.length d3, .slice a4 x.nodes.length d4, .slice a5 x.msgs.length d5, .slice a6 x.history.length d6] 36)) := (Below.refl _ _).alloc (Nat.le_refl _) _
 have nb : Below w.heap.size w ((w.alloc (.cells #[.int .i64 x.now, .int .i64 x.events, .int .i64 x.chain.epoch, .slice a3 x.chain.ids.length d3, .slice a4 x.nodes.length d4, .slice a5 x.msgs.length d5, .slice a6 x.history.length d6] 36)).alloc (.cells #[.int .i64 0, .bool false, .int .i64 0, .int .i64 0, .int .i64 0, .slice none 0 0, .slice none 0 0, .slice none 0 0, .slice none 0 0] 38)) := nb1.alloc (by simp) _
 have HX : Hid (Box 0 #[.int .i64 x.now, .int .i64 x.events, .int .i64 x.chain.epoch, .slice a3 x.chain.ids.length d3, .slice a4 x.nodes.length d4, .slice a5 x.msgs.length d5, .slice a6 x.history.length d6] 36 ((w.alloc (.cells #[.int .i64 x.now, .int .i64 x.events, .int .i64 x.chain.epoch, .slice a3 x.chain.ids.length d3, .slice a4 x.nodes.length d4, .slice a5 x.msgs.length d5, .slice a6 x.history.length d6] 36)).alloc (.cells #[.int .i64 0, .bool false, .int .i64 0, .int .i64 0, .int .i64 0, .slice none 0 0, .slice none 0 0, .slice none 0 0, .slice none 0 0] 38)) w.heap.size) := (newBox (Nat.zero_le _)).grow _
 have HY : Hid (Box 0 #[.int .i64 0, .bool false, .int .i64 0, .int .i64 0, .int .i64 0, .slice none 0 0, .slice none 0 0, .slice none 0 0, .slice none 0 0] 38 ((w.alloc (.cells #[.int .i64 x.now, .int .i64 x.events, .int .i64 x.chain.epoch, .slice a3 x.chain.ids.length d3, .slice a4 x.nodes.length d4, .slice a5 x.msgs.length d5, .slice a6 x.history.length d6] 36)).alloc (.cells #[.int .i64 0, .bool false, .int .i64 0, .int .i64 0, .int .i64 0, .slice none 0 0, .slice none 0 0, .slice none 0 0, .slice none 0 0] 38)) (w.heap.size + 1)) := newBoxAt (Nat.zero_le _) (by simp)
 have hz0 : ((w.alloc (.cells #[.int .i64 x.now, .int .i64 x.events, .int .i64 x.chain.epoch, .slice a3 x.chain.ids.length d3, .slice a4 x.nodes.length d4, .slice a5 x.msgs.length d5, .slice a6 x.history.length d6] 36)).alloc (.cells #[.int .i64 0, .bool false, .int .i64 0, .int .i64 0, .int .i64 0, .slice none 0 0, .slice none 0 0, .slice none 0 0, .slice none 0 0] 38)).heap.size = w.heap.size + 2 := by simp
 have HR := yh (h.later nb)
 have HB := yh nb
 have HFT := yh hf
 clear nb1 nb h hf
 go_enter Tryz.func29, Tryz.ntmps29
 go_upto_region 1 with fail
 generalize (w.alloc (.cells #[.int .i64 x.now, .int .i64 x.events, .int .i64 x.chain.epoch, .slice a3 x.chain.ids.length d3, .slice a4 x.nodes.length d4, .slice a5 x.msgs.length d5, .slice a6 x.history.length d6] 36)).alloc (.cells #[.int .i64 0, .bool false, .int .i64 0, .int .i64 0, .int .i64 0, .slice none 0 0, .slice none 0 0, .slice none 0 0, .slice none 0 0] 38) = W1 at *
 have LI : Hid (∀ V, Below W1.heap.size W1 V → Calls Tryz.prog 71 #[.agg #[.int .i64 x.now, .int .i64 x.events, .int .i64 x.chain.epoch, .slice a3 x.chain.ids.length d3, .slice a4 x.nodes.length d4, .slice a5 x.msgs.length d5, .slice a6 x.history.length d6], .int .i64 id] V fun e w' => e = .returned (.int .i64 (idFaultR x id)) ∧ Below V.heap.size V w') := fun V hV => idFaultC _ x id V ((uh HR).later hV)
 have LS : Hid (∀ V, Below W1.heap.size W1 V → Calls Tryz.prog 70 #[.agg #[.int .i64 x.now, .int .i64 x.events, .int .i64 x.chain.epoch, .slice a3 x.chain.ids.length d3, .slice a4 x.nodes.length d4, .slice a5 x.msgs.length d5, .slice a6 x.history.length d6], .int .i64 (idFaultR x id), .func (.func 166) #[] #[.pointer (some ⟨V.heap.size, 0, none⟩)]] (V.alloc (.cells #[.int .i64 id] 2)) fun e w' => ∃ cs', e = .returned (.agg cs'.toArray) ∧ Lay.tWorldResult.OwnIn w' cs' (beatWR x id) V.heap.size w'.heap.size ∧ Below V.heap.size V w') := by
  intro V hV
  have nv : Below V.heap.size V (V.alloc (.cells #[.int .i64 id] 2)) := (Below.refl _ _).alloc (Nat.le_refl _) _
  refine (steppedC 166 _ _ x (idFaultR x id) (beatC (nextW x) id) true (putNode (nextW x) (leaseN (nodeOf x id) (x.now + 4))) _ (fun a W => rfl) ((uh HR).later (hV.trans (nv.mono hV.size))) (fun h0 => worldFault_zero (idFault_zero h0).1) (uh HFT) (beatC_bd _ _) (idFault_bd x id) (fun h0 W hW => ?_)).mono ?_
  ·
   obtain ⟨h1, h2⟩ := idFault_zero h0
   have hok := worldFault_zero h1
   obtain ⟨k, hk, rfl⟩ := nodeIn_at h2
   have hn := hok.nodes k hk
   rw [nodeOf_at hk]
   rw [putNode_eq (k := k) (show (leaseN x.nodes[k] (x.now + 4)).id = (k : Int) + 1 from hn.2.1)]
   exact beatStepC _ k (V.heap.size) (nextW x) W (Box.keep (newBox (Nat.zero_le _)) hW) (by simp) hk hok.some.2 hok.ids ⟨by have := (chainFault_zero hok.chain).epoch; show 0 ≤ x.chain.epoch; omega, (chainFault_zero hok.chain).epoch.2⟩ hok.now
  rintro e w' ⟨cs', rfl, O, hb⟩
  rw [beatW_eq] at O
  exact ⟨cs', rfl, O.mono nv.size (Nat.le_refl _), nv.trans (hb.mono nv.size)⟩
 have hx := uh HX
 have hxl := hx.lt
 have HD : Hid (Below W1.heap.size W1 W1.drew) := (Below.refl _ _).drew
 replace HY : Hid (Box 0 #[.int .i64 0, .bool false, .int .i64 0, .int .i64 0, .int .i64 0, .slice none 0 0, .slice none 0 0, .slice none 0 0, .slice none 0 0] 38 W1.drew (w.heap.size + 1)) := (uh HY)
 refine wp_region_noPanic ?_
 refine wp_region_held_drew (S := fun w' => Ext (fun q => w.heap.size < q) W1 w') (by kernel_rfl) ((Ext.refl _ _).drew 1) (fun zq => ?_)
 generalize W1.drew = wD at zq HD HY ⊢
 refine tkH (i := 0) (oi := ⟨some 5, .load 36 (.tmp 2), 36, "l13_master.go:140", #[], none⟩) (v := ?vf0) rfl ?hf0 zq ?rf0
 case hf0 =>
  intro wS hSw
  have bS := hx.ext hSw (fun e => Nat.lt_irrefl _ e)
  have q0 := Box.at bS 0 _ rfl
  have q1 := Box.at bS 1 _ rfl
  have q2 := Box.at bS 2 _ rfl
  have q3 := Box.at bS 3 _ rfl
  have q4 := Box.at bS 4 _ rfl
  have q5 := Box.at bS 5 _ rfl
  have q6 := Box.at bS 6 _ rfl
  simp only [ga, gb, gc] at q0 q1 q2 q3 q4 q5 q6
  clear bS hSw
  (try dsimp only at hSw)
  go_simp
  try with_reducible rfl
 refine tkH (i := 1) (oi := ⟨some 6, .load 36 (.tmp 2), 36, "l13_master.go:140", #[], none⟩) (v := ?vf1) rfl ?hf1 zq ?rf1
 case hf1 =>
  intro wS hSw
  have bS := hx.ext hSw (fun e => Nat.lt_irrefl _ e)
  have q0 := Box.at bS 0 _ rfl
  have q1 := Box.at bS 1 _ rfl
  have q2 := Box.at bS 2 _ rfl
  have q3 := Box.at bS 3 _ rfl
  have q4 := Box.at bS 4 _ rfl
  have q5 := Box.at bS 5 _ rfl
  have q6 := Box.at bS 6 _ rfl
  simp only [ga, gb, gc] at q0 q1 q2 q3 q4 q5 q6
  clear bS hSw
  (try dsimp only at hSw)
  go_simp
  try with_reducible rfl
 refine tkH (i := 2) (oi := ⟨some 7, .move (.tmp 1), 2, "l13_master.go:140", #[], none⟩) (v := ?vf2) rfl ?hf2 zq ?rf2
 case hf2 => intro _ _; go_simp; try with_reducible rfl
 refine tkH (i := 4) (oi := ⟨some 9, .move (.tmp 1), 2, "l13_master.go:140", #[], none⟩) (v := ?vf4) rfl ?hf4 zq ?rf4
 case hf4 => intro _ _; go_simp; try with_reducible rfl
 refine rdH (i := 3) (oi := ⟨some 8, .call { callee := .value (.func 71), args := #[.tmp 6, .tmp 7], argTypes := #[36, 2] }, 2, "l13_master.go:140", #[⟨1, .data⟩, ⟨2, .data⟩], none⟩) rfl (fun K hK => ?_)
 go_simp
 go_at_call 71
 refine (uh LI _ (uh HD)).mono ?_
 rintro e u1 ⟨rfl, hb1⟩
 have HD1 := yh ((uh HD).trans (hb1.mono (uh HD).size))
 have HY1 := yh ((uh HY).keep hb1)
 try go_wp2_with fail
 have hH1 := zq.trans (ext_of_below hb1 (fun q => w.heap.size < q))
 refine hK.out _ _ (zq.trans (ext_of_below hb1 _)) (fun zq => ?_)
 clear hK K
 try simp only [Act.put, pz, py, px]
 refine rdH (i := 5) (oi := ⟨some 10, .call { callee := .value (.func 87), args := #[.tmp 9], argTypes := #[2] }, 96, "l13_master.go:140", #[⟨4, .data⟩, ⟨3, .chain⟩], none⟩) rfl (fun K hK => ?_)
 go_simp
 go_at_call 87
 refine (beatMake id _).mono ?_
 rintro e u2 ⟨rfl, rfl⟩
 try go_wp2_with fail
 refine hK.out _ _ (zq.trans (ext_of_below ((Below.refl _ _).alloc (Nat.le_refl _) _) _)) (fun zq => ?_)
 clear hK K
 try simp only [Act.put, pz, py, px]
 refine rdH (i := 6) (oi := ⟨some 11, .call { callee := .value (.func 70), args := #[.tmp 5, .tmp 8, .tmp 10], argTypes := #[36, 2, 96] }, 38, "l13_master.go:140", #[⟨0, .data⟩, ⟨3, .data⟩, ⟨5, .data⟩, ⟨5, .chain⟩], none⟩) rfl (fun K hK => ?_)
 go_simp
 go_at_call 70
 refine (uh LS u1 (uh HD1)).mono ?_
 rintro e u3 ⟨cs, rfl, O, hb3⟩
 obtain ⟨a5r, d5r, a6r, d6r, a7r, d7r, a8r, d8r, rfl, -⟩ := open_WorldResult O.reads
 have hy := (uh HY1).keep hb3
 try go_wp2_with fail
 refine hK.out _ _ (hH1.trans (ext_of_below hb3 _)) (fun zq => ?_)
 clear hK K
 try simp only [Act.put, pz, py, px]
 refine rdH (i := 7) (oi := ⟨none, .store 38 (.tmp 4) (.tmp 11), 0, "l13_master.go:140", #[⟨6, .data⟩, ⟨6, .chain⟩, ⟨0, .phase⟩, ⟨1, .phase⟩, ⟨2, .phase⟩, ⟨3, .phase⟩, ⟨4, .phase⟩, ⟨5, .phase⟩, ⟨6, .phase⟩], none⟩) rfl (fun K hK => ?_)
 generalize hyr : beatWR x id = yr at *
 have HYR := yh hyr
 clear hyr
 have r0 := Box.at hy 0 _ rfl
 have r1 := Box.at hy 1 _ rfl
 have r2 := Box.at hy 2 _ rfl
 have r3 := Box.at hy 3 _ rfl
 have r4 := Box.at hy 4 _ rfl
 have r5 := Box.at hy 5 _ rfl
 have r6 := Box.at hy 6 _ rfl
 have r7 := Box.at hy 7 _ rfl
 have r8 := Box.at hy 8 _ rfl
 simp only [ga, gb, gc] at r0 r1 r2 r3 r4 r5 r6 r7 r8
 have rf := Box.soft hy
 have rl := hy.lt
 go_simp
 refine hK.out _ _ (Ext.setCell (Ext.setCell (Ext.setCell (Ext.setCell (Ext.setCell (Ext.setCell (Ext.setCell (Ext.setCell (Ext.setCell zq ⟨w.heap.size + 1, 0, none⟩ (.int .i64 yr.code) (Nat.lt_succ_self _)) ⟨w.heap.size + 1, 1, none⟩ (.bool yr.moved) (Nat.lt_succ_self _)) ⟨w.heap.size + 1, 2, none⟩ (.int .i64 yr.world.now) (Nat.lt_succ_self _)) ⟨w.heap.size + 1, 3, none⟩ (.int .i64 yr.world.events) (Nat.lt_succ_self _)) ⟨w.heap.size + 1, 4, none⟩ (.int .i64 yr.world.chain.epoch) (Nat.lt_succ_self _)) ⟨w.heap.size + 1, 5, none⟩ (.slice a5r yr.world.chain.ids.length d5r) (Nat.lt_succ_self _)) ⟨w.heap.size + 1, 6, none⟩ (.slice a6r yr.world.nodes.length d6r) (Nat.lt_succ_self _)) ⟨w.heap.size + 1, 7, none⟩ (.slice a7r yr.world.msgs.length d7r) (Nat.lt_succ_self _)) ⟨w.heap.size + 1, 8, none⟩ (.slice a8r yr.world.history.length d8r) (Nat.lt_succ_self _)) (fun zq => ?_)
 clear hK K
 try simp only [Act.put, pz, py, px]
 refine wpAnyH_done (by kernel_rfl) ?_ _
 refine NoPanic.normal ?_
 have hy9 := box_set9W hy (.int .i64 yr.code) (.bool yr.moved) (.int .i64 yr.world.now) (.int .i64 yr.world.events) (.int .i64 yr.world.chain.epoch) (.slice a5r yr.world.chain.ids.length d5r) (.slice a6r yr.world.nodes.length d6r) (.slice a7r yr.world.msgs.length d7r) (.slice a8r yr.world.history.length d8r)
 have e2 : Ext (fun q => q = w.heap.size + 1) u3 (setAll u3 (w.heap.size + 1) 0 [.int .i64 yr.code, .bool yr.moved, .int .i64 yr.world.now, .int .i64 yr.world.events, .int .i64 yr.world.chain.epoch, .slice a5r yr.world.chain.ids.length d5r, .slice a6r yr.world.nodes.length d6r, .slice a7r yr.world.msgs.length d7r, .slice a8r yr.world.history.length d8r]) := ext_setAll _ (Ext.refl _ _) _ _ _ rfl
 have hs1 := hb1.size
 have hs2 := (uh HB).size
 have hs3 := (uh HD).size
 have HO := yh (O.ext e2 (fun q h1 h2 h3 => by omega))
 have HB9 := yh (below_setAll (((uh HB).trans ((uh HD1).mono (uh HB).size)).trans (hb3.mono (by omega))) (w.heap.size + 1) 0 [.int .i64 yr.code, .bool yr.moved, .int .i64 yr.world.now, .int .i64 yr.world.events, .int .i64 yr.world.chain.epoch, .slice a5r yr.world.chain.ids.length d5r, .slice a6r yr.world.nodes.length d6r, .slice a7r yr.world.msgs.length d7r, .slice a8r yr.world.history.length d8r] (by omega))
 have hsz : Hid ((setAll u3 (w.heap.size + 1) 0 [.int .i64 yr.code, .bool yr.moved, .int .i64 yr.world.now, .int .i64 yr.world.events, .int .i64 yr.world.chain.epoch, .slice a5r yr.world.chain.ids.length d5r, .slice a6r yr.world.nodes.length d6r, .slice a7r yr.world.msgs.length d7r, .slice a8r yr.world.history.length d8r]).heap.size = u3.heap.size) := size_setAll _ _ _ _
 clear r0 r1 r2 r3 r4 r5 r6 r7 r8 rf rl
 have r0 := Box.at hy9 0 _ rfl
 have r1 := Box.at hy9 1 _ rfl
 have r2 := Box.at hy9 2 _ rfl
 have r3 := Box.at hy9 3 _ rfl
 have r4 := Box.at hy9 4 _ rfl
 have r5 := Box.at hy9 5 _ rfl
 have r6 := Box.at hy9 6 _ rfl
 have r7 := Box.at hy9 7 _ rfl
 have r8 := Box.at hy9 8 _ rfl
 simp only [ga, gb, gc] at r0 r1 r2 r3 r4 r5 r6 r7 r8
 clear hy hy9 zq e2 O hb3 hb1
 go_wp2_with fail
 refine bodyPost_ret (v := .agg #[.int .i64 yr.code, .bool yr.moved, .int .i64 yr.world.now, .int .i64 yr.world.events, .int .i64 yr.world.chain.epoch, .slice a5r yr.world.chain.ids.length d5r, .slice a6r yr.world.nodes.length d6r, .slice a7r yr.world.msgs.length d7r, .slice a8r yr.world.history.length d8r]) (by simp only [setAll] at r0 r1 r2 r3 r4 r5 r6 r7 r8; simp [results, Tryz.results29, go_sem, r0, r1, r2, r3, r4, r5, r6, r7, r8]) rfl ?_
 rw [uh HYR]
 exact ⟨_, rfl, (uh HO).mono (by omega) (Nat.le_of_eq (uh hsz).symm), uh HB9⟩
theorem lawBeatWorld (cs : List Value) (x : DWorld) (id : Int) (w : World) (h : Lay.tWorld.Reads w cs x) :
  Calls Tryz.prog 6 #[.agg cs.toArray, .int .i64 id] w fun e w' => e = .returned (.bool true) ∧ Below w.heap.size w w' := by
 by_cases hn : Lay.tWorld.sz x ≤ 1048576
 ·
  refine lawx_BeatWorld cs x id (beatWR x id) w h hn (fun W a ha => specBeatWorld a x id W ha (fits_of_sz hn)) (fun W a ha => implBeatWorld a x id W ha (fits_of_sz hn)) (beatWR_few hn)
 exact lawover_BeatWorld cs x id w h (by omega)
theorem opens_Chain : Opens Lay.tChain 24 := by
 intro H enc W base spare held fuel cs x h
 obtain ⟨xs, n, _, _, hlen, hl, hfi⟩ := DataW.trod_struct Tryz.underlying24 h
 rw [show Tryz.prog.cellsOf 24 = 2 by kernel_rfl] at hlen
 match cs, hlen with
 | [c0, c1], _ =>
 match xs, hl with
 | [y0, y1], _ =>
 have z0 : Tryz.prog.cellsOf 2 = 1 := by kernel_rfl
 have z1 : Tryz.prog.cellsOf 22 = 1 := by kernel_rfl
 have f0 : DataW.trod enc Tryz.prog W base spare held n 2 (([c0, c1].drop 0).take (Tryz.prog.cellsOf 2)) = some y0 := hfi 0 _ rfl
 rw [z0] at f0
 obtain ⟨d0, r0⟩ := (opens_int Tryz.underlying2) enc W base spare held n _ _ f0
 have f1 : DataW.trod enc Tryz.prog W base spare held n 22 (([c0, c1].drop 1).take (Tryz.prog.cellsOf 22)) = some y1 := hfi 1 _ rfl
 rw [z1] at f1
 obtain ⟨d1, r1⟩ := (opens_sl Tryz.underlying22 (by kernel_rfl) (by decide) (opens_int Tryz.underlying2)) enc W base spare held n _ _ f1
 exact ⟨⟨d0, d1⟩, (reads_pair r0 r1)⟩
theorem opens_Write : Opens Lay.tWrite 150 := by
 intro H enc W base spare held fuel cs x h
 obtain ⟨xs, n, _, _, hlen, hl, hfi⟩ := DataW.trod_struct Tryz.underlying150 h
 rw [show Tryz.prog.cellsOf 150 = 5 by kernel_rfl] at hlen
 match cs, hlen with
 | [c0, c1, c2, c3, c4], _ =>
 match xs, hl with
 | [y0, y1, y2, y3, y4], _ =>
 have z0 : Tryz.prog.cellsOf 2 = 1 := by kernel_rfl
 have z1 : Tryz.prog.cellsOf 22 = 1 := by kernel_rfl
 have f0 : DataW.trod enc Tryz.prog W base spare held n 2 (([c0, c1, c2, c3, c4].drop 0).take (Tryz.prog.cellsOf 2)) = some y0 := hfi 0 _ rfl
 rw [z0] at f0
 obtain ⟨d0, r0⟩ := (opens_int Tryz.underlying2) enc W base spare held n _ _ f0
 have f1 : DataW.trod enc Tryz.prog W base spare held n 2 (([c0, c1, c2, c3, c4].drop 1).take (Tryz.prog.cellsOf 2)) = some y1 := hfi 1 _ rfl
 rw [z0] at f1
 obtain ⟨d1, r1⟩ := (opens_int Tryz.underlying2) enc W base spare held n _ _ f1
 have f2 : DataW.trod enc Tryz.prog W base spare held n 22 (([c0, c1, c2, c3, c4].drop 2).take (Tryz.prog.cellsOf 22)) = some y2 := hfi 2 _ rfl
 rw [z1] at f2
 obtain ⟨d2, r2⟩ := (opens_sl Tryz.underlying22 (by kernel_rfl) (by decide) (opens_int Tryz.underlying2)) enc W base spare held n _ _ f2
 have f3 : DataW.trod enc Tryz.prog W base spare held n 2 (([c0, c1, c2, c3, c4].drop 3).take (Tryz.prog.cellsOf 2)) = some y3 := hfi 3 _ rfl
 rw [z0] at f3
 obtain ⟨d3, r3⟩ := (opens_int Tryz.underlying2) enc W base spare held n _ _ f3
 have f4 : DataW.trod enc Tryz.prog W base spare held n 2 (([c0, c1, c2, c3, c4].drop 4).take (Tryz.prog.cellsOf 2)) = some y4 := hfi 4 _ rfl
 rw [z0] at f4
 obtain ⟨d4, r4⟩ := (opens_int Tryz.underlying2) enc W base spare held n _ _ f4
 exact ⟨⟨d0, d1, d2, d3, d4⟩, (reads_pair r0 (reads_pair r1 (reads_pair r2 (reads_pair r3 r4))))⟩
theorem opens_Node : Opens Lay.tNode 148 := by
 intro H enc W base spare held fuel cs x h
 obtain ⟨xs, n, _, _, hlen, hl, hfi⟩ := DataW.trod_struct Tryz.underlying148 h
 rw [show Tryz.prog.cellsOf 148 = 7 by kernel_rfl] at hlen
 match cs, hlen with
 | [c0, c1, c2, c3, c4, c5, c6], _ =>
 match xs, hl with
 | [y0, y1, y2, y3, y4, y5, y6], _ =>
 have z0 : Tryz.prog.cellsOf 2 = 1 := by kernel_rfl
 have z1 : Tryz.prog.cellsOf 4 = 1 := by kernel_rfl
 have z2 : Tryz.prog.cellsOf 146 = 1 := by kernel_rfl
 have f0 : DataW.trod enc Tryz.prog W base spare held n 2 (([c0, c1, c2, c3, c4, c5, c6].drop 0).take (Tryz.prog.cellsOf 2)) = some y0 := hfi 0 _ rfl
 rw [z0] at f0
 obtain ⟨d0, r0⟩ := (opens_int Tryz.underlying2) enc W base spare held n _ _ f0
 have f1 : DataW.trod enc Tryz.prog W base spare held n 4 (([c0, c1, c2, c3, c4, c5, c6].drop 1).take (Tryz.prog.cellsOf 4)) = some y1 := hfi 1 _ rfl
 rw [z1] at f1
 obtain ⟨d1, r1⟩ := (opens_bool Tryz.underlying4) enc W base spare held n _ _ f1
 have f2 : DataW.trod enc Tryz.prog W base spare held n 2 (([c0, c1, c2, c3, c4, c5, c6].drop 2).take (Tryz.prog.cellsOf 2)) = some y2 := hfi 2 _ rfl
 rw [z0] at f2
 obtain ⟨d2, r2⟩ := (opens_int Tryz.underlying2) enc W base spare held n _ _ f2
 have f3 : DataW.trod enc Tryz.prog W base spare held n 2 (([c0, c1, c2, c3, c4, c5, c6].drop 3).take (Tryz.prog.cellsOf 2)) = some y3 := hfi 3 _ rfl
 rw [z0] at f3
 obtain ⟨d3, r3⟩ := (opens_int Tryz.underlying2) enc W base spare held n _ _ f3
 have f4 : DataW.trod enc Tryz.prog W base spare held n 146 (([c0, c1, c2, c3, c4, c5, c6].drop 4).take (Tryz.prog.cellsOf 146)) = some y4 := hfi 4 _ rfl
 rw [z2] at f4
 obtain ⟨d4, r4⟩ := (opens_sl Tryz.underlying146 (by kernel_rfl) (by decide) opens_Write) enc W base spare held n _ _ f4
 have f5 : DataW.trod enc Tryz.prog W base spare held n 2 (([c0, c1, c2, c3, c4, c5, c6].drop 5).take (Tryz.prog.cellsOf 2)) = some y5 := hfi 5 _ rfl
 rw [z0] at f5
 obtain ⟨d5, r5⟩ := (opens_int Tryz.underlying2) enc W base spare held n _ _ f5
 have f6 : DataW.trod enc Tryz.prog W base spare held n 2 (([c0, c1, c2, c3, c4, c5, c6].drop 6).take (Tryz.prog.cellsOf 2)) = some y6 := hfi 6 _ rfl
 rw [z0] at f6
 obtain ⟨d6, r6⟩ := (opens_int Tryz.underlying2) enc W base spare held n _ _ f6
 exact ⟨⟨d0, d1, d2, d3, d4, d5, d6⟩, (reads_pair r0 (reads_pair r1 (reads_pair r2 (reads_pair r3 (reads_pair r4 (reads_pair r5 r6))))))⟩
theorem opens_Msg : Opens Lay.tMsg 152 := by
 intro H enc W base spare held fuel cs x h
 obtain ⟨xs, n, _, _, hlen, hl, hfi⟩ := DataW.trod_struct Tryz.underlying152 h
 rw [show Tryz.prog.cellsOf 152 = 10 by kernel_rfl] at hlen
 match cs, hlen with
 | [c0, c1, c2, c3, c4, c5, c6, c7, c8, c9], _ =>
 match xs, hl with
 | [y0, y1, y2, y3, y4, y5], _ =>
 have z0 : Tryz.prog.cellsOf 2 = 1 := by kernel_rfl
 have z1 : Tryz.prog.cellsOf 150 = 5 := by kernel_rfl
 have f0 : DataW.trod enc Tryz.prog W base spare held n 2 (([c0, c1, c2, c3, c4, c5, c6, c7, c8, c9].drop 0).take (Tryz.prog.cellsOf 2)) = some y0 := hfi 0 _ rfl
 rw [z0] at f0
 obtain ⟨d0, r0⟩ := (opens_int Tryz.underlying2) enc W base spare held n _ _ f0
 have f1 : DataW.trod enc Tryz.prog W base spare held n 2 (([c0, c1, c2, c3, c4, c5, c6, c7, c8, c9].drop 1).take (Tryz.prog.cellsOf 2)) = some y1 := hfi 1 _ rfl
 rw [z0] at f1
 obtain ⟨d1, r1⟩ := (opens_int Tryz.underlying2) enc W base spare held n _ _ f1
 have f2 : DataW.trod enc Tryz.prog W base spare held n 2 (([c0, c1, c2, c3, c4, c5, c6, c7, c8, c9].drop 2).take (Tryz.prog.cellsOf 2)) = some y2 := hfi 2 _ rfl
 rw [z0] at f2
 obtain ⟨d2, r2⟩ := (opens_int Tryz.underlying2) enc W base spare held n _ _ f2
 have f3 : DataW.trod enc Tryz.prog W base spare held n 2 (([c0, c1, c2, c3, c4, c5, c6, c7, c8, c9].drop 3).take (Tryz.prog.cellsOf 2)) = some y3 := hfi 3 _ rfl
 rw [z0] at f3
 obtain ⟨d3, r3⟩ := (opens_int Tryz.underlying2) enc W base spare held n _ _ f3
 have f4 : DataW.trod enc Tryz.prog W base spare held n 2 (([c0, c1, c2, c3, c4, c5, c6, c7, c8, c9].drop 4).take (Tryz.prog.cellsOf 2)) = some y4 := hfi 4 _ rfl
 rw [z0] at f4
 obtain ⟨d4, r4⟩ := (opens_int Tryz.underlying2) enc W base spare held n _ _ f4
 have f5 : DataW.trod enc Tryz.prog W base spare held n 150 (([c0, c1, c2, c3, c4, c5, c6, c7, c8, c9].drop 5).take (Tryz.prog.cellsOf 150)) = some y5 := hfi 5 _ rfl
 rw [z1] at f5
 obtain ⟨d5, r5⟩ := (opens_Write) enc W base spare held n _ _ f5
 exact ⟨⟨d0, d1, d2, d3, d4, d5⟩, (reads_pair r0 (reads_pair r1 (reads_pair r2 (reads_pair r3 (reads_pair r4 r5)))))⟩
theorem opens_Hit : Opens Lay.tHit 297 := by
 intro H enc W base spare held fuel cs x h
 obtain ⟨xs, n, _, _, hlen, hl, hfi⟩ := DataW.trod_struct Tryz.underlying297 h
 rw [show Tryz.prog.cellsOf 297 = 2 by kernel_rfl] at hlen
 match cs, hlen with
 | [c0, c1], _ =>
 match xs, hl with
 | [y0, y1], _ =>
 have z0 : Tryz.prog.cellsOf 2 = 1 := by kernel_rfl
 have f0 : DataW.trod enc Tryz.prog W base spare held n 2 (([c0, c1].drop 0).take (Tryz.prog.cellsOf 2)) = some y0 := hfi 0 _ rfl
 rw [z0] at f0
 obtain ⟨d0, r0⟩ := (opens_int Tryz.underlying2) enc W base spare held n _ _ f0
 have f1 : DataW.trod enc Tryz.prog W base spare held n 2 (([c0, c1].drop 1).take (Tryz.prog.cellsOf 2)) = some y1 := hfi 1 _ rfl
 rw [z0] at f1
 obtain ⟨d1, r1⟩ := (opens_int Tryz.underlying2) enc W base spare held n _ _ f1
 exact ⟨⟨d0, d1⟩, (reads_pair r0 r1)⟩
theorem opens_Entry : Opens Lay.tEntry 156 := by
 intro H enc W base spare held fuel cs x h
 obtain ⟨xs, n, _, _, hlen, hl, hfi⟩ := DataW.trod_struct Tryz.underlying156 h
 rw [show Tryz.prog.cellsOf 156 = 11 by kernel_rfl] at hlen
 match cs, hlen with
 | [c0, c1, c2, c3, c4, c5, c6, c7, c8, c9, c10], _ =>
 match xs, hl with
 | [y0, y1, y2, y3, y4, y5, y6, y7, y8, y9, y10], _ =>
 have z0 : Tryz.prog.cellsOf 2 = 1 := by kernel_rfl
 have z1 : Tryz.prog.cellsOf 22 = 1 := by kernel_rfl
 have z2 : Tryz.prog.cellsOf 154 = 1 := by kernel_rfl
 have f0 : DataW.trod enc Tryz.prog W base spare held n 2 (([c0, c1, c2, c3, c4, c5, c6, c7, c8, c9, c10].drop 0).take (Tryz.prog.cellsOf 2)) = some y0 := hfi 0 _ rfl
 rw [z0] at f0
 obtain ⟨d0, r0⟩ := (opens_int Tryz.underlying2) enc W base spare held n _ _ f0
 have f1 : DataW.trod enc Tryz.prog W base spare held n 2 (([c0, c1, c2, c3, c4, c5, c6, c7, c8, c9, c10].drop 1).take (Tryz.prog.cellsOf 2)) = some y1 := hfi 1 _ rfl
 rw [z0] at f1
 obtain ⟨d1, r1⟩ := (opens_int Tryz.underlying2) enc W base spare held n _ _ f1
 have f2 : DataW.trod enc Tryz.prog W base spare held n 2 (([c0, c1, c2, c3, c4, c5, c6, c7, c8, c9, c10].drop 2).take (Tryz.prog.cellsOf 2)) = some y2 := hfi 2 _ rfl
 rw [z0] at f2
 obtain ⟨d2, r2⟩ := (opens_int Tryz.underlying2) enc W base spare held n _ _ f2
 have f3 : DataW.trod enc Tryz.prog W base spare held n 2 (([c0, c1, c2, c3, c4, c5, c6, c7, c8, c9, c10].drop 3).take (Tryz.prog.cellsOf 2)) = some y3 := hfi 3 _ rfl
 rw [z0] at f3
 obtain ⟨d3, r3⟩ := (opens_int Tryz.underlying2) enc W base spare held n _ _ f3
 have f4 : DataW.trod enc Tryz.prog W base spare held n 22 (([c0, c1, c2, c3, c4, c5, c6, c7, c8, c9, c10].drop 4).take (Tryz.prog.cellsOf 22)) = some y4 := hfi 4 _ rfl
 rw [z1] at f4
 obtain ⟨d4, r4⟩ := (opens_sl Tryz.underlying22 (by kernel_rfl) (by decide) (opens_int Tryz.underlying2)) enc W base spare held n _ _ f4
 have f5 : DataW.trod enc Tryz.prog W base spare held n 2 (([c0, c1, c2, c3, c4, c5, c6, c7, c8, c9, c10].drop 5).take (Tryz.prog.cellsOf 2)) = some y5 := hfi 5 _ rfl
 rw [z0] at f5
 obtain ⟨d5, r5⟩ := (opens_int Tryz.underlying2) enc W base spare held n _ _ f5
 have f6 : DataW.trod enc Tryz.prog W base spare held n 2 (([c0, c1, c2, c3, c4, c5, c6, c7, c8, c9, c10].drop 6).take (Tryz.prog.cellsOf 2)) = some y6 := hfi 6 _ rfl
 rw [z0] at f6
 obtain ⟨d6, r6⟩ := (opens_int Tryz.underlying2) enc W base spare held n _ _ f6
 have f7 : DataW.trod enc Tryz.prog W base spare held n 2 (([c0, c1, c2, c3, c4, c5, c6, c7, c8, c9, c10].drop 7).take (Tryz.prog.cellsOf 2)) = some y7 := hfi 7 _ rfl
 rw [z0] at f7
 obtain ⟨d7, r7⟩ := (opens_int Tryz.underlying2) enc W base spare held n _ _ f7
 have f8 : DataW.trod enc Tryz.prog W base spare held n 2 (([c0, c1, c2, c3, c4, c5, c6, c7, c8, c9, c10].drop 8).take (Tryz.prog.cellsOf 2)) = some y8 := hfi 8 _ rfl
 rw [z0] at f8
 obtain ⟨d8, r8⟩ := (opens_int Tryz.underlying2) enc W base spare held n _ _ f8
 have f9 : DataW.trod enc Tryz.prog W base spare held n 22 (([c0, c1, c2, c3, c4, c5, c6, c7, c8, c9, c10].drop 9).take (Tryz.prog.cellsOf 22)) = some y9 := hfi 9 _ rfl
 rw [z1] at f9
 obtain ⟨d9, r9⟩ := (opens_sl Tryz.underlying22 (by kernel_rfl) (by decide) (opens_int Tryz.underlying2)) enc W base spare held n _ _ f9
 have f10 : DataW.trod enc Tryz.prog W base spare held n 154 (([c0, c1, c2, c3, c4, c5, c6, c7, c8, c9, c10].drop 10).take (Tryz.prog.cellsOf 154)) = some y10 := hfi 10 _ rfl
 rw [z2] at f10
 obtain ⟨d10, r10⟩ := (opens_sl Tryz.underlying154 (by kernel_rfl) (by decide) opens_Hit) enc W base spare held n _ _ f10
 exact ⟨⟨d0, d1, d2, d3, d4, d5, d6, d7, d8, d9, d10⟩, (reads_pair r0 (reads_pair r1 (reads_pair r2 (reads_pair r3 (reads_pair r4 (reads_pair r5 (reads_pair r6 (reads_pair r7 (reads_pair r8 (reads_pair r9 r10))))))))))⟩
theorem opens_World : Opens Lay.tWorld 29 := by
 intro H enc W base spare held fuel cs x h
 obtain ⟨xs, n, _, _, hlen, hl, hfi⟩ := DataW.trod_struct Tryz.underlying29 h
 rw [show Tryz.prog.cellsOf 29 = 7 by kernel_rfl] at hlen
 match cs, hlen with
 | [c0, c1, c2, c3, c4, c5, c6], _ =>
 match xs, hl with
 | [y0, y1, y2, y3, y4, y5], _ =>
 have z0 : Tryz.prog.cellsOf 2 = 1 := by kernel_rfl
 have z1 : Tryz.prog.cellsOf 24 = 2 := by kernel_rfl
 have z2 : Tryz.prog.cellsOf 25 = 1 := by kernel_rfl
 have z3 : Tryz.prog.cellsOf 26 = 1 := by kernel_rfl
 have z4 : Tryz.prog.cellsOf 27 = 1 := by kernel_rfl
 have f0 : DataW.trod enc Tryz.prog W base spare held n 2 (([c0, c1, c2, c3, c4, c5, c6].drop 0).take (Tryz.prog.cellsOf 2)) = some y0 := hfi 0 _ rfl
 rw [z0] at f0
 obtain ⟨d0, r0⟩ := (opens_int Tryz.underlying2) enc W base spare held n _ _ f0
 have f1 : DataW.trod enc Tryz.prog W base spare held n 2 (([c0, c1, c2, c3, c4, c5, c6].drop 1).take (Tryz.prog.cellsOf 2)) = some y1 := hfi 1 _ rfl
 rw [z0] at f1
 obtain ⟨d1, r1⟩ := (opens_int Tryz.underlying2) enc W base spare held n _ _ f1
 have f2 : DataW.trod enc Tryz.prog W base spare held n 24 (([c0, c1, c2, c3, c4, c5, c6].drop 2).take (Tryz.prog.cellsOf 24)) = some y2 := hfi 2 _ rfl
 rw [z1] at f2
 obtain ⟨d2, r2⟩ := (opens_Chain) enc W base spare held n _ _ f2
 have f3 : DataW.trod enc Tryz.prog W base spare held n 25 (([c0, c1, c2, c3, c4, c5, c6].drop 4).take (Tryz.prog.cellsOf 25)) = some y3 := hfi 3 _ rfl
 rw [z2] at f3
 obtain ⟨d3, r3⟩ := (opens_sl Tryz.underlying25 (by kernel_rfl) (by decide) opens_Node) enc W base spare held n _ _ f3
 have f4 : DataW.trod enc Tryz.prog W base spare held n 26 (([c0, c1, c2, c3, c4, c5, c6].drop 5).take (Tryz.prog.cellsOf 26)) = some y4 := hfi 4 _ rfl
 rw [z3] at f4
 obtain ⟨d4, r4⟩ := (opens_sl Tryz.underlying26 (by kernel_rfl) (by decide) opens_Msg) enc W base spare held n _ _ f4
 have f5 : DataW.trod enc Tryz.prog W base spare held n 27 (([c0, c1, c2, c3, c4, c5, c6].drop 6).take (Tryz.prog.cellsOf 27)) = some y5 := hfi 5 _ rfl
 rw [z4] at f5
 obtain ⟨d5, r5⟩ := (opens_sl Tryz.underlying27 (by kernel_rfl) (by decide) opens_Entry) enc W base spare held n _ _ f5
 exact ⟨⟨d0, d1, d2, d3, d4, d5⟩, (reads_pair r0 (reads_pair r1 (reads_pair r2 (reads_pair r3 (reads_pair r4 r5)))))⟩
end Go.Proofs.YtoanimpijfijgaaGreat
