/-
  Texts of this proof in one: SpecAckW, ImplSameM, ImplSent, ImplSend, ImplPost, BesideKit, ImplBeside, ImplTail, ImplKnown, WorldUpd, ImplAckS, ImplAckW, LawAckW, OpenChain.
  Their conditions stand in their theorems.
-/
import Derived.Test.YtoanimpijfijgaaGreatAk11
import Derived.Test.YtoanimpijfijgaaGreatAk07
import Derived.Deep.RegionHeld3
import Derived.Test.YtoanimpijfijgaaGreatAk00
import Derived.Test.YtoanimpijfijgaaGreatChecked
import Derived.Test.YtoanimpijfijgaaGreatAk05
import Derived.Test.YtoanimpijfijgaaGreatAk08
import Derived.Test.YtoanimpijfijgaaGreatAk01
import Derived.WalkKit
import Derived.Deep.CutRange
import Derived.Test.YtoanimpijfijgaaGreatAk09
import Derived.Test.YtoanimpijfijgaaGreatAk10
import Derived.Deep.QuietTactic
import Derived.BigQuiet
import Derived.Test.YtoanimpijfijgaaGreatAk04
import Derived.Test.YtoanimpijfijgaaGreatAk03
set_option maxRecDepth 100000
set_option maxHeartbeats 4000000
namespace Go.Proofs.YtoanimpijfijgaaGreat
open Go.RowKit
theorem specAckWorld (cs : List Value) (x : DWorld) (id : Int) (w : World) (h : Lay.tWorld.Reads w cs x) (hf : Fits x) :
  Calls Tryz.prog 24 #[.agg cs.toArray, .int .i64 id] w fun e w' => ∃ cs', e = .returned (.agg cs'.toArray) ∧ Lay.tWorldResult.Reads w' cs' (ackWR x id) ∧ Below w.heap.size w w' := by
 have HP : Hid (ackWR x id = if askedW x id ≠ 0 then badWorld (askedW x id) else if memberB x id = false then badWorld 10 else if nextC x.chain.ids id (-1) = 0 then badWorld 8 else sentW x (ackM x id)) := rfl
 obtain ⟨a3, d3, a4, d4, a5, d5, a6, d6, rfl, -, -, -, -⟩ := open_World h
 have HBN : Hid (∀ b off, a4 = some ⟨b, off, none⟩ → 0 < x.nodes.length → b < w.heap.size) := fun b off e hp => by
  obtain ⟨_, _, _, _, _, _, _, _, hq, -, RN, -, -⟩ := open_World h
  simp only [List.cons.injEq, Value.slice.injEq, and_true, true_and] at hq
  obtain ⟨-, ⟨rfl, rfl⟩, -, -, -⟩ := hq
  obtain ⟨b', off', e', hb⟩ := Lay.sl_addr RN hp
  rw [e] at e'
  simp only [Option.some.injEq, Addr.mk.injEq, and_true] at e'
  obtain ⟨rfl, -⟩ := e'
  exact hb
 have nb : Below w.heap.size w ((w.alloc (.cells #[.int .i64 x.now, .int .i64 x.events, .int .i64 x.chain.epoch, .slice a3 x.chain.ids.length d3, .slice a4 x.nodes.length d4, .slice a5 x.msgs.length d5, .slice a6 x.history.length d6] 36)).alloc (.cells #[.int .i64 0, .bool false, .int .i64 0, .int .i64 0, .int .i64 0, .slice none 0 0, .slice none 0 0, .slice none 0 0, .slice none 0 0] 38)) := ((Below.refl _ _).alloc (Nat.le_refl _) _).alloc (by simp) _
 have HX : Hid (Box 0 #[.int .i64 x.now, .int .i64 x.events, .int .i64 x.chain.epoch, .slice a3 x.chain.ids.length d3, .slice a4 x.nodes.length d4, .slice a5 x.msgs.length d5, .slice a6 x.history.length d6] 36 ((w.alloc (.cells #[.int .i64 x.now, .int .i64 x.events, .int .i64 x.chain.epoch, .slice a3 x.chain.ids.length d3, .slice a4 x.nodes.length d4, .slice a5 x.msgs.length d5, .slice a6 x.history.length d6] 36)).alloc (.cells #[.int .i64 0, .bool false, .int .i64 0, .int .i64 0, .int .i64 0, .slice none 0 0, .slice none 0 0, .slice none 0 0, .slice none 0 0] 38)) w.heap.size) := ((newBox (Nat.zero_le _)).grow _)
 have HY : Hid (Box 0 #[.int .i64 0, .bool false, .int .i64 0, .int .i64 0, .int .i64 0, .slice none 0 0, .slice none 0 0, .slice none 0 0, .slice none 0 0] 38 ((w.alloc (.cells #[.int .i64 x.now, .int .i64 x.events, .int .i64 x.chain.epoch, .slice a3 x.chain.ids.length d3, .slice a4 x.nodes.length d4, .slice a5 x.msgs.length d5, .slice a6 x.history.length d6] 36)).alloc (.cells #[.int .i64 0, .bool false, .int .i64 0, .int .i64 0, .int .i64 0, .slice none 0 0, .slice none 0 0, .slice none 0 0, .slice none 0 0] 38)) (w.heap.size + 1)) := newBoxAt (Nat.zero_le _) (by simp)
 have hz0 : ((w.alloc (.cells #[.int .i64 x.now, .int .i64 x.events, .int .i64 x.chain.epoch, .slice a3 x.chain.ids.length d3, .slice a4 x.nodes.length d4, .slice a5 x.msgs.length d5, .slice a6 x.history.length d6] 36)).alloc (.cells #[.int .i64 0, .bool false, .int .i64 0, .int .i64 0, .int .i64 0, .slice none 0 0, .slice none 0 0, .slice none 0 0, .slice none 0 0] 38)).heap.size = w.heap.size + 2 := by simp
 have HR := yh (h.later nb)
 have HB := yh nb
 clear nb
 have HW := yh h
 clear h
 generalize ackWR x id = R at *
 go_enter Tryz.func24, Tryz.ntmps24
 go_upto_region 1 with fail
 generalize ((w.alloc (.cells #[.int .i64 x.now, .int .i64 x.events, .int .i64 x.chain.epoch, .slice a3 x.chain.ids.length d3, .slice a4 x.nodes.length d4, .slice a5 x.msgs.length d5, .slice a6 x.history.length d6] 36)).alloc (.cells #[.int .i64 0, .bool false, .int .i64 0, .int .i64 0, .int .i64 0, .slice none 0 0, .slice none 0 0, .slice none 0 0, .slice none 0 0] 38)) = W0 at *
 go_wp2_with fail
 refine (l12AskedC a3 d3 a4 d4 a5 d5 a6 d6 x id w.heap.size W0 (uh HX) (uh HR)).mono ?_
 rintro e wa ⟨rfl, hb⟩
 replace HX := yh ((uh HX).keep hb)
 replace HR := yh ((uh HR).later hb)
 replace HY := yh ((uh HY).keep hb)
 replace HB := yh ((uh HB).trans (hb.mono (uh HB).size))
 have hza := hb.size
 clear hb
 by_cases d1 : askedW x id ≠ 0
 ·
  have hd : (askedW x id != 0) = true := by simpa using d1
  replace HP := yh ((uh HP).trans (if_pos d1))
  have HC := yh (asked_bd x id)
  clear d1 hf 
  generalize askedW x id = c at *
  go_wp2_with fail
  refine (l12BadCZ (c) _).mono ?_
  rintro e wB ⟨rfl, hbB⟩
  have hyB := (uh HY).keep hbB
  have z0 := Box.at hyB 0 _ rfl
  have z1 := Box.at hyB 1 _ rfl
  have z2 := Box.at hyB 2 _ rfl
  have z3 := Box.at hyB 3 _ rfl
  have z4 := Box.at hyB 4 _ rfl
  have z5 := Box.at hyB 5 _ rfl
  have z6 := Box.at hyB 6 _ rfl
  have z7 := Box.at hyB 7 _ rfl
  have z8 := Box.at hyB 8 _ rfl
  simp only [ga, gb, gc] at z0 z1 z2 z3 z4 z5 z6 z7 z8
  have zf := Box.soft hyB
  have zl := hyB.lt
  have HB9 := yh (below_setAll ((uh HB).trans (hbB.mono (uh HB).size)) (w.heap.size + 1) 0 [.int .i64 c, .bool false, .int .i64 0, .int .i64 0, .int .i64 0, .slice none 0 0, .slice none 0 0, .slice none 0 0, .slice none 0 0] (by omega))
  clear hyB hbB HY HB HW
  go_wp2_with fail
  refine bodyPost_ret (v := .agg #[.int .i64 c, .bool false, .int .i64 0, .int .i64 0, .int .i64 0, .slice none 0 0, .slice none 0 0, .slice none 0 0, .slice none 0 0]) (by simp [results, Tryz.results24, go_sem, z0, z1, z2, z3, z4, z5, z6, z7, z8]) rfl ?_
  rw [uh HP]
  exact ⟨[.int .i64 c, .bool false, .int .i64 0, .int .i64 0, .int .i64 0, .slice none 0 0, .slice none 0 0, .slice none 0 0, .slice none 0 0], rfl, (own_badW (uh HC) (lo := 0) (hi := 0) (Nat.le_refl 0)).lies.reads, uh HB9⟩
 replace HP := yh ((uh HP).trans (if_neg d1))
 have hd0 : askedW x id = 0 := by simpa using d1
 obtain ⟨hwf, hni⟩ := asked_zero hd0
 have hok := worldFault_zero hwf
 obtain ⟨k, hk, rfl⟩ := nodeIn_at hni
 rw [hd0]
 clear d1 hd0 hwf hni
 have HN := yh (hok.nodes k hk)
 obtain ⟨_, _, _, _, _, _, _, _, hq, RC, RN, -, -⟩ := open_World (uh HR)
 simp only [List.cons.injEq, Value.slice.injEq, and_true, true_and] at hq
 obtain ⟨⟨rfl, rfl⟩, ⟨rfl, rfl⟩, -, -, -⟩ := hq
 obtain ⟨b0, off0, rfl, -⟩ := Lay.sl_addr RN (by omega)
 have hbw := uh HBN b0 off0 rfl (by omega)
 have HLM := yh (l12MemberC a3 d3 b0 off0 d4 a5 d5 a6 d6 x k w.heap.size wa (uh HX) (uh HR) hk hok.some.2)
 have hw1 : IntKind.i64.wrap (k : Int) = (k : Int) := by
  have := hok.some
  rw [IntKind.wrap_i64]
  omega
 have hki : (k : Int) < (x.nodes.length : Int) := by omega
 have hki0 : (0 : Int) ≤ (k : Int) := by omega
 have HOK := yh hok
 clear RC RN hok
 go_wp2_with fail
 refine (uh HLM).mono ?_
 rintro e wb ⟨rfl, hbm⟩
 replace HX := yh ((uh HX).keep hbm)
 replace HR := yh ((uh HR).later hbm)
 replace HY := yh ((uh HY).keep hbm)
 replace HB := yh ((uh HB).trans (hbm.mono (uh HB).size))
 have hzb := hbm.size
 clear hbm HLM
 cases hm : memberB x ((k : Int) + 1)
 ·
  replace HP := yh ((uh HP).trans (if_pos hm))
  have HC : Hid (-1000000000 ≤ (10 : Int) ∧ (10 : Int) ≤ 1000000000) := by show (-1000000000 : Int) ≤ 10 ∧ (10 : Int) ≤ 1000000000; omega
  clear hm
  go_wp2_with fail
  refine (l12BadCZ (10) _).mono ?_
  rintro e wB ⟨rfl, hbB⟩
  have hyB := (uh HY).keep hbB
  have z0 := Box.at hyB 0 _ rfl
  have z1 := Box.at hyB 1 _ rfl
  have z2 := Box.at hyB 2 _ rfl
  have z3 := Box.at hyB 3 _ rfl
  have z4 := Box.at hyB 4 _ rfl
  have z5 := Box.at hyB 5 _ rfl
  have z6 := Box.at hyB 6 _ rfl
  have z7 := Box.at hyB 7 _ rfl
  have z8 := Box.at hyB 8 _ rfl
  simp only [ga, gb, gc] at z0 z1 z2 z3 z4 z5 z6 z7 z8
  have zf := Box.soft hyB
  have zl := hyB.lt
  have HB9 := yh (below_setAll ((uh HB).trans (hbB.mono (uh HB).size)) (w.heap.size + 1) 0 [.int .i64 10, .bool false, .int .i64 0, .int .i64 0, .int .i64 0, .slice none 0 0, .slice none 0 0, .slice none 0 0, .slice none 0 0] (by omega))
  clear hyB hbB HY HB
  go_wp2_with fail
  refine bodyPost_ret (v := .agg #[.int .i64 10, .bool false, .int .i64 0, .int .i64 0, .int .i64 0, .slice none 0 0, .slice none 0 0, .slice none 0 0, .slice none 0 0]) (by simp [results, Tryz.results24, go_sem, z0, z1, z2, z3, z4, z5, z6, z7, z8]) rfl ?_
  rw [uh HP]
  exact ⟨[.int .i64 10, .bool false, .int .i64 0, .int .i64 0, .int .i64 0, .slice none 0 0, .slice none 0 0, .slice none 0 0, .slice none 0 0], rfl, (own_badW (uh HC) (lo := 0) (hi := 0) (Nat.le_refl 0)).lies.reads, uh HB9⟩
 replace HP := yh ((uh HP).trans (if_neg (by rw [hm]; decide)))
 have HMB := yh hm
 clear hm
 obtain ⟨_, _, _, _, _, _, _, _, hq, RC, -, -, -⟩ := open_World (uh HR)
 simp only [List.cons.injEq, Value.slice.injEq, and_true, true_and] at hq
 obtain ⟨⟨rfl, rfl⟩, -, -, -, -⟩ := hq
 obtain ⟨_, _, hq, RI⟩ := open_Chain RC
 simp only [List.cons.injEq, Value.slice.injEq, and_true, true_and] at hq
 obtain ⟨rfl, rfl⟩ := hq
 have z2 := Box.at (uh HX) 2 _ rfl
 have z3 := Box.at (uh HX) 3 _ rfl
 simp only [ga, gb, gc] at z2 z3
 have hlen := (chainFault_zero (uh HOK).chain).len
 have HLN := yh (l10NextO w.heap.size 2 a3 d3 x.chain ((k : Int) + 1) (-1) wb ⟨z2, z3⟩ RI (by omega) (by omega))
 have zl := (uh HX).lt
 clear RC RI hlen
 go_wp2_with fail
 refine (uh HLN).mono ?_
 rintro e wn ⟨rfl, hwn⟩
 subst wn
 clear HLN z2 z3 zl
 by_cases hx : (nextC x.chain.ids ((k : Int) + 1) (-1)) = 0
 ·
  replace HP := yh ((uh HP).trans (if_pos hx))
  have hdx : ((nextC x.chain.ids ((k : Int) + 1) (-1)) == 0) = true := by simpa using hx
  have HC : Hid (-1000000000 ≤ (8 : Int) ∧ (8 : Int) ≤ 1000000000) := by show (-1000000000 : Int) ≤ 8 ∧ (8 : Int) ≤ 1000000000; omega
  clear hx
  go_wp2_with fail
  refine (l12BadCZ (8) _).mono ?_
  rintro e wB ⟨rfl, hbB⟩
  have hyB := (uh HY).keep hbB
  have z0 := Box.at hyB 0 _ rfl
  have z1 := Box.at hyB 1 _ rfl
  have z2 := Box.at hyB 2 _ rfl
  have z3 := Box.at hyB 3 _ rfl
  have z4 := Box.at hyB 4 _ rfl
  have z5 := Box.at hyB 5 _ rfl
  have z6 := Box.at hyB 6 _ rfl
  have z7 := Box.at hyB 7 _ rfl
  have z8 := Box.at hyB 8 _ rfl
  simp only [ga, gb, gc] at z0 z1 z2 z3 z4 z5 z6 z7 z8
  have zf := Box.soft hyB
  have zl := hyB.lt
  have HB9 := yh (below_setAll ((uh HB).trans (hbB.mono (uh HB).size)) (w.heap.size + 1) 0 [.int .i64 8, .bool false, .int .i64 0, .int .i64 0, .int .i64 0, .slice none 0 0, .slice none 0 0, .slice none 0 0, .slice none 0 0] (by omega))
  clear hyB hbB HY HB
  go_wp2_with fail
  refine bodyPost_ret (v := .agg #[.int .i64 8, .bool false, .int .i64 0, .int .i64 0, .int .i64 0, .slice none 0 0, .slice none 0 0, .slice none 0 0, .slice none 0 0]) (by simp [results, Tryz.results24, go_sem, z0, z1, z2, z3, z4, z5, z6, z7, z8]) rfl ?_
  rw [uh HP]
  exact ⟨[.int .i64 8, .bool false, .int .i64 0, .int .i64 0, .int .i64 0, .slice none 0 0, .slice none 0 0, .slice none 0 0, .slice none 0 0], rfl, (own_badW (uh HC) (lo := 0) (hi := 0) (Nat.le_refl 0)).lies.reads, uh HB9⟩
 replace HP := yh ((uh HP).trans (if_neg hx))
 have hdx : ((nextC x.chain.ids ((k : Int) + 1) (-1)) == 0) = false := by simpa using hx
 have HNX := yh hx
 clear hx
 have hno := nodeFault_zero (uh HN).1
 obtain ⟨_, _, _, _, _, _, _, _, hq, -, RN0, -, -⟩ := open_World (uh HW)
 simp only [List.cons.injEq, Value.slice.injEq, and_true, true_and] at hq
 obtain ⟨-, ⟨rfl, rfl⟩, -, -, -⟩ := hq
 obtain ⟨row, hcl, hr⟩ := Lay.row_at RN0 hk
 obtain ⟨an, dn, rfl, RW0⟩ := open_Node hr
 have s5 : wb.cell? ⟨b0, off0 + k * 7 + 5, none⟩ = some (.int .i64 (x.nodes[k]).sure) := (cell_of_heap ((uh HB).block b0 hbw) _).trans (hcl 5 (by decide))
 have s6 : wb.cell? ⟨b0, off0 + k * 7 + 6, none⟩ = some (.int .i64 (x.nodes[k]).clean) := (cell_of_heap ((uh HB).block b0 hbw) _).trans (hcl 6 (by decide))
 have z0 := Box.at (uh HX) 0 _ rfl
 have z1 := Box.at (uh HX) 1 _ rfl
 have z2 := Box.at (uh HX) 2 _ rfl
 have z3 := Box.at (uh HX) 3 _ rfl
 have z4 := Box.at (uh HX) 4 _ rfl
 have z5 := Box.at (uh HX) 5 _ rfl
 have z6 := Box.at (uh HX) 6 _ rfl
 simp only [ga, gb, gc] at z0 z1 z2 z3 z4 z5 z6
 have zl := (uh HX).lt
 obtain ⟨_, _, _, _, _, _, _, _, hq, RC, -, -, -⟩ := open_World (uh HR)
 simp only [List.cons.injEq, Value.slice.injEq, and_true, true_and] at hq
 obtain ⟨⟨rfl, rfl⟩, -, -, -, -⟩ := hq
 obtain ⟨_, _, hq, RI⟩ := open_Chain RC
 simp only [List.cons.injEq, Value.slice.injEq, and_true, true_and] at hq
 obtain ⟨rfl, rfl⟩ := hq
 have hlen := (chainFault_zero (uh HOK).chain).len
 have HLN := yh (l10NextO w.heap.size 2 a3 d3 x.chain ((k : Int) + 1) 1 wb ⟨z2, z3⟩ RI (by omega) (by omega))
 have hs1 := hno.sure
 have hs2 := hno.len
 have hs3 := hno.clean
 have hep := (chainFault_zero (uh HOK).chain).epoch
 have hne := (next_bdC (uh HOK).chain (Or.inr rfl) (uh HNX)).1
 have hn5 := (uh HOK).some.2
 clear RC RI hlen RN0 hcl hr RW0 hno HN HW
 go_wp2_with fail
 refine (uh HLN).mono ?_
 rintro e wn ⟨rfl, hwn⟩
 subst wn
 clear HLN
 by_cases hx2 : nextC x.chain.ids ((k : Int) + 1) 1 = 0
 ·
  have hdy : (nextC x.chain.ids ((k : Int) + 1) 1 == 0) = true := by simpa using hx2
  have HFW : Hid (ackM x ((k : Int) + 1) = (⟨2, x.chain.epoch, ((k : Int) + 1), (nextC x.chain.ids ((k : Int) + 1) (-1)), x.nodes[k].sure, ⟨0, 0, [], 0, 0⟩⟩ : DMsg)) := by
   show ackM x _ = _
   rw [ackM, nodeOf_at hk, if_pos hx2]
  have HMR : Hid (Lay.tMsg.Reads wb [.int .i64 2, .int .i64 x.chain.epoch, .int .i64 ((k : Int) + 1), .int .i64 (nextC x.chain.ids ((k : Int) + 1) (-1)), .int .i64 x.nodes[k].sure, .int .i64 0, .int .i64 0, .slice none 0 0, .int .i64 0, .int .i64 0] (⟨2, x.chain.epoch, ((k : Int) + 1), (nextC x.chain.ids ((k : Int) + 1) (-1)), x.nodes[k].sure, ⟨0, 0, [], 0, 0⟩⟩ : DMsg)) :=
   ⟨[], lies_Msg.2 ⟨none, 0, [], rfl, rfl, (show (Lit.int .i64 2).wf = true by decide), wf_of_bd (show -1000000000 ≤ x.chain.epoch ∧ x.chain.epoch ≤ 1000000000 by omega), wf_of_bd (show -1000000000 ≤ (k : Int) + 1 ∧ (k : Int) + 1 ≤ 1000000000 by omega), wf_of_bd (show -1000000000 ≤ (nextC x.chain.ids ((k : Int) + 1) (-1)) ∧ (nextC x.chain.ids ((k : Int) + 1) (-1)) ≤ 1000000000 by omega), wf_of_bd (show -1000000000 ≤ x.nodes[k].sure ∧ x.nodes[k].sure ≤ 1000000000 by omega), (show (Lit.int .i64 0).wf = true by decide), (show (Lit.int .i64 0).wf = true by decide), ⟨none, 0, rfl, ⟨by simp, by simp⟩, Or.inl ⟨rfl, rfl⟩⟩, (show (Lit.int .i64 0).wf = true by decide), (show (Lit.int .i64 0).wf = true by decide)⟩⟩
  have HLS := yh (l12SendC _ [.int .i64 2, .int .i64 x.chain.epoch, .int .i64 ((k : Int) + 1), .int .i64 (nextC x.chain.ids ((k : Int) + 1) (-1)), .int .i64 x.nodes[k].sure, .int .i64 0, .int .i64 0, .slice none 0 0, .int .i64 0, .int .i64 0] x (⟨2, x.chain.epoch, ((k : Int) + 1), (nextC x.chain.ids ((k : Int) + 1) (-1)), x.nodes[k].sure, ⟨0, 0, [], 0, 0⟩⟩ : DMsg) wb (uh HR) (uh HMR) (uh HOK) hf (by simp))
  clear HMR hx2 hs1 hs2 hs3 hep hne hn5
  go_wp2_with fail
  refine (uh HLS).mono ?_
  rintro e w4 ⟨cs, rfl, O4, hb4⟩
  obtain ⟨a5r, d5r, a6r, d6r, a7r, d7r, a8r, d8r, rfl, -⟩ := open_WorldResult O4.reads
  generalize hyr : sentW x (⟨2, x.chain.epoch, ((k : Int) + 1), (nextC x.chain.ids ((k : Int) + 1) (-1)), x.nodes[k].sure, ⟨0, 0, [], 0, 0⟩⟩ : DMsg) = yr at *
  have HYR := yh hyr
  clear hyr
  have hyl := (uh HY).lt
  have hy := (uh HY).keep hb4
  have r0 := Box.at hy 0 _ rfl
  have r1 := Box.at hy 1 _ rfl
  have r2 := Box.at hy 2 _ rfl
  have r3 := Box.at hy 3 _ rfl
  have r4 := Box.at hy 4 _ rfl
  have r5 := Box.at hy 5 _ rfl
  have r6 := Box.at hy 6 _ rfl
  have r7 := Box.at hy 7 _ rfl
  have r8 := Box.at hy 8 _ rfl
  simp only [ga, gb, gc] at r0 r1 r2 r3 r4 r5 r6 r7 r8
  have rf := Box.soft hy
  have rl := hy.lt
  have e9 : Ext (fun q => q = w.heap.size + 1) w4 (setAll w4 (w.heap.size + 1) 0 [.int .i64 yr.code, .bool yr.moved, .int .i64 yr.world.now, .int .i64 yr.world.events, .int .i64 yr.world.chain.epoch, .slice a5r yr.world.chain.ids.length d5r, .slice a6r yr.world.nodes.length d6r, .slice a7r yr.world.msgs.length d7r, .slice a8r yr.world.history.length d8r]) := ext_setAll _ (Ext.refl _ _) _ _ _ rfl
  have hzb4 := hb4.size
  have HO9 := yh (O4.ext e9 (fun q h1 h2 h3 => by omega))
  have HB9 := yh (below_setAll ((uh HB).trans (hb4.mono (uh HB).size)) (w.heap.size + 1) 0 [.int .i64 yr.code, .bool yr.moved, .int .i64 yr.world.now, .int .i64 yr.world.events, .int .i64 yr.world.chain.epoch, .slice a5r yr.world.chain.ids.length d5r, .slice a6r yr.world.nodes.length d6r, .slice a7r yr.world.msgs.length d7r, .slice a8r yr.world.history.length d8r] (by omega))
  clear e9 O4 hb4 HY HB hy HLS HX HR hdx z0 z1 z2 z3 z4 z5 z6 zl s5 s6
  go_wp2_with fail
  refine bodyPost_ret (v := .agg #[.int .i64 yr.code, .bool yr.moved, .int .i64 yr.world.now, .int .i64 yr.world.events, .int .i64 yr.world.chain.epoch, .slice a5r yr.world.chain.ids.length d5r, .slice a6r yr.world.nodes.length d6r, .slice a7r yr.world.msgs.length d7r, .slice a8r yr.world.history.length d8r]) (by simp [results, Tryz.results24, go_sem, r0, r1, r2, r3, r4, r5, r6, r7, r8]) rfl ?_
  rw [uh HP, uh HFW, uh HYR]
  exact ⟨_, rfl, (uh HO9).reads, uh HB9⟩
 have hdy : (nextC x.chain.ids ((k : Int) + 1) 1 == 0) = false := by simpa using hx2
 have HFW : Hid (ackM x ((k : Int) + 1) = (⟨2, x.chain.epoch, ((k : Int) + 1), (nextC x.chain.ids ((k : Int) + 1) (-1)), x.nodes[k].clean, ⟨0, 0, [], 0, 0⟩⟩ : DMsg)) := by
  show ackM x _ = _
  rw [ackM, nodeOf_at hk, if_neg hx2]
 have HMR : Hid (Lay.tMsg.Reads wb [.int .i64 2, .int .i64 x.chain.epoch, .int .i64 ((k : Int) + 1), .int .i64 (nextC x.chain.ids ((k : Int) + 1) (-1)), .int .i64 x.nodes[k].clean, .int .i64 0, .int .i64 0, .slice none 0 0, .int .i64 0, .int .i64 0] (⟨2, x.chain.epoch, ((k : Int) + 1), (nextC x.chain.ids ((k : Int) + 1) (-1)), x.nodes[k].clean, ⟨0, 0, [], 0, 0⟩⟩ : DMsg)) :=
  ⟨[], lies_Msg.2 ⟨none, 0, [], rfl, rfl, (show (Lit.int .i64 2).wf = true by decide), wf_of_bd (show -1000000000 ≤ x.chain.epoch ∧ x.chain.epoch ≤ 1000000000 by omega), wf_of_bd (show -1000000000 ≤ (k : Int) + 1 ∧ (k : Int) + 1 ≤ 1000000000 by omega), wf_of_bd (show -1000000000 ≤ (nextC x.chain.ids ((k : Int) + 1) (-1)) ∧ (nextC x.chain.ids ((k : Int) + 1) (-1)) ≤ 1000000000 by omega), wf_of_bd (show -1000000000 ≤ x.nodes[k].clean ∧ x.nodes[k].clean ≤ 1000000000 by omega), (show (Lit.int .i64 0).wf = true by decide), (show (Lit.int .i64 0).wf = true by decide), ⟨none, 0, rfl, ⟨by simp, by simp⟩, Or.inl ⟨rfl, rfl⟩⟩, (show (Lit.int .i64 0).wf = true by decide), (show (Lit.int .i64 0).wf = true by decide)⟩⟩
 have HLS := yh (l12SendC _ [.int .i64 2, .int .i64 x.chain.epoch, .int .i64 ((k : Int) + 1), .int .i64 (nextC x.chain.ids ((k : Int) + 1) (-1)), .int .i64 x.nodes[k].clean, .int .i64 0, .int .i64 0, .slice none 0 0, .int .i64 0, .int .i64 0] x (⟨2, x.chain.epoch, ((k : Int) + 1), (nextC x.chain.ids ((k : Int) + 1) (-1)), x.nodes[k].clean, ⟨0, 0, [], 0, 0⟩⟩ : DMsg) wb (uh HR) (uh HMR) (uh HOK) hf (by simp))
 clear HMR hx2 hs1 hs2 hs3 hep hne hn5
 go_wp2_with fail
 refine (uh HLS).mono ?_
 rintro e w4 ⟨cs, rfl, O4, hb4⟩
 obtain ⟨a5r, d5r, a6r, d6r, a7r, d7r, a8r, d8r, rfl, -⟩ := open_WorldResult O4.reads
 generalize hyr : sentW x (⟨2, x.chain.epoch, ((k : Int) + 1), (nextC x.chain.ids ((k : Int) + 1) (-1)), x.nodes[k].clean, ⟨0, 0, [], 0, 0⟩⟩ : DMsg) = yr at *
 have HYR := yh hyr
 clear hyr
 have hyl := (uh HY).lt
 have hy := (uh HY).keep hb4
 have r0 := Box.at hy 0 _ rfl
 have r1 := Box.at hy 1 _ rfl
 have r2 := Box.at hy 2 _ rfl
 have r3 := Box.at hy 3 _ rfl
 have r4 := Box.at hy 4 _ rfl
 have r5 := Box.at hy 5 _ rfl
 have r6 := Box.at hy 6 _ rfl
 have r7 := Box.at hy 7 _ rfl
 have r8 := Box.at hy 8 _ rfl
 simp only [ga, gb, gc] at r0 r1 r2 r3 r4 r5 r6 r7 r8
 have rf := Box.soft hy
 have rl := hy.lt
 have e9 : Ext (fun q => q = w.heap.size + 1) w4 (setAll w4 (w.heap.size + 1) 0 [.int .i64 yr.code, .bool yr.moved, .int .i64 yr.world.now, .int .i64 yr.world.events, .int .i64 yr.world.chain.epoch, .slice a5r yr.world.chain.ids.length d5r, .slice a6r yr.world.nodes.length d6r, .slice a7r yr.world.msgs.length d7r, .slice a8r yr.world.history.length d8r]) := ext_setAll _ (Ext.refl _ _) _ _ _ rfl
 have hzb4 := hb4.size
 have HO9 := yh (O4.ext e9 (fun q h1 h2 h3 => by omega))
 have HB9 := yh (below_setAll ((uh HB).trans (hb4.mono (uh HB).size)) (w.heap.size + 1) 0 [.int .i64 yr.code, .bool yr.moved, .int .i64 yr.world.now, .int .i64 yr.world.events, .int .i64 yr.world.chain.epoch, .slice a5r yr.world.chain.ids.length d5r, .slice a6r yr.world.nodes.length d6r, .slice a7r yr.world.msgs.length d7r, .slice a8r yr.world.history.length d8r] (by omega))
 clear e9 O4 hb4 HY HB hy HLS HX HR hdx z0 z1 z2 z3 z4 z5 z6 zl s5 s6
 go_wp2_with fail
 refine bodyPost_ret (v := .agg #[.int .i64 yr.code, .bool yr.moved, .int .i64 yr.world.now, .int .i64 yr.world.events, .int .i64 yr.world.chain.epoch, .slice a5r yr.world.chain.ids.length d5r, .slice a6r yr.world.nodes.length d6r, .slice a7r yr.world.msgs.length d7r, .slice a8r yr.world.history.length d8r]) (by simp [results, Tryz.results24, go_sem, r0, r1, r2, r3, r4, r5, r6, r7, r8]) rfl ?_
 rw [uh HP, uh HFW, uh HYR]
 exact ⟨_, rfl, (uh HO9).reads, uh HB9⟩
theorem sameMsgC (cs cs2 : List Value) (x y : DMsg) (w : World) (h : Lay.tMsg.Reads w cs x) (h2 : Lay.tMsg.Reads w cs2 y) :
  Calls Tryz.prog 305 #[.agg cs.toArray, .agg cs2.toArray] w fun e w' => e = .returned (.bool (sameM x y)) ∧ Below w.heap.size w w' := by
 obtain ⟨a, d, rfl, R⟩ := open_Msg h
 obtain ⟨a2, d2, rfl, R2⟩ := open_Msg h2
 clear h h2
 have nb : Below w.heap.size w ((w.alloc (.cells #[.int .i64 x.kind, .int .i64 x.epoch, .int .i64 x.src, .int .i64 x.dst, .int .i64 x.index, .int .i64 x.write.kind, .int .i64 x.write.id, .slice a x.write.vec.length d, .int .i64 x.write.session, .int .i64 x.write.seq] 89)).alloc (.cells #[.int .i64 y.kind, .int .i64 y.epoch, .int .i64 y.src, .int .i64 y.dst, .int .i64 y.index, .int .i64 y.write.kind, .int .i64 y.write.id, .slice a2 y.write.vec.length d2, .int .i64 y.write.session, .int .i64 y.write.seq] 89)) := ((Below.refl _ _).alloc (Nat.le_refl _) _).alloc (by simp) _
 have HL := yh (sameWrite _ _ x.write y.write _ (R.later nb) (R2.later nb))
 have HB := yh nb
 clear nb R R2
 cases e0 : (x.kind == y.kind)
 ·
  have HS : Hid (sameM x y = false) := by show sameM x y = false; simp [sameM, e0]
  go_enter Tryz.func305, Tryz.ntmps305
  go_wp2_with fail
  go_ret
  exact ⟨by rw [uh HS]; rfl, uh HB⟩
 have ht0 : True := trivial
 cases e1 : (x.epoch == y.epoch)
 ·
  have HS : Hid (sameM x y = false) := by show sameM x y = false; simp [sameM, e0, e1]
  go_enter Tryz.func305, Tryz.ntmps305
  go_wp2_with fail
  go_ret
  exact ⟨by rw [uh HS]; rfl, uh HB⟩
 have ht1 : True := trivial
 cases e2 : (x.src == y.src)
 ·
  have HS : Hid (sameM x y = false) := by show sameM x y = false; simp [sameM, e0, e1, e2]
  go_enter Tryz.func305, Tryz.ntmps305
  go_wp2_with fail
  go_ret
  exact ⟨by rw [uh HS]; rfl, uh HB⟩
 have ht2 : True := trivial
 cases e3 : (x.dst == y.dst)
 ·
  have HS : Hid (sameM x y = false) := by show sameM x y = false; simp [sameM, e0, e1, e2, e3]
  go_enter Tryz.func305, Tryz.ntmps305
  go_wp2_with fail
  go_ret
  exact ⟨by rw [uh HS]; rfl, uh HB⟩
 have ht3 : True := trivial
 cases e4 : (x.index == y.index)
 ·
  have HS : Hid (sameM x y = false) := by show sameM x y = false; simp [sameM, e0, e1, e2, e3, e4]
  go_enter Tryz.func305, Tryz.ntmps305
  go_wp2_with fail
  go_ret
  exact ⟨by rw [uh HS]; rfl, uh HB⟩
 have ht4 : True := trivial
 have HS : Hid (sameM x y = sameW x.write y.write) := by show sameM x y = _; simp [sameM, e0, e1, e2, e3, e4]
 clear ht0 ht1 ht2 ht3 ht4
 go_enter Tryz.func305, Tryz.ntmps305
 go_wp2_with fail
 refine (uh HL).mono ?_
 rintro e w1 ⟨rfl, hb⟩
 replace HB := yh ((uh HB).trans (hb.mono (uh HB).size))
 clear hb HL
 go_wp2_with fail
 go_ret
 exact ⟨by rw [uh HS]; rfl, uh HB⟩
theorem sentEach (cs : List Value) (a : Option Addr) (d : Nat) (x y : DMsg) (g : Nat) (w : World) (h : Lay.tMsg.Reads w cs y) (hx : Lay.tMsg.Reads w [.int .i64 x.kind, .int .i64 x.epoch, .int .i64 x.src, .int .i64 x.dst, .int .i64 x.index, .int .i64 x.write.kind, .int .i64 x.write.id, .slice a x.write.vec.length d, .int .i64 x.write.session, .int .i64 x.write.seq] x) (hbx : Box 0 #[.int .i64 x.kind, .int .i64 x.epoch, .int .i64 x.src, .int .i64 x.dst, .int .i64 x.index, .int .i64 x.write.kind, .int .i64 x.write.id, .slice a x.write.vec.length d, .int .i64 x.write.session, .int .i64 x.write.seq] 89 w g) :
  Calls Tryz.prog 304 #[.agg cs.toArray, .pointer (some ⟨g, 0, none⟩)] w fun e w' => e = .returned (.bool (sameM y x)) ∧ Below w.heap.size w w' := by
 obtain ⟨a2, d2, rfl, -⟩ := open_Msg h
 have nb : Below w.heap.size w (w.alloc (.cells #[.int .i64 y.kind, .int .i64 y.epoch, .int .i64 y.src, .int .i64 y.dst, .int .i64 y.index, .int .i64 y.write.kind, .int .i64 y.write.id, .slice a2 y.write.vec.length d2, .int .i64 y.write.session, .int .i64 y.write.seq] 89)) := (Below.refl _ _).alloc (Nat.le_refl _) _
 have HL := yh (sameMsgC _ _ y x _ (h.later nb) (hx.later nb))
 have hb1 := hbx.keep nb
 have HB := yh nb
 clear nb h hx hbx
 have c0 : (w.alloc (.cells #[.int .i64 y.kind, .int .i64 y.epoch, .int .i64 y.src, .int .i64 y.dst, .int .i64 y.index, .int .i64 y.write.kind, .int .i64 y.write.id, .slice a2 y.write.vec.length d2, .int .i64 y.write.session, .int .i64 y.write.seq] 89)).cell? ⟨g, 0, none⟩ = some (.int .i64 x.kind) := (hb1).at 0 _ rfl
 have c1 : (w.alloc (.cells #[.int .i64 y.kind, .int .i64 y.epoch, .int .i64 y.src, .int .i64 y.dst, .int .i64 y.index, .int .i64 y.write.kind, .int .i64 y.write.id, .slice a2 y.write.vec.length d2, .int .i64 y.write.session, .int .i64 y.write.seq] 89)).cell? ⟨g, 1, none⟩ = some (.int .i64 x.epoch) := (hb1).at 1 _ rfl
 have c2 : (w.alloc (.cells #[.int .i64 y.kind, .int .i64 y.epoch, .int .i64 y.src, .int .i64 y.dst, .int .i64 y.index, .int .i64 y.write.kind, .int .i64 y.write.id, .slice a2 y.write.vec.length d2, .int .i64 y.write.session, .int .i64 y.write.seq] 89)).cell? ⟨g, 2, none⟩ = some (.int .i64 x.src) := (hb1).at 2 _ rfl
 have c3 : (w.alloc (.cells #[.int .i64 y.kind, .int .i64 y.epoch, .int .i64 y.src, .int .i64 y.dst, .int .i64 y.index, .int .i64 y.write.kind, .int .i64 y.write.id, .slice a2 y.write.vec.length d2, .int .i64 y.write.session, .int .i64 y.write.seq] 89)).cell? ⟨g, 3, none⟩ = some (.int .i64 x.dst) := (hb1).at 3 _ rfl
 have c4 : (w.alloc (.cells #[.int .i64 y.kind, .int .i64 y.epoch, .int .i64 y.src, .int .i64 y.dst, .int .i64 y.index, .int .i64 y.write.kind, .int .i64 y.write.id, .slice a2 y.write.vec.length d2, .int .i64 y.write.session, .int .i64 y.write.seq] 89)).cell? ⟨g, 4, none⟩ = some (.int .i64 x.index) := (hb1).at 4 _ rfl
 have c5 : (w.alloc (.cells #[.int .i64 y.kind, .int .i64 y.epoch, .int .i64 y.src, .int .i64 y.dst, .int .i64 y.index, .int .i64 y.write.kind, .int .i64 y.write.id, .slice a2 y.write.vec.length d2, .int .i64 y.write.session, .int .i64 y.write.seq] 89)).cell? ⟨g, 5, none⟩ = some (.int .i64 x.write.kind) := (hb1).at 5 _ rfl
 have c6 : (w.alloc (.cells #[.int .i64 y.kind, .int .i64 y.epoch, .int .i64 y.src, .int .i64 y.dst, .int .i64 y.index, .int .i64 y.write.kind, .int .i64 y.write.id, .slice a2 y.write.vec.length d2, .int .i64 y.write.session, .int .i64 y.write.seq] 89)).cell? ⟨g, 6, none⟩ = some (.int .i64 x.write.id) := (hb1).at 6 _ rfl
 have c7 : (w.alloc (.cells #[.int .i64 y.kind, .int .i64 y.epoch, .int .i64 y.src, .int .i64 y.dst, .int .i64 y.index, .int .i64 y.write.kind, .int .i64 y.write.id, .slice a2 y.write.vec.length d2, .int .i64 y.write.session, .int .i64 y.write.seq] 89)).cell? ⟨g, 7, none⟩ = some (.slice a x.write.vec.length d) := (hb1).at 7 _ rfl
 have c8 : (w.alloc (.cells #[.int .i64 y.kind, .int .i64 y.epoch, .int .i64 y.src, .int .i64 y.dst, .int .i64 y.index, .int .i64 y.write.kind, .int .i64 y.write.id, .slice a2 y.write.vec.length d2, .int .i64 y.write.session, .int .i64 y.write.seq] 89)).cell? ⟨g, 8, none⟩ = some (.int .i64 x.write.session) := (hb1).at 8 _ rfl
 have c9 : (w.alloc (.cells #[.int .i64 y.kind, .int .i64 y.epoch, .int .i64 y.src, .int .i64 y.dst, .int .i64 y.index, .int .i64 y.write.kind, .int .i64 y.write.id, .slice a2 y.write.vec.length d2, .int .i64 y.write.session, .int .i64 y.write.seq] 89)).cell? ⟨g, 9, none⟩ = some (.int .i64 x.write.seq) := (hb1).at 9 _ rfl
 clear hb1
 go_enter Tryz.func304, Tryz.ntmps304
 go_wp2_with fail
 refine (uh HL).mono ?_
 rintro e w1 ⟨rfl, hb⟩
 replace HB := yh ((uh HB).trans (hb.mono (uh HB).size))
 clear hb HL
 go_wp2_with fail
 go_ret
 exact ⟨rfl, uh HB⟩
theorem any_at {xs : List DMsg} {x : DMsg} {k : Nat} (hk : k < xs.length) (h : sameM xs[k] x = true) : xs.any (fun y => sameM y x) = true := List.any_eq_true.2 ⟨xs[k], List.getElem_mem hk, h⟩
theorem any_none {xs : List DMsg} {x : DMsg} (h : ∀ j (hj : j < xs.length), sameM xs[j] x = false) : xs.any (fun y => sameM y x) = false := by
 rw [List.any_eq_false]
 intro y hy
 obtain ⟨j, hj, rfl⟩ := List.getElem_of_mem hy
 simp [h j hj]
theorem indexFuncM (v : Value) (a : Option Addr) (d : Nat) (xs : List DMsg) (x : DMsg) (g : Nat) (w : World) (h : (Lay.sl Lay.tMsg).Reads w [v] xs) (hx : Lay.tMsg.Reads w [.int .i64 x.kind, .int .i64 x.epoch, .int .i64 x.src, .int .i64 x.dst, .int .i64 x.index, .int .i64 x.write.kind, .int .i64 x.write.id, .slice a x.write.vec.length d, .int .i64 x.write.session, .int .i64 x.write.seq] x) (hbx : Box 0 #[.int .i64 x.kind, .int .i64 x.epoch, .int .i64 x.src, .int .i64 x.dst, .int .i64 x.index, .int .i64 x.write.kind, .int .i64 x.write.id, .slice a x.write.vec.length d, .int .i64 x.write.session, .int .i64 x.write.seq] 89 w g) :
  Calls Tryz.prog 321 #[v, .func (.func 304) #[] #[.pointer (some ⟨g, 0, none⟩)]] w fun e w' => ∃ i : Int, e = .returned (.int .i64 i) ∧ decide (0 ≤ i) = xs.any (fun y => sameM y x) ∧ Below w.heap.size w w' := by
 have hbig := h.big
 obtain ⟨ao, cap, rfl⟩ := open_sl h
 have H := yh h
 have HX := yh hx
 have HBX := yh hbx
 clear h hx hbx
 go_enter Tryz.func321, Tryz.ntmps321
 go_wp2_with fail
 go_loopw [8] (fun i wr => ∃ k : Nat, k ≤ xs.length ∧ i = .int .i64 k ∧ (∀ j (hj : j < xs.length), j < k → sameM xs[j] x = false) ∧ Below w.heap.size w wr) (fun i _ => xs.length - (intOf i).toNat)
 case atStart => exact ⟨0, Nat.zero_le _, rfl, fun j _ hj => by omega, Below.refl _ _⟩
 case round =>
  obtain ⟨k, hk, rfl, hz, hB⟩ := hrel
  by_cases hlt : k < xs.length
  ·
   obtain ⟨b, off, rfl, hbl⟩ := Lay.sl_addr (uh H) (by omega)
   obtain ⟨row, hc, hr⟩ := Lay.row_at (uh H) hlt
   replace hr := hr.later hB
   have hdl : decide ((k : Int) < (xs.length : Int)) = true := by simp; omega
   have hr2 := hr
   obtain ⟨a2, d2, rfl, -⟩ := open_Msg hr2
   have c0 : wr.cell? ⟨b, off + k * 10, none⟩ = some (.int .i64 (xs[k]).kind) := (hB.cell (p := ⟨b, off + k * 10, none⟩) hbl).trans (hc 0 (by decide))
   have c1 : wr.cell? ⟨b, off + k * 10 + 1, none⟩ = some (.int .i64 (xs[k]).epoch) := (hB.cell (p := ⟨b, off + k * 10 + 1, none⟩) hbl).trans (hc 1 (by decide))
   have c2 : wr.cell? ⟨b, off + k * 10 + 2, none⟩ = some (.int .i64 (xs[k]).src) := (hB.cell (p := ⟨b, off + k * 10 + 2, none⟩) hbl).trans (hc 2 (by decide))
   have c3 : wr.cell? ⟨b, off + k * 10 + 3, none⟩ = some (.int .i64 (xs[k]).dst) := (hB.cell (p := ⟨b, off + k * 10 + 3, none⟩) hbl).trans (hc 3 (by decide))
   have c4 : wr.cell? ⟨b, off + k * 10 + 4, none⟩ = some (.int .i64 (xs[k]).index) := (hB.cell (p := ⟨b, off + k * 10 + 4, none⟩) hbl).trans (hc 4 (by decide))
   have c5 : wr.cell? ⟨b, off + k * 10 + 5, none⟩ = some (.int .i64 (xs[k]).write.kind) := (hB.cell (p := ⟨b, off + k * 10 + 5, none⟩) hbl).trans (hc 5 (by decide))
   have c6 : wr.cell? ⟨b, off + k * 10 + 6, none⟩ = some (.int .i64 (xs[k]).write.id) := (hB.cell (p := ⟨b, off + k * 10 + 6, none⟩) hbl).trans (hc 6 (by decide))
   have c7 : wr.cell? ⟨b, off + k * 10 + 7, none⟩ = some (.slice a2 (xs[k]).write.vec.length d2) := (hB.cell (p := ⟨b, off + k * 10 + 7, none⟩) hbl).trans (hc 7 (by decide))
   have c8 : wr.cell? ⟨b, off + k * 10 + 8, none⟩ = some (.int .i64 (xs[k]).write.session) := (hB.cell (p := ⟨b, off + k * 10 + 8, none⟩) hbl).trans (hc 8 (by decide))
   have c9 : wr.cell? ⟨b, off + k * 10 + 9, none⟩ = some (.int .i64 (xs[k]).write.seq) := (hB.cell (p := ⟨b, off + k * 10 + 9, none⟩) hbl).trans (hc 9 (by decide))
   have HL := yh (sentEach _ a d x xs[k] g wr hr ((uh HX).later hB) ((uh HBX).keep hB))
   have HZ : Hid (∀ j (hj : j < xs.length), j < k → sameM xs[j] x = false) := hz
   have HA : Hid (sameM xs[k] x = true → xs.any (fun y => sameM y x) = true) := fun q => any_at hlt q
   have HN : Hid (sameM xs[k] x = false → ∀ j (hj : j < xs.length), j < k + 1 → sameM xs[j] x = false) := fun q j hj hjk => by
    by_cases h2 : j < k
    ·
     exact hz j hj h2
    obtain rfl : j = k := by omega
    exact q
   have HB := yh hB
   clear hz hB hr hc hr2
   generalize hy : xs[k] = y at *
   clear hy
   go_wp2_with fail
   refine (uh HL).mono ?_
   rintro e w2 ⟨rfl, hb⟩
   replace HB := yh ((uh HB).trans (hb.mono (uh HB).size))
   clear hb HL c0 c1 c2 c3 c4 c5 c6 c7 c8 c9
   cases hq : sameM y x
   ·
    have HNN := yh (uh HN hq)
    clear HN HA hq HZ
    go_wp2_with fail
    go_roundw
    case rel => exact ⟨k + 1, by omega, by go_num, uh HNN, uh HB⟩
    case measure => simp [intOf]; omega
   have HAA := yh (uh HA hq)
   clear HN HA hq HZ
   go_wp2_with fail
   go_ret
   exact ⟨k, rfl, by rw [uh HAA]; simp, uh HB⟩
  obtain rfl : k = xs.length := by omega
  have hdl : decide ((xs.length : Int) < (xs.length : Int)) = false := by simp
  have HAN := yh (any_none (x := x) fun j hj => hz j hj hj)
  have HB := yh hB
  clear hz hB
  go_wp2_with fail
  go_ret
  exact ⟨-1, rfl, by rw [uh HAN]; rfl, uh HB⟩
theorem containsFuncM (v : Value) (a : Option Addr) (d : Nat) (xs : List DMsg) (x : DMsg) (g : Nat) (w : World) (h : (Lay.sl Lay.tMsg).Reads w [v] xs) (hx : Lay.tMsg.Reads w [.int .i64 x.kind, .int .i64 x.epoch, .int .i64 x.src, .int .i64 x.dst, .int .i64 x.index, .int .i64 x.write.kind, .int .i64 x.write.id, .slice a x.write.vec.length d, .int .i64 x.write.session, .int .i64 x.write.seq] x) (hbx : Box 0 #[.int .i64 x.kind, .int .i64 x.epoch, .int .i64 x.src, .int .i64 x.dst, .int .i64 x.index, .int .i64 x.write.kind, .int .i64 x.write.id, .slice a x.write.vec.length d, .int .i64 x.write.session, .int .i64 x.write.seq] 89 w g) :
  Calls Tryz.prog 303 #[v, .func (.func 304) #[] #[.pointer (some ⟨g, 0, none⟩)]] w fun e w' => e = .returned (.bool (xs.any (fun y => sameM y x))) ∧ Below w.heap.size w w' := by
 have HL := yh (indexFuncM v a d xs x g w h hx hbx)
 obtain ⟨ao, cap, rfl⟩ := open_sl h
 clear h hx hbx
 go_enter Tryz.func303, Tryz.ntmps303
 go_wp2_with fail
 refine (uh HL).mono ?_
 rintro e w2 ⟨i, rfl, hi, hb⟩
 have HI := yh hi
 have HB := yh hb
 clear hb HL hi
 go_wp2_with fail
 go_ret
 exact ⟨by rw [← uh HI]; rfl, uh HB⟩
def SentE (c : Int) (ms : List DMsg) (w w' : World) (e : Ending) : Prop :=
 (c = 0 → ∃ v', e = .returned v' ∧ (Lay.sl Lay.tMsg).OwnIn w' [v'] ms w.heap.size w'.heap.size) ∧ (c ≠ 0 → e = .panicked (wrongP c))
theorem sentE_bad {c : Int} {ms : List DMsg} {w w' : World} (h : c ≠ 0) : SentE c ms w w' (.panicked (wrongP c)) := ⟨fun q => absurd q h, fun _ => rfl⟩
theorem sentE_ok {ms : List DMsg} {w w' : World} {v : Value} (h : (Lay.sl Lay.tMsg).OwnIn w' [v] ms w.heap.size w'.heap.size) : SentE 0 ms w w' (.returned v) := ⟨fun _ => ⟨v, rfl, h⟩, fun q => absurd rfl q⟩
theorem msg_vecS {x : DMsg} (h : msgFault x = 0) : x.write.vec.length ≤ 10000000 := by
 unfold msgFault at h
 split at h
 ·
  simp at h
 rename_i h1
 split at h
 ·
  simp at h
 split at h
 ·
  rename_i h3
  have h4 : noW x.write := Decidable.byContradiction fun q => h1 (Or.inr (Or.inr ⟨h3, q⟩))
  have := h4.2.2.2.2
  omega
 obtain ⟨-, -, -, hk⟩ := writeFault_zero h
 rcases hk with ⟨-, hv⟩ | ⟨-, hv⟩
 ·
  have := (vecFault_zero hv).1; omega
 rw [hv]; simp
theorem msgs_vecS {xs : List DMsg} (h : netFault xs = 0) : ∀ x ∈ xs, x.write.vec.length ≤ 10000000 := fun x hx => msg_vecS ((netFault_zero h).2 x hx)
theorem grow_of_kit {w W W2 : World} {g : Nat} {xs : List DMsg} (h : CopyKit w W g xs) (hb : Below W.heap.size W W2) : ∃ rows bls, Grow Lay.tMsg W2 w.heap.size 89 (.slice (some ⟨g, 0, none⟩) xs.length xs.length) rows xs bls ∧ bls.flatten.Nodup ∧ g = w.heap.size ∧ ∀ b ∈ bls.flatten, w.heap.size < b ∧ b < W.heap.size ∧ ∀ o, W2.frozen? ⟨b, o, none⟩ = false := by
 obtain ⟨hg, rows, hi, own, sub, hhi, hlo⟩ := h
 obtain ⟨bls, h1, h2, h3, h4, h5, h6⟩ := Lay.subs_ext sub (ext_of_below hb nowhere) (fun _ _ _ q => q)
 refine ⟨rows, bls, ⟨own_below own hb, h1, h2, h3, fun b hm e => ?_⟩, h4, hg, fun b hm => ⟨by have := h5 b hm; omega, by have := h5 b hm; omega, h6 b hm⟩⟩
 have e1 : g = b := by simpa [Value.ownBlock] using e
 have := h5 b hm
 omega
theorem own_snocM {w1 w' : World} {base T : Nat} {v v' : Value} {rows : List (List Value)} {xs : List DMsg} {bls : List (List Nat)} {row : List Value} {x : DMsg} {bl : List Nat} {M : Nat} (hG : Grow Lay.tMsg w' base T v' (rows ++ [row]) (xs ++ [x]) (bls ++ [bl])) (e : Ext (fun q => v.ownBlock = some q) w1 w') (hnd : bls.flatten.Nodup)
  (hs : ∀ b ∈ bls.flatten, base ≤ b ∧ b < M ∧ b < w1.heap.size ∧ v.ownBlock ≠ some b ∧ ∀ o, w1.frozen? ⟨b, o, none⟩ = false) (O : Lay.tMsg.Own w1 row x bl) (hbl : ∀ b ∈ bl, base ≤ b ∧ M ≤ b ∧ v.ownBlock ≠ some b) (hn : (xs ++ [x]).length ≤ 9223372036854775807) : (Lay.sl Lay.tMsg).OwnIn w' [v'] (xs ++ [x]) base w'.heap.size := by
 refine hG.toOwn hn ?_ ?_
 ·
  rw [List.flatten_append, List.nodup_append]
  refine ⟨hnd, by simpa using O.2.1, fun a ha b hb e => ?_⟩
  have := hs a ha
  have := hbl b (by simpa using hb)
  omega
 intro b hb
 rw [List.flatten_append] at hb
 rcases List.mem_append.1 hb with hm | hm
 ·
  obtain ⟨q1, q2, q3, q4, q5⟩ := hs b hm
  exact ⟨q1, fun o => (frozen_of_heap (e.block b q3 q4) o).trans (q5 o)⟩
 have hm2 : b ∈ bl := by simpa using hm
 obtain ⟨q1, q2, q3⟩ := hbl b hm2
 exact ⟨q1, fun o => (frozen_of_heap (e.block b (Lay.tMsg.lt O.1 b hm2) q3) o).trans (O.2.2 b hm2 o)⟩
theorem sentC (v : Value) (xs : List DMsg) (cs : List Value) (x : DMsg) (w : World) (h : (Lay.sl Lay.tMsg).Reads w [v] xs) (hx : Lay.tMsg.Reads w cs x) :
  Calls Tryz.prog 277 #[v, .agg cs.toArray] w fun e w' => SentE (sendR xs x).code (sendR xs x).msgs w w' e ∧ Below w.heap.size w w' := by
 have hmf : ∀ (fn : Fn) (first cap : Array Value) (w : World), (Instr.makeFunc fn first cap).run Tryz.prog w = .ok (.func fn first cap) w := fun _ _ _ _ => rfl
 obtain ⟨ao, cap, rfl⟩ := open_sl h
 obtain ⟨a, d, rfl, -⟩ := open_Msg hx
 have nb : Below w.heap.size w (w.alloc (.cells #[.int .i64 x.kind, .int .i64 x.epoch, .int .i64 x.src, .int .i64 x.dst, .int .i64 x.index, .int .i64 x.write.kind, .int .i64 x.write.id, .slice a x.write.vec.length d, .int .i64 x.write.session, .int .i64 x.write.seq] 89)) := (Below.refl _ _).alloc (Nat.le_refl _) _
 have hz1 : (w.alloc (.cells #[.int .i64 x.kind, .int .i64 x.epoch, .int .i64 x.src, .int .i64 x.dst, .int .i64 x.index, .int .i64 x.write.kind, .int .i64 x.write.id, .slice a x.write.vec.length d, .int .i64 x.write.session, .int .i64 x.write.seq] 89)).heap.size = w.heap.size + 1 := by simp
 have HR := yh (h.later nb)
 have HRX := yh (hx.later nb)
 have HB := yh nb
 have HX : Hid (Box 0 #[.int .i64 x.kind, .int .i64 x.epoch, .int .i64 x.src, .int .i64 x.dst, .int .i64 x.index, .int .i64 x.write.kind, .int .i64 x.write.id, .slice a x.write.vec.length d, .int .i64 x.write.session, .int .i64 x.write.seq] 89 (w.alloc (.cells #[.int .i64 x.kind, .int .i64 x.epoch, .int .i64 x.src, .int .i64 x.dst, .int .i64 x.index, .int .i64 x.write.kind, .int .i64 x.write.id, .slice a x.write.vec.length d, .int .i64 x.write.session, .int .i64 x.write.seq] 89)) w.heap.size) := newBox (Nat.zero_le _)
 have HZ1 := yh hz1
 clear h hx nb hz1
 go_enter Tryz.func277, Tryz.ntmps277
 go_upto_region 1 with fail
 generalize w.alloc (.cells #[.int .i64 x.kind, .int .i64 x.epoch, .int .i64 x.src, .int .i64 x.dst, .int .i64 x.index, .int .i64 x.write.kind, .int .i64 x.write.id, .slice a x.write.vec.length d, .int .i64 x.write.session, .int .i64 x.write.seq] 89) = W1 at *
 have HL := yh (mustBeNetC _ xs W1 (uh HR))
 go_wp2_with fail
 refine (uh HL).mono ?_
 rintro e W2 ⟨he, hb⟩
 replace HB := yh ((uh HB).trans (hb.mono (uh HB).size))
 replace HR := yh ((uh HR).later hb)
 replace HRX := yh ((uh HRX).later hb)
 replace HX := yh ((uh HX).keep hb)
 have hw2 : w.heap.size + 1 ≤ W2.heap.size := by have := hb.size; have := uh HZ1; omega
 have HW2 := yh hw2
 clear hb HL hw2 HZ1
 by_cases hf : netFault xs = 0
 case neg =>
  rw [wrongE_bad hf] at he
  subst he
  have HF := yh (sendR_net (x := x) hf)
  have HG := yh hf
  clear hf
  go_wp2_with fail
  exact ⟨rfl, by rw [uh HF]; exact sentE_bad (uh HG), uh HB⟩
 case pos =>
 rw [wrongE_ok hf] at he
 subst he
 have HF := yh hf
 have hlen := (netFault_zero hf).1
 clear hf
 have c0 : W2.cell? ⟨w.heap.size, 0, none⟩ = some (.int .i64 x.kind) := (uh HX).at 0 _ rfl
 have c1 : W2.cell? ⟨w.heap.size, 1, none⟩ = some (.int .i64 x.epoch) := (uh HX).at 1 _ rfl
 have c2 : W2.cell? ⟨w.heap.size, 2, none⟩ = some (.int .i64 x.src) := (uh HX).at 2 _ rfl
 have c3 : W2.cell? ⟨w.heap.size, 3, none⟩ = some (.int .i64 x.dst) := (uh HX).at 3 _ rfl
 have c4 : W2.cell? ⟨w.heap.size, 4, none⟩ = some (.int .i64 x.index) := (uh HX).at 4 _ rfl
 have c5 : W2.cell? ⟨w.heap.size, 5, none⟩ = some (.int .i64 x.write.kind) := (uh HX).at 5 _ rfl
 have c6 : W2.cell? ⟨w.heap.size, 6, none⟩ = some (.int .i64 x.write.id) := (uh HX).at 6 _ rfl
 have c7 : W2.cell? ⟨w.heap.size, 7, none⟩ = some (.slice a x.write.vec.length d) := (uh HX).at 7 _ rfl
 have c8 : W2.cell? ⟨w.heap.size, 8, none⟩ = some (.int .i64 x.write.session) := (uh HX).at 8 _ rfl
 have c9 : W2.cell? ⟨w.heap.size, 9, none⟩ = some (.int .i64 x.write.seq) := (uh HX).at 9 _ rfl
 have HL := yh (mustBeMsgC _ x W2 (uh HRX))
 go_wp2_with fail
 clear c0 c1 c2 c3 c4 c5 c6 c7 c8 c9
 refine (uh HL).mono ?_
 rintro e W3 ⟨he, hb⟩
 replace HB := yh ((uh HB).trans (hb.mono (uh HB).size))
 replace HR := yh ((uh HR).later hb)
 replace HRX := yh ((uh HRX).later hb)
 replace HX := yh ((uh HX).keep hb)
 replace HW2 := yh (Nat.le_trans (uh HW2) hb.size)
 clear hb HL
 by_cases hm : msgFault x = 0
 case neg =>
  rw [wrongE_bad hm] at he
  subst he
  replace HF := yh (sendR_msg (x := x) (uh HF) hm)
  have HG := yh hm
  clear hm
  go_wp2_with fail
  exact ⟨rfl, by rw [uh HF]; exact sentE_bad (uh HG), uh HB⟩
 case pos =>
 rw [wrongE_ok hm] at he
 subst he
 have HSR := yh (sendR_ok (uh HF) hm)
 have hmv := msg_vecS hm
 clear hm
 have HL := yh (copiedMsgsC _ xs W3 (uh HR) (by omega) (msgs_vecS (uh HF)))
 have HMV := yh hmv
 clear hmv HF
 go_wp2_with fail
 refine (uh HL).mono ?_
 rintro e W4 ⟨g, rfl, O, hb, hk⟩
 have HO := yh O
 have HK := yh hk
 have hg : g = W3.heap.size := hk.1
 have hw3 := uh HW2
 replace HB := yh ((uh HB).trans (hb.mono (uh HB).size))
 replace HRX := yh ((uh HRX).later hb)
 replace HX := yh ((uh HX).keep hb)
 have HW3 := yh hw3
 have HG := yh hg
 clear hb HL O hk HR hw3 hg HW2
 have HL := yh (containsFuncM _ a d xs x w.heap.size W4 (uh HO).reads (uh HRX) (uh HX))
 go_wp2_with fail
 refine (uh HL).mono ?_
 rintro e W5 ⟨rfl, hb⟩
 have HB45 := yh hb
 replace HB := yh ((uh HB).trans (hb.mono (uh HB).size))
 replace HRX := yh ((uh HRX).later hb)
 replace HX := yh ((uh HX).keep hb)
 clear HL hb
 cases hany : xs.any (fun y => sameM y x)
 case true =>
  have HS := yh ((uh HSR).trans (sendM_there hany))
  have HO5 := yh ((uh HO).later (uh HB45))
  have HZ := yh (uh HB45).size
  clear hany HSR
  go_wp2_with fail
  go_ret
  refine ⟨?_, uh HB⟩
  rw [uh HS]
  exact sentE_ok ((uh HO5).mono (by have := uh HW3; omega) (uh HZ))
 case false =>
 by_cases hfull : xs.length < 40
 case neg =>
  have HS := yh ((uh HSR).trans (sendM_full hany (by omega)))
  have hd : decide ((xs.length : Int) < 40) = false := by simp; omega
  clear hany HSR
  go_wp2_with fail
  refine (mustF 2 _).mono ?_
  rintro e w9 ⟨rfl, h9⟩
  subst w9
  go_wp2_with fail
  exact ⟨rfl, by rw [uh HS]; exact sentE_bad (by decide), uh HB⟩
 case pos =>
 have HS := yh ((uh HSR).trans (sendM_new hany hfull))
 have hd : decide ((xs.length : Int) < 40) = true := by simp; omega
 clear hany HSR
 go_wp2_with fail
 refine (mustT 2 _).mono ?_
 rintro e w9 ⟨rfl, h9⟩
 subst w9
 clear hd
 have c0 : W5.cell? ⟨w.heap.size, 0, none⟩ = some (.int .i64 x.kind) := (uh HX).at 0 _ rfl
 have c1 : W5.cell? ⟨w.heap.size, 1, none⟩ = some (.int .i64 x.epoch) := (uh HX).at 1 _ rfl
 have c2 : W5.cell? ⟨w.heap.size, 2, none⟩ = some (.int .i64 x.src) := (uh HX).at 2 _ rfl
 have c3 : W5.cell? ⟨w.heap.size, 3, none⟩ = some (.int .i64 x.dst) := (uh HX).at 3 _ rfl
 have c4 : W5.cell? ⟨w.heap.size, 4, none⟩ = some (.int .i64 x.index) := (uh HX).at 4 _ rfl
 have c5 : W5.cell? ⟨w.heap.size, 5, none⟩ = some (.int .i64 x.write.kind) := (uh HX).at 5 _ rfl
 have c6 : W5.cell? ⟨w.heap.size, 6, none⟩ = some (.int .i64 x.write.id) := (uh HX).at 6 _ rfl
 have c7 : W5.cell? ⟨w.heap.size, 7, none⟩ = some (.slice a x.write.vec.length d) := (uh HX).at 7 _ rfl
 have c8 : W5.cell? ⟨w.heap.size, 8, none⟩ = some (.int .i64 x.write.session) := (uh HX).at 8 _ rfl
 have c9 : W5.cell? ⟨w.heap.size, 9, none⟩ = some (.int .i64 x.write.seq) := (uh HX).at 9 _ rfl
 have HL := yh (copiedMsgC _ x W5 (uh HRX) (uh HMV))
 go_wp2_with fail
 clear c0 c1 c2 c3 c4 c5 c6 c7 c8 c9
 refine (uh HL).mono ?_
 rintro e W6 ⟨a3, c3, rfl, O, hb⟩
 have hkb := (uh HB45).trans (hb.mono (uh HB45).size)
 obtain ⟨rows, bls, hG, hnd, -, hsub⟩ := grow_of_kit (uh HK) hkb
 obtain ⟨bl, OM, hbl⟩ := O
 replace HB := yh ((uh HB).trans (hb.mono (uh HB).size))
 have hgl : ∀ q, (Value.slice (some ⟨g, 0, none⟩) xs.length xs.length).ownBlock = some q → q = W3.heap.size := fun q hq => by
  have : g = q := by simpa [Value.ownBlock] using hq
  rw [← this]; exact uh HG
 have s45 := (uh HB45).size
 have s56 := hb.size
 have hgw : W3.heap.size < W4.heap.size := by
  have := ((uh HK).2)
  obtain ⟨_, _, _, _, q1, q2⟩ := this
  omega
 have hoff : ∀ b ∈ bl, (Value.slice (some ⟨g, 0, none⟩) xs.length xs.length).ownBlock ≠ some b := fun b hm e => by
  have h1 := hgl b e
  have h2 := hbl b hm
  omega
 have HSB : Hid (∀ b ∈ bls.flatten, W3.heap.size ≤ b ∧ b < W4.heap.size ∧ b < W6.heap.size ∧ (Value.slice (some ⟨g, 0, none⟩) xs.length xs.length).ownBlock ≠ some b ∧ ∀ o, W6.frozen? ⟨b, o, none⟩ = false) := fun b hm => by
  obtain ⟨q1, q2, q3⟩ := hsub b hm
  refine ⟨by omega, q2, by omega, fun e => ?_, q3⟩
  have := hgl b e
  omega
 have HBL : Hid (∀ b ∈ bl, W3.heap.size ≤ b ∧ W4.heap.size ≤ b ∧ (Value.slice (some ⟨g, 0, none⟩) xs.length xs.length).ownBlock ≠ some b) := fun b hm => ⟨by have := hbl b hm; omega, by have := hbl b hm; omega, hoff b hm⟩
 have HND := yh hnd
 have HOM := yh OM
 have hl := OM.1
 have hbase : W3.heap.size ≤ W6.heap.size := by omega
 have hn1 : xs.length + 1 ≤ 100000000 := by omega
 clear hb HL hkb hsub hbl hgl OM hnd HK HO HB45 HRX HX HMV s45 s56 hgw
 go_wp2_with (at_builtin; refine wpList_append_Msg hG hl hoff rfl _ _ rfl rfl rfl hn1 hbase ?_)
 rintro g2 cap2 W7 hG7 hb7 e7 - h67 -
 have HO7 := yh (own_snocM hG7 e7 (uh HND) (uh HSB) (uh HOM) (uh HBL) (by simp; omega))
 replace HB := yh ((uh HB).trans (hb7.mono (by have := uh HW3; omega)))
 clear hG7 hb7 e7 h67 HND HSB HOM HBL hG hl hoff
 go_wp2_with fail
 go_ret
 refine ⟨?_, uh HB⟩
 rw [uh HS]
 exact sentE_ok ((uh HO7).mono (by have := uh HW3; omega) (Nat.le_refl _))
theorem send_bad {xs : List DMsg} {x : DMsg} (h : (sendR xs x).code ≠ 0) : sendR xs x = badNet (sendR xs x).code := by
 by_cases h1 : netFault xs = 0
 ·
  by_cases h2 : msgFault x = 0
  ·
   rw [sendR_ok h1 h2] at h ⊢
   unfold sendM at h ⊢
   split
   ·
    rename_i q; rw [if_pos q] at h; exact absurd rfl h
   rename_i q
   rw [if_neg q] at h
   split
   ·
    rfl
   rename_i q2; rw [if_neg q2] at h; exact absurd rfl h
  rw [sendR_msg h1 h2]; rfl
 rw [sendR_net h1]; rfl
theorem send_vals (xs : List DMsg) (x : DMsg) : 0 ≤ (sendR xs x).code ∧ (sendR xs x).code ≤ 6 := by
 have h1 := netFault_vals xs
 have h2 := msgFault_vals x
 unfold sendR
 split
 ·
  split
  ·
   unfold sendM
   split
   ·
    exact ⟨by show (0 : Int) ≤ 0; omega, by show (0 : Int) ≤ 6; omega⟩
   split
   ·
    decide
   exact ⟨by show (0 : Int) ≤ 0; omega, by show (0 : Int) ≤ 6; omega⟩
  exact h2
 exact h1
theorem sendWork (v : Value) (xs : List DMsg) (a : Option Addr) (d : Nat) (x : DMsg) (g g2 : Nat) (w : World) (h : (Lay.sl Lay.tMsg).Reads w [v] xs) (hm : Lay.tMsg.Reads w [.int .i64 x.kind, .int .i64 x.epoch, .int .i64 x.src, .int .i64 x.dst, .int .i64 x.index, .int .i64 x.write.kind, .int .i64 x.write.id, .slice a x.write.vec.length d, .int .i64 x.write.session, .int .i64 x.write.seq] x) (hx : Box 0 #[v] 33 w g) (hx2 : Box 0 #[.int .i64 x.kind, .int .i64 x.epoch, .int .i64 x.src, .int .i64 x.dst, .int .i64 x.index, .int .i64 x.write.kind, .int .i64 x.write.id, .slice a x.write.vec.length d, .int .i64 x.write.session, .int .i64 x.write.seq] 89 w g2) :
  Calls Tryz.prog 276 #[.pointer (some ⟨g, 0, none⟩), .pointer (some ⟨g2, 0, none⟩)] w fun e w' => SentE (sendR xs x).code (sendR xs x).msgs w w' e ∧ Below w.heap.size w w' := by
 have HL := yh (sentC v xs _ x w h hm)
 obtain ⟨ao, cap, rfl⟩ := open_sl h
 have z0 : w.cell? ⟨g, 0, none⟩ = some (.slice ao xs.length cap) := hx.at 0 _ rfl
 have c0 : w.cell? ⟨g2, 0, none⟩ = some (.int .i64 x.kind) := hx2.at 0 _ rfl
 have c1 : w.cell? ⟨g2, 1, none⟩ = some (.int .i64 x.epoch) := hx2.at 1 _ rfl
 have c2 : w.cell? ⟨g2, 2, none⟩ = some (.int .i64 x.src) := hx2.at 2 _ rfl
 have c3 : w.cell? ⟨g2, 3, none⟩ = some (.int .i64 x.dst) := hx2.at 3 _ rfl
 have c4 : w.cell? ⟨g2, 4, none⟩ = some (.int .i64 x.index) := hx2.at 4 _ rfl
 have c5 : w.cell? ⟨g2, 5, none⟩ = some (.int .i64 x.write.kind) := hx2.at 5 _ rfl
 have c6 : w.cell? ⟨g2, 6, none⟩ = some (.int .i64 x.write.id) := hx2.at 6 _ rfl
 have c7 : w.cell? ⟨g2, 7, none⟩ = some (.slice a x.write.vec.length d) := hx2.at 7 _ rfl
 have c8 : w.cell? ⟨g2, 8, none⟩ = some (.int .i64 x.write.session) := hx2.at 8 _ rfl
 have c9 : w.cell? ⟨g2, 9, none⟩ = some (.int .i64 x.write.seq) := hx2.at 9 _ rfl
 clear hx h hx2 hm
 go_enter Tryz.func276, Tryz.ntmps276
 go_wp2_with fail
 refine (uh HL).mono ?_
 rintro e W2 ⟨he, hb⟩
 have HB := yh hb
 have HE := yh he
 clear hb HL z0 he
 by_cases hf : (sendR xs x).code = 0
 ·
  obtain ⟨v2, rfl, O⟩ := (uh HE).1 hf
  have HO := yh O
  have HF := yh hf
  clear hf HE O
  go_wp2_with fail
  go_ret
  exact ⟨by rw [uh HF]; exact sentE_ok (uh HO), uh HB⟩
 obtain rfl := (uh HE).2 hf
 have HF := yh hf
 clear hf HE
 go_wp2_with fail
 exact ⟨rfl, sentE_bad (uh HF), uh HB⟩
theorem implSendMsg (v : Value) (xs : List DMsg) (cs : List Value) (x : DMsg) (w : World) (h : (Lay.sl Lay.tMsg).Reads w [v] xs) (hm : Lay.tMsg.Reads w cs x) :
  Calls Tryz.prog 218 #[v, .agg cs.toArray] w fun e w' => ∃ cs, e = .returned (.agg cs.toArray) ∧ Lay.tNetResult.OwnIn w' cs (sendR xs x) w.heap.size w'.heap.size ∧ Below w.heap.size w w' := by
 have hmf : ∀ (fn : Fn) (first cap : Array Value) (w : World), (Instr.makeFunc fn first cap).run Tryz.prog w = .ok (.func fn first cap) w := fun _ _ _ _ => rfl
 obtain ⟨ao, cap, rfl⟩ := open_sl h
 obtain ⟨a, d, rfl, -⟩ := open_Msg hm
 have nb1 : Below w.heap.size w (w.alloc (.cells #[.slice ao xs.length cap] 33)) := (Below.refl _ _).alloc (Nat.le_refl _) _
 have x1 : Box 0 #[.slice ao xs.length cap] 33 (w.alloc (.cells #[.slice ao xs.length cap] 33)) w.heap.size := newBox (Nat.zero_le _)
 have s1 : (w.alloc (.cells #[.slice ao xs.length cap] 33)).heap.size = w.heap.size + 1 := by simp
 have R1 := h.later nb1
 have M1 := hm.later nb1
 generalize hA1 : w.alloc (.cells #[.slice ao xs.length cap] 33) = A1 at *
 have nb2 : Below A1.heap.size A1 (A1.alloc (.cells #[.int .i64 x.kind, .int .i64 x.epoch, .int .i64 x.src, .int .i64 x.dst, .int .i64 x.index, .int .i64 x.write.kind, .int .i64 x.write.id, .slice a x.write.vec.length d, .int .i64 x.write.session, .int .i64 x.write.seq] 89)) := (Below.refl _ _).alloc (Nat.le_refl _) _
 have x2 : Box 0 #[.int .i64 x.kind, .int .i64 x.epoch, .int .i64 x.src, .int .i64 x.dst, .int .i64 x.index, .int .i64 x.write.kind, .int .i64 x.write.id, .slice a x.write.vec.length d, .int .i64 x.write.session, .int .i64 x.write.seq] 89 (A1.alloc (.cells #[.int .i64 x.kind, .int .i64 x.epoch, .int .i64 x.src, .int .i64 x.dst, .int .i64 x.index, .int .i64 x.write.kind, .int .i64 x.write.id, .slice a x.write.vec.length d, .int .i64 x.write.session, .int .i64 x.write.seq] 89)) A1.heap.size := newBox (Nat.zero_le _)
 have s2 : (A1.alloc (.cells #[.int .i64 x.kind, .int .i64 x.epoch, .int .i64 x.src, .int .i64 x.dst, .int .i64 x.index, .int .i64 x.write.kind, .int .i64 x.write.id, .slice a x.write.vec.length d, .int .i64 x.write.session, .int .i64 x.write.seq] 89)).heap.size = A1.heap.size + 1 := by simp
 replace x1 := x1.keep nb2
 have R2 := R1.later nb2
 have M2 := M1.later nb2
 generalize hA2 : A1.alloc (.cells #[.int .i64 x.kind, .int .i64 x.epoch, .int .i64 x.src, .int .i64 x.dst, .int .i64 x.index, .int .i64 x.write.kind, .int .i64 x.write.id, .slice a x.write.vec.length d, .int .i64 x.write.session, .int .i64 x.write.seq] 89) = A2 at *
 have nb3 : Below A2.heap.size A2 (A2.alloc (.cells #[.int .i64 0, .slice none 0 0] 235)) := (Below.refl _ _).alloc (Nat.le_refl _) _
 have x3 : Box 0 #[.int .i64 0, .slice none 0 0] 235 (A2.alloc (.cells #[.int .i64 0, .slice none 0 0] 235)) A2.heap.size := newBox (Nat.zero_le _)
 have s3 : (A2.alloc (.cells #[.int .i64 0, .slice none 0 0] 235)).heap.size = A2.heap.size + 1 := by simp
 replace x1 := x1.keep nb3
 replace x2 := x2.keep nb3
 have R3 := R2.later nb3
 have M3 := M2.later nb3
 have B3 : Below w.heap.size w (A2.alloc (.cells #[.int .i64 0, .slice none 0 0] 235)) := (nb1.trans (nb2.mono (by omega))).trans (nb3.mono (by omega))
 have HB := yh B3
 rw [s2, s1] at s3 x3
 rw [s1] at x2
 have HX1 := yh x1
 have HX2 := yh x2
 have HX3 := yh x3
 have HR := yh R3
 have HM := yh M3
 subst hA2
 subst hA1
 clear nb1 nb2 nb3 x1 x2 x3 R1 R2 R3 B3 s1 s2 h hm M1 M2 M3
 go_enter Tryz.func218, Tryz.ntmps218
 go_upto_region 1 with fail
 generalize ((w.alloc (.cells #[.slice ao xs.length cap] 33)).alloc (.cells #[.int .i64 x.kind, .int .i64 x.epoch, .int .i64 x.src, .int .i64 x.dst, .int .i64 x.index, .int .i64 x.write.kind, .int .i64 x.write.id, .slice a x.write.vec.length d, .int .i64 x.write.session, .int .i64 x.write.seq] 89)).alloc (.cells #[.int .i64 0, .slice none 0 0] 235) = W1 at *
 have nb : Below W1.heap.size W1 (W1.alloc (.cells #[.int .i64 0] 2)) := (Below.refl _ _).alloc (Nat.le_refl _) _
 have HW := yh (sendWork _ xs a d x w.heap.size (w.heap.size + 1) _ ((uh HR).later nb) ((uh HM).later nb) ((uh HX1).keep nb) ((uh HX2).keep nb))
 have hz : (W1.alloc (.cells #[.int .i64 0] 2)).heap.size = W1.heap.size + 1 := by simp
 have HZ := yh hz
 have HS := yh s3
 clear nb hz s3
 by_cases hf : (sendR xs x).code = 0
 ·
  have HL := yh (faced_ok_msgs 276 #[.pointer (some ⟨w.heap.size, 0, none⟩), .pointer (some ⟨w.heap.size + 1, 0, none⟩)] W1 (fun v w' => (Lay.sl Lay.tMsg).OwnIn w' [v] (sendR xs x).msgs (W1.heap.size + 1) w'.heap.size) (fun _ => by rfl) ((uh HW).mono (by
   rintro e w' ⟨he, hb⟩
   obtain ⟨v2, he2, O⟩ := he.1 hf
   rw [uh HZ] at hb O
   exact ⟨v2, he2, O, hb⟩)))
  have HF : Hid (sendR xs x = ⟨0, (sendR xs x).msgs⟩) := by
   show sendR xs x = _
   rw [← hf]
  clear hf HW
  go_wp2_with fail
  refine (uh HL).mono ?_
  rintro e W2 ⟨v, W3, rfl, O, hW, hb, -⟩
  obtain ⟨a9, d9, rfl⟩ := open_sl O.reads
  have hE : Ext (fun q => q = W1.heap.size) W3 W2 := by rw [hW]; exact (Ext.refl (fun q => q = W1.heap.size) _).setCell ⟨W1.heap.size, 0, none⟩ _ rfl
  have hsz : W3.heap.size = W2.heap.size := by rw [hW]; simp
  have hs3 := uh HS
  have O2 := O.ext hE (fun q h1 h2 h3 => by omega)
  rw [hsz] at O2
  replace HX3 := yh ((uh HX3).keep hb)
  replace HB := yh ((uh HB).trans (hb.mono (uh HB).size))
  clear hE hsz O hW
  generalize (sendR xs x).msgs = ms at *
  have z0 : W2.cell? ⟨w.heap.size + 1 + 1, 0, none⟩ = some (.int .i64 0) := (uh HX3).at 0 _ rfl
  have z1 : W2.cell? ⟨w.heap.size + 1 + 1, 1, none⟩ = some (.slice none 0 0) := (uh HX3).at 1 _ rfl
  have ff := (uh HX3).soft
  have l0 := (uh HX3).lt
  have HB2 := yh (below_setAll (uh HB) (w.heap.size + 1 + 1) 0 [.int .i64 0, .slice a9 ms.length d9] (by omega))
  have HO2 := yh (own_store' (s := w.heap.size + 1 + 1) (vs := [.int .i64 0, .slice a9 ms.length d9]) O2 (by omega))
  have HZ2 : Hid ((setAll W2 (w.heap.size + 1 + 1) 0 [.int .i64 0, .slice a9 ms.length d9]).heap.size = W2.heap.size) := size_setAll _ _ _ _
  have HLE : Hid (w.heap.size ≤ W1.heap.size + 1) := by show w.heap.size ≤ W1.heap.size + 1; omega
  clear hb HL HX1 HX2 HX3 HR HB HZ HS O2 hs3
  go_wp2_with fail
  refine bodyPost_ret (v := .agg #[.int .i64 0, .slice a9 ms.length d9]) (by simp [results, Tryz.results218, go_sem, z0, z1]) rfl ?_
  rw [uh HF]
  exact ⟨[_, _], rfl, own_netR (by decide) ((uh HO2).mono (uh HLE) (Nat.le_of_eq (uh HZ2).symm)), uh HB2⟩
 have HL := yh (faced_bad_msgs 276 #[.pointer (some ⟨w.heap.size, 0, none⟩), .pointer (some ⟨w.heap.size + 1, 0, none⟩)] (sendR xs x).code W1 (fun _ => by rfl) ((uh HW).mono (by
  rintro e w' ⟨he, hb⟩
  rw [uh HZ] at hb
  exact ⟨he.2 hf, hb⟩)))
 have HF := yh (send_bad hf)
 have hv := send_vals xs x
 clear hf HW HZ HS
 go_wp2_with fail
 refine (uh HL).mono ?_
 rintro e W2 ⟨rfl, hb⟩
 replace HX3 := yh ((uh HX3).keep hb)
 replace HB := yh ((uh HB).trans (hb.mono (uh HB).size))
 generalize (sendR xs x).code = f at *
 have z0 : W2.cell? ⟨w.heap.size + 1 + 1, 0, none⟩ = some (.int .i64 0) := (uh HX3).at 0 _ rfl
 have z1 : W2.cell? ⟨w.heap.size + 1 + 1, 1, none⟩ = some (.slice none 0 0) := (uh HX3).at 1 _ rfl
 have ff := (uh HX3).soft
 have l0 := (uh HX3).lt
 have HB2 := yh (below_setAll (uh HB) (w.heap.size + 1 + 1) 0 [.int .i64 f, .slice none 0 0] (by omega))
 clear hb HL HX1 HX2 HX3 HR HB
 go_wp2_with fail
 refine bodyPost_ret (v := .agg #[.int .i64 f, .slice none 0 0]) (by simp [results, Tryz.results218, go_sem, z0, z1]) rfl ?_
 rw [uh HF]
 exact ⟨[_, _], rfl, own_badNet (by omega), uh HB2⟩
def StepPost (g lo : Nat) (c : Int) (mv : Bool) (z : DWorld) (W : World) (e : Ending) (W' : World) : Prop :=
 ∃ m, e = .returned (.tuple #[.bool m, .int .i64 c]) ∧ (c = 0 → m = mv ∧ ∃ (u3 u4 u5 u6 : Value), Box 0 #[.int .i64 z.now, .int .i64 z.events, .int .i64 z.chain.epoch, u3, u4, u5, u6] 36 W' g ∧ WOwn W' lo g [.int .i64 z.now, .int .i64 z.events, .int .i64 z.chain.epoch, u3, u4, u5, u6] z) ∧ Ext (fun q => lo ≤ q) W W'
theorem own_netR_partsS {w : World} {cs : List Value} {r : DNetResult} {lo hi : Nat} (h : Lay.tNetResult.OwnIn w cs r lo hi) : ∃ (a : Option Addr) (m d : Nat), cs = [.int .i64 r.code, .slice a m d] ∧ (Lay.sl Lay.tMsg).OwnIn w [.slice a m d] r.msgs lo hi := by
 obtain ⟨bl, O, hb⟩ := h
 obtain ⟨a, d, g, rfl, rfl, Om, -⟩ := own_NetResult O
 exact ⟨a, _, d, rfl, ⟨_, Om, hb⟩⟩
theorem postMsgC (g lo : Nat) (v3 v4 v5 v6 : Value) (y : DWorld) (m : DMsg) (ms : List Value) (W : World) (hg : Box 0 #[.int .i64 y.now, .int .i64 y.events, .int .i64 y.chain.epoch, v3, v4, v5, v6] 36 W g) (hlo : lo ≤ g) (hO : WOwn W lo g [.int .i64 y.now, .int .i64 y.events, .int .i64 y.chain.epoch, v3, v4, v5, v6] y) (hm : Lay.tMsg.Reads W ms m) :
  Calls Tryz.prog 142 #[.pointer (some ⟨g, 0, none⟩), .agg ms.toArray] W fun e W' => ∃ mm u5, e = .returned (.tuple #[.bool mm, .int .i64 (sendR y.msgs m).code]) ∧ Box 0 #[.int .i64 y.now, .int .i64 y.events, .int .i64 y.chain.epoch, v3, v4, u5, v6] 36 W' g ∧ ((sendR y.msgs m).code = 0 → mm = true ∧ WOwn W' lo g [.int .i64 y.now, .int .i64 y.events, .int .i64 y.chain.epoch, v3, v4, u5, v6] (withMsgs y (sendR y.msgs m).msgs)) ∧ Ext (fun q => q = g) W W' := by
 obtain ⟨av, dv, rfl, -⟩ := open_Msg hm
 obtain ⟨_, _, _, _, a5o, d5o, _, _, hq, -, -, RM, -⟩ := open_World hO.reads
 simp only [List.cons.injEq, and_true, true_and] at hq
 obtain ⟨-, -, rfl, -⟩ := hq
 have nb : Below W.heap.size W (W.alloc (.cells #[.int .i64 m.kind, .int .i64 m.epoch, .int .i64 m.src, .int .i64 m.dst, .int .i64 m.index, .int .i64 m.write.kind, .int .i64 m.write.id, .slice av m.write.vec.length dv, .int .i64 m.write.session, .int .i64 m.write.seq] 89)) := (Below.refl _ _).alloc (Nat.le_refl _) _
 have HMB : Hid (Box 0 #[.int .i64 m.kind, .int .i64 m.epoch, .int .i64 m.src, .int .i64 m.dst, .int .i64 m.index, .int .i64 m.write.kind, .int .i64 m.write.id, .slice av m.write.vec.length dv, .int .i64 m.write.session, .int .i64 m.write.seq] 89 (W.alloc (.cells #[.int .i64 m.kind, .int .i64 m.epoch, .int .i64 m.src, .int .i64 m.dst, .int .i64 m.index, .int .i64 m.write.kind, .int .i64 m.write.id, .slice av m.write.vec.length dv, .int .i64 m.write.session, .int .i64 m.write.seq] 89)) W.heap.size) := newBox (Nat.zero_le _)
 have g5c := Box.at (hg.keep nb) 5 _ rfl
 simp only [ga, gb, gc] at g5c
 have hgl := (hg.keep nb).lt
 have hgW := hg.lt
 have HM := yh (RM.later nb)
 have HMM := yh (hm.later nb)
 have HG0 := yh (hg.keep nb)
 have HO := yh (hO.later nb)
 have HX0 : Hid (Ext (fun q => q = g) W (W.alloc (.cells #[.int .i64 m.kind, .int .i64 m.epoch, .int .i64 m.src, .int .i64 m.dst, .int .i64 m.index, .int .i64 m.write.kind, .int .i64 m.write.id, .slice av m.write.vec.length dv, .int .i64 m.write.session, .int .i64 m.write.seq] 89))) := yh (ext_of_below nb _)
 have hzW : W.heap.size ≤ (W.alloc (.cells #[.int .i64 m.kind, .int .i64 m.epoch, .int .i64 m.src, .int .i64 m.dst, .int .i64 m.index, .int .i64 m.write.kind, .int .i64 m.write.id, .slice av m.write.vec.length dv, .int .i64 m.write.session, .int .i64 m.write.seq] 89)).heap.size := nb.size
 clear nb hg hO RM hm
 go_enter Tryz.func142, Tryz.ntmps142
 go_upto_region 1 with fail
 generalize W.alloc (.cells #[.int .i64 m.kind, .int .i64 m.epoch, .int .i64 m.src, .int .i64 m.dst, .int .i64 m.index, .int .i64 m.write.kind, .int .i64 m.write.id, .slice av m.write.vec.length dv, .int .i64 m.write.session, .int .i64 m.write.seq] 89) = W1 at *
 go_cut [6] from 7 to 12 (fun s5 wx => ∃ (wz : World) (g5 : Nat), ∃ a5, ∃ m5, ∃ d5, wz = wx ∧ s5 = .pointer (some ⟨g5, 0, none⟩) ∧ Box 0 #[.int .i64 (sendR y.msgs m).code, .slice a5 m5 d5] 235 wz g5 ∧ (Lay.sl Lay.tMsg).OwnIn wz [.slice a5 m5 d5] (sendR y.msgs m).msgs W1.heap.size wz.heap.size ∧ W1.heap.size ≤ g5 ∧ Below W1.heap.size W1 wz)
 case first =>
  have HDS : W1.heap.size ≤ W1.drew.heap.size := Nat.le_refl _
  refine wp_region_noPanic ?_
  refine wp_region_held_drew (S := fun w' => Below W1.heap.size W1 w') (by kernel_rfl) ((Below.refl _ _).drew) (fun zq => ?_)
  generalize W1.drew = wD at zq HDS ⊢
  refine tkH 0 zq ?_
  refine tkH 1 zq ?_
  refine tkH 2 zq ?_
  refine tkJ 3 (v := ?vk3_4) ?hk3_4 zq ?rk3_4
  case hk3_4 =>
   intro wS hSw
   have q5 := (hSw.cell (p := ⟨g, 5, none⟩) hgl).trans g5c
   clear hSw
   (try dsimp only at hSw)
   go_simp
   try with_reducible rfl
  refine tkJ 4 (v := ?vk4_5) ?hk4_5 zq ?rk4_5
  case hk4_5 =>
   intro wS hSw
   have bS := (uh HMB).keep hSw
   have q0 := Box.at bS 0 _ rfl
   have q1 := Box.at bS 1 _ rfl
   have q2 := Box.at bS 2 _ rfl
   have q3 := Box.at bS 3 _ rfl
   have q4 := Box.at bS 4 _ rfl
   have q5 := Box.at bS 5 _ rfl
   have q6 := Box.at bS 6 _ rfl
   have q7 := Box.at bS 7 _ rfl
   have q8 := Box.at bS 8 _ rfl
   have q9 := Box.at bS 9 _ rfl
   simp only [ga, gb, gc] at q0 q1 q2 q3 q4 q5 q6 q7 q8 q9
   clear bS hSw
   (try dsimp only at hSw)
   go_simp
   try with_reducible rfl
  refine wpAnyH_ready (rs := [5, 6]) (by kernel_rfl) (by simp) ?_
  refine AllReadyH.cons (o := ⟨some 12, .call { callee := .value (.func 218), args := #[.tmp 10, .tmp 11], argTypes := #[33, 89] }, 235, "l12_world.go:229", #[⟨3, .data⟩, ⟨4, .data⟩], none⟩) rfl (fun K hK => ?ok5_6) (AllReadyH.cons (o := ⟨some 6, .alloc 235, 0, "l12_world.go:229", #[], none⟩) rfl (fun K hK => ?ok6_6) (AllReadyH.nil))
  case ok5_6 =>
   go_simp
   go_at_call 218
   refine (implSendMsg _ y.msgs _ m _ ((uh HM).later zq) ((uh HMM).later zq)).mono ?_
   rintro e u ⟨us, rfl, O0, hbu⟩
   obtain ⟨a5, m5, d5, rfl, O⟩ := own_netR_partsS O0
   have hzu := hbu.size
   try go_wp2_with fail
   refine hK.out _ _ (zq.trans (hbu.mono zq.size)) (fun zq => ?_)
   clear hK K
   try simp only [Act.put, pz, py, px]
   refine rdH 6 (fun K hK => ?_)
   have hHA := zq
   go_simp
   refine hK.out _ _ (zq.alloc zq.size _) (fun zq => ?_)
   clear hK K
   try simp only [Act.put, pz, py, px]
   refine rdH 7 (fun K hK => ?_)
   go_simp
   refine hK.out _ _ (hHA.alloc hHA.size _) (fun zq => ?_)
   clear hK K
   try simp only [Act.put, pz, py, px]
   refine wpAnyH_done (by kernel_rfl) ?_ _
   refine NoPanic.normal ?_
   go_wp2_with fail
   go_meet
   have nb2 : Below u.heap.size u (u.alloc (.cells #[.int .i64 (sendR y.msgs m).code, .slice a5 m5 d5] 235)) := (Below.refl _ _).alloc (Nat.le_refl _) _
   have hzn : u.heap.size < (u.alloc (.cells #[.int .i64 (sendR y.msgs m).code, .slice a5 m5 d5] 235)).heap.size := by simp
   have hzz := hHA.size
   have OO := (show (Lay.sl Lay.tMsg).OwnIn (u.alloc (.cells #[.int .i64 (sendR y.msgs m).code, .slice a5 m5 d5] 235)) [.slice a5 m5 d5] (sendR y.msgs m).msgs W1.heap.size (u.alloc (.cells #[.int .i64 (sendR y.msgs m).code, .slice a5 m5 d5] 235)).heap.size from ((O.later nb2).mono (by omega) (by omega)))
   exact ⟨_, u.heap.size, a5, m5, d5, rfl, rfl, newBox (Nat.zero_le _), OO, by omega, zq⟩
  case ok6_6 =>
   have HG : Hid (Box 0 #[.int .i64 0, .slice none 0 0] 235 (wD.alloc (.cells #[.int .i64 0, .slice none 0 0] 235)) wD.heap.size) := newBox (Nat.zero_le _)
   have hza : wD.heap.size < (wD.alloc (.cells #[.int .i64 0, .slice none 0 0] 235)).heap.size := by simp
   go_simp
   refine hK.out _ _ (zq.alloc zq.size _) (fun zq => ?_)
   clear hK K
   try simp only [Act.put, pz, py, px]
   refine rdH 5 (fun K hK => ?_)
   go_simp
   go_at_call 218
   refine (implSendMsg _ y.msgs _ m _ ((uh HM).later zq) ((uh HMM).later zq)).mono ?_
   rintro e u ⟨us, rfl, O0, hbu⟩
   obtain ⟨a5, m5, d5, rfl, O⟩ := own_netR_partsS O0
   have hG := (uh HG).keep hbu
   have hzu := hbu.size
   try go_wp2_with fail
   refine hK.out _ _ (zq.trans (hbu.mono zq.size)) (fun zq => ?_)
   clear hK K
   try simp only [Act.put, pz, py, px]
   refine rdH 7 (fun K hK => ?_)
   have r0 := Box.at hG 0 _ rfl
   have r1 := Box.at hG 1 _ rfl
   simp only [ga, gb, gc] at r0 r1
   have rf := Box.soft hG
   have rl := hG.lt
   have hzD := zq.size
   go_simp
   refine hK.out _ _ (Below.setCell (Below.setCell zq (p := ⟨wD.heap.size, 0, none⟩) (by simp only []; omega) (.int .i64 (sendR y.msgs m).code)) (p := ⟨wD.heap.size, 1, none⟩) (by simp only []; omega) (.slice a5 m5 d5)) (fun zq => ?_)
   clear hK K
   try simp only [Act.put, pz, py, px]
   refine wpAnyH_done (by kernel_rfl) ?_ _
   refine NoPanic.normal ?_
   go_wp2_with fail
   go_meet
   have e1 : Ext (fun q => q = wD.heap.size) u (setAll u wD.heap.size 0 [.int .i64 (sendR y.msgs m).code, .slice a5 m5 d5]) := ext_setAll _ (Ext.refl _ _) _ _ _ rfl
   have hss : (setAll u wD.heap.size 0 [.int .i64 (sendR y.msgs m).code, .slice a5 m5 d5]).heap.size = u.heap.size := size_setAll _ _ _ _
   have hbx := (Box.set (Box.set hG 0 (.int .i64 (sendR y.msgs m).code)) 1 (.slice a5 m5 d5))
   simp only [List.setIfInBounds_toArray, List.set_cons_zero, List.set_cons_succ] at hbx
   have OO := (show (Lay.sl Lay.tMsg).OwnIn (setAll u wD.heap.size 0 [.int .i64 (sendR y.msgs m).code, .slice a5 m5 d5]) [.slice a5 m5 d5] (sendR y.msgs m).msgs W1.heap.size (setAll u wD.heap.size 0 [.int .i64 (sendR y.msgs m).code, .slice a5 m5 d5]).heap.size from ((O.ext e1 (fun k h1 h2 h3 => by omega)).mono (by omega) (by omega)))
   exact ⟨_, wD.heap.size, a5, m5, d5, rfl, rfl, hbx, OO, by omega, zq⟩
 case rest =>
  obtain ⟨WC, g5, a5, m5, d5, hW, rfl, hg5, hO5, hz5, hB5⟩ := hcut
  subst hW
  have hgC := (uh HG0).keep hB5
  have hOC := wown_msgs (uh HO) hB5 hgl (by omega) hO5 (Nat.le_refl _)
  have HGC := yh hgC
  have HOC := yh hOC
  have HB5 := yh hB5
  have e0 := Box.at hg5 0 _ rfl
  have e1 := Box.at hg5 1 _ rfl
  simp only [ga, gb, gc] at e0 e1
  have hg5l := hg5.lt
  clear hgC hOC hO5 HO HG0 HM g5c HMM HMB
  by_cases hc : (sendR y.msgs m).code = 0
  ·
   have HC := yh hc
   rw [hc] at e0
   have k5 := Box.at (uh HGC) 5 _ rfl
   simp only [ga, gb, gc] at k5
   have kl := (uh HGC).lt
   have kf := Box.soft (uh HGC)
   have hg9 := Box.set (uh HGC) 5 (.slice a5 m5 d5)
   simp only [List.setIfInBounds_toArray, List.set_cons_zero, List.set_cons_succ] at hg9
   have e9 : Ext (fun q => q = g) WC (WC.setCell ⟨g, 5, none⟩ (.slice a5 m5 d5)) := (Ext.refl _ _).setCell _ _ rfl
   have hO9 := (uh HOC).ext e9 (fun k h1 h2 h3 => h3)
   have HG9 := yh hg9
   have HO9 := yh hO9
   have HE9 := yh ((((uh HX0).trans (ext_of_below (uh HB5) _)).trans e9) : Ext (fun q => q = g) W (WC.setCell ⟨g, 5, none⟩ (.slice a5 m5 d5)))
   clear hg9 e9 hO9 HGC HOC HB5 hg5 hB5 hc
   go_wp2_with fail
   go_ret2
   exact ⟨true, _, by rw [uh HC]; rfl, uh HG9, fun _ => ⟨rfl, uh HO9⟩, uh HE9⟩
  have hd : ((sendR y.msgs m).code != 0) = true := by simpa using hc
  have HC := yh hc
  have HE9 := yh ((uh HX0).trans (ext_of_below (uh HB5) _) : Ext (fun q => q = g) W WC)
  clear HOC HB5 hg5 hB5 hc
  go_upto_region 3 with fail
  go_quiet (fail)
  go_wp2_with fail
  go_ret2
  exact ⟨false, _, rfl, (uh HGC).drew, fun h0 => absurd h0 (uh HC), (uh HE9).drew _⟩
theorem besideR_wf {x : DChain} (h : ∀ z ∈ x.ids, (Lit.int .i64 z).wf = true) (id dd : Int) : (Lit.int .i64 (besideR x id dd).code).wf = true ∧ (Lit.int .i64 (besideR x id dd).value).wf = true := by
 unfold besideR
 split
 ·
  split
  ·
   exact ⟨by decide, by decide⟩
  split
  ·
   exact ⟨by decide, by decide⟩
  refine ⟨by show (Lit.int .i64 0).wf = true; decide, ?_⟩
  show (Lit.int .i64 (nextC x.ids id dd)).wf = true
  unfold nextC
  split
  ·
   decide
  rw [List.getD]
  cases hg : x.ids[(placeC x.ids id + dd).toNat]? with
  | none => simp; decide
  | some z => exact h z (List.mem_of_getElem? hg)
 exact ⟨wf_of_bd (chainFault_bd x), by show (Lit.int .i64 0).wf = true; decide⟩
theorem besideR_none {x : DChain} {id dd : Int} (hf : chainFault x = 0) (h : placeC x.ids id < 0) : besideR x id dd = ⟨4, 0⟩ := by rw [besideR, if_pos hf, if_pos h]
theorem besideR_end {x : DChain} {id dd : Int} (hf : chainFault x = 0) (h : 0 ≤ placeC x.ids id) (h2 : placeC x.ids id + dd < 0 ∨ (x.ids.length : Int) ≤ placeC x.ids id + dd) : besideR x id dd = ⟨8, 0⟩ := by
 rw [besideR, if_pos hf, if_neg (by omega), if_pos]
 rw [nextC, if_pos (Or.inr h2)]
theorem besideR_at {x : DChain} {id dd : Int} (hf : chainFault x = 0) (h : 0 ≤ placeC x.ids id) {m : Nat} (hm : placeC x.ids id + dd = (m : Int)) (hl : m < x.ids.length) : besideR x id dd = ⟨0, x.ids[m]⟩ := by
 have e : nextC x.ids id dd = x.ids[m] := by
  rw [nextC, if_neg (by omega), hm]
  simp [List.getD, hl]
 have hz := (chainFault_zero hf).ids x.ids[m] (List.getElem_mem hl)
 rw [besideR, if_pos hf, if_neg (by omega), if_neg (by rw [e]; omega), e]
theorem beside1C (b bs : Nat) (a : Option Addr) (d : Nat) (x : DChain) (id dd : Int) (w : World) (hX : ChainAt w b (.slice a x.ids.length d) x) (hS : Box 0 #[.int .i64 dd] 3 w bs) (R : (Lay.sl Lay.int).Reads w [.slice a x.ids.length d] x.ids) (hf : chainFault x = 0) (hd : -1 ≤ dd ∧ dd ≤ 1) :
  Calls Tryz.prog 274 #[.int .i64 id, .pointer (some ⟨b, 0, none⟩), .pointer (some ⟨bs, 0, none⟩)] w fun e w' => e = .returned (.agg #[.int .i64 (besideR x id dd).code, .int .i64 (besideR x id dd).value]) ∧ Below w.heap.size w w' := by
 have HB : Hid (Below w.heap.size w (w.alloc (.cells #[.int .i64 0, .int .i64 0] 49))) := (Below.refl _ _).alloc (Nat.le_refl _) _
 have HR : Hid (Box 0 #[.int .i64 0, .int .i64 0] 49 (w.alloc (.cells #[.int .i64 0, .int .i64 0] 49)) w.heap.size) := newBox (Nat.zero_le _)
 have HX := yh (hX.keep (uh HB))
 have HS := yh (hS.keep (uh HB))
 have H := yh (R.later (uh HB))
 have hxb := hX.lt
 have hsb := hS.lt
 have hlen := (chainFault_zero hf).len
 have HP := yh (indexI _ x.ids id _ (uh H))
 have HN := yh (besideR_none (id := id) (dd := dd) hf)
 have HE := yh (besideR_end (id := id) (dd := dd) hf)
 have HA := yh (fun h m hm hl => besideR_at (id := id) (dd := dd) hf h (m := m) hm hl)
 clear hX hS R hf
 go_enter Tryz.func274, Tryz.ntmps274
 have x1 : (w.alloc (.cells #[.int .i64 0, .int .i64 0] 49)).cell? ⟨b, 1, none⟩ = some (.slice a x.ids.length d) := (uh HX).at 1 _ rfl
 have s0 : (w.alloc (.cells #[.int .i64 0, .int .i64 0] 49)).cell? ⟨bs, 0, none⟩ = some (.int .i64 dd) := (uh HS).at 0 _ rfl
 have z0 : (w.alloc (.cells #[.int .i64 0, .int .i64 0] 49)).cell? ⟨w.heap.size, 0, none⟩ = some (.int .i64 0) := (uh HR).at 0 _ rfl
 have z1 : (w.alloc (.cells #[.int .i64 0, .int .i64 0] 49)).cell? ⟨w.heap.size, 1, none⟩ = some (.int .i64 0) := (uh HR).at 1 _ rfl
 have ff := (uh HR).soft
 have l0 := (uh HR).lt
 go_wp2_with fail
 generalize w.alloc (.cells #[.int .i64 0, .int .i64 0] 49) = W at *
 refine (uh HP).mono ?_
 rintro e w1 ⟨rfl, h1⟩
 subst w1
 clear HP
 have hb := placeC_bd x.ids id
 generalize placeC x.ids id = p at *
 have HB1 := yh (fun vs => below_setAll (uh HB) w.heap.size 0 vs (Nat.le_refl _))
 clear HB HR HX HS
 by_cases h0 : p < 0
 ·
  have HF := yh (uh HN h0)
  have hd0 : decide (p < 0) = true := by simpa using h0
  clear HN HE HA
  go_wp2_with fail
  refine bodyPost_ret (v := .agg #[.int .i64 4, .int .i64 0]) (by simp [results, Tryz.results274, go_sem, z0, z1]) rfl ?_
  exact ⟨by rw [uh HF], uh HB1 [_, _]⟩
 have hd0 : decide (p < 0) = false := by simpa using h0
 by_cases h1 : p + dd < 0
 ·
  have HF := yh (uh HE (by omega) (Or.inl h1))
  have hd1 : decide (p + dd < 0) = true := by simpa using h1
  clear HN HE HA
  go_wp2_with fail
  refine bodyPost_ret (v := .agg #[.int .i64 8, .int .i64 0]) (by simp [results, Tryz.results274, go_sem, z0, z1]) rfl ?_
  exact ⟨by rw [uh HF], uh HB1 [_, _]⟩
 have hd1 : decide (p + dd < 0) = false := by simpa using h1
 by_cases h2 : (x.ids.length : Int) ≤ p + dd
 ·
  have HF := yh (uh HE (by omega) (Or.inr h2))
  have hd2 : decide ((x.ids.length : Int) ≤ p + dd) = true := by simpa using h2
  clear HN HE HA
  go_wp2_with fail
  refine bodyPost_ret (v := .agg #[.int .i64 8, .int .i64 0]) (by simp [results, Tryz.results274, go_sem, z0, z1]) rfl ?_
  exact ⟨by rw [uh HF], uh HB1 [_, _]⟩
 have hd2 : decide ((x.ids.length : Int) ≤ p + dd) = false := by simp; omega
 obtain ⟨m, hm⟩ : ∃ m : Nat, p + dd = (m : Int) := ⟨(p + dd).toNat, by omega⟩
 have hml : m < x.ids.length := by omega
 have HF := yh (uh HA (by omega) m hm hml)
 obtain ⟨b2, off, rfl, -⟩ := Lay.sl_addr (uh H) (by omega)
 have c1 := int_cell (uh H) hml
 clear HN HE HA
 generalize x.ids[m] = z at *
 rw [hm] at hd1 hd2
 go_wp2_with fail
 refine bodyPost_ret (v := .agg #[.int .i64 0, .int .i64 z]) (by simp [results, Tryz.results274, go_sem, z0, z1]) rfl ?_
 exact ⟨by rw [uh HF], uh HB1 [_, _]⟩
theorem besideInC (a : Option Addr) (d : Nat) (x : DChain) (dd : Int) (w : World) :
  Calls Tryz.prog 217 #[.agg #[.int .i64 x.epoch, .slice a x.ids.length d], .int .i64 dd] w fun e w' => ∃ b bs, e = .returned (.func (.func 274) #[] #[.pointer (some ⟨b, 0, none⟩), .pointer (some ⟨bs, 0, none⟩)]) ∧ ChainAt w' b (.slice a x.ids.length d) x ∧ Box 0 #[.int .i64 dd] 3 w' bs ∧ Below w.heap.size w w' := by
 have HB : Hid (Below w.heap.size w ((w.alloc (.cells #[.int .i64 x.epoch, .slice a x.ids.length d] 31)).alloc (.cells #[.int .i64 dd] 3))) := ((Below.refl _ _).alloc (Nat.le_refl _) _).alloc (by simp) _
 have HX : Hid (ChainAt ((w.alloc (.cells #[.int .i64 x.epoch, .slice a x.ids.length d] 31)).alloc (.cells #[.int .i64 dd] 3)) w.heap.size (.slice a x.ids.length d) x) := (newBox (Nat.zero_le _)).grow _
 have HS : Hid (Box 0 #[.int .i64 dd] 3 ((w.alloc (.cells #[.int .i64 x.epoch, .slice a x.ids.length d] 31)).alloc (.cells #[.int .i64 dd] 3)) (w.heap.size + 1)) := newBoxAt (Nat.zero_le _) (by simp)
 go_enter Tryz.func217, Tryz.ntmps217
 go_wp2_with fail
 go_ret
 exact ⟨_, _, rfl, uh HX, uh HS, uh HB⟩
theorem implNextIn (cs : List Value) (x : DChain) (id : Int) (w : World) (h : Lay.tChain.Reads w cs x) :
  Calls Tryz.prog 141 #[.agg cs.toArray, .int .i64 id] w fun e w' => ∃ cs, e = .returned (.agg cs.toArray) ∧ Lay.tIntResult.OwnIn w' cs (besideR x id 1) w.heap.size w'.heap.size ∧ Below w.heap.size w w' := by
 obtain ⟨a, d, rfl, R⟩ := open_Chain h
 have nb : Below w.heap.size w ((w.alloc (.cells #[.int .i64 x.epoch, .slice a x.ids.length d] 31)).alloc (.cells #[.int .i64 0, .int .i64 0] 49)) := ((Below.refl _ _).alloc (Nat.le_refl _) _).alloc (by simp) _
 have hX : ChainAt ((w.alloc (.cells #[.int .i64 x.epoch, .slice a x.ids.length d] 31)).alloc (.cells #[.int .i64 0, .int .i64 0] 49)) w.heap.size (.slice a x.ids.length d) x := (newBox (Nat.zero_le _)).grow _
 have bR : Box 0 #[.int .i64 0, .int .i64 0] 49 ((w.alloc (.cells #[.int .i64 x.epoch, .slice a x.ids.length d] 31)).alloc (.cells #[.int .i64 0, .int .i64 0] 49)) (w.heap.size + 1) := newBoxAt (Nat.zero_le _) (by simp)
 have HL := yh (implChainFault _ x _ (h.later nb))
 have HW : Hid ((Lit.int .i64 (besideR x id 1).code).wf = true ∧ (Lit.int .i64 (besideR x id 1).value).wf = true) := besideR_wf (int_wf R) id 1
 have HRd := yh (R.later nb)
 have HB := yh nb
 have HR := yh bR
 have HX := yh hX
 have x0 : ((w.alloc (.cells #[.int .i64 x.epoch, .slice a x.ids.length d] 31)).alloc (.cells #[.int .i64 0, .int .i64 0] 49)).cell? ⟨w.heap.size, 0, none⟩ = some (.int .i64 x.epoch) := hX.at 0 _ rfl
 have x1 : ((w.alloc (.cells #[.int .i64 x.epoch, .slice a x.ids.length d] 31)).alloc (.cells #[.int .i64 0, .int .i64 0] 49)).cell? ⟨w.heap.size, 1, none⟩ = some (.slice a x.ids.length d) := hX.at 1 _ rfl
 clear h R nb hX bR
 go_enter Tryz.func141, Tryz.ntmps141
 go_wp2_with fail
 generalize (w.alloc (.cells #[.int .i64 x.epoch, .slice a x.ids.length d] 31)).alloc (.cells #[.int .i64 0, .int .i64 0] 49) = W at *
 refine (uh HL).mono ?_
 rintro e w1 ⟨rfl, hb⟩
 replace HX := yh ((uh HX).keep hb)
 replace HR := yh ((uh HR).keep hb)
 replace HRd := yh ((uh HRd).later hb)
 replace HB := yh ((uh HB).trans (hb.mono (uh HB).size))
 clear HL hb x0 x1
 have x0 : w1.cell? ⟨w.heap.size, 0, none⟩ = some (.int .i64 x.epoch) := (uh HX).at 0 _ rfl
 have x1 : w1.cell? ⟨w.heap.size, 1, none⟩ = some (.slice a x.ids.length d) := (uh HX).at 1 _ rfl
 have xl := (uh HX).lt
 by_cases hf : chainFault x = 0
 ·
  rw [hf]
  have HO : Hid (∀ W', Lay.tIntResult.OwnIn W' [.int .i64 (besideR x id 1).code, .int .i64 (besideR x id 1).value] (besideR x id 1) w.heap.size W'.heap.size) := fun W' => own_intRC (uh HW).1 (uh HW).2
  have HK : Hid (∀ (b bs : Nat) W', ChainAt W' b (.slice a x.ids.length d) x → Box 0 #[.int .i64 1] 3 W' bs → (Lay.sl Lay.int).Reads W' [.slice a x.ids.length d] x.ids → Calls Tryz.prog 274 #[.int .i64 id, .pointer (some ⟨b, 0, none⟩), .pointer (some ⟨bs, 0, none⟩)] W' fun e w' => e = .returned (.agg #[.int .i64 (besideR x id 1).code, .int .i64 (besideR x id 1).value]) ∧ Below W'.heap.size W' w') := fun b bs W' q1 q2 q3 => beside1C b bs a d x id 1 W' q1 q2 q3 hf (by omega)
  generalize (besideR x id 1).code = yc at *
  generalize (besideR x id 1).value = yv at *
  clear hf HW
  go_wp2_with fail
  refine (besideInC a d x 1 w1).mono ?_
  rintro e w2 ⟨b, bs, rfl, hX2, hS2, hb⟩
  have HX2 := yh hX2
  have HS2 := yh hS2
  replace HR := yh ((uh HR).keep hb)
  replace HRd := yh ((uh HRd).later hb)
  replace HB := yh ((uh HB).trans (hb.mono (uh HB).size))
  clear hX2 hS2 hb x0 x1 xl HX
  go_wp2_with fail
  refine (uh HK b bs w2 (uh HX2) (uh HS2) (uh HRd)).mono ?_
  rintro e w3 ⟨rfl, hb⟩
  have bR := (uh HR).keep hb
  have z0 : w3.cell? ⟨w.heap.size + 1, 0, none⟩ = some (.int .i64 0) := bR.at 0 _ rfl
  have z1 : w3.cell? ⟨w.heap.size + 1, 1, none⟩ = some (.int .i64 0) := bR.at 1 _ rfl
  have ff := bR.soft
  have l0 := bR.lt
  have HB2 := yh (below_setAll ((uh HB).trans (hb.mono (uh HB).size)) (w.heap.size + 1) 0 [.int .i64 yc, .int .i64 yv] (by omega))
  clear HB HR bR hb HX2 HS2 HRd HK
  go_wp2_with fail
  refine bodyPost_ret (v := .agg #[.int .i64 yc, .int .i64 yv]) (by simp [results, Tryz.results141, go_sem, z0, z1]) rfl ?_
  exact ⟨_, rfl, uh HO _, uh HB2⟩
 have HV := yh (besideR_bad (id := id) (d := 1) hf)
 have hd : (chainFault x != 0) = true := by simpa using hf
 have HC := yh (chainFault_bd x)
 have z0 : w1.cell? ⟨w.heap.size + 1, 0, none⟩ = some (.int .i64 0) := (uh HR).at 0 _ rfl
 have z1 : w1.cell? ⟨w.heap.size + 1, 1, none⟩ = some (.int .i64 0) := (uh HR).at 1 _ rfl
 have ff := (uh HR).soft
 have l0 := (uh HR).lt
 generalize chainFault x = c at *
 have HB2 := yh (below_setAll (uh HB) (w.heap.size + 1) 0 [.int .i64 c, .int .i64 0] (by omega))
 clear HB HR HX HRd hf HW
 go_wp2_with fail
 refine bodyPost_ret (v := .agg #[.int .i64 c, .int .i64 0]) (by simp [results, Tryz.results141, go_sem, z0, z1]) rfl ?_
 rw [uh HV]
 exact ⟨[_, _], rfl, own_intRC (wf_of_bd (uh HC)) (by decide), uh HB2⟩
theorem implPrevIn (cs : List Value) (x : DChain) (id : Int) (w : World) (h : Lay.tChain.Reads w cs x) :
  Calls Tryz.prog 152 #[.agg cs.toArray, .int .i64 id] w fun e w' => ∃ cs, e = .returned (.agg cs.toArray) ∧ Lay.tIntResult.OwnIn w' cs (besideR x id (-1)) w.heap.size w'.heap.size ∧ Below w.heap.size w w' := by
 obtain ⟨a, d, rfl, R⟩ := open_Chain h
 have nb : Below w.heap.size w ((w.alloc (.cells #[.int .i64 x.epoch, .slice a x.ids.length d] 31)).alloc (.cells #[.int .i64 0, .int .i64 0] 49)) := ((Below.refl _ _).alloc (Nat.le_refl _) _).alloc (by simp) _
 have hX : ChainAt ((w.alloc (.cells #[.int .i64 x.epoch, .slice a x.ids.length d] 31)).alloc (.cells #[.int .i64 0, .int .i64 0] 49)) w.heap.size (.slice a x.ids.length d) x := (newBox (Nat.zero_le _)).grow _
 have bR : Box 0 #[.int .i64 0, .int .i64 0] 49 ((w.alloc (.cells #[.int .i64 x.epoch, .slice a x.ids.length d] 31)).alloc (.cells #[.int .i64 0, .int .i64 0] 49)) (w.heap.size + 1) := newBoxAt (Nat.zero_le _) (by simp)
 have HL := yh (implChainFault _ x _ (h.later nb))
 have HW : Hid ((Lit.int .i64 (besideR x id (-1)).code).wf = true ∧ (Lit.int .i64 (besideR x id (-1)).value).wf = true) := besideR_wf (int_wf R) id (-1)
 have HRd := yh (R.later nb)
 have HB := yh nb
 have HR := yh bR
 have HX := yh hX
 have x0 : ((w.alloc (.cells #[.int .i64 x.epoch, .slice a x.ids.length d] 31)).alloc (.cells #[.int .i64 0, .int .i64 0] 49)).cell? ⟨w.heap.size, 0, none⟩ = some (.int .i64 x.epoch) := hX.at 0 _ rfl
 have x1 : ((w.alloc (.cells #[.int .i64 x.epoch, .slice a x.ids.length d] 31)).alloc (.cells #[.int .i64 0, .int .i64 0] 49)).cell? ⟨w.heap.size, 1, none⟩ = some (.slice a x.ids.length d) := hX.at 1 _ rfl
 clear h R nb hX bR
 go_enter Tryz.func152, Tryz.ntmps152
 go_wp2_with fail
 generalize (w.alloc (.cells #[.int .i64 x.epoch, .slice a x.ids.length d] 31)).alloc (.cells #[.int .i64 0, .int .i64 0] 49) = W at *
 refine (uh HL).mono ?_
 rintro e w1 ⟨rfl, hb⟩
 replace HX := yh ((uh HX).keep hb)
 replace HR := yh ((uh HR).keep hb)
 replace HRd := yh ((uh HRd).later hb)
 replace HB := yh ((uh HB).trans (hb.mono (uh HB).size))
 clear HL hb x0 x1
 have x0 : w1.cell? ⟨w.heap.size, 0, none⟩ = some (.int .i64 x.epoch) := (uh HX).at 0 _ rfl
 have x1 : w1.cell? ⟨w.heap.size, 1, none⟩ = some (.slice a x.ids.length d) := (uh HX).at 1 _ rfl
 have xl := (uh HX).lt
 by_cases hf : chainFault x = 0
 ·
  rw [hf]
  have HO : Hid (∀ W', Lay.tIntResult.OwnIn W' [.int .i64 (besideR x id (-1)).code, .int .i64 (besideR x id (-1)).value] (besideR x id (-1)) w.heap.size W'.heap.size) := fun W' => own_intRC (uh HW).1 (uh HW).2
  have HK : Hid (∀ (b bs : Nat) W', ChainAt W' b (.slice a x.ids.length d) x → Box 0 #[.int .i64 (-1)] 3 W' bs → (Lay.sl Lay.int).Reads W' [.slice a x.ids.length d] x.ids → Calls Tryz.prog 274 #[.int .i64 id, .pointer (some ⟨b, 0, none⟩), .pointer (some ⟨bs, 0, none⟩)] W' fun e w' => e = .returned (.agg #[.int .i64 (besideR x id (-1)).code, .int .i64 (besideR x id (-1)).value]) ∧ Below W'.heap.size W' w') := fun b bs W' q1 q2 q3 => beside1C b bs a d x id (-1) W' q1 q2 q3 hf (by omega)
  generalize (besideR x id (-1)).code = yc at *
  generalize (besideR x id (-1)).value = yv at *
  clear hf HW
  go_wp2_with fail
  refine (besideInC a d x (-1) w1).mono ?_
  rintro e w2 ⟨b, bs, rfl, hX2, hS2, hb⟩
  have HX2 := yh hX2
  have HS2 := yh hS2
  replace HR := yh ((uh HR).keep hb)
  replace HRd := yh ((uh HRd).later hb)
  replace HB := yh ((uh HB).trans (hb.mono (uh HB).size))
  clear hX2 hS2 hb x0 x1 xl HX
  go_wp2_with fail
  refine (uh HK b bs w2 (uh HX2) (uh HS2) (uh HRd)).mono ?_
  rintro e w3 ⟨rfl, hb⟩
  have bR := (uh HR).keep hb
  have z0 : w3.cell? ⟨w.heap.size + 1, 0, none⟩ = some (.int .i64 0) := bR.at 0 _ rfl
  have z1 : w3.cell? ⟨w.heap.size + 1, 1, none⟩ = some (.int .i64 0) := bR.at 1 _ rfl
  have ff := bR.soft
  have l0 := bR.lt
  have HB2 := yh (below_setAll ((uh HB).trans (hb.mono (uh HB).size)) (w.heap.size + 1) 0 [.int .i64 yc, .int .i64 yv] (by omega))
  clear HB HR bR hb HX2 HS2 HRd HK
  go_wp2_with fail
  refine bodyPost_ret (v := .agg #[.int .i64 yc, .int .i64 yv]) (by simp [results, Tryz.results152, go_sem, z0, z1]) rfl ?_
  exact ⟨_, rfl, uh HO _, uh HB2⟩
 have HV := yh (besideR_bad (id := id) (d := (-1)) hf)
 have hd : (chainFault x != 0) = true := by simpa using hf
 have HC := yh (chainFault_bd x)
 have z0 : w1.cell? ⟨w.heap.size + 1, 0, none⟩ = some (.int .i64 0) := (uh HR).at 0 _ rfl
 have z1 : w1.cell? ⟨w.heap.size + 1, 1, none⟩ = some (.int .i64 0) := (uh HR).at 1 _ rfl
 have ff := (uh HR).soft
 have l0 := (uh HR).lt
 generalize chainFault x = c at *
 have HB2 := yh (below_setAll (uh HB) (w.heap.size + 1) 0 [.int .i64 c, .int .i64 0] (by omega))
 clear HB HR HX HRd hf HW
 go_wp2_with fail
 refine bodyPost_ret (v := .agg #[.int .i64 c, .int .i64 0]) (by simp [results, Tryz.results152, go_sem, z0, z1]) rfl ?_
 rw [uh HV]
 exact ⟨[_, _], rfl, own_intRC (wf_of_bd (uh HC)) (by decide), uh HB2⟩
theorem tailOfC (cs : List Value) (x : DChain) (w : World) (h : Lay.tChain.Reads w cs x) (k : Nat) (hk : x.ids.length = k + 1) (hn : x.ids.length ≤ 5) :
  Calls Tryz.prog 177 #[.agg cs.toArray] w fun e w' => e = .returned (.int .i64 (x.ids.getD k 0)) ∧ Below w.heap.size w w' := by
 obtain ⟨a3, d3, rfl, R3⟩ := open_Chain h
 have hlt : k < x.ids.length := by omega
 have hv : x.ids.getD k 0 = x.ids[k] := by simp [List.getD, hlt]
 rw [hv]
 have nb : Below w.heap.size w (w.alloc (.cells #[.int .i64 x.epoch, .slice a3 x.ids.length d3] 31)) := (Below.refl _ _).alloc (Nat.le_refl _) _
 have HX : Hid (Box 0 #[.int .i64 x.epoch, .slice a3 x.ids.length d3] 31 (w.alloc (.cells #[.int .i64 x.epoch, .slice a3 x.ids.length d3] 31)) w.heap.size) := newBox (Nat.zero_le _)
 have R := R3.later nb
 obtain ⟨b, off, rfl, hbl⟩ := Lay.sl_addr R (by omega)
 have c1 := int_cell R hlt
 have HB := yh nb
 have hw1 : IntKind.i64.wrap ((k : Int) + 1 - 1) = (k : Int) := by rw [IntKind.wrap_i64]; omega
 have hw2 : IntKind.i64.wrap (k : Int) = (k : Int) := by rw [IntKind.wrap_i64]; omega
 have hki0 : (0 : Int) ≤ (k : Int) := by omega
 have hki : (k : Int) < ((k + 1 : Nat) : Int) := by omega
 have hks : ((k + 1 : Nat) : Int) - 1 = (k : Int) := by omega
 clear hv
 generalize x.ids[k] = z at *
 have HK := yh hk
 clear nb R R3 h hlt hn hk
 go_enter Tryz.func177, Tryz.ntmps177
 go_upto_region 1 with fail
 generalize hWW : w.alloc (.cells #[.int .i64 x.epoch, .slice (some ⟨b, off, none⟩) x.ids.length d3] 31) = w1 at *
 have z1 := Box.at (uh HX) 1 _ rfl
 simp only [ga, gb, gc] at z1
 have zl := (uh HX).lt
 clear hWW HX
 have hk := uh HK
 rw [hk] at z1
 clear hk HK
 go_wp2_with fail
 go_ret
 exact ⟨rfl, uh HB⟩
def knownR (c : DChain) (n : DNode) : Int := if n.id = c.ids.getD (c.ids.length - 1) 0 then n.sure else n.clean
theorem knownC (cs ns : List Value) (c : DChain) (n : DNode) (w : World) (h : Lay.tChain.Reads w cs c) (hn : Lay.tNode.Reads w ns n) (hc : chainFault c = 0) :
  Calls Tryz.prog 153 #[.agg cs.toArray, .agg ns.toArray] w fun e w' => e = .returned (.int .i64 (knownR c n)) ∧ Below w.heap.size w w' := by
 obtain ⟨a3, d3, rfl, -⟩ := open_Chain h
 obtain ⟨an, dn, rfl, -⟩ := open_Node hn
 have nb : Below w.heap.size w ((w.alloc (.cells #[.int .i64 c.epoch, .slice a3 c.ids.length d3] 31)).alloc (.cells #[.int .i64 n.id, .bool n.up, .int .i64 n.epoch, .int .i64 n.lease, .slice an n.writes.length dn, .int .i64 n.sure, .int .i64 n.clean] 84)) := ((Below.refl _ _).alloc (Nat.le_refl _) _).alloc (by simp) _
 have HX : Hid (Box 0 #[.int .i64 c.epoch, .slice a3 c.ids.length d3] 31 ((w.alloc (.cells #[.int .i64 c.epoch, .slice a3 c.ids.length d3] 31)).alloc (.cells #[.int .i64 n.id, .bool n.up, .int .i64 n.epoch, .int .i64 n.lease, .slice an n.writes.length dn, .int .i64 n.sure, .int .i64 n.clean] 84)) w.heap.size) := (newBox (Nat.zero_le _)).grow _
 have HN : Hid (Box 0 #[.int .i64 n.id, .bool n.up, .int .i64 n.epoch, .int .i64 n.lease, .slice an n.writes.length dn, .int .i64 n.sure, .int .i64 n.clean] 84 ((w.alloc (.cells #[.int .i64 c.epoch, .slice a3 c.ids.length d3] 31)).alloc (.cells #[.int .i64 n.id, .bool n.up, .int .i64 n.epoch, .int .i64 n.lease, .slice an n.writes.length dn, .int .i64 n.sure, .int .i64 n.clean] 84)) (w.heap.size + 1)) := newBoxAt (Nat.zero_le _) (by simp)
 have HR := yh (h.later nb)
 have HB := yh nb
 obtain ⟨j, hj⟩ : ∃ j : Nat, c.ids.length = j + 1 := ⟨c.ids.length - 1, by have := (chainFault_zero hc).len; omega⟩
 have HJ := yh hj
 have HJ5 : Hid (c.ids.length ≤ 5) := yh (by have := (chainFault_zero hc).len; omega)
 generalize htv : c.ids.getD j 0 = tv
 have HTI := yh htv
 have HV : Hid (knownR c n = if n.id = tv then n.sure else n.clean) := by
  show knownR c n = _
  rw [knownR, hj]
  show (if n.id = c.ids.getD j 0 then n.sure else n.clean) = _
  rw [htv]
 clear nb h hn hj htv hc
 go_enter Tryz.func153, Tryz.ntmps153
 go_upto_region 1 with fail
 generalize ((w.alloc (.cells #[.int .i64 c.epoch, .slice a3 c.ids.length d3] 31)).alloc (.cells #[.int .i64 n.id, .bool n.up, .int .i64 n.epoch, .int .i64 n.lease, .slice an n.writes.length dn, .int .i64 n.sure, .int .i64 n.clean] 84)) = W1 at *
 refine wp_region_noPanic ?_
 refine wp_region_held_drew (S := fun w' => Below W1.heap.size W1 w') (by kernel_rfl) ((Below.refl _ _).drew) (fun zq => ?_)
 generalize W1.drew = wD at zq ⊢
 refine tkH 0 zq ?_
 refine tkJ 1 (v := ?vk1) ?hk1 zq ?rk1
 case hk1 =>
  intro wS hSw
  have bS := (uh HN).keep hSw
  have q0 := Box.at bS 0 _ rfl
  simp only [List.getElem_toArray, List.getElem_cons_zero] at q0
  clear bS hSw
  (try dsimp only at hSw)
  go_simp
  try with_reducible rfl
 refine tkJ 2 (v := ?vk2) ?hk2 zq ?rk2
 case hk2 =>
  intro wS hSw
  have bS := (uh HX).keep hSw
  have q0 := Box.at bS 0 _ rfl
  have q1 := Box.at bS 1 _ rfl
  simp only [ga, gb, gc] at q0 q1
  clear bS hSw
  (try dsimp only at hSw)
  go_simp
  try with_reducible rfl
 refine rdH 3 (fun K hK => ?_)
 go_simp
 go_at_call 177
 refine (tailOfC _ c _ ((uh HR).later zq) j (uh HJ) (uh HJ5)).mono ?_
 rintro e u ⟨rfl, hbu⟩
 rw [uh HTI]
 try go_wp2_with fail
 refine hK.out _ _ (zq.trans (hbu.mono zq.size)) (fun zq => ?_)
 clear hK K
 try simp only [Act.put, pz, py, px]
 refine tkH 4 zq ?_
 refine wpAnyH_done (by kernel_rfl) ?_ _
 refine NoPanic.normal ?_
 have HB1 := yh ((uh HB).trans (zq.mono (uh HB).size))
 have hy := (uh HN).keep zq
 have y5 := Box.at hy 5 _ rfl
 have y6 := Box.at hy 6 _ rfl
 simp only [ga, gb, gc] at y5 y6
 have yl := hy.lt
 clear hy zq hbu HN HX HR
 by_cases he : n.id = tv
 ·
  have hd : (n.id == tv) = true := by simpa using he
  go_wp2_with fail
  go_ret
  exact ⟨by rw [uh HV, if_pos he]; rfl, uh HB1⟩
 have hd : (n.id == tv) = false := by simpa using he
 go_wp2_with fail
 go_ret
 exact ⟨by rw [uh HV, if_neg he]; rfl, uh HB1⟩
def wfN (n : DNode) : Prop := (Lit.int .i64 n.id).wf = true ∧ (Lit.int .i64 n.epoch).wf = true ∧ (Lit.int .i64 n.lease).wf = true ∧ (Lit.int .i64 n.sure).wf = true ∧ (Lit.int .i64 n.clean).wf = true
theorem wown_upd {W : World} {lo g k : Nat} {v3 v4 v5 v6 : Value} {y : DWorld} (h : WOwn W lo g [.int .i64 y.now, .int .i64 y.events, .int .i64 y.chain.epoch, v3, v4, v5, v6] y) (hk : k < y.nodes.length) :
  ∃ b off cap an dn, v4 = .slice (some ⟨b, off, none⟩) y.nodes.length cap ∧ lo ≤ b ∧ b < W.heap.size ∧ b ≠ g ∧ RowAt W W b (off + k * 7) 7 [.int .i64 y.nodes[k].id, .bool y.nodes[k].up, .int .i64 y.nodes[k].epoch, .int .i64 y.nodes[k].lease, .slice an y.nodes[k].writes.length dn, .int .i64 y.nodes[k].sure, .int .i64 y.nodes[k].clean] [] ∧ wfN y.nodes[k] ∧ (∀ V, Ext (fun q => q = b) W V → Lay.tChain.Reads V [.int .i64 y.chain.epoch, v3] y.chain) ∧
   ∀ (W2 : World) (n : DNode), n.writes = y.nodes[k].writes → wfN n → RowAt W W2 b (off + k * 7) 7 [.int .i64 n.id, .bool n.up, .int .i64 n.epoch, .int .i64 n.lease, .slice an y.nodes[k].writes.length dn, .int .i64 n.sure, .int .i64 n.clean] [] → WOwn W2 lo g [.int .i64 y.now, .int .i64 y.events, .int .i64 y.chain.epoch, v3, v4, v5, v6] (setN y k n) := by
 obtain ⟨bl, O, hgb, hbl⟩ := h
 obtain ⟨a3, d3, a4, d4, a5, d5, a6, d6, g2, g4, g5, g6, hq, rfl, O2, O4, O5, O6, w0, w1⟩ := own_World O
 simp only [List.cons.injEq, and_true, true_and] at hq
 obtain ⟨rfl, rfl, rfl, rfl⟩ := hq
 have hnd := O.2.1
 obtain ⟨b, off, cap, r, e4, rfl, hA⟩ := Lay.apart_of_own O4 (by omega)
 simp only [Value.slice.injEq, true_and] at e4
 obtain ⟨rfl, rfl⟩ := e4
 obtain ⟨row, blk, hR, hOn, hbk, hsub, hput⟩ := Lay.own_upd O4 hk
 obtain ⟨an, dn, gn, rfl, rfl, hOw, n0, n2, n3, n5, n6⟩ := own_Node hOn
 have hbin := hbl b (by simp)
 have hbg : b ≠ g := fun e => hgb (by rw [← e]; simp)
 rw [List.nodup_append, List.nodup_append] at hnd
 obtain ⟨-, ⟨-, -, x4⟩, x2⟩ := hnd
 refine ⟨b, off, d4, an, dn, rfl, hbin.1, hbin.2, hbg, ⟨hR.len, hR.cells, hR.others, hR.soft, hR.lt, Ext.refl _ _⟩, ⟨n0, n2, n3, n5, n6⟩, fun V e => (O2.ext e (fun c hc e2 => x2 c hc b (by simp) e2)).reads, fun W2 n hw hwf hR2 => ?_⟩
 have hE : Ext (fun q => q = b) W W2 := hR2.ext.mono (fun k _ q => by rcases q with q | q; exact q; cases q)
 obtain ⟨m0, m2, m3, m5, m6⟩ := hwf
 have hOw2 := hOw.ext hE (fun c hc e => hbk (e ▸ hc))
 rw [← hw] at hOw2
 have hN := mkOwn_Node (x := n) hOw2 m0 m2 m3 m5 m6 hOw.2.1
 have O4' := hput W2 _ n ⟨hR2.len, hR2.cells, hR2.others, hR2.soft, hR2.lt, hE.mono (fun q _ e => Or.inl e)⟩ (by rw [← hw]; exact hN)
 have P2 := O2.ext hE (fun c hc e => x2 c hc b (by simp) e)
 have P5 := O5.ext hE (fun c hc e => x4 b (by simp) c (by simp [hc]) e.symm)
 have P6 := O6.ext hE (fun c hc e => x4 b (by simp) c (by simp [hc]) e.symm)
 exact ⟨_, mkOwn_World (x := setN y k n) P2 O4' P5 P6 w0 w1 O.2.1, hgb, fun c hc => ⟨(hbl c hc).1, Nat.lt_of_lt_of_le (hbl c hc).2 hE.size⟩⟩
theorem known_eq {c : DChain} (hc : chainFault c = 0) {n : DNode} (hp : 0 ≤ placeC c.ids n.id) : knownR c n = if nextC c.ids n.id 1 = 0 then n.sure else n.clean := by
 have hk := chainFault_zero hc
 obtain ⟨i, hi, -, hid, -⟩ := placeC_get hp
 have hl : c.ids.length - 1 < c.ids.length := by have := hk.len; omega
 have el : c.ids.getD (c.ids.length - 1) 0 = c.ids[c.ids.length - 1] := by
  generalize c.ids.length - 1 = j at *
  simp [List.getD, hl]
 rw [knownR, el]
 by_cases q : i + 1 < c.ids.length
 ·
  have h1 := next_nodup hk.nodup q
  rw [hid] at h1
  have h2 := hk.ids c.ids[i + 1] (List.getElem_mem q)
  have hnx : ¬ nextC c.ids n.id 1 = 0 := by rw [h1]; omega
  have hne : ¬ n.id = c.ids[c.ids.length - 1] := by
   intro e
   rw [← hid] at e
   have := (List.getElem_inj (h₀ := hi) (h₁ := hl) hk.nodup).1 e
   omega
  rw [if_neg hne, if_neg hnx]
 have h1 := last_nodup hk.nodup hi (by omega)
 rw [hid] at h1
 have e : i = c.ids.length - 1 := by omega
 subst e
 rw [if_pos hid.symm, if_pos h1]
theorem ackStepC (L k p : Nat) (y : DWorld) (W : World) (hp : Box 0 #[.int .i64 ((k : Int) + 1)] 2 W p) (lp : p < L) (hk : k < y.nodes.length) (hn5 : y.nodes.length ≤ 5) (hi : ∀ z ∈ y.chain.ids, nodeIn y z = true) (hcf : chainFault y.chain = 0) (hnf : nodeFault y.nodes[k] = 0) (hnet : netFault y.msgs = 0) (hid : y.nodes[k].id = (k : Int) + 1) :
  StepC L 151 #[.pointer (some ⟨p, 0, none⟩)] y (ackC y ((k : Int) + 1)) true (withMsgs y (sendM y.msgs (ackM y ((k : Int) + 1))).msgs) W := by
 have HIDD := yh hid
 clear hid
 intro g lo v3 v4 v5 v6 hL hg hlo hO
 show Calls Tryz.prog 151 #[.pointer (some ⟨g, 0, none⟩), .pointer (some ⟨p, 0, none⟩)] W (fun e W' => StepPost g lo (ackC y ((k : Int) + 1)) true (withMsgs y (sendM y.msgs (ackM y ((k : Int) + 1))).msgs) W e W')
 obtain ⟨a3, d3, a4, d4, _, _, _, _, hq, RC, RN0, -, -⟩ := open_World hO.reads
 simp only [List.cons.injEq, and_true, true_and] at hq
 obtain ⟨rfl, rfl, -, -⟩ := hq
 obtain ⟨b, off, rfl, -⟩ := Lay.sl_addr RN0 (by omega)
 have hp0 := Box.at hp 0 _ rfl
 simp only [List.getElem_toArray, List.getElem_cons_zero] at hp0
 have hgl := hg.lt
 have hpl := hp.lt
 have HM := yh RC
 have HG0 := yh hg
 have HP0 := yh hp
 have HRD := yh hO.reads
 have HO := yh hO
 have HI := yh hi
 have HCF := yh hcf
 have HNF := yh hnf
 have HNET := yh hnet
 have hgp : p ≠ g := by omega
 clear hp hg hO RC RN0 hi hcf hnf hnet
 go_enter Tryz.func151, Tryz.ntmps151
 go_upto_region 1 with fail
 refine wp_region_noPanic ?_
 refine wp_region_held_drew (S := fun w' => Below W.heap.size W w') (by kernel_rfl) ((Below.refl _ _).drew) (fun zq => ?_)
 generalize W.drew = wD at zq ⊢
 refine tkH 0 zq ?_
 refine tkH 1 zq ?_
 refine tkJ 2 (v := ?vm2) ?hm2 zq ?rm2
 case hm2 =>
  intro wS hSw
  have bS := (uh HG0).keep hSw
  have q0 := Box.at bS 0 _ rfl
  have q1 := Box.at bS 1 _ rfl
  have q2 := Box.at bS 2 _ rfl
  have q3 := Box.at bS 3 _ rfl
  have q4 := Box.at bS 4 _ rfl
  have q5 := Box.at bS 5 _ rfl
  have q6 := Box.at bS 6 _ rfl
  simp only [ga, gb, gc] at q0 q1 q2 q3 q4 q5 q6
  clear bS hSw
  (try dsimp only at hSw)
  go_simp
  try with_reducible rfl
 refine tkJ 3 (v := ?vm3) ?hm3 zq ?rm3
 case hm3 =>
  intro wS hSw
  have q0 := (hSw.cell (p := ⟨p, 0, none⟩) hpl).trans hp0
  clear hSw
  (try dsimp only at hSw)
  go_simp
  try with_reducible rfl
 refine rdH 4 (fun K hK => ?_)
 go_simp
 go_at_call 140
 refine (isMemberC _ y ((k : Int) + 1) _ ((uh HRD).later zq) (uh HI) hn5).mono ?_
 rintro e W2 ⟨rfl, hbu⟩
 rw [memberW_eq]
 generalize hmb : memberB y ((k : Int) + 1) = mb at *
 try go_wp2_with fail
 refine hK.out _ _ (zq.trans (hbu.mono zq.size)) (fun zq => ?_)
 clear hK K
 try simp only [Act.put, pz, py, px]
 refine tkH 5 zq ?_
 refine wpAnyH_done (by kernel_rfl) ?_ _
 refine NoPanic.normal ?_
 have HG := yh ((uh HG0).keep zq)
 have HP := yh ((uh HP0).keep zq)
 replace HO := yh ((uh HO).later zq)
 replace HRD := yh ((uh HRD).later zq)
 replace HM := yh ((uh HM).later zq)
 have HX2 : Hid (Ext (fun q => lo ≤ q) W W2) := yh (ext_of_below zq _)
 have HMB := yh hmb
 clear zq hbu hp0 hgl hpl HG0 HP0 hmb
 cases mb
 ·
  have HC : Hid (ackC y ((k : Int) + 1) = 10) := by
   show ackC y ((k : Int) + 1) = 10
   exact if_pos (uh HMB)
  go_wp2_with fail
  go_ret2
  unfold StepPost
  exact ⟨false, by rw [uh HC]; rfl, fun h0 => by rw [uh HC] at h0; simp at h0, uh HX2⟩
 have hpc := member_in (uh HMB)
 have HBS := yh (beside_of (d := (-1)) (uh HCF) hpc)
 clear hpc
 go_upto_region 3 with fail
 have g2c := Box.at (uh HG) 2 _ rfl
 have g3c := Box.at (uh HG) 3 _ rfl
 have hp0 := Box.at (uh HP) 0 _ rfl
 simp only [ga, gb, gc] at g2c g3c hp0
 have hgl := (uh HG).lt
 have hpl := (uh HP).lt
 go_cut [5] from 12 to 17 (fun s5 wx => ∃ (wz : World) (g5 : Nat), wz = wx ∧ s5 = .pointer (some ⟨g5, 0, none⟩) ∧ Box 0 #[.int .i64 (besideR y.chain ((k : Int) + 1) (-1)).code, .int .i64 (besideR y.chain ((k : Int) + 1) (-1)).value] 49 wz g5 ∧ W2.heap.size ≤ g5 ∧ Below W2.heap.size W2 wz)
 case first =>
  have HDS : W2.heap.size ≤ W2.drew.heap.size := Nat.le_refl _
  refine wp_region_noPanic ?_
  refine wp_region_held_drew (S := fun w' => Below W2.heap.size W2 w') (by kernel_rfl) ((Below.refl _ _).drew) (fun zq => ?_)
  generalize W2.drew = wD at zq HDS ⊢
  refine tkH 0 zq ?_
  refine tkH 1 zq ?_
  refine tkH 2 zq ?_
  refine tkJ 3 (v := ?vk3_4) ?hk3_4 zq ?rk3_4
  case hk3_4 =>
   intro wS hSw
   have q2 := (hSw.cell (p := ⟨g, 2, none⟩) hgl).trans g2c
   have q3 := (hSw.cell (p := ⟨g, 3, none⟩) hgl).trans g3c
   clear hSw
   (try dsimp only at hSw)
   go_simp
   try with_reducible rfl
  refine tkJ 4 (v := ?vk4_5) ?hk4_5 zq ?rk4_5
  case hk4_5 =>
   intro wS hSw
   have q0 := (hSw.cell (p := ⟨p, 0, none⟩) hpl).trans hp0
   clear hSw
   (try dsimp only at hSw)
   go_simp
   try with_reducible rfl
  refine wpAnyH_ready (rs := [5, 6]) (by kernel_rfl) (by simp) ?_
  refine AllReadyH.cons (o := ⟨some 17, .call { callee := .value (.func 152), args := #[.tmp 15, .tmp 16], argTypes := #[31, 2] }, 49, "l12_world.go:311", #[⟨3, .data⟩, ⟨4, .data⟩], none⟩) rfl (fun K hK => ?ok5_6) (AllReadyH.cons (o := ⟨some 5, .alloc 49, 0, "l12_world.go:311", #[], none⟩) rfl (fun K hK => ?ok6_6) (AllReadyH.nil))
  case ok5_6 =>
   go_simp
   go_at_call 152
   refine (implPrevIn _ y.chain ((k : Int) + 1) _ ((uh HM).later zq)).mono ?_
   rintro e u ⟨us, rfl, O0, hbu⟩
   obtain ⟨rfl, -, -⟩ := int_partsS O0
   have hzu := hbu.size
   try go_wp2_with fail
   refine hK.out _ _ (zq.trans (hbu.mono zq.size)) (fun zq => ?_)
   clear hK K
   try simp only [Act.put, pz, py, px]
   refine rdH 6 (fun K hK => ?_)
   have hHA := zq
   go_simp
   refine hK.out _ _ (zq.alloc zq.size _) (fun zq => ?_)
   clear hK K
   try simp only [Act.put, pz, py, px]
   refine rdH 7 (fun K hK => ?_)
   go_simp
   refine hK.out _ _ (hHA.alloc hHA.size _) (fun zq => ?_)
   clear hK K
   try simp only [Act.put, pz, py, px]
   refine wpAnyH_done (by kernel_rfl) ?_ _
   refine NoPanic.normal ?_
   go_wp2_with fail
   go_meet
   have nb2 : Below u.heap.size u (u.alloc (.cells #[.int .i64 (besideR y.chain ((k : Int) + 1) (-1)).code, .int .i64 (besideR y.chain ((k : Int) + 1) (-1)).value] 49)) := (Below.refl _ _).alloc (Nat.le_refl _) _
   have hzn : u.heap.size < (u.alloc (.cells #[.int .i64 (besideR y.chain ((k : Int) + 1) (-1)).code, .int .i64 (besideR y.chain ((k : Int) + 1) (-1)).value] 49)).heap.size := by simp
   have hzz := hHA.size
   exact ⟨_, u.heap.size, rfl, rfl, newBox (Nat.zero_le _), by omega, zq⟩
  case ok6_6 =>
   have HG : Hid (Box 0 #[.int .i64 0, .int .i64 0] 49 (wD.alloc (.cells #[.int .i64 0, .int .i64 0] 49)) wD.heap.size) := newBox (Nat.zero_le _)
   have hza : wD.heap.size < (wD.alloc (.cells #[.int .i64 0, .int .i64 0] 49)).heap.size := by simp
   go_simp
   refine hK.out _ _ (zq.alloc zq.size _) (fun zq => ?_)
   clear hK K
   try simp only [Act.put, pz, py, px]
   refine rdH 5 (fun K hK => ?_)
   go_simp
   go_at_call 152
   refine (implPrevIn _ y.chain ((k : Int) + 1) _ ((uh HM).later zq)).mono ?_
   rintro e u ⟨us, rfl, O0, hbu⟩
   obtain ⟨rfl, -, -⟩ := int_partsS O0
   have hG := (uh HG).keep hbu
   have hzu := hbu.size
   try go_wp2_with fail
   refine hK.out _ _ (zq.trans (hbu.mono zq.size)) (fun zq => ?_)
   clear hK K
   try simp only [Act.put, pz, py, px]
   refine rdH 7 (fun K hK => ?_)
   have r0 := Box.at hG 0 _ rfl
   have r1 := Box.at hG 1 _ rfl
   simp only [ga, gb, gc] at r0 r1
   have rf := Box.soft hG
   have rl := hG.lt
   have hzD := zq.size
   go_simp
   refine hK.out _ _ (Below.setCell (Below.setCell zq (p := ⟨wD.heap.size, 0, none⟩) (by simp only []; omega) (.int .i64 (besideR y.chain ((k : Int) + 1) (-1)).code)) (p := ⟨wD.heap.size, 1, none⟩) (by simp only []; omega) (.int .i64 (besideR y.chain ((k : Int) + 1) (-1)).value)) (fun zq => ?_)
   clear hK K
   try simp only [Act.put, pz, py, px]
   refine wpAnyH_done (by kernel_rfl) ?_ _
   refine NoPanic.normal ?_
   go_wp2_with fail
   go_meet
   have e1 : Ext (fun q => q = wD.heap.size) u (setAll u wD.heap.size 0 [.int .i64 (besideR y.chain ((k : Int) + 1) (-1)).code, .int .i64 (besideR y.chain ((k : Int) + 1) (-1)).value]) := ext_setAll _ (Ext.refl _ _) _ _ _ rfl
   have hss : (setAll u wD.heap.size 0 [.int .i64 (besideR y.chain ((k : Int) + 1) (-1)).code, .int .i64 (besideR y.chain ((k : Int) + 1) (-1)).value]).heap.size = u.heap.size := size_setAll _ _ _ _
   have hbx := (Box.set (Box.set hG 0 (.int .i64 (besideR y.chain ((k : Int) + 1) (-1)).code)) 1 (.int .i64 (besideR y.chain ((k : Int) + 1) (-1)).value))
   simp only [List.setIfInBounds_toArray, List.set_cons_zero, List.set_cons_succ] at hbx
   exact ⟨_, wD.heap.size, rfl, rfl, hbx, by omega, zq⟩
 case rest =>
  obtain ⟨WC, g5, hW, rfl, hg5, hz5, hB5⟩ := hcut
  subst hW
  have hg5g : g5 ≠ g := by omega
  clear g2c g3c hp0 hgl hpl
  replace HG := yh ((uh HG).keep hB5)
  replace HP := yh ((uh HP).keep hB5)
  replace HO := yh ((uh HO).later hB5)
  replace HRD := yh ((uh HRD).later hB5)
  replace HM := yh ((uh HM).later hB5)
  replace HX2 := yh ((uh HX2).trans (ext_of_below hB5 _))
  have HK5 := yh hg5
  have e0 := Box.at hg5 0 _ rfl
  have e1 := Box.at hg5 1 _ rfl
  simp only [ga, gb, gc] at e0 e1
  rw [uh HBS] at e0 e1 HK5
  have hg5l := hg5.lt
  clear hg5 hB5 HBS
  by_cases hx : nextC y.chain.ids ((k : Int) + 1) (-1) = 0
  ·
   rw [if_pos hx] at e0 e1 HK5
   have HC : Hid (ackC y ((k : Int) + 1) = 8) := by
    show ackC y ((k : Int) + 1) = 8
    exact (if_neg (by rw [uh HMB]; decide)).trans (if_pos hx)
   clear hx HK5 HG HP HO HRD HM
   go_upto_region 5 with fail
   go_quiet (fail)
   go_wp2_with fail
   go_ret2
   unfold StepPost
   exact ⟨false, by rw [uh HC]; rfl, fun h0 => by rw [uh HC] at h0; simp at h0, (uh HX2).drew _⟩
  rw [if_neg hx] at e0 e1 HK5
  have HX := yh hx
  clear hx e1 hg5l
  go_upto_region 6 with fail
  have hw1 : IntKind.i64.wrap (k : Int) = (k : Int) := by
   rw [IntKind.wrap_i64]
   omega
  have hki : (k : Int) < (y.nodes.length : Int) := by omega
  have hki0 : (0 : Int) ≤ (k : Int) := by omega
  obtain ⟨_, _, _, _, _, _, _, _, hq, -, RN, -, -⟩ := open_World (uh HRD)
  simp only [List.cons.injEq, Value.slice.injEq, and_true, true_and] at hq
  obtain ⟨-, ⟨rfl, rfl⟩, -, -⟩ := hq
  obtain ⟨row, hcl, hr⟩ := Lay.row_at RN hk
  have hr0 := hr
  obtain ⟨an, dn, rfl, -⟩ := open_Node hr
  obtain ⟨b', off', d4', _, _, e4, -, hbl, hbg, -, -, -, -⟩ := wown_upd (uh HO) hk
  simp only [Value.slice.injEq, Option.some.injEq, Addr.mk.injEq, and_true, true_and] at e4
  obtain ⟨⟨rfl, rfl⟩, rfl⟩ := e4
  have c0 : WC.cell? ⟨b, off + k * 7, none⟩ = some (.int .i64 y.nodes[k].id) := hcl 0 (by decide)
  have c1 : WC.cell? ⟨b, off + k * 7 + 1, none⟩ = some (.bool y.nodes[k].up) := hcl 1 (by decide)
  have c2 : WC.cell? ⟨b, off + k * 7 + 2, none⟩ = some (.int .i64 y.nodes[k].epoch) := hcl 2 (by decide)
  have c3 : WC.cell? ⟨b, off + k * 7 + 3, none⟩ = some (.int .i64 y.nodes[k].lease) := hcl 3 (by decide)
  have c4 : WC.cell? ⟨b, off + k * 7 + 4, none⟩ = some (.slice an y.nodes[k].writes.length dn) := hcl 4 (by decide)
  have c5 : WC.cell? ⟨b, off + k * 7 + 5, none⟩ = some (.int .i64 y.nodes[k].sure) := hcl 5 (by decide)
  have c6 : WC.cell? ⟨b, off + k * 7 + 6, none⟩ = some (.int .i64 y.nodes[k].clean) := hcl 6 (by decide)
  have g2 := Box.at (uh HG) 2 _ rfl
  have g3 := Box.at (uh HG) 3 _ rfl
  have g4 := Box.at (uh HG) 4 _ rfl
  have e1 := Box.at (uh HK5) 1 _ rfl
  have hp0 := Box.at (uh HP) 0 _ rfl
  simp only [ga, gb, gc] at g2 g3 g4 e1 hp0
  have hg5l := (uh HK5).lt
  have hpl := (uh HP).lt
  have hep := (chainFault_zero (uh HCF)).epoch
  have hne := (next_bdC (uh HCF) (Or.inr rfl) (uh HX)).1
  have hkn : (knownR y.chain y.nodes[k]) = if nextC y.chain.ids ((k : Int) + 1) 1 = 0 then y.nodes[k].sure else y.nodes[k].clean := by
   have := known_eq (uh HCF) (n := y.nodes[k]) (by rw [uh HIDD]; exact member_in (uh HMB))
   rw [uh HIDD] at this
   exact this
  have HFW : Hid (ackM y ((k : Int) + 1) = (⟨2, y.chain.epoch, ((k : Int) + 1), (nextC y.chain.ids ((k : Int) + 1) (-1)), (knownR y.chain y.nodes[k]), ⟨0, 0, [], 0, 0⟩⟩ : DMsg)) := by
   show ackM y _ = _
   rw [ackM, nodeOf_at hk, hkn]
  have hms : msgFault (⟨2, y.chain.epoch, ((k : Int) + 1), (nextC y.chain.ids ((k : Int) + 1) (-1)), (knownR y.chain y.nodes[k]), ⟨0, 0, [], 0, 0⟩⟩ : DMsg) = 0 := by
   rw [← uh HFW]
   exact ack_ok (uh HCF) (uh HMB) (uh HX) (by rw [nodeOf_at hk]; exact uh HNF)
  have hno := nodeFault_zero (uh HNF)
  have hkb : -1000000000 ≤ (knownR y.chain y.nodes[k]) ∧ (knownR y.chain y.nodes[k]) ≤ 1000000000 := by
   have h1 := hno.sure
   have h2 := hno.len
   have h3 := hno.clean
   rw [hkn]
   split <;> omega
  have HSR := yh (sendR_okW (uh HNET) hms)
  have HC : Hid (ackC y ((k : Int) + 1) = (sendM y.msgs (ackM y ((k : Int) + 1))).code) := by
   show ackC y ((k : Int) + 1) = _
   exact (if_neg (by rw [uh HMB]; decide)).trans (if_neg (uh HX))
  have HMR : Hid (Lay.tMsg.Reads WC [.int .i64 2, .int .i64 y.chain.epoch, .int .i64 ((k : Int) + 1), .int .i64 (nextC y.chain.ids ((k : Int) + 1) (-1)), .int .i64 (knownR y.chain y.nodes[k]), .int .i64 0, .int .i64 0, .slice none 0 0, .int .i64 0, .int .i64 0] (⟨2, y.chain.epoch, ((k : Int) + 1), (nextC y.chain.ids ((k : Int) + 1) (-1)), (knownR y.chain y.nodes[k]), ⟨0, 0, [], 0, 0⟩⟩ : DMsg)) :=
   ⟨[], lies_Msg.2 ⟨none, 0, [], rfl, rfl, (show (Lit.int .i64 2).wf = true by decide), wf_of_bd (show -1000000000 ≤ y.chain.epoch ∧ y.chain.epoch ≤ 1000000000 by omega), wf_of_bd (show -1000000000 ≤ (k : Int) + 1 ∧ (k : Int) + 1 ≤ 1000000000 by omega), wf_of_bd (show -1000000000 ≤ nextC y.chain.ids ((k : Int) + 1) (-1) ∧ nextC y.chain.ids ((k : Int) + 1) (-1) ≤ 1000000000 by omega), wf_of_bd hkb, (show (Lit.int .i64 0).wf = true by decide), (show (Lit.int .i64 0).wf = true by decide), ⟨none, 0, rfl, ⟨by simp, by simp⟩, Or.inl ⟨rfl, rfl⟩⟩, (show (Lit.int .i64 0).wf = true by decide), (show (Lit.int .i64 0).wf = true by decide)⟩⟩
  have nd : Below WC.heap.size WC WC.drew := (Below.refl _ _).drew
  have HGD := yh ((uh HG).drew)
  have HOD := yh ((uh HO).later nd)
  have HMD := yh ((uh HMR).later nd)
  have HCD := yh ((uh HM).later nd)
  have HND := yh (hr0.later nd)
  have HXN := HX2
  clear nd HO HMR HG HP HK5 RN hcl hr hr0 hno hms hep hne HRD HM e0 HX2 hkn hkb
  refine wp_region_noPanic ?_
  refine wp_region_held_drew (S := fun w' => Ext (fun q => q = g) WC w' ∧ w'.cell? ⟨g, 2, none⟩ = some (.int .i64 y.chain.epoch) ∧ w'.cell? ⟨g, 3, none⟩ = some (.slice a3 y.chain.ids.length d3) ∧ w'.cell? ⟨g, 4, none⟩ = some (.slice (some ⟨b, off, none⟩) y.nodes.length d4)) (by kernel_rfl) ⟨(Ext.refl _ _).drew 1, g2, g3, g4⟩ (fun zq => ?_)
  generalize WC.drew = wD at zq HGD HOD HMD HCD HND ⊢
  refine tkH 0 zq ?_
  refine tkH 1 zq ?_
  refine tkH 2 zq ?_
  refine tkH 3 zq ?_
  refine tkH 4 zq ?_
  refine tkJ 5 (v := ?vc5) ?hc5 zq ?rc5
  case hc5 =>
   intro wS hSw
   have qz := hSw.2.1
   clear hSw
   (try dsimp only at hSw)
   go_simp
   try with_reducible rfl
  refine tkJ 6 (v := ?vc6) ?hc6 zq ?rc6
  case hc6 =>
   intro wS hSw
   have qz := (cell_of_heap (hSw.1.block p hpl hgp) _).trans hp0
   clear hSw
   (try dsimp only at hSw)
   go_simp
   try with_reducible rfl
  refine tkH 7 zq ?_
  refine tkJ 8 (v := ?vc8) ?hc8 zq ?rc8
  case hc8 =>
   intro wS hSw
   have qz := (cell_of_heap (hSw.1.block g5 hg5l hg5g) _).trans e1
   clear hSw
   (try dsimp only at hSw)
   go_simp
   try with_reducible rfl
  refine tkH 9 zq ?_
  refine tkH 10 zq ?_
  refine tkH 11 zq ?_
  refine tkJ 12 (v := ?vc12) ?hc12 zq ?rc12
  case hc12 =>
   intro wS hSw
   have qy := hSw.2.1
   have qz := hSw.2.2.1
   clear hSw
   (try dsimp only at hSw)
   go_simp
   try with_reducible rfl
  refine tkH 13 zq ?_
  refine tkH 14 zq ?_
  refine tkH 15 zq ?_
  refine tkJ 16 (v := ?vc16) ?hc16 zq ?rc16
  case hc16 =>
   intro wS hSw
   have qz := hSw.2.2.2
   clear hSw
   (try dsimp only at hSw)
   go_simp
   try with_reducible rfl
  refine tkJ 17 (v := ?vc17) ?hc17 zq ?rc17
  case hc17 =>
   intro wS hSw
   have qz := (cell_of_heap (hSw.1.block p hpl hgp) _).trans hp0
   clear hSw
   (try dsimp only at hSw)
   go_simp
   try with_reducible rfl
  refine tkH 18 zq ?_
  refine tkH 19 zq ?_
  refine tkJ 20 (v := ?vc20) ?hc20 zq ?rc20
  case hc20 =>
   intro wS hSw
   have q0 : wS.cell? ⟨b, off + k * 7, none⟩ = some (.int .i64 y.nodes[k].id) := (cell_of_heap (hSw.1.block b hbl hbg) _).trans c0
   have q1 : wS.cell? ⟨b, off + k * 7 + 1, none⟩ = some (.bool y.nodes[k].up) := (cell_of_heap (hSw.1.block b hbl hbg) _).trans c1
   have q2 : wS.cell? ⟨b, off + k * 7 + 2, none⟩ = some (.int .i64 y.nodes[k].epoch) := (cell_of_heap (hSw.1.block b hbl hbg) _).trans c2
   have q3 : wS.cell? ⟨b, off + k * 7 + 3, none⟩ = some (.int .i64 y.nodes[k].lease) := (cell_of_heap (hSw.1.block b hbl hbg) _).trans c3
   have q4 : wS.cell? ⟨b, off + k * 7 + 4, none⟩ = some (.slice an y.nodes[k].writes.length dn) := (cell_of_heap (hSw.1.block b hbl hbg) _).trans c4
   have q5 : wS.cell? ⟨b, off + k * 7 + 5, none⟩ = some (.int .i64 y.nodes[k].sure) := (cell_of_heap (hSw.1.block b hbl hbg) _).trans c5
   have q6 : wS.cell? ⟨b, off + k * 7 + 6, none⟩ = some (.int .i64 y.nodes[k].clean) := (cell_of_heap (hSw.1.block b hbl hbg) _).trans c6
   clear hSw
   (try dsimp only at hSw)
   go_simp
   try with_reducible rfl
  refine rdH 21 (fun K hK => ?_)
  go_simp
  go_at_call 153
  refine (knownC _ _ y.chain y.nodes[k] _ (uh HCD) (uh HND) (uh HCF)).mono ?_
  rintro e u1 ⟨rfl, hb1⟩
  have hBx := (uh HGD).keep hb1
  have kz2 := Box.at hBx 2 _ rfl
  have kz3 := Box.at hBx 3 _ rfl
  have kz4 := Box.at hBx 4 _ rfl
  simp only [ga, gb, gc] at kz2 kz3 kz4
  have HG1 := yh hBx
  have HO1 := yh ((uh HOD).later hb1)
  have HM1 := yh ((uh HMD).later hb1)
  clear hBx
  try go_wp2_with fail
  refine hK.out _ _ ⟨zq.1.trans (ext_of_below hb1 _), kz2, kz3, kz4⟩ (fun zq => ?_)
  clear hK K
  try simp only [Act.put, pz, py, px]
  refine tkH 22 zq ?_
  refine rdH 23 (fun K hK => ?_)
  clear kz2 kz3 kz4
  go_simp
  go_at_call 142
  refine (postMsgC g lo _ _ _ _ y ⟨2, y.chain.epoch, ((k : Int) + 1), (nextC y.chain.ids ((k : Int) + 1) (-1)), (knownR y.chain y.nodes[k]), ⟨0, 0, [], 0, 0⟩⟩ [.int .i64 2, .int .i64 y.chain.epoch, .int .i64 ((k : Int) + 1), .int .i64 (nextC y.chain.ids ((k : Int) + 1) (-1)), .int .i64 (knownR y.chain y.nodes[k]), .int .i64 0, .int .i64 0, .slice none 0 0, .int .i64 0, .int .i64 0] _ (uh HG1) hlo (uh HO1) (uh HM1)).mono ?_
  rintro e u ⟨mm, u5, rfl, hBx, hP, hX⟩
  rw [uh HSR] at hP ⊢
  have kz2 := Box.at hBx 2 _ rfl
  have kz3 := Box.at hBx 3 _ rfl
  have kz4 := Box.at hBx 4 _ rfl
  simp only [ga, gb, gc] at kz2 kz3 kz4
  try go_wp2_with fail
  refine hK.out _ _ ⟨zq.1.trans hX, kz2, kz3, kz4⟩ (fun zq => ?_)
  clear hK K
  try simp only [Act.put, pz, py, px]
  refine tkH 24 zq ?_
  refine tkH 25 zq ?_
  refine tkH 26 zq ?_
  refine tkH 27 zq ?_
  refine wpAnyH_done (by kernel_rfl) ?_ _
  refine NoPanic.normal ?_
  have HG9 := yh hBx
  have HX9 := yh ((uh HXN).trans (zq.1.mono (fun q _ e => by rw [e]; exact hlo)))
  have HPP := yh hP
  clear zq hBx hX hP
  go_wp2_with fail
  go_ret2
  unfold StepPost
  refine ⟨mm, by rw [uh HC, uh HFW]; rfl, fun h0 => ?_, uh HX9⟩
  rw [uh HC, uh HFW] at h0
  obtain ⟨h1, h2⟩ := uh HPP h0
  rw [uh HFW]
  exact ⟨h1, _, _, _, _, uh HG9, h2⟩
theorem ackMake (id : Int) (w : World) :
  Calls Tryz.prog 82 #[.int .i64 id] w fun e w' => e = .returned (.func (.func 151) #[] #[.pointer (some ⟨w.heap.size, 0, none⟩)]) ∧ w' = (w.alloc (.cells #[.int .i64 id] 2)) := by
 have hmf : ∀ (fn : Fn) (first cap : Array Value) (w : World), (Instr.makeFunc fn first cap).run Tryz.prog w = .ok (.func fn first cap) w := fun _ _ _ _ => rfl
 go_enter Tryz.func82, Tryz.ntmps82
 go_wp2_with fail
 go_ret
 exact ⟨rfl, rfl⟩
theorem implAckWorld (cs : List Value) (x : DWorld) (id : Int) (w : World) (h : Lay.tWorld.Reads w cs x) (hf : Fits x) :
  Calls Tryz.prog 25 #[.agg cs.toArray, .int .i64 id] w fun e w' => ∃ cs', e = .returned (.agg cs'.toArray) ∧ Lay.tWorldResult.OwnIn w' cs' (ackWR x id) w.heap.size w'.heap.size ∧ Below w.heap.size w w' := by
 obtain ⟨a3, d3, a4, d4, a5, d5, a6, d6, rfl, -, -, -, -⟩ := open_World h
 have nb1 : Below w.heap.size w (w.alloc (.cells #[.int .i64 x.now, .int .i64 x.events, .int .i64 x.chain.epoch, .slice a3 x.chain.ids.length d3, .slice a4 x.nodes.length d4, .slice a5 x.msgs.length d5, .slice a6 x.history.length d6] 36)) := (Below.refl _ _).alloc (Nat.le_refl _) _
 have nb : Below w.heap.size w ((w.alloc (.cells #[.int .i64 x.now, .int .i64 x.events, .int .i64 x.chain.epoch, .slice a3 x.chain.ids.length d3, .slice a4 x.nodes.length d4, .slice a5 x.msgs.length d5, .slice a6 x.history.length d6] 36)).alloc (.cells #[.int .i64 0, .bool false, .int .i64 0, .int .i64 0, .int .i64 0, .slice none 0 0, .slice none 0 0, .slice none 0 0, .slice none 0 0] 38)) := nb1.alloc (by simp) _
 have HX : Hid (Box 0 #[.int .i64 x.now, .int .i64 x.events, .int .i64 x.chain.epoch, .slice a3 x.chain.ids.length d3, .slice a4 x.nodes.length d4, .slice a5 x.msgs.length d5, .slice a6 x.history.length d6] 36 ((w.alloc (.cells #[.int .i64 x.now, .int .i64 x.events, .int .i64 x.chain.epoch, .slice a3 x.chain.ids.length d3, .slice a4 x.nodes.length d4, .slice a5 x.msgs.length d5, .slice a6 x.history.length d6] 36)).alloc (.cells #[.int .i64 0, .bool false, .int .i64 0, .int .i64 0, .int .i64 0, .slice none 0 0, .slice none 0 0, .slice none 0 0, .slice none 0 0] 38)) w.heap.size) := (newBox (Nat.zero_le _)).grow _
 have HY : Hid (Box 0 #[.int .i64 0, .bool false, .int .i64 0, .int .i64 0, .int .i64 0, .slice none 0 0, .slice none 0 0, .slice none 0 0, .slice none 0 0] 38 ((w.alloc (.cells #[.int .i64 x.now, .int .i64 x.events, .int .i64 x.chain.epoch, .slice a3 x.chain.ids.length d3, .slice a4 x.nodes.length d4, .slice a5 x.msgs.length d5, .slice a6 x.history.length d6] 36)).alloc (.cells #[.int .i64 0, .bool false, .int .i64 0, .int .i64 0, .int .i64 0, .slice none 0 0, .slice none 0 0, .slice none 0 0, .slice none 0 0] 38)) (w.heap.size + 1)) := newBoxAt (Nat.zero_le _) (by simp)
 have hz0 : ((w.alloc (.cells #[.int .i64 x.now, .int .i64 x.events, .int .i64 x.chain.epoch, .slice a3 x.chain.ids.length d3, .slice a4 x.nodes.length d4, .slice a5 x.msgs.length d5, .slice a6 x.history.length d6] 36)).alloc (.cells #[.int .i64 0, .bool false, .int .i64 0, .int .i64 0, .int .i64 0, .slice none 0 0, .slice none 0 0, .slice none 0 0, .slice none 0 0] 38)).heap.size = w.heap.size + 2 := by simp
 have HR := yh (h.later nb)
 have HB := yh nb
 have HFT := yh hf
 clear nb1 nb h hf
 go_enter Tryz.func25, Tryz.ntmps25
 go_upto_region 1 with fail
 generalize (w.alloc (.cells #[.int .i64 x.now, .int .i64 x.events, .int .i64 x.chain.epoch, .slice a3 x.chain.ids.length d3, .slice a4 x.nodes.length d4, .slice a5 x.msgs.length d5, .slice a6 x.history.length d6] 36)).alloc (.cells #[.int .i64 0, .bool false, .int .i64 0, .int .i64 0, .int .i64 0, .slice none 0 0, .slice none 0 0, .slice none 0 0, .slice none 0 0] 38) = W1 at *
 have LI : Hid (∀ V, Below W1.heap.size W1 V → Calls Tryz.prog 71 #[.agg #[.int .i64 x.now, .int .i64 x.events, .int .i64 x.chain.epoch, .slice a3 x.chain.ids.length d3, .slice a4 x.nodes.length d4, .slice a5 x.msgs.length d5, .slice a6 x.history.length d6], .int .i64 id] V fun e w' => e = .returned (.int .i64 (idFaultR x id)) ∧ Below V.heap.size V w') := fun V hV => idFaultC _ x id V ((uh HR).later hV)
 have LS : Hid (∀ V, Below W1.heap.size W1 V → Calls Tryz.prog 70 #[.agg #[.int .i64 x.now, .int .i64 x.events, .int .i64 x.chain.epoch, .slice a3 x.chain.ids.length d3, .slice a4 x.nodes.length d4, .slice a5 x.msgs.length d5, .slice a6 x.history.length d6], .int .i64 (idFaultR x id), .func (.func 151) #[] #[.pointer (some ⟨V.heap.size, 0, none⟩)]] (V.alloc (.cells #[.int .i64 id] 2)) fun e w' => ∃ cs', e = .returned (.agg cs'.toArray) ∧ Lay.tWorldResult.OwnIn w' cs' (ackWR x id) V.heap.size w'.heap.size ∧ Below V.heap.size V w') := by
  intro V hV
  have nv : Below V.heap.size V (V.alloc (.cells #[.int .i64 id] 2)) := (Below.refl _ _).alloc (Nat.le_refl _) _
  refine (steppedC 151 _ _ x (idFaultR x id) (ackC (nextW x) id) true (withMsgs (nextW x) (sendM x.msgs (ackM x id)).msgs) _ (fun a W => rfl) ((uh HR).later (hV.trans (nv.mono hV.size))) (fun h0 => worldFault_zero (idFault_zero h0).1) (uh HFT) (ackC_bd _ _) (idFault_bd x id) (fun h0 W hW => ?_)).mono ?_
  ·
   obtain ⟨h1, h2⟩ := idFault_zero h0
   have hok := worldFault_zero h1
   obtain ⟨k, hk, rfl⟩ := nodeIn_at h2
   have hn := hok.nodes k hk
   try rw [nodeOf_at hk]
   exact ackStepC _ k (V.heap.size) (nextW x) W (Box.keep (newBox (Nat.zero_le _)) hW) (by simp) hk hok.some.2 hok.ids hok.chain (hok.nodes k hk).1 hok.net (hok.nodes k hk).2.1
  rintro e w' ⟨cs', rfl, O, hb⟩
  rw [ackW_eq] at O
  exact ⟨cs', rfl, O.mono nv.size (Nat.le_refl _), nv.trans (hb.mono nv.size)⟩
 have hx := uh HX
 have hxl := hx.lt
 have HD : Hid (Below W1.heap.size W1 W1.drew) := (Below.refl _ _).drew
 replace HY : Hid (Box 0 #[.int .i64 0, .bool false, .int .i64 0, .int .i64 0, .int .i64 0, .slice none 0 0, .slice none 0 0, .slice none 0 0, .slice none 0 0] 38 W1.drew (w.heap.size + 1)) := (uh HY)
 refine wp_region_noPanic ?_
 refine wp_region_held_drew (S := fun w' => Ext (fun q => w.heap.size < q) W1 w') (by kernel_rfl) ((Ext.refl _ _).drew 1) (fun zq => ?_)
 generalize W1.drew = wD at zq HD HY ⊢
 refine tkJ 0 (v := ?vf0) ?hf0 zq ?rf0
 case hf0 =>
  intro wS hSw
  have bS := hx.ext hSw (fun e => Nat.lt_irrefl _ e)
  have q0 := Box.at bS 0 _ rfl
  have q1 := Box.at bS 1 _ rfl
  have q2 := Box.at bS 2 _ rfl
  have q3 := Box.at bS 3 _ rfl
  have q4 := Box.at bS 4 _ rfl
  have q5 := Box.at bS 5 _ rfl
  have q6 := Box.at bS 6 _ rfl
  simp only [ga, gb, gc] at q0 q1 q2 q3 q4 q5 q6
  clear bS hSw
  (try dsimp only at hSw)
  go_simp
  try with_reducible rfl
 refine tkJ 1 (v := ?vf1) ?hf1 zq ?rf1
 case hf1 =>
  intro wS hSw
  have bS := hx.ext hSw (fun e => Nat.lt_irrefl _ e)
  have q0 := Box.at bS 0 _ rfl
  have q1 := Box.at bS 1 _ rfl
  have q2 := Box.at bS 2 _ rfl
  have q3 := Box.at bS 3 _ rfl
  have q4 := Box.at bS 4 _ rfl
  have q5 := Box.at bS 5 _ rfl
  have q6 := Box.at bS 6 _ rfl
  simp only [ga, gb, gc] at q0 q1 q2 q3 q4 q5 q6
  clear bS hSw
  (try dsimp only at hSw)
  go_simp
  try with_reducible rfl
 refine tkH 2 zq ?_
 refine tkH 4 zq ?_
 refine rdH 3 (fun K hK => ?_)
 go_simp
 go_at_call 71
 refine (uh LI _ (uh HD)).mono ?_
 rintro e u1 ⟨rfl, hb1⟩
 have HD1 := yh ((uh HD).trans (hb1.mono (uh HD).size))
 have HY1 := yh ((uh HY).keep hb1)
 try go_wp2_with fail
 have hH1 := zq.trans (ext_of_below hb1 (fun q => w.heap.size < q))
 refine hK.out _ _ (zq.trans (ext_of_below hb1 _)) (fun zq => ?_)
 clear hK K
 try simp only [Act.put, pz, py, px]
 refine rdH 5 (fun K hK => ?_)
 go_simp
 go_at_call 82
 refine (ackMake id _).mono ?_
 rintro e u2 ⟨rfl, rfl⟩
 try go_wp2_with fail
 refine hK.out _ _ (zq.trans (ext_of_below ((Below.refl _ _).alloc (Nat.le_refl _) _) _)) (fun zq => ?_)
 clear hK K
 try simp only [Act.put, pz, py, px]
 refine rdH 6 (fun K hK => ?_)
 go_simp
 go_at_call 70
 refine (uh LS u1 (uh HD1)).mono ?_
 rintro e u3 ⟨cs, rfl, O, hb3⟩
 obtain ⟨a5r, d5r, a6r, d6r, a7r, d7r, a8r, d8r, rfl, -⟩ := open_WorldResult O.reads
 have hy := (uh HY1).keep hb3
 try go_wp2_with fail
 refine hK.out _ _ (hH1.trans (ext_of_below hb3 _)) (fun zq => ?_)
 clear hK K
 try simp only [Act.put, pz, py, px]
 refine rdH 7 (fun K hK => ?_)
 generalize hyr : ackWR x id = yr at *
 have HYR := yh hyr
 clear hyr
 have r0 := Box.at hy 0 _ rfl
 have r1 := Box.at hy 1 _ rfl
 have r2 := Box.at hy 2 _ rfl
 have r3 := Box.at hy 3 _ rfl
 have r4 := Box.at hy 4 _ rfl
 have r5 := Box.at hy 5 _ rfl
 have r6 := Box.at hy 6 _ rfl
 have r7 := Box.at hy 7 _ rfl
 have r8 := Box.at hy 8 _ rfl
 simp only [ga, gb, gc] at r0 r1 r2 r3 r4 r5 r6 r7 r8
 have rf := Box.soft hy
 have rl := hy.lt
 go_simp
 refine hK.out _ _ (Ext.setCell (Ext.setCell (Ext.setCell (Ext.setCell (Ext.setCell (Ext.setCell (Ext.setCell (Ext.setCell (Ext.setCell zq ⟨w.heap.size + 1, 0, none⟩ (.int .i64 yr.code) (Nat.lt_succ_self _)) ⟨w.heap.size + 1, 1, none⟩ (.bool yr.moved) (Nat.lt_succ_self _)) ⟨w.heap.size + 1, 2, none⟩ (.int .i64 yr.world.now) (Nat.lt_succ_self _)) ⟨w.heap.size + 1, 3, none⟩ (.int .i64 yr.world.events) (Nat.lt_succ_self _)) ⟨w.heap.size + 1, 4, none⟩ (.int .i64 yr.world.chain.epoch) (Nat.lt_succ_self _)) ⟨w.heap.size + 1, 5, none⟩ (.slice a5r yr.world.chain.ids.length d5r) (Nat.lt_succ_self _)) ⟨w.heap.size + 1, 6, none⟩ (.slice a6r yr.world.nodes.length d6r) (Nat.lt_succ_self _)) ⟨w.heap.size + 1, 7, none⟩ (.slice a7r yr.world.msgs.length d7r) (Nat.lt_succ_self _)) ⟨w.heap.size + 1, 8, none⟩ (.slice a8r yr.world.history.length d8r) (Nat.lt_succ_self _)) (fun zq => ?_)
 clear hK K
 try simp only [Act.put, pz, py, px]
 refine wpAnyH_done (by kernel_rfl) ?_ _
 refine NoPanic.normal ?_
 have hy9 := box_set9W hy (.int .i64 yr.code) (.bool yr.moved) (.int .i64 yr.world.now) (.int .i64 yr.world.events) (.int .i64 yr.world.chain.epoch) (.slice a5r yr.world.chain.ids.length d5r) (.slice a6r yr.world.nodes.length d6r) (.slice a7r yr.world.msgs.length d7r) (.slice a8r yr.world.history.length d8r)
 have e2 : Ext (fun q => q = w.heap.size + 1) u3 (setAll u3 (w.heap.size + 1) 0 [.int .i64 yr.code, .bool yr.moved, .int .i64 yr.world.now, .int .i64 yr.world.events, .int .i64 yr.world.chain.epoch, .slice a5r yr.world.chain.ids.length d5r, .slice a6r yr.world.nodes.length d6r, .slice a7r yr.world.msgs.length d7r, .slice a8r yr.world.history.length d8r]) := ext_setAll _ (Ext.refl _ _) _ _ _ rfl
 have hs1 := hb1.size
 have hs2 := (uh HB).size
 have hs3 := (uh HD).size
 have HO := yh (O.ext e2 (fun q h1 h2 h3 => by omega))
 have HB9 := yh (below_setAll (((uh HB).trans ((uh HD1).mono (uh HB).size)).trans (hb3.mono (by omega))) (w.heap.size + 1) 0 [.int .i64 yr.code, .bool yr.moved, .int .i64 yr.world.now, .int .i64 yr.world.events, .int .i64 yr.world.chain.epoch, .slice a5r yr.world.chain.ids.length d5r, .slice a6r yr.world.nodes.length d6r, .slice a7r yr.world.msgs.length d7r, .slice a8r yr.world.history.length d8r] (by omega))
 have hsz : Hid ((setAll u3 (w.heap.size + 1) 0 [.int .i64 yr.code, .bool yr.moved, .int .i64 yr.world.now, .int .i64 yr.world.events, .int .i64 yr.world.chain.epoch, .slice a5r yr.world.chain.ids.length d5r, .slice a6r yr.world.nodes.length d6r, .slice a7r yr.world.msgs.length d7r, .slice a8r yr.world.history.length d8r]).heap.size = u3.heap.size) := size_setAll _ _ _ _
 clear r0 r1 r2 r3 r4 r5 r6 r7 r8 rf rl
 have r0 := Box.at hy9 0 _ rfl
 have r1 := Box.at hy9 1 _ rfl
 have r2 := Box.at hy9 2 _ rfl
 have r3 := Box.at hy9 3 _ rfl
 have r4 := Box.at hy9 4 _ rfl
 have r5 := Box.at hy9 5 _ rfl
 have r6 := Box.at hy9 6 _ rfl
 have r7 := Box.at hy9 7 _ rfl
 have r8 := Box.at hy9 8 _ rfl
 simp only [ga, gb, gc] at r0 r1 r2 r3 r4 r5 r6 r7 r8
 clear hy hy9 zq e2 O hb3 hb1
 go_wp2_with fail
 refine bodyPost_ret (v := .agg #[.int .i64 yr.code, .bool yr.moved, .int .i64 yr.world.now, .int .i64 yr.world.events, .int .i64 yr.world.chain.epoch, .slice a5r yr.world.chain.ids.length d5r, .slice a6r yr.world.nodes.length d6r, .slice a7r yr.world.msgs.length d7r, .slice a8r yr.world.history.length d8r]) (by simp only [setAll] at r0 r1 r2 r3 r4 r5 r6 r7 r8; simp [results, Tryz.results25, go_sem, r0, r1, r2, r3, r4, r5, r6, r7, r8]) rfl ?_
 rw [uh HYR]
 exact ⟨_, rfl, (uh HO).mono (by omega) (Nat.le_of_eq (uh hsz).symm), uh HB9⟩
theorem lawAckWorld (cs : List Value) (x : DWorld) (id : Int) (w : World) (h : Lay.tWorld.Reads w cs x) :
  Calls Tryz.prog 4 #[.agg cs.toArray, .int .i64 id] w fun e w' => e = .returned (.bool true) ∧ Below w.heap.size w w' := by
 by_cases hn : Lay.tWorld.sz x ≤ 1048576
 ·
  refine lawx_AckWorld cs x id (ackWR x id) w h hn (fun W a ha => specAckWorld a x id W ha (fits_of_sz hn)) (fun W a ha => implAckWorld a x id W ha (fits_of_sz hn)) (ackWR_few hn)
 exact lawover_AckWorld cs x id w h (by omega)
theorem opens_Chain : Opens Lay.tChain 24 := by
 intro H enc W base spare held fuel cs x h
 obtain ⟨xs, n, _, _, hlen, hl, hfi⟩ := DataW.trod_struct Tryz.underlying24 h
 rw [show Tryz.prog.cellsOf 24 = 2 by kernel_rfl] at hlen
 match cs, hlen with
 | [c0, c1], _ =>
 match xs, hl with
 | [y0, y1], _ =>
 have z0 : Tryz.prog.cellsOf 2 = 1 := by kernel_rfl
 have z1 : Tryz.prog.cellsOf 22 = 1 := by kernel_rfl
 have f0 : DataW.trod enc Tryz.prog W base spare held n 2 (([c0, c1].drop 0).take (Tryz.prog.cellsOf 2)) = some y0 := hfi 0 _ rfl
 rw [z0] at f0
 obtain ⟨d0, r0⟩ := (opens_int Tryz.underlying2) enc W base spare held n _ _ f0
 have f1 : DataW.trod enc Tryz.prog W base spare held n 22 (([c0, c1].drop 1).take (Tryz.prog.cellsOf 22)) = some y1 := hfi 1 _ rfl
 rw [z1] at f1
 obtain ⟨d1, r1⟩ := (opens_sl Tryz.underlying22 (by kernel_rfl) (by decide) (opens_int Tryz.underlying2)) enc W base spare held n _ _ f1
 exact ⟨⟨d0, d1⟩, (reads_pair r0 r1)⟩
end Go.Proofs.YtoanimpijfijgaaGreat
