/-
  Texts of this proof in one: SpecFinW, WorldEntry, ImplTold, ImplTail, ImplTailIn, ImplSure, ImplLast, ImplSeenAt, ImplFinS, ImplFinW, LawFinW.
  Their conditions stand in their theorems.
-/
import Derived.Test.YtoanimpijfijgaaGreatFi13
import Derived.Test.YtoanimpijfijgaaGreatFi07
import Derived.Deep.RegionHeld3
import Derived.Test.YtoanimpijfijgaaGreatFi00
import Derived.Test.YtoanimpijfijgaaGreatFi04
import Derived.Test.YtoanimpijfijgaaGreatFi01
import Derived.Test.YtoanimpijfijgaaGreatChecked
import Derived.Test.YtoanimpijfijgaaGreatFi05
import Derived.WalkKit
import Derived.Deep.CutRange
import Derived.Test.YtoanimpijfijgaaGreatFi10
import Derived.Test.YtoanimpijfijgaaGreatFi06
import Derived.Deep.QuietTactic
import Derived.BigQuiet
set_option maxRecDepth 100000
set_option maxHeartbeats 4000000
namespace Go.Proofs.YtoanimpijfijgaaGreat
open Go.RowKit
theorem specFinishWorld (cs : List Value) (x : DWorld) (s q : Int) (w : World) (h : Lay.tWorld.Reads w cs x) (hf : Fits x) :
  Calls Tryz.prog 47 #[.agg cs.toArray, .int .i64 s, .int .i64 q] w fun e w' => ∃ cs', e = .returned (.agg cs'.toArray) ∧ Lay.tWorldResult.Reads w' cs' (finWR x s q) ∧ Below w.heap.size w w' := by
 have HP : Hid (finWR x s q = if asked13 x ≠ 0 then badWorld (asked13 x) else if toldP x.history s q < 0 then badWorld 4 else if (entryAt x s q).fin ≠ 0 then badWorld 6 else if seenI (sureWs x) s q = 0 then badWorld 8 else ⟨0, true, finished (nextW x) s q⟩) := rfl
 obtain ⟨a3, d3, a4, d4, a5, d5, a6, d6, rfl, -, -, -, -⟩ := open_World h
 have HBN : Hid (∀ b off, a4 = some ⟨b, off, none⟩ → 0 < x.nodes.length → b < w.heap.size) := fun b off e hp => by
  obtain ⟨_, _, _, _, _, _, _, _, hq, -, RN, -, -⟩ := open_World h
  simp only [List.cons.injEq, Value.slice.injEq, and_true, true_and] at hq
  obtain ⟨-, ⟨rfl, rfl⟩, -, -, -⟩ := hq
  obtain ⟨b', off', e', hb⟩ := Lay.sl_addr RN hp
  rw [e] at e'
  simp only [Option.some.injEq, Addr.mk.injEq, and_true] at e'
  obtain ⟨rfl, -⟩ := e'
  exact hb
 have nb : Below w.heap.size w ((w.alloc (.cells #[.int .i64 x.now, .int .i64 x.events, .int .i64 x.chain.epoch, .slice a3 x.chain.ids.length d3, .slice a4 x.nodes.length d4, .slice a5 x.msgs.length d5, .slice a6 x.history.length d6] 36)).alloc (.cells #[.int .i64 0, .bool false, .int .i64 0, .int .i64 0, .int .i64 0, .slice none 0 0, .slice none 0 0, .slice none 0 0, .slice none 0 0] 38)) := ((Below.refl _ _).alloc (Nat.le_refl _) _).alloc (by simp) _
 have HX : Hid (Box 0 #[.int .i64 x.now, .int .i64 x.events, .int .i64 x.chain.epoch, .slice a3 x.chain.ids.length d3, .slice a4 x.nodes.length d4, .slice a5 x.msgs.length d5, .slice a6 x.history.length d6] 36 ((w.alloc (.cells #[.int .i64 x.now, .int .i64 x.events, .int .i64 x.chain.epoch, .slice a3 x.chain.ids.length d3, .slice a4 x.nodes.length d4, .slice a5 x.msgs.length d5, .slice a6 x.history.length d6] 36)).alloc (.cells #[.int .i64 0, .bool false, .int .i64 0, .int .i64 0, .int .i64 0, .slice none 0 0, .slice none 0 0, .slice none 0 0, .slice none 0 0] 38)) w.heap.size) := ((newBox (Nat.zero_le _)).grow _)
 have HY : Hid (Box 0 #[.int .i64 0, .bool false, .int .i64 0, .int .i64 0, .int .i64 0, .slice none 0 0, .slice none 0 0, .slice none 0 0, .slice none 0 0] 38 ((w.alloc (.cells #[.int .i64 x.now, .int .i64 x.events, .int .i64 x.chain.epoch, .slice a3 x.chain.ids.length d3, .slice a4 x.nodes.length d4, .slice a5 x.msgs.length d5, .slice a6 x.history.length d6] 36)).alloc (.cells #[.int .i64 0, .bool false, .int .i64 0, .int .i64 0, .int .i64 0, .slice none 0 0, .slice none 0 0, .slice none 0 0, .slice none 0 0] 38)) (w.heap.size + 1)) := newBoxAt (Nat.zero_le _) (by simp)
 have hz0 : ((w.alloc (.cells #[.int .i64 x.now, .int .i64 x.events, .int .i64 x.chain.epoch, .slice a3 x.chain.ids.length d3, .slice a4 x.nodes.length d4, .slice a5 x.msgs.length d5, .slice a6 x.history.length d6] 36)).alloc (.cells #[.int .i64 0, .bool false, .int .i64 0, .int .i64 0, .int .i64 0, .slice none 0 0, .slice none 0 0, .slice none 0 0, .slice none 0 0] 38)).heap.size = w.heap.size + 2 := by simp
 have HR := yh (h.later nb)
 have HB := yh nb
 clear nb
 clear h
 generalize finWR x s q = R at *
 go_enter Tryz.func47, Tryz.ntmps47
 go_upto_region 1 with fail
 generalize ((w.alloc (.cells #[.int .i64 x.now, .int .i64 x.events, .int .i64 x.chain.epoch, .slice a3 x.chain.ids.length d3, .slice a4 x.nodes.length d4, .slice a5 x.msgs.length d5, .slice a6 x.history.length d6] 36)).alloc (.cells #[.int .i64 0, .bool false, .int .i64 0, .int .i64 0, .int .i64 0, .slice none 0 0, .slice none 0 0, .slice none 0 0, .slice none 0 0] 38)) = W0 at *
 go_wp2_with fail
 refine (l13AskedC a3 d3 a4 d4 a5 d5 a6 d6 x w.heap.size W0 (uh HX) (uh HR)).mono ?_
 rintro e wa ⟨rfl, hb⟩
 replace HX := yh ((uh HX).keep hb)
 replace HR := yh ((uh HR).later hb)
 replace HY := yh ((uh HY).keep hb)
 replace HB := yh ((uh HB).trans (hb.mono (uh HB).size))
 have hza := hb.size
 clear hb
 by_cases d1 : asked13 x ≠ 0
 ·
  have hd : (asked13 x != 0) = true := by simpa using d1
  replace HP := yh ((uh HP).trans (if_pos d1))
  have HC := yh (asked13_bd x)
  clear d1 hf
  generalize asked13 x = c at *
  go_wp2_with fail
  refine (l12BadCZ (c) _).mono ?_
  rintro e wB ⟨rfl, hbB⟩
  have hyB := (uh HY).keep hbB
  have z0 := Box.at hyB 0 _ rfl
  have z1 := Box.at hyB 1 _ rfl
  have z2 := Box.at hyB 2 _ rfl
  have z3 := Box.at hyB 3 _ rfl
  have z4 := Box.at hyB 4 _ rfl
  have z5 := Box.at hyB 5 _ rfl
  have z6 := Box.at hyB 6 _ rfl
  have z7 := Box.at hyB 7 _ rfl
  have z8 := Box.at hyB 8 _ rfl
  simp only [ga, gb, gc] at z0 z1 z2 z3 z4 z5 z6 z7 z8
  have zf := Box.soft hyB
  have zl := hyB.lt
  have HB9 := yh (below_setAll ((uh HB).trans (hbB.mono (uh HB).size)) (w.heap.size + 1) 0 [.int .i64 c, .bool false, .int .i64 0, .int .i64 0, .int .i64 0, .slice none 0 0, .slice none 0 0, .slice none 0 0, .slice none 0 0] (by omega))
  clear hyB hbB HY HB
  go_wp2_with fail
  refine bodyPost_ret (v := .agg #[.int .i64 c, .bool false, .int .i64 0, .int .i64 0, .int .i64 0, .slice none 0 0, .slice none 0 0, .slice none 0 0, .slice none 0 0]) (by simp [results, Tryz.results47, go_sem, z0, z1, z2, z3, z4, z5, z6, z7, z8]) rfl ?_
  rw [uh HP]
  exact ⟨[.int .i64 c, .bool false, .int .i64 0, .int .i64 0, .int .i64 0, .slice none 0 0, .slice none 0 0, .slice none 0 0, .slice none 0 0], rfl, (own_badW (uh HC) (lo := 0) (hi := 0) (Nat.le_refl 0)).lies.reads, uh HB9⟩
 replace HP := yh ((uh HP).trans (if_neg d1))
 have hd0 : asked13 x = 0 := by simpa using d1
 have hok := worldFault_zero (asked13_ok hd0)
 rw [hd0]
 clear d1 hd0
 have HOK := yh hok
 have HLT := yh (l12ToldC a3 d3 a4 d4 a5 d5 a6 d6 x s q w.heap.size wa (uh HX) (uh HR) (by have := hok.few; omega))
 obtain ⟨kt, hkt, het⟩ := tail_at hok
 have HTI := yh het
 have hsw : sureWs x = (x.nodes[kt].writes.take x.nodes[kt].sure.toNat) := by
  rw [sureWs, het, nodeOf_at hkt]
 rw [hsw] at HP
 have HSW := yh hsw
 clear hok het hsw
 go_wp2_with fail
 refine (uh HLT).mono ?_
 rintro e wt ⟨rfl, hwt⟩
 subst wt
 clear HLT
 generalize htp : toldP x.history s q = tp at *
 have HTP := yh htp
 clear htp
 by_cases hneg : tp < 0
 ·
  have hd : decide (tp < 0) = true := by simpa using hneg
  replace HP := yh ((uh HP).trans (if_pos hneg))
  have HC : Hid (-1000000000 ≤ (4 : Int) ∧ (4 : Int) ≤ 1000000000) := by show (-1000000000 : Int) ≤ 4 ∧ (4 : Int) ≤ 1000000000; omega
  clear hneg HOK hf
  go_wp2_with fail
  refine (l12BadCZ (4) _).mono ?_
  rintro e wB ⟨rfl, hbB⟩
  have hyB := (uh HY).keep hbB
  have z0 := Box.at hyB 0 _ rfl
  have z1 := Box.at hyB 1 _ rfl
  have z2 := Box.at hyB 2 _ rfl
  have z3 := Box.at hyB 3 _ rfl
  have z4 := Box.at hyB 4 _ rfl
  have z5 := Box.at hyB 5 _ rfl
  have z6 := Box.at hyB 6 _ rfl
  have z7 := Box.at hyB 7 _ rfl
  have z8 := Box.at hyB 8 _ rfl
  simp only [ga, gb, gc] at z0 z1 z2 z3 z4 z5 z6 z7 z8
  have zf := Box.soft hyB
  have zl := hyB.lt
  have HB9 := yh (below_setAll ((uh HB).trans (hbB.mono (uh HB).size)) (w.heap.size + 1) 0 [.int .i64 4, .bool false, .int .i64 0, .int .i64 0, .int .i64 0, .slice none 0 0, .slice none 0 0, .slice none 0 0, .slice none 0 0] (by omega))
  clear hyB hbB HY HB
  go_wp2_with fail
  refine bodyPost_ret (v := .agg #[.int .i64 4, .bool false, .int .i64 0, .int .i64 0, .int .i64 0, .slice none 0 0, .slice none 0 0, .slice none 0 0, .slice none 0 0]) (by simp [results, Tryz.results47, go_sem, z0, z1, z2, z3, z4, z5, z6, z7, z8]) rfl ?_
  rw [uh HP]
  exact ⟨[.int .i64 4, .bool false, .int .i64 0, .int .i64 0, .int .i64 0, .slice none 0 0, .slice none 0 0, .slice none 0 0, .slice none 0 0], rfl, (own_badW (uh HC) (lo := 0) (hi := 0) (Nat.le_refl 0)).lies.reads, uh HB9⟩
 have hd : decide (tp < 0) = false := by simpa using hneg
 replace HP := yh ((uh HP).trans (if_neg hneg))
 obtain ⟨k, hk, hk1, hk2⟩ := toldP_some (es := x.history) (s := s) (q := q) (by rw [uh HTP]; omega)
 rw [uh HTP] at hk1
 subst hk1
 have hea : entryAt x s q = x.history[k] := by
  rw [entryAt, hk2]
  simp [List.getD, hk]
 rw [hea] at HP
 have HEA := yh hea
 have HK2 := yh hk2
 clear hea hk2 hneg
 obtain ⟨_, _, _, _, _, _, _, _, hq, -, RN, -, RE⟩ := open_World (uh HR)
 simp only [List.cons.injEq, Value.slice.injEq, and_true, true_and] at hq
 obtain ⟨-, ⟨rfl, rfl⟩, -, ⟨rfl, rfl⟩⟩ := hq
 obtain ⟨bh, offh, rfl, hbhl⟩ := Lay.sl_addr RE (by omega)
 obtain ⟨b0, off0, rfl, hb0l⟩ := Lay.sl_addr RN (by omega)
 obtain ⟨row, hcl, hr⟩ := Lay.row_at RE hk
 obtain ⟨aq, dq, av, dv, ah, dh, rfl, -, -, -⟩ := open_Entry hr
 have x7 : wa.cell? ⟨bh, offh + k * 11 + 7, none⟩ = some (.int .i64 x.history[k].fin) := hcl 7 (by decide)
 have z6 := Box.at (uh HX) 6 _ rfl
 simp only [ga, gb, gc] at z6
 have zl := (uh HX).lt
 have hki : (k : Int) < (x.history.length : Int) := by omega
 have hki0 : (0 : Int) ≤ (k : Int) := by omega
 clear RN RE hcl hr
 by_cases hfin : x.history[k].fin ≠ 0
 ·
  have hdf : (x.history[k].fin != 0) = true := by simpa using hfin
  replace HP := yh ((uh HP).trans (if_pos hfin))
  have HC : Hid (-1000000000 ≤ (6 : Int) ∧ (6 : Int) ≤ 1000000000) := by show (-1000000000 : Int) ≤ 6 ∧ (6 : Int) ≤ 1000000000; omega
  clear hfin HOK hf
  go_wp2_with fail
  refine (l12BadCZ (6) _).mono ?_
  rintro e wB ⟨rfl, hbB⟩
  have hyB := (uh HY).keep hbB
  have z0 := Box.at hyB 0 _ rfl
  have z1 := Box.at hyB 1 _ rfl
  have z2 := Box.at hyB 2 _ rfl
  have z3 := Box.at hyB 3 _ rfl
  have z4 := Box.at hyB 4 _ rfl
  have z5 := Box.at hyB 5 _ rfl
  have z6 := Box.at hyB 6 _ rfl
  have z7 := Box.at hyB 7 _ rfl
  have z8 := Box.at hyB 8 _ rfl
  simp only [ga, gb, gc] at z0 z1 z2 z3 z4 z5 z6 z7 z8
  have zf := Box.soft hyB
  have zl := hyB.lt
  have HB9 := yh (below_setAll ((uh HB).trans (hbB.mono (uh HB).size)) (w.heap.size + 1) 0 [.int .i64 6, .bool false, .int .i64 0, .int .i64 0, .int .i64 0, .slice none 0 0, .slice none 0 0, .slice none 0 0, .slice none 0 0] (by omega))
  clear hyB hbB HY HB
  go_wp2_with fail
  refine bodyPost_ret (v := .agg #[.int .i64 6, .bool false, .int .i64 0, .int .i64 0, .int .i64 0, .slice none 0 0, .slice none 0 0, .slice none 0 0, .slice none 0 0]) (by simp [results, Tryz.results47, go_sem, z0, z1, z2, z3, z4, z5, z6, z7, z8]) rfl ?_
  rw [uh HP]
  exact ⟨[.int .i64 6, .bool false, .int .i64 0, .int .i64 0, .int .i64 0, .slice none 0 0, .slice none 0 0, .slice none 0 0, .slice none 0 0], rfl, (own_badW (uh HC) (lo := 0) (hi := 0) (Nat.le_refl 0)).lies.reads, uh HB9⟩
 have hdf : (x.history[k].fin != 0) = false := by simpa using hfin
 replace HP := yh ((uh HP).trans (if_neg hfin))
 have HLT := yh (l13TailC a3 d3 d4 a5 d5 (some ⟨bh, offh, none⟩) d6 b0 off0 kt x w.heap.size wa (uh HX) (uh HR) (uh HOK) hkt (uh HTI))
 clear hfin
 go_wp2_with fail
 refine (uh HLT).mono ?_
 rintro e w5 ⟨rfl, hb5⟩
 replace HX := yh ((uh HX).keep hb5)
 replace HR := yh ((uh HR).later hb5)
 replace HY := yh ((uh HY).keep hb5)
 replace HB := yh ((uh HB).trans (hb5.mono (uh HB).size))
 have hz5 := hb5.size
 clear hb5 HLT x7 z6 zl hdf hd
 go_upto_region 10 with fail
 have nd : Below w5.heap.size w5 w5.drew := (Below.refl _ _).drew
 replace HX := yh ((uh HX).keep nd)
 replace HR := yh ((uh HR).later nd)
 replace HY := yh ((uh HY).keep nd)
 replace HB := yh ((uh HB).trans (nd.mono (uh HB).size))
 have HSZ : Hid (w5.heap.size ≤ w5.drew.heap.size) := nd.size
 obtain ⟨_, _, _, _, _, _, _, _, hq, -, RN, -, -⟩ := open_World (uh HR)
 simp only [List.cons.injEq, Value.slice.injEq, and_true, true_and] at hq
 obtain ⟨-, ⟨rfl, rfl⟩, -, -, -⟩ := hq
 obtain ⟨rowt, hclt, hrt⟩ := Lay.row_at RN hkt
 obtain ⟨an, dn, rfl, RW⟩ := open_Node hrt
 have hnt := nodeFault_zero ((uh HOK).nodes kt hkt).1
 obtain ⟨m, hm⟩ : ∃ m : Nat, x.nodes[kt].sure = (m : Int) := ⟨x.nodes[kt].sure.toNat, by have := hnt.sure; omega⟩
 have s4 : w5.drew.cell? ⟨b0, off0 + kt * 7 + 4, none⟩ = some (.slice an x.nodes[kt].writes.length dn) := hclt 4 (by decide)
 have s5 : w5.drew.cell? ⟨b0, off0 + kt * 7 + 5, none⟩ = some (.int .i64 x.nodes[kt].sure) := hclt 5 (by decide)
 rw [hm] at s5
 have hmw : m ≤ x.nodes[kt].writes.length := by have := hnt.sure; omega
 have hm40 : m ≤ 40 := by have := hnt.len; omega
 have hmd : m ≤ dn := Nat.le_trans hmw RW.cap.2
 have htm : x.nodes[kt].sure.toNat = m := by omega
 rw [htm] at HP HSW
 have HT := sl_take_lies RW.liesIn m hmw
 have hlt : (x.nodes[kt].writes.take m).length = m := by rw [List.length_take]; omega
 have HL5 := yh (l5SeenC _ (x.nodes[kt].writes.take m) s q w5.drew HT.reads (by rw [hlt]; omega))
 have HSB : Hid (seenI (x.nodes[kt].writes.take m) s q ≤ 40) := by
  have := seenI_le (x.nodes[kt].writes.take m) s q
  rw [hlt] at this
  show seenI (x.nodes[kt].writes.take m) s q ≤ 40
  omega
 clear RN hclt hrt RW hnt hm nd HT hlt htm
 refine wp_region_noPanic ?_
 refine wp_region_held_drew (S := fun w' => w' = w5.drew) (by kernel_rfl) rfl (fun zq => ?_)
 generalize w5.drew = wD at zq HL5 s4 s5 HX HR HY HB HSZ ⊢
 refine tkH 0 zq ?_
 refine tkH 1 zq ?_
 refine tkH 2 zq ?_
 refine tkJ 3 (v := ?ve3) ?he3 zq ?re3
 case he3 =>
  intro wS hSw
  subst hSw
  (try dsimp only at hSw)
  go_simp
  try with_reducible rfl
 refine tkH 4 zq ?_
 refine tkH 5 zq ?_
 refine tkH 6 zq ?_
 refine tkJ 7 (v := ?ve7) ?he7 zq ?re7
 case he7 =>
  intro wS hSw
  subst hSw
  (try dsimp only at hSw)
  go_simp
  try with_reducible rfl
 refine tkH 8 zq ?_
 refine tkH 9 zq ?_
 refine tkH 10 zq ?_
 refine rdH 11 (fun K hK => ?_)
 go_simp
 go_at_call 116
 refine (uh HL5).mono ?_
 rintro e u ⟨rfl, hu⟩
 subst hu
 try go_wp2_with fail
 refine hK.out _ _ rfl (fun zq => ?_)
 clear hK K
 try simp only [Act.put, pz, py, px]
 refine tkH 12 zq ?_
 refine wpAnyH_done (by kernel_rfl) ?_ _
 refine NoPanic.normal ?_
 clear zq s4 s5 HL5
 have hzD := uh HSZ
 by_cases hs0 : seenI (x.nodes[kt].writes.take m) s q = 0
 ·
  replace HP := yh ((uh HP).trans (if_pos hs0))
  have hds : (((seenI (x.nodes[kt].writes.take m) s q : Nat) : Int) == 0) = true := by simpa using hs0
  have HC : Hid (-1000000000 ≤ (8 : Int) ∧ (8 : Int) ≤ 1000000000) := by show (-1000000000 : Int) ≤ 8 ∧ (8 : Int) ≤ 1000000000; omega
  clear hs0 HOK hf
  generalize seenI (x.nodes[kt].writes.take m) s q = sn at *
  go_wp2_with fail
  refine (l12BadCZ (8) _).mono ?_
  rintro e wB ⟨rfl, hbB⟩
  have hyB := (uh HY).keep hbB
  have z0 := Box.at hyB 0 _ rfl
  have z1 := Box.at hyB 1 _ rfl
  have z2 := Box.at hyB 2 _ rfl
  have z3 := Box.at hyB 3 _ rfl
  have z4 := Box.at hyB 4 _ rfl
  have z5 := Box.at hyB 5 _ rfl
  have z6 := Box.at hyB 6 _ rfl
  have z7 := Box.at hyB 7 _ rfl
  have z8 := Box.at hyB 8 _ rfl
  simp only [ga, gb, gc] at z0 z1 z2 z3 z4 z5 z6 z7 z8
  have zf := Box.soft hyB
  have zl := hyB.lt
  have HB9 := yh (below_setAll ((uh HB).trans (hbB.mono (uh HB).size)) (w.heap.size + 1) 0 [.int .i64 8, .bool false, .int .i64 0, .int .i64 0, .int .i64 0, .slice none 0 0, .slice none 0 0, .slice none 0 0, .slice none 0 0] (by omega))
  clear hyB hbB HY HB
  go_wp2_with fail
  refine bodyPost_ret (v := .agg #[.int .i64 8, .bool false, .int .i64 0, .int .i64 0, .int .i64 0, .slice none 0 0, .slice none 0 0, .slice none 0 0, .slice none 0 0]) (by simp [results, Tryz.results47, go_sem, z0, z1, z2, z3, z4, z5, z6, z7, z8]) rfl ?_
  rw [uh HP]
  exact ⟨[.int .i64 8, .bool false, .int .i64 0, .int .i64 0, .int .i64 0, .slice none 0 0, .slice none 0 0, .slice none 0 0, .slice none 0 0], rfl, (own_badW (uh HC) (lo := 0) (hi := 0) (Nat.le_refl 0)).lies.reads, uh HB9⟩
 replace HP := yh ((uh HP).trans (if_neg hs0))
 have hds : (((seenI (x.nodes[kt].writes.take m) s q : Nat) : Int) == 0) = false := by simpa using hs0
 have HZ : Hid (finished (nextW x) s q = setH (nextW x) k (overE x.history[k] (x.events + 1) ((seenI (x.nodes[kt].writes.take m) s q : Nat) : Int))) := by
  show finished (nextW x) s q = _
  have e1 : toldI (nextW x).history s q = k := uh HK2
  have e2 : entryAt (nextW x) s q = x.history[k] := uh HEA
  have e3 : sureWs (nextW x) = x.nodes[kt].writes.take m := uh HSW
  rw [finished, e1, e2, e3]
  rfl
 rw [uh HZ] at HP
 clear hs0 HZ HEA HK2 HSW HTP
 generalize seenI (x.nodes[kt].writes.take m) s q = sn at *
 have HL := yh (l12NextH _ x u (uh HR) (uh HOK) hf)
 have z0 := Box.at (uh HX) 0 _ rfl
 have z1 := Box.at (uh HX) 1 _ rfl
 have z2 := Box.at (uh HX) 2 _ rfl
 have z3 := Box.at (uh HX) 3 _ rfl
 have z4 := Box.at (uh HX) 4 _ rfl
 have z5 := Box.at (uh HX) 5 _ rfl
 have z6 := Box.at (uh HX) 6 _ rfl
 simp only [ga, gb, gc] at z0 z1 z2 z3 z4 z5 z6
 have zl := (uh HX).lt
 go_wp2_with fail
 refine (uh HL).mono ?_
 rintro e W1 ⟨cs', rfl, O, hb⟩
 have hop := open_World O.reads
 dsimp only [nextW] at hop
 obtain ⟨a3w, d3w, a4w, d4w, a5w, d5w, a6w, d6w, rfl, -⟩ := hop
 have hz1 : u.heap.size ≤ W1.heap.size := hb.size
 have nb : Below W1.heap.size W1 (W1.alloc (.cells #[.int .i64 x.now, .int .i64 (x.events + 1), .int .i64 x.chain.epoch, .slice a3w x.chain.ids.length d3w, .slice a4w x.nodes.length d4w, .slice a5w x.msgs.length d5w, .slice a6w x.history.length d6w] 36)) := (Below.refl _ _).alloc (Nat.le_refl _) _
 have HG : Hid (Box 0 #[.int .i64 x.now, .int .i64 (x.events + 1), .int .i64 x.chain.epoch, .slice a3w x.chain.ids.length d3w, .slice a4w x.nodes.length d4w, .slice a5w x.msgs.length d5w, .slice a6w x.history.length d6w] 36 (W1.alloc (.cells #[.int .i64 x.now, .int .i64 (x.events + 1), .int .i64 x.chain.epoch, .slice a3w x.chain.ids.length d3w, .slice a4w x.nodes.length d4w, .slice a5w x.msgs.length d5w, .slice a6w x.history.length d6w] 36)) W1.heap.size) := newBox (Nat.zero_le _)
 have HO := yh (O.later nb)
 replace HX := yh (((uh HX).keep hb).keep nb)
 replace HR := yh (((uh HR).later hb).later nb)
 replace HY := yh (((uh HY).keep hb).keep nb)
 replace HB := yh ((uh HB).trans ((hb.trans (nb.mono hb.size)).mono (uh HB).size))
 have hz2 : W1.heap.size < (W1.alloc (.cells #[.int .i64 x.now, .int .i64 (x.events + 1), .int .i64 x.chain.epoch, .slice a3w x.chain.ids.length d3w, .slice a4w x.nodes.length d4w, .slice a5w x.msgs.length d5w, .slice a6w x.history.length d6w] 36)).heap.size := by simp
 clear nb O hb HL
 clear z0 z1 z2 z3 z4 z5 z6 zl hds
 go_upto_region 14 with fail
 generalize W1.alloc (.cells #[.int .i64 x.now, .int .i64 (x.events + 1), .int .i64 x.chain.epoch, .slice a3w x.chain.ids.length d3w, .slice a4w x.nodes.length d4w, .slice a5w x.msgs.length d5w, .slice a6w x.history.length d6w] 36) = W2 at *
 obtain ⟨b, off, cap', aq', dq', av', dv', ah', dh', e6, hlb, hbh, hbl, hR0, hput⟩ := wnewh_over (x := nextW x) (uh HO) hk (by have := (uh HOK).few; show x.history.length ≤ 1000000; omega)
 simp only [Value.slice.injEq] at e6
 obtain ⟨rfl, -, rfl⟩ := e6
 have HRW := yh hR0
 have HPUT := yh hput
 have hgb : W1.heap.size ≠ b := by omega
 have hyb : w.heap.size + 1 ≠ b := by omega
 have hev := (uh HOK).events
 have y6 := Box.at (uh HG) 6 _ rfl
 have y1 := Box.at (uh HG) 1 _ rfl
 simp only [ga, gb, gc] at y6 y1
 have yl := (uh HG).lt
 clear hR0 hput HO
 have x7 : W2.cell? ⟨b, off + k * 11 + 7, none⟩ = some (.int .i64 x.history[k].fin) := (uh HRW).cells 7 (by decide)
 have f7 := (uh HRW).soft (off + k * 11 + 7)
 have bl := (uh HRW).lt
 have e1 : Ext (fun q => q = b) W2 (W2.setCell ⟨b, off + k * 11 + 7, none⟩ (.int .i64 (x.events + 1))) := (Ext.refl _ _).setCell _ _ rfl
 have hR9 := (uh HRW).set 7 (.int .i64 (x.events + 1)) (by decide)
 simp only [List.set_cons_succ, List.set_cons_zero] at hR9
 clear HRW
 have HRW := yh hR9
 have HGN := yh ((uh HG).ext e1 hgb)
 have HYN := yh ((uh HY).ext e1 hyb)
 have HBN2 := yh ((uh HB).trans (e1.below (B := w.heap.size) (uh HB).size (fun c hc e => by omega)))
 clear hR9 e1
 go_upto_region 15 with fail
 generalize W2.setCell ⟨b, off + k * 11 + 7, none⟩ (.int .i64 (x.events + 1)) = Wa at *
 clear x7 f7 bl HG HY HB
 have HG := HGN
 have HY := HYN
 have HB := HBN2
 clear HGN HYN HBN2
 clear y1 y6 yl
 have y6 := Box.at (uh HG) 6 _ rfl
 simp only [ga, gb, gc] at y6
 have yl := (uh HG).lt
 have x8 : Wa.cell? ⟨b, off + k * 11 + 8, none⟩ = some (.int .i64 x.history[k].place) := (uh HRW).cells 8 (by decide)
 have f8 := (uh HRW).soft (off + k * 11 + 8)
 have bl := (uh HRW).lt
 have e1 : Ext (fun q => q = b) Wa (Wa.setCell ⟨b, off + k * 11 + 8, none⟩ (.int .i64 ((sn : Nat) : Int))) := (Ext.refl _ _).setCell _ _ rfl
 have hR9 := (uh HRW).set 8 (.int .i64 ((sn : Nat) : Int)) (by decide)
 simp only [List.set_cons_succ, List.set_cons_zero] at hR9
 clear HRW
 have HRW := yh hR9
 have HGN := yh ((uh HG).ext e1 hgb)
 have HYN := yh ((uh HY).ext e1 hyb)
 have HBN2 := yh ((uh HB).trans (e1.below (B := w.heap.size) (uh HB).size (fun c hc e => by omega)))
 clear hR9 e1
 go_upto_region 16 with fail
 generalize Wa.setCell ⟨b, off + k * 11 + 8, none⟩ (.int .i64 ((sn : Nat) : Int)) = Wb at *
 clear x8 f8 bl HG HY HB
 have HG := HGN
 have HY := HYN
 have HB := HBN2
 clear HGN HYN HBN2
 clear y6 yl
 have hO3 := uh HPUT Wb (x.events + 1) ((sn : Nat) : Int) (wf_of_bd (by omega)) (wf_of_bd (by have := uh HSB; omega)) (uh HRW)
 have HO : Hid (WSt Wb u.heap.size W1.heap.size (fun c => c < 0 ∨ c < wa.heap.size ∨ c = W1.heap.size) [.int .i64 x.now, .int .i64 (x.events + 1), .int .i64 x.chain.epoch, .slice a3w x.chain.ids.length d3w, .slice a4w x.nodes.length d4w, .slice a5w x.msgs.length d5w, .slice (some ⟨b, off, none⟩) x.history.length d6w] (setH (nextW x) k (overE x.history[k] (x.events + 1) ((sn : Nat) : Int)))) := hO3.st (fun c hc => by omega)
 clear hO3 HPUT HRW HX HR
 have y0 := Box.at (uh HG) 0 _ rfl
 have y1 := Box.at (uh HG) 1 _ rfl
 have y2 := Box.at (uh HG) 2 _ rfl
 have y3 := Box.at (uh HG) 3 _ rfl
 have y4 := Box.at (uh HG) 4 _ rfl
 have y5 := Box.at (uh HG) 5 _ rfl
 have y6 := Box.at (uh HG) 6 _ rfl
 simp only [ga, gb, gc] at y0 y1 y2 y3 y4 y5 y6
 have yl := (uh HG).lt
 have r0 := Box.at (uh HY) 0 _ rfl
 have r1 := Box.at (uh HY) 1 _ rfl
 have r2 := Box.at (uh HY) 2 _ rfl
 have r3 := Box.at (uh HY) 3 _ rfl
 have r4 := Box.at (uh HY) 4 _ rfl
 have r5 := Box.at (uh HY) 5 _ rfl
 have r6 := Box.at (uh HY) 6 _ rfl
 have r7 := Box.at (uh HY) 7 _ rfl
 have r8 := Box.at (uh HY) 8 _ rfl
 simp only [ga, gb, gc] at r0 r1 r2 r3 r4 r5 r6 r7 r8
 have rl := (uh HY).lt
 have rf := Box.soft (uh HY)
 have e9 : Ext (fun q => q = w.heap.size + 1) Wb (setAll Wb (w.heap.size + 1) 0 [.int .i64 0, .bool true, .int .i64 x.now, .int .i64 (x.events + 1), .int .i64 x.chain.epoch, .slice a3w x.chain.ids.length d3w, .slice a4w x.nodes.length d4w, .slice a5w x.msgs.length d5w, .slice (some ⟨b, off, none⟩) x.history.length d6w]) := ext_setAll _ (Ext.refl _ _) _ _ _ rfl
 have HO9 := yh (okR_lies (m := true) (((uh HO).ext e9 (fun c h1 h2 h3 => h2 (Or.inr (Or.inl (by omega))))).liesIn (B := 0) (fun c hc => by omega)))
 have HB9 := yh (below_setAll (uh HB) (w.heap.size + 1) 0 [.int .i64 0, .bool true, .int .i64 x.now, .int .i64 (x.events + 1), .int .i64 x.chain.epoch, .slice a3w x.chain.ids.length d3w, .slice a4w x.nodes.length d4w, .slice a5w x.msgs.length d5w, .slice (some ⟨b, off, none⟩) x.history.length d6w] (by omega))
 clear e9 HO HG HY HB
 go_wp2_with fail
 refine bodyPost_ret (v := .agg #[.int .i64 0, .bool true, .int .i64 x.now, .int .i64 (x.events + 1), .int .i64 x.chain.epoch, .slice a3w x.chain.ids.length d3w, .slice a4w x.nodes.length d4w, .slice a5w x.msgs.length d5w, .slice (some ⟨b, off, none⟩) x.history.length d6w]) (by simp [results, Tryz.results47, go_sem, r0, r1, r2, r3, r4, r5, r6, r7, r8]) rfl ?_
 rw [uh HP]
 exact ⟨_, rfl, (uh HO9).reads, uh HB9⟩
theorem wown_over {W : World} {lo g k : Nat} {v3 v4 v5 v6 : Value} {y : DWorld} (h : WOwn W lo g [.int .i64 y.now, .int .i64 y.events, .int .i64 y.chain.epoch, v3, v4, v5, v6] y) (hk : k < y.history.length) :
  ∃ (b off cap : Nat) (aq : Option Addr) (dq : Nat) (av : Option Addr) (dv : Nat) (ah : Option Addr) (dh : Nat), v6 = .slice (some ⟨b, off, none⟩) y.history.length cap ∧ lo ≤ b ∧ b < W.heap.size ∧ b ≠ g ∧ RowAt W W b (off + k * 11) 11 [.int .i64 y.history[k].kind, .int .i64 y.history[k].session, .int .i64 y.history[k].seq, .int .i64 y.history[k].id, .slice aq y.history[k].query.length dq, .int .i64 y.history[k].k, .int .i64 y.history[k].start, .int .i64 y.history[k].fin, .int .i64 y.history[k].place, .slice av y.history[k].vec.length dv, .slice ah y.history[k].hits.length dh] [] ∧
   ∀ (W2 : World) (f p : Int), (Lit.int .i64 f).wf = true → (Lit.int .i64 p).wf = true → RowAt W W2 b (off + k * 11) 11 [.int .i64 y.history[k].kind, .int .i64 y.history[k].session, .int .i64 y.history[k].seq, .int .i64 y.history[k].id, .slice aq y.history[k].query.length dq, .int .i64 y.history[k].k, .int .i64 y.history[k].start, .int .i64 f, .int .i64 p, .slice av y.history[k].vec.length dv, .slice ah y.history[k].hits.length dh] [] → WOwn W2 lo g [.int .i64 y.now, .int .i64 y.events, .int .i64 y.chain.epoch, v3, v4, v5, v6] (setH y k (overE y.history[k] f p)) := by
 obtain ⟨bl, O, hgb, hbl⟩ := h
 obtain ⟨a3, d3, a4, d4, a5, d5, a6, d6, g2, g4, g5, g6, hq, rfl, O2, O4, O5, O6, w0, w1⟩ := own_World O
 simp only [List.cons.injEq, and_true, true_and] at hq
 obtain ⟨rfl, rfl, rfl, rfl⟩ := hq
 have hnd := O.2.1
 obtain ⟨b, off, cap, r, e6, rfl, hA⟩ := Lay.apart_of_own O6 (by omega)
 simp only [Value.slice.injEq, true_and] at e6
 obtain ⟨rfl, rfl⟩ := e6
 obtain ⟨row, blk, hR, hOn, hbk, hsub, hput⟩ := Lay.own_upd O6 hk
 obtain ⟨aq, dq, av, dv, ah, dh, gq, gv, gh, rfl, rfl, Oq, Ov, Oh, n0, n1, n2, n3, n5, n6, n7, n8⟩ := own_Entry hOn
 have hbin := hbl b (by simp)
 have hbg : b ≠ g := fun e => hgb (by rw [← e]; simp)
 rw [List.nodup_append, List.nodup_append, List.nodup_append] at hnd
 obtain ⟨-, ⟨-, ⟨-, -, x5⟩, x4⟩, x2⟩ := hnd
 refine ⟨b, off, d6, aq, dq, av, dv, ah, dh, rfl, hbin.1, hbin.2, hbg, ⟨hR.len, hR.cells, hR.others, hR.soft, hR.lt, Ext.refl _ _⟩, fun W2 f p hf hp hR2 => ?_⟩
 have hE : Ext (fun q => q = b) W W2 := hR2.ext.mono (fun k _ q => by rcases q with q | q; exact q; cases q)
 have Oq2 := Oq.ext hE (fun c hc e => hbk (by simp [← e, hc]))
 have Ov2 := Ov.ext hE (fun c hc e => hbk (by simp [← e, hc]))
 have Oh2 := Oh.ext hE (fun c hc e => hbk (by simp [← e, hc]))
 have hN := mkOwn_Entry (x := overE y.history[k] f p) Oq2 Ov2 Oh2 n0 n1 n2 n3 n5 n6 hf hp hOn.2.1
 have O6' := hput W2 _ (overE y.history[k] f p) ⟨hR2.len, hR2.cells, hR2.others, hR2.soft, hR2.lt, hE.mono (fun q _ e => Or.inl e)⟩ hN
 have P2 := O2.ext hE (fun c hc e => x2 c hc b (by simp) e)
 have P4 := O4.ext hE (fun c hc e => x4 c hc b (by simp) e)
 have P5 := O5.ext hE (fun c hc e => x5 c hc b (by simp) e)
 exact ⟨_, mkOwn_World (x := setH y k (overE y.history[k] f p)) P2 P4 P5 O6' w0 w1 O.2.1, hgb, fun c hc => ⟨(hbl c hc).1, Nat.lt_of_lt_of_le (hbl c hc).2 hE.size⟩⟩
theorem toldEach (cs : List Value) (e : DEntry) (s q : Int) (g : Nat) (w : World) (h : Lay.tEntry.Reads w cs e) (hbx : Box 0 #[.int .i64 s, .int .i64 q] 139 w g) :
  Calls Tryz.prog 257 #[.agg cs.toArray, .pointer (some ⟨g, 0, none⟩)] w fun r w' => r = .returned (.bool (toldB s q e)) ∧ Below w.heap.size w w' := by
 obtain ⟨aq, dq, av, dv, ah, dh, rfl, -, -, -⟩ := open_Entry h
 have nb : Below w.heap.size w (w.alloc (.cells #[.int .i64 e.kind, .int .i64 e.session, .int .i64 e.seq, .int .i64 e.id, .slice aq e.query.length dq, .int .i64 e.k, .int .i64 e.start, .int .i64 e.fin, .int .i64 e.place, .slice av e.vec.length dv, .slice ah e.hits.length dh] 127)) := (Below.refl _ _).alloc (Nat.le_refl _) _
 have hb1 := hbx.keep nb
 have c0 := Box.at hb1 0 _ rfl
 have c1 := Box.at hb1 1 _ rfl
 simp only [ga, gb, gc] at c0 c1
 have cl := hb1.lt
 have HB := yh nb
 clear nb hb1 hbx h
 cases h1 : (e.kind == 1)
 ·
  have HT : Hid (toldB s q e = false) := toldB_false1 h1
  go_enter Tryz.func257, Tryz.ntmps257
  go_wp2_with fail
  go_ret
  exact ⟨by rw [uh HT]; rfl, uh HB⟩
 cases h2 : (e.session == s)
 ·
  have HT : Hid (toldB s q e = false) := toldB_false2 h2
  have HS : ¬ e.session = s := by simpa using h2
  go_enter Tryz.func257, Tryz.ntmps257
  go_wp2_with fail
  go_ret
  exact ⟨by rw [uh HT]; rfl, uh HB⟩
 cases h3 : (e.seq == q)
 ·
  have HT : Hid (toldB s q e = false) := toldB_false3 h3
  go_enter Tryz.func257, Tryz.ntmps257
  go_wp2_with fail
  go_ret
  exact ⟨by rw [uh HT]; rfl, uh HB⟩
 have HT : Hid (toldB s q e = true) := toldB_true h1 h2 h3
 go_enter Tryz.func257, Tryz.ntmps257
 go_wp2_with fail
 go_ret
 exact ⟨by rw [uh HT]; rfl, uh HB⟩
theorem indexFuncT (v : Value) (xs : List DEntry) (s q : Int) (g : Nat) (w : World) (h : (Lay.sl Lay.tEntry).Reads w [v] xs) (hbx : Box 0 #[.int .i64 s, .int .i64 q] 139 w g) :
  Calls Tryz.prog 256 #[v, .func (.func 257) #[] #[.pointer (some ⟨g, 0, none⟩)]] w fun e w' => e = .returned (.int .i64 (toldP xs s q)) ∧ Below w.heap.size w w' := by
 have hbig := h.big
 obtain ⟨ao, cap, rfl⟩ := open_sl h
 have H := yh h
 have HBX := yh hbx
 clear h hbx
 go_enter Tryz.func256, Tryz.ntmps256
 go_wp2_with fail
 go_loopw [8] (fun i wr => ∃ k : Nat, k ≤ xs.length ∧ i = .int .i64 k ∧ (∀ j (hj : j < xs.length), j < k → toldB s q xs[j] = false) ∧ Below w.heap.size w wr) (fun i _ => xs.length - (intOf i).toNat)
 case atStart => exact ⟨0, Nat.zero_le _, rfl, fun j _ hj => by omega, Below.refl _ _⟩
 case round =>
  obtain ⟨k, hk, rfl, hz, hB⟩ := hrel
  by_cases hlt : k < xs.length
  ·
   obtain ⟨b, off, rfl, hbl⟩ := Lay.sl_addr (uh H) (by omega)
   obtain ⟨row, hc, hr⟩ := Lay.row_at (uh H) hlt
   replace hr := hr.later hB
   have hdl : decide ((k : Int) < (xs.length : Int)) = true := by simp; omega
   have hr2 := hr
   obtain ⟨aq, dq, av, dv, ah, dh, rfl, -, -, -⟩ := open_Entry hr2
   have c0 : wr.cell? ⟨b, off + k * 11, none⟩ = some (.int .i64 (xs[k]).kind) := (hB.cell (p := ⟨b, off + k * 11, none⟩) hbl).trans (hc 0 (by decide))
   have c1 : wr.cell? ⟨b, off + k * 11 + 1, none⟩ = some (.int .i64 (xs[k]).session) := (hB.cell (p := ⟨b, off + k * 11 + 1, none⟩) hbl).trans (hc 1 (by decide))
   have c2 : wr.cell? ⟨b, off + k * 11 + 2, none⟩ = some (.int .i64 (xs[k]).seq) := (hB.cell (p := ⟨b, off + k * 11 + 2, none⟩) hbl).trans (hc 2 (by decide))
   have c3 : wr.cell? ⟨b, off + k * 11 + 3, none⟩ = some (.int .i64 (xs[k]).id) := (hB.cell (p := ⟨b, off + k * 11 + 3, none⟩) hbl).trans (hc 3 (by decide))
   have c4 : wr.cell? ⟨b, off + k * 11 + 4, none⟩ = some (.slice aq (xs[k]).query.length dq) := (hB.cell (p := ⟨b, off + k * 11 + 4, none⟩) hbl).trans (hc 4 (by decide))
   have c5 : wr.cell? ⟨b, off + k * 11 + 5, none⟩ = some (.int .i64 (xs[k]).k) := (hB.cell (p := ⟨b, off + k * 11 + 5, none⟩) hbl).trans (hc 5 (by decide))
   have c6 : wr.cell? ⟨b, off + k * 11 + 6, none⟩ = some (.int .i64 (xs[k]).start) := (hB.cell (p := ⟨b, off + k * 11 + 6, none⟩) hbl).trans (hc 6 (by decide))
   have c7 : wr.cell? ⟨b, off + k * 11 + 7, none⟩ = some (.int .i64 (xs[k]).fin) := (hB.cell (p := ⟨b, off + k * 11 + 7, none⟩) hbl).trans (hc 7 (by decide))
   have c8 : wr.cell? ⟨b, off + k * 11 + 8, none⟩ = some (.int .i64 (xs[k]).place) := (hB.cell (p := ⟨b, off + k * 11 + 8, none⟩) hbl).trans (hc 8 (by decide))
   have c9 : wr.cell? ⟨b, off + k * 11 + 9, none⟩ = some (.slice av (xs[k]).vec.length dv) := (hB.cell (p := ⟨b, off + k * 11 + 9, none⟩) hbl).trans (hc 9 (by decide))
   have c10 : wr.cell? ⟨b, off + k * 11 + 10, none⟩ = some (.slice ah (xs[k]).hits.length dh) := (hB.cell (p := ⟨b, off + k * 11 + 10, none⟩) hbl).trans (hc 10 (by decide))
   have HL := yh (toldEach _ xs[k] s q g wr hr ((uh HBX).keep hB))
   have HA : Hid (toldB s q xs[k] = true → toldP xs s q = (k : Int)) := fun c => toldP_at hlt c (fun j hj hjk => hz j hj hjk)
   have HN : Hid (toldB s q xs[k] = false → ∀ j (hj : j < xs.length), j < k + 1 → toldB s q xs[j] = false) := fun c j hj hjk => by
    by_cases h2 : j < k
    ·
     exact hz j hj h2
    obtain rfl : j = k := by omega
    exact c
   have HB := yh hB
   clear hz hB hr hc hr2
   generalize hy : xs[k] = y at *
   clear hy
   go_wp2_with fail
   refine (uh HL).mono ?_
   rintro e w2 ⟨rfl, hb⟩
   replace HB := yh ((uh HB).trans (hb.mono (uh HB).size))
   clear hb HL c0 c1 c2 c3 c4 c5 c6 c7 c8 c9 c10
   cases hq : toldB s q y
   ·
    have HNN := yh (uh HN hq)
    clear HN HA hq
    go_wp2_with fail
    go_roundw
    case rel => exact ⟨k + 1, by omega, by go_num, uh HNN, uh HB⟩
    case measure => simp [intOf]; omega
   have HAA := yh (uh HA hq)
   clear HN HA hq
   go_wp2_with fail
   go_ret
   exact ⟨by rw [uh HAA]; rfl, uh HB⟩
  obtain rfl : k = xs.length := by omega
  have hdl : decide ((xs.length : Int) < (xs.length : Int)) = false := by simp
  have HAN := yh (toldP_none (s := s) (q := q) fun j hj => hz j hj hj)
  have HB := yh hB
  clear hz hB
  go_wp2_with fail
  go_ret
  exact ⟨by rw [uh HAN]; rfl, uh HB⟩
theorem entryOfWriteC (v : Value) (xs : List DEntry) (s q : Int) (w : World) (h : (Lay.sl Lay.tEntry).Reads w [v] xs) :
  Calls Tryz.prog 200 #[v, .agg #[.int .i64 s, .int .i64 q]] w fun e w' => e = .returned (.int .i64 (toldP xs s q)) ∧ Below w.heap.size w w' := by
 have hmf : ∀ (fn : Fn) (first cap : Array Value) (w : World), (Instr.makeFunc fn first cap).run Tryz.prog w = .ok (.func fn first cap) w := fun _ _ _ _ => rfl
 have nb : Below w.heap.size w (w.alloc (.cells #[.int .i64 s, .int .i64 q] 139)) := (Below.refl _ _).alloc (Nat.le_refl _) _
 have HL := yh (indexFuncT v xs s q w.heap.size _ (h.later nb) (newBox (Nat.zero_le _)))
 have HB := yh nb
 obtain ⟨ao, cap, rfl⟩ := open_sl h
 clear nb h
 go_enter Tryz.func200, Tryz.ntmps200
 go_wp2_with fail
 refine (uh HL).mono ?_
 rintro e w2 ⟨rfl, hb⟩
 have HB2 := yh ((uh HB).trans (hb.mono (uh HB).size))
 clear hb HL
 go_wp2_with fail
 go_ret
 exact ⟨rfl, uh HB2⟩
theorem tailOfC (cs : List Value) (x : DChain) (w : World) (h : Lay.tChain.Reads w cs x) (k : Nat) (hk : x.ids.length = k + 1) (hn : x.ids.length ≤ 5) :
  Calls Tryz.prog 177 #[.agg cs.toArray] w fun e w' => e = .returned (.int .i64 (x.ids.getD k 0)) ∧ Below w.heap.size w w' := by
 obtain ⟨a3, d3, rfl, R3⟩ := open_Chain h
 have hlt : k < x.ids.length := by omega
 have hv : x.ids.getD k 0 = x.ids[k] := by simp [List.getD, hlt]
 rw [hv]
 have nb : Below w.heap.size w (w.alloc (.cells #[.int .i64 x.epoch, .slice a3 x.ids.length d3] 31)) := (Below.refl _ _).alloc (Nat.le_refl _) _
 have HX : Hid (Box 0 #[.int .i64 x.epoch, .slice a3 x.ids.length d3] 31 (w.alloc (.cells #[.int .i64 x.epoch, .slice a3 x.ids.length d3] 31)) w.heap.size) := newBox (Nat.zero_le _)
 have R := R3.later nb
 obtain ⟨b, off, rfl, hbl⟩ := Lay.sl_addr R (by omega)
 have c1 := int_cell R hlt
 have HB := yh nb
 have hw1 : IntKind.i64.wrap ((k : Int) + 1 - 1) = (k : Int) := by rw [IntKind.wrap_i64]; omega
 have hw2 : IntKind.i64.wrap (k : Int) = (k : Int) := by rw [IntKind.wrap_i64]; omega
 have hki0 : (0 : Int) ≤ (k : Int) := by omega
 have hki : (k : Int) < ((k + 1 : Nat) : Int) := by omega
 have hks : ((k + 1 : Nat) : Int) - 1 = (k : Int) := by omega
 clear hv
 generalize x.ids[k] = z at *
 have HK := yh hk
 clear nb R R3 h hlt hn hk
 go_enter Tryz.func177, Tryz.ntmps177
 go_upto_region 1 with fail
 generalize hWW : w.alloc (.cells #[.int .i64 x.epoch, .slice (some ⟨b, off, none⟩) x.ids.length d3] 31) = w1 at *
 have z1 := Box.at (uh HX) 1 _ rfl
 simp only [ga, gb, gc] at z1
 have zl := (uh HX).lt
 clear hWW HX
 have hk := uh HK
 rw [hk] at z1
 clear hk HK
 go_wp2_with fail
 go_ret
 exact ⟨rfl, uh HB⟩
theorem tailInC (cs : List Value) (x : DWorld) (k : Nat) (w : World) (h : Lay.tWorld.Reads w cs x) (hok : WorldMid x) (hk : k < x.nodes.length) (ht : tailId x = (k : Int) + 1) :
  Calls Tryz.prog 96 #[.agg cs.toArray] w fun e w' => ∃ an dn, e = .returned (.agg #[.int .i64 x.nodes[k].id, .bool x.nodes[k].up, .int .i64 x.nodes[k].epoch, .int .i64 x.nodes[k].lease, .slice an x.nodes[k].writes.length dn, .int .i64 x.nodes[k].sure, .int .i64 x.nodes[k].clean]) ∧ Lay.tNode.Reads w' [.int .i64 x.nodes[k].id, .bool x.nodes[k].up, .int .i64 x.nodes[k].epoch, .int .i64 x.nodes[k].lease, .slice an x.nodes[k].writes.length dn, .int .i64 x.nodes[k].sure, .int .i64 x.nodes[k].clean] x.nodes[k] ∧ Below w.heap.size w w' := by
 obtain ⟨a3, d3, a4, d4, a5, d5, a6, d6, rfl, RC0, RN0, -, -⟩ := open_World h
 obtain ⟨b, off, rfl, hbl⟩ := Lay.sl_addr RN0 (by omega)
 obtain ⟨row, hcl, hr⟩ := Lay.row_at RN0 hk
 have hr0 := hr
 obtain ⟨an, dn, rfl, -⟩ := open_Node hr
 have nb : Below w.heap.size w ((w.alloc (.cells #[.int .i64 x.now, .int .i64 x.events, .int .i64 x.chain.epoch, .slice a3 x.chain.ids.length d3, .slice (some ⟨b, off, none⟩) x.nodes.length d4, .slice a5 x.msgs.length d5, .slice a6 x.history.length d6] 36)).alloc (.cells #[.int .i64 0, .bool false, .int .i64 0, .int .i64 0, .slice none 0 0, .int .i64 0, .int .i64 0] 84)) := ((Below.refl _ _).alloc (Nat.le_refl _) _).alloc (by simp) _
 have HX : Hid (Box 0 #[.int .i64 x.now, .int .i64 x.events, .int .i64 x.chain.epoch, .slice a3 x.chain.ids.length d3, .slice (some ⟨b, off, none⟩) x.nodes.length d4, .slice a5 x.msgs.length d5, .slice a6 x.history.length d6] 36 ((w.alloc (.cells #[.int .i64 x.now, .int .i64 x.events, .int .i64 x.chain.epoch, .slice a3 x.chain.ids.length d3, .slice (some ⟨b, off, none⟩) x.nodes.length d4, .slice a5 x.msgs.length d5, .slice a6 x.history.length d6] 36)).alloc (.cells #[.int .i64 0, .bool false, .int .i64 0, .int .i64 0, .slice none 0 0, .int .i64 0, .int .i64 0] 84)) w.heap.size) := (newBox (Nat.zero_le _)).grow _
 have HY : Hid (Box 0 #[.int .i64 0, .bool false, .int .i64 0, .int .i64 0, .slice none 0 0, .int .i64 0, .int .i64 0] 84 ((w.alloc (.cells #[.int .i64 x.now, .int .i64 x.events, .int .i64 x.chain.epoch, .slice a3 x.chain.ids.length d3, .slice (some ⟨b, off, none⟩) x.nodes.length d4, .slice a5 x.msgs.length d5, .slice a6 x.history.length d6] 36)).alloc (.cells #[.int .i64 0, .bool false, .int .i64 0, .int .i64 0, .slice none 0 0, .int .i64 0, .int .i64 0] 84)) (w.heap.size + 1)) := newBoxAt (Nat.zero_le _) (by simp)
 have hz0 : ((w.alloc (.cells #[.int .i64 x.now, .int .i64 x.events, .int .i64 x.chain.epoch, .slice a3 x.chain.ids.length d3, .slice (some ⟨b, off, none⟩) x.nodes.length d4, .slice a5 x.msgs.length d5, .slice a6 x.history.length d6] 36)).alloc (.cells #[.int .i64 0, .bool false, .int .i64 0, .int .i64 0, .slice none 0 0, .int .i64 0, .int .i64 0] 84)).heap.size = w.heap.size + 2 := by simp
 have hl := (chainFault_zero hok.chain).len
 have HL0 := yh (RC0.later nb)
 have x0 : ((w.alloc (.cells #[.int .i64 x.now, .int .i64 x.events, .int .i64 x.chain.epoch, .slice a3 x.chain.ids.length d3, .slice (some ⟨b, off, none⟩) x.nodes.length d4, .slice a5 x.msgs.length d5, .slice a6 x.history.length d6] 36)).alloc (.cells #[.int .i64 0, .bool false, .int .i64 0, .int .i64 0, .slice none 0 0, .int .i64 0, .int .i64 0] 84)).cell? ⟨b, off + k * 7, none⟩ = some (.int .i64 (x.nodes[k]).id) := (cell_of_heap (nb.block b hbl) _).trans (hcl 0 (by decide))
 have x1 : ((w.alloc (.cells #[.int .i64 x.now, .int .i64 x.events, .int .i64 x.chain.epoch, .slice a3 x.chain.ids.length d3, .slice (some ⟨b, off, none⟩) x.nodes.length d4, .slice a5 x.msgs.length d5, .slice a6 x.history.length d6] 36)).alloc (.cells #[.int .i64 0, .bool false, .int .i64 0, .int .i64 0, .slice none 0 0, .int .i64 0, .int .i64 0] 84)).cell? ⟨b, off + k * 7 + 1, none⟩ = some (.bool (x.nodes[k]).up) := (cell_of_heap (nb.block b hbl) _).trans (hcl 1 (by decide))
 have x2 : ((w.alloc (.cells #[.int .i64 x.now, .int .i64 x.events, .int .i64 x.chain.epoch, .slice a3 x.chain.ids.length d3, .slice (some ⟨b, off, none⟩) x.nodes.length d4, .slice a5 x.msgs.length d5, .slice a6 x.history.length d6] 36)).alloc (.cells #[.int .i64 0, .bool false, .int .i64 0, .int .i64 0, .slice none 0 0, .int .i64 0, .int .i64 0] 84)).cell? ⟨b, off + k * 7 + 2, none⟩ = some (.int .i64 (x.nodes[k]).epoch) := (cell_of_heap (nb.block b hbl) _).trans (hcl 2 (by decide))
 have x3 : ((w.alloc (.cells #[.int .i64 x.now, .int .i64 x.events, .int .i64 x.chain.epoch, .slice a3 x.chain.ids.length d3, .slice (some ⟨b, off, none⟩) x.nodes.length d4, .slice a5 x.msgs.length d5, .slice a6 x.history.length d6] 36)).alloc (.cells #[.int .i64 0, .bool false, .int .i64 0, .int .i64 0, .slice none 0 0, .int .i64 0, .int .i64 0] 84)).cell? ⟨b, off + k * 7 + 3, none⟩ = some (.int .i64 (x.nodes[k]).lease) := (cell_of_heap (nb.block b hbl) _).trans (hcl 3 (by decide))
 have x4 : ((w.alloc (.cells #[.int .i64 x.now, .int .i64 x.events, .int .i64 x.chain.epoch, .slice a3 x.chain.ids.length d3, .slice (some ⟨b, off, none⟩) x.nodes.length d4, .slice a5 x.msgs.length d5, .slice a6 x.history.length d6] 36)).alloc (.cells #[.int .i64 0, .bool false, .int .i64 0, .int .i64 0, .slice none 0 0, .int .i64 0, .int .i64 0] 84)).cell? ⟨b, off + k * 7 + 4, none⟩ = some (.slice an (x.nodes[k]).writes.length dn) := (cell_of_heap (nb.block b hbl) _).trans (hcl 4 (by decide))
 have x5 : ((w.alloc (.cells #[.int .i64 x.now, .int .i64 x.events, .int .i64 x.chain.epoch, .slice a3 x.chain.ids.length d3, .slice (some ⟨b, off, none⟩) x.nodes.length d4, .slice a5 x.msgs.length d5, .slice a6 x.history.length d6] 36)).alloc (.cells #[.int .i64 0, .bool false, .int .i64 0, .int .i64 0, .slice none 0 0, .int .i64 0, .int .i64 0] 84)).cell? ⟨b, off + k * 7 + 5, none⟩ = some (.int .i64 (x.nodes[k]).sure) := (cell_of_heap (nb.block b hbl) _).trans (hcl 5 (by decide))
 have x6 : ((w.alloc (.cells #[.int .i64 x.now, .int .i64 x.events, .int .i64 x.chain.epoch, .slice a3 x.chain.ids.length d3, .slice (some ⟨b, off, none⟩) x.nodes.length d4, .slice a5 x.msgs.length d5, .slice a6 x.history.length d6] 36)).alloc (.cells #[.int .i64 0, .bool false, .int .i64 0, .int .i64 0, .slice none 0 0, .int .i64 0, .int .i64 0] 84)).cell? ⟨b, off + k * 7 + 6, none⟩ = some (.int .i64 (x.nodes[k]).clean) := (cell_of_heap (nb.block b hbl) _).trans (hcl 6 (by decide))
 have hbl2 : b < ((w.alloc (.cells #[.int .i64 x.now, .int .i64 x.events, .int .i64 x.chain.epoch, .slice a3 x.chain.ids.length d3, .slice (some ⟨b, off, none⟩) x.nodes.length d4, .slice a5 x.msgs.length d5, .slice a6 x.history.length d6] 36)).alloc (.cells #[.int .i64 0, .bool false, .int .i64 0, .int .i64 0, .slice none 0 0, .int .i64 0, .int .i64 0] 84)).heap.size := by omega
 have HN := yh hr0
 have hw1 : IntKind.i64.wrap (k : Int) = (k : Int) := by
  have := hok.some
  rw [IntKind.wrap_i64]
  omega
 have hki : (k : Int) < (x.nodes.length : Int) := by omega
 have hki0 : (0 : Int) ≤ (k : Int) := by omega
 have HB := yh nb
 clear hcl hr hr0 RC0 RN0 h hok nb
 generalize hnn : x.nodes[k] = n at *
 clear hnn
 go_enter Tryz.func96, Tryz.ntmps96
 go_upto_region 1 with fail
 generalize ((w.alloc (.cells #[.int .i64 x.now, .int .i64 x.events, .int .i64 x.chain.epoch, .slice a3 x.chain.ids.length d3, .slice (some ⟨b, off, none⟩) x.nodes.length d4, .slice a5 x.msgs.length d5, .slice a6 x.history.length d6] 36)).alloc (.cells #[.int .i64 0, .bool false, .int .i64 0, .int .i64 0, .slice none 0 0, .int .i64 0, .int .i64 0] 84)) = W0 at *
 have HL := yh (tailOfC _ x.chain W0.drew ((uh HL0).drew 1) (x.chain.ids.length - 1) (by omega) hl.2)
 rw [show x.chain.ids.getD (x.chain.ids.length - 1) 0 = (k : Int) + 1 from ht] at HL
 have hx := uh HX
 have hxl := hx.lt
 have z2 := Box.at hx 2 _ rfl
 have z3 := Box.at hx 3 _ rfl
 have z4 := Box.at hx 4 _ rfl
 simp only [ga, gb, gc] at z2 z3 z4
 have HYD := yh (uh HY).drew
 have HBD := yh (uh HB).drew
 clear hx HX HY HB HL0 ht hl
 refine wp_region_noPanic ?_
 refine wp_region_held_drew (S := fun w' => Ext (fun q => w.heap.size < q) W0 w') (by kernel_rfl) ((Ext.refl _ _).drew 1) (fun zq => ?_)
 generalize W0.drew = wD at zq HL HYD HBD ⊢
 refine tkH 0 zq ?_
 refine tkJ 1 (v := ?vc1) ?hc1 zq ?rc1
 case hc1 =>
  intro wS hSw
  have q4 := (cell_of_heap (hSw.block w.heap.size hxl (fun e => Nat.lt_irrefl _ e)) 4).trans z4
  clear hSw
  (try dsimp only at hSw)
  go_simp
  try with_reducible rfl
 refine tkH 2 zq ?_
 refine tkJ 3 (v := ?vc3) ?hc3 zq ?rc3
 case hc3 =>
  intro wS hSw
  have q2 := (cell_of_heap (hSw.block w.heap.size hxl (fun e => Nat.lt_irrefl _ e)) 2).trans z2
  have q3 := (cell_of_heap (hSw.block w.heap.size hxl (fun e => Nat.lt_irrefl _ e)) 3).trans z3
  clear hSw
  (try dsimp only at hSw)
  go_simp
  try with_reducible rfl
 refine rdH 4 (fun K hK => ?_)
 go_simp
 go_at_call 177
 refine (uh HL).mono ?_
 rintro e w3 ⟨rfl, hb3⟩
 have hy3 := (uh HYD).keep hb3
 have r0 := Box.at hy3 0 _ rfl
 have r1 := Box.at hy3 1 _ rfl
 have r2 := Box.at hy3 2 _ rfl
 have r3 := Box.at hy3 3 _ rfl
 have r4 := Box.at hy3 4 _ rfl
 have r5 := Box.at hy3 5 _ rfl
 have r6 := Box.at hy3 6 _ rfl
 simp only [ga, gb, gc] at r0 r1 r2 r3 r4 r5 r6
 have rf := Box.soft hy3
 have rl := hy3.lt
 try go_wp2_with fail
 refine hK.out _ _ (zq.trans (ext_of_below hb3 _)) (fun zq => ?_)
 clear hK K
 try simp only [Act.put, pz, py, px]
 refine tkH 5 zq ?_
 refine tkH 6 zq ?_
 refine tkJ 7 (v := ?vc7) ?hc7 zq ?rc7
 case hc7 =>
  intro wS hSw
  have q0 : wS.cell? ⟨b, off + k * 7, none⟩ = some (.int .i64 n.id) := (cell_of_heap (hSw.block b hbl2 (fun e => by omega)) (off + k * 7)).trans x0
  have q1 : wS.cell? ⟨b, off + k * 7 + 1, none⟩ = some (.bool n.up) := (cell_of_heap (hSw.block b hbl2 (fun e => by omega)) (off + k * 7 + 1)).trans x1
  have q2 : wS.cell? ⟨b, off + k * 7 + 2, none⟩ = some (.int .i64 n.epoch) := (cell_of_heap (hSw.block b hbl2 (fun e => by omega)) (off + k * 7 + 2)).trans x2
  have q3 : wS.cell? ⟨b, off + k * 7 + 3, none⟩ = some (.int .i64 n.lease) := (cell_of_heap (hSw.block b hbl2 (fun e => by omega)) (off + k * 7 + 3)).trans x3
  have q4 : wS.cell? ⟨b, off + k * 7 + 4, none⟩ = some (.slice an n.writes.length dn) := (cell_of_heap (hSw.block b hbl2 (fun e => by omega)) (off + k * 7 + 4)).trans x4
  have q5 : wS.cell? ⟨b, off + k * 7 + 5, none⟩ = some (.int .i64 n.sure) := (cell_of_heap (hSw.block b hbl2 (fun e => by omega)) (off + k * 7 + 5)).trans x5
  have q6 : wS.cell? ⟨b, off + k * 7 + 6, none⟩ = some (.int .i64 n.clean) := (cell_of_heap (hSw.block b hbl2 (fun e => by omega)) (off + k * 7 + 6)).trans x6
  clear hSw
  (try dsimp only at hSw)
  go_simp
  try with_reducible rfl
 refine rdH 8 (fun K hK => ?_)
 go_simp
 refine hK.out _ _ (Ext.setCell (Ext.setCell (Ext.setCell (Ext.setCell (Ext.setCell (Ext.setCell (Ext.setCell zq ⟨w.heap.size + 1, 0, none⟩ (.int .i64 n.id) (Nat.lt_succ_self _)) ⟨w.heap.size + 1, 1, none⟩ (.bool n.up) (Nat.lt_succ_self _)) ⟨w.heap.size + 1, 2, none⟩ (.int .i64 n.epoch) (Nat.lt_succ_self _)) ⟨w.heap.size + 1, 3, none⟩ (.int .i64 n.lease) (Nat.lt_succ_self _)) ⟨w.heap.size + 1, 4, none⟩ (.slice an n.writes.length dn) (Nat.lt_succ_self _)) ⟨w.heap.size + 1, 5, none⟩ (.int .i64 n.sure) (Nat.lt_succ_self _)) ⟨w.heap.size + 1, 6, none⟩ (.int .i64 n.clean) (Nat.lt_succ_self _)) (fun zq => ?_)
 clear hK K
 try simp only [Act.put, pz, py, px]
 refine wpAnyH_done (by kernel_rfl) ?_ _
 refine NoPanic.normal ?_
 have hy9 := (Box.set (Box.set (Box.set (Box.set (Box.set (Box.set (Box.set hy3 0 (.int .i64 n.id)) 1 (.bool n.up)) 2 (.int .i64 n.epoch)) 3 (.int .i64 n.lease)) 4 (.slice an n.writes.length dn)) 5 (.int .i64 n.sure)) 6 (.int .i64 n.clean))
 simp only [List.setIfInBounds_toArray, List.set_cons_zero, List.set_cons_succ] at hy9
 have HB9 := yh (below_setAll ((uh HBD).trans (hb3.mono (uh HBD).size)) (w.heap.size + 1) 0 [.int .i64 n.id, .bool n.up, .int .i64 n.epoch, .int .i64 n.lease, .slice an n.writes.length dn, .int .i64 n.sure, .int .i64 n.clean] (by omega))
 clear r0 r1 r2 r3 r4 r5 r6
 have r0 := Box.at hy9 0 _ rfl
 have r1 := Box.at hy9 1 _ rfl
 have r2 := Box.at hy9 2 _ rfl
 have r3 := Box.at hy9 3 _ rfl
 have r4 := Box.at hy9 4 _ rfl
 have r5 := Box.at hy9 5 _ rfl
 have r6 := Box.at hy9 6 _ rfl
 simp only [ga, gb, gc] at r0 r1 r2 r3 r4 r5 r6
 clear zq hy3 hy9 hb3 HL HYD HBD x0 x1 x2 x3 x4 x5 x6
 go_wp2_with fail
 refine bodyPost_ret (v := .agg #[.int .i64 n.id, .bool n.up, .int .i64 n.epoch, .int .i64 n.lease, .slice an n.writes.length dn, .int .i64 n.sure, .int .i64 n.clean]) (by simp [results, Tryz.results96, go_sem, r0, r1, r2, r3, r4, r5, r6]) rfl ?_
 exact ⟨an, dn, rfl, (uh HN).later (uh HB9), uh HB9⟩
theorem sureAtTailC (cs : List Value) (x : DWorld) (k : Nat) (w : World) (h : Lay.tWorld.Reads w cs x) (hok : WorldMid x) (hk : k < x.nodes.length) (ht : tailId x = (k : Int) + 1) :
  Calls Tryz.prog 120 #[.agg cs.toArray] w fun e w' => ∃ v, e = .returned v ∧ (Lay.sl Lay.tWrite).Reads w' [v] (x.nodes[k].writes.take x.nodes[k].sure.toNat) ∧ Below w.heap.size w w' := by
 obtain ⟨a3, d3, a4, d4, a5, d5, a6, d6, rfl, -, -, -, -⟩ := open_World h
 have nb : Below w.heap.size w (w.alloc (.cells #[.int .i64 x.now, .int .i64 x.events, .int .i64 x.chain.epoch, .slice a3 x.chain.ids.length d3, .slice a4 x.nodes.length d4, .slice a5 x.msgs.length d5, .slice a6 x.history.length d6] 36)) := (Below.refl _ _).alloc (Nat.le_refl _) _
 have HX : Hid (Box 0 #[.int .i64 x.now, .int .i64 x.events, .int .i64 x.chain.epoch, .slice a3 x.chain.ids.length d3, .slice a4 x.nodes.length d4, .slice a5 x.msgs.length d5, .slice a6 x.history.length d6] 36 (w.alloc (.cells #[.int .i64 x.now, .int .i64 x.events, .int .i64 x.chain.epoch, .slice a3 x.chain.ids.length d3, .slice a4 x.nodes.length d4, .slice a5 x.msgs.length d5, .slice a6 x.history.length d6] 36)) w.heap.size) := newBox (Nat.zero_le _)
 have HL := yh (tailInC _ x k _ (h.later nb) hok hk ht)
 have HB := yh nb
 have hno := nodeFault_zero (hok.nodes k hk).1
 have HS := yh hno.sure
 have HN4 := yh hno.len
 clear nb h hok hno
 go_enter Tryz.func120, Tryz.ntmps120
 go_upto_region 1 with fail
 generalize (w.alloc (.cells #[.int .i64 x.now, .int .i64 x.events, .int .i64 x.chain.epoch, .slice a3 x.chain.ids.length d3, .slice a4 x.nodes.length d4, .slice a5 x.msgs.length d5, .slice a6 x.history.length d6] 36)) = W1 at *
 have z0 := Box.at (uh HX) 0 _ rfl
 have z1 := Box.at (uh HX) 1 _ rfl
 have z2 := Box.at (uh HX) 2 _ rfl
 have z3 := Box.at (uh HX) 3 _ rfl
 have z4 := Box.at (uh HX) 4 _ rfl
 have z5 := Box.at (uh HX) 5 _ rfl
 have z6 := Box.at (uh HX) 6 _ rfl
 simp only [ga, gb, gc] at z0 z1 z2 z3 z4 z5 z6
 have zl := (uh HX).lt
 go_wp2_with fail
 refine (uh HL).mono ?_
 rintro e w3 ⟨an, dn, rfl, RN, hb3⟩
 generalize hnn : x.nodes[k] = n at *
 obtain ⟨an', dn', hq, RW⟩ := open_Node RN
 simp only [List.cons.injEq, Value.slice.injEq, true_and, and_true] at hq
 obtain ⟨rfl, rfl⟩ := hq
 obtain ⟨m, hm⟩ : ∃ m : Nat, n.sure = (m : Int) := ⟨n.sure.toNat, by have := (uh HS).1; omega⟩
 have hmw : m ≤ n.writes.length := by have := (uh HS).2; omega
 have hmd : m ≤ dn := Nat.le_trans hmw RW.cap.2
 have hln : n.writes.length ≤ 40 := uh HN4
 have nb4 : Below w3.heap.size w3 (w3.alloc (.cells #[.int .i64 n.id, .bool n.up, .int .i64 n.epoch, .int .i64 n.lease, .slice an n.writes.length dn, .int .i64 n.sure, .int .i64 n.clean] 84)) := (Below.refl _ _).alloc (Nat.le_refl _) _
 have HY : Hid (Box 0 #[.int .i64 n.id, .bool n.up, .int .i64 n.epoch, .int .i64 n.lease, .slice an n.writes.length dn, .int .i64 n.sure, .int .i64 n.clean] 84 (w3.alloc (.cells #[.int .i64 n.id, .bool n.up, .int .i64 n.epoch, .int .i64 n.lease, .slice an n.writes.length dn, .int .i64 n.sure, .int .i64 n.clean] 84)) w3.heap.size) := newBox (Nat.zero_le _)
 have HT := yh (sl_take_lies (RW.later nb4).liesIn m hmw)
 replace HB := yh (((uh HB).trans (hb3.mono (uh HB).size)).trans (nb4.mono (Nat.le_trans (uh HB).size hb3.size)))
 have HTN : Hid (n.sure.toNat = m) := by show n.sure.toNat = m; omega
 rw [hm] at HY nb4 HT HB ⊢
 clear hb3 nb4 HL z0 z1 z2 z3 z4 z5 z6 zl RN RW HX hm HS
 go_upto_region 2 with fail
 generalize w3.alloc (.cells #[.int .i64 n.id, .bool n.up, .int .i64 n.epoch, .int .i64 n.lease, .slice an n.writes.length dn, .int .i64 (m : Int), .int .i64 n.clean] 84) = w4 at *
 have y0 := Box.at (uh HY) 0 _ rfl
 have y1 := Box.at (uh HY) 1 _ rfl
 have y2 := Box.at (uh HY) 2 _ rfl
 have y3 := Box.at (uh HY) 3 _ rfl
 have y4 := Box.at (uh HY) 4 _ rfl
 have y5 := Box.at (uh HY) 5 _ rfl
 have y6 := Box.at (uh HY) 6 _ rfl
 simp only [ga, gb, gc] at y0 y1 y2 y3 y4 y5 y6
 have yl := (uh HY).lt
 clear HY
 go_wp2_with fail
 go_ret
 exact ⟨_, rfl, by rw [hnn, uh HTN]; exact (uh HT).reads, uh HB⟩
theorem implSeenAt (v : Value) (ws : List DWrite) (s q : Int) (w : World) (h : (Lay.sl Lay.tWrite).Reads w [v] ws) :
  Calls Tryz.prog 201 #[v, .int .i64 s , .int .i64 q] w fun e w' => ∃ cs, e = .returned (.agg cs.toArray) ∧ Lay.tIntResult.OwnIn w' cs (seenR ws s q) w.heap.size w'.heap.size ∧ Below w.heap.size w w' := by
 have nb : Below w.heap.size w (w.alloc (.cells #[.int .i64 0, .int .i64 0] 49)) := (Below.refl _ _).alloc (Nat.le_refl _) _
 have bR0 : Box w.heap.size #[.int .i64 0, .int .i64 0] 49 (w.alloc (.cells #[.int .i64 0, .int .i64 0] 49)) w.heap.size := newBox (Nat.le_refl _)
 have HR := yh (h.later nb)
 have HB0 := yh nb
 have HBR := yh bR0
 obtain ⟨ao, cap, rfl⟩ := open_sl h
 clear nb bR0 h
 have HL := yh (storyC _ ws _ (uh HR))
 go_enter Tryz.func201, Tryz.ntmps201
 go_wp2_with fail
 refine (uh HL).mono ?_
 rintro e w2 ⟨r, rfl, g0, g1, hb⟩
 have bR := (uh HBR).keep hb
 have HB2 := yh ((uh HB0).trans (hb.mono (uh HB0).size))
 have hsz : (w.alloc (.cells #[.int .i64 0, .int .i64 0] 49)).heap.size = w.heap.size + 1 := by simp
 rw [hsz] at g0
 clear hb HL HB0 HBR HR hsz
 by_cases hf : writesF ws = 0
 ·
  obtain ⟨rfl, v2, rows, bls, hT⟩ := g0 hf
  clear g0 g1
  have HF := yh hf
  rw [hf]
  clear hf
  have HS := yh (isSessionC s w2)
  by_cases hs : 1 ≤ s ∧ s ≤ 9
  ·
   rw [dec9 hs] at HS
   have HQ := yh (isSeqC q w2)
   by_cases hq : 1 ≤ q ∧ q ≤ 999
   ·
    rw [dec999 hq] at HQ
    have hlk := hT.seen.look (s := s) (q := q) (wf_of_bd (by omega)) (wf_of_bd (by omega))
    simp only [tick] at hlk
    have zm : w2.cell? ⟨w.heap.size + 1 + 1, 1, none⟩ = some (.map (some (w.heap.size + 1))) := hT.box.at 1 _ rfl
    by_cases h0 : seenI ws s q = 0
    ·
     have HG : Hid (seenR ws s q = ⟨4, 0⟩) := by show seenR ws s q = _; rw [seenR, if_pos (asked_ok (uh HF) hs), if_pos hq, if_pos h0]
     have hlk2 : (Instr.lookup 275 (.map (some (w.heap.size + 1))) (.agg #[.int .i64 s, .int .i64 q]) true).run Tryz.prog w2 = .ok (.tuple #[.int .i64 0, .bool false]) w2 := by rw [hlk, h0]; rfl
     clear hlk h0 hs hq hT HF
     go_wp2_with fail
     refine (uh HS).mono ?_
     rintro e w3 ⟨rfl, hw3⟩
     rw [hw3]
     clear hw3 w3
     go_wp2_with fail
     refine (uh HQ).mono ?_
     rintro e w3 ⟨rfl, hw3⟩
     rw [hw3]
     clear hw3 w3
     clear HS HQ
     have z0 : w2.cell? ⟨w.heap.size, 0, none⟩ = some (.int .i64 0) := bR.at 0 _ rfl
     have z1 : w2.cell? ⟨w.heap.size, 1, none⟩ = some (.int .i64 0) := bR.at 1 _ rfl
     have f0 := bR.soft 0
     have f1 := bR.soft 1
     have l0 := bR.lt
     clear bR
     go_wp2_with fail
     refine bodyPost_ret (v := .agg #[.int .i64 (4), .int .i64 (0)]) (by simp [results, Tryz.results201, go_sem, z0, z1]) rfl ?_
     rw [uh HG]
     exact ⟨_, rfl, own_IntR (by decide) (by decide), ((uh HB2).setCell (by simp) _).setCell (by simp) _⟩
    have HG : Hid (seenR ws s q = ⟨0, seenI ws s q⟩) := by show seenR ws s q = _; rw [seenR, if_pos (asked_ok (uh HF) hs), if_pos hq, if_neg h0]
    have HBD : Hid (seenI ws s q ≤ 200) := Nat.le_trans (seenI_le ws s q) (writesF_zero (uh HF)).1
    have hlk2 : (Instr.lookup 275 (.map (some (w.heap.size + 1))) (.agg #[.int .i64 s, .int .i64 q]) true).run Tryz.prog w2 = .ok (.tuple #[.int .i64 (seenI ws s q), .bool true]) w2 := by rw [hlk]; simp [h0]
    clear hlk h0 hs hq hT HF
    go_wp2_with fail
    refine (uh HS).mono ?_
    rintro e w3 ⟨rfl, hw3⟩
    rw [hw3]
    clear hw3 w3
    go_wp2_with fail
    refine (uh HQ).mono ?_
    rintro e w3 ⟨rfl, hw3⟩
    rw [hw3]
    clear hw3 w3
    clear HS HQ
    have z0 : w2.cell? ⟨w.heap.size, 0, none⟩ = some (.int .i64 0) := bR.at 0 _ rfl
    have z1 : w2.cell? ⟨w.heap.size, 1, none⟩ = some (.int .i64 0) := bR.at 1 _ rfl
    have f0 := bR.soft 0
    have f1 := bR.soft 1
    have l0 := bR.lt
    clear bR
    go_wp2_with fail
    refine bodyPost_ret (v := .agg #[.int .i64 (0), .int .i64 (seenI ws s q)]) (by simp [results, Tryz.results201, go_sem, z0, z1]) rfl ?_
    rw [uh HG]
    exact ⟨_, rfl, own_IntR (by decide) (wf_of_bd (by have := uh HBD; omega)), ((uh HB2).setCell (by simp) _).setCell (by simp) _⟩
   rw [dec999n hq] at HQ
   have HG : Hid (seenR ws s q = ⟨3, 0⟩) := by show seenR ws s q = _; rw [seenR, if_pos (asked_ok (uh HF) hs), if_neg hq]
   clear hs hq hT HF
   go_wp2_with fail
   refine (uh HS).mono ?_
   rintro e w3 ⟨rfl, hw3⟩
   rw [hw3]
   clear hw3 w3
   go_wp2_with fail
   refine (uh HQ).mono ?_
   rintro e w3 ⟨rfl, hw3⟩
   rw [hw3]
   clear hw3 w3
   clear HS HQ
   have z0 : w2.cell? ⟨w.heap.size, 0, none⟩ = some (.int .i64 0) := bR.at 0 _ rfl
   have z1 : w2.cell? ⟨w.heap.size, 1, none⟩ = some (.int .i64 0) := bR.at 1 _ rfl
   have f0 := bR.soft 0
   have f1 := bR.soft 1
   have l0 := bR.lt
   clear bR
   go_wp2_with fail
   refine bodyPost_ret (v := .agg #[.int .i64 (3), .int .i64 (0)]) (by simp [results, Tryz.results201, go_sem, z0, z1]) rfl ?_
   rw [uh HG]
   exact ⟨_, rfl, own_IntR (by decide) (by decide), ((uh HB2).setCell (by simp) _).setCell (by simp) _⟩
  rw [dec9n hs] at HS
  have HG : Hid (seenR ws s q = ⟨3, 0⟩) := by show seenR ws s q = _; rw [seenR, asked_out (uh HF) hs, if_neg (by decide)]
  clear hs hT HF
  go_wp2_with fail
  refine (uh HS).mono ?_
  rintro e w3 ⟨rfl, hw3⟩
  rw [hw3]
  clear hw3 w3
  clear HS
  have z0 : w2.cell? ⟨w.heap.size, 0, none⟩ = some (.int .i64 0) := bR.at 0 _ rfl
  have z1 : w2.cell? ⟨w.heap.size, 1, none⟩ = some (.int .i64 0) := bR.at 1 _ rfl
  have f0 := bR.soft 0
  have f1 := bR.soft 1
  have l0 := bR.lt
  clear bR
  go_wp2_with fail
  refine bodyPost_ret (v := .agg #[.int .i64 (3), .int .i64 (0)]) (by simp [results, Tryz.results201, go_sem, z0, z1]) rfl ?_
  rw [uh HG]
  exact ⟨_, rfl, own_IntR (by decide) (by decide), ((uh HB2).setCell (by simp) _).setCell (by simp) _⟩
 obtain rfl := g1 hf
 clear g0 g1
 have HG : Hid (seenR ws s q = ⟨writesF ws, 0⟩) := by show seenR ws s q = _; rw [seenR, asked_bad s hf, if_neg hf]
 have HWF := yh (wsF_wf ws)
 have hd : (writesF ws != 0) = true := by simpa using hf
 clear hf
 have z0 : w2.cell? ⟨w.heap.size, 0, none⟩ = some (.int .i64 0) := bR.at 0 _ rfl
 have z1 : w2.cell? ⟨w.heap.size, 1, none⟩ = some (.int .i64 0) := bR.at 1 _ rfl
 have f0 := bR.soft 0
 have f1 := bR.soft 1
 have l0 := bR.lt
 clear bR
 go_wp2_with fail
 refine bodyPost_ret (v := .agg #[.int .i64 (writesF ws), .int .i64 (0)]) (by simp [results, Tryz.results201, go_sem, z0, z1]) rfl ?_
 rw [uh HG]
 exact ⟨_, rfl, own_IntR (uh HWF) (by decide), ((uh HB2).setCell (by simp) _).setCell (by simp) _⟩
abbrev o216x1 : Oper := ⟨some 7, .alloc 49, 0, "l14_read.go:168", #[], none⟩
def StepPostF (g lo : Nat) (c : Int) (mv : Bool) (z : DWorld) (W : World) (e : Ending) (W' : World) : Prop :=
 ∃ m, e = .returned (.tuple #[.bool m, .int .i64 c]) ∧ (c = 0 → m = mv ∧ ∃ (u3 u4 u5 u6 : Value), Box 0 #[.int .i64 z.now, .int .i64 z.events, .int .i64 z.chain.epoch, u3, u4, u5, u6] 36 W' g ∧ WOwn W' lo g [.int .i64 z.now, .int .i64 z.events, .int .i64 z.chain.epoch, u3, u4, u5, u6] z) ∧ Ext (fun q => lo ≤ q) W W'
theorem int_partsF {w : World} {cs : List Value} {y : DIntResult} {lo hi : Nat} (h : Lay.tIntResult.OwnIn w cs y lo hi) : cs = [.int .i64 y.code, .int .i64 y.value] ∧ (Lit.int .i64 y.code).wf = true ∧ (Lit.int .i64 y.value).wf = true := by
 obtain ⟨bl, O, -⟩ := h
 obtain ⟨e, -, w0, w1⟩ := lies_IntResult.1 O.1
 exact ⟨e, w0, w1⟩
theorem finishStepC (L kt p : Nat) (s q : Int) (y : DWorld) (W : World) (hp : Box 0 #[.int .i64 s, .int .i64 q] 139 W p) (_ : p < L) (hmid : WorldMid y) (hkt : kt < y.nodes.length) (hti : tailId y = (kt : Int) + 1) (hev : -1000000000 ≤ y.events ∧ y.events ≤ 1000000000) :
  StepC L 199 #[.pointer (some ⟨p, 0, none⟩)] y (finC y s q) true (finished y s q) W := by
 intro g lo v3 v4 v5 v6 hL hg hlo hO
 show Calls Tryz.prog 199 #[.pointer (some ⟨g, 0, none⟩), .pointer (some ⟨p, 0, none⟩)] W (fun e W' => StepPostF g lo (finC y s q) true (finished y s q) W e W')
 obtain ⟨_, _, _, _, _, _, a6, d6, hq, -, -, -, RE⟩ := open_World hO.reads
 simp only [List.cons.injEq, and_true, true_and] at hq
 obtain ⟨-, -, -, rfl⟩ := hq
 have g6 := Box.at hg 6 _ rfl
 simp only [ga, gb, gc] at g6
 have hgl := hg.lt
 have HE := yh RE
 have HG0 := yh hg
 have HP := yh hp
 have HRD := yh hO.reads
 have HO := yh hO
 have HMID := yh hmid
 have HTI := yh hti
 have HEV := yh hev
 clear hp hg hO RE hmid hti hev
 go_enter Tryz.func199, Tryz.ntmps199
 go_upto_region 1 with fail
 refine wp_region_noPanic ?_
 refine wp_region_held_drew (S := fun w' => Below W.heap.size W w') (by kernel_rfl) ((Below.refl _ _).drew) (fun zq => ?_)
 generalize W.drew = wD at zq ⊢
 refine tkH 0 zq ?_
 refine tkH 1 zq ?_
 refine tkH 2 zq ?_
 refine tkJ 3 (v := ?vm3) ?hm3 zq ?rm3
 case hm3 =>
  intro wS hSw
  have q6 := (hSw.cell (p := ⟨g, 6, none⟩) hgl).trans g6
  clear hSw
  (try dsimp only at hSw)
  go_simp
  try with_reducible rfl
 refine tkJ 4 (v := ?vm4) ?hm4 zq ?rm4
 case hm4 =>
  intro wS hSw
  have bS := (uh HP).keep hSw
  have q0 := Box.at bS 0 _ rfl
  have q1 := Box.at bS 1 _ rfl
  simp only [ga, gb, gc] at q0 q1
  clear bS hSw
  (try dsimp only at hSw)
  go_simp
  try with_reducible rfl
 refine rdH 5 (fun K hK => ?_)
 go_simp
 go_at_call 200
 refine (entryOfWriteC _ y.history s q _ ((uh HE).later zq)).mono ?_
 rintro e W2 ⟨rfl, hbu⟩
 generalize htp : toldP y.history s q = tp at *
 try go_wp2_with fail
 refine hK.out _ _ (zq.trans (hbu.mono zq.size)) (fun zq => ?_)
 clear hK K
 try simp only [Act.put, pz, py, px]
 refine tkH 6 zq ?_
 refine wpAnyH_done (by kernel_rfl) ?_ _
 refine NoPanic.normal ?_
 have HG := yh ((uh HG0).keep zq)
 replace HP := yh ((uh HP).keep zq)
 replace HO := yh ((uh HO).later zq)
 replace HRD := yh ((uh HRD).later zq)
 have HX : Hid (Ext (fun q => lo ≤ q) W W2) := yh (ext_of_below zq _)
 have HTP := yh htp
 clear zq hbu g6 hgl HG0 htp HE
 by_cases hneg : tp < 0
 ·
  have hd : decide (tp < 0) = true := by simpa using hneg
  have HC : Hid (finC y s q = 4) := by
   show finC y s q = 4
   exact if_pos (by rw [uh HTP]; exact hneg)
  clear hneg
  go_wp2_with fail
  go_ret2
  unfold StepPostF
  exact ⟨false, by rw [uh HC]; rfl, fun h0 => by rw [uh HC] at h0; simp at h0, uh HX⟩
 have hd : decide (tp < 0) = false := by simpa using hneg
 obtain ⟨k, hk, hk1, hk2⟩ := toldP_some (es := y.history) (s := s) (q := q) (by rw [uh HTP]; omega)
 rw [uh HTP] at hk1
 subst hk1
 have hea : entryAt y s q = y.history[k] := by
  rw [entryAt, hk2]
  simp [List.getD, hk]
 have HEA := yh hea
 have HK2 := yh hk2
 clear hea hk2
 go_upto_region 4 with fail
 clear hd hneg
 obtain ⟨b, off, d6', aq, dq, av, dv, ah, dh, e6, hlb, hbl, hbg, hR0, hput⟩ := wown_over (uh HO) hk
 simp only [Value.slice.injEq, true_and] at e6
 obtain ⟨rfl, rfl⟩ := e6
 have HRW0 := yh hR0
 have g6 := Box.at (uh HG) 6 _ rfl
 simp only [ga, gb, gc] at g6
 have hgl := (uh HG).lt
 have hki : (k : Int) < (y.history.length : Int) := by omega
 have hki0 : (0 : Int) ≤ (k : Int) := by omega
 have x7 : W2.cell? ⟨b, off + k * 11 + 7, none⟩ = some (.int .i64 y.history[k].fin) := hR0.cells 7 (by decide)
 clear hR0 hput
 by_cases hfin : y.history[k].fin ≠ 0
 ·
  have hdf : (y.history[k].fin != 0) = true := by simpa using hfin
  have HC : Hid (finC y s q = 6) := by
   show finC y s q = 6
   exact (if_neg (by rw [uh HTP]; omega)).trans (if_pos (by rw [uh HEA]; exact hfin))
  clear hfin
  go_wp2_with fail
  go_ret2
  unfold StepPostF
  exact ⟨false, by rw [uh HC]; rfl, fun h0 => by rw [uh HC] at h0; simp at h0, uh HX⟩
 have hdf : (y.history[k].fin != 0) = false := by simpa using hfin
 have HFN : Hid ((entryAt y s q).fin = 0) := by
  show (entryAt y s q).fin = 0
  rw [uh HEA]
  simpa using hfin
 clear hfin
 go_upto_region 7 with fail
 clear g6 hgl x7 hdf
 go_cut [7] from 27 to 35 (fun s5 wx => ∃ (wz : World) (g5 : Nat), wz = wx ∧ s5 = .pointer (some ⟨g5, 0, none⟩) ∧ Box 0 #[.int .i64 (seenR (y.nodes[kt].writes.take y.nodes[kt].sure.toNat) s q).code, .int .i64 (seenR (y.nodes[kt].writes.take y.nodes[kt].sure.toNat) s q).value] 49 wz g5 ∧ W2.heap.size ≤ g5 ∧ Below W2.heap.size W2 wz)
 case first =>
  have HDS : W2.heap.size ≤ W2.drew.heap.size := Nat.le_refl _
  refine wp_region_noPanic ?_
  refine wp_region_held_drew (S := fun w' => Below W2.heap.size W2 w') (by kernel_rfl) ((Below.refl _ _).drew) (fun zq => ?_)
  generalize W2.drew = wD at zq HDS ⊢
  refine tkH 0 zq ?_
  refine tkH 1 zq ?_
  refine tkJ 2 (v := ?vk2_3) ?hk2_3 zq ?rk2_3
  case hk2_3 =>
   intro wS hSw
   have bS := (uh HG).keep hSw
   have q0 := Box.at bS 0 _ rfl
   have q1 := Box.at bS 1 _ rfl
   have q2 := Box.at bS 2 _ rfl
   have q3 := Box.at bS 3 _ rfl
   have q4 := Box.at bS 4 _ rfl
   have q5 := Box.at bS 5 _ rfl
   have q6 := Box.at bS 6 _ rfl
   simp only [ga, gb, gc] at q0 q1 q2 q3 q4 q5 q6
   clear bS hSw
   (try dsimp only at hSw)
   go_simp
   try with_reducible rfl
  refine tkH 4 zq ?_
  refine tkJ 5 (v := ?vk5_5) ?hk5_5 zq ?rk5_5
  case hk5_5 =>
   intro wS hSw
   have bS := (uh HP).keep hSw
   have q0 := Box.at bS 0 _ rfl
   have q1 := Box.at bS 1 _ rfl
   simp only [ga, gb, gc] at q0 q1
   clear bS hSw
   (try dsimp only at hSw)
   go_simp
   try with_reducible rfl
  refine tkH 6 zq ?_
  refine tkJ 7 (v := ?vk7_7) ?hk7_7 zq ?rk7_7
  case hk7_7 =>
   intro wS hSw
   have bS := (uh HP).keep hSw
   have q0 := Box.at bS 0 _ rfl
   have q1 := Box.at bS 1 _ rfl
   simp only [ga, gb, gc] at q0 q1
   clear bS hSw
   (try dsimp only at hSw)
   go_simp
   try with_reducible rfl
  refine wpAnyH_ready (rs := [3, 9]) (by kernel_rfl) (by simp) ?_
  refine AllReadyH.cons (o := ⟨some 30, .call { callee := .value (.func 120), args := #[.tmp 29], argTypes := #[36] }, 82, "l14_read.go:168", #[⟨2, .data⟩], none⟩) rfl (fun K hK => ?ok3_8) (AllReadyH.cons (o := o216x1) rfl (fun K hK => ?ok9_8) (AllReadyH.nil))
  case ok3_8 =>
   go_simp
   go_at_call 120
   refine (sureAtTailC _ y kt _ ((uh HRD).later zq) (uh HMID) hkt (uh HTI)).mono ?_
   rintro e uA ⟨vA, rfl, RA, hbA⟩
   have HRA := yh RA
   clear RA
   have hzA := hbA.size
   have hHA := zq
   try go_wp2_with fail
   refine hK.out _ _ (zq.trans (hbA.mono zq.size)) (fun zq => ?_)
   clear hK K
   try simp only [Act.put, pz, py, px]
   refine wpAnyH_ready (rs := [8, 9]) (by kernel_rfl) (by simp) ?_
   refine AllReadyH.cons (o := ⟨some 35, .call { callee := .value (.func 201), args := #[.tmp 30, .tmp 32, .tmp 34], argTypes := #[82, 2, 2] }, 49, "l14_read.go:168", #[⟨3, .data⟩, ⟨5, .data⟩, ⟨7, .data⟩, ⟨3, .chain⟩], none⟩) rfl (fun K hK => ?ok8_9) (AllReadyH.cons (o := o216x1) rfl (fun K hK => ?ok9_9) (AllReadyH.nil))
   case ok8_9 =>
    go_simp
    go_at_call 201
    refine (implSeenAt vA _ s q _ (uh HRA)).mono ?_
    rintro e uB ⟨us, rfl, O0, hbB⟩
    obtain ⟨rfl, -, -⟩ := int_partsF O0
    have hzB := hbB.size
    have hHB := zq
    try go_wp2_with fail
    refine hK.out _ _ (zq.trans (hbB.mono zq.size)) (fun zq => ?_)
    clear hK K
    try simp only [Act.put, pz, py, px]
    refine rdH 9 (fun K hK => ?_)
    have hHC := zq
    go_simp
    refine hK.out _ _ (zq.alloc zq.size _) (fun zq => ?_)
    clear hK K
    try simp only [Act.put, pz, py, px]
    refine rdH 10 (fun K hK => ?_)
    go_simp
    refine hK.out _ _ (hHC.alloc hHC.size _) (fun zq => ?_)
    clear hK K
    try simp only [Act.put, pz, py, px]
    refine wpAnyH_done (by kernel_rfl) ?_ _
    refine NoPanic.normal ?_
    go_wp2_with fail
    go_meet
    have hzz := hHC.size
    exact ⟨_, uB.heap.size, rfl, rfl, newBox (Nat.zero_le _), by omega, zq⟩
   case ok9_9 =>
    have nbX : Below uA.heap.size uA (uA.alloc (.cells #[.int .i64 0, .int .i64 0] 49)) := (Below.refl _ _).alloc (Nat.le_refl _) _
    have HGX : Hid (Box 0 #[.int .i64 0, .int .i64 0] 49 (uA.alloc (.cells #[.int .i64 0, .int .i64 0] 49)) uA.heap.size) := newBox (Nat.zero_le _)
    have hzX : uA.heap.size < (uA.alloc (.cells #[.int .i64 0, .int .i64 0] 49)).heap.size := by simp
    have hzc := zq.size
    go_simp
    refine hK.out _ _ (zq.alloc zq.size _) (fun zq => ?_)
    clear hK K
    try simp only [Act.put, pz, py, px]
    refine rdH 8 (fun K hK => ?_)
    go_simp
    go_at_call 201
    refine (implSeenAt vA _ s q _ ((uh HRA).later nbX)).mono ?_
    rintro e uB ⟨us, rfl, O0, hbB⟩
    obtain ⟨rfl, -, -⟩ := int_partsF O0
    have hG := (uh HGX).keep hbB
    have hzB := hbB.size
    have hHB := zq
    try go_wp2_with fail
    refine hK.out _ _ (zq.trans (hbB.mono zq.size)) (fun zq => ?_)
    clear hK K
    try simp only [Act.put, pz, py, px]
    refine rdH 10 (fun K hK => ?_)
    have r0 := Box.at hG 0 _ rfl
    have r1 := Box.at hG 1 _ rfl
    simp only [ga, gb, gc] at r0 r1
    have rf := Box.soft hG
    have rl := hG.lt
    go_simp
    refine hK.out _ _ (Below.setCell (Below.setCell zq (p := ⟨uA.heap.size, 0, none⟩) (by simp only []; omega) (.int .i64 (seenR (y.nodes[kt].writes.take y.nodes[kt].sure.toNat) s q).code)) (p := ⟨uA.heap.size, 1, none⟩) (by simp only []; omega) (.int .i64 (seenR (y.nodes[kt].writes.take y.nodes[kt].sure.toNat) s q).value)) (fun zq => ?_)
    clear hK K
    try simp only [Act.put, pz, py, px]
    refine wpAnyH_done (by kernel_rfl) ?_ _
    refine NoPanic.normal ?_
    go_wp2_with fail
    go_meet
    have hbx := (Box.set (Box.set hG 0 (.int .i64 (seenR (y.nodes[kt].writes.take y.nodes[kt].sure.toNat) s q).code)) 1 (.int .i64 (seenR (y.nodes[kt].writes.take y.nodes[kt].sure.toNat) s q).value))
    simp only [List.setIfInBounds_toArray, List.set_cons_zero, List.set_cons_succ] at hbx
    exact ⟨_, uA.heap.size, rfl, rfl, hbx, by omega, zq⟩
  case ok9_8 =>
   have nbX : Below wD.heap.size wD (wD.alloc (.cells #[.int .i64 0, .int .i64 0] 49)) := (Below.refl _ _).alloc (Nat.le_refl _) _
   have HGX : Hid (Box 0 #[.int .i64 0, .int .i64 0] 49 (wD.alloc (.cells #[.int .i64 0, .int .i64 0] 49)) wD.heap.size) := newBox (Nat.zero_le _)
   have hzX : wD.heap.size < (wD.alloc (.cells #[.int .i64 0, .int .i64 0] 49)).heap.size := by simp
   have hzc := zq.size
   go_simp
   refine hK.out _ _ (zq.alloc zq.size _) (fun zq => ?_)
   clear hK K
   try simp only [Act.put, pz, py, px]
   refine rdH 3 (fun K hK => ?_)
   go_simp
   go_at_call 120
   refine (sureAtTailC _ y kt _ ((uh HRD).later zq) (uh HMID) hkt (uh HTI)).mono ?_
   rintro e uA ⟨vA, rfl, RA, hbA⟩
   have HRA := yh RA
   clear RA
   have HGA := yh ((uh HGX).keep hbA)
   have hzA := hbA.size
   have hHA := zq
   try go_wp2_with fail
   refine hK.out _ _ (zq.trans (hbA.mono zq.size)) (fun zq => ?_)
   clear hK K
   try simp only [Act.put, pz, py, px]
   refine rdH 8 (fun K hK => ?_)
   go_simp
   go_at_call 201
   refine (implSeenAt vA _ s q _ (uh HRA)).mono ?_
   rintro e uB ⟨us, rfl, O0, hbB⟩
   obtain ⟨rfl, -, -⟩ := int_partsF O0
   have hG := (uh HGA).keep hbB
   have hzB := hbB.size
   have hHB := zq
   try go_wp2_with fail
   refine hK.out _ _ (zq.trans (hbB.mono zq.size)) (fun zq => ?_)
   clear hK K
   try simp only [Act.put, pz, py, px]
   refine rdH 10 (fun K hK => ?_)
   have r0 := Box.at hG 0 _ rfl
   have r1 := Box.at hG 1 _ rfl
   simp only [ga, gb, gc] at r0 r1
   have rf := Box.soft hG
   have rl := hG.lt
   go_simp
   refine hK.out _ _ (Below.setCell (Below.setCell zq (p := ⟨wD.heap.size, 0, none⟩) (by simp only []; omega) (.int .i64 (seenR (y.nodes[kt].writes.take y.nodes[kt].sure.toNat) s q).code)) (p := ⟨wD.heap.size, 1, none⟩) (by simp only []; omega) (.int .i64 (seenR (y.nodes[kt].writes.take y.nodes[kt].sure.toNat) s q).value)) (fun zq => ?_)
   clear hK K
   try simp only [Act.put, pz, py, px]
   refine wpAnyH_done (by kernel_rfl) ?_ _
   refine NoPanic.normal ?_
   go_wp2_with fail
   go_meet
   have hbx := (Box.set (Box.set hG 0 (.int .i64 (seenR (y.nodes[kt].writes.take y.nodes[kt].sure.toNat) s q).code)) 1 (.int .i64 (seenR (y.nodes[kt].writes.take y.nodes[kt].sure.toNat) s q).value))
   simp only [List.setIfInBounds_toArray, List.set_cons_zero, List.set_cons_succ] at hbx
   exact ⟨_, wD.heap.size, rfl, rfl, hbx, by omega, zq⟩
 case rest =>
  obtain ⟨WC, g5, hW, rfl, hg5, hz5, hB5⟩ := hcut
  subst hW
  have hgW2 := (uh HG).lt
  replace HG := yh ((uh HG).keep hB5)
  replace HX := yh ((uh HX).trans (ext_of_below hB5 _))
  have HOC := yh ((uh HO).later hB5)
  have HK := yh hg5
  have hkb : g5 ≠ b := by omega
  have hno := nodeFault_zero ((uh HMID).nodes kt hkt).1
  have hsw : sureWs y = (y.nodes[kt].writes.take y.nodes[kt].sure.toNat) := by
   rw [sureWs, uh HTI, nodeOf_at hkt]
  have hsc := seen_code (ws := (y.nodes[kt].writes.take y.nodes[kt].sure.toNat)) (s := s) (q := q) (by rw [List.length_take]; have := hno.len; omega) (fun v hv => hno.ws v (List.mem_of_mem_take hv))
  have e0 := Box.at hg5 0 _ rfl
  have e1' := Box.at hg5 1 _ rfl
  simp only [ga, gb, gc] at e0 e1'
  have hg5l := hg5.lt
  have HSW := yh hsw
  have HSC := yh hsc
  clear hg5 hB5 hno hsw hsc HO HRD
  by_cases hs0 : seenI (y.nodes[kt].writes.take y.nodes[kt].sure.toNat) s q = 0
  ·
   have hc0 := (uh HSC).1 hs0
   have hdc : ((seenR (y.nodes[kt].writes.take y.nodes[kt].sure.toNat) s q).code != 0) = true := by simpa using hc0
   have HC : Hid (finC y s q = 8) := by
    show finC y s q = 8
    exact ((if_neg (by rw [uh HTP]; omega)).trans (if_neg (by rw [uh HFN]; decide))).trans (if_pos (by rw [uh HSW]; exact hs0))
   clear hs0 hc0
   generalize (seenR (y.nodes[kt].writes.take y.nodes[kt].sure.toNat) s q) = sr at *
   go_wp2_with fail
   go_ret2
   unfold StepPostF
   exact ⟨false, by rw [uh HC]; rfl, fun h0 => by rw [uh HC] at h0; simp at h0, uh HX⟩
  have hc1 := (uh HSC).2 hs0
  rw [hc1] at e0 e1' HK
  dsimp only at e0 e1'
  have HC : Hid (finC y s q = 0) := by
   show finC y s q = 0
   exact ((if_neg (by rw [uh HTP]; omega)).trans (if_neg (by rw [uh HFN]; decide))).trans (if_neg (by rw [uh HSW]; exact hs0))
  have hsb : -1000000000 ≤ ((seenI (y.nodes[kt].writes.take y.nodes[kt].sure.toNat) s q : Nat) : Int) ∧ ((seenI (y.nodes[kt].writes.take y.nodes[kt].sure.toNat) s q : Nat) : Int) ≤ 1000000000 := by
   have := seenI_le (y.nodes[kt].writes.take y.nodes[kt].sure.toNat) s q
   have h40 := (nodeFault_zero ((uh HMID).nodes kt hkt).1).len
   rw [List.length_take] at this
   omega
  have HSB := yh hsb
  clear hs0 hc1 e1' hsb
  go_upto_region 10 with fail
  clear e0 hg5l
  obtain ⟨b', off', d6', aq', dq', av', dv', ah', dh', e6, -, -, -, hR0, hput⟩ := wown_over (uh HOC) hk
  simp only [Value.slice.injEq, Option.some.injEq, Addr.mk.injEq, and_true, true_and] at e6
  obtain ⟨⟨rfl, rfl⟩, rfl⟩ := e6
  have HRW := yh hR0
  have HPUT := yh hput
  have g1 := Box.at (uh HG) 1 _ rfl
  simp only [ga, gb, gc] at g1
  have hgl := (uh HG).lt
  clear hR0 hput
  have x7 : WC.cell? ⟨b, off + k * 11 + 7, none⟩ = some (.int .i64 y.history[k].fin) := (uh HRW).cells 7 (by decide)
  have f7 := (uh HRW).soft (off + k * 11 + 7)
  have bl := (uh HRW).lt
  have e1 : Ext (fun q => q = b) WC (WC.setCell ⟨b, off + k * 11 + 7, none⟩ (.int .i64 y.events)) := (Ext.refl _ _).setCell _ _ rfl
  have hR9 := (uh HRW).set 7 (.int .i64 y.events) (by decide)
  simp only [List.set_cons_succ, List.set_cons_zero] at hR9
  clear HRW
  have HRW := yh hR9
  have HGN := yh ((uh HG).ext e1 (fun e => hbg e.symm))
  have HKN := yh ((uh HK).ext e1 hkb)
  have HXN := yh ((uh HX).trans (e1.mono (fun q _ e => by rw [e]; exact hlb)))
  clear hR9 e1
  go_upto_region 11 with fail
  generalize WC.setCell ⟨b, off + k * 11 + 7, none⟩ (.int .i64 y.events) = Wa at *
  clear x7 f7 bl HG HK HX
  have HG := HGN
  have HK := HKN
  have HX := HXN
  clear HGN HKN HXN
  clear g1 hgl
  have k1 := Box.at (uh HK) 1 _ rfl
  simp only [ga, gb, gc] at k1
  have kl := (uh HK).lt
  have x8 : Wa.cell? ⟨b, off + k * 11 + 8, none⟩ = some (.int .i64 y.history[k].place) := (uh HRW).cells 8 (by decide)
  have f8 := (uh HRW).soft (off + k * 11 + 8)
  have bl := (uh HRW).lt
  have e1 : Ext (fun q => q = b) Wa (Wa.setCell ⟨b, off + k * 11 + 8, none⟩ (.int .i64 ((seenI (y.nodes[kt].writes.take y.nodes[kt].sure.toNat) s q : Nat) : Int))) := (Ext.refl _ _).setCell _ _ rfl
  have hR9 := (uh HRW).set 8 (.int .i64 ((seenI (y.nodes[kt].writes.take y.nodes[kt].sure.toNat) s q : Nat) : Int)) (by decide)
  simp only [List.set_cons_succ, List.set_cons_zero] at hR9
  clear HRW
  have HRW := yh hR9
  have HGN := yh ((uh HG).ext e1 (fun e => hbg e.symm))
  have HKN := yh ((uh HK).ext e1 hkb)
  have HXN := yh ((uh HX).trans (e1.mono (fun q _ e => by rw [e]; exact hlb)))
  clear hR9 e1
  go_upto_region 12 with fail
  generalize Wa.setCell ⟨b, off + k * 11 + 8, none⟩ (.int .i64 ((seenI (y.nodes[kt].writes.take y.nodes[kt].sure.toNat) s q : Nat) : Int)) = Wb at *
  clear x8 f8 bl HG HK HX
  have HG := HGN
  have HK := HKN
  have HX := HXN
  clear HGN HKN HXN
  clear k1 kl
  have hO9 := uh HPUT Wb y.events ((seenI (y.nodes[kt].writes.take y.nodes[kt].sure.toNat) s q : Nat) : Int) (wf_of_bd (uh HEV)) (wf_of_bd (uh HSB)) (uh HRW)
  have HO9 := yh hO9
  have HZ : Hid (finished y s q = setH y k (overE y.history[k] y.events ((seenI (y.nodes[kt].writes.take y.nodes[kt].sure.toNat) s q : Nat) : Int))) := by
   show finished y s q = _
   rw [finished, uh HK2, uh HEA, uh HSW]
  clear hO9 HPUT HRW HK
  go_wp2_with fail
  go_ret2
  unfold StepPostF
  refine ⟨true, by rw [uh HC]; rfl, fun _ => ⟨rfl, ?_⟩, uh HX⟩
  rw [uh HZ]
  exact ⟨_, _, _, _, uh HG, uh HO9⟩
theorem finishMake (s q : Int) (w : World) :
  Calls Tryz.prog 117 #[.agg #[.int .i64 s, .int .i64 q]] w fun e w' => e = .returned (.func (.func 199) #[] #[.pointer (some ⟨w.heap.size, 0, none⟩)]) ∧ w' = (w.alloc (.cells #[.int .i64 s, .int .i64 q] 139)) := by
 have hmf : ∀ (fn : Fn) (first cap : Array Value) (w : World), (Instr.makeFunc fn first cap).run Tryz.prog w = .ok (.func fn first cap) w := fun _ _ _ _ => rfl
 go_enter Tryz.func117, Tryz.ntmps117
 go_wp2_with fail
 go_ret
 exact ⟨rfl, rfl⟩
theorem implFinishWorld (cs : List Value) (x : DWorld) (s q : Int) (w : World) (h : Lay.tWorld.Reads w cs x) (hf : Fits x) :
  Calls Tryz.prog 48 #[.agg cs.toArray, .int .i64 s, .int .i64 q] w fun e w' => ∃ cs', e = .returned (.agg cs'.toArray) ∧ Lay.tWorldResult.OwnIn w' cs' (finWR x s q) w.heap.size w'.heap.size ∧ Below w.heap.size w w' := by
 obtain ⟨a3, d3, a4, d4, a5, d5, a6, d6, rfl, -, -, -, -⟩ := open_World h
 have nb1 : Below w.heap.size w (w.alloc (.cells #[.int .i64 x.now, .int .i64 x.events, .int .i64 x.chain.epoch, .slice a3 x.chain.ids.length d3, .slice a4 x.nodes.length d4, .slice a5 x.msgs.length d5, .slice a6 x.history.length d6] 36)) := (Below.refl _ _).alloc (Nat.le_refl _) _
 have nb : Below w.heap.size w ((w.alloc (.cells #[.int .i64 x.now, .int .i64 x.events, .int .i64 x.chain.epoch, .slice a3 x.chain.ids.length d3, .slice a4 x.nodes.length d4, .slice a5 x.msgs.length d5, .slice a6 x.history.length d6] 36)).alloc (.cells #[.int .i64 0, .bool false, .int .i64 0, .int .i64 0, .int .i64 0, .slice none 0 0, .slice none 0 0, .slice none 0 0, .slice none 0 0] 38)) := nb1.alloc (by simp) _
 have HX : Hid (Box 0 #[.int .i64 x.now, .int .i64 x.events, .int .i64 x.chain.epoch, .slice a3 x.chain.ids.length d3, .slice a4 x.nodes.length d4, .slice a5 x.msgs.length d5, .slice a6 x.history.length d6] 36 ((w.alloc (.cells #[.int .i64 x.now, .int .i64 x.events, .int .i64 x.chain.epoch, .slice a3 x.chain.ids.length d3, .slice a4 x.nodes.length d4, .slice a5 x.msgs.length d5, .slice a6 x.history.length d6] 36)).alloc (.cells #[.int .i64 0, .bool false, .int .i64 0, .int .i64 0, .int .i64 0, .slice none 0 0, .slice none 0 0, .slice none 0 0, .slice none 0 0] 38)) w.heap.size) := (newBox (Nat.zero_le _)).grow _
 have HY : Hid (Box 0 #[.int .i64 0, .bool false, .int .i64 0, .int .i64 0, .int .i64 0, .slice none 0 0, .slice none 0 0, .slice none 0 0, .slice none 0 0] 38 ((w.alloc (.cells #[.int .i64 x.now, .int .i64 x.events, .int .i64 x.chain.epoch, .slice a3 x.chain.ids.length d3, .slice a4 x.nodes.length d4, .slice a5 x.msgs.length d5, .slice a6 x.history.length d6] 36)).alloc (.cells #[.int .i64 0, .bool false, .int .i64 0, .int .i64 0, .int .i64 0, .slice none 0 0, .slice none 0 0, .slice none 0 0, .slice none 0 0] 38)) (w.heap.size + 1)) := newBoxAt (Nat.zero_le _) (by simp)
 have hz0 : ((w.alloc (.cells #[.int .i64 x.now, .int .i64 x.events, .int .i64 x.chain.epoch, .slice a3 x.chain.ids.length d3, .slice a4 x.nodes.length d4, .slice a5 x.msgs.length d5, .slice a6 x.history.length d6] 36)).alloc (.cells #[.int .i64 0, .bool false, .int .i64 0, .int .i64 0, .int .i64 0, .slice none 0 0, .slice none 0 0, .slice none 0 0, .slice none 0 0] 38)).heap.size = w.heap.size + 2 := by simp
 have HR := yh (h.later nb)
 have HB := yh nb
 have HFT := yh hf
 clear nb1 nb h hf
 go_enter Tryz.func48, Tryz.ntmps48
 go_upto_region 1 with fail
 generalize (w.alloc (.cells #[.int .i64 x.now, .int .i64 x.events, .int .i64 x.chain.epoch, .slice a3 x.chain.ids.length d3, .slice a4 x.nodes.length d4, .slice a5 x.msgs.length d5, .slice a6 x.history.length d6] 36)).alloc (.cells #[.int .i64 0, .bool false, .int .i64 0, .int .i64 0, .int .i64 0, .slice none 0 0, .slice none 0 0, .slice none 0 0, .slice none 0 0] 38) = W1 at *
 have LI : Hid (∀ V, Below W1.heap.size W1 V → Calls Tryz.prog 85 #[.agg #[.int .i64 x.now, .int .i64 x.events, .int .i64 x.chain.epoch, .slice a3 x.chain.ids.length d3, .slice a4 x.nodes.length d4, .slice a5 x.msgs.length d5, .slice a6 x.history.length d6]] V fun e w' => e = .returned (.int .i64 (worldFault x)) ∧ Below V.heap.size V w') := fun V hV => implWorldFault _ x V ((uh HR).later hV)
 have LS : Hid (∀ V, Below W1.heap.size W1 V → Calls Tryz.prog 70 #[.agg #[.int .i64 x.now, .int .i64 x.events, .int .i64 x.chain.epoch, .slice a3 x.chain.ids.length d3, .slice a4 x.nodes.length d4, .slice a5 x.msgs.length d5, .slice a6 x.history.length d6], .int .i64 (worldFault x), .func (.func 199) #[] #[.pointer (some ⟨V.heap.size, 0, none⟩)]] (V.alloc (.cells #[.int .i64 s, .int .i64 q] 139)) fun e w' => ∃ cs', e = .returned (.agg cs'.toArray) ∧ Lay.tWorldResult.OwnIn w' cs' (finWR x s q) V.heap.size w'.heap.size ∧ Below V.heap.size V w') := by
  intro V hV
  have nv : Below V.heap.size V (V.alloc (.cells #[.int .i64 s, .int .i64 q] 139)) := (Below.refl _ _).alloc (Nat.le_refl _) _
  refine (steppedC 199 _ _ x (worldFault x) (finC (nextW x) s q) true (finished (nextW x) s q) _ (fun a W => rfl) ((uh HR).later (hV.trans (nv.mono hV.size))) (fun h0 => worldFault_zero h0) (uh HFT) (finC_bd _ _ _) (by have := wf_vals x; omega) (fun h0 W hW => ?_)).mono ?_
  ·
   have hok := worldFault_zero h0
   obtain ⟨kt, hkt, het⟩ := tail_at hok
   exact finishStepC _ kt (V.heap.size) s q (nextW x) W (Box.keep (newBox (Nat.zero_le _)) hW) (by simp) hok.mid.next hkt het (by have := hok.events; show -1000000000 ≤ x.events + 1 ∧ x.events + 1 ≤ 1000000000; omega)
  rintro e w' ⟨cs', rfl, O, hb⟩
  rw [finW_eq] at O
  exact ⟨cs', rfl, O.mono nv.size (Nat.le_refl _), nv.trans (hb.mono nv.size)⟩
 have hx := uh HX
 have hxl := hx.lt
 have HD : Hid (Below W1.heap.size W1 W1.drew) := (Below.refl _ _).drew
 replace HY : Hid (Box 0 #[.int .i64 0, .bool false, .int .i64 0, .int .i64 0, .int .i64 0, .slice none 0 0, .slice none 0 0, .slice none 0 0, .slice none 0 0] 38 W1.drew (w.heap.size + 1)) := (uh HY)
 refine wp_region_noPanic ?_
 refine wp_region_held_drew (S := fun w' => Ext (fun q => w.heap.size < q) W1 w') (by kernel_rfl) ((Ext.refl _ _).drew 1) (fun zq => ?_)
 generalize W1.drew = wD at zq HD HY ⊢
 refine tkJ 0 (v := ?vf0) ?hf0 zq ?rf0
 case hf0 =>
  intro wS hSw
  have bS := hx.ext hSw (fun e => Nat.lt_irrefl _ e)
  have q0 := Box.at bS 0 _ rfl
  have q1 := Box.at bS 1 _ rfl
  have q2 := Box.at bS 2 _ rfl
  have q3 := Box.at bS 3 _ rfl
  have q4 := Box.at bS 4 _ rfl
  have q5 := Box.at bS 5 _ rfl
  have q6 := Box.at bS 6 _ rfl
  simp only [ga, gb, gc] at q0 q1 q2 q3 q4 q5 q6
  clear bS hSw
  (try dsimp only at hSw)
  go_simp
  try with_reducible rfl
 refine tkJ 1 (v := ?vf1) ?hf1 zq ?rf1
 case hf1 =>
  intro wS hSw
  have bS := hx.ext hSw (fun e => Nat.lt_irrefl _ e)
  have q0 := Box.at bS 0 _ rfl
  have q1 := Box.at bS 1 _ rfl
  have q2 := Box.at bS 2 _ rfl
  have q3 := Box.at bS 3 _ rfl
  have q4 := Box.at bS 4 _ rfl
  have q5 := Box.at bS 5 _ rfl
  have q6 := Box.at bS 6 _ rfl
  simp only [ga, gb, gc] at q0 q1 q2 q3 q4 q5 q6
  clear bS hSw
  (try dsimp only at hSw)
  go_simp
  try with_reducible rfl
 refine tkH 3 zq ?_
 refine tkH 4 zq ?_
 refine tkH 5 zq ?_
 refine rdH 2 (fun K hK => ?_)
 go_simp
 go_at_call 85
 refine (uh LI _ (uh HD)).mono ?_
 rintro e u1 ⟨rfl, hb1⟩
 have HD1 := yh ((uh HD).trans (hb1.mono (uh HD).size))
 have HY1 := yh ((uh HY).keep hb1)
 try go_wp2_with fail
 have hH1 := zq.trans (ext_of_below hb1 (fun q => w.heap.size < q))
 refine hK.out _ _ (zq.trans (ext_of_below hb1 _)) (fun zq => ?_)
 clear hK K
 try simp only [Act.put, pz, py, px]
 refine rdH 6 (fun K hK => ?_)
 go_simp
 go_at_call 117
 refine (finishMake s q _).mono ?_
 rintro e u2 ⟨rfl, rfl⟩
 try go_wp2_with fail
 refine hK.out _ _ (zq.trans (ext_of_below ((Below.refl _ _).alloc (Nat.le_refl _) _) _)) (fun zq => ?_)
 clear hK K
 try simp only [Act.put, pz, py, px]
 refine rdH 7 (fun K hK => ?_)
 go_simp
 go_at_call 70
 refine (uh LS u1 (uh HD1)).mono ?_
 rintro e u3 ⟨cs, rfl, O, hb3⟩
 obtain ⟨a5r, d5r, a6r, d6r, a7r, d7r, a8r, d8r, rfl, -⟩ := open_WorldResult O.reads
 have hy := (uh HY1).keep hb3
 try go_wp2_with fail
 refine hK.out _ _ (hH1.trans (ext_of_below hb3 _)) (fun zq => ?_)
 clear hK K
 try simp only [Act.put, pz, py, px]
 refine rdH 8 (fun K hK => ?_)
 generalize hyr : finWR x s q = yr at *
 have HYR := yh hyr
 clear hyr
 have r0 := Box.at hy 0 _ rfl
 have r1 := Box.at hy 1 _ rfl
 have r2 := Box.at hy 2 _ rfl
 have r3 := Box.at hy 3 _ rfl
 have r4 := Box.at hy 4 _ rfl
 have r5 := Box.at hy 5 _ rfl
 have r6 := Box.at hy 6 _ rfl
 have r7 := Box.at hy 7 _ rfl
 have r8 := Box.at hy 8 _ rfl
 simp only [ga, gb, gc] at r0 r1 r2 r3 r4 r5 r6 r7 r8
 have rf := Box.soft hy
 have rl := hy.lt
 go_simp
 refine hK.out _ _ (Ext.setCell (Ext.setCell (Ext.setCell (Ext.setCell (Ext.setCell (Ext.setCell (Ext.setCell (Ext.setCell (Ext.setCell zq ⟨w.heap.size + 1, 0, none⟩ (.int .i64 yr.code) (Nat.lt_succ_self _)) ⟨w.heap.size + 1, 1, none⟩ (.bool yr.moved) (Nat.lt_succ_self _)) ⟨w.heap.size + 1, 2, none⟩ (.int .i64 yr.world.now) (Nat.lt_succ_self _)) ⟨w.heap.size + 1, 3, none⟩ (.int .i64 yr.world.events) (Nat.lt_succ_self _)) ⟨w.heap.size + 1, 4, none⟩ (.int .i64 yr.world.chain.epoch) (Nat.lt_succ_self _)) ⟨w.heap.size + 1, 5, none⟩ (.slice a5r yr.world.chain.ids.length d5r) (Nat.lt_succ_self _)) ⟨w.heap.size + 1, 6, none⟩ (.slice a6r yr.world.nodes.length d6r) (Nat.lt_succ_self _)) ⟨w.heap.size + 1, 7, none⟩ (.slice a7r yr.world.msgs.length d7r) (Nat.lt_succ_self _)) ⟨w.heap.size + 1, 8, none⟩ (.slice a8r yr.world.history.length d8r) (Nat.lt_succ_self _)) (fun zq => ?_)
 clear hK K
 try simp only [Act.put, pz, py, px]
 refine wpAnyH_done (by kernel_rfl) ?_ _
 refine NoPanic.normal ?_
 have hy9 := box_set9W hy (.int .i64 yr.code) (.bool yr.moved) (.int .i64 yr.world.now) (.int .i64 yr.world.events) (.int .i64 yr.world.chain.epoch) (.slice a5r yr.world.chain.ids.length d5r) (.slice a6r yr.world.nodes.length d6r) (.slice a7r yr.world.msgs.length d7r) (.slice a8r yr.world.history.length d8r)
 have e2 : Ext (fun q => q = w.heap.size + 1) u3 (setAll u3 (w.heap.size + 1) 0 [.int .i64 yr.code, .bool yr.moved, .int .i64 yr.world.now, .int .i64 yr.world.events, .int .i64 yr.world.chain.epoch, .slice a5r yr.world.chain.ids.length d5r, .slice a6r yr.world.nodes.length d6r, .slice a7r yr.world.msgs.length d7r, .slice a8r yr.world.history.length d8r]) := ext_setAll _ (Ext.refl _ _) _ _ _ rfl
 have hs1 := hb1.size
 have hs2 := (uh HB).size
 have hs3 := (uh HD).size
 have HO := yh (O.ext e2 (fun q h1 h2 h3 => by omega))
 have HB9 := yh (below_setAll (((uh HB).trans ((uh HD1).mono (uh HB).size)).trans (hb3.mono (by omega))) (w.heap.size + 1) 0 [.int .i64 yr.code, .bool yr.moved, .int .i64 yr.world.now, .int .i64 yr.world.events, .int .i64 yr.world.chain.epoch, .slice a5r yr.world.chain.ids.length d5r, .slice a6r yr.world.nodes.length d6r, .slice a7r yr.world.msgs.length d7r, .slice a8r yr.world.history.length d8r] (by omega))
 have hsz : Hid ((setAll u3 (w.heap.size + 1) 0 [.int .i64 yr.code, .bool yr.moved, .int .i64 yr.world.now, .int .i64 yr.world.events, .int .i64 yr.world.chain.epoch, .slice a5r yr.world.chain.ids.length d5r, .slice a6r yr.world.nodes.length d6r, .slice a7r yr.world.msgs.length d7r, .slice a8r yr.world.history.length d8r]).heap.size = u3.heap.size) := size_setAll _ _ _ _
 clear r0 r1 r2 r3 r4 r5 r6 r7 r8 rf rl
 have r0 := Box.at hy9 0 _ rfl
 have r1 := Box.at hy9 1 _ rfl
 have r2 := Box.at hy9 2 _ rfl
 have r3 := Box.at hy9 3 _ rfl
 have r4 := Box.at hy9 4 _ rfl
 have r5 := Box.at hy9 5 _ rfl
 have r6 := Box.at hy9 6 _ rfl
 have r7 := Box.at hy9 7 _ rfl
 have r8 := Box.at hy9 8 _ rfl
 simp only [ga, gb, gc] at r0 r1 r2 r3 r4 r5 r6 r7 r8
 clear hy hy9 zq e2 O hb3 hb1
 go_wp2_with fail
 refine bodyPost_ret (v := .agg #[.int .i64 yr.code, .bool yr.moved, .int .i64 yr.world.now, .int .i64 yr.world.events, .int .i64 yr.world.chain.epoch, .slice a5r yr.world.chain.ids.length d5r, .slice a6r yr.world.nodes.length d6r, .slice a7r yr.world.msgs.length d7r, .slice a8r yr.world.history.length d8r]) (by simp only [setAll] at r0 r1 r2 r3 r4 r5 r6 r7 r8; simp [results, Tryz.results48, go_sem, r0, r1, r2, r3, r4, r5, r6, r7, r8]) rfl ?_
 rw [uh HYR]
 exact ⟨_, rfl, (uh HO).mono (by omega) (Nat.le_of_eq (uh hsz).symm), uh HB9⟩
theorem cnt_set_over : ∀ (es : List DEntry) (k : Nat) (hk : k < es.length) (f p : Int), cntAll Lay.tEntry.cnt (es.set k (overE es[k] f p)) = cntAll Lay.tEntry.cnt es
 | [], _, hk, _, _ => by simp at hk
 | x :: xs, 0, _, f, p => by
  simp only [List.set_cons_zero, List.getElem_cons_zero, cntAll]
  rfl
 | x :: xs, k + 1, hk, f, p => by
  have := cnt_set_over xs k (by simpa using hk) f p
  simp only [List.set_cons_succ, List.getElem_cons_succ, cntAll]
  rw [this]
theorem finWR_few {x : DWorld} {s q : Int} (hs : Lay.tWorld.sz x ≤ 1048576) : Lay.tWorldResult.vcnt (finWR x s q) ≤ 100000000 := by
 unfold finWR
 split
 ·
  exact badW_few _
 rename_i c
 have hF := few_of_ok (worldFault_zero (asked13_ok (by simpa using c))) hs
 split
 ·
  exact badW_few _
 rename_i c1
 split
 ·
  exact badW_few _
 split
 ·
  exact badW_few _
 obtain ⟨k, hk, -, hk2⟩ := toldP_some (es := x.history) (s := s) (q := q) (by omega)
 have hea : entryAt x s q = x.history[k] := by
  rw [entryAt, hk2]
  simp [List.getD, hk]
 have e1 : toldI (nextW x).history s q = k := hk2
 have e2 : entryAt (nextW x) s q = x.history[k] := hea
 refine few_vcnt ⟨hF.ids, hF.len, hF.nodes, hF.mlen, hF.msgs, ?_⟩
 show cntAll Lay.tEntry.cnt (finished (nextW x) s q).history ≤ 20000000
 rw [finished, e1, e2]
 have := cnt_set_over x.history k hk (nextW x).events ((seenI (sureWs (nextW x)) s q : Nat) : Int)
 show cntAll Lay.tEntry.cnt (x.history.set k (overE x.history[k] (nextW x).events ((seenI (sureWs (nextW x)) s q : Nat) : Int))) ≤ 20000000
 rw [this]
 exact hF.hist
theorem lawFinishWorld (cs : List Value) (x : DWorld) (s q : Int) (w : World) (h : Lay.tWorld.Reads w cs x) :
  Calls Tryz.prog 12 #[.agg cs.toArray, .int .i64 s, .int .i64 q] w fun e w' => e = .returned (.bool true) ∧ Below w.heap.size w w' := by
 by_cases hn : Lay.tWorld.sz x ≤ 1048576
 ·
  refine lawx_FinishWorld cs x s q (finWR x s q) w h hn (fun W a ha => specFinishWorld a x s q W ha (fits_of_sz hn)) (fun W a ha => implFinishWorld a x s q W ha (fits_of_sz hn)) (finWR_few hn)
 exact lawover_FinishWorld cs x s q w h (by omega)
end Go.Proofs.YtoanimpijfijgaaGreat
