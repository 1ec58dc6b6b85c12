/-
  Texts of this proof in one: SpecJoinW, WorldChain, WorldUpd, FloatNat, Clock, ImplClock, ImplInst, ImplChanged, ImplJoinC, ImplTakeO, ImplTail, ImplJoinS, ImplJoinW, LawJoinW.
  Their conditions stand in their theorems.
-/
import Derived.Test.YtoanimpijfijgaaGreatJn11
import Derived.Test.YtoanimpijfijgaaGreatJn06
import Derived.Deep.RegionHeld3
import Derived.Test.YtoanimpijfijgaaGreatJn00
import Derived.Test.YtoanimpijfijgaaGreatJn03
import Derived.Test.YtoanimpijfijgaaGreatJn01
import Derived.Laws.ComplexArith
import Derived.Test.YtoanimpijfijgaaGreatChecked
import Derived.Deep.CutRange
import Derived.Test.YtoanimpijfijgaaGreatJn08
import Derived.Test.YtoanimpijfijgaaGreatJn07
import Derived.Test.YtoanimpijfijgaaGreatJn10
import Derived.Test.YtoanimpijfijgaaGreatJn09
import Derived.Deep.QuietTactic
import Derived.BigQuiet
import Derived.Test.YtoanimpijfijgaaGreatJn04
import Derived.Test.YtoanimpijfijgaaGreatJn05
set_option maxRecDepth 100000
set_option maxHeartbeats 4000000
namespace Go.Proofs.YtoanimpijfijgaaGreat
open Go.RowKit
theorem specJoinWorld (cs : List Value) (x : DWorld) (id : Int) (w : World) (h : Lay.tWorld.Reads w cs x) (hf : Fits x) :
  Calls Tryz.prog 32 #[.agg cs.toArray, .int .i64 id] w fun e w' => ∃ cs', e = .returned (.agg cs'.toArray) ∧ Lay.tWorldResult.Reads w' cs' (joinWR x id) ∧ Below w.heap.size w w' := by
 have HP : Hid (joinWR x id = if askedW x id ≠ 0 then badWorld (askedW x id) else if (joinR x.chain id).code ≠ 0 then badWorld (joinR x.chain id).code else if canJoin x id = true then ⟨0, true, instPW (withChain (putNode (nextW x) (tookN (nodeOf x id) (nodeOf x (tailId x)))) (joinR x.chain id).chain) (joinR x.chain id).chain.ids⟩ else badWorld 10) := rfl
 obtain ⟨a3, d3, a4, d4, a5, d5, a6, d6, rfl, -, -, -, -⟩ := open_World h
 have HBN : Hid (∀ b off, a4 = some ⟨b, off, none⟩ → 0 < x.nodes.length → b < w.heap.size) := fun b off e hp => by
  obtain ⟨_, _, _, _, _, _, _, _, hq, -, RN, -, -⟩ := open_World h
  simp only [List.cons.injEq, Value.slice.injEq, and_true, true_and] at hq
  obtain ⟨-, ⟨rfl, rfl⟩, -, -, -⟩ := hq
  obtain ⟨b', off', e', hb⟩ := Lay.sl_addr RN hp
  rw [e] at e'
  simp only [Option.some.injEq, Addr.mk.injEq, and_true] at e'
  obtain ⟨rfl, -⟩ := e'
  exact hb
 have nb : Below w.heap.size w ((w.alloc (.cells #[.int .i64 x.now, .int .i64 x.events, .int .i64 x.chain.epoch, .slice a3 x.chain.ids.length d3, .slice a4 x.nodes.length d4, .slice a5 x.msgs.length d5, .slice a6 x.history.length d6] 36)).alloc (.cells #[.int .i64 0, .bool false, .int .i64 0, .int .i64 0, .int .i64 0, .slice none 0 0, .slice none 0 0, .slice none 0 0, .slice none 0 0] 38)) := ((Below.refl _ _).alloc (Nat.le_refl _) _).alloc (by simp) _
 have HX : Hid (Box 0 #[.int .i64 x.now, .int .i64 x.events, .int .i64 x.chain.epoch, .slice a3 x.chain.ids.length d3, .slice a4 x.nodes.length d4, .slice a5 x.msgs.length d5, .slice a6 x.history.length d6] 36 ((w.alloc (.cells #[.int .i64 x.now, .int .i64 x.events, .int .i64 x.chain.epoch, .slice a3 x.chain.ids.length d3, .slice a4 x.nodes.length d4, .slice a5 x.msgs.length d5, .slice a6 x.history.length d6] 36)).alloc (.cells #[.int .i64 0, .bool false, .int .i64 0, .int .i64 0, .int .i64 0, .slice none 0 0, .slice none 0 0, .slice none 0 0, .slice none 0 0] 38)) w.heap.size) := ((newBox (Nat.zero_le _)).grow _)
 have HY : Hid (Box 0 #[.int .i64 0, .bool false, .int .i64 0, .int .i64 0, .int .i64 0, .slice none 0 0, .slice none 0 0, .slice none 0 0, .slice none 0 0] 38 ((w.alloc (.cells #[.int .i64 x.now, .int .i64 x.events, .int .i64 x.chain.epoch, .slice a3 x.chain.ids.length d3, .slice a4 x.nodes.length d4, .slice a5 x.msgs.length d5, .slice a6 x.history.length d6] 36)).alloc (.cells #[.int .i64 0, .bool false, .int .i64 0, .int .i64 0, .int .i64 0, .slice none 0 0, .slice none 0 0, .slice none 0 0, .slice none 0 0] 38)) (w.heap.size + 1)) := newBoxAt (Nat.zero_le _) (by simp)
 have hz0 : ((w.alloc (.cells #[.int .i64 x.now, .int .i64 x.events, .int .i64 x.chain.epoch, .slice a3 x.chain.ids.length d3, .slice a4 x.nodes.length d4, .slice a5 x.msgs.length d5, .slice a6 x.history.length d6] 36)).alloc (.cells #[.int .i64 0, .bool false, .int .i64 0, .int .i64 0, .int .i64 0, .slice none 0 0, .slice none 0 0, .slice none 0 0, .slice none 0 0] 38)).heap.size = w.heap.size + 2 := by simp
 have HR := yh (h.later nb)
 have HB := yh nb
 clear nb
 clear h
 generalize joinWR x id = R at *
 go_enter Tryz.func32, Tryz.ntmps32
 go_upto_region 1 with fail
 generalize ((w.alloc (.cells #[.int .i64 x.now, .int .i64 x.events, .int .i64 x.chain.epoch, .slice a3 x.chain.ids.length d3, .slice a4 x.nodes.length d4, .slice a5 x.msgs.length d5, .slice a6 x.history.length d6] 36)).alloc (.cells #[.int .i64 0, .bool false, .int .i64 0, .int .i64 0, .int .i64 0, .slice none 0 0, .slice none 0 0, .slice none 0 0, .slice none 0 0] 38)) = W0 at *
 go_wp2_with fail
 refine (l12AskedC a3 d3 a4 d4 a5 d5 a6 d6 x id w.heap.size W0 (uh HX) (uh HR)).mono ?_
 rintro e wa ⟨rfl, hb⟩
 replace HX := yh ((uh HX).keep hb)
 replace HR := yh ((uh HR).later hb)
 replace HY := yh ((uh HY).keep hb)
 replace HB := yh ((uh HB).trans (hb.mono (uh HB).size))
 have hza := hb.size
 clear hb
 by_cases d1 : askedW x id ≠ 0
 ·
  have hd : (askedW x id != 0) = true := by simpa using d1
  replace HP := yh ((uh HP).trans (if_pos d1))
  have HC := yh (asked_bd x id)
  clear d1 hf 
  generalize askedW x id = c at *
  go_wp2_with fail
  refine (l12BadCZ (c) _).mono ?_
  rintro e wB ⟨rfl, hbB⟩
  have hyB := (uh HY).keep hbB
  have z0 := Box.at hyB 0 _ rfl
  have z1 := Box.at hyB 1 _ rfl
  have z2 := Box.at hyB 2 _ rfl
  have z3 := Box.at hyB 3 _ rfl
  have z4 := Box.at hyB 4 _ rfl
  have z5 := Box.at hyB 5 _ rfl
  have z6 := Box.at hyB 6 _ rfl
  have z7 := Box.at hyB 7 _ rfl
  have z8 := Box.at hyB 8 _ rfl
  simp only [ga, gb, gc] at z0 z1 z2 z3 z4 z5 z6 z7 z8
  have zf := Box.soft hyB
  have zl := hyB.lt
  have HB9 := yh (below_setAll ((uh HB).trans (hbB.mono (uh HB).size)) (w.heap.size + 1) 0 [.int .i64 c, .bool false, .int .i64 0, .int .i64 0, .int .i64 0, .slice none 0 0, .slice none 0 0, .slice none 0 0, .slice none 0 0] (by omega))
  clear hyB hbB HY HB
  go_wp2_with fail
  refine bodyPost_ret (v := .agg #[.int .i64 c, .bool false, .int .i64 0, .int .i64 0, .int .i64 0, .slice none 0 0, .slice none 0 0, .slice none 0 0, .slice none 0 0]) (by simp [results, Tryz.results32, go_sem, z0, z1, z2, z3, z4, z5, z6, z7, z8]) rfl ?_
  rw [uh HP]
  exact ⟨[.int .i64 c, .bool false, .int .i64 0, .int .i64 0, .int .i64 0, .slice none 0 0, .slice none 0 0, .slice none 0 0, .slice none 0 0], rfl, (own_badW (uh HC) (lo := 0) (hi := 0) (Nat.le_refl 0)).lies.reads, uh HB9⟩
 replace HP := yh ((uh HP).trans (if_neg d1))
 have hd0 : askedW x id = 0 := by simpa using d1
 obtain ⟨hwf, hni⟩ := asked_zero hd0
 have hok := worldFault_zero hwf
 obtain ⟨k, hk, rfl⟩ := nodeIn_at hni
 rw [hd0]
 clear d1 hd0 hwf hni
 obtain ⟨kt, hkt, het⟩ := tail_at hok
 obtain ⟨_, _, _, _, _, _, _, _, hq, RC, RN, -, -⟩ := open_World (uh HR)
 simp only [List.cons.injEq, Value.slice.injEq, and_true, true_and] at hq
 obtain ⟨⟨rfl, rfl⟩, ⟨rfl, rfl⟩, -, -, -⟩ := hq
 obtain ⟨b0, off0, rfl, hbl⟩ := Lay.sl_addr RN (by omega)
 have hbw := uh HBN b0 off0 rfl (by omega)
 have HLE : Hid (canJoin x ((k : Int) + 1) = (x.nodes[k].up && memberB x ((kt : Int) + 1))) := by
  show canJoin x _ = _
  rw [canJoin, nodeOf_at hk, het]
 have HTI := yh het
 have HLC := yh (specJoinChain _ x.chain ((k : Int) + 1) wa RC)
 have HCB := yh (joinR_bd x.chain ((k : Int) + 1))
 have HOK := yh hok
 have HIT := yh (hok.nodes kt hkt).2.1
 have hn5 := hok.some.2
 have hw1 : IntKind.i64.wrap (k : Int) = (k : Int) := by
  have := hok.some
  rw [IntKind.wrap_i64]
  omega
 have hki : (k : Int) < (x.nodes.length : Int) := by omega
 have hki0 : (0 : Int) ≤ (k : Int) := by omega
 have z2 := Box.at (uh HX) 2 _ rfl
 have z3 := Box.at (uh HX) 3 _ rfl
 simp only [ga, gb, gc] at z2 z3
 have zl := (uh HX).lt
 clear RC RN hok het
 generalize joinR x.chain ((k : Int) + 1) = cr at *
 go_wp2_with fail
 refine (uh HLC).mono ?_
 rintro e w3 ⟨rs, rfl, O0, hb3⟩
 obtain ⟨a5c, m5, d5c, rfl, hm5, Oi, hwe⟩ := own_chainR_parts O0
 subst hm5
 have HWE := yh hwe
 have nb3 : Below w3.heap.size w3 (w3.alloc (.cells #[.int .i64 cr.code, .int .i64 cr.chain.epoch, .slice a5c cr.chain.ids.length d5c] 111)) := (Below.refl _ _).alloc (Nat.le_refl _) _
 have HN : Hid (Box 0 #[.int .i64 cr.code, .int .i64 cr.chain.epoch, .slice a5c cr.chain.ids.length d5c] 111 (w3.alloc (.cells #[.int .i64 cr.code, .int .i64 cr.chain.epoch, .slice a5c cr.chain.ids.length d5c] 111)) w3.heap.size) := newBox (Nat.zero_le _)
 replace HX := yh (((uh HX).keep hb3).keep nb3)
 replace HR := yh (((uh HR).later hb3).later nb3)
 replace HY := yh (((uh HY).keep hb3).keep nb3)
 replace HB := yh ((uh HB).trans ((hb3.trans (nb3.mono hb3.size)).mono (uh HB).size))
 have HM := yh (Oi.lies.ext (ext_of_below nb3 nowhere) (fun _ _ _ q => q))
 have hz3 := hb3.size
 have hz4 : w3.heap.size < (w3.alloc (.cells #[.int .i64 cr.code, .int .i64 cr.chain.epoch, .slice a5c cr.chain.ids.length d5c] 111)).heap.size := by simp
 clear hb3 nb3 HLC z2 z3 zl Oi O0 hwe
 go_upto_region 5 with fail
 generalize w3.alloc (.cells #[.int .i64 cr.code, .int .i64 cr.chain.epoch, .slice a5c cr.chain.ids.length d5c] 111) = w4 at *
 have n0 := Box.at (uh HN) 0 _ rfl
 simp only [List.getElem_toArray, List.getElem_cons_zero] at n0
 have nl := (uh HN).lt
 by_cases d2 : cr.code ≠ 0
 ·
  have hd2 : (cr.code != 0) = true := by simpa using d2
  replace HP := yh ((uh HP).trans (if_pos d2))
  clear d2 HN HM HOK hf HLE
  generalize cr.code = cc at *
  go_wp2_with fail
  refine (l12BadCZ (cc) _).mono ?_
  rintro e wB ⟨rfl, hbB⟩
  have hyB := (uh HY).keep hbB
  have z0 := Box.at hyB 0 _ rfl
  have z1 := Box.at hyB 1 _ rfl
  have z2 := Box.at hyB 2 _ rfl
  have z3 := Box.at hyB 3 _ rfl
  have z4 := Box.at hyB 4 _ rfl
  have z5 := Box.at hyB 5 _ rfl
  have z6 := Box.at hyB 6 _ rfl
  have z7 := Box.at hyB 7 _ rfl
  have z8 := Box.at hyB 8 _ rfl
  simp only [ga, gb, gc] at z0 z1 z2 z3 z4 z5 z6 z7 z8
  have zf := Box.soft hyB
  have zl := hyB.lt
  have HB9 := yh (below_setAll ((uh HB).trans (hbB.mono (uh HB).size)) (w.heap.size + 1) 0 [.int .i64 cc, .bool false, .int .i64 0, .int .i64 0, .int .i64 0, .slice none 0 0, .slice none 0 0, .slice none 0 0, .slice none 0 0] (by omega))
  clear hyB hbB HY HB
  go_wp2_with fail
  refine bodyPost_ret (v := .agg #[.int .i64 cc, .bool false, .int .i64 0, .int .i64 0, .int .i64 0, .slice none 0 0, .slice none 0 0, .slice none 0 0, .slice none 0 0]) (by simp [results, Tryz.results32, go_sem, z0, z1, z2, z3, z4, z5, z6, z7, z8]) rfl ?_
  rw [uh HP]
  exact ⟨[.int .i64 cc, .bool false, .int .i64 0, .int .i64 0, .int .i64 0, .slice none 0 0, .slice none 0 0, .slice none 0 0, .slice none 0 0], rfl, (own_badW (uh HCB) (lo := 0) (hi := 0) (Nat.le_refl 0)).lies.reads, uh HB9⟩
 have hd2 : (cr.code != 0) = false := by simpa using d2
 replace HP := yh ((uh HP).trans (if_neg d2))
 clear d2
 have HLT := yh (l13TailC a3 d3 d4 a5 d5 a6 d6 b0 off0 kt x w.heap.size w4 (uh HX) (uh HR) (uh HOK) hkt (uh HTI))
 go_wp2_with fail
 refine (uh HLT).mono ?_
 rintro e w5 ⟨rfl, hb5⟩
 replace HX := yh ((uh HX).keep hb5)
 replace HR := yh ((uh HR).later hb5)
 replace HY := yh ((uh HY).keep hb5)
 replace HB := yh ((uh HB).trans (hb5.mono (uh HB).size))
 replace HN := yh ((uh HN).keep hb5)
 replace HM := yh ((uh HM).ext (ext_of_below hb5 nowhere) (fun _ _ _ q => q))
 have hz5 := hb5.size
 clear hb5 HLT n0 nl hd2
 obtain ⟨_, _, _, _, _, _, _, _, hq, -, RN, -, -⟩ := open_World (uh HR)
 simp only [List.cons.injEq, Value.slice.injEq, and_true, true_and] at hq
 obtain ⟨-, ⟨rfl, rfl⟩, -, -, -⟩ := hq
 obtain ⟨row, hcl, hr⟩ := Lay.row_at RN hk
 obtain ⟨an, dn, rfl, -⟩ := open_Node hr
 have x1 : w5.cell? ⟨b0, off0 + k * 7 + 1, none⟩ = some (.bool x.nodes[k].up) := hcl 1 (by decide)
 obtain ⟨rowt, hclt, hrt⟩ := Lay.row_at RN hkt
 obtain ⟨at', dt, rfl, -⟩ := open_Node hrt
 have x0 : w5.cell? ⟨b0, off0 + kt * 7, none⟩ = some (.int .i64 x.nodes[kt].id) := hclt 0 (by decide)
 rw [uh HIT] at x0
 have z4 := Box.at (uh HX) 4 _ rfl
 simp only [ga, gb, gc] at z4
 have zl := (uh HX).lt
 have HLM := yh (l12MemberC a3 d3 b0 off0 d4 a5 d5 a6 d6 x kt w.heap.size w5 (uh HX) (uh HR) hkt hn5)
 clear RN hcl hr hclt hrt
 cases hup : x.nodes[k].up
 ·
  rw [hup] at x1
  have HLF : Hid (canJoin x ((k : Int) + 1) = false) := by
   show canJoin x _ = false
   rw [uh HLE, hup]
   rfl
  replace HP := yh ((uh HP).trans (if_neg (by rw [uh HLF]; decide)))
  have HC : Hid (-1000000000 ≤ (10 : Int) ∧ (10 : Int) ≤ 1000000000) := by show (-1000000000 : Int) ≤ 10 ∧ (10 : Int) ≤ 1000000000; omega
  clear HLF HLE hup HLM HN HM HOK hf
  go_wp2_with fail
  refine (l12BadCZ (10) _).mono ?_
  rintro e wB ⟨rfl, hbB⟩
  have hyB := (uh HY).keep hbB
  have z0 := Box.at hyB 0 _ rfl
  have z1 := Box.at hyB 1 _ rfl
  have z2 := Box.at hyB 2 _ rfl
  have z3 := Box.at hyB 3 _ rfl
  have z4 := Box.at hyB 4 _ rfl
  have z5 := Box.at hyB 5 _ rfl
  have z6 := Box.at hyB 6 _ rfl
  have z7 := Box.at hyB 7 _ rfl
  have z8 := Box.at hyB 8 _ rfl
  simp only [ga, gb, gc] at z0 z1 z2 z3 z4 z5 z6 z7 z8
  have zf := Box.soft hyB
  have zl := hyB.lt
  have HB9 := yh (below_setAll ((uh HB).trans (hbB.mono (uh HB).size)) (w.heap.size + 1) 0 [.int .i64 10, .bool false, .int .i64 0, .int .i64 0, .int .i64 0, .slice none 0 0, .slice none 0 0, .slice none 0 0, .slice none 0 0] (by omega))
  clear hyB hbB HY HB
  go_wp2_with fail
  refine bodyPost_ret (v := .agg #[.int .i64 10, .bool false, .int .i64 0, .int .i64 0, .int .i64 0, .slice none 0 0, .slice none 0 0, .slice none 0 0, .slice none 0 0]) (by simp [results, Tryz.results32, go_sem, z0, z1, z2, z3, z4, z5, z6, z7, z8]) rfl ?_
  rw [uh HP]
  exact ⟨[.int .i64 10, .bool false, .int .i64 0, .int .i64 0, .int .i64 0, .slice none 0 0, .slice none 0 0, .slice none 0 0, .slice none 0 0], rfl, (own_badW (uh HC) (lo := 0) (hi := 0) (Nat.le_refl 0)).lies.reads, uh HB9⟩
 rw [hup] at x1
 have HUP := yh hup
 clear hup
 go_wp2_with fail
 refine (uh HLM).mono ?_
 rintro e w6 ⟨rfl, hb6⟩
 replace HX := yh ((uh HX).keep hb6)
 replace HR := yh ((uh HR).later hb6)
 replace HY := yh ((uh HY).keep hb6)
 replace HB := yh ((uh HB).trans (hb6.mono (uh HB).size))
 replace HN := yh ((uh HN).keep hb6)
 replace HM := yh ((uh HM).ext (ext_of_below hb6 nowhere) (fun _ _ _ q => q))
 have hz6 := hb6.size
 clear hb6 HLM x1 x0 z4 zl
 cases hmb : memberB x ((kt : Int) + 1)
 ·
  have HLF : Hid (canJoin x ((k : Int) + 1) = false) := by
   show canJoin x _ = false
   rw [uh HLE, uh HUP, hmb]
   rfl
  replace HP := yh ((uh HP).trans (if_neg (by rw [uh HLF]; decide)))
  have HC : Hid (-1000000000 ≤ (10 : Int) ∧ (10 : Int) ≤ 1000000000) := by show (-1000000000 : Int) ≤ 10 ∧ (10 : Int) ≤ 1000000000; omega
  clear HLF HLE hmb HN HM HOK hf
  go_wp2_with fail
  refine (l12BadCZ (10) _).mono ?_
  rintro e wB ⟨rfl, hbB⟩
  have hyB := (uh HY).keep hbB
  have z0 := Box.at hyB 0 _ rfl
  have z1 := Box.at hyB 1 _ rfl
  have z2 := Box.at hyB 2 _ rfl
  have z3 := Box.at hyB 3 _ rfl
  have z4 := Box.at hyB 4 _ rfl
  have z5 := Box.at hyB 5 _ rfl
  have z6 := Box.at hyB 6 _ rfl
  have z7 := Box.at hyB 7 _ rfl
  have z8 := Box.at hyB 8 _ rfl
  simp only [ga, gb, gc] at z0 z1 z2 z3 z4 z5 z6 z7 z8
  have zf := Box.soft hyB
  have zl := hyB.lt
  have HB9 := yh (below_setAll ((uh HB).trans (hbB.mono (uh HB).size)) (w.heap.size + 1) 0 [.int .i64 10, .bool false, .int .i64 0, .int .i64 0, .int .i64 0, .slice none 0 0, .slice none 0 0, .slice none 0 0, .slice none 0 0] (by omega))
  clear hyB hbB HY HB
  go_wp2_with fail
  refine bodyPost_ret (v := .agg #[.int .i64 10, .bool false, .int .i64 0, .int .i64 0, .int .i64 0, .slice none 0 0, .slice none 0 0, .slice none 0 0, .slice none 0 0]) (by simp [results, Tryz.results32, go_sem, z0, z1, z2, z3, z4, z5, z6, z7, z8]) rfl ?_
  rw [uh HP]
  exact ⟨[.int .i64 10, .bool false, .int .i64 0, .int .i64 0, .int .i64 0, .slice none 0 0, .slice none 0 0, .slice none 0 0, .slice none 0 0], rfl, (own_badW (uh HC) (lo := 0) (hi := 0) (Nat.le_refl 0)).lies.reads, uh HB9⟩
 have HLF : Hid (canJoin x ((k : Int) + 1) = true) := by
  show canJoin x _ = true
  rw [uh HLE, uh HUP, hmb]
  rfl
 replace HP := yh ((uh HP).trans (if_pos (uh HLF)))
 clear HLF HLE hmb HUP
 have HL := yh (l12NextC _ x w6 (uh HR) (uh HOK) hf)
 have z0 := Box.at (uh HX) 0 _ rfl
 have z1 := Box.at (uh HX) 1 _ rfl
 have z2 := Box.at (uh HX) 2 _ rfl
 have z3 := Box.at (uh HX) 3 _ rfl
 have z4 := Box.at (uh HX) 4 _ rfl
 have z5 := Box.at (uh HX) 5 _ rfl
 have z6 := Box.at (uh HX) 6 _ rfl
 simp only [ga, gb, gc] at z0 z1 z2 z3 z4 z5 z6
 have zl := (uh HX).lt
 go_wp2_with fail
 clear z0 z1 z2 z3 z4 z5 z6 zl
 refine (uh HL).mono ?_
 rintro e W1 ⟨cs', rfl, O, hb⟩
 have hop := open_World O.reads
 dsimp only [nextW] at hop
 obtain ⟨a3w, d3w, a4w, d4w, a5w, d5w, a6w, d6w, rfl, -⟩ := hop
 have hz1 : w6.heap.size ≤ W1.heap.size := hb.size
 have nb : Below W1.heap.size W1 (W1.alloc (.cells #[.int .i64 x.now, .int .i64 (x.events + 1), .int .i64 x.chain.epoch, .slice a3w x.chain.ids.length d3w, .slice a4w x.nodes.length d4w, .slice a5w x.msgs.length d5w, .slice a6w x.history.length d6w] 36)) := (Below.refl _ _).alloc (Nat.le_refl _) _
 have HG : Hid (Box 0 #[.int .i64 x.now, .int .i64 (x.events + 1), .int .i64 x.chain.epoch, .slice a3w x.chain.ids.length d3w, .slice a4w x.nodes.length d4w, .slice a5w x.msgs.length d5w, .slice a6w x.history.length d6w] 36 (W1.alloc (.cells #[.int .i64 x.now, .int .i64 (x.events + 1), .int .i64 x.chain.epoch, .slice a3w x.chain.ids.length d3w, .slice a4w x.nodes.length d4w, .slice a5w x.msgs.length d5w, .slice a6w x.history.length d6w] 36)) W1.heap.size) := newBox (Nat.zero_le _)
 have HO := yh ((O.later nb).st (G := fun c => c < 0 ∨ c < wa.heap.size ∨ c = W1.heap.size) (fun k hk => by omega))
 replace HX := yh (((uh HX).keep hb).keep nb)
 replace HR := yh (((uh HR).later hb).later nb)
 replace HY := yh (((uh HY).keep hb).keep nb)
 replace HB := yh ((uh HB).trans ((hb.trans (nb.mono hb.size)).mono (uh HB).size))
 have hz2 : W1.heap.size < (W1.alloc (.cells #[.int .i64 x.now, .int .i64 (x.events + 1), .int .i64 x.chain.epoch, .slice a3w x.chain.ids.length d3w, .slice a4w x.nodes.length d4w, .slice a5w x.msgs.length d5w, .slice a6w x.history.length d6w] 36)).heap.size := by simp
 have HBW := yh (hb.trans (nb.mono hb.size))
 have HN2 := yh (((uh HN).keep hb).keep nb)
 clear nb O hb HL HN
 go_upto_region 11 with fail
 generalize W1.alloc (.cells #[.int .i64 x.now, .int .i64 (x.events + 1), .int .i64 x.chain.epoch, .slice a3w x.chain.ids.length d3w, .slice a4w x.nodes.length d4w, .slice a5w x.msgs.length d5w, .slice a6w x.history.length d6w] 36) = W2 at *
 obtain ⟨b, off, d4', row0, e4, hb1, hb2, hb3, hbG, -, -, -, -⟩ := wst_put (y := nextW x) (uh HO) hk
 simp only [Value.slice.injEq] at e4
 obtain ⟨rfl, -, rfl⟩ := e4
 have y4 := Box.at (uh HG) 4 _ rfl
 simp only [ga, gb, gc] at y4
 have yl := (uh HG).lt
 have hgb : W1.heap.size ≠ b := fun e => hbG (Or.inr (Or.inr e.symm))
 have hyb : w.heap.size + 1 ≠ b := by omega
 have hnb : w3.heap.size ≠ b := by omega
 have hb0b : b0 ≠ b := by omega
 go_upto_region 12 with fail
 clear y4 yl
 obtain ⟨_, _, _, _, _, _, _, _, hq, -, RN, -, -⟩ := open_World (uh HR)
 simp only [List.cons.injEq, Value.slice.injEq, and_true, true_and] at hq
 obtain ⟨-, ⟨rfl, rfl⟩, -, -⟩ := hq
 obtain ⟨rowt, hclt, hrt⟩ := Lay.row_at RN hkt
 obtain ⟨at', dt, rfl, RW⟩ := open_Node hrt
 have hnt := nodeFault_zero ((uh HOK).nodes kt hkt).1
 have hvb := (node_bounds ((uh HOK).nodes kt hkt).1).2
 obtain ⟨m, hm⟩ : ∃ m : Nat, x.nodes[kt].sure = (m : Int) := ⟨x.nodes[kt].sure.toNat, by have := hnt.sure; omega⟩
 have s4 : W2.cell? ⟨b0, off0 + kt * 7 + 4, none⟩ = some (.slice at' x.nodes[kt].writes.length dt) := hclt 4 (by decide)
 have s5 : W2.cell? ⟨b0, off0 + kt * 7 + 5, none⟩ = some (.int .i64 x.nodes[kt].sure) := hclt 5 (by decide)
 rw [hm] at s5
 have hmw : m ≤ x.nodes[kt].writes.length := by have := hnt.sure; omega
 have hm40 : m ≤ 40 := by have := hnt.len; omega
 have hmd : m ≤ dt := Nat.le_trans hmw RW.cap.2
 have hb0l : b0 < W2.heap.size := World.block_lt_of_cell? _ _ s5
 have nd2 : Below W2.heap.size W2 W2.drew := (Below.refl _ _).drew
 have HT := yh (sl_take_lies (RW.later nd2).liesIn m hmw).reads
 have HTL : Hid ((x.nodes[kt].writes.take m).length ≤ 10000000 ∧ ∀ y ∈ x.nodes[kt].writes.take m, y.vec.length ≤ 100000000) := ⟨by rw [List.length_take]; omega, fun y hy => by have := hvb y (List.mem_of_mem_take hy); omega⟩
 have HOD := yh ((uh HO).later nd2)
 have HSZD := yh nd2.size
 have HM2 := yh ((uh HM).ext (ext_of_below (uh HBW) nowhere) (fun _ _ _ q => q))
 have HWFK : Hid ((Lit.int .i64 x.nodes[k].id).wf = true ∧ (Lit.int .i64 x.nodes[k].epoch).wf = true) := by
  have := (uh HOK).nodes k hk
  have h1 := (nodeFault_zero this.1).id
  have h2 := (nodeFault_zero this.1).epoch
  exact ⟨wf_of_bd (by omega), wf_of_bd (by omega)⟩
 have HIDK : Hid (x.nodes[k].id = (k : Int) + 1) := ((uh HOK).nodes k hk).2.1
 replace HP := yh ((uh HP).trans (congrArg (fun z => (⟨0, true, z⟩ : DWorldResult)) (show instPW (withChain (putNode (nextW x) (tookN (nodeOf x ((k : Int) + 1)) (nodeOf x (tailId x)))) cr.chain) cr.chain.ids = instPW (withChain (setN (nextW x) k (tookN x.nodes[k] x.nodes[kt])) cr.chain) cr.chain.ids by rw [uh HTI, nodeOf_at hk, nodeOf_at hkt, putNode_eq (k := k) (show (tookN x.nodes[k] x.nodes[kt]).id = (k : Int) + 1 from uh HIDK)])))
 have HHL : Hid ((setN (nextW x) k (tookN x.nodes[k] x.nodes[kt])).nodes.length = x.nodes.length) := by show (x.nodes.set k _).length = _; rw [List.length_set]
 have HHS : Hid (∀ i (h : i < (setN (nextW x) k (tookN x.nodes[k] x.nodes[kt])).nodes.length), (setN (nextW x) k (tookN x.nodes[k] x.nodes[kt])).nodes[i].id = (i : Int) + 1) := by
  intro i h
  have h' : i < x.nodes.length := by rw [← uh HHL]; exact h
  have e : (setN (nextW x) k (tookN x.nodes[k] x.nodes[kt])).nodes[i] = if k = i then tookN x.nodes[k] x.nodes[kt] else x.nodes[i] := List.getElem_set _
  rw [e]
  by_cases q : k = i
  ·
   subst q
   rw [if_pos rfl]
   exact uh HIDK
  rw [if_neg q]
  exact ((uh HOK).nodes i h').2.1
 have HSM := yh ((uh HOK).some)
 have HTK : Hid (tookN x.nodes[k] x.nodes[kt] = ⟨x.nodes[k].id, x.nodes[k].up, x.nodes[k].epoch, 0, x.nodes[kt].writes.take m, (m : Int), (m : Int)⟩) := by
  show tookN _ _ = _
  rw [tookN, hm]
  simp
 clear RN hclt hrt RW hvb hnt hm nd2 HO HM HBW HX HR HOK
 generalize x.nodes[kt] = t at *
 generalize hnn : x.nodes[k] = n at *
 have HNK := yh hnn
 clear hnn
 refine wp_region_noPanic ?_
 refine wp_region_held_drew (S := fun w' => Ext (fun q => q = b) W2 w') (by kernel_rfl) ((Ext.refl _ _).drew 1) (fun zq => ?_)
 generalize W2.drew = wD at zq HT HOD HSZD ⊢
 refine tkH 0 zq ?_
 refine tkH 1 zq ?_
 refine tkH 2 zq ?_
 refine tkH 3 zq ?_
 refine tkJ 4 (v := ?ve4) ?he4 zq ?re4
 case he4 =>
  intro wS hSw
  have q4 := (cell_of_heap (hSw.block b0 hb0l hb0b) (off0 + kt * 7 + 4)).trans s4
  clear hSw
  (try dsimp only at hSw)
  go_simp
  try with_reducible rfl
 refine tkH 5 zq ?_
 refine tkH 6 zq ?_
 refine tkH 7 zq ?_
 refine tkJ 8 (v := ?ve8) ?he8 zq ?re8
 case he8 =>
  intro wS hSw
  have q5 := (cell_of_heap (hSw.block b0 hb0l hb0b) (off0 + kt * 7 + 5)).trans s5
  clear hSw
  (try dsimp only at hSw)
  go_simp
  try with_reducible rfl
 refine tkH 9 zq ?_
 refine rdH 10 (fun K hK => ?_)
 go_simp
 go_at_call 93
 refine (wcopyC _ (t.writes.take m) wD (uh HT) (uh HTL).1 (uh HTL).2).mono ?_
 rintro e u ⟨vv, rfl, ⟨rows, bls, hgr, hsb⟩, hbu⟩
 have hlt : (t.writes.take m).length = m := by rw [List.length_take]; omega
 obtain ⟨aw, dw, rfl⟩ : ∃ aw dw, vv = .slice aw m dw := by
  obtain ⟨bl0, hl0, -⟩ := hgr.toLies (by rw [hlt]; omega) hsb
  obtain ⟨aw, dw, ev, -⟩ := hl0
  simp only [List.cons.injEq, and_true] at ev
  exact ⟨aw, dw, by rw [ev, hlt]⟩
 have HLT2 := yh hlt
 clear hlt
 try go_wp2_with fail
 refine hK.out _ _ (zq.trans (ext_of_below hbu _)) (fun zq => ?_)
 clear hK K
 try simp only [Act.put, pz, py, px]
 refine tkH 11 zq ?_
 refine tkH 12 zq ?_
 refine rdH 13 (fun K hK => ?_)
 obtain ⟨b', off', d4', row0, e4, -, -, hbu3, -, hRr, ⟨blk0, hlr, -⟩, -, hput⟩ := wst_put (y := nextW x) ((uh HOD).later hbu) hk
 simp only [Value.slice.injEq, Option.some.injEq, Addr.mk.injEq, and_true] at e4
 obtain ⟨⟨rfl, rfl⟩, -, rfl⟩ := e4
 have hen : (nextW x).nodes[k] = x.nodes[k] := rfl
 rw [hen, uh HNK] at hlr
 obtain ⟨an, dn, bn, rfl, -, -, -, -, -, -, -⟩ := lies_Node.1 hlr
 have HRr := yh hRr
 have HPUT := yh hput
 have x4 : u.cell? ⟨b, off + k * 7 + 4, none⟩ = some (.slice an n.writes.length dn) := hRr.cells 4 (by decide)
 have f4 := hRr.soft (off + k * 7 + 4)
 have bl := hRr.lt
 have HGR := yh hgr
 have HSB := yh hsb
 have HBU := yh hbu
 clear hRr hput hlr hgr hsb hbu
 go_simp
 refine hK.out _ _ (Ext.setCell zq ⟨b, off + k * 7 + 4, none⟩ (.slice aw m dw) rfl) (fun zq => ?_)
 clear hK K
 try simp only [Act.put, pz, py, px]
 refine wpAnyH_done (by kernel_rfl) ?_ _
 refine NoPanic.normal ?_
 have hb0l' := hb0l
 have s5' := (cell_of_heap (zq.block b0 hb0l hb0b) (off0 + kt * 7 + 5)).trans s5
 clear s5 s4
 have s5 := s5'
 clear s5' hb0l'
 have hzw := zq.size
 replace HG := yh ((uh HG).ext zq hgb)
 replace HY := yh ((uh HY).ext zq hyb)
 replace HN2 := yh ((uh HN2).ext zq hnb)
 replace HB := yh ((uh HB).trans (zq.below (B := w.heap.size) (uh HB).size (fun c hc e => by omega)))
 replace HM2 := yh ((uh HM2).ext zq (fun c h1 h2 h3 => by omega))
 have HRW : Hid (RowAt u (u.setCell ⟨b, off + k * 7 + 4, none⟩ (.slice aw m dw)) b (off + k * 7) 7 [.int .i64 n.id, .bool n.up, .int .i64 n.epoch, .int .i64 n.lease, .slice aw m dw, .int .i64 n.sure, .int .i64 n.clean] []) := by
  have hR9 := (uh HRr).set 4 (.slice aw m dw) (by decide)
  simp only [List.set_cons_succ, List.set_cons_zero] at hR9
  exact hR9
 have hzu := (uh HBU).size
 have hzD := uh HSZD
 clear zq HRr x4 f4 bl HT HTL HOD
 go_upto_region 13 with fail
 generalize u.setCell ⟨b, off + k * 7 + 4, none⟩ (.slice aw m dw) = Wa at *
 have x5 : Wa.cell? ⟨b, off + k * 7 + 5, none⟩ = some (.int .i64 n.sure) := (uh HRW).cells 5 (by decide)
 have f5 := (uh HRW).soft (off + k * 7 + 5)
 have bl := (uh HRW).lt
 have sl5 := World.block_lt_of_cell? _ _ s5
 have e1 : Ext (fun q => q = b) Wa (Wa.setCell ⟨b, off + k * 7 + 5, none⟩ (.int .i64 (m : Int))) := (Ext.refl _ _).setCell _ _ rfl
 have hR9 := (uh HRW).set 5 (.int .i64 (m : Int)) (by decide)
 simp only [List.set_cons_succ, List.set_cons_zero] at hR9
 clear HRW
 have HRW := yh hR9
 have HS5 := yh ((cell_of_heap (e1.block b0 (World.block_lt_of_cell? _ _ s5) hb0b) (off0 + kt * 7 + 5)).trans s5)
 replace HG := yh ((uh HG).ext e1 hgb)
 replace HY := yh ((uh HY).ext e1 hyb)
 replace HN2 := yh ((uh HN2).ext e1 hnb)
 replace HM2 := yh ((uh HM2).ext e1 (fun c h1 h2 h3 => by omega))
 replace HB := yh ((uh HB).trans (e1.below (B := w.heap.size) (uh HB).size (fun c hc e => by omega)))
 clear hR9 e1
 go_upto_region 14 with fail
 generalize Wa.setCell ⟨b, off + k * 7 + 5, none⟩ (.int .i64 (m : Int)) = Wb at *
 clear x5 f5 bl sl5 s5
 have s5 := uh HS5
 clear HS5
 have x6 : Wb.cell? ⟨b, off + k * 7 + 6, none⟩ = some (.int .i64 n.clean) := (uh HRW).cells 6 (by decide)
 have f6 := (uh HRW).soft (off + k * 7 + 6)
 have bl := (uh HRW).lt
 have sl5 := World.block_lt_of_cell? _ _ s5
 have e1 : Ext (fun q => q = b) Wb (Wb.setCell ⟨b, off + k * 7 + 6, none⟩ (.int .i64 (m : Int))) := (Ext.refl _ _).setCell _ _ rfl
 have hR9 := (uh HRW).set 6 (.int .i64 (m : Int)) (by decide)
 simp only [List.set_cons_succ, List.set_cons_zero] at hR9
 clear HRW
 have HRW := yh hR9
 have HS5 := yh ((cell_of_heap (e1.block b0 (World.block_lt_of_cell? _ _ s5) hb0b) (off0 + kt * 7 + 5)).trans s5)
 replace HG := yh ((uh HG).ext e1 hgb)
 replace HY := yh ((uh HY).ext e1 hyb)
 replace HN2 := yh ((uh HN2).ext e1 hnb)
 replace HM2 := yh ((uh HM2).ext e1 (fun c h1 h2 h3 => by omega))
 replace HB := yh ((uh HB).trans (e1.below (B := w.heap.size) (uh HB).size (fun c hc e => by omega)))
 clear hR9 e1
 go_upto_region 15 with fail
 generalize Wb.setCell ⟨b, off + k * 7 + 6, none⟩ (.int .i64 (m : Int)) = Wc at *
 clear x6 f6 bl sl5 s5
 have s5 := uh HS5
 clear HS5
 have x3 : Wc.cell? ⟨b, off + k * 7 + 3, none⟩ = some (.int .i64 n.lease) := (uh HRW).cells 3 (by decide)
 have f3 := (uh HRW).soft (off + k * 7 + 3)
 have bl := (uh HRW).lt
 have sl5 := World.block_lt_of_cell? _ _ s5
 have e1 : Ext (fun q => q = b) Wc (Wc.setCell ⟨b, off + k * 7 + 3, none⟩ (.int .i64 0)) := (Ext.refl _ _).setCell _ _ rfl
 have hR9 := (uh HRW).set 3 (.int .i64 0) (by decide)
 simp only [List.set_cons_succ, List.set_cons_zero] at hR9
 clear HRW
 have HRW := yh hR9
 have HS5 := yh ((cell_of_heap (e1.block b0 (World.block_lt_of_cell? _ _ s5) hb0b) (off0 + kt * 7 + 5)).trans s5)
 replace HG := yh ((uh HG).ext e1 hgb)
 replace HY := yh ((uh HY).ext e1 hyb)
 replace HN2 := yh ((uh HN2).ext e1 hnb)
 replace HM2 := yh ((uh HM2).ext e1 (fun c h1 h2 h3 => by omega))
 replace HB := yh ((uh HB).trans (e1.below (B := w.heap.size) (uh HB).size (fun c hc e => by omega)))
 clear hR9 e1
 go_upto_region 16 with fail
 generalize Wc.setCell ⟨b, off + k * 7 + 3, none⟩ (.int .i64 0) = Wd at *
 clear x3 f3 bl sl5 s5
 have s5 := uh HS5
 clear HS5
 have hEx : Ext (fun q => q = b) u Wd := (uh HRW).ext.mono (fun k _ q => by rcases q with q | q; exact q; cases q)
 obtain ⟨blw, hlw, hlb⟩ := (uh HGR).toLies (by rw [uh HLT2]; omega) (uh HSB)
 have hlwd := (Lay.sl Lay.tWrite).keep hlw (fun c hc => hEx.block c ((Lay.sl Lay.tWrite).lt hlw c hc) (fun e => by have := hlb c hc; omega))
 have hw6 : (Lit.int .i64 (m : Int)).wf = true := wf_of_bd (by omega)
 have hO3 : WSt Wd w6.heap.size W1.heap.size (fun c => c < 0 ∨ c < wa.heap.size ∨ c = W1.heap.size) [.int .i64 x.now, .int .i64 (x.events + 1), .int .i64 x.chain.epoch, .slice a3w x.chain.ids.length d3w, .slice (some ⟨b, off, none⟩) x.nodes.length d4w, .slice a5w x.msgs.length d5w, .slice a6w x.history.length d6w] (setN (nextW x) k (tookN n t)) := by
  rw [uh HTK]
  exact uh HPUT Wd _ _ blw (lies_Node.2 ⟨aw, dw, blw, by rw [uh HLT2], rfl, (uh HWFK).1, (uh HWFK).2, (show (Lit.int .i64 0).wf = true by decide), by rw [uh HLT2]; exact hlwd, hw6, hw6⟩) (fun c hc => by have := hlb c hc; omega) (uh HRW)
 clear hEx hlw hlwd hlb HGR HSB HPUT HRW s5
 have n1 := Box.at (uh HN2) 1 _ rfl
 have n2 := Box.at (uh HN2) 2 _ rfl
 simp only [ga, gb, gc] at n1 n2
 have nl := (uh HN2).lt
 obtain ⟨bl, hl1, hl2⟩ := uh HM2
 have hO2 := WSt.chain (x := (setN (nextW x) k (tookN n t))) (c := cr.chain) hO3 (lies_Chain.2 ⟨a5c, d5c, _, rfl, rfl, uh HWE, hl1⟩) (fun c hc => ⟨by have := hl2 c hc; omega, fun e => by have := hl2 c hc; omega⟩)
 have HLI := yh (l13InstallC W1.heap.size w6.heap.size W1.heap.size (fun c => c < 0 ∨ c < wa.heap.size ∨ c = W1.heap.size) a5c d5c x.chain.epoch (.slice a3w x.chain.ids.length d3w) (.slice (some ⟨b, off, none⟩) x.nodes.length d4w) (.slice a5w x.msgs.length d5w) (.slice a6w x.history.length d6w) (withChain (setN (nextW x) k (tookN n t)) cr.chain) Wd (uh HG) (by omega) (Or.inr (Or.inr rfl)) hO2 (by show 1 ≤ (setN (nextW x) k (tookN n t)).nodes.length; rw [uh HHL]; exact (uh HSM).1) (by show (setN (nextW x) k (tookN n t)).nodes.length ≤ 5; rw [uh HHL]; exact (uh HSM).2) (uh HHS))
 clear hl1 hl2 hO2 hO3 HM2 HN2 HG HHS
 go_wp2_with fail
 refine (uh HLI).mono ?_
 rintro e W9 ⟨rfl, hg9, hO9, hX9⟩
 have HG2 : Hid (Box 0 #[.int .i64 x.now, .int .i64 (x.events + 1), .int .i64 cr.chain.epoch, .slice a5c cr.chain.ids.length d5c, .slice (some ⟨b, off, none⟩) x.nodes.length d4w, .slice a5w x.msgs.length d5w, .slice a6w x.history.length d6w] 36 W9 W1.heap.size) := hg9
 have HO2 : Hid (WSt W9 w6.heap.size W1.heap.size (fun c => c < 0 ∨ c < wa.heap.size ∨ c = W1.heap.size) [.int .i64 x.now, .int .i64 (x.events + 1), .int .i64 cr.chain.epoch, .slice a5c cr.chain.ids.length d5c, .slice (some ⟨b, off, none⟩) x.nodes.length d4w, .slice a5w x.msgs.length d5w, .slice a6w x.history.length d6w] (instPW (withChain (setN (nextW x) k (tookN n t)) cr.chain) cr.chain.ids)) := hO9
 have HY2 := yh ((uh HY).ext hX9 (by omega))
 have HB2 := yh ((uh HB).trans (hX9.below (B := w.heap.size) (uh HB).size (fun c hc e => by omega)))
 clear hg9 hO9 hX9 HLI n1 n2 nl HY HB
 go_upto_region 17 with fail
 have y0 := Box.at (uh HG2) 0 _ rfl
 have y1 := Box.at (uh HG2) 1 _ rfl
 have y2 := Box.at (uh HG2) 2 _ rfl
 have y3 := Box.at (uh HG2) 3 _ rfl
 have y4 := Box.at (uh HG2) 4 _ rfl
 have y5 := Box.at (uh HG2) 5 _ rfl
 have y6 := Box.at (uh HG2) 6 _ rfl
 simp only [ga, gb, gc] at y0 y1 y2 y3 y4 y5 y6
 have yl := (uh HG2).lt
 have r0 := Box.at (uh HY2) 0 _ rfl
 have r1 := Box.at (uh HY2) 1 _ rfl
 have r2 := Box.at (uh HY2) 2 _ rfl
 have r3 := Box.at (uh HY2) 3 _ rfl
 have r4 := Box.at (uh HY2) 4 _ rfl
 have r5 := Box.at (uh HY2) 5 _ rfl
 have r6 := Box.at (uh HY2) 6 _ rfl
 have r7 := Box.at (uh HY2) 7 _ rfl
 have r8 := Box.at (uh HY2) 8 _ rfl
 simp only [ga, gb, gc] at r0 r1 r2 r3 r4 r5 r6 r7 r8
 have rl := (uh HY2).lt
 have rf := Box.soft (uh HY2)
 have e9 : Ext (fun q => q = w.heap.size + 1) W9 (setAll W9 (w.heap.size + 1) 0 [.int .i64 0, .bool true, .int .i64 x.now, .int .i64 (x.events + 1), .int .i64 cr.chain.epoch, .slice a5c cr.chain.ids.length d5c, .slice (some ⟨b, off, none⟩) x.nodes.length d4w, .slice a5w x.msgs.length d5w, .slice a6w x.history.length d6w]) := ext_setAll _ (Ext.refl _ _) _ _ _ rfl
 have HO9 := yh (okR_lies (m := true) (((uh HO2).ext e9 (fun c h1 h2 h3 => h2 (Or.inr (Or.inl (by omega))))).liesIn (B := 0) (fun c hc => by omega)))
 have HB9 := yh (below_setAll (uh HB2) (w.heap.size + 1) 0 [.int .i64 0, .bool true, .int .i64 x.now, .int .i64 (x.events + 1), .int .i64 cr.chain.epoch, .slice a5c cr.chain.ids.length d5c, .slice (some ⟨b, off, none⟩) x.nodes.length d4w, .slice a5w x.msgs.length d5w, .slice a6w x.history.length d6w] (by omega))
 clear e9 HO2 HG2 HY2 HB2
 go_wp2_with fail
 refine bodyPost_ret (v := .agg #[.int .i64 0, .bool true, .int .i64 x.now, .int .i64 (x.events + 1), .int .i64 cr.chain.epoch, .slice a5c cr.chain.ids.length d5c, .slice (some ⟨b, off, none⟩) x.nodes.length d4w, .slice a5w x.msgs.length d5w, .slice a6w x.history.length d6w]) (by simp [results, Tryz.results32, go_sem, r0, r1, r2, r3, r4, r5, r6, r7, r8]) rfl ?_
 rw [uh HP]
 exact ⟨_, rfl, (uh HO9).reads, uh HB9⟩
theorem wown_chain {W0 W : World} {lo g : Nat} {v3 v4 v5 v6 : Value} {y : DWorld} (h : WOwn W0 lo g [.int .i64 y.now, .int .i64 y.events, .int .i64 y.chain.epoch, v3, v4, v5, v6] y) (hb : Below W0.heap.size W0 W) (hg : g < W0.heap.size) (hlo : lo ≤ W0.heap.size) {a : Option Addr} {d lo3 : Nat} {c : DChain} (hm : (Lay.sl Lay.int).OwnIn W [.slice a c.ids.length d] c.ids lo3 W.heap.size) (hl3 : W0.heap.size ≤ lo3) (hwe : (Lit.int .i64 c.epoch).wf = true) :
  WOwn W lo g [.int .i64 y.now, .int .i64 y.events, .int .i64 c.epoch, .slice a c.ids.length d, v4, v5, v6] (withChain y c) := by
 obtain ⟨bl, O, hgb, hbl⟩ := h
 obtain ⟨a3, d3, a4, d4, a5, d5, a6, d6, g2, g4, g5, g6, hq, rfl, O2, O4, O5, O6, w0, w1⟩ := own_World O
 simp only [List.cons.injEq, and_true, true_and] at hq
 obtain ⟨rfl, rfl, rfl, rfl⟩ := hq
 have hnd := O.2.1
 obtain ⟨bm, Om, hbm⟩ := hm
 have hin : ∀ z, z ∈ g2 ++ (g4 ++ (g5 ++ g6)) → lo ≤ z ∧ z < W0.heap.size := hbl
 have hn : (bm ++ (g4 ++ (g5 ++ g6))).Nodup := by
  rw [List.nodup_append] at hnd ⊢
  refine ⟨Om.2.1, hnd.2.1, fun p hp z hz e => ?_⟩
  have h1 := hbm p hp
  have h2 := hin z (List.mem_append_right _ hz)
  omega
 have hz := hb.size
 refine ⟨bm ++ (g4 ++ (g5 ++ g6)), mkOwn_World (x := withChain y c) (mkOwn_Chain (x := c) Om hwe Om.2.1) (O4.later hb) (O5.later hb) (O6.later hb) w0 w1 hn, fun q => ?_, fun z hz => ?_⟩
 ·
  rcases List.mem_append.1 q with q | q
  ·
   have := hbm g q; omega
  exact hgb (List.mem_append_right _ q)
 rcases List.mem_append.1 hz with q | q
 ·
  have := hbm z q; omega
 have := hin z (List.mem_append_right _ q); omega
def wfN (n : DNode) : Prop := (Lit.int .i64 n.id).wf = true ∧ (Lit.int .i64 n.epoch).wf = true ∧ (Lit.int .i64 n.lease).wf = true ∧ (Lit.int .i64 n.sure).wf = true ∧ (Lit.int .i64 n.clean).wf = true
theorem wown_upd {W : World} {lo g k : Nat} {v3 v4 v5 v6 : Value} {y : DWorld} (h : WOwn W lo g [.int .i64 y.now, .int .i64 y.events, .int .i64 y.chain.epoch, v3, v4, v5, v6] y) (hk : k < y.nodes.length) :
  ∃ b off cap an dn, v4 = .slice (some ⟨b, off, none⟩) y.nodes.length cap ∧ lo ≤ b ∧ b < W.heap.size ∧ b ≠ g ∧ RowAt W W b (off + k * 7) 7 [.int .i64 y.nodes[k].id, .bool y.nodes[k].up, .int .i64 y.nodes[k].epoch, .int .i64 y.nodes[k].lease, .slice an y.nodes[k].writes.length dn, .int .i64 y.nodes[k].sure, .int .i64 y.nodes[k].clean] [] ∧ wfN y.nodes[k] ∧ (∀ V, Ext (fun q => q = b) W V → Lay.tChain.Reads V [.int .i64 y.chain.epoch, v3] y.chain) ∧
   ∀ (W2 : World) (n : DNode), n.writes = y.nodes[k].writes → wfN n → RowAt W W2 b (off + k * 7) 7 [.int .i64 n.id, .bool n.up, .int .i64 n.epoch, .int .i64 n.lease, .slice an y.nodes[k].writes.length dn, .int .i64 n.sure, .int .i64 n.clean] [] → WOwn W2 lo g [.int .i64 y.now, .int .i64 y.events, .int .i64 y.chain.epoch, v3, v4, v5, v6] (setN y k n) := by
 obtain ⟨bl, O, hgb, hbl⟩ := h
 obtain ⟨a3, d3, a4, d4, a5, d5, a6, d6, g2, g4, g5, g6, hq, rfl, O2, O4, O5, O6, w0, w1⟩ := own_World O
 simp only [List.cons.injEq, and_true, true_and] at hq
 obtain ⟨rfl, rfl, rfl, rfl⟩ := hq
 have hnd := O.2.1
 obtain ⟨b, off, cap, r, e4, rfl, hA⟩ := Lay.apart_of_own O4 (by omega)
 simp only [Value.slice.injEq, true_and] at e4
 obtain ⟨rfl, rfl⟩ := e4
 obtain ⟨row, blk, hR, hOn, hbk, hsub, hput⟩ := Lay.own_upd O4 hk
 obtain ⟨an, dn, gn, rfl, rfl, hOw, n0, n2, n3, n5, n6⟩ := own_Node hOn
 have hbin := hbl b (by simp)
 have hbg : b ≠ g := fun e => hgb (by rw [← e]; simp)
 rw [List.nodup_append, List.nodup_append] at hnd
 obtain ⟨-, ⟨-, -, x4⟩, x2⟩ := hnd
 refine ⟨b, off, d4, an, dn, rfl, hbin.1, hbin.2, hbg, ⟨hR.len, hR.cells, hR.others, hR.soft, hR.lt, Ext.refl _ _⟩, ⟨n0, n2, n3, n5, n6⟩, fun V e => (O2.ext e (fun c hc e2 => x2 c hc b (by simp) e2)).reads, fun W2 n hw hwf hR2 => ?_⟩
 have hE : Ext (fun q => q = b) W W2 := hR2.ext.mono (fun k _ q => by rcases q with q | q; exact q; cases q)
 obtain ⟨m0, m2, m3, m5, m6⟩ := hwf
 have hOw2 := hOw.ext hE (fun c hc e => hbk (e ▸ hc))
 rw [← hw] at hOw2
 have hN := mkOwn_Node (x := n) hOw2 m0 m2 m3 m5 m6 hOw.2.1
 have O4' := hput W2 _ n ⟨hR2.len, hR2.cells, hR2.others, hR2.soft, hR2.lt, hE.mono (fun q _ e => Or.inl e)⟩ (by rw [← hw]; exact hN)
 have P2 := O2.ext hE (fun c hc e => x2 c hc b (by simp) e)
 have P5 := O5.ext hE (fun c hc e => x4 b (by simp) c (by simp [hc]) e.symm)
 have P6 := O6.ext hE (fun c hc e => x4 b (by simp) c (by simp [hc]) e.symm)
 exact ⟨_, mkOwn_World (x := setN y k n) P2 O4' P5 P6 w0 w1 O.2.1, hgb, fun c hc => ⟨(hbl c hc).1, Nat.lt_of_lt_of_le (hbl c hc).2 hE.size⟩⟩
end Go.Proofs.YtoanimpijfijgaaGreat

namespace Go.Proofs.YtoanimpijfijgaaGreat
open Go Go.RowKit Ieee
theorem fl_log2 {x : Nat} (hx : x ≠ 0) (S : Nat) : (x <<< S).log2 = x.log2 + S := by
 have h0 : x <<< S ≠ 0 := by
  rw [Nat.shiftLeft_eq]
  exact Nat.mul_ne_zero hx (Nat.pos_iff_ne_zero.1 (Nat.two_pow_pos S))
 have h := (Nat.log2_eq_iff hx).1 rfl
 refine (Nat.log2_eq_iff h0).2 ?_
 rw [Nat.shiftLeft_eq]
 constructor
 ·
  rw [Nat.pow_add]; exact Nat.mul_le_mul_right _ h.1
 rw [show x.log2 + S + 1 = (x.log2 + 1) + S by omega, Nat.pow_add]
 exact Nat.mul_lt_mul_of_pos_right h.2 (Nat.two_pow_pos S)
def rung (x : Nat) : Nat := if x = 0 then 0 else (1022 + x.log2) * 2 ^ 52 + x <<< (52 - x.log2)
theorem fl_bounds {x : Nat} (hx : x ≠ 0) (hl : x.log2 ≤ 52) : 2 ^ 52 ≤ x <<< (52 - x.log2) ∧ x <<< (52 - x.log2) < 2 ^ 53 := by
 have h := (Nat.log2_eq_iff hx).1 rfl
 rw [Nat.shiftLeft_eq]
 constructor
 ·
  calc 2 ^ 52 = 2 ^ x.log2 * 2 ^ (52 - x.log2) := by rw [← Nat.pow_add]; congr 1; omega
   _ ≤ _ := Nat.mul_le_mul_right _ h.1
 calc x * 2 ^ (52 - x.log2) < 2 ^ (x.log2 + 1) * 2 ^ (52 - x.log2) := Nat.mul_lt_mul_of_pos_right h.2 (Nat.two_pow_pos _)
  _ = 2 ^ 53 := by rw [← Nat.pow_add]; congr 1; omega
theorem fl_cut (n d : Nat) (hd : d ≤ n.log2 + 2) (q : Nat) (h : n = q <<< d) : Toward.even.cut false n d = q := by
 unfold Toward.cut
 have hm : min d (n.log2 + 2) = d := Nat.min_eq_left hd
 simp only [hm]
 have hg : (1 <<< d) = 2 ^ d := by rw [Nat.shiftLeft_eq, Nat.one_mul]
 have hp := Nat.two_pow_pos d
 rw [hg, h, Nat.shiftLeft_eq, Nat.mul_div_cancel _ hp, Nat.mul_mod_left]
 have h1 : decide (2 ^ d < 2 * 0) = false := by simp
 have h2 : (2 ^ d == 2 * 0) = false := by
  simp
 rw [h1, h2]
 simp
theorem fl_nearest {x : Nat} (hl : x.log2 ≤ 52) (S : Nat) (hS : 52 - x.log2 ≤ S) (_h1 : S ≤ 1074) : double.nearest false (x <<< S) (-(S : Int)) = rung x := by
 by_cases hx : x = 0
 ·
  subst hx
  simp [Format.nearest, rung, Format.word]
 have h0 : x <<< S ≠ 0 := by
  rw [Nat.shiftLeft_eq]
  exact Nat.mul_ne_zero hx (Nat.pos_iff_ne_zero.1 (Nat.two_pow_pos S))
 have hb := fl_bounds hx hl
 unfold Format.nearest rung
 rw [if_neg h0, if_neg hx]
 have hleast : double.leastPlace = -1074 := by decide
 have hfr : double.fractionBits = 52 := rfl
 have hbin : double.binade = 2 ^ 52 := rfl
 have hlast : max (-(S : Int) + ((x <<< S).log2 : Nat) - (double.fractionBits : Nat)) double.leastPlace = (x.log2 : Int) - 52 := by
  rw [fl_log2 hx, hfr, hleast]
  omega
 simp only [hlast]
 simp only [hleast, hbin]
 have e1 : (-(S : Int) - ((x.log2 : Int) - 52)).toNat = 0 := by omega
 have e2 : ((x.log2 : Int) - 52 - -(S : Int)).toNat = S - (52 - x.log2) := by omega
 have e3 : ((x.log2 : Int) - 52 - -1074).toNat = 1022 + x.log2 := by omega
 rw [e1, e2, e3, Nat.shiftLeft_zero]
 rw [fl_cut (x <<< S) (S - (52 - x.log2)) (by rw [fl_log2 hx]; omega) (x <<< (52 - x.log2)) (by
  rw [← Nat.shiftLeft_add]; congr 1; omega)]
 have hinf : double.infRung = 2047 * 2 ^ 52 := by decide
 rw [hinf, Nat.min_eq_left (by omega)]
 rfl
theorem fl_of {x : Nat} (hl : x.log2 ≤ 52) : floatOfInt .f64 (x : Int) = rung x := by
 have h := fl_nearest hl (52 - x.log2) (Nat.le_refl _) (by omega)
 show double.nearest (decide ((x : Int) < 0)) x 0 = rung x
 have hn : decide ((x : Int) < 0) = false := by simp
 rw [hn, ← h]
 by_cases hx : x = 0
 ·
  subst hx; simp [Format.nearest, Format.word]
 have h0 : x <<< (52 - x.log2) ≠ 0 := by
  have := (fl_bounds hx hl).1
  omega
 unfold Format.nearest
 rw [if_neg h0, if_neg hx]
 have hleast : double.leastPlace = -1074 := by decide
 have hfr : double.fractionBits = 52 := rfl
 have hlast : max (-((52 - x.log2 : Nat) : Int) + ((x <<< (52 - x.log2)).log2 : Nat) - (double.fractionBits : Nat)) double.leastPlace = (x.log2 : Int) - 52 := by
  rw [fl_log2 hx, hfr, hleast]
  omega
 have hlast0 : max ((0 : Int) + (x.log2 : Nat) - (double.fractionBits : Nat)) double.leastPlace = (x.log2 : Int) - 52 := by
  rw [hfr, hleast]
  omega
 simp only [hlast, hlast0]
 have e1 : (-((52 - x.log2 : Nat) : Int) - ((x.log2 : Int) - 52)).toNat = 0 := by omega
 have e2 : ((x.log2 : Int) - 52 - -((52 - x.log2 : Nat) : Int)).toNat = 0 := by omega
 have e3 : ((0 : Int) - ((x.log2 : Int) - 52)).toNat = 52 - x.log2 := by omega
 have e4 : ((x.log2 : Int) - 52 - 0).toNat = 0 := by omega
 rw [e1, e2, e3, e4, Nat.shiftLeft_zero]
theorem fl_read {x : Nat} (hx : x ≠ 0) (hl : x.log2 ≤ 52) : double.read (rung x) = .number false (x <<< (52 - x.log2)) (-((52 - x.log2 : Nat) : Int)) := by
 have hb := fl_bounds hx hl
 have hr : rung x = (1022 + x.log2) * 2 ^ 52 + x <<< (52 - x.log2) := by unfold rung; rw [if_neg hx]
 have hs : double.signWeight = 2 ^ 63 := rfl
 have hbin : double.binade = 2 ^ 52 := rfl
 have hinf : double.infRung = 2047 * 2 ^ 52 := by decide
 have hleast : double.leastPlace = -1074 := by decide
 have hm : rung x % 2 ^ 63 = rung x := Nat.mod_eq_of_lt (by omega)
 have hd : rung x / 2 ^ 63 = 0 := Nat.div_eq_of_lt (by omega)
 unfold Format.read
 simp only [hs, hbin, hinf, hleast, hm, hd]
 rw [if_neg (by omega), if_pos (by omega)]
 congr 1
 ·
  omega
 omega
theorem fl_int {x : Nat} (hl : x.log2 ≤ 52) (k : IntKind) (hk : k.min ≤ (x : Int) ∧ (x : Int) ≤ k.max) : floatToIntVal .f64 (rung x) k = some (x : Int) := by
 have ht : (FloatKind.f64.decode (rung x)).toInt .zero = some (x : Int) := by
  show (double.read (rung x)).toInt .zero = some (x : Int)
  by_cases hx : x = 0
  ·
   subst hx; decide
  rw [fl_read hx hl]
  unfold Datum.toInt Datum.integral
  have e1 : (-((52 - x.log2 : Nat) : Int)).toNat = 0 := by omega
  have e2 : (- -((52 - x.log2 : Nat) : Int)).toNat = 52 - x.log2 := by omega
  simp only [e1, e2, Nat.shiftLeft_zero]
  have hc : Toward.zero.cut false (x <<< (52 - x.log2)) (52 - x.log2) = x := by
   unfold Toward.cut
   have hm : min (52 - x.log2) ((x <<< (52 - x.log2)).log2 + 2) = 52 - x.log2 := Nat.min_eq_left (by rw [fl_log2 hx]; omega)
   simp only [hm]
   have hg : (1 <<< (52 - x.log2)) = 2 ^ (52 - x.log2) := by rw [Nat.shiftLeft_eq, Nat.one_mul]
   rw [hg, Nat.shiftLeft_eq, Nat.mul_div_cancel _ (Nat.two_pow_pos _)]
   rfl
  rw [hc]
  rfl
 unfold floatToIntVal
 rw [ht]
 simp only [hk.1, hk.2, and_self, if_true]
theorem fl_small {x : Nat} (h : x ≤ 1000000) : x.log2 ≤ 52 := by
 by_cases hx : x = 0
 ·
  subst hx; decide
 have := (Nat.log2_lt hx (k := 53)).2 (by omega)
 omega
end Go.Proofs.YtoanimpijfijgaaGreat

namespace Go.Proofs.YtoanimpijfijgaaGreat
open Go.RowKit
def fl (e : Int) : Nat := rung e.toNat
abbrev mom (e a : Int) : Value := .complex .f64 (fl e) (fl a)
theorem fl_ofInt {e : Int} (h : 0 ≤ e ∧ e ≤ 1000000) : floatOfInt .f64 e = fl e := by
 unfold fl
 have h1 : ((e.toNat : Nat) : Int) = e := by omega
 have := fl_of (fl_small (x := e.toNat) (by omega))
 rw [h1] at this
 exact this
theorem fl_toInt {e : Int} (h : 0 ≤ e ∧ e ≤ 1000000) (k : IntKind) (hk : k = .i64 ∨ k = .u64) : floatToIntVal .f64 (fl e) k = some e := by
 unfold fl
 have h1 : ((e.toNat : Nat) : Int) = e := by omega
 have := fl_int (fl_small (x := e.toNat) (by omega)) k (by
  rw [h1]
  rcases hk with rfl | rfl
  ·
   have a : IntKind.i64.min = -9223372036854775808 := by decide
   have b : IntKind.i64.max = 9223372036854775807 := by decide
   omega
  have a : IntKind.u64.min = 0 := by decide
  have b : IntKind.u64.max = 18446744073709551615 := by decide
  omega)
 rw [h1] at this
 exact this
theorem momentOfC (e a : Int) (he : 0 ≤ e ∧ e ≤ 1000000) (ha : 0 ≤ a ∧ a ≤ 1000000) (w : World) :
  Calls Tryz.prog 164 #[.int .i64 e, .int .u64 a] w fun r w' => r = .returned (mom e a) ∧ w' = w := by
 have f1 := fl_ofInt he
 have f2 := fl_ofInt ha
 go_enter Tryz.func164, Tryz.ntmps164
 go_wp2_with fail
 all_goals (go_ret; exact ⟨rfl, rfl⟩)
theorem epochC (e a : Int) (he : 0 ≤ e ∧ e ≤ 1000000) (w : World) :
  Calls Tryz.prog 235 #[mom e a] w fun r w' => r = .returned (.int .i64 e) ∧ w' = w := by
 have hc : ∀ w, (convert 249 2 (.float .f64 (fl e))).run Tryz.prog w = .ok (.int .i64 e) w := fun w => run_convert_float_int w 249 2 .f64 .i64 _ _ (by rw [Tryz.underlying249]; rfl) Tryz.underlying2 (fl_toInt he .i64 (Or.inl rfl))
 show Calls Tryz.prog 235 #[.complex .f64 (fl e) (fl a)] w _
 generalize fl e = re at *
 generalize fl a = ra at *
 go_enter Tryz.func235, Tryz.ntmps235
 go_wp2_with (simp only [hc])
 all_goals (go_ret; exact ⟨rfl, rfl⟩)
theorem timeC (e a : Int) (ha : 0 ≤ a ∧ a ≤ 1000000) (w : World) :
  Calls Tryz.prog 165 #[mom e a] w fun r w' => r = .returned (.int .u64 a) ∧ w' = w := by
 have hc : ∀ w, (convert 249 181 (.float .f64 (fl a))).run Tryz.prog w = .ok (.int .u64 a) w := fun w => run_convert_float_int w 249 181 .f64 .u64 _ _ (by rw [Tryz.underlying249]; rfl) Tryz.underlying181 (fl_toInt ha .u64 (Or.inr rfl))
 show Calls Tryz.prog 165 #[.complex .f64 (fl e) (fl a)] w _
 generalize fl e = re at *
 generalize fl a = ra at *
 go_enter Tryz.func165, Tryz.ntmps165
 go_wp2_with (simp only [hc])
 all_goals (go_ret; exact ⟨rfl, rfl⟩)
theorem wrap_u64 {a : Int} (h : 0 ≤ a ∧ a ≤ 1000000) : IntKind.u64.wrap a = a := by
 rw [IntKind.wrap_u64]
 omega
theorem termOfC (n : DNode) (an : Option Addr) (dn : Nat) (w : World) (he : 0 ≤ n.epoch ∧ n.epoch ≤ 999) (ht : 0 ≤ n.lease ∧ n.lease ≤ 9999) :
  Calls Tryz.prog 239 #[.agg #[.int .i64 n.id, .bool n.up, .int .i64 n.epoch, .int .i64 n.lease, .slice an n.writes.length dn, .int .i64 n.sure, .int .i64 n.clean]] w fun e w' => e = .returned (mom n.epoch n.lease) ∧ Below w.heap.size w w' := by
 have nb : Below w.heap.size w (w.alloc (.cells #[.int .i64 n.id, .bool n.up, .int .i64 n.epoch, .int .i64 n.lease, .slice an n.writes.length dn, .int .i64 n.sure, .int .i64 n.clean] 84)) := (Below.refl _ _).alloc (Nat.le_refl _) _
 have HX : Hid (Box 0 #[.int .i64 n.id, .bool n.up, .int .i64 n.epoch, .int .i64 n.lease, .slice an n.writes.length dn, .int .i64 n.sure, .int .i64 n.clean] 84 (w.alloc (.cells #[.int .i64 n.id, .bool n.up, .int .i64 n.epoch, .int .i64 n.lease, .slice an n.writes.length dn, .int .i64 n.sure, .int .i64 n.clean] 84)) w.heap.size) := newBox (Nat.zero_le _)
 have HB := yh nb
 have hw1 : IntKind.u64.wrap n.lease = n.lease := wrap_u64 (by omega)
 have HL := yh (momentOfC n.epoch n.lease (by omega) (by omega))
 clear nb he ht
 go_enter Tryz.func239, Tryz.ntmps239
 go_upto_region 1 with fail
 generalize w.alloc (.cells #[.int .i64 n.id, .bool n.up, .int .i64 n.epoch, .int .i64 n.lease, .slice an n.writes.length dn, .int .i64 n.sure, .int .i64 n.clean] 84) = w1 at *
 have z2 := Box.at (uh HX) 2 _ rfl
 have z3 := Box.at (uh HX) 3 _ rfl
 simp only [ga, gb, gc] at z2 z3
 have zl := (uh HX).lt
 clear HX
 go_wp2_with fail
 refine (uh HL _).mono ?_
 rintro e w2 ⟨rfl, rfl⟩
 go_wp2_with fail
 go_ret
 exact ⟨rfl, uh HB⟩
theorem grantTermC (b o : Nat) (e a : Int) (v2 v3 : Value) (w : World) (he : 0 ≤ e ∧ e ≤ 1000000) (ha : 0 ≤ a ∧ a ≤ 1000000) (h2 : w.cell? ⟨b, o + 2, none⟩ = some v2) (h3 : w.cell? ⟨b, o + 3, none⟩ = some v3) (hf : ∀ q, w.frozen? ⟨b, q, none⟩ = false) :
  Calls Tryz.prog 167 #[.pointer (some ⟨b, o, none⟩), mom e a] w fun r w' => r = .returned (.tuple #[]) ∧ w' = (w.setCell ⟨b, o + 2, none⟩ (.int .i64 e)).setCell ⟨b, o + 3, none⟩ (.int .i64 a) := by
 have HE := yh (epochC e a he)
 have HT := yh (timeC e a ha)
 have hw1 : IntKind.i64.wrap a = a := by rw [IntKind.wrap_i64]; omega
 have hbl : b < w.heap.size := World.block_lt_of_cell? _ _ h2
 have f2 := hf (o + 2)
 have f3 := hf (o + 3)
 show Calls Tryz.prog 167 #[.pointer (some ⟨b, o, none⟩), .complex .f64 (fl e) (fl a)] w _
 have HE' : Hid (∀ w, Calls Tryz.prog 235 #[.complex .f64 (fl e) (fl a)] w fun r w' => r = .returned (.int .i64 e) ∧ w' = w) := HE
 have HT' : Hid (∀ w, Calls Tryz.prog 165 #[.complex .f64 (fl e) (fl a)] w fun r w' => r = .returned (.int .u64 a) ∧ w' = w) := HT
 clear HE HT he ha hf
 generalize fl e = re at *
 generalize fl a = ra at *
 go_enter Tryz.func167, Tryz.ntmps167
 go_wp2_with fail
 refine (uh HE' _).mono ?_
 rintro q w2 ⟨rfl, rfl⟩
 go_wp2_with fail
 refine (uh HT' _).mono ?_
 rintro q w3 ⟨rfl, rfl⟩
 go_wp2_with fail
 refine bodyPost_end (v := .tuple #[]) (by simp [results, Tryz.results167, go_sem]) rfl ?_
 exact ⟨rfl, rfl⟩
theorem installC (g lo : Nat) (ac : Option Addr) (dc : Nat) (e0 : Int) (v30 v4 v5 v6 : Value) (y : DWorld) (W : World) (hg : Box 0 #[.int .i64 y.now, .int .i64 y.events, .int .i64 e0, v30, v4, v5, v6] 36 W g) (hlo : lo ≤ g) (hO : WOwn W lo g [.int .i64 y.now, .int .i64 y.events, .int .i64 y.chain.epoch, .slice ac y.chain.ids.length dc, v4, v5, v6] y)
  (hi : ∀ z ∈ y.chain.ids, nodeIn y z = true) (h1 : 1 ≤ y.nodes.length) (h5 : y.nodes.length ≤ 5) (hid : ∀ i (h : i < y.nodes.length), y.nodes[i].id = (i : Int) + 1) (hes : ∀ i (h : i < y.nodes.length), (0 ≤ y.nodes[i].epoch ∧ y.nodes[i].epoch ≤ 999) ∧ 0 ≤ y.nodes[i].lease ∧ y.nodes[i].lease ≤ 9999) (he : 0 ≤ y.chain.epoch ∧ y.chain.epoch ≤ 999) (hn : y.chain.ids.length ≤ 1000) :
  Calls Tryz.prog 173 #[.pointer (some ⟨g, 0, none⟩), .agg #[.int .i64 y.chain.epoch, .slice ac y.chain.ids.length dc]] W fun e w' => e = .returned (.tuple #[]) ∧ Box 0 #[.int .i64 y.now, .int .i64 y.events, .int .i64 y.chain.epoch, .slice ac y.chain.ids.length dc, v4, v5, v6] 36 w' g ∧ WOwn w' lo g [.int .i64 y.now, .int .i64 y.events, .int .i64 y.chain.epoch, .slice ac y.chain.ids.length dc, v4, v5, v6] (instPW y y.chain.ids) ∧ Ext (fun q => lo ≤ q) W w' := by
 obtain ⟨b, off, d4, _, _, rfl, hb1, hb2, hbg, -, -, -, -⟩ := wown_upd hO (show 0 < y.nodes.length by omega)
 have nb : Below W.heap.size W (W.alloc (.cells #[.int .i64 y.chain.epoch, .slice ac y.chain.ids.length dc] 31)) := (Below.refl _ _).alloc (Nat.le_refl _) _
 have hCB : Box 0 #[.int .i64 y.chain.epoch, .slice ac y.chain.ids.length dc] 31 (W.alloc (.cells #[.int .i64 y.chain.epoch, .slice ac y.chain.ids.length dc] 31)) W.heap.size := newBox (Nat.zero_le _)
 have hgl := hg.lt
 have HG := yh (hg.keep nb)
 have HO := yh (hO.later nb)
 have HX : Hid (Ext (fun q => lo ≤ q) W (W.alloc (.cells #[.int .i64 y.chain.epoch, .slice ac y.chain.ids.length dc] 31))) := yh (ext_of_below nb _)
 have HCB := yh hCB
 have HI := yh hi
 have HID := yh hid
 have HES := yh hes
 have HE : Hid (0 ≤ y.chain.epoch ∧ y.chain.epoch ≤ 999) := he
 have HLO : Hid (lo ≤ b) := hb1
 have hcb : W.heap.size ≠ b := by omega
 have hgb : g ≠ b := fun e => hbg e.symm
 have hgc : g ≠ W.heap.size := by omega
 clear hi hid hes he nb hCB hg hO
 go_enter Tryz.func173, Tryz.ntmps173
 go_upto_region 1 with fail
 generalize W.alloc (.cells #[.int .i64 y.chain.epoch, .slice ac y.chain.ids.length dc] 31) = W1 at *
 have hcw : W.heap.size < W1.heap.size := (uh HCB).lt
 have c0 := Box.at (uh HCB) 0 _ rfl
 have c1 := Box.at (uh HCB) 1 _ rfl
 have g2 := Box.at (uh HG) 2 _ rfl
 have g3 := Box.at (uh HG) 3 _ rfl
 simp only [ga, gb, gc] at c0 c1 g2 g3
 have cl := (uh HCB).lt
 have gl := (uh HG).lt
 have gf := Box.soft (uh HG)
 have hg9 := Box.set (Box.set (uh HG) 2 (.int .i64 y.chain.epoch)) 3 (.slice ac y.chain.ids.length dc)
 simp only [List.setIfInBounds_toArray, List.set_cons_zero, List.set_cons_succ] at hg9
 have e9 : Ext (fun q => q = g) W1 ((W1.setCell ⟨g, 2, none⟩ (.int .i64 y.chain.epoch)).setCell ⟨g, 3, none⟩ (.slice ac y.chain.ids.length dc)) := ((Ext.refl (fun q => q = g) W1).setCell ⟨g, 2, none⟩ (.int .i64 y.chain.epoch) rfl).setCell ⟨g, 3, none⟩ (.slice ac y.chain.ids.length dc) rfl
 replace HCB := yh ((uh HCB).ext e9 (fun e => hgc e.symm))
 replace HO := yh ((uh HO).ext e9 (fun k h1 h2 h3 => h3))
 replace HX := yh ((uh HX).trans (e9.mono (fun q _ e => by omega)))
 replace HG := yh hg9
 have hz9 : ((W1.setCell ⟨g, 2, none⟩ (.int .i64 y.chain.epoch)).setCell ⟨g, 3, none⟩ (.slice ac y.chain.ids.length dc)).heap.size = W1.heap.size := by simp
 clear hg9 e9
 go_upto_region 2 with fail
 generalize hWW : (W1.setCell ⟨g, 2, none⟩ (.int .i64 y.chain.epoch)).setCell ⟨g, 3, none⟩ (.slice ac y.chain.ids.length dc) = W2 at *
 clear hWW c0 c1 g2 g3 cl gl gf
 have c1 := Box.at (uh HCB) 1 _ rfl
 simp only [ga, gb, gc] at c1
 have cl := (uh HCB).lt
 go_wp2_with fail
 clear c1 cl
 go_loopw [14] (fun i wr => ∃ j : Nat, j ≤ y.chain.ids.length ∧ i = .int .i64 j ∧ Box 0 #[.int .i64 y.now, .int .i64 y.events, .int .i64 y.chain.epoch, .slice ac y.chain.ids.length dc, .slice (some ⟨b, off, none⟩) y.nodes.length d4, v5, v6] 36 wr g ∧ WOwn wr lo g [.int .i64 y.now, .int .i64 y.events, .int .i64 y.chain.epoch, .slice ac y.chain.ids.length dc, .slice (some ⟨b, off, none⟩) y.nodes.length d4, v5, v6] (instPW y (y.chain.ids.take j)) ∧ Box 0 #[.int .i64 y.chain.epoch, .slice ac y.chain.ids.length dc] 31 wr W.heap.size ∧ Ext (fun q => lo ≤ q) W wr) (fun i _ => y.chain.ids.length - (intOf i).toNat)
 case atStart => exact ⟨0, Nat.zero_le _, rfl, uh HG, by rw [List.take_zero, instPW_nil]; exact uh HO, uh HCB, uh HX⟩
 case round =>
  clear HG HO HCB HX
  obtain ⟨j, hj, rfl, hG, hO, hCB, hX⟩ := hrel
  have HG := yh hG
  have HCB := yh hCB
  have HX := yh hX
  have HO := yh hO
  by_cases hlt : j < y.chain.ids.length
  ·
   have hz := uh HI _ (List.getElem_mem hlt)
   obtain ⟨k, hk, hzk⟩ := nodeIn_at hz
   have hop := open_World hO.reads
   dsimp only [instPW] at hop
   obtain ⟨_, _, _, _, _, _, _, _, hq, RC, -, -, -⟩ := hop
   simp only [List.cons.injEq, Value.slice.injEq, and_true, true_and] at hq
   obtain ⟨⟨rfl, rfl⟩, -⟩ := hq
   obtain ⟨_, _, hq2, RI⟩ := open_Chain RC
   simp only [List.cons.injEq, Value.slice.injEq, and_true, true_and] at hq2
   obtain ⟨rfl, rfl⟩ := hq2
   obtain ⟨bi, oi, rfl, hbi⟩ := Lay.sl_addr RI (show 0 < y.chain.ids.length by omega)
   have ci : wr.cell? ⟨bi, oi + j, none⟩ = some (.int .i64 ((k : Int) + 1)) := by
    have := int_cell RI hlt
    rw [← hzk]
    exact this
   have hk' : k < (instPW y (y.chain.ids.take j)).nodes.length := by show k < (y.nodes.map _).length; rw [List.length_map]; exact hk
   obtain ⟨b', off', d4', an, dn, e4, -, hb2', -, hR0, hwf, -, hput⟩ := wown_upd hO hk'
   simp only [Value.slice.injEq] at e4
   obtain ⟨e4a, -, rfl⟩ := e4
   simp only [Option.some.injEq, Addr.mk.injEq, and_true] at e4a
   obtain ⟨rfl, rfl⟩ := e4a
   have hmm : (instPW y (y.chain.ids.take j)).nodes[k] = instP y.chain.epoch (y.chain.ids.take j) y.nodes[k] := by simp [instPW]
   rw [hmm] at hput hR0 hwf
   have hu := instP_up y.chain.epoch (y.chain.ids.take j) y.nodes[k]
   have hes := uh HES k hk
   have HME : Hid (0 ≤ (instP y.chain.epoch (y.chain.ids.take j) y.nodes[k]).epoch ∧ (instP y.chain.epoch (y.chain.ids.take j) y.nodes[k]).epoch ≤ 999) := by
    rcases hu.2.2.2.2 with q | q
    ·
     show _ ∧ _; rw [q]; exact hes.1
    show _ ∧ _; rw [q]; exact uh HE
   have HML : Hid (0 ≤ (instP y.chain.epoch (y.chain.ids.take j) y.nodes[k]).lease ∧ (instP y.chain.epoch (y.chain.ids.take j) y.nodes[k]).lease ≤ 9999) := by
    show _ ∧ _; rw [hu.2.2.1]; exact hes.2
   have HSET : Hid (y.nodes[k].up = true → setN (instPW y (y.chain.ids.take j)) k (grantN (instP y.chain.epoch (y.chain.ids.take j) y.nodes[k]) y.chain.epoch) = instPW y (y.chain.ids.take (j + 1))) := fun q => by
    rw [instPW_set hk (uh HID) q, ← hzk, ← List.take_append_getElem hlt]
   have HSKIP : Hid (y.nodes[k].up = false → instPW y (y.chain.ids.take j) = instPW y (y.chain.ids.take (j + 1))) := fun q => by
    rw [instPW_skip hk (uh HID) q, ← hzk, ← List.take_append_getElem hlt]
   have hup := hu.1
   have hmid := hu.2.1
   generalize hm : instP y.chain.epoch (y.chain.ids.take j) y.nodes[k] = m at *
   rw [← hup] at HSET HSKIP
   have hdl : decide ((j : Int) < (y.chain.ids.length : Int)) = true := by simp; omega
   have hw1 : IntKind.i64.wrap (k : Int) = (k : Int) := by
    rw [IntKind.wrap_i64]
    omega
   have hki : (k : Int) < (y.nodes.length : Int) := by omega
   have hki0 : (0 : Int) ≤ (k : Int) := by omega
   have HPUT := yh hput
   have HWF := yh hwf
   have HRW : Hid (RowAt wr wr b (off + k * 7) 7 [.int .i64 m.id, .bool m.up, .int .i64 m.epoch, .int .i64 m.lease, .slice an m.writes.length dn, .int .i64 m.sure, .int .i64 m.clean] []) := by
    exact ⟨hR0.len, hR0.cells, hR0.others, hR0.soft, hR0.lt, Ext.refl _ _⟩
   have g4 := Box.at hG 4 _ rfl
   simp only [ga, gb, gc] at g4
   have gl := hG.lt
   have x1 : wr.cell? ⟨b, off + k * 7 + 1, none⟩ = some (.bool m.up) := (uh HRW).cells 1 (by decide)
   clear hO hG hCB hX RC RI hR0 hput hwf hu hes hmm hup hz hmid
   cases hu2 : m.up
   ·
    have HO1 : Hid (WOwn wr lo g [.int .i64 y.now, .int .i64 y.events, .int .i64 y.chain.epoch, .slice (some ⟨bi, oi, none⟩) y.chain.ids.length dc, .slice (some ⟨b, off, none⟩) y.nodes.length d4, v5, v6] (instPW y (y.chain.ids.take (j + 1)))) := by
     have := uh HO
     rw [uh HSKIP hu2] at this
     exact this
    rw [hu2] at x1
    clear HSET HSKIP HPUT HWF HRW HO
    go_wp2_with fail
    go_roundw
    case rel => exact ⟨j + 1, by omega, by go_num, uh HG, uh HO1, uh HCB, uh HX⟩
    case measure => simp [intOf]; omega
   rw [hu2] at x1
   have HSS := yh (uh HSET hu2)
   clear hu2
   have hc0 : wr.cell? ⟨b, off + k * 7, none⟩ = some (.int .i64 m.id) := (uh HRW).cells 0 (by decide)
   have hc1 : wr.cell? ⟨b, off + k * 7 + 1, none⟩ = some (.bool m.up) := (uh HRW).cells 1 (by decide)
   have hc2 : wr.cell? ⟨b, off + k * 7 + 2, none⟩ = some (.int .i64 m.epoch) := (uh HRW).cells 2 (by decide)
   have hc3 : wr.cell? ⟨b, off + k * 7 + 3, none⟩ = some (.int .i64 m.lease) := (uh HRW).cells 3 (by decide)
   have hc4 : wr.cell? ⟨b, off + k * 7 + 4, none⟩ = some (.slice an m.writes.length dn) := (uh HRW).cells 4 (by decide)
   have hc5 : wr.cell? ⟨b, off + k * 7 + 5, none⟩ = some (.int .i64 m.sure) := (uh HRW).cells 5 (by decide)
   have hc6 : wr.cell? ⟨b, off + k * 7 + 6, none⟩ = some (.int .i64 m.clean) := (uh HRW).cells 6 (by decide)
   have HBW : Hid (Below wr.heap.size wr wr.drew) := (Below.refl _ _).drew
   clear HSET HSKIP HO
   go_upto_region 7 with fail
   refine wp_region_noPanic ?_
   refine wp_region_held_drew (S := fun w' => Ext (fun q => q = b) wr w') (by kernel_rfl) ((Ext.refl _ _).drew 1) (fun zq => ?_)
   generalize wr.drew = wE at zq HBW ⊢
   refine tkH 0 zq ?_
   refine tkH 1 zq ?_
   refine tkJ 2 (v := ?vc2) ?hc2 zq ?rc2
   case hc2 =>
    intro wS hSw
    have bS := (uh HCB).ext hSw (fun e => hcb e)
    have q0 := Box.at bS 0 _ rfl
    simp only [List.getElem_toArray, List.getElem_cons_zero] at q0
    clear bS hSw
    (try dsimp only at hSw)
    go_simp
    try with_reducible rfl
   refine tkH 3 zq ?_
   refine tkH 4 zq ?_
   refine rdH 5 (fun K hK => ?_)
   have c0 : wE.cell? ⟨b, off + k * 7, none⟩ = some (.int .i64 m.id) := cell_keep (uh HBW) hc0
   have c1 : wE.cell? ⟨b, off + k * 7 + 1, none⟩ = some (.bool m.up) := cell_keep (uh HBW) hc1
   have c2 : wE.cell? ⟨b, off + k * 7 + 2, none⟩ = some (.int .i64 m.epoch) := cell_keep (uh HBW) hc2
   have c3 : wE.cell? ⟨b, off + k * 7 + 3, none⟩ = some (.int .i64 m.lease) := cell_keep (uh HBW) hc3
   have c4 : wE.cell? ⟨b, off + k * 7 + 4, none⟩ = some (.slice an m.writes.length dn) := cell_keep (uh HBW) hc4
   have c5 : wE.cell? ⟨b, off + k * 7 + 5, none⟩ = some (.int .i64 m.sure) := cell_keep (uh HBW) hc5
   have c6 : wE.cell? ⟨b, off + k * 7 + 6, none⟩ = some (.int .i64 m.clean) := cell_keep (uh HBW) hc6
   go_simp
   refine hK.out _ _ zq (fun zq => ?_)
   clear hK K
   try simp only [Act.put, pz, py, px]
   refine rdH 6 (fun K hK => ?_)
   go_simp
   go_at_call 239
   refine (termOfC m an dn _ (uh HME) (uh HML)).mono ?_
   rintro e v ⟨rfl, hbv⟩
   dsimp only [mom]
   try go_wp2_with fail
   replace HBW := yh ((uh HBW).trans (hbv.mono (uh HBW).size))
   refine hK.out _ _ (zq.trans (ext_of_below hbv _)) (fun zq => ?_)
   clear hK K
   try simp only [Act.put, pz, py, px]
   refine rdH 7 (fun K hK => ?_)
   go_simp
   go_at_call 165
   refine (timeC m.epoch m.lease ⟨(uh HML).1, by have := (uh HML).2; omega⟩ _).mono ?_
   rintro e v2 ⟨rfl, rfl⟩
   try go_wp2_with fail
   refine hK.out _ _ zq (fun zq => ?_)
   clear hK K
   try simp only [Act.put, pz, py, px]
   refine rdH 8 (fun K hK => ?_)
   go_simp
   go_at_call 164
   refine (momentOfC y.chain.epoch m.lease ⟨(uh HE).1, by have := (uh HE).2; omega⟩ ⟨(uh HML).1, by have := (uh HML).2; omega⟩ _).mono ?_
   rintro e v2 ⟨rfl, rfl⟩
   dsimp only [mom]
   try go_wp2_with fail
   refine hK.out _ _ zq (fun zq => ?_)
   clear hK K
   try simp only [Act.put, pz, py, px]
   refine rdH 9 (fun K hK => ?_)
   go_simp
   go_at_call 167
   have hR3 := (uh HRW).call (g := []) (ext_of_below (uh HBW) _) (fun _ h => h) (by simp)
   have HR3 := yh hR3
   refine (grantTermC b (off + k * 7) y.chain.epoch m.lease _ _ _ ⟨(uh HE).1, by have := (uh HE).2; omega⟩ ⟨(uh HML).1, by have := (uh HML).2; omega⟩ (hR3.cells 2 (by decide)) (hR3.cells 3 (by decide)) (fun q => hR3.soft q)).mono ?_
   clear hR3
   rintro e u9 ⟨rfl, hu9⟩
   have HU9 := yh hu9
   clear hu9
   try go_wp2_with fail
   refine hK.out _ _ (by rw [uh HU9]; exact (zq.setCell _ _ rfl).setCell _ _ rfl) (fun zq => ?_)
   clear hK K
   try simp only [Act.put, pz, py, px]
   refine wpAnyH_done (by kernel_rfl) ?_ _
   refine NoPanic.normal ?_
   have hR9 := (uh HR3).set 2 (.int .i64 y.chain.epoch) (by decide)
   have hR9 := hR9.set 3 (.int .i64 m.lease) (by decide)
   rw [← uh HU9] at hR9
   simp only [List.set_cons_succ, List.set_cons_zero] at hR9
   have hO9 := uh HPUT u9 (grantN m y.chain.epoch) rfl ⟨(uh HWF).1, wf_of_bd (by have := uh HE; show -1000000000 ≤ y.chain.epoch ∧ y.chain.epoch ≤ 1000000000; omega), (uh HWF).2.2.1, (uh HWF).2.2.2.1, (uh HWF).2.2.2.2⟩ ⟨hR9.len, hR9.cells, hR9.others, hR9.soft, hR9.lt, hR9.ext⟩
   rw [uh HSS] at hO9
   have HO9 := yh hO9
   have HG9 := yh ((uh HG).ext zq hgb)
   have HCB9 := yh ((uh HCB).ext zq hcb)
   have HX9 := yh ((uh HX).trans (zq.mono (fun q _ e => by have := uh HLO; rw [e]; exact this)) : Ext (fun q => lo ≤ q) W u9)
   clear hO9 hR9 HR3 HPUT HWF HSS zq HG HCB HX HRW HU9 HBW hc0 hc1 hc2 hc3 hc4 hc5 hc6 x1 g4 gl
   go_wp2_with fail
   go_roundw
   case rel => exact ⟨j + 1, by omega, by go_num, uh HG9, uh HO9, uh HCB9, uh HX9⟩
   case measure => simp [intOf]; omega
  obtain rfl : j = y.chain.ids.length := by omega
  have hdl : decide ((y.chain.ids.length : Int) < (y.chain.ids.length : Int)) = false := by simp
  rw [List.take_length] at hO
  have HO9 := yh hO
  clear hO HO hG hCB hX
  go_wp2_with fail
  refine bodyPost_end (v := .tuple #[]) (by simp [results, Tryz.results173, go_sem]) rfl ?_
  exact ⟨rfl, uh HG, uh HO9, uh HX⟩
theorem changedC (ep : Int) (a : Option Addr) (n d : Nat) (a2 : Option Addr) (n2 d2 : Nat) (w : World) (hep : 1 ≤ ep ∧ ep ≤ 999) :
  Calls Tryz.prog 237 #[.agg #[.int .i64 ep, .slice a n d], .slice a2 n2 d2] w fun e w' => ∃ c e2 a3 n3 d3, e = .returned (.agg #[.int .i64 c, .int .i64 e2, .slice a3 n3 d3]) ∧ (ep = 999 ∧ c = 2 ∧ e2 = 0 ∧ (a3 = none ∧ n3 = 0 ∧ d3 = 0) ∨ ep < 999 ∧ c = 0 ∧ e2 = ep + 1 ∧ (a3 = a2 ∧ n3 = n2 ∧ d3 = d2)) ∧ Below w.heap.size w w' := by
 have HB : Hid (∀ o1 o2, Below w.heap.size w ((w.alloc o1).alloc o2)) := fun o1 o2 => ((Below.refl _ _).alloc (Nat.le_refl _) o1).alloc (by simp) o2
 by_cases h : ep = 999
 ·
  have hd : (ep == 999) = true := by simpa using h
  have HE := yh h
  clear h
  go_enter Tryz.func237, Tryz.ntmps237
  go_wp2_with fail
  refine bodyPost_ret (v := .agg #[.int .i64 2, .int .i64 0, .slice none 0 0]) (by simp [results, Tryz.results237, go_sem]) rfl ?_
  exact ⟨_, _, _, _, _, rfl, Or.inl ⟨uh HE, rfl, rfl, rfl, rfl, rfl⟩, uh HB _ _⟩
 have hd : (ep == 999) = false := by simpa using h
 have HE : Hid (ep < 999) := by show ep < 999; omega
 clear h
 go_enter Tryz.func237, Tryz.ntmps237
 go_wp2_with fail
 refine bodyPost_ret (v := .agg #[.int .i64 0, .int .i64 (ep + 1), .slice a2 n2 d2]) (by simp [results, Tryz.results237, go_sem]) rfl ?_
 exact ⟨_, _, _, _, _, rfl, Or.inr ⟨uh HE, rfl, rfl, rfl, rfl, rfl⟩, uh HB _ _⟩
theorem implJoinChain (cs : List Value) (x : DChain) (id : Int) (w : World) (h : Lay.tChain.Reads w cs x) :
  Calls Tryz.prog 176 #[.agg cs.toArray, .int .i64 id] w fun e w' => ∃ cs, e = .returned (.agg cs.toArray) ∧ Lay.tChainResult.OwnIn w' cs (joinR x id) w.heap.size w'.heap.size ∧ Below w.heap.size w w' := by
 obtain ⟨a, d, rfl, R⟩ := open_Chain h
 have nb : Below w.heap.size w ((w.alloc (.cells #[.int .i64 x.epoch, .slice a x.ids.length d] 31)).alloc (.cells #[.int .i64 0, .int .i64 0, .slice none 0 0] 111)) := ((Below.refl _ _).alloc (Nat.le_refl _) _).alloc (by simp) _
 have hX : ChainAt ((w.alloc (.cells #[.int .i64 x.epoch, .slice a x.ids.length d] 31)).alloc (.cells #[.int .i64 0, .int .i64 0, .slice none 0 0] 111)) w.heap.size (.slice a x.ids.length d) x := (newBox (Nat.zero_le _)).grow _
 have bR : Box 0 #[.int .i64 0, .int .i64 0, .slice none 0 0] 111 ((w.alloc (.cells #[.int .i64 x.epoch, .slice a x.ids.length d] 31)).alloc (.cells #[.int .i64 0, .int .i64 0, .slice none 0 0] 111)) (w.heap.size + 1) := newBoxAt (Nat.zero_le _) (by simp)
 have HF := yh (implChainFault _ x _ (h.later nb))
 have HR1 := yh R
 have HWF := yh (int_wf R)
 have HB := yh nb
 have HX := yh hX
 have HR := yh bR
 have x0 : ((w.alloc (.cells #[.int .i64 x.epoch, .slice a x.ids.length d] 31)).alloc (.cells #[.int .i64 0, .int .i64 0, .slice none 0 0] 111)).cell? ⟨w.heap.size, 0, none⟩ = some (.int .i64 x.epoch) := hX.at 0 _ rfl
 have x1 : ((w.alloc (.cells #[.int .i64 x.epoch, .slice a x.ids.length d] 31)).alloc (.cells #[.int .i64 0, .int .i64 0, .slice none 0 0] 111)).cell? ⟨w.heap.size, 1, none⟩ = some (.slice a x.ids.length d) := hX.at 1 _ rfl
 clear h R nb hX bR
 go_enter Tryz.func176, Tryz.ntmps176
 go_wp2_with fail
 generalize (w.alloc (.cells #[.int .i64 x.epoch, .slice a x.ids.length d] 31)).alloc (.cells #[.int .i64 0, .int .i64 0, .slice none 0 0] 111) = W0 at *
 refine (uh HF).mono ?_
 rintro e W ⟨rfl, hb⟩
 replace HX := yh ((uh HX).keep hb)
 replace HR := yh ((uh HR).keep hb)
 replace HB := yh ((uh HB).trans (hb.mono (uh HB).size))
 clear HF hb x0 x1
 have x0 : W.cell? ⟨w.heap.size, 0, none⟩ = some (.int .i64 x.epoch) := (uh HX).at 0 _ rfl
 have x1 : W.cell? ⟨w.heap.size, 1, none⟩ = some (.slice a x.ids.length d) := (uh HX).at 1 _ rfl
 have z0 : W.cell? ⟨w.heap.size + 1, 0, none⟩ = some (.int .i64 0) := (uh HR).at 0 _ rfl
 have z1 : W.cell? ⟨w.heap.size + 1, 1, none⟩ = some (.int .i64 0) := (uh HR).at 1 _ rfl
 have z2 : W.cell? ⟨w.heap.size + 1, 2, none⟩ = some (.slice none 0 0) := (uh HR).at 2 _ rfl
 have ff := (uh HR).soft
 have l0 := (uh HR).lt
 have xl := (uh HX).lt
 have H := yh ((uh HR1).later (uh HB))
 by_cases hc : chainFault x = 0
 ·
  have ok := chainFault_zero hc
  have hlen := ok.len
  have hep := ok.epoch
  have HOK := yh ok
  have HV0 : Hid (joinR x id = _) := (if_pos hc)
  rw [hc]
  clear hc ok
  go_wp2_with fail
  refine (isNodeIdC id W).mono ?_
  rintro e w1 ⟨rfl, h1⟩
  subst w1
  cases d1 : (decide (1 ≤ id) && decide (id ≤ 5))
  ·
   have HV : Hid (joinR x id = badChain 3) := (uh HV0).trans (if_neg (by simpa using d1))
   clear HV0 d1
   have HB2 := yh (below_setAll (uh HB) (w.heap.size + 1) 0 [.int .i64 (3), .int .i64 0, .slice none 0 0] (by omega))
   clear HB
   go_wp2_with fail
   refine bodyPost_ret (v := .agg #[.int .i64 (3), .int .i64 0, .slice none 0 0]) (by simp [results, Tryz.results176, go_sem, z0, z1, z2]) rfl ?_
   rw [uh HV]
   exact ⟨_, rfl, own_badChain (by omega), uh HB2⟩
  have hid : 1 ≤ id ∧ id ≤ 5 := by simpa using d1
  have HV1 := yh ((uh HV0).trans (if_pos hid))
  have HA := yh (containsI _ x.ids id W (uh H))
  clear HV0 d1
  go_wp2_with fail
  refine (uh HA).mono ?_
  rintro e w1 ⟨rfl, h1⟩
  subst w1
  clear HA
  by_cases h0 : 0 ≤ placeC x.ids id
  ·
   have HV : Hid (joinR x id = badChain 6) := (uh HV1).trans (if_pos h0)
   have hd0 : decide (0 ≤ placeC x.ids id) = true := by simpa using h0
   rw [hd0]
   clear HV1 hd0 h0
   have HB2 := yh (below_setAll (uh HB) (w.heap.size + 1) 0 [.int .i64 (6), .int .i64 0, .slice none 0 0] (by omega))
   clear HB
   go_wp2_with fail
   refine bodyPost_ret (v := .agg #[.int .i64 (6), .int .i64 0, .slice none 0 0]) (by simp [results, Tryz.results176, go_sem, z0, z1, z2]) rfl ?_
   rw [uh HV]
   exact ⟨_, rfl, own_badChain (by omega), uh HB2⟩
  have hd0 : decide (0 ≤ placeC x.ids id) = false := by simpa using h0
  have HV2 : Hid (joinR x id = if 999 ≤ x.epoch then badChain 2 else ⟨0, ⟨x.epoch + 1, x.ids ++ [id]⟩⟩) := (uh HV1).trans (if_neg h0)
  rw [hd0]
  clear HV1 h0 hd0
  have HRI : Hid (∀ w', Below (w.heap.size + 1) W w' → (Lay.sl Lay.int).Reads w' [.slice a x.ids.length d] x.ids) := fun w' hw => (uh HR1).later ((uh HB).trans (hw.mono (by omega)))
  have HWJ : Hid (∀ z ∈ x.ids ++ [id], (Lit.int .i64 z).wf = true) := fun z hz => by
   rcases List.mem_append.1 hz with hz | hz
   ·
    exact uh HWF z hz
   rw [List.mem_singleton.1 hz]; exact wf_of_bd (by omega)
  obtain ⟨b2, off, rfl, -⟩ := Lay.sl_addr (uh H) (by omega)
  clear z0 z1 z2 ff
  have hRD := Box.drew (uh HR)
  have hzD : W.heap.size ≤ W.drew.heap.size := Nat.le_refl _
  have hlW := l0
  clear l0
  go_wp2_with fail
  refine wp_region_noPanic ?_
  refine wp_region_held_drew (S := fun w' => Below (w.heap.size + 1) W w') (by kernel_rfl) (Below.refl _ _).drew (fun zq => ?_)
  generalize W.drew = wD at zq hRD hzD ⊢
  refine tkJ 0 (v := ?vj0_1) ?hj0_1 zq ?rj0_1
  case hj0_1 =>
   intro wS hSw
   have e0 : wS.cell? ⟨w.heap.size, 0, none⟩ = some (.int .i64 x.epoch) := (hSw.cell (p := ⟨w.heap.size, 0, none⟩) (by show w.heap.size < w.heap.size + 1; omega)).trans x0
   have e1 : wS.cell? ⟨w.heap.size, 1, none⟩ = some (.slice (some ⟨b2, off, none⟩) x.ids.length d) := (hSw.cell (p := ⟨w.heap.size, 1, none⟩) (by show w.heap.size < w.heap.size + 1; omega)).trans x1
   clear hSw
   (try dsimp only at hSw)
   go_simp
   try with_reducible rfl
  refine tkH 1 zq ?_
  refine tkJ 2 (v := ?vj2_3) ?hj2_3 zq ?rj2_3
  case hj2_3 =>
   intro wS hSw
   have e1 : wS.cell? ⟨w.heap.size, 1, none⟩ = some (.slice (some ⟨b2, off, none⟩) x.ids.length d) := (hSw.cell (p := ⟨w.heap.size, 1, none⟩) (by show w.heap.size < w.heap.size + 1; omega)).trans x1
   clear hSw
   (try dsimp only at hSw)
   go_simp
   try with_reducible rfl
  refine tkH 4 zq ?_
  refine wpAnyH_ready (rs := [3, 5]) (by kernel_rfl) (by simp) ?_
  refine AllReadyH.cons (o := ⟨some 24, .call { callee := .value (.func 182), args := #[.tmp 23], argTypes := #[22] }, 22, "l10_chain.go:127", #[⟨2, .data⟩], none⟩) rfl (fun K hK => ?oj3_5) (AllReadyH.cons (o := ⟨some 26, .buildSlice 22 1 #[(0, .tmp 25)], 22, "l10_chain.go:127", #[⟨4, .data⟩], none⟩) rfl (fun K hK => ?oj5_5) (AllReadyH.nil))
  case oj3_5 =>
   go_simp
   go_at_call 182
   refine (slClone _ _ x.ids _ (Lay.ints_reads (uh HRI _ zq)) (by omega)).mono ?_
   rintro e w4 ⟨v4, rfl, O4, hb4⟩
   have hS4 := zq.trans (hb4.mono (by omega))
   have hz4 := hb4.size
   have hR4 := hRD.keep hb4
   replace O4 := own_mono (b' := W.heap.size) (by omega) O4
   try go_wp2_with fail
   refine hK.out _ _ hS4 (fun zq => ?_)
   clear hK K
   try simp only [Act.put, pz, py, px]
   refine rdH 5 (fun K hK => ?_)
   have b7 : Box 0 #[.int .i64 id] 2 (w4.alloc (.cells #[.int .i64 id] 2)) w4.heap.size := newBox (Nat.zero_le _)
   have nb7 : Below w4.heap.size w4 (w4.alloc (.cells #[.int .i64 id] 2)) := (Below.refl _ _).alloc (Nat.le_refl _) _
   replace O4 := own_below O4 nb7
   replace hR4 := hR4.keep nb7
   have hS7 := hS4.trans (nb7.mono (by omega))
   go_simp
   try go_wp2_with fail
   refine hK.out _ _ hS7 (fun zq => ?_)
   clear hK K
   try simp only [Act.put, pz, py, px]
   refine rdH 6 (fun K hK => ?_)
   refine step_append_ints O4 (one_ints b7 (wf_of_bd (by omega))) rfl _ _ rfl rfl rfl (by simp; omega) (by simp; omega) ?_
   rintro v5 w5 O5 - hb5
   obtain ⟨a9, c9, rfl⟩ := own_shape O5
   have hS5 := hS7.trans (hb5.mono (by omega))
   have hR5 := box_lowC hR4 hb5 (by omega)
   refine hK.out _ _ hS5 (fun zq => ?_)
   clear hK K
   try simp only [Act.put, pz, py, px]
   refine rdH 7 (fun K hK => ?_)
   go_simp
   go_at_call 237
   have hz5 := hS5.size
   refine (changedC x.epoch _ _ _ _ _ _ w5 (by omega)).mono ?_
   rintro e w6 ⟨c, e2, a3, n3, d3, rfl, hch, hb6⟩
   have hS6 := hS5.trans (hb6.mono (by omega))
   have hR6 := hR5.keep hb6
   have O6 := own_below O5 hb6
   have hz6 := hb6.size
   have z0 := Box.at hR6 0 _ rfl
   have z1 := Box.at hR6 1 _ rfl
   have z2 := Box.at hR6 2 _ rfl
   simp only [ga, gb, gc] at z0 z1 z2
   have ff := Box.soft hR6
   have l0 := Box.lt hR6
   have HOW : Hid (Lay.tChainResult.OwnIn w6 [.int .i64 c, .int .i64 e2, .slice a3 n3 d3] (joinR x id) W.heap.size w6.heap.size) := by
    rcases hch with ⟨h9, rfl, rfl, q3⟩ | ⟨h9, rfl, rfl, q3⟩
    ·
     obtain ⟨rfl, rfl, rfl⟩ := q3
     rw [uh HV2, if_pos (by omega)]
     exact own_badChain (by decide)
    obtain ⟨rfl, rfl, rfl⟩ := q3
    rw [uh HV2, if_neg (by omega)]
    refine own_chainR (c := 0) (x := ⟨x.epoch + 1, x.ids ++ [id]⟩) (by decide) (wf_of_bd (by simp only; omega)) (own_intsC (zs := x.ids ++ [id]) (uh HWJ) (by rw [List.length_append]; simp; omega) ?_)
    first | exact O6 | (rw [← uh HM]; exact O6) | simpa using O6
   clear hch
   try go_wp2_with fail
   refine hK.out _ _ hS6 (fun zq => ?_)
   clear hK K
   try simp only [Act.put, pz, py, px]
   refine rdH 8 (fun K hK => ?_)
   go_simp
   try go_wp2_with fail
   refine hK.out _ _ (below_setAll hS6 (w.heap.size + 1) 0 [.int .i64 c, .int .i64 e2, .slice a3 n3 d3] (by omega)) (fun zq => ?_)
   clear hK K
   try simp only [Act.put, pz, py, px]
   refine wpAnyH_done (by kernel_rfl) ?_ _
   refine NoPanic.normal ?_
   have HO3 : Hid (Lay.tChainResult.OwnIn (setAll w6 (w.heap.size + 1) 0 [.int .i64 c, .int .i64 e2, .slice a3 n3 d3]) [.int .i64 c, .int .i64 e2, .slice a3 n3 d3] (joinR x id) W.heap.size w6.heap.size) := own_store' (s := w.heap.size + 1) (vs := [.int .i64 c, .int .i64 e2, .slice a3 n3 d3]) (uh HOW) hlW
   have HB2 := yh ((uh HB).trans ((below_setAll hS6 (w.heap.size + 1) 0 [.int .i64 c, .int .i64 e2, .slice a3 n3 d3] (by omega)).mono (by omega)))
   have HSF := yh (size_setAll w6 (w.heap.size + 1) 0 [.int .i64 c, .int .i64 e2, .slice a3 n3 d3])
   have hlo : w.heap.size ≤ W.heap.size := by omega
   clear zq hS5 hR5 O5 hS6 hR6 O6 hb6 hRD HOW
   go_wp2_with fail
   refine bodyPost_ret (v := .agg #[.int .i64 c, .int .i64 e2, .slice a3 n3 d3]) (by simp [results, Tryz.results176, go_sem, z0, z1, z2]) rfl ?_
   exact ⟨[.int .i64 c, .int .i64 e2, .slice a3 n3 d3], rfl, (uh HO3).mono hlo (Nat.le_of_eq (uh HSF).symm), uh HB2⟩
  case oj5_5 =>
   have b7 : Box 0 #[.int .i64 id] 2 (wD.alloc (.cells #[.int .i64 id] 2)) wD.heap.size := newBox (Nat.zero_le _)
   have nb7 : Below wD.heap.size wD (wD.alloc (.cells #[.int .i64 id] 2)) := (Below.refl _ _).alloc (Nat.le_refl _) _
   have hR7 := hRD.keep nb7
   have hS7 := zq.trans (nb7.mono (by omega))
   have hz7 := nb7.size
   go_simp
   try go_wp2_with fail
   refine hK.out _ _ hS7 (fun zq => ?_)
   clear hK K
   try simp only [Act.put, pz, py, px]
   refine rdH 3 (fun K hK => ?_)
   go_simp
   go_at_call 182
   refine (slClone _ _ x.ids _ (Lay.ints_reads (uh HRI _ zq)) (by omega)).mono ?_
   rintro e w4 ⟨v4, rfl, O4, hb4⟩
   have hS4 := zq.trans (hb4.mono (by omega))
   have hz4 := hb4.size
   have hR4 := hR7.keep hb4
   replace O4 := own_mono (b' := W.heap.size) (by omega) O4
   replace b7 := b7.keep hb4
   try go_wp2_with fail
   refine hK.out _ _ hS4 (fun zq => ?_)
   clear hK K
   try simp only [Act.put, pz, py, px]
   refine rdH 6 (fun K hK => ?_)
   refine step_append_ints O4 (one_ints b7 (wf_of_bd (by omega))) rfl _ _ rfl rfl rfl (by simp; omega) (by omega) ?_
   rintro v5 w5 O5 - hb5
   obtain ⟨a9, c9, rfl⟩ := own_shape O5
   have hS5 := hS4.trans (hb5.mono (by omega))
   have hR5 := box_lowC hR4 hb5 (by omega)
   refine hK.out _ _ hS5 (fun zq => ?_)
   clear hK K
   try simp only [Act.put, pz, py, px]
   refine rdH 7 (fun K hK => ?_)
   go_simp
   go_at_call 237
   have hz5 := hS5.size
   refine (changedC x.epoch _ _ _ _ _ _ w5 (by omega)).mono ?_
   rintro e w6 ⟨c, e2, a3, n3, d3, rfl, hch, hb6⟩
   have hS6 := hS5.trans (hb6.mono (by omega))
   have hR6 := hR5.keep hb6
   have O6 := own_below O5 hb6
   have hz6 := hb6.size
   have z0 := Box.at hR6 0 _ rfl
   have z1 := Box.at hR6 1 _ rfl
   have z2 := Box.at hR6 2 _ rfl
   simp only [ga, gb, gc] at z0 z1 z2
   have ff := Box.soft hR6
   have l0 := Box.lt hR6
   have HOW : Hid (Lay.tChainResult.OwnIn w6 [.int .i64 c, .int .i64 e2, .slice a3 n3 d3] (joinR x id) W.heap.size w6.heap.size) := by
    rcases hch with ⟨h9, rfl, rfl, q3⟩ | ⟨h9, rfl, rfl, q3⟩
    ·
     obtain ⟨rfl, rfl, rfl⟩ := q3
     rw [uh HV2, if_pos (by omega)]
     exact own_badChain (by decide)
    obtain ⟨rfl, rfl, rfl⟩ := q3
    rw [uh HV2, if_neg (by omega)]
    refine own_chainR (c := 0) (x := ⟨x.epoch + 1, x.ids ++ [id]⟩) (by decide) (wf_of_bd (by simp only; omega)) (own_intsC (zs := x.ids ++ [id]) (uh HWJ) (by rw [List.length_append]; simp; omega) ?_)
    first | exact O6 | (rw [← uh HM]; exact O6) | simpa using O6
   clear hch
   try go_wp2_with fail
   refine hK.out _ _ hS6 (fun zq => ?_)
   clear hK K
   try simp only [Act.put, pz, py, px]
   refine rdH 8 (fun K hK => ?_)
   go_simp
   try go_wp2_with fail
   refine hK.out _ _ (below_setAll hS6 (w.heap.size + 1) 0 [.int .i64 c, .int .i64 e2, .slice a3 n3 d3] (by omega)) (fun zq => ?_)
   clear hK K
   try simp only [Act.put, pz, py, px]
   refine wpAnyH_done (by kernel_rfl) ?_ _
   refine NoPanic.normal ?_
   have HO3 : Hid (Lay.tChainResult.OwnIn (setAll w6 (w.heap.size + 1) 0 [.int .i64 c, .int .i64 e2, .slice a3 n3 d3]) [.int .i64 c, .int .i64 e2, .slice a3 n3 d3] (joinR x id) W.heap.size w6.heap.size) := own_store' (s := w.heap.size + 1) (vs := [.int .i64 c, .int .i64 e2, .slice a3 n3 d3]) (uh HOW) hlW
   have HB2 := yh ((uh HB).trans ((below_setAll hS6 (w.heap.size + 1) 0 [.int .i64 c, .int .i64 e2, .slice a3 n3 d3] (by omega)).mono (by omega)))
   have HSF := yh (size_setAll w6 (w.heap.size + 1) 0 [.int .i64 c, .int .i64 e2, .slice a3 n3 d3])
   have hlo : w.heap.size ≤ W.heap.size := by omega
   clear zq hS5 hR5 O5 hS6 hR6 O6 hb6 hRD HOW
   go_wp2_with fail
   refine bodyPost_ret (v := .agg #[.int .i64 c, .int .i64 e2, .slice a3 n3 d3]) (by simp [results, Tryz.results176, go_sem, z0, z1, z2]) rfl ?_
   exact ⟨[.int .i64 c, .int .i64 e2, .slice a3 n3 d3], rfl, (uh HO3).mono hlo (Nat.le_of_eq (uh HSF).symm), uh HB2⟩
 have HV := yh (joinR_bad (id := id) hc)
 have hv := chainFault_vals x
 have hc2 : (chainFault x != 0) = true := by simpa using hc
 clear hc
 generalize chainFault x = f at *
 have HB2 := yh (below_setAll (uh HB) (w.heap.size + 1) 0 [.int .i64 (f), .int .i64 0, .slice none 0 0] (by omega))
 clear HB
 go_wp2_with fail
 refine bodyPost_ret (v := .agg #[.int .i64 (f), .int .i64 0, .slice none 0 0]) (by simp [results, Tryz.results176, go_sem, z0, z1, z2]) rfl ?_
 rw [uh HV]
 exact ⟨_, rfl, own_badChain (by omega), uh HB2⟩
theorem takeOverC (b o : Nat) (an : Option Addr) (dn : Nat) (n t : DNode) (cs : List Value) (W : World) (hR : RowAt W W b o 7 [.int .i64 n.id, .bool n.up, .int .i64 n.epoch, .int .i64 n.lease, .slice an n.writes.length dn, .int .i64 n.sure, .int .i64 n.clean] []) (hr : Lay.tNode.Reads W cs t) (hs : 0 ≤ t.sure ∧ t.sure ≤ t.writes.length) (hl : t.writes.length ≤ 40) (hv : ∀ y ∈ t.writes, y.vec.length ≤ 10000000) :
  Calls Tryz.prog 178 #[.pointer (some ⟨b, o, none⟩), .agg cs.toArray] W fun e w' => e = .returned (.tuple #[]) ∧ ∃ (m : Nat) (Wm : World) (a : Option Addr) (d : Nat), t.sure.toNat = m ∧ Below W.heap.size W Wm ∧ (Lay.sl Lay.tWrite).OwnIn Wm [.slice a m d] (t.writes.take m) W.heap.size Wm.heap.size ∧ RowAt Wm w' b o 7 [.int .i64 n.id, .bool n.up, .int .i64 n.epoch, .int .i64 0, .slice a m d, .int .i64 (m : Int), .int .i64 (m : Int)] [] := by
 obtain ⟨aq, dq, rfl, RW⟩ := open_Node hr
 obtain ⟨m, hm⟩ : ∃ m : Nat, t.sure = (m : Int) := ⟨t.sure.toNat, by omega⟩
 have hmw : m ≤ t.writes.length := by omega
 have hmd : m ≤ dq := Nat.le_trans hmw RW.cap.2
 have hlen : (t.writes.take m).length = m := by rw [List.length_take]; omega
 have nb : Below W.heap.size W (W.alloc (.cells #[.int .i64 t.id, .bool t.up, .int .i64 t.epoch, .int .i64 t.lease, .slice aq t.writes.length dq, .int .i64 t.sure, .int .i64 t.clean] 84)) := (Below.refl _ _).alloc (Nat.le_refl _) _
 have HY : Hid (Box 0 #[.int .i64 t.id, .bool t.up, .int .i64 t.epoch, .int .i64 t.lease, .slice aq t.writes.length dq, .int .i64 t.sure, .int .i64 t.clean] 84 (W.alloc (.cells #[.int .i64 t.id, .bool t.up, .int .i64 t.epoch, .int .i64 t.lease, .slice aq t.writes.length dq, .int .i64 t.sure, .int .i64 t.clean] 84)) W.heap.size) := newBox (Nat.zero_le _)
 have HT := sl_take_lies (RW.later nb).liesIn m hmw
 have HL := yh (copiedC _ (t.writes.take m) _ HT.reads (by rw [hlen]; omega) (fun y hy => hv y (List.mem_of_mem_take hy)))
 have HTN : Hid (t.sure.toNat = m) := by show t.sure.toNat = m; omega
 have HR0 := yh (hR.call (g := []) (ext_of_below nb _) (fun _ h => h) (by simp))
 have HB := yh nb
 have hbW := hR.lt
 have hz0 : (W.alloc (.cells #[.int .i64 t.id, .bool t.up, .int .i64 t.epoch, .int .i64 t.lease, .slice aq t.writes.length dq, .int .i64 t.sure, .int .i64 t.clean] 84)).heap.size = W.heap.size + 1 := by simp
 rw [hm] at HY HL HR0 HB hz0 ⊢
 clear nb HT hR hr RW hs hv hm
 go_enter Tryz.func178, Tryz.ntmps178
 go_upto_region 1 with fail
 generalize W.alloc (.cells #[.int .i64 t.id, .bool t.up, .int .i64 t.epoch, .int .i64 t.lease, .slice aq t.writes.length dq, .int .i64 (m : Int), .int .i64 t.clean] 84) = W1 at *
 have y4 := Box.at (uh HY) 4 _ rfl
 have y5 := Box.at (uh HY) 5 _ rfl
 simp only [ga, gb, gc] at y4 y5
 have yl := (uh HY).lt
 go_wp2_with fail
 refine (uh HL).mono ?_
 rintro e Wm ⟨gq, rfl, O, hb⟩
 rw [hlen] at O
 generalize hlw : t.writes.take m = tw at *
 have HO := yh O
 have HBm := yh ((uh HB).trans (hb.mono (uh HB).size))
 have HYm := yh ((uh HY).keep hb)
 have hzm := hb.size
 have HRm := yh ((uh HR0).call (g := []) (ext_of_below hb _) (fun _ h => h) (by simp))
 have hRs : RowAt Wm Wm b o 7 [.int .i64 n.id, .bool n.up, .int .i64 n.epoch, .int .i64 n.lease, .slice an n.writes.length dn, .int .i64 n.sure, .int .i64 n.clean] [] := ⟨(uh HRm).len, (uh HRm).cells, fun _ _ => rfl, (uh HRm).soft, (uh HRm).lt, Ext.refl _ _⟩
 have HRW := yh hRs
 clear hRs HL y4 HR0 HRm HY hb O HB
 have x4 : Wm.cell? ⟨b, o + 4, none⟩ = some (.slice an n.writes.length dn) := (uh HRW).cells 4 (by decide)
 have f4 := (uh HRW).soft (o + 4)
 have bl := (uh HRW).lt
 have hR9 := (uh HRW).set 4 (.slice (some ⟨gq, 0, none⟩) m m) (by decide)
 simp only [List.set_cons_succ, List.set_cons_zero] at hR9
 have e1 : Ext (fun q => q = b) Wm (Wm.setCell ⟨b, o + 4, none⟩ (.slice (some ⟨gq, 0, none⟩) m m)) := (Ext.refl _ _).setCell _ _ rfl
 replace HYm := yh ((uh HYm).ext e1 (by omega))
 clear HRW
 have HRW := yh hR9
 clear hR9 e1
 go_upto_region 2 with fail
 generalize Wm.setCell ⟨b, o + 4, none⟩ (.slice (some ⟨gq, 0, none⟩) m m) = Wa at *
 clear x4 f4 bl y5 yl
 have y5 := Box.at (uh HYm) 5 _ rfl
 simp only [ga, gb, gc] at y5
 have yl := (uh HYm).lt
 have x5 : Wa.cell? ⟨b, o + 5, none⟩ = some (.int .i64 n.sure) := (uh HRW).cells 5 (by decide)
 have f5 := (uh HRW).soft (o + 5)
 have bl := (uh HRW).lt
 have hR9 := (uh HRW).set 5 (.int .i64 (m : Int)) (by decide)
 simp only [List.set_cons_succ, List.set_cons_zero] at hR9
 have e1 : Ext (fun q => q = b) Wa (Wa.setCell ⟨b, o + 5, none⟩ (.int .i64 (m : Int))) := (Ext.refl _ _).setCell _ _ rfl
 replace HYm := yh ((uh HYm).ext e1 (by omega))
 clear HRW
 have HRW := yh hR9
 clear hR9 e1
 go_upto_region 3 with fail
 generalize Wa.setCell ⟨b, o + 5, none⟩ (.int .i64 (m : Int)) = Wb at *
 clear x5 f5 bl y5 yl
 have y5 := Box.at (uh HYm) 5 _ rfl
 simp only [ga, gb, gc] at y5
 have yl := (uh HYm).lt
 have x6 : Wb.cell? ⟨b, o + 6, none⟩ = some (.int .i64 n.clean) := (uh HRW).cells 6 (by decide)
 have f6 := (uh HRW).soft (o + 6)
 have bl := (uh HRW).lt
 have hR9 := (uh HRW).set 6 (.int .i64 (m : Int)) (by decide)
 simp only [List.set_cons_succ, List.set_cons_zero] at hR9
 have e1 : Ext (fun q => q = b) Wb (Wb.setCell ⟨b, o + 6, none⟩ (.int .i64 (m : Int))) := (Ext.refl _ _).setCell _ _ rfl
 replace HYm := yh ((uh HYm).ext e1 (by omega))
 clear HRW
 have HRW := yh hR9
 clear hR9 e1
 go_upto_region 4 with fail
 generalize Wb.setCell ⟨b, o + 6, none⟩ (.int .i64 (m : Int)) = Wc at *
 clear x6 f6 bl y5 yl
 have x3 : Wc.cell? ⟨b, o + 3, none⟩ = some (.int .i64 n.lease) := (uh HRW).cells 3 (by decide)
 have f3 := (uh HRW).soft (o + 3)
 have bl := (uh HRW).lt
 have hR9 := (uh HRW).set 3 (.int .i64 0) (by decide)
 simp only [List.set_cons_succ, List.set_cons_zero] at hR9
 have e1 : Ext (fun q => q = b) Wc (Wc.setCell ⟨b, o + 3, none⟩ (.int .i64 0)) := (Ext.refl _ _).setCell _ _ rfl
 replace HYm := yh ((uh HYm).ext e1 (by omega))
 clear HRW
 have HRW := yh hR9
 clear hR9 e1
 go_wp2_with fail
 refine bodyPost_end (v := .tuple #[]) (by simp [results, Tryz.results178, go_sem]) rfl ?_
 exact ⟨rfl, m, Wm, some ⟨gq, 0, none⟩, m, by simp, uh HBm, by rw [hlw]; exact (uh HO).mono (by omega) (Nat.le_refl _), uh HRW⟩
theorem tailOfC (cs : List Value) (x : DChain) (w : World) (h : Lay.tChain.Reads w cs x) (k : Nat) (hk : x.ids.length = k + 1) (hn : x.ids.length ≤ 5) :
  Calls Tryz.prog 177 #[.agg cs.toArray] w fun e w' => e = .returned (.int .i64 (x.ids.getD k 0)) ∧ Below w.heap.size w w' := by
 obtain ⟨a3, d3, rfl, R3⟩ := open_Chain h
 have hlt : k < x.ids.length := by omega
 have hv : x.ids.getD k 0 = x.ids[k] := by simp [List.getD, hlt]
 rw [hv]
 have nb : Below w.heap.size w (w.alloc (.cells #[.int .i64 x.epoch, .slice a3 x.ids.length d3] 31)) := (Below.refl _ _).alloc (Nat.le_refl _) _
 have HX : Hid (Box 0 #[.int .i64 x.epoch, .slice a3 x.ids.length d3] 31 (w.alloc (.cells #[.int .i64 x.epoch, .slice a3 x.ids.length d3] 31)) w.heap.size) := newBox (Nat.zero_le _)
 have R := R3.later nb
 obtain ⟨b, off, rfl, hbl⟩ := Lay.sl_addr R (by omega)
 have c1 := int_cell R hlt
 have HB := yh nb
 have hw1 : IntKind.i64.wrap ((k : Int) + 1 - 1) = (k : Int) := by rw [IntKind.wrap_i64]; omega
 have hw2 : IntKind.i64.wrap (k : Int) = (k : Int) := by rw [IntKind.wrap_i64]; omega
 have hki0 : (0 : Int) ≤ (k : Int) := by omega
 have hki : (k : Int) < ((k + 1 : Nat) : Int) := by omega
 have hks : ((k + 1 : Nat) : Int) - 1 = (k : Int) := by omega
 clear hv
 generalize x.ids[k] = z at *
 have HK := yh hk
 clear nb R R3 h hlt hn hk
 go_enter Tryz.func177, Tryz.ntmps177
 go_upto_region 1 with fail
 generalize hWW : w.alloc (.cells #[.int .i64 x.epoch, .slice (some ⟨b, off, none⟩) x.ids.length d3] 31) = w1 at *
 have z1 := Box.at (uh HX) 1 _ rfl
 simp only [ga, gb, gc] at z1
 have zl := (uh HX).lt
 clear hWW HX
 have hk := uh HK
 rw [hk] at z1
 clear hk HK
 go_wp2_with fail
 go_ret
 exact ⟨rfl, uh HB⟩
theorem joinStepC (L k kt p : Nat) (y : DWorld) (W : World) (hp : Box 0 #[.int .i64 ((k : Int) + 1)] 2 W p) (_ : p < L) (hk : k < y.nodes.length) (hkt : kt < y.nodes.length) (ht : tailId y = (kt : Int) + 1) (hnf : nodeFault y.nodes[kt] = 0) (hn5 : y.nodes.length ≤ 5) (hi : ∀ z ∈ y.chain.ids, nodeIn y z = true) (hid : ∀ i (h : i < y.nodes.length), y.nodes[i].id = (i : Int) + 1) (hes : ∀ i (h : i < y.nodes.length), (0 ≤ y.nodes[i].epoch ∧ y.nodes[i].epoch ≤ 999) ∧ 0 ≤ y.nodes[i].lease ∧ y.nodes[i].lease ≤ 9999) (hcf : chainFault y.chain = 0) :
  StepC L 175 #[.pointer (some ⟨p, 0, none⟩)] y (joinC y ((k : Int) + 1)) true (joined y ((k : Int) + 1)) W := by
 intro g lo v3 v4 v5 v6 hL hg hlo hO
 show Calls Tryz.prog 175 #[.pointer (some ⟨g, 0, none⟩), .pointer (some ⟨p, 0, none⟩)] W _
 obtain ⟨a3, d3, _, _, _, _, _, _, hq, RC, -, -, -⟩ := open_World hO.reads
 simp only [List.cons.injEq, and_true, true_and] at hq
 obtain ⟨rfl, -, -, -⟩ := hq
 have g2c := Box.at hg 2 _ rfl
 have g3c := Box.at hg 3 _ rfl
 have hp0 := Box.at hp 0 _ rfl
 simp only [ga, gb, gc] at g2c g3c hp0
 have hgl := hg.lt
 have hpl := hp.lt
 have HM := yh RC
 have HG0 := yh hg
 have HP0 := yh hp
 have HO := yh hO
 have HI := yh hi
 have HID := yh hid
 have HES := yh hes
 have HCF := yh hcf
 have HT := yh ht
 have HNO := yh (nodeFault_zero hnf)
 have HNF := yh hnf
 have HCB := yh (joinR_bd y.chain ((k : Int) + 1))
 obtain ⟨j, hj⟩ : ∃ j : Nat, y.chain.ids.length = j + 1 := ⟨y.chain.ids.length - 1, by have := (chainFault_zero hcf).len; omega⟩
 have HJ := yh hj
 have HJ5 : Hid (y.chain.ids.length ≤ 5) := yh (by have := (chainFault_zero hcf).len; omega)
 have HTI : Hid (y.chain.ids.getD j 0 = (kt : Int) + 1) := by
  have h1 := ht
  rw [tailId, hj] at h1
  exact h1
 obtain ⟨b, off, d4, _, _, rfl, hbL, hbW, hbg0, -, -, -, -⟩ := wown_upd (uh HO) hk
 clear hp hg hO RC hi hid hes hcf ht hj hnf
 go_enter Tryz.func175, Tryz.ntmps175
 go_upto_region 1 with fail
 go_cut [5] from 8 to 13 (fun s5 wx => ∃ (wz : World) (g5 : Nat), ∃ a5, ∃ m5, ∃ d5, wz = wx ∧ s5 = .pointer (some ⟨g5, 0, none⟩) ∧ Box 0 #[.int .i64 (joinR y.chain ((k : Int) + 1)).code, .int .i64 (joinR y.chain ((k : Int) + 1)).chain.epoch, .slice a5 m5 d5] 111 wz g5 ∧ (Lay.sl Lay.int).OwnIn wz [.slice a5 m5 d5] (joinR y.chain ((k : Int) + 1)).chain.ids W.heap.size wz.heap.size ∧ W.heap.size ≤ g5 ∧ Below W.heap.size W wz)
 case first =>
  have HDS : W.heap.size ≤ W.drew.heap.size := Nat.le_refl _
  refine wp_region_noPanic ?_
  refine wp_region_held_drew (S := fun w' => Below W.heap.size W w') (by kernel_rfl) ((Below.refl _ _).drew) (fun zq => ?_)
  generalize W.drew = wD at zq HDS ⊢
  refine tkH 0 zq ?_
  refine tkH 1 zq ?_
  refine tkH 2 zq ?_
  refine tkJ 3 (v := ?vk3_4) ?hk3_4 zq ?rk3_4
  case hk3_4 =>
   intro wS hSw
   have q2 := (hSw.cell (p := ⟨g, 2, none⟩) hgl).trans g2c
   have q3 := (hSw.cell (p := ⟨g, 3, none⟩) hgl).trans g3c
   clear hSw
   (try dsimp only at hSw)
   go_simp
   try with_reducible rfl
  refine tkJ 4 (v := ?vk4_5) ?hk4_5 zq ?rk4_5
  case hk4_5 =>
   intro wS hSw
   have q0 := (hSw.cell (p := ⟨p, 0, none⟩) hpl).trans hp0
   clear hSw
   (try dsimp only at hSw)
   go_simp
   try with_reducible rfl
  refine wpAnyH_ready (rs := [5, 6]) (by kernel_rfl) (by simp) ?_
  refine AllReadyH.cons (o := ⟨some 13, .call { callee := .value (.func 176), args := #[.tmp 11, .tmp 12], argTypes := #[31, 2] }, 111, "l13_master.go:110", #[⟨3, .data⟩, ⟨4, .data⟩], none⟩) rfl (fun K hK => ?ok5_6) (AllReadyH.cons (o := ⟨some 5, .alloc 111, 0, "l13_master.go:110", #[], none⟩) rfl (fun K hK => ?ok6_6) (AllReadyH.nil))
  case ok5_6 =>
   go_simp
   go_at_call 176
   refine (implJoinChain _ y.chain ((k : Int) + 1) _ ((uh HM).later zq)).mono ?_
   rintro e u ⟨us, rfl, O0, hbu⟩
   obtain ⟨a5, m5, d5, rfl, -, O, -⟩ := own_chainR_parts O0
   have hzu := hbu.size
   try go_wp2_with fail
   refine hK.out _ _ (zq.trans (hbu.mono zq.size)) (fun zq => ?_)
   clear hK K
   try simp only [Act.put, pz, py, px]
   refine rdH 6 (fun K hK => ?_)
   have hHA := zq
   go_simp
   refine hK.out _ _ (zq.alloc zq.size _) (fun zq => ?_)
   clear hK K
   try simp only [Act.put, pz, py, px]
   refine rdH 7 (fun K hK => ?_)
   go_simp
   refine hK.out _ _ (hHA.alloc hHA.size _) (fun zq => ?_)
   clear hK K
   try simp only [Act.put, pz, py, px]
   refine wpAnyH_done (by kernel_rfl) ?_ _
   refine NoPanic.normal ?_
   go_wp2_with fail
   go_meet
   have nb2 : Below u.heap.size u (u.alloc (.cells #[.int .i64 (joinR y.chain ((k : Int) + 1)).code, .int .i64 (joinR y.chain ((k : Int) + 1)).chain.epoch, .slice a5 m5 d5] 111)) := (Below.refl _ _).alloc (Nat.le_refl _) _
   have hzn : u.heap.size < (u.alloc (.cells #[.int .i64 (joinR y.chain ((k : Int) + 1)).code, .int .i64 (joinR y.chain ((k : Int) + 1)).chain.epoch, .slice a5 m5 d5] 111)).heap.size := by simp
   have hzz := hHA.size
   have OO := (show (Lay.sl Lay.int).OwnIn (u.alloc (.cells #[.int .i64 (joinR y.chain ((k : Int) + 1)).code, .int .i64 (joinR y.chain ((k : Int) + 1)).chain.epoch, .slice a5 m5 d5] 111)) [.slice a5 m5 d5] (joinR y.chain ((k : Int) + 1)).chain.ids W.heap.size (u.alloc (.cells #[.int .i64 (joinR y.chain ((k : Int) + 1)).code, .int .i64 (joinR y.chain ((k : Int) + 1)).chain.epoch, .slice a5 m5 d5] 111)).heap.size from ((O.later nb2).mono (by omega) (by omega)))
   exact ⟨_, u.heap.size, a5, m5, d5, rfl, rfl, newBox (Nat.zero_le _), OO, by omega, zq⟩
  case ok6_6 =>
   have HG : Hid (Box 0 #[.int .i64 0, .int .i64 0, .slice none 0 0] 111 (wD.alloc (.cells #[.int .i64 0, .int .i64 0, .slice none 0 0] 111)) wD.heap.size) := newBox (Nat.zero_le _)
   have hza : wD.heap.size < (wD.alloc (.cells #[.int .i64 0, .int .i64 0, .slice none 0 0] 111)).heap.size := by simp
   go_simp
   refine hK.out _ _ (zq.alloc zq.size _) (fun zq => ?_)
   clear hK K
   try simp only [Act.put, pz, py, px]
   refine rdH 5 (fun K hK => ?_)
   go_simp
   go_at_call 176
   refine (implJoinChain _ y.chain ((k : Int) + 1) _ ((uh HM).later zq)).mono ?_
   rintro e u ⟨us, rfl, O0, hbu⟩
   obtain ⟨a5, m5, d5, rfl, -, O, -⟩ := own_chainR_parts O0
   have hG := (uh HG).keep hbu
   have hzu := hbu.size
   try go_wp2_with fail
   refine hK.out _ _ (zq.trans (hbu.mono zq.size)) (fun zq => ?_)
   clear hK K
   try simp only [Act.put, pz, py, px]
   refine rdH 7 (fun K hK => ?_)
   have r0 := Box.at hG 0 _ rfl
   have r1 := Box.at hG 1 _ rfl
   have r2 := Box.at hG 2 _ rfl
   simp only [ga, gb, gc] at r0 r1 r2
   have rf := Box.soft hG
   have rl := hG.lt
   have hzD := zq.size
   go_simp
   refine hK.out _ _ (Below.setCell (Below.setCell (Below.setCell zq (p := ⟨wD.heap.size, 0, none⟩) (by simp only []; omega) (.int .i64 (joinR y.chain ((k : Int) + 1)).code)) (p := ⟨wD.heap.size, 1, none⟩) (by simp only []; omega) (.int .i64 (joinR y.chain ((k : Int) + 1)).chain.epoch)) (p := ⟨wD.heap.size, 2, none⟩) (by simp only []; omega) (.slice a5 m5 d5)) (fun zq => ?_)
   clear hK K
   try simp only [Act.put, pz, py, px]
   refine wpAnyH_done (by kernel_rfl) ?_ _
   refine NoPanic.normal ?_
   go_wp2_with fail
   go_meet
   have e1 : Ext (fun q => q = wD.heap.size) u (setAll u wD.heap.size 0 [.int .i64 (joinR y.chain ((k : Int) + 1)).code, .int .i64 (joinR y.chain ((k : Int) + 1)).chain.epoch, .slice a5 m5 d5]) := ext_setAll _ (Ext.refl _ _) _ _ _ rfl
   have hss : (setAll u wD.heap.size 0 [.int .i64 (joinR y.chain ((k : Int) + 1)).code, .int .i64 (joinR y.chain ((k : Int) + 1)).chain.epoch, .slice a5 m5 d5]).heap.size = u.heap.size := size_setAll _ _ _ _
   have hbx := (Box.set (Box.set (Box.set hG 0 (.int .i64 (joinR y.chain ((k : Int) + 1)).code)) 1 (.int .i64 (joinR y.chain ((k : Int) + 1)).chain.epoch)) 2 (.slice a5 m5 d5))
   simp only [List.setIfInBounds_toArray, List.set_cons_zero, List.set_cons_succ] at hbx
   have OO := (show (Lay.sl Lay.int).OwnIn (setAll u wD.heap.size 0 [.int .i64 (joinR y.chain ((k : Int) + 1)).code, .int .i64 (joinR y.chain ((k : Int) + 1)).chain.epoch, .slice a5 m5 d5]) [.slice a5 m5 d5] (joinR y.chain ((k : Int) + 1)).chain.ids W.heap.size (setAll u wD.heap.size 0 [.int .i64 (joinR y.chain ((k : Int) + 1)).code, .int .i64 (joinR y.chain ((k : Int) + 1)).chain.epoch, .slice a5 m5 d5]).heap.size from ((O.ext e1 (fun k h1 h2 h3 => by omega)).mono (by omega) (by omega)))
   exact ⟨_, wD.heap.size, a5, m5, d5, rfl, rfl, hbx, OO, by omega, zq⟩
 case rest =>
  obtain ⟨WC, g5, a5, m5, d5, hW, rfl, hg5, hO5, hz5, hB5⟩ := hcut
  subst hW
  have hgC := (uh HG0).keep hB5
  have hpC := (uh HP0).keep hB5
  have HGC := yh hgC
  have HPC := yh hpC
  have HB5 := yh hB5
  have HX5 : Hid (Ext (fun q => lo ≤ q) W WC) := yh ((extB_of_below hB5).mono (fun k hk q => by omega))
  have e0 := Box.at hg5 0 _ rfl
  simp only [List.getElem_toArray, List.getElem_cons_zero] at e0
  have hg5l := hg5.lt
  have hm5 := (Lay.Reads.cap hO5.reads).1
  by_cases hc : (joinR y.chain ((k : Int) + 1)).code = 0
  ·
   have HC0 : Hid ((joinR y.chain ((k : Int) + 1)).code = 0) := yh hc
   rw [hc] at e0
   have hwe : (Lit.int .i64 (joinR y.chain ((k : Int) + 1)).chain.epoch).wf = true := wf_of_bd (by have := (joinR_ok (uh HCF) hc).1; omega)
   have HWE := yh hwe
   subst hm5
   have HOC := yh (wown_chain (c := (joinR y.chain ((k : Int) + 1)).chain) (uh HO) hB5 hgl (by omega) hO5 (Nat.le_refl _) hwe)
   have HRD := yh ((uh HO).reads.later hB5)
   have HRC := yh ((uh HM).later hB5)
   have HK5 := yh hg5
   clear hgC hpC hO5 HO HG0 HP0 HM g2c g3c hp0 hgl hpl hwe hc hB5 HB5
   go_upto_region 4 with fail
   have g2 := Box.at (uh HGC) 2 _ rfl
   have g3 := Box.at (uh HGC) 3 _ rfl
   have g4 := Box.at (uh HGC) 4 _ rfl
   have hp0 := Box.at (uh HPC) 0 _ rfl
   simp only [ga, gb, gc] at g2 g3 g4 hp0
   have hgl := (uh HGC).lt
   have hpl := (uh HPC).lt
   have hw1 : IntKind.i64.wrap (k : Int) = (k : Int) := by
    rw [IntKind.wrap_i64]
    omega
   have hki : (k : Int) < (y.nodes.length : Int) := by omega
   have hki0 : (0 : Int) ≤ (k : Int) := by omega
   clear e0 hg5 hg5l
   refine wp_region_noPanic ?_
   refine wp_region_held_drew (S := fun w' => Below WC.heap.size WC w') (by kernel_rfl) ((Below.refl _ _).drew) (fun zq => ?_)
   generalize WC.drew = wD at zq ⊢
   refine tkH 0 zq ?_
   refine tkH 1 zq ?_
   refine tkH 2 zq ?_
   refine tkJ 3 (v := ?vb3) ?hb3 zq ?rb3
   case hb3 =>
    intro wS hSw
    have q4 := (hSw.cell (p := ⟨g, 4, none⟩) hgl).trans g4
    clear hSw
    (try dsimp only at hSw)
    go_simp
    try with_reducible rfl
   refine tkJ 4 (v := ?vb4) ?hb4 zq ?rb4
   case hb4 =>
    intro wS hSw
    have q0 := (hSw.cell (p := ⟨p, 0, none⟩) hpl).trans hp0
    clear hSw
    (try dsimp only at hSw)
    go_simp
    try with_reducible rfl
   refine tkH 5 zq ?_
   refine tkH 6 zq ?_
   refine tkH 7 zq ?_
   refine tkH 8 zq ?_
   refine tkH 9 zq ?_
   refine tkJ 10 (v := ?vb10) ?hb10 zq ?rb10
   case hb10 =>
    intro wS hSw
    have q2 := (hSw.cell (p := ⟨g, 2, none⟩) hgl).trans g2
    have q3 := (hSw.cell (p := ⟨g, 3, none⟩) hgl).trans g3
    clear hSw
    (try dsimp only at hSw)
    go_simp
    try with_reducible rfl
   refine rdH 11 (fun K hK => ?_)
   go_simp
   go_at_call 177
   refine (tailOfC _ y.chain _ ((uh HRC).later zq) j (uh HJ) (uh HJ5)).mono ?_
   rintro e u ⟨rfl, hbu⟩
   rw [uh HTI]
   try go_wp2_with fail
   refine hK.out _ _ (zq.trans (hbu.mono zq.size)) (fun zq => ?_)
   clear hK K
   try simp only [Act.put, pz, py, px]
   refine tkH 12 zq ?_
   refine tkH 13 zq ?_
   refine wpAnyH_done (by kernel_rfl) ?_ _
   refine NoPanic.normal ?_
   have HU := yh zq
   have HG := yh ((uh HGC).keep zq)
   have HO := yh ((uh HOC).later zq)
   have HK := yh ((uh HK5).keep zq)
   replace HRD := yh ((uh HRD).later zq)
   have hz4 := zq.size
   clear zq hbu HGC HOC HK5 HPC HRC g2 g3 g4 hp0 hgl hpl
   obtain ⟨_, _, _, _, _, _, _, _, hq, -, RN, -, -⟩ := open_World (uh HRD)
   simp only [List.cons.injEq, Value.slice.injEq, and_true, true_and] at hq
   obtain ⟨-, ⟨rfl, rfl⟩, -, -⟩ := hq
   obtain ⟨row, hcl, hr⟩ := Lay.row_at RN hk
   obtain ⟨an, dn, rfl, -⟩ := open_Node hr
   have x1 : u.cell? ⟨b, off + k * 7 + 1, none⟩ = some (.bool y.nodes[k].up) := hcl 1 (by decide)
   clear RN hcl hr
   have HLM := yh (isMemberC _ y ((kt : Int) + 1) u (uh HRD) (uh HI) hn5)
   have HMB : Hid (canJoin y ((k : Int) + 1) = (y.nodes[k].up && memberW y ((kt : Int) + 1))) := by
    show canJoin y _ = _
    rw [canJoin, nodeOf_at hk, memberW_eq, uh HT]
   have g0 := Box.at (uh HG) 0 _ rfl
   have g1 := Box.at (uh HG) 1 _ rfl
   have g2 := Box.at (uh HG) 2 _ rfl
   have g3 := Box.at (uh HG) 3 _ rfl
   have g4 := Box.at (uh HG) 4 _ rfl
   have g5 := Box.at (uh HG) 5 _ rfl
   have g6 := Box.at (uh HG) 6 _ rfl
   simp only [ga, gb, gc] at g0 g1 g2 g3 g4 g5 g6
   have hgl := (uh HG).lt
   cases hup : y.nodes[k].up
   ·
    rw [hup] at x1
    have HC : Hid (joinC y ((k : Int) + 1) = 10) := by
     show joinC y _ = 10
     rw [joinC, if_neg (by rw [uh HC0]; decide), uh HMB, hup]
     rfl
    clear hup HLM
    have HX9 := yh ((uh HX5).trans (ext_of_below (uh HU) _))
    go_wp2_with fail
    go_ret2
    exact ⟨false, by rw [uh HC]; rfl, fun h0 => by rw [uh HC] at h0; simp at h0, uh HX9⟩
   rw [hup] at x1
   have HUP := yh hup
   clear hup
   go_wp2_with fail
   refine (uh HLM).mono ?_
   rintro e u2 ⟨rfl, hb6⟩
   clear g0 g1 g2 g3 g4 g5 g6 hgl x1 HLM
   cases hmb : memberW y ((kt : Int) + 1)
   ·
    have HC : Hid (joinC y ((k : Int) + 1) = 10) := by
     show joinC y _ = 10
     rw [joinC, if_neg (by rw [uh HC0]; decide), uh HMB, uh HUP, hmb]
     rfl
    clear hmb
    have HX9 := yh ((uh HX5).trans (ext_of_below ((uh HU).trans (hb6.mono (uh HU).size)) _))
    clear hb6
    go_wp2_with fail
    go_ret2
    exact ⟨false, by rw [uh HC]; rfl, fun h0 => by rw [uh HC] at h0; simp at h0, uh HX9⟩
   have HC : Hid (joinC y ((k : Int) + 1) = 0) := by
    show joinC y _ = 0
    rw [joinC, if_neg (by rw [uh HC0]; decide), uh HMB, uh HUP, hmb]
    rfl
   clear hmb
   replace HG := yh ((uh HG).keep hb6)
   replace HO := yh ((uh HO).later hb6)
   replace HK := yh ((uh HK).keep hb6)
   replace HRD := yh ((uh HRD).later hb6)
   replace HU := yh ((uh HU).trans (hb6.mono (uh HU).size))
   have hz6 := hb6.size
   clear hb6
   go_upto_region 7 with fail
   obtain ⟨b', off', d4', an, dn, e4, hb1, hb2, hb3, hR0, hwf, -, -⟩ := wown_upd (y := withChain y (joinR y.chain ((k : Int) + 1)).chain) (uh HO) hk
   simp only [Value.slice.injEq, Option.some.injEq, Addr.mk.injEq, and_true] at e4
   obtain ⟨⟨rfl, rfl⟩, -, rfl⟩ := e4
   obtain ⟨_, _, _, _, _, _, _, _, hq, -, RN, -, -⟩ := open_World (uh HRD)
   simp only [List.cons.injEq, Value.slice.injEq, and_true, true_and] at hq
   obtain ⟨-, ⟨rfl, rfl⟩, -, -⟩ := hq
   obtain ⟨rowt, hclt, hrt⟩ := Lay.row_at RN hkt
   have hrt0 := hrt
   obtain ⟨at', dt, rfl, -⟩ := open_Node hrt
   have t0 : u2.cell? ⟨b, off + kt * 7, none⟩ = some (.int .i64 y.nodes[kt].id) := hclt 0 (by decide)
   have t1 : u2.cell? ⟨b, off + kt * 7 + 1, none⟩ = some (.bool y.nodes[kt].up) := hclt 1 (by decide)
   have t2 : u2.cell? ⟨b, off + kt * 7 + 2, none⟩ = some (.int .i64 y.nodes[kt].epoch) := hclt 2 (by decide)
   have t3 : u2.cell? ⟨b, off + kt * 7 + 3, none⟩ = some (.int .i64 y.nodes[kt].lease) := hclt 3 (by decide)
   have t4 : u2.cell? ⟨b, off + kt * 7 + 4, none⟩ = some (.slice at' y.nodes[kt].writes.length dt) := hclt 4 (by decide)
   have t5 : u2.cell? ⟨b, off + kt * 7 + 5, none⟩ = some (.int .i64 y.nodes[kt].sure) := hclt 5 (by decide)
   have t6 : u2.cell? ⟨b, off + kt * 7 + 6, none⟩ = some (.int .i64 y.nodes[kt].clean) := hclt 6 (by decide)
   have hnt := uh HNO
   have HTK := yh (takeOverC b (off + k * 7) an dn y.nodes[k] y.nodes[kt] _ u2 hR0 hrt0 hnt.sure hnt.len (node_bounds (uh HNF)).2)
   have HWF : Hid (wfN y.nodes[k]) := hwf
   have g4 := Box.at (uh HG) 4 _ rfl
   simp only [ga, gb, gc] at g4
   have hgl := (uh HG).lt
   have hwt : IntKind.i64.wrap (kt : Int) = (kt : Int) := by
    rw [IntKind.wrap_i64]
    omega
   have hkit : (kt : Int) < (y.nodes.length : Int) := by omega
   have hkit0 : (0 : Int) ≤ (kt : Int) := by omega
   clear hR0 RN hclt hrt hrt0 hwf hnt
   go_wp2_with fail
   refine (uh HTK).mono ?_
   rintro e u3 ⟨rfl, m, Wm, aw, dw, hmt, hbm, Ow, hRw⟩
   clear HTK t0 t1 t2 t3 t4 t5 t6 g4 hgl
   have hzm := hbm.size
   have hOm := (uh HO).later hbm
   obtain ⟨blw, Ow1, Ow2⟩ := Ow
   have hsm : y.nodes[kt].sure = (m : Int) := by have := (uh HNO).sure; omega
   have hlw : (y.nodes[kt].writes.take m).length = m := by have := (uh HNO).sure; rw [List.length_take]; omega
   have hRN : Lay.tNode.OwnIn Wm [.int .i64 y.nodes[k].id, .bool y.nodes[k].up, .int .i64 y.nodes[k].epoch, .int .i64 0, .slice aw m dw, .int .i64 (m : Int), .int .i64 (m : Int)] (tookN y.nodes[k] y.nodes[kt]) u2.heap.size Wm.heap.size := by
    have hw5 : (Lit.int .i64 (m : Int)).wf = true := wf_of_bd (by have := (uh HNO).sure; have := (uh HNO).len; omega)
    have := mkOwn_Node (x := ⟨y.nodes[k].id, y.nodes[k].up, y.nodes[k].epoch, 0, y.nodes[kt].writes.take m, (m : Int), (m : Int)⟩) Ow1 (uh HWF).1 (uh HWF).2.1 (show (Lit.int .i64 0).wf = true by decide) hw5 hw5 Ow1.2.1
    refine ⟨blw, ?_, Ow2⟩
    rw [tookN, hmt, hsm]
    exact this
   obtain ⟨b', off', d4', row0, e4, -, -, -, -, -, hput⟩ := wown_put (y := withChain y (joinR y.chain ((k : Int) + 1)).chain) (uh HO) hbm (uh HG).lt hRN hk
   simp only [Value.slice.injEq, Option.some.injEq, Addr.mk.injEq, and_true] at e4
   obtain ⟨⟨rfl, rfl⟩, -, rfl⟩ := e4
   have hO3 := hput u3 hRw
   have hE3 : Ext (fun q => q = b) Wm u3 := hRw.ext.mono (fun k _ q => by rcases q with q | q; exact q; cases q)
   have hz3 := hE3.size
   have HG3 := yh (((uh HG).keep hbm).ext hE3 (fun e => hb3 e.symm))
   have HK3 := yh (((uh HK).keep hbm).ext hE3 (by omega))
   have HXu := yh ((((uh HX5).trans (ext_of_below (uh HU) _)).trans (ext_of_below hbm _)).trans (hE3.mono (fun q _ e => by rw [e]; exact hbL)))
   have hlen : (setN (withChain y (joinR y.chain ((k : Int) + 1)).chain) k (tookN y.nodes[k] y.nodes[kt])).nodes.length = y.nodes.length := by show (y.nodes.set k _).length = _; rw [List.length_set]
   have hat : ∀ i (h : i < (setN (withChain y (joinR y.chain ((k : Int) + 1)).chain) k (tookN y.nodes[k] y.nodes[kt])).nodes.length), ∃ h' : i < y.nodes.length, (setN (withChain y (joinR y.chain ((k : Int) + 1)).chain) k (tookN y.nodes[k] y.nodes[kt])).nodes[i].id = y.nodes[i].id ∧ (setN (withChain y (joinR y.chain ((k : Int) + 1)).chain) k (tookN y.nodes[k] y.nodes[kt])).nodes[i].epoch = y.nodes[i].epoch ∧ ((setN (withChain y (joinR y.chain ((k : Int) + 1)).chain) k (tookN y.nodes[k] y.nodes[kt])).nodes[i].lease = y.nodes[i].lease ∨ (setN (withChain y (joinR y.chain ((k : Int) + 1)).chain) k (tookN y.nodes[k] y.nodes[kt])).nodes[i].lease = 0) := by
    intro i h
    have h' : i < y.nodes.length := by rw [← hlen]; exact h
    refine ⟨h', ?_⟩
    have e : (setN (withChain y (joinR y.chain ((k : Int) + 1)).chain) k (tookN y.nodes[k] y.nodes[kt])).nodes[i] = if k = i then tookN y.nodes[k] y.nodes[kt] else y.nodes[i] := List.getElem_set _
    rw [e]
    by_cases q : k = i
    ·
     subst q
     rw [if_pos rfl]
     exact ⟨rfl, rfl, Or.inr rfl⟩
    rw [if_neg q]
    exact ⟨rfl, rfl, Or.inl rfl⟩
   have HCI := yh (joinR_ok (uh HCF) (uh HC0))
   have HI9 : Hid (∀ z ∈ (setN (withChain y (joinR y.chain ((k : Int) + 1)).chain) k (tookN y.nodes[k] y.nodes[kt])).chain.ids, nodeIn (setN (withChain y (joinR y.chain ((k : Int) + 1)).chain) k (tookN y.nodes[k] y.nodes[kt])) z = true) := fun z hz => by
    rcases (uh HCI).2.1 z hz with q | q
    ·
     have := uh HI z q
     unfold nodeIn at this ⊢
     rw [hlen]
     exact this
    unfold nodeIn
    rw [hlen, q]
    simp
    omega
   have HL := yh (installC g lo a5 d5 y.chain.epoch (.slice a3 y.chain.ids.length d3) _ v5 v6 (setN (withChain y (joinR y.chain ((k : Int) + 1)).chain) k (tookN y.nodes[k] y.nodes[kt])) u3 (uh HG3) hlo hO3 (uh HI9) (by rw [hlen]; omega) (by rw [hlen]; exact hn5) (fun i h => by obtain ⟨h', e1, -, -⟩ := hat i h; rw [e1]; exact uh HID i h') (fun i h => by obtain ⟨h', -, e2, e3⟩ := hat i h; have := uh HES i h'; rw [e2]; refine ⟨this.1, ?_⟩; rcases e3 with e3 | e3 <;> rw [e3]; exact this.2; omega) (uh HCI).1 (uh HCI).2.2)
   have k1 := Box.at (uh HK3) 1 _ rfl
   have k2 := Box.at (uh HK3) 2 _ rfl
   simp only [ga, gb, gc] at k1 k2
   have kl := (uh HK3).lt
   have hzz : Hid (joined y ((k : Int) + 1) = instPW (setN (withChain y (joinR y.chain ((k : Int) + 1)).chain) k (tookN y.nodes[k] y.nodes[kt])) (joinR y.chain ((k : Int) + 1)).chain.ids) := by
    show joined y _ = _
    rw [joined, uh HT, nodeOf_at hk, nodeOf_at hkt, putNode_eq (k := k) (show (tookN y.nodes[k] y.nodes[kt]).id = (k : Int) + 1 from uh HID k hk)]
    rfl
   clear hOm Ow1 Ow2 hRN hput hO3 hE3 hbm hRw HO HG HK HG3 HK3 hat HI9 HCI HRD
   go_upto_region 8 with fail
   go_wp2_with fail
   refine (uh HL).mono ?_
   rintro e W9 ⟨rfl, hg9, hO9, hX9⟩
   have HG9 := yh hg9
   have HO9 := yh hO9
   have HX9 := yh ((uh HXu).trans hX9)
   clear hg9 hO9 hX9 HL k1 k2 kl
   go_wp2_with fail
   go_ret2
   refine ⟨true, by rw [uh HC]; rfl, fun _ => ⟨rfl, ?_⟩, uh HX9⟩
   rw [uh hzz]
   exact ⟨_, _, _, _, uh HG9, uh HO9⟩
  have hd : ((joinR y.chain ((k : Int) + 1)).code != 0) = true := by simpa using hc
  have HC : Hid (joinC y ((k : Int) + 1) = (joinR y.chain ((k : Int) + 1)).code) := if_pos hc
  clear HGC HPC HB5 hB5 hg5 hO5 hgC hpC
  go_upto_region 3 with fail
  go_quiet (fail)
  go_wp2_with fail
  go_ret2
  exact ⟨false, by rw [uh HC]; rfl, fun h0 => absurd h0 (by rw [uh HC]; exact hc), (uh HX5).drew _⟩
theorem joinMake (id : Int) (w : World) :
  Calls Tryz.prog 94 #[.int .i64 id] w fun e w' => e = .returned (.func (.func 175) #[] #[.pointer (some ⟨w.heap.size, 0, none⟩)]) ∧ w' = (w.alloc (.cells #[.int .i64 id] 2)) := by
 have hmf : ∀ (fn : Fn) (first cap : Array Value) (w : World), (Instr.makeFunc fn first cap).run Tryz.prog w = .ok (.func fn first cap) w := fun _ _ _ _ => rfl
 go_enter Tryz.func94, Tryz.ntmps94
 go_wp2_with fail
 go_ret
 exact ⟨rfl, rfl⟩
theorem implJoinWorld (cs : List Value) (x : DWorld) (id : Int) (w : World) (h : Lay.tWorld.Reads w cs x) (hf : Fits x) :
  Calls Tryz.prog 33 #[.agg cs.toArray, .int .i64 id] w fun e w' => ∃ cs', e = .returned (.agg cs'.toArray) ∧ Lay.tWorldResult.OwnIn w' cs' (joinWR x id) w.heap.size w'.heap.size ∧ Below w.heap.size w w' := by
 obtain ⟨a3, d3, a4, d4, a5, d5, a6, d6, rfl, -, -, -, -⟩ := open_World h
 have nb1 : Below w.heap.size w (w.alloc (.cells #[.int .i64 x.now, .int .i64 x.events, .int .i64 x.chain.epoch, .slice a3 x.chain.ids.length d3, .slice a4 x.nodes.length d4, .slice a5 x.msgs.length d5, .slice a6 x.history.length d6] 36)) := (Below.refl _ _).alloc (Nat.le_refl _) _
 have nb : Below w.heap.size w ((w.alloc (.cells #[.int .i64 x.now, .int .i64 x.events, .int .i64 x.chain.epoch, .slice a3 x.chain.ids.length d3, .slice a4 x.nodes.length d4, .slice a5 x.msgs.length d5, .slice a6 x.history.length d6] 36)).alloc (.cells #[.int .i64 0, .bool false, .int .i64 0, .int .i64 0, .int .i64 0, .slice none 0 0, .slice none 0 0, .slice none 0 0, .slice none 0 0] 38)) := nb1.alloc (by simp) _
 have HX : Hid (Box 0 #[.int .i64 x.now, .int .i64 x.events, .int .i64 x.chain.epoch, .slice a3 x.chain.ids.length d3, .slice a4 x.nodes.length d4, .slice a5 x.msgs.length d5, .slice a6 x.history.length d6] 36 ((w.alloc (.cells #[.int .i64 x.now, .int .i64 x.events, .int .i64 x.chain.epoch, .slice a3 x.chain.ids.length d3, .slice a4 x.nodes.length d4, .slice a5 x.msgs.length d5, .slice a6 x.history.length d6] 36)).alloc (.cells #[.int .i64 0, .bool false, .int .i64 0, .int .i64 0, .int .i64 0, .slice none 0 0, .slice none 0 0, .slice none 0 0, .slice none 0 0] 38)) w.heap.size) := (newBox (Nat.zero_le _)).grow _
 have HY : Hid (Box 0 #[.int .i64 0, .bool false, .int .i64 0, .int .i64 0, .int .i64 0, .slice none 0 0, .slice none 0 0, .slice none 0 0, .slice none 0 0] 38 ((w.alloc (.cells #[.int .i64 x.now, .int .i64 x.events, .int .i64 x.chain.epoch, .slice a3 x.chain.ids.length d3, .slice a4 x.nodes.length d4, .slice a5 x.msgs.length d5, .slice a6 x.history.length d6] 36)).alloc (.cells #[.int .i64 0, .bool false, .int .i64 0, .int .i64 0, .int .i64 0, .slice none 0 0, .slice none 0 0, .slice none 0 0, .slice none 0 0] 38)) (w.heap.size + 1)) := newBoxAt (Nat.zero_le _) (by simp)
 have hz0 : ((w.alloc (.cells #[.int .i64 x.now, .int .i64 x.events, .int .i64 x.chain.epoch, .slice a3 x.chain.ids.length d3, .slice a4 x.nodes.length d4, .slice a5 x.msgs.length d5, .slice a6 x.history.length d6] 36)).alloc (.cells #[.int .i64 0, .bool false, .int .i64 0, .int .i64 0, .int .i64 0, .slice none 0 0, .slice none 0 0, .slice none 0 0, .slice none 0 0] 38)).heap.size = w.heap.size + 2 := by simp
 have HR := yh (h.later nb)
 have HB := yh nb
 have HFT := yh hf
 clear nb1 nb h hf
 go_enter Tryz.func33, Tryz.ntmps33
 go_upto_region 1 with fail
 generalize (w.alloc (.cells #[.int .i64 x.now, .int .i64 x.events, .int .i64 x.chain.epoch, .slice a3 x.chain.ids.length d3, .slice a4 x.nodes.length d4, .slice a5 x.msgs.length d5, .slice a6 x.history.length d6] 36)).alloc (.cells #[.int .i64 0, .bool false, .int .i64 0, .int .i64 0, .int .i64 0, .slice none 0 0, .slice none 0 0, .slice none 0 0, .slice none 0 0] 38) = W1 at *
 have LI : Hid (∀ V, Below W1.heap.size W1 V → Calls Tryz.prog 71 #[.agg #[.int .i64 x.now, .int .i64 x.events, .int .i64 x.chain.epoch, .slice a3 x.chain.ids.length d3, .slice a4 x.nodes.length d4, .slice a5 x.msgs.length d5, .slice a6 x.history.length d6], .int .i64 id] V fun e w' => e = .returned (.int .i64 (idFaultR x id)) ∧ Below V.heap.size V w') := fun V hV => idFaultC _ x id V ((uh HR).later hV)
 have LS : Hid (∀ V, Below W1.heap.size W1 V → Calls Tryz.prog 70 #[.agg #[.int .i64 x.now, .int .i64 x.events, .int .i64 x.chain.epoch, .slice a3 x.chain.ids.length d3, .slice a4 x.nodes.length d4, .slice a5 x.msgs.length d5, .slice a6 x.history.length d6], .int .i64 (idFaultR x id), .func (.func 175) #[] #[.pointer (some ⟨V.heap.size, 0, none⟩)]] (V.alloc (.cells #[.int .i64 id] 2)) fun e w' => ∃ cs', e = .returned (.agg cs'.toArray) ∧ Lay.tWorldResult.OwnIn w' cs' (joinWR x id) V.heap.size w'.heap.size ∧ Below V.heap.size V w') := by
  intro V hV
  have nv : Below V.heap.size V (V.alloc (.cells #[.int .i64 id] 2)) := (Below.refl _ _).alloc (Nat.le_refl _) _
  refine (steppedC 175 _ _ x (idFaultR x id) (joinC (nextW x) id) true (joined (nextW x) id) _ (fun a W => rfl) ((uh HR).later (hV.trans (nv.mono hV.size))) (fun h0 => worldFault_zero (idFault_zero h0).1) (uh HFT) (joinC_bd _ _) (idFault_bd x id) (fun h0 W hW => ?_)).mono ?_
  ·
   obtain ⟨h1, h2⟩ := idFault_zero h0
   have hok := worldFault_zero h1
   obtain ⟨k, hk, rfl⟩ := nodeIn_at h2
   have hn := hok.nodes k hk
   try rw [nodeOf_at hk]
   obtain ⟨kt, hkt, het⟩ := tail_at hok
   exact joinStepC _ k kt (V.heap.size) (nextW x) W (Box.keep (newBox (Nat.zero_le _)) hW) (by simp) hk hkt het (hok.nodes kt hkt).1 hok.some.2 hok.ids (fun i h => (hok.nodes i h).2.1) (fun i h => ⟨(nodeFault_zero (hok.nodes i h).1).epoch, (nodeFault_zero (hok.nodes i h).1).lease⟩) hok.chain
  rintro e w' ⟨cs', rfl, O, hb⟩
  rw [joinW_eq] at O
  exact ⟨cs', rfl, O.mono nv.size (Nat.le_refl _), nv.trans (hb.mono nv.size)⟩
 have hx := uh HX
 have hxl := hx.lt
 have HD : Hid (Below W1.heap.size W1 W1.drew) := (Below.refl _ _).drew
 replace HY : Hid (Box 0 #[.int .i64 0, .bool false, .int .i64 0, .int .i64 0, .int .i64 0, .slice none 0 0, .slice none 0 0, .slice none 0 0, .slice none 0 0] 38 W1.drew (w.heap.size + 1)) := (uh HY)
 refine wp_region_noPanic ?_
 refine wp_region_held_drew (S := fun w' => Ext (fun q => w.heap.size < q) W1 w') (by kernel_rfl) ((Ext.refl _ _).drew 1) (fun zq => ?_)
 generalize W1.drew = wD at zq HD HY ⊢
 refine tkJ 0 (v := ?vf0) ?hf0 zq ?rf0
 case hf0 =>
  intro wS hSw
  have bS := hx.ext hSw (fun e => Nat.lt_irrefl _ e)
  have q0 := Box.at bS 0 _ rfl
  have q1 := Box.at bS 1 _ rfl
  have q2 := Box.at bS 2 _ rfl
  have q3 := Box.at bS 3 _ rfl
  have q4 := Box.at bS 4 _ rfl
  have q5 := Box.at bS 5 _ rfl
  have q6 := Box.at bS 6 _ rfl
  simp only [ga, gb, gc] at q0 q1 q2 q3 q4 q5 q6
  clear bS hSw
  (try dsimp only at hSw)
  go_simp
  try with_reducible rfl
 refine tkJ 1 (v := ?vf1) ?hf1 zq ?rf1
 case hf1 =>
  intro wS hSw
  have bS := hx.ext hSw (fun e => Nat.lt_irrefl _ e)
  have q0 := Box.at bS 0 _ rfl
  have q1 := Box.at bS 1 _ rfl
  have q2 := Box.at bS 2 _ rfl
  have q3 := Box.at bS 3 _ rfl
  have q4 := Box.at bS 4 _ rfl
  have q5 := Box.at bS 5 _ rfl
  have q6 := Box.at bS 6 _ rfl
  simp only [ga, gb, gc] at q0 q1 q2 q3 q4 q5 q6
  clear bS hSw
  (try dsimp only at hSw)
  go_simp
  try with_reducible rfl
 refine tkH 2 zq ?_
 refine tkH 4 zq ?_
 refine rdH 3 (fun K hK => ?_)
 go_simp
 go_at_call 71
 refine (uh LI _ (uh HD)).mono ?_
 rintro e u1 ⟨rfl, hb1⟩
 have HD1 := yh ((uh HD).trans (hb1.mono (uh HD).size))
 have HY1 := yh ((uh HY).keep hb1)
 try go_wp2_with fail
 have hH1 := zq.trans (ext_of_below hb1 (fun q => w.heap.size < q))
 refine hK.out _ _ (zq.trans (ext_of_below hb1 _)) (fun zq => ?_)
 clear hK K
 try simp only [Act.put, pz, py, px]
 refine rdH 5 (fun K hK => ?_)
 go_simp
 go_at_call 94
 refine (joinMake id _).mono ?_
 rintro e u2 ⟨rfl, rfl⟩
 try go_wp2_with fail
 refine hK.out _ _ (zq.trans (ext_of_below ((Below.refl _ _).alloc (Nat.le_refl _) _) _)) (fun zq => ?_)
 clear hK K
 try simp only [Act.put, pz, py, px]
 refine rdH 6 (fun K hK => ?_)
 go_simp
 go_at_call 70
 refine (uh LS u1 (uh HD1)).mono ?_
 rintro e u3 ⟨cs, rfl, O, hb3⟩
 obtain ⟨a5r, d5r, a6r, d6r, a7r, d7r, a8r, d8r, rfl, -⟩ := open_WorldResult O.reads
 have hy := (uh HY1).keep hb3
 try go_wp2_with fail
 refine hK.out _ _ (hH1.trans (ext_of_below hb3 _)) (fun zq => ?_)
 clear hK K
 try simp only [Act.put, pz, py, px]
 refine rdH 7 (fun K hK => ?_)
 generalize hyr : joinWR x id = yr at *
 have HYR := yh hyr
 clear hyr
 have r0 := Box.at hy 0 _ rfl
 have r1 := Box.at hy 1 _ rfl
 have r2 := Box.at hy 2 _ rfl
 have r3 := Box.at hy 3 _ rfl
 have r4 := Box.at hy 4 _ rfl
 have r5 := Box.at hy 5 _ rfl
 have r6 := Box.at hy 6 _ rfl
 have r7 := Box.at hy 7 _ rfl
 have r8 := Box.at hy 8 _ rfl
 simp only [ga, gb, gc] at r0 r1 r2 r3 r4 r5 r6 r7 r8
 have rf := Box.soft hy
 have rl := hy.lt
 go_simp
 refine hK.out _ _ (Ext.setCell (Ext.setCell (Ext.setCell (Ext.setCell (Ext.setCell (Ext.setCell (Ext.setCell (Ext.setCell (Ext.setCell zq ⟨w.heap.size + 1, 0, none⟩ (.int .i64 yr.code) (Nat.lt_succ_self _)) ⟨w.heap.size + 1, 1, none⟩ (.bool yr.moved) (Nat.lt_succ_self _)) ⟨w.heap.size + 1, 2, none⟩ (.int .i64 yr.world.now) (Nat.lt_succ_self _)) ⟨w.heap.size + 1, 3, none⟩ (.int .i64 yr.world.events) (Nat.lt_succ_self _)) ⟨w.heap.size + 1, 4, none⟩ (.int .i64 yr.world.chain.epoch) (Nat.lt_succ_self _)) ⟨w.heap.size + 1, 5, none⟩ (.slice a5r yr.world.chain.ids.length d5r) (Nat.lt_succ_self _)) ⟨w.heap.size + 1, 6, none⟩ (.slice a6r yr.world.nodes.length d6r) (Nat.lt_succ_self _)) ⟨w.heap.size + 1, 7, none⟩ (.slice a7r yr.world.msgs.length d7r) (Nat.lt_succ_self _)) ⟨w.heap.size + 1, 8, none⟩ (.slice a8r yr.world.history.length d8r) (Nat.lt_succ_self _)) (fun zq => ?_)
 clear hK K
 try simp only [Act.put, pz, py, px]
 refine wpAnyH_done (by kernel_rfl) ?_ _
 refine NoPanic.normal ?_
 have hy9 := box_set9W hy (.int .i64 yr.code) (.bool yr.moved) (.int .i64 yr.world.now) (.int .i64 yr.world.events) (.int .i64 yr.world.chain.epoch) (.slice a5r yr.world.chain.ids.length d5r) (.slice a6r yr.world.nodes.length d6r) (.slice a7r yr.world.msgs.length d7r) (.slice a8r yr.world.history.length d8r)
 have e2 : Ext (fun q => q = w.heap.size + 1) u3 (setAll u3 (w.heap.size + 1) 0 [.int .i64 yr.code, .bool yr.moved, .int .i64 yr.world.now, .int .i64 yr.world.events, .int .i64 yr.world.chain.epoch, .slice a5r yr.world.chain.ids.length d5r, .slice a6r yr.world.nodes.length d6r, .slice a7r yr.world.msgs.length d7r, .slice a8r yr.world.history.length d8r]) := ext_setAll _ (Ext.refl _ _) _ _ _ rfl
 have hs1 := hb1.size
 have hs2 := (uh HB).size
 have hs3 := (uh HD).size
 have HO := yh (O.ext e2 (fun q h1 h2 h3 => by omega))
 have HB9 := yh (below_setAll (((uh HB).trans ((uh HD1).mono (uh HB).size)).trans (hb3.mono (by omega))) (w.heap.size + 1) 0 [.int .i64 yr.code, .bool yr.moved, .int .i64 yr.world.now, .int .i64 yr.world.events, .int .i64 yr.world.chain.epoch, .slice a5r yr.world.chain.ids.length d5r, .slice a6r yr.world.nodes.length d6r, .slice a7r yr.world.msgs.length d7r, .slice a8r yr.world.history.length d8r] (by omega))
 have hsz : Hid ((setAll u3 (w.heap.size + 1) 0 [.int .i64 yr.code, .bool yr.moved, .int .i64 yr.world.now, .int .i64 yr.world.events, .int .i64 yr.world.chain.epoch, .slice a5r yr.world.chain.ids.length d5r, .slice a6r yr.world.nodes.length d6r, .slice a7r yr.world.msgs.length d7r, .slice a8r yr.world.history.length d8r]).heap.size = u3.heap.size) := size_setAll _ _ _ _
 clear r0 r1 r2 r3 r4 r5 r6 r7 r8 rf rl
 have r0 := Box.at hy9 0 _ rfl
 have r1 := Box.at hy9 1 _ rfl
 have r2 := Box.at hy9 2 _ rfl
 have r3 := Box.at hy9 3 _ rfl
 have r4 := Box.at hy9 4 _ rfl
 have r5 := Box.at hy9 5 _ rfl
 have r6 := Box.at hy9 6 _ rfl
 have r7 := Box.at hy9 7 _ rfl
 have r8 := Box.at hy9 8 _ rfl
 simp only [ga, gb, gc] at r0 r1 r2 r3 r4 r5 r6 r7 r8
 clear hy hy9 zq e2 O hb3 hb1
 go_wp2_with fail
 refine bodyPost_ret (v := .agg #[.int .i64 yr.code, .bool yr.moved, .int .i64 yr.world.now, .int .i64 yr.world.events, .int .i64 yr.world.chain.epoch, .slice a5r yr.world.chain.ids.length d5r, .slice a6r yr.world.nodes.length d6r, .slice a7r yr.world.msgs.length d7r, .slice a8r yr.world.history.length d8r]) (by simp only [setAll] at r0 r1 r2 r3 r4 r5 r6 r7 r8; simp [results, Tryz.results33, go_sem, r0, r1, r2, r3, r4, r5, r6, r7, r8]) rfl ?_
 rw [uh HYR]
 exact ⟨_, rfl, (uh HO).mono (by omega) (Nat.le_of_eq (uh hsz).symm), uh HB9⟩
theorem lawJoinWorld (cs : List Value) (x : DWorld) (id : Int) (w : World) (h : Lay.tWorld.Reads w cs x) :
  Calls Tryz.prog 8 #[.agg cs.toArray, .int .i64 id] w fun e w' => e = .returned (.bool true) ∧ Below w.heap.size w w' := by
 by_cases hn : Lay.tWorld.sz x ≤ 1048576
 ·
  refine lawx_JoinWorld cs x id (joinWR x id) w h hn (fun W a ha => specJoinWorld a x id W ha (fits_of_sz hn)) (fun W a ha => implJoinWorld a x id W ha (fits_of_sz hn)) (joinWR_few hn)
 exact lawover_JoinWorld cs x id w h (by omega)
end Go.Proofs.YtoanimpijfijgaaGreat
