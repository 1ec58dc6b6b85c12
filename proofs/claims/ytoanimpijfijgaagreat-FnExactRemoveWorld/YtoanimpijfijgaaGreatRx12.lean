/-
  Texts of this proof in one: SpecRemW, WorldChain, WorldUpd, FloatNat, Clock, ImplClock, ImplInst, IntConcat, ImplChanged, ImplCutC, ImplRemS.
  Their conditions stand in their theorems.
-/
import Derived.Test.YtoanimpijfijgaaGreatRx11
import Derived.Deep.RegionHeld3
import Derived.Test.YtoanimpijfijgaaGreatRx00
import Derived.Test.YtoanimpijfijgaaGreatRx06
import Derived.Test.YtoanimpijfijgaaGreatRx03
import Derived.Test.YtoanimpijfijgaaGreatRx01
import Derived.Laws.ComplexArith
import Derived.Test.YtoanimpijfijgaaGreatChecked
import Derived.Deep.CutRange
import Derived.Test.YtoanimpijfijgaaGreatRx05
import Derived.Lib.AppendZerosOnto
import Derived.BigQuiet
import Derived.Deep.QuietTactic
import Derived.WalkSmall
import Derived.Test.YtoanimpijfijgaaGreatRx08
set_option maxRecDepth 100000
set_option maxHeartbeats 4000000
namespace Go.Proofs.YtoanimpijfijgaaGreat
open Go.RowKit
theorem specRemoveWorld (cs : List Value) (x : DWorld) (id : Int) (w : World) (h : Lay.tWorld.Reads w cs x) (hf : Fits x) :
  Calls Tryz.prog 30 #[.agg cs.toArray, .int .i64 id] w fun e w' => ∃ cs', e = .returned (.agg cs'.toArray) ∧ Lay.tWorldResult.Reads w' cs' (removeWR x id) ∧ Below w.heap.size w w' := by
 have HP : Hid (removeWR x id = if askedW x id ≠ 0 then badWorld (askedW x id) else if (cutR x.chain id).code ≠ 0 then badWorld (cutR x.chain id).code else if leasedB x id = true then badWorld 9 else ⟨0, true, instPW (withChain (nextW x) (cutR x.chain id).chain) (cutR x.chain id).chain.ids⟩) := rfl
 obtain ⟨a3, d3, a4, d4, a5, d5, a6, d6, rfl, -, -, -, -⟩ := open_World h
 have HBN : Hid (∀ b off, a4 = some ⟨b, off, none⟩ → 0 < x.nodes.length → b < w.heap.size) := fun b off e hp => by
  obtain ⟨_, _, _, _, _, _, _, _, hq, -, RN, -, -⟩ := open_World h
  simp only [List.cons.injEq, Value.slice.injEq, and_true, true_and] at hq
  obtain ⟨-, ⟨rfl, rfl⟩, -, -, -⟩ := hq
  obtain ⟨b', off', e', hb⟩ := Lay.sl_addr RN hp
  rw [e] at e'
  simp only [Option.some.injEq, Addr.mk.injEq, and_true] at e'
  obtain ⟨rfl, -⟩ := e'
  exact hb
 have nb : Below w.heap.size w ((w.alloc (.cells #[.int .i64 x.now, .int .i64 x.events, .int .i64 x.chain.epoch, .slice a3 x.chain.ids.length d3, .slice a4 x.nodes.length d4, .slice a5 x.msgs.length d5, .slice a6 x.history.length d6] 36)).alloc (.cells #[.int .i64 0, .bool false, .int .i64 0, .int .i64 0, .int .i64 0, .slice none 0 0, .slice none 0 0, .slice none 0 0, .slice none 0 0] 38)) := ((Below.refl _ _).alloc (Nat.le_refl _) _).alloc (by simp) _
 have HX : Hid (Box 0 #[.int .i64 x.now, .int .i64 x.events, .int .i64 x.chain.epoch, .slice a3 x.chain.ids.length d3, .slice a4 x.nodes.length d4, .slice a5 x.msgs.length d5, .slice a6 x.history.length d6] 36 ((w.alloc (.cells #[.int .i64 x.now, .int .i64 x.events, .int .i64 x.chain.epoch, .slice a3 x.chain.ids.length d3, .slice a4 x.nodes.length d4, .slice a5 x.msgs.length d5, .slice a6 x.history.length d6] 36)).alloc (.cells #[.int .i64 0, .bool false, .int .i64 0, .int .i64 0, .int .i64 0, .slice none 0 0, .slice none 0 0, .slice none 0 0, .slice none 0 0] 38)) w.heap.size) := ((newBox (Nat.zero_le _)).grow _)
 have HY : Hid (Box 0 #[.int .i64 0, .bool false, .int .i64 0, .int .i64 0, .int .i64 0, .slice none 0 0, .slice none 0 0, .slice none 0 0, .slice none 0 0] 38 ((w.alloc (.cells #[.int .i64 x.now, .int .i64 x.events, .int .i64 x.chain.epoch, .slice a3 x.chain.ids.length d3, .slice a4 x.nodes.length d4, .slice a5 x.msgs.length d5, .slice a6 x.history.length d6] 36)).alloc (.cells #[.int .i64 0, .bool false, .int .i64 0, .int .i64 0, .int .i64 0, .slice none 0 0, .slice none 0 0, .slice none 0 0, .slice none 0 0] 38)) (w.heap.size + 1)) := newBoxAt (Nat.zero_le _) (by simp)
 have hz0 : ((w.alloc (.cells #[.int .i64 x.now, .int .i64 x.events, .int .i64 x.chain.epoch, .slice a3 x.chain.ids.length d3, .slice a4 x.nodes.length d4, .slice a5 x.msgs.length d5, .slice a6 x.history.length d6] 36)).alloc (.cells #[.int .i64 0, .bool false, .int .i64 0, .int .i64 0, .int .i64 0, .slice none 0 0, .slice none 0 0, .slice none 0 0, .slice none 0 0] 38)).heap.size = w.heap.size + 2 := by simp
 have HR := yh (h.later nb)
 have HB := yh nb
 clear nb
 clear h
 generalize removeWR x id = R at *
 go_enter Tryz.func30, Tryz.ntmps30
 go_upto_region 1 with fail
 generalize ((w.alloc (.cells #[.int .i64 x.now, .int .i64 x.events, .int .i64 x.chain.epoch, .slice a3 x.chain.ids.length d3, .slice a4 x.nodes.length d4, .slice a5 x.msgs.length d5, .slice a6 x.history.length d6] 36)).alloc (.cells #[.int .i64 0, .bool false, .int .i64 0, .int .i64 0, .int .i64 0, .slice none 0 0, .slice none 0 0, .slice none 0 0, .slice none 0 0] 38)) = W0 at *
 go_wp2_with fail
 refine (l12AskedC a3 d3 a4 d4 a5 d5 a6 d6 x id w.heap.size W0 (uh HX) (uh HR)).mono ?_
 rintro e wa ⟨rfl, hb⟩
 replace HX := yh ((uh HX).keep hb)
 replace HR := yh ((uh HR).later hb)
 replace HY := yh ((uh HY).keep hb)
 replace HB := yh ((uh HB).trans (hb.mono (uh HB).size))
 have hza := hb.size
 clear hb
 by_cases d1 : askedW x id ≠ 0
 ·
  have hd : (askedW x id != 0) = true := by simpa using d1
  replace HP := yh ((uh HP).trans (if_pos d1))
  have HC := yh (asked_bd x id)
  clear d1 hf 
  generalize askedW x id = c at *
  go_wp2_with fail
  refine (l12BadCZ (c) _).mono ?_
  rintro e wB ⟨rfl, hbB⟩
  have hyB := (uh HY).keep hbB
  have z0 := Box.at hyB 0 _ rfl
  have z1 := Box.at hyB 1 _ rfl
  have z2 := Box.at hyB 2 _ rfl
  have z3 := Box.at hyB 3 _ rfl
  have z4 := Box.at hyB 4 _ rfl
  have z5 := Box.at hyB 5 _ rfl
  have z6 := Box.at hyB 6 _ rfl
  have z7 := Box.at hyB 7 _ rfl
  have z8 := Box.at hyB 8 _ rfl
  simp only [ga, gb, gc] at z0 z1 z2 z3 z4 z5 z6 z7 z8
  have zf := Box.soft hyB
  have zl := hyB.lt
  have HB9 := yh (below_setAll ((uh HB).trans (hbB.mono (uh HB).size)) (w.heap.size + 1) 0 [.int .i64 c, .bool false, .int .i64 0, .int .i64 0, .int .i64 0, .slice none 0 0, .slice none 0 0, .slice none 0 0, .slice none 0 0] (by omega))
  clear hyB hbB HY HB
  go_wp2_with fail
  refine bodyPost_ret (v := .agg #[.int .i64 c, .bool false, .int .i64 0, .int .i64 0, .int .i64 0, .slice none 0 0, .slice none 0 0, .slice none 0 0, .slice none 0 0]) (by simp [results, Tryz.results30, go_sem, z0, z1, z2, z3, z4, z5, z6, z7, z8]) rfl ?_
  rw [uh HP]
  exact ⟨[.int .i64 c, .bool false, .int .i64 0, .int .i64 0, .int .i64 0, .slice none 0 0, .slice none 0 0, .slice none 0 0, .slice none 0 0], rfl, (own_badW (uh HC) (lo := 0) (hi := 0) (Nat.le_refl 0)).lies.reads, uh HB9⟩
 replace HP := yh ((uh HP).trans (if_neg d1))
 have hd0 : askedW x id = 0 := by simpa using d1
 obtain ⟨hwf, hni⟩ := asked_zero hd0
 have hok := worldFault_zero hwf
 obtain ⟨k, hk, rfl⟩ := nodeIn_at hni
 rw [hd0]
 clear d1 hd0 hwf hni
 have HID := yh (hok.nodes k hk).2.1
 obtain ⟨_, _, _, _, _, _, _, _, hq, RC, RN, -, -⟩ := open_World (uh HR)
 simp only [List.cons.injEq, Value.slice.injEq, and_true, true_and] at hq
 obtain ⟨⟨rfl, rfl⟩, ⟨rfl, rfl⟩, -, -, -⟩ := hq
 obtain ⟨b0, off0, rfl, hbl⟩ := Lay.sl_addr RN (by omega)
 have hbw := uh HBN b0 off0 rfl (by omega)
 have HLE : Hid (leasedB x ((k : Int) + 1) = (x.nodes[k].up && decide (x.now ≤ x.nodes[k].lease))) := by
  show leasedB x _ = _
  rw [leasedB, nodeOf_at hk]
 have HLC := yh (specCutChain _ x.chain ((k : Int) + 1) wa RC)
 have HCB := yh (cutR_bd x.chain ((k : Int) + 1))
 have HOK := yh hok
 have HWC : Hid (cutR x.chain ((k : Int) + 1) = cutR x.chain ((k : Int) + 1)) := rfl
 clear HWC
 have hw1 : IntKind.i64.wrap (k : Int) = (k : Int) := by
  have := hok.some
  rw [IntKind.wrap_i64]
  omega
 have hki : (k : Int) < (x.nodes.length : Int) := by omega
 have hki0 : (0 : Int) ≤ (k : Int) := by omega
 have z2 := Box.at (uh HX) 2 _ rfl
 have z3 := Box.at (uh HX) 3 _ rfl
 simp only [ga, gb, gc] at z2 z3
 have zl := (uh HX).lt
 clear RC RN hok
 generalize cutR x.chain ((k : Int) + 1) = cr at *
 go_wp2_with fail
 refine (uh HLC).mono ?_
 rintro e w3 ⟨rs, rfl, O0, hb3⟩
 obtain ⟨a5c, m5, d5c, rfl, hm5, Oi, hwe⟩ := own_chainR_parts O0
 subst hm5
 obtain ⟨bl, hl, hlb⟩ := Oi.lies
 have HWE := yh hwe
 have nb3 : Below w3.heap.size w3 (w3.alloc (.cells #[.int .i64 cr.code, .int .i64 cr.chain.epoch, .slice a5c cr.chain.ids.length d5c] 111)) := (Below.refl _ _).alloc (Nat.le_refl _) _
 have HN : Hid (Box 0 #[.int .i64 cr.code, .int .i64 cr.chain.epoch, .slice a5c cr.chain.ids.length d5c] 111 (w3.alloc (.cells #[.int .i64 cr.code, .int .i64 cr.chain.epoch, .slice a5c cr.chain.ids.length d5c] 111)) w3.heap.size) := newBox (Nat.zero_le _)
 replace HX := yh (((uh HX).keep hb3).keep nb3)
 replace HR := yh (((uh HR).later hb3).later nb3)
 replace HY := yh (((uh HY).keep hb3).keep nb3)
 replace HB := yh ((uh HB).trans ((hb3.trans (nb3.mono hb3.size)).mono (uh HB).size))
 have HM : Hid (∃ bl, (Lay.sl Lay.int).lies (w3.alloc (.cells #[.int .i64 cr.code, .int .i64 cr.chain.epoch, .slice a5c cr.chain.ids.length d5c] 111)) [.slice a5c cr.chain.ids.length d5c] cr.chain.ids bl ∧ ∀ c ∈ bl, wa.heap.size ≤ c ∧ c < w3.heap.size) := ⟨bl, (Lay.sl Lay.int).keep hl (fun c hc => nb3.block c (hlb c hc).2), hlb⟩
 have hz3 := hb3.size
 have hz4 : w3.heap.size < (w3.alloc (.cells #[.int .i64 cr.code, .int .i64 cr.chain.epoch, .slice a5c cr.chain.ids.length d5c] 111)).heap.size := by simp
 clear hl hlb hb3 nb3 HLC z2 z3 zl Oi O0 hwe
 go_upto_region 5 with fail
 generalize w3.alloc (.cells #[.int .i64 cr.code, .int .i64 cr.chain.epoch, .slice a5c cr.chain.ids.length d5c] 111) = w4 at *
 have n0 := Box.at (uh HN) 0 _ rfl
 simp only [List.getElem_toArray, List.getElem_cons_zero] at n0
 have nl := (uh HN).lt
 by_cases d2 : cr.code ≠ 0
 ·
  have hd2 : (cr.code != 0) = true := by simpa using d2
  replace HP := yh ((uh HP).trans (if_pos d2))
  clear d2 HN HM HOK hf HLE
  generalize cr.code = cc at *
  go_wp2_with fail
  refine (l12BadCZ (cc) _).mono ?_
  rintro e wB ⟨rfl, hbB⟩
  have hyB := (uh HY).keep hbB
  have z0 := Box.at hyB 0 _ rfl
  have z1 := Box.at hyB 1 _ rfl
  have z2 := Box.at hyB 2 _ rfl
  have z3 := Box.at hyB 3 _ rfl
  have z4 := Box.at hyB 4 _ rfl
  have z5 := Box.at hyB 5 _ rfl
  have z6 := Box.at hyB 6 _ rfl
  have z7 := Box.at hyB 7 _ rfl
  have z8 := Box.at hyB 8 _ rfl
  simp only [ga, gb, gc] at z0 z1 z2 z3 z4 z5 z6 z7 z8
  have zf := Box.soft hyB
  have zl := hyB.lt
  have HB9 := yh (below_setAll ((uh HB).trans (hbB.mono (uh HB).size)) (w.heap.size + 1) 0 [.int .i64 cc, .bool false, .int .i64 0, .int .i64 0, .int .i64 0, .slice none 0 0, .slice none 0 0, .slice none 0 0, .slice none 0 0] (by omega))
  clear hyB hbB HY HB
  go_wp2_with fail
  refine bodyPost_ret (v := .agg #[.int .i64 cc, .bool false, .int .i64 0, .int .i64 0, .int .i64 0, .slice none 0 0, .slice none 0 0, .slice none 0 0, .slice none 0 0]) (by simp [results, Tryz.results30, go_sem, z0, z1, z2, z3, z4, z5, z6, z7, z8]) rfl ?_
  rw [uh HP]
  exact ⟨[.int .i64 cc, .bool false, .int .i64 0, .int .i64 0, .int .i64 0, .slice none 0 0, .slice none 0 0, .slice none 0 0, .slice none 0 0], rfl, (own_badW (uh HCB) (lo := 0) (hi := 0) (Nat.le_refl 0)).lies.reads, uh HB9⟩
 have hd2 : (cr.code != 0) = false := by simpa using d2
 replace HP := yh ((uh HP).trans (if_neg d2))
 clear d2
 have z4 := Box.at (uh HX) 4 _ rfl
 simp only [ga, gb, gc] at z4
 have zl := (uh HX).lt
 go_upto_region 8 with fail
 clear n0 nl hd2 z4
 have nd : Below w4.heap.size w4 w4.drew := (Below.refl _ _).drew
 replace HX := yh ((uh HX).keep nd)
 replace HR := yh ((uh HR).later nd)
 replace HY := yh ((uh HY).keep nd)
 replace HB := yh ((uh HB).trans (nd.mono (uh HB).size))
 replace HN := yh ((uh HN).keep nd)
 have HM2 : Hid (∃ bl, (Lay.sl Lay.int).lies w4.drew [.slice a5c cr.chain.ids.length d5c] cr.chain.ids bl ∧ ∀ c ∈ bl, wa.heap.size ≤ c ∧ c < w3.heap.size) := by
  obtain ⟨bl, h1, h2⟩ := uh HM
  exact ⟨bl, (Lay.sl Lay.int).keep h1 (fun c hc => nd.block c (by have := h2 c hc; omega)), h2⟩
 clear HM
 have HM := HM2
 clear HM2
 obtain ⟨_, _, _, _, _, _, _, _, hq, -, RN, -, -⟩ := open_World (uh HR)
 simp only [List.cons.injEq, Value.slice.injEq, and_true, true_and] at hq
 obtain ⟨-, ⟨rfl, rfl⟩, -, -, -⟩ := hq
 obtain ⟨row, hcl, hr⟩ := Lay.row_at RN hk
 obtain ⟨an, dn, rfl, -⟩ := open_Node hr
 have x1 : w4.drew.cell? ⟨b0, off0 + k * 7 + 1, none⟩ = some (.bool x.nodes[k].up) := hcl 1 (by decide)
 have x3 : w4.drew.cell? ⟨b0, off0 + k * 7 + 3, none⟩ = some (.int .i64 x.nodes[k].lease) := hcl 3 (by decide)
 have z0 := Box.at (uh HX) 0 _ rfl
 simp only [List.getElem_toArray, List.getElem_cons_zero] at z0
 have HSZ : Hid (w4.heap.size ≤ w4.drew.heap.size) := nd.size
 clear nd RN hcl hr
 generalize x.nodes[k] = n at *
 cases hup : n.up
 ·
  rw [hup] at x1
  have HLF : Hid (leasedB x ((k : Int) + 1) = false) := by
   show leasedB x _ = false
   rw [uh HLE, hup]
   rfl
  replace HP := yh ((uh HP).trans (if_neg (by rw [uh HLF]; decide)))
  clear HLF HLE hup
  refine wp_region_noPanic ?_
  refine wp_region_held_drew (S := fun w' => w' = w4.drew) (by kernel_rfl) rfl (fun zq => ?_)
  generalize w4.drew = wD at zq x1 x3 z0 HX HR HY HB HN HM HSZ ⊢
  refine tkH 0 zq ?_
  refine tkH 1 zq ?_
  refine tkH 2 zq ?_
  refine tkJ 3 (v := ?va3) ?ha3 zq ?ra3
  case ha3 =>
   intro wS hSw
   subst hSw
   (try dsimp only at hSw)
   go_simp
   try with_reducible rfl
  refine tkH 4 zq ?_
  refine skH 5 zq ?_
  refine skH 6 zq ?_
  refine skH 7 zq ?_
  refine skH 8 zq ?_
  refine skH 9 zq ?_
  refine skH 10 zq ?_
  refine skH 11 zq ?_
  refine tkH 12 zq ?_
  refine wpAnyH_done (by kernel_rfl) ?_ _
  refine NoPanic.normal ?_
  clear zq x1 x3 z0 zl
  have hzD := uh HSZ
  have HL := yh (l12NextC _ x wD (uh HR) (uh HOK) hf)
  have z0 := Box.at (uh HX) 0 _ rfl
  have z1 := Box.at (uh HX) 1 _ rfl
  have z2 := Box.at (uh HX) 2 _ rfl
  have z3 := Box.at (uh HX) 3 _ rfl
  have z4 := Box.at (uh HX) 4 _ rfl
  have z5 := Box.at (uh HX) 5 _ rfl
  have z6 := Box.at (uh HX) 6 _ rfl
  simp only [ga, gb, gc] at z0 z1 z2 z3 z4 z5 z6
  have zl := (uh HX).lt
  go_wp2_with fail
  refine (uh HL).mono ?_
  rintro e W1 ⟨cs', rfl, O, hb⟩
  have hop := open_World O.reads
  dsimp only [nextW] at hop
  obtain ⟨a3w, d3w, a4w, d4w, a5w, d5w, a6w, d6w, rfl, -⟩ := hop
  have hz1 : wD.heap.size ≤ W1.heap.size := hb.size
  have nb : Below W1.heap.size W1 (W1.alloc (.cells #[.int .i64 x.now, .int .i64 (x.events + 1), .int .i64 x.chain.epoch, .slice a3w x.chain.ids.length d3w, .slice a4w x.nodes.length d4w, .slice a5w x.msgs.length d5w, .slice a6w x.history.length d6w] 36)) := (Below.refl _ _).alloc (Nat.le_refl _) _
  have HG : Hid (Box 0 #[.int .i64 x.now, .int .i64 (x.events + 1), .int .i64 x.chain.epoch, .slice a3w x.chain.ids.length d3w, .slice a4w x.nodes.length d4w, .slice a5w x.msgs.length d5w, .slice a6w x.history.length d6w] 36 (W1.alloc (.cells #[.int .i64 x.now, .int .i64 (x.events + 1), .int .i64 x.chain.epoch, .slice a3w x.chain.ids.length d3w, .slice a4w x.nodes.length d4w, .slice a5w x.msgs.length d5w, .slice a6w x.history.length d6w] 36)) W1.heap.size) := newBox (Nat.zero_le _)
  have HO := yh ((O.later nb).st (G := fun c => c < 0 ∨ c < wa.heap.size ∨ c = W1.heap.size) (fun k hk => by omega))
  replace HX := yh (((uh HX).keep hb).keep nb)
  replace HR := yh (((uh HR).later hb).later nb)
  replace HY := yh (((uh HY).keep hb).keep nb)
  replace HB := yh ((uh HB).trans ((hb.trans (nb.mono hb.size)).mono (uh HB).size))
  have hz2 : W1.heap.size < (W1.alloc (.cells #[.int .i64 x.now, .int .i64 (x.events + 1), .int .i64 x.chain.epoch, .slice a3w x.chain.ids.length d3w, .slice a4w x.nodes.length d4w, .slice a5w x.msgs.length d5w, .slice a6w x.history.length d6w] 36)).heap.size := by simp
  have HBW := yh (hb.trans (nb.mono hb.size))
  have HN2 := yh (((uh HN).keep hb).keep nb)
  clear nb O hb HL HN
  clear z0 z1 z2 z3 z4 z5 z6 zl
  go_upto_region 11 with fail
  generalize W1.alloc (.cells #[.int .i64 x.now, .int .i64 (x.events + 1), .int .i64 x.chain.epoch, .slice a3w x.chain.ids.length d3w, .slice a4w x.nodes.length d4w, .slice a5w x.msgs.length d5w, .slice a6w x.history.length d6w] 36) = W2 at *
  have n1 := Box.at (uh HN2) 1 _ rfl
  have n2 := Box.at (uh HN2) 2 _ rfl
  simp only [ga, gb, gc] at n1 n2
  have nl := (uh HN2).lt
  obtain ⟨bl, hl1, hl2⟩ := uh HM
  have hO2 := WSt.chain (x := nextW x) (c := cr.chain) (uh HO) (lies_Chain.2 ⟨a5c, d5c, _, rfl, rfl, uh HWE, (Lay.sl Lay.int).keep hl1 (fun c hc => (uh HBW).block c (by have := hl2 c hc; omega))⟩) (fun c hc => ⟨by have := hl2 c hc; omega, fun e => by have := hl2 c hc; omega⟩)
  have HLI := yh (l13InstallC W1.heap.size wD.heap.size W1.heap.size (fun c => c < 0 ∨ c < wa.heap.size ∨ c = W1.heap.size) a5c d5c x.chain.epoch (.slice a3w x.chain.ids.length d3w) (.slice a4w x.nodes.length d4w) (.slice a5w x.msgs.length d5w) (.slice a6w x.history.length d6w) (withChain (nextW x) cr.chain) W2 (uh HG) (by omega) (Or.inr (Or.inr rfl)) hO2 (uh HOK).some.1 (uh HOK).some.2 (fun i h => ((uh HOK).nodes i h).2.1))
  clear hl1 hl2 hO2 HM HN2 HX HR HBW HO HG HOK
  go_wp2_with fail
  refine (uh HLI).mono ?_
  rintro e W9 ⟨rfl, hg9, hO9, hX9⟩
  have HG2 : Hid (Box 0 #[.int .i64 x.now, .int .i64 (x.events + 1), .int .i64 cr.chain.epoch, .slice a5c cr.chain.ids.length d5c, .slice a4w x.nodes.length d4w, .slice a5w x.msgs.length d5w, .slice a6w x.history.length d6w] 36 W9 W1.heap.size) := hg9
  have HO2 : Hid (WSt W9 wD.heap.size W1.heap.size (fun c => c < 0 ∨ c < wa.heap.size ∨ c = W1.heap.size) [.int .i64 x.now, .int .i64 (x.events + 1), .int .i64 cr.chain.epoch, .slice a5c cr.chain.ids.length d5c, .slice a4w x.nodes.length d4w, .slice a5w x.msgs.length d5w, .slice a6w x.history.length d6w] (instPW (withChain (nextW x) cr.chain) cr.chain.ids)) := hO9
  have HY2 := yh ((uh HY).ext hX9 (by omega))
  have HB2 := yh ((uh HB).trans (hX9.below (B := w.heap.size) (by omega) (fun c hc e => by omega)))
  clear hg9 hO9 hX9 HLI n1 n2 nl HY HB
  go_upto_region 12 with fail
  have y0 := Box.at (uh HG2) 0 _ rfl
  have y1 := Box.at (uh HG2) 1 _ rfl
  have y2 := Box.at (uh HG2) 2 _ rfl
  have y3 := Box.at (uh HG2) 3 _ rfl
  have y4 := Box.at (uh HG2) 4 _ rfl
  have y5 := Box.at (uh HG2) 5 _ rfl
  have y6 := Box.at (uh HG2) 6 _ rfl
  simp only [ga, gb, gc] at y0 y1 y2 y3 y4 y5 y6
  have yl := (uh HG2).lt
  have r0 := Box.at (uh HY2) 0 _ rfl
  have r1 := Box.at (uh HY2) 1 _ rfl
  have r2 := Box.at (uh HY2) 2 _ rfl
  have r3 := Box.at (uh HY2) 3 _ rfl
  have r4 := Box.at (uh HY2) 4 _ rfl
  have r5 := Box.at (uh HY2) 5 _ rfl
  have r6 := Box.at (uh HY2) 6 _ rfl
  have r7 := Box.at (uh HY2) 7 _ rfl
  have r8 := Box.at (uh HY2) 8 _ rfl
  simp only [ga, gb, gc] at r0 r1 r2 r3 r4 r5 r6 r7 r8
  have rl := (uh HY2).lt
  have rf := Box.soft (uh HY2)
  have e9 : Ext (fun q => q = w.heap.size + 1) W9 (setAll W9 (w.heap.size + 1) 0 [.int .i64 0, .bool true, .int .i64 x.now, .int .i64 (x.events + 1), .int .i64 cr.chain.epoch, .slice a5c cr.chain.ids.length d5c, .slice a4w x.nodes.length d4w, .slice a5w x.msgs.length d5w, .slice a6w x.history.length d6w]) := ext_setAll _ (Ext.refl _ _) _ _ _ rfl
  have HO9 := yh (okR_lies (m := true) (((uh HO2).ext e9 (fun c h1 h2 h3 => h2 (Or.inr (Or.inl (by omega))))).liesIn (B := 0) (fun c hc => by omega)))
  have HB9 := yh (below_setAll (uh HB2) (w.heap.size + 1) 0 [.int .i64 0, .bool true, .int .i64 x.now, .int .i64 (x.events + 1), .int .i64 cr.chain.epoch, .slice a5c cr.chain.ids.length d5c, .slice a4w x.nodes.length d4w, .slice a5w x.msgs.length d5w, .slice a6w x.history.length d6w] (by omega))
  clear e9 HO2 HG2 HY2 HB2
  go_wp2_with fail
  refine bodyPost_ret (v := .agg #[.int .i64 0, .bool true, .int .i64 x.now, .int .i64 (x.events + 1), .int .i64 cr.chain.epoch, .slice a5c cr.chain.ids.length d5c, .slice a4w x.nodes.length d4w, .slice a5w x.msgs.length d5w, .slice a6w x.history.length d6w]) (by simp [results, Tryz.results30, go_sem, r0, r1, r2, r3, r4, r5, r6, r7, r8]) rfl ?_
  rw [uh HP]
  exact ⟨_, rfl, (uh HO9).reads, uh HB9⟩
 rw [hup] at x1
 cases hle : decide (x.now ≤ n.lease)
 ·
  have HLF : Hid (leasedB x ((k : Int) + 1) = false) := by
   show leasedB x _ = false
   rw [uh HLE, hup, hle]
   rfl
  replace HP := yh ((uh HP).trans (if_neg (by rw [uh HLF]; decide)))
  clear HLF HLE hup
  refine wp_region_noPanic ?_
  refine wp_region_held_drew (S := fun w' => w' = w4.drew) (by kernel_rfl) rfl (fun zq => ?_)
  generalize w4.drew = wD at zq x1 x3 z0 HX HR HY HB HN HM HSZ ⊢
  refine tkH 0 zq ?_
  refine tkH 1 zq ?_
  refine tkH 2 zq ?_
  refine tkJ 3 (v := ?vb3) ?hb3 zq ?rb3
  case hb3 =>
   intro wS hSw
   subst hSw
   (try dsimp only at hSw)
   go_simp
   try with_reducible rfl
  refine tkH 4 zq ?_
  refine tkH 5 zq ?_
  refine tkH 6 zq ?_
  refine tkH 7 zq ?_
  refine tkJ 8 (v := ?vb8) ?hb8 zq ?rb8
  case hb8 =>
   intro wS hSw
   subst hSw
   (try dsimp only at hSw)
   go_simp
   try with_reducible rfl
  refine tkH 9 zq ?_
  refine tkJ 10 (v := ?vb10) ?hb10 zq ?rb10
  case hb10 =>
   intro wS hSw
   subst hSw
   (try dsimp only at hSw)
   go_simp
   try with_reducible rfl
  refine tkH 11 zq ?_
  refine tkH 12 zq ?_
  refine wpAnyH_done (by kernel_rfl) ?_ _
  refine NoPanic.normal ?_
  clear zq x1 x3 z0 zl hle
  have hzD := uh HSZ
  have HL := yh (l12NextC _ x wD (uh HR) (uh HOK) hf)
  have z0 := Box.at (uh HX) 0 _ rfl
  have z1 := Box.at (uh HX) 1 _ rfl
  have z2 := Box.at (uh HX) 2 _ rfl
  have z3 := Box.at (uh HX) 3 _ rfl
  have z4 := Box.at (uh HX) 4 _ rfl
  have z5 := Box.at (uh HX) 5 _ rfl
  have z6 := Box.at (uh HX) 6 _ rfl
  simp only [ga, gb, gc] at z0 z1 z2 z3 z4 z5 z6
  have zl := (uh HX).lt
  go_wp2_with fail
  refine (uh HL).mono ?_
  rintro e W1 ⟨cs', rfl, O, hb⟩
  have hop := open_World O.reads
  dsimp only [nextW] at hop
  obtain ⟨a3w, d3w, a4w, d4w, a5w, d5w, a6w, d6w, rfl, -⟩ := hop
  have hz1 : wD.heap.size ≤ W1.heap.size := hb.size
  have nb : Below W1.heap.size W1 (W1.alloc (.cells #[.int .i64 x.now, .int .i64 (x.events + 1), .int .i64 x.chain.epoch, .slice a3w x.chain.ids.length d3w, .slice a4w x.nodes.length d4w, .slice a5w x.msgs.length d5w, .slice a6w x.history.length d6w] 36)) := (Below.refl _ _).alloc (Nat.le_refl _) _
  have HG : Hid (Box 0 #[.int .i64 x.now, .int .i64 (x.events + 1), .int .i64 x.chain.epoch, .slice a3w x.chain.ids.length d3w, .slice a4w x.nodes.length d4w, .slice a5w x.msgs.length d5w, .slice a6w x.history.length d6w] 36 (W1.alloc (.cells #[.int .i64 x.now, .int .i64 (x.events + 1), .int .i64 x.chain.epoch, .slice a3w x.chain.ids.length d3w, .slice a4w x.nodes.length d4w, .slice a5w x.msgs.length d5w, .slice a6w x.history.length d6w] 36)) W1.heap.size) := newBox (Nat.zero_le _)
  have HO := yh ((O.later nb).st (G := fun c => c < 0 ∨ c < wa.heap.size ∨ c = W1.heap.size) (fun k hk => by omega))
  replace HX := yh (((uh HX).keep hb).keep nb)
  replace HR := yh (((uh HR).later hb).later nb)
  replace HY := yh (((uh HY).keep hb).keep nb)
  replace HB := yh ((uh HB).trans ((hb.trans (nb.mono hb.size)).mono (uh HB).size))
  have hz2 : W1.heap.size < (W1.alloc (.cells #[.int .i64 x.now, .int .i64 (x.events + 1), .int .i64 x.chain.epoch, .slice a3w x.chain.ids.length d3w, .slice a4w x.nodes.length d4w, .slice a5w x.msgs.length d5w, .slice a6w x.history.length d6w] 36)).heap.size := by simp
  have HBW := yh (hb.trans (nb.mono hb.size))
  have HN2 := yh (((uh HN).keep hb).keep nb)
  clear nb O hb HL HN
  clear z0 z1 z2 z3 z4 z5 z6 zl
  go_upto_region 11 with fail
  generalize W1.alloc (.cells #[.int .i64 x.now, .int .i64 (x.events + 1), .int .i64 x.chain.epoch, .slice a3w x.chain.ids.length d3w, .slice a4w x.nodes.length d4w, .slice a5w x.msgs.length d5w, .slice a6w x.history.length d6w] 36) = W2 at *
  have n1 := Box.at (uh HN2) 1 _ rfl
  have n2 := Box.at (uh HN2) 2 _ rfl
  simp only [ga, gb, gc] at n1 n2
  have nl := (uh HN2).lt
  obtain ⟨bl, hl1, hl2⟩ := uh HM
  have hO2 := WSt.chain (x := nextW x) (c := cr.chain) (uh HO) (lies_Chain.2 ⟨a5c, d5c, _, rfl, rfl, uh HWE, (Lay.sl Lay.int).keep hl1 (fun c hc => (uh HBW).block c (by have := hl2 c hc; omega))⟩) (fun c hc => ⟨by have := hl2 c hc; omega, fun e => by have := hl2 c hc; omega⟩)
  have HLI := yh (l13InstallC W1.heap.size wD.heap.size W1.heap.size (fun c => c < 0 ∨ c < wa.heap.size ∨ c = W1.heap.size) a5c d5c x.chain.epoch (.slice a3w x.chain.ids.length d3w) (.slice a4w x.nodes.length d4w) (.slice a5w x.msgs.length d5w) (.slice a6w x.history.length d6w) (withChain (nextW x) cr.chain) W2 (uh HG) (by omega) (Or.inr (Or.inr rfl)) hO2 (uh HOK).some.1 (uh HOK).some.2 (fun i h => ((uh HOK).nodes i h).2.1))
  clear hl1 hl2 hO2 HM HN2 HX HR HBW HO HG HOK
  go_wp2_with fail
  refine (uh HLI).mono ?_
  rintro e W9 ⟨rfl, hg9, hO9, hX9⟩
  have HG2 : Hid (Box 0 #[.int .i64 x.now, .int .i64 (x.events + 1), .int .i64 cr.chain.epoch, .slice a5c cr.chain.ids.length d5c, .slice a4w x.nodes.length d4w, .slice a5w x.msgs.length d5w, .slice a6w x.history.length d6w] 36 W9 W1.heap.size) := hg9
  have HO2 : Hid (WSt W9 wD.heap.size W1.heap.size (fun c => c < 0 ∨ c < wa.heap.size ∨ c = W1.heap.size) [.int .i64 x.now, .int .i64 (x.events + 1), .int .i64 cr.chain.epoch, .slice a5c cr.chain.ids.length d5c, .slice a4w x.nodes.length d4w, .slice a5w x.msgs.length d5w, .slice a6w x.history.length d6w] (instPW (withChain (nextW x) cr.chain) cr.chain.ids)) := hO9
  have HY2 := yh ((uh HY).ext hX9 (by omega))
  have HB2 := yh ((uh HB).trans (hX9.below (B := w.heap.size) (by omega) (fun c hc e => by omega)))
  clear hg9 hO9 hX9 HLI n1 n2 nl HY HB
  go_upto_region 12 with fail
  have y0 := Box.at (uh HG2) 0 _ rfl
  have y1 := Box.at (uh HG2) 1 _ rfl
  have y2 := Box.at (uh HG2) 2 _ rfl
  have y3 := Box.at (uh HG2) 3 _ rfl
  have y4 := Box.at (uh HG2) 4 _ rfl
  have y5 := Box.at (uh HG2) 5 _ rfl
  have y6 := Box.at (uh HG2) 6 _ rfl
  simp only [ga, gb, gc] at y0 y1 y2 y3 y4 y5 y6
  have yl := (uh HG2).lt
  have r0 := Box.at (uh HY2) 0 _ rfl
  have r1 := Box.at (uh HY2) 1 _ rfl
  have r2 := Box.at (uh HY2) 2 _ rfl
  have r3 := Box.at (uh HY2) 3 _ rfl
  have r4 := Box.at (uh HY2) 4 _ rfl
  have r5 := Box.at (uh HY2) 5 _ rfl
  have r6 := Box.at (uh HY2) 6 _ rfl
  have r7 := Box.at (uh HY2) 7 _ rfl
  have r8 := Box.at (uh HY2) 8 _ rfl
  simp only [ga, gb, gc] at r0 r1 r2 r3 r4 r5 r6 r7 r8
  have rl := (uh HY2).lt
  have rf := Box.soft (uh HY2)
  have e9 : Ext (fun q => q = w.heap.size + 1) W9 (setAll W9 (w.heap.size + 1) 0 [.int .i64 0, .bool true, .int .i64 x.now, .int .i64 (x.events + 1), .int .i64 cr.chain.epoch, .slice a5c cr.chain.ids.length d5c, .slice a4w x.nodes.length d4w, .slice a5w x.msgs.length d5w, .slice a6w x.history.length d6w]) := ext_setAll _ (Ext.refl _ _) _ _ _ rfl
  have HO9 := yh (okR_lies (m := true) (((uh HO2).ext e9 (fun c h1 h2 h3 => h2 (Or.inr (Or.inl (by omega))))).liesIn (B := 0) (fun c hc => by omega)))
  have HB9 := yh (below_setAll (uh HB2) (w.heap.size + 1) 0 [.int .i64 0, .bool true, .int .i64 x.now, .int .i64 (x.events + 1), .int .i64 cr.chain.epoch, .slice a5c cr.chain.ids.length d5c, .slice a4w x.nodes.length d4w, .slice a5w x.msgs.length d5w, .slice a6w x.history.length d6w] (by omega))
  clear e9 HO2 HG2 HY2 HB2
  go_wp2_with fail
  refine bodyPost_ret (v := .agg #[.int .i64 0, .bool true, .int .i64 x.now, .int .i64 (x.events + 1), .int .i64 cr.chain.epoch, .slice a5c cr.chain.ids.length d5c, .slice a4w x.nodes.length d4w, .slice a5w x.msgs.length d5w, .slice a6w x.history.length d6w]) (by simp [results, Tryz.results30, go_sem, r0, r1, r2, r3, r4, r5, r6, r7, r8]) rfl ?_
  rw [uh HP]
  exact ⟨_, rfl, (uh HO9).reads, uh HB9⟩
 have HLF : Hid (leasedB x ((k : Int) + 1) = true) := by
  show leasedB x _ = true
  rw [uh HLE, hup, hle]
  rfl
 replace HP := yh ((uh HP).trans (if_pos (uh HLF)))
 clear HLF HLE hup
 have HC : Hid (-1000000000 ≤ (9 : Int) ∧ (9 : Int) ≤ 1000000000) := by show (-1000000000 : Int) ≤ 9 ∧ (9 : Int) ≤ 1000000000; omega
 refine wp_region_noPanic ?_
 refine wp_region_held_drew (S := fun w' => w' = w4.drew) (by kernel_rfl) rfl (fun zq => ?_)
 generalize w4.drew = wD at zq x1 x3 z0 HX HR HY HB HN HM HSZ ⊢
 refine tkH 0 zq ?_
 refine tkH 1 zq ?_
 refine tkH 2 zq ?_
 refine tkJ 3 (v := ?vc3) ?hc3 zq ?rc3
 case hc3 =>
  intro wS hSw
  subst hSw
  (try dsimp only at hSw)
  go_simp
  try with_reducible rfl
 refine tkH 4 zq ?_
 refine tkH 5 zq ?_
 refine tkH 6 zq ?_
 refine tkH 7 zq ?_
 refine tkJ 8 (v := ?vc8) ?hc8 zq ?rc8
 case hc8 =>
  intro wS hSw
  subst hSw
  (try dsimp only at hSw)
  go_simp
  try with_reducible rfl
 refine tkH 9 zq ?_
 refine tkJ 10 (v := ?vc10) ?hc10 zq ?rc10
 case hc10 =>
  intro wS hSw
  subst hSw
  (try dsimp only at hSw)
  go_simp
  try with_reducible rfl
 refine tkH 11 zq ?_
 refine tkH 12 zq ?_
 refine wpAnyH_done (by kernel_rfl) ?_ _
 refine NoPanic.normal ?_
 clear zq x1 x3 z0 zl hle HN HM HOK hf
 go_wp2_with fail
 refine (l12BadCZ (9) _).mono ?_
 rintro e wB ⟨rfl, hbB⟩
 have hyB := (uh HY).keep hbB
 have z0 := Box.at hyB 0 _ rfl
 have z1 := Box.at hyB 1 _ rfl
 have z2 := Box.at hyB 2 _ rfl
 have z3 := Box.at hyB 3 _ rfl
 have z4 := Box.at hyB 4 _ rfl
 have z5 := Box.at hyB 5 _ rfl
 have z6 := Box.at hyB 6 _ rfl
 have z7 := Box.at hyB 7 _ rfl
 have z8 := Box.at hyB 8 _ rfl
 simp only [ga, gb, gc] at z0 z1 z2 z3 z4 z5 z6 z7 z8
 have zf := Box.soft hyB
 have zl := hyB.lt
 have HB9 := yh (below_setAll ((uh HB).trans (hbB.mono (uh HB).size)) (w.heap.size + 1) 0 [.int .i64 9, .bool false, .int .i64 0, .int .i64 0, .int .i64 0, .slice none 0 0, .slice none 0 0, .slice none 0 0, .slice none 0 0] (by omega))
 clear hyB hbB HY HB
 go_wp2_with fail
 refine bodyPost_ret (v := .agg #[.int .i64 9, .bool false, .int .i64 0, .int .i64 0, .int .i64 0, .slice none 0 0, .slice none 0 0, .slice none 0 0, .slice none 0 0]) (by simp [results, Tryz.results30, go_sem, z0, z1, z2, z3, z4, z5, z6, z7, z8]) rfl ?_
 rw [uh HP]
 exact ⟨[.int .i64 9, .bool false, .int .i64 0, .int .i64 0, .int .i64 0, .slice none 0 0, .slice none 0 0, .slice none 0 0, .slice none 0 0], rfl, (own_badW (uh HC) (lo := 0) (hi := 0) (Nat.le_refl 0)).lies.reads, uh HB9⟩
theorem wown_chain {W0 W : World} {lo g : Nat} {v3 v4 v5 v6 : Value} {y : DWorld} (h : WOwn W0 lo g [.int .i64 y.now, .int .i64 y.events, .int .i64 y.chain.epoch, v3, v4, v5, v6] y) (hb : Below W0.heap.size W0 W) (hg : g < W0.heap.size) (hlo : lo ≤ W0.heap.size) {a : Option Addr} {d lo3 : Nat} {c : DChain} (hm : (Lay.sl Lay.int).OwnIn W [.slice a c.ids.length d] c.ids lo3 W.heap.size) (hl3 : W0.heap.size ≤ lo3) (hwe : (Lit.int .i64 c.epoch).wf = true) :
  WOwn W lo g [.int .i64 y.now, .int .i64 y.events, .int .i64 c.epoch, .slice a c.ids.length d, v4, v5, v6] (withChain y c) := by
 obtain ⟨bl, O, hgb, hbl⟩ := h
 obtain ⟨a3, d3, a4, d4, a5, d5, a6, d6, g2, g4, g5, g6, hq, rfl, O2, O4, O5, O6, w0, w1⟩ := own_World O
 simp only [List.cons.injEq, and_true, true_and] at hq
 obtain ⟨rfl, rfl, rfl, rfl⟩ := hq
 have hnd := O.2.1
 obtain ⟨bm, Om, hbm⟩ := hm
 have hin : ∀ z, z ∈ g2 ++ (g4 ++ (g5 ++ g6)) → lo ≤ z ∧ z < W0.heap.size := hbl
 have hn : (bm ++ (g4 ++ (g5 ++ g6))).Nodup := by
  rw [List.nodup_append] at hnd ⊢
  refine ⟨Om.2.1, hnd.2.1, fun p hp z hz e => ?_⟩
  have h1 := hbm p hp
  have h2 := hin z (List.mem_append_right _ hz)
  omega
 have hz := hb.size
 refine ⟨bm ++ (g4 ++ (g5 ++ g6)), mkOwn_World (x := withChain y c) (mkOwn_Chain (x := c) Om hwe Om.2.1) (O4.later hb) (O5.later hb) (O6.later hb) w0 w1 hn, fun q => ?_, fun z hz => ?_⟩
 ·
  rcases List.mem_append.1 q with q | q
  ·
   have := hbm g q; omega
  exact hgb (List.mem_append_right _ q)
 rcases List.mem_append.1 hz with q | q
 ·
  have := hbm z q; omega
 have := hin z (List.mem_append_right _ q); omega
def wfN (n : DNode) : Prop := (Lit.int .i64 n.id).wf = true ∧ (Lit.int .i64 n.epoch).wf = true ∧ (Lit.int .i64 n.lease).wf = true ∧ (Lit.int .i64 n.sure).wf = true ∧ (Lit.int .i64 n.clean).wf = true
theorem wown_upd {W : World} {lo g k : Nat} {v3 v4 v5 v6 : Value} {y : DWorld} (h : WOwn W lo g [.int .i64 y.now, .int .i64 y.events, .int .i64 y.chain.epoch, v3, v4, v5, v6] y) (hk : k < y.nodes.length) :
  ∃ b off cap an dn, v4 = .slice (some ⟨b, off, none⟩) y.nodes.length cap ∧ lo ≤ b ∧ b < W.heap.size ∧ b ≠ g ∧ RowAt W W b (off + k * 7) 7 [.int .i64 y.nodes[k].id, .bool y.nodes[k].up, .int .i64 y.nodes[k].epoch, .int .i64 y.nodes[k].lease, .slice an y.nodes[k].writes.length dn, .int .i64 y.nodes[k].sure, .int .i64 y.nodes[k].clean] [] ∧ wfN y.nodes[k] ∧ (∀ V, Ext (fun q => q = b) W V → Lay.tChain.Reads V [.int .i64 y.chain.epoch, v3] y.chain) ∧
   ∀ (W2 : World) (n : DNode), n.writes = y.nodes[k].writes → wfN n → RowAt W W2 b (off + k * 7) 7 [.int .i64 n.id, .bool n.up, .int .i64 n.epoch, .int .i64 n.lease, .slice an y.nodes[k].writes.length dn, .int .i64 n.sure, .int .i64 n.clean] [] → WOwn W2 lo g [.int .i64 y.now, .int .i64 y.events, .int .i64 y.chain.epoch, v3, v4, v5, v6] (setN y k n) := by
 obtain ⟨bl, O, hgb, hbl⟩ := h
 obtain ⟨a3, d3, a4, d4, a5, d5, a6, d6, g2, g4, g5, g6, hq, rfl, O2, O4, O5, O6, w0, w1⟩ := own_World O
 simp only [List.cons.injEq, and_true, true_and] at hq
 obtain ⟨rfl, rfl, rfl, rfl⟩ := hq
 have hnd := O.2.1
 obtain ⟨b, off, cap, r, e4, rfl, hA⟩ := Lay.apart_of_own O4 (by omega)
 simp only [Value.slice.injEq, true_and] at e4
 obtain ⟨rfl, rfl⟩ := e4
 obtain ⟨row, blk, hR, hOn, hbk, hsub, hput⟩ := Lay.own_upd O4 hk
 obtain ⟨an, dn, gn, rfl, rfl, hOw, n0, n2, n3, n5, n6⟩ := own_Node hOn
 have hbin := hbl b (by simp)
 have hbg : b ≠ g := fun e => hgb (by rw [← e]; simp)
 rw [List.nodup_append, List.nodup_append] at hnd
 obtain ⟨-, ⟨-, -, x4⟩, x2⟩ := hnd
 refine ⟨b, off, d4, an, dn, rfl, hbin.1, hbin.2, hbg, ⟨hR.len, hR.cells, hR.others, hR.soft, hR.lt, Ext.refl _ _⟩, ⟨n0, n2, n3, n5, n6⟩, fun V e => (O2.ext e (fun c hc e2 => x2 c hc b (by simp) e2)).reads, fun W2 n hw hwf hR2 => ?_⟩
 have hE : Ext (fun q => q = b) W W2 := hR2.ext.mono (fun k _ q => by rcases q with q | q; exact q; cases q)
 obtain ⟨m0, m2, m3, m5, m6⟩ := hwf
 have hOw2 := hOw.ext hE (fun c hc e => hbk (e ▸ hc))
 rw [← hw] at hOw2
 have hN := mkOwn_Node (x := n) hOw2 m0 m2 m3 m5 m6 hOw.2.1
 have O4' := hput W2 _ n ⟨hR2.len, hR2.cells, hR2.others, hR2.soft, hR2.lt, hE.mono (fun q _ e => Or.inl e)⟩ (by rw [← hw]; exact hN)
 have P2 := O2.ext hE (fun c hc e => x2 c hc b (by simp) e)
 have P5 := O5.ext hE (fun c hc e => x4 b (by simp) c (by simp [hc]) e.symm)
 have P6 := O6.ext hE (fun c hc e => x4 b (by simp) c (by simp [hc]) e.symm)
 exact ⟨_, mkOwn_World (x := setN y k n) P2 O4' P5 P6 w0 w1 O.2.1, hgb, fun c hc => ⟨(hbl c hc).1, Nat.lt_of_lt_of_le (hbl c hc).2 hE.size⟩⟩
end Go.Proofs.YtoanimpijfijgaaGreat

namespace Go.Proofs.YtoanimpijfijgaaGreat
open Go Go.RowKit Ieee
theorem fl_log2 {x : Nat} (hx : x ≠ 0) (S : Nat) : (x <<< S).log2 = x.log2 + S := by
 have h0 : x <<< S ≠ 0 := by
  rw [Nat.shiftLeft_eq]
  exact Nat.mul_ne_zero hx (Nat.pos_iff_ne_zero.1 (Nat.two_pow_pos S))
 have h := (Nat.log2_eq_iff hx).1 rfl
 refine (Nat.log2_eq_iff h0).2 ?_
 rw [Nat.shiftLeft_eq]
 constructor
 ·
  rw [Nat.pow_add]; exact Nat.mul_le_mul_right _ h.1
 rw [show x.log2 + S + 1 = (x.log2 + 1) + S by omega, Nat.pow_add]
 exact Nat.mul_lt_mul_of_pos_right h.2 (Nat.two_pow_pos S)
def rung (x : Nat) : Nat := if x = 0 then 0 else (1022 + x.log2) * 2 ^ 52 + x <<< (52 - x.log2)
theorem fl_bounds {x : Nat} (hx : x ≠ 0) (hl : x.log2 ≤ 52) : 2 ^ 52 ≤ x <<< (52 - x.log2) ∧ x <<< (52 - x.log2) < 2 ^ 53 := by
 have h := (Nat.log2_eq_iff hx).1 rfl
 rw [Nat.shiftLeft_eq]
 constructor
 ·
  calc 2 ^ 52 = 2 ^ x.log2 * 2 ^ (52 - x.log2) := by rw [← Nat.pow_add]; congr 1; omega
   _ ≤ _ := Nat.mul_le_mul_right _ h.1
 calc x * 2 ^ (52 - x.log2) < 2 ^ (x.log2 + 1) * 2 ^ (52 - x.log2) := Nat.mul_lt_mul_of_pos_right h.2 (Nat.two_pow_pos _)
  _ = 2 ^ 53 := by rw [← Nat.pow_add]; congr 1; omega
theorem fl_cut (n d : Nat) (hd : d ≤ n.log2 + 2) (q : Nat) (h : n = q <<< d) : Toward.even.cut false n d = q := by
 unfold Toward.cut
 have hm : min d (n.log2 + 2) = d := Nat.min_eq_left hd
 simp only [hm]
 have hg : (1 <<< d) = 2 ^ d := by rw [Nat.shiftLeft_eq, Nat.one_mul]
 have hp := Nat.two_pow_pos d
 rw [hg, h, Nat.shiftLeft_eq, Nat.mul_div_cancel _ hp, Nat.mul_mod_left]
 have h1 : decide (2 ^ d < 2 * 0) = false := by simp
 have h2 : (2 ^ d == 2 * 0) = false := by
  simp
 rw [h1, h2]
 simp
theorem fl_nearest {x : Nat} (hl : x.log2 ≤ 52) (S : Nat) (hS : 52 - x.log2 ≤ S) (_h1 : S ≤ 1074) : double.nearest false (x <<< S) (-(S : Int)) = rung x := by
 by_cases hx : x = 0
 ·
  subst hx
  simp [Format.nearest, rung, Format.word]
 have h0 : x <<< S ≠ 0 := by
  rw [Nat.shiftLeft_eq]
  exact Nat.mul_ne_zero hx (Nat.pos_iff_ne_zero.1 (Nat.two_pow_pos S))
 have hb := fl_bounds hx hl
 unfold Format.nearest rung
 rw [if_neg h0, if_neg hx]
 have hleast : double.leastPlace = -1074 := by decide
 have hfr : double.fractionBits = 52 := rfl
 have hbin : double.binade = 2 ^ 52 := rfl
 have hlast : max (-(S : Int) + ((x <<< S).log2 : Nat) - (double.fractionBits : Nat)) double.leastPlace = (x.log2 : Int) - 52 := by
  rw [fl_log2 hx, hfr, hleast]
  omega
 simp only [hlast]
 simp only [hleast, hbin]
 have e1 : (-(S : Int) - ((x.log2 : Int) - 52)).toNat = 0 := by omega
 have e2 : ((x.log2 : Int) - 52 - -(S : Int)).toNat = S - (52 - x.log2) := by omega
 have e3 : ((x.log2 : Int) - 52 - -1074).toNat = 1022 + x.log2 := by omega
 rw [e1, e2, e3, Nat.shiftLeft_zero]
 rw [fl_cut (x <<< S) (S - (52 - x.log2)) (by rw [fl_log2 hx]; omega) (x <<< (52 - x.log2)) (by
  rw [← Nat.shiftLeft_add]; congr 1; omega)]
 have hinf : double.infRung = 2047 * 2 ^ 52 := by decide
 rw [hinf, Nat.min_eq_left (by omega)]
 rfl
theorem fl_of {x : Nat} (hl : x.log2 ≤ 52) : floatOfInt .f64 (x : Int) = rung x := by
 have h := fl_nearest hl (52 - x.log2) (Nat.le_refl _) (by omega)
 show double.nearest (decide ((x : Int) < 0)) x 0 = rung x
 have hn : decide ((x : Int) < 0) = false := by simp
 rw [hn, ← h]
 by_cases hx : x = 0
 ·
  subst hx; simp [Format.nearest, Format.word]
 have h0 : x <<< (52 - x.log2) ≠ 0 := by
  have := (fl_bounds hx hl).1
  omega
 unfold Format.nearest
 rw [if_neg h0, if_neg hx]
 have hleast : double.leastPlace = -1074 := by decide
 have hfr : double.fractionBits = 52 := rfl
 have hlast : max (-((52 - x.log2 : Nat) : Int) + ((x <<< (52 - x.log2)).log2 : Nat) - (double.fractionBits : Nat)) double.leastPlace = (x.log2 : Int) - 52 := by
  rw [fl_log2 hx, hfr, hleast]
  omega
 have hlast0 : max ((0 : Int) + (x.log2 : Nat) - (double.fractionBits : Nat)) double.leastPlace = (x.log2 : Int) - 52 := by
  rw [hfr, hleast]
  omega
 simp only [hlast, hlast0]
 have e1 : (-((52 - x.log2 : Nat) : Int) - ((x.log2 : Int) - 52)).toNat = 0 := by omega
 have e2 : ((x.log2 : Int) - 52 - -((52 - x.log2 : Nat) : Int)).toNat = 0 := by omega
 have e3 : ((0 : Int) - ((x.log2 : Int) - 52)).toNat = 52 - x.log2 := by omega
 have e4 : ((x.log2 : Int) - 52 - 0).toNat = 0 := by omega
 rw [e1, e2, e3, e4, Nat.shiftLeft_zero]
theorem fl_read {x : Nat} (hx : x ≠ 0) (hl : x.log2 ≤ 52) : double.read (rung x) = .number false (x <<< (52 - x.log2)) (-((52 - x.log2 : Nat) : Int)) := by
 have hb := fl_bounds hx hl
 have hr : rung x = (1022 + x.log2) * 2 ^ 52 + x <<< (52 - x.log2) := by unfold rung; rw [if_neg hx]
 have hs : double.signWeight = 2 ^ 63 := rfl
 have hbin : double.binade = 2 ^ 52 := rfl
 have hinf : double.infRung = 2047 * 2 ^ 52 := by decide
 have hleast : double.leastPlace = -1074 := by decide
 have hm : rung x % 2 ^ 63 = rung x := Nat.mod_eq_of_lt (by omega)
 have hd : rung x / 2 ^ 63 = 0 := Nat.div_eq_of_lt (by omega)
 unfold Format.read
 simp only [hs, hbin, hinf, hleast, hm, hd]
 rw [if_neg (by omega), if_pos (by omega)]
 congr 1
 ·
  omega
 omega
theorem fl_int {x : Nat} (hl : x.log2 ≤ 52) (k : IntKind) (hk : k.min ≤ (x : Int) ∧ (x : Int) ≤ k.max) : floatToIntVal .f64 (rung x) k = some (x : Int) := by
 have ht : (FloatKind.f64.decode (rung x)).toInt .zero = some (x : Int) := by
  show (double.read (rung x)).toInt .zero = some (x : Int)
  by_cases hx : x = 0
  ·
   subst hx; decide
  rw [fl_read hx hl]
  unfold Datum.toInt Datum.integral
  have e1 : (-((52 - x.log2 : Nat) : Int)).toNat = 0 := by omega
  have e2 : (- -((52 - x.log2 : Nat) : Int)).toNat = 52 - x.log2 := by omega
  simp only [e1, e2, Nat.shiftLeft_zero]
  have hc : Toward.zero.cut false (x <<< (52 - x.log2)) (52 - x.log2) = x := by
   unfold Toward.cut
   have hm : min (52 - x.log2) ((x <<< (52 - x.log2)).log2 + 2) = 52 - x.log2 := Nat.min_eq_left (by rw [fl_log2 hx]; omega)
   simp only [hm]
   have hg : (1 <<< (52 - x.log2)) = 2 ^ (52 - x.log2) := by rw [Nat.shiftLeft_eq, Nat.one_mul]
   rw [hg, Nat.shiftLeft_eq, Nat.mul_div_cancel _ (Nat.two_pow_pos _)]
   rfl
  rw [hc]
  rfl
 unfold floatToIntVal
 rw [ht]
 simp only [hk.1, hk.2, and_self, if_true]
theorem fl_small {x : Nat} (h : x ≤ 1000000) : x.log2 ≤ 52 := by
 by_cases hx : x = 0
 ·
  subst hx; decide
 have := (Nat.log2_lt hx (k := 53)).2 (by omega)
 omega
end Go.Proofs.YtoanimpijfijgaaGreat

namespace Go.Proofs.YtoanimpijfijgaaGreat
open Go.RowKit
def fl (e : Int) : Nat := rung e.toNat
abbrev mom (e a : Int) : Value := .complex .f64 (fl e) (fl a)
theorem fl_ofInt {e : Int} (h : 0 ≤ e ∧ e ≤ 1000000) : floatOfInt .f64 e = fl e := by
 unfold fl
 have h1 : ((e.toNat : Nat) : Int) = e := by omega
 have := fl_of (fl_small (x := e.toNat) (by omega))
 rw [h1] at this
 exact this
theorem fl_toInt {e : Int} (h : 0 ≤ e ∧ e ≤ 1000000) (k : IntKind) (hk : k = .i64 ∨ k = .u64) : floatToIntVal .f64 (fl e) k = some e := by
 unfold fl
 have h1 : ((e.toNat : Nat) : Int) = e := by omega
 have := fl_int (fl_small (x := e.toNat) (by omega)) k (by
  rw [h1]
  rcases hk with rfl | rfl
  ·
   have a : IntKind.i64.min = -9223372036854775808 := by decide
   have b : IntKind.i64.max = 9223372036854775807 := by decide
   omega
  have a : IntKind.u64.min = 0 := by decide
  have b : IntKind.u64.max = 18446744073709551615 := by decide
  omega)
 rw [h1] at this
 exact this
theorem momentOfC (e a : Int) (he : 0 ≤ e ∧ e ≤ 1000000) (ha : 0 ≤ a ∧ a ≤ 1000000) (w : World) :
  Calls Tryz.prog 164 #[.int .i64 e, .int .u64 a] w fun r w' => r = .returned (mom e a) ∧ w' = w := by
 have f1 := fl_ofInt he
 have f2 := fl_ofInt ha
 go_enter Tryz.func164, Tryz.ntmps164
 go_wp2_with fail
 all_goals (go_ret; exact ⟨rfl, rfl⟩)
theorem epochC (e a : Int) (he : 0 ≤ e ∧ e ≤ 1000000) (w : World) :
  Calls Tryz.prog 235 #[mom e a] w fun r w' => r = .returned (.int .i64 e) ∧ w' = w := by
 have hc : ∀ w, (convert 249 2 (.float .f64 (fl e))).run Tryz.prog w = .ok (.int .i64 e) w := fun w => run_convert_float_int w 249 2 .f64 .i64 _ _ (by rw [Tryz.underlying249]; rfl) Tryz.underlying2 (fl_toInt he .i64 (Or.inl rfl))
 show Calls Tryz.prog 235 #[.complex .f64 (fl e) (fl a)] w _
 generalize fl e = re at *
 generalize fl a = ra at *
 go_enter Tryz.func235, Tryz.ntmps235
 go_wp2_with (simp only [hc])
 all_goals (go_ret; exact ⟨rfl, rfl⟩)
theorem timeC (e a : Int) (ha : 0 ≤ a ∧ a ≤ 1000000) (w : World) :
  Calls Tryz.prog 165 #[mom e a] w fun r w' => r = .returned (.int .u64 a) ∧ w' = w := by
 have hc : ∀ w, (convert 249 181 (.float .f64 (fl a))).run Tryz.prog w = .ok (.int .u64 a) w := fun w => run_convert_float_int w 249 181 .f64 .u64 _ _ (by rw [Tryz.underlying249]; rfl) Tryz.underlying181 (fl_toInt ha .u64 (Or.inr rfl))
 show Calls Tryz.prog 165 #[.complex .f64 (fl e) (fl a)] w _
 generalize fl e = re at *
 generalize fl a = ra at *
 go_enter Tryz.func165, Tryz.ntmps165
 go_wp2_with (simp only [hc])
 all_goals (go_ret; exact ⟨rfl, rfl⟩)
theorem wrap_u64 {a : Int} (h : 0 ≤ a ∧ a ≤ 1000000) : IntKind.u64.wrap a = a := by
 rw [IntKind.wrap_u64]
 omega
theorem clockOfC (t ev ep : Int) (v3 v4 v5 v6 : Value) (w : World) (he : 0 ≤ ep ∧ ep ≤ 999) (ht : 0 ≤ t ∧ t ≤ 9999) :
  Calls Tryz.prog 163 #[.agg #[.int .i64 t, .int .i64 ev, .int .i64 ep, v3, v4, v5, v6]] w fun e w' => e = .returned (mom ep t) ∧ Below w.heap.size w w' := by
 have nb : Below w.heap.size w (w.alloc (.cells #[.int .i64 t, .int .i64 ev, .int .i64 ep, v3, v4, v5, v6] 36)) := (Below.refl _ _).alloc (Nat.le_refl _) _
 have HX : Hid (Box 0 #[.int .i64 t, .int .i64 ev, .int .i64 ep, v3, v4, v5, v6] 36 (w.alloc (.cells #[.int .i64 t, .int .i64 ev, .int .i64 ep, v3, v4, v5, v6] 36)) w.heap.size) := newBox (Nat.zero_le _)
 have HB := yh nb
 have hw1 : IntKind.u64.wrap t = t := wrap_u64 (by omega)
 have HL := yh (momentOfC ep t (by omega) (by omega))
 clear nb he ht
 go_enter Tryz.func163, Tryz.ntmps163
 go_upto_region 1 with fail
 generalize w.alloc (.cells #[.int .i64 t, .int .i64 ev, .int .i64 ep, v3, v4, v5, v6] 36) = w1 at *
 have z0 := Box.at (uh HX) 0 _ rfl
 have z2 := Box.at (uh HX) 2 _ rfl
 simp only [ga, gb, gc] at z0 z2
 have zl := (uh HX).lt
 clear HX
 go_wp2_with fail
 refine (uh HL _).mono ?_
 rintro e w2 ⟨rfl, rfl⟩
 go_wp2_with fail
 go_ret
 exact ⟨rfl, uh HB⟩
theorem termOfC (n : DNode) (an : Option Addr) (dn : Nat) (w : World) (he : 0 ≤ n.epoch ∧ n.epoch ≤ 999) (ht : 0 ≤ n.lease ∧ n.lease ≤ 9999) :
  Calls Tryz.prog 239 #[.agg #[.int .i64 n.id, .bool n.up, .int .i64 n.epoch, .int .i64 n.lease, .slice an n.writes.length dn, .int .i64 n.sure, .int .i64 n.clean]] w fun e w' => e = .returned (mom n.epoch n.lease) ∧ Below w.heap.size w w' := by
 have nb : Below w.heap.size w (w.alloc (.cells #[.int .i64 n.id, .bool n.up, .int .i64 n.epoch, .int .i64 n.lease, .slice an n.writes.length dn, .int .i64 n.sure, .int .i64 n.clean] 84)) := (Below.refl _ _).alloc (Nat.le_refl _) _
 have HX : Hid (Box 0 #[.int .i64 n.id, .bool n.up, .int .i64 n.epoch, .int .i64 n.lease, .slice an n.writes.length dn, .int .i64 n.sure, .int .i64 n.clean] 84 (w.alloc (.cells #[.int .i64 n.id, .bool n.up, .int .i64 n.epoch, .int .i64 n.lease, .slice an n.writes.length dn, .int .i64 n.sure, .int .i64 n.clean] 84)) w.heap.size) := newBox (Nat.zero_le _)
 have HB := yh nb
 have hw1 : IntKind.u64.wrap n.lease = n.lease := wrap_u64 (by omega)
 have HL := yh (momentOfC n.epoch n.lease (by omega) (by omega))
 clear nb he ht
 go_enter Tryz.func239, Tryz.ntmps239
 go_upto_region 1 with fail
 generalize w.alloc (.cells #[.int .i64 n.id, .bool n.up, .int .i64 n.epoch, .int .i64 n.lease, .slice an n.writes.length dn, .int .i64 n.sure, .int .i64 n.clean] 84) = w1 at *
 have z2 := Box.at (uh HX) 2 _ rfl
 have z3 := Box.at (uh HX) 3 _ rfl
 simp only [ga, gb, gc] at z2 z3
 have zl := (uh HX).lt
 clear HX
 go_wp2_with fail
 refine (uh HL _).mono ?_
 rintro e w2 ⟨rfl, rfl⟩
 go_wp2_with fail
 go_ret
 exact ⟨rfl, uh HB⟩
theorem isLeasedC (n : DNode) (an : Option Addr) (dn : Nat) (c t : Int) (w : World) (he : 0 ≤ n.epoch ∧ n.epoch ≤ 999) (hl : 0 ≤ n.lease ∧ n.lease ≤ 9999) (ht : 0 ≤ t ∧ t ≤ 9999) :
  Calls Tryz.prog 172 #[.agg #[.int .i64 n.id, .bool n.up, .int .i64 n.epoch, .int .i64 n.lease, .slice an n.writes.length dn, .int .i64 n.sure, .int .i64 n.clean], mom c t] w fun e w' => e = .returned (.bool (decide (t ≤ n.lease))) ∧ Below w.heap.size w w' := by
 have nb : Below w.heap.size w (w.alloc (.cells #[.int .i64 n.id, .bool n.up, .int .i64 n.epoch, .int .i64 n.lease, .slice an n.writes.length dn, .int .i64 n.sure, .int .i64 n.clean] 84)) := (Below.refl _ _).alloc (Nat.le_refl _) _
 have HX : Hid (Box 0 #[.int .i64 n.id, .bool n.up, .int .i64 n.epoch, .int .i64 n.lease, .slice an n.writes.length dn, .int .i64 n.sure, .int .i64 n.clean] 84 (w.alloc (.cells #[.int .i64 n.id, .bool n.up, .int .i64 n.epoch, .int .i64 n.lease, .slice an n.writes.length dn, .int .i64 n.sure, .int .i64 n.clean] 84)) w.heap.size) := newBox (Nat.zero_le _)
 have HB := yh nb
 have HL := yh (fun w => termOfC n an dn w he hl)
 have HT := yh (timeC n.epoch n.lease (by omega))
 have HT2 := yh (timeC c t (by omega))
 show Calls Tryz.prog 172 #[.agg #[.int .i64 n.id, .bool n.up, .int .i64 n.epoch, .int .i64 n.lease, .slice an n.writes.length dn, .int .i64 n.sure, .int .i64 n.clean], .complex .f64 (fl c) (fl t)] w _
 have HT2' : Hid (∀ w, Calls Tryz.prog 165 #[.complex .f64 (fl c) (fl t)] w fun r w' => r = .returned (.int .u64 t) ∧ w' = w) := HT2
 clear nb he ht hl HT2
 generalize fl c = rc at *
 generalize fl t = rt at *
 go_enter Tryz.func172, Tryz.ntmps172
 go_upto_region 1 with fail
 generalize w.alloc (.cells #[.int .i64 n.id, .bool n.up, .int .i64 n.epoch, .int .i64 n.lease, .slice an n.writes.length dn, .int .i64 n.sure, .int .i64 n.clean] 84) = w1 at *
 have z0 := Box.at (uh HX) 0 _ rfl
 have z1 := Box.at (uh HX) 1 _ rfl
 have z2 := Box.at (uh HX) 2 _ rfl
 have z3 := Box.at (uh HX) 3 _ rfl
 have z4 := Box.at (uh HX) 4 _ rfl
 have z5 := Box.at (uh HX) 5 _ rfl
 have z6 := Box.at (uh HX) 6 _ rfl
 simp only [ga, gb, gc] at z0 z1 z2 z3 z4 z5 z6
 have zl := (uh HX).lt
 clear HX
 go_wp2_with fail
 refine (uh HL _).mono ?_
 rintro e w2 ⟨rfl, hb⟩
 replace HB := yh ((uh HB).trans (hb.mono (uh HB).size))
 clear hb z0 z1 z2 z3 z4 z5 z6 zl HL
 go_wp2_with fail
 refine (uh HT _).mono ?_
 rintro e w3 ⟨rfl, rfl⟩
 go_wp2_with fail
 refine (uh HT2' _).mono ?_
 rintro e w3 ⟨rfl, rfl⟩
 go_wp2_with fail
 go_ret
 exact ⟨rfl, uh HB⟩
theorem grantTermC (b o : Nat) (e a : Int) (v2 v3 : Value) (w : World) (he : 0 ≤ e ∧ e ≤ 1000000) (ha : 0 ≤ a ∧ a ≤ 1000000) (h2 : w.cell? ⟨b, o + 2, none⟩ = some v2) (h3 : w.cell? ⟨b, o + 3, none⟩ = some v3) (hf : ∀ q, w.frozen? ⟨b, q, none⟩ = false) :
  Calls Tryz.prog 167 #[.pointer (some ⟨b, o, none⟩), mom e a] w fun r w' => r = .returned (.tuple #[]) ∧ w' = (w.setCell ⟨b, o + 2, none⟩ (.int .i64 e)).setCell ⟨b, o + 3, none⟩ (.int .i64 a) := by
 have HE := yh (epochC e a he)
 have HT := yh (timeC e a ha)
 have hw1 : IntKind.i64.wrap a = a := by rw [IntKind.wrap_i64]; omega
 have hbl : b < w.heap.size := World.block_lt_of_cell? _ _ h2
 have f2 := hf (o + 2)
 have f3 := hf (o + 3)
 show Calls Tryz.prog 167 #[.pointer (some ⟨b, o, none⟩), .complex .f64 (fl e) (fl a)] w _
 have HE' : Hid (∀ w, Calls Tryz.prog 235 #[.complex .f64 (fl e) (fl a)] w fun r w' => r = .returned (.int .i64 e) ∧ w' = w) := HE
 have HT' : Hid (∀ w, Calls Tryz.prog 165 #[.complex .f64 (fl e) (fl a)] w fun r w' => r = .returned (.int .u64 a) ∧ w' = w) := HT
 clear HE HT he ha hf
 generalize fl e = re at *
 generalize fl a = ra at *
 go_enter Tryz.func167, Tryz.ntmps167
 go_wp2_with fail
 refine (uh HE' _).mono ?_
 rintro q w2 ⟨rfl, rfl⟩
 go_wp2_with fail
 refine (uh HT' _).mono ?_
 rintro q w3 ⟨rfl, rfl⟩
 go_wp2_with fail
 refine bodyPost_end (v := .tuple #[]) (by simp [results, Tryz.results167, go_sem]) rfl ?_
 exact ⟨rfl, rfl⟩
theorem installC (g lo : Nat) (ac : Option Addr) (dc : Nat) (e0 : Int) (v30 v4 v5 v6 : Value) (y : DWorld) (W : World) (hg : Box 0 #[.int .i64 y.now, .int .i64 y.events, .int .i64 e0, v30, v4, v5, v6] 36 W g) (hlo : lo ≤ g) (hO : WOwn W lo g [.int .i64 y.now, .int .i64 y.events, .int .i64 y.chain.epoch, .slice ac y.chain.ids.length dc, v4, v5, v6] y)
  (hi : ∀ z ∈ y.chain.ids, nodeIn y z = true) (h1 : 1 ≤ y.nodes.length) (h5 : y.nodes.length ≤ 5) (hid : ∀ i (h : i < y.nodes.length), y.nodes[i].id = (i : Int) + 1) (hes : ∀ i (h : i < y.nodes.length), (0 ≤ y.nodes[i].epoch ∧ y.nodes[i].epoch ≤ 999) ∧ 0 ≤ y.nodes[i].lease ∧ y.nodes[i].lease ≤ 9999) (he : 0 ≤ y.chain.epoch ∧ y.chain.epoch ≤ 999) (hn : y.chain.ids.length ≤ 1000) :
  Calls Tryz.prog 173 #[.pointer (some ⟨g, 0, none⟩), .agg #[.int .i64 y.chain.epoch, .slice ac y.chain.ids.length dc]] W fun e w' => e = .returned (.tuple #[]) ∧ Box 0 #[.int .i64 y.now, .int .i64 y.events, .int .i64 y.chain.epoch, .slice ac y.chain.ids.length dc, v4, v5, v6] 36 w' g ∧ WOwn w' lo g [.int .i64 y.now, .int .i64 y.events, .int .i64 y.chain.epoch, .slice ac y.chain.ids.length dc, v4, v5, v6] (instPW y y.chain.ids) ∧ Ext (fun q => lo ≤ q) W w' := by
 obtain ⟨b, off, d4, _, _, rfl, hb1, hb2, hbg, -, -, -, -⟩ := wown_upd hO (show 0 < y.nodes.length by omega)
 have nb : Below W.heap.size W (W.alloc (.cells #[.int .i64 y.chain.epoch, .slice ac y.chain.ids.length dc] 31)) := (Below.refl _ _).alloc (Nat.le_refl _) _
 have hCB : Box 0 #[.int .i64 y.chain.epoch, .slice ac y.chain.ids.length dc] 31 (W.alloc (.cells #[.int .i64 y.chain.epoch, .slice ac y.chain.ids.length dc] 31)) W.heap.size := newBox (Nat.zero_le _)
 have hgl := hg.lt
 have HG := yh (hg.keep nb)
 have HO := yh (hO.later nb)
 have HX : Hid (Ext (fun q => lo ≤ q) W (W.alloc (.cells #[.int .i64 y.chain.epoch, .slice ac y.chain.ids.length dc] 31))) := yh (ext_of_below nb _)
 have HCB := yh hCB
 have HI := yh hi
 have HID := yh hid
 have HES := yh hes
 have HE : Hid (0 ≤ y.chain.epoch ∧ y.chain.epoch ≤ 999) := he
 have HLO : Hid (lo ≤ b) := hb1
 have hcb : W.heap.size ≠ b := by omega
 have hgb : g ≠ b := fun e => hbg e.symm
 have hgc : g ≠ W.heap.size := by omega
 clear hi hid hes he nb hCB hg hO
 go_enter Tryz.func173, Tryz.ntmps173
 go_upto_region 1 with fail
 generalize W.alloc (.cells #[.int .i64 y.chain.epoch, .slice ac y.chain.ids.length dc] 31) = W1 at *
 have hcw : W.heap.size < W1.heap.size := (uh HCB).lt
 have c0 := Box.at (uh HCB) 0 _ rfl
 have c1 := Box.at (uh HCB) 1 _ rfl
 have g2 := Box.at (uh HG) 2 _ rfl
 have g3 := Box.at (uh HG) 3 _ rfl
 simp only [ga, gb, gc] at c0 c1 g2 g3
 have cl := (uh HCB).lt
 have gl := (uh HG).lt
 have gf := Box.soft (uh HG)
 have hg9 := Box.set (Box.set (uh HG) 2 (.int .i64 y.chain.epoch)) 3 (.slice ac y.chain.ids.length dc)
 simp only [List.setIfInBounds_toArray, List.set_cons_zero, List.set_cons_succ] at hg9
 have e9 : Ext (fun q => q = g) W1 ((W1.setCell ⟨g, 2, none⟩ (.int .i64 y.chain.epoch)).setCell ⟨g, 3, none⟩ (.slice ac y.chain.ids.length dc)) := ((Ext.refl (fun q => q = g) W1).setCell ⟨g, 2, none⟩ (.int .i64 y.chain.epoch) rfl).setCell ⟨g, 3, none⟩ (.slice ac y.chain.ids.length dc) rfl
 replace HCB := yh ((uh HCB).ext e9 (fun e => hgc e.symm))
 replace HO := yh ((uh HO).ext e9 (fun k h1 h2 h3 => h3))
 replace HX := yh ((uh HX).trans (e9.mono (fun q _ e => by omega)))
 replace HG := yh hg9
 have hz9 : ((W1.setCell ⟨g, 2, none⟩ (.int .i64 y.chain.epoch)).setCell ⟨g, 3, none⟩ (.slice ac y.chain.ids.length dc)).heap.size = W1.heap.size := by simp
 clear hg9 e9
 go_upto_region 2 with fail
 generalize hWW : (W1.setCell ⟨g, 2, none⟩ (.int .i64 y.chain.epoch)).setCell ⟨g, 3, none⟩ (.slice ac y.chain.ids.length dc) = W2 at *
 clear hWW c0 c1 g2 g3 cl gl gf
 have c1 := Box.at (uh HCB) 1 _ rfl
 simp only [ga, gb, gc] at c1
 have cl := (uh HCB).lt
 go_wp2_with fail
 clear c1 cl
 go_loopw [14] (fun i wr => ∃ j : Nat, j ≤ y.chain.ids.length ∧ i = .int .i64 j ∧ Box 0 #[.int .i64 y.now, .int .i64 y.events, .int .i64 y.chain.epoch, .slice ac y.chain.ids.length dc, .slice (some ⟨b, off, none⟩) y.nodes.length d4, v5, v6] 36 wr g ∧ WOwn wr lo g [.int .i64 y.now, .int .i64 y.events, .int .i64 y.chain.epoch, .slice ac y.chain.ids.length dc, .slice (some ⟨b, off, none⟩) y.nodes.length d4, v5, v6] (instPW y (y.chain.ids.take j)) ∧ Box 0 #[.int .i64 y.chain.epoch, .slice ac y.chain.ids.length dc] 31 wr W.heap.size ∧ Ext (fun q => lo ≤ q) W wr) (fun i _ => y.chain.ids.length - (intOf i).toNat)
 case atStart => exact ⟨0, Nat.zero_le _, rfl, uh HG, by rw [List.take_zero, instPW_nil]; exact uh HO, uh HCB, uh HX⟩
 case round =>
  clear HG HO HCB HX
  obtain ⟨j, hj, rfl, hG, hO, hCB, hX⟩ := hrel
  have HG := yh hG
  have HCB := yh hCB
  have HX := yh hX
  have HO := yh hO
  by_cases hlt : j < y.chain.ids.length
  ·
   have hz := uh HI _ (List.getElem_mem hlt)
   obtain ⟨k, hk, hzk⟩ := nodeIn_at hz
   have hop := open_World hO.reads
   dsimp only [instPW] at hop
   obtain ⟨_, _, _, _, _, _, _, _, hq, RC, -, -, -⟩ := hop
   simp only [List.cons.injEq, Value.slice.injEq, and_true, true_and] at hq
   obtain ⟨⟨rfl, rfl⟩, -⟩ := hq
   obtain ⟨_, _, hq2, RI⟩ := open_Chain RC
   simp only [List.cons.injEq, Value.slice.injEq, and_true, true_and] at hq2
   obtain ⟨rfl, rfl⟩ := hq2
   obtain ⟨bi, oi, rfl, hbi⟩ := Lay.sl_addr RI (show 0 < y.chain.ids.length by omega)
   have ci : wr.cell? ⟨bi, oi + j, none⟩ = some (.int .i64 ((k : Int) + 1)) := by
    have := int_cell RI hlt
    rw [← hzk]
    exact this
   have hk' : k < (instPW y (y.chain.ids.take j)).nodes.length := by show k < (y.nodes.map _).length; rw [List.length_map]; exact hk
   obtain ⟨b', off', d4', an, dn, e4, -, hb2', -, hR0, hwf, -, hput⟩ := wown_upd hO hk'
   simp only [Value.slice.injEq] at e4
   obtain ⟨e4a, -, rfl⟩ := e4
   simp only [Option.some.injEq, Addr.mk.injEq, and_true] at e4a
   obtain ⟨rfl, rfl⟩ := e4a
   have hmm : (instPW y (y.chain.ids.take j)).nodes[k] = instP y.chain.epoch (y.chain.ids.take j) y.nodes[k] := by simp [instPW]
   rw [hmm] at hput hR0 hwf
   have hu := instP_up y.chain.epoch (y.chain.ids.take j) y.nodes[k]
   have hes := uh HES k hk
   have HME : Hid (0 ≤ (instP y.chain.epoch (y.chain.ids.take j) y.nodes[k]).epoch ∧ (instP y.chain.epoch (y.chain.ids.take j) y.nodes[k]).epoch ≤ 999) := by
    rcases hu.2.2.2.2 with q | q
    ·
     show _ ∧ _; rw [q]; exact hes.1
    show _ ∧ _; rw [q]; exact uh HE
   have HML : Hid (0 ≤ (instP y.chain.epoch (y.chain.ids.take j) y.nodes[k]).lease ∧ (instP y.chain.epoch (y.chain.ids.take j) y.nodes[k]).lease ≤ 9999) := by
    show _ ∧ _; rw [hu.2.2.1]; exact hes.2
   have HSET : Hid (y.nodes[k].up = true → setN (instPW y (y.chain.ids.take j)) k (grantN (instP y.chain.epoch (y.chain.ids.take j) y.nodes[k]) y.chain.epoch) = instPW y (y.chain.ids.take (j + 1))) := fun q => by
    rw [instPW_set hk (uh HID) q, ← hzk, ← List.take_append_getElem hlt]
   have HSKIP : Hid (y.nodes[k].up = false → instPW y (y.chain.ids.take j) = instPW y (y.chain.ids.take (j + 1))) := fun q => by
    rw [instPW_skip hk (uh HID) q, ← hzk, ← List.take_append_getElem hlt]
   have hup := hu.1
   have hmid := hu.2.1
   generalize hm : instP y.chain.epoch (y.chain.ids.take j) y.nodes[k] = m at *
   rw [← hup] at HSET HSKIP
   have hdl : decide ((j : Int) < (y.chain.ids.length : Int)) = true := by simp; omega
   have hw1 : IntKind.i64.wrap (k : Int) = (k : Int) := by
    rw [IntKind.wrap_i64]
    omega
   have hki : (k : Int) < (y.nodes.length : Int) := by omega
   have hki0 : (0 : Int) ≤ (k : Int) := by omega
   have HPUT := yh hput
   have HWF := yh hwf
   have HRW : Hid (RowAt wr wr b (off + k * 7) 7 [.int .i64 m.id, .bool m.up, .int .i64 m.epoch, .int .i64 m.lease, .slice an m.writes.length dn, .int .i64 m.sure, .int .i64 m.clean] []) := by
    exact ⟨hR0.len, hR0.cells, hR0.others, hR0.soft, hR0.lt, Ext.refl _ _⟩
   have g4 := Box.at hG 4 _ rfl
   simp only [ga, gb, gc] at g4
   have gl := hG.lt
   have x1 : wr.cell? ⟨b, off + k * 7 + 1, none⟩ = some (.bool m.up) := (uh HRW).cells 1 (by decide)
   clear hO hG hCB hX RC RI hR0 hput hwf hu hes hmm hup hz hmid
   cases hu2 : m.up
   ·
    have HO1 : Hid (WOwn wr lo g [.int .i64 y.now, .int .i64 y.events, .int .i64 y.chain.epoch, .slice (some ⟨bi, oi, none⟩) y.chain.ids.length dc, .slice (some ⟨b, off, none⟩) y.nodes.length d4, v5, v6] (instPW y (y.chain.ids.take (j + 1)))) := by
     have := uh HO
     rw [uh HSKIP hu2] at this
     exact this
    rw [hu2] at x1
    clear HSET HSKIP HPUT HWF HRW HO
    go_wp2_with fail
    go_roundw
    case rel => exact ⟨j + 1, by omega, by go_num, uh HG, uh HO1, uh HCB, uh HX⟩
    case measure => simp [intOf]; omega
   rw [hu2] at x1
   have HSS := yh (uh HSET hu2)
   clear hu2
   have hc0 : wr.cell? ⟨b, off + k * 7, none⟩ = some (.int .i64 m.id) := (uh HRW).cells 0 (by decide)
   have hc1 : wr.cell? ⟨b, off + k * 7 + 1, none⟩ = some (.bool m.up) := (uh HRW).cells 1 (by decide)
   have hc2 : wr.cell? ⟨b, off + k * 7 + 2, none⟩ = some (.int .i64 m.epoch) := (uh HRW).cells 2 (by decide)
   have hc3 : wr.cell? ⟨b, off + k * 7 + 3, none⟩ = some (.int .i64 m.lease) := (uh HRW).cells 3 (by decide)
   have hc4 : wr.cell? ⟨b, off + k * 7 + 4, none⟩ = some (.slice an m.writes.length dn) := (uh HRW).cells 4 (by decide)
   have hc5 : wr.cell? ⟨b, off + k * 7 + 5, none⟩ = some (.int .i64 m.sure) := (uh HRW).cells 5 (by decide)
   have hc6 : wr.cell? ⟨b, off + k * 7 + 6, none⟩ = some (.int .i64 m.clean) := (uh HRW).cells 6 (by decide)
   have HBW : Hid (Below wr.heap.size wr wr.drew) := (Below.refl _ _).drew
   clear HSET HSKIP HO
   go_upto_region 7 with fail
   refine wp_region_noPanic ?_
   refine wp_region_held_drew (S := fun w' => Ext (fun q => q = b) wr w') (by kernel_rfl) ((Ext.refl _ _).drew 1) (fun zq => ?_)
   generalize wr.drew = wE at zq HBW ⊢
   refine tkH 0 zq ?_
   refine tkH 1 zq ?_
   refine tkJ 2 (v := ?vc2) ?hc2 zq ?rc2
   case hc2 =>
    intro wS hSw
    have bS := (uh HCB).ext hSw (fun e => hcb e)
    have q0 := Box.at bS 0 _ rfl
    simp only [List.getElem_toArray, List.getElem_cons_zero] at q0
    clear bS hSw
    (try dsimp only at hSw)
    go_simp
    try with_reducible rfl
   refine tkH 3 zq ?_
   refine tkH 4 zq ?_
   refine rdH 5 (fun K hK => ?_)
   have c0 : wE.cell? ⟨b, off + k * 7, none⟩ = some (.int .i64 m.id) := cell_keep (uh HBW) hc0
   have c1 : wE.cell? ⟨b, off + k * 7 + 1, none⟩ = some (.bool m.up) := cell_keep (uh HBW) hc1
   have c2 : wE.cell? ⟨b, off + k * 7 + 2, none⟩ = some (.int .i64 m.epoch) := cell_keep (uh HBW) hc2
   have c3 : wE.cell? ⟨b, off + k * 7 + 3, none⟩ = some (.int .i64 m.lease) := cell_keep (uh HBW) hc3
   have c4 : wE.cell? ⟨b, off + k * 7 + 4, none⟩ = some (.slice an m.writes.length dn) := cell_keep (uh HBW) hc4
   have c5 : wE.cell? ⟨b, off + k * 7 + 5, none⟩ = some (.int .i64 m.sure) := cell_keep (uh HBW) hc5
   have c6 : wE.cell? ⟨b, off + k * 7 + 6, none⟩ = some (.int .i64 m.clean) := cell_keep (uh HBW) hc6
   go_simp
   refine hK.out _ _ zq (fun zq => ?_)
   clear hK K
   try simp only [Act.put, pz, py, px]
   refine rdH 6 (fun K hK => ?_)
   go_simp
   go_at_call 239
   refine (termOfC m an dn _ (uh HME) (uh HML)).mono ?_
   rintro e v ⟨rfl, hbv⟩
   dsimp only [mom]
   try go_wp2_with fail
   replace HBW := yh ((uh HBW).trans (hbv.mono (uh HBW).size))
   refine hK.out _ _ (zq.trans (ext_of_below hbv _)) (fun zq => ?_)
   clear hK K
   try simp only [Act.put, pz, py, px]
   refine rdH 7 (fun K hK => ?_)
   go_simp
   go_at_call 165
   refine (timeC m.epoch m.lease ⟨(uh HML).1, by have := (uh HML).2; omega⟩ _).mono ?_
   rintro e v2 ⟨rfl, rfl⟩
   try go_wp2_with fail
   refine hK.out _ _ zq (fun zq => ?_)
   clear hK K
   try simp only [Act.put, pz, py, px]
   refine rdH 8 (fun K hK => ?_)
   go_simp
   go_at_call 164
   refine (momentOfC y.chain.epoch m.lease ⟨(uh HE).1, by have := (uh HE).2; omega⟩ ⟨(uh HML).1, by have := (uh HML).2; omega⟩ _).mono ?_
   rintro e v2 ⟨rfl, rfl⟩
   dsimp only [mom]
   try go_wp2_with fail
   refine hK.out _ _ zq (fun zq => ?_)
   clear hK K
   try simp only [Act.put, pz, py, px]
   refine rdH 9 (fun K hK => ?_)
   go_simp
   go_at_call 167
   have hR3 := (uh HRW).call (g := []) (ext_of_below (uh HBW) _) (fun _ h => h) (by simp)
   have HR3 := yh hR3
   refine (grantTermC b (off + k * 7) y.chain.epoch m.lease _ _ _ ⟨(uh HE).1, by have := (uh HE).2; omega⟩ ⟨(uh HML).1, by have := (uh HML).2; omega⟩ (hR3.cells 2 (by decide)) (hR3.cells 3 (by decide)) (fun q => hR3.soft q)).mono ?_
   clear hR3
   rintro e u9 ⟨rfl, hu9⟩
   have HU9 := yh hu9
   clear hu9
   try go_wp2_with fail
   refine hK.out _ _ (by rw [uh HU9]; exact (zq.setCell _ _ rfl).setCell _ _ rfl) (fun zq => ?_)
   clear hK K
   try simp only [Act.put, pz, py, px]
   refine wpAnyH_done (by kernel_rfl) ?_ _
   refine NoPanic.normal ?_
   have hR9 := (uh HR3).set 2 (.int .i64 y.chain.epoch) (by decide)
   have hR9 := hR9.set 3 (.int .i64 m.lease) (by decide)
   rw [← uh HU9] at hR9
   simp only [List.set_cons_succ, List.set_cons_zero] at hR9
   have hO9 := uh HPUT u9 (grantN m y.chain.epoch) rfl ⟨(uh HWF).1, wf_of_bd (by have := uh HE; show -1000000000 ≤ y.chain.epoch ∧ y.chain.epoch ≤ 1000000000; omega), (uh HWF).2.2.1, (uh HWF).2.2.2.1, (uh HWF).2.2.2.2⟩ ⟨hR9.len, hR9.cells, hR9.others, hR9.soft, hR9.lt, hR9.ext⟩
   rw [uh HSS] at hO9
   have HO9 := yh hO9
   have HG9 := yh ((uh HG).ext zq hgb)
   have HCB9 := yh ((uh HCB).ext zq hcb)
   have HX9 := yh ((uh HX).trans (zq.mono (fun q _ e => by have := uh HLO; rw [e]; exact this)) : Ext (fun q => lo ≤ q) W u9)
   clear hO9 hR9 HR3 HPUT HWF HSS zq HG HCB HX HRW HU9 HBW hc0 hc1 hc2 hc3 hc4 hc5 hc6 x1 g4 gl
   go_wp2_with fail
   go_roundw
   case rel => exact ⟨j + 1, by omega, by go_num, uh HG9, uh HO9, uh HCB9, uh HX9⟩
   case measure => simp [intOf]; omega
  obtain rfl : j = y.chain.ids.length := by omega
  have hdl : decide ((y.chain.ids.length : Int) < (y.chain.ids.length : Int)) = false := by simp
  rw [List.take_length] at hO
  have HO9 := yh hO
  clear hO HO hG hCB hX
  go_wp2_with fail
  refine bodyPost_end (v := .tuple #[]) (by simp [results, Tryz.results173, go_sem]) rfl ?_
  exact ⟨rfl, uh HG, uh HO9, uh HX⟩
theorem run_append_zeros_nilI (w : World) (k : Nat) (h0 : 0 < k) (hbig : k ≤ 100000000) (ty : TypeId) :
  ∃ G w1, (Builtin.append_ #[22, 3] ty #[.slice none 0 0, .int .i64 k]).run Tryz.prog w = .ok (.slice (some ⟨w.heap.size, 0, none⟩) k G) w1 ∧ k ≤ G ∧
   w1.ownsRow w.heap.size 2 1 (.slice (some ⟨w.heap.size, 0, none⟩) 0 G) 0 [] ∧ Below w.heap.size w w1 := by
 obtain ⟨i0, hi, hz0, hz1, hz2⟩ := info_parts info2
 have hr := Lib.run_append_nil_zeros w 22 3 ty 2 i0 _ .i64 .i64 Tryz.underlying22 Tryz.underlying3 hi hz0 k h0 (by omega) (by omega) (by rw [hz2]; omega)
 have hge := grownCap_ge w k 0 2
 have hle := grownCap_le_maxLen w k 0 2 (by unfold maxLen; omega)
 generalize grownCap w k 0 2 = G at *
 have hzl : ∀ q, (Builtin.zeroCells (Value.int .i64 0).cells q).size = q * 1 := fun q => by rw [size_zeroCells]; rfl
 refine ⟨G, _, hr, hge, ⟨rfl, .inr ⟨w.heap.size, G, _, rfl, Nat.le_refl _, heap_alloc_new w.drew _, Nat.zero_le _, hle, ?_, by simp⟩⟩, ?_⟩
 ·
  rw [Array.size_append, hzl, hzl]
  omega
 exact ((Below.refl _ _).drew).alloc (Nat.le_refl _) _
theorem implGrowI (n : Nat) (w : World) (hn : n ≤ 100000000) :
  Calls Tryz.prog 284 #[.slice none 0 0, .int .i64 n] w fun e w' => ∃ r, e = .returned r ∧ w'.ownsRow w.heap.size 2 1 r 0 [] ∧ Below w.heap.size w w' := by
 have hneg : ¬ ((n : Int) < 0) := by omega
 by_cases h0 : n = 0
 ·
  subst h0
  go_enter Tryz.func284, Tryz.ntmps284
  go_wp2_with fail
  go_ret
  exact ⟨_, rfl, World.ownsRow_nil _ _ _ _, Below.refl _ _⟩
 obtain ⟨G, w1, hr, hG, O1, B1⟩ := run_append_zeros_nilI w n (by omega) hn 22
 have HO := yh O1
 have HB := yh B1
 have hpos : decide ((0 : Int) < (n : Int)) = true := by simp; omega
 clear O1 B1
 go_enter Tryz.func284, Tryz.ntmps284
 go_wp2_with (at_builtin; refine Lib.wpList_append_run _ rfl _ _ _ _ rfl _ _ rfl rfl _ _ hr ?_)
 go_ret
 exact ⟨_, rfl, uh HO, uh HB⟩
theorem implConcatI (vb : Nat) (u v : Value) (a b : List Int) (w : World) (k0 : w.cell? ⟨vb, 0, none⟩ = some u) (k1 : w.cell? ⟨vb, 1, none⟩ = some v) (ha : IsInts w u a) (hb : IsInts w v b) (hna : a.length ≤ 1000) (hnb : b.length ≤ 1000) :
  Calls Tryz.prog 238 #[.slice (some ⟨vb, 0, none⟩) 2 2] w fun e w' => ∃ r, e = .returned r ∧ w'.ownsRow w.heap.size 2 1 r (a ++ b).length ((a ++ b).map (Value.int .i64)) ∧ Below w.heap.size w w' := by
 have HA := yh ha
 have HBv := yh hb
 obtain ⟨au, cu, rfl, -⟩ := ha
 obtain ⟨av, cv, rfl, -⟩ := hb
 have HVB := yh (World.block_lt_of_cell? _ _ k1)
 have HK1 := yh k1
 have hn1 : ¬ ((a.length : Int) < 0) := by omega
 have hn2 : ¬ ((a.length : Int) + (b.length : Int) < 0) := by omega
 go_enter Tryz.func238, Tryz.ntmps238
 go_wp2_with fail
 refine wp_loop_rounds 3 ?_
 rw [rounds_succ]
 go_wp2_with fail
 rw [rounds_succ]
 go_wp2_with fail
 rw [rounds_succ]
 go_wp2_with fail
 have e1 : (a.length : Int) + (b.length : Int) = ((a.length + b.length : Nat) : Int) := by omega
 rw [e1]
 refine (implGrowI (a.length + b.length) _ (by omega)).mono ?_
 rintro e w1 ⟨r, rfl, O1, B1⟩
 obtain ⟨a1, c1, rfl⟩ := own_shape O1
 have hvb := uh HVB
 replace k0 : w1.cell? ⟨vb, 0, none⟩ = some _ := (B1.cell (p := ⟨vb, 0, none⟩) hvb).trans k0
 replace k1 : w1.cell? ⟨vb, 1, none⟩ = some _ := (B1.cell (p := ⟨vb, 1, none⟩) hvb).trans k1
 have I1 := (uh HA).later B1
 have HB1 := yh B1
 have hs1 := B1.size
 clear B1 e1
 go_wp2_with fail
 refine wp_loop_rounds 3 ?_
 rw [rounds_succ]
 go_wp2_with (at_builtin; refine wpList_append_ints O1 I1 rfl _ _ rfl rfl rfl (by omega) hs1 ?_)
 intro v2 w2 O2 G2 _
 have hown1 := O1
 have B2 : Below w.heap.size w w2 := (uh HB1).grown G2 hs1 (fun q hq => (hown1.lt q hq).1)
 obtain ⟨a2, c2, rfl⟩ := own_shape O2
 have k2 : w2.cell? ⟨vb, 1, none⟩ = some (.slice av b.length cv) := (B2.cell (p := ⟨vb, 1, none⟩) hvb).trans (uh HK1)
 have I2 := (uh HBv).later B2
 have hs2 := B2.size
 have HB2 := yh B2
 clear O1 I1 G2 k0 k1 B2 hs1 HB1 hown1
 go_wp2_with fail
 rw [rounds_succ]
 go_wp2_with (at_builtin; refine wpList_append_ints O2 I2 rfl _ _ rfl rfl rfl (by omega) hs2 ?_)
 intro v3 w3 O3 G3 _
 have B3 : Below w.heap.size w w3 := (uh HB2).grown G3 hs2 (fun q hq => (O2.lt q hq).1)
 have HO3 := yh O3
 have HB3 := yh B3
 clear O2 I2 G3 k2 B3 O3 HB2
 go_wp2_with fail
 rw [rounds_succ]
 go_wp2_with fail
 go_ret
 refine ⟨_, rfl, ?_, uh HB3⟩
 have h9 := uh HO3
 simpa using h9
theorem changedC (ep : Int) (a : Option Addr) (n d : Nat) (a2 : Option Addr) (n2 d2 : Nat) (w : World) (hep : 1 ≤ ep ∧ ep ≤ 999) :
  Calls Tryz.prog 237 #[.agg #[.int .i64 ep, .slice a n d], .slice a2 n2 d2] w fun e w' => ∃ c e2 a3 n3 d3, e = .returned (.agg #[.int .i64 c, .int .i64 e2, .slice a3 n3 d3]) ∧ (ep = 999 ∧ c = 2 ∧ e2 = 0 ∧ (a3 = none ∧ n3 = 0 ∧ d3 = 0) ∨ ep < 999 ∧ c = 0 ∧ e2 = ep + 1 ∧ (a3 = a2 ∧ n3 = n2 ∧ d3 = d2)) ∧ Below w.heap.size w w' := by
 have HB : Hid (∀ o1 o2, Below w.heap.size w ((w.alloc o1).alloc o2)) := fun o1 o2 => ((Below.refl _ _).alloc (Nat.le_refl _) o1).alloc (by simp) o2
 by_cases h : ep = 999
 ·
  have hd : (ep == 999) = true := by simpa using h
  have HE := yh h
  clear h
  go_enter Tryz.func237, Tryz.ntmps237
  go_wp2_with fail
  refine bodyPost_ret (v := .agg #[.int .i64 2, .int .i64 0, .slice none 0 0]) (by simp [results, Tryz.results237, go_sem]) rfl ?_
  exact ⟨_, _, _, _, _, rfl, Or.inl ⟨uh HE, rfl, rfl, rfl, rfl, rfl⟩, uh HB _ _⟩
 have hd : (ep == 999) = false := by simpa using h
 have HE : Hid (ep < 999) := by show ep < 999; omega
 clear h
 go_enter Tryz.func237, Tryz.ntmps237
 go_wp2_with fail
 refine bodyPost_ret (v := .agg #[.int .i64 0, .int .i64 (ep + 1), .slice a2 n2 d2]) (by simp [results, Tryz.results237, go_sem]) rfl ?_
 exact ⟨_, _, _, _, _, rfl, Or.inr ⟨uh HE, rfl, rfl, rfl, rfl, rfl⟩, uh HB _ _⟩
theorem cut_parts {x : DChain} (ok : ChainOK x) {id : Int} {k : Nat} (hk : k < x.ids.length) (hat : x.ids[k] = id) (hb : ∀ j (hj : j < k), x.ids[j] ≠ id) : (x.ids.filter fun z => z != id) = x.ids.take k ++ x.ids.drop (k + 1) := by
 have e : x.ids = x.ids.take k ++ (id :: x.ids.drop (k + 1)) := by
  rw [← hat, ← List.drop_eq_getElem_cons hk, List.take_append_drop]
 have hnd := ok.nodup
 rw [e] at hnd
 obtain ⟨-, h2, -⟩ := List.nodup_append.1 hnd
 have h3 := (List.nodup_cons.1 h2).1
 conv => lhs; rw [e]
 rw [List.filter_append, List.filter_cons_of_neg (by simp)]
 congr 1
 ·
  rw [List.filter_eq_self]
  intro z hz
  obtain ⟨j, hj, rfl⟩ := List.getElem_of_mem hz
  rw [List.length_take] at hj
  rw [List.getElem_take]
  simpa using hb j (by omega)
 rw [List.filter_eq_self]
 intro z hz
 simp only [bne_iff_ne, ne_eq]
 intro e2
 rw [e2] at hz
 exact h3 hz
theorem implCutChain (cs : List Value) (x : DChain) (id : Int) (w : World) (h : Lay.tChain.Reads w cs x) :
  Calls Tryz.prog 171 #[.agg cs.toArray, .int .i64 id] w fun e w' => ∃ cs, e = .returned (.agg cs.toArray) ∧ Lay.tChainResult.OwnIn w' cs (cutR x id) w.heap.size w'.heap.size ∧ Below w.heap.size w w' := by
 obtain ⟨a, d, rfl, R⟩ := open_Chain h
 have nb : Below w.heap.size w ((w.alloc (.cells #[.int .i64 x.epoch, .slice a x.ids.length d] 31)).alloc (.cells #[.int .i64 0, .int .i64 0, .slice none 0 0] 111)) := ((Below.refl _ _).alloc (Nat.le_refl _) _).alloc (by simp) _
 have hX : ChainAt ((w.alloc (.cells #[.int .i64 x.epoch, .slice a x.ids.length d] 31)).alloc (.cells #[.int .i64 0, .int .i64 0, .slice none 0 0] 111)) w.heap.size (.slice a x.ids.length d) x := (newBox (Nat.zero_le _)).grow _
 have bR : Box 0 #[.int .i64 0, .int .i64 0, .slice none 0 0] 111 ((w.alloc (.cells #[.int .i64 x.epoch, .slice a x.ids.length d] 31)).alloc (.cells #[.int .i64 0, .int .i64 0, .slice none 0 0] 111)) (w.heap.size + 1) := newBoxAt (Nat.zero_le _) (by simp)
 have HF := yh (implChainFault _ x _ (h.later nb))
 have HR1 := yh R
 have HWF := yh (int_wf R)
 have HB := yh nb
 have HX := yh hX
 have HR := yh bR
 have x0 : ((w.alloc (.cells #[.int .i64 x.epoch, .slice a x.ids.length d] 31)).alloc (.cells #[.int .i64 0, .int .i64 0, .slice none 0 0] 111)).cell? ⟨w.heap.size, 0, none⟩ = some (.int .i64 x.epoch) := hX.at 0 _ rfl
 have x1 : ((w.alloc (.cells #[.int .i64 x.epoch, .slice a x.ids.length d] 31)).alloc (.cells #[.int .i64 0, .int .i64 0, .slice none 0 0] 111)).cell? ⟨w.heap.size, 1, none⟩ = some (.slice a x.ids.length d) := hX.at 1 _ rfl
 clear h R nb hX bR
 go_enter Tryz.func171, Tryz.ntmps171
 go_wp2_with fail
 generalize (w.alloc (.cells #[.int .i64 x.epoch, .slice a x.ids.length d] 31)).alloc (.cells #[.int .i64 0, .int .i64 0, .slice none 0 0] 111) = W0 at *
 refine (uh HF).mono ?_
 rintro e W ⟨rfl, hb⟩
 replace HX := yh ((uh HX).keep hb)
 replace HR := yh ((uh HR).keep hb)
 replace HB := yh ((uh HB).trans (hb.mono (uh HB).size))
 clear HF hb x0 x1
 have x0 : W.cell? ⟨w.heap.size, 0, none⟩ = some (.int .i64 x.epoch) := (uh HX).at 0 _ rfl
 have x1 : W.cell? ⟨w.heap.size, 1, none⟩ = some (.slice a x.ids.length d) := (uh HX).at 1 _ rfl
 have z0 : W.cell? ⟨w.heap.size + 1, 0, none⟩ = some (.int .i64 0) := (uh HR).at 0 _ rfl
 have z1 : W.cell? ⟨w.heap.size + 1, 1, none⟩ = some (.int .i64 0) := (uh HR).at 1 _ rfl
 have z2 : W.cell? ⟨w.heap.size + 1, 2, none⟩ = some (.slice none 0 0) := (uh HR).at 2 _ rfl
 have ff := (uh HR).soft
 have l0 := (uh HR).lt
 have xl := (uh HX).lt
 have H := yh ((uh HR1).later (uh HB))
 by_cases hc : chainFault x = 0
 ·
  have ok := chainFault_zero hc
  have hlen := ok.len
  have hep := ok.epoch
  have HOK := yh ok
  have HV0 : Hid (cutR x id = _) := (if_pos hc)
  rw [hc]
  clear hc ok
  have HA := yh (indexI _ x.ids id W (uh H))
  go_wp2_with fail
  refine (uh HA).mono ?_
  rintro e w1 ⟨rfl, h1⟩
  subst w1
  clear HA
  by_cases h0 : placeC x.ids id < 0
  ·
   have HV : Hid (cutR x id = badChain 4) := (uh HV0).trans (if_pos h0)
   have hd0 : decide (placeC x.ids id < 0) = true := by simpa using h0
   clear HV0
   generalize placeC x.ids id = p at *
   have HB2 := yh (below_setAll (uh HB) (w.heap.size + 1) 0 [.int .i64 (4), .int .i64 0, .slice none 0 0] (by omega))
   clear HB
   go_wp2_with fail
   refine bodyPost_ret (v := .agg #[.int .i64 (4), .int .i64 0, .slice none 0 0]) (by simp [results, Tryz.results171, go_sem, z0, z1, z2]) rfl ?_
   rw [uh HV]
   exact ⟨_, rfl, own_badChain (by omega), uh HB2⟩
  obtain ⟨k, hk, hpk, hat, hbef⟩ := placeC_get (by omega : 0 ≤ placeC x.ids id)
  have HCUT := yh (cut_parts (uh HOK) hk hat hbef)
  have HV1 := yh ((uh HV0).trans (if_neg h0))
  rw [hpk]
  clear HV0 h0 hat hbef hpk
  by_cases h1 : x.ids.length = 1
  ·
   have HV : Hid (cutR x id = badChain 8) := (uh HV1).trans (if_pos h1)
   have hd1 : ((x.ids.length : Int) == 1) = true := by rw [h1]; rfl
   clear HV1 h1
   have HB2 := yh (below_setAll (uh HB) (w.heap.size + 1) 0 [.int .i64 (8), .int .i64 0, .slice none 0 0] (by omega))
   clear HB
   go_wp2_with fail
   refine bodyPost_ret (v := .agg #[.int .i64 (8), .int .i64 0, .slice none 0 0]) (by simp [results, Tryz.results171, go_sem, z0, z1, z2]) rfl ?_
   rw [uh HV]
   exact ⟨_, rfl, own_badChain (by omega), uh HB2⟩
  have HV2 : Hid (cutR x id = if 999 ≤ x.epoch then badChain 2 else ⟨0, ⟨x.epoch + 1, x.ids.take k ++ x.ids.drop (k + 1)⟩⟩) := by
   refine ((uh HV1).trans (if_neg h1)).trans ?_
   rw [cutCh, uh HCUT]
  have hd1 : ((x.ids.length : Int) == 1) = false := by rw [beq_eq_false_iff_ne]; omega
  have hcap := (uh H).cap
  clear HV1 h1 HCUT
  obtain ⟨b2, off, rfl, -⟩ := Lay.sl_addr (uh H) (by omega)
  have HWJ : Hid (∀ z ∈ x.ids.take k ++ x.ids.drop (k + 1), (Lit.int .i64 z).wf = true) := fun z hz => by
   rcases List.mem_append.1 hz with hz | hz
   ·
    exact uh HWF z (List.mem_of_mem_take hz)
   exact uh HWF z (List.mem_of_mem_drop hz)
  have HP1 : Hid (∀ w', Below (w.heap.size + 1) W w' → (Lay.sl Lay.int).Reads w' [.slice (some ⟨b2, off, none⟩) k d] (x.ids.take k)) := fun w' hw => take_reads ((uh HR1).later ((uh HB).trans (hw.mono (by omega)))) k (by omega)
  have hkd : k ≤ d := by omega
  by_cases hend : k + 1 = d
  ·
   have HP2 : Hid (∀ w', Below (w.heap.size + 1) W w' → (Lay.sl Lay.int).Reads w' [.slice (some ⟨b2, off, none⟩) 0 0] (x.ids.drop (k + 1))) := fun w' hw => by
    have e0 : x.ids.drop (k + 1) = [] := List.drop_eq_nil_of_le (by omega)
    rw [e0]
    exact Lay.reads_ints ⟨_, _, rfl, by simp, fun hp => by simp at hp⟩ (fun _ _ e => by simp) (by simp)
   have hln : x.ids.length = k + 1 := by omega
   have HLN := yh hln
   clear hln
   clear z0 z1 z2 ff
   have hRD := Box.drew (uh HR)
   have hzD : W.heap.size ≤ W.drew.heap.size := Nat.le_refl _
   have hlW := l0
   clear l0
   go_wp2_with fail
   refine wp_region_noPanic ?_
   refine wp_region_held_drew (S := fun w' => Below (w.heap.size + 1) W w') (by kernel_rfl) (Below.refl _ _).drew (fun zq => ?_)
   generalize W.drew = wD at zq hRD hzD ⊢
   refine tkJ 0 (v := ?vc0_1) ?hc0_1 zq ?rc0_1
   case hc0_1 =>
    intro wS hSw
    have e0 : wS.cell? ⟨w.heap.size, 0, none⟩ = some (.int .i64 x.epoch) := (hSw.cell (p := ⟨w.heap.size, 0, none⟩) (by show w.heap.size < w.heap.size + 1; omega)).trans x0
    have e1 : wS.cell? ⟨w.heap.size, 1, none⟩ = some (.slice (some ⟨b2, off, none⟩) x.ids.length d) := (hSw.cell (p := ⟨w.heap.size, 1, none⟩) (by show w.heap.size < w.heap.size + 1; omega)).trans x1
    clear hSw
    (try dsimp only at hSw)
    go_simp
    try with_reducible rfl
   refine tkH 1 zq ?_
   refine tkJ 2 (v := ?vc2_3) ?hc2_3 zq ?rc2_3
   case hc2_3 =>
    intro wS hSw
    have e1 : wS.cell? ⟨w.heap.size, 1, none⟩ = some (.slice (some ⟨b2, off, none⟩) x.ids.length d) := (hSw.cell (p := ⟨w.heap.size, 1, none⟩) (by show w.heap.size < w.heap.size + 1; omega)).trans x1
    clear hSw
    (try dsimp only at hSw)
    go_simp
    try with_reducible rfl
   refine tkH 3 zq ?_
   refine tkJ 4 (v := ?vc4_5) ?hc4_5 zq ?rc4_5
   case hc4_5 =>
    intro wS hSw
    clear hSw
    (try dsimp only at hSw)
    go_simp
    try with_reducible rfl
   refine tkH 5 zq ?_
   refine tkJ 6 (v := ?vc6_7) ?hc6_7 zq ?rc6_7
   case hc6_7 =>
    intro wS hSw
    have e1 : wS.cell? ⟨w.heap.size, 1, none⟩ = some (.slice (some ⟨b2, off, none⟩) x.ids.length d) := (hSw.cell (p := ⟨w.heap.size, 1, none⟩) (by show w.heap.size < w.heap.size + 1; omega)).trans x1
    clear hSw
    (try dsimp only at hSw)
    go_simp
    try with_reducible rfl
   refine tkH 7 zq ?_
   refine tkJ 8 (v := ?vc8_9) ?hc8_9 zq ?rc8_9
   case hc8_9 =>
    intro wS hSw
    clear hSw
    have hwr : IntKind.i64.wrap ((k : Int) + 1) = (k : Int) + 1 := by rw [IntKind.wrap_i64]; omega
    (try dsimp only at hSw)
    go_simp
    try with_reducible rfl
   refine tkJ 9 (v := ?vc9_10) ?hc9_10 zq ?rc9_10
   case hc9_10 =>
    intro wS hSw
    clear hSw
    have h8 : (0 : Int) ≤ (k : Int) + 1 := by omega
    have h9 : (k : Int) + 1 ≤ (x.ids.length : Int) := by omega
    (try dsimp only at hSw)
    go_simp
    try with_reducible rfl
   refine rdH 10 (fun K hK => ?_)
   have b7 : Box 0 #[.slice (some ⟨b2, off, none⟩) k d, .slice (some ⟨b2, off, none⟩) 0 0] 22 (wD.alloc (.cells #[.slice (some ⟨b2, off, none⟩) k d, .slice (some ⟨b2, off, none⟩) 0 0] 22)) wD.heap.size := newBox (Nat.zero_le _)
   have nb7 : Below wD.heap.size wD (wD.alloc (.cells #[.slice (some ⟨b2, off, none⟩) k d, .slice (some ⟨b2, off, none⟩) 0 0] 22)) := (Below.refl _ _).alloc (Nat.le_refl _) _
   have hR7 := hRD.keep nb7
   have hS7 := zq.trans (nb7.mono (by omega))
   have hz7 := nb7.size
   go_simp
   try go_wp2_with fail
   refine hK.out _ _ hS7 (fun zq => ?_)
   clear hK K
   try simp only [Act.put, pz, py, px]
   refine rdH 11 (fun K hK => ?_)
   go_simp
   go_at_call 238
   refine (implConcatI _ _ _ (x.ids.take k) (x.ids.drop (k + 1)) _ (b7.at 0 _ rfl) (b7.at 1 _ rfl) (Lay.ints_reads (uh HP1 _ zq)) (Lay.ints_reads (uh HP2 _ zq)) (by rw [List.length_take]; omega) (by rw [List.length_drop]; omega)).mono ?_
   rintro e w5 ⟨v5, rfl, O5, hb5⟩
   obtain ⟨m, hm⟩ : ∃ m, m = (x.ids.take k ++ x.ids.drop (k + 1)).length := ⟨_, rfl⟩
   rw [← hm] at O5
   have HM := yh hm
   clear hm
   obtain ⟨a9, c9, rfl⟩ := own_shape O5
   have hS5 := hS7.trans (hb5.mono (by omega))
   have hR5 := hR7.keep hb5
   replace O5 := own_mono (b' := W.heap.size) (by omega) O5
   try go_wp2_with fail
   refine hK.out _ _ hS5 (fun zq => ?_)
   clear hK K
   try simp only [Act.put, pz, py, px]
   refine rdH 12 (fun K hK => ?_)
   go_simp
   go_at_call 237
   have hz5 := hS5.size
   refine (changedC x.epoch _ _ _ _ _ _ w5 (by omega)).mono ?_
   rintro e w6 ⟨c, e2, a3, n3, d3, rfl, hch, hb6⟩
   have hS6 := hS5.trans (hb6.mono (by omega))
   have hR6 := hR5.keep hb6
   have O6 := own_below O5 hb6
   have hz6 := hb6.size
   have z0 := Box.at hR6 0 _ rfl
   have z1 := Box.at hR6 1 _ rfl
   have z2 := Box.at hR6 2 _ rfl
   simp only [ga, gb, gc] at z0 z1 z2
   have ff := Box.soft hR6
   have l0 := Box.lt hR6
   have HOW : Hid (Lay.tChainResult.OwnIn w6 [.int .i64 c, .int .i64 e2, .slice a3 n3 d3] (cutR x id) W.heap.size w6.heap.size) := by
    rcases hch with ⟨h9, rfl, rfl, q3⟩ | ⟨h9, rfl, rfl, q3⟩
    ·
     obtain ⟨rfl, rfl, rfl⟩ := q3
     rw [uh HV2, if_pos (by omega)]
     exact own_badChain (by decide)
    obtain ⟨rfl, rfl, rfl⟩ := q3
    rw [uh HV2, if_neg (by omega)]
    refine own_chainR (c := 0) (x := ⟨x.epoch + 1, x.ids.take k ++ x.ids.drop (k + 1)⟩) (by decide) (wf_of_bd (by simp only; omega)) (own_intsC (zs := x.ids.take k ++ x.ids.drop (k + 1)) (uh HWJ) (by rw [List.length_append, List.length_take, List.length_drop]; omega) ?_)
    first | exact O6 | (rw [← uh HM]; exact O6) | simpa using O6
   clear hch
   try go_wp2_with fail
   refine hK.out _ _ hS6 (fun zq => ?_)
   clear hK K
   try simp only [Act.put, pz, py, px]
   refine rdH 13 (fun K hK => ?_)
   go_simp
   try go_wp2_with fail
   refine hK.out _ _ (below_setAll hS6 (w.heap.size + 1) 0 [.int .i64 c, .int .i64 e2, .slice a3 n3 d3] (by omega)) (fun zq => ?_)
   clear hK K
   try simp only [Act.put, pz, py, px]
   refine wpAnyH_done (by kernel_rfl) ?_ _
   refine NoPanic.normal ?_
   have HO3 : Hid (Lay.tChainResult.OwnIn (setAll w6 (w.heap.size + 1) 0 [.int .i64 c, .int .i64 e2, .slice a3 n3 d3]) [.int .i64 c, .int .i64 e2, .slice a3 n3 d3] (cutR x id) W.heap.size w6.heap.size) := own_store' (s := w.heap.size + 1) (vs := [.int .i64 c, .int .i64 e2, .slice a3 n3 d3]) (uh HOW) hlW
   have HB2 := yh ((uh HB).trans ((below_setAll hS6 (w.heap.size + 1) 0 [.int .i64 c, .int .i64 e2, .slice a3 n3 d3] (by omega)).mono (by omega)))
   have HSF := yh (size_setAll w6 (w.heap.size + 1) 0 [.int .i64 c, .int .i64 e2, .slice a3 n3 d3])
   have hlo : w.heap.size ≤ W.heap.size := by omega
   clear zq hS5 hR5 O5 hS6 hR6 O6 hb6 hRD HOW
   go_wp2_with fail
   refine bodyPost_ret (v := .agg #[.int .i64 c, .int .i64 e2, .slice a3 n3 d3]) (by simp [results, Tryz.results171, go_sem, z0, z1, z2]) rfl ?_
   exact ⟨[.int .i64 c, .int .i64 e2, .slice a3 n3 d3], rfl, (uh HO3).mono hlo (Nat.le_of_eq (uh HSF).symm), uh HB2⟩
  have HP2 : Hid (∀ w', Below (w.heap.size + 1) W w' → (Lay.sl Lay.int).Reads w' [.slice (some ⟨b2, off + (k + 1), none⟩) (x.ids.length - (k + 1)) (d - (k + 1))] (x.ids.drop (k + 1))) := fun w' hw => by
   have q := part_reads ((uh HR1).later ((uh HB).trans (hw.mono (by omega)))) (k + 1) (x.ids.length - (k + 1)) (d - (k + 1)) (by omega) (by omega)
   rw [List.take_of_length_le (by rw [List.length_drop]; exact Nat.le_refl _)] at q
   exact q
  clear z0 z1 z2 ff
  have hRD := Box.drew (uh HR)
  have hzD : W.heap.size ≤ W.drew.heap.size := Nat.le_refl _
  have hlW := l0
  clear l0
  go_wp2_with fail
  refine wp_region_noPanic ?_
  refine wp_region_held_drew (S := fun w' => Below (w.heap.size + 1) W w') (by kernel_rfl) (Below.refl _ _).drew (fun zq => ?_)
  generalize W.drew = wD at zq hRD hzD ⊢
  refine tkJ 0 (v := ?vd0_1) ?hd0_1 zq ?rd0_1
  case hd0_1 =>
   intro wS hSw
   have e0 : wS.cell? ⟨w.heap.size, 0, none⟩ = some (.int .i64 x.epoch) := (hSw.cell (p := ⟨w.heap.size, 0, none⟩) (by show w.heap.size < w.heap.size + 1; omega)).trans x0
   have e1 : wS.cell? ⟨w.heap.size, 1, none⟩ = some (.slice (some ⟨b2, off, none⟩) x.ids.length d) := (hSw.cell (p := ⟨w.heap.size, 1, none⟩) (by show w.heap.size < w.heap.size + 1; omega)).trans x1
   clear hSw
   (try dsimp only at hSw)
   go_simp
   try with_reducible rfl
  refine tkH 1 zq ?_
  refine tkJ 2 (v := ?vd2_3) ?hd2_3 zq ?rd2_3
  case hd2_3 =>
   intro wS hSw
   have e1 : wS.cell? ⟨w.heap.size, 1, none⟩ = some (.slice (some ⟨b2, off, none⟩) x.ids.length d) := (hSw.cell (p := ⟨w.heap.size, 1, none⟩) (by show w.heap.size < w.heap.size + 1; omega)).trans x1
   clear hSw
   (try dsimp only at hSw)
   go_simp
   try with_reducible rfl
  refine tkH 3 zq ?_
  refine tkJ 4 (v := ?vd4_5) ?hd4_5 zq ?rd4_5
  case hd4_5 =>
   intro wS hSw
   clear hSw
   (try dsimp only at hSw)
   go_simp
   try with_reducible rfl
  refine tkH 5 zq ?_
  refine tkJ 6 (v := ?vd6_7) ?hd6_7 zq ?rd6_7
  case hd6_7 =>
   intro wS hSw
   have e1 : wS.cell? ⟨w.heap.size, 1, none⟩ = some (.slice (some ⟨b2, off, none⟩) x.ids.length d) := (hSw.cell (p := ⟨w.heap.size, 1, none⟩) (by show w.heap.size < w.heap.size + 1; omega)).trans x1
   clear hSw
   (try dsimp only at hSw)
   go_simp
   try with_reducible rfl
  refine tkH 7 zq ?_
  refine tkJ 8 (v := ?vd8_9) ?hd8_9 zq ?rd8_9
  case hd8_9 =>
   intro wS hSw
   clear hSw
   have hwr : IntKind.i64.wrap ((k : Int) + 1) = (k : Int) + 1 := by rw [IntKind.wrap_i64]; omega
   (try dsimp only at hSw)
   go_simp
   try with_reducible rfl
  refine tkJ 9 (v := ?vd9_10) ?hd9_10 zq ?rd9_10
  case hd9_10 =>
   intro wS hSw
   clear hSw
   have h8 : (0 : Int) ≤ (k : Int) + 1 := by omega
   have h9 : (k : Int) + 1 ≤ (x.ids.length : Int) := by omega
   (try dsimp only at hSw)
   go_simp
   try with_reducible rfl
  refine rdH 10 (fun K hK => ?_)
  have b7 : Box 0 #[.slice (some ⟨b2, off, none⟩) k d, .slice (some ⟨b2, off + (k + 1), none⟩) (x.ids.length - (k + 1)) (d - (k + 1))] 22 (wD.alloc (.cells #[.slice (some ⟨b2, off, none⟩) k d, .slice (some ⟨b2, off + (k + 1), none⟩) (x.ids.length - (k + 1)) (d - (k + 1))] 22)) wD.heap.size := newBox (Nat.zero_le _)
  have nb7 : Below wD.heap.size wD (wD.alloc (.cells #[.slice (some ⟨b2, off, none⟩) k d, .slice (some ⟨b2, off + (k + 1), none⟩) (x.ids.length - (k + 1)) (d - (k + 1))] 22)) := (Below.refl _ _).alloc (Nat.le_refl _) _
  have hR7 := hRD.keep nb7
  have hS7 := zq.trans (nb7.mono (by omega))
  have hz7 := nb7.size
  go_simp
  try go_wp2_with fail
  refine hK.out _ _ hS7 (fun zq => ?_)
  clear hK K
  try simp only [Act.put, pz, py, px]
  refine rdH 11 (fun K hK => ?_)
  go_simp
  go_at_call 238
  refine (implConcatI _ _ _ (x.ids.take k) (x.ids.drop (k + 1)) _ (b7.at 0 _ rfl) (b7.at 1 _ rfl) (Lay.ints_reads (uh HP1 _ zq)) (Lay.ints_reads (uh HP2 _ zq)) (by rw [List.length_take]; omega) (by rw [List.length_drop]; omega)).mono ?_
  rintro e w5 ⟨v5, rfl, O5, hb5⟩
  obtain ⟨m, hm⟩ : ∃ m, m = (x.ids.take k ++ x.ids.drop (k + 1)).length := ⟨_, rfl⟩
  rw [← hm] at O5
  have HM := yh hm
  clear hm
  obtain ⟨a9, c9, rfl⟩ := own_shape O5
  have hS5 := hS7.trans (hb5.mono (by omega))
  have hR5 := hR7.keep hb5
  replace O5 := own_mono (b' := W.heap.size) (by omega) O5
  try go_wp2_with fail
  refine hK.out _ _ hS5 (fun zq => ?_)
  clear hK K
  try simp only [Act.put, pz, py, px]
  refine rdH 12 (fun K hK => ?_)
  go_simp
  go_at_call 237
  have hz5 := hS5.size
  refine (changedC x.epoch _ _ _ _ _ _ w5 (by omega)).mono ?_
  rintro e w6 ⟨c, e2, a3, n3, d3, rfl, hch, hb6⟩
  have hS6 := hS5.trans (hb6.mono (by omega))
  have hR6 := hR5.keep hb6
  have O6 := own_below O5 hb6
  have hz6 := hb6.size
  have z0 := Box.at hR6 0 _ rfl
  have z1 := Box.at hR6 1 _ rfl
  have z2 := Box.at hR6 2 _ rfl
  simp only [ga, gb, gc] at z0 z1 z2
  have ff := Box.soft hR6
  have l0 := Box.lt hR6
  have HOW : Hid (Lay.tChainResult.OwnIn w6 [.int .i64 c, .int .i64 e2, .slice a3 n3 d3] (cutR x id) W.heap.size w6.heap.size) := by
   rcases hch with ⟨h9, rfl, rfl, q3⟩ | ⟨h9, rfl, rfl, q3⟩
   ·
    obtain ⟨rfl, rfl, rfl⟩ := q3
    rw [uh HV2, if_pos (by omega)]
    exact own_badChain (by decide)
   obtain ⟨rfl, rfl, rfl⟩ := q3
   rw [uh HV2, if_neg (by omega)]
   refine own_chainR (c := 0) (x := ⟨x.epoch + 1, x.ids.take k ++ x.ids.drop (k + 1)⟩) (by decide) (wf_of_bd (by simp only; omega)) (own_intsC (zs := x.ids.take k ++ x.ids.drop (k + 1)) (uh HWJ) (by rw [List.length_append, List.length_take, List.length_drop]; omega) ?_)
   first | exact O6 | (rw [← uh HM]; exact O6) | simpa using O6
  clear hch
  try go_wp2_with fail
  refine hK.out _ _ hS6 (fun zq => ?_)
  clear hK K
  try simp only [Act.put, pz, py, px]
  refine rdH 13 (fun K hK => ?_)
  go_simp
  try go_wp2_with fail
  refine hK.out _ _ (below_setAll hS6 (w.heap.size + 1) 0 [.int .i64 c, .int .i64 e2, .slice a3 n3 d3] (by omega)) (fun zq => ?_)
  clear hK K
  try simp only [Act.put, pz, py, px]
  refine wpAnyH_done (by kernel_rfl) ?_ _
  refine NoPanic.normal ?_
  have HO3 : Hid (Lay.tChainResult.OwnIn (setAll w6 (w.heap.size + 1) 0 [.int .i64 c, .int .i64 e2, .slice a3 n3 d3]) [.int .i64 c, .int .i64 e2, .slice a3 n3 d3] (cutR x id) W.heap.size w6.heap.size) := own_store' (s := w.heap.size + 1) (vs := [.int .i64 c, .int .i64 e2, .slice a3 n3 d3]) (uh HOW) hlW
  have HB2 := yh ((uh HB).trans ((below_setAll hS6 (w.heap.size + 1) 0 [.int .i64 c, .int .i64 e2, .slice a3 n3 d3] (by omega)).mono (by omega)))
  have HSF := yh (size_setAll w6 (w.heap.size + 1) 0 [.int .i64 c, .int .i64 e2, .slice a3 n3 d3])
  have hlo : w.heap.size ≤ W.heap.size := by omega
  clear zq hS5 hR5 O5 hS6 hR6 O6 hb6 hRD HOW
  go_wp2_with fail
  refine bodyPost_ret (v := .agg #[.int .i64 c, .int .i64 e2, .slice a3 n3 d3]) (by simp [results, Tryz.results171, go_sem, z0, z1, z2]) rfl ?_
  exact ⟨[.int .i64 c, .int .i64 e2, .slice a3 n3 d3], rfl, (uh HO3).mono hlo (Nat.le_of_eq (uh HSF).symm), uh HB2⟩
 have HV := yh (cutR_bad (id := id) hc)
 have hv := chainFault_vals x
 have hc2 : (chainFault x != 0) = true := by simpa using hc
 clear hc
 generalize chainFault x = f at *
 have HB2 := yh (below_setAll (uh HB) (w.heap.size + 1) 0 [.int .i64 (f), .int .i64 0, .slice none 0 0] (by omega))
 clear HB
 go_wp2_with fail
 refine bodyPost_ret (v := .agg #[.int .i64 (f), .int .i64 0, .slice none 0 0]) (by simp [results, Tryz.results171, go_sem, z0, z1, z2]) rfl ?_
 rw [uh HV]
 exact ⟨_, rfl, own_badChain (by omega), uh HB2⟩
theorem removeStepC (L k p : Nat) (y : DWorld) (W : World) (hp : Box 0 #[.int .i64 ((k : Int) + 1)] 2 W p) (_ : p < L) (hk : k < y.nodes.length) (hn5 : y.nodes.length ≤ 5) (hi : ∀ z ∈ y.chain.ids, nodeIn y z = true) (hid : ∀ i (h : i < y.nodes.length), y.nodes[i].id = (i : Int) + 1) (hes : ∀ i (h : i < y.nodes.length), (0 ≤ y.nodes[i].epoch ∧ y.nodes[i].epoch ≤ 999) ∧ 0 ≤ y.nodes[i].lease ∧ y.nodes[i].lease ≤ 9999) (hcf : chainFault y.chain = 0) (ht : 0 ≤ y.now ∧ y.now ≤ 9000) :
  StepC L 170 #[.pointer (some ⟨p, 0, none⟩)] y (removeC y ((k : Int) + 1)) true (removed y ((k : Int) + 1)) W := by
 intro g lo v3 v4 v5 v6 hL hg hlo hO
 show Calls Tryz.prog 170 #[.pointer (some ⟨g, 0, none⟩), .pointer (some ⟨p, 0, none⟩)] W _
 obtain ⟨a3o, d3o, _, _, _, _, _, _, hq, RC, -, -, -⟩ := open_World hO.reads
 simp only [List.cons.injEq, and_true, true_and] at hq
 obtain ⟨rfl, -, -, -⟩ := hq
 have g2c := Box.at hg 2 _ rfl
 have g3c := Box.at hg 3 _ rfl
 have hp0 := Box.at hp 0 _ rfl
 simp only [ga, gb, gc] at g2c g3c hp0
 have hgl := hg.lt
 have hpl := hp.lt
 have HM := yh RC
 have HG0 := yh hg
 have HP0 := yh hp
 have HO := yh hO
 have HI := yh hi
 have HID := yh hid
 have HES := yh hes
 have HCF := yh hcf
 have HT : Hid (0 ≤ y.now ∧ y.now ≤ 9000) := ht
 have HE : Hid (0 ≤ y.chain.epoch ∧ y.chain.epoch ≤ 999) := ⟨by have := (chainFault_zero hcf).epoch; omega, (chainFault_zero hcf).epoch.2⟩
 have HCB := yh (cutR_bd y.chain ((k : Int) + 1))
 clear hp hg hO RC hi hid hes hcf ht
 go_enter Tryz.func170, Tryz.ntmps170
 go_upto_region 1 with fail
 go_cut [5] from 7 to 12 (fun s5 wx => ∃ (wz : World) (g5 : Nat), ∃ a5, ∃ m5, ∃ d5, wz = wx ∧ s5 = .pointer (some ⟨g5, 0, none⟩) ∧ Box 0 #[.int .i64 (cutR y.chain ((k : Int) + 1)).code, .int .i64 (cutR y.chain ((k : Int) + 1)).chain.epoch, .slice a5 m5 d5] 111 wz g5 ∧ (Lay.sl Lay.int).OwnIn wz [.slice a5 m5 d5] (cutR y.chain ((k : Int) + 1)).chain.ids W.heap.size wz.heap.size ∧ W.heap.size ≤ g5 ∧ Below W.heap.size W wz)
 case first =>
  have HDS : W.heap.size ≤ W.drew.heap.size := Nat.le_refl _
  refine wp_region_noPanic ?_
  refine wp_region_held_drew (S := fun w' => Below W.heap.size W w') (by kernel_rfl) ((Below.refl _ _).drew) (fun zq => ?_)
  generalize W.drew = wD at zq HDS ⊢
  refine tkH 0 zq ?_
  refine tkH 1 zq ?_
  refine tkH 2 zq ?_
  refine tkJ 3 (v := ?vk3_4) ?hk3_4 zq ?rk3_4
  case hk3_4 =>
   intro wS hSw
   have q2 := (hSw.cell (p := ⟨g, 2, none⟩) hgl).trans g2c
   have q3 := (hSw.cell (p := ⟨g, 3, none⟩) hgl).trans g3c
   clear hSw
   (try dsimp only at hSw)
   go_simp
   try with_reducible rfl
  refine tkJ 4 (v := ?vk4_5) ?hk4_5 zq ?rk4_5
  case hk4_5 =>
   intro wS hSw
   have q0 := (hSw.cell (p := ⟨p, 0, none⟩) hpl).trans hp0
   clear hSw
   (try dsimp only at hSw)
   go_simp
   try with_reducible rfl
  refine wpAnyH_ready (rs := [5, 6]) (by kernel_rfl) (by simp) ?_
  refine AllReadyH.cons (o := ⟨some 12, .call { callee := .value (.func 171), args := #[.tmp 10, .tmp 11], argTypes := #[31, 2] }, 111, "l13_master.go:96", #[⟨3, .data⟩, ⟨4, .data⟩], none⟩) rfl (fun K hK => ?ok5_6) (AllReadyH.cons (o := ⟨some 5, .alloc 111, 0, "l13_master.go:96", #[], none⟩) rfl (fun K hK => ?ok6_6) (AllReadyH.nil))
  case ok5_6 =>
   go_simp
   go_at_call 171
   refine (implCutChain _ y.chain ((k : Int) + 1) _ ((uh HM).later zq)).mono ?_
   rintro e u ⟨us, rfl, O0, hbu⟩
   obtain ⟨a5, m5, d5, rfl, -, O, -⟩ := own_chainR_parts O0
   have hzu := hbu.size
   try go_wp2_with fail
   refine hK.out _ _ (zq.trans (hbu.mono zq.size)) (fun zq => ?_)
   clear hK K
   try simp only [Act.put, pz, py, px]
   refine rdH 6 (fun K hK => ?_)
   have hHA := zq
   go_simp
   refine hK.out _ _ (zq.alloc zq.size _) (fun zq => ?_)
   clear hK K
   try simp only [Act.put, pz, py, px]
   refine rdH 7 (fun K hK => ?_)
   go_simp
   refine hK.out _ _ (hHA.alloc hHA.size _) (fun zq => ?_)
   clear hK K
   try simp only [Act.put, pz, py, px]
   refine wpAnyH_done (by kernel_rfl) ?_ _
   refine NoPanic.normal ?_
   go_wp2_with fail
   go_meet
   have nb2 : Below u.heap.size u (u.alloc (.cells #[.int .i64 (cutR y.chain ((k : Int) + 1)).code, .int .i64 (cutR y.chain ((k : Int) + 1)).chain.epoch, .slice a5 m5 d5] 111)) := (Below.refl _ _).alloc (Nat.le_refl _) _
   have hzn : u.heap.size < (u.alloc (.cells #[.int .i64 (cutR y.chain ((k : Int) + 1)).code, .int .i64 (cutR y.chain ((k : Int) + 1)).chain.epoch, .slice a5 m5 d5] 111)).heap.size := by simp
   have hzz := hHA.size
   have OO := (show (Lay.sl Lay.int).OwnIn (u.alloc (.cells #[.int .i64 (cutR y.chain ((k : Int) + 1)).code, .int .i64 (cutR y.chain ((k : Int) + 1)).chain.epoch, .slice a5 m5 d5] 111)) [.slice a5 m5 d5] (cutR y.chain ((k : Int) + 1)).chain.ids W.heap.size (u.alloc (.cells #[.int .i64 (cutR y.chain ((k : Int) + 1)).code, .int .i64 (cutR y.chain ((k : Int) + 1)).chain.epoch, .slice a5 m5 d5] 111)).heap.size from ((O.later nb2).mono (by omega) (by omega)))
   exact ⟨_, u.heap.size, a5, m5, d5, rfl, rfl, newBox (Nat.zero_le _), OO, by omega, zq⟩
  case ok6_6 =>
   have HG : Hid (Box 0 #[.int .i64 0, .int .i64 0, .slice none 0 0] 111 (wD.alloc (.cells #[.int .i64 0, .int .i64 0, .slice none 0 0] 111)) wD.heap.size) := newBox (Nat.zero_le _)
   have hza : wD.heap.size < (wD.alloc (.cells #[.int .i64 0, .int .i64 0, .slice none 0 0] 111)).heap.size := by simp
   go_simp
   refine hK.out _ _ (zq.alloc zq.size _) (fun zq => ?_)
   clear hK K
   try simp only [Act.put, pz, py, px]
   refine rdH 5 (fun K hK => ?_)
   go_simp
   go_at_call 171
   refine (implCutChain _ y.chain ((k : Int) + 1) _ ((uh HM).later zq)).mono ?_
   rintro e u ⟨us, rfl, O0, hbu⟩
   obtain ⟨a5, m5, d5, rfl, -, O, -⟩ := own_chainR_parts O0
   have hG := (uh HG).keep hbu
   have hzu := hbu.size
   try go_wp2_with fail
   refine hK.out _ _ (zq.trans (hbu.mono zq.size)) (fun zq => ?_)
   clear hK K
   try simp only [Act.put, pz, py, px]
   refine rdH 7 (fun K hK => ?_)
   have r0 := Box.at hG 0 _ rfl
   have r1 := Box.at hG 1 _ rfl
   have r2 := Box.at hG 2 _ rfl
   simp only [ga, gb, gc] at r0 r1 r2
   have rf := Box.soft hG
   have rl := hG.lt
   have hzD := zq.size
   go_simp
   refine hK.out _ _ (Below.setCell (Below.setCell (Below.setCell zq (p := ⟨wD.heap.size, 0, none⟩) (by simp only []; omega) (.int .i64 (cutR y.chain ((k : Int) + 1)).code)) (p := ⟨wD.heap.size, 1, none⟩) (by simp only []; omega) (.int .i64 (cutR y.chain ((k : Int) + 1)).chain.epoch)) (p := ⟨wD.heap.size, 2, none⟩) (by simp only []; omega) (.slice a5 m5 d5)) (fun zq => ?_)
   clear hK K
   try simp only [Act.put, pz, py, px]
   refine wpAnyH_done (by kernel_rfl) ?_ _
   refine NoPanic.normal ?_
   go_wp2_with fail
   go_meet
   have e1 : Ext (fun q => q = wD.heap.size) u (setAll u wD.heap.size 0 [.int .i64 (cutR y.chain ((k : Int) + 1)).code, .int .i64 (cutR y.chain ((k : Int) + 1)).chain.epoch, .slice a5 m5 d5]) := ext_setAll _ (Ext.refl _ _) _ _ _ rfl
   have hss : (setAll u wD.heap.size 0 [.int .i64 (cutR y.chain ((k : Int) + 1)).code, .int .i64 (cutR y.chain ((k : Int) + 1)).chain.epoch, .slice a5 m5 d5]).heap.size = u.heap.size := size_setAll _ _ _ _
   have hbx := (Box.set (Box.set (Box.set hG 0 (.int .i64 (cutR y.chain ((k : Int) + 1)).code)) 1 (.int .i64 (cutR y.chain ((k : Int) + 1)).chain.epoch)) 2 (.slice a5 m5 d5))
   simp only [List.setIfInBounds_toArray, List.set_cons_zero, List.set_cons_succ] at hbx
   have OO := (show (Lay.sl Lay.int).OwnIn (setAll u wD.heap.size 0 [.int .i64 (cutR y.chain ((k : Int) + 1)).code, .int .i64 (cutR y.chain ((k : Int) + 1)).chain.epoch, .slice a5 m5 d5]) [.slice a5 m5 d5] (cutR y.chain ((k : Int) + 1)).chain.ids W.heap.size (setAll u wD.heap.size 0 [.int .i64 (cutR y.chain ((k : Int) + 1)).code, .int .i64 (cutR y.chain ((k : Int) + 1)).chain.epoch, .slice a5 m5 d5]).heap.size from ((O.ext e1 (fun k h1 h2 h3 => by omega)).mono (by omega) (by omega)))
   exact ⟨_, wD.heap.size, a5, m5, d5, rfl, rfl, hbx, OO, by omega, zq⟩
 case rest =>
  obtain ⟨WC, g5, a5, m5, d5, hW, rfl, hg5, hO5, hz5, hB5⟩ := hcut
  subst hW
  have hgC := (uh HG0).keep hB5
  have hpC := (uh HP0).keep hB5
  have HGC := yh hgC
  have HPC := yh hpC
  have HB5 := yh hB5
  have HX5 : Hid (Ext (fun q => lo ≤ q) W WC) := yh ((extB_of_below hB5).mono (fun k hk q => by omega))
  have e0 := Box.at hg5 0 _ rfl
  simp only [List.getElem_toArray, List.getElem_cons_zero] at e0
  have hg5l := hg5.lt
  have hm5 := (Lay.Reads.cap hO5.reads).1
  by_cases hc : (cutR y.chain ((k : Int) + 1)).code = 0
  ·
   have HC0 : Hid ((cutR y.chain ((k : Int) + 1)).code = 0) := yh hc
   rw [hc] at e0
   have hwe : (Lit.int .i64 (cutR y.chain ((k : Int) + 1)).chain.epoch).wf = true := wf_of_bd (by have := (cutR_ok (uh HCF) hc).1; omega)
   subst hm5
   have hOC := wown_chain (c := (cutR y.chain ((k : Int) + 1)).chain) (uh HO) hB5 hgl (by omega) hO5 (Nat.le_refl _) hwe
   have hrn := (uh HO).later hB5
   obtain ⟨b, off, d4, an, dn, rfl, -, -, -, hR0, -, -, -⟩ := wown_upd hrn hk
   have HOC := yh hOC
   have HK5 := yh hg5
   have HRW := yh hR0
   clear hrn hgC hpC hO5 hOC HO HG0 HP0 HM g2c g3c hp0 hgl hpl hwe hc hB5 HB5 hR0
   go_upto_region 4 with fail
   have g4 := Box.at (uh HGC) 4 _ rfl
   have hp0 := Box.at (uh HPC) 0 _ rfl
   simp only [ga, gb, gc] at g4 hp0
   have hgl := (uh HGC).lt
   have hpl := (uh HPC).lt
   have hno := uh HES k hk
   have HNE := yh hno.1
   have HNL : Hid (0 ≤ y.nodes[k].lease ∧ y.nodes[k].lease ≤ 9999) := hno.2
   have hw1 : IntKind.i64.wrap (k : Int) = (k : Int) := by
    rw [IntKind.wrap_i64]
    omega
   have hki : (k : Int) < (y.nodes.length : Int) := by omega
   have hki0 : (0 : Int) ≤ (k : Int) := by omega
   have c0 : WC.cell? ⟨b, off + k * 7, none⟩ = some (.int .i64 (y.nodes[k]).id) := (uh HRW).cells 0 (by decide)
   have c1 : WC.cell? ⟨b, off + k * 7 + 1, none⟩ = some (.bool (y.nodes[k]).up) := (uh HRW).cells 1 (by decide)
   have c2 : WC.cell? ⟨b, off + k * 7 + 2, none⟩ = some (.int .i64 (y.nodes[k]).epoch) := (uh HRW).cells 2 (by decide)
   have c3 : WC.cell? ⟨b, off + k * 7 + 3, none⟩ = some (.int .i64 (y.nodes[k]).lease) := (uh HRW).cells 3 (by decide)
   have c4 : WC.cell? ⟨b, off + k * 7 + 4, none⟩ = some (.slice an (y.nodes[k]).writes.length dn) := (uh HRW).cells 4 (by decide)
   have c5 : WC.cell? ⟨b, off + k * 7 + 5, none⟩ = some (.int .i64 (y.nodes[k]).sure) := (uh HRW).cells 5 (by decide)
   have c6 : WC.cell? ⟨b, off + k * 7 + 6, none⟩ = some (.int .i64 (y.nodes[k]).clean) := (uh HRW).cells 6 (by decide)
   have HLB : Hid (leasedB y ((k : Int) + 1) = (y.nodes[k].up && decide (y.now ≤ y.nodes[k].lease))) := by
    show leasedB y _ = _
    rw [leasedB, nodeOf_at hk]
   clear HRW hno e0
   generalize y.nodes[k] = n at *
   refine wp_region_noPanic ?_
   refine wp_region_held_drew (S := fun w' => Below WC.heap.size WC w') (by kernel_rfl) ((Below.refl _ _).drew) (fun zq => ?_)
   generalize WC.drew = wD at zq ⊢
   refine tkH 0 zq ?_
   refine tkH 1 zq ?_
   refine tkH 2 zq ?_
   refine tkJ 3 (v := ?vb3) ?hb3 zq ?rb3
   case hb3 =>
    intro wS hSw
    have q4 := (hSw.cell (p := ⟨g, 4, none⟩) hgl).trans g4
    clear hSw
    (try dsimp only at hSw)
    go_simp
    try with_reducible rfl
   refine tkJ 4 (v := ?vb4) ?hb4 zq ?rb4
   case hb4 =>
    intro wS hSw
    have q0 := (hSw.cell (p := ⟨p, 0, none⟩) hpl).trans hp0
    clear hSw
    (try dsimp only at hSw)
    go_simp
    try with_reducible rfl
   refine tkH 5 zq ?_
   refine tkH 6 zq ?_
   refine tkJ 7 (v := ?vb7) ?hb7 zq ?rb7
   case hb7 =>
    intro wS hSw
    have q0 : wS.cell? ⟨b, off + k * 7, none⟩ = some (.int .i64 n.id) := cell_keep (hSw.mono (Nat.le_refl _)) c0
    have q1 : wS.cell? ⟨b, off + k * 7 + 1, none⟩ = some (.bool n.up) := cell_keep (hSw.mono (Nat.le_refl _)) c1
    have q2 : wS.cell? ⟨b, off + k * 7 + 2, none⟩ = some (.int .i64 n.epoch) := cell_keep (hSw.mono (Nat.le_refl _)) c2
    have q3 : wS.cell? ⟨b, off + k * 7 + 3, none⟩ = some (.int .i64 n.lease) := cell_keep (hSw.mono (Nat.le_refl _)) c3
    have q4 : wS.cell? ⟨b, off + k * 7 + 4, none⟩ = some (.slice an n.writes.length dn) := cell_keep (hSw.mono (Nat.le_refl _)) c4
    have q5 : wS.cell? ⟨b, off + k * 7 + 5, none⟩ = some (.int .i64 n.sure) := cell_keep (hSw.mono (Nat.le_refl _)) c5
    have q6 : wS.cell? ⟨b, off + k * 7 + 6, none⟩ = some (.int .i64 n.clean) := cell_keep (hSw.mono (Nat.le_refl _)) c6
    clear hSw
    (try dsimp only at hSw)
    go_simp
    try with_reducible rfl
   refine rdH 8 (fun K hK => ?_)
   have hHA := zq
   go_simp
   refine hK.out _ _ (zq.alloc zq.size _) (fun zq => ?_)
   clear hK K
   try simp only [Act.put, pz, py, px]
   refine rdH 9 (fun K hK => ?_)
   go_simp
   refine hK.out _ _ (hHA.alloc hHA.size _) (fun zq => ?_)
   clear hK K
   try simp only [Act.put, pz, py, px]
   refine wpAnyH_done (by kernel_rfl) ?_ _
   refine NoPanic.normal ?_
   have hnN : wD.heap.size < (wD.alloc (.cells #[.int .i64 n.id, .bool n.up, .int .i64 n.epoch, .int .i64 n.lease, .slice an n.writes.length dn, .int .i64 n.sure, .int .i64 n.clean] 84)).heap.size := by simp
   have HN : Hid (Box 0 #[.int .i64 n.id, .bool n.up, .int .i64 n.epoch, .int .i64 n.lease, .slice an n.writes.length dn, .int .i64 n.sure, .int .i64 n.clean] 84 (wD.alloc (.cells #[.int .i64 n.id, .bool n.up, .int .i64 n.epoch, .int .i64 n.lease, .slice an n.writes.length dn, .int .i64 n.sure, .int .i64 n.clean] 84)) wD.heap.size) := newBox (Nat.zero_le _)
   have HBN := yh zq
   have HG := yh ((uh HGC).keep zq)
   have HO := yh ((uh HOC).later zq)
   have HK := yh ((uh HK5).keep zq)
   have HEX0 := HX5
   clear zq hHA HGC HOC HK5 HPC g4 hp0 hgl hpl c0 c1 c2 c3 c4 c5 c6 hg5 hg5l
   generalize wD.alloc (.cells #[.int .i64 n.id, .bool n.up, .int .i64 n.epoch, .int .i64 n.lease, .slice an n.writes.length dn, .int .i64 n.sure, .int .i64 n.clean] 84) = WN at *
   generalize wD.heap.size = gn at *
   have n1 := Box.at (uh HN) 1 _ rfl
   simp only [ga, gb, gc] at n1
   have hnl := (uh HN).lt
   cases hup : n.up
   ·
    rw [hup] at n1
    have HC : Hid (removeC y ((k : Int) + 1) = 0) := by
     show removeC y _ = 0
     rw [removeC, if_neg (by rw [uh HC0]; decide), uh HLB, hup]
     rfl
    clear hup
    go_upto_region 5 with fail
    refine wp_region_noPanic ?_
    refine wp_region_held_drew (S := fun w' => Below WN.heap.size WN w') (by kernel_rfl) ((Below.refl _ _).drew) (fun zq => ?_)
    generalize WN.drew = wD at zq ⊢
    refine tkH 0 zq ?_
    refine tkJ 1 (v := ?vd1) ?hd1 zq ?rd1
    case hd1 =>
     intro wS hSw
     have q1 := (hSw.cell (p := ⟨gn, 1, none⟩) hnl).trans n1
     clear hSw
     (try dsimp only at hSw)
     go_simp
     try with_reducible rfl
    refine tkH 2 zq ?_
    refine skH 3 zq ?_
    refine skH 4 zq ?_
    refine skH 5 zq ?_
    refine skH 6 zq ?_
    refine skH 7 zq ?_
    refine skH 8 zq ?_
    refine tkH 9 zq ?_
    refine wpAnyH_done (by kernel_rfl) ?_ _
    refine NoPanic.normal ?_
    have HBU := yh ((uh HBN).trans (zq.mono (uh HBN).size))
    have hG9 := (uh HG).keep zq
    have hO9 := (uh HO).later zq
    have hK9 := (uh HK).keep zq
    have HCI := yh (cutR_ok (uh HCF) (uh HC0))
    have HEX := yh ((uh HEX0).trans (ext_of_below (uh HBU) _))
    have HI9 : Hid (∀ z ∈ (withChain y (cutR y.chain ((k : Int) + 1)).chain).chain.ids, nodeIn (withChain y (cutR y.chain ((k : Int) + 1)).chain) z = true) := fun z hz => uh HI z ((uh HCI).2.1 z hz)
    have HL := yh (installC g lo a5 d5 y.chain.epoch _ _ v5 v6 (withChain y (cutR y.chain ((k : Int) + 1)).chain) _ hG9 hlo hO9 (uh HI9) (Nat.lt_of_le_of_lt (Nat.zero_le _) hk) hn5 (uh HID) (uh HES) (uh HCI).1 (uh HCI).2.2)
    have k1 := Box.at hK9 1 _ rfl
    have k2 := Box.at hK9 2 _ rfl
    simp only [ga, gb, gc] at k1 k2
    have kl := hK9.lt
    clear zq hG9 hO9 hK9 HBN HG HO HK HN HI HI9 HCI
    go_wp2_with fail
    refine (uh HL).mono ?_
    rintro e W9 ⟨rfl, hg9, hO9, hX9⟩
    have HG9 := yh hg9
    have HO9 := yh hO9
    have HX9 := yh ((uh HEX).trans hX9)
    clear hg9 hO9 hX9 HL k1 k2 kl
    go_wp2_with fail
    go_ret2
    exact ⟨true, by rw [uh HC]; rfl, fun _ => ⟨rfl, _, _, _, _, uh HG9, uh HO9⟩, uh HX9⟩
   have HUP := yh hup
   clear hup
   go_upto_region 5 with fail
   rw [uh HUP] at n1
   refine wp_region_noPanic ?_
   refine wp_region_held_drew (S := fun w' => Below WN.heap.size WN w') (by kernel_rfl) ((Below.refl _ _).drew) (fun zq => ?_)
   generalize WN.drew = wD at zq ⊢
   refine tkH 0 zq ?_
   refine tkJ 1 (v := ?vc1) ?hc1 zq ?rc1
   case hc1 =>
    intro wS hSw
    have q1 := (hSw.cell (p := ⟨gn, 1, none⟩) hnl).trans n1
    clear hSw
    (try dsimp only at hSw)
    go_simp
    try with_reducible rfl
   refine tkH 2 zq ?_
   refine tkJ 3 (v := ?vc3) ?hc3 zq ?rc3
   case hc3 =>
    intro wS hSw
    have bS := (uh HN).keep hSw
    have q0 := Box.at bS 0 _ rfl
    have q1 := Box.at bS 1 _ rfl
    have q2 := Box.at bS 2 _ rfl
    have q3 := Box.at bS 3 _ rfl
    have q4 := Box.at bS 4 _ rfl
    have q5 := Box.at bS 5 _ rfl
    have q6 := Box.at bS 6 _ rfl
    simp only [ga, gb, gc] at q0 q1 q2 q3 q4 q5 q6
    clear bS hSw
    (try dsimp only at hSw)
    go_simp
    try with_reducible rfl
   refine tkH 4 zq ?_
   refine tkH 5 zq ?_
   refine tkJ 6 (v := ?vc6) ?hc6 zq ?rc6
   case hc6 =>
    intro wS hSw
    have bS := (uh HG).keep hSw
    have q0 := Box.at bS 0 _ rfl
    have q1 := Box.at bS 1 _ rfl
    have q2 := Box.at bS 2 _ rfl
    have q3 := Box.at bS 3 _ rfl
    have q4 := Box.at bS 4 _ rfl
    have q5 := Box.at bS 5 _ rfl
    have q6 := Box.at bS 6 _ rfl
    simp only [ga, gb, gc] at q0 q1 q2 q3 q4 q5 q6
    clear bS hSw
    (try dsimp only at hSw)
    go_simp
    try with_reducible rfl
   refine rdH 7 (fun K hK => ?_)
   go_simp
   go_at_call 163
   refine (clockOfC y.now y.events y.chain.epoch _ _ _ _ _ (uh HE) ⟨(uh HT).1, by have := (uh HT).2; omega⟩).mono ?_
   rintro e u ⟨rfl, hbu⟩
   dsimp only [mom]
   try go_wp2_with fail
   refine hK.out _ _ (zq.trans (hbu.mono zq.size)) (fun zq => ?_)
   clear hK K
   try simp only [Act.put, pz, py, px]
   refine rdH 8 (fun K hK => ?_)
   go_simp
   go_at_call 172
   refine (isLeasedC n an dn y.chain.epoch y.now _ (uh HNE) (uh HNL) ⟨(uh HT).1, by have := (uh HT).2; omega⟩).mono ?_
   rintro e u2 ⟨rfl, hbu2⟩
   generalize hle : decide (y.now ≤ n.lease) = le at *
   try go_wp2_with fail
   refine hK.out _ _ (zq.trans (hbu2.mono zq.size)) (fun zq => ?_)
   clear hK K
   try simp only [Act.put, pz, py, px]
   refine tkH 9 zq ?_
   refine wpAnyH_done (by kernel_rfl) ?_ _
   refine NoPanic.normal ?_
   have HLE := yh hle
   clear hle
   cases le
   ·
    have HC : Hid (removeC y ((k : Int) + 1) = 0) := by
     show removeC y _ = 0
     rw [removeC, if_neg (by rw [uh HC0]; decide), uh HLB, uh HUP]
     rfl
    have HBU := yh ((uh HBN).trans (zq.mono (uh HBN).size))
    have hG9 := (uh HG).keep zq
    have hO9 := (uh HO).later zq
    have hK9 := (uh HK).keep zq
    have HCI := yh (cutR_ok (uh HCF) (uh HC0))
    have HEX := yh ((uh HEX0).trans (ext_of_below (uh HBU) _))
    have HI9 : Hid (∀ z ∈ (withChain y (cutR y.chain ((k : Int) + 1)).chain).chain.ids, nodeIn (withChain y (cutR y.chain ((k : Int) + 1)).chain) z = true) := fun z hz => uh HI z ((uh HCI).2.1 z hz)
    have HL := yh (installC g lo a5 d5 y.chain.epoch _ _ v5 v6 (withChain y (cutR y.chain ((k : Int) + 1)).chain) _ hG9 hlo hO9 (uh HI9) (Nat.lt_of_le_of_lt (Nat.zero_le _) hk) hn5 (uh HID) (uh HES) (uh HCI).1 (uh HCI).2.2)
    have k1 := Box.at hK9 1 _ rfl
    have k2 := Box.at hK9 2 _ rfl
    simp only [ga, gb, gc] at k1 k2
    have kl := hK9.lt
    clear zq hG9 hO9 hK9 HBN HG HO HK HN HI HI9 HCI
    go_wp2_with fail
    refine (uh HL).mono ?_
    rintro e W9 ⟨rfl, hg9, hO9, hX9⟩
    have HG9 := yh hg9
    have HO9 := yh hO9
    have HX9 := yh ((uh HEX).trans hX9)
    clear hg9 hO9 hX9 HL k1 k2 kl
    go_wp2_with fail
    go_ret2
    exact ⟨true, by rw [uh HC]; rfl, fun _ => ⟨rfl, _, _, _, _, uh HG9, uh HO9⟩, uh HX9⟩
   have HC : Hid (removeC y ((k : Int) + 1) = 9) := by
    show removeC y _ = 9
    rw [removeC, if_neg (by rw [uh HC0]; decide), uh HLB, uh HUP]
    rfl
   have HX9 := yh ((uh HEX0).trans (ext_of_below ((uh HBN).trans (zq.mono (uh HBN).size)) _))
   clear zq
   go_wp2_with fail
   go_ret2
   exact ⟨false, by rw [uh HC]; rfl, fun h0 => by rw [uh HC] at h0; simp at h0, uh HX9⟩
  have hd : ((cutR y.chain ((k : Int) + 1)).code != 0) = true := by simpa using hc
  have HC : Hid (removeC y ((k : Int) + 1) = (cutR y.chain ((k : Int) + 1)).code) := if_pos hc
  clear HGC HPC HB5 hB5 hg5 hO5 hgC hpC
  go_upto_region 3 with fail
  go_quiet (fail)
  go_wp2_with fail
  go_ret2
  exact ⟨false, by rw [uh HC]; rfl, fun h0 => absurd h0 (by rw [uh HC]; exact hc), (uh HX5).drew _⟩
end Go.Proofs.YtoanimpijfijgaaGreat
