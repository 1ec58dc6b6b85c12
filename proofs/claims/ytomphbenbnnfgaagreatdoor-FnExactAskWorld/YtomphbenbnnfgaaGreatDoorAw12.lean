/-
  Texts of this proof in one: SpecAskW, ImplTold, ImplNote, ImplSetN, ImplNodeOf, AsCall, AsMiss, OwnOnceResult, ImplApp.
  Their conditions stand in their theorems.
-/
import Derived.Test.YtomphbenbnnfgaaGreatDoorAw08
import Derived.Test.YtomphbenbnnfgaaGreatDoorAw10
import Derived.Test.YtomphbenbnnfgaaGreatDoorAw11
import Derived.Test.YtomphbenbnnfgaaGreatDoorAw04
import Derived.Test.YtomphbenbnnfgaaGreatDoorAw05
import Derived.Deep.RegionHeld3
import Derived.Test.YtomphbenbnnfgaaGreatDoorAw00
import Derived.Test.YtomphbenbnnfgaaGreatDoorAw01
import Derived.Test.YtomphbenbnnfgaaGreatDoorChecked
import Derived.Test.YtomphbenbnnfgaaGreatDoorAw09
import Derived.WalkKit
import Derived.Deep.CutRange
import Derived.Test.YtomphbenbnnfgaaGreatDoorAw06
import Derived.Test.YtomphbenbnnfgaaGreatDoorAw07
import Derived.Laws.Tables
set_option maxRecDepth 100000
set_option maxHeartbeats 4000000
namespace Go.Proofs.YtomphbenbnnfgaaGreatDoor
open Go.RowKit
theorem aA.uz {lo B : Nat} {cs : Array Value} {T : TypeId} {W W' : World} {s : Nat} (h : aA lo cs T W s) (hb : Below B W W') (hs : s < B) : aA lo cs T W' s := ⟨h.1, (hb.block s hs).trans h.2⟩
theorem mB (cs us : List Value) (x : ay) (v : aj) (w : World) (h : ab.aF.Reads w cs x) (hv : ab.ag.Reads w us v) (hf : Fits x) :
  Calls Tryz.prog 9 #[.agg cs.toArray, .agg us.toArray] w fun e w' => ∃ cs', e = .returned (.agg cs'.toArray) ∧ ab.aE.cr w' cs' (ib x v) w.heap.size w'.heap.size ∧ Below w.heap.size w w' := by
 have HP : Hid (ib x v = _) := ib.eq_1 x v
 obtain ⟨a3, d3, a4, d4, a5, d5, a6, d6, rfl, -, -, -, -⟩ := aK h
 have hww : (Lit.int .i64 v.id).wf = true ∧ (Lit.int .i64 v.aa).wf = true ∧ (Lit.int .i64 v.seq).wf = true := by
  obtain ⟨_, hl⟩ := hv
  obtain ⟨_, _, _, -, -, -, k2, -, k4, k5⟩ := ch.1 hl
  exact ⟨k2, k4, k5⟩
 obtain ⟨av, dv, rfl, RV⟩ := aM hv
 have HBN : Hid (∀ b off, a4 = some ⟨b, off, none⟩ → 0 < x.nodes.length → b < w.heap.size) := fun b off e hp => by
  obtain ⟨_, _, _, _, _, _, _, _, hq, -, RN, -, -⟩ := aK h
  simp only [List.cons.injEq, Value.slice.injEq, and_true, true_and] at hq
  obtain ⟨-, ⟨rfl, rfl⟩, -, -, -⟩ := hq
  obtain ⟨b', off', e', hb⟩ := ab.aS RN hp
  rw [e] at e'
  simp only [Option.some.injEq, Addr.mk.injEq, and_true] at e'
  obtain ⟨rfl, -⟩ := e'
  exact hb
 have nb : Below w.heap.size w (((w.alloc (.cells #[.int .i64 x.now, .int .i64 x.events, .int .i64 x.chain.ae, .slice a3 x.chain.ids.length d3, .slice a4 x.nodes.length d4, .slice a5 x.msgs.length d5, .slice a6 x.af.length d6] 39)).alloc (.cells #[.int .i64 v.kind, .int .i64 v.id, .slice av v.vec.length dv, .int .i64 v.aa, .int .i64 v.seq] 44)).alloc (.cells #[.int .i64 0, .bool false, .int .i64 0, .int .i64 0, .int .i64 0, .slice none 0 0, .slice none 0 0, .slice none 0 0, .slice none 0 0] 41)) := (((Below.refl _ _).alloc (Nat.le_refl _) _).alloc (by simp) _).alloc (by simp; omega) _
 have HX : Hid (aA 0 #[.int .i64 x.now, .int .i64 x.events, .int .i64 x.chain.ae, .slice a3 x.chain.ids.length d3, .slice a4 x.nodes.length d4, .slice a5 x.msgs.length d5, .slice a6 x.af.length d6] 39 (((w.alloc (.cells #[.int .i64 x.now, .int .i64 x.events, .int .i64 x.chain.ae, .slice a3 x.chain.ids.length d3, .slice a4 x.nodes.length d4, .slice a5 x.msgs.length d5, .slice a6 x.af.length d6] 39)).alloc (.cells #[.int .i64 v.kind, .int .i64 v.id, .slice av v.vec.length dv, .int .i64 v.aa, .int .i64 v.seq] 44)).alloc (.cells #[.int .i64 0, .bool false, .int .i64 0, .int .i64 0, .int .i64 0, .slice none 0 0, .slice none 0 0, .slice none 0 0, .slice none 0 0] 41)) w.heap.size) := (((aD (Nat.zero_le _)).grow _).grow _)
 have HE0 : Hid (aA 0 #[.int .i64 v.kind, .int .i64 v.id, .slice av v.vec.length dv, .int .i64 v.aa, .int .i64 v.seq] 44 (((w.alloc (.cells #[.int .i64 x.now, .int .i64 x.events, .int .i64 x.chain.ae, .slice a3 x.chain.ids.length d3, .slice a4 x.nodes.length d4, .slice a5 x.msgs.length d5, .slice a6 x.af.length d6] 39)).alloc (.cells #[.int .i64 v.kind, .int .i64 v.id, .slice av v.vec.length dv, .int .i64 v.aa, .int .i64 v.seq] 44)).alloc (.cells #[.int .i64 0, .bool false, .int .i64 0, .int .i64 0, .int .i64 0, .slice none 0 0, .slice none 0 0, .slice none 0 0, .slice none 0 0] 41)) (w.heap.size + 1)) := ((bm (Nat.zero_le _) (by simp)).grow _)
 have HY : Hid (aA 0 #[.int .i64 0, .bool false, .int .i64 0, .int .i64 0, .int .i64 0, .slice none 0 0, .slice none 0 0, .slice none 0 0, .slice none 0 0] 41 (((w.alloc (.cells #[.int .i64 x.now, .int .i64 x.events, .int .i64 x.chain.ae, .slice a3 x.chain.ids.length d3, .slice a4 x.nodes.length d4, .slice a5 x.msgs.length d5, .slice a6 x.af.length d6] 39)).alloc (.cells #[.int .i64 v.kind, .int .i64 v.id, .slice av v.vec.length dv, .int .i64 v.aa, .int .i64 v.seq] 44)).alloc (.cells #[.int .i64 0, .bool false, .int .i64 0, .int .i64 0, .int .i64 0, .slice none 0 0, .slice none 0 0, .slice none 0 0, .slice none 0 0] 41)) (w.heap.size + 1 + 1)) := bm (Nat.zero_le _) (by simp)
 have hz0 : (((w.alloc (.cells #[.int .i64 x.now, .int .i64 x.events, .int .i64 x.chain.ae, .slice a3 x.chain.ids.length d3, .slice a4 x.nodes.length d4, .slice a5 x.msgs.length d5, .slice a6 x.af.length d6] 39)).alloc (.cells #[.int .i64 v.kind, .int .i64 v.id, .slice av v.vec.length dv, .int .i64 v.aa, .int .i64 v.seq] 44)).alloc (.cells #[.int .i64 0, .bool false, .int .i64 0, .int .i64 0, .int .i64 0, .slice none 0 0, .slice none 0 0, .slice none 0 0, .slice none 0 0] 41)).heap.size = w.heap.size + 3 := by simp
 have HR := yh (h.later nb)
 have HB := yh nb
 clear nb
 have HRV := yh (RV.later (uh HB))
 have HWW := yh hww
 clear h hv RV hww HBN
 generalize ib x v = R at *
 go_enter Tryz.func9, Tryz.ntmps9
 go_upto_region 1 with fail
 generalize (((w.alloc (.cells #[.int .i64 x.now, .int .i64 x.events, .int .i64 x.chain.ae, .slice a3 x.chain.ids.length d3, .slice a4 x.nodes.length d4, .slice a5 x.msgs.length d5, .slice a6 x.af.length d6] 39)).alloc (.cells #[.int .i64 v.kind, .int .i64 v.id, .slice av v.vec.length dv, .int .i64 v.aa, .int .i64 v.seq] 44)).alloc (.cells #[.int .i64 0, .bool false, .int .i64 0, .int .i64 0, .int .i64 0, .slice none 0 0, .slice none 0 0, .slice none 0 0, .slice none 0 0] 41)) = W0 at *
 go_wp2_with fail
 refine (qF a3 d3 a4 d4 a5 d5 a6 d6 x w.heap.size W0 (uh HX) (uh HR)).mono ?_
 rintro e wa ⟨rfl, hb⟩
 replace HX := yh ((uh HX).ai hb)
 replace HR := yh ((uh HR).later hb)
 replace HY := yh ((uh HY).ai hb)
 replace HE0 := yh ((uh HE0).ai hb)
 replace HRV := yh ((uh HRV).later hb)
 replace HB := bZ HB hb
 have hza := hb.size
 clear hb
 by_cases d1 : aW x ≠ 0
 ·
  have hd : (aW x != 0) = true := by simpa using d1
  replace HP := yh ((uh HP).trans (if_pos d1))
  have HC : Hid (-1000000000 ≤ aW x ∧ aW x ≤ 1000000000) := by
   have := fR x (fT _)
   show -1000000000 ≤ aW x ∧ aW x ≤ 1000000000
   omega
  clear d1 hf
  generalize aW x = c at *
  go_wp2_with fail
  refine (fC (c) _).mono ?_
  rintro e wB ⟨rfl, hbB⟩
  have hyB := (uh HY).ai hbB
  obtain ⟨z0, z1, z2, z3, z4, z5, z6, z7, z8⟩ := aZ9 hyB
  have zf := aA.soft hyB
  have zl9 := hyB.lt
  have HB9 := yh (aB ((uh HB).trans (hbB.mono (uh HB).size)) (w.heap.size + 1 + 1) 0 [.int .i64 c, .bool false, .int .i64 0, .int .i64 0, .int .i64 0, .slice none 0 0, .slice none 0 0, .slice none 0 0, .slice none 0 0] (by omega))
  clear hyB hbB HY HB
  go_wp2_with fail
  refine bodyPost_ret (v := .agg #[.int .i64 c, .bool false, .int .i64 0, .int .i64 0, .int .i64 0, .slice none 0 0, .slice none 0 0, .slice none 0 0, .slice none 0 0]) (by simp [results, Tryz.results9, go_sem, z0, z1, z2, z3, z4, z5, z6, z7, z8]) rfl ?_
  rw [uh HP]
  exact ⟨[.int .i64 c, .bool false, .int .i64 0, .int .i64 0, .int .i64 0, .slice none 0 0, .slice none 0 0, .slice none 0 0, .slice none 0 0], rfl, (eo (uh HC) (lo := _) (uh HB9).size).bg, uh HB9⟩
 replace HP := yh ((uh HP).trans (if_neg d1))
 have hd0 : aW x = 0 := by simpa using d1
 have hok := cW hd0
 have HOK := yh hok
 rw [hd0]
 clear d1 hd0 hok
 obtain ⟨z0, z1, z2, z3, z4, z5, z6⟩ := aZ7 (uh HX)
 have zl := (uh HX).lt
 by_cases he : 9999 ≤ x.events
 ·
  have hde : decide (9999 ≤ x.events) = true := by simpa using he
  replace HP := yh ((uh HP).trans (if_pos he))
  have HC : Hid (-1000000000 ≤ (2 : Int) ∧ (2 : Int) ≤ 1000000000) := by show (-1000000000 : Int) ≤ 2 ∧ (2 : Int) ≤ 1000000000; omega
  clear hf HOK
  go_wp2_with fail
  refine (fC (2) _).mono ?_
  rintro e wB ⟨rfl, hbB⟩
  have hyB := (uh HY).ai hbB
  obtain ⟨z0, z1, z2, z3, z4, z5, z6, z7, z8⟩ := aZ9 hyB
  have zf := aA.soft hyB
  have zl9 := hyB.lt
  have HB9 := yh (aB ((uh HB).trans (hbB.mono (uh HB).size)) (w.heap.size + 1 + 1) 0 [.int .i64 2, .bool false, .int .i64 0, .int .i64 0, .int .i64 0, .slice none 0 0, .slice none 0 0, .slice none 0 0, .slice none 0 0] (by omega))
  clear hyB hbB HY HB
  go_wp2_with fail
  refine bodyPost_ret (v := .agg #[.int .i64 2, .bool false, .int .i64 0, .int .i64 0, .int .i64 0, .slice none 0 0, .slice none 0 0, .slice none 0 0, .slice none 0 0]) (by simp [results, Tryz.results9, go_sem, z0, z1, z2, z3, z4, z5, z6, z7, z8]) rfl ?_
  rw [uh HP]
  exact ⟨[.int .i64 2, .bool false, .int .i64 0, .int .i64 0, .int .i64 0, .slice none 0 0, .slice none 0 0, .slice none 0 0, .slice none 0 0], rfl, (eo (uh HC) (lo := _) (uh HB9).size).bg, uh HB9⟩
 have hde : decide (9999 ≤ x.events) = false := by simpa using he
 replace HP := yh ((uh HP).trans (if_neg he))
 have HLF := yh (tF (w.heap.size + 1) v.kind v.id (.slice av v.vec.length dv) v.aa v.seq v.vec wa ⟨aA.at (uh HE0) 0 _ rfl, aA.at (uh HE0) 1 _ rfl, aA.at (uh HE0) 2 _ rfl, aA.at (uh HE0) 3 _ rfl, aA.at (uh HE0) 4 _ rfl⟩ (ab.bc (uh HRV)))
 go_wp2_with fail
 refine (uh HLF).mono ?_
 rintro e wf ⟨rfl, hwf⟩
 subst wf
 clear HLF hde he
 have HWF : Hid (aC v.kind v.id v.vec v.aa v.seq = wF v) := rfl
 by_cases hw : wF v ≠ 0
 ·
  have hd : (aC v.kind v.id v.vec v.aa v.seq != 0) = true := by rw [uh HWF]; simpa using hw
  replace HP := yh ((uh HP).trans (if_pos hw))
  rw [← uh HWF] at HP
  have HC : Hid (-1000000000 ≤ aC v.kind v.id v.vec v.aa v.seq ∧ aC v.kind v.id v.vec v.aa v.seq ≤ 1000000000) := by
   have := fo v
   show -1000000000 ≤ wF v ∧ wF v ≤ 1000000000
   omega
  clear hw hf HOK HWF
  generalize aC v.kind v.id v.vec v.aa v.seq = c at *
  go_wp2_with fail
  refine (fC (c) _).mono ?_
  rintro e wB ⟨rfl, hbB⟩
  have hyB := (uh HY).ai hbB
  obtain ⟨z0, z1, z2, z3, z4, z5, z6, z7, z8⟩ := aZ9 hyB
  have zf := aA.soft hyB
  have zl9 := hyB.lt
  have HB9 := yh (aB ((uh HB).trans (hbB.mono (uh HB).size)) (w.heap.size + 1 + 1) 0 [.int .i64 c, .bool false, .int .i64 0, .int .i64 0, .int .i64 0, .slice none 0 0, .slice none 0 0, .slice none 0 0, .slice none 0 0] (by omega))
  clear hyB hbB HY HB
  go_wp2_with fail
  refine bodyPost_ret (v := .agg #[.int .i64 c, .bool false, .int .i64 0, .int .i64 0, .int .i64 0, .slice none 0 0, .slice none 0 0, .slice none 0 0, .slice none 0 0]) (by simp [results, Tryz.results9, go_sem, z0, z1, z2, z3, z4, z5, z6, z7, z8]) rfl ?_
  rw [uh HP]
  exact ⟨[.int .i64 c, .bool false, .int .i64 0, .int .i64 0, .int .i64 0, .slice none 0 0, .slice none 0 0, .slice none 0 0, .slice none 0 0], rfl, (eo (uh HC) (lo := _) (uh HB9).size).bg, uh HB9⟩
 have hw0 : aC v.kind v.id v.vec v.aa v.seq = 0 := by rw [uh HWF]; simpa using hw
 have HW0 : Hid (wF v = 0) := by show wF v = 0; simpa using hw
 replace HP := yh ((uh HP).trans (if_neg hw))
 rw [hw0]
 clear hw HWF hw0
 obtain ⟨_, _, _, _, _, _, _, _, hq, RC, RN0, -, -⟩ := aK (uh HR)
 simp only [List.cons.injEq, Value.slice.injEq, and_true, true_and] at hq
 obtain ⟨⟨rfl, rfl⟩, ⟨rfl, rfl⟩, -, -, -⟩ := hq
 obtain ⟨_, _, hq, RI⟩ := cb RC
 simp only [List.cons.injEq, Value.slice.injEq, and_true, true_and] at hq
 obtain ⟨rfl, rfl⟩ := hq
 have hcl := (cB (uh HOK).chain).len
 have hns := (uh HOK).some
 obtain ⟨bi, oi, rfl, hbi⟩ := ab.aS RI (by omega)
 obtain ⟨b0, off0, rfl, hb0⟩ := ab.aS RN0 (by omega)
 obtain ⟨k, hk, hh⟩ := gU (uh HOK).ids (by omega)
 have c0 := eB RI (show 0 < x.chain.ids.length by omega)
 have e0 : x.chain.ids[0] = (k : Int) + 1 := by
  have e1 : eA x = x.chain.ids[0] := by simp [eA, List.getD, show 0 < x.chain.ids.length by omega]
  rw [← e1, hh]
 rw [e0] at c0
 simp only [Nat.add_zero] at c0
 have hh2 : x.chain.ids.getD 0 0 = (k : Int) + 1 := hh
 rw [hh2, dH hk] at HP
 have HLM := yh (pa (some ⟨bi, oi, none⟩) d3 b0 off0 d4 a5 d5 a6 d6 x k w.heap.size wa (uh HX) (uh HR) hk hns.2)
 have hli : (0 : Int) < (x.chain.ids.length : Int) := by omega
 clear RC RN0 RI hh hh2 e0
 go_wp2_with fail
 refine (uh HLM).mono ?_
 rintro e wm ⟨rfl, hb⟩
 replace HX := yh ((uh HX).ai hb)
 replace HR := yh ((uh HR).later hb)
 replace HY := yh ((uh HY).ai hb)
 replace HE0 := yh ((uh HE0).ai hb)
 replace HRV := yh ((uh HRV).later hb)
 replace HB := bZ HB hb
 have hzm := hb.size
 clear hb HLM c0 z0 z1 z2 z3 z4 z5 z6 zl hli
 cases hmb : cT x ((k : Int) + 1)
 ·
  replace HP := yh ((uh HP).trans (if_pos hmb))
  have HC : Hid (-1000000000 ≤ (10 : Int) ∧ (10 : Int) ≤ 1000000000) := by show (-1000000000 : Int) ≤ 10 ∧ (10 : Int) ≤ 1000000000; omega
  clear hmb hf HOK
  go_wp2_with fail
  refine (fC (10) _).mono ?_
  rintro e wB ⟨rfl, hbB⟩
  have hyB := (uh HY).ai hbB
  obtain ⟨z0, z1, z2, z3, z4, z5, z6, z7, z8⟩ := aZ9 hyB
  have zf := aA.soft hyB
  have zl9 := hyB.lt
  have HB9 := yh (aB ((uh HB).trans (hbB.mono (uh HB).size)) (w.heap.size + 1 + 1) 0 [.int .i64 10, .bool false, .int .i64 0, .int .i64 0, .int .i64 0, .slice none 0 0, .slice none 0 0, .slice none 0 0, .slice none 0 0] (by omega))
  clear hyB hbB HY HB
  go_wp2_with fail
  refine bodyPost_ret (v := .agg #[.int .i64 10, .bool false, .int .i64 0, .int .i64 0, .int .i64 0, .slice none 0 0, .slice none 0 0, .slice none 0 0, .slice none 0 0]) (by simp [results, Tryz.results9, go_sem, z0, z1, z2, z3, z4, z5, z6, z7, z8]) rfl ?_
  rw [uh HP]
  exact ⟨[.int .i64 10, .bool false, .int .i64 0, .int .i64 0, .int .i64 0, .slice none 0 0, .slice none 0 0, .slice none 0 0, .slice none 0 0], rfl, (eo (uh HC) (lo := _) (uh HB9).size).bg, uh HB9⟩
 replace HP := yh ((uh HP).trans (if_neg (by rw [hmb]; simp)))
 clear hmb
 have HL := yh (rI _ x wm (uh HR) (uh HOK) hf)
 obtain ⟨z0, z1, z2, z3, z4, z5, z6⟩ := aZ7 (uh HX)
 have zl := (uh HX).lt
 go_wp2_with fail
 refine (uh HL).mono ?_
 rintro e W1 ⟨cs', rfl, O, hb⟩
 have hop := aK O.reads
 dsimp only [cI] at hop
 obtain ⟨a3w, d3w, a4w, d4w, a5w, d5w, a6w, d6w, rfl, -⟩ := hop
 have hz1 : wm.heap.size ≤ W1.heap.size := hb.size
 have nb : Below W1.heap.size W1 (W1.alloc (.cells #[.int .i64 x.now, .int .i64 (x.events + 1), .int .i64 x.chain.ae, .slice a3w x.chain.ids.length d3w, .slice a4w x.nodes.length d4w, .slice a5w x.msgs.length d5w, .slice a6w x.af.length d6w] 39)) := (Below.refl _ _).alloc (Nat.le_refl _) _
 have HG : Hid (aA 0 #[.int .i64 x.now, .int .i64 (x.events + 1), .int .i64 x.chain.ae, .slice a3w x.chain.ids.length d3w, .slice a4w x.nodes.length d4w, .slice a5w x.msgs.length d5w, .slice a6w x.af.length d6w] 39 (W1.alloc (.cells #[.int .i64 x.now, .int .i64 (x.events + 1), .int .i64 x.chain.ae, .slice a3w x.chain.ids.length d3w, .slice a4w x.nodes.length d4w, .slice a5w x.msgs.length d5w, .slice a6w x.af.length d6w] 39)) W1.heap.size) := aD (Nat.zero_le _)
 have HO := yh (O.later nb)
 have hBM : Below wm.heap.size wm (W1.alloc (.cells #[.int .i64 x.now, .int .i64 (x.events + 1), .int .i64 x.chain.ae, .slice a3w x.chain.ids.length d3w, .slice a4w x.nodes.length d4w, .slice a5w x.msgs.length d5w, .slice a6w x.af.length d6w] 39)) := hb.trans (nb.mono hb.size)
 have HBM := yh hBM
 have hz2 : W1.heap.size < (W1.alloc (.cells #[.int .i64 x.now, .int .i64 (x.events + 1), .int .i64 x.chain.ae, .slice a3w x.chain.ids.length d3w, .slice a4w x.nodes.length d4w, .slice a5w x.msgs.length d5w, .slice a6w x.af.length d6w] 39)).heap.size := by simp
 clear nb O hb HL hBM
 clear z0 z1 z2 z3 z4 z5 z6 zl
 go_upto_region 13 with fail
 generalize W1.alloc (.cells #[.int .i64 x.now, .int .i64 (x.events + 1), .int .i64 x.chain.ae, .slice a3w x.chain.ids.length d3w, .slice a4w x.nodes.length d4w, .slice a5w x.msgs.length d5w, .slice a6w x.af.length d6w] 39) = W2 at *
 obtain ⟨H, rows, bls, b, off, d4', hH1, hH2, hWS, hGr, hbs, hob, e4, hb1, hb2⟩ := og (x := cI x) (uh HO)
 have e4' : a4w = some ⟨b, off, none⟩ := by
  simp only [Value.slice.injEq] at e4
  exact e4.1
 subst e4'
 obtain ⟨b', off', d4'', row0, e5, hp1, hp2, hp3, hpG, hR0, ⟨blk0, hl0, -⟩, -, hput⟩ := ur hWS (show k < (vk (cI x)).nodes.length from hk)
 simp only [Value.slice.injEq, Option.some.injEq, Addr.mk.injEq, and_true] at e5
 obtain ⟨⟨rfl, rfl⟩, -, rfl⟩ := e5
 have hno := cR ((uh HOK).nodes k hk).1
 have hid := ((uh HOK).nodes k hk).2.1
 obtain ⟨an, dn, b4, rfl, rfl, g0, g2, g3, lw, g5, g6⟩ := cD.1 hl0
 have HVm := yh ((uh HE0).ai (uh HBM))
 have HRV2 := yh ((uh HRV).later (uh HBM))
 have HLT := yh (tI b (off + k * 7) (w.heap.size + 1) 0 an dn av dv x.nodes[k].writes v W2 (hR0.cells 4 (by decide)) hp3 (fun q => hR0.soft q) (dB.vL (uh HVm)) ⟨_, lw⟩ (uh HRV2) hno.aR (uh HW0))
 have HGB := HG
 have g4 := aA.at (uh HG) 4 _ rfl
 simp only [ga, gb, gc] at g4
 have gl := (uh HG).lt
 have hw1 : IntKind.i64.wrap (k : Int) = (k : Int) := by
  rw [IntKind.wrap_i64]
  omega
 have hki : (k : Int) < (x.nodes.length : Int) := by omega
 have hki0 : (0 : Int) ≤ (k : Int) := by omega
 have hcd := kp x.nodes[k] v
 rw [hcd] at HP
 have HR0 := yh hR0
 have HPUT := yh hput
 have HGR := yh hGr
 have HBS := yh hbs
 have HOB := yh hob
 have HID := yh hid
 clear hWS hGr hbs hob hR0 hput HO HVm HRV2 lw hl0 hid hno
 go_wp2_with fail
 refine (uh HLT).mono ?_
 rintro e W3 (⟨hc, rfl, hb⟩ | ⟨hc, rfl, w1, a, n, c, rfl, hn, O, hb⟩)
 ·
  replace HP := yh ((uh HP).trans (if_pos hc))
  have hb3 : Below wm.heap.size wm W3 := (uh HBM).trans (hb.mono (uh HBM).size)
  replace HY := yh ((uh HY).ai hb3)
  replace HB := bZ HB hb3
  have hdc : (aU (bF x.nodes[k].writes v) != 0) = true := by simpa using hc
  have HC : Hid (-1000000000 ≤ aU (bF x.nodes[k].writes v) ∧ aU (bF x.nodes[k].writes v) ≤ 1000000000) := by
   have := nQ x.nodes[k] v
   rw [hcd] at this
   exact this
  clear hb hb3 HLT hcd HR0 HPUT HGR HBS HOB HG HGB hf g4 gl HBM
  generalize aU (bF x.nodes[k].writes v) = c at *
  go_wp2_with fail
  refine (fC (c) _).mono ?_
  rintro e wB ⟨rfl, hbB⟩
  have hyB := (uh HY).ai hbB
  obtain ⟨z0, z1, z2, z3, z4, z5, z6, z7, z8⟩ := aZ9 hyB
  have zf := aA.soft hyB
  have zl9 := hyB.lt
  have HB9 := yh (aB ((uh HB).trans (hbB.mono (uh HB).size)) (w.heap.size + 1 + 1) 0 [.int .i64 c, .bool false, .int .i64 0, .int .i64 0, .int .i64 0, .slice none 0 0, .slice none 0 0, .slice none 0 0, .slice none 0 0] (by omega))
  clear hyB hbB HY HB
  go_wp2_with fail
  refine bodyPost_ret (v := .agg #[.int .i64 c, .bool false, .int .i64 0, .int .i64 0, .int .i64 0, .slice none 0 0, .slice none 0 0, .slice none 0 0, .slice none 0 0]) (by simp [results, Tryz.results9, go_sem, z0, z1, z2, z3, z4, z5, z6, z7, z8]) rfl ?_
  rw [uh HP]
  exact ⟨[.int .i64 c, .bool false, .int .i64 0, .int .i64 0, .int .i64 0, .slice none 0 0, .slice none 0 0, .slice none 0 0, .slice none 0 0], rfl, (eo (uh HC) (lo := _) (uh HB9).size).bg, uh HB9⟩
 replace HP := yh ((uh HP).trans (if_neg (by rw [hc]; simp)))
 have e1 : Ext (fun q => q = b) w1 (w1.setCell ⟨b, off + k * 7 + 4, none⟩ (.slice a n c)) := (Ext.refl _ _).setCell _ _ rfl
 have e2 : Ext (fun q => q = b) W2 (w1.setCell ⟨b, off + k * 7 + 4, none⟩ (.slice a n c)) := (az hb _).trans e1
 have hsz3 : W2.heap.size ≤ (w1.setCell ⟨b, off + k * 7 + 4, none⟩ (.slice a n c)).heap.size := e2.size
 have hzBM := (uh HBM).size
 obtain ⟨bl, hl1, hl2⟩ := O.ext e1 (fun q h1 h2 h3 => by omega)
 have hR1 := (((uh HR0).call (c' := w1) (g := []) (az hb _) (by simp) (by simp)).set 4 (.slice a n c) (by decide))
 simp only [List.set_cons_succ, List.set_cons_zero] at hR1
 have hO3 : kC (w1.setCell ⟨b, off + k * 7 + 4, none⟩ (.slice a n c)) wm.heap.size H (fun c => c < wm.heap.size ∨ (H ≤ c ∧ c ≤ W1.heap.size)) [.int .i64 x.now, .int .i64 (x.events + 1), .int .i64 x.chain.ae, .slice a3w x.chain.ids.length d3w, .slice (some ⟨b, off, none⟩) x.nodes.length d4w, .slice a5w x.msgs.length d5w, .slice none 0 0] (gX (vk (cI x)) k (ca x.nodes[k] (bF x.nodes[k].writes v).writes)) := by
  refine uh HPUT _ _ (ca x.nodes[k] (bF x.nodes[k].writes v).writes) bl (cD.2 ⟨a, c, bl, by subst hn; rfl, rfl, g0, g2, g3, by subst hn; exact hl1, g5, g6⟩) (fun q hq => ?_) hR1
  have h3 := hl2 q hq
  exact ⟨by omega, by show ¬ (q < wm.heap.size ∨ (H ≤ q ∧ q ≤ W1.heap.size)); omega⟩
 have HO3 := yh hO3
 have HGR3 := yh (ey (uh HGR) e2 (fun c hc e => by have := (uh HBS) c hc; omega) (fun g hg e => by have := (uh HOB) g hg; omega))
 have hb3 : Below wm.heap.size wm (w1.setCell ⟨b, off + k * 7 + 4, none⟩ (.slice a n c)) := (uh HBM).trans (e2.below (B := wm.heap.size) hzBM (fun c hc e => by omega))
 replace HG := yh ((uh HG).ext e2 (fun e => by omega))
 replace HX := yh ((uh HX).ai hb3)
 replace HR := yh ((uh HR).later hb3)
 replace HY := yh ((uh HY).ai hb3)
 replace HE0 := yh ((uh HE0).ai hb3)
 replace HB := bZ HB hb3
 have HTN : Hid (dA (cI x) (takeN x.nodes[k] v).2 = (gX (cI x) k (ca x.nodes[k] (bF x.nodes[k].writes v).writes))) := by
  show dA (cI x) (takeN x.nodes[k] v).2 = _
  rw [jH hc]
  exact jV (y := cI x) (k := k) (n := (ca x.nodes[k] (bF x.nodes[k].writes v).writes)) (uh HID)
 rw [uh HTN] at HP
 have hs3 := hb3.size
 clear hb hb3 hc HLT hcd HR0 HPUT HGR O e1 e2 hl1 hl2 hR1 hn hO3 HGB g4 gl HBM HRV HTN hf hw1 hki hki0
 go_upto_region 16 with fail
 generalize w1.setCell ⟨b, off + k * 7 + 4, none⟩ (.slice a n c) = W3 at *
 have HLD := yh (rG (some ⟨bi, oi, none⟩) d3 (some ⟨b0, off0, none⟩) d4 a5 d5 a6 d6 x v.aa v.seq w.heap.size W3 (uh HX) (uh HR) (by have := (uh HOK).uQ; omega))
 have e3 := aA.at (uh HE0) 3 _ rfl
 have e4 := aA.at (uh HE0) 4 _ rfl
 simp only [ga, gb, gc] at e3 e4
 have el := (uh HE0).lt
 have HTA := yh (lQ x.af v.aa v.seq)
 go_wp2_with fail
 refine (uh HLD).mono ?_
 rintro e wt ⟨rfl, hwt⟩
 subst wt
 clear HLD
 by_cases htl : x.af.any (cA v.aa v.seq) = true
 ·
  have hd : decide (0 ≤ df x.af v.aa v.seq) = true := by rw [uh HTA]; exact htl
  have hpos : ¬ df x.af v.aa v.seq < 0 := by
   have : 0 ≤ df x.af v.aa v.seq := by simpa using hd
   omega
  have hdn : decide (df x.af v.aa v.seq < 0) = false := by simpa using hpos
  replace HP := yh ((uh HP).trans (if_pos htl))
  clear htl hd HTA e3 e4 el
  generalize df x.af v.aa v.seq = tp at *
  have HO : Hid (kC W3 wm.heap.size H (fun c => c < wm.heap.size ∨ c = W1.heap.size) [.int .i64 x.now, .int .i64 (x.events + 1), .int .i64 x.chain.ae, .slice a3w x.chain.ids.length d3w, .slice (some ⟨b, off, none⟩) x.nodes.length d4w, .slice a5w x.msgs.length d5w, .slice a6w x.af.length d6w] (gX (cI x) k (ca x.nodes[k] (bF x.nodes[k].writes v).writes))) := yh (lM (x := gX (vk (cI x)) k (ca x.nodes[k] (bF x.nodes[k].writes v).writes)) (uh HO3) hH1 hH2 (uh HGR3) (fun c hc => by have := (uh HBS) c hc; omega) (fun g hg => by have := (uh HOB) g hg; omega) (by have := (uh HOK).uQ; show x.af.length ≤ _; omega))
  clear HO3 HGR3 HX HR HE0
  go_upto_region 20 with fail
  clear hdn hpos
  obtain ⟨y0, y1, y2, y3, y4, y5, y6⟩ := aZ7 (uh HG)
  have yl := (uh HG).lt
  obtain ⟨r0, r1, r2, r3, r4, r5, r6, r7, r8⟩ := aZ9 (uh HY)
  have rl := (uh HY).lt
  have rf := aA.soft (uh HY)
  have e9 : Ext (fun q => q = w.heap.size + 1 + 1) W3 (aG W3 (w.heap.size + 1 + 1) 0 [.int .i64 0, .bool true, .int .i64 x.now, .int .i64 (x.events + 1), .int .i64 x.chain.ae, .slice a3w x.chain.ids.length d3w, .slice (some ⟨b, off, none⟩) x.nodes.length d4w, .slice a5w x.msgs.length d5w, .slice a6w x.af.length d6w]) := bb _ (Ext.refl _ _) _ _ _ rfl
  have HO9 := yh (m3 (m := true) (((uh HO).ext e9 (fun c h1 h2 h3 => h2 (Or.inl (by omega)))).dd (B := w.heap.size) (fun c hc => by omega)))
  have HB9 := yh (aB (uh HB) (w.heap.size + 1 + 1) 0 [.int .i64 0, .bool true, .int .i64 x.now, .int .i64 (x.events + 1), .int .i64 x.chain.ae, .slice a3w x.chain.ids.length d3w, .slice (some ⟨b, off, none⟩) x.nodes.length d4w, .slice a5w x.msgs.length d5w, .slice a6w x.af.length d6w] (by omega))
  clear e9 HO HG HY HB
  go_wp2_with fail
  refine bodyPost_ret (v := .agg #[.int .i64 0, .bool true, .int .i64 x.now, .int .i64 (x.events + 1), .int .i64 x.chain.ae, .slice a3w x.chain.ids.length d3w, .slice (some ⟨b, off, none⟩) x.nodes.length d4w, .slice a5w x.msgs.length d5w, .slice a6w x.af.length d6w]) (by simp [results, Tryz.results9, go_sem, r0, r1, r2, r3, r4, r5, r6, r7, r8]) rfl ?_
  rw [uh HP]
  exact ⟨_, rfl, uh HO9, uh HB9⟩
 have htl' : x.af.any (cA v.aa v.seq) = false := by simpa using htl
 have hd : decide (0 ≤ df x.af v.aa v.seq) = false := by rw [uh HTA]; exact htl'
 have hneg : df x.af v.aa v.seq < 0 := by
  have : ¬ 0 ≤ df x.af v.aa v.seq := by simpa using hd
  omega
 have hdn : decide (df x.af v.aa v.seq < 0) = true := by simpa using hneg
 replace HP := yh ((uh HP).trans (if_neg htl))
 clear htl htl' hd HTA e3 e4 el
 generalize df x.af v.aa v.seq = tp at *
 go_upto_region 17 with fail
 clear hdn hneg
 have z6 := aA.at (uh HX) 6 _ rfl
 simp only [ga, gb, gc] at z6
 have zl := (uh HX).lt
 by_cases h60 : 60 ≤ x.af.length
 ·
  have hdh : decide ((60 : Int) ≤ (x.af.length : Int)) = true := by simp; omega
  replace HP := yh ((uh HP).trans (if_pos h60))
  have HC : Hid (-1000000000 ≤ (2 : Int) ∧ (2 : Int) ≤ 1000000000) := by show (-1000000000 : Int) ≤ 2 ∧ (2 : Int) ≤ 1000000000; omega
  clear HO3 HGR3 HG HE0 HOK
  go_wp2_with fail
  refine (fC (2) _).mono ?_
  rintro e wB ⟨rfl, hbB⟩
  have hyB := (uh HY).ai hbB
  obtain ⟨z0, z1, z2, z3, z4, z5, z6, z7, z8⟩ := aZ9 hyB
  have zf := aA.soft hyB
  have zl9 := hyB.lt
  have HB9 := yh (aB ((uh HB).trans (hbB.mono (uh HB).size)) (w.heap.size + 1 + 1) 0 [.int .i64 2, .bool false, .int .i64 0, .int .i64 0, .int .i64 0, .slice none 0 0, .slice none 0 0, .slice none 0 0, .slice none 0 0] (by omega))
  clear hyB hbB HY HB
  go_wp2_with fail
  refine bodyPost_ret (v := .agg #[.int .i64 2, .bool false, .int .i64 0, .int .i64 0, .int .i64 0, .slice none 0 0, .slice none 0 0, .slice none 0 0, .slice none 0 0]) (by simp [results, Tryz.results9, go_sem, z0, z1, z2, z3, z4, z5, z6, z7, z8]) rfl ?_
  rw [uh HP]
  exact ⟨[.int .i64 2, .bool false, .int .i64 0, .int .i64 0, .int .i64 0, .slice none 0 0, .slice none 0 0, .slice none 0 0, .slice none 0 0], rfl, (eo (uh HC) (lo := _) (uh HB9).size).bg, uh HB9⟩
 have hdh : decide ((60 : Int) ≤ (x.af.length : Int)) = false := by simp; omega
 replace HP := yh ((uh HP).trans (if_neg h60))
 go_upto_region 19 with fail
 clear hdh z6 zl
 have HLI : Hid (ab.ar.bg W3 [.int .i64 1, .int .i64 v.aa, .int .i64 v.seq, .int .i64 v.id, .slice none 0 0, .int .i64 0, .int .i64 (x.events + 1), .int .i64 0, .int .i64 0, .slice none 0 0, .slice none 0 0] (cP v (x.events + 1)) []) := dj.2 ⟨none, 0, [], none, 0, [], none, 0, [], rfl, rfl, (show (Lit.int .i64 1).wf = true by decide), (uh HWW).2.1, (uh HWW).2.2, (uh HWW).1, ⟨none, 0, rfl, ⟨by simp [cP], by simp [cP]⟩, Or.inl ⟨rfl, rfl⟩⟩, (show (Lit.int .i64 0).wf = true by decide), aP (by have := (uh HOK).events; show -1000000000 ≤ x.events + 1 ∧ x.events + 1 ≤ 1000000000; omega), (show (Lit.int .i64 0).wf = true by decide), (show (Lit.int .i64 0).wf = true by decide), ⟨none, 0, rfl, ⟨by simp [cP], by simp [cP]⟩, Or.inl ⟨rfl, rfl⟩⟩, ⟨none, 0, rfl, ⟨by simp [cP], by simp [cP]⟩, Or.inl ⟨rfl, rfl⟩⟩⟩
 have hoff : ∀ c ∈ ([] : List Nat), (Value.slice a6w x.af.length d6w).ownBlock ≠ some c := fun c hc => by cases hc
 have hGD : bU ab.ar W3 H 89 (.slice a6w x.af.length d6w) rows x.af bls := uh HGR3
 have hfew := (uh HOK).uQ
 have hH3 : H ≤ W3.heap.size := by omega
 have g1 := aA.at (uh HG) 1 _ rfl
 have g6 := aA.at (uh HG) 6 _ rfl
 have e1 := aA.at (uh HE0) 1 _ rfl
 have e3 := aA.at (uh HE0) 3 _ rfl
 have e4 := aA.at (uh HE0) 4 _ rfl
 simp only [ga, gb, gc] at g1 g6 e1 e3 e4
 have gl := (uh HG).lt
 have el := (uh HE0).lt
 clear HX HR HE0 HGR3
 go_wp2_with (at_builtin; refine eJ hGD (uh HLI) hoff rfl _ _ rfl rfl rfl ?hq3 ?hq4 ?_)
 case hq3 => show x.af.length + 1 ≤ 100000000; omega
 case hq4 => exact hH3
 intro g9 cap9 u9 hG9 hb9 hE9 hg9 hz9 hor9
 have hHg := (hG9.own.lt g9 rfl).1
 have hGu := (uh HG).ext hE9 (fun e => by have := (uh HOB) _ e; omega)
 have s6 := aA.at hGu 6 _ rfl
 simp only [ga, gb, gc] at s6
 have sf := aA.soft hGu
 have sl := hGu.lt
 have hO4 := (uh HO3).ext hE9 (fun c _ h2 h3 => h2 (Or.inr (by have := (uh HOB) c h3; omega)))
 have hO5 := lM (x := gX (vk (cI x)) k (ca x.nodes[k] (bF x.nodes[k].writes v).writes)) hO4 hH1 hH2 hG9 (fun c hc => by
  rw [List.flatten_append] at hc
  rcases List.mem_append.1 hc with q | q
  ·
   have := (uh HBS) c q; omega
  ·
   simp at q) (fun g hg => by
  have hgg : g9 = g := by simpa [Value.ownBlock] using hg
  subst hgg
  rcases hor9 with q | q
  ·
   have := (uh HOB) _ q; omega
  omega) (by have := (uh HOK).uQ; simp; omega)
 have e10 : Ext (fun q => q = W1.heap.size) u9 (u9.setCell ⟨W1.heap.size, 6, none⟩ (.slice (some ⟨g9, 0, none⟩) (x.af.length + 1) cap9)) := (Ext.refl _ _).setCell _ _ rfl
 have HO : Hid (kC (u9.setCell ⟨W1.heap.size, 6, none⟩ (.slice (some ⟨g9, 0, none⟩) (x.af.length + 1) cap9)) wm.heap.size H (fun c => c < wm.heap.size ∨ c = W1.heap.size) [.int .i64 x.now, .int .i64 (x.events + 1), .int .i64 x.chain.ae, .slice a3w x.chain.ids.length d3w, .slice (some ⟨b, off, none⟩) x.nodes.length d4w, .slice a5w x.msgs.length d5w, .slice (some ⟨g9, 0, none⟩) (x.af.length + 1) cap9] (ov (gX (cI x) k (ca x.nodes[k] (bF x.nodes[k].writes v).writes)) (cP v (x.events + 1)))) := yh (hO5.ext e10 (fun c _ h2 h3 => h2 (Or.inr h3)))
 have hG10 := aA.set hGu 6 (.slice (some ⟨g9, 0, none⟩) (x.af.length + 1) cap9)
 simp only [List.setIfInBounds_toArray, List.set_cons_zero, List.set_cons_succ] at hG10
 replace HG := yh hG10
 have hb10 : Below wm.heap.size W3 (u9.setCell ⟨W1.heap.size, 6, none⟩ (.slice (some ⟨g9, 0, none⟩) (x.af.length + 1) cap9)) := (hb9.mono (by omega)).trans (e10.below (B := wm.heap.size) (by have := hb9.size; omega) (fun c hc e => by omega))
 replace HY := yh ((uh HY).uz hb10 (by omega))
 replace HB := yh ((uh HB).trans (hb10.mono (by omega)))
 clear hGD hG9 hb9 hE9 hGu hO4 hO5 e10 hG10 hb10 HO3 g1 g6 e1 e3 e4 gl el HLI hoff
 go_upto_region 20 with fail
 clear s6 sf sl
 generalize u9.setCell ⟨W1.heap.size, 6, none⟩ (.slice (some ⟨g9, 0, none⟩) (x.af.length + 1) cap9) = W4 at *
 obtain ⟨y0, y1, y2, y3, y4, y5, y6⟩ := aZ7 (uh HG)
 have yl := (uh HG).lt
 obtain ⟨r0, r1, r2, r3, r4, r5, r6, r7, r8⟩ := aZ9 (uh HY)
 have rl := (uh HY).lt
 have rf := aA.soft (uh HY)
 have e9 : Ext (fun q => q = w.heap.size + 1 + 1) W4 (aG W4 (w.heap.size + 1 + 1) 0 [.int .i64 0, .bool true, .int .i64 x.now, .int .i64 (x.events + 1), .int .i64 x.chain.ae, .slice a3w x.chain.ids.length d3w, .slice (some ⟨b, off, none⟩) x.nodes.length d4w, .slice a5w x.msgs.length d5w, .slice (some ⟨g9, 0, none⟩) (x.af.length + 1) cap9]) := bb _ (Ext.refl _ _) _ _ _ rfl
 have HO9 := yh (m3 (m := true) (((uh HO).ext e9 (fun c h1 h2 h3 => h2 (Or.inl (by omega)))).dd (B := w.heap.size) (fun c hc => by omega)))
 have HB9 := yh (aB (uh HB) (w.heap.size + 1 + 1) 0 [.int .i64 0, .bool true, .int .i64 x.now, .int .i64 (x.events + 1), .int .i64 x.chain.ae, .slice a3w x.chain.ids.length d3w, .slice (some ⟨b, off, none⟩) x.nodes.length d4w, .slice a5w x.msgs.length d5w, .slice (some ⟨g9, 0, none⟩) (x.af.length + 1) cap9] (by omega))
 clear e9 HO HG HY HB
 go_wp2_with fail
 refine bodyPost_ret (v := .agg #[.int .i64 0, .bool true, .int .i64 x.now, .int .i64 (x.events + 1), .int .i64 x.chain.ae, .slice a3w x.chain.ids.length d3w, .slice (some ⟨b, off, none⟩) x.nodes.length d4w, .slice a5w x.msgs.length d5w, .slice (some ⟨g9, 0, none⟩) (x.af.length + 1) cap9]) (by simp [results, Tryz.results9, go_sem, r0, r1, r2, r3, r4, r5, r6, r7, r8]) rfl ?_
 rw [uh HP]
 exact ⟨_, rfl, uh HO9, uh HB9⟩
theorem tn (cs : List Value) (e : bj) (s q : Int) (g : Nat) (w : World) (h : ab.ar.Reads w cs e) (hbx : aA 0 #[.int .i64 s, .int .i64 q] 139 w g) :
  Calls Tryz.prog 204 #[.agg cs.toArray, .pointer (some ⟨g, 0, none⟩)] w fun r w' => r = .returned (.bool (cA s q e)) ∧ Below w.heap.size w w' := by
 obtain ⟨aq, dq, av, dv, ah, dh, rfl, -, -, -⟩ := cd h
 have nb : Below w.heap.size w (w.alloc (.cells #[.int .i64 e.kind, .int .i64 e.aa, .int .i64 e.seq, .int .i64 e.id, .slice aq e.query.length dq, .int .i64 e.k, .int .i64 e.start, .int .i64 e.fin, .int .i64 e.place, .slice av e.vec.length dv, .slice ah e.aY.length dh] 89)) := (Below.refl _ _).alloc (Nat.le_refl _) _
 have hb1 := hbx.ai nb
 have c0 := aA.at hb1 0 _ rfl
 have c1 := aA.at hb1 1 _ rfl
 simp only [ga, gb, gc] at c0 c1
 have cl := hb1.lt
 have HB := yh nb
 clear nb hb1 hbx h
 cases h1 : (e.kind == 1)
 ·
  have HT : Hid (cA s q e = false) := hJ h1
  go_enter Tryz.func204, Tryz.ntmps204
  go_wp2_with fail
  go_ret
  exact ⟨by rw [uh HT]; rfl, uh HB⟩
 cases h2 : (e.aa == s)
 ·
  have HT : Hid (cA s q e = false) := hZ h2
  have HS : ¬ e.aa = s := by simpa using h2
  go_enter Tryz.func204, Tryz.ntmps204
  go_wp2_with fail
  go_ret
  exact ⟨by rw [uh HT]; rfl, uh HB⟩
 cases h3 : (e.seq == q)
 ·
  have HT : Hid (cA s q e = false) := ie h3
  go_enter Tryz.func204, Tryz.ntmps204
  go_wp2_with fail
  go_ret
  exact ⟨by rw [uh HT]; rfl, uh HB⟩
 have HT : Hid (cA s q e = true) := jN h1 h2 h3
 go_enter Tryz.func204, Tryz.ntmps204
 go_wp2_with fail
 go_ret
 exact ⟨by rw [uh HT]; rfl, uh HB⟩
theorem oT (v : Value) (xs : List bj) (s q : Int) (g : Nat) (w : World) (h : (ab.sl ab.ar).Reads w [v] xs) (hbx : aA 0 #[.int .i64 s, .int .i64 q] 139 w g) :
  Calls Tryz.prog 203 #[v, .func (.func 204) #[] #[.pointer (some ⟨g, 0, none⟩)]] w fun e w' => e = .returned (.int .i64 (df xs s q)) ∧ Below w.heap.size w w' := by
 have hbig := h.et
 obtain ⟨ao, cap, rfl⟩ := aI h
 have H := yh h
 have HBX := yh hbx
 clear h hbx
 go_enter Tryz.func203, Tryz.ntmps203
 go_wp2_with fail
 go_loopw [8] (fun i wr => ∃ k : Nat, k ≤ xs.length ∧ i = .int .i64 k ∧ (∀ j (hj : j < xs.length), j < k → cA s q xs[j] = false) ∧ Below w.heap.size w wr) (fun i _ => xs.length - (intOf i).toNat)
 case atStart => exact ⟨0, Nat.zero_le _, rfl, fun j _ hj => by omega, Below.refl _ _⟩
 case round =>
  obtain ⟨k, hk, rfl, hz, hB⟩ := hrel
  by_cases hlt : k < xs.length
  ·
   obtain ⟨b, off, rfl, hbl⟩ := ab.aS (uh H) (by omega)
   obtain ⟨row, hc, hr⟩ := ab.bE (uh H) hlt
   replace hr := hr.later hB
   have hdl : decide ((k : Int) < (xs.length : Int)) = true := by simp; omega
   have hr2 := hr
   obtain ⟨aq, dq, av, dv, ah, dh, rfl, -, -, -⟩ := cd hr2
   have c0 : wr.cell? ⟨b, off + k * 11, none⟩ = some (.int .i64 (xs[k]).kind) := (hB.cell (p := ⟨b, off + k * 11, none⟩) hbl).trans (hc 0 (by decide))
   have c1 : wr.cell? ⟨b, off + k * 11 + 1, none⟩ = some (.int .i64 (xs[k]).aa) := (hB.cell (p := ⟨b, off + k * 11 + 1, none⟩) hbl).trans (hc 1 (by decide))
   have c2 : wr.cell? ⟨b, off + k * 11 + 2, none⟩ = some (.int .i64 (xs[k]).seq) := (hB.cell (p := ⟨b, off + k * 11 + 2, none⟩) hbl).trans (hc 2 (by decide))
   have c3 : wr.cell? ⟨b, off + k * 11 + 3, none⟩ = some (.int .i64 (xs[k]).id) := (hB.cell (p := ⟨b, off + k * 11 + 3, none⟩) hbl).trans (hc 3 (by decide))
   have c4 : wr.cell? ⟨b, off + k * 11 + 4, none⟩ = some (.slice aq (xs[k]).query.length dq) := (hB.cell (p := ⟨b, off + k * 11 + 4, none⟩) hbl).trans (hc 4 (by decide))
   have c5 : wr.cell? ⟨b, off + k * 11 + 5, none⟩ = some (.int .i64 (xs[k]).k) := (hB.cell (p := ⟨b, off + k * 11 + 5, none⟩) hbl).trans (hc 5 (by decide))
   have c6 : wr.cell? ⟨b, off + k * 11 + 6, none⟩ = some (.int .i64 (xs[k]).start) := (hB.cell (p := ⟨b, off + k * 11 + 6, none⟩) hbl).trans (hc 6 (by decide))
   have c7 : wr.cell? ⟨b, off + k * 11 + 7, none⟩ = some (.int .i64 (xs[k]).fin) := (hB.cell (p := ⟨b, off + k * 11 + 7, none⟩) hbl).trans (hc 7 (by decide))
   have c8 : wr.cell? ⟨b, off + k * 11 + 8, none⟩ = some (.int .i64 (xs[k]).place) := (hB.cell (p := ⟨b, off + k * 11 + 8, none⟩) hbl).trans (hc 8 (by decide))
   have c9 : wr.cell? ⟨b, off + k * 11 + 9, none⟩ = some (.slice av (xs[k]).vec.length dv) := (hB.cell (p := ⟨b, off + k * 11 + 9, none⟩) hbl).trans (hc 9 (by decide))
   have c10 : wr.cell? ⟨b, off + k * 11 + 10, none⟩ = some (.slice ah (xs[k]).aY.length dh) := (hB.cell (p := ⟨b, off + k * 11 + 10, none⟩) hbl).trans (hc 10 (by decide))
   have HL := yh (tn _ xs[k] s q g wr hr ((uh HBX).ai hB))
   have HA : Hid (cA s q xs[k] = true → df xs s q = (k : Int)) := fun c => nG hlt c (fun j hj hjk => hz j hj hjk)
   have HN : Hid (cA s q xs[k] = false → ∀ j (hj : j < xs.length), j < k + 1 → cA s q xs[j] = false) := fun c j hj hjk => by
    by_cases h2 : j < k
    ·
     exact hz j hj h2
    obtain rfl : j = k := by omega
    exact c
   have HB := yh hB
   clear hz hB hr hc hr2
   generalize hy : xs[k] = y at *
   clear hy
   go_wp2_with fail
   refine (uh HL).mono ?_
   rintro e w2 ⟨rfl, hb⟩
   replace HB := bZ HB hb
   clear hb HL c0 c1 c2 c3 c4 c5 c6 c7 c8 c9 c10
   cases hq : cA s q y
   ·
    have HNN := yh (uh HN hq)
    clear HN HA hq
    go_wp2_with fail
    go_roundw
    case rel => exact ⟨k + 1, by omega, by go_num, uh HNN, uh HB⟩
    case measure => simp [intOf]; omega
   have HAA := yh (uh HA hq)
   clear HN HA hq
   go_wp2_with fail
   go_ret
   exact ⟨by rw [uh HAA]; rfl, uh HB⟩
  obtain rfl : k = xs.length := by omega
  have hdl : decide ((xs.length : Int) < (xs.length : Int)) = false := by simp
  have HAN := yh (gO (s := s) (q := q) fun j hj => hz j hj hj)
  have HB := yh hB
  clear hz hB
  go_wp2_with fail
  go_ret
  exact ⟨by rw [uh HAN]; rfl, uh HB⟩
theorem kQ (v : Value) (xs : List bj) (s q : Int) (w : World) (h : (ab.sl ab.ar).Reads w [v] xs) :
  Calls Tryz.prog 162 #[v, .agg #[.int .i64 s, .int .i64 q]] w fun e w' => e = .returned (.int .i64 (df xs s q)) ∧ Below w.heap.size w w' := by
 have hmf : ∀ (fn : Fn) (first cap : Array Value) (w : World), (Instr.makeFunc fn first cap).run Tryz.prog w = .ok (.func fn first cap) w := fun _ _ _ _ => rfl
 have nb : Below w.heap.size w (w.alloc (.cells #[.int .i64 s, .int .i64 q] 139)) := (Below.refl _ _).alloc (Nat.le_refl _) _
 have HL := yh (oT v xs s q w.heap.size _ (h.later nb) (aD (Nat.zero_le _)))
 have HB := yh nb
 obtain ⟨ao, cap, rfl⟩ := aI h
 clear nb h
 go_enter Tryz.func162, Tryz.ntmps162
 go_wp2_with fail
 refine (uh HL).mono ?_
 rintro e w2 ⟨rfl, hb⟩
 have HB2 := yh ((uh HB).trans (hb.mono (uh HB).size))
 clear hb HL
 go_wp2_with fail
 go_ret
 exact ⟨rfl, uh HB2⟩
theorem tH (cs : List Value) (c : bQ) (w : World) (h : ab.aH.Reads w cs c) (hl : 1 ≤ c.ids.length) :
  Calls Tryz.prog 102 #[.agg cs.toArray] w fun e w' => e = .returned (.int .i64 (c.ids.getD 0 0)) ∧ Below w.heap.size w w' := by
 obtain ⟨a, d, rfl, RI⟩ := cb h
 obtain ⟨bi, oi, rfl, hbi⟩ := ab.aS RI (by omega)
 have nb : Below w.heap.size w (w.alloc (.cells #[.int .i64 c.ae, .slice (some ⟨bi, oi, none⟩) c.ids.length d] 34)) := (Below.refl _ _).alloc (Nat.le_refl _) _
 have HX : Hid (aA 0 #[.int .i64 c.ae, .slice (some ⟨bi, oi, none⟩) c.ids.length d] 34 (w.alloc (.cells #[.int .i64 c.ae, .slice (some ⟨bi, oi, none⟩) c.ids.length d] 34)) w.heap.size) := aD (Nat.zero_le _)
 have c0 := eB (RI.later nb) (show 0 < c.ids.length by omega)
 have e0 : c.ids.getD 0 0 = c.ids[0] := by simp [List.getD, show 0 < c.ids.length by omega]
 rw [← e0] at c0
 have HB := yh nb
 have hli : (0 : Int) < (c.ids.length : Int) := by omega
 have hbl : bi < (w.alloc (.cells #[.int .i64 c.ae, .slice (some ⟨bi, oi, none⟩) c.ids.length d] 34)).heap.size := Nat.lt_of_lt_of_le hbi nb.size
 clear nb h RI e0
 generalize c.ids.getD 0 0 = z at *
 go_enter Tryz.func102, Tryz.ntmps102
 go_upto_region 1 with fail
 generalize (w.alloc (.cells #[.int .i64 c.ae, .slice (some ⟨bi, oi, none⟩) c.ids.length d] 34)) = W1 at *
 have z1 := aA.at (uh HX) 1 _ rfl
 simp only [ga, gb, gc] at z1
 have zl := (uh HX).lt
 simp only [Nat.add_zero] at c0
 clear HX
 go_wp2_with fail
 go_ret
 exact ⟨rfl, uh HB⟩
def dE (g lo : Nat) (c : Int) (z : ay) (W : World) (e : Ending) (W' : World) : Prop :=
 ∃ m, e = .returned (.tuple #[.bool m, .int .i64 c]) ∧ (c = 0 → m = true ∧ ∃ (u3 u4 u5 u6 : Value), aA 0 #[.int .i64 z.now, .int .i64 z.events, .int .i64 z.chain.ae, u3, u4, u5, u6] 39 W' g ∧ eL W' lo g [.int .i64 z.now, .int .i64 z.events, .int .i64 z.chain.ae, u3, u4, u5, u6] z) ∧ Ext (fun q => lo ≤ q) W W'
theorem oJ (g lo b off n : Nat) (v3 v4 v5 : Value) (y : ay) (v : aj) (vs : List Value) (W : World) (hg : aA 0 #[.int .i64 y.now, .int .i64 y.events, .int .i64 y.chain.ae, v3, v4, v5, .slice (some ⟨b, off, none⟩) n n] 39 W g) (hlo : lo ≤ g) (hO : eL W lo g [.int .i64 y.now, .int .i64 y.events, .int .i64 y.chain.ae, v3, v4, v5, .slice (some ⟨b, off, none⟩) n n] y) (hv : ab.ag.Reads W vs v) (hev : -1000000000 ≤ y.events ∧ y.events ≤ 1000000000) :
  Calls Tryz.prog 106 #[.pointer (some ⟨g, 0, none⟩), .agg vs.toArray] W fun e W' => dE g lo (ec y v) (ft y v) W e W' := by
 obtain ⟨av, dv, rfl, RV⟩ := aM hv
 obtain ⟨hnl, -⟩ := lu hO
 have RE : (ab.sl ab.ar).Reads W [.slice (some ⟨b, off, none⟩) n n] y.af := by
  obtain ⟨_, _, _, _, _, _, a6, d6, hq, -, -, -, RE⟩ := aK hO.reads
  simp only [List.cons.injEq, Value.slice.injEq, and_true, true_and] at hq
  obtain ⟨-, -, -, h1, h2, h3⟩ := hq
  rw [← h1, ← h3, ← h2] at RE
  exact RE
 have hww : (Lit.int .i64 v.id).wf = true ∧ (Lit.int .i64 v.aa).wf = true ∧ (Lit.int .i64 v.seq).wf = true := by
  obtain ⟨_, hl⟩ := hv
  obtain ⟨_, _, _, -, -, -, k2, -, k4, k5⟩ := ch.1 hl
  exact ⟨k2, k4, k5⟩
 have nb : Below W.heap.size W (W.alloc (.cells #[.int .i64 v.kind, .int .i64 v.id, .slice av v.vec.length dv, .int .i64 v.aa, .int .i64 v.seq] 44)) := (Below.refl _ _).alloc (Nat.le_refl _) _
 have HV : Hid (aA 0 #[.int .i64 v.kind, .int .i64 v.id, .slice av v.vec.length dv, .int .i64 v.aa, .int .i64 v.seq] 44 (W.alloc (.cells #[.int .i64 v.kind, .int .i64 v.id, .slice av v.vec.length dv, .int .i64 v.aa, .int .i64 v.seq] 44)) W.heap.size) := aD (Nat.zero_le _)
 have HG := yh (hg.ai nb)
 have HO := yh (hO.later nb)
 have HE := yh (RE.later nb)
 have HX : Hid (Ext (fun q => lo ≤ q) W (W.alloc (.cells #[.int .i64 v.kind, .int .i64 v.id, .slice av v.vec.length dv, .int .i64 v.aa, .int .i64 v.seq] 44))) := yh (az nb _)
 have HLI : Hid (∀ W', ab.ar.bg W' [.int .i64 1, .int .i64 v.aa, .int .i64 v.seq, .int .i64 v.id, .slice none 0 0, .int .i64 0, .int .i64 y.events, .int .i64 0, .int .i64 0, .slice none 0 0, .slice none 0 0] (cP v y.events) []) := fun W' => dj.2 ⟨none, 0, [], none, 0, [], none, 0, [], rfl, rfl, (show (Lit.int .i64 1).wf = true by decide), hww.2.1, hww.2.2, hww.1, ⟨none, 0, rfl, ⟨by simp [cP], by simp [cP]⟩, Or.inl ⟨rfl, rfl⟩⟩, (show (Lit.int .i64 0).wf = true by decide), aP hev, (show (Lit.int .i64 0).wf = true by decide), (show (Lit.int .i64 0).wf = true by decide), ⟨none, 0, rfl, ⟨by simp [cP], by simp [cP]⟩, Or.inl ⟨rfl, rfl⟩⟩, ⟨none, 0, rfl, ⟨by simp [cP], by simp [cP]⟩, Or.inl ⟨rfl, rfl⟩⟩⟩
 have hzz := nb.size
 have HTA := yh (lQ y.af v.aa v.seq)
 have HNL := yh hnl
 clear hnl
 clear nb hg hO RE hv RV hww
 go_enter Tryz.func106, Tryz.ntmps106
 go_upto_region 1 with fail
 generalize hWe : (W.alloc (.cells #[.int .i64 v.kind, .int .i64 v.id, .slice av v.vec.length dv, .int .i64 v.aa, .int .i64 v.seq] 44)) = W1 at *
 refine wZz (fun w' => Below W1.heap.size W1 w') ((Below.refl _ _).drew) (fun zq => ?_)
 generalize W1.drew = wD at zq ⊢
 refine tkH 0 zq ?_
 refine tkH 1 zq ?_
 refine tkH 2 zq ?_
 refine tkJ 3 (v := ?vm3) ?hm3 zq ?rm3
 case hm3 =>
  intro wS hSw
  have bS := (uh HG).ai hSw
  have q6 := aA.at bS 6 _ rfl
  simp only [ga, gb, gc] at q6
  clear bS hSw
  exact fZ
 refine tkJ 4 (v := ?vm4) ?hm4 zq ?rm4
 case hm4 =>
  intro wS hSw
  have bS := (uh HV).ai hSw
  obtain ⟨q0, q1, q2, q3, q4⟩ := aZ5 bS
  clear bS hSw
  exact fZ
 refine rdH 5 (fun K hK => ?_)
 go_simp
 go_at_call 163
 refine (mo _ _ _ _ _ v.aa v.seq _).mono ?_
 rintro e u1 ⟨rfl, hb1⟩
 try go_wp2_with fail
 refine hK.out _ _ (zq.trans (hb1.mono zq.size)) (fun zq => ?_)
 clear hK K
 try simp only [Act.put, pz, py, px]
 refine rdH 6 (fun K hK => ?_)
 try simp only [tick]
 go_simp
 go_at_call 162
 refine (kQ _ y.af v.aa v.seq _ ((uh HE).later zq)).mono ?_
 rintro e u2 ⟨rfl, hb2⟩
 try go_wp2_with fail
 refine hK.out _ _ (zq.trans (hb2.mono zq.size)) (fun zq => ?_)
 clear hK K
 try simp only [Act.put, pz, py, px]
 refine tkH 7 zq ?_
 refine dZ ?_
 have hs2 := zq.size
 replace HG := yh ((uh HG).ai zq)
 replace HV := yh ((uh HV).ai zq)
 replace HO := yh ((uh HO).later zq)
 replace HX := yh ((uh HX).trans (az zq _))
 clear zq hb1 hb2 HE hWe
 cases han : y.af.any (cA v.aa v.seq)
 ·
  have hd : decide (0 ≤ df y.af v.aa v.seq) = false := by rw [uh HTA]; exact han
  clear HTA
  generalize df y.af v.aa v.seq = tp at *
  have hneg : tp < 0 := by simpa using hd
  go_upto_region 3 with fail
  clear hd hneg
  have g6 := aA.at (uh HG) 6 _ rfl
  simp only [ga, gb, gc] at g6
  have hgl := (uh HG).lt
  by_cases h60 : 60 ≤ n
  ·
   have hd : decide ((60 : Int) ≤ (n : Int)) = true := by simp; omega
   have HC : Hid (ec y v = 2) := by
    show ec y v = 2
    rw [ec, if_neg (by rw [han]; simp), if_pos (by have := uh HNL; omega)]
   go_wp2_with fail
   go_ret2
   unfold dE
   exact ⟨false, by rw [uh HC]; rfl, fun h0 => by rw [uh HC] at h0; simp at h0, uh HX⟩
  have hd : decide ((60 : Int) ≤ (n : Int)) = false := by simp; omega
  have HC : Hid (ec y v = 0) := by
   show ec y v = 0
   rw [ec, if_neg (by rw [han]; simp), if_neg (by have := uh HNL; omega)]
  have HN : Hid (ft y v = ov y (cP v y.events)) := by
   show ft y v = _
   rw [ft, if_neg (by rw [han]; simp)]
  go_upto_region 5 with fail
  clear hd g6 hgl han
  generalize u2 = W2 at *
  refine wZz (fun w' => Below W2.heap.size W2 w') ((Below.refl _ _).drew) (fun zq => ?_)
  generalize W2.drew = wN at zq ⊢
  refine tkH 0 zq ?_
  refine tkJ 1 (v := ?vn1) ?hn1 zq ?rn1
  case hn1 =>
   intro wS hSw
   have bS := (uh HV).ai hSw
   have q3 := aA.at bS 3 _ rfl
   simp only [ga, gb, gc] at q3
   clear bS hSw
   exact fZ
  refine tkH 2 zq ?_
  refine tkJ 3 (v := ?vn3) ?hn3 zq ?rn3
  case hn3 =>
   intro wS hSw
   have bS := (uh HV).ai hSw
   have q4 := aA.at bS 4 _ rfl
   simp only [ga, gb, gc] at q4
   clear bS hSw
   exact fZ
  refine tkH 4 zq ?_
  refine tkJ 5 (v := ?vn5) ?hn5 zq ?rn5
  case hn5 =>
   intro wS hSw
   have bS := (uh HV).ai hSw
   have q1 := aA.at bS 1 _ rfl
   simp only [ga, gb, gc] at q1
   clear bS hSw
   exact fZ
  refine tkH 6 zq ?_
  refine tkH 7 zq ?_
  refine tkH 8 zq ?_
  refine tkJ 9 (v := ?vn9) ?hn9 zq ?rn9
  case hn9 =>
   intro wS hSw
   have bS := (uh HG).ai hSw
   have q1 := aA.at bS 1 _ rfl
   simp only [ga, gb, gc] at q1
   clear bS hSw
   exact fZ
  refine tkH 10 zq ?_
  refine rdH 11 (fun K hK => ?_)
  have hHA := zq
  go_simp
  refine hK.out _ _ (zq.alloc zq.size _) (fun zq => ?_)
  clear hK K
  try simp only [Act.put, pz, py, px]
  refine rdH 12 (fun K hK => ?_)
  go_simp
  refine hK.out _ _ (hHA.alloc hHA.size _) (fun zq => ?_)
  clear hK K
  try simp only [Act.put, pz, py, px]
  refine dZ ?_
  have hzN : W2.heap.size ≤ wN.heap.size := hHA.size
  have hgN : g < wN.heap.size := Nat.lt_of_lt_of_le (uh HG).lt hzN
  have nbT : Below wN.heap.size wN (wN.alloc (.cells #[.int .i64 1, .int .i64 v.aa, .int .i64 v.seq, .int .i64 v.id, .slice none 0 0, .int .i64 0, .int .i64 y.events, .int .i64 0, .int .i64 0, .slice none 0 0, .slice none 0 0] 89)) := (Below.refl _ _).alloc (Nat.le_refl _) _
  have HT : Hid (aA 0 #[.int .i64 1, .int .i64 v.aa, .int .i64 v.seq, .int .i64 v.id, .slice none 0 0, .int .i64 0, .int .i64 y.events, .int .i64 0, .int .i64 0, .slice none 0 0, .slice none 0 0] 89 (wN.alloc (.cells #[.int .i64 1, .int .i64 v.aa, .int .i64 v.seq, .int .i64 v.id, .slice none 0 0, .int .i64 0, .int .i64 y.events, .int .i64 0, .int .i64 0, .slice none 0 0, .slice none 0 0] 89)) wN.heap.size) := aD (Nat.zero_le _)
  have hz6 : (wN.alloc (.cells #[.int .i64 1, .int .i64 v.aa, .int .i64 v.seq, .int .i64 v.id, .slice none 0 0, .int .i64 0, .int .i64 y.events, .int .i64 0, .int .i64 0, .slice none 0 0, .slice none 0 0] 89)).heap.size = wN.heap.size + 1 := by simp
  replace HG := yh ((uh HG).ai zq)
  replace HO := yh ((uh HO).later zq)
  replace HX := yh ((uh HX).trans (az zq _))
  clear zq hHA nbT HV
  generalize wN.alloc (.cells #[.int .i64 1, .int .i64 v.aa, .int .i64 v.seq, .int .i64 v.id, .slice none 0 0, .int .i64 0, .int .i64 y.events, .int .i64 0, .int .i64 0, .slice none 0 0, .slice none 0 0] 89) = W6 at *
  go_upto_region 6 with fail
  have nd : Below W6.heap.size W6 W6.drew := (Below.refl _ _).drew
  have HGD := yh ((uh HG).ai nd)
  have HBD : Hid (Below W6.heap.size W6 W6.drew) := nd
  have hzD : W6.heap.size ≤ W6.drew.heap.size := nd.size
  have hgW := (uh HG).lt
  obtain ⟨-, rows, hrl, hrc, hput⟩ := lu ((uh HO).later nd)
  have HRL := yh hrl
  have HRC := yh hrc
  have HPUT := yh hput
  clear nd HG HO hrl hrc hput
  refine wZz (fun w' => Ext (fun q => q = g ∨ wN.heap.size < q) W6 w') ((Ext.refl _ _).drew 1) (fun zq => ?_)
  generalize W6.drew = wD at zq HGD HBD HPUT HRC hzD ⊢
  refine tkH 0 zq ?_
  refine tkH 1 zq ?_
  refine tkH 2 zq ?_
  refine tkH 3 zq ?_
  refine tkJ 5 (v := ?vp5_5) ?hp5_5 zq ?rp5_5
  case hp5_5 =>
   intro wS hSw
   have bS := (uh HT).ext hSw (fun e => by rcases e with e | e <;> omega)
   obtain ⟨q0, q1, q2, q3, q4, q5, q6, q7, q8, q9, q10⟩ := aZ11 bS
   clear bS hSw
   exact fZ
  refine wpAnyH_ready (rs := [4, 6]) (by kernel_rfl) (by simp) ?_
  refine AllReadyH.cons (o := ⟨some 36, .load 37 (.tmp 35), 37, "l12_world.go:253", #[⟨3, .data⟩], none⟩) rfl (fun K hK => ?op4_6) (AllReadyH.cons (o := ⟨some 38, .buildSlice 37 1 #[(0, .tmp 37)], 37, "l12_world.go:253", #[⟨5, .data⟩], none⟩) rfl (fun K hK => ?op6_6) (AllReadyH.nil))
  case op4_6 =>
   have p6 := aA.at (uh HGD) 6 _ rfl
   simp only [ga, gb, gc] at p6
   go_simp
   try go_wp2_with fail
   refine hK.out _ _ zq (fun zq => ?_)
   clear hK K
   try simp only [Act.put, pz, py, px]
   refine rdH 6 (fun K hK => ?_)
   have nb6 : Below wD.heap.size wD (wD.alloc (.cells #[.int .i64 1, .int .i64 v.aa, .int .i64 v.seq, .int .i64 v.id, .slice none 0 0, .int .i64 0, .int .i64 y.events, .int .i64 0, .int .i64 0, .slice none 0 0, .slice none 0 0] 89)) := (Below.refl _ _).alloc (Nat.le_refl _) _
   have hHD := zq
   go_simp
   try go_wp2_with fail
   refine hK.out _ _ (zq.trans (az nb6 _)) (fun zq => ?_)
   clear hK K
   try simp only [Act.put, pz, py, px]
   refine rdH 7 (fun K hK => ?_)
   refine fx (uh HRL) (uh HRC) (row := [.int .i64 1, .int .i64 v.aa, .int .i64 v.seq, .int .i64 v.id, .slice none 0 0, .int .i64 0, .int .i64 y.events, .int .i64 0, .int .i64 0, .slice none 0 0, .slice none 0 0]) (x := cP v y.events) (uh HLI _) rfl _ _ rfl rfl rfl (by omega) ?_
   intro g9 cap9 u9 ho9 hb9 hg9 hs9 hgg9
   have hGu := (uh HGD).ai hb9
   refine hK.out _ _ (hHD.trans (az hb9 _)) (fun zq => ?_)
   clear hK K
   try simp only [Act.put, pz, py, px]
   refine tkH 8 zq ?_
   refine tkH 9 zq ?_
   refine rdH 10 (fun K hK => ?_)
   have s6 := aA.at hGu 6 _ rfl
   simp only [ga, gb, gc] at s6
   have sf := aA.soft hGu
   have sl := hGu.lt
   go_simp
   try go_wp2_with fail
   refine hK.out _ _ ((hHD.trans (az hb9 _)).setCell ⟨g, 6, none⟩ _ (Or.inl rfl)) (fun zq => ?_)
   clear hK K
   try simp only [Act.put, pz, py, px]
   refine dZ ?_
   have hO9 := uh HPUT u9 (cP v y.events) _ _ g9 cap9 hb9 (uh HLI _) ho9 (Nat.le_refl _) (uh HGD).lt (by have := hgW; have := (uh HBD).size; omega) hg9 (by omega)
   have e6 : Ext (fun q => q = g) u9 (u9.setCell ⟨g, 6, none⟩ (.slice (some ⟨g9, 0, none⟩) (n + 1) cap9)) := (Ext.refl _ _).setCell _ _ rfl
   have hG9 := aA.set hGu 6 (.slice (some ⟨g9, 0, none⟩) (n + 1) cap9)
   simp only [List.setIfInBounds_toArray, List.set_cons_zero, List.set_cons_succ] at hG9
   have HO9 := yh (hO9.ext e6 (fun q h1 h2 h3 => h3))
   have HG9 := yh hG9
   have HX9 := yh ((uh HX).trans ((az ((uh HBD).trans (hb9.mono (uh HBD).size)) _).trans (e6.mono (fun q _ h => by rw [h]; exact hlo))))
   clear zq hHD hGu s6 sf sl p6 hO9 e6 hG9 ho9 hb9 nb6
   go_wp2_with fail
   go_ret2
   unfold dE
   refine ⟨true, by rw [uh HC]; rfl, fun _ => ⟨rfl, ?_⟩, uh HX9⟩
   rw [uh HN]
   exact ⟨_, _, _, _, uh HG9, uh HO9⟩
  case op6_6 =>
   have nb6 : Below wD.heap.size wD (wD.alloc (.cells #[.int .i64 1, .int .i64 v.aa, .int .i64 v.seq, .int .i64 v.id, .slice none 0 0, .int .i64 0, .int .i64 y.events, .int .i64 0, .int .i64 0, .slice none 0 0, .slice none 0 0] 89)) := (Below.refl _ _).alloc (Nat.le_refl _) _
   have hHD := zq
   go_simp
   try go_wp2_with fail
   refine hK.out _ _ (zq.trans (az nb6 _)) (fun zq => ?_)
   clear hK K
   try simp only [Act.put, pz, py, px]
   refine rdH 4 (fun K hK => ?_)
   have p6 := aA.at ((uh HGD).ai nb6) 6 _ rfl
   simp only [ga, gb, gc] at p6
   go_simp
   try go_wp2_with fail
   refine hK.out _ _ zq (fun zq => ?_)
   clear hK K
   try simp only [Act.put, pz, py, px]
   refine rdH 7 (fun K hK => ?_)
   refine fx (uh HRL) (uh HRC) (row := [.int .i64 1, .int .i64 v.aa, .int .i64 v.seq, .int .i64 v.id, .slice none 0 0, .int .i64 0, .int .i64 y.events, .int .i64 0, .int .i64 0, .slice none 0 0, .slice none 0 0]) (x := cP v y.events) (uh HLI _) rfl _ _ rfl rfl rfl (by omega) ?_
   intro g9 cap9 u9 ho9 hb9 hg9 hs9 hgg9
   have hGu := (uh HGD).ai hb9
   refine hK.out _ _ (hHD.trans (az hb9 _)) (fun zq => ?_)
   clear hK K
   try simp only [Act.put, pz, py, px]
   refine tkH 8 zq ?_
   refine tkH 9 zq ?_
   refine rdH 10 (fun K hK => ?_)
   have s6 := aA.at hGu 6 _ rfl
   simp only [ga, gb, gc] at s6
   have sf := aA.soft hGu
   have sl := hGu.lt
   go_simp
   try go_wp2_with fail
   refine hK.out _ _ ((hHD.trans (az hb9 _)).setCell ⟨g, 6, none⟩ _ (Or.inl rfl)) (fun zq => ?_)
   clear hK K
   try simp only [Act.put, pz, py, px]
   refine dZ ?_
   have hO9 := uh HPUT u9 (cP v y.events) _ _ g9 cap9 hb9 (uh HLI _) ho9 (Nat.le_refl _) (uh HGD).lt (by have := hgW; have := (uh HBD).size; omega) hg9 (by omega)
   have e6 : Ext (fun q => q = g) u9 (u9.setCell ⟨g, 6, none⟩ (.slice (some ⟨g9, 0, none⟩) (n + 1) cap9)) := (Ext.refl _ _).setCell _ _ rfl
   have hG9 := aA.set hGu 6 (.slice (some ⟨g9, 0, none⟩) (n + 1) cap9)
   simp only [List.setIfInBounds_toArray, List.set_cons_zero, List.set_cons_succ] at hG9
   have HO9 := yh (hO9.ext e6 (fun q h1 h2 h3 => h3))
   have HG9 := yh hG9
   have HX9 := yh ((uh HX).trans ((az ((uh HBD).trans (hb9.mono (uh HBD).size)) _).trans (e6.mono (fun q _ h => by rw [h]; exact hlo))))
   clear zq hHD hGu s6 sf sl p6 hO9 e6 hG9 ho9 hb9 nb6
   go_wp2_with fail
   go_ret2
   unfold dE
   refine ⟨true, by rw [uh HC]; rfl, fun _ => ⟨rfl, ?_⟩, uh HX9⟩
   rw [uh HN]
   exact ⟨_, _, _, _, uh HG9, uh HO9⟩
 have hd : decide (0 ≤ df y.af v.aa v.seq) = true := by rw [uh HTA]; exact han
 have HC : Hid (ec y v = 0) := by
  show ec y v = 0
  rw [ec, if_pos han]
 have HN : Hid (ft y v = y) := by
  show ft y v = y
  rw [ft, if_pos han]
 clear HTA han
 generalize df y.af v.aa v.seq = tp at *
 have hpos : 0 ≤ tp := by simpa using hd
 go_wp2_with fail
 go_ret2
 unfold dE
 refine ⟨true, by rw [uh HC]; rfl, fun _ => ⟨rfl, ?_⟩, uh HX⟩
 rw [uh HN]
 exact ⟨_, _, _, _, uh HG, uh HO⟩
theorem m1 (g : Nat) (us : List Value) (r : cX) (W : World) (h : ab.da.Reads W us r) (hc : r.code ≠ 0) :
  Calls Tryz.prog 104 #[.pointer (some ⟨g, 0, none⟩), .agg us.toArray] W fun e W' => e = .returned (.tuple #[.bool false, .int .i64 r.code]) ∧ Below W.heap.size W W' := by
 obtain ⟨a6, d6, rfl, -⟩ := jy h
 have nb : Below W.heap.size W (W.alloc (.cells #[.int .i64 r.code, .int .i64 r.place, .int .i64 r.node.id, .bool r.node.up, .int .i64 r.node.ae, .int .i64 r.node.au, .slice a6 r.node.writes.length d6, .int .i64 r.node.sure, .int .i64 r.node.clean] 167)) := (Below.refl _ _).alloc (Nat.le_refl _) _
 have HX : Hid (aA 0 #[.int .i64 r.code, .int .i64 r.place, .int .i64 r.node.id, .bool r.node.up, .int .i64 r.node.ae, .int .i64 r.node.au, .slice a6 r.node.writes.length d6, .int .i64 r.node.sure, .int .i64 r.node.clean] 167 (W.alloc (.cells #[.int .i64 r.code, .int .i64 r.place, .int .i64 r.node.id, .bool r.node.up, .int .i64 r.node.ae, .int .i64 r.node.au, .slice a6 r.node.writes.length d6, .int .i64 r.node.sure, .int .i64 r.node.clean] 167)) W.heap.size) := aD (Nat.zero_le _)
 have HB := yh nb
 have hd : (r.code != 0) = true := by simpa using hc
 clear nb h hc
 go_enter Tryz.func104, Tryz.ntmps104
 go_upto_region 1 with fail
 generalize W.alloc (.cells #[.int .i64 r.code, .int .i64 r.place, .int .i64 r.node.id, .bool r.node.up, .int .i64 r.node.ae, .int .i64 r.node.au, .slice a6 r.node.writes.length d6, .int .i64 r.node.sure, .int .i64 r.node.clean] 167) = w1 at *
 have z0 := aA.at (uh HX) 0 _ rfl
 simp only [List.getElem_toArray, List.getElem_cons_zero] at z0
 go_upto_region 2 with fail
 clear z0
 have z0 := aA.at (uh HX).drew 0 _ rfl
 simp only [List.getElem_toArray, List.getElem_cons_zero] at z0
 replace HB := yh (uh HB).drew
 refine wZz (fun w' => w' = w1.drew) rfl (fun zq => ?_)
 generalize w1.drew = wD at zq z0 HB HX ⊢
 refine tkJ 0 (v := ?vb0) ?hb0 zq ?rb0
 case hb0 =>
  intro wS hSw
  subst hSw
  exact fZ
 refine tkJ 1 (v := ?vb1) ?hb1 zq ?rb1
 case hb1 =>
  intro wS hSw
  subst hSw
  exact fZ
 refine tkJ 2 (v := ?vb2) ?hb2 zq ?rb2
 case hb2 =>
  intro wS hSw
  subst hSw
  exact fZ
 refine tkJ 3 (v := ?vb3) ?hb3 zq ?rb3
 case hb3 =>
  intro wS hSw
  subst hSw
  exact fZ
 refine dZ ?_
 clear zq
 go_wp2_with fail
 go_ret2
 exact ⟨rfl, uh HB⟩
theorem n0 (g lo k : Nat) (v3 v4 v5 v6 : Value) (y : ay) (us : List Value) (r : cX) (W0 W : World) (hg : aA 0 #[.int .i64 y.now, .int .i64 y.events, .int .i64 y.chain.ae, v3, v4, v5, v6] 39 W0 g) (hO : eL W0 lo g [.int .i64 y.now, .int .i64 y.events, .int .i64 y.chain.ae, v3, v4, v5, v6] y) (hb : Below W0.heap.size W0 W) (hr : ab.da.aN W us r W0.heap.size W.heap.size)
  (hc : r.code = 0) (hk : k < y.nodes.length) (hn5 : y.nodes.length ≤ 5) (hid : r.node.id = (k : Int) + 1) :
  Calls Tryz.prog 104 #[.pointer (some ⟨g, 0, none⟩), .agg us.toArray] W fun e W' => e = .returned (.tuple #[.bool true, .int .i64 0]) ∧ (∃ (u3 u4 u5 u6 : Value), aA 0 #[.int .i64 y.now, .int .i64 y.events, .int .i64 y.chain.ae, u3, u4, u5, u6] 39 W' g ∧ eL W' lo g [.int .i64 y.now, .int .i64 y.events, .int .i64 y.chain.ae, u3, u4, u5, u6] (dA y r.node)) ∧ Ext (fun q => lo ≤ q ∧ q ≠ g) W W' := by
 obtain ⟨rc, rp, ri, ru, re, rl, rws, rs, rcl⟩ := r
 obtain rfl : rc = 0 := hc
 obtain rfl : ri = (k : Int) + 1 := hid
 obtain ⟨blr, hOr, hbr⟩ := hr
 obtain ⟨a6, d6, g2, hq, rfl, hOn, -, -⟩ := jP hOr
 dsimp only at hq hOn
 subst hq
 have nb : Below W.heap.size W (W.alloc (.cells #[.int .i64 0, .int .i64 rp, .int .i64 ((k : Int) + 1), .bool ru, .int .i64 re, .int .i64 rl, .slice a6 rws.length d6, .int .i64 rs, .int .i64 rcl] 167)) := (Below.refl _ _).alloc (Nat.le_refl _) _
 have bX : aA 0 #[.int .i64 0, .int .i64 rp, .int .i64 ((k : Int) + 1), .bool ru, .int .i64 re, .int .i64 rl, .slice a6 rws.length d6, .int .i64 rs, .int .i64 rcl] 167 (W.alloc (.cells #[.int .i64 0, .int .i64 rp, .int .i64 ((k : Int) + 1), .bool ru, .int .i64 re, .int .i64 rl, .slice a6 rws.length d6, .int .i64 rs, .int .i64 rcl] 167)) W.heap.size := aD (Nat.zero_le _)
 have hOn1 : ab.ax.aN (W.alloc (.cells #[.int .i64 0, .int .i64 rp, .int .i64 ((k : Int) + 1), .bool ru, .int .i64 re, .int .i64 rl, .slice a6 rws.length d6, .int .i64 rs, .int .i64 rcl] 167)) _ ⟨(k : Int) + 1, ru, re, rl, rws, rs, rcl⟩ W0.heap.size (W.alloc (.cells #[.int .i64 0, .int .i64 rp, .int .i64 ((k : Int) + 1), .bool ru, .int .i64 re, .int .i64 rl, .slice a6 rws.length d6, .int .i64 rs, .int .i64 rcl] 167)).heap.size := ⟨blr, hOn.later nb, fun c hc => ⟨(hbr c hc).1, Nat.lt_of_lt_of_le (hbr c hc).2 nb.size⟩⟩
 obtain ⟨b, off, cap, row0, rfl, hb1, hb2, hbg, hR0, -, hput⟩ := sD hO (hb.trans (nb.mono hb.size)) hg.lt hOn1 hk
 have hgx := hg.ai (hb.trans (nb.mono hb.size))
 have hbx : b ≠ W.heap.size := by have := hb.size; omega
 have hxl := bX.lt
 have hgl := hgx.lt
 have hbl : b < (W.alloc (.cells #[.int .i64 0, .int .i64 rp, .int .i64 ((k : Int) + 1), .bool ru, .int .i64 re, .int .i64 rl, .slice a6 rws.length d6, .int .i64 rs, .int .i64 rcl] 167)).heap.size := by have := hb.size; simp; omega
 have c4 := aA.at hgx 4 _ rfl
 obtain ⟨z0, z1, z2, z3, z4, z5, z6, z7, z8⟩ := aZ9 bX
 simp only [ga, gb, gc] at c4
 have HE : Hid (Ext (fun q => lo ≤ q ∧ q ≠ g) W (W.alloc (.cells #[.int .i64 0, .int .i64 rp, .int .i64 ((k : Int) + 1), .bool ru, .int .i64 re, .int .i64 rl, .slice a6 rws.length d6, .int .i64 rs, .int .i64 rcl] 167))) := az nb _
 have hgb : (fun q => q = b) g → False := fun e => hbg e.symm
 have HG := yh hgx
 have HP := yh hput
 have HR0 := yh hR0
 have hLO : lo ≤ b := hb1
 have hw1 : IntKind.i64.wrap (k : Int) = (k : Int) := by
  have hk5 := hn5
  rw [IntKind.wrap_i64]
  omega
 have hki : (k : Int) < (y.nodes.length : Int) := by omega
 have hki0 : (0 : Int) ≤ (k : Int) := by omega
 clear nb hO hb hg hOn1 hOn hOr hbr hgx bX hput hR0 hb2 hgb
 go_enter Tryz.func104, Tryz.ntmps104
 go_upto_region 1 with fail
 generalize hWW : W.alloc (.cells #[.int .i64 0, .int .i64 rp, .int .i64 ((k : Int) + 1), .bool ru, .int .i64 re, .int .i64 rl, .slice a6 rws.length d6, .int .i64 rs, .int .i64 rcl] 167) = w1 at *
 go_upto_region 3 with fail
 have HRD : Hid (cU w1 w1.drew b (off + k * 7) 7 row0 []) := ⟨(uh HR0).len, (uh HR0).cells, (uh HR0).others, (uh HR0).soft, (uh HR0).lt, (Ext.refl _ _).drew 1⟩
 have s0 := (uh HRD).soft (off + k * 7)
 have s1 := (uh HRD).soft (off + k * 7 + 1)
 have s2 := (uh HRD).soft (off + k * 7 + 2)
 have s3 := (uh HRD).soft (off + k * 7 + 3)
 have s4 := (uh HRD).soft (off + k * 7 + 4)
 have s5 := (uh HRD).soft (off + k * 7 + 5)
 have s6 := (uh HRD).soft (off + k * 7 + 6)
 obtain ⟨o0, x0⟩ : ∃ u, w1.drew.cell? ⟨b, off + k * 7, none⟩ = some u := ⟨_, ((uh HRD).cells 0 (by decide)).trans (List.getElem?_eq_getElem (by rw [(uh HRD).len]; decide))⟩
 obtain ⟨o1, x1⟩ : ∃ u, w1.drew.cell? ⟨b, off + k * 7 + 1, none⟩ = some u := ⟨_, ((uh HRD).cells 1 (by decide)).trans (List.getElem?_eq_getElem (by rw [(uh HRD).len]; decide))⟩
 obtain ⟨o2, x2⟩ : ∃ u, w1.drew.cell? ⟨b, off + k * 7 + 2, none⟩ = some u := ⟨_, ((uh HRD).cells 2 (by decide)).trans (List.getElem?_eq_getElem (by rw [(uh HRD).len]; decide))⟩
 obtain ⟨o3, x3⟩ : ∃ u, w1.drew.cell? ⟨b, off + k * 7 + 3, none⟩ = some u := ⟨_, ((uh HRD).cells 3 (by decide)).trans (List.getElem?_eq_getElem (by rw [(uh HRD).len]; decide))⟩
 obtain ⟨o4, x4⟩ : ∃ u, w1.drew.cell? ⟨b, off + k * 7 + 4, none⟩ = some u := ⟨_, ((uh HRD).cells 4 (by decide)).trans (List.getElem?_eq_getElem (by rw [(uh HRD).len]; decide))⟩
 obtain ⟨o5, x5⟩ : ∃ u, w1.drew.cell? ⟨b, off + k * 7 + 5, none⟩ = some u := ⟨_, ((uh HRD).cells 5 (by decide)).trans (List.getElem?_eq_getElem (by rw [(uh HRD).len]; decide))⟩
 obtain ⟨o6, x6⟩ : ∃ u, w1.drew.cell? ⟨b, off + k * 7 + 6, none⟩ = some u := ⟨_, ((uh HRD).cells 6 (by decide)).trans (List.getElem?_eq_getElem (by rw [(uh HRD).len]; decide))⟩
 refine wZz (fun w' => Ext (fun q => q = b) w1 w') ((Ext.refl _ _).drew 1) (fun zq => ?_)
 generalize w1.drew = wD at zq HRD s0 x0 s1 x1 s2 x2 s3 x3 s4 x4 s5 x5 s6 x6 ⊢
 refine tkH 0 zq ?_
 refine tkH 1 zq ?_
 refine tkH 2 zq ?_
 refine tkJ 3 (v := ?vs3) ?hs3 zq ?rs3
 case hs3 =>
  intro wS hSw
  have q := (cell_of_heap (hSw.block g hgl (fun e => hbg e.symm)) 4).trans c4
  clear hSw
  exact fZ
 refine tkH 4 zq ?_
 refine tkH 5 zq ?_
 refine tkJ 6 (v := ?vs6) ?hs6 zq ?rs6
 case hs6 =>
  intro wS hSw
  have q := (cell_of_heap (hSw.block W.heap.size hxl (fun e => hbx e.symm)) 2).trans z2
  clear hSw
  exact fZ
 refine tkH 7 zq ?_
 refine tkH 8 zq ?_
 refine tkJ 9 (v := ?vs9) ?hs9 zq ?rs9
 case hs9 =>
  intro wS hSw
  have q2 := (cell_of_heap (hSw.block W.heap.size hxl (fun e => hbx e.symm)) 2).trans z2
  have q3 := (cell_of_heap (hSw.block W.heap.size hxl (fun e => hbx e.symm)) 3).trans z3
  have q4 := (cell_of_heap (hSw.block W.heap.size hxl (fun e => hbx e.symm)) 4).trans z4
  have q5 := (cell_of_heap (hSw.block W.heap.size hxl (fun e => hbx e.symm)) 5).trans z5
  have q6 := (cell_of_heap (hSw.block W.heap.size hxl (fun e => hbx e.symm)) 6).trans z6
  have q7 := (cell_of_heap (hSw.block W.heap.size hxl (fun e => hbx e.symm)) 7).trans z7
  have q8 := (cell_of_heap (hSw.block W.heap.size hxl (fun e => hbx e.symm)) 8).trans z8
  clear hSw
  exact fZ
 refine tkH 10 zq ?_
 refine rdH 11 (fun K hK => ?_)
 go_simp
 refine hK.out _ _ (Ext.setCell (Ext.setCell (Ext.setCell (Ext.setCell (Ext.setCell (Ext.setCell (Ext.setCell zq ⟨b, off + k * 7, none⟩ (.int .i64 ((k : Int) + 1)) rfl) ⟨b, off + k * 7 + 1, none⟩ (.bool ru) rfl) ⟨b, off + k * 7 + 2, none⟩ (.int .i64 re) rfl) ⟨b, off + k * 7 + 3, none⟩ (.int .i64 rl) rfl) ⟨b, off + k * 7 + 4, none⟩ (.slice a6 rws.length d6) rfl) ⟨b, off + k * 7 + 5, none⟩ (.int .i64 rs) rfl) ⟨b, off + k * 7 + 6, none⟩ (.int .i64 rcl) rfl) (fun zq => ?_)
 clear hK K
 try simp only [Act.put, pz, py, px]
 refine dZ ?_
 have hRW := cU.set7 (uh HRD) (.int .i64 ((k : Int) + 1)) (.bool ru) (.int .i64 re) (.int .i64 rl) (.slice a6 rws.length d6) (.int .i64 rs) (.int .i64 rcl)
 have hOW := uh HP _ hRW
 have hEW : Ext (fun q => lo ≤ q ∧ q ≠ g) w1 (((((((wD.setCell ⟨b, off + k * 7, none⟩ (.int .i64 ((k : Int) + 1))).setCell ⟨b, off + k * 7 + 1, none⟩ (.bool ru)).setCell ⟨b, off + k * 7 + 2, none⟩ (.int .i64 re)).setCell ⟨b, off + k * 7 + 3, none⟩ (.int .i64 rl)).setCell ⟨b, off + k * 7 + 4, none⟩ (.slice a6 rws.length d6)).setCell ⟨b, off + k * 7 + 5, none⟩ (.int .i64 rs)).setCell ⟨b, off + k * 7 + 6, none⟩ (.int .i64 rcl)) := (zq.mono (fun q _ e => by rw [e]; exact ⟨hLO, hbg⟩))
 have hGW := (uh HG).ext zq (fun e => hbg e.symm)
 have HOW := yh hOW
 have HGW := yh hGW
 have HEW := yh ((uh HE).trans hEW)
 clear hRW hOW hEW hGW zq
 go_wp2_with fail
 go_ret2
 exact ⟨rfl, ⟨_, _, _, _, by rw [jV (k := k) rfl]; exact ⟨uh HGW, uh HOW⟩⟩, uh HEW⟩
def eg (w : World) (g : Nat) (v : Value) (x : aV) : Prop := aA 0 #[v, .int .i64 x.sure, .int .i64 x.id, .bool x.up, .int .i64 x.ae, .int .i64 x.au, .int .i64 x.clean] 218 w g
theorem eg.ai {w w' : World} {g : Nat} {v : Value} {x : aV} (h : eg w g v x) (hb : Below w.heap.size w w') : eg w' g v x := aA.ai h hb
theorem eg.lt {w : World} {g : Nat} {v : Value} {x : aV} (h : eg w g v x) : g < w.heap.size := aA.lt h
theorem qH {x : aV} (h : fY x) : ∀ y ∈ x.writes, y.vec.length ≤ 10000000 := fun y hy => by
 obtain ⟨-, -, -, hk⟩ := bW (h.ws y hy)
 rcases hk with ⟨-, hv⟩ | ⟨-, hv⟩
 ·
  have := (cy hv).1; omega
 rw [hv]; simp
theorem pj (cs : List Value) (x : aV) (w : World) (h : ab.ax.Reads w cs x) (hf : aJ x ≠ 0) :
  Calls Tryz.prog 201 #[.agg cs.toArray] w fun e w' => e = .returned (.tuple #[.pointer none, .int .i64 (aJ x)]) ∧ Below w.heap.size w w' := by
 have hN := h
 obtain ⟨a4, d4, rfl, R4⟩ := bG h
 have nb : Below w.heap.size w (w.alloc (.cells #[.int .i64 x.id, .bool x.up, .int .i64 x.ae, .int .i64 x.au, .slice a4 x.writes.length d4, .int .i64 x.sure, .int .i64 x.clean] 63)) := (Below.refl _ _).alloc (Nat.le_refl _) _
 have bX : aA w.heap.size #[.int .i64 x.id, .bool x.up, .int .i64 x.ae, .int .i64 x.au, .slice a4 x.writes.length d4, .int .i64 x.sure, .int .i64 x.clean] 63 (w.alloc (.cells #[.int .i64 x.id, .bool x.up, .int .i64 x.ae, .int .i64 x.au, .slice a4 x.writes.length d4, .int .i64 x.sure, .int .i64 x.clean] 63)) w.heap.size := aD (Nat.le_refl _)
 have HL := yh (fq _ x _ (hN.later nb))
 have HB := yh nb
 have hd : (aJ x != 0) = true := by simpa using hf
 clear h hN nb bX R4 hf
 generalize aJ x = c at *
 go_enter Tryz.func201, Tryz.ntmps201
 go_wp2_with fail
 refine (uh HL).mono ?_
 rintro e w1 ⟨rfl, hb⟩
 have HB1 := yh ((uh HB).trans (hb.mono (uh HB).size))
 clear hb HL HB
 go_wp2_with fail
 refine bodyPost_ret (v := .tuple #[.pointer none, .int .i64 c]) (by simp [results, Tryz.results201, go_sem]) rfl ?_
 exact ⟨rfl, uh HB1⟩
theorem lG (cs : List Value) (x : aV) (w : World) (h : ab.ax.Reads w cs x) (hf : aJ x = 0) :
  Calls Tryz.prog 201 #[.agg cs.toArray] w fun e w' => ∃ g gw, e = .returned (.tuple #[.pointer (some ⟨g, 0, none⟩), .int .i64 0]) ∧ eg w' g (.slice (some ⟨gw, 0, none⟩) x.writes.length x.writes.length) x ∧ (ab.sl ab.ag).aN w' [.slice (some ⟨gw, 0, none⟩) x.writes.length x.writes.length] x.writes (g + 1) w'.heap.size ∧ w.heap.size ≤ g ∧ Below w.heap.size w w' := by
 have hN := h
 obtain ⟨a4, d4, rfl, R4⟩ := bG h
 have nb : Below w.heap.size w (w.alloc (.cells #[.int .i64 x.id, .bool x.up, .int .i64 x.ae, .int .i64 x.au, .slice a4 x.writes.length d4, .int .i64 x.sure, .int .i64 x.clean] 63)) := (Below.refl _ _).alloc (Nat.le_refl _) _
 have bX : aA w.heap.size #[.int .i64 x.id, .bool x.up, .int .i64 x.ae, .int .i64 x.au, .slice a4 x.writes.length d4, .int .i64 x.sure, .int .i64 x.clean] 63 (w.alloc (.cells #[.int .i64 x.id, .bool x.up, .int .i64 x.ae, .int .i64 x.au, .slice a4 x.writes.length d4, .int .i64 x.sure, .int .i64 x.clean] 63)) w.heap.size := aD (Nat.le_refl _)
 have hok := cR hf
 have HL := yh (fq _ x _ (hN.later nb))
 rw [hf] at HL
 have hlen := hok.len
 have HV := yh (qH hok)
 have HB := yh nb
 have HX := yh bX
 have HR := yh (R4.later nb)
 clear h hN nb bX R4 hf hok
 go_enter Tryz.func201, Tryz.ntmps201
 go_wp2_with fail
 generalize w.alloc (.cells #[.int .i64 x.id, .bool x.up, .int .i64 x.ae, .int .i64 x.au, .slice a4 x.writes.length d4, .int .i64 x.sure, .int .i64 x.clean] 63) = W0 at *
 refine (uh HL).mono ?_
 rintro e w1 ⟨rfl, hb⟩
 have bX1 := (uh HX).ai hb
 have HB1 := yh ((uh HB).trans (hb.mono (uh HB).size))
 have HR1 := yh ((uh HR).later hb)
 obtain ⟨x0, x1, x2, x3, x4, x5, x6⟩ := aZ7 bX1
 have xl := bX1.lt
 have hgs := (uh HB1).size
 have nb2 : Below w1.heap.size w1 (w1.alloc (.cells #[.slice none 0 0, .int .i64 0, .int .i64 x.id, .bool x.up, .int .i64 x.ae, .int .i64 x.au, .int .i64 x.clean] 218)) := (Below.refl _ _).alloc (Nat.le_refl _) _
 have bH : aA 0 #[.slice none 0 0, .int .i64 0, .int .i64 x.id, .bool x.up, .int .i64 x.ae, .int .i64 x.au, .int .i64 x.clean] 218 (w1.alloc (.cells #[.slice none 0 0, .int .i64 0, .int .i64 x.id, .bool x.up, .int .i64 x.ae, .int .i64 x.au, .int .i64 x.clean] 218)) w1.heap.size := aD (Nat.zero_le _)
 have HC := yh (pw _ x.writes _ ((uh HR1).later nb2) (by omega) (uh HV))
 have HX2 := yh (bX1.ai nb2)
 have HB2 := yh ((uh HB1).trans (nb2.mono (uh HB1).size))
 have HH := yh bH
 have hz2 : (w1.alloc (.cells #[.slice none 0 0, .int .i64 0, .int .i64 x.id, .bool x.up, .int .i64 x.ae, .int .i64 x.au, .int .i64 x.clean] 218)).heap.size = w1.heap.size + 1 := by simp
 have HZ2 : Hid (w1.heap.size + 1 ≤ (w1.alloc (.cells #[.slice none 0 0, .int .i64 0, .int .i64 x.id, .bool x.up, .int .i64 x.ae, .int .i64 x.au, .int .i64 x.clean] 218)).heap.size) := Nat.le_of_eq hz2.symm
 clear hb HL HB HX HR HR1 bX1 nb2 bH HB1 hz2
 go_wp2_with fail
 clear x0 x1 x2 x3 x4 x5 x6 xl
 refine (uh HC).mono ?_
 generalize w1.alloc (.cells #[.slice none 0 0, .int .i64 0, .int .i64 x.id, .bool x.up, .int .i64 x.ae, .int .i64 x.au, .int .i64 x.clean] 218) = W2 at *
 rintro e w3 ⟨gw, rfl, O, hb⟩
 have bX3 := (uh HX2).ai hb
 have bH3 := (uh HH).ai hb
 have x5 := bX3.at 5 _ rfl
 have y0 := bH3.at 0 _ rfl
 have y1 := bH3.at 1 _ rfl
 have yf := bH3.soft
 have yl := bH3.lt
 have xl := bX3.lt
 have hxy : w.heap.size ≠ w1.heap.size := by
  have h1 := (uh HX2).lt
  intro e
  have q1 := (uh HX2).2
  have q2 := (uh HH).2
  rw [e, q2] at q1
  simp at q1
 have hwlt : w.heap.size < w1.heap.size := by omega
 simp only [ga, gb, gc] at x5 y0 y1
 have HF3 : Hid (eg ((w3.setCell ⟨w1.heap.size, 0, none⟩ (.slice (some ⟨gw, 0, none⟩) x.writes.length x.writes.length)).setCell ⟨w1.heap.size, 1, none⟩ (.int .i64 x.sure)) w1.heap.size (.slice (some ⟨gw, 0, none⟩) x.writes.length x.writes.length) x) := (bH3.set 0 (.slice (some ⟨gw, 0, none⟩) x.writes.length x.writes.length)).set 1 (.int .i64 x.sure)
 have hzb := uh HZ2
 have E : Ext (fun q => q = w1.heap.size) w3 ((w3.setCell ⟨w1.heap.size, 0, none⟩ (.slice (some ⟨gw, 0, none⟩) x.writes.length x.writes.length)).setCell ⟨w1.heap.size, 1, none⟩ (.int .i64 x.sure)) := ((Ext.refl (fun q => q = w1.heap.size) _).setCell ⟨w1.heap.size, 0, none⟩ _ rfl).setCell ⟨w1.heap.size, 1, none⟩ _ rfl
 have HO3 := yh ((O.ext E (fun q h1 h2 h3 => by omega)).mono (lo' := w1.heap.size + 1) (hi' := ((w3.setCell ⟨w1.heap.size, 0, none⟩ (.slice (some ⟨gw, 0, none⟩) x.writes.length x.writes.length)).setCell ⟨w1.heap.size, 1, none⟩ (.int .i64 x.sure)).heap.size) hzb (by simp))
 have HB3 : Hid (Below w.heap.size w ((w3.setCell ⟨w1.heap.size, 0, none⟩ (.slice (some ⟨gw, 0, none⟩) x.writes.length x.writes.length)).setCell ⟨w1.heap.size, 1, none⟩ (.int .i64 x.sure))) := (((uh HB2).trans (hb.mono (uh HB2).size)).setCell (by simpa using hgs) _).setCell (by simpa using hgs) _
 clear hb O bX3 bH3 E HC HX2 HH HB2 HZ2
 go_wp2_with fail
 refine bodyPost_ret (v := .tuple #[.pointer (some ⟨w1.heap.size, 0, none⟩), .int .i64 0]) (by simp [results, Tryz.results201, go_sem]) rfl ?_
 exact ⟨w1.heap.size, gw, rfl, uh HF3, uh HO3, hgs, uh HB3⟩
theorem oS (cs : List Value) (x : aV) (w : World) (h : ab.ax.Reads w cs x) (hf : cV x ≠ 0) :
  Calls Tryz.prog 159 #[.agg cs.toArray] w fun e w' => e = .returned (.tuple #[.pointer none, .int .i64 (cV x)]) ∧ Below w.heap.size w w' := by
 have hN := h
 obtain ⟨a4, d4, rfl, R4⟩ := bG h
 have nb : Below w.heap.size w (w.alloc (.cells #[.int .i64 x.id, .bool x.up, .int .i64 x.ae, .int .i64 x.au, .slice a4 x.writes.length d4, .int .i64 x.sure, .int .i64 x.clean] 63)) := (Below.refl _ _).alloc (Nat.le_refl _) _
 have bX : aA w.heap.size #[.int .i64 x.id, .bool x.up, .int .i64 x.ae, .int .i64 x.au, .slice a4 x.writes.length d4, .int .i64 x.sure, .int .i64 x.clean] 63 (w.alloc (.cells #[.int .i64 x.id, .bool x.up, .int .i64 x.ae, .int .i64 x.au, .slice a4 x.writes.length d4, .int .i64 x.sure, .int .i64 x.clean] 63)) w.heap.size := aD (Nat.le_refl _)
 by_cases hn : aJ x = 0
 ·
  have HL := yh (lG _ x _ (hN.later nb) hn)
  have ha : cV x = 10 ∧ x.up = false := by
   unfold cV at hf ⊢
   rw [if_pos hn] at hf ⊢
   cases hu : x.up
   ·
    exact ⟨by simp, rfl⟩
   rw [hu] at hf; simp at hf
  have HU := yh ha.2
  rw [ha.1]
  have HB := yh nb
  clear h hN nb bX R4 hf hn ha
  go_enter Tryz.func159, Tryz.ntmps159
  go_wp2_with fail
  refine (uh HL).mono ?_
  rintro e w1 ⟨g, gw, rfl, hH, -, -, hb⟩
  have y3 := aA.at hH 3 _ rfl
  have yl := hH.lt
  simp only [ga, gb, gc] at y3
  rw [uh HU] at y3
  have HB1 := yh ((uh HB).trans (hb.mono (uh HB).size))
  clear hb HL HB hH
  go_wp2_with fail
  refine bodyPost_ret (v := .tuple #[.pointer none, .int .i64 10]) (by simp [results, Tryz.results159, go_sem]) rfl ?_
  exact ⟨rfl, uh HB1⟩
 have HL := yh (pj _ x _ (hN.later nb) hn)
 have ha : cV x = aJ x := by rw [cV, if_neg hn]
 rw [ha]
 have HB := yh nb
 have hd : (aJ x == 0) = false := by simpa using hn
 clear h hN nb bX R4 hf hn ha
 generalize aJ x = c at *
 go_enter Tryz.func159, Tryz.ntmps159
 go_wp2_with fail
 refine (uh HL).mono ?_
 rintro e w1 ⟨rfl, hb⟩
 have HB1 := yh ((uh HB).trans (hb.mono (uh HB).size))
 clear hb HL HB
 go_wp2_with fail
 refine bodyPost_ret (v := .tuple #[.pointer none, .int .i64 c]) (by simp [results, Tryz.results159, go_sem]) rfl ?_
 exact ⟨rfl, uh HB1⟩
theorem qv (cs : List Value) (x : aV) (w : World) (h : ab.ax.Reads w cs x) (hf : cV x = 0) :
  Calls Tryz.prog 159 #[.agg cs.toArray] w fun e w' => ∃ g gw, e = .returned (.tuple #[.pointer (some ⟨g, 0, none⟩), .int .i64 0]) ∧ eg w' g (.slice (some ⟨gw, 0, none⟩) x.writes.length x.writes.length) x ∧ (ab.sl ab.ag).aN w' [.slice (some ⟨gw, 0, none⟩) x.writes.length x.writes.length] x.writes (g + 1) w'.heap.size ∧ w.heap.size ≤ g ∧ Below w.heap.size w w' := by
 obtain ⟨hok, hu⟩ := ja hf
 have HU := yh hu
 clear hu
 have hN := h
 obtain ⟨a4, d4, rfl, R4⟩ := bG h
 have nb : Below w.heap.size w (w.alloc (.cells #[.int .i64 x.id, .bool x.up, .int .i64 x.ae, .int .i64 x.au, .slice a4 x.writes.length d4, .int .i64 x.sure, .int .i64 x.clean] 63)) := (Below.refl _ _).alloc (Nat.le_refl _) _
 have bX : aA w.heap.size #[.int .i64 x.id, .bool x.up, .int .i64 x.ae, .int .i64 x.au, .slice a4 x.writes.length d4, .int .i64 x.sure, .int .i64 x.clean] 63 (w.alloc (.cells #[.int .i64 x.id, .bool x.up, .int .i64 x.ae, .int .i64 x.au, .slice a4 x.writes.length d4, .int .i64 x.sure, .int .i64 x.clean] 63)) w.heap.size := aD (Nat.le_refl _)
 have HL := yh (lG _ x _ (hN.later nb) hok.fault)
 have HB := yh nb
 clear h hN nb bX R4 hf hok
 go_enter Tryz.func159, Tryz.ntmps159
 go_wp2_with fail
 refine (uh HL).mono ?_
 rintro e w1 ⟨g, gw, rfl, hH, O, hg, hb⟩
 have y3 := aA.at hH 3 _ rfl
 have yl := hH.lt
 simp only [ga, gb, gc] at y3
 rw [uh HU] at y3
 have HB1 := yh ((uh HB).trans (hb.mono (uh HB).size))
 have HH := yh hH
 have HO := yh O
 have HG := yh (Nat.le_trans (uh HB).size hg)
 clear hb HL HB hH O hg
 go_wp2_with fail
 refine bodyPost_ret (v := .tuple #[.pointer (some ⟨g, 0, none⟩), .int .i64 0]) (by simp [results, Tryz.results159, go_sem]) rfl ?_
 exact ⟨g, gw, rfl, uh HH, uh HO, uh HG, uh HB1⟩
end Go.Proofs.YtomphbenbnnfgaaGreatDoor

namespace Go.Proofs.YtomphbenbnnfgaaGreatDoor
open Go.RowKit Go.Extern.Stop Go.Stop Go.Extern
theorem sS : (Tryz.prog.info? 285).map (·.size) = some 2 := by kernel_rfl
theorem vF (tb b : Nat) (x y : Int) (o0 o1 : Value) (W : World) (hb : W.heap[b]? = some (.cells #[.int .i64 x, .int .i64 y] 285 (0, 0))) (ht : W.heap[tb]? = some (.cells #[o0, o1] 285 (0, 0))) :
  (ReflectliteValue.set #[.agg #[.pointer (some ⟨2, 285, none⟩), .pointer (some ⟨tb, 0, none⟩), .int .u64 409], .agg #[.pointer (some ⟨2, 285, none⟩), .pointer (some ⟨b, 0, none⟩), .int .u64 153]]).run Tryz.prog W
   = .ok (.tuple #[]) (W.setRow tb #[.int .i64 x, .int .i64 y]) := by
 have hl := run_loadVar_row W b 285 285 _ (0, 0) _ hb Tryz.underlying285 rfl sS
 have hs := run_storeVar_row W tb 285 285 _ #[.int .i64 x, .int .i64 y] ht sS rfl (by simp [Value.oneCell'])
 rw [vA]
 simp only [Sem.run_bind, sA, sQ, Result.andThen]
 simp [ReflectliteValue.flagAddr, hl, hs, Result.andThen, s8]
theorem mC {B tb : Nat} {w w' : World} (h : Below B w w') (hb : B ≤ tb) (cs : Array Value) : Below B w (w'.setRow tb cs) :=
 ⟨h.os, h.tape, h.output, by simpa using h.size, fun k hk => (setRow_other w' tb k cs (by omega)).trans (h.block k hk)⟩
theorem vg (x y : Int) (tb : Nat) (o0 o1 : Value) (w : World) (hg : mf w) (ht : w.heap[tb]? = some (.cells #[o0, o1] 285 (0, 0))) :
  Calls Tryz.prog 231 #[.iface 285 (.agg #[.int .i64 x, .int .i64 y]), .iface 287 (.pointer (some ⟨tb, 0, none⟩))] w fun ev w' => ev = .returned (.bool true) ∧ Below tb w w' := by
 have htl : tb < w.heap.size := lt_of_block ht
 have n1 : Below w.heap.size w (w.alloc (.cells #[.pointer (some ⟨tb, 0, none⟩)] 287)) := (Below.refl _ _).alloc (Nat.le_refl _) _
 have n2 := n1.alloc n1.size (.cells #[.pointer (some ⟨2, 287, none⟩), .pointer (some ⟨w.heap.size, 0, none⟩), .int .u64 150] 293)
 have n3 := n2.alloc n2.size (.cells #[.pointer (some ⟨2, 287, none⟩), .pointer (some ⟨w.heap.size, 0, none⟩), .int .u64 150] 293)
 have n4 := n3.alloc n3.size (.cells #[.int .i64 x, .int .i64 y] 285)
 have b1 : aA 0 #[.pointer (some ⟨tb, 0, none⟩)] 287 (w.alloc (.cells #[.pointer (some ⟨tb, 0, none⟩)] 287)) w.heap.size := aD (Nat.zero_le _)
 have b2 := b1.ai ((Below.refl _ _).alloc (Nat.le_refl _) (.cells #[.pointer (some ⟨2, 287, none⟩), .pointer (some ⟨w.heap.size, 0, none⟩), .int .u64 150] 293))
 have b3 := b2.ai ((Below.refl _ _).alloc (Nat.le_refl _) (.cells #[.pointer (some ⟨2, 287, none⟩), .pointer (some ⟨w.heap.size, 0, none⟩), .int .u64 150] 293))
 have c2 := b2.at 0 (.pointer (some ⟨tb, 0, none⟩)) rfl
 have c3 := b3.at 0 (.pointer (some ⟨tb, 0, none⟩)) rfl
 have n8 := pH ⟨w.heap.size, 0, none⟩ ⟨tb, 0, none⟩ _ c2
 have el := uj ⟨w.heap.size, 0, none⟩ ⟨tb, 0, none⟩ _ c3
 have hg2 := (n2.cell (p := ⟨1, 0, none⟩) (World.block_lt_of_cell? _ _ hg)).trans hg
 have bO := aD (lo := 0) (cs := #[.int .i64 x, .int .i64 y]) (T := 285) (W := (((w.alloc (.cells #[.pointer (some ⟨tb, 0, none⟩)] 287)).alloc (.cells #[.pointer (some ⟨2, 287, none⟩), .pointer (some ⟨w.heap.size, 0, none⟩), .int .u64 150] 293)).alloc (.cells #[.pointer (some ⟨2, 287, none⟩), .pointer (some ⟨w.heap.size, 0, none⟩), .int .u64 150] 293))) (Nat.zero_le _)
 have st := vF tb _ x y o0 o1 _ bO.2 ((n4.block tb htl).trans ht)
 have es : (((w.alloc (.cells #[.pointer (some ⟨tb, 0, none⟩)] 287)).alloc (.cells #[.pointer (some ⟨2, 287, none⟩), .pointer (some ⟨w.heap.size, 0, none⟩), .int .u64 150] 293)).alloc (.cells #[.pointer (some ⟨2, 287, none⟩), .pointer (some ⟨w.heap.size, 0, none⟩), .int .u64 150] 293)).heap.size = w.heap.size + 1 + 1 + 1 := by simp
 rw [es] at st
 have HB := yh (mC (n4.mono (Nat.le_of_lt htl)) (Nat.le_refl _) #[.int .i64 x, .int .i64 y])
 have h6 := @run_callFunc_extern Tryz.prog 234 _ (fun args => ReflectliteValue.unpack (args.getD 0 (.tuple #[]))) Tryz.func234 (by kernel_rfl) (by kernel_rfl) (by kernel_rfl) (by kernel_rfl)
 have h7 := @run_callFunc_extern Tryz.prog 235 _ (ReflectliteValue.methodAny (ReflectliteValue.valueError "reflectlite.Value.Type" 0) (fun t _ _ _ => ReflectliteType.toType t)) Tryz.func235 (by kernel_rfl) (by kernel_rfl) (by kernel_rfl) (by kernel_rfl)
 have h8 := @run_callFunc_extern Tryz.prog 236 _ (ReflectliteValue.method (ReflectliteValue.valueError "reflectlite.Value.IsNil" 0) ReflectliteValue.isNil) Tryz.func236 (by kernel_rfl) (by kernel_rfl) (by kernel_rfl) (by kernel_rfl)
 have h27 := @run_callFunc_extern Tryz.prog 258 _ (ReflectliteType.abiMethod fun t => do pure (.int .u8 (← Rtype.kind t))) Tryz.func258 (by kernel_rfl) (by kernel_rfl) (by kernel_rfl) (by kernel_rfl)
 have h37 := @run_callFunc_extern Tryz.prog 271 _ (ReflectliteType.method ReflectliteType.elem) Tryz.func271 (by kernel_rfl) (by kernel_rfl) (by kernel_rfl) (by kernel_rfl)
 have h38 := @run_callFunc_extern Tryz.prog 272 _ (ReflectliteType.relation "Implements" ReflectliteType.implements_) Tryz.func272 (by kernel_rfl) (by kernel_rfl) (by kernel_rfl) (by kernel_rfl)
 have h10 := @run_callFunc_extern Tryz.prog 239 _ ReflectliteType.typeOf Tryz.func239 (by kernel_rfl) (by kernel_rfl) (by kernel_rfl) (by kernel_rfl)
 have h35 := @run_callFunc_extern Tryz.prog 269 _ (ReflectliteType.relation "AssignableTo" ReflectliteType.assignableTo) Tryz.func269 (by kernel_rfl) (by kernel_rfl) (by kernel_rfl) (by kernel_rfl)
 have h11 := @run_callFunc_extern Tryz.prog 240 _ (ReflectliteValue.method (ReflectliteValue.valueError "reflectlite.Value.Elem" 0) ReflectliteValue.elem) Tryz.func240 (by kernel_rfl) (by kernel_rfl) (by kernel_rfl) (by kernel_rfl)
 have h12 := @run_callFunc_extern Tryz.prog 241 _ ReflectliteValue.set Tryz.func241 (by kernel_rfl) (by kernel_rfl) (by kernel_rfl) (by kernel_rfl)
 have tO := tu
 have mA := la
 have aO := vw
 have vO := vI
 have f6 := vM
 have f7 := rE
 have mK := pX
 have mE := pT
 have mI := pG
 have kP := pR
 have kO := pK
 have eT := pL
 have iO := sC
 clear ht hg n1 n2 n3 n4 b1 b2 b3 c2 c3 bO es
 go_enter Tryz.func231, Tryz.ntmps231
 go_wp2
 refine wp_loop_rounds 1 ?_
 rw [rounds_succ]
 go_wp2
 go_ret
 exact ⟨rfl, uh HB⟩
end Go.Proofs.YtomphbenbnnfgaaGreatDoor

namespace Go.Proofs.YtomphbenbnnfgaaGreatDoor
open Go.RowKit Go.Extern.Stop Go.Stop Go.Extern
theorem tt (e : Addr) (tb : Nat) (w : World) (hg : mf w) :
  Calls Tryz.prog 231 #[.iface 318 (.pointer (some e)), .iface 287 (.pointer (some ⟨tb, 0, none⟩))] w fun ev w' => ev = .returned (.bool false) ∧ Below w.heap.size w w' := by
 have n1 : Below w.heap.size w (w.alloc (.cells #[.pointer (some ⟨tb, 0, none⟩)] 287)) := (Below.refl _ _).alloc (Nat.le_refl _) _
 have n2 := n1.alloc n1.size (.cells #[.pointer (some ⟨2, 287, none⟩), .pointer (some ⟨w.heap.size, 0, none⟩), .int .u64 150] 293)
 have n3 := n2.alloc n2.size (.cells #[.pointer (some ⟨2, 287, none⟩), .pointer (some ⟨w.heap.size, 0, none⟩), .int .u64 150] 293)
 have b1 : aA 0 #[.pointer (some ⟨tb, 0, none⟩)] 287 (w.alloc (.cells #[.pointer (some ⟨tb, 0, none⟩)] 287)) w.heap.size := aD (Nat.zero_le _)
 have b2 := b1.ai ((Below.refl _ _).alloc (Nat.le_refl _) (.cells #[.pointer (some ⟨2, 287, none⟩), .pointer (some ⟨w.heap.size, 0, none⟩), .int .u64 150] 293))
 have c2 := b2.at 0 (.pointer (some ⟨tb, 0, none⟩)) rfl
 have n8 := pH ⟨w.heap.size, 0, none⟩ ⟨tb, 0, none⟩ _ c2
 have hg2 := (n2.cell (p := ⟨1, 0, none⟩) (World.block_lt_of_cell? _ _ hg)).trans hg
 have HB := yh n3
 have h6 := @run_callFunc_extern Tryz.prog 234 _ (fun args => ReflectliteValue.unpack (args.getD 0 (.tuple #[]))) Tryz.func234 (by kernel_rfl) (by kernel_rfl) (by kernel_rfl) (by kernel_rfl)
 have h7 := @run_callFunc_extern Tryz.prog 235 _ (ReflectliteValue.methodAny (ReflectliteValue.valueError "reflectlite.Value.Type" 0) (fun t _ _ _ => ReflectliteType.toType t)) Tryz.func235 (by kernel_rfl) (by kernel_rfl) (by kernel_rfl) (by kernel_rfl)
 have h8 := @run_callFunc_extern Tryz.prog 236 _ (ReflectliteValue.method (ReflectliteValue.valueError "reflectlite.Value.IsNil" 0) ReflectliteValue.isNil) Tryz.func236 (by kernel_rfl) (by kernel_rfl) (by kernel_rfl) (by kernel_rfl)
 have h27 := @run_callFunc_extern Tryz.prog 258 _ (ReflectliteType.abiMethod fun t => do pure (.int .u8 (← Rtype.kind t))) Tryz.func258 (by kernel_rfl) (by kernel_rfl) (by kernel_rfl) (by kernel_rfl)
 have h37 := @run_callFunc_extern Tryz.prog 271 _ (ReflectliteType.method ReflectliteType.elem) Tryz.func271 (by kernel_rfl) (by kernel_rfl) (by kernel_rfl) (by kernel_rfl)
 have h38 := @run_callFunc_extern Tryz.prog 272 _ (ReflectliteType.relation "Implements" ReflectliteType.implements_) Tryz.func272 (by kernel_rfl) (by kernel_rfl) (by kernel_rfl) (by kernel_rfl)
 have h10 := @run_callFunc_extern Tryz.prog 239 _ ReflectliteType.typeOf Tryz.func239 (by kernel_rfl) (by kernel_rfl) (by kernel_rfl) (by kernel_rfl)
 have h35 := @run_callFunc_extern Tryz.prog 269 _ (ReflectliteType.relation "AssignableTo" ReflectliteType.assignableTo) Tryz.func269 (by kernel_rfl) (by kernel_rfl) (by kernel_rfl) (by kernel_rfl)
 have tO := tv
 have mA := la
 have aO := va
 have q1 := fun (v : Value) (w : World) => run_typeAssert_lacksB (P := Tryz.prog) (t := 318) (z := .nilIface) Tryz.underlying309 (by kernel_rfl) (by kernel_rfl) v 277 w
 have q2 := fun (v : Value) (w : World) => run_typeAssert_lacksB (P := Tryz.prog) (t := 318) (z := .nilIface) Tryz.underlying312 (by kernel_rfl) (by kernel_rfl) v 277 w
 have q3 := fun (v : Value) (w : World) => run_typeAssert_lacksB (P := Tryz.prog) (t := 318) (z := .nilIface) Tryz.underlying314 (by kernel_rfl) (by kernel_rfl) v 277 w
 have f6 := vM
 have f7 := rE
 have mK := pX
 have mE := pT
 have mI := pG
 have kP := pR
 have kO := pK
 have eT := pL
 have iO := sC
 clear hg n1 n2 n3 b1 b2 c2
 go_enter Tryz.func231, Tryz.ntmps231
 go_wp2
 refine wp_loop_rounds 1 ?_
 rw [rounds_succ]
 go_wp2
 go_ret
 exact ⟨rfl, uh HB⟩
theorem nk (x y : Int) (w : World) (hg : mf w) : Calls Tryz.prog 223 #[.iface 285 (.agg #[.int .i64 x, .int .i64 y])] w fun e w' => e = .returned (.int .i64 7) ∧ Below w.heap.size w w' := by
 have n1 : Below w.heap.size w (w.alloc (.cells #[.int .i64 0, .int .i64 0] 285)) := (Below.refl _ _).alloc (Nat.le_refl _) _
 have bB := aD (lo := 0) (cs := #[.int .i64 0, .int .i64 0]) (T := 285) (W := w) (Nat.zero_le _)
 have HL := yh (vg x y w.heap.size _ _ _ ((n1.cell (p := ⟨1, 0, none⟩) (World.block_lt_of_cell? _ _ hg)).trans hg) bB.2)
 have HB := yh n1
 clear n1 bB hg
 go_enter Tryz.func223, Tryz.ntmps223
 go_wp2_with fail
 refine (uh HL).mono ?_
 rintro e w2 ⟨rfl, hb⟩
 have HB2 := yh ((uh HB).trans hb)
 clear hb HL HB
 go_wp2_with fail
 go_ret
 exact ⟨rfl, uh HB2⟩
theorem mm (e : Addr) (w : World) (hg : mf w) : Calls Tryz.prog 223 #[.iface 318 (.pointer (some e))] w fun e w' => e = .returned (.int .i64 2) ∧ Below w.heap.size w w' := by
 have n1 : Below w.heap.size w (w.alloc (.cells #[.int .i64 0, .int .i64 0] 285)) := (Below.refl _ _).alloc (Nat.le_refl _) _
 have HL := yh (tt e w.heap.size _ ((n1.cell (p := ⟨1, 0, none⟩) (World.block_lt_of_cell? _ _ hg)).trans hg))
 have HB := yh n1
 clear n1 hg
 go_enter Tryz.func223, Tryz.ntmps223
 go_wp2_with fail
 refine (uh HL).mono ?_
 rintro e w2 ⟨rfl, hb⟩
 have HB2 := yh ((uh HB).trans (hb.mono (uh HB).size))
 clear hb HL HB
 go_wp2_with fail
 go_ret
 exact ⟨rfl, uh HB2⟩
end Go.Proofs.YtomphbenbnnfgaaGreatDoor

namespace Go.Proofs.YtomphbenbnnfgaaGreatDoor
open Go.RowKit
theorem gh {w : World} {cs : List Value} {x : dX} {bl : List Nat} (h : ab.dW.Own w cs x bl) : ∃ (a3 : Option Addr) (d3 : Nat) (g3 : List Nat), cs = [.int .i64 x.code, .bool x.dt, .int .i64 x.place, .slice a3 x.writes.length d3] ∧ bl = g3 ∧ (ab.sl ab.ag).Own w [.slice a3 x.writes.length d3] x.writes g3 ∧ (Lit.int .i64 x.code).wf = true ∧ (Lit.int .i64 x.place).wf = true := by
 obtain ⟨hl, hn, hf⟩ := h
 obtain ⟨a3, d3, b3, rfl, hbl, w0, w2, l3⟩ := js.1 hl
 rw [hbl] at hn hf
 exact ⟨a3, d3, b3, rfl, hbl, ⟨l3, hn, hf⟩, w0, w2⟩
theorem iK {w : World} {x : dX} {c3 : List Value} {g3 : List Nat} (O3 : (ab.sl ab.ag).Own w c3 x.writes g3) (v0 : (Lit.int .i64 x.code).wf = true) (v2 : (Lit.int .i64 x.place).wf = true) (hn : (g3).Nodup) : ab.dW.Own w ([.int .i64 x.code] ++ ([.bool x.dt] ++ ([.int .i64 x.place] ++ c3))) x (g3) := by
 refine ⟨⟨[.int .i64 x.code], [.bool x.dt] ++ ([.int .i64 x.place] ++ c3), [], [] ++ ([] ++ g3), rfl, by simp, ⟨rfl, v0, rfl⟩, ⟨[.bool x.dt], [.int .i64 x.place] ++ c3, [], [] ++ g3, rfl, rfl, ⟨rfl, rfl⟩, ⟨[.int .i64 x.place], c3, [], g3, rfl, rfl, ⟨rfl, v2, rfl⟩, O3.1⟩⟩⟩, hn, ?_⟩
 intro b hb o
 exact O3.2.2 b hb o
theorem sM {x : aj} (h : wF x = 0) : (Lit.int .i64 x.aa).wf = true ∧ (Lit.int .i64 x.seq).wf = true := by
 have := jZ h
 exact ⟨aP (by omega), aP (by omega)⟩
theorem jF {w : World} {c : Int} {b : Bool} {n : Int} {v : Value} {xs : List aj} {lo hi : Nat} (hc : (Lit.int .i64 c).wf = true) (hn : (Lit.int .i64 n).wf = true) (h : (ab.sl ab.ag).aN w [v] xs lo hi) : ab.dW.aN w [.int .i64 c, .bool b, .int .i64 n, v] ⟨c, b, n, xs⟩ lo hi := by
 obtain ⟨bl, O, i⟩ := h
 exact ⟨bl, iK (x := ⟨c, b, n, xs⟩) O hc hn O.2.1, i⟩
theorem eQ {w : World} {c : Int} {lo hi : Nat} (hc : (Lit.int .i64 c).wf = true) : ab.dW.aN w [.int .i64 c, .bool false, .int .i64 0, .slice none 0 0] ⟨c, false, 0, []⟩ lo hi := jF hc (by decide) ⟨[], ⟨⟨none, 0, rfl, by simp, Or.inl ⟨rfl, rfl⟩⟩, by simp, by simp⟩, by simp⟩
theorem uc {lo B : Nat} {cs : Array Value} {T : TypeId} {W w' : World} {s : Nat} (h : aA lo cs T W s) (hb : Below B W w') (hs : s < B) : aA lo cs T w' s := ⟨h.1, (hb.block s hs).trans h.2⟩
theorem lN {w : World} {p mb N : Nat} {ws : List aj} {v : Value} {rows : List (List Value)} {bls : List (List Nat)} (h : Told w p mb N ws v rows bls) : ∃ ao cap, v = .slice ao ws.length cap := by
 rcases h.grow.form with ⟨rfl, rfl⟩ | ⟨g, cap, rfl, -⟩
 ·
  exact ⟨_, _, rfl⟩
 exact ⟨_, _, rfl⟩
theorem th {B b : Nat} {w w' : World} (h : Below B w w') (hb : B ≤ b) (v0 v1 v2 v3 : Value) : Below B w ((((w'.setCell ⟨b, 0, none⟩ v0).setCell ⟨b, 1, none⟩ v1).setCell ⟨b, 2, none⟩ v2).setCell ⟨b, 3, none⟩ v3) := (((h.setCell (by simpa using hb) _).setCell (by simpa using hb) _).setCell (by simpa using hb) _).setCell (by simpa using hb) _
theorem pA (v : Value) (ws : List aj) (u : List Value) (x : aj) (w : World) (hE : ix w) (h : (ab.sl ab.ag).Reads w [v] ws) (hx : ab.ag.Reads w u x) :
  Calls Tryz.prog 202 #[v, .agg u.toArray] w fun e w' => ∃ cs, e = .returned (.agg cs.toArray) ∧ ab.dW.aN w' cs (bF ws x) w.heap.size w'.heap.size ∧ Below w.heap.size w w' := by
 obtain ⟨a2, d2, rfl, R2⟩ := aM hx
 have n1 : Below w.heap.size w (w.alloc (.cells #[.int .i64 x.kind, .int .i64 x.id, .slice a2 x.vec.length d2, .int .i64 x.aa, .int .i64 x.seq] 44)) := (Below.refl _ _).alloc (Nat.le_refl _) _
 have nb := n1.alloc n1.size (.cells #[.int .i64 0, .bool false, .int .i64 0, .slice none 0 0] 258)
 have hQ1 : aA 0 #[.int .i64 x.kind, .int .i64 x.id, .slice a2 x.vec.length d2, .int .i64 x.aa, .int .i64 x.seq] 44 (w.alloc (.cells #[.int .i64 x.kind, .int .i64 x.id, .slice a2 x.vec.length d2, .int .i64 x.aa, .int .i64 x.seq] 44)) w.heap.size := aD (Nat.zero_le _)
 have HQ := yh (hQ1.ai ((Below.refl _ _).alloc (Nat.le_refl _) (.cells #[.int .i64 0, .bool false, .int .i64 0, .slice none 0 0] 258)))
 have hsz1 : (w.alloc (.cells #[.int .i64 x.kind, .int .i64 x.id, .slice a2 x.vec.length d2, .int .i64 x.aa, .int .i64 x.seq] 44)).heap.size = w.heap.size + 1 := by simp
 have HBR : Hid (aA w.heap.size #[.int .i64 0, .bool false, .int .i64 0, .slice none 0 0] 258 ((w.alloc (.cells #[.int .i64 x.kind, .int .i64 x.id, .slice a2 x.vec.length d2, .int .i64 x.aa, .int .i64 x.seq] 44)).alloc (.cells #[.int .i64 0, .bool false, .int .i64 0, .slice none 0 0] 258)) (w.heap.size + 1)) := by
  have := aD (lo := w.heap.size) (cs := #[.int .i64 0, .bool false, .int .i64 0, .slice none 0 0]) (T := 258) (W := w.alloc (.cells #[.int .i64 x.kind, .int .i64 x.id, .slice a2 x.vec.length d2, .int .i64 x.aa, .int .i64 x.seq] 44)) n1.size
  rwa [hsz1] at this
 have HL := yh (mG _ ws _ (h.later nb))
 have HR2 := yh (R2.later nb)
 have HE := yh (hE.later nb)
 have HB0 := yh nb
 have hsz : ((w.alloc (.cells #[.int .i64 x.kind, .int .i64 x.id, .slice a2 x.vec.length d2, .int .i64 x.aa, .int .i64 x.seq] 44)).alloc (.cells #[.int .i64 0, .bool false, .int .i64 0, .slice none 0 0] 258)).heap.size = w.heap.size + 2 := by simp
 obtain ⟨ao, cap, rfl⟩ := aI h
 clear n1 nb hQ1 hsz1 h hx R2 hE
 go_enter Tryz.func202, Tryz.ntmps202
 go_wp2_with fail
 generalize (w.alloc (.cells #[.int .i64 x.kind, .int .i64 x.id, .slice a2 x.vec.length d2, .int .i64 x.aa, .int .i64 x.seq] 44)).alloc (.cells #[.int .i64 0, .bool false, .int .i64 0, .slice none 0 0] 258) = W1 at *
 refine (uh HL).mono ?_
 rintro e w2 ⟨r, rfl, g0, g1, hb⟩
 rw [hsz] at g0
 have bR := (uh HBR).ai hb
 have HB2 := yh ((uh HB0).trans (hb.mono (uh HB0).size))
 have HQ2 := yh ((uh HQ).ai hb)
 have HR3 := yh ((uh HR2).later hb)
 have HE2 := yh ((uh HE).later hb)
 clear hb HL HB0 HBR HQ HR2 HE
 by_cases hfw : aR ws = 0
 ·
  obtain ⟨rfl, v2, rows, bls, hT⟩ := g0 hfw
  clear g0 g1
  have HFW := yh hfw
  rw [hfw]
  clear hfw
  have y0 : w2.cell? ⟨w.heap.size, 0, none⟩ = some (.int .i64 x.kind) := (uh HQ2).at 0 _ rfl
  have y1 : w2.cell? ⟨w.heap.size, 1, none⟩ = some (.int .i64 x.id) := (uh HQ2).at 1 _ rfl
  have y2 : w2.cell? ⟨w.heap.size, 2, none⟩ = some (.slice a2 x.vec.length d2) := (uh HQ2).at 2 _ rfl
  have y3 : w2.cell? ⟨w.heap.size, 3, none⟩ = some (.int .i64 x.aa) := (uh HQ2).at 3 _ rfl
  have y4 : w2.cell? ⟨w.heap.size, 4, none⟩ = some (.int .i64 x.seq) := (uh HQ2).at 4 _ rfl
  have L := j0 x.kind x.id (.slice a2 x.vec.length d2) x.aa x.seq x.vec w2 (ab.bc (uh HR3))
  simp only [dG] at L
  rw [show aC x.kind x.id x.vec x.aa x.seq = wF x from rfl] at L
  have HL := yh L
  have HT := yh hT
  have HBR := yh bR
  clear L hT bR
  go_wp2_with fail
  clear y0 y1 y2 y3 y4
  refine (uh HL).mono ?_
  rintro e w4 ⟨rfl, hb⟩
  have bR := (uh HBR).ai hb
  have HB4 := yh ((uh HB2).trans (hb.mono (uh HB2).size))
  have hQ4 := (uh HQ2).ai hb
  have HE4 := yh ((uh HE2).later hb)
  have hT4 := (uh HT).later hb
  clear hb HL HBR HB2 HQ2 HE2 HT HR3
  by_cases hf : wF x = 0
  ·
   rw [hf, show fM x.kind x.id x.vec x.aa x.seq = hU x.kind x.vec from if_pos hf]
   have HDV : Hid (∀ W : World, Calls Tryz.prog 142 #[hU x.kind x.vec, .int .i64 x.id, .int .i64 x.aa, .int .i64 x.seq] W fun e w' => ∃ cs, e = .returned (.agg cs.toArray) ∧ ab.ag.aN w' cs x W.heap.size w'.heap.size ∧ Below W.heap.size W w') := fun W => na x W hf
   generalize hdv : hU x.kind x.vec = dv at *
   clear hdv
   obtain ⟨bs, hbs⟩ : ∃ bs, bs = decide (ck ws x.aa x.seq ≠ 0) := ⟨_, rfl⟩
   have HBS := yh hbs
   clear hbs
   go_wp2_with fail
   refine wZz (fun w' => Below w4.heap.size w4 w') (Below.refl _ _).drew (fun zq => ?_)
   refine tkH 0 zq ?_
   refine tkH 1 zq ?_
   refine tkH 2 zq ?_
   refine tkJ 3 (v := ?vk3) ?hk3 zq ?rk3
   case hk3 =>
    intro wS hSw
    have y0 : wS.cell? ⟨w.heap.size, 0, none⟩ = some (.int .i64 x.kind) := (hQ4.ai hSw).at 0 _ rfl
    have y1 : wS.cell? ⟨w.heap.size, 1, none⟩ = some (.int .i64 x.id) := (hQ4.ai hSw).at 1 _ rfl
    have y2 : wS.cell? ⟨w.heap.size, 2, none⟩ = some (.slice a2 x.vec.length d2) := (hQ4.ai hSw).at 2 _ rfl
    have y3 : wS.cell? ⟨w.heap.size, 3, none⟩ = some (.int .i64 x.aa) := (hQ4.ai hSw).at 3 _ rfl
    have y4 : wS.cell? ⟨w.heap.size, 4, none⟩ = some (.int .i64 x.seq) := (hQ4.ai hSw).at 4 _ rfl
    have zm : wS.cell? ⟨w.heap.size + 2 + 1, 1, none⟩ = some (.map (some (w.heap.size + 2))) := (hT4.box.ai hSw).at 1 _ rfl
    clear hSw
    exact fZ
   refine tkJ 4 (v := ?vk4) ?hk4 zq ?rk4
   case hk4 =>
    intro wS hSw
    have y0 : wS.cell? ⟨w.heap.size, 0, none⟩ = some (.int .i64 x.kind) := (hQ4.ai hSw).at 0 _ rfl
    have y1 : wS.cell? ⟨w.heap.size, 1, none⟩ = some (.int .i64 x.id) := (hQ4.ai hSw).at 1 _ rfl
    have y2 : wS.cell? ⟨w.heap.size, 2, none⟩ = some (.slice a2 x.vec.length d2) := (hQ4.ai hSw).at 2 _ rfl
    have y3 : wS.cell? ⟨w.heap.size, 3, none⟩ = some (.int .i64 x.aa) := (hQ4.ai hSw).at 3 _ rfl
    have y4 : wS.cell? ⟨w.heap.size, 4, none⟩ = some (.int .i64 x.seq) := (hQ4.ai hSw).at 4 _ rfl
    have zm : wS.cell? ⟨w.heap.size + 2 + 1, 1, none⟩ = some (.map (some (w.heap.size + 2))) := (hT4.box.ai hSw).at 1 _ rfl
    clear hSw
    exact fZ
   refine rdH 5 (fun K hK => ?_)
   go_simp
   go_at_call 163
   refine (mo _ _ _ _ _ _ _ _).mono ?_
   rintro e w7 ⟨rfl, hb7⟩
   simp only [tick]
   try go_wp2_with fail
   refine hK.out _ _ (zq.trans (hb7.mono zq.size)) (fun zq => ?_)
   clear hK K
   try simp only [Act.put, pz, py, px]
   refine tkJ 6 (v := ?vk6) ?hk6 zq ?rk6
   case hk6 =>
    intro wS hSw
    have hlk := (hT4.later hSw).seen.look (sM hf).1 (sM hf).2
    simp only [tick] at hlk
    rw [← uh HBS] at hlk
    clear hSw
    exact fZ
   refine tkH 7 zq ?_
   refine tkH 8 zq ?_
   refine tkH 9 zq ?_
   refine tkH 10 zq ?_
   refine tkH 11 zq ?_
   refine dZ ?_
   have hT5 := (hT4.later zq)
   have bR5 := bR.ai zq
   have hQ5 := hQ4.ai zq
   have HB5 := yh ((uh HB4).trans (zq.mono (uh HB4).size))
   have HE5 := yh ((uh HE4).later zq)
   clear zq hT4 hQ4 bR HB4 HE4 hb7
   by_cases hsn : ck ws x.aa x.seq = 0
   ·
    obtain rfl : bs = false := by rw [uh HBS]; simpa using hsn
    have hbs := HBS
    clear HBS hbs
    obtain ⟨ea, hF⟩ := (uh HE5).2
    have HRF := yh (rR hT5 x a2 d2 hf ea hF)
    have y0 : w7.cell? ⟨w.heap.size, 0, none⟩ = some (.int .i64 x.kind) := hQ5.at 0 _ rfl
    have y1 : w7.cell? ⟨w.heap.size, 1, none⟩ = some (.int .i64 x.id) := hQ5.at 1 _ rfl
    have y2 : w7.cell? ⟨w.heap.size, 2, none⟩ = some (.slice a2 x.vec.length d2) := hQ5.at 2 _ rfl
    have y3 : w7.cell? ⟨w.heap.size, 3, none⟩ = some (.int .i64 x.aa) := hQ5.at 3 _ rfl
    have y4 : w7.cell? ⟨w.heap.size, 4, none⟩ = some (.int .i64 x.seq) := hQ5.at 4 _ rfl
    have HT5 := yh hT5
    have HBR5 := yh bR5
    have HQ5 := yh hQ5
    have HF := yh hf
    have HSN := yh hsn
    clear hT5 bR5 hQ5 hf hsn hF
    go_wp2_with fail
    clear y0 y1 y2 y3 y4
    refine (uh HRF).mono ?_
    rintro e w8 ⟨rfl, hb8⟩
    have hT8 := (uh HT5).later hb8
    have bR := (uh HBR5).ai hb8
    have hQ8 := (uh HQ5).ai hb8
    have HB8 := yh ((uh HB5).trans (hb8.mono (uh HB5).size))
    have HE8 := yh ((uh HE5).later hb8)
    clear hb8 HT5 HBR5 HQ5 HB5 HE5 HRF
    by_cases c1 : x.seq < aT ws x.aa
    ·
     rw [show iG ea ws x = _ from if_pos c1]
     have HG : Hid (bF ws x = ⟨7, false, 0, []⟩) := gi (uh HFW) (uh HF) (uh HSN) c1
     have HRC := yh (nk x.seq (aT ws x.aa) w8 (uh HE8).1)
     have HBR := yh bR
     clear c1 bR hT8 hQ8 HE8
     go_wp2_with fail
     refine (uh HRC).mono ?_
     rintro e w9 ⟨rfl, hb9⟩
     have bR := (uh HBR).ai hb9
     have HB9 := yh ((uh HB8).trans (hb9.mono (uh HB8).size))
     have z0 : w9.cell? ⟨w.heap.size + 1, 0, none⟩ = some (.int .i64 0) := bR.at 0 _ rfl
     have z1 : w9.cell? ⟨w.heap.size + 1, 1, none⟩ = some (.bool false) := bR.at 1 _ rfl
     have z2 : w9.cell? ⟨w.heap.size + 1, 2, none⟩ = some (.int .i64 0) := bR.at 2 _ rfl
     have z3 : w9.cell? ⟨w.heap.size + 1, 3, none⟩ = some (.slice none 0 0) := bR.at 3 _ rfl
     have f0 := bR.soft 0
     have f1 := bR.soft 1
     have f2 := bR.soft 2
     have f3 := bR.soft 3
     have l0 := bR.lt
     clear bR hb9 HRC HBR HB8
     go_wp2_with fail
     refine bodyPost_ret (v := .agg #[.int .i64 (7), .bool false, .int .i64 0, .slice none 0 0]) (by simp [results, Tryz.results202, go_sem, z0, z1, z2, z3]) rfl ?_
     rw [uh HG]
     exact ⟨_, rfl, eQ (by decide), ((((uh HB9).setCell (by simp) _).setCell (by simp) _).setCell (by simp) _).setCell (by simp) _⟩
    by_cases c2 : 200 ≤ ws.length
    ·
     rw [show iG ea ws x = .iface 318 (.pointer (some ea)) by rw [iG, if_neg c1, if_pos c2]]
     have HG : Hid (bF ws x = ⟨2, false, 0, []⟩) := fy (uh HFW) (uh HF) (uh HSN) c1 c2
     have HRC := yh (mm ea w8 (uh HE8).1)
     have HBR := yh bR
     clear c1 c2 bR hT8 hQ8 HE8
     go_wp2_with fail
     refine (uh HRC).mono ?_
     rintro e w9 ⟨rfl, hb9⟩
     have bR := (uh HBR).ai hb9
     have HB9 := yh ((uh HB8).trans (hb9.mono (uh HB8).size))
     have z0 : w9.cell? ⟨w.heap.size + 1, 0, none⟩ = some (.int .i64 0) := bR.at 0 _ rfl
     have z1 : w9.cell? ⟨w.heap.size + 1, 1, none⟩ = some (.bool false) := bR.at 1 _ rfl
     have z2 : w9.cell? ⟨w.heap.size + 1, 2, none⟩ = some (.int .i64 0) := bR.at 2 _ rfl
     have z3 : w9.cell? ⟨w.heap.size + 1, 3, none⟩ = some (.slice none 0 0) := bR.at 3 _ rfl
     have f0 := bR.soft 0
     have f1 := bR.soft 1
     have f2 := bR.soft 2
     have f3 := bR.soft 3
     have l0 := bR.lt
     clear bR hb9 HRC HBR HB8
     go_wp2_with fail
     refine bodyPost_ret (v := .agg #[.int .i64 (2), .bool false, .int .i64 0, .slice none 0 0]) (by simp [results, Tryz.results202, go_sem, z0, z1, z2, z3]) rfl ?_
     rw [uh HG]
     exact ⟨_, rfl, eQ (by decide), ((((uh HB9).setCell (by simp) _).setCell (by simp) _).setCell (by simp) _).setCell (by simp) _⟩
    rw [show iG ea ws x = .nilIface by rw [iG, if_neg c1, if_neg c2]]
    have HG : Hid (bF ws x = ⟨0, true, (ws.length : Int) + 1, ws ++ [x]⟩) := gn (uh HFW) (uh HF) (uh HSN) c1 c2
    have y1 : w8.cell? ⟨w.heap.size, 1, none⟩ = some (.int .i64 x.id) := hQ8.at 1 _ rfl
    have y3 : w8.cell? ⟨w.heap.size, 3, none⟩ = some (.int .i64 x.aa) := hQ8.at 3 _ rfl
    have y4 : w8.cell? ⟨w.heap.size, 4, none⟩ = some (.int .i64 x.seq) := hQ8.at 4 _ rfl
    have hlen : ws.length < 1000 := by omega
    have HT8 := yh hT8.top
    have HBR := yh bR
    clear c1 c2 bR hT8 hQ8 HE8 HSN HFW
    go_wp2_with fail
    clear y1 y3 y4
    refine (uh HDV w8).mono ?_
    rintro e w10 ⟨cs, rfl, ⟨bl, hO, hr⟩, hb10⟩
    have HC := yh (uG ((uh HT8).later hb10) hO.1 (fun c hc => ⟨(hr c hc).1, hO.2.2 c hc⟩) hO.2.1 hb10.size (uh HF) hlen)
    have HB10 := yh ((uh HB8).trans (hb10.mono (uh HB8).size))
    have HBR10 := yh ((uh HBR).ai hb10)
    clear hO hr hb10 HB8 HBR HT8 HDV HF
    go_wp2_with fail
    refine (uh HC).mono ?_
    rintro e w12 ⟨rfl, ⟨v4, rows4, bls4, hT12⟩, hb12⟩
    have HB12 := yh ((uh HB10).trans (hb12.mono (Nat.le_add_right _ _)))
    have bR12 := uc (uh HBR10) hb12 (by omega)
    obtain ⟨ao9, cp9, hv9⟩ : ∃ ao cap, v4 = .slice ao (ws.length + 1) cap := by
     obtain ⟨ao, cap, e⟩ := lN hT12
     exact ⟨ao, cap, by rw [e]; simp⟩
    subst hv9
    have HO12 := yh (hT12.own (by simp; omega))
    clear hb12 HB10 HBR10 HC
    go_wp2_with fail
    have bS : aA w.heap.size #[.int .i64 0, .bool false, .int .i64 0, .slice none 0 0] 258 w12.drew (w.heap.size + 1) := bR12
    have hBS : Below w.heap.size w w12.drew := (uh HB12).drew
    have hOS : (ab.sl ab.ag).aN w12.drew [.slice ao9 (ws.length + 1) cp9] (ws ++ [x]) (w.heap.size + 2 + 1 + 1) w12.drew.heap.size := (uh HO12).later (dg (Below.refl _ _) 1)
    refine wZz (fun w' => Ext (fun c => c = w.heap.size + 1) w12 w') (Ext.refl _ _).ku (fun zq => ?_)
    generalize w12.drew = wS14 at zq bS hBS hOS ⊢
    refine tkH 0 zq ?_
    refine tkH 1 zq ?_
    refine tkH 2 zq ?_
    refine tkJ 3 (v := ?vm3) ?hm3 zq ?rm3
    case hm3 =>
     intro wS hSw
     have zp : wS.cell? ⟨w.heap.size + 2 + 1, 0, none⟩ = some (.slice ao9 (ws.length + 1) cp9) := (hT12.box.ext hSw (by omega)).at 0 _ rfl
     clear hSw
     exact fZ
    refine tkH 4 zq ?_
    refine tkH 5 zq ?_
    refine tkH 6 zq ?_
    refine tkH 7 zq ?_
    refine tkJ 8 (v := ?vm8) ?hm8 zq ?rm8
    case hm8 =>
     intro wS hSw
     have zp : wS.cell? ⟨w.heap.size + 2 + 1, 0, none⟩ = some (.slice ao9 (ws.length + 1) cp9) := (hT12.box.ext hSw (by omega)).at 0 _ rfl
     clear hSw
     exact fZ
    refine tkH 9 zq ?_
    refine rdH 10 (fun K hK => ?_)
    have zz0 : wS14.cell? ⟨w.heap.size + 1, 0, none⟩ = some (.int .i64 0) := bS.at 0 _ rfl
    have zz1 : wS14.cell? ⟨w.heap.size + 1, 1, none⟩ = some (.bool false) := bS.at 1 _ rfl
    have zz2 : wS14.cell? ⟨w.heap.size + 1, 2, none⟩ = some (.int .i64 0) := bS.at 2 _ rfl
    have zz3 : wS14.cell? ⟨w.heap.size + 1, 3, none⟩ = some (.slice none 0 0) := bS.at 3 _ rfl
    have f0 := bS.soft 0
    have f1 := bS.soft 1
    have f2 := bS.soft 2
    have f3 := bS.soft 3
    have l0 := bS.lt
    go_simp
    refine hK.out _ _ ((((zq.setCell ⟨w.heap.size + 1, 0, none⟩ _ rfl).setCell ⟨w.heap.size + 1, 1, none⟩ _ rfl).setCell ⟨w.heap.size + 1, 2, none⟩ _ rfl).setCell ⟨w.heap.size + 1, 3, none⟩ _ rfl) (fun zq => ?_)
    clear hK K
    try simp only [Act.put, pz, py, px]
    refine dZ ?_
    have HBZ := yh (th hBS (Nat.le_add_right _ 1) (.int .i64 0) (.bool true) (.int .i64 ((ws.length : Int) + 1)) (.slice ao9 (ws.length + 1) cp9))
    have hE : Ext (fun c => c = w.heap.size + 1) wS14 ((((wS14.setCell ⟨w.heap.size + 1, 0, none⟩ (.int .i64 0)).setCell ⟨w.heap.size + 1, 1, none⟩ (.bool true)).setCell ⟨w.heap.size + 1, 2, none⟩ (.int .i64 ((ws.length : Int) + 1))).setCell ⟨w.heap.size + 1, 3, none⟩ (.slice ao9 (ws.length + 1) cp9)) := ((((Ext.refl (fun c => c = w.heap.size + 1) _).setCell ⟨w.heap.size + 1, 0, none⟩ _ rfl).setCell ⟨w.heap.size + 1, 1, none⟩ _ rfl).setCell ⟨w.heap.size + 1, 2, none⟩ _ rfl).setCell ⟨w.heap.size + 1, 3, none⟩ _ rfl
    have HOZ : Hid ((ab.sl ab.ag).aN ((((wS14.setCell ⟨w.heap.size + 1, 0, none⟩ (.int .i64 0)).setCell ⟨w.heap.size + 1, 1, none⟩ (.bool true)).setCell ⟨w.heap.size + 1, 2, none⟩ (.int .i64 ((ws.length : Int) + 1))).setCell ⟨w.heap.size + 1, 3, none⟩ (.slice ao9 (ws.length + 1) cp9)) [.slice ao9 (ws.length + 1) cp9] (ws ++ [x]) w.heap.size ((((wS14.setCell ⟨w.heap.size + 1, 0, none⟩ (.int .i64 0)).setCell ⟨w.heap.size + 1, 1, none⟩ (.bool true)).setCell ⟨w.heap.size + 1, 2, none⟩ (.int .i64 ((ws.length : Int) + 1))).setCell ⟨w.heap.size + 1, 3, none⟩ (.slice ao9 (ws.length + 1) cp9)).heap.size) := (hOS.ext hE (fun c h1 _ h3 => by omega)).mono (by omega) (by simp)
    have zz := bS
    have z0 : ((((wS14.setCell ⟨w.heap.size + 1, 0, none⟩ (.int .i64 0)).setCell ⟨w.heap.size + 1, 1, none⟩ (.bool true)).setCell ⟨w.heap.size + 1, 2, none⟩ (.int .i64 ((ws.length : Int) + 1))).setCell ⟨w.heap.size + 1, 3, none⟩ (.slice ao9 (ws.length + 1) cp9)).cell? ⟨w.heap.size + 1, 0, none⟩ = some (.int .i64 0) := ((((bS.set 0 (.int .i64 0)).set 1 (.bool true)).set 2 (.int .i64 ((ws.length : Int) + 1))).set 3 (.slice ao9 (ws.length + 1) cp9)).at 0 _ rfl
    have z1 : ((((wS14.setCell ⟨w.heap.size + 1, 0, none⟩ (.int .i64 0)).setCell ⟨w.heap.size + 1, 1, none⟩ (.bool true)).setCell ⟨w.heap.size + 1, 2, none⟩ (.int .i64 ((ws.length : Int) + 1))).setCell ⟨w.heap.size + 1, 3, none⟩ (.slice ao9 (ws.length + 1) cp9)).cell? ⟨w.heap.size + 1, 1, none⟩ = some (.bool true) := ((((bS.set 0 (.int .i64 0)).set 1 (.bool true)).set 2 (.int .i64 ((ws.length : Int) + 1))).set 3 (.slice ao9 (ws.length + 1) cp9)).at 1 _ rfl
    have z2 : ((((wS14.setCell ⟨w.heap.size + 1, 0, none⟩ (.int .i64 0)).setCell ⟨w.heap.size + 1, 1, none⟩ (.bool true)).setCell ⟨w.heap.size + 1, 2, none⟩ (.int .i64 ((ws.length : Int) + 1))).setCell ⟨w.heap.size + 1, 3, none⟩ (.slice ao9 (ws.length + 1) cp9)).cell? ⟨w.heap.size + 1, 2, none⟩ = some (.int .i64 ((ws.length : Int) + 1)) := ((((bS.set 0 (.int .i64 0)).set 1 (.bool true)).set 2 (.int .i64 ((ws.length : Int) + 1))).set 3 (.slice ao9 (ws.length + 1) cp9)).at 2 _ rfl
    have z3 : ((((wS14.setCell ⟨w.heap.size + 1, 0, none⟩ (.int .i64 0)).setCell ⟨w.heap.size + 1, 1, none⟩ (.bool true)).setCell ⟨w.heap.size + 1, 2, none⟩ (.int .i64 ((ws.length : Int) + 1))).setCell ⟨w.heap.size + 1, 3, none⟩ (.slice ao9 (ws.length + 1) cp9)).cell? ⟨w.heap.size + 1, 3, none⟩ = some (.slice ao9 (ws.length + 1) cp9) := ((((bS.set 0 (.int .i64 0)).set 1 (.bool true)).set 2 (.int .i64 ((ws.length : Int) + 1))).set 3 (.slice ao9 (ws.length + 1) cp9)).at 3 _ rfl
    clear zq bS hBS hOS hE zz hT12 bR12 HB12 HO12
    generalize ((((wS14.setCell ⟨w.heap.size + 1, 0, none⟩ (.int .i64 0)).setCell ⟨w.heap.size + 1, 1, none⟩ (.bool true)).setCell ⟨w.heap.size + 1, 2, none⟩ (.int .i64 ((ws.length : Int) + 1))).setCell ⟨w.heap.size + 1, 3, none⟩ (.slice ao9 (ws.length + 1) cp9)) = wZ at *
    go_wp2_with fail
    refine bodyPost_ret (v := .agg #[.int .i64 0, .bool true, .int .i64 ((ws.length : Int) + 1), .slice ao9 (ws.length + 1) cp9]) (by simp [results, Tryz.results202, go_sem, z0, z1, z2, z3]) rfl ?_
    rw [uh HG]
    exact ⟨_, rfl, jF (by decide) (aP (by omega)) (uh HOZ), uh HBZ⟩
   obtain rfl : bs = true := by rw [uh HBS]; simpa using hsn
   have HG : Hid (bF ws x = ⟨0, false, ck ws x.aa x.seq, ws⟩) := fB (uh HFW) hf hsn
   have hlen := (ei (uh HFW)).1
   have hsl := Nat.le_trans (nJ ws x.aa x.seq) hlen
   obtain ⟨ao9, cp9, rfl⟩ := lN hT5
   have zp : w7.cell? ⟨w.heap.size + 2 + 1, 0, none⟩ = some (.slice ao9 ws.length cp9) := hT5.box.at 0 _ rfl
   have HO := yh (hT5.own (by omega))
   have bR := bR5
   have z0 : w7.cell? ⟨w.heap.size + 1, 0, none⟩ = some (.int .i64 0) := bR.at 0 _ rfl
   have z1 : w7.cell? ⟨w.heap.size + 1, 1, none⟩ = some (.bool false) := bR.at 1 _ rfl
   have z2 : w7.cell? ⟨w.heap.size + 1, 2, none⟩ = some (.int .i64 0) := bR.at 2 _ rfl
   have z3 : w7.cell? ⟨w.heap.size + 1, 3, none⟩ = some (.slice none 0 0) := bR.at 3 _ rfl
   have f0 := bR.soft 0
   have f1 := bR.soft 1
   have f2 := bR.soft 2
   have f3 := bR.soft 3
   have l0 := bR.lt
   have hE : Ext (fun c => c = w.heap.size + 1) w7 ((((w7.setCell ⟨w.heap.size + 1, 0, none⟩ (.int .i64 0)).setCell ⟨w.heap.size + 1, 1, none⟩ (.bool false)).setCell ⟨w.heap.size + 1, 2, none⟩ (.int .i64 (ck ws x.aa x.seq))).setCell ⟨w.heap.size + 1, 3, none⟩ (.slice ao9 ws.length cp9)) := ((((Ext.refl (fun c => c = w.heap.size + 1) _).setCell ⟨w.heap.size + 1, 0, none⟩ _ rfl).setCell ⟨w.heap.size + 1, 1, none⟩ _ rfl).setCell ⟨w.heap.size + 1, 2, none⟩ _ rfl).setCell ⟨w.heap.size + 1, 3, none⟩ _ rfl
   have HOZ : Hid ((ab.sl ab.ag).aN ((((w7.setCell ⟨w.heap.size + 1, 0, none⟩ (.int .i64 0)).setCell ⟨w.heap.size + 1, 1, none⟩ (.bool false)).setCell ⟨w.heap.size + 1, 2, none⟩ (.int .i64 (ck ws x.aa x.seq))).setCell ⟨w.heap.size + 1, 3, none⟩ (.slice ao9 ws.length cp9)) [.slice ao9 ws.length cp9] ws w.heap.size ((((w7.setCell ⟨w.heap.size + 1, 0, none⟩ (.int .i64 0)).setCell ⟨w.heap.size + 1, 1, none⟩ (.bool false)).setCell ⟨w.heap.size + 1, 2, none⟩ (.int .i64 (ck ws x.aa x.seq))).setCell ⟨w.heap.size + 1, 3, none⟩ (.slice ao9 ws.length cp9)).heap.size) := ((uh HO).ext hE (fun c h1 _ h3 => by omega)).mono (by omega) (by simp)
   have HBZ := yh (th (uh HB5) (Nat.le_add_right _ 1) (.int .i64 0) (.bool false) (.int .i64 (ck ws x.aa x.seq)) (.slice ao9 ws.length cp9))
   clear HBS hsn bR bR5 hT5 hQ5 HE5 HO hE HB5 hf
   go_wp2_with fail
   refine bodyPost_ret (v := .agg #[.int .i64 0, .bool false, .int .i64 (ck ws x.aa x.seq), .slice ao9 ws.length cp9]) (by simp [results, Tryz.results202, go_sem, z0, z1, z2, z3]) rfl ?_
   rw [uh HG]
   exact ⟨_, rfl, jF (by decide) (aP (by omega)) (uh HOZ), uh HBZ⟩
  have hd : (wF x != 0) = true := by simpa using hf
  have HG : Hid (bF ws x = ⟨wF x, false, 0, []⟩) := nO (uh HFW) hf
  have HWF := yh (vN x)
  generalize hdr : fM x.kind x.id x.vec x.aa x.seq = dr at *
  have z0 : w4.cell? ⟨w.heap.size + 1, 0, none⟩ = some (.int .i64 0) := bR.at 0 _ rfl
  have z1 : w4.cell? ⟨w.heap.size + 1, 1, none⟩ = some (.bool false) := bR.at 1 _ rfl
  have z2 : w4.cell? ⟨w.heap.size + 1, 2, none⟩ = some (.int .i64 0) := bR.at 2 _ rfl
  have z3 : w4.cell? ⟨w.heap.size + 1, 3, none⟩ = some (.slice none 0 0) := bR.at 3 _ rfl
  have f0 := bR.soft 0
  have f1 := bR.soft 1
  have f2 := bR.soft 2
  have f3 := bR.soft 3
  have l0 := bR.lt
  clear hf hdr bR hQ4 hT4 HE4
  go_wp2_with fail
  refine bodyPost_ret (v := .agg #[.int .i64 (wF x), .bool false, .int .i64 0, .slice none 0 0]) (by simp [results, Tryz.results202, go_sem, z0, z1, z2, z3]) rfl ?_
  rw [uh HG]
  exact ⟨_, rfl, eQ (uh HWF), ((((uh HB4).setCell (by simp) _).setCell (by simp) _).setCell (by simp) _).setCell (by simp) _⟩
 obtain rfl := g1 hfw
 clear g0 g1
 have HG : Hid (bF ws x = ⟨aR ws, false, 0, []⟩) := oF hfw
 have HWF := yh (vt ws)
 have hd : (aR ws != 0) = true := by simpa using hfw
 have z0 : w2.cell? ⟨w.heap.size + 1, 0, none⟩ = some (.int .i64 0) := bR.at 0 _ rfl
 have z1 : w2.cell? ⟨w.heap.size + 1, 1, none⟩ = some (.bool false) := bR.at 1 _ rfl
 have z2 : w2.cell? ⟨w.heap.size + 1, 2, none⟩ = some (.int .i64 0) := bR.at 2 _ rfl
 have z3 : w2.cell? ⟨w.heap.size + 1, 3, none⟩ = some (.slice none 0 0) := bR.at 3 _ rfl
 have f0 := bR.soft 0
 have f1 := bR.soft 1
 have f2 := bR.soft 2
 have f3 := bR.soft 3
 have l0 := bR.lt
 clear hfw bR HQ2 HR3 HE2
 go_wp2_with fail
 refine bodyPost_ret (v := .agg #[.int .i64 (aR ws), .bool false, .int .i64 0, .slice none 0 0]) (by simp [results, Tryz.results202, go_sem, z0, z1, z2, z3]) rfl ?_
 rw [uh HG]
 exact ⟨_, rfl, eQ (uh HWF), ((((uh HB2).setCell (by simp) _).setCell (by simp) _).setCell (by simp) _).setCell (by simp) _⟩
end Go.Proofs.YtomphbenbnnfgaaGreatDoor
