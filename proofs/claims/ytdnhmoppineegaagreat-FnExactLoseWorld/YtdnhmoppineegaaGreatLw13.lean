/-
  Texts of this proof in one: SpecLoseW, WorldMsgs, ImplSameM, ImplSent, MsgConcat, ImplLost, ImplDropF, ImplSetN, ImplLoseS, ImplLoseW, LawLoseW, OpenChain, OpenWrite, OpenNode, OpenMsg, OpenHit, OpenEntry, OpenWorld.
  Their conditions stand in their theorems.
-/
import Derived.Test.YtdnhmoppineegaaGreatLw12
import Derived.Deep.RegionHeld3
import Derived.Test.YtdnhmoppineegaaGreatLw00
import Derived.Test.YtdnhmoppineegaaGreatLw06
import Derived.Test.YtdnhmoppineegaaGreatChecked
import Derived.Test.YtdnhmoppineegaaGreatLw05
import Derived.Test.YtdnhmoppineegaaGreatLw11
import Derived.Test.YtdnhmoppineegaaGreatLw01
import Derived.WalkKit
import Derived.Deep.CutRange
import Derived.Lib.AppendZerosOnto
import Derived.BigQuiet
import Derived.Deep.QuietTactic
import Derived.WalkSmall
import Derived.Test.YtdnhmoppineegaaGreatLw10
set_option maxRecDepth 100000
set_option maxHeartbeats 4000000
namespace Go.Proofs.YtdnhmoppineegaaGreat
open Go.RowKit
theorem specLoseWorld (cs : List Value) (x : DWorld) (i : Int) (w : World) (h : Lay.tWorld.Reads w cs x) (hf : Fits x) :
  Calls Tryz.prog 39 #[.agg cs.toArray, .int .i64 i] w fun e w' => ∃ cs', e = .returned (.agg cs'.toArray) ∧ Lay.tWorldResult.Reads w' cs' (loseWR x i) ∧ Below w.heap.size w w' := by
 have HP : Hid (loseWR x i = if asked13 x ≠ 0 then badWorld (asked13 x) else if (dropMR x.msgs i).code ≠ 0 then badWorld (dropMR x.msgs i).code else ⟨0, true, withMsgs (nextW x) (dropMR x.msgs i).msgs⟩) := rfl
 obtain ⟨a3, d3, a4, d4, a5, d5, a6, d6, rfl, -, -, -, -⟩ := open_World h
 have HBN : Hid (∀ b off, a4 = some ⟨b, off, none⟩ → 0 < x.nodes.length → b < w.heap.size) := fun b off e hp => by
  obtain ⟨_, _, _, _, _, _, _, _, hq, -, RN, -, -⟩ := open_World h
  simp only [List.cons.injEq, Value.slice.injEq, and_true, true_and] at hq
  obtain ⟨-, ⟨rfl, rfl⟩, -, -, -⟩ := hq
  obtain ⟨b', off', e', hb⟩ := Lay.sl_addr RN hp
  rw [e] at e'
  simp only [Option.some.injEq, Addr.mk.injEq, and_true] at e'
  obtain ⟨rfl, -⟩ := e'
  exact hb
 have nb : Below w.heap.size w ((w.alloc (.cells #[.int .i64 x.now, .int .i64 x.events, .int .i64 x.chain.epoch, .slice a3 x.chain.ids.length d3, .slice a4 x.nodes.length d4, .slice a5 x.msgs.length d5, .slice a6 x.history.length d6] 36)).alloc (.cells #[.int .i64 0, .bool false, .int .i64 0, .int .i64 0, .int .i64 0, .slice none 0 0, .slice none 0 0, .slice none 0 0, .slice none 0 0] 38)) := ((Below.refl _ _).alloc (Nat.le_refl _) _).alloc (by simp) _
 have HX : Hid (Box 0 #[.int .i64 x.now, .int .i64 x.events, .int .i64 x.chain.epoch, .slice a3 x.chain.ids.length d3, .slice a4 x.nodes.length d4, .slice a5 x.msgs.length d5, .slice a6 x.history.length d6] 36 ((w.alloc (.cells #[.int .i64 x.now, .int .i64 x.events, .int .i64 x.chain.epoch, .slice a3 x.chain.ids.length d3, .slice a4 x.nodes.length d4, .slice a5 x.msgs.length d5, .slice a6 x.history.length d6] 36)).alloc (.cells #[.int .i64 0, .bool false, .int .i64 0, .int .i64 0, .int .i64 0, .slice none 0 0, .slice none 0 0, .slice none 0 0, .slice none 0 0] 38)) w.heap.size) := ((newBox (Nat.zero_le _)).grow _)
 have HY : Hid (Box 0 #[.int .i64 0, .bool false, .int .i64 0, .int .i64 0, .int .i64 0, .slice none 0 0, .slice none 0 0, .slice none 0 0, .slice none 0 0] 38 ((w.alloc (.cells #[.int .i64 x.now, .int .i64 x.events, .int .i64 x.chain.epoch, .slice a3 x.chain.ids.length d3, .slice a4 x.nodes.length d4, .slice a5 x.msgs.length d5, .slice a6 x.history.length d6] 36)).alloc (.cells #[.int .i64 0, .bool false, .int .i64 0, .int .i64 0, .int .i64 0, .slice none 0 0, .slice none 0 0, .slice none 0 0, .slice none 0 0] 38)) (w.heap.size + 1)) := newBoxAt (Nat.zero_le _) (by simp)
 have hz0 : ((w.alloc (.cells #[.int .i64 x.now, .int .i64 x.events, .int .i64 x.chain.epoch, .slice a3 x.chain.ids.length d3, .slice a4 x.nodes.length d4, .slice a5 x.msgs.length d5, .slice a6 x.history.length d6] 36)).alloc (.cells #[.int .i64 0, .bool false, .int .i64 0, .int .i64 0, .int .i64 0, .slice none 0 0, .slice none 0 0, .slice none 0 0, .slice none 0 0] 38)).heap.size = w.heap.size + 2 := by simp
 have HR := yh (h.later nb)
 have HB := yh nb
 clear nb
 clear h HBN
 generalize loseWR x i = R at *
 go_enter Tryz.func39, Tryz.ntmps39
 go_upto_region 1 with fail
 generalize ((w.alloc (.cells #[.int .i64 x.now, .int .i64 x.events, .int .i64 x.chain.epoch, .slice a3 x.chain.ids.length d3, .slice a4 x.nodes.length d4, .slice a5 x.msgs.length d5, .slice a6 x.history.length d6] 36)).alloc (.cells #[.int .i64 0, .bool false, .int .i64 0, .int .i64 0, .int .i64 0, .slice none 0 0, .slice none 0 0, .slice none 0 0, .slice none 0 0] 38)) = W0 at *
 go_wp2_with fail
 refine (l13AskedC a3 d3 a4 d4 a5 d5 a6 d6 x w.heap.size W0 (uh HX) (uh HR)).mono ?_
 rintro e wa ⟨rfl, hb⟩
 replace HX := yh ((uh HX).keep hb)
 replace HR := yh ((uh HR).later hb)
 replace HY := yh ((uh HY).keep hb)
 replace HB := yh ((uh HB).trans (hb.mono (uh HB).size))
 have hza := hb.size
 clear hb
 by_cases d1 : asked13 x ≠ 0
 ·
  have hd : (asked13 x != 0) = true := by simpa using d1
  replace HP := yh ((uh HP).trans (if_pos d1))
  have HC := yh (asked13_bd x)
  clear d1 hf
  generalize asked13 x = c at *
  go_wp2_with fail
  refine (l12BadCZ (c) _).mono ?_
  rintro e wB ⟨rfl, hbB⟩
  have hyB := (uh HY).keep hbB
  have z0 := Box.at hyB 0 _ rfl
  have z1 := Box.at hyB 1 _ rfl
  have z2 := Box.at hyB 2 _ rfl
  have z3 := Box.at hyB 3 _ rfl
  have z4 := Box.at hyB 4 _ rfl
  have z5 := Box.at hyB 5 _ rfl
  have z6 := Box.at hyB 6 _ rfl
  have z7 := Box.at hyB 7 _ rfl
  have z8 := Box.at hyB 8 _ rfl
  simp only [ga, gb, gc] at z0 z1 z2 z3 z4 z5 z6 z7 z8
  have zf := Box.soft hyB
  have zl := hyB.lt
  have HB9 := yh (below_setAll ((uh HB).trans (hbB.mono (uh HB).size)) (w.heap.size + 1) 0 [.int .i64 c, .bool false, .int .i64 0, .int .i64 0, .int .i64 0, .slice none 0 0, .slice none 0 0, .slice none 0 0, .slice none 0 0] (by omega))
  clear hyB hbB HY HB
  go_wp2_with fail
  refine bodyPost_ret (v := .agg #[.int .i64 c, .bool false, .int .i64 0, .int .i64 0, .int .i64 0, .slice none 0 0, .slice none 0 0, .slice none 0 0, .slice none 0 0]) (by simp [results, Tryz.results39, go_sem, z0, z1, z2, z3, z4, z5, z6, z7, z8]) rfl ?_
  rw [uh HP]
  exact ⟨[.int .i64 c, .bool false, .int .i64 0, .int .i64 0, .int .i64 0, .slice none 0 0, .slice none 0 0, .slice none 0 0, .slice none 0 0], rfl, (own_badW (uh HC) (lo := 0) (hi := 0) (Nat.le_refl 0)).lies.reads, uh HB9⟩
 replace HP := yh ((uh HP).trans (if_neg d1))
 have hd0 : asked13 x = 0 := by simpa using d1
 have hok := worldFault_zero (asked13_ok hd0)
 rw [hd0]
 clear d1 hd0
 have hop := open_World (uh HR)
 obtain ⟨_, _, _, _, _, _, _, _, hq, -, -, RM, -⟩ := hop
 simp only [List.cons.injEq, Value.slice.injEq, and_true, true_and] at hq
 obtain ⟨-, -, ⟨rfl, rfl⟩, -, -⟩ := hq
 have HL := yh (specDropMsg _ x.msgs i wa RM)
 have HOK := yh hok
 have HCB := yh (dropMR_bd x.msgs i)
 have z5 := Box.at (uh HX) 5 _ rfl
 simp only [ga, gb, gc] at z5
 have zl := (uh HX).lt
 clear RM hok
 go_wp2_with fail
 refine (uh HL).mono ?_
 rintro e w3 ⟨rs, rfl, O3, hb3⟩
 obtain ⟨bm, hlm, hbm⟩ := O3
 obtain ⟨ar, dr, bm', rfl, rfl, -, hlm2⟩ := lies_NetResult.1 hlm
 have nb3 : Below w3.heap.size w3 (w3.alloc (.cells #[.int .i64 (dropMR x.msgs i).code, .slice ar (dropMR x.msgs i).msgs.length dr] 107)) := (Below.refl _ _).alloc (Nat.le_refl _) _
 have HN : Hid (Box 0 #[.int .i64 (dropMR x.msgs i).code, .slice ar (dropMR x.msgs i).msgs.length dr] 107 (w3.alloc (.cells #[.int .i64 (dropMR x.msgs i).code, .slice ar (dropMR x.msgs i).msgs.length dr] 107)) w3.heap.size) := newBox (Nat.zero_le _)
 replace HX := yh (((uh HX).keep hb3).keep nb3)
 replace HR := yh (((uh HR).later hb3).later nb3)
 replace HY := yh (((uh HY).keep hb3).keep nb3)
 replace HB := yh ((uh HB).trans ((hb3.trans (nb3.mono hb3.size)).mono (uh HB).size))
 have HM : Hid (∃ bl, (Lay.sl Lay.tMsg).lies (w3.alloc (.cells #[.int .i64 (dropMR x.msgs i).code, .slice ar (dropMR x.msgs i).msgs.length dr] 107)) [.slice ar (dropMR x.msgs i).msgs.length dr] (dropMR x.msgs i).msgs bl ∧ ∀ c ∈ bl, wa.heap.size ≤ c ∧ c < w3.heap.size) := ⟨_, (Lay.sl Lay.tMsg).keep hlm2 (fun c hc => nb3.block c (hbm c hc).2), hbm⟩
 have hz3 := hb3.size
 have hz4 : w3.heap.size < (w3.alloc (.cells #[.int .i64 (dropMR x.msgs i).code, .slice ar (dropMR x.msgs i).msgs.length dr] 107)).heap.size := by simp
 clear hlm hlm2 hbm hb3 nb3 HL z5 zl
 go_upto_region 5 with fail
 generalize w3.alloc (.cells #[.int .i64 (dropMR x.msgs i).code, .slice ar (dropMR x.msgs i).msgs.length dr] 107) = w4 at *
 have n0 := Box.at (uh HN) 0 _ rfl
 simp only [List.getElem_toArray, List.getElem_cons_zero] at n0
 have nl := (uh HN).lt
 by_cases d2 : (dropMR x.msgs i).code ≠ 0
 ·
  have hd2 : ((dropMR x.msgs i).code != 0) = true := by simpa using d2
  replace HP := yh ((uh HP).trans (if_pos d2))
  clear d2 HN HM HOK hf
  go_wp2_with fail
  refine (l12BadCZ (dropMR x.msgs i).code _).mono ?_
  rintro e wB ⟨rfl, hbB⟩
  have hyB := (uh HY).keep hbB
  have z0 := Box.at hyB 0 _ rfl
  have z1 := Box.at hyB 1 _ rfl
  have z2 := Box.at hyB 2 _ rfl
  have z3 := Box.at hyB 3 _ rfl
  have z4 := Box.at hyB 4 _ rfl
  have z5 := Box.at hyB 5 _ rfl
  have z6 := Box.at hyB 6 _ rfl
  have z7 := Box.at hyB 7 _ rfl
  have z8 := Box.at hyB 8 _ rfl
  simp only [ga, gb, gc] at z0 z1 z2 z3 z4 z5 z6 z7 z8
  have zf := Box.soft hyB
  have zl := hyB.lt
  have HB9 := yh (below_setAll ((uh HB).trans (hbB.mono (uh HB).size)) (w.heap.size + 1) 0 [.int .i64 (dropMR x.msgs i).code, .bool false, .int .i64 0, .int .i64 0, .int .i64 0, .slice none 0 0, .slice none 0 0, .slice none 0 0, .slice none 0 0] (by omega))
  clear hyB hbB HY HB
  go_wp2_with fail
  refine bodyPost_ret (v := .agg #[.int .i64 (dropMR x.msgs i).code, .bool false, .int .i64 0, .int .i64 0, .int .i64 0, .slice none 0 0, .slice none 0 0, .slice none 0 0, .slice none 0 0]) (by simp [results, Tryz.results39, go_sem, z0, z1, z2, z3, z4, z5, z6, z7, z8]) rfl ?_
  rw [uh HP]
  exact ⟨[.int .i64 (dropMR x.msgs i).code, .bool false, .int .i64 0, .int .i64 0, .int .i64 0, .slice none 0 0, .slice none 0 0, .slice none 0 0, .slice none 0 0], rfl, (own_badW (uh HCB) (lo := 0) (hi := 0) (Nat.le_refl 0)).lies.reads, uh HB9⟩
 have hd2 : ((dropMR x.msgs i).code != 0) = false := by simpa using d2
 replace HP := yh ((uh HP).trans (if_neg d2))
 have HL := yh (l12NextC _ x w4 (uh HR) (uh HOK) hf)
 clear d2
 have z0 := Box.at (uh HX) 0 _ rfl
 have z1 := Box.at (uh HX) 1 _ rfl
 have z2 := Box.at (uh HX) 2 _ rfl
 have z3 := Box.at (uh HX) 3 _ rfl
 have z4 := Box.at (uh HX) 4 _ rfl
 have z5 := Box.at (uh HX) 5 _ rfl
 have z6 := Box.at (uh HX) 6 _ rfl
 simp only [ga, gb, gc] at z0 z1 z2 z3 z4 z5 z6
 have zl := (uh HX).lt
 go_wp2_with fail
 clear n0 nl hd2
 refine (uh HL).mono ?_
 rintro e W1 ⟨cs', rfl, O, hb⟩
 have hop := open_World O.reads
 dsimp only [nextW] at hop
 obtain ⟨a3w, d3w, a4w, d4w, a5w, d5w, a6w, d6w, rfl, -⟩ := hop
 have hz1 : w4.heap.size ≤ W1.heap.size := hb.size
 have nb : Below W1.heap.size W1 (W1.alloc (.cells #[.int .i64 x.now, .int .i64 (x.events + 1), .int .i64 x.chain.epoch, .slice a3w x.chain.ids.length d3w, .slice a4w x.nodes.length d4w, .slice a5w x.msgs.length d5w, .slice a6w x.history.length d6w] 36)) := (Below.refl _ _).alloc (Nat.le_refl _) _
 have HG : Hid (Box 0 #[.int .i64 x.now, .int .i64 (x.events + 1), .int .i64 x.chain.epoch, .slice a3w x.chain.ids.length d3w, .slice a4w x.nodes.length d4w, .slice a5w x.msgs.length d5w, .slice a6w x.history.length d6w] 36 (W1.alloc (.cells #[.int .i64 x.now, .int .i64 (x.events + 1), .int .i64 x.chain.epoch, .slice a3w x.chain.ids.length d3w, .slice a4w x.nodes.length d4w, .slice a5w x.msgs.length d5w, .slice a6w x.history.length d6w] 36)) W1.heap.size) := newBox (Nat.zero_le _)
 have HO := yh ((O.later nb).st (G := fun c => c < 0 ∨ c < wa.heap.size ∨ c = W1.heap.size) (fun k hk => by omega))
 replace HX := yh (((uh HX).keep hb).keep nb)
 replace HR := yh (((uh HR).later hb).later nb)
 replace HY := yh (((uh HY).keep hb).keep nb)
 replace HB := yh ((uh HB).trans ((hb.trans (nb.mono hb.size)).mono (uh HB).size))
 have hz2 : W1.heap.size < (W1.alloc (.cells #[.int .i64 x.now, .int .i64 (x.events + 1), .int .i64 x.chain.epoch, .slice a3w x.chain.ids.length d3w, .slice a4w x.nodes.length d4w, .slice a5w x.msgs.length d5w, .slice a6w x.history.length d6w] 36)).heap.size := by simp
 have HBW := yh (hb.trans (nb.mono hb.size))
 have HN2 := yh (((uh HN).keep hb).keep nb)
 clear nb O hb HL HN
 clear z0 z1 z2 z3 z4 z5 z6 zl
 go_upto_region 8 with fail
 generalize W1.alloc (.cells #[.int .i64 x.now, .int .i64 (x.events + 1), .int .i64 x.chain.epoch, .slice a3w x.chain.ids.length d3w, .slice a4w x.nodes.length d4w, .slice a5w x.msgs.length d5w, .slice a6w x.history.length d6w] 36) = W2 at *
 have hg := uh HG
 have y5 := Box.at hg 5 _ rfl
 have n1 := Box.at (uh HN2) 1 _ rfl
 simp only [ga, gb, gc] at y5 n1
 have yl := hg.lt
 have nl := (uh HN2).lt
 have yf := Box.soft hg
 have e1 : Ext (fun q => q = W1.heap.size) W2 (W2.setCell ⟨W1.heap.size, 5, none⟩ (.slice ar (dropMR x.msgs i).msgs.length dr)) := (Ext.refl _ _).setCell _ _ rfl
 have hg2 := Box.set hg 5 (.slice ar (dropMR x.msgs i).msgs.length dr)
 simp only [List.setIfInBounds_toArray, List.set_cons_zero, List.set_cons_succ] at hg2
 obtain ⟨bl, hl1, hl2⟩ := uh HM
 have hO2 := (WSt.msgs (x := nextW x) (uh HO) ((Lay.sl Lay.tMsg).keep hl1 (fun c hc => (uh HBW).block c (by have := hl2 c hc; omega))) (fun c hc => ⟨by have := hl2 c hc; omega, fun e => by have := hl2 c hc; omega⟩)).ext e1 (fun k h1 h2 h3 => h2 (Or.inr (Or.inr h3)))
 have HG2 := yh hg2
 have HO2 := yh hO2
 have HY2 := yh ((uh HY).ext e1 (by omega))
 have HB2 := yh ((uh HB).trans (e1.below (B := w.heap.size) (by omega) (fun c hc e => by omega)))
 clear hg hg2 e1 hO2 HG HO HY HB hl1 hl2 HM HN2 HX HR HBW
 go_upto_region 9 with fail
 generalize hW9 : W2.setCell ⟨W1.heap.size, 5, none⟩ (.slice ar (dropMR x.msgs i).msgs.length dr) = W9 at *
 clear hW9 y5 n1 yl nl yf
 have y0 := Box.at (uh HG2) 0 _ rfl
 have y1 := Box.at (uh HG2) 1 _ rfl
 have y2 := Box.at (uh HG2) 2 _ rfl
 have y3 := Box.at (uh HG2) 3 _ rfl
 have y4 := Box.at (uh HG2) 4 _ rfl
 have y5 := Box.at (uh HG2) 5 _ rfl
 have y6 := Box.at (uh HG2) 6 _ rfl
 simp only [ga, gb, gc] at y0 y1 y2 y3 y4 y5 y6
 have yl := (uh HG2).lt
 have r0 := Box.at (uh HY2) 0 _ rfl
 have r1 := Box.at (uh HY2) 1 _ rfl
 have r2 := Box.at (uh HY2) 2 _ rfl
 have r3 := Box.at (uh HY2) 3 _ rfl
 have r4 := Box.at (uh HY2) 4 _ rfl
 have r5 := Box.at (uh HY2) 5 _ rfl
 have r6 := Box.at (uh HY2) 6 _ rfl
 have r7 := Box.at (uh HY2) 7 _ rfl
 have r8 := Box.at (uh HY2) 8 _ rfl
 simp only [ga, gb, gc] at r0 r1 r2 r3 r4 r5 r6 r7 r8
 have rl := (uh HY2).lt
 have rf := Box.soft (uh HY2)
 have e9 : Ext (fun q => q = w.heap.size + 1) W9 (setAll W9 (w.heap.size + 1) 0 [.int .i64 0, .bool true, .int .i64 x.now, .int .i64 (x.events + 1), .int .i64 x.chain.epoch, .slice a3w x.chain.ids.length d3w, .slice a4w x.nodes.length d4w, .slice ar (dropMR x.msgs i).msgs.length dr, .slice a6w x.history.length d6w]) := ext_setAll _ (Ext.refl _ _) _ _ _ rfl
 have HO9 := yh (okR_lies (m := true) (((uh HO2).ext e9 (fun c h1 h2 h3 => h2 (Or.inr (Or.inl (by omega))))).liesIn (B := 0) (fun c hc => by omega)))
 have HB9 := yh (below_setAll (uh HB2) (w.heap.size + 1) 0 [.int .i64 0, .bool true, .int .i64 x.now, .int .i64 (x.events + 1), .int .i64 x.chain.epoch, .slice a3w x.chain.ids.length d3w, .slice a4w x.nodes.length d4w, .slice ar (dropMR x.msgs i).msgs.length dr, .slice a6w x.history.length d6w] (by omega))
 clear e9 HO2 HG2 HY2 HB2
 go_wp2_with fail
 refine bodyPost_ret (v := .agg #[.int .i64 0, .bool true, .int .i64 x.now, .int .i64 (x.events + 1), .int .i64 x.chain.epoch, .slice a3w x.chain.ids.length d3w, .slice a4w x.nodes.length d4w, .slice ar (dropMR x.msgs i).msgs.length dr, .slice a6w x.history.length d6w]) (by simp [results, Tryz.results39, go_sem, r0, r1, r2, r3, r4, r5, r6, r7, r8]) rfl ?_
 rw [uh HP]
 exact ⟨_, rfl, (uh HO9).reads, uh HB9⟩
theorem wown_msgs {W0 W : World} {lo g : Nat} {v3 v4 v5 v6 : Value} {y : DWorld} (h : WOwn W0 lo g [.int .i64 y.now, .int .i64 y.events, .int .i64 y.chain.epoch, v3, v4, v5, v6] y) (hb : Below W0.heap.size W0 W) (hg : g < W0.heap.size) (hlo : lo ≤ W0.heap.size) {a : Option Addr} {n d lo5 : Nat} {ms : List DMsg} (hm : (Lay.sl Lay.tMsg).OwnIn W [.slice a n d] ms lo5 W.heap.size) (hl5 : W0.heap.size ≤ lo5) :
  WOwn W lo g [.int .i64 y.now, .int .i64 y.events, .int .i64 y.chain.epoch, v3, v4, .slice a n d, v6] ⟨y.now, y.events, y.chain, y.nodes, ms, y.history⟩ := by
 obtain ⟨bl, O, hgb, hbl⟩ := h
 obtain ⟨a3, d3, a4, d4, a5, d5, a6, d6, g2, g4, g5, g6, hq, rfl, O2, O4, O5, O6, w0, w1⟩ := own_World O
 simp only [List.cons.injEq, and_true, true_and] at hq
 obtain ⟨rfl, rfl, rfl, rfl⟩ := hq
 have hnd := O.2.1
 obtain ⟨bm, Om, hbm⟩ := hm
 have hin : ∀ c, c ∈ g2 ++ (g4 ++ (g5 ++ g6)) → lo ≤ c ∧ c < W0.heap.size := hbl
 have hn : (g2 ++ (g4 ++ (bm ++ g6))).Nodup := by
  rw [List.nodup_append, List.nodup_append, List.nodup_append] at hnd ⊢
  obtain ⟨n2, ⟨n4, ⟨n5, n6, x56⟩, x4⟩, x2⟩ := hnd
  refine ⟨n2, ⟨n4, ⟨Om.2.1, n6, fun p hp c hc e => ?_⟩, fun p hp c hc e => ?_⟩, fun p hp c hc e => ?_⟩
  ·
   have h1 := hbm p hp
   have h2 := hin c (by simp [hc])
   omega
  ·
   rcases List.mem_append.1 hc with q | q
   ·
    have h1 := hbm c q
    have h2 := hin p (by simp [hp])
    omega
   exact x4 p hp c (by simp [q]) e
  rcases List.mem_append.1 hc with q | q
  ·
   exact x2 p hp c (by simp [q]) e
  rcases List.mem_append.1 q with q | q
  ·
   have h1 := hbm c q
   have h2 := hin p (by simp [hp])
   omega
  exact x2 p hp c (by simp [q]) e
 have hz := hb.size
 have hnn : n = ms.length := (Lay.Reads.cap ⟨bm, Om.1⟩).1
 subst hnn
 refine ⟨g2 ++ (g4 ++ (bm ++ g6)), mkOwn_World (x := ⟨y.now, y.events, y.chain, y.nodes, ms, y.history⟩) (O2.later hb) (O4.later hb) Om (O6.later hb) w0 w1 hn, fun q => ?_, fun c hc => ?_⟩
 ·
  rcases List.mem_append.1 q with q | q
  ·
   exact hgb (by simp [q])
  rcases List.mem_append.1 q with q | q
  ·
   exact hgb (by simp [q])
  rcases List.mem_append.1 q with q | q
  ·
   have := hbm g q; omega
  exact hgb (by simp [q])
 have hc2 : c ∈ g2 ++ (g4 ++ (g5 ++ g6)) ∨ c ∈ bm := by
  simp only [List.mem_append] at hc ⊢
  rcases hc with q | q | q | q
  ·
   exact Or.inl (Or.inl q)
  ·
   exact Or.inl (Or.inr (Or.inl q))
  ·
   exact Or.inr q
  exact Or.inl (Or.inr (Or.inr (Or.inr q)))
 rcases hc2 with q | q
 ·
  have := hin c q; omega
 have := hbm c q; omega
def SentE (c : Int) (ms : List DMsg) (w w' : World) (e : Ending) : Prop :=
 (c = 0 → ∃ v', e = .returned v' ∧ (Lay.sl Lay.tMsg).OwnIn w' [v'] ms w.heap.size w'.heap.size) ∧ (c ≠ 0 → e = .panicked (wrongP c))
theorem sentE_bad {c : Int} {ms : List DMsg} {w w' : World} (h : c ≠ 0) : SentE c ms w w' (.panicked (wrongP c)) := ⟨fun q => absurd q h, fun _ => rfl⟩
theorem sentE_ok {ms : List DMsg} {w w' : World} {v : Value} (h : (Lay.sl Lay.tMsg).OwnIn w' [v] ms w.heap.size w'.heap.size) : SentE 0 ms w w' (.returned v) := ⟨fun _ => ⟨v, rfl, h⟩, fun q => absurd rfl q⟩
theorem msg_vecS {x : DMsg} (h : msgFault x = 0) : x.write.vec.length ≤ 10000000 := by
 unfold msgFault at h
 split at h
 ·
  simp at h
 rename_i h1
 split at h
 ·
  simp at h
 split at h
 ·
  rename_i h3
  have h4 : noW x.write := Decidable.byContradiction fun q => h1 (Or.inr (Or.inr ⟨h3, q⟩))
  have := h4.2.2.2.2
  omega
 obtain ⟨-, -, -, hk⟩ := writeFault_zero h
 rcases hk with ⟨-, hv⟩ | ⟨-, hv⟩
 ·
  have := (vecFault_zero hv).1; omega
 rw [hv]; simp
theorem msgs_vecS {xs : List DMsg} (h : netFault xs = 0) : ∀ x ∈ xs, x.write.vec.length ≤ 10000000 := fun x hx => msg_vecS ((netFault_zero h).2 x hx)
theorem run_append_zeros_nilM (w : World) (k : Nat) (h0 : 0 < k) (hbig : k ≤ 100000000) (ty : TypeId) :
  ∃ G w1, (Builtin.append_ #[33, 3] ty #[.slice none 0 0, .int .i64 k]).run Tryz.prog w = .ok (.slice (some ⟨w.heap.size, 0, none⟩) k G) w1 ∧ k ≤ G ∧
   w1.ownsRow w.heap.size 96 10 (.slice (some ⟨w.heap.size, 0, none⟩) 0 G) 0 [] ∧ Below w.heap.size w w1 := by
 obtain ⟨i0, hi, hz0, hz1, hz2⟩ := info_parts infoAppMsg
 have hr := Lib.run_append_nil_zeros w 33 3 ty 96 i0 _ .i64 .i64 Tryz.underlying33 Tryz.underlying3 hi hz0 k h0 (by omega) (by omega) (by rw [hz2]; omega)
 have hge := grownCap_ge w k 0 96
 have hle := grownCap_le_maxLen w k 0 96 (by unfold maxLen; omega)
 generalize grownCap w k 0 96 = G at *
 have hzl : ∀ q, (Builtin.zeroCells (Value.agg #[.int .i64 0, .int .i64 0, .int .i64 0, .int .i64 0, .int .i64 0, .int .i64 0, .int .i64 0, .slice none 0 0, .int .i64 0, .int .i64 0]).cells q).size = q * 10 := fun q => by rw [size_zeroCells]; rfl
 refine ⟨G, _, hr, hge, ⟨rfl, .inr ⟨w.heap.size, G, _, rfl, Nat.le_refl _, heap_alloc_new w.drew _, Nat.zero_le _, hle, ?_, by simp⟩⟩, ?_⟩
 ·
  rw [Array.size_append, hzl, hzl]
  omega
 exact ((Below.refl _ _).drew).alloc (Nat.le_refl _) _
theorem implGrowM (n : Nat) (w : World) (hn : n ≤ 100000000) :
  Calls Tryz.prog 251 #[.slice none 0 0, .int .i64 n] w fun e w' => ∃ r, e = .returned r ∧ w'.ownsRow w.heap.size 96 10 r 0 [] ∧ Below w.heap.size w w' := by
 have hneg : ¬ ((n : Int) < 0) := by omega
 by_cases h0 : n = 0
 ·
  subst h0
  go_enter Tryz.func251, Tryz.ntmps251
  go_wp2_with fail
  go_ret
  exact ⟨_, rfl, World.ownsRow_nil _ _ _ _, Below.refl _ _⟩
 obtain ⟨G, w1, hr, hG, O1, B1⟩ := run_append_zeros_nilM w n (by omega) hn 33
 have HO := yh O1
 have HB := yh B1
 have hpos : decide ((0 : Int) < (n : Int)) = true := by simp; omega
 clear O1 B1
 go_enter Tryz.func251, Tryz.ntmps251
 go_wp2_with (at_builtin; refine Lib.wpList_append_run _ rfl _ _ _ _ rfl _ _ rfl rfl _ _ hr ?_)
 go_ret
 exact ⟨_, rfl, uh HO, uh HB⟩
theorem implConcatM (vb : Nat) (u v : Value) (a b : List DMsg) (w : World) (k0 : w.cell? ⟨vb, 0, none⟩ = some u) (k1 : w.cell? ⟨vb, 1, none⟩ = some v) (ha : (Lay.sl Lay.tMsg).Reads w [u] a) (hb : (Lay.sl Lay.tMsg).Reads w [v] b) (hna : a.length ≤ 1000) (hnb : b.length ≤ 1000) :
  Calls Tryz.prog 236 #[.slice (some ⟨vb, 0, none⟩) 2 2] w fun e w' => ∃ r, e = .returned r ∧ (∃ rows bls, Grow Lay.tMsg w' w.heap.size 96 r rows (a ++ b) bls) ∧ Below w.heap.size w w' := by
 have HA := yh ha.liesIn
 have HBv := yh hb.liesIn
 obtain ⟨au, cu, rfl⟩ := open_sl ha
 obtain ⟨av, cv, rfl⟩ := open_sl hb
 have HVB := yh (World.block_lt_of_cell? _ _ k1)
 have HK1 := yh k1
 have hn1 : ¬ ((a.length : Int) < 0) := by omega
 have hn2 : ¬ ((a.length : Int) + (b.length : Int) < 0) := by omega
 clear ha hb
 go_enter Tryz.func236, Tryz.ntmps236
 go_wp2_with fail
 refine wp_loop_rounds 3 ?_
 rw [rounds_succ]
 go_wp2_with fail
 rw [rounds_succ]
 go_wp2_with fail
 rw [rounds_succ]
 go_wp2_with fail
 have e1 : (a.length : Int) + (b.length : Int) = ((a.length + b.length : Nat) : Int) := by omega
 rw [e1]
 refine (implGrowM (a.length + b.length) _ (by omega)).mono ?_
 rintro e w1 ⟨r, rfl, O1, B1⟩
 obtain ⟨a1, c1, rfl⟩ := own_shape O1
 have hvb := uh HVB
 replace k0 : w1.cell? ⟨vb, 0, none⟩ = some _ := (B1.cell (p := ⟨vb, 0, none⟩) hvb).trans k0
 replace k1 : w1.cell? ⟨vb, 1, none⟩ = some _ := (B1.cell (p := ⟨vb, 1, none⟩) hvb).trans k1
 have I1 := (uh HA).later B1
 have G1 : Grow Lay.tMsg w1 w.heap.size 96 (.slice a1 0 c1) [] [] [] := Grow.nil O1
 have HB1 := yh B1
 have hs1 := B1.size
 have hna1 : ([] : List DMsg).length + a.length ≤ 100000000 := by simp; omega
 clear B1 e1 O1
 go_wp2_with fail
 refine wp_loop_rounds 3 ?_
 rw [rounds_succ]
 go_wp2_with (at_builtin; refine wpList_append_msgs G1 I1 rfl _ _ rfl rfl rfl hna1 hs1 ?_)
 intro a2 m2 c2 w2 rows2 bls2 G2 B12 hm2 _
 have B2 : Below w.heap.size w w2 := (uh HB1).trans B12
 have k2 : w2.cell? ⟨vb, 1, none⟩ = some (.slice av b.length cv) := (B2.cell (p := ⟨vb, 1, none⟩) hvb).trans (uh HK1)
 have I2 := (uh HBv).later B2
 have hs2 := B2.size
 have HB2 := yh B2
 have hnb2 : ([] ++ a).length + b.length ≤ 100000000 := by simp; omega
 clear G1 I1 B12 k0 k1 B2 hs1 HB1 hm2
 go_wp2_with fail
 rw [rounds_succ]
 go_wp2_with (at_builtin; refine wpList_append_msgs G2 I2 rfl _ _ rfl rfl rfl hnb2 hs2 ?_)
 intro a3 m3 c3 w3 rows3 bls3 G3 B23 hm3 _
 have HG3 := yh G3
 have HB3 := yh ((uh HB2).trans B23)
 clear G2 I2 k2 B23 G3 HB2 hm3
 go_wp2_with fail
 rw [rounds_succ]
 go_wp2_with fail
 go_ret
 exact ⟨_, rfl, ⟨rows3, bls3, uh HG3⟩, uh HB3⟩
abbrev o200x1 : Oper := ⟨some 16, .move (.tmp 0), 33, "l11_net.go:118", #[], none⟩
abbrev o200x2 : Oper := ⟨some 17, .move (.tmp 1), 2, "l11_net.go:118", #[], none⟩
abbrev o200x3 : Oper := ⟨some 18, .slice 33 (.tmp 16) none (some (.tmp 17)) none, 33, "l11_net.go:118", #[⟨0, .data⟩, ⟨1, .data⟩], none⟩
abbrev o200x4 : Oper := ⟨some 19, .move (.tmp 0), 33, "l11_net.go:118", #[], none⟩
abbrev o200x5 : Oper := ⟨some 20, .move (.tmp 1), 2, "l11_net.go:118", #[], none⟩
abbrev o200x6 : Oper := ⟨some 21, .binOp .add 2 (.tmp 20) (.const (.int .i64 1)) 2, 2, "l11_net.go:118", #[⟨4, .data⟩], none⟩
abbrev o200x7 : Oper := ⟨some 22, .slice 33 (.tmp 19) (some (.tmp 21)) none none, 33, "l11_net.go:118", #[⟨3, .data⟩, ⟨5, .data⟩], none⟩
abbrev o200x8 : Oper := ⟨some 23, .buildSlice 244 2 #[(0, .tmp 18), (1, .tmp 22)], 244, "l11_net.go:118", #[⟨2, .data⟩, ⟨6, .data⟩], none⟩
abbrev o200x9 : Oper := ⟨some 24, .call { callee := .value (.func 236), args := #[.tmp 23], argTypes := #[244] }, 33, "l11_net.go:118", #[⟨7, .data⟩], none⟩
abbrev o200x10 : Oper := ⟨some 25, .call { callee := .value (.func 218), args := #[.tmp 24], argTypes := #[33] }, 33, "l11_net.go:118", #[⟨8, .data⟩, ⟨8, .chain⟩], none⟩
abbrev o200x11 : Oper := ⟨some 4, .assign (.tmp 25), 33, "l11_net.go:118", #[⟨9, .data⟩, ⟨9, .chain⟩, ⟨0, .phase⟩, ⟨1, .phase⟩, ⟨2, .phase⟩, ⟨3, .phase⟩, ⟨4, .phase⟩, ⟨5, .phase⟩, ⟨6, .phase⟩, ⟨7, .phase⟩, ⟨8, .phase⟩, ⟨9, .phase⟩], none⟩
theorem dropMR_out2 {xs : List DMsg} {z : Int} (h : netFault xs = 0) (h2 : (decide (0 ≤ z) && decide (z < (xs.length : Int))) = false) : dropMR xs z = badNet 3 := by
 rw [dropMR, if_pos h, if_neg]
 intro q
 simp at h2
 omega
theorem lostC (v : Value) (xs : List DMsg) (z : Int) (w : World) (h : (Lay.sl Lay.tMsg).Reads w [v] xs) :
  Calls Tryz.prog 213 #[v, .int .i64 z] w fun e w' => SentE (dropMR xs z).code (dropMR xs z).msgs w w' e ∧ Below w.heap.size w w' := by
 obtain ⟨ao, cap, rfl⟩ := open_sl h
 have HL := yh (mustBeNetC _ xs w h)
 have H := yh h
 clear h
 go_enter Tryz.func213, Tryz.ntmps213
 go_wp2_with fail
 refine (uh HL).mono ?_
 rintro e W ⟨he, hb⟩
 replace H := yh ((uh H).later hb)
 have HB := yh hb
 clear hb HL
 by_cases hf : netFault xs = 0
 case neg =>
  rw [wrongE_bad hf] at he
  subst he
  have HF := yh (dropMR_net (z := z) hf)
  have HG := yh hf
  clear hf
  go_wp2_with fail
  exact ⟨rfl, by rw [uh HF]; exact sentE_bad (uh HG), uh HB⟩
 case pos =>
 rw [wrongE_ok hf] at he
 subst he
 have HNF := yh hf
 have hlen := (netFault_zero hf).1
 clear hf
 cases d1 : decide (0 ≤ z)
 case false =>
  have HV := yh (dropMR_out2 (z := z) (uh HNF) (by rw [d1]; rfl))
  go_wp2_with fail
  refine (mustF 3 _).mono ?_
  rintro e w9 ⟨rfl, h9⟩
  subst w9
  go_wp2_with fail
  exact ⟨rfl, by rw [uh HV]; exact sentE_bad (by decide), uh HB⟩
 case true =>
 cases d2 : decide (z < (xs.length : Int))
 case false =>
  have HV := yh (dropMR_out2 (z := z) (uh HNF) (by rw [d1, d2]; rfl))
  go_wp2_with fail
  refine (mustF 3 _).mono ?_
  rintro e w9 ⟨rfl, h9⟩
  subst w9
  go_wp2_with fail
  exact ⟨rfl, by rw [uh HV]; exact sentE_bad (by decide), uh HB⟩
 case true =>
 go_wp2_with fail
 refine (mustT 3 _).mono ?_
 rintro e w9 ⟨rfl, h9⟩
 subst w9
 obtain ⟨k, rfl⟩ : ∃ k : Nat, z = k := ⟨z.toNat, by simp at d1; omega⟩
 have hk : k < xs.length := by simp at d2; omega
 clear d1 d2
 have HV := yh (dropMR_in (uh HNF) hk)
 obtain ⟨b, off, rfl, hbl⟩ := Lay.sl_addr (uh H) (by omega)
 have hcap : xs.length ≤ cap := (Lay.Reads.cap (uh H)).2
 have hkc : k ≤ cap := by omega
 have HLI := yh (uh H).liesIn
 have HU := yh (lies_take (uh HLI) k (by omega))
 have HVS : Hid (∀ y ∈ xs.take k ++ xs.drop (k + 1), y.write.vec.length ≤ 10000000) := fun y hy => msgs_vecS (uh HNF) y (by
  rcases List.mem_append.1 hy with hy | hy
  ·
   exact List.mem_of_mem_take hy
  exact List.mem_of_mem_drop hy)
 have HWW : Hid (w.heap.size ≤ W.heap.size) := (uh HB).size
 by_cases hcp : cap = k + 1
 ·
  subst hcp
  have HVV : Hid ((Lay.sl Lay.tMsg).LiesIn W [.slice (some ⟨b, off, none⟩) 0 0] (xs.drop (k + 1)) 0 W.heap.size) := by
   have e0 : xs.drop (k + 1) = [] := List.drop_eq_nil_of_le (by omega)
   show (Lay.sl Lay.tMsg).LiesIn W [.slice (some ⟨b, off, none⟩) 0 0] (xs.drop (k + 1)) 0 W.heap.size
   rw [e0]
   exact lies_none
  go_upto_region 3 with fail
  refine wp_region_noPanic ?_
  refine wp_region_held_drew (S := fun w' => Below W.heap.size W w') (by kernel_rfl) (Below.refl _ _).drew (fun zq => ?_)
  generalize W.drew = wD at zq ⊢
  refine tkH (i := 0) (oi := o200x1) (v := ?vp0) rfl ?hp0 zq ?rp0
  case hp0 => intro _ _; go_simp; try with_reducible rfl
  refine tkH (i := 1) (oi := o200x2) (v := ?vp1) rfl ?hp1 zq ?rp1
  case hp1 => intro _ _; go_simp; try with_reducible rfl
  refine tkH (i := 2) (oi := o200x3) (v := ?vp2) rfl ?hp2 zq ?rp2
  case hp2 =>
   intro wS hSw
   clear hSw
   have q1 : (k : Int) ≤ (k : Int) + 1 := by omega
   (try dsimp only at hSw)
   go_simp
   try with_reducible rfl
  refine tkH (i := 3) (oi := o200x4) (v := ?vp3) rfl ?hp3 zq ?rp3
  case hp3 => intro _ _; go_simp; try with_reducible rfl
  refine tkH (i := 4) (oi := o200x5) (v := ?vp4) rfl ?hp4 zq ?rp4
  case hp4 => intro _ _; go_simp; try with_reducible rfl
  refine tkH (i := 5) (oi := o200x6) (v := ?vp5) rfl ?hp5 zq ?rp5
  case hp5 =>
   intro wS hSw
   clear hSw
   have q0 : IntKind.i64.wrap ((k : Int) + 1) = (k : Int) + 1 := by rw [IntKind.wrap_i64]; omega
   have q1 : (0 : Int) ≤ (k : Int) + 1 := by omega
   have q2 : (k : Int) + 1 ≤ (xs.length : Int) := by omega
   have q3 : ((k : Int) + 1).toNat = k + 1 := by omega
   have q4 : xs.length - (k + 1) = 0 := by omega
   (try dsimp only at hSw)
   go_simp
   try with_reducible rfl
  refine tkH (i := 6) (oi := o200x7) (v := ?vp6) rfl ?hp6 zq ?rp6
  case hp6 =>
   intro wS hSw
   clear hSw
   have q0 : IntKind.i64.wrap ((k : Int) + 1) = (k : Int) + 1 := by rw [IntKind.wrap_i64]; omega
   have q1 : (0 : Int) ≤ (k : Int) + 1 := by omega
   have q2 : (k : Int) + 1 ≤ (xs.length : Int) := by omega
   have q3 : ((k : Int) + 1).toNat = k + 1 := by omega
   have q4 : xs.length - (k + 1) = 0 := by omega
   (try dsimp only at hSw)
   go_simp
   try with_reducible rfl
  refine rdH (i := 7) (oi := o200x8) rfl (fun K hK => ?_)
  have b7 : Box 0 #[.slice (some ⟨b, off, none⟩) k (k + 1), .slice (some ⟨b, off, none⟩) 0 0] 33 (wD.alloc (.cells #[.slice (some ⟨b, off, none⟩) k (k + 1), .slice (some ⟨b, off, none⟩) 0 0] 33)) wD.heap.size := newBox (Nat.zero_le _)
  have nb7 : Below wD.heap.size wD (wD.alloc (.cells #[.slice (some ⟨b, off, none⟩) k (k + 1), .slice (some ⟨b, off, none⟩) 0 0] 33)) := (Below.refl _ _).alloc (Nat.le_refl _) _
  have hS7 := zq.trans (nb7.mono zq.size)
  go_simp
  try go_wp2_with fail
  refine hK.out _ _ hS7 (fun zq => ?_)
  clear hK K
  try simp only [Act.put, pz, py, px]
  refine rdH (i := 8) (oi := o200x9) rfl (fun K hK => ?_)
  go_simp
  go_at_call 236
  refine (implConcatM wD.heap.size (.slice (some ⟨b, off, none⟩) k (k + 1)) (.slice (some ⟨b, off, none⟩) 0 0) (xs.take k) (xs.drop (k + 1)) _ (b7.at 0 _ rfl) (b7.at 1 _ rfl) ((uh HU).later hS7).reads ((uh HVV).later hS7).reads (by simp; omega) (by simp; omega)).mono ?_
  rintro e w8 ⟨r8, rfl, ⟨rows8, bls8, G8⟩, hb8⟩
  have hS8 := hS7.trans (hb8.mono hS7.size)
  try go_wp2_with fail
  refine hK.out _ _ hS8 (fun zq => ?_)
  clear hK K
  try simp only [Act.put, pz, py, px]
  refine rdH (i := 9) (oi := o200x10) rfl (fun K hK => ?_)
  go_simp
  go_at_call 218
  refine (copiedMsgsC _ (xs.take k ++ xs.drop (k + 1)) w8 (G8.toReads (by simp; omega)) (by simp; omega) (uh HVS)).mono ?_
  rintro e w9 ⟨g9, rfl, O9, hb9, -⟩
  generalize xs.take k ++ xs.drop (k + 1) = ms at *
  have hS9 := hS8.trans (hb9.mono hS8.size)
  have HO9 := yh O9
  have HZ9 := yh hS8.size
  clear O9 G8
  try go_wp2_with fail
  refine hK.out _ _ hS9 (fun zq => ?_)
  clear hK K
  try simp only [Act.put, pz, py, px]
  refine tkH (i := 10) (oi := o200x11) (v := ?vp10) rfl ?hp10 zq ?rp10
  case hp10 => intro _ _; go_simp; try with_reducible rfl
  refine wpAnyH_done (by kernel_rfl) ?_ _
  refine NoPanic.normal ?_
  replace HB := yh ((uh HB).trans (zq.mono (uh HB).size))
  clear zq hS7 hS8 hS9 hb8 hb9 b7 nb7
  go_wp2_with fail
  go_ret
  refine ⟨?_, uh HB⟩
  rw [uh HV]
  exact sentE_ok ((uh HO9).mono (Nat.le_trans (uh HWW) (uh HZ9)) (Nat.le_refl _))
 have hcl : k + 1 < cap := by omega
 have HVV := yh (lies_drop (uh HLI) (k + 1) (cap - (k + 1)) (by omega) (by omega))
 go_upto_region 3 with fail
 refine wp_region_noPanic ?_
 refine wp_region_held_drew (S := fun w' => Below W.heap.size W w') (by kernel_rfl) (Below.refl _ _).drew (fun zq => ?_)
 generalize W.drew = wD at zq ⊢
 refine tkH (i := 0) (oi := o200x1) (v := ?vq0) rfl ?hq0 zq ?rq0
 case hq0 => intro _ _; go_simp; try with_reducible rfl
 refine tkH (i := 1) (oi := o200x2) (v := ?vq1) rfl ?hq1 zq ?rq1
 case hq1 => intro _ _; go_simp; try with_reducible rfl
 refine tkH (i := 2) (oi := o200x3) (v := ?vq2) rfl ?hq2 zq ?rq2
 case hq2 =>
  intro wS hSw
  clear hSw
  have q1 : (k : Int) ≤ (cap : Int) := by omega
  (try dsimp only at hSw)
  go_simp
  try with_reducible rfl
 refine tkH (i := 3) (oi := o200x4) (v := ?vq3) rfl ?hq3 zq ?rq3
 case hq3 => intro _ _; go_simp; try with_reducible rfl
 refine tkH (i := 4) (oi := o200x5) (v := ?vq4) rfl ?hq4 zq ?rq4
 case hq4 => intro _ _; go_simp; try with_reducible rfl
 refine tkH (i := 5) (oi := o200x6) (v := ?vq5) rfl ?hq5 zq ?rq5
 case hq5 =>
  intro wS hSw
  clear hSw
  have q0 : IntKind.i64.wrap ((k : Int) + 1) = (k : Int) + 1 := by rw [IntKind.wrap_i64]; omega
  have q1 : (0 : Int) ≤ (k : Int) + 1 := by omega
  have q2 : (k : Int) + 1 ≤ (xs.length : Int) := by omega
  have q3 : ((k : Int) + 1).toNat = k + 1 := by omega
  (try dsimp only at hSw)
  go_simp
  try with_reducible rfl
 refine tkH (i := 6) (oi := o200x7) (v := ?vq6) rfl ?hq6 zq ?rq6
 case hq6 =>
  intro wS hSw
  clear hSw
  have q0 : IntKind.i64.wrap ((k : Int) + 1) = (k : Int) + 1 := by rw [IntKind.wrap_i64]; omega
  have q1 : (0 : Int) ≤ (k : Int) + 1 := by omega
  have q2 : (k : Int) + 1 ≤ (xs.length : Int) := by omega
  have q3 : ((k : Int) + 1).toNat = k + 1 := by omega
  (try dsimp only at hSw)
  go_simp
  try with_reducible rfl
 refine rdH (i := 7) (oi := o200x8) rfl (fun K hK => ?_)
 have b7 : Box 0 #[.slice (some ⟨b, off, none⟩) k cap, .slice (some ⟨b, off + (k + 1) * 10, none⟩) (xs.length - (k + 1)) (cap - (k + 1))] 33 (wD.alloc (.cells #[.slice (some ⟨b, off, none⟩) k cap, .slice (some ⟨b, off + (k + 1) * 10, none⟩) (xs.length - (k + 1)) (cap - (k + 1))] 33)) wD.heap.size := newBox (Nat.zero_le _)
 have nb7 : Below wD.heap.size wD (wD.alloc (.cells #[.slice (some ⟨b, off, none⟩) k cap, .slice (some ⟨b, off + (k + 1) * 10, none⟩) (xs.length - (k + 1)) (cap - (k + 1))] 33)) := (Below.refl _ _).alloc (Nat.le_refl _) _
 have hS7 := zq.trans (nb7.mono zq.size)
 go_simp
 try go_wp2_with fail
 refine hK.out _ _ hS7 (fun zq => ?_)
 clear hK K
 try simp only [Act.put, pz, py, px]
 refine rdH (i := 8) (oi := o200x9) rfl (fun K hK => ?_)
 go_simp
 go_at_call 236
 refine (implConcatM wD.heap.size (.slice (some ⟨b, off, none⟩) k cap) (.slice (some ⟨b, off + (k + 1) * 10, none⟩) (xs.length - (k + 1)) (cap - (k + 1))) (xs.take k) (xs.drop (k + 1)) _ (b7.at 0 _ rfl) (b7.at 1 _ rfl) ((uh HU).later hS7).reads ((uh HVV).later hS7).reads (by simp; omega) (by simp; omega)).mono ?_
 rintro e w8 ⟨r8, rfl, ⟨rows8, bls8, G8⟩, hb8⟩
 have hS8 := hS7.trans (hb8.mono hS7.size)
 try go_wp2_with fail
 refine hK.out _ _ hS8 (fun zq => ?_)
 clear hK K
 try simp only [Act.put, pz, py, px]
 refine rdH (i := 9) (oi := o200x10) rfl (fun K hK => ?_)
 go_simp
 go_at_call 218
 refine (copiedMsgsC _ (xs.take k ++ xs.drop (k + 1)) w8 (G8.toReads (by simp; omega)) (by simp; omega) (uh HVS)).mono ?_
 rintro e w9 ⟨g9, rfl, O9, hb9, -⟩
 generalize xs.take k ++ xs.drop (k + 1) = ms at *
 have hS9 := hS8.trans (hb9.mono hS8.size)
 have HO9 := yh O9
 have HZ9 := yh hS8.size
 clear O9 G8
 try go_wp2_with fail
 refine hK.out _ _ hS9 (fun zq => ?_)
 clear hK K
 try simp only [Act.put, pz, py, px]
 refine tkH (i := 10) (oi := o200x11) (v := ?vq10) rfl ?hq10 zq ?rq10
 case hq10 => intro _ _; go_simp; try with_reducible rfl
 refine wpAnyH_done (by kernel_rfl) ?_ _
 refine NoPanic.normal ?_
 replace HB := yh ((uh HB).trans (zq.mono (uh HB).size))
 clear zq hS7 hS8 hS9 hb8 hb9 b7 nb7
 go_wp2_with fail
 go_ret
 refine ⟨?_, uh HB⟩
 rw [uh HV]
 exact sentE_ok ((uh HO9).mono (Nat.le_trans (uh HWW) (uh HZ9)) (Nat.le_refl _))
theorem drop_bad {xs : List DMsg} {z : Int} (h : (dropMR xs z).code ≠ 0) : dropMR xs z = badNet (dropMR xs z).code := by
 unfold dropMR at h ⊢
 split
 ·
  rename_i q
  rw [if_pos q] at h
  split
  ·
   rename_i q2; rw [if_pos q2] at h; exact absurd rfl h
  rfl
 rfl
theorem drop_vals (xs : List DMsg) (z : Int) : 0 ≤ (dropMR xs z).code ∧ (dropMR xs z).code ≤ 6 := by
 have h1 := netFault_vals xs
 unfold dropMR
 split
 ·
  split
  ·
   exact ⟨by show (0 : Int) ≤ 0; omega, by show (0 : Int) ≤ 6; omega⟩
  decide
 exact h1
theorem dropWork (v : Value) (xs : List DMsg) (z : Int) (g g2 : Nat) (w : World) (h : (Lay.sl Lay.tMsg).Reads w [v] xs)  (hx : Box 0 #[v] 33 w g) (hx2 : Box 0 #[.int .i64 z] 2 w g2) :
  Calls Tryz.prog 212 #[.pointer (some ⟨g, 0, none⟩), .pointer (some ⟨g2, 0, none⟩)] w fun e w' => SentE (dropMR xs z).code (dropMR xs z).msgs w w' e ∧ Below w.heap.size w w' := by
 have HL := yh (lostC v xs z w h)
 obtain ⟨ao, cap, rfl⟩ := open_sl h
 have z0 : w.cell? ⟨g, 0, none⟩ = some (.slice ao xs.length cap) := hx.at 0 _ rfl
 have c0 : w.cell? ⟨g2, 0, none⟩ = some (.int .i64 z) := hx2.at 0 _ rfl
 clear hx h hx2 
 go_enter Tryz.func212, Tryz.ntmps212
 go_wp2_with fail
 refine (uh HL).mono ?_
 rintro e W2 ⟨he, hb⟩
 have HB := yh hb
 have HE := yh he
 clear hb HL z0 he
 by_cases hf : (dropMR xs z).code = 0
 ·
  obtain ⟨v2, rfl, O⟩ := (uh HE).1 hf
  have HO := yh O
  have HF := yh hf
  clear hf HE O
  go_wp2_with fail
  go_ret
  exact ⟨by rw [uh HF]; exact sentE_ok (uh HO), uh HB⟩
 obtain rfl := (uh HE).2 hf
 have HF := yh hf
 clear hf HE
 go_wp2_with fail
 exact ⟨rfl, sentE_bad (uh HF), uh HB⟩
theorem implDropMsg (v : Value) (xs : List DMsg) (z : Int) (w : World) (h : (Lay.sl Lay.tMsg).Reads w [v] xs)  :
  Calls Tryz.prog 163 #[v, .int .i64 z] w fun e w' => ∃ cs, e = .returned (.agg cs.toArray) ∧ Lay.tNetResult.OwnIn w' cs (dropMR xs z) w.heap.size w'.heap.size ∧ Below w.heap.size w w' := by
 have hmf : ∀ (fn : Fn) (first cap : Array Value) (w : World), (Instr.makeFunc fn first cap).run Tryz.prog w = .ok (.func fn first cap) w := fun _ _ _ _ => rfl
 obtain ⟨ao, cap, rfl⟩ := open_sl h
 have nb1 : Below w.heap.size w (w.alloc (.cells #[.slice ao xs.length cap] 33)) := (Below.refl _ _).alloc (Nat.le_refl _) _
 have x1 : Box 0 #[.slice ao xs.length cap] 33 (w.alloc (.cells #[.slice ao xs.length cap] 33)) w.heap.size := newBox (Nat.zero_le _)
 have s1 : (w.alloc (.cells #[.slice ao xs.length cap] 33)).heap.size = w.heap.size + 1 := by simp
 have R1 := h.later nb1
 generalize hA1 : w.alloc (.cells #[.slice ao xs.length cap] 33) = A1 at *
 have nb2 : Below A1.heap.size A1 (A1.alloc (.cells #[.int .i64 z] 2)) := (Below.refl _ _).alloc (Nat.le_refl _) _
 have x2 : Box 0 #[.int .i64 z] 2 (A1.alloc (.cells #[.int .i64 z] 2)) A1.heap.size := newBox (Nat.zero_le _)
 have s2 : (A1.alloc (.cells #[.int .i64 z] 2)).heap.size = A1.heap.size + 1 := by simp
 replace x1 := x1.keep nb2
 have R2 := R1.later nb2
 generalize hA2 : A1.alloc (.cells #[.int .i64 z] 2) = A2 at *
 have nb3 : Below A2.heap.size A2 (A2.alloc (.cells #[.int .i64 0, .slice none 0 0] 107)) := (Below.refl _ _).alloc (Nat.le_refl _) _
 have x3 : Box 0 #[.int .i64 0, .slice none 0 0] 107 (A2.alloc (.cells #[.int .i64 0, .slice none 0 0] 107)) A2.heap.size := newBox (Nat.zero_le _)
 have s3 : (A2.alloc (.cells #[.int .i64 0, .slice none 0 0] 107)).heap.size = A2.heap.size + 1 := by simp
 replace x1 := x1.keep nb3
 replace x2 := x2.keep nb3
 have R3 := R2.later nb3
 have B3 : Below w.heap.size w (A2.alloc (.cells #[.int .i64 0, .slice none 0 0] 107)) := (nb1.trans (nb2.mono (by omega))).trans (nb3.mono (by omega))
 have HB := yh B3
 rw [s2, s1] at s3 x3
 rw [s1] at x2
 have HX1 := yh x1
 have HX2 := yh x2
 have HX3 := yh x3
 have HR := yh R3
 subst hA2
 subst hA1
 clear nb1 nb2 nb3 x1 x2 x3 R1 R2 R3 B3 s1 s2 h  
 go_enter Tryz.func163, Tryz.ntmps163
 go_upto_region 1 with fail
 generalize ((w.alloc (.cells #[.slice ao xs.length cap] 33)).alloc (.cells #[.int .i64 z] 2)).alloc (.cells #[.int .i64 0, .slice none 0 0] 107) = W1 at *
 have nb : Below W1.heap.size W1 (W1.alloc (.cells #[.int .i64 0] 2)) := (Below.refl _ _).alloc (Nat.le_refl _) _
 have HW := yh (dropWork _ xs z w.heap.size (w.heap.size + 1) _ ((uh HR).later nb)  ((uh HX1).keep nb) ((uh HX2).keep nb))
 have hz : (W1.alloc (.cells #[.int .i64 0] 2)).heap.size = W1.heap.size + 1 := by simp
 have HZ := yh hz
 have HS := yh s3
 clear nb hz s3
 by_cases hf : (dropMR xs z).code = 0
 ·
  have HL := yh (faced_ok_msgs 212 #[.pointer (some ⟨w.heap.size, 0, none⟩), .pointer (some ⟨w.heap.size + 1, 0, none⟩)] W1 (fun v w' => (Lay.sl Lay.tMsg).OwnIn w' [v] (dropMR xs z).msgs (W1.heap.size + 1) w'.heap.size) (fun _ => by rfl) ((uh HW).mono (by
   rintro e w' ⟨he, hb⟩
   obtain ⟨v2, he2, O⟩ := he.1 hf
   rw [uh HZ] at hb O
   exact ⟨v2, he2, O, hb⟩)))
  have HF : Hid (dropMR xs z = ⟨0, (dropMR xs z).msgs⟩) := by
   show dropMR xs z = _
   rw [← hf]
  clear hf HW
  go_wp2_with fail
  refine (uh HL).mono ?_
  rintro e W2 ⟨v, W3, rfl, O, hW, hb, -⟩
  obtain ⟨a9, d9, rfl⟩ := open_sl O.reads
  have hE : Ext (fun q => q = W1.heap.size) W3 W2 := by rw [hW]; exact (Ext.refl (fun q => q = W1.heap.size) _).setCell ⟨W1.heap.size, 0, none⟩ _ rfl
  have hsz : W3.heap.size = W2.heap.size := by rw [hW]; simp
  have hs3 := uh HS
  have O2 := O.ext hE (fun q h1 h2 h3 => by omega)
  rw [hsz] at O2
  replace HX3 := yh ((uh HX3).keep hb)
  replace HB := yh ((uh HB).trans (hb.mono (uh HB).size))
  clear hE hsz O hW
  generalize (dropMR xs z).msgs = ms at *
  have z0 : W2.cell? ⟨w.heap.size + 1 + 1, 0, none⟩ = some (.int .i64 0) := (uh HX3).at 0 _ rfl
  have z1 : W2.cell? ⟨w.heap.size + 1 + 1, 1, none⟩ = some (.slice none 0 0) := (uh HX3).at 1 _ rfl
  have ff := (uh HX3).soft
  have l0 := (uh HX3).lt
  have HB2 := yh (below_setAll (uh HB) (w.heap.size + 1 + 1) 0 [.int .i64 0, .slice a9 ms.length d9] (by omega))
  have HO2 := yh (own_store' (s := w.heap.size + 1 + 1) (vs := [.int .i64 0, .slice a9 ms.length d9]) O2 (by omega))
  have HZ2 : Hid ((setAll W2 (w.heap.size + 1 + 1) 0 [.int .i64 0, .slice a9 ms.length d9]).heap.size = W2.heap.size) := size_setAll _ _ _ _
  have HLE : Hid (w.heap.size ≤ W1.heap.size + 1) := by show w.heap.size ≤ W1.heap.size + 1; omega
  clear hb HL HX1 HX2 HX3 HR HB HZ HS O2 hs3
  go_wp2_with fail
  refine bodyPost_ret (v := .agg #[.int .i64 0, .slice a9 ms.length d9]) (by simp [results, Tryz.results163, go_sem, z0, z1]) rfl ?_
  rw [uh HF]
  exact ⟨[_, _], rfl, own_netR (by decide) ((uh HO2).mono (uh HLE) (Nat.le_of_eq (uh HZ2).symm)), uh HB2⟩
 have HL := yh (faced_bad_msgs 212 #[.pointer (some ⟨w.heap.size, 0, none⟩), .pointer (some ⟨w.heap.size + 1, 0, none⟩)] (dropMR xs z).code W1 (fun _ => by rfl) ((uh HW).mono (by
  rintro e w' ⟨he, hb⟩
  rw [uh HZ] at hb
  exact ⟨he.2 hf, hb⟩)))
 have HF := yh (drop_bad hf)
 have hv := drop_vals xs z
 clear hf HW HZ HS
 go_wp2_with fail
 refine (uh HL).mono ?_
 rintro e W2 ⟨rfl, hb⟩
 replace HX3 := yh ((uh HX3).keep hb)
 replace HB := yh ((uh HB).trans (hb.mono (uh HB).size))
 generalize (dropMR xs z).code = f at *
 have z0 : W2.cell? ⟨w.heap.size + 1 + 1, 0, none⟩ = some (.int .i64 0) := (uh HX3).at 0 _ rfl
 have z1 : W2.cell? ⟨w.heap.size + 1 + 1, 1, none⟩ = some (.slice none 0 0) := (uh HX3).at 1 _ rfl
 have ff := (uh HX3).soft
 have l0 := (uh HX3).lt
 have HB2 := yh (below_setAll (uh HB) (w.heap.size + 1 + 1) 0 [.int .i64 f, .slice none 0 0] (by omega))
 clear hb HL HX1 HX2 HX3 HR HB
 go_wp2_with fail
 refine bodyPost_ret (v := .agg #[.int .i64 f, .slice none 0 0]) (by simp [results, Tryz.results163, go_sem, z0, z1]) rfl ?_
 rw [uh HF]
 exact ⟨[_, _], rfl, own_badNet (by omega), uh HB2⟩
abbrev o203x1 : Oper := ⟨some 11, .call { callee := .value (.func 163), args := #[.tmp 9, .tmp 10], argTypes := #[33, 2] }, 107, "l13_master.go:126", #[⟨3, .data⟩, ⟨4, .data⟩], none⟩
abbrev o203x2 : Oper := ⟨some 5, .alloc 107, 0, "l13_master.go:126", #[], none⟩
abbrev o203x3 : Oper := ⟨none, .store 107 (.tmp 5) (.tmp 11), 0, "l13_master.go:126", #[⟨6, .data⟩, ⟨5, .data⟩, ⟨5, .chain⟩, ⟨0, .phase⟩, ⟨1, .phase⟩, ⟨2, .phase⟩, ⟨3, .phase⟩, ⟨4, .phase⟩, ⟨5, .phase⟩, ⟨6, .phase⟩], none⟩
theorem own_netR_parts {w : World} {cs : List Value} {r : DNetResult} {lo hi : Nat} (h : Lay.tNetResult.OwnIn w cs r lo hi) : ∃ (a : Option Addr) (m d : Nat), cs = [.int .i64 r.code, .slice a m d] ∧ (Lay.sl Lay.tMsg).OwnIn w [.slice a m d] r.msgs lo hi := by
 obtain ⟨bl, O, hb⟩ := h
 obtain ⟨a, d, g, rfl, rfl, Om, -⟩ := own_NetResult O
 exact ⟨a, _, d, rfl, ⟨_, Om, hb⟩⟩
theorem loseStepC (L p : Nat) (i : Int) (y : DWorld) (W : World) (hp : Box 0 #[.int .i64 i] 2 W p) (_ : p < L) :
  StepC L 162 #[.pointer (some ⟨p, 0, none⟩)] y (dropMR y.msgs i).code true (withMsgs y (dropMR y.msgs i).msgs) W := by
 intro g lo v3 v4 v5 v6 hL hg hlo hO
 show Calls Tryz.prog 162 #[.pointer (some ⟨g, 0, none⟩), .pointer (some ⟨p, 0, none⟩)] W _
 obtain ⟨_, _, _, _, a5o, d5o, _, _, hq, -, -, RM, -⟩ := open_World hO.reads
 simp only [List.cons.injEq, and_true, true_and] at hq
 obtain ⟨-, -, rfl, -⟩ := hq
 have g5c := Box.at hg 5 _ rfl
 have hp0 := Box.at hp 0 _ rfl
 simp only [ga, gb, gc] at g5c hp0
 have hgl := hg.lt
 have hpl := hp.lt
 have HM := yh RM
 have HG0 := yh hg
 have HO := yh hO
 have HCB := yh (dropMR_bd y.msgs i)
 clear hp hg hO RM
 go_enter Tryz.func162, Tryz.ntmps162
 go_upto_region 1 with fail
 go_cut [5] from 6 to 11 (fun s5 wx => ∃ (wz : World) (g5 : Nat), ∃ a5, ∃ m5, ∃ d5, wz = wx ∧ s5 = .pointer (some ⟨g5, 0, none⟩) ∧ Box 0 #[.int .i64 (dropMR y.msgs i).code, .slice a5 m5 d5] 107 wz g5 ∧ (Lay.sl Lay.tMsg).OwnIn wz [.slice a5 m5 d5] (dropMR y.msgs i).msgs W.heap.size wz.heap.size ∧ W.heap.size ≤ g5 ∧ Below W.heap.size W wz)
 case first =>
  have HDS : W.heap.size ≤ W.drew.heap.size := Nat.le_refl _
  refine wp_region_noPanic ?_
  refine wp_region_held_drew (S := fun w' => Below W.heap.size W w') (by kernel_rfl) ((Below.refl _ _).drew) (fun zq => ?_)
  generalize W.drew = wD at zq HDS ⊢
  refine tkH (i := 0) (oi := ⟨some 6, .move (.tmp 0), 58, "l13_master.go:126", #[], none⟩) (v := ?vk0_1) rfl ?hk0_1 zq ?rk0_1
  case hk0_1 => intro _ _; go_simp; try with_reducible rfl
  refine tkH (i := 1) (oi := ⟨some 7, .nilCheck (.tmp 6), 0, "l13_master.go:126", #[⟨0, .data⟩], none⟩) (v := ?vk1_2) rfl ?hk1_2 zq ?rk1_2
  case hk1_2 => intro _ _; go_simp; try with_reducible rfl
  refine tkH (i := 2) (oi := ⟨some 8, .fieldAddr 36 (.tmp 7) 4, 0, "l13_master.go:126", #[⟨1, .data⟩], none⟩) (v := ?vk2_3) rfl ?hk2_3 zq ?rk2_3
  case hk2_3 => intro _ _; go_simp; try with_reducible rfl
  refine tkH (i := 3) (oi := ⟨some 9, .load 33 (.tmp 8), 33, "l13_master.go:126", #[⟨2, .data⟩], none⟩) (v := ?vk3_4) rfl ?hk3_4 zq ?rk3_4
  case hk3_4 =>
   intro wS hSw
   have q5 := (hSw.cell (p := ⟨g, 5, none⟩) hgl).trans g5c
   clear hSw
   (try dsimp only at hSw)
   go_simp
   try with_reducible rfl
  refine tkH (i := 4) (oi := ⟨some 10, .load 2 (.tmp 1), 2, "l13_master.go:126", #[], none⟩) (v := ?vk4_5) rfl ?hk4_5 zq ?rk4_5
  case hk4_5 =>
   intro wS hSw
   have q0 := (hSw.cell (p := ⟨p, 0, none⟩) hpl).trans hp0
   clear hSw
   (try dsimp only at hSw)
   go_simp
   try with_reducible rfl
  refine wpAnyH_ready (rs := [5, 6]) (by kernel_rfl) (by simp) ?_
  refine AllReadyH.cons (o := o203x1) rfl (fun K hK => ?ok5_6) (AllReadyH.cons (o := o203x2) rfl (fun K hK => ?ok6_6) (AllReadyH.nil))
  case ok5_6 =>
   go_simp
   go_at_call 163
   refine (implDropMsg _ y.msgs i _ ((uh HM).later zq)).mono ?_
   rintro e u ⟨us, rfl, O0, hbu⟩
   obtain ⟨a5, m5, d5, rfl, O⟩ := own_netR_parts O0
   have hzu := hbu.size
   try go_wp2_with fail
   refine hK.out _ _ (zq.trans (hbu.mono zq.size)) (fun zq => ?_)
   clear hK K
   try simp only [Act.put, pz, py, px]
   refine rdH (i := 6) (oi := o203x2) rfl (fun K hK => ?_)
   have hHA := zq
   go_simp
   refine hK.out _ _ (zq.alloc zq.size _) (fun zq => ?_)
   clear hK K
   try simp only [Act.put, pz, py, px]
   refine rdH (i := 7) (oi := o203x3) rfl (fun K hK => ?_)
   go_simp
   refine hK.out _ _ (hHA.alloc hHA.size _) (fun zq => ?_)
   clear hK K
   try simp only [Act.put, pz, py, px]
   refine wpAnyH_done (by kernel_rfl) ?_ _
   refine NoPanic.normal ?_
   go_wp2_with fail
   go_meet
   have nb2 : Below u.heap.size u (u.alloc (.cells #[.int .i64 (dropMR y.msgs i).code, .slice a5 m5 d5] 107)) := (Below.refl _ _).alloc (Nat.le_refl _) _
   have hzn : u.heap.size < (u.alloc (.cells #[.int .i64 (dropMR y.msgs i).code, .slice a5 m5 d5] 107)).heap.size := by simp
   have hzz := hHA.size
   have OO := (show (Lay.sl Lay.tMsg).OwnIn (u.alloc (.cells #[.int .i64 (dropMR y.msgs i).code, .slice a5 m5 d5] 107)) [.slice a5 m5 d5] (dropMR y.msgs i).msgs W.heap.size (u.alloc (.cells #[.int .i64 (dropMR y.msgs i).code, .slice a5 m5 d5] 107)).heap.size from ((O.later nb2).mono (by omega) (by omega)))
   exact ⟨_, u.heap.size, a5, m5, d5, rfl, rfl, newBox (Nat.zero_le _), OO, by omega, zq⟩
  case ok6_6 =>
   have HG : Hid (Box 0 #[.int .i64 0, .slice none 0 0] 107 (wD.alloc (.cells #[.int .i64 0, .slice none 0 0] 107)) wD.heap.size) := newBox (Nat.zero_le _)
   have hza : wD.heap.size < (wD.alloc (.cells #[.int .i64 0, .slice none 0 0] 107)).heap.size := by simp
   go_simp
   refine hK.out _ _ (zq.alloc zq.size _) (fun zq => ?_)
   clear hK K
   try simp only [Act.put, pz, py, px]
   refine rdH (i := 5) (oi := o203x1) rfl (fun K hK => ?_)
   go_simp
   go_at_call 163
   refine (implDropMsg _ y.msgs i _ ((uh HM).later zq)).mono ?_
   rintro e u ⟨us, rfl, O0, hbu⟩
   obtain ⟨a5, m5, d5, rfl, O⟩ := own_netR_parts O0
   have hG := (uh HG).keep hbu
   have hzu := hbu.size
   try go_wp2_with fail
   refine hK.out _ _ (zq.trans (hbu.mono zq.size)) (fun zq => ?_)
   clear hK K
   try simp only [Act.put, pz, py, px]
   refine rdH (i := 7) (oi := o203x3) rfl (fun K hK => ?_)
   have r0 := Box.at hG 0 _ rfl
   have r1 := Box.at hG 1 _ rfl
   simp only [ga, gb, gc] at r0 r1
   have rf := Box.soft hG
   have rl := hG.lt
   have hzD := zq.size
   go_simp
   refine hK.out _ _ (Below.setCell (Below.setCell zq (p := ⟨wD.heap.size, 0, none⟩) (by simp only []; omega) (.int .i64 (dropMR y.msgs i).code)) (p := ⟨wD.heap.size, 1, none⟩) (by simp only []; omega) (.slice a5 m5 d5)) (fun zq => ?_)
   clear hK K
   try simp only [Act.put, pz, py, px]
   refine wpAnyH_done (by kernel_rfl) ?_ _
   refine NoPanic.normal ?_
   go_wp2_with fail
   go_meet
   have e1 : Ext (fun q => q = wD.heap.size) u (setAll u wD.heap.size 0 [.int .i64 (dropMR y.msgs i).code, .slice a5 m5 d5]) := ext_setAll _ (Ext.refl _ _) _ _ _ rfl
   have hss : (setAll u wD.heap.size 0 [.int .i64 (dropMR y.msgs i).code, .slice a5 m5 d5]).heap.size = u.heap.size := size_setAll _ _ _ _
   have hbx := (Box.set (Box.set hG 0 (.int .i64 (dropMR y.msgs i).code)) 1 (.slice a5 m5 d5))
   simp only [List.setIfInBounds_toArray, List.set_cons_zero, List.set_cons_succ] at hbx
   have OO := (show (Lay.sl Lay.tMsg).OwnIn (setAll u wD.heap.size 0 [.int .i64 (dropMR y.msgs i).code, .slice a5 m5 d5]) [.slice a5 m5 d5] (dropMR y.msgs i).msgs W.heap.size (setAll u wD.heap.size 0 [.int .i64 (dropMR y.msgs i).code, .slice a5 m5 d5]).heap.size from ((O.ext e1 (fun k h1 h2 h3 => by omega)).mono (by omega) (by omega)))
   exact ⟨_, wD.heap.size, a5, m5, d5, rfl, rfl, hbx, OO, by omega, zq⟩
 case rest =>
  obtain ⟨WC, g5, a5, m5, d5, hW, rfl, hg5, hO5, hz5, hB5⟩ := hcut
  subst hW
  have hgC := (uh HG0).keep hB5
  have hOC := wown_msgs (uh HO) hB5 hgl (by omega) hO5 (Nat.le_refl _)
  have HGC := yh hgC
  have HOC := yh hOC
  have HB5 := yh hB5
  have e0 := Box.at hg5 0 _ rfl
  have e1 := Box.at hg5 1 _ rfl
  simp only [ga, gb, gc] at e0 e1
  have hg5l := hg5.lt
  clear hgC hOC hO5 HO HG0 HM g5c hp0
  by_cases hc : (dropMR y.msgs i).code = 0
  ·
   have HC := yh hc
   rw [hc] at e0
   have k5 := Box.at (uh HGC) 5 _ rfl
   simp only [ga, gb, gc] at k5
   have kl := (uh HGC).lt
   have kf := Box.soft (uh HGC)
   have hg9 := Box.set (uh HGC) 5 (.slice a5 m5 d5)
   simp only [List.setIfInBounds_toArray, List.set_cons_zero, List.set_cons_succ] at hg9
   have e9 : Ext (fun q => q = g) WC (WC.setCell ⟨g, 5, none⟩ (.slice a5 m5 d5)) := (Ext.refl _ _).setCell _ _ rfl
   have hO9 := (uh HOC).ext e9 (fun k h1 h2 h3 => h3)
   have HG9 := yh hg9
   have HO9 := yh hO9
   have HE9 := yh (((extB_of_below (uh HB5)).mono (fun k hk q => by omega)).trans (e9.mono (fun k hk q => by omega)) : Ext (fun q => lo ≤ q) W (WC.setCell ⟨g, 5, none⟩ (.slice a5 m5 d5)))
   clear hg9 e9 hO9 HGC HOC HB5 hg5 hB5 hc
   go_wp2_with fail
   go_ret2
   exact ⟨true, by rw [uh HC]; rfl, fun _ => ⟨rfl, _, _, _, _, uh HG9, uh HO9⟩, uh HE9⟩
  have hd : ((dropMR y.msgs i).code != 0) = true := by simpa using hc
  have HC := yh hc
  have HE9 := yh ((extB_of_below (uh HB5)).mono (fun k hk q => by omega) : Ext (fun q => lo ≤ q) W WC)
  clear HGC HOC HB5 hg5 hB5 hc
  go_upto_region 3 with fail
  go_quiet (fail)
  go_wp2_with fail
  go_ret2
  exact ⟨false, rfl, fun h0 => absurd h0 (uh HC), (uh HE9).drew _⟩
theorem loseMake (i : Int) (w : World) :
  Calls Tryz.prog 91 #[.int .i64 i] w fun e w' => e = .returned (.func (.func 162) #[] #[.pointer (some ⟨w.heap.size, 0, none⟩)]) ∧ w' = (w.alloc (.cells #[.int .i64 i] 2)) := by
 have hmf : ∀ (fn : Fn) (first cap : Array Value) (w : World), (Instr.makeFunc fn first cap).run Tryz.prog w = .ok (.func fn first cap) w := fun _ _ _ _ => rfl
 go_enter Tryz.func91, Tryz.ntmps91
 go_wp2_with fail
 go_ret
 exact ⟨rfl, rfl⟩
theorem implLoseWorld (cs : List Value) (x : DWorld) (i : Int) (w : World) (h : Lay.tWorld.Reads w cs x) (hf : Fits x) :
  Calls Tryz.prog 40 #[.agg cs.toArray, .int .i64 i] w fun e w' => ∃ cs', e = .returned (.agg cs'.toArray) ∧ Lay.tWorldResult.OwnIn w' cs' (loseWR x i) w.heap.size w'.heap.size ∧ Below w.heap.size w w' := by
 obtain ⟨a3, d3, a4, d4, a5, d5, a6, d6, rfl, -, -, -, -⟩ := open_World h
 have nb1 : Below w.heap.size w (w.alloc (.cells #[.int .i64 x.now, .int .i64 x.events, .int .i64 x.chain.epoch, .slice a3 x.chain.ids.length d3, .slice a4 x.nodes.length d4, .slice a5 x.msgs.length d5, .slice a6 x.history.length d6] 36)) := (Below.refl _ _).alloc (Nat.le_refl _) _
 have nb : Below w.heap.size w ((w.alloc (.cells #[.int .i64 x.now, .int .i64 x.events, .int .i64 x.chain.epoch, .slice a3 x.chain.ids.length d3, .slice a4 x.nodes.length d4, .slice a5 x.msgs.length d5, .slice a6 x.history.length d6] 36)).alloc (.cells #[.int .i64 0, .bool false, .int .i64 0, .int .i64 0, .int .i64 0, .slice none 0 0, .slice none 0 0, .slice none 0 0, .slice none 0 0] 38)) := nb1.alloc (by simp) _
 have HX : Hid (Box 0 #[.int .i64 x.now, .int .i64 x.events, .int .i64 x.chain.epoch, .slice a3 x.chain.ids.length d3, .slice a4 x.nodes.length d4, .slice a5 x.msgs.length d5, .slice a6 x.history.length d6] 36 ((w.alloc (.cells #[.int .i64 x.now, .int .i64 x.events, .int .i64 x.chain.epoch, .slice a3 x.chain.ids.length d3, .slice a4 x.nodes.length d4, .slice a5 x.msgs.length d5, .slice a6 x.history.length d6] 36)).alloc (.cells #[.int .i64 0, .bool false, .int .i64 0, .int .i64 0, .int .i64 0, .slice none 0 0, .slice none 0 0, .slice none 0 0, .slice none 0 0] 38)) w.heap.size) := (newBox (Nat.zero_le _)).grow _
 have HY : Hid (Box 0 #[.int .i64 0, .bool false, .int .i64 0, .int .i64 0, .int .i64 0, .slice none 0 0, .slice none 0 0, .slice none 0 0, .slice none 0 0] 38 ((w.alloc (.cells #[.int .i64 x.now, .int .i64 x.events, .int .i64 x.chain.epoch, .slice a3 x.chain.ids.length d3, .slice a4 x.nodes.length d4, .slice a5 x.msgs.length d5, .slice a6 x.history.length d6] 36)).alloc (.cells #[.int .i64 0, .bool false, .int .i64 0, .int .i64 0, .int .i64 0, .slice none 0 0, .slice none 0 0, .slice none 0 0, .slice none 0 0] 38)) (w.heap.size + 1)) := newBoxAt (Nat.zero_le _) (by simp)
 have hz0 : ((w.alloc (.cells #[.int .i64 x.now, .int .i64 x.events, .int .i64 x.chain.epoch, .slice a3 x.chain.ids.length d3, .slice a4 x.nodes.length d4, .slice a5 x.msgs.length d5, .slice a6 x.history.length d6] 36)).alloc (.cells #[.int .i64 0, .bool false, .int .i64 0, .int .i64 0, .int .i64 0, .slice none 0 0, .slice none 0 0, .slice none 0 0, .slice none 0 0] 38)).heap.size = w.heap.size + 2 := by simp
 have HR := yh (h.later nb)
 have HB := yh nb
 have HFT := yh hf
 clear nb1 nb h hf
 go_enter Tryz.func40, Tryz.ntmps40
 go_upto_region 1 with fail
 generalize (w.alloc (.cells #[.int .i64 x.now, .int .i64 x.events, .int .i64 x.chain.epoch, .slice a3 x.chain.ids.length d3, .slice a4 x.nodes.length d4, .slice a5 x.msgs.length d5, .slice a6 x.history.length d6] 36)).alloc (.cells #[.int .i64 0, .bool false, .int .i64 0, .int .i64 0, .int .i64 0, .slice none 0 0, .slice none 0 0, .slice none 0 0, .slice none 0 0] 38) = W1 at *
 have LI : Hid (∀ V, Below W1.heap.size W1 V → Calls Tryz.prog 80 #[.agg #[.int .i64 x.now, .int .i64 x.events, .int .i64 x.chain.epoch, .slice a3 x.chain.ids.length d3, .slice a4 x.nodes.length d4, .slice a5 x.msgs.length d5, .slice a6 x.history.length d6]] V fun e w' => e = .returned (.int .i64 (worldFault x)) ∧ Below V.heap.size V w') := fun V hV => implWorldFault _ x V ((uh HR).later hV)
 have LS : Hid (∀ V, Below W1.heap.size W1 V → Calls Tryz.prog 56 #[.agg #[.int .i64 x.now, .int .i64 x.events, .int .i64 x.chain.epoch, .slice a3 x.chain.ids.length d3, .slice a4 x.nodes.length d4, .slice a5 x.msgs.length d5, .slice a6 x.history.length d6], .int .i64 (worldFault x), .func (.func 162) #[] #[.pointer (some ⟨V.heap.size, 0, none⟩)]] (V.alloc (.cells #[.int .i64 i] 2)) fun e w' => ∃ cs', e = .returned (.agg cs'.toArray) ∧ Lay.tWorldResult.OwnIn w' cs' (loseWR x i) V.heap.size w'.heap.size ∧ Below V.heap.size V w') := by
  intro V hV
  have nv : Below V.heap.size V (V.alloc (.cells #[.int .i64 i] 2)) := (Below.refl _ _).alloc (Nat.le_refl _) _
  refine (steppedC 162 _ _ x (worldFault x) (dropMR x.msgs i).code true (withMsgs (nextW x) (dropMR x.msgs i).msgs) _ (fun a W => rfl) ((uh HR).later (hV.trans (nv.mono hV.size))) (fun h0 => worldFault_zero h0) (uh HFT) (dropMR_bd _ _) (by have := wf_vals x; omega) (fun h0 W hW => ?_)).mono ?_
  ·
   have hok := worldFault_zero h0
   exact loseStepC _ (V.heap.size) i (nextW x) W (Box.keep (newBox (Nat.zero_le _)) hW) (by simp)
  rintro e w' ⟨cs', rfl, O, hb⟩
  rw [loseW_eq] at O
  exact ⟨cs', rfl, O.mono nv.size (Nat.le_refl _), nv.trans (hb.mono nv.size)⟩
 have hx := uh HX
 have hxl := hx.lt
 have HD : Hid (Below W1.heap.size W1 W1.drew) := (Below.refl _ _).drew
 replace HY : Hid (Box 0 #[.int .i64 0, .bool false, .int .i64 0, .int .i64 0, .int .i64 0, .slice none 0 0, .slice none 0 0, .slice none 0 0, .slice none 0 0] 38 W1.drew (w.heap.size + 1)) := (uh HY)
 refine wp_region_noPanic ?_
 refine wp_region_held_drew (S := fun w' => Ext (fun q => w.heap.size < q) W1 w') (by kernel_rfl) ((Ext.refl _ _).drew 1) (fun zq => ?_)
 generalize W1.drew = wD at zq HD HY ⊢
 refine tkH (i := 0) (oi := ⟨some 5, .load 36 (.tmp 2), 36, "l13_master.go:152", #[], none⟩) (v := ?vf0) rfl ?hf0 zq ?rf0
 case hf0 =>
  intro wS hSw
  have bS := hx.ext hSw (fun e => Nat.lt_irrefl _ e)
  have q0 := Box.at bS 0 _ rfl
  have q1 := Box.at bS 1 _ rfl
  have q2 := Box.at bS 2 _ rfl
  have q3 := Box.at bS 3 _ rfl
  have q4 := Box.at bS 4 _ rfl
  have q5 := Box.at bS 5 _ rfl
  have q6 := Box.at bS 6 _ rfl
  simp only [ga, gb, gc] at q0 q1 q2 q3 q4 q5 q6
  clear bS hSw
  (try dsimp only at hSw)
  go_simp
  try with_reducible rfl
 refine tkH (i := 1) (oi := ⟨some 6, .load 36 (.tmp 2), 36, "l13_master.go:152", #[], none⟩) (v := ?vf1) rfl ?hf1 zq ?rf1
 case hf1 =>
  intro wS hSw
  have bS := hx.ext hSw (fun e => Nat.lt_irrefl _ e)
  have q0 := Box.at bS 0 _ rfl
  have q1 := Box.at bS 1 _ rfl
  have q2 := Box.at bS 2 _ rfl
  have q3 := Box.at bS 3 _ rfl
  have q4 := Box.at bS 4 _ rfl
  have q5 := Box.at bS 5 _ rfl
  have q6 := Box.at bS 6 _ rfl
  simp only [ga, gb, gc] at q0 q1 q2 q3 q4 q5 q6
  clear bS hSw
  (try dsimp only at hSw)
  go_simp
  try with_reducible rfl
 refine tkH (i := 3) (oi := ⟨some 8, .move (.tmp 1), 2, "l13_master.go:152", #[], none⟩) (v := ?vf3) rfl ?hf3 zq ?rf3
 case hf3 => intro _ _; go_simp; try with_reducible rfl
 refine rdH (i := 2) (oi := ⟨some 7, .call { callee := .value (.func 80), args := #[.tmp 6], argTypes := #[36] }, 2, "l13_master.go:152", #[⟨1, .data⟩], none⟩) rfl (fun K hK => ?_)
 go_simp
 go_at_call 80
 refine (uh LI _ (uh HD)).mono ?_
 rintro e u1 ⟨rfl, hb1⟩
 have HD1 := yh ((uh HD).trans (hb1.mono (uh HD).size))
 have HY1 := yh ((uh HY).keep hb1)
 try go_wp2_with fail
 have hH1 := zq.trans (ext_of_below hb1 (fun q => w.heap.size < q))
 refine hK.out _ _ (zq.trans (ext_of_below hb1 _)) (fun zq => ?_)
 clear hK K
 try simp only [Act.put, pz, py, px]
 refine rdH (i := 4) (oi := ⟨some 9, .call { callee := .value (.func 91), args := #[.tmp 8], argTypes := #[2] }, 74, "l13_master.go:152", #[⟨3, .data⟩, ⟨2, .chain⟩], none⟩) rfl (fun K hK => ?_)
 go_simp
 go_at_call 91
 refine (loseMake i _).mono ?_
 rintro e u2 ⟨rfl, rfl⟩
 try go_wp2_with fail
 refine hK.out _ _ (zq.trans (ext_of_below ((Below.refl _ _).alloc (Nat.le_refl _) _) _)) (fun zq => ?_)
 clear hK K
 try simp only [Act.put, pz, py, px]
 refine rdH (i := 5) (oi := ⟨some 10, .call { callee := .value (.func 56), args := #[.tmp 5, .tmp 7, .tmp 9], argTypes := #[36, 2, 74] }, 38, "l13_master.go:152", #[⟨0, .data⟩, ⟨2, .data⟩, ⟨4, .data⟩, ⟨4, .chain⟩], none⟩) rfl (fun K hK => ?_)
 go_simp
 go_at_call 56
 refine (uh LS u1 (uh HD1)).mono ?_
 rintro e u3 ⟨cs, rfl, O, hb3⟩
 obtain ⟨a5r, d5r, a6r, d6r, a7r, d7r, a8r, d8r, rfl, -⟩ := open_WorldResult O.reads
 have hy := (uh HY1).keep hb3
 try go_wp2_with fail
 refine hK.out _ _ (hH1.trans (ext_of_below hb3 _)) (fun zq => ?_)
 clear hK K
 try simp only [Act.put, pz, py, px]
 refine rdH (i := 6) (oi := ⟨none, .store 38 (.tmp 4) (.tmp 10), 0, "l13_master.go:152", #[⟨5, .data⟩, ⟨5, .chain⟩, ⟨0, .phase⟩, ⟨1, .phase⟩, ⟨2, .phase⟩, ⟨3, .phase⟩, ⟨4, .phase⟩, ⟨5, .phase⟩], none⟩) rfl (fun K hK => ?_)
 generalize hyr : loseWR x i = yr at *
 have HYR := yh hyr
 clear hyr
 have r0 := Box.at hy 0 _ rfl
 have r1 := Box.at hy 1 _ rfl
 have r2 := Box.at hy 2 _ rfl
 have r3 := Box.at hy 3 _ rfl
 have r4 := Box.at hy 4 _ rfl
 have r5 := Box.at hy 5 _ rfl
 have r6 := Box.at hy 6 _ rfl
 have r7 := Box.at hy 7 _ rfl
 have r8 := Box.at hy 8 _ rfl
 simp only [ga, gb, gc] at r0 r1 r2 r3 r4 r5 r6 r7 r8
 have rf := Box.soft hy
 have rl := hy.lt
 go_simp
 refine hK.out _ _ (Ext.setCell (Ext.setCell (Ext.setCell (Ext.setCell (Ext.setCell (Ext.setCell (Ext.setCell (Ext.setCell (Ext.setCell zq ⟨w.heap.size + 1, 0, none⟩ (.int .i64 yr.code) (Nat.lt_succ_self _)) ⟨w.heap.size + 1, 1, none⟩ (.bool yr.moved) (Nat.lt_succ_self _)) ⟨w.heap.size + 1, 2, none⟩ (.int .i64 yr.world.now) (Nat.lt_succ_self _)) ⟨w.heap.size + 1, 3, none⟩ (.int .i64 yr.world.events) (Nat.lt_succ_self _)) ⟨w.heap.size + 1, 4, none⟩ (.int .i64 yr.world.chain.epoch) (Nat.lt_succ_self _)) ⟨w.heap.size + 1, 5, none⟩ (.slice a5r yr.world.chain.ids.length d5r) (Nat.lt_succ_self _)) ⟨w.heap.size + 1, 6, none⟩ (.slice a6r yr.world.nodes.length d6r) (Nat.lt_succ_self _)) ⟨w.heap.size + 1, 7, none⟩ (.slice a7r yr.world.msgs.length d7r) (Nat.lt_succ_self _)) ⟨w.heap.size + 1, 8, none⟩ (.slice a8r yr.world.history.length d8r) (Nat.lt_succ_self _)) (fun zq => ?_)
 clear hK K
 try simp only [Act.put, pz, py, px]
 refine wpAnyH_done (by kernel_rfl) ?_ _
 refine NoPanic.normal ?_
 have hy9 := box_set9W hy (.int .i64 yr.code) (.bool yr.moved) (.int .i64 yr.world.now) (.int .i64 yr.world.events) (.int .i64 yr.world.chain.epoch) (.slice a5r yr.world.chain.ids.length d5r) (.slice a6r yr.world.nodes.length d6r) (.slice a7r yr.world.msgs.length d7r) (.slice a8r yr.world.history.length d8r)
 have e2 : Ext (fun q => q = w.heap.size + 1) u3 (setAll u3 (w.heap.size + 1) 0 [.int .i64 yr.code, .bool yr.moved, .int .i64 yr.world.now, .int .i64 yr.world.events, .int .i64 yr.world.chain.epoch, .slice a5r yr.world.chain.ids.length d5r, .slice a6r yr.world.nodes.length d6r, .slice a7r yr.world.msgs.length d7r, .slice a8r yr.world.history.length d8r]) := ext_setAll _ (Ext.refl _ _) _ _ _ rfl
 have hs1 := hb1.size
 have hs2 := (uh HB).size
 have hs3 := (uh HD).size
 have HO := yh (O.ext e2 (fun q h1 h2 h3 => by omega))
 have HB9 := yh (below_setAll (((uh HB).trans ((uh HD1).mono (uh HB).size)).trans (hb3.mono (by omega))) (w.heap.size + 1) 0 [.int .i64 yr.code, .bool yr.moved, .int .i64 yr.world.now, .int .i64 yr.world.events, .int .i64 yr.world.chain.epoch, .slice a5r yr.world.chain.ids.length d5r, .slice a6r yr.world.nodes.length d6r, .slice a7r yr.world.msgs.length d7r, .slice a8r yr.world.history.length d8r] (by omega))
 have hsz : Hid ((setAll u3 (w.heap.size + 1) 0 [.int .i64 yr.code, .bool yr.moved, .int .i64 yr.world.now, .int .i64 yr.world.events, .int .i64 yr.world.chain.epoch, .slice a5r yr.world.chain.ids.length d5r, .slice a6r yr.world.nodes.length d6r, .slice a7r yr.world.msgs.length d7r, .slice a8r yr.world.history.length d8r]).heap.size = u3.heap.size) := size_setAll _ _ _ _
 clear r0 r1 r2 r3 r4 r5 r6 r7 r8 rf rl
 have r0 := Box.at hy9 0 _ rfl
 have r1 := Box.at hy9 1 _ rfl
 have r2 := Box.at hy9 2 _ rfl
 have r3 := Box.at hy9 3 _ rfl
 have r4 := Box.at hy9 4 _ rfl
 have r5 := Box.at hy9 5 _ rfl
 have r6 := Box.at hy9 6 _ rfl
 have r7 := Box.at hy9 7 _ rfl
 have r8 := Box.at hy9 8 _ rfl
 simp only [ga, gb, gc] at r0 r1 r2 r3 r4 r5 r6 r7 r8
 clear hy hy9 zq e2 O hb3 hb1
 go_wp2_with fail
 refine bodyPost_ret (v := .agg #[.int .i64 yr.code, .bool yr.moved, .int .i64 yr.world.now, .int .i64 yr.world.events, .int .i64 yr.world.chain.epoch, .slice a5r yr.world.chain.ids.length d5r, .slice a6r yr.world.nodes.length d6r, .slice a7r yr.world.msgs.length d7r, .slice a8r yr.world.history.length d8r]) (by simp only [setAll] at r0 r1 r2 r3 r4 r5 r6 r7 r8; simp [results, Tryz.results40, go_sem, r0, r1, r2, r3, r4, r5, r6, r7, r8]) rfl ?_
 rw [uh HYR]
 exact ⟨_, rfl, (uh HO).mono (by omega) (Nat.le_of_eq (uh hsz).symm), uh HB9⟩
theorem lawLoseWorld (cs : List Value) (x : DWorld) (i : Int) (w : World) (h : Lay.tWorld.Reads w cs x) :
  Calls Tryz.prog 12 #[.agg cs.toArray, .int .i64 i] w fun e w' => e = .returned (.bool true) ∧ Below w.heap.size w w' := by
 by_cases hn : Lay.tWorld.sz x ≤ 1048576
 ·
  refine lawx_LoseWorld cs x i (loseWR x i) w h hn (fun W a ha => specLoseWorld a x i W ha (fits_of_sz hn)) (fun W a ha => implLoseWorld a x i W ha (fits_of_sz hn)) (loseWR_few hn)
 exact lawover_LoseWorld cs x i w h (by omega)
theorem opens_Chain : Opens Lay.tChain 24 := by
 intro H enc W base spare held fuel cs x h
 obtain ⟨xs, n, _, _, hlen, hl, hfi⟩ := DataW.trod_struct Tryz.underlying24 h
 rw [show Tryz.prog.cellsOf 24 = 2 by kernel_rfl] at hlen
 match cs, hlen with
 | [c0, c1], _ =>
 match xs, hl with
 | [y0, y1], _ =>
 have z0 : Tryz.prog.cellsOf 2 = 1 := by kernel_rfl
 have z1 : Tryz.prog.cellsOf 22 = 1 := by kernel_rfl
 have f0 : DataW.trod enc Tryz.prog W base spare held n 2 (([c0, c1].drop 0).take (Tryz.prog.cellsOf 2)) = some y0 := hfi 0 _ rfl
 rw [z0] at f0
 obtain ⟨d0, r0⟩ := (opens_int Tryz.underlying2) enc W base spare held n _ _ f0
 have f1 : DataW.trod enc Tryz.prog W base spare held n 22 (([c0, c1].drop 1).take (Tryz.prog.cellsOf 22)) = some y1 := hfi 1 _ rfl
 rw [z1] at f1
 obtain ⟨d1, r1⟩ := (opens_sl Tryz.underlying22 (by kernel_rfl) (by decide) (opens_int Tryz.underlying2)) enc W base spare held n _ _ f1
 exact ⟨⟨d0, d1⟩, (reads_pair r0 r1)⟩
theorem opens_Write : Opens Lay.tWrite 116 := by
 intro H enc W base spare held fuel cs x h
 obtain ⟨xs, n, _, _, hlen, hl, hfi⟩ := DataW.trod_struct Tryz.underlying116 h
 rw [show Tryz.prog.cellsOf 116 = 5 by kernel_rfl] at hlen
 match cs, hlen with
 | [c0, c1, c2, c3, c4], _ =>
 match xs, hl with
 | [y0, y1, y2, y3, y4], _ =>
 have z0 : Tryz.prog.cellsOf 2 = 1 := by kernel_rfl
 have z1 : Tryz.prog.cellsOf 22 = 1 := by kernel_rfl
 have f0 : DataW.trod enc Tryz.prog W base spare held n 2 (([c0, c1, c2, c3, c4].drop 0).take (Tryz.prog.cellsOf 2)) = some y0 := hfi 0 _ rfl
 rw [z0] at f0
 obtain ⟨d0, r0⟩ := (opens_int Tryz.underlying2) enc W base spare held n _ _ f0
 have f1 : DataW.trod enc Tryz.prog W base spare held n 2 (([c0, c1, c2, c3, c4].drop 1).take (Tryz.prog.cellsOf 2)) = some y1 := hfi 1 _ rfl
 rw [z0] at f1
 obtain ⟨d1, r1⟩ := (opens_int Tryz.underlying2) enc W base spare held n _ _ f1
 have f2 : DataW.trod enc Tryz.prog W base spare held n 22 (([c0, c1, c2, c3, c4].drop 2).take (Tryz.prog.cellsOf 22)) = some y2 := hfi 2 _ rfl
 rw [z1] at f2
 obtain ⟨d2, r2⟩ := (opens_sl Tryz.underlying22 (by kernel_rfl) (by decide) (opens_int Tryz.underlying2)) enc W base spare held n _ _ f2
 have f3 : DataW.trod enc Tryz.prog W base spare held n 2 (([c0, c1, c2, c3, c4].drop 3).take (Tryz.prog.cellsOf 2)) = some y3 := hfi 3 _ rfl
 rw [z0] at f3
 obtain ⟨d3, r3⟩ := (opens_int Tryz.underlying2) enc W base spare held n _ _ f3
 have f4 : DataW.trod enc Tryz.prog W base spare held n 2 (([c0, c1, c2, c3, c4].drop 4).take (Tryz.prog.cellsOf 2)) = some y4 := hfi 4 _ rfl
 rw [z0] at f4
 obtain ⟨d4, r4⟩ := (opens_int Tryz.underlying2) enc W base spare held n _ _ f4
 exact ⟨⟨d0, d1, d2, d3, d4⟩, (reads_pair r0 (reads_pair r1 (reads_pair r2 (reads_pair r3 r4))))⟩
theorem opens_Node : Opens Lay.tNode 114 := by
 intro H enc W base spare held fuel cs x h
 obtain ⟨xs, n, _, _, hlen, hl, hfi⟩ := DataW.trod_struct Tryz.underlying114 h
 rw [show Tryz.prog.cellsOf 114 = 7 by kernel_rfl] at hlen
 match cs, hlen with
 | [c0, c1, c2, c3, c4, c5, c6], _ =>
 match xs, hl with
 | [y0, y1, y2, y3, y4, y5, y6], _ =>
 have z0 : Tryz.prog.cellsOf 2 = 1 := by kernel_rfl
 have z1 : Tryz.prog.cellsOf 4 = 1 := by kernel_rfl
 have z2 : Tryz.prog.cellsOf 112 = 1 := by kernel_rfl
 have f0 : DataW.trod enc Tryz.prog W base spare held n 2 (([c0, c1, c2, c3, c4, c5, c6].drop 0).take (Tryz.prog.cellsOf 2)) = some y0 := hfi 0 _ rfl
 rw [z0] at f0
 obtain ⟨d0, r0⟩ := (opens_int Tryz.underlying2) enc W base spare held n _ _ f0
 have f1 : DataW.trod enc Tryz.prog W base spare held n 4 (([c0, c1, c2, c3, c4, c5, c6].drop 1).take (Tryz.prog.cellsOf 4)) = some y1 := hfi 1 _ rfl
 rw [z1] at f1
 obtain ⟨d1, r1⟩ := (opens_bool Tryz.underlying4) enc W base spare held n _ _ f1
 have f2 : DataW.trod enc Tryz.prog W base spare held n 2 (([c0, c1, c2, c3, c4, c5, c6].drop 2).take (Tryz.prog.cellsOf 2)) = some y2 := hfi 2 _ rfl
 rw [z0] at f2
 obtain ⟨d2, r2⟩ := (opens_int Tryz.underlying2) enc W base spare held n _ _ f2
 have f3 : DataW.trod enc Tryz.prog W base spare held n 2 (([c0, c1, c2, c3, c4, c5, c6].drop 3).take (Tryz.prog.cellsOf 2)) = some y3 := hfi 3 _ rfl
 rw [z0] at f3
 obtain ⟨d3, r3⟩ := (opens_int Tryz.underlying2) enc W base spare held n _ _ f3
 have f4 : DataW.trod enc Tryz.prog W base spare held n 112 (([c0, c1, c2, c3, c4, c5, c6].drop 4).take (Tryz.prog.cellsOf 112)) = some y4 := hfi 4 _ rfl
 rw [z2] at f4
 obtain ⟨d4, r4⟩ := (opens_sl Tryz.underlying112 (by kernel_rfl) (by decide) opens_Write) enc W base spare held n _ _ f4
 have f5 : DataW.trod enc Tryz.prog W base spare held n 2 (([c0, c1, c2, c3, c4, c5, c6].drop 5).take (Tryz.prog.cellsOf 2)) = some y5 := hfi 5 _ rfl
 rw [z0] at f5
 obtain ⟨d5, r5⟩ := (opens_int Tryz.underlying2) enc W base spare held n _ _ f5
 have f6 : DataW.trod enc Tryz.prog W base spare held n 2 (([c0, c1, c2, c3, c4, c5, c6].drop 6).take (Tryz.prog.cellsOf 2)) = some y6 := hfi 6 _ rfl
 rw [z0] at f6
 obtain ⟨d6, r6⟩ := (opens_int Tryz.underlying2) enc W base spare held n _ _ f6
 exact ⟨⟨d0, d1, d2, d3, d4, d5, d6⟩, (reads_pair r0 (reads_pair r1 (reads_pair r2 (reads_pair r3 (reads_pair r4 (reads_pair r5 r6))))))⟩
theorem opens_Msg : Opens Lay.tMsg 118 := by
 intro H enc W base spare held fuel cs x h
 obtain ⟨xs, n, _, _, hlen, hl, hfi⟩ := DataW.trod_struct Tryz.underlying118 h
 rw [show Tryz.prog.cellsOf 118 = 10 by kernel_rfl] at hlen
 match cs, hlen with
 | [c0, c1, c2, c3, c4, c5, c6, c7, c8, c9], _ =>
 match xs, hl with
 | [y0, y1, y2, y3, y4, y5], _ =>
 have z0 : Tryz.prog.cellsOf 2 = 1 := by kernel_rfl
 have z1 : Tryz.prog.cellsOf 116 = 5 := by kernel_rfl
 have f0 : DataW.trod enc Tryz.prog W base spare held n 2 (([c0, c1, c2, c3, c4, c5, c6, c7, c8, c9].drop 0).take (Tryz.prog.cellsOf 2)) = some y0 := hfi 0 _ rfl
 rw [z0] at f0
 obtain ⟨d0, r0⟩ := (opens_int Tryz.underlying2) enc W base spare held n _ _ f0
 have f1 : DataW.trod enc Tryz.prog W base spare held n 2 (([c0, c1, c2, c3, c4, c5, c6, c7, c8, c9].drop 1).take (Tryz.prog.cellsOf 2)) = some y1 := hfi 1 _ rfl
 rw [z0] at f1
 obtain ⟨d1, r1⟩ := (opens_int Tryz.underlying2) enc W base spare held n _ _ f1
 have f2 : DataW.trod enc Tryz.prog W base spare held n 2 (([c0, c1, c2, c3, c4, c5, c6, c7, c8, c9].drop 2).take (Tryz.prog.cellsOf 2)) = some y2 := hfi 2 _ rfl
 rw [z0] at f2
 obtain ⟨d2, r2⟩ := (opens_int Tryz.underlying2) enc W base spare held n _ _ f2
 have f3 : DataW.trod enc Tryz.prog W base spare held n 2 (([c0, c1, c2, c3, c4, c5, c6, c7, c8, c9].drop 3).take (Tryz.prog.cellsOf 2)) = some y3 := hfi 3 _ rfl
 rw [z0] at f3
 obtain ⟨d3, r3⟩ := (opens_int Tryz.underlying2) enc W base spare held n _ _ f3
 have f4 : DataW.trod enc Tryz.prog W base spare held n 2 (([c0, c1, c2, c3, c4, c5, c6, c7, c8, c9].drop 4).take (Tryz.prog.cellsOf 2)) = some y4 := hfi 4 _ rfl
 rw [z0] at f4
 obtain ⟨d4, r4⟩ := (opens_int Tryz.underlying2) enc W base spare held n _ _ f4
 have f5 : DataW.trod enc Tryz.prog W base spare held n 116 (([c0, c1, c2, c3, c4, c5, c6, c7, c8, c9].drop 5).take (Tryz.prog.cellsOf 116)) = some y5 := hfi 5 _ rfl
 rw [z1] at f5
 obtain ⟨d5, r5⟩ := (opens_Write) enc W base spare held n _ _ f5
 exact ⟨⟨d0, d1, d2, d3, d4, d5⟩, (reads_pair r0 (reads_pair r1 (reads_pair r2 (reads_pair r3 (reads_pair r4 r5)))))⟩
theorem opens_Hit : Opens Lay.tHit 219 := by
 intro H enc W base spare held fuel cs x h
 obtain ⟨xs, n, _, _, hlen, hl, hfi⟩ := DataW.trod_struct Tryz.underlying219 h
 rw [show Tryz.prog.cellsOf 219 = 2 by kernel_rfl] at hlen
 match cs, hlen with
 | [c0, c1], _ =>
 match xs, hl with
 | [y0, y1], _ =>
 have z0 : Tryz.prog.cellsOf 2 = 1 := by kernel_rfl
 have f0 : DataW.trod enc Tryz.prog W base spare held n 2 (([c0, c1].drop 0).take (Tryz.prog.cellsOf 2)) = some y0 := hfi 0 _ rfl
 rw [z0] at f0
 obtain ⟨d0, r0⟩ := (opens_int Tryz.underlying2) enc W base spare held n _ _ f0
 have f1 : DataW.trod enc Tryz.prog W base spare held n 2 (([c0, c1].drop 1).take (Tryz.prog.cellsOf 2)) = some y1 := hfi 1 _ rfl
 rw [z0] at f1
 obtain ⟨d1, r1⟩ := (opens_int Tryz.underlying2) enc W base spare held n _ _ f1
 exact ⟨⟨d0, d1⟩, (reads_pair r0 r1)⟩
theorem opens_Entry : Opens Lay.tEntry 122 := by
 intro H enc W base spare held fuel cs x h
 obtain ⟨xs, n, _, _, hlen, hl, hfi⟩ := DataW.trod_struct Tryz.underlying122 h
 rw [show Tryz.prog.cellsOf 122 = 11 by kernel_rfl] at hlen
 match cs, hlen with
 | [c0, c1, c2, c3, c4, c5, c6, c7, c8, c9, c10], _ =>
 match xs, hl with
 | [y0, y1, y2, y3, y4, y5, y6, y7, y8, y9, y10], _ =>
 have z0 : Tryz.prog.cellsOf 2 = 1 := by kernel_rfl
 have z1 : Tryz.prog.cellsOf 22 = 1 := by kernel_rfl
 have z2 : Tryz.prog.cellsOf 120 = 1 := by kernel_rfl
 have f0 : DataW.trod enc Tryz.prog W base spare held n 2 (([c0, c1, c2, c3, c4, c5, c6, c7, c8, c9, c10].drop 0).take (Tryz.prog.cellsOf 2)) = some y0 := hfi 0 _ rfl
 rw [z0] at f0
 obtain ⟨d0, r0⟩ := (opens_int Tryz.underlying2) enc W base spare held n _ _ f0
 have f1 : DataW.trod enc Tryz.prog W base spare held n 2 (([c0, c1, c2, c3, c4, c5, c6, c7, c8, c9, c10].drop 1).take (Tryz.prog.cellsOf 2)) = some y1 := hfi 1 _ rfl
 rw [z0] at f1
 obtain ⟨d1, r1⟩ := (opens_int Tryz.underlying2) enc W base spare held n _ _ f1
 have f2 : DataW.trod enc Tryz.prog W base spare held n 2 (([c0, c1, c2, c3, c4, c5, c6, c7, c8, c9, c10].drop 2).take (Tryz.prog.cellsOf 2)) = some y2 := hfi 2 _ rfl
 rw [z0] at f2
 obtain ⟨d2, r2⟩ := (opens_int Tryz.underlying2) enc W base spare held n _ _ f2
 have f3 : DataW.trod enc Tryz.prog W base spare held n 2 (([c0, c1, c2, c3, c4, c5, c6, c7, c8, c9, c10].drop 3).take (Tryz.prog.cellsOf 2)) = some y3 := hfi 3 _ rfl
 rw [z0] at f3
 obtain ⟨d3, r3⟩ := (opens_int Tryz.underlying2) enc W base spare held n _ _ f3
 have f4 : DataW.trod enc Tryz.prog W base spare held n 22 (([c0, c1, c2, c3, c4, c5, c6, c7, c8, c9, c10].drop 4).take (Tryz.prog.cellsOf 22)) = some y4 := hfi 4 _ rfl
 rw [z1] at f4
 obtain ⟨d4, r4⟩ := (opens_sl Tryz.underlying22 (by kernel_rfl) (by decide) (opens_int Tryz.underlying2)) enc W base spare held n _ _ f4
 have f5 : DataW.trod enc Tryz.prog W base spare held n 2 (([c0, c1, c2, c3, c4, c5, c6, c7, c8, c9, c10].drop 5).take (Tryz.prog.cellsOf 2)) = some y5 := hfi 5 _ rfl
 rw [z0] at f5
 obtain ⟨d5, r5⟩ := (opens_int Tryz.underlying2) enc W base spare held n _ _ f5
 have f6 : DataW.trod enc Tryz.prog W base spare held n 2 (([c0, c1, c2, c3, c4, c5, c6, c7, c8, c9, c10].drop 6).take (Tryz.prog.cellsOf 2)) = some y6 := hfi 6 _ rfl
 rw [z0] at f6
 obtain ⟨d6, r6⟩ := (opens_int Tryz.underlying2) enc W base spare held n _ _ f6
 have f7 : DataW.trod enc Tryz.prog W base spare held n 2 (([c0, c1, c2, c3, c4, c5, c6, c7, c8, c9, c10].drop 7).take (Tryz.prog.cellsOf 2)) = some y7 := hfi 7 _ rfl
 rw [z0] at f7
 obtain ⟨d7, r7⟩ := (opens_int Tryz.underlying2) enc W base spare held n _ _ f7
 have f8 : DataW.trod enc Tryz.prog W base spare held n 2 (([c0, c1, c2, c3, c4, c5, c6, c7, c8, c9, c10].drop 8).take (Tryz.prog.cellsOf 2)) = some y8 := hfi 8 _ rfl
 rw [z0] at f8
 obtain ⟨d8, r8⟩ := (opens_int Tryz.underlying2) enc W base spare held n _ _ f8
 have f9 : DataW.trod enc Tryz.prog W base spare held n 22 (([c0, c1, c2, c3, c4, c5, c6, c7, c8, c9, c10].drop 9).take (Tryz.prog.cellsOf 22)) = some y9 := hfi 9 _ rfl
 rw [z1] at f9
 obtain ⟨d9, r9⟩ := (opens_sl Tryz.underlying22 (by kernel_rfl) (by decide) (opens_int Tryz.underlying2)) enc W base spare held n _ _ f9
 have f10 : DataW.trod enc Tryz.prog W base spare held n 120 (([c0, c1, c2, c3, c4, c5, c6, c7, c8, c9, c10].drop 10).take (Tryz.prog.cellsOf 120)) = some y10 := hfi 10 _ rfl
 rw [z2] at f10
 obtain ⟨d10, r10⟩ := (opens_sl Tryz.underlying120 (by kernel_rfl) (by decide) opens_Hit) enc W base spare held n _ _ f10
 exact ⟨⟨d0, d1, d2, d3, d4, d5, d6, d7, d8, d9, d10⟩, (reads_pair r0 (reads_pair r1 (reads_pair r2 (reads_pair r3 (reads_pair r4 (reads_pair r5 (reads_pair r6 (reads_pair r7 (reads_pair r8 (reads_pair r9 r10))))))))))⟩
theorem opens_World : Opens Lay.tWorld 29 := by
 intro H enc W base spare held fuel cs x h
 obtain ⟨xs, n, _, _, hlen, hl, hfi⟩ := DataW.trod_struct Tryz.underlying29 h
 rw [show Tryz.prog.cellsOf 29 = 7 by kernel_rfl] at hlen
 match cs, hlen with
 | [c0, c1, c2, c3, c4, c5, c6], _ =>
 match xs, hl with
 | [y0, y1, y2, y3, y4, y5], _ =>
 have z0 : Tryz.prog.cellsOf 2 = 1 := by kernel_rfl
 have z1 : Tryz.prog.cellsOf 24 = 2 := by kernel_rfl
 have z2 : Tryz.prog.cellsOf 25 = 1 := by kernel_rfl
 have z3 : Tryz.prog.cellsOf 26 = 1 := by kernel_rfl
 have z4 : Tryz.prog.cellsOf 27 = 1 := by kernel_rfl
 have f0 : DataW.trod enc Tryz.prog W base spare held n 2 (([c0, c1, c2, c3, c4, c5, c6].drop 0).take (Tryz.prog.cellsOf 2)) = some y0 := hfi 0 _ rfl
 rw [z0] at f0
 obtain ⟨d0, r0⟩ := (opens_int Tryz.underlying2) enc W base spare held n _ _ f0
 have f1 : DataW.trod enc Tryz.prog W base spare held n 2 (([c0, c1, c2, c3, c4, c5, c6].drop 1).take (Tryz.prog.cellsOf 2)) = some y1 := hfi 1 _ rfl
 rw [z0] at f1
 obtain ⟨d1, r1⟩ := (opens_int Tryz.underlying2) enc W base spare held n _ _ f1
 have f2 : DataW.trod enc Tryz.prog W base spare held n 24 (([c0, c1, c2, c3, c4, c5, c6].drop 2).take (Tryz.prog.cellsOf 24)) = some y2 := hfi 2 _ rfl
 rw [z1] at f2
 obtain ⟨d2, r2⟩ := (opens_Chain) enc W base spare held n _ _ f2
 have f3 : DataW.trod enc Tryz.prog W base spare held n 25 (([c0, c1, c2, c3, c4, c5, c6].drop 4).take (Tryz.prog.cellsOf 25)) = some y3 := hfi 3 _ rfl
 rw [z2] at f3
 obtain ⟨d3, r3⟩ := (opens_sl Tryz.underlying25 (by kernel_rfl) (by decide) opens_Node) enc W base spare held n _ _ f3
 have f4 : DataW.trod enc Tryz.prog W base spare held n 26 (([c0, c1, c2, c3, c4, c5, c6].drop 5).take (Tryz.prog.cellsOf 26)) = some y4 := hfi 4 _ rfl
 rw [z3] at f4
 obtain ⟨d4, r4⟩ := (opens_sl Tryz.underlying26 (by kernel_rfl) (by decide) opens_Msg) enc W base spare held n _ _ f4
 have f5 : DataW.trod enc Tryz.prog W base spare held n 27 (([c0, c1, c2, c3, c4, c5, c6].drop 6).take (Tryz.prog.cellsOf 27)) = some y5 := hfi 5 _ rfl
 rw [z4] at f5
 obtain ⟨d5, r5⟩ := (opens_sl Tryz.underlying27 (by kernel_rfl) (by decide) opens_Entry) enc W base spare held n _ _ f5
 exact ⟨⟨d0, d1, d2, d3, d4, d5⟩, (reads_pair r0 (reads_pair r1 (reads_pair r2 (reads_pair r3 (reads_pair r4 r5)))))⟩
end Go.Proofs.YtdnhmoppineegaaGreat
