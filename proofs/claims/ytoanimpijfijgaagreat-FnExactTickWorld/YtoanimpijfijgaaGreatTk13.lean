/-
  Texts of this proof in one: SpecTickW, FloatNat, Clock, ImplClock, ImplTickS, ImplTickW, LawTickW, OpenChain, OpenWrite, OpenNode, OpenMsg, OpenHit, OpenEntry, OpenWorld.
  Their conditions stand in their theorems.
-/
import Derived.Test.YtoanimpijfijgaaGreatTk12
import Derived.Test.YtoanimpijfijgaaGreatTk05
import Derived.Deep.RegionHeld3
import Derived.Test.YtoanimpijfijgaaGreatTk00
import Derived.Test.YtoanimpijfijgaaGreatTk01
import Derived.Laws.ComplexArith
import Derived.Test.YtoanimpijfijgaaGreatChecked
import Derived.Deep.CutRange
import Derived.Test.YtoanimpijfijgaaGreatTk06
import Derived.Test.YtoanimpijfijgaaGreatTk09
import Derived.Test.YtoanimpijfijgaaGreatTk04
import Derived.Test.YtoanimpijfijgaaGreatTk10
set_option maxRecDepth 100000
set_option maxHeartbeats 4000000
namespace Go.Proofs.YtoanimpijfijgaaGreat
open Go.RowKit
theorem specTickWorld (cs : List Value) (x : DWorld) (n : Int) (w : World) (h : Lay.tWorld.Reads w cs x) (hf : Fits x) :
  Calls Tryz.prog 26 #[.agg cs.toArray, .int .i64 n] w fun e w' => ∃ cs', e = .returned (.agg cs'.toArray) ∧ Lay.tWorldResult.Reads w' cs' (tickWR x n) ∧ Below w.heap.size w w' := by
 have HP : Hid (tickWR x n = if asked13 x ≠ 0 then badWorld (asked13 x) else if tickC x.now n ≠ 0 then badWorld 3 else ⟨0, decide (0 < n), withNow (nextW x) (x.now + n)⟩) := rfl
 obtain ⟨a3, d3, a4, d4, a5, d5, a6, d6, rfl, -, -, -, -⟩ := open_World h
 have HBN : Hid (∀ b off, a4 = some ⟨b, off, none⟩ → 0 < x.nodes.length → b < w.heap.size) := fun b off e hp => by
  obtain ⟨_, _, _, _, _, _, _, _, hq, -, RN, -, -⟩ := open_World h
  simp only [List.cons.injEq, Value.slice.injEq, and_true, true_and] at hq
  obtain ⟨-, ⟨rfl, rfl⟩, -, -, -⟩ := hq
  obtain ⟨b', off', e', hb⟩ := Lay.sl_addr RN hp
  rw [e] at e'
  simp only [Option.some.injEq, Addr.mk.injEq, and_true] at e'
  obtain ⟨rfl, -⟩ := e'
  exact hb
 have nb : Below w.heap.size w ((w.alloc (.cells #[.int .i64 x.now, .int .i64 x.events, .int .i64 x.chain.epoch, .slice a3 x.chain.ids.length d3, .slice a4 x.nodes.length d4, .slice a5 x.msgs.length d5, .slice a6 x.history.length d6] 36)).alloc (.cells #[.int .i64 0, .bool false, .int .i64 0, .int .i64 0, .int .i64 0, .slice none 0 0, .slice none 0 0, .slice none 0 0, .slice none 0 0] 38)) := ((Below.refl _ _).alloc (Nat.le_refl _) _).alloc (by simp) _
 have HX : Hid (Box 0 #[.int .i64 x.now, .int .i64 x.events, .int .i64 x.chain.epoch, .slice a3 x.chain.ids.length d3, .slice a4 x.nodes.length d4, .slice a5 x.msgs.length d5, .slice a6 x.history.length d6] 36 ((w.alloc (.cells #[.int .i64 x.now, .int .i64 x.events, .int .i64 x.chain.epoch, .slice a3 x.chain.ids.length d3, .slice a4 x.nodes.length d4, .slice a5 x.msgs.length d5, .slice a6 x.history.length d6] 36)).alloc (.cells #[.int .i64 0, .bool false, .int .i64 0, .int .i64 0, .int .i64 0, .slice none 0 0, .slice none 0 0, .slice none 0 0, .slice none 0 0] 38)) w.heap.size) := ((newBox (Nat.zero_le _)).grow _)
 have HY : Hid (Box 0 #[.int .i64 0, .bool false, .int .i64 0, .int .i64 0, .int .i64 0, .slice none 0 0, .slice none 0 0, .slice none 0 0, .slice none 0 0] 38 ((w.alloc (.cells #[.int .i64 x.now, .int .i64 x.events, .int .i64 x.chain.epoch, .slice a3 x.chain.ids.length d3, .slice a4 x.nodes.length d4, .slice a5 x.msgs.length d5, .slice a6 x.history.length d6] 36)).alloc (.cells #[.int .i64 0, .bool false, .int .i64 0, .int .i64 0, .int .i64 0, .slice none 0 0, .slice none 0 0, .slice none 0 0, .slice none 0 0] 38)) (w.heap.size + 1)) := newBoxAt (Nat.zero_le _) (by simp)
 have hz0 : ((w.alloc (.cells #[.int .i64 x.now, .int .i64 x.events, .int .i64 x.chain.epoch, .slice a3 x.chain.ids.length d3, .slice a4 x.nodes.length d4, .slice a5 x.msgs.length d5, .slice a6 x.history.length d6] 36)).alloc (.cells #[.int .i64 0, .bool false, .int .i64 0, .int .i64 0, .int .i64 0, .slice none 0 0, .slice none 0 0, .slice none 0 0, .slice none 0 0] 38)).heap.size = w.heap.size + 2 := by simp
 have HR := yh (h.later nb)
 have HB := yh nb
 clear nb
 clear h HBN
 generalize tickWR x n = R at *
 have HC3 : Hid (-1000000000 ≤ (3 : Int) ∧ (3 : Int) ≤ 1000000000) := by show (-1000000000 : Int) ≤ 3 ∧ (3 : Int) ≤ 1000000000; omega
 go_enter Tryz.func26, Tryz.ntmps26
 go_upto_region 1 with fail
 generalize ((w.alloc (.cells #[.int .i64 x.now, .int .i64 x.events, .int .i64 x.chain.epoch, .slice a3 x.chain.ids.length d3, .slice a4 x.nodes.length d4, .slice a5 x.msgs.length d5, .slice a6 x.history.length d6] 36)).alloc (.cells #[.int .i64 0, .bool false, .int .i64 0, .int .i64 0, .int .i64 0, .slice none 0 0, .slice none 0 0, .slice none 0 0, .slice none 0 0] 38)) = W0 at *
 go_wp2_with fail
 refine (l13AskedC a3 d3 a4 d4 a5 d5 a6 d6 x w.heap.size W0 (uh HX) (uh HR)).mono ?_
 rintro e wa ⟨rfl, hb⟩
 replace HX := yh ((uh HX).keep hb)
 replace HR := yh ((uh HR).later hb)
 replace HY := yh ((uh HY).keep hb)
 replace HB := yh ((uh HB).trans (hb.mono (uh HB).size))
 have hza := hb.size
 clear hb
 by_cases d1 : asked13 x ≠ 0
 ·
  have hd : (asked13 x != 0) = true := by simpa using d1
  replace HP := yh ((uh HP).trans (if_pos d1))
  have HC := yh (asked13_bd x)
  clear d1 hf
  generalize asked13 x = c at *
  go_wp2_with fail
  refine (l12BadCZ (c) _).mono ?_
  rintro e wB ⟨rfl, hbB⟩
  have hyB := (uh HY).keep hbB
  have z0 := Box.at hyB 0 _ rfl
  have z1 := Box.at hyB 1 _ rfl
  have z2 := Box.at hyB 2 _ rfl
  have z3 := Box.at hyB 3 _ rfl
  have z4 := Box.at hyB 4 _ rfl
  have z5 := Box.at hyB 5 _ rfl
  have z6 := Box.at hyB 6 _ rfl
  have z7 := Box.at hyB 7 _ rfl
  have z8 := Box.at hyB 8 _ rfl
  simp only [ga, gb, gc] at z0 z1 z2 z3 z4 z5 z6 z7 z8
  have zf := Box.soft hyB
  have zl := hyB.lt
  have HB9 := yh (below_setAll ((uh HB).trans (hbB.mono (uh HB).size)) (w.heap.size + 1) 0 [.int .i64 c, .bool false, .int .i64 0, .int .i64 0, .int .i64 0, .slice none 0 0, .slice none 0 0, .slice none 0 0, .slice none 0 0] (by omega))
  clear hyB hbB HY HB
  go_wp2_with fail
  refine bodyPost_ret (v := .agg #[.int .i64 c, .bool false, .int .i64 0, .int .i64 0, .int .i64 0, .slice none 0 0, .slice none 0 0, .slice none 0 0, .slice none 0 0]) (by simp [results, Tryz.results26, go_sem, z0, z1, z2, z3, z4, z5, z6, z7, z8]) rfl ?_
  rw [uh HP]
  exact ⟨[.int .i64 c, .bool false, .int .i64 0, .int .i64 0, .int .i64 0, .slice none 0 0, .slice none 0 0, .slice none 0 0, .slice none 0 0], rfl, (own_badW (uh HC) (lo := 0) (hi := 0) (Nat.le_refl 0)).lies.reads, uh HB9⟩
 replace HP := yh ((uh HP).trans (if_neg d1))
 have hd0 : asked13 x = 0 := by simpa using d1
 have hok := worldFault_zero (asked13_ok hd0)
 rw [hd0]
 clear d1 hd0
 have HOK := yh hok
 have hnow := hok.now.1
 have hnow2 := hok.now.2
 clear hok
 have z0 := Box.at (uh HX) 0 _ rfl
 have z1 := Box.at (uh HX) 1 _ rfl
 have z2 := Box.at (uh HX) 2 _ rfl
 have z3 := Box.at (uh HX) 3 _ rfl
 have z4 := Box.at (uh HX) 4 _ rfl
 have z5 := Box.at (uh HX) 5 _ rfl
 have z6 := Box.at (uh HX) 6 _ rfl
 simp only [ga, gb, gc] at z0 z1 z2 z3 z4 z5 z6
 have zl := (uh HX).lt
 go_wp2_with fail
 refine (inC n 0 100 _).mono ?_
 rintro e wi ⟨rfl, hwi⟩
 subst wi
 by_cases hn : 0 ≤ n ∧ n ≤ 100
 ·
  have d1 : decide (0 ≤ n) = true := by simpa using hn.1
  have d2 : decide (n ≤ 100) = true := by simpa using hn.2
  rw [d1, d2]
  have hn1 := hn.1
  have hn2 := hn.2
  by_cases h9 : x.now + n ≤ 9000
  ·
   have d3 : decide (9000 < x.now + n) = false := by simpa using h9
   replace HP := yh ((uh HP).trans (if_neg (by simp only [tickC]; rw [if_pos ⟨hn1, hn2, h9⟩]; simp)))
   have HWF := yh (show (Lit.int .i64 (x.now + n)).wf = true from wf_of_bd (by omega))
   have HL := yh (l12NextC _ x wa (uh HR) (uh HOK) hf)
   clear hn
   go_wp2_with fail
   refine (uh HL).mono ?_
   rintro e W1 ⟨cs', rfl, O, hb⟩
   have hop := open_World O.reads
   dsimp only [nextW] at hop
   obtain ⟨a3w, d3w, a4w, d4w, a5w, d5w, a6w, d6w, rfl, -⟩ := hop
   have hz1 : wa.heap.size ≤ W1.heap.size := hb.size
   have nb : Below W1.heap.size W1 (W1.alloc (.cells #[.int .i64 x.now, .int .i64 (x.events + 1), .int .i64 x.chain.epoch, .slice a3w x.chain.ids.length d3w, .slice a4w x.nodes.length d4w, .slice a5w x.msgs.length d5w, .slice a6w x.history.length d6w] 36)) := (Below.refl _ _).alloc (Nat.le_refl _) _
   have HG : Hid (Box 0 #[.int .i64 x.now, .int .i64 (x.events + 1), .int .i64 x.chain.epoch, .slice a3w x.chain.ids.length d3w, .slice a4w x.nodes.length d4w, .slice a5w x.msgs.length d5w, .slice a6w x.history.length d6w] 36 (W1.alloc (.cells #[.int .i64 x.now, .int .i64 (x.events + 1), .int .i64 x.chain.epoch, .slice a3w x.chain.ids.length d3w, .slice a4w x.nodes.length d4w, .slice a5w x.msgs.length d5w, .slice a6w x.history.length d6w] 36)) W1.heap.size) := newBox (Nat.zero_le _)
   have HO := yh ((O.later nb).st (G := fun c => c < 0 ∨ c < wa.heap.size ∨ c = W1.heap.size) (fun k hk => by omega))
   replace HX := yh (((uh HX).keep hb).keep nb)
   replace HR := yh (((uh HR).later hb).later nb)
   replace HY := yh (((uh HY).keep hb).keep nb)
   replace HB := yh ((uh HB).trans ((hb.trans (nb.mono hb.size)).mono (uh HB).size))
   have hz2 : W1.heap.size < (W1.alloc (.cells #[.int .i64 x.now, .int .i64 (x.events + 1), .int .i64 x.chain.epoch, .slice a3w x.chain.ids.length d3w, .slice a4w x.nodes.length d4w, .slice a5w x.msgs.length d5w, .slice a6w x.history.length d6w] 36)).heap.size := by simp
   clear nb O hb HL z0 zl
   clear z1 z2 z3 z4 z5 z6
   have z0 := Box.at (uh HX) 0 _ rfl
   simp only [List.getElem_toArray, List.getElem_cons_zero] at z0
   have zl := (uh HX).lt
   go_upto_region 7 with fail
   generalize W1.alloc (.cells #[.int .i64 x.now, .int .i64 (x.events + 1), .int .i64 x.chain.epoch, .slice a3w x.chain.ids.length d3w, .slice a4w x.nodes.length d4w, .slice a5w x.msgs.length d5w, .slice a6w x.history.length d6w] 36) = W2 at *
   have hg := uh HG
   have y0 := Box.at hg 0 _ rfl
   simp only [List.getElem_toArray, List.getElem_cons_zero] at y0
   have yl := hg.lt
   have yf := Box.soft hg
   have e1 : Ext (fun q => q = W1.heap.size) W2 (W2.setCell ⟨W1.heap.size, 0, none⟩ (.int .i64 (x.now + n))) := (Ext.refl _ _).setCell _ _ rfl
   have hg2 := Box.set hg 0 (.int .i64 (x.now + n))
   simp only [List.setIfInBounds_toArray, List.set_cons_zero] at hg2
   have hO2 := (WSt.count (x := nextW x) (uh HO) (x.now + n) (x.events + 1) (uh HWF) (wf_World (uh HO).reads).2.1).ext e1 (fun k h1 h2 h3 => h2 (Or.inr (Or.inr h3)))
   have HG2 := yh hg2
   have HO2 := yh hO2
   have HY2 := yh ((uh HY).ext e1 (by omega))
   have HB2 := yh ((uh HB).trans (e1.below (B := w.heap.size) (by omega) (fun c hc e => by omega)))
   clear hg hg2 e1 hO2 HG HO HY HB HX HR
   go_upto_region 8 with fail
   generalize hW9 : W2.setCell ⟨W1.heap.size, 0, none⟩ (.int .i64 (x.now + n)) = W9 at *
   clear hW9 y0 yl yf z0 zl
   by_cases hm : 0 < n
   ·
    have d5 : decide (0 < n) = true := by simpa using hm
    rw [d5] at HP
    clear hm
    have y0 := Box.at (uh HG2) 0 _ rfl
    have y1 := Box.at (uh HG2) 1 _ rfl
    have y2 := Box.at (uh HG2) 2 _ rfl
    have y3 := Box.at (uh HG2) 3 _ rfl
    have y4 := Box.at (uh HG2) 4 _ rfl
    have y5 := Box.at (uh HG2) 5 _ rfl
    have y6 := Box.at (uh HG2) 6 _ rfl
    simp only [ga, gb, gc] at y0 y1 y2 y3 y4 y5 y6
    have yl := (uh HG2).lt
    have r0 := Box.at (uh HY2) 0 _ rfl
    have r1 := Box.at (uh HY2) 1 _ rfl
    have r2 := Box.at (uh HY2) 2 _ rfl
    have r3 := Box.at (uh HY2) 3 _ rfl
    have r4 := Box.at (uh HY2) 4 _ rfl
    have r5 := Box.at (uh HY2) 5 _ rfl
    have r6 := Box.at (uh HY2) 6 _ rfl
    have r7 := Box.at (uh HY2) 7 _ rfl
    have r8 := Box.at (uh HY2) 8 _ rfl
    simp only [ga, gb, gc] at r0 r1 r2 r3 r4 r5 r6 r7 r8
    have rl := (uh HY2).lt
    have rf := Box.soft (uh HY2)
    have e9 : Ext (fun q => q = w.heap.size + 1) W9 (setAll W9 (w.heap.size + 1) 0 [.int .i64 0, .bool true, .int .i64 (x.now + n), .int .i64 (x.events + 1), .int .i64 x.chain.epoch, .slice a3w x.chain.ids.length d3w, .slice a4w x.nodes.length d4w, .slice a5w x.msgs.length d5w, .slice a6w x.history.length d6w]) := ext_setAll _ (Ext.refl _ _) _ _ _ rfl
    have HO9 := yh (okR_lies (m := true) (((uh HO2).ext e9 (fun c h1 h2 h3 => h2 (Or.inr (Or.inl (by omega))))).liesIn (B := 0) (fun c hc => by omega)))
    have HB9 := yh (below_setAll (uh HB2) (w.heap.size + 1) 0 [.int .i64 0, .bool true, .int .i64 (x.now + n), .int .i64 (x.events + 1), .int .i64 x.chain.epoch, .slice a3w x.chain.ids.length d3w, .slice a4w x.nodes.length d4w, .slice a5w x.msgs.length d5w, .slice a6w x.history.length d6w] (by omega))
    clear e9 HO2 HG2 HY2 HB2
    go_wp2_with fail
    refine bodyPost_ret (v := .agg #[.int .i64 0, .bool true, .int .i64 (x.now + n), .int .i64 (x.events + 1), .int .i64 x.chain.epoch, .slice a3w x.chain.ids.length d3w, .slice a4w x.nodes.length d4w, .slice a5w x.msgs.length d5w, .slice a6w x.history.length d6w]) (by simp [results, Tryz.results26, go_sem, r0, r1, r2, r3, r4, r5, r6, r7, r8]) rfl ?_
    rw [uh HP]
    exact ⟨_, rfl, (uh HO9).reads, uh HB9⟩
   have d5 : decide (0 < n) = false := by simpa using hm
   rw [d5] at HP
   clear hm
   have y0 := Box.at (uh HG2) 0 _ rfl
   have y1 := Box.at (uh HG2) 1 _ rfl
   have y2 := Box.at (uh HG2) 2 _ rfl
   have y3 := Box.at (uh HG2) 3 _ rfl
   have y4 := Box.at (uh HG2) 4 _ rfl
   have y5 := Box.at (uh HG2) 5 _ rfl
   have y6 := Box.at (uh HG2) 6 _ rfl
   simp only [ga, gb, gc] at y0 y1 y2 y3 y4 y5 y6
   have yl := (uh HG2).lt
   have r0 := Box.at (uh HY2) 0 _ rfl
   have r1 := Box.at (uh HY2) 1 _ rfl
   have r2 := Box.at (uh HY2) 2 _ rfl
   have r3 := Box.at (uh HY2) 3 _ rfl
   have r4 := Box.at (uh HY2) 4 _ rfl
   have r5 := Box.at (uh HY2) 5 _ rfl
   have r6 := Box.at (uh HY2) 6 _ rfl
   have r7 := Box.at (uh HY2) 7 _ rfl
   have r8 := Box.at (uh HY2) 8 _ rfl
   simp only [ga, gb, gc] at r0 r1 r2 r3 r4 r5 r6 r7 r8
   have rl := (uh HY2).lt
   have rf := Box.soft (uh HY2)
   have e9 : Ext (fun q => q = w.heap.size + 1) W9 (setAll W9 (w.heap.size + 1) 0 [.int .i64 0, .bool false, .int .i64 (x.now + n), .int .i64 (x.events + 1), .int .i64 x.chain.epoch, .slice a3w x.chain.ids.length d3w, .slice a4w x.nodes.length d4w, .slice a5w x.msgs.length d5w, .slice a6w x.history.length d6w]) := ext_setAll _ (Ext.refl _ _) _ _ _ rfl
   have HO9 := yh (okR_lies (m := false) (((uh HO2).ext e9 (fun c h1 h2 h3 => h2 (Or.inr (Or.inl (by omega))))).liesIn (B := 0) (fun c hc => by omega)))
   have HB9 := yh (below_setAll (uh HB2) (w.heap.size + 1) 0 [.int .i64 0, .bool false, .int .i64 (x.now + n), .int .i64 (x.events + 1), .int .i64 x.chain.epoch, .slice a3w x.chain.ids.length d3w, .slice a4w x.nodes.length d4w, .slice a5w x.msgs.length d5w, .slice a6w x.history.length d6w] (by omega))
   clear e9 HO2 HG2 HY2 HB2
   go_wp2_with fail
   refine bodyPost_ret (v := .agg #[.int .i64 0, .bool false, .int .i64 (x.now + n), .int .i64 (x.events + 1), .int .i64 x.chain.epoch, .slice a3w x.chain.ids.length d3w, .slice a4w x.nodes.length d4w, .slice a5w x.msgs.length d5w, .slice a6w x.history.length d6w]) (by simp [results, Tryz.results26, go_sem, r0, r1, r2, r3, r4, r5, r6, r7, r8]) rfl ?_
   rw [uh HP]
   exact ⟨_, rfl, (uh HO9).reads, uh HB9⟩
  have d3 : decide (9000 < x.now + n) = true := by simpa using h9
  replace HP := yh ((uh HP).trans (if_pos (by simp only [tickC]; rw [if_neg (fun q => h9 q.2.2)]; simp)))
  clear h9 hn
  go_wp2_with fail
  refine (l12BadCZ (3) _).mono ?_
  rintro e wB ⟨rfl, hbB⟩
  have hyB := (uh HY).keep hbB
  have z0 := Box.at hyB 0 _ rfl
  have z1 := Box.at hyB 1 _ rfl
  have z2 := Box.at hyB 2 _ rfl
  have z3 := Box.at hyB 3 _ rfl
  have z4 := Box.at hyB 4 _ rfl
  have z5 := Box.at hyB 5 _ rfl
  have z6 := Box.at hyB 6 _ rfl
  have z7 := Box.at hyB 7 _ rfl
  have z8 := Box.at hyB 8 _ rfl
  simp only [ga, gb, gc] at z0 z1 z2 z3 z4 z5 z6 z7 z8
  have zf := Box.soft hyB
  have zl := hyB.lt
  have HB9 := yh (below_setAll ((uh HB).trans (hbB.mono (uh HB).size)) (w.heap.size + 1) 0 [.int .i64 3, .bool false, .int .i64 0, .int .i64 0, .int .i64 0, .slice none 0 0, .slice none 0 0, .slice none 0 0, .slice none 0 0] (by omega))
  clear hyB hbB HY HB
  go_wp2_with fail
  refine bodyPost_ret (v := .agg #[.int .i64 3, .bool false, .int .i64 0, .int .i64 0, .int .i64 0, .slice none 0 0, .slice none 0 0, .slice none 0 0, .slice none 0 0]) (by simp [results, Tryz.results26, go_sem, z0, z1, z2, z3, z4, z5, z6, z7, z8]) rfl ?_
  rw [uh HP]
  exact ⟨[.int .i64 3, .bool false, .int .i64 0, .int .i64 0, .int .i64 0, .slice none 0 0, .slice none 0 0, .slice none 0 0, .slice none 0 0], rfl, (own_badW (uh HC3) (lo := 0) (hi := 0) (Nat.le_refl 0)).lies.reads, uh HB9⟩
 have hd : (decide (0 ≤ n) && decide (n ≤ 100)) = false := by
  rw [Bool.and_eq_false_iff]
  by_cases q : 0 ≤ n
  ·
   exact Or.inr (by simpa using fun r => hn ⟨q, r⟩)
  exact Or.inl (by simpa using q)
 replace HP := yh ((uh HP).trans (if_pos (by simp only [tickC]; rw [if_neg (fun q => hn ⟨q.1, q.2.1⟩)]; simp)))
 rw [hd]
 clear hn
 go_wp2_with fail
 refine (l12BadCZ (3) _).mono ?_
 rintro e wB ⟨rfl, hbB⟩
 have hyB := (uh HY).keep hbB
 have z0 := Box.at hyB 0 _ rfl
 have z1 := Box.at hyB 1 _ rfl
 have z2 := Box.at hyB 2 _ rfl
 have z3 := Box.at hyB 3 _ rfl
 have z4 := Box.at hyB 4 _ rfl
 have z5 := Box.at hyB 5 _ rfl
 have z6 := Box.at hyB 6 _ rfl
 have z7 := Box.at hyB 7 _ rfl
 have z8 := Box.at hyB 8 _ rfl
 simp only [ga, gb, gc] at z0 z1 z2 z3 z4 z5 z6 z7 z8
 have zf := Box.soft hyB
 have zl := hyB.lt
 have HB9 := yh (below_setAll ((uh HB).trans (hbB.mono (uh HB).size)) (w.heap.size + 1) 0 [.int .i64 3, .bool false, .int .i64 0, .int .i64 0, .int .i64 0, .slice none 0 0, .slice none 0 0, .slice none 0 0, .slice none 0 0] (by omega))
 clear hyB hbB HY HB
 go_wp2_with fail
 refine bodyPost_ret (v := .agg #[.int .i64 3, .bool false, .int .i64 0, .int .i64 0, .int .i64 0, .slice none 0 0, .slice none 0 0, .slice none 0 0, .slice none 0 0]) (by simp [results, Tryz.results26, go_sem, z0, z1, z2, z3, z4, z5, z6, z7, z8]) rfl ?_
 rw [uh HP]
 exact ⟨[.int .i64 3, .bool false, .int .i64 0, .int .i64 0, .int .i64 0, .slice none 0 0, .slice none 0 0, .slice none 0 0, .slice none 0 0], rfl, (own_badW (uh HC3) (lo := 0) (hi := 0) (Nat.le_refl 0)).lies.reads, uh HB9⟩
end Go.Proofs.YtoanimpijfijgaaGreat

namespace Go.Proofs.YtoanimpijfijgaaGreat
open Go Go.RowKit Ieee
theorem fl_neg (n : Nat) : decide ((n : Int) < 0) = false := decide_eq_false (by omega)
theorem fl_ne {x : Nat} (hx : x ≠ 0) (S : Nat) : x <<< S ≠ 0 := by
 rw [Nat.shiftLeft_eq]
 exact Nat.mul_ne_zero hx (Nat.pos_iff_ne_zero.1 (Nat.two_pow_pos S))
theorem fl_log2 {x : Nat} (hx : x ≠ 0) (S : Nat) : (x <<< S).log2 = x.log2 + S := by
 have h0 : x <<< S ≠ 0 := by
  rw [Nat.shiftLeft_eq]
  exact Nat.mul_ne_zero hx (Nat.pos_iff_ne_zero.1 (Nat.two_pow_pos S))
 have h := (Nat.log2_eq_iff hx).1 rfl
 refine (Nat.log2_eq_iff h0).2 ?_
 rw [Nat.shiftLeft_eq]
 constructor
 ·
  rw [Nat.pow_add]; exact Nat.mul_le_mul_right _ h.1
 rw [show x.log2 + S + 1 = (x.log2 + 1) + S by omega, Nat.pow_add]
 exact Nat.mul_lt_mul_of_pos_right h.2 (Nat.two_pow_pos S)
def rung (x : Nat) : Nat := if x = 0 then 0 else (1022 + x.log2) * 2 ^ 52 + x <<< (52 - x.log2)
theorem fl_bounds {x : Nat} (hx : x ≠ 0) (hl : x.log2 ≤ 52) : 2 ^ 52 ≤ x <<< (52 - x.log2) ∧ x <<< (52 - x.log2) < 2 ^ 53 := by
 have h := (Nat.log2_eq_iff hx).1 rfl
 rw [Nat.shiftLeft_eq]
 constructor
 ·
  calc 2 ^ 52 = 2 ^ x.log2 * 2 ^ (52 - x.log2) := by rw [← Nat.pow_add]; congr 1; omega
   _ ≤ _ := Nat.mul_le_mul_right _ h.1
 calc x * 2 ^ (52 - x.log2) < 2 ^ (x.log2 + 1) * 2 ^ (52 - x.log2) := Nat.mul_lt_mul_of_pos_right h.2 (Nat.two_pow_pos _)
  _ = 2 ^ 53 := by rw [← Nat.pow_add]; congr 1; omega
theorem fl_cut (n d : Nat) (hd : d ≤ n.log2 + 2) (q : Nat) (h : n = q <<< d) : Toward.even.cut false n d = q := by
 unfold Toward.cut
 have hm : min d (n.log2 + 2) = d := Nat.min_eq_left hd
 simp only [hm]
 have hg : (1 <<< d) = 2 ^ d := by rw [Nat.shiftLeft_eq, Nat.one_mul]
 have hp := Nat.two_pow_pos d
 rw [hg, h, Nat.shiftLeft_eq, Nat.mul_div_cancel _ hp, Nat.mul_mod_left]
 have h1 : decide (2 ^ d < 2 * 0) = false := by simp
 have h2 : (2 ^ d == 2 * 0) = false := by
  simp
 rw [h1, h2]
 simp
theorem fl_nearest {x : Nat} (hl : x.log2 ≤ 52) (S : Nat) (hS : 52 - x.log2 ≤ S) (_h1 : S ≤ 1074) : double.nearest false (x <<< S) (-(S : Int)) = rung x := by
 by_cases hx : x = 0
 ·
  subst hx
  simp [Format.nearest, rung, Format.word]
 have h0 : x <<< S ≠ 0 := by
  rw [Nat.shiftLeft_eq]
  exact Nat.mul_ne_zero hx (Nat.pos_iff_ne_zero.1 (Nat.two_pow_pos S))
 have hb := fl_bounds hx hl
 unfold Format.nearest rung
 rw [if_neg h0, if_neg hx]
 have hleast : double.leastPlace = -1074 := by decide
 have hfr : double.fractionBits = 52 := rfl
 have hbin : double.binade = 2 ^ 52 := rfl
 have hlast : max (-(S : Int) + ((x <<< S).log2 : Nat) - (double.fractionBits : Nat)) double.leastPlace = (x.log2 : Int) - 52 := by
  rw [fl_log2 hx, hfr, hleast]
  omega
 simp only [hlast]
 simp only [hleast, hbin]
 have e1 : (-(S : Int) - ((x.log2 : Int) - 52)).toNat = 0 := by omega
 have e2 : ((x.log2 : Int) - 52 - -(S : Int)).toNat = S - (52 - x.log2) := by omega
 have e3 : ((x.log2 : Int) - 52 - -1074).toNat = 1022 + x.log2 := by omega
 rw [e1, e2, e3, Nat.shiftLeft_zero]
 rw [fl_cut (x <<< S) (S - (52 - x.log2)) (by rw [fl_log2 hx]; omega) (x <<< (52 - x.log2)) (by
  rw [← Nat.shiftLeft_add]; congr 1; omega)]
 have hinf : double.infRung = 2047 * 2 ^ 52 := by decide
 rw [hinf, Nat.min_eq_left (by omega)]
 rfl
theorem fl_of {x : Nat} (hl : x.log2 ≤ 52) : floatOfInt .f64 (x : Int) = rung x := by
 have h := fl_nearest hl (52 - x.log2) (Nat.le_refl _) (by omega)
 show double.nearest (decide ((x : Int) < 0)) x 0 = rung x
 have hn : decide ((x : Int) < 0) = false := by simp
 rw [hn, ← h]
 by_cases hx : x = 0
 ·
  subst hx; simp [Format.nearest, Format.word]
 have h0 : x <<< (52 - x.log2) ≠ 0 := by
  have := (fl_bounds hx hl).1
  omega
 unfold Format.nearest
 rw [if_neg h0, if_neg hx]
 have hleast : double.leastPlace = -1074 := by decide
 have hfr : double.fractionBits = 52 := rfl
 have hlast : max (-((52 - x.log2 : Nat) : Int) + ((x <<< (52 - x.log2)).log2 : Nat) - (double.fractionBits : Nat)) double.leastPlace = (x.log2 : Int) - 52 := by
  rw [fl_log2 hx, hfr, hleast]
  omega
 have hlast0 : max ((0 : Int) + (x.log2 : Nat) - (double.fractionBits : Nat)) double.leastPlace = (x.log2 : Int) - 52 := by
  rw [hfr, hleast]
  omega
 simp only [hlast, hlast0]
 have e1 : (-((52 - x.log2 : Nat) : Int) - ((x.log2 : Int) - 52)).toNat = 0 := by omega
 have e2 : ((x.log2 : Int) - 52 - -((52 - x.log2 : Nat) : Int)).toNat = 0 := by omega
 have e3 : ((0 : Int) - ((x.log2 : Int) - 52)).toNat = 52 - x.log2 := by omega
 have e4 : ((x.log2 : Int) - 52 - 0).toNat = 0 := by omega
 rw [e1, e2, e3, e4, Nat.shiftLeft_zero]
theorem fl_read {x : Nat} (hx : x ≠ 0) (hl : x.log2 ≤ 52) : double.read (rung x) = .number false (x <<< (52 - x.log2)) (-((52 - x.log2 : Nat) : Int)) := by
 have hb := fl_bounds hx hl
 have hr : rung x = (1022 + x.log2) * 2 ^ 52 + x <<< (52 - x.log2) := by unfold rung; rw [if_neg hx]
 have hs : double.signWeight = 2 ^ 63 := rfl
 have hbin : double.binade = 2 ^ 52 := rfl
 have hinf : double.infRung = 2047 * 2 ^ 52 := by decide
 have hleast : double.leastPlace = -1074 := by decide
 have hm : rung x % 2 ^ 63 = rung x := Nat.mod_eq_of_lt (by omega)
 have hd : rung x / 2 ^ 63 = 0 := Nat.div_eq_of_lt (by omega)
 unfold Format.read
 simp only [hs, hbin, hinf, hleast, hm, hd]
 rw [if_neg (by omega), if_pos (by omega)]
 congr 1
 ·
  omega
 omega
theorem fl_read0 : double.read (rung 0) = .number false 0 (-1074) := by decide
theorem fl_add {x y : Nat} (hx : x.log2 ≤ 52) (hy : y.log2 ≤ 52) (hz : (x + y).log2 ≤ 52) : floatBits .add .f64 (rung x) (rung y) = some (rung (x + y)) := by
 show ((double.read (rung x)).sum (double.read (rung y))).map double.write = some (rung (x + y))
 by_cases h0 : x = 0
 ·
  subst h0
  by_cases h1 : y = 0
  ·
   subst h1; decide
  rw [fl_read0, fl_read h1 hy]
  unfold Datum.sum
  have hm : min (-1074 : Int) (-((52 - y.log2 : Nat) : Int)) = -1074 := by omega
  simp only [hm]
  have e : (-((52 - y.log2 : Nat) : Int) - -1074).toNat = 1074 - (52 - y.log2) := by omega
  rw [e]
  have hsg : signed false 0 ((-1074 : Int) - -1074).toNat + signed false (y <<< (52 - y.log2)) (1074 - (52 - y.log2)) = ((y <<< 1074 : Nat) : Int) := by
   unfold signed
   rw [if_neg (by decide), if_neg (by decide), ← Nat.shiftLeft_add, show 52 - y.log2 + (1074 - (52 - y.log2)) = 1074 by omega]
   simp
  rw [hsg]
  have hn : y <<< 1074 ≠ 0 := fl_ne h1 _
  rw [if_neg (by omega)]
  have hd : decide (((y <<< 1074 : Nat) : Int) < 0) = false := fl_neg _
  rw [hd, Int.natAbs_natCast, Nat.zero_add]
  show some (double.nearest false (y <<< 1074) (-((1074 : Nat) : Int))) = _
  rw [fl_nearest hy 1074 (by omega) (by omega)]
 by_cases h1 : y = 0
 ·
  subst h1
  rw [fl_read0, fl_read h0 hx]
  unfold Datum.sum
  have hm : min (-((52 - x.log2 : Nat) : Int)) (-1074 : Int) = -1074 := by omega
  simp only [hm]
  have e : (-((52 - x.log2 : Nat) : Int) - -1074).toNat = 1074 - (52 - x.log2) := by omega
  rw [e]
  have hsg : signed false (x <<< (52 - x.log2)) (1074 - (52 - x.log2)) + signed false 0 ((-1074 : Int) - -1074).toNat = ((x <<< 1074 : Nat) : Int) := by
   unfold signed
   rw [if_neg (by decide), if_neg (by decide), ← Nat.shiftLeft_add, show 52 - x.log2 + (1074 - (52 - x.log2)) = 1074 by omega]
   simp
  rw [hsg]
  have hn : x <<< 1074 ≠ 0 := fl_ne h0 _
  rw [if_neg (by omega)]
  have hd : decide (((x <<< 1074 : Nat) : Int) < 0) = false := fl_neg _
  rw [hd, Int.natAbs_natCast, Nat.add_zero]
  show some (double.nearest false (x <<< 1074) (-((1074 : Nat) : Int))) = _
  rw [fl_nearest hx 1074 (by omega) (by omega)]
 rw [fl_read h0 hx, fl_read h1 hy]
 have hS : ∃ S : Nat, S = max (52 - x.log2) (52 - y.log2) := ⟨_, rfl⟩
 obtain ⟨S, hS⟩ := hS
 unfold Datum.sum
 have hm : min (-((52 - x.log2 : Nat) : Int)) (-((52 - y.log2 : Nat) : Int)) = -(S : Int) := by omega
 simp only [hm]
 have e1 : (-((52 - x.log2 : Nat) : Int) - -(S : Int)).toNat = S - (52 - x.log2) := by omega
 have e2 : (-((52 - y.log2 : Nat) : Int) - -(S : Int)).toNat = S - (52 - y.log2) := by omega
 rw [e1, e2]
 have hsg : signed false (x <<< (52 - x.log2)) (S - (52 - x.log2)) + signed false (y <<< (52 - y.log2)) (S - (52 - y.log2)) = (((x + y) <<< S : Nat) : Int) := by
  unfold signed
  rw [if_neg (by decide), if_neg (by decide), ← Nat.shiftLeft_add, ← Nat.shiftLeft_add, show 52 - x.log2 + (S - (52 - x.log2)) = S by omega, show 52 - y.log2 + (S - (52 - y.log2)) = S by omega]
  rw [Nat.shiftLeft_eq, Nat.shiftLeft_eq, Nat.shiftLeft_eq, Nat.add_mul]
  simp
 rw [hsg]
 have hxy : x + y ≠ 0 := by omega
 have hn : (x + y) <<< S ≠ 0 := by
  rw [Nat.shiftLeft_eq]
  exact Nat.mul_ne_zero hxy (Nat.pos_iff_ne_zero.1 (Nat.two_pow_pos _))
 rw [if_neg (by omega)]
 have hd : decide ((((x + y) <<< S : Nat) : Int) < 0) = false := fl_neg _
 rw [hd, Int.natAbs_natCast]
 show some (double.nearest false ((x + y) <<< S) (-(S : Int))) = _
 have hmono : x.log2 ≤ (x + y).log2 := by
  have h := (Nat.log2_eq_iff h0).1 rfl
  exact (Nat.le_log2 hxy).2 (by omega)
 rw [fl_nearest hz S (by omega) (by omega)]
theorem fl_int {x : Nat} (hl : x.log2 ≤ 52) (k : IntKind) (hk : k.min ≤ (x : Int) ∧ (x : Int) ≤ k.max) : floatToIntVal .f64 (rung x) k = some (x : Int) := by
 have ht : (FloatKind.f64.decode (rung x)).toInt .zero = some (x : Int) := by
  show (double.read (rung x)).toInt .zero = some (x : Int)
  by_cases hx : x = 0
  ·
   subst hx; decide
  rw [fl_read hx hl]
  unfold Datum.toInt Datum.integral
  have e1 : (-((52 - x.log2 : Nat) : Int)).toNat = 0 := by omega
  have e2 : (- -((52 - x.log2 : Nat) : Int)).toNat = 52 - x.log2 := by omega
  simp only [e1, e2, Nat.shiftLeft_zero]
  have hc : Toward.zero.cut false (x <<< (52 - x.log2)) (52 - x.log2) = x := by
   unfold Toward.cut
   have hm : min (52 - x.log2) ((x <<< (52 - x.log2)).log2 + 2) = 52 - x.log2 := Nat.min_eq_left (by rw [fl_log2 hx]; omega)
   simp only [hm]
   have hg : (1 <<< (52 - x.log2)) = 2 ^ (52 - x.log2) := by rw [Nat.shiftLeft_eq, Nat.one_mul]
   rw [hg, Nat.shiftLeft_eq, Nat.mul_div_cancel _ (Nat.two_pow_pos _)]
   rfl
  rw [hc]
  rfl
 unfold floatToIntVal
 rw [ht]
 simp only [hk.1, hk.2, and_self, if_true]
theorem fl_small {x : Nat} (h : x ≤ 1000000) : x.log2 ≤ 52 := by
 by_cases hx : x = 0
 ·
  subst hx; decide
 have := (Nat.log2_lt hx (k := 53)).2 (by omega)
 omega
end Go.Proofs.YtoanimpijfijgaaGreat

namespace Go.Proofs.YtoanimpijfijgaaGreat
open Go.RowKit
def fl (e : Int) : Nat := rung e.toNat
abbrev mom (e a : Int) : Value := .complex .f64 (fl e) (fl a)
theorem fl_ofInt {e : Int} (h : 0 ≤ e ∧ e ≤ 1000000) : floatOfInt .f64 e = fl e := by
 unfold fl
 have h1 : ((e.toNat : Nat) : Int) = e := by omega
 have := fl_of (fl_small (x := e.toNat) (by omega))
 rw [h1] at this
 exact this
theorem fl_toInt {e : Int} (h : 0 ≤ e ∧ e ≤ 1000000) (k : IntKind) (hk : k = .i64 ∨ k = .u64) : floatToIntVal .f64 (fl e) k = some e := by
 unfold fl
 have h1 : ((e.toNat : Nat) : Int) = e := by omega
 have := fl_int (fl_small (x := e.toNat) (by omega)) k (by
  rw [h1]
  rcases hk with rfl | rfl
  ·
   have a : IntKind.i64.min = -9223372036854775808 := by decide
   have b : IntKind.i64.max = 9223372036854775807 := by decide
   omega
  have a : IntKind.u64.min = 0 := by decide
  have b : IntKind.u64.max = 18446744073709551615 := by decide
  omega)
 rw [h1] at this
 exact this
theorem run_moments {P : Program} (w : World) (t : TypeId) {e a f b r s : Int} (he : 0 ≤ e ∧ e ≤ 500000) (ha : 0 ≤ a ∧ a ≤ 500000) (hf : 0 ≤ f ∧ f ≤ 500000) (hb : 0 ≤ b ∧ b ≤ 500000) (hr : e + f = r) (hs : a + b = s) :
  (binOp .add t (mom e a) (mom f b)).run P w = .ok (mom r s) w := by
 subst hr
 subst hs
 have h1 : (e + f).toNat = e.toNat + f.toNat := by omega
 have h2 : (a + b).toNat = a.toNat + b.toNat := by omega
 have := run_complex_sum (P := P) w .add (Or.inl rfl) t .f64 (rung e.toNat) (rung a.toNat) (rung f.toNat) (rung b.toNat) (rung (e.toNat + f.toNat)) (rung (a.toNat + b.toNat)) (by
  unfold cSumBits
  rw [fl_add (fl_small (by omega)) (fl_small (by omega)) (fl_small (by omega)), fl_add (fl_small (by omega)) (fl_small (by omega)) (fl_small (by omega))]
  rfl)
 rw [mom, mom, mom, fl, fl, fl, fl, fl, fl, h1, h2]
 exact this
theorem momentOfC (e a : Int) (he : 0 ≤ e ∧ e ≤ 1000000) (ha : 0 ≤ a ∧ a ≤ 1000000) (w : World) :
  Calls Tryz.prog 164 #[.int .i64 e, .int .u64 a] w fun r w' => r = .returned (mom e a) ∧ w' = w := by
 have f1 := fl_ofInt he
 have f2 := fl_ofInt ha
 go_enter Tryz.func164, Tryz.ntmps164
 go_wp2_with fail
 all_goals (go_ret; exact ⟨rfl, rfl⟩)
theorem timeC (e a : Int) (ha : 0 ≤ a ∧ a ≤ 1000000) (w : World) :
  Calls Tryz.prog 165 #[mom e a] w fun r w' => r = .returned (.int .u64 a) ∧ w' = w := by
 have hc : ∀ w, (convert 249 181 (.float .f64 (fl a))).run Tryz.prog w = .ok (.int .u64 a) w := fun w => run_convert_float_int w 249 181 .f64 .u64 _ _ (by rw [Tryz.underlying249]; rfl) Tryz.underlying181 (fl_toInt ha .u64 (Or.inr rfl))
 show Calls Tryz.prog 165 #[.complex .f64 (fl e) (fl a)] w _
 generalize fl e = re at *
 generalize fl a = ra at *
 go_enter Tryz.func165, Tryz.ntmps165
 go_wp2_with (simp only [hc])
 all_goals (go_ret; exact ⟨rfl, rfl⟩)
theorem wrap_u64 {a : Int} (h : 0 ≤ a ∧ a ≤ 1000000) : IntKind.u64.wrap a = a := by
 rw [IntKind.wrap_u64]
 omega
theorem clockOfC (t ev ep : Int) (v3 v4 v5 v6 : Value) (w : World) (he : 0 ≤ ep ∧ ep ≤ 999) (ht : 0 ≤ t ∧ t ≤ 9999) :
  Calls Tryz.prog 163 #[.agg #[.int .i64 t, .int .i64 ev, .int .i64 ep, v3, v4, v5, v6]] w fun e w' => e = .returned (mom ep t) ∧ Below w.heap.size w w' := by
 have nb : Below w.heap.size w (w.alloc (.cells #[.int .i64 t, .int .i64 ev, .int .i64 ep, v3, v4, v5, v6] 36)) := (Below.refl _ _).alloc (Nat.le_refl _) _
 have HX : Hid (Box 0 #[.int .i64 t, .int .i64 ev, .int .i64 ep, v3, v4, v5, v6] 36 (w.alloc (.cells #[.int .i64 t, .int .i64 ev, .int .i64 ep, v3, v4, v5, v6] 36)) w.heap.size) := newBox (Nat.zero_le _)
 have HB := yh nb
 have hw1 : IntKind.u64.wrap t = t := wrap_u64 (by omega)
 have HL := yh (momentOfC ep t (by omega) (by omega))
 clear nb he ht
 go_enter Tryz.func163, Tryz.ntmps163
 go_upto_region 1 with fail
 generalize w.alloc (.cells #[.int .i64 t, .int .i64 ev, .int .i64 ep, v3, v4, v5, v6] 36) = w1 at *
 have z0 := Box.at (uh HX) 0 _ rfl
 have z2 := Box.at (uh HX) 2 _ rfl
 simp only [ga, gb, gc] at z0 z2
 have zl := (uh HX).lt
 clear HX
 go_wp2_with fail
 refine (uh HL _).mono ?_
 rintro e w2 ⟨rfl, rfl⟩
 go_wp2_with fail
 go_ret
 exact ⟨rfl, uh HB⟩
theorem tickStepC (L p : Nat) (n : Int) (y : DWorld) (W : World) (hp : Box 0 #[.int .i64 n] 2 W p) (_ : p < L) (he : 0 ≤ y.chain.epoch ∧ y.chain.epoch ≤ 999) (ht : 0 ≤ y.now ∧ y.now ≤ 9000) :
  StepC L 162 #[.pointer (some ⟨p, 0, none⟩)] y (tickC y.now n) (decide (0 < n)) (withNow y (y.now + n)) W := by
 intro g lo v3 v4 v5 v6 hL hg hlo hO
 show Calls Tryz.prog 162 #[.pointer (some ⟨g, 0, none⟩), .pointer (some ⟨p, 0, none⟩)] W _
 have HR := yh hO.reads
 have HO := yh hO
 have HG := yh hg
 have HE : Hid (0 ≤ y.chain.epoch ∧ y.chain.epoch ≤ 999) := he
 have HT : Hid (0 ≤ y.now ∧ y.now ≤ 9000) := ht
 have hp0 := Box.at hp 0 _ rfl
 simp only [List.getElem_toArray, List.getElem_cons_zero] at hp0
 have hpl := hp.lt
 have HPB := yh hp
 clear hp hO hg
 go_enter Tryz.func162, Tryz.ntmps162
 go_wp2_with fail
 refine (isUpToC n 100 _).mono ?_
 rintro e w1 ⟨rfl, h1⟩
 subst w1
 by_cases hn : 0 ≤ n ∧ n ≤ 100
 ·
  have d1 : decide (0 ≤ n) = true := by simpa using hn.1
  have d2 : decide (n ≤ 100) = true := by simpa using hn.2
  rw [d1, d2]
  have hw1 : IntKind.u64.wrap n = n := wrap_u64 (by omega)
  have z0 := Box.at (uh HG) 0 _ rfl
  have z1 := Box.at (uh HG) 1 _ rfl
  have z2 := Box.at (uh HG) 2 _ rfl
  have z3 := Box.at (uh HG) 3 _ rfl
  have z4 := Box.at (uh HG) 4 _ rfl
  have z5 := Box.at (uh HG) 5 _ rfl
  have z6 := Box.at (uh HG) 6 _ rfl
  simp only [ga, gb, gc] at z0 z1 z2 z3 z4 z5 z6
  have hgl := (uh HG).lt
  go_upto_region 3 with fail
  refine wp_region_noPanic ?_
  refine wp_region_held_drew (S := fun w' => Below W.heap.size W w') (by kernel_rfl) ((Below.refl _ _).drew) (fun zq => ?_)
  generalize W.drew = wD at zq ⊢
  refine tkH (i := 0) (oi := ⟨some 9, .move (.tmp 0), 76, "l13_master.go:73", #[], none⟩) (v := ?vk0) rfl ?hk0 zq ?rk0
  case hk0 => intro _ _; go_simp; try with_reducible rfl
  refine tkH (i := 1) (oi := ⟨some 10, .nilCheck (.tmp 9), 0, "l13_master.go:73", #[⟨0, .data⟩], none⟩) (v := ?vk1) rfl ?hk1 zq ?rk1
  case hk1 => intro _ _; go_simp; try with_reducible rfl
  refine tkH (i := 2) (oi := ⟨some 11, .load 36 (.tmp 10), 36, "l13_master.go:73", #[⟨1, .data⟩], none⟩) (v := ?vk2) rfl ?hk2 zq ?rk2
  case hk2 =>
   intro wS hSw
   have q0 := (hSw.cell (p := ⟨g, 0, none⟩) hgl).trans z0
   have q1 := (hSw.cell (p := ⟨g, 1, none⟩) hgl).trans z1
   have q2 := (hSw.cell (p := ⟨g, 2, none⟩) hgl).trans z2
   have q3 := (hSw.cell (p := ⟨g, 3, none⟩) hgl).trans z3
   have q4 := (hSw.cell (p := ⟨g, 4, none⟩) hgl).trans z4
   have q5 := (hSw.cell (p := ⟨g, 5, none⟩) hgl).trans z5
   have q6 := (hSw.cell (p := ⟨g, 6, none⟩) hgl).trans z6
   clear hSw
   (try dsimp only at hSw)
   go_simp
   try with_reducible rfl
  refine tkH (i := 4) (oi := ⟨some 13, .load 2 (.tmp 1), 2, "l13_master.go:73", #[], none⟩) (v := ?vk4) rfl ?hk4 zq ?rk4
  case hk4 =>
   intro wS hSw
   have q0 := (hSw.cell (p := ⟨p, 0, none⟩) hpl).trans hp0
   clear hSw
   (try dsimp only at hSw)
   go_simp
   try with_reducible rfl
  refine tkH (i := 5) (oi := ⟨some 14, .convert 2 181 (.tmp 13), 181, "l13_master.go:73", #[⟨4, .data⟩], none⟩) (v := ?vk5) rfl ?hk5 zq ?rk5
  case hk5 => intro _ _; go_simp; try with_reducible rfl
  refine rdH (i := 3) (oi := ⟨some 12, .call { callee := .value (.func 163), args := #[.tmp 11], argTypes := #[36] }, 183, "l13_master.go:73", #[⟨2, .data⟩], none⟩) rfl (fun K hK => ?_)
  go_simp
  go_at_call 163
  refine (clockOfC y.now y.events y.chain.epoch v3 v4 v5 v6 _ (uh HE) ⟨(uh HT).1, by have := (uh HT).2; omega⟩).mono ?_
  rintro e u ⟨rfl, hbu⟩
  dsimp only [mom]
  try go_wp2_with fail
  refine hK.out _ _ (zq.trans (hbu.mono zq.size)) (fun zq => ?_)
  clear hK K
  try simp only [Act.put, pz, py, px]
  refine rdH (i := 6) (oi := ⟨some 15, .call { callee := .value (.func 164), args := #[.const (.int .i64 0), .tmp 14], argTypes := #[2, 181] }, 183, "l13_master.go:73", #[⟨5, .data⟩, ⟨3, .chain⟩], none⟩) rfl (fun K hK => ?_)
  go_simp
  go_at_call 164
  refine (momentOfC 0 n (by omega) (by omega) _).mono ?_
  rintro e u ⟨rfl, rfl⟩
  dsimp only [mom]
  try go_wp2_with fail
  refine hK.out _ _ zq (fun zq => ?_)
  clear hK K
  try simp only [Act.put, pz, py, px]
  refine tkH (i := 7) (oi := ⟨some 16, .binOp .add 183 (.tmp 12) (.tmp 15) 183, 183, "l13_master.go:73", #[⟨3, .data⟩, ⟨6, .data⟩], none⟩) (v := ?vk7) rfl ?hk7 zq ?rk7
  case hk7 =>
   intro wS hSw
   have hop := run_moments (P := Tryz.prog) wS 183 (e := y.chain.epoch) (a := y.now) (f := 0) (b := n) (r := y.chain.epoch) (s := y.now + n) (by omega) (by omega) (by omega) (by omega) (by omega) rfl
   dsimp only [mom] at hop
   clear hSw
   (try dsimp only at hSw)
   go_simp
   try with_reducible rfl
  refine rdH (i := 8) (oi := ⟨some 17, .call { callee := .value (.func 165), args := #[.tmp 16], argTypes := #[183] }, 181, "l13_master.go:73", #[⟨7, .data⟩, ⟨6, .chain⟩], none⟩) rfl (fun K hK => ?_)
  go_simp
  go_at_call 165
  refine (timeC y.chain.epoch (y.now + n) (by omega) _).mono ?_
  rintro e u ⟨rfl, rfl⟩
  try go_wp2_with fail
  refine hK.out _ _ zq (fun zq => ?_)
  clear hK K
  try simp only [Act.put, pz, py, px]
  refine tkH (i := 9) (oi := ⟨some 5, .assign (.tmp 17), 181, "l13_master.go:73", #[⟨8, .data⟩, ⟨8, .chain⟩, ⟨0, .phase⟩, ⟨1, .phase⟩, ⟨2, .phase⟩, ⟨3, .phase⟩, ⟨4, .phase⟩, ⟨5, .phase⟩, ⟨6, .phase⟩, ⟨7, .phase⟩, ⟨8, .phase⟩], none⟩) (v := ?vk9) rfl ?hk9 zq ?rk9
  case hk9 => intro _ _; go_simp; try with_reducible rfl
  refine wpAnyH_done (by kernel_rfl) ?_ _
  refine NoPanic.normal ?_
  clear z0 z1 z2 z3 z4 z5 z6 hp0 d1 d2
  have HB := yh zq
  have hG := (uh HG).keep zq
  have hP := (uh HPB).keep zq
  have HE0 : Hid (Ext (fun q => lo ≤ q) W u) := yh ((extB_of_below zq).mono (fun k hk q => by omega))
  by_cases h9 : y.now + n ≤ 9000
  ·
   have d3 : decide (9000 < y.now + n) = false := by simpa using h9
   have HC : Hid (tickC y.now n = 0) := if_pos ⟨hn.1, hn.2, h9⟩
   have hw2 : IntKind.i64.wrap (y.now + n) = y.now + n := by rw [IntKind.wrap_i64]; omega
   have k0 := Box.at hG 0 _ rfl
   have q0 := Box.at hP 0 _ rfl
   simp only [List.getElem_toArray, List.getElem_cons_zero] at k0 q0
   have kl := hG.lt
   have ql := hP.lt
   have kf := Box.soft hG
   have hg9 := Box.set hG 0 (.int .i64 (y.now + n))
   simp only [List.setIfInBounds_toArray, List.set_cons_zero] at hg9
   have e9 : Ext (fun q => q = g) u (u.setCell ⟨g, 0, none⟩ (.int .i64 (y.now + n))) := (Ext.refl _ _).setCell _ _ rfl
   have hO9 := (wown_now ((uh HO).later (uh HB)) (y.now + n) (wf_of_bd (by omega))).ext e9 (fun k h1 h2 h3 => h3)
   have HG9 := yh hg9
   have HO9 := yh hO9
   have HE9 := yh ((uh HE0).trans (e9.mono (fun k hk q => by omega)) : Ext (fun q => lo ≤ q) W (u.setCell ⟨g, 0, none⟩ (.int .i64 (y.now + n))))
   have hpg : p ≠ g := by omega
   clear hg9 e9 hO9 HB hG hP HE0 HO HG HPB zq h9
   clear hn he ht HR HE HT
   go_wp2_with fail
   go_ret2
   exact ⟨_, by rw [uh HC]; rfl, fun _ => ⟨rfl, _, _, _, _, uh HG9, uh HO9⟩, uh HE9⟩
  have d3 : decide (9000 < y.now + n) = true := by simpa using h9
  have HC : Hid (tickC y.now n = 3) := if_neg (fun q => h9 q.2.2)
  clear h9 hG hP HB HO HG HPB zq
  clear hn he ht HR HE HT
  go_wp2_with fail
  go_ret2
  exact ⟨false, by rw [uh HC]; rfl, fun h0 => by rw [uh HC] at h0; simp at h0, uh HE0⟩
 have hd : (decide (0 ≤ n) && decide (n ≤ 100)) = false := by
  rw [Bool.and_eq_false_iff]
  by_cases q : 0 ≤ n
  ·
   exact Or.inr (by simpa using fun r => hn ⟨q, r⟩)
  exact Or.inl (by simpa using q)
 have HC : Hid (tickC y.now n = 3) := if_neg (fun q => hn ⟨q.1, q.2.1⟩)
 rw [hd]
 go_wp2_with fail
 go_ret2
 exact ⟨false, by rw [uh HC]; rfl, fun h0 => by rw [uh HC] at h0; simp at h0, Ext.refl _ _⟩
theorem tickMake (n : Int) (w : World) :
  Calls Tryz.prog 86 #[.int .i64 n] w fun e w' => e = .returned (.func (.func 162) #[] #[.pointer (some ⟨w.heap.size, 0, none⟩)]) ∧ w' = (w.alloc (.cells #[.int .i64 n] 2)) := by
 have hmf : ∀ (fn : Fn) (first cap : Array Value) (w : World), (Instr.makeFunc fn first cap).run Tryz.prog w = .ok (.func fn first cap) w := fun _ _ _ _ => rfl
 go_enter Tryz.func86, Tryz.ntmps86
 go_wp2_with fail
 go_ret
 exact ⟨rfl, rfl⟩
theorem implTickWorld (cs : List Value) (x : DWorld) (n : Int) (w : World) (h : Lay.tWorld.Reads w cs x) (hf : Fits x) :
  Calls Tryz.prog 27 #[.agg cs.toArray, .int .i64 n] w fun e w' => ∃ cs', e = .returned (.agg cs'.toArray) ∧ Lay.tWorldResult.OwnIn w' cs' (tickWR x n) w.heap.size w'.heap.size ∧ Below w.heap.size w w' := by
 obtain ⟨a3, d3, a4, d4, a5, d5, a6, d6, rfl, -, -, -, -⟩ := open_World h
 have nb1 : Below w.heap.size w (w.alloc (.cells #[.int .i64 x.now, .int .i64 x.events, .int .i64 x.chain.epoch, .slice a3 x.chain.ids.length d3, .slice a4 x.nodes.length d4, .slice a5 x.msgs.length d5, .slice a6 x.history.length d6] 36)) := (Below.refl _ _).alloc (Nat.le_refl _) _
 have nb : Below w.heap.size w ((w.alloc (.cells #[.int .i64 x.now, .int .i64 x.events, .int .i64 x.chain.epoch, .slice a3 x.chain.ids.length d3, .slice a4 x.nodes.length d4, .slice a5 x.msgs.length d5, .slice a6 x.history.length d6] 36)).alloc (.cells #[.int .i64 0, .bool false, .int .i64 0, .int .i64 0, .int .i64 0, .slice none 0 0, .slice none 0 0, .slice none 0 0, .slice none 0 0] 38)) := nb1.alloc (by simp) _
 have HX : Hid (Box 0 #[.int .i64 x.now, .int .i64 x.events, .int .i64 x.chain.epoch, .slice a3 x.chain.ids.length d3, .slice a4 x.nodes.length d4, .slice a5 x.msgs.length d5, .slice a6 x.history.length d6] 36 ((w.alloc (.cells #[.int .i64 x.now, .int .i64 x.events, .int .i64 x.chain.epoch, .slice a3 x.chain.ids.length d3, .slice a4 x.nodes.length d4, .slice a5 x.msgs.length d5, .slice a6 x.history.length d6] 36)).alloc (.cells #[.int .i64 0, .bool false, .int .i64 0, .int .i64 0, .int .i64 0, .slice none 0 0, .slice none 0 0, .slice none 0 0, .slice none 0 0] 38)) w.heap.size) := (newBox (Nat.zero_le _)).grow _
 have HY : Hid (Box 0 #[.int .i64 0, .bool false, .int .i64 0, .int .i64 0, .int .i64 0, .slice none 0 0, .slice none 0 0, .slice none 0 0, .slice none 0 0] 38 ((w.alloc (.cells #[.int .i64 x.now, .int .i64 x.events, .int .i64 x.chain.epoch, .slice a3 x.chain.ids.length d3, .slice a4 x.nodes.length d4, .slice a5 x.msgs.length d5, .slice a6 x.history.length d6] 36)).alloc (.cells #[.int .i64 0, .bool false, .int .i64 0, .int .i64 0, .int .i64 0, .slice none 0 0, .slice none 0 0, .slice none 0 0, .slice none 0 0] 38)) (w.heap.size + 1)) := newBoxAt (Nat.zero_le _) (by simp)
 have hz0 : ((w.alloc (.cells #[.int .i64 x.now, .int .i64 x.events, .int .i64 x.chain.epoch, .slice a3 x.chain.ids.length d3, .slice a4 x.nodes.length d4, .slice a5 x.msgs.length d5, .slice a6 x.history.length d6] 36)).alloc (.cells #[.int .i64 0, .bool false, .int .i64 0, .int .i64 0, .int .i64 0, .slice none 0 0, .slice none 0 0, .slice none 0 0, .slice none 0 0] 38)).heap.size = w.heap.size + 2 := by simp
 have HR := yh (h.later nb)
 have HB := yh nb
 have HFT := yh hf
 clear nb1 nb h hf
 go_enter Tryz.func27, Tryz.ntmps27
 go_upto_region 1 with fail
 generalize (w.alloc (.cells #[.int .i64 x.now, .int .i64 x.events, .int .i64 x.chain.epoch, .slice a3 x.chain.ids.length d3, .slice a4 x.nodes.length d4, .slice a5 x.msgs.length d5, .slice a6 x.history.length d6] 36)).alloc (.cells #[.int .i64 0, .bool false, .int .i64 0, .int .i64 0, .int .i64 0, .slice none 0 0, .slice none 0 0, .slice none 0 0, .slice none 0 0] 38) = W1 at *
 have LI : Hid (∀ V, Below W1.heap.size W1 V → Calls Tryz.prog 85 #[.agg #[.int .i64 x.now, .int .i64 x.events, .int .i64 x.chain.epoch, .slice a3 x.chain.ids.length d3, .slice a4 x.nodes.length d4, .slice a5 x.msgs.length d5, .slice a6 x.history.length d6]] V fun e w' => e = .returned (.int .i64 (worldFault x)) ∧ Below V.heap.size V w') := fun V hV => implWorldFault _ x V ((uh HR).later hV)
 have LS : Hid (∀ V, Below W1.heap.size W1 V → Calls Tryz.prog 70 #[.agg #[.int .i64 x.now, .int .i64 x.events, .int .i64 x.chain.epoch, .slice a3 x.chain.ids.length d3, .slice a4 x.nodes.length d4, .slice a5 x.msgs.length d5, .slice a6 x.history.length d6], .int .i64 (worldFault x), .func (.func 162) #[] #[.pointer (some ⟨V.heap.size, 0, none⟩)]] (V.alloc (.cells #[.int .i64 n] 2)) fun e w' => ∃ cs', e = .returned (.agg cs'.toArray) ∧ Lay.tWorldResult.OwnIn w' cs' (tickWR x n) V.heap.size w'.heap.size ∧ Below V.heap.size V w') := by
  intro V hV
  have nv : Below V.heap.size V (V.alloc (.cells #[.int .i64 n] 2)) := (Below.refl _ _).alloc (Nat.le_refl _) _
  refine (steppedC 162 _ _ x (worldFault x) (tickC x.now n) (decide (0 < n)) (withNow (nextW x) (x.now + n)) _ (fun a W => rfl) ((uh HR).later (hV.trans (nv.mono hV.size))) (fun h0 => worldFault_zero h0) (uh HFT) (tickC_bd _ _) (by have := wf_vals x; omega) (fun h0 W hW => ?_)).mono ?_
  ·
   have hok := worldFault_zero h0
   exact tickStepC _ (V.heap.size) n (nextW x) W (Box.keep (newBox (Nat.zero_le _)) hW) (by simp) ⟨by have := (chainFault_zero hok.chain).epoch; show 0 ≤ x.chain.epoch; omega, (chainFault_zero hok.chain).epoch.2⟩ hok.now
  rintro e w' ⟨cs', rfl, O, hb⟩
  rw [tickW_eq] at O
  exact ⟨cs', rfl, O.mono nv.size (Nat.le_refl _), nv.trans (hb.mono nv.size)⟩
 have hx := uh HX
 have hxl := hx.lt
 have HD : Hid (Below W1.heap.size W1 W1.drew) := (Below.refl _ _).drew
 replace HY : Hid (Box 0 #[.int .i64 0, .bool false, .int .i64 0, .int .i64 0, .int .i64 0, .slice none 0 0, .slice none 0 0, .slice none 0 0, .slice none 0 0] 38 W1.drew (w.heap.size + 1)) := (uh HY)
 refine wp_region_noPanic ?_
 refine wp_region_held_drew (S := fun w' => Ext (fun q => w.heap.size < q) W1 w') (by kernel_rfl) ((Ext.refl _ _).drew 1) (fun zq => ?_)
 generalize W1.drew = wD at zq HD HY ⊢
 refine tkH (i := 0) (oi := ⟨some 5, .load 36 (.tmp 2), 36, "l13_master.go:136", #[], none⟩) (v := ?vf0) rfl ?hf0 zq ?rf0
 case hf0 =>
  intro wS hSw
  have bS := hx.ext hSw (fun e => Nat.lt_irrefl _ e)
  have q0 := Box.at bS 0 _ rfl
  have q1 := Box.at bS 1 _ rfl
  have q2 := Box.at bS 2 _ rfl
  have q3 := Box.at bS 3 _ rfl
  have q4 := Box.at bS 4 _ rfl
  have q5 := Box.at bS 5 _ rfl
  have q6 := Box.at bS 6 _ rfl
  simp only [ga, gb, gc] at q0 q1 q2 q3 q4 q5 q6
  clear bS hSw
  (try dsimp only at hSw)
  go_simp
  try with_reducible rfl
 refine tkH (i := 1) (oi := ⟨some 6, .load 36 (.tmp 2), 36, "l13_master.go:136", #[], none⟩) (v := ?vf1) rfl ?hf1 zq ?rf1
 case hf1 =>
  intro wS hSw
  have bS := hx.ext hSw (fun e => Nat.lt_irrefl _ e)
  have q0 := Box.at bS 0 _ rfl
  have q1 := Box.at bS 1 _ rfl
  have q2 := Box.at bS 2 _ rfl
  have q3 := Box.at bS 3 _ rfl
  have q4 := Box.at bS 4 _ rfl
  have q5 := Box.at bS 5 _ rfl
  have q6 := Box.at bS 6 _ rfl
  simp only [ga, gb, gc] at q0 q1 q2 q3 q4 q5 q6
  clear bS hSw
  (try dsimp only at hSw)
  go_simp
  try with_reducible rfl
 refine tkH (i := 3) (oi := ⟨some 8, .move (.tmp 1), 2, "l13_master.go:136", #[], none⟩) (v := ?vf3) rfl ?hf3 zq ?rf3
 case hf3 => intro _ _; go_simp; try with_reducible rfl
 refine rdH (i := 2) (oi := ⟨some 7, .call { callee := .value (.func 85), args := #[.tmp 6], argTypes := #[36] }, 2, "l13_master.go:136", #[⟨1, .data⟩], none⟩) rfl (fun K hK => ?_)
 go_simp
 go_at_call 85
 refine (uh LI _ (uh HD)).mono ?_
 rintro e u1 ⟨rfl, hb1⟩
 have HD1 := yh ((uh HD).trans (hb1.mono (uh HD).size))
 have HY1 := yh ((uh HY).keep hb1)
 try go_wp2_with fail
 have hH1 := zq.trans (ext_of_below hb1 (fun q => w.heap.size < q))
 refine hK.out _ _ (zq.trans (ext_of_below hb1 _)) (fun zq => ?_)
 clear hK K
 try simp only [Act.put, pz, py, px]
 refine rdH (i := 4) (oi := ⟨some 9, .call { callee := .value (.func 86), args := #[.tmp 8], argTypes := #[2] }, 96, "l13_master.go:136", #[⟨3, .data⟩, ⟨2, .chain⟩], none⟩) rfl (fun K hK => ?_)
 go_simp
 go_at_call 86
 refine (tickMake n _).mono ?_
 rintro e u2 ⟨rfl, rfl⟩
 try go_wp2_with fail
 refine hK.out _ _ (zq.trans (ext_of_below ((Below.refl _ _).alloc (Nat.le_refl _) _) _)) (fun zq => ?_)
 clear hK K
 try simp only [Act.put, pz, py, px]
 refine rdH (i := 5) (oi := ⟨some 10, .call { callee := .value (.func 70), args := #[.tmp 5, .tmp 7, .tmp 9], argTypes := #[36, 2, 96] }, 38, "l13_master.go:136", #[⟨0, .data⟩, ⟨2, .data⟩, ⟨4, .data⟩, ⟨4, .chain⟩], none⟩) rfl (fun K hK => ?_)
 go_simp
 go_at_call 70
 refine (uh LS u1 (uh HD1)).mono ?_
 rintro e u3 ⟨cs, rfl, O, hb3⟩
 obtain ⟨a5r, d5r, a6r, d6r, a7r, d7r, a8r, d8r, rfl, -⟩ := open_WorldResult O.reads
 have hy := (uh HY1).keep hb3
 try go_wp2_with fail
 refine hK.out _ _ (hH1.trans (ext_of_below hb3 _)) (fun zq => ?_)
 clear hK K
 try simp only [Act.put, pz, py, px]
 refine rdH (i := 6) (oi := ⟨none, .store 38 (.tmp 4) (.tmp 10), 0, "l13_master.go:136", #[⟨5, .data⟩, ⟨5, .chain⟩, ⟨0, .phase⟩, ⟨1, .phase⟩, ⟨2, .phase⟩, ⟨3, .phase⟩, ⟨4, .phase⟩, ⟨5, .phase⟩], none⟩) rfl (fun K hK => ?_)
 generalize hyr : tickWR x n = yr at *
 have HYR := yh hyr
 clear hyr
 have r0 := Box.at hy 0 _ rfl
 have r1 := Box.at hy 1 _ rfl
 have r2 := Box.at hy 2 _ rfl
 have r3 := Box.at hy 3 _ rfl
 have r4 := Box.at hy 4 _ rfl
 have r5 := Box.at hy 5 _ rfl
 have r6 := Box.at hy 6 _ rfl
 have r7 := Box.at hy 7 _ rfl
 have r8 := Box.at hy 8 _ rfl
 simp only [ga, gb, gc] at r0 r1 r2 r3 r4 r5 r6 r7 r8
 have rf := Box.soft hy
 have rl := hy.lt
 go_simp
 refine hK.out _ _ (Ext.setCell (Ext.setCell (Ext.setCell (Ext.setCell (Ext.setCell (Ext.setCell (Ext.setCell (Ext.setCell (Ext.setCell zq ⟨w.heap.size + 1, 0, none⟩ (.int .i64 yr.code) (Nat.lt_succ_self _)) ⟨w.heap.size + 1, 1, none⟩ (.bool yr.moved) (Nat.lt_succ_self _)) ⟨w.heap.size + 1, 2, none⟩ (.int .i64 yr.world.now) (Nat.lt_succ_self _)) ⟨w.heap.size + 1, 3, none⟩ (.int .i64 yr.world.events) (Nat.lt_succ_self _)) ⟨w.heap.size + 1, 4, none⟩ (.int .i64 yr.world.chain.epoch) (Nat.lt_succ_self _)) ⟨w.heap.size + 1, 5, none⟩ (.slice a5r yr.world.chain.ids.length d5r) (Nat.lt_succ_self _)) ⟨w.heap.size + 1, 6, none⟩ (.slice a6r yr.world.nodes.length d6r) (Nat.lt_succ_self _)) ⟨w.heap.size + 1, 7, none⟩ (.slice a7r yr.world.msgs.length d7r) (Nat.lt_succ_self _)) ⟨w.heap.size + 1, 8, none⟩ (.slice a8r yr.world.history.length d8r) (Nat.lt_succ_self _)) (fun zq => ?_)
 clear hK K
 try simp only [Act.put, pz, py, px]
 refine wpAnyH_done (by kernel_rfl) ?_ _
 refine NoPanic.normal ?_
 have hy9 := box_set9W hy (.int .i64 yr.code) (.bool yr.moved) (.int .i64 yr.world.now) (.int .i64 yr.world.events) (.int .i64 yr.world.chain.epoch) (.slice a5r yr.world.chain.ids.length d5r) (.slice a6r yr.world.nodes.length d6r) (.slice a7r yr.world.msgs.length d7r) (.slice a8r yr.world.history.length d8r)
 have e2 : Ext (fun q => q = w.heap.size + 1) u3 (setAll u3 (w.heap.size + 1) 0 [.int .i64 yr.code, .bool yr.moved, .int .i64 yr.world.now, .int .i64 yr.world.events, .int .i64 yr.world.chain.epoch, .slice a5r yr.world.chain.ids.length d5r, .slice a6r yr.world.nodes.length d6r, .slice a7r yr.world.msgs.length d7r, .slice a8r yr.world.history.length d8r]) := ext_setAll _ (Ext.refl _ _) _ _ _ rfl
 have hs1 := hb1.size
 have hs2 := (uh HB).size
 have hs3 := (uh HD).size
 have HO := yh (O.ext e2 (fun q h1 h2 h3 => by omega))
 have HB9 := yh (below_setAll (((uh HB).trans ((uh HD1).mono (uh HB).size)).trans (hb3.mono (by omega))) (w.heap.size + 1) 0 [.int .i64 yr.code, .bool yr.moved, .int .i64 yr.world.now, .int .i64 yr.world.events, .int .i64 yr.world.chain.epoch, .slice a5r yr.world.chain.ids.length d5r, .slice a6r yr.world.nodes.length d6r, .slice a7r yr.world.msgs.length d7r, .slice a8r yr.world.history.length d8r] (by omega))
 have hsz : Hid ((setAll u3 (w.heap.size + 1) 0 [.int .i64 yr.code, .bool yr.moved, .int .i64 yr.world.now, .int .i64 yr.world.events, .int .i64 yr.world.chain.epoch, .slice a5r yr.world.chain.ids.length d5r, .slice a6r yr.world.nodes.length d6r, .slice a7r yr.world.msgs.length d7r, .slice a8r yr.world.history.length d8r]).heap.size = u3.heap.size) := size_setAll _ _ _ _
 clear r0 r1 r2 r3 r4 r5 r6 r7 r8 rf rl
 have r0 := Box.at hy9 0 _ rfl
 have r1 := Box.at hy9 1 _ rfl
 have r2 := Box.at hy9 2 _ rfl
 have r3 := Box.at hy9 3 _ rfl
 have r4 := Box.at hy9 4 _ rfl
 have r5 := Box.at hy9 5 _ rfl
 have r6 := Box.at hy9 6 _ rfl
 have r7 := Box.at hy9 7 _ rfl
 have r8 := Box.at hy9 8 _ rfl
 simp only [ga, gb, gc] at r0 r1 r2 r3 r4 r5 r6 r7 r8
 clear hy hy9 zq e2 O hb3 hb1
 go_wp2_with fail
 refine bodyPost_ret (v := .agg #[.int .i64 yr.code, .bool yr.moved, .int .i64 yr.world.now, .int .i64 yr.world.events, .int .i64 yr.world.chain.epoch, .slice a5r yr.world.chain.ids.length d5r, .slice a6r yr.world.nodes.length d6r, .slice a7r yr.world.msgs.length d7r, .slice a8r yr.world.history.length d8r]) (by simp only [setAll] at r0 r1 r2 r3 r4 r5 r6 r7 r8; simp [results, Tryz.results27, go_sem, r0, r1, r2, r3, r4, r5, r6, r7, r8]) rfl ?_
 rw [uh HYR]
 exact ⟨_, rfl, (uh HO).mono (by omega) (Nat.le_of_eq (uh hsz).symm), uh HB9⟩
theorem lawTickWorld (cs : List Value) (x : DWorld) (n : Int) (w : World) (h : Lay.tWorld.Reads w cs x) :
  Calls Tryz.prog 5 #[.agg cs.toArray, .int .i64 n] w fun e w' => e = .returned (.bool true) ∧ Below w.heap.size w w' := by
 by_cases hn : Lay.tWorld.sz x ≤ 1048576
 ·
  refine lawx_TickWorld cs x n (tickWR x n) w h hn (fun W a ha => specTickWorld a x n W ha (fits_of_sz hn)) (fun W a ha => implTickWorld a x n W ha (fits_of_sz hn)) (tickWR_few hn)
 exact lawover_TickWorld cs x n w h (by omega)
theorem opens_Chain : Opens Lay.tChain 24 := by
 intro H enc W base spare held fuel cs x h
 obtain ⟨xs, n, _, _, hlen, hl, hfi⟩ := DataW.trod_struct Tryz.underlying24 h
 rw [show Tryz.prog.cellsOf 24 = 2 by kernel_rfl] at hlen
 match cs, hlen with
 | [c0, c1], _ =>
 match xs, hl with
 | [y0, y1], _ =>
 have z0 : Tryz.prog.cellsOf 2 = 1 := by kernel_rfl
 have z1 : Tryz.prog.cellsOf 22 = 1 := by kernel_rfl
 have f0 : DataW.trod enc Tryz.prog W base spare held n 2 (([c0, c1].drop 0).take (Tryz.prog.cellsOf 2)) = some y0 := hfi 0 _ rfl
 rw [z0] at f0
 obtain ⟨d0, r0⟩ := (opens_int Tryz.underlying2) enc W base spare held n _ _ f0
 have f1 : DataW.trod enc Tryz.prog W base spare held n 22 (([c0, c1].drop 1).take (Tryz.prog.cellsOf 22)) = some y1 := hfi 1 _ rfl
 rw [z1] at f1
 obtain ⟨d1, r1⟩ := (opens_sl Tryz.underlying22 (by kernel_rfl) (by decide) (opens_int Tryz.underlying2)) enc W base spare held n _ _ f1
 exact ⟨⟨d0, d1⟩, (reads_pair r0 r1)⟩
theorem opens_Write : Opens Lay.tWrite 150 := by
 intro H enc W base spare held fuel cs x h
 obtain ⟨xs, n, _, _, hlen, hl, hfi⟩ := DataW.trod_struct Tryz.underlying150 h
 rw [show Tryz.prog.cellsOf 150 = 5 by kernel_rfl] at hlen
 match cs, hlen with
 | [c0, c1, c2, c3, c4], _ =>
 match xs, hl with
 | [y0, y1, y2, y3, y4], _ =>
 have z0 : Tryz.prog.cellsOf 2 = 1 := by kernel_rfl
 have z1 : Tryz.prog.cellsOf 22 = 1 := by kernel_rfl
 have f0 : DataW.trod enc Tryz.prog W base spare held n 2 (([c0, c1, c2, c3, c4].drop 0).take (Tryz.prog.cellsOf 2)) = some y0 := hfi 0 _ rfl
 rw [z0] at f0
 obtain ⟨d0, r0⟩ := (opens_int Tryz.underlying2) enc W base spare held n _ _ f0
 have f1 : DataW.trod enc Tryz.prog W base spare held n 2 (([c0, c1, c2, c3, c4].drop 1).take (Tryz.prog.cellsOf 2)) = some y1 := hfi 1 _ rfl
 rw [z0] at f1
 obtain ⟨d1, r1⟩ := (opens_int Tryz.underlying2) enc W base spare held n _ _ f1
 have f2 : DataW.trod enc Tryz.prog W base spare held n 22 (([c0, c1, c2, c3, c4].drop 2).take (Tryz.prog.cellsOf 22)) = some y2 := hfi 2 _ rfl
 rw [z1] at f2
 obtain ⟨d2, r2⟩ := (opens_sl Tryz.underlying22 (by kernel_rfl) (by decide) (opens_int Tryz.underlying2)) enc W base spare held n _ _ f2
 have f3 : DataW.trod enc Tryz.prog W base spare held n 2 (([c0, c1, c2, c3, c4].drop 3).take (Tryz.prog.cellsOf 2)) = some y3 := hfi 3 _ rfl
 rw [z0] at f3
 obtain ⟨d3, r3⟩ := (opens_int Tryz.underlying2) enc W base spare held n _ _ f3
 have f4 : DataW.trod enc Tryz.prog W base spare held n 2 (([c0, c1, c2, c3, c4].drop 4).take (Tryz.prog.cellsOf 2)) = some y4 := hfi 4 _ rfl
 rw [z0] at f4
 obtain ⟨d4, r4⟩ := (opens_int Tryz.underlying2) enc W base spare held n _ _ f4
 exact ⟨⟨d0, d1, d2, d3, d4⟩, (reads_pair r0 (reads_pair r1 (reads_pair r2 (reads_pair r3 r4))))⟩
theorem opens_Node : Opens Lay.tNode 148 := by
 intro H enc W base spare held fuel cs x h
 obtain ⟨xs, n, _, _, hlen, hl, hfi⟩ := DataW.trod_struct Tryz.underlying148 h
 rw [show Tryz.prog.cellsOf 148 = 7 by kernel_rfl] at hlen
 match cs, hlen with
 | [c0, c1, c2, c3, c4, c5, c6], _ =>
 match xs, hl with
 | [y0, y1, y2, y3, y4, y5, y6], _ =>
 have z0 : Tryz.prog.cellsOf 2 = 1 := by kernel_rfl
 have z1 : Tryz.prog.cellsOf 4 = 1 := by kernel_rfl
 have z2 : Tryz.prog.cellsOf 146 = 1 := by kernel_rfl
 have f0 : DataW.trod enc Tryz.prog W base spare held n 2 (([c0, c1, c2, c3, c4, c5, c6].drop 0).take (Tryz.prog.cellsOf 2)) = some y0 := hfi 0 _ rfl
 rw [z0] at f0
 obtain ⟨d0, r0⟩ := (opens_int Tryz.underlying2) enc W base spare held n _ _ f0
 have f1 : DataW.trod enc Tryz.prog W base spare held n 4 (([c0, c1, c2, c3, c4, c5, c6].drop 1).take (Tryz.prog.cellsOf 4)) = some y1 := hfi 1 _ rfl
 rw [z1] at f1
 obtain ⟨d1, r1⟩ := (opens_bool Tryz.underlying4) enc W base spare held n _ _ f1
 have f2 : DataW.trod enc Tryz.prog W base spare held n 2 (([c0, c1, c2, c3, c4, c5, c6].drop 2).take (Tryz.prog.cellsOf 2)) = some y2 := hfi 2 _ rfl
 rw [z0] at f2
 obtain ⟨d2, r2⟩ := (opens_int Tryz.underlying2) enc W base spare held n _ _ f2
 have f3 : DataW.trod enc Tryz.prog W base spare held n 2 (([c0, c1, c2, c3, c4, c5, c6].drop 3).take (Tryz.prog.cellsOf 2)) = some y3 := hfi 3 _ rfl
 rw [z0] at f3
 obtain ⟨d3, r3⟩ := (opens_int Tryz.underlying2) enc W base spare held n _ _ f3
 have f4 : DataW.trod enc Tryz.prog W base spare held n 146 (([c0, c1, c2, c3, c4, c5, c6].drop 4).take (Tryz.prog.cellsOf 146)) = some y4 := hfi 4 _ rfl
 rw [z2] at f4
 obtain ⟨d4, r4⟩ := (opens_sl Tryz.underlying146 (by kernel_rfl) (by decide) opens_Write) enc W base spare held n _ _ f4
 have f5 : DataW.trod enc Tryz.prog W base spare held n 2 (([c0, c1, c2, c3, c4, c5, c6].drop 5).take (Tryz.prog.cellsOf 2)) = some y5 := hfi 5 _ rfl
 rw [z0] at f5
 obtain ⟨d5, r5⟩ := (opens_int Tryz.underlying2) enc W base spare held n _ _ f5
 have f6 : DataW.trod enc Tryz.prog W base spare held n 2 (([c0, c1, c2, c3, c4, c5, c6].drop 6).take (Tryz.prog.cellsOf 2)) = some y6 := hfi 6 _ rfl
 rw [z0] at f6
 obtain ⟨d6, r6⟩ := (opens_int Tryz.underlying2) enc W base spare held n _ _ f6
 exact ⟨⟨d0, d1, d2, d3, d4, d5, d6⟩, (reads_pair r0 (reads_pair r1 (reads_pair r2 (reads_pair r3 (reads_pair r4 (reads_pair r5 r6))))))⟩
theorem opens_Msg : Opens Lay.tMsg 152 := by
 intro H enc W base spare held fuel cs x h
 obtain ⟨xs, n, _, _, hlen, hl, hfi⟩ := DataW.trod_struct Tryz.underlying152 h
 rw [show Tryz.prog.cellsOf 152 = 10 by kernel_rfl] at hlen
 match cs, hlen with
 | [c0, c1, c2, c3, c4, c5, c6, c7, c8, c9], _ =>
 match xs, hl with
 | [y0, y1, y2, y3, y4, y5], _ =>
 have z0 : Tryz.prog.cellsOf 2 = 1 := by kernel_rfl
 have z1 : Tryz.prog.cellsOf 150 = 5 := by kernel_rfl
 have f0 : DataW.trod enc Tryz.prog W base spare held n 2 (([c0, c1, c2, c3, c4, c5, c6, c7, c8, c9].drop 0).take (Tryz.prog.cellsOf 2)) = some y0 := hfi 0 _ rfl
 rw [z0] at f0
 obtain ⟨d0, r0⟩ := (opens_int Tryz.underlying2) enc W base spare held n _ _ f0
 have f1 : DataW.trod enc Tryz.prog W base spare held n 2 (([c0, c1, c2, c3, c4, c5, c6, c7, c8, c9].drop 1).take (Tryz.prog.cellsOf 2)) = some y1 := hfi 1 _ rfl
 rw [z0] at f1
 obtain ⟨d1, r1⟩ := (opens_int Tryz.underlying2) enc W base spare held n _ _ f1
 have f2 : DataW.trod enc Tryz.prog W base spare held n 2 (([c0, c1, c2, c3, c4, c5, c6, c7, c8, c9].drop 2).take (Tryz.prog.cellsOf 2)) = some y2 := hfi 2 _ rfl
 rw [z0] at f2
 obtain ⟨d2, r2⟩ := (opens_int Tryz.underlying2) enc W base spare held n _ _ f2
 have f3 : DataW.trod enc Tryz.prog W base spare held n 2 (([c0, c1, c2, c3, c4, c5, c6, c7, c8, c9].drop 3).take (Tryz.prog.cellsOf 2)) = some y3 := hfi 3 _ rfl
 rw [z0] at f3
 obtain ⟨d3, r3⟩ := (opens_int Tryz.underlying2) enc W base spare held n _ _ f3
 have f4 : DataW.trod enc Tryz.prog W base spare held n 2 (([c0, c1, c2, c3, c4, c5, c6, c7, c8, c9].drop 4).take (Tryz.prog.cellsOf 2)) = some y4 := hfi 4 _ rfl
 rw [z0] at f4
 obtain ⟨d4, r4⟩ := (opens_int Tryz.underlying2) enc W base spare held n _ _ f4
 have f5 : DataW.trod enc Tryz.prog W base spare held n 150 (([c0, c1, c2, c3, c4, c5, c6, c7, c8, c9].drop 5).take (Tryz.prog.cellsOf 150)) = some y5 := hfi 5 _ rfl
 rw [z1] at f5
 obtain ⟨d5, r5⟩ := (opens_Write) enc W base spare held n _ _ f5
 exact ⟨⟨d0, d1, d2, d3, d4, d5⟩, (reads_pair r0 (reads_pair r1 (reads_pair r2 (reads_pair r3 (reads_pair r4 r5)))))⟩
theorem opens_Hit : Opens Lay.tHit 297 := by
 intro H enc W base spare held fuel cs x h
 obtain ⟨xs, n, _, _, hlen, hl, hfi⟩ := DataW.trod_struct Tryz.underlying297 h
 rw [show Tryz.prog.cellsOf 297 = 2 by kernel_rfl] at hlen
 match cs, hlen with
 | [c0, c1], _ =>
 match xs, hl with
 | [y0, y1], _ =>
 have z0 : Tryz.prog.cellsOf 2 = 1 := by kernel_rfl
 have f0 : DataW.trod enc Tryz.prog W base spare held n 2 (([c0, c1].drop 0).take (Tryz.prog.cellsOf 2)) = some y0 := hfi 0 _ rfl
 rw [z0] at f0
 obtain ⟨d0, r0⟩ := (opens_int Tryz.underlying2) enc W base spare held n _ _ f0
 have f1 : DataW.trod enc Tryz.prog W base spare held n 2 (([c0, c1].drop 1).take (Tryz.prog.cellsOf 2)) = some y1 := hfi 1 _ rfl
 rw [z0] at f1
 obtain ⟨d1, r1⟩ := (opens_int Tryz.underlying2) enc W base spare held n _ _ f1
 exact ⟨⟨d0, d1⟩, (reads_pair r0 r1)⟩
theorem opens_Entry : Opens Lay.tEntry 156 := by
 intro H enc W base spare held fuel cs x h
 obtain ⟨xs, n, _, _, hlen, hl, hfi⟩ := DataW.trod_struct Tryz.underlying156 h
 rw [show Tryz.prog.cellsOf 156 = 11 by kernel_rfl] at hlen
 match cs, hlen with
 | [c0, c1, c2, c3, c4, c5, c6, c7, c8, c9, c10], _ =>
 match xs, hl with
 | [y0, y1, y2, y3, y4, y5, y6, y7, y8, y9, y10], _ =>
 have z0 : Tryz.prog.cellsOf 2 = 1 := by kernel_rfl
 have z1 : Tryz.prog.cellsOf 22 = 1 := by kernel_rfl
 have z2 : Tryz.prog.cellsOf 154 = 1 := by kernel_rfl
 have f0 : DataW.trod enc Tryz.prog W base spare held n 2 (([c0, c1, c2, c3, c4, c5, c6, c7, c8, c9, c10].drop 0).take (Tryz.prog.cellsOf 2)) = some y0 := hfi 0 _ rfl
 rw [z0] at f0
 obtain ⟨d0, r0⟩ := (opens_int Tryz.underlying2) enc W base spare held n _ _ f0
 have f1 : DataW.trod enc Tryz.prog W base spare held n 2 (([c0, c1, c2, c3, c4, c5, c6, c7, c8, c9, c10].drop 1).take (Tryz.prog.cellsOf 2)) = some y1 := hfi 1 _ rfl
 rw [z0] at f1
 obtain ⟨d1, r1⟩ := (opens_int Tryz.underlying2) enc W base spare held n _ _ f1
 have f2 : DataW.trod enc Tryz.prog W base spare held n 2 (([c0, c1, c2, c3, c4, c5, c6, c7, c8, c9, c10].drop 2).take (Tryz.prog.cellsOf 2)) = some y2 := hfi 2 _ rfl
 rw [z0] at f2
 obtain ⟨d2, r2⟩ := (opens_int Tryz.underlying2) enc W base spare held n _ _ f2
 have f3 : DataW.trod enc Tryz.prog W base spare held n 2 (([c0, c1, c2, c3, c4, c5, c6, c7, c8, c9, c10].drop 3).take (Tryz.prog.cellsOf 2)) = some y3 := hfi 3 _ rfl
 rw [z0] at f3
 obtain ⟨d3, r3⟩ := (opens_int Tryz.underlying2) enc W base spare held n _ _ f3
 have f4 : DataW.trod enc Tryz.prog W base spare held n 22 (([c0, c1, c2, c3, c4, c5, c6, c7, c8, c9, c10].drop 4).take (Tryz.prog.cellsOf 22)) = some y4 := hfi 4 _ rfl
 rw [z1] at f4
 obtain ⟨d4, r4⟩ := (opens_sl Tryz.underlying22 (by kernel_rfl) (by decide) (opens_int Tryz.underlying2)) enc W base spare held n _ _ f4
 have f5 : DataW.trod enc Tryz.prog W base spare held n 2 (([c0, c1, c2, c3, c4, c5, c6, c7, c8, c9, c10].drop 5).take (Tryz.prog.cellsOf 2)) = some y5 := hfi 5 _ rfl
 rw [z0] at f5
 obtain ⟨d5, r5⟩ := (opens_int Tryz.underlying2) enc W base spare held n _ _ f5
 have f6 : DataW.trod enc Tryz.prog W base spare held n 2 (([c0, c1, c2, c3, c4, c5, c6, c7, c8, c9, c10].drop 6).take (Tryz.prog.cellsOf 2)) = some y6 := hfi 6 _ rfl
 rw [z0] at f6
 obtain ⟨d6, r6⟩ := (opens_int Tryz.underlying2) enc W base spare held n _ _ f6
 have f7 : DataW.trod enc Tryz.prog W base spare held n 2 (([c0, c1, c2, c3, c4, c5, c6, c7, c8, c9, c10].drop 7).take (Tryz.prog.cellsOf 2)) = some y7 := hfi 7 _ rfl
 rw [z0] at f7
 obtain ⟨d7, r7⟩ := (opens_int Tryz.underlying2) enc W base spare held n _ _ f7
 have f8 : DataW.trod enc Tryz.prog W base spare held n 2 (([c0, c1, c2, c3, c4, c5, c6, c7, c8, c9, c10].drop 8).take (Tryz.prog.cellsOf 2)) = some y8 := hfi 8 _ rfl
 rw [z0] at f8
 obtain ⟨d8, r8⟩ := (opens_int Tryz.underlying2) enc W base spare held n _ _ f8
 have f9 : DataW.trod enc Tryz.prog W base spare held n 22 (([c0, c1, c2, c3, c4, c5, c6, c7, c8, c9, c10].drop 9).take (Tryz.prog.cellsOf 22)) = some y9 := hfi 9 _ rfl
 rw [z1] at f9
 obtain ⟨d9, r9⟩ := (opens_sl Tryz.underlying22 (by kernel_rfl) (by decide) (opens_int Tryz.underlying2)) enc W base spare held n _ _ f9
 have f10 : DataW.trod enc Tryz.prog W base spare held n 154 (([c0, c1, c2, c3, c4, c5, c6, c7, c8, c9, c10].drop 10).take (Tryz.prog.cellsOf 154)) = some y10 := hfi 10 _ rfl
 rw [z2] at f10
 obtain ⟨d10, r10⟩ := (opens_sl Tryz.underlying154 (by kernel_rfl) (by decide) opens_Hit) enc W base spare held n _ _ f10
 exact ⟨⟨d0, d1, d2, d3, d4, d5, d6, d7, d8, d9, d10⟩, (reads_pair r0 (reads_pair r1 (reads_pair r2 (reads_pair r3 (reads_pair r4 (reads_pair r5 (reads_pair r6 (reads_pair r7 (reads_pair r8 (reads_pair r9 r10))))))))))⟩
theorem opens_World : Opens Lay.tWorld 29 := by
 intro H enc W base spare held fuel cs x h
 obtain ⟨xs, n, _, _, hlen, hl, hfi⟩ := DataW.trod_struct Tryz.underlying29 h
 rw [show Tryz.prog.cellsOf 29 = 7 by kernel_rfl] at hlen
 match cs, hlen with
 | [c0, c1, c2, c3, c4, c5, c6], _ =>
 match xs, hl with
 | [y0, y1, y2, y3, y4, y5], _ =>
 have z0 : Tryz.prog.cellsOf 2 = 1 := by kernel_rfl
 have z1 : Tryz.prog.cellsOf 24 = 2 := by kernel_rfl
 have z2 : Tryz.prog.cellsOf 25 = 1 := by kernel_rfl
 have z3 : Tryz.prog.cellsOf 26 = 1 := by kernel_rfl
 have z4 : Tryz.prog.cellsOf 27 = 1 := by kernel_rfl
 have f0 : DataW.trod enc Tryz.prog W base spare held n 2 (([c0, c1, c2, c3, c4, c5, c6].drop 0).take (Tryz.prog.cellsOf 2)) = some y0 := hfi 0 _ rfl
 rw [z0] at f0
 obtain ⟨d0, r0⟩ := (opens_int Tryz.underlying2) enc W base spare held n _ _ f0
 have f1 : DataW.trod enc Tryz.prog W base spare held n 2 (([c0, c1, c2, c3, c4, c5, c6].drop 1).take (Tryz.prog.cellsOf 2)) = some y1 := hfi 1 _ rfl
 rw [z0] at f1
 obtain ⟨d1, r1⟩ := (opens_int Tryz.underlying2) enc W base spare held n _ _ f1
 have f2 : DataW.trod enc Tryz.prog W base spare held n 24 (([c0, c1, c2, c3, c4, c5, c6].drop 2).take (Tryz.prog.cellsOf 24)) = some y2 := hfi 2 _ rfl
 rw [z1] at f2
 obtain ⟨d2, r2⟩ := (opens_Chain) enc W base spare held n _ _ f2
 have f3 : DataW.trod enc Tryz.prog W base spare held n 25 (([c0, c1, c2, c3, c4, c5, c6].drop 4).take (Tryz.prog.cellsOf 25)) = some y3 := hfi 3 _ rfl
 rw [z2] at f3
 obtain ⟨d3, r3⟩ := (opens_sl Tryz.underlying25 (by kernel_rfl) (by decide) opens_Node) enc W base spare held n _ _ f3
 have f4 : DataW.trod enc Tryz.prog W base spare held n 26 (([c0, c1, c2, c3, c4, c5, c6].drop 5).take (Tryz.prog.cellsOf 26)) = some y4 := hfi 4 _ rfl
 rw [z3] at f4
 obtain ⟨d4, r4⟩ := (opens_sl Tryz.underlying26 (by kernel_rfl) (by decide) opens_Msg) enc W base spare held n _ _ f4
 have f5 : DataW.trod enc Tryz.prog W base spare held n 27 (([c0, c1, c2, c3, c4, c5, c6].drop 6).take (Tryz.prog.cellsOf 27)) = some y5 := hfi 5 _ rfl
 rw [z4] at f5
 obtain ⟨d5, r5⟩ := (opens_sl Tryz.underlying27 (by kernel_rfl) (by decide) opens_Entry) enc W base spare held n _ _ f5
 exact ⟨⟨d0, d1, d2, d3, d4, d5⟩, (reads_pair r0 (reads_pair r1 (reads_pair r2 (reads_pair r3 (reads_pair r4 r5)))))⟩
end Go.Proofs.YtoanimpijfijgaaGreat
