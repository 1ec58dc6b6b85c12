/-
  Texts of this proof in one: ImplDone, ImplStepped, FacePlain, SpecWA, SpecWNext, SpecWPut, AskedPlain, SpecSyncN, SpecSyncW, ImplSetN, ImplNodeOf.
  Their conditions stand in their theorems.
-/
import Derived.Test.YtdnhmoppineegaaGreatSw06
import Derived.Test.YtdnhmoppineegaaGreatSw11
import Derived.Test.YtdnhmoppineegaaGreatSw00
import Derived.Defers
import Derived.Recover
import Derived.Laws.Pointers
import Derived.Test.YtdnhmoppineegaaGreatSw09
import Derived.Test.YtdnhmoppineegaaGreatSw08
import Derived.Deep.CutRange
import Derived.Test.YtdnhmoppineegaaGreatSw07
import Derived.Deep.RegionHeld3
import Derived.Test.YtdnhmoppineegaaGreatSw10
set_option maxRecDepth 100000
set_option maxHeartbeats 4000000
namespace Go.Proofs.YtdnhmoppineegaaGreat
open Go.RowKit
def idFaultR (x : DWorld) (id : Int) : Int := if worldFault x ≠ 0 then worldFault x else if nodeIn x id = false then 4 else 0
theorem idFaultC (cs : List Value) (x : DWorld) (id : Int) (w : World) (h : Lay.tWorld.Reads w cs x) :
  Calls Tryz.prog 57 #[.agg cs.toArray, .int .i64 id] w fun e w' => e = .returned (.int .i64 (idFaultR x id)) ∧ Below w.heap.size w w' := by
 obtain ⟨a3, d3, a4, d4, a5, d5, a6, d6, rfl, -, -, -, -⟩ := open_World h
 have nb : Below w.heap.size w (w.alloc (.cells #[.int .i64 x.now, .int .i64 x.events, .int .i64 x.chain.epoch, .slice a3 x.chain.ids.length d3, .slice a4 x.nodes.length d4, .slice a5 x.msgs.length d5, .slice a6 x.history.length d6] 36)) := (Below.refl _ _).alloc (Nat.le_refl _) _
 have HX : Hid (Box 0 #[.int .i64 x.now, .int .i64 x.events, .int .i64 x.chain.epoch, .slice a3 x.chain.ids.length d3, .slice a4 x.nodes.length d4, .slice a5 x.msgs.length d5, .slice a6 x.history.length d6] 36 (w.alloc (.cells #[.int .i64 x.now, .int .i64 x.events, .int .i64 x.chain.epoch, .slice a3 x.chain.ids.length d3, .slice a4 x.nodes.length d4, .slice a5 x.msgs.length d5, .slice a6 x.history.length d6] 36)) w.heap.size) := newBox (Nat.zero_le _)
 have HR := yh (h.later nb)
 have HP : Hid (idFaultR x id = if worldFault x ≠ 0 then worldFault x else if nodeIn x id = false then 4 else 0) := rfl
 have HB := yh nb
 clear nb h
 generalize idFaultR x id = r at *
 go_enter Tryz.func57, Tryz.ntmps57
 go_upto_region 1 with fail
 generalize w.alloc (.cells #[.int .i64 x.now, .int .i64 x.events, .int .i64 x.chain.epoch, .slice a3 x.chain.ids.length d3, .slice a4 x.nodes.length d4, .slice a5 x.msgs.length d5, .slice a6 x.history.length d6] 36) = w1 at *
 have z0 := Box.at (uh HX) 0 _ rfl
 have z1 := Box.at (uh HX) 1 _ rfl
 have z2 := Box.at (uh HX) 2 _ rfl
 have z3 := Box.at (uh HX) 3 _ rfl
 have z4 := Box.at (uh HX) 4 _ rfl
 have z5 := Box.at (uh HX) 5 _ rfl
 have z6 := Box.at (uh HX) 6 _ rfl
 simp only [ga, gb, gc] at z0 z1 z2 z3 z4 z5 z6
 go_wp2_with fail
 refine (implWorldFault _ x w1 (uh HR)).mono ?_
 rintro e w2 ⟨rfl, hb⟩
 clear z0 z1 z2 z3 z4 z5 z6
 replace HX := yh ((uh HX).keep hb)
 replace HR := yh ((uh HR).later hb)
 replace HB := yh ((uh HB).trans (hb.mono (uh HB).size))
 clear hb
 have z0 := Box.at (uh HX) 0 _ rfl
 have z1 := Box.at (uh HX) 1 _ rfl
 have z2 := Box.at (uh HX) 2 _ rfl
 have z3 := Box.at (uh HX) 3 _ rfl
 have z4 := Box.at (uh HX) 4 _ rfl
 have z5 := Box.at (uh HX) 5 _ rfl
 have z6 := Box.at (uh HX) 6 _ rfl
 simp only [ga, gb, gc] at z0 z1 z2 z3 z4 z5 z6
 by_cases d1 : worldFault x ≠ 0
 ·
  have hd : (worldFault x != 0) = true := by simpa using d1
  replace HP := yh ((uh HP).trans (if_pos d1))
  clear d1
  generalize worldFault x = c at *
  go_wp2_with fail
  go_ret
  exact ⟨by rw [uh HP]; rfl, uh HB⟩
 replace HP := yh ((uh HP).trans (if_neg d1))
 have hd : worldFault x = 0 := by simpa using d1
 clear d1
 rw [hd]
 clear hd
 go_wp2_with fail
 refine (hasNodeC _ x id w2 (uh HR)).mono ?_
 rintro e w3 ⟨rfl, hb⟩
 replace HB := yh ((uh HB).trans (hb.mono (uh HB).size))
 clear hb z0 z1 z2 z3 z4 z5 z6
 generalize nodeIn x id = q at *
 cases q
 ·
  replace HP := yh ((uh HP).trans (if_pos rfl))
  go_wp2_with fail
  go_ret
  exact ⟨by rw [uh HP]; rfl, uh HB⟩
 replace HP := yh ((uh HP).trans (if_neg (by simp)))
 go_wp2_with fail
 go_ret
 exact ⟨by rw [uh HP]; rfl, uh HB⟩
theorem doneInC (N : Nat) (cap : Array Value) (cs : List Value) (x : DWorld) (c : Int) (mv : Bool) (z : DWorld) (w : World) (hfa : ∀ (a : Array Value) (W : World), (callFunc N (a ++ cap)).run Tryz.prog W = .ok (.enter N (a ++ cap)) W) (h : Lay.tWorld.Reads w cs x) (hok : WorldOK x) (hf : Fits x) (hc : -1000000000 ≤ c ∧ c ≤ 1000000000)
  (hstep : ∀ W, Below w.heap.size w W → StepC w.heap.size N cap (nextW x) c mv z W) :
  Calls Tryz.prog 106 #[.agg cs.toArray, .func (.func N) #[] cap] w fun e w' => ∃ cs', e = .returned (.agg cs'.toArray) ∧ Lay.tWorldResult.OwnIn w' cs' (resW c mv z) w.heap.size w'.heap.size ∧ Below w.heap.size w w' := by
 obtain ⟨a3, d3, a4, d4, a5, d5, a6, d6, rfl, -, -, -, -⟩ := open_World h
 have nb1 : Below w.heap.size w (w.alloc (.cells #[.int .i64 x.now, .int .i64 x.events, .int .i64 x.chain.epoch, .slice a3 x.chain.ids.length d3, .slice a4 x.nodes.length d4, .slice a5 x.msgs.length d5, .slice a6 x.history.length d6] 36)) := (Below.refl _ _).alloc (Nat.le_refl _) _
 have HB : Hid (Below w.heap.size w ((w.alloc (.cells #[.int .i64 x.now, .int .i64 x.events, .int .i64 x.chain.epoch, .slice a3 x.chain.ids.length d3, .slice a4 x.nodes.length d4, .slice a5 x.msgs.length d5, .slice a6 x.history.length d6] 36)).alloc (.cells #[.int .i64 0, .bool false, .int .i64 0, .int .i64 0, .int .i64 0, .slice none 0 0, .slice none 0 0, .slice none 0 0, .slice none 0 0] 38))) := nb1.alloc (by simp) _
 have HX : Hid (Box 0 #[.int .i64 x.now, .int .i64 x.events, .int .i64 x.chain.epoch, .slice a3 x.chain.ids.length d3, .slice a4 x.nodes.length d4, .slice a5 x.msgs.length d5, .slice a6 x.history.length d6] 36 ((w.alloc (.cells #[.int .i64 x.now, .int .i64 x.events, .int .i64 x.chain.epoch, .slice a3 x.chain.ids.length d3, .slice a4 x.nodes.length d4, .slice a5 x.msgs.length d5, .slice a6 x.history.length d6] 36)).alloc (.cells #[.int .i64 0, .bool false, .int .i64 0, .int .i64 0, .int .i64 0, .slice none 0 0, .slice none 0 0, .slice none 0 0, .slice none 0 0] 38)) w.heap.size) := (newBox (Nat.zero_le _)).grow _
 have HY : Hid (Box 0 #[.int .i64 0, .bool false, .int .i64 0, .int .i64 0, .int .i64 0, .slice none 0 0, .slice none 0 0, .slice none 0 0, .slice none 0 0] 38 ((w.alloc (.cells #[.int .i64 x.now, .int .i64 x.events, .int .i64 x.chain.epoch, .slice a3 x.chain.ids.length d3, .slice a4 x.nodes.length d4, .slice a5 x.msgs.length d5, .slice a6 x.history.length d6] 36)).alloc (.cells #[.int .i64 0, .bool false, .int .i64 0, .int .i64 0, .int .i64 0, .slice none 0 0, .slice none 0 0, .slice none 0 0, .slice none 0 0] 38)) (w.heap.size + 1)) := newBoxAt (Nat.zero_le _) (by simp)
 have hz0 : ((w.alloc (.cells #[.int .i64 x.now, .int .i64 x.events, .int .i64 x.chain.epoch, .slice a3 x.chain.ids.length d3, .slice a4 x.nodes.length d4, .slice a5 x.msgs.length d5, .slice a6 x.history.length d6] 36)).alloc (.cells #[.int .i64 0, .bool false, .int .i64 0, .int .i64 0, .int .i64 0, .slice none 0 0, .slice none 0 0, .slice none 0 0, .slice none 0 0] 38)).heap.size = w.heap.size + 2 := by simp
 have HR := yh (h.later (uh HB))
 have HOK := yh hok
 have HF := yh hf
 have HST := yh hstep
 have HCB := yh hc
 clear nb1 h hok hf hstep hc
 go_enter Tryz.func106, Tryz.ntmps106
 go_upto_region 1 with fail
 generalize (w.alloc (.cells #[.int .i64 x.now, .int .i64 x.events, .int .i64 x.chain.epoch, .slice a3 x.chain.ids.length d3, .slice a4 x.nodes.length d4, .slice a5 x.msgs.length d5, .slice a6 x.history.length d6] 36)).alloc (.cells #[.int .i64 0, .bool false, .int .i64 0, .int .i64 0, .int .i64 0, .slice none 0 0, .slice none 0 0, .slice none 0 0, .slice none 0 0] 38) = W0 at *
 have z0 := Box.at (uh HX) 0 _ rfl
 have z1 := Box.at (uh HX) 1 _ rfl
 have z2 := Box.at (uh HX) 2 _ rfl
 have z3 := Box.at (uh HX) 3 _ rfl
 have z4 := Box.at (uh HX) 4 _ rfl
 have z5 := Box.at (uh HX) 5 _ rfl
 have z6 := Box.at (uh HX) 6 _ rfl
 simp only [ga, gb, gc] at z0 z1 z2 z3 z4 z5 z6
 go_wp2_with fail
 refine (copiedWorldC _ x W0 (uh HR) (uh HOK) (uh HF)).mono ?_
 rintro e W1 ⟨v3, v4, v5, v6, rfl, O, hb⟩
 obtain ⟨a3w, d3w, a4w, d4w, a5w, d5w, a6w, d6w, hq, -⟩ := open_World O.reads
 simp only [List.cons.injEq, and_true, true_and] at hq
 obtain ⟨rfl, rfl, rfl, rfl⟩ := hq
 have hz1 : W0.heap.size ≤ W1.heap.size := hb.size
 replace HY := yh ((uh HY).keep hb)
 replace HB := yh ((uh HB).trans (hb.mono (uh HB).size))
 have hO := wown_new (g := W1.heap.size) (O.mono (Nat.le_add_right _ 2) (Nat.le_refl _)) (Nat.le_refl _) (Nat.le_refl _)
 clear hb O HX HR HF z0 z1 z2 z3 z4 z5 z6
 have nb : Below W1.heap.size W1 (W1.alloc (.cells #[.int .i64 x.now, .int .i64 x.events, .int .i64 x.chain.epoch, .slice a3w x.chain.ids.length d3w, .slice a4w x.nodes.length d4w, .slice a5w x.msgs.length d5w, .slice a6w x.history.length d6w] 36)) := (Below.refl _ _).alloc (Nat.le_refl _) _
 have HG : Hid (Box 0 #[.int .i64 x.now, .int .i64 x.events, .int .i64 x.chain.epoch, .slice a3w x.chain.ids.length d3w, .slice a4w x.nodes.length d4w, .slice a5w x.msgs.length d5w, .slice a6w x.history.length d6w] 36 (W1.alloc (.cells #[.int .i64 x.now, .int .i64 x.events, .int .i64 x.chain.epoch, .slice a3w x.chain.ids.length d3w, .slice a4w x.nodes.length d4w, .slice a5w x.msgs.length d5w, .slice a6w x.history.length d6w] 36)) W1.heap.size) := newBox (Nat.zero_le _)
 have HO := yh (hO.later nb)
 replace HY := yh ((uh HY).keep nb)
 replace HB := yh ((uh HB).trans (nb.mono (uh HB).size))
 have hz2 : (W1.alloc (.cells #[.int .i64 x.now, .int .i64 x.events, .int .i64 x.chain.epoch, .slice a3w x.chain.ids.length d3w, .slice a4w x.nodes.length d4w, .slice a5w x.msgs.length d5w, .slice a6w x.history.length d6w] 36)).heap.size = W1.heap.size + 1 := by simp
 clear nb hO
 go_upto_region 2 with fail
 generalize W1.alloc (.cells #[.int .i64 x.now, .int .i64 x.events, .int .i64 x.chain.epoch, .slice a3w x.chain.ids.length d3w, .slice a4w x.nodes.length d4w, .slice a5w x.msgs.length d5w, .slice a6w x.history.length d6w] 36) = W2 at *
 have hg := uh HG
 have y1 := Box.at hg 1 _ rfl
 have yf := Box.soft hg
 have yl := hg.lt
 simp only [ga, gb, gc] at y1
 have hxe := (uh HOK).events
 have hg2 := Box.set hg 1 (.int .i64 (x.events + 1))
 simp only [List.setIfInBounds_toArray, List.set_cons_zero, List.set_cons_succ] at hg2
 have e1 : Ext (fun q => q = W1.heap.size) W2 (W2.setCell ⟨W1.heap.size, 1, none⟩ (.int .i64 (x.events + 1))) := (Ext.refl _ _).setCell _ _ rfl
 have hO2 := own_nextW ((uh HO).ext e1 (fun k h1 h2 h3 => h3)) (by omega)
 replace HG := yh hg2
 replace HO := yh hO2
 replace HY := yh ((uh HY).other ⟨W1.heap.size, 1, none⟩ (.int .i64 (x.events + 1)) (by simp; omega))
 replace HB := yh ((uh HB).setCell (p := ⟨W1.heap.size, 1, none⟩) (by simp; omega) (.int .i64 (x.events + 1)))
 have hz3 : (W2.setCell ⟨W1.heap.size, 1, none⟩ (.int .i64 (x.events + 1))).heap.size = W2.heap.size := by simp
 clear hg hg2 e1 hO2
 go_upto_region 3 with fail
 generalize hW : W2.setCell ⟨W1.heap.size, 1, none⟩ (.int .i64 (x.events + 1)) = W3 at *
 clear hW y1 yf yl hxe
 have HC := yh (uh HST W3 (uh HB) W1.heap.size (w.heap.size + 2) _ _ _ _ (by omega) (uh HG) (by omega) (by have := uh HO; rw [hz0] at this; exact this))
 clear HST HO HG
 go_wp2_with fail
 refine (uh HC).mono ?_
 rintro e W4 ⟨m, rfl, hm, he⟩
 replace HY := yh ((uh HY).ext he (by omega))
 replace HB := yh ((uh HB).trans ((below_of_ext he (by omega)).mono (by omega)))
 have hz4 := he.size
 clear HC he
 by_cases d1 : c = 0
 ·
  obtain ⟨rfl, u3, u4, u5, u6, hg, hO⟩ := hm d1
  obtain ⟨a3u, d3u, a4u, d4u, a5u, d5u, a6u, d6u, hq, -⟩ := open_World hO.reads
  simp only [List.cons.injEq, and_true, true_and] at hq
  obtain ⟨rfl, rfl, rfl, rfl⟩ := hq
  subst d1
  have HRS : Hid (resW 0 m z = ⟨0, m, z⟩) := if_pos rfl
  have y0 := Box.at hg 0 _ rfl
  have y1 := Box.at hg 1 _ rfl
  have y2 := Box.at hg 2 _ rfl
  have y3 := Box.at hg 3 _ rfl
  have y4 := Box.at hg 4 _ rfl
  have y5 := Box.at hg 5 _ rfl
  have y6 := Box.at hg 6 _ rfl
  have hy := uh HY
  have r0 := Box.at hy 0 _ rfl
  have r1 := Box.at hy 1 _ rfl
  have r2 := Box.at hy 2 _ rfl
  have r3 := Box.at hy 3 _ rfl
  have r4 := Box.at hy 4 _ rfl
  have r5 := Box.at hy 5 _ rfl
  have r6 := Box.at hy 6 _ rfl
  have r7 := Box.at hy 7 _ rfl
  have r8 := Box.at hy 8 _ rfl
  simp only [ga, gb, gc] at y0 y1 y2 y3 y4 y5 y6 r0 r1 r2 r3 r4 r5 r6 r7 r8
  have yl := hg.lt
  have rf := Box.soft hy
  have rl := hy.lt
  have e9 : Ext (fun q => q = w.heap.size + 1) W4 (setAll W4 (w.heap.size + 1) 0 [.int .i64 0, .bool m, .int .i64 z.now, .int .i64 z.events, .int .i64 z.chain.epoch, .slice a3u z.chain.ids.length d3u, .slice a4u z.nodes.length d4u, .slice a5u z.msgs.length d5u, .slice a6u z.history.length d6u]) := ext_setAll _ (Ext.refl _ _) _ _ _ rfl
  have HO := yh (own_okW (m := m) ((hO.ext e9 (fun k h1 h2 h3 => by omega)).ownIn))
  have HB2 := yh (below_setAll (uh HB) (w.heap.size + 1) 0 [.int .i64 0, .bool m, .int .i64 z.now, .int .i64 z.events, .int .i64 z.chain.epoch, .slice a3u z.chain.ids.length d3u, .slice a4u z.nodes.length d4u, .slice a5u z.msgs.length d5u, .slice a6u z.history.length d6u] (by omega))
  clear hg hy hO e9 HY HB hm
  go_wp2_with fail
  refine bodyPost_ret (v := .agg #[.int .i64 0, .bool m, .int .i64 z.now, .int .i64 z.events, .int .i64 z.chain.epoch, .slice a3u z.chain.ids.length d3u, .slice a4u z.nodes.length d4u, .slice a5u z.msgs.length d5u, .slice a6u z.history.length d6u]) (by simp [results, Tryz.results106, go_sem, r0, r1, r2, r3, r4, r5, r6, r7, r8]) rfl ?_
  rw [uh HRS]
  exact ⟨_, rfl, (uh HO).mono (by omega) (Nat.le_refl _), uh HB2⟩
 have hd : (c != 0) = true := by simpa using d1
 have HRS : Hid (resW c mv z = badWorld c) := if_neg d1
 clear hm d1
 have hy := uh HY
 have r0 := Box.at hy 0 _ rfl
 have r1 := Box.at hy 1 _ rfl
 have r2 := Box.at hy 2 _ rfl
 have r3 := Box.at hy 3 _ rfl
 have r4 := Box.at hy 4 _ rfl
 have r5 := Box.at hy 5 _ rfl
 have r6 := Box.at hy 6 _ rfl
 have r7 := Box.at hy 7 _ rfl
 have r8 := Box.at hy 8 _ rfl
 simp only [ga, gb, gc] at r0 r1 r2 r3 r4 r5 r6 r7 r8
 have rf := Box.soft hy
 have rl := hy.lt
 have HB2 := yh (below_setAll (uh HB) (w.heap.size + 1) 0 [.int .i64 c, .bool false, .int .i64 0, .int .i64 0, .int .i64 0, .slice none 0 0, .slice none 0 0, .slice none 0 0, .slice none 0 0] (by omega))
 clear hy HY HB
 go_wp2_with fail
 refine bodyPost_ret (v := .agg #[.int .i64 c, .bool false, .int .i64 0, .int .i64 0, .int .i64 0, .slice none 0 0, .slice none 0 0, .slice none 0 0, .slice none 0 0]) (by simp [results, Tryz.results106, go_sem, r0, r1, r2, r3, r4, r5, r6, r7, r8]) rfl ?_
 rw [uh HRS]
 exact ⟨_, rfl, own_badW (uh HCB) (uh HB2).size, uh HB2⟩
theorem box_set9W {lo : Nat} {T : TypeId} {W : World} {s : Nat} {c0 c1 c2 c3 c4 c5 c6 c7 c8 : Value} (h : Box lo #[c0, c1, c2, c3, c4, c5, c6, c7, c8] T W s) (v0 v1 v2 v3 v4 v5 v6 v7 v8 : Value) : Box lo #[v0, v1, v2, v3, v4, v5, v6, v7, v8] T (setAll W s 0 [v0, v1, v2, v3, v4, v5, v6, v7, v8]) s := by
 have q := (Box.set (Box.set (Box.set (Box.set (Box.set (Box.set (Box.set (Box.set (Box.set h 0 v0) 1 v1) 2 v2) 3 v3) 4 v4) 5 v5) 6 v6) 7 v7) 8 v8)
 simp only [List.setIfInBounds_toArray, List.set_cons_zero, List.set_cons_succ] at q
 exact q
theorem put_bad (p q s : Nat) (c : Int) (w : World) (hx : Box 0 #[.int .i64 c, .bool false, .int .i64 0, .int .i64 0, .int .i64 0, .slice none 0 0, .slice none 0 0, .slice none 0 0, .slice none 0 0] 38 w p) (hc : c ≠ 0) :
  CallsD Tryz.prog 105 #[.pointer (some ⟨p, 0, none⟩), .pointer (some ⟨q, 0, none⟩), .pointer (some ⟨s, 0, none⟩)] .returning w fun e u' w' => u' = .returning ∧ (e = .returned (.tuple #[]) ∧ w' = w) := by
 have r0 := Box.at hx 0 _ rfl
 simp only [List.getElem_toArray, List.getElem_cons_zero] at r0
 have hd : (c == 0) = false := by simpa using hc
 have rl := hx.lt
 clear hx hc
 refine CallsD.mono (R := fun e u' w' => u' = .returning ∧ (e = .returned (.tuple #[]) ∧ w' = w)) ?_ (fun _ _ _ q => q)
 go_enter_d Tryz.func105, Tryz.ntmps105
 go_wp2_with fail
 go_end0
 exact ⟨rfl, rfl⟩
theorem put_ok (p q s N : Nat) (cap : Array Value) (a3 : Option Addr) (d3 : Nat) (a4 : Option Addr) (d4 : Nat) (a5 : Option Addr) (d5 : Nat) (a6 : Option Addr) (d6 : Nat) (x : DWorld) (c : Int) (mv : Bool) (z : DWorld) (w : World) (hx : Box 0 #[.int .i64 0, .bool false, .int .i64 0, .int .i64 0, .int .i64 0, .slice none 0 0, .slice none 0 0, .slice none 0 0, .slice none 0 0] 38 w p) (hw : Box 0 #[.int .i64 x.now, .int .i64 x.events, .int .i64 x.chain.epoch, .slice a3 x.chain.ids.length d3, .slice a4 x.nodes.length d4, .slice a5 x.msgs.length d5, .slice a6 x.history.length d6] 36 w q) (hs : Box 0 #[.func (.func N) #[] cap] 74 w s)
  (hfa : ∀ (a : Array Value) (W : World), (callFunc N (a ++ cap)).run Tryz.prog W = .ok (.enter N (a ++ cap)) W) (h : Lay.tWorld.Reads w [.int .i64 x.now, .int .i64 x.events, .int .i64 x.chain.epoch, .slice a3 x.chain.ids.length d3, .slice a4 x.nodes.length d4, .slice a5 x.msgs.length d5, .slice a6 x.history.length d6] x) (hok : WorldOK x) (hf : Fits x) (hc : -1000000000 ≤ c ∧ c ≤ 1000000000) (hstep : ∀ W, Below w.heap.size w W → StepC w.heap.size N cap (nextW x) c mv z W) :
  CallsD Tryz.prog 105 #[.pointer (some ⟨p, 0, none⟩), .pointer (some ⟨q, 0, none⟩), .pointer (some ⟨s, 0, none⟩)] .returning w fun e u' w' => u' = .returning ∧ (e = .returned (.tuple #[]) ∧ ∃ cs w1 lo, w' = setAll w1 p 0 cs ∧ cs.length = 9 ∧ Box 0 #[.int .i64 0, .bool false, .int .i64 0, .int .i64 0, .int .i64 0, .slice none 0 0, .slice none 0 0, .slice none 0 0, .slice none 0 0] 38 w1 p ∧ Lay.tWorldResult.OwnIn w1 cs (resW c mv z) lo w1.heap.size ∧ w.heap.size ≤ lo ∧ Below w.heap.size w w1) := by
 have HL := yh (doneInC N cap _ x c mv z w hfa h hok hf hc hstep)
 have HX := yh hx
 have z0 := Box.at hw 0 _ rfl
 have z1 := Box.at hw 1 _ rfl
 have z2 := Box.at hw 2 _ rfl
 have z3 := Box.at hw 3 _ rfl
 have z4 := Box.at hw 4 _ rfl
 have z5 := Box.at hw 5 _ rfl
 have z6 := Box.at hw 6 _ rfl
 simp only [ga, gb, gc] at z0 z1 z2 z3 z4 z5 z6
 have s0 := Box.at hs 0 _ rfl
 have r0 := Box.at hx 0 _ rfl
 simp only [List.getElem_toArray, List.getElem_cons_zero] at s0 r0
 have zl := hw.lt
 have sl := hs.lt
 have rl := hx.lt
 clear hx hw hs h hok hf hstep hfa
 generalize resW c mv z = y at *
 go_enter_d Tryz.func105, Tryz.ntmps105
 go_wp2_with fail
 refine (uh HL).mono ?_
 rintro e w1 ⟨cs, rfl, O, hb⟩
 obtain ⟨a5, d5, a6, d6, a7, d7, a8, d8, rfl, -⟩ := open_WorldResult O.reads
 have hx := (uh HX).keep hb
 have HX1 := yh hx
 clear r0
 have r0 := Box.at hx 0 _ rfl
 have r1 := Box.at hx 1 _ rfl
 have r2 := Box.at hx 2 _ rfl
 have r3 := Box.at hx 3 _ rfl
 have r4 := Box.at hx 4 _ rfl
 have r5 := Box.at hx 5 _ rfl
 have r6 := Box.at hx 6 _ rfl
 have r7 := Box.at hx 7 _ rfl
 have r8 := Box.at hx 8 _ rfl
 simp only [ga, gb, gc] at r0 r1 r2 r3 r4 r5 r6 r7 r8
 have rf := Box.soft hx
 have HO := yh O
 have HB := yh hb
 have rl1 := hx.lt
 clear hx O hb HL HX s0 zl sl rl z0 z1 z2 z3 z4 z5 z6
 go_wp2_with fail
 go_end0
 exact ⟨rfl, [.int .i64 y.code, .bool y.moved, .int .i64 y.world.now, .int .i64 y.world.events, .int .i64 y.world.chain.epoch, .slice a5 y.world.chain.ids.length d5, .slice a6 y.world.nodes.length d6, .slice a7 y.world.msgs.length d7, .slice a8 y.world.history.length d8], w1, w.heap.size, rfl, rfl, uh HX1, uh HO, Nat.le_refl _, uh HB⟩
def steppedR (x : DWorld) (wrong c : Int) (mv : Bool) (z : DWorld) : DWorldResult := if wrong ≠ 0 then badWorld wrong else if 9999 ≤ x.events then badWorld 2 else resW c mv z
theorem steppedC (N : Nat) (cap : Array Value) (cs : List Value) (x : DWorld) (wrong c : Int) (mv : Bool) (z : DWorld) (w : World) (hfa : ∀ (a : Array Value) (W : World), (callFunc N (a ++ cap)).run Tryz.prog W = .ok (.enter N (a ++ cap)) W) (h : Lay.tWorld.Reads w cs x) (hok : wrong = 0 → WorldOK x) (hf : Fits x) (hc : -1000000000 ≤ c ∧ c ≤ 1000000000) (hwr : -1000000000 ≤ wrong ∧ wrong ≤ 1000000000)
  (hstep : wrong = 0 → ∀ W, Below w.heap.size w W → StepC w.heap.size N cap (nextW x) c mv z W) :
  Calls Tryz.prog 56 #[.agg cs.toArray, .int .i64 wrong, .func (.func N) #[] cap] w fun e w' => ∃ cs', e = .returned (.agg cs'.toArray) ∧ Lay.tWorldResult.OwnIn w' cs' (steppedR x wrong c mv z) w.heap.size w'.heap.size ∧ Below w.heap.size w w' := by
 have hmf : ∀ (fn : Fn) (first cap : Array Value) (w : World), (Instr.makeFunc fn first cap).run Tryz.prog w = .ok (.func fn first cap) w := fun _ _ _ _ => rfl
 obtain ⟨a3, d3, a4, d4, a5, d5, a6, d6, rfl, -, -, -, -⟩ := open_World h
 have nb : Below w.heap.size w (((w.alloc (.cells #[.int .i64 x.now, .int .i64 x.events, .int .i64 x.chain.epoch, .slice a3 x.chain.ids.length d3, .slice a4 x.nodes.length d4, .slice a5 x.msgs.length d5, .slice a6 x.history.length d6] 36)).alloc (.cells #[.func (.func N) #[] cap] 74)).alloc (.cells #[.int .i64 0, .bool false, .int .i64 0, .int .i64 0, .int .i64 0, .slice none 0 0, .slice none 0 0, .slice none 0 0, .slice none 0 0] 38)) := (((Below.refl _ _).alloc (Nat.le_refl _) _).alloc (by simp) _).alloc (by simp; omega) _
 have HX : Hid (Box 0 #[.int .i64 x.now, .int .i64 x.events, .int .i64 x.chain.epoch, .slice a3 x.chain.ids.length d3, .slice a4 x.nodes.length d4, .slice a5 x.msgs.length d5, .slice a6 x.history.length d6] 36 (((w.alloc (.cells #[.int .i64 x.now, .int .i64 x.events, .int .i64 x.chain.epoch, .slice a3 x.chain.ids.length d3, .slice a4 x.nodes.length d4, .slice a5 x.msgs.length d5, .slice a6 x.history.length d6] 36)).alloc (.cells #[.func (.func N) #[] cap] 74)).alloc (.cells #[.int .i64 0, .bool false, .int .i64 0, .int .i64 0, .int .i64 0, .slice none 0 0, .slice none 0 0, .slice none 0 0, .slice none 0 0] 38)) w.heap.size) := ((newBox (Nat.zero_le _)).grow _).grow _
 have HS : Hid (Box 0 #[.func (.func N) #[] cap] 74 (((w.alloc (.cells #[.int .i64 x.now, .int .i64 x.events, .int .i64 x.chain.epoch, .slice a3 x.chain.ids.length d3, .slice a4 x.nodes.length d4, .slice a5 x.msgs.length d5, .slice a6 x.history.length d6] 36)).alloc (.cells #[.func (.func N) #[] cap] 74)).alloc (.cells #[.int .i64 0, .bool false, .int .i64 0, .int .i64 0, .int .i64 0, .slice none 0 0, .slice none 0 0, .slice none 0 0, .slice none 0 0] 38)) (w.heap.size + 1)) := (newBoxAt (Nat.zero_le _) (by simp)).grow _
 have HY : Hid (Box 0 #[.int .i64 0, .bool false, .int .i64 0, .int .i64 0, .int .i64 0, .slice none 0 0, .slice none 0 0, .slice none 0 0, .slice none 0 0] 38 (((w.alloc (.cells #[.int .i64 x.now, .int .i64 x.events, .int .i64 x.chain.epoch, .slice a3 x.chain.ids.length d3, .slice a4 x.nodes.length d4, .slice a5 x.msgs.length d5, .slice a6 x.history.length d6] 36)).alloc (.cells #[.func (.func N) #[] cap] 74)).alloc (.cells #[.int .i64 0, .bool false, .int .i64 0, .int .i64 0, .int .i64 0, .slice none 0 0, .slice none 0 0, .slice none 0 0, .slice none 0 0] 38)) (w.heap.size + 1 + 1)) := newBoxAt (Nat.zero_le _) (by simp)
 have hz0 : (((w.alloc (.cells #[.int .i64 x.now, .int .i64 x.events, .int .i64 x.chain.epoch, .slice a3 x.chain.ids.length d3, .slice a4 x.nodes.length d4, .slice a5 x.msgs.length d5, .slice a6 x.history.length d6] 36)).alloc (.cells #[.func (.func N) #[] cap] 74)).alloc (.cells #[.int .i64 0, .bool false, .int .i64 0, .int .i64 0, .int .i64 0, .slice none 0 0, .slice none 0 0, .slice none 0 0, .slice none 0 0] 38)).heap.size = w.heap.size + 3 := by simp
 have HR := yh (h.later nb)
 have HRD := h
 have HB := yh nb
 clear nb h
 have HWR := yh hwr
 by_cases hw : wrong ≠ 0
 ·
  have hd : (wrong != 0) = true := by simpa using hw
  have HRS : Hid (steppedR x wrong c mv z = badWorld wrong) := if_pos hw
  have HW := yh hw
  clear hok hstep hfa hf hc hwr hw
  go_enter_defers Tryz.func56, Tryz.ntmps56
  go_upto_region 1 with fail
  generalize ((w.alloc (.cells #[.int .i64 x.now, .int .i64 x.events, .int .i64 x.chain.epoch, .slice a3 x.chain.ids.length d3, .slice a4 x.nodes.length d4, .slice a5 x.msgs.length d5, .slice a6 x.history.length d6] 36)).alloc (.cells #[.func (.func N) #[] cap] 74)).alloc (.cells #[.int .i64 0, .bool false, .int .i64 0, .int .i64 0, .int .i64 0, .slice none 0 0, .slice none 0 0, .slice none 0 0, .slice none 0 0] 38) = W0 at *
  have hy := uh HY
  have r0 := Box.at hy 0 _ rfl
  have r1 := Box.at hy 1 _ rfl
  have r2 := Box.at hy 2 _ rfl
  have r3 := Box.at hy 3 _ rfl
  have r4 := Box.at hy 4 _ rfl
  have r5 := Box.at hy 5 _ rfl
  have r6 := Box.at hy 6 _ rfl
  have r7 := Box.at hy 7 _ rfl
  have r8 := Box.at hy 8 _ rfl
  simp only [ga, gb, gc] at r0 r1 r2 r3 r4 r5 r6 r7 r8
  have rf := Box.soft hy
  have rl := hy.lt
  have hy2 := box_set9W hy (.int .i64 wrong) (.bool false) (.int .i64 0) (.int .i64 0) (.int .i64 0) (.slice none 0 0) (.slice none 0 0) (.slice none 0 0) (.slice none 0 0)
  have HQ := yh (put_bad (w.heap.size + 1 + 1) w.heap.size (w.heap.size + 1) wrong _ hy2 (uh HW))
  have HY2 := yh hy2
  have HB2 := yh (below_setAll (uh HB) (w.heap.size + 1 + 1) 0 [.int .i64 wrong, .bool false, .int .i64 0, .int .i64 0, .int .i64 0, .slice none 0 0, .slice none 0 0, .slice none 0 0, .slice none 0 0] (by omega))
  clear hy hy2 HY HB
  go_wp2_with fail
  refine leaves_cons (f := 105) (args := #[.pointer (some ⟨w.heap.size + 1 + 1, 0, none⟩), .pointer (some ⟨w.heap.size, 0, none⟩), .pointer (some ⟨w.heap.size + 1, 0, none⟩)]) (by simp) (by simp [go_sem]) ?_
  refine (uh HQ).mono ?_
  rintro e u' w2 ⟨rfl, rfl, rfl⟩
  have hy2 := uh HY2
  clear r0 r1 r2 r3 r4 r5 r6 r7 r8 rf rl
  have r0 := Box.at hy2 0 _ rfl
  have r1 := Box.at hy2 1 _ rfl
  have r2 := Box.at hy2 2 _ rfl
  have r3 := Box.at hy2 3 _ rfl
  have r4 := Box.at hy2 4 _ rfl
  have r5 := Box.at hy2 5 _ rfl
  have r6 := Box.at hy2 6 _ rfl
  have r7 := Box.at hy2 7 _ rfl
  have r8 := Box.at hy2 8 _ rfl
  simp only [ga, gb, gc] at r0 r1 r2 r3 r4 r5 r6 r7 r8
  refine ⟨.agg #[.int .i64 wrong, .bool false, .int .i64 0, .int .i64 0, .int .i64 0, .slice none 0 0, .slice none 0 0, .slice none 0 0, .slice none 0 0], ?_, ?_⟩
  ·
   simp [results, Tryz.results56, go_sem, r0, r1, r2, r3, r4, r5, r6, r7, r8]
  rw [uh HRS]
  exact ⟨[.int .i64 wrong, .bool false, .int .i64 0, .int .i64 0, .int .i64 0, .slice none 0 0, .slice none 0 0, .slice none 0 0, .slice none 0 0], rfl, own_badW (uh HWR) (uh HB2).size, uh HB2⟩
 have hw0 : wrong = 0 := by simpa using hw
 subst hw0
 by_cases he : 9999 ≤ x.events
 ·
  have hd : decide (9999 ≤ x.events) = true := by simpa using he
  have HRS : Hid (steppedR x 0 c mv z = badWorld 2) := by show steppedR x 0 c mv z = _; rw [steppedR, if_neg (by simp), if_pos he]
  clear hok hstep hfa hf hc hwr hw he
  go_enter_defers Tryz.func56, Tryz.ntmps56
  go_upto_region 1 with fail
  generalize ((w.alloc (.cells #[.int .i64 x.now, .int .i64 x.events, .int .i64 x.chain.epoch, .slice a3 x.chain.ids.length d3, .slice a4 x.nodes.length d4, .slice a5 x.msgs.length d5, .slice a6 x.history.length d6] 36)).alloc (.cells #[.func (.func N) #[] cap] 74)).alloc (.cells #[.int .i64 0, .bool false, .int .i64 0, .int .i64 0, .int .i64 0, .slice none 0 0, .slice none 0 0, .slice none 0 0, .slice none 0 0] 38) = W0 at *
  have hx1 := Box.at (uh HX) 1 _ rfl
  simp only [ga, gb, gc] at hx1
  have hxl := (uh HX).lt
  have hy := uh HY
  have r0 := Box.at hy 0 _ rfl
  have r1 := Box.at hy 1 _ rfl
  have r2 := Box.at hy 2 _ rfl
  have r3 := Box.at hy 3 _ rfl
  have r4 := Box.at hy 4 _ rfl
  have r5 := Box.at hy 5 _ rfl
  have r6 := Box.at hy 6 _ rfl
  have r7 := Box.at hy 7 _ rfl
  have r8 := Box.at hy 8 _ rfl
  simp only [ga, gb, gc] at r0 r1 r2 r3 r4 r5 r6 r7 r8
  have rf := Box.soft hy
  have rl := hy.lt
  have hy2 := box_set9W hy (.int .i64 2) (.bool false) (.int .i64 0) (.int .i64 0) (.int .i64 0) (.slice none 0 0) (.slice none 0 0) (.slice none 0 0) (.slice none 0 0)
  have HQ := yh (put_bad (w.heap.size + 1 + 1) w.heap.size (w.heap.size + 1) 2 _ hy2 (by decide))
  have HY2 := yh hy2
  have HB2 := yh (below_setAll (uh HB) (w.heap.size + 1 + 1) 0 [.int .i64 2, .bool false, .int .i64 0, .int .i64 0, .int .i64 0, .slice none 0 0, .slice none 0 0, .slice none 0 0, .slice none 0 0] (by omega))
  clear hy hy2 HY HB
  go_wp2_with fail
  refine leaves_cons (f := 105) (args := #[.pointer (some ⟨w.heap.size + 1 + 1, 0, none⟩), .pointer (some ⟨w.heap.size, 0, none⟩), .pointer (some ⟨w.heap.size + 1, 0, none⟩)]) (by simp) (by simp [go_sem]) ?_
  refine (uh HQ).mono ?_
  rintro e u' w2 ⟨rfl, rfl, rfl⟩
  have hy2 := uh HY2
  clear r0 r1 r2 r3 r4 r5 r6 r7 r8 rf rl
  have r0 := Box.at hy2 0 _ rfl
  have r1 := Box.at hy2 1 _ rfl
  have r2 := Box.at hy2 2 _ rfl
  have r3 := Box.at hy2 3 _ rfl
  have r4 := Box.at hy2 4 _ rfl
  have r5 := Box.at hy2 5 _ rfl
  have r6 := Box.at hy2 6 _ rfl
  have r7 := Box.at hy2 7 _ rfl
  have r8 := Box.at hy2 8 _ rfl
  simp only [ga, gb, gc] at r0 r1 r2 r3 r4 r5 r6 r7 r8
  refine ⟨.agg #[.int .i64 2, .bool false, .int .i64 0, .int .i64 0, .int .i64 0, .slice none 0 0, .slice none 0 0, .slice none 0 0, .slice none 0 0], ?_, ?_⟩
  ·
   simp [results, Tryz.results56, go_sem, r0, r1, r2, r3, r4, r5, r6, r7, r8]
  rw [uh HRS]
  exact ⟨[.int .i64 2, .bool false, .int .i64 0, .int .i64 0, .int .i64 0, .slice none 0 0, .slice none 0 0, .slice none 0 0, .slice none 0 0], rfl, own_badW (by decide) (uh HB2).size, uh HB2⟩
 have hd : decide (9999 ≤ x.events) = false := by simpa using he
 have HRS : Hid (steppedR x 0 c mv z = resW c mv z) := by show steppedR x 0 c mv z = _; rw [steppedR, if_neg (by simp), if_neg he]
 have HOK := yh (hok rfl)
 have HST := yh (hstep rfl)
 have HFA := yh hfa
 have HF := yh hf
 have HC := yh hc
 clear hok hstep hfa hf hc hwr hw he
 go_enter_defers Tryz.func56, Tryz.ntmps56
 go_upto_region 1 with fail
 generalize ((w.alloc (.cells #[.int .i64 x.now, .int .i64 x.events, .int .i64 x.chain.epoch, .slice a3 x.chain.ids.length d3, .slice a4 x.nodes.length d4, .slice a5 x.msgs.length d5, .slice a6 x.history.length d6] 36)).alloc (.cells #[.func (.func N) #[] cap] 74)).alloc (.cells #[.int .i64 0, .bool false, .int .i64 0, .int .i64 0, .int .i64 0, .slice none 0 0, .slice none 0 0, .slice none 0 0, .slice none 0 0] 38) = W0 at *
 have hx1 := Box.at (uh HX) 1 _ rfl
 simp only [ga, gb, gc] at hx1
 have hxl := (uh HX).lt
 have hy := uh HY
 have r0 := Box.at hy 0 _ rfl
 have r1 := Box.at hy 1 _ rfl
 have r2 := Box.at hy 2 _ rfl
 have r3 := Box.at hy 3 _ rfl
 have r4 := Box.at hy 4 _ rfl
 have r5 := Box.at hy 5 _ rfl
 have r6 := Box.at hy 6 _ rfl
 have r7 := Box.at hy 7 _ rfl
 have r8 := Box.at hy 8 _ rfl
 simp only [ga, gb, gc] at r0 r1 r2 r3 r4 r5 r6 r7 r8
 have rf := Box.soft hy
 have rl := hy.lt
 have hy2 := box_set9W hy (.int .i64 0) (.bool false) (.int .i64 0) (.int .i64 0) (.int .i64 0) (.slice none 0 0) (.slice none 0 0) (.slice none 0 0) (.slice none 0 0)
 have e1 : Ext (fun q => q = w.heap.size + 1 + 1) W0 (setAll W0 (w.heap.size + 1 + 1) 0 [.int .i64 0, .bool false, .int .i64 0, .int .i64 0, .int .i64 0, .slice none 0 0, .slice none 0 0, .slice none 0 0, .slice none 0 0]) := ext_setAll _ (Ext.refl _ _) _ _ _ rfl
 have hb2 := below_setAll (uh HB) (w.heap.size + 1 + 1) 0 [.int .i64 0, .bool false, .int .i64 0, .int .i64 0, .int .i64 0, .slice none 0 0, .slice none 0 0, .slice none 0 0, .slice none 0 0] (by omega)
 have HR2 := yh (((uh HR).liesIn.mono (Nat.le_refl _) (Nat.le_refl _)).reads)
 have HQ := yh (put_ok (w.heap.size + 1 + 1) w.heap.size (w.heap.size + 1) N cap a3 d3 a4 d4 a5 d5 a6 d6 x c mv z _ hy2 ((uh HX).ext e1 (by omega)) ((uh HS).ext e1 (by omega)) (uh HFA) (HRD.later hb2) (uh HOK) (uh HF) (uh HC) (fun W hW g lo v3 v4 v5 v6 hL => uh HST W (hb2.trans (hW.mono hb2.size)) g lo v3 v4 v5 v6 (Nat.le_trans hb2.size hL)))
 have HB2 := yh hb2
 clear hy hy2 HY HB HR HR2 HX HS HST e1 hb2 HRD
 go_wp2_with fail
 refine leaves_cons (f := 105) (args := #[.pointer (some ⟨w.heap.size + 1 + 1, 0, none⟩), .pointer (some ⟨w.heap.size, 0, none⟩), .pointer (some ⟨w.heap.size + 1, 0, none⟩)]) (by simp) (by simp [go_sem]) ?_
 refine (uh HQ).mono ?_
 rintro e u' w2 ⟨rfl, rfl, cs, w1, lo, rfl, hl, hx, O, hlo, hb⟩
 obtain ⟨a5r, d5r, a6r, d6r, a7r, d7r, a8r, d8r, rfl, -⟩ := open_WorldResult O.reads
 rw [uh HRS]
 generalize resW c mv z = y at *
 have hy2 := box_set9W hx (.int .i64 y.code) (.bool y.moved) (.int .i64 y.world.now) (.int .i64 y.world.events) (.int .i64 y.world.chain.epoch) (.slice a5r y.world.chain.ids.length d5r) (.slice a6r y.world.nodes.length d6r) (.slice a7r y.world.msgs.length d7r) (.slice a8r y.world.history.length d8r)
 clear r0 r1 r2 r3 r4 r5 r6 r7 r8 rf rl
 have r0 := Box.at hy2 0 _ rfl
 have r1 := Box.at hy2 1 _ rfl
 have r2 := Box.at hy2 2 _ rfl
 have r3 := Box.at hy2 3 _ rfl
 have r4 := Box.at hy2 4 _ rfl
 have r5 := Box.at hy2 5 _ rfl
 have r6 := Box.at hy2 6 _ rfl
 have r7 := Box.at hy2 7 _ rfl
 have r8 := Box.at hy2 8 _ rfl
 simp only [ga, gb, gc] at r0 r1 r2 r3 r4 r5 r6 r7 r8
 have e2 : Ext (fun q => q = w.heap.size + 1 + 1) w1 (setAll w1 (w.heap.size + 1 + 1) 0 [.int .i64 y.code, .bool y.moved, .int .i64 y.world.now, .int .i64 y.world.events, .int .i64 y.world.chain.epoch, .slice a5r y.world.chain.ids.length d5r, .slice a6r y.world.nodes.length d6r, .slice a7r y.world.msgs.length d7r, .slice a8r y.world.history.length d8r]) := ext_setAll _ (Ext.refl _ _) _ _ _ rfl
 have hsz := (uh HB2).size
 have hO := (O.ext e2 (fun q h1 h2 h3 => by have := size_setAll W0 (w.heap.size + 1 + 1) 0 [.int .i64 0, .bool false, .int .i64 0, .int .i64 0, .int .i64 0, .slice none 0 0, .slice none 0 0, .slice none 0 0, .slice none 0 0]; omega))
 refine ⟨.agg #[.int .i64 y.code, .bool y.moved, .int .i64 y.world.now, .int .i64 y.world.events, .int .i64 y.world.chain.epoch, .slice a5r y.world.chain.ids.length d5r, .slice a6r y.world.nodes.length d6r, .slice a7r y.world.msgs.length d7r, .slice a8r y.world.history.length d8r], ?_, ?_⟩
 ·
  simp [results, Tryz.results56, go_sem, r0, r1, r2, r3, r4, r5, r6, r7, r8]
 exact ⟨[.int .i64 y.code, .bool y.moved, .int .i64 y.world.now, .int .i64 y.world.events, .int .i64 y.world.chain.epoch, .slice a5r y.world.chain.ids.length d5r, .slice a6r y.world.nodes.length d6r, .slice a7r y.world.msgs.length d7r, .slice a8r y.world.history.length d8r], rfl, hO.mono (by omega) (Nat.le_of_eq (size_setAll _ _ _ _).symm), below_setAll ((uh HB2).trans (hb.mono hsz)) (w.heap.size + 1 + 1) 0 [.int .i64 y.code, .bool y.moved, .int .i64 y.world.now, .int .i64 y.world.events, .int .i64 y.world.chain.epoch, .slice a5r y.world.chain.ids.length d5r, .slice a6r y.world.nodes.length d6r, .slice a7r y.world.msgs.length d7r, .slice a8r y.world.history.length d8r] (by omega)⟩
theorem idFault_zero {x : DWorld} {id : Int} (h : idFaultR x id = 0) : worldFault x = 0 ∧ nodeIn x id = true := by
 unfold idFaultR at h
 split at h
 ·
  rename_i q; exact absurd h q
 rename_i q
 split at h
 ·
  simp at h
 rename_i q2
 exact ⟨by simpa using q, by simpa using q2⟩
theorem idFault_bd (x : DWorld) (id : Int) : -1000000000 ≤ idFaultR x id ∧ idFaultR x id ≤ 1000000000 := by
 have := wf_vals x
 unfold idFaultR
 split
 ·
  omega
 split <;> omega
theorem nodeIn_at {x : DWorld} {id : Int} (h : nodeIn x id = true) : ∃ k, ∃ _ : k < x.nodes.length, id = (k : Int) + 1 := by
 simp only [nodeIn, Bool.and_eq_true, decide_eq_true_eq] at h
 exact ⟨(id - 1).toNat, by omega, by omega⟩
theorem nodeOf_at {x : DWorld} {k : Nat} (hk : k < x.nodes.length) : nodeOf x ((k : Int) + 1) = x.nodes[k] := by
 have : ((k : Int) + 1 - 1).toNat = k := by omega
 rw [nodeOf, this]
 simp [List.getD, hk]
theorem askedW_eq (x : DWorld) (id : Int) : askedW x id = if idFaultR x id ≠ 0 then idFaultR x id else if 9999 ≤ x.events then 2 else 0 := by
 unfold askedW idFaultR
 by_cases h1 : worldFault x ≠ 0
 ·
  rw [if_pos h1, if_pos h1, if_pos h1]
 rw [if_neg h1, if_neg h1]
 by_cases h2 : nodeIn x id = false
 ·
  rw [if_pos h2, if_pos h2, if_pos (show ((4 : Int) ≠ 0) by omega)]
 rw [if_neg h2, if_neg h2, if_neg (show ¬ ((0 : Int) ≠ 0) by omega)]
theorem steppedR_eq (x : DWorld) (id c : Int) (mv : Bool) (z : DWorld) : steppedR x (idFaultR x id) c mv z = if askedW x id ≠ 0 then badWorld (askedW x id) else resW c mv z := by
 rw [askedW_eq, steppedR]
 by_cases h1 : idFaultR x id ≠ 0
 ·
  rw [if_pos h1, if_pos h1, if_pos h1]
 rw [if_neg h1, if_neg h1]
 by_cases h2 : 9999 ≤ x.events
 ·
  rw [if_pos h2, if_pos h2, if_pos (show ((2 : Int) ≠ 0) by omega)]
 rw [if_neg h2, if_neg h2, if_neg (show ¬ ((0 : Int) ≠ 0) by omega)]
theorem putWR_eq (x : DWorld) (r : DNodeResult) : resW r.code true (putNode (nextW x) r.node) = putWR x r := by
 rw [resW, putWR]
 by_cases h : r.code = 0
 ·
  rw [if_pos h, if_neg (by simpa using h)]
 rw [if_neg h, if_pos h]
theorem askedN_bdW (x : DNode) : -1000000000 ≤ askedN x ∧ askedN x ≤ 1000000000 := by
 have := nodeFault_vals x
 unfold askedN
 split
 ·
  split <;> omega
 omega
theorem syncR_bd (x : DNode) : -1000000000 ≤ (syncR x).code ∧ (syncR x).code ≤ 1000000000 := by
 have := askedN_bdW x
 unfold syncR
 split
 ·
  simp
 exact this
theorem syncR_id {n : DNode} {i : Int} (_ : nodeFault n = 0) (h : n.id = i) : (syncR n).code = 0 → (syncR n).node.id = i := by
 intro h0
 unfold syncR at h0 ⊢
 split
 ·
  exact h
 rename_i q
 rw [if_neg q] at h0
 exact absurd h0 q
theorem syncW_eq (x : DWorld) (id : Int) : steppedR x (idFaultR x id) (syncR (nodeOf x id)).code true (putNode (nextW x) (syncR (nodeOf x id)).node) = syncWR x id := by
 rw [steppedR_eq, putWR_eq, syncWR]
theorem l12BadCZ (c : Int) (w : World) :
  Calls Tryz.prog 49 #[.int .i64 c] w fun e w' => e = .returned (.agg #[.int .i64 c, .bool false, .int .i64 0, .int .i64 0, .int .i64 0, .slice none 0 0, .slice none 0 0, .slice none 0 0, .slice none 0 0]) ∧ Below w.heap.size w w' := by
 have HB : Hid (∀ o, Below w.heap.size w (w.alloc o)) := fun o => (Below.refl _ _).alloc (Nat.le_refl _) o
 go_enter Tryz.func49, Tryz.ntmps49
 go_wp2_with fail
 refine bodyPost_ret (v := .agg #[.int .i64 c, .bool false, .int .i64 0, .int .i64 0, .int .i64 0, .slice none 0 0, .slice none 0 0, .slice none 0 0, .slice none 0 0]) (by simp [results, Tryz.results49, go_sem]) rfl ?_
 exact ⟨rfl, uh HB _⟩
theorem l12AskedC (a3 : Option Addr) (d3 : Nat) (a4 : Option Addr) (d4 : Nat) (a5 : Option Addr) (d5 : Nat) (a6 : Option Addr) (d6 : Nat) (x : DWorld) (id : Int) (xb : Nat) (w : World) (hX : Box 0 #[.int .i64 x.now, .int .i64 x.events, .int .i64 x.chain.epoch, .slice a3 x.chain.ids.length d3, .slice a4 x.nodes.length d4, .slice a5 x.msgs.length d5, .slice a6 x.history.length d6] 36 w xb) (h : Lay.tWorld.Reads w [.int .i64 x.now, .int .i64 x.events, .int .i64 x.chain.epoch, .slice a3 x.chain.ids.length d3, .slice a4 x.nodes.length d4, .slice a5 x.msgs.length d5, .slice a6 x.history.length d6] x) :
  Calls Tryz.prog 48 #[.pointer (some ⟨xb, 0, none⟩), .int .i64 id] w fun e w' => e = .returned (.int .i64 (askedW x id)) ∧ Below w.heap.size w w' := by
 have HX := yh hX
 have HP : Hid (askedW x id = if worldFault x ≠ 0 then worldFault x else if nodeIn x id = false then 4 else if 9999 ≤ x.events then 2 else 0) := rfl
 have HL := yh (l12FaultC a3 d3 a4 d4 a5 d5 a6 d6 x xb w hX h)
 clear hX h
 generalize askedW x id = r at *
 go_enter Tryz.func48, Tryz.ntmps48
 go_wp2_with fail
 refine (uh HL).mono ?_
 rintro e w2 ⟨rfl, hb⟩
 have hx := (uh HX).keep hb
 have HB := yh hb
 clear hb HL HX
 by_cases d1 : worldFault x ≠ 0
 ·
  have hd : (worldFault x != 0) = true := by simpa using d1
  replace HP := yh ((uh HP).trans (if_pos d1))
  clear d1 hx
  generalize worldFault x = c at *
  go_wp2_with fail
  go_ret
  exact ⟨by rw [uh HP]; rfl, uh HB⟩
 replace HP := yh ((uh HP).trans (if_neg d1))
 have hd : worldFault x = 0 := by simpa using d1
 clear d1
 rw [hd]
 clear hd
 have HL := yh (l12NodeC a3 d3 a4 d4 a5 d5 a6 d6 x id xb w2 hx)
 have z1 := Box.at hx 1 _ rfl
 simp only [ga, gb, gc] at z1
 have xl := hx.lt
 clear hx
 go_wp2_with fail
 refine (uh HL).mono ?_
 rintro e w3 ⟨rfl, h3⟩
 subst w3
 clear HL
 generalize nodeIn x id = q at *
 cases q
 ·
  replace HP := yh ((uh HP).trans (if_pos rfl))
  go_wp2_with fail
  go_ret
  exact ⟨by rw [uh HP]; rfl, uh HB⟩
 replace HP := yh ((uh HP).trans (if_neg (by simp)))
 by_cases he : 9999 ≤ x.events
 ·
  have hd : decide (9999 ≤ x.events) = true := by simpa using he
  replace HP := yh ((uh HP).trans (if_pos he))
  clear he
  go_wp2_with fail
  go_ret
  exact ⟨by rw [uh HP]; rfl, uh HB⟩
 have hd : decide (9999 ≤ x.events) = false := by simpa using he
 replace HP := yh ((uh HP).trans (if_neg he))
 clear he
 go_wp2_with fail
 go_ret
 exact ⟨by rw [uh HP]; rfl, uh HB⟩
theorem l12NextC (cs : List Value) (x : DWorld) (w : World) (h : Lay.tWorld.Reads w cs x) (hok : WorldOK x) (hf : Fits x) :
  Calls Tryz.prog 70 #[.agg cs.toArray] w fun e w' => ∃ cs', e = .returned (.agg cs'.toArray) ∧ WNew w' w.heap.size w'.heap.size cs' (nextW x) ∧ Below w.heap.size w w' := by
 obtain ⟨a3, d3, a4, d4, a5, d5, a6, d6, rfl, -, -, -, -⟩ := open_World h
 have nb : Below w.heap.size w ((w.alloc (.cells #[.int .i64 x.now, .int .i64 x.events, .int .i64 x.chain.epoch, .slice a3 x.chain.ids.length d3, .slice a4 x.nodes.length d4, .slice a5 x.msgs.length d5, .slice a6 x.history.length d6] 36)).alloc (.cells #[.int .i64 0, .int .i64 0, .int .i64 0, .slice none 0 0, .slice none 0 0, .slice none 0 0, .slice none 0 0] 36)) := ((Below.refl _ _).alloc (Nat.le_refl _) _).alloc (by simp) _
 have HX : Hid (Box 0 #[.int .i64 x.now, .int .i64 x.events, .int .i64 x.chain.epoch, .slice a3 x.chain.ids.length d3, .slice a4 x.nodes.length d4, .slice a5 x.msgs.length d5, .slice a6 x.history.length d6] 36 ((w.alloc (.cells #[.int .i64 x.now, .int .i64 x.events, .int .i64 x.chain.epoch, .slice a3 x.chain.ids.length d3, .slice a4 x.nodes.length d4, .slice a5 x.msgs.length d5, .slice a6 x.history.length d6] 36)).alloc (.cells #[.int .i64 0, .int .i64 0, .int .i64 0, .slice none 0 0, .slice none 0 0, .slice none 0 0, .slice none 0 0] 36)) w.heap.size) := (newBox (Nat.zero_le _)).grow _
 have HY : Hid (Box 0 #[.int .i64 0, .int .i64 0, .int .i64 0, .slice none 0 0, .slice none 0 0, .slice none 0 0, .slice none 0 0] 36 ((w.alloc (.cells #[.int .i64 x.now, .int .i64 x.events, .int .i64 x.chain.epoch, .slice a3 x.chain.ids.length d3, .slice a4 x.nodes.length d4, .slice a5 x.msgs.length d5, .slice a6 x.history.length d6] 36)).alloc (.cells #[.int .i64 0, .int .i64 0, .int .i64 0, .slice none 0 0, .slice none 0 0, .slice none 0 0, .slice none 0 0] 36)) (w.heap.size + 1)) := newBoxAt (Nat.zero_le _) (by simp)
 have hz0 : ((w.alloc (.cells #[.int .i64 x.now, .int .i64 x.events, .int .i64 x.chain.epoch, .slice a3 x.chain.ids.length d3, .slice a4 x.nodes.length d4, .slice a5 x.msgs.length d5, .slice a6 x.history.length d6] 36)).alloc (.cells #[.int .i64 0, .int .i64 0, .int .i64 0, .slice none 0 0, .slice none 0 0, .slice none 0 0, .slice none 0 0] 36)).heap.size = w.heap.size + 2 := by simp
 have HL := yh (l12CopyC _ x _ (h.later nb) hok hf)
 have HB := yh nb
 have HEV := yh hok.events
 clear nb h hok hf
 go_enter Tryz.func70, Tryz.ntmps70
 go_upto_region 1 with fail
 generalize ((w.alloc (.cells #[.int .i64 x.now, .int .i64 x.events, .int .i64 x.chain.epoch, .slice a3 x.chain.ids.length d3, .slice a4 x.nodes.length d4, .slice a5 x.msgs.length d5, .slice a6 x.history.length d6] 36)).alloc (.cells #[.int .i64 0, .int .i64 0, .int .i64 0, .slice none 0 0, .slice none 0 0, .slice none 0 0, .slice none 0 0] 36)) = W0 at *
 have z0 := Box.at (uh HX) 0 _ rfl
 have z1 := Box.at (uh HX) 1 _ rfl
 have z2 := Box.at (uh HX) 2 _ rfl
 have z3 := Box.at (uh HX) 3 _ rfl
 have z4 := Box.at (uh HX) 4 _ rfl
 have z5 := Box.at (uh HX) 5 _ rfl
 have z6 := Box.at (uh HX) 6 _ rfl
 simp only [ga, gb, gc] at z0 z1 z2 z3 z4 z5 z6
 have zl := (uh HX).lt
 go_wp2_with fail
 refine (uh HL).mono ?_
 rintro e W1 ⟨cs', rfl, O, hb⟩
 obtain ⟨a3w, d3w, a4w, d4w, a5w, d5w, a6w, d6w, rfl, -⟩ := open_World O.reads
 have hz1 : W0.heap.size ≤ W1.heap.size := hb.size
 have nb : Below W1.heap.size W1 (W1.alloc (.cells #[.int .i64 x.now, .int .i64 x.events, .int .i64 x.chain.epoch, .slice a3w x.chain.ids.length d3w, .slice a4w x.nodes.length d4w, .slice a5w x.msgs.length d5w, .slice a6w x.history.length d6w] 36)) := (Below.refl _ _).alloc (Nat.le_refl _) _
 have HG : Hid (Box 0 #[.int .i64 x.now, .int .i64 x.events, .int .i64 x.chain.epoch, .slice a3w x.chain.ids.length d3w, .slice a4w x.nodes.length d4w, .slice a5w x.msgs.length d5w, .slice a6w x.history.length d6w] 36 (W1.alloc (.cells #[.int .i64 x.now, .int .i64 x.events, .int .i64 x.chain.epoch, .slice a3w x.chain.ids.length d3w, .slice a4w x.nodes.length d4w, .slice a5w x.msgs.length d5w, .slice a6w x.history.length d6w] 36)) W1.heap.size) := newBox (Nat.zero_le _)
 have HO := yh (O.later nb)
 replace HY := yh (((uh HY).keep hb).keep nb)
 replace HX := yh (((uh HX).keep hb).keep nb)
 replace HB := yh ((uh HB).trans ((hb.trans (nb.mono hb.size)).mono (uh HB).size))
 have hz2 : W1.heap.size < (W1.alloc (.cells #[.int .i64 x.now, .int .i64 x.events, .int .i64 x.chain.epoch, .slice a3w x.chain.ids.length d3w, .slice a4w x.nodes.length d4w, .slice a5w x.msgs.length d5w, .slice a6w x.history.length d6w] 36)).heap.size := by simp
 clear nb O hb HL z0 z1 z2 z3 z4 z5 z6 zl
 go_upto_region 2 with fail
 generalize W1.alloc (.cells #[.int .i64 x.now, .int .i64 x.events, .int .i64 x.chain.epoch, .slice a3w x.chain.ids.length d3w, .slice a4w x.nodes.length d4w, .slice a5w x.msgs.length d5w, .slice a6w x.history.length d6w] 36) = W2 at *
 have hx := uh HX
 have hg := uh HG
 have z1 := Box.at hx 1 _ rfl
 have y1 := Box.at hg 1 _ rfl
 simp only [ga, gb, gc] at z1 y1
 have zl := hx.lt
 have yl := hg.lt
 have yf := Box.soft hg
 have hev := uh HEV
 have hg2 := Box.set hg 1 (.int .i64 (x.events + 1))
 simp only [List.setIfInBounds_toArray, List.set_cons_zero, List.set_cons_succ] at hg2
 have e1 : Ext (fun q => q = W1.heap.size) W2 (W2.setCell ⟨W1.heap.size, 1, none⟩ (.int .i64 (x.events + 1))) := (Ext.refl _ _).setCell _ _ rfl
 have hO2 := ((uh HO).ext e1 (fun k h1 h2 h3 => by omega)).count x.now (x.events + 1) (wf_World (uh HO).reads).1 (wf_of_bd (by omega))
 replace HG := yh hg2
 replace HO := yh hO2
 replace HY := yh ((uh HY).ext e1 (by omega))
 replace HB := yh ((uh HB).setCell (p := ⟨W1.heap.size, 1, none⟩) (by simp; omega) (.int .i64 (x.events + 1)))
 have hz3 : W2.heap.size ≤ (W2.setCell ⟨W1.heap.size, 1, none⟩ (.int .i64 (x.events + 1))).heap.size := by simp
 clear hx hg hg2 e1 hO2 HX
 go_upto_region 3 with fail
 generalize hW : W2.setCell ⟨W1.heap.size, 1, none⟩ (.int .i64 (x.events + 1)) = W3 at *
 clear hW y1 yf yl z1 zl hev
 have y0 := Box.at (uh HG) 0 _ rfl
 have y1 := Box.at (uh HG) 1 _ rfl
 have y2 := Box.at (uh HG) 2 _ rfl
 have y3 := Box.at (uh HG) 3 _ rfl
 have y4 := Box.at (uh HG) 4 _ rfl
 have y5 := Box.at (uh HG) 5 _ rfl
 have y6 := Box.at (uh HG) 6 _ rfl
 simp only [ga, gb, gc] at y0 y1 y2 y3 y4 y5 y6
 have yl := (uh HG).lt
 have r0 := Box.at (uh HY) 0 _ rfl
 have r1 := Box.at (uh HY) 1 _ rfl
 have r2 := Box.at (uh HY) 2 _ rfl
 have r3 := Box.at (uh HY) 3 _ rfl
 have r4 := Box.at (uh HY) 4 _ rfl
 have r5 := Box.at (uh HY) 5 _ rfl
 have r6 := Box.at (uh HY) 6 _ rfl
 simp only [ga, gb, gc] at r0 r1 r2 r3 r4 r5 r6
 have rl := (uh HY).lt
 have rf := Box.soft (uh HY)
 have e9 : Ext (fun q => q = w.heap.size + 1) W3 (setAll W3 (w.heap.size + 1) 0 [.int .i64 x.now, .int .i64 (x.events + 1), .int .i64 x.chain.epoch, .slice a3w x.chain.ids.length d3w, .slice a4w x.nodes.length d4w, .slice a5w x.msgs.length d5w, .slice a6w x.history.length d6w]) := ext_setAll _ (Ext.refl _ _) _ _ _ rfl
 have HO9 := yh (((uh HO).ext e9 (fun k h1 h2 h3 => by omega)).mono (show w.heap.size ≤ W0.heap.size by omega) (show W1.heap.size ≤ (setAll W3 (w.heap.size + 1) 0 [.int .i64 x.now, .int .i64 (x.events + 1), .int .i64 x.chain.epoch, .slice a3w x.chain.ids.length d3w, .slice a4w x.nodes.length d4w, .slice a5w x.msgs.length d5w, .slice a6w x.history.length d6w]).heap.size by rw [size_setAll]; omega))
 have HB9 := yh (below_setAll (uh HB) (w.heap.size + 1) 0 [.int .i64 x.now, .int .i64 (x.events + 1), .int .i64 x.chain.epoch, .slice a3w x.chain.ids.length d3w, .slice a4w x.nodes.length d4w, .slice a5w x.msgs.length d5w, .slice a6w x.history.length d6w] (by omega))
 clear e9 HO HG HY HB HEV
 go_wp2_with fail
 refine bodyPost_ret (v := .agg #[.int .i64 x.now, .int .i64 (x.events + 1), .int .i64 x.chain.epoch, .slice a3w x.chain.ids.length d3w, .slice a4w x.nodes.length d4w, .slice a5w x.msgs.length d5w, .slice a6w x.history.length d6w]) (by simp [results, Tryz.results70, go_sem, r0, r1, r2, r3, r4, r5, r6]) rfl ?_
 exact ⟨_, rfl, uh HO9, uh HB9⟩
theorem l12PutC (cs rs : List Value) (x : DWorld) (r : DNodeResult) (k lo0 : Nat) (w : World) (h : Lay.tWorld.Reads w cs x) (hr : Lay.tNodeResult.LiesIn w rs r lo0 w.heap.size) (hlo : lo0 ≤ w.heap.size) (hok : WorldOK x) (hf : Fits x) (hk : k < x.nodes.length) (hc : -1000000000 ≤ r.code ∧ r.code ≤ 1000000000) (hid : r.code = 0 → r.node.id = (k : Int) + 1) :
  Calls Tryz.prog 50 #[.agg cs.toArray, .agg rs.toArray] w fun e w' => ∃ cs', e = .returned (.agg cs'.toArray) ∧ Lay.tWorldResult.LiesIn w' cs' (putWR x r) lo0 w'.heap.size ∧ Below w.heap.size w w' := by
 obtain ⟨a3, d3, a4, d4, a5, d5, a6, d6, rfl, -, -, -, -⟩ := open_World h
 obtain ⟨bl, hl, hbl⟩ := hr
 obtain ⟨an, dn, bn, rfl, rfl, k0, k1, k2, k3, k4, k5, k6, k7⟩ := lies_NodeResult.1 hl
 have HP : Hid (putWR x r = if r.code ≠ 0 then badWorld r.code else ⟨0, true, putNode (nextW x) r.node⟩) := rfl
 have HBN : Hid (∀ b off, a4 = some ⟨b, off, none⟩ → 0 < x.nodes.length → b < w.heap.size) := fun b off e hp => by
  obtain ⟨_, _, _, _, _, _, _, _, hq, -, RN, -, -⟩ := open_World h
  simp only [List.cons.injEq, Value.slice.injEq, and_true, true_and] at hq
  obtain ⟨-, ⟨rfl, rfl⟩, -, -, -⟩ := hq
  obtain ⟨b', off', e', hb⟩ := Lay.sl_addr RN hp
  rw [e] at e'
  simp only [Option.some.injEq, Addr.mk.injEq, and_true] at e'
  obtain ⟨rfl, -⟩ := e'
  exact hb
 have nb : Below w.heap.size w (((w.alloc (.cells #[.int .i64 x.now, .int .i64 x.events, .int .i64 x.chain.epoch, .slice a3 x.chain.ids.length d3, .slice a4 x.nodes.length d4, .slice a5 x.msgs.length d5, .slice a6 x.history.length d6] 36)).alloc (.cells #[.int .i64 r.code, .int .i64 r.place, .int .i64 r.node.id, .bool r.node.up, .int .i64 r.node.epoch, .int .i64 r.node.lease, .slice an r.node.writes.length dn, .int .i64 r.node.sure, .int .i64 r.node.clean] 65)).alloc (.cells #[.int .i64 0, .bool false, .int .i64 0, .int .i64 0, .int .i64 0, .slice none 0 0, .slice none 0 0, .slice none 0 0, .slice none 0 0] 38)) := (((Below.refl _ _).alloc (Nat.le_refl _) _).alloc (by simp) _).alloc (by simp; omega) _
 have HX : Hid (Box 0 #[.int .i64 x.now, .int .i64 x.events, .int .i64 x.chain.epoch, .slice a3 x.chain.ids.length d3, .slice a4 x.nodes.length d4, .slice a5 x.msgs.length d5, .slice a6 x.history.length d6] 36 (((w.alloc (.cells #[.int .i64 x.now, .int .i64 x.events, .int .i64 x.chain.epoch, .slice a3 x.chain.ids.length d3, .slice a4 x.nodes.length d4, .slice a5 x.msgs.length d5, .slice a6 x.history.length d6] 36)).alloc (.cells #[.int .i64 r.code, .int .i64 r.place, .int .i64 r.node.id, .bool r.node.up, .int .i64 r.node.epoch, .int .i64 r.node.lease, .slice an r.node.writes.length dn, .int .i64 r.node.sure, .int .i64 r.node.clean] 65)).alloc (.cells #[.int .i64 0, .bool false, .int .i64 0, .int .i64 0, .int .i64 0, .slice none 0 0, .slice none 0 0, .slice none 0 0, .slice none 0 0] 38)) w.heap.size) := (((newBox (Nat.zero_le _)).grow _).grow _)
 have HE0 : Hid (Box 0 #[.int .i64 r.code, .int .i64 r.place, .int .i64 r.node.id, .bool r.node.up, .int .i64 r.node.epoch, .int .i64 r.node.lease, .slice an r.node.writes.length dn, .int .i64 r.node.sure, .int .i64 r.node.clean] 65 (((w.alloc (.cells #[.int .i64 x.now, .int .i64 x.events, .int .i64 x.chain.epoch, .slice a3 x.chain.ids.length d3, .slice a4 x.nodes.length d4, .slice a5 x.msgs.length d5, .slice a6 x.history.length d6] 36)).alloc (.cells #[.int .i64 r.code, .int .i64 r.place, .int .i64 r.node.id, .bool r.node.up, .int .i64 r.node.epoch, .int .i64 r.node.lease, .slice an r.node.writes.length dn, .int .i64 r.node.sure, .int .i64 r.node.clean] 65)).alloc (.cells #[.int .i64 0, .bool false, .int .i64 0, .int .i64 0, .int .i64 0, .slice none 0 0, .slice none 0 0, .slice none 0 0, .slice none 0 0] 38)) (w.heap.size + 1)) := ((newBoxAt (Nat.zero_le _) (by simp)).grow _)
 have HY : Hid (Box 0 #[.int .i64 0, .bool false, .int .i64 0, .int .i64 0, .int .i64 0, .slice none 0 0, .slice none 0 0, .slice none 0 0, .slice none 0 0] 38 (((w.alloc (.cells #[.int .i64 x.now, .int .i64 x.events, .int .i64 x.chain.epoch, .slice a3 x.chain.ids.length d3, .slice a4 x.nodes.length d4, .slice a5 x.msgs.length d5, .slice a6 x.history.length d6] 36)).alloc (.cells #[.int .i64 r.code, .int .i64 r.place, .int .i64 r.node.id, .bool r.node.up, .int .i64 r.node.epoch, .int .i64 r.node.lease, .slice an r.node.writes.length dn, .int .i64 r.node.sure, .int .i64 r.node.clean] 65)).alloc (.cells #[.int .i64 0, .bool false, .int .i64 0, .int .i64 0, .int .i64 0, .slice none 0 0, .slice none 0 0, .slice none 0 0, .slice none 0 0] 38)) (w.heap.size + 1 + 1)) := newBoxAt (Nat.zero_le _) (by simp)
 have hz0 : (((w.alloc (.cells #[.int .i64 x.now, .int .i64 x.events, .int .i64 x.chain.epoch, .slice a3 x.chain.ids.length d3, .slice a4 x.nodes.length d4, .slice a5 x.msgs.length d5, .slice a6 x.history.length d6] 36)).alloc (.cells #[.int .i64 r.code, .int .i64 r.place, .int .i64 r.node.id, .bool r.node.up, .int .i64 r.node.epoch, .int .i64 r.node.lease, .slice an r.node.writes.length dn, .int .i64 r.node.sure, .int .i64 r.node.clean] 65)).alloc (.cells #[.int .i64 0, .bool false, .int .i64 0, .int .i64 0, .int .i64 0, .slice none 0 0, .slice none 0 0, .slice none 0 0, .slice none 0 0] 38)).heap.size = w.heap.size + 3 := by simp
 have HR := yh (h.later nb)
 have HB := yh nb
 clear nb
 have HL := yh (l12NextC _ x _ (uh HR) hok hf)
 have HNL : Hid (∃ bn, Lay.tNode.lies w [.int .i64 r.node.id, .bool r.node.up, .int .i64 r.node.epoch, .int .i64 r.node.lease, .slice an r.node.writes.length dn, .int .i64 r.node.sure, .int .i64 r.node.clean] r.node bn ∧ ∀ c ∈ bn, lo0 ≤ c ∧ c < w.heap.size) := ⟨_, lies_Node.2 ⟨an, dn, _, rfl, rfl, k2, k3, k4, k5, k6, k7⟩, hbl⟩
 have HN5 := yh hok.some
 have HC := yh hc
 clear h hok hf hc hl hbl k0 k1 k2 k3 k4 k5 k6 k7
 generalize putWR x r = R at *
 go_enter Tryz.func50, Tryz.ntmps50
 go_upto_region 1 with fail
 generalize (((w.alloc (.cells #[.int .i64 x.now, .int .i64 x.events, .int .i64 x.chain.epoch, .slice a3 x.chain.ids.length d3, .slice a4 x.nodes.length d4, .slice a5 x.msgs.length d5, .slice a6 x.history.length d6] 36)).alloc (.cells #[.int .i64 r.code, .int .i64 r.place, .int .i64 r.node.id, .bool r.node.up, .int .i64 r.node.epoch, .int .i64 r.node.lease, .slice an r.node.writes.length dn, .int .i64 r.node.sure, .int .i64 r.node.clean] 65)).alloc (.cells #[.int .i64 0, .bool false, .int .i64 0, .int .i64 0, .int .i64 0, .slice none 0 0, .slice none 0 0, .slice none 0 0, .slice none 0 0] 38)) = W0 at *
 have n0 := Box.at (uh HE0) 0 _ rfl
 simp only [List.getElem_toArray, List.getElem_cons_zero] at n0
 have nl := (uh HE0).lt
 by_cases d1 : r.code ≠ 0
 ·
  have hd : (r.code != 0) = true := by simpa using d1
  replace HP := yh ((uh HP).trans (if_pos d1))
  clear d1 HL HNL HE0 hid
  go_wp2_with fail
  refine (l12BadCZ (r.code) _).mono ?_
  rintro e wB ⟨rfl, hbB⟩
  have hyB := (uh HY).keep hbB
  have z0 := Box.at hyB 0 _ rfl
  have z1 := Box.at hyB 1 _ rfl
  have z2 := Box.at hyB 2 _ rfl
  have z3 := Box.at hyB 3 _ rfl
  have z4 := Box.at hyB 4 _ rfl
  have z5 := Box.at hyB 5 _ rfl
  have z6 := Box.at hyB 6 _ rfl
  have z7 := Box.at hyB 7 _ rfl
  have z8 := Box.at hyB 8 _ rfl
  simp only [ga, gb, gc] at z0 z1 z2 z3 z4 z5 z6 z7 z8
  have zf := Box.soft hyB
  have zl := hyB.lt
  have HB9 := yh (below_setAll ((uh HB).trans (hbB.mono (uh HB).size)) (w.heap.size + 1 + 1) 0 [.int .i64 r.code, .bool false, .int .i64 0, .int .i64 0, .int .i64 0, .slice none 0 0, .slice none 0 0, .slice none 0 0, .slice none 0 0] (by omega))
  clear hyB hbB HY HB
  go_wp2_with fail
  refine bodyPost_ret (v := .agg #[.int .i64 r.code, .bool false, .int .i64 0, .int .i64 0, .int .i64 0, .slice none 0 0, .slice none 0 0, .slice none 0 0, .slice none 0 0]) (by simp [results, Tryz.results50, go_sem, z0, z1, z2, z3, z4, z5, z6, z7, z8]) rfl ?_
  rw [uh HP]
  exact ⟨[.int .i64 r.code, .bool false, .int .i64 0, .int .i64 0, .int .i64 0, .slice none 0 0, .slice none 0 0, .slice none 0 0, .slice none 0 0], rfl, (own_badW (uh HC) (lo := _) (Nat.le_trans hlo (uh HB9).size)).lies, uh HB9⟩
 have d0 : r.code = 0 := by simpa using d1
 have hd : (r.code != 0) = false := by simpa using d0
 replace HP := yh ((uh HP).trans (if_neg d1))
 have hid := hid d0
 clear d1
 rw [putNode_eq hid] at HP
 have HID := yh hid
 clear d0
 have z0 := Box.at (uh HX) 0 _ rfl
 have z1 := Box.at (uh HX) 1 _ rfl
 have z2 := Box.at (uh HX) 2 _ rfl
 have z3 := Box.at (uh HX) 3 _ rfl
 have z4 := Box.at (uh HX) 4 _ rfl
 have z5 := Box.at (uh HX) 5 _ rfl
 have z6 := Box.at (uh HX) 6 _ rfl
 simp only [ga, gb, gc] at z0 z1 z2 z3 z4 z5 z6
 have zl := (uh HX).lt
 go_wp2_with fail
 clear hd n0 nl
 refine (uh HL).mono ?_
 rintro e W1 ⟨cs', rfl, O, hb⟩
 have hop := open_World O.reads
 dsimp only [nextW] at hop
 obtain ⟨a3w, d3w, a4w, d4w, a5w, d5w, a6w, d6w, rfl, -⟩ := hop
 have hz1 : W0.heap.size ≤ W1.heap.size := hb.size
 have nb : Below W1.heap.size W1 (W1.alloc (.cells #[.int .i64 x.now, .int .i64 (x.events + 1), .int .i64 x.chain.epoch, .slice a3w x.chain.ids.length d3w, .slice a4w x.nodes.length d4w, .slice a5w x.msgs.length d5w, .slice a6w x.history.length d6w] 36)) := (Below.refl _ _).alloc (Nat.le_refl _) _
 have HG : Hid (Box 0 #[.int .i64 x.now, .int .i64 (x.events + 1), .int .i64 x.chain.epoch, .slice a3w x.chain.ids.length d3w, .slice a4w x.nodes.length d4w, .slice a5w x.msgs.length d5w, .slice a6w x.history.length d6w] 36 (W1.alloc (.cells #[.int .i64 x.now, .int .i64 (x.events + 1), .int .i64 x.chain.epoch, .slice a3w x.chain.ids.length d3w, .slice a4w x.nodes.length d4w, .slice a5w x.msgs.length d5w, .slice a6w x.history.length d6w] 36)) W1.heap.size) := newBox (Nat.zero_le _)
 have HO := yh ((O.later nb).st (G := fun c => c < lo0 ∨ (w.heap.size ≤ c ∧ c < W0.heap.size) ∨ c = W1.heap.size) (fun k hk => by omega))
 replace HY := yh (((uh HY).keep hb).keep nb)
 replace HE0 := yh (((uh HE0).keep hb).keep nb)
 replace HB := yh ((uh HB).trans ((hb.trans (nb.mono hb.size)).mono (uh HB).size))
 have HNL2 : Hid (∃ bn, Lay.tNode.lies (W1.alloc (.cells #[.int .i64 x.now, .int .i64 (x.events + 1), .int .i64 x.chain.epoch, .slice a3w x.chain.ids.length d3w, .slice a4w x.nodes.length d4w, .slice a5w x.msgs.length d5w, .slice a6w x.history.length d6w] 36)) [.int .i64 r.node.id, .bool r.node.up, .int .i64 r.node.epoch, .int .i64 r.node.lease, .slice an r.node.writes.length dn, .int .i64 r.node.sure, .int .i64 r.node.clean] r.node bn ∧ ∀ c ∈ bn, lo0 ≤ c ∧ c < w.heap.size) := by
  obtain ⟨bn, hln, hbn⟩ := uh HNL
  exact ⟨bn, Lay.tNode.keep hln (fun c hc => (uh HB).block c (hbn c hc).2), hbn⟩
 have hz2 : W1.heap.size < (W1.alloc (.cells #[.int .i64 x.now, .int .i64 (x.events + 1), .int .i64 x.chain.epoch, .slice a3w x.chain.ids.length d3w, .slice a4w x.nodes.length d4w, .slice a5w x.msgs.length d5w, .slice a6w x.history.length d6w] 36)).heap.size := by simp
 clear nb O hb HL HNL z0 z1 z2 z3 z4 z5 z6 zl HX
 go_upto_region 4 with fail
 generalize W1.alloc (.cells #[.int .i64 x.now, .int .i64 (x.events + 1), .int .i64 x.chain.epoch, .slice a3w x.chain.ids.length d3w, .slice a4w x.nodes.length d4w, .slice a5w x.msgs.length d5w, .slice a6w x.history.length d6w] 36) = W2 at *
 have hg := uh HG
 have hk' : k < (nextW x).nodes.length := hk
 obtain ⟨b, off, d4, row0, e4, hb1, hb2, hb3, hbG, hR0, -, -, hput⟩ := wst_put (y := nextW x) (uh HO) hk'
 simp only [Value.slice.injEq] at e4
 obtain ⟨rfl, -, rfl⟩ := e4
 have y4 := Box.at hg 4 _ rfl
 have hh := uh HE0
 have nn0 := Box.at hh 2 _ rfl
 have nn1 := Box.at hh 3 _ rfl
 have nn2 := Box.at hh 4 _ rfl
 have nn3 := Box.at hh 5 _ rfl
 have nn4 := Box.at hh 6 _ rfl
 have nn5 := Box.at hh 7 _ rfl
 have nn6 := Box.at hh 8 _ rfl
 simp only [ga, gb, gc] at y4 nn0 nn1 nn2 nn3 nn4 nn5 nn6
 have yl := hg.lt
 have nl := hh.lt
 rw [uh HID] at nn0
 have hw1 : IntKind.i64.wrap (k : Int) = (k : Int) := by
  have := uh HN5
  rw [IntKind.wrap_i64]
  omega
 have hki : (k : Int) < (x.nodes.length : Int) := by omega
 have hki0 : (0 : Int) ≤ (k : Int) := by omega
 have hrl := hR0.len
 match row0, hrl with
 | [t0, t1, t2, t3, t4, t5, t6], _ =>
 have q0 : W2.cell? ⟨b, off + k * 7, none⟩ = some t0 := hR0.cells 0 (by decide)
 have q1 : W2.cell? ⟨b, off + k * 7 + 1, none⟩ = some t1 := hR0.cells 1 (by decide)
 have q2 : W2.cell? ⟨b, off + k * 7 + 2, none⟩ = some t2 := hR0.cells 2 (by decide)
 have q3 : W2.cell? ⟨b, off + k * 7 + 3, none⟩ = some t3 := hR0.cells 3 (by decide)
 have q4 : W2.cell? ⟨b, off + k * 7 + 4, none⟩ = some t4 := hR0.cells 4 (by decide)
 have q5 : W2.cell? ⟨b, off + k * 7 + 5, none⟩ = some t5 := hR0.cells 5 (by decide)
 have q6 : W2.cell? ⟨b, off + k * 7 + 6, none⟩ = some t6 := hR0.cells 6 (by decide)
 have s0 := hR0.soft (off + k * 7)
 have s1 := hR0.soft (off + k * 7 + 1)
 have s2 := hR0.soft (off + k * 7 + 2)
 have s3 := hR0.soft (off + k * 7 + 3)
 have s4 := hR0.soft (off + k * 7 + 4)
 have s5 := hR0.soft (off + k * 7 + 5)
 have s6 := hR0.soft (off + k * 7 + 6)
 have hR7 := hR0.set7 (.int .i64 ((k : Int) + 1)) (.bool r.node.up) (.int .i64 r.node.epoch) (.int .i64 r.node.lease) (.slice an r.node.writes.length dn) (.int .i64 r.node.sure) (.int .i64 r.node.clean)
 have hE7 : Ext (fun c => c = b) W2 (((((((W2.setCell ⟨b, off + k * 7, none⟩ (.int .i64 ((k : Int) + 1))).setCell ⟨b, off + k * 7 + 1, none⟩ (.bool r.node.up)).setCell ⟨b, off + k * 7 + 2, none⟩ (.int .i64 r.node.epoch)).setCell ⟨b, off + k * 7 + 3, none⟩ (.int .i64 r.node.lease)).setCell ⟨b, off + k * 7 + 4, none⟩ (.slice an r.node.writes.length dn)).setCell ⟨b, off + k * 7 + 5, none⟩ (.int .i64 r.node.sure)).setCell ⟨b, off + k * 7 + 6, none⟩ (.int .i64 r.node.clean)) := hR7.ext.mono (fun c _ e => by rcases e with e | e; exact e; cases e)
 obtain ⟨bn, hln, hbn⟩ := uh HNL2
 rw [uh HID] at hln
 have hO3 := hput _ _ r.node bn (Lay.tNode.keep hln (fun c hc => hE7.block c (by have := hbn c hc; omega) (fun e => by have := hbn c hc; omega))) (fun c hc => ⟨fun e => by have := hbn c hc; omega, fun e => by have := hbn c hc; omega⟩) hR7
 have hbg : b ≠ W1.heap.size := fun e => hbG (Or.inr (Or.inr e))
 have HO3 := yh hO3
 have HG3 := yh (hg.ext hE7 (fun e => hbg e.symm))
 have HY3 := yh ((uh HY).ext hE7 (by omega))
 have HB3 := yh ((uh HB).trans (hE7.below (B := w.heap.size) (by omega) (fun c hc e => by omega)))
 have HZ3 : Hid (W2.heap.size ≤ (((((((W2.setCell ⟨b, off + k * 7, none⟩ (.int .i64 ((k : Int) + 1))).setCell ⟨b, off + k * 7 + 1, none⟩ (.bool r.node.up)).setCell ⟨b, off + k * 7 + 2, none⟩ (.int .i64 r.node.epoch)).setCell ⟨b, off + k * 7 + 3, none⟩ (.int .i64 r.node.lease)).setCell ⟨b, off + k * 7 + 4, none⟩ (.slice an r.node.writes.length dn)).setCell ⟨b, off + k * 7 + 5, none⟩ (.int .i64 r.node.sure)).setCell ⟨b, off + k * 7 + 6, none⟩ (.int .i64 r.node.clean)).heap.size) := hE7.size
 clear hg hput hR0 hR7 hE7 hO3 HO HG HY HB HNL2 HE0 hh hln hbn hid HN5 hbG hk' hrl HC HID HR
 go_upto_region 5 with fail
 generalize (((((((W2.setCell ⟨b, off + k * 7, none⟩ (.int .i64 ((k : Int) + 1))).setCell ⟨b, off + k * 7 + 1, none⟩ (.bool r.node.up)).setCell ⟨b, off + k * 7 + 2, none⟩ (.int .i64 r.node.epoch)).setCell ⟨b, off + k * 7 + 3, none⟩ (.int .i64 r.node.lease)).setCell ⟨b, off + k * 7 + 4, none⟩ (.slice an r.node.writes.length dn)).setCell ⟨b, off + k * 7 + 5, none⟩ (.int .i64 r.node.sure)).setCell ⟨b, off + k * 7 + 6, none⟩ (.int .i64 r.node.clean)) = W3 at *
 have hz3 := uh HZ3
 clear y4 yl nn0 nn1 nn2 nn3 nn4 nn5 nn6 nl q0 q1 q2 q3 q4 q5 q6 s0 s1 s2 s3 s4 s5 s6 hw1
 have y0 := Box.at (uh HG3) 0 _ rfl
 have y1 := Box.at (uh HG3) 1 _ rfl
 have y2 := Box.at (uh HG3) 2 _ rfl
 have y3 := Box.at (uh HG3) 3 _ rfl
 have y4 := Box.at (uh HG3) 4 _ rfl
 have y5 := Box.at (uh HG3) 5 _ rfl
 have y6 := Box.at (uh HG3) 6 _ rfl
 simp only [ga, gb, gc] at y0 y1 y2 y3 y4 y5 y6
 have yl := (uh HG3).lt
 have r0 := Box.at (uh HY3) 0 _ rfl
 have r1 := Box.at (uh HY3) 1 _ rfl
 have r2 := Box.at (uh HY3) 2 _ rfl
 have r3 := Box.at (uh HY3) 3 _ rfl
 have r4 := Box.at (uh HY3) 4 _ rfl
 have r5 := Box.at (uh HY3) 5 _ rfl
 have r6 := Box.at (uh HY3) 6 _ rfl
 have r7 := Box.at (uh HY3) 7 _ rfl
 have r8 := Box.at (uh HY3) 8 _ rfl
 simp only [ga, gb, gc] at r0 r1 r2 r3 r4 r5 r6 r7 r8
 have rl := (uh HY3).lt
 have rf := Box.soft (uh HY3)
 have e9 : Ext (fun q => q = w.heap.size + 1 + 1) W3 (setAll W3 (w.heap.size + 1 + 1) 0 [.int .i64 0, .bool true, .int .i64 x.now, .int .i64 (x.events + 1), .int .i64 x.chain.epoch, .slice a3w x.chain.ids.length d3w, .slice (some ⟨b, off, none⟩) x.nodes.length d4w, .slice a5w x.msgs.length d5w, .slice a6w x.history.length d6w]) := ext_setAll _ (Ext.refl _ _) _ _ _ rfl
 have HO9 := yh (okR_lies (m := true) (((uh HO3).ext e9 (fun c h1 h2 h3 => h2 (Or.inr (Or.inl (by omega))))).liesIn (B := lo0) (fun c hc => by omega)))
 have HB9 := yh (below_setAll (uh HB3) (w.heap.size + 1 + 1) 0 [.int .i64 0, .bool true, .int .i64 x.now, .int .i64 (x.events + 1), .int .i64 x.chain.epoch, .slice a3w x.chain.ids.length d3w, .slice (some ⟨b, off, none⟩) x.nodes.length d4w, .slice a5w x.msgs.length d5w, .slice a6w x.history.length d6w] (by omega))
 clear e9 HO3 HG3 HY3 HB3
 go_wp2_with fail
 refine bodyPost_ret (v := .agg #[.int .i64 0, .bool true, .int .i64 x.now, .int .i64 (x.events + 1), .int .i64 x.chain.epoch, .slice a3w x.chain.ids.length d3w, .slice (some ⟨b, off, none⟩) x.nodes.length d4w, .slice a5w x.msgs.length d5w, .slice a6w x.history.length d6w]) (by simp [results, Tryz.results50, go_sem, r0, r1, r2, r3, r4, r5, r6, r7, r8]) rfl ?_
 rw [uh HP]
 exact ⟨_, rfl, uh HO9, uh HB9⟩
theorem asked_zero {x : DWorld} {id : Int} (h : askedW x id = 0) : worldFault x = 0 ∧ nodeIn x id = true := by
 rw [askedW_eq] at h
 by_cases q : idFaultR x id ≠ 0
 ·
  rw [if_pos q] at h
  exact absurd h q
 exact idFault_zero (by simpa using q)
theorem asked_bd (x : DWorld) (id : Int) : -1000000000 ≤ askedW x id ∧ askedW x id ≤ 1000000000 := by
 have := idFault_bd x id
 rw [askedW_eq]
 split
 ·
  exact this
 split <;> omega
theorem specSyncNode (cs : List Value) (x : DNode) (w : World) (h : Lay.tNode.Reads w cs x) :
  Calls Tryz.prog 51 #[.agg cs.toArray] w fun e w' => ∃ cs, e = .returned (.agg cs.toArray) ∧ Lay.tNodeResult.LiesIn w' cs (syncR x) w.heap.size w'.heap.size ∧ Below w.heap.size w w' := by
 have hN := h
 obtain ⟨a4, d4, rfl, R4⟩ := open_Node h
 have nb : Below w.heap.size w ((w.alloc (.cells #[.int .i64 x.id, .bool x.up, .int .i64 x.epoch, .int .i64 x.lease, .slice a4 x.writes.length d4, .int .i64 x.sure, .int .i64 x.clean] 63)).alloc (.cells #[.int .i64 0, .int .i64 0, .int .i64 0, .bool false, .int .i64 0, .int .i64 0, .slice none 0 0, .int .i64 0, .int .i64 0] 65)) := ((Below.refl _ _).alloc (Nat.le_refl _) _).alloc (by simp) _
 have bX : Box 0 #[.int .i64 x.id, .bool x.up, .int .i64 x.epoch, .int .i64 x.lease, .slice a4 x.writes.length d4, .int .i64 x.sure, .int .i64 x.clean] 63 ((w.alloc (.cells #[.int .i64 x.id, .bool x.up, .int .i64 x.epoch, .int .i64 x.lease, .slice a4 x.writes.length d4, .int .i64 x.sure, .int .i64 x.clean] 63)).alloc (.cells #[.int .i64 0, .int .i64 0, .int .i64 0, .bool false, .int .i64 0, .int .i64 0, .slice none 0 0, .int .i64 0, .int .i64 0] 65)) w.heap.size := (newBox (Nat.zero_le _)).grow _
 have bR : Box 0 #[.int .i64 0, .int .i64 0, .int .i64 0, .bool false, .int .i64 0, .int .i64 0, .slice none 0 0, .int .i64 0, .int .i64 0] 65 ((w.alloc (.cells #[.int .i64 x.id, .bool x.up, .int .i64 x.epoch, .int .i64 x.lease, .slice a4 x.writes.length d4, .int .i64 x.sure, .int .i64 x.clean] 63)).alloc (.cells #[.int .i64 0, .int .i64 0, .int .i64 0, .bool false, .int .i64 0, .int .i64 0, .slice none 0 0, .int .i64 0, .int .i64 0] 65)) (w.heap.size + 1) := newBoxAt (Nat.zero_le _) (by simp)
 have HL := yh (l9AskedC w.heap.size a4 d4 x _ bX (R4.later nb))
 have HN := yh (hN.later nb)
 have HX0 := yh bX
 have HR0 := yh bR
 have HB0 := yh nb
 clear h hN nb bX bR R4
 go_enter Tryz.func51, Tryz.ntmps51
 go_wp2_with fail
 generalize (w.alloc (.cells #[.int .i64 x.id, .bool x.up, .int .i64 x.epoch, .int .i64 x.lease, .slice a4 x.writes.length d4, .int .i64 x.sure, .int .i64 x.clean] 63)).alloc (.cells #[.int .i64 0, .int .i64 0, .int .i64 0, .bool false, .int .i64 0, .int .i64 0, .slice none 0 0, .int .i64 0, .int .i64 0] 65) = W0 at *
 refine (uh HL).mono ?_
 rintro e w1 ⟨rfl, hb⟩
 have HX := yh ((uh HX0).keep hb)
 have HR := yh ((uh HR0).keep hb)
 have HB1 := yh ((uh HB0).trans (hb.mono (uh HB0).size))
 replace HN := yh ((uh HN).later hb)
 clear hb HL HX0 HR0 HB0
 by_cases hf : askedN x = 0
 ·
  rw [hf]
  have hok := (askedN_zero hf).1
  have HA := yh hf
  have HOK := yh hok
  clear hf
  have x0 := Box.at (uh HX) 0 _ rfl
  have x1 := Box.at (uh HX) 1 _ rfl
  have x2 := Box.at (uh HX) 2 _ rfl
  have x3 := Box.at (uh HX) 3 _ rfl
  have x4 := Box.at (uh HX) 4 _ rfl
  have x5 := Box.at (uh HX) 5 _ rfl
  have x6 := Box.at (uh HX) 6 _ rfl
  simp only [ga, gb, gc] at x0 x1 x2 x3 x4 x5 x6
  have xl := (uh HX).lt
  have HC := yh (ncopyC _ x w1 (uh HN) (by have := hok.len; omega) (node_vecs9 hok))
  clear hok HN
  go_wp2_with fail
  clear x0 x1 x2 x3 x4 x5 x6 xl
  refine (uh HC).mono ?_
  rintro e w2 ⟨a6, d6, rfl, O, hb⟩
  have hrl : w.heap.size + 1 < w1.heap.size := (uh HR).lt
  have bX2 := (uh HX).keep hb
  have bR2 := (uh HR).keep hb
  have HBw := yh ((uh HB1).trans (hb.mono (uh HB1).size))
  have HOw := yh O
  have hz2 := hb.size
  clear hb O HC HX HR HB1
  have y4 := Box.at bX2 4 _ rfl
  simp only [ga, gb, gc] at y4
  have z0 := Box.at bR2 0 _ rfl
  have z1 := Box.at bR2 1 _ rfl
  have z2 := Box.at bR2 2 _ rfl
  have z3 := Box.at bR2 3 _ rfl
  have z4 := Box.at bR2 4 _ rfl
  have z5 := Box.at bR2 5 _ rfl
  have z6 := Box.at bR2 6 _ rfl
  have z7 := Box.at bR2 7 _ rfl
  have z8 := Box.at bR2 8 _ rfl
  simp only [ga, gb, gc] at z0 z1 z2 z3 z4 z5 z6 z7 z8
  have ff := Box.soft bR2
  have l0 := Box.lt bR2
  have yl := bX2.lt
  clear bX2
  have hne : w.heap.size + 1 < w2.heap.size := by omega
  have bF : Box 0 #[.int .i64 0, .int .i64 (x.writes.length : Int), .int .i64 x.id, .bool x.up, .int .i64 x.epoch, .int .i64 x.lease, .slice a6 x.writes.length d6, .int .i64 (x.writes.length : Int), .int .i64 x.clean] 65 ((((((((((w2.setCell ⟨w.heap.size + 1, 0, none⟩ (.int .i64 0)).setCell ⟨w.heap.size + 1, 1, none⟩ (.int .i64 (x.writes.length : Int))).setCell ⟨w.heap.size + 1, 2, none⟩ (.int .i64 x.id)).setCell ⟨w.heap.size + 1, 3, none⟩ (.bool x.up)).setCell ⟨w.heap.size + 1, 4, none⟩ (.int .i64 x.epoch)).setCell ⟨w.heap.size + 1, 5, none⟩ (.int .i64 x.lease)).setCell ⟨w.heap.size + 1, 6, none⟩ (.slice a6 x.writes.length d6)).setCell ⟨w.heap.size + 1, 7, none⟩ (.int .i64 (x.writes.length : Int))).setCell ⟨w.heap.size + 1, 8, none⟩ (.int .i64 x.clean)).alloc (.cells #[.int .i64 x.id, .bool x.up, .int .i64 x.epoch, .int .i64 x.lease, .slice a6 x.writes.length d6, .int .i64 (x.writes.length : Int), .int .i64 x.clean] 63)) (w.heap.size + 1) := Box.grow (box_set9 bR2 (.int .i64 0) (.int .i64 (x.writes.length : Int)) (.int .i64 x.id) (.bool x.up) (.int .i64 x.epoch) (.int .i64 x.lease) (.slice a6 x.writes.length d6) (.int .i64 (x.writes.length : Int)) (.int .i64 x.clean)) _
  have HK := yh bF
  clear bF
  have HBF : Hid (Below w.heap.size w ((((((((((w2.setCell ⟨w.heap.size + 1, 0, none⟩ (.int .i64 0)).setCell ⟨w.heap.size + 1, 1, none⟩ (.int .i64 (x.writes.length : Int))).setCell ⟨w.heap.size + 1, 2, none⟩ (.int .i64 x.id)).setCell ⟨w.heap.size + 1, 3, none⟩ (.bool x.up)).setCell ⟨w.heap.size + 1, 4, none⟩ (.int .i64 x.epoch)).setCell ⟨w.heap.size + 1, 5, none⟩ (.int .i64 x.lease)).setCell ⟨w.heap.size + 1, 6, none⟩ (.slice a6 x.writes.length d6)).setCell ⟨w.heap.size + 1, 7, none⟩ (.int .i64 (x.writes.length : Int))).setCell ⟨w.heap.size + 1, 8, none⟩ (.int .i64 x.clean)).alloc (.cells #[.int .i64 x.id, .bool x.up, .int .i64 x.epoch, .int .i64 x.lease, .slice a6 x.writes.length d6, .int .i64 (x.writes.length : Int), .int .i64 x.clean] 63))) := (below_setAll (uh HBw) (w.heap.size + 1) 0 [.int .i64 0, .int .i64 (x.writes.length : Int), .int .i64 x.id, .bool x.up, .int .i64 x.epoch, .int .i64 x.lease, .slice a6 x.writes.length d6, .int .i64 (x.writes.length : Int), .int .i64 x.clean] (by omega)).alloc (by have := (below_setAll (uh HBw) (w.heap.size + 1) 0 [.int .i64 0, .int .i64 (x.writes.length : Int), .int .i64 x.id, .bool x.up, .int .i64 x.epoch, .int .i64 x.lease, .slice a6 x.writes.length d6, .int .i64 (x.writes.length : Int), .int .i64 x.clean] (by omega)).size; exact this) _
  have HOF : Hid ((Lay.sl Lay.tWrite).LiesIn ((((((((((w2.setCell ⟨w.heap.size + 1, 0, none⟩ (.int .i64 0)).setCell ⟨w.heap.size + 1, 1, none⟩ (.int .i64 (x.writes.length : Int))).setCell ⟨w.heap.size + 1, 2, none⟩ (.int .i64 x.id)).setCell ⟨w.heap.size + 1, 3, none⟩ (.bool x.up)).setCell ⟨w.heap.size + 1, 4, none⟩ (.int .i64 x.epoch)).setCell ⟨w.heap.size + 1, 5, none⟩ (.int .i64 x.lease)).setCell ⟨w.heap.size + 1, 6, none⟩ (.slice a6 x.writes.length d6)).setCell ⟨w.heap.size + 1, 7, none⟩ (.int .i64 (x.writes.length : Int))).setCell ⟨w.heap.size + 1, 8, none⟩ (.int .i64 x.clean)).alloc (.cells #[.int .i64 x.id, .bool x.up, .int .i64 x.epoch, .int .i64 x.lease, .slice a6 x.writes.length d6, .int .i64 (x.writes.length : Int), .int .i64 x.clean] 63)) [.slice a6 x.writes.length d6] (x.writes) w1.heap.size w2.heap.size) := (lies_store' (s := w.heap.size + 1) (vs := [.int .i64 0, .int .i64 (x.writes.length : Int), .int .i64 x.id, .bool x.up, .int .i64 x.epoch, .int .i64 x.lease, .slice a6 x.writes.length d6, .int .i64 (x.writes.length : Int), .int .i64 x.clean]) (uh HOw) (by omega)).later ((Below.refl _ _).alloc (Nat.le_refl _) _)
  have HZF : Hid (w2.heap.size ≤ ((((((((((w2.setCell ⟨w.heap.size + 1, 0, none⟩ (.int .i64 0)).setCell ⟨w.heap.size + 1, 1, none⟩ (.int .i64 (x.writes.length : Int))).setCell ⟨w.heap.size + 1, 2, none⟩ (.int .i64 x.id)).setCell ⟨w.heap.size + 1, 3, none⟩ (.bool x.up)).setCell ⟨w.heap.size + 1, 4, none⟩ (.int .i64 x.epoch)).setCell ⟨w.heap.size + 1, 5, none⟩ (.int .i64 x.lease)).setCell ⟨w.heap.size + 1, 6, none⟩ (.slice a6 x.writes.length d6)).setCell ⟨w.heap.size + 1, 7, none⟩ (.int .i64 (x.writes.length : Int))).setCell ⟨w.heap.size + 1, 8, none⟩ (.int .i64 x.clean)).alloc (.cells #[.int .i64 x.id, .bool x.up, .int .i64 x.epoch, .int .i64 x.lease, .slice a6 x.writes.length d6, .int .i64 (x.writes.length : Int), .int .i64 x.clean] 63)).heap.size) := by show w2.heap.size ≤ _; simp
  clear bR2
  go_wp2_with fail
  have bF := uh HK
  have k0 := Box.at bF 0 _ rfl
  have k1 := Box.at bF 1 _ rfl
  have k2 := Box.at bF 2 _ rfl
  have k3 := Box.at bF 3 _ rfl
  have k4 := Box.at bF 4 _ rfl
  have k5 := Box.at bF 5 _ rfl
  have k6 := Box.at bF 6 _ rfl
  have k7 := Box.at bF 7 _ rfl
  have k8 := Box.at bF 8 _ rfl
  simp only [ga, gb, gc] at k0 k1 k2 k3 k4 k5 k6 k7 k8
  refine bodyPost_ret (v := .agg #[.int .i64 0, .int .i64 (x.writes.length : Int), .int .i64 x.id, .bool x.up, .int .i64 x.epoch, .int .i64 x.lease, .slice a6 x.writes.length d6, .int .i64 (x.writes.length : Int), .int .i64 x.clean]) (by simp [results, Tryz.results51, go_sem, k0, k1, k2, k3, k4, k5, k6, k7, k8]) rfl ?_
  rw [syncR, if_pos (uh HA)]
  obtain ⟨i1, i2, i3, i4, -, -, i7, i8, -⟩ := uh HOK
  refine ⟨[.int .i64 0, .int .i64 (x.writes.length : Int), .int .i64 x.id, .bool x.up, .int .i64 x.epoch, .int .i64 x.lease, .slice a6 x.writes.length d6, .int .i64 (x.writes.length : Int), .int .i64 x.clean], rfl, ?_, uh HBF⟩
  exact lies_nodeR (x := ⟨x.id, x.up, x.epoch, x.lease, x.writes, (x.writes.length : Int), x.clean⟩) (c := 0) (n := (x.writes.length : Int)) (by omega) (by omega) ((uh HOF).mono (by omega) (uh HZF)) (by simp only; omega) (by simp only; omega) (by simp only; omega) (by simp only; omega) (by simp only; omega)
 have hd : (askedN x != 0) = true := by simpa using hf
 have HY := yh (syncR_bad (x := x) hf)
 have HW := yh (askedN_bd x)
 clear hf
 generalize askedN x = c at *
 have bR := (uh HR)
 have z0 := Box.at bR 0 _ rfl
 have z1 := Box.at bR 1 _ rfl
 have z2 := Box.at bR 2 _ rfl
 have z3 := Box.at bR 3 _ rfl
 have z4 := Box.at bR 4 _ rfl
 have z5 := Box.at bR 5 _ rfl
 have z6 := Box.at bR 6 _ rfl
 have z7 := Box.at bR 7 _ rfl
 have z8 := Box.at bR 8 _ rfl
 simp only [ga, gb, gc] at z0 z1 z2 z3 z4 z5 z6 z7 z8
 have ff := Box.soft bR
 have l0 := Box.lt bR
 clear bR
 go_wp2_with fail
 refine bodyPost_ret (v := .agg #[.int .i64 c, .int .i64 0, .int .i64 0, .bool false, .int .i64 0, .int .i64 0, .slice none 0 0, .int .i64 0, .int .i64 0]) (by simp [results, Tryz.results51, go_sem, z0, z1, z2, z3, z4, z5, z6, z7, z8]) rfl ?_
 rw [uh HY]
 have hB9 := below_setAll (uh HB1) (w.heap.size + 1) 0 [.int .i64 c, .int .i64 0, .int .i64 0, .bool false, .int .i64 0, .int .i64 0, .slice none 0 0, .int .i64 0, .int .i64 0] (by omega)
 exact ⟨[.int .i64 c, .int .i64 0, .int .i64 0, .bool false, .int .i64 0, .int .i64 0, .slice none 0 0, .int .i64 0, .int .i64 0], rfl, (own_badNode (uh HW)).lies, hB9⟩
theorem specSyncWorld (cs : List Value) (x : DWorld) (id : Int) (w : World) (h : Lay.tWorld.Reads w cs x) (hf : Fits x) :
  Calls Tryz.prog 15 #[.agg cs.toArray, .int .i64 id] w fun e w' => ∃ cs', e = .returned (.agg cs'.toArray) ∧ Lay.tWorldResult.Reads w' cs' (syncWR x id) ∧ Below w.heap.size w w' := by
 have HP : Hid (syncWR x id = if askedW x id ≠ 0 then badWorld (askedW x id) else putWR x (syncR (nodeOf x id))) := rfl
 obtain ⟨a3, d3, a4, d4, a5, d5, a6, d6, rfl, -, -, -, -⟩ := open_World h
 have HBN : Hid (∀ b off, a4 = some ⟨b, off, none⟩ → 0 < x.nodes.length → b < w.heap.size) := fun b off e hp => by
  obtain ⟨_, _, _, _, _, _, _, _, hq, -, RN, -, -⟩ := open_World h
  simp only [List.cons.injEq, Value.slice.injEq, and_true, true_and] at hq
  obtain ⟨-, ⟨rfl, rfl⟩, -, -, -⟩ := hq
  obtain ⟨b', off', e', hb⟩ := Lay.sl_addr RN hp
  rw [e] at e'
  simp only [Option.some.injEq, Addr.mk.injEq, and_true] at e'
  obtain ⟨rfl, -⟩ := e'
  exact hb
 have nb : Below w.heap.size w ((w.alloc (.cells #[.int .i64 x.now, .int .i64 x.events, .int .i64 x.chain.epoch, .slice a3 x.chain.ids.length d3, .slice a4 x.nodes.length d4, .slice a5 x.msgs.length d5, .slice a6 x.history.length d6] 36)).alloc (.cells #[.int .i64 0, .bool false, .int .i64 0, .int .i64 0, .int .i64 0, .slice none 0 0, .slice none 0 0, .slice none 0 0, .slice none 0 0] 38)) := ((Below.refl _ _).alloc (Nat.le_refl _) _).alloc (by simp) _
 have HX : Hid (Box 0 #[.int .i64 x.now, .int .i64 x.events, .int .i64 x.chain.epoch, .slice a3 x.chain.ids.length d3, .slice a4 x.nodes.length d4, .slice a5 x.msgs.length d5, .slice a6 x.history.length d6] 36 ((w.alloc (.cells #[.int .i64 x.now, .int .i64 x.events, .int .i64 x.chain.epoch, .slice a3 x.chain.ids.length d3, .slice a4 x.nodes.length d4, .slice a5 x.msgs.length d5, .slice a6 x.history.length d6] 36)).alloc (.cells #[.int .i64 0, .bool false, .int .i64 0, .int .i64 0, .int .i64 0, .slice none 0 0, .slice none 0 0, .slice none 0 0, .slice none 0 0] 38)) w.heap.size) := ((newBox (Nat.zero_le _)).grow _)
 have HY : Hid (Box 0 #[.int .i64 0, .bool false, .int .i64 0, .int .i64 0, .int .i64 0, .slice none 0 0, .slice none 0 0, .slice none 0 0, .slice none 0 0] 38 ((w.alloc (.cells #[.int .i64 x.now, .int .i64 x.events, .int .i64 x.chain.epoch, .slice a3 x.chain.ids.length d3, .slice a4 x.nodes.length d4, .slice a5 x.msgs.length d5, .slice a6 x.history.length d6] 36)).alloc (.cells #[.int .i64 0, .bool false, .int .i64 0, .int .i64 0, .int .i64 0, .slice none 0 0, .slice none 0 0, .slice none 0 0, .slice none 0 0] 38)) (w.heap.size + 1)) := newBoxAt (Nat.zero_le _) (by simp)
 have hz0 : ((w.alloc (.cells #[.int .i64 x.now, .int .i64 x.events, .int .i64 x.chain.epoch, .slice a3 x.chain.ids.length d3, .slice a4 x.nodes.length d4, .slice a5 x.msgs.length d5, .slice a6 x.history.length d6] 36)).alloc (.cells #[.int .i64 0, .bool false, .int .i64 0, .int .i64 0, .int .i64 0, .slice none 0 0, .slice none 0 0, .slice none 0 0, .slice none 0 0] 38)).heap.size = w.heap.size + 2 := by simp
 have HR := yh (h.later nb)
 have HB := yh nb
 clear nb
 clear h
 generalize syncWR x id = R at *
 go_enter Tryz.func15, Tryz.ntmps15
 go_upto_region 1 with fail
 generalize ((w.alloc (.cells #[.int .i64 x.now, .int .i64 x.events, .int .i64 x.chain.epoch, .slice a3 x.chain.ids.length d3, .slice a4 x.nodes.length d4, .slice a5 x.msgs.length d5, .slice a6 x.history.length d6] 36)).alloc (.cells #[.int .i64 0, .bool false, .int .i64 0, .int .i64 0, .int .i64 0, .slice none 0 0, .slice none 0 0, .slice none 0 0, .slice none 0 0] 38)) = W0 at *
 go_wp2_with fail
 refine (l12AskedC a3 d3 a4 d4 a5 d5 a6 d6 x id w.heap.size W0 (uh HX) (uh HR)).mono ?_
 rintro e wa ⟨rfl, hb⟩
 replace HX := yh ((uh HX).keep hb)
 replace HR := yh ((uh HR).later hb)
 replace HY := yh ((uh HY).keep hb)
 replace HB := yh ((uh HB).trans (hb.mono (uh HB).size))
 have hza := hb.size
 clear hb
 by_cases d1 : askedW x id ≠ 0
 ·
  have hd : (askedW x id != 0) = true := by simpa using d1
  replace HP := yh ((uh HP).trans (if_pos d1))
  have HC := yh (asked_bd x id)
  clear d1 hf 
  generalize askedW x id = c at *
  go_wp2_with fail
  refine (l12BadCZ (c) _).mono ?_
  rintro e wB ⟨rfl, hbB⟩
  have hyB := (uh HY).keep hbB
  have z0 := Box.at hyB 0 _ rfl
  have z1 := Box.at hyB 1 _ rfl
  have z2 := Box.at hyB 2 _ rfl
  have z3 := Box.at hyB 3 _ rfl
  have z4 := Box.at hyB 4 _ rfl
  have z5 := Box.at hyB 5 _ rfl
  have z6 := Box.at hyB 6 _ rfl
  have z7 := Box.at hyB 7 _ rfl
  have z8 := Box.at hyB 8 _ rfl
  simp only [ga, gb, gc] at z0 z1 z2 z3 z4 z5 z6 z7 z8
  have zf := Box.soft hyB
  have zl := hyB.lt
  have HB9 := yh (below_setAll ((uh HB).trans (hbB.mono (uh HB).size)) (w.heap.size + 1) 0 [.int .i64 c, .bool false, .int .i64 0, .int .i64 0, .int .i64 0, .slice none 0 0, .slice none 0 0, .slice none 0 0, .slice none 0 0] (by omega))
  clear hyB hbB HY HB
  go_wp2_with fail
  refine bodyPost_ret (v := .agg #[.int .i64 c, .bool false, .int .i64 0, .int .i64 0, .int .i64 0, .slice none 0 0, .slice none 0 0, .slice none 0 0, .slice none 0 0]) (by simp [results, Tryz.results15, go_sem, z0, z1, z2, z3, z4, z5, z6, z7, z8]) rfl ?_
  rw [uh HP]
  exact ⟨[.int .i64 c, .bool false, .int .i64 0, .int .i64 0, .int .i64 0, .slice none 0 0, .slice none 0 0, .slice none 0 0, .slice none 0 0], rfl, (own_badW (uh HC) (lo := 0) (hi := 0) (Nat.le_refl 0)).lies.reads, uh HB9⟩
 replace HP := yh ((uh HP).trans (if_neg d1))
 have hd0 : askedW x id = 0 := by simpa using d1
 obtain ⟨hwf, hni⟩ := asked_zero hd0
 have hok := worldFault_zero hwf
 obtain ⟨k, hk, rfl⟩ := nodeIn_at hni
 rw [hd0]
 clear d1 hd0 hwf hni
 have hn := hok.nodes k hk
 obtain ⟨_, _, _, _, _, _, _, _, hq, -, RN, -, -⟩ := open_World (uh HR)
 simp only [List.cons.injEq, Value.slice.injEq, and_true, true_and] at hq
 obtain ⟨-, ⟨rfl, rfl⟩, -, -, -⟩ := hq
 obtain ⟨b, off, rfl, hbl⟩ := Lay.sl_addr RN (by omega)
 have hbw := uh HBN b off rfl (by omega)
 obtain ⟨row, hcl, hr⟩ := Lay.row_at RN hk
 obtain ⟨an, dn, rfl, -⟩ := open_Node hr
 have x0 : wa.cell? ⟨b, off + k * 7, none⟩ = some (.int .i64 (x.nodes[k]).id) := hcl 0 (by decide)
 have x1 : wa.cell? ⟨b, off + k * 7 + 1, none⟩ = some (.bool (x.nodes[k]).up) := hcl 1 (by decide)
 have x2 : wa.cell? ⟨b, off + k * 7 + 2, none⟩ = some (.int .i64 (x.nodes[k]).epoch) := hcl 2 (by decide)
 have x3 : wa.cell? ⟨b, off + k * 7 + 3, none⟩ = some (.int .i64 (x.nodes[k]).lease) := hcl 3 (by decide)
 have x4 : wa.cell? ⟨b, off + k * 7 + 4, none⟩ = some (.slice an (x.nodes[k]).writes.length dn) := hcl 4 (by decide)
 have x5 : wa.cell? ⟨b, off + k * 7 + 5, none⟩ = some (.int .i64 (x.nodes[k]).sure) := hcl 5 (by decide)
 have x6 : wa.cell? ⟨b, off + k * 7 + 6, none⟩ = some (.int .i64 (x.nodes[k]).clean) := hcl 6 (by decide)
 rw [nodeOf_at hk] at HP
 have HID : Hid ((syncR x.nodes[k]).code = 0 → (syncR x.nodes[k]).node.id = (k : Int) + 1) := syncR_id hn.1 hn.2.1
 have HL := yh (specSyncNode _ x.nodes[k] wa.drew (hr.drew 1))
 have HRD : Hid (Lay.tWorld.Reads wa.drew _ x) := (uh HR).drew 1
 have hzD : w.heap.size + 2 ≤ wa.drew.heap.size := by show w.heap.size + 2 ≤ wa.heap.size; omega
 have HYD := yh (uh HY).drew
 have HBD := yh (uh HB).drew
 have HOK := yh hok
 have hx : Box 0 #[.int .i64 x.now, .int .i64 x.events, .int .i64 x.chain.epoch, .slice a3 x.chain.ids.length d3, .slice (some ⟨b, off, none⟩) x.nodes.length d4, .slice a5 x.msgs.length d5, .slice a6 x.history.length d6] 36 wa w.heap.size := uh HX
 have hxl := hx.lt
 have z4 := Box.at hx 4 _ rfl
 simp only [ga, gb, gc] at z4
 have hw1 : IntKind.i64.wrap (k : Int) = (k : Int) := by
  have := hok.some
  rw [IntKind.wrap_i64]
  omega
 have hki : (k : Int) < (x.nodes.length : Int) := by omega
 have hki0 : (0 : Int) ≤ (k : Int) := by omega
 clear hn RN hcl hr HX HR HY HB hok
 generalize hnn : x.nodes[k] = n at *
 clear hnn
 go_upto_region 4 with fail
 refine wp_region_noPanic ?_
 refine wp_region_held_drew (S := fun w' => Ext (fun q => w.heap.size < q) wa w') (by kernel_rfl) ((Ext.refl _ _).drew 1) (fun zq => ?_)
 generalize wa.drew = wD at zq HL HRD HYD HBD hzD ⊢
 refine tkH (i := 0) (oi := ⟨some 12, .load 36 (.tmp 2), 36, "l12_world.go:258", #[], none⟩) (v := ?vp0) rfl ?hp0 zq ?rp0
 case hp0 =>
  intro wS hSw
  have bS := hx.ext hSw (fun e => Nat.lt_irrefl _ e)
  have q0 := Box.at bS 0 _ rfl
  have q1 := Box.at bS 1 _ rfl
  have q2 := Box.at bS 2 _ rfl
  have q3 := Box.at bS 3 _ rfl
  have q4 := Box.at bS 4 _ rfl
  have q5 := Box.at bS 5 _ rfl
  have q6 := Box.at bS 6 _ rfl
  simp only [ga, gb, gc] at q0 q1 q2 q3 q4 q5 q6
  clear bS hSw
  (try dsimp only at hSw)
  go_simp
  try with_reducible rfl
 refine tkH (i := 1) (oi := ⟨some 13, .fieldAddr 36 (.tmp 2) 3, 0, "l12_world.go:258", #[], none⟩) (v := ?vp1) rfl ?hp1 zq ?rp1
 case hp1 => intro _ _; go_simp; try with_reducible rfl
 refine tkH (i := 2) (oi := ⟨some 14, .load 32 (.tmp 13), 32, "l12_world.go:258", #[⟨1, .data⟩], none⟩) (v := ?vp2) rfl ?hp2 zq ?rp2
 case hp2 =>
  intro wS hSw
  have q4 := (cell_of_heap (hSw.block w.heap.size hxl (fun e => Nat.lt_irrefl _ e)) 4).trans z4
  clear hSw
  (try dsimp only at hSw)
  go_simp
  try with_reducible rfl
 refine tkH (i := 3) (oi := ⟨some 15, .move (.tmp 1), 2, "l12_world.go:258", #[], none⟩) (v := ?vp3) rfl ?hp3 zq ?rp3
 case hp3 => intro _ _; go_simp; try with_reducible rfl
 refine tkH (i := 4) (oi := ⟨some 16, .binOp .sub 2 (.tmp 15) (.const (.int .i64 1)) 2, 2, "l12_world.go:258", #[⟨3, .data⟩], none⟩) (v := ?vp4) rfl ?hp4 zq ?rp4
 case hp4 => intro _ _; go_simp; try with_reducible rfl
 refine tkH (i := 5) (oi := ⟨some 17, .indexAddr 32 (.tmp 14) (.tmp 16), 0, "l12_world.go:258", #[⟨2, .data⟩, ⟨4, .data⟩], none⟩) (v := ?vp5) rfl ?hp5 zq ?rp5
 case hp5 => intro _ _; go_simp; try with_reducible rfl
 refine tkH (i := 6) (oi := ⟨some 18, .load 63 (.tmp 17), 63, "l12_world.go:258", #[⟨5, .data⟩], none⟩) (v := ?vp6) rfl ?hp6 zq ?rp6
 case hp6 =>
  intro wS hSw
  have q0 := (cell_of_heap (hSw.block b hbl (fun e => by omega)) (off + k * 7)).trans x0
  have q1 := (cell_of_heap (hSw.block b hbl (fun e => by omega)) (off + k * 7 + 1)).trans x1
  have q2 := (cell_of_heap (hSw.block b hbl (fun e => by omega)) (off + k * 7 + 2)).trans x2
  have q3 := (cell_of_heap (hSw.block b hbl (fun e => by omega)) (off + k * 7 + 3)).trans x3
  have q4 := (cell_of_heap (hSw.block b hbl (fun e => by omega)) (off + k * 7 + 4)).trans x4
  have q5 := (cell_of_heap (hSw.block b hbl (fun e => by omega)) (off + k * 7 + 5)).trans x5
  have q6 := (cell_of_heap (hSw.block b hbl (fun e => by omega)) (off + k * 7 + 6)).trans x6
  clear hSw
  (try dsimp only at hSw)
  go_simp
  try with_reducible rfl
 refine rdH (i := 7) (oi := ⟨some 19, .call { callee := .value (.func 51), args := #[.tmp 18], argTypes := #[63] }, 65, "l12_world.go:258", #[⟨6, .data⟩], none⟩) rfl (fun K hK => ?_)
 go_simp
 go_at_call 51
 refine (uh HL).mono ?_
 rintro e w3 ⟨us, rfl, O, hb3⟩
 try go_wp2_with fail
 refine hK.out _ _ (zq.trans (ext_of_below hb3 _)) (fun zq => ?_)
 clear hK K
 try simp only [Act.put, pz, py, px]
 refine rdH (i := 8) (oi := ⟨some 20, .call { callee := .value (.func 50), args := #[.tmp 12, .tmp 19], argTypes := #[36, 65] }, 38, "l12_world.go:258", #[⟨0, .data⟩, ⟨7, .data⟩, ⟨7, .chain⟩], none⟩) rfl (fun K hK => ?_)
 go_simp
 go_at_call 50
 refine (l12PutC _ us x _ k wD.heap.size w3 ((uh HRD).later hb3) O hb3.size (uh HOK) hf hk (syncR_bd _) (uh HID)).mono ?_
 rintro e w4 ⟨cs, rfl, O4, hb4⟩
 obtain ⟨a5r, d5r, a6r, d6r, a7r, d7r, a8r, d8r, rfl, -⟩ := open_WorldResult O4.reads
 have hy := ((uh HYD).keep hb3).keep hb4
 have hB4 := (uh HBD).trans ((hb3.trans (hb4.mono hb3.size)).mono (uh HBD).size)
 try go_wp2_with fail
 refine hK.out _ _ (zq.trans (ext_of_below hb4 _)) (fun zq => ?_)
 clear hK K
 try simp only [Act.put, pz, py, px]
 refine rdH (i := 9) (oi := ⟨none, .store 38 (.tmp 4) (.tmp 20), 0, "l12_world.go:258", #[⟨8, .data⟩, ⟨8, .chain⟩, ⟨0, .phase⟩, ⟨1, .phase⟩, ⟨2, .phase⟩, ⟨3, .phase⟩, ⟨4, .phase⟩, ⟨5, .phase⟩, ⟨6, .phase⟩, ⟨7, .phase⟩, ⟨8, .phase⟩], none⟩) rfl (fun K hK => ?_)
 generalize putWR x (syncR n) = yr at *
 have r0 := Box.at hy 0 _ rfl
 have r1 := Box.at hy 1 _ rfl
 have r2 := Box.at hy 2 _ rfl
 have r3 := Box.at hy 3 _ rfl
 have r4 := Box.at hy 4 _ rfl
 have r5 := Box.at hy 5 _ rfl
 have r6 := Box.at hy 6 _ rfl
 have r7 := Box.at hy 7 _ rfl
 have r8 := Box.at hy 8 _ rfl
 simp only [ga, gb, gc] at r0 r1 r2 r3 r4 r5 r6 r7 r8
 have rf := Box.soft hy
 have rl := hy.lt
 go_simp
 refine hK.out _ _ (Ext.setCell (Ext.setCell (Ext.setCell (Ext.setCell (Ext.setCell (Ext.setCell (Ext.setCell (Ext.setCell (Ext.setCell zq ⟨w.heap.size + 1, 0, none⟩ (.int .i64 yr.code) (Nat.lt_succ_self _)) ⟨w.heap.size + 1, 1, none⟩ (.bool yr.moved) (Nat.lt_succ_self _)) ⟨w.heap.size + 1, 2, none⟩ (.int .i64 yr.world.now) (Nat.lt_succ_self _)) ⟨w.heap.size + 1, 3, none⟩ (.int .i64 yr.world.events) (Nat.lt_succ_self _)) ⟨w.heap.size + 1, 4, none⟩ (.int .i64 yr.world.chain.epoch) (Nat.lt_succ_self _)) ⟨w.heap.size + 1, 5, none⟩ (.slice a5r yr.world.chain.ids.length d5r) (Nat.lt_succ_self _)) ⟨w.heap.size + 1, 6, none⟩ (.slice a6r yr.world.nodes.length d6r) (Nat.lt_succ_self _)) ⟨w.heap.size + 1, 7, none⟩ (.slice a7r yr.world.msgs.length d7r) (Nat.lt_succ_self _)) ⟨w.heap.size + 1, 8, none⟩ (.slice a8r yr.world.history.length d8r) (Nat.lt_succ_self _)) (fun zq => ?_)
 clear hK K
 try simp only [Act.put, pz, py, px]
 refine wpAnyH_done (by kernel_rfl) ?_ _
 refine NoPanic.normal ?_
 have hy9 := box_set9W hy (.int .i64 yr.code) (.bool yr.moved) (.int .i64 yr.world.now) (.int .i64 yr.world.events) (.int .i64 yr.world.chain.epoch) (.slice a5r yr.world.chain.ids.length d5r) (.slice a6r yr.world.nodes.length d6r) (.slice a7r yr.world.msgs.length d7r) (.slice a8r yr.world.history.length d8r)
 have e2 : Ext (fun q => q = w.heap.size + 1) w4 (setAll w4 (w.heap.size + 1) 0 [.int .i64 yr.code, .bool yr.moved, .int .i64 yr.world.now, .int .i64 yr.world.events, .int .i64 yr.world.chain.epoch, .slice a5r yr.world.chain.ids.length d5r, .slice a6r yr.world.nodes.length d6r, .slice a7r yr.world.msgs.length d7r, .slice a8r yr.world.history.length d8r]) := ext_setAll _ (Ext.refl _ _) _ _ _ rfl
 have HO9 := yh (O4.ext e2 (fun q h1 h2 h3 => by omega))
 have HB9 := yh (below_setAll hB4 (w.heap.size + 1) 0 [.int .i64 yr.code, .bool yr.moved, .int .i64 yr.world.now, .int .i64 yr.world.events, .int .i64 yr.world.chain.epoch, .slice a5r yr.world.chain.ids.length d5r, .slice a6r yr.world.nodes.length d6r, .slice a7r yr.world.msgs.length d7r, .slice a8r yr.world.history.length d8r] (by omega))
 clear r0 r1 r2 r3 r4 r5 r6 r7 r8 rf rl
 have r0 := Box.at hy9 0 _ rfl
 have r1 := Box.at hy9 1 _ rfl
 have r2 := Box.at hy9 2 _ rfl
 have r3 := Box.at hy9 3 _ rfl
 have r4 := Box.at hy9 4 _ rfl
 have r5 := Box.at hy9 5 _ rfl
 have r6 := Box.at hy9 6 _ rfl
 have r7 := Box.at hy9 7 _ rfl
 have r8 := Box.at hy9 8 _ rfl
 simp only [ga, gb, gc] at r0 r1 r2 r3 r4 r5 r6 r7 r8
 clear hy9 e2
 clear zq O O4 hb3 hb4 hy hB4 HRD HYD HBD HL
 go_wp2_with fail
 refine bodyPost_ret (v := .agg #[.int .i64 yr.code, .bool yr.moved, .int .i64 yr.world.now, .int .i64 yr.world.events, .int .i64 yr.world.chain.epoch, .slice a5r yr.world.chain.ids.length d5r, .slice a6r yr.world.nodes.length d6r, .slice a7r yr.world.msgs.length d7r, .slice a8r yr.world.history.length d8r]) (by simp only [setAll] at r0 r1 r2 r3 r4 r5 r6 r7 r8; simp [results, Tryz.results15, go_sem, r0, r1, r2, r3, r4, r5, r6, r7, r8]) rfl ?_
 rw [uh HP]
 exact ⟨_, rfl, (uh HO9).reads, uh HB9⟩
theorem setNode_bad (g : Nat) (us : List Value) (r : DNodeResult) (W : World) (h : Lay.tNodeResult.Reads W us r) (hc : r.code ≠ 0) :
  Calls Tryz.prog 109 #[.pointer (some ⟨g, 0, none⟩), .agg us.toArray] W fun e W' => e = .returned (.tuple #[.bool false, .int .i64 r.code]) ∧ Below W.heap.size W W' := by
 obtain ⟨a6, d6, rfl, -⟩ := open_NodeResult h
 have nb : Below W.heap.size W (W.alloc (.cells #[.int .i64 r.code, .int .i64 r.place, .int .i64 r.node.id, .bool r.node.up, .int .i64 r.node.epoch, .int .i64 r.node.lease, .slice a6 r.node.writes.length d6, .int .i64 r.node.sure, .int .i64 r.node.clean] 65)) := (Below.refl _ _).alloc (Nat.le_refl _) _
 have HX : Hid (Box 0 #[.int .i64 r.code, .int .i64 r.place, .int .i64 r.node.id, .bool r.node.up, .int .i64 r.node.epoch, .int .i64 r.node.lease, .slice a6 r.node.writes.length d6, .int .i64 r.node.sure, .int .i64 r.node.clean] 65 (W.alloc (.cells #[.int .i64 r.code, .int .i64 r.place, .int .i64 r.node.id, .bool r.node.up, .int .i64 r.node.epoch, .int .i64 r.node.lease, .slice a6 r.node.writes.length d6, .int .i64 r.node.sure, .int .i64 r.node.clean] 65)) W.heap.size) := newBox (Nat.zero_le _)
 have HB := yh nb
 have hd : (r.code != 0) = true := by simpa using hc
 clear nb h hc
 go_enter Tryz.func109, Tryz.ntmps109
 go_upto_region 1 with fail
 generalize W.alloc (.cells #[.int .i64 r.code, .int .i64 r.place, .int .i64 r.node.id, .bool r.node.up, .int .i64 r.node.epoch, .int .i64 r.node.lease, .slice a6 r.node.writes.length d6, .int .i64 r.node.sure, .int .i64 r.node.clean] 65) = w1 at *
 have z0 := Box.at (uh HX) 0 _ rfl
 simp only [List.getElem_toArray, List.getElem_cons_zero] at z0
 go_upto_region 2 with fail
 clear z0
 have z0 := Box.at (uh HX).drew 0 _ rfl
 simp only [List.getElem_toArray, List.getElem_cons_zero] at z0
 replace HB := yh (uh HB).drew
 refine wp_region_noPanic ?_
 refine wp_region_held_drew (S := fun w' => w' = w1.drew) (by kernel_rfl) rfl (fun zq => ?_)
 generalize w1.drew = wD at zq z0 HB HX ⊢
 refine tkH (i := 0) (oi := ⟨some 9, .fieldAddr 65 (.tmp 3) 0, 0, "l12_world.go:218", #[{ on := 2, ground := Go.Ground.gcOnly Go.Departure.lateStores }], none⟩) (v := ?vb0) rfl ?hb0 zq ?rb0
 case hb0 =>
  intro wS hSw
  subst hSw
  (try dsimp only at hSw)
  go_simp
  try with_reducible rfl
 refine tkH (i := 1) (oi := ⟨some 10, .load 2 (.tmp 9), 2, "l12_world.go:218", #[⟨0, .data⟩, { on := 2, ground := Go.Ground.gcOnly Go.Departure.lateStores }], none⟩) (v := ?vb1) rfl ?hb1 zq ?rb1
 case hb1 =>
  intro wS hSw
  subst hSw
  (try dsimp only at hSw)
  go_simp
  try with_reducible rfl
 refine tkH (i := 2) (oi := ⟨some 4, .assign (.const (.bool false)), 4, "l12_world.go:218", #[{ on := 0, ground := Go.Ground.textOnly Go.Departure.lateStores }, { on := 1, ground := Go.Ground.textOnly Go.Departure.lateStores }], none⟩) (v := ?vb2) rfl ?hb2 zq ?rb2
 case hb2 =>
  intro wS hSw
  subst hSw
  (try dsimp only at hSw)
  go_simp
  try with_reducible rfl
 refine tkH (i := 3) (oi := ⟨some 5, .assign (.tmp 10), 2, "l12_world.go:218", #[⟨1, .data⟩, ⟨2, .chain⟩, ⟨0, .phase⟩, ⟨1, .phase⟩, ⟨2, .phase⟩], none⟩) (v := ?vb3) rfl ?hb3 zq ?rb3
 case hb3 =>
  intro wS hSw
  subst hSw
  (try dsimp only at hSw)
  go_simp
  try with_reducible rfl
 refine wpAnyH_done (by kernel_rfl) ?_ _
 refine NoPanic.normal ?_
 clear zq
 go_wp2_with fail
 go_ret2
 exact ⟨rfl, uh HB⟩
theorem setNode_ok (g lo k : Nat) (v3 v4 v5 v6 : Value) (y : DWorld) (us : List Value) (r : DNodeResult) (W0 W : World) (hg : Box 0 #[.int .i64 y.now, .int .i64 y.events, .int .i64 y.chain.epoch, v3, v4, v5, v6] 36 W0 g) (hO : WOwn W0 lo g [.int .i64 y.now, .int .i64 y.events, .int .i64 y.chain.epoch, v3, v4, v5, v6] y) (hb : Below W0.heap.size W0 W) (hr : Lay.tNodeResult.OwnIn W us r W0.heap.size W.heap.size)
  (hc : r.code = 0) (hk : k < y.nodes.length) (hn5 : y.nodes.length ≤ 5) (hid : r.node.id = (k : Int) + 1) :
  Calls Tryz.prog 109 #[.pointer (some ⟨g, 0, none⟩), .agg us.toArray] W fun e W' => e = .returned (.tuple #[.bool true, .int .i64 0]) ∧ (∃ (u3 u4 u5 u6 : Value), Box 0 #[.int .i64 y.now, .int .i64 y.events, .int .i64 y.chain.epoch, u3, u4, u5, u6] 36 W' g ∧ WOwn W' lo g [.int .i64 y.now, .int .i64 y.events, .int .i64 y.chain.epoch, u3, u4, u5, u6] (putNode y r.node)) ∧ Ext (fun q => lo ≤ q ∧ q ≠ g) W W' := by
 obtain ⟨rc, rp, ri, ru, re, rl, rws, rs, rcl⟩ := r
 obtain rfl : rc = 0 := hc
 obtain rfl : ri = (k : Int) + 1 := hid
 obtain ⟨blr, hOr, hbr⟩ := hr
 obtain ⟨a6, d6, g2, hq, rfl, hOn, -, -⟩ := own_NodeResult hOr
 dsimp only at hq hOn
 subst hq
 have nb : Below W.heap.size W (W.alloc (.cells #[.int .i64 0, .int .i64 rp, .int .i64 ((k : Int) + 1), .bool ru, .int .i64 re, .int .i64 rl, .slice a6 rws.length d6, .int .i64 rs, .int .i64 rcl] 65)) := (Below.refl _ _).alloc (Nat.le_refl _) _
 have bX : Box 0 #[.int .i64 0, .int .i64 rp, .int .i64 ((k : Int) + 1), .bool ru, .int .i64 re, .int .i64 rl, .slice a6 rws.length d6, .int .i64 rs, .int .i64 rcl] 65 (W.alloc (.cells #[.int .i64 0, .int .i64 rp, .int .i64 ((k : Int) + 1), .bool ru, .int .i64 re, .int .i64 rl, .slice a6 rws.length d6, .int .i64 rs, .int .i64 rcl] 65)) W.heap.size := newBox (Nat.zero_le _)
 have hOn1 : Lay.tNode.OwnIn (W.alloc (.cells #[.int .i64 0, .int .i64 rp, .int .i64 ((k : Int) + 1), .bool ru, .int .i64 re, .int .i64 rl, .slice a6 rws.length d6, .int .i64 rs, .int .i64 rcl] 65)) _ ⟨(k : Int) + 1, ru, re, rl, rws, rs, rcl⟩ W0.heap.size (W.alloc (.cells #[.int .i64 0, .int .i64 rp, .int .i64 ((k : Int) + 1), .bool ru, .int .i64 re, .int .i64 rl, .slice a6 rws.length d6, .int .i64 rs, .int .i64 rcl] 65)).heap.size := ⟨blr, hOn.later nb, fun c hc => ⟨(hbr c hc).1, Nat.lt_of_lt_of_le (hbr c hc).2 nb.size⟩⟩
 obtain ⟨b, off, cap, row0, rfl, hb1, hb2, hbg, hR0, -, hput⟩ := wown_put hO (hb.trans (nb.mono hb.size)) hg.lt hOn1 hk
 have hgx := hg.keep (hb.trans (nb.mono hb.size))
 have hbx : b ≠ W.heap.size := by have := hb.size; omega
 have hxl := bX.lt
 have hgl := hgx.lt
 have hbl : b < (W.alloc (.cells #[.int .i64 0, .int .i64 rp, .int .i64 ((k : Int) + 1), .bool ru, .int .i64 re, .int .i64 rl, .slice a6 rws.length d6, .int .i64 rs, .int .i64 rcl] 65)).heap.size := by have := hb.size; simp; omega
 have c4 := Box.at hgx 4 _ rfl
 have z0 := Box.at bX 0 _ rfl
 have z1 := Box.at bX 1 _ rfl
 have z2 := Box.at bX 2 _ rfl
 have z3 := Box.at bX 3 _ rfl
 have z4 := Box.at bX 4 _ rfl
 have z5 := Box.at bX 5 _ rfl
 have z6 := Box.at bX 6 _ rfl
 have z7 := Box.at bX 7 _ rfl
 have z8 := Box.at bX 8 _ rfl
 simp only [ga, gb, gc] at z0 z1 z2 z3 z4 z5 z6 z7 z8
 simp only [ga, gb, gc] at c4
 have HE : Hid (Ext (fun q => lo ≤ q ∧ q ≠ g) W (W.alloc (.cells #[.int .i64 0, .int .i64 rp, .int .i64 ((k : Int) + 1), .bool ru, .int .i64 re, .int .i64 rl, .slice a6 rws.length d6, .int .i64 rs, .int .i64 rcl] 65))) := ext_of_below nb _
 have hgb : (fun q => q = b) g → False := fun e => hbg e.symm
 have HG := yh hgx
 have HP := yh hput
 have HR0 := yh hR0
 have hLO : lo ≤ b := hb1
 have hw1 : IntKind.i64.wrap (k : Int) = (k : Int) := by
  have hk5 := hn5
  rw [IntKind.wrap_i64]
  omega
 have hki : (k : Int) < (y.nodes.length : Int) := by omega
 have hki0 : (0 : Int) ≤ (k : Int) := by omega
 clear nb hO hb hg hOn1 hOn hOr hbr hgx bX hput hR0 hb2 hgb
 go_enter Tryz.func109, Tryz.ntmps109
 go_upto_region 1 with fail
 generalize hWW : W.alloc (.cells #[.int .i64 0, .int .i64 rp, .int .i64 ((k : Int) + 1), .bool ru, .int .i64 re, .int .i64 rl, .slice a6 rws.length d6, .int .i64 rs, .int .i64 rcl] 65) = w1 at *
 go_upto_region 3 with fail
 have HRD : Hid (RowAt w1 w1.drew b (off + k * 7) 7 row0 []) := ⟨(uh HR0).len, (uh HR0).cells, (uh HR0).others, (uh HR0).soft, (uh HR0).lt, (Ext.refl _ _).drew 1⟩
 have s0 := (uh HRD).soft (off + k * 7)
 have s1 := (uh HRD).soft (off + k * 7 + 1)
 have s2 := (uh HRD).soft (off + k * 7 + 2)
 have s3 := (uh HRD).soft (off + k * 7 + 3)
 have s4 := (uh HRD).soft (off + k * 7 + 4)
 have s5 := (uh HRD).soft (off + k * 7 + 5)
 have s6 := (uh HRD).soft (off + k * 7 + 6)
 obtain ⟨o0, x0⟩ : ∃ u, w1.drew.cell? ⟨b, off + k * 7, none⟩ = some u := ⟨_, ((uh HRD).cells 0 (by decide)).trans (List.getElem?_eq_getElem (by rw [(uh HRD).len]; decide))⟩
 obtain ⟨o1, x1⟩ : ∃ u, w1.drew.cell? ⟨b, off + k * 7 + 1, none⟩ = some u := ⟨_, ((uh HRD).cells 1 (by decide)).trans (List.getElem?_eq_getElem (by rw [(uh HRD).len]; decide))⟩
 obtain ⟨o2, x2⟩ : ∃ u, w1.drew.cell? ⟨b, off + k * 7 + 2, none⟩ = some u := ⟨_, ((uh HRD).cells 2 (by decide)).trans (List.getElem?_eq_getElem (by rw [(uh HRD).len]; decide))⟩
 obtain ⟨o3, x3⟩ : ∃ u, w1.drew.cell? ⟨b, off + k * 7 + 3, none⟩ = some u := ⟨_, ((uh HRD).cells 3 (by decide)).trans (List.getElem?_eq_getElem (by rw [(uh HRD).len]; decide))⟩
 obtain ⟨o4, x4⟩ : ∃ u, w1.drew.cell? ⟨b, off + k * 7 + 4, none⟩ = some u := ⟨_, ((uh HRD).cells 4 (by decide)).trans (List.getElem?_eq_getElem (by rw [(uh HRD).len]; decide))⟩
 obtain ⟨o5, x5⟩ : ∃ u, w1.drew.cell? ⟨b, off + k * 7 + 5, none⟩ = some u := ⟨_, ((uh HRD).cells 5 (by decide)).trans (List.getElem?_eq_getElem (by rw [(uh HRD).len]; decide))⟩
 obtain ⟨o6, x6⟩ : ∃ u, w1.drew.cell? ⟨b, off + k * 7 + 6, none⟩ = some u := ⟨_, ((uh HRD).cells 6 (by decide)).trans (List.getElem?_eq_getElem (by rw [(uh HRD).len]; decide))⟩
 refine wp_region_noPanic ?_
 refine wp_region_held_drew (S := fun w' => Ext (fun q => q = b) w1 w') (by kernel_rfl) ((Ext.refl _ _).drew 1) (fun zq => ?_)
 generalize w1.drew = wD at zq HRD s0 x0 s1 x1 s2 x2 s3 x3 s4 x4 s5 x5 s6 x6 ⊢
 refine tkH (i := 0) (oi := ⟨some 11, .move (.tmp 0), 58, "l12_world.go:220", #[], none⟩) (v := ?vs0) rfl ?hs0 zq ?rs0
 case hs0 => intro _ _; go_simp; try with_reducible rfl
 refine tkH (i := 1) (oi := ⟨some 12, .nilCheck (.tmp 11), 0, "l12_world.go:220", #[⟨0, .data⟩], none⟩) (v := ?vs1) rfl ?hs1 zq ?rs1
 case hs1 => intro _ _; go_simp; try with_reducible rfl
 refine tkH (i := 2) (oi := ⟨some 13, .fieldAddr 36 (.tmp 12) 3, 0, "l12_world.go:220", #[⟨1, .data⟩], none⟩) (v := ?vs2) rfl ?hs2 zq ?rs2
 case hs2 => intro _ _; go_simp; try with_reducible rfl
 refine tkH (i := 3) (oi := ⟨some 14, .load 32 (.tmp 13), 32, "l12_world.go:220", #[⟨2, .data⟩], none⟩) (v := ?vs3) rfl ?hs3 zq ?rs3
 case hs3 =>
  intro wS hSw
  have q := (cell_of_heap (hSw.block g hgl (fun e => hbg e.symm)) 4).trans c4
  clear hSw
  (try dsimp only at hSw)
  go_simp
  try with_reducible rfl
 refine tkH (i := 4) (oi := ⟨some 15, .fieldAddr 65 (.tmp 3) 2, 0, "l12_world.go:220", #[], none⟩) (v := ?vs4) rfl ?hs4 zq ?rs4
 case hs4 => intro _ _; go_simp; try with_reducible rfl
 refine tkH (i := 5) (oi := ⟨some 16, .fieldAddr 63 (.tmp 15) 0, 0, "l12_world.go:220", #[⟨4, .data⟩], none⟩) (v := ?vs5) rfl ?hs5 zq ?rs5
 case hs5 => intro _ _; go_simp; try with_reducible rfl
 refine tkH (i := 6) (oi := ⟨some 17, .load 2 (.tmp 16), 2, "l12_world.go:220", #[⟨5, .data⟩], none⟩) (v := ?vs6) rfl ?hs6 zq ?rs6
 case hs6 =>
  intro wS hSw
  have q := (cell_of_heap (hSw.block W.heap.size hxl (fun e => hbx e.symm)) 2).trans z2
  clear hSw
  (try dsimp only at hSw)
  go_simp
  try with_reducible rfl
 refine tkH (i := 7) (oi := ⟨some 18, .binOp .sub 2 (.tmp 17) (.const (.int .i64 1)) 2, 2, "l12_world.go:220", #[⟨6, .data⟩], none⟩) (v := ?vs7) rfl ?hs7 zq ?rs7
 case hs7 => intro _ _; go_simp; try with_reducible rfl
 refine tkH (i := 8) (oi := ⟨some 19, .fieldAddr 65 (.tmp 3) 2, 0, "l12_world.go:220", #[], none⟩) (v := ?vs8) rfl ?hs8 zq ?rs8
 case hs8 => intro _ _; go_simp; try with_reducible rfl
 refine tkH (i := 9) (oi := ⟨some 20, .load 63 (.tmp 19), 63, "l12_world.go:220", #[⟨8, .data⟩], none⟩) (v := ?vs9) rfl ?hs9 zq ?rs9
 case hs9 =>
  intro wS hSw
  have q2 := (cell_of_heap (hSw.block W.heap.size hxl (fun e => hbx e.symm)) 2).trans z2
  have q3 := (cell_of_heap (hSw.block W.heap.size hxl (fun e => hbx e.symm)) 3).trans z3
  have q4 := (cell_of_heap (hSw.block W.heap.size hxl (fun e => hbx e.symm)) 4).trans z4
  have q5 := (cell_of_heap (hSw.block W.heap.size hxl (fun e => hbx e.symm)) 5).trans z5
  have q6 := (cell_of_heap (hSw.block W.heap.size hxl (fun e => hbx e.symm)) 6).trans z6
  have q7 := (cell_of_heap (hSw.block W.heap.size hxl (fun e => hbx e.symm)) 7).trans z7
  have q8 := (cell_of_heap (hSw.block W.heap.size hxl (fun e => hbx e.symm)) 8).trans z8
  clear hSw
  (try dsimp only at hSw)
  go_simp
  try with_reducible rfl
 refine tkH (i := 10) (oi := ⟨some 21, .indexAddr 32 (.tmp 14) (.tmp 18), 0, "l12_world.go:220", #[⟨3, .data⟩, ⟨7, .data⟩, ⟨0, .phase⟩, ⟨1, .phase⟩, ⟨2, .phase⟩, ⟨3, .phase⟩, ⟨4, .phase⟩, ⟨5, .phase⟩, ⟨6, .phase⟩, ⟨7, .phase⟩, ⟨8, .phase⟩, ⟨9, .phase⟩], none⟩) (v := ?vs10) rfl ?hs10 zq ?rs10
 case hs10 => intro _ _; go_simp; try with_reducible rfl
 refine rdH (i := 11) (oi := ⟨none, .store 63 (.tmp 21) (.tmp 20), 0, "l12_world.go:220", #[⟨10, .data⟩, ⟨9, .data⟩, ⟨0, .phase⟩, ⟨1, .phase⟩, ⟨2, .phase⟩, ⟨3, .phase⟩, ⟨4, .phase⟩, ⟨5, .phase⟩, ⟨6, .phase⟩, ⟨7, .phase⟩, ⟨8, .phase⟩, ⟨9, .phase⟩], none⟩) rfl (fun K hK => ?_)
 go_simp
 refine hK.out _ _ (Ext.setCell (Ext.setCell (Ext.setCell (Ext.setCell (Ext.setCell (Ext.setCell (Ext.setCell zq ⟨b, off + k * 7, none⟩ (.int .i64 ((k : Int) + 1)) rfl) ⟨b, off + k * 7 + 1, none⟩ (.bool ru) rfl) ⟨b, off + k * 7 + 2, none⟩ (.int .i64 re) rfl) ⟨b, off + k * 7 + 3, none⟩ (.int .i64 rl) rfl) ⟨b, off + k * 7 + 4, none⟩ (.slice a6 rws.length d6) rfl) ⟨b, off + k * 7 + 5, none⟩ (.int .i64 rs) rfl) ⟨b, off + k * 7 + 6, none⟩ (.int .i64 rcl) rfl) (fun zq => ?_)
 clear hK K
 try simp only [Act.put, pz, py, px]
 refine wpAnyH_done (by kernel_rfl) ?_ _
 refine NoPanic.normal ?_
 have hRW := RowAt.set7 (uh HRD) (.int .i64 ((k : Int) + 1)) (.bool ru) (.int .i64 re) (.int .i64 rl) (.slice a6 rws.length d6) (.int .i64 rs) (.int .i64 rcl)
 have hOW := uh HP _ hRW
 have hEW : Ext (fun q => lo ≤ q ∧ q ≠ g) w1 (((((((wD.setCell ⟨b, off + k * 7, none⟩ (.int .i64 ((k : Int) + 1))).setCell ⟨b, off + k * 7 + 1, none⟩ (.bool ru)).setCell ⟨b, off + k * 7 + 2, none⟩ (.int .i64 re)).setCell ⟨b, off + k * 7 + 3, none⟩ (.int .i64 rl)).setCell ⟨b, off + k * 7 + 4, none⟩ (.slice a6 rws.length d6)).setCell ⟨b, off + k * 7 + 5, none⟩ (.int .i64 rs)).setCell ⟨b, off + k * 7 + 6, none⟩ (.int .i64 rcl)) := (zq.mono (fun q _ e => by rw [e]; exact ⟨hLO, hbg⟩))
 have hGW := (uh HG).ext zq (fun e => hbg e.symm)
 have HOW := yh hOW
 have HGW := yh hGW
 have HEW := yh ((uh HE).trans hEW)
 clear hRW hOW hEW hGW zq
 go_wp2_with fail
 go_ret2
 exact ⟨rfl, ⟨_, _, _, _, by rw [putNode_eq (k := k) rfl]; exact ⟨uh HGW, uh HOW⟩⟩, uh HEW⟩
def HeldAt (w : World) (g : Nat) (v : Value) (x : DNode) : Prop := Box 0 #[v, .int .i64 x.sure, .int .i64 x.id, .bool x.up, .int .i64 x.epoch, .int .i64 x.lease, .int .i64 x.clean] 183 w g
theorem HeldAt.keep {w w' : World} {g : Nat} {v : Value} {x : DNode} (h : HeldAt w g v x) (hb : Below w.heap.size w w') : HeldAt w' g v x := Box.keep h hb
theorem HeldAt.lt {w : World} {g : Nat} {v : Value} {x : DNode} (h : HeldAt w g v x) : g < w.heap.size := Box.lt h
theorem node_vecs {x : DNode} (h : NodeOK x) : ∀ y ∈ x.writes, y.vec.length ≤ 10000000 := fun y hy => by
 obtain ⟨-, -, -, hk⟩ := writeFault_zero (h.ws y hy)
 rcases hk with ⟨-, hv⟩ | ⟨-, hv⟩
 ·
  have := (vecFault_zero hv).1; omega
 rw [hv]; simp
theorem nodeOf_bad (cs : List Value) (x : DNode) (w : World) (h : Lay.tNode.Reads w cs x) (hf : nodeFault x ≠ 0) :
  Calls Tryz.prog 220 #[.agg cs.toArray] w fun e w' => e = .returned (.tuple #[.pointer none, .int .i64 (nodeFault x)]) ∧ Below w.heap.size w w' := by
 have hN := h
 obtain ⟨a4, d4, rfl, R4⟩ := open_Node h
 have nb : Below w.heap.size w (w.alloc (.cells #[.int .i64 x.id, .bool x.up, .int .i64 x.epoch, .int .i64 x.lease, .slice a4 x.writes.length d4, .int .i64 x.sure, .int .i64 x.clean] 63)) := (Below.refl _ _).alloc (Nat.le_refl _) _
 have bX : Box w.heap.size #[.int .i64 x.id, .bool x.up, .int .i64 x.epoch, .int .i64 x.lease, .slice a4 x.writes.length d4, .int .i64 x.sure, .int .i64 x.clean] 63 (w.alloc (.cells #[.int .i64 x.id, .bool x.up, .int .i64 x.epoch, .int .i64 x.lease, .slice a4 x.writes.length d4, .int .i64 x.sure, .int .i64 x.clean] 63)) w.heap.size := newBox (Nat.le_refl _)
 have HL := yh (implNodeFault _ x _ (hN.later nb))
 have HB := yh nb
 have hd : (nodeFault x != 0) = true := by simpa using hf
 clear h hN nb bX R4 hf
 generalize nodeFault x = c at *
 go_enter Tryz.func220, Tryz.ntmps220
 go_wp2_with fail
 refine (uh HL).mono ?_
 rintro e w1 ⟨rfl, hb⟩
 have HB1 := yh ((uh HB).trans (hb.mono (uh HB).size))
 clear hb HL HB
 go_wp2_with fail
 refine bodyPost_ret (v := .tuple #[.pointer none, .int .i64 c]) (by simp [results, Tryz.results220, go_sem]) rfl ?_
 exact ⟨rfl, uh HB1⟩
theorem nodeOf_ok (cs : List Value) (x : DNode) (w : World) (h : Lay.tNode.Reads w cs x) (hf : nodeFault x = 0) :
  Calls Tryz.prog 220 #[.agg cs.toArray] w fun e w' => ∃ g gw, e = .returned (.tuple #[.pointer (some ⟨g, 0, none⟩), .int .i64 0]) ∧ HeldAt w' g (.slice (some ⟨gw, 0, none⟩) x.writes.length x.writes.length) x ∧ (Lay.sl Lay.tWrite).OwnIn w' [.slice (some ⟨gw, 0, none⟩) x.writes.length x.writes.length] x.writes (g + 1) w'.heap.size ∧ w.heap.size ≤ g ∧ Below w.heap.size w w' := by
 have hN := h
 obtain ⟨a4, d4, rfl, R4⟩ := open_Node h
 have nb : Below w.heap.size w (w.alloc (.cells #[.int .i64 x.id, .bool x.up, .int .i64 x.epoch, .int .i64 x.lease, .slice a4 x.writes.length d4, .int .i64 x.sure, .int .i64 x.clean] 63)) := (Below.refl _ _).alloc (Nat.le_refl _) _
 have bX : Box w.heap.size #[.int .i64 x.id, .bool x.up, .int .i64 x.epoch, .int .i64 x.lease, .slice a4 x.writes.length d4, .int .i64 x.sure, .int .i64 x.clean] 63 (w.alloc (.cells #[.int .i64 x.id, .bool x.up, .int .i64 x.epoch, .int .i64 x.lease, .slice a4 x.writes.length d4, .int .i64 x.sure, .int .i64 x.clean] 63)) w.heap.size := newBox (Nat.le_refl _)
 have hok := nodeFault_zero hf
 have HL := yh (implNodeFault _ x _ (hN.later nb))
 rw [hf] at HL
 have hlen := hok.len
 have HV := yh (node_vecs hok)
 have HB := yh nb
 have HX := yh bX
 have HR := yh (R4.later nb)
 clear h hN nb bX R4 hf hok
 go_enter Tryz.func220, Tryz.ntmps220
 go_wp2_with fail
 generalize w.alloc (.cells #[.int .i64 x.id, .bool x.up, .int .i64 x.epoch, .int .i64 x.lease, .slice a4 x.writes.length d4, .int .i64 x.sure, .int .i64 x.clean] 63) = W0 at *
 refine (uh HL).mono ?_
 rintro e w1 ⟨rfl, hb⟩
 have bX1 := (uh HX).keep hb
 have HB1 := yh ((uh HB).trans (hb.mono (uh HB).size))
 have HR1 := yh ((uh HR).later hb)
 have x0 := bX1.at 0 _ rfl
 have x1 := bX1.at 1 _ rfl
 have x2 := bX1.at 2 _ rfl
 have x3 := bX1.at 3 _ rfl
 have x4 := bX1.at 4 _ rfl
 have x5 := bX1.at 5 _ rfl
 have x6 := bX1.at 6 _ rfl
 simp only [ga, gb, gc] at x0 x1 x2 x3 x4 x5 x6
 have xl := bX1.lt
 have hgs := (uh HB1).size
 have nb2 : Below w1.heap.size w1 (w1.alloc (.cells #[.slice none 0 0, .int .i64 0, .int .i64 x.id, .bool x.up, .int .i64 x.epoch, .int .i64 x.lease, .int .i64 x.clean] 183)) := (Below.refl _ _).alloc (Nat.le_refl _) _
 have bH : Box 0 #[.slice none 0 0, .int .i64 0, .int .i64 x.id, .bool x.up, .int .i64 x.epoch, .int .i64 x.lease, .int .i64 x.clean] 183 (w1.alloc (.cells #[.slice none 0 0, .int .i64 0, .int .i64 x.id, .bool x.up, .int .i64 x.epoch, .int .i64 x.lease, .int .i64 x.clean] 183)) w1.heap.size := newBox (Nat.zero_le _)
 have HC := yh (copiedC _ x.writes _ ((uh HR1).later nb2) (by omega) (uh HV))
 have HX2 := yh (bX1.keep nb2)
 have HB2 := yh ((uh HB1).trans (nb2.mono (uh HB1).size))
 have HH := yh bH
 have hz2 : (w1.alloc (.cells #[.slice none 0 0, .int .i64 0, .int .i64 x.id, .bool x.up, .int .i64 x.epoch, .int .i64 x.lease, .int .i64 x.clean] 183)).heap.size = w1.heap.size + 1 := by simp
 have HZ2 : Hid (w1.heap.size + 1 ≤ (w1.alloc (.cells #[.slice none 0 0, .int .i64 0, .int .i64 x.id, .bool x.up, .int .i64 x.epoch, .int .i64 x.lease, .int .i64 x.clean] 183)).heap.size) := Nat.le_of_eq hz2.symm
 clear hb HL HB HX HR HR1 bX1 nb2 bH HB1 hz2
 go_wp2_with fail
 clear x0 x1 x2 x3 x4 x5 x6 xl
 refine (uh HC).mono ?_
 generalize w1.alloc (.cells #[.slice none 0 0, .int .i64 0, .int .i64 x.id, .bool x.up, .int .i64 x.epoch, .int .i64 x.lease, .int .i64 x.clean] 183) = W2 at *
 rintro e w3 ⟨gw, rfl, O, hb⟩
 have bX3 := (uh HX2).keep hb
 have bH3 := (uh HH).keep hb
 have x5 := bX3.at 5 _ rfl
 have y0 := bH3.at 0 _ rfl
 have y1 := bH3.at 1 _ rfl
 have yf := bH3.soft
 have yl := bH3.lt
 have xl := bX3.lt
 have hxy : w.heap.size ≠ w1.heap.size := by
  have h1 := (uh HX2).lt
  intro e
  have q1 := (uh HX2).2
  have q2 := (uh HH).2
  rw [e, q2] at q1
  simp at q1
 have hwlt : w.heap.size < w1.heap.size := by omega
 simp only [ga, gb, gc] at x5 y0 y1
 have HF3 : Hid (HeldAt ((w3.setCell ⟨w1.heap.size, 0, none⟩ (.slice (some ⟨gw, 0, none⟩) x.writes.length x.writes.length)).setCell ⟨w1.heap.size, 1, none⟩ (.int .i64 x.sure)) w1.heap.size (.slice (some ⟨gw, 0, none⟩) x.writes.length x.writes.length) x) := (bH3.set 0 (.slice (some ⟨gw, 0, none⟩) x.writes.length x.writes.length)).set 1 (.int .i64 x.sure)
 have hzb := uh HZ2
 have E : Ext (fun q => q = w1.heap.size) w3 ((w3.setCell ⟨w1.heap.size, 0, none⟩ (.slice (some ⟨gw, 0, none⟩) x.writes.length x.writes.length)).setCell ⟨w1.heap.size, 1, none⟩ (.int .i64 x.sure)) := ((Ext.refl (fun q => q = w1.heap.size) _).setCell ⟨w1.heap.size, 0, none⟩ _ rfl).setCell ⟨w1.heap.size, 1, none⟩ _ rfl
 have HO3 := yh ((O.ext E (fun q h1 h2 h3 => by omega)).mono (lo' := w1.heap.size + 1) (hi' := ((w3.setCell ⟨w1.heap.size, 0, none⟩ (.slice (some ⟨gw, 0, none⟩) x.writes.length x.writes.length)).setCell ⟨w1.heap.size, 1, none⟩ (.int .i64 x.sure)).heap.size) hzb (by simp))
 have HB3 : Hid (Below w.heap.size w ((w3.setCell ⟨w1.heap.size, 0, none⟩ (.slice (some ⟨gw, 0, none⟩) x.writes.length x.writes.length)).setCell ⟨w1.heap.size, 1, none⟩ (.int .i64 x.sure))) := (((uh HB2).trans (hb.mono (uh HB2).size)).setCell (by simpa using hgs) _).setCell (by simpa using hgs) _
 clear hb O bX3 bH3 E HC HX2 HH HB2 HZ2
 go_wp2_with fail
 refine bodyPost_ret (v := .tuple #[.pointer (some ⟨w1.heap.size, 0, none⟩), .int .i64 0]) (by simp [results, Tryz.results220, go_sem]) rfl ?_
 exact ⟨w1.heap.size, gw, rfl, uh HF3, uh HO3, hgs, uh HB3⟩
theorem upNode_bad (cs : List Value) (x : DNode) (w : World) (h : Lay.tNode.Reads w cs x) (hf : askedN x ≠ 0) :
  Calls Tryz.prog 174 #[.agg cs.toArray] w fun e w' => e = .returned (.tuple #[.pointer none, .int .i64 (askedN x)]) ∧ Below w.heap.size w w' := by
 have hN := h
 obtain ⟨a4, d4, rfl, R4⟩ := open_Node h
 have nb : Below w.heap.size w (w.alloc (.cells #[.int .i64 x.id, .bool x.up, .int .i64 x.epoch, .int .i64 x.lease, .slice a4 x.writes.length d4, .int .i64 x.sure, .int .i64 x.clean] 63)) := (Below.refl _ _).alloc (Nat.le_refl _) _
 have bX : Box w.heap.size #[.int .i64 x.id, .bool x.up, .int .i64 x.epoch, .int .i64 x.lease, .slice a4 x.writes.length d4, .int .i64 x.sure, .int .i64 x.clean] 63 (w.alloc (.cells #[.int .i64 x.id, .bool x.up, .int .i64 x.epoch, .int .i64 x.lease, .slice a4 x.writes.length d4, .int .i64 x.sure, .int .i64 x.clean] 63)) w.heap.size := newBox (Nat.le_refl _)
 by_cases hn : nodeFault x = 0
 ·
  have HL := yh (nodeOf_ok _ x _ (hN.later nb) hn)
  have ha : askedN x = 10 ∧ x.up = false := by
   unfold askedN at hf ⊢
   rw [if_pos hn] at hf ⊢
   cases hu : x.up
   ·
    exact ⟨by simp, rfl⟩
   rw [hu] at hf; simp at hf
  have HU := yh ha.2
  rw [ha.1]
  have HB := yh nb
  clear h hN nb bX R4 hf hn ha
  go_enter Tryz.func174, Tryz.ntmps174
  go_wp2_with fail
  refine (uh HL).mono ?_
  rintro e w1 ⟨g, gw, rfl, hH, -, -, hb⟩
  have y3 := Box.at hH 3 _ rfl
  have yl := hH.lt
  simp only [ga, gb, gc] at y3
  rw [uh HU] at y3
  have HB1 := yh ((uh HB).trans (hb.mono (uh HB).size))
  clear hb HL HB hH
  go_wp2_with fail
  refine bodyPost_ret (v := .tuple #[.pointer none, .int .i64 10]) (by simp [results, Tryz.results174, go_sem]) rfl ?_
  exact ⟨rfl, uh HB1⟩
 have HL := yh (nodeOf_bad _ x _ (hN.later nb) hn)
 have ha : askedN x = nodeFault x := by rw [askedN, if_neg hn]
 rw [ha]
 have HB := yh nb
 have hd : (nodeFault x == 0) = false := by simpa using hn
 clear h hN nb bX R4 hf hn ha
 generalize nodeFault x = c at *
 go_enter Tryz.func174, Tryz.ntmps174
 go_wp2_with fail
 refine (uh HL).mono ?_
 rintro e w1 ⟨rfl, hb⟩
 have HB1 := yh ((uh HB).trans (hb.mono (uh HB).size))
 clear hb HL HB
 go_wp2_with fail
 refine bodyPost_ret (v := .tuple #[.pointer none, .int .i64 c]) (by simp [results, Tryz.results174, go_sem]) rfl ?_
 exact ⟨rfl, uh HB1⟩
theorem upNode_ok (cs : List Value) (x : DNode) (w : World) (h : Lay.tNode.Reads w cs x) (hf : askedN x = 0) :
  Calls Tryz.prog 174 #[.agg cs.toArray] w fun e w' => ∃ g gw, e = .returned (.tuple #[.pointer (some ⟨g, 0, none⟩), .int .i64 0]) ∧ HeldAt w' g (.slice (some ⟨gw, 0, none⟩) x.writes.length x.writes.length) x ∧ (Lay.sl Lay.tWrite).OwnIn w' [.slice (some ⟨gw, 0, none⟩) x.writes.length x.writes.length] x.writes (g + 1) w'.heap.size ∧ w.heap.size ≤ g ∧ Below w.heap.size w w' := by
 obtain ⟨hok, hu⟩ := askedN_zero hf
 have HU := yh hu
 clear hu
 have hN := h
 obtain ⟨a4, d4, rfl, R4⟩ := open_Node h
 have nb : Below w.heap.size w (w.alloc (.cells #[.int .i64 x.id, .bool x.up, .int .i64 x.epoch, .int .i64 x.lease, .slice a4 x.writes.length d4, .int .i64 x.sure, .int .i64 x.clean] 63)) := (Below.refl _ _).alloc (Nat.le_refl _) _
 have bX : Box w.heap.size #[.int .i64 x.id, .bool x.up, .int .i64 x.epoch, .int .i64 x.lease, .slice a4 x.writes.length d4, .int .i64 x.sure, .int .i64 x.clean] 63 (w.alloc (.cells #[.int .i64 x.id, .bool x.up, .int .i64 x.epoch, .int .i64 x.lease, .slice a4 x.writes.length d4, .int .i64 x.sure, .int .i64 x.clean] 63)) w.heap.size := newBox (Nat.le_refl _)
 have HL := yh (nodeOf_ok _ x _ (hN.later nb) hok.fault)
 have HB := yh nb
 clear h hN nb bX R4 hf hok
 go_enter Tryz.func174, Tryz.ntmps174
 go_wp2_with fail
 refine (uh HL).mono ?_
 rintro e w1 ⟨g, gw, rfl, hH, O, hg, hb⟩
 have y3 := Box.at hH 3 _ rfl
 have yl := hH.lt
 simp only [ga, gb, gc] at y3
 rw [uh HU] at y3
 have HB1 := yh ((uh HB).trans (hb.mono (uh HB).size))
 have HH := yh hH
 have HO := yh O
 have HG := yh (Nat.le_trans (uh HB).size hg)
 clear hb HL HB hH O hg
 go_wp2_with fail
 refine bodyPost_ret (v := .tuple #[.pointer (some ⟨g, 0, none⟩), .int .i64 0]) (by simp [results, Tryz.results174, go_sem]) rfl ?_
 exact ⟨g, gw, rfl, uh HH, uh HO, uh HG, uh HB1⟩
end Go.Proofs.YtdnhmoppineegaaGreat
