/-
  Texts of this proof in one: ImplDone, ImplStepped, FacePlain, SpecWA, SpecWNext, NodeFew, WorldFew, InstPlain, ImplMember, AskedPlain, RemPlain, SpecInst, SpecNewC, StepInt, SpecCutC.
  Their conditions stand in their theorems.
-/
import Derived.Test.YtoanimpijfijgaaGreatRx06
import Derived.Test.YtoanimpijfijgaaGreatRx10
import Derived.Test.YtoanimpijfijgaaGreatRx00
import Derived.Defers
import Derived.Recover
import Derived.Laws.Pointers
import Derived.Test.YtoanimpijfijgaaGreatRx08
import Derived.Test.YtoanimpijfijgaaGreatRx07
import Derived.Deep.CutRange
import Derived.Test.YtoanimpijfijgaaGreatRx03
import Derived.Test.YtoanimpijfijgaaGreatRx09
import Derived.Test.YtoanimpijfijgaaGreatRx05
import Derived.Deep.RegionHeld3
import Derived.Test.YtoanimpijfijgaaGreatChecked
set_option maxRecDepth 100000
set_option maxHeartbeats 4000000
namespace Go.Proofs.YtoanimpijfijgaaGreat
open Go.RowKit
def idFaultR (x : DWorld) (id : Int) : Int := if worldFault x ≠ 0 then worldFault x else if nodeIn x id = false then 4 else 0
theorem idFaultC (cs : List Value) (x : DWorld) (id : Int) (w : World) (h : Lay.tWorld.Reads w cs x) :
  Calls Tryz.prog 71 #[.agg cs.toArray, .int .i64 id] w fun e w' => e = .returned (.int .i64 (idFaultR x id)) ∧ Below w.heap.size w w' := by
 obtain ⟨a3, d3, a4, d4, a5, d5, a6, d6, rfl, -, -, -, -⟩ := open_World h
 have nb : Below w.heap.size w (w.alloc (.cells #[.int .i64 x.now, .int .i64 x.events, .int .i64 x.chain.epoch, .slice a3 x.chain.ids.length d3, .slice a4 x.nodes.length d4, .slice a5 x.msgs.length d5, .slice a6 x.history.length d6] 36)) := (Below.refl _ _).alloc (Nat.le_refl _) _
 have HX : Hid (Box 0 #[.int .i64 x.now, .int .i64 x.events, .int .i64 x.chain.epoch, .slice a3 x.chain.ids.length d3, .slice a4 x.nodes.length d4, .slice a5 x.msgs.length d5, .slice a6 x.history.length d6] 36 (w.alloc (.cells #[.int .i64 x.now, .int .i64 x.events, .int .i64 x.chain.epoch, .slice a3 x.chain.ids.length d3, .slice a4 x.nodes.length d4, .slice a5 x.msgs.length d5, .slice a6 x.history.length d6] 36)) w.heap.size) := newBox (Nat.zero_le _)
 have HR := yh (h.later nb)
 have HP : Hid (idFaultR x id = if worldFault x ≠ 0 then worldFault x else if nodeIn x id = false then 4 else 0) := rfl
 have HB := yh nb
 clear nb h
 generalize idFaultR x id = r at *
 go_enter Tryz.func71, Tryz.ntmps71
 go_upto_region 1 with fail
 generalize w.alloc (.cells #[.int .i64 x.now, .int .i64 x.events, .int .i64 x.chain.epoch, .slice a3 x.chain.ids.length d3, .slice a4 x.nodes.length d4, .slice a5 x.msgs.length d5, .slice a6 x.history.length d6] 36) = w1 at *
 have z0 := Box.at (uh HX) 0 _ rfl
 have z1 := Box.at (uh HX) 1 _ rfl
 have z2 := Box.at (uh HX) 2 _ rfl
 have z3 := Box.at (uh HX) 3 _ rfl
 have z4 := Box.at (uh HX) 4 _ rfl
 have z5 := Box.at (uh HX) 5 _ rfl
 have z6 := Box.at (uh HX) 6 _ rfl
 simp only [ga, gb, gc] at z0 z1 z2 z3 z4 z5 z6
 go_wp2_with fail
 refine (implWorldFault _ x w1 (uh HR)).mono ?_
 rintro e w2 ⟨rfl, hb⟩
 clear z0 z1 z2 z3 z4 z5 z6
 replace HX := yh ((uh HX).keep hb)
 replace HR := yh ((uh HR).later hb)
 replace HB := yh ((uh HB).trans (hb.mono (uh HB).size))
 clear hb
 have z0 := Box.at (uh HX) 0 _ rfl
 have z1 := Box.at (uh HX) 1 _ rfl
 have z2 := Box.at (uh HX) 2 _ rfl
 have z3 := Box.at (uh HX) 3 _ rfl
 have z4 := Box.at (uh HX) 4 _ rfl
 have z5 := Box.at (uh HX) 5 _ rfl
 have z6 := Box.at (uh HX) 6 _ rfl
 simp only [ga, gb, gc] at z0 z1 z2 z3 z4 z5 z6
 by_cases d1 : worldFault x ≠ 0
 ·
  have hd : (worldFault x != 0) = true := by simpa using d1
  replace HP := yh ((uh HP).trans (if_pos d1))
  clear d1
  generalize worldFault x = c at *
  go_wp2_with fail
  go_ret
  exact ⟨by rw [uh HP]; rfl, uh HB⟩
 replace HP := yh ((uh HP).trans (if_neg d1))
 have hd : worldFault x = 0 := by simpa using d1
 clear d1
 rw [hd]
 clear hd
 go_wp2_with fail
 refine (hasNodeC _ x id w2 (uh HR)).mono ?_
 rintro e w3 ⟨rfl, hb⟩
 replace HB := yh ((uh HB).trans (hb.mono (uh HB).size))
 clear hb z0 z1 z2 z3 z4 z5 z6
 generalize nodeIn x id = q at *
 cases q
 ·
  replace HP := yh ((uh HP).trans (if_pos rfl))
  go_wp2_with fail
  go_ret
  exact ⟨by rw [uh HP]; rfl, uh HB⟩
 replace HP := yh ((uh HP).trans (if_neg (by simp)))
 go_wp2_with fail
 go_ret
 exact ⟨by rw [uh HP]; rfl, uh HB⟩
theorem doneInC (N : Nat) (cap : Array Value) (cs : List Value) (x : DWorld) (c : Int) (mv : Bool) (z : DWorld) (w : World) (hfa : ∀ (a : Array Value) (W : World), (callFunc N (a ++ cap)).run Tryz.prog W = .ok (.enter N (a ++ cap)) W) (h : Lay.tWorld.Reads w cs x) (hok : WorldOK x) (hf : Fits x) (hc : -1000000000 ≤ c ∧ c ≤ 1000000000)
  (hstep : ∀ W, Below w.heap.size w W → StepC w.heap.size N cap (nextW x) c mv z W) :
  Calls Tryz.prog 137 #[.agg cs.toArray, .func (.func N) #[] cap] w fun e w' => ∃ cs', e = .returned (.agg cs'.toArray) ∧ Lay.tWorldResult.OwnIn w' cs' (resW c mv z) w.heap.size w'.heap.size ∧ Below w.heap.size w w' := by
 obtain ⟨a3, d3, a4, d4, a5, d5, a6, d6, rfl, -, -, -, -⟩ := open_World h
 have nb1 : Below w.heap.size w (w.alloc (.cells #[.int .i64 x.now, .int .i64 x.events, .int .i64 x.chain.epoch, .slice a3 x.chain.ids.length d3, .slice a4 x.nodes.length d4, .slice a5 x.msgs.length d5, .slice a6 x.history.length d6] 36)) := (Below.refl _ _).alloc (Nat.le_refl _) _
 have HB : Hid (Below w.heap.size w ((w.alloc (.cells #[.int .i64 x.now, .int .i64 x.events, .int .i64 x.chain.epoch, .slice a3 x.chain.ids.length d3, .slice a4 x.nodes.length d4, .slice a5 x.msgs.length d5, .slice a6 x.history.length d6] 36)).alloc (.cells #[.int .i64 0, .bool false, .int .i64 0, .int .i64 0, .int .i64 0, .slice none 0 0, .slice none 0 0, .slice none 0 0, .slice none 0 0] 38))) := nb1.alloc (by simp) _
 have HX : Hid (Box 0 #[.int .i64 x.now, .int .i64 x.events, .int .i64 x.chain.epoch, .slice a3 x.chain.ids.length d3, .slice a4 x.nodes.length d4, .slice a5 x.msgs.length d5, .slice a6 x.history.length d6] 36 ((w.alloc (.cells #[.int .i64 x.now, .int .i64 x.events, .int .i64 x.chain.epoch, .slice a3 x.chain.ids.length d3, .slice a4 x.nodes.length d4, .slice a5 x.msgs.length d5, .slice a6 x.history.length d6] 36)).alloc (.cells #[.int .i64 0, .bool false, .int .i64 0, .int .i64 0, .int .i64 0, .slice none 0 0, .slice none 0 0, .slice none 0 0, .slice none 0 0] 38)) w.heap.size) := (newBox (Nat.zero_le _)).grow _
 have HY : Hid (Box 0 #[.int .i64 0, .bool false, .int .i64 0, .int .i64 0, .int .i64 0, .slice none 0 0, .slice none 0 0, .slice none 0 0, .slice none 0 0] 38 ((w.alloc (.cells #[.int .i64 x.now, .int .i64 x.events, .int .i64 x.chain.epoch, .slice a3 x.chain.ids.length d3, .slice a4 x.nodes.length d4, .slice a5 x.msgs.length d5, .slice a6 x.history.length d6] 36)).alloc (.cells #[.int .i64 0, .bool false, .int .i64 0, .int .i64 0, .int .i64 0, .slice none 0 0, .slice none 0 0, .slice none 0 0, .slice none 0 0] 38)) (w.heap.size + 1)) := newBoxAt (Nat.zero_le _) (by simp)
 have hz0 : ((w.alloc (.cells #[.int .i64 x.now, .int .i64 x.events, .int .i64 x.chain.epoch, .slice a3 x.chain.ids.length d3, .slice a4 x.nodes.length d4, .slice a5 x.msgs.length d5, .slice a6 x.history.length d6] 36)).alloc (.cells #[.int .i64 0, .bool false, .int .i64 0, .int .i64 0, .int .i64 0, .slice none 0 0, .slice none 0 0, .slice none 0 0, .slice none 0 0] 38)).heap.size = w.heap.size + 2 := by simp
 have HR := yh (h.later (uh HB))
 have HOK := yh hok
 have HF := yh hf
 have HST := yh hstep
 have HCB := yh hc
 clear nb1 h hok hf hstep hc
 go_enter Tryz.func137, Tryz.ntmps137
 go_upto_region 1 with fail
 generalize (w.alloc (.cells #[.int .i64 x.now, .int .i64 x.events, .int .i64 x.chain.epoch, .slice a3 x.chain.ids.length d3, .slice a4 x.nodes.length d4, .slice a5 x.msgs.length d5, .slice a6 x.history.length d6] 36)).alloc (.cells #[.int .i64 0, .bool false, .int .i64 0, .int .i64 0, .int .i64 0, .slice none 0 0, .slice none 0 0, .slice none 0 0, .slice none 0 0] 38) = W0 at *
 have z0 := Box.at (uh HX) 0 _ rfl
 have z1 := Box.at (uh HX) 1 _ rfl
 have z2 := Box.at (uh HX) 2 _ rfl
 have z3 := Box.at (uh HX) 3 _ rfl
 have z4 := Box.at (uh HX) 4 _ rfl
 have z5 := Box.at (uh HX) 5 _ rfl
 have z6 := Box.at (uh HX) 6 _ rfl
 simp only [ga, gb, gc] at z0 z1 z2 z3 z4 z5 z6
 go_wp2_with fail
 refine (copiedWorldC _ x W0 (uh HR) (uh HOK) (uh HF)).mono ?_
 rintro e W1 ⟨v3, v4, v5, v6, rfl, O, hb⟩
 obtain ⟨a3w, d3w, a4w, d4w, a5w, d5w, a6w, d6w, hq, -⟩ := open_World O.reads
 simp only [List.cons.injEq, and_true, true_and] at hq
 obtain ⟨rfl, rfl, rfl, rfl⟩ := hq
 have hz1 : W0.heap.size ≤ W1.heap.size := hb.size
 replace HY := yh ((uh HY).keep hb)
 replace HB := yh ((uh HB).trans (hb.mono (uh HB).size))
 have hO := wown_new (g := W1.heap.size) (O.mono (Nat.le_add_right _ 2) (Nat.le_refl _)) (Nat.le_refl _) (Nat.le_refl _)
 clear hb O HX HR HF z0 z1 z2 z3 z4 z5 z6
 have nb : Below W1.heap.size W1 (W1.alloc (.cells #[.int .i64 x.now, .int .i64 x.events, .int .i64 x.chain.epoch, .slice a3w x.chain.ids.length d3w, .slice a4w x.nodes.length d4w, .slice a5w x.msgs.length d5w, .slice a6w x.history.length d6w] 36)) := (Below.refl _ _).alloc (Nat.le_refl _) _
 have HG : Hid (Box 0 #[.int .i64 x.now, .int .i64 x.events, .int .i64 x.chain.epoch, .slice a3w x.chain.ids.length d3w, .slice a4w x.nodes.length d4w, .slice a5w x.msgs.length d5w, .slice a6w x.history.length d6w] 36 (W1.alloc (.cells #[.int .i64 x.now, .int .i64 x.events, .int .i64 x.chain.epoch, .slice a3w x.chain.ids.length d3w, .slice a4w x.nodes.length d4w, .slice a5w x.msgs.length d5w, .slice a6w x.history.length d6w] 36)) W1.heap.size) := newBox (Nat.zero_le _)
 have HO := yh (hO.later nb)
 replace HY := yh ((uh HY).keep nb)
 replace HB := yh ((uh HB).trans (nb.mono (uh HB).size))
 have hz2 : (W1.alloc (.cells #[.int .i64 x.now, .int .i64 x.events, .int .i64 x.chain.epoch, .slice a3w x.chain.ids.length d3w, .slice a4w x.nodes.length d4w, .slice a5w x.msgs.length d5w, .slice a6w x.history.length d6w] 36)).heap.size = W1.heap.size + 1 := by simp
 clear nb hO
 go_upto_region 2 with fail
 generalize W1.alloc (.cells #[.int .i64 x.now, .int .i64 x.events, .int .i64 x.chain.epoch, .slice a3w x.chain.ids.length d3w, .slice a4w x.nodes.length d4w, .slice a5w x.msgs.length d5w, .slice a6w x.history.length d6w] 36) = W2 at *
 have hg := uh HG
 have y1 := Box.at hg 1 _ rfl
 have yf := Box.soft hg
 have yl := hg.lt
 simp only [ga, gb, gc] at y1
 have hxe := (uh HOK).events
 have hg2 := Box.set hg 1 (.int .i64 (x.events + 1))
 simp only [List.setIfInBounds_toArray, List.set_cons_zero, List.set_cons_succ] at hg2
 have e1 : Ext (fun q => q = W1.heap.size) W2 (W2.setCell ⟨W1.heap.size, 1, none⟩ (.int .i64 (x.events + 1))) := (Ext.refl _ _).setCell _ _ rfl
 have hO2 := own_nextW ((uh HO).ext e1 (fun k h1 h2 h3 => h3)) (by omega)
 replace HG := yh hg2
 replace HO := yh hO2
 replace HY := yh ((uh HY).other ⟨W1.heap.size, 1, none⟩ (.int .i64 (x.events + 1)) (by simp; omega))
 replace HB := yh ((uh HB).setCell (p := ⟨W1.heap.size, 1, none⟩) (by simp; omega) (.int .i64 (x.events + 1)))
 have hz3 : (W2.setCell ⟨W1.heap.size, 1, none⟩ (.int .i64 (x.events + 1))).heap.size = W2.heap.size := by simp
 clear hg hg2 e1 hO2
 go_upto_region 3 with fail
 generalize hW : W2.setCell ⟨W1.heap.size, 1, none⟩ (.int .i64 (x.events + 1)) = W3 at *
 clear hW y1 yf yl hxe
 have HC := yh (uh HST W3 (uh HB) W1.heap.size (w.heap.size + 2) _ _ _ _ (by omega) (uh HG) (by omega) (by have := uh HO; rw [hz0] at this; exact this))
 clear HST HO HG
 go_wp2_with fail
 refine (uh HC).mono ?_
 rintro e W4 ⟨m, rfl, hm, he⟩
 replace HY := yh ((uh HY).ext he (by omega))
 replace HB := yh ((uh HB).trans ((below_of_ext he (by omega)).mono (by omega)))
 have hz4 := he.size
 clear HC he
 by_cases d1 : c = 0
 ·
  obtain ⟨rfl, u3, u4, u5, u6, hg, hO⟩ := hm d1
  obtain ⟨a3u, d3u, a4u, d4u, a5u, d5u, a6u, d6u, hq, -⟩ := open_World hO.reads
  simp only [List.cons.injEq, and_true, true_and] at hq
  obtain ⟨rfl, rfl, rfl, rfl⟩ := hq
  subst d1
  have HRS : Hid (resW 0 m z = ⟨0, m, z⟩) := if_pos rfl
  have y0 := Box.at hg 0 _ rfl
  have y1 := Box.at hg 1 _ rfl
  have y2 := Box.at hg 2 _ rfl
  have y3 := Box.at hg 3 _ rfl
  have y4 := Box.at hg 4 _ rfl
  have y5 := Box.at hg 5 _ rfl
  have y6 := Box.at hg 6 _ rfl
  have hy := uh HY
  have r0 := Box.at hy 0 _ rfl
  have r1 := Box.at hy 1 _ rfl
  have r2 := Box.at hy 2 _ rfl
  have r3 := Box.at hy 3 _ rfl
  have r4 := Box.at hy 4 _ rfl
  have r5 := Box.at hy 5 _ rfl
  have r6 := Box.at hy 6 _ rfl
  have r7 := Box.at hy 7 _ rfl
  have r8 := Box.at hy 8 _ rfl
  simp only [ga, gb, gc] at y0 y1 y2 y3 y4 y5 y6 r0 r1 r2 r3 r4 r5 r6 r7 r8
  have yl := hg.lt
  have rf := Box.soft hy
  have rl := hy.lt
  have e9 : Ext (fun q => q = w.heap.size + 1) W4 (setAll W4 (w.heap.size + 1) 0 [.int .i64 0, .bool m, .int .i64 z.now, .int .i64 z.events, .int .i64 z.chain.epoch, .slice a3u z.chain.ids.length d3u, .slice a4u z.nodes.length d4u, .slice a5u z.msgs.length d5u, .slice a6u z.history.length d6u]) := ext_setAll _ (Ext.refl _ _) _ _ _ rfl
  have HO := yh (own_okW (m := m) ((hO.ext e9 (fun k h1 h2 h3 => by omega)).ownIn))
  have HB2 := yh (below_setAll (uh HB) (w.heap.size + 1) 0 [.int .i64 0, .bool m, .int .i64 z.now, .int .i64 z.events, .int .i64 z.chain.epoch, .slice a3u z.chain.ids.length d3u, .slice a4u z.nodes.length d4u, .slice a5u z.msgs.length d5u, .slice a6u z.history.length d6u] (by omega))
  clear hg hy hO e9 HY HB hm
  go_wp2_with fail
  refine bodyPost_ret (v := .agg #[.int .i64 0, .bool m, .int .i64 z.now, .int .i64 z.events, .int .i64 z.chain.epoch, .slice a3u z.chain.ids.length d3u, .slice a4u z.nodes.length d4u, .slice a5u z.msgs.length d5u, .slice a6u z.history.length d6u]) (by simp [results, Tryz.results137, go_sem, r0, r1, r2, r3, r4, r5, r6, r7, r8]) rfl ?_
  rw [uh HRS]
  exact ⟨_, rfl, (uh HO).mono (by omega) (Nat.le_refl _), uh HB2⟩
 have hd : (c != 0) = true := by simpa using d1
 have HRS : Hid (resW c mv z = badWorld c) := if_neg d1
 clear hm d1
 have hy := uh HY
 have r0 := Box.at hy 0 _ rfl
 have r1 := Box.at hy 1 _ rfl
 have r2 := Box.at hy 2 _ rfl
 have r3 := Box.at hy 3 _ rfl
 have r4 := Box.at hy 4 _ rfl
 have r5 := Box.at hy 5 _ rfl
 have r6 := Box.at hy 6 _ rfl
 have r7 := Box.at hy 7 _ rfl
 have r8 := Box.at hy 8 _ rfl
 simp only [ga, gb, gc] at r0 r1 r2 r3 r4 r5 r6 r7 r8
 have rf := Box.soft hy
 have rl := hy.lt
 have HB2 := yh (below_setAll (uh HB) (w.heap.size + 1) 0 [.int .i64 c, .bool false, .int .i64 0, .int .i64 0, .int .i64 0, .slice none 0 0, .slice none 0 0, .slice none 0 0, .slice none 0 0] (by omega))
 clear hy HY HB
 go_wp2_with fail
 refine bodyPost_ret (v := .agg #[.int .i64 c, .bool false, .int .i64 0, .int .i64 0, .int .i64 0, .slice none 0 0, .slice none 0 0, .slice none 0 0, .slice none 0 0]) (by simp [results, Tryz.results137, go_sem, r0, r1, r2, r3, r4, r5, r6, r7, r8]) rfl ?_
 rw [uh HRS]
 exact ⟨_, rfl, own_badW (uh HCB) (uh HB2).size, uh HB2⟩
theorem box_set9W {lo : Nat} {T : TypeId} {W : World} {s : Nat} {c0 c1 c2 c3 c4 c5 c6 c7 c8 : Value} (h : Box lo #[c0, c1, c2, c3, c4, c5, c6, c7, c8] T W s) (v0 v1 v2 v3 v4 v5 v6 v7 v8 : Value) : Box lo #[v0, v1, v2, v3, v4, v5, v6, v7, v8] T (setAll W s 0 [v0, v1, v2, v3, v4, v5, v6, v7, v8]) s := by
 have q := (Box.set (Box.set (Box.set (Box.set (Box.set (Box.set (Box.set (Box.set (Box.set h 0 v0) 1 v1) 2 v2) 3 v3) 4 v4) 5 v5) 6 v6) 7 v7) 8 v8)
 simp only [List.setIfInBounds_toArray, List.set_cons_zero, List.set_cons_succ] at q
 exact q
theorem put_bad (p q s : Nat) (c : Int) (w : World) (hx : Box 0 #[.int .i64 c, .bool false, .int .i64 0, .int .i64 0, .int .i64 0, .slice none 0 0, .slice none 0 0, .slice none 0 0, .slice none 0 0] 38 w p) (hc : c ≠ 0) :
  CallsD Tryz.prog 136 #[.pointer (some ⟨p, 0, none⟩), .pointer (some ⟨q, 0, none⟩), .pointer (some ⟨s, 0, none⟩)] .returning w fun e u' w' => u' = .returning ∧ (e = .returned (.tuple #[]) ∧ w' = w) := by
 have r0 := Box.at hx 0 _ rfl
 simp only [List.getElem_toArray, List.getElem_cons_zero] at r0
 have hd : (c == 0) = false := by simpa using hc
 have rl := hx.lt
 clear hx hc
 refine CallsD.mono (R := fun e u' w' => u' = .returning ∧ (e = .returned (.tuple #[]) ∧ w' = w)) ?_ (fun _ _ _ q => q)
 go_enter_d Tryz.func136, Tryz.ntmps136
 go_wp2_with fail
 go_end0
 exact ⟨rfl, rfl⟩
theorem put_ok (p q s N : Nat) (cap : Array Value) (a3 : Option Addr) (d3 : Nat) (a4 : Option Addr) (d4 : Nat) (a5 : Option Addr) (d5 : Nat) (a6 : Option Addr) (d6 : Nat) (x : DWorld) (c : Int) (mv : Bool) (z : DWorld) (w : World) (hx : Box 0 #[.int .i64 0, .bool false, .int .i64 0, .int .i64 0, .int .i64 0, .slice none 0 0, .slice none 0 0, .slice none 0 0, .slice none 0 0] 38 w p) (hw : Box 0 #[.int .i64 x.now, .int .i64 x.events, .int .i64 x.chain.epoch, .slice a3 x.chain.ids.length d3, .slice a4 x.nodes.length d4, .slice a5 x.msgs.length d5, .slice a6 x.history.length d6] 36 w q) (hs : Box 0 #[.func (.func N) #[] cap] 96 w s)
  (hfa : ∀ (a : Array Value) (W : World), (callFunc N (a ++ cap)).run Tryz.prog W = .ok (.enter N (a ++ cap)) W) (h : Lay.tWorld.Reads w [.int .i64 x.now, .int .i64 x.events, .int .i64 x.chain.epoch, .slice a3 x.chain.ids.length d3, .slice a4 x.nodes.length d4, .slice a5 x.msgs.length d5, .slice a6 x.history.length d6] x) (hok : WorldOK x) (hf : Fits x) (hc : -1000000000 ≤ c ∧ c ≤ 1000000000) (hstep : ∀ W, Below w.heap.size w W → StepC w.heap.size N cap (nextW x) c mv z W) :
  CallsD Tryz.prog 136 #[.pointer (some ⟨p, 0, none⟩), .pointer (some ⟨q, 0, none⟩), .pointer (some ⟨s, 0, none⟩)] .returning w fun e u' w' => u' = .returning ∧ (e = .returned (.tuple #[]) ∧ ∃ cs w1 lo, w' = setAll w1 p 0 cs ∧ cs.length = 9 ∧ Box 0 #[.int .i64 0, .bool false, .int .i64 0, .int .i64 0, .int .i64 0, .slice none 0 0, .slice none 0 0, .slice none 0 0, .slice none 0 0] 38 w1 p ∧ Lay.tWorldResult.OwnIn w1 cs (resW c mv z) lo w1.heap.size ∧ w.heap.size ≤ lo ∧ Below w.heap.size w w1) := by
 have HL := yh (doneInC N cap _ x c mv z w hfa h hok hf hc hstep)
 have HX := yh hx
 have z0 := Box.at hw 0 _ rfl
 have z1 := Box.at hw 1 _ rfl
 have z2 := Box.at hw 2 _ rfl
 have z3 := Box.at hw 3 _ rfl
 have z4 := Box.at hw 4 _ rfl
 have z5 := Box.at hw 5 _ rfl
 have z6 := Box.at hw 6 _ rfl
 simp only [ga, gb, gc] at z0 z1 z2 z3 z4 z5 z6
 have s0 := Box.at hs 0 _ rfl
 have r0 := Box.at hx 0 _ rfl
 simp only [List.getElem_toArray, List.getElem_cons_zero] at s0 r0
 have zl := hw.lt
 have sl := hs.lt
 have rl := hx.lt
 clear hx hw hs h hok hf hstep hfa
 generalize resW c mv z = y at *
 go_enter_d Tryz.func136, Tryz.ntmps136
 go_wp2_with fail
 refine (uh HL).mono ?_
 rintro e w1 ⟨cs, rfl, O, hb⟩
 obtain ⟨a5, d5, a6, d6, a7, d7, a8, d8, rfl, -⟩ := open_WorldResult O.reads
 have hx := (uh HX).keep hb
 have HX1 := yh hx
 clear r0
 have r0 := Box.at hx 0 _ rfl
 have r1 := Box.at hx 1 _ rfl
 have r2 := Box.at hx 2 _ rfl
 have r3 := Box.at hx 3 _ rfl
 have r4 := Box.at hx 4 _ rfl
 have r5 := Box.at hx 5 _ rfl
 have r6 := Box.at hx 6 _ rfl
 have r7 := Box.at hx 7 _ rfl
 have r8 := Box.at hx 8 _ rfl
 simp only [ga, gb, gc] at r0 r1 r2 r3 r4 r5 r6 r7 r8
 have rf := Box.soft hx
 have HO := yh O
 have HB := yh hb
 have rl1 := hx.lt
 clear hx O hb HL HX s0 zl sl rl z0 z1 z2 z3 z4 z5 z6
 go_wp2_with fail
 go_end0
 exact ⟨rfl, [.int .i64 y.code, .bool y.moved, .int .i64 y.world.now, .int .i64 y.world.events, .int .i64 y.world.chain.epoch, .slice a5 y.world.chain.ids.length d5, .slice a6 y.world.nodes.length d6, .slice a7 y.world.msgs.length d7, .slice a8 y.world.history.length d8], w1, w.heap.size, rfl, rfl, uh HX1, uh HO, Nat.le_refl _, uh HB⟩
def steppedR (x : DWorld) (wrong c : Int) (mv : Bool) (z : DWorld) : DWorldResult := if wrong ≠ 0 then badWorld wrong else if 9999 ≤ x.events then badWorld 2 else resW c mv z
theorem steppedC (N : Nat) (cap : Array Value) (cs : List Value) (x : DWorld) (wrong c : Int) (mv : Bool) (z : DWorld) (w : World) (hfa : ∀ (a : Array Value) (W : World), (callFunc N (a ++ cap)).run Tryz.prog W = .ok (.enter N (a ++ cap)) W) (h : Lay.tWorld.Reads w cs x) (hok : wrong = 0 → WorldOK x) (hf : Fits x) (hc : -1000000000 ≤ c ∧ c ≤ 1000000000) (hwr : -1000000000 ≤ wrong ∧ wrong ≤ 1000000000)
  (hstep : wrong = 0 → ∀ W, Below w.heap.size w W → StepC w.heap.size N cap (nextW x) c mv z W) :
  Calls Tryz.prog 70 #[.agg cs.toArray, .int .i64 wrong, .func (.func N) #[] cap] w fun e w' => ∃ cs', e = .returned (.agg cs'.toArray) ∧ Lay.tWorldResult.OwnIn w' cs' (steppedR x wrong c mv z) w.heap.size w'.heap.size ∧ Below w.heap.size w w' := by
 have hmf : ∀ (fn : Fn) (first cap : Array Value) (w : World), (Instr.makeFunc fn first cap).run Tryz.prog w = .ok (.func fn first cap) w := fun _ _ _ _ => rfl
 obtain ⟨a3, d3, a4, d4, a5, d5, a6, d6, rfl, -, -, -, -⟩ := open_World h
 have nb : Below w.heap.size w (((w.alloc (.cells #[.int .i64 x.now, .int .i64 x.events, .int .i64 x.chain.epoch, .slice a3 x.chain.ids.length d3, .slice a4 x.nodes.length d4, .slice a5 x.msgs.length d5, .slice a6 x.history.length d6] 36)).alloc (.cells #[.func (.func N) #[] cap] 96)).alloc (.cells #[.int .i64 0, .bool false, .int .i64 0, .int .i64 0, .int .i64 0, .slice none 0 0, .slice none 0 0, .slice none 0 0, .slice none 0 0] 38)) := (((Below.refl _ _).alloc (Nat.le_refl _) _).alloc (by simp) _).alloc (by simp; omega) _
 have HX : Hid (Box 0 #[.int .i64 x.now, .int .i64 x.events, .int .i64 x.chain.epoch, .slice a3 x.chain.ids.length d3, .slice a4 x.nodes.length d4, .slice a5 x.msgs.length d5, .slice a6 x.history.length d6] 36 (((w.alloc (.cells #[.int .i64 x.now, .int .i64 x.events, .int .i64 x.chain.epoch, .slice a3 x.chain.ids.length d3, .slice a4 x.nodes.length d4, .slice a5 x.msgs.length d5, .slice a6 x.history.length d6] 36)).alloc (.cells #[.func (.func N) #[] cap] 96)).alloc (.cells #[.int .i64 0, .bool false, .int .i64 0, .int .i64 0, .int .i64 0, .slice none 0 0, .slice none 0 0, .slice none 0 0, .slice none 0 0] 38)) w.heap.size) := ((newBox (Nat.zero_le _)).grow _).grow _
 have HS : Hid (Box 0 #[.func (.func N) #[] cap] 96 (((w.alloc (.cells #[.int .i64 x.now, .int .i64 x.events, .int .i64 x.chain.epoch, .slice a3 x.chain.ids.length d3, .slice a4 x.nodes.length d4, .slice a5 x.msgs.length d5, .slice a6 x.history.length d6] 36)).alloc (.cells #[.func (.func N) #[] cap] 96)).alloc (.cells #[.int .i64 0, .bool false, .int .i64 0, .int .i64 0, .int .i64 0, .slice none 0 0, .slice none 0 0, .slice none 0 0, .slice none 0 0] 38)) (w.heap.size + 1)) := (newBoxAt (Nat.zero_le _) (by simp)).grow _
 have HY : Hid (Box 0 #[.int .i64 0, .bool false, .int .i64 0, .int .i64 0, .int .i64 0, .slice none 0 0, .slice none 0 0, .slice none 0 0, .slice none 0 0] 38 (((w.alloc (.cells #[.int .i64 x.now, .int .i64 x.events, .int .i64 x.chain.epoch, .slice a3 x.chain.ids.length d3, .slice a4 x.nodes.length d4, .slice a5 x.msgs.length d5, .slice a6 x.history.length d6] 36)).alloc (.cells #[.func (.func N) #[] cap] 96)).alloc (.cells #[.int .i64 0, .bool false, .int .i64 0, .int .i64 0, .int .i64 0, .slice none 0 0, .slice none 0 0, .slice none 0 0, .slice none 0 0] 38)) (w.heap.size + 1 + 1)) := newBoxAt (Nat.zero_le _) (by simp)
 have hz0 : (((w.alloc (.cells #[.int .i64 x.now, .int .i64 x.events, .int .i64 x.chain.epoch, .slice a3 x.chain.ids.length d3, .slice a4 x.nodes.length d4, .slice a5 x.msgs.length d5, .slice a6 x.history.length d6] 36)).alloc (.cells #[.func (.func N) #[] cap] 96)).alloc (.cells #[.int .i64 0, .bool false, .int .i64 0, .int .i64 0, .int .i64 0, .slice none 0 0, .slice none 0 0, .slice none 0 0, .slice none 0 0] 38)).heap.size = w.heap.size + 3 := by simp
 have HR := yh (h.later nb)
 have HRD := h
 have HB := yh nb
 clear nb h
 have HWR := yh hwr
 by_cases hw : wrong ≠ 0
 ·
  have hd : (wrong != 0) = true := by simpa using hw
  have HRS : Hid (steppedR x wrong c mv z = badWorld wrong) := if_pos hw
  have HW := yh hw
  clear hok hstep hfa hf hc hwr hw
  go_enter_defers Tryz.func70, Tryz.ntmps70
  go_upto_region 1 with fail
  generalize ((w.alloc (.cells #[.int .i64 x.now, .int .i64 x.events, .int .i64 x.chain.epoch, .slice a3 x.chain.ids.length d3, .slice a4 x.nodes.length d4, .slice a5 x.msgs.length d5, .slice a6 x.history.length d6] 36)).alloc (.cells #[.func (.func N) #[] cap] 96)).alloc (.cells #[.int .i64 0, .bool false, .int .i64 0, .int .i64 0, .int .i64 0, .slice none 0 0, .slice none 0 0, .slice none 0 0, .slice none 0 0] 38) = W0 at *
  have hy := uh HY
  have r0 := Box.at hy 0 _ rfl
  have r1 := Box.at hy 1 _ rfl
  have r2 := Box.at hy 2 _ rfl
  have r3 := Box.at hy 3 _ rfl
  have r4 := Box.at hy 4 _ rfl
  have r5 := Box.at hy 5 _ rfl
  have r6 := Box.at hy 6 _ rfl
  have r7 := Box.at hy 7 _ rfl
  have r8 := Box.at hy 8 _ rfl
  simp only [ga, gb, gc] at r0 r1 r2 r3 r4 r5 r6 r7 r8
  have rf := Box.soft hy
  have rl := hy.lt
  have hy2 := box_set9W hy (.int .i64 wrong) (.bool false) (.int .i64 0) (.int .i64 0) (.int .i64 0) (.slice none 0 0) (.slice none 0 0) (.slice none 0 0) (.slice none 0 0)
  have HQ := yh (put_bad (w.heap.size + 1 + 1) w.heap.size (w.heap.size + 1) wrong _ hy2 (uh HW))
  have HY2 := yh hy2
  have HB2 := yh (below_setAll (uh HB) (w.heap.size + 1 + 1) 0 [.int .i64 wrong, .bool false, .int .i64 0, .int .i64 0, .int .i64 0, .slice none 0 0, .slice none 0 0, .slice none 0 0, .slice none 0 0] (by omega))
  clear hy hy2 HY HB
  go_wp2_with fail
  refine leaves_cons (f := 136) (args := #[.pointer (some ⟨w.heap.size + 1 + 1, 0, none⟩), .pointer (some ⟨w.heap.size, 0, none⟩), .pointer (some ⟨w.heap.size + 1, 0, none⟩)]) (by simp) (by simp [go_sem]) ?_
  refine (uh HQ).mono ?_
  rintro e u' w2 ⟨rfl, rfl, rfl⟩
  have hy2 := uh HY2
  clear r0 r1 r2 r3 r4 r5 r6 r7 r8 rf rl
  have r0 := Box.at hy2 0 _ rfl
  have r1 := Box.at hy2 1 _ rfl
  have r2 := Box.at hy2 2 _ rfl
  have r3 := Box.at hy2 3 _ rfl
  have r4 := Box.at hy2 4 _ rfl
  have r5 := Box.at hy2 5 _ rfl
  have r6 := Box.at hy2 6 _ rfl
  have r7 := Box.at hy2 7 _ rfl
  have r8 := Box.at hy2 8 _ rfl
  simp only [ga, gb, gc] at r0 r1 r2 r3 r4 r5 r6 r7 r8
  refine ⟨.agg #[.int .i64 wrong, .bool false, .int .i64 0, .int .i64 0, .int .i64 0, .slice none 0 0, .slice none 0 0, .slice none 0 0, .slice none 0 0], ?_, ?_⟩
  ·
   simp [results, Tryz.results70, go_sem, r0, r1, r2, r3, r4, r5, r6, r7, r8]
  rw [uh HRS]
  exact ⟨[.int .i64 wrong, .bool false, .int .i64 0, .int .i64 0, .int .i64 0, .slice none 0 0, .slice none 0 0, .slice none 0 0, .slice none 0 0], rfl, own_badW (uh HWR) (uh HB2).size, uh HB2⟩
 have hw0 : wrong = 0 := by simpa using hw
 subst hw0
 by_cases he : 9999 ≤ x.events
 ·
  have hd : decide (9999 ≤ x.events) = true := by simpa using he
  have HRS : Hid (steppedR x 0 c mv z = badWorld 2) := by show steppedR x 0 c mv z = _; rw [steppedR, if_neg (by simp), if_pos he]
  clear hok hstep hfa hf hc hwr hw he
  go_enter_defers Tryz.func70, Tryz.ntmps70
  go_upto_region 1 with fail
  generalize ((w.alloc (.cells #[.int .i64 x.now, .int .i64 x.events, .int .i64 x.chain.epoch, .slice a3 x.chain.ids.length d3, .slice a4 x.nodes.length d4, .slice a5 x.msgs.length d5, .slice a6 x.history.length d6] 36)).alloc (.cells #[.func (.func N) #[] cap] 96)).alloc (.cells #[.int .i64 0, .bool false, .int .i64 0, .int .i64 0, .int .i64 0, .slice none 0 0, .slice none 0 0, .slice none 0 0, .slice none 0 0] 38) = W0 at *
  have hx1 := Box.at (uh HX) 1 _ rfl
  simp only [ga, gb, gc] at hx1
  have hxl := (uh HX).lt
  have hy := uh HY
  have r0 := Box.at hy 0 _ rfl
  have r1 := Box.at hy 1 _ rfl
  have r2 := Box.at hy 2 _ rfl
  have r3 := Box.at hy 3 _ rfl
  have r4 := Box.at hy 4 _ rfl
  have r5 := Box.at hy 5 _ rfl
  have r6 := Box.at hy 6 _ rfl
  have r7 := Box.at hy 7 _ rfl
  have r8 := Box.at hy 8 _ rfl
  simp only [ga, gb, gc] at r0 r1 r2 r3 r4 r5 r6 r7 r8
  have rf := Box.soft hy
  have rl := hy.lt
  have hy2 := box_set9W hy (.int .i64 2) (.bool false) (.int .i64 0) (.int .i64 0) (.int .i64 0) (.slice none 0 0) (.slice none 0 0) (.slice none 0 0) (.slice none 0 0)
  have HQ := yh (put_bad (w.heap.size + 1 + 1) w.heap.size (w.heap.size + 1) 2 _ hy2 (by decide))
  have HY2 := yh hy2
  have HB2 := yh (below_setAll (uh HB) (w.heap.size + 1 + 1) 0 [.int .i64 2, .bool false, .int .i64 0, .int .i64 0, .int .i64 0, .slice none 0 0, .slice none 0 0, .slice none 0 0, .slice none 0 0] (by omega))
  clear hy hy2 HY HB
  go_wp2_with fail
  refine leaves_cons (f := 136) (args := #[.pointer (some ⟨w.heap.size + 1 + 1, 0, none⟩), .pointer (some ⟨w.heap.size, 0, none⟩), .pointer (some ⟨w.heap.size + 1, 0, none⟩)]) (by simp) (by simp [go_sem]) ?_
  refine (uh HQ).mono ?_
  rintro e u' w2 ⟨rfl, rfl, rfl⟩
  have hy2 := uh HY2
  clear r0 r1 r2 r3 r4 r5 r6 r7 r8 rf rl
  have r0 := Box.at hy2 0 _ rfl
  have r1 := Box.at hy2 1 _ rfl
  have r2 := Box.at hy2 2 _ rfl
  have r3 := Box.at hy2 3 _ rfl
  have r4 := Box.at hy2 4 _ rfl
  have r5 := Box.at hy2 5 _ rfl
  have r6 := Box.at hy2 6 _ rfl
  have r7 := Box.at hy2 7 _ rfl
  have r8 := Box.at hy2 8 _ rfl
  simp only [ga, gb, gc] at r0 r1 r2 r3 r4 r5 r6 r7 r8
  refine ⟨.agg #[.int .i64 2, .bool false, .int .i64 0, .int .i64 0, .int .i64 0, .slice none 0 0, .slice none 0 0, .slice none 0 0, .slice none 0 0], ?_, ?_⟩
  ·
   simp [results, Tryz.results70, go_sem, r0, r1, r2, r3, r4, r5, r6, r7, r8]
  rw [uh HRS]
  exact ⟨[.int .i64 2, .bool false, .int .i64 0, .int .i64 0, .int .i64 0, .slice none 0 0, .slice none 0 0, .slice none 0 0, .slice none 0 0], rfl, own_badW (by decide) (uh HB2).size, uh HB2⟩
 have hd : decide (9999 ≤ x.events) = false := by simpa using he
 have HRS : Hid (steppedR x 0 c mv z = resW c mv z) := by show steppedR x 0 c mv z = _; rw [steppedR, if_neg (by simp), if_neg he]
 have HOK := yh (hok rfl)
 have HST := yh (hstep rfl)
 have HFA := yh hfa
 have HF := yh hf
 have HC := yh hc
 clear hok hstep hfa hf hc hwr hw he
 go_enter_defers Tryz.func70, Tryz.ntmps70
 go_upto_region 1 with fail
 generalize ((w.alloc (.cells #[.int .i64 x.now, .int .i64 x.events, .int .i64 x.chain.epoch, .slice a3 x.chain.ids.length d3, .slice a4 x.nodes.length d4, .slice a5 x.msgs.length d5, .slice a6 x.history.length d6] 36)).alloc (.cells #[.func (.func N) #[] cap] 96)).alloc (.cells #[.int .i64 0, .bool false, .int .i64 0, .int .i64 0, .int .i64 0, .slice none 0 0, .slice none 0 0, .slice none 0 0, .slice none 0 0] 38) = W0 at *
 have hx1 := Box.at (uh HX) 1 _ rfl
 simp only [ga, gb, gc] at hx1
 have hxl := (uh HX).lt
 have hy := uh HY
 have r0 := Box.at hy 0 _ rfl
 have r1 := Box.at hy 1 _ rfl
 have r2 := Box.at hy 2 _ rfl
 have r3 := Box.at hy 3 _ rfl
 have r4 := Box.at hy 4 _ rfl
 have r5 := Box.at hy 5 _ rfl
 have r6 := Box.at hy 6 _ rfl
 have r7 := Box.at hy 7 _ rfl
 have r8 := Box.at hy 8 _ rfl
 simp only [ga, gb, gc] at r0 r1 r2 r3 r4 r5 r6 r7 r8
 have rf := Box.soft hy
 have rl := hy.lt
 have hy2 := box_set9W hy (.int .i64 0) (.bool false) (.int .i64 0) (.int .i64 0) (.int .i64 0) (.slice none 0 0) (.slice none 0 0) (.slice none 0 0) (.slice none 0 0)
 have e1 : Ext (fun q => q = w.heap.size + 1 + 1) W0 (setAll W0 (w.heap.size + 1 + 1) 0 [.int .i64 0, .bool false, .int .i64 0, .int .i64 0, .int .i64 0, .slice none 0 0, .slice none 0 0, .slice none 0 0, .slice none 0 0]) := ext_setAll _ (Ext.refl _ _) _ _ _ rfl
 have hb2 := below_setAll (uh HB) (w.heap.size + 1 + 1) 0 [.int .i64 0, .bool false, .int .i64 0, .int .i64 0, .int .i64 0, .slice none 0 0, .slice none 0 0, .slice none 0 0, .slice none 0 0] (by omega)
 have HR2 := yh (((uh HR).liesIn.mono (Nat.le_refl _) (Nat.le_refl _)).reads)
 have HQ := yh (put_ok (w.heap.size + 1 + 1) w.heap.size (w.heap.size + 1) N cap a3 d3 a4 d4 a5 d5 a6 d6 x c mv z _ hy2 ((uh HX).ext e1 (by omega)) ((uh HS).ext e1 (by omega)) (uh HFA) (HRD.later hb2) (uh HOK) (uh HF) (uh HC) (fun W hW g lo v3 v4 v5 v6 hL => uh HST W (hb2.trans (hW.mono hb2.size)) g lo v3 v4 v5 v6 (Nat.le_trans hb2.size hL)))
 have HB2 := yh hb2
 clear hy hy2 HY HB HR HR2 HX HS HST e1 hb2 HRD
 go_wp2_with fail
 refine leaves_cons (f := 136) (args := #[.pointer (some ⟨w.heap.size + 1 + 1, 0, none⟩), .pointer (some ⟨w.heap.size, 0, none⟩), .pointer (some ⟨w.heap.size + 1, 0, none⟩)]) (by simp) (by simp [go_sem]) ?_
 refine (uh HQ).mono ?_
 rintro e u' w2 ⟨rfl, rfl, cs, w1, lo, rfl, hl, hx, O, hlo, hb⟩
 obtain ⟨a5r, d5r, a6r, d6r, a7r, d7r, a8r, d8r, rfl, -⟩ := open_WorldResult O.reads
 rw [uh HRS]
 generalize resW c mv z = y at *
 have hy2 := box_set9W hx (.int .i64 y.code) (.bool y.moved) (.int .i64 y.world.now) (.int .i64 y.world.events) (.int .i64 y.world.chain.epoch) (.slice a5r y.world.chain.ids.length d5r) (.slice a6r y.world.nodes.length d6r) (.slice a7r y.world.msgs.length d7r) (.slice a8r y.world.history.length d8r)
 clear r0 r1 r2 r3 r4 r5 r6 r7 r8 rf rl
 have r0 := Box.at hy2 0 _ rfl
 have r1 := Box.at hy2 1 _ rfl
 have r2 := Box.at hy2 2 _ rfl
 have r3 := Box.at hy2 3 _ rfl
 have r4 := Box.at hy2 4 _ rfl
 have r5 := Box.at hy2 5 _ rfl
 have r6 := Box.at hy2 6 _ rfl
 have r7 := Box.at hy2 7 _ rfl
 have r8 := Box.at hy2 8 _ rfl
 simp only [ga, gb, gc] at r0 r1 r2 r3 r4 r5 r6 r7 r8
 have e2 : Ext (fun q => q = w.heap.size + 1 + 1) w1 (setAll w1 (w.heap.size + 1 + 1) 0 [.int .i64 y.code, .bool y.moved, .int .i64 y.world.now, .int .i64 y.world.events, .int .i64 y.world.chain.epoch, .slice a5r y.world.chain.ids.length d5r, .slice a6r y.world.nodes.length d6r, .slice a7r y.world.msgs.length d7r, .slice a8r y.world.history.length d8r]) := ext_setAll _ (Ext.refl _ _) _ _ _ rfl
 have hsz := (uh HB2).size
 have hO := (O.ext e2 (fun q h1 h2 h3 => by have := size_setAll W0 (w.heap.size + 1 + 1) 0 [.int .i64 0, .bool false, .int .i64 0, .int .i64 0, .int .i64 0, .slice none 0 0, .slice none 0 0, .slice none 0 0, .slice none 0 0]; omega))
 refine ⟨.agg #[.int .i64 y.code, .bool y.moved, .int .i64 y.world.now, .int .i64 y.world.events, .int .i64 y.world.chain.epoch, .slice a5r y.world.chain.ids.length d5r, .slice a6r y.world.nodes.length d6r, .slice a7r y.world.msgs.length d7r, .slice a8r y.world.history.length d8r], ?_, ?_⟩
 ·
  simp [results, Tryz.results70, go_sem, r0, r1, r2, r3, r4, r5, r6, r7, r8]
 exact ⟨[.int .i64 y.code, .bool y.moved, .int .i64 y.world.now, .int .i64 y.world.events, .int .i64 y.world.chain.epoch, .slice a5r y.world.chain.ids.length d5r, .slice a6r y.world.nodes.length d6r, .slice a7r y.world.msgs.length d7r, .slice a8r y.world.history.length d8r], rfl, hO.mono (by omega) (Nat.le_of_eq (size_setAll _ _ _ _).symm), below_setAll ((uh HB2).trans (hb.mono hsz)) (w.heap.size + 1 + 1) 0 [.int .i64 y.code, .bool y.moved, .int .i64 y.world.now, .int .i64 y.world.events, .int .i64 y.world.chain.epoch, .slice a5r y.world.chain.ids.length d5r, .slice a6r y.world.nodes.length d6r, .slice a7r y.world.msgs.length d7r, .slice a8r y.world.history.length d8r] (by omega)⟩
theorem idFault_zero {x : DWorld} {id : Int} (h : idFaultR x id = 0) : worldFault x = 0 ∧ nodeIn x id = true := by
 unfold idFaultR at h
 split at h
 ·
  rename_i q; exact absurd h q
 rename_i q
 split at h
 ·
  simp at h
 rename_i q2
 exact ⟨by simpa using q, by simpa using q2⟩
theorem idFault_bd (x : DWorld) (id : Int) : -1000000000 ≤ idFaultR x id ∧ idFaultR x id ≤ 1000000000 := by
 have := wf_vals x
 unfold idFaultR
 split
 ·
  omega
 split <;> omega
theorem nodeIn_at {x : DWorld} {id : Int} (h : nodeIn x id = true) : ∃ k, ∃ _ : k < x.nodes.length, id = (k : Int) + 1 := by
 simp only [nodeIn, Bool.and_eq_true, decide_eq_true_eq] at h
 exact ⟨(id - 1).toNat, by omega, by omega⟩
theorem nodeOf_at {x : DWorld} {k : Nat} (hk : k < x.nodes.length) : nodeOf x ((k : Int) + 1) = x.nodes[k] := by
 have : ((k : Int) + 1 - 1).toNat = k := by omega
 rw [nodeOf, this]
 simp [List.getD, hk]
theorem askedW_eq (x : DWorld) (id : Int) : askedW x id = if idFaultR x id ≠ 0 then idFaultR x id else if 9999 ≤ x.events then 2 else 0 := by
 unfold askedW idFaultR
 by_cases h1 : worldFault x ≠ 0
 ·
  rw [if_pos h1, if_pos h1, if_pos h1]
 rw [if_neg h1, if_neg h1]
 by_cases h2 : nodeIn x id = false
 ·
  rw [if_pos h2, if_pos h2, if_pos (show ((4 : Int) ≠ 0) by omega)]
 rw [if_neg h2, if_neg h2, if_neg (show ¬ ((0 : Int) ≠ 0) by omega)]
theorem steppedR_eq (x : DWorld) (id c : Int) (mv : Bool) (z : DWorld) : steppedR x (idFaultR x id) c mv z = if askedW x id ≠ 0 then badWorld (askedW x id) else resW c mv z := by
 rw [askedW_eq, steppedR]
 by_cases h1 : idFaultR x id ≠ 0
 ·
  rw [if_pos h1, if_pos h1, if_pos h1]
 rw [if_neg h1, if_neg h1]
 by_cases h2 : 9999 ≤ x.events
 ·
  rw [if_pos h2, if_pos h2, if_pos (show ((2 : Int) ≠ 0) by omega)]
 rw [if_neg h2, if_neg h2, if_neg (show ¬ ((0 : Int) ≠ 0) by omega)]
theorem l12BadCZ (c : Int) (w : World) :
  Calls Tryz.prog 61 #[.int .i64 c] w fun e w' => e = .returned (.agg #[.int .i64 c, .bool false, .int .i64 0, .int .i64 0, .int .i64 0, .slice none 0 0, .slice none 0 0, .slice none 0 0, .slice none 0 0]) ∧ Below w.heap.size w w' := by
 have HB : Hid (∀ o, Below w.heap.size w (w.alloc o)) := fun o => (Below.refl _ _).alloc (Nat.le_refl _) o
 go_enter Tryz.func61, Tryz.ntmps61
 go_wp2_with fail
 refine bodyPost_ret (v := .agg #[.int .i64 c, .bool false, .int .i64 0, .int .i64 0, .int .i64 0, .slice none 0 0, .slice none 0 0, .slice none 0 0, .slice none 0 0]) (by simp [results, Tryz.results61, go_sem]) rfl ?_
 exact ⟨rfl, uh HB _⟩
theorem l12AskedC (a3 : Option Addr) (d3 : Nat) (a4 : Option Addr) (d4 : Nat) (a5 : Option Addr) (d5 : Nat) (a6 : Option Addr) (d6 : Nat) (x : DWorld) (id : Int) (xb : Nat) (w : World) (hX : Box 0 #[.int .i64 x.now, .int .i64 x.events, .int .i64 x.chain.epoch, .slice a3 x.chain.ids.length d3, .slice a4 x.nodes.length d4, .slice a5 x.msgs.length d5, .slice a6 x.history.length d6] 36 w xb) (h : Lay.tWorld.Reads w [.int .i64 x.now, .int .i64 x.events, .int .i64 x.chain.epoch, .slice a3 x.chain.ids.length d3, .slice a4 x.nodes.length d4, .slice a5 x.msgs.length d5, .slice a6 x.history.length d6] x) :
  Calls Tryz.prog 60 #[.pointer (some ⟨xb, 0, none⟩), .int .i64 id] w fun e w' => e = .returned (.int .i64 (askedW x id)) ∧ Below w.heap.size w w' := by
 have HX := yh hX
 have HP : Hid (askedW x id = if worldFault x ≠ 0 then worldFault x else if nodeIn x id = false then 4 else if 9999 ≤ x.events then 2 else 0) := rfl
 have HL := yh (l12FaultC a3 d3 a4 d4 a5 d5 a6 d6 x xb w hX h)
 clear hX h
 generalize askedW x id = r at *
 go_enter Tryz.func60, Tryz.ntmps60
 go_wp2_with fail
 refine (uh HL).mono ?_
 rintro e w2 ⟨rfl, hb⟩
 have hx := (uh HX).keep hb
 have HB := yh hb
 clear hb HL HX
 by_cases d1 : worldFault x ≠ 0
 ·
  have hd : (worldFault x != 0) = true := by simpa using d1
  replace HP := yh ((uh HP).trans (if_pos d1))
  clear d1 hx
  generalize worldFault x = c at *
  go_wp2_with fail
  go_ret
  exact ⟨by rw [uh HP]; rfl, uh HB⟩
 replace HP := yh ((uh HP).trans (if_neg d1))
 have hd : worldFault x = 0 := by simpa using d1
 clear d1
 rw [hd]
 clear hd
 have HL := yh (l12NodeC a3 d3 a4 d4 a5 d5 a6 d6 x id xb w2 hx)
 have z1 := Box.at hx 1 _ rfl
 simp only [ga, gb, gc] at z1
 have xl := hx.lt
 clear hx
 go_wp2_with fail
 refine (uh HL).mono ?_
 rintro e w3 ⟨rfl, h3⟩
 subst w3
 clear HL
 generalize nodeIn x id = q at *
 cases q
 ·
  replace HP := yh ((uh HP).trans (if_pos rfl))
  go_wp2_with fail
  go_ret
  exact ⟨by rw [uh HP]; rfl, uh HB⟩
 replace HP := yh ((uh HP).trans (if_neg (by simp)))
 by_cases he : 9999 ≤ x.events
 ·
  have hd : decide (9999 ≤ x.events) = true := by simpa using he
  replace HP := yh ((uh HP).trans (if_pos he))
  clear he
  go_wp2_with fail
  go_ret
  exact ⟨by rw [uh HP]; rfl, uh HB⟩
 have hd : decide (9999 ≤ x.events) = false := by simpa using he
 replace HP := yh ((uh HP).trans (if_neg he))
 clear he
 go_wp2_with fail
 go_ret
 exact ⟨by rw [uh HP]; rfl, uh HB⟩
theorem l12NextC (cs : List Value) (x : DWorld) (w : World) (h : Lay.tWorld.Reads w cs x) (hok : WorldOK x) (hf : Fits x) :
  Calls Tryz.prog 84 #[.agg cs.toArray] w fun e w' => ∃ cs', e = .returned (.agg cs'.toArray) ∧ WNew w' w.heap.size w'.heap.size cs' (nextW x) ∧ Below w.heap.size w w' := by
 obtain ⟨a3, d3, a4, d4, a5, d5, a6, d6, rfl, -, -, -, -⟩ := open_World h
 have nb : Below w.heap.size w ((w.alloc (.cells #[.int .i64 x.now, .int .i64 x.events, .int .i64 x.chain.epoch, .slice a3 x.chain.ids.length d3, .slice a4 x.nodes.length d4, .slice a5 x.msgs.length d5, .slice a6 x.history.length d6] 36)).alloc (.cells #[.int .i64 0, .int .i64 0, .int .i64 0, .slice none 0 0, .slice none 0 0, .slice none 0 0, .slice none 0 0] 36)) := ((Below.refl _ _).alloc (Nat.le_refl _) _).alloc (by simp) _
 have HX : Hid (Box 0 #[.int .i64 x.now, .int .i64 x.events, .int .i64 x.chain.epoch, .slice a3 x.chain.ids.length d3, .slice a4 x.nodes.length d4, .slice a5 x.msgs.length d5, .slice a6 x.history.length d6] 36 ((w.alloc (.cells #[.int .i64 x.now, .int .i64 x.events, .int .i64 x.chain.epoch, .slice a3 x.chain.ids.length d3, .slice a4 x.nodes.length d4, .slice a5 x.msgs.length d5, .slice a6 x.history.length d6] 36)).alloc (.cells #[.int .i64 0, .int .i64 0, .int .i64 0, .slice none 0 0, .slice none 0 0, .slice none 0 0, .slice none 0 0] 36)) w.heap.size) := (newBox (Nat.zero_le _)).grow _
 have HY : Hid (Box 0 #[.int .i64 0, .int .i64 0, .int .i64 0, .slice none 0 0, .slice none 0 0, .slice none 0 0, .slice none 0 0] 36 ((w.alloc (.cells #[.int .i64 x.now, .int .i64 x.events, .int .i64 x.chain.epoch, .slice a3 x.chain.ids.length d3, .slice a4 x.nodes.length d4, .slice a5 x.msgs.length d5, .slice a6 x.history.length d6] 36)).alloc (.cells #[.int .i64 0, .int .i64 0, .int .i64 0, .slice none 0 0, .slice none 0 0, .slice none 0 0, .slice none 0 0] 36)) (w.heap.size + 1)) := newBoxAt (Nat.zero_le _) (by simp)
 have hz0 : ((w.alloc (.cells #[.int .i64 x.now, .int .i64 x.events, .int .i64 x.chain.epoch, .slice a3 x.chain.ids.length d3, .slice a4 x.nodes.length d4, .slice a5 x.msgs.length d5, .slice a6 x.history.length d6] 36)).alloc (.cells #[.int .i64 0, .int .i64 0, .int .i64 0, .slice none 0 0, .slice none 0 0, .slice none 0 0, .slice none 0 0] 36)).heap.size = w.heap.size + 2 := by simp
 have HL := yh (l12CopyC _ x _ (h.later nb) hok hf)
 have HB := yh nb
 have HEV := yh hok.events
 clear nb h hok hf
 go_enter Tryz.func84, Tryz.ntmps84
 go_upto_region 1 with fail
 generalize ((w.alloc (.cells #[.int .i64 x.now, .int .i64 x.events, .int .i64 x.chain.epoch, .slice a3 x.chain.ids.length d3, .slice a4 x.nodes.length d4, .slice a5 x.msgs.length d5, .slice a6 x.history.length d6] 36)).alloc (.cells #[.int .i64 0, .int .i64 0, .int .i64 0, .slice none 0 0, .slice none 0 0, .slice none 0 0, .slice none 0 0] 36)) = W0 at *
 have z0 := Box.at (uh HX) 0 _ rfl
 have z1 := Box.at (uh HX) 1 _ rfl
 have z2 := Box.at (uh HX) 2 _ rfl
 have z3 := Box.at (uh HX) 3 _ rfl
 have z4 := Box.at (uh HX) 4 _ rfl
 have z5 := Box.at (uh HX) 5 _ rfl
 have z6 := Box.at (uh HX) 6 _ rfl
 simp only [ga, gb, gc] at z0 z1 z2 z3 z4 z5 z6
 have zl := (uh HX).lt
 go_wp2_with fail
 refine (uh HL).mono ?_
 rintro e W1 ⟨cs', rfl, O, hb⟩
 obtain ⟨a3w, d3w, a4w, d4w, a5w, d5w, a6w, d6w, rfl, -⟩ := open_World O.reads
 have hz1 : W0.heap.size ≤ W1.heap.size := hb.size
 have nb : Below W1.heap.size W1 (W1.alloc (.cells #[.int .i64 x.now, .int .i64 x.events, .int .i64 x.chain.epoch, .slice a3w x.chain.ids.length d3w, .slice a4w x.nodes.length d4w, .slice a5w x.msgs.length d5w, .slice a6w x.history.length d6w] 36)) := (Below.refl _ _).alloc (Nat.le_refl _) _
 have HG : Hid (Box 0 #[.int .i64 x.now, .int .i64 x.events, .int .i64 x.chain.epoch, .slice a3w x.chain.ids.length d3w, .slice a4w x.nodes.length d4w, .slice a5w x.msgs.length d5w, .slice a6w x.history.length d6w] 36 (W1.alloc (.cells #[.int .i64 x.now, .int .i64 x.events, .int .i64 x.chain.epoch, .slice a3w x.chain.ids.length d3w, .slice a4w x.nodes.length d4w, .slice a5w x.msgs.length d5w, .slice a6w x.history.length d6w] 36)) W1.heap.size) := newBox (Nat.zero_le _)
 have HO := yh (O.later nb)
 replace HY := yh (((uh HY).keep hb).keep nb)
 replace HX := yh (((uh HX).keep hb).keep nb)
 replace HB := yh ((uh HB).trans ((hb.trans (nb.mono hb.size)).mono (uh HB).size))
 have hz2 : W1.heap.size < (W1.alloc (.cells #[.int .i64 x.now, .int .i64 x.events, .int .i64 x.chain.epoch, .slice a3w x.chain.ids.length d3w, .slice a4w x.nodes.length d4w, .slice a5w x.msgs.length d5w, .slice a6w x.history.length d6w] 36)).heap.size := by simp
 clear nb O hb HL z0 z1 z2 z3 z4 z5 z6 zl
 go_upto_region 2 with fail
 generalize W1.alloc (.cells #[.int .i64 x.now, .int .i64 x.events, .int .i64 x.chain.epoch, .slice a3w x.chain.ids.length d3w, .slice a4w x.nodes.length d4w, .slice a5w x.msgs.length d5w, .slice a6w x.history.length d6w] 36) = W2 at *
 have hx := uh HX
 have hg := uh HG
 have z1 := Box.at hx 1 _ rfl
 have y1 := Box.at hg 1 _ rfl
 simp only [ga, gb, gc] at z1 y1
 have zl := hx.lt
 have yl := hg.lt
 have yf := Box.soft hg
 have hev := uh HEV
 have hg2 := Box.set hg 1 (.int .i64 (x.events + 1))
 simp only [List.setIfInBounds_toArray, List.set_cons_zero, List.set_cons_succ] at hg2
 have e1 : Ext (fun q => q = W1.heap.size) W2 (W2.setCell ⟨W1.heap.size, 1, none⟩ (.int .i64 (x.events + 1))) := (Ext.refl _ _).setCell _ _ rfl
 have hO2 := ((uh HO).ext e1 (fun k h1 h2 h3 => by omega)).count x.now (x.events + 1) (wf_World (uh HO).reads).1 (wf_of_bd (by omega))
 replace HG := yh hg2
 replace HO := yh hO2
 replace HY := yh ((uh HY).ext e1 (by omega))
 replace HB := yh ((uh HB).setCell (p := ⟨W1.heap.size, 1, none⟩) (by simp; omega) (.int .i64 (x.events + 1)))
 have hz3 : W2.heap.size ≤ (W2.setCell ⟨W1.heap.size, 1, none⟩ (.int .i64 (x.events + 1))).heap.size := by simp
 clear hx hg hg2 e1 hO2 HX
 go_upto_region 3 with fail
 generalize hW : W2.setCell ⟨W1.heap.size, 1, none⟩ (.int .i64 (x.events + 1)) = W3 at *
 clear hW y1 yf yl z1 zl hev
 have y0 := Box.at (uh HG) 0 _ rfl
 have y1 := Box.at (uh HG) 1 _ rfl
 have y2 := Box.at (uh HG) 2 _ rfl
 have y3 := Box.at (uh HG) 3 _ rfl
 have y4 := Box.at (uh HG) 4 _ rfl
 have y5 := Box.at (uh HG) 5 _ rfl
 have y6 := Box.at (uh HG) 6 _ rfl
 simp only [ga, gb, gc] at y0 y1 y2 y3 y4 y5 y6
 have yl := (uh HG).lt
 have r0 := Box.at (uh HY) 0 _ rfl
 have r1 := Box.at (uh HY) 1 _ rfl
 have r2 := Box.at (uh HY) 2 _ rfl
 have r3 := Box.at (uh HY) 3 _ rfl
 have r4 := Box.at (uh HY) 4 _ rfl
 have r5 := Box.at (uh HY) 5 _ rfl
 have r6 := Box.at (uh HY) 6 _ rfl
 simp only [ga, gb, gc] at r0 r1 r2 r3 r4 r5 r6
 have rl := (uh HY).lt
 have rf := Box.soft (uh HY)
 have e9 : Ext (fun q => q = w.heap.size + 1) W3 (setAll W3 (w.heap.size + 1) 0 [.int .i64 x.now, .int .i64 (x.events + 1), .int .i64 x.chain.epoch, .slice a3w x.chain.ids.length d3w, .slice a4w x.nodes.length d4w, .slice a5w x.msgs.length d5w, .slice a6w x.history.length d6w]) := ext_setAll _ (Ext.refl _ _) _ _ _ rfl
 have HO9 := yh (((uh HO).ext e9 (fun k h1 h2 h3 => by omega)).mono (show w.heap.size ≤ W0.heap.size by omega) (show W1.heap.size ≤ (setAll W3 (w.heap.size + 1) 0 [.int .i64 x.now, .int .i64 (x.events + 1), .int .i64 x.chain.epoch, .slice a3w x.chain.ids.length d3w, .slice a4w x.nodes.length d4w, .slice a5w x.msgs.length d5w, .slice a6w x.history.length d6w]).heap.size by rw [size_setAll]; omega))
 have HB9 := yh (below_setAll (uh HB) (w.heap.size + 1) 0 [.int .i64 x.now, .int .i64 (x.events + 1), .int .i64 x.chain.epoch, .slice a3w x.chain.ids.length d3w, .slice a4w x.nodes.length d4w, .slice a5w x.msgs.length d5w, .slice a6w x.history.length d6w] (by omega))
 clear e9 HO HG HY HB HEV
 go_wp2_with fail
 refine bodyPost_ret (v := .agg #[.int .i64 x.now, .int .i64 (x.events + 1), .int .i64 x.chain.epoch, .slice a3w x.chain.ids.length d3w, .slice a4w x.nodes.length d4w, .slice a5w x.msgs.length d5w, .slice a6w x.history.length d6w]) (by simp [results, Tryz.results84, go_sem, r0, r1, r2, r3, r4, r5, r6]) rfl ?_
 exact ⟨_, rfl, uh HO9, uh HB9⟩
theorem writes_few9 {ws : List DWrite} (h : ∀ x ∈ ws, wF x = 0) : cntAll Lay.tWrite.cnt ws ≤ 10 * ws.length := by
 induction ws with
 | nil => simp [cntAll]
 | cons x xs ih =>
  have h1 := ih fun y hy => h y (List.mem_cons_of_mem _ hy)
  have h2 : x.vec.length ≤ 3 := by
   obtain ⟨-, -, -, hk⟩ := writeFault_zero (h x (by simp))
   rcases hk with ⟨-, hv⟩ | ⟨-, hv⟩
   ·
    have := (vecFault_zero hv).1; omega
   rw [hv]; simp
  have h3 : Lay.tWrite.cnt x = x.vec.length + 4 := by
   have e : cntAll Lay.int.cnt x.vec = x.vec.length := by
    generalize x.vec = l
    induction l with
    | nil => rfl
    | cons y ys ihy => simp only [cntAll, List.length_cons, ihy]; show 1 + ys.length = _; omega
   show 1 + (1 + (cntAll Lay.int.cnt x.vec + (1 + 1))) = _
   omega
  simp only [cntAll, List.length_cons]
  omega
theorem ints_cnt (l : List Int) : cntAll Lay.int.cnt l = l.length := by
 induction l with
 | nil => rfl
 | cons y ys ih => simp only [cntAll, List.length_cons, ih]; show 1 + ys.length = _; omega
structure FewW (y : DWorld) : Prop where
 ids : y.chain.ids.length ≤ 1000
 len : y.nodes.length ≤ 1000
 nodes : ∀ n ∈ y.nodes, n.writes.length ≤ 1000 ∧ ∀ v ∈ n.writes, wF v = 0
 mlen : y.msgs.length ≤ 1000
 msgs : ∀ m ∈ y.msgs, m.write.vec.length ≤ 1000
 hist : cntAll Lay.tEntry.cnt y.history ≤ 20000000
theorem nodes_cnt {ns : List DNode} (h : ∀ n ∈ ns, n.writes.length ≤ 1000 ∧ ∀ v ∈ n.writes, wF v = 0) : cntAll Lay.tNode.cnt ns ≤ 10006 * ns.length := by
 induction ns with
 | nil => simp [cntAll]
 | cons n ns ih =>
  have h1 := ih fun m hm => h m (List.mem_cons_of_mem _ hm)
  obtain ⟨h2, h3⟩ := h n (by simp)
  have h4 := writes_few9 h3
  have h5 : Lay.tNode.cnt n = cntAll Lay.tWrite.cnt n.writes + 6 := by
   show 1 + (1 + (1 + (1 + (cntAll Lay.tWrite.cnt n.writes + (1 + 1))))) = _
   omega
  simp only [cntAll, List.length_cons]
  omega
theorem msg_vec9 {x : DMsg} (h : msgFault x = 0) : x.write.vec.length ≤ 3 := by
 unfold msgFault at h
 split at h
 ·
  simp at h
 rename_i h1
 split at h
 ·
  simp at h
 split at h
 ·
  rename_i h3
  have h4 : noW x.write := Decidable.byContradiction fun q => h1 (Or.inr (Or.inr ⟨h3, q⟩))
  have := h4.2.2.2.2
  omega
 obtain ⟨-, -, -, hk⟩ := writeFault_zero h
 rcases hk with ⟨-, hv⟩ | ⟨-, hv⟩
 ·
  have := (vecFault_zero hv).1; omega
 rw [hv]; simp
theorem msgs_cnt {ms : List DMsg} (h : ∀ m ∈ ms, m.write.vec.length ≤ 1000) : cntAll Lay.tMsg.cnt ms ≤ 1009 * ms.length := by
 induction ms with
 | nil => simp [cntAll]
 | cons m ms ih =>
  have h1 := ih fun q hq => h q (List.mem_cons_of_mem _ hq)
  have h2 := h m (by simp)
  have h5 : Lay.tMsg.cnt m = m.write.vec.length + 9 := by
   show 1 + (1 + (1 + (1 + (1 + (1 + (1 + (cntAll Lay.int.cnt m.write.vec + (1 + 1)))))))) = _
   rw [ints_cnt]
   omega
  simp only [cntAll, List.length_cons]
  omega
theorem hits_cnt (hs : List DHit) : cntAll Lay.tHit.cnt hs = 2 * hs.length := by
 induction hs with
 | nil => rfl
 | cons y ys ih => simp only [cntAll, List.length_cons, ih]; show 1 + 1 + 2 * ys.length = _; omega
theorem entries_cnt (es : List DEntry) : cntAll Lay.tEntry.cnt es ≤ 8 * es.length + 2 * cntAll Lay.tEntry.sz es := by
 induction es with
 | nil => simp [cntAll]
 | cons e es ih =>
  have h1 : Lay.tEntry.cnt e = 8 + e.query.length + e.vec.length + 2 * e.hits.length := by
   show 1 + (1 + (1 + (1 + (cntAll Lay.int.cnt e.query + (1 + (1 + (1 + (1 + (cntAll Lay.int.cnt e.vec + cntAll Lay.tHit.cnt e.hits))))))))) = _
   rw [ints_cnt, ints_cnt, hits_cnt]
   omega
  have h2 : e.query.length + e.vec.length + e.hits.length ≤ Lay.tEntry.sz e := by
   show _ ≤ 0 + (0 + (0 + (0 + ((e.query.length + cntAll Lay.int.sz e.query) + (0 + (0 + (0 + (0 + ((e.vec.length + cntAll Lay.int.sz e.vec) + (e.hits.length + cntAll Lay.tHit.sz e.hits))))))))))
   omega
  simp only [cntAll, List.length_cons]
  omega
theorem few_of_ok {x : DWorld} (h : WorldOK x) (hs : Lay.tWorld.sz x ≤ 1048576) : FewW x := by
 have hx : Lay.tWorld.sz x = 0 + (0 + ((0 + (x.chain.ids.length + cntAll Lay.int.sz x.chain.ids)) + ((x.nodes.length + cntAll Lay.tNode.sz x.nodes) + ((x.msgs.length + cntAll Lay.tMsg.sz x.msgs) + (x.history.length + cntAll Lay.tEntry.sz x.history))))) := rfl
 have h1 := (chainFault_zero h.chain).len
 have h2 := entries_cnt x.history
 refine ⟨by omega, by have := h.some; omega, fun n hn => ?_, by have := (netFault_zero h.net).1; omega, fun m hm => ?_, by omega⟩
 ·
  obtain ⟨k, hk, rfl⟩ := List.getElem_of_mem hn
  have hok := nodeFault_zero (h.nodes k hk).1
  exact ⟨by have := hok.len; omega, hok.ws⟩
 have := msg_vec9 ((netFault_zero h.net).2 m hm)
 omega
theorem few_vcnt {y : DWorldResult} (h : FewW y.world) : Lay.tWorldResult.vcnt y ≤ 100000000 := by
 rw [vcnt_WorldResult, vcnt_World, vcnt_Chain]
 show cntAll Lay.int.cnt y.world.chain.ids + cntAll Lay.tNode.cnt y.world.nodes + cntAll Lay.tMsg.cnt y.world.msgs + cntAll Lay.tEntry.cnt y.world.history ≤ 100000000
 rw [ints_cnt]
 have h1 := nodes_cnt h.nodes
 have h2 := msgs_cnt h.msgs
 have h3 := h.ids
 have h4 := h.len
 have h5 := h.mlen
 have h6 := h.hist
 omega
theorem badW_few (c : Int) : Lay.tWorldResult.vcnt (badWorld c) ≤ 100000000 := few_vcnt ⟨by simp [badWorld, noWorld, noChain], by simp [badWorld, noWorld], by simp [badWorld, noWorld], by simp [badWorld, noWorld], by simp [badWorld, noWorld], by simp [badWorld, noWorld, cntAll]⟩
def instP (ep : Int) (zs : List Int) (n : DNode) : DNode := if n.up = true ∧ n.id ∈ zs then ⟨n.id, n.up, ep, n.lease, n.writes, n.sure, n.clean⟩ else n
def instPW (y : DWorld) (zs : List Int) : DWorld := ⟨y.now, y.events, y.chain, y.nodes.map (instP y.chain.epoch zs), y.msgs, y.history⟩
def withChain (y : DWorld) (c : DChain) : DWorld := ⟨y.now, y.events, c, y.nodes, y.msgs, y.history⟩
def grantN (n : DNode) (ep : Int) : DNode := ⟨n.id, n.up, ep, n.lease, n.writes, n.sure, n.clean⟩
theorem instP_nil (ep : Int) (n : DNode) : instP ep [] n = n := if_neg (fun q => by simp at q)
theorem instPW_nil (y : DWorld) : instPW y [] = y := by
 have : y.nodes.map (instP y.chain.epoch []) = y.nodes := by
  have h : instP y.chain.epoch [] = id := funext (instP_nil _)
  rw [h, List.map_id]
 simp only [instPW, this]
theorem instP_up (ep : Int) (zs : List Int) (n : DNode) : (instP ep zs n).up = n.up ∧ (instP ep zs n).id = n.id ∧ (instP ep zs n).lease = n.lease ∧ (instP ep zs n).writes = n.writes ∧ ((instP ep zs n).epoch = n.epoch ∨ (instP ep zs n).epoch = ep) := by
 unfold instP
 split
 ·
  exact ⟨rfl, rfl, rfl, rfl, Or.inr rfl⟩
 exact ⟨rfl, rfl, rfl, rfl, Or.inl rfl⟩
theorem inst_set {ep : Int} {zs : List Int} {ns : List DNode} {k : Nat} (hk : k < ns.length) (hid : ∀ i (h : i < ns.length), ns[i].id = (i : Int) + 1) (hup : ns[k].up = true) :
  (ns.map (instP ep zs)).set k (grantN (instP ep zs ns[k]) ep) = ns.map (instP ep (zs ++ [(k : Int) + 1])) := by
 apply List.ext_getElem
 ·
  simp
 intro i h1 h2
 simp only [List.length_map] at h2
 rw [List.getElem_set]
 simp only [List.getElem_map]
 by_cases e : k = i
 ·
  subst e
  rw [if_pos rfl]
  have hi := hid k hk
  have hr : instP ep (zs ++ [(k : Int) + 1]) ns[k] = grantN ns[k] ep := if_pos ⟨hup, by rw [hi]; simp⟩
  rw [hr]
  unfold instP
  split <;> rfl
 rw [if_neg e]
 have hi := hid i h2
 have hne : ns[i].id ≠ (k : Int) + 1 := by rw [hi]; omega
 unfold instP
 simp only [List.mem_append, List.mem_singleton, hne, or_false]
theorem inst_skip {ep : Int} {zs : List Int} {ns : List DNode} {k : Nat} (hk : k < ns.length) (hid : ∀ i (h : i < ns.length), ns[i].id = (i : Int) + 1) (hup : ns[k].up = false) :
  ns.map (instP ep zs) = ns.map (instP ep (zs ++ [(k : Int) + 1])) := by
 apply List.ext_getElem
 ·
  simp
 intro i h1 h2
 simp only [List.length_map] at h2
 simp only [List.getElem_map]
 by_cases e : k = i
 ·
  subst e
  unfold instP
  simp [hup]
 have hi := hid i h2
 have hne : ns[i].id ≠ (k : Int) + 1 := by rw [hi]; omega
 unfold instP
 simp only [List.mem_append, List.mem_singleton, hne, or_false]
theorem instPW_set {y : DWorld} {zs : List Int} {k : Nat} (hk : k < y.nodes.length) (hid : ∀ i (h : i < y.nodes.length), y.nodes[i].id = (i : Int) + 1) (hup : y.nodes[k].up = true) :
  setN (instPW y zs) k (grantN (instP y.chain.epoch zs y.nodes[k]) y.chain.epoch) = instPW y (zs ++ [(k : Int) + 1]) := by
 simp only [setN, instPW]
 rw [inst_set hk hid hup]
theorem instPW_skip {y : DWorld} {zs : List Int} {k : Nat} (hk : k < y.nodes.length) (hid : ∀ i (h : i < y.nodes.length), y.nodes[i].id = (i : Int) + 1) (hup : y.nodes[k].up = false) :
  instPW y zs = instPW y (zs ++ [(k : Int) + 1]) := by
 simp only [instPW]
 rw [← inst_skip hk hid hup]
theorem few_inst {y : DWorld} {zs : List Int} (h : FewW y) : FewW (instPW y zs) := by
 refine ⟨h.ids, by show (y.nodes.map _).length ≤ _; rw [List.length_map]; exact h.len, fun n hn => ?_, h.mlen, h.msgs, h.hist⟩
 obtain ⟨m, hm, rfl⟩ := List.mem_map.1 hn
 rw [(instP_up _ _ m).2.2.2.1]
 exact h.nodes m hm
theorem asked_zero {x : DWorld} {id : Int} (h : askedW x id = 0) : worldFault x = 0 ∧ nodeIn x id = true := by
 rw [askedW_eq] at h
 by_cases q : idFaultR x id ≠ 0
 ·
  rw [if_pos q] at h
  exact absurd h q
 exact idFault_zero (by simpa using q)
theorem asked_bd (x : DWorld) (id : Int) : -1000000000 ≤ askedW x id ∧ askedW x id ≤ 1000000000 := by
 have := idFault_bd x id
 rw [askedW_eq]
 split
 ·
  exact this
 split <;> omega
def leasedB (x : DWorld) (id : Int) : Bool := (nodeOf x id).up && decide (x.now ≤ (nodeOf x id).lease)
def removeC (y : DWorld) (id : Int) : Int := if (cutR y.chain id).code ≠ 0 then (cutR y.chain id).code else if leasedB y id = true then 9 else 0
def removed (y : DWorld) (id : Int) : DWorld := instPW (withChain y (cutR y.chain id).chain) (cutR y.chain id).chain.ids
def removeWR (x : DWorld) (id : Int) : DWorldResult :=
 if askedW x id ≠ 0 then badWorld (askedW x id) else if (cutR x.chain id).code ≠ 0 then badWorld (cutR x.chain id).code else if leasedB x id = true then badWorld 9 else ⟨0, true, removed (nextW x) id⟩
theorem cutR_bd (c : DChain) (id : Int) : -1000000000 ≤ (cutR c id).code ∧ (cutR c id).code ≤ 1000000000 := by
 have := chainFault_bd c
 unfold cutR
 split
 ·
  split
  ·
   simp [badChain]
  split
  ·
   simp [badChain]
  split
  ·
   simp [badChain]
  simp
 simpa [badChain] using this
theorem cutR_ok {c : DChain} {id : Int} (hc : chainFault c = 0) (h : (cutR c id).code = 0) : (0 ≤ (cutR c id).chain.epoch ∧ (cutR c id).chain.epoch ≤ 999) ∧ (∀ z ∈ (cutR c id).chain.ids, z ∈ c.ids) ∧ (cutR c id).chain.ids.length ≤ 1000 := by
 have hk := chainFault_zero hc
 unfold cutR at h ⊢
 rw [if_pos hc] at h ⊢
 split at h
 ·
  simp [badChain] at h
 rename_i q1
 rw [if_neg q1]
 split at h
 ·
  simp [badChain] at h
 rename_i q2
 rw [if_neg q2]
 split at h
 ·
  simp [badChain] at h
 rename_i q3
 rw [if_neg q3]
 refine ⟨?_, fun z hz => ?_, ?_⟩
 ·
  show 0 ≤ c.epoch + 1 ∧ c.epoch + 1 ≤ 999
  have := hk.epoch
  omega
 ·
  exact (List.mem_filter.1 hz).1
 have h2 := hk.len
 have h3 : (List.filter (fun z => z != id) c.ids).length ≤ c.ids.length := List.length_filter_le _ _
 show (List.filter (fun z => z != id) c.ids).length ≤ 1000
 omega
theorem removeC_bd (y : DWorld) (id : Int) : -1000000000 ≤ removeC y id ∧ removeC y id ≤ 1000000000 := by
 have := cutR_bd y.chain id
 unfold removeC
 split
 ·
  exact this
 split <;> omega
theorem removeW_eq (x : DWorld) (id : Int) : steppedR x (idFaultR x id) (removeC (nextW x) id) true (removed (nextW x) id) = removeWR x id := by
 rw [steppedR_eq, removeWR]
 by_cases h : askedW x id ≠ 0
 ·
  rw [if_pos h, if_pos h]
 rw [if_neg h, if_neg h, resW]
 have e1 : removeC (nextW x) id = removeC x id := rfl
 rw [e1]
 by_cases h2 : (cutR x.chain id).code ≠ 0
 ·
  have e2 : removeC x id = (cutR x.chain id).code := if_pos h2
  rw [e2, if_pos h2, if_neg h2]
 by_cases h3 : leasedB x id = true
 ·
  have e2 : removeC x id = 9 := by rw [removeC, if_neg h2, if_pos h3]
  rw [e2, if_neg h2, if_pos h3, if_neg (by decide)]
 have e2 : removeC x id = 0 := by rw [removeC, if_neg h2, if_neg h3]
 rw [e2, if_neg h2, if_neg h3, if_pos rfl]
theorem removeWR_few {x : DWorld} {id : Int} (hs : Lay.tWorld.sz x ≤ 1048576) : Lay.tWorldResult.vcnt (removeWR x id) ≤ 100000000 := by
 unfold removeWR
 split
 ·
  exact badW_few _
 rename_i q
 obtain ⟨hwf, -⟩ := asked_zero (by simpa using q)
 have hok := worldFault_zero hwf
 have hF := few_of_ok hok hs
 split
 ·
  exact badW_few _
 rename_i q2
 split
 ·
  exact badW_few _
 have h3 := (cutR_ok hok.chain (by simpa using q2)).2.2
 exact few_vcnt (few_inst ⟨h3, hF.len, hF.nodes, hF.mlen, hF.msgs, hF.hist⟩)
theorem own_chainR_parts {w : World} {cs : List Value} {r : DChainResult} {lo hi : Nat} (h : Lay.tChainResult.OwnIn w cs r lo hi) : ∃ (a : Option Addr) (m d : Nat), cs = [.int .i64 r.code, .int .i64 r.chain.epoch, .slice a m d] ∧ m = r.chain.ids.length ∧ (Lay.sl Lay.int).OwnIn w [.slice a m d] r.chain.ids lo hi ∧ (Lit.int .i64 r.chain.epoch).wf = true := by
 obtain ⟨bl, O, hb⟩ := h
 obtain ⟨a, d, g, rfl, rfl, Oc, -⟩ := own_ChainResult O
 obtain ⟨a', d', g', hq, rfl, Oi, hw⟩ := own_Chain Oc
 simp only [List.cons.injEq, Value.slice.injEq, true_and, and_true] at hq
 obtain ⟨rfl, rfl⟩ := hq
 exact ⟨a, _, d, rfl, rfl, ⟨_, Oi, hb⟩, hw⟩
def instJ (ep : Int) (zs : List Int) (j : Nat) (n : DNode) : DNode := if n.id ≤ (j : Int) then instP ep zs n else n
def instJW (y : DWorld) (j : Nat) : DWorld := ⟨y.now, y.events, y.chain, y.nodes.map (instJ y.chain.epoch y.chain.ids j), y.msgs, y.history⟩
theorem instJ_parts (ep : Int) (zs : List Int) (j : Nat) (n : DNode) (h : n.id = (j : Int) + 1) : instJ ep zs j n = n := if_neg (by omega)
theorem instJW_zero {y : DWorld} (hid : ∀ i (h : i < y.nodes.length), y.nodes[i].id = (i : Int) + 1) : instJW y 0 = y := by
 have : y.nodes.map (instJ y.chain.epoch y.chain.ids 0) = y.nodes := by
  apply List.ext_getElem
  ·
   simp
  intro i h1 h2
  have := hid i h2
  simp only [List.getElem_map]
  exact if_neg (by rw [this]; omega)
 simp only [instJW, this]
theorem instJW_all {y : DWorld} (hid : ∀ i (h : i < y.nodes.length), y.nodes[i].id = (i : Int) + 1) : instJW y y.nodes.length = instPW y y.chain.ids := by
 have : y.nodes.map (instJ y.chain.epoch y.chain.ids y.nodes.length) = y.nodes.map (instP y.chain.epoch y.chain.ids) := by
  apply List.ext_getElem
  ·
   simp
  intro i h1 h2
  simp only [List.length_map] at h2
  have := hid i h2
  simp only [List.getElem_map]
  exact if_pos (by rw [this]; omega)
 simp only [instJW, instPW, this]
theorem instJW_set {y : DWorld} {j : Nat} (hj : j < y.nodes.length) (hid : ∀ i (h : i < y.nodes.length), y.nodes[i].id = (i : Int) + 1) (hup : y.nodes[j].up = true) (hin : y.nodes[j].id ∈ y.chain.ids) :
  setN (instJW y j) j (grantN y.nodes[j] y.chain.epoch) = instJW y (j + 1) := by
 simp only [setN, instJW]
 congr 1
 apply List.ext_getElem
 ·
  simp
 intro i h1 h2
 simp only [List.length_map] at h2
 have hi := hid i h2
 rw [List.getElem_set]
 simp only [List.getElem_map]
 by_cases e : j = i
 ·
  subst e
  rw [if_pos rfl]
  have a : instJ y.chain.epoch y.chain.ids (j + 1) y.nodes[j] = instP y.chain.epoch y.chain.ids y.nodes[j] := if_pos (by rw [hi]; omega)
  rw [a]
  exact (if_pos ⟨hup, hin⟩).symm
 rw [if_neg e]
 unfold instJ
 by_cases q : i < j
 ·
  rw [if_pos (by rw [hi]; omega), if_pos (by rw [hi]; omega)]
 rw [if_neg (by rw [hi]; omega), if_neg (by rw [hi]; omega)]
theorem instJW_skip {y : DWorld} {j : Nat} (hj : j < y.nodes.length) (hid : ∀ i (h : i < y.nodes.length), y.nodes[i].id = (i : Int) + 1) (hno : ¬ (y.nodes[j].up = true ∧ y.nodes[j].id ∈ y.chain.ids)) :
  instJW y j = instJW y (j + 1) := by
 simp only [instJW]
 congr 1
 apply List.ext_getElem
 ·
  simp
 intro i h1 h2
 simp only [List.length_map] at h2
 have hi := hid i h2
 simp only [List.getElem_map]
 unfold instJ
 by_cases e : j = i
 ·
  subst e
  rw [if_neg (by rw [hi]; omega), if_pos (by rw [hi]; omega)]
  exact (if_neg hno).symm
 by_cases q : i < j
 ·
  rw [if_pos (by rw [hi]; omega), if_pos (by rw [hi]; omega)]
 rw [if_neg (by rw [hi]; omega), if_neg (by rw [hi]; omega)]
theorem l13InstallC (g lo hi : Nat) (G : Nat → Prop) (ac : Option Addr) (dc : Nat) (e0 : Int) (v30 v4 v5 v6 : Value) (y : DWorld) (W : World) (hg : Box 0 #[.int .i64 y.now, .int .i64 y.events, .int .i64 e0, v30, v4, v5, v6] 36 W g) (hlo : lo ≤ g) (hGg : G g) (hO : WSt W lo hi G [.int .i64 y.now, .int .i64 y.events, .int .i64 y.chain.epoch, .slice ac y.chain.ids.length dc, v4, v5, v6] y)
  (h1 : 1 ≤ y.nodes.length) (h5 : y.nodes.length ≤ 5) (hid : ∀ i (h : i < y.nodes.length), y.nodes[i].id = (i : Int) + 1) :
  Calls Tryz.prog 89 #[.pointer (some ⟨g, 0, none⟩), .agg #[.int .i64 y.chain.epoch, .slice ac y.chain.ids.length dc]] W fun e w' => e = .returned (.tuple #[]) ∧ Box 0 #[.int .i64 y.now, .int .i64 y.events, .int .i64 y.chain.epoch, .slice ac y.chain.ids.length dc, v4, v5, v6] 36 w' g ∧ WSt w' lo hi G [.int .i64 y.now, .int .i64 y.events, .int .i64 y.chain.epoch, .slice ac y.chain.ids.length dc, v4, v5, v6] (instPW y y.chain.ids) ∧ Ext (fun q => lo ≤ q) W w' := by
 obtain ⟨b, off, d4, _, _, rfl, hb1, hbh, hb2, hbG, -, -, -, -, -⟩ := wst_upd hO (show 0 < y.nodes.length by omega)
 have nb : Below W.heap.size W (W.alloc (.cells #[.int .i64 y.chain.epoch, .slice ac y.chain.ids.length dc] 31)) := (Below.refl _ _).alloc (Nat.le_refl _) _
 have hCB : Box 0 #[.int .i64 y.chain.epoch, .slice ac y.chain.ids.length dc] 31 (W.alloc (.cells #[.int .i64 y.chain.epoch, .slice ac y.chain.ids.length dc] 31)) W.heap.size := newBox (Nat.zero_le _)
 have hgl := hg.lt
 have HG := yh (hg.keep nb)
 have HO := yh (hO.later nb)
 have HX : Hid (Ext (fun q => lo ≤ q) W (W.alloc (.cells #[.int .i64 y.chain.epoch, .slice ac y.chain.ids.length dc] 31))) := yh (ext_of_below nb _)
 have HCB := yh hCB
 have HID := yh hid
 have HLO : Hid (lo ≤ b) := hb1
 have HGG := yh hGg
 have hcb : W.heap.size ≠ b := by omega
 have hgb : g ≠ b := fun e => hbG (e ▸ hGg)
 have hgc : g ≠ W.heap.size := by omega
 clear hid nb hCB hg hO hGg hbG
 go_enter Tryz.func89, Tryz.ntmps89
 go_upto_region 1 with fail
 generalize W.alloc (.cells #[.int .i64 y.chain.epoch, .slice ac y.chain.ids.length dc] 31) = W1 at *
 have hcw : W.heap.size < W1.heap.size := (uh HCB).lt
 have c0 := Box.at (uh HCB) 0 _ rfl
 have c1 := Box.at (uh HCB) 1 _ rfl
 have g2 := Box.at (uh HG) 2 _ rfl
 have g3 := Box.at (uh HG) 3 _ rfl
 simp only [ga, gb, gc] at c0 c1 g2 g3
 have cl := (uh HCB).lt
 have gl := (uh HG).lt
 have gf := Box.soft (uh HG)
 have hg9 := Box.set (Box.set (uh HG) 2 (.int .i64 y.chain.epoch)) 3 (.slice ac y.chain.ids.length dc)
 simp only [List.setIfInBounds_toArray, List.set_cons_zero, List.set_cons_succ] at hg9
 have e9 : Ext (fun q => q = g) W1 ((W1.setCell ⟨g, 2, none⟩ (.int .i64 y.chain.epoch)).setCell ⟨g, 3, none⟩ (.slice ac y.chain.ids.length dc)) := ((Ext.refl (fun q => q = g) W1).setCell ⟨g, 2, none⟩ (.int .i64 y.chain.epoch) rfl).setCell ⟨g, 3, none⟩ (.slice ac y.chain.ids.length dc) rfl
 replace HCB := yh ((uh HCB).ext e9 (fun e => hgc e.symm))
 replace HO := yh ((uh HO).ext e9 (fun k h1 h2 h3 => h2 (h3 ▸ uh HGG)))
 replace HX := yh ((uh HX).trans (e9.mono (fun q _ e => by omega)))
 replace HG := yh hg9
 have hz9 : ((W1.setCell ⟨g, 2, none⟩ (.int .i64 y.chain.epoch)).setCell ⟨g, 3, none⟩ (.slice ac y.chain.ids.length dc)).heap.size = W1.heap.size := by simp
 clear hg9 e9
 go_upto_region 2 with fail
 generalize hWW : (W1.setCell ⟨g, 2, none⟩ (.int .i64 y.chain.epoch)).setCell ⟨g, 3, none⟩ (.slice ac y.chain.ids.length dc) = W2 at *
 clear hWW c0 c1 g2 g3 cl gl gf
 go_wp2_with fail
 go_loopw [4] (fun i wr => ∃ j : Nat, j ≤ y.nodes.length ∧ i = .int .i64 j ∧ Box 0 #[.int .i64 y.now, .int .i64 y.events, .int .i64 y.chain.epoch, .slice ac y.chain.ids.length dc, .slice (some ⟨b, off, none⟩) y.nodes.length d4, v5, v6] 36 wr g ∧ WSt wr lo hi G [.int .i64 y.now, .int .i64 y.events, .int .i64 y.chain.epoch, .slice ac y.chain.ids.length dc, .slice (some ⟨b, off, none⟩) y.nodes.length d4, v5, v6] (instJW y j) ∧ Box 0 #[.int .i64 y.chain.epoch, .slice ac y.chain.ids.length dc] 31 wr W.heap.size ∧ Ext (fun q => lo ≤ q) W wr) (fun i _ => y.nodes.length - (intOf i).toNat)
 case atStart => exact ⟨0, Nat.zero_le _, rfl, uh HG, by rw [instJW_zero (uh HID)]; exact uh HO, uh HCB, uh HX⟩
 case round =>
  clear HG HO HCB HX
  obtain ⟨j, hj, rfl, hG, hO, hCB, hX⟩ := hrel
  have HG := yh hG
  have HCB := yh hCB
  have HX := yh hX
  have HO := yh hO
  have g4 := Box.at hG 4 _ rfl
  simp only [ga, gb, gc] at g4
  have gl := hG.lt
  by_cases hlt : j < y.nodes.length
  ·
   have hdl : decide ((j : Int) < (y.nodes.length : Int)) = true := by simp; omega
   have hop := open_World hO.reads
   dsimp only [instJW] at hop
   obtain ⟨_, _, _, _, _, _, _, _, hq, RC, -, -, -⟩ := hop
   simp only [List.cons.injEq, Value.slice.injEq, and_true, true_and] at hq
   obtain ⟨⟨rfl, rfl⟩, -⟩ := hq
   obtain ⟨_, _, hq2, RI⟩ := open_Chain RC
   simp only [List.cons.injEq, Value.slice.injEq, and_true, true_and] at hq2
   obtain ⟨rfl, rfl⟩ := hq2
   have hk' : j < (instJW y j).nodes.length := by show j < (y.nodes.map _).length; rw [List.length_map]; exact hlt
   obtain ⟨b', off', d4', an, dn, e4, -, -, hb2', -, hR0, hwf, -, -, hput⟩ := wst_upd hO hk'
   simp only [Value.slice.injEq] at e4
   obtain ⟨e4a, -, rfl⟩ := e4
   simp only [Option.some.injEq, Addr.mk.injEq, and_true] at e4a
   obtain ⟨rfl, rfl⟩ := e4a
   have hmm : (instJW y j).nodes[j] = y.nodes[j] := by
    simp only [instJW, List.getElem_map]
    exact instJ_parts _ _ _ _ (uh HID j hlt)
   rw [hmm] at hput hR0 hwf
   have HSET : Hid (y.nodes[j].up = true → y.nodes[j].id ∈ y.chain.ids → setN (instJW y j) j (grantN y.nodes[j] y.chain.epoch) = instJW y (j + 1)) := fun q r => instJW_set hlt (uh HID) q r
   have HSKIP : Hid (¬ (y.nodes[j].up = true ∧ y.nodes[j].id ∈ y.chain.ids) → instJW y j = instJW y (j + 1)) := fun q => instJW_skip hlt (uh HID) q
   have c0 := Box.at hCB 0 _ rfl
   have c1 := Box.at hCB 1 _ rfl
   simp only [ga, gb, gc] at c0 c1
   generalize y.nodes[j] = m at *
   have HLA := yh (l10AtO W.heap.size 0 ac dc y.chain m.id wr ⟨c0, c1⟩ RI)
   have HPUT := yh hput
   have HWF := yh hwf
   have HRW : Hid (RowAt wr wr b (off + j * 7) 7 [.int .i64 m.id, .bool m.up, .int .i64 m.epoch, .int .i64 m.lease, .slice an m.writes.length dn, .int .i64 m.sure, .int .i64 m.clean] []) := ⟨hR0.len, hR0.cells, hR0.others, hR0.soft, hR0.lt, Ext.refl _ _⟩
   have x1 : wr.cell? ⟨b, off + j * 7 + 1, none⟩ = some (.bool m.up) := (uh HRW).cells 1 (by decide)
   have x0 : wr.cell? ⟨b, off + j * 7, none⟩ = some (.int .i64 m.id) := (uh HRW).cells 0 (by decide)
   have hki : (j : Int) < (y.nodes.length : Int) := by omega
   have HMEM := yh (mem_place y.chain.ids m.id)
   have hmp := placeC_bd y.chain.ids m.id
   clear hO hG hCB hX RC RI hR0 hput hwf hmm c0 c1
   cases hu2 : m.up
   ·
    rw [hu2] at x1
    have HO1 : Hid (WSt wr lo hi G [.int .i64 y.now, .int .i64 y.events, .int .i64 y.chain.epoch, .slice ac y.chain.ids.length dc, .slice (some ⟨b, off, none⟩) y.nodes.length d4, v5, v6] (instJW y (j + 1))) := by
     have := uh HO
     rw [uh HSKIP (fun q => by rw [hu2] at q; exact absurd q.1 (by decide))] at this
     exact this
    clear HSET HSKIP HPUT HWF HRW HO HMEM HLA
    go_wp2_with fail
    go_roundw
    case rel => exact ⟨j + 1, by omega, by go_num, uh HG, uh HO1, uh HCB, uh HX⟩
    case measure => simp [intOf]; omega
   rw [hu2] at x1
   have HU2 := yh hu2
   clear hu2
   go_wp2_with fail
   refine (uh HLA).mono ?_
   rintro e w5 ⟨rfl, h5⟩
   subst w5
   clear HLA x0 x1
   by_cases hpl : 0 ≤ placeC y.chain.ids m.id
   ·
    have hd5 : decide (0 ≤ placeC y.chain.ids m.id) = true := by simpa using hpl
    have HSS := yh (uh HSET (uh HU2) ((uh HMEM).1 (by simpa using hpl)))
    have HBW : Hid (Below wr.heap.size wr wr.drew) := (Below.refl _ _).drew
    have hwe : (Lit.int .i64 y.chain.epoch).wf = true := (wf_World (uh HO).reads).2.2
    have HWE := yh hwe
    clear HSET HSKIP HMEM HO hpl hwe
    generalize placeC y.chain.ids m.id = pp at *
    go_upto_region 6 with fail
    refine wp_region_noPanic ?_
    refine wp_region_held_drew (S := fun w' => Ext (fun q => q = b) wr w') (by kernel_rfl) ((Ext.refl _ _).drew 1) (fun zq => ?_)
    generalize wr.drew = wE at zq HBW ⊢
    refine tkH 0 zq ?_
    refine tkH 1 zq ?_
    refine tkH 2 zq ?_
    refine tkJ 3 (v := ?vc3) ?hc3 zq ?rc3
    case hc3 =>
     intro wS hSw
     have bS := (uh HG).ext hSw (fun e => hgb e)
     have q4 := Box.at bS 4 _ rfl
     simp only [ga, gb, gc] at q4
     clear bS hSw
     (try dsimp only at hSw)
     go_simp
     try with_reducible rfl
    refine tkH 4 zq ?_
    refine tkH 5 zq ?_
    refine tkJ 6 (v := ?vc6) ?hc6 zq ?rc6
    case hc6 =>
     intro wS hSw
     have bS := (uh HCB).ext hSw (fun e => hcb e)
     have q0 := Box.at bS 0 _ rfl
     simp only [List.getElem_toArray, List.getElem_cons_zero] at q0
     clear bS hSw
     (try dsimp only at hSw)
     go_simp
     try with_reducible rfl
    refine tkH 7 zq ?_
    refine tkH 8 zq ?_
    refine rdH 9 (fun K hK => ?_)
    have hR3 := (uh HRW).call (g := []) (ext_of_below (uh HBW) _) (fun _ h => h) (by simp)
    have HR3 := yh hR3
    have x2 := hR3.cells 2 (by decide)
    have f2 := hR3.soft (off + j * 7 + 2)
    simp only [List.getElem?_cons_succ, List.getElem?_cons_zero] at x2
    have bl := hR3.lt
    clear hR3
    go_simp
    refine hK.out _ _ (Ext.setCell zq ⟨b, off + j * 7 + 2, none⟩ (.int .i64 y.chain.epoch) rfl) (fun zq => ?_)
    clear hK K
    try simp only [Act.put, pz, py, px]
    refine wpAnyH_done (by kernel_rfl) ?_ _
    refine NoPanic.normal ?_
    have hR9 := (uh HR3).set 2 (.int .i64 y.chain.epoch) (by decide)
    simp only [List.set_cons_succ, List.set_cons_zero] at hR9
    have hO9 := uh HPUT _ (grantN m y.chain.epoch) rfl ⟨(uh HWF).1, uh HWE, (uh HWF).2.2.1, (uh HWF).2.2.2.1, (uh HWF).2.2.2.2⟩ ⟨hR9.len, hR9.cells, hR9.others, hR9.soft, hR9.lt, hR9.ext⟩
    rw [uh HSS] at hO9
    have HO9 := yh hO9
    have HG9 := yh ((uh HG).ext zq hgb)
    have HCB9 := yh ((uh HCB).ext zq hcb)
    have HX9 := yh ((uh HX).trans (zq.mono (fun q _ e => by have := uh HLO; rw [e]; exact this)) : Ext (fun q => lo ≤ q) W _)
    clear hO9 hR9 HR3 HPUT HWF HSS zq HG HCB HX HRW HBW x2 f2 bl g4 gl
    go_wp2_with fail
    go_roundw
    case rel => exact ⟨j + 1, by omega, by go_num, uh HG9, uh HO9, uh HCB9, uh HX9⟩
    case measure => simp [intOf]; omega
   have hd5 : decide (0 ≤ placeC y.chain.ids m.id) = false := by simpa using hpl
   have HO1 : Hid (WSt wr lo hi G [.int .i64 y.now, .int .i64 y.events, .int .i64 y.chain.epoch, .slice ac y.chain.ids.length dc, .slice (some ⟨b, off, none⟩) y.nodes.length d4, v5, v6] (instJW y (j + 1))) := by
    have := uh HO
    rw [uh HSKIP (fun q => hpl (by simpa using (uh HMEM).2 q.2))] at this
    exact this
   clear HSET HSKIP HPUT HWF HRW HO HMEM hpl
   go_wp2_with fail
   go_roundw
   case rel => exact ⟨j + 1, by omega, by go_num, uh HG, uh HO1, uh HCB, uh HX⟩
   case measure => simp [intOf]; omega
  obtain rfl : j = y.nodes.length := by omega
  have hdl : decide ((y.nodes.length : Int) < (y.nodes.length : Int)) = false := by simp
  rw [instJW_all (uh HID)] at hO
  have HO9 := yh hO
  clear hO HO hG hCB hX
  go_wp2_with fail
  refine bodyPost_end (v := .tuple #[]) (by simp [results, Tryz.results89, go_sem]) rfl ?_
  exact ⟨rfl, uh HG, uh HO9, uh HX⟩
theorem box_lowC {lo : Nat} {cs : Array Value} {T : TypeId} {W w' : World} {s B : Nat} (h : Box lo cs T W s) (hb : Below B W w') (hs : s < B) : Box lo cs T w' s := ⟨h.1, (hb.block s hs).trans h.2⟩
theorem own_intsC {w : World} {v : Value} {zs : List Int} {base : Nat} (hw : ∀ z ∈ zs, (Lit.int .i64 z).wf = true) (hn : zs.length ≤ 100000000) (h : w.ownsRow base 2 1 v zs.length (zs.map (Value.int .i64))) : (Lay.sl Lay.int).OwnIn w [v] zs base w.heap.size :=
 Lay.ownInts hw (by omega) h
theorem step_append_int {w1 : World} {base : Nat} {v : Value} {n : Nat} {xs : List Value} (hown : w1.ownsRow base 2 1 v n xs) (q : Int) {ops : Array Oper} {o : Oper} {a : Act} {K : Act → World → Prop} {Q : Exit → Act → World → Prop} {E : Prop} (hgd : o.guard = none) (s x : Operand)
  (ho : o.op = .call { callee := .builtin .append, args := #[s, x], argTypes := #[22, 22] }) (hs : a.eval s = v) (hx : a.eval x = .slice (some ⟨w1.heap.size, 0, none⟩) 1 1)
  (hn : n ≤ 100000000) (hbase : base ≤ w1.heap.size)
  (h : ∀ g cap w', w'.ownsRow base 2 1 (.slice (some ⟨g, 0, none⟩) (n + 1) cap) (n + 1) (xs ++ [.int .i64 q]) → w1.grownBy w' v.ownBlock → Below base w1 w' → g < w'.heap.size → w1.heap.size < w'.heap.size → K (a.put o.dst (.slice (some ⟨g, 0, none⟩) (n + 1) cap)) w') :
  if Region.wanted o (yielded ops a.tmps) = true then Oper.wp Tryz.prog o a (w1.alloc (.cells #[.int .i64 q] 2)) K Q else E := by
 obtain ⟨i0, hi0, hz0, hz1, hz2⟩ := info_parts info2
 refine step_append_lies _ hgd s x 22 ho base 2 i0 _ 1 8 Tryz.underlying22 hi0 hz0 hz1 hz2 rfl (by omega) v n xs hs (hown.alloc _) ⟨w1.heap.size, 0, none⟩ 1 1 [.int .i64 q] hx rfl (World.news_of_block (cs := #[.int .i64 q]) (t := 2) (fr := (0, 0)) (heap_alloc_new w1 _)) (by simp [Value.oneCell']) (by omega) (by unfold maxLen; omega) (by omega) (by simp; omega) (w1.heap.size + 1) (by simp) ?_
 intro g cap w' h2 h3 _ h5
 have hg := grown_alloc h3
 have hsz := h3.size
 simp only [World.size_alloc] at hsz
 exact h g cap w' h2 hg ((Below.refl _ _).grown hg hbase (fun j hj => (hown.lt j hj).1)) h5 (by omega)
def cutL (ids : List Int) (id : Int) : List Int := ids.filter fun z => z != id
theorem cutL_len (ids : List Int) (id : Int) : (cutL ids id).length ≤ ids.length := List.length_filter_le _ _
theorem cutL_same (ids : List Int) (id : Int) (k : Nat) (hk : k < ids.length) (h : (ids[k] != id) = false) : cutL (ids.take (k + 1)) id = cutL (ids.take k) id := by
 rw [List.take_succ_eq_append_getElem hk, cutL, List.filter_append]
 simp [cutL, h]
theorem cutL_more (ids : List Int) (id : Int) (k : Nat) (hk : k < ids.length) (h : (ids[k] != id) = true) : cutL (ids.take (k + 1)) id = cutL (ids.take k) id ++ [ids[k]] := by
 rw [List.take_succ_eq_append_getElem hk, cutL, List.filter_append]
 simp [cutL, h]
theorem l10CutC (b : Nat) (a : Option Addr) (d : Nat) (x : DChain) (id : Int) (w : World) (hX : ChainAt w b (.slice a x.ids.length d) x) (R : (Lay.sl Lay.int).Reads w [.slice a x.ids.length d] x.ids) (hn : x.ids.length ≤ 1000) (he : -1000000000 ≤ x.epoch ∧ x.epoch ≤ 1000000000) :
  Calls Tryz.prog 169 #[.pointer (some ⟨b, 0, none⟩), .int .i64 id] w fun e w' => ∃ v, e = .returned (.agg #[.int .i64 (x.epoch + 1), v]) ∧ w'.ownsRow w.heap.size 2 1 v (cutL x.ids id).length ((cutL x.ids id).map (Value.int .i64)) ∧ Below w.heap.size w w' := by
 have nb0 : Below w.heap.size w (w.alloc (.cells #[.int .i64 0, .slice none 0 0] 31)) := (Below.refl _ _).alloc (Nat.le_refl _) _
 have nb : Below w.heap.size w ((w.alloc (.cells #[.int .i64 0, .slice none 0 0] 31)).alloc (.cells #[.int .i64 (x.epoch + 1), .slice none 0 0] 31)) := nb0.alloc (by simp) _
 have bR : Box 0 #[.int .i64 0, .slice none 0 0] 31 ((w.alloc (.cells #[.int .i64 0, .slice none 0 0] 31)).alloc (.cells #[.int .i64 (x.epoch + 1), .slice none 0 0] 31)) w.heap.size := (newBox (Nat.zero_le _)).grow _
 have bC : Box 0 #[.int .i64 (x.epoch + 1), .slice none 0 0] 31 ((w.alloc (.cells #[.int .i64 0, .slice none 0 0] 31)).alloc (.cells #[.int .i64 (x.epoch + 1), .slice none 0 0] 31)) (w.heap.size + 1) := newBoxAt (Nat.zero_le _) (by simp)
 have x0 := Box.at (hX.keep nb0) 0 _ rfl
 simp only [List.getElem_toArray, List.getElem_cons_zero] at x0
 have xl := Box.lt hX
 have xl0 := Box.lt (hX.keep nb0)
 have HB := yh nb
 have HR := yh bR
 have HC := yh bC
 have HX := yh hX
 have H := yh R
 have HZ : Hid (w.heap.size + 2 ≤ ((w.alloc (.cells #[.int .i64 0, .slice none 0 0] 31)).alloc (.cells #[.int .i64 (x.epoch + 1), .slice none 0 0] 31)).heap.size) := by show w.heap.size + 2 ≤ ((w.alloc (.cells #[.int .i64 0, .slice none 0 0] 31)).alloc (.cells #[.int .i64 (x.epoch + 1), .slice none 0 0] 31)).heap.size; simp
 clear nb nb0 bR bC hX R
 go_enter Tryz.func169, Tryz.ntmps169
 go_wp2_with fail
 clear x0 xl0
 generalize (w.alloc (.cells #[.int .i64 0, .slice none 0 0] 31)).alloc (.cells #[.int .i64 (x.epoch + 1), .slice none 0 0] 31) = W at *
 go_loopw [6] (fun i wr => ∃ (k : Nat) (v : Value), k ≤ x.ids.length ∧ i = .int .i64 (k : Int) ∧ Box 0 #[.int .i64 (x.epoch + 1), v] 31 wr (w.heap.size + 1) ∧ Box 0 #[.int .i64 0, .slice none 0 0] 31 wr w.heap.size ∧ wr.ownsRow (w.heap.size + 2) 2 1 v (cutL (x.ids.take k) id).length ((cutL (x.ids.take k) id).map (Value.int .i64)) ∧ w.heap.size + 2 ≤ wr.heap.size ∧ Below w.heap.size w wr) (fun i _ => x.ids.length - (intOf i).toNat)
 case atStart => exact ⟨0, _, Nat.zero_le _, rfl, uh HC, uh HR, World.ownsRow_nil _ _ _ _, uh HZ, uh HB⟩
 case round =>
  obtain ⟨k, v, hk, rfl, hC, hR, hO, hz, hB⟩ := hrel
  clear HC HR HB HZ
  have x1 := Box.at ((uh HX).keep hB) 1 _ rfl
  simp only [ga, gb, gc] at x1
  have xlr := Box.lt ((uh HX).keep hB)
  by_cases hlt : k < x.ids.length
  ·
   have hdl : decide ((k : Int) < (x.ids.length : Int)) = true := by simp; omega
   obtain ⟨b2, off, rfl, hb2⟩ := Lay.sl_addr (uh H) (by omega)
   have zc := int_cell ((uh H).later hB) hlt
   have hb2r : b2 < wr.heap.size := by omega
   cases hq : (x.ids[k] != id)
   ·
    have HST := yh (cutL_same x.ids id k hlt hq)
    have HCr := yh hC
    have HRr := yh hR
    have HBr := yh hB
    have HOr : Hid (wr.ownsRow (w.heap.size + 2) 2 1 v (cutL (x.ids.take (k + 1)) id).length ((cutL (x.ids.take (k + 1)) id).map (Value.int .i64))) := by
     show wr.ownsRow (w.heap.size + 2) 2 1 v (cutL (x.ids.take (k + 1)) id).length ((cutL (x.ids.take (k + 1)) id).map (Value.int .i64))
     rw [uh HST]
     exact hO
    clear hC hR hB hO HST
    generalize x.ids[k] = z at *
    go_wp2_with fail
    go_roundw
    case rel => exact ⟨k + 1, _, by omega, by go_num, uh HCr, uh HRr, uh HOr, hz, uh HBr⟩
    case measure => simp [intOf]; omega
   have HST := yh (cutL_more x.ids id k hlt hq)
   have HLN : Hid ((cutL (x.ids.take k) id).length ≤ 1000) := by
    have := cutL_len (x.ids.take k) id
    have h2 : (x.ids.take k).length ≤ x.ids.length := by rw [List.length_take]; omega
    exact Nat.le_trans this (by omega)
   have HBr := yh hB
   have HX1 := yh x1
   have HZC := yh zc
   have hCD := Box.drew hC
   have hRD := Box.drew hR
   have hOD : wr.drew.ownsRow (w.heap.size + 2) 2 1 v (cutL (x.ids.take k) id).length ((cutL (x.ids.take k) id).map (Value.int .i64)) := hO
   have hDB : Below (w.heap.size + 1) wr wr.drew := (Below.refl _ _).drew
   have hzD : w.heap.size + 2 ≤ wr.drew.heap.size := hz
   clear hC hR hB hO
   generalize x.ids[k] = z at *
   go_wp2_with fail
   clear x1 zc
   refine wp_region_noPanic ?_
   refine wp_region_held_drew (S := fun w' => Below (w.heap.size + 1) wr w') (by kernel_rfl) (Below.refl _ _).drew (fun zq => ?_)
   generalize wr.drew = wD at zq hCD hRD hOD hDB hzD ⊢
   refine tkH 0 zq ?_
   refine tkH 2 zq ?_
   refine tkH 3 zq ?_
   refine tkH 4 zq ?_
   refine tkJ 5 (v := ?vu5_5) ?hu5_5 zq ?ru5_5
   case hu5_5 =>
    intro wS hSw
    have e1 : wS.cell? ⟨b, 1, none⟩ = some (.slice (some ⟨b2, off, none⟩) x.ids.length d) := (hSw.cell (p := ⟨b, 1, none⟩) (by show b < w.heap.size + 1; omega)).trans (uh HX1)
    clear hSw
    (try dsimp only at hSw)
    go_simp
    try with_reducible rfl
   refine tkH 6 zq ?_
   refine tkJ 7 (v := ?vu7_7) ?hu7_7 zq ?ru7_7
   case hu7_7 =>
    intro wS hSw
    clear hSw
    have q1 : (k : Int) < (x.ids.length : Int) := by omega
    have q2 : (0 : Int) ≤ (k : Int) := by omega
    (try dsimp only at hSw)
    go_simp
    try with_reducible rfl
   refine tkJ 8 (v := ?vu8_8) ?hu8_8 zq ?ru8_8
   case hu8_8 =>
    intro wS hSw
    have e1 : wS.cell? ⟨b2, off + k, none⟩ = some (.int .i64 z) := (hSw.cell (p := ⟨b2, off + k, none⟩) (by show b2 < w.heap.size + 1; omega)).trans (uh HZC)
    clear hSw
    (try dsimp only at hSw)
    go_simp
    try with_reducible rfl
   refine wpAnyH_ready (rs := [1, 9]) (by kernel_rfl) (by simp) ?_
   refine AllReadyH.cons (o := ⟨some 32, .load 22 (.tmp 31), 22, "l10_chain.go:82", #[⟨0, .data⟩], none⟩) rfl (fun K hK => ?ou1_9) (AllReadyH.cons (o := ⟨some 40, .buildSlice 22 1 #[(0, .tmp 39)], 22, "l10_chain.go:82", #[⟨8, .data⟩], none⟩) rfl (fun K hK => ?ou9_9) (AllReadyH.nil))
   case ou1_9 =>
    have c1 := Box.at hCD 1 _ rfl
    simp only [ga, gb, gc] at c1
    have cl := Box.lt hCD
    go_simp
    try go_wp2_with fail
    refine hK.out _ _ zq (fun zq => ?_)
    clear hK K
    try simp only [Act.put, pz, py, px]
    refine rdH 9 (fun K hK => ?_)
    have nb9 : Below wD.heap.size wD (wD.alloc (.cells #[.int .i64 z] 2)) := (Below.refl _ _).alloc (Nat.le_refl _) _
    have hC9 := hCD.keep nb9
    have hS9 := zq.trans (nb9.mono (by omega))
    go_simp
    try go_wp2_with fail
    refine hK.out _ _ hS9 (fun zq => ?_)
    clear hK K
    try simp only [Act.put, pz, py, px]
    refine rdH 10 (fun K hK => ?_)
    refine step_append_int hOD z rfl _ _ rfl rfl rfl (by have := uh HLN; omega) (by omega) ?_
    intro g cap w5 hO5 hg5 hb5 hgl hz5
    have hS5 := hDB.trans (hb5.mono (by omega))
    have hC5 := box_lowC hCD hb5 (by omega)
    have hR5 := box_lowC hRD hb5 (by omega)
    have y1 := Box.at hC5 1 _ rfl
    simp only [ga, gb, gc] at y1
    have yf := Box.soft hC5
    have yl := Box.lt hC5
    refine hK.out _ _ hS5 (fun zq => ?_)
    clear hK K
    try simp only [Act.put, pz, py, px]
    refine tkH 11 zq ?_
    refine rdH 12 (fun K hK => ?_)
    go_simp
    try go_wp2_with fail
    refine hK.out _ _ (hS5.setCell (p := ⟨w.heap.size + 1, 1, none⟩) (by simp) (.slice (some ⟨g, 0, none⟩) ((cutL (x.ids.take k) id).length + 1) cap)) (fun zq => ?_)
    clear hK K
    try simp only [Act.put, pz, py, px]
    refine wpAnyH_done (by kernel_rfl) ?_ _
    refine NoPanic.normal ?_
    have HC6 : Hid (Box 0 #[.int .i64 (x.epoch + 1), .slice (some ⟨g, 0, none⟩) ((cutL (x.ids.take k) id).length + 1) cap] 31 (w5.setCell ⟨w.heap.size + 1, 1, none⟩ (.slice (some ⟨g, 0, none⟩) ((cutL (x.ids.take k) id).length + 1) cap)) (w.heap.size + 1)) := Box.set hC5 1 (.slice (some ⟨g, 0, none⟩) ((cutL (x.ids.take k) id).length + 1) cap)
    have HR6 := yh (hR5.other ⟨w.heap.size + 1, 1, none⟩ (.slice (some ⟨g, 0, none⟩) ((cutL (x.ids.take k) id).length + 1) cap) (by simp))
    have HO6 : Hid (World.ownsRow (w5.setCell ⟨w.heap.size + 1, 1, none⟩ (.slice (some ⟨g, 0, none⟩) ((cutL (x.ids.take k) id).length + 1) cap)) (w.heap.size + 2) 2 1 (.slice (some ⟨g, 0, none⟩) ((cutL (x.ids.take k) id).length + 1) cap) (cutL (x.ids.take (k + 1)) id).length ((cutL (x.ids.take (k + 1)) id).map (Value.int .i64))) := by
     have := own_setC (a := ⟨w.heap.size + 1, 1, none⟩) hO5 (by simp) (.slice (some ⟨g, 0, none⟩) ((cutL (x.ids.take k) id).length + 1) cap)
     rw [uh HST, List.length_append, List.map_append]
     exact this
    have HB6 := yh (((uh HBr).trans ((hDB.trans (hb5.mono (by omega))).mono (by omega))).setCell (p := ⟨w.heap.size + 1, 1, none⟩) (by simp) (.slice (some ⟨g, 0, none⟩) ((cutL (x.ids.take k) id).length + 1) cap))
    clear zq hCD hRD hOD hDB hC9 nb9 hS9 hS5 hC5 hR5 hO5 hg5 hb5 c1 cl
    go_wp2_with fail
    go_roundw
    case rel => exact ⟨k + 1, _, by omega, by go_num, uh HC6, uh HR6, uh HO6, by simp; omega, uh HB6⟩
    case measure => simp [intOf]; omega
   case ou9_9 =>
    have nb9 : Below wD.heap.size wD (wD.alloc (.cells #[.int .i64 z] 2)) := (Below.refl _ _).alloc (Nat.le_refl _) _
    have hC9 := hCD.keep nb9
    have hS9 := zq.trans (nb9.mono (by omega))
    go_simp
    try go_wp2_with fail
    refine hK.out _ _ hS9 (fun zq => ?_)
    clear hK K
    try simp only [Act.put, pz, py, px]
    refine rdH 1 (fun K hK => ?_)
    have c1 := Box.at hC9 1 _ rfl
    simp only [ga, gb, gc] at c1
    have cl := Box.lt hC9
    go_simp
    try go_wp2_with fail
    refine hK.out _ _ zq (fun zq => ?_)
    clear hK K
    try simp only [Act.put, pz, py, px]
    refine rdH 10 (fun K hK => ?_)
    refine step_append_int hOD z rfl _ _ rfl rfl rfl (by have := uh HLN; omega) (by omega) ?_
    intro g cap w5 hO5 hg5 hb5 hgl hz5
    have hS5 := hDB.trans (hb5.mono (by omega))
    have hC5 := box_lowC hCD hb5 (by omega)
    have hR5 := box_lowC hRD hb5 (by omega)
    have y1 := Box.at hC5 1 _ rfl
    simp only [ga, gb, gc] at y1
    have yf := Box.soft hC5
    have yl := Box.lt hC5
    refine hK.out _ _ hS5 (fun zq => ?_)
    clear hK K
    try simp only [Act.put, pz, py, px]
    refine tkH 11 zq ?_
    refine rdH 12 (fun K hK => ?_)
    go_simp
    try go_wp2_with fail
    refine hK.out _ _ (hS5.setCell (p := ⟨w.heap.size + 1, 1, none⟩) (by simp) (.slice (some ⟨g, 0, none⟩) ((cutL (x.ids.take k) id).length + 1) cap)) (fun zq => ?_)
    clear hK K
    try simp only [Act.put, pz, py, px]
    refine wpAnyH_done (by kernel_rfl) ?_ _
    refine NoPanic.normal ?_
    have HC6 : Hid (Box 0 #[.int .i64 (x.epoch + 1), .slice (some ⟨g, 0, none⟩) ((cutL (x.ids.take k) id).length + 1) cap] 31 (w5.setCell ⟨w.heap.size + 1, 1, none⟩ (.slice (some ⟨g, 0, none⟩) ((cutL (x.ids.take k) id).length + 1) cap)) (w.heap.size + 1)) := Box.set hC5 1 (.slice (some ⟨g, 0, none⟩) ((cutL (x.ids.take k) id).length + 1) cap)
    have HR6 := yh (hR5.other ⟨w.heap.size + 1, 1, none⟩ (.slice (some ⟨g, 0, none⟩) ((cutL (x.ids.take k) id).length + 1) cap) (by simp))
    have HO6 : Hid (World.ownsRow (w5.setCell ⟨w.heap.size + 1, 1, none⟩ (.slice (some ⟨g, 0, none⟩) ((cutL (x.ids.take k) id).length + 1) cap)) (w.heap.size + 2) 2 1 (.slice (some ⟨g, 0, none⟩) ((cutL (x.ids.take k) id).length + 1) cap) (cutL (x.ids.take (k + 1)) id).length ((cutL (x.ids.take (k + 1)) id).map (Value.int .i64))) := by
     have := own_setC (a := ⟨w.heap.size + 1, 1, none⟩) hO5 (by simp) (.slice (some ⟨g, 0, none⟩) ((cutL (x.ids.take k) id).length + 1) cap)
     rw [uh HST, List.length_append, List.map_append]
     exact this
    have HB6 := yh (((uh HBr).trans ((hDB.trans (hb5.mono (by omega))).mono (by omega))).setCell (p := ⟨w.heap.size + 1, 1, none⟩) (by simp) (.slice (some ⟨g, 0, none⟩) ((cutL (x.ids.take k) id).length + 1) cap))
    clear zq hCD hRD hOD hDB hC9 nb9 hS9 hS5 hC5 hR5 hO5 hg5 hb5 c1 cl
    go_wp2_with fail
    go_roundw
    case rel => exact ⟨k + 1, _, by omega, by go_num, uh HC6, uh HR6, uh HO6, by simp; omega, uh HB6⟩
    case measure => simp [intOf]; omega
  obtain rfl : k = x.ids.length := by omega
  rw [List.take_length] at hO
  have hdl : decide ((x.ids.length : Int) < (x.ids.length : Int)) = false := by simp
  obtain ⟨a9, c9, rfl⟩ := own_shape hO
  have c0 := Box.at hC 0 _ rfl
  have c1 := Box.at hC 1 _ rfl
  have z0 := Box.at hR 0 _ rfl
  have z1 := Box.at hR 1 _ rfl
  simp only [ga, gb, gc] at c0 c1 z0 z1
  have cl := Box.lt hC
  have ff := Box.soft hR
  have l0 := Box.lt hR
  have HO6 : Hid (World.ownsRow ((wr.setCell ⟨w.heap.size, 0, none⟩ (.int .i64 (x.epoch + 1))).setCell ⟨w.heap.size, 1, none⟩ (.slice a9 (cutL x.ids id).length c9)) w.heap.size 2 1 (.slice a9 (cutL x.ids id).length c9) (cutL x.ids id).length ((cutL x.ids id).map (Value.int .i64))) := own_mono (by omega) (own_setC (a := ⟨w.heap.size, 1, none⟩) (own_setC (a := ⟨w.heap.size, 0, none⟩) hO (by simp) (.int .i64 (x.epoch + 1))) (by simp) _)
  have HB6 := yh ((hB.setCell (p := ⟨w.heap.size, 0, none⟩) (Nat.le_refl _) (.int .i64 (x.epoch + 1))).setCell (p := ⟨w.heap.size, 1, none⟩) (Nat.le_refl _) (.slice a9 (cutL x.ids id).length c9))
  clear hC hR hO hB
  go_wp2_with fail
  refine bodyPost_ret (v := .agg #[.int .i64 (x.epoch + 1), .slice a9 (cutL x.ids id).length c9]) (by simp [results, Tryz.results169, go_sem, z0, z1]) rfl ?_
  exact ⟨_, rfl, uh HO6, uh HB6⟩
theorem specCutChain (cs : List Value) (x : DChain) (id : Int) (w : World) (h : Lay.tChain.Reads w cs x) :
  Calls Tryz.prog 88 #[.agg cs.toArray, .int .i64 id] w fun e w' => ∃ cs, e = .returned (.agg cs.toArray) ∧ Lay.tChainResult.OwnIn w' cs (cutR x id) w.heap.size w'.heap.size ∧ Below w.heap.size w w' := by
 obtain ⟨a, d, rfl, R⟩ := open_Chain h
 have nb : Below w.heap.size w ((w.alloc (.cells #[.int .i64 x.epoch, .slice a x.ids.length d] 31)).alloc (.cells #[.int .i64 0, .int .i64 0, .slice none 0 0] 111)) := ((Below.refl _ _).alloc (Nat.le_refl _) _).alloc (by simp) _
 have hX : ChainAt ((w.alloc (.cells #[.int .i64 x.epoch, .slice a x.ids.length d] 31)).alloc (.cells #[.int .i64 0, .int .i64 0, .slice none 0 0] 111)) w.heap.size (.slice a x.ids.length d) x := (newBox (Nat.zero_le _)).grow _
 have bR : Box 0 #[.int .i64 0, .int .i64 0, .slice none 0 0] 111 ((w.alloc (.cells #[.int .i64 x.epoch, .slice a x.ids.length d] 31)).alloc (.cells #[.int .i64 0, .int .i64 0, .slice none 0 0] 111)) (w.heap.size + 1) := newBoxAt (Nat.zero_le _) (by simp)
 have HF := yh (l10FaultC w.heap.size a d x _ hX (R.later nb))
 have HA := yh (l10AtC w.heap.size a d x id _ hX (R.later nb))
 have H := yh (R.later nb)
 have HWF := yh (int_wf R)
 have x0 := Box.at hX 0 _ rfl
 have x1 := Box.at hX 1 _ rfl
 have z0 := Box.at bR 0 _ rfl
 have z1 := Box.at bR 1 _ rfl
 have z2 := Box.at bR 2 _ rfl
 simp only [ga, gb, gc] at x0 x1 z0 z1 z2
 have ff := Box.soft bR
 have l0 := Box.lt bR
 have xl := Box.lt hX
 have HB := yh nb
 have HX := yh hX
 have HR := yh bR
 clear h R nb hX bR
 go_enter Tryz.func88, Tryz.ntmps88
 go_wp2_with fail
 generalize (w.alloc (.cells #[.int .i64 x.epoch, .slice a x.ids.length d] 31)).alloc (.cells #[.int .i64 0, .int .i64 0, .slice none 0 0] 111) = W at *
 refine (uh HF).mono ?_
 rintro e w1 ⟨rfl, h1⟩
 subst w1
 clear HF
 by_cases hc : chainFault x = 0
 ·
  have ok := chainFault_zero hc
  have hlen := ok.len
  have hep := ok.epoch
  have HV0 : Hid (cutR x id = _) := (if_pos hc)
  rw [hc]
  clear hc ok
  go_wp2_with fail
  refine (uh HA).mono ?_
  rintro e w1 ⟨rfl, h1⟩
  subst w1
  clear HA
  by_cases h0 : placeC x.ids id < 0
  ·
   have HV : Hid (cutR x id = badChain 4) := (uh HV0).trans (if_pos h0)
   have hd0 : decide (placeC x.ids id < 0) = true := by simpa using h0
   clear HV0
   generalize placeC x.ids id = p at *
   have HB2 := yh (below_setAll (uh HB) (w.heap.size + 1) 0 [.int .i64 (4), .int .i64 0, .slice none 0 0] (by omega))
   clear HB
   go_wp2_with fail
   refine bodyPost_ret (v := .agg #[.int .i64 (4), .int .i64 0, .slice none 0 0]) (by simp [results, Tryz.results88, go_sem, z0, z1, z2]) rfl ?_
   rw [uh HV]
   exact ⟨_, rfl, own_badChain (by omega), uh HB2⟩
  have hd0 : decide (placeC x.ids id < 0) = false := by simpa using h0
  have HV1 := yh ((uh HV0).trans (if_neg h0))
  clear HV0
  generalize placeC x.ids id = p at *
  by_cases h1 : x.ids.length = 1
  ·
   have HV : Hid (cutR x id = badChain 8) := (uh HV1).trans (if_pos h1)
   have hd1 : ((x.ids.length : Int) == 1) = true := by rw [h1]; rfl
   clear HV1 h1
   have HB2 := yh (below_setAll (uh HB) (w.heap.size + 1) 0 [.int .i64 (8), .int .i64 0, .slice none 0 0] (by omega))
   clear HB
   go_wp2_with fail
   refine bodyPost_ret (v := .agg #[.int .i64 (8), .int .i64 0, .slice none 0 0]) (by simp [results, Tryz.results88, go_sem, z0, z1, z2]) rfl ?_
   rw [uh HV]
   exact ⟨_, rfl, own_badChain (by omega), uh HB2⟩
  have HV2 := yh ((uh HV1).trans (if_neg h1))
  have hd1 : ((x.ids.length : Int) == 1) = false := by rw [beq_eq_false_iff_ne]; omega
  clear HV1
  by_cases h2 : 999 ≤ x.epoch
  ·
   have HV : Hid (cutR x id = badChain 2) := (uh HV2).trans (if_pos h2)
   have hd2 : decide ((999 : Int) ≤ x.epoch) = true := by simpa using h2
   clear HV2
   have HB2 := yh (below_setAll (uh HB) (w.heap.size + 1) 0 [.int .i64 (2), .int .i64 0, .slice none 0 0] (by omega))
   clear HB
   go_wp2_with fail
   refine bodyPost_ret (v := .agg #[.int .i64 (2), .int .i64 0, .slice none 0 0]) (by simp [results, Tryz.results88, go_sem, z0, z1, z2]) rfl ?_
   rw [uh HV]
   exact ⟨_, rfl, own_badChain (by omega), uh HB2⟩
  have HV : Hid (cutR x id = ⟨0, ⟨x.epoch + 1, cutL x.ids id⟩⟩) := (uh HV2).trans (if_neg h2)
  have hd2 : decide ((999 : Int) ≤ x.epoch) = false := by simpa using h2
  have HL := yh (l10CutC w.heap.size a d x id W (uh HX) (uh H) (by omega) (by omega))
  have hcl := cutL_len x.ids id
  clear HV2 z0 z1 z2 ff l0
  go_wp2_with fail
  refine (uh HL).mono ?_
  rintro e w1 ⟨v, rfl, hO, hb⟩
  obtain ⟨a9, c9, rfl⟩ := own_shape hO
  clear HL
  have bR := (uh HR).keep hb
  have hlt := (uh HR).lt
  have z0 := Box.at bR 0 _ rfl
  have z1 := Box.at bR 1 _ rfl
  have z2 := Box.at bR 2 _ rfl
  simp only [ga, gb, gc] at z0 z1 z2
  have ff := Box.soft bR
  have l0 := Box.lt bR
  have hB1 := (uh HB).trans (hb.mono (uh HB).size)
  have HB2 := yh (below_setAll hB1 (w.heap.size + 1) 0 [.int .i64 0, .int .i64 (x.epoch + 1), .slice a9 (cutL x.ids id).length c9] (by omega))
  have hO2 : (setAll w1 (w.heap.size + 1) 0 [.int .i64 0, .int .i64 (x.epoch + 1), .slice a9 (cutL x.ids id).length c9]).ownsRow W.heap.size 2 1 (.slice a9 (cutL x.ids id).length c9) (cutL x.ids id).length ((cutL x.ids id).map (Value.int .i64)) := own_setC (a := ⟨w.heap.size + 1, 2, none⟩) (own_setC (a := ⟨w.heap.size + 1, 1, none⟩) (own_setC (a := ⟨w.heap.size + 1, 0, none⟩) hO hlt (.int .i64 0)) hlt (.int .i64 (x.epoch + 1))) hlt _
  have HO3 := yh (own_chainR (c := 0) (x := ⟨x.epoch + 1, cutL x.ids id⟩) (by decide) (wf_of_bd (by simp only; omega)) (own_intsC (zs := cutL x.ids id) (fun z hz => uh HWF z (List.mem_filter.1 hz).1) (by omega) (own_mono (b' := w.heap.size) (by omega) hO2)))
  clear bR hO hb hB1 hO2 HB HR
  go_wp2_with fail
  refine bodyPost_ret (v := .agg #[.int .i64 0, .int .i64 (x.epoch + 1), .slice a9 (cutL x.ids id).length c9]) (by simp [results, Tryz.results88, go_sem, z0, z1, z2]) rfl ?_
  rw [uh HV]
  exact ⟨_, rfl, uh HO3, uh HB2⟩
 have HV := yh (cutR_bad (id := id) hc)
 have hv := chainFault_vals x
 have hc2 : (chainFault x != 0) = true := by simpa using hc
 clear hc HA
 generalize chainFault x = f at *
 have HB2 := yh (below_setAll (uh HB) (w.heap.size + 1) 0 [.int .i64 (f), .int .i64 0, .slice none 0 0] (by omega))
 clear HB
 go_wp2_with fail
 refine bodyPost_ret (v := .agg #[.int .i64 (f), .int .i64 0, .slice none 0 0]) (by simp [results, Tryz.results88, go_sem, z0, z1, z2]) rfl ?_
 rw [uh HV]
 exact ⟨_, rfl, own_badChain (by omega), uh HB2⟩
end Go.Proofs.YtoanimpijfijgaaGreat
